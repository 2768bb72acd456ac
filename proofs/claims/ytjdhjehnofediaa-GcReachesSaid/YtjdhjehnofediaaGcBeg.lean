/- Plain mathematics: what can be reached behind a collection is all of it, in its order; what is closed holds what can be reached. Conditions: none. A slice of objects, each with a slice of integers, as an argument: opened into what it reads as, and read again behind a call that keeps what was there. Conditions: none. What the statements of gc begin with: a heap, its memory, its roots as words. Conditions: none. -/
import Derived.Test.YtjdhjehnofediaaGcCol
import Derived.Test.YtjdhjehnofediaaPost
import Derived.Test.YtjdhjehnofediaaGcHp
import Derived.Deep.Slices
import Derived.Deep.Fields
import Derived.DataShut
import Derived.Test.YtjdhjehnofediaaGcKn
namespace Go.Proofs.Ytjdhjehnofediaa
open Go Go.RowKit
section
variable {os old ex : List Ob} {h W : Nat} {met : List Nat}
theorem newF_length (h W : Nat) (os : List Ob) (met : List Nat) : (newF h W os met).length = met.length := by simp [newF]
theorem newF_get {p j : Nat} (hj : met[p]? = some j) : (newF h W os met)[p]? = some (renO h W os met (obAt os j) (obAt os j).t) := by simp [newF, hj]
theorem newF_used (z : WF W h os old) (ok : Okm os met) : used (newF h W os met) ≤ W := by
  rw [used_congr (sz_newF h W os met)]
  have := moved_used (W := W) z.fresh ok met.length z.un
  rwa [List.take_length] at this
/-- the object of a renewed word -/
theorem obj_ren (z : WF W h os old) (ok : Okm os met) {p j : Nat} (hj : met[p]? = some j) : objOf (newF h W os met ++ ex) (1 - h) W (2 * toK (1 - h) W os met j) = some p ∧ (2 * toK (1 - h) W os met j) % 2 ≠ 1 := by
  have hjm := List.mem_of_getElem? hj
  have hp := (List.getElem?_eq_some_iff.1 hj).1
  have h1 := toK_pos (1 - h) W os met j
  have h2 := toK_le' (k := 1 - h) z.fresh ok z.un z.w1 hjm
  refine ⟨?_, by omega⟩
  unfold objOf
  have e1 : toP ((2 * toK (1 - h) W os met j : Nat) : Int) = ((toK (1 - h) W os met j : Nat) : Int) := by
    unfold toP
    rw [if_pos (by omega)]
    omega
  rw [e1, toK_at ok.nd hj, ← start_pick, ← start_congr (sz_newF h W os met), ← start_append (newF h W os met) ex p (by rw [newF_length]; omega)]
  exact idxAt_of (by rw [List.length_append, newF_length]; omega)
theorem tag_ren (z : WF W h os old) (ok : Okm os met) {p j : Nat} (hj : met[p]? = some j) : tagW (newF h W os met ++ ex) p = (tagW os j).map (renW h W os met) := by
  have hp := (List.getElem?_eq_some_iff.1 hj).1
  have ho := obAt_get (ok.lt j (List.mem_of_getElem? hj))
  have hg : (newF h W os met ++ ex)[p]? = some (renO h W os met (obAt os j) (obAt os j).t) := by
    rw [List.getElem?_append_left (by rw [newF_length]; exact hp)]; exact newF_get hj
  have htl := right_bd (z.okn _ (List.mem_of_getElem? ho)).right
  rw [tagW_eq hg, tagW_eq ho]
  show (((obAt os j).ws.take (obAt os j).t).map (renW h W os met) ++ (obAt os j).ws.drop (obAt os j).t).take (obAt os j).t = _
  rw [List.take_append_of_le_length (by simp; omega), List.take_of_length_le (by simp; omega)]
theorem take_pre {m : List Nat} {r : List Nat} (e : met = m ++ r) : m = met.take m.length := by rw [e]; simp
/-- a word is met as its fellow is -/
theorem meetS_ren (z : WF W h os old) (ok : Okm os met) {q n : Nat} {m r : List Nat} (hq : q ≤ met.length) (e : meetS os h W (met.take q) n = some m) (hm : met = m ++ r) : meetS (newF h W os met ++ ex) (1 - h) W (List.range q) (renW h W os met n) = some (List.range m.length) := by
  have hlq : (met.take q).length = q := by rw [List.length_take]; omega
  rcases meetS_cases (os := os) (h := h) (W := W) (met.take q) n with a | ⟨a, b⟩ | ⟨a, j, b, c⟩ | ⟨a, j, b, c⟩
  · rw [meetS_int a] at e
    cases e
    rw [renW_int a, meetS_int a, hlq]
  · rw [meetS_bad a b] at e; cases e
  · rw [meetS_old a b c] at e
    cases e
    obtain ⟨p, hp⟩ := List.getElem?_of_mem c
    have hpq := (List.getElem?_eq_some_iff.1 hp).1
    rw [hlq] at hpq
    rw [List.getElem?_take, if_pos hpq] at hp
    obtain ⟨h1, h2⟩ := obj_ren (ex := ex) z ok hp
    rw [renW_ptr a b, meetS_old h2 h1 (List.mem_range.2 hpq), hlq]
  · rw [meetS_new a b c] at e
    cases e
    have hp : met[q]? = some j := by
      rw [hm, List.append_assoc, List.getElem?_append_right (by omega), hlq, Nat.sub_self]; rfl
    obtain ⟨h1, h2⟩ := obj_ren (ex := ex) z ok hp
    rw [renW_ptr a b, meetS_new h2 h1 (by simp), List.length_append, hlq]
    show _ = some (List.range (q + 1))
    rw [List.range_succ]
theorem meetL_ren (z : WF W h os old) (ok : Okm os met) : ∀ (ns : List Nat) {q : Nat} {m r : List Nat}, q ≤ met.length → meetL os h W (met.take q) ns = some m → met = m ++ r → meetL (newF h W os met ++ ex) (1 - h) W (List.range q) (ns.map (renW h W os met)) = some (List.range m.length)
  | [], q, m, r, hq, e, _ => by
    cases e
    rw [List.length_take, Nat.min_eq_left hq]; rfl
  | n :: ns, q, m, r, hq, e, hm => by
    unfold meetL at e
    cases e2 : meetS os h W (met.take q) n with
    | none => rw [e2] at e; cases e
    | some m2 =>
      rw [e2] at e
      obtain ⟨⟨r2, hr2⟩, _⟩ := meetL_ext (met := m2) e
      have hm2 : met = m2 ++ (r2 ++ r) := by rw [hm, hr2, List.append_assoc]
      have h1 := meetS_ren (ex := ex) z ok hq e2 hm2
      have hl2 : m2.length ≤ met.length := by rw [hm2]; simp
      have e' : meetL os h W (met.take m2.length) ns = some m := by rw [← take_pre hm2]; exact e
      have h2 := meetL_ren z ok ns hl2 e' hm
      rw [List.map_cons]
      unfold meetL
      rw [h1]
      exact h2
theorem bfs_ren (z : WF W h os old) (ok : Okm os met) : ∀ (f0 f i q : Nat), q ≤ met.length → os.length < f0 + i → met.length < f + i → bfs os h W f0 i (met.take q) = some met → (∀ p j, p < i → (met.take q)[p]? = some j → ∀ n ∈ tagW os j, Good os h W (met.take q) n) → bfs (newF h W os met ++ ex) (1 - h) W f i (List.range q) = some (List.range met.length) := by
  intro f0
  induction f0 with
  | zero =>
    intro f i q hq h0 h1 e _
    have e' : met.take q = met := by
      have : some (met.take q) = some met := e
      exact Option.some.inj this
    have hql : q = met.length := by
      have := congrArg List.length e'
      rw [List.length_take] at this
      omega
    have := ok.len
    rw [hql]
    exact bfs_end (by rw [List.length_range]; omega)
  | succ f0 ih =>
    intro f i q hq h0 h1 e hd
    have hlq : (met.take q).length = q := by rw [List.length_take]; omega
    unfold bfs at e
    cases e1 : (met.take q)[i]? with
    | none =>
      rw [e1] at e
      have e' : met.take q = met := Option.some.inj e
      have hql : q = met.length := by
        have := congrArg List.length e'
        omega
      have := List.getElem?_eq_none_iff.1 e1
      rw [hql]
      exact bfs_end (by rw [List.length_range]; omega)
    | some j =>
      rw [e1] at e
      simp only [] at e
      have hi := (List.getElem?_eq_some_iff.1 e1).1
      rw [hlq] at hi
      have hj : met[i]? = some j := by rw [List.getElem?_take, if_pos hi] at e1; exact e1
      cases e2 : meetL os h W (met.take q) (tagW os j) with
      | none => rw [e2] at e; cases e
      | some m2 =>
        rw [e2] at e
        have okq : Okm os (met.take q) := ⟨List.Nodup.sublist (List.take_sublist _ _) ok.nd, fun x hx => ok.lt x (List.mem_of_mem_take hx)⟩
        have ok2 := meetL_okm okq e2
        obtain ⟨⟨r1, hr1⟩, hg⟩ := meetL_ext e2
        have hd2 : ∀ p j', p < i + 1 → m2[p]? = some j' → ∀ n ∈ tagW os j', Good os h W m2 n := fun p j' hp hj' n hn => by
          by_cases hpi : p = i
          · have : m2[i]? = some j := by rw [hr1, List.getElem?_append_left (by omega)]; exact e1
            rw [hpi, this] at hj'
            obtain rfl := Option.some.inj hj'
            exact hg n hn
          · rw [hr1, List.getElem?_append_left (by omega)] at hj'
            exact (hd p j' (by omega) hj' n hn).mono (ext_sub hr1)
        obtain ⟨⟨r2, hr2⟩, _⟩ := bfs_ext ok2 (by omega) e hd2
        have hl2 : m2.length ≤ met.length := by rw [hr2]; simp
        have hm2 := take_pre hr2
        obtain ⟨f', rfl⟩ : ∃ f', f = f' + 1 := ⟨f - 1, by omega⟩
        rw [bfs_step (j := i) (by rw [List.getElem?_range hi]), tag_ren z ok hj, meetL_ren (ex := ex) z ok _ hq e2 hr2]
        exact ih f' (i + 1) m2.length hl2 (by omega) (by omega) (by rw [← hm2]; exact e) (by rw [← hm2]; exact hd2)
/-- behind a collection the renewed roots reach all that was moved, in its order -/
theorem reach_new (z : WF W h os old) {ns : List Nat} (e : reach os h W ns = some met) : reach (newF h W os met ++ ex) (1 - h) W (ns.map (renW h W os met)) = some (List.range met.length) := by
  have ok := reach_okm e
  unfold reach at e
  cases e2 : meetL os h W [] ns with
  | none => rw [e2] at e; cases e
  | some m2 =>
    rw [e2] at e
    obtain ⟨⟨r, hr⟩, _⟩ := bfs_ext (meetL_okm okm_nil e2) (by omega) e (fun p j hp => by omega)
    have e2' : meetL os h W (met.take 0) ns = some m2 := by rw [List.take_zero]; exact e2
    have h1 := meetL_ren (ex := ex) z ok ns (Nat.zero_le _) e2' hr
    have hl2 : m2.length ≤ met.length := by rw [hr]; simp
    unfold reach
    rw [show (List.range 0 : List Nat) = [] from rfl] at h1
    rw [h1]
    exact bfs_ren z ok (os.length + 1) _ 0 m2.length hl2 (by omega) (by rw [List.length_append, newF_length]; omega) (by rw [← take_pre hr]; exact e) (fun p j hp => by omega)
theorem needs_range (os ex : List Ob) : needs (os ++ ex) (List.range os.length) = used os := by
  unfold needs used
  congr 1
  apply List.ext_getElem
  · simp
  · intro i h1 h2
    simp only [List.length_map, List.length_range] at h1
    simp [List.getElem?_append_left h1, List.getElem?_eq_getElem h1]
/-- how much can be reached behind a collection -/
theorem live_new (z : WF W h os old) {ns : List Nat} (e : reach os h W ns = some met) : liveN (newF h W os met ++ ex) (1 - h) W (ns.map (renW h W os met)) = used (newF h W os met) ∧ checkE (newF h W os met ++ ex) (1 - h) W (ns.map (renW h W os met)) = 0 := by
  have h1 := reach_new (ex := ex) z e
  refine ⟨?_, by unfold checkE; rw [h1]⟩
  unfold liveN
  rw [h1, Option.getD_some, ← newF_length h W os met]
  exact needs_range _ _
/-- what it was ahead of it -/
theorem needs_pick {met : List Nat} (ok : Okm os met) : needs os met = used (pick os met) := by
  unfold needs used pick
  rw [List.map_map]
  congr 1
  refine List.map_congr_left fun j hj => ?_
  rw [obAt_get (ok.lt j hj)]
  rfl
theorem live_old {ns : List Nat} (e : reach os h W ns = some met) : liveN os h W ns = used (newF h W os met) := by
  unfold liveN
  rw [e, Option.getD_some, needs_pick (reach_okm e), used_congr (sz_newF h W os met)]
end
end Go.Proofs.Ytjdhjehnofediaa
namespace Go.Proofs.Ytjdhjehnofediaa
open Go Go.ChangeShapes Go.WideShapes Go.ChangeAt Go.ChangeMaps Go.RowKit Go.Deep
theorem cellsObj4 : Try.prog.cellsOf 71 = 4 := by kernel_rfl
theorem cellsSlI : Try.prog.cellsOf 23 = 1 := by kernel_rfl
/-- a slice of integers within another as it came in -/
def InnerV (W : World) (u : Value) (zs : List Int) : Prop := (u = .slice none 0 0 ∧ zs = []) ∨ ∃ a cap, u = .slice (some a) zs.length cap ∧ zs.length ≤ cap ∧ cap ≤ 9223372036854775807 ∧ (∀ (j : Nat) (z : Int), zs[j]? = some z → ∃ b off, a = ⟨b, off, none⟩ ∧ b < W.heap.size ∧ W.cell? ⟨b, off + j, none⟩ = some (.int .i64 z)) ∧ ∀ z ∈ zs, -9223372036854775808 ≤ z ∧ z ≤ 9223372036854775807
section
variable {H : Type} {enc : TypeId × Value → H} {W : World} {held : Bool}
theorem lit_rng {z : Int} (h : (Lit.int .i64 z).wf = true) : -9223372036854775808 ≤ z ∧ z ≤ 9223372036854775807 := by simpa [Lit.wf, IntKind.min, IntKind.max, IntKind.signed, IntKind.bits] using h
theorem plain_of_cell {w : World} {a : Addr} {v : Value} (h : w.cell? a = some v) : a = ⟨a.block, a.off, none⟩ := by
  have := World.cell?_spot h
  obtain ⟨b, o, s⟩ := a
  simp only at this
  subst this
  rfl
theorem inner_again {n : Nat} {u : Value} {x : DataW H × List MemPlace} (h : DataW.trod enc Try.prog W 0 (fun _ => true) held n 23 [u] = some x) :
    ∃ zs, InnerV W u zs ∧ ∀ (W' : World) (sp : Nat → Bool), Below W.heap.size W W' → (∀ q ∈ x.2, sp q.block = true) → DataW.trod enc Try.prog W' 0 sp held 2 23 [u] = some x := by
  rcases open_ints Try.underlying23 Try.underlying3 cellsInt h with ⟨hcs, hx⟩ | ⟨a, len, cap, zs, hcs, _, hl, hm, hz, hx, hcell, hwz⟩
  · simp only [List.cons.injEq, and_true] at hcs
    subst hcs hx
    refine ⟨[], .inl ⟨rfl, rfl⟩, fun W' sp _ _ => ?_⟩
    rw [DataW.trod_step]
    unfold DataW.trodStep
    rw [Try.underlying23]
    rfl
  · simp only [List.cons.injEq, and_true] at hcs
    subst hcs hx
    simp only [if_true] at hz
    have hln : (zs.take len).length = len := by simp; omega
    have hpl : ∀ j, j < zs.length → a = ⟨a.block, a.off, none⟩ ∧ a.block < W.heap.size := fun j hj => by
      have h0 := hcell 0 (by omega)
      rw [show a.add 0 = a from by simp [Addr.add]] at h0
      exact ⟨plain_of_cell h0, World.block_lt_of_cell? W _ h0⟩
    refine ⟨zs.take len, .inr ⟨a, cap, by rw [hln], by rw [hln]; exact hl, by simpa [maxLen] using hm, fun j z hj => ?_, fun z hz' => lit_rng (hwz z (List.mem_of_mem_take hz'))⟩, fun W' sp hb hq => ?_⟩
    · have hjl := (List.getElem?_eq_some_iff.1 hj).1
      rw [hln] at hjl
      obtain ⟨h1, h2⟩ := hpl j (by omega)
      refine ⟨a.block, a.off, h1, h2, ?_⟩
      have h3 := hcell j (by omega)
      rw [h1, add_plain] at h3
      rw [h3, List.getD_eq_getElem?_getD]
      rw [List.getElem?_take, if_pos hjl] at hj
      rw [hj]; rfl
    · refine shut_ints 0 Try.underlying23 Try.underlying3 cellsInt (Nat.zero_le _) hl hm ?_ (fun i hi => ?_) hwz
      · by_cases hc0 : cap = 0
        · have : len = 0 := by omega
          subst this
          rw [hz, hc0]; simp
        · have := hq (.cell a.block a.off) (MemPlace.mem_row.2 ⟨0, by omega, by simp⟩)
          simp only [MemPlace.block] at this
          rw [if_pos this, hz]
      · obtain ⟨h1, h2⟩ := hpl i hi
        have h3 := hcell i hi
        rw [h1, add_plain] at h3 ⊢
        exact (hb.cell (p := ⟨a.block, a.off + i, none⟩) h2).trans h3
set_option maxRecDepth 100000 in
theorem obj_again {n : Nat} {cs : List Value} {x : DataW H × List MemPlace} (h : DataW.trod enc Try.prog W 0 (fun _ => true) held n 71 cs = some x) :
    ∃ (k t bd : Int) (u : Value) (zs : List Int), cs = [.int .i64 k, .int .i64 t, u, .int .i64 bd] ∧ InnerV W u zs ∧ ∀ (W' : World) (sp : Nat → Bool), Below W.heap.size W W' → (∀ q ∈ x.2, sp q.block = true) → DataW.trod enc Try.prog W' 0 sp held 3 71 cs = some x := by
  obtain ⟨xs, n', _, hx, hlen, hyl, hf⟩ := DataW.trod_struct Try.underlying71 h
  rw [cellsObj4] at hlen
  match cs, hlen with
  | [c0, c1, c2, c3], _ =>
    match xs, hyl with
    | [y0, y1, y2, y3], _ =>
      have g0 : DataW.trod enc Try.prog W 0 (fun _ => true) held n' 3 (([c0, c1, c2, c3].drop 0).take (Try.prog.cellsOf 3)) = some y0 := hf 0 _ rfl
      rw [cellsInt] at g0
      have g1 : DataW.trod enc Try.prog W 0 (fun _ => true) held n' 3 (([c0, c1, c2, c3].drop 1).take (Try.prog.cellsOf 3)) = some y1 := hf 1 _ rfl
      rw [cellsInt] at g1
      have g2 : DataW.trod enc Try.prog W 0 (fun _ => true) held n' 23 (([c0, c1, c2, c3].drop 2).take (Try.prog.cellsOf 23)) = some y2 := hf 2 _ rfl
      rw [cellsSlI] at g2
      have g3 : DataW.trod enc Try.prog W 0 (fun _ => true) held n' 3 (([c0, c1, c2, c3].drop 3).take (Try.prog.cellsOf 3)) = some y3 := hf 3 _ rfl
      rw [cellsInt] at g3
      obtain ⟨z0, e0, r0, w0⟩ := DataW.trod_int Try.underlying3 (show DataW.trod enc Try.prog W 0 (fun _ => true) held n' 3 [c0] = some y0 from g0)
      obtain ⟨z1, e1, r1, w1⟩ := DataW.trod_int Try.underlying3 (show DataW.trod enc Try.prog W 0 (fun _ => true) held n' 3 [c1] = some y1 from g1)
      obtain ⟨z3, e3, r3, w3⟩ := DataW.trod_int Try.underlying3 (show DataW.trod enc Try.prog W 0 (fun _ => true) held n' 3 [c3] = some y3 from g3)
      obtain ⟨zs, hin, hag⟩ := inner_again (show DataW.trod enc Try.prog W 0 (fun _ => true) held n' 23 [c2] = some y2 from g2)
      simp only [List.cons.injEq, and_true] at e0 e1 e3
      subst e0 e1 e3
      refine ⟨z0, z1, z3, c2, zs, rfl, hin, fun W' sp hb hq => ?_⟩
      rw [hx] at hq ⊢
      have k2 := hag W' sp hb (fun q hq2 => hq q (by simp [hq2]))
      refine trod_struct_mk (n := 2) Try.underlying71 (by rw [cellsObj4]; rfl) ?_
      have k0 : DataW.trod enc Try.prog W' 0 sp held 2 3 [.int .i64 z0] = some y0 := by rw [r0]; exact trod_int_mk 1 Try.underlying3 w0
      have k1 : DataW.trod enc Try.prog W' 0 sp held 2 3 [.int .i64 z1] = some y1 := by rw [r1]; exact trod_int_mk 1 Try.underlying3 w1
      have k3 : DataW.trod enc Try.prog W' 0 sp held 2 3 [.int .i64 z3] = some y3 := by rw [r3]; exact trod_int_mk 1 Try.underlying3 w3
      simp [cellsInt, cellsSlI, k0, k1, k2, k3]
end
theorem len_fit {len m : Nat} (hl : len ≤ m) (hm : m ≤ maxLen) : (len : Int) ≤ 9223372036854775807 := by
  have : m ≤ 9223372036854775807 := by simpa [maxLen] using hm
  omega
set_option maxRecDepth 100000 in
theorem open_obs {H : Type} {enc : TypeId × Value → H} {W : World} {b0 : Nat} {v : Value} {d : DataW H} {p : List MemPlace} (hval : Value.okWide Try.prog W .any b0 22 v)
    (hd : DataW.Trod enc Try.prog W 0 (fun _ => true) true 22 v d p) :
    (∃ a N c rs, v = .slice a N c ∧ ArgV W a N rs) ∧ (∀ (W' : World) (sp : Nat → Bool), Below W.heap.size W W' → (∀ q ∈ p, sp q.block = true) → DataW.Trod enc Try.prog W' 0 sp true 22 v d p) := by
  obtain ⟨a0, len, cap, rfl⟩ := okWide_slice Try.underlying22 hval
  obtain ⟨fuel, hf⟩ := hd
  rcases open_slice Try.underlying22 hf with ⟨hcs, hx⟩ | ⟨a, len', cap', m, n, D, Pl, hcs, _, hl, hm, hmm, hx, hi⟩
  · simp [Value.cells] at hcs
    obtain ⟨rfl, rfl, rfl⟩ := hcs
    simp only [Prod.mk.injEq] at hx
    obtain ⟨rfl, rfl⟩ := hx
    exact ⟨⟨none, 0, 0, [], rfl, rfl, by omega, fun i o ho => by simp at ho, ⟨by simp⟩⟩, fun W' sp _ _ => shut_slice_nil Try.underlying22⟩
  · simp [Value.cells] at hcs
    obtain ⟨rfl, rfl, rfl⟩ := hcs
    simp only [Prod.mk.injEq] at hx
    obtain ⟨rfl, rfl⟩ := hx
    simp only [if_true] at hmm
    subst hmm
    have hval' := hval
    simp only [Value.okWide, Cell.okWide, Cell.ok, Try.underlying22] at hval'
    obtain ⟨hsp, hlt⟩ := has_lt hval'.2.2
    obtain ⟨b, off, spot⟩ := a
    simp only at hsp hlt
    subst hsp
    rw [cellsObj4] at hi
    have key : ∀ i, i < m → ∃ (k t bd : Int) (u : Value) (zs : List Int), InnerV W u zs ∧ (∀ q, q < 4 → W.cell? ⟨b, off + i * 4 + q, none⟩ = [Value.int .i64 k, .int .i64 t, u, .int .i64 bd][q]?) ∧ ∀ (W' : World) (sp : Nat → Bool), Below W.heap.size W W' → (∀ q ∈ Pl i, sp q.block = true) → DataW.trod enc Try.prog W' 0 sp true 3 71 [.int .i64 k, .int .i64 t, u, .int .i64 bd] = some (D i, Pl i) := fun i him => by
      obtain ⟨cs', hc, ht'⟩ := hi i him
      obtain ⟨k, t, bd, u, zs, rfl, hin, hag⟩ := obj_again ht'
      obtain ⟨_, _, hat⟩ := World.cells?_some hc
      refine ⟨k, t, bd, u, zs, hin, fun q hq => ?_, hag⟩
      have := hat q hq
      rwa [add_plain, add_plain] at this
    refine ⟨?_, fun W' sp hb hq => ?_⟩
    · have hch : ∃ f : Nat → Int × Int × Int × Value × List Int, ∀ i, i < m → InnerV W (f i).2.2.2.1 (f i).2.2.2.2 ∧ ∀ q, q < 4 → W.cell? ⟨b, off + i * 4 + q, none⟩ = [Value.int .i64 (f i).1, .int .i64 (f i).2.1, (f i).2.2.2.1, .int .i64 (f i).2.2.1][q]? := by
        refine ⟨fun i => if h : i < m then (Classical.choose (key i h), Classical.choose (Classical.choose_spec (key i h)), Classical.choose (Classical.choose_spec (Classical.choose_spec (key i h))), Classical.choose (Classical.choose_spec (Classical.choose_spec (Classical.choose_spec (key i h)))), Classical.choose (Classical.choose_spec (Classical.choose_spec (Classical.choose_spec (Classical.choose_spec (key i h)))))) else (0, 0, 0, .slice none 0 0, []), fun i h => ?_⟩
        have hs := Classical.choose_spec (Classical.choose_spec (Classical.choose_spec (Classical.choose_spec (Classical.choose_spec (key i h)))))
        simp only [dif_pos h]
        exact ⟨hs.1, hs.2.1⟩
      obtain ⟨f, hfs⟩ := hch
      refine ⟨_, len, m, (List.range len).map fun i => ⟨(f i).1, (f i).2.1, (f i).2.2.2.2, (f i).2.2.1⟩, rfl, by simp, len_fit hl hm, fun i o ho => ?_, ⟨fun o ho x hx => ?_⟩⟩
      · have hil := (List.getElem?_eq_some_iff.1 ho).1
        simp only [List.length_map, List.length_range] at hil
        rw [List.getElem?_map, List.getElem?_range hil] at ho
        obtain rfl := Option.some.inj ho
        obtain ⟨hin, hc⟩ := hfs i (by omega)
        have c0 := hc 0 (by decide)
        have c1 := hc 1 (by decide)
        have c2 := hc 2 (by decide)
        have c3 := hc 3 (by decide)
        rcases hin with ⟨hu, hz⟩ | ⟨ia, ic, hu, h1, h2, h3, h4⟩
        · refine ⟨b, off, none, 0, rfl, hlt, c0, c1, ?_, c3, ?_, by omega, fun _ => rfl, fun q x hx => ?_⟩
          · show _ = some (Value.slice none (f i).2.2.2.2.length 0)
            rw [hz, c2, hu]; rfl
          · show (f i).2.2.2.2.length ≤ 0
            rw [hz]; exact Nat.le_refl _
          · have hx' : (f i).2.2.2.2[q]? = some x := hx
            rw [hz] at hx'; simp at hx'
        · refine ⟨b, off, some ia, ic, rfl, hlt, c0, c1, by rw [c2, hu]; rfl, c3, h1, h2, by simp, fun q x hx => ?_⟩
          obtain ⟨fb, fo, e1, e2, e3⟩ := h3 q x hx
          exact ⟨fb, fo, by rw [e1], e2, e3⟩
      · obtain ⟨i, hir, rfl⟩ := List.mem_map.1 ho
        have hil := List.mem_range.1 hir
        obtain ⟨hin, _⟩ := hfs i (by omega)
        rcases hin with ⟨_, hz⟩ | ⟨_, _, _, _, _, _, h4⟩
        · have hx' : x ∈ (f i).2.2.2.2 := hx
          rw [hz] at hx'; cases hx'
        · exact h4 x hx
    · have hpl : ∀ i, i < m → ∀ q ∈ Pl i, sp q.block = true := fun i him q hq2 => hq q (List.mem_append_right _ (List.mem_flatMap.2 ⟨i, List.mem_range.2 him, hq2⟩))
      have again : ∀ i, i < m → ∃ cs n, W'.cells? 0 ((⟨b, off, none⟩ : Addr).add (i * Try.prog.cellsOf 71)) (Try.prog.cellsOf 71) = some cs ∧ DataW.trod enc Try.prog W' 0 sp true n 71 cs = some (D i, Pl i) := fun i him => by
        obtain ⟨k, t, bd, u, zs, _, hc, hag⟩ := key i him
        rw [cellsObj4]
        refine ⟨_, 3, World.cells?_of_each (Nat.zero_le _) rfl (fun l hl => ?_), hag W' sp hb (hpl i him)⟩
        rw [← hc l hl, add_plain, add_plain]
        exact hb.cell (p := ⟨b, off + i * 4 + l, none⟩) hlt
      by_cases hs : sp b = true
      · exact shut_slice_whole (a := ⟨b, off, none⟩) Try.underlying22 (Nat.zero_le _) hl hm hs D Pl again
      · have hm0 : m = 0 := by
          by_cases q : m = 0
          · exact q
          · exfalso
            apply hs
            have := hq (.cell b off) (List.mem_append_left _ (MemPlace.mem_row.2 ⟨0, by rw [cellsObj4]; omega, by simp⟩))
            simpa only [MemPlace.block] using this
        subst hm0
        have hl0 : len = 0 := by omega
        subst hl0
        exact shut_slice (a := ⟨b, off, none⟩) Try.underlying22 (Nat.zero_le _) hl hm (by simpa using hs) D Pl (fun i hi => absurd hi (Nat.not_lt_zero _))
end Go.Proofs.Ytjdhjehnofediaa
namespace Go.Proofs.Ytjdhjehnofediaa
open Go Go.RowKit
theorem RootsV.below {w w1 : World} {a : Option Addr} {N : Nat} {zs : List Int} (h : RootsV w a N zs) (hb : Below w.heap.size w w1) : RootsV w1 a N zs :=
  ⟨h.len, h.few, fun j z hj => by
    obtain ⟨g, off, e1, e2, e3⟩ := h.cell j z hj
    exact ⟨g, off, e1, by have := hb.size; omega, (World.cell?_of_block (hb.block g e2)).trans e3⟩, h.rng⟩
theorem roots_of {w : World} {v : Value} {zs : List Int} (h : IntsV w v zs) : ∃ a N c, v = .slice a N c ∧ RootsV w a N zs := by
  rcases h with ⟨rfl, rfl⟩ | ⟨b, off, cap, rfl, hb, hc, hm, hcell, hr⟩
  · exact ⟨none, 0, 0, rfl, rfl, by decide, fun j z hj => by simp at hj, by simp⟩
  · refine ⟨_, _, cap, rfl, rfl, by omega, fun j z hj => ?_, hr⟩
    have hjl := (List.getElem?_eq_some_iff.1 hj).1
    refine ⟨b, off, rfl, hb, ?_⟩
    rw [hcell j hjl, List.getD_eq_getElem?_getD, hj]; rfl
/-- a row of the call's own as a slice of words -/
theorem wordsV_own {w : World} {B : Nat} {v : Value} {n : Nat} {ns : List Nat} (ho : w.ownsRow B 56 1 v n (u64s ns)) (hn : ns.length = n) (hs : n ≤ 100000) (hw : ∀ x ∈ ns, x < 18446744073709551616) :
    ∃ a c, v = .slice a n c ∧ WordsV w a n ns ∧ ∀ (g off : Nat), a = some ⟨g, off, none⟩ → v.ownBlock = some g := by
  have ho' := ho
  rcases ho.2 with ⟨hv, h0⟩ | ⟨g, cap, cur, hv, hb, hg, h1, h2, h3, h4⟩
  · refine ⟨none, 0, by rw [hv, h0], ⟨hn, by omega, hw, fun j x hj => ?_⟩, fun g off e => by cases e⟩
    have := (List.getElem?_eq_some_iff.1 hj).1
    omega
  · subst hv
    refine ⟨_, cap, rfl, ⟨hn, by omega, hw, fun j x hj => ?_⟩, fun g' off e => by injection e with e; injection e with e1; rw [← e1]; rfl⟩
    have hj' := (List.getElem?_eq_some_iff.1 hj).1
    refine ⟨g, 0, rfl, (Array.getElem?_eq_some_iff.1 hg).1, ?_⟩
    rw [Nat.zero_add, ho'.cellAt j (by omega)]
    simp [u64s, hj]
theorem rootsN_lt (os : List O4) (zs : List Int) (k : Nat) : ∀ x ∈ rootsN os zs k, x < 18446744073709551616 := by
  intro x hx
  obtain ⟨v, _, rfl⟩ := List.mem_map.1 hx
  have := rootW_bd os v
  omega
theorem rootsN_len' {os : List O4} {zs : List Int} {N : Nat} (h : zs.length = N) : (rootsN os zs (min N 50)).length = min N 50 := rootsN_length (by omega)
/-- how much a heap takes -/
theorem used_heap {rs : List O4} (r : In4 rs) : used (heapObs (heapO rs)) + 64 = heapW rs := by
  have h1 := heapR r
  have e : sz (heapObs (heapO rs)) = sz (obA (heapO rs) (heapO rs).length) := by rw [sz_heap, sz_obA h1]
  have h2 := used_obA h1 (heapO rs).length (Nat.le_refl _)
  rw [used_congr e]
  unfold heapW
  omega
theorem heapW_bd {rs : List O4} (r : In4 rs) : 64 ≤ heapW rs ∧ heapW rs ≤ 600 := (heapR r).size (heapO_few rs) (heapO_short rs)
theorem used_le_old {h W : Nat} {os old : List Ob} {met : List Nat} (z : WF W h os old) (ok : Okm os met) : used (newF h W os met) ≤ used os := by
  rw [used_congr (sz_newF h W os met)]
  have := moved_sum (k := 0) (W := W) z.fresh ok met.length (Nat.le_refl _) (fun _ _ => toK_pos _ _ _ _ _)
  rw [List.take_length] at this
  omega
theorem renW_lt {h W : Nat} {os old : List Ob} {met : List Nat} (z : WF W h os old) (ok : Okm os met) {n : Nat} (hn : n < 18446744073709551616) : renW h W os met n < 18446744073709551616 := by
  unfold renW
  split
  · exact hn
  · split
    · exact hn
    · rename_i j _
      have h1 := start_le_used (now := pick os met) (k := met.idxOf j) (by rw [pick_length]; exact List.idxOf_le_length)
      have h2 := moved_used (W := W) z.fresh ok met.length z.un
      rw [List.take_length] at h2
      have h3 := z.w1
      unfold toK adr
      split <;> omega
theorem ren_lt {h W : Nat} {os old : List Ob} {met ns : List Nat} (z : WF W h os old) (ok : Okm os met) (hw : ∀ x ∈ ns, x < 18446744073709551616) : ∀ x ∈ ns.map (renW h W os met), x < 18446744073709551616 := by
  intro x hx
  obtain ⟨n, hn, rfl⟩ := List.mem_map.1 hx
  exact renW_lt z ok (hw n hn)
/-- what a collection leaves of a memory that was the call's own -/
theorem mx_below {w w3 w4 : World} {O : Nat → Prop} {b W h : Nat} {s : St} {R : Nat → Value} (hb : Below w.heap.size w w3) (hO : ∀ i, O i → w.heap.size ≤ i) (x : MX w3 O b W h s w4 R) : Below w.heap.size w w4 ∧ ∀ i, Own b R i → w.heap.size ≤ i :=
  ⟨hb.trans (x.fr.below hb.size hO), fun i hi => by
    rcases x.own i hi with q | q
    · exact hO i q
    · have := hb.size; omega⟩
end Go.Proofs.Ytjdhjehnofediaa
