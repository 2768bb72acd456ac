/- The contracts of the reference's Reach and Live. Conditions: the document's memory lies as RM says; the roots are words. -/
import Derived.Test.YtjdhjehnofediaaMemTwin
import Derived.Test.YtjdhjehnofediaaGcBeg
import Derived.Test.YtjdhjehnofediaaRmB
import Derived.Deep.RegionHeld3
import Derived.Test.YtjdhjehnofediaaGcFol
namespace Go.Proofs.Ytjdhjehnofediaa
open Go Go.RowKit
/-- the document's memory of some objects -/
structure RT (w : World) (rb W h : Nat) (now old : List Ob) (v1 : Value) (P1 : List (RO × Value)) (v2 : Value) (P2 : List (RO × Value)) : Prop where
  r : RM w rb W h v1 P1 v2 P2
  z : WF W h now old
  e1 : P1.map Prod.fst = ros h W now
  e2 : P2.map Prod.fst = ros (1 - h) W old
section
variable {w w1 : World} {rb W h : Nat} {now old : List Ob} {v1 v2 : Value} {P1 P2 : List (RO × Value)}
theorem RT.rz (t : RT w rb W h now old v1 P1 v2 P2) : RZ W h P1 P2 := by
  have h1 := t.z.un
  have h2 := t.z.uo
  have h3 := t.z.w1
  exact ⟨h3, t.z.hh, by rw [P_used t.e1]; omega, by rw [P_used t.e2]; omega⟩
theorem RT.below (t : RT w rb W h now old v1 P1 v2 P2) (hb : Below w.heap.size w w1) : RT w1 rb W h now old v1 P1 v2 P2 := ⟨t.r.below hb, t.z, t.e1, t.e2⟩
theorem RT.drewN (t : RT w rb W h now old v1 P1 v2 P2) (n : Nat) : RT (w.drewN n) rb W h now old v1 P1 v2 P2 := ⟨t.r.drewN n, t.z, t.e1, t.e2⟩
theorem RT.find (t : RT w rb W h now old v1 P1 v2 P2) (a : Int) : Calls Try.prog 63 #[v1, .int .i64 a] w fun e w' => e = .returned (.int .i64 (fint (idxAt now h W a))) ∧ w' = w := by
  have := t.r.find1 t.rz a
  rwa [P_idx t.e1] at this
/-- the words of an object as they lie -/
theorem RT.words (t : RT w rb W h now old v1 P1 v2 P2) {j : Nat} {o : Ob} (ho : now[j]? = some o) : ∃ g cap ua uc, v1 = .slice (some ⟨g, 0, none⟩) now.length cap ∧ now.length ≤ cap ∧ cap ≤ 9223372036854775807 ∧ AtP w g j (roOf (objA h W now j) o) (.slice ua o.ws.length uc) ∧ o.ws.length ≤ uc ∧ uc ≤ 9223372036854775807 ∧ (ua = none → uc = 0) ∧ WordsV w ua o.ws.length o.ws ∧ w.ownsRow 0 56 1 (.slice ua o.ws.length uc) o.ws.length (u64s o.ws) := by
  obtain ⟨u, hp⟩ := P_get t.e1 ho
  obtain ⟨g, cap, hv, h1, h2, _, hat⟩ := t.r.l1.at hp
  rw [P_length t.e1] at hv h1
  have hw := t.r.l1.ws _ (List.mem_of_getElem? hp)
  have hok := t.z.okn o (List.mem_of_getElem? ho)
  have hbd := right_bd hok.right
  obtain ⟨ua, uc, hu, hwv, _⟩ := wordsV_own (show w.ownsRow 0 56 1 u o.ws.length (u64s o.ws) from hw) rfl (by omega) hok.word
  have hsh := own_shape5 hw
  obtain ⟨a', c', hu', hc1, hc2⟩ := hsh
  have hw' := hw
  rw [hu] at hu'
  injection hu' with q1 q2 q3
  subst q1 q3
  refine ⟨g, cap, ua, uc, hv, h1, h2, by rw [← hu]; exact hat, hc1, hc2, fun e => ?_, hwv, by rw [← hu]; exact hw⟩
  rcases hw'.2 with ⟨h0, _⟩ | ⟨g', cap', cur, h0, _⟩
  · have h0' : u = .slice none 0 0 := h0
    rw [hu] at h0'
    injection h0'
  · have h0' : u = .slice (some ⟨g', 0, none⟩) o.ws.length cap' := h0
    rw [hu, e] at h0'
    injection h0' with h0' _ _
    cases h0'
end
/-- what the reference's Reach leaves -/
def RReached (w : World) (h W : Nat) (now : List Ob) (ns : List Nat) (e : Ending) (w' : World) : Prop :=
  (reach now h W ns = none ∧ e = .returned (.tuple #[.slice none 0 0, .bool false]) ∧ Below w.heap.size w w') ∨
  (∃ met v, reach now h W ns = some met ∧ e = .returned (.tuple #[v, .bool true]) ∧ Below w.heap.size w w' ∧ w'.ownsRow w.heap.size 3 1 v met.length (ints (metI h W now met)))
/-- how far the search is: objects done, met, words still to be looked at -/
structure RC (w wr : World) (h W : Nat) (now : List Ob) (ns : List Nat) (i k : Nat) (met tws : List Nat) (u : Value) (ta : Option Addr) (tn : Nat) : Prop where
  row : wr.ownsRow w.heap.size 3 1 u met.length (ints (metI h W now met))
  td : WordsV wr ta tn tws
  few : tn ≤ 1000000
  ap : ∀ g off, ta = some ⟨g, off, none⟩ → u.ownBlock ≠ some g
  ok : Okm now met
  le : i ≤ met.length
  eq : ((meetL now h W met (tws.drop k)).bind (bfs now h W (now.length + 1 - i) i)) = reach now h W ns
  fr : Below w.heap.size w wr
theorem wordsV_fr {w w1 : World} {O : Nat → Prop} {a : Option Addr} {N : Nat} {ns : List Nat} (h : WordsV w a N ns) (hf : Fr O w w1) (hn : ∀ g off, a = some ⟨g, off, none⟩ → ¬ O g) : WordsV w1 a N ns :=
  ⟨h.len, h.few, h.word, fun j n hj => by
    obtain ⟨g, off, h1, h2, h3⟩ := h.cell j n hj
    exact ⟨g, off, h1, by have := hf.size; omega, hf.cell_some h3 (hn g off h1)⟩⟩
theorem RC.app {w wr w7 : World} {h W : Nat} {now : List Ob} {ns : List Nat} {i k n j : Nat} {met tws : List Nat} {u v7 : Value} {ta : Option Addr} {tn : Nat} {tmp : Obj} (c : RC w wr h W now ns i k met tws u ta tn)
    (hn : tws[k]? = some n) (hS : meetS now h W met n = some (met ++ [j])) (hj : j < now.length) (hjn : j ∉ met)
    (hown : w7.ownsRow w.heap.size 3 1 v7 (met.length + 1) (ints (metI h W now met) ++ [.int .i64 (objA h W now j)])) (hg : (wr.alloc tmp).grownBy w7 u.ownBlock) (hb : v7.ownBlock = u.ownBlock ∨ v7.ownBlock = some (wr.alloc tmp).heap.size) :
    RC w w7 h W now ns i (k + 1) (met ++ [j]) tws v7 ta tn := by
  have f2 : Fr (fun i => u.ownBlock = some i) wr w7 := Fr.of_grown hg
  refine ⟨?_, wordsV_fr c.td f2 (fun g off e => c.ap g off e), c.few, fun g off e => ?_, c.ok.snoc hj hjn, by rw [List.length_append]; have := c.le; omega, ?_, c.fr.trans (f2.below c.fr.size (fun i hi => (c.row.lt i hi).1))⟩
  · rw [List.length_append, ← metI_snoc, ← ints_snoc]; exact hown
  · rcases hb with q | q
    · rw [q]; exact c.ap g off e
    · rw [q]
      intro q2
      have q3 := Option.some.inj q2
      by_cases hz : tws = []
      · subst hz; cases hn
      · obtain ⟨x, hx⟩ : ∃ x, tws[k]? = some x := ⟨n, hn⟩
        obtain ⟨g', off', e1, e2, _⟩ := c.td.cell k x hx
        rw [e] at e1
        injection e1 with e1
        injection e1 with e1
        simp at q3
        omega
  · have := c.eq
    rw [meetL_drop hn, hS] at this
    exact this
theorem RC.skip {w wr : World} {h W : Nat} {now : List Ob} {ns : List Nat} {i k n : Nat} {met tws : List Nat} {u : Value} {ta : Option Addr} {tn : Nat} (c : RC w wr h W now ns i k met tws u ta tn)
    (hn : tws[k]? = some n) (hS : meetS now h W met n = some met) : RC w wr h W now ns i (k + 1) met tws u ta tn :=
  ⟨c.row, c.td, c.few, c.ap, c.ok, c.le, by
    have := c.eq
    rw [meetL_drop hn, hS] at this
    exact this, c.fr⟩
theorem int_at {w : World} {B n : Nat} {u : Value} {xs : List Int} (h : w.ownsRow B 3 1 u n (ints xs)) {i : Nat} {x : Int} (hi : i < n) (hx : xs[i]? = some x) : ∃ g c, u = .slice (some ⟨g, 0, none⟩) n c ∧ n ≤ c ∧ c ≤ 9223372036854775807 ∧ B ≤ g ∧ w.cell? ⟨g, i, none⟩ = some (.int .i64 x) := by
  have h' := h
  rcases h.2 with ⟨_, h0⟩ | ⟨g, cap, cur, rfl, hb, _, h1, h2, _⟩
  · omega
  · refine ⟨g, cap, rfl, h1, by simpa [maxLen] using h2, hb, (h'.cellAt i (by omega)).trans ?_⟩
    simp [ints, hx]
theorem metI_any {h W : Nat} {now : List Ob} {met : List Nat} (ok : Okm now met) {j : Nat} (hj : j < now.length) : (metI h W now met).any (· == objA h W now j) = decide (j ∈ met) := by
  rw [Bool.eq_iff_iff, List.any_eq_true, decide_eq_true_eq]
  constructor
  · rintro ⟨x, hx, e⟩
    rw [beq_iff_eq] at e
    obtain ⟨i, hi, rfl⟩ := List.mem_map.1 hx
    have h1 := adr_inj (show adr h W (start now i : Nat) = adr h W (start now j : Nat) from e)
    have h2 := start_inj now (ok.lt i hi) hj (by omega)
    rwa [h2] at hi
  · intro hm
    exact ⟨_, List.mem_map.2 ⟨j, hm, rfl⟩, by simp⟩
theorem any_take_succ {xs : List Int} {q : Nat} {x a : Int} (h : xs[q]? = some x) : (xs.take (q + 1)).any (· == a) = ((xs.take q).any (· == a) || (x == a)) := by
  obtain ⟨hq, e⟩ := List.getElem?_eq_some_iff.1 h
  rw [List.take_succ_eq_append_getElem hq, List.any_append, e]
  simp
theorem sl_toU (A : Option Addr) (L c m : Nat) (hm : m ≤ c) (W : World) : (Instr.sliceAt 32 (.slice A L c) none (some (.int .i64 (m : Int))) none).run Try.prog W = .ok (.slice A m c) W := by
  have hs : (sizeOf 56).run Try.prog W = .ok 1 W := by kernel_rfl
  have he : Try.prog.elem 32 = 56 := by kernel_rfl
  have h1 := run_sliceAt_slice (P := Try.prog) (w := W) 32 (.slice A L c) none (some (.int .i64 (m : Int))) none (by rw [he]; exact Try.underlying32)
  have h2 := run_slice_h (P := Try.prog) (w := W) 32 A L c (by rw [he]; exact Try.underlying32) .i64 (m : Int) (by omega) (by omega)
  rw [h1, h2, he, hs]
  have ha : ∀ ad : Addr, ad.add 0 = ad := fun ad => by
    obtain ⟨b, o, sp⟩ := ad
    cases sp <;> simp [Addr.add]
  have hA : A.map (fun x => x.add 0) = A := by cases A <;> simp [ha]
  simp [sliced, hA]
theorem WordsV.take {w : World} {a : Option Addr} {N t : Nat} {ns : List Nat} (h : WordsV w a N ns) (ht : t ≤ N) : WordsV w a t (ns.take t) :=
  ⟨by rw [List.length_take, h.len]; omega, by have := h.few; omega, fun n hn => h.word n (List.mem_of_mem_take hn), fun j n hj => by
    rw [List.getElem?_take] at hj
    split at hj
    · exact h.cell j n hj
    · cases hj⟩
theorem WordsV.below {w w1 : World} {a : Option Addr} {N : Nat} {ns : List Nat} (h : WordsV w a N ns) (hb : Below w.heap.size w w1) : WordsV w1 a N ns := wordsV_fr h (Fr.of_below (O := fun _ => False) hb) (fun _ _ _ q => q)
theorem RC.next {w wr w8 : World} {h W : Nat} {now : List Ob} {ns : List Nat} {i tn j : Nat} {met tws : List Nat} {u : Value} {ta wa : Option Addr} {o : Ob} (c : RC w wr h W now ns i tn met tws u ta tn) (hj : met[i]? = some j) (ho : now[j]? = some o) (hb : Below wr.heap.size wr w8) (hw : WordsV wr wa o.ws.length o.ws) (ht : o.t ≤ o.ws.length) (hs : o.ws.length ≤ 1000000) (hap : ∀ g off, wa = some ⟨g, off, none⟩ → u.ownBlock ≠ some g) :
    RC w w8 h W now ns (i + 1) 0 met (tagW now j) u wa o.t := by
  have hi := (List.getElem?_eq_some_iff.1 hj).1
  have hml := c.ok.len
  refine ⟨(Fr.of_below (O := fun _ => False) hb).own c.row (fun _ _ => id), ?_, by omega, hap, c.ok, hi, ?_, c.fr.trans (hb.mono c.fr.size)⟩
  · rw [tagW_eq ho]; exact (hw.take ht).below hb
  · have heq := c.eq
    rw [List.drop_eq_nil_of_le (by rw [c.td.len]; exact Nat.le_refl _), show now.length + 1 - i = (now.length - i) + 1 by omega] at heq
    have heq' : bfs now h W (now.length - i + 1) i met = reach now h W ns := heq
    rw [bfs_step hj] at heq'
    rw [List.drop_zero, show now.length + 1 - (i + 1) = now.length - i by omega]
    exact heq'
theorem below_alloc {B : Nat} {Y X : World} (h : Below B Y X) (hB : B ≤ Y.heap.size) (o : Obj) : Below B Y (X.alloc o) := h.alloc (by have := h.size; omega) o
theorem pb8 {p0 p1 p2 p3 p4 p5 p6 q : Prop} (h : p0 ∧ p1 ∧ p2 ∧ p3 ∧ p4 ∧ p5 ∧ p6 ∧ q) : q := h.2.2.2.2.2.2.2
theorem rows_ap {w : World} {B n m : Nat} {wa : Option Addr} {wc : Nat} {u : Value} {xs ys : List Value} (h1 : w.ownsRow 0 56 1 (.slice wa n wc) n xs) (h2 : w.ownsRow B 3 1 u m ys) : ∀ g off, wa = some ⟨g, off, none⟩ → u.ownBlock ≠ some g := by
  intro g off e q
  have h := rows_apart h1 (own_mono h2 (Nat.zero_le _)) (by decide)
  exact h g (by rw [e]; rfl) q
theorem meetS_odd_even (n : Nat) : isIntB (n : Int) = decide (n % 2 = 1) := by
  unfold isIntB
  by_cases h : n % 2 = 1
  · rw [decide_eq_true (by omega), decide_eq_true h]
  · rw [decide_eq_false (by omega), decide_eq_false h]
theorem RC.shape {w wr : World} {h W : Nat} {now : List Ob} {ns : List Nat} {i k : Nat} {met tws : List Nat} {u : Value} {ta : Option Addr} {tn : Nat} (c : RC w wr h W now ns i k met tws u ta tn) : ∃ a cap, u = .slice a met.length cap ∧ met.length ≤ cap ∧ cap ≤ 9223372036854775807 := by
  rcases c.row.2 with ⟨h1, h2⟩ | ⟨g, cap, cur, h1, _, _, h2, h3, _⟩
  · exact ⟨none, 0, by rw [h1, h2], by omega, by omega⟩
  · exact ⟨_, cap, h1, h2, by simpa [maxLen] using h3⟩
set_option maxRecDepth 100000 in
set_option maxHeartbeats 8000000 in
theorem rreach_any {w : World} {rb W h : Nat} {now old : List Ob} {v1 v2 : Value} {P1 P2 : List (RO × Value)} (t : RT w rb W h now old v1 P1 v2 P2) {a : Option Addr} {N c : Nat} {ns : List Nat} (hv : WordsV w a N ns) (hno : a = none → c = 0) (hN : N ≤ 100000) :
    Calls Try.prog 25 #[.pointer (some ⟨rb, 0, none⟩), .slice a N c] w (RReached w h W now ns) := by
  obtain ⟨i0, hi, hz0, hz1, hz2⟩ := info_parts infoU64
  obtain ⟨i1, hi1, hy0, hy1, hy2⟩ := info_parts infoI
  have hl := hv.len
  have HWD := Lib.hid hv.word
  have HNO := Lib.hid (show a = none → c = 0 ∧ N = 0 from fun e => ⟨hno e, by
    cases hns : ns with
    | nil => rw [hns] at hl; exact hl.symm
    | cons x xs => obtain ⟨g, off, h1, _⟩ := hv.cell 0 x (by rw [hns]; rfl); rw [e] at h1; cases h1⟩)
  have HNS := Lib.hid (show ∀ j u, (u64s ns)[j]? = some u → ∃ ad, a = some ad ∧ w.cell? (ad.add j) = some u from fun j u hu => by
    unfold u64s at hu
    rw [List.getElem?_map] at hu
    cases hx : ns[j]? with
    | none => rw [hx] at hu; cases hu
    | some x =>
      rw [hx] at hu
      obtain rfl := Option.some.inj hu
      obtain ⟨g, off, e1, _, e2⟩ := hv.cell j x hx
      exact ⟨_, e1, by rw [plain_add]; exact e2⟩)
  have HLN := Lib.hid (show (u64s ns).length = N by simp [u64s]; exact hl)
  have HT := Lib.hid t
  have hnl : now.length ≤ 65536 := by
    have h1 := P_length t.e1
    have h2 := Nat.le_trans (length_le_usedP P1) t.rz.u1
    omega
  have HL := Lib.hid hl
  clear t hv hno hl
  go_enter Try.func25, Try.ntmps25
  go_wp2_with (at_builtin; refine wpList_append_opt rfl _ _ 32 rfl w.heap.size 56 i0 (.int .u64 0) 8 Try.underlying32 hi hz0 hz1 hz2 rfl (.slice none 0 0) 0 [] rfl (World.ownsRow_nil _ _ _ _) a N c (u64s ns) rfl HNO.out HLN.out HNS.out (fun y hy => by obtain ⟨z, _, rfl⟩ := List.mem_map.1 hy; rfl) (by unfold maxLen; omega) (by omega) (Nat.le_refl _) ?_; intro v5 w5 hown5 hgrow5 _; rw [Nat.zero_add, List.nil_append] at hown5; obtain ⟨a5, c5, rfl, hwv5, _⟩ := wordsV_own hown5 HL.out (by omega) HWD.out; have HC5 := Lib.hid (show RC w w5 h W now ns 0 0 [] ns (.slice none 0 0) a5 N from ⟨World.ownsRow_nil _ _ _ _, hwv5, by omega, (fun _ _ _ q => by cases q), okm_nil, Nat.le_refl _, rfl, ((Fr.refl (fun _ => False) w).grown hgrow5 (fun _ q => by cases q)).below (Nat.le_refl _) (fun _ q => q.elim)⟩); obtain ⟨h5a, h5b, h5c⟩ : ∃ (x : Nat), x = c5 ∧ x = c5 := ⟨_, rfl, rfl⟩; have H5 := Lib.hid (show N ≤ c5 ∧ c5 ≤ 9223372036854775807 from by have q := own_shape5 (own_mono hown5 (Nat.zero_le _)); obtain ⟨_, _, q1, q2, q3⟩ := q; injection q1 with _ _ q4; subst q4; exact ⟨q2, q3⟩); clear hown5 hgrow5 hwv5 h5b h5c)
  go_loopw [6, 7, 8] (fun od td dn wr => ∃ (i : Nat) (met tws : List Nat) (u : Value) (ta : Option Addr) (tn tc : Nat), od = u ∧ td = .slice ta tn tc ∧ dn = .int .i64 i ∧ RC w wr h W now ns i 0 met tws u ta tn) (fun _ _ dn _ => now.length + 1 - (intOf dn).toNat)
  case atStart => exact ⟨0, [], ns, _, a5, N, c5, rfl, rfl, rfl, HC5.out⟩
  case round =>
    obtain ⟨i, met0, tws, u0, ta, tn, tc, rfl, rfl, rfl, hc0⟩ := hrel
    clear HC5 H5
    have htn := hc0.few
    have HC0 := Lib.hid hc0
    clear hc0
    go_wp2_with fail
    go_loopw [6, 9] (fun od ix wr => ∃ (k : Nat) (met : List Nat) (u : Value), k ≤ tn ∧ od = u ∧ ix = .int .i64 k ∧ RC w wr h W now ns i k met tws u ta tn) (fun _ ix _ => tn - (intOf ix).toNat)
    case atStart => exact ⟨0, met0, _, Nat.zero_le _, rfl, rfl, HC0.out⟩
    case round =>
      obtain ⟨k, met, u, hk, rfl, rfl, hc⟩ := hrel
      clear HC0
      obtain ⟨ua, uc, rfl, huc, huc2⟩ := hc.shape
      have hml := hc.ok.len
      by_cases hlt : k < tn
      · obtain ⟨n, hn⟩ : ∃ n, tws[k]? = some n := ⟨_, List.getElem?_eq_getElem (by rw [hc.td.len]; exact hlt)⟩
        have hn64 := hc.td.word n (List.mem_of_getElem? hn)
        obtain ⟨g, off, rfl, hg, hcl⟩ := hc.td.cell k n hn
        have hki : (k : Int) < tn := by omega
        have hk0 : (0 : Int) ≤ k := by omega
        have hIS := refisint_any (n : Int) wr (by omega) (by omega)
        rw [meetS_odd_even] at hIS
        have HN := Lib.hid hn
        have HCC := Lib.hid hc
        by_cases hodd : n % 2 = 1
        · rw [decide_eq_true hodd] at hIS
          have HIS := Lib.hid hIS
          have HS := Lib.hid (meetS_int (os := now) (h := h) (W := W) (met := met) hodd)
          clear hIS hodd hn hc hg
          go_wp2_with fail
          refine HIS.out.mono ?_
          rintro e w' ⟨rfl, hww⟩
          subst w'
          go_wp2_with fail
          go_roundw
          case rel => exact ⟨k + 1, met, _, hlt, rfl, by go_num, HCC.out.skip HN.out HS.out⟩
          case measure => simp [intOf]; omega
        · rw [decide_eq_false hodd] at hIS
          have HIS := Lib.hid hIS
          have HTP := Lib.hid (reftoptr_any (n : Int) wr (by omega) (by omega))
          have hrt := HT.out.below hc.fr
          have hf := hrt.find (toP n)
          have hc2 := hrt.r.c2
          have HOD := Lib.hid hodd
          obtain ⟨A, hA⟩ : ∃ A, toP (n : Int) = A := ⟨_, rfl⟩
          have hAb := toP_le (n : Int)
          rw [hA] at hf HTP hAb
          obtain ⟨hA1, hA0⟩ := hAb
          have HA := Lib.hid hA
          cases hx : idxAt now h W A with
          | none =>
            rw [hx] at hf
            have HF := Lib.hid (show Calls _ _ _ _ (fun e w' => e = .returned (.int .i64 (-1)) ∧ w' = wr) from hf)
            have HR := Lib.hid (show reach now h W ns = none from by
              rw [← hc.eq, meetL_drop hn, meetS_bad hodd (by unfold objOf; rw [hA]; exact hx)]
              rfl)
            have HFR := Lib.hid hc.fr
            clear hIS hodd hn hc hg hrt hf hx hA HCC
            go_wp2_with fail
            refine HIS.out.mono ?_
            rintro e w' ⟨rfl, hww⟩
            subst w'
            go_wp2_with fail
            refine HTP.out.mono ?_
            rintro e w' ⟨rfl, hww⟩
            subst w'
            go_wp2_with fail
            refine HF.out.mono ?_
            rintro e w' ⟨rfl, hww⟩
            subst w'
            go_wp2_with fail
            go_ret2
            exact .inl ⟨HR.out, rfl, HFR.out⟩
          | some j =>
            rw [hx] at hf
            have HF := Lib.hid (show Calls _ _ _ _ (fun e w' => e = .returned (.int .i64 (j : Int)) ∧ w' = wr) from hf)
            obtain ⟨hjl, hjA⟩ := idxAt_some hx
            have HX := Lib.hid (show objOf now h W n = some j from by unfold objOf; rw [hA]; exact hx)
            have hrow := hc.row
            have HJ := Lib.hid (And.intro hjl hjA)
            have hj0 : (0 : Int) ≤ j := by omega
            have hjd : decide ((j : Int) < 0) = false := decide_eq_false (by omega)
            obtain ⟨xs, hxs⟩ : ∃ xs, metI h W now met = xs := ⟨_, rfl⟩
            have hxl : xs.length = met.length := by rw [← hxs, metI_length]
            rw [hxs] at hrow
            obtain ⟨L, hL⟩ : ∃ L, met.length = L := ⟨_, rfl⟩
            rw [hL] at hrow hxl huc hml
            have HROW := Lib.hid hrow
            have HXS := Lib.hid hxs
            have HXL := Lib.hid hxl
            have HLL := Lib.hid hL
            clear hIS hodd hn hc hg hrt hf hx hA hjA hrow hxs hxl
            rw [hL]
            clear hL
            go_wp2_with fail
            refine HIS.out.mono ?_
            rintro e w' ⟨rfl, hww⟩
            subst w'
            go_wp2_with fail
            refine HTP.out.mono ?_
            rintro e w' ⟨rfl, hww⟩
            subst w'
            go_wp2_with fail
            refine HF.out.mono ?_
            rintro e w' ⟨rfl, hww⟩
            subst w'
            go_wp2_with fail
            go_loop [12, 13] (fun kn q => ∃ p : Nat, p ≤ L ∧ q = .int .i64 p ∧ kn = .bool ((xs.take p).any (· == A))) (fun _ q => L - (intOf q).toNat)
            case atStart => exact ⟨0, Nat.zero_le _, rfl, rfl⟩
            case round =>
              obtain ⟨p, hp, rfl, rfl⟩ := hrel
              by_cases hpl : p < L
              · obtain ⟨x, hxp⟩ : ∃ x, xs[p]? = some x := ⟨_, List.getElem?_eq_getElem (by rw [HXL.out]; exact hpl)⟩
                obtain ⟨g2, c2, hu2, _, _, _, hcx⟩ := int_at HROW.out hpl hxp
                injection hu2 with q1 q2 q3
                subst q1
                have hcx' : wr.cell? ⟨g2, p, none⟩ = some (.int .i64 x) := hcx
                have HTK := Lib.hid (any_take_succ (a := A) hxp)
                have hp0 : (0 : Int) ≤ p := by omega
                have hp1 : (p : Int) < L := by omega
                obtain ⟨kb, hkb⟩ : ∃ kb, (xs.take p).any (· == A) = kb := ⟨_, rfl⟩
                rw [hkb]
                have HKB := Lib.hid hkb
                obtain ⟨qb, hqb⟩ : ∃ qb, (x == A) = qb := ⟨_, rfl⟩
                have HQB := Lib.hid hqb
                clear hxp hcx hkb q2 q3
                cases kb
                · go_wp2_with fail
                  go_round
                  case rel => exact ⟨p + 1, hpl, by go_num, by rw [HTK.out, HKB.out]; simp [hqb]⟩
                  case measure => simp [intOf]; omega
                · clear hqb
                  go_wp2_with fail
                  go_round
                  case rel => exact ⟨p + 1, hpl, by go_num, by rw [HTK.out, HKB.out]; simp⟩
                  case measure => simp [intOf]; omega
              · obtain rfl : p = L := by omega
                have hany : (xs.take p).any (· == A) = decide (j ∈ met) := by
                  rw [List.take_of_length_le (by rw [HXL.out]; exact Nat.le_refl _), ← HXS.out]
                  have q := metI_any (h := h) (W := W) HCC.out.ok HJ.out.1
                  rw [show objA h W now j = A from HJ.out.2.symm] at q
                  exact q
                rw [hany]
                by_cases hjm : j ∈ met
                · rw [decide_eq_true hjm]
                  have HS := Lib.hid (meetS_old (os := now) (h := h) (W := W) (met := met) HOD.out HX.out hjm)
                  clear hjm hany
                  go_wp2_with fail
                  go_roundw
                  case rel => exact ⟨k + 1, met, _, hlt, rfl, by go_num, by have := HCC.out.skip HN.out HS.out; rwa [HLL.out] at this⟩
                  case measure => simp [intOf]; omega
                · rw [decide_eq_false hjm]
                  have HS := Lib.hid (meetS_new (os := now) (h := h) (W := W) (met := met) HOD.out HX.out hjm)
                  have HJM := Lib.hid hjm
                  have HB := Lib.hid HCC.out.fr.size
                  clear hjm hany
                  go_wp2_with (at_builtin; refine wpList_append_own_at _ rfl _ _ 23 rfl w.heap.size 3 i1 (.int .i64 0) 1 8 Try.underlying23 hi1 hy0 hy1 hy2 rfl (by decide) (.slice ua p uc) _ _ rfl (HROW.out.alloc _) ⟨wr.heap.size, 0, none⟩ 1 1 [.int .i64 A] rfl rfl (cell_one_new _ _ _) (by simp [Value.oneCell']) (by unfold maxLen; omega) (by omega) (by simp; have := HB.out; omega) ?_; intro v7 w7 hown7 hgrow7 _ hblk7; have HC7 := Lib.hid (HCC.out.app (w7 := w7) (v7 := v7) HN.out HS.out HJ.out.1 HJM.out (by rw [HXS.out, show objA h W now j = A from HJ.out.2.symm, HLL.out]; exact hown7) (by rw [HLL.out]; exact hgrow7) (by rw [HLL.out]; exact hblk7)); clear hown7 hgrow7 hblk7)
                  go_roundw
                  case rel => exact ⟨k + 1, met ++ [j], _, hlt, rfl, by go_num, HC7.out⟩
                  case measure => simp [intOf]; omega
      · obtain rfl : k = tn := by omega
        have heq := hc.eq
        rw [List.drop_eq_nil_of_le (by rw [hc.td.len]; exact Nat.le_refl _)] at heq
        have heq' : bfs now h W (now.length + 1 - i) i met = reach now h W ns := heq
        have hle := hc.le
        by_cases hi2 : i < met.length
        · obtain ⟨j, hj⟩ : ∃ j, met[i]? = some j := ⟨_, List.getElem?_eq_getElem hi2⟩
          have hjn := hc.ok.lt j (List.mem_of_getElem? hj)
          obtain ⟨o, ho⟩ : ∃ o, now[j]? = some o := ⟨_, List.getElem?_eq_getElem hjn⟩
          have hrt := HT.out.below hc.fr
          obtain ⟨g, cap, wa, wc, hv1, hcap, hcap2, hat, hw1, hw2, _, hwv, hwo⟩ := hrt.words ho
          have hf' : ∀ W1, Below wr.heap.size wr W1 → Calls Try.prog 63 #[v1, .int .i64 (objA h W now j)] W1 fun e w' => e = .returned (.int .i64 (j : Int)) ∧ w' = W1 := fun W1 hb => by
            have q := (hrt.below hb).find (objA h W now j)
            rw [show idxAt now h W (objA h W now j) = some j from idxAt_of hjn] at q
            exact q
          have hbd := right_bd (hrt.z.okn o (List.mem_of_getElem? ho)).right
          obtain ⟨_, _, _, hsz, _, hts⟩ := hbd
          have hc2 := hrt.r.c2
          rw [hv1] at hf' hc2
          obtain ⟨g2, c2, hu2, _, _, hg2, hcx⟩ := int_at hc.row hi2 (metI_get hj)
          injection hu2 with q1 q2 q3
          subst q1
          have d0 : wr.cell? ⟨g, j * 5, none⟩ = some (.int .i64 (objA h W now j)) := hat.c0
          have d1 : wr.cell? ⟨g, j * 5 + 1, none⟩ = some (.int .i64 (o.k : Int)) := hat.c1
          have d2 : wr.cell? ⟨g, j * 5 + 2, none⟩ = some (.int .i64 (o.t : Int)) := hat.c2
          have d3 : wr.cell? ⟨g, j * 5 + 3, none⟩ = some (.slice wa o.ws.length wc) := hat.c3
          have d4 : wr.cell? ⟨g, j * 5 + 4, none⟩ = some (.int .i64 (o.to : Int)) := hat.c4
          have HNX := Lib.hid (fun (w8 : World) (hb : Below wr.heap.size wr w8) => hc.next hj ho hb hwv (by omega) (by omega) (rows_ap hwo hc.row))
          obtain ⟨A, hA⟩ : ∃ A, objA h W now j = A := ⟨_, rfl⟩
          rw [hA] at hf' d0 hcx
          have HS := Lib.hid (show ∀ X, Below wr.heap.size wr X → X.cell? ⟨rb, 2, none⟩ = some (.slice (some ⟨g, 0, none⟩) now.length cap) ∧ X.cell? ⟨g2, i, none⟩ = some (.int .i64 A) ∧ X.cell? ⟨g, j * 5, none⟩ = some (.int .i64 A) ∧ X.cell? ⟨g, j * 5 + 1, none⟩ = some (.int .i64 (o.k : Int)) ∧ X.cell? ⟨g, j * 5 + 2, none⟩ = some (.int .i64 (o.t : Int)) ∧ X.cell? ⟨g, j * 5 + 3, none⟩ = some (.slice wa o.ws.length wc) ∧ X.cell? ⟨g, j * 5 + 4, none⟩ = some (.int .i64 (o.to : Int)) ∧ Below wr.heap.size wr X from fun X hb => by
            have k : ∀ b off u, wr.cell? ⟨b, off, none⟩ = some u → X.cell? ⟨b, off, none⟩ = some u := fun b off u q => (hb.cell (p := ⟨b, off, none⟩) (World.block_lt_of_cell? wr _ q)).trans q
            exact ⟨k _ _ _ hc2, k _ _ _ hcx, k _ _ _ d0, k _ _ _ d1, k _ _ _ d2, k _ _ _ d3, k _ _ _ d4, hb⟩)
          have HFN := Lib.hid hf'
          have hj0 : (0 : Int) ≤ j := by omega
          have hj1 : (j : Int) < now.length := by omega
          have hi0 : (0 : Int) ≤ i := by omega
          obtain ⟨L, hL⟩ : ∃ L, met.length = L := ⟨_, rfl⟩
          obtain ⟨NL, hNL⟩ : ∃ NL, now.length = NL := ⟨_, rfl⟩
          rw [hNL] at HS HFN hj1 hcap hnl hjn hml
          have HNL := Lib.hid hNL
          rw [hL] at HNX
          rw [hL] at hi2 hle huc hml
          have hi1 : (i : Int) < L := by omega
          have hie : ((i : Int) == (L : Int)) = false := by simp; omega
          obtain ⟨OT, hOT⟩ : ∃ OT, o.t = OT := ⟨_, rfl⟩
          obtain ⟨OS, hOS⟩ : ∃ OS, o.ws.length = OS := ⟨_, rfl⟩
          rw [hOT, hOS] at hts HS
          rw [hOS] at hsz hw1
          have hd0 := HS.out wr (Below.refl _ _)
          have SL := Lib.hid (sl_toU wa OS wc OT (by omega))
          clear hc heq heq' hj hjn ho hrt hv1 hat hwv hwo hf' hc2 q2 q3 hcx d0 d1 d2 d3 d4 hA hg2
          rw [hL]
          have HOT := Lib.hid hOT
          clear hL hNL hOT hOS
          go_wp2_with fail
          go_region_held3 (fun X => X.cell? ⟨rb, 2, none⟩ = some (.slice (some ⟨g, 0, none⟩) NL cap) ∧ X.cell? ⟨g2, i, none⟩ = some (.int .i64 A) ∧ X.cell? ⟨g, j * 5, none⟩ = some (.int .i64 A) ∧ X.cell? ⟨g, j * 5 + 1, none⟩ = some (.int .i64 (o.k : Int)) ∧ X.cell? ⟨g, j * 5 + 2, none⟩ = some (.int .i64 (OT : Int)) ∧ X.cell? ⟨g, j * 5 + 3, none⟩ = some (.slice wa OS wc) ∧ X.cell? ⟨g, j * 5 + 4, none⟩ = some (.int .i64 (o.to : Int)) ∧ Below wr.heap.size wr X)
            (first | (with_reducible assumption) | (with_reducible exact HS.out _ ((Below.refl _ _).drew)) | (with_reducible exact HS.out _ (((Below.refl _ _).alloc (Nat.le_refl _) _).drew)) | (with_reducible exact HS.out _ ((Below.refl _ _).alloc (Nat.le_refl _) _)) | (with_reducible exact HS.out _ ((((((((Below.refl _ _).alloc (Nat.le_refl _) _).setCell (Nat.le_refl _) _).setCell (Nat.le_refl _) _).setCell (Nat.le_refl _) _).setCell (Nat.le_refl _) _).setCell (Nat.le_refl _) _).drew)) | (with_reducible exact HS.out _ (((((((Below.refl _ _).alloc (Nat.le_refl _) _).setCell (Nat.le_refl _) _).setCell (Nat.le_refl _) _).setCell (Nat.le_refl _) _).setCell (Nat.le_refl _) _).setCell (Nat.le_refl _) _)) | (with_reducible exact HS.out _ (Below.alloc (Below.drew (Below.refl _ _)) (Nat.le_refl _) _)) | (trace_state; fail))
            (first
              | (go_at_call 63; (with_reducible refine (HFN.out _ (pb8 (by with_reducible assumption))).mono ?_); rintro e w' ⟨rfl, hww⟩; subst w'))
          all_goals
            obtain ⟨w8, hw8⟩ : ∃ w8, (wr.alloc (.cells #[.int .i64 A, .int .i64 (o.k : Int), .int .i64 (OT : Int), .slice wa OS wc, .int .i64 (o.to : Int)] 90)).drew = w8 := ⟨_, rfl⟩
            have hb8 : Below wr.heap.size wr w8 := by rw [← hw8]; exact ((Below.refl _ _).alloc (Nat.le_refl _) _).drew
            have hblk8 : w8.heap[wr.heap.size]? = some (.cells #[.int .i64 A, .int .i64 (o.k : Int), .int .i64 (OT : Int), .slice wa OS wc, .int .i64 (o.to : Int)] 90 (0, 0)) := by rw [← hw8]; exact heap_alloc_new wr _
            have e2 := blk_cell hblk8 2
            have e3 := blk_cell hblk8 3
            have HC8 := Lib.hid (HNX.out w8 hb8)
            rw [HOT.out] at HC8
            rw [hw8]
            have HML := Lib.hid hml
            clear hw8 hb8 hblk8 hd0
            go_wp2_with fail
            go_roundw
            case rel => exact ⟨i + 1, met, _, _, wa, OT, wc, rfl, rfl, by go_num, HC8.out⟩
            case measure => have := HNL.out; simp [intOf]; omega
        · obtain hi3 : i = met.length := by omega
          have HR := Lib.hid (show reach now h W ns = some met from by rw [← heq', bfs_end (by omega)])
          have hrow := hc.row
          have HROW := Lib.hid hrow
          have HFR := Lib.hid hc.fr
          have hie : ((i : Int) == (met.length : Int)) = true := by rw [hi3]; simp
          clear hc heq heq' hrow hi2
          go_wp2_with fail
          go_ret2
          exact .inr ⟨met, _, HR.out, rfl, HFR.out, HROW.out⟩
end Go.Proofs.Ytjdhjehnofediaa
