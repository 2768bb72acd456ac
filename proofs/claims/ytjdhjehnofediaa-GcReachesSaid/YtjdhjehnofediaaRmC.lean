/- The contract of the document's Move. Conditions: the memory lies as RM says. -/
import Derived.Test.YtjdhjehnofediaaRmB
import Derived.Laws.AppendOwnNone
import Derived.StillTailTactics
namespace Go.Proofs.Ytjdhjehnofediaa
open Go Go.RowKit
/-- an append of what a row holds, be it nil or not, to a row of the call's own -/
theorem wpList_append_row {P : Program} {w : World} {ops : Array Oper} {rest : List Oper} {o : Oper} {a : Act} {Q : Exit → Act → World → Prop} (hgd : o.guard = none) (s x : Operand) (t : TypeId)
    (ho : o.op = .call { callee := .builtin .append, args := #[s, x], argTypes := #[t, t] })
    (base : Nat) (e : TypeId) (i : TypeInfo) (z : Value) (bytes : Nat) (ht : P.underlying t = some (.slice e)) (hi : P.info? e = some i) (hz : i.zero = some z)
    (hsize : i.size = 1) (hby : i.bytes = bytes) (hzs : z.cells.size = 1)
    (v : Value) (n : Nat) (xs : List Value) (hs : a.eval s = v) (hown : w.ownsRow base e 1 v n xs)
    (u : Value) (m : Nat) (news : List Value) (hx : a.eval x = u) (hsrc : w.ownsRow 0 e 1 u m news) (h1 : ∀ y ∈ news, y.oneCell' = true)
    (h63 : n + m ≤ maxLen) (hbytes : (n + m) * bytes ≤ 140737488355328) (hbase : base ≤ w.heap.size)
    (h : ∀ v' w', w'.ownsRow base e 1 v' (n + m) (xs ++ news) → w.grownBy w' v.ownBlock → (v'.ownBlock = v.ownBlock ∨ v'.ownBlock = some w.heap.size) → wpList P ops Q rest (a.put o.dst v') w') :
    wpList P ops Q (o :: rest) a w := by
  rcases hsrc.2 with ⟨hu, rfl⟩ | ⟨g, cap, cur, hu, _⟩
  · have hn : news = [] := List.eq_nil_of_length_eq_zero (by simpa using hsrc.1)
    subst hn
    exact wpList_append_own_none hgd s x t ho base e i 1 ht hi v n xs hs hown (hx.trans hu) (h v w (by simpa using hown) (World.grownBy.refl w _) (.inl rfl))
  · rw [hu] at hsrc
    exact wpList_append_own_at w hgd s x t ho base e i z 1 bytes ht hi hz hsize hby hzs (by decide) v n xs hs hown ⟨g, 0, none⟩ m cap news (hx.trans hu) (by rw [hsrc.1]) (own_row_cells hsrc) h1 h63 hbytes hbase (fun v' w' p q _ r => h v' w' p q r)
section
variable {w wr : World} {b W h : Nat} {v1 v2 : Value} {P1 P2 : List (RO × Value)}
set_option maxRecDepth 100000 in
set_option maxHeartbeats 1000000 in
theorem rmove_miss (m : RM w b W h v1 P1 v2 P2) (z : RZ W h P1 P2) (a : Int) (hi : fidx P2 a = none) : Calls Try.prog 58 #[.pointer (some ⟨b, 0, none⟩), .int .i64 a] w fun e w' => e = .returned (.tuple #[.int .i64 0, .int .i64 20]) ∧ w' = w := by
  have c3 := m.c3
  have hf := m.find2 z a
  rw [hi] at hf
  obtain ⟨ad, cap, rfl, hc1, hc2⟩ := own_shape5 m.l2.row
  have HF := Lib.hid (show Calls _ _ _ _ (fun e w' => e = .returned (.int .i64 (-1)) ∧ w' = w) from hf)
  clear m z hf hi
  go_enter Try.func58, Try.ntmps58
  go_wp2_with fail
  refine HF.out.mono ?_
  rintro e w' ⟨rfl, rfl⟩
  go_wp2_with fail
  go_ret2
  exact ⟨rfl, rfl⟩
set_option maxRecDepth 100000 in
set_option maxHeartbeats 1000000 in
theorem rmove_done (m : RM w b W h v1 P1 v2 P2) (z : RZ W h P1 P2) (a : Int) {j : Nat} {p : RO × Value} (hi : fidx P2 a = some j) (hp : P2[j]? = some p) (ht : 0 < p.1.to) : Calls Try.prog 58 #[.pointer (some ⟨b, 0, none⟩), .int .i64 a] w fun e w' => e = .returned (.tuple #[.int .i64 p.1.to, .int .i64 0]) ∧ w' = w := by
  have c3 := m.c3
  have hf := m.find2 z a
  rw [hi] at hf
  obtain ⟨g, cap, hv, hc1, hc2, hj, A⟩ := m.l2.at hp
  have hlu : P2.length ≤ 65536 := Nat.le_trans (length_le_usedP P2) z.u2
  have d4 := A.c4
  obtain ⟨t, htt⟩ : ∃ t, p.1.to = t := ⟨_, rfl⟩
  rw [htt] at d4 ht ⊢
  rw [hv] at hf c3
  have HF := Lib.hid (show Calls _ _ _ _ (fun e w' => e = .returned (.int .i64 (j : Int)) ∧ w' = w) from hf)
  have hj0 : (0 : Int) ≤ j := by omega
  have hj1 : (j : Int) < P2.length := by omega
  clear m z hf hi A hv htt
  go_enter Try.func58, Try.ntmps58
  go_wp2_with fail
  refine HF.out.mono ?_
  rintro e w' ⟨rfl, rfl⟩
  go_wp2_with fail
  go_ret2
  exact ⟨rfl, rfl⟩
set_option maxRecDepth 100000 in
set_option maxHeartbeats 1000000 in
theorem rmove_full (m : RM w b W h v1 P1 v2 P2) (z : RZ W h P1 P2) (a : Int) {j : Nat} {p : RO × Value} (hi : fidx P2 a = some j) (hp : P2[j]? = some p) (ht : ¬ 0 < p.1.to) (hfl : (W : Int) - usedP P1 ≤ p.1.ws.length) : Calls Try.prog 58 #[.pointer (some ⟨b, 0, none⟩), .int .i64 a] w fun e w' => e = .returned (.tuple #[.int .i64 0, .int .i64 21]) ∧ ∃ n, w' = w.drewN n := by
  have c3 := m.c3
  have hf := m.find2 z a
  rw [hi] at hf
  obtain ⟨g, cap, hv, hc1, hc2, hj, A⟩ := m.l2.at hp
  obtain ⟨ua, uc, hu, hu1, hu2⟩ := own_shape5 (m.l2.ws p (List.mem_of_getElem? hp))
  have hlu : P2.length ≤ 65536 := Nat.le_trans (length_le_usedP P2) z.u2
  have d3 := A.c3
  have d4 := A.c4
  rw [hu] at d3
  obtain ⟨t, htt⟩ : ∃ t, p.1.to = t := ⟨_, rfl⟩
  rw [htt] at d4 ht
  rw [hv] at hf c3
  have HF := Lib.hid (show Calls _ _ _ _ (fun e w' => e = .returned (.int .i64 (j : Int)) ∧ w' = w) from hf)
  have HFR := Lib.hid (fun n => rfree_any (m.drewN n) z)
  have hj0 : (0 : Int) ≤ j := by omega
  have hj1 : (j : Int) < P2.length := by omega
  clear m z hf hi A hv htt hu
  go_enter Try.func58, Try.ntmps58
  go_wp2_with fail
  refine HF.out.mono ?_
  rintro e w' ⟨rfl, rfl⟩
  go_wp2_with fail
  go_quiet ((go_at_call 62; refine Calls.quiet_of (HFR.out _)))
  go_wp2_with fail
  go_ret2
  exact ⟨rfl, _, rfl⟩
theorem own_pT {v : Value} {P : List (RO × Value)} {j : Nat} {p : RO × Value} {t : Int} (hp : P[j]? = some p) : ∀ i, OwnL v (P.set j (pT p t)) i → OwnL v P i := by
  rintro i (q | ⟨r, hr, q⟩)
  · exact .inl q
  · rcases List.mem_or_eq_of_mem_set hr with e | e
    · exact .inr ⟨r, e, q⟩
    · rw [e] at q; exact .inr ⟨p, List.mem_of_getElem? hp, q⟩
theorem RM.moved (m : RM wr b W h v1 P1 v2 P2) {j g n c : Nat} {p : RO × Value} (hp : P2[j]? = some p) (hv : v2 = .slice (some ⟨g, 0, none⟩) n c) (t : Int) :
    RM (wr.setCell ⟨g, j * 5 + 4, none⟩ (.int .i64 t)) b W h v1 P1 v2 (P2.set j (pT p t)) ∧ (∀ i, OwnR b v1 P1 v2 (P2.set j (pT p t)) i → OwnR b v1 P1 v2 P2 i) ∧ Fr (OwnR b v1 P1 v2 P2) wr (wr.setCell ⟨g, j * 5 + 4, none⟩ (.int .i64 t)) := by
  have hog : OwnL v2 P2 g := .inl (by rw [hv]; rfl)
  have hf : Fr (· = g) wr (wr.setCell ⟨g, j * 5 + 4, none⟩ (.int .i64 t)) := (Fr.refl (· = g) wr).setCell (p := ⟨g, j * 5 + 4, none⟩) (.inl rfl) _
  refine ⟨⟨(hf.block b m.lt (fun e => m.n2 (by rw [e]; exact hog))).trans m.blk, m.l1.kept hf (fun i hi e => by subst e; exact m.n3 i hi hog), m.l2.set_to hp hv, m.n1, fun q => m.n2 (own_pT hp _ q), fun i hi q => m.n3 i hi (own_pT hp _ q)⟩, ?_, hf.mono (fun i hi => .inl (.inr (.inr (by subst hi; exact hog))))⟩
  rintro i (q | q | q)
  · exact .inl q
  · exact .inr (.inl q)
  · exact .inr (.inr (own_pT hp _ q))
/-- the words of an object in the making are laid -/
theorem AO.words {w w3 w5 : World} {ob z5 : Nat} {oa A ok ot tt : Int} {u0 v5 : Value} {ws : List Nat} {tmp : Obj} (hB : Below w.heap.size w w3) (hsz : w.heap.size ≤ ob) (hblk : w3.heap[ob]? = some (.cells #[.int .i64 oa, .int .i64 ok, .int .i64 ot, u0, .int .i64 tt] 90 (0, 0)))
    (hz : ws.length = z5) (hown : w5.ownsRow w.heap.size 56 1 v5 (0 + z5) ([] ++ u64s ws)) (hg : ((w3.setCell ⟨ob, 0, none⟩ (.int .i64 A)).alloc tmp).grownBy w5 (some w3.heap.size)) :
    w5.cell? ⟨ob, 3, none⟩ = some u0 ∧ w5.frozen? ⟨ob, 3, none⟩ = false ∧ AO w ob A ok ot tt ws v5 (w5.setCell ⟨ob, 3, none⟩ v5) := by
  subst hz
  rw [Nat.zero_add, List.nil_append] at hown
  have hlt : ob < w3.heap.size := (Array.getElem?_eq_some_iff.1 hblk).1
  have hs4 : (w3.setCell ⟨ob, 0, none⟩ (.int .i64 A)).heap.size = w3.heap.size := by simp [World.setCell]
  have h4 := blk_set hblk 0 (.int .i64 A)
  have hb : w5.heap[ob]? = _ := (hg.block ob (by simp; omega) (fun e => by have := Option.some.inj e; omega)).trans ((Below.heap_alloc _ tmp ob (by omega)).trans h4)
  refine ⟨blk_cell hb 3, blk_free hb 3, blk_set hb 3 v5, own_set0 hown (fun g hg' e => ?_), ?_, hsz⟩
  · subst e
    obtain ⟨cs, h⟩ := row_block (own_mono hown (Nat.zero_le _)) hg'
    rw [hb] at h
    injection h with h
    injection h with _ h3 _
    exact absurd h3 (by decide)
  · have h1 := hB.size
    exact (((hB.setCell (p := ⟨ob, 0, none⟩) hsz (.int .i64 A)).alloc (by omega) tmp).grown hg (by simp; omega) (fun k hk => by have := Option.some.inj hk; omega)).setCell (p := ⟨ob, 3, none⟩) hsz _
set_option maxRecDepth 100000 in
set_option maxHeartbeats 8000000 in
theorem rmove_ok (m : RM w b W h v1 P1 v2 P2) (z : RZ W h P1 P2) (a : Int) {j : Nat} {p : RO × Value} (hi : fidx P2 a = some j) (hp : P2[j]? = some p) (ht : ¬ 0 < p.1.to) (hfl : usedP P1 + p.1.ws.length + 1 ≤ W) : Calls Try.prog 58 #[.pointer (some ⟨b, 0, none⟩), .int .i64 a] w fun e w' => e = .returned (.tuple #[.int .i64 (adr h W (usedP P1)), .int .i64 0]) ∧
    ∃ v' u, RM w' b W h v' (P1 ++ [({ p.1 with at_ := adr h W (usedP P1) }, u)]) v2 (P2.set j (pT p (adr h W (usedP P1)))) ∧ (∀ i, OwnR b v' (P1 ++ [({ p.1 with at_ := adr h W (usedP P1) }, u)]) v2 (P2.set j (pT p (adr h W (usedP P1)))) i → OwnR b v1 P1 v2 P2 i ∨ w.heap.size ≤ i) ∧ Fr (OwnR b v1 P1 v2 P2) w w' := by
  obtain ⟨i0, hi0, hz0, hz1, hz2⟩ := info_parts infoU64
  obtain ⟨i5, hi5, hy0, hy1, hy2⟩ := info_parts infoObj
  have c3 := m.c3
  have hf := m.find2 z a
  rw [hi] at hf
  obtain ⟨g, cap, hv, hc1, hc2, hj, AT⟩ := m.l2.at hp
  have hog : OwnL v2 P2 g := .inl (by rw [hv]; rfl)
  have hgw := m.l2.lt g hog
  have hbg : b ≠ g := fun e => m.n2 (by rw [e]; exact hog)
  have how := m.l2.ws p (List.mem_of_getElem? hp)
  obtain ⟨ua, uc, hu, hu1, hu2⟩ := own_shape5 how
  have hlu : P2.length ≤ 65536 := Nat.le_trans (length_le_usedP P2) z.u2
  obtain ⟨A, hA⟩ : ∃ A, adr h W (usedP P1) = A := ⟨_, rfl⟩
  have HFR := Lib.hid (fun n => rfree_any (m.drewN n) z)
  have HNX := Lib.hid (fun (W1 : World) (hb : Below w.heap.size w W1) => rnext_any (m.below hb) z)
  rw [hA] at HNX ⊢
  obtain ⟨⟨oa, ok, ot, ws, tt⟩, uu⟩ := p
  simp only at hu hu1 ht hfl how AT
  subst hu
  have d0 := AT.c0
  have d1 := AT.c1
  have d2 := AT.c2
  have d3 := AT.c3
  have d4 := AT.c4
  have fg := AT.fz (j * 5 + 4)
  simp only at d0 d1 d2 d3 d4
  rw [hv] at hf c3
  have HF := Lib.hid (show Calls _ _ _ _ (fun e w' => e = .returned (.int .i64 (j : Int)) ∧ w' = w) from hf)
  have hj0 : (0 : Int) ≤ j := by omega
  have hj1 : (j : Int) < P2.length := by omega
  have hbl := m.lt
  have HM := Lib.hid m
  have HV := Lib.hid hv
  have HP := Lib.hid hp
  have HOW := Lib.hid how
  have hw1 := z.w1
  have hlu1 := length_le_usedP P1
  obtain ⟨n2, hn2⟩ : ∃ n, P2.length = n := ⟨_, rfl⟩
  rw [hn2] at c3 hf HF hj1 hlu hc1 hj HV
  obtain ⟨us, hus⟩ : ∃ us, usedP P1 = us := ⟨_, rfl⟩
  rw [hus] at hfl hlu1 HFR
  obtain ⟨z5, hz5⟩ : ∃ z5, ws.length = z5 := ⟨_, rfl⟩
  have HZ5 := Lib.hid hz5
  rw [hz5] at hfl hu1 d3 HOW
  clear m z hf hi AT hv hp how hA hog hn2 hus hz5
  go_enter Try.func58, Try.ntmps58
  go_wp2_with fail
  refine HF.out.mono ?_
  rintro e w' ⟨rfl, hww⟩
  subst w'
  go_wp2_with fail
  go_quiet ((go_at_call 62; refine Calls.quiet_of (HFR.out _)))
  obtain ⟨w2, hw2⟩ : ∃ w2, w.drewN nq = w2 := ⟨_, rfl⟩
  have hb2 : Below w.heap.size w w2 := by rw [← hw2]; exact ((Fr.refl (fun _ => False) w).drewN nq).below (Nat.le_refl _) (fun _ h => h.elim)
  have hcell : ∀ a, w2.cell? a = w.cell? a := fun a => by rw [← hw2]; rfl
  have hfz : ∀ a, w2.frozen? a = w.frozen? a := fun a => by rw [← hw2]; rfl
  have hs2 : w2.heap.size = w.heap.size := by rw [← hw2]; rfl
  rw [hw2]
  rw [← hcell] at c3 d0 d1 d2 d3 d4
  rw [← hfz] at fg
  obtain ⟨ob, hob⟩ : ∃ ob, w2.heap.size = ob := ⟨_, rfl⟩
  have hsz : w.heap.size ≤ ob := by omega
  have hob1 : ob ≠ b := by omega
  have hob2 : ob ≠ g := by omega
  have HB2 := Lib.hid hb2
  have hbw2 : b < w2.heap.size := by omega
  have hgw2 : g < w2.heap.size := by omega
  clear hw2 hb2 hcell hfz hs2
  go_wp2_with fail
  refine (HNX.out _ (HB2.out.alloc HB2.out.size _)).mono ?_
  rintro e w3 ⟨rfl, n3, hw3⟩
  have hB3 : Below w.heap.size w w3 := by rw [hw3]; exact ((Fr.of_below (O := fun _ => False) (HB2.out.alloc HB2.out.size _)).drewN n3).below (Nat.le_refl _) (fun _ h => h.elim)
  have hblk3 : w3.heap[ob]? = some (.cells #[.int .i64 oa, .int .i64 ok, .int .i64 ot, .slice ua z5 uc, .int .i64 tt] 90 (0, 0)) := by rw [hw3, ← hob]; exact heap_alloc_new w2 _
  have hm3 := HM.out.below hB3
  have c3' := hm3.c3
  obtain ⟨g', cap', hv', _, _, _, AT'⟩ := hm3.l2.at HP.out
  have hvv := HV.out
  rw [hvv] at hv' c3'
  injection hv' with e1 e2 e3
  injection e1 with e1
  injection e1 with e1 _ _
  subst e1
  clear e2 e3
  have d3' := AT'.c3
  have d4' := AT'.c4
  have fg' := AT'.fz (j * 5 + 4)
  simp only at d3' d4'
  rw [HZ5.out] at d3'
  have HM3 := Lib.hid hm3
  have HB3 := Lib.hid hB3
  have HBL3 := Lib.hid hblk3
  have hs3 := hB3.size
  have hob3 : ob < w3.heap.size := (Array.getElem?_eq_some_iff.1 hblk3).1
  have e0 := blk_cell hblk3 0
  have f0 := blk_free hblk3 0
  clear hw3 hB3 hblk3 hm3 hvv AT' c3 d0 d1 d2 d3 d4 fg hob hbw2 hgw2
  have HO0 : Hid (((w3.setCell ⟨ob, 0, none⟩ (.int .i64 A)).alloc (.cells #[] 56)).ownsRow w.heap.size 56 1 (.slice (some ⟨w3.heap.size, 0, none⟩) 0 0) 0 []) := by
    have h := own_empty (w3.setCell ⟨ob, 0, none⟩ (.int .i64 A)) 56
    rw [show (w3.setCell ⟨ob, 0, none⟩ (.int .i64 A)).heap.size = w3.heap.size from by simp [World.setCell]] at h
    exact own_mono h HB3.out.size
  have HSRC : Hid (((w3.setCell ⟨ob, 0, none⟩ (.int .i64 A)).alloc (.cells #[] 56)).ownsRow 0 56 1 (.slice ua z5 uc) z5 (u64s ws)) :=
    (own_set0 (own_below HOW.out HB3.out) (fun g hg => by have := (HOW.out.lt g hg).2; omega)).alloc _
  have hb3 : b < w3.heap.size := by omega
  have hg3 : g < w3.heap.size := by omega
  go_wp2_with (at_builtin; refine wpList_append_row rfl _ _ 32 rfl w.heap.size 56 i0 (.int .u64 0) 8 Try.underlying32 hi0 hz0 hz1 hz2 rfl (.slice (some ⟨w3.heap.size, 0, none⟩) 0 0) 0 [] rfl HO0.out (.slice ua z5 uc) z5 (u64s ws) rfl HSRC.out (u64s_one ws) (by unfold maxLen; omega) (by omega) (by simp [World.setCell]; omega) ?_; intro v5 w5 hown5 hgrow5 hblk5; obtain ⟨a5, k5, rfl, hk5, hk6⟩ := own_shape5 (own_mono hown5 (Nat.zero_le _)); rw [Nat.zero_add] at hk5; obtain ⟨x5, y5, X5⟩ := AO.words HB3.out hsz HBL3.out HZ5.out hown5 hgrow5; have HX5 := Lib.hid X5; clear X5 hown5 hgrow5 hblk5)
  obtain ⟨w6, hw6⟩ : ∃ w6, w5.setCell ⟨ob, 3, none⟩ (.slice a5 z5 k5) = w6 := ⟨_, rfl⟩
  rw [Nat.zero_add, hw6] at HX5
  rw [hw6]
  have hm6 := HM.out.below HX5.out.base
  have c6 := hm6.c3
  obtain ⟨g6, cap6, hv6, _, _, _, AT6⟩ := hm6.l2.at HP.out
  rw [HV.out] at hv6 c6
  injection hv6 with e1 e2 e3
  injection e1 with e1
  injection e1 with e1 _ _
  subst e1
  clear e2 e3
  have d6 := AT6.c4
  have f6 := AT6.fz (j * 5 + 4)
  simp only at d6
  have e6 := blk_cell HX5.out.blk 0
  have hob6 : ob < w6.heap.size := (Array.getElem?_eq_some_iff.1 HX5.out.blk).1
  have HM6 := Lib.hid hm6
  clear hw6 hm6 AT6 c3' d3' d4' fg' e0 f0 x5 y5
  go_still_tail 9, (by kernel_rfl)
  go_wp2_with fail
  obtain ⟨hm7, ho7, hf7⟩ := HM6.out.moved (j := j) HP.out HV.out A
  obtain ⟨w7, hw7⟩ : ∃ w7, (w6.setCell ⟨g, j * 5 + 4, none⟩ (.int .i64 A)).drew = w7 := ⟨_, rfl⟩
  have hf67 : Fr (· = g) w6 w7 := by rw [← hw7]; exact ((Fr.refl (· = g) w6).setCell (p := ⟨g, j * 5 + 4, none⟩) (.inl rfl) _).drew
  have hf7' : Fr (OwnR b v1 P1 v2 P2) w6 w7 := by rw [← hw7]; exact hf7.drew
  have hm7' : RM w7 b W h v1 P1 v2 (P2.set j (pT (⟨oa, ok, ot, ws, tt⟩, .slice ua ws.length uc) A)) := by rw [← hw7]; exact hm7.drewN 1
  rw [hw7]
  have hblk7 : w7.heap[ob]? = _ := (hf67.block ob hob6 hob2).trans HX5.out.blk
  have hown7 := hf67.own HX5.out.own (fun k hk e => by subst e; have := (HX5.out.own.lt k hk).1; omega)
  have hs7 := hf67.size
  have hsx := HX5.out.base.size
  have c7 := hm7'.c2
  obtain ⟨a1, c1, hv1, hc11, hc12⟩ := own_shape5 hm7'.l1.row
  obtain ⟨N, hN⟩ : ∃ N, P1.length = N := ⟨_, rfl⟩
  have hro := hm7'.l1.row
  rw [hN] at hv1 hc11 hlu1
  rw [hN, hv1] at hro
  rw [hv1] at c7
  have HV1 := Lib.hid (And.intro hN hv1)
  have HRO := Lib.hid hro
  have HM7 := Lib.hid hm7'
  have HF7 := Lib.hid hf7'
  have HO7 := Lib.hid ho7
  have HU7 := Lib.hid hown7
  have g0 := blk_cell hblk7 0
  have g1 := blk_cell hblk7 1
  have g2 := blk_cell hblk7 2
  have g3 := blk_cell hblk7 3
  have g4 := blk_cell hblk7 4
  have hob7 : ob < w7.heap.size := by omega
  have hb7 : b < w7.heap.size := by omega
  have HU := Lib.hid (((Fr.refl (fun _ => False) w7).drewN 1).own (own_mono hown7 (Nat.zero_le _)) (fun _ _ => id))
  clear hm7 ho7 hf7 hw7 hf67 hf7' hm7' hblk7 hown7 hv1 hN hro c6 d6 f6 e6
  go_region_law ((refine step_append_lies _ (by rfl) _ _ 28 (by rfl) 0 90 i5 (.agg #[.int .i64 0, .int .i64 0, .int .i64 0, .slice none 0 0, .int .i64 0]) 5 56 Try.underlying28 hi5 hy0 hy1 hy2 rfl (by decide) (.slice a1 N c1) _ _ (by rfl) ((HRO.out.drew).alloc _) ⟨w7.heap.size, 0, none⟩ 1 1 [.int .i64 A, .int .i64 ok, .int .i64 ot, .slice a5 z5 k5, .int .i64 tt] (by rfl) rfl (cells5_at _ _ _ _ _ _ _ _ (by simp)) (ro_one (o := ⟨A, ok, ot, ws, tt⟩) (u := .slice a5 z5 k5) rfl) (by omega) (by unfold maxLen; omega) (by omega) (Nat.zero_le _) (w7.heap.size + 1) (by simp) ?_; intro g8 cap8 w8 hown8 hgrow8 hblk8 hlt8; obtain ⟨x8, y8, z8, o8, f8⟩ := RM.push (HM7.out.drewN 1) (o := ⟨A, ok, ot, ws, tt⟩) (u := .slice a5 z5 k5) HU.out (fun i hi hn => by have := (HU7.out.lt i hi).1; have := HM.out.own_lt i (HO7.out i hn); omega) (by rw [HV1.out.1]; exact hown8) (by rw [HV1.out.2]; exact hgrow8) (by rw [HV1.out.2]; exact blk_of' hblk8); have HZ8 := Lib.hid z8; have HO8 := Lib.hid o8; have HF8 := Lib.hid f8; clear z8 o8 f8 hown8 hgrow8 hblk8))
  all_goals
    have e0' : (w8.setCell ⟨b, 2, none⟩ (.slice (some ⟨g8, 0, none⟩) (N + 1) cap8)).cell? ⟨ob, 0, none⟩ = some (.int .i64 A) := (HF8.out.cell (p := ⟨ob, 0, none⟩) hob7 (fun hn => by have := HM.out.own_lt ob (HO7.out ob hn); omega)).trans g0
    clear g0 g1 g2 g3 g4 c7
    go_wp2_with fail
    go_ret2
    refine ⟨rfl, _, _, HZ8.out, fun i hi => ?_, (((Fr.of_below (O := fun _ => False) HX5.out.base |>.mono (fun _ h => h.elim)).trans HF7.out (fun i hi => .inl hi)).drewN 1).trans HF8.out (fun i hi => .inl (HO7.out i hi))⟩
    rcases HO8.out i hi with r | r | r
    · exact .inl (HO7.out i r)
    · exact .inr (HU7.out.lt i r).1
    · exact .inr (Nat.le_trans (Nat.le_trans hsx hs7) r)
end
end Go.Proofs.Ytjdhjehnofediaa
