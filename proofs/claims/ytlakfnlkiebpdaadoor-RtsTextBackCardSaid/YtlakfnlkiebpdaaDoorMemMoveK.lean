/- Contracts of Move: no room, and a move. Conditions: the memory lies as Mem says. -/
import Derived.Test.YtlakfnlkiebpdaaDoorMemMove
import Derived.Lib.QuoteBits
namespace Go.Proofs.YtlakfnlkiebpdaaDoor
open Go Go.RowKit
section
variable {w : World} {b W h k : Nat} {R : Nat → Value} {now old : List Ob}
set_option maxHeartbeats 1000000 in
theorem move_full (m : Mem w b W h R now old) (z : WF W h now old) (a : Int) (ha2 : a ≤ 9223372036854775807) {j : Nat} {o : Ob} (hi : idxAt old (1 - h) W a = some j) (ho : old[j]? = some o) (ht : o.to = 0) (hfull : (W : Int) - used now < o.ws.length + 1) :
    Calls Tryd.prog 71 #[.pointer (some ⟨b, 0, none⟩), .int .i64 a] w fun e w' => e = .returned (.tuple #[.int .i64 0, .int .i64 21]) ∧ ∃ n, w' = w.drewN n := by
  have c1 := m.c1
  obtain ⟨k, hk, hk2, hne, hke⟩ := other z.hh
  rw [← hke] at hi
  clear hke
  obtain ⟨g, cap, A⟩ := ato_of m hk2 hne ho
  have hf := find_idx m z k hk2 a ha2
  rw [half_old _ _ hne, hi] at hf
  have HF := Lib.hid hf
  have HM := Lib.hid m
  have HWF := Lib.hid z
  have hwk : wrap64 (1 - (h : Int)) = k := by rw [hk]; unfold wrap64; omega
  have r0 := A.row
  have r1 := A.head
  have hok := z.oko _ (List.mem_of_getElem? ho)
  have hhw : o.hw = hdr o.k o.ws.length o.t := by unfold Ob.hw; rw [if_pos ht]
  have hlt := hdr_lt hok
  have hright := hok.right
  have hbd := right_bd hright
  rw [hhw] at r1
  obtain ⟨s, hs⟩ : ∃ s, o.ws.length = s := ⟨_, rfl⟩
  rw [hs] at hlt hright hbd hfull r1
  have HSP := Lib.hid (fun W => split_o hright W)
  have HP := Lib.hid (fun W => isptr_odd (hdr o.k s o.t) (by unfold hdr; omega) hlt W)
  have r2 := A.fits
  have r3 := A.cap1
  have r4 := A.cap2
  have hs0 : (0 : Int) ≤ start old j := by omega
  have hs1 : (start old j : Int) < used old := by omega
  have hk0 : (0 : Int) ≤ k := by omega
  have hk1 : (k : Int) < 2 := by omega
  have huw : used old ≤ 65536 := Nat.le_trans z.uo z.w1
  have hs2 : s ≤ 1000000000 := by omega
  clear m z hf hi A hhw hlt hright hok hs hbd
  go_enter Tryd.func71, Tryd.ntmps71
  go_wp2_with fail
  refine HF.out.mono ?_
  rintro e w1 ⟨rfl, rfl⟩
  go_wp2_with fail
  go_quiet (fail)
  go_wp2_with fail
  refine (HP.out _).mono ?_
  rintro e w2 ⟨rfl, rfl⟩
  go_wp2_with fail
  refine (HSP.out _).mono ?_
  rintro e w3 ⟨rfl, rfl⟩
  have HM1 := Lib.hid (HM.out.drewN nq)
  go_wp2_with fail
  refine (free_m HM1.out HWF.out rfl _ rfl).mono ?_
  rintro e w4 ⟨rfl, n4, rfl⟩
  go_wp2_with fail
  go_ret2
  exact ⟨rfl, _, rfl⟩
/-- the same of any rows of which one is the old half's -/
theorem ato_gen {L : Nat → List Nat} (m : MemV w b W h R L) (hk : k < 2) (hL : L (k * 2) = flat old) {j : Nat} {o : Ob} (ho : old[j]? = some o) : ∃ g cap, AtO w b k R old j g cap o := by
  obtain ⟨hj, rfl⟩ := List.getElem?_eq_some_iff.1 ho
  have hlt := start_lt old hj
  have hlen : (L (k * 2)).length = used old := by rw [hL, flat_length]
  obtain ⟨g, cap, hv, hle, hcap⟩ := m.some_row (r := k * 2) (j := start old j) (by omega) (by rw [hlen]; omega)
  rw [hlen] at hv hle
  have hcell : ∀ c x, c < used old → (flat old)[c]? = some x → w.cell? ⟨g, c, none⟩ = some (.int .u64 (x : Nat)) := fun c x hc hx => by
    have h1 := (m.row_cell (r := k * 2) (j := c) (by omega) (by rw [hlen]; exact hc) hv).1
    rw [hL, List.getD_eq_getElem?_getD, hx] at h1
    exact h1
  obtain ⟨f1, f2⟩ := flat_at old hj
  refine ⟨g, cap, (m.cr (k * 2) (by omega)).trans (by rw [hv]), hv, hle, hcap, hcell _ _ (by omega) f1, (m.row_cell (r := k * 2) (j := start old j) (by omega) (by rw [hlen]; omega) hv).2, fun q u hu => ?_, hlt⟩
  unfold u64s at hu
  rw [List.getElem?_map] at hu
  cases q with
  | zero =>
    rw [List.getElem?_cons_zero] at hu
    obtain rfl := Option.some.inj hu
    exact hcell _ _ (by omega) f1
  | succ i =>
    rw [List.getElem?_cons_succ] at hu
    by_cases hi : i < old[j].ws.length
    · rw [List.getElem?_eq_getElem hi] at hu
      obtain rfl := Option.some.inj hu
      refine hcell _ _ (by omega) ?_
      rw [show start old j + (i + 1) = start old j + 1 + i by omega, f2 i hi, List.getElem?_eq_getElem hi]
    · rw [List.getElem?_eq_none (by omega)] at hu
      cases hu
theorem u64s_one (l : List Nat) : ∀ v ∈ u64s l, v.oneCell' = true := by
  intro v hv
  unfold u64s at hv
  obtain ⟨n, _, rfl⟩ := List.mem_map.1 hv
  rfl
theorem rowsA_obj {o : Ob} (r : Nat) : rowsA h now old (markAt (marksL now) (used now)) (o.hw :: o.ws) r = rowsOf h (now ++ [o]) old r := by
  unfold rowsA
  by_cases e : r = h * 2
  · subst e
    rw [upd_same, rows_cells, half_now, flat_append]
    show _ = flat now ++ (o.hw :: o.ws ++ [])
    rw [List.append_nil]
  · rw [upd_other _ _ e]
    by_cases e2 : r = h * 2 + 1
    · subst e2
      rw [upd_same, rows_marks, half_now, marksL_snoc]
    · rw [upd_other _ _ e2]
      unfold rowsOf
      have q : ¬ r / 2 = h := by omega
      rw [if_neg q, if_neg q]
theorem rows_moved {o : Ob} {j T : Nat} (hk : k < 2) (hh : h < 2) (hne : k ≠ h) (ho : old[j]? = some o) (hT : T ≠ 0) (r : Nat) (hr : r < 4) :
    upd (rowsA h now old (markAt (marksL now) (used now)) (o.hw :: o.ws)) (k * 2) ((flat old).set (start old j) (2 * T)) r = rowsOf h (now ++ [o]) (old.set j { o with to := T }) r := by
  rw [← flat_set_head ho hT, ← rows_upd_old hk hh hne (sz_set (o' := { o with to := T }) ho rfl) r hr]
  by_cases e : r = k * 2
  · subst e; rw [upd_same, upd_same]
  · rw [upd_other _ _ e, upd_other _ _ e]; exact rowsA_obj r
theorem rowsA_other {M f : List Nat} (hne : k ≠ h) : rowsA h now old M f (k * 2) = flat old := by
  unfold rowsA
  rw [upd_other _ _ (by omega), upd_other _ _ (by omega), rows_cells, half_old _ _ hne]
/-- an append of several to a row, and the store of what it gives -/
theorem ST.apps {O : Nat → Prop} {L : Nat → List Nat} {wr w1 : World} {R1 : Nat → Value} (s : ST w O b W h L wr R1) {r : Nat} (hr : r < 4) {u v' : Value} (hv : R1 r = u) {n : Nat} {l : List Nat} (hn : l.length = n) (hown : w1.ownsRow 0 33 1 v' n (u64s l)) (hgrow : wr.grownBy w1 u.ownBlock) (hblk : v'.ownBlock = u.ownBlock ∨ v'.ownBlock = some wr.heap.size) :
    w1.cell? ⟨b, 2 + r, none⟩ = some u ∧ w1.frozen? ⟨b, 2 + r, none⟩ = false ∧ ST w O b W h (upd L r l) (w1.setCell ⟨b, 2 + r, none⟩ v') (upd R1 r v') := by
  subst hv hn
  have hfr : Fr (fun i => (R1 r).ownBlock = some i) wr w1 := (Fr.refl _ wr).grown hgrow (fun _ hk => .inl hk)
  obtain ⟨q1, q2⟩ := s.far hr hfr
  refine ⟨q1 _ _ (s.m.cr r hr), q2 _, s.put hr hfr hown fun g hg => ?_⟩
  rcases hblk with e | e
  · left; rw [← e]; exact hg
  · right
    rw [e] at hg
    have := Option.some.inj hg
    omega
/-- one cell of a row is stored -/
theorem ST.set {O : Nat → Prop} {L : Nat → List Nat} {wr : World} {R1 : Nat → Value} (s : ST w O b W h L wr R1) {r j g n cap z : Nat} (hr : r < 4) (hv : R1 r = .slice (some ⟨g, 0, none⟩) n cap) : ST w O b W h (upd L r ((L r).set j z)) (wr.setCell ⟨g, j, none⟩ (.int .u64 (z : Int))) R1 :=
  ⟨s.m.set_cell hr hv, s.sub, s.fr.setCell (p := ⟨g, j, none⟩) (s.sub g (.inr ⟨r, hr, by rw [hv]; rfl⟩)) _⟩
set_option maxRecDepth 100000 in
set_option maxHeartbeats 4000000 in
theorem move_raw (m : Mem w b W h R now old) (z : WF W h now old) (a : Int) (ha2 : a ≤ 9223372036854775807) {j : Nat} {o : Ob} (hi : idxAt old (1 - h) W a = some j) (ho : old[j]? = some o) (ht : o.to = 0) (hfit : used now + o.ws.length + 1 ≤ W) (T : Nat) (hT : adr h W (used now) = T) :
    Calls Tryd.prog 71 #[.pointer (some ⟨b, 0, none⟩), .int .i64 a] w fun e w' => e = .returned (.tuple #[.int .i64 T, .int .i64 0]) ∧ MS w (Own b R) w' b W h (rowsOf h (now ++ [o]) (old.set j { o with to := T })) := by
  obtain ⟨i0, hinf, hz0, hz1, hz2⟩ := info_parts infoU64
  have c1 := m.c1
  have hh := z.hh
  obtain ⟨k, hk, hk2, hne, hke⟩ := other z.hh
  rw [← hke] at hi
  clear hke
  obtain ⟨g, cap, A⟩ := ato_of m hk2 hne ho
  have hf := find_idx m z k hk2 a ha2
  rw [half_old _ _ hne, hi] at hf
  have HF := Lib.hid (show Calls Tryd.prog 86 #[.pointer (some ⟨b, 0, none⟩), .int .i64 k, .int .i64 a] w fun e w' => e = .returned (.tuple #[.int .i64 (start old j : Nat), .bool true]) ∧ w' = w from hf)
  have HM := Lib.hid m
  have HWF := Lib.hid z
  have HOJ := Lib.hid ho
  have hwk : wrap64 (1 - (h : Int)) = k := by rw [hk]; unfold wrap64; omega
  have r0 := A.row
  have r1 := A.head
  have hok := z.oko _ (List.mem_of_getElem? ho)
  have hhw : o.hw = hdr o.k o.ws.length o.t := by unfold Ob.hw; rw [if_pos ht]
  have hlt := hdr_lt hok
  have hright := hok.right
  have hbd := right_bd hright
  obtain ⟨H, hH⟩ : ∃ H, o.hw = H := ⟨_, rfl⟩
  have HH := Lib.hid hH
  obtain ⟨s, hs⟩ : ∃ s, o.ws.length = s := ⟨_, rfl⟩
  have HS := Lib.hid hs
  rw [hs] at hlt hright hbd hfit hhw
  have hsp := fun W => split_o hright W
  rw [← hhw, hH] at hsp
  have hip := fun W => isptr_odd (hdr o.k s o.t) (by unfold hdr; omega) hlt W
  rw [← hhw, hH] at hip
  have HSP := Lib.hid hsp
  have HP := Lib.hid hip
  rw [hH] at r1
  have r2 := A.fits
  rw [hs] at r2
  have r3 := A.cap1
  have r4 := A.cap2
  have hw1 := z.w1
  have hun := z.un
  have hT1 : 1 ≤ T := by unfold adr at hT; split at hT <;> omega
  have hT2 : T ≤ 131072 := by unfold adr at hT; split at hT <;> omega
  have HPT := Lib.hid (fun W => ptr_word T hT1 hT2 W)
  have hs0 : (0 : Int) ≤ start old j := by omega
  have hs1 : (start old j : Int) < used old := by omega
  have hk0 : (0 : Int) ≤ k := by omega
  have hk1 : (k : Int) < 2 := by omega
  have hh0 : (0 : Int) ≤ h := by omega
  have hh1 : (h : Int) < 2 := by omega
  have huw : used old ≤ 65536 := Nat.le_trans z.uo z.w1
  have hs2 : s ≤ 1000000000 := by omega
  have HAT := Lib.hid hT
  obtain ⟨u, hu⟩ : ∃ u, used now = u := ⟨_, rfl⟩
  have HU := Lib.hid hu
  rw [hu] at hfit hun
  obtain ⟨MM, hMM⟩ : ∃ MM, markAt (marksL now) (used now) = MM := ⟨_, rfl⟩
  have HMM := Lib.hid hMM
  obtain ⟨x, hx⟩ : ∃ x, start old j = x := ⟨_, rfl⟩
  rw [hx] at HF r1 r2 hs0 hs1
  have HX := Lib.hid hx
  clear m z hf hi A hhw hlt hright hok hs hbd hH hip hsp hMM hu hT ht ho hx
  go_enter Tryd.func71, Tryd.ntmps71
  go_wp2_with fail
  refine HF.out.mono ?_
  rintro e w1 ⟨rfl, rfl⟩
  go_wp2_with fail
  go_quiet (fail)
  go_wp2_with fail
  refine (HP.out _).mono ?_
  rintro e w2 ⟨rfl, rfl⟩
  go_wp2_with fail
  refine (HSP.out _).mono ?_
  rintro e w3 ⟨rfl, rfl⟩
  have HM1 := Lib.hid (HM.out.drewN nq)
  go_wp2_with fail
  refine (free_m HM1.out HWF.out HU.out _ rfl).mono ?_
  rintro e w4 ⟨rfl, n4, hw⟩
  have HS1 := Lib.hid (show ST w1 (Own b R) b W h (rowsOf h now old) w4 R from by rw [hw]; exact ⟨(HM.out.drewN nq).drewN n4, fun _ h => .inl h, ((Fr.refl _ _).drewN nq).drewN n4⟩)
  have c1' := HS1.out.m.c1
  clear hw c1 r0 r1
  go_wp2_with fail
  have hnx : ∀ n', Calls Tryd.prog 19 #[.pointer (some ⟨b, 0, none⟩)] (w4.drewN n') fun e w' => e = .returned (.int .i64 T) ∧ ∃ m, w' = (w4.drewN n').drewN m := fun n' => by
    have := next_any (HS1.out.m.drewN n') HWF.out.sizes
    rw [rows_cells, half_now, flat_length, HAT.out] at this
    exact this
  have HNX := Lib.hid hnx
  clear hnx
  go_quiet ((go_at_call 19; refine Calls.quiet_of (HNX.out _)))
  go_wp2_with fail
  refine (mark_any (HS1.out.drewN nq).m HWF.out.sizes).mono ?_
  rintro e w2 ⟨rfl, hms⟩
  rw [rows_cells, rows_marks, half_now, flat_length, HMM.out] at hms
  obtain ⟨R2, S2⟩ := (HS1.out.drewN nq).step hms
  have S2' : ST w1 (Own b R) b W h (rowsA h now old MM []) w2 R2 := S2.congr fun r _ => by
    unfold rowsA
    rw [List.append_nil]
    by_cases e : r = h * 2
    · subst e; rw [upd_same, upd_other _ _ (by omega), rows_cells, half_now]
    · rw [upd_other (r := h * 2) _ _ e]
  have HS2 := Lib.hid S2'
  obtain ⟨a2, cap2, hv2, hc2, hf2, hown2, hle2, hcm2⟩ := S2'.row (r := h * 2) (by omega)
  have hlen2 : (rowsA h now old MM [] (h * 2)).length = u := by rw [rowsA_cells, List.append_nil, flat_length, HU.out]
  rw [hlen2] at hv2 hc2 hown2 hle2
  rw [rowsA_cells, List.append_nil] at hown2
  have HV2 := Lib.hid hv2
  have HO2 := Lib.hid hown2
  obtain ⟨g2, cap3, A2⟩ := ato_gen S2'.m hk2 (rowsA_other hne) HOJ.out
  have q0 := A2.row
  have q1 := A2.fits
  rw [HX.out, HS.out] at q1
  have q2 := A2.cap1
  have q3 := A2.cap2
  have hlw : (u64s (o.hw :: o.ws)).length = s + 1 := by rw [u64s_length, List.length_cons, HS.out]
  have HLW := Lib.hid hlw
  have hce := A2.cells
  rw [HX.out] at hce
  have HCE := Lib.hid hce
  obtain ⟨P, hP⟩ : ∃ P, x + s + 1 = P := ⟨_, rfl⟩
  have hPw : IntKind.i64.wrap (IntKind.i64.wrap ((x : Int) + s) + 1) = (P : Int) := by
    rw [show (x : Int) + s = ((x + s : Nat) : Int) by omega, Lib.wrap_i64_small _ (by omega), show ((x + s : Nat) : Int) + 1 = ((x + s + 1 : Nat) : Int) by omega, Lib.wrap_i64_small _ (by omega), hP]
  have hPx : P - x = s + 1 := by omega
  have hP1 : P ≤ cap3 := by omega
  have hP2 : x ≤ P := by omega
  have hP3 : ¬ cap3 = x := by omega
  clear hms S2 S2' hv2 hown2 hlen2 A2 c1' r2 r3 r4 hlw hce hP
  go_wp2_with fail
  go_region_law ((refine step_append_lies _ (by rfl) _ _ 43 (by rfl) 0 33 i0 (.int .u64 0) 1 8 Tryd.underlying43 hinf hz0 hz1 hz2 rfl (by decide) (.slice a2 u cap2) _ _ (by rfl) (HO2.out.drew) ⟨g2, x, none⟩ (s + 1) _ (u64s (o.hw :: o.ws)) (by rfl) (by rw [HLW.out, Nat.mul_one]) (by intro q v hv; rw [show (⟨g2, x, none⟩ : Addr).add q = ⟨g2, x + q, none⟩ from by simp [Addr.add]]; exact HCE.out q v hv) (u64s_one _) (Nat.succ_pos _) (by unfold maxLen; omega) (by omega) (Nat.zero_le _) w2.heap.size rfl ?_; intro g6 cap6 w6 hown6 hgrow6 hblk6 hlt6; rw [← u64s_append] at hown6; obtain ⟨x6, y6, S6⟩ := HS2.out.drew.apps (r := h * 2) (by omega) HV2.out (by rw [List.length_append, flat_length, HU.out, List.length_cons, HS.out]) hown6 hgrow6 (blk_of hblk6 rfl); have HS6 := Lib.hid (S6.congr (L' := rowsA h now old MM (o.hw :: o.ws)) fun r _ => rowsA_upd (h := h) (now := now) (old := old) MM [] (o.hw :: o.ws) r); clear S6 hown6 hgrow6 hblk6))
  all_goals
    obtain ⟨W4, hW4⟩ : ∃ W4, w6.setCell ⟨b, 2 + h * 2, none⟩ (.slice (some ⟨g6, 0, none⟩) (u + (s + 1)) cap6) = W4 := ⟨_, rfl⟩
    rw [hW4] at HS6 ⊢
    obtain ⟨g7, cap7, A7⟩ := ato_gen HS6.out.m hk2 (rowsA_other hne) HOJ.out
    have t0 := A7.row
    have t1 := A7.head
    have t2 := A7.fits
    have t3 := A7.cap1
    have t4 := A7.cap2
    have t5 := A7.frozen
    have HV7 := Lib.hid A7.val
    rw [HX.out] at t1 t2 t5
    clear A7 hW4 x6 y6 hlt6 q0 q1 q2 q3 hPw hPx hP1 hP2 hP3
    go_wp2_with fail
  all_goals
    go_region_law ((go_simp; go_at_call 44; refine (HPT.out _).mono ?_; rintro e w' ⟨rfl, rfl⟩))
  all_goals
    have S8 := ((HS6.out.set (r := k * 2) (j := x) (z := 2 * T) (by omega) HV7.out).drew).congr (L' := rowsOf h (now ++ [o]) (old.set j { o with to := T })) (fun r hr => by
      rw [rowsA_other hne, ← HX.out, ← HMM.out]
      exact rows_moved hk2 hh hne HOJ.out (by omega) r hr)
    have HS8 := Lib.hid S8.ms
    clear S8
    go_wp2_with fail
    go_ret2
    exact ⟨rfl, HS8.out⟩
end
end Go.Proofs.YtlakfnlkiebpdaaDoor
