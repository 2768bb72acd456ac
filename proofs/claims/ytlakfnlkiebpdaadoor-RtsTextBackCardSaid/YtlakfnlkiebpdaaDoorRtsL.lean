/- Contracts of fieldOf, sameFields, isCode, alike, and of look on two objects. Condition: the memory is right. -/
import Derived.Test.YtlakfnlkiebpdaaDoorRtsH
namespace Go.Proofs.YtlakfnlkiebpdaaDoor
open Go Go.RowKit
section
variable {w : World} {b W h : Nat} {now old : List Ob} {R : Nat → Value}
theorem alike_is (x : Bool) (w : World) : Calls Tryd.prog 91 #[.bool x] w fun e w' => e = .returned (.int .i64 (if x then 1 else 0)) ∧ w' = w := by
  cases x
  · go_enter Tryd.func91, Tryd.ntmps91
    go_wp2
    go_ret
    exact ⟨rfl, rfl⟩
  · go_enter Tryd.func91, Tryd.ntmps91
    go_wp2
    go_ret
    exact ⟨rfl, rfl⟩
def isC (k : Nat) : Bool := k == 3 || k == 5
theorem iscode_is (k : Nat) (w : World) : Calls Tryd.prog 92 #[.int .i64 (k : Int)] w fun e w' => e = .returned (.bool (isC k)) ∧ w' = w := by
  by_cases h3 : k = 3
  · subst h3
    go_enter Tryd.func92, Tryd.ntmps92
    go_wp2
    go_ret
    exact ⟨rfl, rfl⟩
  · have h1 : ((k : Int) == 3) = false := by simp; omega
    have h2 : isC k = ((k : Int) == 5) := by unfold isC; rw [show (k == 3) = false from by simp [h3], Bool.false_or, Bool.eq_iff_iff]; simp; omega
    rw [h2]
    go_enter Tryd.func92, Tryd.ntmps92
    go_wp2
    go_ret
    exact ⟨rfl, rfl⟩
theorem fieldof_hit (m : Mem w b W h R now old) (z : WF W h now old) (a : Int) (i : Nat) (ha2 : a ≤ 9223372036854775807) {j : Nat} {o : Ob} (hi : idxAt now h W a = some j) (ho : now[j]? = some o) (hr : i < o.ws.length) :
    Calls Tryd.prog 64 #[.pointer (some ⟨b, 0, none⟩), .int .i64 a, .int .i64 i] w fun e w' => e = .returned (.int .u64 (o.ws.getD i 0 : Nat)) ∧ ∃ n, w' = w.drewN n := by
  have HL := Lib.hid (load_hit m z a i ha2 hi ho hr)
  clear m z hi ho hr
  go_enter Tryd.func64, Tryd.ntmps64
  go_wp2_with fail
  refine HL.out.mono ?_
  rintro e w1 ⟨rfl, q, hw1⟩
  subst w1
  go_wp2_with fail
  go_ret
  exact ⟨rfl, q, rfl⟩
set_option maxRecDepth 100000 in
set_option maxHeartbeats 4000000 in
theorem samefields_is (m : Mem w b W h R now old) (z : WF W h now old) (A B : Int) (n : Nat) (hA : A ≤ 9223372036854775807) (hB : B ≤ 9223372036854775807) {i j : Nat} {x y : Ob} (hi : idxAt now h W A = some i) (hx : now[i]? = some x) (hj : idxAt now h W B = some j) (hy : now[j]? = some y) (hxn : x.ws.length = n) (hyn : y.ws.length = n) (hn : n ≤ 100000) :
    Calls Tryd.prog 93 #[.pointer (some ⟨b, 0, none⟩), .int .i64 A, .int .i64 B, .int .i64 (n : Int)] w fun e w' => e = .returned (.bool (decide (x.ws = y.ws))) ∧ ∃ n, w' = w.drewN n := by
  have HFA := Lib.hid (fun q k (hk : k < n) => fieldof_hit (m.drewN q) z A k hA hi hx (by omega))
  have HFB := Lib.hid (fun q k (hk : k < n) => fieldof_hit (m.drewN q) z B k hB hj hy (by omega))
  obtain ⟨xs, hxs⟩ : ∃ xs, x.ws = xs := ⟨_, rfl⟩
  obtain ⟨ys, hys⟩ : ∃ ys, y.ws = ys := ⟨_, rfl⟩
  rw [hxs] at HFA hxn
  rw [hys] at HFB hyn
  rw [hxs, hys]
  have HXN := Lib.hid hxn
  have HYN := Lib.hid hyn
  clear m z hi hx hj hy hxs hys hxn hyn hA hB
  go_enter Tryd.func93, Tryd.ntmps93
  go_wp2_with fail
  go_loopw [11] (fun i wr => ∃ k : Nat, k ≤ n ∧ i = .int .i64 k ∧ xs.take k = ys.take k ∧ ∃ q, wr = w.drewN q) (fun i _ => n - (intOf i).toNat)
  case atStart => exact ⟨0, Nat.zero_le _, rfl, rfl, 0, rfl⟩
  case round =>
    obtain ⟨k, hk, rfl, hek, q, rfl⟩ := hrel
    by_cases hlt : k < n
    · have HA := Lib.hid (HFA.out q k hlt)
      have hb0 : ∀ q2, Calls Tryd.prog 64 #[.pointer (some ⟨b, 0, none⟩), .int .i64 B, .int .i64 (k : Int)] (w.drewN (q + q2)) fun e w' => e = .returned (.int .u64 (ys.getD k 0 : Nat)) ∧ ∃ n, w' = (w.drewN (q + q2)).drewN n := fun q2 => HFB.out (q + q2) k hlt
      have HB := Lib.hid hb0
      have HEK := Lib.hid hek
      have hk1 : (k : Int) < n := by omega
      obtain ⟨u, hu⟩ : ∃ u, xs.getD k 0 = u := ⟨_, rfl⟩
      obtain ⟨v, hv⟩ : ∃ v, ys.getD k 0 = v := ⟨_, rfl⟩
      rw [hu] at HA
      rw [hv] at HB
      have hu' : xs[k]? = some u := by rw [List.getD_eq_getElem?_getD] at hu; rw [List.getElem?_eq_getElem (by rw [HXN.out]; exact hlt)] at hu ⊢; simp at hu; rw [hu]
      have hv' : ys[k]? = some v := by rw [List.getD_eq_getElem?_getD] at hv; rw [List.getElem?_eq_getElem (by rw [HYN.out]; exact hlt)] at hv ⊢; simp at hv; rw [hv]
      have HU := Lib.hid hu'
      have HV := Lib.hid hv'
      clear hb0 hek hu hv hu' hv'
      by_cases huv : u = v
      · have huv2 : ((u : Int) != (v : Int)) = false := by simp; omega
        go_wp2_with fail
        refine HA.out.mono ?_
        rintro e w2 ⟨rfl, q2, hw2⟩
        subst w2
        go_wp2_with fail
        refine (HB.out q2).mono ?_
        rintro e w3 ⟨rfl, q3, hw3⟩
        subst w3
        go_wp2_with fail
        go_roundw
        case rel =>
          refine ⟨k + 1, hlt, by go_num, ?_, ?_⟩
          · obtain ⟨h1, h2⟩ := List.getElem?_eq_some_iff.1 HU.out
            obtain ⟨h3, h4⟩ := List.getElem?_eq_some_iff.1 HV.out
            rw [List.take_succ_eq_append_getElem h1, List.take_succ_eq_append_getElem h3, HEK.out, h2, h4, huv]
          · exact ⟨_, rfl⟩
        case measure => simp [intOf]; omega
      · have huv2 : ((u : Int) != (v : Int)) = true := by simp; omega
        have HNE := Lib.hid huv
        clear huv
        go_wp2_with fail
        refine HA.out.mono ?_
        rintro e w2 ⟨rfl, q2, hw2⟩
        subst w2
        go_wp2_with fail
        refine (HB.out q2).mono ?_
        rintro e w3 ⟨rfl, q3, hw3⟩
        subst w3
        go_wp2_with fail
        go_ret
        refine ⟨?_, ?_⟩
        · exact congrArg (fun x : Bool => Ending.returned (.bool x)) (decide_eq_false (fun he => by
            have h1 := HU.out
            rw [he, HV.out] at h1
            exact HNE.out (Option.some.inj h1).symm)).symm
        · exact ⟨_, rfl⟩
    · obtain rfl : k = n := by omega
      rw [List.take_of_length_le (by rw [HXN.out]; exact Nat.le_refl _), List.take_of_length_le (by rw [HYN.out]; exact Nat.le_refl _)] at hek
      have HEK := Lib.hid hek
      clear hek
      go_wp2_with fail
      go_ret
      exact ⟨congrArg (fun x : Bool => Ending.returned (.bool x)) (decide_eq_true HEK.out).symm, q, rfl⟩
/-- what look tells of two objects -/
def lookO (x y : Ob) (p q : Int) : Int × Int :=
  if isC x.k = true ∨ isC y.k = true then (2, 0)
  else if x.k ≠ y.k then (0, 0)
  else if x.k = 2 then (if p = q then 1 else 0, 0)
  else if x.ws.length ≠ y.ws.length then (0, 0)
  else if x.k = 4 then (if x.ws = y.ws then 1 else 0, 0)
  else (-1, x.ws.length)
set_option maxRecDepth 100000 in
set_option maxHeartbeats 8000000 in
theorem look_obj (m : Mem w b W h R now old) (z : WF W h now old) (a c : Nat) (ha : a < 18446744073709551616) (hc : c < 18446744073709551616) (hea : isIntB (a : Int) = false) (hec : isIntB (c : Int) = false) {i j : Nat} {x y : Ob} (hi : idxAt now h W (toP (a : Int)) = some i) (hx : now[i]? = some x) (hj : idxAt now h W (toP (c : Int)) = some j) (hy : now[j]? = some y) :
    Calls Tryd.prog 63 #[.pointer (some ⟨b, 0, none⟩), .int .u64 (a : Int), .int .u64 (c : Int)] w fun e w' => e = .returned (.tuple #[.int .i64 (lookO x y (toP (a : Int)) (toP (c : Int))).1, .int .i64 (lookO x y (toP (a : Int)) (toP (c : Int))).2, .int .i64 0]) ∧ ∃ n, w' = w.drewN n := by
  have HTA := Lib.hid (show Calls _ _ _ _ (fun e w' => e = .returned (.int .i64 (toP (a : Int))) ∧ w' = w) from (toptr_any (a : Int) w (by omega) (by omega)).mono fun e w' ⟨h1, h2⟩ => ⟨h1, h2.symm⟩)
  have HTC := Lib.hid (show Calls _ _ _ _ (fun e w' => e = .returned (.int .i64 (toP (c : Int))) ∧ w' = w) from (toptr_any (c : Int) w (by omega) (by omega)).mono fun e w' ⟨h1, h2⟩ => ⟨h1, h2.symm⟩)
  have hpa : toP (a : Int) ≤ 1099511627776 := by unfold toP; split <;> omega
  have hpc : toP (c : Int) ≤ 1099511627776 := by unfold toP; split <;> omega
  have HLA := Lib.hid (look_hit m z _ (by omega) hi hx)
  have HLC := Lib.hid (fun q => look_hit (m.drewN q) z _ (by omega) hj hy)
  have HIA := Lib.hid (fun W1 : World => show Calls _ _ _ W1 (fun e w' => e = .returned (.bool false) ∧ w' = W1) from (isint_any (a : Int) W1 (by omega) (by omega)).mono fun e w' ⟨h1, h2⟩ => ⟨by rw [h1, hea], h2.symm⟩)
  have HIC := Lib.hid (fun W1 : World => show Calls _ _ _ W1 (fun e w' => e = .returned (.bool false) ∧ w' = W1) from (isint_any (c : Int) W1 (by omega) (by omega)).mono fun e w' ⟨h1, h2⟩ => ⟨by rw [h1, hec], h2.symm⟩)
  have HSF := Lib.hid (fun q (n : Nat) (h1 : x.ws.length = n) (h2 : y.ws.length = n) (h3 : n ≤ 100000) => samefields_is (m.drewN q) z (toP (a : Int)) (toP (c : Int)) n (by omega) (by omega) hi hx hj hy h1 h2 h3)
  have hxl : x.ws.length ≤ 100000 := by
    obtain ⟨_, _, _, h1, _, _⟩ := right_bd (z.okn x (List.mem_of_getElem? hx)).right
    omega
  obtain ⟨A, hA⟩ : ∃ A, toP (a : Int) = A := ⟨_, rfl⟩
  obtain ⟨C, hC⟩ : ∃ C, toP (c : Int) = C := ⟨_, rfl⟩
  rw [hA] at HTA HLA HSF
  rw [hC] at HTC HLC HSF
  rw [hA, hC]
  obtain ⟨P, hP⟩ : ∃ P, lookO x y A C = P := ⟨_, rfl⟩
  rw [hP]
  unfold lookO at hP
  have HXL := Lib.hid hxl
  clear m z hi hx hj hy hA hC hea hec hpa hpc hxl
  go_enter Tryd.func63, Tryd.ntmps63
  go_wp2_with fail
  refine HTA.out.mono ?_
  rintro e w' ⟨rfl, hw⟩
  subst w'
  go_wp2_with fail
  refine HTC.out.mono ?_
  rintro e w' ⟨rfl, hw⟩
  subst w'
  go_wp2_with fail
  refine HLA.out.mono ?_
  rintro e w1 ⟨rfl, q, hw1⟩
  subst w1
  go_wp2_with fail
  refine (HLC.out q).mono ?_
  rintro e w2 ⟨rfl, q2, hw2⟩
  subst w2
  go_wp2_with fail
  refine (HIA.out _).mono ?_
  rintro e w' ⟨rfl, hw⟩
  subst w'
  go_wp2_with fail
  refine (HIC.out _).mono ?_
  rintro e w' ⟨rfl, hw⟩
  subst w'
  go_wp2_with fail
  refine (iscode_is x.k _).mono ?_
  rintro e w' ⟨rfl, hw⟩
  subst w'
  by_cases hcx : isC x.k = true
  · rw [if_pos (.inl hcx)] at hP
    rw [hcx]
    go_wp2_with fail
    go_ret3
    exact ⟨by subst hP; rfl, _, rfl⟩
  have hcx : isC x.k = false := by simpa using hcx
  rw [hcx]
  go_wp2_with fail
  refine (iscode_is y.k _).mono ?_
  rintro e w' ⟨rfl, hw⟩
  subst w'
  by_cases hcy : isC y.k = true
  · rw [if_pos (.inr hcy)] at hP
    rw [hcy]
    go_wp2_with fail
    go_ret3
    exact ⟨by subst hP; rfl, _, rfl⟩
  have hcy : isC y.k = false := by simpa using hcy
  rw [if_neg (by rw [hcx, hcy]; rintro (q | q) <;> cases q)] at hP
  rw [hcy]
  by_cases hk : x.k ≠ y.k
  · rw [if_pos hk] at hP
    have hk2 : ((x.k : Int) != (y.k : Int)) = true := by simp; omega
    go_wp2_with fail
    go_ret3
    exact ⟨by subst hP; rfl, _, rfl⟩
  rw [if_neg hk] at hP
  have hk : x.k = y.k := Classical.not_not.1 hk
  have hk2 : ((x.k : Int) != (y.k : Int)) = false := by simp; omega
  clear hk
  by_cases hr : x.k = 2
  · rw [if_pos hr] at hP
    have hr2 : ((x.k : Int) == 2) = true := by simp; omega
    by_cases hac : A = C
    · rw [if_pos hac] at hP
      have hac2 : (A == C) = true := by simp [hac]
      go_wp2_with fail
      refine (alike_is true _).mono ?_
      rintro e w' ⟨rfl, hw⟩
      subst w'
      go_wp2_with fail
      go_ret3
      exact ⟨by subst hP; rfl, _, rfl⟩
    · rw [if_neg hac] at hP
      have hac2 : (A == C) = false := by simp [hac]
      go_wp2_with fail
      refine (alike_is false _).mono ?_
      rintro e w' ⟨rfl, hw⟩
      subst w'
      go_wp2_with fail
      go_ret3
      exact ⟨by subst hP; rfl, _, rfl⟩
  rw [if_neg hr] at hP
  have hr2 : ((x.k : Int) == 2) = false := by simp; omega
  by_cases hl : x.ws.length ≠ y.ws.length
  · rw [if_pos hl] at hP
    have hl2 : ((x.ws.length : Int) != (y.ws.length : Int)) = true := by simp; omega
    go_wp2_with fail
    go_ret3
    exact ⟨by subst hP; rfl, _, rfl⟩
  rw [if_neg hl] at hP
  have hl : x.ws.length = y.ws.length := Classical.not_not.1 hl
  have hl2 : ((x.ws.length : Int) != (y.ws.length : Int)) = false := by simp; omega
  by_cases h4 : x.k = 4
  · rw [if_pos h4] at hP
    have h42 : ((x.k : Int) == 4) = true := by simp; omega
    have hs0 := HSF.out (q + q2) _ rfl hl.symm HXL.out
    clear hl
    by_cases hac : x.ws = y.ws
    · rw [if_pos hac] at hP
      rw [decide_eq_true hac] at hs0
      have HS := Lib.hid hs0
      clear hs0 hac
      go_wp2_with fail
      refine HS.out.mono ?_
      rintro e w8 ⟨rfl, q8, hw8⟩
      subst w8
      go_wp2_with fail
      refine (alike_is (true) _).mono ?_
      rintro e w7 ⟨rfl, hw⟩
      subst w7
      go_wp2_with fail
      go_ret3
      exact ⟨by subst hP; rfl, _, rfl⟩
    · rw [if_neg hac] at hP
      rw [decide_eq_false hac] at hs0
      have HS := Lib.hid hs0
      clear hs0 hac
      go_wp2_with fail
      refine HS.out.mono ?_
      rintro e w3 ⟨rfl, q3, hw3⟩
      subst w3
      go_wp2_with fail
      refine (alike_is false _).mono ?_
      rintro e w' ⟨rfl, hw⟩
      subst w'
      go_wp2_with fail
      go_ret3
      exact ⟨by subst hP; rfl, _, rfl⟩
  rw [if_neg h4] at hP
  clear hl
  have h42 : ((x.k : Int) == 4) = false := by simp; omega
  go_wp2_with fail
  go_ret3
  exact ⟨by subst hP; rfl, _, rfl⟩
end
end Go.Proofs.YtlakfnlkiebpdaaDoor
