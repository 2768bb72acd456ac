/- The contract of GetText over a memory as it lies. Condition: the memory is right. -/
import Derived.Test.YtlakfnlkiebpdaaDoorRtsP
namespace Go.Proofs.YtlakfnlkiebpdaaDoor
open Go Go.RowKit
section
variable {w : World} {b W h : Nat} {now old : List Ob} {R : Nat → Value}
theorem gettext_nil (n : Int) (w : World) : Calls Tryd.prog 24 #[.pointer none, .int .u64 n] w fun e w' => e = .returned (.tuple #[.string ⟨#[]⟩, .int .i64 2]) ∧ w' = w := by
  go_enter Tryd.func24, Tryd.ntmps24
  go_wp2
  go_ret2
  exact ⟨rfl, rfl⟩
set_option maxRecDepth 100000 in
set_option maxHeartbeats 8000000 in
theorem gettext_miss (m : Mem w b W h R now old) (z : WF W h now old) (n : Nat) (hn : n < 18446744073709551616) (hi : idxAt now h W (toP (n : Int)) = none) :
    Calls Tryd.prog 24 #[.pointer (some ⟨b, 0, none⟩), .int .u64 (n : Int)] w fun e w' => e = .returned (.tuple #[.string ⟨#[]⟩, .int .i64 40]) ∧ Below w.heap.size w w' := by
  have HTP := Lib.hid (show Calls _ _ _ _ (fun e w' => e = .returned (.int .i64 (toP (n : Int))) ∧ w' = w) from (toptr_any (n : Int) w (by omega) (by omega)).mono fun e w' ⟨h1, h2⟩ => ⟨h1, h2.symm⟩)
  have hpb : toP (n : Int) ≤ 1099511627776 := by unfold toP; split <;> omega
  have HLK := Lib.hid (look_miss m z _ (by omega) hi)
  obtain ⟨A, hA⟩ : ∃ A, toP (n : Int) = A := ⟨_, rfl⟩
  rw [hA] at HTP HLK
  clear m z hi hpb hA
  go_enter Tryd.func24, Tryd.ntmps24
  go_wp2_with fail
  refine HTP.out.mono ?_
  rintro e w' ⟨rfl, hw⟩
  subst w'
  go_wp2_with fail
  refine HLK.out.mono ?_
  rintro e w1 ⟨rfl, q, hw1⟩
  have HB := Lib.hid (show Below w.heap.size w w1 from by rw [hw1]; exact Below.drewN' (Below.refl _ _) q)
  clear hw1
  go_wp2_with fail
  go_ret2
  exact ⟨rfl, HB.out⟩
set_option maxRecDepth 100000 in
set_option maxHeartbeats 8000000 in
theorem gettext_kind (m : Mem w b W h R now old) (z : WF W h now old) (n : Nat) (hn : n < 18446744073709551616) {j : Nat} {o : Ob} (hi : idxAt now h W (toP (n : Int)) = some j) (ho : now[j]? = some o) (hk : o.k ≠ 4) :
    Calls Tryd.prog 24 #[.pointer (some ⟨b, 0, none⟩), .int .u64 (n : Int)] w fun e w' => e = .returned (.tuple #[.string ⟨#[]⟩, .int .i64 50]) ∧ Below w.heap.size w w' := by
  have HTP := Lib.hid (show Calls _ _ _ _ (fun e w' => e = .returned (.int .i64 (toP (n : Int))) ∧ w' = w) from (toptr_any (n : Int) w (by omega) (by omega)).mono fun e w' ⟨h1, h2⟩ => ⟨h1, h2.symm⟩)
  have hpb : toP (n : Int) ≤ 1099511627776 := by unfold toP; split <;> omega
  have HLK := Lib.hid (look_hit m z _ (by omega) hi ho)
  obtain ⟨A, hA⟩ : ∃ A, toP (n : Int) = A := ⟨_, rfl⟩
  rw [hA] at HTP HLK
  have hkk : (((o.k : Nat) : Int) != 4) = true := by simp; omega
  clear m z hi hpb hA ho hk
  go_enter Tryd.func24, Tryd.ntmps24
  go_wp2_with fail
  refine HTP.out.mono ?_
  rintro e w' ⟨rfl, hw⟩
  subst w'
  go_wp2_with fail
  refine HLK.out.mono ?_
  rintro e w1 ⟨rfl, q, hw1⟩
  have HB := Lib.hid (show Below w.heap.size w w1 from by rw [hw1]; exact Below.drewN' (Below.refl _ _) q)
  clear hw1
  go_wp2_with fail
  go_ret2
  exact ⟨rfl, HB.out⟩
set_option maxRecDepth 100000 in
set_option maxHeartbeats 8000000 in
theorem gettext_long (m : Mem w b W h R now old) (z : WF W h now old) (n : Nat) (hn : n < 18446744073709551616) {j : Nat} {o : Ob} (hi : idxAt now h W (toP (n : Int)) = some j) (ho : now[j]? = some o) (hk : o.k = 4) (ha : 131064 < o.ws.getD 0 0) :
    Calls Tryd.prog 24 #[.pointer (some ⟨b, 0, none⟩), .int .u64 (n : Int)] w fun e w' => e = .returned (.tuple #[.string ⟨#[]⟩, .int .i64 50]) ∧ Below w.heap.size w w' := by
  have HTP := Lib.hid (show Calls _ _ _ _ (fun e w' => e = .returned (.int .i64 (toP (n : Int))) ∧ w' = w) from (toptr_any (n : Int) w (by omega) (by omega)).mono fun e w' ⟨h1, h2⟩ => ⟨h1, h2.symm⟩)
  have hpb : toP (n : Int) ≤ 1099511627776 := by unfold toP; split <;> omega
  have HLK := Lib.hid (look_hit m z _ (by omega) hi ho)
  have hlen : 0 < o.ws.length := by
    rcases Nat.eq_zero_or_pos o.ws.length with q | q
    · have : o.ws = [] := List.length_eq_zero_iff.1 q
      rw [this] at ha; simp at ha
    · exact q
  have HLD := Lib.hid (fun q => load_hit (m.drewN q) z (toP (n : Int)) 0 (by omega) hi ho hlen)
  obtain ⟨A, hA⟩ : ∃ A, toP (n : Int) = A := ⟨_, rfl⟩
  rw [hA] at HTP HLK HLD
  have hkk : (((o.k : Nat) : Int) != 4) = false := by rw [hk]; rfl
  obtain ⟨x, hx⟩ : ∃ x, o.ws.getD 0 0 = x := ⟨_, rfl⟩
  rw [hx] at HLD ha
  have hd : decide ((131064 : Int) < (x : Int)) = true := decide_eq_true (by omega)
  clear m z hi hpb hA ho hk hx ha hlen
  go_enter Tryd.func24, Tryd.ntmps24
  go_wp2_with fail
  refine HTP.out.mono ?_
  rintro e w' ⟨rfl, hw⟩
  subst w'
  go_wp2_with fail
  refine HLK.out.mono ?_
  rintro e w1 ⟨rfl, q, hw1⟩
  subst w1
  go_wp2_with fail
  refine (HLD.out q).mono ?_
  rintro e w2 ⟨rfl, q2, hw2⟩
  have HB := Lib.hid (show Below w.heap.size w w2 from by rw [hw2]; exact Below.drewN' (Below.drewN' (Below.refl _ _) q) q2)
  clear hw2
  go_wp2_with fail
  go_ret2
  exact ⟨rfl, HB.out⟩
end
end Go.Proofs.YtlakfnlkiebpdaaDoor
