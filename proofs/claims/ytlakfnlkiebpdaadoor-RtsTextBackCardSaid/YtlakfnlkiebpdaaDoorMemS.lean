/- Contracts of Load, Look, Store, object by object. Conditions: the memory lies as Mem says. -/
import Derived.Test.YtlakfnlkiebpdaaDoorMemL
import Derived.StillTailTactics
namespace Go.Proofs.YtlakfnlkiebpdaaDoor
open Go Go.RowKit
section
variable {w : World} {b W h : Nat} {R : Nat → Value} {now old : List Ob}
set_option maxHeartbeats 1000000 in
theorem load_err (a i : Int) (hf : Calls Tryd.prog 51 #[.pointer (some ⟨b, 0, none⟩), .int .i64 a, .int .i64 i] w fun e w' => e = .returned (.tuple #[.int .i64 0, .int .i64 20]) ∧ ∃ n, w' = w.drewN n) :
    Calls Tryd.prog 21 #[.pointer (some ⟨b, 0, none⟩), .int .i64 a, .int .i64 i] w fun e w' => e = .returned (.tuple #[.int .u64 0, .int .i64 20]) ∧ ∃ n, w' = w.drewN n := by
  have HF := Lib.hid hf
  clear hf
  go_enter Tryd.func21, Tryd.ntmps21
  go_wp2_with fail
  refine HF.out.mono ?_
  rintro e w1 ⟨rfl, n, rfl⟩
  go_wp2_with fail
  go_ret2
  exact ⟨rfl, n, rfl⟩
set_option maxHeartbeats 2000000 in
theorem load_hit (m : Mem w b W h R now old) (z : WF W h now old) (a : Int) (i : Nat) (ha2 : a ≤ 9223372036854775807) {j : Nat} {o : Ob} (hi : idxAt now h W a = some j) (ho : now[j]? = some o) (hr : i < o.ws.length) :
    Calls Tryd.prog 21 #[.pointer (some ⟨b, 0, none⟩), .int .i64 a, .int .i64 i] w fun e w' => e = .returned (.tuple #[.int .u64 (o.ws.getD i 0 : Nat), .int .i64 0]) ∧ ∃ n, w' = w.drewN n := by
  have c1 := m.c1
  obtain ⟨g, cap, A⟩ := at_of m z ho
  have HF := Lib.hid (field_hit m z a i ha2 hi ho hr)
  have hh0 : (0 : Int) ≤ h := by omega
  have hh1 : (h : Int) < 2 := by have := z.hh; omega
  have r0 := A.row
  have r1 := A.field i hr
  have r2 := A.fits
  have r3 := A.cap1
  have r4 := A.cap2
  obtain ⟨q, hq⟩ : ∃ q, start now j + 1 + i = q := ⟨_, rfl⟩
  rw [hq] at r1 HF
  obtain ⟨v, hv⟩ : ∃ v, o.ws.getD i 0 = v := ⟨_, rfl⟩
  rw [hv] at r1 ⊢
  have hs0 : (0 : Int) ≤ q := by omega
  have hs1 : (q : Int) < used now := by omega
  have huw : used now ≤ 65536 := Nat.le_trans z.un z.w1
  clear m z hi A hq
  go_enter Tryd.func21, Tryd.ntmps21
  go_wp2_with fail
  refine HF.out.mono ?_
  rintro e w1 ⟨rfl, n, rfl⟩
  go_wp2_with fail
  go_quiet (fail)
  go_wp2_with fail
  go_ret2
  exact ⟨rfl, _, World.drewN_drewN _ _ _⟩
set_option maxHeartbeats 2000000 in
theorem look_miss (m : Mem w b W h R now old) (z : WF W h now old) (a : Int) (ha2 : a ≤ 9223372036854775807) (hi : idxAt now h W a = none) :
    Calls Tryd.prog 55 #[.pointer (some ⟨b, 0, none⟩), .int .i64 a] w fun e w' => e = .returned (.tuple #[.int .i64 0, .int .i64 0, .int .i64 0, .int .i64 20]) ∧ ∃ n, w' = w.drewN n := by
  have c1 := m.c1
  have hf := find_idx m z h z.hh a ha2
  rw [half_now, hi] at hf
  have HF := Lib.hid hf
  clear m z hf hi
  go_enter Tryd.func55, Tryd.ntmps55
  go_wp2_with fail
  refine HF.out.mono ?_
  rintro e w1 ⟨rfl, rfl⟩
  go_wp2_with fail
  refine bodyPost_ret (results_tmp4 rfl _ _ _) rfl ?_
  exact ⟨rfl, 0, rfl⟩
set_option maxHeartbeats 2000000 in
theorem look_hit (m : Mem w b W h R now old) (z : WF W h now old) (a : Int) (ha2 : a ≤ 9223372036854775807) {j : Nat} {o : Ob} (hi : idxAt now h W a = some j) (ho : now[j]? = some o) :
    Calls Tryd.prog 55 #[.pointer (some ⟨b, 0, none⟩), .int .i64 a] w fun e w' => e = .returned (.tuple #[.int .i64 o.k, .int .i64 o.ws.length, .int .i64 o.t, .int .i64 0]) ∧ ∃ n, w' = w.drewN n := by
  have c1 := m.c1
  obtain ⟨g, cap, A⟩ := at_of m z ho
  have hf := find_idx m z h z.hh a ha2
  rw [half_now, hi] at hf
  have HF := Lib.hid hf
  have hh0 : (0 : Int) ≤ h := by omega
  have hh1 : (h : Int) < 2 := by have := z.hh; omega
  have r0 := A.row
  have r1 := A.head
  have r2 := A.fits
  have r3 := A.cap1
  have r4 := A.cap2
  have hs0 : (0 : Int) ≤ start now j := by omega
  have hs1 : (start now j : Int) < used now := by omega
  have HS := Lib.hid (fun W => split_o A.right W)
  have huw : used now ≤ 65536 := Nat.le_trans z.un z.w1
  clear m z hf hi A
  go_enter Tryd.func55, Tryd.ntmps55
  go_wp2_with fail
  refine HF.out.mono ?_
  rintro e w1 ⟨rfl, rfl⟩
  go_wp2_with fail
  go_quiet ((go_at_call 87; refine Calls.quiet_of_same (HS.out _)))
  go_wp2_with fail
  refine bodyPost_ret (results_tmp4 rfl _ _ _) rfl ?_
  exact ⟨rfl, _, rfl⟩
set_option maxHeartbeats 1000000 in
theorem store_err (a i : Int) (x : Int) (hf : Calls Tryd.prog 51 #[.pointer (some ⟨b, 0, none⟩), .int .i64 a, .int .i64 i] w fun e w' => e = .returned (.tuple #[.int .i64 0, .int .i64 20]) ∧ ∃ n, w' = w.drewN n) :
    Calls Tryd.prog 43 #[.pointer (some ⟨b, 0, none⟩), .int .i64 a, .int .i64 i, .int .u64 x] w fun e w' => e = .returned (.int .i64 20) ∧ ∃ n, w' = w.drewN n := by
  have HF := Lib.hid hf
  clear hf
  go_enter Tryd.func43, Tryd.ntmps43
  go_wp2_with fail
  refine HF.out.mono ?_
  rintro e w1 ⟨rfl, n, rfl⟩
  go_wp2_with fail
  go_ret
  exact ⟨rfl, n, rfl⟩
set_option maxRecDepth 100000 in
set_option maxHeartbeats 2000000 in
theorem store_raw (m : Mem w b W h R now old) (z : WF W h now old) (a : Int) (i x : Nat) (ha2 : a ≤ 9223372036854775807) {j : Nat} {o : Ob} (hi : idxAt now h W a = some j) (ho : now[j]? = some o) (hr : i < o.ws.length) :
    Calls Tryd.prog 43 #[.pointer (some ⟨b, 0, none⟩), .int .i64 a, .int .i64 i, .int .u64 x] w fun e w' => e = .returned (.int .i64 0) ∧ ∃ g cap n, R (h * 2) = .slice (some ⟨g, 0, none⟩) (used now) cap ∧ w' = (w.setCell ⟨g, start now j + 1 + i, none⟩ (.int .u64 x)).drewN n := by
  have c1 := m.c1
  obtain ⟨g, cap, A⟩ := at_of m z ho
  have HF := Lib.hid (field_hit m z a i ha2 hi ho hr)
  have hh0 : (0 : Int) ≤ h := by omega
  have hh1 : (h : Int) < 2 := by have := z.hh; omega
  have HV := Lib.hid A.val
  have r0 := A.row
  have r1 := A.field i hr
  have r5 := A.frozen i hr
  have r2 := A.fits
  have r3 := A.cap1
  have r4 := A.cap2
  obtain ⟨q, hq⟩ : ∃ q, start now j + 1 + i = q := ⟨_, rfl⟩
  rw [hq] at r1 r5 HF
  rw [hq]
  have hs0 : (0 : Int) ≤ q := by omega
  have hs1 : (q : Int) < used now := by omega
  have huw : used now ≤ 65536 := Nat.le_trans z.un z.w1
  clear m z hi A hq
  go_enter Tryd.func43, Tryd.ntmps43
  go_wp2_with fail
  refine HF.out.mono ?_
  rintro e w1 ⟨rfl, n, hn⟩
  have c1' : w1.cell? ⟨b, 1, none⟩ = some (.int .i64 h) := by rw [hn]; exact c1
  have r0' : w1.cell? ⟨b, 2 + h * 2, none⟩ = some (.slice (some ⟨g, 0, none⟩) (used now) cap) := by rw [hn]; exact r0
  have r1' : w1.cell? ⟨g, q, none⟩ = some (.int .u64 (o.ws.getD i 0 : Nat)) := by rw [hn]; exact r1
  have r5' : w1.frozen? ⟨g, q, none⟩ = false := by rw [hn]; exact r5
  have HN := Lib.hid hn
  clear hn c1 r0 r1 r5
  go_wp2_with fail
  go_still_tail 13, (by kernel_rfl)
  go_wp2_with fail
  go_ret
  exact ⟨rfl, g, cap, n + 1, HV.out, by rw [HN.out]; rfl⟩
end
end Go.Proofs.YtlakfnlkiebpdaaDoor
