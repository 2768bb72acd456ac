/- The statements' fixed calls of mem (known) come out as they must. Conditions: none. -/
import Derived.Test.YtpgnadngiaibeaaMemA
namespace Go.Proofs.Ytpgnadngiaibeaa
open Go Go.RowKit
section
variable {w : World} {b W h : Nat} {R : Nat → Value} {now old : List Ob}
theorem newOb_len {k s t : Nat} (h : t ≤ s) : (newOb k s t).ws.length = s := by simp [newOb]; omega
theorem wf_alloc {k s t : Nat} (z : WF W h now old) (hr : rightB k s t = true) (hf : used now + s + 1 ≤ W) : WF W h (now ++ [newOb k s t]) old := by
  have hb := right_bd hr
  have hl : (newOb k s t).ws.length = s := newOb_len (by omega)
  refine ⟨z.w0, z.w1, z.hh, ?_, z.uo, fun o ho => ?_, z.oko, fun o ho => ?_⟩
  · rw [used_append, used_one, hl]; omega
  · rcases List.mem_append.1 ho with h | h
    · exact z.okn o h
    · obtain rfl := List.mem_singleton.1 h
      refine ⟨by rw [hl]; exact hr, Nat.zero_le _, fun x hx => ?_⟩
      rcases List.mem_append.1 hx with q | q
      · have := List.eq_of_mem_replicate q; omega
      · have := List.eq_of_mem_replicate q; omega
  · rcases List.mem_append.1 ho with h | h
    · exact z.fresh o h
    · obtain rfl := List.mem_singleton.1 h; rfl
end
theorem own_nil {B b : Nat} (hb : B ≤ b) : ∀ i, Own b (fun _ => .slice none 0 0) i → B ≤ i := by
  rintro i (rfl | ⟨r, _, hg⟩)
  · exact hb
  · cases hg
set_option maxRecDepth 100000 in
set_option maxHeartbeats 2000000 in
theorem known_any (w : World) : Calls Try.prog 18 #[] w fun e w' => e = .returned (.bool true) ∧ Below w.heap.size w w' := by
  have hr : rightB 1 2 2 = true := by decide
  have z0 : WF 64 0 [] [] := wf_new (by decide) (by decide)
  have z1 : WF 64 0 ([] ++ [newOb 1 2 2]) [] := wf_alloc z0 hr (by decide)
  have HZ0 := Lib.hid z0
  have HZ1 := Lib.hid z1
  have hnew := new_raw 64 (by decide) (by decide)
  have HN := Lib.hid hnew
  clear z0 z1 hr hnew
  go_enter Try.func18, Try.ntmps18
  go_wp2_with fail
  refine (HN.out _).mono ?_
  rintro e w1 ⟨rfl, hw1⟩
  have m1 : Mem w1 w.heap.size 64 0 (fun _ => .slice none 0 0) [] [] := by rw [hw1]; exact new_mem 64 w
  have f1 : Below w.heap.size w w1 := by rw [hw1]; exact (Below.refl _ _).alloc (Nat.le_refl _) _
  have HM1 := Lib.hid m1
  have HF1 := Lib.hid f1
  clear hw1 m1 f1
  go_wp2_with fail
  refine (Calls.mono (alloc_ok (k := 1) (s := 2) (t := 2) HM1.out HZ0.out (by decide) (by decide)) (fun e w' hh => (show e = .returned (.tuple #[.int .i64 1, .int .i64 0]) ∧ _ from ⟨hh.1.trans (by rfl), hh.2⟩))).mono ?_
  rintro e w2 ⟨rfl, R2, m2, ho2, hf2⟩
  have hB2 : Below w.heap.size w w2 := HF1.out.trans (hf2.below HF1.out.size (own_nil (Nat.le_refl _)))
  have HM2 := Lib.hid (show Mem w2 w.heap.size 64 0 R2 ([] ++ [newOb 1 2 2]) [] from m2)
  have HB2 := Lib.hid hB2
  clear m2 ho2 hf2 hB2
  go_wp2_with fail
  refine (Calls.mono (load_hit (j := 0) (o := newOb 1 2 2) HM2.out HZ1.out 1 0 (by decide) (by decide) (by rfl) (by decide)) (fun e w' hh => (show e = .returned (.tuple #[.int .u64 1, .int .i64 0]) ∧ _ from ⟨hh.1.trans (by rfl), hh.2⟩))).mono ?_
  rintro e w3 ⟨rfl, n3, rfl⟩
  go_wp2_with fail
  refine (Calls.mono (next_any (HM2.out.drewN n3) HZ1.out.sizes) (fun e w' hh => (show e = .returned (.int .i64 4) ∧ _ from ⟨hh.1.trans (by rfl), hh.2⟩))).mono ?_
  rintro e w4 ⟨rfl, n4, rfl⟩
  go_wp2_with fail
  refine (Calls.mono (free_any (HM2.out.drewN (n3 + n4)) HZ1.out.sizes) (fun e w' hh => (show e = .returned (.int .i64 61) ∧ _ from ⟨hh.1.trans (by rfl), hh.2⟩))).mono ?_
  rintro e w5 ⟨rfl, n5, rfl⟩
  go_wp2_with fail
  go_ret
  have hb := HB2.out
  exact ⟨rfl, ⟨hb.os, hb.tape, hb.output, hb.size, hb.block⟩⟩
end Go.Proofs.Ytpgnadngiaibeaa
