/- The four instructions of the fixed code: their words, there and back. Conditions: the table of operations is as laid. -/
import Derived.Test.YtpoblealgooamaaGreatDoorMcLoad
namespace Go.Proofs.YtpoblealgooamaaGreatDoor
open Go Go.RowKit Go.Proofs.YtpoblealgooamaaGreatDoor.IsaL
def kL : List I5 := [(1, 2, 0, 0, 5), (1, 3, 0, 0, -7), (9, 2, 2, 3, 0), (28, 2, 0, 0, 0)]
def kW : List Nat := [21474836993, 18446744043644781313, 50463241, 540]
theorem k_c1 : chkOf 1 2 0 0 5 = 0 := by
  rw [show (1 : Int) = ((1 : Nat) : Int) from rfl, chkOf_yes (by decide) (by decide)]
  exact chk_0 (by unfold badR; decide) (by unfold badZ badN; decide)
theorem k_c2 : chkOf 1 3 0 0 (-7) = 0 := by
  rw [show (1 : Int) = ((1 : Nat) : Int) from rfl, chkOf_yes (by decide) (by decide)]
  exact chk_0 (by unfold badR; decide) (by unfold badZ badN; decide)
theorem k_c3 : chkOf 9 2 2 3 0 = 0 := by
  rw [show (9 : Int) = ((9 : Nat) : Int) from rfl, chkOf_yes (by decide) (by decide)]
  exact chk_0 (by unfold badR; decide) (by unfold badZ badN; decide)
theorem k_c4 : chkOf 28 2 0 0 0 = 0 := by
  rw [show (28 : Int) = ((28 : Nat) : Int) from rfl, chkOf_yes (by decide) (by decide)]
  exact chk_0 (by unfold badR; decide) (by unfold badZ badN; decide)
theorem k_ok : Okl kL := by
  intro x hx
  simp only [kL, List.mem_cons, List.mem_nil_iff, or_false] at hx
  rcases hx with rfl | rfl | rfl | rfl
  · exact k_c1
  · exact k_c2
  · exact k_c3
  · exact k_c4
theorem enc_of {o a b c n : Int} {y : Nat} (h : chkOf o a b c n = 0) (hy : encW o a b c n = (y : Int)) (Y : World) (ho : Ops Y) :
    Calls Tryz.prog 76 #[.agg #[.int .i64 o, .int .i64 a, .int .i64 b, .int .i64 c, .int .i64 n]] Y fun e w' => e = .returned (.tuple #[.int .u64 (y : Int), .int .i64 0]) ∧ Below Y.heap.size Y w' := by
  have h2 := encode_any o a b c n Y ho
  rw [h, show wordOf o a b c n = (y : Int) by unfold wordOf; rw [if_pos h]; exact hy] at h2
  exact h2
theorem k_enc : ∀ (k : Nat) (x : I5), kL[k]? = some x → ∃ y, kW[k]? = some y ∧ y < 18446744073709551616 ∧ ∀ Y, Ops Y → Calls Tryz.prog 76 #[.agg #[.int .i64 x.1, .int .i64 x.2.1, .int .i64 x.2.2.1, .int .i64 x.2.2.2.1, .int .i64 x.2.2.2.2]] Y fun e w' => e = .returned (.tuple #[.int .u64 (y : Int), .int .i64 0]) ∧ Below Y.heap.size Y w' := by
  intro k x hx
  match k, hx with
  | 0, hx => obtain rfl := Option.some.inj hx; exact ⟨21474836993, rfl, by decide, fun Y hY => enc_of k_c1 (by unfold encW; decide) Y hY⟩
  | 1, hx => obtain rfl := Option.some.inj hx; exact ⟨18446744043644781313, rfl, by decide, fun Y hY => enc_of k_c2 (by unfold encW; decide) Y hY⟩
  | 2, hx => obtain rfl := Option.some.inj hx; exact ⟨50463241, rfl, by decide, fun Y hY => enc_of k_c3 (by unfold encW; decide) Y hY⟩
  | 3, hx => obtain rfl := Option.some.inj hx; exact ⟨540, rfl, by decide, fun Y hY => enc_of k_c4 (by unfold encW; decide) Y hY⟩
  | j + 4, hx => simp [kL] at hx
theorem dec_of {o a b c n : Int} {y : Nat} (hy : y < 18446744073709551616) (h0 : oN y = o) (h1 : aN y = a) (h2 : bN y = b) (h3 : cN y = c) (h4 : sN y = n) (h : chkOf o a b c n = 0) (Y : World) (ho : Ops Y) :
    Calls Tryz.prog 52 #[.int .u64 (y : Int)] Y fun e w' => e = .returned (.tuple #[.agg #[.int .i64 o, .int .i64 a, .int .i64 b, .int .i64 c, .int .i64 n], .int .i64 0]) ∧ Below Y.heap.size Y w' := by
  have hd := decode_ok y hy (by unfold dchk; rw [h0, h1, h2, h3, h4]; exact h) Y ho
  unfold decV at hd
  rw [h0, h1, h2, h3, h4] at hd
  exact hd
theorem k_d1 (Y : World) (ho : Ops Y) : Calls Tryz.prog 52 #[.int .u64 ((21474836993 : Nat) : Int)] Y fun e w' => e = .returned (.tuple #[.agg #[.int .i64 1, .int .i64 2, .int .i64 0, .int .i64 0, .int .i64 5], .int .i64 0]) ∧ Below Y.heap.size Y w' := dec_of (by decide) (by decide) (by decide) (by decide) (by decide) (by decide) k_c1 Y ho
theorem k_d2 (Y : World) (ho : Ops Y) : Calls Tryz.prog 52 #[.int .u64 ((18446744043644781313 : Nat) : Int)] Y fun e w' => e = .returned (.tuple #[.agg #[.int .i64 1, .int .i64 3, .int .i64 0, .int .i64 0, .int .i64 (-7)], .int .i64 0]) ∧ Below Y.heap.size Y w' := dec_of (by decide) (by decide) (by decide) (by decide) (by decide) (by decide) k_c2 Y ho
theorem k_d3 (Y : World) (ho : Ops Y) : Calls Tryz.prog 52 #[.int .u64 ((50463241 : Nat) : Int)] Y fun e w' => e = .returned (.tuple #[.agg #[.int .i64 9, .int .i64 2, .int .i64 2, .int .i64 3, .int .i64 0], .int .i64 0]) ∧ Below Y.heap.size Y w' := dec_of (by decide) (by decide) (by decide) (by decide) (by decide) (by decide) k_c3 Y ho
theorem k_d4 (Y : World) (ho : Ops Y) : Calls Tryz.prog 52 #[.int .u64 ((540 : Nat) : Int)] Y fun e w' => e = .returned (.tuple #[.agg #[.int .i64 28, .int .i64 2, .int .i64 0, .int .i64 0, .int .i64 0], .int .i64 0]) ∧ Below Y.heap.size Y w' := dec_of (by decide) (by decide) (by decide) (by decide) (by decide) (by decide) k_c4 Y ho
end Go.Proofs.YtpoblealgooamaaGreatDoor
