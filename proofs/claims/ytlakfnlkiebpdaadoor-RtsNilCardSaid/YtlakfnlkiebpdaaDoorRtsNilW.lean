/- The walk of the statement RtsNil: it returns true. -/
import Derived.Test.YtlakfnlkiebpdaaDoorRtsKn
namespace Go.Proofs.YtlakfnlkiebpdaaDoor
open Go Go.RowKit
theorem put_nil (s : ByteArray) (w : World) : Calls Tryd.prog 17 #[.pointer none, .string s] w fun e w' => e = .returned (.tuple #[.int .u64 0, .int .i64 2]) ∧ w' = w := by
  go_enter Tryd.func17, Tryd.ntmps17
  go_wp2
  go_ret2
  exact ⟨rfl, rfl⟩
theorem same_nil (a c n : Int) (w : World) : Calls Tryd.prog 30 #[.pointer none, .int .u64 a, .int .u64 c, .int .i64 n] w fun e w' => e = .returned (.tuple #[.int .i64 0, .int .i64 0, .int .i64 2]) ∧ w' = w := by
  go_enter Tryd.func30, Tryd.ntmps30
  go_wp2
  go_step3
  go_wp2
  first | go_ret3 | (simp only [Exit.noGoto]; go_ret3)
  exact ⟨rfl, rfl⟩
def tyInt : Value := .agg #[.int .i64 2, .int .i64 1, .string ⟨#[105, 110, 116]⟩, .slice none 0 0]
theorem con_int (w : World) : Calls Tryd.prog 40 #[.string ⟨#[105, 110, 116]⟩, .int .i64 1, .slice none 0 0] w fun e w' => e = .returned tyInt ∧ Below w.heap.size w w' := by
  go_enter Tryd.func40, Tryd.ntmps40
  go_wp2
  have f : ∀ i v, (#[.int .i64 2, .int .i64 1, .string ⟨#[105, 110, 116]⟩, .slice none 0 0] : Array Value)[i]? = some v → (w.alloc (.cells #[.int .i64 2, .int .i64 1, .string ⟨#[105, 110, 116]⟩, .slice none 0 0] 61)).cell? ⟨w.heap.size, i, none⟩ = some v := fun i v h => by
    simp only [World.cell?, World.alloc, Array.getElem?_push_size]
    exact h
  have f0 := f 0 _ rfl
  have f1 := f 1 _ rfl
  have f2 := f 2 _ rfl
  have f3 := f 3 _ rfl
  exact bodyPost_ret (v := tyInt) (by simp [tyInt, results, Tryd.results40, go_sem, f0, f1, f2, f3]) rfl ⟨rfl, below_one _ _⟩
theorem show_nil (n : Int) (w : World) : Calls Tryd.prog 33 #[.pointer none, .int .u64 n, tyInt, .slice none 0 0] w fun e w' => e = .returned (.string ⟨#[63]⟩) ∧ Below w.heap.size w w' := by
  unfold tyInt
  go_enter Tryd.func33, Tryd.ntmps33
  go_wp2
  go_ret
  exact ⟨rfl, below_one _ _⟩
set_option maxRecDepth 100000 in
set_option maxHeartbeats 8000000 in
theorem rtsNil_walk (w : World) : Calls Tryd.prog 12 #[] w fun e w' => e = .returned (.bool true) ∧ Below w.heap.size w w' := by
  have HP := Lib.hid (put_nil ⟨#[97]⟩)
  have HG := Lib.hid (gettext_nil 2)
  have HS := Lib.hid (same_nil 1 1 5)
  have HC := Lib.hid con_int
  have HH := Lib.hid (show_nil 1)
  have HK := Lib.hid rknown_any
  go_enter Tryd.func12, Tryd.ntmps12
  go_wp2_with fail
  refine (HP.out _).mono ?_
  rintro e w1 ⟨rfl, hw1⟩
  subst w1
  go_wp2_with fail
  refine (HG.out _).mono ?_
  rintro e w1 ⟨rfl, hw1⟩
  subst w1
  go_wp2_with fail
  refine (HS.out _).mono ?_
  rintro e w1 ⟨rfl, hw1⟩
  subst w1
  go_wp2_with fail
  refine (HC.out _).mono ?_
  rintro e w1 ⟨rfl, hb1⟩
  have HB1 := Lib.hid hb1
  clear hb1
  go_wp2_with fail
  refine (HH.out _).mono ?_
  rintro e w2 ⟨rfl, hb2⟩
  have HB2 := Lib.hid (HB1.out.trans (hb2.mono HB1.out.size))
  clear hb2
  go_wp2_with fail
  refine (HK.out _).mono ?_
  rintro e w3 ⟨rfl, hb3⟩
  have HB3 := Lib.hid (HB2.out.trans (hb3.mono HB2.out.size))
  clear hb3
  go_wp2_with fail
  go_ret
  exact ⟨rfl, HB3.out⟩
end Go.Proofs.YtlakfnlkiebpdaaDoor
