/- The walk of the statement LexRights: it returns true. Conditions: the token's number is a number of its kind; the tables are as laid. -/
import Derived.Deep.RegionHeld3
import Derived.Test.YtphhokpbkcdljaaDoorLexEight
import Derived.Test.YtphhokpbkcdljaaDoorLexSix
namespace Go.Proofs.YtphhokpbkcdljaaDoor
open Go Go.RowKit
def boxO (k n a : Int) (s : ByteArray) : Obj := .cells #[.int .i64 k, .string s, .int .i64 n, .int .i64 a] 32
structure RT (w : World) (B : Nat) (k n a : Int) (s : ByteArray) (X : World) : Prop where
  base : Below w.heap.size w X
  blk : X.heap[B]? = some (.cells #[.int .i64 k, .string s, .int .i64 n, .int .i64 a] 32 (0, 0))
  tab : LTab X
def RS (w : World) (B : Nat) (k n a : Int) (s : ByteArray) (X : World) : Prop :=
  X.cell? ⟨B, 0, none⟩ = some (.int .i64 k) ∧ X.cell? ⟨B, 1, none⟩ = some (.string s) ∧ X.cell? ⟨B, 2, none⟩ = some (.int .i64 n) ∧ X.cell? ⟨B, 3, none⟩ = some (.int .i64 a) ∧ RT w B k n a s X
theorem RT.all {w : World} {B : Nat} {k n a : Int} {s : ByteArray} {X : World} (h : RT w B k n a s X) : RS w B k n a s X := ⟨blk_cellL h.blk 0, blk_cellL h.blk 1, blk_cellL h.blk 2, blk_cellL h.blk 3, h⟩
theorem RS.below {w : World} {B : Nat} {k n a : Int} {s : ByteArray} {X Y : World} (h : RS w B k n a s X) (hb : Below X.heap.size X Y) : RS w B k n a s Y :=
  RT.all ⟨h.2.2.2.2.base.trans (hb.mono h.2.2.2.2.base.size), (hb.block _ (Array.getElem?_eq_some_iff.1 h.2.2.2.2.blk).1).trans h.2.2.2.2.blk, h.2.2.2.2.tab.stay hb⟩
theorem RS.tab {w : World} {B : Nat} {k n a : Int} {s : ByteArray} {X : World} (h : RS w B k n a s X) : LTab X := h.2.2.2.2.tab
set_option maxRecDepth 100000 in
set_option maxHeartbeats 8000000 in
theorem lexRights_walk (k n a : Int) (s : ByteArray) (h0 : -9223372036854775808 ≤ n) (h1 : n ≤ 9223372036854775807) (w : World) (hT : LTab w) :
    Calls Tryd.prog 5 #[.agg #[.int .i64 k, .string s, .int .i64 n, .int .i64 a]] w fun e w' => e = .returned (.bool true) ∧ Below w.heap.size w w' := by
  have hB := below_oneL w (.cells #[.int .i64 k, .string s, .int .i64 n, .int .i64 a] 32)
  have hS : RS w w.heap.size k n a s (w.alloc (.cells #[.int .i64 k, .string s, .int .i64 n, .int .i64 a] 32)) := RT.all ⟨hB, heap_alloc_new w _, hT.stay hB⟩
  have HK := Lib.hid lknown_any
  by_cases hs : 2000 < s.size
  · have hd : decide ((2000 : Int) < (s.size : Int)) = true := decide_eq_true (by omega)
    have HS := Lib.hid hS
    clear hs hS hT hB
    go_enter Tryd.func5, Tryd.ntmps5
    go_wp2_with fail
    refine (HK.out _ HS.out.tab).mono ?_
    rintro e w1 ⟨rfl, hb1⟩
    have HB1 := Lib.hid (HS.out.2.2.2.2.base.trans (hb1.mono HS.out.2.2.2.2.base.size))
    clear hb1
    go_wp2_with fail
    go_ret
    exact ⟨rfl, HB1.out⟩
  · have hd : decide ((2000 : Int) < (s.size : Int)) = false := decide_eq_false (by omega)
    have HR := Lib.hid (right_any k n a s (by omega) h0 h1)
    have HQ := Lib.hid (ref_right k n a s (by omega) h0 h1)
    obtain ⟨b, hb⟩ : ∃ b, rightL ⟨k, s.data.toList, n⟩ = b := ⟨_, rfl⟩
    rw [hb] at HR HQ
    have hbb : (b == b) = true := by simp
    clear hs hT hB hb
    have hk2 : RS w w.heap.size k n a s (w.alloc (.cells #[.int .i64 k, .string s, .int .i64 n, .int .i64 a] 32)).drew := hS.below (Below.refl _ _).drew
    have HS := Lib.hid (And.intro hS hk2)
    have d0 := hS.1
    have d1 := hS.2.1
    have d2 := hS.2.2.1
    have d3 := hS.2.2.2.1
    clear hS
    go_enter Tryd.func5, Tryd.ntmps5
    go_wp2_with fail
    go_region_held3 (fun X => X.cell? ⟨w.heap.size, 0, none⟩ = some (.int .i64 k) ∧ X.cell? ⟨w.heap.size, 1, none⟩ = some (.string s) ∧ X.cell? ⟨w.heap.size, 2, none⟩ = some (.int .i64 n) ∧ X.cell? ⟨w.heap.size, 3, none⟩ = some (.int .i64 a) ∧ RT w w.heap.size k n a s X)
      (first | assumption)
      (first
        | (go_at_call 18; refine (HR.out _ (RS.tab (by assumption)).t (RS.tab (by assumption)).x).mono ?_; rintro e w13 ⟨rfl, hb13⟩; have hk13 := RS.below (by assumption) hb13)
        | (go_at_call 19; refine (HQ.out _).mono ?_; rintro e w14 ⟨rfl, hb14⟩; have hk14 := RS.below (by assumption) hb14)
        | (go_at_call 12; refine (HK.out _ (RS.tab (by assumption))).mono ?_; rintro e w15 ⟨rfl, hb15⟩; have hk15 := RS.below (by assumption) hb15))
    go_wp2_with fail
    go_ret
    exact ⟨rfl, hk15.2.2.2.2.base⟩
end Go.Proofs.YtphhokpbkcdljaaDoor
