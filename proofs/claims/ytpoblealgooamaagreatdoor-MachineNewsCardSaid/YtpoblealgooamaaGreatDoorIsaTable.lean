/- The reference's table of operations: a new block of 37 rows. Conditions: none. -/
import Derived.Test.YtpoblealgooamaaGreatDoorProg
import Derived.WalkKit
import Derived.Below
import Derived.Great.BuildSlice
namespace Go.Proofs.YtpoblealgooamaaGreatDoor.IsaL
open Go Go.RowKit
/-- name, form, what is read, what is written -/
def opRows : List (List UInt8 × List UInt8 × List UInt8 × List UInt8) := [
  ([], [], [], []),
  ([105, 110, 116], [97, 110], [], [97]),
  ([108, 105, 116], [97, 110], [], [97]),
  ([109, 111, 118, 101], [97, 98], [98], [97]),
  ([112, 117, 116], [97, 110], [97], []),
  ([108, 111, 97, 100], [97, 110], [], [97]),
  ([115, 97, 118, 101], [97, 110], [97], []),
  ([97, 100, 100], [97, 98, 99], [98, 99], [97]),
  ([115, 117, 98], [97, 98, 99], [98, 99], [97]),
  ([109, 117, 108], [97, 98, 99], [98, 99], [97]),
  ([100, 105, 118], [97, 98, 99], [98, 99], [97]),
  ([109, 111, 100], [97, 98, 99], [98, 99], [97]),
  ([110, 101, 103], [97, 98], [98], [97]),
  ([108, 101, 115, 115], [97, 98, 99], [98, 99], [97]),
  ([97, 116, 109, 111, 115, 116], [97, 98, 99], [98, 99], [97]),
  ([115, 97, 109, 101], [97, 98, 99], [98, 99], [97]),
  ([116, 117, 112, 108, 101], [97, 110], [], [97]),
  ([99, 108, 111, 115, 117, 114, 101], [97, 110], [], [97]),
  ([114, 101, 102], [97, 98], [98], [97]),
  ([102, 105, 101, 108, 100], [97, 98, 110], [98], [97]),
  ([102, 105, 108, 108], [97, 98, 110], [97, 98], []),
  ([97, 115, 115, 105, 103, 110], [97, 98], [97, 98], []),
  ([116, 97, 103], [97, 98], [98], [97]),
  ([106, 117, 109, 112], [110], [], []),
  ([117, 110, 108, 101, 115, 115], [97, 110], [97], []),
  ([101, 110, 116, 101, 114], [110], [], []),
  ([99, 97, 108, 108], [97, 98], [97, 98], [48]),
  ([116, 97, 105, 108], [97, 98], [97, 98], []),
  ([114, 101, 116, 117, 114, 110], [97], [97], []),
  ([104, 97, 110, 100, 108, 101], [110], [], []),
  ([117, 110, 104, 97, 110, 100, 108, 101], [], [], []),
  ([114, 97, 105, 115, 101], [97], [97], []),
  ([106, 111, 105, 110], [97, 98, 99], [98, 99], [97]),
  ([115, 105, 122, 101], [97, 98], [98], [97]),
  ([115, 116, 114], [97, 98], [98], [97]),
  ([111, 114, 100], [97, 98, 99], [98, 99], [97]),
  ([100, 105, 103, 105, 116, 115], [97, 98], [98], [97])]
def bs (l : List UInt8) : ByteArray := ⟨l.toArray⟩
abbrev strV (l : List UInt8) : Value := .string (bs l)
def opVals : List Value := opRows.map fun r => .agg #[strV r.1, strV r.2.1, strV r.2.2.1, strV r.2.2.2]
def tabCells : List Value := opVals.flatMap fun v => v.cells.toList
set_option maxRecDepth 100000 in
set_option maxHeartbeats 2000000 in
theorem table_is (w : World) :
    Calls Tryz.prog 143 #[] w fun e w' => e = .returned (.slice (some ⟨w.heap.size, 0, none⟩) 37 37) ∧ w' = w.alloc (.cells tabCells.toArray 196) := by
  obtain ⟨ie, hie⟩ : ∃ ie, Tryz.prog.info? 196 = some ie := ⟨_, rfl⟩
  have hs4 : ie.size = 4 := by
    have h : (Tryz.prog.info? 196).map (·.size) = some 4 := by kernel_rfl
    rw [hie] at h; simpa using h
  obtain ⟨z, hz⟩ : ∃ z, ie.zero = some z := by
    have h : ((Tryz.prog.info? 196).bind (·.zero)).isSome = true := by kernel_rfl
    rw [hie] at h; exact Option.isSome_iff_exists.1 h
  go_enter Tryz.func143, Tryz.ntmps143
  go_wp2
  refine wp_buildSlice 209 196 37 _ rfl tabCells.toArray ie z Tryz.underlying209 hie hz (by rw [hs4]; decide) (by rw [hs4]; decide) ?_ ?_
  · rw [hs4]
    refine Eq.trans (congrArg (Instr.fill _ _) (?_ : _ = (opVals.zipIdx 0).map fun x => (x.2, x.1))) (Great.fill_whole (s := 4) (by decide) opVals _ (by decide) (by simp [opVals, opRows]))
    kernel_rfl
  · go_wp2
    go_ret
    exact ⟨rfl, rfl⟩
end Go.Proofs.YtpoblealgooamaaGreatDoor.IsaL
