/- The document's new machine. Conditions: sizes that may be. -/
import Derived.Test.YtpoblealgooamaaGreatDoorMcGlob
namespace Go.Proofs.YtpoblealgooamaaGreatDoor
open Go Go.RowKit Go.Proofs.YtpoblealgooamaaGreatDoor.IsaL
theorem infoRWord : (Tryz.prog.info? 59).map (fun i => (i.zero, i.size, i.bytes)) = some (some (.agg #[.bool false, .int .i64 0, .int .i64 0]), 3, 24) := by kernel_rfl
/-- the globals of the document's new machine -/
theorem make_gl : ∃ cs : Array Value, (∀ k, k < 1024 → cs[k * 3]? = some (.bool false) ∧ cs[k * 3 + 1]? = some (.int .i64 0) ∧ cs[k * 3 + 2]? = some (.int .i64 0)) ∧ ∀ w : World, (Instr.makeSlice 56 (.int .i64 1024) (.int .i64 1024)).run Tryz.prog w = .ok (.slice (some ⟨w.heap.size, 0, none⟩) 1024 1024) (w.alloc (.cells cs 59)) := by
  obtain ⟨i0, hi, hz0, hz1, hz2⟩ := info_parts infoRWord
  refine ⟨madeCells (Value.agg #[.bool false, .int .i64 0, .int .i64 0]).cells (1024 * i0.size), fun k hk => ?_, fun w => ?_⟩
  · rw [hz1]
    have e : (Value.agg #[.bool false, .int .i64 0, .int .i64 0]).cells = #[.bool false, .int .i64 0, .int .i64 0] := by rfl
    rw [e]
    have a : (k * 3) % 3 = 0 := by omega
    have b : (k * 3 + 1) % 3 = 1 := by omega
    have c : (k * 3 + 2) % 3 = 2 := by omega
    have l0 : k * 3 < 3072 := by omega
    have l1 : k * 3 + 1 < 3072 := by omega
    have l2 : k * 3 + 2 < 3072 := by omega
    refine ⟨?_, ?_, ?_⟩ <;> simp [madeCells, a, b, c, l0, l1, l2]
  · have hr := run_make (P := Tryz.prog) w 56 59 i0 (.agg #[.bool false, .int .i64 0, .int .i64 0]) Tryz.underlying56 hi hz0 .i64 .i64 (1024 : Nat) (1024 : Nat) (by omega) (Int.le_refl _) (by rw [hz2]; omega) (by omega)
    exact hr
/-- the document's new machine, cell for cell (its globals in block gl) -/
def refM (W S : Int) (gl : Nat) : Array Value := #[.int .i64 W, .int .i64 S, .slice none 0 0, .int .i64 0, .bool false, .int .i64 0, .int .i64 0, .bool false, .int .i64 0, .int .i64 0, .bool false, .int .i64 0, .int .i64 0, .bool false, .int .i64 0, .int .i64 0, .bool false, .int .i64 0, .int .i64 0, .bool false, .int .i64 0, .int .i64 0, .bool false, .int .i64 0, .int .i64 0, .bool false, .int .i64 0, .int .i64 0, .bool false, .int .i64 0, .int .i64 0, .bool false, .int .i64 0, .int .i64 0, .bool false, .int .i64 0, .int .i64 0, .bool false, .int .i64 0, .int .i64 0, .bool false, .int .i64 0, .int .i64 0, .bool false, .int .i64 0, .int .i64 0, .bool false, .int .i64 0, .int .i64 0, .bool false, .int .i64 0, .int .i64 0, .slice none 0 0, .slice none 0 0, .slice (some ⟨gl, 0, none⟩) 1024 1024, .bool false, .int .i64 0, .int .i64 0, .bool false, .int .i64 0, .int .i64 0, .int .i64 0, .int .i64 0]
/-- the document's machine as New makes it: its globals in block gl, itself in block rb -/
structure RefNew (w : World) (W S : Int) (gl rb : Nat) : Prop where
  gb : ∃ cs : Array Value, w.heap[gl]? = some (.cells cs 59 (0, 0)) ∧ ∀ k, k < 1024 → cs[k * 3]? = some (.bool false) ∧ cs[k * 3 + 1]? = some (.int .i64 0) ∧ cs[k * 3 + 2]? = some (.int .i64 0)
  mb : w.heap[rb]? = some (.cells (refM W S gl) 64 (0, 0))
theorem RefNew.below {w w1 : World} {W S : Int} {gl rb : Nat} (h : RefNew w W S gl rb) (hb : Below w.heap.size w w1) : RefNew w1 W S gl rb := by
  obtain ⟨cs, h1, h2⟩ := h.gb
  exact ⟨⟨cs, (hb.block gl (Array.getElem?_eq_some_iff.1 h1).1).trans h1, h2⟩, (hb.block rb (Array.getElem?_eq_some_iff.1 h.mb).1).trans h.mb⟩
set_option maxRecDepth 100000 in
set_option maxHeartbeats 8000000 in
theorem refnew_good {W S : Int} (h : sizeOk W S) (w : World) :
    Calls Tryz.prog 6 #[.int .i64 W, .int .i64 S] w fun e w' => e = .returned (.tuple #[.pointer (some ⟨w.heap.size + 1, 0, none⟩), .bool true]) ∧ RefNew w' W S w.heap.size (w.heap.size + 1) ∧ Below w.heap.size w w' := by
  obtain ⟨cs, hcs, hmk⟩ := make_gl
  have hn := heap_alloc_new w (.cells cs 59)
  have hb := mcb_one w (.cells cs 59)
  have hsz : (w.alloc (.cells cs 59)).heap.size = w.heap.size + 1 := Array.size_push ..
  have HF := Lib.hid (show RefNew ((w.alloc (.cells cs 59)).alloc (.cells (refM W S w.heap.size) 64)) W S w.heap.size (w.heap.size + 1) ∧ Below w.heap.size w ((w.alloc (.cells cs 59)).alloc (.cells (refM W S w.heap.size) 64)) from by
    obtain ⟨X, hX⟩ : ∃ X, w.alloc (.cells cs 59) = X := ⟨_, rfl⟩
    rw [hX] at hn hb hsz ⊢
    have hb2 := mcb_one X (.cells (refM W S w.heap.size) 64)
    have hn2 := heap_alloc_new X (.cells (refM W S w.heap.size) 64)
    rw [hsz] at hn2
    exact ⟨⟨⟨cs, (hb2.block _ (by omega)).trans hn, hcs⟩, hn2⟩, hb.trans (hb2.mono hb.size)⟩)
  unfold sizeOk at h
  have d0 : decide (W < 64) = false := decide_eq_false (by omega)
  have d1 : decide ((65536 : Int) < W) = false := decide_eq_false (by omega)
  have d2 : decide (S < 16) = false := decide_eq_false (by omega)
  have d3 : decide ((65536 : Int) < S) = false := decide_eq_false (by omega)
  clear h hcs hn hb hsz
  go_enter Tryz.func6, Tryz.ntmps6
  go_wp2_with fail
  go_ret2
  exact ⟨rfl, HF.out⟩
end Go.Proofs.YtpoblealgooamaaGreatDoor
