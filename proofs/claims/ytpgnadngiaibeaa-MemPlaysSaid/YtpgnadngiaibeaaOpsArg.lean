/- A slice of operations as an argument: opened into the operations that it reads as, and read again behind a call that keeps what was there. Conditions: none. -/
import Derived.Test.YtpgnadngiaibeaaPost
import Derived.Test.YtpgnadngiaibeaaMemPlaysW
import Derived.Deep.Slices
import Derived.Deep.Fields
import Derived.DataShut
namespace Go.Proofs.Ytpgnadngiaibeaa
open Go Go.ChangeShapes Go.WideShapes Go.ChangeAt Go.ChangeMaps Go.RowKit Go.Deep
theorem cellsOp : Try.prog.cellsOf 42 = 5 := by kernel_rfl
theorem cellsU64 : Try.prog.cellsOf 22 = 1 := by kernel_rfl
section
variable {H : Type} {enc : TypeId × Value → H} {w w' : World} {base : Nat} {sp sp' : Nat → Bool} {held : Bool}
theorem mapM_same {α β : Type} {f g : α → Option β} : ∀ {l : List α}, (∀ x ∈ l, f x = g x) → l.mapM f = l.mapM g
  | [], _ => by simp
  | x :: xs, h => by
    rw [List.mapM_cons, List.mapM_cons, h x (List.mem_cons_self ..), mapM_same (fun y hy => h y (List.mem_cons_of_mem _ hy))]
theorem trod_int_free {P : Program} {t : TypeId} {k : IntKind} (ht : P.underlying t = some (.int k)) (n : Nat) (cs : List Value) : DataW.trod enc P w base sp held n t cs = DataW.trod enc P w' base sp' held n t cs := by
  cases n with
  | zero => simp [DataW.trod]
  | succ n =>
    rw [DataW.trod_step, DataW.trod_step]
    unfold DataW.trodStep
    rw [ht]
    rcases cs with _ | ⟨c, _ | ⟨c2, cs⟩⟩
    · rfl
    · cases c <;> rfl
    · cases c <;> rfl
theorem trod_op_free (n : Nat) (cs : List Value) : DataW.trod enc Try.prog w base sp held n 42 cs = DataW.trod enc Try.prog w' base sp' held n 42 cs := by
  cases n with
  | zero => simp [DataW.trod]
  | succ n =>
    rw [DataW.trod_step, DataW.trod_step]
    unfold DataW.trodStep
    simp only [Try.underlying42]
    rw [mapM_same]
    intro f hf
    have ht : f.type = 3 ∨ f.type = 22 := by
      simp only [List.mem_cons, List.not_mem_nil, or_false] at hf
      rcases hf with rfl | rfl | rfl | rfl | rfl <;> simp
    rcases ht with q | q
    · rw [q]; exact trod_int_free Try.underlying3 n _
    · rw [q]; exact trod_int_free Try.underlying22 n _
end
/-- an operation, read -/
theorem op_cells {H : Type} {enc : TypeId × Value → H} {w : World} {base n : Nat} {sp : Nat → Bool} {held : Bool} {cs : List Value} {x : DataW H × List MemPlace} (h : DataW.trod enc Try.prog w base sp held n 42 cs = some x) :
    ∃ k A B C X : Int, cs = [.int .i64 k, .int .i64 A, .int .i64 B, .int .i64 C, .int .u64 X] ∧ A ≤ 9223372036854775807 ∧ 0 ≤ X ∧ X < 18446744073709551616 := by
  obtain ⟨xs, n', _, _, hlen, hyl, hf⟩ := DataW.trod_struct Try.underlying42 h
  rw [cellsOp] at hlen
  match cs, hlen with
  | [c0, c1, c2, c3, c4], _ =>
    match xs, hyl with
    | [y0, y1, y2, y3, y4], _ =>
      have g0 : DataW.trod enc Try.prog w base sp held n' 3 (([c0, c1, c2, c3, c4].drop 0).take (Try.prog.cellsOf 3)) = some y0 := hf 0 _ rfl
      rw [cellsInt] at g0
      have g1 : DataW.trod enc Try.prog w base sp held n' 3 (([c0, c1, c2, c3, c4].drop 1).take (Try.prog.cellsOf 3)) = some y1 := hf 1 _ rfl
      rw [cellsInt] at g1
      have g2 : DataW.trod enc Try.prog w base sp held n' 3 (([c0, c1, c2, c3, c4].drop 2).take (Try.prog.cellsOf 3)) = some y2 := hf 2 _ rfl
      rw [cellsInt] at g2
      have g3 : DataW.trod enc Try.prog w base sp held n' 3 (([c0, c1, c2, c3, c4].drop 3).take (Try.prog.cellsOf 3)) = some y3 := hf 3 _ rfl
      rw [cellsInt] at g3
      have g4 : DataW.trod enc Try.prog w base sp held n' 22 (([c0, c1, c2, c3, c4].drop 4).take (Try.prog.cellsOf 22)) = some y4 := hf 4 _ rfl
      rw [cellsU64] at g4
      obtain ⟨z0, e0, _, _⟩ := DataW.trod_int Try.underlying3 (show DataW.trod enc Try.prog w base sp held n' 3 [c0] = some y0 from g0)
      obtain ⟨z1, e1, _, w1⟩ := DataW.trod_int Try.underlying3 (show DataW.trod enc Try.prog w base sp held n' 3 [c1] = some y1 from g1)
      obtain ⟨z2, e2, _, _⟩ := DataW.trod_int Try.underlying3 (show DataW.trod enc Try.prog w base sp held n' 3 [c2] = some y2 from g2)
      obtain ⟨z3, e3, _, _⟩ := DataW.trod_int Try.underlying3 (show DataW.trod enc Try.prog w base sp held n' 3 [c3] = some y3 from g3)
      obtain ⟨z4, e4, _, w4⟩ := DataW.trod_int Try.underlying22 (show DataW.trod enc Try.prog w base sp held n' 22 [c4] = some y4 from g4)
      have b1 : -9223372036854775808 ≤ z1 ∧ z1 ≤ 9223372036854775807 := by simpa [Lit.wf, IntKind.min, IntKind.max, IntKind.signed, IntKind.bits] using w1
      have b4 : 0 ≤ z4 ∧ z4 ≤ 18446744073709551615 := by simpa [Lit.wf, IntKind.min, IntKind.max, IntKind.signed, IntKind.bits] using w4
      simp only [List.cons.injEq, and_true] at e0 e1 e2 e3 e4
      subst e0 e1 e2 e3 e4
      exact ⟨z0, z1, z2, z3, z4, rfl, b1.2, b4.1, by omega⟩
theorem open_ops {H : Type} {enc : TypeId × Value → H} {W : World} {b0 : Nat} {v : Value} {d : DataW H} {p : List MemPlace} (hval : Value.okWide Try.prog W .any b0 30 v)
    (hd : DataW.Trod enc Try.prog W 0 (fun _ => true) true 30 v d p) :
    OpsV W v ∧ (∀ (W' : World) (sp : Nat → Bool), Below W.heap.size W W' → (∀ q ∈ p, sp q.block = true) → DataW.Trod enc Try.prog W' 0 sp true 30 v d p) := by
  obtain ⟨a0, len, cap, rfl⟩ := okWide_slice Try.underlying30 hval
  obtain ⟨fuel, hf⟩ := hd
  rcases open_slice Try.underlying30 hf with ⟨hcs, hx⟩ | ⟨a, len', cap', m, n, D, Pl, hcs, _, hl, hm, hmm, hx, hi⟩
  · simp [Value.cells] at hcs
    obtain ⟨rfl, rfl, rfl⟩ := hcs
    simp only [Prod.mk.injEq] at hx
    obtain ⟨rfl, rfl⟩ := hx
    exact ⟨⟨none, 0, 0, rfl, Nat.le_refl _, by omega, fun j hj => absurd hj (Nat.not_lt_zero _)⟩, fun W' sp _ _ => shut_slice_nil Try.underlying30⟩
  · simp [Value.cells] at hcs
    obtain ⟨rfl, rfl, rfl⟩ := hcs
    simp only [Prod.mk.injEq] at hx
    obtain ⟨rfl, rfl⟩ := hx
    simp only [if_true] at hmm
    subst hmm
    have hval' := hval
    simp only [Value.okWide, Cell.okWide, Cell.ok, Try.underlying30] at hval'
    obtain ⟨hsp, hlt⟩ := has_lt hval'.2.2
    obtain ⟨b, off, spot⟩ := a
    simp only at hsp hlt
    subst hsp
    rw [cellsOp] at hi
    refine ⟨⟨_, len, m, rfl, hl, by simpa [maxLen] using hm, fun j hj => ?_⟩, fun W' sp hb hq => ?_⟩
    · obtain ⟨cs', hc, ht'⟩ := hi j (by omega)
      obtain ⟨k, A, B, C, X, rfl, hA, h0, h1⟩ := op_cells ht'
      obtain ⟨_, _, hat⟩ := World.cells?_some hc
      have ce : ∀ i, i < 5 → W.cell? ⟨b, off + j * 5 + i, none⟩ = [Value.int .i64 k, .int .i64 A, .int .i64 B, .int .i64 C, .int .u64 X][i]? := fun i hi => by
        have := hat i hi
        rwa [add_plain, add_plain] at this
      exact ⟨b, off, k, A, B, C, X, rfl, hlt, hA, h0, h1, ce 0 (by decide), ce 1 (by decide), ce 2 (by decide), ce 3 (by decide), ce 4 (by decide)⟩
    · have again : ∀ i, i < m → ∃ cs n, W'.cells? 0 ((⟨b, off, none⟩ : Addr).add (i * Try.prog.cellsOf 42)) (Try.prog.cellsOf 42) = some cs ∧ DataW.trod enc Try.prog W' 0 sp true n 42 cs = some (D i, Pl i) := fun i him => by
        obtain ⟨cs', hc, ht'⟩ := hi i him
        rw [cellsOp]
        obtain ⟨_, hcl, hat⟩ := World.cells?_some hc
        refine ⟨cs', n, World.cells?_of_each (Nat.zero_le _) hcl (fun l hl => ?_), (trod_op_free n cs').trans ht'⟩
        rw [← hat l hl, add_plain, add_plain]
        exact hb.cell (p := ⟨b, off + i * 5 + l, none⟩) hlt
      by_cases hs : sp b = true
      · exact shut_slice_whole (a := ⟨b, off, none⟩) Try.underlying30 (Nat.zero_le _) hl hm hs D Pl again
      · have hm0 : m = 0 := by
          by_cases q : m = 0
          · exact q
          · exfalso
            apply hs
            have := hq (.cell b off) (List.mem_append_left _ (MemPlace.mem_row.2 ⟨0, by rw [cellsOp]; omega, by simp⟩))
            simpa only [MemPlace.block] using this
        subst hm0
        have hl0 : len = 0 := by omega
        subst hl0
        exact shut_slice (a := ⟨b, off, none⟩) Try.underlying30 (Nat.zero_le _) hl hm (by simpa using hs) D Pl (fun i hi => absurd hi (Nat.not_lt_zero _))
end Go.Proofs.Ytpgnadngiaibeaa
