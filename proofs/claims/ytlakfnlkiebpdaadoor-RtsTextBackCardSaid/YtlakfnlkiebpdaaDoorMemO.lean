/- A memory's state, object by object. Conditions: none. -/
import Derived.Test.YtlakfnlkiebpdaaDoorMemQ
namespace Go.Proofs.YtlakfnlkiebpdaaDoor
open Go Go.RowKit
/-- which object begins at an address of a half -/
def idxAt (os : List Ob) (h W : Nat) (a : Int) : Option Nat := (List.range os.length).find? fun j => decide (adr h W (start os j : Nat) = a)
theorem adr_inj {h W : Nat} {c d : Int} (e : adr h W c = adr h W d) : c = d := by unfold adr at e; omega
theorem idxAt_some {os : List Ob} {h W j : Nat} {a : Int} (e : idxAt os h W a = some j) : j < os.length ∧ a = adr h W (start os j : Nat) := by
  unfold idxAt at e
  have h1 := List.find?_some e
  have h2 := List.mem_of_find?_eq_some e
  exact ⟨List.mem_range.1 h2, (of_decide_eq_true h1).symm⟩
theorem idxAt_none {os : List Ob} {h W : Nat} {a : Int} (e : idxAt os h W a = none) : ∀ j, j < os.length → a ≠ adr h W (start os j : Nat) := by
  unfold idxAt at e
  intro j hj q
  have := List.find?_eq_none.1 e j (List.mem_range.2 hj)
  simp [q] at this
theorem idxAt_of {os : List Ob} {h W j : Nat} (hj : j < os.length) : idxAt os h W (adr h W (start os j : Nat)) = some j := by
  cases e : idxAt os h W (adr h W (start os j : Nat)) with
  | none => exact absurd rfl (idxAt_none e j hj)
  | some i =>
    obtain ⟨hi, hq⟩ := idxAt_some e
    have := start_inj os hj hi (by have := adr_inj hq; omega)
    rw [this]
/-- the rows of a memory whose half h holds the objects now, the other one the objects old -/
def rowsOf (h : Nat) (now old : List Ob) (r : Nat) : List Nat := if r % 2 = 0 then flat (if r / 2 = h then now else old) else marksL (if r / 2 = h then now else old)
def half (h : Nat) (now old : List Ob) (k : Nat) : List Ob := if k = h then now else old
theorem rows_cells (h k : Nat) (now old : List Ob) : rowsOf h now old (k * 2) = flat (half h now old k) := by
  unfold rowsOf half
  rw [if_pos (by omega), show k * 2 / 2 = k by omega]
theorem rows_marks (h k : Nat) (now old : List Ob) : rowsOf h now old (k * 2 + 1) = marksL (half h now old k) := by
  unfold rowsOf half
  rw [if_neg (by omega), show (k * 2 + 1) / 2 = k by omega]
theorem half_now (h : Nat) (now old : List Ob) : half h now old h = now := by unfold half; rw [if_pos rfl]
theorem half_old {h k : Nat} (now old : List Ob) (hk : k ≠ h) : half h now old k = old := by unfold half; rw [if_neg hk]
/-- objects as they may be -/
structure ObOk (o : Ob) : Prop where
  right : rightB o.k o.ws.length o.t = true
  to : o.to ≤ 131072
  word : ∀ x ∈ o.ws, x < 18446744073709551616
def Fresh (os : List Ob) : Prop := ∀ o ∈ os, o.to = 0
structure WF (W h : Nat) (now old : List Ob) : Prop where
  w0 : 64 ≤ W
  w1 : W ≤ 65536
  hh : h < 2
  un : used now ≤ W
  uo : used old ≤ W
  okn : ∀ o ∈ now, ObOk o
  oko : ∀ o ∈ old, ObOk o
  fresh : Fresh now
theorem hdr_lt {o : Ob} (h : ObOk o) : hdr o.k o.ws.length o.t < 18446744073709551616 := by
  have := right_bd h.right
  unfold hdr
  omega
theorem hw_lt {o : Ob} (h : ObOk o) : o.hw < 18446744073709551616 := by
  unfold Ob.hw
  have h1 := h.to
  split
  · exact hdr_lt h
  · omega
theorem flat_word {os : List Ob} (h : ∀ o ∈ os, ObOk o) : ∀ x ∈ flat os, x < 18446744073709551616 := by
  intro x hx
  unfold flat at hx
  obtain ⟨o, ho, hx⟩ := List.mem_flatMap.1 hx
  rcases List.mem_cons.1 hx with e | e
  · rw [e]; exact hw_lt (h o ho)
  · exact (h o ho).word x e
theorem marksL_length (os : List Ob) : (marksL os).length ≤ used os / 64 + 1 := by
  have gen : ∀ n, n ≤ os.length → (marksL (os.take n)).length ≤ used (os.take n) / 64 + 1 := by
    intro n
    induction n with
    | zero => intro _; simp [marksL]
    | succ n ih =>
      intro hn
      have := ih (by omega)
      rw [List.take_succ_eq_append_getElem (by omega), marksL_snoc, markAt_length, used_append, used_one]
      omega
  have := gen os.length (Nat.le_refl _)
  rwa [List.take_length] at this
theorem half_prop {h k : Nat} {now old : List Ob} {P : List Ob → Prop} (h1 : P now) (h2 : P old) : P (half h now old k) := by
  unfold half; split
  · exact h1
  · exact h2
theorem WF.sizes {W h : Nat} {now old : List Ob} (z : WF W h now old) : Sizes W h (rowsOf h now old) := by
  have hu : ∀ k, used (half h now old k) ≤ W := fun k => half_prop (P := fun l => used l ≤ W) z.un z.uo
  refine ⟨z.w0, z.w1, z.hh, fun r hr => ?_, fun r hr => ?_⟩
  · have hw1 := z.w1
    by_cases e : r % 2 = 0
    · obtain ⟨k, rfl⟩ : ∃ k, r = k * 2 := ⟨r / 2, by omega⟩
      rw [rows_cells, flat_length]
      have := hu k
      omega
    · obtain ⟨k, rfl⟩ : ∃ k, r = k * 2 + 1 := ⟨r / 2, by omega⟩
      rw [rows_marks]
      have := hu k
      have := marksL_length (half h now old k)
      omega
  · by_cases e : r % 2 = 0
    · obtain ⟨k, rfl⟩ : ∃ k, r = k * 2 := ⟨r / 2, by omega⟩
      rw [rows_cells]
      exact flat_word (half_prop (P := fun l => ∀ o ∈ l, ObOk o) z.okn z.oko)
    · obtain ⟨k, rfl⟩ : ∃ k, r = k * 2 + 1 := ⟨r / 2, by omega⟩
      rw [rows_marks]
      exact marksL_lt _
theorem split_hdr {k s t : Nat} (h : rightB k s t = true) : kN (hdr k s t) = k ∧ zN (hdr k s t) = s ∧ tN (hdr k s t) = t := by
  have := right_bd h
  unfold hdr kN zN tN
  refine ⟨?_, ?_, ?_⟩ <;> omega
/-- a memory at b with the objects now in use, the objects old in the other half -/
def Mem (w : World) (b W h : Nat) (R : Nat → Value) (now old : List Ob) : Prop := MemV w b W h R (rowsOf h now old)
section
variable {w : World} {b W h : Nat} {R : Nat → Value} {now old : List Ob}
theorem find_idx (m : Mem w b W h R now old) (z : WF W h now old) (k : Nat) (hk : k < 2) (a : Int) (ha2 : a ≤ 9223372036854775807) :
    Calls Tryd.prog 86 #[.pointer (some ⟨b, 0, none⟩), .int .i64 k, .int .i64 a] w fun e w' => e = .returned (match idxAt (half h now old k) k W a with | some j => .tuple #[.int .i64 (start (half h now old k) j : Nat), .bool true] | none => .tuple #[.int .i64 0, .bool false]) ∧ w' = w := by
  have zs := z.sizes
  cases e : idxAt (half h now old k) k W a with
  | some j =>
    obtain ⟨hj, ha⟩ := idxAt_some e
    have hb : bitAt (rowsOf h now old (k * 2 + 1)) (start (half h now old k) j) = true := by
      rw [rows_marks]; exact (bitAt_marksL _ _).2 ⟨j, hj, rfl⟩
    have := find_hi m zs k hk a _ ha ha2 true hb
    simpa using this
  | none =>
    have hn := idxAt_none e
    by_cases hlo : a < adr k W 0
    · exact find_lo m zs k hk a hlo
    · have hc : a = adr k W ((a - adr k W 0).toNat : Nat) := by unfold adr at hlo ⊢; omega
      have hb : bitAt (rowsOf h now old (k * 2 + 1)) (a - adr k W 0).toNat = false := by
        cases q : bitAt (rowsOf h now old (k * 2 + 1)) (a - adr k W 0).toNat with
        | false => rfl
        | true =>
          rw [rows_marks] at q
          obtain ⟨j, hj, hs⟩ := (bitAt_marksL _ _).1 q
          exact absurd (by rw [hs]; exact hc) (hn j hj)
      have := find_hi m zs k hk a _ hc ha2 false hb
      simpa using this
end
end Go.Proofs.YtlakfnlkiebpdaaDoor
