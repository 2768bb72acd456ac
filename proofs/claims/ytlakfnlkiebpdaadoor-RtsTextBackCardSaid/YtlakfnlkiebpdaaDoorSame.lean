/- The contract of the reference's SameWords: two lists of words are read and compared; nothing that lay has turned. Condition: the lists are no longer than the reach. -/
import Derived.Test.YtlakfnlkiebpdaaDoorUnpack
namespace Go.Proofs.YtlakfnlkiebpdaaDoor.NumL
open Go Go.RowKit
theorem below_drewN' {B : Nat} {a w : World} (h : Below B a w) (n : Nat) : Below B a (w.drewN n) := ⟨h.os, h.tape, h.output, h.size, h.block⟩
set_option maxHeartbeats 1000000 in
theorem same_len (a b : Option Addr) (la lb ca cb : Nat) (h : la ≠ lb) (w : World) :
    Calls Tryd.prog 89 #[.slice a la ca, .slice b lb cb] w fun e w' => e = .returned (.bool false) ∧ Below w.heap.size w w' := by
  have hd : ((la : Int) != (lb : Int)) = true := by
    have : ¬ ((la : Int) = (lb : Int)) := by omega
    simpa using this
  clear h
  go_enter Tryd.func89, Tryd.ntmps89
  go_wp2
  go_ret
  exact ⟨rfl, Below.refl _ _⟩
set_option maxHeartbeats 1000000 in
theorem same_empty (a b : Option Addr) (ca cb : Nat) (w : World) :
    Calls Tryd.prog 89 #[.slice a 0 ca, .slice b 0 cb] w fun e w' => e = .returned (.bool true) ∧ Below w.heap.size w w' := by
  go_enter Tryd.func89, Tryd.ntmps89
  go_wp2
  go_loopw [5] (fun i wr => i = .int .i64 0 ∧ wr = w) (fun _ _ => 0)
  case atStart => exact ⟨rfl, rfl⟩
  case round =>
    obtain ⟨rfl, rfl⟩ := hrel
    go_wp2
    go_ret
    exact ⟨rfl, Below.refl _ _⟩
/-- as far as k the two lists are the same -/
def Upto (xs ys : List Nat) (k : Nat) : Prop := ∀ j, j < k → xs.getD j 0 = ys.getD j 0
theorem upto_next {xs ys : List Nat} {k : Nat} (h : Upto xs ys k) (e : xs.getD k 0 = ys.getD k 0) : Upto xs ys (k + 1) := by
  intro j hj
  by_cases hk : j < k
  · exact h j hk
  · obtain rfl : j = k := by omega
    exact e
theorem upto_end {xs ys : List Nat} (hl : xs.length = ys.length) (h : Upto xs ys xs.length) : xs = ys := by
  apply List.ext_getElem hl
  intro i h1 h2
  have := h i h1
  simpa [List.getD, h1, h2] using this
def SameOut (xs ys : List Nat) (e : Ending) : Prop := e = .returned (.bool (decide (xs = ys)))
theorem sameOut_yes {xs ys : List Nat} (h : xs = ys) : SameOut xs ys (.returned (.bool true)) := by unfold SameOut; rw [decide_eq_true h]
theorem sameOut_no {xs ys : List Nat} {k : Nat} (h : xs.getD k 0 ≠ ys.getD k 0) : SameOut xs ys (.returned (.bool false)) := by
  unfold SameOut; rw [decide_eq_false (fun e => h (by rw [e]))]
set_option maxHeartbeats 2000000 in
theorem same_some (b1 o1 c1 b2 o2 c2 : Nat) (xs ys : List Nat) (hl : xs.length = ys.length) (hx : xs.length ≤ 140737488351232) (w : World) (hb1 : b1 < w.heap.size) (hb2 : b2 < w.heap.size)
    (h1 : ∀ j, j < xs.length → w.cell? ⟨b1, o1 + j, none⟩ = some (.int .u64 (xs.getD j 0 : Nat))) (h2 : ∀ j, j < ys.length → w.cell? ⟨b2, o2 + j, none⟩ = some (.int .u64 (ys.getD j 0 : Nat))) :
    Calls Tryd.prog 89 #[.slice (some ⟨b1, o1, none⟩) xs.length c1, .slice (some ⟨b2, o2, none⟩) ys.length c2] w fun e w' => SameOut xs ys e ∧ Below w.heap.size w w' := by
  have H1 := Lib.hid h1
  have H2 := Lib.hid h2
  have HL := Lib.hid hl
  have hd : ((xs.length : Int) != (ys.length : Int)) = false := by
    have : ((xs.length : Int) = (ys.length : Int)) := by omega
    simpa using this
  have hle : xs.length ≤ ys.length := by omega
  clear h1 h2 hl
  go_enter Tryd.func89, Tryd.ntmps89
  go_wp2
  go_loopw [5] (fun i wr => ∃ k : Nat, k ≤ xs.length ∧ i = .int .i64 k ∧ Upto xs ys k ∧ Below w.heap.size w wr) (fun i _ => xs.length - (intOf i).toNat)
  case atStart => exact ⟨0, by omega, rfl, fun _ h => by omega, Below.refl _ _⟩
  case round =>
    obtain ⟨k, hk, rfl, hU, hB⟩ := hrel
    have HU := Lib.hid hU
    clear hU
    by_cases hlt : k < xs.length
    · have hlt2 : k < ys.length := by omega
      obtain ⟨x, hx1⟩ : ∃ x, xs.getD k 0 = x := ⟨_, rfl⟩
      obtain ⟨y, hy1⟩ : ∃ y, ys.getD k 0 = y := ⟨_, rfl⟩
      have hcx : wr.cell? ⟨b1, o1 + k, none⟩ = some (.int .u64 (x : Nat)) := by rw [hB.cell (p := ⟨b1, o1 + k, none⟩) hb1, H1.out k hlt, hx1]
      have hcy : wr.cell? ⟨b2, o2 + k, none⟩ = some (.int .u64 (y : Nat)) := by rw [hB.cell (p := ⟨b2, o2 + k, none⟩) hb2, H2.out k hlt2, hy1]
      have HX := Lib.hid hx1
      have HY := Lib.hid hy1
      clear hx1 hy1
      by_cases hxy : x = y
      · have hdn : ((x : Int) != (y : Int)) = false := by
          have : ((x : Int) = (y : Int)) := by omega
          simpa using this
        have HXY := Lib.hid hxy
        clear hxy
        go_wp2
        go_quiet (fail)
        go_wp2
        go_roundw
        case rel => exact ⟨k + 1, hlt, by simp, upto_next HU.out (by rw [HX.out, HY.out]; exact HXY.out), below_drewN' hB _⟩
        case measure => simp [intOf]; omega
      · have hdn : ((x : Int) != (y : Int)) = true := by
          have : ¬ ((x : Int) = (y : Int)) := by omega
          simpa using this
        have HXY := Lib.hid hxy
        clear hxy
        go_wp2
        go_quiet (fail)
        go_wp2
        go_ret
        exact ⟨sameOut_no (k := k) (by rw [HX.out, HY.out]; exact HXY.out), below_drewN' hB _⟩
    · obtain rfl : k = xs.length := by omega
      go_wp2
      go_ret
      exact ⟨sameOut_yes (upto_end HL.out HU.out), hB⟩
/-- SameWords: whether two lists of words are the same -/
theorem same_any (v1 v2 : Value) (xs ys : List Nat) (hx : xs.length ≤ 140737488351232) (w : World) (h1 : Words w.heap.size w v1 xs) (h2 : Words w.heap.size w v2 ys) :
    Calls Tryd.prog 89 #[v1, v2] w fun e w' => SameOut xs ys e ∧ Below w.heap.size w w' := by
  obtain ⟨a1, c1, e1⟩ := h1.shape
  obtain ⟨a2, c2, e2⟩ := h2.shape
  by_cases hl : xs.length = ys.length
  · by_cases h0 : xs.length = 0
    · have hx0 : xs = [] := List.length_eq_zero_iff.1 h0
      have hy0 : ys = [] := List.length_eq_zero_iff.1 (by omega)
      subst hx0
      subst hy0
      rw [e1, e2]
      exact (same_empty a1 a2 c1 c2 w).mono fun e w' ⟨he, hb⟩ => ⟨by subst he; exact sameOut_yes rfl, hb⟩
    · rcases h1 with ⟨_, rfl⟩ | ⟨b1, o1, c1, rfl, hb1, _, hc1⟩
      · simp at h0
      · rcases h2 with ⟨_, rfl⟩ | ⟨b2, o2, c2, rfl, hb2, _, hc2⟩
        · exact (h0 (by rw [hl]; rfl)).elim
        · exact same_some b1 o1 c1 b2 o2 c2 xs ys hl hx w hb1 hb2 hc1 hc2
  · rw [e1, e2]
    refine (same_len a1 a2 xs.length ys.length c1 c2 hl w).mono ?_
    rintro e w' ⟨rfl, hb⟩
    refine ⟨?_, hb⟩
    unfold SameOut
    rw [decide_eq_false (fun e => hl (by rw [e]))]
end Go.Proofs.YtlakfnlkiebpdaaDoor.NumL
