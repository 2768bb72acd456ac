/- SameIns of two slices that read as one list. Conditions: both lie in memory. -/
import Derived.Test.YtfpgalckmfdcmaaDoorIsaLstM
import Derived.Deep.QuietTactic
import Derived.BigQuiet
namespace Go.Proofs.YtfpgalckmfdcmaaDoor
open Go Go.RowKit Go.Shelf
theorem below_drewN3 {B : Nat} {a w : World} (h : Below B a w) (n : Nat) : Below B a (w.drewN n) := ⟨h.os, h.tape, h.output, h.size, h.block⟩
set_option maxRecDepth 100000 in
set_option maxHeartbeats 4000000 in
theorem same_yes (A A' : Option Addr) (n cap cap' : Nat) (l : List I5) (w : World) (h : SlI w w.heap.size A n cap l) (h' : SlI w w.heap.size A' n cap' l) :
    Calls Tryd.prog 18 #[.slice A n cap, .slice A' n cap'] w fun e w' => e = .returned (.bool true) ∧ ∃ m, w' = w.drewN m := by
  have hc1 := h.cap1
  have hc2 := h.cap2
  have hc1' := h'.cap1
  have hc2' := h'.cap2
  have hn := h.len
  have H := Lib.hid h
  have H' := Lib.hid h'
  have HN := Lib.hid hn
  have hnn : ((n : Int) != (n : Int)) = false := by simp
  clear h h' hn
  go_enter Tryd.func18, Tryd.ntmps18
  go_wp2_with fail
  go_loopw [5] (fun i wr => ∃ k q : Nat, k ≤ n ∧ i = .int .i64 k ∧ wr = w.drewN q) (fun i _ => n - (intOf i).toNat)
  case atStart => exact ⟨0, 0, Nat.zero_le _, rfl, (World.drewN_zero w).symm⟩
  case round =>
    obtain ⟨k, q, hk, rfl, hq⟩ := hrel
    have HQQ := Lib.hid hq
    by_cases hlt : k < n
    · have hld : decide ((k : Int) < (n : Int)) = true := decide_eq_true (by omega)
      obtain ⟨x, hx⟩ : ∃ x, l[k]? = some x := ⟨_, List.getElem?_eq_getElem (by rw [HN.out]; exact hlt)⟩
      obtain ⟨g, off, rfl, hg, hcs⟩ := H.out.ats (by omega)
      obtain ⟨g', off', rfl, hg', hcs'⟩ := H'.out.ats (by omega)
      obtain ⟨c0, c1, c2, c3, c4⟩ := hcs k x hx
      obtain ⟨d0, d1, d2, d3, d4⟩ := hcs' k x hx
      have st : ∀ p, wr.cell? p = w.cell? p := fun p => by rw [hq]; rfl
      have a0 := (st _).trans c0
      have a1 := (st _).trans c1
      have a2 := (st _).trans c2
      have a3 := (st _).trans c3
      have a4 := (st _).trans c4
      have b0 := (st _).trans d0
      have b1 := (st _).trans d1
      have b2 := (st _).trans d2
      have b3 := (st _).trans d3
      have b4 := (st _).trans d4
      obtain ⟨o, a, b, c, m⟩ := x
      have e0 : (o == o) = true := by simp
      have e1 : (a == a) = true := by simp
      have e2 : (b == b) = true := by simp
      have e3 : (c == c) = true := by simp
      have e4 : (m == m) = true := by simp
      have HQ := Lib.hid hq
      clear hcs hcs' hx c0 c1 c2 c3 c4 d0 d1 d2 d3 d4 st hq
      go_wp2_with fail
      go_quiet (fail)
      go_wp2_with fail
      go_roundw
      case rel => exact ⟨k + 1, q + nq, hlt, by go_num, by rw [HQ.out, World.drewN_drewN]⟩
      case measure => simp [intOf]; omega
    · obtain rfl : k = n := by omega
      have hld : decide ((k : Int) < (k : Int)) = false := decide_eq_false (by omega)
      clear hq
      go_wp2_with fail
      go_ret
      exact ⟨rfl, q, HQQ.out⟩
end Go.Proofs.YtfpgalckmfdcmaaDoor
