/- From words of the integer 0 nothing can be reached. Conditions: the document's machine is new. -/
import Derived.Test.YtpoblealgooamaaGreatDoorMcRefR
namespace Go.Proofs.YtpoblealgooamaaGreatDoor
open Go Go.RowKit Go.Proofs.YtpoblealgooamaaGreatDoor.IsaL
set_option maxRecDepth 100000 in
set_option maxHeartbeats 8000000 in
theorem reforder_new {w : World} {W S : Int} {gl rb g n c : Nat} (h : RefNew w W S gl rb) (hn : n ≤ 65536) (hc : ∀ k, k < n → w.cell? ⟨g, k * 3, none⟩ = some (.bool false)) :
    Calls Tryz.prog 62 #[.pointer (some ⟨rb, 0, none⟩), .slice (some ⟨g, 0, none⟩) n c] w fun e w' => e = .returned (.slice none 0 0) ∧ Below w.heap.size w w' := by
  obtain ⟨cs, _, hmk⟩ := make_seen 0 (by omega)
  have hmk2 : ∀ w : World, (Instr.makeSlice 146 (.int .i64 0) (.int .i64 0)).run Tryz.prog w = .ok (.slice (some ⟨w.heap.size, 0, none⟩) 0 0) (w.alloc (.cells cs 4)) := hmk
  have c2 := h.at (j := 2) (v := .slice none 0 0) rfl
  have hpn : ((some (⟨rb, 0, none⟩ : Addr)) == none) = false := rfl
  have hb1 := mcb_one w (.cells cs 4)
  obtain ⟨w1, hw1⟩ : ∃ w1, w.alloc (.cells cs 4) = w1 := ⟨_, rfl⟩
  have hmw := hmk2 w
  rw [hw1] at hb1 hmw
  have HC := Lib.hid (fun k hk => (mcb_cell hb1 (hc k hk)))
  have HB := Lib.hid hb1
  clear h hc hmk hmk2 hb1 hw1
  go_enter Tryz.func62, Tryz.ntmps62
  go_wp2_with fail
  go_loopw [6, 7, 8] (fun o l d wr => o = .slice none 0 0 ∧ l = .slice (some ⟨g, 0, none⟩) n c ∧ d = .int .i64 0 ∧ wr = w1) (fun _ _ _ _ => 0)
  case atStart => exact ⟨rfl, rfl, rfl, rfl⟩
  case round =>
    obtain ⟨rfl, rfl, rfl, rfl⟩ := hrel
    go_wp2_with fail
    go_loopw [6, 9] (fun o i wq => o = .slice none 0 0 ∧ (∃ k : Nat, k ≤ n ∧ i = .int .i64 k) ∧ wq = wr) (fun _ i _ => n - (intOf i).toNat)
    case atStart => exact ⟨rfl, ⟨0, by omega, rfl⟩, rfl⟩
    case round =>
      obtain ⟨rfl, ⟨k, hk, rfl⟩, rfl⟩ := hrel
      by_cases hlt : k < n
      · have ck := HC.out k hlt
        have b0 : (0 : Int) ≤ (k : Int) := by omega
        have b1 : (k : Int) < n := by omega
        go_wp2_with fail
        go_roundw
        case rel => exact ⟨rfl, ⟨k + 1, hlt, by go_num⟩, trivial⟩
        case measure => simp [intOf]; omega
      · obtain rfl : k = n := by omega
        have b1 : ¬ (k : Int) < k := by omega
        go_wp2_with fail
        go_ret
        exact ⟨rfl, HB.out⟩
/-- what the document's new machine holds needs no word -/
theorem reflive_new {w : World} {W S : Int} {gl rb : Nat} (h : RefNew w W S gl rb) :
    Calls Tryz.prog 32 #[.pointer (some ⟨rb, 0, none⟩)] w fun e w' => e = .returned (.int .i64 0) ∧ Below w.heap.size w w' := by
  have HR := Lib.hid (refroots_new h)
  have HH := Lib.hid h
  clear h
  go_enter Tryz.func32, Tryz.ntmps32
  go_wp2_with fail
  refine HR.out.mono ?_
  rintro e w1 ⟨⟨v, rfl, ho⟩, hb⟩
  obtain ⟨g, c, rfl, _, _, hc⟩ := zsR_row ho (by omega)
  have HO := Lib.hid ((reforder_new (n := 1042) (c := c) (HH.out.below hb) (by omega) (fun k hk => (hc k hk).1)).mono (fun e w' h => And.intro h.1 (hb.trans (h.2.mono hb.size))))
  clear ho hc hb
  go_wp2_with fail
  refine HO.out.mono ?_
  rintro e w2 ⟨rfl, hb2⟩
  have HB := Lib.hid hb2
  clear hb2
  go_wp2_with fail
  go_loopw [4, 5] (fun n i wr => n = .int .i64 0 ∧ i = .int .i64 0 ∧ wr = w2) (fun _ _ _ => 0)
  case atStart => exact ⟨rfl, rfl, rfl⟩
  case round =>
    obtain ⟨rfl, rfl, rfl⟩ := hrel
    go_wp2_with fail
    go_ret
    exact ⟨rfl, HB.out⟩
end Go.Proofs.YtpoblealgooamaaGreatDoor
