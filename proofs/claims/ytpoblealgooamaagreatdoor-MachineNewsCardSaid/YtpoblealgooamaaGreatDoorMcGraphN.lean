/- A new machine as a row of numbers, as the check writes it. Conditions: the machine's cells, its memory. -/
import Derived.Test.YtpoblealgooamaaGreatDoorMcWordsN
import Derived.Test.YtpoblealgooamaaGreatDoorMcRefG
namespace Go.Proofs.YtpoblealgooamaaGreatDoor
open Go Go.RowKit Go.Proofs.YtpoblealgooamaaGreatDoor.IsaL
set_option maxRecDepth 100000 in
set_option maxHeartbeats 8000000 in
theorem memory_mc {w : World} {g b W : Nat} {F : Nat → Value} {R : Nat → Value} {now old : List Ob} (hx : Bx w g F) (h0 : F 0 = .pointer (some ⟨b, 0, none⟩)) (m : Mem w b W 0 R now old) (z : WF W 0 now old) :
    Calls Tryz.prog 15 #[.pointer (some ⟨g, 0, none⟩)] w fun e w' => e = .returned (.pointer (some ⟨w.heap.size, 0, none⟩)) ∧ Below w.heap.size w w' := by
  have c0 := hx.cell (j := 0) (by omega)
  rw [h0] at c0
  have HN := Lib.hid (none_mc hx h0)
  have HC := Lib.hid (copy_any m z.sizes)
  clear hx h0 m z
  go_enter Tryz.func15, Tryz.ntmps15
  go_wp2_with fail
  refine (HN.out).mono ?_
  rintro e w1 ⟨rfl, hw1⟩
  subst w1
  go_wp2_with fail
  refine (HC.out).mono ?_
  rintro e w2 ⟨rfl, V, _, _, hb⟩
  have HB := Lib.hid hb
  clear hb
  go_wp2_with fail
  go_ret
  exact ⟨rfl, HB.out⟩
set_option maxRecDepth 100000 in
set_option maxHeartbeats 8000000 in
theorem lawgraph_new {w : World} {g b W : Nat} {F : Nat → Value} {R : Nat → Value} (hx : Bx w g F) (h0 : F 0 = .pointer (some ⟨b, 0, none⟩)) (hm : MNew F) (hgl : ∀ k, k < 1024 → F (18 + k) = .int .u64 1) (m : Mem w b W 0 R [] []) (z : WF W 0 [] []) :
    Calls Tryz.prog 31 #[.pointer (some ⟨g, 0, none⟩)] w fun e w' => (∃ v, e = .returned (.tuple #[v, .bool true]) ∧ w'.ownsRow w.heap.size 31 1 v (1025 + 1025) (u64s (onR 1025))) ∧ Below w.heap.size w w' := by
  obtain ⟨i0, hi, hz0, hz1, hz2⟩ := info_parts infoU64
  have HM := Lib.hid (memory_mc hx h0 m z)
  have hva := hm.va
  have HV := Lib.hid (fun (Y : World) (hb : Below w.heap.size w Y) => value_mc (hx.below hb) h0 hva)
  have HG := Lib.hid (fun (Y : World) (hb : Below w.heap.size w Y) (k : Nat) (hk : k < 1024) => global_at (hx.below hb) h0 hk (hgl k hk))
  have HW := Lib.hid (fun o Y => law_word_one o Y)
  have hpn : ((some (⟨w.heap.size, 0, none⟩ : Addr)) == none) = false := rfl
  clear hx h0 hm hgl m z hva
  go_enter Tryz.func31, Tryz.ntmps31
  go_wp2_with fail
  refine (HM.out).mono ?_
  rintro e w1 ⟨rfl, hb1⟩
  have HB1 := Lib.hid hb1
  clear hb1
  go_wp2_with fail
  refine ((HV.out _ HB1.out)).mono ?_
  rintro e w' ⟨rfl, hw'⟩
  subst w'
  go_wp2_with fail
  refine ((HW.out _ _)).mono ?_
  rintro e w2 ⟨rfl, hw2⟩
  have HTC := Lib.hid (show ∀ j u, [Value.int .u64 1, .int .u64 0][j]? = some u → w2.cell? ((⟨w1.heap.size, 0, none⟩ : Addr).add j) = some u from by rw [hw2]; exact two_cells w1 _ _ rfl)
  have HB2 := Lib.hid (show Below w.heap.size w w2 from by rw [hw2]; exact HB1.out.alloc HB1.out.size _)
  clear hw2
  go_wp2_with (at_builtin; go_loud (refine wpList_append_lies _ rfl _ _ 52 rfl w.heap.size 31 i0 (.int .u64 0) 1 8 Tryz.underlying52 hi hz0 hz1 hz2 rfl (by decide) (.slice none 0 0) 0 (u64s (onR 0)) rfl (own_nilU _ _) ⟨w1.heap.size, 0, none⟩ 2 2 [.int .u64 1, .int .u64 0] rfl rfl HTC.out (by simp [Value.oneCell']) (by decide) (by unfold maxLen; omega) (by omega) HB2.out.size w2.heap.size rfl ?_); intro g3 cap3 w3 hown3 hgrow3 _ _; rw [onR_val] at hown3; have HR3 := Lib.hid (show w3.ownsRow w.heap.size 31 1 (.slice (some ⟨g3, 0, none⟩) 2 cap3) 2 (u64s (onR 1)) from hown3); have HB3 := Lib.hid (gr_from HB2.out (own_nilU w2 w.heap.size) hgrow3 (Nat.le_refl _)); clear hown3 hgrow3)
  go_loopw [5, 7, 8] (fun o q i wr => q = .slice none 0 0 ∧ ∃ k : Nat, k ≤ 1024 ∧ i = .int .i64 k ∧ wr.ownsRow w.heap.size 31 1 o (k + k + 2) (u64s (onR (k + 1))) ∧ Below w.heap.size w wr) (fun _ _ i _ => 1024 - (intOf i).toNat)
  case atStart => exact ⟨rfl, 0, by omega, rfl, HR3.out, HB3.out⟩
  case round =>
    obtain ⟨rfl, k, hk, rfl, hrow, hbl⟩ := hrel
    clear HB3 HR3
    have HROW := Lib.hid hrow
    have HBL := Lib.hid hbl
    clear hrow hbl
    by_cases hlt : k < 1024
    · have b0 : (0 : Int) ≤ (k : Int) := by omega
      have b1 : (k : Int) < 1024 := by omega
      go_wp2_with fail
      refine ((HG.out _ HBL.out k hlt)).mono ?_
      rintro e w' ⟨rfl, hw'⟩
      subst w'
      go_wp2_with fail
      refine ((HW.out _ _)).mono ?_
      rintro e w4 ⟨rfl, hw4⟩
      have HTC4 := Lib.hid (show ∀ j u, [Value.int .u64 1, .int .u64 0][j]? = some u → w4.cell? ((⟨wr.heap.size, 0, none⟩ : Addr).add j) = some u from by rw [hw4]; exact two_cells wr _ _ rfl)
      have HB4 := Lib.hid (show Below w.heap.size w w4 from by rw [hw4]; exact HBL.out.alloc HBL.out.size _)
      have HR4 := Lib.hid (show w4.ownsRow w.heap.size 31 1 u5 (k + k + 2) (u64s (onR (k + 1))) from by rw [hw4]; exact HROW.out.alloc _)
      clear hw4 HROW HBL
      go_wp2_with (at_builtin; go_loud (refine wpList_append_lies _ rfl _ _ 52 rfl w.heap.size 31 i0 (.int .u64 0) 1 8 Tryz.underlying52 hi hz0 hz1 hz2 rfl (by decide) u5 (k + k + 2) (u64s (onR (k + 1))) rfl HR4.out ⟨wr.heap.size, 0, none⟩ 2 2 [.int .u64 1, .int .u64 0] rfl rfl HTC4.out (by simp [Value.oneCell']) (by decide) (by unfold maxLen; omega) (by omega) HB4.out.size w4.heap.size rfl ?_); intro g7 cap7 w7 hown7 hgrow7 _ _; rw [onR_val] at hown7; have HR7 := Lib.hid hown7; have HB7 := Lib.hid (gr_from HB4.out HR4.out hgrow7 (Nat.le_refl _)); clear hown7 hgrow7)
      go_roundw
      case rel => exact ⟨rfl, k + 1, hlt, by go_num, by have := HR7.out; rw [show k + 1 + (k + 1) + 2 = k + k + 2 + 2 by omega]; exact this, HB7.out⟩
      case measure => simp [intOf]; omega
    · obtain rfl : k = 1024 := by omega
      go_wp2_with fail
      go_loopw [5, 7, 9] (fun o q i wz => o = u5 ∧ q = .slice none 0 0 ∧ i = .int .i64 0 ∧ wz = wr) (fun _ _ _ _ => 0)
      case atStart => exact ⟨rfl, rfl, rfl, rfl⟩
      case round =>
        obtain ⟨rfl, rfl, rfl, rfl⟩ := hrel
        go_wp2_with fail
        go_ret2
        exact ⟨⟨_, rfl, HROW.out⟩, HBL.out⟩
end Go.Proofs.YtpoblealgooamaaGreatDoor
