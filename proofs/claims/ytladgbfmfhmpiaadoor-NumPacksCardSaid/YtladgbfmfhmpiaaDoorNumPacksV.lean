/- The walk of the statement NumPacks, whole: it returns true. Conditions: the library's table of powers of ten reads as it is laid; the text and the list are no longer than the reach. -/
import Derived.Test.YtladgbfmfhmpiaaDoorNumPacksW
namespace Go.Proofs.YtladgbfmfhmpiaaDoor
open Go Go.RowKit Go.Shelf
attribute [local go_sem] Oper.semAt_some
set_option maxRecDepth 100000 in
set_option maxHeartbeats 4000000 in
theorem numPacks_longs (s : ByteArray) (a0 : Option Addr) (cap0 len : Nat) (n : Int) (h : 4096 < s.size) (hs : s.size ≤ 140737488351232) (w : World) (ht : Tab w) :
    Calls Tryd.prog 12 #[.string s, .slice a0 len cap0, .int .i64 n] w fun e w' => e = .returned (.bool true) ∧ Below w.heap.size w w' := by
  refine (callsIn_wide (n := 6)).1 ?_
  have HT := Lib.hid ht
  clear ht
  refine callsIn_of_wp_marks Tryd.func12 rfl trivial ?_ rfl
  simp only [Tryd.ntmps12, List.size_toArray, List.length_cons, List.length_nil, Nat.reduceAdd, Nat.reduceSub, Array.replicate_succ, Array.replicate_zero, List.push_toArray, List.append_toArray, List.nil_append, List.cons_append]
  have h1 : 1 ≤ 6 - 1 := by omega
  gi_wp2_with fail
  have HBA := Lib.hid (bl_self w (.cells #[.bool false] 4))
  have HBN := Lib.hid ((Below.refl w.heap.size w).alloc (Nat.le_refl _) (.cells #[.bool false] 4))
  refine ⟨trivial, ?_⟩
  refine (callsIn_wide.2 (known_any _ (tab_below HT.out (Nat.le_refl _) HBN.out))).mono ?_
  rintro e w1 ⟨rfl, hb1⟩
  have HB1 := Lib.hid (HBN.out.trans (hb1.mono (by simp)))
  have hbx := boxed_below (Boxed.new w 4 (.bool false)) hb1
  have hc := hbx.cell
  have hf := hbx.frozen
  have HX := Lib.hid hbx
  clear hbx hb1
  gi_wp2_with fail
  have hc2 := (HX.out.set (.bool true)).cell
  refine ⟨.bool true, ?_, rfl, HB1.out.setCell (p := ⟨w.heap.size, 0, none⟩) (Nat.le_refl _) _⟩
  simp [results, Tryd.f12, go_sem, hc2]
set_option maxRecDepth 100000 in
set_option maxHeartbeats 4000000 in
theorem numPacks_longl (s : ByteArray) (a0 : Option Addr) (cap0 len : Nat) (n : Int) (h0 : s.size ≤ 4096) (h : 1000 < len) (hs : len ≤ 140737488351232) (w : World) (ht : Tab w) :
    Calls Tryd.prog 12 #[.string s, .slice a0 len cap0, .int .i64 n] w fun e w' => e = .returned (.bool true) ∧ Below w.heap.size w w' := by
  refine (callsIn_wide (n := 6)).1 ?_
  have HT := Lib.hid ht
  clear ht
  refine callsIn_of_wp_marks Tryd.func12 rfl trivial ?_ rfl
  simp only [Tryd.ntmps12, List.size_toArray, List.length_cons, List.length_nil, Nat.reduceAdd, Nat.reduceSub, Array.replicate_succ, Array.replicate_zero, List.push_toArray, List.append_toArray, List.nil_append, List.cons_append]
  have h1 : 1 ≤ 6 - 1 := by omega
  gi_wp2_with fail
  have HBA := Lib.hid (bl_self w (.cells #[.bool false] 4))
  have HBN := Lib.hid ((Below.refl w.heap.size w).alloc (Nat.le_refl _) (.cells #[.bool false] 4))
  refine ⟨trivial, ?_⟩
  refine (callsIn_wide.2 (known_any _ (tab_below HT.out (Nat.le_refl _) HBN.out))).mono ?_
  rintro e w1 ⟨rfl, hb1⟩
  have HB1 := Lib.hid (HBN.out.trans (hb1.mono (by simp)))
  have hbx := boxed_below (Boxed.new w 4 (.bool false)) hb1
  have hc := hbx.cell
  have hf := hbx.frozen
  have HX := Lib.hid hbx
  clear hbx hb1
  gi_wp2_with fail
  have hc2 := (HX.out.set (.bool true)).cell
  refine ⟨.bool true, ?_, rfl, HB1.out.setCell (p := ⟨w.heap.size, 0, none⟩) (Nat.le_refl _) _⟩
  simp [results, Tryd.f12, go_sem, hc2]
theorem numPacks_walk (s : ByteArray) (a0 : Option Addr) (cap0 : Nat) (zs : List Nat) (n : Int) (hs : s.size ≤ 140737488351232) (hl : zs.length ≤ 140737488351232) (hn1 : n ≤ 9223372036854775807) (hz : ∀ z ∈ zs, z < 18446744073709551616) (w : World) (hv : Words w.heap.size w (.slice a0 zs.length cap0) zs) (ht : Tab w) :
    Calls Tryd.prog 12 #[.string s, .slice a0 zs.length cap0, .int .i64 n] w fun e w' => e = .returned (.bool true) ∧ Below w.heap.size w w' := by
  by_cases h1 : s.size ≤ 4096
  · by_cases h2 : zs.length ≤ 1000
    · exact numPacks_main s a0 cap0 zs n h1 h2 hn1 hz w hv ht
    · exact numPacks_longl s a0 cap0 zs.length n h1 (by omega) hl w ht
  · exact numPacks_longs s a0 cap0 zs.length n (by omega) hs w ht
end Go.Proofs.YtladgbfmfhmpiaaDoor
