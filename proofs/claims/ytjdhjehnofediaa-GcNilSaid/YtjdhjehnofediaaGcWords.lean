/- The contract of the statements' words. Conditions: the list of objects lies as ObsV says, the roots are integers. -/
import Derived.Test.YtjdhjehnofediaaGcMadeW
namespace Go.Proofs.Ytjdhjehnofediaa
open Go Go.RowKit
/-- a slice of integers as it came in -/
structure RootsV (w : World) (a : Option Addr) (N : Nat) (zs : List Int) : Prop where
  len : zs.length = N
  few : (N : Int) ≤ 9223372036854775807
  cell : ∀ (j : Nat) (z : Int), zs[j]? = some z → ∃ g off, a = some ⟨g, off, none⟩ ∧ g < w.heap.size ∧ w.cell? ⟨g, off + j, none⟩ = some (.int .i64 z)
  rng : ∀ z ∈ zs, -9223372036854775808 ≤ z ∧ z ≤ 9223372036854775807
theorem rootW_bd (os : List O4) (v : Int) : 0 ≤ rootW os v ∧ rootW os v < 18446744073709551616 := by
  unfold rootW
  split
  · omega
  · split
    · omega
    · split
      · exact intW_bd _
      · have := ptrW_bd (addr4 os (v % os.length).toNat : Nat); omega
/-- the words of the first roots -/
def rootsN (os : List O4) (zs : List Int) (k : Nat) : List Nat := (zs.take k).map fun v => (rootW os v).toNat
theorem rootsN_length {os : List O4} {zs : List Int} {k : Nat} (h : k ≤ zs.length) : (rootsN os zs k).length = k := by simp [rootsN]; omega
theorem rootsN_succ {os : List O4} {zs : List Int} {k : Nat} {z : Int} (h : zs[k]? = some z) : rootsN os zs (k + 1) = rootsN os zs k ++ [(rootW os z).toNat] := by
  obtain ⟨hk, e⟩ := List.getElem?_eq_some_iff.1 h
  unfold rootsN
  rw [List.take_succ_eq_append_getElem hk, List.map_append, e]
  rfl
set_option maxRecDepth 100000 in
set_option maxHeartbeats 4000000 in
theorem words_root {w : World} {a a2 : Option Addr} {N c N2 c2 : Nat} {os : List O4} {zs : List Int} (hv : ObsV w a N os) (hz : RootsV w a2 N2 zs) :
    Calls Try.prog 17 #[.slice a N c, .slice a2 N2 c2] w fun e w' => ∃ v, e = .returned v ∧ w'.ownsRow w.heap.size 56 1 v (min N2 50) (u64s (rootsN os zs (min N2 50))) ∧ Below w.heap.size w w' := by
  obtain ⟨i0, hi, hz0, hz1, hz2⟩ := info_parts infoU64
  have hl := hz.len
  have hfew := hz.few
  have HV := Lib.hid hv
  have HZ := Lib.hid hz
  clear hv hz
  go_enter Try.func17, Try.ntmps17
  go_wp2_with fail
  go_loopw [5, 6] (fun o i wr => ∃ k : Nat, k ≤ min N2 50 ∧ i = .int .i64 k ∧ wr.ownsRow w.heap.size 56 1 o k (u64s (rootsN os zs k)) ∧ Below w.heap.size w wr) (fun _ i _ => 50 - (intOf i).toNat)
  case atStart => exact ⟨0, Nat.zero_le _, rfl, World.ownsRow_nil _ _ _ _, Below.refl _ _⟩
  case round =>
    obtain ⟨k, hk, rfl, hrow, hb⟩ := hrel
    by_cases hlt : k < N2
    · by_cases hlt2 : k < 50
      · obtain ⟨z, hzk⟩ : ∃ z, zs[k]? = some z := ⟨_, List.getElem?_eq_getElem (by omega)⟩
        obtain ⟨hr0, hr1⟩ := HZ.out.rng z (List.mem_of_getElem? hzk)
        obtain ⟨g, off, ha, hg, hc⟩ := HZ.out.cell k z hzk
        have hc' : wr.cell? ⟨g, off + k, none⟩ = some (.int .i64 z) := (World.cell?_of_block (hb.block g hg)).trans hc
        subst ha
        obtain ⟨x0, x1⟩ := rootW_bd os z
        have HNX := Lib.hid (rootsN_succ (os := os) hzk)
        have HRT := Lib.hid (root_any (c := c) (HV.out.below hb) z hr0 hr1)
        obtain ⟨X, hX⟩ : ∃ X : Nat, rootW os z = X := ⟨(rootW os z).toNat, by omega⟩
        have HXN := Lib.hid (show (rootW os z).toNat = X from by rw [hX]; rfl)
        rw [hX] at HRT
        obtain ⟨va, cap, hv, hcap, hcap2⟩ : ∃ a cap, u5 = .slice a k cap ∧ k ≤ cap ∧ cap ≤ 9223372036854775807 := by
          rcases hrow.2 with ⟨hv, h0⟩ | ⟨g, cap, cur, hv, _, _, h1, h2, _⟩
          · exact ⟨none, 0, by rw [hv, h0], by omega, by omega⟩
          · exact ⟨_, cap, hv, h1, by simpa [maxLen] using h2⟩
        subst hv
        have HOV := Lib.hid hrow
        have HB := Lib.hid hb
        have hki : (k : Int) < N2 := by omega
        have hk5 : (k : Int) < 50 := by omega
        have hk0 : (0 : Int) ≤ k := by omega
        clear hrow hb hzk hc hg hX x0 x1 hr0 hr1
        go_wp2_with fail
        refine HRT.out.mono ?_
        rintro e w1 ⟨rfl, hw⟩
        subst w1
        go_wp2_with (at_builtin; refine wpList_append_own_at _ rfl _ _ 32 rfl w.heap.size 56 i0 (.int .u64 0) 1 8 Try.underlying32 hi hz0 hz1 hz2 rfl (by decide) (.slice va k cap) k (u64s (rootsN os zs k)) rfl (HOV.out.alloc _) ⟨wr.heap.size, 0, none⟩ 1 1 [.int .u64 (X : Int)] rfl rfl (cell_one_new _ _ _) (by simp [Value.oneCell']) (by unfold maxLen; omega) (by omega) (by have := HB.out.size; simpa using Nat.le_succ_of_le this) ?_; intro v7 w7 hown7 hgrow7 _ hblk7; rw [u64s_snoc] at hown7; obtain ⟨g7, cap7, rfl⟩ := ownsRow_succ (k := k) hown7; have HS7 := Lib.hid (And.intro hown7 (HB.out.trans ((Fr.of_grown hgrow7).below HB.out.size (fun i hi => (HOV.out.lt i hi).1)))); clear hown7 hgrow7 hblk7)
        go_roundw
        case rel => exact ⟨k + 1, by omega, by go_num, by rw [HNX.out, HXN.out]; exact HS7.out.1, HS7.out.2⟩
        case measure => simp [intOf]; omega
      · have hk50 : k = 50 := by omega
        have HE := Lib.hid (And.intro hrow hb)
        have HME := Lib.hid (show min N2 50 = k by omega)
        have h5 : ¬ (k : Int) < 50 := by omega
        clear hrow hb hk50
        go_wp2_with fail
        go_ret
        exact ⟨u5, rfl, by rw [HME.out]; exact HE.out.1, HE.out.2⟩
    · have HE := Lib.hid (And.intro hrow hb)
      have HME := Lib.hid (show min N2 50 = k by omega)
      have h5 : ¬ (k : Int) < N2 := by omega
      clear hrow hb
      go_wp2_with fail
      go_ret
      exact ⟨u5, rfl, by rw [HME.out]; exact HE.out.1, HE.out.2⟩
end Go.Proofs.Ytjdhjehnofediaa
