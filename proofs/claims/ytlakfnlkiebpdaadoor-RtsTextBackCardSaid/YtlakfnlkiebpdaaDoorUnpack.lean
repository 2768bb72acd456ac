/- Contracts of num.Unpack and of the reference's SameWords and Among: words are read, texts are made; nothing that lay has turned. Conditions: the lists are of 64-bit words and no longer than the reach. -/
import Derived.BigQuiet
import Derived.Deep.QuietTactic
import Derived.Laws.OwnMore
import Derived.Laws.IdiomStrings
import Derived.Test.YtlakfnlkiebpdaaDoorUnpackM
import Derived.Test.YtlakfnlkiebpdaaDoorPackB
namespace Go.Proofs.YtlakfnlkiebpdaaDoor.NumL
open Go Go.RowKit
/-- the slice value v reads as the words zs, in a block below n₀; or it is nil and there are none -/
def Words (n₀ : Nat) (W : World) (v : Value) (zs : List Nat) : Prop :=
  (v = .slice none 0 0 ∧ zs = []) ∨ ∃ b off cap, v = .slice (some ⟨b, off, none⟩) zs.length cap ∧ b < n₀ ∧ zs.length ≤ cap ∧ ∀ j, j < zs.length → W.cell? ⟨b, off + j, none⟩ = some (.int .u64 (zs.getD j 0 : Nat))
theorem Words.below {n₀ : Nat} {A B : World} (h : Below n₀ A B) {v : Value} {zs : List Nat} : Words n₀ A v zs → Words n₀ B v zs
  | .inl e => .inl e
  | .inr ⟨b, off, cap, e, hb, hl, hc⟩ => .inr ⟨b, off, cap, e, hb, hl, fun j hj => (h.cell (p := ⟨b, off + j, none⟩) hb).trans (hc j hj)⟩
theorem Words.mono {n₀ n₁ : Nat} {A : World} (h : n₀ ≤ n₁) {v : Value} {zs : List Nat} : Words n₀ A v zs → Words n₁ A v zs
  | .inl e => .inl e
  | .inr ⟨b, off, cap, e, hb, hl, hc⟩ => .inr ⟨b, off, cap, e, by omega, hl, hc⟩
theorem Words.of_own {W : World} {n₀ : Nat} {v : Value} {zs : List Nat} (h : W.ownsRow n₀ 33 1 v zs.length (u64s zs)) : Words W.heap.size W v zs := by
  rcases h.2 with ⟨rfl, h0⟩ | ⟨g, cap, cur, rfl, _, hg, h1, h2, h3, h4⟩
  · left; exact ⟨rfl, List.length_eq_zero_iff.1 h0⟩
  · right
    refine ⟨g, 0, cap, rfl, (Array.getElem?_eq_some_iff.1 hg).1, h1, fun j hj => ?_⟩
    have e : cur.toList[j]? = some (.int .u64 (zs.getD j 0 : Nat)) := by
      have : (cur.toList.take (zs.length * 1))[j]? = (u64s zs)[j]? := by rw [h4]
      rw [List.getElem?_take_of_lt (by omega)] at this
      rw [this]
      simp [u64s, hj, List.getD]
    have hc : W.cell? ⟨g, 0 + j, none⟩ = cur[j]? := by simp [World.cell?, hg]
    rw [hc, ← e]; simp
theorem Words.shape {n₀ : Nat} {W : World} {v : Value} {zs : List Nat} (h : Words n₀ W v zs) : ∃ a cap, v = .slice a zs.length cap := by
  rcases h with ⟨rfl, rfl⟩ | ⟨b, off, cap, rfl, _⟩
  · exact ⟨none, 0, rfl⟩
  · exact ⟨_, cap, rfl⟩
def Amg (n : Nat) (e : Ending) : Prop := ∃ j : Nat, j < n ∧ e = .returned (.int .i64 j)
theorem amg_mk {n : Nat} {x : Int} (h0 : 0 ≤ x) (h1 : x < n) : Amg n (.returned (.int .i64 x)) := ⟨x.toNat, by omega, ret_int (by omega)⟩
set_option maxHeartbeats 400000 in
theorem among_any (k : Int) (n : Nat) (h0 : 1 ≤ n) (h1 : n ≤ 1000000) (w : World) :
    Calls Tryd.prog 14 #[.int .i64 k, .int .i64 n] w fun e w' => Amg n e ∧ w = w' := by
  have ht : -(n : Int) < k.tmod n ∧ k.tmod n < n := by have := tmod_lt (a := k) (b := n) (by omega); omega
  obtain ⟨t0, t1⟩ := ht
  by_cases hk : k.tmod n < 0
  · go_enter Tryd.func14, Tryd.ntmps14
    go_wp2
    go_ret
    exact ⟨amg_mk (by omega) (by omega), rfl⟩
  · go_enter Tryd.func14, Tryd.ntmps14
    go_wp2
    go_ret
    exact ⟨amg_mk (by omega) (by omega), rfl⟩
set_option maxHeartbeats 1000000 in
theorem unpack_neg (a : Option Addr) (len cap : Nat) (n : Int) (hn : n < 0) (w : World) :
    Calls Tryd.prog 56 #[.slice a len cap, .int .i64 n] w fun e w' => e = .returned (.tuple #[.string ⟨#[]⟩, .int .i64 1]) ∧ w = w' := by
  go_enter Tryd.func56, Tryd.ntmps56
  go_wp2_with fail
  go_ret2
  exact ⟨rfl, rfl⟩
set_option maxHeartbeats 1000000 in
theorem unpack_len (a : Option Addr) (len cap : Nat) (m : Nat) (hm : m ≤ 9223372036854775807) (hl : len ≠ nWords m) (w : World) :
    Calls Tryd.prog 56 #[.slice a len cap, .int .i64 m] w fun e w' => e = .returned (.tuple #[.string ⟨#[]⟩, .int .i64 1]) ∧ w = w' := by
  have hd : ((len : Int) != (nWords m : Int)) = true := by
    have : ¬ ((len : Int) = (nWords m : Int)) := by omega
    simpa using this
  have hd0 : decide ((m : Int) < 0) = false := by rw [decide_eq_false_iff_not]; omega
  clear hl
  go_enter Tryd.func56, Tryd.ntmps56
  go_wp2_with fail
  refine (wordsof_any _ _ hm).mono ?_
  rintro e w' ⟨rfl, rfl⟩
  go_wp2_with fail
  go_ret2
  exact ⟨rfl, rfl⟩
theorem shr_ne {z e : Nat} (h : z / 2 ^ e ≠ 0) : (((z : Nat) : Int) / 2 ^ e != 0) = true := by
  have : ¬ (((z : Nat) : Int) / 2 ^ e = 0) := by
    intro h2
    apply h
    have : ((z / 2 ^ e : Nat) : Int) = 0 := by rw [Int.natCast_ediv, Int.natCast_pow]; exact h2
    omega
  simpa using this
theorem shr_eq {z e : Nat} (h : z / 2 ^ e = 0) : (((z : Nat) : Int) / 2 ^ e != 0) = false := by
  have : (((z : Nat) : Int) / 2 ^ e = 0) := by
    have h2 : ((z / 2 ^ e : Nat) : Int) = 0 := by omega
    rw [Int.natCast_ediv, Int.natCast_pow] at h2; exact h2
  simpa using this
set_option maxHeartbeats 1000000 in
theorem unpack_last (b off cap len m z : Nat) (hm : m ≤ 140737488351232) (hl : len = nWords m) (hr : m % 8 ≠ 0) (hb : z / 2 ^ (8 * (m % 8)) ≠ 0) (w : World)
    (hc : w.cell? ⟨b, off + (len - 1), none⟩ = some (.int .u64 (z : Nat))) :
    Calls Tryd.prog 56 #[.slice (some ⟨b, off, none⟩) len cap, .int .i64 m] w fun e w' => e = .returned (.tuple #[.string ⟨#[]⟩, .int .i64 1]) ∧ w = w' := by
  have hd : ((len : Int) != (nWords m : Int)) = false := by
    have : ((len : Int) = (nWords m : Int)) := by omega
    simpa using this
  have hd0 : decide ((m : Int) < 0) = false := by rw [decide_eq_false_iff_not]; omega
  have hm0 : m ≤ 9223372036854775807 := by omega
  have hpos : 1 ≤ len := by unfold nWords at hl; omega
  have hlz : len ≤ 140737488351232 := by unfold nWords at hl; omega
  have hr1 : ((m : Int) % 8 != 0) = true := by
    have : ¬ ((m : Int) % 8 = 0) := by omega
    simpa using this
  have hs := shr_ne hb
  clear hr hb hl
  go_enter Tryd.func56, Tryd.ntmps56
  go_wp2_with fail
  refine (wordsof_any _ _ hm0).mono ?_
  rintro e w' ⟨rfl, rfl⟩
  go_wp2_with fail
  go_ret2
  exact ⟨rfl, rfl⟩
theorem infoU8 : (Tryd.prog.info? 5).map (fun i => (i.zero, i.size, i.bytes)) = some (some (.int .u8 0), 1, 1) := by kernel_rfl
/-- what the bytes made so far are: block B holds n bytes, the first k of them those of the words -/
def Made (B n k : Nat) (zs : List Nat) (W : World) : Prop := ∀ j, j < n → W.cell? ⟨B, j, none⟩ = some (.int .u8 ((if j < k then byteAt zs j else 0 : Nat) : Int)) ∧ W.frozen? ⟨B, j, none⟩ = false
theorem byte_cast (z e : Nat) : ((z : Nat) : Int) / 2 ^ e % 256 = ((z / 2 ^ e % 256 : Nat) : Int) := by
  rw [Int.natCast_emod, Int.natCast_ediv, Int.natCast_pow]; rfl
theorem byte_is {zs : List Nat} {k z : Nat} (h : zs.getD (k / 8) 0 = z) : ((z : Nat) : Int) / 2 ^ (8 * (k % 8)) % 256 = ((byteAt zs k : Nat) : Int) := by
  rw [byte_cast]; unfold byteAt; rw [h]
theorem made_start (w : World) (m : Nat) (zs : List Nat) : Made w.heap.size m 0 zs (w.alloc (.cells (madeCells #[.int .u8 0] m) 5)) := by
  intro j hj
  refine ⟨?_, World.frozen?_alloc_new _ _ _ _⟩
  have h : (madeCells #[Value.int .u8 0] m)[j]? = some (Value.int .u8 0) := by
    rw [← Array.getElem?_toList, toList_madeCells_one, List.getElem?_replicate, if_pos hj]
  rw [World.cell?_alloc_mark w _ 5 (0, 0) j, h]
  rfl
theorem made_step {B n k : Nat} {zs : List Nat} {W : World} (h : Made B n k zs W) (hk : k < n) : Made B n (k + 1) zs (W.setCell ⟨B, k, none⟩ (.int .u8 (byteAt zs k : Nat))) := by
  intro j hj
  obtain ⟨h1, h2⟩ := h j hj
  refine ⟨?_, by rw [World.frozen?_setCell]; exact h2⟩
  by_cases e : j = k
  · subst e
    rw [World.cell?_setCell_same _ _ _ h1, if_pos (by omega)]
  · rw [World.cell?_setCell_other _ _ _ _ (fun x => e (by injection x with _ h4; exact h4.symm)), h1]
    by_cases h3 : j < k
    · rw [if_pos h3, if_pos (by omega)]
    · rw [if_neg h3, if_neg (by omega)]
theorem made_end {B n : Nat} {zs : List Nat} {W : World} (h : Made B n n zs W) (cap : Nat) : (convert 125 9 (.slice (some ⟨B, 0, none⟩) n cap)).run Tryd.prog W = .ok (.string ⟨(bytesOf zs n).toArray⟩) W := by
  have hb := run_convert_bytes_back (P := Tryd.prog) W 125 9 5 ⟨B, 0, none⟩ cap (bytesOf zs n) Tryd.underlying125 Tryd.underlying5 Tryd.underlying9 (fun j hj => by
    rw [bytesOf_length] at hj
    have h1 := (h j hj).1
    rw [if_pos hj] at h1
    have e : (bytesOf zs n)[j] = UInt8.ofNat (byteAt zs j) := by simp [bytesOf]
    have h3 := byteAt_lt zs j
    have h4 : (UInt8.ofNat (byteAt zs j)).toNat = byteAt zs j := by rw [UInt8.toNat_ofNat']; omega
    have e2 : (Addr.add ⟨B, 0, none⟩ j) = ⟨B, j, none⟩ := by
      simp [Addr.add]
      exact fun h => h.symm
    rw [e2, h1, e, h4])
  rw [bytesOf_length] at hb
  exact hb
set_option maxHeartbeats 2000000 in
theorem unpack_some (b off cap m : Nat) (zs : List Nat) (hm : m ≤ 140737488351232) (hu : UOk zs m) (w : World) (hbw : b < w.heap.size)
    (hc : ∀ j, j < zs.length → w.cell? ⟨b, off + j, none⟩ = some (.int .u64 (zs.getD j 0 : Nat))) :
    Calls Tryd.prog 56 #[.slice (some ⟨b, off, none⟩) zs.length cap, .int .i64 m] w fun e w' => e = .returned (.tuple #[.string ⟨(bytesOf zs m).toArray⟩, .int .i64 0]) ∧ Below w.heap.size w w' := by
  obtain ⟨i0, hi, hz0, hz1, hz2⟩ := info_parts infoU8
  have hmk := run_make (P := Tryd.prog) w 125 5 i0 (.int .u8 0) Tryd.underlying125 hi hz0 .i64 .i64 m m (by omega) (Int.le_refl _) (by rw [hz2]; omega) (by omega)
  simp only [Int.toNat_natCast, hz1, Nat.mul_one] at hmk
  have hM0 := made_start w m zs
  have hB0 : Below w.heap.size w (w.alloc (.cells (madeCells #[.int .u8 0] m) 5)) := (Below.refl _ _).alloc (Nat.le_refl _) _
  obtain ⟨w1, hw1⟩ : ∃ w1, w.alloc (.cells (madeCells (Value.int .u8 0).cells m) 5) = w1 := ⟨_, rfl⟩
  rw [hw1] at hmk
  have hw2 : w.alloc (.cells (madeCells #[.int .u8 0] m) 5) = w1 := hw1
  rw [hw2] at hM0 hB0
  have HM0 := Lib.hid hM0
  clear hw1 hw2 hM0 hi hz0 hz1 hz2
  have hl := hu.1
  have hd : ((zs.length : Int) != (nWords m : Int)) = false := by
    have : ((zs.length : Int) = (nWords m : Int)) := by omega
    simpa using this
  have hd0 : decide ((m : Int) < 0) = false := by rw [decide_eq_false_iff_not]; omega
  have hm0 : m ≤ 9223372036854775807 := by omega
  have hlz : zs.length ≤ 140737488351232 := by unfold nWords at hl; omega
  have HL := Lib.hid hl
  have HC := Lib.hid hc
  have HU := Lib.hid hu
  have hmm : ∀ k, k < m → k / 8 < zs.length := by intro k hk; rw [hl]; unfold nWords; omega
  have HMM := Lib.hid hmm
  clear hc hl hu hmm
  by_cases hr : m % 8 = 0
  · have hr1 : ((m : Int) % 8 != 0) = false := by
      have : ((m : Int) % 8 = 0) := by omega
      simpa using this
    clear hr
    go_enter Tryd.func56, Tryd.ntmps56
    go_wp2_with fail
    refine (wordsof_any _ _ hm0).mono ?_
    rintro e w' ⟨rfl, rfl⟩
    go_wp2_with fail
    clear hmk
    go_loopw [38] (fun i wr => ∃ k : Nat, k ≤ m ∧ i = .int .i64 k ∧ Made w.heap.size m k zs wr ∧ Below w.heap.size w wr) (fun i _ => m - (intOf i).toNat)
    case atStart => exact ⟨0, by omega, rfl, HM0.out, hB0⟩
    case round =>
      obtain ⟨k, hk, rfl, hM, hB⟩ := hrel
      have HM := Lib.hid hM
      clear hM
      by_cases hlt : k < m
      · obtain ⟨z, hz⟩ : ∃ z, zs.getD (k / 8) 0 = z := ⟨_, rfl⟩
        have hkz := HMM.out k hlt
        have hcz := HC.out (k / 8) hkz
        have hcx : wr.cell? ⟨b, off + k / 8, none⟩ = some (.int .u64 (z : Nat)) := by rw [hB.cell (p := ⟨b, off + k / 8, none⟩) hbw, hcz, hz]
        obtain ⟨hcy, hfy⟩ := HM.out k hlt
        have HZ := Lib.hid hz
        clear hz hcz
        go_wp2_with fail
        go_roundw
        case rel => exact ⟨k + 1, hlt, by simp, by rw [byte_is HZ.out]; exact made_step HM.out hlt, hB.setCell (p := ⟨w.heap.size, k, none⟩) (Nat.le_refl _) _⟩
        case measure => simp [intOf]; omega
      · obtain rfl : k = m := by omega
        have hend := made_end HM.out k
        go_wp2_with fail
        go_ret2
        exact ⟨rfl, hB⟩
  · have hr1 : ((m : Int) % 8 != 0) = true := by
      have : ¬ ((m : Int) % 8 = 0) := by omega
      simpa using this
    have hpos : 1 ≤ zs.length := by have := HL.out; unfold nWords at this; omega
    have hlast := HU.out.2 hr
    obtain ⟨zl, hzl⟩ : ∃ z, zs.getD (zs.length - 1) 0 = z := ⟨_, rfl⟩
    rw [hzl] at hlast
    have hs := shr_eq hlast
    have hcl : w.cell? ⟨b, off + (zs.length - 1), none⟩ = some (.int .u64 (zl : Nat)) := by rw [HC.out (zs.length - 1) (by omega), hzl]
    clear hr hlast hzl
    go_enter Tryd.func56, Tryd.ntmps56
    go_wp2_with fail
    refine (wordsof_any _ _ hm0).mono ?_
    rintro e w' ⟨rfl, rfl⟩
    go_wp2_with fail
    clear hmk
    go_loopw [38] (fun i wr => ∃ k : Nat, k ≤ m ∧ i = .int .i64 k ∧ Made w.heap.size m k zs wr ∧ Below w.heap.size w wr) (fun i _ => m - (intOf i).toNat)
    case atStart => exact ⟨0, by omega, rfl, HM0.out, hB0⟩
    case round =>
      obtain ⟨k, hk, rfl, hM, hB⟩ := hrel
      have HM := Lib.hid hM
      clear hM
      by_cases hlt : k < m
      · obtain ⟨z, hz⟩ : ∃ z, zs.getD (k / 8) 0 = z := ⟨_, rfl⟩
        have hkz := HMM.out k hlt
        have hcz := HC.out (k / 8) hkz
        have hcx : wr.cell? ⟨b, off + k / 8, none⟩ = some (.int .u64 (z : Nat)) := by rw [hB.cell (p := ⟨b, off + k / 8, none⟩) hbw, hcz, hz]
        obtain ⟨hcy, hfy⟩ := HM.out k hlt
        have HZ := Lib.hid hz
        clear hz hcz
        go_wp2_with fail
        go_roundw
        case rel => exact ⟨k + 1, hlt, by simp, by rw [byte_is HZ.out]; exact made_step HM.out hlt, hB.setCell (p := ⟨w.heap.size, k, none⟩) (Nat.le_refl _) _⟩
        case measure => simp [intOf]; omega
      · obtain rfl : k = m := by omega
        have hend := made_end HM.out k
        go_wp2_with fail
        go_ret2
        exact ⟨rfl, hB⟩
set_option maxHeartbeats 2000000 in
theorem unpack_nil (w : World) : Calls Tryd.prog 56 #[.slice none 0 0, .int .i64 0] w fun e w' => e = .returned (.tuple #[.string ⟨(bytesOf [] 0).toArray⟩, .int .i64 0]) ∧ Below w.heap.size w w' := by
  obtain ⟨i0, hi, hz0, hz1, hz2⟩ := info_parts infoU8
  have hmk := run_make (P := Tryd.prog) w 125 5 i0 (.int .u8 0) Tryd.underlying125 hi hz0 .i64 .i64 0 0 (by omega) (Int.le_refl _) (by rw [hz2]; omega) (by omega)
  simp only [hz1, Int.toNat_zero, Nat.mul_one] at hmk
  have hM0 := made_start w 0 []
  have hB0 : Below w.heap.size w (w.alloc (.cells (madeCells #[.int .u8 0] 0) 5)) := (Below.refl _ _).alloc (Nat.le_refl _) _
  obtain ⟨w1, hw1⟩ : ∃ w1, w.alloc (.cells (madeCells (Value.int .u8 0).cells 0) 5) = w1 := ⟨_, rfl⟩
  rw [hw1] at hmk
  have hw2 : w.alloc (.cells (madeCells #[.int .u8 0] 0) 5) = w1 := hw1
  rw [hw2] at hM0 hB0
  have hend := made_end hM0 0
  clear hw1 hw2 hM0 hi hz0 hz1 hz2
  have hwo : nWords 0 = 0 := rfl
  have HW := Lib.hid (wordsof_any 0 w (by decide))
  clear hwo
  go_enter Tryd.func56, Tryd.ntmps56
  go_wp2_with fail
  refine (HW.out).mono ?_
  rintro e w' ⟨rfl, rfl⟩
  have hwo : nWords 0 = 0 := rfl
  go_wp2_with fail
  go_loopw [38] (fun i wr => i = .int .i64 0 ∧ wr = w1) (fun _ _ => 0)
  case atStart => exact ⟨rfl, rfl⟩
  case round =>
    obtain ⟨rfl, rfl⟩ := hrel
    go_wp2_with fail
    go_ret2
    exact ⟨rfl, hB0⟩
/-- num.Unpack at right words -/
theorem unpack_yes (v : Value) (zs : List Nat) (m : Nat) (hm : m ≤ 140737488351232) (hu : UOk zs m) (w : World) (hv : Words w.heap.size w v zs) :
    Calls Tryd.prog 56 #[v, .int .i64 m] w fun e w' => e = .returned (.tuple #[.string ⟨(bytesOf zs m).toArray⟩, .int .i64 0]) ∧ Below w.heap.size w w' := by
  rcases hv with ⟨rfl, rfl⟩ | ⟨b, off, cap, rfl, hb, _, hc⟩
  · have h0 : m = 0 := by have := hu.1; unfold nWords at this; simp at this; omega
    subst h0
    exact unpack_nil w
  · exact unpack_some b off cap m zs hm hu w hb hc
/-- .. and at words that are of no text of n bytes -/
theorem unpack_err (v : Value) (zs : List Nat) (m : Nat) (hm : m ≤ 140737488351232) (hu : ¬ UOk zs m) (w : World) (hv : Words w.heap.size w v zs) :
    Calls Tryd.prog 56 #[v, .int .i64 m] w fun e w' => e = .returned (.tuple #[.string ⟨#[]⟩, .int .i64 1]) ∧ w = w' := by
  by_cases hl : zs.length = nWords m
  · have h2 : ∃ _ : m % 8 ≠ 0, zs.getD (zs.length - 1) 0 / 2 ^ (8 * (m % 8)) ≠ 0 := by
      by_cases hr : m % 8 ≠ 0
      · refine ⟨hr, fun h => hu ⟨hl, fun _ => h⟩⟩
      · exact (hu ⟨hl, fun h => (hr h).elim⟩).elim
    obtain ⟨hr, hb⟩ := h2
    rcases hv with ⟨_, rfl⟩ | ⟨b, off, cap, rfl, _, _, hc⟩
    · simp [nWords] at hl; omega
    · exact unpack_last b off cap zs.length m _ hm hl hr hb w (hc _ (by unfold nWords at hl; omega))
  · obtain ⟨a, cap, rfl⟩ := hv.shape
    exact unpack_len a zs.length cap m (by omega) hl w
end Go.Proofs.YtlakfnlkiebpdaaDoor.NumL
