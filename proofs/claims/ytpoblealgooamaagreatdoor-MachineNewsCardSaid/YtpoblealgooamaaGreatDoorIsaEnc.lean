/- Encode of both. Conditions: the table of operations reads as it is laid. -/
import Derived.Test.YtpoblealgooamaaGreatDoorIsaCheckI
import Derived.Test.YtpoblealgooamaaGreatDoorMath
namespace Go.Proofs.YtpoblealgooamaaGreatDoor.IsaL
open Go Go.RowKit
theorem one_bounds {s : ByteArray} {v k : Int} (h1 : ¬ badR s v k) (h2 : ¬ badZ s v k) : 0 ≤ v ∧ v ≤ 15 := by
  unfold badR at h1
  unfold badZ at h2
  by_cases hq : hasB s k = true
  · constructor
    · by_cases h : v < 0
      · exact absurd ⟨hq, .inl h⟩ h1
      · omega
    · by_cases h : 15 < v
      · exact absurd ⟨hq, .inr h⟩ h1
      · omega
  · have : v = 0 := by
      by_cases h : v = 0
      · exact h
      · exact absurd ⟨by simpa using hq, h⟩ h2
    omega
theorem n_bounds {s : ByteArray} {n : Int} (h : ¬ badN s n) : -2147483648 ≤ n ∧ n ≤ 2147483647 := by
  unfold badN at h
  by_cases hq : hasB s 110 = true
  · constructor
    · by_cases h' : n < -2147483648
      · exact absurd (.inl ⟨hq, .inl h'⟩) h
      · omega
    · by_cases h' : 2147483647 < n
      · exact absurd (.inl ⟨hq, .inr h'⟩) h
      · omega
  · have : n = 0 := by
      by_cases h' : n = 0
      · exact h'
      · exact absurd (.inr ⟨by simpa using hq, h'⟩) h
    omega
theorem chk_bounds {s : ByteArray} {a b c n : Int} (h : chk s a b c n = 0) : (0 ≤ a ∧ a ≤ 15) ∧ (0 ≤ b ∧ b ≤ 15) ∧ (0 ≤ c ∧ c ≤ 15) ∧ -2147483648 ≤ n ∧ n ≤ 2147483647 := by
  unfold chk at h
  split at h
  · cases h
  · rename_i h1
    split at h
    · cases h
    · rename_i h2
      exact ⟨one_bounds (fun g => h1 (.inl g)) (fun g => h2 (.inl g)), one_bounds (fun g => h1 (.inr (.inl g))) (fun g => h2 (.inr (.inl g))), one_bounds (fun g => h1 (.inr (.inr g))) (fun g => h2 (.inr (.inr (.inl g)))), n_bounds (fun g => h2 (.inr (.inr (.inr g))))⟩
theorem ins_cells {w w1 : World} {o a b c n : Int} (hb : Below (w.alloc (.cells #[.int .i64 o, .int .i64 a, .int .i64 b, .int .i64 c, .int .i64 n] 66)).heap.size (w.alloc (.cells #[.int .i64 o, .int .i64 a, .int .i64 b, .int .i64 c, .int .i64 n] 66)) w1) :
    w1.cell? ⟨w.heap.size, 0, none⟩ = some (.int .i64 o) ∧ w1.cell? ⟨w.heap.size, 1, none⟩ = some (.int .i64 a) ∧ w1.cell? ⟨w.heap.size, 2, none⟩ = some (.int .i64 b) ∧ w1.cell? ⟨w.heap.size, 3, none⟩ = some (.int .i64 c) ∧ w1.cell? ⟨w.heap.size, 4, none⟩ = some (.int .i64 n) := by
  refine ⟨?_, ?_, ?_, ?_, ?_⟩
  all_goals
    rw [hb.cell (by simp)]
    simp
theorem or_add (k X Y : Nat) (hX : X < 2 ^ k) (hY : Y % 2 ^ k = 0) (h1 : X < 18446744073709551616) (h2 : Y < 18446744073709551616) : bits BinOp.or IntKind.u64 (X : Int) (Y : Int) = (X : Int) + Y := by
  rw [u64_or_nat X Y h1 h2, Nat.or_comm, nat_join k Y X hY hX]; omega
theorem or_addI (k : Nat) (x y : Int) (h0 : 0 ≤ x) (hx : x < 2 ^ k) (hk : k ≤ 63) (hy0 : 0 ≤ y) (hy : y % 2 ^ k = 0) (h2 : y < 18446744073709551616) : bits BinOp.or IntKind.u64 x y = x + y := by
  obtain ⟨X, rfl⟩ := Int.eq_ofNat_of_zero_le h0
  obtain ⟨Y, rfl⟩ := Int.eq_ofNat_of_zero_le hy0
  have hk2 : (2 : Nat) ^ k ≤ 2 ^ 63 := Nat.pow_le_pow_right (by decide) hk
  have hX : X < 2 ^ k := by exact_mod_cast hx
  exact or_add k X Y hX (by exact_mod_cast hy) (by have : (2 : Nat) ^ 63 < 18446744073709551616 := by decide
                                                   omega) (by omega)
def encW (o a b c n : Int) : Int := o + 256 * a + 65536 * b + 16777216 * c + 4294967296 * (n % 4294967296)
theorem enc_ref {o a b c n : Int} (ho0 : 0 ≤ o) (ho1 : o ≤ 255) (ha0 : 0 ≤ a) (ha1 : a ≤ 15) (hb0 : 0 ≤ b) (hb1 : b ≤ 15) (hc0 : 0 ≤ c) (hc1 : c ≤ 15) :
    IntKind.u64.wrap (o + 256 * a + 65536 * b + 16777216 * c + IntKind.u64.wrap (4294967296 * (IntKind.u64.wrap n).tmod 4294967296)) = encW o a b c n := by
  have h : (IntKind.u64.wrap n).tmod 4294967296 = n % 4294967296 := by
    rw [IntKind.wrap_u64, Int.tmod_eq_emod_of_nonneg (by omega)]; omega
  rw [h, IntKind.wrap_u64, IntKind.wrap_u64]
  unfold encW
  omega
theorem enc_isa {o a b c n : Int} (ho0 : 0 ≤ o) (ho1 : o ≤ 255) (ha0 : 0 ≤ a) (ha1 : a ≤ 15) (hb0 : 0 ≤ b) (hb1 : b ≤ 15) (hc0 : 0 ≤ c) (hc1 : c ≤ 15) :
    bits BinOp.or IntKind.u64 (bits BinOp.or IntKind.u64 (bits BinOp.or IntKind.u64 (bits BinOp.or IntKind.u64 o (a * 256)) (b * 65536)) (c * 16777216)) (IntKind.u64.wrap (IntKind.u64.wrap n * 4294967296)) = encW o a b c n := by
  have h : IntKind.u64.wrap (IntKind.u64.wrap n * 4294967296) = 4294967296 * (n % 4294967296) := by
    rw [IntKind.wrap_u64, IntKind.wrap_u64]; omega
  rw [h, or_addI 8 o (a * 256) (by omega) (by omega) (by omega) (by omega) (by omega) (by omega), or_addI 16 (o + a * 256) (b * 65536) (by omega) (by omega) (by omega) (by omega) (by omega) (by omega), or_addI 24 (o + a * 256 + b * 65536) (c * 16777216) (by omega) (by omega) (by omega) (by omega) (by omega) (by omega), or_addI 32 _ (4294967296 * (n % 4294967296)) (by omega) (by omega) (by omega) (by omega) (by omega) (by omega)]
  unfold encW
  omega
theorem ret_u2 {x y : Int} (h : x = y) : Ending.returned (.tuple #[.int .u64 x, .int .i64 0]) = .returned (.tuple #[.int .u64 y, .int .i64 0]) := by rw [h]
set_option maxHeartbeats 2000000 in
theorem encode_ok (op : Nat) (h0 : 1 ≤ op) (h1 : op ≤ 36) (a b c n : Int) (hc : chk (bs (rowOf op).2.1) a b c n = 0) (w : World) (ho : Ops w) :
    Calls Tryz.prog 76 #[.agg #[.int .i64 op, .int .i64 a, .int .i64 b, .int .i64 c, .int .i64 n]] w fun e w' => e = .returned (.tuple #[.int .u64 (encW op a b c n), .int .i64 0]) ∧ Below w.heap.size w w' := by
  obtain ⟨⟨ha0, ha1⟩, ⟨hb0, hb1⟩, ⟨hc0, hc1⟩, hn0, hn1⟩ := chk_bounds hc
  have HC := Lib.hid hc
  have HO := Lib.hid ho
  clear hc ho
  go_enter Tryz.func76, Tryz.ntmps76
  go_wp2_with fail
  refine (check_yes op h0 h1 a b c n _ (ops_below HO.out (Nat.le_refl _) ((Below.refl w.heap.size w).alloc (Nat.le_refl _) _))).mono ?_
  rintro e w1 ⟨rfl, hb⟩
  rw [HC.out]
  have HB := Lib.hid hb
  obtain ⟨d0, d1, d2, d3, d4⟩ := ins_cells hb
  clear hb
  go_wp2_with fail
  go_ret2
  exact ⟨ret_u2 (enc_isa (by omega) (by omega) ha0 ha1 hb0 hb1 hc0 hc1), ((Below.refl w.heap.size w).alloc (Nat.le_refl _) _).trans (HB.out.mono (by simp))⟩
/-- what is wrong with any instruction -/
noncomputable def chkOf (op a b c n : Int) : Int := if 1 ≤ op ∧ op ≤ 36 then chk (bs (rowOf op.toNat).2.1) a b c n else 30
theorem chkOf_yes {op : Nat} (h0 : 1 ≤ op) (h1 : op ≤ 36) (a b c n : Int) : chkOf op a b c n = chk (bs (rowOf op).2.1) a b c n := by
  unfold chkOf; rw [if_pos (by omega)]; rfl
theorem chkOf_no {op : Int} (h : op < 1 ∨ 36 < op) (a b c n : Int) : chkOf op a b c n = 30 := by
  unfold chkOf; rw [if_neg (by omega)]
theorem refcheck_any (op a b c n : Int) (w : World) :
    Calls Tryz.prog 127 #[.agg #[.int .i64 op, .int .i64 a, .int .i64 b, .int .i64 c, .int .i64 n]] w fun e w' => e = .returned (.int .i64 (chkOf op a b c n)) ∧ Below w.heap.size w w' := by
  by_cases h : 1 ≤ op ∧ op ≤ 36
  · obtain ⟨k, rfl⟩ := Int.eq_ofNat_of_zero_le (show 0 ≤ op by omega)
    rw [chkOf_yes (by omega) (by omega)]
    exact refcheck_yes k (by omega) (by omega) a b c n w
  · rw [chkOf_no (by omega)]
    exact refcheck_no op a b c n (by omega) w
theorem check_any (op a b c n : Int) (w : World) (ho : Ops w) :
    Calls Tryz.prog 72 #[.agg #[.int .i64 op, .int .i64 a, .int .i64 b, .int .i64 c, .int .i64 n]] w fun e w' => e = .returned (.int .i64 (chkOf op a b c n)) ∧ Below w.heap.size w w' := by
  by_cases h : 1 ≤ op ∧ op ≤ 36
  · obtain ⟨k, rfl⟩ := Int.eq_ofNat_of_zero_le (show 0 ≤ op by omega)
    rw [chkOf_yes (by omega) (by omega)]
    exact check_yes k (by omega) (by omega) a b c n w ho
  · rw [chkOf_no (by omega)]
    exact check_no op a b c n (by omega) w
set_option maxHeartbeats 2000000 in
theorem encode_bad (op a b c n : Int) (hc : chkOf op a b c n ≠ 0) (w : World) (ho : Ops w) :
    Calls Tryz.prog 76 #[.agg #[.int .i64 op, .int .i64 a, .int .i64 b, .int .i64 c, .int .i64 n]] w fun e w' => e = .returned (.tuple #[.int .u64 0, .int .i64 (chkOf op a b c n)]) ∧ Below w.heap.size w w' := by
  obtain ⟨E, hE⟩ : ∃ E, chkOf op a b c n = E := ⟨_, rfl⟩
  have HE := Lib.hid hE
  have HO := Lib.hid ho
  rw [hE] at hc ⊢
  have hcb : (E != 0) = true := by simpa using hc
  clear hE hc ho
  go_enter Tryz.func76, Tryz.ntmps76
  go_wp2_with fail
  refine (check_any op a b c n _ (ops_below HO.out (Nat.le_refl _) ((Below.refl w.heap.size w).alloc (Nat.le_refl _) _))).mono ?_
  rintro e w1 ⟨rfl, hb⟩
  rw [HE.out]
  have HB := Lib.hid hb
  clear hb
  go_wp2_with fail
  go_ret2
  exact ⟨rfl, ((Below.refl w.heap.size w).alloc (Nat.le_refl _) _).trans (HB.out.mono (by simp))⟩
/-- the word of any instruction; 0, if it is wrong -/
noncomputable def wordOf (op a b c n : Int) : Int := if chkOf op a b c n = 0 then encW op a b c n else 0
theorem known_of {op a b c n : Int} (h : chkOf op a b c n = 0) : 1 ≤ op ∧ op ≤ 36 := by
  by_cases h' : 1 ≤ op ∧ op ≤ 36
  · exact h'
  · rw [chkOf_no (by omega)] at h; cases h
theorem encode_any (op a b c n : Int) (w : World) (ho : Ops w) :
    Calls Tryz.prog 76 #[.agg #[.int .i64 op, .int .i64 a, .int .i64 b, .int .i64 c, .int .i64 n]] w fun e w' => e = .returned (.tuple #[.int .u64 (wordOf op a b c n), .int .i64 (chkOf op a b c n)]) ∧ Below w.heap.size w w' := by
  by_cases h : chkOf op a b c n = 0
  · obtain ⟨g0, g1⟩ := known_of h
    obtain ⟨k, rfl⟩ := Int.eq_ofNat_of_zero_le (show 0 ≤ op by omega)
    unfold wordOf
    rw [if_pos h, h]
    rw [chkOf_yes (by omega) (by omega)] at h
    exact encode_ok k (by omega) (by omega) a b c n h w ho
  · unfold wordOf
    rw [if_neg h]
    exact encode_bad op a b c n h w ho
end Go.Proofs.YtpoblealgooamaaGreatDoor.IsaL
