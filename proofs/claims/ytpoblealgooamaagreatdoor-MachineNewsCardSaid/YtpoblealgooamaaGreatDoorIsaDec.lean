/- Decode of both. Conditions: the table of operations reads as it is laid. -/
import Derived.Test.YtpoblealgooamaaGreatDoorIsaEnc
namespace Go.Proofs.YtpoblealgooamaaGreatDoor.IsaL
open Go Go.RowKit
def oN (N : Nat) : Int := ((N % 256 : Nat) : Int)
def aN (N : Nat) : Int := ((N / 256 % 256 : Nat) : Int)
def bN (N : Nat) : Int := ((N / 65536 % 256 : Nat) : Int)
def cN (N : Nat) : Int := ((N / 16777216 % 256 : Nat) : Int)
def sN (N : Nat) : Int := if N / 4294967296 < 2147483648 then ((N / 4294967296 : Nat) : Int) else ((N / 4294967296 : Nat) : Int) - 4294967296
theorem and255 (N : Nat) (h : N < 18446744073709551616) : wrap64 (bits BinOp.and IntKind.u64 ((N : Nat) : Int) 255) = ((N % 256 : Nat) : Int) := by
  have h1 := u64_and_nat N 255 h (by decide)
  rw [show ((255 : Nat) : Int) = 255 from rfl] at h1
  have h2 : N &&& 255 = N % 256 := Nat.and_two_pow_sub_one_eq_mod N 8
  rw [h1, h2]
  unfold wrap64
  omega
theorem dec_o (N : Nat) (h : N < 18446744073709551616) : wrap64 (bits BinOp.and IntKind.u64 (↑N) 255) = oN N := and255 N h
theorem dec_a (N : Nat) (h : N < 18446744073709551616) : wrap64 (bits BinOp.and IntKind.u64 ((N : Int) / 256) 255) = aN N := by
  have := and255 (N / 256) (by omega)
  simpa [aN] using this
theorem dec_b (N : Nat) (h : N < 18446744073709551616) : wrap64 (bits BinOp.and IntKind.u64 ((N : Int) / 65536) 255) = bN N := by
  have := and255 (N / 65536) (by omega)
  simpa [bN] using this
theorem dec_c (N : Nat) (h : N < 18446744073709551616) : wrap64 (bits BinOp.and IntKind.u64 ((N : Int) / 16777216) 255) = cN N := by
  have := and255 (N / 16777216) (by omega)
  simpa [cN] using this
theorem dec_n (N : Nat) (h : N < 18446744073709551616) : wrap64 (wrap32 ((N : Int) / 4294967296)) = sN N := by
  unfold wrap64 wrap32 sN
  split <;> omega
theorem oN_bd (N : Nat) : 0 ≤ oN N ∧ oN N ≤ 255 := by unfold oN; omega
/-- what is wrong with the parts of a word -/
noncomputable def dchk (N : Nat) : Int := chkOf (oN N) (aN N) (bN N) (cN N) (sN N)
/-- the instruction of a word -/
def decV (N : Nat) : Value := .agg #[.int .i64 (oN N), .int .i64 (aN N), .int .i64 (bN N), .int .i64 (cN N), .int .i64 (sN N)]
def zeroIns : Value := .agg #[.int .i64 0, .int .i64 0, .int .i64 0, .int .i64 0, .int .i64 0]
theorem bcell {W w1 : World} (hb : Below W.heap.size W w1) : (∀ b o, b < W.heap.size → w1.cell? ⟨b, o, none⟩ = W.cell? ⟨b, o, none⟩) ∧ (∀ b o, b < W.heap.size → w1.frozen? ⟨b, o, none⟩ = W.frozen? ⟨b, o, none⟩) :=
  ⟨fun b o h => hb.cell (p := ⟨b, o, none⟩) h, fun b o h => hb.frozen (p := ⟨b, o, none⟩) h⟩
set_option maxHeartbeats 2000000 in
theorem decode_ok (N : Nat) (hN : N < 18446744073709551616) (hc : dchk N = 0) (w : World) (ho : Ops w) :
    Calls Tryz.prog 52 #[.int .u64 N] w fun e w' => e = .returned (.tuple #[decV N, .int .i64 0]) ∧ Below w.heap.size w w' := by
  have q0 := dec_o N hN
  have q1 := dec_a N hN
  have q2 := dec_b N hN
  have q3 := dec_c N hN
  have q4 := dec_n N hN
  have HC := Lib.hid hc
  clear hc
  have HO := Lib.hid ho
  clear ho
  go_enter Tryz.func52, Tryz.ntmps52
  go_wp2_with fail
  refine (check_any (oN N) (aN N) (bN N) (cN N) (sN N) _ (ops_below HO.out (Nat.le_refl _) (((Below.refl w.heap.size w).alloc (Nat.le_refl _) _).alloc (by simp) _))).mono ?_
  rintro e w1 ⟨rfl, hb⟩
  rw [show chkOf (oN N) (aN N) (bN N) (cN N) (sN N) = 0 from HC.out]
  have HB := Lib.hid hb
  obtain ⟨k1, k2⟩ := bcell hb
  have hz : w.heap.size + 1 < w1.heap.size := by have := hb.size; simp at this; omega
  clear hb
  go_wp2_with fail
  have f0 : w1.cell? ⟨w.heap.size, 0, none⟩ = some (.int .i64 0) := (k1 _ _ (by simp; omega)).trans (by simp)
  have f1 : w1.cell? ⟨w.heap.size, 1, none⟩ = some (.int .i64 0) := (k1 _ _ (by simp; omega)).trans (by simp)
  have f2 : w1.cell? ⟨w.heap.size, 2, none⟩ = some (.int .i64 0) := (k1 _ _ (by simp; omega)).trans (by simp)
  have f3 : w1.cell? ⟨w.heap.size, 3, none⟩ = some (.int .i64 0) := (k1 _ _ (by simp; omega)).trans (by simp)
  have f4 : w1.cell? ⟨w.heap.size, 4, none⟩ = some (.int .i64 0) := (k1 _ _ (by simp; omega)).trans (by simp)
  refine bodyPost_ret (v := .tuple #[decV N, .int .i64 0]) (by simp [results, Tryz.results52, go_sem, f0, f1, f2, f3, f4, decV]) rfl ⟨rfl, ?_⟩
  exact ((((((((Below.refl w.heap.size w).alloc (Nat.le_refl _) _).alloc (by simp) _).trans (HB.out.mono (by simp; omega))).setCell (by simp) _).setCell (by simp) _).setCell (by simp) _).setCell (by simp) _).setCell (by simp) _
set_option maxHeartbeats 2000000 in
theorem decode_bad (N : Nat) (hN : N < 18446744073709551616) (hc : dchk N ≠ 0) (w : World) (ho : Ops w) :
    Calls Tryz.prog 52 #[.int .u64 N] w fun e w' => e = .returned (.tuple #[zeroIns, .int .i64 (dchk N)]) ∧ Below w.heap.size w w' := by
  have q0 := dec_o N hN
  have q1 := dec_a N hN
  have q2 := dec_b N hN
  have q3 := dec_c N hN
  have q4 := dec_n N hN
  obtain ⟨E, hE⟩ : ∃ E, dchk N = E := ⟨_, rfl⟩
  have HC := Lib.hid (show chkOf (oN N) (aN N) (bN N) (cN N) (sN N) = E from hE)
  rw [hE] at hc ⊢
  have hcb : (E != 0) = true := by simpa using hc
  clear hE
  clear hc
  have HO := Lib.hid ho
  clear ho
  go_enter Tryz.func52, Tryz.ntmps52
  go_wp2_with fail
  refine (check_any (oN N) (aN N) (bN N) (cN N) (sN N) _ (ops_below HO.out (Nat.le_refl _) (((Below.refl w.heap.size w).alloc (Nat.le_refl _) _).alloc (by simp) _))).mono ?_
  rintro e w1 ⟨rfl, hb⟩
  rw [HC.out]
  have HB := Lib.hid hb
  obtain ⟨k1, k2⟩ := bcell hb
  have hz : w.heap.size + 1 < w1.heap.size := by have := hb.size; simp at this; omega
  clear hb
  go_wp2_with fail
  have f0 : w1.cell? ⟨w.heap.size, 0, none⟩ = some (.int .i64 0) := (k1 _ _ (by simp; omega)).trans (by simp)
  have f1 : w1.cell? ⟨w.heap.size, 1, none⟩ = some (.int .i64 0) := (k1 _ _ (by simp; omega)).trans (by simp)
  have f2 : w1.cell? ⟨w.heap.size, 2, none⟩ = some (.int .i64 0) := (k1 _ _ (by simp; omega)).trans (by simp)
  have f3 : w1.cell? ⟨w.heap.size, 3, none⟩ = some (.int .i64 0) := (k1 _ _ (by simp; omega)).trans (by simp)
  have f4 : w1.cell? ⟨w.heap.size, 4, none⟩ = some (.int .i64 0) := (k1 _ _ (by simp; omega)).trans (by simp)
  refine bodyPost_ret (v := .tuple #[zeroIns, .int .i64 E]) (by simp [results, Tryz.results52, go_sem, f0, f1, f2, f3, f4, zeroIns]) rfl ⟨rfl, ?_⟩
  exact ((((((((Below.refl w.heap.size w).alloc (Nat.le_refl _) _).alloc (by simp) _).trans (HB.out.mono (by simp; omega))).setCell (by simp) _).setCell (by simp) _).setCell (by simp) _).setCell (by simp) _).setCell (by simp) _
/-- what any word is decoded to -/
noncomputable def pk (N : Nat) (x : Int) : Int := if dchk N = 0 then x else 0
theorem pk_ok {N : Nat} (h : dchk N = 0) (x : Int) : pk N x = x := by unfold pk; rw [if_pos h]
theorem pk_no {N : Nat} (h : dchk N ≠ 0) (x : Int) : pk N x = 0 := by unfold pk; rw [if_neg h]
theorem decode_any (N : Nat) (hN : N < 18446744073709551616) (w : World) (ho : Ops w) :
    Calls Tryz.prog 52 #[.int .u64 N] w fun e w' => e = .returned (.tuple #[.agg #[.int .i64 (pk N (oN N)), .int .i64 (pk N (aN N)), .int .i64 (pk N (bN N)), .int .i64 (pk N (cN N)), .int .i64 (pk N (sN N))], .int .i64 (dchk N)]) ∧ Below w.heap.size w w' := by
  by_cases h : dchk N = 0
  · simp only [pk_ok h]
    rw [h]; exact decode_ok N hN h w ho
  · simp only [pk_no h]
    exact decode_bad N hN h w ho
end Go.Proofs.YtpoblealgooamaaGreatDoor.IsaL
