/- The walks of the statements MemHeads and MemHeadBack: they return true. Conditions: none. -/
import Derived.Test.YtpgnadngiaibeaaMemKnown
namespace Go.Proofs.Ytpgnadngiaibeaa
open Go Go.RowKit
set_option maxRecDepth 100000 in
set_option maxHeartbeats 2000000 in
theorem memHeads_walk (k s t : Int) (N : Nat) (hN : N < 18446744073709551616) (w : World) : Calls Try.prog 3 #[.int .i64 k, .int .i64 s, .int .i64 t, .int .u64 N] w fun e w' => e = .returned (.bool true) ∧ Below w.heap.size w w' := by
  have H1 := Lib.hid (fun W => header_any k s t W)
  have H2 := Lib.hid (fun W => refheader_any k s t W)
  have H3 := Lib.hid (fun W => parts_any N hN W)
  have H4 := Lib.hid (fun W => refparts_any N hN W)
  go_enter Try.func3, Try.ntmps3
  go_wp2_with fail
  refine (H1.out _).mono ?_
  rintro e w' ⟨rfl, rfl⟩
  go_wp2_with fail
  refine (H2.out _).mono ?_
  rintro e w' ⟨rfl, rfl⟩
  go_wp2_with fail
  refine (H3.out _).mono ?_
  rintro e w' ⟨rfl, rfl⟩
  go_wp2_with fail
  refine (H4.out _).mono ?_
  rintro e w' ⟨rfl, rfl⟩
  go_wp2_with fail
  refine (known_any _).mono ?_
  rintro e w1 ⟨rfl, hb⟩
  go_wp2_with fail
  go_ret
  exact ⟨rfl, hb⟩
theorem headed_word {k s t : Int} (h : rightB k s t = true) : ∃ H : Nat, hdrI k s t = H ∧ H < 18446744073709551616 ∧ isHead H = true ∧ kN H = k ∧ zN H = s ∧ tN H = t ∧ H % 2 = 1 := by
  obtain ⟨a, b, c, d, e, f⟩ := right_bd h
  obtain ⟨K, rfl⟩ := Int.eq_ofNat_of_zero_le (show 0 ≤ k by omega)
  obtain ⟨S, rfl⟩ := Int.eq_ofNat_of_zero_le c
  obtain ⟨T, rfl⟩ := Int.eq_ofNat_of_zero_le e
  obtain ⟨p, q, r⟩ := split_hdr h
  refine ⟨hdr K S T, by unfold hdrI hdr; omega, by unfold hdr; omega, ?_, p, q, r, by unfold hdr; omega⟩
  unfold isHead
  rw [p, q, r, h]
  have : hdrI K S T = ((hdr K S T : Nat) : Int) := by unfold hdrI hdr; omega
  rw [this]; simp
theorem not_head0 : isHead 0 = false := by decide
set_option maxRecDepth 100000 in
set_option maxHeartbeats 2000000 in
theorem memHeadBack_gen (k s t : Int) (H : Nat) (E : Int) (a b c : Int) (ok : Bool) (N : Nat) (p q r : Int) (is : Bool) (X F : Int)
    (h1 : ∀ W, Calls Try.prog 14 #[.int .i64 k, .int .i64 s, .int .i64 t] W fun e w' => e = .returned (.tuple #[.int .u64 H, .int .i64 E]) ∧ W = w')
    (h2 : ∀ W, Calls Try.prog 16 #[.int .u64 H] W fun e w' => e = .returned (.tuple #[.int .i64 a, .int .i64 b, .int .i64 c, .bool ok]) ∧ W = w')
    (h3 : ∀ W, Calls Try.prog 16 #[.int .u64 N] W fun e w' => e = .returned (.tuple #[.int .i64 p, .int .i64 q, .int .i64 r, .bool is]) ∧ W = w')
    (h4 : ∀ W, Calls Try.prog 14 #[.int .i64 p, .int .i64 q, .int .i64 r] W fun e w' => e = .returned (.tuple #[.int .u64 X, .int .i64 F]) ∧ W = w')
    (hh : (E = 0 ∧ ok = true ∧ a = k ∧ b = s ∧ c = t ∧ H % 2 = 1) ∨ (E = 22 ∧ H = 0 ∧ ok = false))
    (hg : (is = true ∧ F = 0 ∧ X = N) ∨ (is = false ∧ p = 0 ∧ q = 0 ∧ r = 0)) (w : World) :
    Calls Try.prog 4 #[.int .i64 k, .int .i64 s, .int .i64 t, .int .u64 N] w fun e w' => e = .returned (.bool true) ∧ Below w.heap.size w w' := by
  rcases hh with ⟨rfl, rfl, rfl, rfl, rfl, hodd⟩ | ⟨rfl, rfl, rfl⟩
  · rcases hg with ⟨rfl, rfl, rfl⟩ | ⟨rfl, rfl, rfl, rfl⟩
    all_goals
      have H1 := Lib.hid h1
      have H2 := Lib.hid h2
      have H3 := Lib.hid h3
      have H4 := Lib.hid h4
      have o1 : ((H : Int) % 2 != 1) = false := bneF (by omega)
      clear h1 h2 h3 h4 hodd
      go_enter Try.func4, Try.ntmps4
      go_wp2_with fail
      refine (H1.out _).mono ?_
      rintro e w' ⟨rfl, rfl⟩
      go_wp2_with fail
      refine (H2.out _).mono ?_
      rintro e w' ⟨rfl, rfl⟩
      go_wp2_with fail
      refine (H3.out _).mono ?_
      rintro e w' ⟨rfl, rfl⟩
      go_wp2_with fail
      refine (H4.out _).mono ?_
      rintro e w' ⟨rfl, rfl⟩
      go_wp2_with fail
      refine (known_any _).mono ?_
      rintro e w1 ⟨rfl, hb⟩
      go_wp2_with fail
      go_ret
      exact ⟨rfl, hb⟩
  · rcases hg with ⟨rfl, rfl, rfl⟩ | ⟨rfl, rfl, rfl, rfl⟩
    all_goals
      have H1 := Lib.hid h1
      have H2 := Lib.hid h2
      have H3 := Lib.hid h3
      have H4 := Lib.hid h4
      clear h1 h2 h3 h4
      go_enter Try.func4, Try.ntmps4
      go_wp2_with fail
      refine (H1.out _).mono ?_
      rintro e w' ⟨rfl, rfl⟩
      go_wp2_with fail
      refine (H2.out _).mono ?_
      rintro e w' ⟨rfl, rfl⟩
      go_wp2_with fail
      refine (H3.out _).mono ?_
      rintro e w' ⟨rfl, rfl⟩
      go_wp2_with fail
      refine (H4.out _).mono ?_
      rintro e w' ⟨rfl, rfl⟩
      go_wp2_with fail
      refine (known_any _).mono ?_
      rintro e w1 ⟨rfl, hb⟩
      go_wp2_with fail
      go_ret
      exact ⟨rfl, hb⟩
theorem memHeadBack_walk (k s t : Int) (N : Nat) (hN : N < 18446744073709551616) (w : World) : Calls Try.prog 4 #[.int .i64 k, .int .i64 s, .int .i64 t, .int .u64 N] w fun e w' => e = .returned (.bool true) ∧ Below w.heap.size w w' := by
  have g4 : ∀ W, Calls Try.prog 14 #[.int .i64 (partK N), .int .i64 (partZ N), .int .i64 (partT N)] W fun e w' => e = .returned (.tuple #[.int .u64 (headW (partK N) (partZ N) (partT N)), .int .i64 (headE (partK N) (partZ N) (partT N))]) ∧ W = w' := fun W => header_any _ _ _ W
  have hg : (isHead N = true ∧ headE (partK N) (partZ N) (partT N) = 0 ∧ headW (partK N) (partZ N) (partT N) = N) ∨ (isHead N = false ∧ partK N = 0 ∧ partZ N = 0 ∧ partT N = 0) := by
    cases hi : isHead N
    · right; unfold partK partZ partT; rw [hi]; exact ⟨rfl, rfl, rfl, rfl⟩
    · left
      unfold partK partZ partT
      rw [hi]
      unfold isHead at hi
      simp only [Bool.and_eq_true] at hi
      obtain ⟨h1, h2⟩ := hi
      refine ⟨rfl, ?_, ?_⟩
      · show headE (kN N) (zN N) (tN N) = 0
        unfold headE; rw [h1]; rfl
      · show headW (kN N) (zN N) (tN N) = N
        unfold headW; rw [h1]; simpa using h2
  cases hr : rightB k s t
  · refine memHeadBack_gen k s t 0 22 0 0 0 false N _ _ _ _ _ _ (fun W => header_no k s t hr W) (fun W => ?_) (fun W => parts_any N hN W) g4 (.inr ⟨rfl, rfl, rfl⟩) hg w
    have := parts_any 0 (by decide) W
    have e1 : partK 0 = 0 := by unfold partK; rw [not_head0]; rfl
    have e2 : partZ 0 = 0 := by unfold partZ; rw [not_head0]; rfl
    have e3 : partT 0 = 0 := by unfold partT; rw [not_head0]; rfl
    rw [e1, e2, e3, not_head0] at this
    exact this
  · obtain ⟨H, hH, hl, hi, e1, e2, e3, ho⟩ := headed_word hr
    refine memHeadBack_gen k s t H 0 k s t true N _ _ _ _ _ _ (fun W => ?_) (fun W => ?_) (fun W => parts_any N hN W) g4 (.inl ⟨rfl, rfl, rfl, rfl, rfl, ho⟩) hg w
    · have := header_yes k s t hr W
      rw [hH] at this
      exact this
    · have := parts_any H hl W
      have f1 : partK H = k := by unfold partK; rw [hi, ← e1]; rfl
      have f2 : partZ H = s := by unfold partZ; rw [hi, ← e2]; rfl
      have f3 : partT H = t := by unfold partT; rw [hi, ← e3]; rfl
      rw [f1, f2, f3, hi] at this
      exact this
theorem memHeads_any (k s t z : Int) (h0 : 0 ≤ z) (h1 : z ≤ 18446744073709551615) (w : World) : Calls Try.prog 3 #[.int .i64 k, .int .i64 s, .int .i64 t, .int .u64 z] w fun e w' => e = .returned (.bool true) ∧ Below w.heap.size w w' := by
  obtain ⟨N, rfl⟩ := Int.eq_ofNat_of_zero_le h0
  exact memHeads_walk k s t N (by omega) w
theorem memHeadBack_any (k s t z : Int) (h0 : 0 ≤ z) (h1 : z ≤ 18446744073709551615) (w : World) : Calls Try.prog 4 #[.int .i64 k, .int .i64 s, .int .i64 t, .int .u64 z] w fun e w' => e = .returned (.bool true) ∧ Below w.heap.size w w' := by
  obtain ⟨N, rfl⟩ := Int.eq_ofNat_of_zero_le h0
  exact memHeadBack_walk k s t N (by omega) w
end Go.Proofs.Ytpgnadngiaibeaa
