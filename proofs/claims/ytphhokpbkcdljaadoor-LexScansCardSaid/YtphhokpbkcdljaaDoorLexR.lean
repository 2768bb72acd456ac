/- Contracts of the document's leaf functions on bytes and words: each only computes. Conditions: texts within the reach. -/
import Derived.WalkKit
import Derived.Outline
import Derived.Lib.Hide
import Derived.IntWalk
import Derived.WalkLawsBesides
import Derived.WalkSpells
import Derived.Deep.QuietTactic
import Derived.BigQuiet
import Derived.Test.YtphhokpbkcdljaaDoorLexN
import Derived.Test.YtphhokpbkcdljaaDoorProg
namespace Go.Proofs.YtphhokpbkcdljaaDoor
open Go Go.RowKit
def btwB (c lo hi : Nat) : Bool := decide (lo ≤ c) && decide (c ≤ hi)
theorem ref_between (c lo hi : Nat) (w : World) :
    Calls Tryd.prog 26 #[.int .u8 (c : Int), .int .u8 (lo : Int), .int .u8 (hi : Int)] w fun e w' => e = .returned (.bool (btwB c lo hi)) ∧ w' = w := by
  unfold btwB
  by_cases h3 : lo ≤ c
  · have a1 : decide ((lo : Int) ≤ (c : Int)) = true := decide_eq_true (by omega)
    rw [decide_eq_true h3]
    by_cases h4 : c ≤ hi
    · have a2 : decide ((c : Int) ≤ (hi : Int)) = true := decide_eq_true (by omega)
      rw [decide_eq_true h4]
      go_enter Tryd.func26, Tryd.ntmps26
      go_wp2
      go_ret
      exact ⟨rfl, rfl⟩
    · have a2 : decide ((c : Int) ≤ (hi : Int)) = false := decide_eq_false (by omega)
      have h5 : hi < c := by omega
      rw [decide_eq_false h4]
      go_enter Tryd.func26, Tryd.ntmps26
      go_wp2
      go_ret
      exact ⟨rfl, rfl⟩
  · have a1 : decide ((lo : Int) ≤ (c : Int)) = false := decide_eq_false (by omega)
    have h5 : c < lo := by omega
    rw [decide_eq_false h3]
    go_enter Tryd.func26, Tryd.ntmps26
    go_wp2
    go_ret
    exact ⟨rfl, rfl⟩
theorem btw_sm (c : UInt8) (w : World) : Calls Tryd.prog 26 #[.int .u8 (c.toNat : Int), .int .u8 97, .int .u8 122] w fun e w' => e = .returned (.bool (isSm c)) ∧ w' = w :=
  ref_between c.toNat 97 122 w
theorem btw_lg (c : UInt8) (w : World) : Calls Tryd.prog 26 #[.int .u8 (c.toNat : Int), .int .u8 65, .int .u8 90] w fun e w' => e = .returned (.bool (isLg c)) ∧ w' = w :=
  ref_between c.toNat 65 90 w
theorem btw_dg (c : UInt8) (w : World) : Calls Tryd.prog 26 #[.int .u8 (c.toNat : Int), .int .u8 48, .int .u8 57] w fun e w' => e = .returned (.bool (isDg c)) ∧ w' = w :=
  ref_between c.toNat 48 57 w
theorem btw_af (c : UInt8) (w : World) : Calls Tryd.prog 26 #[.int .u8 (c.toNat : Int), .int .u8 65, .int .u8 70] w fun e w' => e = .returned (.bool (btwB c.toNat 65 70)) ∧ w' = w :=
  ref_between c.toNat 65 70 w
set_option maxHeartbeats 4000000 in
theorem ref_part (c : UInt8) (w : World) : Calls Tryd.prog 27 #[.int .u8 (c.toNat : Int)] w fun e w' => e = .returned (.bool (part1 c)) ∧ w' = w := by
  have HS := Lib.hid (btw_sm c)
  have HL := Lib.hid (btw_lg c)
  have HD := Lib.hid (btw_dg c)
  have hc := c.toNat_lt
  unfold part1 part0
  obtain ⟨n, hn⟩ : ∃ n, c.toNat = n := ⟨_, rfl⟩
  rw [hn] at HS HL HD hc ⊢
  obtain ⟨x, hx⟩ : ∃ x, isSm c = x := ⟨_, rfl⟩
  obtain ⟨y, hy⟩ : ∃ y, isLg c = y := ⟨_, rfl⟩
  obtain ⟨z, hz⟩ : ∃ z, isDg c = z := ⟨_, rfl⟩
  rw [hx] at HS ⊢
  rw [hy] at HL ⊢
  rw [hz] at HD ⊢
  clear hx hy hz hn
  cases x
  · cases y
    · cases z
      · by_cases h95 : n = 95
        · have b1 : ((n : Int) == 95) = true := by simp; omega
          rw [decide_eq_true h95]
          clear h95
          go_enter Tryd.func27, Tryd.ntmps27
          go_wp2_with fail
          refine (HS.out _).mono ?_
          rintro e w1 ⟨rfl, rfl⟩
          go_wp2_with fail
          refine (HL.out _).mono ?_
          rintro e w2 ⟨rfl, rfl⟩
          go_wp2_with fail
          refine (HD.out _).mono ?_
          rintro e w3 ⟨rfl, rfl⟩
          go_wp2_with fail
          go_ret
          exact ⟨rfl, rfl⟩
        · have b1 : ((n : Int) == 95) = false := by simp; omega
          have b2 : decide (n = 39) = ((n : Int) == 39) := by rw [Bool.eq_iff_iff]; simp; omega
          rw [decide_eq_false h95, b2]
          clear h95
          clear b2
          go_enter Tryd.func27, Tryd.ntmps27
          go_wp2_with fail
          refine (HS.out _).mono ?_
          rintro e w1 ⟨rfl, rfl⟩
          go_wp2_with fail
          refine (HL.out _).mono ?_
          rintro e w2 ⟨rfl, rfl⟩
          go_wp2_with fail
          refine (HD.out _).mono ?_
          rintro e w3 ⟨rfl, rfl⟩
          go_wp2_with fail
          go_ret
          exact ⟨rfl, rfl⟩
      · go_enter Tryd.func27, Tryd.ntmps27
        go_wp2_with fail
        refine (HS.out _).mono ?_
        rintro e w1 ⟨rfl, rfl⟩
        go_wp2_with fail
        refine (HL.out _).mono ?_
        rintro e w2 ⟨rfl, rfl⟩
        go_wp2_with fail
        refine (HD.out _).mono ?_
        rintro e w3 ⟨rfl, rfl⟩
        go_wp2_with fail
        go_ret
        exact ⟨rfl, rfl⟩
    · go_enter Tryd.func27, Tryd.ntmps27
      go_wp2_with fail
      refine (HS.out _).mono ?_
      rintro e w1 ⟨rfl, rfl⟩
      go_wp2_with fail
      refine (HL.out _).mono ?_
      rintro e w2 ⟨rfl, rfl⟩
      go_wp2_with fail
      go_ret
      exact ⟨rfl, rfl⟩
  · go_enter Tryd.func27, Tryd.ntmps27
    go_wp2_with fail
    refine (HS.out _).mono ?_
    rintro e w1 ⟨rfl, rfl⟩
    go_wp2_with fail
    go_ret
    exact ⟨rfl, rfl⟩
end Go.Proofs.YtphhokpbkcdljaaDoor
