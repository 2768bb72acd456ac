/- The contract of the program's pass. Condition: the text is within the reach. -/
import Derived.Test.YtphhokpbkcdljaaDoorLexL
import Derived.Test.YtphhokpbkcdljaaDoorLexD
namespace Go.Proofs.YtphhokpbkcdljaaDoor
open Go Go.RowKit
theorem bl_fin : ∀ n : Fin 256, decide (0 ≤ Lib.indexByte [9, 10, 13, 32] (UInt8.ofNat n.val)) = isBl (UInt8.ofNat n.val) := by decide +kernel
theorem bl_at (c : UInt8) : decide (0 ≤ Lib.indexByte (⟨#[9, 10, 13, 32]⟩ : ByteArray).data.toList ((c.toNat : Int).toNat.toUInt8)) = isBl c := by
  have h := bl_fin ⟨c.toNat, c.toNat_lt⟩
  simp only [UInt8.ofNat_toNat] at h
  rw [Int.toNat_natCast, show c.toNat.toUInt8 = c from UInt8.ofNat_toNat]
  exact h
def paV (q : Nat) (x : Nat × Bool) : Value := .tuple #[.int .i64 ((q + x.1 : Nat) : Int), .bool x.2]
set_option maxRecDepth 100000 in
set_option maxHeartbeats 8000000 in
theorem pass_any (s : ByteArray) (hs : s.size ≤ 140737488351232) (k : Nat) (hk : k ≤ s.size) (w : World) :
    Calls Tryd.prog 23 #[.string s, .int .i64 (k : Int)] w fun e w' => e = .returned (paV k (blk (s.data.toList.drop k))) ∧ w' = w := by
  obtain ⟨R, hR⟩ : ∃ R, paV k (blk (s.data.toList.drop k)) = R := ⟨_, rfl⟩
  rw [hR]
  have HR := Lib.hid hR
  clear hR
  go_enter Tryd.func23, Tryd.ntmps23
  go_wp2_with fail
  go_loop [1] (fun i => ∃ q : Nat, q ≤ s.size ∧ i = .int .i64 q ∧ paV q (blk (s.data.toList.drop q)) = R) (fun i => s.size - (intOf i).toNat)
  case atStart => exact ⟨k, hk, rfl, HR.out⟩
  case round =>
    clear hk
    obtain ⟨q, hq, rfl, hm⟩ := hrel
    have hq0 : (0 : Int) ≤ q := by omega
    have hqs : (q : Int) ≤ s.size := by omega
    by_cases hlt : q < s.size
    · have hne : s.data.toList.drop q ≠ [] := by rw [drop_cons s hlt]; simp
      have hhd := headD_drop' s hlt
      have hi := Tryd.strings_IndexByte ⟨#[9, 10, 13, 32]⟩ (s[q].toNat : Int)
      have hbl := bl_at s[q]
      obtain ⟨r, hr⟩ : ∃ r, Lib.indexByte (⟨#[9, 10, 13, 32]⟩ : ByteArray).data.toList ((s[q].toNat : Int).toNat.toUInt8) = r := ⟨_, rfl⟩
      rw [hr] at hi hbl
      have HI := Lib.hid hi
      clear hi hr
      cases hb : isBl s[q] with
      | true =>
        rw [hb] at hbl
        rw [blk_bl hne (by rw [hhd]; exact hb), List.drop_drop] at hm
        have HM := Lib.hid (show paV (q + 1) (blk (s.data.toList.drop (q + 1))) = R from by
          rw [← hm]; unfold paV; simp only; rw [show q + ((blk (s.data.toList.drop (q + 1))).1 + 1) = q + 1 + (blk (s.data.toList.drop (q + 1))).1 by omega])
        clear hm hne hhd hb
        go_wp2_with fail
        refine (HI.out _).mono ?_
        rintro e w1 ⟨rfl, hw1⟩
        subst w1
        go_wp2_with fail
        exact ⟨⟨q + 1, hlt, by go_num, HM.out⟩, by simp [intOf]; omega⟩
      | false =>
        rw [hb] at hbl
        have h1 := Tryd.strings_HasPrefix (s.extract q s.size) ⟨#[40, 42]⟩
        rw [show (s.extract q s.size).data.toList = s.data.toList.drop q from Lib.extract_to_end s q, show (⟨#[40, 42]⟩ : ByteArray).data.toList = [40, 42] from rfl, pre_two] at h1
        by_cases ho : (s.data.toList.drop q).take 2 = [40, 42]
        · rw [decide_eq_true ho] at h1
          have HP := Lib.hid h1
          have HC := Lib.hid (comment_any s hs q ho)
          rw [blk_com hne (by rw [hhd]; exact hb) ho, List.drop_drop] at hm
          have hq2 := two_len ho
          cases hc : com (s.data.toList.drop (q + 2)) 1 with
          | none =>
            rw [hc] at hm HC
            have HM := Lib.hid hm
            have HC2 := Lib.hid (show ∀ W, Calls _ _ _ W (fun e w' => e = .returned (.tuple #[.int .i64 0, .bool false]) ∧ w' = W) from HC.out)
            clear hm hne hhd hb h1 ho hc HC
            go_wp2_with fail
            refine (HI.out _).mono ?_
            rintro e w1 ⟨rfl, hw1⟩
            subst w1
            go_wp2_with fail
            refine (HP.out _).mono ?_
            rintro e w1 ⟨rfl, hw1⟩
            subst w1
            go_wp2_with fail
            refine (HC2.out _).mono ?_
            rintro e w1 ⟨rfl, hw1⟩
            subst w1
            go_wp2_with fail
            go_ret2
            exact ⟨by rw [← HM.out]; rfl, rfl⟩
          | some n =>
            have hle := com_le _ _ _ _ (Nat.le_refl _) hc
            rw [List.length_drop, len_data] at hle
            rw [hc] at hm HC
            simp only at hm
            rw [List.drop_drop] at hm
            have HM := Lib.hid (show paV (q + 2 + n) (blk (s.data.toList.drop (q + 2 + n))) = R from by
              rw [← hm, show q + (n + 2) = q + 2 + n by omega]; unfold paV; simp only; rw [show q + ((blk (s.data.toList.drop (q + 2 + n))).1 + (n + 2)) = q + 2 + n + (blk (s.data.toList.drop (q + 2 + n))).1 by omega])
            have HC2 := Lib.hid (show ∀ W, Calls _ _ _ W (fun e w' => e = .returned (.tuple #[.int .i64 ((q + 2 + n : Nat) : Int), .bool true]) ∧ w' = W) from HC.out)
            clear hm hne hhd hb h1 ho hc HC
            go_wp2_with fail
            refine (HI.out _).mono ?_
            rintro e w1 ⟨rfl, hw1⟩
            subst w1
            go_wp2_with fail
            refine (HP.out _).mono ?_
            rintro e w1 ⟨rfl, hw1⟩
            subst w1
            go_wp2_with fail
            refine (HC2.out _).mono ?_
            rintro e w1 ⟨rfl, hw1⟩
            subst w1
            go_wp2_with fail
            exact ⟨⟨q + 2 + n, by omega, rfl, HM.out⟩, by simp [intOf]; omega⟩
        · rw [decide_eq_false ho] at h1
          have HP := Lib.hid h1
          rw [blk_else (by rw [hhd]; exact hb) ho] at hm
          have HM := Lib.hid hm
          clear hm hne hhd hb h1 ho
          go_wp2_with fail
          refine (HI.out _).mono ?_
          rintro e w1 ⟨rfl, hw1⟩
          subst w1
          go_wp2_with fail
          refine (HP.out _).mono ?_
          rintro e w1 ⟨rfl, hw1⟩
          subst w1
          go_wp2_with fail
          go_ret2
          exact ⟨by rw [← HM.out]; rfl, rfl⟩
    · rw [drop_end s (by omega), blk_nil] at hm
      have HM := Lib.hid hm
      clear hm
      go_wp2_with fail
      go_ret2
      exact ⟨by rw [← HM.out]; rfl, rfl⟩
end Go.Proofs.YtphhokpbkcdljaaDoor
