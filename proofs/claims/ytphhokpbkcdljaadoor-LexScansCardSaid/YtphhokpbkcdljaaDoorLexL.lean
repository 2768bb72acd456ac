/- The contract of the program's comment. Condition: the text is within the reach, and a comment begins there. -/
import Derived.Test.YtphhokpbkcdljaaDoorLexC
import Derived.Test.YtphhokpbkcdljaaDoorShelf
namespace Go.Proofs.YtphhokpbkcdljaaDoor
open Go Go.RowKit
def cmV (q : Nat) (o : Option Nat) : Value := match o with
  | some n => .tuple #[.int .i64 ((q + n : Nat) : Int), .bool true]
  | none => .tuple #[.int .i64 0, .bool false]
theorem cmV_map (q m : Nat) (o : Option Nat) : cmV q (o.map (· + m)) = cmV (q + m) o := by
  cases o with
  | none => rfl
  | some n => show Value.tuple #[.int .i64 ((q + (n + m) : Nat) : Int), .bool true] = Value.tuple #[.int .i64 ((q + m + n : Nat) : Int), .bool true]; rw [show q + (n + m) = q + m + n by omega]
theorem pre_two (l : List UInt8) (a b : UInt8) : Lib.hasPrefix l [a, b] = decide (l.take 2 = [a, b]) := by
  unfold Lib.hasPrefix
  cases e : List.isPrefixOf [a, b] l with
  | true =>
    rw [List.isPrefixOf_iff_prefix, List.prefix_iff_eq_take] at e
    exact (decide_eq_true e.symm).symm
  | false =>
    refine (decide_eq_false fun q => ?_).symm
    have : List.isPrefixOf [a, b] l = true := by rw [List.isPrefixOf_iff_prefix, List.prefix_iff_eq_take]; exact q.symm
    rw [e] at this; cases this
theorem two_len {s : ByteArray} {q : Nat} {a b : UInt8} (h : (s.data.toList.drop q).take 2 = [a, b]) : q + 2 ≤ s.size := by
  have := congrArg List.length h
  rw [List.length_take, List.length_drop] at this
  simp at this
  omega
set_option maxRecDepth 100000 in
set_option maxHeartbeats 8000000 in
theorem comment_any (s : ByteArray) (hs : s.size ≤ 140737488351232) (k : Nat) (hk : (s.data.toList.drop k).take 2 = [40, 42]) (w : World) :
    Calls Tryd.prog 38 #[.string s, .int .i64 (k : Int)] w fun e w' => e = .returned (cmV (k + 2) (com (s.data.toList.drop (k + 2)) 1)) ∧ w' = w := by
  obtain ⟨R, hR⟩ : ∃ R, cmV (k + 2) (com (s.data.toList.drop (k + 2)) 1) = R := ⟨_, rfl⟩
  rw [hR]
  have HR := Lib.hid hR
  have HK := Lib.hid hk
  have hk2 := two_len hk
  clear hR hk
  go_enter Tryd.func38, Tryd.ntmps38
  go_wp2_with fail
  go_loop [1, 6] (fun i o => ∃ (q d : Nat), q ≤ s.size ∧ i = .int .i64 q ∧ o = .int .i64 d ∧ d ≤ q ∧ ((d = 0 ∧ q = k) ∨ (1 ≤ d ∧ cmV q (com (s.data.toList.drop q) d) = R))) (fun i _ => s.size - (intOf i).toNat)
  case atStart => exact ⟨k, 0, by omega, rfl, rfl, Nat.zero_le _, .inl ⟨rfl, rfl⟩⟩
  case round =>
    obtain ⟨q, d, hq, rfl, rfl, hdq, hm⟩ := hrel
    have hq0 : (0 : Int) ≤ q := by omega
    have hqs : (q : Int) ≤ s.size := by omega
    by_cases hlt : q < s.size
    · have h1 := Tryd.strings_HasPrefix (s.extract q s.size) ⟨#[40, 42]⟩
      have h2 := Tryd.strings_HasPrefix (s.extract q s.size) ⟨#[42, 41]⟩
      rw [show (s.extract q s.size).data.toList = s.data.toList.drop q from Lib.extract_to_end s q, show (⟨#[40, 42]⟩ : ByteArray).data.toList = [40, 42] from rfl, pre_two] at h1
      rw [show (s.extract q s.size).data.toList = s.data.toList.drop q from Lib.extract_to_end s q, show (⟨#[42, 41]⟩ : ByteArray).data.toList = [42, 41] from rfl, pre_two] at h2
      by_cases ho : (s.data.toList.drop q).take 2 = [40, 42]
      · rw [decide_eq_true ho] at h1
        have HP := Lib.hid h1
        have hq2 := two_len ho
        have HM := Lib.hid (show cmV (q + 2) (com (s.data.toList.drop (q + 2)) (d + 1)) = R from by
          rcases hm with ⟨rfl, rfl⟩ | ⟨_, hm⟩
          · exact HR.out
          · rw [com_open ho, cmV_map, List.drop_drop] at hm; exact hm)
        clear hm h1 h2 ho
        go_wp2_with fail
        refine (HP.out _).mono ?_
        rintro e w1 ⟨rfl, hw1⟩
        subst w1
        go_wp2_with fail
        exact ⟨⟨q + 2, d + 1, hq2, by go_num, by go_num, by omega, .inr ⟨by omega, HM.out⟩⟩, by simp [intOf]; omega⟩
      · rw [decide_eq_false ho] at h1
        have HP := Lib.hid h1
        have hm2 : 1 ≤ d ∧ cmV q (com (s.data.toList.drop q) d) = R := by
          rcases hm with ⟨rfl, rfl⟩ | hm
          · exact absurd HK.out ho
          · exact hm
        obtain ⟨hd1, hm2⟩ := hm2
        by_cases hc : (s.data.toList.drop q).take 2 = [42, 41]
        · rw [decide_eq_true hc] at h2
          have HP2 := Lib.hid h2
          have hq2 := two_len hc
          rw [com_close hc] at hm2
          by_cases he : d = 1
          · subst he
            rw [if_pos rfl] at hm2
            have HM := Lib.hid hm2
            clear hm hm2 h1 h2 ho hc
            go_wp2_with fail
            refine (HP.out _).mono ?_
            rintro e w1 ⟨rfl, hw1⟩
            subst w1
            go_wp2_with fail
            refine (HP2.out _).mono ?_
            rintro e w1 ⟨rfl, hw1⟩
            subst w1
            go_wp2_with fail
            go_ret2
            exact ⟨by rw [← HM.out]; rfl, rfl⟩
          · rw [if_neg he, cmV_map, List.drop_drop] at hm2
            have HM := Lib.hid hm2
            have hB : (((d : Int) - 1) == 0) = false := by rw [beq_eq_false_iff_ne]; omega
            clear hm hm2 h1 h2 ho hc
            go_wp2_with fail
            refine (HP.out _).mono ?_
            rintro e w1 ⟨rfl, hw1⟩
            subst w1
            go_wp2_with fail
            refine (HP2.out _).mono ?_
            rintro e w1 ⟨rfl, hw1⟩
            subst w1
            go_wp2_with fail
            exact ⟨⟨q + 2, d - 1, hq2, by go_num, by congr 1; omega, by omega, .inr ⟨by omega, HM.out⟩⟩, by simp [intOf]; omega⟩
        · rw [decide_eq_false hc] at h2
          have HP2 := Lib.hid h2
          rw [com_step (by rw [drop_cons s hlt]; simp) ho hc, cmV_map, List.drop_drop] at hm2
          have HM := Lib.hid hm2
          clear hm hm2 h1 h2 ho hc
          go_wp2_with fail
          refine (HP.out _).mono ?_
          rintro e w1 ⟨rfl, hw1⟩
          subst w1
          go_wp2_with fail
          refine (HP2.out _).mono ?_
          rintro e w1 ⟨rfl, hw1⟩
          subst w1
          go_wp2_with fail
          exact ⟨⟨q + 1, d, hlt, by go_num, rfl, by omega, .inr ⟨hd1, HM.out⟩⟩, by simp [intOf]; omega⟩
    · have HM := Lib.hid (show cmV q none = R from by
        rcases hm with ⟨rfl, rfl⟩ | ⟨_, hm⟩
        · have := two_len HK.out; omega
        · rw [drop_end s (by omega), com_nil] at hm; exact hm)
      clear hm
      go_wp2_with fail
      go_ret2
      exact ⟨by rw [← HM.out]; rfl, rfl⟩
end Go.Proofs.YtphhokpbkcdljaaDoor
