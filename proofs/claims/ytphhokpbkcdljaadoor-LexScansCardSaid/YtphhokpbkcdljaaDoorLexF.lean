/- Contracts of the program's leaf functions on bytes, and of run: each only computes. Conditions: texts within the reach. -/
import Derived.Test.YtphhokpbkcdljaaDoorLexS
namespace Go.Proofs.YtphhokpbkcdljaaDoor
open Go Go.RowKit
theorem isDg_any (c : UInt8) (w : World) : Calls Tryd.prog 39 #[.int .u8 (c.toNat : Int)] w fun e w' => e = .returned (.bool (isDg c)) ∧ w' = w := by
  unfold isDg
  obtain ⟨n, hn⟩ : ∃ n, c.toNat = n := ⟨_, rfl⟩
  rw [hn]
  clear hn
  by_cases h3 : 48 ≤ n
  · have a1 : decide ((48 : Int) ≤ (n : Int)) = true := decide_eq_true (by omega)
    rw [decide_eq_true h3]
    by_cases h4 : n ≤ 57
    · have a2 : decide ((n : Int) ≤ 57) = true := decide_eq_true (by omega)
      rw [decide_eq_true h4]
      go_enter Tryd.func39, Tryd.ntmps39
      go_wp2_with fail
      go_ret
      exact ⟨rfl, rfl⟩
    · have a2 : decide ((n : Int) ≤ 57) = false := decide_eq_false (by omega)
      have h5 : 57 < n := by omega
      rw [decide_eq_false h4]
      go_enter Tryd.func39, Tryd.ntmps39
      go_wp2_with fail
      go_ret
      exact ⟨rfl, rfl⟩
  · have a1 : decide ((48 : Int) ≤ (n : Int)) = false := decide_eq_false (by omega)
    have h5 : n < 48 := by omega
    rw [decide_eq_false h3]
    go_enter Tryd.func39, Tryd.ntmps39
    go_wp2_with fail
    go_ret
    exact ⟨rfl, rfl⟩
theorem isSm_any (c : UInt8) (w : World) : Calls Tryd.prog 42 #[.int .u8 (c.toNat : Int)] w fun e w' => e = .returned (.bool (isSm c)) ∧ w' = w := by
  unfold isSm
  obtain ⟨n, hn⟩ : ∃ n, c.toNat = n := ⟨_, rfl⟩
  rw [hn]
  clear hn
  by_cases h3 : 97 ≤ n
  · have a1 : decide ((97 : Int) ≤ (n : Int)) = true := decide_eq_true (by omega)
    rw [decide_eq_true h3]
    by_cases h4 : n ≤ 122
    · have a2 : decide ((n : Int) ≤ 122) = true := decide_eq_true (by omega)
      rw [decide_eq_true h4]
      go_enter Tryd.func42, Tryd.ntmps42
      go_wp2_with fail
      go_ret
      exact ⟨rfl, rfl⟩
    · have a2 : decide ((n : Int) ≤ 122) = false := decide_eq_false (by omega)
      have h5 : 122 < n := by omega
      rw [decide_eq_false h4]
      go_enter Tryd.func42, Tryd.ntmps42
      go_wp2_with fail
      go_ret
      exact ⟨rfl, rfl⟩
  · have a1 : decide ((97 : Int) ≤ (n : Int)) = false := decide_eq_false (by omega)
    have h5 : n < 97 := by omega
    rw [decide_eq_false h3]
    go_enter Tryd.func42, Tryd.ntmps42
    go_wp2_with fail
    go_ret
    exact ⟨rfl, rfl⟩
theorem isLg_any (c : UInt8) (w : World) : Calls Tryd.prog 43 #[.int .u8 (c.toNat : Int)] w fun e w' => e = .returned (.bool (isLg c)) ∧ w' = w := by
  unfold isLg
  obtain ⟨n, hn⟩ : ∃ n, c.toNat = n := ⟨_, rfl⟩
  rw [hn]
  clear hn
  by_cases h3 : 65 ≤ n
  · have a1 : decide ((65 : Int) ≤ (n : Int)) = true := decide_eq_true (by omega)
    rw [decide_eq_true h3]
    by_cases h4 : n ≤ 90
    · have a2 : decide ((n : Int) ≤ 90) = true := decide_eq_true (by omega)
      rw [decide_eq_true h4]
      go_enter Tryd.func43, Tryd.ntmps43
      go_wp2_with fail
      go_ret
      exact ⟨rfl, rfl⟩
    · have a2 : decide ((n : Int) ≤ 90) = false := decide_eq_false (by omega)
      have h5 : 90 < n := by omega
      rw [decide_eq_false h4]
      go_enter Tryd.func43, Tryd.ntmps43
      go_wp2_with fail
      go_ret
      exact ⟨rfl, rfl⟩
  · have a1 : decide ((65 : Int) ≤ (n : Int)) = false := decide_eq_false (by omega)
    have h5 : n < 65 := by omega
    rw [decide_eq_false h3]
    go_enter Tryd.func43, Tryd.ntmps43
    go_wp2_with fail
    go_ret
    exact ⟨rfl, rfl⟩
def partP (pr : Bool) (c : UInt8) : Bool := part0 c || (decide (c.toNat = 39) && pr)
theorem partP_true : partP true = part1 := by funext c; unfold partP part1; simp
theorem partP_false : partP false = part0 := by funext c; unfold partP; simp
theorem run_nil (p : UInt8 → Bool) : Go.Proofs.YtphhokpbkcdljaaDoor.run p [] = 0 := rfl
set_option maxRecDepth 100000 in
set_option maxHeartbeats 4000000 in
theorem run_any (s : ByteArray) (hs : s.size ≤ 140737488351232) (k : Nat) (hk : k ≤ s.size) (pr : Bool) (w : World) :
    Calls Tryd.prog 44 #[.string s, .int .i64 (k : Int), .bool pr] w fun e w' => e = .returned (.int .i64 ((k + Go.Proofs.YtphhokpbkcdljaaDoor.run (partP pr) (s.data.toList.drop k) : Nat) : Int)) ∧ w' = w := by
  obtain ⟨res, hr⟩ : ∃ res, k + Go.Proofs.YtphhokpbkcdljaaDoor.run (partP pr) (s.data.toList.drop k) = res := ⟨_, rfl⟩
  rw [hr]
  have HR := Lib.hid hr
  clear hr
  go_enter Tryd.func44, Tryd.ntmps44
  go_wp2_with fail
  go_loop [1] (fun i => ∃ q : Nat, q ≤ s.size ∧ i = .int .i64 q ∧ q + Go.Proofs.YtphhokpbkcdljaaDoor.run (partP pr) (s.data.toList.drop q) = res) (fun i => s.size - (intOf i).toNat)
  case atStart => exact ⟨k, hk, rfl, HR.out⟩
  case round =>
    clear hk
    obtain ⟨q, hq, rfl, hres⟩ := hrel
    by_cases hlt : q < s.size
    · rw [drop_cons s hlt, run_cons] at hres
      have hP : partP pr s[q] = (isSm s[q] || isLg s[q] || isDg s[q] || decide (s[q].toNat = 95) || (decide (s[q].toNat = 39) && pr)) := rfl
      have HS := Lib.hid (isSm_any s[q])
      have HL := Lib.hid (isLg_any s[q])
      have HD := Lib.hid (isDg_any s[q])
      obtain ⟨x, hx⟩ : ∃ x, isSm s[q] = x := ⟨_, rfl⟩
      obtain ⟨y, hy⟩ : ∃ y, isLg s[q] = y := ⟨_, rfl⟩
      obtain ⟨z, hz⟩ : ∃ z, isDg s[q] = z := ⟨_, rfl⟩
      obtain ⟨c, hc⟩ : ∃ c : Int, (s[q].toNat : Int) = c := ⟨_, rfl⟩
      rw [hx] at HS hP
      rw [hy] at HL hP
      rw [hz] at HD hP
      rw [hc] at HS HL HD
      rw [show decide (s[q].toNat = 95) = decide (c = 95) from by rw [decide_eq_decide]; omega, show decide (s[q].toNat = 39) = decide (c = 39) from by rw [decide_eq_decide]; omega] at hP
      have hcx : ((s[q].toNat : Nat) : Int) = c := hc
      rw [hP] at hres
      have HRES := Lib.hid hres
      clear hx hy hz hP hres hc
      have fin : (x || y || z || decide (c = 95) || (decide (c = 39) && pr)) = true → q + 1 + Go.Proofs.YtphhokpbkcdljaaDoor.run (partP pr) (s.data.toList.drop (q + 1)) = res := fun h => by
        have := HRES.out
        rw [if_pos h] at this; omega
      have fout : (x || y || z || decide (c = 95) || (decide (c = 39) && pr)) = false → q = res := fun h => by
        have := HRES.out
        rw [h] at this; simpa using this
      have HFI := Lib.hid fin
      have HFO := Lib.hid fout
      clear fin fout HRES
      have tri : ((x = true ∨ (x = false ∧ y = true) ∨ (x = false ∧ y = false ∧ z = true)) ∨ (x = false ∧ y = false ∧ z = false)) := by cases x <;> cases y <;> cases z <;> simp
      rcases tri with tri | ⟨rfl, rfl, rfl⟩
      · have HF := Lib.hid (HFI.out (by rcases tri with rfl | ⟨_, rfl⟩ | ⟨_, _, rfl⟩ <;> simp))
        clear HFI HFO
        have go_on : ∀ (x : Int), x = (q : Int) + 1 → ∃ q' : Nat, q' ≤ s.size ∧ Value.int .i64 x = .int .i64 q' ∧ q' + Go.Proofs.YtphhokpbkcdljaaDoor.run (partP pr) (s.data.toList.drop q') = res := fun x h => ⟨q + 1, by omega, by rw [h]; rfl, HF.out⟩
        have HGO := Lib.hid go_on
        clear go_on
        rcases tri with rfl | ⟨rfl, rfl⟩ | ⟨rfl, rfl, rfl⟩
        · go_wp2_with fail
          refine (HS.out _).mono ?_
          rintro e w1 ⟨rfl, hw1⟩
          subst w1
          go_wp2_with fail
          go_round
          case rel => exact HGO.out _ rfl
          case measure => simp [intOf]; omega
        · go_wp2_with fail
          refine (HS.out _).mono ?_
          rintro e w1 ⟨rfl, hw1⟩
          subst w1
          go_wp2_with fail
          refine (HL.out _).mono ?_
          rintro e w1 ⟨rfl, hw1⟩
          subst w1
          go_wp2_with fail
          go_round
          case rel => exact HGO.out _ rfl
          case measure => simp [intOf]; omega
        · go_wp2_with fail
          refine (HS.out _).mono ?_
          rintro e w1 ⟨rfl, hw1⟩
          subst w1
          go_wp2_with fail
          refine (HL.out _).mono ?_
          rintro e w1 ⟨rfl, hw1⟩
          subst w1
          go_wp2_with fail
          refine (HD.out _).mono ?_
          rintro e w1 ⟨rfl, hw1⟩
          subst w1
          go_wp2_with fail
          go_round
          case rel => exact HGO.out _ rfl
          case measure => simp [intOf]; omega
      · have h4 : (c != 95) = true ∨ (c != 95) = false := by cases (c != 95) <;> simp
        rcases h4 with h4 | h4
        · have h5 : (c != 39) = true ∨ (c != 39) = false := by cases (c != 39) <;> simp
          rcases h5 with h5 | h5
          · have HE := Lib.hid (HFO.out (by have a : ¬ c = 95 := by simpa using h4
                                            have b : ¬ c = 39 := by simpa using h5
                                            simp [a, b]))
            clear HFI HFO
            go_wp2_with fail
            refine (HS.out _).mono ?_
            rintro e w1 ⟨rfl, hw1⟩
            subst w1
            go_wp2_with fail
            refine (HL.out _).mono ?_
            rintro e w1 ⟨rfl, hw1⟩
            subst w1
            go_wp2_with fail
            refine (HD.out _).mono ?_
            rintro e w1 ⟨rfl, hw1⟩
            subst w1
            go_wp2_with fail
            go_ret
            exact ⟨by rw [HE.out]; rfl, rfl⟩
          · cases pr with
            | true =>
              have HF := Lib.hid (HFI.out (by have b : c = 39 := by simpa using h5
                                              simp [b]))
              clear HFI HFO
              go_wp2_with fail
              refine (HS.out _).mono ?_
              rintro e w1 ⟨rfl, hw1⟩
              subst w1
              go_wp2_with fail
              refine (HL.out _).mono ?_
              rintro e w1 ⟨rfl, hw1⟩
              subst w1
              go_wp2_with fail
              refine (HD.out _).mono ?_
              rintro e w1 ⟨rfl, hw1⟩
              subst w1
              go_wp2_with fail
              go_round
              case rel => exact ⟨q + 1, by omega, by go_num, HF.out⟩
              case measure => simp [intOf]; omega
            | false =>
              have HE := Lib.hid (HFO.out (by have a : ¬ c = 95 := by simpa using h4
                                              simp [a]))
              clear HFI HFO
              go_wp2_with fail
              refine (HS.out _).mono ?_
              rintro e w1 ⟨rfl, hw1⟩
              subst w1
              go_wp2_with fail
              refine (HL.out _).mono ?_
              rintro e w1 ⟨rfl, hw1⟩
              subst w1
              go_wp2_with fail
              refine (HD.out _).mono ?_
              rintro e w1 ⟨rfl, hw1⟩
              subst w1
              go_wp2_with fail
              go_ret
              exact ⟨by rw [HE.out]; rfl, rfl⟩
        · have HF := Lib.hid (HFI.out (by have b : c = 95 := by simpa using h4
                                          simp [b]))
          clear HFI HFO
          go_wp2_with fail
          refine (HS.out _).mono ?_
          rintro e w1 ⟨rfl, hw1⟩
          subst w1
          go_wp2_with fail
          refine (HL.out _).mono ?_
          rintro e w1 ⟨rfl, hw1⟩
          subst w1
          go_wp2_with fail
          refine (HD.out _).mono ?_
          rintro e w1 ⟨rfl, hw1⟩
          subst w1
          go_wp2_with fail
          go_round
          case rel => exact ⟨q + 1, by omega, by go_num, HF.out⟩
          case measure => simp [intOf]; omega
    · rw [drop_end s (by omega), run_nil] at hres
      obtain rfl : q = res := by omega
      go_wp2_with fail
      go_ret
      exact ⟨rfl, rfl⟩
end Go.Proofs.YtphhokpbkcdljaaDoor
