/- The contract of the statements' alike. Conditions: the memories lie as Mem says; the words are alike. -/
import Derived.Test.YtjdhjehnofediaaGcFol
namespace Go.Proofs.Ytjdhjehnofediaa
open Go Go.RowKit
/-- two words are alike -/
structure AlikeP (W h h2 : Nat) (s s2 : St) (a b : Nat) : Prop where
  odd : a % 2 = 1 ∨ b % 2 = 1 → a = b
  look : a % 2 ≠ 1 → b % 2 ≠ 1 → lookX h W s (toP a) = lookX h2 W s2 (toP b) ∧ (lookX h W s (toP a)).2.2.2 = 0
  word : a % 2 ≠ 1 → b % 2 ≠ 1 → ∀ i, i < (lookX h W s (toP a)).2.1 → ((lookX h W s (toP a)).2.2.1 ≤ i ∨ (loadX h W s (toP a) i).1 % 2 = 1 ∨ (loadX h2 W s2 (toP b) i).1 % 2 = 1) → (loadX h W s (toP a) i).1 = (loadX h2 W s2 (toP b) i).1
set_option maxRecDepth 100000 in
set_option maxHeartbeats 4000000 in
theorem alike_any {w : World} {b1 b2 W h h2 : Nat} {s s2 : St} {R1 R2 : Nat → Value} (m1 : Mem w b1 W h R1 s.now s.old) (z1 : WF W h s.now s.old) (m2 : Mem w b2 W h2 R2 s2.now s2.old) (z2 : WF W h2 s2.now s2.old) {a b : Nat} (ha : a < 18446744073709551616) (hb : b < 18446744073709551616) (al : AlikeP W h h2 s s2 a b) :
    Calls Try.prog 33 #[.pointer (some ⟨b1, 0, none⟩), .int .u64 (a : Int), .pointer (some ⟨b2, 0, none⟩), .int .u64 (b : Int)] w fun e w' => e = .returned (.bool true) ∧ ∃ n, w' = w.drewN n := by
  have HIa := Lib.hid (fun W1 => refisint_any (a : Int) W1 (by omega) (by omega))
  have HIb := Lib.hid (fun W1 => refisint_any (b : Int) W1 (by omega) (by omega))
  by_cases hod : a % 2 = 1
  · have hab := al.odd (.inl hod)
    subst hab
    have q0 : isIntB (a : Int) = true := by unfold isIntB; simpa using by omega
    rw [q0] at HIa
    have hee : ((a : Int) == a) = true := beqT rfl
    clear al m1 m2 z1 z2 HIb
    go_enter Try.func33, Try.ntmps33
    go_wp2_with fail
    refine (HIa.out _).mono ?_
    rintro e w1 ⟨rfl, hw⟩
    subst hw
    go_wp2_with fail
    go_ret
    exact ⟨rfl, 0, rfl⟩
  have hob : ¬ b % 2 = 1 := fun q => by have := al.odd (.inr q); omega
  have q0 : isIntB (a : Int) = false := by unfold isIntB; simpa using by omega
  have q1 : isIntB (b : Int) = false := by unfold isIntB; simpa using by omega
  rw [q0] at HIa
  rw [q1] at HIb
  obtain ⟨hlk, he⟩ := al.look hod hob
  have hwd := al.word hod hob
  have HTa := Lib.hid (fun W1 => reftoptr_any (a : Int) W1 (by omega) (by omega))
  have HTb := Lib.hid (fun W1 => reftoptr_any (b : Int) W1 (by omega) (by omega))
  have pa := toP_le (a : Int)
  have pb := toP_le (b : Int)
  obtain ⟨P, hP⟩ : ∃ P, toP (a : Int) = P := ⟨_, rfl⟩
  obtain ⟨Q, hQ⟩ : ∃ Q, toP (b : Int) = Q := ⟨_, rfl⟩
  rw [hP] at HTa hlk he hwd pa
  rw [hQ] at HTb hlk hwd pb
  have hbd := lookX_bd z1 P
  have HL1 := Lib.hid (fun n => lookX_any (m1.drewN n) z1 P (by omega))
  have HL2 := Lib.hid (fun n => lookX_any (m2.drewN n) z2 Q (by omega))
  rw [← hlk] at HL2
  obtain ⟨u1, hu1⟩ : ∃ u, (lookX h W s P).1 = u := ⟨_, rfl⟩
  obtain ⟨S, hu2⟩ : ∃ u, (lookX h W s P).2.1 = u := ⟨_, rfl⟩
  obtain ⟨tg, htg⟩ : ∃ u, (lookX h W s P).2.2.1 = u := ⟨_, rfl⟩
  rw [hu1, hu2, htg, he] at HL1 HL2
  rw [hu2, htg] at hbd hwd
  have hS : (S : Int) ≤ 16384 := by omega
  have htS : (tg : Int) ≤ S := by omega
  have HD1 := Lib.hid (fun n i => loadX_any (m1.drewN n) z1 P (by omega) i)
  have HD2 := Lib.hid (fun n i => loadX_any (m2.drewN n) z2 Q (by omega) i)
  have HB1 := Lib.hid (fun i => loadX_bd z1 P i)
  have HB2 := Lib.hid (fun i => loadX_bd z2 Q i)
  have HWD := Lib.hid hwd
  have e1 : ((u1 : Int) != u1) = false := by simp
  have e2 : ((S : Int) != S) = false := by simp
  have e3 : ((tg : Int) != tg) = false := by simp
  clear al m1 m2 z1 z2 hlk he hwd hP hQ hu1 hu2 htg hbd q0 q1
  go_enter Try.func33, Try.ntmps33
  go_wp2_with fail
  refine (HIa.out _).mono ?_
  rintro e w1 ⟨rfl, hw⟩
  subst hw
  go_wp2_with fail
  refine (HIb.out _).mono ?_
  rintro e w1 ⟨rfl, hw⟩
  subst hw
  go_wp2_with fail
  refine (HTa.out _).mono ?_
  rintro e w1 ⟨rfl, hw⟩
  subst hw
  go_wp2_with fail
  refine (HL1.out 0).mono ?_
  rintro e w1 ⟨rfl, n1, hw1⟩
  have HW1 := Lib.hid (show ∃ n, w1 = w.drewN n from ⟨0 + n1, by rw [hw1, World.drewN_drewN]⟩)
  clear hw1
  go_wp2_with fail
  refine (HTb.out _).mono ?_
  rintro e w2 ⟨rfl, hw⟩
  subst hw
  have hl2 : Calls Try.prog 39 #[.pointer (some ⟨b2, 0, none⟩), .int .i64 Q] w1 fun e w' => e = .returned (.tuple #[.int .i64 (u1 : Int), .int .i64 (S : Int), .int .i64 (tg : Int), .int .i64 ((0 : Nat) : Int)]) ∧ ∃ n, w' = w1.drewN n := by
    obtain ⟨n, hn⟩ := HW1.out
    rw [hn]; exact HL2.out n
  have HL2' := Lib.hid hl2
  clear hl2 HL1 HL2
  go_wp2_with fail
  refine HL2'.out.mono ?_
  rintro e w2 ⟨rfl, n2, hw2⟩
  have HW2 := Lib.hid (show ∃ n, w2 = w.drewN n from by obtain ⟨n, hn⟩ := HW1.out; exact ⟨n + n2, by rw [hw2, hn, World.drewN_drewN]⟩)
  clear hw2 HL2'
  go_wp2_with fail
  go_loopw [17] (fun i wr => ∃ k : Nat, k ≤ S ∧ i = .int .i64 k ∧ ∃ n, wr = w.drewN n) (fun i _ => S - (intOf i).toNat)
  case atStart => exact ⟨0, Nat.zero_le _, rfl, HW2.out⟩
  case round =>
    obtain ⟨k, hk, rfl, n, hn⟩ := hrel
    clear HW2
    by_cases hlt : k < S
    · have hki : (k : Int) < S := by omega
      have hk0 : (0 : Int) ≤ k := by omega
      obtain ⟨x, hx⟩ : ∃ x, (loadX h W s P k).1 = x := ⟨_, rfl⟩
      obtain ⟨y, hy⟩ : ∃ y, (loadX h2 W s2 Q k).1 = y := ⟨_, rfl⟩
      obtain ⟨x', hx'⟩ : ∃ x, (loadX h W s P k).2 = x := ⟨_, rfl⟩
      obtain ⟨y', hy'⟩ : ∃ y, (loadX h2 W s2 Q k).2 = y := ⟨_, rfl⟩
      have hwk := HWD.out k hlt
      have hbx := HB1.out k
      have hby := HB2.out k
      rw [hx, hy] at hwk
      rw [hx] at hbx
      rw [hy] at hby
      have hd1 := HD1.out n k
      rw [hx, hx', ← hn] at hd1
      have hd2 := fun n' => HD2.out n' k
      rw [hy, hy'] at hd2
      have HDx := Lib.hid hd1
      have HDy := Lib.hid hd2
      have HWn := Lib.hid hn
      have HIx := Lib.hid (fun W1 => refisint_any (x : Int) W1 (by omega) (by omega))
      have HIy := Lib.hid (fun W1 => refisint_any (y : Int) W1 (by omega) (by omega))
      have HWK := Lib.hid hwk
      clear hd1 hd2 hn hx hy hx' hy' hwk
      go_wp2_with fail
      refine (HTa.out _).mono ?_
      rintro e w3 ⟨rfl, hw⟩
      subst hw
      go_wp2_with fail
      refine HDx.out.mono ?_
      rintro e w3 ⟨rfl, n3, hw3⟩
      have HW3 := Lib.hid (show ∃ n, w3 = w.drewN n from ⟨n + n3, by rw [hw3, HWn.out, World.drewN_drewN]⟩)
      clear hw3
      go_wp2_with fail
      refine (HTb.out _).mono ?_
      rintro e w4 ⟨rfl, hw⟩
      subst hw
      have hdy : Calls Try.prog 54 #[.pointer (some ⟨b2, 0, none⟩), .int .i64 Q, .int .i64 (k : Int)] w3 fun e w' => e = .returned (.tuple #[.int .u64 (y : Int), .int .i64 (y' : Int)]) ∧ ∃ n, w' = w3.drewN n := by
        obtain ⟨n', hn'⟩ := HW3.out
        rw [hn']; exact HDy.out n'
      have HDy' := Lib.hid hdy
      clear hdy
      go_wp2_with fail
      refine HDy'.out.mono ?_
      rintro e w4 ⟨rfl, n4, hw4⟩
      have HW4 := Lib.hid (show ∃ n, w4 = w.drewN n from by obtain ⟨n', hn'⟩ := HW3.out; exact ⟨n' + n4, by rw [hw4, hn', World.drewN_drewN]⟩)
      clear hw4 HDy'
      by_cases ht : tg ≤ k
      · have hxy := HWK.out (.inl ht)
        subst hxy
        have hge : decide ((tg : Int) ≤ k) = true := decide_eq_true (by omega)
        have hne : ((x : Int) != x) = false := by simp
        go_wp2_with fail
        go_roundw
        case rel => exact ⟨k + 1, hlt, by go_num, HW4.out⟩
        case measure => simp [intOf]; omega
      · have hge : decide ((tg : Int) ≤ k) = false := decide_eq_false (by omega)
        by_cases hxo : x % 2 = 1
        · have hxy := HWK.out (.inr (.inl hxo))
          subst hxy
          have qx : isIntB (x : Int) = true := by unfold isIntB; simpa using by omega
          rw [qx] at HIx
          have hne : ((x : Int) != x) = false := by simp
          clear qx
          go_wp2_with fail
          refine (HIx.out _).mono ?_
          rintro e w5 ⟨rfl, hw⟩
          subst hw
          go_wp2_with fail
          go_roundw
          case rel => exact ⟨k + 1, hlt, by go_num, HW4.out⟩
          case measure => simp [intOf]; omega
        · have qx : isIntB (x : Int) = false := by unfold isIntB; simpa using by omega
          rw [qx] at HIx
          by_cases hyo : y % 2 = 1
          · have hxy := HWK.out (.inr (.inr hyo))
            omega
          · have qy : isIntB (y : Int) = false := by unfold isIntB; simpa using by omega
            rw [qy] at HIy
            clear qx qy
            go_wp2_with fail
            refine (HIx.out _).mono ?_
            rintro e w5 ⟨rfl, hw⟩
            subst hw
            go_wp2_with fail
            refine (HIy.out _).mono ?_
            rintro e w5 ⟨rfl, hw⟩
            subst hw
            go_wp2_with fail
            go_roundw
            case rel => exact ⟨k + 1, hlt, by go_num, HW4.out⟩
            case measure => simp [intOf]; omega
    · have hki : ¬ (k : Int) < S := by omega
      have HWn := Lib.hid hn
      clear hn
      go_wp2_with fail
      go_ret
      exact ⟨rfl, n, HWn.out⟩
end Go.Proofs.Ytjdhjehnofediaa
