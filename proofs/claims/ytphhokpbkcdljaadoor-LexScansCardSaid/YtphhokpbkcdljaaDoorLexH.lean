/- Contracts of the program's digit and letter: each only computes. Conditions: texts within the reach; letter is called where no quote stands. -/
import Derived.Test.YtphhokpbkcdljaaDoorLexU
import Derived.Test.YtphhokpbkcdljaaDoorShelf
namespace Go.Proofs.YtphhokpbkcdljaaDoor
open Go Go.RowKit
theorem hex_at : ∀ n : Fin 256, Lib.indexByte [48, 49, 50, 51, 52, 53, 54, 55, 56, 57, 65, 66, 67, 68, 69, 70] (UInt8.ofNat n.val) = d16I (UInt8.ofNat n.val) := by decide +kernel
theorem or_fin : ∀ a b : Fin 16, bits BinOp.or IntKind.i64 ((a.val : Int) * 16) (b.val : Int) % 256 = ((16 * a.val + b.val : Nat) : Int) := by decide +kernel
theorem or_ab (a b : Nat) (ha : a < 16) (hb : b < 16) : bits BinOp.or IntKind.i64 ((a : Int) * 16) (b : Int) % 256 = ((16 * a + b : Nat) : Int) := or_fin ⟨a, ha⟩ ⟨b, hb⟩
theorem digit_any (c : UInt8) (w : World) : Calls Tryd.prog 67 #[.int .u8 (c.toNat : Int)] w fun e w' => e = .returned (.int .i64 (d16I c)) ∧ w' = w := by
  have hc := c.toNat_lt
  have hx : Lib.indexByte (⟨#[48, 49, 50, 51, 52, 53, 54, 55, 56, 57, 65, 66, 67, 68, 69, 70]⟩ : ByteArray).data.toList ((c.toNat : Int).toNat.toUInt8) = d16I c := by
    have h := hex_at ⟨c.toNat, hc⟩
    simp only [UInt8.ofNat_toNat] at h
    rw [Int.toNat_natCast, show c.toNat.toUInt8 = c from UInt8.ofNat_toNat]
    exact h
  have HI := Lib.hid (Tryd.strings_IndexByte ⟨#[48, 49, 50, 51, 52, 53, 54, 55, 56, 57, 65, 66, 67, 68, 69, 70]⟩ (c.toNat : Int))
  rw [hx] at HI
  obtain ⟨r, hr⟩ : ∃ r, d16I c = r := ⟨_, rfl⟩
  rw [hr] at HI ⊢
  clear hx hr
  go_enter Tryd.func67, Tryd.ntmps67
  go_wp2_with fail
  refine (HI.out _).mono ?_
  rintro e w1 ⟨rfl, hw1⟩
  subst w1
  go_wp2_with fail
  go_ret
  exact ⟨rfl, rfl⟩
set_option maxRecDepth 100000 in
set_option maxHeartbeats 8000000 in
theorem letter_any (s : ByteArray) (hs : s.size ≤ 140737488351232) (hpos : 0 < s.size) (h34 : s[0].toNat ≠ 34) (w : World) :
    Calls Tryd.prog 61 #[.string s] w fun e w' => e = .returned (.tuple #[.int .u8 ((sgnV s.data.toList).1.toNat : Int), .int .i64 ((sgnV s.data.toList).2 : Int)]) ∧ ∃ n, w' = w.drewN n := by
  have hl : s.data.toList = s[0] :: s.data.toList.drop 1 := by have := drop_cons s hpos; simpa using this
  obtain ⟨V, hV⟩ : ∃ V, sgnV s.data.toList = V := ⟨_, rfl⟩
  have hv := hV
  rw [hl, sgnV_cons] at hv
  rw [hV]
  clear hV hl
  have q0 : (0 : Int) ≤ (s[0].toNat : Int) := by omega
  have q1 : (s[0].toNat : Int) ≤ 255 := by have := s[0].toNat_lt; omega
  by_cases a4 : s[0].toNat ≠ 92
  · have b4 : (((s[0].toNat : Nat) : Int) != 92) = true := by simp; omega
    by_cases a1 : s[0].toNat < 32
    · have b1 : decide (((s[0].toNat : Nat) : Int) < 32) = true := decide_eq_true (by omega)
      rw [if_pos (.inl a1)] at hv
      have HV := Lib.hid hv
      clear hv a1 a4 h34
      go_enter Tryd.func61, Tryd.ntmps61
      go_wp2_with fail
      go_ret2
      exact ⟨by rw [← HV.out]; rfl, 0, rfl⟩
    have b1 : decide (((s[0].toNat : Nat) : Int) < 32) = false := decide_eq_false (by omega)
    by_cases a2 : 126 < s[0].toNat
    · have b2 : decide ((126 : Int) < ((s[0].toNat : Nat) : Int)) = true := decide_eq_true (by omega)
      rw [if_pos (.inr (.inl a2))] at hv
      have HV := Lib.hid hv
      clear hv a1 a2 a4 h34
      go_enter Tryd.func61, Tryd.ntmps61
      go_wp2_with fail
      go_ret2
      exact ⟨by rw [← HV.out]; rfl, 0, rfl⟩
    have b2 : decide ((126 : Int) < ((s[0].toNat : Nat) : Int)) = false := decide_eq_false (by omega)
    rw [if_neg (by omega), if_pos a4] at hv
    have HV := Lib.hid hv
    clear hv a1 a2 a4 h34
    go_enter Tryd.func61, Tryd.ntmps61
    go_wp2_with fail
    go_ret2
    exact ⟨by rw [← HV.out]; rfl, 0, rfl⟩
  have b4 : (((s[0].toNat : Nat) : Int) != 92) = false := by simp; omega
  rw [if_neg (by omega), if_neg a4] at hv
  clear a4 h34
  by_cases h2 : s.size < 2
  · have hd : decide ((s.size : Int) < 2) = true := decide_eq_true (by omega)
    rw [drop_end s (by omega)] at hv
    have HV := Lib.hid hv
    clear hv h2
    go_enter Tryd.func61, Tryd.ntmps61
    go_wp2_with fail
    go_ret2
    exact ⟨by rw [← HV.out]; rfl, 0, rfl⟩
  have hd : decide ((s.size : Int) < 2) = false := decide_eq_false (by omega)
  have h1 : 1 < s.size := by omega
  rw [drop_cons s h1] at hv
  simp only at hv
  have p0 : (0 : Int) ≤ (s[1].toNat : Int) := by omega
  have p1 : (s[1].toNat : Int) ≤ 255 := by have := s[1].toNat_lt; omega
  clear h2
  by_cases a1 : s[1].toNat = 34
  · have c1 : (((s[1].toNat : Nat) : Int) == 34) = true := by simp; omega
    rw [if_pos (.inl a1)] at hv
    have HV := Lib.hid (show V.1.toNat = s[1].toNat ∧ V.2 = 2 from by rw [← hv]; exact ⟨rfl, rfl⟩)
    clear hv a1
    go_enter Tryd.func61, Tryd.ntmps61
    go_wp2_with fail
    go_ret2
    exact ⟨by rw [HV.out.1, HV.out.2]; rfl, 0, rfl⟩
  have c1 : (((s[1].toNat : Nat) : Int) == 34) = false := by simp; omega
  by_cases a2 : s[1].toNat = 92
  · have c2 : (((s[1].toNat : Nat) : Int) == 92) = true := by simp; omega
    rw [if_pos (.inr a2)] at hv
    have HV := Lib.hid (show V.1.toNat = s[1].toNat ∧ V.2 = 2 from by rw [← hv]; exact ⟨rfl, rfl⟩)
    clear hv a1 a2
    go_enter Tryd.func61, Tryd.ntmps61
    go_wp2_with fail
    go_ret2
    exact ⟨by rw [HV.out.1, HV.out.2]; rfl, 0, rfl⟩
  have c2 : (((s[1].toNat : Nat) : Int) == 92) = false := by simp; omega
  rw [if_neg (by omega)] at hv
  by_cases a3 : s[1].toNat = 110
  · have c3 : (((s[1].toNat : Nat) : Int) == 110) = true := by simp; omega
    rw [if_pos a3] at hv
    have HV := Lib.hid hv
    clear hv a1 a2 a3
    go_enter Tryd.func61, Tryd.ntmps61
    go_wp2_with fail
    go_ret2
    exact ⟨by rw [← HV.out]; rfl, 0, rfl⟩
  have c3 : (((s[1].toNat : Nat) : Int) == 110) = false := by simp; omega
  rw [if_neg a3] at hv
  by_cases a4 : s[1].toNat = 116
  · have c4 : (((s[1].toNat : Nat) : Int) == 116) = true := by simp; omega
    rw [if_pos a4] at hv
    have HV := Lib.hid hv
    clear hv a1 a2 a3 a4
    go_enter Tryd.func61, Tryd.ntmps61
    go_wp2_with fail
    go_ret2
    exact ⟨by rw [← HV.out]; rfl, 0, rfl⟩
  have c4 : (((s[1].toNat : Nat) : Int) == 116) = false := by simp; omega
  rw [if_neg a4] at hv
  by_cases a5 : s[1].toNat = 120
  · have c5 : (((s[1].toNat : Nat) : Int) == 120) = true := by simp; omega
    rw [if_pos a5] at hv
    clear a1 a2 a3 a4 a5
    by_cases h4 : s.size < 4
    · have he : decide ((4 : Int) ≤ (s.size : Int)) = false := decide_eq_false (by omega)
      have HV := Lib.hid (show V = (0, 0) from by
        rw [← hv]
        cases hq : s.data.toList.drop (1 + 1) with
        | nil => rfl
        | cons y r => cases r with
          | nil => rfl
          | cons z r =>
            have h5 := congrArg List.length hq
            rw [List.length_drop, len_data] at h5
            simp at h5
            omega)
      clear hv h4
      go_enter Tryd.func61, Tryd.ntmps61
      go_wp2_with fail
      go_ret2
      exact ⟨by rw [HV.out]; rfl, 0, rfl⟩
    have he : decide ((4 : Int) ≤ (s.size : Int)) = true := decide_eq_true (by omega)
    have h2 : 2 < s.size := by omega
    have h3 : 3 < s.size := by omega
    rw [drop_cons s h2, drop_cons s h3] at hv
    simp only at hv
    have HY := Lib.hid (digit_any s[2])
    have HZ := Lib.hid (digit_any s[3])
    unfold d16I at HY HZ
    clear h4
    cases ey : d16 s[2] with
    | none =>
      rw [ey] at HY hv
      simp only at HY hv
      have HV := Lib.hid hv
      clear hv
      go_enter Tryd.func61, Tryd.ntmps61
      go_wp2_with fail
      refine (HY.out _).mono ?_
      rintro e w1 ⟨rfl, hw1⟩
      subst w1
      go_wp2_with fail
      go_ret2
      exact ⟨by rw [← HV.out]; rfl, 0, rfl⟩
    | some a =>
      rw [ey] at HY hv
      simp only at HY
      have ha := d16_bd ey
      have hg1 : decide ((0 : Int) ≤ (a : Int)) = true := decide_eq_true (by omega)
      cases ez : d16 s[3] with
      | none =>
        rw [ez] at HZ hv
        simp only at HZ hv
        have HV := Lib.hid hv
        clear hv
        go_enter Tryd.func61, Tryd.ntmps61
        go_wp2_with fail
        refine (HY.out _).mono ?_
        rintro e w1 ⟨rfl, hw1⟩
        subst w1
        go_wp2_with fail
        refine (HZ.out _).mono ?_
        rintro e w1 ⟨rfl, hw1⟩
        subst w1
        go_wp2_with fail
        go_ret2
        exact ⟨by rw [← HV.out]; rfl, 0, rfl⟩
      | some b =>
        rw [ez] at HZ hv
        simp only at HZ hv
        have hb := d16_bd ez
        have hg2 : decide ((0 : Int) ≤ (b : Int)) = true := decide_eq_true (by omega)
        have HV := Lib.hid (show V.1.toNat = 16 * a + b ∧ V.2 = 4 from by
          rw [← hv]
          refine ⟨?_, rfl⟩
          show (UInt8.ofNat (16 * a + b)).toNat = _
          rw [UInt8.toNat_ofNat']
          omega)
        have HYQ := Lib.hid (fun q => (HY.out (w.drewN q)))
        have HZQ := Lib.hid (fun q => (HZ.out (w.drewN q)))
        clear hv ey ez
        go_enter Tryd.func61, Tryd.ntmps61
        go_wp2_with fail
        refine (HY.out _).mono ?_
        rintro e w1 ⟨rfl, hw1⟩
        subst w1
        go_wp2_with fail
        refine (HZ.out _).mono ?_
        rintro e w1 ⟨rfl, hw1⟩
        subst w1
        go_wp2_with fail
        go_quiet ((first | (go_at_call 67; with_reducible exact Calls.quiet_of_same (HYQ.out _)) | (go_at_call 67; with_reducible exact Calls.quiet_of_same (HZQ.out _))))
        go_wp2_with fail
        go_ret2
        refine ⟨?_, _, rfl⟩
        show Ending.returned (.tuple #[.int .u8 (bits BinOp.or IntKind.i64 ((a : Int) * 16) (b : Int) % 256), .int .i64 4]) = _
        rw [or_ab a b ha hb, HV.out.1, HV.out.2]
        rfl
  have c5 : (((s[1].toNat : Nat) : Int) == 120) = false := by simp; omega
  rw [if_neg a5] at hv
  have HV := Lib.hid hv
  clear hv a1 a2 a3 a4 a5
  go_enter Tryd.func61, Tryd.ntmps61
  go_wp2_with fail
  go_ret2
  exact ⟨by rw [← HV.out]; rfl, 0, rfl⟩
end Go.Proofs.YtphhokpbkcdljaaDoor
