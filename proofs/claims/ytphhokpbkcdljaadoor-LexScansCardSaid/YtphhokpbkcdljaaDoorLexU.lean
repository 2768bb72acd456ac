/- Contracts of the document's digit16 and Sign: each only computes. Conditions: texts within the reach. -/
import Derived.Test.YtphhokpbkcdljaaDoorLexS
namespace Go.Proofs.YtphhokpbkcdljaaDoor
open Go Go.RowKit
def d16I (c : UInt8) : Int := match d16 c with
  | some n => (n : Int)
  | none => -1
theorem d16_bd {c : UInt8} {n : Nat} (h : d16 c = some n) : n < 16 := by
  unfold d16 at h
  split at h
  · rename_i q
    have := dg_bd q
    injection h with h; omega
  · split at h
    · injection h with h; omega
    · cases h
theorem ref_d16 (c : UInt8) (w : World) : Calls Tryd.prog 69 #[.int .u8 (c.toNat : Int)] w fun e w' => e = .returned (.int .i64 (d16I c)) ∧ w' = w := by
  have hc := c.toNat_lt
  have hr : (isDg c = true ∧ d16I c = (c.toNat : Int) - 48) ∨ (isDg c = false ∧ btwB c.toNat 65 70 = true ∧ d16I c = (c.toNat : Int) - 55) ∨ (isDg c = false ∧ btwB c.toNat 65 70 = false ∧ d16I c = -1) := by
    unfold d16I d16
    cases h : isDg c with
    | true =>
      have := dg_bd h
      left
      refine ⟨rfl, ?_⟩
      simp
      omega
    | false =>
      right
      simp only [Bool.false_eq_true, if_false]
      by_cases h2 : 65 ≤ c.toNat ∧ c.toNat ≤ 70
      · left
        refine ⟨by simp, by unfold btwB; simp; omega, ?_⟩
        rw [if_pos h2]
        simp
        omega
      · right
        refine ⟨by simp, by unfold btwB; simp; omega, ?_⟩
        rw [if_neg h2]
  have HD := Lib.hid (btw_dg c)
  have HA := Lib.hid (btw_af c)
  obtain ⟨r, hrr⟩ : ∃ r, d16I c = r := ⟨_, rfl⟩
  obtain ⟨n, hn⟩ : ∃ n : Nat, c.toNat = n := ⟨_, rfl⟩
  rw [hrr] at hr ⊢
  rw [hn] at hr HD HA hc ⊢
  obtain ⟨x, hx⟩ : ∃ x, isDg c = x := ⟨_, rfl⟩
  obtain ⟨y, hy⟩ : ∃ y, btwB n 65 70 = y := ⟨_, rfl⟩
  rw [hx, hy] at hr
  rw [hx] at HD
  rw [hy] at HA
  have h0 : (0 : Int) ≤ n := by omega
  have h1 : (n : Int) ≤ 255 := by omega
  clear hrr hn hx hy
  rcases hr with ⟨rfl, hr⟩ | ⟨rfl, rfl, hr⟩ | ⟨rfl, rfl, hr⟩
  · have HR := Lib.hid hr
    clear hr
    go_enter Tryd.func69, Tryd.ntmps69
    go_wp2_with fail
    refine (HD.out _).mono ?_
    rintro e w1 ⟨rfl, hw1⟩
    subst w1
    go_wp2_with fail
    go_ret
    exact ⟨ret_intL (by rw [HR.out]), rfl⟩
  · have HR := Lib.hid hr
    clear hr
    go_enter Tryd.func69, Tryd.ntmps69
    go_wp2_with fail
    refine (HD.out _).mono ?_
    rintro e w1 ⟨rfl, hw1⟩
    subst w1
    go_wp2_with fail
    refine (HA.out _).mono ?_
    rintro e w1 ⟨rfl, hw1⟩
    subst w1
    go_wp2_with fail
    go_ret
    exact ⟨ret_intL (by rw [HR.out]; omega), rfl⟩
  · have HR := Lib.hid hr
    clear hr
    go_enter Tryd.func69, Tryd.ntmps69
    go_wp2_with fail
    refine (HD.out _).mono ?_
    rintro e w1 ⟨rfl, hw1⟩
    subst w1
    go_wp2_with fail
    refine (HA.out _).mono ?_
    rintro e w1 ⟨rfl, hw1⟩
    subst w1
    go_wp2_with fail
    go_ret
    exact ⟨ret_intL (by rw [HR.out]), rfl⟩
/-- the first sign, as a byte and a length -/
def sgnV (l : List UInt8) : UInt8 × Nat := match sgn l with
  | some x => x
  | none => (0, 0)
theorem sgnV_cons (c : UInt8) (r : List UInt8) : sgnV (c :: r) =
    if c.toNat < 32 ∨ 126 < c.toNat ∨ c.toNat = 34 then (0, 0)
    else if c.toNat ≠ 92 then (c, 1)
    else match r with
      | [] => (0, 0)
      | x :: r =>
        if x.toNat = 34 ∨ x.toNat = 92 then (x, 2)
        else if x.toNat = 110 then (10, 2)
        else if x.toNat = 116 then (9, 2)
        else if x.toNat = 120 then
          match r with
          | y :: z :: _ => match d16 y, d16 z with
            | some a, some b => (UInt8.ofNat (16 * a + b), 4)
            | _, _ => (0, 0)
          | _ => (0, 0)
        else (0, 0) := by
  unfold sgnV
  rw [sgn_cons]
  by_cases h1 : c.toNat < 32 ∨ 126 < c.toNat ∨ c.toNat = 34
  · rw [if_pos h1, if_pos h1]
  rw [if_neg h1, if_neg h1]
  by_cases h2 : c.toNat ≠ 92
  · rw [if_pos h2, if_pos h2]
  rw [if_neg h2, if_neg h2]
  cases r with
  | nil => rfl
  | cons x r =>
    simp only
    by_cases h3 : x.toNat = 34 ∨ x.toNat = 92
    · rw [if_pos h3, if_pos h3]
    rw [if_neg h3, if_neg h3]
    by_cases h4 : x.toNat = 110
    · rw [if_pos h4, if_pos h4]
    rw [if_neg h4, if_neg h4]
    by_cases h5 : x.toNat = 116
    · rw [if_pos h5, if_pos h5]
    rw [if_neg h5, if_neg h5]
    by_cases h6 : x.toNat = 120
    · rw [if_pos h6, if_pos h6]
      cases r with
      | nil => rfl
      | cons y r => cases r with
        | nil => rfl
        | cons z r =>
          simp only
          cases d16 y <;> cases d16 z <;> rfl
    rw [if_neg h6, if_neg h6]
set_option maxRecDepth 100000 in
set_option maxHeartbeats 8000000 in
theorem ref_sign (s : ByteArray) (hs : s.size ≤ 140737488351232) (w : World) :
    Calls Tryd.prog 63 #[.string s] w fun e w' => e = .returned (.tuple #[.int .u8 ((sgnV s.data.toList).1.toNat : Int), .int .i64 ((sgnV s.data.toList).2 : Int)]) ∧ ∃ n, w' = w.drewN n := by
  by_cases h0 : s.size = 0
  · have hl : s.data.toList = [] := by have := drop_end s (k := 0) (by omega); simpa using this
    rw [hl]
    have he := toL_empty h0
    go_enter Tryd.func63, Tryd.ntmps63
    go_wp2_with fail
    go_ret2
    exact ⟨rfl, 0, rfl⟩
  have hpos : 0 < s.size := by omega
  have hne := toL_isE hpos
  have hl : s.data.toList = s[0] :: s.data.toList.drop 1 := by have := drop_cons s hpos; simpa using this
  obtain ⟨V, hV⟩ : ∃ V, sgnV s.data.toList = V := ⟨_, rfl⟩
  have hv := hV
  rw [hl, sgnV_cons] at hv
  rw [hV]
  clear hV hl h0
  have q0 : (0 : Int) ≤ (s[0].toNat : Int) := by omega
  have q1 : (s[0].toNat : Int) ≤ 255 := by have := s[0].toNat_lt; omega
  by_cases a1 : s[0].toNat < 32
  · have b1 : decide (((s[0].toNat : Nat) : Int) < 32) = true := decide_eq_true (by omega)
    rw [if_pos (.inl a1)] at hv
    have HV := Lib.hid hv
    clear hv a1
    go_enter Tryd.func63, Tryd.ntmps63
    go_wp2_with fail
    go_ret2
    exact ⟨by rw [← HV.out]; rfl, 0, rfl⟩
  have b1 : decide (((s[0].toNat : Nat) : Int) < 32) = false := decide_eq_false (by omega)
  by_cases a2 : 126 < s[0].toNat
  · have b2 : decide ((126 : Int) < ((s[0].toNat : Nat) : Int)) = true := decide_eq_true (by omega)
    rw [if_pos (.inr (.inl a2))] at hv
    have HV := Lib.hid hv
    clear hv a1 a2
    go_enter Tryd.func63, Tryd.ntmps63
    go_wp2_with fail
    go_ret2
    exact ⟨by rw [← HV.out]; rfl, 0, rfl⟩
  have b2 : decide ((126 : Int) < ((s[0].toNat : Nat) : Int)) = false := decide_eq_false (by omega)
  by_cases a3 : s[0].toNat = 34
  · have b3 : (((s[0].toNat : Nat) : Int) == 34) = true := by simp; omega
    rw [if_pos (.inr (.inr a3))] at hv
    have HV := Lib.hid hv
    clear hv a1 a2 a3
    go_enter Tryd.func63, Tryd.ntmps63
    go_wp2_with fail
    go_ret2
    exact ⟨by rw [← HV.out]; rfl, 0, rfl⟩
  have b3 : (((s[0].toNat : Nat) : Int) == 34) = false := by simp; omega
  rw [if_neg (by omega)] at hv
  by_cases a4 : s[0].toNat ≠ 92
  · have b4 : (((s[0].toNat : Nat) : Int) != 92) = true := by simp; omega
    rw [if_pos a4] at hv
    have HV := Lib.hid hv
    clear hv a1 a2 a3 a4
    go_enter Tryd.func63, Tryd.ntmps63
    go_wp2_with fail
    go_ret2
    exact ⟨by rw [← HV.out]; rfl, 0, rfl⟩
  have b4 : (((s[0].toNat : Nat) : Int) != 92) = false := by simp; omega
  rw [if_neg a4] at hv
  clear a1 a2 a3 a4
  by_cases h2 : s.size < 2
  · have hd : decide ((s.size : Int) < 2) = true := decide_eq_true (by omega)
    rw [drop_end s (by omega)] at hv
    have HV := Lib.hid hv
    clear hv h2
    go_enter Tryd.func63, Tryd.ntmps63
    go_wp2_with fail
    go_ret2
    exact ⟨by rw [← HV.out]; rfl, 0, rfl⟩
  have hd : decide ((s.size : Int) < 2) = false := decide_eq_false (by omega)
  have h1 : 1 < s.size := by omega
  rw [drop_cons s h1] at hv
  simp only at hv
  have p0 : (0 : Int) ≤ (s[1].toNat : Int) := by omega
  have p1 : (s[1].toNat : Int) ≤ 255 := by have := s[1].toNat_lt; omega
  clear h2
  by_cases a1 : s[1].toNat = 34
  · have c1 : (((s[1].toNat : Nat) : Int) == 34) = true := by simp; omega
    rw [if_pos (.inl a1)] at hv
    have HV := Lib.hid (show V.1.toNat = 34 ∧ V.2 = 2 from by rw [← hv]; exact ⟨a1, rfl⟩)
    clear hv a1
    go_enter Tryd.func63, Tryd.ntmps63
    go_wp2_with fail
    go_ret2
    exact ⟨by rw [HV.out.1, HV.out.2]; rfl, 0, rfl⟩
  have c1 : (((s[1].toNat : Nat) : Int) == 34) = false := by simp; omega
  by_cases a2 : s[1].toNat = 92
  · have c2 : (((s[1].toNat : Nat) : Int) == 92) = true := by simp; omega
    rw [if_pos (.inr a2)] at hv
    have HV := Lib.hid (show V.1.toNat = 92 ∧ V.2 = 2 from by rw [← hv]; exact ⟨a2, rfl⟩)
    clear hv a1 a2
    go_enter Tryd.func63, Tryd.ntmps63
    go_wp2_with fail
    go_ret2
    exact ⟨by rw [HV.out.1, HV.out.2]; rfl, 0, rfl⟩
  have c2 : (((s[1].toNat : Nat) : Int) == 92) = false := by simp; omega
  rw [if_neg (by omega)] at hv
  by_cases a3 : s[1].toNat = 110
  · have c3 : (((s[1].toNat : Nat) : Int) == 110) = true := by simp; omega
    rw [if_pos a3] at hv
    have HV := Lib.hid hv
    clear hv a1 a2 a3
    go_enter Tryd.func63, Tryd.ntmps63
    go_wp2_with fail
    go_ret2
    exact ⟨by rw [← HV.out]; rfl, 0, rfl⟩
  have c3 : (((s[1].toNat : Nat) : Int) == 110) = false := by simp; omega
  rw [if_neg a3] at hv
  by_cases a4 : s[1].toNat = 116
  · have c4 : (((s[1].toNat : Nat) : Int) == 116) = true := by simp; omega
    rw [if_pos a4] at hv
    have HV := Lib.hid hv
    clear hv a1 a2 a3 a4
    go_enter Tryd.func63, Tryd.ntmps63
    go_wp2_with fail
    go_ret2
    exact ⟨by rw [← HV.out]; rfl, 0, rfl⟩
  have c4 : (((s[1].toNat : Nat) : Int) == 116) = false := by simp; omega
  rw [if_neg a4] at hv
  by_cases a5 : s[1].toNat = 120
  · have c5 : (((s[1].toNat : Nat) : Int) == 120) = true := by simp; omega
    rw [if_pos a5] at hv
    clear a1 a2 a3 a4 a5
    by_cases h4 : s.size < 4
    · have he : decide ((4 : Int) ≤ (s.size : Int)) = false := decide_eq_false (by omega)
      have HV := Lib.hid (show V = (0, 0) from by
        rw [← hv]
        cases hq : s.data.toList.drop (1 + 1) with
        | nil => rfl
        | cons y r => cases r with
          | nil => rfl
          | cons z r =>
            have h5 := congrArg List.length hq
            rw [List.length_drop, len_data] at h5
            simp at h5
            omega)
      clear hv h4
      go_enter Tryd.func63, Tryd.ntmps63
      go_wp2_with fail
      go_ret2
      exact ⟨by rw [HV.out]; rfl, 0, rfl⟩
    have he : decide ((4 : Int) ≤ (s.size : Int)) = true := decide_eq_true (by omega)
    have h2 : 2 < s.size := by omega
    have h3 : 3 < s.size := by omega
    rw [drop_cons s h2, drop_cons s h3] at hv
    simp only at hv
    have HY := Lib.hid (ref_d16 s[2])
    have HZ := Lib.hid (ref_d16 s[3])
    unfold d16I at HY HZ
    clear h4
    cases ey : d16 s[2] with
    | none =>
      rw [ey] at HY hv
      simp only at HY hv
      have HV := Lib.hid hv
      clear hv
      go_enter Tryd.func63, Tryd.ntmps63
      go_wp2_with fail
      refine (HY.out _).mono ?_
      rintro e w1 ⟨rfl, hw1⟩
      subst w1
      go_wp2_with fail
      go_ret2
      exact ⟨by rw [← HV.out]; rfl, 0, rfl⟩
    | some a =>
      rw [ey] at HY hv
      simp only at HY
      have ha := d16_bd ey
      have hg1 : decide ((0 : Int) ≤ (a : Int)) = true := decide_eq_true (by omega)
      cases ez : d16 s[3] with
      | none =>
        rw [ez] at HZ hv
        simp only at HZ hv
        have HV := Lib.hid hv
        clear hv
        go_enter Tryd.func63, Tryd.ntmps63
        go_wp2_with fail
        refine (HY.out _).mono ?_
        rintro e w1 ⟨rfl, hw1⟩
        subst w1
        go_wp2_with fail
        refine (HZ.out _).mono ?_
        rintro e w1 ⟨rfl, hw1⟩
        subst w1
        go_wp2_with fail
        go_ret2
        exact ⟨by rw [← HV.out]; rfl, 0, rfl⟩
      | some b =>
        rw [ez] at HZ hv
        simp only at HZ hv
        have hb := d16_bd ez
        have hg2 : decide ((0 : Int) ≤ (b : Int)) = true := decide_eq_true (by omega)
        have HV := Lib.hid (show V.1.toNat = 16 * a + b ∧ V.2 = 4 from by
          rw [← hv]
          refine ⟨?_, rfl⟩
          show (UInt8.ofNat (16 * a + b)).toNat = _
          rw [UInt8.toNat_ofNat']
          omega)
        have s1 : IntKind.i64.wrap (16 * (a : Int)) = 16 * (a : Int) := by rw [IntKind.wrap_i64]; omega
        have s2 : IntKind.i64.wrap (16 * (a : Int) + (b : Int)) = 16 * (a : Int) + (b : Int) := by rw [IntKind.wrap_i64]; omega
        have s3 : IntKind.u8.wrap (16 * (a : Int) + (b : Int)) = 16 * (a : Int) + (b : Int) := by rw [IntKind.wrap_u8]; omega
        have HYQ := Lib.hid (fun q => (HY.out (w.drewN q)))
        have HZQ := Lib.hid (fun q => (HZ.out (w.drewN q)))
        clear hv ey ez
        go_enter Tryd.func63, Tryd.ntmps63
        go_wp2_with fail
        refine (HY.out _).mono ?_
        rintro e w1 ⟨rfl, hw1⟩
        subst w1
        go_wp2_with fail
        refine (HZ.out _).mono ?_
        rintro e w1 ⟨rfl, hw1⟩
        subst w1
        go_wp2_with fail
        go_quiet ((first | (go_at_call 69; with_reducible exact Calls.quiet_of_same (HYQ.out _)) | (go_at_call 69; with_reducible exact Calls.quiet_of_same (HZQ.out _))))
        go_wp2_with fail
        go_ret2
        exact ⟨by rw [HV.out.1, HV.out.2]; rfl, _, rfl⟩
  have c5 : (((s[1].toNat : Nat) : Int) == 120) = false := by simp; omega
  rw [if_neg a5] at hv
  have HV := Lib.hid hv
  clear hv a1 a2 a3 a4 a5
  go_enter Tryd.func63, Tryd.ntmps63
  go_wp2_with fail
  go_ret2
  exact ⟨by rw [← HV.out]; rfl, 0, rfl⟩
end Go.Proofs.YtphhokpbkcdljaaDoor
