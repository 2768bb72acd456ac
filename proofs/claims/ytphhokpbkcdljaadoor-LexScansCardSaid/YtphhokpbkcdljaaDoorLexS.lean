/- Contracts of the document's Word, TypeVar, digits, digit16 and Sign: each only computes. Conditions: texts within the reach. -/
import Derived.Test.YtphhokpbkcdljaaDoorLexR
import Derived.Lib.IndexBytes
namespace Go.Proofs.YtphhokpbkcdljaaDoor
open Go Go.RowKit
theorem drop_cons (s : ByteArray) {k : Nat} (h : k < s.size) : s.data.toList.drop k = s[k] :: s.data.toList.drop (k + 1) := by
  rw [List.drop_eq_getElem_cons (by simpa using h)]; rfl
theorem drop_end (s : ByteArray) {k : Nat} (h : s.size ≤ k) : s.data.toList.drop k = [] := List.drop_eq_nil_of_le (by simpa using h)
theorem len_data (s : ByteArray) : s.data.toList.length = s.size := by simp
theorem toL_empty {s : ByteArray} (h : s.size = 0) : s.toList = [] := by
  rw [Lib.toList_data]
  exact List.eq_nil_of_length_eq_zero (by rw [len_data]; exact h)
theorem toL_ne {s : ByteArray} (h : 0 < s.size) : ¬ s.toList = [] := by
  rw [Lib.toList_data]
  intro q
  have : s.size = 0 := by rw [← len_data, q]; rfl
  omega
theorem toL_isE {s : ByteArray} (h : 0 < s.size) : s.toList.isEmpty = false := by
  have := toL_ne h
  cases e : s.toList with
  | nil => exact absurd e this
  | cons _ _ => rfl
theorem ret_intL {k : IntKind} {a b : Int} (h : a = b) : Ending.returned (.int k a) = .returned (.int k b) := by rw [h]
theorem part0_1 (x : UInt8) : part0 x = (!decide (x.toNat = 39) && part1 x) := by
  unfold part1
  by_cases h : x.toNat = 39
  · have : part0 x = false := by unfold part0; rw [sm_no (by omega), lg_no (by omega), dg_no (by omega)]; simp [h]
    rw [this]; simp [h]
  · simp [h]
theorem tvarL_cons2 (c d : UInt8) (r : List UInt8) : tvarL (c :: d :: r) = (decide (c.toNat = 39) && isSm d && r.all part0) := rfl
theorem wordL_hd {c : UInt8} {r : List UInt8} : wordL (c :: r) = ((isSm c || isLg c) && r.all part1) := rfl
set_option maxRecDepth 100000 in
set_option maxHeartbeats 4000000 in
theorem ref_word (s : ByteArray) (hs : s.size ≤ 140737488351232) (w : World) :
    Calls Tryd.prog 17 #[.string s] w fun e w' => e = .returned (.bool (wordL s.data.toList)) ∧ w' = w := by
  by_cases h0 : s.size = 0
  · have hl : s.data.toList = [] := by have := drop_end s (k := 0) (by omega); simpa using this
    rw [hl]
    have he := toL_empty h0
    go_enter Tryd.func17, Tryd.ntmps17
    go_wp2_with fail
    go_ret
    exact ⟨rfl, rfl⟩
  have hpos : 0 < s.size := by omega
  have hne := toL_isE hpos
  have hl : s.data.toList = s[0] :: s.data.toList.drop 1 := by have := drop_cons s hpos; simpa using this
  have HS := Lib.hid (btw_sm s[0])
  have HL := Lib.hid (btw_lg s[0])
  obtain ⟨x, hx⟩ : ∃ x, isSm s[0] = x := ⟨_, rfl⟩
  obtain ⟨y, hy⟩ : ∃ y, isLg s[0] = y := ⟨_, rfl⟩
  obtain ⟨res, hr⟩ : ∃ res, wordL s.data.toList = res := ⟨_, rfl⟩
  have hr2 := hr
  rw [hl, wordL_hd, hx, hy] at hr2
  rw [hr]
  rw [hx] at HS
  rw [hy] at HL
  have HR := Lib.hid hr2
  clear hr hl hx hy hr2 h0
  have hxy : (x = false ∧ y = false) ∨ (x = true ∨ x = false ∧ y = true) := by cases x <;> cases y <;> simp
  rcases hxy with ⟨rfl, rfl⟩ | hxy
  · go_enter Tryd.func17, Tryd.ntmps17
    go_wp2_with fail
    refine (HS.out _).mono ?_
    rintro e w1 ⟨rfl, hw1⟩
    subst w1
    go_wp2_with fail
    refine (HL.out _).mono ?_
    rintro e w1 ⟨rfl, hw1⟩
    subst w1
    go_wp2_with fail
    go_ret
    exact ⟨by rw [← HR.out]; rfl, rfl⟩
  · have HA := Lib.hid (show (s.data.toList.drop 1).all part1 = res from by
      have := HR.out
      rcases hxy with rfl | ⟨rfl, rfl⟩ <;> simpa using this)
    rcases hxy with rfl | ⟨rfl, rfl⟩
    all_goals
      go_enter Tryd.func17, Tryd.ntmps17
      go_wp2_with fail
      refine (HS.out _).mono ?_
      rintro e w1 ⟨rfl, hw1⟩
      subst w1
      try (go_wp2_with fail; refine (HL.out _).mono ?_; rintro e w1 ⟨rfl, hw1⟩; subst w1)
      go_wp2_with fail
      go_loop [3] (fun i => ∃ k : Nat, 1 ≤ k ∧ k ≤ s.size ∧ i = .int .i64 k ∧ (s.data.toList.drop k).all part1 = res) (fun i => s.size - (intOf i).toNat)
      case atStart => exact ⟨1, Nat.le_refl _, hpos, rfl, HA.out⟩
      case round =>
        obtain ⟨k, hk1, hk, rfl, hres⟩ := hrel
        by_cases hlt : k < s.size
        · rw [drop_cons s hlt, List.all_cons] at hres
          have HP := Lib.hid (ref_part s[k])
          obtain ⟨z, hz⟩ : ∃ z, part1 s[k] = z := ⟨_, rfl⟩
          rw [hz] at HP hres
          have HRES := Lib.hid hres
          clear hz hres
          cases z
          · go_wp2_with fail
            refine (HP.out _).mono ?_
            rintro e w1 ⟨rfl, hw1⟩
            subst w1
            go_wp2_with fail
            go_ret
            exact ⟨by rw [← HRES.out]; rfl, rfl⟩
          · go_wp2_with fail
            refine (HP.out _).mono ?_
            rintro e w1 ⟨rfl, hw1⟩
            subst w1
            go_wp2_with fail
            go_round
            case rel => exact ⟨k + 1, by omega, by omega, by go_num, by simpa using HRES.out⟩
            case measure => simp [intOf]; omega
        · rw [drop_end s (by omega)] at hres
          have HRES := Lib.hid hres
          clear hres
          go_wp2_with fail
          go_ret
          exact ⟨by rw [← HRES.out]; rfl, rfl⟩
set_option maxRecDepth 100000 in
set_option maxHeartbeats 4000000 in
theorem ref_tvar (s : ByteArray) (hs : s.size ≤ 140737488351232) (w : World) :
    Calls Tryd.prog 53 #[.string s] w fun e w' => e = .returned (.bool (tvarL s.data.toList)) ∧ w' = w := by
  by_cases h2 : s.size < 2
  · have hl : tvarL s.data.toList = false := by
      have h3 := len_data s
      cases hq : s.data.toList with
      | nil => rfl
      | cons c r => cases r with
        | nil => rfl
        | cons d r => rw [hq] at h3; simp at h3; omega
    rw [hl]
    have hd : decide ((s.size : Int) < 2) = true := decide_eq_true (by omega)
    clear hl h2
    go_enter Tryd.func53, Tryd.ntmps53
    go_wp2_with fail
    go_ret
    exact ⟨rfl, rfl⟩
  have hd : decide ((s.size : Int) < 2) = false := decide_eq_false (by omega)
  have h0 : 0 < s.size := by omega
  have h1 : 1 < s.size := by omega
  have hl : s.data.toList = s[0] :: s[1] :: s.data.toList.drop 2 := by
    have e1 := drop_cons s h0
    have e2 := drop_cons s h1
    rw [← e2]
    simpa using e1
  obtain ⟨res, hr⟩ : ∃ res, tvarL s.data.toList = res := ⟨_, rfl⟩
  have hr2 := hr
  rw [hl] at hr2
  rw [hr]
  have HS := Lib.hid (btw_sm s[1])
  obtain ⟨x, hx⟩ : ∃ x, isSm s[1] = x := ⟨_, rfl⟩
  obtain ⟨c, hc⟩ : ∃ c : Int, (s[0].toNat : Int) = c := ⟨_, rfl⟩
  have hr3 : (decide (c = 39) && x && (s.data.toList.drop 2).all part0) = res := by
    rw [← hr2]
    rw [tvarL_cons2, hx, show decide (c = 39) = decide (s[0].toNat = 39) from by rw [decide_eq_decide]; omega]
  rw [hx] at HS
  have HR := Lib.hid hr3
  clear hr hl hx hr2 hr3 h2
  by_cases h39 : c = 39
  · have hB : (((s[0].toNat : Nat) : Int) != 39) = false := by rw [hc]; simp [h39]
    cases x
    · have HR2 := Lib.hid (show res = false from by have := HR.out; simpa using this.symm)
      clear h39 hc
      go_enter Tryd.func53, Tryd.ntmps53
      go_wp2_with fail
      refine (HS.out _).mono ?_
      rintro e w1 ⟨rfl, hw1⟩
      subst w1
      go_wp2_with fail
      go_ret
      exact ⟨by rw [HR2.out]; rfl, rfl⟩
    · have HA := Lib.hid (show (s.data.toList.drop 2).all part0 = res from by have := HR.out; rw [decide_eq_true h39] at this; simpa using this)
      clear h39 hc
      go_enter Tryd.func53, Tryd.ntmps53
      go_wp2_with fail
      refine (HS.out _).mono ?_
      rintro e w1 ⟨rfl, hw1⟩
      subst w1
      go_wp2_with fail
      go_loop [3] (fun i => ∃ k : Nat, 2 ≤ k ∧ k ≤ s.size ∧ i = .int .i64 k ∧ (s.data.toList.drop k).all part0 = res) (fun i => s.size - (intOf i).toNat)
      case atStart => exact ⟨2, Nat.le_refl _, h1, rfl, HA.out⟩
      case round =>
        obtain ⟨k, hk1, hk, rfl, hres⟩ := hrel
        by_cases hlt : k < s.size
        · rw [drop_cons s hlt, List.all_cons, part0_1] at hres
          have HP := Lib.hid (ref_part s[k])
          obtain ⟨z, hz⟩ : ∃ z, part1 s[k] = z := ⟨_, rfl⟩
          rw [hz] at HP hres
          by_cases h39 : s[k].toNat = 39
          · have hB : (((s[k].toNat : Nat) : Int) == 39) = true := by simp; omega
            rw [decide_eq_true h39] at hres
            have HRES := Lib.hid hres
            clear hz hres h39
            go_wp2_with fail
            go_ret
            exact ⟨by rw [← HRES.out]; rfl, rfl⟩
          · have hB : (((s[k].toNat : Nat) : Int) == 39) = false := by simp; omega
            rw [decide_eq_false h39] at hres
            have HRES := Lib.hid hres
            clear hz hres h39
            cases z
            · go_wp2_with fail
              refine (HP.out _).mono ?_
              rintro e w1 ⟨rfl, hw1⟩
              subst w1
              go_wp2_with fail
              go_ret
              exact ⟨by rw [← HRES.out]; rfl, rfl⟩
            · go_wp2_with fail
              refine (HP.out _).mono ?_
              rintro e w1 ⟨rfl, hw1⟩
              subst w1
              go_wp2_with fail
              go_round
              case rel => exact ⟨k + 1, by omega, by omega, by go_num, by simpa using HRES.out⟩
              case measure => simp [intOf]; omega
        · rw [drop_end s (by omega)] at hres
          have HRES := Lib.hid hres
          clear hres
          go_wp2_with fail
          go_ret
          exact ⟨by rw [← HRES.out]; rfl, rfl⟩
  · have hB : (((s[0].toNat : Nat) : Int) != 39) = true := by rw [hc]; simp [h39]
    have HR2 := Lib.hid (show res = false from by have := HR.out; rw [decide_eq_false h39] at this; simpa using this.symm)
    clear h39 hc
    go_enter Tryd.func53, Tryd.ntmps53
    go_wp2_with fail
    go_ret
    exact ⟨by rw [HR2.out]; rfl, rfl⟩
set_option maxRecDepth 100000 in
set_option maxHeartbeats 4000000 in
theorem ref_digits (s : ByteArray) (hs : s.size ≤ 140737488351232) (w : World) :
    Calls Tryd.prog 47 #[.string s] w fun e w' => e = .returned (.int .i64 (Go.Proofs.YtphhokpbkcdljaaDoor.run isDg s.data.toList : Nat)) ∧ w' = w := by
  obtain ⟨res, hr⟩ : ∃ res, Go.Proofs.YtphhokpbkcdljaaDoor.run isDg s.data.toList = res := ⟨_, rfl⟩
  rw [hr]
  have HR := Lib.hid hr
  clear hr
  go_enter Tryd.func47, Tryd.ntmps47
  go_wp2_with fail
  go_loop [3] (fun i => ∃ k : Nat, k ≤ s.size ∧ i = .int .i64 k ∧ k + Go.Proofs.YtphhokpbkcdljaaDoor.run isDg (s.data.toList.drop k) = res) (fun i => s.size - (intOf i).toNat)
  case atStart => exact ⟨0, Nat.zero_le _, rfl, by simpa using HR.out⟩
  case round =>
    obtain ⟨k, hk, rfl, hres⟩ := hrel
    by_cases hlt : k < s.size
    · rw [drop_cons s hlt, run_cons] at hres
      have HP := Lib.hid (btw_dg s[k])
      obtain ⟨z, hz⟩ : ∃ z, isDg s[k] = z := ⟨_, rfl⟩
      rw [hz] at HP hres
      have hB : decide ((k : Int) < (s.size : Int)) = true := decide_eq_true (by omega)
      have HRES := Lib.hid hres
      clear hz hres
      cases z
      · go_wp2_with fail
        refine (HP.out _).mono ?_
        rintro e w1 ⟨rfl, hw1⟩
        subst w1
        go_wp2_with fail
        go_ret
        exact ⟨ret_intL (by have := HRES.out; simp at this; omega), rfl⟩
      · go_wp2_with fail
        refine (HP.out _).mono ?_
        rintro e w1 ⟨rfl, hw1⟩
        subst w1
        go_wp2_with fail
        go_round
        case rel => exact ⟨k + 1, by omega, by go_num, by have := HRES.out; simp at this; omega⟩
        case measure => simp [intOf]; omega
    · rw [drop_end s (by omega)] at hres
      have hB : decide ((k : Int) < (s.size : Int)) = false := decide_eq_false (by omega)
      have HRES := Lib.hid hres
      clear hres
      go_wp2_with fail
      go_ret
      exact ⟨ret_intL (by have := HRES.out; simp [Go.Proofs.YtphhokpbkcdljaaDoor.run] at this; omega), rfl⟩
end Go.Proofs.YtphhokpbkcdljaaDoor
