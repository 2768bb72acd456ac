/- Contracts of the document's leaf functions on bytes and words: each only computes. Conditions: texts within the reach. Contracts of the document's Word, TypeVar, digits, digit16 and Sign: each only computes. Conditions: texts within the reach. Contracts of the document's digit16 and Sign: each only computes. Conditions: texts within the reach. Contracts of the document's Number, Has, Keys, Signs and WordKind. Conditions: texts within the reach. Contracts of the document's Keys, Signs and WordKind. Conditions: texts within the reach. Contracts of the document's WordKind and Quoted. Conditions: texts within the reach. The contract of the document's Quoted. Condition: the text has no more than a million bytes. The contract of the document's Token: the token whose text is just this one. Condition: the text has no more than a million bytes. The contracts of the document's Longest, comment and Blank. Condition: the text has no more than a million bytes. -/
import Derived.WalkKit
import Derived.Outline
import Derived.Lib.Hide
import Derived.IntWalk
import Derived.WalkLawsBesides
import Derived.WalkSpells
import Derived.Deep.QuietTactic
import Derived.BigQuiet
import Derived.Test.YtphhokpbkcdljaaDoorLexOne
import Derived.Test.YtphhokpbkcdljaaDoorProg
import Derived.Lib.IndexBytes
import Derived.Below
import Derived.Laws.MakeOwn
import Derived.Lib.AppendStr
import Derived.OwnWalk
import Derived.Maps.AppendAt
import Derived.Test.YtphhokpbkcdljaaDoorRefPackAll
import Derived.Lib.PathFns
namespace Go.Proofs.YtphhokpbkcdljaaDoor
open Go Go.RowKit
def btwB (c lo hi : Nat) : Bool := decide (lo ≤ c) && decide (c ≤ hi)
theorem ref_between (c lo hi : Nat) (w : World) :
    Calls Tryd.prog 26 #[.int .u8 (c : Int), .int .u8 (lo : Int), .int .u8 (hi : Int)] w fun e w' => e = .returned (.bool (btwB c lo hi)) ∧ w' = w := by
  unfold btwB
  by_cases h3 : lo ≤ c
  · have a1 : decide ((lo : Int) ≤ (c : Int)) = true := decide_eq_true (by omega)
    rw [decide_eq_true h3]
    by_cases h4 : c ≤ hi
    · have a2 : decide ((c : Int) ≤ (hi : Int)) = true := decide_eq_true (by omega)
      rw [decide_eq_true h4]
      go_enter Tryd.func26, Tryd.ntmps26
      go_wp2
      go_ret
      exact ⟨rfl, rfl⟩
    · have a2 : decide ((c : Int) ≤ (hi : Int)) = false := decide_eq_false (by omega)
      have h5 : hi < c := by omega
      rw [decide_eq_false h4]
      go_enter Tryd.func26, Tryd.ntmps26
      go_wp2
      go_ret
      exact ⟨rfl, rfl⟩
  · have a1 : decide ((lo : Int) ≤ (c : Int)) = false := decide_eq_false (by omega)
    have h5 : c < lo := by omega
    rw [decide_eq_false h3]
    go_enter Tryd.func26, Tryd.ntmps26
    go_wp2
    go_ret
    exact ⟨rfl, rfl⟩
theorem btw_sm (c : UInt8) (w : World) : Calls Tryd.prog 26 #[.int .u8 (c.toNat : Int), .int .u8 97, .int .u8 122] w fun e w' => e = .returned (.bool (isSm c)) ∧ w' = w :=
  ref_between c.toNat 97 122 w
theorem btw_lg (c : UInt8) (w : World) : Calls Tryd.prog 26 #[.int .u8 (c.toNat : Int), .int .u8 65, .int .u8 90] w fun e w' => e = .returned (.bool (isLg c)) ∧ w' = w :=
  ref_between c.toNat 65 90 w
theorem btw_dg (c : UInt8) (w : World) : Calls Tryd.prog 26 #[.int .u8 (c.toNat : Int), .int .u8 48, .int .u8 57] w fun e w' => e = .returned (.bool (isDg c)) ∧ w' = w :=
  ref_between c.toNat 48 57 w
theorem btw_af (c : UInt8) (w : World) : Calls Tryd.prog 26 #[.int .u8 (c.toNat : Int), .int .u8 65, .int .u8 70] w fun e w' => e = .returned (.bool (btwB c.toNat 65 70)) ∧ w' = w :=
  ref_between c.toNat 65 70 w
set_option maxHeartbeats 4000000 in
theorem ref_part (c : UInt8) (w : World) : Calls Tryd.prog 27 #[.int .u8 (c.toNat : Int)] w fun e w' => e = .returned (.bool (part1 c)) ∧ w' = w := by
  have HS := Lib.hid (btw_sm c)
  have HL := Lib.hid (btw_lg c)
  have HD := Lib.hid (btw_dg c)
  have hc := c.toNat_lt
  unfold part1 part0
  obtain ⟨n, hn⟩ : ∃ n, c.toNat = n := ⟨_, rfl⟩
  rw [hn] at HS HL HD hc ⊢
  obtain ⟨x, hx⟩ : ∃ x, isSm c = x := ⟨_, rfl⟩
  obtain ⟨y, hy⟩ : ∃ y, isLg c = y := ⟨_, rfl⟩
  obtain ⟨z, hz⟩ : ∃ z, isDg c = z := ⟨_, rfl⟩
  rw [hx] at HS ⊢
  rw [hy] at HL ⊢
  rw [hz] at HD ⊢
  clear hx hy hz hn
  cases x
  · cases y
    · cases z
      · by_cases h95 : n = 95
        · have b1 : ((n : Int) == 95) = true := by simp; omega
          rw [decide_eq_true h95]
          clear h95
          go_enter Tryd.func27, Tryd.ntmps27
          go_wp2_with fail
          refine (HS.out _).mono ?_
          rintro e w1 ⟨rfl, rfl⟩
          go_wp2_with fail
          refine (HL.out _).mono ?_
          rintro e w2 ⟨rfl, rfl⟩
          go_wp2_with fail
          refine (HD.out _).mono ?_
          rintro e w3 ⟨rfl, rfl⟩
          go_wp2_with fail
          go_ret
          exact ⟨rfl, rfl⟩
        · have b1 : ((n : Int) == 95) = false := by simp; omega
          have b2 : decide (n = 39) = ((n : Int) == 39) := by rw [Bool.eq_iff_iff]; simp; omega
          rw [decide_eq_false h95, b2]
          clear h95
          clear b2
          go_enter Tryd.func27, Tryd.ntmps27
          go_wp2_with fail
          refine (HS.out _).mono ?_
          rintro e w1 ⟨rfl, rfl⟩
          go_wp2_with fail
          refine (HL.out _).mono ?_
          rintro e w2 ⟨rfl, rfl⟩
          go_wp2_with fail
          refine (HD.out _).mono ?_
          rintro e w3 ⟨rfl, rfl⟩
          go_wp2_with fail
          go_ret
          exact ⟨rfl, rfl⟩
      · go_enter Tryd.func27, Tryd.ntmps27
        go_wp2_with fail
        refine (HS.out _).mono ?_
        rintro e w1 ⟨rfl, rfl⟩
        go_wp2_with fail
        refine (HL.out _).mono ?_
        rintro e w2 ⟨rfl, rfl⟩
        go_wp2_with fail
        refine (HD.out _).mono ?_
        rintro e w3 ⟨rfl, rfl⟩
        go_wp2_with fail
        go_ret
        exact ⟨rfl, rfl⟩
    · go_enter Tryd.func27, Tryd.ntmps27
      go_wp2_with fail
      refine (HS.out _).mono ?_
      rintro e w1 ⟨rfl, rfl⟩
      go_wp2_with fail
      refine (HL.out _).mono ?_
      rintro e w2 ⟨rfl, rfl⟩
      go_wp2_with fail
      go_ret
      exact ⟨rfl, rfl⟩
  · go_enter Tryd.func27, Tryd.ntmps27
    go_wp2_with fail
    refine (HS.out _).mono ?_
    rintro e w1 ⟨rfl, rfl⟩
    go_wp2_with fail
    go_ret
    exact ⟨rfl, rfl⟩
end Go.Proofs.YtphhokpbkcdljaaDoor
namespace Go.Proofs.YtphhokpbkcdljaaDoor
open Go Go.RowKit
theorem drop_cons (s : ByteArray) {k : Nat} (h : k < s.size) : s.data.toList.drop k = s[k] :: s.data.toList.drop (k + 1) := by
  rw [List.drop_eq_getElem_cons (by simpa using h)]; rfl
theorem drop_end (s : ByteArray) {k : Nat} (h : s.size ≤ k) : s.data.toList.drop k = [] := List.drop_eq_nil_of_le (by simpa using h)
theorem len_data (s : ByteArray) : s.data.toList.length = s.size := by simp
theorem toL_empty {s : ByteArray} (h : s.size = 0) : s.toList = [] := by
  rw [Lib.toList_data]
  exact List.eq_nil_of_length_eq_zero (by rw [len_data]; exact h)
theorem toL_ne {s : ByteArray} (h : 0 < s.size) : ¬ s.toList = [] := by
  rw [Lib.toList_data]
  intro q
  have : s.size = 0 := by rw [← len_data, q]; rfl
  omega
theorem toL_isE {s : ByteArray} (h : 0 < s.size) : s.toList.isEmpty = false := by
  have := toL_ne h
  cases e : s.toList with
  | nil => exact absurd e this
  | cons _ _ => rfl
theorem ret_intL {k : IntKind} {a b : Int} (h : a = b) : Ending.returned (.int k a) = .returned (.int k b) := by rw [h]
theorem part0_1 (x : UInt8) : part0 x = (!decide (x.toNat = 39) && part1 x) := by
  unfold part1
  by_cases h : x.toNat = 39
  · have : part0 x = false := by unfold part0; rw [sm_no (by omega), lg_no (by omega), dg_no (by omega)]; simp [h]
    rw [this]; simp [h]
  · simp [h]
theorem tvarL_cons2 (c d : UInt8) (r : List UInt8) : tvarL (c :: d :: r) = (decide (c.toNat = 39) && isSm d && r.all part0) := rfl
theorem wordL_hd {c : UInt8} {r : List UInt8} : wordL (c :: r) = ((isSm c || isLg c) && r.all part1) := rfl
set_option maxRecDepth 100000 in
set_option maxHeartbeats 4000000 in
theorem ref_word (s : ByteArray) (hs : s.size ≤ 140737488351232) (w : World) :
    Calls Tryd.prog 17 #[.string s] w fun e w' => e = .returned (.bool (wordL s.data.toList)) ∧ w' = w := by
  by_cases h0 : s.size = 0
  · have hl : s.data.toList = [] := by have := drop_end s (k := 0) (by omega); simpa using this
    rw [hl]
    have he := toL_empty h0
    go_enter Tryd.func17, Tryd.ntmps17
    go_wp2_with fail
    go_ret
    exact ⟨rfl, rfl⟩
  have hpos : 0 < s.size := by omega
  have hne := toL_isE hpos
  have hl : s.data.toList = s[0] :: s.data.toList.drop 1 := by have := drop_cons s hpos; simpa using this
  have HS := Lib.hid (btw_sm s[0])
  have HL := Lib.hid (btw_lg s[0])
  obtain ⟨x, hx⟩ : ∃ x, isSm s[0] = x := ⟨_, rfl⟩
  obtain ⟨y, hy⟩ : ∃ y, isLg s[0] = y := ⟨_, rfl⟩
  obtain ⟨res, hr⟩ : ∃ res, wordL s.data.toList = res := ⟨_, rfl⟩
  have hr2 := hr
  rw [hl, wordL_hd, hx, hy] at hr2
  rw [hr]
  rw [hx] at HS
  rw [hy] at HL
  have HR := Lib.hid hr2
  clear hr hl hx hy hr2 h0
  have hxy : (x = false ∧ y = false) ∨ (x = true ∨ x = false ∧ y = true) := by cases x <;> cases y <;> simp
  rcases hxy with ⟨rfl, rfl⟩ | hxy
  · go_enter Tryd.func17, Tryd.ntmps17
    go_wp2_with fail
    refine (HS.out _).mono ?_
    rintro e w1 ⟨rfl, hw1⟩
    subst w1
    go_wp2_with fail
    refine (HL.out _).mono ?_
    rintro e w1 ⟨rfl, hw1⟩
    subst w1
    go_wp2_with fail
    go_ret
    exact ⟨by rw [← HR.out]; rfl, rfl⟩
  · have HA := Lib.hid (show (s.data.toList.drop 1).all part1 = res from by
      have := HR.out
      rcases hxy with rfl | ⟨rfl, rfl⟩ <;> simpa using this)
    rcases hxy with rfl | ⟨rfl, rfl⟩
    all_goals
      go_enter Tryd.func17, Tryd.ntmps17
      go_wp2_with fail
      refine (HS.out _).mono ?_
      rintro e w1 ⟨rfl, hw1⟩
      subst w1
      try (go_wp2_with fail; refine (HL.out _).mono ?_; rintro e w1 ⟨rfl, hw1⟩; subst w1)
      go_wp2_with fail
      go_loop [3] (fun i => ∃ k : Nat, 1 ≤ k ∧ k ≤ s.size ∧ i = .int .i64 k ∧ (s.data.toList.drop k).all part1 = res) (fun i => s.size - (intOf i).toNat)
      case atStart => exact ⟨1, Nat.le_refl _, hpos, rfl, HA.out⟩
      case round =>
        obtain ⟨k, hk1, hk, rfl, hres⟩ := hrel
        by_cases hlt : k < s.size
        · rw [drop_cons s hlt, List.all_cons] at hres
          have HP := Lib.hid (ref_part s[k])
          obtain ⟨z, hz⟩ : ∃ z, part1 s[k] = z := ⟨_, rfl⟩
          rw [hz] at HP hres
          have HRES := Lib.hid hres
          clear hz hres
          cases z
          · go_wp2_with fail
            refine (HP.out _).mono ?_
            rintro e w1 ⟨rfl, hw1⟩
            subst w1
            go_wp2_with fail
            go_ret
            exact ⟨by rw [← HRES.out]; rfl, rfl⟩
          · go_wp2_with fail
            refine (HP.out _).mono ?_
            rintro e w1 ⟨rfl, hw1⟩
            subst w1
            go_wp2_with fail
            go_round
            case rel => exact ⟨k + 1, by omega, by omega, by go_num, by simpa using HRES.out⟩
            case measure => simp [intOf]; omega
        · rw [drop_end s (by omega)] at hres
          have HRES := Lib.hid hres
          clear hres
          go_wp2_with fail
          go_ret
          exact ⟨by rw [← HRES.out]; rfl, rfl⟩
set_option maxRecDepth 100000 in
set_option maxHeartbeats 4000000 in
theorem ref_tvar (s : ByteArray) (hs : s.size ≤ 140737488351232) (w : World) :
    Calls Tryd.prog 53 #[.string s] w fun e w' => e = .returned (.bool (tvarL s.data.toList)) ∧ w' = w := by
  by_cases h2 : s.size < 2
  · have hl : tvarL s.data.toList = false := by
      have h3 := len_data s
      cases hq : s.data.toList with
      | nil => rfl
      | cons c r => cases r with
        | nil => rfl
        | cons d r => rw [hq] at h3; simp at h3; omega
    rw [hl]
    have hd : decide ((s.size : Int) < 2) = true := decide_eq_true (by omega)
    clear hl h2
    go_enter Tryd.func53, Tryd.ntmps53
    go_wp2_with fail
    go_ret
    exact ⟨rfl, rfl⟩
  have hd : decide ((s.size : Int) < 2) = false := decide_eq_false (by omega)
  have h0 : 0 < s.size := by omega
  have h1 : 1 < s.size := by omega
  have hl : s.data.toList = s[0] :: s[1] :: s.data.toList.drop 2 := by
    have e1 := drop_cons s h0
    have e2 := drop_cons s h1
    rw [← e2]
    simpa using e1
  obtain ⟨res, hr⟩ : ∃ res, tvarL s.data.toList = res := ⟨_, rfl⟩
  have hr2 := hr
  rw [hl] at hr2
  rw [hr]
  have HS := Lib.hid (btw_sm s[1])
  obtain ⟨x, hx⟩ : ∃ x, isSm s[1] = x := ⟨_, rfl⟩
  obtain ⟨c, hc⟩ : ∃ c : Int, (s[0].toNat : Int) = c := ⟨_, rfl⟩
  have hr3 : (decide (c = 39) && x && (s.data.toList.drop 2).all part0) = res := by
    rw [← hr2]
    rw [tvarL_cons2, hx, show decide (c = 39) = decide (s[0].toNat = 39) from by rw [decide_eq_decide]; omega]
  rw [hx] at HS
  have HR := Lib.hid hr3
  clear hr hl hx hr2 hr3 h2
  by_cases h39 : c = 39
  · have hB : (((s[0].toNat : Nat) : Int) != 39) = false := by rw [hc]; simp [h39]
    cases x
    · have HR2 := Lib.hid (show res = false from by have := HR.out; simpa using this.symm)
      clear h39 hc
      go_enter Tryd.func53, Tryd.ntmps53
      go_wp2_with fail
      refine (HS.out _).mono ?_
      rintro e w1 ⟨rfl, hw1⟩
      subst w1
      go_wp2_with fail
      go_ret
      exact ⟨by rw [HR2.out]; rfl, rfl⟩
    · have HA := Lib.hid (show (s.data.toList.drop 2).all part0 = res from by have := HR.out; rw [decide_eq_true h39] at this; simpa using this)
      clear h39 hc
      go_enter Tryd.func53, Tryd.ntmps53
      go_wp2_with fail
      refine (HS.out _).mono ?_
      rintro e w1 ⟨rfl, hw1⟩
      subst w1
      go_wp2_with fail
      go_loop [3] (fun i => ∃ k : Nat, 2 ≤ k ∧ k ≤ s.size ∧ i = .int .i64 k ∧ (s.data.toList.drop k).all part0 = res) (fun i => s.size - (intOf i).toNat)
      case atStart => exact ⟨2, Nat.le_refl _, h1, rfl, HA.out⟩
      case round =>
        obtain ⟨k, hk1, hk, rfl, hres⟩ := hrel
        by_cases hlt : k < s.size
        · rw [drop_cons s hlt, List.all_cons, part0_1] at hres
          have HP := Lib.hid (ref_part s[k])
          obtain ⟨z, hz⟩ : ∃ z, part1 s[k] = z := ⟨_, rfl⟩
          rw [hz] at HP hres
          by_cases h39 : s[k].toNat = 39
          · have hB : (((s[k].toNat : Nat) : Int) == 39) = true := by simp; omega
            rw [decide_eq_true h39] at hres
            have HRES := Lib.hid hres
            clear hz hres h39
            go_wp2_with fail
            go_ret
            exact ⟨by rw [← HRES.out]; rfl, rfl⟩
          · have hB : (((s[k].toNat : Nat) : Int) == 39) = false := by simp; omega
            rw [decide_eq_false h39] at hres
            have HRES := Lib.hid hres
            clear hz hres h39
            cases z
            · go_wp2_with fail
              refine (HP.out _).mono ?_
              rintro e w1 ⟨rfl, hw1⟩
              subst w1
              go_wp2_with fail
              go_ret
              exact ⟨by rw [← HRES.out]; rfl, rfl⟩
            · go_wp2_with fail
              refine (HP.out _).mono ?_
              rintro e w1 ⟨rfl, hw1⟩
              subst w1
              go_wp2_with fail
              go_round
              case rel => exact ⟨k + 1, by omega, by omega, by go_num, by simpa using HRES.out⟩
              case measure => simp [intOf]; omega
        · rw [drop_end s (by omega)] at hres
          have HRES := Lib.hid hres
          clear hres
          go_wp2_with fail
          go_ret
          exact ⟨by rw [← HRES.out]; rfl, rfl⟩
  · have hB : (((s[0].toNat : Nat) : Int) != 39) = true := by rw [hc]; simp [h39]
    have HR2 := Lib.hid (show res = false from by have := HR.out; rw [decide_eq_false h39] at this; simpa using this.symm)
    clear h39 hc
    go_enter Tryd.func53, Tryd.ntmps53
    go_wp2_with fail
    go_ret
    exact ⟨by rw [HR2.out]; rfl, rfl⟩
set_option maxRecDepth 100000 in
set_option maxHeartbeats 4000000 in
theorem ref_digits (s : ByteArray) (hs : s.size ≤ 140737488351232) (w : World) :
    Calls Tryd.prog 47 #[.string s] w fun e w' => e = .returned (.int .i64 (Go.Proofs.YtphhokpbkcdljaaDoor.run isDg s.data.toList : Nat)) ∧ w' = w := by
  obtain ⟨res, hr⟩ : ∃ res, Go.Proofs.YtphhokpbkcdljaaDoor.run isDg s.data.toList = res := ⟨_, rfl⟩
  rw [hr]
  have HR := Lib.hid hr
  clear hr
  go_enter Tryd.func47, Tryd.ntmps47
  go_wp2_with fail
  go_loop [3] (fun i => ∃ k : Nat, k ≤ s.size ∧ i = .int .i64 k ∧ k + Go.Proofs.YtphhokpbkcdljaaDoor.run isDg (s.data.toList.drop k) = res) (fun i => s.size - (intOf i).toNat)
  case atStart => exact ⟨0, Nat.zero_le _, rfl, by simpa using HR.out⟩
  case round =>
    obtain ⟨k, hk, rfl, hres⟩ := hrel
    by_cases hlt : k < s.size
    · rw [drop_cons s hlt, run_cons] at hres
      have HP := Lib.hid (btw_dg s[k])
      obtain ⟨z, hz⟩ : ∃ z, isDg s[k] = z := ⟨_, rfl⟩
      rw [hz] at HP hres
      have hB : decide ((k : Int) < (s.size : Int)) = true := decide_eq_true (by omega)
      have HRES := Lib.hid hres
      clear hz hres
      cases z
      · go_wp2_with fail
        refine (HP.out _).mono ?_
        rintro e w1 ⟨rfl, hw1⟩
        subst w1
        go_wp2_with fail
        go_ret
        exact ⟨ret_intL (by have := HRES.out; simp at this; omega), rfl⟩
      · go_wp2_with fail
        refine (HP.out _).mono ?_
        rintro e w1 ⟨rfl, hw1⟩
        subst w1
        go_wp2_with fail
        go_round
        case rel => exact ⟨k + 1, by omega, by go_num, by have := HRES.out; simp at this; omega⟩
        case measure => simp [intOf]; omega
    · rw [drop_end s (by omega)] at hres
      have hB : decide ((k : Int) < (s.size : Int)) = false := decide_eq_false (by omega)
      have HRES := Lib.hid hres
      clear hres
      go_wp2_with fail
      go_ret
      exact ⟨ret_intL (by have := HRES.out; simp [Go.Proofs.YtphhokpbkcdljaaDoor.run] at this; omega), rfl⟩
end Go.Proofs.YtphhokpbkcdljaaDoor
namespace Go.Proofs.YtphhokpbkcdljaaDoor
open Go Go.RowKit
def d16I (c : UInt8) : Int := match d16 c with
  | some n => (n : Int)
  | none => -1
theorem d16_bd {c : UInt8} {n : Nat} (h : d16 c = some n) : n < 16 := by
  unfold d16 at h
  split at h
  · rename_i q
    have := dg_bd q
    injection h with h; omega
  · split at h
    · injection h with h; omega
    · cases h
theorem ref_d16 (c : UInt8) (w : World) : Calls Tryd.prog 69 #[.int .u8 (c.toNat : Int)] w fun e w' => e = .returned (.int .i64 (d16I c)) ∧ w' = w := by
  have hc := c.toNat_lt
  have hr : (isDg c = true ∧ d16I c = (c.toNat : Int) - 48) ∨ (isDg c = false ∧ btwB c.toNat 65 70 = true ∧ d16I c = (c.toNat : Int) - 55) ∨ (isDg c = false ∧ btwB c.toNat 65 70 = false ∧ d16I c = -1) := by
    unfold d16I d16
    cases h : isDg c with
    | true =>
      have := dg_bd h
      left
      refine ⟨rfl, ?_⟩
      simp
      omega
    | false =>
      right
      simp only [Bool.false_eq_true, if_false]
      by_cases h2 : 65 ≤ c.toNat ∧ c.toNat ≤ 70
      · left
        refine ⟨by simp, by unfold btwB; simp; omega, ?_⟩
        rw [if_pos h2]
        simp
        omega
      · right
        refine ⟨by simp, by unfold btwB; simp; omega, ?_⟩
        rw [if_neg h2]
  have HD := Lib.hid (btw_dg c)
  have HA := Lib.hid (btw_af c)
  obtain ⟨r, hrr⟩ : ∃ r, d16I c = r := ⟨_, rfl⟩
  obtain ⟨n, hn⟩ : ∃ n : Nat, c.toNat = n := ⟨_, rfl⟩
  rw [hrr] at hr ⊢
  rw [hn] at hr HD HA hc ⊢
  obtain ⟨x, hx⟩ : ∃ x, isDg c = x := ⟨_, rfl⟩
  obtain ⟨y, hy⟩ : ∃ y, btwB n 65 70 = y := ⟨_, rfl⟩
  rw [hx, hy] at hr
  rw [hx] at HD
  rw [hy] at HA
  have h0 : (0 : Int) ≤ n := by omega
  have h1 : (n : Int) ≤ 255 := by omega
  clear hrr hn hx hy
  rcases hr with ⟨rfl, hr⟩ | ⟨rfl, rfl, hr⟩ | ⟨rfl, rfl, hr⟩
  · have HR := Lib.hid hr
    clear hr
    go_enter Tryd.func69, Tryd.ntmps69
    go_wp2_with fail
    refine (HD.out _).mono ?_
    rintro e w1 ⟨rfl, hw1⟩
    subst w1
    go_wp2_with fail
    go_ret
    exact ⟨ret_intL (by rw [HR.out]), rfl⟩
  · have HR := Lib.hid hr
    clear hr
    go_enter Tryd.func69, Tryd.ntmps69
    go_wp2_with fail
    refine (HD.out _).mono ?_
    rintro e w1 ⟨rfl, hw1⟩
    subst w1
    go_wp2_with fail
    refine (HA.out _).mono ?_
    rintro e w1 ⟨rfl, hw1⟩
    subst w1
    go_wp2_with fail
    go_ret
    exact ⟨ret_intL (by rw [HR.out]; omega), rfl⟩
  · have HR := Lib.hid hr
    clear hr
    go_enter Tryd.func69, Tryd.ntmps69
    go_wp2_with fail
    refine (HD.out _).mono ?_
    rintro e w1 ⟨rfl, hw1⟩
    subst w1
    go_wp2_with fail
    refine (HA.out _).mono ?_
    rintro e w1 ⟨rfl, hw1⟩
    subst w1
    go_wp2_with fail
    go_ret
    exact ⟨ret_intL (by rw [HR.out]), rfl⟩
/-- the first sign, as a byte and a length -/
def sgnV (l : List UInt8) : UInt8 × Nat := match sgn l with
  | some x => x
  | none => (0, 0)
theorem sgnV_cons (c : UInt8) (r : List UInt8) : sgnV (c :: r) =
    if c.toNat < 32 ∨ 126 < c.toNat ∨ c.toNat = 34 then (0, 0)
    else if c.toNat ≠ 92 then (c, 1)
    else match r with
      | [] => (0, 0)
      | x :: r =>
        if x.toNat = 34 ∨ x.toNat = 92 then (x, 2)
        else if x.toNat = 110 then (10, 2)
        else if x.toNat = 116 then (9, 2)
        else if x.toNat = 120 then
          match r with
          | y :: z :: _ => match d16 y, d16 z with
            | some a, some b => (UInt8.ofNat (16 * a + b), 4)
            | _, _ => (0, 0)
          | _ => (0, 0)
        else (0, 0) := by
  unfold sgnV
  rw [sgn_cons]
  by_cases h1 : c.toNat < 32 ∨ 126 < c.toNat ∨ c.toNat = 34
  · rw [if_pos h1, if_pos h1]
  rw [if_neg h1, if_neg h1]
  by_cases h2 : c.toNat ≠ 92
  · rw [if_pos h2, if_pos h2]
  rw [if_neg h2, if_neg h2]
  cases r with
  | nil => rfl
  | cons x r =>
    simp only
    by_cases h3 : x.toNat = 34 ∨ x.toNat = 92
    · rw [if_pos h3, if_pos h3]
    rw [if_neg h3, if_neg h3]
    by_cases h4 : x.toNat = 110
    · rw [if_pos h4, if_pos h4]
    rw [if_neg h4, if_neg h4]
    by_cases h5 : x.toNat = 116
    · rw [if_pos h5, if_pos h5]
    rw [if_neg h5, if_neg h5]
    by_cases h6 : x.toNat = 120
    · rw [if_pos h6, if_pos h6]
      cases r with
      | nil => rfl
      | cons y r => cases r with
        | nil => rfl
        | cons z r =>
          simp only
          cases d16 y <;> cases d16 z <;> rfl
    rw [if_neg h6, if_neg h6]
set_option maxRecDepth 100000 in
set_option maxHeartbeats 8000000 in
theorem ref_sign (s : ByteArray) (hs : s.size ≤ 140737488351232) (w : World) :
    Calls Tryd.prog 63 #[.string s] w fun e w' => e = .returned (.tuple #[.int .u8 ((sgnV s.data.toList).1.toNat : Int), .int .i64 ((sgnV s.data.toList).2 : Int)]) ∧ ∃ n, w' = w.drewN n := by
  by_cases h0 : s.size = 0
  · have hl : s.data.toList = [] := by have := drop_end s (k := 0) (by omega); simpa using this
    rw [hl]
    have he := toL_empty h0
    go_enter Tryd.func63, Tryd.ntmps63
    go_wp2_with fail
    go_ret2
    exact ⟨rfl, 0, rfl⟩
  have hpos : 0 < s.size := by omega
  have hne := toL_isE hpos
  have hl : s.data.toList = s[0] :: s.data.toList.drop 1 := by have := drop_cons s hpos; simpa using this
  obtain ⟨V, hV⟩ : ∃ V, sgnV s.data.toList = V := ⟨_, rfl⟩
  have hv := hV
  rw [hl, sgnV_cons] at hv
  rw [hV]
  clear hV hl h0
  have q0 : (0 : Int) ≤ (s[0].toNat : Int) := by omega
  have q1 : (s[0].toNat : Int) ≤ 255 := by have := s[0].toNat_lt; omega
  by_cases a1 : s[0].toNat < 32
  · have b1 : decide (((s[0].toNat : Nat) : Int) < 32) = true := decide_eq_true (by omega)
    rw [if_pos (.inl a1)] at hv
    have HV := Lib.hid hv
    clear hv a1
    go_enter Tryd.func63, Tryd.ntmps63
    go_wp2_with fail
    go_ret2
    exact ⟨by rw [← HV.out]; rfl, 0, rfl⟩
  have b1 : decide (((s[0].toNat : Nat) : Int) < 32) = false := decide_eq_false (by omega)
  by_cases a2 : 126 < s[0].toNat
  · have b2 : decide ((126 : Int) < ((s[0].toNat : Nat) : Int)) = true := decide_eq_true (by omega)
    rw [if_pos (.inr (.inl a2))] at hv
    have HV := Lib.hid hv
    clear hv a1 a2
    go_enter Tryd.func63, Tryd.ntmps63
    go_wp2_with fail
    go_ret2
    exact ⟨by rw [← HV.out]; rfl, 0, rfl⟩
  have b2 : decide ((126 : Int) < ((s[0].toNat : Nat) : Int)) = false := decide_eq_false (by omega)
  by_cases a3 : s[0].toNat = 34
  · have b3 : (((s[0].toNat : Nat) : Int) == 34) = true := by simp; omega
    rw [if_pos (.inr (.inr a3))] at hv
    have HV := Lib.hid hv
    clear hv a1 a2 a3
    go_enter Tryd.func63, Tryd.ntmps63
    go_wp2_with fail
    go_ret2
    exact ⟨by rw [← HV.out]; rfl, 0, rfl⟩
  have b3 : (((s[0].toNat : Nat) : Int) == 34) = false := by simp; omega
  rw [if_neg (by omega)] at hv
  by_cases a4 : s[0].toNat ≠ 92
  · have b4 : (((s[0].toNat : Nat) : Int) != 92) = true := by simp; omega
    rw [if_pos a4] at hv
    have HV := Lib.hid hv
    clear hv a1 a2 a3 a4
    go_enter Tryd.func63, Tryd.ntmps63
    go_wp2_with fail
    go_ret2
    exact ⟨by rw [← HV.out]; rfl, 0, rfl⟩
  have b4 : (((s[0].toNat : Nat) : Int) != 92) = false := by simp; omega
  rw [if_neg a4] at hv
  clear a1 a2 a3 a4
  by_cases h2 : s.size < 2
  · have hd : decide ((s.size : Int) < 2) = true := decide_eq_true (by omega)
    rw [drop_end s (by omega)] at hv
    have HV := Lib.hid hv
    clear hv h2
    go_enter Tryd.func63, Tryd.ntmps63
    go_wp2_with fail
    go_ret2
    exact ⟨by rw [← HV.out]; rfl, 0, rfl⟩
  have hd : decide ((s.size : Int) < 2) = false := decide_eq_false (by omega)
  have h1 : 1 < s.size := by omega
  rw [drop_cons s h1] at hv
  simp only at hv
  have p0 : (0 : Int) ≤ (s[1].toNat : Int) := by omega
  have p1 : (s[1].toNat : Int) ≤ 255 := by have := s[1].toNat_lt; omega
  clear h2
  by_cases a1 : s[1].toNat = 34
  · have c1 : (((s[1].toNat : Nat) : Int) == 34) = true := by simp; omega
    rw [if_pos (.inl a1)] at hv
    have HV := Lib.hid (show V.1.toNat = 34 ∧ V.2 = 2 from by rw [← hv]; exact ⟨a1, rfl⟩)
    clear hv a1
    go_enter Tryd.func63, Tryd.ntmps63
    go_wp2_with fail
    go_ret2
    exact ⟨by rw [HV.out.1, HV.out.2]; rfl, 0, rfl⟩
  have c1 : (((s[1].toNat : Nat) : Int) == 34) = false := by simp; omega
  by_cases a2 : s[1].toNat = 92
  · have c2 : (((s[1].toNat : Nat) : Int) == 92) = true := by simp; omega
    rw [if_pos (.inr a2)] at hv
    have HV := Lib.hid (show V.1.toNat = 92 ∧ V.2 = 2 from by rw [← hv]; exact ⟨a2, rfl⟩)
    clear hv a1 a2
    go_enter Tryd.func63, Tryd.ntmps63
    go_wp2_with fail
    go_ret2
    exact ⟨by rw [HV.out.1, HV.out.2]; rfl, 0, rfl⟩
  have c2 : (((s[1].toNat : Nat) : Int) == 92) = false := by simp; omega
  rw [if_neg (by omega)] at hv
  by_cases a3 : s[1].toNat = 110
  · have c3 : (((s[1].toNat : Nat) : Int) == 110) = true := by simp; omega
    rw [if_pos a3] at hv
    have HV := Lib.hid hv
    clear hv a1 a2 a3
    go_enter Tryd.func63, Tryd.ntmps63
    go_wp2_with fail
    go_ret2
    exact ⟨by rw [← HV.out]; rfl, 0, rfl⟩
  have c3 : (((s[1].toNat : Nat) : Int) == 110) = false := by simp; omega
  rw [if_neg a3] at hv
  by_cases a4 : s[1].toNat = 116
  · have c4 : (((s[1].toNat : Nat) : Int) == 116) = true := by simp; omega
    rw [if_pos a4] at hv
    have HV := Lib.hid hv
    clear hv a1 a2 a3 a4
    go_enter Tryd.func63, Tryd.ntmps63
    go_wp2_with fail
    go_ret2
    exact ⟨by rw [← HV.out]; rfl, 0, rfl⟩
  have c4 : (((s[1].toNat : Nat) : Int) == 116) = false := by simp; omega
  rw [if_neg a4] at hv
  by_cases a5 : s[1].toNat = 120
  · have c5 : (((s[1].toNat : Nat) : Int) == 120) = true := by simp; omega
    rw [if_pos a5] at hv
    clear a1 a2 a3 a4 a5
    by_cases h4 : s.size < 4
    · have he : decide ((4 : Int) ≤ (s.size : Int)) = false := decide_eq_false (by omega)
      have HV := Lib.hid (show V = (0, 0) from by
        rw [← hv]
        cases hq : s.data.toList.drop (1 + 1) with
        | nil => rfl
        | cons y r => cases r with
          | nil => rfl
          | cons z r =>
            have h5 := congrArg List.length hq
            rw [List.length_drop, len_data] at h5
            simp at h5
            omega)
      clear hv h4
      go_enter Tryd.func63, Tryd.ntmps63
      go_wp2_with fail
      go_ret2
      exact ⟨by rw [HV.out]; rfl, 0, rfl⟩
    have he : decide ((4 : Int) ≤ (s.size : Int)) = true := decide_eq_true (by omega)
    have h2 : 2 < s.size := by omega
    have h3 : 3 < s.size := by omega
    rw [drop_cons s h2, drop_cons s h3] at hv
    simp only at hv
    have HY := Lib.hid (ref_d16 s[2])
    have HZ := Lib.hid (ref_d16 s[3])
    unfold d16I at HY HZ
    clear h4
    cases ey : d16 s[2] with
    | none =>
      rw [ey] at HY hv
      simp only at HY hv
      have HV := Lib.hid hv
      clear hv
      go_enter Tryd.func63, Tryd.ntmps63
      go_wp2_with fail
      refine (HY.out _).mono ?_
      rintro e w1 ⟨rfl, hw1⟩
      subst w1
      go_wp2_with fail
      go_ret2
      exact ⟨by rw [← HV.out]; rfl, 0, rfl⟩
    | some a =>
      rw [ey] at HY hv
      simp only at HY
      have ha := d16_bd ey
      have hg1 : decide ((0 : Int) ≤ (a : Int)) = true := decide_eq_true (by omega)
      cases ez : d16 s[3] with
      | none =>
        rw [ez] at HZ hv
        simp only at HZ hv
        have HV := Lib.hid hv
        clear hv
        go_enter Tryd.func63, Tryd.ntmps63
        go_wp2_with fail
        refine (HY.out _).mono ?_
        rintro e w1 ⟨rfl, hw1⟩
        subst w1
        go_wp2_with fail
        refine (HZ.out _).mono ?_
        rintro e w1 ⟨rfl, hw1⟩
        subst w1
        go_wp2_with fail
        go_ret2
        exact ⟨by rw [← HV.out]; rfl, 0, rfl⟩
      | some b =>
        rw [ez] at HZ hv
        simp only at HZ hv
        have hb := d16_bd ez
        have hg2 : decide ((0 : Int) ≤ (b : Int)) = true := decide_eq_true (by omega)
        have HV := Lib.hid (show V.1.toNat = 16 * a + b ∧ V.2 = 4 from by
          rw [← hv]
          refine ⟨?_, rfl⟩
          show (UInt8.ofNat (16 * a + b)).toNat = _
          rw [UInt8.toNat_ofNat']
          omega)
        have s1 : IntKind.i64.wrap (16 * (a : Int)) = 16 * (a : Int) := by rw [IntKind.wrap_i64]; omega
        have s2 : IntKind.i64.wrap (16 * (a : Int) + (b : Int)) = 16 * (a : Int) + (b : Int) := by rw [IntKind.wrap_i64]; omega
        have s3 : IntKind.u8.wrap (16 * (a : Int) + (b : Int)) = 16 * (a : Int) + (b : Int) := by rw [IntKind.wrap_u8]; omega
        have HYQ := Lib.hid (fun q => (HY.out (w.drewN q)))
        have HZQ := Lib.hid (fun q => (HZ.out (w.drewN q)))
        clear hv ey ez
        go_enter Tryd.func63, Tryd.ntmps63
        go_wp2_with fail
        refine (HY.out _).mono ?_
        rintro e w1 ⟨rfl, hw1⟩
        subst w1
        go_wp2_with fail
        refine (HZ.out _).mono ?_
        rintro e w1 ⟨rfl, hw1⟩
        subst w1
        go_wp2_with fail
        go_quiet ((first | (go_at_call 69; with_reducible exact Calls.quiet_of_same (HYQ.out _)) | (go_at_call 69; with_reducible exact Calls.quiet_of_same (HZQ.out _))))
        go_wp2_with fail
        go_ret2
        exact ⟨by rw [HV.out.1, HV.out.2]; rfl, _, rfl⟩
  have c5 : (((s[1].toNat : Nat) : Int) == 120) = false := by simp; omega
  rw [if_neg a5] at hv
  have HV := Lib.hid hv
  clear hv a1 a2 a3 a4 a5
  go_enter Tryd.func63, Tryd.ntmps63
  go_wp2_with fail
  go_ret2
  exact ⟨by rw [← HV.out]; rfl, 0, rfl⟩
end Go.Proofs.YtphhokpbkcdljaaDoor
namespace Go.Proofs.YtphhokpbkcdljaaDoor
open Go Go.RowKit
theorem dvl_snoc (l : List UInt8) (c : UInt8) : dvl (l ++ [c]) = dvl l * 10 + (c.toNat - 48) := by simp [dvl]
theorem dvl_le (l m : List UInt8) : dvl l ≤ dvl (l ++ m) := by
  induction m generalizing l with
  | nil => simp
  | cons c m ih =>
    have h1 := ih (l ++ [c])
    rw [List.append_assoc, List.singleton_append] at h1
    have h2 := dvl_snoc l c
    omega
theorem take_snocB (s : ByteArray) {k : Nat} (h : k < s.size) : s.data.toList.take (k + 1) = s.data.toList.take k ++ [s[k]] := by
  rw [List.take_succ_eq_append_getElem (by simpa using h)]; rfl
theorem dvl_take_le (s : ByteArray) (k : Nat) : dvl (s.data.toList.take k) ≤ dvl s.data.toList := by
  have := dvl_le (s.data.toList.take k) (s.data.toList.drop k)
  rwa [List.take_append_drop] at this
/-- a number, and whether it is one -/
def numV (l : List UInt8) : Nat × Bool := match numL l with
  | some n => (n, true)
  | none => (0, false)
theorem numV_no {s : ByteArray} {k : Nat} (h : k < s.size) (hd : isDg s[k] = false) : numV s.data.toList = (0, false) := by
  unfold numV numL
  rw [if_neg]
  rintro ⟨_, h2, _⟩
  have : isDg s[k] = true := by
    refine List.all_eq_true.1 h2 _ ?_
    have := List.getElem_mem (l := s.data.toList) (n := k) (by simpa using h)
    exact this
  rw [hd] at this; cases this
theorem numV_big {s : ByteArray} {k : Nat} (h : maxI < dvl (s.data.toList.take k)) : numV s.data.toList = (0, false) := by
  unfold numV numL
  rw [if_neg]
  rintro ⟨_, _, h3⟩
  have := dvl_take_le s k
  omega
set_option maxRecDepth 100000 in
set_option maxHeartbeats 8000000 in
theorem ref_number (s : ByteArray) (hs : s.size ≤ 140737488351232) (w : World) :
    Calls Tryd.prog 50 #[.string s] w fun e w' => e = .returned (.tuple #[.int .i64 ((numV s.data.toList).1 : Int), .bool (numV s.data.toList).2]) ∧ w' = w := by
  obtain ⟨V, hV⟩ : ∃ V, numV s.data.toList = V := ⟨_, rfl⟩
  rw [hV]
  have HV := Lib.hid hV
  clear hV
  go_enter Tryd.func50, Tryd.ntmps50
  go_wp2_with fail
  go_loop [4, 5] (fun n i => ∃ k v : Nat, k ≤ s.size ∧ i = .int .i64 k ∧ n = .int .i64 (v : Int) ∧ v ≤ maxI ∧ dvl (s.data.toList.take k) = v ∧ (s.data.toList.take k).all isDg = true) (fun _ i => s.size - (intOf i).toNat)
  case atStart => exact ⟨0, 0, Nat.zero_le _, rfl, rfl, Nat.zero_le _, rfl, rfl⟩
  case round =>
    obtain ⟨k, v, hk, rfl, rfl, hvm, hdv, hall⟩ := hrel
    unfold maxI at hvm
    by_cases hlt : k < s.size
    · have HD := Lib.hid (btw_dg s[k])
      cases hz : isDg s[k] with
      | false =>
        rw [hz] at HD
        have HR := Lib.hid (numV_no hlt hz)
        clear hz hdv hall
        go_wp2_with fail
        refine (HD.out _).mono ?_
        rintro e w1 ⟨rfl, hw1⟩
        subst w1
        go_wp2_with fail
        go_ret2
        exact ⟨by rw [← HV.out, HR.out]; rfl, rfl⟩
      | true =>
        rw [hz] at HD
        have hb := dg_bd hz
        have h48 : (48 : Int) ≤ (s[k].toNat : Int) := by omega
        have h57 : (s[k].toNat : Int) ≤ 57 := by omega
        have hsn := take_snocB s hlt
        have hdn := dvl_snoc (s.data.toList.take k) s[k]
        rw [← hsn, hdv] at hdn
        have hal2 : (s.data.toList.take (k + 1)).all isDg = true := by rw [hsn, List.all_append, hall]; simp [hz]
        have HAL := Lib.hid hal2
        have HDN := Lib.hid hdn
        have hq : v * 10 + (s[k].toNat - 48) ≤ 46116860184274042000 := by omega
        clear hz hdv hall hsn hal2 hdn
        by_cases hbig : maxI < v * 10 + (s[k].toNat - 48)
        · have hB : decide ((4611686018427387903 - ((s[k].toNat : Int) - 48)) / 10 < (v : Int)) = true := decide_eq_true (by unfold maxI at hbig; omega)
          have HR := Lib.hid (numV_big (s := s) (k := k + 1) (by rw [HDN.out]; exact hbig))
          clear hbig hq hb
          go_wp2_with fail
          refine (HD.out _).mono ?_
          rintro e w1 ⟨rfl, hw1⟩
          subst w1
          go_wp2_with fail
          go_ret2
          exact ⟨by rw [← HV.out, HR.out]; rfl, rfl⟩
        · have hB : decide ((4611686018427387903 - ((s[k].toNat : Int) - 48)) / 10 < (v : Int)) = false := decide_eq_false (by unfold maxI at hbig; omega)
          have hle : v * 10 + (s[k].toNat - 48) ≤ 4611686018427387903 := by unfold maxI at hbig; omega
          have hlei : (v : Int) * 10 + ((s[k].toNat : Int) - 48) ≤ 4611686018427387903 := by omega
          clear hbig hq hb
          go_wp2_with fail
          refine (HD.out _).mono ?_
          rintro e w1 ⟨rfl, hw1⟩
          subst w1
          go_wp2_with fail
          go_round
          case rel => exact ⟨k + 1, v * 10 + (s[k].toNat - 48), hlt, by go_num, congrArg (Value.int .i64) (by omega), by unfold maxI; omega, HDN.out, HAL.out⟩
          case measure => simp [intOf]; omega
    · have hfull : s.data.toList.take k = s.data.toList := List.take_of_length_le (by rw [len_data]; omega)
      rw [hfull] at hdv hall
      by_cases h0 : s.size = 0
      · have hl : s.data.toList = [] := by have := drop_end s (k := 0) (by omega); simpa using this
        have HR := Lib.hid (show numV s.data.toList = (0, false) from by rw [hl]; rfl)
        have hv0 : v = 0 := by rw [← hdv, hl]; rfl
        have he := toL_empty h0
        clear hfull hdv hall hl h0
        subst hv0
        go_wp2_with fail
        go_ret2
        exact ⟨by rw [← HV.out, HR.out]; rfl, rfl⟩
      · have HR := Lib.hid (show numV s.data.toList = (v, true) from by
          unfold numV numL
          rw [if_pos ⟨fun q => h0 (by rw [← len_data, q]; rfl), hall, by rw [hdv]; unfold maxI; exact hvm⟩, hdv])
        have hne := toL_isE (show 0 < s.size by omega)
        clear hfull hdv hall h0
        go_wp2_with fail
        go_ret2
        exact ⟨by rw [← HV.out, HR.out]; rfl, rfl⟩
/-- a slice of texts as it lies -/
structure SV (w : World) (a : Option Addr) (N : Nat) (ls : List (List UInt8)) : Prop where
  len : ls.length = N
  few : N ≤ 1000
  cell : ∀ (j : Nat) (l : List UInt8), ls[j]? = some l → ∃ g off, a = some ⟨g, off, none⟩ ∧ g < w.heap.size ∧ w.cell? ⟨g, off + j, none⟩ = some (.string ⟨l.toArray⟩)
theorem toL_mk (l : List UInt8) : (⟨l.toArray⟩ : ByteArray).toList = l := by rw [Lib.toList_data]
set_option maxRecDepth 100000 in
set_option maxHeartbeats 4000000 in
theorem ref_has {w : World} {a : Option Addr} {N c : Nat} {ls : List (List UInt8)} (hv : SV w a N ls) (s : ByteArray) :
    Calls Tryd.prog 54 #[.slice a N c, .string s] w fun e w' => e = .returned (.bool (decide (s.data.toList ∈ ls))) ∧ w' = w := by
  have hN := hv.few
  obtain ⟨res, hr⟩ : ∃ res, decide (s.data.toList ∈ ls) = res := ⟨_, rfl⟩
  rw [hr]
  have HV := Lib.hid hv
  have HR := Lib.hid hr
  clear hv hr
  go_enter Tryd.func54, Tryd.ntmps54
  go_wp2_with fail
  go_loop [5] (fun i => ∃ k : Nat, k ≤ N ∧ i = .int .i64 k ∧ decide (s.data.toList ∈ ls.drop k) = res) (fun i => N - (intOf i).toNat)
  case atStart => exact ⟨0, Nat.zero_le _, rfl, by simpa using HR.out⟩
  case round =>
    obtain ⟨k, hk, rfl, hres⟩ := hrel
    by_cases hlt : k < N
    · have hk0 : (0 : Int) ≤ k := by omega
      have hk1 : (k : Int) < N := by omega
      have hlk : k < ls.length := by rw [HV.out.len]; exact hlt
      rw [List.drop_eq_getElem_cons hlk] at hres
      obtain ⟨l, hl⟩ : ∃ l, ls[k] = l := ⟨_, rfl⟩
      rw [hl] at hres
      obtain ⟨g, off, ha, hg, hcl⟩ := HV.out.cell k l (by rw [List.getElem?_eq_getElem hlk, hl])
      subst ha
      by_cases he : l = s.data.toList
      · have hB : (l == s.toList) = true := by rw [Lib.toList_data]; simp [he]
        have HRES := Lib.hid (show true = res from by rw [← hres]; simp [he])
        clear he hl hres
        go_wp2_with fail
        go_ret
        exact ⟨by rw [← HRES.out]; rfl, rfl⟩
      · have hB : (l == s.toList) = false := by rw [Lib.toList_data]; simp [he]
        have HRES := Lib.hid (show decide (s.data.toList ∈ ls.drop (k + 1)) = res from by rw [← hres]; simp [Ne.symm he])
        clear he hl hres
        go_wp2_with fail
        go_round
        case rel => exact ⟨k + 1, by omega, by go_num, HRES.out⟩
        case measure => simp [intOf]; omega
    · rw [List.drop_eq_nil_of_le (by rw [HV.out.len]; omega)] at hres
      have HRES := Lib.hid (show false = res from by rw [← hres]; simp)
      clear hres
      go_wp2_with fail
      go_ret
      exact ⟨by rw [← HRES.out]; rfl, rfl⟩
end Go.Proofs.YtphhokpbkcdljaaDoor
namespace Go.Proofs.YtphhokpbkcdljaaDoor
open Go Go.RowKit
def strsV (ls : List (List UInt8)) : List Value := ls.map fun l => .string ⟨l.toArray⟩
theorem sv_new {w w1 : World} {t : TypeId} {N : Nat} {ls : List (List UInt8)} (hN : ls.length = N) (hf : N ≤ 1000) (h : w1.heap[w.heap.size]? = some (.cells (strsV ls).toArray t (0, 0))) : SV w1 (some ⟨w.heap.size, 0, none⟩) N ls :=
  ⟨hN, hf, fun j l hj => ⟨_, 0, rfl, (Array.getElem?_eq_some_iff.1 h).1, by
    simp only [World.cell?, h]
    simp [strsV, hj]⟩⟩
set_option maxRecDepth 100000 in
set_option maxHeartbeats 4000000 in
theorem ref_keys (w : World) : Calls Tryd.prog 64 #[] w fun e w' => e = .returned (.slice (some ⟨w.heap.size, 0, none⟩) 26 26) ∧ SV w' (some ⟨w.heap.size, 0, none⟩) 26 keysL ∧ Below w.heap.size w w' := by
  go_enter Tryd.func64, Tryd.ntmps64
  go_wp2
  go_ret
  refine ⟨rfl, sv_new (t := 9) rfl (by decide) ?_, ?_⟩
  · exact heap_alloc_new w _
  · exact (Below.refl _ w).alloc (Nat.le_refl _) _
set_option maxRecDepth 100000 in
set_option maxHeartbeats 4000000 in
theorem ref_signs (w : World) : Calls Tryd.prog 55 #[] w fun e w' => e = .returned (.slice (some ⟨w.heap.size, 0, none⟩) 22 22) ∧ SV w' (some ⟨w.heap.size, 0, none⟩) 22 signsL ∧ Below w.heap.size w w' := by
  go_enter Tryd.func55, Tryd.ntmps55
  go_wp2
  go_ret
  refine ⟨rfl, sv_new (t := 9) rfl (by decide) ?_, ?_⟩
  · exact heap_alloc_new w _
  · exact (Below.refl _ w).alloc (Nat.le_refl _) _
end Go.Proofs.YtphhokpbkcdljaaDoor
namespace Go.Proofs.YtphhokpbkcdljaaDoor
open Go Go.RowKit
theorem headD_drop (s : ByteArray) (h : 0 < s.size) : s.data.toList.headD 0 = s[0] := by
  have := drop_cons s h
  rw [List.drop_zero] at this
  rw [this]; rfl
set_option maxRecDepth 100000 in
set_option maxHeartbeats 8000000 in
theorem ref_wordkind (s : ByteArray) (h0 : 0 < s.size) (w : World) :
    Calls Tryd.prog 52 #[.string s] w fun e w' => e = .returned (.int .i64 (kindW s.data.toList : Nat)) ∧ Below w.heap.size w w' := by
  have HK := Lib.hid (ref_keys w)
  have HL := Lib.hid (btw_lg s[0])
  obtain ⟨res, hr⟩ : ∃ res, kindW s.data.toList = res := ⟨_, rfl⟩
  have hr2 := hr
  unfold kindW at hr2
  rw [headD_drop s h0] at hr2
  rw [hr]
  clear hr
  by_cases hk : s.data.toList ∈ keysL
  · rw [if_pos hk] at hr2
    have HR := Lib.hid hr2
    have HH := Lib.hid (fun (W1 : World) (a : Option Addr) (h : SV W1 a 26 keysL) => show Calls _ _ _ W1 (fun e w' => e = .returned (.bool true) ∧ w' = W1) from (ref_has (c := 26) h s).mono fun e w' ⟨h1, h2⟩ => ⟨by rw [h1, decide_eq_true hk], h2⟩)
    clear hk hr2
    go_enter Tryd.func52, Tryd.ntmps52
    go_wp2_with fail
    refine (HK.out).mono ?_
    rintro e w1 ⟨rfl, hsv, hb⟩
    have HB := Lib.hid hb
    have HS := Lib.hid hsv
    clear hb hsv
    go_wp2_with fail
    refine (HH.out _ _ HS.out).mono ?_
    rintro e w1 ⟨rfl, hw1⟩
    subst w1
    go_wp2_with fail
    go_ret
    exact ⟨ret_intL (by rw [← HR.out]; rfl), HB.out⟩
  · rw [if_neg hk] at hr2
    have HH := Lib.hid (fun (W1 : World) (a : Option Addr) (h : SV W1 a 26 keysL) => show Calls _ _ _ W1 (fun e w' => e = .returned (.bool false) ∧ w' = W1) from (ref_has (c := 26) h s).mono fun e w' ⟨h1, h2⟩ => ⟨by rw [h1, decide_eq_false hk], h2⟩)
    have hb : ∀ l : List UInt8, (s.toList == l) = decide (s.data.toList = l) ∧ (l == s.toList) = decide (s.data.toList = l) := fun l => by
      rw [Lib.toList_data]
      refine ⟨by by_cases q : s.data.toList = l <;> simp [q], ?_⟩
      by_cases q : s.data.toList = l
      · rw [q]; simp
      · rw [decide_eq_false q, beq_eq_false_iff_ne]; exact fun e => q e.symm
    have B1 := hb [116, 114, 117, 101]
    have B2 := hb [102, 97, 108, 115, 101]
    have B3 := hb [110, 105, 108]
    clear hb hk
    have hcap : s.data.toList ∈ capsL ↔ s.data.toList = [116, 114, 117, 101] ∨ s.data.toList = [102, 97, 108, 115, 101] ∨ s.data.toList = [110, 105, 108] := by simp [capsL]
    obtain ⟨y, hy⟩ : ∃ y, isLg s[0] = y := ⟨_, rfl⟩
    rw [hy] at HL hr2
    obtain ⟨b1, hb1⟩ : ∃ b, decide (s.data.toList = [116, 114, 117, 101]) = b := ⟨_, rfl⟩
    obtain ⟨b2, hb2⟩ : ∃ b, decide (s.data.toList = [102, 97, 108, 115, 101]) = b := ⟨_, rfl⟩
    obtain ⟨b3, hb3⟩ : ∃ b, decide (s.data.toList = [110, 105, 108]) = b := ⟨_, rfl⟩
    have hres : (if (y || (b1 || (b2 || b3))) = true then 4 else 3) = res := by
      rw [← hr2]
      have : (y || (b1 || (b2 || b3))) = true ↔ (y = true ∨ s.data.toList ∈ capsL) := by
        rw [hcap, ← hb1, ← hb2, ← hb3]
        simp
      by_cases q : (y || (b1 || (b2 || b3))) = true
      · rw [if_pos q, if_pos (this.1 q)]
      · rw [if_neg q, if_neg (fun h => q (this.2 h))]
    rw [hb1] at B1
    rw [hb2] at B2
    rw [hb3] at B3
    obtain ⟨B1, B1'⟩ := B1
    obtain ⟨B2, B2'⟩ := B2
    obtain ⟨B3, B3'⟩ := B3
    have HR := Lib.hid hres
    clear hr2 hy hb1 hb2 hb3 hcap hres
    cases y
    · cases b1
      · cases b2
        · cases b3
          all_goals
            go_enter Tryd.func52, Tryd.ntmps52
            go_wp2_with fail
            refine (HK.out).mono ?_
            rintro e w1 ⟨rfl, hsv, hb⟩
            have HB := Lib.hid hb
            have HS := Lib.hid hsv
            clear hb hsv
            go_wp2_with fail
            refine (HH.out _ _ HS.out).mono ?_
            rintro e w1 ⟨rfl, hw1⟩
            subst w1
            go_wp2_with fail
            refine (HL.out _).mono ?_
            rintro e w1 ⟨rfl, hw1⟩
            subst w1
            go_wp2_with fail
            go_ret
            exact ⟨ret_intL (by rw [← HR.out]; rfl), HB.out⟩
        · go_enter Tryd.func52, Tryd.ntmps52
          go_wp2_with fail
          refine (HK.out).mono ?_
          rintro e w1 ⟨rfl, hsv, hb⟩
          have HB := Lib.hid hb
          have HS := Lib.hid hsv
          clear hb hsv
          go_wp2_with fail
          refine (HH.out _ _ HS.out).mono ?_
          rintro e w1 ⟨rfl, hw1⟩
          subst w1
          go_wp2_with fail
          refine (HL.out _).mono ?_
          rintro e w1 ⟨rfl, hw1⟩
          subst w1
          go_wp2_with fail
          go_ret
          exact ⟨ret_intL (by rw [← HR.out]; rfl), HB.out⟩
      · go_enter Tryd.func52, Tryd.ntmps52
        go_wp2_with fail
        refine (HK.out).mono ?_
        rintro e w1 ⟨rfl, hsv, hb⟩
        have HB := Lib.hid hb
        have HS := Lib.hid hsv
        clear hb hsv
        go_wp2_with fail
        refine (HH.out _ _ HS.out).mono ?_
        rintro e w1 ⟨rfl, hw1⟩
        subst w1
        go_wp2_with fail
        refine (HL.out _).mono ?_
        rintro e w1 ⟨rfl, hw1⟩
        subst w1
        go_wp2_with fail
        go_ret
        exact ⟨ret_intL (by rw [← HR.out]; rfl), HB.out⟩
    · go_enter Tryd.func52, Tryd.ntmps52
      go_wp2_with fail
      refine (HK.out).mono ?_
      rintro e w1 ⟨rfl, hsv, hb⟩
      have HB := Lib.hid hb
      have HS := Lib.hid hsv
      clear hb hsv
      go_wp2_with fail
      refine (HH.out _ _ HS.out).mono ?_
      rintro e w1 ⟨rfl, hw1⟩
      subst w1
      go_wp2_with fail
      refine (HL.out _).mono ?_
      rintro e w1 ⟨rfl, hw1⟩
      subst w1
      go_wp2_with fail
      go_ret
      exact ⟨ret_intL (by rw [← HR.out]; rfl), HB.out⟩
end Go.Proofs.YtphhokpbkcdljaaDoor
namespace Go.Proofs.YtphhokpbkcdljaaDoor
open Go Go.RowKit
theorem drewL {B : Nat} {a w : World} (h : Below B a w) (n : Nat) : Below B a (w.drewN n) := ⟨h.os, h.tape, h.output, h.size, h.block⟩
/-- what Quoted answers -/
def QV (l : List UInt8) (w : World) (e : Ending) (w' : World) : Prop := ((∃ t, quotedL l = some t ∧ e = .returned (.tuple #[.string ⟨t.toArray⟩, .bool true])) ∨ (quotedL l = none ∧ ∃ x : ByteArray, e = .returned (.tuple #[.string x, .bool false]))) ∧ Below w.heap.size w w'
/-- what is left to be read of a quoted text -/
def QR5 (l : List UInt8) (k : Nat) (out : List UInt8) : Option (List UInt8) := match txt (l.drop k) with
  | some y => if y.2 = l.length - k then some (out ++ y.1) else none
  | none => none
theorem txt_cons {l : List UInt8} (h : l.headD 0 ≠ 34) : txt l = match sgn l with
    | none => none
    | some x => (txt (l.drop x.2)).map fun y => (x.1 :: y.1, y.2 + x.2) := by
  rw [txt, if_neg h]
  split
  · rename_i h2; rw [h2]
  · rename_i x h2; rw [h2]
theorem sgn_34 {l : List UInt8} (h : l.headD 0 = 34) : sgn l = none := by
  cases l with
  | nil => simp at h
  | cons c r =>
    have : c = 34 := h
    subst this
    rfl
theorem qr_start {c : UInt8} {r : List UInt8} (h : c.toNat = 34) : QR5 (c :: r) 1 [] = quotedL (c :: r) := by
  unfold QR5
  rw [quotedL_cons, if_pos h]
  simp only [List.drop_one, List.tail_cons, List.length_cons, Nat.add_sub_cancel, List.nil_append]
  rfl
theorem qr_none {l : List UInt8} {k : Nat} {out : List UInt8} (h : sgn (l.drop k) = none) (hk : k + 2 ≤ l.length) : QR5 l k out = none := by
  unfold QR5
  by_cases h34 : (l.drop k).headD 0 = 34
  · rw [txt, if_pos h34]
    simp only
    rw [if_neg (by omega)]
  · rw [txt_cons h34, h]
theorem qr_step {l : List UInt8} {k : Nat} {out : List UInt8} {x : UInt8 × Nat} (h : sgn (l.drop k) = some x) : QR5 l k out = QR5 l (k + x.2) (out ++ [x.1]) := by
  have h34 : (l.drop k).headD 0 ≠ 34 := fun q => by rw [sgn_34 q] at h; cases h
  have hp := sgn_pos h
  rw [List.length_drop] at hp
  unfold QR5
  rw [txt_cons h34, h]
  simp only
  rw [List.drop_drop]
  cases txt (l.drop (k + x.2)) with
  | none => rfl
  | some y =>
    simp only [Option.map_some]
    by_cases q : y.2 = l.length - (k + x.2)
    · rw [if_pos q, if_pos (by omega), List.append_assoc]; rfl
    · rw [if_neg q, if_neg (by omega)]
theorem txt_nil : txt [] = none := by
  rw [txt]
  rw [if_neg (by decide)]
  rfl
theorem qr_end {l : List UInt8} {k : Nat} {out : List UInt8} (h : l.length ≤ k) : QR5 l k out = none := by
  unfold QR5
  rw [List.drop_eq_nil_of_le h, txt_nil]
theorem qr_last {l : List UInt8} {k : Nat} {out : List UInt8} {c : UInt8} (h : l.drop k = [c]) (hk : k + 1 = l.length) : QR5 l k out = if c = 34 then some out else none := by
  unfold QR5
  by_cases q : c = 34
  · rw [if_pos q, h, txt, if_pos (by exact q)]
    simp only
    rw [if_pos (by omega), List.append_nil]
  · rw [if_neg q, h, txt_cons (by exact q)]
    cases e : sgn [c] with
    | none => rfl
    | some x =>
      have hp := sgn_pos e
      simp only [List.length_singleton] at hp
      simp only
      rw [List.drop_eq_nil_of_le (by simp; omega), txt_nil]
      rfl
theorem ext_drop (s : ByteArray) (k : Nat) : (s.extract k s.size).data.toList = s.data.toList.drop k := Lib.extract_to_end s k
theorem ownsRow_shapeL {W : World} {B n : Nat} {e : TypeId} {v : Value} {xs : List Value} (h : W.ownsRow B e 1 v n xs) : ∃ A cap, v = .slice A n cap := by
  rcases h.2 with ⟨rfl, rfl⟩ | ⟨g, cap, cur, rfl, _⟩
  · exact ⟨none, 0, rfl⟩
  · exact ⟨_, cap, rfl⟩
theorem infoU8L : (Tryd.prog.info? 5).map (fun i => (i.zero, i.size, i.bytes)) = some (some (.int .u8 0), 1, 1) := by kernel_rfl
theorem u8s_one (l : List UInt8) (c : UInt8) : u8s l ++ [Value.int .u8 (c.toNat : Int)] = u8s (l ++ [c]) := by simp [u8s]
structure QI (w : World) (s : ByteArray) (k : Nat) (out : List UInt8) (v : Value) (wr : World) : Prop where
  row : wr.ownsRow w.heap.size 5 1 v out.length (u8s out)
  len : out.length ≤ k
  fr : Below w.heap.size w wr
set_option maxRecDepth 100000 in
set_option maxHeartbeats 16000000 in
theorem ref_quoted (s : ByteArray) (hs : s.size ≤ 1000000) (w : World) :
    Calls Tryd.prog 51 #[.string s] w (QV s.data.toList w) := by
  obtain ⟨i0, hi, hz0, hz1, hz2⟩ := info_parts infoU8L
  unfold QV
  by_cases h2 : s.size < 2
  · have hq : quotedL s.data.toList = none := by
      cases hq : s.data.toList with
      | nil => rfl
      | cons c r =>
        have h3 := congrArg List.length hq
        rw [len_data] at h3
        have : r = [] := by cases r with
          | nil => rfl
          | cons d r => simp at h3; omega
        subst this
        rw [quotedL_cons, txt_nil]
        split <;> rfl
    have HQ := Lib.hid hq
    have hd : decide ((s.size : Int) < 2) = true := decide_eq_true (by omega)
    clear hq h2
    go_enter Tryd.func51, Tryd.ntmps51
    go_wp2_with fail
    go_ret2
    exact ⟨.inr ⟨HQ.out, _, rfl⟩, Below.refl _ _⟩
  have hd : decide ((s.size : Int) < 2) = false := decide_eq_false (by omega)
  have h0 : 0 < s.size := by omega
  have hl : s.data.toList = s[0] :: s.data.toList.drop 1 := by have := drop_cons s h0; simpa using this
  by_cases h34 : s[0].toNat = 34
  · have hB : (((s[0].toNat : Nat) : Int) != 34) = false := by simp; omega
    have hst : QR5 s.data.toList 1 [] = quotedL s.data.toList := by rw [hl]; exact qr_start h34
    obtain ⟨Q, hQ⟩ : ∃ Q, quotedL s.data.toList = Q := ⟨_, rfl⟩
    rw [hQ] at hst ⊢
    have HST := Lib.hid hst
    have HI0 := Lib.hid (show QI w s 1 [] (.slice none 0 0) w from ⟨World.ownsRow_nil _ _ _ _, by simp, Below.refl _ _⟩)
    have h2' : 2 ≤ s.size := by omega
    clear hl h34 hst hQ h2
    go_enter Tryd.func51, Tryd.ntmps51
    go_wp2_with fail
    go_loopw [4, 5] (fun v i wr => ∃ (k : Nat) (out : List UInt8), 1 ≤ k ∧ k ≤ s.size ∧ i = .int .i64 k ∧ QR5 s.data.toList k out = Q ∧ QI w s k out v wr) (fun _ i _ => s.size - (intOf i).toNat)
    case atStart => exact ⟨1, [], Nat.le_refl _, by omega, rfl, HST.out, HI0.out⟩
    case round =>
      obtain ⟨k, out, hk1, hk, rfl, hqr, hqi⟩ := hrel
      have HQR := Lib.hid hqr
      have HQI := Lib.hid hqi
      obtain ⟨va, vc, rfl⟩ := ownsRow_shapeL hqi.row
      have hol := hqi.len
      clear hqr hqi HI0
      obtain ⟨L, hL⟩ : ∃ L, out.length = L := ⟨_, rfl⟩
      rw [hL] at hol ⊢
      have HL := Lib.hid hL
      have hrow := HQI.out.row
      rw [hL] at hrow
      have HROW := Lib.hid hrow
      clear hL hrow
      by_cases hlt : k + 1 < s.size
      · have hB2 : decide ((k : Int) < (s.size : Int) - 1) = true := decide_eq_true (by omega)
        have hk0 : (0 : Int) ≤ k := by omega
        have hks : (k : Int) ≤ s.size := by omega
        have hsg := ref_sign (s.extract k s.size) (by rw [ByteArray.size_extract]; omega) wr
        rw [ext_drop] at hsg
        have HB := Lib.hid HQI.out.fr
        cases e : sgn (s.data.toList.drop k) with
        | none =>
          have hv : sgnV (s.data.toList.drop k) = (0, 0) := by unfold sgnV; rw [e]
          rw [hv] at hsg
          have HSG := Lib.hid (show Calls _ _ _ wr (fun e w' => e = .returned (.tuple #[.int .u8 0, .int .i64 0]) ∧ ∃ n, w' = wr.drewN n) from hsg)
          have HN := Lib.hid (qr_none (out := out) e (by rw [len_data]; omega))
          clear hsg hv e
          go_wp2_with fail
          refine (HSG.out).mono ?_
          rintro e w1 ⟨rfl, q1, hw1⟩
          have HB1 := Lib.hid (show Below w.heap.size w w1 from by rw [hw1]; exact drewL HB.out q1)
          clear hw1
          go_wp2_with fail
          go_ret2
          exact ⟨.inr ⟨by rw [← HQR.out]; exact HN.out, _, rfl⟩, HB1.out⟩
        | some x =>
          have hv : sgnV (s.data.toList.drop k) = x := by unfold sgnV; rw [e]
          rw [hv] at hsg
          have hp := sgn_pos e
          rw [List.length_drop, len_data] at hp
          have hst := qr_step (out := out) e
          rw [HQR.out] at hst
          obtain ⟨c, n⟩ := x
          simp only at hsg hp hst
          have HSG := Lib.hid hsg
          have HST2 := Lib.hid hst.symm
          have hnB : ((n : Int) == 0) = false := by simp; omega
          have hn4 : (n : Int) ≤ 4 := by omega
          have hc0 : (0 : Int) ≤ (c.toNat : Int) := by omega
          have hc1 : (c.toNat : Int) ≤ 255 := by have := c.toNat_lt; omega
          have hkn : k + n ≤ s.size := by omega
          have hn1 : 1 ≤ n := hp.1
          clear hsg hst hv e hp
          go_wp2_with fail
          refine (HSG.out).mono ?_
          rintro e w1 ⟨rfl, q1, hw1⟩
          have hb1 : Below w.heap.size w w1 := by rw [hw1]; exact drewL HB.out q1
          have HB1 := Lib.hid hb1
          have HROW1 := Lib.hid (show w1.ownsRow w.heap.size 5 1 (.slice va L vc) L (u8s out) from by rw [hw1]; exact HROW.out)
          have hs1 := hb1.size
          clear hw1 hb1
          go_wp2_with (at_builtin; refine wpList_append_own_at _ rfl _ _ 30 rfl w.heap.size 5 i0 (.int .u8 0) 1 1 Tryd.underlying30 hi hz0 hz1 hz2 rfl (by decide) (.slice va L vc) _ _ rfl (HROW1.out.alloc _) ⟨w1.heap.size, 0, none⟩ 1 1 [.int .u8 (c.toNat : Int)] rfl rfl (cell_one_new _ _ _) (by simp [Value.oneCell']) (by unfold maxLen; omega) (by omega) (by simp; omega) ?_; intro v7 w7 hown7 hgrow7 _ hblk7; rw [u8s_one] at hown7; have HI7 := Lib.hid (show QI w s (k + n) (out ++ [c]) v7 w7 from ⟨by rw [List.length_append, HL.out]; exact hown7, by rw [List.length_append, HL.out]; simp; omega, (HB1.out.alloc HB1.out.size _).grown hgrow7 (by simp; omega) (fun j hj => (HROW1.out.lt j hj).1)⟩); clear hown7 hgrow7 hblk7)
          go_roundw
          case rel => exact ⟨k + n, out ++ [c], by omega, hkn, by go_num, HST2.out, HI7.out⟩
          case measure => simp [intOf]; omega
      · have hB2 : decide ((k : Int) < (s.size : Int) - 1) = false := decide_eq_false (by omega)
        have HB := Lib.hid HQI.out.fr
        have hcv : ∀ n, (convert 30 9 (.slice va L vc)).run Tryd.prog (wr.drewN n) = .ok (.string ⟨out.toArray⟩) (wr.drewN n) := fun n => own_text HL.out (show (wr.drewN n).ownsRow w.heap.size 5 1 (.slice va L vc) L (u8s out) from HROW.out)
        have hcv0 : (convert 30 9 (.slice va L vc)).run Tryd.prog wr = .ok (.string ⟨out.toArray⟩) wr := own_text HL.out HROW.out
        have hk0 : (0 : Int) ≤ k := by omega
        by_cases hke : k + 1 = s.size
        · have hE : ((k : Int) == (s.size : Int) - 1) = true := by simp; omega
          have hlk : k < s.size := by omega
          have hki : (k : Int) < s.size := by omega
          have hdr : s.data.toList.drop k = [s[k]] := by rw [drop_cons s hlk, drop_end s (by omega)]
          have hla := qr_last (out := out) hdr (by rw [len_data]; exact hke)
          rw [HQR.out] at hla
          by_cases hc : s[k] = 34
          · have hcB : (((s[k].toNat : Nat) : Int) == 34) = true := by rw [hc]; rfl
            rw [if_pos hc] at hla
            have HLA := Lib.hid hla
            clear hla hdr hc hke
            go_wp2_with fail
            go_quiet (fail)
            go_wp2_with fail
            go_ret2
            exact ⟨.inl ⟨out, HLA.out, rfl⟩, drewL HB.out _⟩
          · have hcB : (((s[k].toNat : Nat) : Int) == 34) = false := by
              rw [beq_eq_false_iff_ne]
              intro q
              apply hc
              apply UInt8.toNat_inj.1
              exact Int.ofNat.inj q
            rw [if_neg hc] at hla
            have HLA := Lib.hid hla
            clear hla hdr hc hke
            go_wp2_with fail
            go_quiet (fail)
            go_wp2_with fail
            go_ret2
            exact ⟨.inr ⟨HLA.out, _, rfl⟩, drewL HB.out _⟩
        · have hE : ((k : Int) == (s.size : Int) - 1) = false := by rw [beq_eq_false_iff_ne]; omega
          have hen := qr_end (l := s.data.toList) (k := k) (out := out) (by rw [len_data]; omega)
          rw [HQR.out] at hen
          have HEN := Lib.hid hen
          clear hen hke
          go_wp2_with fail
          go_quiet (fail)
          go_wp2_with fail
          go_ret2
          exact ⟨.inr ⟨HEN.out, _, rfl⟩, drewL HB.out _⟩
  · have hB : (((s[0].toNat : Nat) : Int) != 34) = true := by simp; omega
    have hq : quotedL s.data.toList = none := by rw [hl]; exact quotedL_no h34
    have HQ := Lib.hid hq
    clear hq hl h34 h2
    go_enter Tryd.func51, Tryd.ntmps51
    go_wp2_with fail
    go_ret2
    exact ⟨.inr ⟨HQ.out, _, rfl⟩, Below.refl _ _⟩
end Go.Proofs.YtphhokpbkcdljaaDoor
namespace Go.Proofs.YtphhokpbkcdljaaDoor
open Go Go.RowKit
def tokA (t : Tok) (at_ : Int) : Value := .agg #[.int .i64 (t.kind : Int), .string ⟨t.text.toArray⟩, .int .i64 (t.num : Int), .int .i64 at_]
def tokNil : Value := .agg #[.int .i64 0, .string ⟨#[]⟩, .int .i64 0, .int .i64 0]
theorem blk_setL {W : World} {B : Nat} {cs : Array Value} {t : TypeId} (h : W.heap[B]? = some (.cells cs t (0, 0))) (j : Nat) (v : Value) : (W.setCell ⟨B, j, none⟩ v).heap[B]? = some (.cells (cs.setIfInBounds j v) t (0, 0)) := by
  show (W.heap.modify B _)[B]? = _
  rw [Array.getElem?_modify, if_pos rfl, h]
  rfl
theorem blk_cellL {W : World} {B : Nat} {cs : Array Value} {t : TypeId} (h : W.heap[B]? = some (.cells cs t (0, 0))) (j : Nat) : W.cell? ⟨B, j, none⟩ = cs[j]? := by simp [World.cell?, h]
theorem blk_freeL {W : World} {B : Nat} {cs : Array Value} {t : TypeId} (h : W.heap[B]? = some (.cells cs t (0, 0))) (j : Nat) : W.frozen? ⟨B, j, none⟩ = false := by simp [World.frozen?, h]
theorem tok_set {W0 : World} {B : Nat} {T : TypeId} {x0 x1 x2 x3 : Value} (h : W0.heap[B]? = some (.cells #[x0, x1, x2, x3] T (0, 0))) (y0 y1 y2 y3 : Value) :
    ((((W0.setCell ⟨B, 0, none⟩ y0).setCell ⟨B, 1, none⟩ y1).setCell ⟨B, 2, none⟩ y2).setCell ⟨B, 3, none⟩ y3).heap[B]? = some (.cells #[y0, y1, y2, y3] T (0, 0)) := by
  have := blk_setL (blk_setL (blk_setL (blk_setL h 0 y0) 1 y1) 2 y2) 3 y3
  simpa using this
theorem tok_below {w W0 : World} {B : Nat} (h : Below w.heap.size w W0) (hB : w.heap.size ≤ B) (y0 y1 y2 y3 : Value) :
    Below w.heap.size w ((((W0.setCell ⟨B, 0, none⟩ y0).setCell ⟨B, 1, none⟩ y1).setCell ⟨B, 2, none⟩ y2).setCell ⟨B, 3, none⟩ y3) :=
  (((h.setCell (p := ⟨B, 0, none⟩) hB _).setCell (p := ⟨B, 1, none⟩) hB _).setCell (p := ⟨B, 2, none⟩) hB _).setCell (p := ⟨B, 3, none⟩) hB _
def tokV (o : Option Tok) : Value := match o with
  | some t => .tuple #[tokA t 0, .bool true]
  | none => .tuple #[tokNil, .bool false]
theorem below_oneL (w : World) (o : Obj) : Below w.heap.size w (w.alloc o) := (Below.refl _ w).alloc (Nat.le_refl _) o
/-- the box of the result stays -/
theorem box_stay {w w1 : World} {o : Obj} (hb : Below (w.alloc o).heap.size (w.alloc o) w1) : w1.heap[w.heap.size]? = some o :=
  (hb.block _ (by rw [World.size_alloc]; omega)).trans (heap_alloc_new w o)
theorem quotedL_hd {c : UInt8} {r : List UInt8} {t : List UInt8} (h : quotedL (c :: r) = some t) : c.toNat = 34 := by
  by_cases q : c.toNat = 34
  · exact q
  · rw [quotedL_no q] at h; cases h
set_option maxRecDepth 100000 in
set_option maxHeartbeats 16000000 in
theorem ref_token (s : ByteArray) (hs : s.size ≤ 1000000) (w : World) :
    Calls Tryd.prog 29 #[.string s] w fun e w' => e = .returned (tokV (tokL s.data.toList)) ∧ Below w.heap.size w w' := by
  have HN := Lib.hid (ref_number s (by omega))
  have hnv : numV s.data.toList = match numL s.data.toList with
    | some n => (n, true)
    | none => (0, false) := rfl
  have hs1 : s.size ≤ 140737488351232 := by omega
  have HQ := Lib.hid (ref_quoted s hs)
  obtain ⟨res, hr⟩ : ∃ res, tokV (tokL s.data.toList) = res := ⟨_, rfl⟩
  rw [hr]
  unfold tokL at hr
  have HBX := Lib.hid (below_oneL w (.cells #[.int .i64 0, .string ⟨#[]⟩, .int .i64 0, .int .i64 0] 32))
  cases en : numL s.data.toList with
  | some n =>
    rw [en] at hr hnv
    simp only at hr hnv
    rw [hnv] at HN
    have HN2 := Lib.hid (show ∀ W1, Calls _ _ _ W1 (fun e w' => e = .returned (.tuple #[.int .i64 (n : Int), .bool true]) ∧ w' = W1) from HN.out)
    have HR := Lib.hid hr
    clear en hr hnv HN HQ
    go_enter Tryd.func29, Tryd.ntmps29
    go_wp2_with fail
    refine (HN2.out _).mono ?_
    rintro e w1 ⟨rfl, hw1⟩
    subst w1
    go_wp2_with fail
    have hb1 := heap_alloc_new w (.cells #[.int .i64 1, .string ⟨#[]⟩, .int .i64 (n : Int), .int .i64 0] 32)
    have hb2 := below_oneL w (.cells #[.int .i64 1, .string ⟨#[]⟩, .int .i64 (n : Int), .int .i64 0] 32)
    have f0 := blk_cellL hb1 0
    have f1 := blk_cellL hb1 1
    have f2 := blk_cellL hb1 2
    have f3 := blk_cellL hb1 3
    exact bodyPost_ret (v := .tuple #[.agg #[.int .i64 1, .string ⟨#[]⟩, .int .i64 (n : Int), .int .i64 0], .bool true]) (by simp [results, Tryd.results29, go_sem, f0, f1, f2, f3]) rfl ⟨by rw [← HR.out]; rfl, hb2⟩
  | none =>
    rw [en] at hr hnv
    simp only at hr hnv
    rw [hnv] at HN
    have HN2 := Lib.hid (show ∀ W1, Calls _ _ _ W1 (fun e w' => e = .returned (.tuple #[.int .i64 0, .bool false]) ∧ w' = W1) from HN.out)
    clear en hnv HN
    cases eq : quotedL s.data.toList with
    | some t =>
      rw [eq] at hr
      simp only at hr
      have HQ2 := Lib.hid (show ∀ W1, Calls _ _ _ W1 (fun e w' => e = .returned (.tuple #[.string ⟨t.toArray⟩, .bool true]) ∧ Below W1.heap.size W1 w') from fun W1 => (HQ.out W1).mono fun e w' ⟨h1, h2⟩ => And.intro (by
        rcases h1 with ⟨t', h3, h4⟩ | ⟨h3, _⟩
        · rw [eq] at h3; injection h3 with h3; rw [h4, h3]
        · rw [eq] at h3; cases h3) h2)
      have HR := Lib.hid hr
      clear hr eq HQ
      go_enter Tryd.func29, Tryd.ntmps29
      go_wp2_with fail
      refine (HN2.out _).mono ?_
      rintro e w1 ⟨rfl, hw1⟩
      subst w1
      go_wp2_with fail
      refine (HQ2.out _).mono ?_
      rintro e w1 ⟨rfl, hb1⟩
      have hbx := box_stay hb1
      have hbb := HBX.out.trans (hb1.mono HBX.out.size)
      have HC := Lib.hid (And.intro hbx hbb)
      have e0 := blk_cellL hbx 0
      have e1 := blk_cellL hbx 1
      have e2 := blk_cellL hbx 2
      have e3 := blk_cellL hbx 3
      have g0 := blk_freeL hbx
      clear hb1 hbx hbb
      go_wp2_with fail
      have hb1 := tok_set HC.out.1 (.int .i64 2) (.string ⟨t.toArray⟩) (.int .i64 0) (.int .i64 0)
      have hb2 := tok_below HC.out.2 (Nat.le_refl _) (.int .i64 2) (.string ⟨t.toArray⟩) (.int .i64 0) (.int .i64 0)
      generalize World.setCell (World.setCell (World.setCell (World.setCell _ _ _) _ _) _ _) _ _ = W4 at hb1 hb2 ⊢
      have f0 := blk_cellL hb1 0
      have f1 := blk_cellL hb1 1
      have f2 := blk_cellL hb1 2
      have f3 := blk_cellL hb1 3
      exact bodyPost_ret (v := .tuple #[.agg #[.int .i64 2, .string ⟨t.toArray⟩, .int .i64 0, .int .i64 0], .bool true]) (by simp [results, Tryd.results29, go_sem, f0, f1, f2, f3]) rfl ⟨by rw [← HR.out]; rfl, hb2⟩
    | none =>
      rw [eq] at hr
      simp only at hr
      have HQ2 := Lib.hid (show ∀ W1, Calls _ _ _ W1 (fun e w' => (∃ x : ByteArray, e = .returned (.tuple #[.string x, .bool false])) ∧ Below W1.heap.size W1 w') from fun W1 => (HQ.out W1).mono fun e w' ⟨h1, h2⟩ => And.intro (by
        rcases h1 with ⟨t', h3, h4⟩ | ⟨h3, h4⟩
        · rw [eq] at h3; cases h3
        · exact h4) h2)
      clear eq HQ
      have HW := Lib.hid (ref_word s hs1)
      have HT := Lib.hid (ref_tvar s hs1)
      obtain ⟨bw, hbw⟩ : ∃ b, wordL s.data.toList = b := ⟨_, rfl⟩
      rw [hbw] at HW hr
      cases bw with
      | true =>
        rw [if_pos rfl] at hr
        have h0 : 0 < s.size := by
          cases hl : s.data.toList with
          | nil => rw [hl] at hbw; cases hbw
          | cons c r => rw [← len_data, hl]; simp
        have HK := Lib.hid (ref_wordkind s h0)
        have hrr : (.tuple #[.agg #[.int .i64 (kindW s.data.toList : Nat), .string s, .int .i64 0, .int .i64 0], .bool true] : Value) = res := by
          rw [← hr]
          show _ = Value.tuple #[.agg #[_, .string ⟨s.data.toList.toArray⟩, _, _], _]
          rw [show (⟨s.data.toList.toArray⟩ : ByteArray) = s from by cases s; simp]
          rfl
        obtain ⟨K, hK⟩ : ∃ K : Nat, kindW s.data.toList = K := ⟨_, rfl⟩
        rw [hK] at HK hrr
        have HR := Lib.hid hrr
        clear hr hbw hrr hK h0 HT
        go_enter Tryd.func29, Tryd.ntmps29
        go_wp2_with fail
        refine (HN2.out _).mono ?_
        rintro e w1 ⟨rfl, hw1⟩
        subst w1
        go_wp2_with fail
        refine (HQ2.out _).mono ?_
        rintro e w1 ⟨⟨x, rfl⟩, hb1⟩
        have HB1 := Lib.hid hb1
        clear hb1
        go_wp2_with fail
        refine (HW.out _).mono ?_
        rintro e w1 ⟨rfl, hw1⟩
        subst w1
        go_wp2_with fail
        refine (HK.out _).mono ?_
        rintro e w2 ⟨rfl, hb2⟩
        have hb1 := HB1.out.trans (hb2.mono HB1.out.size)
        have hbx := box_stay hb1
        have hbb := HBX.out.trans (hb1.mono HBX.out.size)
        have HC := Lib.hid (And.intro hbx hbb)
        have e0 := blk_cellL hbx 0
        have e1 := blk_cellL hbx 1
        have e2 := blk_cellL hbx 2
        have e3 := blk_cellL hbx 3
        have g0 := blk_freeL hbx
        clear hb1 hbx hbb hb2
        go_wp2_with fail
        have hb1 := tok_set HC.out.1 (.int .i64 (K : Int)) (.string s) (.int .i64 0) (.int .i64 0)
        have hb2 := tok_below HC.out.2 (Nat.le_refl _) (.int .i64 (K : Int)) (.string s) (.int .i64 0) (.int .i64 0)
        generalize World.setCell (World.setCell (World.setCell (World.setCell _ _ _) _ _) _ _) _ _ = W4 at hb1 hb2 ⊢
        have f0 := blk_cellL hb1 0
        have f1 := blk_cellL hb1 1
        have f2 := blk_cellL hb1 2
        have f3 := blk_cellL hb1 3
        exact bodyPost_ret (v := .tuple #[.agg #[.int .i64 (K : Int), .string s, .int .i64 0, .int .i64 0], .bool true]) (by simp [results, Tryd.results29, go_sem, f0, f1, f2, f3]) rfl ⟨by rw [← HR.out], hb2⟩
      | false =>
        rw [if_neg (by simp)] at hr
        obtain ⟨bt, hbt⟩ : ∃ b, tvarL s.data.toList = b := ⟨_, rfl⟩
        rw [hbt] at HT hr
        have hself : (⟨s.data.toList.toArray⟩ : ByteArray) = s := by cases s; simp
        cases bt with
        | true =>
          rw [if_pos rfl] at hr
          have hrr : (.tuple #[.agg #[.int .i64 5, .string s, .int .i64 0, .int .i64 0], .bool true] : Value) = res := by
            rw [← hr]
            show _ = Value.tuple #[.agg #[_, .string ⟨s.data.toList.toArray⟩, _, _], _]
            rw [hself]
            rfl
          have HR := Lib.hid hrr
          clear hr hbw hrr hbt hself
          go_enter Tryd.func29, Tryd.ntmps29
          go_wp2_with fail
          refine (HN2.out _).mono ?_
          rintro e w1 ⟨rfl, hw1⟩
          subst w1
          go_wp2_with fail
          refine (HQ2.out _).mono ?_
          rintro e w1 ⟨⟨x, rfl⟩, hb1⟩
          have hbx := box_stay hb1
          have hbb := HBX.out.trans (hb1.mono HBX.out.size)
          have HC := Lib.hid (And.intro hbx hbb)
          have e0 := blk_cellL hbx 0
          have e1 := blk_cellL hbx 1
          have e2 := blk_cellL hbx 2
          have e3 := blk_cellL hbx 3
          have g0 := blk_freeL hbx
          clear hb1 hbx hbb
          go_wp2_with fail
          refine (HW.out _).mono ?_
          rintro e w1 ⟨rfl, hw1⟩
          subst w1
          go_wp2_with fail
          refine (HT.out _).mono ?_
          rintro e w1 ⟨rfl, hw1⟩
          subst w1
          go_wp2_with fail
          have hb1 := tok_set HC.out.1 (.int .i64 5) (.string s) (.int .i64 0) (.int .i64 0)
          have hb2 := tok_below HC.out.2 (Nat.le_refl _) (.int .i64 5) (.string s) (.int .i64 0) (.int .i64 0)
          generalize World.setCell (World.setCell (World.setCell (World.setCell _ _ _) _ _) _ _) _ _ = W4 at hb1 hb2 ⊢
          have f0 := blk_cellL hb1 0
          have f1 := blk_cellL hb1 1
          have f2 := blk_cellL hb1 2
          have f3 := blk_cellL hb1 3
          exact bodyPost_ret (v := .tuple #[.agg #[.int .i64 5, .string s, .int .i64 0, .int .i64 0], .bool true]) (by simp [results, Tryd.results29, go_sem, f0, f1, f2, f3]) rfl ⟨by rw [← HR.out], hb2⟩
        | false =>
          rw [if_neg (by simp)] at hr
          have HS := Lib.hid ref_signs
          by_cases hsg : s.data.toList ∈ signsL
          · rw [if_pos hsg] at hr
            have hrr : (.tuple #[.agg #[.int .i64 7, .string s, .int .i64 0, .int .i64 0], .bool true] : Value) = res := by
              rw [← hr]
              show _ = Value.tuple #[.agg #[_, .string ⟨s.data.toList.toArray⟩, _, _], _]
              rw [hself]
              rfl
            have HR := Lib.hid hrr
            have HH := Lib.hid (fun (W1 : World) (a : Option Addr) (h : SV W1 a 22 signsL) => show Calls _ _ _ W1 (fun e w' => e = .returned (.bool true) ∧ w' = W1) from (ref_has (c := 22) h s).mono fun e w' ⟨h1, h2⟩ => ⟨by rw [h1, decide_eq_true hsg], h2⟩)
            clear hr hbw hrr hbt hself hsg
            go_enter Tryd.func29, Tryd.ntmps29
            go_wp2_with fail
            refine (HN2.out _).mono ?_
            rintro e w1 ⟨rfl, hw1⟩
            subst w1
            go_wp2_with fail
            refine (HQ2.out _).mono ?_
            rintro e w1 ⟨⟨x, rfl⟩, hb1⟩
            have HB1 := Lib.hid hb1
            clear hb1
            go_wp2_with fail
            refine (HW.out _).mono ?_
            rintro e w1 ⟨rfl, hw1⟩
            subst w1
            go_wp2_with fail
            refine (HT.out _).mono ?_
            rintro e w1 ⟨rfl, hw1⟩
            subst w1
            go_wp2_with fail
            refine (HS.out _).mono ?_
            rintro e w2 ⟨rfl, hsv, hb2⟩
            have hb1 := HB1.out.trans (hb2.mono HB1.out.size)
            have hbx := box_stay hb1
            have hbb := HBX.out.trans (hb1.mono HBX.out.size)
            have HC := Lib.hid (And.intro hbx hbb)
            have HSV := Lib.hid hsv
            have e0 := blk_cellL hbx 0
            have e1 := blk_cellL hbx 1
            have e2 := blk_cellL hbx 2
            have e3 := blk_cellL hbx 3
            have g0 := blk_freeL hbx
            clear hb1 hbx hbb hb2 hsv
            go_wp2_with fail
            refine (HH.out _ _ HSV.out).mono ?_
            rintro e w1 ⟨rfl, hw1⟩
            subst w1
            go_wp2_with fail
            have hb1 := tok_set HC.out.1 (.int .i64 7) (.string s) (.int .i64 0) (.int .i64 0)
            have hb2 := tok_below HC.out.2 (Nat.le_refl _) (.int .i64 7) (.string s) (.int .i64 0) (.int .i64 0)
            generalize World.setCell (World.setCell (World.setCell (World.setCell _ _ _) _ _) _ _) _ _ = W4 at hb1 hb2 ⊢
            have f0 := blk_cellL hb1 0
            have f1 := blk_cellL hb1 1
            have f2 := blk_cellL hb1 2
            have f3 := blk_cellL hb1 3
            exact bodyPost_ret (v := .tuple #[.agg #[.int .i64 7, .string s, .int .i64 0, .int .i64 0], .bool true]) (by simp [results, Tryd.results29, go_sem, f0, f1, f2, f3]) rfl ⟨by rw [← HR.out], hb2⟩
          · rw [if_neg hsg] at hr
            have HR := Lib.hid hr
            have HH := Lib.hid (fun (W1 : World) (a : Option Addr) (h : SV W1 a 22 signsL) => show Calls _ _ _ W1 (fun e w' => e = .returned (.bool false) ∧ w' = W1) from (ref_has (c := 22) h s).mono fun e w' ⟨h1, h2⟩ => ⟨by rw [h1, decide_eq_false hsg], h2⟩)
            clear hr hbw hbt hself hsg
            go_enter Tryd.func29, Tryd.ntmps29
            go_wp2_with fail
            refine (HN2.out _).mono ?_
            rintro e w1 ⟨rfl, hw1⟩
            subst w1
            go_wp2_with fail
            refine (HQ2.out _).mono ?_
            rintro e w1 ⟨⟨x, rfl⟩, hb1⟩
            have HB1 := Lib.hid hb1
            clear hb1
            go_wp2_with fail
            refine (HW.out _).mono ?_
            rintro e w1 ⟨rfl, hw1⟩
            subst w1
            go_wp2_with fail
            refine (HT.out _).mono ?_
            rintro e w1 ⟨rfl, hw1⟩
            subst w1
            go_wp2_with fail
            refine (HS.out _).mono ?_
            rintro e w2 ⟨rfl, hsv, hb2⟩
            have hb1 := HB1.out.trans (hb2.mono HB1.out.size)
            have hbx := box_stay hb1
            have hbb := HBX.out.trans (hb1.mono HBX.out.size)
            have HC := Lib.hid (And.intro hbx hbb)
            have HSV := Lib.hid hsv
            have e0 := blk_cellL hbx 0
            have e1 := blk_cellL hbx 1
            have e2 := blk_cellL hbx 2
            have e3 := blk_cellL hbx 3
            have g0 := blk_freeL hbx
            clear hb1 hbx hbb hb2 hsv
            go_wp2_with fail
            refine (HH.out _ _ HSV.out).mono ?_
            rintro e w1 ⟨rfl, hw1⟩
            subst w1
            go_wp2_with fail
            have hb1 := tok_set HC.out.1 (.int .i64 0) (.string ⟨#[]⟩) (.int .i64 0) (.int .i64 0)
            have hb2 := tok_below HC.out.2 (Nat.le_refl _) (.int .i64 0) (.string ⟨#[]⟩) (.int .i64 0) (.int .i64 0)
            generalize World.setCell (World.setCell (World.setCell (World.setCell _ _ _) _ _) _ _) _ _ = W4 at hb1 hb2 ⊢
            have f0 := blk_cellL hb1 0
            have f1 := blk_cellL hb1 1
            have f2 := blk_cellL hb1 2
            have f3 := blk_cellL hb1 3
            exact bodyPost_ret (v := .tuple #[.agg #[.int .i64 0, .string ⟨#[]⟩, .int .i64 0, .int .i64 0], .bool false]) (by simp [results, Tryd.results29, go_sem, f0, f1, f2, f3]) rfl ⟨by rw [← HR.out]; rfl, hb2⟩
end Go.Proofs.YtphhokpbkcdljaaDoor
namespace Go.Proofs.YtphhokpbkcdljaaDoor
open Go Go.RowKit
theorem ext_tk (s : ByteArray) (k : Nat) : (s.extract 0 k).data.toList = s.data.toList.take k := Lib.Pa.extract_upto_list s k
theorem tok_some {s : ByteArray} (hs : s.size ≤ 1000000) {t : Tok} (h : tokL s.data.toList = some t) (w : World) :
    Calls Tryd.prog 29 #[.string s] w fun e w' => e = .returned (.tuple #[.agg #[.int .i64 (t.kind : Int), .string ⟨t.text.toArray⟩, .int .i64 (t.num : Int), .int .i64 0], .bool true]) ∧ Below w.heap.size w w' := by
  have := ref_token s hs w
  rw [h] at this
  exact this
theorem tok_none {s : ByteArray} (hs : s.size ≤ 1000000) (h : tokL s.data.toList = none) (w : World) :
    Calls Tryd.prog 29 #[.string s] w fun e w' => e = .returned (.tuple #[.agg #[.int .i64 0, .string ⟨#[]⟩, .int .i64 0, .int .i64 0], .bool false]) ∧ Below w.heap.size w w' := by
  have := ref_token s hs w
  rw [h] at this
  exact this
def longV (o : Option (Tok × Nat)) : Value := match o with
  | some x => .tuple #[tokA x.1 0, .int .i64 (x.2 : Int)]
  | none => .tuple #[tokNil, .int .i64 0]
theorem tokL_nil : tokL [] = none := by decide
set_option maxRecDepth 100000 in
set_option maxHeartbeats 16000000 in
theorem ref_longest (s : ByteArray) (hs : s.size ≤ 1000000) (w : World) :
    Calls Tryd.prog 25 #[.string s] w fun e w' => e = .returned (longV (longL s.data.toList)) ∧ Below w.heap.size w w' := by
  have hs1 : s.size ≤ 140737488351232 := by omega
  have HD := Lib.hid (ref_digits s hs1)
  obtain ⟨res, hr⟩ : ∃ res, longV (longL s.data.toList) = res := ⟨_, rfl⟩
  rw [hr]
  have HBX := Lib.hid (below_oneL w (.cells #[.int .i64 0, .string ⟨#[]⟩, .int .i64 0, .int .i64 0] 32))
  have hrl := run_le isDg s.data.toList
  rw [len_data] at hrl
  unfold longL at hr
  obtain ⟨n, hn⟩ : ∃ n, Go.Proofs.YtphhokpbkcdljaaDoor.run isDg s.data.toList = n := ⟨_, rfl⟩
  rw [hn] at HD hrl hr
  by_cases h0 : n > 0
  · have hB : decide ((0 : Int) < (n : Int)) = true := decide_eq_true (by omega)
    have hBn : decide (0 < n) = true := decide_eq_true (by omega)
    have hBm : 0 < n := h0
    rw [if_pos h0] at hr
    have hex := ext_tk s n
    have hsz : (s.extract 0 n).size ≤ 1000000 := by rw [ByteArray.size_extract]; omega
    have hn0 : (0 : Int) ≤ n := by omega
    have hns : (n : Int) ≤ s.size := by omega
    cases et : tokL (s.data.toList.take n) with
    | some t =>
      rw [et] at hr
      have HT := Lib.hid (tok_some hsz (by rw [hex]; exact et))
      have HR := Lib.hid hr
      clear hr hn h0 et hex hsz
      go_enter Tryd.func25, Tryd.ntmps25
      go_wp2_with fail
      refine (HD.out _).mono ?_
      rintro e w1 ⟨rfl, hw1⟩
      subst w1
      go_wp2_with fail
      refine (HT.out _).mono ?_
      rintro e w1 ⟨rfl, hb1⟩
      have hbx := box_stay hb1
      have hbb := HBX.out.trans (hb1.mono HBX.out.size)
      have hbx2 := (Below.heap_alloc w1 (.cells #[.int .i64 (t.kind : Int), .string ⟨t.text.toArray⟩, .int .i64 (t.num : Int), .int .i64 0] 32) w.heap.size (Array.getElem?_eq_some_iff.1 hbx).1).trans hbx
      have HC := Lib.hid (And.intro hbx2 (hbb.alloc hbb.size (.cells #[.int .i64 (t.kind : Int), .string ⟨t.text.toArray⟩, .int .i64 (t.num : Int), .int .i64 0] 32)))
      have e0 := blk_cellL hbx2 0
      have e1 := blk_cellL hbx2 1
      have e2 := blk_cellL hbx2 2
      have e3 := blk_cellL hbx2 3
      have g0 := blk_freeL hbx2
      clear hb1 hbx hbb hbx2
      go_wp2_with fail
      have hb1 := tok_set HC.out.1 (.int .i64 (t.kind : Int)) (.string ⟨t.text.toArray⟩) (.int .i64 (t.num : Int)) (.int .i64 0)
      have hb2 := tok_below HC.out.2 (Nat.le_refl _) (.int .i64 (t.kind : Int)) (.string ⟨t.text.toArray⟩) (.int .i64 (t.num : Int)) (.int .i64 0)
      generalize World.setCell (World.setCell (World.setCell (World.setCell _ _ _) _ _) _ _) _ _ = W4 at hb1 hb2 ⊢
      have f0 := blk_cellL hb1 0
      have f1 := blk_cellL hb1 1
      have f2 := blk_cellL hb1 2
      have f3 := blk_cellL hb1 3
      exact bodyPost_ret (v := .tuple #[.agg #[.int .i64 (t.kind : Int), .string ⟨t.text.toArray⟩, .int .i64 (t.num : Int), .int .i64 0], .int .i64 (n : Int)]) (by simp [results, Tryd.results25, go_sem, f0, f1, f2, f3]) rfl ⟨by rw [← HR.out]; rfl, hb2⟩
    | none =>
      rw [et] at hr
      have HT := Lib.hid (tok_none hsz (by rw [hex]; exact et))
      have HR := Lib.hid hr
      clear hr hn h0 et hex hsz
      go_enter Tryd.func25, Tryd.ntmps25
      go_wp2_with fail
      refine (HD.out _).mono ?_
      rintro e w1 ⟨rfl, hw1⟩
      subst w1
      go_wp2_with fail
      refine (HT.out _).mono ?_
      rintro e w1 ⟨rfl, hb1⟩
      have hbx := box_stay hb1
      have hbb := HBX.out.trans (hb1.mono HBX.out.size)
      have hbx2 := (Below.heap_alloc w1 (.cells #[.int .i64 0, .string ⟨#[]⟩, .int .i64 0, .int .i64 0] 32) w.heap.size (Array.getElem?_eq_some_iff.1 hbx).1).trans hbx
      have HC := Lib.hid (And.intro hbx2 (hbb.alloc hbb.size (.cells #[.int .i64 0, .string ⟨#[]⟩, .int .i64 0, .int .i64 0] 32)))
      have e0 := blk_cellL hbx2 0
      have e1 := blk_cellL hbx2 1
      have e2 := blk_cellL hbx2 2
      have e3 := blk_cellL hbx2 3
      have g0 := blk_freeL hbx2
      clear hb1 hbx hbb hbx2
      go_wp2_with fail
      have hb1 := tok_set HC.out.1 (.int .i64 0) (.string ⟨#[]⟩) (.int .i64 0) (.int .i64 0)
      have hb2 := tok_below HC.out.2 (Nat.le_refl _) (.int .i64 0) (.string ⟨#[]⟩) (.int .i64 0) (.int .i64 0)
      generalize World.setCell (World.setCell (World.setCell (World.setCell _ _ _) _ _) _ _) _ _ = W4 at hb1 hb2 ⊢
      have f0 := blk_cellL hb1 0
      have f1 := blk_cellL hb1 1
      have f2 := blk_cellL hb1 2
      have f3 := blk_cellL hb1 3
      exact bodyPost_ret (v := .tuple #[.agg #[.int .i64 0, .string ⟨#[]⟩, .int .i64 0, .int .i64 0], .int .i64 0]) (by simp [results, Tryd.results25, go_sem, f0, f1, f2, f3]) rfl ⟨by rw [← HR.out]; rfl, hb2⟩
  · have hB : decide ((0 : Int) < (n : Int)) = false := decide_eq_false (by omega)
    have hBn : decide (0 < n) = false := decide_eq_false (by omega)
    have hBm : (n : Int) ≤ 0 := by omega
    rw [if_neg h0, len_data] at hr
    obtain ⟨D, hD⟩ : ∃ D, down s.data.toList s.size = D := ⟨_, rfl⟩
    rw [hD] at hr
    have HR := Lib.hid hr
    have HDN := Lib.hid hD
    clear hr hn h0 hD hrl
    go_enter Tryd.func25, Tryd.ntmps25
    go_wp2_with fail
    refine (HD.out _).mono ?_
    rintro e w1 ⟨rfl, hw1⟩
    subst w1
    go_wp2_with fail
    go_loopw [4] (fun i wr => ∃ k : Nat, k ≤ s.size ∧ i = .int .i64 k ∧ down s.data.toList k = D ∧ Below (w.alloc (.cells #[.int .i64 0, .string ⟨#[]⟩, .int .i64 0, .int .i64 0] 32)).heap.size (w.alloc (.cells #[.int .i64 0, .string ⟨#[]⟩, .int .i64 0, .int .i64 0] 32)) wr) (fun i _ => (intOf i).toNat)
    case atStart => exact ⟨s.size, Nat.le_refl _, rfl, HDN.out, Below.refl _ _⟩
    case round =>
      obtain ⟨k, hk, rfl, hdk, hbr⟩ := hrel
      have HBR := Lib.hid hbr
      clear hbr
      by_cases hk0 : 0 < k
      · have hB2 : decide ((0 : Int) < (k : Int)) = true := decide_eq_true (by omega)
        have hB3 : decide (0 < k) = true := decide_eq_true (by omega)
        obtain ⟨m, rfl⟩ : ∃ m, k = m + 1 := ⟨k - 1, by omega⟩
        rw [down] at hdk
        have hex := ext_tk s (m + 1)
        have hsz : (s.extract 0 (m + 1)).size ≤ 1000000 := by rw [ByteArray.size_extract]; omega
        have hns : (m : Int) + 1 ≤ s.size := by omega
        have hm0 : (0 : Int) ≤ m := by omega
        cases et : tokL (s.data.toList.take (m + 1)) with
        | some t =>
          rw [et] at hdk
          have HT := Lib.hid (tok_some hsz (by rw [hex]; exact et))
          have HDK := Lib.hid hdk
          clear hdk et hex hsz
          go_wp2_with fail
          refine (HT.out _).mono ?_
          rintro e w1 ⟨rfl, hb1⟩
          have hb0 := HBR.out.trans (hb1.mono HBR.out.size)
          have hbx := box_stay hb0
          have hbb := HBX.out.trans (hb0.mono HBX.out.size)
          have hbx2 := (Below.heap_alloc w1 (.cells #[.int .i64 (t.kind : Int), .string ⟨t.text.toArray⟩, .int .i64 (t.num : Int), .int .i64 0] 32) w.heap.size (Array.getElem?_eq_some_iff.1 hbx).1).trans hbx
          have HC := Lib.hid (And.intro hbx2 (hbb.alloc hbb.size (.cells #[.int .i64 (t.kind : Int), .string ⟨t.text.toArray⟩, .int .i64 (t.num : Int), .int .i64 0] 32)))
          have e0 := blk_cellL hbx2 0
          have e1 := blk_cellL hbx2 1
          have e2 := blk_cellL hbx2 2
          have e3 := blk_cellL hbx2 3
          have g0 := blk_freeL hbx2
          clear hb1 hbx hbb hbx2 hb0
          go_wp2_with fail
          have hb1 := tok_set HC.out.1 (.int .i64 (t.kind : Int)) (.string ⟨t.text.toArray⟩) (.int .i64 (t.num : Int)) (.int .i64 0)
          have hb2 := tok_below HC.out.2 (Nat.le_refl _) (.int .i64 (t.kind : Int)) (.string ⟨t.text.toArray⟩) (.int .i64 (t.num : Int)) (.int .i64 0)
          generalize World.setCell (World.setCell (World.setCell (World.setCell _ _ _) _ _) _ _) _ _ = W4 at hb1 hb2 ⊢
          have f0 := blk_cellL hb1 0
          have f1 := blk_cellL hb1 1
          have f2 := blk_cellL hb1 2
          have f3 := blk_cellL hb1 3
          exact bodyPost_ret (v := .tuple #[.agg #[.int .i64 (t.kind : Int), .string ⟨t.text.toArray⟩, .int .i64 (t.num : Int), .int .i64 0], .int .i64 ((m : Int) + 1)]) (by simp [results, Tryd.results25, go_sem, f0, f1, f2, f3]) rfl ⟨by rw [← HR.out, ← HDK.out]; rfl, hb2⟩
        | none =>
          rw [et] at hdk
          simp only at hdk
          have HT := Lib.hid (tok_none hsz (by rw [hex]; exact et))
          have HDK := Lib.hid hdk
          clear hdk et hex hsz
          go_wp2_with fail
          refine (HT.out _).mono ?_
          rintro e w1 ⟨rfl, hb1⟩
          have hb0 := HBR.out.trans (hb1.mono HBR.out.size)
          have HB0 := Lib.hid (hb0.alloc hb0.size (.cells #[.int .i64 0, .string ⟨#[]⟩, .int .i64 0, .int .i64 0] 32))
          clear hb1 hb0
          go_wp2_with fail
          go_roundw
          case rel => exact ⟨m, by omega, by go_num, HDK.out, HB0.out⟩
          case measure => simp [intOf]
      · have hB2 : decide ((0 : Int) < (k : Int)) = false := decide_eq_false (by omega)
        obtain rfl : k = 0 := by omega
        have HDK := Lib.hid (show none = D from hdk)
        have hbx := box_stay HBR.out
        have HC := Lib.hid (And.intro hbx (HBX.out.trans (HBR.out.mono HBX.out.size)))
        have e0 := blk_cellL hbx 0
        have e1 := blk_cellL hbx 1
        have e2 := blk_cellL hbx 2
        have e3 := blk_cellL hbx 3
        have g0 := blk_freeL hbx
        clear hdk hbx
        go_wp2_with fail
        have hb1 := tok_set HC.out.1 (.int .i64 0) (.string ⟨#[]⟩) (.int .i64 0) (.int .i64 0)
        have hb2 := tok_below HC.out.2 (Nat.le_refl _) (.int .i64 0) (.string ⟨#[]⟩) (.int .i64 0) (.int .i64 0)
        generalize World.setCell (World.setCell (World.setCell (World.setCell _ _ _) _ _) _ _) _ _ = W4 at hb1 hb2 ⊢
        have f0 := blk_cellL hb1 0
        have f1 := blk_cellL hb1 1
        have f2 := blk_cellL hb1 2
        have f3 := blk_cellL hb1 3
        exact bodyPost_ret (v := .tuple #[.agg #[.int .i64 0, .string ⟨#[]⟩, .int .i64 0, .int .i64 0], .int .i64 0]) (by simp [results, Tryd.results25, go_sem, f0, f1, f2, f3]) rfl ⟨by rw [← HR.out, ← HDK.out]; rfl, hb2⟩
end Go.Proofs.YtphhokpbkcdljaaDoor
