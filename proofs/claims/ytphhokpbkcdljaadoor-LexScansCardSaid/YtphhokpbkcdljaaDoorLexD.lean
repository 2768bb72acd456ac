/- The contract of the document's Blank. Condition: the text has no more than a million bytes. -/
import Derived.Test.YtphhokpbkcdljaaDoorLexC
namespace Go.Proofs.YtphhokpbkcdljaaDoor
open Go Go.RowKit
theorem blk_nil : blk [] = (0, true) := by rw [blk]; simp
theorem blk_bl {l : List UInt8} (h0 : l ≠ []) (h : isBl (l.headD 0) = true) : blk l = ((blk (l.drop 1)).1 + 1, (blk (l.drop 1)).2) := by
  rw [blk, dif_neg h0, if_pos h]
theorem blk_com {l : List UInt8} (h0 : l ≠ []) (h : isBl (l.headD 0) = false) (h2 : l.take 2 = [40, 42]) : blk l = match com (l.drop 2) 1 with
    | none => (0, false)
    | some n => ((blk (l.drop (n + 2))).1 + (n + 2), (blk (l.drop (n + 2))).2) := by
  rw [blk, dif_neg h0, if_neg (by rw [h]; simp), if_pos h2]
  rfl
theorem blk_else {l : List UInt8} (h : isBl (l.headD 0) = false) (h2 : l.take 2 ≠ [40, 42]) : blk l = (0, true) := by
  by_cases h0 : l = []
  · subst h0; exact blk_nil
  · rw [blk, dif_neg h0, if_neg (by rw [h]; simp), if_neg h2]
theorem headD_drop' (s : ByteArray) {k : Nat} (h : k < s.size) : (s.data.toList.drop k).headD 0 = s[k] := by rw [drop_cons s h]; rfl
theorem ways_bl (c : UInt8) : (isBl c = true ∧ ((((c.toNat : Int) == 9) = true) ∨ (((c.toNat : Int) == 9) = false ∧ ((c.toNat : Int) == 10) = true) ∨ (((c.toNat : Int) == 9) = false ∧ ((c.toNat : Int) == 10) = false ∧ ((c.toNat : Int) == 13) = true) ∨ (((c.toNat : Int) == 9) = false ∧ ((c.toNat : Int) == 10) = false ∧ ((c.toNat : Int) == 13) = false ∧ ((c.toNat : Int) == 32) = true))) ∨ (isBl c = false ∧ ((c.toNat : Int) == 9) = false ∧ ((c.toNat : Int) == 10) = false ∧ ((c.toNat : Int) == 13) = false ∧ ((c.toNat : Int) == 32) = false) := by
  have e : ∀ n : Nat, ((c.toNat : Int) == (n : Int)) = decide (c.toNat = n) := fun n => by rw [Bool.eq_iff_iff]; simp; omega
  have e9 : ((c.toNat : Int) == 9) = decide (c.toNat = 9) := e 9
  have e10 : ((c.toNat : Int) == 10) = decide (c.toNat = 10) := e 10
  have e13 : ((c.toNat : Int) == 13) = decide (c.toNat = 13) := e 13
  have e32 : ((c.toNat : Int) == 32) = decide (c.toNat = 32) := e 32
  rw [e9, e10, e13, e32]
  unfold isBl
  cases decide (c.toNat = 9) <;> cases decide (c.toNat = 10) <;> cases decide (c.toNat = 13) <;> cases decide (c.toNat = 32) <;> simp
/-- how far blanks go on from a place -/
def BR (l : List UInt8) (k : Nat) : Prop := blk l = (k + (blk (l.drop k)).1, (blk (l.drop k)).2)
theorem br_bl {s : ByteArray} {k : Nat} (h : BR s.data.toList k) (hk : k < s.size) (hb : isBl s[k] = true) : BR s.data.toList (k + 1) := by
  unfold BR at h ⊢
  rw [h, blk_bl (by rw [drop_cons s hk]; simp) (by rw [headD_drop' s hk]; exact hb), List.drop_drop]
  simp only
  rw [show k + ((blk (s.data.toList.drop (k + 1))).1 + 1) = k + 1 + (blk (s.data.toList.drop (k + 1))).1 by omega]
set_option maxRecDepth 100000 in
set_option maxHeartbeats 32000000 in
theorem ref_blank (s : ByteArray) (hs : s.size ≤ 1000000) (w : World) :
    Calls Tryd.prog 22 #[.string s] w fun e w' => e = .returned (.tuple #[.int .i64 ((blk s.data.toList).1 : Int), .bool (blk s.data.toList).2]) ∧ w' = w := by
  obtain ⟨res, hr⟩ : ∃ res, blk s.data.toList = res := ⟨_, rfl⟩
  rw [hr]
  have HR := Lib.hid hr
  clear hr
  go_enter Tryd.func22, Tryd.ntmps22
  go_wp2_with fail
  go_loop [4] (fun i => ∃ k : Nat, k ≤ s.size ∧ i = .int .i64 k ∧ BR s.data.toList k) (fun i => s.size - (intOf i).toNat)
  case atStart => exact ⟨0, Nat.zero_le _, rfl, by unfold BR; simp⟩
  case round =>
    obtain ⟨k, hk, rfl, hrel⟩ := hrel
    have HREL := Lib.hid hrel
    clear hrel
    have hk0 : (0 : Int) ≤ k := by omega
    by_cases hlt : k < s.size
    · have hlB : decide ((k : Int) < (s.size : Int)) = true := decide_eq_true (by omega)
      have hki : (k : Int) < s.size := by omega
      have hne : s.data.toList.drop k ≠ [] := by rw [drop_cons s hlt]; simp
      rcases ways_bl s[k] with ⟨hb, c1 | ⟨c1, c2⟩ | ⟨c1, c2, c3⟩ | ⟨c1, c2, c3, c4⟩⟩ | ⟨hb, c1, c2, c3, c4⟩
      · have HNEW := Lib.hid (br_bl HREL.out hlt hb)
        clear hb hne
        go_wp2_with fail
        go_round
        case rel => exact ⟨k + 1, by omega, by go_num, HNEW.out⟩
        case measure => simp [intOf]; omega
      · have HNEW := Lib.hid (br_bl HREL.out hlt hb)
        clear hb hne
        go_wp2_with fail
        go_round
        case rel => exact ⟨k + 1, by omega, by go_num, HNEW.out⟩
        case measure => simp [intOf]; omega
      · have HNEW := Lib.hid (br_bl HREL.out hlt hb)
        clear hb hne
        go_wp2_with fail
        go_round
        case rel => exact ⟨k + 1, by omega, by go_num, HNEW.out⟩
        case measure => simp [intOf]; omega
      · have HNEW := Lib.hid (br_bl HREL.out hlt hb)
        clear hb hne
        go_wp2_with fail
        go_round
        case rel => exact ⟨k + 1, by omega, by go_num, HNEW.out⟩
        case measure => simp [intOf]; omega
      · have hO := at2 s k 40 42 (by decide) (by decide)
        obtain ⟨b2, hb2⟩ : ∃ b, decide ((s.data.toList.drop k).take 2 = [40, 42]) = b := ⟨_, rfl⟩
        have hO : At2 s k 40 42 b2 := by rw [← hb2]; exact hO
        have hhd : isBl ((s.data.toList.drop k).headD 0) = false := by rw [headD_drop' s hlt]; exact hb
        cases b2 with
        | true =>
          obtain ⟨h1, d1, d2⟩ := hO.pos rfl
          have hlB2 : decide ((k : Int) + 1 < (s.size : Int)) = true := decide_eq_true (by omega)
          have hki2 : (k : Int) + 1 < s.size := by omega
          have hbc := blk_com hne hhd (of_decide_eq_true hb2)
          have hsz : (s.extract k s.size).size = s.size - k := by rw [ByteArray.size_extract]; omega
          have hc := ref_comment s.size (s.extract k s.size) w (by omega) hs (by omega)
          have hcom : comV (s.extract k s.size).data.toList = match com (s.data.toList.drop (k + 2)) 1 with
            | some n => n + 2
            | none => 0 := by
            unfold comV
            rw [Lib.extract_to_end, List.drop_drop]
            rfl
          rw [List.drop_drop] at hbc
          cases em : com (s.data.toList.drop (k + 2)) 1 with
          | none =>
            rw [em] at hcom hbc
            rw [hcom] at hc
            have HC := Lib.hid (show Calls _ _ _ _ (fun e w' => e = .returned (.int .i64 0) ∧ w' = w) from hc)
            have HRR := Lib.hid (show res = (k, false) from by
              have := HREL.out
              unfold BR at this
              rw [hbc] at this
              rw [← HR.out, this]; rfl)
            clear hO hb2 hne hc hcom em hsz hbc hhd hb
            go_wp2_with fail
            refine (HC.out).mono ?_
            rintro e w1 ⟨rfl, hw1⟩
            subst w1
            go_wp2_with fail
            go_ret2
            exact ⟨by rw [HRR.out]; rfl, rfl⟩
          | some m =>
            rw [em] at hcom hbc
            rw [hcom] at hc
            have hle := com_le _ _ _ _ (Nat.le_refl _) em
            rw [List.length_drop, len_data] at hle
            have HC := Lib.hid (show Calls _ _ _ _ (fun e w' => e = .returned (.int .i64 ((m + 2 : Nat) : Int)) ∧ w' = w) from hc)
            have hnz : ((((m + 2 : Nat)) : Int) == 0) = false := by rw [beq_eq_false_iff_ne]; omega
            have HNEW := Lib.hid (show BR s.data.toList (k + (m + 2)) from by
              have := HREL.out
              unfold BR at this ⊢
              rw [hbc] at this
              rw [this]
              simp only [List.drop_drop]
              rw [show k + ((blk (s.data.toList.drop (k + (m + 2)))).1 + (m + 2)) = k + (m + 2) + (blk (s.data.toList.drop (k + (m + 2)))).1 by omega])
            have hkm : k + (m + 2) ≤ s.size := by omega
            obtain ⟨M, hM⟩ : ∃ M, m + 2 = M := ⟨_, rfl⟩
            rw [hM] at HC HNEW hkm hnz
            have hM1 : 1 ≤ M := by omega
            clear hO hb2 hne hc hcom em hsz hle hM hbc hhd hb
            go_wp2_with fail
            refine (HC.out).mono ?_
            rintro e w1 ⟨rfl, hw1⟩
            subst w1
            go_wp2_with fail
            go_round
            case rel => exact ⟨k + M, hkm, by go_num, HNEW.out⟩
            case measure => simp [intOf]; omega
        | false =>
          have hel := blk_else hhd (of_decide_eq_false hb2)
          have HRR := Lib.hid (show res = (k, true) from by
            have := HREL.out
            unfold BR at this
            rw [hel] at this
            rw [← HR.out, this]; rfl)
          have hO' := hO.neg rfl
          clear hO hb2 hne hhd hel hb
          rcases hO' with q | ⟨q1, q2⟩ | ⟨q1, q2, q3⟩
          · have hlB2 : decide ((k : Int) + 1 < (s.size : Int)) = false := decide_eq_false (by omega)
            go_wp2_with fail
            go_ret2
            exact ⟨by rw [HRR.out]; rfl, rfl⟩
          · have hlB2 : decide ((k : Int) + 1 < (s.size : Int)) = true := decide_eq_true (by omega)
            have hki2 : (k : Int) + 1 < s.size := by omega
            go_wp2_with fail
            go_ret2
            exact ⟨by rw [HRR.out]; rfl, rfl⟩
          · have hlB2 : decide ((k : Int) + 1 < (s.size : Int)) = true := decide_eq_true (by omega)
            have hki2 : (k : Int) + 1 < s.size := by omega
            go_wp2_with fail
            go_ret2
            exact ⟨by rw [HRR.out]; rfl, rfl⟩
    · have hlB : decide ((k : Int) < (s.size : Int)) = false := decide_eq_false (by omega)
      have HRR := Lib.hid (show res = (k, true) from by
        have := HREL.out
        unfold BR at this
        rw [drop_end s (by omega), blk_nil] at this
        rw [← HR.out, this]; rfl)
      go_wp2_with fail
      go_ret2
      exact ⟨by rw [HRR.out]; rfl, rfl⟩
end Go.Proofs.YtphhokpbkcdljaaDoor
