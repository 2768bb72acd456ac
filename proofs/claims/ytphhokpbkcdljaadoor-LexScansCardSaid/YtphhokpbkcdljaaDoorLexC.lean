/- The contracts of the document's comment and Blank. Condition: the text has no more than a million bytes. -/
import Derived.Test.YtphhokpbkcdljaaDoorLexS
namespace Go.Proofs.YtphhokpbkcdljaaDoor
open Go Go.RowKit
theorem com_nil (d : Nat) : com [] d = none := by rw [com]; simp
theorem com_open {l : List UInt8} (h : l.take 2 = [40, 42]) (d : Nat) : com l d = (com (l.drop 2) (d + 1)).map (· + 2) := by
  rw [com, dif_neg (by intro q; subst q; simp at h), if_pos h]
theorem com_close {l : List UInt8} (h : l.take 2 = [42, 41]) (d : Nat) : com l d = if d = 1 then some 2 else (com (l.drop 2) (d - 1)).map (· + 2) := by
  rw [com, dif_neg (by intro q; subst q; simp at h), if_neg (by rw [h]; decide), if_pos h]
theorem com_step {l : List UInt8} (h0 : l ≠ []) (h1 : l.take 2 ≠ [40, 42]) (h2 : l.take 2 ≠ [42, 41]) (d : Nat) : com l d = (com (l.drop 1) d).map (· + 1) := by
  rw [com, dif_neg h0, if_neg h1, if_neg h2]
theorem com_le (n : Nat) : ∀ (l : List UInt8) (d m : Nat), l.length ≤ n → com l d = some m → 2 ≤ m ∧ m ≤ l.length := by
  induction n with
  | zero =>
    intro l d m h e
    have : l = [] := List.eq_nil_of_length_eq_zero (by omega)
    subst this
    rw [com_nil] at e; cases e
  | succ n ih =>
    intro l d m h e
    by_cases h0 : l = []
    · subst h0; rw [com_nil] at e; cases e
    have hpos : 0 < l.length := List.length_pos_iff.2 h0
    by_cases h1 : l.take 2 = [40, 42]
    · rw [com_open h1] at e
      obtain ⟨k, hk, rfl⟩ := Option.map_eq_some_iff.1 e
      have := ih _ _ _ (by simp; omega) hk
      have hl := congrArg List.length h1
      simp at hl this
      omega
    by_cases h2 : l.take 2 = [42, 41]
    · rw [com_close h2] at e
      have hl := congrArg List.length h2
      simp at hl
      split at e
      · injection e with e; omega
      · obtain ⟨k, hk, rfl⟩ := Option.map_eq_some_iff.1 e
        have := ih _ _ _ (by simp; omega) hk
        simp at this
        omega
    · rw [com_step h0 h1 h2] at e
      obtain ⟨k, hk, rfl⟩ := Option.map_eq_some_iff.1 e
      have := ih _ _ _ (by simp; omega) hk
      simp at this
      omega
/-- a comment within a comment ends first -/
theorem com_split (n : Nat) : ∀ (l : List UInt8) (e d : Nat), 1 ≤ d → 1 ≤ e → l.length ≤ n → com l (d + e) = (com l d).bind fun m => (com (l.drop m) e).map (m + ·) := by
  induction n with
  | zero =>
    intro l e d _ _ h
    have : l = [] := List.eq_nil_of_length_eq_zero (by omega)
    subst this
    rw [com_nil, com_nil]; rfl
  | succ n ih =>
    intro l e d hd he h
    by_cases h0 : l = []
    · subst h0; rw [com_nil, com_nil]; rfl
    have hpos : 0 < l.length := List.length_pos_iff.2 h0
    by_cases h1 : l.take 2 = [40, 42]
    · rw [com_open h1, com_open h1, show d + e + 1 = (d + 1) + e by omega, ih _ e (d + 1) (by omega) he (by simp; omega)]
      cases com (l.drop 2) (d + 1) with
      | none => rfl
      | some m =>
        simp only [Option.bind_some, Option.map_some, Option.map_map, List.drop_drop]
        rw [Nat.add_comm 2 m]
        congr 1
        funext x
        simp only [Function.comp]; omega
    by_cases h2 : l.take 2 = [42, 41]
    · rw [com_close h2, com_close h2, if_neg (by omega)]
      by_cases h3 : d = 1
      · subst h3
        rw [if_pos rfl]
        simp only [Option.bind_some]
        rw [show 1 + e - 1 = e by omega]
        congr 1
        funext x; omega
      · rw [if_neg h3, show d + e - 1 = (d - 1) + e by omega, ih _ e (d - 1) (by omega) he (by simp; omega)]
        cases com (l.drop 2) (d - 1) with
        | none => rfl
        | some m =>
          simp only [Option.bind_some, Option.map_some, Option.map_map, List.drop_drop]
          rw [Nat.add_comm 2 m]
          congr 1
          funext x
          simp only [Function.comp]; omega
    · rw [com_step h0 h1 h2, com_step h0 h1 h2, ih _ e d hd he (by simp; omega)]
      cases com (l.drop 1) d with
      | none => rfl
      | some m =>
        simp only [Option.bind_some, Option.map_some, Option.map_map, List.drop_drop]
        rw [Nat.add_comm 1 m]
        congr 1
        funext x
        simp only [Function.comp]; omega
theorem com_two (l : List UInt8) : com l 2 = (com l 1).bind fun m => (com (l.drop m) 1).map (m + ·) := com_split l.length l 1 1 (by decide) (by decide) (Nat.le_refl _)
theorem take2_none {s : ByteArray} {k : Nat} {a b : UInt8} (h : ¬ k + 1 < s.size) : (s.data.toList.drop k).take 2 ≠ [a, b] := by
  intro q
  have := congrArg List.length q
  rw [List.length_take, List.length_drop, len_data] at this
  simp at this
  omega
theorem take2_some (s : ByteArray) {k : Nat} (h : k + 1 < s.size) : (s.data.toList.drop k).take 2 = [s[k], s[k + 1]] := by
  rw [drop_cons s (show k < s.size by omega), drop_cons s h]
  rfl
theorem u8_eq {a : UInt8} {n : Nat} (hn : n < 256) : ((a.toNat : Int) == (n : Int)) = decide (a = UInt8.ofNat n) := by
  rw [Bool.eq_iff_iff]
  simp only [beq_iff_eq, decide_eq_true_eq]
  constructor
  · intro q
    apply UInt8.toNat_inj.1
    rw [UInt8.toNat_ofNat']
    omega
  · intro q
    subst q
    rw [UInt8.toNat_ofNat']
    omega
/-- two bytes at a place: the walk's own tests -/
structure At2 (s : ByteArray) (k : Nat) (a b : Int) (yes : Bool) : Prop where
  pos : yes = true → ∃ h : k + 1 < s.size, ((s[k].toNat : Int) == a) = true ∧ ((s[k + 1].toNat : Int) == b) = true
  neg : yes = false → (¬ k + 1 < s.size) ∨ (∃ h : k + 1 < s.size, ((s[k].toNat : Int) == a) = false) ∨ ∃ h : k + 1 < s.size, ((s[k].toNat : Int) == a) = true ∧ ((s[k + 1].toNat : Int) == b) = false
theorem at2 (s : ByteArray) (k a b : Nat) (ha : a < 256) (hb : b < 256) : At2 s k a b (decide ((s.data.toList.drop k).take 2 = [UInt8.ofNat a, UInt8.ofNat b])) := by
  by_cases h : k + 1 < s.size
  · rw [take2_some s h]
    refine ⟨fun q => ⟨h, ?_⟩, fun q => .inr ?_⟩
    · have q := of_decide_eq_true q
      injection q with q1 q2
      injection q2 with q2 _
      rw [u8_eq ha, u8_eq hb]
      exact ⟨decide_eq_true q1, decide_eq_true q2⟩
    · have q := of_decide_eq_false q
      by_cases q1 : s[k] = UInt8.ofNat a
      · right
        refine ⟨h, by rw [u8_eq ha]; exact decide_eq_true q1, ?_⟩
        rw [u8_eq hb]
        exact decide_eq_false fun q2 => q (by rw [q1, q2])
      · left
        exact ⟨h, by rw [u8_eq ha]; exact decide_eq_false q1⟩
  · rw [decide_eq_false (take2_none h)]
    exact ⟨fun q => (by cases q), fun _ => .inl h⟩
def comV (l : List UInt8) : Nat := match com (l.drop 2) 1 with
  | some n => n + 2
  | none => 0
set_option maxRecDepth 100000 in
set_option maxHeartbeats 32000000 in
theorem ref_comment (N : Nat) : ∀ (s : ByteArray) (w : World), s.size ≤ N → N ≤ 1000000 → 2 ≤ s.size →
    Calls Tryd.prog 35 #[.string s] w fun e w' => e = .returned (.int .i64 (comV s.data.toList : Nat)) ∧ w' = w := by
  induction N with
  | zero => intro s w h _ h2; omega
  | succ N ih =>
    intro s w hN hb h2
    have HIH := Lib.hid ih
    clear ih
    obtain ⟨res, hr⟩ : ∃ res, comV s.data.toList = res := ⟨_, rfl⟩
    rw [hr]
    have HR := Lib.hid hr
    clear hr
    have hcv : ∀ k m : Nat, 2 ≤ k → com (s.data.toList.drop 2) 1 = (com (s.data.toList.drop k) 1).map (· + (k - 2)) → com (s.data.toList.drop k) 1 = some m → res = k + m := by
      intro k m hk h1 h3
      rw [← HR.out]
      unfold comV
      rw [h1, h3]
      simp only [Option.map_some]
      omega
    have hcn : ∀ k : Nat, com (s.data.toList.drop 2) 1 = (com (s.data.toList.drop k) 1).map (· + (k - 2)) → com (s.data.toList.drop k) 1 = none → res = 0 := by
      intro k h1 h3
      rw [← HR.out]
      unfold comV
      rw [h1, h3]
      rfl
    have HCV := Lib.hid hcv
    have HCN := Lib.hid hcn
    clear hcv hcn
    go_enter Tryd.func35, Tryd.ntmps35
    go_wp2_with fail
    go_loop [3] (fun i => ∃ k : Nat, 2 ≤ k ∧ k ≤ s.size ∧ i = .int .i64 k ∧ com (s.data.toList.drop 2) 1 = (com (s.data.toList.drop k) 1).map (· + (k - 2))) (fun i => s.size - (intOf i).toNat)
    case atStart => exact ⟨2, Nat.le_refl _, h2, rfl, by simp⟩
    case round =>
      obtain ⟨k, hk2, hk, rfl, hrel⟩ := hrel
      have HREL := Lib.hid hrel
      clear hrel
      have hk0 : (0 : Int) ≤ k := by omega
      by_cases hlt : k < s.size
      · have hlB : decide ((k : Int) < (s.size : Int)) = true := decide_eq_true (by omega)
        have hki : (k : Int) < s.size := by omega
        have hne : s.data.toList.drop k ≠ [] := by rw [drop_cons s hlt]; simp
        have hA := at2 s k 42 41 (by decide) (by decide)
        have hO := at2 s k 40 42 (by decide) (by decide)
        obtain ⟨b1, hb1⟩ : ∃ b, decide ((s.data.toList.drop k).take 2 = [42, 41]) = b := ⟨_, rfl⟩
        obtain ⟨b2, hb2⟩ : ∃ b, decide ((s.data.toList.drop k).take 2 = [40, 42]) = b := ⟨_, rfl⟩
        have hA : At2 s k 42 41 b1 := by rw [← hb1]; exact hA
        have hO : At2 s k 40 42 b2 := by rw [← hb2]; exact hO
        cases b1 with
        | true =>
          obtain ⟨h1, c1, c2⟩ := hA.pos rfl
          have hlB2 : decide ((k : Int) + 1 < (s.size : Int)) = true := decide_eq_true (by omega)
          have hki2 : (k : Int) + 1 < s.size := by omega
          have HRR := Lib.hid (HCV.out k 2 hk2 HREL.out (by rw [com_close (of_decide_eq_true hb1)]; rfl))
          clear hA hO hb1 hb2 hne
          go_wp2_with fail
          go_ret
          exact ⟨ret_intL (by rw [HRR.out]; omega), rfl⟩
        | false =>
          have hn1 := of_decide_eq_false hb1
          cases b2 with
          | true =>
            obtain ⟨h1, c1, c2⟩ := hO.pos rfl
            have hlB2 : decide ((k : Int) + 1 < (s.size : Int)) = true := decide_eq_true (by omega)
            have hki2 : (k : Int) + 1 < s.size := by omega
            have c3 : ((s[k].toNat : Int) == 42) = false := by
              have := eq_of_beq c1
              rw [beq_eq_false_iff_ne]; omega
            have hop := com_open (of_decide_eq_true hb2)
            have hsz : (s.extract k s.size).size = s.size - k := by rw [ByteArray.size_extract]; omega
            have hc := HIH.out (s.extract k s.size) w (by omega) (by omega) (by omega)
            have hcom : comV (s.extract k s.size).data.toList = match com (s.data.toList.drop (k + 2)) 1 with
              | some n => n + 2
              | none => 0 := by
              unfold comV
              rw [Lib.extract_to_end, List.drop_drop]
            have hrec : com (s.data.toList.drop k) 1 = ((com (s.data.toList.drop (k + 2)) 1).bind fun m => (com ((s.data.toList.drop (k + 2)).drop m) 1).map (m + ·)).map (· + 2) := by
              rw [hop 1, List.drop_drop, com_two]
            cases em : com (s.data.toList.drop (k + 2)) 1 with
            | none =>
              rw [em] at hcom hrec
              rw [hcom] at hc
              have HC := Lib.hid (show Calls _ _ _ _ (fun e w' => e = .returned (.int .i64 0) ∧ w' = w) from hc)
              have HRR := Lib.hid (HCN.out k HREL.out hrec)
              clear hA hO hb1 hb2 hne hop hc hcom hrec em hn1 hsz
              go_wp2_with fail
              refine (HC.out).mono ?_
              rintro e w1 ⟨rfl, hw1⟩
              subst w1
              go_wp2_with fail
              go_ret
              exact ⟨ret_intL (by rw [HRR.out]; rfl), rfl⟩
            | some m =>
              rw [em] at hcom hrec
              rw [hcom] at hc
              have hle := com_le _ _ _ _ (Nat.le_refl _) em
              rw [List.length_drop, len_data] at hle
              have HC := Lib.hid (show Calls _ _ _ _ (fun e w' => e = .returned (.int .i64 ((m + 2 : Nat) : Int)) ∧ w' = w) from hc)
              have hnz : ((((m + 2 : Nat)) : Int) == 0) = false := by rw [beq_eq_false_iff_ne]; omega
              have HNEW := Lib.hid (show com (s.data.toList.drop 2) 1 = (com (s.data.toList.drop (k + (m + 2))) 1).map (· + (k + (m + 2) - 2)) from by
                rw [HREL.out, hrec]
                simp only [Option.bind_some, List.drop_drop]
                rw [show k + 2 + m = k + (m + 2) by omega]
                cases com (s.data.toList.drop (k + (m + 2))) 1 with
                | none => rfl
                | some z => simp only [Option.map_some]; congr 1; omega)
              have hkm : k + (m + 2) ≤ s.size := by omega
              obtain ⟨M, hM⟩ : ∃ M, m + 2 = M := ⟨_, rfl⟩
              rw [hM] at HC HNEW hkm hnz
              have hM1 : 1 ≤ M := by omega
              clear hA hO hb1 hb2 hne hop hc hcom hrec em hn1 hsz hle hM
              go_wp2_with fail
              refine (HC.out).mono ?_
              rintro e w1 ⟨rfl, hw1⟩
              subst w1
              go_wp2_with fail
              go_round
              case rel => exact ⟨k + M, by omega, hkm, by go_num, HNEW.out⟩
              case measure => simp [intOf]; omega
          | false =>
            have hn2 := of_decide_eq_false hb2
            have hst := com_step hne hn2 hn1 1
            rw [List.drop_drop] at hst
            have HNEW := Lib.hid (show com (s.data.toList.drop 2) 1 = (com (s.data.toList.drop (k + 1)) 1).map (· + (k + 1 - 2)) from by
              rw [HREL.out, hst]
              cases com (s.data.toList.drop (k + 1)) 1 with
              | none => rfl
              | some z => simp only [Option.map_some]; congr 1; omega)
            have hway : decide ((k : Int) + 1 < (s.size : Int)) = false ∨ (decide ((k : Int) + 1 < (s.size : Int)) = true ∧ (k : Int) + 1 < s.size ∧ k + 1 < s.size) := by
              by_cases q : k + 1 < s.size
              · exact .inr ⟨decide_eq_true (by omega), by omega, q⟩
              · exact .inl (decide_eq_false (by omega))
            have hA' := hA.neg rfl
            have hO' := hO.neg rfl
            clear hA hO hb1 hb2 hne hn1 hn2 hst
            rcases hA' with q | ⟨q1, q2⟩ | ⟨q1, q2, q3⟩
            · have hlB2 : decide ((k : Int) + 1 < (s.size : Int)) = false := decide_eq_false (by omega)
              clear hO' hway
              go_wp2_with fail
              go_round
              case rel => exact ⟨k + 1, by omega, by omega, by go_num, HNEW.out⟩
              case measure => simp [intOf]; omega
            · have hlB2 : decide ((k : Int) + 1 < (s.size : Int)) = true := decide_eq_true (by omega)
              have hki2 : (k : Int) + 1 < s.size := by omega
              clear hway
              rcases hO' with p | ⟨p1, p2⟩ | ⟨p1, p2, p3⟩
              · exact absurd q1 p
              · go_wp2_with fail
                go_round
                case rel => exact ⟨k + 1, by omega, by omega, by go_num, HNEW.out⟩
                case measure => simp [intOf]; omega
              · go_wp2_with fail
                go_round
                case rel => exact ⟨k + 1, by omega, by omega, by go_num, HNEW.out⟩
                case measure => simp [intOf]; omega
            · have hlB2 : decide ((k : Int) + 1 < (s.size : Int)) = true := decide_eq_true (by omega)
              have hki2 : (k : Int) + 1 < s.size := by omega
              clear hway
              rcases hO' with p | ⟨p1, p2⟩ | ⟨p1, p2, p3⟩
              · exact absurd q1 p
              · go_wp2_with fail
                go_round
                case rel => exact ⟨k + 1, by omega, by omega, by go_num, HNEW.out⟩
                case measure => simp [intOf]; omega
              · exfalso
                have e1 := eq_of_beq q2
                have e2 := eq_of_beq p2
                omega
      · have hlB : decide ((k : Int) < (s.size : Int)) = false := decide_eq_false (by omega)
        have HRR := Lib.hid (HCN.out k HREL.out (by rw [drop_end s (by omega), com_nil]))
        go_wp2_with fail
        go_ret
        exact ⟨ret_intL (by rw [HRR.out]; rfl), rfl⟩
end Go.Proofs.YtphhokpbkcdljaaDoor
