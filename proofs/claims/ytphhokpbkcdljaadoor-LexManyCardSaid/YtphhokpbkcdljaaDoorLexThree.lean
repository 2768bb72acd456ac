/- The contracts of the document's comment and Blank. Condition: the text has no more than a million bytes. The contract of the document's Blank. Condition: the text has no more than a million bytes. Plain mathematics: a text cut into tokens; the contract of the document's Scan. Condition: the text is within the reach. -/
import Derived.Test.YtphhokpbkcdljaaDoorLexTwo
namespace Go.Proofs.YtphhokpbkcdljaaDoor
open Go Go.RowKit
theorem com_nil (d : Nat) : com [] d = none := by rw [com]; simp
theorem com_open {l : List UInt8} (h : l.take 2 = [40, 42]) (d : Nat) : com l d = (com (l.drop 2) (d + 1)).map (· + 2) := by
  rw [com, dif_neg (by intro q; subst q; simp at h), if_pos h]
theorem com_close {l : List UInt8} (h : l.take 2 = [42, 41]) (d : Nat) : com l d = if d = 1 then some 2 else (com (l.drop 2) (d - 1)).map (· + 2) := by
  rw [com, dif_neg (by intro q; subst q; simp at h), if_neg (by rw [h]; decide), if_pos h]
theorem com_step {l : List UInt8} (h0 : l ≠ []) (h1 : l.take 2 ≠ [40, 42]) (h2 : l.take 2 ≠ [42, 41]) (d : Nat) : com l d = (com (l.drop 1) d).map (· + 1) := by
  rw [com, dif_neg h0, if_neg h1, if_neg h2]
theorem com_le (n : Nat) : ∀ (l : List UInt8) (d m : Nat), l.length ≤ n → com l d = some m → 2 ≤ m ∧ m ≤ l.length := by
  induction n with
  | zero =>
    intro l d m h e
    have : l = [] := List.eq_nil_of_length_eq_zero (by omega)
    subst this
    rw [com_nil] at e; cases e
  | succ n ih =>
    intro l d m h e
    by_cases h0 : l = []
    · subst h0; rw [com_nil] at e; cases e
    have hpos : 0 < l.length := List.length_pos_iff.2 h0
    by_cases h1 : l.take 2 = [40, 42]
    · rw [com_open h1] at e
      obtain ⟨k, hk, rfl⟩ := Option.map_eq_some_iff.1 e
      have := ih _ _ _ (by simp; omega) hk
      have hl := congrArg List.length h1
      simp at hl this
      omega
    by_cases h2 : l.take 2 = [42, 41]
    · rw [com_close h2] at e
      have hl := congrArg List.length h2
      simp at hl
      split at e
      · injection e with e; omega
      · obtain ⟨k, hk, rfl⟩ := Option.map_eq_some_iff.1 e
        have := ih _ _ _ (by simp; omega) hk
        simp at this
        omega
    · rw [com_step h0 h1 h2] at e
      obtain ⟨k, hk, rfl⟩ := Option.map_eq_some_iff.1 e
      have := ih _ _ _ (by simp; omega) hk
      simp at this
      omega
/-- a comment within a comment ends first -/
theorem com_split (n : Nat) : ∀ (l : List UInt8) (e d : Nat), 1 ≤ d → 1 ≤ e → l.length ≤ n → com l (d + e) = (com l d).bind fun m => (com (l.drop m) e).map (m + ·) := by
  induction n with
  | zero =>
    intro l e d _ _ h
    have : l = [] := List.eq_nil_of_length_eq_zero (by omega)
    subst this
    rw [com_nil, com_nil]; rfl
  | succ n ih =>
    intro l e d hd he h
    by_cases h0 : l = []
    · subst h0; rw [com_nil, com_nil]; rfl
    have hpos : 0 < l.length := List.length_pos_iff.2 h0
    by_cases h1 : l.take 2 = [40, 42]
    · rw [com_open h1, com_open h1, show d + e + 1 = (d + 1) + e by omega, ih _ e (d + 1) (by omega) he (by simp; omega)]
      cases com (l.drop 2) (d + 1) with
      | none => rfl
      | some m =>
        simp only [Option.bind_some, Option.map_some, Option.map_map, List.drop_drop]
        rw [Nat.add_comm 2 m]
        congr 1
        funext x
        simp only [Function.comp]; omega
    by_cases h2 : l.take 2 = [42, 41]
    · rw [com_close h2, com_close h2, if_neg (by omega)]
      by_cases h3 : d = 1
      · subst h3
        rw [if_pos rfl]
        simp only [Option.bind_some]
        rw [show 1 + e - 1 = e by omega]
        congr 1
        funext x; omega
      · rw [if_neg h3, show d + e - 1 = (d - 1) + e by omega, ih _ e (d - 1) (by omega) he (by simp; omega)]
        cases com (l.drop 2) (d - 1) with
        | none => rfl
        | some m =>
          simp only [Option.bind_some, Option.map_some, Option.map_map, List.drop_drop]
          rw [Nat.add_comm 2 m]
          congr 1
          funext x
          simp only [Function.comp]; omega
    · rw [com_step h0 h1 h2, com_step h0 h1 h2, ih _ e d hd he (by simp; omega)]
      cases com (l.drop 1) d with
      | none => rfl
      | some m =>
        simp only [Option.bind_some, Option.map_some, Option.map_map, List.drop_drop]
        rw [Nat.add_comm 1 m]
        congr 1
        funext x
        simp only [Function.comp]; omega
theorem com_two (l : List UInt8) : com l 2 = (com l 1).bind fun m => (com (l.drop m) 1).map (m + ·) := com_split l.length l 1 1 (by decide) (by decide) (Nat.le_refl _)
theorem take2_none {s : ByteArray} {k : Nat} {a b : UInt8} (h : ¬ k + 1 < s.size) : (s.data.toList.drop k).take 2 ≠ [a, b] := by
  intro q
  have := congrArg List.length q
  rw [List.length_take, List.length_drop, len_data] at this
  simp at this
  omega
theorem take2_some (s : ByteArray) {k : Nat} (h : k + 1 < s.size) : (s.data.toList.drop k).take 2 = [s[k], s[k + 1]] := by
  rw [drop_cons s (show k < s.size by omega), drop_cons s h]
  rfl
theorem u8_eq {a : UInt8} {n : Nat} (hn : n < 256) : ((a.toNat : Int) == (n : Int)) = decide (a = UInt8.ofNat n) := by
  rw [Bool.eq_iff_iff]
  simp only [beq_iff_eq, decide_eq_true_eq]
  constructor
  · intro q
    apply UInt8.toNat_inj.1
    rw [UInt8.toNat_ofNat']
    omega
  · intro q
    subst q
    rw [UInt8.toNat_ofNat']
    omega
/-- two bytes at a place: the walk's own tests -/
structure At2 (s : ByteArray) (k : Nat) (a b : Int) (yes : Bool) : Prop where
  pos : yes = true → ∃ h : k + 1 < s.size, ((s[k].toNat : Int) == a) = true ∧ ((s[k + 1].toNat : Int) == b) = true
  neg : yes = false → (¬ k + 1 < s.size) ∨ (∃ h : k + 1 < s.size, ((s[k].toNat : Int) == a) = false) ∨ ∃ h : k + 1 < s.size, ((s[k].toNat : Int) == a) = true ∧ ((s[k + 1].toNat : Int) == b) = false
theorem at2 (s : ByteArray) (k a b : Nat) (ha : a < 256) (hb : b < 256) : At2 s k a b (decide ((s.data.toList.drop k).take 2 = [UInt8.ofNat a, UInt8.ofNat b])) := by
  by_cases h : k + 1 < s.size
  · rw [take2_some s h]
    refine ⟨fun q => ⟨h, ?_⟩, fun q => .inr ?_⟩
    · have q := of_decide_eq_true q
      injection q with q1 q2
      injection q2 with q2 _
      rw [u8_eq ha, u8_eq hb]
      exact ⟨decide_eq_true q1, decide_eq_true q2⟩
    · have q := of_decide_eq_false q
      by_cases q1 : s[k] = UInt8.ofNat a
      · right
        refine ⟨h, by rw [u8_eq ha]; exact decide_eq_true q1, ?_⟩
        rw [u8_eq hb]
        exact decide_eq_false fun q2 => q (by rw [q1, q2])
      · left
        exact ⟨h, by rw [u8_eq ha]; exact decide_eq_false q1⟩
  · rw [decide_eq_false (take2_none h)]
    exact ⟨fun q => (by cases q), fun _ => .inl h⟩
def comV (l : List UInt8) : Nat := match com (l.drop 2) 1 with
  | some n => n + 2
  | none => 0
set_option maxRecDepth 100000 in
set_option maxHeartbeats 32000000 in
theorem ref_comment (N : Nat) : ∀ (s : ByteArray) (w : World), s.size ≤ N → N ≤ 1000000 → 2 ≤ s.size →
    Calls Tryd.prog 35 #[.string s] w fun e w' => e = .returned (.int .i64 (comV s.data.toList : Nat)) ∧ w' = w := by
  induction N with
  | zero => intro s w h _ h2; omega
  | succ N ih =>
    intro s w hN hb h2
    have HIH := Lib.hid ih
    clear ih
    obtain ⟨res, hr⟩ : ∃ res, comV s.data.toList = res := ⟨_, rfl⟩
    rw [hr]
    have HR := Lib.hid hr
    clear hr
    have hcv : ∀ k m : Nat, 2 ≤ k → com (s.data.toList.drop 2) 1 = (com (s.data.toList.drop k) 1).map (· + (k - 2)) → com (s.data.toList.drop k) 1 = some m → res = k + m := by
      intro k m hk h1 h3
      rw [← HR.out]
      unfold comV
      rw [h1, h3]
      simp only [Option.map_some]
      omega
    have hcn : ∀ k : Nat, com (s.data.toList.drop 2) 1 = (com (s.data.toList.drop k) 1).map (· + (k - 2)) → com (s.data.toList.drop k) 1 = none → res = 0 := by
      intro k h1 h3
      rw [← HR.out]
      unfold comV
      rw [h1, h3]
      rfl
    have HCV := Lib.hid hcv
    have HCN := Lib.hid hcn
    clear hcv hcn
    go_enter Tryd.func35, Tryd.ntmps35
    go_wp2_with fail
    go_loop [3] (fun i => ∃ k : Nat, 2 ≤ k ∧ k ≤ s.size ∧ i = .int .i64 k ∧ com (s.data.toList.drop 2) 1 = (com (s.data.toList.drop k) 1).map (· + (k - 2))) (fun i => s.size - (intOf i).toNat)
    case atStart => exact ⟨2, Nat.le_refl _, h2, rfl, by simp⟩
    case round =>
      obtain ⟨k, hk2, hk, rfl, hrel⟩ := hrel
      have HREL := Lib.hid hrel
      clear hrel
      have hk0 : (0 : Int) ≤ k := by omega
      by_cases hlt : k < s.size
      · have hlB : decide ((k : Int) < (s.size : Int)) = true := decide_eq_true (by omega)
        have hki : (k : Int) < s.size := by omega
        have hne : s.data.toList.drop k ≠ [] := by rw [drop_cons s hlt]; simp
        have hA := at2 s k 42 41 (by decide) (by decide)
        have hO := at2 s k 40 42 (by decide) (by decide)
        obtain ⟨b1, hb1⟩ : ∃ b, decide ((s.data.toList.drop k).take 2 = [42, 41]) = b := ⟨_, rfl⟩
        obtain ⟨b2, hb2⟩ : ∃ b, decide ((s.data.toList.drop k).take 2 = [40, 42]) = b := ⟨_, rfl⟩
        have hA : At2 s k 42 41 b1 := by rw [← hb1]; exact hA
        have hO : At2 s k 40 42 b2 := by rw [← hb2]; exact hO
        cases b1 with
        | true =>
          obtain ⟨h1, c1, c2⟩ := hA.pos rfl
          have hlB2 : decide ((k : Int) + 1 < (s.size : Int)) = true := decide_eq_true (by omega)
          have hki2 : (k : Int) + 1 < s.size := by omega
          have HRR := Lib.hid (HCV.out k 2 hk2 HREL.out (by rw [com_close (of_decide_eq_true hb1)]; rfl))
          clear hA hO hb1 hb2 hne
          go_wp2_with fail
          go_ret
          exact ⟨ret_intL (by rw [HRR.out]; omega), rfl⟩
        | false =>
          have hn1 := of_decide_eq_false hb1
          cases b2 with
          | true =>
            obtain ⟨h1, c1, c2⟩ := hO.pos rfl
            have hlB2 : decide ((k : Int) + 1 < (s.size : Int)) = true := decide_eq_true (by omega)
            have hki2 : (k : Int) + 1 < s.size := by omega
            have c3 : ((s[k].toNat : Int) == 42) = false := by
              have := eq_of_beq c1
              rw [beq_eq_false_iff_ne]; omega
            have hop := com_open (of_decide_eq_true hb2)
            have hsz : (s.extract k s.size).size = s.size - k := by rw [ByteArray.size_extract]; omega
            have hc := HIH.out (s.extract k s.size) w (by omega) (by omega) (by omega)
            have hcom : comV (s.extract k s.size).data.toList = match com (s.data.toList.drop (k + 2)) 1 with
              | some n => n + 2
              | none => 0 := by
              unfold comV
              rw [Lib.extract_to_end, List.drop_drop]
            have hrec : com (s.data.toList.drop k) 1 = ((com (s.data.toList.drop (k + 2)) 1).bind fun m => (com ((s.data.toList.drop (k + 2)).drop m) 1).map (m + ·)).map (· + 2) := by
              rw [hop 1, List.drop_drop, com_two]
            cases em : com (s.data.toList.drop (k + 2)) 1 with
            | none =>
              rw [em] at hcom hrec
              rw [hcom] at hc
              have HC := Lib.hid (show Calls _ _ _ _ (fun e w' => e = .returned (.int .i64 0) ∧ w' = w) from hc)
              have HRR := Lib.hid (HCN.out k HREL.out hrec)
              clear hA hO hb1 hb2 hne hop hc hcom hrec em hn1 hsz
              go_wp2_with fail
              refine (HC.out).mono ?_
              rintro e w1 ⟨rfl, hw1⟩
              subst w1
              go_wp2_with fail
              go_ret
              exact ⟨ret_intL (by rw [HRR.out]; rfl), rfl⟩
            | some m =>
              rw [em] at hcom hrec
              rw [hcom] at hc
              have hle := com_le _ _ _ _ (Nat.le_refl _) em
              rw [List.length_drop, len_data] at hle
              have HC := Lib.hid (show Calls _ _ _ _ (fun e w' => e = .returned (.int .i64 ((m + 2 : Nat) : Int)) ∧ w' = w) from hc)
              have hnz : ((((m + 2 : Nat)) : Int) == 0) = false := by rw [beq_eq_false_iff_ne]; omega
              have HNEW := Lib.hid (show com (s.data.toList.drop 2) 1 = (com (s.data.toList.drop (k + (m + 2))) 1).map (· + (k + (m + 2) - 2)) from by
                rw [HREL.out, hrec]
                simp only [Option.bind_some, List.drop_drop]
                rw [show k + 2 + m = k + (m + 2) by omega]
                cases com (s.data.toList.drop (k + (m + 2))) 1 with
                | none => rfl
                | some z => simp only [Option.map_some]; congr 1; omega)
              have hkm : k + (m + 2) ≤ s.size := by omega
              obtain ⟨M, hM⟩ : ∃ M, m + 2 = M := ⟨_, rfl⟩
              rw [hM] at HC HNEW hkm hnz
              have hM1 : 1 ≤ M := by omega
              clear hA hO hb1 hb2 hne hop hc hcom hrec em hn1 hsz hle hM
              go_wp2_with fail
              refine (HC.out).mono ?_
              rintro e w1 ⟨rfl, hw1⟩
              subst w1
              go_wp2_with fail
              go_round
              case rel => exact ⟨k + M, by omega, hkm, by go_num, HNEW.out⟩
              case measure => simp [intOf]; omega
          | false =>
            have hn2 := of_decide_eq_false hb2
            have hst := com_step hne hn2 hn1 1
            rw [List.drop_drop] at hst
            have HNEW := Lib.hid (show com (s.data.toList.drop 2) 1 = (com (s.data.toList.drop (k + 1)) 1).map (· + (k + 1 - 2)) from by
              rw [HREL.out, hst]
              cases com (s.data.toList.drop (k + 1)) 1 with
              | none => rfl
              | some z => simp only [Option.map_some]; congr 1; omega)
            have hway : decide ((k : Int) + 1 < (s.size : Int)) = false ∨ (decide ((k : Int) + 1 < (s.size : Int)) = true ∧ (k : Int) + 1 < s.size ∧ k + 1 < s.size) := by
              by_cases q : k + 1 < s.size
              · exact .inr ⟨decide_eq_true (by omega), by omega, q⟩
              · exact .inl (decide_eq_false (by omega))
            have hA' := hA.neg rfl
            have hO' := hO.neg rfl
            clear hA hO hb1 hb2 hne hn1 hn2 hst
            rcases hA' with q | ⟨q1, q2⟩ | ⟨q1, q2, q3⟩
            · have hlB2 : decide ((k : Int) + 1 < (s.size : Int)) = false := decide_eq_false (by omega)
              clear hO' hway
              go_wp2_with fail
              go_round
              case rel => exact ⟨k + 1, by omega, by omega, by go_num, HNEW.out⟩
              case measure => simp [intOf]; omega
            · have hlB2 : decide ((k : Int) + 1 < (s.size : Int)) = true := decide_eq_true (by omega)
              have hki2 : (k : Int) + 1 < s.size := by omega
              clear hway
              rcases hO' with p | ⟨p1, p2⟩ | ⟨p1, p2, p3⟩
              · exact absurd q1 p
              · go_wp2_with fail
                go_round
                case rel => exact ⟨k + 1, by omega, by omega, by go_num, HNEW.out⟩
                case measure => simp [intOf]; omega
              · go_wp2_with fail
                go_round
                case rel => exact ⟨k + 1, by omega, by omega, by go_num, HNEW.out⟩
                case measure => simp [intOf]; omega
            · have hlB2 : decide ((k : Int) + 1 < (s.size : Int)) = true := decide_eq_true (by omega)
              have hki2 : (k : Int) + 1 < s.size := by omega
              clear hway
              rcases hO' with p | ⟨p1, p2⟩ | ⟨p1, p2, p3⟩
              · exact absurd q1 p
              · go_wp2_with fail
                go_round
                case rel => exact ⟨k + 1, by omega, by omega, by go_num, HNEW.out⟩
                case measure => simp [intOf]; omega
              · exfalso
                have e1 := eq_of_beq q2
                have e2 := eq_of_beq p2
                omega
      · have hlB : decide ((k : Int) < (s.size : Int)) = false := decide_eq_false (by omega)
        have HRR := Lib.hid (HCN.out k HREL.out (by rw [drop_end s (by omega), com_nil]))
        go_wp2_with fail
        go_ret
        exact ⟨ret_intL (by rw [HRR.out]; rfl), rfl⟩
end Go.Proofs.YtphhokpbkcdljaaDoor
namespace Go.Proofs.YtphhokpbkcdljaaDoor
open Go Go.RowKit
theorem blk_nil : blk [] = (0, true) := by rw [blk]; simp
theorem blk_bl {l : List UInt8} (h0 : l ≠ []) (h : isBl (l.headD 0) = true) : blk l = ((blk (l.drop 1)).1 + 1, (blk (l.drop 1)).2) := by
  rw [blk, dif_neg h0, if_pos h]
theorem blk_com {l : List UInt8} (h0 : l ≠ []) (h : isBl (l.headD 0) = false) (h2 : l.take 2 = [40, 42]) : blk l = match com (l.drop 2) 1 with
    | none => (0, false)
    | some n => ((blk (l.drop (n + 2))).1 + (n + 2), (blk (l.drop (n + 2))).2) := by
  rw [blk, dif_neg h0, if_neg (by rw [h]; simp), if_pos h2]
  rfl
theorem blk_else {l : List UInt8} (h : isBl (l.headD 0) = false) (h2 : l.take 2 ≠ [40, 42]) : blk l = (0, true) := by
  by_cases h0 : l = []
  · subst h0; exact blk_nil
  · rw [blk, dif_neg h0, if_neg (by rw [h]; simp), if_neg h2]
theorem headD_drop' (s : ByteArray) {k : Nat} (h : k < s.size) : (s.data.toList.drop k).headD 0 = s[k] := by rw [drop_cons s h]; rfl
theorem ways_bl (c : UInt8) : (isBl c = true ∧ ((((c.toNat : Int) == 9) = true) ∨ (((c.toNat : Int) == 9) = false ∧ ((c.toNat : Int) == 10) = true) ∨ (((c.toNat : Int) == 9) = false ∧ ((c.toNat : Int) == 10) = false ∧ ((c.toNat : Int) == 13) = true) ∨ (((c.toNat : Int) == 9) = false ∧ ((c.toNat : Int) == 10) = false ∧ ((c.toNat : Int) == 13) = false ∧ ((c.toNat : Int) == 32) = true))) ∨ (isBl c = false ∧ ((c.toNat : Int) == 9) = false ∧ ((c.toNat : Int) == 10) = false ∧ ((c.toNat : Int) == 13) = false ∧ ((c.toNat : Int) == 32) = false) := by
  have e : ∀ n : Nat, ((c.toNat : Int) == (n : Int)) = decide (c.toNat = n) := fun n => by rw [Bool.eq_iff_iff]; simp; omega
  have e9 : ((c.toNat : Int) == 9) = decide (c.toNat = 9) := e 9
  have e10 : ((c.toNat : Int) == 10) = decide (c.toNat = 10) := e 10
  have e13 : ((c.toNat : Int) == 13) = decide (c.toNat = 13) := e 13
  have e32 : ((c.toNat : Int) == 32) = decide (c.toNat = 32) := e 32
  rw [e9, e10, e13, e32]
  unfold isBl
  cases decide (c.toNat = 9) <;> cases decide (c.toNat = 10) <;> cases decide (c.toNat = 13) <;> cases decide (c.toNat = 32) <;> simp
/-- how far blanks go on from a place -/
def BR (l : List UInt8) (k : Nat) : Prop := blk l = (k + (blk (l.drop k)).1, (blk (l.drop k)).2)
theorem br_bl {s : ByteArray} {k : Nat} (h : BR s.data.toList k) (hk : k < s.size) (hb : isBl s[k] = true) : BR s.data.toList (k + 1) := by
  unfold BR at h ⊢
  rw [h, blk_bl (by rw [drop_cons s hk]; simp) (by rw [headD_drop' s hk]; exact hb), List.drop_drop]
  simp only
  rw [show k + ((blk (s.data.toList.drop (k + 1))).1 + 1) = k + 1 + (blk (s.data.toList.drop (k + 1))).1 by omega]
set_option maxRecDepth 100000 in
set_option maxHeartbeats 32000000 in
theorem ref_blank (s : ByteArray) (hs : s.size ≤ 1000000) (w : World) :
    Calls Tryd.prog 22 #[.string s] w fun e w' => e = .returned (.tuple #[.int .i64 ((blk s.data.toList).1 : Int), .bool (blk s.data.toList).2]) ∧ w' = w := by
  obtain ⟨res, hr⟩ : ∃ res, blk s.data.toList = res := ⟨_, rfl⟩
  rw [hr]
  have HR := Lib.hid hr
  clear hr
  go_enter Tryd.func22, Tryd.ntmps22
  go_wp2_with fail
  go_loop [4] (fun i => ∃ k : Nat, k ≤ s.size ∧ i = .int .i64 k ∧ BR s.data.toList k) (fun i => s.size - (intOf i).toNat)
  case atStart => exact ⟨0, Nat.zero_le _, rfl, by unfold BR; simp⟩
  case round =>
    obtain ⟨k, hk, rfl, hrel⟩ := hrel
    have HREL := Lib.hid hrel
    clear hrel
    have hk0 : (0 : Int) ≤ k := by omega
    by_cases hlt : k < s.size
    · have hlB : decide ((k : Int) < (s.size : Int)) = true := decide_eq_true (by omega)
      have hki : (k : Int) < s.size := by omega
      have hne : s.data.toList.drop k ≠ [] := by rw [drop_cons s hlt]; simp
      rcases ways_bl s[k] with ⟨hb, c1 | ⟨c1, c2⟩ | ⟨c1, c2, c3⟩ | ⟨c1, c2, c3, c4⟩⟩ | ⟨hb, c1, c2, c3, c4⟩
      · have HNEW := Lib.hid (br_bl HREL.out hlt hb)
        clear hb hne
        go_wp2_with fail
        go_round
        case rel => exact ⟨k + 1, by omega, by go_num, HNEW.out⟩
        case measure => simp [intOf]; omega
      · have HNEW := Lib.hid (br_bl HREL.out hlt hb)
        clear hb hne
        go_wp2_with fail
        go_round
        case rel => exact ⟨k + 1, by omega, by go_num, HNEW.out⟩
        case measure => simp [intOf]; omega
      · have HNEW := Lib.hid (br_bl HREL.out hlt hb)
        clear hb hne
        go_wp2_with fail
        go_round
        case rel => exact ⟨k + 1, by omega, by go_num, HNEW.out⟩
        case measure => simp [intOf]; omega
      · have HNEW := Lib.hid (br_bl HREL.out hlt hb)
        clear hb hne
        go_wp2_with fail
        go_round
        case rel => exact ⟨k + 1, by omega, by go_num, HNEW.out⟩
        case measure => simp [intOf]; omega
      · have hO := at2 s k 40 42 (by decide) (by decide)
        obtain ⟨b2, hb2⟩ : ∃ b, decide ((s.data.toList.drop k).take 2 = [40, 42]) = b := ⟨_, rfl⟩
        have hO : At2 s k 40 42 b2 := by rw [← hb2]; exact hO
        have hhd : isBl ((s.data.toList.drop k).headD 0) = false := by rw [headD_drop' s hlt]; exact hb
        cases b2 with
        | true =>
          obtain ⟨h1, d1, d2⟩ := hO.pos rfl
          have hlB2 : decide ((k : Int) + 1 < (s.size : Int)) = true := decide_eq_true (by omega)
          have hki2 : (k : Int) + 1 < s.size := by omega
          have hbc := blk_com hne hhd (of_decide_eq_true hb2)
          have hsz : (s.extract k s.size).size = s.size - k := by rw [ByteArray.size_extract]; omega
          have hc := ref_comment s.size (s.extract k s.size) w (by omega) hs (by omega)
          have hcom : comV (s.extract k s.size).data.toList = match com (s.data.toList.drop (k + 2)) 1 with
            | some n => n + 2
            | none => 0 := by
            unfold comV
            first | (rw [Lib.extract_to_end, List.drop_drop]; done) | (rw [Lib.extract_to_end, List.drop_drop]; rfl)
          rw [List.drop_drop] at hbc
          cases em : com (s.data.toList.drop (k + 2)) 1 with
          | none =>
            rw [em] at hcom hbc
            rw [hcom] at hc
            have HC := Lib.hid (show Calls _ _ _ _ (fun e w' => e = .returned (.int .i64 0) ∧ w' = w) from hc)
            have HRR := Lib.hid (show res = (k, false) from by
              have := HREL.out
              unfold BR at this
              rw [hbc] at this
              rw [← HR.out, this]; rfl)
            clear hO hb2 hne hc hcom em hsz hbc hhd hb
            go_wp2_with fail
            refine (HC.out).mono ?_
            rintro e w1 ⟨rfl, hw1⟩
            subst w1
            go_wp2_with fail
            go_ret2
            exact ⟨by rw [HRR.out]; rfl, rfl⟩
          | some m =>
            rw [em] at hcom hbc
            rw [hcom] at hc
            have hle := com_le _ _ _ _ (Nat.le_refl _) em
            rw [List.length_drop, len_data] at hle
            have HC := Lib.hid (show Calls _ _ _ _ (fun e w' => e = .returned (.int .i64 ((m + 2 : Nat) : Int)) ∧ w' = w) from hc)
            have hnz : ((((m + 2 : Nat)) : Int) == 0) = false := by rw [beq_eq_false_iff_ne]; omega
            have HNEW := Lib.hid (show BR s.data.toList (k + (m + 2)) from by
              have := HREL.out
              unfold BR at this ⊢
              rw [hbc] at this
              rw [this]
              simp only [List.drop_drop]
              rw [show k + ((blk (s.data.toList.drop (k + (m + 2)))).1 + (m + 2)) = k + (m + 2) + (blk (s.data.toList.drop (k + (m + 2)))).1 by omega])
            have hkm : k + (m + 2) ≤ s.size := by omega
            obtain ⟨M, hM⟩ : ∃ M, m + 2 = M := ⟨_, rfl⟩
            rw [hM] at HC HNEW hkm hnz
            have hM1 : 1 ≤ M := by omega
            clear hO hb2 hne hc hcom em hsz hle hM hbc hhd hb
            go_wp2_with fail
            refine (HC.out).mono ?_
            rintro e w1 ⟨rfl, hw1⟩
            subst w1
            go_wp2_with fail
            go_round
            case rel => exact ⟨k + M, hkm, by go_num, HNEW.out⟩
            case measure => simp [intOf]; omega
        | false =>
          have hel := blk_else hhd (of_decide_eq_false hb2)
          have HRR := Lib.hid (show res = (k, true) from by
            have := HREL.out
            unfold BR at this
            rw [hel] at this
            rw [← HR.out, this]; rfl)
          have hO' := hO.neg rfl
          clear hO hb2 hne hhd hel hb
          rcases hO' with q | ⟨q1, q2⟩ | ⟨q1, q2, q3⟩
          · have hlB2 : decide ((k : Int) + 1 < (s.size : Int)) = false := decide_eq_false (by omega)
            go_wp2_with fail
            go_ret2
            exact ⟨by rw [HRR.out]; rfl, rfl⟩
          · have hlB2 : decide ((k : Int) + 1 < (s.size : Int)) = true := decide_eq_true (by omega)
            have hki2 : (k : Int) + 1 < s.size := by omega
            go_wp2_with fail
            go_ret2
            exact ⟨by rw [HRR.out]; rfl, rfl⟩
          · have hlB2 : decide ((k : Int) + 1 < (s.size : Int)) = true := decide_eq_true (by omega)
            have hki2 : (k : Int) + 1 < s.size := by omega
            go_wp2_with fail
            go_ret2
            exact ⟨by rw [HRR.out]; rfl, rfl⟩
    · have hlB : decide ((k : Int) < (s.size : Int)) = false := decide_eq_false (by omega)
      have HRR := Lib.hid (show res = (k, true) from by
        have := HREL.out
        unfold BR at this
        rw [drop_end s (by omega), blk_nil] at this
        rw [← HR.out, this]; rfl)
      go_wp2_with fail
      go_ret2
      exact ⟨by rw [HRR.out]; rfl, rfl⟩
end Go.Proofs.YtphhokpbkcdljaaDoor
namespace Go.Proofs.YtphhokpbkcdljaaDoor
open Go Go.RowKit
theorem cut_pos {l : List UInt8} {x : Tok × Nat} (h : cutL l = some x) : 1 ≤ x.2 ∧ x.2 ≤ l.length := by
  cases l with
  | nil => cases h
  | cons c r =>
    unfold cutL at h
    simp only at h
    split at h
    · rename_i hd
      split at h
      · injection h with h
        subst h
        have := run_le isDg (c :: r)
        have h2 : Go.Proofs.YtphhokpbkcdljaaDoor.run isDg (c :: r) = Go.Proofs.YtphhokpbkcdljaaDoor.run isDg r + 1 := by rw [run_cons, if_pos hd]
        exact ⟨by show 1 ≤ Go.Proofs.YtphhokpbkcdljaaDoor.run isDg (c :: r); omega, this⟩
      · cases h
    · split at h
      · obtain ⟨y, hy, rfl⟩ := Option.map_eq_some_iff.1 h
        have := txt_pos hy
        exact ⟨by show 1 ≤ y.2 + 1; omega, by show y.2 + 1 ≤ _; simp; omega⟩
      · split at h
        · injection h with h
          subst h
          have := run_le part1 r
          exact ⟨by show 1 ≤ _ + 1; omega, by show Go.Proofs.YtphhokpbkcdljaaDoor.run part1 r + 1 ≤ _; simp; omega⟩
        · split at h
          · injection h with h
            subst h
            have := run_le part0 r
            exact ⟨by show 1 ≤ _ + 1; omega, by show Go.Proofs.YtphhokpbkcdljaaDoor.run part0 r + 1 ≤ _; simp; omega⟩
          · obtain ⟨y, hy, rfl⟩ := Option.map_eq_some_iff.1 h
            unfold signP at hy
            have h1 := List.mem_of_find?_eq_some hy
            have h2' := List.find?_some hy
            have h2 := of_decide_eq_true h2'
            have h3 := (sign_head _ h1).1
            have h4 := List.length_pos_iff.2 h3
            have h5 := congrArg List.length h2
            rw [List.length_take] at h5
            exact ⟨h4, by show y.length ≤ _; omega⟩
theorem blk_le (n : Nat) : ∀ l : List UInt8, l.length ≤ n → (blk l).1 ≤ l.length := by
  induction n with
  | zero =>
    intro l h
    have : l = [] := List.eq_nil_of_length_eq_zero (by omega)
    subst this
    rw [blk_nil]; simp
  | succ n ih =>
    intro l h
    by_cases h0 : l = []
    · subst h0; rw [blk_nil]; simp
    have hpos : 0 < l.length := List.length_pos_iff.2 h0
    by_cases hb : isBl (l.headD 0) = true
    · rw [blk_bl h0 hb]
      have := ih (l.drop 1) (by simp; omega)
      simp at this ⊢
      omega
    · have hb : isBl (l.headD 0) = false := by simpa using hb
      by_cases h2 : l.take 2 = [40, 42]
      · rw [blk_com h0 hb h2]
        cases e : com (l.drop 2) 1 with
        | none => simp
        | some m =>
          have hc := com_le _ _ _ _ (Nat.le_refl _) e
          have := ih (l.drop (m + 2)) (by simp; omega)
          simp at this hc ⊢
          omega
      · rw [blk_else hb h2]; simp
abbrev ScR := Option (List (Tok × Nat)) × Nat × Nat
def consR (x : Tok × Nat) (r : ScR) : ScR := (r.1.map (x :: ·), r.2)
def tEnd : Tok := ⟨0, [], 0⟩
/-- the tokens of a text from a place on -/
def scanT (l : List UInt8) (at_ cnt : Nat) : ScR :=
  if (blk l).2 = false then (none, at_ + (blk l).1, 70)
  else if l.drop (blk l).1 = [] then (some [(tEnd, at_ + (blk l).1)], 0, 0)
  else match _h : cutL (l.drop (blk l).1) with
    | none => (none, at_ + (blk l).1, 70)
    | some x => if cnt = 1000 then (none, at_ + (blk l).1, 3) else consR (x.1, at_ + (blk l).1) (scanT (l.drop ((blk l).1 + x.2)) (at_ + (blk l).1 + x.2) (cnt + 1))
termination_by l.length
decreasing_by (have h1 := cut_pos _h; simp at h1 ⊢; omega)
theorem scan_open {l : List UInt8} (h : (blk l).2 = false) (a c : Nat) : scanT l a c = (none, a + (blk l).1, 70) := by rw [scanT, if_pos h]
theorem scan_end {l : List UInt8} (h : (blk l).2 = true) (h2 : l.drop (blk l).1 = []) (a c : Nat) : scanT l a c = (some [(tEnd, a + (blk l).1)], 0, 0) := by rw [scanT, if_neg (by rw [h]; simp), if_pos h2]
theorem scan_bad {l : List UInt8} (h : (blk l).2 = true) (h2 : l.drop (blk l).1 ≠ []) (h3 : cutL (l.drop (blk l).1) = none) (a c : Nat) : scanT l a c = (none, a + (blk l).1, 70) := by
  rw [scanT, if_neg (by rw [h]; simp), if_neg h2]
  split
  · rfl
  · rename_i x e; rw [h3] at e; cases e
theorem scan_cut {l : List UInt8} {x : Tok × Nat} (h : (blk l).2 = true) (h2 : l.drop (blk l).1 ≠ []) (h3 : cutL (l.drop (blk l).1) = some x) (a c : Nat) : scanT l a c = if c = 1000 then (none, a + (blk l).1, 3) else consR (x.1, a + (blk l).1) (scanT (l.drop ((blk l).1 + x.2)) (a + (blk l).1 + x.2) (c + 1)) := by
  rw [scanT, if_neg (by rw [h]; simp), if_neg h2]
  split
  · rename_i e; rw [h3] at e; cases e
  · rename_i y e
    rw [h3] at e
    injection e with e
    subst e
    rfl
def appR (out : List (Tok × Nat)) (r : ScR) : ScR := (r.1.map (out ++ ·), r.2)
theorem appR_cons (out : List (Tok × Nat)) (x : Tok × Nat) (r : ScR) : appR out (consR x r) = appR (out ++ [x]) r := by
  unfold appR consR
  obtain ⟨a, b⟩ := r
  cases a with
  | none => rfl
  | some ts => simp
theorem appR_nil (r : ScR) : appR [] r = r := by
  obtain ⟨a, b⟩ := r
  cases a with
  | none => rfl
  | some ts => simp [appR]
def scanTop (l : List UInt8) : ScR := if 4096 < l.length then (none, 0, 3) else scanT l 0 0
/-- tokens as they lie -/
def tokC (x : Tok × Nat) : List Value := [.int .i64 (x.1.kind : Int), .string ⟨x.1.text.toArray⟩, .int .i64 (x.1.num : Int), .int .i64 (x.2 : Int)]
def cellsT (ts : List (Tok × Nat)) : List Value := ts.flatMap tokC
theorem cellsT_len (ts : List (Tok × Nat)) : (cellsT ts).length = ts.length * 4 := by
  induction ts with
  | nil => rfl
  | cons f fs ih => unfold cellsT at ih ⊢; rw [List.flatMap_cons, List.length_append, ih]; simp [tokC]; omega
theorem cellsT_snoc (ini : List (Tok × Nat)) (f : Tok × Nat) : cellsT (ini ++ [f]) = cellsT ini ++ tokC f := by simp [cellsT]
/-- what Scan hands back -/
structure ScV (w : World) (r : ScR) (e : Ending) (w' : World) : Prop where
  val : ∃ v, e = .returned (.tuple #[v, .int .i64 (r.2.1 : Int), .int .i64 (r.2.2 : Int)]) ∧ ((r.1 = none ∧ v = .slice none 0 0) ∨ ∃ ts, r.1 = some ts ∧ w'.ownsRow w.heap.size 32 4 v ts.length (cellsT ts))
  fr : Below w.heap.size w w'
theorem infoTok : (Tryd.prog.info? 32).map (fun i => (i.zero, i.size, i.bytes)) = some (some (.agg #[.int .i64 0, .string ⟨#[]⟩, .int .i64 0, .int .i64 0]), 4, 40) := by kernel_rfl
theorem cells4_atL (w : World) (a b c d : Value) (t : TypeId) (g : Nat) (hg : w.heap.size = g) : ∀ j u, [a, b, c, d][j]? = some u → (w.alloc (.cells #[a, b, c, d] t)).cell? ((⟨g, 0, none⟩ : Addr).add j) = some u := by
  subst hg
  intro j u hu
  have hadd : (⟨w.heap.size, 0, none⟩ : Addr).add j = ⟨w.heap.size, j, none⟩ := by unfold Addr.add; split <;> simp_all
  rw [hadd, blk_cellL (heap_alloc_new w _) j, ← hu]
  simp
theorem own_shape4L {W : World} {B n : Nat} {e : TypeId} {v : Value} {xs : List Value} (h : W.ownsRow B e 4 v n xs) : ∃ A cap, v = .slice A n cap := by
  rcases h.2 with ⟨rfl, rfl⟩ | ⟨g, cap, cur, rfl, _⟩
  · exact ⟨none, 0, rfl⟩
  · exact ⟨_, cap, rfl⟩
theorem own_stay {W W1 : World} {B n : Nat} {e : TypeId} {v : Value} {xs : List Value} (h : W.ownsRow B e 4 v n xs) (hb : Below W.heap.size W W1) : W1.ownsRow B e 4 v n xs := by
  refine h.kept (row := none) ⟨hb.os, hb.tape, hb.output, hb.size, fun i hi _ => hb.block i hi⟩ ?_
  cases hv : v.ownBlock <;> simp
set_option maxRecDepth 100000 in
set_option maxHeartbeats 32000000 in
theorem ref_scan (s : ByteArray) (hs : s.size ≤ 140737488351232) (w : World) :
    Calls Tryd.prog 14 #[.string s] w (ScV w (scanTop s.data.toList)) := by
  obtain ⟨i0, hi, hz0, hz1, hz2⟩ := info_parts infoTok
  by_cases hbig : 4096 < s.size
  · have hd : decide ((4096 : Int) < (s.size : Int)) = true := decide_eq_true (by omega)
    have HR := Lib.hid (show scanTop s.data.toList = (none, 0, 3) from by unfold scanTop; rw [len_data, if_pos hbig])
    clear hbig
    go_enter Tryd.func14, Tryd.ntmps14
    go_wp2_with fail
    go_ret3
    exact ⟨⟨_, by rw [HR.out]; rfl, .inl ⟨by rw [HR.out], rfl⟩⟩, Below.refl _ _⟩
  have hd : decide ((4096 : Int) < (s.size : Int)) = false := decide_eq_false (by omega)
  obtain ⟨res, hr⟩ : ∃ res, scanTop s.data.toList = res := ⟨_, rfl⟩
  rw [hr]
  unfold scanTop at hr
  rw [len_data, if_neg hbig] at hr
  have HR := Lib.hid hr
  have hs4 : s.size ≤ 4096 := by omega
  clear hr hbig
  go_enter Tryd.func14, Tryd.ntmps14
  go_wp2_with fail
  go_loopw [5, 6] (fun v i wr => ∃ (k : Nat) (out : List (Tok × Nat)), k ≤ s.size ∧ i = .int .i64 k ∧ out.length ≤ k ∧ out.length ≤ 1000 ∧ wr.ownsRow w.heap.size 32 4 v out.length (cellsT out) ∧ Below w.heap.size w wr ∧ appR out (scanT (s.data.toList.drop k) k out.length) = res) (fun _ i _ => s.size + 1 - (intOf i).toNat)
  case atStart => exact ⟨0, [], Nat.zero_le _, rfl, Nat.le_refl _, Nat.zero_le _, World.ownsRow_nil _ _ _ _, Below.refl _ _, by rw [appR_nil]; simpa using HR.out⟩
  case round =>
    obtain ⟨k, out, hk, rfl, hok, ho4, hrow, hb, hsc⟩ := hrel
    obtain ⟨va, vc, rfl⟩ := own_shape4L hrow
    have HROW := Lib.hid hrow
    have HB := Lib.hid hb
    have HSC := Lib.hid hsc
    clear hrow hb hsc
    have hk0 : (0 : Int) ≤ k := by omega
    have hki : (k : Int) ≤ s.size := by omega
    have hex : (s.extract k s.size).data.toList = s.data.toList.drop k := Lib.extract_to_end s k
    have hbk := ref_blank (s.extract k s.size) (by rw [ByteArray.size_extract]; omega) wr
    rw [hex] at hbk
    have hbl := blk_le _ (s.data.toList.drop k) (Nat.le_refl _)
    rw [List.length_drop, len_data] at hbl
    obtain ⟨n, hn⟩ : ∃ n, (blk (s.data.toList.drop k)).1 = n := ⟨_, rfl⟩
    rw [hn] at hbk hbl
    have hkn : k + n ≤ s.size := by omega
    obtain ⟨L, hL⟩ : ∃ L, out.length = L := ⟨_, rfl⟩
    rw [hL] at hok ho4 ⊢
    have HL := Lib.hid hL
    clear hL
    cases hok2 : (blk (s.data.toList.drop k)).2 with
    | false =>
      rw [hok2] at hbk
      have HBK := Lib.hid hbk
      have HRR := Lib.hid (show res = (none, k + n, 70) from by
        rw [← HSC.out, scan_open hok2, hn]; rfl)
      clear hbk hok2 hn hbl hex
      go_wp2_with fail
      refine (HBK.out).mono ?_
      rintro e w1 ⟨rfl, hw1⟩
      subst w1
      go_wp2_with fail
      go_ret3
      exact ⟨⟨_, by rw [HRR.out]; rfl, .inl ⟨by rw [HRR.out], rfl⟩⟩, HB.out⟩
    | true =>
      rw [hok2] at hbk
      have HBK := Lib.hid hbk
      by_cases hend : k + n = s.size
      · have heB : ((k : Int) + (n : Int) == (s.size : Int)) = true := by rw [beq_iff_eq]; omega
        have HRR := Lib.hid (show res = (some (out ++ [(tEnd, k + n)]), 0, 0) from by
          rw [← HSC.out, scan_end hok2 (by rw [hn, List.drop_drop]; exact drop_end s (by omega)), hn]; rfl)
        have hrow2 := HROW.out
        rw [HL.out] at hrow2
        have HROW2 := Lib.hid hrow2
        have hsz := HB.out.size
        clear hbk hok2 hn hbl hex hend hrow2
        go_wp2_with fail
        refine (HBK.out).mono ?_
        rintro e w1 ⟨rfl, hw1⟩
        subst w1
        go_wp2_with (at_builtin; refine wpList_append_own_at _ rfl _ _ 24 rfl w.heap.size 32 i0 (.agg #[.int .i64 0, .string ⟨#[]⟩, .int .i64 0, .int .i64 0]) 4 40 Tryd.underlying24 hi hz0 hz1 hz2 rfl (by decide) (.slice va L vc) _ _ rfl (HROW2.out.alloc _) ⟨wr.heap.size, 0, none⟩ 1 1 [.int .i64 0, .string ⟨#[]⟩, .int .i64 0, .int .i64 ((k : Int) + (n : Int))] rfl rfl (cells4_atL wr _ _ _ _ _ _ rfl) (by simp [Value.oneCell']) (by unfold maxLen; omega) (by omega) (by simp; omega) ?_; intro v7 w7 hown7 hgrow7 _ hblk7; have HO7 := Lib.hid hown7; have HB7 := Lib.hid ((HB.out.alloc HB.out.size _).grown hgrow7 (by simp; omega) (fun j hj => (HROW2.out.lt j hj).1)); clear hown7 hgrow7 hblk7)
        go_ret3
        refine ⟨⟨_, by rw [HRR.out]; rfl, .inr ⟨_, by rw [HRR.out], ?_⟩⟩, HB7.out⟩
        have := HO7.out
        rw [show cellsT out ++ [.int .i64 0, .string ⟨#[]⟩, .int .i64 0, .int .i64 ((k : Int) + (n : Int))] = cellsT (out ++ [(tEnd, k + n)]) from by rw [cellsT_snoc]; simp [tokC, tEnd]] at this
        rw [List.length_append, HL.out]
        exact this
      · have heB : ((k : Int) + (n : Int) == (s.size : Int)) = false := by rw [beq_eq_false_iff_ne]; omega
        have hne : (s.data.toList.drop k).drop (blk (s.data.toList.drop k)).1 ≠ [] := by
          rw [hn, List.drop_drop, drop_cons s (show k + n < s.size by omega)]; simp
        have hex2 : (s.extract (k + n) s.size).data.toList = s.data.toList.drop (k + n) := Lib.extract_to_end s (k + n)
        have hlg := ref_longest (s.extract (k + n) s.size) (by rw [ByteArray.size_extract]; omega) wr
        rw [hex2, cut_long (by rw [drop_cons s (show k + n < s.size by omega)]; simp)] at hlg
        have hdd : (s.data.toList.drop k).drop (blk (s.data.toList.drop k)).1 = s.data.toList.drop (k + n) := by rw [hn, List.drop_drop]
        cases ec : cutL (s.data.toList.drop (k + n)) with
        | none =>
          rw [ec] at hlg
          have HLG := Lib.hid (show Calls _ _ _ wr (fun e w' => e = .returned (.tuple #[.agg #[.int .i64 0, .string ⟨#[]⟩, .int .i64 0, .int .i64 0], .int .i64 0]) ∧ Below wr.heap.size wr w') from hlg)
          have HRR := Lib.hid (show res = (none, k + n, 70) from by
            rw [← HSC.out, scan_bad hok2 hne (by rw [hdd]; exact ec), hn]; rfl)
          clear hbk hok2 hn hbl hex hex2 hne hlg hdd ec hend
          go_wp2_with fail
          refine (HBK.out).mono ?_
          rintro e w1 ⟨rfl, hw1⟩
          subst w1
          go_wp2_with fail
          refine (HLG.out).mono ?_
          rintro e w1 ⟨rfl, hb1⟩
          have HB1 := Lib.hid (HB.out.trans (hb1.mono HB.out.size))
          clear hb1
          go_wp2_with fail
          go_ret3
          exact ⟨⟨_, by rw [HRR.out]; rfl, .inl ⟨by rw [HRR.out], rfl⟩⟩, HB1.out.alloc HB1.out.size _⟩
        | some x =>
          obtain ⟨t, m⟩ := x
          rw [ec] at hlg
          have HLG := Lib.hid (show Calls _ _ _ wr (fun e w' => e = .returned (.tuple #[.agg #[.int .i64 (t.kind : Int), .string ⟨t.text.toArray⟩, .int .i64 (t.num : Int), .int .i64 0], .int .i64 (m : Int)]) ∧ Below wr.heap.size wr w') from hlg)
          have hcp := cut_pos ec
          rw [List.length_drop, len_data] at hcp
          simp only at hcp
          have hmz : ((m : Int) == 0) = false := by rw [beq_eq_false_iff_ne]; omega
          have hsc := scan_cut hok2 hne (by rw [hdd]; exact ec) k L
          rw [hn, List.drop_drop] at hsc
          have hkm : k + n + m ≤ s.size := by omega
          have hm1 : 1 ≤ m := hcp.1
          by_cases hfull : L = 1000
          · have hfB : ((L : Int) == 1000) = true := by rw [beq_iff_eq]; omega
            have HRR := Lib.hid (show res = (none, k + n, 3) from by
              rw [← HSC.out, HL.out, hsc, if_pos hfull]; rfl)
            clear hbk hok2 hn hbl hex hex2 hne hlg hdd ec hend hsc hcp hfull
            go_wp2_with fail
            refine (HBK.out).mono ?_
            rintro e w1 ⟨rfl, hw1⟩
            subst w1
            go_wp2_with fail
            refine (HLG.out).mono ?_
            rintro e w1 ⟨rfl, hb1⟩
            have HB1 := Lib.hid (HB.out.trans (hb1.mono HB.out.size))
            clear hb1
            go_wp2_with fail
            go_ret3
            exact ⟨⟨_, by rw [HRR.out]; rfl, .inl ⟨by rw [HRR.out], rfl⟩⟩, HB1.out.alloc HB1.out.size _⟩
          · have hfB : ((L : Int) == 1000) = false := by rw [beq_eq_false_iff_ne]; omega
            have HNEW := Lib.hid (show appR (out ++ [(t, k + n)]) (scanT (s.data.toList.drop (k + n + m)) (k + n + m) (L + 1)) = res from by
              rw [← appR_cons, ← HSC.out, HL.out, hsc, if_neg hfull, show k + (n + m) = k + n + m by omega])
            have hrow2 := HROW.out
            rw [HL.out] at hrow2
            have HROW2 := Lib.hid hrow2
            have hL9 : L + 1 ≤ 1000 := by omega
            clear hbk hok2 hn hbl hex hex2 hne hlg hdd ec hend hsc hcp hfull hrow2
            go_wp2_with fail
            refine (HBK.out).mono ?_
            rintro e w1 ⟨rfl, hw1⟩
            subst w1
            go_wp2_with fail
            refine (HLG.out).mono ?_
            rintro e w1 ⟨rfl, hb1⟩
            have HB1 := Lib.hid (HB.out.trans (hb1.mono HB.out.size))
            have HROW3 := Lib.hid (own_stay HROW2.out hb1)
            have hs1 := HB1.out.size
            clear hb1
            go_wp2_with (at_builtin; refine wpList_append_own_at _ rfl _ _ 24 rfl w.heap.size 32 i0 (.agg #[.int .i64 0, .string ⟨#[]⟩, .int .i64 0, .int .i64 0]) 4 40 Tryd.underlying24 hi hz0 hz1 hz2 rfl (by decide) (.slice va L vc) _ _ rfl ((HROW3.out.alloc _).alloc _) ⟨w1.heap.size + 1, 0, none⟩ 1 1 [.int .i64 (t.kind : Int), .string ⟨t.text.toArray⟩, .int .i64 (t.num : Int), .int .i64 ((k : Int) + (n : Int))] rfl rfl (cells4_atL _ _ _ _ _ _ _ (World.size_alloc _ _)) (by simp [Value.oneCell']) (by unfold maxLen; omega) (by omega) (by simp; omega) ?_; intro v7 w7 hown7 hgrow7 _ hblk7; have HO7 := Lib.hid hown7; have HB7 := Lib.hid (((HB1.out.alloc HB1.out.size _).alloc (HB1.out.alloc HB1.out.size _).size _).grown hgrow7 (by simp; omega) (fun j hj => (HROW3.out.lt j hj).1)); clear hown7 hgrow7 hblk7)
            go_roundw
            case rel =>
              refine ⟨k + n + m, out ++ [(t, k + n)], hkm, by go_num, by rw [List.length_append, HL.out]; simp; omega, by rw [List.length_append, HL.out]; exact hL9, ?_, HB7.out, by rw [List.length_append, HL.out]; exact HNEW.out⟩
              have := HO7.out
              rw [show cellsT out ++ [.int .i64 (t.kind : Int), .string ⟨t.text.toArray⟩, .int .i64 (t.num : Int), .int .i64 ((k : Int) + (n : Int))] = cellsT (out ++ [(t, k + n)]) from by rw [cellsT_snoc]; simp [tokC]] at this
              rw [List.length_append, HL.out]
              exact this
            case measure => simp [intOf]; omega
end Go.Proofs.YtphhokpbkcdljaaDoor
