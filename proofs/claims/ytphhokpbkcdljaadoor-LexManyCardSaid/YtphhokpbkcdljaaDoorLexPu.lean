/- Plain mathematics: what stands behind a token plays no part; texts cut in two, and put together. Conditions: none. -/
import Derived.Test.YtphhokpbkcdljaaDoorLexFive
import Derived.Test.YtphhokpbkcdljaaDoorLexSix
namespace Go.Proofs.YtphhokpbkcdljaaDoor
open Go Go.RowKit
def stp (c : UInt8) : Bool := !part1 c && decide (c.toNat ≠ 62) && decide (c.toNat ≠ 58) && decide (c.toNat ≠ 61) && decide (c.toNat ≠ 42)
/-- a text that a token can not go on with -/
def Stp (r : List UInt8) : Prop := ∀ c r', r = c :: r' → stp c = true
theorem stp_part {c : UInt8} (h : stp c = true) : part1 c = false ∧ part0 c = false ∧ isDg c = false := by
  have h1 : part1 c = false := by
    unfold stp at h
    cases q : part1 c with
    | false => rfl
    | true => simp [q] at h
  have h0 : part0 c = false := by
    cases q : part0 c with
    | false => rfl
    | true => unfold part1 at h1; simp [q] at h1
  refine ⟨h1, h0, ?_⟩
  cases q : isDg c with
  | false => rfl
  | true => unfold part0 at h0; simp [q] at h0
theorem stp_42 {c : UInt8} (h : stp c = true) : c ≠ 42 := by
  rintro rfl
  exact absurd h (by decide)
theorem run_app (p : UInt8 → Bool) : ∀ l r : List UInt8, run p (l ++ r) = if run p l = l.length then l.length + run p r else run p l
  | [], r => by rw [if_pos (by rfl)]; simp
  | c :: l, r => by
    rw [List.cons_append, run_cons, run_cons, run_app p l r]
    by_cases h : p c = true
    · rw [if_pos h, if_pos h]
      by_cases q : run p l = l.length
      · rw [if_pos q, if_pos (by simp [q])]; simp; omega
      · rw [if_neg q, if_neg (by simp; omega)]
    · rw [if_neg h, if_neg h, if_neg (by simp)]
theorem run_none {p : UInt8 → Bool} {r : List UInt8} (h : ∀ c r', r = c :: r' → p c = false) : run p r = 0 := by
  cases r with
  | nil => rfl
  | cons c r => rw [run_cons, if_neg (by rw [h c r rfl]; simp)]
theorem run_ctx {p : UInt8 → Bool} {l r : List UInt8} (h : run p l < l.length ∨ ∀ c r', r = c :: r' → p c = false) : run p (l ++ r) = run p l := by
  rw [run_app]
  by_cases q : run p l = l.length
  · rw [if_pos q]
    rcases h with h | h
    · omega
    · rw [run_none h]; omega
  · rw [if_neg q]
theorem run_takeN (p : UInt8 → Bool) : ∀ (l : List UInt8) (n : Nat), run p (l.take n) = min n (run p l)
  | [], n => by rw [List.take_nil]; show 0 = min n 0; omega
  | c :: l, 0 => by rw [List.take_zero]; show 0 = min 0 _; omega
  | c :: l, n + 1 => by
    rw [List.take_succ_cons, run_cons, run_cons, run_takeN p l n]
    by_cases h : p c = true
    · rw [if_pos h, if_pos h]; omega
    · rw [if_neg h, if_neg h]; omega
theorem S2_second : ∀ s ∈ S2, stp (s.getD 1 0) = false := by decide
theorem take_app {l r : List UInt8} {n : Nat} (h : n ≤ l.length) : (l ++ r).take n = l.take n := List.take_append_of_le_length h
theorem sm0 : isSm 0 = false := by decide
/-- what stands behind a token plays no part -/
theorem cut_app {l r : List UInt8} {x : Tok × Nat} (h : cutL l = some x) (hs : x.2 < l.length ∨ Stp r) : cutL (l ++ r) = some x := by
  cases l with
  | nil => cases h
  | cons c l =>
    rw [List.cons_append]
    unfold cutL at h ⊢
    simp only at h ⊢
    by_cases hd : isDg c = true
    · rw [if_pos hd] at h ⊢
      by_cases hm : dvl ((c :: l).take (run isDg (c :: l))) ≤ maxI
      · rw [if_pos hm] at h
        injection h with h
        subst h
        have hr : run isDg (c :: (l ++ r)) = run isDg (c :: l) := by
          rw [← List.cons_append]
          exact run_ctx (hs.imp id fun q c' r' e => (stp_part (q c' r' e)).2.2)
        rw [hr, ← List.cons_append, take_app (run_le _ _), if_pos hm]
      · rw [if_neg hm] at h; cases h
    · rw [if_neg hd] at h ⊢
      by_cases h34 : c.toNat = 34
      · rw [if_pos h34] at h ⊢
        obtain ⟨y, hy, rfl⟩ := Option.map_eq_some_iff.1 h
        rw [txt_of_take (n := l.length) (l := l ++ r) (by rw [List.take_left]; exact hy)]
        rfl
      · rw [if_neg h34] at h ⊢
        by_cases hw : isSm c = true ∨ isLg c = true
        · rw [if_pos hw] at h ⊢
          injection h with h
          subst h
          have hr : run part1 (l ++ r) = run part1 l := run_ctx (hs.imp (fun q => by simpa using q) fun q c' r' e => (stp_part (q c' r' e)).1)
          have hl := run_le part1 l
          rw [hr, ← List.cons_append, take_app (by simp; omega)]
        · rw [if_neg hw] at h ⊢
          by_cases ht : c.toNat = 39 ∧ isSm (l.headD 0) = true
          · have hl0 : l ≠ [] := by rintro rfl; have := ht.2; rw [List.headD_nil, sm0] at this; cases this
            have hh : (l ++ r).headD 0 = l.headD 0 := by
              cases l with
              | nil => exact absurd rfl hl0
              | cons a b => rfl
            rw [if_pos ht] at h
            rw [if_pos ⟨ht.1, by rw [hh]; exact ht.2⟩]
            injection h with h
            subst h
            have hr : run part0 (l ++ r) = run part0 l := run_ctx (hs.imp (fun q => by simpa using q) fun q c' r' e => (stp_part (q c' r' e)).2.1)
            have hl := run_le part0 l
            rw [hr, ← List.cons_append, take_app (by simp; omega)]
          · rw [if_neg ht] at h
            obtain ⟨y, hy, rfl⟩ := Option.map_eq_some_iff.1 h
            have h39 : c.toNat ≠ 39 := fun q => by
              rw [signP_prime (l := c :: l) q] at hy; cases hy
            rw [if_neg (fun q => h39 q.1)]
            have hyl := (sign_head y (List.mem_of_find?_eq_some hy)).1
            have hyp := List.length_pos_iff.2 hyl
            have key : signP (c :: (l ++ r)) = some y := by
              rw [signP_eq] at hy ⊢
              cases l with
              | cons d l =>
                rw [show (c :: (d :: l ++ r)).take 2 = (c :: d :: l).take 2 from rfl, show (c :: (d :: l ++ r)).take 1 = (c :: d :: l).take 1 from rfl]
                exact hy
              | nil =>
                have hS : Stp r := hs.resolve_left (by show ¬ y.length < 1; omega)
                have h1 : ([c] : List UInt8).take 2 ∉ S2 := fun q => by have := S2_len _ q; simp at this
                rw [if_neg h1] at hy
                have h2 : (c :: ([] ++ r)).take 2 ∉ S2 := by
                  cases r with
                  | nil => exact h1
                  | cons d r =>
                    intro q
                    have := S2_second _ q
                    rw [show (c :: ([] ++ d :: r)).take 2 = [c, d] from rfl] at this
                    have e : ([c, d] : List UInt8).getD 1 0 = d := rfl
                    rw [e, hS d r rfl] at this
                    cases this
                rw [if_neg h2]
                exact hy
            rw [key]; rfl
/-- a token stands in any part of the text that holds it -/
theorem cut_take {l : List UInt8} {x : Tok × Nat} (h : cutL l = some x) {n : Nat} (hn : x.2 ≤ n) : cutL (l.take n) = some x := by
  have hp := (cut_pos h).1
  cases l with
  | nil => cases h
  | cons c l =>
    obtain ⟨k, rfl⟩ : ∃ k, n = k + 1 := ⟨n - 1, by omega⟩
    rw [List.take_succ_cons]
    unfold cutL at h ⊢
    simp only at h ⊢
    by_cases hd : isDg c = true
    · rw [if_pos hd] at h ⊢
      by_cases hm : dvl ((c :: l).take (run isDg (c :: l))) ≤ maxI
      · rw [if_pos hm] at h
        injection h with h
        subst h
        have hr : run isDg (c :: l.take k) = run isDg (c :: l) := by
          rw [← List.take_succ_cons, run_takeN]
          have : run isDg (c :: l) ≤ k + 1 := hn
          omega
        rw [hr, ← List.take_succ_cons, List.take_take, Nat.min_eq_left hn, if_pos hm]
      · rw [if_neg hm] at h; cases h
    · rw [if_neg hd] at h ⊢
      by_cases h34 : c.toNat = 34
      · rw [if_pos h34] at h ⊢
        obtain ⟨y, hy, rfl⟩ := Option.map_eq_some_iff.1 h
        rw [txt_take hy (n := k) (by have : y.2 + 1 ≤ k + 1 := hn; omega)]
        rfl
      · rw [if_neg h34] at h ⊢
        by_cases hw : isSm c = true ∨ isLg c = true
        · rw [if_pos hw] at h ⊢
          injection h with h
          subst h
          have hn' : run part1 l + 1 ≤ k + 1 := hn
          have hr : run part1 (l.take k) = run part1 l := by rw [run_takeN]; omega
          rw [hr, ← List.take_succ_cons, List.take_take, Nat.min_eq_left hn']
        · rw [if_neg hw] at h ⊢
          by_cases ht : c.toNat = 39 ∧ isSm (l.headD 0) = true
          · rw [if_pos ht] at h
            injection h with h
            subst h
            have hn' : run part0 l + 1 ≤ k + 1 := hn
            have h1 : 1 ≤ run part0 l := by
              cases l with
              | nil => have := ht.2; rw [List.headD_nil, sm0] at this; cases this
              | cons a b =>
                have ha : isSm a = true := ht.2
                rw [run_cons, if_pos (by unfold part0; rw [ha]; rfl)]; omega
            have hr : run part0 (l.take k) = run part0 l := by rw [run_takeN]; omega
            rw [if_pos ⟨ht.1, by rw [headD_take (by omega)]; exact ht.2⟩, hr, ← List.take_succ_cons, List.take_take, Nat.min_eq_left hn']
          · rw [if_neg ht] at h
            obtain ⟨y, hy, rfl⟩ := Option.map_eq_some_iff.1 h
            have h39 : c.toNat ≠ 39 := fun q => by
              rw [signP_prime (l := c :: l) q] at hy; cases hy
            rw [if_neg (fun q => h39 q.1)]
            have hn' : y.length ≤ k + 1 := hn
            have key : signP (c :: l.take k) = some y := by
              rw [signP_eq] at hy ⊢
              by_cases q : (c :: l).take 2 ∈ S2
              · rw [if_pos q] at hy
                injection hy with hy
                have hl2 := S2_len _ q
                rw [hy] at hl2
                have e : (c :: l.take k).take 2 = (c :: l).take 2 := by rw [← List.take_succ_cons, List.take_take, Nat.min_eq_left (by omega)]
                rw [e, if_pos q, hy]
              · rw [if_neg q] at hy
                have e1 : (c :: l.take k).take 1 = (c :: l).take 1 := by rw [← List.take_succ_cons, List.take_take, Nat.min_eq_left (by omega)]
                have e2 : (c :: l.take k).take 2 ∉ S2 := by
                  by_cases hk : 1 ≤ k
                  · rw [← List.take_succ_cons, List.take_take, Nat.min_eq_left (by omega)]; exact q
                  · obtain rfl : k = 0 := by omega
                    intro z
                    have := S2_len _ z
                    simp at this
                rw [if_neg e2, e1]; exact hy
            rw [key]; rfl
theorem two_of {l : List UInt8} {a b : UInt8} (h : l.take 2 = [a, b]) : 2 ≤ l.length := by
  have := congrArg List.length h
  simp at this; omega
theorem com_app (N : Nat) : ∀ (l : List UInt8) (d m : Nat) (r : List UInt8), l.length ≤ N → com l d = some m → com (l ++ r) d = some m := by
  induction N with
  | zero =>
    intro l d m r hl h
    have : l = [] := List.length_eq_zero_iff.1 (by omega)
    subst this; rw [com_nil] at h; cases h
  | succ N ih =>
    intro l d m r hl h
    have h0 : l ≠ [] := by rintro rfl; rw [com_nil] at h; cases h
    have hpos := List.length_pos_iff.2 h0
    by_cases h1 : l.take 2 = [40, 42]
    · have h2 := two_of h1
      rw [com_open h1] at h
      obtain ⟨m', hm, rfl⟩ := Option.map_eq_some_iff.1 h
      rw [com_open (by rw [take_app h2]; exact h1), List.drop_append_of_le_length h2, ih _ _ _ r (by simp; omega) hm]; rfl
    · by_cases h2 : l.take 2 = [42, 41]
      · have h3 := two_of h2
        rw [com_close h2] at h
        rw [com_close (by rw [take_app h3]; exact h2)]
        by_cases hd : d = 1
        · rw [if_pos hd] at h ⊢; exact h
        · rw [if_neg hd] at h ⊢
          obtain ⟨m', hm, rfl⟩ := Option.map_eq_some_iff.1 h
          rw [List.drop_append_of_le_length h3, ih _ _ _ r (by simp; omega) hm]; rfl
      · rw [com_step h0 h1 h2] at h
        obtain ⟨m', hm, rfl⟩ := Option.map_eq_some_iff.1 h
        have hc := com_le _ _ _ _ (Nat.le_refl _) hm
        rw [List.length_drop] at hc
        have h3 : 2 ≤ l.length := by omega
        rw [com_step (by simp [h0]) (by rw [take_app h3]; exact h1) (by rw [take_app h3]; exact h2), List.drop_append_of_le_length (by omega), ih _ _ _ r (by simp; omega) hm]; rfl
theorem take_ne {l : List UInt8} {k : Nat} (h0 : l ≠ []) (hk : k ≠ 0) : l.take k ≠ [] := fun q => (List.take_eq_nil_iff.1 q).elim hk h0
theorem com_take (N : Nat) : ∀ (l : List UInt8) (d m k : Nat), l.length ≤ N → com l d = some m → m ≤ k → com (l.take k) d = some m := by
  induction N with
  | zero =>
    intro l d m k hl h
    have : l = [] := List.length_eq_zero_iff.1 (by omega)
    subst this; rw [com_nil] at h; cases h
  | succ N ih =>
    intro l d m k hl h hk
    have h0 : l ≠ [] := by rintro rfl; rw [com_nil] at h; cases h
    have hpos := List.length_pos_iff.2 h0
    have hc := com_le _ _ _ _ (Nat.le_refl _) h
    have h22 : (l.take k).take 2 = l.take 2 := by rw [List.take_take, Nat.min_eq_left (by omega)]
    by_cases h1 : l.take 2 = [40, 42]
    · rw [com_open h1] at h
      obtain ⟨m', hm, rfl⟩ := Option.map_eq_some_iff.1 h
      rw [com_open (by rw [h22]; exact h1), List.drop_take, ih _ _ _ (k - 2) (by simp; omega) hm (by omega)]; rfl
    · by_cases h2 : l.take 2 = [42, 41]
      · rw [com_close h2] at h
        rw [com_close (by rw [h22]; exact h2)]
        by_cases hd : d = 1
        · rw [if_pos hd] at h ⊢; exact h
        · rw [if_neg hd] at h ⊢
          obtain ⟨m', hm, rfl⟩ := Option.map_eq_some_iff.1 h
          rw [List.drop_take, ih _ _ _ (k - 2) (by simp; omega) hm (by omega)]; rfl
      · rw [com_step h0 h1 h2] at h
        obtain ⟨m', hm, rfl⟩ := Option.map_eq_some_iff.1 h
        rw [com_step (take_ne h0 (by omega)) (by rw [h22]; exact h1) (by rw [h22]; exact h2), List.drop_take, ih _ _ _ (k - 1) (by simp; omega) hm (by omega)]; rfl
theorem headD_app {l r : List UInt8} (h : l ≠ []) : (l ++ r).headD 0 = l.headD 0 := by
  cases l with
  | nil => exact absurd rfl h
  | cons a b => rfl
/-- blanks alone, and what stands behind them -/
theorem blk_app (N : Nat) : ∀ (l r : List UInt8), l.length ≤ N → blk l = (l.length, true) → blk (l ++ r) = (l.length + (blk r).1, (blk r).2) := by
  induction N with
  | zero =>
    intro l r hl h
    have : l = [] := List.length_eq_zero_iff.1 (by omega)
    subst this; simp
  | succ N ih =>
    intro l r hl h
    by_cases h0 : l = []
    · subst h0; simp
    have hpos := List.length_pos_iff.2 h0
    have ha : l ++ r ≠ [] := by simp [h0]
    by_cases hb : isBl (l.headD 0) = true
    · rw [blk_bl h0 hb] at h
      have e : blk (l.drop 1) = ((l.drop 1).length, true) := by
        have h1 := congrArg Prod.fst h
        have h2 := congrArg Prod.snd h
        simp only at h1 h2
        refine Prod.ext ?_ h2
        show (blk (l.drop 1)).1 = _
        rw [List.length_drop]; omega
      have := ih (l.drop 1) r (by simp; omega) e
      rw [blk_bl ha (by rw [headD_app h0]; exact hb), List.drop_append_of_le_length (by omega), this]
      simp; omega
    · have hb : isBl (l.headD 0) = false := by simpa using hb
      by_cases h2 : l.take 2 = [40, 42]
      · have h3 := two_of h2
        rw [blk_com h0 hb h2] at h
        cases e : com (l.drop 2) 1 with
        | none => rw [e] at h; injection h with h h'; cases h'
        | some m =>
          rw [e] at h
          simp only at h
          have hc := com_le _ _ _ _ (Nat.le_refl _) e
          rw [List.length_drop] at hc
          have e2 : blk (l.drop (m + 2)) = ((l.drop (m + 2)).length, true) := by
            have h1 := congrArg Prod.fst h
            have h2 := congrArg Prod.snd h
            simp only at h1 h2
            refine Prod.ext ?_ h2
            show (blk (l.drop (m + 2))).1 = _
            rw [List.length_drop]; omega
          have := ih (l.drop (m + 2)) r (by simp; omega) e2
          rw [blk_com ha (by rw [headD_app h0]; exact hb) (by rw [take_app h3]; exact h2), List.drop_append_of_le_length h3, com_app _ _ _ _ r (Nat.le_refl _) e]
          simp only
          rw [List.drop_append_of_le_length (by omega), this]
          simp; omega
      · rw [blk_else hb h2] at h
        injection h with h _
        omega
/-- blanks, and something behind them -/
theorem blk_app2 (N : Nat) : ∀ (l r : List UInt8) (n : Nat), l.length ≤ N → blk l = (n, true) → n < l.length → Stp r → blk (l ++ r) = (n, true) := by
  induction N with
  | zero => intro l r n hl h hn; omega
  | succ N ih =>
    intro l r n hl h hn hs
    have hpos : 0 < l.length := by omega
    have h0 : l ≠ [] := List.length_pos_iff.1 hpos
    have ha : l ++ r ≠ [] := by simp [h0]
    by_cases hb : isBl (l.headD 0) = true
    · rw [blk_bl h0 hb] at h
      injection h with h1 h2
      have := ih (l.drop 1) r (n - 1) (by simp; omega) (Prod.ext (by show (blk (l.drop 1)).1 = _; omega) h2) (by simp; omega) hs
      rw [blk_bl ha (by rw [headD_app h0]; exact hb), List.drop_append_of_le_length (by omega), this]
      simp; omega
    · have hb : isBl (l.headD 0) = false := by simpa using hb
      by_cases h2 : l.take 2 = [40, 42]
      · have h3 := two_of h2
        rw [blk_com h0 hb h2] at h
        cases e : com (l.drop 2) 1 with
        | none => rw [e] at h; injection h with h h'; cases h'
        | some m =>
          rw [e] at h
          simp only at h
          injection h with h1 h2'
          have hc := com_le _ _ _ _ (Nat.le_refl _) e
          rw [List.length_drop] at hc
          have := ih (l.drop (m + 2)) r (n - (m + 2)) (by simp; omega) (Prod.ext (by show (blk (l.drop (m + 2))).1 = _; omega) h2') (by simp; omega) hs
          rw [blk_com ha (by rw [headD_app h0]; exact hb) (by rw [take_app h3]; exact h2), List.drop_append_of_le_length h3, com_app _ _ _ _ r (Nat.le_refl _) e]
          simp only
          rw [List.drop_append_of_le_length (by omega), this]
          simp; omega
      · rw [blk_else hb h2] at h
        injection h with h _
        subst h
        refine blk_else (by rw [headD_app h0]; exact hb) ?_
        by_cases h3 : 2 ≤ l.length
        · rw [take_app h3]; exact h2
        · cases l with
          | nil => exact absurd rfl h0
          | cons c l =>
            cases l with
            | cons d l => exact absurd (by simp) h3
            | nil =>
              intro q
              cases r with
              | nil => simp at q
              | cons d r =>
                have : d = 42 := by simpa using congrArg (fun z => z.getD 1 0) q
                exact stp_42 (hs d r rfl) this
/-- blanks stand in any part of the text that holds them -/
theorem blk_take (N : Nat) : ∀ (l : List UInt8) (n k : Nat), l.length ≤ N → blk l = (n, true) → n ≤ k → blk (l.take k) = (n, true) := by
  induction N with
  | zero =>
    intro l n k hl h hk
    have : l = [] := List.length_eq_zero_iff.1 (by omega)
    subst this; rw [List.take_nil]; exact h
  | succ N ih =>
    intro l n k hl h hk
    by_cases h0 : l = []
    · subst h0; rw [List.take_nil]; exact h
    have hpos := List.length_pos_iff.2 h0
    by_cases hb : isBl (l.headD 0) = true
    · rw [blk_bl h0 hb] at h
      injection h with h1 h2
      have := ih (l.drop 1) (n - 1) (k - 1) (by simp; omega) (Prod.ext (by show (blk (l.drop 1)).1 = _; omega) h2) (by omega)
      rw [blk_bl (take_ne h0 (by omega)) (by rw [headD_take (by omega)]; exact hb), List.drop_take, this]
      simp; omega
    · have hb : isBl (l.headD 0) = false := by simpa using hb
      by_cases h2 : l.take 2 = [40, 42]
      · have h3 := two_of h2
        rw [blk_com h0 hb h2] at h
        cases e : com (l.drop 2) 1 with
        | none => rw [e] at h; injection h with h h'; cases h'
        | some m =>
          rw [e] at h
          simp only at h
          injection h with h1 h2'
          have hc := com_le _ _ _ _ (Nat.le_refl _) e
          rw [List.length_drop] at hc
          have := ih (l.drop (m + 2)) (n - (m + 2)) (k - (m + 2)) (by simp; omega) (Prod.ext (by show (blk (l.drop (m + 2))).1 = _; omega) h2') (by omega)
          rw [blk_com (take_ne h0 (by omega)) (by rw [headD_take (by omega)]; exact hb) (by rw [List.take_take, Nat.min_eq_left (by omega)]; exact h2), List.drop_take, com_take _ _ _ _ (k - 2) (Nat.le_refl _) e (by omega)]
          simp only
          rw [List.drop_take, this]
          simp; omega
      · rw [blk_else hb h2] at h
        injection h with h _
        subst h
        by_cases hk0 : k = 0
        · subst hk0; rw [List.take_zero, blk_nil]
        · refine blk_else (by rw [headD_take (by omega)]; exact hb) ?_
          by_cases hk2 : 2 ≤ k
          · rw [List.take_take, Nat.min_eq_left hk2]; exact h2
          · intro q
            have := congrArg List.length q
            simp at this; omega
theorem blk_drop (N : Nat) : ∀ (l : List UInt8), l.length ≤ N → (blk l).2 = true → blk (l.drop (blk l).1) = (0, true) := by
  induction N with
  | zero =>
    intro l hl h
    have : l = [] := List.length_eq_zero_iff.1 (by omega)
    subst this; rw [blk_nil]; simp [blk_nil]
  | succ N ih =>
    intro l hl h
    by_cases h0 : l = []
    · subst h0; rw [blk_nil]; simp [blk_nil]
    have hpos := List.length_pos_iff.2 h0
    by_cases hb : isBl (l.headD 0) = true
    · rw [blk_bl h0 hb] at h ⊢
      have := ih (l.drop 1) (by simp; omega) h
      rw [List.drop_drop] at this
      rw [Nat.add_comm]; exact this
    · have hb : isBl (l.headD 0) = false := by simpa using hb
      by_cases h2 : l.take 2 = [40, 42]
      · rw [blk_com h0 hb h2] at h ⊢
        cases e : com (l.drop 2) 1 with
        | none => rw [e] at h; cases h
        | some m =>
          rw [e] at h
          simp only at h ⊢
          have := ih (l.drop (m + 2)) (by simp; omega) h
          rw [List.drop_drop] at this
          rw [Nat.add_comm]; exact this
      · have e := blk_else hb h2
        rw [e, List.drop_zero, e]
/-- what stands behind blanks -/
theorem scan_blk {l r : List UInt8} {n : Nat} (hb : blk l = (n + (blk r).1, (blk r).2)) (hd : l.drop n = r) (a c : Nat) : scanT l a c = scanT r (a + n) c := by
  have hdd : l.drop (n + (blk r).1) = r.drop (blk r).1 := by rw [← hd, List.drop_drop]
  cases h : (blk r).2 with
  | false => rw [scan_open h, scan_open (by rw [hb]; exact h), hb, Nat.add_assoc]
  | true =>
    have hl : (blk l).2 = true := by rw [hb]; exact h
    have hl1 : (blk l).1 = n + (blk r).1 := by rw [hb]
    by_cases he : r.drop (blk r).1 = []
    · rw [scan_end h he, scan_end hl (by rw [hl1, hdd]; exact he), hl1, Nat.add_assoc]
    · cases hc : cutL (r.drop (blk r).1) with
      | none => rw [scan_bad h he hc, scan_bad hl (by rw [hl1, hdd]; exact he) (by rw [hl1, hdd]; exact hc), hl1, Nat.add_assoc]
      | some x =>
        rw [scan_cut h he hc, scan_cut hl (by rw [hl1, hdd]; exact he) (by rw [hl1, hdd]; exact hc), hl1]
        have e : l.drop (n + (blk r).1 + x.2) = r.drop ((blk r).1 + x.2) := by rw [← hd, List.drop_drop, Nat.add_assoc]
        rw [e, Nat.add_assoc a n]
theorem scan_ok (N : Nat) : ∀ (l : List UInt8) (a c : Nat) (ts : List (Tok × Nat)), l.length ≤ N → (scanT l a c).1 = some ts → scanT l a c = (some ts, 0, 0) := by
  induction N with
  | zero =>
    intro l a c ts hl h
    have h0 : l = [] := List.length_eq_zero_iff.1 (by omega)
    subst h0
    rw [scan_end (by rw [blk_nil]) (by simp)] at h ⊢
    injection h with h; subst h; rfl
  | succ N ih =>
    intro l a c ts hl h
    cases hb : (blk l).2 with
    | false => rw [scan_open hb] at h; cases h
    | true =>
      by_cases he : l.drop (blk l).1 = []
      · rw [scan_end hb he] at h ⊢
        injection h with h; subst h; rfl
      · cases hc : cutL (l.drop (blk l).1) with
        | none => rw [scan_bad hb he hc] at h; cases h
        | some x =>
          rw [scan_cut hb he hc] at h ⊢
          by_cases hcc : c = 1000
          · rw [if_pos hcc] at h; cases h
          · rw [if_neg hcc] at h ⊢
            unfold consR at h ⊢
            obtain ⟨us, hu, rfl⟩ := Option.map_eq_some_iff.1 h
            have hp := cut_pos hc
            rw [ih _ _ _ us (by simp at hp ⊢; omega) hu]
            rfl
theorem consR_app (x : Tok × Nat) (us : List (Tok × Nat)) (r : ScR) : consR x (appR us r) = appR (x :: us) r := by
  unfold appR consR
  obtain ⟨a, b⟩ := r
  cases a <;> simp
/-- a text cut in two where a token begins -/
theorem scan_split (N : Nat) : ∀ (l : List UInt8) (a c : Nat) (ts : List (Tok × Nat)) (i : Nat) (t : Tok) (at_ : Nat), l.length ≤ N → (scanT l a c).1 = some ts → ts[i]? = some (t, at_) →
    a ≤ at_ ∧ at_ - a ≤ l.length ∧ (∀ R, Stp R → scanT (l.take (at_ - a) ++ R) a c = appR (ts.take i) (scanT R at_ (c + i))) ∧ scanT (l.drop (at_ - a)) at_ (c + i) = (some (ts.drop i), 0, 0) := by
  have base : ∀ (l : List UInt8) (a c : Nat), (blk l).2 = true → (∀ R, Stp R → scanT (l.take (blk l).1 ++ R) a c = scanT R (a + (blk l).1) c) ∧ scanT l a c = scanT (l.drop (blk l).1) (a + (blk l).1) c := by
    intro l a c hb
    have hle := blk_le _ l (Nat.le_refl _)
    have hbe : blk l = ((blk l).1, true) := Prod.ext rfl hb
    have hlen : (l.take (blk l).1).length = (blk l).1 := by rw [List.length_take]; omega
    refine ⟨fun R _ => ?_, ?_⟩
    · have h1 := blk_take _ l (blk l).1 (blk l).1 (Nat.le_refl _) hbe (Nat.le_refl _)
      have h2 := blk_app _ (l.take (blk l).1) R (Nat.le_refl _) (by rw [h1, hlen])
      rw [hlen] at h2
      exact scan_blk h2 (by rw [List.drop_append_of_le_length (by rw [hlen]; exact Nat.le_refl _), List.drop_take, Nat.sub_self, List.take_zero, List.nil_append]) a c
    · have h1 := blk_drop _ l (Nat.le_refl _) hb
      exact scan_blk (by rw [h1]; exact hbe) rfl a c
  induction N with
  | zero =>
    intro l a c ts i t at_ hl h hi
    have h0 : l = [] := List.length_eq_zero_iff.1 (by omega)
    subst h0
    have hb := base [] a c (by rw [blk_nil])
    rw [scan_end (by rw [blk_nil]) (by simp)] at h
    injection h with h
    subst h
    cases i with
    | zero =>
      simp [blk_nil] at hi
      obtain ⟨rfl, rfl⟩ := hi
      rw [blk_nil] at hb
      refine ⟨Nat.le_refl _, by simp, fun R hR => ?_, ?_⟩
      · simp [appR_nil]
      · rw [Nat.add_zero]
        have := scan_end (l := []) (by rw [blk_nil]) (by simp) a c
        rw [blk_nil] at this ⊢
        simpa using this
    | succ i => simp at hi
  | succ N ih =>
    intro l a c ts i t at_ hl h hi
    cases hb : (blk l).2 with
    | false => rw [scan_open hb] at h; cases h
    | true =>
      have hbase := base l a c hb
      have hle := blk_le _ l (Nat.le_refl _)
      have hbe : blk l = ((blk l).1, true) := Prod.ext rfl hb
      have hall := scan_ok _ l a c ts (Nat.le_refl _) h
      by_cases hi0 : i = 0
      · subst hi0
        have hat : at_ = a + (blk l).1 := by
          by_cases he : l.drop (blk l).1 = []
          · rw [scan_end hb he] at h
            injection h with h; subst h
            simp at hi; exact hi.2.symm
          · cases hc : cutL (l.drop (blk l).1) with
            | none => rw [scan_bad hb he hc] at h; cases h
            | some x =>
              rw [scan_cut hb he hc] at h
              by_cases hcc : c = 1000
              · rw [if_pos hcc] at h; cases h
              · rw [if_neg hcc] at h
                unfold consR at h
                obtain ⟨us, hu, rfl⟩ := Option.map_eq_some_iff.1 h
                simp at hi; exact hi.2.symm
        subst hat
        have e : a + (blk l).1 - a = (blk l).1 := by omega
        rw [e, Nat.add_zero, List.take_zero, List.drop_zero]
        exact ⟨by omega, hle, fun R hR => by rw [appR_nil]; exact hbase.1 R hR, by rw [← hbase.2]; exact hall⟩
      · obtain ⟨i, rfl⟩ : ∃ j, i = j + 1 := ⟨i - 1, by omega⟩
        by_cases he : l.drop (blk l).1 = []
        · rw [scan_end hb he] at h
          injection h with h; subst h
          simp at hi
        · cases hc : cutL (l.drop (blk l).1) with
          | none => rw [scan_bad hb he hc] at h; cases h
          | some x =>
            rw [scan_cut hb he hc] at h
            by_cases hcc : c = 1000
            · rw [if_pos hcc] at h; cases h
            · rw [if_neg hcc] at h
              unfold consR at h
              obtain ⟨us, hu, rfl⟩ := Option.map_eq_some_iff.1 h
              have hp := cut_pos hc
              rw [List.length_drop] at hp
              obtain ⟨h1, h2, h3, h4⟩ := ih _ _ _ us i t at_ (by simp; omega) hu (by simpa using hi)
              rw [List.length_drop] at h2
              obtain ⟨n, hn⟩ : ∃ n, (blk l).1 = n := ⟨_, rfl⟩
              rw [hn] at hbe hle hc hp h1 h2 h3 h4 he ⊢
              obtain ⟨m, hm⟩ : ∃ m, x.2 = m := ⟨_, rfl⟩
              rw [hm] at hp h1 h2 h3 h4
              have hk1 : n + m ≤ at_ - a := by omega
              refine ⟨by omega, by omega, fun R hR => ?_, ?_⟩
              · have b1 := blk_take _ l n (at_ - a) (Nat.le_refl _) hbe (by omega)
                have hlk : (l.take (at_ - a)).length = at_ - a := by rw [List.length_take]; omega
                have b2 := blk_app2 _ _ R n (Nat.le_refl _) b1 (by rw [hlk]; omega) hR
                have d1 : (l.take (at_ - a) ++ R).drop n = (l.drop n).take (at_ - a - n) ++ R := by
                  rw [List.drop_append_of_le_length (by rw [hlk]; omega), List.drop_take]
                have c1 : cutL ((l.take (at_ - a) ++ R).drop n) = some x := by
                  rw [d1]
                  exact cut_app (cut_take hc (by rw [hm]; omega)) (.inr hR)
                have hne : (l.take (at_ - a) ++ R).drop n ≠ [] := by intro q; rw [q] at c1; cases c1
                have hs := scan_cut (l := l.take (at_ - a) ++ R) (x := x) (by rw [b2]) (by rw [b2]; exact hne) (by rw [b2]; exact c1) a c
                rw [b2] at hs
                simp only at hs
                rw [hs, if_neg hcc, hm]
                have d2 : (l.take (at_ - a) ++ R).drop (n + m) = (l.drop (n + m)).take (at_ - (a + n + m)) ++ R := by
                  rw [List.drop_append_of_le_length (by rw [hlk]; omega), List.drop_take]
                  congr 2; omega
                rw [d2, h3 R hR, consR_app, List.take_succ_cons, show c + 1 + i = c + (i + 1) by omega]
              · rw [List.drop_drop, show n + m + (at_ - (a + n + m)) = at_ - a by omega, show c + 1 + i = c + (i + 1) by omega] at h4
                exact h4
/-- the same text at another place, behind so many tokens -/
theorem scan_re (N : Nat) : ∀ (l : List UInt8) (a c : Nat) (us : List (Tok × Nat)), l.length ≤ N → (scanT l a c).1 = some us →
    ∃ rel : List (Tok × Nat), us = rel.map (fun x => (x.1, a + x.2)) ∧ ∀ a' c', c' ≤ 1000 → (c' + rel.length ≤ 1001 → scanT l a' c' = (some (rel.map fun x => (x.1, a' + x.2)), 0, 0)) ∧ (1001 < c' + rel.length → ∃ p, scanT l a' c' = (none, p, 3)) := by
  induction N with
  | zero =>
    intro l a c us hl h
    have h0 : l = [] := List.length_eq_zero_iff.1 (by omega)
    subst h0
    rw [scan_end (by rw [blk_nil]) (by simp)] at h
    injection h with h
    subst h
    refine ⟨[(tEnd, (blk []).1)], rfl, fun a' c' hc => ⟨fun _ => ?_, fun q => ?_⟩⟩
    · rw [scan_end (by rw [blk_nil]) (by simp)]; rfl
    · simp at q; omega
  | succ N ih =>
    intro l a c us hl h
    cases hb : (blk l).2 with
    | false => rw [scan_open hb] at h; cases h
    | true =>
      by_cases he : l.drop (blk l).1 = []
      · rw [scan_end hb he] at h
        injection h with h
        subst h
        refine ⟨[(tEnd, (blk l).1)], rfl, fun a' c' hc => ⟨fun _ => ?_, fun q => ?_⟩⟩
        · rw [scan_end hb he]; rfl
        · simp at q; omega
      · cases hc : cutL (l.drop (blk l).1) with
        | none => rw [scan_bad hb he hc] at h; cases h
        | some x =>
          rw [scan_cut hb he hc] at h
          by_cases hcc : c = 1000
          · rw [if_pos hcc] at h; cases h
          · rw [if_neg hcc] at h
            unfold consR at h
            obtain ⟨vs, hu, rfl⟩ := Option.map_eq_some_iff.1 h
            have hp := cut_pos hc
            rw [List.length_drop] at hp
            obtain ⟨rel, hr, hre⟩ := ih _ _ _ vs (by simp; omega) hu
            refine ⟨(x.1, (blk l).1) :: rel.map (fun y => (y.1, (blk l).1 + x.2 + y.2)), ?_, fun a' c' hc' => ?_⟩
            · rw [hr, List.map_cons, List.map_map]
              congr 1
              apply List.map_congr_left
              intro y _
              simp only [Function.comp]
              congr 1; omega
            · rw [scan_cut hb he hc]
              rw [List.length_cons, List.length_map]
              have hrl : 1 ≤ rel.length := by
                cases rel with
                | nil =>
                  rw [hr] at hu
                  exfalso
                  have := scan_ok _ _ _ _ _ (Nat.le_refl _) hu
                  cases q : (blk (l.drop ((blk l).1 + x.2))).2 with
                  | false => rw [scan_open q] at hu; cases hu
                  | true =>
                    by_cases he2 : (l.drop ((blk l).1 + x.2)).drop (blk (l.drop ((blk l).1 + x.2))).1 = []
                    · rw [scan_end q he2] at hu; simp at hu
                    · cases hc2 : cutL ((l.drop ((blk l).1 + x.2)).drop (blk (l.drop ((blk l).1 + x.2))).1) with
                      | none => rw [scan_bad q he2 hc2] at hu; cases hu
                      | some z =>
                        rw [scan_cut q he2 hc2] at hu
                        split at hu
                        · cases hu
                        · unfold consR at hu
                          obtain ⟨_, _, hz⟩ := Option.map_eq_some_iff.1 hu
                          cases hz
                | cons _ _ => simp
              by_cases h1000 : c' = 1000
              · rw [if_pos h1000]
                exact ⟨fun q => by omega, fun _ => ⟨_, rfl⟩⟩
              · rw [if_neg h1000]
                obtain ⟨g1, g2⟩ := hre (a' + (blk l).1 + x.2) (c' + 1) (by omega)
                refine ⟨fun q => ?_, fun q => ?_⟩
                · rw [g1 (by omega)]
                  unfold consR
                  simp only [Option.map_some, List.map_cons, List.map_map]
                  congr 3
                  apply List.map_congr_left
                  intro y _
                  simp only [Function.comp]
                  congr 1; omega
                · obtain ⟨p, hp2⟩ := g2 (by omega)
                  exact ⟨p, by rw [hp2]; rfl⟩
end Go.Proofs.YtphhokpbkcdljaaDoor
