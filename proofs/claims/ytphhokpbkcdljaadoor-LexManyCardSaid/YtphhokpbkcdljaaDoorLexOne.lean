/- Plain mathematics: texts cut into tokens. Conditions: none. Plain mathematics: the token that the program cuts is the longest one. Conditions: none. -/
namespace Go.Proofs.YtphhokpbkcdljaaDoor
def keysL : List (List UInt8) := [[97, 110, 100], [97, 110, 100, 97, 108, 115, 111], [99, 97, 115, 101], [100, 97, 116, 97, 116, 121, 112, 101], [100, 105, 118], [101, 108, 115, 101], [101, 110, 100], [101, 120, 99, 101, 112, 116, 105, 111, 110], [102, 110], [102, 117, 110], [104, 97, 110, 100, 108, 101], [105, 102], [105, 110], [105, 116, 111, 115], [108, 101, 116], [109, 111, 100], [110, 111, 116], [111, 102], [111, 114, 100], [111, 114, 101, 108, 115, 101], [114, 97, 105, 115, 101], [114, 101, 102], [115, 105, 122, 101], [115, 116, 114], [116, 104, 101, 110], [118, 97, 108]]
def capsL : List (List UInt8) := [[116, 114, 117, 101], [102, 97, 108, 115, 101], [110, 105, 108]]
def signsL : List (List UInt8) := [[45, 62], [61, 62], [58, 58], [58, 61], [60, 61], [62, 61], [60, 62], [61], [60], [62], [43], [45], [42], [94], [33], [126], [40], [41], [44], [59], [124], [95]]
def isDg (c : UInt8) : Bool := decide (48 ≤ c.toNat) && decide (c.toNat ≤ 57)
def isSm (c : UInt8) : Bool := decide (97 ≤ c.toNat) && decide (c.toNat ≤ 122)
def isLg (c : UInt8) : Bool := decide (65 ≤ c.toNat) && decide (c.toNat ≤ 90)
def isBl (c : UInt8) : Bool := decide (c.toNat = 9) || decide (c.toNat = 10) || decide (c.toNat = 13) || decide (c.toNat = 32)
def part0 (c : UInt8) : Bool := isSm c || isLg c || isDg c || decide (c.toNat = 95)
def part1 (c : UInt8) : Bool := part0 c || decide (c.toNat = 39)
structure Tok where
  kind : Nat
  text : List UInt8
  num : Nat
/-- how many bytes a comment takes behind its beginning, so many being open -/
def com (l : List UInt8) (d : Nat) : Option Nat :=
  if _h : l = [] then none
  else if l.take 2 = [40, 42] then (com (l.drop 2) (d + 1)).map (· + 2)
  else if l.take 2 = [42, 41] then if d = 1 then some 2 else (com (l.drop 2) (d - 1)).map (· + 2)
  else (com (l.drop 1) d).map (· + 1)
termination_by l.length
decreasing_by all_goals (have := List.length_pos_iff.2 _h; simp; omega)
/-- blanks and comments -/
def blk (l : List UInt8) : Nat × Bool :=
  if _h : l = [] then (0, true)
  else if isBl (l.headD 0) = true then ((blk (l.drop 1)).1 + 1, (blk (l.drop 1)).2)
  else if l.take 2 = [40, 42] then
    match com (l.drop 2) 1 with
    | none => (0, false)
    | some n => ((blk (l.drop (n + 2))).1 + (n + 2), (blk (l.drop (n + 2))).2)
  else (0, true)
termination_by l.length
decreasing_by all_goals (have := List.length_pos_iff.2 _h; simp; omega)
def run (p : UInt8 → Bool) (l : List UInt8) : Nat := (l.takeWhile p).length
def dvl (l : List UInt8) : Nat := l.foldl (fun a c => a * 10 + (c.toNat - 48)) 0
def d16 (c : UInt8) : Option Nat := if isDg c = true then some (c.toNat - 48) else if 65 ≤ c.toNat ∧ c.toNat ≤ 70 then some (c.toNat - 55) else none
/-- the first sign of what stands in quotes, and how long it is -/
def sgn : List UInt8 → Option (UInt8 × Nat)
  | [] => none
  | c :: r =>
    if c.toNat < 32 ∨ 126 < c.toNat ∨ c.toNat = 34 then none
    else if c.toNat ≠ 92 then some (c, 1)
    else match r with
      | [] => none
      | x :: r =>
        if x.toNat = 34 ∨ x.toNat = 92 then some (x, 2)
        else if x.toNat = 110 then some (10, 2)
        else if x.toNat = 116 then some (9, 2)
        else if x.toNat = 120 then
          match r with
          | y :: z :: _ => match d16 y, d16 z with
            | some a, some b => some (UInt8.ofNat (16 * a + b), 4)
            | _, _ => none
          | _ => none
        else none
theorem sgn_cons (c : UInt8) (r : List UInt8) : sgn (c :: r) =
    if c.toNat < 32 ∨ 126 < c.toNat ∨ c.toNat = 34 then none
    else if c.toNat ≠ 92 then some (c, 1)
    else match r with
      | [] => none
      | x :: r =>
        if x.toNat = 34 ∨ x.toNat = 92 then some (x, 2)
        else if x.toNat = 110 then some (10, 2)
        else if x.toNat = 116 then some (9, 2)
        else if x.toNat = 120 then
          match r with
          | y :: z :: _ => match d16 y, d16 z with
            | some a, some b => some (UInt8.ofNat (16 * a + b), 4)
            | _, _ => none
          | _ => none
        else none := rfl
theorem sgn_pos {l : List UInt8} {x : UInt8 × Nat} (h : sgn l = some x) : 1 ≤ x.2 ∧ x.2 ≤ 4 ∧ x.2 ≤ l.length := by
  unfold sgn at h
  split at h
  · cases h
  · rename_i c r
    split at h
    · cases h
    · split at h
      · injection h with h; subst h; simp
      · split at h
        · cases h
        · split at h
          · injection h with h; subst h; simp
          · split at h
            · injection h with h; subst h; simp
            · split at h
              · injection h with h; subst h; simp
              · split at h
                · split at h
                  · split at h
                    · injection h with h; subst h; simp
                    · cases h
                  · cases h
                · cases h
/-- a text behind its first quote: what it says, and how long it is -/
def txt (l : List UInt8) : Option (List UInt8 × Nat) :=
  if l.headD 0 = 34 then some ([], 1)
  else match _h : sgn l with
    | none => none
    | some x => (txt (l.drop x.2)).map fun y => (x.1 :: y.1, y.2 + x.2)
termination_by l.length
decreasing_by (have := sgn_pos _h; simp; omega)
def maxI : Nat := 4611686018427387903
def numL (s : List UInt8) : Option Nat := if s ≠ [] ∧ s.all isDg = true ∧ dvl s ≤ maxI then some (dvl s) else none
def quotedL : List UInt8 → Option (List UInt8)
  | [] => none
  | c :: r => if c.toNat = 34 then match txt r with
      | some y => if y.2 = r.length then some y.1 else none
      | none => none
    else none
theorem quotedL_cons (c : UInt8) (r : List UInt8) : quotedL (c :: r) = if c.toNat = 34 then match txt r with
      | some y => if y.2 = r.length then some y.1 else none
      | none => none
    else none := rfl
def wordL : List UInt8 → Bool
  | [] => false
  | c :: r => (isSm c || isLg c) && r.all part1
def tvarL : List UInt8 → Bool
  | c :: d :: r => decide (c.toNat = 39) && isSm d && r.all part0
  | _ => false
def kindW (s : List UInt8) : Nat := if s ∈ keysL then 6 else if isLg (s.headD 0) = true ∨ s ∈ capsL then 4 else 3
/-- the token whose text is just this one -/
def tokL (s : List UInt8) : Option Tok :=
  match numL s with
  | some n => some ⟨1, [], n⟩
  | none => match quotedL s with
    | some t => some ⟨2, t, 0⟩
    | none => if wordL s = true then some ⟨kindW s, s, 0⟩ else if tvarL s = true then some ⟨5, s, 0⟩ else if s ∈ signsL then some ⟨7, s, 0⟩ else none
/-- the longest of so many bytes at most -/
def down (l : List UInt8) : Nat → Option (Tok × Nat)
  | 0 => none
  | n + 1 => match tokL (l.take (n + 1)) with
    | some t => some (t, n + 1)
    | none => down l n
def longL (l : List UInt8) : Option (Tok × Nat) :=
  if run isDg l > 0 then (tokL (l.take (run isDg l))).map (·, run isDg l) else down l l.length
/-- the sign that a text begins with -/
def signP (l : List UInt8) : Option (List UInt8) := signsL.find? fun s => decide (l.take s.length = s)
/-- the token that a text begins with, as the program cuts it -/
def cutL (l : List UInt8) : Option (Tok × Nat) :=
  match l with
  | [] => none
  | c :: r =>
    if isDg c = true then (if dvl (l.take (run isDg l)) ≤ maxI then some (⟨1, [], dvl (l.take (run isDg l))⟩, run isDg l) else none)
    else if c.toNat = 34 then (txt r).map fun y => (⟨2, y.1, 0⟩, y.2 + 1)
    else if isSm c = true ∨ isLg c = true then some (⟨kindW (l.take (run part1 r + 1)), l.take (run part1 r + 1), 0⟩, run part1 r + 1)
    else if c.toNat = 39 ∧ isSm (r.headD 0) = true then some (⟨5, l.take (run part0 r + 1), 0⟩, run part0 r + 1)
    else (signP l).map fun s => (⟨7, s, 0⟩, s.length)
end Go.Proofs.YtphhokpbkcdljaaDoor
namespace Go.Proofs.YtphhokpbkcdljaaDoor
theorem sign_head : ∀ s ∈ signsL, s ≠ [] ∧ s.length ≤ 2 ∧ isDg (s.headD 0) = false ∧ (s.headD 0).toNat ≠ 34 ∧ isSm (s.headD 0) = false ∧ isLg (s.headD 0) = false ∧ (s.headD 0).toNat ≠ 39 := by decide
theorem run_le (p : UInt8 → Bool) (l : List UInt8) : run p l ≤ l.length := by
  unfold run; exact (List.takeWhile_sublist p).length_le
theorem run_cons (p : UInt8 → Bool) (c : UInt8) (r : List UInt8) : run p (c :: r) = if p c = true then run p r + 1 else 0 := by
  unfold run
  by_cases h : p c = true
  · rw [List.takeWhile_cons_of_pos h, if_pos h]; rfl
  · rw [List.takeWhile_cons_of_neg h, if_neg h]; rfl
theorem run_take (p : UInt8 → Bool) : ∀ (l : List UInt8) (n : Nat), n ≤ l.length → ((l.take n).all p = true ↔ n ≤ run p l)
  | l, 0, _ => by simp
  | [], n + 1, h => by simp at h
  | c :: r, n + 1, h => by
    rw [run_cons]
    have ih := run_take p r n (by simpa using h)
    rw [List.take_succ_cons, List.all_cons, Bool.and_eq_true]
    by_cases hc : p c = true
    · rw [if_pos hc, ih]
      exact ⟨fun h => by omega, fun h => ⟨hc, by omega⟩⟩
    · rw [if_neg hc]
      exact ⟨fun h => absurd h.1 hc, fun h => by omega⟩
theorem run_stop (p : UInt8 → Bool) (l : List UInt8) (h : run p l < l.length) : p (l[run p l]'h) = false := by
  induction l with
  | nil => simp at h
  | cons c r ih =>
    by_cases hc : p c = true
    · have hr : run p (c :: r) = run p r + 1 := by rw [run_cons, if_pos hc]
      have h2 : run p r < r.length := by rw [hr] at h; simpa using h
      have := ih h2
      simp only [hr, List.getElem_cons_succ]
      exact this
    · have hr : run p (c :: r) = 0 := by rw [run_cons, if_neg hc]
      simp only [hr, List.getElem_cons_zero]
      simpa using hc
theorem run_at (p : UInt8 → Bool) : ∀ (l : List UInt8) (i : Nat) (h : i < l.length), i < run p l → p l[i] = true
  | [], i, h, _ => by simp at h
  | c :: r, i, h, hi => by
    rw [run_cons] at hi
    by_cases hc : p c = true
    · rw [if_pos hc] at hi
      cases i with
      | zero => exact hc
      | succ i => exact run_at p r i (by simpa using h) (by omega)
    · rw [if_neg hc] at hi; omega
theorem down_none {l : List UInt8} : ∀ {N : Nat}, (∀ n, 1 ≤ n → n ≤ N → tokL (l.take n) = none) → down l N = none
  | 0, _ => rfl
  | N + 1, h => by
    rw [down, h (N + 1) (by omega) (Nat.le_refl _)]
    exact down_none fun n h1 h2 => h n h1 (by omega)
theorem down_some {l : List UInt8} {n : Nat} {t : Tok} (h1 : 1 ≤ n) (ht : tokL (l.take n) = some t) : ∀ {N : Nat}, n ≤ N → (∀ m, n < m → m ≤ N → tokL (l.take m) = none) → down l N = some (t, n)
  | 0, h, _ => by omega
  | N + 1, h, hm => by
    by_cases e : n = N + 1
    · subst e; rw [down, ht]
    · rw [down, hm (N + 1) (by omega) (Nat.le_refl _)]
      exact down_some h1 ht (by omega) fun m h2 h3 => hm m h2 (by omega)
theorem numL_no {c : UInt8} {r : List UInt8} (h : isDg c = false) : numL (c :: r) = none := by
  unfold numL; rw [if_neg]; rintro ⟨_, h2, _⟩; simp [h] at h2
theorem quotedL_no {c : UInt8} {r : List UInt8} (h : c.toNat ≠ 34) : quotedL (c :: r) = none := by
  rw [quotedL_cons, if_neg h]
theorem wordL_no {c : UInt8} {r : List UInt8} (h1 : isSm c = false) (h2 : isLg c = false) : wordL (c :: r) = false := by
  unfold wordL; simp [h1, h2]
theorem tvarL_no {c : UInt8} {r : List UInt8} (h : c.toNat ≠ 39 ∨ isSm (r.headD 0) = false) : tvarL (c :: r) = false := by
  cases r with
  | nil => rfl
  | cons d r =>
    unfold tvarL
    rcases h with h | h
    · simp [h]
    · have h : isSm d = false := h
      simp [h]
theorem sign_no {c : UInt8} {r : List UInt8} (h : isDg c = true ∨ c.toNat = 34 ∨ isSm c = true ∨ isLg c = true ∨ c.toNat = 39) : ¬ (c :: r) ∈ signsL := by
  intro hm
  obtain ⟨_, _, h1, h2, h3, h4, h5⟩ := sign_head _ hm
  simp only [List.headD_cons] at h1 h2 h3 h4 h5
  rcases h with h | h | h | h | h
  · rw [h1] at h; cases h
  · exact h2 h
  · rw [h3] at h; cases h
  · rw [h4] at h; cases h
  · exact h5 h
theorem dg_bd {c : UInt8} (h : isDg c = true) : 48 ≤ c.toNat ∧ c.toNat ≤ 57 := by unfold isDg at h; simpa using h
theorem sm_bd {c : UInt8} (h : isSm c = true) : 97 ≤ c.toNat ∧ c.toNat ≤ 122 := by unfold isSm at h; simpa using h
theorem lg_bd {c : UInt8} (h : isLg c = true) : 65 ≤ c.toNat ∧ c.toNat ≤ 90 := by unfold isLg at h; simpa using h
theorem dg_no {c : UInt8} (h : ¬ (48 ≤ c.toNat ∧ c.toNat ≤ 57)) : isDg c = false := by
  cases e : isDg c with
  | false => rfl
  | true => exact absurd (dg_bd e) h
theorem sm_no {c : UInt8} (h : ¬ (97 ≤ c.toNat ∧ c.toNat ≤ 122)) : isSm c = false := by
  cases e : isSm c with
  | false => rfl
  | true => exact absurd (sm_bd e) h
theorem lg_no {c : UInt8} (h : ¬ (65 ≤ c.toNat ∧ c.toNat ≤ 90)) : isLg c = false := by
  cases e : isLg c with
  | false => rfl
  | true => exact absurd (lg_bd e) h
/-- a text is of digits alone -/
theorem tokL_digits {c : UInt8} {r : List UInt8} (h : isDg c = true) : tokL (c :: r) = if (c :: r).all isDg = true ∧ dvl (c :: r) ≤ maxI then some ⟨1, [], dvl (c :: r)⟩ else none := by
  have hb := dg_bd h
  unfold tokL
  rw [quotedL_no (by omega), wordL_no (sm_no (by omega)) (lg_no (by omega)), tvarL_no (.inl (by omega)), if_neg (sign_no (.inl h))]
  unfold numL
  by_cases h2 : (c :: r).all isDg = true ∧ dvl (c :: r) ≤ maxI
  · rw [if_pos ⟨by simp, h2⟩, if_pos h2]
  · rw [if_neg (fun q => h2 q.2), if_neg h2]; rfl
theorem tokL_quoted {c : UInt8} {r : List UInt8} (h : c.toNat = 34) : tokL (c :: r) = match quotedL (c :: r) with
    | some t => some ⟨2, t, 0⟩
    | none => none := by
  unfold tokL
  rw [numL_no (dg_no (by omega)), wordL_no (sm_no (by omega)) (lg_no (by omega)), tvarL_no (.inl (by omega)), if_neg (sign_no (.inr (.inl h)))]
  cases quotedL (c :: r) <;> rfl
theorem tokL_word {c : UInt8} {r : List UInt8} (h : isSm c = true ∨ isLg c = true) : tokL (c :: r) = if r.all part1 = true then some ⟨kindW (c :: r), c :: r, 0⟩ else none := by
  have hb : (97 ≤ c.toNat ∧ c.toNat ≤ 122) ∨ (65 ≤ c.toNat ∧ c.toNat ≤ 90) := h.imp sm_bd lg_bd
  unfold tokL
  rw [numL_no (dg_no (by omega)), quotedL_no (by omega), tvarL_no (.inl (by omega)), if_neg (sign_no (.inr (.inr (h.elim .inl (fun q => .inr (.inl q))))))]
  have hw : wordL (c :: r) = r.all part1 := by
    unfold wordL
    rcases h with h | h <;> simp [h]
  rw [hw]
  cases r.all part1 <;> rfl
theorem tokL_tvar {c : UInt8} {r : List UInt8} (h : c.toNat = 39) : tokL (c :: r) = if tvarL (c :: r) = true then some ⟨5, c :: r, 0⟩ else none := by
  unfold tokL
  rw [numL_no (dg_no (by omega)), quotedL_no (by omega), wordL_no (sm_no (by omega)) (lg_no (by omega)), if_neg (sign_no (.inr (.inr (.inr (.inr h)))))]
  cases tvarL (c :: r) <;> rfl
theorem tokL_sign {c : UInt8} {r : List UInt8} (h1 : isDg c = false) (h2 : c.toNat ≠ 34) (h3 : isSm c = false) (h4 : isLg c = false) (h5 : c.toNat ≠ 39) : tokL (c :: r) = if (c :: r) ∈ signsL then some ⟨7, c :: r, 0⟩ else none := by
  unfold tokL
  rw [numL_no h1, quotedL_no h2, wordL_no h3 h4, tvarL_no (.inl h5)]
  rfl
theorem sgn_take {l : List UInt8} {x : UInt8 × Nat} (h : sgn l = some x) {n : Nat} (hn : x.2 ≤ n) : sgn (l.take n) = some x := by
  have hp := sgn_pos h
  cases l with
  | nil => cases h
  | cons c r =>
    obtain ⟨n, rfl⟩ : ∃ m, n = m + 1 := ⟨n - 1, by omega⟩
    rw [List.take_succ_cons]
    rw [sgn_cons] at h ⊢
    split at h
    · cases h
    · rename_i h1
      rw [if_neg h1]
      split at h
      · rename_i h2; rw [if_pos h2]; exact h
      · rename_i h2
        rw [if_neg h2]
        cases r with
        | nil => cases h
        | cons x1 r =>
          simp only at h
          have hn2 : 2 ≤ n + 1 := by
            repeat' split at h
            all_goals first | (injection h with h; subst h; exact hn) | (cases h; done) | (injection h with h; subst h; simp at hn; omega)
          obtain ⟨n, rfl⟩ : ∃ m, n = m + 1 := ⟨n - 1, by omega⟩
          rw [List.take_succ_cons]
          simp only
          split at h
          · rename_i h3; rw [if_pos h3]; exact h
          · rename_i h3; rw [if_neg h3]
            split at h
            · rename_i h4; rw [if_pos h4]; exact h
            · rename_i h4; rw [if_neg h4]
              split at h
              · rename_i h5; rw [if_pos h5]; exact h
              · rename_i h5; rw [if_neg h5]
                split at h
                · rename_i h6; rw [if_pos h6]
                  cases r with
                  | nil => cases h
                  | cons y r =>
                    cases r with
                    | nil => cases h
                    | cons z r =>
                      simp only at h
                      split at h
                      · injection h with h
                        subst h
                        simp only at hn
                        obtain ⟨n, rfl⟩ : ∃ m, n = m + 2 := ⟨n - 2, by omega⟩
                        rw [List.take_succ_cons, List.take_succ_cons]
                        simp only [*]
                      · cases h
                · cases h
theorem sgn_of_take {l : List UInt8} {x : UInt8 × Nat} {n : Nat} (h : sgn (l.take n) = some x) : sgn l = some x := by
  cases l with
  | nil => simp [sgn] at h
  | cons c r =>
    cases n with
    | zero => simp [sgn] at h
    | succ n =>
      rw [List.take_succ_cons] at h
      rw [sgn_cons] at h ⊢
      split at h
      · cases h
      · rename_i h1
        rw [if_neg h1]
        split at h
        · rename_i h2; rw [if_pos h2]; exact h
        · rename_i h2
          rw [if_neg h2]
          cases r with
          | nil => simp at h
          | cons x1 r =>
            cases n with
            | zero => simp at h
            | succ n =>
              rw [List.take_succ_cons] at h
              simp only at h ⊢
              split at h
              · rename_i h3; rw [if_pos h3]; exact h
              · rename_i h3; rw [if_neg h3]
                split at h
                · rename_i h4; rw [if_pos h4]; exact h
                · rename_i h4; rw [if_neg h4]
                  split at h
                  · rename_i h5; rw [if_pos h5]; exact h
                  · rename_i h5; rw [if_neg h5]
                    split at h
                    · rename_i h6; rw [if_pos h6]
                      cases r with
                      | nil => simp at h
                      | cons y r =>
                        cases n with
                        | zero => simp at h
                        | succ n =>
                          cases r with
                          | nil => simp at h
                          | cons z r =>
                            cases n with
                            | zero => simp at h
                            | succ n =>
                              rw [List.take_succ_cons, List.take_succ_cons] at h
                              simpa using h
                    · cases h
theorem headD_take {l : List UInt8} {n : Nat} (h : 1 ≤ n) : (l.take n).headD 0 = l.headD 0 := by
  cases l with
  | nil => simp
  | cons c r =>
    obtain ⟨n, rfl⟩ : ∃ m, n = m + 1 := ⟨n - 1, by omega⟩
    rfl
theorem txt_pos {l : List UInt8} {y : List UInt8 × Nat} (h : txt l = some y) : 1 ≤ y.2 ∧ y.2 ≤ l.length := by
  induction l using txt.induct generalizing y with
  | case1 l hq =>
    rw [txt, if_pos hq] at h
    injection h with h
    subst h
    cases l with
    | nil => simp at hq
    | cons c r => simp
  | case2 l hq hs =>
    rw [txt, if_neg hq] at h
    split at h
    · cases h
    · rename_i h2; rw [hs] at h2; cases h2
  | case3 l hq x hs ih =>
    rw [txt, if_neg hq] at h
    split at h
    · rename_i h2; rw [hs] at h2; cases h2
    · rename_i x' h2
      rw [hs] at h2
      injection h2 with h2
      subst h2
      cases e : txt (l.drop x.2) with
      | none => rw [e] at h; cases h
      | some z =>
        rw [e] at h
        injection h with h
        subst h
        have h3 := ih e
        have h4 := sgn_pos hs
        simp at h3 ⊢
        omega
theorem txt_take {l : List UInt8} {y : List UInt8 × Nat} (h : txt l = some y) {n : Nat} (hn : y.2 ≤ n) : txt (l.take n) = some y := by
  induction l using txt.induct generalizing y n with
  | case1 l hq =>
    rw [txt, if_pos hq] at h
    injection h with h
    subst h
    rw [txt, headD_take hn, if_pos hq]
  | case2 l hq hs =>
    rw [txt, if_neg hq] at h
    split at h
    · cases h
    · rename_i h2; rw [hs] at h2; cases h2
  | case3 l hq x hs ih =>
    rw [txt, if_neg hq] at h
    split at h
    · rename_i h2; rw [hs] at h2; cases h2
    · rename_i x' h2
      rw [hs] at h2
      injection h2 with h2
      subst h2
      cases e : txt (l.drop x.2) with
      | none => rw [e] at h; cases h
      | some z =>
        rw [e] at h
        injection h with h
        subst h
        have h3 := txt_pos e
        simp only at hn
        have h5 := ih e (n := n - x.2) (by omega)
        rw [txt, headD_take (by omega), if_neg hq]
        split
        · rename_i h6; rw [sgn_take hs (by omega)] at h6; cases h6
        · rename_i x' h6
          rw [sgn_take hs (by omega)] at h6
          injection h6 with h6
          subst h6
          rw [List.drop_take, h5]
          rfl
theorem txt_of_take {l : List UInt8} {y : List UInt8 × Nat} {n : Nat} (h : txt (l.take n) = some y) : txt l = some y := by
  induction l using txt.induct generalizing y n with
  | case1 l hq =>
    have hn : 1 ≤ n := by
      cases n with
      | zero => have := txt_pos h; simp at this; omega
      | succ n => omega
    rw [txt, headD_take hn, if_pos hq] at h
    rw [txt, if_pos hq]; exact h
  | case2 l hq hs =>
    have hn : 1 ≤ n := by
      cases n with
      | zero => have := txt_pos h; simp at this; omega
      | succ n => omega
    rw [txt, headD_take hn, if_neg hq] at h
    split at h
    · cases h
    · rename_i h2; rw [sgn_of_take h2] at hs; cases hs
  | case3 l hq x hs ih =>
    have hn : 1 ≤ n := by
      cases n with
      | zero => have := txt_pos h; simp at this; omega
      | succ n => omega
    rw [txt, headD_take hn, if_neg hq] at h
    split at h
    · cases h
    · rename_i x' h2
      have h3 := sgn_of_take h2
      rw [hs] at h3
      injection h3 with h3
      subst h3
      rw [List.drop_take] at h
      cases e : txt ((l.drop x.2).take (n - x.2)) with
      | none => rw [e] at h; cases h
      | some z =>
        rw [e] at h
        have h5 := ih e
        rw [txt, if_neg hq]
        split
        · rename_i h6; rw [hs] at h6; cases h6
        · rename_i x' h6
          rw [hs] at h6
          injection h6 with h6
          subst h6
          rw [h5]; exact h
def S2 : List (List UInt8) := signsL.take 7
def S1 : List (List UInt8) := signsL.drop 7
theorem signs_parts : signsL = S2 ++ S1 := (List.take_append_drop 7 signsL).symm
theorem S2_len : ∀ s ∈ S2, s.length = 2 := by decide
theorem S1_len : ∀ s ∈ S1, s.length = 1 := by decide
theorem find_take {l : List UInt8} {k : Nat} : ∀ (L : List (List UInt8)), (∀ s ∈ L, s.length = k) → L.find? (fun s => decide (l.take s.length = s)) = if l.take k ∈ L then some (l.take k) else none
  | [], _ => by simp
  | s :: L, h => by
    have ih := find_take (l := l) L fun s hs => h s (List.mem_cons_of_mem _ hs)
    have hs := h s List.mem_cons_self
    rw [List.find?_cons]
    by_cases e : l.take s.length = s
    · rw [decide_eq_true e]
      rw [hs] at e
      simp only
      rw [if_pos (by rw [e]; exact List.mem_cons_self), e]
    · rw [decide_eq_false e]
      simp only
      rw [ih]
      rw [hs] at e
      by_cases h2 : l.take k ∈ L
      · rw [if_pos h2, if_pos (List.mem_cons_of_mem _ h2)]
      · rw [if_neg h2, if_neg (fun q => by
          rcases List.mem_cons.1 q with q | q
          · exact e q
          · exact h2 q)]
theorem signP_eq (l : List UInt8) : signP l = if l.take 2 ∈ S2 then some (l.take 2) else if l.take 1 ∈ S1 then some (l.take 1) else none := by
  unfold signP
  rw [signs_parts, List.find?_append, find_take S2 S2_len, find_take S1 S1_len]
  by_cases h : l.take 2 ∈ S2
  · rw [if_pos h, if_pos h]; rfl
  · rw [if_neg h, if_neg h]; rfl
/-- the token that the program cuts is the longest -/
theorem cut_long {l : List UInt8} (h0 : l ≠ []) : longL l = cutL l := by
  cases l with
  | nil => exact absurd rfl h0
  | cons c r =>
    unfold longL cutL
    simp only
    by_cases hd : isDg c = true
    · rw [if_pos hd, if_pos (by rw [run_cons, if_pos hd]; omega)]
      have hk : run isDg (c :: r) = run isDg r + 1 := by rw [run_cons, if_pos hd]
      have hall : ((c :: r).take (run isDg (c :: r))).all isDg = true := (run_take isDg (c :: r) _ (run_le _ _)).2 (Nat.le_refl _)
      rw [hk] at hall ⊢
      rw [List.take_succ_cons] at hall ⊢
      rw [tokL_digits hd]
      by_cases h2 : dvl (c :: r.take (run isDg r)) ≤ maxI
      · rw [if_pos ⟨hall, h2⟩, if_pos h2]; rfl
      · rw [if_neg (fun q => h2 q.2), if_neg h2]; rfl
    rw [if_neg hd, if_neg (by rw [run_cons, if_neg hd]; omega)]
    have hd' : isDg c = false := by simpa using hd
    have htk : ∀ n, 1 ≤ n → (c :: r).take n = c :: r.take (n - 1) := fun n hn => by
      obtain ⟨m, rfl⟩ : ∃ m, n = m + 1 := ⟨n - 1, by omega⟩
      rfl
    by_cases hq : c.toNat = 34
    · rw [if_pos hq]
      cases e : txt r with
      | none =>
        refine down_none fun n h1 h2 => ?_
        rw [htk n h1, tokL_quoted hq]
        have : quotedL (c :: r.take (n - 1)) = none := by
          rw [quotedL_cons, if_pos hq]
          cases e2 : txt (r.take (n - 1)) with
          | none => rfl
          | some y => rw [txt_of_take e2] at e; cases e
        rw [this]
      | some y =>
        have hp := txt_pos e
        refine down_some (n := y.2 + 1) (by omega) ?_ (by simp; omega) fun m h1 h2 => ?_
        · rw [htk _ (by omega), tokL_quoted hq]
          have : quotedL (c :: r.take (y.2 + 1 - 1)) = some y.1 := by
            rw [quotedL_cons, if_pos hq, txt_take e (by omega)]
            simp only
            rw [if_pos (by simp; omega)]
          rw [this]
        · rw [htk _ (by omega), tokL_quoted hq]
          have : quotedL (c :: r.take (m - 1)) = none := by
            rw [quotedL_cons, if_pos hq, txt_take e (by omega)]
            simp only
            rw [if_neg (by simp at h2 ⊢; omega)]
          rw [this]
    rw [if_neg hq]
    by_cases hw : isSm c = true ∨ isLg c = true
    · rw [if_pos hw]
      have hrl := run_le part1 r
      refine down_some (by omega) ?_ (by simp; omega) fun m h1 h2 => ?_
      · rw [htk _ (by omega), tokL_word hw, if_pos ((run_take part1 r _ (by omega)).2 (by omega))]
      · rw [htk _ (by omega), tokL_word hw, if_neg (fun q => by
          have := (run_take part1 r _ (by simp at h2; omega)).1 q
          omega)]
    rw [if_neg hw]
    have hs' : isSm c = false := by
      cases e : isSm c with
      | false => rfl
      | true => exact absurd (.inl e) hw
    have hl' : isLg c = false := by
      cases e : isLg c with
      | false => rfl
      | true => exact absurd (.inr e) hw
    by_cases hp : c.toNat = 39
    · by_cases hsm : isSm (r.headD 0) = true
      · rw [if_pos ⟨hp, hsm⟩]
        cases r with
        | nil => simp [isSm] at hsm
        | cons d r =>
          have hsm : isSm d = true := hsm
          have hp0 : part0 d = true := by unfold part0; simp [hsm]
          have hrl := run_le part0 r
          have hrc : run part0 (d :: r) = run part0 r + 1 := by rw [run_cons, if_pos hp0]
          refine down_some (by omega) ?_ (by simp; omega) fun m h1 h2 => ?_
          · rw [htk _ (by omega), tokL_tvar hp, if_pos]
            rw [show run part0 (d :: r) + 1 - 1 = run part0 r + 1 by omega, List.take_succ_cons]
            unfold tvarL
            have := (run_take part0 r _ (by omega)).2 (Nat.le_refl _)
            simp [hp, hsm]
            simpa using this
          · rw [htk _ (by omega), tokL_tvar hp, if_neg]
            obtain ⟨k, hk⟩ : ∃ k, m - 1 = k + 1 := ⟨m - 2, by omega⟩
            rw [hk, List.take_succ_cons]
            unfold tvarL
            intro q
            have q2 : (r.take k).all part0 = true := by
              have : decide (c.toNat = 39) = true ∧ isSm d = true ∧ (r.take k).all part0 = true := by
                simpa [Bool.and_eq_true, and_assoc] using q
              exact this.2.2
            have := (run_take part0 r k (by simp at h2; omega)).1 q2
            omega
      · rw [if_neg (fun q => hsm q.2)]
        have hsm' : isSm (r.headD 0) = false := by simpa using hsm
        have hno : signP (c :: r) = none := by
          rw [signP_eq]
          have h2 : (c :: r).take 2 ∉ S2 := fun q => sign_no (r := r.take 1) (.inr (.inr (.inr (.inr hp)))) (by rw [signs_parts]; exact List.mem_append_left _ q)
          have h1 : (c :: r).take 1 ∉ S1 := fun q => sign_no (r := r.take 0) (.inr (.inr (.inr (.inr hp)))) (by rw [signs_parts]; exact List.mem_append_right _ q)
          rw [if_neg h2, if_neg h1]
        rw [hno]
        refine down_none fun n h1 h2 => ?_
        rw [htk n h1, tokL_tvar hp, if_neg]
        rw [tvarL_no]
        · simp
        · by_cases hn : n - 1 = 0
          · rw [hn]; exact .inr rfl
          · rw [headD_take (by omega)]; exact .inr hsm'
    rw [if_neg (fun q => hp q.1), signP_eq]
    have hts : ∀ n, 1 ≤ n → tokL ((c :: r).take n) = if (c :: r).take n ∈ signsL then some ⟨7, (c :: r).take n, 0⟩ else none := fun n hn => by
      rw [htk n hn]; exact tokL_sign hd' hq hs' hl' hp
    have hm2 : (c :: r).take 2 ∈ signsL ↔ (c :: r).take 2 ∈ S2 ∨ (c :: r).take 2 ∈ S1 := by rw [signs_parts, List.mem_append]
    have hm1 : (c :: r).take 1 ∈ signsL ↔ (c :: r).take 1 ∈ S1 := by
      rw [signs_parts, List.mem_append]
      refine ⟨fun q => q.elim (fun q => ?_) id, .inr⟩
      have := S2_len _ q
      simp at this
    have hbig : ∀ m, 3 ≤ m → m ≤ (c :: r).length → tokL ((c :: r).take m) = none := fun m h3 h4 => by
      rw [hts m (by omega), if_neg]
      intro q
      have := (sign_head _ q).2.1
      rw [List.length_take] at this
      omega
    by_cases h2 : (c :: r).take 2 ∈ S2
    · rw [if_pos h2]
      have hl := S2_len _ h2
      have hl2 : 2 ≤ (c :: r).length := by rw [List.length_take] at hl; omega
      refine (down_some (n := 2) (by omega) (by rw [hts 2 (by omega), if_pos (hm2.2 (.inl h2))]) hl2 fun m h3 h4 => hbig m (by omega) h4).trans ?_
      rw [Option.map_some, hl]
    · rw [if_neg h2]
      by_cases h1 : (c :: r).take 1 ∈ S1
      · rw [if_pos h1]
        refine (down_some (n := 1) (by omega) (by rw [hts 1 (by omega), if_pos (hm1.2 h1)]) (by simp) fun m h3 h4 => ?_).trans ?_
        · by_cases h5 : m = 2
          · subst h5
            rw [hts 2 (by omega), if_neg]
            intro q
            rcases hm2.1 q with q | q
            · exact h2 q
            · have := S1_len _ q
              rw [List.length_take] at this
              omega
          · exact hbig m (by omega) h4
        · rfl
      · rw [if_neg h1]
        refine down_none fun m h3 h4 => ?_
        by_cases h5 : 3 ≤ m
        · exact hbig m h5 h4
        · by_cases h6 : m = 2
          · subst h6
            rw [hts 2 (by omega), if_neg]
            intro q
            rcases hm2.1 q with q | q
            · exact h2 q
            · have := S1_len _ q
              rw [List.length_take] at this
              omega
          · obtain rfl : m = 1 := by omega
            rw [hts 1 (by omega), if_neg (fun q => h1 (hm1.1 q))]
end Go.Proofs.YtphhokpbkcdljaaDoor
