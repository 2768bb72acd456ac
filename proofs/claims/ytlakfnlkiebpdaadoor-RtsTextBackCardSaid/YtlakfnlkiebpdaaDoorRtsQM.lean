/- Plain mathematics: quoted texts. Conditions: none. -/
namespace Go.Proofs.YtlakfnlkiebpdaaDoor
/-- a digit of sixteen -/
def hexN (n : Nat) : UInt8 := UInt8.ofNat (if n < 10 then 48 + n else 55 + n)
/-- what stands for a byte -/
def quoteB (c : UInt8) : List UInt8 :=
  if c = 34 ∨ c = 92 then [92, c] else if c = 10 then [92, 110] else if c = 9 then [92, 116] else if c.toNat < 32 ∨ 126 < c.toNat then [92, 120, hexN (c.toNat / 16), hexN (c.toNat % 16)] else [c]
def quoteI (l : List UInt8) : List UInt8 := l.flatMap quoteB
def quoteL (l : List UInt8) : List UInt8 := 34 :: quoteI l ++ [34]
theorem quoteI_snoc (l : List UInt8) (c : UInt8) : quoteI (l ++ [c]) = quoteI l ++ quoteB c := by simp [quoteI]
theorem quoteB_len (c : UInt8) : 1 ≤ (quoteB c).length ∧ (quoteB c).length ≤ 4 := by
  unfold quoteB
  split
  · simp
  · split
    · simp
    · split
      · simp
      · split <;> simp
theorem quoteI_len (l : List UInt8) : l.length ≤ (quoteI l).length ∧ (quoteI l).length ≤ 4 * l.length := by
  induction l with
  | nil => simp [quoteI]
  | cons c l ih =>
    have h := quoteB_len c
    have e : quoteI (c :: l) = quoteB c ++ quoteI l := by simp [quoteI]
    rw [e, List.length_append, List.length_cons]
    omega
theorem quoteL_len (l : List UInt8) : l.length + 2 ≤ (quoteL l).length ∧ (quoteL l).length ≤ 4 * l.length + 2 := by
  have h := quoteI_len l
  simp only [quoteL, List.length_append, List.length_cons, List.length_nil]
  omega
theorem hexN_seen : ∀ n : Nat, n < 16 → 48 ≤ (hexN n).toNat ∧ (hexN n).toNat ≤ 70 := by decide
theorem quoteB_seen (c : UInt8) : ∀ b ∈ quoteB c, 32 ≤ b.toNat ∧ b.toNat ≤ 126 := by
  have hc : c.toNat < 256 := c.toNat_lt
  unfold quoteB
  split
  · rename_i h
    intro b hb
    simp at hb
    rcases hb with rfl | rfl
    · decide
    · rcases h with rfl | rfl <;> decide
  · split
    · intro b hb
      simp at hb
      rcases hb with rfl | rfl <;> decide
    · split
      · intro b hb
        simp at hb
        rcases hb with rfl | rfl <;> decide
      · split
        · intro b hb
          have h1 := hexN_seen (c.toNat / 16) (by omega)
          have h2 := hexN_seen (c.toNat % 16) (by omega)
          simp at hb
          rcases hb with rfl | rfl | rfl | rfl
          · decide
          · decide
          · omega
          · omega
        · rename_i h
          intro b hb
          simp at hb
          subst hb
          omega
theorem quoteL_seen (l : List UInt8) : ∀ b ∈ quoteL l, 32 ≤ b.toNat ∧ b.toNat ≤ 126 := by
  intro b hb
  simp only [quoteL, List.mem_append, List.mem_cons, List.not_mem_nil, or_false] at hb
  rcases hb with (rfl | hb) | rfl
  · decide
  · obtain ⟨c, _, hb⟩ := List.mem_flatMap.1 hb
    exact quoteB_seen c b hb
  · decide
/-- the byte that some sign stands for, and how long it is -/
def unhexN (b : UInt8) : Nat := if b.toNat < 58 then b.toNat - 48 else b.toNat - 55
theorem unhex_hex : ∀ n : Nat, n < 16 → unhexN (hexN n) = n := by decide
def signOf : List UInt8 → UInt8 × Nat
  | a :: l => if a ≠ 92 then (a, 1) else match l with
    | b :: l2 => if b = 110 then (10, 2) else if b = 116 then (9, 2) else if b = 120 then (match l2 with
      | x :: y :: _ => (UInt8.ofNat (16 * unhexN x + unhexN y), 4)
      | _ => (0, 0)) else (b, 2)
    | _ => (0, 0)
  | _ => (0, 0)
theorem sign_quote (c : UInt8) (x : List UInt8) : signOf (quoteB c ++ x) = (c, (quoteB c).length) := by
  have hc : c.toNat < 256 := c.toNat_lt
  unfold quoteB
  by_cases h1 : c = 34 ∨ c = 92
  · rw [if_pos h1]
    rcases h1 with rfl | rfl <;> rfl
  · rw [if_neg h1]
    by_cases h2 : c = 10
    · rw [if_pos h2, h2]; rfl
    · rw [if_neg h2]
      by_cases h3 : c = 9
      · rw [if_pos h3, h3]; rfl
      · rw [if_neg h3]
        by_cases h4 : c.toNat < 32 ∨ 126 < c.toNat
        · rw [if_pos h4]
          have e1 := unhex_hex (c.toNat / 16) (by omega)
          have e2 := unhex_hex (c.toNat % 16) (by omega)
          show (UInt8.ofNat (16 * unhexN (hexN (c.toNat / 16)) + unhexN (hexN (c.toNat % 16))), 4) = (c, 4)
          rw [e1, e2, show 16 * (c.toNat / 16) + c.toNat % 16 = c.toNat by omega, UInt8.ofNat_toNat]
        · rw [if_neg h4]
          have hn : c ≠ 92 := fun e => h1 (.inr e)
          show (if c ≠ 92 then (c, 1) else _) = (c, 1)
          rw [if_pos hn]
theorem quoteB_inj {a b : UInt8} {x y : List UInt8} (h : quoteB a ++ x = quoteB b ++ y) : a = b ∧ x = y := by
  have h1 := sign_quote a x
  rw [h, sign_quote b y] at h1
  have e := congrArg Prod.fst h1
  simp at e
  subst e
  exact ⟨rfl, List.append_cancel_left h⟩
theorem quoteB_no (a : UInt8) (x : List UInt8) : quoteB a ++ x ≠ [34] := by
  intro h
  have h1 := sign_quote a x
  rw [h] at h1
  have h2 : ((34 : UInt8), 1) = (a, (quoteB a).length) := h1
  have e := congrArg Prod.fst h2
  have e' : (34 : UInt8) = a := e
  subst e'
  have e2 := congrArg Prod.snd h2
  exact absurd e2 (by decide)
theorem quoteI_inj : ∀ {l m : List UInt8}, quoteI l ++ [34] = quoteI m ++ [34] → l = m
  | [], [], _ => rfl
  | a :: l, [], h => by
    have e : quoteI (a :: l) = quoteB a ++ quoteI l := by simp [quoteI]
    rw [e, List.append_assoc] at h
    exact absurd h (quoteB_no a _)
  | [], b :: m, h => by
    have e : quoteI (b :: m) = quoteB b ++ quoteI m := by simp [quoteI]
    rw [e, List.append_assoc] at h
    exact absurd h.symm (quoteB_no b _)
  | a :: l, b :: m, h => by
    have e1 : quoteI (a :: l) = quoteB a ++ quoteI l := by simp [quoteI]
    have e2 : quoteI (b :: m) = quoteB b ++ quoteI m := by simp [quoteI]
    rw [e1, e2, List.append_assoc, List.append_assoc] at h
    obtain ⟨rfl, h2⟩ := quoteB_inj h
    rw [quoteI_inj h2]
theorem quoteL_inj {l m : List UInt8} (h : quoteL l = quoteL m) : l = m := by
  unfold quoteL at h
  simp only [List.cons_append] at h
  injection h with _ h
  exact quoteI_inj h
end Go.Proofs.YtlakfnlkiebpdaaDoor
