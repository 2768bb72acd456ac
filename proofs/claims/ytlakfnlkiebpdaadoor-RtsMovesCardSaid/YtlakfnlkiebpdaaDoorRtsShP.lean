/- How long what is shown may be; a list's elements as they are told. Conditions: none. -/
import Derived.Test.YtlakfnlkiebpdaaDoorRtsShM
namespace Go.Proofs.YtlakfnlkiebpdaaDoor
open Go Go.RowKit
theorem longB_t {s : List UInt8} (h : longB s = true) : 500 < s.length := of_decide_eq_true h
theorem longB_f {s : List UInt8} (h : longB s = false) : s.length ≤ 500 := Nat.not_lt.1 (of_decide_eq_false h)
section
variable {L : Nat → Option (Nat × List Nat)} {T : Nat → Option (List UInt8)} {ms : List Mkr} {f : Nat → Ty → List UInt8 × Bool} {b : Nat}
theorem tupF_len (hf : ∀ w t, (f w t).1.length ≤ b) : ∀ (ws : List Nat) (ts : List Ty) (bt s : List UInt8), bt.length ≤ 2 → s.length ≤ 500 → (tupF f ws ts bt s).length ≤ 503 + b
  | w :: ws, t :: ts, bt, s, hb, hs => by
    have h1 := hf w t
    rw [tupF]
    cases q : longB (s ++ (bt ++ (f w t).1)) with
    | true => rw [if_pos rfl, List.length_append, List.length_append]; omega
    | false => rw [if_neg (by decide)]; exact tupF_len hf ws ts _ _ (by decide) (longB_f q)
  | [], ts, bt, s, hb, hs => by cases ts <;> (simp [tupF]; omega)
  | w :: ws, [], bt, s, hb, hs => by simp [tupF]; omega
theorem listF_len {el : Nat → List UInt8} (hf : ∀ w, (el w).length ≤ b) (hb1 : 1 ≤ b) : ∀ (n rest : Nat) (bt s : List UInt8), bt.length ≤ 2 → s.length ≤ 500 → (listF L el n rest bt s).length ≤ 503 + b
  | 0, _, _, s, _, hs => by rw [listF]; omega
  | n + 1, rest, bt, s, hb, hs => by
    rw [listF]
    by_cases h1 : rest = 1
    · rw [if_pos h1]; simp; omega
    · rw [if_neg h1]
      cases cellL L rest with
      | none =>
        simp only
        split <;> (simp only [List.length_append, List.length_cons, List.length_nil]; omega)
      | some c =>
        simp only
        have := hf c.1
        cases q : longB (s ++ (bt ++ el c.1)) with
        | true => rw [if_pos rfl, List.length_append, List.length_append]; omega
        | false => rw [if_neg (by decide)]; exact listF_len hf hb1 n _ _ _ (by decide) (longB_f q)
theorem behindF_len (hf : ∀ w t, (f w t).1.length ≤ b) (word : List UInt8) (w : Nat) (t : Ty) : (behindF f word w t).length ≤ word.length + 3 + b := by
  have := hf w t
  unfold behindF
  split <;> (simp; omega)
theorem mkOf_mem {stamp : Int} {tag : Nat} {k : Mkr} (h : mkOf ms stamp tag = some k) : k ∈ ms := List.mem_of_find?_eq_some h
theorem consF_len (hf : ∀ w t, (f w t).1.length ≤ b) (hm : ∀ k ∈ ms, k.name.size ≤ 4000) (w : Nat) (t : Ty) : (consF L ms f w t).1.length ≤ 4003 + b := by
  unfold consF
  split
  · cases q : mkOf ms t.n w with
    | none => simp; omega
    | some k =>
      have := hm k (mkOf_mem q)
      have hl : k.name.data.toList.length = k.name.size := Array.length_toList
      simp only
      split
      · show 1 ≤ _; omega
      · show k.name.data.toList.length ≤ _; omega
  · cases tupL L w 2 with
    | none => simp; omega
    | some ws =>
      simp only
      cases q : mkOf ms t.n (ws.getD 0 0) with
      | none => simp; omega
      | some k =>
        have := hm k (mkOf_mem q)
        have hl : k.name.data.toList.length = k.name.size := Array.length_toList
        have := behindF_len hf k.name.data.toList (ws.getD 1 0) (putT k.vars t.l k.arg)
        simp only
        split
        · show (behindF _ _ _ _).length ≤ _; omega
        · show 1 ≤ _; omega
theorem tellF_len (hf : ∀ w t, (f w t).1.length ≤ b) (hb1 : 1 ≤ b) (hm : ∀ k ∈ ms, k.name.size ≤ 4000) (hT : ∀ w s, T w = some s → (quoteL s).length ≤ 530000) (hI : ∀ n : Nat, (Lib.itoa (toI (n : Int))).length ≤ 530000) (w : Nat) (t : Ty) : (tellF L T ms f w t).1.length ≤ 530000 + b := by
  unfold tellF
  split
  · have := hI w; simp only; omega
  split
  · simp only [List.length_cons, List.length_nil]; omega
  split
  · cases q : T w with
    | none => simp only [List.length_cons, List.length_nil]; omega
    | some s => have := hT w s q; simp only; omega
  split
  · simp only [List.length_cons, List.length_nil]; omega
  split
  · simp only [List.length_cons, List.length_nil]; omega
  split
  · cases tupL L w t.l.length with
    | none => simp only [List.length_cons, List.length_nil]; omega
    | some ws => have := tupF_len hf ws t.l [] [40] (by decide) (by decide); simp only; omega
  split
  · split
    · have := behindF_len hf [114, 101, 102] ((((L w).map (·.2)).getD []).getD 0 0) (t.l.getD 0 zTy); simp only [List.length_cons, List.length_nil] at this ⊢; omega
    · simp only [List.length_cons, List.length_nil]; omega
  split
  · have := listF_len (L := L) (el := fun x => (f x (t.l.getD 0 zTy)).1) (fun x => hf x _) hb1 300 w [] [91] (by decide) (by decide); simp only; omega
  · have := consF_len (L := L) hf hm w t; omega
theorem showF_len (hm : ∀ k ∈ ms, k.name.size ≤ 4000) (hT : ∀ w s, T w = some s → (quoteL s).length ≤ 530000) (hI : ∀ n : Nat, (Lib.itoa (toI (n : Int))).length ≤ 530000) : ∀ (d w : Nat) (t : Ty), (showF L T ms d w t).1.length ≤ 530000 * d + 1
  | 0, w, t => by simp [showF]
  | d + 1, w, t => by
    rw [showF]
    split
    · simp
    · split
      · have := tellF_len (L := L) (T := T) (f := showF L T ms d) (b := 530000 * d + 1) (showF_len hm hT hI d) (by omega) hm hT hI w t; omega
      · simp
theorem cutS_len (s : List UInt8) : (cutS s).length ≤ 503 := by
  unfold cutS
  cases q : longB s with
  | true => rw [if_pos rfl, List.length_append, List.length_take]; simp; omega
  | false => rw [if_neg (by decide)]; have := longB_f q; omega
/-! the elements of a list, as they are told -/
/-- these were told from w on, and this is left -/
inductive Told (L : Nat → Option (Nat × List Nat)) (w : Nat) : List (Nat × Bool) → Nat → Prop
  | nil : Told L w [] w
  | snoc (pre : List (Nat × Bool)) (r : Nat) (c : Nat × Nat) (h : Told L w pre r) (h1 : r ≠ 1) (hc : cellL L r = some c) : Told L w (pre ++ [(c.1, true)]) c.2
def Bad (L : Nat → Option (Nat × List Nat)) (w : Nat) (pre : List (Nat × Bool)) : Prop := ∃ pre' r, Told L w pre' r ∧ r ≠ 1 ∧ cellL L r = none ∧ pre = pre' ++ [(0, false)]
def TellS (L : Nat → Option (Nat × List Nat)) (w : Nat) (pre : List (Nat × Bool)) : Prop := (∃ r, Told L w pre r) ∨ Bad L w pre
def TellE (L : Nat → Option (Nat × List Nat)) (w : Nat) (pre : List (Nat × Bool)) : Prop := Told L w pre 1 ∨ Bad L w pre
/-- the text of what was told, and what stands ahead of the next one -/
def partE (el : Nat → List UInt8) (x : Nat × Bool) : List UInt8 := if x.2 = true then el x.1 else [63]
def strE (el : Nat → List UInt8) (pre : List (Nat × Bool)) : List UInt8 × List UInt8 := pre.foldl (fun p x => (p.1 ++ (p.2 ++ partE el x), [44, 32])) ([91], [])
theorem strE_nil (el : Nat → List UInt8) : strE el [] = ([91], []) := rfl
theorem strE_snoc (el : Nat → List UInt8) (pre : List (Nat × Bool)) (x : Nat × Bool) : strE el (pre ++ [x]) = ((strE el pre).1 ++ ((strE el pre).2 ++ partE el x), [44, 32]) := by
  unfold strE; rw [List.foldl_append]; rfl
theorem snoc_ne {α : Type} {pre : List α} (h : pre ≠ []) : ∃ p x, pre = p ++ [x] := ⟨pre.dropLast, pre.getLast h, (List.dropLast_concat_getLast h).symm⟩
theorem strE_bt (el : Nat → List UInt8) (pre : List (Nat × Bool)) : (strE el pre).2.length ≤ 2 ∧ (pre ≠ [] → (strE el pre).2 = [44, 32]) := by
  by_cases h : pre = []
  · subst h; exact ⟨by rw [strE_nil]; exact Nat.zero_le _, fun q => absurd rfl q⟩
  · obtain ⟨p, x, rfl⟩ := snoc_ne h
    rw [strE_snoc]; exact ⟨Nat.le_refl _, fun _ => rfl⟩
theorem strE_len (el : Nat → List UInt8) (pre : List (Nat × Bool)) : 2 * pre.length ≤ (strE el pre).1.length + 1 := by
  induction h : pre.length generalizing pre with
  | zero => omega
  | succ n ih =>
    obtain ⟨p, x, rfl⟩ := snoc_ne (show pre ≠ [] from fun q => by subst q; simp at h)
    have hp : p.length = n := by simpa using h
    have := ih p hp
    rw [strE_snoc]
    by_cases hn : p = []
    · subst hn; simp at hp; subst hp; simp [strE_nil]
    · rw [(strE_bt el p).2 hn]; simp only [List.length_append, List.length_cons, List.length_nil]; omega
theorem strE_mono (el : Nat → List UInt8) (pre : List (Nat × Bool)) (x : Nat × Bool) : (strE el pre).1.length ≤ (strE el (pre ++ [x])).1.length := by rw [strE_snoc, List.length_append]; omega
theorem listF_told {el : Nat → List UInt8} {w : Nat} {pre : List (Nat × Bool)} {r : Nat} (h : Told L w pre r) (hs : (strE el pre).1.length ≤ 500) : ∀ m, listF L el (pre.length + m) w [] [91] = listF L el m r (strE el pre).2 (strE el pre).1 := by
  induction h with
  | nil => intro m; rw [strE_nil]; simp
  | snoc pre r c h h1 hc ih =>
    intro m
    have hl := strE_mono el pre (c.1, true)
    have := ih (by omega) (m + 1)
    rw [List.length_append, List.length_singleton, Nat.add_assoc, Nat.add_comm 1 m, this, listF, if_neg h1, hc]
    rw [strE_snoc] at hs ⊢
    simp only [partE, if_pos] at hs ⊢
    have q : longB ((strE el pre).1 ++ ((strE el pre).2 ++ el c.1)) = false := decide_eq_false (by omega)
    rw [q, if_neg (by decide)]
theorem told_few {el : Nat → List UInt8} {pre : List (Nat × Bool)} (hs : (strE el pre).1.length ≤ 500) : pre.length ≤ 250 := by have := strE_len el pre; omega
/-- all was told -/
theorem listF_end {el : Nat → List UInt8} {w : Nat} {pre : List (Nat × Bool)} (h : TellE L w pre) (hs : (strE el pre).1.length ≤ 500) : listF L el 300 w [] [91] = (strE el pre).1 ++ [93] := by
  have hf := told_few hs
  rcases h with h | ⟨p, r, h, h1, hc, rfl⟩
  · have := listF_told h hs (299 - pre.length + 1)
    rw [show pre.length + (299 - pre.length + 1) = 300 by omega] at this
    rw [this, listF, if_pos rfl]
  · have hl := strE_mono el p (0, false)
    simp only [List.length_append, List.length_singleton] at hf
    have := listF_told h (show (strE el p).1.length ≤ 500 by omega) (299 - p.length + 1)
    rw [show p.length + (299 - p.length + 1) = 300 by omega] at this
    rw [this, listF, if_neg h1, hc]
    rw [strE_snoc] at hs ⊢
    have hpe : partE el (0, false) = [63] := rfl
    rw [hpe] at hs ⊢
    have q : longB ((strE el p).1 ++ ((strE el p).2 ++ [63])) = false := decide_eq_false (by simp only at hs; omega)
    simp only [q]
    rfl
/-- it was cut -/
theorem listF_cut {el : Nat → List UInt8} {w : Nat} {pre : List (Nat × Bool)} {x : Nat × Bool} (h : TellS L w (pre ++ [x])) (hs : (strE el pre).1.length ≤ 500) (hl : 500 < (strE el (pre ++ [x])).1.length) : listF L el 300 w [] [91] = (strE el (pre ++ [x])).1 := by
  have hf := told_few hs
  have key : ∀ r, Told L w pre r → r ≠ 1 → listF L el 300 w [] [91] = listF L el (299 - pre.length + 1) r (strE el pre).2 (strE el pre).1 := fun r h _ => by
    have := listF_told h hs (299 - pre.length + 1)
    rwa [show pre.length + (299 - pre.length + 1) = 300 by omega] at this
  rw [strE_snoc] at hl ⊢
  simp only at hl ⊢
  rcases h with ⟨r, h⟩ | ⟨p, r, h, h1, hc, he⟩
  · generalize hg : pre ++ [x] = g at h
    cases h with
    | nil => simp at hg
    | snoc p r0 c h h1 hc =>
      obtain ⟨rfl, e2⟩ := List.append_inj' hg rfl
      simp only [List.cons.injEq, and_true] at e2
      subst e2
      simp only [partE, if_pos] at hl ⊢
      rw [key r0 h h1, listF, if_neg h1, hc]
      have q : longB ((strE el pre).1 ++ ((strE el pre).2 ++ el c.1)) = true := decide_eq_true hl
      simp only [q, if_pos]
  · obtain ⟨rfl, e2⟩ := List.append_inj' he rfl
    simp only [List.cons.injEq, and_true] at e2
    subst e2
    have hpe : partE el (0, false) = [63] := rfl
    rw [hpe] at hl ⊢
    rw [key r h h1, listF, if_neg h1, hc]
    have q : longB ((strE el pre).1 ++ ((strE el pre).2 ++ [63])) = true := decide_eq_true hl
    simp only [q, if_pos]
end
/-! how great types and constructors are -/
mutual
def lightT (d : Nat) : Ty → Nat
  | .mk _ _ _ l => if 40 < d then 1000 else lightL d 1 l
def lightL (d n : Nat) : List Ty → Nat
  | [] => n
  | t :: l => if 300 < n then n else lightL d (n + lightT (d + 1) t) l
end
mutual
theorem lightT_size : ∀ (t : Ty) (d : Nat), lightT d t ≤ 300 → t.size ≤ lightT d t
  | .mk k n s l, d, h => by
    rw [lightT] at h ⊢
    split at h
    · omega
    · rename_i q
      rw [if_neg q, Ty.size]
      exact lightL_size l d 1 h
theorem lightL_size : ∀ (l : List Ty) (d n : Nat), lightL d n l ≤ 300 → n + sizeL l ≤ lightL d n l
  | [], d, n, h => by rw [lightL, sizeL]; omega
  | t :: l, d, n, h => by
    rw [lightL] at h ⊢
    split at h
    · omega
    · rename_i q
      rw [if_neg q, sizeL]
      have h2 := lightL_size l d _ h
      have h3 := lightT_size t (d + 1) (by omega)
      omega
end
mutual
theorem lightT_le : ∀ (t : Ty) (d : Nat), lightT d t ≤ 1000 + 300 * (41 - d)
  | .mk k n s l, d => by
    rw [lightT]
    split
    · omega
    · exact lightL_le l d 1 (by omega) (by omega)
theorem lightL_le : ∀ (l : List Ty) (d n : Nat), d ≤ 40 → n ≤ 1000 + 300 * (41 - d) → lightL d n l ≤ 1000 + 300 * (41 - d)
  | [], d, n, hd, h => by rw [lightL]; exact h
  | t :: l, d, n, hd, h => by
    rw [lightL]
    split
    · exact h
    · have := lightT_le t (d + 1)
      exact lightL_le l d _ hd (by omega)
end
/-- what few reckons -/
def fewN (n : Nat) : List Mkr → Nat
  | [] => n
  | k :: l => if 300 < n then n else fewN (n + 1 + lightT 0 k.arg + k.name.size / 10) l
def fewB (t : Ty) (ms : List Mkr) : Bool := decide (fewN (lightT 0 t) ms ≤ 300)
theorem fewN_ge : ∀ (l : List Mkr) (n : Nat), n ≤ fewN n l
  | [], n => Nat.le_refl _
  | k :: l, n => by
    rw [fewN]
    split
    · exact Nat.le_refl _
    · have := fewN_ge l (n + 1 + lightT 0 k.arg + k.name.size / 10); omega
theorem fewN_mem : ∀ {l : List Mkr} {n : Nat}, fewN n l ≤ 300 → ∀ k ∈ l, k.name.size ≤ 4000 ∧ k.arg.size ≤ 300
  | k :: l, n, h, x, hx => by
    rw [fewN] at h
    split at h
    · omega
    · have hg := fewN_ge l (n + 1 + lightT 0 k.arg + k.name.size / 10)
      rcases List.mem_cons.1 hx with rfl | hx
      · have := lightT_size x.arg 0 (by omega)
        omega
      · exact fewN_mem h x hx
theorem few_mem {t : Ty} {ms : List Mkr} (h : fewB t ms = true) : ∀ k ∈ ms, k.name.size ≤ 4000 ∧ k.arg.size ≤ 300 := fewN_mem (of_decide_eq_true h)
end Go.Proofs.YtlakfnlkiebpdaaDoor
