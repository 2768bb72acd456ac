/- Plain mathematics of the reference's Parse: words gathered byte by byte; the candidate letter by letter. Conditions: none. -/
import Derived.Test.YtfpgalckmfdcmaaDoorIsaCand
namespace Go.Proofs.YtfpgalckmfdcmaaDoor
open Go Go.RowKit
theorem splitS_app (b : List UInt8) : ∀ a : List UInt8, ∃ (P : List (List UInt8)) (cur x : List UInt8) (rest : List (List UInt8)), splitS a = P ++ [cur] ∧ splitS b = x :: rest ∧ splitS (a ++ b) = P ++ (cur ++ x) :: rest
  | [] => by
    cases q : splitS b with
    | nil => exact absurd q (splitS_ne b)
    | cons x rest => exact ⟨[], [], x, rest, rfl, rfl, by simpa using q⟩
  | c :: a => by
    obtain ⟨P, cur, x, rest, h1, h2, h3⟩ := splitS_app b a
    by_cases hc : c = 32
    · subst hc
      refine ⟨[] :: P, cur, x, rest, ?_, h2, ?_⟩
      · show (if (32 : UInt8) = 32 then [] :: splitS a else _) = _
        rw [if_pos rfl, h1]; rfl
      · show (if (32 : UInt8) = 32 then [] :: splitS (a ++ b) else _) = _
        rw [if_pos rfl, h3]; rfl
    · cases P with
      | nil =>
        refine ⟨[], c :: cur, x, rest, ?_, h2, ?_⟩
        · show (if c = 32 then [] :: splitS a else match splitS a with | [] => [[c]] | p :: ps => (c :: p) :: ps) = _
          rw [if_neg hc, h1]; rfl
        · show (if c = 32 then [] :: splitS (a ++ b) else match splitS (a ++ b) with | [] => [[c]] | p :: ps => (c :: p) :: ps) = _
          rw [if_neg hc, h3]; rfl
      | cons p ps =>
        refine ⟨(c :: p) :: ps, cur, x, rest, ?_, h2, ?_⟩
        · show (if c = 32 then [] :: splitS a else match splitS a with | [] => [[c]] | p :: ps => (c :: p) :: ps) = _
          rw [if_neg hc, h1]; rfl
        · show (if c = 32 then [] :: splitS (a ++ b) else match splitS (a ++ b) with | [] => [[c]] | p :: ps => (c :: p) :: ps) = _
          rw [if_neg hc, h3]; rfl
/-- the words gathered up to a place -/
structure WS (L : List UInt8) (k : Nat) (P : List (List UInt8)) (cur : List UInt8) : Prop where
  kl : k ≤ L.length
  e : splitS (L.take k) = P ++ [cur]
  pk : P.length + cur.length ≤ k
  short : ∀ p ∈ P, p.length ≤ 30
  cur30 : cur.length ≤ 30
theorem WS.init (L : List UInt8) : WS L 0 [] [] := ⟨Nat.zero_le _, by simp [splitS], by simp, by simp, by simp⟩
theorem take_snoc' {L : List UInt8} {k : Nat} (hk : k < L.length) : L.take (k + 1) = L.take k ++ [L[k]] := by rw [List.take_succ_eq_append_getElem hk]
theorem append_one_inj {α : Type} {P Q : List α} {x y : α} (h : P ++ [x] = Q ++ [y]) : P = Q ∧ x = y := by
  have := List.append_inj' h rfl
  exact ⟨this.1, by simpa using this.2⟩
theorem WS.space {L : List UInt8} {k : Nat} {P : List (List UInt8)} {cur : List UInt8} (h : WS L k P cur) (hk : k < L.length) (hc : L[k] = 32) : WS L (k + 1) (P ++ [cur]) [] := by
  obtain ⟨P', cur', x, rest, h1, h2, h3⟩ := splitS_app [L[k]] (L.take k)
  obtain ⟨rfl, rfl⟩ := append_one_inj (h.e.symm.trans h1)
  rw [hc] at h2 h3
  have e2 : splitS [32] = [[], []] := by decide
  rw [e2] at h2
  obtain ⟨rfl, rfl⟩ := List.cons.inj h2
  refine ⟨hk, ?_, by have := h.pk; simp; omega, fun p hp => ?_, by simp⟩
  · rw [take_snoc' hk, hc, h3]; simp
  · rcases List.mem_append.1 hp with q | q
    · exact h.short p q
    · rw [List.mem_singleton.1 q]; exact h.cur30
theorem WS.byte {L : List UInt8} {k : Nat} {P : List (List UInt8)} {cur : List UInt8} (h : WS L k P cur) (hk : k < L.length) (hc : L[k] ≠ 32) : splitS (L.take (k + 1)) = P ++ [cur ++ [L[k]]] := by
  obtain ⟨P', cur', x, rest, h1, h2, h3⟩ := splitS_app [L[k]] (L.take k)
  obtain ⟨rfl, rfl⟩ := append_one_inj (h.e.symm.trans h1)
  have e2 : splitS [L[k]] = [[L[k]]] := splitS_last (fun y hy => by rw [List.mem_singleton.1 hy]; exact hc)
  rw [e2] at h2
  obtain ⟨rfl, rfl⟩ := List.cons.inj h2
  rw [take_snoc' hk, h3]
theorem WS.more {L : List UInt8} {k : Nat} {P : List (List UInt8)} {cur : List UInt8} (h : WS L k P cur) (hk : k < L.length) (hc : L[k] ≠ 32) (h30 : (cur ++ [L[k]]).length ≤ 30) : WS L (k + 1) P (cur ++ [L[k]]) :=
  ⟨hk, h.byte hk hc, by have := h.pk; simp; omega, h.short, h30⟩
theorem WS.last {L : List UInt8} {P : List (List UInt8)} {cur : List UInt8} (h : WS L L.length P cur) : splitS L = P ++ [cur] := by
  have := h.e
  rwa [List.take_length] at this
/-- no right instruction has the text -/
def NoText (L : List UInt8) : Prop := ∀ o a b c n : Int, chkOf o a b c n = 0 → textOf o a b c n ≠ L
theorem name_len : ∀ k, k < 37 → (rowOf k).1.length ≤ 30 := by decide +kernel
theorem fld_fits {k : Nat} {a b c n : Int} (h : chkOf (k : Int) a b c n = 0) (x : UInt8) : -2147483648 ≤ letterOf a b c n (x.toNat : Int) ∧ letterOf a b c n (x.toNat : Int) ≤ 2147483647 := by
  have hk := known_of h
  obtain ⟨⟨_, _⟩, ⟨_, _⟩, ⟨_, _⟩, _, _⟩ := chk_bounds (by rw [← chkOf_yes (op := k) (by omega) (by omega)]; exact h)
  unfold letterOf
  repeat' split
  all_goals omega
theorem argW_len {k : Nat} {a b c n : Int} (h : chkOf (k : Int) a b c n = 0) (x : UInt8) : (argW x (letterOf a b c n (x.toNat : Int))).length ≤ 30 := by
  obtain ⟨h0, h1⟩ := fld_fits h x
  have := itoa_len (v := letterOf a b c n (x.toNat : Int)) (by omega) (by omega)
  unfold argW
  split
  · omega
  · rw [List.length_cons]; omega
theorem words_short {L : List UInt8} {o a b c n : Int} (h : chkOf o a b c n = 0) (e : textOf o a b c n = L) : ∀ p ∈ splitS L, p.length ≤ 30 := by
  obtain ⟨h0, h1⟩ := known_of h
  obtain ⟨k, rfl⟩ := Int.eq_ofNat_of_zero_le (show 0 ≤ o by omega)
  rw [words_of h e]
  intro p hp
  rcases List.mem_cons.1 hp with rfl | hp
  · exact name_len k (by omega)
  · obtain ⟨x, _, rfl⟩ := List.mem_map.1 hp
    exact argW_len h x
theorem WS.long {L : List UInt8} {k : Nat} {P : List (List UInt8)} {cur : List UInt8} (h : WS L k P cur) (hk : k < L.length) (hc : L[k] ≠ 32) (h30 : 30 < (cur ++ [L[k]]).length) : NoText L := by
  intro o a b c n h1 h2
  obtain ⟨P', cur', x, rest, e1, _, e3⟩ := splitS_app (L.drop (k + 1)) (L.take (k + 1))
  obtain ⟨rfl, rfl⟩ := append_one_inj ((h.byte hk hc).symm.trans e1)
  rw [List.take_append_drop] at e3
  have := words_short h1 h2 (cur ++ [L[k]] ++ x) (by rw [e3]; simp)
  rw [List.length_append] at this
  omega
/-- the candidate of an operation when m letters have been read -/
structure Cd (L : List UInt8) (k m : Nat) (a b c n : Int) : Prop where
  right : ∀ a' b' c' n' : Int, chkOf k a' b' c' n' = 0 → textOf k a' b' c' n' = L → ∀ i x, i < m → (rowOf k).2.1[i]? = some x → letterOf a b c n (x.toNat : Int) = letterOf a' b' c' n' (x.toNat : Int)
  zero : ∀ i, i < 4 → hasB (bs (rowOf k).2.1) (let4 i) = false → fld a b c n i = 0
theorem Cd.init (L : List UInt8) (k : Nat) : Cd L k 0 0 0 0 0 := ⟨fun _ _ _ _ _ _ i x h => absurd h (Nat.not_lt_zero _), fun i _ _ => by unfold fld; simp⟩
theorem form_letter : ∀ k, k < 37 → ∀ i, i < (rowOf k).2.1.length → (((rowOf k).2.1.getD i 0).toNat = 97 ∨ ((rowOf k).2.1.getD i 0).toNat = 98 ∨ ((rowOf k).2.1.getD i 0).toNat = 99 ∨ ((rowOf k).2.1.getD i 0).toNat = 110) ∧ hasB (bs (rowOf k).2.1) ((rowOf k).2.1.getD i 0).toNat = true ∧ ∀ j, j < i → (rowOf k).2.1.getD j 0 ≠ (rowOf k).2.1.getD i 0 := by decide +kernel
theorem form_len : ∀ k, k < 37 → (rowOf k).2.1.length ≤ 3 := by decide +kernel
theorem let4_inj {i j : Nat} (hi : i < 4) (hj : j < 4) (h : let4 i = let4 j) : i = j := by
  have : ∀ i, i < 4 → ∀ j, j < 4 → let4 i = let4 j → i = j := by decide
  exact this i hi j hj h
theorem letter_fld (a b c n : Int) {x : Nat} {q : Nat} (hq : q < 4) (hx : x = let4 q) : letterOf a b c n (x : Int) = fld a b c n q := by
  subst hx
  have h := fld_letter a b c n q hq
  have : ((UInt8.ofNat (let4 q)).toNat) = let4 q := by
    have : ∀ q, q < 4 → ((UInt8.ofNat (let4 q)).toNat) = let4 q := by decide
    exact this q hq
  rw [this] at h
  exact h
theorem Cd.step {L : List UInt8} {k m q : Nat} {a b c n a2 b2 c2 n2 r : Int} {l : List UInt8} (h : Cd L k m a b c n) (hk0 : 1 ≤ k) (hk : k ≤ 36) (hm : m < (rowOf k).2.1.length) (hq : q < 4) (hx : ((rowOf k).2.1.getD m 0).toNat = let4 q) (hl : (splitS L)[m + 1]? = some l)
    (hr : ∀ x, fits x → Lib.itoa x = deR l → r = x) (hs : fld a2 b2 c2 n2 q = r) (ho : ∀ i, i < 4 → i ≠ q → fld a2 b2 c2 n2 i = fld a b c n i) : Cd L k (m + 1) a2 b2 c2 n2 := by
  obtain ⟨_, hhas, hdist⟩ := form_letter k (by omega) m hm
  have hget : (rowOf k).2.1[m]? = some ((rowOf k).2.1.getD m 0) := by rw [List.getD_eq_getElem?_getD, List.getElem?_eq_getElem hm]; rfl
  refine ⟨fun a' b' c' n' h1 h2 i x hi hix => ?_, fun i hi hb => ?_⟩
  · by_cases e : i = m
    · subst e
      rw [hget] at hix
      obtain rfl := Option.some.inj hix
      rw [letter_fld _ _ _ _ hq hx, hs, letter_fld _ _ _ _ hq hx]
      have hw := hl
      rw [words_of h1 h2, List.getElem?_cons_succ, List.getElem?_map, hget] at hw
      have hw2 : argW ((rowOf k).2.1.getD i 0) (letterOf a' b' c' n' ((((rowOf k).2.1.getD i 0).toNat : Nat) : Int)) = l := Option.some.inj hw
      rw [letter_fld _ _ _ _ hq hx] at hw2
      have hf := fld_fits h1 ((rowOf k).2.1.getD i 0)
      rw [letter_fld _ _ _ _ hq hx] at hf
      obtain ⟨v, hv⟩ : ∃ v, fld a' b' c' n' q = v := ⟨_, rfl⟩
      rw [hv] at hw2 hf ⊢
      refine hr v (by unfold fits; omega) ?_
      rw [← hw2]
      unfold argW
      split
      · cases hqq : Lib.itoa v with
        | nil => rfl
        | cons x m =>
          show _ = if x = 114 then m else x :: m
          rw [if_neg]
          rintro rfl
          have hx : (114 : UInt8) ∈ Lib.itoa v := by rw [hqq]; exact List.mem_cons_self ..
          by_cases hv0 : v < 0
          · rw [itoa_neg' hv0] at hx
            rcases List.mem_cons.1 hx with e | e
            · cases e
            · have := (dec_dig _ _ e).2; simp at this
          · rw [itoa_abs_pos (by omega)] at hx
            have := (dec_dig _ _ hx).2; simp at this
      · show _ = if (114 : UInt8) = 114 then Lib.itoa v else 114 :: Lib.itoa v
        rw [if_pos rfl]
    · have hi2 : i < m := by omega
      rw [← h.right a' b' c' n' h1 h2 i x hi2 hix]
      have hxi : (rowOf k).2.1.getD i 0 = x := by rw [List.getD_eq_getElem?_getD, hix]; rfl
      obtain ⟨h4, _, _⟩ := form_letter k (by omega) i (by omega)
      rw [hxi] at h4
      have hne : x.toNat ≠ ((rowOf k).2.1.getD m 0).toNat := fun e2 => hdist i hi2 (by rw [hxi]; exact UInt8.toNat_inj.1 e2)
      rw [hx] at hne
      have h4' : ∃ p, p < 4 ∧ x.toNat = let4 p := by
        rcases h4 with e | e | e | e
        · exact ⟨0, by decide, e⟩
        · exact ⟨1, by decide, e⟩
        · exact ⟨2, by decide, e⟩
        · exact ⟨3, by decide, e⟩
      obtain ⟨p, hp, hxp⟩ := h4'
      rw [letter_fld _ _ _ _ hp hxp, letter_fld _ _ _ _ hp hxp]
      exact ho p hp (fun e2 => hne (by rw [hxp, e2]))
  · have hne : i ≠ q := fun e => by
      subst e
      rw [hx, hb] at hhas
      cases hhas
    rw [ho i hi hne]
    exact h.zero i hi hb
theorem Cd.done {L : List UInt8} {k m : Nat} {a b c n : Int} (h : Cd L k m a b c n) (hm : m = (rowOf k).2.1.length) (a' b' c' n' : Int) (h1 : chkOf k a' b' c' n' = 0) (h2 : textOf k a' b' c' n' = L) : a' = a ∧ b' = b ∧ c' = c ∧ n' = n := by
  have hb := known_of h1
  obtain ⟨z0, z1, z2, z3⟩ := zero_of (by rw [← chkOf_yes (op := k) (by omega) (by omega)]; exact h1)
  have hpos : ∀ q, q < 4 → hasB (bs (rowOf k).2.1) (let4 q) = true → ∃ i, i < (rowOf k).2.1.length ∧ (rowOf k).2.1[i]? = some (UInt8.ofNat (let4 q)) := fun q hq hh => by
    obtain ⟨_, u2⟩ := used_set k (by omega) q hq hh
    exact ⟨_, (List.getElem?_eq_some_iff.1 u2).1, u2⟩
  have one : ∀ q, q < 4 → (hasB (bs (rowOf k).2.1) (let4 q) = false → fld a' b' c' n' q = 0) → fld a' b' c' n' q = fld a b c n q := fun q hq hz => by
    cases e : hasB (bs (rowOf k).2.1) (let4 q) with
    | true =>
      obtain ⟨i, hi, hg⟩ := hpos q hq e
      have := h.right a' b' c' n' h1 h2 i _ (by omega) hg
      rw [fld_letter _ _ _ _ q hq, fld_letter _ _ _ _ q hq] at this
      exact this.symm
    | false => rw [hz e, h.zero q hq e]
  exact ⟨one 0 (by decide) z0, one 1 (by decide) z1, one 2 (by decide) z2, one 3 (by decide) z3⟩
/-- no right instruction of the first operations has the text -/
def NoText1 (L : List UInt8) (k : Nat) : Prop := ∀ o a b c n : Int, chkOf o a b c n = 0 → textOf o a b c n = L → (k : Int) ≤ o
theorem NoText1.init (L : List UInt8) : NoText1 L 1 := fun o a b c n h _ => by have := known_of h; omega
theorem NoText1.all {L : List UInt8} (h : NoText1 L 37) : NoText L := fun o a b c n h1 h2 => by
  have := known_of h1
  have := h o a b c n h1 h2
  omega
theorem NoText1.name {L : List UInt8} {k : Nat} {w0 : List UInt8} (h : NoText1 L k) (h0 : (splitS L)[0]? = some w0) (hn : (rowOf k).1 ≠ w0) : NoText1 L (k + 1) := fun o a b c n h1 h2 => by
  have h3 := h o a b c n h1 h2
  by_cases e : o = k
  · subst e
    rw [words_of h1 h2] at h0
    exact (hn (Option.some.inj h0)).elim
  · omega
theorem NoText1.many {L : List UInt8} {k M : Nat} (h : NoText1 L k) (hM : (splitS L).length = M) (hn : M ≠ (rowOf k).2.1.length + 1) : NoText1 L (k + 1) := fun o a b c n h1 h2 => by
  have h3 := h o a b c n h1 h2
  by_cases e : o = k
  · subst e
    rw [words_of h1 h2, List.length_cons, List.length_map] at hM
    exact (hn hM.symm).elim
  · omega
theorem NoText1.cand {L : List UInt8} {k : Nat} {a b c n : Int} (h : NoText1 L k) (hc : Cd L k (rowOf k).2.1.length a b c n) (hn : textOf k a b c n ≠ L) : NoText1 L (k + 1) := fun o a' b' c' n' h1 h2 => by
  have h3 := h o a' b' c' n' h1 h2
  by_cases e : o = k
  · subst e
    obtain ⟨rfl, rfl, rfl, rfl⟩ := hc.done rfl a' b' c' n' h1 h2
    exact (hn h2).elim
  · omega
/-- what Parse answers: the right instruction of the text, or an error where there is none -/
def InsV (o a b c n : Int) : Value := .agg #[.int .i64 o, .int .i64 a, .int .i64 b, .int .i64 c, .int .i64 n]
def IsParse (L : List UInt8) (o a b c n e : Int) : Prop := (e = 0 ∧ chkOf o a b c n = 0 ∧ textOf o a b c n = L) ∨ (e = 32 ∧ o = 0 ∧ a = 0 ∧ b = 0 ∧ c = 0 ∧ n = 0 ∧ NoText L)
theorem Cand.none_ {L : List UInt8} {k t : Nat} {a b c n : Int} (h : Cand L k 4 t a b c n) (hn : chkOf (k : Int) a b c n = 0 → textOf k a b c n ≠ L) : NoText L := fun o a' b' c' n' h1 h2 => by
  obtain ⟨rfl, rfl, rfl, rfl, rfl⟩ := h.done o a' b' c' n' h1 h2
  exact hn h1 h2
theorem chk_of_text {o a b c n : Int} (h : textOf o a b c n ≠ []) : chkOf o a b c n = 0 := by
  by_cases q : chkOf o a b c n = 0
  · exact q
  · exact (h (by unfold textOf; rw [if_neg q])).elim
def ParsedTo (L : List UInt8) (w : World) (e : Ending) (w' : World) : Prop := (∃ o a b c n er : Int, e = .returned (.tuple #[InsV o a b c n, .int .i64 er]) ∧ IsParse L o a b c n er) ∧ Below w.heap.size w w'
theorem IsParse.unique {L : List UInt8} {o a b c n e o' a' b' c' n' e' : Int} (h : IsParse L o a b c n e) (h' : IsParse L o' a' b' c' n' e') : o = o' ∧ a = a' ∧ b = b' ∧ c = c' ∧ n = n' ∧ e = e' := by
  rcases h with ⟨h1, h2, h3⟩ | ⟨h1, h2, h3, h4, h5, h6, h7⟩ <;> rcases h' with ⟨g1, g2, g3⟩ | ⟨g1, g2, g3, g4, g5, g6, g7⟩
  · obtain ⟨a1, a2, a3, a4, a5⟩ := textOf_inj h2 g2 (h3.trans g3.symm)
    exact ⟨a1, a2, a3, a4, a5, h1.trans g1.symm⟩
  · exact (g7 _ _ _ _ _ h2 h3).elim
  · exact (h7 _ _ _ _ _ g2 g3).elim
  · exact ⟨h2.trans g2.symm, h3.trans g3.symm, h4.trans g4.symm, h5.trans g5.symm, h6.trans g6.symm, h1.trans g1.symm⟩
end Go.Proofs.YtfpgalckmfdcmaaDoor
