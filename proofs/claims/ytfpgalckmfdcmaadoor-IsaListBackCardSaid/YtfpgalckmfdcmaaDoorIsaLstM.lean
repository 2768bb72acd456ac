/- Plain mathematics of lists of instructions as text and back; a slice of instructions in memory. Conditions: none. -/
import Derived.Test.YtfpgalckmfdcmaaDoorIsaRefP
import Derived.Test.YtfpgalckmfdcmaaDoorIsaLinesM
namespace Go.Proofs.YtfpgalckmfdcmaaDoor
open Go Go.RowKit
structure I5 where
  o : Int
  a : Int
  b : Int
  c : Int
  n : Int
def I5.vs (x : I5) : List Value := [.int .i64 x.o, .int .i64 x.a, .int .i64 x.b, .int .i64 x.c, .int .i64 x.n]
def I5.agg (x : I5) : Value := .agg #[.int .i64 x.o, .int .i64 x.a, .int .i64 x.b, .int .i64 x.c, .int .i64 x.n]
noncomputable def I5.chk (x : I5) : Int := chkOf x.o x.a x.b x.c x.n
noncomputable def I5.txt (x : I5) : List UInt8 := textOf x.o x.a x.b x.c x.n
def cells5 (l : List I5) : List Value := l.flatMap I5.vs
theorem cells5_len (l : List I5) : (cells5 l).length = l.length * 5 := by
  induction l with
  | nil => rfl
  | cons x l ih => unfold cells5 at *; rw [List.flatMap_cons, List.length_append, ih, List.length_cons]; simp [I5.vs]; omega
theorem cells5_snoc (l : List I5) (x : I5) : cells5 l ++ x.vs = cells5 (l ++ [x]) := by simp [cells5]
theorem cells5_get : ∀ (l : List I5) (j : Nat) (x : I5) (i : Nat), l[j]? = some x → i < 5 → (cells5 l)[j * 5 + i]? = x.vs[i]?
  | [], j, x, i, h, _ => by simp at h
  | y :: l, 0, x, i, h, hi => by
    have e : y = x := by simpa using h
    subst e
    unfold cells5
    rw [List.flatMap_cons, List.getElem?_append_left (by show 0 * 5 + i < 5; omega)]
    congr 1
    omega
  | y :: l, j + 1, x, i, h, hi => by
    have ih := cells5_get l j x i (by simpa using h) hi
    unfold cells5 at ih ⊢
    rw [List.flatMap_cons, List.getElem?_append_right (by show 5 ≤ _; omega)]
    show _ = x.vs[i]?
    rw [← ih]
    congr 1
    show (j + 1) * 5 + i - 5 = j * 5 + i
    omega
theorem cells5_one (l : List I5) : ∀ v ∈ cells5 l, v.oneCell' = true := by
  intro v hv
  unfold cells5 at hv
  obtain ⟨x, _, hx⟩ := List.mem_flatMap.1 hv
  unfold I5.vs at hx
  simp only [List.mem_cons, List.not_mem_nil, or_false] at hx
  rcases hx with rfl | rfl | rfl | rfl | rfl <;> rfl
/-- a slice of instructions -/
structure SlI (W : World) (B : Nat) (A : Option Addr) (n cap : Nat) (l : List I5) : Prop where
  len : l.length = n
  cap1 : n ≤ cap
  cap2 : cap ≤ 9223372036854775807
  ats : 0 < n → ∃ g off, A = some ⟨g, off, none⟩ ∧ g < B ∧ ∀ j x, l[j]? = some x → W.cell? ⟨g, off + j * 5, none⟩ = some (.int .i64 x.o) ∧ W.cell? ⟨g, off + j * 5 + 1, none⟩ = some (.int .i64 x.a) ∧ W.cell? ⟨g, off + j * 5 + 2, none⟩ = some (.int .i64 x.b) ∧ W.cell? ⟨g, off + j * 5 + 3, none⟩ = some (.int .i64 x.c) ∧ W.cell? ⟨g, off + j * 5 + 4, none⟩ = some (.int .i64 x.n)
theorem SlI.below {W W2 : World} {B : Nat} {A : Option Addr} {n cap : Nat} {l : List I5} (h : SlI W B A n cap l) (hb : Below B W W2) : SlI W2 B A n cap l :=
  ⟨h.len, h.cap1, h.cap2, fun hn => by
    obtain ⟨g, off, e, hg, hc⟩ := h.ats hn
    refine ⟨g, off, e, hg, fun j x hx => ?_⟩
    obtain ⟨c0, c1, c2, c3, c4⟩ := hc j x hx
    have st : ∀ i, W2.cell? ⟨g, i, none⟩ = W.cell? ⟨g, i, none⟩ := fun i => hb.cell (p := ⟨g, i, none⟩) hg
    exact ⟨(st _).trans c0, (st _).trans c1, (st _).trans c2, (st _).trans c3, (st _).trans c4⟩⟩
theorem SlI.more {W : World} {B B2 : Nat} {A : Option Addr} {n cap : Nat} {l : List I5} (h : SlI W B A n cap l) (hb : B ≤ B2) : SlI W B2 A n cap l :=
  ⟨h.len, h.cap1, h.cap2, fun hn => by
    obtain ⟨g, off, e, hg, hc⟩ := h.ats hn
    exact ⟨g, off, e, Nat.lt_of_lt_of_le hg hb, hc⟩⟩
theorem SlI.of_own {W : World} {base : Nat} {v : Value} {l : List I5} (h : W.ownsRow base 23 5 v l.length (cells5 l)) : ∃ A cap, v = .slice A l.length cap ∧ SlI W W.heap.size A l.length cap l := by
  rcases h.2 with ⟨rfl, h0⟩ | ⟨g, cap, cur, rfl, _, hg, h1, h2, _⟩
  · exact ⟨none, 0, by rw [h0], rfl, by omega, by omega, fun hn => by omega⟩
  · refine ⟨_, cap, rfl, rfl, h1, by simpa [maxLen] using h2, fun hn => ⟨g, 0, rfl, (Array.getElem?_eq_some_iff.1 hg).1, fun j x hx => ?_⟩⟩
    have hc := h.cells (g := g) rfl
    have at_ : ∀ i u, i < 5 → x.vs[i]? = some u → W.cell? ⟨g, 0 + j * 5 + i, none⟩ = some u := fun i u hi hu => by
      have h3 := hc (j * 5 + i) u (by rw [cells5_get l j x i hx hi]; exact hu)
      rw [Nat.zero_add]
      rw [show ((⟨g, 0, none⟩ : Addr).add (j * 5 + i)) = ⟨g, j * 5 + i, none⟩ by unfold Addr.add; split <;> simp_all] at h3
      exact h3
    exact ⟨at_ 0 _ (by decide) rfl, at_ 1 _ (by decide) rfl, at_ 2 _ (by decide) rfl, at_ 3 _ (by decide) rfl, at_ 4 _ (by decide) rfl⟩
/-- the text of instructions, a line each -/
noncomputable def listT (l : List I5) : List UInt8 := l.flatMap fun x => x.txt ++ [10]
theorem listT_snoc (l : List I5) (x : I5) : listT l ++ x.txt ++ [10] = listT (l ++ [x]) := by simp [listT]
theorem textOf_len3 {o a b c n : Int} : (textOf o a b c n).length ≤ 1000 := by
  by_cases h : chkOf o a b c n = 0
  · have h0 := known_of h
    obtain ⟨k, rfl⟩ := Int.eq_ofNat_of_zero_le (show 0 ≤ o by omega)
    rw [textOf_yes h]
    unfold textF
    have hb : ∀ f : List UInt8, (f.flatMap fun k => argT k (letterOf a b c n (k.toNat : Int))).length ≤ 31 * f.length := by
      intro f
      induction f with
      | nil => simp
      | cons x f ih =>
        rw [List.flatMap_cons, List.length_append, argT_word, List.length_cons, List.length_cons]
        have := argW_len h x
        omega
    have h1 := hb (rowOf k).2.1
    have h2 := form_len k (by omega)
    have h3 := name_len k (by omega)
    rw [List.length_append]
    omega
  · unfold textOf; rw [if_neg h]; simp
theorem listT_len (l : List I5) : (listT l).length ≤ 1001 * l.length := by
  induction l with
  | nil => simp [listT]
  | cons x l ih =>
    unfold listT at *
    rw [List.flatMap_cons, List.length_append, List.length_append]
    have : x.txt.length ≤ 1000 := textOf_len3
    simp only [List.length_cons, List.length_nil]
    omega
/-- what List answers -/
noncomputable def listR (l : List I5) : List UInt8 × Int := if 4096 < l.length then ([], 3) else match l.find? (fun x => x.chk != 0) with
  | some x => ([], x.chk)
  | none => (listT l, 0)
theorem listR_long {l : List I5} (h : 4096 < l.length) : listR l = ([], 3) := by unfold listR; rw [if_pos h]
theorem find_first {l : List I5} {k : Nat} {x : I5} (hk : ∀ y ∈ l.take k, y.chk = 0) (hx : l[k]? = some x) (hc : x.chk ≠ 0) : l.find? (fun x => x.chk != 0) = some x := by
  have hlt : k < l.length := (List.getElem?_eq_some_iff.1 hx).1
  have e : l = l.take k ++ x :: l.drop (k + 1) := by
    have h1 : l[k] = x := (List.getElem?_eq_some_iff.1 hx).2
    rw [← h1, ← List.drop_eq_getElem_cons hlt, List.take_append_drop]
  rw [e, List.find?_append]
  have h0 : (l.take k).find? (fun x => x.chk != 0) = none := List.find?_eq_none.2 fun y hy => by rw [hk y hy]; simp
  have h1 : (x.chk != 0) = true := by simpa using hc
  rw [h0, Option.none_or, List.find?_cons, h1]
theorem listR_bad {l : List I5} {k : Nat} {x : I5} (hl : l.length ≤ 4096) (hk : ∀ y ∈ l.take k, y.chk = 0) (hx : l[k]? = some x) (hc : x.chk ≠ 0) : listR l = ([], x.chk) := by
  unfold listR
  rw [if_neg (by omega), find_first hk hx hc]
theorem listR_all {l : List I5} (hl : l.length ≤ 4096) (hk : ∀ y ∈ l, y.chk = 0) : listR l = (listT l, 0) := by
  have h0 : l.find? (fun x => x.chk != 0) = none := List.find?_eq_none.2 fun y hy => by rw [hk y hy]; simp
  unfold listR
  rw [if_neg (by omega), h0]
theorem take_all {l : List I5} {k : Nat} {x : I5} (hk : ∀ y ∈ l.take k, y.chk = 0) (hx : l[k]? = some x) (hc : x.chk = 0) : ∀ y ∈ l.take (k + 1), y.chk = 0 := by
  have hlt : k < l.length := (List.getElem?_eq_some_iff.1 hx).1
  rw [List.take_succ_eq_append_getElem hlt, (List.getElem?_eq_some_iff.1 hx).2]
  intro y hy
  rcases List.mem_append.1 hy with h | h
  · exact hk y h
  · rw [List.mem_singleton.1 h]; exact hc
theorem listT_take {l : List I5} {k : Nat} {x : I5} (hx : l[k]? = some x) : listT (l.take k) ++ x.txt ++ [10] = listT (l.take (k + 1)) := by
  have hlt : k < l.length := (List.getElem?_eq_some_iff.1 hx).1
  rw [List.take_succ_eq_append_getElem hlt, (List.getElem?_eq_some_iff.1 hx).2, listT_snoc]
/-- the instruction of a line -/
def LineIs (t : List UInt8) (x : I5) : Prop := x.chk = 0 ∧ x.txt = t
theorem LineIs.unique {t : List UInt8} {x y : I5} (h : LineIs t x) (h' : LineIs t y) : x = y := by
  obtain ⟨e0, e1, e2, e3, e4⟩ := textOf_inj h.1 h'.1 (h.2.trans h'.2.symm)
  cases x; cases y; simp_all
/-- the first lines read -/
structure RdTo (ls : List (List UInt8)) (k : Nat) (xs : List I5) : Prop where
  len : xs.length = k
  kl : k ≤ ls.length
  is : ∀ (j : Nat) (x : I5) (t : List UInt8), xs[j]? = some x → ls[j]? = some t → LineIs t x
theorem RdTo.init (ls : List (List UInt8)) : RdTo ls 0 [] := ⟨rfl, Nat.zero_le _, fun j x t h => by simp at h⟩
theorem RdTo.step {ls : List (List UInt8)} {k : Nat} {xs : List I5} {t : List UInt8} {x : I5} (h : RdTo ls k xs) (ht : ls[k]? = some t) (hx : LineIs t x) : RdTo ls (k + 1) (xs ++ [x]) := by
  refine ⟨by rw [List.length_append, h.len]; rfl, (List.getElem?_eq_some_iff.1 ht).1, fun j y u hy hu => ?_⟩
  by_cases e : j < k
  · rw [List.getElem?_append_left (by rw [h.len]; exact e)] at hy
    exact h.is j y u hy hu
  · have hj : j = k := by
      have := (List.getElem?_eq_some_iff.1 hy).1
      rw [List.length_append, h.len] at this
      simp at this
      omega
    subst hj
    rw [ht] at hu
    obtain rfl := Option.some.inj hu
    have e2 : (xs ++ [x])[j]? = some x := by
      have := List.getElem?_concat_length (l := xs) (a := x)
      rw [h.len] at this
      exact this
    rw [e2] at hy
    obtain rfl := Option.some.inj hy
    exact hx
theorem RdTo.unique {ls : List (List UInt8)} {k : Nat} {xs ys : List I5} (h : RdTo ls k xs) (h' : RdTo ls k ys) : xs = ys := by
  apply List.ext_getElem?
  intro j
  by_cases hj : j < k
  · have hx : xs[j]? = some (xs[j]'(by rw [h.len]; exact hj)) := List.getElem?_eq_getElem _
    have hy : ys[j]? = some (ys[j]'(by rw [h'.len]; exact hj)) := List.getElem?_eq_getElem _
    have ht : ls[j]? = some (ls[j]'(by have := h.kl; omega)) := List.getElem?_eq_getElem _
    rw [hx, hy, (h.is j _ _ hx ht).unique (h'.is j _ _ hy ht)]
  · rw [List.getElem?_eq_none (by rw [h.len]; omega), List.getElem?_eq_none (by rw [h'.len]; omega)]
/-- what Read answers -/
def IsRead (ls : List (List UInt8)) (xs : List I5) (at_ e : Int) : Prop :=
  (4096 < ls.length ∧ xs = [] ∧ at_ = 0 ∧ e = 3) ∨
  (ls.length ≤ 4096 ∧ ∃ (k : Nat) (ys : List I5) (t : List UInt8), RdTo ls k ys ∧ ls[k]? = some t ∧ NoText t ∧ xs = [] ∧ at_ = k ∧ e = 32) ∨
  (ls.length ≤ 4096 ∧ RdTo ls ls.length xs ∧ at_ = 0 ∧ e = 0)
theorem NoText.not {t : List UInt8} {x : I5} (h : NoText t) (hx : LineIs t x) : False := h _ _ _ _ _ hx.1 hx.2
theorem RdTo.stop {ls : List (List UInt8)} {k m : Nat} {xs ys : List I5} {t : List UInt8} (h : RdTo ls k xs) (ht : ls[k]? = some t) (hn : NoText t) (h' : RdTo ls m ys) : m ≤ k := by
  by_cases e : m ≤ k
  · exact e
  · exfalso
    have hy : ys[k]? = some (ys[k]'(by rw [h'.len]; omega)) := List.getElem?_eq_getElem _
    exact hn.not (h'.is k _ _ hy ht)
theorem IsRead.unique {ls : List (List UInt8)} {xs ys : List I5} {a b e f : Int} (h : IsRead ls xs a e) (h' : IsRead ls ys b f) : xs = ys ∧ a = b ∧ e = f := by
  rcases h with ⟨h1, rfl, rfl, rfl⟩ | ⟨h1, k, us, t, h2, h3, h4, rfl, rfl, rfl⟩ | ⟨h1, h2, rfl, rfl⟩ <;> rcases h' with ⟨g1, rfl, rfl, rfl⟩ | ⟨g1, m, vs, u, g2, g3, g4, rfl, rfl, rfl⟩ | ⟨g1, g2, rfl, rfl⟩
  · exact ⟨rfl, rfl, rfl⟩
  · omega
  · omega
  · omega
  · have e1 := h2.stop h3 h4 g2
    have e2 := g2.stop g3 g4 h2
    obtain rfl : k = m := by omega
    exact ⟨rfl, rfl, rfl⟩
  · have e1 := h2.stop h3 h4 g2
    have := (List.getElem?_eq_some_iff.1 h3).1
    omega
  · omega
  · have e1 := g2.stop g3 g4 h2
    have := (List.getElem?_eq_some_iff.1 g3).1
    omega
  · exact ⟨h2.unique g2, rfl, rfl⟩
theorem lineIs_of {t : List UInt8} {o a b c n e : Int} (h : IsParse t o a b c n e) (he : e = 0) : LineIs t ⟨o, a, b, c, n⟩ := by
  rcases h with ⟨_, h1, h2⟩ | ⟨h1, _⟩
  · exact ⟨h1, h2⟩
  · omega
theorem noText_of {t : List UInt8} {o a b c n e : Int} (h : IsParse t o a b c n e) (he : e ≠ 0) : NoText t := by
  rcases h with ⟨h1, _⟩ | ⟨_, _, _, _, _, _, h⟩
  · exact (he h1).elim
  · exact h
end Go.Proofs.YtfpgalckmfdcmaaDoor
