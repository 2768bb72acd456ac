/- The document's memory as it lies in the heap: lists of objects, each with words of its own. Conditions: none. -/
import Derived.Test.YtlakfnlkiebpdaaDoorMemCopy
namespace Go.Proofs.YtlakfnlkiebpdaaDoor
open Go Go.RowKit
/-- an object of the document's memory -/
structure RO where
  at_ : Int
  k : Int
  t : Int
  ws : List Nat
  to : Int
def roCells (o : RO) (u : Value) : List Value := [.int .i64 o.at_, .int .i64 o.k, .int .i64 o.t, u, .int .i64 o.to]
def cellsP (P : List (RO × Value)) : List Value := P.flatMap fun p => roCells p.1 p.2
theorem cellsP_cons (p : RO × Value) (P : List (RO × Value)) : cellsP (p :: P) = roCells p.1 p.2 ++ cellsP P := rfl
theorem cellsP_append (P Q : List (RO × Value)) : cellsP (P ++ Q) = cellsP P ++ cellsP Q := by simp [cellsP]
theorem cellsP_length (P : List (RO × Value)) : (cellsP P).length = P.length * 5 := by
  induction P with
  | nil => rfl
  | cons p P ih => rw [cellsP_cons, List.length_append, ih]; simp [roCells]; omega
theorem cellsP_get {P : List (RO × Value)} {p : RO × Value} (i : Nat) (hi : i < 5) : ∀ {j : Nat}, P[j]? = some p → (cellsP P)[j * 5 + i]? = (roCells p.1 p.2)[i]? := by
  induction P with
  | nil => intro j h; simp at h
  | cons q P ih =>
    intro j h
    rw [cellsP_cons]
    cases j with
    | zero =>
      rw [List.getElem?_cons_zero] at h
      obtain rfl := Option.some.inj h
      rw [List.getElem?_append_left (by simp [roCells]; omega), Nat.zero_mul, Nat.zero_add]
    | succ j =>
      rw [List.getElem?_cons_succ] at h
      rw [List.getElem?_append_right (by simp [roCells]; omega), ← ih h]
      congr 1
      simp [roCells]; omega
theorem cellsP_set {P : List (RO × Value)} {p q : RO × Value} (i : Nat) (hi : i < 5) (x : Value) (hq : roCells q.1 q.2 = (roCells p.1 p.2).set i x) : ∀ {j : Nat}, P[j]? = some p → cellsP (P.set j q) = (cellsP P).set (j * 5 + i) x := by
  induction P with
  | nil => intro j h; simp at h
  | cons r P ih =>
    intro j h
    cases j with
    | zero =>
      rw [List.getElem?_cons_zero] at h
      obtain rfl := Option.some.inj h
      rw [List.set_cons_zero, cellsP_cons, cellsP_cons, hq, Nat.zero_mul, Nat.zero_add, List.set_append_left _ _ (by simp [roCells]; omega)]
    | succ j =>
      rw [List.getElem?_cons_succ] at h
      rw [List.set_cons_succ, cellsP_cons, cellsP_cons, ih h, List.set_append_right _ _ (by simp [roCells]; omega)]
      congr 1
      congr 1
      simp [roCells]; omega
def DJ (a b : Value) : Prop := ∀ g, a.ownBlock = some g → b.ownBlock ≠ some g
theorem DJ.symm {a b : Value} (h : DJ a b) : DJ b a := fun g hb ha => h g ha hb
def OwnL (v : Value) (P : List (RO × Value)) (i : Nat) : Prop := v.ownBlock = some i ∨ ∃ p ∈ P, p.2.ownBlock = some i
/-- a list of objects -/
structure RL (w : World) (v : Value) (P : List (RO × Value)) : Prop where
  row : w.ownsRow 0 91 5 v P.length (cellsP P)
  ws : ∀ p ∈ P, w.ownsRow 0 33 1 p.2 p.1.ws.length (u64s p.1.ws)
  sep : (P.map Prod.snd).Pairwise DJ
section
variable {w w1 : World} {v : Value} {P : List (RO × Value)} {O : Nat → Prop}
theorem own5 (hf : Fr O w w1) {e : TypeId} {n : Nat} {xs : List Value} (hr : w.ownsRow 0 e 5 v n xs) (hn : ∀ g, v.ownBlock = some g → ¬ O g) : w1.ownsRow 0 e 5 v n xs := by
  refine ⟨hr.1, ?_⟩
  rcases hr.2 with h0 | ⟨g, cap, cur, rfl, hb, hg, rest⟩
  · exact .inl h0
  · exact .inr ⟨g, cap, cur, rfl, hb, (hf.block g (Array.getElem?_eq_some_iff.1 hg).1 (hn g rfl)).trans hg, rest⟩
theorem RL.lt (l : RL w v P) : ∀ i, OwnL v P i → i < w.heap.size := by
  rintro i (h | ⟨p, hp, h⟩)
  · exact (l.row.lt i h).2
  · exact ((l.ws p hp).lt i h).2
theorem RL.kept (l : RL w v P) (hf : Fr O w w1) (hn : ∀ i, OwnL v P i → ¬ O i) : RL w1 v P :=
  ⟨own5 hf l.row (fun g hg => hn g (.inl hg)), fun p hp => hf.own (l.ws p hp) (fun g hg => hn g (.inr ⟨p, hp, hg⟩)), l.sep⟩
theorem RL.below (l : RL w v P) (hb : Below w.heap.size w w1) : RL w1 v P := l.kept (Fr.of_below (O := fun _ => False) hb) (fun _ _ => id)
theorem RL.drewN (l : RL w v P) (n : Nat) : RL (w.drewN n) v P := l.kept ((Fr.refl (fun _ => False) w).drewN n) (fun _ _ => id)
theorem row_block {e : TypeId} {n s : Nat} {xs : List Value} {g : Nat} (h : w.ownsRow 0 e s v n xs) (hg : v.ownBlock = some g) : ∃ cs, w.heap[g]? = some (.cells cs e (0, 0)) := by
  rcases h.2 with ⟨rfl, _⟩ | ⟨g', cap, cur, rfl, _, hk, _⟩
  · cases hg
  · obtain rfl : g' = g := by simpa [Value.ownBlock] using hg
    exact ⟨_, hk⟩
theorem rows_apart {e e' : TypeId} {n n' s s' : Nat} {xs xs' : List Value} {v' : Value} (h : w.ownsRow 0 e s v n xs) (h' : w.ownsRow 0 e' s' v' n' xs') (hne : e ≠ e') : DJ v v' := by
  intro g hg hg'
  obtain ⟨cs, h1⟩ := row_block h hg
  obtain ⟨cs', h2⟩ := row_block h' hg'
  rw [h1] at h2
  injection h2 with h2
  injection h2 with _ h3 _
  exact hne h3
theorem RL.far (l : RL w v P) {p : RO × Value} (hp : p ∈ P) : DJ v p.2 := rows_apart l.row (l.ws p hp) (by decide)
theorem RL.nil (w : World) : RL w (.slice none 0 0) [] := ⟨World.ownsRow_nil _ _ _ _, by simp, by simp⟩
theorem own_shape5 {e : TypeId} {n s : Nat} {xs : List Value} (h : w.ownsRow 0 e s v n xs) : ∃ a cap, v = .slice a n cap ∧ n ≤ cap ∧ cap ≤ 9223372036854775807 := by
  rcases h.2 with ⟨rfl, rfl⟩ | ⟨g, cap, cur, rfl, _, _, h1, h2, _⟩
  · exact ⟨none, 0, rfl, Nat.le_refl _, by omega⟩
  · exact ⟨_, cap, rfl, h1, by simpa [maxLen] using h2⟩
/-- what a walk asks of the object of a number -/
structure AtP (w : World) (g j : Nat) (o : RO) (u : Value) : Prop where
  c0 : w.cell? ⟨g, j * 5, none⟩ = some (.int .i64 o.at_)
  c1 : w.cell? ⟨g, j * 5 + 1, none⟩ = some (.int .i64 o.k)
  c2 : w.cell? ⟨g, j * 5 + 2, none⟩ = some (.int .i64 o.t)
  c3 : w.cell? ⟨g, j * 5 + 3, none⟩ = some u
  c4 : w.cell? ⟨g, j * 5 + 4, none⟩ = some (.int .i64 o.to)
  fz : ∀ i, w.frozen? ⟨g, i, none⟩ = false
theorem RL.at (l : RL w v P) {j : Nat} {p : RO × Value} (hp : P[j]? = some p) : ∃ g cap, v = .slice (some ⟨g, 0, none⟩) P.length cap ∧ P.length ≤ cap ∧ cap ≤ 9223372036854775807 ∧ j < P.length ∧ AtP w g j p.1 p.2 := by
  have hj := (List.getElem?_eq_some_iff.1 hp).1
  have ho := l.row
  rcases l.row.2 with ⟨_, h0⟩ | ⟨g, cap, cur, rfl, _, _, h1, h2, _⟩
  · omega
  · refine ⟨g, cap, rfl, h1, by simpa [maxLen] using h2, hj, ?_⟩
    have hc : ∀ i, i < 5 → w.cell? ⟨g, j * 5 + i, none⟩ = (roCells p.1 p.2)[i]? := fun i hi => by
      rw [ho.cellAt _ (by omega), cellsP_get i hi hp]
    exact ⟨hc 0 (by decide), hc 1 (by decide), hc 2 (by decide), hc 3 (by decide), hc 4 (by decide), fun i => ho.frozenAt i⟩
end
/-- the first object at an address -/
def fidx (P : List (RO × Value)) (a : Int) : Option Nat := P.findIdx? fun p => decide (p.1.at_ = a)
theorem fidx_some {P : List (RO × Value)} {a : Int} {j : Nat} (e : fidx P a = some j) : ∃ p, P[j]? = some p ∧ p.1.at_ = a := by
  obtain ⟨h, h1, _⟩ := List.findIdx?_eq_some_iff_getElem.1 e
  exact ⟨P[j], List.getElem?_eq_getElem h, of_decide_eq_true h1⟩
theorem fidx_none {P : List (RO × Value)} {a : Int} (e : fidx P a = none) : ∀ (j : Nat) (p : RO × Value), P[j]? = some p → p.1.at_ ≠ a := by
  intro j p hp
  exact of_decide_eq_false (List.findIdx?_eq_none_iff.1 e p (List.mem_of_getElem? hp))
/-- looking on from a place: none ahead of it is at the address -/
def Ahead (P : List (RO × Value)) (a : Int) (k : Nat) : Prop := ∀ (j : Nat) (p : RO × Value), j < k → P[j]? = some p → p.1.at_ ≠ a
theorem fidx_hit {P : List (RO × Value)} {a : Int} {k : Nat} {p : RO × Value} (h : Ahead P a k) (hp : P[k]? = some p) (ha : p.1.at_ = a) : fidx P a = some k := by
  obtain ⟨hk, rfl⟩ := List.getElem?_eq_some_iff.1 hp
  refine List.findIdx?_eq_some_iff_getElem.2 ⟨hk, decide_eq_true ha, fun j hj => ?_⟩
  have := h j _ hj (List.getElem?_eq_getElem (Nat.lt_trans hj hk))
  simpa using this
theorem fidx_miss {P : List (RO × Value)} {a : Int} (h : Ahead P a P.length) : fidx P a = none := by
  refine List.findIdx?_eq_none_iff.2 fun x hx => ?_
  obtain ⟨j, hj, rfl⟩ := List.getElem_of_mem hx
  exact decide_eq_false (h j _ hj (List.getElem?_eq_getElem hj))
def fint (o : Option Nat) : Int := match o with | some j => (j : Int) | none => -1
/-- how many words objects need -/
def usedP (P : List (RO × Value)) : Nat := (P.map fun p => 1 + p.1.ws.length).sum
theorem usedP_snoc (P : List (RO × Value)) (p : RO × Value) : usedP (P ++ [p]) = usedP P + (1 + p.1.ws.length) := by simp [usedP]
theorem usedP_take_succ {P : List (RO × Value)} {k : Nat} {p : RO × Value} (h : P[k]? = some p) : usedP (P.take (k + 1)) = usedP (P.take k) + (1 + p.1.ws.length) := by
  obtain ⟨hk, rfl⟩ := List.getElem?_eq_some_iff.1 h
  rw [List.take_succ_eq_append_getElem hk, usedP_snoc]
theorem usedP_take_le (P : List (RO × Value)) (k : Nat) : usedP (P.take k) ≤ usedP P := by
  have : usedP P = usedP (P.take k) + usedP (P.drop k) := by
    conv => lhs; rw [← List.take_append_drop k P]
    unfold usedP
    rw [List.map_append, List.sum_append]
  omega
theorem length_le_usedP (P : List (RO × Value)) : P.length ≤ usedP P := by
  induction P with
  | nil => simp [usedP]
  | cons p P ih =>
    have : usedP (p :: P) = 1 + p.1.ws.length + usedP P := by simp [usedP]
    rw [this, List.length_cons]; omega
end Go.Proofs.YtlakfnlkiebpdaaDoor
