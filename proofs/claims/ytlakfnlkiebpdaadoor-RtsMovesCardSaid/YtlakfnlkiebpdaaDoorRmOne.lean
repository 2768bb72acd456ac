/- The document's memory as it lies in the heap: lists of objects, each with words of its own. Conditions: none. Contracts of what only reads the document's memory: Find, Used, Next, Free, Look, Load. Conditions: the memory lies as RM says. Contracts of the document's memory: Look, Load, Store, Flip. Conditions: the memory lies as RM says. Contracts of the document's memory: Look, Load. Conditions: the memory lies as RM says. Contracts of the document's memory: New, Alloc. Conditions: the memory lies as RM says. The contract of the document's Alloc where there is room. Conditions: the memory lies as RM says. The contract of the document's Move. Conditions: the memory lies as RM says. A memory and the document's beside it, alike. Conditions: none. -/
import Derived.Test.YtlakfnlkiebpdaaDoorMemThree
import Derived.Deep.AppendLies
import Derived.Deep.RegionLaw
import Derived.Laws.AppendOwnNone
import Derived.StillTailTactics
namespace Go.Proofs.YtlakfnlkiebpdaaDoor
open Go Go.RowKit
/-- an object of the document's memory -/
structure RO where
  at_ : Int
  k : Int
  t : Int
  ws : List Nat
  to : Int
def roCells (o : RO) (u : Value) : List Value := [.int .i64 o.at_, .int .i64 o.k, .int .i64 o.t, u, .int .i64 o.to]
def cellsP (P : List (RO × Value)) : List Value := P.flatMap fun p => roCells p.1 p.2
theorem cellsP_cons (p : RO × Value) (P : List (RO × Value)) : cellsP (p :: P) = roCells p.1 p.2 ++ cellsP P := rfl
theorem cellsP_append (P Q : List (RO × Value)) : cellsP (P ++ Q) = cellsP P ++ cellsP Q := by simp [cellsP]
theorem cellsP_length (P : List (RO × Value)) : (cellsP P).length = P.length * 5 := by
  induction P with
  | nil => rfl
  | cons p P ih => rw [cellsP_cons, List.length_append, ih]; simp [roCells]; omega
theorem cellsP_get {P : List (RO × Value)} {p : RO × Value} (i : Nat) (hi : i < 5) : ∀ {j : Nat}, P[j]? = some p → (cellsP P)[j * 5 + i]? = (roCells p.1 p.2)[i]? := by
  induction P with
  | nil => intro j h; simp at h
  | cons q P ih =>
    intro j h
    rw [cellsP_cons]
    cases j with
    | zero =>
      rw [List.getElem?_cons_zero] at h
      obtain rfl := Option.some.inj h
      rw [List.getElem?_append_left (by simp [roCells]; omega), Nat.zero_mul, Nat.zero_add]
    | succ j =>
      rw [List.getElem?_cons_succ] at h
      rw [List.getElem?_append_right (by simp [roCells]; omega), ← ih h]
      congr 1
      simp [roCells]; omega
theorem cellsP_set {P : List (RO × Value)} {p q : RO × Value} (i : Nat) (hi : i < 5) (x : Value) (hq : roCells q.1 q.2 = (roCells p.1 p.2).set i x) : ∀ {j : Nat}, P[j]? = some p → cellsP (P.set j q) = (cellsP P).set (j * 5 + i) x := by
  induction P with
  | nil => intro j h; simp at h
  | cons r P ih =>
    intro j h
    cases j with
    | zero =>
      rw [List.getElem?_cons_zero] at h
      obtain rfl := Option.some.inj h
      rw [List.set_cons_zero, cellsP_cons, cellsP_cons, hq, Nat.zero_mul, Nat.zero_add, List.set_append_left _ _ (by simp [roCells]; omega)]
    | succ j =>
      rw [List.getElem?_cons_succ] at h
      rw [List.set_cons_succ, cellsP_cons, cellsP_cons, ih h, List.set_append_right _ _ (by simp [roCells]; omega)]
      congr 1
      congr 1
      simp [roCells]; omega
def DJ (a b : Value) : Prop := ∀ g, a.ownBlock = some g → b.ownBlock ≠ some g
theorem DJ.symm {a b : Value} (h : DJ a b) : DJ b a := fun g hb ha => h g ha hb
def OwnL (v : Value) (P : List (RO × Value)) (i : Nat) : Prop := v.ownBlock = some i ∨ ∃ p ∈ P, p.2.ownBlock = some i
/-- a list of objects -/
structure RL (w : World) (v : Value) (P : List (RO × Value)) : Prop where
  row : w.ownsRow 0 91 5 v P.length (cellsP P)
  ws : ∀ p ∈ P, w.ownsRow 0 33 1 p.2 p.1.ws.length (u64s p.1.ws)
  sep : (P.map Prod.snd).Pairwise DJ
section
variable {w w1 : World} {v : Value} {P : List (RO × Value)} {O : Nat → Prop}
theorem own5 (hf : Fr O w w1) {e : TypeId} {n : Nat} {xs : List Value} (hr : w.ownsRow 0 e 5 v n xs) (hn : ∀ g, v.ownBlock = some g → ¬ O g) : w1.ownsRow 0 e 5 v n xs := by
  refine ⟨hr.1, ?_⟩
  rcases hr.2 with h0 | ⟨g, cap, cur, rfl, hb, hg, rest⟩
  · exact .inl h0
  · exact .inr ⟨g, cap, cur, rfl, hb, (hf.block g (Array.getElem?_eq_some_iff.1 hg).1 (hn g rfl)).trans hg, rest⟩
theorem RL.lt (l : RL w v P) : ∀ i, OwnL v P i → i < w.heap.size := by
  rintro i (h | ⟨p, hp, h⟩)
  · exact (l.row.lt i h).2
  · exact ((l.ws p hp).lt i h).2
theorem RL.kept (l : RL w v P) (hf : Fr O w w1) (hn : ∀ i, OwnL v P i → ¬ O i) : RL w1 v P :=
  ⟨own5 hf l.row (fun g hg => hn g (.inl hg)), fun p hp => hf.own (l.ws p hp) (fun g hg => hn g (.inr ⟨p, hp, hg⟩)), l.sep⟩
theorem RL.below (l : RL w v P) (hb : Below w.heap.size w w1) : RL w1 v P := l.kept (Fr.of_below (O := fun _ => False) hb) (fun _ _ => id)
theorem RL.drewN (l : RL w v P) (n : Nat) : RL (w.drewN n) v P := l.kept ((Fr.refl (fun _ => False) w).drewN n) (fun _ _ => id)
theorem row_block {e : TypeId} {n s : Nat} {xs : List Value} {g : Nat} (h : w.ownsRow 0 e s v n xs) (hg : v.ownBlock = some g) : ∃ cs, w.heap[g]? = some (.cells cs e (0, 0)) := by
  rcases h.2 with ⟨rfl, _⟩ | ⟨g', cap, cur, rfl, _, hk, _⟩
  · cases hg
  · obtain rfl : g' = g := by simpa [Value.ownBlock] using hg
    exact ⟨_, hk⟩
theorem rows_apart {e e' : TypeId} {n n' s s' : Nat} {xs xs' : List Value} {v' : Value} (h : w.ownsRow 0 e s v n xs) (h' : w.ownsRow 0 e' s' v' n' xs') (hne : e ≠ e') : DJ v v' := by
  intro g hg hg'
  obtain ⟨cs, h1⟩ := row_block h hg
  obtain ⟨cs', h2⟩ := row_block h' hg'
  rw [h1] at h2
  injection h2 with h2
  injection h2 with _ h3 _
  exact hne h3
theorem RL.far (l : RL w v P) {p : RO × Value} (hp : p ∈ P) : DJ v p.2 := rows_apart l.row (l.ws p hp) (by decide)
theorem RL.nil (w : World) : RL w (.slice none 0 0) [] := ⟨World.ownsRow_nil _ _ _ _, by simp, by simp⟩
theorem own_shape5 {e : TypeId} {n s : Nat} {xs : List Value} (h : w.ownsRow 0 e s v n xs) : ∃ a cap, v = .slice a n cap ∧ n ≤ cap ∧ cap ≤ 9223372036854775807 := by
  rcases h.2 with ⟨rfl, rfl⟩ | ⟨g, cap, cur, rfl, _, _, h1, h2, _⟩
  · exact ⟨none, 0, rfl, Nat.le_refl _, by omega⟩
  · exact ⟨_, cap, rfl, h1, by simpa [maxLen] using h2⟩
/-- what a walk asks of the object of a number -/
structure AtP (w : World) (g j : Nat) (o : RO) (u : Value) : Prop where
  c0 : w.cell? ⟨g, j * 5, none⟩ = some (.int .i64 o.at_)
  c1 : w.cell? ⟨g, j * 5 + 1, none⟩ = some (.int .i64 o.k)
  c2 : w.cell? ⟨g, j * 5 + 2, none⟩ = some (.int .i64 o.t)
  c3 : w.cell? ⟨g, j * 5 + 3, none⟩ = some u
  c4 : w.cell? ⟨g, j * 5 + 4, none⟩ = some (.int .i64 o.to)
  fz : ∀ i, w.frozen? ⟨g, i, none⟩ = false
theorem RL.at (l : RL w v P) {j : Nat} {p : RO × Value} (hp : P[j]? = some p) : ∃ g cap, v = .slice (some ⟨g, 0, none⟩) P.length cap ∧ P.length ≤ cap ∧ cap ≤ 9223372036854775807 ∧ j < P.length ∧ AtP w g j p.1 p.2 := by
  have hj := (List.getElem?_eq_some_iff.1 hp).1
  have ho := l.row
  rcases l.row.2 with ⟨_, h0⟩ | ⟨g, cap, cur, rfl, _, _, h1, h2, _⟩
  · omega
  · refine ⟨g, cap, rfl, h1, by simpa [maxLen] using h2, hj, ?_⟩
    have hc : ∀ i, i < 5 → w.cell? ⟨g, j * 5 + i, none⟩ = (roCells p.1 p.2)[i]? := fun i hi => by
      rw [ho.cellAt _ (by omega), cellsP_get i hi hp]
    exact ⟨hc 0 (by decide), hc 1 (by decide), hc 2 (by decide), hc 3 (by decide), hc 4 (by decide), fun i => ho.frozenAt i⟩
end
/-- the first object at an address -/
def fidx (P : List (RO × Value)) (a : Int) : Option Nat := P.findIdx? fun p => decide (p.1.at_ = a)
theorem fidx_some {P : List (RO × Value)} {a : Int} {j : Nat} (e : fidx P a = some j) : ∃ p, P[j]? = some p ∧ p.1.at_ = a := by
  obtain ⟨h, h1, _⟩ := List.findIdx?_eq_some_iff_getElem.1 e
  exact ⟨P[j], List.getElem?_eq_getElem h, of_decide_eq_true h1⟩
theorem fidx_none {P : List (RO × Value)} {a : Int} (e : fidx P a = none) : ∀ (j : Nat) (p : RO × Value), P[j]? = some p → p.1.at_ ≠ a := by
  intro j p hp
  exact of_decide_eq_false (List.findIdx?_eq_none_iff.1 e p (List.mem_of_getElem? hp))
/-- looking on from a place: none ahead of it is at the address -/
def Ahead (P : List (RO × Value)) (a : Int) (k : Nat) : Prop := ∀ (j : Nat) (p : RO × Value), j < k → P[j]? = some p → p.1.at_ ≠ a
theorem fidx_hit {P : List (RO × Value)} {a : Int} {k : Nat} {p : RO × Value} (h : Ahead P a k) (hp : P[k]? = some p) (ha : p.1.at_ = a) : fidx P a = some k := by
  obtain ⟨hk, rfl⟩ := List.getElem?_eq_some_iff.1 hp
  refine List.findIdx?_eq_some_iff_getElem.2 ⟨hk, decide_eq_true ha, fun j hj => ?_⟩
  have := h j _ hj (List.getElem?_eq_getElem (Nat.lt_trans hj hk))
  simpa using this
theorem fidx_miss {P : List (RO × Value)} {a : Int} (h : Ahead P a P.length) : fidx P a = none := by
  refine List.findIdx?_eq_none_iff.2 fun x hx => ?_
  obtain ⟨j, hj, rfl⟩ := List.getElem_of_mem hx
  exact decide_eq_false (h j _ hj (List.getElem?_eq_getElem hj))
def fint (o : Option Nat) : Int := match o with | some j => (j : Int) | none => -1
/-- how many words objects need -/
def usedP (P : List (RO × Value)) : Nat := (P.map fun p => 1 + p.1.ws.length).sum
theorem usedP_snoc (P : List (RO × Value)) (p : RO × Value) : usedP (P ++ [p]) = usedP P + (1 + p.1.ws.length) := by simp [usedP]
theorem usedP_take_succ {P : List (RO × Value)} {k : Nat} {p : RO × Value} (h : P[k]? = some p) : usedP (P.take (k + 1)) = usedP (P.take k) + (1 + p.1.ws.length) := by
  obtain ⟨hk, rfl⟩ := List.getElem?_eq_some_iff.1 h
  rw [List.take_succ_eq_append_getElem hk, usedP_snoc]
theorem usedP_take_le (P : List (RO × Value)) (k : Nat) : usedP (P.take k) ≤ usedP P := by
  have : usedP P = usedP (P.take k) + usedP (P.drop k) := by
    conv => lhs; rw [← List.take_append_drop k P]
    unfold usedP
    rw [List.map_append, List.sum_append]
  omega
theorem length_le_usedP (P : List (RO × Value)) : P.length ≤ usedP P := by
  induction P with
  | nil => simp [usedP]
  | cons p P ih =>
    have : usedP (p :: P) = 1 + p.1.ws.length + usedP P := by simp [usedP]
    rw [this, List.length_cons]; omega
end Go.Proofs.YtlakfnlkiebpdaaDoor
namespace Go.Proofs.YtlakfnlkiebpdaaDoor
open Go Go.RowKit
section
variable {w : World} {v : Value} {P : List (RO × Value)}
set_option maxRecDepth 100000 in
set_option maxHeartbeats 1000000 in
theorem rfind_any (l : RL w v P) (hn : P.length ≤ 1000000) (a : Int) : Calls Tryd.prog 53 #[v, .int .i64 a] w fun e w' => e = .returned (.int .i64 (fint (fidx P a))) ∧ w' = w := by
  obtain ⟨ad, cap, rfl, hc1, hc2⟩ := own_shape5 l.row
  obtain ⟨N, hN⟩ : ∃ N, P.length = N := ⟨_, rfl⟩
  have HN := Lib.hid hN
  rw [hN] at hc1 hn
  have HL := Lib.hid l
  rw [hN]
  clear l hN
  go_enter Tryd.func53, Tryd.ntmps53
  go_wp2_with fail
  go_loop [5] (fun i => ∃ k : Nat, k ≤ N ∧ i = .int .i64 k ∧ Ahead P a k) (fun i => N - (intOf i).toNat)
  case atStart => exact ⟨0, Nat.zero_le _, rfl, fun j p hj => by omega⟩
  case round =>
    obtain ⟨k, hk, rfl, hA⟩ := hrel
    have HA := Lib.hid hA
    clear hA
    by_cases hlt : k < N
    · have hkP : k < P.length := by rw [HN.out]; exact hlt
      have hp : P[k]? = some P[k] := List.getElem?_eq_getElem hkP
      obtain ⟨p, hpe⟩ : ∃ p, P[k] = p := ⟨_, rfl⟩
      rw [hpe] at hp
      obtain ⟨g, cap', hv, _, _, _, A⟩ := HL.out.at hp
      injection hv with e1 _ _
      subst e1
      have hc := A.c0
      obtain ⟨x, hx⟩ : ∃ x, p.1.at_ = x := ⟨_, rfl⟩
      rw [hx] at hc
      have HX := Lib.hid hx
      have HP := Lib.hid hp
      clear hp hpe A hx
      by_cases hxa : x = a
      · subst hxa
        have hb : (x == x) = true := beqT rfl
        go_wp2_with fail
        go_ret
        exact ⟨ret_int (by rw [fidx_hit HA.out HP.out HX.out]; rfl), rfl⟩
      · have hb : (x == a) = false := beqF hxa
        have HXA := Lib.hid hxa
        clear hxa
        go_wp2_with fail
        go_round
        case rel => exact ⟨k + 1, by omega, by go_num, fun j q hj hq => by
          by_cases e : j = k
          · subst e
            rw [HP.out] at hq
            obtain rfl := Option.some.inj hq
            rw [HX.out]; exact HXA.out
          · exact HA.out j q (by omega) hq⟩
        case measure => simp [intOf]; omega
    · obtain rfl : k = N := by omega
      go_wp2_with fail
      go_ret
      exact ⟨ret_int (by rw [fidx_miss (by rw [HN.out]; exact HA.out)]; rfl), rfl⟩
set_option maxRecDepth 100000 in
set_option maxHeartbeats 1000000 in
theorem used_any (l : RL w v P) (hu : usedP P ≤ 1000000) : Calls Tryd.prog 50 #[v] w fun e w' => e = .returned (.int .i64 (usedP P : Nat)) ∧ w' = w := by
  obtain ⟨ad, cap, rfl, hc1, hc2⟩ := own_shape5 l.row
  obtain ⟨N, hN⟩ : ∃ N, P.length = N := ⟨_, rfl⟩
  have hn := length_le_usedP P
  have HN := Lib.hid hN
  have HU := Lib.hid hu
  rw [hN] at hc1 hn
  have hN2 : N ≤ 1000000 := by omega
  have HL := Lib.hid l
  rw [hN]
  clear l hN hu hn
  go_enter Tryd.func50, Tryd.ntmps50
  go_wp2_with fail
  go_loop [3, 4] (fun n i => ∃ k m : Nat, k ≤ N ∧ i = .int .i64 k ∧ n = .int .i64 m ∧ usedP (P.take k) = m) (fun _ i => N - (intOf i).toNat)
  case atStart => exact ⟨0, 0, Nat.zero_le _, rfl, rfl, by simp [usedP]⟩
  case round =>
    obtain ⟨k, m, hk, rfl, rfl, hm⟩ := hrel
    have hmu : m ≤ 1000000 := by have := usedP_take_le P k; have := HU.out; omega
    have HM := Lib.hid hm
    clear hm
    by_cases hlt : k < N
    · have hkP : k < P.length := by rw [HN.out]; exact hlt
      have hp : P[k]? = some P[k] := List.getElem?_eq_getElem hkP
      have hmem : P[k] ∈ P := List.getElem_mem hkP
      obtain ⟨p, hpe⟩ : ∃ p, P[k] = p := ⟨_, rfl⟩
      rw [hpe] at hp hmem
      obtain ⟨g, cap', hv, _, _, _, A⟩ := HL.out.at hp
      injection hv with e1 _ _
      subst e1
      have hc := A.c3
      obtain ⟨ua, uc, hue, hu1, hu2⟩ := own_shape5 (HL.out.ws p hmem)
      rw [hue] at hc
      obtain ⟨z, hz⟩ : ∃ z, p.1.ws.length = z := ⟨_, rfl⟩
      rw [hz] at hc hu1
      have hzs : m + (1 + z) ≤ 1000000 := by
        have h1 := usedP_take_succ hp
        have h2 := usedP_take_le P (k + 1)
        have h3 := HU.out
        have h4 := HM.out
        omega
      have HS := Lib.hid (show usedP (P.take (k + 1)) = m + (1 + z) from by rw [usedP_take_succ hp, HM.out, hz])
      clear hp hpe A hmem hue hz
      go_wp2_with fail
      go_round
      case rel => exact ⟨k + 1, m + (1 + z), by omega, by go_num, by go_num, HS.out⟩
      case measure => simp [intOf]; omega
    · obtain rfl : k = N := by omega
      go_wp2_with fail
      go_ret
      exact ⟨ret_int (by rw [← HM.out, ← HN.out, List.take_length]), rfl⟩
end
/-- the document's memory at b -/
structure RM (w : World) (b W h : Nat) (v1 : Value) (P1 : List (RO × Value)) (v2 : Value) (P2 : List (RO × Value)) : Prop where
  blk : w.heap[b]? = some (.cells #[.int .i64 W, .int .i64 h, v1, v2] 30 (0, 0))
  l1 : RL w v1 P1
  l2 : RL w v2 P2
  n1 : ¬ OwnL v1 P1 b
  n2 : ¬ OwnL v2 P2 b
  n3 : ∀ i, OwnL v1 P1 i → ¬ OwnL v2 P2 i
def OwnR (b : Nat) (v1 : Value) (P1 : List (RO × Value)) (v2 : Value) (P2 : List (RO × Value)) (i : Nat) : Prop := i = b ∨ OwnL v1 P1 i ∨ OwnL v2 P2 i
structure RZ (W h : Nat) (P1 P2 : List (RO × Value)) : Prop where
  w1 : W ≤ 65536
  hh : h < 2
  u1 : usedP P1 ≤ 65536
  u2 : usedP P2 ≤ 65536
section
variable {w w1 : World} {b W h : Nat} {v1 v2 : Value} {P1 P2 : List (RO × Value)}
theorem RM.lt (m : RM w b W h v1 P1 v2 P2) : b < w.heap.size := (Array.getElem?_eq_some_iff.1 m.blk).1
theorem RM.own_lt (m : RM w b W h v1 P1 v2 P2) : ∀ i, OwnR b v1 P1 v2 P2 i → i < w.heap.size := by
  rintro i (rfl | a | a)
  · exact m.lt
  · exact m.l1.lt i a
  · exact m.l2.lt i a
theorem RM.kept {O : Nat → Prop} (m : RM w b W h v1 P1 v2 P2) (hf : Fr O w w1) (hn : ∀ i, OwnR b v1 P1 v2 P2 i → ¬ O i) : RM w1 b W h v1 P1 v2 P2 :=
  ⟨(hf.block b m.lt (hn b (.inl rfl))).trans m.blk, m.l1.kept hf (fun i hi => hn i (.inr (.inl hi))), m.l2.kept hf (fun i hi => hn i (.inr (.inr hi))), m.n1, m.n2, m.n3⟩
theorem RM.drewN (m : RM w b W h v1 P1 v2 P2) (n : Nat) : RM (w.drewN n) b W h v1 P1 v2 P2 := m.kept ((Fr.refl (fun _ => False) w).drewN n) (fun _ _ => id)
theorem RM.below (m : RM w b W h v1 P1 v2 P2) (hb : Below w.heap.size w w1) : RM w1 b W h v1 P1 v2 P2 := m.kept (Fr.of_below (O := fun _ => False) hb) (fun _ _ => id)
theorem RM.c0 (m : RM w b W h v1 P1 v2 P2) : w.cell? ⟨b, 0, none⟩ = some (.int .i64 W) := blk_cell m.blk 0
theorem RM.c1 (m : RM w b W h v1 P1 v2 P2) : w.cell? ⟨b, 1, none⟩ = some (.int .i64 h) := blk_cell m.blk 1
theorem RM.c2 (m : RM w b W h v1 P1 v2 P2) : w.cell? ⟨b, 2, none⟩ = some v1 := blk_cell m.blk 2
theorem RM.c3 (m : RM w b W h v1 P1 v2 P2) : w.cell? ⟨b, 3, none⟩ = some v2 := blk_cell m.blk 3
theorem RM.fz (m : RM w b W h v1 P1 v2 P2) : ∀ i, w.frozen? ⟨b, i, none⟩ = false := blk_free m.blk
set_option maxRecDepth 100000 in
set_option maxHeartbeats 1000000 in
theorem rnext_any (m : RM w b W h v1 P1 v2 P2) (z : RZ W h P1 P2) : Calls Tryd.prog 20 #[.pointer (some ⟨b, 0, none⟩)] w fun e w' => e = .returned (.int .i64 (adr h W (usedP P1))) ∧ ∃ n, w' = w.drewN n := by
  have c0 := m.c0
  have c1 := m.c1
  have c2 := m.c2
  have hU := fun n => used_any (m.l1.drewN n) (Nat.le_trans z.u1 (by decide))
  have HU := Lib.hid hU
  have hu := z.u1
  have hw := z.w1
  have hh := z.hh
  obtain ⟨u, hue⟩ : ∃ u, usedP P1 = u := ⟨_, rfl⟩
  rw [hue] at HU hu ⊢
  clear m z hU hue
  have hh' : h = 0 ∨ h = 1 := by omega
  rcases hh' with rfl | rfl
  · have q1 : IntKind.i64.wrap (((0 : Nat) : Int) * W) = 0 := by rw [IntKind.wrap_i64]; simp
    have q2 : IntKind.i64.wrap (1 + (0 : Int)) = 1 := by decide
    have q3 : IntKind.i64.wrap (1 + (u : Int)) = 1 + u := by rw [IntKind.wrap_i64]; omega
    go_enter Tryd.func20, Tryd.ntmps20
    go_wp2_with fail
    go_quiet ((go_at_call 50; refine Calls.quiet_of_same (HU.out _)))
    go_wp2_with fail
    go_ret
    exact ⟨ret_int (by rw [adr_0]; omega), _, rfl⟩
  · have q1 : IntKind.i64.wrap (((1 : Nat) : Int) * W) = W := by rw [IntKind.wrap_i64]; omega
    have q2 : IntKind.i64.wrap (1 + (W : Int)) = 1 + W := by rw [IntKind.wrap_i64]; omega
    have q3 : IntKind.i64.wrap (1 + (W : Int) + (u : Int)) = 1 + W + u := by rw [IntKind.wrap_i64]; omega
    go_enter Tryd.func20, Tryd.ntmps20
    go_wp2_with fail
    go_quiet ((go_at_call 50; refine Calls.quiet_of_same (HU.out _)))
    go_wp2_with fail
    go_ret
    exact ⟨ret_int (by rw [adr_1]; omega), _, rfl⟩
set_option maxRecDepth 100000 in
set_option maxHeartbeats 1000000 in
theorem rfree_any (m : RM w b W h v1 P1 v2 P2) (z : RZ W h P1 P2) : Calls Tryd.prog 85 #[.pointer (some ⟨b, 0, none⟩)] w fun e w' => e = .returned (.int .i64 ((W : Int) - usedP P1)) ∧ ∃ n, w' = w.drewN n := by
  have c0 := m.c0
  have c2 := m.c2
  have hU := fun n => used_any (m.l1.drewN n) (Nat.le_trans z.u1 (by decide))
  have HU := Lib.hid hU
  have hu := z.u1
  have hw := z.w1
  obtain ⟨u, hue⟩ : ∃ u, usedP P1 = u := ⟨_, rfl⟩
  rw [hue] at HU hu ⊢
  clear m z hU hue
  have q3 : IntKind.i64.wrap ((W : Int) - (u : Int)) = W - u := by rw [IntKind.wrap_i64]; omega
  go_enter Tryd.func85, Tryd.ntmps85
  go_wp2_with fail
  go_quiet ((go_at_call 50; refine Calls.quiet_of_same (HU.out _)))
  go_wp2_with fail
  go_ret
  exact ⟨rfl, _, rfl⟩
end
end Go.Proofs.YtlakfnlkiebpdaaDoor
namespace Go.Proofs.YtlakfnlkiebpdaaDoor
open Go Go.RowKit
/-- an object with another word, or moved elsewhere -/
def pW (p : RO × Value) (i x : Nat) : RO × Value := ({ p.1 with ws := p.1.ws.set i x }, p.2)
def pT (p : RO × Value) (t : Int) : RO × Value := ({ p.1 with to := t }, p.2)
theorem cellsP_keep {P : List (RO × Value)} {p q : RO × Value} (hq : roCells q.1 q.2 = roCells p.1 p.2) : ∀ {j : Nat}, P[j]? = some p → cellsP (P.set j q) = cellsP P := by
  induction P with
  | nil => intro j h; simp at h
  | cons r P ih =>
    intro j h
    cases j with
    | zero =>
      rw [List.getElem?_cons_zero] at h
      obtain rfl := Option.some.inj h
      rw [List.set_cons_zero, cellsP_cons, cellsP_cons, hq]
    | succ j =>
      rw [List.getElem?_cons_succ] at h
      rw [List.set_cons_succ, cellsP_cons, cellsP_cons, ih h]
theorem fidx_lt {P : List (RO × Value)} {a : Int} {j : Nat} (e : fidx P a = some j) : j < P.length := by
  obtain ⟨p, hp, _⟩ := fidx_some e
  exact (List.getElem?_eq_some_iff.1 hp).1
section
variable {w w1 : World} {v : Value} {P : List (RO × Value)}
theorem RL.sep_at (l : RL w v P) {i j : Nat} {p q : RO × Value} (hp : P[i]? = some p) (hq : P[j]? = some q) (hne : i ≠ j) : DJ p.2 q.2 := by
  have hs := List.pairwise_iff_getElem.1 l.sep
  obtain ⟨hi, rfl⟩ := List.getElem?_eq_some_iff.1 hp
  obtain ⟨hj, rfl⟩ := List.getElem?_eq_some_iff.1 hq
  rcases Nat.lt_or_gt_of_ne hne with h | h
  · have := hs i j (by simpa using hi) (by simpa using hj) h
    simpa using this
  · have := hs j i (by simpa using hj) (by simpa using hi) h
    exact DJ.symm (by simpa using this)
theorem snd_set {P : List (RO × Value)} {j : Nat} {p q : RO × Value} (hp : P[j]? = some p) (hq : q.2 = p.2) : (P.set j q).map Prod.snd = P.map Prod.snd := by
  rw [List.map_set, hq]
  apply List.ext_getElem?
  intro i
  by_cases e : i = j
  · subst e
    obtain ⟨hj, rfl⟩ := List.getElem?_eq_some_iff.1 hp
    rw [List.getElem?_set_self (by simpa using hj)]
    simp [hj]
  · rw [List.getElem?_set_ne (fun q => e q.symm)]
/-- what a walk asks of a word -/
theorem word_at {u : Value} {ws : List Nat} (h : w.ownsRow 0 33 1 u ws.length (u64s ws)) {i : Nat} (hi : i < ws.length) : ∃ g c, u = .slice (some ⟨g, 0, none⟩) ws.length c ∧ ws.length ≤ c ∧ c ≤ 9223372036854775807 ∧ w.cell? ⟨g, i, none⟩ = some (.int .u64 ((ws.getD i 0 : Nat) : Int)) ∧ w.frozen? ⟨g, i, none⟩ = false := by
  have h' := h
  rcases h.2 with ⟨_, h0⟩ | ⟨g, cap, cur, rfl, _, _, h1, h2, _⟩
  · omega
  · exact ⟨g, cap, rfl, h1, by simpa [maxLen] using h2, (h'.cellAt i (by omega)).trans (u64s_get _ _ hi), h'.frozenAt i⟩
theorem RL.set_word (l : RL w v P) {j i g n c x : Nat} {p : RO × Value} (hp : P[j]? = some p) (hu : p.2 = .slice (some ⟨g, 0, none⟩) n c) : RL (w.setCell ⟨g, i, none⟩ (.int .u64 (x : Int))) v (P.set j (pW p i x)) := by
  have hpm := List.mem_of_getElem? hp
  have hog : p.2.ownBlock = some g := by rw [hu]; rfl
  have hf : Fr (· = g) w (w.setCell ⟨g, i, none⟩ (.int .u64 (x : Int))) := (Fr.refl (· = g) w).setCell (p := ⟨g, i, none⟩) (.inl rfl) _
  refine ⟨?_, fun q hq => ?_, ?_⟩
  · have := own5 hf l.row (fun k hk e => by subst e; exact (l.far hpm) k hk hog)
    rw [List.length_set, cellsP_keep (p := p) (q := pW p i x) rfl hp]
    exact this
  · obtain ⟨k, hk⟩ := List.getElem?_of_mem hq
    by_cases e : k = j
    · subst e
      rw [List.getElem?_set_self (List.getElem?_eq_some_iff.1 hp).1] at hk
      obtain rfl := Option.some.inj hk
      have ho := l.ws p hpm
      show (w.setCell ⟨g, i, none⟩ (.int .u64 (x : Int))).ownsRow 0 33 1 p.2 (p.1.ws.set i x).length (u64s (p.1.ws.set i x))
      rw [List.length_set, u64s_set]
      rw [hu] at ho ⊢
      obtain ⟨_, _, hsh, _⟩ := own_shape5 ho
      have hn : n = p.1.ws.length := by injection hsh
      rw [hn] at ho ⊢
      exact (ho.stored i _).1
    · rw [List.getElem?_set_ne (fun q => e q.symm)] at hk
      exact hf.own (l.ws q (List.mem_of_getElem? hk)) (fun b hb e2 => by subst e2; exact (l.sep_at hk hp e) b hb hog)
  · rw [snd_set (q := pW p i x) hp rfl]; exact l.sep
theorem own_set_word {j i x : Nat} {p : RO × Value} (hp : P[j]? = some p) : ∀ b, OwnL v (P.set j (pW p i x)) b → OwnL v P b := by
  rintro b (h | ⟨q, hq, h⟩)
  · exact .inl h
  · rcases List.mem_or_eq_of_mem_set hq with e | e
    · exact .inr ⟨q, e, h⟩
    · rw [e] at h; exact .inr ⟨p, List.mem_of_getElem? hp, h⟩
end
section
variable {w w1 : World} {b W h : Nat} {v1 v2 : Value} {P1 P2 : List (RO × Value)}
theorem RM.find1 (m : RM w b W h v1 P1 v2 P2) (z : RZ W h P1 P2) (a : Int) : Calls Tryd.prog 53 #[v1, .int .i64 a] w fun e w' => e = .returned (.int .i64 (fint (fidx P1 a))) ∧ w' = w :=
  rfind_any m.l1 (by have := length_le_usedP P1; have := z.u1; omega) a
theorem RM.find2 (m : RM w b W h v1 P1 v2 P2) (z : RZ W h P1 P2) (a : Int) : Calls Tryd.prog 53 #[v2, .int .i64 a] w fun e w' => e = .returned (.int .i64 (fint (fidx P2 a))) ∧ w' = w :=
  rfind_any m.l2 (by have := length_le_usedP P2; have := z.u2; omega) a
set_option maxRecDepth 100000 in
set_option maxHeartbeats 1000000 in
theorem rstore_miss (m : RM w b W h v1 P1 v2 P2) (z : RZ W h P1 P2) (a i x : Int) (hi : fidx P1 a = none) : Calls Tryd.prog 47 #[.pointer (some ⟨b, 0, none⟩), .int .i64 a, .int .i64 i, .int .u64 x] w fun e w' => e = .returned (.int .i64 20) ∧ w' = w := by
  have c2 := m.c2
  have hf := m.find1 z a
  rw [hi] at hf
  obtain ⟨ad, cap, rfl, hc1, hc2⟩ := own_shape5 m.l1.row
  have HF := Lib.hid (show Calls _ _ _ _ (fun e w' => e = .returned (.int .i64 (-1)) ∧ w' = w) from hf)
  clear m z hf hi
  go_enter Tryd.func47, Tryd.ntmps47
  go_wp2_with fail
  refine HF.out.mono ?_
  rintro e w' ⟨rfl, rfl⟩
  go_wp2_with fail
  go_ret
  exact ⟨rfl, rfl⟩
set_option maxRecDepth 100000 in
set_option maxHeartbeats 1000000 in
theorem rstore_bad (m : RM w b W h v1 P1 v2 P2) (z : RZ W h P1 P2) (a i x : Int) {j : Nat} {p : RO × Value} (hi : fidx P1 a = some j) (hp : P1[j]? = some p) (hr : i < 0 ∨ (p.1.ws.length : Int) ≤ i) : Calls Tryd.prog 47 #[.pointer (some ⟨b, 0, none⟩), .int .i64 a, .int .i64 i, .int .u64 x] w fun e w' => e = .returned (.int .i64 20) ∧ w' = w := by
  have c2 := m.c2
  have hf := m.find1 z a
  rw [hi] at hf
  obtain ⟨g, cap, hv, hc1, hc2, hj, A⟩ := m.l1.at hp
  obtain ⟨ua, uc, hu, hu1, hu2⟩ := own_shape5 (m.l1.ws p (List.mem_of_getElem? hp))
  have hlu : P1.length ≤ 65536 := Nat.le_trans (length_le_usedP P1) z.u1
  have d3 := A.c3
  rw [hu] at d3
  rw [hv] at hf c2
  have HF := Lib.hid (show Calls _ _ _ _ (fun e w' => e = .returned (.int .i64 (j : Int)) ∧ w' = w) from hf)
  have hj0 : (0 : Int) ≤ j := by omega
  have hj1 : (j : Int) < P1.length := by omega
  clear m z hf hi A hv hu
  rcases hr with hr | hr
  · go_enter Tryd.func47, Tryd.ntmps47
    go_wp2_with fail
    refine HF.out.mono ?_
    rintro e w' ⟨rfl, rfl⟩
    go_wp2_with fail
    go_ret
    exact ⟨rfl, rfl⟩
  · have hr0 : ¬ i < 0 := by omega
    go_enter Tryd.func47, Tryd.ntmps47
    go_wp2_with fail
    refine HF.out.mono ?_
    rintro e w' ⟨rfl, rfl⟩
    go_wp2_with fail
    go_ret
    exact ⟨rfl, rfl⟩
set_option maxRecDepth 100000 in
set_option maxHeartbeats 1000000 in
theorem rstore_raw (m : RM w b W h v1 P1 v2 P2) (z : RZ W h P1 P2) (a : Int) (i x : Nat) {j : Nat} {p : RO × Value} (hi : fidx P1 a = some j) (hp : P1[j]? = some p) (hr : i < p.1.ws.length) : Calls Tryd.prog 47 #[.pointer (some ⟨b, 0, none⟩), .int .i64 a, .int .i64 i, .int .u64 x] w fun e w' => e = .returned (.int .i64 0) ∧ ∃ g n c, p.2 = .slice (some ⟨g, 0, none⟩) n c ∧ w' = w.setCell ⟨g, i, none⟩ (.int .u64 (x : Int)) := by
  have c2 := m.c2
  have hf := m.find1 z a
  rw [hi] at hf
  obtain ⟨g, cap, hv, hc1, hc2, hj, A⟩ := m.l1.at hp
  obtain ⟨g2, uc, hu, hu1, hu2, cw, fw⟩ := word_at (m.l1.ws p (List.mem_of_getElem? hp)) hr
  have hlu : P1.length ≤ 65536 := Nat.le_trans (length_le_usedP P1) z.u1
  have d3 := A.c3
  rw [hu] at d3
  rw [hv] at hf c2
  have HF := Lib.hid (show Calls _ _ _ _ (fun e w' => e = .returned (.int .i64 (j : Int)) ∧ w' = w) from hf)
  have hj0 : (0 : Int) ≤ j := by omega
  have hj1 : (j : Int) < P1.length := by omega
  have hi0 : (0 : Int) ≤ i := by omega
  have hi1 : (i : Int) < p.1.ws.length := by omega
  have HU := Lib.hid hu
  clear m z hf hi A hv hu
  go_enter Tryd.func47, Tryd.ntmps47
  go_wp2_with fail
  refine HF.out.mono ?_
  rintro e w' ⟨rfl, rfl⟩
  go_wp2_with fail
  go_ret
  exact ⟨rfl, g2, _, _, HU.out, rfl⟩
theorem rstore_hit (m : RM w b W h v1 P1 v2 P2) (z : RZ W h P1 P2) (a : Int) (i x : Nat) {j : Nat} {p : RO × Value} (hi : fidx P1 a = some j) (hp : P1[j]? = some p) (hr : i < p.1.ws.length) : Calls Tryd.prog 47 #[.pointer (some ⟨b, 0, none⟩), .int .i64 a, .int .i64 i, .int .u64 x] w fun e w' => e = .returned (.int .i64 0) ∧ RM w' b W h v1 (P1.set j (pW p i x)) v2 P2 ∧ Fr (OwnR b v1 P1 v2 P2) w w' := by
  refine (rstore_raw m z a i x hi hp hr).mono ?_
  rintro e w' ⟨rfl, g, n, c, hu, rfl⟩
  have hog : OwnL v1 P1 g := .inr ⟨p, List.mem_of_getElem? hp, by rw [hu]; rfl⟩
  have hf : Fr (· = g) w (w.setCell ⟨g, i, none⟩ (.int .u64 (x : Int))) := (Fr.refl (· = g) w).setCell (p := ⟨g, i, none⟩) (.inl rfl) _
  have hb : b ≠ g := fun e => m.n1 (by rw [e]; exact hog)
  refine ⟨rfl, ⟨(hf.block b m.lt hb).trans m.blk, m.l1.set_word hp hu, m.l2.kept hf (fun k hk e => by subst e; exact m.n3 k hog hk), fun h => m.n1 (own_set_word hp _ h), m.n2, fun k hk => m.n3 k (own_set_word hp _ hk)⟩, hf.mono (fun k hk => .inl (.inr (.inl (by subst hk; exact hog))))⟩
/-- objects of which the first k were moved nowhere -/
def zTo (k : Nat) (P : List (RO × Value)) : List (RO × Value) := P.mapIdx fun i p => if i < k then (pT p 0) else p
theorem zTo_length (k : Nat) (P : List (RO × Value)) : (zTo k P).length = P.length := by simp [zTo]
theorem zTo_zero (P : List (RO × Value)) : zTo 0 P = P := by
  apply List.ext_getElem?
  intro i
  unfold zTo
  rw [List.getElem?_mapIdx]
  cases P[i]? <;> simp
theorem zTo_get {k j : Nat} {P : List (RO × Value)} {p : RO × Value} (hp : P[j]? = some p) (h : k ≤ j) : (zTo k P)[j]? = some p := by
  unfold zTo
  rw [List.getElem?_mapIdx, hp]
  simp; omega
theorem zTo_succ {k : Nat} {P : List (RO × Value)} {p : RO × Value} (hp : P[k]? = some p) : (zTo k P).set k (pT p 0) = zTo (k + 1) P := by
  apply List.ext_getElem?
  intro i
  by_cases e : i = k
  · subst e
    rw [List.getElem?_set_self (by rw [zTo_length]; exact (List.getElem?_eq_some_iff.1 hp).1)]
    unfold zTo
    rw [List.getElem?_mapIdx, hp]
    simp
  · rw [List.getElem?_set_ne (fun q => e q.symm)]
    unfold zTo
    rw [List.getElem?_mapIdx, List.getElem?_mapIdx]
    cases P[i]? with
    | none => rfl
    | some q =>
      have : (i < k) ↔ (i < k + 1) := by omega
      simp only [Option.map_some, this]
theorem zTo_full (P : List (RO × Value)) : zTo P.length P = P.map fun p => (pT p 0) := by
  apply List.ext_getElem?
  intro i
  unfold zTo
  rw [List.getElem?_mapIdx, List.getElem?_map]
  cases h : P[i]? with
  | none => rfl
  | some p =>
    have := (List.getElem?_eq_some_iff.1 h).1
    simp [this]
theorem own_zTo {v : Value} {k : Nat} {P : List (RO × Value)} : ∀ i, OwnL v (zTo k P) i → OwnL v P i := by
  rintro i (h | ⟨q, hq, h⟩)
  · exact .inl h
  · obtain ⟨j, hj⟩ := List.getElem?_of_mem hq
    unfold zTo at hj
    rw [List.getElem?_mapIdx] at hj
    cases hp : P[j]? with
    | none => rw [hp] at hj; cases hj
    | some p =>
      rw [hp] at hj
      have := Option.some.inj hj
      refine .inr ⟨p, List.mem_of_getElem? hp, ?_⟩
      rw [← h, ← this]
      split <;> rfl
/-- where an object was moved to is stored -/
theorem RL.set_to {v : Value} {P : List (RO × Value)} (l : RL w v P) {j g n c : Nat} {t : Int} {p : RO × Value} (hp : P[j]? = some p) (hv : v = .slice (some ⟨g, 0, none⟩) n c) : RL (w.setCell ⟨g, j * 5 + 4, none⟩ (.int .i64 t)) v (P.set j (pT p t)) := by
  have hpm := List.mem_of_getElem? hp
  have hf : Fr (· = g) w (w.setCell ⟨g, j * 5 + 4, none⟩ (.int .i64 t)) := (Fr.refl (· = g) w).setCell (p := ⟨g, j * 5 + 4, none⟩) (.inl rfl) _
  refine ⟨?_, fun q hq => ?_, ?_⟩
  · have ho := l.row
    rw [hv] at ho ⊢
    obtain ⟨_, _, hsh, _⟩ := own_shape5 ho
    have hn : n = P.length := by injection hsh
    rw [List.length_set, cellsP_set (p := p) 4 (by decide) (.int .i64 t) (q := pT p t) rfl hp]
    rw [hn] at ho ⊢
    exact (ho.stored (j * 5 + 4) _).1
  · have key : ∀ r ∈ P, (w.setCell ⟨g, j * 5 + 4, none⟩ (.int .i64 t)).ownsRow 0 33 1 r.2 r.1.ws.length (u64s r.1.ws) := fun r hr => hf.own (l.ws r hr) (fun k hk e => by subst e; exact (l.far hr) k (by rw [hv]; rfl) hk)
    rcases List.mem_or_eq_of_mem_set hq with e | e
    · exact key q e
    · subst e; exact key p hpm
  · rw [snd_set (q := pT p t) hp rfl]; exact l.sep
end
end Go.Proofs.YtlakfnlkiebpdaaDoor
namespace Go.Proofs.YtlakfnlkiebpdaaDoor
open Go Go.RowKit
section
variable {w w1 : World} {b W h : Nat} {v1 v2 : Value} {P1 P2 : List (RO × Value)}
set_option maxRecDepth 100000 in
set_option maxHeartbeats 1000000 in
theorem rload_miss (m : RM w b W h v1 P1 v2 P2) (z : RZ W h P1 P2) (a i : Int) (hi : fidx P1 a = none) : Calls Tryd.prog 23 #[.pointer (some ⟨b, 0, none⟩), .int .i64 a, .int .i64 i] w fun e w' => e = .returned (.tuple #[.int .u64 0, .int .i64 20]) ∧ ∃ n, w' = w.drewN n := by
  have c2 := m.c2
  have hf := m.find1 z a
  rw [hi] at hf
  obtain ⟨ad, cap, rfl, hc1, hc2⟩ := own_shape5 m.l1.row
  have HF := Lib.hid (show Calls _ _ _ _ (fun e w' => e = .returned (.int .i64 (-1)) ∧ w' = w) from hf)
  clear m z hf hi
  go_enter Tryd.func23, Tryd.ntmps23
  go_wp2_with fail
  refine HF.out.mono ?_
  rintro e w' ⟨rfl, rfl⟩
  go_wp2_with fail
  go_ret2
  exact ⟨rfl, 0, rfl⟩
set_option maxRecDepth 100000 in
set_option maxHeartbeats 1000000 in
theorem rload_bad (m : RM w b W h v1 P1 v2 P2) (z : RZ W h P1 P2) (a i : Int) {j : Nat} {p : RO × Value} (hi : fidx P1 a = some j) (hp : P1[j]? = some p) (hr : i < 0 ∨ (p.1.ws.length : Int) ≤ i) : Calls Tryd.prog 23 #[.pointer (some ⟨b, 0, none⟩), .int .i64 a, .int .i64 i] w fun e w' => e = .returned (.tuple #[.int .u64 0, .int .i64 20]) ∧ ∃ n, w' = w.drewN n := by
  have c2 := m.c2
  have hf := m.find1 z a
  rw [hi] at hf
  obtain ⟨g, cap, hv, hc1, hc2, hj, A⟩ := m.l1.at hp
  obtain ⟨ua, uc, hu, hu1, hu2⟩ := own_shape5 (m.l1.ws p (List.mem_of_getElem? hp))
  have hlu : P1.length ≤ 65536 := Nat.le_trans (length_le_usedP P1) z.u1
  have d3 := A.c3
  rw [hu] at d3
  rw [hv] at hf c2
  have HF := Lib.hid (show Calls _ _ _ _ (fun e w' => e = .returned (.int .i64 (j : Int)) ∧ w' = w) from hf)
  have hj0 : (0 : Int) ≤ j := by omega
  have hj1 : (j : Int) < P1.length := by omega
  clear m z hf hi A hv hu
  rcases hr with hr | hr
  · go_enter Tryd.func23, Tryd.ntmps23
    go_wp2_with fail
    refine HF.out.mono ?_
    rintro e w' ⟨rfl, rfl⟩
    go_wp2_with fail
    go_ret2
    exact ⟨rfl, 0, rfl⟩
  · have hr0 : ¬ i < 0 := by omega
    go_enter Tryd.func23, Tryd.ntmps23
    go_wp2_with fail
    refine HF.out.mono ?_
    rintro e w' ⟨rfl, rfl⟩
    go_wp2_with fail
    go_ret2
    exact ⟨rfl, 0, rfl⟩
set_option maxRecDepth 100000 in
set_option maxHeartbeats 1000000 in
theorem rload_hit (m : RM w b W h v1 P1 v2 P2) (z : RZ W h P1 P2) (a : Int) (i : Nat) {j : Nat} {p : RO × Value} (hi : fidx P1 a = some j) (hp : P1[j]? = some p) (hr : i < p.1.ws.length) : Calls Tryd.prog 23 #[.pointer (some ⟨b, 0, none⟩), .int .i64 a, .int .i64 i] w fun e w' => e = .returned (.tuple #[.int .u64 ((p.1.ws.getD i 0 : Nat) : Int), .int .i64 0]) ∧ ∃ n, w' = w.drewN n := by
  have c2 := m.c2
  have hf := m.find1 z a
  rw [hi] at hf
  obtain ⟨g, cap, hv, hc1, hc2, hj, A⟩ := m.l1.at hp
  obtain ⟨g2, uc, hu, hu1, hu2, cw, _⟩ := word_at (m.l1.ws p (List.mem_of_getElem? hp)) hr
  have hlu : P1.length ≤ 65536 := Nat.le_trans (length_le_usedP P1) z.u1
  have d3 := A.c3
  rw [hu] at d3
  rw [hv] at hf c2
  have HF := Lib.hid (show Calls _ _ _ _ (fun e w' => e = .returned (.int .i64 (j : Int)) ∧ w' = w) from hf)
  have hj0 : (0 : Int) ≤ j := by omega
  have hj1 : (j : Int) < P1.length := by omega
  have hi0 : (0 : Int) ≤ i := by omega
  have hi1 : (i : Int) < p.1.ws.length := by omega
  obtain ⟨x, hx⟩ : ∃ x, p.1.ws.getD i 0 = x := ⟨_, rfl⟩
  rw [hx] at cw ⊢
  clear m z hf hi A hv hu hx
  go_enter Tryd.func23, Tryd.ntmps23
  go_wp2_with fail
  refine HF.out.mono ?_
  rintro e w' ⟨rfl, rfl⟩
  go_wp2_with fail
  go_ret2
  exact ⟨rfl, 0, rfl⟩
end
end Go.Proofs.YtlakfnlkiebpdaaDoor
namespace Go.Proofs.YtlakfnlkiebpdaaDoor
open Go Go.RowKit
theorem rnew_bad (W : Int) (hW : W < 64 ∨ 65536 < W) (w : World) : Calls Tryd.prog 16 #[.int .i64 W] w fun e w' => e = .returned (.tuple #[.agg #[.int .i64 0, .int .i64 0, .slice none 0 0, .slice none 0 0], .bool false]) ∧ Below w.heap.size w w' := by
  rcases hW with h | h
  · go_enter Tryd.func16, Tryd.ntmps16
    go_wp2
    exact bodyPost_ret (v := .tuple #[.agg #[.int .i64 0, .int .i64 0, .slice none 0 0, .slice none 0 0], .bool false]) (by simp [results, Tryd.results16, go_sem]) rfl ⟨rfl, (Below.refl _ _).alloc (Nat.le_refl _) _⟩
  · have h' : ¬ W < 64 := by omega
    go_enter Tryd.func16, Tryd.ntmps16
    go_wp2
    exact bodyPost_ret (v := .tuple #[.agg #[.int .i64 0, .int .i64 0, .slice none 0 0, .slice none 0 0], .bool false]) (by simp [results, Tryd.results16, go_sem]) rfl ⟨rfl, (Below.refl _ _).alloc (Nat.le_refl _) _⟩
theorem rnew_ok (W : Nat) (h0 : 64 ≤ W) (h1 : W ≤ 65536) (w : World) : Calls Tryd.prog 16 #[.int .i64 W] w fun e w' => e = .returned (.tuple #[.agg #[.int .i64 W, .int .i64 0, .slice none 0 0, .slice none 0 0], .bool true]) ∧ Below w.heap.size w w' := by
  go_enter Tryd.func16, Tryd.ntmps16
  go_wp2
  exact bodyPost_ret (v := .tuple #[.agg #[.int .i64 W, .int .i64 0, .slice none 0 0, .slice none 0 0], .bool true]) (by simp [results, Tryd.results16, go_sem]) rfl ⟨rfl, (Below.refl _ _).alloc (Nat.le_refl _) _⟩
theorem infoObj : (Tryd.prog.info? 91).map (fun i => (i.zero, i.size, i.bytes)) = some (some (.agg #[.int .i64 0, .int .i64 0, .int .i64 0, .slice none 0 0, .int .i64 0]), 5, 56) := by kernel_rfl
theorem cells5_at (w : World) (a b c d e : Value) (t : TypeId) (g : Nat) (hg : w.heap.size = g) : ∀ j u, [a, b, c, d, e][j]? = some u → (w.alloc (.cells #[a, b, c, d, e] t)).cell? ((⟨g, 0, none⟩ : Addr).add j) = some u := by
  subst hg
  intro j u hu
  have hadd : (⟨w.heap.size, 0, none⟩ : Addr).add j = ⟨w.heap.size, j, none⟩ := by unfold Addr.add; split <;> simp_all
  rw [hadd, cell_of_row _ _ j _ t (0, 0) (heap_alloc_new w _)]
  simpa using hu
theorem ro_one {o : RO} {u : Value} (hu : u.oneCell' = true) : ∀ v ∈ roCells o u, v.oneCell' = true := by
  intro v hv
  simp [roCells] at hv
  rcases hv with rfl | rfl | rfl | rfl | rfl
  · rfl
  · rfl
  · rfl
  · exact hu
  · rfl
theorem own_set0 {w : World} {B n c j : Nat} {e : TypeId} {v u : Value} {xs : List Value} (h : w.ownsRow B e 1 v n xs) (hc : ∀ g, v.ownBlock = some g → g ≠ c) : (w.setCell ⟨c, j, none⟩ u).ownsRow B e 1 v n xs :=
  ((Fr.refl (· = c) w).setCell (p := ⟨c, j, none⟩) (.inl rfl) u).own h hc
/-- an object in the making: its block, the words so far -/
structure AO (w : World) (ob : Nat) (A k t z : Int) (l : List Nat) (u : Value) (wr : World) : Prop where
  blk : wr.heap[ob]? = some (.cells #[.int .i64 A, .int .i64 k, .int .i64 t, u, .int .i64 z] 91 (0, 0))
  own : wr.ownsRow w.heap.size 33 1 u l.length (u64s l)
  base : Below w.heap.size w wr
  ge : w.heap.size ≤ ob
section
variable {w wr w1 : World} {ob : Nat} {A k t z : Int} {l : List Nat} {u v' : Value}
theorem AO.ne (x : AO w ob A k t z l u wr) : u.ownBlock ≠ some ob := fun e => by
  obtain ⟨cs, h⟩ := row_block (own_mono x.own (Nat.zero_le _)) e
  rw [x.blk] at h
  injection h with h
  injection h with _ h3 _
  exact absurd h3 (by decide)
theorem AO.app (x : AO w ob A k t z l u wr) {tmp : Obj} {l' : List Nat} {n : Nat} (hn : l'.length = n) (hown : w1.ownsRow w.heap.size 33 1 v' n (u64s l')) (hg : (wr.alloc tmp).grownBy w1 u.ownBlock) :
    w1.cell? ⟨ob, 3, none⟩ = some u ∧ w1.frozen? ⟨ob, 3, none⟩ = false ∧ AO w ob A k t z l' v' (w1.setCell ⟨ob, 3, none⟩ v') := by
  subst hn
  have hlt : ob < wr.heap.size := (Array.getElem?_eq_some_iff.1 x.blk).1
  have hb : w1.heap[ob]? = _ := (hg.block ob (by simp; omega) (fun e => x.ne e.symm)).trans ((Below.heap_alloc wr tmp ob hlt).trans x.blk)
  have hB : Below w.heap.size w w1 := (x.base.alloc x.base.size tmp).grown hg (by have := x.base.size; simp; omega) (fun j hj => (x.own.lt j hj).1)
  refine ⟨blk_cell hb 3, blk_free hb 3, blk_set hb 3 v', own_set0 hown (fun g hg' e => ?_), hB.setCell (p := ⟨ob, 3, none⟩) x.ge _, x.ge⟩
  subst e
  obtain ⟨cs, h⟩ := row_block (own_mono hown (Nat.zero_le _)) hg'
  rw [hb] at h
  injection h with h
  injection h with _ h3 _
  exact absurd h3 (by decide)
end
section
variable {w : World} {b W h : Nat} {v1 v2 : Value} {P1 P2 : List (RO × Value)}
set_option maxRecDepth 100000 in
set_option maxHeartbeats 1000000 in
theorem ralloc_head (k s t : Int) (hr : rightB k s t = false) (a : Addr) : Calls Tryd.prog 46 #[.pointer (some a), .int .i64 k, .int .i64 s, .int .i64 t] w fun e w' => e = .returned (.tuple #[.int .i64 0, .int .i64 22]) ∧ w' = w := by
  have hR := fun W => refright_any k s t W
  rw [hr] at hR
  have HR := Lib.hid hR
  clear hr hR
  go_enter Tryd.func46, Tryd.ntmps46
  go_wp2_with fail
  refine (HR.out _).mono ?_
  rintro e w' ⟨rfl, rfl⟩
  go_wp2_with fail
  go_ret2
  exact ⟨rfl, rfl⟩
set_option maxRecDepth 100000 in
set_option maxHeartbeats 1000000 in
theorem ralloc_full (m : RM w b W h v1 P1 v2 P2) (z : RZ W h P1 P2) (k s t : Int) (hr : rightB k s t = true) (hf : (W : Int) - usedP P1 ≤ s) : Calls Tryd.prog 46 #[.pointer (some ⟨b, 0, none⟩), .int .i64 k, .int .i64 s, .int .i64 t] w fun e w' => e = .returned (.tuple #[.int .i64 0, .int .i64 21]) ∧ ∃ n, w' = w.drewN n := by
  have hR := fun W => refright_any k s t W
  rw [hr] at hR
  have HR := Lib.hid hR
  have HF := Lib.hid (rfree_any m z)
  clear hr hR m z
  go_enter Tryd.func46, Tryd.ntmps46
  go_wp2_with fail
  refine (HR.out _).mono ?_
  rintro e w' ⟨rfl, rfl⟩
  go_wp2_with fail
  refine HF.out.mono ?_
  rintro e w1 ⟨rfl, n, rfl⟩
  go_wp2_with fail
  go_ret2
  exact ⟨rfl, n, rfl⟩
/-- an object is laid behind the others -/
theorem RM.push {wr w1 : World} (m : RM wr b W h v1 P1 v2 P2) {o : RO} {u v' : Value} {tmp : Obj} (hu : wr.ownsRow 0 33 1 u o.ws.length (u64s o.ws)) (hnew : ∀ i, u.ownBlock = some i → ¬ OwnR b v1 P1 v2 P2 i) (hown : w1.ownsRow 0 91 5 v' (P1.length + 1) (cellsP P1 ++ roCells o u)) (hg : (wr.alloc tmp).grownBy w1 v1.ownBlock) (hblk : v'.ownBlock = v1.ownBlock ∨ v'.ownBlock = some (wr.heap.size + 1)) :
    w1.cell? ⟨b, 2, none⟩ = some v1 ∧ w1.frozen? ⟨b, 2, none⟩ = false ∧ RM (w1.setCell ⟨b, 2, none⟩ v') b W h v' (P1 ++ [(o, u)]) v2 P2 ∧ (∀ i, OwnR b v' (P1 ++ [(o, u)]) v2 P2 i → OwnR b v1 P1 v2 P2 i ∨ u.ownBlock = some i ∨ wr.heap.size ≤ i) ∧ Fr (OwnR b v1 P1 v2 P2) wr (w1.setCell ⟨b, 2, none⟩ v') := by
  have hf : Fr (fun i => v1.ownBlock = some i) wr w1 := ((Fr.refl _ wr).alloc tmp).grown hg (fun _ hk => .inl hk)
  have hb : w1.heap[b]? = _ := (hf.block b m.lt (fun e => m.n1 (.inl e))).trans m.blk
  have hfb : Fr (· = b) w1 (w1.setCell ⟨b, 2, none⟩ v') := (Fr.refl (· = b) w1).setCell (p := ⟨b, 2, none⟩) (.inl rfl) _
  have hul : ∀ i, u.ownBlock = some i → i < wr.heap.size := fun i hi => (hu.lt i hi).2
  have hvb : v'.ownBlock ≠ some b := fun e => by
    rcases hblk with q | q
    · exact m.n1 (.inl (q ▸ e))
    · rw [q] at e; have := Option.some.inj e; have := m.lt; omega
  have hsub : ∀ i, OwnL v' (P1 ++ [(o, u)]) i → OwnL v1 P1 i ∨ u.ownBlock = some i ∨ wr.heap.size ≤ i := by
    rintro i (q | ⟨p, hp, q⟩)
    · rcases hblk with e | e
      · exact .inl (.inl (e ▸ q))
      · rw [e] at q; have := Option.some.inj q; exact .inr (.inr (by omega))
    · rcases List.mem_append.1 hp with e | e
      · exact .inl (.inr ⟨p, e, q⟩)
      · rw [List.mem_singleton.1 e] at q; exact .inr (.inl q)
  refine ⟨blk_cell hb 2, blk_free hb 2, ⟨blk_set hb 2 v', ⟨?_, ?_, ?_⟩, ?_, ?_, m.n2, ?_⟩, ?_, ?_⟩
  · rw [List.length_append, List.length_singleton, cellsP_append]
    have e : cellsP [(o, u)] = roCells o u := by simp [cellsP]
    rw [e]
    exact own5 hfb hown (fun g hg' e => hvb (e ▸ hg'))
  · intro p hp
    rcases List.mem_append.1 hp with e | e
    · exact hfb.own (hf.own (m.l1.ws p e) (fun g hg' q => (m.l1.far e) g q hg')) (fun g hg' q => m.n1 (by subst q; exact .inr ⟨p, e, hg'⟩))
    · rw [List.mem_singleton.1 e]
      exact hfb.own (hf.own hu (fun g hg' q => hnew g hg' (.inr (.inl (.inl q))))) (fun g hg' q => hnew g hg' (.inl q))
  · rw [List.map_append, List.pairwise_append]
    refine ⟨m.l1.sep, by simp, ?_⟩
    intro a ha c hc g hga hgc
    obtain ⟨p, hp, rfl⟩ := List.mem_map.1 ha
    simp at hc
    subst hc
    exact hnew g hgc (.inr (.inl (.inr ⟨p, hp, hga⟩)))
  · exact (m.l2.kept hf (fun i hi q => m.n3 i (.inl q) hi)).kept hfb (fun i hi q => m.n2 (by subst q; exact hi))
  · intro hi
    rcases hsub b hi with q | q | q
    · exact m.n1 q
    · exact hnew b q (.inl rfl)
    · have := m.lt; omega
  · intro i hi h2
    rcases hsub i hi with q | q | q
    · exact m.n3 i q h2
    · exact hnew i q (.inr (.inr h2))
    · have := m.l2.lt i h2; omega
  · rintro i (rfl | q | q)
    · exact .inl (.inl rfl)
    · rcases hsub i q with q | q | q
      · exact .inl (.inr (.inl q))
      · exact .inr (.inl q)
      · exact .inr (.inr q)
    · exact .inl (.inr (.inr q))
  · exact (hf.mono (fun i hi => .inl (.inr (.inl (.inl hi))))).setCell (p := ⟨b, 2, none⟩) (.inl (.inl rfl)) _
end
end Go.Proofs.YtlakfnlkiebpdaaDoor
namespace Go.Proofs.YtlakfnlkiebpdaaDoor
open Go Go.RowKit
def newL (s t : Nat) : List Nat := List.replicate t 1 ++ List.replicate (s - t) 0
theorem newL_len {s t : Nat} (h : t ≤ s) : (newL s t).length = s := by simp [newL]; omega
theorem newL_lo {s t q : Nat} (h : t ≤ s) (hq : q < t) : (newL s t).take q ++ [1] = (newL s t).take (q + 1) := by
  have hl := newL_len h
  rw [List.take_succ_eq_append_getElem (by omega)]
  congr 1
  simp [newL, hq]
theorem newL_hi {s t q : Nat} (h : t ≤ s) (hq : t ≤ q) (hs : q < s) : (newL s t).take q ++ [0] = (newL s t).take (q + 1) := by
  have hl := newL_len h
  rw [List.take_succ_eq_append_getElem (by omega)]
  congr 1
  simp [newL, List.getElem_append, Nat.not_lt.2 hq]
theorem blk_of' {g n cap H : Nat} {u : Value} (h : u.ownBlock = some g ∨ g = H) : (Value.slice (some ⟨g, 0, none⟩) n cap).ownBlock = u.ownBlock ∨ (Value.slice (some ⟨g, 0, none⟩) n cap).ownBlock = some H := by
  rcases h with e | e
  · left; rw [e]; rfl
  · right; rw [← e]; rfl
section
variable {w : World} {b W h : Nat} {v1 v2 : Value} {P1 P2 : List (RO × Value)}
set_option maxRecDepth 100000 in
set_option maxHeartbeats 8000000 in
theorem ralloc_ok (m : RM w b W h v1 P1 v2 P2) (z : RZ W h P1 P2) (k s t : Nat) (hr : rightB k s t = true) (hf : usedP P1 + s + 1 ≤ W) : Calls Tryd.prog 46 #[.pointer (some ⟨b, 0, none⟩), .int .i64 k, .int .i64 s, .int .i64 t] w fun e w' => e = .returned (.tuple #[.int .i64 (adr h W (usedP P1)), .int .i64 0]) ∧
    ∃ v' u, RM w' b W h v' (P1 ++ [(⟨adr h W (usedP P1), k, t, newL s t, 0⟩, u)]) v2 P2 ∧ (∀ i, OwnR b v' (P1 ++ [(⟨adr h W (usedP P1), k, t, newL s t, 0⟩, u)]) v2 P2 i → OwnR b v1 P1 v2 P2 i ∨ w.heap.size ≤ i) ∧ Fr (OwnR b v1 P1 v2 P2) w w' := by
  obtain ⟨i0, hi, hz0, hz1, hz2⟩ := info_parts infoU64
  obtain ⟨i5, hi5, hy0, hy1, hy2⟩ := info_parts infoObj
  obtain ⟨_, _, s0, s1, t0, t1⟩ := right_bd hr
  have hR := fun W => refright_any (k : Int) (s : Int) (t : Int) W
  rw [hr] at hR
  have HR := Lib.hid hR
  have HF := Lib.hid (rfree_any m z)
  have HNX := Lib.hid (fun n => rnext_any (m.drewN n) z)
  obtain ⟨A, hA⟩ : ∃ A, adr h W (usedP P1) = A := ⟨_, rfl⟩
  rw [hA] at HNX ⊢
  obtain ⟨uu, huu⟩ : ∃ uu, usedP P1 = uu := ⟨_, rfl⟩
  have hlu := length_le_usedP P1
  rw [huu] at HF hf hlu
  have hw1 := z.w1
  have HM := Lib.hid m
  have hbl := m.lt
  obtain ⟨a1, c1, hv1, hc1, hc2⟩ := own_shape5 m.l1.row
  obtain ⟨N, hN⟩ : ∃ N, P1.length = N := ⟨_, rfl⟩
  rw [hN] at hv1 hc1 hlu
  have HV1 := Lib.hid (And.intro hN hv1)
  obtain ⟨L, hL⟩ : ∃ L, newL s t = L := ⟨_, rfl⟩
  have hts : t ≤ s := by omega
  have hll : L.length = s := by rw [← hL]; exact newL_len hts
  have HLO := Lib.hid (show ∀ q, q < t → L.take q ++ [1] = L.take (q + 1) from fun q hq => by rw [← hL]; exact newL_lo hts hq)
  have HHI := Lib.hid (show ∀ q, t ≤ q → q < s → L.take q ++ [0] = L.take (q + 1) from fun q hq hs => by rw [← hL]; exact newL_hi hts hq hs)
  rw [hL]
  have HLL := Lib.hid hll
  clear hr hR m z hA huu hv1 hN hL hll
  go_enter Tryd.func46, Tryd.ntmps46
  go_wp2_with fail
  refine (HR.out _).mono ?_
  rintro e w' ⟨rfl, rfl⟩
  go_wp2_with fail
  refine HF.out.mono ?_
  rintro e w1 ⟨rfl, n1, rfl⟩
  go_wp2_with fail
  refine (HNX.out n1).mono ?_
  rintro e w2 ⟨rfl, n2, hw2⟩
  have hb02 : Below w.heap.size w w2 := by rw [hw2]; exact (((Fr.refl (fun _ => False) w).drewN n1).drewN n2).below (Nat.le_refl _) (fun _ h => h.elim)
  have hsz2 := hb02.size
  have HB02 := Lib.hid hb02
  clear hw2 hb02
  obtain ⟨ob, hob⟩ : ∃ ob, w2.heap.size = ob := ⟨_, rfl⟩
  go_wp2_with fail
  rw [hob] at hsz2
  have HX0 : Hid (AO w ob A k t 0 (L.take 0) (.slice none 0 0) (w2.alloc (.cells #[.int .i64 A, .int .i64 k, .int .i64 t, .slice none 0 0, .int .i64 0] 91))) :=
    ⟨by rw [← hob]; exact heap_alloc_new w2 _, World.ownsRow_nil _ _ _ _, HB02.out.alloc HB02.out.size _, hsz2⟩
  clear hob
  go_loopw [11] (fun i wr => ∃ (q : Nat) (u : Value), q ≤ s ∧ i = .int .i64 q ∧ AO w ob A k t 0 (L.take q) u wr) (fun i _ => s - (intOf i).toNat)
  case atStart => exact ⟨0, _, Nat.zero_le _, rfl, HX0.out⟩
  case round =>
    obtain ⟨q, u, hq, rfl, hX⟩ := hrel
    have hlq : (L.take q).length = q := by rw [List.length_take, HLL.out]; omega
    have hown := hX.own
    rw [hlq] at hown
    obtain ⟨a, c, rfl, hqc, hc63⟩ := own_shape5 (own_mono hown (Nat.zero_le _))
    have hsz := hX.base.size
    have d3 : wr.cell? ⟨ob, 3, none⟩ = some (.slice a q c) := blk_cell hX.blk 3
    have HX := Lib.hid hX
    have HO := Lib.hid hown
    clear hX hown hlq HX0
    by_cases hlt : q < s
    · by_cases hqt : q < t
      · have HT := Lib.hid (HLO.out q hqt)
        have hl2 : (L.take (q + 1)).length = q + 1 := by rw [List.length_take, HLL.out]; omega
        have HL2 := Lib.hid hl2
        clear hl2
        go_wp2_with (at_builtin; refine wpList_append_own_at _ rfl _ _ 43 rfl w.heap.size 33 i0 (.int .u64 0) 1 8 Tryd.underlying43 hi hz0 hz1 hz2 rfl (by decide) (.slice a q c) _ _ rfl (HO.out.alloc _) ⟨wr.heap.size, 0, none⟩ 1 1 [.int .u64 1] rfl rfl (cell_one_new _ _ _) (by simp [Value.oneCell']) (by unfold maxLen; omega) (by omega) (by simp; omega) ?_; intro v5 w5 hown5 hgrow5 _ hblk5; rw [show (Value.int .u64 1) = Value.int .u64 ((1 : Nat) : Int) from rfl, u64s_snoc, HT.out] at hown5; obtain ⟨g5, cap5, rfl⟩ := ownsRow_succ (k := q) hown5; obtain ⟨x5, y5, X5⟩ := HX.out.app HL2.out hown5 hgrow5; have HX5 := Lib.hid X5; clear X5 hown5 hgrow5 hblk5)
        go_roundw
        case rel => exact ⟨q + 1, _, hlt, by go_num, HX5.out⟩
        case measure => simp [intOf]; omega
      · have HT := Lib.hid (HHI.out q (by omega) hlt)
        have hl2 : (L.take (q + 1)).length = q + 1 := by rw [List.length_take, HLL.out]; omega
        have HL2 := Lib.hid hl2
        clear hl2
        go_wp2_with (at_builtin; refine wpList_append_own_at _ rfl _ _ 43 rfl w.heap.size 33 i0 (.int .u64 0) 1 8 Tryd.underlying43 hi hz0 hz1 hz2 rfl (by decide) (.slice a q c) _ _ rfl (HO.out.alloc _) ⟨wr.heap.size, 0, none⟩ 1 1 [.int .u64 0] rfl rfl (cell_one_new _ _ _) (by simp [Value.oneCell']) (by unfold maxLen; omega) (by omega) (by simp; omega) ?_; intro v5 w5 hown5 hgrow5 _ hblk5; rw [show (Value.int .u64 0) = Value.int .u64 ((0 : Nat) : Int) from rfl, u64s_snoc, HT.out] at hown5; obtain ⟨g5, cap5, rfl⟩ := ownsRow_succ (k := q) hown5; obtain ⟨x5, y5, X5⟩ := HX.out.app HL2.out hown5 hgrow5; have HX5 := Lib.hid X5; clear X5 hown5 hgrow5 hblk5)
        go_roundw
        case rel => exact ⟨q + 1, _, hlt, by go_num, HX5.out⟩
        case measure => simp [intOf]; omega
    · obtain rfl : q = s := by omega
      have hX := HX.out
      rw [List.take_of_length_le (by rw [HLL.out]; omega)] at hX
      have hm := HM.out.below hX.base
      have HMR := Lib.hid hm
      have HXE := Lib.hid hX
      have hb2 := hm.c2
      rw [HV1.out.2] at hb2
      have e0 : wr.cell? ⟨ob, 0, none⟩ = some (.int .i64 A) := blk_cell hX.blk 0
      have e1 : wr.cell? ⟨ob, 1, none⟩ = some (.int .i64 k) := blk_cell hX.blk 1
      have e2 : wr.cell? ⟨ob, 2, none⟩ = some (.int .i64 t) := blk_cell hX.blk 2
      have e4 : wr.cell? ⟨ob, 4, none⟩ = some (.int .i64 0) := blk_cell hX.blk 4
      have hro := hm.l1.row
      rw [HV1.out.1, HV1.out.2] at hro
      have HRO := Lib.hid hro
      have hobl : ob < wr.heap.size := (Array.getElem?_eq_some_iff.1 hX.blk).1
      clear hX hm hro
      go_wp2_with fail
      have hbwr : b < wr.heap.size := by omega
      have HU := Lib.hid (((Fr.refl (fun _ => False) wr).drewN 1).own (own_mono HXE.out.own (Nat.zero_le _)) (fun _ _ => id))
      go_region_law ((refine step_append_lies _ (by rfl) _ _ 28 (by rfl) 0 91 i5 (.agg #[.int .i64 0, .int .i64 0, .int .i64 0, .slice none 0 0, .int .i64 0]) 5 56 Tryd.underlying28 hi5 hy0 hy1 hy2 rfl (by decide) (.slice a1 N c1) _ _ (by rfl) ((HRO.out.drew).alloc _) ⟨wr.heap.size, 0, none⟩ 1 1 [.int .i64 A, .int .i64 k, .int .i64 t, .slice a q c, .int .i64 0] (by rfl) rfl (cells5_at _ _ _ _ _ _ _ _ (by simp)) (ro_one (o := ⟨A, k, t, L, 0⟩) (u := .slice a q c) rfl) (by omega) (by unfold maxLen; omega) (by omega) (Nat.zero_le _) (wr.heap.size + 1) (by simp) ?_; intro g6 cap6 w6 hown6 hgrow6 hblk6 hlt6; obtain ⟨x6, y6, z6, o6, f6⟩ := RM.push (HMR.out.drewN 1) (o := ⟨A, k, t, L, 0⟩) (u := .slice a q c) HU.out (fun i hi hn => by have := (HO.out.lt i hi).1; have := HM.out.own_lt i hn; omega) (by rw [HV1.out.1]; exact hown6) (by rw [HV1.out.2]; exact hgrow6) (by rw [HV1.out.2]; exact blk_of' hblk6); have HZ6 := Lib.hid z6; have HO6 := Lib.hid o6; have HF6 := Lib.hid f6; clear z6 o6 f6 hown6 hgrow6 hblk6))
      all_goals
        have e0' : (w6.setCell ⟨b, 2, none⟩ (.slice (some ⟨g6, 0, none⟩) (N + 1) cap6)).cell? ⟨ob, 0, none⟩ = some (.int .i64 A) := (HF6.out.cell (p := ⟨ob, 0, none⟩) hobl (fun hn => by have := HM.out.own_lt ob hn; omega)).trans e0
        clear e0 e1 e2 e4 hb2 d3
        go_wp2_with fail
        go_ret2
        refine ⟨rfl, _, _, HZ6.out, fun i hi => ?_, ((Fr.of_below (O := fun _ => False) HXE.out.base |>.mono (fun _ h => h.elim)).drewN 1).trans HF6.out (fun i hi => .inl hi)⟩
        rcases HO6.out i hi with r | r | r
        · exact .inl r
        · exact .inr (HO.out.lt i r).1
        · exact .inr (Nat.le_trans hsz r)
end
end Go.Proofs.YtlakfnlkiebpdaaDoor
namespace Go.Proofs.YtlakfnlkiebpdaaDoor
open Go Go.RowKit
/-- an append of what a row holds, be it nil or not, to a row of the call's own -/
theorem wpList_append_row {P : Program} {w : World} {ops : Array Oper} {rest : List Oper} {o : Oper} {a : Act} {Q : Exit → Act → World → Prop} (hgd : o.guard = none) (s x : Operand) (t : TypeId)
    (ho : o.op = .call { callee := .builtin .append, args := #[s, x], argTypes := #[t, t] })
    (base : Nat) (e : TypeId) (i : TypeInfo) (z : Value) (bytes : Nat) (ht : P.underlying t = some (.slice e)) (hi : P.info? e = some i) (hz : i.zero = some z)
    (hsize : i.size = 1) (hby : i.bytes = bytes) (hzs : z.cells.size = 1)
    (v : Value) (n : Nat) (xs : List Value) (hs : a.eval s = v) (hown : w.ownsRow base e 1 v n xs)
    (u : Value) (m : Nat) (news : List Value) (hx : a.eval x = u) (hsrc : w.ownsRow 0 e 1 u m news) (h1 : ∀ y ∈ news, y.oneCell' = true)
    (h63 : n + m ≤ maxLen) (hbytes : (n + m) * bytes ≤ 140737488355328) (hbase : base ≤ w.heap.size)
    (h : ∀ v' w', w'.ownsRow base e 1 v' (n + m) (xs ++ news) → w.grownBy w' v.ownBlock → (v'.ownBlock = v.ownBlock ∨ v'.ownBlock = some w.heap.size) → wpList P ops Q rest (a.put o.dst v') w') :
    wpList P ops Q (o :: rest) a w := by
  rcases hsrc.2 with ⟨hu, rfl⟩ | ⟨g, cap, cur, hu, _⟩
  · have hn : news = [] := List.eq_nil_of_length_eq_zero (by simpa using hsrc.1)
    subst hn
    exact wpList_append_own_none hgd s x t ho base e i 1 ht hi v n xs hs hown (hx.trans hu) (h v w (by simpa using hown) (World.grownBy.refl w _) (.inl rfl))
  · rw [hu] at hsrc
    exact wpList_append_own_at w hgd s x t ho base e i z 1 bytes ht hi hz hsize hby hzs (by decide) v n xs hs hown ⟨g, 0, none⟩ m cap news (hx.trans hu) (by rw [hsrc.1]) (own_row_cells hsrc) h1 h63 hbytes hbase (fun v' w' p q _ r => h v' w' p q r)
section
variable {w wr : World} {b W h : Nat} {v1 v2 : Value} {P1 P2 : List (RO × Value)}
theorem own_pT {v : Value} {P : List (RO × Value)} {j : Nat} {p : RO × Value} {t : Int} (hp : P[j]? = some p) : ∀ i, OwnL v (P.set j (pT p t)) i → OwnL v P i := by
  rintro i (q | ⟨r, hr, q⟩)
  · exact .inl q
  · rcases List.mem_or_eq_of_mem_set hr with e | e
    · exact .inr ⟨r, e, q⟩
    · rw [e] at q; exact .inr ⟨p, List.mem_of_getElem? hp, q⟩
theorem RM.moved (m : RM wr b W h v1 P1 v2 P2) {j g n c : Nat} {p : RO × Value} (hp : P2[j]? = some p) (hv : v2 = .slice (some ⟨g, 0, none⟩) n c) (t : Int) :
    RM (wr.setCell ⟨g, j * 5 + 4, none⟩ (.int .i64 t)) b W h v1 P1 v2 (P2.set j (pT p t)) ∧ (∀ i, OwnR b v1 P1 v2 (P2.set j (pT p t)) i → OwnR b v1 P1 v2 P2 i) ∧ Fr (OwnR b v1 P1 v2 P2) wr (wr.setCell ⟨g, j * 5 + 4, none⟩ (.int .i64 t)) := by
  have hog : OwnL v2 P2 g := .inl (by rw [hv]; rfl)
  have hf : Fr (· = g) wr (wr.setCell ⟨g, j * 5 + 4, none⟩ (.int .i64 t)) := (Fr.refl (· = g) wr).setCell (p := ⟨g, j * 5 + 4, none⟩) (.inl rfl) _
  refine ⟨⟨(hf.block b m.lt (fun e => m.n2 (by rw [e]; exact hog))).trans m.blk, m.l1.kept hf (fun i hi e => by subst e; exact m.n3 i hi hog), m.l2.set_to hp hv, m.n1, fun q => m.n2 (own_pT hp _ q), fun i hi q => m.n3 i hi (own_pT hp _ q)⟩, ?_, hf.mono (fun i hi => .inl (.inr (.inr (by subst hi; exact hog))))⟩
  rintro i (q | q | q)
  · exact .inl q
  · exact .inr (.inl q)
  · exact .inr (.inr (own_pT hp _ q))
/-- the words of an object in the making are laid -/
theorem AO.words {w w3 w5 : World} {ob z5 : Nat} {oa A ok ot tt : Int} {u0 v5 : Value} {ws : List Nat} {tmp : Obj} (hB : Below w.heap.size w w3) (hsz : w.heap.size ≤ ob) (hblk : w3.heap[ob]? = some (.cells #[.int .i64 oa, .int .i64 ok, .int .i64 ot, u0, .int .i64 tt] 91 (0, 0)))
    (hz : ws.length = z5) (hown : w5.ownsRow w.heap.size 33 1 v5 (0 + z5) ([] ++ u64s ws)) (hg : ((w3.setCell ⟨ob, 0, none⟩ (.int .i64 A)).alloc tmp).grownBy w5 (some w3.heap.size)) :
    w5.cell? ⟨ob, 3, none⟩ = some u0 ∧ w5.frozen? ⟨ob, 3, none⟩ = false ∧ AO w ob A ok ot tt ws v5 (w5.setCell ⟨ob, 3, none⟩ v5) := by
  subst hz
  rw [Nat.zero_add, List.nil_append] at hown
  have hlt : ob < w3.heap.size := (Array.getElem?_eq_some_iff.1 hblk).1
  have hs4 : (w3.setCell ⟨ob, 0, none⟩ (.int .i64 A)).heap.size = w3.heap.size := by simp [World.setCell]
  have h4 := blk_set hblk 0 (.int .i64 A)
  have hb : w5.heap[ob]? = _ := (hg.block ob (by simp; omega) (fun e => by have := Option.some.inj e; omega)).trans ((Below.heap_alloc _ tmp ob (by omega)).trans h4)
  refine ⟨blk_cell hb 3, blk_free hb 3, blk_set hb 3 v5, own_set0 hown (fun g hg' e => ?_), ?_, hsz⟩
  · subst e
    obtain ⟨cs, h⟩ := row_block (own_mono hown (Nat.zero_le _)) hg'
    rw [hb] at h
    injection h with h
    injection h with _ h3 _
    exact absurd h3 (by decide)
  · have h1 := hB.size
    exact (((hB.setCell (p := ⟨ob, 0, none⟩) hsz (.int .i64 A)).alloc (by omega) tmp).grown hg (by simp; omega) (fun k hk => by have := Option.some.inj hk; omega)).setCell (p := ⟨ob, 3, none⟩) hsz _
end
end Go.Proofs.YtlakfnlkiebpdaaDoor
namespace Go.Proofs.YtlakfnlkiebpdaaDoor
open Go Go.RowKit
/-- an object as the document's -/
def roOf (A : Int) (o : Ob) : RO := ⟨A, o.k, o.t, o.ws, o.to⟩
def ros (h W : Nat) (os : List Ob) : List RO := os.mapIdx fun j o => roOf (objA h W os j) o
theorem ros_length (h W : Nat) (os : List Ob) : (ros h W os).length = os.length := by simp [ros]
theorem ros_get {h W : Nat} {os : List Ob} {j : Nat} {o : Ob} (ho : os[j]? = some o) : (ros h W os)[j]? = some (roOf (objA h W os j) o) := by
  unfold ros; rw [List.getElem?_mapIdx, ho]; rfl
theorem objA_append (h W : Nat) (os ps : List Ob) {j : Nat} (hj : j ≤ os.length) : objA h W (os ++ ps) j = objA h W os j := by unfold objA; rw [start_append _ _ _ hj]
theorem ros_snoc (h W : Nat) (os : List Ob) (o : Ob) : ros h W (os ++ [o]) = ros h W os ++ [roOf (adr h W (used os : Nat)) o] := by
  apply List.ext_getElem?
  intro i
  by_cases q : i < os.length
  · rw [List.getElem?_append_left (by rw [ros_length]; exact q)]
    have h1 : (os ++ [o])[i]? = some os[i] := by rw [List.getElem?_append_left q, List.getElem?_eq_getElem q]
    rw [ros_get h1, ros_get (List.getElem?_eq_getElem q), objA_append _ _ _ _ (Nat.le_of_lt q)]
  · by_cases e : i = os.length
    · subst e
      rw [List.getElem?_append_right (by rw [ros_length]; exact Nat.le_refl _), ros_length, Nat.sub_self]
      have h1 : (os ++ [o])[os.length]? = some o := by simp
      rw [ros_get h1, objA_append _ _ _ _ (Nat.le_refl _)]
      unfold objA; rw [start_len]; rfl
    · rw [List.getElem?_eq_none (by rw [ros_length]; simp; omega), List.getElem?_eq_none (by simp [ros_length]; omega)]
theorem ros_set {h W : Nat} {os : List Ob} {j : Nat} {o o' : Ob} (ho : os[j]? = some o) (hl : o'.ws.length = o.ws.length) : ros h W (os.set j o') = (ros h W os).set j (roOf (objA h W os j) o') := by
  have hsz := sz_set ho hl
  have hobj : ∀ i, objA h W (os.set j o') i = objA h W os i := fun i => by unfold objA; rw [start_congr hsz]
  have hj := (List.getElem?_eq_some_iff.1 ho).1
  apply List.ext_getElem?
  intro i
  by_cases e : i = j
  · subst e
    rw [List.getElem?_set_self (by rw [ros_length]; exact hj), ros_get (List.getElem?_set_self hj), hobj]
  · rw [List.getElem?_set_ne (fun q => e q.symm)]
    by_cases q : i < os.length
    · rw [ros_get (o := os[i]) (by rw [List.getElem?_set_ne (fun q => e q.symm)]; exact List.getElem?_eq_getElem q), ros_get (List.getElem?_eq_getElem q), hobj]
    · rw [List.getElem?_eq_none (by rw [ros_length]; simp; omega), List.getElem?_eq_none (by rw [ros_length]; omega)]
section
variable {h W : Nat} {os : List Ob} {P : List (RO × Value)}
theorem P_length (e : P.map Prod.fst = ros h W os) : P.length = os.length := by
  have := congrArg List.length e
  simpa [ros_length] using this
theorem P_get (e : P.map Prod.fst = ros h W os) {j : Nat} {o : Ob} (ho : os[j]? = some o) : ∃ u, P[j]? = some (roOf (objA h W os j) o, u) := by
  have h1 := ros_get (h := h) (W := W) ho
  rw [← e, List.getElem?_map] at h1
  cases hp : P[j]? with
  | none => rw [hp] at h1; cases h1
  | some p =>
    rw [hp] at h1
    have := Option.some.inj h1
    exact ⟨p.2, by rw [← this]⟩
theorem P_used (e : P.map Prod.fst = ros h W os) : usedP P = used os := by
  have h1 : P.map (fun p => 1 + p.1.ws.length) = (P.map Prod.fst).map (fun r => 1 + r.ws.length) := by rw [List.map_map]; rfl
  unfold usedP used
  rw [h1, e]
  unfold ros
  congr 1
  apply List.ext_getElem?
  intro i
  rw [List.getElem?_map, List.getElem?_mapIdx, List.getElem?_map]
  cases os[i]? <;> rfl
theorem P_idx (e : P.map Prod.fst = ros h W os) (a : Int) : fidx P a = idxAt os h W a := by
  cases q : idxAt os h W a with
  | some j =>
    obtain ⟨hj, ha⟩ := idxAt_some q
    obtain ⟨u, hp⟩ := P_get e (List.getElem?_eq_getElem hj)
    refine fidx_hit (fun i p hi hp' hpa => ?_) hp ha.symm
    have hio : i < os.length := by omega
    obtain ⟨u', hp''⟩ := P_get e (List.getElem?_eq_getElem hio)
    rw [hp'] at hp''
    obtain rfl := Option.some.inj hp''
    have h2 : objA h W os i = objA h W os j := hpa.trans ha
    have := adr_inj h2
    have := start_inj os hio hj (by omega)
    omega
  | none =>
    refine fidx_miss (fun i p hi hp hpa => ?_)
    have hio : i < os.length := by rw [← P_length e]; exact hi
    obtain ⟨u', hp''⟩ := P_get e (List.getElem?_eq_getElem hio)
    rw [hp] at hp''
    obtain rfl := Option.some.inj hp''
    exact idxAt_none q i hio hpa.symm
end
/-- a memory at b, the document's at rb, alike -/
structure Twin (w : World) (b rb W h : Nat) (R : Nat → Value) (now old : List Ob) (v1 : Value) (P1 : List (RO × Value)) (v2 : Value) (P2 : List (RO × Value)) : Prop where
  m : Mem w b W h R now old
  z : WF W h now old
  r : RM w rb W h v1 P1 v2 P2
  e1 : P1.map Prod.fst = ros h W now
  e2 : P2.map Prod.fst = ros (1 - h) W old
  ap : ∀ i, Own b R i → ¬ OwnR rb v1 P1 v2 P2 i
def OwnT (b rb : Nat) (R : Nat → Value) (v1 : Value) (P1 : List (RO × Value)) (v2 : Value) (P2 : List (RO × Value)) (i : Nat) : Prop := Own b R i ∨ OwnR rb v1 P1 v2 P2 i
section
variable {w w1 : World} {b rb W h : Nat} {R : Nat → Value} {now old : List Ob} {v1 v2 : Value} {P1 P2 : List (RO × Value)}
theorem Twin.rz (t : Twin w b rb W h R now old v1 P1 v2 P2) : RZ W h P1 P2 := by
  have h1 := t.z.un
  have h2 := t.z.uo
  have h3 := t.z.w1
  exact ⟨h3, t.z.hh, by rw [P_used t.e1]; omega, by rw [P_used t.e2]; omega⟩
theorem Twin.own_lt (t : Twin w b rb W h R now old v1 P1 v2 P2) : ∀ i, OwnT b rb R v1 P1 v2 P2 i → i < w.heap.size := by
  rintro i (q | q)
  · exact t.m.own_lt i q
  · exact t.r.own_lt i q
theorem Twin.kept {O : Nat → Prop} (t : Twin w b rb W h R now old v1 P1 v2 P2) (hf : Fr O w w1) (hn : ∀ i, OwnT b rb R v1 P1 v2 P2 i → ¬ O i) : Twin w1 b rb W h R now old v1 P1 v2 P2 :=
  ⟨t.m.kept hf (fun i hi => hn i (.inl hi)), t.z, t.r.kept hf (fun i hi => hn i (.inr hi)), t.e1, t.e2, t.ap⟩
theorem Twin.below (t : Twin w b rb W h R now old v1 P1 v2 P2) (hb : Below w.heap.size w w1) : Twin w1 b rb W h R now old v1 P1 v2 P2 := t.kept (Fr.of_below (O := fun _ => False) hb) (fun _ _ => id)
theorem Twin.drewN (t : Twin w b rb W h R now old v1 P1 v2 P2) (n : Nat) : Twin (w.drewN n) b rb W h R now old v1 P1 v2 P2 := t.kept ((Fr.refl (fun _ => False) w).drewN n) (fun _ _ => id)
theorem Twin.next (t : Twin w b rb W h R now old v1 P1 v2 P2) : Calls Tryd.prog 19 #[.pointer (some ⟨b, 0, none⟩)] w fun e w' => e = .returned (.int .i64 (adr h W (used now : Nat))) ∧ ∃ n, w' = w.drewN n := by
  have := next_any t.m t.z.sizes
  rwa [rows_cells, half_now, flat_length] at this
theorem Twin.free (t : Twin w b rb W h R now old v1 P1 v2 P2) : Calls Tryd.prog 80 #[.pointer (some ⟨b, 0, none⟩)] w fun e w' => e = .returned (.int .i64 ((W : Int) - used now)) ∧ ∃ n, w' = w.drewN n := free_m t.m t.z rfl _ rfl
theorem Twin.rnext (t : Twin w b rb W h R now old v1 P1 v2 P2) : Calls Tryd.prog 20 #[.pointer (some ⟨rb, 0, none⟩)] w fun e w' => e = .returned (.int .i64 (adr h W (used now : Nat))) ∧ ∃ n, w' = w.drewN n := by
  have := rnext_any t.r t.rz
  rw [P_used t.e1] at this
  exact this
theorem Twin.rfree (t : Twin w b rb W h R now old v1 P1 v2 P2) : Calls Tryd.prog 85 #[.pointer (some ⟨rb, 0, none⟩)] w fun e w' => e = .returned (.int .i64 ((W : Int) - used now)) ∧ ∃ n, w' = w.drewN n := by
  have := rfree_any t.r t.rz
  rw [P_used t.e1] at this
  exact this
end
end Go.Proofs.YtlakfnlkiebpdaaDoor
