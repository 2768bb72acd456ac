/- A call asked of a memory and of the document's beside it: both answer alike and lie alike after it. Conditions: they lie as Twin says. -/
import Derived.Test.YtpgnadngiaibeaaMemWhole
import Derived.Test.YtpgnadngiaibeaaMemMovesM
import Derived.Test.YtpgnadngiaibeaaRmB
namespace Go.Proofs.Ytpgnadngiaibeaa
open Go Go.RowKit
/-- beside one another, from a world on -/
def TS (w0 : World) (O : Nat → Prop) (w : World) (b rb W : Nat) : Prop :=
  ∃ (h : Nat) (R : Nat → Value) (now old : List Ob) (v1 : Value) (P1 : List (RO × Value)) (v2 : Value) (P2 : List (RO × Value)), Twin w b rb W h R now old v1 P1 v2 P2 ∧ (∀ i, OwnT b rb R v1 P1 v2 P2 i → O i ∨ w0.heap.size ≤ i) ∧ Fr O w0 w
section
variable {w w0 w1 w2 : World} {b rb W h h' : Nat} {R R' : Nat → Value} {now old now' old' : List Ob} {v1 v2 v1' v2' : Value} {P1 P2 P1' P2' : List (RO × Value)} {O : Nat → Prop}
theorem TS.of (t : Twin w b rb W h R now old v1 P1 v2 P2) : TS w (OwnT b rb R v1 P1 v2 P2) w b rb W := ⟨h, R, now, old, v1, P1, v2, P2, t, fun _ q => .inl q, Fr.refl _ _⟩
theorem TS.below (s : TS w0 O w b rb W) (hb : Below w.heap.size w w1) : TS w0 O w1 b rb W := by
  obtain ⟨h, R, now, old, v1, P1, v2, P2, t, g, f⟩ := s
  exact ⟨h, R, now, old, v1, P1, v2, P2, t.below hb, g, f.trans (Fr.of_below (O := fun _ => False) hb) (fun _ q => q.elim)⟩
theorem TS.pre (s : TS w1 O w b rb W) (hb : Below w0.heap.size w0 w1) : TS w0 O w b rb W := by
  obtain ⟨h, R, now, old, v1, P1, v2, P2, t, g, f⟩ := s
  exact ⟨h, R, now, old, v1, P1, v2, P2, t, fun i q => (g i q).imp id (fun e => Nat.le_trans hb.size e), (Fr.of_below hb).trans f (fun _ q => .inl q)⟩
theorem Twin.step (t : Twin w b rb W h R now old v1 P1 v2 P2) (m1 : Mem w1 b W h' R' now' old') (z : WF W h' now' old') (g1 : ∀ i, Own b R' i → Own b R i ∨ w.heap.size ≤ i) (f1 : Fr (Own b R) w w1)
    (r2 : RM w2 rb W h' v1' P1' v2' P2') (g2 : ∀ i, OwnR rb v1' P1' v2' P2' i → OwnR rb v1 P1 v2 P2 i ∨ w1.heap.size ≤ i) (f2 : Fr (OwnR rb v1 P1 v2 P2) w1 w2)
    (e1 : P1'.map Prod.fst = ros h' W now') (e2 : P2'.map Prod.fst = ros (1 - h') W old') : TS w (OwnT b rb R v1 P1 v2 P2) w2 b rb W := by
  have key : ∀ i, Own b R' i → ¬ OwnR rb v1 P1 v2 P2 i := fun i hi hr => by
    rcases g1 i hi with q | q
    · exact t.ap i q hr
    · have := t.r.own_lt i hr; omega
  refine ⟨h', R', now', old', v1', P1', v2', P2', ⟨m1.kept f2 key, z, r2, e1, e2, fun i hi hr => ?_⟩, ?_, (f1.mono (fun _ q => .inl (.inl q))).trans f2 (fun _ q => .inl (.inr q))⟩
  · rcases g2 i hr with q | q
    · exact key i hi q
    · have := m1.own_lt i hi; omega
  · rintro i (q | q)
    · exact (g1 i q).imp .inl id
    · exact (g2 i q).imp .inr (fun e => Nat.le_trans f1.size e)
theorem Twin.step' (t : Twin w b rb W h R now old v1 P1 v2 P2) (r1 : RM w1 rb W h' v1' P1' v2' P2') (g1 : ∀ i, OwnR rb v1' P1' v2' P2' i → OwnR rb v1 P1 v2 P2 i) (f1 : Fr (OwnR rb v1 P1 v2 P2) w w1)
    (m2 : Mem w2 b W h' R' now' old') (z : WF W h' now' old') (g2 : ∀ i, Own b R' i → Own b R i) (f2 : Fr (Own b R) w1 w2)
    (e1 : P1'.map Prod.fst = ros h' W now') (e2 : P2'.map Prod.fst = ros (1 - h') W old') : TS w (OwnT b rb R v1 P1 v2 P2) w2 b rb W :=
  ⟨h', R', now', old', v1', P1', v2', P2', ⟨m2, z, r1.kept f2 (fun i hi hb => t.ap i hb (g1 i hi)), e1, e2, fun i hi hr => t.ap i (g2 i hi) (g1 i hr)⟩, fun i q => .inl (q.imp (g2 i) (g1 i)), (f1.mono (fun _ q => .inl (.inr q))).trans f2 (fun _ q => .inl (.inl q))⟩
/-- the lists, changed alike -/
theorem fst_snoc {p : RO} {u : Value} {L : List RO} (e : P1.map Prod.fst = L) : (P1 ++ [(p, u)]).map Prod.fst = L ++ [p] := by rw [List.map_append, e]; rfl
theorem fst_set {L : List RO} {j : Nat} {q : RO × Value} (e : P1.map Prod.fst = L) : (P1.set j q).map Prod.fst = L.set j q.1 := by rw [List.map_set, e]
/-- both memories allocate -/
theorem Twin.alloc (t : Twin w b rb W h R now old v1 P1 v2 P2) {k s u : Nat} (hr : rightB k s u = true) (hf : used now + s + 1 ≤ W) (m1 : MS w (Own b R) w1 b W h (rowsOf h (now ++ [newOb k s u]) old)) {x : Value}
    (r2 : RM w2 rb W h v1' (P1 ++ [(⟨adr h W (usedP P1), k, u, newL s u, 0⟩, x)]) v2 P2) (g2 : ∀ i, OwnR rb v1' (P1 ++ [(⟨adr h W (usedP P1), k, u, newL s u, 0⟩, x)]) v2 P2 i → OwnR rb v1 P1 v2 P2 i ∨ w1.heap.size ≤ i) (f2 : Fr (OwnR rb v1 P1 v2 P2) w1 w2) : TS w (OwnT b rb R v1 P1 v2 P2) w2 b rb W := by
  obtain ⟨R', m, g1, f1⟩ := m1
  refine t.step (now' := now ++ [newOb k s u]) (old' := old) m (wf_alloc t.z hr hf) g1 f1 r2 g2 f2 ?_ t.e2
  rw [fst_snoc t.e1, ros_snoc, P_used t.e1]
  rfl
/-- both memories store -/
theorem Twin.store (t : Twin w b rb W h R now old v1 P1 v2 P2) {j i x : Nat} {o : Ob} {u : Value} (ho : now[j]? = some o) (hp : P1[j]? = some (roOf (objA h W now j) o, u)) (_ : i < o.ws.length) (hx : x < 18446744073709551616) (m1 : Mem w1 b W h R (setF now j i x) old) (f1 : Fr (Own b R) w w1)
    (r2 : RM w2 rb W h v1 (P1.set j (pW (roOf (objA h W now j) o, u) i x)) v2 P2) (f2 : Fr (OwnR rb v1 P1 v2 P2) w1 w2) : TS w (OwnT b rb R v1 P1 v2 P2) w2 b rb W := by
  refine t.step m1 (wf_setF t.z ho hx) (fun _ q => .inl q) f1 r2 (fun k q => .inl (q.imp id (Or.imp (own_set_word hp _) id))) f2 ?_ t.e2
  rw [fst_set t.e1, setF_eq ho, ros_set ho (by simp)]
  rfl
theorem ros_to0 {os : List Ob} (hf : Fresh os) (e : P1.map Prod.fst = ros h W os) : (P1.map fun p => pT p 0).map Prod.fst = ros h W os := by
  rw [List.map_map, ← e]
  refine List.map_congr_left fun p hp => ?_
  have hm : p.1 ∈ ros h W os := by rw [← e]; exact List.mem_map_of_mem hp
  obtain ⟨i, hi, hq⟩ := List.mem_iff_getElem.1 hm
  have : p.1.to = 0 := by
    rw [← hq]
    simp only [ros, List.getElem_mapIdx, roOf]
    have := hf (os[i]'(by simpa [ros_length] using hi)) (List.getElem_mem _)
    omega
  obtain ⟨⟨a, k, tt, ws, to⟩, u⟩ := p
  simp only at this
  subst this
  rfl
theorem ownL_to0 {i : Nat} (q : OwnL v1 (P1.map fun p => pT p 0) i) : OwnL v1 P1 i := by
  rcases q with q | ⟨p, hp, q⟩
  · exact .inl q
  · obtain ⟨p', hp', rfl⟩ := List.mem_map.1 hp
    exact .inr ⟨p', hp', q⟩
/-- both memories turn -/
theorem Twin.flip (t : Twin w b rb W h R now old v1 P1 v2 P2) (r1 : RM w1 rb W (1 - h) (.slice none 0 0) [] v1 (P1.map fun p => pT p 0)) (f1 : Fr (OwnR rb v1 P1 v2 P2) w w1) (m2 : ∃ R', Mem w2 b W (1 - h) R' [] now ∧ (∀ i, Own b R' i → Own b R i) ∧ Fr (Own b R) w1 w2) : TS w (OwnT b rb R v1 P1 v2 P2) w2 b rb W := by
  obtain ⟨R', m, g2, f2⟩ := m2
  have hh := t.z.hh
  refine t.step' r1 (fun i q => ?_) f1 m (wf_flip t.z) g2 f2 rfl ?_
  · rcases q with q | q | q
    · exact .inl q
    · rcases q with q | ⟨p, hp, _⟩
      · cases q
      · cases hp
    · exact .inr (.inl (ownL_to0 q))
  · rw [show 1 - (1 - h) = h from by omega]
    exact ros_to0 t.z.fresh t.e1
theorem wf_move (z : WF W h now old) {j : Nat} {o : Ob} (ho : old[j]? = some o) (ht : o.to = 0) (hfit : used now + o.ws.length + 1 ≤ W) {T : Nat} (hT : adr h W (used now : Nat) = T) : WF W h (now ++ [o]) (old.set j { o with to := T }) := by
  have hok := z.oko _ (List.mem_of_getElem? ho)
  have hW1 := z.w1
  have hh := z.hh
  have hT2 : T ≤ 131072 := by
    unfold adr at hT
    split at hT <;> omega
  refine ⟨z.w0, hW1, z.hh, ?_, ?_, ?_, ?_, ?_⟩
  · rw [used_append, used_one]; omega
  · rw [used_congr (sz_set (o' := { o with to := T }) ho rfl)]; exact z.uo
  · intro x hm
    rcases List.mem_append.1 hm with a | a
    · exact z.okn x a
    · rw [List.mem_singleton.1 a]; exact hok
  · intro x hm
    rcases List.mem_or_eq_of_mem_set hm with a | a
    · exact z.oko x a
    · rw [a]; exact ⟨hok.right, hT2, hok.word⟩
  · intro x hm
    rcases List.mem_append.1 hm with a | a
    · exact z.fresh x a
    · rw [List.mem_singleton.1 a]; exact ht
/-- both memories move -/
theorem Twin.move (t : Twin w b rb W h R now old v1 P1 v2 P2) {j : Nat} {o : Ob} {u x : Value} (ho : old[j]? = some o) (ht : o.to = 0) (hfit : used now + o.ws.length + 1 ≤ W) {T : Nat} (hT : adr h W (used now : Nat) = T) (m1 : MS w (Own b R) w1 b W h (rowsOf h (now ++ [o]) (old.set j { o with to := T })))
    (r2 : RM w2 rb W h v1' (P1 ++ [({ roOf (objA (1 - h) W old j) o with at_ := adr h W (usedP P1) }, x)]) v2 (P2.set j (pT (roOf (objA (1 - h) W old j) o, u) (adr h W (usedP P1)))))
    (g2 : ∀ i, OwnR rb v1' (P1 ++ [({ roOf (objA (1 - h) W old j) o with at_ := adr h W (usedP P1) }, x)]) v2 (P2.set j (pT (roOf (objA (1 - h) W old j) o, u) (adr h W (usedP P1)))) i → OwnR rb v1 P1 v2 P2 i ∨ w1.heap.size ≤ i) (f2 : Fr (OwnR rb v1 P1 v2 P2) w1 w2) : TS w (OwnT b rb R v1 P1 v2 P2) w2 b rb W := by
  obtain ⟨R', m, g1, f1⟩ := m1
  refine t.step m (wf_move t.z ho ht hfit hT) g1 f1 r2 g2 f2 ?_ ?_
  · rw [fst_snoc t.e1, ros_snoc, P_used t.e1]; rfl
  · rw [fst_set t.e2, ros_set (o' := { o with to := T }) ho rfl, P_used t.e1, hT]; rfl
end
end Go.Proofs.Ytpgnadngiaibeaa
