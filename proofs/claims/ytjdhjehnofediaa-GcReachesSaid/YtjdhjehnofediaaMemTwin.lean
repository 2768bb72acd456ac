/- A memory and the document's beside it, alike. Conditions: none. -/
import Derived.Test.YtjdhjehnofediaaRmB
import Derived.Test.YtjdhjehnofediaaRmC
import Derived.Test.YtjdhjehnofediaaMemI
namespace Go.Proofs.Ytjdhjehnofediaa
open Go Go.RowKit
/-- an object as the document's -/
def roOf (A : Int) (o : Ob) : RO := ⟨A, o.k, o.t, o.ws, o.to⟩
def ros (h W : Nat) (os : List Ob) : List RO := os.mapIdx fun j o => roOf (objA h W os j) o
theorem ros_length (h W : Nat) (os : List Ob) : (ros h W os).length = os.length := by simp [ros]
theorem ros_get {h W : Nat} {os : List Ob} {j : Nat} {o : Ob} (ho : os[j]? = some o) : (ros h W os)[j]? = some (roOf (objA h W os j) o) := by
  unfold ros; rw [List.getElem?_mapIdx, ho]; rfl
theorem objA_append (h W : Nat) (os ps : List Ob) {j : Nat} (hj : j ≤ os.length) : objA h W (os ++ ps) j = objA h W os j := by unfold objA; rw [start_append _ _ _ hj]
theorem ros_snoc (h W : Nat) (os : List Ob) (o : Ob) : ros h W (os ++ [o]) = ros h W os ++ [roOf (adr h W (used os : Nat)) o] := by
  apply List.ext_getElem?
  intro i
  by_cases q : i < os.length
  · rw [List.getElem?_append_left (by rw [ros_length]; exact q)]
    have h1 : (os ++ [o])[i]? = some os[i] := by rw [List.getElem?_append_left q, List.getElem?_eq_getElem q]
    rw [ros_get h1, ros_get (List.getElem?_eq_getElem q), objA_append _ _ _ _ (Nat.le_of_lt q)]
  · by_cases e : i = os.length
    · subst e
      rw [List.getElem?_append_right (by rw [ros_length]; exact Nat.le_refl _), ros_length, Nat.sub_self]
      have h1 : (os ++ [o])[os.length]? = some o := by simp
      rw [ros_get h1, objA_append _ _ _ _ (Nat.le_refl _)]
      unfold objA; rw [start_len]; rfl
    · rw [List.getElem?_eq_none (by rw [ros_length]; simp; omega), List.getElem?_eq_none (by simp [ros_length]; omega)]
theorem ros_set {h W : Nat} {os : List Ob} {j : Nat} {o o' : Ob} (ho : os[j]? = some o) (hl : o'.ws.length = o.ws.length) : ros h W (os.set j o') = (ros h W os).set j (roOf (objA h W os j) o') := by
  have hsz := sz_set ho hl
  have hobj : ∀ i, objA h W (os.set j o') i = objA h W os i := fun i => by unfold objA; rw [start_congr hsz]
  have hj := (List.getElem?_eq_some_iff.1 ho).1
  apply List.ext_getElem?
  intro i
  by_cases e : i = j
  · subst e
    rw [List.getElem?_set_self (by rw [ros_length]; exact hj), ros_get (List.getElem?_set_self hj), hobj]
  · rw [List.getElem?_set_ne (fun q => e q.symm)]
    by_cases q : i < os.length
    · rw [ros_get (o := os[i]) (by rw [List.getElem?_set_ne (fun q => e q.symm)]; exact List.getElem?_eq_getElem q), ros_get (List.getElem?_eq_getElem q), hobj]
    · rw [List.getElem?_eq_none (by rw [ros_length]; simp; omega), List.getElem?_eq_none (by rw [ros_length]; omega)]
section
variable {h W : Nat} {os : List Ob} {P : List (RO × Value)}
theorem P_length (e : P.map Prod.fst = ros h W os) : P.length = os.length := by
  have := congrArg List.length e
  simpa [ros_length] using this
theorem P_get (e : P.map Prod.fst = ros h W os) {j : Nat} {o : Ob} (ho : os[j]? = some o) : ∃ u, P[j]? = some (roOf (objA h W os j) o, u) := by
  have h1 := ros_get (h := h) (W := W) ho
  rw [← e, List.getElem?_map] at h1
  cases hp : P[j]? with
  | none => rw [hp] at h1; cases h1
  | some p =>
    rw [hp] at h1
    have := Option.some.inj h1
    exact ⟨p.2, by rw [← this]⟩
theorem P_used (e : P.map Prod.fst = ros h W os) : usedP P = used os := by
  have h1 : P.map (fun p => 1 + p.1.ws.length) = (P.map Prod.fst).map (fun r => 1 + r.ws.length) := by rw [List.map_map]; rfl
  unfold usedP used
  rw [h1, e]
  unfold ros
  congr 1
  apply List.ext_getElem?
  intro i
  rw [List.getElem?_map, List.getElem?_mapIdx, List.getElem?_map]
  cases os[i]? <;> rfl
theorem P_idx (e : P.map Prod.fst = ros h W os) (a : Int) : fidx P a = idxAt os h W a := by
  cases q : idxAt os h W a with
  | some j =>
    obtain ⟨hj, ha⟩ := idxAt_some q
    obtain ⟨u, hp⟩ := P_get e (List.getElem?_eq_getElem hj)
    refine fidx_hit (fun i p hi hp' hpa => ?_) hp ha.symm
    have hio : i < os.length := by omega
    obtain ⟨u', hp''⟩ := P_get e (List.getElem?_eq_getElem hio)
    rw [hp'] at hp''
    obtain rfl := Option.some.inj hp''
    have h2 : objA h W os i = objA h W os j := hpa.trans ha
    have := adr_inj h2
    have := start_inj os hio hj (by omega)
    omega
  | none =>
    refine fidx_miss (fun i p hi hp hpa => ?_)
    have hio : i < os.length := by rw [← P_length e]; exact hi
    obtain ⟨u', hp''⟩ := P_get e (List.getElem?_eq_getElem hio)
    rw [hp] at hp''
    obtain rfl := Option.some.inj hp''
    exact idxAt_none q i hio hpa.symm
end
/-- a memory at b, the document's at rb, alike -/
structure Twin (w : World) (b rb W h : Nat) (R : Nat → Value) (now old : List Ob) (v1 : Value) (P1 : List (RO × Value)) (v2 : Value) (P2 : List (RO × Value)) : Prop where
  m : Mem w b W h R now old
  z : WF W h now old
  r : RM w rb W h v1 P1 v2 P2
  e1 : P1.map Prod.fst = ros h W now
  e2 : P2.map Prod.fst = ros (1 - h) W old
  ap : ∀ i, Own b R i → ¬ OwnR rb v1 P1 v2 P2 i
def OwnT (b rb : Nat) (R : Nat → Value) (v1 : Value) (P1 : List (RO × Value)) (v2 : Value) (P2 : List (RO × Value)) (i : Nat) : Prop := Own b R i ∨ OwnR rb v1 P1 v2 P2 i
section
variable {w w1 : World} {b rb W h : Nat} {R : Nat → Value} {now old : List Ob} {v1 v2 : Value} {P1 P2 : List (RO × Value)}
theorem Twin.rz (t : Twin w b rb W h R now old v1 P1 v2 P2) : RZ W h P1 P2 := by
  have h1 := t.z.un
  have h2 := t.z.uo
  have h3 := t.z.w1
  exact ⟨h3, t.z.hh, by rw [P_used t.e1]; omega, by rw [P_used t.e2]; omega⟩
theorem Twin.own_lt (t : Twin w b rb W h R now old v1 P1 v2 P2) : ∀ i, OwnT b rb R v1 P1 v2 P2 i → i < w.heap.size := by
  rintro i (q | q)
  · exact t.m.own_lt i q
  · exact t.r.own_lt i q
theorem Twin.kept {O : Nat → Prop} (t : Twin w b rb W h R now old v1 P1 v2 P2) (hf : Fr O w w1) (hn : ∀ i, OwnT b rb R v1 P1 v2 P2 i → ¬ O i) : Twin w1 b rb W h R now old v1 P1 v2 P2 :=
  ⟨t.m.kept hf (fun i hi => hn i (.inl hi)), t.z, t.r.kept hf (fun i hi => hn i (.inr hi)), t.e1, t.e2, t.ap⟩
theorem Twin.below (t : Twin w b rb W h R now old v1 P1 v2 P2) (hb : Below w.heap.size w w1) : Twin w1 b rb W h R now old v1 P1 v2 P2 := t.kept (Fr.of_below (O := fun _ => False) hb) (fun _ _ => id)
theorem Twin.drewN (t : Twin w b rb W h R now old v1 P1 v2 P2) (n : Nat) : Twin (w.drewN n) b rb W h R now old v1 P1 v2 P2 := t.kept ((Fr.refl (fun _ => False) w).drewN n) (fun _ _ => id)
theorem Twin.next (t : Twin w b rb W h R now old v1 P1 v2 P2) : Calls Try.prog 60 #[.pointer (some ⟨b, 0, none⟩)] w fun e w' => e = .returned (.int .i64 (adr h W (used now : Nat))) ∧ ∃ n, w' = w.drewN n := by
  have := next_any t.m t.z.sizes
  rwa [rows_cells, half_now, flat_length] at this
theorem Twin.free (t : Twin w b rb W h R now old v1 P1 v2 P2) : Calls Try.prog 35 #[.pointer (some ⟨b, 0, none⟩)] w fun e w' => e = .returned (.int .i64 ((W : Int) - used now)) ∧ ∃ n, w' = w.drewN n := free_m t.m t.z rfl _ rfl
theorem Twin.rnext (t : Twin w b rb W h R now old v1 P1 v2 P2) : Calls Try.prog 61 #[.pointer (some ⟨rb, 0, none⟩)] w fun e w' => e = .returned (.int .i64 (adr h W (used now : Nat))) ∧ ∃ n, w' = w.drewN n := by
  have := rnext_any t.r t.rz
  rw [P_used t.e1] at this
  exact this
theorem Twin.rfree (t : Twin w b rb W h R now old v1 P1 v2 P2) : Calls Try.prog 62 #[.pointer (some ⟨rb, 0, none⟩)] w fun e w' => e = .returned (.int .i64 ((W : Int) - used now)) ∧ ∃ n, w' = w.drewN n := by
  have := rfree_any t.r t.rz
  rw [P_used t.e1] at this
  exact this
end
end Go.Proofs.Ytjdhjehnofediaa
