/- The statements' made: the memory that a heap makes. Conditions: the list of objects lies as ObsV says, each right, in a memory that has room. -/
import Derived.Test.YtjdhjehnofediaaGcWord
namespace Go.Proofs.Ytjdhjehnofediaa
open Go Go.RowKit
/-- a heap whose objects are right, with words that have room for them -/
structure HeapR (os : List O4) (W : Nat) : Prop where
  right : ∀ o ∈ os, 0 ≤ o.k ∧ 0 ≤ o.t ∧ rightB o.k o.fs.length o.t = true
  room : W = 63 + addr4 os os.length
  rng : ∀ o ∈ os, ∀ x ∈ o.fs, -9223372036854775808 ≤ x ∧ x ≤ 9223372036854775807
/-- the first objects, as Alloc makes them -/
def obA (os : List O4) (i : Nat) : List Ob := (os.take i).map fun o => newOb o.k.toNat o.fs.length o.t.toNat
theorem obA_zero (os : List O4) : obA os 0 = [] := rfl
theorem obA_succ {os : List O4} {i : Nat} {o : O4} (h : os[i]? = some o) : obA os (i + 1) = obA os i ++ [newOb o.k.toNat o.fs.length o.t.toNat] := by
  obtain ⟨hk, e⟩ := List.getElem?_eq_some_iff.1 h
  unfold obA
  rw [List.take_succ_eq_append_getElem hk, List.map_append, e]
  rfl
theorem HeapR.tle {os : List O4} {W : Nat} (r : HeapR os W) {o : O4} (ho : o ∈ os) : o.t.toNat ≤ o.fs.length := by
  obtain ⟨_, h1, h2⟩ := r.right o ho
  have := right_bd h2
  omega
theorem HeapR.right' {os : List O4} {W : Nat} (r : HeapR os W) {o : O4} (ho : o ∈ os) : rightB (o.k.toNat : Nat) (o.fs.length : Nat) (o.t.toNat : Nat) = true := by
  obtain ⟨h0, h1, h2⟩ := r.right o ho
  rw [Int.toNat_of_nonneg h0, Int.toNat_of_nonneg h1]
  exact h2
theorem used_obA {os : List O4} {W : Nat} (r : HeapR os W) (i : Nat) (hi : i ≤ os.length) : used (obA os i) + 1 = addr4 os i := by
  induction i with
  | zero => rw [obA_zero, addr4_zero]; rfl
  | succ i ih =>
    have hg : os[i]? = some (os[i]'(by omega)) := List.getElem?_eq_getElem (by omega)
    have hm := List.mem_of_getElem? hg
    rw [obA_succ hg, addr4_succ hg, used_append, used_one, newOb_len (r.tle hm)]
    have := ih (by omega)
    omega
theorem addr4_mono (os : List O4) {i : Nat} (hi : i ≤ os.length) : addr4 os i ≤ addr4 os os.length := by
  obtain ⟨d, hd⟩ : ∃ d, os.length = i + d := ⟨os.length - i, by omega⟩
  rw [hd]
  induction d generalizing i with
  | zero => exact Nat.le_refl _
  | succ d ih =>
    have hg : os[i]? = some (os[i]'(by omega)) := List.getElem?_eq_getElem (by omega)
    have h1 := addr4_succ hg
    have h2 := ih (i := i + 1) (by omega) (by omega)
    rw [show i + 1 + d = i + (d + 1) by omega] at h2
    omega
/-- there is room for the next one -/
theorem HeapR.fits {os : List O4} {W : Nat} (r : HeapR os W) {i : Nat} {o : O4} (h : os[i]? = some o) : used (obA os i) + o.fs.length + 1 ≤ W := by
  have hk := (List.getElem?_eq_some_iff.1 h).1
  have h1 := used_obA r i (by omega)
  have h2 := addr4_succ h
  have h3 := addr4_mono os (i := i + 1) (by omega)
  have := r.room
  omega
theorem HeapR.size {os : List O4} {W : Nat} (r : HeapR os W) (h40 : os.length ≤ 40) (hs : ∀ o ∈ os, o.fs.length ≤ 12) : 64 ≤ W ∧ W ≤ 600 := by
  have h1 := addr4_le hs os.length (Nat.le_refl _)
  have h2 : 1 ≤ addr4 os os.length := by unfold addr4; omega
  have := r.room
  omega
/-- the object of a number, k of its fields stored -/
def obP (os : List O4) (j : Nat) (o : O4) (k : Nat) : Ob := ⟨o.k.toNat, o.t.toNat, (List.range k).map (fun f => (wordW os j f).toNat) ++ (newOb o.k.toNat o.fs.length o.t.toNat).ws.drop k, 0⟩
/-- the memory of a heap -/
def heapObs (os : List O4) : List Ob := os.mapIdx fun j o => ⟨o.k.toNat, o.t.toNat, (List.range o.fs.length).map (fun f => (wordW os j f).toNat), 0⟩
theorem heapObs_length (os : List O4) : (heapObs os).length = os.length := by simp [heapObs]
theorem obP_zero (os : List O4) (j : Nat) (o : O4) : obP os j o 0 = newOb o.k.toNat o.fs.length o.t.toNat := by simp [obP, newOb]
theorem ptrW_bd (x : Int) : 0 ≤ ptrW x ∧ ptrW x ≤ 2199023255552 := by unfold ptrW; split <;> omega
theorem intW_bd (x : Int) : 0 ≤ intW x ∧ intW x < 18446744073709551616 := by unfold intW; omega
theorem wordW_bd (os : List O4) (k f : Nat) : 0 ≤ wordW os k f ∧ wordW os k f < 18446744073709551616 := by
  unfold wordW
  cases os[k]? with
  | none => show (0 : Int) ≤ 0 ∧ (0 : Int) < 18446744073709551616; omega
  | some o =>
    simp only []
    split
    · omega
    · split
      · have := ptrW_bd (addr4 os k : Nat); omega
      · split
        · exact intW_bd _
        · have := ptrW_bd (addr4 os ((o.fs.getD f 0) % os.length).toNat : Nat); omega
theorem obP_len {os : List O4} {j k : Nat} {o : O4} (ht : o.t.toNat ≤ o.fs.length) (hk : k ≤ o.fs.length) : (obP os j o k).ws.length = o.fs.length := by
  simp only [obP, List.length_append, List.length_map, List.length_range, List.length_drop, newOb_len ht]
  omega
theorem obP_set {os : List O4} {j k : Nat} {o : O4} (ht : o.t.toNat ≤ o.fs.length) (hk : k < o.fs.length) : ({ obP os j o k with ws := (obP os j o k).ws.set k (wordW os j k).toNat } : Ob) = obP os j o (k + 1) := by
  have hl : (newOb o.k.toNat o.fs.length o.t.toNat).ws.length = o.fs.length := newOb_len ht
  unfold obP
  simp only [Ob.mk.injEq, true_and, and_true]
  rw [List.set_append_right _ _ (by simp), List.length_map, List.length_range, Nat.sub_self, List.drop_eq_getElem_cons (by omega), List.set_cons_zero, List.range_succ, List.map_append, List.append_assoc]
  rfl
theorem obP_full {os : List O4} {j : Nat} {o : O4} (ht : o.t.toNat ≤ o.fs.length) : obP os j o o.fs.length = ⟨o.k.toNat, o.t.toNat, (List.range o.fs.length).map (fun f => (wordW os j f).toNat), 0⟩ := by
  have hl : (newOb o.k.toNat o.fs.length o.t.toNat).ws.length = o.fs.length := newOb_len ht
  unfold obP
  rw [List.drop_eq_nil_of_le (by omega), List.append_nil]
/-- the objects while k fields of the j-th are stored -/
def obM (os : List O4) (j : Nat) (o : O4) (k : Nat) : List Ob := (heapObs os).take j ++ obP os j o k :: (obA os os.length).drop (j + 1)
theorem heapObs_get {os : List O4} {j : Nat} {o : O4} (h : os[j]? = some o) : (heapObs os)[j]? = some ⟨o.k.toNat, o.t.toNat, (List.range o.fs.length).map (fun f => (wordW os j f).toNat), 0⟩ := by
  simp [heapObs, h]
theorem obM_get {os : List O4} {j k : Nat} {o : O4} (hj : j < os.length) : (obM os j o k)[j]? = some (obP os j o k) := by
  unfold obM
  rw [List.getElem?_append_right (by rw [List.length_take, heapObs_length]; omega), List.length_take, heapObs_length, Nat.min_eq_left (by omega), Nat.sub_self]
  rfl
theorem obM_set {os : List O4} {j k : Nat} {o : O4} (hj : j < os.length) (p : Ob) : (obM os j o k).set j p = (heapObs os).take j ++ p :: (obA os os.length).drop (j + 1) := by
  unfold obM
  rw [List.set_append_right _ _ (by rw [List.length_take, heapObs_length]; omega), List.length_take, heapObs_length, Nat.min_eq_left (by omega), Nat.sub_self]
  rfl
/-- the objects when the first j are stored -/
def obJ (os : List O4) (j : Nat) : List Ob := (heapObs os).take j ++ (obA os os.length).drop j
theorem obJ_zero (os : List O4) : obJ os 0 = obA os os.length := by simp [obJ]
theorem obJ_end (os : List O4) : obJ os os.length = heapObs os := by
  unfold obJ
  rw [List.take_of_length_le (by rw [heapObs_length]; exact Nat.le_refl _), List.drop_eq_nil_of_le (by simp [obA]), List.append_nil]
theorem obA_get {os : List O4} {j : Nat} {o : O4} (h : os[j]? = some o) : (obA os os.length)[j]? = some (newOb o.k.toNat o.fs.length o.t.toNat) := by
  simp [obA, h]
theorem obJ_obM {os : List O4} {j : Nat} {o : O4} (h : os[j]? = some o) : obJ os j = obM os j o 0 := by
  obtain ⟨hj, e⟩ := List.getElem?_eq_some_iff.1 (obA_get h)
  unfold obJ obM
  rw [List.drop_eq_getElem_cons hj, e, obP_zero]
theorem obM_obJ {os : List O4} {j : Nat} {o : O4} (h : os[j]? = some o) (ht : o.t.toNat ≤ o.fs.length) : obM os j o o.fs.length = obJ os (j + 1) := by
  obtain ⟨hj, e⟩ := List.getElem?_eq_some_iff.1 (heapObs_get h)
  unfold obJ obM
  rw [obP_full ht, List.take_succ_eq_append_getElem hj, e, List.append_assoc]
  rfl
theorem sz_heap (os : List O4) : sz (heapObs os) = os.map fun o => o.fs.length := by
  unfold sz heapObs
  apply List.ext_getElem
  · simp
  · intro i h1 h2; simp
theorem sz_obA {os : List O4} {W : Nat} (r : HeapR os W) : sz (obA os os.length) = os.map fun o => o.fs.length := by
  unfold sz obA
  rw [List.take_length, List.map_map]
  apply List.map_congr_left
  intro o ho
  exact newOb_len (r.tle ho)
theorem sz_obM {os : List O4} {W j k : Nat} {o : O4} (r : HeapR os W) (h : os[j]? = some o) (hk : k ≤ o.fs.length) : sz (obM os j o k) = sz (obA os os.length) := by
  obtain ⟨hj, e⟩ := List.getElem?_eq_some_iff.1 h
  have h1 : sz (obM os j o k) = (sz (heapObs os)).take j ++ o.fs.length :: (sz (obA os os.length)).drop (j + 1) := by
    unfold obM
    show List.map _ _ = _
    rw [List.map_append, List.map_cons, obP_len (r.tle (List.mem_of_getElem? h)) hk, List.map_take, List.map_drop]
    rfl
  rw [h1, sz_heap, sz_obA r]
  conv => rhs; rw [← List.take_append_drop j (os.map fun o => o.fs.length)]
  have hd := List.drop_eq_getElem_cons (l := os.map fun o => o.fs.length) (i := j) (by simpa using hj)
  rw [hd]
  simp [e]
theorem start_obM {os : List O4} {W j k : Nat} {o : O4} (r : HeapR os W) (h : os[j]? = some o) (hk : k ≤ o.fs.length) : start (obM os j o k) j + 1 = addr4 os j := by
  have hj := (List.getElem?_eq_some_iff.1 h).1
  rw [start_congr (sz_obM r h hk) j, ← used_obA r j (by omega)]
  unfold start obA
  rw [List.take_length, ← List.map_take]
end Go.Proofs.Ytjdhjehnofediaa
