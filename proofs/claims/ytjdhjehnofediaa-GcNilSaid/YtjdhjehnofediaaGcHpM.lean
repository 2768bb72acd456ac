/- Plain mathematics of the reference's Heap: the objects that it makes of a list. Conditions: none. -/
import Derived.Test.YtjdhjehnofediaaGcMade
namespace Go.Proofs.Ytjdhjehnofediaa
open Go Go.RowKit
/-- an object's kind, how many fields, its fields, its tagged ones, as Heap makes them -/
def hK (o : O4) : Int := 1 + o.k % 5
def hN0 (o : O4) : Nat := min o.fs.length 12
def hN1 (o : O4) : Nat := if hK o = 2 ∧ 1 < hN0 o then 1 else hN0 o
def hF (o : O4) : List Int := if hN1 o = 0 then [-1] else o.fs.take (hN1 o)
def hT (o : O4) : Int := if hK o = 4 then 0 else if hK o = 5 then o.t % ((hF o).length + 1 : Nat) else (hF o).length
def hO (o : O4) : O4 := ⟨hK o, hT o, hF o, o.bd⟩
/-- the objects -/
def heapL (rs : List O4) (k : Nat) : List O4 := (rs.take k).map hO
def heapO (rs : List O4) : List O4 := heapL rs 40
/-- how many words -/
def heapW (rs : List O4) : Nat := 63 + addr4 (heapO rs) (heapO rs).length
theorem hN1_le (o : O4) : hN1 o ≤ o.fs.length ∧ hN1 o ≤ 12 := by
  unfold hN1 hN0
  split <;> omega
theorem hF_len (o : O4) : (hF o).length = if hN1 o = 0 then 1 else hN1 o := by
  have := (hN1_le o).1
  unfold hF
  split
  · rfl
  · rw [List.length_take]; omega
theorem hF_bd (o : O4) : 1 ≤ (hF o).length ∧ (hF o).length ≤ 12 := by
  have := (hN1_le o).2
  rw [hF_len]
  split <;> omega
theorem hK_bd (o : O4) : 1 ≤ hK o ∧ hK o ≤ 5 := by unfold hK; omega
theorem heapL_zero (rs : List O4) : heapL rs 0 = [] := rfl
theorem heapL_succ {rs : List O4} {k : Nat} {o : O4} (h : rs[k]? = some o) : heapL rs (k + 1) = heapL rs k ++ [hO o] := by
  obtain ⟨hk, e⟩ := List.getElem?_eq_some_iff.1 h
  unfold heapL
  rw [List.take_succ_eq_append_getElem hk, List.map_append, e]
  rfl
theorem heapL_length {rs : List O4} {k : Nat} (h : k ≤ rs.length) : (heapL rs k).length = k := by simp [heapL]; omega
theorem heapL_end {rs : List O4} {k : Nat} (h : rs.length ≤ 40) (hk : k = rs.length) : heapL rs k = heapO rs := by
  unfold heapO heapL
  rw [List.take_of_length_le (by omega), List.take_of_length_le h]
theorem addr4_all (os : List O4) : addr4 os os.length = 1 + (os.map fun o => 1 + o.fs.length).sum := by unfold addr4; rw [List.take_length]
theorem heapL_words {rs : List O4} {k : Nat} {o : O4} (h : rs[k]? = some o) : addr4 (heapL rs (k + 1)) (heapL rs (k + 1)).length = addr4 (heapL rs k) (heapL rs k).length + 1 + (hF o).length := by
  rw [heapL_succ h, addr4_all, addr4_all, List.map_append, List.sum_append]
  simp [hO]
  omega
theorem heapL_le (rs : List O4) (k : Nat) : addr4 (heapL rs k) (heapL rs k).length ≤ 1 + k * 13 := by
  have h1 : ∀ o ∈ heapL rs k, o.fs.length ≤ 12 := by
    intro o ho
    obtain ⟨r, _, rfl⟩ := List.mem_map.1 ho
    exact (hF_bd r).2
  have h2 := addr4_le h1 _ (Nat.le_refl _)
  have h3 : (heapL rs k).length ≤ k := by simp [heapL]; omega
  omega
theorem heapO_short (rs : List O4) : ∀ o ∈ heapO rs, o.fs.length ≤ 12 := by
  intro o ho
  obtain ⟨r, _, rfl⟩ := List.mem_map.1 ho
  exact (hF_bd r).2
theorem heapO_few (rs : List O4) : (heapO rs).length ≤ 40 := by simp [heapO, heapL]; omega
/-- what a list that came in is -/
structure In4 (rs : List O4) : Prop where
  rng : ∀ o ∈ rs, ∀ x ∈ o.fs, -9223372036854775808 ≤ x ∧ x ≤ 9223372036854775807
theorem heapR {rs : List O4} (r : In4 rs) : HeapR (heapO rs) (heapW rs) := by
  refine ⟨fun o ho => ?_, rfl, fun o ho x hx => ?_⟩
  · obtain ⟨q, _, rfl⟩ := List.mem_map.1 ho
    have h1 := hK_bd q
    have h2 := hF_bd q
    have h3 : hK q = 2 → (hF q).length = 1 := by
      intro h
      have : hN1 q ≤ 1 := by
        unfold hN1
        split
        · omega
        · have : ¬ (1 < hN0 q) := fun e => by rename_i hn; exact hn ⟨h, e⟩
          omega
      rw [hF_len]
      split <;> omega
    have h4 : 0 ≤ hT q ∧ hT q ≤ (hF q).length ∧ (hK q = 4 → hT q = 0) ∧ (hK q ≠ 4 → hK q ≠ 5 → hT q = (hF q).length) := by
      unfold hT
      have e1 := Int.emod_nonneg q.t (show (((hF q).length + 1 : Nat) : Int) ≠ 0 by omega)
      have e2 := Int.emod_lt_of_pos q.t (show (0 : Int) < (((hF q).length + 1 : Nat) : Int) by omega)
      split
      · omega
      · split
        · refine ⟨e1, by omega, by omega, by omega⟩
        · omega
    refine ⟨by show 0 ≤ hK q; omega, h4.1, right_yes ?_⟩
    show (0 : Int) ≤ ((hF q).length : Int) ∧ ((hF q).length : Int) ≤ 16384 ∧ 0 ≤ hT q ∧ hT q ≤ ((hF q).length : Int) ∧ ((hK q = 1 ∨ hK q = 3) ∧ 1 ≤ ((hF q).length : Int) ∧ hT q = ((hF q).length : Int) ∨ hK q = 2 ∧ ((hF q).length : Int) = 1 ∧ hT q = 1 ∨ hK q = 4 ∧ 1 ≤ ((hF q).length : Int) ∧ hT q = 0 ∨ hK q = 5)
    obtain ⟨a, b, c, d⟩ := h4
    refine ⟨by omega, by omega, a, b, ?_⟩
    have hk : hK q = 1 ∨ hK q = 2 ∨ hK q = 3 ∨ hK q = 4 ∨ hK q = 5 := by omega
    rcases hk with e | e | e | e | e
    · exact .inl ⟨.inl e, by omega, d (by omega) (by omega)⟩
    · have := d (by omega) (by omega)
      have := h3 e
      exact .inr (.inl ⟨e, by omega, by omega⟩)
    · exact .inl ⟨.inr e, by omega, d (by omega) (by omega)⟩
    · exact .inr (.inr (.inl ⟨e, by omega, c e⟩))
    · exact .inr (.inr (.inr e))
  · obtain ⟨q, hq, rfl⟩ := List.mem_map.1 ho
    have hx' : x ∈ hF q := hx
    unfold hF at hx'
    split at hx'
    · obtain rfl := List.mem_singleton.1 hx'
      omega
    · exact r.rng q (List.mem_of_mem_take hq) x (List.mem_of_mem_take hx')
end Go.Proofs.Ytjdhjehnofediaa
