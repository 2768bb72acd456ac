/- A slice of words as an argument: opened into the words that it reads as, and read again behind a call that keeps what was there. Conditions: none. -/
import Derived.Test.YtladgbfmfhmpiaaDoorLaid
import Derived.Test.YtladgbfmfhmpiaaDoorNumPacksV
namespace Go.Proofs.YtladgbfmfhmpiaaDoor
open Go Go.ChangeShapes Go.WideShapes Go.ChangeAt Go.ChangeMaps Go.RowKit
theorem cellsU64 : Tryd.prog.cellsOf 31 = 1 := by kernel_rfl
theorem has_lt {P : Program} {w : World} {r : Reach} {base : Nat} {a : Addr} {e : TypeId} {n : Nat} (h : w.has P r base a e n) : a.spot = none ∧ a.block < w.heap.size := by
  obtain ⟨_, h2, row, cells, h3, _⟩ := h
  refine ⟨h2, ?_⟩
  by_cases hlt : a.block < w.heap.size
  · exact hlt
  · have : w.heap[a.block]? = none := Array.getElem?_eq_none (by omega)
    simp [World.shape?, this] at h3
theorem okWide_words {W : World} {b0 len cap : Nat} {a : Addr} (h : Value.okWide Tryd.prog W .any b0 42 (.slice (some a) len cap)) : a.spot = none ∧ a.block < W.heap.size := by
  simp only [Value.okWide, Cell.okWide, Cell.ok, Tryd.underlying42] at h
  exact has_lt h.2.2
theorem open_words {H : Type} {enc : TypeId × Value → H} {W : World} {b0 : Nat} {v : Value} {d : DataW H} {p : List MemPlace} (hval : Value.okWide Tryd.prog W .any b0 42 v)
    (hd : DataW.Trod enc Tryd.prog W 0 (fun _ => true) true 42 v d p) :
    ∃ (a : Option Addr) (zs : List Nat) (cap : Nat), v = .slice a zs.length cap ∧ Words W.heap.size W (.slice a zs.length cap) zs ∧ (∀ z ∈ zs, z < 18446744073709551616) ∧
      (zs = [] ∨ ∃ es sp, d = .slice es sp ∧ es.length = zs.length) ∧
      (∀ (W' : World) (sp : Nat → Bool), Below W.heap.size W W' → (∀ q ∈ p, sp q.block = true) → DataW.Trod enc Tryd.prog W' 0 sp true 42 v d p) := by
  obtain ⟨a0, len, cap, rfl⟩ := okWide_slice Tryd.underlying42 hval
  have hd' := hd
  obtain ⟨fuel, hf⟩ := hd
  rcases open_ints Tryd.underlying42 Tryd.underlying31 cellsU64 hf with ⟨hcs, hx⟩ | ⟨a, len', cap', zs, hcs, _, hl, hm, hz, hx, hcell, hwz⟩
  · simp [Value.cells] at hcs
    obtain ⟨rfl, rfl, rfl⟩ := hcs
    simp only [Prod.mk.injEq] at hx
    obtain ⟨rfl, rfl⟩ := hx
    exact ⟨none, [], 0, rfl, .inl ⟨rfl, rfl⟩, by simp, .inl rfl, fun W' sp _ _ => shut_slice_nil Tryd.underlying42⟩
  · simp [Value.cells] at hcs
    obtain ⟨rfl, rfl, rfl⟩ := hcs
    simp only [Prod.mk.injEq] at hx
    obtain ⟨rfl, rfl⟩ := hx
    simp only [if_true] at hz
    obtain ⟨hsp, hlt⟩ := okWide_words hval
    obtain ⟨b, off, spot⟩ := a
    simp only at hsp hlt
    subst hsp
    have hcell' : ∀ i, i < zs.length → W.cell? ⟨b, off + i, none⟩ = some (.int .u64 (zs.getD i 0)) := fun i hi => by rw [← add_plain]; exact hcell i hi
    have hw : ∀ n ∈ zs, 0 ≤ n ∧ n ≤ 18446744073709551615 := fun n hn => by simpa [Lit.wf, IntKind.min, IntKind.max, IntKind.signed, IntKind.bits] using hwz n hn
    have hln : ((zs.take len).map Int.toNat).length = len := by simp; omega
    refine ⟨some ⟨b, off, none⟩, (zs.take len).map Int.toNat, cap, by rw [hln], ?_, ?_, ?_, ?_⟩
    · refine .inr ⟨b, off, cap, rfl, hlt, by rw [hln]; exact hl, fun j hj => ?_⟩
      rw [hln] at hj
      rw [hcell' j (by omega)]
      have h1 : zs.getD j 0 = zs[j]'(by omega) := by simp [List.getD, show j < zs.length by omega]
      have h2 : ((zs.take len).map Int.toNat).getD j 0 = (zs[j]'(by omega)).toNat := by simp [List.getD, show j < zs.length by omega, hj]
      have h3 := hw (zs[j]'(by omega)) (List.getElem_mem _)
      rw [h1, h2, Int.toNat_of_nonneg h3.1]
    · intro z hz'
      obtain ⟨x, hx, rfl⟩ := List.mem_map.1 hz'
      have := hw x (List.mem_of_mem_take hx)
      omega
    · exact .inr ⟨_, _, rfl, by simp [lits]⟩
    · intro W' sp hb hq
      refine ⟨2, ?_⟩
      refine shut_ints' 0 Tryd.underlying42 Tryd.underlying31 cellsU64 (Nat.zero_le _) hl hm ?_ (fun i hi => by rw [hb.cell (p := ⟨b, off + i, none⟩) hlt]; exact hcell' i hi) hwz
      by_cases hc0 : cap = 0
      · have : len = 0 := by omega
        subst this
        rw [hz, hc0]; simp
      · have := hq (.cell b off) (MemPlace.mem_row.2 ⟨0, by omega, by simp⟩)
        simp only [MemPlace.block] at this
        rw [if_pos this, hz]
end Go.Proofs.YtladgbfmfhmpiaaDoor
