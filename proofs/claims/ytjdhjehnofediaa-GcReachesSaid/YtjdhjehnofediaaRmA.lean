/- Contracts of the document's memory: New, Alloc. Conditions: the memory lies as RM says. -/
import Derived.Test.YtjdhjehnofediaaRmS
import Derived.Deep.AppendLies
import Derived.Deep.RegionLaw
namespace Go.Proofs.Ytjdhjehnofediaa
open Go Go.RowKit
theorem rnew_bad (W : Int) (hW : W < 64 ∨ 65536 < W) (w : World) : Calls Try.prog 46 #[.int .i64 W] w fun e w' => e = .returned (.tuple #[.agg #[.int .i64 0, .int .i64 0, .slice none 0 0, .slice none 0 0], .bool false]) ∧ Below w.heap.size w w' := by
  rcases hW with h | h
  · go_enter Try.func46, Try.ntmps46
    go_wp2
    exact bodyPost_ret (v := .tuple #[.agg #[.int .i64 0, .int .i64 0, .slice none 0 0, .slice none 0 0], .bool false]) (by simp [results, Try.results46, go_sem]) rfl ⟨rfl, (Below.refl _ _).alloc (Nat.le_refl _) _⟩
  · have h' : ¬ W < 64 := by omega
    go_enter Try.func46, Try.ntmps46
    go_wp2
    exact bodyPost_ret (v := .tuple #[.agg #[.int .i64 0, .int .i64 0, .slice none 0 0, .slice none 0 0], .bool false]) (by simp [results, Try.results46, go_sem]) rfl ⟨rfl, (Below.refl _ _).alloc (Nat.le_refl _) _⟩
theorem rnew_ok (W : Nat) (h0 : 64 ≤ W) (h1 : W ≤ 65536) (w : World) : Calls Try.prog 46 #[.int .i64 W] w fun e w' => e = .returned (.tuple #[.agg #[.int .i64 W, .int .i64 0, .slice none 0 0, .slice none 0 0], .bool true]) ∧ Below w.heap.size w w' := by
  go_enter Try.func46, Try.ntmps46
  go_wp2
  exact bodyPost_ret (v := .tuple #[.agg #[.int .i64 W, .int .i64 0, .slice none 0 0, .slice none 0 0], .bool true]) (by simp [results, Try.results46, go_sem]) rfl ⟨rfl, (Below.refl _ _).alloc (Nat.le_refl _) _⟩
theorem infoObj : (Try.prog.info? 90).map (fun i => (i.zero, i.size, i.bytes)) = some (some (.agg #[.int .i64 0, .int .i64 0, .int .i64 0, .slice none 0 0, .int .i64 0]), 5, 56) := by kernel_rfl
theorem cells5_at (w : World) (a b c d e : Value) (t : TypeId) (g : Nat) (hg : w.heap.size = g) : ∀ j u, [a, b, c, d, e][j]? = some u → (w.alloc (.cells #[a, b, c, d, e] t)).cell? ((⟨g, 0, none⟩ : Addr).add j) = some u := by
  subst hg
  intro j u hu
  have hadd : (⟨w.heap.size, 0, none⟩ : Addr).add j = ⟨w.heap.size, j, none⟩ := by unfold Addr.add; split <;> simp_all
  rw [hadd, cell_of_row _ _ j _ t (0, 0) (heap_alloc_new w _)]
  simpa using hu
theorem ro_one {o : RO} {u : Value} (hu : u.oneCell' = true) : ∀ v ∈ roCells o u, v.oneCell' = true := by
  intro v hv
  simp [roCells] at hv
  rcases hv with rfl | rfl | rfl | rfl | rfl
  · rfl
  · rfl
  · rfl
  · exact hu
  · rfl
theorem own_set0 {w : World} {B n c j : Nat} {e : TypeId} {v u : Value} {xs : List Value} (h : w.ownsRow B e 1 v n xs) (hc : ∀ g, v.ownBlock = some g → g ≠ c) : (w.setCell ⟨c, j, none⟩ u).ownsRow B e 1 v n xs :=
  ((Fr.refl (· = c) w).setCell (p := ⟨c, j, none⟩) (.inl rfl) u).own h hc
/-- an object in the making: its block, the words so far -/
structure AO (w : World) (ob : Nat) (A k t z : Int) (l : List Nat) (u : Value) (wr : World) : Prop where
  blk : wr.heap[ob]? = some (.cells #[.int .i64 A, .int .i64 k, .int .i64 t, u, .int .i64 z] 90 (0, 0))
  own : wr.ownsRow w.heap.size 56 1 u l.length (u64s l)
  base : Below w.heap.size w wr
  ge : w.heap.size ≤ ob
section
variable {w wr w1 : World} {ob : Nat} {A k t z : Int} {l : List Nat} {u v' : Value}
theorem AO.ne (x : AO w ob A k t z l u wr) : u.ownBlock ≠ some ob := fun e => by
  obtain ⟨cs, h⟩ := row_block (own_mono x.own (Nat.zero_le _)) e
  rw [x.blk] at h
  injection h with h
  injection h with _ h3 _
  exact absurd h3 (by decide)
theorem AO.app (x : AO w ob A k t z l u wr) {tmp : Obj} {l' : List Nat} {n : Nat} (hn : l'.length = n) (hown : w1.ownsRow w.heap.size 56 1 v' n (u64s l')) (hg : (wr.alloc tmp).grownBy w1 u.ownBlock) :
    w1.cell? ⟨ob, 3, none⟩ = some u ∧ w1.frozen? ⟨ob, 3, none⟩ = false ∧ AO w ob A k t z l' v' (w1.setCell ⟨ob, 3, none⟩ v') := by
  subst hn
  have hlt : ob < wr.heap.size := (Array.getElem?_eq_some_iff.1 x.blk).1
  have hb : w1.heap[ob]? = _ := (hg.block ob (by simp; omega) (fun e => x.ne e.symm)).trans ((Below.heap_alloc wr tmp ob hlt).trans x.blk)
  have hB : Below w.heap.size w w1 := (x.base.alloc x.base.size tmp).grown hg (by have := x.base.size; simp; omega) (fun j hj => (x.own.lt j hj).1)
  refine ⟨blk_cell hb 3, blk_free hb 3, blk_set hb 3 v', own_set0 hown (fun g hg' e => ?_), hB.setCell (p := ⟨ob, 3, none⟩) x.ge _, x.ge⟩
  subst e
  obtain ⟨cs, h⟩ := row_block (own_mono hown (Nat.zero_le _)) hg'
  rw [hb] at h
  injection h with h
  injection h with _ h3 _
  exact absurd h3 (by decide)
end
section
variable {w : World} {b W h : Nat} {v1 v2 : Value} {P1 P2 : List (RO × Value)}
set_option maxRecDepth 100000 in
set_option maxHeartbeats 1000000 in
theorem ralloc_head (k s t : Int) (hr : rightB k s t = false) (a : Addr) : Calls Try.prog 47 #[.pointer (some a), .int .i64 k, .int .i64 s, .int .i64 t] w fun e w' => e = .returned (.tuple #[.int .i64 0, .int .i64 22]) ∧ w' = w := by
  have hR := fun W => refright_any k s t W
  rw [hr] at hR
  have HR := Lib.hid hR
  clear hr hR
  go_enter Try.func47, Try.ntmps47
  go_wp2_with fail
  refine (HR.out _).mono ?_
  rintro e w' ⟨rfl, rfl⟩
  go_wp2_with fail
  go_ret2
  exact ⟨rfl, rfl⟩
set_option maxRecDepth 100000 in
set_option maxHeartbeats 1000000 in
theorem ralloc_full (m : RM w b W h v1 P1 v2 P2) (z : RZ W h P1 P2) (k s t : Int) (hr : rightB k s t = true) (hf : (W : Int) - usedP P1 ≤ s) : Calls Try.prog 47 #[.pointer (some ⟨b, 0, none⟩), .int .i64 k, .int .i64 s, .int .i64 t] w fun e w' => e = .returned (.tuple #[.int .i64 0, .int .i64 21]) ∧ ∃ n, w' = w.drewN n := by
  have hR := fun W => refright_any k s t W
  rw [hr] at hR
  have HR := Lib.hid hR
  have HF := Lib.hid (rfree_any m z)
  clear hr hR m z
  go_enter Try.func47, Try.ntmps47
  go_wp2_with fail
  refine (HR.out _).mono ?_
  rintro e w' ⟨rfl, rfl⟩
  go_wp2_with fail
  refine HF.out.mono ?_
  rintro e w1 ⟨rfl, n, rfl⟩
  go_wp2_with fail
  go_ret2
  exact ⟨rfl, n, rfl⟩
/-- an object is laid behind the others -/
theorem RM.push {wr w1 : World} (m : RM wr b W h v1 P1 v2 P2) {o : RO} {u v' : Value} {tmp : Obj} (hu : wr.ownsRow 0 56 1 u o.ws.length (u64s o.ws)) (hnew : ∀ i, u.ownBlock = some i → ¬ OwnR b v1 P1 v2 P2 i) (hown : w1.ownsRow 0 90 5 v' (P1.length + 1) (cellsP P1 ++ roCells o u)) (hg : (wr.alloc tmp).grownBy w1 v1.ownBlock) (hblk : v'.ownBlock = v1.ownBlock ∨ v'.ownBlock = some (wr.heap.size + 1)) :
    w1.cell? ⟨b, 2, none⟩ = some v1 ∧ w1.frozen? ⟨b, 2, none⟩ = false ∧ RM (w1.setCell ⟨b, 2, none⟩ v') b W h v' (P1 ++ [(o, u)]) v2 P2 ∧ (∀ i, OwnR b v' (P1 ++ [(o, u)]) v2 P2 i → OwnR b v1 P1 v2 P2 i ∨ u.ownBlock = some i ∨ wr.heap.size ≤ i) ∧ Fr (OwnR b v1 P1 v2 P2) wr (w1.setCell ⟨b, 2, none⟩ v') := by
  have hf : Fr (fun i => v1.ownBlock = some i) wr w1 := ((Fr.refl _ wr).alloc tmp).grown hg (fun _ hk => .inl hk)
  have hb : w1.heap[b]? = _ := (hf.block b m.lt (fun e => m.n1 (.inl e))).trans m.blk
  have hfb : Fr (· = b) w1 (w1.setCell ⟨b, 2, none⟩ v') := (Fr.refl (· = b) w1).setCell (p := ⟨b, 2, none⟩) (.inl rfl) _
  have hul : ∀ i, u.ownBlock = some i → i < wr.heap.size := fun i hi => (hu.lt i hi).2
  have hvb : v'.ownBlock ≠ some b := fun e => by
    rcases hblk with q | q
    · exact m.n1 (.inl (q ▸ e))
    · rw [q] at e; have := Option.some.inj e; have := m.lt; omega
  have hsub : ∀ i, OwnL v' (P1 ++ [(o, u)]) i → OwnL v1 P1 i ∨ u.ownBlock = some i ∨ wr.heap.size ≤ i := by
    rintro i (q | ⟨p, hp, q⟩)
    · rcases hblk with e | e
      · exact .inl (.inl (e ▸ q))
      · rw [e] at q; have := Option.some.inj q; exact .inr (.inr (by omega))
    · rcases List.mem_append.1 hp with e | e
      · exact .inl (.inr ⟨p, e, q⟩)
      · rw [List.mem_singleton.1 e] at q; exact .inr (.inl q)
  refine ⟨blk_cell hb 2, blk_free hb 2, ⟨blk_set hb 2 v', ⟨?_, ?_, ?_⟩, ?_, ?_, m.n2, ?_⟩, ?_, ?_⟩
  · rw [List.length_append, List.length_singleton, cellsP_append]
    have e : cellsP [(o, u)] = roCells o u := by simp [cellsP]
    rw [e]
    exact own5 hfb hown (fun g hg' e => hvb (e ▸ hg'))
  · intro p hp
    rcases List.mem_append.1 hp with e | e
    · exact hfb.own (hf.own (m.l1.ws p e) (fun g hg' q => (m.l1.far e) g q hg')) (fun g hg' q => m.n1 (by subst q; exact .inr ⟨p, e, hg'⟩))
    · rw [List.mem_singleton.1 e]
      exact hfb.own (hf.own hu (fun g hg' q => hnew g hg' (.inr (.inl (.inl q))))) (fun g hg' q => hnew g hg' (.inl q))
  · rw [List.map_append, List.pairwise_append]
    refine ⟨m.l1.sep, by simp, ?_⟩
    intro a ha c hc g hga hgc
    obtain ⟨p, hp, rfl⟩ := List.mem_map.1 ha
    simp at hc
    subst hc
    exact hnew g hgc (.inr (.inl (.inr ⟨p, hp, hga⟩)))
  · exact (m.l2.kept hf (fun i hi q => m.n3 i (.inl q) hi)).kept hfb (fun i hi q => m.n2 (by subst q; exact hi))
  · intro hi
    rcases hsub b hi with q | q | q
    · exact m.n1 q
    · exact hnew b q (.inl rfl)
    · have := m.lt; omega
  · intro i hi h2
    rcases hsub i hi with q | q | q
    · exact m.n3 i q h2
    · exact hnew i q (.inr (.inr h2))
    · have := m.l2.lt i h2; omega
  · rintro i (rfl | q | q)
    · exact .inl (.inl rfl)
    · rcases hsub i q with q | q | q
      · exact .inl (.inr (.inl q))
      · exact .inr (.inl q)
      · exact .inr (.inr q)
    · exact .inl (.inr (.inr q))
  · exact (hf.mono (fun i hi => .inl (.inr (.inl (.inl hi))))).setCell (p := ⟨b, 2, none⟩) (.inl (.inl rfl)) _
end
end Go.Proofs.Ytjdhjehnofediaa
