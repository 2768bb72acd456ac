/- The contracts of Makers, the program's and the document's. Conditions: none. -/
import Derived.Deep.RegionHeld3
import Derived.Maps.AppendAt
import Derived.OwnWalk
import Derived.Test.YtlakfnlkiebpdaaDoorRtsTz
namespace Go.Proofs.YtlakfnlkiebpdaaDoor
open Go Go.RowKit
def nilS : Value := .slice none 0 0
def mkC (s : ByteArray) (tag : Int) (has : Bool) (vars : Int) (a t : Ty) (ua ut : Value) : List Value :=
  [.string s, .int .i64 tag, .bool has, .int .i64 vars, .int .i64 a.k, .int .i64 a.n, .string a.s, ua, .int .i64 t.k, .int .i64 t.n, .string t.s, ut]
def zeroT : Ty := .mk 0 0 ⟨#[]⟩ []
def boolT : Ty := .mk 2 8 ⟨#[98, 111, 111, 108]⟩ []
def exnT : Ty := .mk 2 4 ⟨#[101, 120, 110]⟩ []
def four (U1 U2 U3 : Value) : List Value :=
  mkC ⟨#[102, 97, 108, 115, 101]⟩ 0 false 0 zeroT boolT nilS nilS ++ mkC ⟨#[116, 114, 117, 101]⟩ 1 false 0 zeroT boolT nilS nilS ++
  mkC ⟨#[110, 105, 108]⟩ 0 false 1 zeroT listT nilS U1 ++ mkC ⟨#[58, 58]⟩ 1 true 1 cellT listT U2 U3
def exnN : Nat → ByteArray
  | 0 => ⟨#[77, 97, 116, 99, 104]⟩ | 1 => ⟨#[66, 105, 110, 100]⟩ | 2 => ⟨#[68, 105, 118]⟩ | 3 => ⟨#[67, 104, 114]⟩ | 4 => ⟨#[83, 117, 98, 115, 99, 114, 105, 112, 116]⟩ | _ => ⟨#[69, 113, 117, 97, 108]⟩
def exnC (k : Nat) : List Value := mkC (exnN k) k false 0 zeroT exnT nilS nilS
def mkUp (U1 U2 U3 : Value) : Nat → List Value
  | 0 => four U1 U2 U3
  | k + 1 => mkUp U1 U2 U3 k ++ exnC k
theorem mkUp_len (U1 U2 U3 : Value) : ∀ k, (mkUp U1 U2 U3 k).length = (4 + k) * 12
  | 0 => rfl
  | k + 1 => by rw [mkUp, List.length_append, mkUp_len U1 U2 U3 k]; show _ + 12 = _; omega
def Mkd (w' : World) (b : Nat) (v U1 U2 U3 : Value) (k : Nat) : Prop :=
  w'.ownsRow b 73 12 v (4 + k) (mkUp U1 U2 U3 k) ∧ Lv w' b listT.l U1 ∧ Lv w' b cellT.l U2 ∧ Lv w' b listT.l U3
theorem belowA {X Y : World} (h : Below X.heap.size X Y) (o : Obj) : Below X.heap.size X (Y.alloc o) := h.alloc h.size o
theorem pb5m {a b c d e : Prop} (q : a ∧ b ∧ c ∧ d ∧ e) : e := q.2.2.2.2
theorem infoMk : (Tryd.prog.info? 73).map (fun i => (i.zero, i.size, i.bytes)) = some (some (.agg #[.string ⟨#[]⟩, .int .i64 0, .bool false, .int .i64 0, .int .i64 0, .int .i64 0, .string ⟨#[]⟩, .slice none 0 0, .int .i64 0, .int .i64 0, .string ⟨#[]⟩, .slice none 0 0]), 12, 152) := by kernel_rfl
theorem cells_atT (w : World) (cs : Array Value) (t : TypeId) (g : Nat) (hg : w.heap.size = g) : ∀ j u, cs.toList[j]? = some u → (w.alloc (.cells cs t)).cell? ((⟨g, 0, none⟩ : Addr).add j) = some u := by
  subst hg
  intro j u hu
  have hadd : (⟨w.heap.size, 0, none⟩ : Addr).add j = ⟨w.heap.size, j, none⟩ := by unfold Addr.add; split <;> simp_all
  rw [hadd, blk_cellT (heap_alloc_new w _) j, ← hu]
  simp
theorem own_shapeT {W : World} {B n k : Nat} {e : TypeId} {v : Value} {xs : List Value} (h : W.ownsRow B e k v n xs) : ∃ A cap, v = .slice A n cap := by
  rcases h.2 with ⟨rfl, rfl⟩ | ⟨g, cap, cur, rfl, _⟩
  · exact ⟨none, 0, rfl⟩
  · exact ⟨_, cap, rfl⟩
theorem own_monoT {W : World} {B B' n k : Nat} {e : TypeId} {v : Value} {xs : List Value} (h : W.ownsRow B e k v n xs) (hb : B' ≤ B) : W.ownsRow B' e k v n xs := by
  refine ⟨h.1, ?_⟩
  rcases h.2 with h | ⟨g, cap, cur, h1, h2, h3⟩
  · exact .inl h
  · exact .inr ⟨g, cap, cur, h1, by omega, h3⟩
theorem own_fourT (w : World) (U1 U2 U3 : Value) : (w.alloc (.cells (four U1 U2 U3).toArray 73)).ownsRow w.heap.size 73 12 (.slice (some ⟨w.heap.size, 0, none⟩) 4 4) 4 (four U1 U2 U3) :=
  ⟨rfl, .inr ⟨w.heap.size, 4, _, rfl, Nat.le_refl _, heap_alloc_new w _, Nat.le_refl _, by decide, rfl, by rfl⟩⟩
theorem ix6 (W : World) : ∀ k : Nat, k < 6 → (Instr.index 128 (.agg #[.string ⟨#[77, 97, 116, 99, 104]⟩, .string ⟨#[66, 105, 110, 100]⟩, .string ⟨#[68, 105, 118]⟩, .string ⟨#[67, 104, 114]⟩, .string ⟨#[83, 117, 98, 115, 99, 114, 105, 112, 116]⟩, .string ⟨#[69, 113, 117, 97, 108]⟩]) (.int .i64 k)).run Tryd.prog W = .ok (.string (exnN k)) W
  | 0, _ => by kernel_rfl
  | 1, _ => by kernel_rfl
  | 2, _ => by kernel_rfl
  | 3, _ => by kernel_rfl
  | 4, _ => by kernel_rfl
  | 5, _ => by kernel_rfl
  | k + 6, h => absurd h (by omega)
set_option maxRecDepth 100000 in
set_option maxHeartbeats 8000000 in
theorem makers_any (w : World) : Calls Tryd.prog 37 #[] w fun e w' => (∃ v U1 U2 U3, e = .returned v ∧ Mkd w' w.heap.size v U1 U2 U3 6) ∧ Below w.heap.size w w' := by
  obtain ⟨X, hX⟩ : ∃ X, (w.alloc (.cells #[.int .i64 2, .int .i64 8, .string ⟨#[98, 111, 111, 108]⟩, .slice none 0 0] 61)).alloc (.cells #[.int .i64 2, .int .i64 4, .string ⟨#[101, 120, 110]⟩, .slice none 0 0] 61) = X := ⟨_, rfl⟩
  have hb1 : X.heap[w.heap.size]? = some (.cells #[.int .i64 2, .int .i64 8, .string ⟨#[98, 111, 111, 108]⟩, .slice none 0 0] 61 (0, 0)) := by
    rw [← hX]; exact ((below_one _ _).block _ (by rw [World.size_alloc]; omega)).trans (heap_alloc_new w _)
  have hb2 : X.heap[w.heap.size + 1]? = some (.cells #[.int .i64 2, .int .i64 4, .string ⟨#[101, 120, 110]⟩, .slice none 0 0] 61 (0, 0)) := by
    have := heap_alloc_new (w.alloc (.cells #[.int .i64 2, .int .i64 8, .string ⟨#[98, 111, 111, 108]⟩, .slice none 0 0] 61)) (.cells #[.int .i64 2, .int .i64 4, .string ⟨#[101, 120, 110]⟩, .slice none 0 0] 61)
    rw [World.size_alloc] at this
    rw [← hX]; exact this
  have hbb : Below w.heap.size w X := by rw [← hX]; exact (below_one w _).alloc (by rw [World.size_alloc]; omega) _
  have HW := Lib.hid (And.intro hX (And.intro hb1 (And.intro hb2 hbb)))
  clear hX hb1 hb2 hbb
  go_enter Tryd.func37, Tryd.ntmps37
  go_wp2_with fail
  rw [HW.out.1]
  have HS := Lib.hid (show ∀ Y, Below X.heap.size X Y → Y.cell? ⟨w.heap.size, 0, none⟩ = some (.int .i64 2) ∧ Y.cell? ⟨w.heap.size, 1, none⟩ = some (.int .i64 8) ∧ Y.cell? ⟨w.heap.size, 2, none⟩ = some (.string ⟨#[98, 111, 111, 108]⟩) ∧ Y.cell? ⟨w.heap.size, 3, none⟩ = some (.slice none 0 0) ∧ Below X.heap.size X Y from fun Y hY => ⟨below_cell hY (blk_cellT HW.out.2.1 0), below_cell hY (blk_cellT HW.out.2.1 1), below_cell hY (blk_cellT HW.out.2.1 2), below_cell hY (blk_cellT HW.out.2.1 3), hY⟩)
  have hd0 := HS.out X (Below.refl _ _)
  have HLO := Lib.hid (fun (Y : World) (hY : Below X.heap.size X Y) => (listof_any Y).mono fun e w' ⟨⟨u, h1, h2⟩, h3⟩ => (⟨⟨u, h1, h2.mono hY.size⟩, h3, hY.trans (h3.mono hY.size)⟩ : (∃ u, e = Ending.returned (.agg #[.int .i64 2, .int .i64 9, .string ⟨#[108, 105, 115, 116]⟩, u]) ∧ Lv w' X.heap.size listT.l u) ∧ Below Y.heap.size Y w' ∧ Below X.heap.size X w'))
  have HCO := Lib.hid (fun (Y : World) (hY : Below X.heap.size X Y) => (cellof_any Y).mono fun e w' ⟨⟨u, h1, h2⟩, h3⟩ => (⟨⟨u, h1, h2.mono hY.size⟩, h3, hY.trans (h3.mono hY.size)⟩ : (∃ u, e = Ending.returned (.agg #[.int .i64 2, .int .i64 6, .string ⟨#[42]⟩, u]) ∧ Lv w' X.heap.size cellT.l u) ∧ Below Y.heap.size Y w' ∧ Below X.heap.size X w'))
  go_region_held3 (fun Y => Y.cell? ⟨w.heap.size, 0, none⟩ = some (.int .i64 2) ∧ Y.cell? ⟨w.heap.size, 1, none⟩ = some (.int .i64 8) ∧ Y.cell? ⟨w.heap.size, 2, none⟩ = some (.string ⟨#[98, 111, 111, 108]⟩) ∧ Y.cell? ⟨w.heap.size, 3, none⟩ = some (.slice none 0 0) ∧ Below X.heap.size X Y)
    (first | (with_reducible assumption) | (with_reducible exact HS.out _ (Below.drew (Below.refl _ _))) | (with_reducible exact HS.out _ (by with_reducible assumption)) | (with_reducible exact HS.out _ (belowA (by with_reducible assumption) _)))
    (first
      | (go_at_call 74; (with_reducible refine (HLO.out _ (pb5m (by with_reducible assumption))).mono ?_); rintro e w' ⟨⟨u, rfl, hl⟩, hy, hww⟩)
      | (go_at_call 75; (with_reducible refine (HCO.out _ (pb5m (by with_reducible assumption))).mono ?_); rintro e w' ⟨⟨u, rfl, hl⟩, hy, hww⟩))
  rename_i w1 u1 hl1 hy1 hww1 w2 u2 hl2 hy2 hww2 hH
  clear hH hd0 HLO HCO HS
  have hu1 := (hl1.stay hy2).stay hy
  have hu2 := hl2.stay hy
  have hown := own_fourT w' u1 u2 u
  have hb0 := below_one w' (.cells (four u1 u2 u).toArray 73)
  have HX2 := Lib.hid ((hww.block _ (Array.getElem?_eq_some_iff.1 HW.out.2.2.1).1).trans HW.out.2.2.1)
  have HF := Lib.hid (And.intro hu1 (And.intro hu2 (And.intro hl (And.intro (HW.out.2.2.2.trans (hww.mono HW.out.2.2.2.size)) hww.size))))
  clear hl1 hy1 hww1 hl2 hy2 hww2 hy hww hl hu1 hu2
  change (w'.alloc (.cells _ 73)).ownsRow _ _ _ _ _ _ at hown
  change Below _ _ (w'.alloc (.cells _ 73)) at hb0
  obtain ⟨Z, hZ⟩ : ∃ Z, w'.alloc (.cells (four u1 u2 u).toArray 73) = Z := ⟨_, rfl⟩
  rw [hZ] at hown hb0
  change Exit.then _ _ Exit.normal _ (w'.alloc (.cells (four u1 u2 u).toArray 73))
  rw [hZ]
  have HO := Lib.hid hown
  have HB := Lib.hid hb0
  clear hown hb0 hZ
  obtain ⟨i0, hi, hz0, hz1, hz2⟩ := info_parts infoMk
  go_wp2_with fail
  go_loopw [3, 19] (fun v i wr => ∃ k : Nat, k ≤ 6 ∧ i = .int .i64 k ∧ wr.ownsRow w'.heap.size 73 12 v (4 + k) (mkUp u1 u2 u k) ∧ Below w'.heap.size w' wr) (fun _ i _ => 6 - (intOf i).toNat)
  case atStart => exact ⟨0, Nat.zero_le _, rfl, HO.out, HB.out⟩
  case round =>
    obtain ⟨k, hk, rfl, hown, hb⟩ := hrel
    obtain ⟨va, vc, rfl⟩ := own_shapeT hown
    have HR := Lib.hid (And.intro hown hb)
    clear hown hb
    by_cases hlt : k < 6
    · have hx2 := (HR.out.2.block _ (Array.getElem?_eq_some_iff.1 HX2.out).1).trans HX2.out
      have d0 := blk_cellT hx2 0
      have d1 := blk_cellT hx2 1
      have d2 := blk_cellT hx2 2
      have d3 := blk_cellT hx2 3
      clear hx2
      have hix := fun W => ix6 W k hlt
      have HE := Lib.hid (rfl : exnN k = exnN k)
      generalize hN : exnN k = N at hix
      have HN := Lib.hid hN
      clear hN HE
      go_wp2_with (at_builtin; refine wpList_append_own_at _ rfl _ _ 62 rfl w'.heap.size 73 i0 (.agg #[.string ⟨#[]⟩, .int .i64 0, .bool false, .int .i64 0, .int .i64 0, .int .i64 0, .string ⟨#[]⟩, .slice none 0 0, .int .i64 0, .int .i64 0, .string ⟨#[]⟩, .slice none 0 0]) 12 152 Tryd.underlying62 hi hz0 hz1 hz2 rfl (by decide) (.slice va (4 + k) vc) _ _ rfl (HR.out.1.alloc _) ⟨wr.heap.size, 0, none⟩ 1 1 [.string N, .int .i64 k, .bool false, .int .i64 0, .int .i64 0, .int .i64 0, .string ⟨#[]⟩, .slice none 0 0, .int .i64 2, .int .i64 4, .string ⟨#[101, 120, 110]⟩, .slice none 0 0] rfl rfl (cells_atT wr #[.string N, .int .i64 k, .bool false, .int .i64 0, .int .i64 0, .int .i64 0, .string ⟨#[]⟩, .slice none 0 0, .int .i64 2, .int .i64 4, .string ⟨#[101, 120, 110]⟩, .slice none 0 0] _ _ rfl) (by simp [Value.oneCell']) (by unfold maxLen; omega) (by omega) (by have := HR.out.2.size; simp; omega) ?_; intro v7 w7 hown7 hgrow7 _ hblk7; have HO7 := Lib.hid hown7; have HB7 := Lib.hid ((HR.out.2.alloc HR.out.2.size _).grown hgrow7 (by have := HR.out.2.size; simp; omega) (fun j hj => (HR.out.1.lt j hj).1)); clear hown7 hgrow7 hblk7)
      have hown7 : w7.ownsRow w'.heap.size 73 12 v7 (4 + (k + 1)) (mkUp u1 u2 u (k + 1)) := by
        have h := HO7.out
        rw [← HN.out] at h
        exact h
      exact ⟨⟨k + 1, hlt, by go_num, hown7, HB7.out⟩, by simp [intOf]; omega⟩
    · obtain rfl : k = 6 := by omega
      go_wp2_with fail
      go_ret
      obtain ⟨q1, q2, q3, q4, q5⟩ := HF.out
      have hXw : w.heap.size ≤ X.heap.size := HW.out.2.2.2.size
      exact ⟨⟨_, u1, u2, u, rfl, own_monoT HR.out.1 (Nat.le_trans hXw q5), (q1.stay HR.out.2).mono hXw, (q2.stay HR.out.2).mono hXw, (q3.stay HR.out.2).mono hXw⟩, q4.trans (HR.out.2.mono q4.size)⟩
end Go.Proofs.YtlakfnlkiebpdaaDoor
