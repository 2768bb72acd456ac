/- The contracts of tellOf, tell and Show, where that of constructor holds. Condition: the scene. The contracts of tell and Show, where that of constructor holds. Condition: the scene. The contracts of Show, light and few, where that of constructor holds. Condition: the scene. The contract of few: whether a type and constructors are small enough. Condition: they lie as they came in. -/
import Derived.Test.YtlakfnlkiebpdaaDoorRtsFive
import Derived.Lib.ItoaLen
namespace Go.Proofs.YtlakfnlkiebpdaaDoor
open Go Go.RowKit
theorem pb8L {a b c d e f g h : Prop} (q : a ∧ b ∧ c ∧ d ∧ e ∧ f ∧ g ∧ h) : h := q.2.2.2.2.2.2.2
section
variable {w : World} {b W h N : Nat} {now old : List Ob} {R : Nat → Value} {a : Option Addr} {ms : List Mkr} {f : Nat → Ty → List UInt8 × Bool}
theorem sc8 {a b c d e f g : Prop} {X w1 Y : World} (hY : Below w1.heap.size w1 Y) (q : a ∧ b ∧ c ∧ d ∧ e ∧ f ∧ g ∧ Below X.heap.size X Y) : a ∧ b ∧ c ∧ d ∧ e ∧ f ∧ g ∧ Below w1.heap.size w1 Y := ⟨q.1, q.2.1, q.2.2.1, q.2.2.2.1, q.2.2.2.2.1, q.2.2.2.2.2.1, q.2.2.2.2.2.2.1, hY⟩
theorem one_of {l : List Ty} (h : l.length = 1) : ∃ t, l = [t] := by
  match l, h with
  | [t], _ => exact ⟨t, rfl⟩
/-- the boxes of tellOf and the element of its type's row -/
theorem of_scene (c : Nat) (tk tn : Int) (tz : ByteArray) (t0 : Ty) (ua : Option Addr) (uc : Nat) (hu : TyV w [t0] (.slice ua 1 uc)) :
    ∃ g off u0, ua = some ⟨g, off, none⟩ ∧ TyV w t0.l u0 ∧ ∀ Y, Below ((w.alloc (tlrO b a N c)).alloc (.cells #[.int .i64 tk, .int .i64 tn, .string tz, .slice ua 1 uc] 61)).heap.size ((w.alloc (tlrO b a N c)).alloc (.cells #[.int .i64 tk, .int .i64 tn, .string tz, .slice ua 1 uc] 61)) Y →
      Y.cell? ⟨w.heap.size, 0, none⟩ = some (.pointer (some ⟨b, 0, none⟩)) ∧ Y.cell? ⟨w.heap.size, 1, none⟩ = some (.slice a N c) ∧ Y.cell? ⟨w.heap.size + 1, 3, none⟩ = some (.slice ua 1 uc) ∧
      Y.cell? ⟨g, off, none⟩ = some (.int .i64 t0.k) ∧ Y.cell? ⟨g, off + 1, none⟩ = some (.int .i64 t0.n) ∧ Y.cell? ⟨g, off + 2, none⟩ = some (.string t0.s) ∧ Y.cell? ⟨g, off + 3, none⟩ = some u0 ∧
      Below ((w.alloc (tlrO b a N c)).alloc (.cells #[.int .i64 tk, .int .i64 tn, .string tz, .slice ua 1 uc] 61)).heap.size ((w.alloc (tlrO b a N c)).alloc (.cells #[.int .i64 tk, .int .i64 tn, .string tz, .slice ua 1 uc] 61)) Y := by
  obtain ⟨g, off, u0, e, hg, d0, d1, d2, d3, hv⟩ := hu.get (i := 0) rfl
  have hb2 := below_two w (tlrO b a N c) (.cells #[.int .i64 tk, .int .i64 tn, .string tz, .slice ua 1 uc] 61)
  obtain ⟨X, hX⟩ : ∃ X, (w.alloc (tlrO b a N c)).alloc (.cells #[.int .i64 tk, .int .i64 tn, .string tz, .slice ua 1 uc] 61) = X := ⟨_, rfl⟩
  have hx := res4 (new_at (w.alloc (tlrO b a N c)) (.cells #[.int .i64 tk, .int .i64 tn, .string tz, .slice ua 1 uc] 61) (w.heap.size + 1) (by simp))
  have hl := blk_cellT (old_at (w.alloc (tlrO b a N c)) (.cells #[.int .i64 tk, .int .i64 tn, .string tz, .slice ua 1 uc] 61) (heap_alloc_new w (tlrO b a N c)))
  rw [Nat.zero_mul, Nat.add_zero] at d0 d1 d2 d3
  rw [hX] at hb2 hx hl ⊢
  exact ⟨g, off, u0, e, hv, fun Y hY => ⟨(below_cell hY (hl 0)).trans rfl, (below_cell hY (hl 1)).trans rfl, below_cell hY hx.2.2.2, below_cell hY (below_cell hb2 d0), below_cell hY (below_cell hb2 d1), below_cell hY (below_cell hb2 d2), below_cell hY (below_cell hb2 d3), hY⟩⟩
set_option maxRecDepth 100000 in
set_option maxHeartbeats 4000000 in
theorem of_list (s : Sc w b W h now old R a N ms) (c : Nat) (dep : Int) (n : Nat) (hn : n < 18446744073709551616) (t : Ty) (u : Value) (hd0 : 0 ≤ dep) (hd1 : dep ≤ 31) (hf : TellC w b a N c f (dep + 1)) (hfl : ∀ n t, (f n t).1.length ≤ 20000000) (hu : TyV w t.l u) (h1 : t.n = 9) (h2 : t.l.length = 1) :
    Calls Tryd.prog 95 #[tlr b a N c, .int .u64 (n : Int), tyA t u, .int .i64 dep] w (OfR w (listF (LN now h W) (fun x => (f x (t.l.getD 0 zTy)).1) 300 n [] [91], false)) := by
  obtain ⟨ua, uc, rfl, huc, hul⟩ := hu.shape
  obtain ⟨tk, tn, tz, tl⟩ := t
  simp only [Ty.n, Ty.l] at h1 h2
  obtain ⟨t0, rfl⟩ := one_of h2
  subst h1
  simp only [Ty.l, List.length_singleton] at hu huc ⊢
  have hb2 := below_two w (tlrO b a N c) (.cells #[.int .i64 tk, .int .i64 9, .string tz, .slice ua 1 uc] 61)
  have HB2 := Lib.hid hb2
  obtain ⟨g, off, u0, rfl, hu0, hsc⟩ := of_scene (b := b) (a := a) (N := N) c tk 9 tz t0 ua uc hu
  have HU0 := Lib.hid hu0
  have hcl := fun Y (hY : Below w.heap.size w Y) => list_any (s.below hY) c dep hd0 hd1 (hf.at hY) hfl n hn t0 u0 (HU0.out.below hY)
  simp only [List.getD_cons_zero]
  obtain ⟨Q, hQ⟩ : ∃ Q, listF (LN now h W) (fun x => (f x t0).1) 300 n [] [91] = Q := ⟨_, rfl⟩
  rw [hQ] at hcl ⊢
  unfold tyA at hcl ⊢
  simp only [Ty.k, Ty.n, Ty.s] at HB2 hsc ⊢
  obtain ⟨k0, n0, z0, l0⟩ := t0
  simp only [Ty.k, Ty.n, Ty.s] at hsc hcl
  obtain ⟨X, hX⟩ : ∃ X, (w.alloc (tlrO b a N c)).alloc (.cells #[.int .i64 tk, .int .i64 9, .string tz, .slice (some ⟨g, off, none⟩) 1 uc] 61) = X := ⟨_, rfl⟩
  rw [hX] at hb2 hsc
  have HX := Lib.hid (And.intro hX hb2)
  have HS := Lib.hid hsc
  have hd := HS.out X (Below.refl _ _)
  have HC := Lib.hid (fun (Y : World) (hY : Below X.heap.size X Y) => (hcl Y (HX.out.2.trans (hY.mono HX.out.2.size))).mono fun e w' ⟨h1, h2⟩ => (⟨h1, hY.trans (h2.mono hY.size)⟩ : e = Ending.returned (.string (bst Q)) ∧ Below X.heap.size X w'))
  clear s hb2 hf hfl hu hu0 hcl hsc hX hQ h2
  go_enter Tryd.func95, Tryd.ntmps95
  go_wp2_with fail
  rw [HX.out.1]
  go_region_held3 (fun Y => Y.cell? ⟨w.heap.size, 0, none⟩ = some (.pointer (some ⟨b, 0, none⟩)) ∧ Y.cell? ⟨w.heap.size, 1, none⟩ = some (.slice a N c) ∧ Y.cell? ⟨w.heap.size + 1, 3, none⟩ = some (.slice (some ⟨g, off, none⟩) 1 uc) ∧ Y.cell? ⟨g, off, none⟩ = some (.int .i64 k0) ∧ Y.cell? ⟨g, off + 1, none⟩ = some (.int .i64 n0) ∧ Y.cell? ⟨g, off + 2, none⟩ = some (.string z0) ∧ Y.cell? ⟨g, off + 3, none⟩ = some u0 ∧ Below X.heap.size X Y)
    (first | (with_reducible assumption) | (with_reducible exact HS.out _ (Below.drew (Below.refl _ _))) | (with_reducible exact HS.out _ (by with_reducible assumption)))
    (first | (go_at_call 109; (with_reducible refine (HC.out _ (pb8L (by with_reducible assumption))).mono ?_); rintro e w' ⟨rfl, hww⟩))
  have HW := Lib.hid (HX.out.2.trans (hww.mono HX.out.2.size))
  clear hww hd
  go_wp2_with fail
  go_ret2
  exact ⟨rfl, HW.out⟩
theorem ref_size {i : Nat} (s : Sc w b W h now old R a N ms) (ho : now[i]? = some (obN now i)) (hk : (obN now i).k = 2) : (obN now i).ws.length = 1 := by
  have hr := (s.z.okn _ (List.mem_of_getElem? ho)).right
  unfold rightB at hr
  have hr := of_decide_eq_true hr
  omega
set_option maxRecDepth 100000 in
set_option maxHeartbeats 4000000 in
theorem of_ref (s : Sc w b W h now old R a N ms) (c : Nat) (dep : Int) (n : Nat) (hn : n < 18446744073709551616) (t : Ty) (u : Value) (hd0 : 0 ≤ dep) (hd1 : dep ≤ 31) (hf : TellC w b a N c f (dep + 1)) (hfl : ∀ n t, (f n t).1.length ≤ 20000000) (hu : TyV w t.l u) (h1 : t.n = 7) (h2 : t.l.length = 1) :
    Calls Tryd.prog 95 #[tlr b a N c, .int .u64 (n : Int), tyA t u, .int .i64 dep] w (OfR w (if isK (LN now h W) n 2 = true then (behindF f [114, 101, 102] ((((LN now h W n).map (·.2)).getD []).getD 0 0) (t.l.getD 0 zTy), true) else ([63], false))) := by
  obtain ⟨ua, uc, rfl, huc, hul⟩ := hu.shape
  obtain ⟨tk, tn, tz, tl⟩ := t
  simp only [Ty.n, Ty.l] at h1 h2
  obtain ⟨t0, rfl⟩ := one_of h2
  subst h1
  simp only [Ty.l, List.length_singleton] at hu huc ⊢
  have hb2 := below_two w (tlrO b a N c) (.cells #[.int .i64 tk, .int .i64 7, .string tz, .slice ua 1 uc] 61)
  have HB2 := Lib.hid hb2
  obtain ⟨g, off, u0, rfl, hu0, hsc⟩ := of_scene (b := b) (a := a) (N := N) c tk 7 tz t0 ua uc hu
  have HU0 := Lib.hid hu0
  have HIS := Lib.hid (is_any (s.below hb2) c n hn 2)
  simp only [List.getD_cons_zero]
  unfold tyA
  simp only [Ty.k, Ty.n, Ty.s] at HB2 hsc ⊢
  cases hK : isK (LN now h W) n 2 with
  | false =>
    rw [hK] at HIS
    rw [if_neg (by decide)]
    have hq := hsc
    clear s hb2 hf hfl hu hu0 hsc h2 hK hq
    go_enter Tryd.func95, Tryd.ntmps95
    go_wp2_with fail
    refine (HIS.out).mono ?_
    rintro e w1 ⟨rfl, hb1⟩
    have HB1 := Lib.hid (HB2.out.trans (hb1.mono HB2.out.size))
    clear hb1
    go_wp2_with fail
    go_ret2
    exact ⟨rfl, HB1.out⟩
  | true =>
    rw [hK] at HIS
    rw [if_pos rfl]
    obtain ⟨i, hi, hk2⟩ := isK_some hK
    have hsz := ref_size s (idx_ob hi) hk2
    have hfv : ((((LN now h W n).map (·.2)).getD []).getD 0 0) = (obN now i).ws.getD 0 0 := by rw [LN_some hi]; rfl
    rw [hfv]
    have hxw : (obN now i).ws.getD 0 0 < 18446744073709551616 := by
      rw [List.getD_eq_getElem?_getD]
      cases q : (obN now i).ws[0]? with
      | none => decide
      | some x => exact (s.z.okn _ (List.mem_of_getElem? (idx_ob hi))).word x (List.mem_of_getElem? q)
    have hfd := fun Y (hY : Below w.heap.size w Y) => show Calls Tryd.prog 64 #[.pointer (some ⟨b, 0, none⟩), .int .i64 (toP (n : Int)), .int .i64 0] Y _ from fieldof_hit (s.below hY).m s.z (toP (n : Int)) 0 (by have := (toP_le n).1; omega) hi (idx_ob hi) (by omega)
    obtain ⟨x, hx⟩ : ∃ x, (obN now i).ws.getD 0 0 = x := ⟨_, rfl⟩
    rw [hx] at hfd hxw ⊢
    have hcl := fun Y (hY : Below w.heap.size w Y) => behind_any (w := Y) (b := b) (N := N) (a := a) c dep hd0 hd1 (hf.at hY) hfl ⟨#[114, 101, 102]⟩ (by decide) x hxw t0 u0 (HU0.out.below hY)
    obtain ⟨Q, hQ⟩ : ∃ Q, behindF f [114, 101, 102] x t0 = Q := ⟨_, rfl⟩
    have hcl2 := fun Y (hY : Below w.heap.size w Y) => show Calls _ _ _ Y (fun e w' => e = .returned (.string (bst (behindF f [114, 101, 102] x t0))) ∧ Below Y.heap.size Y w') from hcl Y hY
    rw [hQ] at hcl2 ⊢
    unfold tyA at hcl2
    obtain ⟨k0, n0, z0, l0⟩ := t0
    simp only [Ty.k, Ty.n, Ty.s] at hsc hcl2
    obtain ⟨A, hA⟩ : ∃ A, toP (n : Int) = A := ⟨_, rfl⟩
    have HTP := Lib.hid (topN n hn)
    rw [hA] at hfd HTP
    obtain ⟨X, hX⟩ : ∃ X, (w.alloc (tlrO b a N c)).alloc (.cells #[.int .i64 tk, .int .i64 7, .string tz, .slice (some ⟨g, off, none⟩) 1 uc] 61) = X := ⟨_, rfl⟩
    rw [hX] at hb2 hsc HIS
    have HX := Lib.hid (And.intro hX hb2)
    have HSC := Lib.hid hsc
    have HFD := Lib.hid hfd
    have HCL := Lib.hid hcl2
    clear s hb2 hf hfl hu hu0 hcl hcl2 hsc hX hQ h2 hK hi hk2 hsz hfv hx hfd hA
    go_enter Tryd.func95, Tryd.ntmps95
    go_wp2_with fail
    rw [HX.out.1]
    refine HIS.out.mono ?_
    rintro e w1 ⟨rfl, hb1⟩
    have hwx : Below w.heap.size w w1 := HX.out.2.trans (hb1.mono HX.out.2.size)
    have HWX := Lib.hid hwx
    have HS := Lib.hid (fun Y (hY : Below w1.heap.size w1 Y) => sc8 hY (HSC.out Y (hb1.trans (hY.mono hb1.size))))
    have hd := HS.out w1 (Below.refl _ _)
    have HC1 := Lib.hid (fun (Y : World) (hY : Below w1.heap.size w1 Y) => (HTP.out Y).mono fun e w' ⟨h1, h2⟩ => (⟨h1, by rw [h2]; exact hY⟩ : e = Ending.returned (.int .i64 A) ∧ Below w1.heap.size w1 w'))
    have HC2 := Lib.hid (fun (Y : World) (hY : Below w1.heap.size w1 Y) => (HFD.out Y (hwx.trans (hY.mono hwx.size))).mono fun e w' ⟨h1, n', h2⟩ => (⟨h1, by rw [h2]; exact Below.drewN' hY n'⟩ : e = Ending.returned (.int .u64 (x : Int)) ∧ Below w1.heap.size w1 w'))
    have HC3 := Lib.hid (fun (Y : World) (hY : Below w1.heap.size w1 Y) => (HCL.out Y (hwx.trans (hY.mono hwx.size))).mono fun e w' ⟨h1, h2⟩ => (⟨h1, hY.trans (h2.mono hY.size)⟩ : e = Ending.returned (.string (bst Q)) ∧ Below w1.heap.size w1 w'))
    clear hwx hb1
    go_wp2_with fail
    go_region_held3 (fun Y => Y.cell? ⟨w.heap.size, 0, none⟩ = some (.pointer (some ⟨b, 0, none⟩)) ∧ Y.cell? ⟨w.heap.size, 1, none⟩ = some (.slice a N c) ∧ Y.cell? ⟨w.heap.size + 1, 3, none⟩ = some (.slice (some ⟨g, off, none⟩) 1 uc) ∧ Y.cell? ⟨g, off, none⟩ = some (.int .i64 k0) ∧ Y.cell? ⟨g, off + 1, none⟩ = some (.int .i64 n0) ∧ Y.cell? ⟨g, off + 2, none⟩ = some (.string z0) ∧ Y.cell? ⟨g, off + 3, none⟩ = some u0 ∧ Below w1.heap.size w1 Y)
      (first | (with_reducible assumption) | (with_reducible exact HS.out _ (Below.drew (Below.refl _ _))) | (with_reducible exact HS.out _ (by with_reducible assumption)))
      (first | (go_at_call 54; (with_reducible refine (HC1.out _ (pb8L (by with_reducible assumption))).mono ?_); rintro e w' ⟨rfl, hww⟩) | (go_at_call 64; (with_reducible refine (HC2.out _ (pb8L (by with_reducible assumption))).mono ?_); rintro e w' ⟨rfl, hww⟩) | (go_at_call 108; (with_reducible refine (HC3.out _ (pb8L (by with_reducible assumption))).mono ?_); rintro e w' ⟨rfl, hww⟩))
    have HW := Lib.hid (HWX.out.trans (hww.mono HWX.out.size))
    clear hww hd
    go_wp2_with fail
    go_ret2
    exact ⟨rfl, HW.out⟩
end
end Go.Proofs.YtlakfnlkiebpdaaDoor
namespace Go.Proofs.YtlakfnlkiebpdaaDoor
open Go Go.RowKit
section
variable {w : World} {b W h N : Nat} {now old : List Ob} {R : Nat → Value} {a : Option Addr} {ms : List Mkr} {f : Nat → Ty → List UInt8 × Bool}
theorem tellof_any (s : Sc w b W h now old R a N ms) (c : Nat) (dep : Int) (hd0 : 0 ≤ dep) (hd1 : dep ≤ 31) (hf : TellC w b a N c f (dep + 1)) (hfl : ∀ n t, (f n t).1.length ≤ 20000000) (hc : ConsC w b a N c (LN now h W) ms f dep) (n : Nat) (hn : n < 18446744073709551616) (t : Ty) (u : Value) (hu : TyV w t.l u) :
    Calls Tryd.prog 95 #[tlr b a N c, .int .u64 (n : Int), tyA t u, .int .i64 dep] w (OfR w (tellF (LN now h W) (TN now h W) ms f n t)) := by
  unfold tellF
  by_cases h1 : t.n = 1 ∧ isIntB (n : Int) = true
  · rw [if_pos h1]; exact of_int s c dep n hn t u h1.1 h1.2
  rw [if_neg h1]
  by_cases h2 : t.n = 3 ∧ n = 1
  · rw [if_pos h2]; obtain ⟨h2, rfl⟩ := h2; exact of_unit c dep t u h2
  rw [if_neg h2]
  by_cases h3 : t.n = 2
  · rw [if_pos h3]; exact of_text s c dep n hn t u h3
  rw [if_neg h3]
  by_cases h4 : t.n = 5
  · have h5 := of_fn s c dep n hn t u h4
    by_cases h6 : isK (LN now h W) n 3 = true
    · rw [if_pos h6] at h5; rw [if_pos ⟨h4, h6⟩]; exact h5
    · rw [if_neg h6] at h5; rw [if_neg (fun q => h6 q.2), if_pos (.inr (.inr h4))]; exact h5
  rw [if_neg (fun q => h4 q.1)]
  by_cases h5 : t.n = 1 ∨ t.n = 3 ∨ t.n = 5
  · rw [if_pos h5]
    rcases h5 with h5 | h5 | h5
    · exact of_noint c dep n hn t u h5 (by cases q : isIntB (n : Int) with | false => rfl | true => exact absurd ⟨h5, q⟩ h1)
    · exact of_nounit c dep n t u h5 (fun q => h2 ⟨h5, q⟩)
    · exact absurd h5 h4
  rw [if_neg h5]
  by_cases h6 : t.n = 6 ∧ 2 ≤ t.l.length
  · rw [if_pos h6]
    have := of_tuple s c dep n hn t u hd0 hd1 hf hfl hu h6.1 h6.2
    unfold tupV at this
    cases q : tupL (LN now h W) n t.l.length with
    | none => rw [q] at this; exact this
    | some ws => rw [q] at this; exact this
  rw [if_neg h6]
  by_cases h7 : t.n = 7 ∧ t.l.length = 1
  · rw [if_pos h7]; exact of_ref s c dep n hn t u hd0 hd1 hf hfl hu h7.1 h7.2
  rw [if_neg h7]
  by_cases h9 : t.n = 9 ∧ t.l.length = 1
  · rw [if_pos h9]; exact of_list s c dep n hn t u hd0 hd1 hf hfl hu h9.1 h9.2
  rw [if_neg h9]
  exact of_cons c dep n hn t u hc hu h5 h3 h6 h7 h9
set_option maxRecDepth 100000 in
set_option maxHeartbeats 4000000 in
theorem tell_end (c n : Nat) (t : Ty) (u : Value) :
    Calls Tryd.prog 67 #[tlr b a N c, .int .u64 (n : Int), tyA t u, .int .i64 31] w (OfR w ([35], false)) := by
  have HB2 := Lib.hid (below_two w (tlrO b a N c) (.cells #[.int .i64 t.k, .int .i64 t.n, .string t.s, u] 61))
  unfold tyA
  go_enter Tryd.func67, Tryd.ntmps67
  go_wp2_with fail
  go_ret2
  exact ⟨rfl, HB2.out⟩
set_option maxRecDepth 100000 in
set_option maxHeartbeats 4000000 in
theorem tell_step (c n : Nat) (dep : Int) (hd0 : 0 ≤ dep) (hd1 : dep ≤ 30) (t : Ty) (u : Value) (r : List UInt8 × Bool)
    (hof : ∀ Y, Below w.heap.size w Y → Calls Tryd.prog 95 #[tlr b a N c, .int .u64 (n : Int), tyA t u, .int .i64 dep] Y (OfR Y r)) :
    Calls Tryd.prog 67 #[tlr b a N c, .int .u64 (n : Int), tyA t u, .int .i64 dep] w (OfR w (if t.k = 1 then ([95], false) else if t.k = 2 then r else ([63], false))) := by
  have hb2 := below_two w (tlrO b a N c) (.cells #[.int .i64 t.k, .int .i64 t.n, .string t.s, u] 61)
  have HB2 := Lib.hid hb2
  have hc := hof _ hb2
  have hdd : decide ((30 : Int) < dep) = false := decide_eq_false (by omega)
  unfold tyA at hc ⊢
  have HC := Lib.hid hc
  clear hb2 hc hof
  by_cases h1 : t.k = 1
  · rw [if_pos h1]
    obtain ⟨tk, tn, tz, tl⟩ := t
    simp only [Ty.k, Ty.n, Ty.s] at h1 HB2 HC ⊢
    subst h1
    go_enter Tryd.func67, Tryd.ntmps67
    go_wp2_with fail
    go_ret2
    exact ⟨rfl, HB2.out⟩
  · rw [if_neg h1]
    by_cases h2 : t.k = 2
    · rw [if_pos h2]
      obtain ⟨tk, tn, tz, tl⟩ := t
      simp only [Ty.k, Ty.n, Ty.s] at h2 HB2 HC ⊢
      subst h2
      clear h1
      go_enter Tryd.func67, Tryd.ntmps67
      go_wp2_with fail
      refine (HC.out).mono ?_
      rintro e w1 ⟨rfl, hb1⟩
      have HB1 := Lib.hid (HB2.out.trans (hb1.mono HB2.out.size))
      clear hb1
      go_wp2_with fail
      go_ret2
      exact ⟨rfl, HB1.out⟩
    · rw [if_neg h2]
      obtain ⟨tk, tn, tz, tl⟩ := t
      simp only [Ty.k, Ty.n, Ty.s] at h1 h2 HB2 HC ⊢
      have q1 : (tk == 1) = false := beq_eq_false_iff_ne.2 h1
      have q2 : (tk == 2) = false := beq_eq_false_iff_ne.2 h2
      clear h1 h2
      go_enter Tryd.func67, Tryd.ntmps67
      go_wp2_with fail
      go_ret2
      exact ⟨rfl, HB2.out⟩
/-- constructor, at every depth -/
def ConsAll (w : World) (b : Nat) (a : Option Addr) (N c : Nat) (L : Nat → Option (Nat × List Nat)) (ms : List Mkr) : Prop :=
  ∀ (f : Nat → Ty → List UInt8 × Bool) (dep : Int), 0 ≤ dep → dep ≤ 31 → TellC w b a N c f (dep + 1) → (∀ n t, (f n t).1.length ≤ 20000000) → ConsC w b a N c L ms f dep
theorem show_le (s : Sc w b W h now old R a N ms) (d : Nat) (hd : d ≤ 31) (n : Nat) (t : Ty) : (showF (LN now h W) (TN now h W) ms d n t).1.length ≤ 20000000 := by
  have := showF_len (L := LN now h W) (T := TN now h W) (ms := ms) s.names (fun n s' hs => by
    unfold TN at hs
    split at hs
    · obtain rfl := Option.some.inj hs
      have h1 := getX_len (h := h) (W := W) s.z n
      have h2 := (quoteL_len (getX now h W n).1).2
      omega
    · cases hs) (fun n => by have := Lib.itoa_length_le (toI (n : Int)) (toI_rng (n : Int)).1 (toI_rng (n : Int)).2; omega) d n t
  omega
theorem tell_any (s : Sc w b W h now old R a N ms) (c : Nat) (hcs : ConsAll w b a N c (LN now h W) ms) : ∀ d : Nat, d ≤ 31 → TellC w b a N c (showF (LN now h W) (TN now h W) ms d) (31 - d)
  | 0, _ => fun Y hY n t u hn hu => by
    have := tell_end (w := Y) (b := b) (a := a) (N := N) c n t u
    exact this
  | d + 1, hd => fun Y hY n t u hn hu => by
    have ih := tell_any s c hcs d (by omega)
    have e : (31 : Int) - (d + 1 : Nat) + 1 = 31 - d := by omega
    have hf : TellC w b a N c (showF (LN now h W) (TN now h W) ms d) ((31 : Int) - (d + 1 : Nat) + 1) := by rw [e]; exact ih
    rw [showF]
    have := tell_step (w := Y) (b := b) (a := a) (N := N) c n ((31 : Int) - (d + 1 : Nat)) (by omega) (by omega) t u (tellF (LN now h W) (TN now h W) ms (showF (LN now h W) (TN now h W) ms d) n t)
      (fun Z hZ => tellof_any ((s.below hY).below hZ) c _ (by omega) (by omega) ((hf.at hY).at hZ) (show_le s d (by omega)) (fun Z' hZ' => hcs _ _ (by omega) (by omega) hf (show_le s d (by omega)) Z' ((hY.trans (hZ.mono hY.size)).trans (hZ'.mono (hY.trans (hZ.mono hY.size)).size))) n hn t u (hu.below hZ))
    exact this
end
end Go.Proofs.YtlakfnlkiebpdaaDoor
namespace Go.Proofs.YtlakfnlkiebpdaaDoor
open Go Go.RowKit
section
variable {w : World} {b W h N : Nat} {now old : List Ob} {R : Nat → Value} {a : Option Addr} {ms : List Mkr}
set_option maxRecDepth 100000 in
set_option maxHeartbeats 4000000 in
theorem show_any (s : Sc w b W h now old R a N ms) (c : Nat) (hcs : ConsAll w b a N c (LN now h W) ms) (n : Nat) (hn : n < 18446744073709551616) (t : Ty) (u : Value) (hu : TyV w t.l u) :
    Calls Tryd.prog 33 #[.pointer (some ⟨b, 0, none⟩), .int .u64 (n : Int), tyA t u, .slice a N c] w fun e w' => e = .returned (.string (bst (showS (LN now h W) (TN now h W) ms n t))) ∧ Below w.heap.size w w' := by
  have hb1 := below_one w (.cells #[.int .i64 t.k, .int .i64 t.n, .string t.s, u] 61)
  have HB1 := Lib.hid hb1
  have hc := tell_any s c hcs 30 (by decide) _ hb1 n t u hn (hu.below hb1)
  have hl := show_le s 30 (by decide) n t
  unfold showS
  obtain ⟨r, hr⟩ : ∃ r, showF (LN now h W) (TN now h W) ms 30 n t = r := ⟨_, rfl⟩
  rw [hr] at hc hl ⊢
  obtain ⟨S, pb⟩ := r
  simp only at hc hl ⊢
  rw [show (31 : Int) - (30 : Nat) = 1 from rfl] at hc
  unfold tyA at hc ⊢
  obtain ⟨tk, tn, tz, tl⟩ := t
  simp only [Ty.k, Ty.n, Ty.s] at hc HB1 ⊢
  have HC := Lib.hid hc
  have hsz : (bst S).size ≤ 20000000 := by rw [bst_size]; exact hl
  have hlong : decide ((500 : Int) < ((bst S).size : Int)) = longB S := by
    unfold longB
    rw [bst_size, Bool.eq_iff_iff, decide_eq_true_iff, decide_eq_true_iff]
    omega
  unfold cutS
  clear s hcs hr hb1 hc hu hl
  cases hlg : longB S with
  | true =>
    rw [hlg] at hlong
    rw [if_pos rfl]
    have h5 : (500 : Int) < ((bst S).size : Int) := of_decide_eq_true hlong
    have HG := Lib.hid h5
    clear hlg
    go_enter Tryd.func33, Tryd.ntmps33
    go_wp2_with fail
    refine (HC.out).mono ?_
    rintro e w1 ⟨rfl, hb2⟩
    have HB2 := Lib.hid (HB1.out.trans (hb2.mono HB1.out.size))
    clear hb2
    go_wp2_with fail
    go_ret
    refine ⟨?_, HB2.out⟩
    have he : (bst S).extract 0 500 ++ (⟨#[46, 46, 46]⟩ : ByteArray) = bst (S.take 500 ++ [46, 46, 46]) := ba_of (by rw [ba_cat]; simp [ByteArray.data_extract, bst])
    rw [← he]
    rfl
  | false =>
    rw [hlg] at hlong
    rw [if_neg (by decide)]
    clear hlg
    go_enter Tryd.func33, Tryd.ntmps33
    go_wp2_with fail
    refine (HC.out).mono ?_
    rintro e w1 ⟨rfl, hb2⟩
    have HB2 := Lib.hid (HB1.out.trans (hb2.mono HB1.out.size))
    clear hb2
    go_wp2_with fail
    go_ret
    exact ⟨rfl, HB2.out⟩
end
theorem lightL_stop {d n : Nat} {l : List Ty} (h : 300 < n) : lightL d n l = n := by
  cases l with
  | nil => rw [lightL]
  | cons t l => rw [lightL, if_pos h]
def LightC (m : Nat) : Prop := ∀ (t : Ty), t.size ≤ m → ∀ (d : Nat), d ≤ 41 → ∀ (w : World) (u : Value), TyV w t.l u → Calls Tryd.prog 66 #[tyA t u, .int .i64 (d : Int)] w fun e w' => e = .returned (.int .i64 (lightT d t : Nat)) ∧ Below w.heap.size w w'
set_option maxRecDepth 100000 in
set_option maxHeartbeats 4000000 in
theorem light_node (m : Nat) (ih : LightC m) (k n : Int) (s : ByteArray) (l : List Ty) (hsl : ∀ t ∈ l, t.size ≤ m) (d : Nat) (hd : d ≤ 40) (w : World) (u : Value) (hu : TyV w l u) :
    Calls Tryd.prog 66 #[tyA (.mk k n s l) u, .int .i64 (d : Int)] w fun e w' => e = .returned (.int .i64 (lightL d 1 l : Nat)) ∧ Below w.heap.size w w' := by
  obtain ⟨ua, uc, rfl, huc, hul⟩ := hu.shape
  have hb1 := below_one w (.cells #[.int .i64 k, .int .i64 n, .string s, .slice ua l.length uc] 61)
  have hx := res4 (heap_alloc_new w (.cells #[.int .i64 k, .int .i64 n, .string s, .slice ua l.length uc] 61))
  have HX := Lib.hid hx.2.2.2
  have HB1 := Lib.hid hb1
  have HU := Lib.hid hu
  have HIH := Lib.hid ih
  have HSL := Lib.hid hsl
  have hdd : decide ((40 : Int) < (d : Int)) = false := decide_eq_false (by omega)
  obtain ⟨K, hK⟩ : ∃ K, l.length = K := ⟨_, rfl⟩
  rw [hK] at HX HB1 HU huc hul ⊢
  have HK := Lib.hid hK
  unfold tyA
  simp only [Ty.k, Ty.n, Ty.s]
  clear hb1 hx hu ih hsl hK
  go_enter Tryd.func66, Tryd.ntmps66
  go_wp2_with fail
  go_loopw [6, 5] (fun i nv wr => ∃ (j nn : Nat), j ≤ K ∧ i = .int .i64 j ∧ nv = .int .i64 nn ∧ nn ≤ 14000 ∧ lightL d 1 l = lightL d nn (l.drop j) ∧ Below (w.alloc (.cells #[.int .i64 k, .int .i64 n, .string s, .slice ua K uc] 61)).heap.size (w.alloc (.cells #[.int .i64 k, .int .i64 n, .string s, .slice ua K uc] 61)) wr) (fun i _ _ => K - (intOf i).toNat)
  case atStart => exact ⟨0, 1, Nat.zero_le _, rfl, rfl, by decide, rfl, Below.refl _ _⟩
  case round =>
    obtain ⟨j, nn, hj, rfl, rfl, hnn, hF, hbw⟩ := hrel
    have x3 : wr.cell? ⟨w.heap.size, 3, none⟩ = some (.slice ua K uc) := below_cell hbw HX.out
    have HBW := Lib.hid hbw
    have HWW := Lib.hid (HB1.out.trans (hbw.mono HB1.out.size))
    have HF := Lib.hid hF
    clear hF hbw
    by_cases hlt : j < K
    · have q1 : decide (j < K) = true := decide_eq_true hlt
      by_cases h3 : 300 < nn
      · have q2 : decide ((nn : Int) ≤ 300) = false := decide_eq_false (by omega)
        have HE := Lib.hid (HF.out.trans (lightL_stop h3))
        go_wp2_with fail
        go_ret
        exact ⟨by rw [HE.out]; rfl, HWW.out⟩
      · have q2 : decide ((nn : Int) ≤ 300) = true := decide_eq_true (by omega)
        obtain ⟨t, ht⟩ : ∃ t, l[j]? = some t := ⟨_, List.getElem?_eq_getElem (by have := HK.out; omega)⟩
        obtain ⟨g, off, v, ea, hg, d0, d1, d2, d3, hv⟩ := (HU.out.below HWW.out).get ht
        have hll := lightT_le t (d + 1)
        have hdr : l.drop j = t :: l.drop (j + 1) := by
          obtain ⟨hj2, rfl⟩ := List.getElem?_eq_some_iff.1 ht
          exact List.drop_eq_getElem_cons hj2
        have hst : lightL d nn (l.drop j) = lightL d (nn + lightT (d + 1) t) (l.drop (j + 1)) := by rw [hdr, lightL, if_neg h3]
        have HST := Lib.hid (HF.out.trans hst)
        have hci := HIH.out t (HSL.out t (List.mem_of_getElem? ht)) (d + 1) (by omega) wr v hv
        obtain ⟨z, hz⟩ : ∃ z, lightT (d + 1) t = z := ⟨_, rfl⟩
        rw [hz] at hll hci HST
        unfold tyA at hci
        obtain ⟨k0, n0, z0, l0⟩ := t
        simp only [Ty.k, Ty.n, Ty.s] at d0 d1 d2 hci
        rw [show ((d + 1 : Nat) : Int) = (d : Int) + 1 by omega] at hci
        have HC := Lib.hid hci
        have hz1 : (z : Int) ≤ 13000 := by omega
        have hz2 : nn + z ≤ 14000 := by omega
        subst ea
        clear ht hv hdr hst hci hz h3
        go_wp2_with fail
        refine HC.out.mono ?_
        rintro e w2 ⟨rfl, hb2⟩
        have HB2 := Lib.hid (HBW.out.trans (hb2.mono HBW.out.size))
        clear hb2
        go_wp2_with fail
        go_roundw
        case rel => exact ⟨j + 1, nn + z, hlt, by go_num, by go_num, by omega, HST.out, HB2.out⟩
        case measure => simp [intOf]; omega
    · obtain rfl : j = K := by omega
      have HE := Lib.hid (show lightL d 1 l = nn from by rw [HF.out, List.drop_eq_nil_of_le (by have := HK.out; omega), lightL])
      go_wp2_with fail
      go_ret
      exact ⟨by rw [HE.out]; rfl, HWW.out⟩
set_option maxRecDepth 100000 in
set_option maxHeartbeats 4000000 in
theorem light_deep (k n : Int) (s : ByteArray) (l : List Ty) (w : World) (u : Value) :
    Calls Tryd.prog 66 #[tyA (.mk k n s l) u, .int .i64 41] w fun e w' => e = .returned (.int .i64 1000) ∧ Below w.heap.size w w' := by
  have HB1 := Lib.hid (below_one w (.cells #[.int .i64 k, .int .i64 n, .string s, u] 61))
  unfold tyA
  simp only [Ty.k, Ty.n, Ty.s]
  go_enter Tryd.func66, Tryd.ntmps66
  go_wp2_with fail
  go_ret
  exact ⟨rfl, HB1.out⟩
theorem light_any : ∀ m, LightC m
  | 0 => fun t ht => by have := t.size_eq; omega
  | m + 1 => fun t ht d hd w u hu => by
    obtain ⟨k, n, s, l⟩ := t
    rw [lightT]
    by_cases h : 40 < d
    · obtain rfl : d = 41 := by omega
      rw [if_pos h]; exact light_deep k n s l w u
    · rw [if_neg h]
      have hs := Ty.size_eq (.mk k n s l)
      simp only [Ty.l] at hs
      exact light_node m (light_any m) k n s l (fun t ht2 => by have := size_mem ht2; omega) d (by omega) w u hu
end Go.Proofs.YtlakfnlkiebpdaaDoor
namespace Go.Proofs.YtlakfnlkiebpdaaDoor
open Go Go.RowKit
theorem fewN_stop {n : Nat} {l : List Mkr} (h : 300 < n) : fewN n l = n := by
  cases l with
  | nil => rw [fewN]
  | cons k l => rw [fewN, if_pos h]
theorem pb6 {a b c d e f : Prop} (q : a ∧ b ∧ c ∧ d ∧ e ∧ f) : f := q.2.2.2.2.2
theorem div10 (n : Nat) : ((n : Int).tdiv 10) = ((n / 10 : Nat) : Int) := by
  rw [Int.tdiv_eq_ediv_of_nonneg (by omega)]; omega
set_option maxRecDepth 100000 in
set_option maxHeartbeats 4000000 in
theorem few_any {w : World} {a : Option Addr} {N c : Nat} {ms : List Mkr} (hk : MksV w a N ms) (t : Ty) (u : Value) (hu : TyV w t.l u) :
    Calls Tryd.prog 32 #[tyA t u, .slice a N c] w fun e w' => e = .returned (.bool (fewB t ms)) ∧ Below w.heap.size w w' := by
  have hb1 := below_one w (.cells #[.int .i64 t.k, .int .i64 t.n, .string t.s, u] 61)
  have HB1 := Lib.hid hb1
  have hc := light_any t.size t (Nat.le_refl _) 0 (by decide) _ u (hu.below hb1)
  have hl0 := lightT_le t 0
  unfold fewB
  obtain ⟨z, hz⟩ : ∃ z, lightT 0 t = z := ⟨_, rfl⟩
  rw [hz] at hc hl0 ⊢
  unfold tyA at hc ⊢
  obtain ⟨tk, tn, tz, tl⟩ := t
  simp only [Ty.k, Ty.n, Ty.s] at hc HB1 ⊢
  have HC := Lib.hid hc
  have HK := Lib.hid hk
  have hN := hk.few
  have HLN := Lib.hid hk.len
  have HLC := Lib.hid (fun (m : Ty) (Y : World) (v : Value) (hv : TyV Y m.l v) => show Calls Tryd.prog 66 #[tyA m v, .int .i64 0] Y _ from light_any m.size m (Nat.le_refl _) 0 (by decide) Y v hv)
  clear hb1 hc hz hu hk
  go_enter Tryd.func32, Tryd.ntmps32
  go_wp2_with fail
  refine (HC.out).mono ?_
  rintro e w1 ⟨rfl, hb1⟩
  have HB2 := Lib.hid (HB1.out.trans (hb1.mono HB1.out.size))
  clear hb1
  go_wp2_with fail
  go_loopw [6, 5] (fun i nv wr => ∃ (j : Nat) (nn : Nat), j ≤ N ∧ i = .int .i64 j ∧ nv = .int .i64 nn ∧ nn ≤ 1000000000000000000 ∧ fewN z ms = fewN nn (ms.drop j) ∧ Below w.heap.size w wr) (fun i _ _ => N - (intOf i).toNat)
  case atStart => exact ⟨0, z, Nat.zero_le _, rfl, rfl, by omega, rfl, HB2.out⟩
  case round =>
    obtain ⟨j, nn, hj, rfl, rfl, hnn, hF, hbw⟩ := hrel
    have HBW := Lib.hid hbw
    have HF := Lib.hid hF
    clear hF hbw
    by_cases hlt : j < N
    · have q1 : decide (j < N) = true := decide_eq_true hlt
      by_cases h3 : 300 < nn
      · have q2 : decide ((nn : Int) ≤ 300) = false := decide_eq_false (by omega)
        have HE := Lib.hid (show decide (fewN z ms ≤ 300) = false from decide_eq_false (by rw [HF.out, fewN_stop h3]; omega))
        clear h3
        go_wp2_with fail
        go_ret
        exact ⟨by rw [HE.out]; rfl, HBW.out⟩
      · have q2 : decide ((nn : Int) ≤ 300) = true := decide_eq_true (by omega)
        obtain ⟨m, hm⟩ := HK.out.cap hlt
        obtain ⟨g, off, ua, ut, ea, hg, dw, hva, _, hns⟩ := HK.out.cell j m hm
        have e0 : wr.cell? ⟨g, off + j * 12, none⟩ = some (.string m.name) := (World.cell?_of_block (HBW.out.block g hg)).trans (dw 0 (by decide))
        have e4 : wr.cell? ⟨g, off + j * 12 + 4, none⟩ = some (.int .i64 m.arg.k) := (World.cell?_of_block (HBW.out.block g hg)).trans (dw 4 (by decide))
        have e5 : wr.cell? ⟨g, off + j * 12 + 5, none⟩ = some (.int .i64 m.arg.n) := (World.cell?_of_block (HBW.out.block g hg)).trans (dw 5 (by decide))
        have e6 : wr.cell? ⟨g, off + j * 12 + 6, none⟩ = some (.string m.arg.s) := (World.cell?_of_block (HBW.out.block g hg)).trans (dw 6 (by decide))
        have e7 : wr.cell? ⟨g, off + j * 12 + 7, none⟩ = some ua := (World.cell?_of_block (HBW.out.block g hg)).trans (dw 7 (by decide))
        have hll := lightT_le m.arg 0
        have hdr : ms.drop j = m :: ms.drop (j + 1) := by
          obtain ⟨hj2, rfl⟩ := List.getElem?_eq_some_iff.1 hm
          exact List.drop_eq_getElem_cons hj2
        have hst : fewN nn (ms.drop j) = fewN (nn + 1 + lightT 0 m.arg + m.name.size / 10) (ms.drop (j + 1)) := by rw [hdr, fewN, if_neg h3]
        have HST := Lib.hid (HF.out.trans hst)
        have hcl := fun Y (hY : Below wr.heap.size wr Y) => HLC.out m.arg Y ua ((hva.below HBW.out).below hY)
        obtain ⟨x, hx⟩ : ∃ x, lightT 0 m.arg = x := ⟨_, rfl⟩
        rw [hx] at hll hcl HST
        unfold tyA at hcl
        obtain ⟨nm, tg, hs, vs, ⟨ak, an, az, al⟩, ty⟩ := m
        simp only [Ty.k, Ty.n, Ty.s] at e0 e4 e5 e6 e7 hcl HST hns
        obtain ⟨q, hq⟩ : ∃ q, nm.size / 10 = q := ⟨_, rfl⟩
        rw [hq] at HST
        have hqb : q ≤ 922337203685477580 := by omega
        have hdv : ((nm.size : Int)).tdiv 10 = (q : Int) := by rw [div10, hq]
        have hv0 : IntKind.i64.wrap (q : Int) = (q : Int) := by rw [IntKind.wrap_i64]; omega
        have hv1 : IntKind.i64.wrap ((nn : Int) + 1) = (nn : Int) + 1 := by rw [IntKind.wrap_i64]; omega
        have hv2 : IntKind.i64.wrap ((nn : Int) + 1 + (x : Int)) = (nn : Int) + 1 + (x : Int) := by rw [IntKind.wrap_i64]; omega
        have hv3 : IntKind.i64.wrap ((nn : Int) + 1 + (x : Int) + (q : Int)) = (nn : Int) + 1 + (x : Int) + (q : Int) := by rw [IntKind.wrap_i64]; omega
        have hfin : nn + 1 + x + q ≤ 1000000000000000000 := by omega
        have HS := Lib.hid (fun Y (hY : Below wr.heap.size wr Y) => And.intro (below_cell hY e0) (And.intro (below_cell hY e4) (And.intro (below_cell hY e5) (And.intro (below_cell hY e6) (And.intro (below_cell hY e7) hY)))))
        have hd := HS.out wr (Below.refl _ _)
        have HC2 := Lib.hid (fun (Y : World) (hY : Below wr.heap.size wr Y) => (hcl Y hY).mono fun e w' ⟨h1, h2⟩ => (⟨h1, hY.trans (h2.mono hY.size)⟩ : e = Ending.returned (.int .i64 (x : Int)) ∧ Below wr.heap.size wr w'))
        subst ea
        clear hcl hst hdr hva dw hm hx hll hns hq
        go_wp2_with fail
        go_region_held3 (fun Y => Y.cell? ⟨g, off + j * 12, none⟩ = some (.string nm) ∧ Y.cell? ⟨g, off + j * 12 + 4, none⟩ = some (.int .i64 ak) ∧ Y.cell? ⟨g, off + j * 12 + 5, none⟩ = some (.int .i64 an) ∧ Y.cell? ⟨g, off + j * 12 + 6, none⟩ = some (.string az) ∧ Y.cell? ⟨g, off + j * 12 + 7, none⟩ = some ua ∧ Below wr.heap.size wr Y)
          (first | (with_reducible assumption) | (with_reducible exact HS.out _ (Below.drew (Below.refl _ _))) | (with_reducible exact HS.out _ (by with_reducible assumption)))
          (first | (go_at_call 66; (with_reducible refine (HC2.out _ (pb6 (by with_reducible assumption))).mono ?_); rintro e w' ⟨rfl, hww⟩))
        have HW := Lib.hid (HBW.out.trans (hww.mono HBW.out.size))
        clear hww hd hv0 hv1 hv2 hv3 hdv
        go_wp2_with fail
        go_roundw
        case rel => exact ⟨j + 1, nn + 1 + x + q, hlt, by go_num, by go_num, hfin, HST.out, HW.out⟩
        case measure => simp [intOf]; omega
    · obtain rfl : j = N := by omega
      have hE : fewN z ms = nn := by rw [HF.out, List.drop_eq_nil_of_le (by have := HLN.out; omega), fewN]
      have hd : decide ((nn : Int) ≤ 300) = decide (fewN z ms ≤ 300) := by rw [hE, Bool.eq_iff_iff, decide_eq_true_iff, decide_eq_true_iff]; omega
      obtain ⟨B, hB⟩ : ∃ B, decide (fewN z ms ≤ 300) = B := ⟨_, rfl⟩
      rw [hB] at hd
      have HE := Lib.hid hB
      clear hE hB
      go_wp2_with fail
      go_ret
      exact ⟨by rw [HE.out]; rfl, HBW.out⟩
end Go.Proofs.YtlakfnlkiebpdaaDoor
