/- The contract of the document's GetText; GetText of both as one answer. Condition: the memory lies as RW says; its objects have at most a thousand words. -/
import Derived.Deep.RegionHeld3
import Derived.Test.YtlakfnlkiebpdaaDoorRtsRG
namespace Go.Proofs.YtlakfnlkiebpdaaDoor
open Go Go.RowKit
instance (zs : List Nat) (n : Nat) : Decidable (NumL.UOk zs n) := by unfold NumL.UOk; infer_instance
def getOb (o : Ob) : List UInt8 × Nat := if o.k ≠ 4 then ([], 50) else if NumL.UOk o.ws.tail (o.ws.headD 0) then (NumL.bytesOf o.ws.tail (o.ws.headD 0), 0) else ([], 50)
def getX (os : List Ob) (h W n : Nat) : List UInt8 × Nat := match idxAt os h W (toP (n : Int)) with
  | none => ([], 40)
  | some j => getOb (obN os j)
theorem ok_words {o : Ob} {W h : Nat} {now old : List Ob} (z : WF W h now old) (ho : o ∈ now) (hk : o.k = 4) : ∃ a ws, o.ws = a :: ws ∧ ws.length ≤ 16383 := by
  have hr := (z.okn o ho).right
  unfold rightB at hr
  have hr := of_decide_eq_true hr
  cases hws : o.ws with
  | nil => rw [hws] at hr; simp at hr; omega
  | cons a ws =>
    rw [hws] at hr
    simp at hr
    exact ⟨a, ws, rfl, by omega⟩
section
variable {w : World} {b W h : Nat} {now old : List Ob} {R : Nat → Value}
theorem gettext_any (m : Mem w b W h R now old) (z : WF W h now old) (n : Nat) (hn : n < 18446744073709551616) :
    Calls Tryd.prog 24 #[.pointer (some ⟨b, 0, none⟩), .int .u64 (n : Int)] w fun e w' => e = .returned (.tuple #[.string ⟨(getX now h W n).1.toArray⟩, .int .i64 ((getX now h W n).2 : Nat)]) ∧ Below w.heap.size w w' := by
  unfold getX
  cases hi : idxAt now h W (toP (n : Int)) with
  | none => exact gettext_miss m z n hn hi
  | some j =>
    have ho := idx_ob hi
    simp only
    unfold getOb
    by_cases hk : (obN now j).k ≠ 4
    · rw [if_pos hk]; exact gettext_kind m z n hn hi ho hk
    · rw [if_neg hk]
      have hk : (obN now j).k = 4 := Classical.not_not.1 hk
      obtain ⟨a, ws, hws, hl⟩ := ok_words z (List.mem_of_getElem? ho) hk
      rw [hws, List.tail_cons, List.headD_cons]
      by_cases ha : 131064 < a
      · rw [if_neg (fun q => by have := q.1; unfold NumL.nWords at this; omega)]
        exact gettext_long m z n hn hi ho hk (by rw [hws]; exact ha)
      · refine (gettext_hit m z n hn hi ho hk hws (by omega)).mono fun e w' ⟨h1, h2⟩ => ⟨?_, h2⟩
        rcases h1 with ⟨h1, h3⟩ | ⟨h1, h3⟩
        · rw [if_pos h1]; exact h3
        · rw [if_neg h1]; exact h3
end
theorem pb9 {A B C : Prop} (h : A ∧ B ∧ C) : C := h.2.2
theorem cutW (g L c : Nat) (h : 1 ≤ L) (hc : L ≤ c) : ∃ q : Nat, (∀ W, (Instr.sliceAt 43 (.slice (some ⟨g, 0, none⟩) L c) (some (.int .i64 1)) none none).run Tryd.prog W = .ok (.slice (some ⟨g, q, none⟩) (L - 1) (c - 1)) W) ∧ (1 < L → q = 1) := by
  refine ⟨if c = 1 then 0 else 1, fun W => ?_, fun h1 => if_neg (by omega)⟩
  have hs : (sizeOf 33).run Tryd.prog W = .ok 1 W := by kernel_rfl
  have he : Tryd.prog.elem 43 = 33 := by kernel_rfl
  have h1 := run_sliceAt_slice (P := Tryd.prog) (w := W) 43 (.slice (some ⟨g, 0, none⟩) L c) (some (.int .i64 1)) none none (by rw [he]; exact Tryd.underlying43)
  have h2 := run_slice_l (P := Tryd.prog) (w := W) 43 (some ⟨g, 0, none⟩) L c (by rw [he]; exact Tryd.underlying43) .i64 1 (by omega) (by omega)
  rw [h1, h2, he, hs]
  by_cases hc1 : c = 1
  · simp [sliced, hc1]
  · simp [sliced, hc1, Addr.add]
theorem wb_tail {w W1 : World} {g L c q a : Nat} {ws : List Nat} (ho : w.ownsRow 0 33 1 (.slice (some ⟨g, 0, none⟩) L c) L (u64s (a :: ws))) (hl : ws.length + 1 = L) (hq : 1 < L → q = 1) (hb : Below w.heap.size w W1) : NumL.Words W1.heap.size W1 (.slice (some ⟨g, q, none⟩) (L - 1) (c - 1)) ws := by
  obtain ⟨_, cap, _, hle, _⟩ := own_shape5 ho
  have hg : g < w.heap.size := (ho.lt g rfl).2
  have hcap : L ≤ c := by
    rcases ho.2 with ⟨h0, _⟩ | ⟨g', cap', cur, h0, _, _, h1, _⟩
    · cases h0
    · injection h0 with _ _ h0; omega
  refine .inr ⟨g, q, c - 1, by rw [show ws.length = L - 1 by omega], by have := hb.size; omega, by omega, fun j hj => ?_⟩
  rw [hb.cell (p := ⟨g, q + j, none⟩) hg, hq (by omega), show 1 + j = j + 1 by omega, ho.cellAt (j + 1) (by omega)]
  unfold u64s
  rw [List.getElem?_map, List.getElem?_cons_succ, List.getElem?_eq_getElem hj]
  simp [List.getD_eq_getElem?_getD, List.getElem?_eq_getElem hj]
section
variable {w0 w : World} {b W : Nat} {os : List Ob} {v : Value} {P : List (RO × Value)}
set_option maxRecDepth 100000 in
set_option maxHeartbeats 8000000 in
theorem refgettext_any (x : RW w0 b W os w v P) (hos : ∀ o ∈ os, o.ws.length ≤ 1000) (n : Nat) (hn : n < 18446744073709551616) :
    Calls Tryd.prog 29 #[.pointer (some ⟨b, 0, none⟩), .int .u64 (n : Int)] w fun e w' => e = .returned (.tuple #[.string ⟨(getX os 0 W n).1.toArray⟩, .int .i64 ((getX os 0 W n).2 : Nat)]) ∧ Below w.heap.size w w' := by
  unfold getX
  cases hi : idxAt os 0 W (toP (n : Int)) with
  | none =>
    have HO := Lib.hid (refobj_miss x n hn hi)
    clear x hi
    unfold roNil at HO
    go_enter Tryd.func29, Tryd.ntmps29
    go_wp2_with fail
    refine (HO.out).mono ?_
    rintro e w1 ⟨rfl, hb1⟩
    have HB1 := Lib.hid hb1
    clear hb1
    go_wp2_with fail
    go_ret2
    exact ⟨rfl, HB1.out.alloc HB1.out.size _⟩
  | some j =>
    have ho := idx_ob hi
    obtain ⟨u, hp⟩ := P_get x.e ho
    have HO := Lib.hid (refobj_hit x n hn hi hp)
    have hwsr := x.r.l1.ws _ (List.mem_of_getElem? hp)
    have hol := hos _ (List.mem_of_getElem? ho)
    have hwd := (x.z.okn _ (List.mem_of_getElem? ho)).word
    have hkw := ok_words x.z (List.mem_of_getElem? ho)
    simp only
    obtain ⟨o, hoo⟩ : ∃ o, obN os j = o := ⟨_, rfl⟩
    rw [hoo] at HO hwsr hol hwd hkw ⊢
    have hro : ∃ A : Int, ∃ T : Int, roVal (roOf (objA 0 W os j) o, u) = .agg #[.int .i64 A, .int .i64 (o.k : Int), .int .i64 T, u, .int .i64 o.to] := ⟨_, _, rfl⟩
    obtain ⟨A, T, hro⟩ := hro
    rw [hro] at HO
    have hwsr : w.ownsRow 0 33 1 u o.ws.length (u64s o.ws) := hwsr
    clear x hi hro hp ho hoo
    unfold getOb
    by_cases hk : o.k ≠ 4
    · rw [if_pos hk]
      have hd : ((o.k : Int) != 4) = true := by simp; omega
      obtain ⟨K, hK⟩ : ∃ K : Int, (o.k : Int) = K := ⟨_, rfl⟩
      rw [hK] at HO hd
      obtain ⟨X, hX⟩ : ∃ X : Int, o.to = X := ⟨_, rfl⟩
      rw [hX] at HO
      obtain ⟨ua, uc, rfl, _, _⟩ := own_shape5 hwsr
      obtain ⟨L, hL⟩ : ∃ L, o.ws.length = L := ⟨_, rfl⟩
      rw [hL] at HO
      clear hk hK hX hwsr hol hwd hkw hL
      go_enter Tryd.func29, Tryd.ntmps29
      go_wp2_with fail
      refine (HO.out).mono ?_
      rintro e w1 ⟨rfl, hb1⟩
      have HB1 := Lib.hid hb1
      clear hb1
      go_wp2_with fail
      go_quiet (fail)
      go_wp2_with fail
      go_ret2
      exact ⟨rfl, Below.drewN' (HB1.out.alloc HB1.out.size _) _⟩
    · rw [if_neg hk]
      have hk : o.k = 4 := Classical.not_not.1 hk
      obtain ⟨a, ws, hws, _⟩ := hkw hk
      rw [hws] at hwsr hol hwd ⊢
      rw [hk] at HO
      obtain ⟨X, hX⟩ : ∃ X : Int, o.to = X := ⟨_, rfl⟩
      rw [hX] at HO
      obtain ⟨g, c, rfl, hLc, hc, hcl, _⟩ := word_at hwsr (i := 0) (by simp)
      rw [List.tail_cons, List.headD_cons]
      rw [List.getD_cons_zero] at hcl
      have ha64 := hwd a List.mem_cons_self
      have hwd' : ∀ z ∈ ws, z < 18446744073709551616 := fun z hz => hwd z (List.mem_cons_of_mem _ hz)
      obtain ⟨L, hL⟩ : ∃ L, (a :: ws).length = L := ⟨_, rfl⟩
      rw [hL] at hwsr hol HO hLc
      have hL1 : 1 ≤ L := by rw [← hL]; simp
      have hLw : ws.length + 1 = L := by rw [← hL]; simp
      obtain ⟨q, hcut, hq⟩ := cutW g L c hL1 hLc
      have HQ := Lib.hid hq
      have HR := Lib.hid hwsr
      have HWD := Lib.hid hwd'
      have HLW := Lib.hid hLw
      have hg : g < w.heap.size := (hwsr.lt g rfl).2
      have hcl0 : ∀ W1, Below w.heap.size w W1 → W1.cell? ⟨g, 0, none⟩ = some (.int .u64 (a : Int)) := fun W1 hb => (hb.cell (p := ⟨g, 0, none⟩) hg).trans hcl
      have HC := Lib.hid hcl0
      have hw8 : IntKind.u64.wrap (8 * (L : Int)) = 8 * (L : Int) := by rw [IntKind.wrap_u64]; omega
      have hw8i : IntKind.i64.wrap (8 * (L : Int)) = 8 * (L : Int) := by rw [IntKind.wrap_i64]; omega
      have HCUT := Lib.hid hcut
      clear hwsr hwd hwd' hkw hq hL hLw hX hws hk hcl hcl0 hcut
      by_cases hbig : 8 * L < a
      · rw [if_neg (fun q => by have := q.1; have h2 := HLW.out; unfold NumL.nWords at this; omega)]
        have hd : decide (8 * (L : Int) < (a : Int)) = true := decide_eq_true (by omega)
        go_enter Tryd.func29, Tryd.ntmps29
        go_wp2_with fail
        refine (HO.out).mono ?_
        rintro e w1 ⟨rfl, hb1⟩
        have HB1 := Lib.hid hb1
        have c0 := HC.out _ (hb1.alloc hb1.size (.cells #[.int .i64 A, .int .i64 4, .int .i64 T, .slice (some ⟨g, 0, none⟩) L c, .int .i64 X] 91))
        clear hb1
        go_wp2_with fail
        go_quiet (fail)
        go_wp2_with fail
        go_ret2
        exact ⟨rfl, Below.drewN' (HB1.out.alloc HB1.out.size _) _⟩
      · have hd : decide (8 * (L : Int) < (a : Int)) = false := decide_eq_false (by omega)
        have hLi : 0 < L := by omega
        have hwa : IntKind.i64.wrap (a : Int) = (a : Int) := by rw [IntKind.wrap_i64]; omega
        have hun : ∃ (so : List UInt8) (eo : Nat) (RS : List UInt8) (RE : Nat), (if NumL.UOk ws a then (NumL.bytesOf ws a, 0) else ([], 50)) = (RS, RE) ∧ (eo = 0 ∧ RS = so ∧ RE = 0 ∨ eo = 1 ∧ RS = [] ∧ RE = 50) ∧ ∀ W1 : World, Below w.heap.size w W1 → Calls Tryd.prog 62 #[.slice (some ⟨g, q, none⟩) (L - 1) (c - 1), .int .i64 (a : Int)] W1 fun e w' => e = .returned (.tuple #[.string ⟨so.toArray⟩, .int .i64 (eo : Int)]) ∧ Below W1.heap.size W1 w' := by
          have hcall := fun (W1 : World) (hb : Below w.heap.size w W1) => NumL.refunpack_any (.slice (some ⟨g, q, none⟩) (L - 1) (c - 1)) ws (a : Int) (by have := HLW.out; omega) (by omega) HWD.out W1 (wb_tail HR.out HLW.out HQ.out hb)
          by_cases hu : NumL.UOk ws a
          · refine ⟨NumL.bytesOf ws a, 0, NumL.bytesOf ws a, 0, by rw [if_pos hu], .inl ⟨rfl, rfl, rfl⟩, fun W1 hb => (hcall W1 hb).mono fun e w' ⟨h1, h2⟩ => ⟨?_, h2⟩⟩
            rcases h1 with ⟨_, _, h1⟩ | ⟨h1, _⟩
            · rw [h1]; rfl
            · exact absurd ⟨by omega, by simpa using hu⟩ h1
          · refine ⟨[], 1, [], 50, by rw [if_neg hu], .inr ⟨rfl, rfl, rfl⟩, fun W1 hb => (hcall W1 hb).mono fun e w' ⟨h1, h2⟩ => ⟨?_, h2⟩⟩
            rcases h1 with ⟨_, h1, _⟩ | ⟨_, h1⟩
            · exact absurd (by simpa using h1) hu
            · exact h1
        obtain ⟨so, eo, RS, RE, hres, heo, hun⟩ := hun
        rw [hres]
        have HUN := Lib.hid hun
        have HEO := Lib.hid heo
        clear hun heo hres
        go_enter Tryd.func29, Tryd.ntmps29
        go_wp2_with fail
        refine (HO.out).mono ?_
        rintro e w1 ⟨rfl, hb1⟩
        have HB1 := Lib.hid hb1
        have hbx : Below w.heap.size w (w1.alloc (.cells #[.int .i64 A, .int .i64 4, .int .i64 T, .slice (some ⟨g, 0, none⟩) L c, .int .i64 X] 91)) := hb1.alloc hb1.size _
        have HBX := Lib.hid hbx
        have c0 := HC.out _ hbx
        have hblk := heap_alloc_new w1 (.cells #[.int .i64 A, .int .i64 4, .int .i64 T, .slice (some ⟨g, 0, none⟩) L c, .int .i64 X] 91)
        have HBK := Lib.hid hblk
        clear hb1 hbx hblk
        go_wp2_with fail
        go_quiet (fail)
        go_wp2_with fail
        clear c0
        obtain ⟨W2, hW2⟩ : ∃ W2, (w1.alloc (.cells #[.int .i64 A, .int .i64 4, .int .i64 T, .slice (some ⟨g, 0, none⟩) L c, .int .i64 X] 91)).drewN nq = W2 := ⟨_, rfl⟩
        have hb2 : Below w.heap.size w W2 := by rw [← hW2]; exact Below.drewN' HBX.out nq
        have hk2 : W2.heap[w1.heap.size]? = some (.cells #[.int .i64 A, .int .i64 4, .int .i64 T, .slice (some ⟨g, 0, none⟩) L c, .int .i64 X] 91 (0, 0)) := by rw [← hW2]; exact HBK.out
        rw [hW2]
        have HS := Lib.hid (show ∀ Y, Below W2.heap.size W2 Y → Y.cell? ⟨w1.heap.size, 3, none⟩ = some (.slice (some ⟨g, 0, none⟩) L c) ∧ Y.cell? ⟨g, 0, none⟩ = some (.int .u64 (a : Int)) ∧ Below W2.heap.size W2 Y from fun Y hY => ⟨(hY.cell (p := ⟨w1.heap.size, 3, none⟩) (Array.getElem?_eq_some_iff.1 hk2).1).trans (blk_cell hk2 3), HC.out _ (hb2.trans (hY.mono hb2.size)), hY⟩)
        have hd0 := HS.out W2 (Below.refl _ _)
        have HB2 := Lib.hid hb2
        have hcut := HCUT.out
        have HUN2 := Lib.hid (fun (Y : World) (hY : Below W2.heap.size W2 Y) => (HUN.out Y (HB2.out.trans (hY.mono HB2.out.size))).mono fun e w' ⟨h1, h2⟩ => (⟨h1, hY.trans (h2.mono hY.size)⟩ : e = Ending.returned (.tuple #[.string ⟨so.toArray⟩, .int .i64 (eo : Int)]) ∧ Below W2.heap.size W2 w'))
        clear hb2 hk2 hW2
        go_region_held3 (fun Y => Y.cell? ⟨w1.heap.size, 3, none⟩ = some (.slice (some ⟨g, 0, none⟩) L c) ∧ Y.cell? ⟨g, 0, none⟩ = some (.int .u64 (a : Int)) ∧ Below W2.heap.size W2 Y)
          (first | (with_reducible assumption) | (with_reducible exact HS.out _ (Below.drew (Below.refl _ _))) | (with_reducible exact HS.out _ (by with_reducible assumption)))
          (first | (go_at_call 62; (with_reducible refine (HUN2.out _ (pb9 (by with_reducible assumption))).mono ?_); rintro e w' ⟨rfl, hww⟩))
        all_goals
          have HWW := Lib.hid (HB2.out.trans (hww.mono HB2.out.size))
          clear hww
          have hne : ((eo : Int) != 0) = true ∨ ((eo : Int) != 0) = false := by cases ((eo : Int) != 0) <;> simp
          rcases hne with hne | hne
          · have HNE := Lib.hid hne
            go_wp2_with fail
            go_ret2
            rcases HEO.out with ⟨h0, h1, h2⟩ | ⟨h0, h1, h2⟩
            · have := HNE.out; rw [h0] at this; simp at this
            · exact ⟨by rw [h1, h2]; rfl, HWW.out⟩
          · have HNE := Lib.hid hne
            go_wp2_with fail
            go_ret2
            rcases HEO.out with ⟨h0, h1, h2⟩ | ⟨h0, h1, h2⟩
            · exact ⟨by rw [h1, h2]; rfl, HWW.out⟩
            · have := HNE.out; rw [h0] at this; simp at this
end
end Go.Proofs.YtlakfnlkiebpdaaDoor
