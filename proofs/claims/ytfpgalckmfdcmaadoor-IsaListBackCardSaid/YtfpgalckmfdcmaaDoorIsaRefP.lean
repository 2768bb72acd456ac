/- The reference's Parse of any text. Conditions: the text is no longer than 100000 bytes. -/
import Derived.Test.YtfpgalckmfdcmaaDoorIsaParse
import Derived.Test.YtfpgalckmfdcmaaDoorIsaTxtQ
import Derived.Test.YtfpgalckmfdcmaaDoorIsaTxtR
import Derived.Test.YtfpgalckmfdcmaaDoorIsaLineC
namespace Go.Proofs.YtfpgalckmfdcmaaDoor
open Go Go.RowKit
theorem cat_one (a : List UInt8) (c : UInt8) : (⟨a.toArray⟩ : ByteArray) ++ ⟨#[c]⟩ = ⟨(a ++ [c]).toArray⟩ := by
  apply ByteArray.ext
  apply Array.ext'
  simp [ByteArray.data_append]
theorem byte_back (c : UInt8) : UInt8.ofNat ((c.toNat : Int)).toNat = c := by simp
/-- what the search of Parse keeps: the words, the table, the zero answer -/
structure RQ (w W : World) (B tb wb : Nat) (L : List UInt8) : Prop where
  base : Below w.heap.size w W
  zero : W.heap[w.heap.size]? = some (.cells #[.int .i64 0, .int .i64 0, .int .i64 0, .int .i64 0, .int .i64 0] 23 (0, 0))
  tab : W.heap[tb]? = some (.cells tabCells.toArray 60 (0, 0))
  wd : ∀ t l, (splitS L)[t]? = some l → W.cell? ⟨wb, t, none⟩ = some (.string ⟨l.toArray⟩)
  lo : w.heap.size < B
  hi : B ≤ W.heap.size
  tlt : tb < B
  wlt : wb < B
theorem addr_at (g t : Nat) : (⟨g, 0, none⟩ : Addr).add t = ⟨g, t, none⟩ := by
  unfold Addr.add
  split
  · rename_i h; rw [h]
  · simp
theorem form_at {k m : Nat} {F : ByteArray} (hF : bs (rowOf k).2.1 = F) (hm : m < F.size) : ((rowOf k).2.1.getD m 0).toNat = (F[m]'hm).toNat := by
  subst hF
  have h : m < (rowOf k).2.1.length := by simpa [bs, ByteArray.size] using hm
  rw [List.getD_eq_getElem?_getD, List.getElem?_eq_getElem h]
  rfl
theorem deR_r (l : List UInt8) : deR (114 :: l) = l := by simp [deR]
theorem deR_o {x : UInt8} (l : List UInt8) (h : x ≠ 114) : deR (x :: l) = x :: l := by simp [deR, h]
theorem text_ne {L : List UInt8} {nm : List UInt8} {k : Nat} (h0 : (splitS L)[0]? = some nm) (hn : (rowOf k).1 = nm) (hk0 : 1 ≤ k) (hk : k < 37) : L ≠ [] := by
  rintro rfl
  simp [splitS] at h0
  exact name_ne k hk hk0 (by first | exact hn.trans h0.symm | exact hn.trans h0)
theorem blk_lt {W : World} {B : Nat} {o : Obj} (h : W.heap[B]? = some o) : B < W.heap.size := (Array.getElem?_eq_some_iff.1 h).1
theorem RQ.below {w W W2 : World} {B tb wb : Nat} {L : List UInt8} (h : RQ w W B tb wb L) (hb : Below B W W2) : RQ w W2 B tb wb L :=
  ⟨h.base.trans (hb.mono (Nat.le_of_lt h.lo)), (hb.block _ h.lo).trans h.zero, (hb.block _ h.tlt).trans h.tab, fun t l q => (hb.cell (p := ⟨wb, t, none⟩) h.wlt).trans (h.wd t l q), h.lo, Nat.le_trans h.hi hb.size, h.tlt, h.wlt⟩
theorem RQ.drewN {w W : World} {B tb wb : Nat} {L : List UInt8} (h : RQ w W B tb wb L) (n : Nat) : RQ w (W.drewN n) B tb wb L := ⟨⟨h.base.os, h.base.tape, h.base.output, h.base.size, h.base.block⟩, h.zero, h.tab, h.wd, h.lo, h.hi, h.tlt, h.wlt⟩
theorem RQ.name {w W : World} {B tb wb : Nat} {L : List UInt8} (h : RQ w W B tb wb L) {k : Nat} (hk : k < 37) : W.cell? ⟨tb, k * 4, none⟩ = some (.string (bs (rowOf k).1)) ∧ W.cell? ⟨tb, k * 4 + 1, none⟩ = some (.string (bs (rowOf k).2.1)) :=
  ⟨(blk_cell5 h.tab (k * 4)).trans (by rw [List.getElem?_toArray]; exact tab_0 k hk), (blk_cell5 h.tab (k * 4 + 1)).trans (by rw [List.getElem?_toArray]; exact tab_1 k hk)⟩
set_option maxRecDepth 100000 in
set_option maxHeartbeats 4000000 in
theorem refpar_any (s : ByteArray) (hs : s.size ≤ 100000) (w : World) :
    Calls Tryd.prog 10 #[.string s] w (ParsedTo s.data.toList w) := by
  obtain ⟨i0, hi, hz0, hz1, hz2⟩ := info_parts infoStr
  obtain ⟨L, hL⟩ : ∃ L, s.data.toList = L := ⟨_, rfl⟩
  have hLs : L.length = s.size := by rw [← hL, Array.length_toList]; rfl
  rw [hL]
  have HL := Lib.hid hL
  have HLS := Lib.hid hLs
  clear hL hLs
  go_enter Tryd.func10, Tryd.ntmps10
  go_wp2_with fail
  obtain ⟨w1, hw1⟩ : ∃ w1, w.alloc (.cells #[.int .i64 0, .int .i64 0, .int .i64 0, .int .i64 0, .int .i64 0] 23) = w1 := ⟨_, rfl⟩
  have hz1' := heap_alloc_new w (.cells #[.int .i64 0, .int .i64 0, .int .i64 0, .int .i64 0, .int .i64 0] 23)
  have hb1 : Below w.heap.size w w1 := by rw [← hw1]; exact (Below.refl _ w).alloc (Nat.le_refl _) _
  have hs1 : w.heap.size < w1.heap.size := by rw [← hw1]; simp
  rw [hw1] at hz1' ⊢
  have HZ := Lib.hid hz1'
  have HB1 := Lib.hid hb1
  clear hw1 hz1' hb1
  go_loopw [4, 5, 6] (fun l cw i wr => ∃ (k : Nat) (P : List (List UInt8)) (cur : List UInt8), WS L k P cur ∧ i = .int .i64 k ∧ cw = .string ⟨cur.toArray⟩ ∧ wr.ownsRow w1.heap.size 9 1 l P.length (P.map lineV) ∧ Below w1.heap.size w1 wr) (fun _ _ i _ => s.size - (intOf i).toNat)
  case atStart => exact ⟨0, [], [], WS.init _, rfl, rfl, World.ownsRow_nil _ _ _ _, Below.refl _ _⟩
  case round =>
    obtain ⟨k, P, cur, hp, rfl, rfl, hown, hb⟩ := hrel
    have hkl : k ≤ s.size := by rw [← HLS.out]; exact hp.kl
    have hpk := hp.pk
    have hc30 := hp.cur30
    have HP := Lib.hid hp
    have HO := Lib.hid hown
    have HB := Lib.hid hb
    have hsz := hb.size
    clear hp hown hb
    by_cases hlt : k < s.size
    · have hltl : k < L.length := by rw [HLS.out]; exact hlt
      have hget : L[k] = s[k]'hlt := by simp [← HL.out]; rfl
      by_cases h32 : s[k]'hlt = 32
      · have q : (((s[k]'hlt).toNat : Int) == 32) = true := by rw [h32]; rfl
        have HC := Lib.hid (HP.out.space hltl (by rw [hget]; exact h32))
        have HS := Lib.hid (strs_snoc P cur)
        clear hget
        go_wp2_with (at_builtin; refine wpList_append_own _ rfl _ _ 39 rfl w1.heap.size 9 i0 (.string ⟨#[]⟩) 1 16 Tryd.underlying39 hi hz0 hz1 hz2 rfl (by decide) _ _ _ rfl (HO.out.alloc _) ⟨wr.heap.size, 0, none⟩ 1 1 [lineV cur] rfl rfl (cell_one_new _ _ _) (by simp [Value.oneCell', lineV]) (by unfold maxLen; omega) (by omega) (by simp; omega) ?_; intro v' w2 hown' hgrow _; rw [HS.out] at hown'; have HOW := Lib.hid hown'; have HB2 := Lib.hid (((HB.out.alloc hsz _).grown hgrow (by simp; omega) (fun r e => (HO.out.lt r e).1) : Below w1.heap.size w1 w2)); obtain ⟨g', cap', rfl⟩ := ownsRow_succ hown'; clear hown' hgrow)
        go_roundw
        case rel => exact ⟨k + 1, _, [], HC.out, by go_num, rfl, by simpa using HOW.out, HB2.out⟩
        case measure => simp [intOf]; omega
      · have q : (((s[k]'hlt).toNat : Int) == 32) = false := by
          have : (s[k]'hlt).toNat ≠ 32 := fun e => h32 (UInt8.toNat_inj.1 e)
          simpa using (by omega : ¬ (((s[k]'hlt).toNat : Int) = 32))
        have hcv := run_one wr ((s[k]'hlt).toNat : Int)
        rw [byte_back] at hcv
        have hct := cat_one cur (s[k]'hlt)
        have hne : L[k] ≠ 32 := by rw [hget]; exact h32
        by_cases h30 : cur.length < 30
        · have HC := Lib.hid (HP.out.more hltl hne (by simp; omega))
          rw [hget] at HC
          clear hget hne
          go_wp2_with fail
          go_roundw
          case rel => exact ⟨k + 1, P, _, HC.out, by go_num, rfl, HO.out.alloc _, HB.out.alloc hsz _⟩
          case measure => simp [intOf]; omega
        · have HN := Lib.hid (HP.out.long hltl hne (by simp; omega))
          have hc31 : cur.length = 30 := by omega
          have hsz0 : w.heap.size < wr.heap.size := by omega
          have q0 : wr.cell? ⟨w.heap.size, 0, none⟩ = some (.int .i64 0) := (HB.out.cell (p := ⟨w.heap.size, 0, none⟩) hs1).trans (blk_cell5 HZ.out 0)
          have v0 : wr.frozen? ⟨w.heap.size, 0, none⟩ = false := (HB.out.frozen (p := ⟨w.heap.size, 0, none⟩) hs1).trans (blk_free5 HZ.out 0)
          have q1 : wr.cell? ⟨w.heap.size, 1, none⟩ = some (.int .i64 0) := (HB.out.cell (p := ⟨w.heap.size, 1, none⟩) hs1).trans (blk_cell5 HZ.out 1)
          have v1 : wr.frozen? ⟨w.heap.size, 1, none⟩ = false := (HB.out.frozen (p := ⟨w.heap.size, 1, none⟩) hs1).trans (blk_free5 HZ.out 1)
          have q2 : wr.cell? ⟨w.heap.size, 2, none⟩ = some (.int .i64 0) := (HB.out.cell (p := ⟨w.heap.size, 2, none⟩) hs1).trans (blk_cell5 HZ.out 2)
          have v2 : wr.frozen? ⟨w.heap.size, 2, none⟩ = false := (HB.out.frozen (p := ⟨w.heap.size, 2, none⟩) hs1).trans (blk_free5 HZ.out 2)
          have q3 : wr.cell? ⟨w.heap.size, 3, none⟩ = some (.int .i64 0) := (HB.out.cell (p := ⟨w.heap.size, 3, none⟩) hs1).trans (blk_cell5 HZ.out 3)
          have v3 : wr.frozen? ⟨w.heap.size, 3, none⟩ = false := (HB.out.frozen (p := ⟨w.heap.size, 3, none⟩) hs1).trans (blk_free5 HZ.out 3)
          have q4 : wr.cell? ⟨w.heap.size, 4, none⟩ = some (.int .i64 0) := (HB.out.cell (p := ⟨w.heap.size, 4, none⟩) hs1).trans (blk_cell5 HZ.out 4)
          have v4 : wr.frozen? ⟨w.heap.size, 4, none⟩ = false := (HB.out.frozen (p := ⟨w.heap.size, 4, none⟩) hs1).trans (blk_free5 HZ.out 4)
          clear hget hne
          go_wp2_with fail
          refine bodyPost_ret (v := .tuple #[InsV 0 0 0 0 0, .int .i64 32]) (by simp [results, Tryd.results10, go_sem, InsV, q0, q1, q2, q3, q4, hsz0]) rfl ⟨⟨_, _, _, _, _, _, rfl, .inr ⟨rfl, rfl, rfl, rfl, rfl, rfl, HN.out⟩⟩, ?_⟩
          exact ((((((HB1.out.trans (HB.out.mono (Nat.le_of_lt hs1))).setCell (p := ⟨w.heap.size, 0, none⟩) (Nat.le_refl _) _).setCell (p := ⟨w.heap.size, 1, none⟩) (Nat.le_refl _) _).setCell (p := ⟨w.heap.size, 2, none⟩) (Nat.le_refl _) _).setCell (p := ⟨w.heap.size, 3, none⟩) (Nat.le_refl _) _).setCell (p := ⟨w.heap.size, 4, none⟩) (Nat.le_refl _) _).alloc (by simp; omega) _
    · obtain rfl : k = s.size := by omega
      have HE : Hid (P ++ [cur] = splitS L) := by
        have h := HP.out
        rw [← HLS.out] at h
        exact Lib.hid h.last.symm
      have hPL : P.length + 1 = (splitS L).length := by rw [← HE.out]; simp
      obtain ⟨M, hM⟩ : ∃ M, (splitS L).length = M := ⟨_, rfl⟩
      have HM := Lib.hid hM
      have HS := Lib.hid (strs_snoc P cur)
      have HPL := Lib.hid hPL
      clear hPL hM
      go_wp2_with (at_builtin; go_loud (refine wpList_append_own _ rfl _ _ 39 rfl w1.heap.size 9 i0 (.string ⟨#[]⟩) 1 16 Tryd.underlying39 hi hz0 hz1 hz2 rfl (by decide) _ _ _ rfl (HO.out.alloc _) ⟨wr.heap.size, 0, none⟩ 1 1 [lineV cur] rfl rfl (cell_one_new _ _ _) (by simp [Value.oneCell', lineV]) (by unfold maxLen; omega) (by omega) (by simp; omega) ?_; intro v' w2 hown' hgrow _; rw [HS.out, HE.out] at hown'; have HB2 := Lib.hid (((HB.out.alloc hsz _).grown hgrow (by simp; omega) (fun r e => (HO.out.lt r e).1) : Below w1.heap.size w1 w2)); obtain ⟨g', cap', rfl⟩ := ownsRow_succ hown'; rw [show P.length + 1 = M from HPL.out.trans HM.out] at hown' ⊢; have HOW := Lib.hid hown'; clear hown' hgrow))
      refine (table_is _).mono ?_
      rintro e w3 ⟨rfl, hw3⟩
      have hgl := HOW.out.lt g' rfl
      have hcg : ∀ t l, (splitS L)[t]? = some l → w2.cell? ⟨g', t, none⟩ = some (.string ⟨l.toArray⟩) := fun t l h => by
        have h1 := HOW.out.cells (g := g') rfl t (lineV l) (by rw [List.getElem?_map, h]; rfl)
        rw [addr_at] at h1
        exact h1
      have hRQ : RQ w w3 w3.heap.size w2.heap.size g' L := by
        have hq : Below w2.heap.size w2 w3 := by rw [hw3]; exact (Below.refl _ w2).alloc (Nat.le_refl _) _
        have hsz3 : w3.heap.size = w2.heap.size + 1 := by rw [hw3]; simp
        have hb12 := HB2.out
        have hle := hb12.size
        exact ⟨HB1.out.trans ((hb12.trans (hq.mono hle)).mono (Nat.le_of_lt hs1)), (hq.block _ (by omega)).trans ((hb12.block _ hs1).trans HZ.out), by rw [hw3]; exact heap_alloc_new w2 _, fun t l h => (hq.cell (p := ⟨g', t, none⟩) hgl.2).trans (hcg t l h), by omega, Nat.le_refl _, by omega, by omega⟩
      obtain ⟨B, hB⟩ : ∃ B, w3.heap.size = B := ⟨_, rfl⟩
      obtain ⟨tb, htb⟩ : ∃ tb, w2.heap.size = tb := ⟨_, rfl⟩
      rw [hB, htb] at hRQ
      rw [htb]
      have HR := Lib.hid hRQ
      obtain ⟨l0, hl0⟩ : ∃ l0, (splitS L)[0]? = some l0 := ⟨_, List.getElem?_eq_getElem (by have := List.length_pos_iff.2 (splitS_ne L); omega)⟩
      have HL0 := Lib.hid hl0
      have hM0 : 0 < M := by rw [← HM.out]; exact List.length_pos_iff.2 (splitS_ne L)
      have hM60 : M ≤ 100001 := by
        have h1 := splitS_len L
        rw [HM.out, HLS.out] at h1
        omega
      clear hw3 hcg hRQ hl0 hgl
      go_wp2_with fail
      go_loopw [8] (fun i wr => ∃ k : Nat, 1 ≤ k ∧ k ≤ 37 ∧ i = .int .i64 k ∧ NoText1 L k ∧ RQ w wr B tb g' L) (fun i _ => 37 - (intOf i).toNat)
      case atStart => exact ⟨1, by omega, by omega, rfl, NoText1.init L, HR.out⟩
      case round =>
        obtain ⟨k, hk1, hk2, rfl, hnt, hrq⟩ := hrel
        have HNT := Lib.hid hnt
        have HR := Lib.hid hrq
        by_cases hk : k < 37
        · have hk37 : decide ((k : Int) < 37) = true := by simpa using (by omega : (k : Int) < 37)
          obtain ⟨c0, c1⟩ := hrq.name hk
          have d0 := hrq.wd 0 l0 HL0.out
          obtain ⟨nm, hnm⟩ : ∃ nm, (rowOf k).1 = nm := ⟨_, rfl⟩
          obtain ⟨F, hF⟩ : ∃ F, bs (rowOf k).2.1 = F := ⟨_, rfl⟩
          have hFs : F.size = (rowOf k).2.1.length := by rw [← hF]; unfold bs; simp [ByteArray.size]
          rw [hnm] at c0
          rw [hF] at c1
          have c0' : wr.cell? ⟨tb, k * 4, none⟩ = some (.string ⟨nm.toArray⟩) := c0
          have HNM := Lib.hid hnm
          have HF := Lib.hid hF
          have HFS := Lib.hid hFs
          clear c0 hnm hF hFs hnt hrq
          by_cases hn : nm = l0
          · subst hn
            by_cases hMF : M = F.size + 1
            · have hMq : ((M : Int) != (F.size : Int) + 1) = false := by simp; omega
              have HMF := Lib.hid hMF
              clear hMF
              have hf3 : F.size ≤ 3 := by rw [HFS.out]; exact form_len k (by omega)
              go_wp2_with fail
              go_quiet (fail)
              generalize hwq : wr.drewN nq = wq
              have HRQ : Hid (RQ w wq B tb g' L) := Lib.hid (by rw [← hwq]; exact HR.out.drewN _)
              clear hwq
              go_wp2_with fail
              obtain ⟨w4, hw4⟩ : ∃ w4, wq.alloc (.cells #[.int .i64 k, .int .i64 0, .int .i64 0, .int .i64 0, .int .i64 0] 23) = w4 := ⟨_, rfl⟩
              have HBX : Hid (w4.heap[wq.heap.size]? = some (.cells #[.int .i64 k, .int .i64 0, .int .i64 0, .int .i64 0, .int .i64 0] 23 (0, 0))) := Lib.hid (by rw [← hw4]; exact heap_alloc_new wq _)
              have hIB : B ≤ wq.heap.size := HRQ.out.hi
              have HR4 : Hid (RQ w w4 B tb g' L) := Lib.hid (HRQ.out.below (by rw [← hw4]; exact (Below.refl B wq).alloc hIB _))
              obtain ⟨I, hI⟩ : ∃ I, wq.heap.size = I := ⟨_, rfl⟩
              rw [hw4, hI]
              rw [hI] at HBX hIB
              clear hw4 hI
              go_loopw [10] (fun kk wi => ∃ (m : Nat) (a b c n : Int), m ≤ F.size ∧ kk = .int .i64 ((m : Int) + 1) ∧ Cd L k m a b c n ∧ RQ w wi B tb g' L ∧ wi.heap[I]? = some (.cells #[.int .i64 k, .int .i64 a, .int .i64 b, .int .i64 c, .int .i64 n] 23 (0, 0))) (fun kk _ => F.size + 1 - (intOf kk).toNat)
              case atStart => exact ⟨0, 0, 0, 0, 0, by omega, rfl, Cd.init L k, HR4.out, HBX.out⟩
              case round =>
                obtain ⟨m, a, b, c, n, hm, rfl, hcd, hr2, hbx⟩ := hrel
                have HCD := Lib.hid hcd
                have HR2 := Lib.hid hr2
                have HBX := Lib.hid hbx
                by_cases hmF : m < F.size
                · have hmM : m + 1 < M := by have := HMF.out; omega
                  have hmM2 : (m : Int) + 1 < (M : Int) := by omega
                  have HLT : Hid (((rowOf k).2.1.getD m 0).toNat = (F[m]'hmF).toNat) := Lib.hid (form_at HF.out hmF)
                  have h4 : ((F[m]'hmF).toNat : Int) = 97 ∨ ((F[m]'hmF).toNat : Int) = 98 ∨ ((F[m]'hmF).toNat : Int) = 99 ∨ ((F[m]'hmF).toNat : Int) = 110 := by
                    have h := (form_letter k (by omega) m (by rw [← HFS.out]; exact hmF)).1
                    rw [HLT.out] at h
                    omega
                  obtain ⟨l, hl⟩ : ∃ l, (splitS L)[m + 1]? = some l := ⟨_, List.getElem?_eq_getElem (by rw [HM.out]; exact hmM)⟩
                  have d1 := hr2.wd (m + 1) l hl
                  obtain ⟨_, e1'⟩ := hr2.name hk
                  rw [HF.out] at e1'
                  have HLW := Lib.hid hl
                  clear hcd hr2 hbx hl
                  cases l with
                  | nil =>
                    have HDL : Hid (([] : List UInt8) = deR []) := Lib.hid rfl
                    rcases h4 with hx | hx | hx | hx
                    · have hy0 : (((F[m]'hmF).toNat : Int) == 97) = true := by rw [hx]; rfl
                      have HX := Lib.hid hx
                      clear hx
                      go_wp2_with fail
                      refine (refnum_any [] _).mono ?_
                      rintro e w5 ⟨⟨r, er, rfl, hr⟩, hb5⟩
                      have HQ5 := Lib.hid (HR2.out.below (hb5.mono HR2.out.hi))
                      have HBX5 := Lib.hid ((hb5.block _ (blk_lt HBX.out)).trans HBX.out)
                      obtain ⟨_, e1⟩ := HQ5.out.name hk
                      rw [HF.out] at e1
                      have y0 := blk_free5 HBX5.out 1
                      have y1 : w5.cell? ⟨I, 1, none⟩ = some (.int .i64 a) := blk_cell5 HBX5.out 1
                      have HC2 : Hid (Cd L k (m + 1) r b c n) := Lib.hid (HCD.out.step hk1 (by omega) (by rw [← HFS.out]; exact hmF) (q := 0) (by decide) (by rw [HLT.out]; exact Int.ofNat_inj.1 HX.out) HLW.out (fun x hx he => hr x hx (by rw [he]; exact HDL.out)) rfl (fun i hi hne => by
                        have : i = 0 ∨ i = 1 ∨ i = 2 ∨ i = 3 := by omega
                        rcases this with rfl | rfl | rfl | rfl <;> first | rfl | exact (hne rfl).elim))
                      have HBX6 : Hid ((w5.setCell ⟨I, 1, none⟩ (.int .i64 r)).heap[I]? = some (.cells #[.int .i64 k, .int .i64 r, .int .i64 b, .int .i64 c, .int .i64 n] 23 (0, 0))) := Lib.hid ((blk_set5 HBX5.out 1 _).trans rfl)
                      have HQ6 : Hid (RQ w (w5.setCell ⟨I, 1, none⟩ (.int .i64 r)) B tb g' L) := Lib.hid (HQ5.out.below ((Below.refl B w5).setCell (p := ⟨I, 1, none⟩) hIB _))
                      clear hr hb5
                      go_wp2_with fail
                      go_roundw
                      case rel => exact ⟨m + 1, r, b, c, n, by omega, by go_num, HC2.out, HQ6.out, HBX6.out⟩
                      case measure => simp [intOf]; omega
                    · have hy0 : (((F[m]'hmF).toNat : Int) == 97) = false := by rw [hx]; rfl
                      have hy1 : (((F[m]'hmF).toNat : Int) == 98) = true := by rw [hx]; rfl
                      have HX := Lib.hid hx
                      clear hx
                      go_wp2_with fail
                      refine (refnum_any [] _).mono ?_
                      rintro e w5 ⟨⟨r, er, rfl, hr⟩, hb5⟩
                      have HQ5 := Lib.hid (HR2.out.below (hb5.mono HR2.out.hi))
                      have HBX5 := Lib.hid ((hb5.block _ (blk_lt HBX.out)).trans HBX.out)
                      obtain ⟨_, e1⟩ := HQ5.out.name hk
                      rw [HF.out] at e1
                      have y0 := blk_free5 HBX5.out 2
                      have y1 : w5.cell? ⟨I, 2, none⟩ = some (.int .i64 b) := blk_cell5 HBX5.out 2
                      have HC2 : Hid (Cd L k (m + 1) a r c n) := Lib.hid (HCD.out.step hk1 (by omega) (by rw [← HFS.out]; exact hmF) (q := 1) (by decide) (by rw [HLT.out]; exact Int.ofNat_inj.1 HX.out) HLW.out (fun x hx he => hr x hx (by rw [he]; exact HDL.out)) rfl (fun i hi hne => by
                        have : i = 0 ∨ i = 1 ∨ i = 2 ∨ i = 3 := by omega
                        rcases this with rfl | rfl | rfl | rfl <;> first | rfl | exact (hne rfl).elim))
                      have HBX6 : Hid ((w5.setCell ⟨I, 2, none⟩ (.int .i64 r)).heap[I]? = some (.cells #[.int .i64 k, .int .i64 a, .int .i64 r, .int .i64 c, .int .i64 n] 23 (0, 0))) := Lib.hid ((blk_set5 HBX5.out 2 _).trans rfl)
                      have HQ6 : Hid (RQ w (w5.setCell ⟨I, 2, none⟩ (.int .i64 r)) B tb g' L) := Lib.hid (HQ5.out.below ((Below.refl B w5).setCell (p := ⟨I, 2, none⟩) hIB _))
                      clear hr hb5
                      go_wp2_with fail
                      go_roundw
                      case rel => exact ⟨m + 1, a, r, c, n, by omega, by go_num, HC2.out, HQ6.out, HBX6.out⟩
                      case measure => simp [intOf]; omega
                    · have hy0 : (((F[m]'hmF).toNat : Int) == 97) = false := by rw [hx]; rfl
                      have hy1 : (((F[m]'hmF).toNat : Int) == 98) = false := by rw [hx]; rfl
                      have hy2 : (((F[m]'hmF).toNat : Int) == 99) = true := by rw [hx]; rfl
                      have HX := Lib.hid hx
                      clear hx
                      go_wp2_with fail
                      refine (refnum_any [] _).mono ?_
                      rintro e w5 ⟨⟨r, er, rfl, hr⟩, hb5⟩
                      have HQ5 := Lib.hid (HR2.out.below (hb5.mono HR2.out.hi))
                      have HBX5 := Lib.hid ((hb5.block _ (blk_lt HBX.out)).trans HBX.out)
                      obtain ⟨_, e1⟩ := HQ5.out.name hk
                      rw [HF.out] at e1
                      have y0 := blk_free5 HBX5.out 3
                      have y1 : w5.cell? ⟨I, 3, none⟩ = some (.int .i64 c) := blk_cell5 HBX5.out 3
                      have HC2 : Hid (Cd L k (m + 1) a b r n) := Lib.hid (HCD.out.step hk1 (by omega) (by rw [← HFS.out]; exact hmF) (q := 2) (by decide) (by rw [HLT.out]; exact Int.ofNat_inj.1 HX.out) HLW.out (fun x hx he => hr x hx (by rw [he]; exact HDL.out)) rfl (fun i hi hne => by
                        have : i = 0 ∨ i = 1 ∨ i = 2 ∨ i = 3 := by omega
                        rcases this with rfl | rfl | rfl | rfl <;> first | rfl | exact (hne rfl).elim))
                      have HBX6 : Hid ((w5.setCell ⟨I, 3, none⟩ (.int .i64 r)).heap[I]? = some (.cells #[.int .i64 k, .int .i64 a, .int .i64 b, .int .i64 r, .int .i64 n] 23 (0, 0))) := Lib.hid ((blk_set5 HBX5.out 3 _).trans rfl)
                      have HQ6 : Hid (RQ w (w5.setCell ⟨I, 3, none⟩ (.int .i64 r)) B tb g' L) := Lib.hid (HQ5.out.below ((Below.refl B w5).setCell (p := ⟨I, 3, none⟩) hIB _))
                      clear hr hb5
                      go_wp2_with fail
                      go_roundw
                      case rel => exact ⟨m + 1, a, b, r, n, by omega, by go_num, HC2.out, HQ6.out, HBX6.out⟩
                      case measure => simp [intOf]; omega
                    · have hy0 : (((F[m]'hmF).toNat : Int) == 97) = false := by rw [hx]; rfl
                      have hy1 : (((F[m]'hmF).toNat : Int) == 98) = false := by rw [hx]; rfl
                      have hy2 : (((F[m]'hmF).toNat : Int) == 99) = false := by rw [hx]; rfl
                      have HX := Lib.hid hx
                      clear hx
                      go_wp2_with fail
                      refine (refnum_any [] _).mono ?_
                      rintro e w5 ⟨⟨r, er, rfl, hr⟩, hb5⟩
                      have HQ5 := Lib.hid (HR2.out.below (hb5.mono HR2.out.hi))
                      have HBX5 := Lib.hid ((hb5.block _ (blk_lt HBX.out)).trans HBX.out)
                      obtain ⟨_, e1⟩ := HQ5.out.name hk
                      rw [HF.out] at e1
                      have y0 := blk_free5 HBX5.out 4
                      have y1 : w5.cell? ⟨I, 4, none⟩ = some (.int .i64 n) := blk_cell5 HBX5.out 4
                      have HC2 : Hid (Cd L k (m + 1) a b c r) := Lib.hid (HCD.out.step hk1 (by omega) (by rw [← HFS.out]; exact hmF) (q := 3) (by decide) (by rw [HLT.out]; exact Int.ofNat_inj.1 HX.out) HLW.out (fun x hx he => hr x hx (by rw [he]; exact HDL.out)) rfl (fun i hi hne => by
                        have : i = 0 ∨ i = 1 ∨ i = 2 ∨ i = 3 := by omega
                        rcases this with rfl | rfl | rfl | rfl <;> first | rfl | exact (hne rfl).elim))
                      have HBX6 : Hid ((w5.setCell ⟨I, 4, none⟩ (.int .i64 r)).heap[I]? = some (.cells #[.int .i64 k, .int .i64 a, .int .i64 b, .int .i64 c, .int .i64 r] 23 (0, 0))) := Lib.hid ((blk_set5 HBX5.out 4 _).trans rfl)
                      have HQ6 : Hid (RQ w (w5.setCell ⟨I, 4, none⟩ (.int .i64 r)) B tb g' L) := Lib.hid (HQ5.out.below ((Below.refl B w5).setCell (p := ⟨I, 4, none⟩) hIB _))
                      clear hr hb5
                      go_wp2_with fail
                      go_roundw
                      case rel => exact ⟨m + 1, a, b, c, r, by omega, by go_num, HC2.out, HQ6.out, HBX6.out⟩
                      case measure => simp [intOf]; omega
                  | cons x l' =>
                    by_cases hx114 : x = 114
                    · subst hx114
                      have HDL : Hid (deR (114 :: l') = l') := Lib.hid (deR_r l')
                      have hxr := ext_rest 114 l'
                      rcases h4 with hx | hx | hx | hx
                      · have hy0 : (((F[m]'hmF).toNat : Int) == 97) = true := by rw [hx]; rfl
                        have HX := Lib.hid hx
                        clear hx
                        go_wp2_with fail
                        refine (refnum_any l' _).mono ?_
                        rintro e w5 ⟨⟨r, er, rfl, hr⟩, hb5⟩
                        have HQ5 := Lib.hid (HR2.out.below (hb5.mono HR2.out.hi))
                        have HBX5 := Lib.hid ((hb5.block _ (blk_lt HBX.out)).trans HBX.out)
                        obtain ⟨_, e1⟩ := HQ5.out.name hk
                        rw [HF.out] at e1
                        have y0 := blk_free5 HBX5.out 1
                        have y1 : w5.cell? ⟨I, 1, none⟩ = some (.int .i64 a) := blk_cell5 HBX5.out 1
                        have HC2 : Hid (Cd L k (m + 1) r b c n) := Lib.hid (HCD.out.step hk1 (by omega) (by rw [← HFS.out]; exact hmF) (q := 0) (by decide) (by rw [HLT.out]; exact Int.ofNat_inj.1 HX.out) HLW.out (fun x hx he => hr x hx (by rw [he]; exact HDL.out)) rfl (fun i hi hne => by
                          have : i = 0 ∨ i = 1 ∨ i = 2 ∨ i = 3 := by omega
                          rcases this with rfl | rfl | rfl | rfl <;> first | rfl | exact (hne rfl).elim))
                        have HBX6 : Hid ((w5.setCell ⟨I, 1, none⟩ (.int .i64 r)).heap[I]? = some (.cells #[.int .i64 k, .int .i64 r, .int .i64 b, .int .i64 c, .int .i64 n] 23 (0, 0))) := Lib.hid ((blk_set5 HBX5.out 1 _).trans rfl)
                        have HQ6 : Hid (RQ w (w5.setCell ⟨I, 1, none⟩ (.int .i64 r)) B tb g' L) := Lib.hid (HQ5.out.below ((Below.refl B w5).setCell (p := ⟨I, 1, none⟩) hIB _))
                        clear hr hb5
                        go_wp2_with fail
                        go_roundw
                        case rel => exact ⟨m + 1, r, b, c, n, by omega, by go_num, HC2.out, HQ6.out, HBX6.out⟩
                        case measure => simp [intOf]; omega
                      · have hy0 : (((F[m]'hmF).toNat : Int) == 97) = false := by rw [hx]; rfl
                        have hy1 : (((F[m]'hmF).toNat : Int) == 98) = true := by rw [hx]; rfl
                        have HX := Lib.hid hx
                        clear hx
                        go_wp2_with fail
                        refine (refnum_any l' _).mono ?_
                        rintro e w5 ⟨⟨r, er, rfl, hr⟩, hb5⟩
                        have HQ5 := Lib.hid (HR2.out.below (hb5.mono HR2.out.hi))
                        have HBX5 := Lib.hid ((hb5.block _ (blk_lt HBX.out)).trans HBX.out)
                        obtain ⟨_, e1⟩ := HQ5.out.name hk
                        rw [HF.out] at e1
                        have y0 := blk_free5 HBX5.out 2
                        have y1 : w5.cell? ⟨I, 2, none⟩ = some (.int .i64 b) := blk_cell5 HBX5.out 2
                        have HC2 : Hid (Cd L k (m + 1) a r c n) := Lib.hid (HCD.out.step hk1 (by omega) (by rw [← HFS.out]; exact hmF) (q := 1) (by decide) (by rw [HLT.out]; exact Int.ofNat_inj.1 HX.out) HLW.out (fun x hx he => hr x hx (by rw [he]; exact HDL.out)) rfl (fun i hi hne => by
                          have : i = 0 ∨ i = 1 ∨ i = 2 ∨ i = 3 := by omega
                          rcases this with rfl | rfl | rfl | rfl <;> first | rfl | exact (hne rfl).elim))
                        have HBX6 : Hid ((w5.setCell ⟨I, 2, none⟩ (.int .i64 r)).heap[I]? = some (.cells #[.int .i64 k, .int .i64 a, .int .i64 r, .int .i64 c, .int .i64 n] 23 (0, 0))) := Lib.hid ((blk_set5 HBX5.out 2 _).trans rfl)
                        have HQ6 : Hid (RQ w (w5.setCell ⟨I, 2, none⟩ (.int .i64 r)) B tb g' L) := Lib.hid (HQ5.out.below ((Below.refl B w5).setCell (p := ⟨I, 2, none⟩) hIB _))
                        clear hr hb5
                        go_wp2_with fail
                        go_roundw
                        case rel => exact ⟨m + 1, a, r, c, n, by omega, by go_num, HC2.out, HQ6.out, HBX6.out⟩
                        case measure => simp [intOf]; omega
                      · have hy0 : (((F[m]'hmF).toNat : Int) == 97) = false := by rw [hx]; rfl
                        have hy1 : (((F[m]'hmF).toNat : Int) == 98) = false := by rw [hx]; rfl
                        have hy2 : (((F[m]'hmF).toNat : Int) == 99) = true := by rw [hx]; rfl
                        have HX := Lib.hid hx
                        clear hx
                        go_wp2_with fail
                        refine (refnum_any l' _).mono ?_
                        rintro e w5 ⟨⟨r, er, rfl, hr⟩, hb5⟩
                        have HQ5 := Lib.hid (HR2.out.below (hb5.mono HR2.out.hi))
                        have HBX5 := Lib.hid ((hb5.block _ (blk_lt HBX.out)).trans HBX.out)
                        obtain ⟨_, e1⟩ := HQ5.out.name hk
                        rw [HF.out] at e1
                        have y0 := blk_free5 HBX5.out 3
                        have y1 : w5.cell? ⟨I, 3, none⟩ = some (.int .i64 c) := blk_cell5 HBX5.out 3
                        have HC2 : Hid (Cd L k (m + 1) a b r n) := Lib.hid (HCD.out.step hk1 (by omega) (by rw [← HFS.out]; exact hmF) (q := 2) (by decide) (by rw [HLT.out]; exact Int.ofNat_inj.1 HX.out) HLW.out (fun x hx he => hr x hx (by rw [he]; exact HDL.out)) rfl (fun i hi hne => by
                          have : i = 0 ∨ i = 1 ∨ i = 2 ∨ i = 3 := by omega
                          rcases this with rfl | rfl | rfl | rfl <;> first | rfl | exact (hne rfl).elim))
                        have HBX6 : Hid ((w5.setCell ⟨I, 3, none⟩ (.int .i64 r)).heap[I]? = some (.cells #[.int .i64 k, .int .i64 a, .int .i64 b, .int .i64 r, .int .i64 n] 23 (0, 0))) := Lib.hid ((blk_set5 HBX5.out 3 _).trans rfl)
                        have HQ6 : Hid (RQ w (w5.setCell ⟨I, 3, none⟩ (.int .i64 r)) B tb g' L) := Lib.hid (HQ5.out.below ((Below.refl B w5).setCell (p := ⟨I, 3, none⟩) hIB _))
                        clear hr hb5
                        go_wp2_with fail
                        go_roundw
                        case rel => exact ⟨m + 1, a, b, r, n, by omega, by go_num, HC2.out, HQ6.out, HBX6.out⟩
                        case measure => simp [intOf]; omega
                      · have hy0 : (((F[m]'hmF).toNat : Int) == 97) = false := by rw [hx]; rfl
                        have hy1 : (((F[m]'hmF).toNat : Int) == 98) = false := by rw [hx]; rfl
                        have hy2 : (((F[m]'hmF).toNat : Int) == 99) = false := by rw [hx]; rfl
                        have HX := Lib.hid hx
                        clear hx
                        go_wp2_with fail
                        refine (refnum_any l' _).mono ?_
                        rintro e w5 ⟨⟨r, er, rfl, hr⟩, hb5⟩
                        have HQ5 := Lib.hid (HR2.out.below (hb5.mono HR2.out.hi))
                        have HBX5 := Lib.hid ((hb5.block _ (blk_lt HBX.out)).trans HBX.out)
                        obtain ⟨_, e1⟩ := HQ5.out.name hk
                        rw [HF.out] at e1
                        have y0 := blk_free5 HBX5.out 4
                        have y1 : w5.cell? ⟨I, 4, none⟩ = some (.int .i64 n) := blk_cell5 HBX5.out 4
                        have HC2 : Hid (Cd L k (m + 1) a b c r) := Lib.hid (HCD.out.step hk1 (by omega) (by rw [← HFS.out]; exact hmF) (q := 3) (by decide) (by rw [HLT.out]; exact Int.ofNat_inj.1 HX.out) HLW.out (fun x hx he => hr x hx (by rw [he]; exact HDL.out)) rfl (fun i hi hne => by
                          have : i = 0 ∨ i = 1 ∨ i = 2 ∨ i = 3 := by omega
                          rcases this with rfl | rfl | rfl | rfl <;> first | rfl | exact (hne rfl).elim))
                        have HBX6 : Hid ((w5.setCell ⟨I, 4, none⟩ (.int .i64 r)).heap[I]? = some (.cells #[.int .i64 k, .int .i64 a, .int .i64 b, .int .i64 c, .int .i64 r] 23 (0, 0))) := Lib.hid ((blk_set5 HBX5.out 4 _).trans rfl)
                        have HQ6 : Hid (RQ w (w5.setCell ⟨I, 4, none⟩ (.int .i64 r)) B tb g' L) := Lib.hid (HQ5.out.below ((Below.refl B w5).setCell (p := ⟨I, 4, none⟩) hIB _))
                        clear hr hb5
                        go_wp2_with fail
                        go_roundw
                        case rel => exact ⟨m + 1, a, b, c, r, by omega, by go_num, HC2.out, HQ6.out, HBX6.out⟩
                        case measure => simp [intOf]; omega
                    · have HDL : Hid (deR (x :: l') = x :: l') := Lib.hid (deR_o l' hx114)
                      have hq114 : ((((⟨(x :: l').toArray⟩ : ByteArray)[0]'(by simp [ByteArray.size])).toNat : Int) == 114) = false := by
                        show ((x.toNat : Int) == 114) = false
                        have : x.toNat ≠ 114 := fun e => hx114 (UInt8.toNat_inj.1 e)
                        simpa using (by omega : ¬ ((x.toNat : Int) = 114))
                      clear hx114
                      rcases h4 with hx | hx | hx | hx
                      · have hy0 : (((F[m]'hmF).toNat : Int) == 97) = true := by rw [hx]; rfl
                        have HX := Lib.hid hx
                        clear hx
                        go_wp2_with fail
                        refine (refnum_any (x :: l') _).mono ?_
                        rintro e w5 ⟨⟨r, er, rfl, hr⟩, hb5⟩
                        have HQ5 := Lib.hid (HR2.out.below (hb5.mono HR2.out.hi))
                        have HBX5 := Lib.hid ((hb5.block _ (blk_lt HBX.out)).trans HBX.out)
                        obtain ⟨_, e1⟩ := HQ5.out.name hk
                        rw [HF.out] at e1
                        have y0 := blk_free5 HBX5.out 1
                        have y1 : w5.cell? ⟨I, 1, none⟩ = some (.int .i64 a) := blk_cell5 HBX5.out 1
                        have HC2 : Hid (Cd L k (m + 1) r b c n) := Lib.hid (HCD.out.step hk1 (by omega) (by rw [← HFS.out]; exact hmF) (q := 0) (by decide) (by rw [HLT.out]; exact Int.ofNat_inj.1 HX.out) HLW.out (fun x hx he => hr x hx (by rw [he]; exact HDL.out)) rfl (fun i hi hne => by
                          have : i = 0 ∨ i = 1 ∨ i = 2 ∨ i = 3 := by omega
                          rcases this with rfl | rfl | rfl | rfl <;> first | rfl | exact (hne rfl).elim))
                        have HBX6 : Hid ((w5.setCell ⟨I, 1, none⟩ (.int .i64 r)).heap[I]? = some (.cells #[.int .i64 k, .int .i64 r, .int .i64 b, .int .i64 c, .int .i64 n] 23 (0, 0))) := Lib.hid ((blk_set5 HBX5.out 1 _).trans rfl)
                        have HQ6 : Hid (RQ w (w5.setCell ⟨I, 1, none⟩ (.int .i64 r)) B tb g' L) := Lib.hid (HQ5.out.below ((Below.refl B w5).setCell (p := ⟨I, 1, none⟩) hIB _))
                        clear hr hb5
                        go_wp2_with fail
                        go_roundw
                        case rel => exact ⟨m + 1, r, b, c, n, by omega, by go_num, HC2.out, HQ6.out, HBX6.out⟩
                        case measure => simp [intOf]; omega
                      · have hy0 : (((F[m]'hmF).toNat : Int) == 97) = false := by rw [hx]; rfl
                        have hy1 : (((F[m]'hmF).toNat : Int) == 98) = true := by rw [hx]; rfl
                        have HX := Lib.hid hx
                        clear hx
                        go_wp2_with fail
                        refine (refnum_any (x :: l') _).mono ?_
                        rintro e w5 ⟨⟨r, er, rfl, hr⟩, hb5⟩
                        have HQ5 := Lib.hid (HR2.out.below (hb5.mono HR2.out.hi))
                        have HBX5 := Lib.hid ((hb5.block _ (blk_lt HBX.out)).trans HBX.out)
                        obtain ⟨_, e1⟩ := HQ5.out.name hk
                        rw [HF.out] at e1
                        have y0 := blk_free5 HBX5.out 2
                        have y1 : w5.cell? ⟨I, 2, none⟩ = some (.int .i64 b) := blk_cell5 HBX5.out 2
                        have HC2 : Hid (Cd L k (m + 1) a r c n) := Lib.hid (HCD.out.step hk1 (by omega) (by rw [← HFS.out]; exact hmF) (q := 1) (by decide) (by rw [HLT.out]; exact Int.ofNat_inj.1 HX.out) HLW.out (fun x hx he => hr x hx (by rw [he]; exact HDL.out)) rfl (fun i hi hne => by
                          have : i = 0 ∨ i = 1 ∨ i = 2 ∨ i = 3 := by omega
                          rcases this with rfl | rfl | rfl | rfl <;> first | rfl | exact (hne rfl).elim))
                        have HBX6 : Hid ((w5.setCell ⟨I, 2, none⟩ (.int .i64 r)).heap[I]? = some (.cells #[.int .i64 k, .int .i64 a, .int .i64 r, .int .i64 c, .int .i64 n] 23 (0, 0))) := Lib.hid ((blk_set5 HBX5.out 2 _).trans rfl)
                        have HQ6 : Hid (RQ w (w5.setCell ⟨I, 2, none⟩ (.int .i64 r)) B tb g' L) := Lib.hid (HQ5.out.below ((Below.refl B w5).setCell (p := ⟨I, 2, none⟩) hIB _))
                        clear hr hb5
                        go_wp2_with fail
                        go_roundw
                        case rel => exact ⟨m + 1, a, r, c, n, by omega, by go_num, HC2.out, HQ6.out, HBX6.out⟩
                        case measure => simp [intOf]; omega
                      · have hy0 : (((F[m]'hmF).toNat : Int) == 97) = false := by rw [hx]; rfl
                        have hy1 : (((F[m]'hmF).toNat : Int) == 98) = false := by rw [hx]; rfl
                        have hy2 : (((F[m]'hmF).toNat : Int) == 99) = true := by rw [hx]; rfl
                        have HX := Lib.hid hx
                        clear hx
                        go_wp2_with fail
                        refine (refnum_any (x :: l') _).mono ?_
                        rintro e w5 ⟨⟨r, er, rfl, hr⟩, hb5⟩
                        have HQ5 := Lib.hid (HR2.out.below (hb5.mono HR2.out.hi))
                        have HBX5 := Lib.hid ((hb5.block _ (blk_lt HBX.out)).trans HBX.out)
                        obtain ⟨_, e1⟩ := HQ5.out.name hk
                        rw [HF.out] at e1
                        have y0 := blk_free5 HBX5.out 3
                        have y1 : w5.cell? ⟨I, 3, none⟩ = some (.int .i64 c) := blk_cell5 HBX5.out 3
                        have HC2 : Hid (Cd L k (m + 1) a b r n) := Lib.hid (HCD.out.step hk1 (by omega) (by rw [← HFS.out]; exact hmF) (q := 2) (by decide) (by rw [HLT.out]; exact Int.ofNat_inj.1 HX.out) HLW.out (fun x hx he => hr x hx (by rw [he]; exact HDL.out)) rfl (fun i hi hne => by
                          have : i = 0 ∨ i = 1 ∨ i = 2 ∨ i = 3 := by omega
                          rcases this with rfl | rfl | rfl | rfl <;> first | rfl | exact (hne rfl).elim))
                        have HBX6 : Hid ((w5.setCell ⟨I, 3, none⟩ (.int .i64 r)).heap[I]? = some (.cells #[.int .i64 k, .int .i64 a, .int .i64 b, .int .i64 r, .int .i64 n] 23 (0, 0))) := Lib.hid ((blk_set5 HBX5.out 3 _).trans rfl)
                        have HQ6 : Hid (RQ w (w5.setCell ⟨I, 3, none⟩ (.int .i64 r)) B tb g' L) := Lib.hid (HQ5.out.below ((Below.refl B w5).setCell (p := ⟨I, 3, none⟩) hIB _))
                        clear hr hb5
                        go_wp2_with fail
                        go_roundw
                        case rel => exact ⟨m + 1, a, b, r, n, by omega, by go_num, HC2.out, HQ6.out, HBX6.out⟩
                        case measure => simp [intOf]; omega
                      · have hy0 : (((F[m]'hmF).toNat : Int) == 97) = false := by rw [hx]; rfl
                        have hy1 : (((F[m]'hmF).toNat : Int) == 98) = false := by rw [hx]; rfl
                        have hy2 : (((F[m]'hmF).toNat : Int) == 99) = false := by rw [hx]; rfl
                        have HX := Lib.hid hx
                        clear hx
                        go_wp2_with fail
                        refine (refnum_any (x :: l') _).mono ?_
                        rintro e w5 ⟨⟨r, er, rfl, hr⟩, hb5⟩
                        have HQ5 := Lib.hid (HR2.out.below (hb5.mono HR2.out.hi))
                        have HBX5 := Lib.hid ((hb5.block _ (blk_lt HBX.out)).trans HBX.out)
                        obtain ⟨_, e1⟩ := HQ5.out.name hk
                        rw [HF.out] at e1
                        have y0 := blk_free5 HBX5.out 4
                        have y1 : w5.cell? ⟨I, 4, none⟩ = some (.int .i64 n) := blk_cell5 HBX5.out 4
                        have HC2 : Hid (Cd L k (m + 1) a b c r) := Lib.hid (HCD.out.step hk1 (by omega) (by rw [← HFS.out]; exact hmF) (q := 3) (by decide) (by rw [HLT.out]; exact Int.ofNat_inj.1 HX.out) HLW.out (fun x hx he => hr x hx (by rw [he]; exact HDL.out)) rfl (fun i hi hne => by
                          have : i = 0 ∨ i = 1 ∨ i = 2 ∨ i = 3 := by omega
                          rcases this with rfl | rfl | rfl | rfl <;> first | rfl | exact (hne rfl).elim))
                        have HBX6 : Hid ((w5.setCell ⟨I, 4, none⟩ (.int .i64 r)).heap[I]? = some (.cells #[.int .i64 k, .int .i64 a, .int .i64 b, .int .i64 c, .int .i64 r] 23 (0, 0))) := Lib.hid ((blk_set5 HBX5.out 4 _).trans rfl)
                        have HQ6 : Hid (RQ w (w5.setCell ⟨I, 4, none⟩ (.int .i64 r)) B tb g' L) := Lib.hid (HQ5.out.below ((Below.refl B w5).setCell (p := ⟨I, 4, none⟩) hIB _))
                        clear hr hb5
                        go_wp2_with fail
                        go_roundw
                        case rel => exact ⟨m + 1, a, b, c, r, by omega, by go_num, HC2.out, HQ6.out, HBX6.out⟩
                        case measure => simp [intOf]; omega
                · obtain rfl : m = F.size := by omega
                  have hmM2 : ¬ ((F.size : Int) + 1 < (M : Int)) := by have := HMF.out; omega
                  have hmM3 : M ≤ F.size + 1 := by have := HMF.out; omega
                  have x0 : wr.cell? ⟨I, 0, none⟩ = some (.int .i64 k) := blk_cell5 HBX.out 0
                  have x1 : wr.cell? ⟨I, 1, none⟩ = some (.int .i64 a) := blk_cell5 HBX.out 1
                  have x2 : wr.cell? ⟨I, 2, none⟩ = some (.int .i64 b) := blk_cell5 HBX.out 2
                  have x3 : wr.cell? ⟨I, 3, none⟩ = some (.int .i64 c) := blk_cell5 HBX.out 3
                  have x4 : wr.cell? ⟨I, 4, none⟩ = some (.int .i64 n) := blk_cell5 HBX.out 4
                  clear hcd hr2 hbx
                  go_wp2_with fail
                  refine (reftxt_any k a b c n _).mono ?_
                  rintro e w5 ⟨rfl, hb5⟩
                  have HQ5 := Lib.hid (HR2.out.below (hb5.mono HR2.out.hi))
                  have HBX5 := Lib.hid ((hb5.block _ (blk_lt HBX.out)).trans HBX.out)
                  have z0 : w5.cell? ⟨I, 0, none⟩ = some (.int .i64 k) := blk_cell5 HBX5.out 0
                  have z1 : w5.cell? ⟨I, 1, none⟩ = some (.int .i64 a) := blk_cell5 HBX5.out 1
                  have z2 : w5.cell? ⟨I, 2, none⟩ = some (.int .i64 b) := blk_cell5 HBX5.out 2
                  have z3 : w5.cell? ⟨I, 3, none⟩ = some (.int .i64 c) := blk_cell5 HBX5.out 3
                  have z4 : w5.cell? ⟨I, 4, none⟩ = some (.int .i64 n) := blk_cell5 HBX5.out 4
                  have q0 : w5.cell? ⟨w.heap.size, 0, none⟩ = some (.int .i64 0) := blk_cell5 HQ5.out.zero 0
                  have v0 := blk_free5 HQ5.out.zero 0
                  have q1 : w5.cell? ⟨w.heap.size, 1, none⟩ = some (.int .i64 0) := blk_cell5 HQ5.out.zero 1
                  have v1 := blk_free5 HQ5.out.zero 1
                  have q2 : w5.cell? ⟨w.heap.size, 2, none⟩ = some (.int .i64 0) := blk_cell5 HQ5.out.zero 2
                  have v2 := blk_free5 HQ5.out.zero 2
                  have q3 : w5.cell? ⟨w.heap.size, 3, none⟩ = some (.int .i64 0) := blk_cell5 HQ5.out.zero 3
                  have v3 := blk_free5 HQ5.out.zero 3
                  have q4 : w5.cell? ⟨w.heap.size, 4, none⟩ = some (.int .i64 0) := blk_cell5 HQ5.out.zero 4
                  have v4 := blk_free5 HQ5.out.zero 4
                  clear hb5
                  obtain ⟨T, hT⟩ : ∃ T, textOf k a b c n = T := ⟨_, rfl⟩
                  rw [hT]
                  have HTX := Lib.hid hT
                  have hTs : s.toList = L := by rw [Lib.toList_data]; exact HL.out
                  clear hT
                  by_cases htl : T = L
                  · have hq : (T == s.toList) = true := by rw [hTs, htl]; simp
                    have HTL := Lib.hid htl
                    clear htl hTs
                    go_wp2_with fail
                    refine bodyPost_ret (v := .tuple #[InsV k a b c n, .int .i64 0]) (by simp [results, Tryd.results10, go_sem, InsV, q0, q1, q2, q3, q4]) rfl ⟨⟨_, _, _, _, _, _, rfl, .inl ⟨rfl, chk_of_text (by rw [HTX.out, HTL.out]; exact text_ne HL0.out HNM.out hk1 hk), by rw [HTX.out, HTL.out]⟩⟩, ?_⟩
                    exact (((((HQ5.out.base).setCell (p := ⟨w.heap.size, 0, none⟩) (Nat.le_refl _) _).setCell (p := ⟨w.heap.size, 1, none⟩) (Nat.le_refl _) _).setCell (p := ⟨w.heap.size, 2, none⟩) (Nat.le_refl _) _).setCell (p := ⟨w.heap.size, 3, none⟩) (Nat.le_refl _) _).setCell (p := ⟨w.heap.size, 4, none⟩) (Nat.le_refl _) _
                  · have hq : (T == s.toList) = false := by rw [hTs]; simpa using htl
                    have HTL := Lib.hid htl
                    clear htl hTs
                    go_wp2_with fail
                    go_roundw
                    case rel => exact ⟨k + 1, by omega, by omega, by go_num, HNT.out.cand (by rw [← HFS.out]; exact HCD.out) (by rw [HTX.out]; exact HTL.out), HQ5.out⟩
                    case measure => simp [intOf]; omega
            · have hf3 : F.size ≤ 3 := by rw [HFS.out]; exact form_len k (by omega)
              have hq : ((M : Int) != (F.size : Int) + 1) = true := by simp; omega
              have HQ := Lib.hid hMF
              go_wp2_with fail
              go_quiet (fail)
              go_wp2_with fail
              go_roundw
              case rel => exact ⟨k + 1, by omega, by omega, by go_num, HNT.out.many HM.out (by rw [← HFS.out]; exact HQ.out), HR.out.drewN _⟩
              case measure => simp [intOf]; omega
          · have hq : (nm == l0) = false := by simpa using hn
            have HQ := Lib.hid hn
            clear hn
            go_wp2_with fail
            go_quiet (fail)
            go_wp2_with fail
            go_roundw
            case rel => exact ⟨k + 1, by omega, by omega, by go_num, HNT.out.name HL0.out (by rw [HNM.out]; exact HQ.out), HR.out.drewN _⟩
            case measure => simp [intOf]; omega
        · obtain rfl : k = 37 := by omega
          have q0 : wr.cell? ⟨w.heap.size, 0, none⟩ = some (.int .i64 0) := blk_cell5 hrq.zero 0
          have v0 := blk_free5 hrq.zero 0
          have q1 : wr.cell? ⟨w.heap.size, 1, none⟩ = some (.int .i64 0) := blk_cell5 hrq.zero 1
          have v1 := blk_free5 hrq.zero 1
          have q2 : wr.cell? ⟨w.heap.size, 2, none⟩ = some (.int .i64 0) := blk_cell5 hrq.zero 2
          have v2 := blk_free5 hrq.zero 2
          have q3 : wr.cell? ⟨w.heap.size, 3, none⟩ = some (.int .i64 0) := blk_cell5 hrq.zero 3
          have v3 := blk_free5 hrq.zero 3
          have q4 : wr.cell? ⟨w.heap.size, 4, none⟩ = some (.int .i64 0) := blk_cell5 hrq.zero 4
          have v4 := blk_free5 hrq.zero 4
          clear hnt hrq
          go_wp2_with fail
          refine bodyPost_ret (v := .tuple #[InsV 0 0 0 0 0, .int .i64 32]) (by simp [results, Tryd.results10, go_sem, InsV, q0, q1, q2, q3, q4]) rfl ⟨⟨_, _, _, _, _, _, rfl, .inr ⟨rfl, rfl, rfl, rfl, rfl, rfl, HNT.out.all⟩⟩, ?_⟩
          exact (((((HR.out.base).setCell (p := ⟨w.heap.size, 0, none⟩) (Nat.le_refl _) _).setCell (p := ⟨w.heap.size, 1, none⟩) (Nat.le_refl _) _).setCell (p := ⟨w.heap.size, 2, none⟩) (Nat.le_refl _) _).setCell (p := ⟨w.heap.size, 3, none⟩) (Nat.le_refl _) _).setCell (p := ⟨w.heap.size, 4, none⟩) (Nat.le_refl _) _
end Go.Proofs.YtfpgalckmfdcmaaDoor
