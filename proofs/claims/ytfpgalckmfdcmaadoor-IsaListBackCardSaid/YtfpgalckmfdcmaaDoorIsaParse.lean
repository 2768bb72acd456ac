/- isa.Parse of any text. Conditions: the library's tables and bound read as they are laid. -/
import Derived.Test.YtfpgalckmfdcmaaDoorIsaPar
import Derived.Test.YtfpgalckmfdcmaaDoorIsaRpM
namespace Go.Proofs.YtfpgalckmfdcmaaDoor
open Go Go.RowKit
/-- what the loop of Parse keeps: the box of the candidate, the words -/
structure PI (w W : World) (I wb : Nat) (L : List UInt8) (k : Nat) (a b c n : Int) : Prop where
  base : Below w.heap.size w W
  box : W.heap[I]? = some (.cells #[.int .i64 k, .int .i64 a, .int .i64 b, .int .i64 c, .int .i64 n] 23 (0, 0))
  zero : W.heap[w.heap.size]? = some (.cells #[.int .i64 0, .int .i64 0, .int .i64 0, .int .i64 0, .int .i64 0] 23 (0, 0))
  wd : ∀ t l, (splitS L)[t]? = some l → W.cell? ⟨wb, t, none⟩ = some (.string ⟨l.toArray⟩)
  ops : Ops W
  tab : Tab W
theorem splitS_word : ∀ (l p : List UInt8), p ∈ splitS l → p.length ≤ l.length
  | [], p, h => by
    simp [splitS] at h; subst h; simp
  | x :: l, p, h => by
    have ih := splitS_word l
    unfold splitS at h
    split at h
    · rcases List.mem_cons.1 h with rfl | e
      · simp
      · exact Nat.le_succ_of_le (ih p e)
    · cases q : splitS l with
      | nil => exact absurd q (splitS_ne l)
      | cons p0 ps =>
        rw [q] at h ih
        rcases List.mem_cons.1 h with rfl | e
        · exact Nat.succ_le_succ (ih p0 (List.mem_cons_self ..))
        · exact Nat.le_succ_of_le (ih p (List.mem_cons_of_mem _ e))
theorem blk_set5 {W : World} {B : Nat} {cs : Array Value} {t : TypeId} (h : W.heap[B]? = some (.cells cs t (0, 0))) (j : Nat) (v : Value) : (W.setCell ⟨B, j, none⟩ v).heap[B]? = some (.cells (cs.setIfInBounds j v) t (0, 0)) := by
  obtain ⟨hlt, hk⟩ := Array.getElem?_eq_some_iff.1 h
  show (W.heap.modify B _)[B]? = _
  rw [Array.getElem?_modify, if_pos rfl, h]
  rfl
theorem blk_free5 {W : World} {B : Nat} {cs : Array Value} {t : TypeId} (h : W.heap[B]? = some (.cells cs t (0, 0))) (j : Nat) : W.frozen? ⟨B, j, none⟩ = false := by simp [World.frozen?, h]
theorem PI.below {w W W2 : World} {I wb : Nat} {L : List UInt8} {k : Nat} {a b c n : Int} (h : PI w W I wb L k a b c n) (ho : Ops w) (ht : Tab w) (hb : Below W.heap.size W W2) : PI w W2 I wb L k a b c n := by
  have hB := h.base.trans (hb.mono h.base.size)
  exact ⟨hB, (hb.block _ (Array.getElem?_eq_some_iff.1 h.box).1).trans h.box, (hb.block _ (Array.getElem?_eq_some_iff.1 h.zero).1).trans h.zero, fun t l q => (hb.cell (p := ⟨wb, t, none⟩) (World.block_lt_of_cell? W _ (h.wd t l q))).trans (h.wd t l q), ops_below ho (Nat.le_refl _) hB, tab_below ht (Nat.le_refl _) hB⟩
theorem PI.upd {w W : World} {I wb : Nat} {L : List UInt8} {k : Nat} {a b c n a2 b2 c2 n2 : Int} (h : PI w W I wb L k a b c n) (ho : Ops w) (ht : Tab w) (hI : w.heap.size < I) (hwb : wb ≠ I) (j : Nat) (r : Value)
    (hbox : (#[Value.int .i64 k, .int .i64 a, .int .i64 b, .int .i64 c, .int .i64 n] : Array Value).setIfInBounds j r = #[.int .i64 k, .int .i64 a2, .int .i64 b2, .int .i64 c2, .int .i64 n2]) : PI w (W.setCell ⟨I, j, none⟩ r) I wb L k a2 b2 c2 n2 := by
  have hB := h.base.setCell (p := ⟨I, j, none⟩) (Nat.le_of_lt hI) r
  exact ⟨hB, by rw [blk_set5 h.box, hbox], (Below.heap_setCell W _ _ w.heap.size (by show w.heap.size ≠ I; omega)).trans h.zero, fun t l q => (World.cell?_of_block (Below.heap_setCell W _ _ wb hwb)).trans (h.wd t l q), ops_below ho (Nat.le_refl _) hB, tab_below ht (Nat.le_refl _) hB⟩
theorem addr_add (b t : Nat) : (some (⟨b, t, none⟩ : Addr)).map (·.add 1) = some ⟨b, t + 1, none⟩ := rfl
theorem cut1 (A : Option Addr) (n : Nat) (h : 1 ≤ n) : ∃ A' : Option Addr, (∀ W, (Instr.sliceAt 39 (.slice A n n) (some (.int .i64 1)) none none).run Tryd.prog W = .ok (.slice A' (n - 1) (n - 1)) W) ∧ (1 < n → A' = A.map (·.add 1)) := by
  refine ⟨if n = 1 then A else A.map (·.add 1), fun W => ?_, fun h1 => if_neg (by omega)⟩
  have hs : (sizeOf 9).run Tryd.prog W = .ok 1 W := by kernel_rfl
  have he : Tryd.prog.elem 39 = 9 := by kernel_rfl
  have h1 := run_sliceAt_slice (P := Tryd.prog) (w := W) 39 (.slice A n n) (some (.int .i64 1)) none none (by rw [he]; exact Tryd.underlying39)
  have h2 := run_slice_l (P := Tryd.prog) (w := W) 39 A n n (by rw [he]; exact Tryd.underlying39) .i64 1 (by omega) (by omega)
  rw [h1, h2, he, hs]
  simp [sliced]
theorem blk_cell5 {W : World} {B : Nat} {cs : Array Value} {t : TypeId} (h : W.heap[B]? = some (.cells cs t (0, 0))) (j : Nat) : W.cell? ⟨B, j, none⟩ = cs[j]? := by simp [World.cell?, h]
set_option maxRecDepth 100000 in
set_option maxHeartbeats 4000000 in
theorem ispar_any (s : ByteArray) (hs : s.size ≤ 100000) (m : Int) (w : World) (ho : Ops w) (ht : Tab w) (hm : w.cell? ⟨1, 0, none⟩ = some (.int .i64 m)) :
    Calls Tryd.prog 9 #[.string s] w (ParsedTo s.data.toList w) := by
  have HO := Lib.hid ho
  have HT := Lib.hid ht
  have hm0 : 1 < w.heap.size := World.block_lt_of_cell? w _ hm
  have HM := Lib.hid hm
  clear ho ht hm
  go_enter Tryd.func9, Tryd.ntmps9
  go_wp2_with fail
  obtain ⟨w1, hw1⟩ : ∃ w1, w.alloc (.cells #[.int .i64 0, .int .i64 0, .int .i64 0, .int .i64 0, .int .i64 0] 23) = w1 := ⟨_, rfl⟩
  have hz1 := heap_alloc_new w (.cells #[.int .i64 0, .int .i64 0, .int .i64 0, .int .i64 0, .int .i64 0] 23)
  have hb1 : Below w.heap.size w w1 := by rw [← hw1]; exact (Below.refl _ w).alloc (Nat.le_refl _) _
  have hs1 : w.heap.size < w1.heap.size := by rw [← hw1]; simp
  rw [hw1] at hz1 ⊢
  refine (Tryd.strings_Split s ⟨#[32]⟩ m w1 (by omega) ((hb1.cell (p := ⟨1, 0, none⟩) hm0).trans HM.out) (by decide)).mono ?_
  rintro e w2 ⟨rfl, hw2⟩
  rw [split_len]
  have hwd := word_cells s w1
  rw [← hw2] at hwd
  have hb2 : Below w1.heap.size w1 w2 := by rw [hw2]; exact (Below.refl _ w1).alloc (Nat.le_refl _) _
  have hM1 : 1 ≤ (splitS s.data.toList).length := List.length_pos_iff.2 (splitS_ne _)
  obtain ⟨L, hL⟩ : ∃ L, s.data.toList = L := ⟨_, rfl⟩
  rw [hL] at hwd hM1 ⊢
  obtain ⟨M, hMM⟩ : ∃ M, (splitS L).length = M := ⟨_, rfl⟩
  rw [hMM] at hM1 ⊢
  obtain ⟨l0, hl0⟩ : ∃ l0, (splitS L)[0]? = some l0 := ⟨_, List.getElem?_eq_getElem (by omega)⟩
  have hc0 := hwd 0 l0 hl0
  have hbw := hb1.trans (hb2.mono hb1.size)
  have HWD := Lib.hid hwd
  have HB2 := Lib.hid hbw
  have hwl : w1.heap.size < w2.heap.size := World.block_lt_of_cell? w2 _ hc0
  obtain ⟨A1, hsl1, hA1⟩ := cut1 (some ⟨w1.heap.size, 0, none⟩) M hM1
  have HA1 := Lib.hid hA1
  clear hA1
  have HL0 := Lib.hid hl0
  have hs2 := hb2.size
  have hM60 : M ≤ 100001 := by
    have h1 := splitS_len L
    rw [hMM, ← hL, Array.length_toList] at h1
    exact Nat.le_trans h1 (Nat.succ_le_succ hs)
  have hz2 := (hb2.block _ hs1).trans hz1
  have HZ2 := Lib.hid hz2
  clear hw1 hw2 hz1 hwd hb2 hl0 hbw hz2
  go_wp2_with fail
  refine (numbered_any l0 _ (ops_below HO.out (Nat.le_refl _) HB2.out)).mono ?_
  rintro e w3 ⟨⟨k, rfl, hk, hkn⟩, rfl⟩
  have HKN := Lib.hid hkn
  clear hkn
  have hs3 : w1.heap.size ≤ w3.heap.size := hs2
  have HX : Hid (∀ W : World, Below w3.heap.size w3 W → PI w W w3.heap.size w1.heap.size L k 0 0 0 0 → True) := Lib.hid (fun _ _ _ => trivial)
  have hPI : PI w (w3.alloc (.cells #[.int .i64 k, .int .i64 0, .int .i64 0, .int .i64 0, .int .i64 0] 23)) w3.heap.size w1.heap.size L k 0 0 0 0 := by
    have hq := (Below.refl w3.heap.size w3).alloc (Nat.le_refl _) (.cells #[.int .i64 k, .int .i64 0, .int .i64 0, .int .i64 0, .int .i64 0] 23)
    have hB := HB2.out.trans (hq.mono HB2.out.size)
    exact ⟨hB, heap_alloc_new w3 _, (hq.block _ (by omega)).trans HZ2.out, fun t l h => (hq.cell (p := ⟨w1.heap.size, t, none⟩) (World.block_lt_of_cell? w3 _ (HWD.out t l h))).trans (HWD.out t l h), ops_below HO.out (Nat.le_refl _) hB, tab_below HT.out (Nat.le_refl _) hB⟩
  have HPI := Lib.hid hPI
  have HCS := Lib.hid (Cand.start (L := L) HL0.out HKN.out hk)
  clear HX hPI
  go_wp2_with fail
  obtain ⟨w4, hw4⟩ : ∃ w4, w3.alloc (.cells #[.int .i64 k, .int .i64 0, .int .i64 0, .int .i64 0, .int .i64 0] 23) = w4 := ⟨_, rfl⟩
  obtain ⟨I, hI⟩ : ∃ I, w3.heap.size = I := ⟨_, rfl⟩
  obtain ⟨wb, hwb⟩ : ∃ wb, w1.heap.size = wb := ⟨_, rfl⟩
  rw [hw4, hI, hwb] at HPI
  rw [hw4]
  clear hw4
  have hj0 := fun W => (ixp4 ⟨I, 1, none⟩ ⟨I, 2, none⟩ ⟨I, 3, none⟩ ⟨I, 4, none⟩ W).1
  have hj1 := fun W => (ixp4 ⟨I, 1, none⟩ ⟨I, 2, none⟩ ⟨I, 3, none⟩ ⟨I, 4, none⟩ W).2.1
  have hj2 := fun W => (ixp4 ⟨I, 1, none⟩ ⟨I, 2, none⟩ ⟨I, 3, none⟩ ⟨I, 4, none⟩ W).2.2.1
  have hj3 := fun W => (ixp4 ⟨I, 1, none⟩ ⟨I, 2, none⟩ ⟨I, 3, none⟩ ⟨I, 4, none⟩ W).2.2.2
  have hIw : w.heap.size < I := by omega
  have hwI : wb ≠ I := by omega
  rw [hI]
  rw [hwb]
  go_loopw [4, 23] (fun ws i wr => ∃ (j t : Nat) (A : Option Addr) (a b c n : Int), j ≤ 4 ∧ i = .int .i64 j ∧ ws = .slice A ((M - t : Nat)) ((M - t : Nat)) ∧ t ≤ M ∧ (t < M → A = some ⟨wb, t, none⟩) ∧ Cand L k j t a b c n ∧ (-9223372036854775808 ≤ a ∧ a ≤ 9223372036854775807) ∧ (-9223372036854775808 ≤ b ∧ b ≤ 9223372036854775807) ∧ (-9223372036854775808 ≤ c ∧ c ≤ 9223372036854775807) ∧ (-9223372036854775808 ≤ n ∧ n ≤ 9223372036854775807) ∧ PI w wr I wb L k a b c n) (fun _ i _ => 4 - (intOf i).toNat)
  case atStart => exact ⟨0, 1, _, 0, 0, 0, 0, by omega, rfl, rfl, by omega, fun h => by rw [HA1.out (by omega), ← hwb]; rfl, HCS.out, by decide, by decide, by decide, by decide, HPI.out⟩
  case round =>
    obtain ⟨j, t, A, a, b, c, n, hj, rfl, rfl, htM, hp, hcd, hba, hbb, hbc, hbn, hpi⟩ := hrel
    have HCD := Lib.hid hcd
    have HP := Lib.hid hpi
    have hcp := (hpi.ops k (by omega)).2
    have x0 : wr.cell? ⟨I, 0, none⟩ = some (.int .i64 k) := blk_cell5 hpi.box 0
    have y1 := blk_free5 hpi.box 1
    have y2 := blk_free5 hpi.box 2
    have y3 := blk_free5 hpi.box 3
    have y4 := blk_free5 hpi.box 4
    obtain ⟨N, hN⟩ : ∃ N, M - t = N := ⟨_, rfl⟩
    rw [hN]
    have HN := Lib.hid hN
    clear hcd hpi hN
    by_cases hj4 : j < 4
    · have hjj : j = 0 ∨ j = 1 ∨ j = 2 ∨ j = 3 := by omega
      rcases hjj with rfl | rfl | rfl | rfl
      · by_cases hbit : hasB (bs (rowOf k).2.1) 97 = true
        · have hpb : bits BinOp.and IntKind.i64 (((partsOf k : Nat) : Int)) 1 = 1 := by rw [pbit_0 k (by omega), if_pos hbit]
          have HBT := Lib.hid hbit
          clear hbit
          by_cases ht : t < M
          · obtain rfl := hp ht
            obtain ⟨l, hl⟩ : ∃ l, (splitS L)[t]? = some l := ⟨_, List.getElem?_eq_getElem (by omega)⟩
            have hcw := HP.out.wd t l hl
            have HLW := Lib.hid hl
            have hMt : 0 < N := by have := HN.out; omega
            have hMt2 : (0 : Int) < (N : Int) := by omega
            obtain ⟨A2, hsl2, hA2⟩ := cut1 (some ⟨wb, t, none⟩) N hMt
            have HA2 := Lib.hid hA2
            clear hl hp hA2
            go_wp2_with fail
            refine (isval_any l (Nat.le_trans (splitS_word L l (List.mem_of_getElem? HLW.out)) (by rw [← hL, Array.length_toList]; exact hs)) _ HP.out.tab).mono ?_
            rintro e w5 ⟨⟨r, rfl, hr0, hr1, hr⟩, hb5⟩
            have hp5 := HP.out.below HO.out HT.out hb5
            have HP5 := Lib.hid hp5
            have HR := Lib.hid hr
            have z1 := blk_free5 hp5.box 1
            have z2 : w5.cell? ⟨I, 1, none⟩ = some (.int .i64 a) := blk_cell5 hp5.box 1
            have HC2 : Hid (Cand L k 1 (t + 1) r b c n) := Lib.hid (HCD.out.take hk (by decide) HBT.out HLW.out HR.out rfl (fun i hi hne => by
              have : i = 0 ∨ i = 1 ∨ i = 2 ∨ i = 3 := by omega
              rcases this with rfl | rfl | rfl | rfl <;> first | rfl | exact (hne rfl).elim))
            have HP6 : Hid (PI w (w5.setCell ⟨I, 1, none⟩ (.int .i64 r)) I wb L k r b c n) := Lib.hid (hp5.upd HO.out HT.out hIw hwI 1 _ rfl)
            clear hp5 hb5 hr
            go_wp2_with fail
            go_roundw
            case rel => exact ⟨1, t + 1, _, r, b, c, n, by omega, by go_num, by rw [← Nat.sub_sub, HN.out], by omega, fun h => by rw [HA2.out (by have := HN.out; omega)]; exact addr_add wb t, HC2.out, ⟨hr0, hr1⟩, hbb, hbc, hbn, HP6.out⟩
            case measure => simp [intOf]
          · have htM2 : t = M := by omega
            subst htM2
            have hN0 : N = 0 := by have := HN.out; omega
            subst hN0
            go_wp2_with fail
            go_roundw
            case rel => exact ⟨1, t, A, a, b, c, n, by omega, by go_num, by rw [HN.out], htM, hp, HCD.out.out hk (by decide) HBT.out (by omega), hba, hbb, hbc, hbn, HP.out⟩
            case measure => simp [intOf]
        · have hbf : hasB (bs (rowOf k).2.1) 97 = false := by simpa using hbit
          have hpb : bits BinOp.and IntKind.i64 (((partsOf k : Nat) : Int)) 1 = 0 := by rw [pbit_0 k (by omega), if_neg hbit]
          have HBF := Lib.hid hbf
          clear hbit hbf
          go_wp2_with fail
          go_roundw
          case rel => exact ⟨1, t, A, a, b, c, n, by omega, by go_num, by rw [HN.out], htM, hp, HCD.out.skip hk (by decide) HBF.out, hba, hbb, hbc, hbn, HP.out⟩
          case measure => simp [intOf]
      · by_cases hbit : hasB (bs (rowOf k).2.1) 98 = true
        · have hpb : bits BinOp.and IntKind.i64 (((partsOf k : Nat) : Int) / 2) 1 = 1 := by rw [pbit_1 k (by omega), if_pos hbit]
          have HBT := Lib.hid hbit
          clear hbit
          by_cases ht : t < M
          · obtain rfl := hp ht
            obtain ⟨l, hl⟩ : ∃ l, (splitS L)[t]? = some l := ⟨_, List.getElem?_eq_getElem (by omega)⟩
            have hcw := HP.out.wd t l hl
            have HLW := Lib.hid hl
            have hMt : 0 < N := by have := HN.out; omega
            have hMt2 : (0 : Int) < (N : Int) := by omega
            obtain ⟨A2, hsl2, hA2⟩ := cut1 (some ⟨wb, t, none⟩) N hMt
            have HA2 := Lib.hid hA2
            clear hl hp hA2
            go_wp2_with fail
            refine (isval_any l (Nat.le_trans (splitS_word L l (List.mem_of_getElem? HLW.out)) (by rw [← hL, Array.length_toList]; exact hs)) _ HP.out.tab).mono ?_
            rintro e w5 ⟨⟨r, rfl, hr0, hr1, hr⟩, hb5⟩
            have hp5 := HP.out.below HO.out HT.out hb5
            have HP5 := Lib.hid hp5
            have HR := Lib.hid hr
            have z1 := blk_free5 hp5.box 2
            have z2 : w5.cell? ⟨I, 2, none⟩ = some (.int .i64 b) := blk_cell5 hp5.box 2
            have HC2 : Hid (Cand L k 2 (t + 1) a r c n) := Lib.hid (HCD.out.take hk (by decide) HBT.out HLW.out HR.out rfl (fun i hi hne => by
              have : i = 0 ∨ i = 1 ∨ i = 2 ∨ i = 3 := by omega
              rcases this with rfl | rfl | rfl | rfl <;> first | rfl | exact (hne rfl).elim))
            have HP6 : Hid (PI w (w5.setCell ⟨I, 2, none⟩ (.int .i64 r)) I wb L k a r c n) := Lib.hid (hp5.upd HO.out HT.out hIw hwI 2 _ rfl)
            clear hp5 hb5 hr
            go_wp2_with fail
            go_roundw
            case rel => exact ⟨2, t + 1, _, a, r, c, n, by omega, by go_num, by rw [← Nat.sub_sub, HN.out], by omega, fun h => by rw [HA2.out (by have := HN.out; omega)]; exact addr_add wb t, HC2.out, hba, ⟨hr0, hr1⟩, hbc, hbn, HP6.out⟩
            case measure => simp [intOf]
          · have htM2 : t = M := by omega
            subst htM2
            have hN0 : N = 0 := by have := HN.out; omega
            subst hN0
            go_wp2_with fail
            go_roundw
            case rel => exact ⟨2, t, A, a, b, c, n, by omega, by go_num, by rw [HN.out], htM, hp, HCD.out.out hk (by decide) HBT.out (by omega), hba, hbb, hbc, hbn, HP.out⟩
            case measure => simp [intOf]
        · have hbf : hasB (bs (rowOf k).2.1) 98 = false := by simpa using hbit
          have hpb : bits BinOp.and IntKind.i64 (((partsOf k : Nat) : Int) / 2) 1 = 0 := by rw [pbit_1 k (by omega), if_neg hbit]
          have HBF := Lib.hid hbf
          clear hbit hbf
          go_wp2_with fail
          go_roundw
          case rel => exact ⟨2, t, A, a, b, c, n, by omega, by go_num, by rw [HN.out], htM, hp, HCD.out.skip hk (by decide) HBF.out, hba, hbb, hbc, hbn, HP.out⟩
          case measure => simp [intOf]
      · by_cases hbit : hasB (bs (rowOf k).2.1) 99 = true
        · have hpb : bits BinOp.and IntKind.i64 (((partsOf k : Nat) : Int) / 4) 1 = 1 := by rw [pbit_2 k (by omega), if_pos hbit]
          have HBT := Lib.hid hbit
          clear hbit
          by_cases ht : t < M
          · obtain rfl := hp ht
            obtain ⟨l, hl⟩ : ∃ l, (splitS L)[t]? = some l := ⟨_, List.getElem?_eq_getElem (by omega)⟩
            have hcw := HP.out.wd t l hl
            have HLW := Lib.hid hl
            have hMt : 0 < N := by have := HN.out; omega
            have hMt2 : (0 : Int) < (N : Int) := by omega
            obtain ⟨A2, hsl2, hA2⟩ := cut1 (some ⟨wb, t, none⟩) N hMt
            have HA2 := Lib.hid hA2
            clear hl hp hA2
            go_wp2_with fail
            refine (isval_any l (Nat.le_trans (splitS_word L l (List.mem_of_getElem? HLW.out)) (by rw [← hL, Array.length_toList]; exact hs)) _ HP.out.tab).mono ?_
            rintro e w5 ⟨⟨r, rfl, hr0, hr1, hr⟩, hb5⟩
            have hp5 := HP.out.below HO.out HT.out hb5
            have HP5 := Lib.hid hp5
            have HR := Lib.hid hr
            have z1 := blk_free5 hp5.box 3
            have z2 : w5.cell? ⟨I, 3, none⟩ = some (.int .i64 c) := blk_cell5 hp5.box 3
            have HC2 : Hid (Cand L k 3 (t + 1) a b r n) := Lib.hid (HCD.out.take hk (by decide) HBT.out HLW.out HR.out rfl (fun i hi hne => by
              have : i = 0 ∨ i = 1 ∨ i = 2 ∨ i = 3 := by omega
              rcases this with rfl | rfl | rfl | rfl <;> first | rfl | exact (hne rfl).elim))
            have HP6 : Hid (PI w (w5.setCell ⟨I, 3, none⟩ (.int .i64 r)) I wb L k a b r n) := Lib.hid (hp5.upd HO.out HT.out hIw hwI 3 _ rfl)
            clear hp5 hb5 hr
            go_wp2_with fail
            go_roundw
            case rel => exact ⟨3, t + 1, _, a, b, r, n, by omega, by go_num, by rw [← Nat.sub_sub, HN.out], by omega, fun h => by rw [HA2.out (by have := HN.out; omega)]; exact addr_add wb t, HC2.out, hba, hbb, ⟨hr0, hr1⟩, hbn, HP6.out⟩
            case measure => simp [intOf]
          · have htM2 : t = M := by omega
            subst htM2
            have hN0 : N = 0 := by have := HN.out; omega
            subst hN0
            go_wp2_with fail
            go_roundw
            case rel => exact ⟨3, t, A, a, b, c, n, by omega, by go_num, by rw [HN.out], htM, hp, HCD.out.out hk (by decide) HBT.out (by omega), hba, hbb, hbc, hbn, HP.out⟩
            case measure => simp [intOf]
        · have hbf : hasB (bs (rowOf k).2.1) 99 = false := by simpa using hbit
          have hpb : bits BinOp.and IntKind.i64 (((partsOf k : Nat) : Int) / 4) 1 = 0 := by rw [pbit_2 k (by omega), if_neg hbit]
          have HBF := Lib.hid hbf
          clear hbit hbf
          go_wp2_with fail
          go_roundw
          case rel => exact ⟨3, t, A, a, b, c, n, by omega, by go_num, by rw [HN.out], htM, hp, HCD.out.skip hk (by decide) HBF.out, hba, hbb, hbc, hbn, HP.out⟩
          case measure => simp [intOf]
      · by_cases hbit : hasB (bs (rowOf k).2.1) 110 = true
        · have hpb : bits BinOp.and IntKind.i64 (((partsOf k : Nat) : Int) / 8) 1 = 1 := by rw [pbit_3 k (by omega), if_pos hbit]
          have HBT := Lib.hid hbit
          clear hbit
          by_cases ht : t < M
          · obtain rfl := hp ht
            obtain ⟨l, hl⟩ : ∃ l, (splitS L)[t]? = some l := ⟨_, List.getElem?_eq_getElem (by omega)⟩
            have hcw := HP.out.wd t l hl
            have HLW := Lib.hid hl
            have hMt : 0 < N := by have := HN.out; omega
            have hMt2 : (0 : Int) < (N : Int) := by omega
            obtain ⟨A2, hsl2, hA2⟩ := cut1 (some ⟨wb, t, none⟩) N hMt
            have HA2 := Lib.hid hA2
            clear hl hp hA2
            go_wp2_with fail
            refine (isval_any l (Nat.le_trans (splitS_word L l (List.mem_of_getElem? HLW.out)) (by rw [← hL, Array.length_toList]; exact hs)) _ HP.out.tab).mono ?_
            rintro e w5 ⟨⟨r, rfl, hr0, hr1, hr⟩, hb5⟩
            have hp5 := HP.out.below HO.out HT.out hb5
            have HP5 := Lib.hid hp5
            have HR := Lib.hid hr
            have z1 := blk_free5 hp5.box 4
            have z2 : w5.cell? ⟨I, 4, none⟩ = some (.int .i64 n) := blk_cell5 hp5.box 4
            have HC2 : Hid (Cand L k 4 (t + 1) a b c r) := Lib.hid (HCD.out.take hk (by decide) HBT.out HLW.out HR.out rfl (fun i hi hne => by
              have : i = 0 ∨ i = 1 ∨ i = 2 ∨ i = 3 := by omega
              rcases this with rfl | rfl | rfl | rfl <;> first | rfl | exact (hne rfl).elim))
            have HP6 : Hid (PI w (w5.setCell ⟨I, 4, none⟩ (.int .i64 r)) I wb L k a b c r) := Lib.hid (hp5.upd HO.out HT.out hIw hwI 4 _ rfl)
            clear hp5 hb5 hr
            go_wp2_with fail
            go_roundw
            case rel => exact ⟨4, t + 1, _, a, b, c, r, by omega, by go_num, by rw [← Nat.sub_sub, HN.out], by omega, fun h => by rw [HA2.out (by have := HN.out; omega)]; exact addr_add wb t, HC2.out, hba, hbb, hbc, ⟨hr0, hr1⟩, HP6.out⟩
            case measure => simp [intOf]
          · have htM2 : t = M := by omega
            subst htM2
            have hN0 : N = 0 := by have := HN.out; omega
            subst hN0
            go_wp2_with fail
            go_roundw
            case rel => exact ⟨4, t, A, a, b, c, n, by omega, by go_num, by rw [HN.out], htM, hp, HCD.out.out hk (by decide) HBT.out (by omega), hba, hbb, hbc, hbn, HP.out⟩
            case measure => simp [intOf]
        · have hbf : hasB (bs (rowOf k).2.1) 110 = false := by simpa using hbit
          have hpb : bits BinOp.and IntKind.i64 (((partsOf k : Nat) : Int) / 8) 1 = 0 := by rw [pbit_3 k (by omega), if_neg hbit]
          have HBF := Lib.hid hbf
          clear hbit hbf
          go_wp2_with fail
          go_roundw
          case rel => exact ⟨4, t, A, a, b, c, n, by omega, by go_num, by rw [HN.out], htM, hp, HCD.out.skip hk (by decide) HBF.out, hba, hbb, hbc, hbn, HP.out⟩
          case measure => simp [intOf]
    · obtain rfl : j = 4 := by omega
      
      have x1 : wr.cell? ⟨I, 1, none⟩ = some (.int .i64 a) := blk_cell5 HP.out.box 1
      have x2 : wr.cell? ⟨I, 2, none⟩ = some (.int .i64 b) := blk_cell5 HP.out.box 2
      have x3 : wr.cell? ⟨I, 3, none⟩ = some (.int .i64 c) := blk_cell5 HP.out.box 3
      have x4 : wr.cell? ⟨I, 4, none⟩ = some (.int .i64 n) := blk_cell5 HP.out.box 4
      go_wp2_with fail
      refine (istext_any k a b c n _ HP.out.ops HP.out.tab).mono ?_
      rintro e w5 ⟨rfl, hb5⟩
      have hp5 := HP.out.below HO.out HT.out hb5
      have HP5 := Lib.hid hp5
      have u0 : w5.cell? ⟨I, 0, none⟩ = some (.int .i64 k) := blk_cell5 hp5.box 0
      have u1 : w5.cell? ⟨I, 1, none⟩ = some (.int .i64 a) := blk_cell5 hp5.box 1
      have u2 : w5.cell? ⟨I, 2, none⟩ = some (.int .i64 b) := blk_cell5 hp5.box 2
      have u3 : w5.cell? ⟨I, 3, none⟩ = some (.int .i64 c) := blk_cell5 hp5.box 3
      have u4 : w5.cell? ⟨I, 4, none⟩ = some (.int .i64 n) := blk_cell5 hp5.box 4
      have q0 : w5.cell? ⟨w.heap.size, 0, none⟩ = some (.int .i64 0) := blk_cell5 hp5.zero 0
      have q1 : w5.cell? ⟨w.heap.size, 1, none⟩ = some (.int .i64 0) := blk_cell5 hp5.zero 1
      have q2 : w5.cell? ⟨w.heap.size, 2, none⟩ = some (.int .i64 0) := blk_cell5 hp5.zero 2
      have q3 : w5.cell? ⟨w.heap.size, 3, none⟩ = some (.int .i64 0) := blk_cell5 hp5.zero 3
      have q4 : w5.cell? ⟨w.heap.size, 4, none⟩ = some (.int .i64 0) := blk_cell5 hp5.zero 4
      have v0 := blk_free5 hp5.zero 0
      have v1 := blk_free5 hp5.zero 1
      have v2 := blk_free5 hp5.zero 2
      have v3 := blk_free5 hp5.zero 3
      have v4 := blk_free5 hp5.zero 4
      clear hp5 hb5
      obtain ⟨T, hT⟩ : ∃ T, textOf k a b c n = T := ⟨_, rfl⟩
      rw [hT]
      have HTX := Lib.hid hT
      clear hT
      have hsL : s = ⟨L.toArray⟩ := by rw [← hL]
      have HSL := Lib.hid hsL
      clear hsL
      by_cases ht0 : T = []
      · subst ht0
        go_wp2_with fail
        refine bodyPost_ret (v := .tuple #[InsV 0 0 0 0 0, .int .i64 32]) (by simp [results, Tryd.results9, go_sem, InsV, q0, q1, q2, q3, q4]) rfl ⟨⟨_, _, _, _, _, _, rfl, ?_⟩, ?_⟩
        · exact .inr ⟨rfl, rfl, rfl, rfl, rfl, rfl, by rw [hL]; exact HCD.out.none_ (fun h1 _ => textOf_ne h1 HTX.out)⟩
        · exact ((((HP5.out.base.setCell (p := ⟨w.heap.size, 0, none⟩) (Nat.le_refl _) _).setCell (p := ⟨w.heap.size, 1, none⟩) (Nat.le_refl _) _).setCell (p := ⟨w.heap.size, 2, none⟩) (Nat.le_refl _) _).setCell (p := ⟨w.heap.size, 3, none⟩) (Nat.le_refl _) _).setCell (p := ⟨w.heap.size, 4, none⟩) (Nat.le_refl _) _
      · have ht1 : (T == []) = false := by simpa using ht0
        have HT0 := Lib.hid ht0
        clear ht0
        have hTs : s.toList = L := by rw [Lib.toList_data]; exact hL
        by_cases htl : T = L
        · have hq : (!T == s.toList) = false := by rw [hTs, htl]; simp
          have HTL := Lib.hid htl
          clear htl hTs
          go_wp2_with fail
          refine bodyPost_ret (v := .tuple #[InsV k a b c n, .int .i64 0]) (by simp [results, Tryd.results9, go_sem, InsV, q0, q1, q2, q3, q4]) rfl ⟨⟨_, _, _, _, _, _, rfl, ?_⟩, ?_⟩
          · exact .inl ⟨rfl, chk_of_text (by rw [HTX.out]; exact HT0.out), by rw [HTX.out, HTL.out, hL]⟩
          · exact ((((HP5.out.base.setCell (p := ⟨w.heap.size, 0, none⟩) (Nat.le_refl _) _).setCell (p := ⟨w.heap.size, 1, none⟩) (Nat.le_refl _) _).setCell (p := ⟨w.heap.size, 2, none⟩) (Nat.le_refl _) _).setCell (p := ⟨w.heap.size, 3, none⟩) (Nat.le_refl _) _).setCell (p := ⟨w.heap.size, 4, none⟩) (Nat.le_refl _) _
        · have hq : (!T == s.toList) = true := by rw [hTs]; simpa using htl
          have HTL := Lib.hid htl
          clear htl hTs
          go_wp2_with fail
          refine bodyPost_ret (v := .tuple #[InsV 0 0 0 0 0, .int .i64 32]) (by simp [results, Tryd.results9, go_sem, InsV, q0, q1, q2, q3, q4]) rfl ⟨⟨_, _, _, _, _, _, rfl, ?_⟩, ?_⟩
          · exact .inr ⟨rfl, rfl, rfl, rfl, rfl, rfl, by rw [hL]; exact HCD.out.none_ (fun _ h2 => HTL.out (HTX.out.symm.trans h2))⟩
          · exact ((((HP5.out.base.setCell (p := ⟨w.heap.size, 0, none⟩) (Nat.le_refl _) _).setCell (p := ⟨w.heap.size, 1, none⟩) (Nat.le_refl _) _).setCell (p := ⟨w.heap.size, 2, none⟩) (Nat.le_refl _) _).setCell (p := ⟨w.heap.size, 3, none⟩) (Nat.le_refl _) _).setCell (p := ⟨w.heap.size, 4, none⟩) (Nat.le_refl _) _

end Go.Proofs.YtfpgalckmfdcmaaDoor
