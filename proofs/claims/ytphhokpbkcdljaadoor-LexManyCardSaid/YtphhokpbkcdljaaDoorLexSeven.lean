/- strings.Builder, a blank written: which blocks stay. Conditions: the builder lies as the library's word says; it stays in the reach. The contract of the program's Print. Conditions: there are no more than 4,000 tokens, each text of no more than 200,000 bytes; the tables are as laid. The contract of the document's Print. Conditions: there are no more than 4,000 tokens, each text of no more than 200,000 bytes. The contract of the document's Same on two rows of tokens. Conditions: none. -/
import Derived.Test.YtphhokpbkcdljaaDoorIsaBld
import Derived.Test.YtphhokpbkcdljaaDoorLexSix
import Derived.Deep.RegionHeld3
namespace Go.Proofs.YtphhokpbkcdljaaDoor.Bl
open Go Go.RowKit Go.Proofs.YtphhokpbkcdljaaDoor
/-- a builder whose blocks lie below M -/
structure IsBM (M B b : Nat) (l : List UInt8) (w : World) : Prop where
  hB : B ≤ b
  hM : b < M
  le : M ≤ w.heap.size
  lies : ∃ p v, (p = .pointer none ∨ p = .pointer (some ⟨b, 0, none⟩)) ∧ w.heap[b]? = some (.cells #[p, v] 54 (0, 0)) ∧ w.ownsRow B 5 1 v (Lib.byteCells l).length (Lib.byteCells l) ∧ v.ownBlock ≠ some b ∧ ∀ g, v.ownBlock = some g → g < M
theorem IsBM.of {B b : Nat} {l : List UInt8} {w : World} (h : IsB B b l w) : IsBM w.heap.size B b l w := by
  rcases h with ⟨h1, v, h2, h3, h4⟩ | ⟨h1, v, h2, h3, h4⟩
  · exact ⟨h1, (Array.getElem?_eq_some_iff.1 h2).1, Nat.le_refl _, _, v, .inl rfl, h2, h3, h4, fun g hg => (h3.lt g hg).2⟩
  · exact ⟨h1, (Array.getElem?_eq_some_iff.1 h2).1, Nat.le_refl _, _, v, .inr rfl, h2, h3, h4, fun g hg => (h3.lt g hg).2⟩
theorem IsBM.isB {M B b : Nat} {l : List UInt8} {w : World} (h : IsBM M B b l w) : IsB B b l w := by
  obtain ⟨h1, _, _, p, v, hp, h2, h3, h4, _⟩ := h
  rcases hp with rfl | rfl
  · exact .inl ⟨h1, v, h2, h3, h4⟩
  · exact .inr ⟨h1, v, h2, h3, h4⟩
theorem IsBM.later {M B b : Nat} {l : List UInt8} {w w' : World} (h : IsBM M B b l w) (hb : Below w.heap.size w w') : IsBM M B b l w' := by
  obtain ⟨h1, hM, hl, p, v, hp, h2, h3, h4, h5⟩ := h
  exact ⟨h1, hM, Nat.le_trans hl hb.size, p, v, hp, (hb.block _ (by omega)).trans h2, own_later h3 hb, h4, h5⟩
set_option maxHeartbeats 2000000 in
set_option maxRecDepth 100000 in
theorem bblank_fine (M B b : Nat) (l : List UInt8) (w : World) (h : IsBM M B b l w) (hlen : l.length + 1 ≤ 140737488355328) (hBw : B ≤ w.heap.size) :
    Calls Tryd.prog 32 #[.pointer (some ⟨b, 0, none⟩), .int .u8 32] w fun e w' => e = .returned .nilIface ∧ IsB B b (l ++ [32]) w' ∧ Below B w w' ∧ ∀ j, M ≤ j → j < w.heap.size → w'.heap[j]? = w.heap[j]? := by
  obtain ⟨i0, hi, hz0, hz1, hz2⟩ := info_parts infoU8
  have HBL : Hid ((Lib.byteCells l).length = l.length) := Lib.hid (Lib.byteCells_length l)
  obtain ⟨hB, hM, hle, p, v, hp, hbk0, hown0, hne, hlow⟩ := h
  have hck : Calls Tryd.prog 58 #[.pointer (some ⟨b, 0, none⟩)] w fun e w' => e = .returned (.tuple #[]) ∧ (w'.heap[b]? = some (.cells #[.pointer (some ⟨b, 0, none⟩), v] 54 (0, 0)) ∧ w'.ownsRow B 5 1 v (Lib.byteCells l).length (Lib.byteCells l)) ∧ Below B w w' ∧ w'.heap.size = w.heap.size ∧ ∀ j, j ≠ b → w'.heap[j]? = w.heap[j]? := by
    rcases hp with rfl | rfl
    · have hA : Lib.BuilderAt 54 5 B b (.pointer none) (Lib.byteCells l) w := ⟨hB, v, hbk0, hown0, hne⟩
      refine (bcheck_fresh b w hA.cell0 hA.shape hA.frozen0).mono ?_
      rintro e w' ⟨rfl, rfl⟩
      refine ⟨rfl, ⟨?_, ownsRow_setCell_other hown0 (a := ⟨b, 0, none⟩) hne _⟩, (Below.refl B w).setCell (p := ⟨b, 0, none⟩) hB _, World.size_setCell _ _ _, fun j hj => ?_⟩
      · show (w.heap.modify b _)[b]? = _
        rw [Array.getElem?_modify, if_pos rfl, hbk0]; rfl
      · show (w.heap.modify b _)[j]? = _
        rw [Array.getElem?_modify, if_neg (fun q => hj q.symm)]
    · have hA : Lib.BuilderAt 54 5 B b (.pointer (some ⟨b, 0, none⟩)) (Lib.byteCells l) w := ⟨hB, v, hbk0, hown0, hne⟩
      refine (bcheck_used b w hA.cell0).mono ?_
      rintro e w' ⟨rfl, rfl⟩
      exact ⟨rfl, ⟨hbk0, hown0⟩, Below.refl B _, rfl, fun _ _ => rfl⟩
  have HCK := Lib.hid hck
  clear hck hp hbk0 hown0
  go_enter Tryd.func32, Tryd.ntmps32
  go_wp2_with (go_at_call 58; refine HCK.out.mono ?_)
  rintro e w1 ⟨rfl, ⟨hbk, hown⟩, hb1, hsz, hoth⟩
  have HO := Lib.hid (And.intro hsz hoth)
  clear hsz hoth
  have c0 : w1.cell? ⟨b, 0, none⟩ = some (.pointer (some ⟨b, 0, none⟩)) := by rw [Lib.cell_of_heap hbk]; rfl
  have c1 : w1.cell? ⟨b, 1, none⟩ = some v := by rw [Lib.cell_of_heap hbk]; rfl
  go_wp2_with (at_builtin; refine wpList_append_own _ rfl _ _ 30 rfl B 5 i0 (.int .u8 0) 1 1 Tryd.underlying30 hi hz0 hz1 hz2 rfl (by decide) _ _ _ rfl (hown.alloc _) ⟨w1.heap.size, 0, none⟩ 1 1 [.int .u8 32] rfl rfl ?c1 ?c2 ?c3 ?c4 ?c5 ?_)
  case c1 =>
    intro j u hj
    match j, hj with
    | 0, hj => simp at hj; subst hj; simp [Addr.add]
  case c2 => intro u hu; simp at hu; subst hu; rfl
  case c3 => rw [HBL.out]; unfold maxLen; omega
  case c4 => rw [HBL.out]; omega
  case c5 => have := hb1.size; simp; omega
  intro v' w2 hown' hgrow _
  have hlt : b < w1.heap.size := (Array.getElem?_eq_some_iff.1 hbk).1
  have hb2 : w2.heap[b]? = some (.cells #[.pointer (some ⟨b, 0, none⟩), v] 54 (0, 0)) := by
    rw [hgrow.block b (by simp; omega) (fun e => hne e.symm), Lib.alloc_old w1 _ b hlt]
    exact hbk
  have d0 : w2.cell? ⟨b, 0, none⟩ = some (.pointer (some ⟨b, 0, none⟩)) := by rw [Lib.cell_of_heap hb2]; rfl
  have d1 : w2.cell? ⟨b, 1, none⟩ = some v := by rw [Lib.cell_of_heap hb2]; rfl
  have f1 : w2.frozen? ⟨b, 1, none⟩ = false := Lib.frozen_of_heap hb2 1
  obtain ⟨ao, n', cap, rfl⟩ : ∃ ao n' cap, v' = .slice ao n' cap := by
    rcases hown'.2 with ⟨hv, _⟩ | ⟨g, cap, cur, hv, _⟩
    · exact ⟨_, _, _, hv⟩
    · exact ⟨_, _, _, hv⟩
  go_wp2
  go_ret
  have e : Lib.byteCells l ++ [.int .u8 32] = Lib.byteCells (l ++ [32]) := by simp [Lib.byteCells]
  refine ⟨rfl, ?_, ?_, fun j hj hjs => ?_⟩
  · have hp := Lib.BuilderAt.put (T := 54) (e := 5) hB hb2 (bs' := Lib.byteCells l ++ [.int .u8 32]) (by simpa using hown') (by decide)
    rw [e] at hp
    exact .inr hp
  · exact ((hb1.alloc (by have := hb1.size; omega) _).grown hgrow (by have := hb1.size; simp; omega) (fun k hk => (hown.lt k hk).1)).setCell (p := ⟨b, 1, none⟩) hB _
  · have hjb : j ≠ b := by omega
    have hsz := HO.out.1
    show (w2.heap.modify b _)[j]? = _
    rw [Array.getElem?_modify, if_neg (fun q => hjb q.symm), hgrow.block j (by simp; omega) (fun q => by have := hlow j q.symm; omega), Lib.alloc_old w1 _ j (by omega)]
    exact HO.out.2 j hjb
end Go.Proofs.YtphhokpbkcdljaaDoor.Bl
namespace Go.Proofs.YtphhokpbkcdljaaDoor
open Go Go.RowKit
/-- a token in memory -/
structure TkB where
  k : Int
  s : ByteArray
  n : Int
  a : Int
def TkB.I (t : TkB) : TokI := ⟨t.k, t.s.data.toList, t.n⟩
def TkB.V (t : TkB) : Value := .agg #[.int .i64 t.k, .string t.s, .int .i64 t.n, .int .i64 t.a]
structure TkB.Ok (t : TkB) : Prop where
  lo : -9223372036854775808 ≤ t.n
  hi : t.n ≤ 9223372036854775807
/-- the slice at a reads as these tokens, in a block below n₀ -/
structure Tks (n₀ : Nat) (W : World) (a : Option Addr) (ts : List TkB) : Prop where
  few : ts.length ≤ 9223372036854775807
  ok : ∀ t ∈ ts, t.Ok
  cell : ∀ j t, ts[j]? = some t → ∃ g off, a = some ⟨g, off, none⟩ ∧ g < n₀ ∧ W.cell? ⟨g, off + j * 4, none⟩ = some (.int .i64 t.k) ∧ W.cell? ⟨g, off + j * 4 + 1, none⟩ = some (.string t.s) ∧
    W.cell? ⟨g, off + j * 4 + 2, none⟩ = some (.int .i64 t.n) ∧ W.cell? ⟨g, off + j * 4 + 3, none⟩ = some (.int .i64 t.a)
theorem Tks.below {n₀ : Nat} {A B : World} {a : Option Addr} {ts : List TkB} (h : Tks n₀ A a ts) (hb : Below n₀ A B) : Tks n₀ B a ts :=
  ⟨h.few, h.ok, fun j t q => by
    obtain ⟨g, off, e, hg, c0, c1, c2, c3⟩ := h.cell j t q
    exact ⟨g, off, e, hg, (hb.cell (p := ⟨g, _, none⟩) hg).trans c0, (hb.cell (p := ⟨g, _, none⟩) hg).trans c1, (hb.cell (p := ⟨g, _, none⟩) hg).trans c2, (hb.cell (p := ⟨g, _, none⟩) hg).trans c3⟩⟩
theorem Tks.mono {n₀ n₁ : Nat} {A : World} {a : Option Addr} {ts : List TkB} (h : Tks n₀ A a ts) (hn : n₀ ≤ n₁) : Tks n₁ A a ts :=
  ⟨h.few, h.ok, fun j t q => by
    obtain ⟨g, off, e, hg, c⟩ := h.cell j t q
    exact ⟨g, off, e, Nat.lt_of_lt_of_le hg hn, c⟩⟩
def prV : Option (List UInt8) → Value
  | some l => .tuple #[.string ⟨l.toArray⟩, .int .i64 0]
  | none => .tuple #[.string ⟨#[]⟩, .int .i64 1]
theorem joinL_no {acc : List UInt8} {t : TokI} {r : List TokI} (h : rightL t = false) : joinL acc (t :: r) = none := by rw [joinL, if_neg (by rw [h]; simp)]
theorem joinL_end {acc : List UInt8} {t : TokI} {r : List TokI} (h : rightL t = true) (hk : t.kind = 0) : joinL acc (t :: r) = joinL acc r := by rw [joinL, if_pos h, if_pos hk]
theorem joinL_first {t : TokI} {r : List TokI} (h : rightL t = true) (hk : t.kind ≠ 0) : joinL [] (t :: r) = joinL (spl t) r := by rw [joinL, if_pos h, if_neg hk, if_pos rfl]
theorem joinL_more {acc : List UInt8} {t : TokI} {r : List TokI} (ha : acc ≠ []) (h : rightL t = true) (hk : t.kind ≠ 0) : joinL acc (t :: r) = joinL (acc ++ 32 :: spl t) r := by rw [joinL, if_pos h, if_neg hk, if_neg ha]
theorem drop_tk {ts : List TkB} {k : Nat} {t : TkB} (h : ts[k]? = some t) : (ts.drop k).map TkB.I = t.I :: (ts.drop (k + 1)).map TkB.I := by
  obtain ⟨hk, e⟩ := List.getElem?_eq_some_iff.1 h
  rw [List.drop_eq_getElem_cons hk, e]; rfl
set_option maxRecDepth 100000 in
set_option maxHeartbeats 8000000 in
theorem print_any (A : Option Addr) (cap : Nat) (ts : List TkB) (w : World) (ht : Tks w.heap.size w A ts) (hlen : ts.length ≤ 4000) (hsz : ∀ t ∈ ts, t.s.size ≤ 200000) (hTab : Tab w) (hT : LxT w) :
    Calls Tryd.prog 20 #[.slice A ts.length cap] w fun e w' => e = .returned (prV (joinL [] (ts.map TkB.I))) ∧ Below w.heap.size w w' := by
  obtain ⟨N, hN⟩ : ∃ N, ts.length = N := ⟨_, rfl⟩
  rw [hN] at hlen ⊢
  have HN := Lib.hid hN
  have HTS := Lib.hid (And.intro ht hsz)
  have HTT := Lib.hid (And.intro hTab hT)
  obtain ⟨res, hr⟩ : ∃ res, joinL [] (ts.map TkB.I) = res := ⟨_, rfl⟩
  rw [hr]
  have HR := Lib.hid hr
  clear hN ht hsz hTab hT hr
  go_enter Tryd.func20, Tryd.ntmps20
  go_wp2_with fail
  go_loopw [9] (fun i wr => ∃ (k : Nat) (acc : List UInt8), k ≤ N ∧ i = .int .i64 k ∧ acc.length ≤ k * 1000000 ∧ Bl.IsB w.heap.size w.heap.size acc wr ∧ Below w.heap.size w wr ∧ joinL acc ((ts.drop k).map TkB.I) = res) (fun i _ => N - (intOf i).toNat)
  case atStart => exact ⟨0, [], Nat.zero_le _, rfl, Nat.zero_le _, Bl.bld_new w, below_oneL w _, by rw [List.drop_zero]; exact HR.out⟩
  case round =>
    obtain ⟨k, acc, hk, rfl, hal, hB, hb, hj⟩ := hrel
    have HB := Lib.hid (And.intro hB hb)
    have HJ := Lib.hid hj
    clear hB hb hj
    by_cases hlt : k < N
    · obtain ⟨t, hkt⟩ : ∃ t, ts[k]? = some t := ⟨_, List.getElem?_eq_getElem (by rw [HN.out]; exact hlt)⟩
      obtain ⟨g, off, rfl, hg, c0, c1, c2, c3⟩ := HTS.out.1.cell k t hkt
      have hok := HTS.out.1.ok t (List.mem_of_getElem? hkt)
      have hs2 := HTS.out.2 t (List.mem_of_getElem? hkt)
      have d0 := (HB.out.2.cell (p := ⟨g, _, none⟩) hg).trans c0
      have d1 := (HB.out.2.cell (p := ⟨g, _, none⟩) hg).trans c1
      have d2 := (HB.out.2.cell (p := ⟨g, _, none⟩) hg).trans c2
      have d3 := (HB.out.2.cell (p := ⟨g, _, none⟩) hg).trans c3
      clear c0 c1 c2 c3
      have hblt : w.heap.size < wr.heap.size := (Bl.IsBM.of HB.out.1).hM
      have HX := Lib.hid (And.intro (heap_alloc_new wr (.cells #[.int .i64 t.k, .string t.s, .int .i64 t.n, .int .i64 t.a] 32)) (And.intro ((Bl.IsBM.of HB.out.1).later (below_oneL wr (.cells #[.int .i64 t.k, .string t.s, .int .i64 t.n, .int .i64 t.a] 32))) (HB.out.2.alloc HB.out.2.size (.cells #[.int .i64 t.k, .string t.s, .int .i64 t.n, .int .i64 t.a] 32))))
      have hszA : (wr.alloc (.cells #[.int .i64 t.k, .string t.s, .int .i64 t.n, .int .i64 t.a] 32)).heap.size = wr.heap.size + 1 := World.size_alloc _ _
      have HSZ := Lib.hid hszA
      have HRT := Lib.hid (right_any t.k t.n t.a t.s hs2 hok.lo hok.hi (wr.alloc (.cells #[.int .i64 t.k, .string t.s, .int .i64 t.n, .int .i64 t.a] 32)) (tab_below HTT.out.1 (Nat.le_refl _) HX.out.2.2) (HTT.out.2.stay HX.out.2.2))
      have HSP := Lib.hid (spelt_any t.k t.n t.a t.s hs2 hok.lo hok.hi)
      have hsl := spl_len t.k t.n t.s hok.lo hok.hi
      have HDT := Lib.hid (drop_tk hkt)
      have hJ2 := HJ.out
      rw [HDT.out] at hJ2
      clear HDT hkt hszA hok
      cases hrt : rightL ⟨t.k, t.s.data.toList, t.n⟩ with
      | false =>
        rw [hrt] at HRT
        have HRES := Lib.hid (show res = none from by rw [← hJ2]; exact joinL_no hrt)
        clear hrt hJ2 hsl
        go_wp2_with fail
        refine HRT.out.mono ?_
        rintro e w1 ⟨rfl, hb1⟩
        have HB1 := Lib.hid (HX.out.2.2.trans (hb1.mono HX.out.2.2.size))
        clear hb1
        go_wp2_with fail
        go_ret2
        exact ⟨by rw [HRES.out]; rfl, HB1.out⟩
      | true =>
        rw [hrt] at HRT
        by_cases hk0 : t.k = 0
        · have HN2 := Lib.hid (show joinL acc ((ts.drop (k + 1)).map TkB.I) = res from by rw [← hJ2]; exact (joinL_end hrt hk0).symm)
          have q0 : (t.k == 0) = true := by rw [hk0]; rfl
          have HA1 := Lib.hid (show acc.length ≤ (k + 1) * 1000000 from Nat.le_trans hal (Nat.mul_le_mul_right _ (Nat.le_succ k)))
          clear hrt hJ2 hk0 hsl
          go_wp2_with fail
          refine HRT.out.mono ?_
          rintro e w1 ⟨rfl, hb1⟩
          have HY := Lib.hid (And.intro (stays_blk HX.out.1 hb1 (by rw [HSZ.out]; omega)) (And.intro (HX.out.2.1.later hb1) (HX.out.2.2.trans (hb1.mono HX.out.2.2.size))))
          clear hb1
          have e0 := blk_cellL HY.out.1 0
          go_wp2_with fail
          go_roundw
          case rel => exact ⟨k + 1, acc, hlt, by go_num, HA1.out, HY.out.2.1.isB, HY.out.2.2, HN2.out⟩
          case measure => simp [intOf]; omega
        · have q0 : (t.k == 0) = false := by rw [beq_eq_false_iff_ne]; exact hk0
          by_cases ha : acc = []
          · subst ha
            have HN2 := Lib.hid (show joinL (spl ⟨t.k, t.s.data.toList, t.n⟩) ((ts.drop (k + 1)).map TkB.I) = res from by rw [← hJ2]; exact (joinL_first hrt hk0).symm)
            have HA1 := Lib.hid (show ([] ++ spl ⟨t.k, t.s.data.toList, t.n⟩).length ≤ (k + 1) * 1000000 from by rw [List.nil_append, Nat.succ_mul]; omega)
            have HA2 := Lib.hid (show ([] : List UInt8).length + (spl ⟨t.k, t.s.data.toList, t.n⟩).length ≤ 140737488355328 from by simp only [List.length_nil]; omega)
            clear hrt hJ2 hk0 hsl
            go_wp2_with fail
            refine HRT.out.mono ?_
            rintro e w1 ⟨rfl, hb1⟩
            have HY := Lib.hid (And.intro (stays_blk HX.out.1 hb1 (by rw [HSZ.out]; omega)) (And.intro (HX.out.2.1.later hb1) (HX.out.2.2.trans (hb1.mono HX.out.2.2.size))))
            clear hb1
            have e0 := blk_cellL HY.out.1 0
            have e1 := blk_cellL HY.out.1 1
            have e2 := blk_cellL HY.out.1 2
            have e3 := blk_cellL HY.out.1 3
            go_wp2_with fail
            refine (Tryd.Builder_Len w.heap.size w.heap.size _ _ HY.out.2.1.isB).mono ?_
            rintro e w2 ⟨rfl, hw2⟩
            subst w2
            go_wp2_with fail
            refine (HSP.out _ (tab_below HTT.out.1 (Nat.le_refl _) HY.out.2.2)).mono ?_
            rintro e w2 ⟨rfl, hb2⟩
            have HZ := Lib.hid (And.intro (HY.out.2.1.later hb2) (HY.out.2.2.trans (hb2.mono HY.out.2.2.size)))
            clear hb2
            go_wp2_with fail
            refine (Bl.bstr_any w.heap.size w.heap.size [] _ _ HZ.out.1.isB HA2.out HZ.out.2.size).mono ?_
            rintro e w3 ⟨rfl, hB3, hb3⟩
            have HU := Lib.hid (And.intro hB3 (HZ.out.2.trans hb3))
            clear hB3 hb3
            go_wp2_with fail
            go_roundw
            case rel => exact ⟨k + 1, _, hlt, by go_num, HA1.out, HU.out.1, HU.out.2, HN2.out⟩
            case measure => simp [intOf]; omega
          · have HN2 := Lib.hid (show joinL (acc ++ 32 :: spl ⟨t.k, t.s.data.toList, t.n⟩) ((ts.drop (k + 1)).map TkB.I) = res from by rw [← hJ2]; exact (joinL_more ha hrt hk0).symm)
            have hap : 0 < acc.length := List.length_pos_iff.2 ha
            have hbl : ((Lib.byteCells acc).length : Int) = (acc.length : Int) := by rw [Lib.byteCells_length]
            have hgt : decide ((0 : Int) < (acc.length : Int)) = true := decide_eq_true (by omega)
            have HLEN := Lib.hid (fun (W : World) (q : Bl.IsB w.heap.size w.heap.size acc W) => show Calls Tryd.prog 31 #[.pointer (some ⟨w.heap.size, 0, none⟩)] W fun e w' => e = .returned (.int .i64 (acc.length : Int)) ∧ w' = W from by
              rw [← hbl]; exact Tryd.Builder_Len w.heap.size w.heap.size _ _ q)
            have h1 : acc.length + 1 ≤ 140737488355328 := by omega
            have h2 : (acc ++ [32]).length + (spl ⟨t.k, t.s.data.toList, t.n⟩).length ≤ 140737488355328 := by rw [List.length_append]; simp only [List.length_cons, List.length_nil]; omega
            have h3 : ((acc ++ [32]) ++ spl ⟨t.k, t.s.data.toList, t.n⟩).length ≤ (k + 1) * 1000000 := by rw [List.length_append, List.length_append, Nat.succ_mul]; simp only [List.length_cons, List.length_nil]; omega
            have HA := Lib.hid (And.intro h1 (And.intro h2 h3))
            clear hrt hJ2 hk0 ha hbl hsl h1 h2 h3
            go_wp2_with fail
            refine HRT.out.mono ?_
            rintro e w1 ⟨rfl, hb1⟩
            have HY := Lib.hid (And.intro (stays_blk HX.out.1 hb1 (by rw [HSZ.out]; omega)) (And.intro (HX.out.2.1.later hb1) (And.intro (HX.out.2.2.trans (hb1.mono HX.out.2.2.size)) (show wr.heap.size < w1.heap.size from by have := hb1.size; rw [HSZ.out] at this; omega))))
            clear hb1
            have e0 := blk_cellL HY.out.1 0
            go_wp2_with fail
            refine (HLEN.out _ HY.out.2.1.isB).mono ?_
            rintro e w2 ⟨rfl, hw2⟩
            subst w2
            go_wp2_with fail
            refine (Bl.bblank_fine wr.heap.size w.heap.size w.heap.size acc _ ⟨HY.out.2.1.hB, hblt, Nat.le_of_lt HY.out.2.2.2, ?lies⟩ HA.out.1 HY.out.2.2.1.size).mono ?_
            case lies => exact HY.out.2.1.lies
            rintro e w2 ⟨rfl, hB2, hb2, hst⟩
            have HZ := Lib.hid (And.intro ((hst wr.heap.size (Nat.le_refl _) HY.out.2.2.2).trans HY.out.1) (And.intro (Bl.IsBM.of hB2) (HY.out.2.2.1.trans hb2)))
            clear hB2 hb2 hst e0
            have e0 := blk_cellL HZ.out.1 0
            have e1 := blk_cellL HZ.out.1 1
            have e2 := blk_cellL HZ.out.1 2
            have e3 := blk_cellL HZ.out.1 3
            go_wp2_with fail
            refine (HSP.out _ (tab_below HTT.out.1 (Nat.le_refl _) HZ.out.2.2)).mono ?_
            rintro e w3 ⟨rfl, hb3⟩
            have HU := Lib.hid (And.intro (HZ.out.2.1.later hb3) (HZ.out.2.2.trans (hb3.mono HZ.out.2.2.size)))
            clear hb3
            go_wp2_with fail
            refine (Bl.bstr_any w.heap.size w.heap.size (acc ++ [32]) _ _ HU.out.1.isB HA.out.2.1 HU.out.2.size).mono ?_
            rintro e w4 ⟨rfl, hB4, hb4⟩
            have HQ := Lib.hid (And.intro hB4 (HU.out.2.trans hb4))
            clear hB4 hb4
            go_wp2_with fail
            go_roundw
            case rel => exact ⟨k + 1, _, hlt, by go_num, HA.out.2.2, HQ.out.1, HQ.out.2, by rw [List.append_assoc]; exact HN2.out⟩
            case measure => simp [intOf]; omega
    · have hke : k = N := by omega
      subst hke
      have HRES := Lib.hid (show res = some acc from by rw [← HJ.out, List.drop_of_length_le (by rw [HN.out]; exact Nat.le_refl _)]; rfl)
      clear hlt
      go_wp2_with fail
      refine (Tryd.Builder_String_any w.heap.size w.heap.size acc _ HB.out.1 HB.out.2.size).mono ?_
      rintro e w1 ⟨rfl, hb1⟩
      have HB1 := Lib.hid (HB.out.2.trans hb1)
      clear hb1
      go_wp2_with fail
      go_ret2
      exact ⟨by rw [HRES.out]; rfl, HB1.out⟩
end Go.Proofs.YtphhokpbkcdljaaDoor
namespace Go.Proofs.YtphhokpbkcdljaaDoor
open Go Go.RowKit
theorem app_lit (S : ByteArray) (l : List UInt8) : (S ++ (⟨l.toArray⟩ : ByteArray)).data.toList = S.data.toList ++ l := by
  rw [ByteArray.data_append]; simp
set_option maxRecDepth 100000 in
set_option maxHeartbeats 8000000 in
theorem ref_print (A : Option Addr) (cap : Nat) (ts : List TkB) (w : World) (ht : Tks w.heap.size w A ts) (hlen : ts.length ≤ 4000) (hsz : ∀ t ∈ ts, t.s.size ≤ 200000) :
    Calls Tryd.prog 21 #[.slice A ts.length cap] w fun e w' => e = .returned (prV (joinL [] (ts.map TkB.I))) ∧ Below w.heap.size w w' := by
  obtain ⟨N, hN⟩ : ∃ N, ts.length = N := ⟨_, rfl⟩
  rw [hN] at hlen ⊢
  have HN := Lib.hid hN
  have HTS := Lib.hid (And.intro ht hsz)
  obtain ⟨res, hr⟩ : ∃ res, joinL [] (ts.map TkB.I) = res := ⟨_, rfl⟩
  rw [hr]
  have HR := Lib.hid hr
  clear hN ht hsz hr
  go_enter Tryd.func21, Tryd.ntmps21
  go_wp2_with fail
  go_loopw [4, 5] (fun v i wr => ∃ (k : Nat) (S : ByteArray), k ≤ N ∧ i = .int .i64 k ∧ v = .string S ∧ S.size ≤ k * 1000000 ∧ Below w.heap.size w wr ∧ joinL S.data.toList ((ts.drop k).map TkB.I) = res) (fun _ i _ => N - (intOf i).toNat)
  case atStart => exact ⟨0, ⟨#[]⟩, Nat.zero_le _, rfl, rfl, Nat.zero_le _, Below.refl _ _, by rw [List.drop_zero]; exact HR.out⟩
  case round =>
    obtain ⟨k, S, hk, rfl, rfl, hal, hb, hj⟩ := hrel
    have HB := Lib.hid hb
    have HJ := Lib.hid hj
    clear hb hj
    by_cases hlt : k < N
    · obtain ⟨t, hkt⟩ : ∃ t, ts[k]? = some t := ⟨_, List.getElem?_eq_getElem (by rw [HN.out]; exact hlt)⟩
      obtain ⟨g, off, rfl, hg, c0, c1, c2, c3⟩ := HTS.out.1.cell k t hkt
      have hok := HTS.out.1.ok t (List.mem_of_getElem? hkt)
      have hs2 := HTS.out.2 t (List.mem_of_getElem? hkt)
      have HC := Lib.hid (And.intro hg (And.intro c0 (And.intro c1 (And.intro c2 c3))))
      have d0 := (HB.out.cell (p := ⟨g, _, none⟩) hg).trans c0
      have d1 := (HB.out.cell (p := ⟨g, _, none⟩) hg).trans c1
      have d2 := (HB.out.cell (p := ⟨g, _, none⟩) hg).trans c2
      have d3 := (HB.out.cell (p := ⟨g, _, none⟩) hg).trans c3
      clear c0 c1 c2 c3 hg
      have HRT := Lib.hid (ref_right t.k t.n t.a t.s hs2 hok.lo hok.hi wr)
      have HWR := Lib.hid (ref_written t.k t.n t.a t.s hs2 hok.lo hok.hi)
      have hsl := spl_len t.k t.n t.s hok.lo hok.hi
      have HDT := Lib.hid (drop_tk hkt)
      have hJ2 := HJ.out
      rw [HDT.out] at hJ2
      clear HDT hkt hok
      cases hrt : rightL ⟨t.k, t.s.data.toList, t.n⟩ with
      | false =>
        rw [hrt] at HRT
        have HRES := Lib.hid (show res = none from by rw [← hJ2]; exact joinL_no hrt)
        clear hrt hJ2 hsl
        go_wp2_with fail
        refine HRT.out.mono ?_
        rintro e w1 ⟨rfl, hb1⟩
        have HB1 := Lib.hid (HB.out.trans (hb1.mono HB.out.size))
        clear hb1
        go_wp2_with fail
        go_ret2
        exact ⟨by rw [HRES.out]; rfl, HB1.out⟩
      | true =>
        rw [hrt] at HRT
        have hSl : S.data.toList.length = S.size := by simp
        by_cases hk0 : t.k = 0
        · have HN2 := Lib.hid (show joinL S.data.toList ((ts.drop (k + 1)).map TkB.I) = res from by rw [← hJ2]; exact (joinL_end hrt hk0).symm)
          have hw0 : wrt ⟨t.k, t.s.data.toList, t.n⟩ = [] := by unfold wrt; exact if_pos hk0
          rw [hw0] at HWR
          have q0 : (t.k == 0) = true := by rw [hk0]; rfl
          have HA1 := Lib.hid (show (S ++ (⟨#[]⟩ : ByteArray)).size ≤ (k + 1) * 1000000 from by rw [ByteArray.size_append]; exact Nat.le_trans hal (Nat.mul_le_mul_right _ (Nat.le_succ k)))
          have hsum : S.size + (⟨#[]⟩ : ByteArray).size ≤ 140737488355328 := by show S.size + 0 ≤ _; omega
          have HE := Lib.hid (show (S ++ (⟨#[]⟩ : ByteArray)).data.toList = S.data.toList from by rw [show (⟨#[]⟩ : ByteArray) = ⟨([] : List UInt8).toArray⟩ from rfl, app_lit, List.append_nil])
          clear hw0 hSl
          cases es : S.toList.isEmpty with
          | true =>
            clear hrt hJ2 hk0 hsl
            go_wp2_with fail
            refine HRT.out.mono ?_
            rintro e w1 ⟨rfl, hb1⟩
            have HB1 := Lib.hid (HB.out.trans (hb1.mono HB.out.size))
            have e0 := (HB1.out.cell (p := ⟨g, _, none⟩) HC.out.1).trans HC.out.2.1
            have e1 := (HB1.out.cell (p := ⟨g, _, none⟩) HC.out.1).trans HC.out.2.2.1
            have e2 := (HB1.out.cell (p := ⟨g, _, none⟩) HC.out.1).trans HC.out.2.2.2.1
            have e3 := (HB1.out.cell (p := ⟨g, _, none⟩) HC.out.1).trans HC.out.2.2.2.2
            clear hb1 d0 d1 d2 d3
            go_wp2_with fail
            refine (HWR.out _).mono ?_
            rintro e w2 ⟨rfl, hb2⟩
            have HB2 := Lib.hid (HB1.out.trans (hb2.mono HB1.out.size))
            clear hb2
            go_wp2_with fail
            go_roundw
            case rel => exact ⟨k + 1, _, hlt, by go_num, rfl, HA1.out, HB2.out, by rw [HE.out]; exact HN2.out⟩
            case measure => simp [intOf]; omega
          | false =>
            clear hrt hJ2 hk0 hsl
            go_wp2_with fail
            refine HRT.out.mono ?_
            rintro e w1 ⟨rfl, hb1⟩
            have HB1 := Lib.hid (HB.out.trans (hb1.mono HB.out.size))
            have e0 := (HB1.out.cell (p := ⟨g, _, none⟩) HC.out.1).trans HC.out.2.1
            have e1 := (HB1.out.cell (p := ⟨g, _, none⟩) HC.out.1).trans HC.out.2.2.1
            have e2 := (HB1.out.cell (p := ⟨g, _, none⟩) HC.out.1).trans HC.out.2.2.2.1
            have e3 := (HB1.out.cell (p := ⟨g, _, none⟩) HC.out.1).trans HC.out.2.2.2.2
            clear hb1 d0 d1 d2 d3
            go_wp2_with fail
            refine (HWR.out _).mono ?_
            rintro e w2 ⟨rfl, hb2⟩
            have HB2 := Lib.hid (HB1.out.trans (hb2.mono HB1.out.size))
            clear hb2
            go_wp2_with fail
            go_roundw
            case rel => exact ⟨k + 1, _, hlt, by go_num, rfl, HA1.out, HB2.out, by rw [HE.out]; exact HN2.out⟩
            case measure => simp [intOf]; omega
        · have hw0 : wrt ⟨t.k, t.s.data.toList, t.n⟩ = spl ⟨t.k, t.s.data.toList, t.n⟩ := by unfold wrt; exact if_neg hk0
          rw [hw0] at HWR
          have q0 : (t.k == 0) = false := by rw [beq_eq_false_iff_ne]; exact hk0
          obtain ⟨L, hL⟩ : ∃ L, spl ⟨t.k, t.s.data.toList, t.n⟩ = L := ⟨_, rfl⟩
          rw [hL] at HWR hsl
          obtain ⟨R, hR⟩ : ∃ R : ByteArray, (⟨L.toArray⟩ : ByteArray) = R := ⟨_, rfl⟩
          have hRs : R.size = L.length := by rw [← hR]; simp [ByteArray.size]
          have hRl : R.data.toList = L := by rw [← hR]
          rw [hR] at HWR
          by_cases hS0 : S.data.toList = []
          · have es : S.toList.isEmpty = true := by rw [Lib.toList_data, hS0]; rfl
            rw [hS0] at hJ2
            have HN2 := Lib.hid (show joinL L ((ts.drop (k + 1)).map TkB.I) = res from by rw [← hJ2, ← hL]; exact (joinL_first hrt hk0).symm)
            have HA1 := Lib.hid (show (S ++ R).size ≤ (k + 1) * 1000000 from by rw [ByteArray.size_append, Nat.succ_mul]; omega)
            have hsum : S.size + R.size ≤ 140737488355328 := by omega
            have HE := Lib.hid (show (S ++ R).data.toList = L from by rw [ByteArray.data_append]; simp [hS0, hRl])
            clear hw0 hL hR hRs hRl hS0 hSl
            clear hrt hJ2 hk0 hsl
            go_wp2_with fail
            refine HRT.out.mono ?_
            rintro e w1 ⟨rfl, hb1⟩
            have HB1 := Lib.hid (HB.out.trans (hb1.mono HB.out.size))
            have e0 := (HB1.out.cell (p := ⟨g, _, none⟩) HC.out.1).trans HC.out.2.1
            have e1 := (HB1.out.cell (p := ⟨g, _, none⟩) HC.out.1).trans HC.out.2.2.1
            have e2 := (HB1.out.cell (p := ⟨g, _, none⟩) HC.out.1).trans HC.out.2.2.2.1
            have e3 := (HB1.out.cell (p := ⟨g, _, none⟩) HC.out.1).trans HC.out.2.2.2.2
            clear hb1 d0 d1 d2 d3
            go_wp2_with fail
            refine (HWR.out _).mono ?_
            rintro e w2 ⟨rfl, hb2⟩
            have HB2 := Lib.hid (HB1.out.trans (hb2.mono HB1.out.size))
            clear hb2
            go_wp2_with fail
            go_roundw
            case rel => exact ⟨k + 1, _, hlt, by go_num, rfl, HA1.out, HB2.out, by rw [HE.out]; exact HN2.out⟩
            case measure => simp [intOf]; omega
          · have es : S.toList.isEmpty = false := by rw [Lib.toList_data]; simpa using hS0
            have HN2 := Lib.hid (show joinL (S.data.toList ++ 32 :: L) ((ts.drop (k + 1)).map TkB.I) = res from by rw [← hJ2, ← hL]; exact (joinL_more hS0 hrt hk0).symm)
            have h32 : (⟨#[32]⟩ : ByteArray).size = 1 := rfl
            have HA1 := Lib.hid (show ((S ++ (⟨#[32]⟩ : ByteArray)) ++ R).size ≤ (k + 1) * 1000000 from by rw [ByteArray.size_append, ByteArray.size_append, Nat.succ_mul]; omega)
            have hsum0 : S.size + (⟨#[32]⟩ : ByteArray).size ≤ 140737488355328 := by omega
            have hsum : (S ++ (⟨#[32]⟩ : ByteArray)).size + R.size ≤ 140737488355328 := by rw [ByteArray.size_append]; omega
            have HE := Lib.hid (show ((S ++ (⟨#[32]⟩ : ByteArray)) ++ R).data.toList = S.data.toList ++ 32 :: L from by rw [ByteArray.data_append, ByteArray.data_append]; simp [hRl])
            clear hw0 hL hR hRs hRl hS0 hSl
            clear hrt hJ2 hk0 hsl
            go_wp2_with fail
            refine HRT.out.mono ?_
            rintro e w1 ⟨rfl, hb1⟩
            have HB1 := Lib.hid (HB.out.trans (hb1.mono HB.out.size))
            have e0 := (HB1.out.cell (p := ⟨g, _, none⟩) HC.out.1).trans HC.out.2.1
            have e1 := (HB1.out.cell (p := ⟨g, _, none⟩) HC.out.1).trans HC.out.2.2.1
            have e2 := (HB1.out.cell (p := ⟨g, _, none⟩) HC.out.1).trans HC.out.2.2.2.1
            have e3 := (HB1.out.cell (p := ⟨g, _, none⟩) HC.out.1).trans HC.out.2.2.2.2
            clear hb1 d0 d1 d2 d3
            go_wp2_with fail
            refine (HWR.out _).mono ?_
            rintro e w2 ⟨rfl, hb2⟩
            have HB2 := Lib.hid (HB1.out.trans (hb2.mono HB1.out.size))
            clear hb2
            go_wp2_with fail
            go_roundw
            case rel => exact ⟨k + 1, _, hlt, by go_num, rfl, HA1.out, HB2.out, by rw [HE.out]; exact HN2.out⟩
            case measure => simp [intOf]; omega
    · have hke : k = N := by omega
      subst hke
      have HRES := Lib.hid (show res = some S.data.toList from by rw [← HJ.out, List.drop_of_length_le (by rw [HN.out]; exact Nat.le_refl _)]; rfl)
      clear hlt
      go_wp2_with fail
      go_ret2
      exact ⟨by rw [HRES.out]; rfl, HB.out⟩
end Go.Proofs.YtphhokpbkcdljaaDoor
namespace Go.Proofs.YtphhokpbkcdljaaDoor
open Go Go.RowKit
/-- what of a token is compared -/
def TkB.key (p : Bool) (t : TkB) : Int × List UInt8 × Int × Int := (t.k, t.s.data.toList, t.n, if p = true then t.a else 0)
def sameT (p : Bool) (xs ys : List TkB) : Bool := decide (xs.map (TkB.key p) = ys.map (TkB.key p))
theorem sameT_len {p : Bool} {xs ys : List TkB} (h : xs.length ≠ ys.length) : sameT p xs ys = false := by
  unfold sameT
  rw [decide_eq_false_iff_not]
  intro q
  have := congrArg List.length q
  simp at this
  exact h this
theorem sameT_no {p : Bool} {xs ys : List TkB} {k : Nat} {x y : TkB} (hx : xs[k]? = some x) (hy : ys[k]? = some y) (h : x.key p ≠ y.key p) : sameT p xs ys = false := by
  unfold sameT
  rw [decide_eq_false_iff_not]
  intro q
  have := congrArg (·[k]?) q
  simp [hx, hy] at this
  exact h this
theorem sameT_yes {p : Bool} {xs ys : List TkB} (hl : xs.length = ys.length) (h : ∀ k, k < xs.length → ∀ x y, xs[k]? = some x → ys[k]? = some y → x.key p = y.key p) : sameT p xs ys = true := by
  unfold sameT
  rw [decide_eq_true_eq]
  apply List.ext_getElem?
  intro k
  by_cases hk : k < xs.length
  · simp only [List.getElem?_map, List.getElem?_eq_getElem hk, List.getElem?_eq_getElem (show k < ys.length by omega)]
    exact congrArg some (h k hk _ _ (List.getElem?_eq_getElem hk) (List.getElem?_eq_getElem (by omega)))
  · simp only [List.getElem?_map, List.getElem?_eq_none (show xs.length ≤ k by omega), List.getElem?_eq_none (show ys.length ≤ k by omega)]
theorem key_inj {p : Bool} {xk yk xn yn xa ya : Int} {xs ys : ByteArray} (h : TkB.key p ⟨xk, xs, xn, xa⟩ = TkB.key p ⟨yk, ys, yn, ya⟩) : xk = yk ∧ xs.toList = ys.toList ∧ xn = yn ∧ (p = true → xa = ya) := by
  unfold TkB.key at h
  simp only [Prod.mk.injEq] at h
  obtain ⟨h1, h2, h3, h4⟩ := h
  exact ⟨h1, by rw [Lib.toList_data, Lib.toList_data]; exact h2, h3, fun q => by rw [if_pos q, if_pos q] at h4; exact h4⟩
theorem key_mk {p : Bool} {xk yk xn yn xa ya : Int} {xs ys : ByteArray} (h1 : xk = yk) (h2 : xs.toList = ys.toList) (h3 : xn = yn) (h4 : p = true → xa = ya) : TkB.key p ⟨xk, xs, xn, xa⟩ = TkB.key p ⟨yk, ys, yn, ya⟩ := by
  unfold TkB.key
  rw [Lib.toList_data, Lib.toList_data] at h2
  simp only [Prod.mk.injEq]
  refine ⟨h1, h2, h3, ?_⟩
  by_cases q : p = true
  · rw [if_pos q, if_pos q]; exact h4 q
  · rw [if_neg q, if_neg q]
theorem same_next {p : Bool} {xs ys : List TkB} {k : Nat} {a b : TkB} (h : ∀ j, j < k → ∀ x y, xs[j]? = some x → ys[j]? = some y → x.key p = y.key p) (ha : xs[k]? = some a) (hb : ys[k]? = some b) (hk : a.key p = b.key p) :
    ∀ j, j < k + 1 → ∀ x y, xs[j]? = some x → ys[j]? = some y → x.key p = y.key p := by
  intro j hj x y hx hy
  by_cases e : j = k
  · subst e
    rw [ha] at hx
    rw [hb] at hy
    injection hx with hx
    injection hy with hy
    rw [← hx, ← hy]; exact hk
  · exact h j (by omega) x y hx hy
theorem two_blk {w W8 : World} {o o' : Obj} (h : World.drew (World.alloc (World.alloc w o) o') = W8) : W8.heap[w.heap.size]? = some o ∧ W8.heap[w.heap.size + 1]? = some o' ∧ Below w.heap.size w W8 := by
  subst h
  have h1 := heap_alloc_new w o
  have h2 := heap_alloc_new (w.alloc o) o'
  rw [World.size_alloc] at h2
  refine ⟨?_, h2, ((below_oneL w o).alloc (by rw [World.size_alloc]; omega) _).drew⟩
  show ((w.alloc o).alloc o').heap[w.heap.size]? = _
  rw [heap_alloc_old (w.alloc o) o']
  · exact h1
  · rw [World.size_alloc]; omega
set_option maxRecDepth 100000 in
set_option maxHeartbeats 8000000 in
theorem same_any (A B : Option Addr) (ca cb : Nat) (xs ys : List TkB) (p : Bool) (w : World) (hx : Tks w.heap.size w A xs) (hy : Tks w.heap.size w B ys) :
    Calls Tryd.prog 15 #[.slice A xs.length ca, .slice B ys.length cb, .bool p] w fun e w' => e = .returned (.bool (sameT p xs ys)) ∧ Below w.heap.size w w' := by
  by_cases hl : xs.length = ys.length
  · have hlB : ((xs.length : Int) != (ys.length : Int)) = false := by rw [bne_eq_false_iff_eq]; omega
    rw [← hl] at hlB ⊢
    have HX := Lib.hid (And.intro hx hy)
    have HL := Lib.hid hl
    have hf := hx.few
    obtain ⟨N, hN⟩ : ∃ N, xs.length = N := ⟨_, rfl⟩
    rw [hN] at hlB hf ⊢
    have HN := Lib.hid hN
    clear hl hx hy hN
    go_enter Tryd.func15, Tryd.ntmps15
    go_wp2_with fail
    go_loopw [7] (fun i wr => ∃ k : Nat, k ≤ N ∧ i = .int .i64 k ∧ Below w.heap.size w wr ∧ ∀ j, j < k → ∀ x y, xs[j]? = some x → ys[j]? = some y → x.key p = y.key p) (fun i _ => N - (intOf i).toNat)
    case atStart => exact ⟨0, Nat.zero_le _, rfl, Below.refl _ _, fun j hj => absurd hj (Nat.not_lt_zero _)⟩
    case round =>
      obtain ⟨k, hk, rfl, hb, hq⟩ := hrel
      have HB := Lib.hid (And.intro hb hq)
      clear hb hq
      by_cases hlt : k < N
      · obtain ⟨x, hkx⟩ : ∃ x, xs[k]? = some x := ⟨_, List.getElem?_eq_getElem (by rw [HN.out]; exact hlt)⟩
        obtain ⟨y, hky⟩ : ∃ y, ys[k]? = some y := ⟨_, List.getElem?_eq_getElem (by rw [← HL.out, HN.out]; exact hlt)⟩
        obtain ⟨g, off, rfl, hg, c0, c1, c2, c3⟩ := HX.out.1.cell k x hkx
        obtain ⟨g', off', rfl, hg', c4, c5, c6, c7⟩ := HX.out.2.cell k y hky
        have d0 := (HB.out.1.cell (p := ⟨g, _, none⟩) hg).trans c0
        have d1 := (HB.out.1.cell (p := ⟨g, _, none⟩) hg).trans c1
        have d2 := (HB.out.1.cell (p := ⟨g, _, none⟩) hg).trans c2
        have d3 := (HB.out.1.cell (p := ⟨g, _, none⟩) hg).trans c3
        have d4 := (HB.out.1.cell (p := ⟨g', _, none⟩) hg').trans c4
        have d5 := (HB.out.1.cell (p := ⟨g', _, none⟩) hg').trans c5
        have d6 := (HB.out.1.cell (p := ⟨g', _, none⟩) hg').trans c6
        have d7 := (HB.out.1.cell (p := ⟨g', _, none⟩) hg').trans c7
        have HK := Lib.hid (And.intro hkx hky)
        clear c0 c1 c2 c3 c4 c5 c6 c7 hg hg' hkx hky
        obtain ⟨xk, xs1, xn, xa⟩ := x
        obtain ⟨yk, ys1, yn, ya⟩ := y
        simp only at d0 d1 d2 d3 d4 d5 d6 d7
        go_wp2_with fail
        have n0 := World.new_ne wr _ d0
        have n4 := World.new_ne wr _ d4
        go_region_held3 (fun X => X.cell? ⟨g, off + k * 4, none⟩ = some (.int .i64 xk) ∧ X.cell? ⟨g, off + k * 4 + 1, none⟩ = some (.string xs1) ∧ X.cell? ⟨g, off + k * 4 + 2, none⟩ = some (.int .i64 xn) ∧ X.cell? ⟨g, off + k * 4 + 3, none⟩ = some (.int .i64 xa) ∧ X.cell? ⟨g', off' + k * 4, none⟩ = some (.int .i64 yk) ∧ X.cell? ⟨g', off' + k * 4 + 1, none⟩ = some (.string ys1) ∧ X.cell? ⟨g', off' + k * 4 + 2, none⟩ = some (.int .i64 yn) ∧ X.cell? ⟨g', off' + k * 4 + 3, none⟩ = some (.int .i64 ya)) (first | go_keep) (fail)
        · generalize hW8 : World.drew (World.alloc (World.alloc wr _) _) = W8
          have h2 := two_blk hW8
          clear hW8 n0 n4 d0 d1 d2 d3 d4 d5 d6 d7
          have HW := Lib.hid (And.intro h2 (HB.out.1.trans (h2.2.2.mono HB.out.1.size)))
          clear h2
          obtain ⟨B0, hB0⟩ : ∃ B0, wr.heap.size = B0 := ⟨_, rfl⟩
          rw [hB0] at HW ⊢
          obtain ⟨B1, hB1⟩ : ∃ B1, B0 + 1 = B1 := ⟨_, rfl⟩
          rw [hB1] at HW ⊢
          have HBB := Lib.hid (show B0 ≠ B1 from by omega)
          have HB0 := Lib.hid (show w.heap.size ≤ B0 ∧ w.heap.size ≤ B1 from by have := HB.out.1.size; omega)
          clear hB0 hB1
          have hbx := HW.out.1.1
          have hby := HW.out.1.2.1
          have HBX := Lib.hid hbx
          have HBY := Lib.hid hby
          clear hbx hby
          cases p
          · have f0 := blk_freeL HBX.out 3
            have f1 := blk_freeL HBY.out 3
            have e3 := blk_cellL HBX.out 3
            have e7 := blk_cellL HBY.out 3
            obtain ⟨W9, hW9⟩ : ∃ W9, (W8.setCell ⟨B0, 3, none⟩ (.int .i64 0)).setCell ⟨B1, 3, none⟩ (.int .i64 0) = W9 := ⟨_, rfl⟩
            have hz1 : (W8.setCell ⟨B0, 3, none⟩ (.int .i64 0)).heap[B1]? = some (.cells #[.int .i64 yk, .string ys1, .int .i64 yn, .int .i64 ya] 32 (0, 0)) := by
              show (W8.heap.modify B0 _)[B1]? = _
              rw [Array.getElem?_modify, if_neg HBB.out]; exact HBY.out
            have hz2 : W9.heap[B1]? = some (.cells #[.int .i64 yk, .string ys1, .int .i64 yn, .int .i64 0] 32 (0, 0)) := by
              rw [← hW9]
              have := blk_setL hz1 3 (.int .i64 0)
              simpa using this
            have hz3 : W9.heap[B0]? = some (.cells #[.int .i64 xk, .string xs1, .int .i64 xn, .int .i64 0] 32 (0, 0)) := by
              rw [← hW9]
              show ((W8.setCell ⟨B0, 3, none⟩ (.int .i64 0)).heap.modify B1 _)[B0]? = _
              rw [Array.getElem?_modify, if_neg (fun q => HBB.out q.symm)]
              have := blk_setL HBX.out 3 (.int .i64 0)
              simpa using this
            have hz4 : Below w.heap.size w W9 := by rw [← hW9]; exact (HW.out.2.setCell (p := ⟨B0, 3, none⟩) HB0.out.1 _).setCell (p := ⟨B1, 3, none⟩) HB0.out.2 _
            have e7' := blk_cellL hz1 3
            have f1' := blk_freeL hz1 3
            have HZ := Lib.hid (And.intro hz2 (And.intro hz3 hz4))
            clear hz1 hz2 hz3 hz4
            rw [← hW9] at HZ
            have g0 := blk_cellL HZ.out.2.1 0
            have g1 := blk_cellL HZ.out.2.1 1
            have g2 := blk_cellL HZ.out.2.1 2
            have g3 := blk_cellL HZ.out.2.1 3
            have g4 := blk_cellL HZ.out.1 0
            have g5 := blk_cellL HZ.out.1 1
            have g6 := blk_cellL HZ.out.1 2
            have g7 := blk_cellL HZ.out.1 3
            clear hW9
            go_wp2_with fail
            all_goals
              first
              | (go_ret; exact ⟨by rw [sameT_no HK.out.1 HK.out.2 (fun q => absurd (key_inj q).1 (by assumption))]; rfl, HZ.out.2.2⟩)
              | (go_ret; exact ⟨by rw [sameT_no HK.out.1 HK.out.2 (fun q => absurd (key_inj q).2.1 (by assumption))]; rfl, HZ.out.2.2⟩)
              | (go_ret; exact ⟨by rw [sameT_no HK.out.1 HK.out.2 (fun q => absurd (key_inj q).2.2.1 (by assumption))]; rfl, HZ.out.2.2⟩)
              | (go_ret; exact ⟨by rw [sameT_no HK.out.1 HK.out.2 (fun q => absurd ((key_inj q).2.2.2 rfl) (by assumption))]; rfl, HZ.out.2.2⟩)
              | skip
            go_roundw
            case rel => exact ⟨k + 1, hlt, by go_num, HZ.out.2.2, same_next HB.out.2 HK.out.1 HK.out.2 (key_mk (by assumption) (by assumption) (by assumption) (fun q => by cases q))⟩
            case measure => simp [intOf]; omega
          · have e0 := blk_cellL HBX.out 0
            have e1 := blk_cellL HBX.out 1
            have e2 := blk_cellL HBX.out 2
            have e3 := blk_cellL HBX.out 3
            have e4 := blk_cellL HBY.out 0
            have e5 := blk_cellL HBY.out 1
            have e6 := blk_cellL HBY.out 2
            have e7 := blk_cellL HBY.out 3
            go_wp2_with fail
            all_goals
              first
              | (go_ret; exact ⟨by rw [sameT_no HK.out.1 HK.out.2 (fun q => absurd (key_inj q).1 (by assumption))]; rfl, HW.out.2⟩)
              | (go_ret; exact ⟨by rw [sameT_no HK.out.1 HK.out.2 (fun q => absurd (key_inj q).2.1 (by assumption))]; rfl, HW.out.2⟩)
              | (go_ret; exact ⟨by rw [sameT_no HK.out.1 HK.out.2 (fun q => absurd (key_inj q).2.2.1 (by assumption))]; rfl, HW.out.2⟩)
              | (go_ret; exact ⟨by rw [sameT_no HK.out.1 HK.out.2 (fun q => absurd ((key_inj q).2.2.2 rfl) (by assumption))]; rfl, HW.out.2⟩)
              | skip
            go_roundw
            case rel => exact ⟨k + 1, hlt, by go_num, HW.out.2, same_next HB.out.2 HK.out.1 HK.out.2 (key_mk (by assumption) (by assumption) (by assumption) (fun _ => by assumption))⟩
            case measure => simp [intOf]; omega
        · generalize hW8 : World.drew (World.alloc (World.alloc wr _) _) = W8
          have h2 := two_blk hW8
          clear hW8 n0 n4 d0 d1 d2 d3 d4 d5 d6 d7
          have HW := Lib.hid (And.intro h2 (HB.out.1.trans (h2.2.2.mono HB.out.1.size)))
          clear h2
          obtain ⟨B0, hB0⟩ : ∃ B0, wr.heap.size = B0 := ⟨_, rfl⟩
          rw [hB0] at HW ⊢
          obtain ⟨B1, hB1⟩ : ∃ B1, B0 + 1 = B1 := ⟨_, rfl⟩
          rw [hB1] at HW ⊢
          have HBB := Lib.hid (show B0 ≠ B1 from by omega)
          have HB0 := Lib.hid (show w.heap.size ≤ B0 ∧ w.heap.size ≤ B1 from by have := HB.out.1.size; omega)
          clear hB0 hB1
          have hbx := HW.out.1.2.1
          have hby := HW.out.1.1
          have HBX := Lib.hid hbx
          have HBY := Lib.hid hby
          clear hbx hby
          cases p
          · have f0 := blk_freeL HBX.out 3
            have f1 := blk_freeL HBY.out 3
            have e3 := blk_cellL HBX.out 3
            have e7 := blk_cellL HBY.out 3
            obtain ⟨W9, hW9⟩ : ∃ W9, (W8.setCell ⟨B1, 3, none⟩ (.int .i64 0)).setCell ⟨B0, 3, none⟩ (.int .i64 0) = W9 := ⟨_, rfl⟩
            have hz1 : (W8.setCell ⟨B1, 3, none⟩ (.int .i64 0)).heap[B0]? = some (.cells #[.int .i64 yk, .string ys1, .int .i64 yn, .int .i64 ya] 32 (0, 0)) := by
              show (W8.heap.modify B1 _)[B0]? = _
              rw [Array.getElem?_modify, if_neg (fun q => HBB.out q.symm)]; exact HBY.out
            have hz2 : W9.heap[B0]? = some (.cells #[.int .i64 yk, .string ys1, .int .i64 yn, .int .i64 0] 32 (0, 0)) := by
              rw [← hW9]
              have := blk_setL hz1 3 (.int .i64 0)
              simpa using this
            have hz3 : W9.heap[B1]? = some (.cells #[.int .i64 xk, .string xs1, .int .i64 xn, .int .i64 0] 32 (0, 0)) := by
              rw [← hW9]
              show ((W8.setCell ⟨B1, 3, none⟩ (.int .i64 0)).heap.modify B0 _)[B1]? = _
              rw [Array.getElem?_modify, if_neg HBB.out]
              have := blk_setL HBX.out 3 (.int .i64 0)
              simpa using this
            have hz4 : Below w.heap.size w W9 := by rw [← hW9]; exact (HW.out.2.setCell (p := ⟨B1, 3, none⟩) HB0.out.2 _).setCell (p := ⟨B0, 3, none⟩) HB0.out.1 _
            have e7' := blk_cellL hz1 3
            have f1' := blk_freeL hz1 3
            have HZ := Lib.hid (And.intro hz2 (And.intro hz3 hz4))
            clear hz1 hz2 hz3 hz4
            rw [← hW9] at HZ
            have g0 := blk_cellL HZ.out.2.1 0
            have g1 := blk_cellL HZ.out.2.1 1
            have g2 := blk_cellL HZ.out.2.1 2
            have g3 := blk_cellL HZ.out.2.1 3
            have g4 := blk_cellL HZ.out.1 0
            have g5 := blk_cellL HZ.out.1 1
            have g6 := blk_cellL HZ.out.1 2
            have g7 := blk_cellL HZ.out.1 3
            clear hW9
            go_wp2_with fail
            all_goals
              first
              | (go_ret; exact ⟨by rw [sameT_no HK.out.1 HK.out.2 (fun q => absurd (key_inj q).1 (by assumption))]; rfl, HZ.out.2.2⟩)
              | (go_ret; exact ⟨by rw [sameT_no HK.out.1 HK.out.2 (fun q => absurd (key_inj q).2.1 (by assumption))]; rfl, HZ.out.2.2⟩)
              | (go_ret; exact ⟨by rw [sameT_no HK.out.1 HK.out.2 (fun q => absurd (key_inj q).2.2.1 (by assumption))]; rfl, HZ.out.2.2⟩)
              | (go_ret; exact ⟨by rw [sameT_no HK.out.1 HK.out.2 (fun q => absurd ((key_inj q).2.2.2 rfl) (by assumption))]; rfl, HZ.out.2.2⟩)
              | skip
            go_roundw
            case rel => exact ⟨k + 1, hlt, by go_num, HZ.out.2.2, same_next HB.out.2 HK.out.1 HK.out.2 (key_mk (by assumption) (by assumption) (by assumption) (fun q => by cases q))⟩
            case measure => simp [intOf]; omega
          · have e0 := blk_cellL HBX.out 0
            have e1 := blk_cellL HBX.out 1
            have e2 := blk_cellL HBX.out 2
            have e3 := blk_cellL HBX.out 3
            have e4 := blk_cellL HBY.out 0
            have e5 := blk_cellL HBY.out 1
            have e6 := blk_cellL HBY.out 2
            have e7 := blk_cellL HBY.out 3
            go_wp2_with fail
            all_goals
              first
              | (go_ret; exact ⟨by rw [sameT_no HK.out.1 HK.out.2 (fun q => absurd (key_inj q).1 (by assumption))]; rfl, HW.out.2⟩)
              | (go_ret; exact ⟨by rw [sameT_no HK.out.1 HK.out.2 (fun q => absurd (key_inj q).2.1 (by assumption))]; rfl, HW.out.2⟩)
              | (go_ret; exact ⟨by rw [sameT_no HK.out.1 HK.out.2 (fun q => absurd (key_inj q).2.2.1 (by assumption))]; rfl, HW.out.2⟩)
              | (go_ret; exact ⟨by rw [sameT_no HK.out.1 HK.out.2 (fun q => absurd ((key_inj q).2.2.2 rfl) (by assumption))]; rfl, HW.out.2⟩)
              | skip
            go_roundw
            case rel => exact ⟨k + 1, hlt, by go_num, HW.out.2, same_next HB.out.2 HK.out.1 HK.out.2 (key_mk (by assumption) (by assumption) (by assumption) (fun _ => by assumption))⟩
            case measure => simp [intOf]; omega
      · have hke : k = N := by omega
        subst hke
        have HR := Lib.hid (sameT_yes (p := p) HL.out (by rw [HN.out]; exact HB.out.2))
        clear hlt
        go_wp2_with fail
        go_ret
        exact ⟨by rw [HR.out]; rfl, HB.out.1⟩
  · have hlB : ((xs.length : Int) != (ys.length : Int)) = true := by rw [bne_iff_ne]; omega
    have HR := Lib.hid (sameT_len (p := p) hl)
    clear hl
    go_enter Tryd.func15, Tryd.ntmps15
    go_wp2_with fail
    go_ret
    exact ⟨by rw [HR.out]; rfl, Below.refl _ _⟩
end Go.Proofs.YtphhokpbkcdljaaDoor
