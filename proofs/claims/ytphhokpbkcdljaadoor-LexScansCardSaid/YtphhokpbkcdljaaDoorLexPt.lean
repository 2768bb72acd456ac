/- The contract of the program's Print. Conditions: there are no more than 4,000 tokens, each text of no more than 200,000 bytes; the tables are as laid. -/
import Derived.Test.YtphhokpbkcdljaaDoorLexRt
import Derived.Test.YtphhokpbkcdljaaDoorLexBy
namespace Go.Proofs.YtphhokpbkcdljaaDoor
open Go Go.RowKit
/-- a token in memory -/
structure TkB where
  k : Int
  s : ByteArray
  n : Int
  a : Int
def TkB.I (t : TkB) : TokI := ⟨t.k, t.s.data.toList, t.n⟩
def TkB.V (t : TkB) : Value := .agg #[.int .i64 t.k, .string t.s, .int .i64 t.n, .int .i64 t.a]
structure TkB.Ok (t : TkB) : Prop where
  lo : -9223372036854775808 ≤ t.n
  hi : t.n ≤ 9223372036854775807
/-- the slice at a reads as these tokens, in a block below n₀ -/
structure Tks (n₀ : Nat) (W : World) (a : Option Addr) (ts : List TkB) : Prop where
  few : ts.length ≤ 9223372036854775807
  ok : ∀ t ∈ ts, t.Ok
  cell : ∀ j t, ts[j]? = some t → ∃ g off, a = some ⟨g, off, none⟩ ∧ g < n₀ ∧ W.cell? ⟨g, off + j * 4, none⟩ = some (.int .i64 t.k) ∧ W.cell? ⟨g, off + j * 4 + 1, none⟩ = some (.string t.s) ∧
    W.cell? ⟨g, off + j * 4 + 2, none⟩ = some (.int .i64 t.n) ∧ W.cell? ⟨g, off + j * 4 + 3, none⟩ = some (.int .i64 t.a)
theorem Tks.below {n₀ : Nat} {A B : World} {a : Option Addr} {ts : List TkB} (h : Tks n₀ A a ts) (hb : Below n₀ A B) : Tks n₀ B a ts :=
  ⟨h.few, h.ok, fun j t q => by
    obtain ⟨g, off, e, hg, c0, c1, c2, c3⟩ := h.cell j t q
    exact ⟨g, off, e, hg, (hb.cell (p := ⟨g, _, none⟩) hg).trans c0, (hb.cell (p := ⟨g, _, none⟩) hg).trans c1, (hb.cell (p := ⟨g, _, none⟩) hg).trans c2, (hb.cell (p := ⟨g, _, none⟩) hg).trans c3⟩⟩
theorem Tks.mono {n₀ n₁ : Nat} {A : World} {a : Option Addr} {ts : List TkB} (h : Tks n₀ A a ts) (hn : n₀ ≤ n₁) : Tks n₁ A a ts :=
  ⟨h.few, h.ok, fun j t q => by
    obtain ⟨g, off, e, hg, c⟩ := h.cell j t q
    exact ⟨g, off, e, Nat.lt_of_lt_of_le hg hn, c⟩⟩
def prV : Option (List UInt8) → Value
  | some l => .tuple #[.string ⟨l.toArray⟩, .int .i64 0]
  | none => .tuple #[.string ⟨#[]⟩, .int .i64 1]
theorem joinL_no {acc : List UInt8} {t : TokI} {r : List TokI} (h : rightL t = false) : joinL acc (t :: r) = none := by rw [joinL, if_neg (by rw [h]; simp)]
theorem joinL_end {acc : List UInt8} {t : TokI} {r : List TokI} (h : rightL t = true) (hk : t.kind = 0) : joinL acc (t :: r) = joinL acc r := by rw [joinL, if_pos h, if_pos hk]
theorem joinL_first {t : TokI} {r : List TokI} (h : rightL t = true) (hk : t.kind ≠ 0) : joinL [] (t :: r) = joinL (spl t) r := by rw [joinL, if_pos h, if_neg hk, if_pos rfl]
theorem joinL_more {acc : List UInt8} {t : TokI} {r : List TokI} (ha : acc ≠ []) (h : rightL t = true) (hk : t.kind ≠ 0) : joinL acc (t :: r) = joinL (acc ++ 32 :: spl t) r := by rw [joinL, if_pos h, if_neg hk, if_neg ha]
theorem drop_tk {ts : List TkB} {k : Nat} {t : TkB} (h : ts[k]? = some t) : (ts.drop k).map TkB.I = t.I :: (ts.drop (k + 1)).map TkB.I := by
  obtain ⟨hk, e⟩ := List.getElem?_eq_some_iff.1 h
  rw [List.drop_eq_getElem_cons hk, e]; rfl
set_option maxRecDepth 100000 in
set_option maxHeartbeats 8000000 in
theorem print_any (A : Option Addr) (cap : Nat) (ts : List TkB) (w : World) (ht : Tks w.heap.size w A ts) (hlen : ts.length ≤ 4000) (hsz : ∀ t ∈ ts, t.s.size ≤ 200000) (hTab : Tab w) (hT : LxT w) :
    Calls Tryd.prog 20 #[.slice A ts.length cap] w fun e w' => e = .returned (prV (joinL [] (ts.map TkB.I))) ∧ Below w.heap.size w w' := by
  obtain ⟨N, hN⟩ : ∃ N, ts.length = N := ⟨_, rfl⟩
  rw [hN] at hlen ⊢
  have HN := Lib.hid hN
  have HTS := Lib.hid (And.intro ht hsz)
  have HTT := Lib.hid (And.intro hTab hT)
  obtain ⟨res, hr⟩ : ∃ res, joinL [] (ts.map TkB.I) = res := ⟨_, rfl⟩
  rw [hr]
  have HR := Lib.hid hr
  clear hN ht hsz hTab hT hr
  go_enter Tryd.func20, Tryd.ntmps20
  go_wp2_with fail
  go_loopw [9] (fun i wr => ∃ (k : Nat) (acc : List UInt8), k ≤ N ∧ i = .int .i64 k ∧ acc.length ≤ k * 1000000 ∧ Bl.IsB w.heap.size w.heap.size acc wr ∧ Below w.heap.size w wr ∧ joinL acc ((ts.drop k).map TkB.I) = res) (fun i _ => N - (intOf i).toNat)
  case atStart => exact ⟨0, [], Nat.zero_le _, rfl, Nat.zero_le _, Bl.bld_new w, below_oneL w _, by rw [List.drop_zero]; exact HR.out⟩
  case round =>
    obtain ⟨k, acc, hk, rfl, hal, hB, hb, hj⟩ := hrel
    have HB := Lib.hid (And.intro hB hb)
    have HJ := Lib.hid hj
    clear hB hb hj
    by_cases hlt : k < N
    · obtain ⟨t, hkt⟩ : ∃ t, ts[k]? = some t := ⟨_, List.getElem?_eq_getElem (by rw [HN.out]; exact hlt)⟩
      obtain ⟨g, off, rfl, hg, c0, c1, c2, c3⟩ := HTS.out.1.cell k t hkt
      have hok := HTS.out.1.ok t (List.mem_of_getElem? hkt)
      have hs2 := HTS.out.2 t (List.mem_of_getElem? hkt)
      have d0 := (HB.out.2.cell (p := ⟨g, _, none⟩) hg).trans c0
      have d1 := (HB.out.2.cell (p := ⟨g, _, none⟩) hg).trans c1
      have d2 := (HB.out.2.cell (p := ⟨g, _, none⟩) hg).trans c2
      have d3 := (HB.out.2.cell (p := ⟨g, _, none⟩) hg).trans c3
      clear c0 c1 c2 c3
      have hblt : w.heap.size < wr.heap.size := (Bl.IsBM.of HB.out.1).hM
      have HX := Lib.hid (And.intro (heap_alloc_new wr (.cells #[.int .i64 t.k, .string t.s, .int .i64 t.n, .int .i64 t.a] 32)) (And.intro ((Bl.IsBM.of HB.out.1).later (below_oneL wr (.cells #[.int .i64 t.k, .string t.s, .int .i64 t.n, .int .i64 t.a] 32))) (HB.out.2.alloc HB.out.2.size (.cells #[.int .i64 t.k, .string t.s, .int .i64 t.n, .int .i64 t.a] 32))))
      have hszA : (wr.alloc (.cells #[.int .i64 t.k, .string t.s, .int .i64 t.n, .int .i64 t.a] 32)).heap.size = wr.heap.size + 1 := World.size_alloc _ _
      have HSZ := Lib.hid hszA
      have HRT := Lib.hid (right_any t.k t.n t.a t.s hs2 hok.lo hok.hi (wr.alloc (.cells #[.int .i64 t.k, .string t.s, .int .i64 t.n, .int .i64 t.a] 32)) (tab_below HTT.out.1 (Nat.le_refl _) HX.out.2.2) (HTT.out.2.stay HX.out.2.2))
      have HSP := Lib.hid (spelt_any t.k t.n t.a t.s hs2 hok.lo hok.hi)
      have hsl := spl_len t.k t.n t.s hok.lo hok.hi
      have HDT := Lib.hid (drop_tk hkt)
      have hJ2 := HJ.out
      rw [HDT.out] at hJ2
      clear HDT hkt hszA hok
      cases hrt : rightL ⟨t.k, t.s.data.toList, t.n⟩ with
      | false =>
        rw [hrt] at HRT
        have HRES := Lib.hid (show res = none from by rw [← hJ2]; exact joinL_no hrt)
        clear hrt hJ2 hsl
        go_wp2_with fail
        refine HRT.out.mono ?_
        rintro e w1 ⟨rfl, hb1⟩
        have HB1 := Lib.hid (HX.out.2.2.trans (hb1.mono HX.out.2.2.size))
        clear hb1
        go_wp2_with fail
        go_ret2
        exact ⟨by rw [HRES.out]; rfl, HB1.out⟩
      | true =>
        rw [hrt] at HRT
        by_cases hk0 : t.k = 0
        · have HN2 := Lib.hid (show joinL acc ((ts.drop (k + 1)).map TkB.I) = res from by rw [← hJ2]; exact (joinL_end hrt hk0).symm)
          have q0 : (t.k == 0) = true := by rw [hk0]; rfl
          have HA1 := Lib.hid (show acc.length ≤ (k + 1) * 1000000 from Nat.le_trans hal (Nat.mul_le_mul_right _ (Nat.le_succ k)))
          clear hrt hJ2 hk0 hsl
          go_wp2_with fail
          refine HRT.out.mono ?_
          rintro e w1 ⟨rfl, hb1⟩
          have HY := Lib.hid (And.intro (stays_blk HX.out.1 hb1 (by rw [HSZ.out]; omega)) (And.intro (HX.out.2.1.later hb1) (HX.out.2.2.trans (hb1.mono HX.out.2.2.size))))
          clear hb1
          have e0 := blk_cellL HY.out.1 0
          go_wp2_with fail
          go_roundw
          case rel => exact ⟨k + 1, acc, hlt, by go_num, HA1.out, HY.out.2.1.isB, HY.out.2.2, HN2.out⟩
          case measure => simp [intOf]; omega
        · have q0 : (t.k == 0) = false := by rw [beq_eq_false_iff_ne]; exact hk0
          by_cases ha : acc = []
          · subst ha
            have HN2 := Lib.hid (show joinL (spl ⟨t.k, t.s.data.toList, t.n⟩) ((ts.drop (k + 1)).map TkB.I) = res from by rw [← hJ2]; exact (joinL_first hrt hk0).symm)
            have HA1 := Lib.hid (show ([] ++ spl ⟨t.k, t.s.data.toList, t.n⟩).length ≤ (k + 1) * 1000000 from by rw [List.nil_append, Nat.succ_mul]; omega)
            have HA2 := Lib.hid (show ([] : List UInt8).length + (spl ⟨t.k, t.s.data.toList, t.n⟩).length ≤ 140737488355328 from by simp only [List.length_nil]; omega)
            clear hrt hJ2 hk0 hsl
            go_wp2_with fail
            refine HRT.out.mono ?_
            rintro e w1 ⟨rfl, hb1⟩
            have HY := Lib.hid (And.intro (stays_blk HX.out.1 hb1 (by rw [HSZ.out]; omega)) (And.intro (HX.out.2.1.later hb1) (HX.out.2.2.trans (hb1.mono HX.out.2.2.size))))
            clear hb1
            have e0 := blk_cellL HY.out.1 0
            have e1 := blk_cellL HY.out.1 1
            have e2 := blk_cellL HY.out.1 2
            have e3 := blk_cellL HY.out.1 3
            go_wp2_with fail
            refine (Tryd.Builder_Len w.heap.size w.heap.size _ _ HY.out.2.1.isB).mono ?_
            rintro e w2 ⟨rfl, hw2⟩
            subst w2
            go_wp2_with fail
            refine (HSP.out _ (tab_below HTT.out.1 (Nat.le_refl _) HY.out.2.2)).mono ?_
            rintro e w2 ⟨rfl, hb2⟩
            have HZ := Lib.hid (And.intro (HY.out.2.1.later hb2) (HY.out.2.2.trans (hb2.mono HY.out.2.2.size)))
            clear hb2
            go_wp2_with fail
            refine (Bl.bstr_any w.heap.size w.heap.size [] _ _ HZ.out.1.isB HA2.out HZ.out.2.size).mono ?_
            rintro e w3 ⟨rfl, hB3, hb3⟩
            have HU := Lib.hid (And.intro hB3 (HZ.out.2.trans hb3))
            clear hB3 hb3
            go_wp2_with fail
            go_roundw
            case rel => exact ⟨k + 1, _, hlt, by go_num, HA1.out, HU.out.1, HU.out.2, HN2.out⟩
            case measure => simp [intOf]; omega
          · have HN2 := Lib.hid (show joinL (acc ++ 32 :: spl ⟨t.k, t.s.data.toList, t.n⟩) ((ts.drop (k + 1)).map TkB.I) = res from by rw [← hJ2]; exact (joinL_more ha hrt hk0).symm)
            have hap : 0 < acc.length := List.length_pos_iff.2 ha
            have hbl : ((Lib.byteCells acc).length : Int) = (acc.length : Int) := by rw [Lib.byteCells_length]
            have hgt : decide ((0 : Int) < (acc.length : Int)) = true := decide_eq_true (by omega)
            have HLEN := Lib.hid (fun (W : World) (q : Bl.IsB w.heap.size w.heap.size acc W) => show Calls Tryd.prog 31 #[.pointer (some ⟨w.heap.size, 0, none⟩)] W fun e w' => e = .returned (.int .i64 (acc.length : Int)) ∧ w' = W from by
              rw [← hbl]; exact Tryd.Builder_Len w.heap.size w.heap.size _ _ q)
            have h1 : acc.length + 1 ≤ 140737488355328 := by omega
            have h2 : (acc ++ [32]).length + (spl ⟨t.k, t.s.data.toList, t.n⟩).length ≤ 140737488355328 := by rw [List.length_append]; simp only [List.length_cons, List.length_nil]; omega
            have h3 : ((acc ++ [32]) ++ spl ⟨t.k, t.s.data.toList, t.n⟩).length ≤ (k + 1) * 1000000 := by rw [List.length_append, List.length_append, Nat.succ_mul]; simp only [List.length_cons, List.length_nil]; omega
            have HA := Lib.hid (And.intro h1 (And.intro h2 h3))
            clear hrt hJ2 hk0 ha hbl hsl h1 h2 h3
            go_wp2_with fail
            refine HRT.out.mono ?_
            rintro e w1 ⟨rfl, hb1⟩
            have HY := Lib.hid (And.intro (stays_blk HX.out.1 hb1 (by rw [HSZ.out]; omega)) (And.intro (HX.out.2.1.later hb1) (And.intro (HX.out.2.2.trans (hb1.mono HX.out.2.2.size)) (show wr.heap.size < w1.heap.size from by have := hb1.size; rw [HSZ.out] at this; omega))))
            clear hb1
            have e0 := blk_cellL HY.out.1 0
            go_wp2_with fail
            refine (HLEN.out _ HY.out.2.1.isB).mono ?_
            rintro e w2 ⟨rfl, hw2⟩
            subst w2
            go_wp2_with fail
            refine (Bl.bblank_fine wr.heap.size w.heap.size w.heap.size acc _ ⟨HY.out.2.1.hB, hblt, Nat.le_of_lt HY.out.2.2.2, ?lies⟩ HA.out.1 HY.out.2.2.1.size).mono ?_
            case lies => exact HY.out.2.1.lies
            rintro e w2 ⟨rfl, hB2, hb2, hst⟩
            have HZ := Lib.hid (And.intro ((hst wr.heap.size (Nat.le_refl _) HY.out.2.2.2).trans HY.out.1) (And.intro (Bl.IsBM.of hB2) (HY.out.2.2.1.trans hb2)))
            clear hB2 hb2 hst e0
            have e0 := blk_cellL HZ.out.1 0
            have e1 := blk_cellL HZ.out.1 1
            have e2 := blk_cellL HZ.out.1 2
            have e3 := blk_cellL HZ.out.1 3
            go_wp2_with fail
            refine (HSP.out _ (tab_below HTT.out.1 (Nat.le_refl _) HZ.out.2.2)).mono ?_
            rintro e w3 ⟨rfl, hb3⟩
            have HU := Lib.hid (And.intro (HZ.out.2.1.later hb3) (HZ.out.2.2.trans (hb3.mono HZ.out.2.2.size)))
            clear hb3
            go_wp2_with fail
            refine (Bl.bstr_any w.heap.size w.heap.size (acc ++ [32]) _ _ HU.out.1.isB HA.out.2.1 HU.out.2.size).mono ?_
            rintro e w4 ⟨rfl, hB4, hb4⟩
            have HQ := Lib.hid (And.intro hB4 (HU.out.2.trans hb4))
            clear hB4 hb4
            go_wp2_with fail
            go_roundw
            case rel => exact ⟨k + 1, _, hlt, by go_num, HA.out.2.2, HQ.out.1, HQ.out.2, by rw [List.append_assoc]; exact HN2.out⟩
            case measure => simp [intOf]; omega
    · have hke : k = N := by omega
      subst hke
      have HRES := Lib.hid (show res = some acc from by rw [← HJ.out, List.drop_of_length_le (by rw [HN.out]; exact Nat.le_refl _)]; rfl)
      clear hlt
      go_wp2_with fail
      refine (Tryd.Builder_String_any w.heap.size w.heap.size acc _ HB.out.1 HB.out.2.size).mono ?_
      rintro e w1 ⟨rfl, hb1⟩
      have HB1 := Lib.hid (HB.out.2.trans hb1)
      clear hb1
      go_wp2_with fail
      go_ret2
      exact ⟨by rw [HRES.out]; rfl, HB1.out⟩
end Go.Proofs.YtphhokpbkcdljaaDoor
