/- The contracts of the program's spelt and Right. Conditions: the text has no more than 200,000 bytes; the tables are as laid. -/
import Derived.Test.YtphhokpbkcdljaaDoorLexSc
import Derived.Test.YtphhokpbkcdljaaDoorLexTm
import Derived.Test.YtphhokpbkcdljaaDoorKnown
namespace Go.Proofs.YtphhokpbkcdljaaDoor
open Go Go.RowKit
def TokW (k : Int) (s : ByteArray) (n a : Int) : Value := .agg #[.int .i64 k, .string s, .int .i64 n, .int .i64 a]
def tabTok (k : Int) (s : ByteArray) (n a : Int) : Obj := .cells #[.int .i64 k, .string s, .int .i64 n, .int .i64 a] 32
theorem spl_len (k n : Int) (s : ByteArray) (h0 : -9223372036854775808 ≤ n) (h1 : n ≤ 9223372036854775807) : (spl ⟨k, s.data.toList, n⟩).length ≤ 4 * s.size + 22 := by
  have hs : s.data.toList.length = s.size := by simp
  unfold spl
  simp only
  split
  · have hp : (10 : Nat) ^ 19 = 10000000000000000000 := by decide
    have := dec_len 19 n.natAbs (by decide) (by omega)
    by_cases h : n < 0
    · rw [itoa_abs_neg h]; simp only [List.length_cons]; omega
    · rw [itoa_abs_pos (by omega)]; omega
  · split
    · have := (RtsQ.quoteL_len s.data.toList).2; omega
    · omega
set_option maxRecDepth 100000 in
set_option maxHeartbeats 8000000 in
theorem spelt_any (k n a : Int) (s : ByteArray) (hs : s.size ≤ 200000) (h0 : -9223372036854775808 ≤ n) (h1 : n ≤ 9223372036854775807) (w : World) (ht : Tab w) :
    Calls Tryd.prog 28 #[.agg #[.int .i64 k, .string s, .int .i64 n, .int .i64 a]] w fun e w' => e = .returned (.string ⟨(spl ⟨k, s.data.toList, n⟩).toArray⟩) ∧ Below w.heap.size w w' := by
  have HB := Lib.hid (below_oneL w (.cells #[.int .i64 k, .string s, .int .i64 n, .int .i64 a] 32))
  have HT := Lib.hid ht
  obtain ⟨T, hT⟩ : ∃ T, (⟨(spl ⟨k, s.data.toList, n⟩).toArray⟩ : ByteArray) = T := ⟨_, rfl⟩
  rw [hT]
  unfold spl at hT
  simp only at hT
  by_cases hk1 : k = 1
  · rw [if_pos hk1] at hT
    have HR := Lib.hid (text_any n h0 h1)
    rw [hT] at HR
    have q1 : (k == 1) = true := by rw [hk1]; rfl
    clear hk1 hT ht
    go_enter Tryd.func28, Tryd.ntmps28
    go_wp2_with fail
    refine (HR.out _ (tab_below HT.out (Nat.le_refl _) HB.out)).mono ?_
    rintro e w1 ⟨rfl, hb1⟩
    have HB1 := Lib.hid (HB.out.trans (hb1.mono HB.out.size))
    clear hb1
    go_wp2_with fail
    go_ret
    exact ⟨rfl, HB1.out⟩
  · have q1 : (k == 1) = false := by rw [beq_eq_false_iff_ne]; exact hk1
    rw [if_neg hk1] at hT
    by_cases hk2 : k = 2
    · rw [if_pos hk2] at hT
      have HR := Lib.hid (RtsQ.quote_any s (by omega))
      rw [hT] at HR
      have q2 : (k == 2) = true := by rw [hk2]; rfl
      clear hk1 hk2 hT ht
      go_enter Tryd.func28, Tryd.ntmps28
      go_wp2_with fail
      refine (HR.out _).mono ?_
      rintro e w1 ⟨rfl, hb1⟩
      have HB1 := Lib.hid (HB.out.trans (hb1.mono HB.out.size))
      clear hb1
      go_wp2_with fail
      go_ret
      exact ⟨rfl, HB1.out⟩
    · have q2 : (k == 2) = false := by rw [beq_eq_false_iff_ne]; exact hk2
      rw [if_neg hk2] at hT
      have hT : s = T := hT
      subst hT
      clear hk1 hk2 ht
      go_enter Tryd.func28, Tryd.ntmps28
      go_wp2_with fail
      go_ret
      exact ⟨rfl, HB.out⟩
theorem box3 {w : World} {k n a : Int} {s : ByteArray} : ((w.alloc (.cells #[.int .i64 k, .string s, .int .i64 n, .int .i64 a] 32)).setCell ⟨w.heap.size, 3, none⟩ (.int .i64 0)).heap[w.heap.size]? = some (.cells #[.int .i64 k, .string s, .int .i64 n, .int .i64 0] 32 (0, 0)) := by
  have := blk_setL (heap_alloc_new w (.cells #[.int .i64 k, .string s, .int .i64 n, .int .i64 a] 32)) 3 (.int .i64 0)
  simpa using this
theorem ans3 {k n : Int} {s : ByteArray} (h1 : k = 0) (h2 : s.toList = []) (h3 : n = 0) : (decide (k = 0) && decide (s.data.toList = []) && decide (n = 0)) = true := by rw [← Lib.toList_data]; simp [h1, h2, h3]
theorem ans2 {k n : Int} {s : ByteArray} (_ : s.toList = []) (h3 : ¬ n = 0) : (decide (k = 0) && decide (s.data.toList = []) && decide (n = 0)) = false := by simp [h3]
theorem ans1 {k n : Int} {s : ByteArray} (h2 : ¬ s.toList = []) : (decide (k = 0) && decide (s.data.toList = []) && decide (n = 0)) = false := by rw [← Lib.toList_data]; simp [h2]
theorem ans0 {k n : Int} {s : ByteArray} (h1 : ¬ k = 0) : (decide (k = 0) && decide (s.data.toList = []) && decide (n = 0)) = false := by simp [h1]
theorem agr3 {k n a b : Int} {s X : ByteArray} (h1 : a = k) (h2 : X.toList = s.toList) (h3 : b = n) : (true && (decide (a = k) && decide (X.toList = s.data.toList) && decide (b = n))) = true := by rw [← Lib.toList_data s]; simp [h1, h2, h3]
theorem agr2 {k n a b : Int} {s X : ByteArray} (_ : X.toList = s.toList) (h3 : ¬ b = n) : (true && (decide (a = k) && decide (X.toList = s.data.toList) && decide (b = n))) = false := by simp [h3]
theorem agr1 {k n a b : Int} {s X : ByteArray} (h2 : ¬ X.toList = s.toList) : (true && (decide (a = k) && decide (X.toList = s.data.toList) && decide (b = n))) = false := by rw [← Lib.toList_data s]; simp [h2]
theorem agr0 {k n a b : Int} {s X : ByteArray} (h1 : ¬ a = k) : (true && (decide (a = k) && decide (X.toList = s.data.toList) && decide (b = n))) = false := by simp [h1]
theorem stays_blk {A B : World} {N b : Nat} {o : Obj} (h : A.heap[b]? = some o) (hb : Below N A B) (hN : b < N) : B.heap[b]? = some o := (hb.block _ hN).trans h
set_option maxRecDepth 100000 in
set_option maxHeartbeats 8000000 in
theorem right_any (k n a : Int) (s : ByteArray) (hs : s.size ≤ 200000) (h0 : -9223372036854775808 ≤ n) (h1 : n ≤ 9223372036854775807) (w : World) (ht : Tab w) (hT : LxT w) :
    Calls Tryd.prog 18 #[.agg #[.int .i64 k, .string s, .int .i64 n, .int .i64 a]] w fun e w' => e = .returned (.bool (rightL ⟨k, s.data.toList, n⟩)) ∧ Below w.heap.size w w' := by
  have hB := below_oneL w (.cells #[.int .i64 k, .string s, .int .i64 n, .int .i64 0] 32)
  have hsz : w.heap.size < (w.alloc (.cells #[.int .i64 k, .string s, .int .i64 n, .int .i64 0] 32)).heap.size := by rw [World.size_alloc]; omega
  have HBX := Lib.hid (And.intro (heap_alloc_new w (.cells #[.int .i64 k, .string s, .int .i64 n, .int .i64 0] 32)) (And.intro hB hsz))
  have HT := Lib.hid (And.intro (tab_below ht (Nat.le_refl _) hB) (hT.stay hB))
  have HSP := Lib.hid (spelt_any k n 0 s hs h0 h1)
  have hlen := spl_len k n s h0 h1
  rw [← rightP_eq]
  unfold rightP
  obtain ⟨l, hl⟩ : ∃ l, spl ⟨k, s.data.toList, n⟩ = l := ⟨_, rfl⟩
  rw [hl] at HSP hlen ⊢
  obtain ⟨T, hTl⟩ : ∃ T : ByteArray, (⟨l.toArray⟩ : ByteArray) = T := ⟨_, rfl⟩
  have hTd : T.data.toList = l := by rw [← hTl]
  have hTs : T.size = l.length := by rw [← hTl]; simp [ByteArray.size]
  rw [hTl] at HSP
  clear hl hTl ht hT hB hsz
  by_cases hl0 : l = []
  · rw [if_pos hl0]
    have he : T.toList.isEmpty = true := by rw [Lib.toList_data, hTd, hl0]; rfl
    clear hTd hTs hlen hl0
    go_enter Tryd.func18, Tryd.ntmps18
    go_wp2_with fail
    refine (HSP.out _ HT.out.1).mono ?_
    rintro e w1 ⟨rfl, hb1⟩
    have HX := Lib.hid (And.intro (stays_blk HBX.out.1 hb1 HBX.out.2.2) (HBX.out.2.1.trans (hb1.mono HBX.out.2.1.size)))
    clear hb1
    have c0 := blk_cellL HX.out.1 0
    have c1 := blk_cellL HX.out.1 1
    have c2 := blk_cellL HX.out.1 2
    have c3 := blk_cellL HX.out.1 3
    go_wp2_with fail
    all_goals go_ret
    all_goals refine ⟨?_, HX.out.2⟩
    all_goals
      first
      | (rw [ans3 (by assumption) (by assumption) (by assumption)]; rfl)
      | (rw [ans2 (by assumption) (by assumption)]; rfl)
      | (rw [ans1 (by assumption)]; rfl)
      | (rw [ans0 (by assumption)]; rfl)
  · rw [if_neg hl0]
    have he : T.toList.isEmpty = false := toL_isE (by rw [hTs]; exact List.length_pos_iff.2 hl0)
    have hT6 : T.size ≤ 1000000 := by omega
    have hTp : 0 < T.size := by rw [hTs]; exact List.length_pos_iff.2 hl0
    have hc := fun (W : World) (h : LxT W) => cut_any T hT6 0 hTp W h
    rw [List.drop_zero, hTd] at hc
    have HTS := Lib.hid hTs
    clear hTd hTs hlen hl0
    cases ec : cutL l with
    | none =>
      rw [ec] at hc
      have HC := Lib.hid (show ∀ W, LxT W → Calls _ _ _ W (fun e w' => (∃ (a n i : Int) (s : ByteArray), e = .returned (.tuple #[.agg #[.int .i64 a, .string s, .int .i64 n, .int .i64 0], .int .i64 i, .bool false])) ∧ Below W.heap.size W w') from hc)
      clear hc ec
      go_enter Tryd.func18, Tryd.ntmps18
      go_wp2_with fail
      refine (HSP.out _ HT.out.1).mono ?_
      rintro e w1 ⟨rfl, hb1⟩
      have HX := Lib.hid (And.intro (stays_blk HBX.out.1 hb1 HBX.out.2.2) (And.intro (HBX.out.2.1.trans (hb1.mono HBX.out.2.1.size)) (HT.out.2.stay hb1)))
      clear hb1
      go_wp2_with fail
      refine (HC.out _ HX.out.2.2).mono ?_
      rintro e w2 ⟨⟨ax, nx, ix, sx, rfl⟩, hb2⟩
      have HX2 := Lib.hid (HX.out.2.1.trans (hb2.mono HX.out.2.1.size))
      clear hb2
      go_wp2_with fail
      go_ret
      exact ⟨rfl, HX2.out.alloc HX2.out.size _⟩
    | some y =>
      obtain ⟨x, m⟩ := y
      rw [ec] at hc
      obtain ⟨X, hX⟩ : ∃ X : ByteArray, (⟨x.text.toArray⟩ : ByteArray) = X := ⟨_, rfl⟩
      have hXt : x.text = X.toList := by rw [← hX, Lib.toList_data]
      have HC := Lib.hid (show ∀ W, LxT W → Calls _ _ _ W (fun e w' => e = .returned (.tuple #[.agg #[.int .i64 (x.kind : Int), .string X, .int .i64 (x.num : Int), .int .i64 0], .int .i64 (m : Int), .bool true]) ∧ Below W.heap.size W w') from fun W h => by
        have := hc W h
        rw [show CuV 0 (some (x, m)) = fun e => e = .returned (.tuple #[.agg #[.int .i64 (x.kind : Int), .string X, .int .i64 (x.num : Int), .int .i64 0], .int .i64 (m : Int), .bool true]) from by
          funext e; unfold CuV tokA; simp only; rw [hX, Nat.zero_add]] at this
        exact this)
      simp only [hits]
      rw [hXt]
      clear hc ec hX hXt
      generalize (x.kind : Int) = xk at HC ⊢
      generalize (x.num : Int) = xn at HC ⊢
      by_cases hm : m = l.length
      · have hmB : ((m : Int) == (T.size : Int)) = true := by rw [beq_iff_eq, HTS.out]; omega
        rw [decide_eq_true hm]
        clear hm
        go_enter Tryd.func18, Tryd.ntmps18
        go_wp2_with fail
        refine (HSP.out _ HT.out.1).mono ?_
        rintro e w1 ⟨rfl, hb1⟩
        have HX := Lib.hid (And.intro (stays_blk HBX.out.1 hb1 HBX.out.2.2) (And.intro (HBX.out.2.1.trans (hb1.mono HBX.out.2.1.size)) (And.intro (HT.out.2.stay hb1) (Nat.lt_of_lt_of_le HBX.out.2.2 hb1.size))))
        clear hb1
        go_wp2_with fail
        refine (HC.out _ HX.out.2.2.1).mono ?_
        rintro e w2 ⟨rfl, hb2⟩
        have HX2 := Lib.hid (And.intro (stays_blk HX.out.1 hb2 HX.out.2.2.2) (HX.out.2.1.trans (hb2.mono HX.out.2.1.size)))
        have hs2 := hb2.size
        clear hb2
        have HX3 := fun (o : Obj) => stays_blk HX2.out.1 (below_oneL w2 o) (Nat.lt_of_lt_of_le HX.out.2.2.2 hs2)
        have c0 := fun (o : Obj) => blk_cellL (HX3 o) 0
        have c1 := fun (o : Obj) => blk_cellL (HX3 o) 1
        have c2 := fun (o : Obj) => blk_cellL (HX3 o) 2
        have c3 := fun (o : Obj) => blk_cellL (HX3 o) 3
        clear HX3 hs2
        go_wp2_with fail
        all_goals go_ret
        all_goals refine ⟨?_, HX2.out.2.alloc HX2.out.2.size _⟩
        all_goals
          first
          | (rw [agr3 (by assumption) (by assumption) (by assumption)]; rfl)
          | (rw [agr2 (by assumption) (by assumption)]; rfl)
          | (rw [agr1 (by assumption)]; rfl)
          | (rw [agr0 (by assumption)]; rfl)
      · have hmB : ((m : Int) == (T.size : Int)) = false := by rw [beq_eq_false_iff_ne, HTS.out]; omega
        rw [decide_eq_false hm]
        clear hm
        go_enter Tryd.func18, Tryd.ntmps18
        go_wp2_with fail
        refine (HSP.out _ HT.out.1).mono ?_
        rintro e w1 ⟨rfl, hb1⟩
        have HX := Lib.hid (And.intro (stays_blk HBX.out.1 hb1 HBX.out.2.2) (And.intro (HBX.out.2.1.trans (hb1.mono HBX.out.2.1.size)) (HT.out.2.stay hb1)))
        clear hb1
        go_wp2_with fail
        refine (HC.out _ HX.out.2.2).mono ?_
        rintro e w2 ⟨rfl, hb2⟩
        have HX2 := Lib.hid (HX.out.2.1.trans (hb2.mono HX.out.2.1.size))
        clear hb2
        go_wp2_with fail
        go_ret
        exact ⟨rfl, HX2.out.alloc HX2.out.size _⟩
end Go.Proofs.YtphhokpbkcdljaaDoor
