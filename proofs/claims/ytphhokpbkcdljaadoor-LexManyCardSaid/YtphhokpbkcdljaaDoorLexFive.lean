/- The contract of the program's cut. Conditions: the text has no more than a million bytes; the tables are as laid. The contract of the program's cut at a word. Conditions: the text has no more than a million bytes; the tables are as laid. The contract of the program's cut at a type variable. Condition: the text has no more than a million bytes. The contract of the program's cut at a sign or at nothing. Conditions: the text has no more than a million bytes; the tables are as laid. The contract of the program's cut, whole. Conditions: the text has no more than a million bytes; the tables are as laid. The contract of the program's Scan. Conditions: the text is within the reach; the tables are as laid. -/
import Derived.Test.YtphhokpbkcdljaaDoorLexFour
import Derived.Deep.RegionLaw
import Derived.Test.YtphhokpbkcdljaaDoorLexThree
namespace Go.Proofs.YtphhokpbkcdljaaDoor
open Go Go.RowKit
/-- what cut answers -/
def CuV (k : Nat) (o : Option (Tok × Nat)) (e : Ending) : Prop := match o with
  | some x => e = .returned (.tuple #[tokA x.1 0, .int .i64 ((k + x.2 : Nat) : Int), .bool true])
  | none => ∃ (a n i : Int) (s : ByteArray), e = .returned (.tuple #[.agg #[.int .i64 a, .string s, .int .i64 n, .int .i64 0], .int .i64 i, .bool false])
def NilT : Value := .agg #[.int .i64 0, .string ⟨#[]⟩, .int .i64 0, .int .i64 0]
set_option maxRecDepth 100000 in
set_option maxHeartbeats 8000000 in
theorem cut_digit (s : ByteArray) (hs : s.size ≤ 1000000) (k : Nat) (hk : k < s.size) (hd : isDg s[k] = true) (w : World) :
    Calls Tryd.prog 24 #[.string s, .int .i64 (k : Int)] w fun e w' => CuV k (cutL (s.data.toList.drop k)) e ∧ Below w.heap.size w w' := by
  have HX0 := Lib.hid (below_oneL w (.cells #[.int .i64 0, .string ⟨#[]⟩, .int .i64 0, .int .i64 0] 32))
  have HD := Lib.hid (isDg_any s[k])
  rw [hd] at HD
  have HI := Lib.hid (cutint_any s (by omega) k (by omega))
  rw [dgo_eq _ _ (Nat.zero_le _)] at HI
  have hcl : cutL (s.data.toList.drop k) = if dvl ((s.data.toList.drop k).take (Go.Proofs.YtphhokpbkcdljaaDoor.run isDg (s.data.toList.drop k))) ≤ maxI then some (⟨1, [], dvl ((s.data.toList.drop k).take (Go.Proofs.YtphhokpbkcdljaaDoor.run isDg (s.data.toList.drop k)))⟩, Go.Proofs.YtphhokpbkcdljaaDoor.run isDg (s.data.toList.drop k)) else none := by
    rw [drop_cons s hk]
    unfold cutL
    simp only
    rw [if_pos hd]
  rw [hcl]
  change Hid (∀ w, Calls _ _ _ w fun e w' => e = .returned (ciV k (if dvl ((s.data.toList.drop k).take (Go.Proofs.YtphhokpbkcdljaaDoor.run isDg (s.data.toList.drop k))) ≤ maxI then some (dvl ((s.data.toList.drop k).take (Go.Proofs.YtphhokpbkcdljaaDoor.run isDg (s.data.toList.drop k))), Go.Proofs.YtphhokpbkcdljaaDoor.run isDg (s.data.toList.drop k)) else none)) ∧ _) at HI
  clear hcl hd
  have hk0 : (0 : Int) ≤ k := by omega
  have hks : (k : Int) < s.size := by omega
  generalize Go.Proofs.YtphhokpbkcdljaaDoor.run isDg (s.data.toList.drop k) = n at HI ⊢
  generalize dvl ((s.data.toList.drop k).take n) = v at HI ⊢
  by_cases hv : v ≤ maxI
  · rw [if_pos hv] at HI ⊢
    have HI2 := Lib.hid (show ∀ W, Calls _ _ _ W (fun e w' => e = .returned (.tuple #[.agg #[.int .i64 1, .string ⟨#[]⟩, .int .i64 (v : Int), .int .i64 0], .int .i64 ((k + n : Nat) : Int), .bool true]) ∧ Below W.heap.size W w') from HI.out)
    clear HI
    go_enter Tryd.func24, Tryd.ntmps24
    go_wp2_with fail
    refine (HD.out _).mono ?_
    rintro e w1 ⟨rfl, hw1⟩
    subst w1
    go_wp2_with fail
    refine (HI2.out _).mono ?_
    rintro e w1 ⟨rfl, hb1⟩
    have HX := Lib.hid (And.intro (box_stay hb1) (HX0.out.trans (hb1.mono HX0.out.size)))
    clear hb1
    have r0 := blk_cellL HX.out.1 0
    have r1 := blk_cellL HX.out.1 1
    have r2 := blk_cellL HX.out.1 2
    have r3 := blk_cellL HX.out.1 3
    have g1 := blk_freeL HX.out.1
    go_wp2_with fail
    have hs4 := tok_set HX.out.1 (.int .i64 1) (.string ⟨#[]⟩) (.int .i64 (v : Int)) (.int .i64 0)
    have hs5 := tok_below HX.out.2 (Nat.le_refl _) (.int .i64 1) (.string ⟨#[]⟩) (.int .i64 (v : Int)) (.int .i64 0)
    clear r0 r1 r2 r3 g1
    generalize World.setCell (World.setCell (World.setCell (World.setCell _ _ _) _ _) _ _) _ _ = W4 at hs4 hs5 ⊢
    have f0 := blk_cellL hs4 0
    have f1 := blk_cellL hs4 1
    have f2 := blk_cellL hs4 2
    have f3 := blk_cellL hs4 3
    exact bodyPost_ret (v := .tuple #[.agg #[.int .i64 1, .string ⟨#[]⟩, .int .i64 (v : Int), .int .i64 0], .int .i64 ((k + n : Nat) : Int), .bool true]) (by simp [results, Tryd.results24, go_sem, f0, f1, f2, f3]) rfl ⟨rfl, hs5⟩
  · rw [if_neg hv] at HI ⊢
    have HI2 := Lib.hid (show ∀ W, Calls _ _ _ W (fun e w' => e = .returned (.tuple #[.agg #[.int .i64 0, .string ⟨#[]⟩, .int .i64 0, .int .i64 0], .int .i64 0, .bool false]) ∧ Below W.heap.size W w') from HI.out)
    clear HI
    go_enter Tryd.func24, Tryd.ntmps24
    go_wp2_with fail
    refine (HD.out _).mono ?_
    rintro e w1 ⟨rfl, hw1⟩
    subst w1
    go_wp2_with fail
    refine (HI2.out _).mono ?_
    rintro e w1 ⟨rfl, hb1⟩
    have HX := Lib.hid (And.intro (box_stay hb1) (HX0.out.trans (hb1.mono HX0.out.size)))
    clear hb1
    have r0 := blk_cellL HX.out.1 0
    have r1 := blk_cellL HX.out.1 1
    have r2 := blk_cellL HX.out.1 2
    have r3 := blk_cellL HX.out.1 3
    have g1 := blk_freeL HX.out.1
    go_wp2_with fail
    have hs4 := tok_set HX.out.1 (.int .i64 0) (.string ⟨#[]⟩) (.int .i64 0) (.int .i64 0)
    have hs5 := tok_below HX.out.2 (Nat.le_refl _) (.int .i64 0) (.string ⟨#[]⟩) (.int .i64 0) (.int .i64 0)
    clear r0 r1 r2 r3 g1
    generalize World.setCell (World.setCell (World.setCell (World.setCell _ _ _) _ _) _ _) _ _ = W4 at hs4 hs5 ⊢
    have f0 := blk_cellL hs4 0
    have f1 := blk_cellL hs4 1
    have f2 := blk_cellL hs4 2
    have f3 := blk_cellL hs4 3
    exact bodyPost_ret (v := .tuple #[.agg #[.int .i64 0, .string ⟨#[]⟩, .int .i64 0, .int .i64 0], .int .i64 0, .bool false]) (by simp [results, Tryd.results24, go_sem, f0, f1, f2, f3]) rfl ⟨⟨_, _, _, _, rfl⟩, hs5⟩
set_option maxRecDepth 100000 in
set_option maxHeartbeats 8000000 in
theorem cut_quote (s : ByteArray) (hs : s.size ≤ 1000000) (k : Nat) (hk : k < s.size) (hq : s[k].toNat = 34) (w : World) :
    Calls Tryd.prog 24 #[.string s, .int .i64 (k : Int)] w fun e w' => CuV k (cutL (s.data.toList.drop k)) e ∧ Below w.heap.size w w' := by
  have HX0 := Lib.hid (below_oneL w (.cells #[.int .i64 0, .string ⟨#[]⟩, .int .i64 0, .int .i64 0] 32))
  have HD := Lib.hid (isDg_any s[k])
  have hd : isDg s[k] = false := dg_no (by omega)
  rw [hd] at HD
  have HI := Lib.hid (cuttext_any s hs k hk)
  have hcl : cutL (s.data.toList.drop k) = (txt (s.data.toList.drop (k + 1))).map fun y => (⟨2, y.1, 0⟩, y.2 + 1) := by
    rw [drop_cons s hk]
    unfold cutL
    simp only
    rw [if_neg (by rw [hd]; simp), if_pos hq]
  rw [hcl]
  have hB : (((s[k].toNat : Nat) : Int) == 34) = true := by rw [hq]; rfl
  have p0 : (0 : Int) ≤ (s[k].toNat : Int) := by omega
  clear hcl hd hq
  have hk0 : (0 : Int) ≤ k := by omega
  have hks : (k : Int) < s.size := by omega
  cases ht : txt (s.data.toList.drop (k + 1)) with
  | some y =>
    obtain ⟨t, n⟩ := y
    rw [ht] at HI
    clear ht
    have HI2 := Lib.hid (show ∀ W, Calls _ _ _ W (fun e w' => e = .returned (.tuple #[.agg #[.int .i64 2, .string ⟨t.toArray⟩, .int .i64 0, .int .i64 0], .int .i64 ((k + 1 + n : Nat) : Int), .bool true]) ∧ Below W.heap.size W w') from HI.out)
    clear HI
    go_enter Tryd.func24, Tryd.ntmps24
    go_wp2_with fail
    refine (HD.out _).mono ?_
    rintro e w1 ⟨rfl, hw1⟩
    subst w1
    go_wp2_with fail
    refine (HI2.out _).mono ?_
    rintro e w1 ⟨rfl, hb1⟩
    have HX := Lib.hid (And.intro (box_stay hb1) (HX0.out.trans (hb1.mono HX0.out.size)))
    clear hb1
    have r0 := blk_cellL HX.out.1 0
    have r1 := blk_cellL HX.out.1 1
    have r2 := blk_cellL HX.out.1 2
    have r3 := blk_cellL HX.out.1 3
    have g1 := blk_freeL HX.out.1
    go_wp2_with fail
    have hs4 := tok_set HX.out.1 (.int .i64 2) (.string ⟨t.toArray⟩) (.int .i64 0) (.int .i64 0)
    have hs5 := tok_below HX.out.2 (Nat.le_refl _) (.int .i64 2) (.string ⟨t.toArray⟩) (.int .i64 0) (.int .i64 0)
    clear r0 r1 r2 r3 g1
    generalize World.setCell (World.setCell (World.setCell (World.setCell _ _ _) _ _) _ _) _ _ = W4 at hs4 hs5 ⊢
    have f0 := blk_cellL hs4 0
    have f1 := blk_cellL hs4 1
    have f2 := blk_cellL hs4 2
    have f3 := blk_cellL hs4 3
    exact bodyPost_ret (v := .tuple #[.agg #[.int .i64 2, .string ⟨t.toArray⟩, .int .i64 0, .int .i64 0], .int .i64 ((k + 1 + n : Nat) : Int), .bool true]) (by simp [results, Tryd.results24, go_sem, f0, f1, f2, f3]) rfl ⟨(by rw [show k + 1 + n = k + (n + 1) by omega]; rfl), hs5⟩
  | none =>
    rw [ht] at HI
    clear ht
    have HI2 := Lib.hid (show ∀ W, Calls _ _ _ W (fun e w' => e = .returned (.tuple #[.agg #[.int .i64 0, .string ⟨#[]⟩, .int .i64 0, .int .i64 0], .int .i64 0, .bool false]) ∧ Below W.heap.size W w') from HI.out)
    clear HI
    go_enter Tryd.func24, Tryd.ntmps24
    go_wp2_with fail
    refine (HD.out _).mono ?_
    rintro e w1 ⟨rfl, hw1⟩
    subst w1
    go_wp2_with fail
    refine (HI2.out _).mono ?_
    rintro e w1 ⟨rfl, hb1⟩
    have HX := Lib.hid (And.intro (box_stay hb1) (HX0.out.trans (hb1.mono HX0.out.size)))
    clear hb1
    have r0 := blk_cellL HX.out.1 0
    have r1 := blk_cellL HX.out.1 1
    have r2 := blk_cellL HX.out.1 2
    have r3 := blk_cellL HX.out.1 3
    have g1 := blk_freeL HX.out.1
    go_wp2_with fail
    have hs4 := tok_set HX.out.1 (.int .i64 0) (.string ⟨#[]⟩) (.int .i64 0) (.int .i64 0)
    have hs5 := tok_below HX.out.2 (Nat.le_refl _) (.int .i64 0) (.string ⟨#[]⟩) (.int .i64 0) (.int .i64 0)
    clear r0 r1 r2 r3 g1
    generalize World.setCell (World.setCell (World.setCell (World.setCell _ _ _) _ _) _ _) _ _ = W4 at hs4 hs5 ⊢
    have f0 := blk_cellL hs4 0
    have f1 := blk_cellL hs4 1
    have f2 := blk_cellL hs4 2
    have f3 := blk_cellL hs4 3
    exact bodyPost_ret (v := .tuple #[.agg #[.int .i64 0, .string ⟨#[]⟩, .int .i64 0, .int .i64 0], .int .i64 0, .bool false]) (by simp [results, Tryd.results24, go_sem, f0, f1, f2, f3]) rfl ⟨⟨_, _, _, _, rfl⟩, hs5⟩
end Go.Proofs.YtphhokpbkcdljaaDoor
namespace Go.Proofs.YtphhokpbkcdljaaDoor
open Go Go.RowKit
theorem ext_mid (s : ByteArray) (k e : Nat) : (s.extract k e).data.toList = (s.data.toList.drop k).take (e - k) := by
  rw [Lib.extract_data]
theorem LxT.drew {w : World} (h : LxT w) : LxT w.drew := ⟨h.k, h.c, h.s⟩
set_option maxRecDepth 100000 in
set_option maxHeartbeats 8000000 in
theorem cut_word (s : ByteArray) (hs : s.size ≤ 1000000) (k : Nat) (hk : k < s.size) (hw : isSm s[k] = true ∨ isLg s[k] = true) (w : World) (hT : LxT w) :
    Calls Tryd.prog 24 #[.string s, .int .i64 (k : Int)] w fun e w' => CuV k (cutL (s.data.toList.drop k)) e ∧ Below w.heap.size w w' := by
  have hbd : (97 ≤ s[k].toNat ∧ s[k].toNat ≤ 122) ∨ (65 ≤ s[k].toNat ∧ s[k].toNat ≤ 90) := hw.imp sm_bd lg_bd
  have HX0 := Lib.hid (And.intro (heap_alloc_new w (.cells #[.int .i64 0, .string ⟨#[]⟩, .int .i64 0, .int .i64 0] 32)) (below_oneL w (.cells #[.int .i64 0, .string ⟨#[]⟩, .int .i64 0, .int .i64 0] 32)))
  have HD := Lib.hid (isDg_any s[k])
  have hd : isDg s[k] = false := dg_no (by omega)
  rw [hd] at HD
  have HS := Lib.hid (isSm_any s[k])
  have HL := Lib.hid (isLg_any s[k])
  have HR := Lib.hid (run_any s (by omega) (k + 1) (by omega) true)
  rw [partP_true] at HR
  have hcl : cutL (s.data.toList.drop k) = some (⟨kindW ((s.data.toList.drop k).take (Go.Proofs.YtphhokpbkcdljaaDoor.run part1 (s.data.toList.drop (k + 1)) + 1)), (s.data.toList.drop k).take (Go.Proofs.YtphhokpbkcdljaaDoor.run part1 (s.data.toList.drop (k + 1)) + 1), 0⟩, Go.Proofs.YtphhokpbkcdljaaDoor.run part1 (s.data.toList.drop (k + 1)) + 1) := by
    rw [drop_cons s hk]
    unfold cutL
    simp only
    rw [if_neg (by rw [hd]; simp), if_neg (by omega), if_pos hw]
  rw [hcl]
  have hrl := run_le part1 (s.data.toList.drop (k + 1))
  rw [List.length_drop, len_data] at hrl
  generalize Go.Proofs.YtphhokpbkcdljaaDoor.run part1 (s.data.toList.drop (k + 1)) = n at HR hrl ⊢
  have hB : (((s[k].toNat : Nat) : Int) == 34) = false := by rw [beq_eq_false_iff_ne]; omega
  have p0 : (0 : Int) ≤ (s[k].toNat : Int) := by omega
  have hk0 : (0 : Int) ≤ k := by omega
  have hks : (k : Int) < s.size := by omega
  obtain ⟨E, hE⟩ : ∃ E : Nat, k + 1 + n = E := ⟨_, rfl⟩
  rw [hE] at HR
  have hkE : (k : Int) ≤ E := by omega
  have hE0 : (0 : Int) ≤ E := by omega
  have hEs : (E : Int) ≤ s.size := by omega
  have hex : (s.extract k E).data.toList = (s.data.toList.drop k).take (n + 1) := by rw [ext_mid s k E, show E - k = n + 1 by omega]
  have hKd := kindof_any (s.extract k E) (by rw [ByteArray.size_extract]; omega)
  rw [hex] at hKd
  have HKD := Lib.hid hKd
  have HTX := Lib.hid (show (⟨((s.data.toList.drop k).take (n + 1)).toArray⟩ : ByteArray) = s.extract k E from by rw [← hex])
  have HT := Lib.hid (hT.stay (below_oneL w (.cells #[.int .i64 0, .string ⟨#[]⟩, .int .i64 0, .int .i64 0] 32)))
  have HEE := Lib.hid (show k + (n + 1) = E by omega)
  clear hcl hd hbd hKd hex hrl hT hE
  generalize kindW ((s.data.toList.drop k).take (n + 1)) = kw at HKD ⊢
  obtain ⟨x, hx⟩ : ∃ x, isSm s[k] = x := ⟨_, rfl⟩
  rw [hx] at HS hw
  have hxy : x = true ∨ (x = false ∧ isLg s[k] = true) := by cases x with
    | true => exact .inl rfl
    | false => exact .inr ⟨rfl, hw.resolve_left (by simp)⟩
  clear hw hx
  rcases hxy with rfl | ⟨rfl, hy⟩
  · go_enter Tryd.func24, Tryd.ntmps24
    go_wp2_with fail
    refine (HD.out _).mono ?_
    rintro e w1 ⟨rfl, hw1⟩
    subst w1
    go_wp2_with fail
    refine (HS.out _).mono ?_
    rintro e w1 ⟨rfl, hw1⟩
    subst w1
    go_wp2_with fail
    refine (HR.out _).mono ?_
    rintro e w1 ⟨rfl, hw1⟩
    subst w1
    go_wp2_with fail
    go_region_law ((go_simp; go_at_call 45; refine (HKD.out _ HT.out.drew).mono ?_; rintro e w' ⟨rfl, rfl⟩))
    all_goals
      go_wp2_with fail
      have hs4 := heap_alloc_new w (.cells #[.int .i64 (kw : Int), .string (s.extract k E), .int .i64 0, .int .i64 0] 32)
      have hs5 : Below w.heap.size w (w.alloc (.cells #[.int .i64 (kw : Int), .string (s.extract k E), .int .i64 0, .int .i64 0] 32)).drew := (below_oneL w _).drew
      generalize w.alloc (.cells #[.int .i64 (kw : Int), .string (s.extract k E), .int .i64 0, .int .i64 0] 32) = W4 at hs4 hs5 ⊢
      change W4.drew.heap[w.heap.size]? = _ at hs4
      generalize W4.drew = W5 at hs4 hs5 ⊢
      have f0 := blk_cellL hs4 0
      have f1 := blk_cellL hs4 1
      have f2 := blk_cellL hs4 2
      have f3 := blk_cellL hs4 3
      exact bodyPost_ret (v := .tuple #[.agg #[.int .i64 (kw : Int), .string (s.extract k E), .int .i64 0, .int .i64 0], .int .i64 (E : Int), .bool true]) (by simp [results, Tryd.results24, go_sem, f0, f1, f2, f3]) rfl ⟨by unfold CuV tokA; simp only; rw [HTX.out, HEE.out]; rfl, hs5⟩
  · rw [hy] at HL
    clear hy
    go_enter Tryd.func24, Tryd.ntmps24
    go_wp2_with fail
    refine (HD.out _).mono ?_
    rintro e w1 ⟨rfl, hw1⟩
    subst w1
    go_wp2_with fail
    refine (HS.out _).mono ?_
    rintro e w1 ⟨rfl, hw1⟩
    subst w1
    go_wp2_with fail
    refine (HL.out _).mono ?_
    rintro e w1 ⟨rfl, hw1⟩
    subst w1
    go_wp2_with fail
    refine (HR.out _).mono ?_
    rintro e w1 ⟨rfl, hw1⟩
    subst w1
    go_wp2_with fail
    go_region_law ((go_simp; go_at_call 45; refine (HKD.out _ HT.out.drew).mono ?_; rintro e w' ⟨rfl, rfl⟩))
    all_goals
      go_wp2_with fail
      have hs4 := heap_alloc_new w (.cells #[.int .i64 (kw : Int), .string (s.extract k E), .int .i64 0, .int .i64 0] 32)
      have hs5 : Below w.heap.size w (w.alloc (.cells #[.int .i64 (kw : Int), .string (s.extract k E), .int .i64 0, .int .i64 0] 32)).drew := (below_oneL w _).drew
      generalize w.alloc (.cells #[.int .i64 (kw : Int), .string (s.extract k E), .int .i64 0, .int .i64 0] 32) = W4 at hs4 hs5 ⊢
      change W4.drew.heap[w.heap.size]? = _ at hs4
      generalize W4.drew = W5 at hs4 hs5 ⊢
      have f0 := blk_cellL hs4 0
      have f1 := blk_cellL hs4 1
      have f2 := blk_cellL hs4 2
      have f3 := blk_cellL hs4 3
      exact bodyPost_ret (v := .tuple #[.agg #[.int .i64 (kw : Int), .string (s.extract k E), .int .i64 0, .int .i64 0], .int .i64 (E : Int), .bool true]) (by simp [results, Tryd.results24, go_sem, f0, f1, f2, f3]) rfl ⟨by unfold CuV tokA; simp only; rw [HTX.out, HEE.out]; rfl, hs5⟩
end Go.Proofs.YtphhokpbkcdljaaDoor
namespace Go.Proofs.YtphhokpbkcdljaaDoor
open Go Go.RowKit
set_option maxRecDepth 100000 in
set_option maxHeartbeats 8000000 in
theorem cut_tvar (s : ByteArray) (hs : s.size ≤ 1000000) (k : Nat) (hk : k + 1 < s.size) (h39 : s[k].toNat = 39) (hw : isSm s[k + 1] = true) (w : World) :
    Calls Tryd.prog 24 #[.string s, .int .i64 (k : Int)] w fun e w' => CuV k (cutL (s.data.toList.drop k)) e ∧ Below w.heap.size w w' := by
  have HD := Lib.hid (isDg_any s[k])
  have HS := Lib.hid (isSm_any s[k])
  have HL := Lib.hid (isLg_any s[k])
  have HS2 := Lib.hid (isSm_any s[k + 1])
  have hd : isDg s[k] = false := dg_no (by omega)
  have hsm : isSm s[k] = false := sm_no (by omega)
  have hlg : isLg s[k] = false := lg_no (by omega)
  have hcl : cutL (s.data.toList.drop k) = some (⟨5, (s.data.toList.drop k).take (Go.Proofs.YtphhokpbkcdljaaDoor.run part0 (s.data.toList.drop (k + 1)) + 1), 0⟩, Go.Proofs.YtphhokpbkcdljaaDoor.run part0 (s.data.toList.drop (k + 1)) + 1) := by
    rw [drop_cons s (show k < s.size by omega)]
    unfold cutL
    simp only
    rw [if_neg (by rw [hd]; simp), if_neg (by omega), if_neg (by rw [hsm, hlg]; simp), if_pos ⟨h39, by rw [headD_drop' s hk]; exact hw⟩]
  rw [hcl]
  rw [hd] at HD
  rw [hsm] at HS
  rw [hlg] at HL
  rw [hw] at HS2
  have HR := Lib.hid (run_any s (by omega) (k + 1) (by omega) false)
  rw [partP_false] at HR
  have hrl := run_le part0 (s.data.toList.drop (k + 1))
  rw [List.length_drop, len_data] at hrl
  generalize Go.Proofs.YtphhokpbkcdljaaDoor.run part0 (s.data.toList.drop (k + 1)) = n at HR hrl ⊢
  have hB : (((s[k].toNat : Nat) : Int) == 34) = false := by rw [h39]; rfl
  have hB2 : (((s[k].toNat : Nat) : Int) == 39) = true := by rw [h39]; rfl
  have p0 : (0 : Int) ≤ (s[k].toNat : Int) := by omega
  have p1 : (0 : Int) ≤ (s[k + 1].toNat : Int) := by omega
  have hk0 : (0 : Int) ≤ k := by omega
  have hks : (k : Int) < s.size := by omega
  have hk1 : decide ((k : Int) + 1 < s.size) = true := decide_eq_true (by omega)
  obtain ⟨E, hE⟩ : ∃ E : Nat, k + 1 + n = E := ⟨_, rfl⟩
  rw [hE] at HR
  have hkE : (k : Int) ≤ E := by omega
  have hE0 : (0 : Int) ≤ E := by omega
  have hEs : (E : Int) ≤ s.size := by omega
  have hex : (s.extract k E).data.toList = (s.data.toList.drop k).take (n + 1) := by rw [ext_mid s k E, show E - k = n + 1 by omega]
  have HTX := Lib.hid (show (⟨((s.data.toList.drop k).take (n + 1)).toArray⟩ : ByteArray) = s.extract k E from by rw [← hex])
  have HEE := Lib.hid (show k + (n + 1) = E by omega)
  clear hcl hd hsm hlg hw h39 hex hrl hE
  go_enter Tryd.func24, Tryd.ntmps24
  go_wp2_with fail
  refine (HD.out _).mono ?_
  rintro e w1 ⟨rfl, hw1⟩
  subst w1
  go_wp2_with fail
  refine (HS.out _).mono ?_
  rintro e w1 ⟨rfl, hw1⟩
  subst w1
  go_wp2_with fail
  refine (HL.out _).mono ?_
  rintro e w1 ⟨rfl, hw1⟩
  subst w1
  go_wp2_with fail
  refine (HS2.out _).mono ?_
  rintro e w1 ⟨rfl, hw1⟩
  subst w1
  go_wp2_with fail
  refine (HR.out _).mono ?_
  rintro e w1 ⟨rfl, hw1⟩
  subst w1
  go_wp2_with fail
  have hs4 := heap_alloc_new w (.cells #[.int .i64 5, .string (s.extract k E), .int .i64 0, .int .i64 0] 32)
  have hs5 : Below w.heap.size w (w.alloc (.cells #[.int .i64 5, .string (s.extract k E), .int .i64 0, .int .i64 0] 32)) := below_oneL w _
  generalize w.alloc (.cells #[.int .i64 5, .string (s.extract k E), .int .i64 0, .int .i64 0] 32) = W4 at hs4 hs5 ⊢
  have f0 := blk_cellL hs4 0
  have f1 := blk_cellL hs4 1
  have f2 := blk_cellL hs4 2
  have f3 := blk_cellL hs4 3
  exact bodyPost_ret (v := .tuple #[.agg #[.int .i64 5, .string (s.extract k E), .int .i64 0, .int .i64 0], .int .i64 (E : Int), .bool true]) (by simp [results, Tryd.results24, go_sem, f0, f1, f2, f3]) rfl ⟨by unfold CuV tokA; simp only; rw [HTX.out, HEE.out]; rfl, hs5⟩
end Go.Proofs.YtphhokpbkcdljaaDoor
namespace Go.Proofs.YtphhokpbkcdljaaDoor
open Go Go.RowKit
set_option maxRecDepth 100000 in
set_option maxHeartbeats 8000000 in
theorem cut_sign (s : ByteArray) (hs : s.size ≤ 1000000) (k : Nat) (hk : k < s.size) (hd : isDg s[k] = false) (h34 : s[k].toNat ≠ 34) (hsm : isSm s[k] = false) (hlg : isLg s[k] = false)
    (h39 : s[k].toNat ≠ 39) (w : World) (hT : LxT w) :
    Calls Tryd.prog 24 #[.string s, .int .i64 (k : Int)] w fun e w' => CuV k (cutL (s.data.toList.drop k)) e ∧ Below w.heap.size w w' := by
  have HD := Lib.hid (isDg_any s[k])
  have HS := Lib.hid (isSm_any s[k])
  have HL := Lib.hid (isLg_any s[k])
  have hcl : cutL (s.data.toList.drop k) = (signP (s.data.toList.drop k)).map fun s => (⟨7, s, 0⟩, s.length) := by
    rw [drop_cons s hk]
    unfold cutL
    simp only
    rw [if_neg (by rw [hd]; simp), if_neg h34, if_neg (by rw [hsm, hlg]; simp), if_neg (fun q => h39 q.1)]
  rw [hcl]
  rw [hd] at HD
  rw [hsm] at HS
  rw [hlg] at HL
  have hB : (((s[k].toNat : Nat) : Int) == 34) = false := by rw [beq_eq_false_iff_ne]; omega
  have hB2 : (((s[k].toNat : Nat) : Int) == 39) = false := by rw [beq_eq_false_iff_ne]; omega
  have p0 : (0 : Int) ≤ (s[k].toNat : Int) := by omega
  have hk0 : (0 : Int) ≤ k := by omega
  have hks : (k : Int) < s.size := by omega
  have hsg := fun (W : World) (h : LxT W) => sign_any (s.extract k s.size) W h
  rw [show (s.extract k s.size).data.toList = s.data.toList.drop k from Lib.extract_to_end s k] at hsg
  have HT := Lib.hid (hT.stay (below_oneL w (.cells #[.int .i64 0, .string ⟨#[]⟩, .int .i64 0, .int .i64 0] 32)))
  obtain ⟨g, hg⟩ : ∃ g, sgP (s.data.toList.drop k) 0 = g := ⟨_, rfl⟩
  rw [hg] at hsg
  rw [sgP_zero] at hg
  have HSG := Lib.hid hsg
  have hgs : g.size ≤ 2 := by
    cases hp : signP (s.data.toList.drop k) with
    | none => rw [hp] at hg; rw [← hg]; exact Nat.zero_le _
    | some x =>
      rw [hp] at hg
      have := (sign_head x (List.mem_of_find?_eq_some hp)).2.1
      rw [← hg]; simpa [ByteArray.size] using this
  clear hcl hd hsm hlg h39 h34 hT hsg
  cases hp : signP (s.data.toList.drop k) with
  | some x =>
    rw [hp] at hg
    have hx := (sign_head x (List.mem_of_find?_eq_some hp)).1
    have hgx : g.size = x.length := by rw [← hg]; simp [ByteArray.size]
    have hge : g.toList.isEmpty = false := toL_isE (by rw [hgx]; exact List.length_pos_iff.2 hx)
    have HV := Lib.hid (show CuV k ((some x).map fun s => (⟨7, s, 0⟩, s.length)) (.returned (.tuple #[.agg #[.int .i64 7, .string g, .int .i64 0, .int .i64 0], .int .i64 ((k : Int) + (g.size : Int)), .bool true])) from by
      rw [hgx, ← hg]; rfl)
    clear hp hg hx hgx
    · go_enter Tryd.func24, Tryd.ntmps24
      go_wp2_with fail
      refine (HD.out _).mono ?_
      rintro e w1 ⟨rfl, hw1⟩
      subst w1
      go_wp2_with fail
      refine (HS.out _).mono ?_
      rintro e w1 ⟨rfl, hw1⟩
      subst w1
      go_wp2_with fail
      refine (HL.out _).mono ?_
      rintro e w1 ⟨rfl, hw1⟩
      subst w1
      go_wp2_with fail
      refine (HSG.out _ HT.out).mono ?_
      rintro e w1 ⟨rfl, hw1⟩
      subst w1
      go_wp2_with fail
      have hs4 := heap_alloc_new w (.cells #[.int .i64 7, .string g, .int .i64 0, .int .i64 0] 32)
      have hs5 : Below w.heap.size w (w.alloc (.cells #[.int .i64 7, .string g, .int .i64 0, .int .i64 0] 32)) := below_oneL w _
      generalize w.alloc (.cells #[.int .i64 7, .string g, .int .i64 0, .int .i64 0] 32) = W4 at hs4 hs5 ⊢
      have f0 := blk_cellL hs4 0
      have f1 := blk_cellL hs4 1
      have f2 := blk_cellL hs4 2
      have f3 := blk_cellL hs4 3
      exact bodyPost_ret (v := .tuple #[.agg #[.int .i64 7, .string g, .int .i64 0, .int .i64 0], .int .i64 ((k : Int) + (g.size : Int)), .bool true]) (by simp [results, Tryd.results24, go_sem, f0, f1, f2, f3]) rfl ⟨HV.out, hs5⟩
  | none =>
    rw [hp] at hg
    have hg2 : g = ⟨#[]⟩ := hg.symm
    have hge : g.toList.isEmpty = true := by rw [hg2, toL_empty rfl]; rfl
    have HV := Lib.hid (show CuV k ((none : Option (List UInt8)).map fun s => (⟨7, s, 0⟩, s.length)) (.returned (.tuple #[.agg #[.int .i64 7, .string g, .int .i64 0, .int .i64 0], .int .i64 ((k : Int) + (g.size : Int)), .bool false])) from ⟨_, _, _, _, rfl⟩)
    clear hp hg hg2
    · go_enter Tryd.func24, Tryd.ntmps24
      go_wp2_with fail
      refine (HD.out _).mono ?_
      rintro e w1 ⟨rfl, hw1⟩
      subst w1
      go_wp2_with fail
      refine (HS.out _).mono ?_
      rintro e w1 ⟨rfl, hw1⟩
      subst w1
      go_wp2_with fail
      refine (HL.out _).mono ?_
      rintro e w1 ⟨rfl, hw1⟩
      subst w1
      go_wp2_with fail
      refine (HSG.out _ HT.out).mono ?_
      rintro e w1 ⟨rfl, hw1⟩
      subst w1
      go_wp2_with fail
      have hs4 := heap_alloc_new w (.cells #[.int .i64 7, .string g, .int .i64 0, .int .i64 0] 32)
      have hs5 : Below w.heap.size w (w.alloc (.cells #[.int .i64 7, .string g, .int .i64 0, .int .i64 0] 32)) := below_oneL w _
      generalize w.alloc (.cells #[.int .i64 7, .string g, .int .i64 0, .int .i64 0] 32) = W4 at hs4 hs5 ⊢
      have f0 := blk_cellL hs4 0
      have f1 := blk_cellL hs4 1
      have f2 := blk_cellL hs4 2
      have f3 := blk_cellL hs4 3
      exact bodyPost_ret (v := .tuple #[.agg #[.int .i64 7, .string g, .int .i64 0, .int .i64 0], .int .i64 ((k : Int) + (g.size : Int)), .bool false]) (by simp [results, Tryd.results24, go_sem, f0, f1, f2, f3]) rfl ⟨HV.out, hs5⟩
end Go.Proofs.YtphhokpbkcdljaaDoor
namespace Go.Proofs.YtphhokpbkcdljaaDoor
open Go Go.RowKit
theorem signP_prime {l : List UInt8} (h : (l.headD 0).toNat = 39) : signP l = none := by
  cases hp : signP l with
  | none => rfl
  | some x =>
    have hm := List.mem_of_find?_eq_some hp
    have hx := List.find?_some hp
    have h1 := sign_head x hm
    have h2 : l.take x.length = x := of_decide_eq_true hx
    have h3 : 1 ≤ x.length := List.length_pos_iff.2 h1.1
    have h4 := headD_take (l := l) h3
    rw [h2] at h4
    exact absurd (h4 ▸ h) h1.2.2.2.2.2.2
set_option maxRecDepth 100000 in
set_option maxHeartbeats 8000000 in
theorem cut_prime_end (s : ByteArray) (hs : s.size ≤ 1000000) (k : Nat) (hk : k < s.size) (h39 : s[k].toNat = 39) (hk1 : ¬ k + 1 < s.size) (w : World) (hT : LxT w) :
    Calls Tryd.prog 24 #[.string s, .int .i64 (k : Int)] w fun e w' => CuV k (cutL (s.data.toList.drop k)) e ∧ Below w.heap.size w w' := by
  have HD := Lib.hid (isDg_any s[k])
  have HS := Lib.hid (isSm_any s[k])
  have HL := Lib.hid (isLg_any s[k])
  have hd : isDg s[k] = false := dg_no (by omega)
  have hsm : isSm s[k] = false := sm_no (by omega)
  have hlg : isLg s[k] = false := lg_no (by omega)
  have hnp : signP (s.data.toList.drop k) = none := signP_prime (by rw [headD_drop' s hk]; exact h39)
  have hnx : ¬ (s[k].toNat = 39 ∧ isSm ((s.data.toList.drop (k + 1)).headD 0) = true) := by
    rw [drop_end s (by omega)]; simp [isSm]
  have hcl : cutL (s.data.toList.drop k) = (signP (s.data.toList.drop k)).map fun s => (⟨7, s, 0⟩, s.length) := by
    rw [drop_cons s hk] at hnp ⊢
    unfold cutL
    simp only
    rw [if_neg (by rw [hd]; simp), if_neg (by omega), if_neg (by rw [hsm, hlg]; simp), if_neg hnx]
  rw [hcl, hnp]
  rw [hd] at HD
  rw [hsm] at HS
  rw [hlg] at HL
  have hB : (((s[k].toNat : Nat) : Int) == 34) = false := by rw [h39]; rfl
  have hB2 : (((s[k].toNat : Nat) : Int) == 39) = true := by rw [h39]; rfl
  have p0 : (0 : Int) ≤ (s[k].toNat : Int) := by omega
  have hk0 : (0 : Int) ≤ k := by omega
  have hks : (k : Int) < s.size := by omega
  have hk1' : decide ((k : Int) + 1 < s.size) = false := decide_eq_false (by omega)
  have hsg := fun (W : World) (h : LxT W) => sign_any (s.extract k s.size) W h
  rw [show (s.extract k s.size).data.toList = s.data.toList.drop k from Lib.extract_to_end s k, sgP_zero, hnp] at hsg
  have HT := Lib.hid (hT.stay (below_oneL w (.cells #[.int .i64 0, .string ⟨#[]⟩, .int .i64 0, .int .i64 0] 32)))
  have HSG := Lib.hid (show ∀ W : World, LxT W → Calls _ _ _ W (fun e w' => e = .returned (.string ⟨#[]⟩) ∧ w' = W) from hsg)
  have hge : (⟨#[]⟩ : ByteArray).toList.isEmpty = true := by rw [toL_empty rfl]; rfl
  clear hcl hd hsm hlg h39 hT hsg hnp hnx hk1
  go_enter Tryd.func24, Tryd.ntmps24
  go_wp2_with fail
  refine (HD.out _).mono ?_
  rintro e w1 ⟨rfl, hw1⟩
  subst w1
  go_wp2_with fail
  refine (HS.out _).mono ?_
  rintro e w1 ⟨rfl, hw1⟩
  subst w1
  go_wp2_with fail
  refine (HL.out _).mono ?_
  rintro e w1 ⟨rfl, hw1⟩
  subst w1
  go_wp2_with fail
  refine (HSG.out _ HT.out).mono ?_
  rintro e w1 ⟨rfl, hw1⟩
  subst w1
  go_wp2_with fail
  have hs4 := heap_alloc_new w (.cells #[.int .i64 7, .string ⟨#[]⟩, .int .i64 0, .int .i64 0] 32)
  have hs5 : Below w.heap.size w (w.alloc (.cells #[.int .i64 7, .string ⟨#[]⟩, .int .i64 0, .int .i64 0] 32)) := below_oneL w _
  generalize w.alloc (.cells #[.int .i64 7, .string ⟨#[]⟩, .int .i64 0, .int .i64 0] 32) = W4 at hs4 hs5 ⊢
  have f0 := blk_cellL hs4 0
  have f1 := blk_cellL hs4 1
  have f2 := blk_cellL hs4 2
  have f3 := blk_cellL hs4 3
  exact bodyPost_ret (v := .tuple #[.agg #[.int .i64 7, .string ⟨#[]⟩, .int .i64 0, .int .i64 0], .int .i64 (k : Int), .bool false]) (by simp [results, Tryd.results24, go_sem, f0, f1, f2, f3]) rfl ⟨⟨_, _, _, _, rfl⟩, hs5⟩
set_option maxRecDepth 100000 in
set_option maxHeartbeats 8000000 in
theorem cut_prime_no (s : ByteArray) (hs : s.size ≤ 1000000) (k : Nat) (hk : k < s.size) (h39 : s[k].toNat = 39) (hk1 : k + 1 < s.size) (hw : isSm s[k + 1] = false) (w : World) (hT : LxT w) :
    Calls Tryd.prog 24 #[.string s, .int .i64 (k : Int)] w fun e w' => CuV k (cutL (s.data.toList.drop k)) e ∧ Below w.heap.size w w' := by
  have HD := Lib.hid (isDg_any s[k])
  have HS := Lib.hid (isSm_any s[k])
  have HL := Lib.hid (isLg_any s[k])
  have HS2 := Lib.hid (isSm_any s[k + 1])
  rw [hw] at HS2
  have hd : isDg s[k] = false := dg_no (by omega)
  have hsm : isSm s[k] = false := sm_no (by omega)
  have hlg : isLg s[k] = false := lg_no (by omega)
  have hnp : signP (s.data.toList.drop k) = none := signP_prime (by rw [headD_drop' s hk]; exact h39)
  have hnx : ¬ (s[k].toNat = 39 ∧ isSm ((s.data.toList.drop (k + 1)).headD 0) = true) := by
    rw [headD_drop' s hk1, hw]; simp
  have hcl : cutL (s.data.toList.drop k) = (signP (s.data.toList.drop k)).map fun s => (⟨7, s, 0⟩, s.length) := by
    rw [drop_cons s hk] at hnp ⊢
    unfold cutL
    simp only
    rw [if_neg (by rw [hd]; simp), if_neg (by omega), if_neg (by rw [hsm, hlg]; simp), if_neg hnx]
  rw [hcl, hnp]
  rw [hd] at HD
  rw [hsm] at HS
  rw [hlg] at HL
  have hB : (((s[k].toNat : Nat) : Int) == 34) = false := by rw [h39]; rfl
  have hB2 : (((s[k].toNat : Nat) : Int) == 39) = true := by rw [h39]; rfl
  have p0 : (0 : Int) ≤ (s[k].toNat : Int) := by omega
  have hk0 : (0 : Int) ≤ k := by omega
  have hks : (k : Int) < s.size := by omega
  have hk1' : decide ((k : Int) + 1 < s.size) = true := decide_eq_true (by omega)
  have p1 : (0 : Int) ≤ (s[k + 1].toNat : Int) := by omega
  have hsg := fun (W : World) (h : LxT W) => sign_any (s.extract k s.size) W h
  rw [show (s.extract k s.size).data.toList = s.data.toList.drop k from Lib.extract_to_end s k, sgP_zero, hnp] at hsg
  have HT := Lib.hid (hT.stay (below_oneL w (.cells #[.int .i64 0, .string ⟨#[]⟩, .int .i64 0, .int .i64 0] 32)))
  have HSG := Lib.hid (show ∀ W : World, LxT W → Calls _ _ _ W (fun e w' => e = .returned (.string ⟨#[]⟩) ∧ w' = W) from hsg)
  have hge : (⟨#[]⟩ : ByteArray).toList.isEmpty = true := by rw [toL_empty rfl]; rfl
  clear hcl hd hsm hlg h39 hT hsg hnp hnx hw
  go_enter Tryd.func24, Tryd.ntmps24
  go_wp2_with fail
  refine (HD.out _).mono ?_
  rintro e w1 ⟨rfl, hw1⟩
  subst w1
  go_wp2_with fail
  refine (HS.out _).mono ?_
  rintro e w1 ⟨rfl, hw1⟩
  subst w1
  go_wp2_with fail
  refine (HL.out _).mono ?_
  rintro e w1 ⟨rfl, hw1⟩
  subst w1
  go_wp2_with fail
  refine (HS2.out _).mono ?_
  rintro e w1 ⟨rfl, hw1⟩
  subst w1
  go_wp2_with fail
  refine (HSG.out _ HT.out).mono ?_
  rintro e w1 ⟨rfl, hw1⟩
  subst w1
  go_wp2_with fail
  have hs4 := heap_alloc_new w (.cells #[.int .i64 7, .string ⟨#[]⟩, .int .i64 0, .int .i64 0] 32)
  have hs5 : Below w.heap.size w (w.alloc (.cells #[.int .i64 7, .string ⟨#[]⟩, .int .i64 0, .int .i64 0] 32)) := below_oneL w _
  generalize w.alloc (.cells #[.int .i64 7, .string ⟨#[]⟩, .int .i64 0, .int .i64 0] 32) = W4 at hs4 hs5 ⊢
  have f0 := blk_cellL hs4 0
  have f1 := blk_cellL hs4 1
  have f2 := blk_cellL hs4 2
  have f3 := blk_cellL hs4 3
  exact bodyPost_ret (v := .tuple #[.agg #[.int .i64 7, .string ⟨#[]⟩, .int .i64 0, .int .i64 0], .int .i64 (k : Int), .bool false]) (by simp [results, Tryd.results24, go_sem, f0, f1, f2, f3]) rfl ⟨⟨_, _, _, _, rfl⟩, hs5⟩
theorem cut_any (s : ByteArray) (hs : s.size ≤ 1000000) (k : Nat) (hk : k < s.size) (w : World) (hT : LxT w) :
    Calls Tryd.prog 24 #[.string s, .int .i64 (k : Int)] w fun e w' => CuV k (cutL (s.data.toList.drop k)) e ∧ Below w.heap.size w w' := by
  cases hd : isDg s[k] with
  | true => exact cut_digit s hs k hk hd w
  | false =>
    by_cases h34 : s[k].toNat = 34
    · exact cut_quote s hs k hk h34 w
    · cases hsm : isSm s[k] with
      | true => exact cut_word s hs k hk (.inl hsm) w hT
      | false =>
        cases hlg : isLg s[k] with
        | true => exact cut_word s hs k hk (.inr hlg) w hT
        | false =>
          by_cases h39 : s[k].toNat = 39
          · by_cases hk1 : k + 1 < s.size
            · cases hw : isSm s[k + 1] with
              | true => exact cut_tvar s hs k hk1 h39 hw w
              | false => exact cut_prime_no s hs k hk h39 hk1 hw w hT
            · exact cut_prime_end s hs k hk h39 hk1 w hT
          · exact cut_sign s hs k hk hd h34 hsm hlg h39 w hT
end Go.Proofs.YtphhokpbkcdljaaDoor
namespace Go.Proofs.YtphhokpbkcdljaaDoor
open Go Go.RowKit
set_option maxRecDepth 100000 in
set_option maxHeartbeats 32000000 in
theorem scan_any (s : ByteArray) (hs : s.size ≤ 140737488351232) (w : World) (hT : LxT w) :
    Calls Tryd.prog 13 #[.string s] w (ScV w (scanTop s.data.toList)) := by
  obtain ⟨i0, hi, hz0, hz1, hz2⟩ := info_parts infoTok
  by_cases hbig : 4096 < s.size
  · have hd : decide ((4096 : Int) < (s.size : Int)) = true := decide_eq_true (by omega)
    have HR := Lib.hid (show scanTop s.data.toList = (none, 0, 3) from by unfold scanTop; rw [len_data, if_pos hbig])
    clear hbig
    go_enter Tryd.func13, Tryd.ntmps13
    go_wp2_with fail
    go_ret3
    exact ⟨⟨_, by rw [HR.out]; rfl, .inl ⟨by rw [HR.out], rfl⟩⟩, Below.refl _ _⟩
  have hd : decide ((4096 : Int) < (s.size : Int)) = false := decide_eq_false (by omega)
  obtain ⟨res, hr⟩ : ∃ res, scanTop s.data.toList = res := ⟨_, rfl⟩
  rw [hr]
  unfold scanTop at hr
  rw [len_data, if_neg hbig] at hr
  have HR := Lib.hid hr
  have HT := Lib.hid hT
  have hs4 : s.size ≤ 4096 := by omega
  clear hr hbig hT
  go_enter Tryd.func13, Tryd.ntmps13
  go_wp2_with fail
  go_loopw [5, 6] (fun v i wr => ∃ (k : Nat) (out : List (Tok × Nat)), k ≤ s.size ∧ i = .int .i64 k ∧ out.length ≤ k ∧ out.length ≤ 1000 ∧ wr.ownsRow w.heap.size 32 4 v out.length (cellsT out) ∧ Below w.heap.size w wr ∧ appR out (scanT (s.data.toList.drop k) k out.length) = res) (fun _ i _ => s.size + 1 - (intOf i).toNat)
  case atStart => exact ⟨0, [], Nat.zero_le _, rfl, Nat.le_refl _, Nat.zero_le _, World.ownsRow_nil _ _ _ _, Below.refl _ _, by rw [appR_nil]; simpa using HR.out⟩
  case round =>
    obtain ⟨k, out, hk, rfl, hok, ho4, hrow, hb, hsc⟩ := hrel
    obtain ⟨va, vc, rfl⟩ := own_shape4L hrow
    have HROW := Lib.hid hrow
    have HB := Lib.hid hb
    have HSC := Lib.hid hsc
    have HTR := Lib.hid (HT.out.stay hb)
    clear hrow hb hsc
    have hk0 : (0 : Int) ≤ k := by omega
    have hki : (k : Int) ≤ s.size := by omega
    have hbk := pass_any s (by omega) k hk wr
    unfold paV at hbk
    have hbl := blk_le _ (s.data.toList.drop k) (Nat.le_refl _)
    rw [List.length_drop, len_data] at hbl
    obtain ⟨n, hn⟩ : ∃ n, (blk (s.data.toList.drop k)).1 = n := ⟨_, rfl⟩
    rw [hn] at hbk hbl
    have hkn : k + n ≤ s.size := by omega
    obtain ⟨E, hE⟩ : ∃ E : Nat, k + n = E := ⟨_, rfl⟩
    rw [hE] at hbk hkn
    obtain ⟨L, hL⟩ : ∃ L, out.length = L := ⟨_, rfl⟩
    rw [hL] at hok ho4 ⊢
    have HL := Lib.hid hL
    clear hL
    cases hok2 : (blk (s.data.toList.drop k)).2 with
    | false =>
      rw [hok2] at hbk
      have HBK := Lib.hid hbk
      have HRR := Lib.hid (show res = (none, E, 70) from by
        rw [← HSC.out, scan_open hok2, hn, hE]; rfl)
      clear hbk hok2 hn hbl hE
      go_wp2_with fail
      refine (HBK.out).mono ?_
      rintro e w1 ⟨rfl, hw1⟩
      subst w1
      go_wp2_with fail
      go_ret3
      exact ⟨⟨_, by rw [HRR.out]; rfl, .inl ⟨by rw [HRR.out], rfl⟩⟩, HB.out⟩
    | true =>
      rw [hok2] at hbk
      have HBK := Lib.hid hbk
      by_cases hend : E = s.size
      · have heB : ((E : Int) == (s.size : Int)) = true := by rw [beq_iff_eq]; omega
        have HRR := Lib.hid (show res = (some (out ++ [(tEnd, E)]), 0, 0) from by
          rw [← HSC.out, scan_end hok2 (by rw [hn, List.drop_drop]; exact drop_end s (by omega)), hn, hE]; rfl)
        have HES := Lib.hid hend
        have hrow2 := HROW.out
        rw [HL.out] at hrow2
        have HROW2 := Lib.hid hrow2
        have hsz := HB.out.size
        clear hbk hok2 hn hbl hend hrow2 hE
        go_wp2_with fail
        refine (HBK.out).mono ?_
        rintro e w1 ⟨rfl, hw1⟩
        subst w1
        go_wp2_with (at_builtin; refine wpList_append_own_at _ rfl _ _ 24 rfl w.heap.size 32 i0 (.agg #[.int .i64 0, .string ⟨#[]⟩, .int .i64 0, .int .i64 0]) 4 40 Tryd.underlying24 hi hz0 hz1 hz2 rfl (by decide) (.slice va L vc) _ _ rfl (HROW2.out.alloc _) ⟨wr.heap.size, 0, none⟩ 1 1 [.int .i64 0, .string ⟨#[]⟩, .int .i64 0, .int .i64 (s.size : Int)] rfl rfl (cells4_atL wr _ _ _ _ _ _ rfl) (by simp [Value.oneCell']) (by unfold maxLen; omega) (by omega) (by simp; omega) ?_; intro v7 w7 hown7 hgrow7 _ hblk7; have HO7 := Lib.hid hown7; have HB7 := Lib.hid ((HB.out.alloc HB.out.size _).grown hgrow7 (by simp; omega) (fun j hj => (HROW2.out.lt j hj).1)); clear hown7 hgrow7 hblk7)
        go_ret3
        refine ⟨⟨_, by rw [HRR.out]; rfl, .inr ⟨_, by rw [HRR.out], ?_⟩⟩, HB7.out⟩
        have := HO7.out
        rw [show cellsT out ++ [.int .i64 0, .string ⟨#[]⟩, .int .i64 0, .int .i64 (s.size : Int)] = cellsT (out ++ [(tEnd, E)]) from by rw [cellsT_snoc, HES.out]; simp [tokC, tEnd]] at this
        rw [List.length_append, HL.out]
        exact this
      · have heB : ((E : Int) == (s.size : Int)) = false := by rw [beq_eq_false_iff_ne]; omega
        have hEs : E < s.size := by omega
        have hne : (s.data.toList.drop k).drop (blk (s.data.toList.drop k)).1 ≠ [] := by
          rw [hn, List.drop_drop, hE, drop_cons s hEs]; simp
        have hlg := cut_any s (by omega) E hEs wr HTR.out
        have hdd : (s.data.toList.drop k).drop (blk (s.data.toList.drop k)).1 = s.data.toList.drop E := by rw [hn, List.drop_drop, hE]
        cases ec : cutL (s.data.toList.drop E) with
        | none =>
          rw [ec] at hlg
          have HLG := Lib.hid (show Calls _ _ _ wr (fun e w' => (∃ (a n i : Int) (s : ByteArray), e = .returned (.tuple #[.agg #[.int .i64 a, .string s, .int .i64 n, .int .i64 0], .int .i64 i, .bool false])) ∧ Below wr.heap.size wr w') from hlg)
          have HRR := Lib.hid (show res = (none, E, 70) from by
            rw [← HSC.out, scan_bad hok2 hne (by rw [hdd]; exact ec), hn, hE]; rfl)
          clear hbk hok2 hn hbl hne hlg hdd ec hend hE
          go_wp2_with fail
          refine (HBK.out).mono ?_
          rintro e w1 ⟨rfl, hw1⟩
          subst w1
          go_wp2_with fail
          refine (HLG.out).mono ?_
          rintro e w1 ⟨⟨ax, nx, ix, sx, rfl⟩, hb1⟩
          have HB1 := Lib.hid (HB.out.trans (hb1.mono HB.out.size))
          clear hb1
          go_wp2_with fail
          go_ret3
          exact ⟨⟨_, by rw [HRR.out]; rfl, .inl ⟨by rw [HRR.out], rfl⟩⟩, HB1.out.alloc HB1.out.size _⟩
        | some x =>
          obtain ⟨t, m⟩ := x
          rw [ec] at hlg
          have HLG := Lib.hid (show Calls _ _ _ wr (fun e w' => e = .returned (.tuple #[.agg #[.int .i64 (t.kind : Int), .string ⟨t.text.toArray⟩, .int .i64 (t.num : Int), .int .i64 0], .int .i64 ((E + m : Nat) : Int), .bool true]) ∧ Below wr.heap.size wr w') from hlg)
          have hcp := cut_pos ec
          rw [List.length_drop, len_data] at hcp
          simp only at hcp
          have hsc := scan_cut hok2 hne (by rw [hdd]; exact ec) k L
          rw [hn, List.drop_drop, ← Nat.add_assoc, hE] at hsc
          have hkm : E + m ≤ s.size := by omega
          have hm1 : 1 ≤ m := hcp.1
          have hEk : k ≤ E := by omega
          by_cases hfull : L = 1000
          · have hfB : ((L : Int) == 1000) = true := by rw [beq_iff_eq]; omega
            have HRR := Lib.hid (show res = (none, E, 3) from by
              rw [← HSC.out, HL.out, hsc, if_pos hfull]; rfl)
            clear hbk hok2 hn hbl hne hlg hdd ec hend hsc hcp hfull hE
            go_wp2_with fail
            refine (HBK.out).mono ?_
            rintro e w1 ⟨rfl, hw1⟩
            subst w1
            go_wp2_with fail
            refine (HLG.out).mono ?_
            rintro e w1 ⟨rfl, hb1⟩
            have HB1 := Lib.hid (HB.out.trans (hb1.mono HB.out.size))
            clear hb1
            go_wp2_with fail
            go_ret3
            exact ⟨⟨_, by rw [HRR.out]; rfl, .inl ⟨by rw [HRR.out], rfl⟩⟩, HB1.out.alloc HB1.out.size _⟩
          · have hfB : ((L : Int) == 1000) = false := by rw [beq_eq_false_iff_ne]; omega
            have HNEW := Lib.hid (show appR (out ++ [(t, E)]) (scanT (s.data.toList.drop (E + m)) (E + m) (L + 1)) = res from by
              rw [← appR_cons, ← HSC.out, HL.out, hsc, if_neg hfull])
            have hrow2 := HROW.out
            rw [HL.out] at hrow2
            have HROW2 := Lib.hid hrow2
            have hL9 : L + 1 ≤ 1000 := by omega
            clear hbk hok2 hn hbl hne hlg hdd ec hend hsc hcp hfull hrow2 hE
            go_wp2_with fail
            refine (HBK.out).mono ?_
            rintro e w1 ⟨rfl, hw1⟩
            subst w1
            go_wp2_with fail
            refine (HLG.out).mono ?_
            rintro e w1 ⟨rfl, hb1⟩
            have HB1 := Lib.hid (HB.out.trans (hb1.mono HB.out.size))
            have HROW3 := Lib.hid (own_stay HROW2.out hb1)
            have hs1 := HB1.out.size
            clear hb1
            go_wp2_with (at_builtin; refine wpList_append_own_at _ rfl _ _ 24 rfl w.heap.size 32 i0 (.agg #[.int .i64 0, .string ⟨#[]⟩, .int .i64 0, .int .i64 0]) 4 40 Tryd.underlying24 hi hz0 hz1 hz2 rfl (by decide) (.slice va L vc) _ _ rfl ((HROW3.out.alloc _).alloc _) ⟨w1.heap.size + 1, 0, none⟩ 1 1 [.int .i64 (t.kind : Int), .string ⟨t.text.toArray⟩, .int .i64 (t.num : Int), .int .i64 (E : Int)] rfl rfl (cells4_atL _ _ _ _ _ _ _ (World.size_alloc _ _)) (by simp [Value.oneCell']) (by unfold maxLen; omega) (by omega) (by simp; omega) ?_; intro v7 w7 hown7 hgrow7 _ hblk7; have HO7 := Lib.hid hown7; have HB7 := Lib.hid (((HB1.out.alloc HB1.out.size _).alloc (HB1.out.alloc HB1.out.size _).size _).grown hgrow7 (by simp; omega) (fun j hj => (HROW3.out.lt j hj).1)); clear hown7 hgrow7 hblk7)
            go_roundw
            case rel =>
              refine ⟨E + m, out ++ [(t, E)], hkm, by go_num, by rw [List.length_append, HL.out]; simp; omega, by rw [List.length_append, HL.out]; exact hL9, ?_, HB7.out, by rw [List.length_append, HL.out]; exact HNEW.out⟩
              have := HO7.out
              rw [show cellsT out ++ [.int .i64 (t.kind : Int), .string ⟨t.text.toArray⟩, .int .i64 (t.num : Int), .int .i64 (E : Int)] = cellsT (out ++ [(t, E)]) from by rw [cellsT_snoc]; simp [tokC]] at this
              rw [List.length_append, HL.out]
              exact this
            case measure => simp [intOf]; omega
end Go.Proofs.YtphhokpbkcdljaaDoor
