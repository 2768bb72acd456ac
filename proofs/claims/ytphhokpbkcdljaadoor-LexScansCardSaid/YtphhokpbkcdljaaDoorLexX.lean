/- The contract of the program's cut. Conditions: the text has no more than a million bytes; the tables are as laid. -/
import Derived.Test.YtphhokpbkcdljaaDoorLexG
import Derived.Test.YtphhokpbkcdljaaDoorLexI
import Derived.Test.YtphhokpbkcdljaaDoorLexO
import Derived.Test.YtphhokpbkcdljaaDoorLexP
namespace Go.Proofs.YtphhokpbkcdljaaDoor
open Go Go.RowKit
/-- what cut answers -/
def CuV (k : Nat) (o : Option (Tok × Nat)) (e : Ending) : Prop := match o with
  | some x => e = .returned (.tuple #[tokA x.1 0, .int .i64 ((k + x.2 : Nat) : Int), .bool true])
  | none => ∃ (a n i : Int) (s : ByteArray), e = .returned (.tuple #[.agg #[.int .i64 a, .string s, .int .i64 n, .int .i64 0], .int .i64 i, .bool false])
def NilT : Value := .agg #[.int .i64 0, .string ⟨#[]⟩, .int .i64 0, .int .i64 0]
set_option maxRecDepth 100000 in
set_option maxHeartbeats 8000000 in
theorem cut_digit (s : ByteArray) (hs : s.size ≤ 1000000) (k : Nat) (hk : k < s.size) (hd : isDg s[k] = true) (w : World) :
    Calls Tryd.prog 24 #[.string s, .int .i64 (k : Int)] w fun e w' => CuV k (cutL (s.data.toList.drop k)) e ∧ Below w.heap.size w w' := by
  have HX0 := Lib.hid (below_oneL w (.cells #[.int .i64 0, .string ⟨#[]⟩, .int .i64 0, .int .i64 0] 32))
  have HD := Lib.hid (isDg_any s[k])
  rw [hd] at HD
  have HI := Lib.hid (cutint_any s (by omega) k (by omega))
  rw [dgo_eq _ _ (Nat.zero_le _)] at HI
  have hcl : cutL (s.data.toList.drop k) = if dvl ((s.data.toList.drop k).take (Go.Proofs.YtphhokpbkcdljaaDoor.run isDg (s.data.toList.drop k))) ≤ maxI then some (⟨1, [], dvl ((s.data.toList.drop k).take (Go.Proofs.YtphhokpbkcdljaaDoor.run isDg (s.data.toList.drop k)))⟩, Go.Proofs.YtphhokpbkcdljaaDoor.run isDg (s.data.toList.drop k)) else none := by
    rw [drop_cons s hk]
    unfold cutL
    simp only
    rw [if_pos hd]
  rw [hcl]
  change Hid (∀ w, Calls _ _ _ w fun e w' => e = .returned (ciV k (if dvl ((s.data.toList.drop k).take (Go.Proofs.YtphhokpbkcdljaaDoor.run isDg (s.data.toList.drop k))) ≤ maxI then some (dvl ((s.data.toList.drop k).take (Go.Proofs.YtphhokpbkcdljaaDoor.run isDg (s.data.toList.drop k))), Go.Proofs.YtphhokpbkcdljaaDoor.run isDg (s.data.toList.drop k)) else none)) ∧ _) at HI
  clear hcl hd
  have hk0 : (0 : Int) ≤ k := by omega
  have hks : (k : Int) < s.size := by omega
  generalize Go.Proofs.YtphhokpbkcdljaaDoor.run isDg (s.data.toList.drop k) = n at HI ⊢
  generalize dvl ((s.data.toList.drop k).take n) = v at HI ⊢
  by_cases hv : v ≤ maxI
  · rw [if_pos hv] at HI ⊢
    have HI2 := Lib.hid (show ∀ W, Calls _ _ _ W (fun e w' => e = .returned (.tuple #[.agg #[.int .i64 1, .string ⟨#[]⟩, .int .i64 (v : Int), .int .i64 0], .int .i64 ((k + n : Nat) : Int), .bool true]) ∧ Below W.heap.size W w') from HI.out)
    clear HI
    go_enter Tryd.func24, Tryd.ntmps24
    go_wp2_with fail
    refine (HD.out _).mono ?_
    rintro e w1 ⟨rfl, hw1⟩
    subst w1
    go_wp2_with fail
    refine (HI2.out _).mono ?_
    rintro e w1 ⟨rfl, hb1⟩
    have HX := Lib.hid (And.intro (box_stay hb1) (HX0.out.trans (hb1.mono HX0.out.size)))
    clear hb1
    have r0 := blk_cellL HX.out.1 0
    have r1 := blk_cellL HX.out.1 1
    have r2 := blk_cellL HX.out.1 2
    have r3 := blk_cellL HX.out.1 3
    have g1 := blk_freeL HX.out.1
    go_wp2_with fail
    have hs4 := tok_set HX.out.1 (.int .i64 1) (.string ⟨#[]⟩) (.int .i64 (v : Int)) (.int .i64 0)
    have hs5 := tok_below HX.out.2 (Nat.le_refl _) (.int .i64 1) (.string ⟨#[]⟩) (.int .i64 (v : Int)) (.int .i64 0)
    clear r0 r1 r2 r3 g1
    generalize World.setCell (World.setCell (World.setCell (World.setCell _ _ _) _ _) _ _) _ _ = W4 at hs4 hs5 ⊢
    have f0 := blk_cellL hs4 0
    have f1 := blk_cellL hs4 1
    have f2 := blk_cellL hs4 2
    have f3 := blk_cellL hs4 3
    exact bodyPost_ret (v := .tuple #[.agg #[.int .i64 1, .string ⟨#[]⟩, .int .i64 (v : Int), .int .i64 0], .int .i64 ((k + n : Nat) : Int), .bool true]) (by simp [results, Tryd.results24, go_sem, f0, f1, f2, f3]) rfl ⟨rfl, hs5⟩
  · rw [if_neg hv] at HI ⊢
    have HI2 := Lib.hid (show ∀ W, Calls _ _ _ W (fun e w' => e = .returned (.tuple #[.agg #[.int .i64 0, .string ⟨#[]⟩, .int .i64 0, .int .i64 0], .int .i64 0, .bool false]) ∧ Below W.heap.size W w') from HI.out)
    clear HI
    go_enter Tryd.func24, Tryd.ntmps24
    go_wp2_with fail
    refine (HD.out _).mono ?_
    rintro e w1 ⟨rfl, hw1⟩
    subst w1
    go_wp2_with fail
    refine (HI2.out _).mono ?_
    rintro e w1 ⟨rfl, hb1⟩
    have HX := Lib.hid (And.intro (box_stay hb1) (HX0.out.trans (hb1.mono HX0.out.size)))
    clear hb1
    have r0 := blk_cellL HX.out.1 0
    have r1 := blk_cellL HX.out.1 1
    have r2 := blk_cellL HX.out.1 2
    have r3 := blk_cellL HX.out.1 3
    have g1 := blk_freeL HX.out.1
    go_wp2_with fail
    have hs4 := tok_set HX.out.1 (.int .i64 0) (.string ⟨#[]⟩) (.int .i64 0) (.int .i64 0)
    have hs5 := tok_below HX.out.2 (Nat.le_refl _) (.int .i64 0) (.string ⟨#[]⟩) (.int .i64 0) (.int .i64 0)
    clear r0 r1 r2 r3 g1
    generalize World.setCell (World.setCell (World.setCell (World.setCell _ _ _) _ _) _ _) _ _ = W4 at hs4 hs5 ⊢
    have f0 := blk_cellL hs4 0
    have f1 := blk_cellL hs4 1
    have f2 := blk_cellL hs4 2
    have f3 := blk_cellL hs4 3
    exact bodyPost_ret (v := .tuple #[.agg #[.int .i64 0, .string ⟨#[]⟩, .int .i64 0, .int .i64 0], .int .i64 0, .bool false]) (by simp [results, Tryd.results24, go_sem, f0, f1, f2, f3]) rfl ⟨⟨_, _, _, _, rfl⟩, hs5⟩
set_option maxRecDepth 100000 in
set_option maxHeartbeats 8000000 in
theorem cut_quote (s : ByteArray) (hs : s.size ≤ 1000000) (k : Nat) (hk : k < s.size) (hq : s[k].toNat = 34) (w : World) :
    Calls Tryd.prog 24 #[.string s, .int .i64 (k : Int)] w fun e w' => CuV k (cutL (s.data.toList.drop k)) e ∧ Below w.heap.size w w' := by
  have HX0 := Lib.hid (below_oneL w (.cells #[.int .i64 0, .string ⟨#[]⟩, .int .i64 0, .int .i64 0] 32))
  have HD := Lib.hid (isDg_any s[k])
  have hd : isDg s[k] = false := dg_no (by omega)
  rw [hd] at HD
  have HI := Lib.hid (cuttext_any s hs k hk)
  have hcl : cutL (s.data.toList.drop k) = (txt (s.data.toList.drop (k + 1))).map fun y => (⟨2, y.1, 0⟩, y.2 + 1) := by
    rw [drop_cons s hk]
    unfold cutL
    simp only
    rw [if_neg (by rw [hd]; simp), if_pos hq]
  rw [hcl]
  have hB : (((s[k].toNat : Nat) : Int) == 34) = true := by rw [hq]; rfl
  have p0 : (0 : Int) ≤ (s[k].toNat : Int) := by omega
  clear hcl hd hq
  have hk0 : (0 : Int) ≤ k := by omega
  have hks : (k : Int) < s.size := by omega
  cases ht : txt (s.data.toList.drop (k + 1)) with
  | some y =>
    obtain ⟨t, n⟩ := y
    rw [ht] at HI
    clear ht
    have HI2 := Lib.hid (show ∀ W, Calls _ _ _ W (fun e w' => e = .returned (.tuple #[.agg #[.int .i64 2, .string ⟨t.toArray⟩, .int .i64 0, .int .i64 0], .int .i64 ((k + 1 + n : Nat) : Int), .bool true]) ∧ Below W.heap.size W w') from HI.out)
    clear HI
    go_enter Tryd.func24, Tryd.ntmps24
    go_wp2_with fail
    refine (HD.out _).mono ?_
    rintro e w1 ⟨rfl, hw1⟩
    subst w1
    go_wp2_with fail
    refine (HI2.out _).mono ?_
    rintro e w1 ⟨rfl, hb1⟩
    have HX := Lib.hid (And.intro (box_stay hb1) (HX0.out.trans (hb1.mono HX0.out.size)))
    clear hb1
    have r0 := blk_cellL HX.out.1 0
    have r1 := blk_cellL HX.out.1 1
    have r2 := blk_cellL HX.out.1 2
    have r3 := blk_cellL HX.out.1 3
    have g1 := blk_freeL HX.out.1
    go_wp2_with fail
    have hs4 := tok_set HX.out.1 (.int .i64 2) (.string ⟨t.toArray⟩) (.int .i64 0) (.int .i64 0)
    have hs5 := tok_below HX.out.2 (Nat.le_refl _) (.int .i64 2) (.string ⟨t.toArray⟩) (.int .i64 0) (.int .i64 0)
    clear r0 r1 r2 r3 g1
    generalize World.setCell (World.setCell (World.setCell (World.setCell _ _ _) _ _) _ _) _ _ = W4 at hs4 hs5 ⊢
    have f0 := blk_cellL hs4 0
    have f1 := blk_cellL hs4 1
    have f2 := blk_cellL hs4 2
    have f3 := blk_cellL hs4 3
    exact bodyPost_ret (v := .tuple #[.agg #[.int .i64 2, .string ⟨t.toArray⟩, .int .i64 0, .int .i64 0], .int .i64 ((k + 1 + n : Nat) : Int), .bool true]) (by simp [results, Tryd.results24, go_sem, f0, f1, f2, f3]) rfl ⟨(by rw [show k + 1 + n = k + (n + 1) by omega]; rfl), hs5⟩
  | none =>
    rw [ht] at HI
    clear ht
    have HI2 := Lib.hid (show ∀ W, Calls _ _ _ W (fun e w' => e = .returned (.tuple #[.agg #[.int .i64 0, .string ⟨#[]⟩, .int .i64 0, .int .i64 0], .int .i64 0, .bool false]) ∧ Below W.heap.size W w') from HI.out)
    clear HI
    go_enter Tryd.func24, Tryd.ntmps24
    go_wp2_with fail
    refine (HD.out _).mono ?_
    rintro e w1 ⟨rfl, hw1⟩
    subst w1
    go_wp2_with fail
    refine (HI2.out _).mono ?_
    rintro e w1 ⟨rfl, hb1⟩
    have HX := Lib.hid (And.intro (box_stay hb1) (HX0.out.trans (hb1.mono HX0.out.size)))
    clear hb1
    have r0 := blk_cellL HX.out.1 0
    have r1 := blk_cellL HX.out.1 1
    have r2 := blk_cellL HX.out.1 2
    have r3 := blk_cellL HX.out.1 3
    have g1 := blk_freeL HX.out.1
    go_wp2_with fail
    have hs4 := tok_set HX.out.1 (.int .i64 0) (.string ⟨#[]⟩) (.int .i64 0) (.int .i64 0)
    have hs5 := tok_below HX.out.2 (Nat.le_refl _) (.int .i64 0) (.string ⟨#[]⟩) (.int .i64 0) (.int .i64 0)
    clear r0 r1 r2 r3 g1
    generalize World.setCell (World.setCell (World.setCell (World.setCell _ _ _) _ _) _ _) _ _ = W4 at hs4 hs5 ⊢
    have f0 := blk_cellL hs4 0
    have f1 := blk_cellL hs4 1
    have f2 := blk_cellL hs4 2
    have f3 := blk_cellL hs4 3
    exact bodyPost_ret (v := .tuple #[.agg #[.int .i64 0, .string ⟨#[]⟩, .int .i64 0, .int .i64 0], .int .i64 0, .bool false]) (by simp [results, Tryd.results24, go_sem, f0, f1, f2, f3]) rfl ⟨⟨_, _, _, _, rfl⟩, hs5⟩
end Go.Proofs.YtphhokpbkcdljaaDoor
