/- The contract of the program's cutInt: a number's token. Condition: the text is within the reach. -/
import Derived.Test.YtphhokpbkcdljaaDoorLexF
import Derived.Test.YtphhokpbkcdljaaDoorLexA
namespace Go.Proofs.YtphhokpbkcdljaaDoor
open Go Go.RowKit
/-- digits, as the program adds them up -/
def dgo (a : Nat) : List UInt8 → Option (Nat × Nat)
  | [] => some (a, 0)
  | c :: r => if isDg c = true then (if a * 10 + (c.toNat - 48) ≤ maxI then (dgo (a * 10 + (c.toNat - 48)) r).map (fun x => (x.1, x.2 + 1)) else none) else some (a, 0)
theorem dgo_ge : ∀ (l : List UInt8) (a : Nat), a ≤ l.foldl (fun a c => a * 10 + (c.toNat - 48)) a
  | [], a => Nat.le_refl _
  | c :: r, a => by
    rw [List.foldl_cons]
    have := dgo_ge r (a * 10 + (c.toNat - 48))
    omega
theorem dgo_eq : ∀ (l : List UInt8) (a : Nat), a ≤ maxI → dgo a l = if (l.take (run isDg l)).foldl (fun a c => a * 10 + (c.toNat - 48)) a ≤ maxI then some ((l.take (run isDg l)).foldl (fun a c => a * 10 + (c.toNat - 48)) a, run isDg l) else none
  | [], a, h => by simp [dgo, Go.Proofs.YtphhokpbkcdljaaDoor.run, h]
  | c :: r, a, h => by
    rw [dgo, run_cons]
    by_cases hd : isDg c = true
    · rw [if_pos hd, if_pos hd, List.take_succ_cons, List.foldl_cons]
      by_cases h2 : a * 10 + (c.toNat - 48) ≤ maxI
      · rw [if_pos h2, dgo_eq r _ h2]
        by_cases h3 : (r.take (run isDg r)).foldl (fun a c => a * 10 + (c.toNat - 48)) (a * 10 + (c.toNat - 48)) ≤ maxI
        · rw [if_pos h3, if_pos h3]; rfl
        · rw [if_neg h3, if_neg h3]; rfl
      · rw [if_neg h2, if_neg]
        have := dgo_ge (r.take (run isDg r)) (a * 10 + (c.toNat - 48))
        omega
    · rw [if_neg hd, if_neg hd, List.take_zero, List.foldl_nil, if_pos h]
/-- what cutInt answers -/
def ciV (k : Nat) (o : Option (Nat × Nat)) : Value := match o with
  | some x => .tuple #[tokA ⟨1, [], x.1⟩ 0, .int .i64 ((k + x.2 : Nat) : Int), .bool true]
  | none => .tuple #[tokNil, .int .i64 0, .bool false]
theorem ciV_map (k : Nat) (o : Option (Nat × Nat)) : ciV k (o.map fun x => (x.1, x.2 + 1)) = ciV (k + 1) o := by
  cases o with
  | none => rfl
  | some x => unfold ciV; simp only [Option.map_some]; rw [show k + (x.2 + 1) = k + 1 + x.2 by omega]
/-- the two boxes of cutInt -/
structure CI (w : World) (B : Nat) (wr : World) (a : Nat) : Prop where
  b : Below B w wr
  r : wr.heap[B]? = some (.cells #[.int .i64 0, .string ⟨#[]⟩, .int .i64 0, .int .i64 0] 32 (0, 0))
  t : wr.heap[B + 1]? = some (.cells #[.int .i64 1, .string ⟨#[]⟩, .int .i64 (a : Int), .int .i64 0] 32 (0, 0))
theorem CI.start (w : World) : CI w w.heap.size ((w.alloc (.cells #[.int .i64 0, .string ⟨#[]⟩, .int .i64 0, .int .i64 0] 32)).alloc (.cells #[.int .i64 1, .string ⟨#[]⟩, .int .i64 0, .int .i64 0] 32)) 0 := by
  have h := heap_alloc_new (w.alloc (.cells #[.int .i64 0, .string ⟨#[]⟩, .int .i64 0, .int .i64 0] 32)) (.cells #[.int .i64 1, .string ⟨#[]⟩, .int .i64 0, .int .i64 0] 32)
  rw [World.size_alloc] at h
  exact ⟨(below_oneL w _).alloc (by rw [World.size_alloc]; omega) _, box_stay (below_oneL _ _), h⟩
theorem CI.set {w wr : World} {B a : Nat} (h : CI w B wr a) (a' : Nat) : CI w B (wr.setCell ⟨B + 1, 2, none⟩ (.int .i64 (a' : Int))) a' := by
  refine ⟨h.b.setCell (p := ⟨B + 1, 2, none⟩) (Nat.le_succ B) _, ?_, by have := blk_setL h.t 2 (.int .i64 (a' : Int)); simpa using this⟩
  rw [← h.r]
  show (wr.heap.modify _ _)[B]? = _
  rw [Array.getElem?_modify, if_neg (Nat.succ_ne_self B)]
set_option maxRecDepth 100000 in
set_option maxHeartbeats 8000000 in
theorem cutint_any (s : ByteArray) (hs : s.size ≤ 140737488351232) (k : Nat) (hk : k ≤ s.size) (w : World) :
    Calls Tryd.prog 40 #[.string s, .int .i64 (k : Int)] w fun e w' => e = .returned (ciV k (dgo 0 (s.data.toList.drop k))) ∧ Below w.heap.size w w' := by
  obtain ⟨res, hr⟩ : ∃ res, ciV k (dgo 0 (s.data.toList.drop k)) = res := ⟨_, rfl⟩
  rw [hr]
  have HR := Lib.hid hr
  clear hr
  have HC := Lib.hid (CI.start w)
  go_enter Tryd.func40, Tryd.ntmps40
  go_wp2_with fail
  go_loopw [1] (fun i wr => ∃ (q a : Nat), q ≤ s.size ∧ i = .int .i64 q ∧ a ≤ maxI ∧ CI w w.heap.size wr a ∧ ciV q (dgo a (s.data.toList.drop q)) = res) (fun i _ => s.size - (intOf i).toNat)
  case atStart => exact ⟨k, 0, hk, rfl, Nat.zero_le _, HC.out, HR.out⟩
  case round =>
    clear hk
    obtain ⟨q, a, hq, rfl, ha, hci, hres⟩ := hrel
    have HX := Lib.hid hci
    have e0 := blk_cellL hci.t 0
    have e1 := blk_cellL hci.t 1
    have e2 := blk_cellL hci.t 2
    have e3 := blk_cellL hci.t 3
    have r0 := blk_cellL hci.r 0
    have r1 := blk_cellL hci.r 1
    have r2 := blk_cellL hci.r 2
    have r3 := blk_cellL hci.r 3
    have g0 := blk_freeL hci.t
    have g1 := blk_freeL hci.r
    clear hci
    by_cases hlt : q < s.size
    · rw [drop_cons s hlt] at hres
      have HD := Lib.hid (isDg_any s[q])
      cases hd : isDg s[q] with
      | false =>
        have HRES := Lib.hid (show ciV q (some (a, 0)) = res from by rw [← hres, dgo, hd]; rfl)
        rw [hd] at HD
        clear hres hd
        go_wp2_with fail
        refine (HD.out _).mono ?_
        rintro e w1 ⟨rfl, hw1⟩
        subst w1
        go_wp2_with fail
        have hs4 := tok_set HX.out.r (.int .i64 1) (.string ⟨#[]⟩) (.int .i64 (a : Int)) (.int .i64 0)
        have hs5 := tok_below HX.out.b (Nat.le_refl _) (.int .i64 1) (.string ⟨#[]⟩) (.int .i64 (a : Int)) (.int .i64 0)
        clear e0 e1 e2 e3 r0 r1 r2 r3 g0 g1
        generalize World.setCell (World.setCell (World.setCell (World.setCell _ _ _) _ _) _ _) _ _ = W4 at hs4 hs5 ⊢
        have f0 := blk_cellL hs4 0
        have f1 := blk_cellL hs4 1
        have f2 := blk_cellL hs4 2
        have f3 := blk_cellL hs4 3
        exact bodyPost_ret (v := .tuple #[.agg #[.int .i64 1, .string ⟨#[]⟩, .int .i64 (a : Int), .int .i64 0], .int .i64 (q : Int), .bool true]) (by simp [results, Tryd.results40, go_sem, f0, f1, f2, f3]) rfl ⟨by rw [← HRES.out]; rfl, hs5⟩
      | true =>
        have hb := dg_bd hd
        rw [hd] at HD
        rw [dgo, if_pos hd] at hres
        clear hd
        obtain ⟨d, hdd⟩ : ∃ d, s[q].toNat - 48 = d := ⟨_, rfl⟩
        have hd9 : d ≤ 9 := by omega
        have hsub : (s[q].toNat : Int) - 48 = (d : Int) := by omega
        rw [hdd] at hres
        by_cases hm : a * 10 + d ≤ maxI
        · rw [if_pos hm, ciV_map] at hres
          have HRES := Lib.hid hres
          clear hres
          have ht : decide ((4611686018427387903 - (d : Int)) / 10 < (a : Int)) = false := decide_eq_false (by unfold maxI at hm ha; omega)
          go_wp2_with fail
          refine (HD.out _).mono ?_
          rintro e w1 ⟨rfl, hw1⟩
          subst w1
          go_wp2_with fail
          have hw1 : wrap64 ((a : Int) * 10) = (a : Int) * 10 := by unfold maxI at hm; unfold wrap64; omega
          have hw2 : wrap64 ((a : Int) * 10 + d) = (a : Int) * 10 + d := by unfold maxI at hm; unfold wrap64; omega
          rw [hw1, hw2]
          have hc2 := HX.out.set (a * 10 + d)
          rw [show ((a * 10 + d : Nat) : Int) = (a : Int) * 10 + d by omega] at hc2
          exact ⟨⟨q + 1, a * 10 + d, hlt, by go_num, hm, hc2, HRES.out⟩, by simp [intOf]; omega⟩
        · rw [if_neg hm] at hres
          have HRES := Lib.hid hres
          clear hres
          have ht : decide ((4611686018427387903 - (d : Int)) / 10 < (a : Int)) = true := decide_eq_true (by unfold maxI at hm ha; omega)
          go_wp2_with fail
          refine (HD.out _).mono ?_
          rintro e w1 ⟨rfl, hw1⟩
          subst w1
          go_wp2_with fail
          have hs4 := tok_set HX.out.r (.int .i64 0) (.string ⟨#[]⟩) (.int .i64 0) (.int .i64 0)
          have hs5 := tok_below HX.out.b (Nat.le_refl _) (.int .i64 0) (.string ⟨#[]⟩) (.int .i64 0) (.int .i64 0)
          clear e0 e1 e2 e3 r0 r1 r2 r3 g0 g1
          generalize World.setCell (World.setCell (World.setCell (World.setCell _ _ _) _ _) _ _) _ _ = W4 at hs4 hs5 ⊢
          have f0 := blk_cellL hs4 0
          have f1 := blk_cellL hs4 1
          have f2 := blk_cellL hs4 2
          have f3 := blk_cellL hs4 3
          exact bodyPost_ret (v := .tuple #[.agg #[.int .i64 0, .string ⟨#[]⟩, .int .i64 0, .int .i64 0], .int .i64 0, .bool false]) (by simp [results, Tryd.results40, go_sem, f0, f1, f2, f3]) rfl ⟨by rw [← HRES.out]; rfl, hs5⟩
    · rw [drop_end s (by omega)] at hres
      have HRES := Lib.hid hres
      clear hres
      go_wp2_with fail
      have hs4 := tok_set HX.out.r (.int .i64 1) (.string ⟨#[]⟩) (.int .i64 (a : Int)) (.int .i64 0)
      have hs5 := tok_below HX.out.b (Nat.le_refl _) (.int .i64 1) (.string ⟨#[]⟩) (.int .i64 (a : Int)) (.int .i64 0)
      clear e0 e1 e2 e3 r0 r1 r2 r3 g0 g1
      generalize World.setCell (World.setCell (World.setCell (World.setCell _ _ _) _ _) _ _) _ _ = W4 at hs4 hs5 ⊢
      have f0 := blk_cellL hs4 0
      have f1 := blk_cellL hs4 1
      have f2 := blk_cellL hs4 2
      have f3 := blk_cellL hs4 3
      exact bodyPost_ret (v := .tuple #[.agg #[.int .i64 1, .string ⟨#[]⟩, .int .i64 (a : Int), .int .i64 0], .int .i64 (q : Int), .bool true]) (by simp [results, Tryd.results40, go_sem, f0, f1, f2, f3]) rfl ⟨by rw [← HRES.out]; rfl, hs5⟩
end Go.Proofs.YtphhokpbkcdljaaDoor
