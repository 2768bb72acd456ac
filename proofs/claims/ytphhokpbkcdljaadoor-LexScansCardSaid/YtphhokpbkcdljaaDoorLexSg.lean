/- The contract of the program's cut at a sign or at nothing. Conditions: the text has no more than a million bytes; the tables are as laid. -/
import Derived.Test.YtphhokpbkcdljaaDoorLexZ
namespace Go.Proofs.YtphhokpbkcdljaaDoor
open Go Go.RowKit
set_option maxRecDepth 100000 in
set_option maxHeartbeats 8000000 in
theorem cut_sign (s : ByteArray) (hs : s.size ≤ 1000000) (k : Nat) (hk : k < s.size) (hd : isDg s[k] = false) (h34 : s[k].toNat ≠ 34) (hsm : isSm s[k] = false) (hlg : isLg s[k] = false)
    (h39 : s[k].toNat ≠ 39) (w : World) (hT : LxT w) :
    Calls Tryd.prog 24 #[.string s, .int .i64 (k : Int)] w fun e w' => CuV k (cutL (s.data.toList.drop k)) e ∧ Below w.heap.size w w' := by
  have HD := Lib.hid (isDg_any s[k])
  have HS := Lib.hid (isSm_any s[k])
  have HL := Lib.hid (isLg_any s[k])
  have hcl : cutL (s.data.toList.drop k) = (signP (s.data.toList.drop k)).map fun s => (⟨7, s, 0⟩, s.length) := by
    rw [drop_cons s hk]
    unfold cutL
    simp only
    rw [if_neg (by rw [hd]; simp), if_neg h34, if_neg (by rw [hsm, hlg]; simp), if_neg (fun q => h39 q.1)]
  rw [hcl]
  rw [hd] at HD
  rw [hsm] at HS
  rw [hlg] at HL
  have hB : (((s[k].toNat : Nat) : Int) == 34) = false := by rw [beq_eq_false_iff_ne]; omega
  have hB2 : (((s[k].toNat : Nat) : Int) == 39) = false := by rw [beq_eq_false_iff_ne]; omega
  have p0 : (0 : Int) ≤ (s[k].toNat : Int) := by omega
  have hk0 : (0 : Int) ≤ k := by omega
  have hks : (k : Int) < s.size := by omega
  have hsg := fun (W : World) (h : LxT W) => sign_any (s.extract k s.size) W h
  rw [show (s.extract k s.size).data.toList = s.data.toList.drop k from Lib.extract_to_end s k] at hsg
  have HT := Lib.hid (hT.stay (below_oneL w (.cells #[.int .i64 0, .string ⟨#[]⟩, .int .i64 0, .int .i64 0] 32)))
  obtain ⟨g, hg⟩ : ∃ g, sgP (s.data.toList.drop k) 0 = g := ⟨_, rfl⟩
  rw [hg] at hsg
  rw [sgP_zero] at hg
  have HSG := Lib.hid hsg
  have hgs : g.size ≤ 2 := by
    cases hp : signP (s.data.toList.drop k) with
    | none => rw [hp] at hg; rw [← hg]; exact Nat.zero_le _
    | some x =>
      rw [hp] at hg
      have := (sign_head x (List.mem_of_find?_eq_some hp)).2.1
      rw [← hg]; simpa [ByteArray.size] using this
  clear hcl hd hsm hlg h39 h34 hT hsg
  cases hp : signP (s.data.toList.drop k) with
  | some x =>
    rw [hp] at hg
    have hx := (sign_head x (List.mem_of_find?_eq_some hp)).1
    have hgx : g.size = x.length := by rw [← hg]; simp [ByteArray.size]
    have hge : g.toList.isEmpty = false := toL_isE (by rw [hgx]; exact List.length_pos_iff.2 hx)
    have HV := Lib.hid (show CuV k ((some x).map fun s => (⟨7, s, 0⟩, s.length)) (.returned (.tuple #[.agg #[.int .i64 7, .string g, .int .i64 0, .int .i64 0], .int .i64 ((k : Int) + (g.size : Int)), .bool true])) from by
      rw [hgx, ← hg]; rfl)
    clear hp hg hx hgx
    · go_enter Tryd.func24, Tryd.ntmps24
      go_wp2_with fail
      refine (HD.out _).mono ?_
      rintro e w1 ⟨rfl, hw1⟩
      subst w1
      go_wp2_with fail
      refine (HS.out _).mono ?_
      rintro e w1 ⟨rfl, hw1⟩
      subst w1
      go_wp2_with fail
      refine (HL.out _).mono ?_
      rintro e w1 ⟨rfl, hw1⟩
      subst w1
      go_wp2_with fail
      refine (HSG.out _ HT.out).mono ?_
      rintro e w1 ⟨rfl, hw1⟩
      subst w1
      go_wp2_with fail
      have hs4 := heap_alloc_new w (.cells #[.int .i64 7, .string g, .int .i64 0, .int .i64 0] 32)
      have hs5 : Below w.heap.size w (w.alloc (.cells #[.int .i64 7, .string g, .int .i64 0, .int .i64 0] 32)) := below_oneL w _
      generalize w.alloc (.cells #[.int .i64 7, .string g, .int .i64 0, .int .i64 0] 32) = W4 at hs4 hs5 ⊢
      have f0 := blk_cellL hs4 0
      have f1 := blk_cellL hs4 1
      have f2 := blk_cellL hs4 2
      have f3 := blk_cellL hs4 3
      exact bodyPost_ret (v := .tuple #[.agg #[.int .i64 7, .string g, .int .i64 0, .int .i64 0], .int .i64 ((k : Int) + (g.size : Int)), .bool true]) (by simp [results, Tryd.results24, go_sem, f0, f1, f2, f3]) rfl ⟨HV.out, hs5⟩
  | none =>
    rw [hp] at hg
    have hg2 : g = ⟨#[]⟩ := hg.symm
    have hge : g.toList.isEmpty = true := by rw [hg2, toL_empty rfl]; rfl
    have HV := Lib.hid (show CuV k ((none : Option (List UInt8)).map fun s => (⟨7, s, 0⟩, s.length)) (.returned (.tuple #[.agg #[.int .i64 7, .string g, .int .i64 0, .int .i64 0], .int .i64 ((k : Int) + (g.size : Int)), .bool false])) from ⟨_, _, _, _, rfl⟩)
    clear hp hg hg2
    · go_enter Tryd.func24, Tryd.ntmps24
      go_wp2_with fail
      refine (HD.out _).mono ?_
      rintro e w1 ⟨rfl, hw1⟩
      subst w1
      go_wp2_with fail
      refine (HS.out _).mono ?_
      rintro e w1 ⟨rfl, hw1⟩
      subst w1
      go_wp2_with fail
      refine (HL.out _).mono ?_
      rintro e w1 ⟨rfl, hw1⟩
      subst w1
      go_wp2_with fail
      refine (HSG.out _ HT.out).mono ?_
      rintro e w1 ⟨rfl, hw1⟩
      subst w1
      go_wp2_with fail
      have hs4 := heap_alloc_new w (.cells #[.int .i64 7, .string g, .int .i64 0, .int .i64 0] 32)
      have hs5 : Below w.heap.size w (w.alloc (.cells #[.int .i64 7, .string g, .int .i64 0, .int .i64 0] 32)) := below_oneL w _
      generalize w.alloc (.cells #[.int .i64 7, .string g, .int .i64 0, .int .i64 0] 32) = W4 at hs4 hs5 ⊢
      have f0 := blk_cellL hs4 0
      have f1 := blk_cellL hs4 1
      have f2 := blk_cellL hs4 2
      have f3 := blk_cellL hs4 3
      exact bodyPost_ret (v := .tuple #[.agg #[.int .i64 7, .string g, .int .i64 0, .int .i64 0], .int .i64 ((k : Int) + (g.size : Int)), .bool false]) (by simp [results, Tryd.results24, go_sem, f0, f1, f2, f3]) rfl ⟨HV.out, hs5⟩
end Go.Proofs.YtphhokpbkcdljaaDoor
