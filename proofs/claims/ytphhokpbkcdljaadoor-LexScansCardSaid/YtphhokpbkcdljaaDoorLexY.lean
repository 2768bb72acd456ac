/- The contract of the program's cut at a word. Conditions: the text has no more than a million bytes; the tables are as laid. -/
import Derived.Deep.RegionLaw
import Derived.Test.YtphhokpbkcdljaaDoorLexX
namespace Go.Proofs.YtphhokpbkcdljaaDoor
open Go Go.RowKit
theorem ext_mid (s : ByteArray) (k e : Nat) : (s.extract k e).data.toList = (s.data.toList.drop k).take (e - k) := by
  rw [Lib.extract_data]
theorem LxT.drew {w : World} (h : LxT w) : LxT w.drew := ⟨h.k, h.c, h.s⟩
set_option maxRecDepth 100000 in
set_option maxHeartbeats 8000000 in
theorem cut_word (s : ByteArray) (hs : s.size ≤ 1000000) (k : Nat) (hk : k < s.size) (hw : isSm s[k] = true ∨ isLg s[k] = true) (w : World) (hT : LxT w) :
    Calls Tryd.prog 24 #[.string s, .int .i64 (k : Int)] w fun e w' => CuV k (cutL (s.data.toList.drop k)) e ∧ Below w.heap.size w w' := by
  have hbd : (97 ≤ s[k].toNat ∧ s[k].toNat ≤ 122) ∨ (65 ≤ s[k].toNat ∧ s[k].toNat ≤ 90) := hw.imp sm_bd lg_bd
  have HX0 := Lib.hid (And.intro (heap_alloc_new w (.cells #[.int .i64 0, .string ⟨#[]⟩, .int .i64 0, .int .i64 0] 32)) (below_oneL w (.cells #[.int .i64 0, .string ⟨#[]⟩, .int .i64 0, .int .i64 0] 32)))
  have HD := Lib.hid (isDg_any s[k])
  have hd : isDg s[k] = false := dg_no (by omega)
  rw [hd] at HD
  have HS := Lib.hid (isSm_any s[k])
  have HL := Lib.hid (isLg_any s[k])
  have HR := Lib.hid (run_any s (by omega) (k + 1) (by omega) true)
  rw [partP_true] at HR
  have hcl : cutL (s.data.toList.drop k) = some (⟨kindW ((s.data.toList.drop k).take (Go.Proofs.YtphhokpbkcdljaaDoor.run part1 (s.data.toList.drop (k + 1)) + 1)), (s.data.toList.drop k).take (Go.Proofs.YtphhokpbkcdljaaDoor.run part1 (s.data.toList.drop (k + 1)) + 1), 0⟩, Go.Proofs.YtphhokpbkcdljaaDoor.run part1 (s.data.toList.drop (k + 1)) + 1) := by
    rw [drop_cons s hk]
    unfold cutL
    simp only
    rw [if_neg (by rw [hd]; simp), if_neg (by omega), if_pos hw]
  rw [hcl]
  have hrl := run_le part1 (s.data.toList.drop (k + 1))
  rw [List.length_drop, len_data] at hrl
  generalize Go.Proofs.YtphhokpbkcdljaaDoor.run part1 (s.data.toList.drop (k + 1)) = n at HR hrl ⊢
  have hB : (((s[k].toNat : Nat) : Int) == 34) = false := by rw [beq_eq_false_iff_ne]; omega
  have p0 : (0 : Int) ≤ (s[k].toNat : Int) := by omega
  have hk0 : (0 : Int) ≤ k := by omega
  have hks : (k : Int) < s.size := by omega
  obtain ⟨E, hE⟩ : ∃ E : Nat, k + 1 + n = E := ⟨_, rfl⟩
  rw [hE] at HR
  have hkE : (k : Int) ≤ E := by omega
  have hE0 : (0 : Int) ≤ E := by omega
  have hEs : (E : Int) ≤ s.size := by omega
  have hex : (s.extract k E).data.toList = (s.data.toList.drop k).take (n + 1) := by rw [ext_mid s k E, show E - k = n + 1 by omega]
  have hKd := kindof_any (s.extract k E) (by rw [ByteArray.size_extract]; omega)
  rw [hex] at hKd
  have HKD := Lib.hid hKd
  have HTX := Lib.hid (show (⟨((s.data.toList.drop k).take (n + 1)).toArray⟩ : ByteArray) = s.extract k E from by rw [← hex])
  have HT := Lib.hid (hT.stay (below_oneL w (.cells #[.int .i64 0, .string ⟨#[]⟩, .int .i64 0, .int .i64 0] 32)))
  have HEE := Lib.hid (show k + (n + 1) = E by omega)
  clear hcl hd hbd hKd hex hrl hT hE
  generalize kindW ((s.data.toList.drop k).take (n + 1)) = kw at HKD ⊢
  obtain ⟨x, hx⟩ : ∃ x, isSm s[k] = x := ⟨_, rfl⟩
  rw [hx] at HS hw
  have hxy : x = true ∨ (x = false ∧ isLg s[k] = true) := by cases x with
    | true => exact .inl rfl
    | false => exact .inr ⟨rfl, hw.resolve_left (by simp)⟩
  clear hw hx
  rcases hxy with rfl | ⟨rfl, hy⟩
  · go_enter Tryd.func24, Tryd.ntmps24
    go_wp2_with fail
    refine (HD.out _).mono ?_
    rintro e w1 ⟨rfl, hw1⟩
    subst w1
    go_wp2_with fail
    refine (HS.out _).mono ?_
    rintro e w1 ⟨rfl, hw1⟩
    subst w1
    go_wp2_with fail
    refine (HR.out _).mono ?_
    rintro e w1 ⟨rfl, hw1⟩
    subst w1
    go_wp2_with fail
    go_region_law ((go_simp; go_at_call 45; refine (HKD.out _ HT.out.drew).mono ?_; rintro e w' ⟨rfl, rfl⟩))
    all_goals
      go_wp2_with fail
      have hs4 := heap_alloc_new w (.cells #[.int .i64 (kw : Int), .string (s.extract k E), .int .i64 0, .int .i64 0] 32)
      have hs5 : Below w.heap.size w (w.alloc (.cells #[.int .i64 (kw : Int), .string (s.extract k E), .int .i64 0, .int .i64 0] 32)).drew := (below_oneL w _).drew
      generalize w.alloc (.cells #[.int .i64 (kw : Int), .string (s.extract k E), .int .i64 0, .int .i64 0] 32) = W4 at hs4 hs5 ⊢
      change W4.drew.heap[w.heap.size]? = _ at hs4
      generalize W4.drew = W5 at hs4 hs5 ⊢
      have f0 := blk_cellL hs4 0
      have f1 := blk_cellL hs4 1
      have f2 := blk_cellL hs4 2
      have f3 := blk_cellL hs4 3
      exact bodyPost_ret (v := .tuple #[.agg #[.int .i64 (kw : Int), .string (s.extract k E), .int .i64 0, .int .i64 0], .int .i64 (E : Int), .bool true]) (by simp [results, Tryd.results24, go_sem, f0, f1, f2, f3]) rfl ⟨by unfold CuV tokA; simp only; rw [HTX.out, HEE.out]; rfl, hs5⟩
  · rw [hy] at HL
    clear hy
    go_enter Tryd.func24, Tryd.ntmps24
    go_wp2_with fail
    refine (HD.out _).mono ?_
    rintro e w1 ⟨rfl, hw1⟩
    subst w1
    go_wp2_with fail
    refine (HS.out _).mono ?_
    rintro e w1 ⟨rfl, hw1⟩
    subst w1
    go_wp2_with fail
    refine (HL.out _).mono ?_
    rintro e w1 ⟨rfl, hw1⟩
    subst w1
    go_wp2_with fail
    refine (HR.out _).mono ?_
    rintro e w1 ⟨rfl, hw1⟩
    subst w1
    go_wp2_with fail
    go_region_law ((go_simp; go_at_call 45; refine (HKD.out _ HT.out.drew).mono ?_; rintro e w' ⟨rfl, rfl⟩))
    all_goals
      go_wp2_with fail
      have hs4 := heap_alloc_new w (.cells #[.int .i64 (kw : Int), .string (s.extract k E), .int .i64 0, .int .i64 0] 32)
      have hs5 : Below w.heap.size w (w.alloc (.cells #[.int .i64 (kw : Int), .string (s.extract k E), .int .i64 0, .int .i64 0] 32)).drew := (below_oneL w _).drew
      generalize w.alloc (.cells #[.int .i64 (kw : Int), .string (s.extract k E), .int .i64 0, .int .i64 0] 32) = W4 at hs4 hs5 ⊢
      change W4.drew.heap[w.heap.size]? = _ at hs4
      generalize W4.drew = W5 at hs4 hs5 ⊢
      have f0 := blk_cellL hs4 0
      have f1 := blk_cellL hs4 1
      have f2 := blk_cellL hs4 2
      have f3 := blk_cellL hs4 3
      exact bodyPost_ret (v := .tuple #[.agg #[.int .i64 (kw : Int), .string (s.extract k E), .int .i64 0, .int .i64 0], .int .i64 (E : Int), .bool true]) (by simp [results, Tryd.results24, go_sem, f0, f1, f2, f3]) rfl ⟨by unfold CuV tokA; simp only; rw [HTX.out, HEE.out]; rfl, hs5⟩
end Go.Proofs.YtphhokpbkcdljaaDoor
