/- The contract of the program's cut at a type variable. Condition: the text has no more than a million bytes. -/
import Derived.Test.YtphhokpbkcdljaaDoorLexY
import Derived.Test.YtphhokpbkcdljaaDoorLexD
namespace Go.Proofs.YtphhokpbkcdljaaDoor
open Go Go.RowKit
set_option maxRecDepth 100000 in
set_option maxHeartbeats 8000000 in
theorem cut_tvar (s : ByteArray) (hs : s.size ≤ 1000000) (k : Nat) (hk : k + 1 < s.size) (h39 : s[k].toNat = 39) (hw : isSm s[k + 1] = true) (w : World) :
    Calls Tryd.prog 24 #[.string s, .int .i64 (k : Int)] w fun e w' => CuV k (cutL (s.data.toList.drop k)) e ∧ Below w.heap.size w w' := by
  have HD := Lib.hid (isDg_any s[k])
  have HS := Lib.hid (isSm_any s[k])
  have HL := Lib.hid (isLg_any s[k])
  have HS2 := Lib.hid (isSm_any s[k + 1])
  have hd : isDg s[k] = false := dg_no (by omega)
  have hsm : isSm s[k] = false := sm_no (by omega)
  have hlg : isLg s[k] = false := lg_no (by omega)
  have hcl : cutL (s.data.toList.drop k) = some (⟨5, (s.data.toList.drop k).take (Go.Proofs.YtphhokpbkcdljaaDoor.run part0 (s.data.toList.drop (k + 1)) + 1), 0⟩, Go.Proofs.YtphhokpbkcdljaaDoor.run part0 (s.data.toList.drop (k + 1)) + 1) := by
    rw [drop_cons s (show k < s.size by omega)]
    unfold cutL
    simp only
    rw [if_neg (by rw [hd]; simp), if_neg (by omega), if_neg (by rw [hsm, hlg]; simp), if_pos ⟨h39, by rw [headD_drop' s hk]; exact hw⟩]
  rw [hcl]
  rw [hd] at HD
  rw [hsm] at HS
  rw [hlg] at HL
  rw [hw] at HS2
  have HR := Lib.hid (run_any s (by omega) (k + 1) (by omega) false)
  rw [partP_false] at HR
  have hrl := run_le part0 (s.data.toList.drop (k + 1))
  rw [List.length_drop, len_data] at hrl
  generalize Go.Proofs.YtphhokpbkcdljaaDoor.run part0 (s.data.toList.drop (k + 1)) = n at HR hrl ⊢
  have hB : (((s[k].toNat : Nat) : Int) == 34) = false := by rw [h39]; rfl
  have hB2 : (((s[k].toNat : Nat) : Int) == 39) = true := by rw [h39]; rfl
  have p0 : (0 : Int) ≤ (s[k].toNat : Int) := by omega
  have p1 : (0 : Int) ≤ (s[k + 1].toNat : Int) := by omega
  have hk0 : (0 : Int) ≤ k := by omega
  have hks : (k : Int) < s.size := by omega
  have hk1 : decide ((k : Int) + 1 < s.size) = true := decide_eq_true (by omega)
  obtain ⟨E, hE⟩ : ∃ E : Nat, k + 1 + n = E := ⟨_, rfl⟩
  rw [hE] at HR
  have hkE : (k : Int) ≤ E := by omega
  have hE0 : (0 : Int) ≤ E := by omega
  have hEs : (E : Int) ≤ s.size := by omega
  have hex : (s.extract k E).data.toList = (s.data.toList.drop k).take (n + 1) := by rw [ext_mid s k E, show E - k = n + 1 by omega]
  have HTX := Lib.hid (show (⟨((s.data.toList.drop k).take (n + 1)).toArray⟩ : ByteArray) = s.extract k E from by rw [← hex])
  have HEE := Lib.hid (show k + (n + 1) = E by omega)
  clear hcl hd hsm hlg hw h39 hex hrl hE
  go_enter Tryd.func24, Tryd.ntmps24
  go_wp2_with fail
  refine (HD.out _).mono ?_
  rintro e w1 ⟨rfl, hw1⟩
  subst w1
  go_wp2_with fail
  refine (HS.out _).mono ?_
  rintro e w1 ⟨rfl, hw1⟩
  subst w1
  go_wp2_with fail
  refine (HL.out _).mono ?_
  rintro e w1 ⟨rfl, hw1⟩
  subst w1
  go_wp2_with fail
  refine (HS2.out _).mono ?_
  rintro e w1 ⟨rfl, hw1⟩
  subst w1
  go_wp2_with fail
  refine (HR.out _).mono ?_
  rintro e w1 ⟨rfl, hw1⟩
  subst w1
  go_wp2_with fail
  have hs4 := heap_alloc_new w (.cells #[.int .i64 5, .string (s.extract k E), .int .i64 0, .int .i64 0] 32)
  have hs5 : Below w.heap.size w (w.alloc (.cells #[.int .i64 5, .string (s.extract k E), .int .i64 0, .int .i64 0] 32)) := below_oneL w _
  generalize w.alloc (.cells #[.int .i64 5, .string (s.extract k E), .int .i64 0, .int .i64 0] 32) = W4 at hs4 hs5 ⊢
  have f0 := blk_cellL hs4 0
  have f1 := blk_cellL hs4 1
  have f2 := blk_cellL hs4 2
  have f3 := blk_cellL hs4 3
  exact bodyPost_ret (v := .tuple #[.agg #[.int .i64 5, .string (s.extract k E), .int .i64 0, .int .i64 0], .int .i64 (E : Int), .bool true]) (by simp [results, Tryd.results24, go_sem, f0, f1, f2, f3]) rfl ⟨by unfold CuV tokA; simp only; rw [HTX.out, HEE.out]; rfl, hs5⟩
end Go.Proofs.YtphhokpbkcdljaaDoor
