/- The contract of the program's cut, whole. Conditions: the text has no more than a million bytes; the tables are as laid. -/
import Derived.Test.YtphhokpbkcdljaaDoorLexSg
namespace Go.Proofs.YtphhokpbkcdljaaDoor
open Go Go.RowKit
theorem signP_prime {l : List UInt8} (h : (l.headD 0).toNat = 39) : signP l = none := by
  cases hp : signP l with
  | none => rfl
  | some x =>
    have hm := List.mem_of_find?_eq_some hp
    have hx := List.find?_some hp
    have h1 := sign_head x hm
    have h2 : l.take x.length = x := of_decide_eq_true hx
    have h3 : 1 ≤ x.length := List.length_pos_iff.2 h1.1
    have h4 := headD_take (l := l) h3
    rw [h2] at h4
    exact absurd (h4 ▸ h) h1.2.2.2.2.2.2
set_option maxRecDepth 100000 in
set_option maxHeartbeats 8000000 in
theorem cut_prime_end (s : ByteArray) (hs : s.size ≤ 1000000) (k : Nat) (hk : k < s.size) (h39 : s[k].toNat = 39) (hk1 : ¬ k + 1 < s.size) (w : World) (hT : LxT w) :
    Calls Tryd.prog 24 #[.string s, .int .i64 (k : Int)] w fun e w' => CuV k (cutL (s.data.toList.drop k)) e ∧ Below w.heap.size w w' := by
  have HD := Lib.hid (isDg_any s[k])
  have HS := Lib.hid (isSm_any s[k])
  have HL := Lib.hid (isLg_any s[k])
  have hd : isDg s[k] = false := dg_no (by omega)
  have hsm : isSm s[k] = false := sm_no (by omega)
  have hlg : isLg s[k] = false := lg_no (by omega)
  have hnp : signP (s.data.toList.drop k) = none := signP_prime (by rw [headD_drop' s hk]; exact h39)
  have hnx : ¬ (s[k].toNat = 39 ∧ isSm ((s.data.toList.drop (k + 1)).headD 0) = true) := by
    rw [drop_end s (by omega)]; simp [isSm]
  have hcl : cutL (s.data.toList.drop k) = (signP (s.data.toList.drop k)).map fun s => (⟨7, s, 0⟩, s.length) := by
    rw [drop_cons s hk] at hnp ⊢
    unfold cutL
    simp only
    rw [if_neg (by rw [hd]; simp), if_neg (by omega), if_neg (by rw [hsm, hlg]; simp), if_neg hnx]
  rw [hcl, hnp]
  rw [hd] at HD
  rw [hsm] at HS
  rw [hlg] at HL
  have hB : (((s[k].toNat : Nat) : Int) == 34) = false := by rw [h39]; rfl
  have hB2 : (((s[k].toNat : Nat) : Int) == 39) = true := by rw [h39]; rfl
  have p0 : (0 : Int) ≤ (s[k].toNat : Int) := by omega
  have hk0 : (0 : Int) ≤ k := by omega
  have hks : (k : Int) < s.size := by omega
  have hk1' : decide ((k : Int) + 1 < s.size) = false := decide_eq_false (by omega)
  have hsg := fun (W : World) (h : LxT W) => sign_any (s.extract k s.size) W h
  rw [show (s.extract k s.size).data.toList = s.data.toList.drop k from Lib.extract_to_end s k, sgP_zero, hnp] at hsg
  have HT := Lib.hid (hT.stay (below_oneL w (.cells #[.int .i64 0, .string ⟨#[]⟩, .int .i64 0, .int .i64 0] 32)))
  have HSG := Lib.hid (show ∀ W : World, LxT W → Calls _ _ _ W (fun e w' => e = .returned (.string ⟨#[]⟩) ∧ w' = W) from hsg)
  have hge : (⟨#[]⟩ : ByteArray).toList.isEmpty = true := by rw [toL_empty rfl]; rfl
  clear hcl hd hsm hlg h39 hT hsg hnp hnx hk1
  go_enter Tryd.func24, Tryd.ntmps24
  go_wp2_with fail
  refine (HD.out _).mono ?_
  rintro e w1 ⟨rfl, hw1⟩
  subst w1
  go_wp2_with fail
  refine (HS.out _).mono ?_
  rintro e w1 ⟨rfl, hw1⟩
  subst w1
  go_wp2_with fail
  refine (HL.out _).mono ?_
  rintro e w1 ⟨rfl, hw1⟩
  subst w1
  go_wp2_with fail
  refine (HSG.out _ HT.out).mono ?_
  rintro e w1 ⟨rfl, hw1⟩
  subst w1
  go_wp2_with fail
  have hs4 := heap_alloc_new w (.cells #[.int .i64 7, .string ⟨#[]⟩, .int .i64 0, .int .i64 0] 32)
  have hs5 : Below w.heap.size w (w.alloc (.cells #[.int .i64 7, .string ⟨#[]⟩, .int .i64 0, .int .i64 0] 32)) := below_oneL w _
  generalize w.alloc (.cells #[.int .i64 7, .string ⟨#[]⟩, .int .i64 0, .int .i64 0] 32) = W4 at hs4 hs5 ⊢
  have f0 := blk_cellL hs4 0
  have f1 := blk_cellL hs4 1
  have f2 := blk_cellL hs4 2
  have f3 := blk_cellL hs4 3
  exact bodyPost_ret (v := .tuple #[.agg #[.int .i64 7, .string ⟨#[]⟩, .int .i64 0, .int .i64 0], .int .i64 (k : Int), .bool false]) (by simp [results, Tryd.results24, go_sem, f0, f1, f2, f3]) rfl ⟨⟨_, _, _, _, rfl⟩, hs5⟩
set_option maxRecDepth 100000 in
set_option maxHeartbeats 8000000 in
theorem cut_prime_no (s : ByteArray) (hs : s.size ≤ 1000000) (k : Nat) (hk : k < s.size) (h39 : s[k].toNat = 39) (hk1 : k + 1 < s.size) (hw : isSm s[k + 1] = false) (w : World) (hT : LxT w) :
    Calls Tryd.prog 24 #[.string s, .int .i64 (k : Int)] w fun e w' => CuV k (cutL (s.data.toList.drop k)) e ∧ Below w.heap.size w w' := by
  have HD := Lib.hid (isDg_any s[k])
  have HS := Lib.hid (isSm_any s[k])
  have HL := Lib.hid (isLg_any s[k])
  have HS2 := Lib.hid (isSm_any s[k + 1])
  rw [hw] at HS2
  have hd : isDg s[k] = false := dg_no (by omega)
  have hsm : isSm s[k] = false := sm_no (by omega)
  have hlg : isLg s[k] = false := lg_no (by omega)
  have hnp : signP (s.data.toList.drop k) = none := signP_prime (by rw [headD_drop' s hk]; exact h39)
  have hnx : ¬ (s[k].toNat = 39 ∧ isSm ((s.data.toList.drop (k + 1)).headD 0) = true) := by
    rw [headD_drop' s hk1, hw]; simp
  have hcl : cutL (s.data.toList.drop k) = (signP (s.data.toList.drop k)).map fun s => (⟨7, s, 0⟩, s.length) := by
    rw [drop_cons s hk] at hnp ⊢
    unfold cutL
    simp only
    rw [if_neg (by rw [hd]; simp), if_neg (by omega), if_neg (by rw [hsm, hlg]; simp), if_neg hnx]
  rw [hcl, hnp]
  rw [hd] at HD
  rw [hsm] at HS
  rw [hlg] at HL
  have hB : (((s[k].toNat : Nat) : Int) == 34) = false := by rw [h39]; rfl
  have hB2 : (((s[k].toNat : Nat) : Int) == 39) = true := by rw [h39]; rfl
  have p0 : (0 : Int) ≤ (s[k].toNat : Int) := by omega
  have hk0 : (0 : Int) ≤ k := by omega
  have hks : (k : Int) < s.size := by omega
  have hk1' : decide ((k : Int) + 1 < s.size) = true := decide_eq_true (by omega)
  have p1 : (0 : Int) ≤ (s[k + 1].toNat : Int) := by omega
  have hsg := fun (W : World) (h : LxT W) => sign_any (s.extract k s.size) W h
  rw [show (s.extract k s.size).data.toList = s.data.toList.drop k from Lib.extract_to_end s k, sgP_zero, hnp] at hsg
  have HT := Lib.hid (hT.stay (below_oneL w (.cells #[.int .i64 0, .string ⟨#[]⟩, .int .i64 0, .int .i64 0] 32)))
  have HSG := Lib.hid (show ∀ W : World, LxT W → Calls _ _ _ W (fun e w' => e = .returned (.string ⟨#[]⟩) ∧ w' = W) from hsg)
  have hge : (⟨#[]⟩ : ByteArray).toList.isEmpty = true := by rw [toL_empty rfl]; rfl
  clear hcl hd hsm hlg h39 hT hsg hnp hnx hw
  go_enter Tryd.func24, Tryd.ntmps24
  go_wp2_with fail
  refine (HD.out _).mono ?_
  rintro e w1 ⟨rfl, hw1⟩
  subst w1
  go_wp2_with fail
  refine (HS.out _).mono ?_
  rintro e w1 ⟨rfl, hw1⟩
  subst w1
  go_wp2_with fail
  refine (HL.out _).mono ?_
  rintro e w1 ⟨rfl, hw1⟩
  subst w1
  go_wp2_with fail
  refine (HS2.out _).mono ?_
  rintro e w1 ⟨rfl, hw1⟩
  subst w1
  go_wp2_with fail
  refine (HSG.out _ HT.out).mono ?_
  rintro e w1 ⟨rfl, hw1⟩
  subst w1
  go_wp2_with fail
  have hs4 := heap_alloc_new w (.cells #[.int .i64 7, .string ⟨#[]⟩, .int .i64 0, .int .i64 0] 32)
  have hs5 : Below w.heap.size w (w.alloc (.cells #[.int .i64 7, .string ⟨#[]⟩, .int .i64 0, .int .i64 0] 32)) := below_oneL w _
  generalize w.alloc (.cells #[.int .i64 7, .string ⟨#[]⟩, .int .i64 0, .int .i64 0] 32) = W4 at hs4 hs5 ⊢
  have f0 := blk_cellL hs4 0
  have f1 := blk_cellL hs4 1
  have f2 := blk_cellL hs4 2
  have f3 := blk_cellL hs4 3
  exact bodyPost_ret (v := .tuple #[.agg #[.int .i64 7, .string ⟨#[]⟩, .int .i64 0, .int .i64 0], .int .i64 (k : Int), .bool false]) (by simp [results, Tryd.results24, go_sem, f0, f1, f2, f3]) rfl ⟨⟨_, _, _, _, rfl⟩, hs5⟩
theorem cut_any (s : ByteArray) (hs : s.size ≤ 1000000) (k : Nat) (hk : k < s.size) (w : World) (hT : LxT w) :
    Calls Tryd.prog 24 #[.string s, .int .i64 (k : Int)] w fun e w' => CuV k (cutL (s.data.toList.drop k)) e ∧ Below w.heap.size w w' := by
  cases hd : isDg s[k] with
  | true => exact cut_digit s hs k hk hd w
  | false =>
    by_cases h34 : s[k].toNat = 34
    · exact cut_quote s hs k hk h34 w
    · cases hsm : isSm s[k] with
      | true => exact cut_word s hs k hk (.inl hsm) w hT
      | false =>
        cases hlg : isLg s[k] with
        | true => exact cut_word s hs k hk (.inr hlg) w hT
        | false =>
          by_cases h39 : s[k].toNat = 39
          · by_cases hk1 : k + 1 < s.size
            · cases hw : isSm s[k + 1] with
              | true => exact cut_tvar s hs k hk1 h39 hw w
              | false => exact cut_prime_no s hs k hk h39 hk1 hw w hT
            · exact cut_prime_end s hs k hk h39 hk1 w hT
          · exact cut_sign s hs k hk hd h34 hsm hlg h39 w hT
end Go.Proofs.YtphhokpbkcdljaaDoor
