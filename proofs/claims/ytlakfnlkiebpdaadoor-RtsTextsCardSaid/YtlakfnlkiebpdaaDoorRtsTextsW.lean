/- The walk of the statement RtsTexts: it returns true. Condition: the text is no longer than a text of the machine may be. -/
import Derived.Test.YtlakfnlkiebpdaaDoorRtsThree
import Derived.Test.YtlakfnlkiebpdaaDoorRtsTwo
import Derived.Test.YtlakfnlkiebpdaaDoorAmong
namespace Go.Proofs.YtlakfnlkiebpdaaDoor
open Go Go.RowKit
set_option maxRecDepth 100000 in
set_option maxHeartbeats 8000000 in
theorem rtsTexts_walk (s : ByteArray) (room : Int) (hs : s.size ≤ 140737488351232) (w : World) : Calls Tryd.prog 3 #[.string s, .int .i64 room] w fun e w' => e = .returned (.bool true) ∧ Below w.heap.size w w' := by
  have HK := Lib.hid rknown_any
  by_cases h1 : 3000 < s.size
  · have hd1 : decide ((3000 : Int) < (s.size : Int)) = true := decide_eq_true (by omega)
    clear h1
    go_enter Tryd.func3, Tryd.ntmps3
    go_wp2_with fail
    refine (HK.out _).mono ?_
    rintro e w3 ⟨rfl, hb3⟩
    have HB3 := Lib.hid hb3
    clear hb3
    go_wp2_with fail
    go_ret
    exact ⟨rfl, HB3.out⟩
  have hd1 : decide ((3000 : Int) < (s.size : Int)) = false := decide_eq_false (by omega)
  have HAM := Lib.hid (among_any room 500 (by decide) (by decide) w)
  go_enter Tryd.func3, Tryd.ntmps3
  go_wp2_with fail
  refine HAM.out.mono ?_
  rintro e w' ⟨⟨r, hr, rfl⟩, hw⟩
  subst hw
  obtain ⟨W, hW⟩ : ∃ W : Nat, W = 64 + r := ⟨_, rfl⟩
  have hWi : (64 : Int) + (r : Int) = (W : Int) := by omega
  have hW1 : IntKind.i64.wrap (W : Int) = (W : Int) := by rw [IntKind.wrap_i64]; omega
  have HN := Lib.hid (new_raw W (by omega) (by omega) w)
  have HM1 := Lib.hid (new_mem W w)
  have hz := wf_new (W := W) (by omega) (by omega)
  have HNR := Lib.hid (rnew_ok W (by omega) (by omega))
  have HWB := Lib.hid (show 64 ≤ W ∧ W ≤ 65536 by omega)
  have HZ := Lib.hid hz
  obtain ⟨wd, E, now, hwd0, hwd1, hp1, hp2⟩ := put_any (W := W) s (by omega)
  have HP1 := Lib.hid hp1
  have HP2 := Lib.hid hp2
  have HTP := Lib.hid (fun W1 : World => show Calls _ _ _ W1 (fun e w' => e = .returned (.int .i64 (toP wd)) ∧ w' = W1) from (reftoptr_any wd W1 hwd0 hwd1).mono fun e w' ⟨h1, h2⟩ => ⟨h1, h2.symm⟩)
  have hpb : toP wd ≤ 1099511627776 := by unfold toP; split <;> omega
  obtain ⟨A, hA⟩ : ∃ A, toP wd = A := ⟨_, rfl⟩
  rw [hA] at HTP hpb
  have HPB := Lib.hid hpb
  clear hW hr hz hp1 hp2 hwd0 hwd1 hA hpb h1
  go_wp2_with fail
  refine HN.out.mono ?_
  rintro e w1 ⟨rfl, hw1⟩
  have HMB := Lib.hid (show Mem w1 w.heap.size W 0 (fun _ => .slice none 0 0) [] [] from by rw [hw1]; exact HM1.out)
  have HB1 := Lib.hid (show Below w.heap.size w w1 from by rw [hw1]; exact below_one _ _)
  have HS1 := Lib.hid (show w1.heap.size = w.heap.size + 1 from by rw [hw1, World.size_alloc])
  clear hw1 HN HM1
  go_wp2_with fail
  refine (HNR.out _).mono ?_
  rintro e w2 ⟨rfl, hb2⟩
  have HB2 := Lib.hid (HB1.out.trans (hb2.mono HB1.out.size))
  have HMB2 := Lib.hid (HMB.out.below hb2)
  have hs2 := hb2.size
  have HS2 := Lib.hid (show w.heap.size + 1 ≤ w2.heap.size by have := HS1.out; omega)
  clear hb2 hs2
  go_wp2_with fail
  have HMB3 := Lib.hid (HMB2.out.below (below_one w2 (.cells #[.int .i64 (W : Int), .int .i64 0, .slice none 0 0, .slice none 0 0] 30 (0, 0))))
  have HR3 := Lib.hid (show RW w w2.heap.size W [] (w2.alloc (.cells #[.int .i64 (W : Int), .int .i64 0, .slice none 0 0, .slice none 0 0] 30 (0, 0))) (.slice none 0 0) [] from RW.new HWB.out.1 HWB.out.2 (heap_alloc_new _ _) (by have := HS2.out; omega) (HB2.out.trans ((below_one w2 _).mono HB2.out.size)))
  have HS3 := Lib.hid (show (w2.alloc (.cells #[.int .i64 (W : Int), .int .i64 0, .slice none 0 0, .slice none 0 0] 30 (0, 0))).heap.size = w2.heap.size + 1 from by rw [World.size_alloc])
  obtain ⟨w3, hw3⟩ : ∃ w3, w2.alloc (.cells #[.int .i64 (W : Int), .int .i64 0, .slice none 0 0, .slice none 0 0] 30 (0, 0)) = w3 := ⟨_, rfl⟩
  rw [hw3] at HMB3 HR3 HS3 ⊢
  obtain ⟨rb, hrb⟩ : ∃ rb, w2.heap.size = rb := ⟨_, rfl⟩
  rw [hrb] at HR3 HS2 HS3 ⊢
  clear hw3 hrb
  refine (HP1.out w3 _ _ HMB3.out HZ.out).mono ?_
  rintro e w4 ⟨rfl, R4, X4⟩
  have HOW := Lib.hid (show ∀ i, Own w.heap.size (fun _ => .slice none 0 0) i → i = w.heap.size from fun i hi => by
    rcases hi with rfl | ⟨r, _, hr⟩
    · rfl
    · cases hr)
  have HR4 := Lib.hid (HR3.out.keptF X4.fr (fun i hi ho => by
    have h1 := ownR_nil i hi
    have h2 := HOW.out i ho
    have := HS2.out
    omega) (fun i hi => by rw [HOW.out i hi]; exact Nat.le_refl _))
  have HX4 := Lib.hid X4
  clear X4
  go_wp2_with fail
  refine (HP2.out _ _ _ _ _ HR4.out).mono ?_
  rintro e w5 ⟨rfl, v5, P5, x5, f5⟩
  have HM5 := Lib.hid (HX4.out.m.kept f5 (fun i hi ho => by
    have h1 := ownR_nil i ho
    have h3 := HS2.out
    have h4 := HS3.out
    rcases HX4.out.own i hi with q | q
    · have h2 := HOW.out i q
      omega
    · omega))
  have HX5 := Lib.hid x5
  have HZ5 := Lib.hid HX4.out.z
  clear x5 f5
  have HN1 := Lib.hid (mnext HM5.out HZ5.out)
  have HN2 := Lib.hid (fun q => (HX5.out.drewN q).next)
  obtain ⟨NX, hNX⟩ : ∃ NX, adr 0 W (used now : Nat) = NX := ⟨_, rfl⟩
  have HN1' := HN1.out
  have HN2' := HN2.out
  change Calls _ _ _ _ (fun e w' => e = .returned (.int .i64 (adr 0 W (used now : Nat))) ∧ _) at HN1'
  rw [hNX] at HN1' 
  have HN1 := Lib.hid HN1'
  have HN2 := Lib.hid (show ∀ q, Calls _ _ _ (w5.drewN q) (fun e w' => e = .returned (.int .i64 NX) ∧ ∃ n, w' = (w5.drewN q).drewN n) from fun q => by
    have := HN2' q
    rw [hNX] at this
    exact this)
  clear HN1' HN2' hNX
  go_wp2_with fail
  refine HN1.out.mono ?_
  rintro e w6 ⟨rfl, q6, hw6⟩
  subst w6
  go_wp2_with fail
  refine (HN2.out q6).mono ?_
  rintro e w7 ⟨rfl, q7, hw7⟩
  subst w7
  go_wp2_with fail
  obtain ⟨N, hN⟩ : ∃ N : Nat, s.size / 8 + 1 = N := ⟨_, rfl⟩
  have t1 : (s.size : Int).tdiv 8 = ((s.size / 8 : Nat) : Int) := by rw [Int.tdiv_eq_ediv_of_nonneg (by omega)]; omega
  have t2 : IntKind.i64.wrap ((s.size / 8 : Nat) : Int) = ((s.size / 8 : Nat) : Int) := by rw [IntKind.wrap_i64]; omega
  have hM0 : Mem (w5.drewN (q6 + q7)) w.heap.size W 0 R4 now [] := HM5.out.drewN _
  have hX0 := HX5.out.drewN (q6 + q7)
  have HMX := Lib.hid (And.intro hM0 hX0)
  clear hM0 hX0
  go_loopw [14] (fun i wr => ∃ k : Nat, k ≤ N + 1 ∧ i = .int .i64 k ∧ Mem wr w.heap.size W 0 R4 now [] ∧ RW w rb W now wr v5 P5) (fun i _ => N + 1 - (intOf i).toNat)
  case atStart => exact ⟨0, Nat.zero_le _, rfl, HMX.out.1, HMX.out.2⟩
  case round =>
    obtain ⟨k, hk, rfl, hm, hx⟩ := hrel
    clear HMX
    by_cases hlt : k ≤ N
    · have hc : decide ((k : Int) ≤ ((s.size / 8 : Nat) : Int) + 1) = true := decide_eq_true (by omega)
      have hl1 := loadX_any (s := ⟨now, []⟩) hm HZ5.out A (by have := HPB.out; omega) k
      have hl2 := fun q => (hx.drewN q).load A k
      obtain ⟨X1, h1⟩ : ∃ X, ((loadX 0 W ⟨now, []⟩ A k).1 : Nat) = X := ⟨_, rfl⟩
      obtain ⟨X2, h2⟩ : ∃ X, ((loadX 0 W ⟨now, []⟩ A k).2 : Nat) = X := ⟨_, rfl⟩
      rw [h1, h2] at hl1
      simp only [h1, h2] at hl2
      have HL1 := Lib.hid hl1
      have HL2 := Lib.hid hl2
      have HMM := Lib.hid (fun q => hm.drewN q)
      have HXX := Lib.hid (fun q => hx.drewN q)
      clear hm hx hl1 hl2 h1 h2
      go_wp2_with fail
      refine (HTP.out _).mono ?_
      rintro e w8 ⟨rfl, hw8⟩
      subst w8
      go_wp2_with fail
      refine HL1.out.mono ?_
      rintro e w8 ⟨rfl, q8, hw8⟩
      subst w8
      go_wp2_with fail
      refine (HTP.out _).mono ?_
      rintro e w9 ⟨rfl, hw9⟩
      subst w9
      go_wp2_with fail
      refine (HL2.out q8).mono ?_
      rintro e w9 ⟨rfl, q9, hw9⟩
      subst w9
      go_wp2_with fail
      go_roundw
      case rel => exact ⟨k + 1, by omega, by go_num, HMM.out _, HXX.out _⟩
      case measure => simp [intOf]; omega
    · have hc : decide ((k : Int) ≤ ((s.size / 8 : Nat) : Int) + 1) = false := decide_eq_false (by omega)
      have HBE := Lib.hid hx.fr
      clear hm hx
      go_wp2_with fail
      refine (HK.out _).mono ?_
      rintro e w8 ⟨rfl, hb8⟩
      have HB8 := Lib.hid (HBE.out.trans (hb8.mono HBE.out.size))
      clear hb8
      go_wp2_with fail
      go_ret
      exact ⟨rfl, HB8.out⟩
end Go.Proofs.YtlakfnlkiebpdaaDoor
