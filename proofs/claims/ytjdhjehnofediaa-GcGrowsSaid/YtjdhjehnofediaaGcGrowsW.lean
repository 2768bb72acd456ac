/- The walk of the statement GcGrows: it returns true. Condition: the arguments read as objects and integers. -/
import Derived.Test.YtjdhjehnofediaaGcGrow
import Derived.Test.YtjdhjehnofediaaMemCopy
import Derived.Deep.RegionHeld3
namespace Go.Proofs.Ytjdhjehnofediaa
open Go Go.RowKit
theorem slu_to (A : Option Addr) (L c m : Nat) (hm : m ≤ c) (W : World) : (Instr.sliceAt 32 (.slice A L c) none (some (.int .i64 (m : Int))) none).run Try.prog W = .ok (.slice A m c) W := by
  have hs : (sizeOf 56).run Try.prog W = .ok 1 W := by kernel_rfl
  have he : Try.prog.elem 32 = 56 := by kernel_rfl
  have h1 := run_sliceAt_slice (P := Try.prog) (w := W) 32 (.slice A L c) none (some (.int .i64 (m : Int))) none (by rw [he]; exact Try.underlying32)
  have h2 := run_slice_h (P := Try.prog) (w := W) 32 A L c (by rw [he]; exact Try.underlying32) .i64 (m : Int) (by omega) (by omega)
  rw [h1, h2, he, hs]
  have ha : ∀ ad : Addr, ad.add 0 = ad := fun ad => by
    obtain ⟨b, o, sp⟩ := ad
    cases sp <;> simp [Addr.add]
  have hA : A.map (fun x => x.add 0) = A := by cases A <;> simp [ha]
  simp [sliced, hA]
theorem slu_from (A : Option Addr) (L c m : Nat) (hm : m ≤ L) (W : World) : (Instr.sliceAt 32 (.slice A L c) (some (.int .i64 (m : Int))) none none).run Try.prog W = .ok (sliced A m L c 1) W := by
  have hs : (sizeOf 56).run Try.prog W = .ok 1 W := by kernel_rfl
  have he : Try.prog.elem 32 = 56 := by kernel_rfl
  have h1 := run_sliceAt_slice (P := Try.prog) (w := W) 32 (.slice A L c) (some (.int .i64 (m : Int))) none none (by rw [he]; exact Try.underlying32)
  have h2 := run_slice_l (P := Try.prog) (w := W) 32 A L c (by rw [he]; exact Try.underlying32) .i64 (m : Int) (by omega) (by omega)
  rw [h1, h2, he, hs]
  simp
/-- the two halves of the row of roots are the same -/
theorem grow_same {w : World} {B : Nat} {a : Option Addr} {T c : Nat} {xs : List Nat} (ho : w.ownsRow B 56 1 (.slice a (T + T) c) (T + T) (u64s (xs ++ xs))) (hn : xs.length = T) (hT : T ≤ 1000) :
    T ≤ c ∧ ∃ A2 C2, (∀ X, (Instr.sliceAt 32 (.slice a (T + T) c) (some (.int .i64 (T : Int))) none none).run Try.prog X = .ok (.slice A2 T C2) X) ∧ ∀ X, Below w.heap.size w X → Calls Try.prog 21 #[.slice a T c, .slice A2 T C2] X fun e w' => e = .returned (.bool true) ∧ Below X.heap.size X w' := by
  rcases own_half ho hn with ⟨e1, e2⟩ | ⟨g, e1, hg, hle, h1, h2⟩
  · subst e2
    refine ⟨Nat.zero_le _, _, _, fun X => slu_from a (0 + 0) c 0 (Nat.le_refl _) X, fun X _ => same_empty _ _ _ _ X⟩
  · subst e1
    refine ⟨by omega, some ⟨g, T, none⟩, c - T, fun X => ?_, fun X hb => ?_⟩
    · rw [slu_from _ _ _ _ (by omega)]
      unfold sliced
      by_cases hc : c = T
      · have : T = 0 := by omega
        subst this
        rw [if_pos hc]
      · rw [if_neg hc, Nat.mul_one, show T + T - T = T by omega]
        show Result.ok (Value.slice (some ((⟨g, 0, none⟩ : Addr).add T)) T (c - T)) X = _
        rw [show (⟨g, 0, none⟩ : Addr).add T = ⟨g, T, none⟩ from by unfold Addr.add; split <;> simp_all]
    · exact same_yes g 0 c g T (c - T) T xs (by omega) X (by have := hb.size; omega) (by have := hb.size; omega) (fun j hj => (hb.cell (p := ⟨g, 0 + j, none⟩) hg).trans (h1 j hj)) (fun j hj => (hb.cell (p := ⟨g, T + j, none⟩) hg).trans (h2 j hj))
/-- what lay before two worlds lies yet -/
structure Both (w w4 X : World) : Prop where
  base : Below w.heap.size w X
  four : Below w4.heap.size w4 X
theorem Both.below {w w4 X Y : World} (h : Both w w4 X) (hb : Below X.heap.size X Y) : Both w w4 Y := ⟨h.base.trans (hb.mono h.base.size), h.four.trans (hb.mono h.four.size)⟩
theorem wordsV_at {w w1 : World} {a : Option Addr} {N : Nat} {ns : List Nat} (h : WordsV w a N ns) (hb : Below w.heap.size w w1) : WordsV w1 a N ns :=
  ⟨h.len, h.few, h.word, fun j n hj => by
    obtain ⟨g, off, h1, h2, h3⟩ := h.cell j n hj
    exact ⟨g, off, h1, by have := hb.size; omega, (World.cell?_of_block (hb.block g h2)).trans h3⟩⟩
theorem grow_below {w w1 : World} (h : Below w.heap.size w (w.alloc (.cells #[] 56))) (hg : (w.alloc (.cells #[] 56)).grownBy w1 (Value.slice (some ⟨w.heap.size, 0, none⟩) 0 0).ownBlock) : Below w.heap.size w w1 :=
  h.grown hg (by simp) (fun k hk => by
    have h2 : (Value.slice (some ⟨w.heap.size, 0, none⟩) 0 0).ownBlock = some k := hk
    have := Option.some.inj h2
    simp only [] at this
    omega)
theorem grow_own {w1 : World} {B T : Nat} {v : Value} {xs : List Value} (h : w1.ownsRow B 56 1 v (0 + T) ([] ++ xs)) : w1.ownsRow B 56 1 v T xs := by
  rwa [Nat.zero_add, List.nil_append] at h
theorem grow_src {w w1 : World} {B T : Nat} {v : Value} {xs : List Value} (h : w.ownsRow B 56 1 v T xs) (hb : Below w.heap.size w w1) : w1.ownsRow 0 56 1 v T xs := own_mono (own_below h hb) (Nat.zero_le _)
theorem u64s_app (xs ys : List Nat) : u64s xs ++ u64s ys = u64s (xs ++ ys) := by simp [u64s]
set_option maxRecDepth 100000 in
set_option maxHeartbeats 8000000 in
theorem gcGrows_walk {w : World} {a : Option Addr} {N c : Nat} {rs : List O4} {v2 v9 : Value} {zs zs9 : List Int} (hv : ArgV w a N rs) (hz : IntsV w v2 zs) (hz9 : IntsV w v9 zs9) :
    Calls Try.prog 12 #[.slice a N c, v2, v9] w fun e w' => e = .returned (.bool true) ∧ Below w.heap.size w w' := by
  obtain ⟨i0, hi, hz0, hz1, hz2⟩ := info_parts infoU64
  obtain ⟨a9, N9, c9, rfl, hrv9⟩ := roots_of hz9
  have HZ9 := Lib.hid hrv9.len
  have HRV9 := Lib.hid hrv9
  clear hz9 hrv9
  have hrng := hv.rng
  obtain ⟨a2, N2, c2, rfl, hrv⟩ := roots_of hz
  have hzl := hrv.len
  have HH := Lib.hid (heap_any (c := c) hv)
  have HRV := Lib.hid hrv
  have huh := used_heap hrng
  have hWb := heapW_bd hrng
  have HRN := Lib.hid (heapR hrng)
  obtain ⟨W, hW⟩ : ∃ W, heapW rs = W := ⟨_, rfl⟩
  obtain ⟨os, hos⟩ : ∃ os, heapO rs = os := ⟨_, rfl⟩
  rw [hW, hos] at HH HRN
  rw [hW, hos] at huh
  rw [hW] at hWb
  obtain ⟨N1, hN1⟩ : ∃ N1, os.length = N1 := ⟨_, rfl⟩
  rw [hN1] at HH
  clear hv hz hrv hrng hW hos hN1
  go_enter Try.func12, Try.ntmps12
  go_wp2_with fail
  refine HH.out.mono ?_
  rintro e w1 ⟨a1, c1, rfl, ho1, hb1⟩
  have HO1 := Lib.hid ho1
  have HB1 := Lib.hid hb1
  clear ho1 hb1 HH
  have HMD := Lib.hid (made_any (c := c1) HO1.out HRN.out)
  go_wp2_with fail
  refine HMD.out.mono ?_
  rintro e w2 ⟨rfl, R2, m2⟩
  have hpn : ((some (⟨w1.heap.size, 0, none⟩ : Addr)) == none) = false := rfl
  obtain ⟨now, hnow⟩ : ∃ now, heapObs os = now := ⟨_, rfl⟩
  rw [hnow] at m2 huh
  have HM2 := Lib.hid m2
  have HB2 := Lib.hid (HB1.out.trans (m2.fr.mono HB1.out.size))
  have HWD := Lib.hid (words_root (c := c1) (c2 := c2) (HO1.out.below m2.fr) (HRV.out.below HB2.out))
  clear m2 HMD hnow
  go_wp2_with fail
  refine HWD.out.mono ?_
  rintro e w3 ⟨v3, rfl, hown3, hb3⟩
  obtain ⟨ns, hns⟩ : ∃ ns, rootsN os zs (min N2 50) = ns := ⟨_, rfl⟩
  have hnl : ns.length = min N2 50 := by rw [← hns]; exact rootsN_len' hzl
  have hnw : ∀ x ∈ ns, x < 18446744073709551616 := by rw [← hns]; exact rootsN_lt _ _ _
  rw [hns] at hown3
  obtain ⟨M, hM⟩ : ∃ M, min N2 50 = M := ⟨_, rfl⟩
  have hM50 : M ≤ 50 := by omega
  rw [hM] at hown3 hnl
  obtain ⟨a3, c3, rfl, hWV, hg3⟩ := wordsV_own hown3 hnl (by omega) hnw
  have HWV := Lib.hid hWV
  have HOW3 := Lib.hid hown3
  have HB3 := Lib.hid hb3
  have HNW := Lib.hid hnw
  have HNL := Lib.hid hnl
  have HM3 := Lib.hid (HM2.out.m.below hb3)
  have HG3 := Lib.hid (show ∀ (g off : Nat), a3 = some ⟨g, off, none⟩ → ¬ Own w1.heap.size R2 g from fun g off hg q => by
    have h1 := (hown3.lt g (hg3 g off hg)).1
    have := HM2.out.m.own_lt g q
    omega)
  have HBB3 := Lib.hid (HB2.out.trans (hb3.mono HB2.out.size))
  clear hown3 hb3 hWV hns hM hg3 hnl HWD hzl
  have HOB3 := Lib.hid ((HO1.out.below HM2.out.fr).below HB3.out)
  have HO0 : Hid ((w3.alloc (.cells #[] 56)).ownsRow w3.heap.size 56 1 (.slice (some ⟨w3.heap.size, 0, none⟩) 0 0) 0 []) := own_empty w3 56
  have HSRC : Hid ((w3.alloc (.cells #[] 56)).ownsRow 0 56 1 (.slice a3 M c3) M (u64s ns)) := own_mono (HOW3.out.alloc _) (Nat.zero_le _)
  have HB30 : Hid (Below w3.heap.size w3 (w3.alloc (.cells #[] 56))) := (Below.refl _ _).alloc (Nat.le_refl _) _
  go_wp2_with (at_builtin; refine wpList_append_row rfl _ _ 32 rfl w3.heap.size 56 i0 (.int .u64 0) 8 Try.underlying32 hi hz0 hz1 hz2 rfl (.slice (some ⟨w3.heap.size, 0, none⟩) 0 0) 0 [] rfl HO0.out (.slice a3 M c3) M (u64s ns) rfl HSRC.out (u64s_one ns) (by unfold maxLen; omega) (by omega) (by simp) ?_; intro v5 w5 hown5 hgrow5 hblk5)
  have HB5 := Lib.hid (show Below w3.heap.size w3 w5 from HB30.out.grown hgrow5 (by simp) (fun k hk => by
    have h2 : (Value.slice (some ⟨w3.heap.size, 0, none⟩) 0 0).ownBlock = some k := hk
    have := Option.some.inj h2
    simp only [] at this
    omega))
  rw [Nat.zero_add, List.nil_append] at hown5
  have HO5 := Lib.hid hown5
  clear hown5 hgrow5 hblk5
  have HBB5 := Lib.hid (HBB3.out.trans (HB5.out.mono HBB3.out.size))
  have HWD9 := Lib.hid (words_root (c := c1) (c2 := c9) (HOB3.out.below HB5.out) (HRV9.out.below HBB5.out))
  refine HWD9.out.mono ?_
  rintro e w6 ⟨v6, rfl, hown6, hb6⟩
  obtain ⟨ns9, hns9⟩ : ∃ ns9, rootsN os zs9 (min N9 50) = ns9 := ⟨_, rfl⟩
  have hnl9 : ns9.length = min N9 50 := by rw [← hns9]; exact rootsN_len' HZ9.out
  have hnw9 : ∀ x ∈ ns9, x < 18446744073709551616 := by rw [← hns9]; exact rootsN_lt _ _ _
  rw [hns9] at hown6
  obtain ⟨M9, hM9⟩ : ∃ M9, min N9 50 = M9 := ⟨_, rfl⟩
  have hM950 : M9 ≤ 50 := by omega
  rw [hM9] at hown6 hnl9
  have HSR6 : Hid (w6.ownsRow 0 56 1 v6 M9 (u64s ns9)) := own_mono hown6 (Nat.zero_le _)
  have HO6 : Hid (w6.ownsRow w3.heap.size 56 1 v5 M (u64s ns)) := own_below HO5.out hb6
  have HB6 := Lib.hid (show Below w3.heap.size w3 w6 from HB5.out.trans (hb6.mono HB5.out.size))
  have HNW9 := Lib.hid hnw9
  have HNL9 := Lib.hid hnl9
  have h36 := HB6.out.size
  clear hown6 hb6 hns9 hM9 hnl9 hnw9 HWD9
  go_wp2_with (at_builtin; refine wpList_append_row rfl _ _ 32 rfl w3.heap.size 56 i0 (.int .u64 0) 8 Try.underlying32 hi hz0 hz1 hz2 rfl v5 M (u64s ns) rfl HO6.out v6 M9 (u64s ns9) rfl HSR6.out (u64s_one ns9) (by unfold maxLen; omega) (by omega) h36 ?_; intro v7 w7 hown7 hgrow7 hblk7)
  have HB7 := Lib.hid (show Below w3.heap.size w3 w7 from HB6.out.grown hgrow7 h36 (fun k hk => (HO6.out.lt k hk).1))
  rw [u64s_app] at hown7
  have HBL : Hid ((ns ++ ns9).length = M + M9) := by show _ = _; rw [List.length_append, HNL.out, HNL9.out]
  have HBW : Hid (∀ x ∈ ns ++ ns9, x < 18446744073709551616) := fun x hx => (List.mem_append.1 hx).elim (HNW.out x) (HNW9.out x)
  obtain ⟨T, hT⟩ : ∃ T, M + M9 = T := ⟨_, rfl⟩
  rw [hT] at HBL hown7
  have hT100 : T ≤ 100 := by omega
  obtain ⟨a7, c7, rfl, hWV7, hg7⟩ := wordsV_own hown7 HBL.out (by omega) HBW.out
  have HO7 := Lib.hid hown7
  have HWV7 := Lib.hid hWV7
  have HM7 := Lib.hid (HM3.out.below HB7.out)
  have HBB7 := Lib.hid (HBB3.out.trans (HB7.out.mono HBB3.out.size))
  clear hown7 hgrow7 hblk7 hWV7 hg7 hT h36
  have HL1 := Lib.hid (live_any (c := c3) HM7.out HM2.out.z (wordsV_at HWV.out HB7.out))
  go_wp2_with fail
  refine HL1.out.mono ?_
  rintro e w8 ⟨rfl, hb8⟩
  have HB8 := Lib.hid hb8
  have HM8 := Lib.hid (HM7.out.below hb8)
  have HBB8 := Lib.hid (HBB7.out.trans (hb8.mono HBB7.out.size))
  have HL2 := Lib.hid (live_any (c := c7) HM8.out HM2.out.z (wordsV_at HWV7.out hb8))
  clear hb8 HL1
  obtain ⟨x, hx⟩ : ∃ x, liveN now 0 W ns = x := ⟨_, rfl⟩
  obtain ⟨E1, hE1⟩ : ∃ E1, checkE now 0 W ns = E1 := ⟨_, rfl⟩
  rw [hx, hE1]
  obtain ⟨bs, hbs⟩ : ∃ bs, ns ++ ns9 = bs := ⟨_, rfl⟩
  have HBS := Lib.hid hbs
  rw [hbs] at HL2 HO7 HWV7 HBL HBW
  obtain ⟨U, hU⟩ : ∃ U, liveN now 0 W bs = U := ⟨_, rfl⟩
  obtain ⟨E2, hE2⟩ : ∃ E2, checkE now 0 W bs = E2 := ⟨_, rfl⟩
  rw [hU, hE2] at HL2
  have HX := Lib.hid hx
  have HU := Lib.hid hU
  clear hx hbs hU
  cases hrb : reach now 0 W bs with
  | none =>
    have hE2' : E2 = 40 := by rw [← hE2]; unfold checkE; rw [hrb]
    subst hE2'
    have hE1' : E1 = 0 ∨ E1 = 40 := by
      rw [← hE1]; unfold checkE
      cases reach now 0 W ns with
      | none => exact .inr rfl
      | some m => exact .inl rfl
    clear hE1 hE2 hrb
    rcases hE1' with rfl | rfl
    · go_wp2_with fail
      refine HL2.out.mono ?_
      rintro e w10 ⟨rfl, hb10⟩
      have HB10 := Lib.hid (HBB8.out.trans (hb10.mono HBB8.out.size))
      clear hb10
      go_wp2_with fail
      refine (known_any _).mono ?_
      rintro e wk ⟨rfl, hbk⟩
      have HBK := Lib.hid (HB10.out.trans (hbk.mono HB10.out.size))
      clear hbk
      go_wp2_with fail
      go_ret
      exact ⟨rfl, HBK.out⟩
    · go_wp2_with fail
      refine HL2.out.mono ?_
      rintro e w10 ⟨rfl, hb10⟩
      have HB10 := Lib.hid (HBB8.out.trans (hb10.mono HBB8.out.size))
      clear hb10
      go_wp2_with fail
      refine (known_any _).mono ?_
      rintro e wk ⟨rfl, hbk⟩
      have HBK := Lib.hid (HB10.out.trans (hbk.mono HB10.out.size))
      clear hbk
      go_wp2_with fail
      go_ret
      exact ⟨rfl, HBK.out⟩
  | some mb =>
    have hE2' : E2 = 0 := by rw [← hE2]; unfold checkE; rw [hrb]
    subst hE2'
    have hll := live_less (os := now) (h := 0) (W := W) (a := ns) (c := ns9) (mb := mb) (by rw [HBS.out]; exact hrb)
    rw [HX.out, HBS.out, HU.out, hE1] at hll
    obtain ⟨hxU, rfl⟩ := hll
    have HRB := Lib.hid hrb
    have hok := reach_okm hrb
    have hli := live_old hrb
    rw [HU.out] at hli
    have hul := used_le_old HM2.out.z hok
    have HUE := Lib.hid hli.symm
    rw [← hli] at hul
    have hUW : U + 64 ≤ W := by omega
    clear hE1 hE2 hrb hok hli hul
    go_wp2_with fail
    refine HL2.out.mono ?_
    rintro e w10 ⟨rfl, hb10⟩
    have HB10 := Lib.hid (show Below w7.heap.size w7 w10 from HB8.out.trans (hb10.mono HB8.out.size))
    have HO10 : Hid (w10.ownsRow w3.heap.size 56 1 (.slice a7 T c7) T (u64s bs)) := own_below HO7.out HB10.out
    have HBB10 := Lib.hid (HBB8.out.trans (hb10.mono HBB8.out.size))
    have HB310 := Lib.hid (show Below w3.heap.size w3 w10 from HB7.out.trans (HB10.out.mono HB7.out.size))
    clear hb10 HL2
    have HO00 : Hid ((w10.alloc (.cells #[] 56)).ownsRow w10.heap.size 56 1 (.slice (some ⟨w10.heap.size, 0, none⟩) 0 0) 0 []) := own_empty w10 56
    have HSR10 : Hid ((w10.alloc (.cells #[] 56)).ownsRow 0 56 1 (.slice a7 T c7) T (u64s bs)) := own_mono (HO10.out.alloc _) (Nat.zero_le _)
    have HB100 : Hid (Below w10.heap.size w10 (w10.alloc (.cells #[] 56))) := (Below.refl _ _).alloc (Nat.le_refl _) _
    go_wp2_with (first
      | (at_builtin; refine wpList_append_row rfl _ _ 32 rfl w10.heap.size 56 i0 (.int .u64 0) 8 Try.underlying32 hi hz0 hz1 hz2 rfl (.slice (some ⟨w10.heap.size, 0, none⟩) 0 0) 0 [] rfl HO00.out (.slice a7 T c7) T (u64s bs) rfl HSR10.out (u64s_one bs) (by unfold maxLen; omega) (by omega) (by simp) ?_; intro v11 w11 hown11 hgrow11 hblk11; have HB11 := Lib.hid (grow_below HB100.out hgrow11); have HO11 := Lib.hid (grow_own hown11); have HS11 := Lib.hid (grow_src HO10.out HB11.out); have h11 := HB11.out.size; clear hown11 hgrow11 hblk11)
      | (at_builtin; refine wpList_append_row rfl _ _ 32 rfl w10.heap.size 56 i0 (.int .u64 0) 8 Try.underlying32 hi hz0 hz1 hz2 rfl v11 T (u64s bs) rfl HO11.out (.slice a7 T c7) T (u64s bs) rfl HS11.out (u64s_one bs) (by unfold maxLen; omega) (by omega) h11 ?_; intro v12 w12 hown12 hgrow12 hblk12; have HB12 := Lib.hid (show Below w10.heap.size w10 w12 from HB11.out.grown hgrow12 h11 (fun k hk => (HO11.out.lt k hk).1)); rw [u64s_app] at hown12; have HO12 := Lib.hid hown12; clear hown12 hgrow12 hblk12))
    have HBL2 : Hid ((bs ++ bs).length = T + T) := by show _ = _; rw [List.length_append, HBL.out]
    obtain ⟨a12, c12, rfl, hWV12, hg12⟩ := wordsV_own HO12.out HBL2.out (by omega) (fun x hx => (List.mem_append.1 hx).elim (HBW.out x) (HBW.out x))
    have HM12 := Lib.hid ((HM3.out.below HB310.out).below HB12.out)
    have HBB12 := Lib.hid (HBB10.out.trans (HB12.out.mono HBB10.out.size))
    have HCO := Lib.hid (collect_any (c := c12) HM12.out HM2.out.z hWV12 (fun g off e q => by
      have h1 := (HO12.out.lt g (hg12 g off e)).1
      have h2 := (HM3.out.below HB310.out).own_lt g q
      omega) (by omega))
    clear hWV12 hg12
    refine HCO.out.mono ?_
    rintro e w4 (⟨hr4, rfl, hb4⟩ | ⟨met, v4, R4, hr4, rfl, x4, ho4, hg4⟩)
    · exfalso
      rw [reach_twice, HRB.out] at hr4
      cases hr4
    · rw [reach_twice, HRB.out] at hr4
      obtain rfl := Option.some.inj hr4
      have x4' : MX w12 (Own w1.heap.size R2) w1.heap.size W 1 ⟨newF 0 W now mb, oldK 1 W now mb mb⟩ w4 R4 := x4
      have HBB4 := Lib.hid (mx_below HBB12.out (fun i hi => Nat.le_trans HB1.out.size (HM2.out.ge i hi)) x4').1
      have HX4 := Lib.hid x4'
      obtain ⟨A, hA⟩ : ∃ A : Int, (W : Int) - U = A := ⟨_, rfl⟩
      have hA1 : 64 ≤ A := by omega
      have hA2 : A ≤ 600 := by omega
      have HAE := Lib.hid hA
      rw [HBL2.out, List.map_append] at ho4
      obtain ⟨a4, c4, rfl, hc4, hc5⟩ := own_shape5 (own_mono ho4 (Nat.zero_le _))
      obtain ⟨hTc, A2, C2, hsl2, hsame⟩ := grow_same ho4 (by rw [List.length_map]; exact HBL.out) (by omega)
      have HSM := Lib.hid hsame
      have HFR : Hid (∀ X, Below w4.heap.size w4 X → Calls Try.prog 35 #[.pointer (some ⟨w1.heap.size, 0, none⟩)] X fun e w' => e = .returned (.int .i64 A) ∧ Below X.heap.size X w') := fun X hb => (free_m (HX4.out.m.below hb) HX4.out.z HUE.out A HAE.out).mono fun e w' ⟨h1, n, h2⟩ => ⟨h1, by rw [h2]; exact Below.drewN' (Below.refl _ _) n⟩
      obtain ⟨D, hD⟩ : ∃ D, T + T = D := ⟨_, rfl⟩
      have hd2 : ((D : Int) != 2 * (T : Int)) = false := by simp; omega
      rw [hD] at hsl2
      rw [hD]
      have hsl1 := fun X => slu_to a4 D c4 T hTc X
      have hle : decide ((x : Int) ≤ (U : Int)) = true := by simpa using hxU
      have hwr : IntKind.i64.wrap ((W : Int) - U) = A := by rw [IntKind.wrap_i64]; omega
      have hAA : (A == A) = true := by simp
      have HBO := Lib.hid (Both.mk HBB4.out (Below.refl w4.heap.size w4))
      clear x4 x4' ho4 hg4 hr4 hA hsame hD HCO
      go_wp2_with fail

      have hk2 := HBO.out.below (Below.refl _ _).drew
      go_region_held3 (fun X => Both w w4 X)
        (first | assumption)
        (first
          | (go_at_call 21; refine (HSM.out _ (Both.four (by assumption))).mono ?_; rintro e w13 ⟨rfl, hb13⟩; have hk13 := Both.below (by assumption) hb13)
          | (go_at_call 35; refine (HFR.out _ (Both.four (by assumption))).mono ?_; rintro e w14 ⟨rfl, hb14⟩; have hk14 := Both.below (by assumption) hb14)
          | (go_at_call 24; refine (known_any _).mono ?_; rintro e w15 ⟨rfl, hb15⟩; have hk15 := Both.below (by assumption) hb15))
      go_wp2_with fail
      go_ret
      exact ⟨rfl, hk15.base⟩
end Go.Proofs.Ytjdhjehnofediaa
