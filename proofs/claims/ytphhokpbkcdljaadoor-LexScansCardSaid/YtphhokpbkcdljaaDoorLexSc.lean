/- The contract of the program's Scan. Conditions: the text is within the reach; the tables are as laid. -/
import Derived.Test.YtphhokpbkcdljaaDoorLexPr
import Derived.Test.YtphhokpbkcdljaaDoorLexT
import Derived.Test.YtphhokpbkcdljaaDoorLexE
namespace Go.Proofs.YtphhokpbkcdljaaDoor
open Go Go.RowKit
set_option maxRecDepth 100000 in
set_option maxHeartbeats 32000000 in
theorem scan_any (s : ByteArray) (hs : s.size ≤ 140737488351232) (w : World) (hT : LxT w) :
    Calls Tryd.prog 13 #[.string s] w (ScV w (scanTop s.data.toList)) := by
  obtain ⟨i0, hi, hz0, hz1, hz2⟩ := info_parts infoTok
  by_cases hbig : 4096 < s.size
  · have hd : decide ((4096 : Int) < (s.size : Int)) = true := decide_eq_true (by omega)
    have HR := Lib.hid (show scanTop s.data.toList = (none, 0, 3) from by unfold scanTop; rw [len_data, if_pos hbig])
    clear hbig
    go_enter Tryd.func13, Tryd.ntmps13
    go_wp2_with fail
    go_ret3
    exact ⟨⟨_, by rw [HR.out]; rfl, .inl ⟨by rw [HR.out], rfl⟩⟩, Below.refl _ _⟩
  have hd : decide ((4096 : Int) < (s.size : Int)) = false := decide_eq_false (by omega)
  obtain ⟨res, hr⟩ : ∃ res, scanTop s.data.toList = res := ⟨_, rfl⟩
  rw [hr]
  unfold scanTop at hr
  rw [len_data, if_neg hbig] at hr
  have HR := Lib.hid hr
  have HT := Lib.hid hT
  have hs4 : s.size ≤ 4096 := by omega
  clear hr hbig hT
  go_enter Tryd.func13, Tryd.ntmps13
  go_wp2_with fail
  go_loopw [5, 6] (fun v i wr => ∃ (k : Nat) (out : List (Tok × Nat)), k ≤ s.size ∧ i = .int .i64 k ∧ out.length ≤ k ∧ out.length ≤ 1000 ∧ wr.ownsRow w.heap.size 32 4 v out.length (cellsT out) ∧ Below w.heap.size w wr ∧ appR out (scanT (s.data.toList.drop k) k out.length) = res) (fun _ i _ => s.size + 1 - (intOf i).toNat)
  case atStart => exact ⟨0, [], Nat.zero_le _, rfl, Nat.le_refl _, Nat.zero_le _, World.ownsRow_nil _ _ _ _, Below.refl _ _, by rw [appR_nil]; simpa using HR.out⟩
  case round =>
    obtain ⟨k, out, hk, rfl, hok, ho4, hrow, hb, hsc⟩ := hrel
    obtain ⟨va, vc, rfl⟩ := own_shape4L hrow
    have HROW := Lib.hid hrow
    have HB := Lib.hid hb
    have HSC := Lib.hid hsc
    have HTR := Lib.hid (HT.out.stay hb)
    clear hrow hb hsc
    have hk0 : (0 : Int) ≤ k := by omega
    have hki : (k : Int) ≤ s.size := by omega
    have hbk := pass_any s (by omega) k hk wr
    unfold paV at hbk
    have hbl := blk_le _ (s.data.toList.drop k) (Nat.le_refl _)
    rw [List.length_drop, len_data] at hbl
    obtain ⟨n, hn⟩ : ∃ n, (blk (s.data.toList.drop k)).1 = n := ⟨_, rfl⟩
    rw [hn] at hbk hbl
    have hkn : k + n ≤ s.size := by omega
    obtain ⟨E, hE⟩ : ∃ E : Nat, k + n = E := ⟨_, rfl⟩
    rw [hE] at hbk hkn
    obtain ⟨L, hL⟩ : ∃ L, out.length = L := ⟨_, rfl⟩
    rw [hL] at hok ho4 ⊢
    have HL := Lib.hid hL
    clear hL
    cases hok2 : (blk (s.data.toList.drop k)).2 with
    | false =>
      rw [hok2] at hbk
      have HBK := Lib.hid hbk
      have HRR := Lib.hid (show res = (none, E, 70) from by
        rw [← HSC.out, scan_open hok2, hn, hE]; rfl)
      clear hbk hok2 hn hbl hE
      go_wp2_with fail
      refine (HBK.out).mono ?_
      rintro e w1 ⟨rfl, hw1⟩
      subst w1
      go_wp2_with fail
      go_ret3
      exact ⟨⟨_, by rw [HRR.out]; rfl, .inl ⟨by rw [HRR.out], rfl⟩⟩, HB.out⟩
    | true =>
      rw [hok2] at hbk
      have HBK := Lib.hid hbk
      by_cases hend : E = s.size
      · have heB : ((E : Int) == (s.size : Int)) = true := by rw [beq_iff_eq]; omega
        have HRR := Lib.hid (show res = (some (out ++ [(tEnd, E)]), 0, 0) from by
          rw [← HSC.out, scan_end hok2 (by rw [hn, List.drop_drop]; exact drop_end s (by omega)), hn, hE]; rfl)
        have HES := Lib.hid hend
        have hrow2 := HROW.out
        rw [HL.out] at hrow2
        have HROW2 := Lib.hid hrow2
        have hsz := HB.out.size
        clear hbk hok2 hn hbl hend hrow2 hE
        go_wp2_with fail
        refine (HBK.out).mono ?_
        rintro e w1 ⟨rfl, hw1⟩
        subst w1
        go_wp2_with (at_builtin; refine wpList_append_own_at _ rfl _ _ 24 rfl w.heap.size 32 i0 (.agg #[.int .i64 0, .string ⟨#[]⟩, .int .i64 0, .int .i64 0]) 4 40 Tryd.underlying24 hi hz0 hz1 hz2 rfl (by decide) (.slice va L vc) _ _ rfl (HROW2.out.alloc _) ⟨wr.heap.size, 0, none⟩ 1 1 [.int .i64 0, .string ⟨#[]⟩, .int .i64 0, .int .i64 (s.size : Int)] rfl rfl (cells4_atL wr _ _ _ _ _ _ rfl) (by simp [Value.oneCell']) (by unfold maxLen; omega) (by omega) (by simp; omega) ?_; intro v7 w7 hown7 hgrow7 _ hblk7; have HO7 := Lib.hid hown7; have HB7 := Lib.hid ((HB.out.alloc HB.out.size _).grown hgrow7 (by simp; omega) (fun j hj => (HROW2.out.lt j hj).1)); clear hown7 hgrow7 hblk7)
        go_ret3
        refine ⟨⟨_, by rw [HRR.out]; rfl, .inr ⟨_, by rw [HRR.out], ?_⟩⟩, HB7.out⟩
        have := HO7.out
        rw [show cellsT out ++ [.int .i64 0, .string ⟨#[]⟩, .int .i64 0, .int .i64 (s.size : Int)] = cellsT (out ++ [(tEnd, E)]) from by rw [cellsT_snoc, HES.out]; simp [tokC, tEnd]] at this
        rw [List.length_append, HL.out]
        exact this
      · have heB : ((E : Int) == (s.size : Int)) = false := by rw [beq_eq_false_iff_ne]; omega
        have hEs : E < s.size := by omega
        have hne : (s.data.toList.drop k).drop (blk (s.data.toList.drop k)).1 ≠ [] := by
          rw [hn, List.drop_drop, hE, drop_cons s hEs]; simp
        have hlg := cut_any s (by omega) E hEs wr HTR.out
        have hdd : (s.data.toList.drop k).drop (blk (s.data.toList.drop k)).1 = s.data.toList.drop E := by rw [hn, List.drop_drop, hE]
        cases ec : cutL (s.data.toList.drop E) with
        | none =>
          rw [ec] at hlg
          have HLG := Lib.hid (show Calls _ _ _ wr (fun e w' => (∃ (a n i : Int) (s : ByteArray), e = .returned (.tuple #[.agg #[.int .i64 a, .string s, .int .i64 n, .int .i64 0], .int .i64 i, .bool false])) ∧ Below wr.heap.size wr w') from hlg)
          have HRR := Lib.hid (show res = (none, E, 70) from by
            rw [← HSC.out, scan_bad hok2 hne (by rw [hdd]; exact ec), hn, hE]; rfl)
          clear hbk hok2 hn hbl hne hlg hdd ec hend hE
          go_wp2_with fail
          refine (HBK.out).mono ?_
          rintro e w1 ⟨rfl, hw1⟩
          subst w1
          go_wp2_with fail
          refine (HLG.out).mono ?_
          rintro e w1 ⟨⟨ax, nx, ix, sx, rfl⟩, hb1⟩
          have HB1 := Lib.hid (HB.out.trans (hb1.mono HB.out.size))
          clear hb1
          go_wp2_with fail
          go_ret3
          exact ⟨⟨_, by rw [HRR.out]; rfl, .inl ⟨by rw [HRR.out], rfl⟩⟩, HB1.out.alloc HB1.out.size _⟩
        | some x =>
          obtain ⟨t, m⟩ := x
          rw [ec] at hlg
          have HLG := Lib.hid (show Calls _ _ _ wr (fun e w' => e = .returned (.tuple #[.agg #[.int .i64 (t.kind : Int), .string ⟨t.text.toArray⟩, .int .i64 (t.num : Int), .int .i64 0], .int .i64 ((E + m : Nat) : Int), .bool true]) ∧ Below wr.heap.size wr w') from hlg)
          have hcp := cut_pos ec
          rw [List.length_drop, len_data] at hcp
          simp only at hcp
          have hsc := scan_cut hok2 hne (by rw [hdd]; exact ec) k L
          rw [hn, List.drop_drop, ← Nat.add_assoc, hE] at hsc
          have hkm : E + m ≤ s.size := by omega
          have hm1 : 1 ≤ m := hcp.1
          have hEk : k ≤ E := by omega
          by_cases hfull : L = 1000
          · have hfB : ((L : Int) == 1000) = true := by rw [beq_iff_eq]; omega
            have HRR := Lib.hid (show res = (none, E, 3) from by
              rw [← HSC.out, HL.out, hsc, if_pos hfull]; rfl)
            clear hbk hok2 hn hbl hne hlg hdd ec hend hsc hcp hfull hE
            go_wp2_with fail
            refine (HBK.out).mono ?_
            rintro e w1 ⟨rfl, hw1⟩
            subst w1
            go_wp2_with fail
            refine (HLG.out).mono ?_
            rintro e w1 ⟨rfl, hb1⟩
            have HB1 := Lib.hid (HB.out.trans (hb1.mono HB.out.size))
            clear hb1
            go_wp2_with fail
            go_ret3
            exact ⟨⟨_, by rw [HRR.out]; rfl, .inl ⟨by rw [HRR.out], rfl⟩⟩, HB1.out.alloc HB1.out.size _⟩
          · have hfB : ((L : Int) == 1000) = false := by rw [beq_eq_false_iff_ne]; omega
            have HNEW := Lib.hid (show appR (out ++ [(t, E)]) (scanT (s.data.toList.drop (E + m)) (E + m) (L + 1)) = res from by
              rw [← appR_cons, ← HSC.out, HL.out, hsc, if_neg hfull])
            have hrow2 := HROW.out
            rw [HL.out] at hrow2
            have HROW2 := Lib.hid hrow2
            have hL9 : L + 1 ≤ 1000 := by omega
            clear hbk hok2 hn hbl hne hlg hdd ec hend hsc hcp hfull hrow2 hE
            go_wp2_with fail
            refine (HBK.out).mono ?_
            rintro e w1 ⟨rfl, hw1⟩
            subst w1
            go_wp2_with fail
            refine (HLG.out).mono ?_
            rintro e w1 ⟨rfl, hb1⟩
            have HB1 := Lib.hid (HB.out.trans (hb1.mono HB.out.size))
            have HROW3 := Lib.hid (own_stay HROW2.out hb1)
            have hs1 := HB1.out.size
            clear hb1
            go_wp2_with (at_builtin; refine wpList_append_own_at _ rfl _ _ 24 rfl w.heap.size 32 i0 (.agg #[.int .i64 0, .string ⟨#[]⟩, .int .i64 0, .int .i64 0]) 4 40 Tryd.underlying24 hi hz0 hz1 hz2 rfl (by decide) (.slice va L vc) _ _ rfl ((HROW3.out.alloc _).alloc _) ⟨w1.heap.size + 1, 0, none⟩ 1 1 [.int .i64 (t.kind : Int), .string ⟨t.text.toArray⟩, .int .i64 (t.num : Int), .int .i64 (E : Int)] rfl rfl (cells4_atL _ _ _ _ _ _ _ (World.size_alloc _ _)) (by simp [Value.oneCell']) (by unfold maxLen; omega) (by omega) (by simp; omega) ?_; intro v7 w7 hown7 hgrow7 _ hblk7; have HO7 := Lib.hid hown7; have HB7 := Lib.hid (((HB1.out.alloc HB1.out.size _).alloc (HB1.out.alloc HB1.out.size _).size _).grown hgrow7 (by simp; omega) (fun j hj => (HROW3.out.lt j hj).1)); clear hown7 hgrow7 hblk7)
            go_roundw
            case rel =>
              refine ⟨E + m, out ++ [(t, E)], hkm, by go_num, by rw [List.length_append, HL.out]; simp; omega, by rw [List.length_append, HL.out]; exact hL9, ?_, HB7.out, by rw [List.length_append, HL.out]; exact HNEW.out⟩
              have := HO7.out
              rw [show cellsT out ++ [.int .i64 (t.kind : Int), .string ⟨t.text.toArray⟩, .int .i64 (t.num : Int), .int .i64 (E : Int)] = cellsT (out ++ [(t, E)]) from by rw [cellsT_snoc]; simp [tokC]] at this
              rw [List.length_append, HL.out]
              exact this
            case measure => simp [intOf]; omega
end Go.Proofs.YtphhokpbkcdljaaDoor
