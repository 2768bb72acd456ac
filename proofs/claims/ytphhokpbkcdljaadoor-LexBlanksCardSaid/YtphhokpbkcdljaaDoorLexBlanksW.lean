/- The walk of the statement LexBlanks: it returns true. Conditions: the texts are within the reach; the tables are as laid. -/
import Derived.Test.YtphhokpbkcdljaaDoorLexJoinsW
namespace Go.Proofs.YtphhokpbkcdljaaDoor
open Go Go.RowKit
theorem key_blanks {us ts : List (Tok × Nat)} (h : us.map keyO = ts.map keyO) : sameT false (ts.map tkOf) (us.map tkOf) = true := by
  unfold sameT
  rw [decide_eq_true_eq]
  have e : ∀ l : List (Tok × Nat), (l.map tkOf).map (TkB.key false) = (l.map keyO).map (fun z => (z.1, z.2.1, z.2.2, (0 : Int))) := fun l => by
    rw [List.map_map, List.map_map]; rfl
  rw [e, e, h]
theorem cut3 (s bl : ByteArray) (a : Nat) : (s.extract 0 a ++ bl ++ s.extract a s.size).data.toList = s.data.toList.take a ++ bl.data.toList ++ s.data.toList.drop a := by
  rw [ByteArray.data_append, ByteArray.data_append]
  rw [Array.toList_append, Array.toList_append, ext_mid s 0 a, Lib.extract_to_end s a, Nat.sub_zero, List.drop_zero]
set_option maxRecDepth 100000 in
set_option maxHeartbeats 16000000 in
theorem lexBlanks_walk (s bl : ByteArray) (which : Int) (hs : s.size ≤ 140737488351232) (hbl : bl.size ≤ 140737488351232) (w : World) (hT : LTab w) :
    Calls Tryd.prog 10 #[.string s, .int .i64 which, .string bl] w fun e w' => e = .returned (.bool true) ∧ Below w.heap.size w w' := by
  have HT := Lib.hid hT
  have HL := Lib.hid (long_any s)
  have HK := Lib.hid lknown_any
  clear hT
  cases hl : (decide (500 < s.size) && decide (s.size ≤ 4096)) with
  | true =>
    rw [hl] at HL
    clear hl
    go_enter Tryd.func10, Tryd.ntmps10
    go_wp2_with fail
    refine (HL.out _).mono ?_
    rintro e w1 ⟨rfl, hw1⟩
    subst w1
    go_wp2_with fail
    refine (HK.out _ HT.out).mono ?_
    rintro e w2 ⟨rfl, hb2⟩
    have HB := Lib.hid hb2
    clear hb2
    go_wp2_with fail
    go_ret
    exact ⟨rfl, HB.out⟩
  | false =>
    rw [hl] at HL
    by_cases h500 : 500 < bl.size
    · have hd : decide ((500 : Int) < (bl.size : Int)) = true := decide_eq_true (by omega)
      clear h500 hl
      go_enter Tryd.func10, Tryd.ntmps10
      go_wp2_with fail
      refine (HL.out _).mono ?_
      rintro e w1 ⟨rfl, hw1⟩
      subst w1
      go_wp2_with fail
      refine (HK.out _ HT.out).mono ?_
      rintro e w2 ⟨rfl, hb2⟩
      have HB := Lib.hid hb2
      clear hb2
      go_wp2_with fail
      go_ret
      exact ⟨rfl, HB.out⟩
    have hd : decide ((500 : Int) < (bl.size : Int)) = false := decide_eq_false (by omega)
    have hb5 : bl.size ≤ 500 := by omega
    have HBL := Lib.hid (ref_blank bl (by omega))
    cases htop : (scanTop s.data.toList).1 with
    | none =>
      have HS := Lib.hid (scan_noT hs htop)
      clear htop hl h500
      obtain ⟨x, hx⟩ : ∃ x, blk bl.data.toList = x := ⟨_, rfl⟩
      rw [hx] at HBL
      clear hx
      obtain ⟨n, ok⟩ := x
      go_enter Tryd.func10, Tryd.ntmps10
      go_wp2_with fail
      refine (HL.out _).mono ?_
      rintro e w1 ⟨rfl, hw1⟩
      subst w1
      go_wp2_with fail
      refine (HS.out _ HT.out.x).mono ?_
      rintro e w2 ⟨A, c, p, e2, rfl, he2, hb2⟩
      have HB := Lib.hid hb2
      clear hb2
      have he : (e2 != 0) = true := by rcases he2 with rfl | rfl <;> rfl
      go_wp2_with fail
      refine (HBL.out _).mono ?_
      rintro e w1 ⟨rfl, hw1⟩
      subst w1
      go_wp2_with fail
      refine (HK.out _ (HT.out.stay HB.out)).mono ?_
      rintro e w3 ⟨rfl, hb3⟩
      have HB3 := Lib.hid (HB.out.trans (hb3.mono HB.out.size))
      clear hb3
      go_wp2_with fail
      go_ret
      exact ⟨rfl, HB3.out⟩
    | some ts =>
      obtain ⟨h1, h2, h3⟩ := top_some htop
      have hsl : s.data.toList.length = s.size := by simp
      have hs5 : s.size ≤ 500 := by
        rw [hsl] at h3
        simp [h3] at hl; omega
      have hfew := scan_few h2
      obtain ⟨ia, hia⟩ := scan_last _ _ 0 0 ts (Nat.le_refl _) h2
      obtain ⟨M, hM⟩ : ∃ M, ts.length = M + 1 := ⟨ia.length, by rw [hia]; simp⟩
      have HS := Lib.hid (scan_yes hs h1)
      rw [hM] at HS
      have hM1 : M ≤ 1000 := by omega
      have hm0 : ((M : Int) + 1 == 0) = false := by rw [beq_eq_false_iff_ne]; omega
      by_cases hgood : blk bl.data.toList = (bl.size, true)
      · rw [hgood] at HBL
        have HBL2 := Lib.hid (show ∀ W, Calls _ _ _ W (fun e w' => e = .returned (.tuple #[.int .i64 (bl.size : Int), .bool true]) ∧ w' = W) from HBL.out)
        have HAM := Lib.hid (among_any which (M + 1) (by omega) (by omega))
        have HALL := Lib.hid (And.intro h2 (And.intro hM hgood))
        have hnn : ((bl.size : Int) != (bl.size : Int)) = false := by simp
        clear htop hl h500 h1 h2 h3 hfew hia hgood HBL hM
        go_enter Tryd.func10, Tryd.ntmps10
        go_wp2_with fail
        refine (HL.out _).mono ?_
        rintro e w1 ⟨rfl, hw1⟩
        subst w1
        go_wp2_with fail
        refine (HS.out _ HT.out.x).mono ?_
        rintro e w2 ⟨A, c, rfl, hc, ht, hb2⟩
        have H2 := Lib.hid (And.intro hb2 ht)
        clear hb2 ht
        go_wp2_with fail
        refine (HBL2.out _).mono ?_
        rintro e w1 ⟨rfl, hw1⟩
        subst w1
        go_wp2_with fail
        refine (HAM.out _).mono ?_
        rintro e w3 ⟨⟨j, hj, rfl⟩, hw3⟩
        subst w3
        obtain ⟨⟨t, a⟩, hta⟩ : ∃ t, ts[j]? = some t := ⟨_, List.getElem?_eq_getElem (by rw [HALL.out.2.1]; exact hj)⟩
        obtain ⟨g, off, rfl, hg, _, _, _, c3⟩ := H2.out.2.cell j (tkOf (t, a)) (by rw [List.getElem?_map, hta]; rfl)
        simp only [tkOf] at c3
        obtain ⟨hale, us, hus, hkey⟩ := blanks_scan (bl := bl.data.toList) HALL.out.1 (by rw [HALL.out.2.2]; simp) hta
        rw [hsl] at hale
        rw [← cut3 s bl a] at hus
        have hPs : (s.extract 0 a ++ bl ++ s.extract a s.size).size ≤ 1000 := by
          rw [ByteArray.size_append, ByteArray.size_append, ByteArray.size_extract, ByteArray.size_extract]; omega
        have htop2 : scanTop (s.extract 0 a ++ bl ++ s.extract a s.size).data.toList = (some us, 0, 0) := by
          unfold scanTop
          rw [if_neg (by simp only [Array.length_toList]; show ¬ 4096 < (s.extract 0 a ++ bl ++ s.extract a s.size).size; omega)]
          exact hus
        have hSC := scan_yes (by omega) htop2
        have hul : us.length = M + 1 := by
          have := congrArg List.length hkey
          simp only [List.length_map] at this
          rw [this, HALL.out.2.1]
        rw [hul] at hSC
        have HSC := Lib.hid hSC
        have HKEY := Lib.hid (key_blanks hkey)
        have HLN := Lib.hid (And.intro (show (ts.map tkOf).length = M + 1 by rw [List.length_map, HALL.out.2.1]) (show (us.map tkOf).length = M + 1 by rw [List.length_map, hul]))
        clear hSC hul htop2 hus hkey hta
        have b1 : decide ((a : Int) < 0) = false := decide_eq_false (by omega)
        have b2 : decide ((s.size : Int) < (a : Int)) = false := decide_eq_false (by omega)
        have q0 : (0 : Int) ≤ a := by omega
        have q1 : (a : Int) ≤ s.size := by omega
        have hsum1 : (s.extract 0 a).size + bl.size ≤ 140737488355328 := by rw [ByteArray.size_extract]; omega
        have hsum2 : (s.extract 0 a ++ bl).size + (s.extract a s.size).size ≤ 140737488355328 := by rw [ByteArray.size_append, ByteArray.size_extract, ByteArray.size_extract]; omega
        have rn1 : ∀ W : World, (Op.stringOp .add (s.extract 0 a) bl).run Tryd.prog W = .ok (.string (s.extract 0 a ++ bl)) W := fun W => run_string_add_sum W (s.extract 0 a) bl (by omega)
        have rn2 : ∀ W : World, (Op.stringOp .add (s.extract 0 a ++ bl) (s.extract a s.size)).run Tryd.prog W = .ok (.string (s.extract 0 a ++ bl ++ s.extract a s.size)) W := fun W => run_string_add_sum W (s.extract 0 a ++ bl) (s.extract a s.size) (by omega)
        have hk0 : Below w2.heap.size w2 w2.drew := (Below.refl _ _).drew
        go_wp2_with fail
        go_region_held3 (fun X => Below w2.heap.size w2 X)
          (first | assumption)
          (first
            | (go_at_call 13; refine (HSC.out _ (HT.out.stay (Below.trans H2.out.1 (Below.mono (by assumption) H2.out.1.size))).x).mono ?_; rintro e w4 ⟨A4, c4, rfl, hc4, ht4, hb4⟩; have hk4 := Below.trans (by assumption) (hb4.mono (Below.size (by assumption)))))
        have hx1 : Tks w4.heap.size w4 (some ⟨g, off, none⟩) (ts.map tkOf) := (H2.out.2.below hk4).mono hk4.size
        have hsm := same_any (some ⟨g, off, none⟩) A4 c c4 (ts.map tkOf) (us.map tkOf) false w4 hx1 ht4
        rw [HKEY.out, HLN.out.1, HLN.out.2] at hsm
        have HSM := Lib.hid hsm
        have HW := Lib.hid (H2.out.1.trans (hk4.mono H2.out.1.size))
        clear hx1 hsm ht4 hb4 hk4 hk0 hsum1 hsum2 c3 hg rn1 rn2
        go_wp2_with fail
        refine HSM.out.mono ?_
        rintro e w8 ⟨rfl, hb8⟩
        have H8 := Lib.hid (HW.out.trans (hb8.mono HW.out.size))
        clear hb8
        go_wp2_with fail
        refine (HK.out _ (HT.out.stay H8.out)).mono ?_
        rintro e w9 ⟨rfl, hb9⟩
        have H9 := Lib.hid (H8.out.trans (hb9.mono H8.out.size))
        clear hb9
        go_wp2_with fail
        go_ret
        exact ⟨rfl, H9.out⟩
      · obtain ⟨n, hn⟩ : ∃ n, (blk bl.data.toList).1 = n := ⟨_, rfl⟩
        have hq : (blk bl.data.toList).2 = false ∨ ((blk bl.data.toList).2 = true ∧ ((n : Int) != (bl.size : Int)) = true) := by
          cases q : (blk bl.data.toList).2 with
          | false => exact .inl rfl
          | true =>
            refine .inr ⟨rfl, ?_⟩
            rw [bne_iff_ne]
            intro z
            exact hgood (Prod.ext (by rw [hn]; show n = bl.size; omega) q)
        rw [hn] at HBL
        clear htop hl h500 h1 h2 h3 hfew hia hgood hM hn
        rcases hq with hq | ⟨hq, hq2⟩
        all_goals
          rw [hq] at HBL
          clear hq
          go_enter Tryd.func10, Tryd.ntmps10
          go_wp2_with fail
          refine (HL.out _).mono ?_
          rintro e w1 ⟨rfl, hw1⟩
          subst w1
          go_wp2_with fail
          refine (HS.out _ HT.out.x).mono ?_
          rintro e w2 ⟨A, c, rfl, hc, ht, hb2⟩
          have HB := Lib.hid hb2
          clear hb2 ht
          go_wp2_with fail
          refine (HBL.out _).mono ?_
          rintro e w1 ⟨rfl, hw1⟩
          subst w1
          go_wp2_with fail
          refine (HK.out _ (HT.out.stay HB.out)).mono ?_
          rintro e w3 ⟨rfl, hb3⟩
          have HB3 := Lib.hid (HB.out.trans (hb3.mono HB.out.size))
          clear hb3
          go_wp2_with fail
          go_ret
          exact ⟨rfl, HB3.out⟩
end Go.Proofs.YtphhokpbkcdljaaDoor
