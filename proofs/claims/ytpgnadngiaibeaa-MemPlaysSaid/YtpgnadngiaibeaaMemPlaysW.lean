/- The walk of the statement MemPlays. Condition: the calls read as operations. -/
import Derived.Test.YtpgnadngiaibeaaMemPlaysM
namespace Go.Proofs.Ytpgnadngiaibeaa
open Go Go.RowKit
/-- a slice of operations as it came in -/
def OpsV (w : World) (v : Value) : Prop := ∃ (a : Option Addr) (K cap : Nat), v = .slice a K cap ∧ K ≤ cap ∧ cap ≤ 9223372036854775807 ∧ ∀ j, j < K → ∃ (g off : Nat) (k A B C X : Int), a = some ⟨g, off, none⟩ ∧ g < w.heap.size ∧ A ≤ 9223372036854775807 ∧ 0 ≤ X ∧ X < 18446744073709551616 ∧
  w.cell? ⟨g, off + j * 5, none⟩ = some (.int .i64 k) ∧ w.cell? ⟨g, off + j * 5 + 1, none⟩ = some (.int .i64 A) ∧ w.cell? ⟨g, off + j * 5 + 2, none⟩ = some (.int .i64 B) ∧ w.cell? ⟨g, off + j * 5 + 3, none⟩ = some (.int .i64 C) ∧ w.cell? ⟨g, off + j * 5 + 4, none⟩ = some (.int .u64 X)
set_option maxRecDepth 100000 in
set_option maxHeartbeats 8000000 in
theorem memPlays_walk (W : Int) {v : Value} (w : World) (hv : OpsV w v) : Calls Try.prog 5 #[.int .i64 W, v] w fun e w' => e = .returned (.bool true) ∧ Below w.heap.size w w' := by
  obtain ⟨a, K, cap, rfl, hk1, hk2, hcells⟩ := hv
  have HC := Lib.hid hcells
  clear hcells
  by_cases hb : W < 64 ∨ 65536 < W
  · go_enter Try.func5, Try.ntmps5
    go_wp2_with fail
    refine (new_bad W hb _).mono ?_
    rintro e w1 ⟨rfl, hw1⟩
    subst w1
    go_wp2_with fail
    refine (rnew_bad W hb _).mono ?_
    rintro e w2 ⟨rfl, hb2⟩
    have HB := Lib.hid hb2
    clear hb2 hb
    go_wp2_with fail
    refine (known_any _).mono ?_
    rintro e w3 ⟨rfl, hb3⟩
    have HB3 := Lib.hid ((HB.out.alloc HB.out.size _).trans (hb3.mono (HB.out.alloc HB.out.size _).size))
    clear hb3
    go_wp2_with fail
    go_ret
    exact ⟨rfl, HB3.out⟩
  · obtain ⟨W, rfl⟩ := Int.eq_ofNat_of_zero_le (show 0 ≤ W by omega)
    have h0 : 64 ≤ W := by omega
    have h1 : W ≤ 65536 := by omega
    clear hb
    have HN := Lib.hid (new_raw W h0 h1)
    have HR := Lib.hid (rnew_ok W h0 h1)
    have HZ := Lib.hid (wf_new h0 h1)
    clear h0 h1
    go_enter Try.func5, Try.ntmps5
    go_wp2_with fail
    refine (HN.out _).mono ?_
    rintro e w1 ⟨rfl, hw1⟩
    have m1 : Mem w1 w.heap.size W 0 (fun _ => .slice none 0 0) [] [] := by rw [hw1]; exact new_mem W w
    have f1 : Below w.heap.size w w1 := by rw [hw1]; exact (Below.refl _ _).alloc (Nat.le_refl _) _
    have HM1 := Lib.hid m1
    have HF1 := Lib.hid f1
    clear hw1 m1 f1
    go_wp2_with fail
    refine (HR.out _).mono ?_
    rintro e w2 ⟨rfl, hb2⟩
    have HB2 := Lib.hid hb2
    clear hb2
    go_wp2_with fail
    obtain ⟨w3, hw3⟩ : ∃ w3, w2.alloc (.cells #[.int .i64 (W : Int), .int .i64 0, .slice none 0 0, .slice none 0 0] 36) = w3 := ⟨_, rfl⟩
    have hg3 := heap_alloc_new w2 (.cells #[.int .i64 (W : Int), .int .i64 0, .slice none 0 0, .slice none 0 0] 36)
    have hb3 : Below w1.heap.size w1 w3 := by rw [← hw3]; exact HB2.out.alloc HB2.out.size _
    have ht : Twin w3 w.heap.size w2.heap.size W 0 (fun _ => .slice none 0 0) [] [] (.slice none 0 0) [] (.slice none 0 0) [] := by
      have hm := HM1.out.kept (Fr.of_below (O := fun _ => False) hb3) (fun _ _ => id)
      have hlt := HM1.out.lt
      have hs2 := HB2.out.size
      rw [hw3] at hg3
      refine ⟨hm, HZ.out, ⟨hg3, RL.nil _, RL.nil _, ownL_nil _, ownL_nil _, fun i hi => (ownL_nil i hi).elim⟩, rfl, rfl, fun i hi hr => ?_⟩
      rcases hr with q | q | q
      · rcases hi with e | ⟨r, _, hg⟩
        · omega
        · cases hg
      · exact ownL_nil i q
      · exact ownL_nil i q
    have HT := Lib.hid ht
    have HB3 := Lib.hid hb3
    clear hg3 ht hb3
    rw [hw3]
    clear hw3
    refine (copy_any HT.out.m HT.out.z.sizes).mono ?_
    rintro e w4 ⟨rfl, V, hm4, ho4, hb4⟩
    have HM4 := Lib.hid hm4
    have HO4 := Lib.hid ho4
    have HB4 := Lib.hid hb4
    have HR4 := Lib.hid (HT.out.below hb4).r
    clear hm4 ho4 hb4
    go_wp2_with fail
    refine (rcopy_any HR4.out HT.out.rz).mono ?_
    rintro e w5 ⟨u1, u2, Q1, Q2, rfl, l1, l2, f1, f2, s1, s2, sd, hb5⟩
    obtain ⟨a1, c1, rfl, _, _⟩ := own_shape5 l1.row
    obtain ⟨a2, c2, rfl, _, _⟩ := own_shape5 l2.row
    have hp : ∃ O1 O2, PL w (w5.alloc (.cells #[.int .i64 (W : Int), .int .i64 0, .slice a1 Q1.length c1, .slice a2 Q2.length c2] 36)) w.heap.size w2.heap.size w3.heap.size w5.heap.size W O1 O2 := by
      have hs1 := HF1.out.size
      have hs2 := HB2.out.size
      have hs3 := HB3.out.size
      have hs4 := HB4.out.size
      have hs5 := hb5.size
      have hl := HT.out.own_lt
      have hlt := HM1.out.lt
      refine ⟨_, pl_copy (O1 := OwnT w.heap.size w2.heap.size (fun _ => .slice none 0 0) (.slice none 0 0) [] (.slice none 0 0) []) ⟨_, _, _, _, _, _, _, _, HT.out, fun _ => id⟩ (fun i hi => ⟨?_, hl i hi⟩) (HF1.out.trans (HB3.out.mono hs1)) HZ.out HM4.out HO4.out HB4.out rfl rfl l1 l2 f1 f2 s1 s2 sd hb5 ((Fr.refl _ w5).alloc _) (heap_alloc_new w5 _) (.inr (Nat.le_refl _)) (by omega) (fun q => by have := hl _ q; omega)⟩
      rcases hi with q | q | q | q
      · exact own_nil (Nat.le_refl _) i q
      · omega
      · exact (ownL_nil i q).elim
      · exact (ownL_nil i q).elim
    obtain ⟨O1, O2, hp⟩ := hp
    have HP := Lib.hid hp
    clear hp l1 l2 f1 f2 s1 s2 sd hb5
    obtain ⟨bm, hbm⟩ : ∃ bm, w.heap.size = bm := ⟨_, rfl⟩
    obtain ⟨rb, hrb⟩ : ∃ rb, w2.heap.size = rb := ⟨_, rfl⟩
    obtain ⟨bc, hbc⟩ : ∃ bc, w3.heap.size = bc := ⟨_, rfl⟩
    go_wp2_with fail
    obtain ⟨w6, hw6⟩ : ∃ w6, w5.alloc (.cells #[.int .i64 (W : Int), .int .i64 0, .slice a1 Q1.length c1, .slice a2 Q2.length c2] 36) = w6 := ⟨_, rfl⟩
    obtain ⟨db, hdb⟩ : ∃ db, w5.heap.size = db := ⟨_, rfl⟩
    rw [hw6, hdb, hbm, hrb, hbc] at HP
    clear HM4 HO4 HR4 HT
    try rw [hw6]
    try rw [hdb]
    try rw [hbm]
    try rw [hrb]
    try rw [hbc]
    clear hw6 hdb hbm hrb hbc HB4 HB3
    go_loopw [5, 9, 11] (fun m c i wr => ∃ (j bm bc : Nat) (O1 O2 : Nat → Prop), j ≤ K ∧ i = .int .i64 j ∧ m = .pointer (some ⟨bm, 0, none⟩) ∧ c = .pointer (some ⟨bc, 0, none⟩) ∧ PL w wr bm rb bc db W O1 O2) (fun _ _ i _ => K - (intOf i).toNat)
    case atStart => exact ⟨0, bm, bc, _, _, Nat.zero_le _, rfl, rfl, rfl, HP.out⟩
    case round =>
      obtain ⟨j, bm, bc, O1, O2, hj, rfl, rfl, rfl, hp⟩ := hrel
      by_cases hlt : j < K
      · by_cases h200 : j < 200
        · obtain ⟨g, off, k, A, B, C, X, ha, hg, hA, hX0, hX1, d0, d1, d2, d3, d4⟩ := HC.out j hlt
          subst ha
          rw [← hp.fr.cell (p := ⟨g, off + j * 5, none⟩) hg] at d0
          rw [← hp.fr.cell (p := ⟨g, off + j * 5 + 1, none⟩) hg] at d1
          rw [← hp.fr.cell (p := ⟨g, off + j * 5 + 2, none⟩) hg] at d2
          rw [← hp.fr.cell (p := ⟨g, off + j * 5 + 3, none⟩) hg] at d3
          rw [← hp.fr.cell (p := ⟨g, off + j * 5 + 4, none⟩) hg] at d4
          have HP := Lib.hid hp
          by_cases h7 : k = 7
          · subst h7
            obtain ⟨h, R, now, old, v1, P1, v2, P2, t, gt⟩ := hp.t1
            obtain ⟨h', R', now', old', v1', P1', v2', P2', t', gt'⟩ := hp.t2
            have hO2 : O2 db := gt' db (.inr (.inl rfl))
            have hblk0 := t'.r.blk
            have HT := Lib.hid t
            have HO2 := Lib.hid hO2
            have HBK := Lib.hid hblk0
            clear hp t t' gt gt' hO2 hblk0
            go_wp2_with fail
            obtain ⟨wa, hwa⟩ : ∃ wa, wr.alloc (.cells #[.int .i64 7, .int .i64 A, .int .i64 B, .int .i64 C, .int .u64 X] 42) = wa := ⟨_, rfl⟩
            have hba : Below wr.heap.size wr wa := by rw [← hwa]; exact alloc_below wr _
            have HBA := Lib.hid hba
            have hta := HT.out.below hba
            have HTA := Lib.hid hta
            rw [hwa]
            clear hwa hba hta
            refine (copy_any HTA.out.m HTA.out.z.sizes).mono ?_
            rintro e wb ⟨rfl, V, hm4, ho4, hb4⟩
            have HM4 := Lib.hid hm4
            have HO4 := Lib.hid ho4
            have HB4 := Lib.hid hb4
            have HR4 := Lib.hid (HTA.out.below hb4).r
            clear hm4 ho4 hb4
            go_wp2_with fail
            refine (rcopy_any HR4.out HTA.out.rz).mono ?_
            rintro e wc ⟨u1, u2, Q1, Q2, rfl, l1, l2, f1, f2, s1, s2, sd, hb5⟩
            obtain ⟨b1, e1, rfl, _, _⟩ := own_shape5 l1.row
            obtain ⟨b2, e2, rfl, _, _⟩ := own_shape5 l2.row
            have hsa := HBA.out.size
            have hsb := HB4.out.size
            have hdl := (HP.out.g2 db HO2.out).2
            have hbk : wc.heap[db]? = some (.cells #[.int .i64 W, .int .i64 h', v1', v2'] 36 (0, 0)) := (hb5.block db (by omega)).trans ((HB4.out.block db (by omega)).trans ((HBA.out.block db hdl).trans HBK.out))
            have hpn : ∃ O2', PL w ((((wc.setCell ⟨db, 0, none⟩ (.int .i64 W)).setCell ⟨db, 1, none⟩ (.int .i64 h)).setCell ⟨db, 2, none⟩ (.slice b1 Q1.length e1)).setCell ⟨db, 3, none⟩ (.slice b2 Q2.length e2)) bm rb wa.heap.size db W O1 O2' :=
              pl_copy (HP.out.t1.below HBA.out) (fun i hi => ⟨(HP.out.g1 i hi).1, Nat.lt_of_lt_of_le (HP.out.g1 i hi).2 hsa⟩) (HP.out.fr.trans (HBA.out.mono HP.out.fr.size)) HTA.out.z HM4.out HO4.out HB4.out HTA.out.e1 HTA.out.e2 l1 l2 f1 f2 s1 s2 sd hb5 (fr_four _ _ _ _) (four_set hbk rfl _ _ _ _) (.inl (by omega)) (HP.out.g2 db HO2.out).1 (fun q => HP.out.ap db q HO2.out)
            obtain ⟨O2', hpn⟩ := hpn
            have HPN := Lib.hid hpn
            have x0 := blk_cell hbk 0
            have x1 := blk_cell hbk 1
            have x2 := blk_cell hbk 2
            have x3 := blk_cell hbk 3
            have y0 := blk_free hbk 0
            have y1 := blk_free hbk 1
            have y2 := blk_free hbk 2
            have y3 := blk_free hbk 3
            clear hpn hbk l1 l2 f1 f2 s1 s2 sd hb5 hsa hsb hdl
            go_wp2_with fail
            refine HPN.out.same.mono ?_
            rintro e w9 ⟨rfl, hp9⟩
            have HP9 := Lib.hid hp9
            clear hp9
            go_wp2_with fail
            go_roundw
            case rel => exact ⟨j + 1, _, _, _, _, hlt, by go_num, rfl, rfl, HP9.out⟩
            case measure => simp [intOf]; omega
          · by_cases h8 : k = 8
            · subst h8
              obtain ⟨h, R, now, old, v1, P1, v2, P2, t, gt⟩ := hp.t1
              obtain ⟨h', R', now', old', v1', P1', v2', P2', t', gt'⟩ := hp.t2
              obtain ⟨p1, n1, rfl, _, _⟩ := own_shape5 t.r.l1.row
              obtain ⟨p2, n2, rfl, _, _⟩ := own_shape5 t.r.l2.row
              obtain ⟨p3, n3, rfl, _, _⟩ := own_shape5 t'.r.l1.row
              obtain ⟨p4, n4, rfl, _, _⟩ := own_shape5 t'.r.l2.row
              have hne : rb ≠ db := fun e => hp.ap rb (gt rb (.inr (.inl rfl))) (by rw [e]; exact gt' db (.inr (.inl rfl)))
              have hbk := t.r.blk
              have hbk' := t'.r.blk
              have hpn : ∃ O1' O2', PL w (((((((((wr.setCell ⟨rb, 0, none⟩ (.int .i64 W)).setCell ⟨rb, 1, none⟩ (.int .i64 h')).setCell ⟨rb, 2, none⟩ (.slice p3 P1'.length n3)).setCell ⟨rb, 3, none⟩ (.slice p4 P2'.length n4)).setCell ⟨db, 0, none⟩ (.int .i64 W)).setCell ⟨db, 1, none⟩ (.int .i64 h)).setCell ⟨db, 2, none⟩ (.slice p1 P1.length n1)).setCell ⟨db, 3, none⟩ (.slice p2 P2.length n2)).alloc (.cells #[.int .i64 8, .int .i64 A, .int .i64 B, .int .i64 C, .int .u64 X] 42)) bc rb bm db W O1' O2' := by
                have q1 := four_set hbk rfl (.int .i64 W) (.int .i64 h') (.slice p3 P1'.length n3) (.slice p4 P2'.length n4)
                have q2 := ((fr_four (W1 := wr) (c := rb) (.int .i64 W) (.int .i64 h') (.slice p3 P1'.length n3) (.slice p4 P2'.length n4)).block db (Array.getElem?_eq_some_iff.1 hbk').1 (fun e => hne e.symm)).trans hbk'
                have q3 := four_set q2 rfl (.int .i64 W) (.int .i64 h) (.slice p1 P1.length n1) (.slice p2 P2.length n2)
                obtain ⟨O1', O2', q⟩ := pl_swap t t' gt gt' hp.ap hp.g1 hp.g2 hp.fr (((fr_four _ _ _ _).mono (fun i e => .inl (.inl e))).trans (fr_four _ _ _ _) (fun i e => .inl (.inr e))) (((fr_four _ _ _ _).block rb (Array.getElem?_eq_some_iff.1 q1).1 hne).trans q1) q3
                exact ⟨O1', O2', q.below (alloc_below _ _)⟩
              obtain ⟨O1', O2', hpn⟩ := hpn
              have HPN := Lib.hid hpn
              have hl1 := (Array.getElem?_eq_some_iff.1 t.r.blk).1
              have hl2 := (Array.getElem?_eq_some_iff.1 t'.r.blk).1
              have x0 := blk_cell t.r.blk 0
              have x1 := blk_cell t.r.blk 1
              have x2 := blk_cell t.r.blk 2
              have x3 := blk_cell t.r.blk 3
              have y0 := blk_free t.r.blk 0
              have y1 := blk_free t.r.blk 1
              have y2 := blk_free t.r.blk 2
              have y3 := blk_free t.r.blk 3
              have x4 := blk_cell t'.r.blk 0
              have x5 := blk_cell t'.r.blk 1
              have x6 := blk_cell t'.r.blk 2
              have x7 := blk_cell t'.r.blk 3
              have y4 := blk_free t'.r.blk 0
              have y5 := blk_free t'.r.blk 1
              have y6 := blk_free t'.r.blk 2
              have y7 := blk_free t'.r.blk 3
              have hne' : db ≠ rb := fun e => hne e.symm
              clear hpn hbk hbk' t t' gt gt' hp
              go_wp2_with fail
              refine HPN.out.same.mono ?_
              rintro e w9 ⟨rfl, hp9⟩
              have HP9 := Lib.hid hp9
              clear hp9
              go_wp2_with fail
              go_roundw
              case rel => exact ⟨j + 1, _, _, _, _, hlt, by go_num, rfl, rfl, HP9.out⟩
              case measure => simp [intOf]; omega
            · have q7 : (k == 7) = false := by simpa using h7
              have q8 : (k == 8) = false := by simpa using h8
              clear h7 h8 hp
              go_wp2_with fail
              refine ((HP.out.below (alloc_below wr _)).asked k A B C X hA hX0 hX1).mono ?_
              rintro e w8 ⟨rfl, O1', hpn⟩
              have HPN := Lib.hid hpn
              clear hpn
              go_wp2_with fail
              refine HPN.out.same.mono ?_
              rintro e w9 ⟨rfl, hp9⟩
              have HP9 := Lib.hid hp9
              clear hp9
              go_wp2_with fail
              go_roundw
              case rel => exact ⟨j + 1, _, _, _, _, hlt, by go_num, rfl, rfl, HP9.out⟩
              case measure => simp [intOf]; omega
        · have HP := Lib.hid hp
          clear hp
          go_wp2_with fail
          refine HP.out.whole1.mono ?_
          rintro e w7 ⟨rfl, hp7⟩
          have HP7 := Lib.hid hp7
          clear hp7
          go_wp2_with fail
          refine HP7.out.whole2.mono ?_
          rintro e w8 ⟨rfl, hp8⟩
          have HP8 := Lib.hid hp8
          clear hp8
          go_wp2_with fail
          refine (known_any _).mono ?_
          rintro e w9 ⟨rfl, hb9⟩
          have HB9 := Lib.hid (HP8.out.fr.trans (hb9.mono HP8.out.fr.size))
          clear hb9
          go_wp2_with fail
          go_ret
          exact ⟨rfl, HB9.out⟩
      · have HP := Lib.hid hp
        clear hp
        go_wp2_with fail
        refine HP.out.whole1.mono ?_
        rintro e w7 ⟨rfl, hp7⟩
        have HP7 := Lib.hid hp7
        clear hp7
        go_wp2_with fail
        refine HP7.out.whole2.mono ?_
        rintro e w8 ⟨rfl, hp8⟩
        have HP8 := Lib.hid hp8
        clear hp8
        go_wp2_with fail
        refine (known_any _).mono ?_
        rintro e w9 ⟨rfl, hb9⟩
        have HB9 := Lib.hid (HP8.out.fr.trans (hb9.mono HP8.out.fr.size))
        clear hb9
        go_wp2_with fail
        go_ret
        exact ⟨rfl, HB9.out⟩
end Go.Proofs.Ytpgnadngiaibeaa
