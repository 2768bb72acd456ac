/- The walk of the statement LexMany: it returns true. Conditions: the text is within the reach; the tables are as laid. -/
import Derived.Lib.AppendStr
import Derived.Test.YtphhokpbkcdljaaDoorLexJoinsW
import Derived.Test.YtphhokpbkcdljaaDoorRefPackAll
namespace Go.Proofs.YtphhokpbkcdljaaDoor
open Go Go.RowKit
def rep (t : List UInt8) : Nat → List UInt8
  | 0 => []
  | n + 1 => t ++ 32 :: rep t n
theorem rep_len (t : List UInt8) : ∀ n, (rep t n).length = n * (t.length + 1)
  | 0 => by simp [rep]
  | n + 1 => by rw [rep, List.length_append, List.length_cons, rep_len t n, Nat.succ_mul]; omega
theorem rep_snoc (t : List UInt8) : ∀ n, rep t (n + 1) = rep t n ++ (t ++ [32])
  | 0 => by simp [rep]
  | n + 1 => by
    show t ++ 32 :: rep t (n + 1) = (t ++ 32 :: rep t n) ++ (t ++ [32])
    rw [rep_snoc t n]
    simp
theorem word_tok {t : List UInt8} (h : wordL t = true) : ∃ x, tokL t = some x := by
  cases t with
  | nil => cases h
  | cons c r =>
    rw [wordL_hd, Bool.and_eq_true, Bool.or_eq_true] at h
    exact ⟨_, by rw [tokL_word h.1, if_pos h.2]⟩
theorem rep_scan {t : List UInt8} (h : wordL t = true) : ∀ (n a c : Nat), c ≤ 1000 →
    (c + n ≤ 1000 → ∃ out, scanT (rep t n) a c = (some (out ++ [(tEnd, a + n * (t.length + 1))]), 0, 0) ∧ out.length = n) ∧
    (1000 < c + n → scanT (rep t n) a c = (none, a + (1000 - c) * (t.length + 1), 3))
  | 0, a, c, hc => by
    refine ⟨fun _ => ⟨[], ?_, rfl⟩, fun q => by omega⟩
    show scanT [] a c = _
    rw [scan_end (by rw [blk_nil]) (by simp), blk_nil]
    simp
  | n + 1, a, c, hc => by
    obtain ⟨x, hx⟩ := word_tok h
    have hb := blk_tok hx (stp_32 (rep t n))
    have hcut : cutL (t ++ 32 :: rep t n) = some (x, t.length) := cut_app (cut_of_tok hx) (.inr (stp_32 _))
    by_cases h1000 : c = 1000
    · subst h1000
      refine ⟨fun q => by omega, fun _ => ?_⟩
      have hne : t ++ 32 :: rep t n ≠ [] := by simp
      have := scan_cut (l := t ++ 32 :: rep t n) (x := (x, t.length)) (by rw [hb]) (by rw [hb]; exact hne) (by rw [hb]; exact hcut) a 1000
      rw [show rep t (n + 1) = t ++ 32 :: rep t n from rfl, this, if_pos rfl, hb]
      simp
    · have hs := scan_step (l := t ++ 32 :: rep t n) (n := 0) (a := a) (c := c) hb (by rw [List.drop_zero]; exact hcut) h1000 rfl
      rw [Nat.zero_add, Nat.add_zero, List.drop_append_of_le_length (Nat.le_refl _), List.drop_length, List.nil_append] at hs
      have hb2 : blk (32 :: rep t n) = (1 + (blk (rep t n)).1, (blk (rep t n)).2) := by
        rw [blk_bl (l := 32 :: rep t n) (by simp) (show isBl 32 = true by decide)]
        show ((blk (rep t n)).1 + 1, (blk (rep t n)).2) = _
        rw [Nat.add_comm]
      rw [scan_blk hb2 rfl] at hs
      obtain ⟨g1, g2⟩ := rep_scan h n (a + t.length + 1) (c + 1) (by omega)
      rw [show rep t (n + 1) = t ++ 32 :: rep t n from rfl, hs]
      refine ⟨fun q => ?_, fun q => ?_⟩
      · obtain ⟨out, ho, hl⟩ := g1 (by omega)
        refine ⟨(x, a) :: out, ?_, by simp [hl]⟩
        rw [ho, show a + t.length + 1 + n * (t.length + 1) = a + (n + 1) * (t.length + 1) by rw [Nat.succ_mul]; omega]
        rfl
      · rw [g2 (by omega), show a + t.length + 1 + (1000 - (c + 1)) * (t.length + 1) = a + (1000 - c) * (t.length + 1) by
          rw [show 1000 - c = (1000 - (c + 1)) + 1 by omega, Nat.succ_mul]; omega]
        rfl
structure Wd (T : ByteArray) : Prop where
  word : wordL T.data.toList = true
  few : T.size ≤ 3
theorem own_shape1 {W : World} {B n : Nat} {e : TypeId} {v : Value} {xs : List Value} (h : W.ownsRow B e 1 v n xs) : ∃ A cap, v = .slice A n cap := by
  rcases h.2 with ⟨rfl, rfl⟩ | ⟨g, cap, cur, rfl, _⟩
  · exact ⟨none, 0, rfl⟩
  · exact ⟨_, cap, rfl⟩
theorem wd_a : Wd ⟨#[97]⟩ := ⟨by decide, by decide⟩
theorem u8s_rep (T : ByteArray) (k : Nat) : u8s (rep T.data.toList k) ++ Lib.strCells T ++ [.int .u8 32] = u8s (rep T.data.toList (k + 1)) := by
  rw [rep_snoc]
  simp [u8s, Lib.strCells]
set_option maxRecDepth 100000 in
set_option maxHeartbeats 16000000 in
theorem lexMany_walk (n0 : Int) (s : ByteArray) (hs : s.size ≤ 140737488351232) (w : World) (hT : LTab w) :
    Calls Tryd.prog 4 #[.int .i64 n0, .string s] w fun e w' => e = .returned (.bool true) ∧ Below w.heap.size w w' := by
  obtain ⟨i0, hi, hz0, hz1, hz2⟩ := info_parts infoU8
  have HT := Lib.hid hT
  have HK := Lib.hid lknown_any
  have HAM := Lib.hid (among_any n0 1100 (by decide) (by decide))
  have HWD := Lib.hid (ref_word s hs)
  clear hT
  have hq : (decide ((3 : Int) < (s.size : Int)) = true) ∨ (decide ((3 : Int) < (s.size : Int)) = false ∧ s.size ≤ 3 ∧ wordL s.data.toList = false) ∨ (decide ((3 : Int) < (s.size : Int)) = false ∧ Wd s) := by
    by_cases q : 3 < s.size
    · exact .inl (decide_eq_true (by omega))
    · cases z : wordL s.data.toList with
      | false => exact .inr (.inl ⟨decide_eq_false (by omega), by omega, rfl⟩)
      | true => exact .inr (.inr ⟨decide_eq_false (by omega), z, by omega⟩)
  rcases hq with hq | ⟨hq, _, hw⟩ | ⟨hq, hw⟩
  all_goals
    first
    | (rw [hw] at HWD; have HW := Lib.hid wd_a)
    | (rw [hw.word] at HWD; have HW := Lib.hid hw)
    | (have HW := Lib.hid wd_a)
    go_enter Tryd.func4, Tryd.ntmps4
    go_wp2_with fail
    refine (HAM.out _).mono ?_
    rintro e w3 ⟨⟨n, hn, rfl⟩, hw3⟩
    subst w3
    go_wp2_with fail
    first
    | (refine (HWD.out _).mono ?_; rintro e w4 ⟨rfl, hw4⟩; subst w4; go_wp2_with fail)
    | skip
    clear HWD HAM hq hs
    try clear hw
    first
    | (have q9 : Hid (Wd ⟨#[97]⟩) := HW; clear q9; generalize (⟨#[97]⟩ : ByteArray) = T at HW ⊢)
    | (generalize s = T at HW ⊢)
    have hT3 := HW.out.few
    obtain ⟨E, hE⟩ : ∃ E, T.size + 1 = E := ⟨_, rfl⟩
    have HE := Lib.hid hE
    have hE1 : E ≤ 4 := by omega
    have hE0 : 1 ≤ E := by omega
    clear hE
    go_loopw [5, 6] (fun v i wr => ∃ k : Nat, k ≤ n ∧ i = .int .i64 k ∧ wr.ownsRow w.heap.size 5 1 v (k * E) (u8s (rep T.data.toList k)) ∧ Below w.heap.size w wr) (fun _ i _ => n - (intOf i).toNat)
    case atStart => exact ⟨0, Nat.zero_le _, rfl, by rw [Nat.zero_mul]; exact World.ownsRow_nil _ _ _ _, Below.refl _ _⟩
    case round =>
      obtain ⟨k, hk, rfl, hrow, hb⟩ := hrel
      have HB := Lib.hid (And.intro hrow hb)
      have hsr := hb.size
      clear hrow hb
      have hke : k * E ≤ 4400 := by
        have h1 : k * E ≤ k * 4 := Nat.mul_le_mul_left k hE1
        omega
      obtain ⟨L, hL⟩ : ∃ L, k * E = L := ⟨_, rfl⟩
      rw [hL] at HB hke
      have HLL := Lib.hid hL
      clear hL
      by_cases hlt : k < n
      · go_wp2_with (first
          | (at_builtin; refine Lib.wpList_append_own_string _ rfl _ _ 30 9 rfl w.heap.size 5 i0 Tryd.underlying30 Tryd.underlying9 hi hz0 hz1 hz2 _ L _ rfl HB.out.1 T rfl (by unfold maxLen; omega) (by omega) (by omega) ?_; intro v5 w5 hown5 hgrow5 _; have HO5 := Lib.hid hown5; have HG5 := Lib.hid hgrow5; have HB5 := Lib.hid (HB.out.2.grown hgrow5 (by omega) (fun j hj => (HB.out.1.lt j hj).1)); have hs5 := HB5.out.size; clear hown5 hgrow5)
          | (at_builtin; refine wpList_append_own_at _ rfl _ _ 30 rfl w.heap.size 5 i0 (.int .u8 0) 1 1 Tryd.underlying30 hi hz0 hz1 hz2 rfl (by decide) _ (L + T.size) _ rfl (HO5.out.alloc _) ⟨w5.heap.size, 0, none⟩ 1 1 [.int .u8 32] rfl rfl (cell_one_new _ _ _) (by simp [Value.oneCell']) (by unfold maxLen; omega) (by omega) (by simp; omega) ?_; intro v7 w7 hown7 hgrow7 _ _; have HO7 := Lib.hid hown7; have HB7 := Lib.hid ((HB5.out.alloc HB5.out.size _).grown hgrow7 (by simp; omega) (fun j hj => (HO5.out.lt j hj).1)); clear hown7 hgrow7))
        go_roundw
        case rel =>
          refine ⟨k + 1, hlt, by go_num, ?_, HB7.out⟩
          have := HO7.out
          rw [u8s_rep, show L + T.size + 1 = (k + 1) * E by rw [Nat.succ_mul, HLL.out]; have := HE.out; omega] at this
          exact this
        case measure => simp [intOf]; omega
      · obtain rfl : k = n := by omega
        obtain ⟨va, vc, rfl⟩ := own_shape1 HB.out.1
        have hTl : T.data.toList.length = T.size := by simp
        have hJl : (rep T.data.toList k).length = L := by rw [rep_len, hTl, HE.out, HLL.out]
        have hct := own_text hJl HB.out.1
        have hrs := rep_scan HW.out.word k 0 0 (by omega)
        rw [hTl, HE.out, HLL.out] at hrs
        obtain ⟨J, hJ⟩ : ∃ J, rep T.data.toList k = J := ⟨_, rfl⟩
        rw [hJ] at hct hJl hrs
        obtain ⟨P, hP⟩ : ∃ P : ByteArray, (⟨J.toArray⟩ : ByteArray) = P := ⟨_, rfl⟩
        rw [hP] at hct
        have hPd : P.data.toList = J := by rw [← hP]
        have hPs : P.size = L := by rw [← hP, ← hJl]; simp [ByteArray.size]
        have hEE := HE.out
        have hLL := HLL.out
        by_cases hbig : 4096 < L
        · have hd : decide ((4096 : Int) < (L : Int)) = true := decide_eq_true (by omega)
          have HSC := Lib.hid (scan_e2 (s := P) (p := 0) (e2 := 3) (by omega) (by rw [hPd]; unfold scanTop; rw [if_pos (by omega)]))
          clear hrs hP hPd hPs hJl hJ hbig hlt hTl hEE hLL
          go_wp2_with fail
          refine (HSC.out _ (HT.out.stay HB.out.2).x).mono ?_
          rintro e w4 ⟨A4, c4, rfl, hb4⟩
          have H4 := Lib.hid (HB.out.2.trans (hb4.mono HB.out.2.size))
          clear hb4
          go_wp2_with fail
          refine (HK.out _ (HT.out.stay H4.out)).mono ?_
          rintro e w5 ⟨rfl, hb5⟩
          have H5 := Lib.hid (H4.out.trans (hb5.mono H4.out.size))
          clear hb5
          go_wp2_with fail
          go_ret
          exact ⟨rfl, H5.out⟩
        · have hd : decide ((4096 : Int) < (L : Int)) = false := decide_eq_false (by omega)
          have htop : ∀ r, scanT J 0 0 = r → scanTop P.data.toList = r := fun r q => by
            rw [hPd]; unfold scanTop; rw [if_neg (by omega)]; exact q
          by_cases hk : 1000 < k
          · have hd2 : decide ((1000 : Int) < (k : Int)) = true := decide_eq_true (by omega)
            have HSC := Lib.hid (scan_e2 (s := P) (by omega) (htop _ (hrs.2 (by omega))))
            have hpe : (((0 + (1000 - 0) * E : Nat) : Int) == 1000 * ((T.size : Int) + 1)) = true := by rw [beq_iff_eq, ← hEE]; omega
            obtain ⟨p, hp⟩ : ∃ p : Nat, 0 + (1000 - 0) * E = p := ⟨_, rfl⟩
            rw [hp] at HSC hpe
            clear hrs hP hPd hPs hJl hJ hbig hlt hTl hEE hLL htop hk hp
            go_wp2_with fail
            refine (HSC.out _ (HT.out.stay HB.out.2).x).mono ?_
            rintro e w4 ⟨A4, c4, rfl, hb4⟩
            have H4 := Lib.hid (HB.out.2.trans (hb4.mono HB.out.2.size))
            clear hb4
            go_wp2_with fail
            refine (HK.out _ (HT.out.stay H4.out)).mono ?_
            rintro e w5 ⟨rfl, hb5⟩
            have H5 := Lib.hid (H4.out.trans (hb5.mono H4.out.size))
            clear hb5
            go_wp2_with fail
            go_ret
            exact ⟨rfl, H5.out⟩
          · have hd2 : decide ((1000 : Int) < (k : Int)) = false := decide_eq_false (by omega)
            obtain ⟨out, ho, hol⟩ := hrs.1 (by omega)
            have hsy := scan_yes (s := P) (by omega) (htop _ ho)
            have hol2 : (out ++ [(tEnd, 0 + L)]).length = k + 1 := by rw [List.length_append, hol]; rfl
            rw [hol2] at hsy
            have HSC := Lib.hid hsy
            have HAT := Lib.hid (show ((out ++ [(tEnd, 0 + L)]).map tkOf)[k]? = some (tkOf (tEnd, L)) from by
              rw [List.getElem?_map, List.getElem?_append_right (by omega), hol]; simp)
            clear hrs hP hPd hPs hJl hJ hbig hlt hTl hEE hLL htop hk ho hol hol2 hsy
            go_wp2_with fail
            refine (HSC.out _ (HT.out.stay HB.out.2).x).mono ?_
            rintro e w4 ⟨A4, c4, rfl, hc4, ht4, hb4⟩
            have H4 := Lib.hid (HB.out.2.trans (hb4.mono HB.out.2.size))
            obtain ⟨g, off, rfl, hg, _, _, _, f3⟩ := ht4.cell k _ HAT.out
            simp only [tkOf] at f3
            clear hb4 ht4
            go_wp2_with fail
            refine (HK.out _ (HT.out.stay H4.out)).mono ?_
            rintro e w5 ⟨rfl, hb5⟩
            have H5 := Lib.hid (H4.out.trans (hb5.mono H4.out.size))
            clear hb5
            go_wp2_with fail
            go_ret
            exact ⟨rfl, H5.out⟩
end Go.Proofs.YtphhokpbkcdljaaDoor
