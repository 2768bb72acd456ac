/- The walk of the statement LexJoins: it returns true. Conditions: the texts are within the reach; the tables are as laid. -/
import Derived.Test.YtphhokpbkcdljaaDoorLexAloneW
namespace Go.Proofs.YtphhokpbkcdljaaDoor
open Go Go.RowKit
def shT (d : Nat) (t : TkB) : TkB := ⟨t.k, t.s, t.n, t.a + d⟩
theorem sh_map (d : Nat) (ts : List (Tok × Nat)) : (ts.map (fun x => (x.1, d + x.2))).map tkOf = (ts.map tkOf).map (shT d) := by
  rw [List.map_map, List.map_map]
  apply List.map_congr_left
  intro x _
  simp only [Function.comp, tkOf, shT]
  congr 1
  omega
theorem shT_ok {d : Nat} {t : TkB} (h : t.Ok) : (shT d t).Ok := ⟨h.lo, h.hi⟩
theorem take_snocT {ts : List TkB} {k : Nat} {t : TkB} (h : ts[k]? = some t) : ts.take (k + 1) = ts.take k ++ [t] := by
  obtain ⟨hk, e⟩ := List.getElem?_eq_some_iff.1 h
  rw [List.take_succ_eq_append_getElem hk, e]
/-- what Scan hands back, as a row of its own -/
theorem scan_own {s : ByteArray} {ts : List (Tok × Nat)} (hs : s.size ≤ 140737488351232) (hr : scanTop s.data.toList = (some ts, 0, 0)) (w : World) (hT : LxT w) :
    Calls Tryd.prog 13 #[.string s] w fun e w' => ∃ A cap, e = .returned (.tuple #[.slice A (ts.map tkOf).length cap, .int .i64 0, .int .i64 0]) ∧ w'.ownsRow w.heap.size 32 4 (.slice A (ts.map tkOf).length cap) (ts.map tkOf).length (cellsB (ts.map tkOf)) ∧ Below w.heap.size w w' := by
  refine (scan_any s hs w hT).mono fun e w' q => ?_
  rw [hr] at q
  obtain ⟨⟨v, he, hv⟩, hb⟩ := q
  rcases hv with ⟨h1, _⟩ | ⟨ts', h1, h2⟩
  · cases h1
  · injection h1 with h1
    rw [← h1] at h2
    have hl : (ts.map tkOf).length = ts.length := List.length_map _
    rw [← cellsB_T, ← hl] at h2
    obtain ⟨A, cap, rfl⟩ := own_shape4L h2
    exact ⟨A, cap, he, h2, hb⟩
theorem own_other {w w' : World} {B B' n m : Nat} {T : TypeId} {v v' : Value} {xs ys : List Value} (h : w.ownsRow B T 4 v n xs) (_ : w.ownsRow B' T 4 v' m ys) (hg : w.grownBy w' v'.ownBlock) (hne : ∀ g g', v.ownBlock = some g → v'.ownBlock = some g' → g ≠ g') : w'.ownsRow B T 4 v n xs := by
  refine h.kept hg ?_
  cases hv : v.ownBlock with
  | none => exact .inl rfl
  | some g =>
    refine .inr fun q => ?_
    exact hne g g hv q.symm rfl
theorem scan_gen (s : ByteArray) (hs : s.size ≤ 140737488351232) (w : World) (hT : LxT w) :
    Calls Tryd.prog 13 #[.string s] w fun e w' => ∃ A n cap, ∃ p e2 : Int, e = .returned (.tuple #[.slice A n cap, .int .i64 p, .int .i64 e2]) ∧ Below w.heap.size w w' := by
  refine (scan_tks s hs w hT).mono fun e w' h => ?_
  obtain ⟨⟨A, cap, he, _, _⟩, hb⟩ := h
  exact ⟨A, _, cap, _, _, he, hb⟩
theorem scan_e2 {s : ByteArray} (hs : s.size ≤ 140737488351232) {p : Nat} {e2 : Nat} (hr : scanTop s.data.toList = (none, p, e2)) (w : World) (hT : LxT w) :
    Calls Tryd.prog 13 #[.string s] w fun e w' => ∃ A cap, e = .returned (.tuple #[.slice A 0 cap, .int .i64 (p : Int), .int .i64 (e2 : Int)]) ∧ Below w.heap.size w w' := by
  refine (scan_tks s hs w hT).mono fun e w' h => ?_
  rw [hr] at h
  obtain ⟨⟨A, cap, he, _, _⟩, hb⟩ := h
  exact ⟨A, cap, he, hb⟩
theorem cat3 (a b : ByteArray) : ((a ++ (⟨#[10]⟩ : ByteArray)) ++ b).data.toList = a.data.toList ++ 10 :: b.data.toList := by
  rw [ByteArray.data_append, ByteArray.data_append]; simp
set_option maxRecDepth 100000 in
set_option maxHeartbeats 16000000 in
theorem lexJoins_walk (a b : ByteArray) (ha : a.size ≤ 140737488351232) (hb : b.size ≤ 140737488351232) (w : World) (hT : LTab w) :
    Calls Tryd.prog 9 #[.string a, .string b] w fun e w' => e = .returned (.bool true) ∧ Below w.heap.size w w' := by
  obtain ⟨i0, hi, hz0, hz1, hz2⟩ := info_parts infoTok
  have HT := Lib.hid hT
  have HK := Lib.hid lknown_any
  clear hT
  by_cases hbig : 2000 < a.size ∨ 2000 < b.size
  · have hq : (decide ((2000 : Int) < (a.size : Int)) = true) ∨ (decide ((2000 : Int) < (a.size : Int)) = false ∧ decide ((2000 : Int) < (b.size : Int)) = true) := by
      by_cases q : 2000 < a.size
      · exact .inl (decide_eq_true (by omega))
      · exact .inr ⟨decide_eq_false (by omega), decide_eq_true (by omega)⟩
    clear hbig
    rcases hq with hq | ⟨hq, hq2⟩
    all_goals
      go_enter Tryd.func9, Tryd.ntmps9
      go_wp2_with fail
      refine (HK.out _ HT.out).mono ?_
      rintro e w2 ⟨rfl, hb2⟩
      have HB := Lib.hid hb2
      clear hb2
      go_wp2_with fail
      go_ret
      exact ⟨rfl, HB.out⟩
  have hd1 : decide ((2000 : Int) < (a.size : Int)) = false := decide_eq_false (by omega)
  have hd2 : decide ((2000 : Int) < (b.size : Int)) = false := decide_eq_false (by omega)
  have ha2 : a.size ≤ 2000 := by omega
  have hb2 : b.size ≤ 2000 := by omega
  have h10 : (⟨#[10]⟩ : ByteArray).size = 1 := rfl
  have hPs : ((a ++ (⟨#[10]⟩ : ByteArray)) ++ b).size = a.size + 1 + b.size := by rw [ByteArray.size_append, ByteArray.size_append, h10]
  have hs1 : a.size + (⟨#[10]⟩ : ByteArray).size ≤ 140737488355328 := by omega
  have hs2 : (a ++ (⟨#[10]⟩ : ByteArray)).size + b.size ≤ 140737488355328 := by rw [ByteArray.size_append, h10]; omega
  clear hbig
  have HG := Lib.hid (scan_gen ((a ++ (⟨#[10]⟩ : ByteArray)) ++ b) (by omega))
  cases hra : (scanTop a.data.toList).1 with
  | none =>
    have HA := Lib.hid (scan_noT ha hra)
    have HBB := Lib.hid (scan_gen b hb)
    clear hra
    go_enter Tryd.func9, Tryd.ntmps9
    go_wp2_with fail
    refine (HA.out _ HT.out.x).mono ?_
    rintro e w1 ⟨A1, c1, p1, e1, rfl, he1, hb1⟩
    have H1 := Lib.hid hb1
    clear hb1
    have he : (e1 != 0) = true := by rcases he1 with rfl | rfl <;> rfl
    have he' : (e1 == 0) = false := by rcases he1 with rfl | rfl <;> rfl
    go_wp2_with fail
    refine (HBB.out _ (HT.out.stay H1.out).x).mono ?_
    rintro e w2 ⟨A2, n2, c2, p2, e2, rfl, hb2'⟩
    have H2 := Lib.hid (H1.out.trans (hb2'.mono H1.out.size))
    clear hb2'
    go_wp2_with fail
    refine (HG.out _ (HT.out.stay H2.out).x).mono ?_
    rintro e w3 ⟨A3, n3, c3, p3, e3, rfl, hb3⟩
    have H3 := Lib.hid (H2.out.trans (hb3.mono H2.out.size))
    clear hb3
    go_wp2_with fail
    refine (HK.out _ (HT.out.stay H3.out)).mono ?_
    rintro e w4 ⟨rfl, hb4⟩
    have H4 := Lib.hid (H3.out.trans (hb4.mono H3.out.size))
    clear hb4
    go_wp2_with fail
    go_ret
    exact ⟨rfl, H4.out⟩
  | some ta =>
    obtain ⟨hta, hta2, hta3⟩ := top_some hra
    have HA := Lib.hid (scan_own ha hta)
    cases hrb : (scanTop b.data.toList).1 with
    | none =>
      have HBB := Lib.hid (scan_noT hb hrb)
      obtain ⟨NA, hNA⟩ : ∃ n, (ta.map tkOf).length = n := ⟨_, rfl⟩
      rw [hNA] at HA
      clear hra hrb hta hta2 hta3 hNA
      go_enter Tryd.func9, Tryd.ntmps9
      go_wp2_with fail
      refine (HA.out _ HT.out.x).mono ?_
      rintro e w1 ⟨A1, c1, rfl, _, hb1⟩
      have H1 := Lib.hid hb1
      clear hb1
      go_wp2_with fail
      refine (HBB.out _ (HT.out.stay H1.out).x).mono ?_
      rintro e w2 ⟨A2, c2, p2, e2, rfl, he2, hb2'⟩
      have H2 := Lib.hid (H1.out.trans (hb2'.mono H1.out.size))
      clear hb2'
      have he : (e2 != 0) = true := by rcases he2 with rfl | rfl <;> rfl
      go_wp2_with fail
      refine (HG.out _ (HT.out.stay H2.out).x).mono ?_
      rintro e w3 ⟨A3, n3, c3, p3, e3, rfl, hb3⟩
      have H3 := Lib.hid (H2.out.trans (hb3.mono H2.out.size))
      clear hb3
      go_wp2_with fail
      refine (HK.out _ (HT.out.stay H3.out)).mono ?_
      rintro e w4 ⟨rfl, hb4⟩
      have H4 := Lib.hid (H3.out.trans (hb4.mono H3.out.size))
      clear hb4
      go_wp2_with fail
      go_ret
      exact ⟨rfl, H4.out⟩
    | some tb =>
      obtain ⟨htb, htb2, htb3⟩ := top_some hrb
      have HBB := Lib.hid (scan_own hb htb)
      obtain ⟨j1, j2⟩ := joins_scan hta2 htb2
      have hfa := scan_few hta2
      have hfb := scan_few htb2
      have hal : a.data.toList.length = a.size := by simp
      obtain ⟨ia, hia⟩ := scan_last _ _ 0 0 ta (Nat.le_refl _) hta2
      obtain ⟨ib, hib⟩ := scan_last _ _ 0 0 tb (Nat.le_refl _) htb2
      obtain ⟨M, hM⟩ : ∃ M, ta.length = M + 1 := ⟨ia.length, by rw [hia]; simp⟩
      obtain ⟨K, hK⟩ : ∃ K, tb.length = K + 1 := ⟨ib.length, by rw [hib]; simp⟩
      rw [List.length_map, hM] at HA
      rw [List.length_map, hK] at HBB
      rw [hM, hK, hal] at j1
      rw [hM, hK] at j2
      have htop : ∀ r, scanT (a.data.toList ++ 10 :: b.data.toList) 0 0 = r → scanTop ((a ++ (⟨#[10]⟩ : ByteArray)) ++ b).data.toList = r := fun r q => by
        rw [cat3]
        unfold scanTop
        rw [if_neg (by simp; omega)]
        exact q
      have hm0 : ((M : Int) + 1 == 0) = false := by rw [beq_eq_false_iff_ne]; omega
      have hk0 : ((K : Int) + 1 == 0) = false := by rw [beq_eq_false_iff_ne]; omega
      by_cases hlong : 1002 < M + 1 + (K + 1)
      · obtain ⟨p, hp⟩ := j2 hlong
        have HKK := Lib.hid (scan_e2 (by omega) (htop _ hp))
        have hdl : decide ((1000 : Int) < (M : Int) + 1 + ((K : Int) + 1) - 2) = true := decide_eq_true (by omega)
        have hM1 : M ≤ 1000 := by omega
        have hK1 : K ≤ 1000 := by omega
        clear j1 j2 htop hp hlong hia hib hM hK hta hta2 hta3 htb htb2 htb3 hra hrb hfa hfb
        go_enter Tryd.func9, Tryd.ntmps9
        go_wp2_with fail
        refine (HA.out _ HT.out.x).mono ?_
        rintro e w1 ⟨A1, c1, rfl, _, hb1⟩
        have H1 := Lib.hid hb1
        clear hb1
        go_wp2_with fail
        refine (HBB.out _ (HT.out.stay H1.out).x).mono ?_
        rintro e w2 ⟨A2, c2, rfl, _, hb2'⟩
        have H2 := Lib.hid (H1.out.trans (hb2'.mono H1.out.size))
        clear hb2'
        go_wp2_with fail
        refine (HKK.out _ (HT.out.stay H2.out).x).mono ?_
        rintro e w3 ⟨A3, c3, rfl, hb3⟩
        have H3 := Lib.hid (H2.out.trans (hb3.mono H2.out.size))
        clear hb3
        go_wp2_with fail
        refine (HK.out _ (HT.out.stay H3.out)).mono ?_
        rintro e w4 ⟨rfl, hb4⟩
        have H4 := Lib.hid (H3.out.trans (hb4.mono H3.out.size))
        clear hb4
        go_wp2_with fail
        go_ret
        exact ⟨rfl, H4.out⟩
      · have hkt := htop _ (j1 (by omega))
        rw [Nat.add_sub_cancel] at hkt
        have HKK := Lib.hid (scan_own (by omega) hkt)
        have hdl : decide ((1000 : Int) < (M : Int) + 1 + ((K : Int) + 1) - 2) = false := decide_eq_false (by omega)
        have hpos : ∀ i t p, tb[i]? = some (t, p) → p ≤ 2000 := fun i t p q => by
          have := (scan_split _ _ 0 0 tb i t p (Nat.le_refl _) htb2 q).2.1
          simp at this; omega
        have hnA := (top_len hra).2.1
        have hnB := (top_len hrb).2.1
        obtain ⟨X, hX⟩ : ∃ X, ta.map tkOf = X := ⟨_, rfl⟩
        obtain ⟨Y, hY⟩ : ∃ Y, tb.map tkOf = Y := ⟨_, rfl⟩
        have hXok : ∀ t ∈ X, t.Ok := fun t q => by
          rw [← hX] at q
          obtain ⟨x, hx, rfl⟩ := List.mem_map.1 q
          exact tkOf_ok (hnA x hx)
        have hYok : ∀ t ∈ Y, t.Ok := fun t q => by
          rw [← hY] at q
          obtain ⟨x, hx, rfl⟩ := List.mem_map.1 q
          exact tkOf_ok (hnB x hx)
        have hXl : X.length = M + 1 := by rw [← hX, List.length_map, hM]
        have hYl : Y.length = K + 1 := by rw [← hY, List.length_map, hK]
        have hYp : ∀ (i : Nat) (t : TkB), Y[i]? = some t → 0 ≤ t.a ∧ t.a ≤ 2000 := fun i t q => by
          rw [← hY, List.getElem?_map] at q
          obtain ⟨x, hx, rfl⟩ := Option.map_eq_some_iff.1 q
          have := hpos i x.1 x.2 hx
          exact ⟨by simp [tkOf], by simp [tkOf]; omega⟩
        have hZ : (ta.take M ++ tb.map (fun x => (x.1, a.size + 1 + x.2))).map tkOf = X.take M ++ Y.map (shT (a.size + 1)) := by
          rw [List.map_append, sh_map, hY, ← hX, List.map_take]
        rw [hZ] at HKK
        rw [hX] at HA
        rw [hY] at HBB
        have HD := Lib.hid (And.intro hXok (And.intro hYok (And.intro hXl (And.intro hYl hYp))))
        have hM1 : M ≤ 1000 := by omega
        have hK1 : K ≤ 1000 := by omega
        have hMK : M + K ≤ 1000 := by omega
        clear j1 j2 htop hlong hia hib hM hK hta hta2 hta3 htb htb2 htb3 hra hrb hfa hfb hkt hpos hnA hnB hX hY hXok hYok hXl hYl hYp hZ
        go_enter Tryd.func9, Tryd.ntmps9
        go_wp2_with fail
        refine (HA.out _ HT.out.x).mono ?_
        rintro e w1 ⟨A1, c1, rfl, ho1, hb1⟩
        rw [← HD.out.2.2.1] at ho1
        obtain ⟨A9, c9, hv9, hc1, _, ht1⟩ := tks_ownB ho1 HD.out.1 (by rw [HD.out.2.2.1]; omega)
        injection hv9 with hv1 hv2 hv3
        subst hv1 hv3
        have H1 := Lib.hid (And.intro hb1 ht1)
        rw [HD.out.2.2.1] at hc1
        clear hb1 ho1 ht1
        go_wp2_with fail
        refine (HBB.out _ (HT.out.stay H1.out.1).x).mono ?_
        rintro e w2 ⟨A2, c2, rfl, ho2, hb2'⟩
        rw [← HD.out.2.2.2.1] at ho2
        obtain ⟨A9, c9, hv9, _, _, ht2⟩ := tks_ownB ho2 HD.out.2.1 (by rw [HD.out.2.2.2.1]; omega)
        injection hv9 with hv1 hv2 hv3
        subst hv1 hv3
        have H2 := Lib.hid (And.intro (H1.out.1.trans (hb2'.mono H1.out.1.size)) (And.intro ((H1.out.2.below hb2').mono hb2'.size) ht2))
        clear hb2' ho2 ht2
        go_wp2_with fail
        refine (HKK.out _ (HT.out.stay H2.out.1).x).mono ?_
        rintro e w3 ⟨A3, c3, rfl, ho3, hb3⟩
        obtain ⟨Z, hZe⟩ : ∃ Z, X.take M ++ Y.map (shT (a.size + 1)) = Z := ⟨_, rfl⟩
        rw [hZe] at ho3 ⊢
        have hZl : Z.length = M + (K + 1) := by rw [← hZe, List.length_append, List.length_take, List.length_map, HD.out.2.2.1, HD.out.2.2.2.1]; omega
        have hZok : ∀ t ∈ Z, t.Ok := fun t q => by
          rw [← hZe] at q
          rcases List.mem_append.1 q with q | q
          · exact HD.out.1 t (List.mem_of_mem_take q)
          · obtain ⟨y, hy, rfl⟩ := List.mem_map.1 q
            exact shT_ok (HD.out.2.1 y hy)
        obtain ⟨A9, c9, hv9, _, _, ht3⟩ := tks_ownB ho3 hZok (by rw [hZl]; omega)
        injection hv9 with hv1 hv2 hv3
        subst hv1 hv3
        have H3 := Lib.hid (And.intro (H2.out.1.trans (hb3.mono H2.out.1.size)) (And.intro ((H2.out.2.1.below hb3).mono hb3.size) (And.intro ((H2.out.2.2.below hb3).mono hb3.size) ht3)))
        have HZ := Lib.hid (And.intro hZe (And.intro hZl hZok))
        rw [hZl]
        have HXK := Lib.hid (show Tks w3.heap.size w3 A1 (X.take M) from ⟨by rw [List.length_take]; omega, fun t q => HD.out.1 t (List.mem_of_mem_take q), fun j t q => by
          by_cases hj : j < M
          · rw [List.getElem?_take_of_lt hj] at q
            exact H3.out.2.1.cell j t q
          · rw [List.getElem?_take_eq_none (by omega)] at q; cases q⟩)
        have hXTl : (X.take M).length = M := by rw [List.length_take, HD.out.2.2.1]; omega
        have HXL := Lib.hid (And.intro hXTl (show (cellsB (X.take M)).length = M * 4 from by rw [cellsB_len, hXTl]))
        have hAno : A1 = none → c1 = 0 ∧ M = 0 := fun q => by
          obtain ⟨g, off, e, _⟩ := H3.out.2.1.cell 0 (X[0]'(by rw [HD.out.2.2.1]; omega)) (List.getElem?_eq_getElem (by rw [HD.out.2.2.1]; omega))
          rw [q] at e; cases e
        have HNO := Lib.hid hAno
        have sl1 := tsl_to A1 (M + 1) c1 M (by omega)
        clear hb3 ho3 hZe hZl hZok hXTl hAno ht3
        go_wp2_with (at_builtin; refine wpList_append_tok rfl _ _ 24 rfl w3.heap.size 32 i0 (.agg #[.int .i64 0, .string ⟨#[]⟩, .int .i64 0, .int .i64 0]) 40 Tryd.underlying24 hi hz0 hz1 hz2 rfl (.slice none 0 0) 0 [] rfl (World.ownsRow_nil _ _ _ _) A1 M c1 (cellsB (X.take M)) rfl HNO.out HXL.out.2 HXK.out.news (cellsB_one' _) (by unfold maxLen; omega) (by omega) (Nat.le_refl _) ?_; intro v5 w5 hown5 hgrow5 _; have HO5 := Lib.hid hown5; have HB5 := Lib.hid ((Below.refl w3.heap.size w3).grown hgrow5 (Nat.le_refl _) (fun j hj => by cases hj)); clear hown5 hgrow5)
        have ho5 := HO5.out
        rw [List.nil_append, Nat.zero_add] at ho5
        have HO5' := Lib.hid ho5
        clear ho5
        go_loopw [14, 15] (fun v i wr => ∃ k : Nat, k ≤ K + 1 ∧ i = .int .i64 k ∧ wr.ownsRow w3.heap.size 32 4 v (M + k) (cellsB (X.take M ++ (Y.take k).map (shT (a.size + 1)))) ∧ Below w3.heap.size w3 wr) (fun _ i _ => K + 1 - (intOf i).toNat)
        case atStart => exact ⟨0, Nat.zero_le _, rfl, by rw [List.take_zero, List.map_nil, List.append_nil, Nat.add_zero]; exact HO5'.out, HB5.out⟩
        case round =>
          obtain ⟨k, hk, rfl, hrow, hb⟩ := hrel
          obtain ⟨va, vc, rfl⟩ := own_shape4L hrow
          have HB := Lib.hid (And.intro hrow hb)
          have hsr := hb.size
          clear hrow hb
          by_cases hlt : k < K + 1
          · obtain ⟨y, hky⟩ : ∃ t, Y[k]? = some t := ⟨_, List.getElem?_eq_getElem (by rw [HD.out.2.2.2.1]; exact hlt)⟩
            obtain ⟨hp0, hp1⟩ := HD.out.2.2.2.2 k y hky
            obtain ⟨g, off, rfl, hg, c0, c1', c2', c3'⟩ := H3.out.2.2.1.cell k y hky
            have d0 := (HB.out.2.cell (p := ⟨g, _, none⟩) hg).trans c0
            have d1 := (HB.out.2.cell (p := ⟨g, _, none⟩) hg).trans c1'
            have d2 := (HB.out.2.cell (p := ⟨g, _, none⟩) hg).trans c2'
            have d3 := (HB.out.2.cell (p := ⟨g, _, none⟩) hg).trans c3'
            have HNX := Lib.hid (show cellsB (X.take M ++ (Y.take k).map (shT (a.size + 1))) ++ [.int .i64 y.k, .string y.s, .int .i64 y.n, .int .i64 (y.a + (a.size : Int) + 1)] = cellsB (X.take M ++ (Y.take (k + 1)).map (shT (a.size + 1))) from by
              rw [take_snocT hky, List.map_append, ← List.append_assoc, cellsB_app _ ([y].map _)]
              congr 1
              rw [List.map_cons, List.map_nil, cellsB_one]
              show _ = [Value.int .i64 y.k, .string y.s, .int .i64 y.n, .int .i64 (y.a + ((a.size + 1 : Nat) : Int))]
              rw [show y.a + ((a.size + 1 : Nat) : Int) = y.a + (a.size : Int) + 1 by omega])
            clear c0 c1' c2' c3' hky hg
            obtain ⟨yk, ys, yn, ya⟩ := y
            simp only at d0 d1 d2 d3 hp0 hp1 HNX
            go_wp2_with (at_builtin; refine wpList_append_own_at _ rfl _ _ 24 rfl w3.heap.size 32 i0 (.agg #[.int .i64 0, .string ⟨#[]⟩, .int .i64 0, .int .i64 0]) 4 40 Tryd.underlying24 hi hz0 hz1 hz2 rfl (by decide) (.slice va (M + k) vc) _ _ rfl ((HB.out.1.alloc _).alloc _) ⟨wr.heap.size + 1, 0, none⟩ 1 1 [.int .i64 yk, .string ys, .int .i64 yn, .int .i64 (ya + (a.size : Int) + 1)] rfl rfl (cells4_atL _ _ _ _ _ _ _ (World.size_alloc _ _)) (by simp [Value.oneCell']) (by unfold maxLen; omega) (by omega) (by simp; omega) ?_; intro v7 w7 hown7 hgrow7 _ hblk7; have HO7 := Lib.hid hown7; have HB7 := Lib.hid (((HB.out.2.alloc HB.out.2.size _).alloc (HB.out.2.alloc HB.out.2.size _).size _).grown hgrow7 (by simp; omega) (fun j hj => (HB.out.1.lt j hj).1)); clear hown7 hgrow7 hblk7)
            go_roundw
            case rel =>
              refine ⟨k + 1, hlt, by go_num, ?_, HB7.out⟩
              have := HO7.out
              rw [HNX.out] at this
              exact this
            case measure => simp [intOf]; omega
          · obtain rfl : k = K + 1 := by omega
            have hrow := HB.out.1
            rw [show Y.take (K + 1) = Y from List.take_of_length_le (by rw [HD.out.2.2.2.1]; exact Nat.le_refl _), HZ.out.1, ← HZ.out.2.1] at hrow
            obtain ⟨A9, c9, hv9, _, _, hk9⟩ := tks_ownB hrow HZ.out.2.2 (by rw [HZ.out.2.1]; omega)
            injection hv9 with hv1 hv2 hv3
            subst hv1 hv3
            have HSM := Lib.hid (same_any A3 va c3 vc Z Z true wr ((H3.out.2.2.2.below HB.out.2).mono HB.out.2.size) hk9)
            rw [sameT_same, HZ.out.2.1] at HSM
            have HW := Lib.hid (H3.out.1.trans (HB.out.2.mono H3.out.1.size))
            clear hrow hk9 hlt
            go_wp2_with fail
            refine HSM.out.mono ?_
            rintro e w8 ⟨rfl, hb8⟩
            have H8 := Lib.hid (HW.out.trans (hb8.mono HW.out.size))
            clear hb8
            go_wp2_with fail
            refine (HK.out _ (HT.out.stay H8.out)).mono ?_
            rintro e w9 ⟨rfl, hb9⟩
            have H9 := Lib.hid (H8.out.trans (hb9.mono H8.out.size))
            clear hb9
            go_wp2_with fail
            go_ret
            exact ⟨rfl, H9.out⟩
end Go.Proofs.YtphhokpbkcdljaaDoor
