/- The walk of the statement LexBack: it returns true. Conditions: each text is within the reach; the tables are as laid. -/
import Derived.Test.YtphhokpbkcdljaaDoorLexTk
import Derived.Test.YtphhokpbkcdljaaDoorLexPv
namespace Go.Proofs.YtphhokpbkcdljaaDoor
open Go Go.RowKit
/-- the tokens that are kept -/
structure Kept (S : Nat) (ms : List TkB) : Prop where
  good : ∀ t ∈ ms, rightL t.I = true ∧ t.k ≠ 0
  ok : ∀ t ∈ ms, t.Ok
  sum : sumT ms ≤ S
  few : sumT ms ≤ 1000
theorem sumT_snoc (ms : List TkB) (t : TkB) : sumT (ms ++ [t]) = sumT ms + (1 + t.s.size) := by simp [sumT]
theorem Kept.add {S : Nat} {ms : List TkB} {t : TkB} (h : Kept S ms) (hr : rightL t.I = true) (hk : t.k ≠ 0) (ho : t.Ok) (hs : S + 1 + t.s.size ≤ 1000) : Kept (S + 1 + t.s.size) (ms ++ [t]) := by
  refine ⟨fun x hx => ?_, fun x hx => ?_, ?_, ?_⟩
  · rcases List.mem_append.1 hx with hx | hx
    · exact h.good x hx
    · rw [List.mem_singleton.1 hx]; exact ⟨hr, hk⟩
  · rcases List.mem_append.1 hx with hx | hx
    · exact h.ok x hx
    · rw [List.mem_singleton.1 hx]; exact ho
  · rw [sumT_snoc]; have := h.sum; omega
  · rw [sumT_snoc]; have := h.sum; omega
theorem Kept.nil (S : Nat) : Kept S [] := ⟨fun t h => by simp at h, fun t h => by simp at h, Nat.zero_le _, Nat.zero_le _⟩
theorem Kept.up {S S' : Nat} {ms : List TkB} (h : Kept S ms) (hs : S ≤ S') : Kept S' ms := ⟨h.good, h.ok, Nat.le_trans h.sum hs, h.few⟩
theorem joinT_len : ∀ (ms : List TkB), (∀ t ∈ ms, t.Ok) → (joinT (ms.map TkB.I)).length ≤ 30 * sumT ms
  | [], _ => Nat.zero_le _
  | t :: r, h => by
    have h1 := h t List.mem_cons_self
    have h2 := spl_len t.k t.n t.s h1.lo h1.hi
    have ih := joinT_len r fun x hx => h x (List.mem_cons_of_mem _ hx)
    have e : sumT (t :: r) = 1 + t.s.size + sumT r := by simp [sumT]
    rw [List.map_cons, e]
    show (spl t.I ++ _).length ≤ _
    rw [List.length_append]
    have e2 : (if r.map TkB.I = [] then [] else 32 :: joinT (r.map TkB.I)).length ≤ 1 + (joinT (r.map TkB.I)).length := by
      split
      · simp
      · simp; omega
    have e3 : (spl t.I).length ≤ 4 * t.s.size + 22 := h2
    omega
theorem key_back {out : List (Tok × Nat)} {ms : List TkB} {p : Nat} (h : out.map keyO = (ms.map TkB.I).map keyI) : sameT false ((out ++ [(tEnd, p)]).map tkOf) (ms ++ [⟨0, ⟨#[]⟩, 0, 0⟩]) = true := by
  unfold sameT
  rw [decide_eq_true_eq, List.map_append, List.map_append, List.map_append]
  have e1 : (out.map tkOf).map (TkB.key false) = (out.map keyO).map (fun z => (z.1, z.2.1, z.2.2, (0 : Int))) := by
    rw [List.map_map, List.map_map]; rfl
  have e2 : ms.map (TkB.key false) = ((ms.map TkB.I).map keyI).map (fun z => (z.1, z.2.1, z.2.2, (0 : Int))) := by
    rw [List.map_map, List.map_map]; rfl
  rw [e1, e2, h]; rfl
def newTok : TkB := ⟨0, ⟨#[]⟩, 0, 0⟩
set_option maxRecDepth 100000 in
set_option maxHeartbeats 16000000 in
theorem lexBack_walk (A : Option Addr) (c : Nat) (ts : List TkB) (w : World) (ht : Tks w.heap.size w A ts) (hz : ∀ t ∈ ts, t.s.size ≤ 140737488351232) (hT : LTab w) :
    Calls Tryd.prog 7 #[.slice A ts.length c] w fun e w' => e = .returned (.bool true) ∧ Below w.heap.size w w' := by
  obtain ⟨i0, hi, hz0, hz1, hz2⟩ := info_parts infoTok
  have hf := ht.few
  obtain ⟨N, hN⟩ : ∃ N, ts.length = N := ⟨_, rfl⟩
  rw [hN] at hf ⊢
  have HN := Lib.hid hN
  have HTS := Lib.hid (And.intro ht hz)
  have HT := Lib.hid hT
  have HK := Lib.hid lknown_any
  clear hN ht hz hT
  go_enter Tryd.func7, Tryd.ntmps7
  go_wp2_with fail
  go_loopw [3, 4, 5] (fun m n i wr => ∃ (k : Nat) (ms : List TkB), k ≤ N ∧ i = .int .i64 k ∧ n = .int .i64 (sumT (ts.take k) : Nat) ∧ sumT (ts.take k) ≤ 150000000000000 ∧ Kept (sumT (ts.take k)) ms ∧ wr.ownsRow w.heap.size 32 4 m ms.length (cellsB ms) ∧ Below w.heap.size w wr) (fun _ _ i _ => N - (intOf i).toNat)
  case atStart => exact ⟨0, [], Nat.zero_le _, rfl, rfl, by rw [List.take_zero]; exact Nat.zero_le _, Kept.nil _, World.ownsRow_nil _ _ _ _, Below.refl _ _⟩
  case round =>
    obtain ⟨k, ms, hk, rfl, rfl, hsm, hkp, hrow, hb⟩ := hrel
    have HB := Lib.hid (And.intro hrow hb)
    have HKP := Lib.hid hkp
    obtain ⟨va, vc, rfl⟩ := own_shape4L hrow
    clear hrow hb hkp
    have hend : Calls Tryd.prog 20 #[.slice va ms.length vc] wr fun e w' => e = .returned (.tuple #[.string ⟨(joinT (ms.map TkB.I)).toArray⟩, .int .i64 0]) ∧ Below wr.heap.size wr w' := by
      have hm1 := sumT_le HKP.out.few
      obtain ⟨A5, c5, hv, _, _, hk5⟩ := tks_ownB HB.out.1 HKP.out.ok (by omega)
      injection hv with hv1 hv2 hv3
      subst hv1 hv3
      have ht := HT.out.stay HB.out.2
      have := print_any va vc ms wr hk5 (by omega) (fun t q => Nat.le_trans (hm1.2 t q) (by decide)) ht.t ht.x
      rw [joinL_top _ (fun t q => by
        obtain ⟨x, hx, rfl⟩ := List.mem_map.1 q
        exact HKP.out.good x hx)] at this
      exact this
    obtain ⟨S, hS⟩ : ∃ S, sumT (ts.take k) = S := ⟨_, rfl⟩
    rw [hS] at hsm HKP ⊢
    have HSS := Lib.hid hS
    clear hS
    by_cases hgo : k < N ∧ S ≤ 1000
    · obtain ⟨hlt, hle⟩ := hgo
      clear hend
      obtain ⟨t, hkt⟩ : ∃ t, ts[k]? = some t := ⟨_, List.getElem?_eq_getElem (by rw [HN.out]; exact hlt)⟩
      have hsu := sumT_succ hkt
      rw [HSS.out] at hsu
      have HS := Lib.hid hsu
      have hd : decide ((S : Int) ≤ 1000) = true := decide_eq_true (by omega)
      obtain ⟨g, off, rfl, hg, c0, c1, c2, c3⟩ := HTS.out.1.cell k t hkt
      have hs2 := HTS.out.2 t (List.mem_of_getElem? hkt)
      have hok := HTS.out.1.ok t (List.mem_of_getElem? hkt)
      have d0 := (HB.out.2.cell (p := ⟨g, _, none⟩) hg).trans c0
      have d1 := (HB.out.2.cell (p := ⟨g, _, none⟩) hg).trans c1
      have d2 := (HB.out.2.cell (p := ⟨g, _, none⟩) hg).trans c2
      have d3 := (HB.out.2.cell (p := ⟨g, _, none⟩) hg).trans c3
      have HC := Lib.hid (And.intro hg (And.intro c0 (And.intro c1 (And.intro c2 c3))))
      clear c0 c1 c2 c3 hkt hsu
      by_cases hle2 : S + 1 + t.s.size ≤ 1000
      · have hd2 : decide ((S : Int) + 1 + (t.s.size : Int) ≤ 1000) = true := decide_eq_true (by omega)
        have HR := Lib.hid (ref_right t.k t.n t.a t.s (by omega) hok.lo hok.hi wr)
        cases hrt : rightL ⟨t.k, t.s.data.toList, t.n⟩ with
        | false =>
          rw [hrt] at HR
          clear hrt hok hg
          go_wp2_with fail
          refine HR.out.mono ?_
          rintro e w1 ⟨rfl, hb1⟩
          have H1 := Lib.hid (And.intro (own_stay HB.out.1 hb1) (HB.out.2.trans (hb1.mono HB.out.2.size)))
          clear hb1
          go_wp2_with fail
          go_roundw
          case rel => exact ⟨k + 1, ms, hlt, by go_num, by rw [HS.out]; go_num, by rw [HS.out]; omega, by rw [HS.out]; exact HKP.out.up (by omega), H1.out.1, H1.out.2⟩
          case measure => simp [intOf]; omega
        | true =>
          rw [hrt] at HR
          by_cases hk0 : t.k = 0
          · have q0 : (t.k != 0) = false := by rw [bne_eq_false_iff_eq]; exact hk0
            clear hrt hok hg hk0
            go_wp2_with fail
            refine HR.out.mono ?_
            rintro e w1 ⟨rfl, hb1⟩
            have H1 := Lib.hid (And.intro (own_stay HB.out.1 hb1) (HB.out.2.trans (hb1.mono HB.out.2.size)))
            clear hb1 d0 d1 d2 d3
            have d0 := (H1.out.2.cell (p := ⟨g, _, none⟩) HC.out.1).trans HC.out.2.1
            go_wp2_with fail
            go_roundw
            case rel => exact ⟨k + 1, ms, hlt, by go_num, by rw [HS.out]; go_num, by rw [HS.out]; omega, by rw [HS.out]; exact HKP.out.up (by omega), H1.out.1, H1.out.2⟩
            case measure => simp [intOf]; omega
          · have q0 : (t.k != 0) = true := by rw [bne_iff_ne]; exact hk0
            have HKN := Lib.hid (HKP.out.add hrt hk0 hok hle2)
            have hml := (sumT_le HKP.out.few).1
            clear hrt hok hg hk0
            go_wp2_with fail
            refine HR.out.mono ?_
            rintro e w1 ⟨rfl, hb1⟩
            have H1 := Lib.hid (And.intro (own_stay HB.out.1 hb1) (HB.out.2.trans (hb1.mono HB.out.2.size)))
            have hs1 := H1.out.2.size
            clear hb1 d0 d1 d2 d3
            have d0 := (H1.out.2.cell (p := ⟨g, _, none⟩) HC.out.1).trans HC.out.2.1
            have d1 := (H1.out.2.cell (p := ⟨g, _, none⟩) HC.out.1).trans HC.out.2.2.1
            have d2 := (H1.out.2.cell (p := ⟨g, _, none⟩) HC.out.1).trans HC.out.2.2.2.1
            have d3 := (H1.out.2.cell (p := ⟨g, _, none⟩) HC.out.1).trans HC.out.2.2.2.2
            go_wp2_with (at_builtin; refine wpList_append_own_at _ rfl _ _ 24 rfl w.heap.size 32 i0 (.agg #[.int .i64 0, .string ⟨#[]⟩, .int .i64 0, .int .i64 0]) 4 40 Tryd.underlying24 hi hz0 hz1 hz2 rfl (by decide) (.slice va ms.length vc) _ _ rfl (H1.out.1.alloc _) ⟨w1.heap.size, 0, none⟩ 1 1 [.int .i64 t.k, .string t.s, .int .i64 t.n, .int .i64 t.a] rfl rfl (cells4_atL _ _ _ _ _ _ _ rfl) (by simp [Value.oneCell']) (by unfold maxLen; omega) (by omega) (by simp; omega) ?_; intro v7 w7 hown7 hgrow7 _ hblk7; have HO7 := Lib.hid hown7; have HB7 := Lib.hid ((H1.out.2.alloc H1.out.2.size _).grown hgrow7 (by simp; omega) (fun j hj => (H1.out.1.lt j hj).1)); clear hown7 hgrow7 hblk7)
            go_roundw
            case rel =>
              refine ⟨k + 1, ms ++ [t], hlt, by go_num, by rw [HS.out]; go_num, by rw [HS.out]; omega, by rw [HS.out]; exact HKN.out, ?_, HB7.out⟩
              have := HO7.out
              rw [show cellsB ms ++ [.int .i64 t.k, .string t.s, .int .i64 t.n, .int .i64 t.a] = cellsB (ms ++ [t]) from by rw [cellsB_app, cellsB_one]; rfl] at this
              rw [List.length_append]
              exact this
            case measure => simp [intOf]; omega
      · have hd2 : decide ((S : Int) + 1 + (t.s.size : Int) ≤ 1000) = false := decide_eq_false (by omega)
        clear hle2 hok hg
        go_wp2_with fail
        go_roundw
        case rel => exact ⟨k + 1, ms, hlt, by go_num, by rw [HS.out]; go_num, by rw [HS.out]; omega, by rw [HS.out]; exact HKP.out.up (by omega), HB.out.1, HB.out.2⟩
        case measure => simp [intOf]; omega
    · have hq : (¬ k < N) ∨ (k < N ∧ decide ((S : Int) ≤ 1000) = false) := by
        by_cases q : k < N
        · exact .inr ⟨q, decide_eq_false (by omega)⟩
        · exact .inl q
      have HE := Lib.hid hend
      clear hend hgo
      have hjl := joinT_len ms HKP.out.ok
      have hfew := HKP.out.few
      obtain ⟨J, hJ⟩ : ∃ J, joinT (ms.map TkB.I) = J := ⟨_, rfl⟩
      rw [hJ] at HE hjl
      obtain ⟨P, hP⟩ : ∃ P : ByteArray, (⟨J.toArray⟩ : ByteArray) = P := ⟨_, rfl⟩
      have hPl : P.data.toList = J := by rw [← hP]
      have hPs : P.size = J.length := by rw [← hP]; simp [ByteArray.size]
      rw [hP] at HE
      have HSC := Lib.hid (scan_tks P (by omega))
      rw [hPl] at HSC
      have hml := (sumT_le hfew).1
      by_cases hbig : 4096 < P.size
      · have hbd : decide ((4096 : Int) < (P.size : Int)) = true := decide_eq_true (by omega)
        have hr : scanTop J = (none, 0, 3) := by unfold scanTop; rw [if_pos (by omega)]
        rw [hr] at HSC
        clear hr hbig hPl hPs hP hjl hJ
        rcases hq with hq | ⟨hq, hq2⟩
        all_goals
          go_wp2_with fail
          refine HE.out.mono ?_
          rintro e w5 ⟨rfl, hb5⟩
          have H5 := Lib.hid (HB.out.2.trans (hb5.mono HB.out.2.size))
          clear hb5
          go_wp2_with fail
          refine (HSC.out _ (HT.out.stay H5.out).x).mono ?_
          rintro e w6 ⟨⟨A6, c6, rfl, _, _⟩, hb6⟩
          have H6 := Lib.hid (H5.out.trans (hb6.mono H5.out.size))
          clear hb6
          go_wp2_with fail
          refine (HK.out _ (HT.out.stay H6.out)).mono ?_
          rintro e w7 ⟨rfl, hb7⟩
          have H7 := Lib.hid (H6.out.trans (hb7.mono H6.out.size))
          clear hb7
          go_wp2_with fail
          go_ret
          exact ⟨rfl, H7.out⟩
      · have hbd : decide ((4096 : Int) < (P.size : Int)) = false := decide_eq_false (by omega)
        obtain ⟨out, p, hsc, hky⟩ := back_scan (ms.map TkB.I) (fun t q => by
          obtain ⟨x, hx, rfl⟩ := List.mem_map.1 q
          exact HKP.out.good x hx) 0 0 (by rw [List.length_map]; omega)
        have hr : scanTop J = (some (out ++ [(tEnd, p)]), 0, 0) := by unfold scanTop; rw [if_neg (by omega), ← hJ]; exact hsc
        have hkb := key_back (p := p) hky
        have hnum := (top_len (show (scanTop J).1 = some (out ++ [(tEnd, p)]) by rw [hr])).2.1
        have hs := scan_any P (by omega)
        rw [hPl, hr] at hs
        obtain ⟨X, hX⟩ : ∃ X, (out ++ [(tEnd, p)]).map tkOf = X := ⟨_, rfl⟩
        have HSC2 := Lib.hid (show ∀ W, LxT W → Calls Tryd.prog 13 #[.string P] W fun e w' => ∃ A cap, e = .returned (.tuple #[.slice A X.length cap, .int .i64 0, .int .i64 0]) ∧ w'.ownsRow W.heap.size 32 4 (.slice A X.length cap) X.length (cellsB X) ∧ Below W.heap.size W w' from fun W h => (hs W h).mono fun e w' q => by
          obtain ⟨⟨v, he, hv⟩, hb⟩ := q
          rcases hv with ⟨h1, _⟩ | ⟨ts', h1, h2⟩
          · cases h1
          · injection h1 with h1
            rw [← h1] at h2
            have hl : X.length = (out ++ [(tEnd, p)]).length := by rw [← hX, List.length_map]
            rw [← cellsB_T, hX, ← hl] at h2
            obtain ⟨A, cap, rfl⟩ := own_shape4L h2
            exact ⟨A, cap, he, h2, hb⟩)
        have hXok : ∀ t ∈ X, t.Ok := fun t q => by
          rw [← hX] at q
          obtain ⟨x, hx, rfl⟩ := List.mem_map.1 q
          exact tkOf_ok (hnum x hx)
        have hXl : X.length ≤ 1001 := by
          rw [← hX, List.length_map]
          have := congrArg List.length hky
          simp only [List.length_map] at this
          rw [List.length_append, this]; simp; omega
        rw [hX] at hkb
        have HKB := Lib.hid (And.intro hkb (And.intro hXok hXl))
        clear hr hbig hPl hPs hP hjl hJ hsc hky hkb hX HSC hs hnum hXok hXl
        rcases hq with hq | ⟨hq, hq2⟩
        all_goals
          go_wp2_with fail
          refine HE.out.mono ?_
          rintro e w5 ⟨rfl, hb5⟩
          have H5 := Lib.hid (And.intro (HB.out.2.trans (hb5.mono HB.out.2.size)) (own_stay HB.out.1 hb5))
          clear hb5
          go_wp2_with fail
          refine (HSC2.out _ (HT.out.stay H5.out.1).x).mono ?_
          rintro e w6 ⟨A6, c6, rfl, ho6, hb6⟩
          have H6 := Lib.hid (And.intro (H5.out.1.trans (hb6.mono H5.out.1.size)) (And.intro (own_stay H5.out.2 hb6) ho6))
          have hs6 := H6.out.1.size
          clear hb6 ho6
          go_wp2_with (at_builtin; refine wpList_append_own_g _ (by rfl) _ _ 24 rfl w.heap.size 32 i0 (.agg #[.int .i64 0, .string ⟨#[]⟩, .int .i64 0, .int .i64 0]) 4 40 Tryd.underlying24 hi hz0 hz1 hz2 rfl (by decide) (.slice va ms.length vc) _ _ rfl (H6.out.2.1.alloc _) ⟨w6.heap.size, 0, none⟩ 1 1 [.int .i64 0, .string ⟨#[]⟩, .int .i64 0, .int .i64 0] rfl rfl (cells4_atL _ _ _ _ _ _ _ rfl) (by simp [Value.oneCell']) (by unfold maxLen; omega) (by omega) (by simp; omega) ?_; intro v7 w7 hown7 hgrow7 _ hblk7; have HO7 := Lib.hid hown7; have HG7 := Lib.hid hgrow7; clear hown7 hgrow7 hblk7)
          have hrowX := (H6.out.2.2.alloc (.cells #[.int .i64 0, .string ⟨#[]⟩, .int .i64 0, .int .i64 0] 32)).kept HG7.out (by
            cases hv : (Value.slice A6 X.length c6).ownBlock with
            | none => exact .inl rfl
            | some g =>
              refine .inr fun q => ?_
              have h1 := (H6.out.2.2.lt g hv).1
              have h2 := (H5.out.2.lt g q.symm).2
              omega)
          obtain ⟨A7, c7, hv7, _, _, hk7⟩ := tks_ownB hrowX HKB.out.2.1 (by have := HKB.out.2.2; omega)
          injection hv7 with hv8 hv9 hv10
          subst hv8 hv10
          have ho := HO7.out
          rw [show cellsB ms ++ [.int .i64 0, .string ⟨#[]⟩, .int .i64 0, .int .i64 0] = cellsB (ms ++ [⟨0, ⟨#[]⟩, 0, 0⟩]) from by rw [cellsB_app, cellsB_one]; rfl, show ms.length + 1 = (ms ++ [(⟨0, ⟨#[]⟩, 0, 0⟩ : TkB)]).length from by simp] at ho
          obtain ⟨A8, c8, rfl, _, _, hk8⟩ := tks_ownB ho (fun t q => by
            rcases List.mem_append.1 q with q | q
            · exact HKP.out.ok t q
            · rw [List.mem_singleton.1 q]; exact ⟨by decide, by decide⟩) (by rw [List.length_append]; simp; omega)
          have HB7 := Lib.hid ((H6.out.1.alloc H6.out.1.size (.cells #[.int .i64 0, .string ⟨#[]⟩, .int .i64 0, .int .i64 0] 32)).grown HG7.out (by rw [World.size_alloc]; omega) (fun j hj => (H6.out.2.1.lt j hj).1))
          have HSM := Lib.hid (same_any A6 A8 c6 c8 X (ms ++ [⟨0, ⟨#[]⟩, 0, 0⟩]) false w7 hk7 hk8)
          rw [HKB.out.1] at HSM
          clear hrowX hk7 hk8 ho
          refine HSM.out.mono ?_
          rintro e w8 ⟨rfl, hb8⟩
          have H8 := Lib.hid (HB7.out.trans (hb8.mono HB7.out.size))
          clear hb8
          go_wp2_with fail
          refine (HK.out _ (HT.out.stay H8.out)).mono ?_
          rintro e w9 ⟨rfl, hb9⟩
          have H9 := Lib.hid (H8.out.trans (hb9.mono H8.out.size))
          clear hb9
          go_wp2_with fail
          go_ret
          exact ⟨rfl, H9.out⟩
end Go.Proofs.YtphhokpbkcdljaaDoor
