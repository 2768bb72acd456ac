/- The contract of the statements' fixed calls (known). Condition: the tables are as laid. -/
import Derived.Test.YtphhokpbkcdljaaDoorLexKm
namespace Go.Proofs.YtphhokpbkcdljaaDoor
open Go Go.RowKit
structure LTab (w : World) : Prop where
  t : Tab w
  x : LxT w
theorem LTab.stay {w w' : World} (h : LTab w) (hb : Below w.heap.size w w') : LTab w' := ⟨tab_below h.t (Nat.le_refl _) hb, h.x.stay hb⟩
theorem scan1 (w : World) (hT : LxT w) : Calls Tryd.prog 13 #[.string ⟨#[118, 97, 108, 32, 120, 39, 32, 61, 32, 126, 51, 59]⟩] w fun e w' => ∃ A cap, e = .returned (.tuple #[.slice A 7 cap, .int .i64 0, .int .i64 0]) ∧ Tks w'.heap.size w' A (kt1.map tkOf) ∧ Below w.heap.size w w' := by
  refine (scan_tks ⟨#[118, 97, 108, 32, 120, 39, 32, 61, 32, 126, 51, 59]⟩ (by decide) w hT).mono fun e w' h => ?_
  rw [show (⟨#[118, 97, 108, 32, 120, 39, 32, 61, 32, 126, 51, 59]⟩ : ByteArray).data.toList = kn1 from rfl, scan_kn1] at h
  obtain ⟨A, cap, he, _, ht⟩ := h.val
  exact ⟨A, cap, he, ht, h.fr⟩
theorem scan2 (w : World) (hT : LxT w) : Calls Tryd.prog 13 #[.string ⟨#[97, 32, 35, 32, 98]⟩] w fun e w' => ∃ A cap, e = .returned (.tuple #[.slice A 0 cap, .int .i64 2, .int .i64 70]) ∧ Below w.heap.size w w' := by
  refine (scan_tks ⟨#[97, 32, 35, 32, 98]⟩ (by decide) w hT).mono fun e w' h => ?_
  rw [show (⟨#[97, 32, 35, 32, 98]⟩ : ByteArray).data.toList = kn2 from rfl, scan_kn2] at h
  obtain ⟨A, cap, he, _, ht⟩ := h.val
  exact ⟨A, cap, he, h.fr⟩
theorem tks_lit2 (w : World) (x y : TkB) (hx : x.Ok) (hy : y.Ok) : Tks (w.heap.size + 1) (w.alloc (.cells #[.int .i64 x.k, .string x.s, .int .i64 x.n, .int .i64 x.a, .int .i64 y.k, .string y.s, .int .i64 y.n, .int .i64 y.a] 32)) (some ⟨w.heap.size, 0, none⟩) [x, y] := by
  have hc := fun j => blk_cellL (heap_alloc_new w (.cells #[.int .i64 x.k, .string x.s, .int .i64 x.n, .int .i64 x.a, .int .i64 y.k, .string y.s, .int .i64 y.n, .int .i64 y.a] 32)) j
  refine ⟨by show (2 : Nat) ≤ _; decide, fun t ht => ?_, fun j t q => ?_⟩
  · rcases List.mem_cons.1 ht with rfl | ht
    · exact hx
    · rw [List.mem_singleton.1 ht]; exact hy
  · match j, q with
    | 0, q =>
      simp at q; subst q
      exact ⟨_, 0, rfl, Nat.lt_succ_self _, hc 0, hc 1, hc 2, hc 3⟩
    | 1, q =>
      simp at q; subst q
      exact ⟨_, 0, rfl, Nat.lt_succ_self _, hc 4, hc 5, hc 6, hc 7⟩
theorem print1 (w : World) (hT : LTab w) : Calls Tryd.prog 20 #[.slice (some ⟨w.heap.size, 0, none⟩) 2 2] (w.alloc (.cells #[.int .i64 3, .string ⟨#[97]⟩, .int .i64 0, .int .i64 0, .int .i64 2, .string ⟨#[10]⟩, .int .i64 0, .int .i64 0] 32))
    fun e w' => e = .returned (.tuple #[.string ⟨#[97, 32, 34, 92, 110, 34]⟩, .int .i64 0]) ∧ Below w.heap.size w w' := by
  have hb := below_oneL w (.cells #[.int .i64 3, .string ⟨#[97]⟩, .int .i64 0, .int .i64 0, .int .i64 2, .string ⟨#[10]⟩, .int .i64 0, .int .i64 0] 32)
  have hk := tks_lit2 w ⟨3, ⟨#[97]⟩, 0, 0⟩ ⟨2, ⟨#[10]⟩, 0, 0⟩ ⟨by decide, by decide⟩ ⟨by decide, by decide⟩
  have h2 := hT.stay hb
  refine (print_any _ 2 [⟨3, ⟨#[97]⟩, 0, 0⟩, ⟨2, ⟨#[10]⟩, 0, 0⟩] _ (by rw [World.size_alloc]; exact hk) (by decide) (fun t ht => ?_) h2.t h2.x).mono fun e w' h => ?_
  · rcases List.mem_cons.1 ht with rfl | ht
    · decide
    · rw [List.mem_singleton.1 ht]; decide
  · have e1 : joinL [] (([⟨3, ⟨#[97]⟩, 0, 0⟩, ⟨2, ⟨#[10]⟩, 0, 0⟩] : List TkB).map TkB.I) = some [97, 32, 34, 92, 110, 34] := join_kn
    rw [e1] at h
    exact ⟨h.1, hb.trans (h.2.mono hb.size)⟩
set_option maxRecDepth 100000 in
set_option maxHeartbeats 8000000 in
theorem lknown_any (w : World) (hT : LTab w) : Calls Tryd.prog 12 #[] w fun e w' => e = .returned (.bool true) ∧ Below w.heap.size w w' := by
  have HT := Lib.hid hT
  clear hT
  go_enter Tryd.func12, Tryd.ntmps12
  go_wp2_with fail
  refine (scan1 _ HT.out.x).mono ?_
  rintro e w1 ⟨A, ca, rfl, ht1, hb1⟩
  obtain ⟨g, off, rfl, hg, c0, c1, c2, c3⟩ := ht1.cell 1 _ rfl
  obtain ⟨g', off', hgg, hg', d0, d1, d2, d3⟩ := ht1.cell 4 _ rfl
  injection hgg with hgg
  injection hgg with hg1 hg2
  subst hg1 hg2
  obtain ⟨g', off', hgg, hg'', e0, e1, e2, e3⟩ := ht1.cell 6 _ rfl
  injection hgg with hgg
  injection hgg with hg1 hg2
  subst hg1 hg2
  have H1 := Lib.hid (And.intro hb1 (HT.out.stay hb1))
  have HC := Lib.hid (And.intro hg (And.intro (And.intro c0 (And.intro c1 (And.intro c2 c3))) (And.intro d2 (And.intro e0 (And.intro e1 (And.intro e2 e3))))))
  clear ht1 hb1 c0 c1 c2 c3 d0 d1 d2 d3 e0 e1 e2 e3 hg hg' hg''
  go_wp2_with fail
  refine (scan2 _ H1.out.2.x).mono ?_
  rintro e w2 ⟨A2, ca2, rfl, hb2⟩
  have H2 := Lib.hid (And.intro hb2 (H1.out.2.stay hb2))
  clear hb2
  go_wp2_with fail
  refine (print1 _ H2.out.2).mono ?_
  rintro e w3 ⟨rfl, hb3⟩
  have H3 := Lib.hid (H2.out.1.trans (hb3.mono H2.out.1.size))
  clear hb3
  have c0 := (H3.out.cell (p := ⟨g, _, none⟩) HC.out.1).trans HC.out.2.1.1
  have c1 := (H3.out.cell (p := ⟨g, _, none⟩) HC.out.1).trans HC.out.2.1.2.1
  have c2 := (H3.out.cell (p := ⟨g, _, none⟩) HC.out.1).trans HC.out.2.1.2.2.1
  have c3 := (H3.out.cell (p := ⟨g, _, none⟩) HC.out.1).trans HC.out.2.1.2.2.2
  have d2 := (H3.out.cell (p := ⟨g, _, none⟩) HC.out.1).trans HC.out.2.2.1
  have e0 := (H3.out.cell (p := ⟨g, _, none⟩) HC.out.1).trans HC.out.2.2.2.1
  have e1 := (H3.out.cell (p := ⟨g, _, none⟩) HC.out.1).trans HC.out.2.2.2.2.1
  have e2 := (H3.out.cell (p := ⟨g, _, none⟩) HC.out.1).trans HC.out.2.2.2.2.2.1
  have e3 := (H3.out.cell (p := ⟨g, _, none⟩) HC.out.1).trans HC.out.2.2.2.2.2.2
  simp only [tkOf, tEnd] at c0 c1 c2 c3 d2 e0 e1 e2 e3
  go_wp2_with fail
  go_ret
  exact ⟨rfl, H1.out.1.trans (H3.out.mono H1.out.1.size)⟩
set_option maxRecDepth 100000 in
set_option maxHeartbeats 8000000 in
theorem long_any (s : ByteArray) (w : World) : Calls Tryd.prog 11 #[.string s] w fun e w' => e = .returned (.bool (decide (500 < s.size) && decide (s.size ≤ 4096))) ∧ w' = w := by
  by_cases h1 : 500 < s.size
  · have b1 : decide ((500 : Int) < (s.size : Int)) = true := decide_eq_true (by omega)
    rw [decide_eq_true h1]
    by_cases h2 : s.size ≤ 4096
    · have b2 : decide ((s.size : Int) ≤ 4096) = true := decide_eq_true (by omega)
      rw [decide_eq_true h2]
      clear h1 h2
      go_enter Tryd.func11, Tryd.ntmps11
      go_wp2_with fail
      go_ret
      exact ⟨rfl, rfl⟩
    · have b2 : decide ((s.size : Int) ≤ 4096) = false := decide_eq_false (by omega)
      rw [decide_eq_false h2]
      clear h1 h2
      go_enter Tryd.func11, Tryd.ntmps11
      go_wp2_with fail
      go_ret
      exact ⟨rfl, rfl⟩
  · have b1 : decide ((500 : Int) < (s.size : Int)) = false := decide_eq_false (by omega)
    rw [decide_eq_false h1]
    clear h1
    go_enter Tryd.func11, Tryd.ntmps11
    go_wp2_with fail
    go_ret
    exact ⟨rfl, rfl⟩
end Go.Proofs.YtphhokpbkcdljaaDoor
