/- What Scan hands back, as tokens in memory; the texts of the statements' fixed calls. Conditions: the text is within the reach; the tables are as laid. The contract of the statements' fixed calls (known). Condition: the tables are as laid. -/
import Derived.Test.YtphhokpbkcdljaaDoorLexFive
import Derived.Test.YtphhokpbkcdljaaDoorLexSeven
namespace Go.Proofs.YtphhokpbkcdljaaDoor
open Go Go.RowKit
def tkOf (x : Tok × Nat) : TkB := ⟨x.1.kind, ⟨x.1.text.toArray⟩, x.1.num, x.2⟩
theorem cut_num {l : List UInt8} {x : Tok × Nat} (h : cutL l = some x) : x.1.num ≤ maxI := by
  cases l with
  | nil => cases h
  | cons c r =>
    unfold cutL at h
    simp only at h
    split at h
    · split at h
      · rename_i hm
        injection h with h; subst h; exact hm
      · cases h
    · split at h
      · obtain ⟨y, _, rfl⟩ := Option.map_eq_some_iff.1 h; exact Nat.zero_le _
      · split at h
        · injection h with h; subst h; exact Nat.zero_le _
        · split at h
          · injection h with h; subst h; exact Nat.zero_le _
          · obtain ⟨y, _, rfl⟩ := Option.map_eq_some_iff.1 h; exact Nat.zero_le _
theorem scan_num (N : Nat) : ∀ (l : List UInt8) (a c : Nat) (ts : List (Tok × Nat)), l.length ≤ N → (scanT l a c).1 = some ts → ∀ t ∈ ts, t.1.num ≤ maxI := by
  induction N with
  | zero =>
    intro l a c ts hl h
    have h0 : l = [] := List.length_eq_zero_iff.1 (by omega)
    subst h0
    rw [scan_end (by rw [blk_nil]) (by simp)] at h
    injection h with h; subst h
    intro t ht
    rw [List.mem_singleton.1 ht]; exact Nat.zero_le _
  | succ N ih =>
    intro l a c ts hl h
    cases hb : (blk l).2 with
    | false => rw [scan_open hb] at h; cases h
    | true =>
      by_cases he : l.drop (blk l).1 = []
      · rw [scan_end hb he] at h
        injection h with h; subst h
        intro t ht
        rw [List.mem_singleton.1 ht]; exact Nat.zero_le _
      · cases hc : cutL (l.drop (blk l).1) with
        | none => rw [scan_bad hb he hc] at h; cases h
        | some x =>
          rw [scan_cut hb he hc] at h
          by_cases hcc : c = 1000
          · rw [if_pos hcc] at h; cases h
          · rw [if_neg hcc] at h
            unfold consR at h
            obtain ⟨us, hu, rfl⟩ := Option.map_eq_some_iff.1 h
            have hp := cut_pos hc
            have hd := ih _ _ _ us (by simp at hp ⊢; omega) hu
            intro t ht
            rcases List.mem_cons.1 ht with rfl | ht
            · exact (show x.1.num ≤ maxI from cut_num hc)
            · exact hd t ht
def toks (r : ScR) : List TkB := (r.1.getD []).map tkOf
theorem tkOf_ok {x : Tok × Nat} (h : x.1.num ≤ maxI) : (tkOf x).Ok := by
  have hm : maxI = 4611686018427387903 := rfl
  exact ⟨by show _ ≤ ((x.1.num : Nat) : Int); omega, by show ((x.1.num : Nat) : Int) ≤ _; omega⟩
theorem cellsT_at : ∀ (ts : List (Tok × Nat)) (j : Nat) (t : Tok × Nat), ts[j]? = some t → ∀ i, i < 4 → (cellsT ts)[j * 4 + i]? = (tokC t)[i]?
  | [], j, t, h => by simp at h
  | x :: ts, 0, t, h => by
    intro i hi
    simp at h; subst h
    unfold cellsT
    rw [List.flatMap_cons, Nat.zero_mul, Nat.zero_add, List.getElem?_append_left (by simp [tokC]; omega)]
  | x :: ts, j + 1, t, h => by
    intro i hi
    have ih := cellsT_at ts j t (by simpa using h) i hi
    unfold cellsT at ih ⊢
    rw [List.flatMap_cons, List.getElem?_append_right (by simp [tokC]; omega), ← ih]
    congr 1
    simp [tokC]; omega
theorem tks_own {W : World} {n₀ : Nat} {v : Value} {ts : List (Tok × Nat)} (h : W.ownsRow n₀ 32 4 v ts.length (cellsT ts)) (hn : ∀ t ∈ ts, t.1.num ≤ maxI) (hf : ts.length ≤ 9223372036854775807) :
    ∃ A cap, v = .slice A ts.length cap ∧ ts.length ≤ cap ∧ Tks W.heap.size W A (ts.map tkOf) := by
  rcases h.2 with ⟨rfl, h0⟩ | ⟨g, cap, cur, rfl, _, hg, h1, h2, h3, h4⟩
  · have : ts = [] := List.length_eq_zero_iff.1 h0
    subst this
    exact ⟨none, 0, rfl, Nat.le_refl _, by simp, fun t ht => by simp at ht, fun j t q => by simp at q⟩
  · refine ⟨_, cap, rfl, h1, by rw [List.length_map]; exact hf, fun t ht => ?_, fun j t q => ?_⟩
    · obtain ⟨x, hx, rfl⟩ := List.mem_map.1 ht
      exact tkOf_ok (hn x hx)
    · rw [List.getElem?_map] at q
      obtain ⟨x, hx, rfl⟩ := Option.map_eq_some_iff.1 q
      have hj : j < ts.length := (List.getElem?_eq_some_iff.1 hx).1
      have hc : ∀ i, i < 4 → W.cell? ⟨g, 0 + j * 4 + i, none⟩ = (tokC x)[i]? := fun i hi => by
        have e1 : W.cell? ⟨g, 0 + j * 4 + i, none⟩ = cur[0 + j * 4 + i]? := by simp [World.cell?, hg]
        rw [e1, ← cellsT_at ts j x hx i hi, ← h4, List.getElem?_take_of_lt (by omega), Array.getElem?_toList, Nat.zero_add]
      exact ⟨g, 0, rfl, (Array.getElem?_eq_some_iff.1 hg).1, hc 0 (by decide), hc 1 (by decide), hc 2 (by decide), hc 3 (by decide)⟩
theorem scan_len (N : Nat) : ∀ (l : List UInt8) (a c : Nat) (ts : List (Tok × Nat)), l.length ≤ N → (scanT l a c).1 = some ts → ts.length ≤ N + 1 := by
  induction N with
  | zero =>
    intro l a c ts hl h
    have h0 : l = [] := List.length_eq_zero_iff.1 (by omega)
    subst h0
    rw [scan_end (by rw [blk_nil]) (by simp)] at h
    injection h with h; subst h; exact Nat.le_refl _
  | succ N ih =>
    intro l a c ts hl h
    cases hb : (blk l).2 with
    | false => rw [scan_open hb] at h; cases h
    | true =>
      by_cases he : l.drop (blk l).1 = []
      · rw [scan_end hb he] at h
        injection h with h; subst h; simp
      · cases hc : cutL (l.drop (blk l).1) with
        | none => rw [scan_bad hb he hc] at h; cases h
        | some x =>
          rw [scan_cut hb he hc] at h
          by_cases hcc : c = 1000
          · rw [if_pos hcc] at h; cases h
          · rw [if_neg hcc] at h
            unfold consR at h
            obtain ⟨us, hu, rfl⟩ := Option.map_eq_some_iff.1 h
            have hp := cut_pos hc
            have hd := ih _ _ _ us (by simp at hp ⊢; omega) hu
            simp; omega
theorem top_len {l : List UInt8} {ts : List (Tok × Nat)} (h : (scanTop l).1 = some ts) : ts.length ≤ 4097 ∧ (∀ t ∈ ts, t.1.num ≤ maxI) ∧ l.length ≤ 4096 := by
  unfold scanTop at h
  by_cases hb : 4096 < l.length
  · rw [if_pos hb] at h; cases h
  · rw [if_neg hb] at h
    exact ⟨scan_len 4096 l _ _ ts (by omega) h, scan_num 4096 l _ _ ts (by omega) h, by omega⟩
/-- what Scan hands back, as tokens that can be read -/
structure ScW (w : World) (r : ScR) (e : Ending) (w' : World) : Prop where
  val : ∃ A cap, e = .returned (.tuple #[.slice A (toks r).length cap, .int .i64 (r.2.1 : Int), .int .i64 (r.2.2 : Int)]) ∧ (toks r).length ≤ cap ∧ Tks w'.heap.size w' A (toks r)
  fr : Below w.heap.size w w'
theorem ScV.w {w w' : World} {l : List UInt8} {e : Ending} (h : ScV w (scanTop l) e w') : ScW w (scanTop l) e w' := by
  obtain ⟨⟨v, he, hv⟩, hb⟩ := h
  refine ⟨?_, hb⟩
  rcases hv with ⟨hn, rfl⟩ | ⟨ts, hs, hrow⟩
  · have ht : toks (scanTop l) = [] := by unfold toks; rw [hn]; rfl
    rw [ht]
    exact ⟨none, 0, he, Nat.le_refl _, by simp, fun t ht => by simp at ht, fun j t q => by simp at q⟩
  · have ht : toks (scanTop l) = ts.map tkOf := by unfold toks; rw [hs]; rfl
    obtain ⟨h1, h2, _⟩ := top_len hs
    obtain ⟨A, cap, rfl, hc, hk⟩ := tks_own hrow h2 (by omega)
    rw [ht, List.length_map]
    exact ⟨A, cap, he, hc, hk⟩
theorem scan_tks (s : ByteArray) (hs : s.size ≤ 140737488351232) (w : World) (hT : LxT w) : Calls Tryd.prog 13 #[.string s] w (ScW w (scanTop s.data.toList)) :=
  (scan_any s hs w hT).mono fun _ _ h => h.w
theorem ref_tks (s : ByteArray) (hs : s.size ≤ 140737488351232) (w : World) : Calls Tryd.prog 14 #[.string s] w (ScW w (scanTop s.data.toList)) :=
  (ref_scan s hs w).mono fun _ _ h => h.w
theorem scan_step {l : List UInt8} {n a c m : Nat} {t : Tok} {r : ScR} (hb : blk l = (n, true)) (hc : cutL (l.drop n) = some (t, m)) (hc2 : c ≠ 1000) (hr : scanT (l.drop (n + m)) (a + n + m) (c + 1) = r) : scanT l a c = consR (t, a + n) r := by
  have h0 : l.drop n ≠ [] := by intro q; rw [q] at hc; cases hc
  have := scan_cut (l := l) (x := (t, m)) (by rw [hb]) (by rw [hb]; exact h0) (by rw [hb]; exact hc) a c
  rw [this, if_neg hc2, hb]
  simp only
  rw [hr]
theorem blk0 {l : List UInt8} (h : isBl (l.headD 0) = false) (h2 : l.take 2 ≠ [40, 42]) : blk l = (0, true) := blk_else h h2
theorem blk1 {c : UInt8} {l : List UInt8} (h0 : isBl c = true) (h : isBl (l.headD 0) = false) (h2 : l.take 2 ≠ [40, 42]) : blk (c :: l) = (1, true) := by
  rw [blk_bl (by simp) (by simpa using h0)]
  show ((blk l).1 + 1, (blk l).2) = _
  rw [blk_else h h2]
def kn1 : List UInt8 := [118, 97, 108, 32, 120, 39, 32, 61, 32, 126, 51, 59]
def kt1 : List (Tok × Nat) := [(⟨6, [118, 97, 108], 0⟩, 0), (⟨3, [120, 39], 0⟩, 4), (⟨7, [61], 0⟩, 7), (⟨7, [126], 0⟩, 9), (⟨1, [], 3⟩, 10), (⟨7, [59], 0⟩, 11), (tEnd, 12)]
theorem scan_kn1 : scanTop kn1 = (some kt1, 0, 0) := by
  unfold scanTop kn1
  rw [if_neg (by decide)]
  rw [scan_step (n := 0) (m := 3) (t := ⟨6, [118, 97, 108], 0⟩) (blk0 (by decide) (by decide)) (by rfl) (by decide) rfl]
  simp only [List.drop, Nat.add_zero, Nat.zero_add]
  rw [scan_step (n := 1) (m := 2) (t := ⟨3, [120, 39], 0⟩) (blk1 (by decide) (by decide) (by decide)) (by rfl) (by decide) rfl]
  simp only [List.drop, Nat.reduceAdd]
  rw [scan_step (n := 1) (m := 1) (t := ⟨7, [61], 0⟩) (blk1 (by decide) (by decide) (by decide)) (by rfl) (by decide) rfl]
  simp only [List.drop, Nat.reduceAdd]
  rw [scan_step (n := 1) (m := 1) (t := ⟨7, [126], 0⟩) (blk1 (by decide) (by decide) (by decide)) (by rfl) (by decide) rfl]
  simp only [List.drop, Nat.reduceAdd]
  rw [scan_step (n := 0) (m := 1) (t := ⟨1, [], 3⟩) (blk0 (by decide) (by decide)) (by rfl) (by decide) rfl]
  simp only [List.drop, Nat.reduceAdd]
  rw [scan_step (n := 0) (m := 1) (t := ⟨7, [59], 0⟩) (blk0 (by decide) (by decide)) (by rfl) (by decide) rfl]
  simp only [List.drop, Nat.reduceAdd]
  rw [scan_end (by rw [blk_nil]) (by simp), blk_nil]
  rfl
def kn2 : List UInt8 := [97, 32, 35, 32, 98]
theorem scan_kn2 : scanTop kn2 = (none, 2, 70) := by
  unfold scanTop kn2
  rw [if_neg (by decide)]
  rw [scan_step (n := 0) (m := 1) (t := ⟨3, [97], 0⟩) (blk0 (by decide) (by decide)) (by rfl) (by decide) rfl]
  simp only [List.drop, Nat.add_zero, Nat.zero_add]
  have hb : blk [32, 35, 32, 98] = (1, true) := blk1 (by decide) (by decide) (by decide)
  rw [scan_bad (by rw [hb]) (by rw [hb]; decide) (by rw [hb]; rfl), hb]
  rfl
theorem join_kn : joinL [] [⟨3, [97], 0⟩, ⟨2, [10], 0⟩] = some [97, 32, 34, 92, 110, 34] := by
  have h1 : rightL ⟨3, [97], 0⟩ = true := by decide
  have h2 : rightL ⟨2, [10], 0⟩ = true := by
    have ht : txt [92, 110, 34] = some ([10], 3) := by
      rw [txt, if_neg (by decide)]
      split
      · rename_i h; exact absurd h (by decide)
      · rename_i x h
        have hx : x = (10, 2) := by
          have : sgn [92, 110, 34] = some (10, 2) := by rfl
          rw [this] at h; injection h with h; exact h.symm
        subst hx
        show (txt [34]).map _ = _
        rw [txt, if_pos (by decide)]; rfl
    have hs : spl ⟨2, [10], 0⟩ = [34, 92, 110, 34] := by rfl
    have hq : quotedL [34, 92, 110, 34] = some [10] := by rw [quotedL_cons, if_pos (by decide), ht]; rfl
    unfold rightL
    rw [if_neg (by decide), if_neg (by decide), hs, tokL_quoted (by decide), hq]
    decide
  rw [joinL_first h1 (by decide)]
  have e1 : spl ⟨3, [97], 0⟩ = [97] := by rfl
  rw [e1, joinL_more (by decide) h2 (by decide)]
  rfl
end Go.Proofs.YtphhokpbkcdljaaDoor
namespace Go.Proofs.YtphhokpbkcdljaaDoor
open Go Go.RowKit
structure LTab (w : World) : Prop where
  t : Tab w
  x : LxT w
theorem LTab.stay {w w' : World} (h : LTab w) (hb : Below w.heap.size w w') : LTab w' := ⟨tab_below h.t (Nat.le_refl _) hb, h.x.stay hb⟩
theorem scan1 (w : World) (hT : LxT w) : Calls Tryd.prog 13 #[.string ⟨#[118, 97, 108, 32, 120, 39, 32, 61, 32, 126, 51, 59]⟩] w fun e w' => ∃ A cap, e = .returned (.tuple #[.slice A 7 cap, .int .i64 0, .int .i64 0]) ∧ Tks w'.heap.size w' A (kt1.map tkOf) ∧ Below w.heap.size w w' := by
  refine (scan_tks ⟨#[118, 97, 108, 32, 120, 39, 32, 61, 32, 126, 51, 59]⟩ (by decide) w hT).mono fun e w' h => ?_
  rw [show (⟨#[118, 97, 108, 32, 120, 39, 32, 61, 32, 126, 51, 59]⟩ : ByteArray).data.toList = kn1 from rfl, scan_kn1] at h
  obtain ⟨A, cap, he, _, ht⟩ := h.val
  exact ⟨A, cap, he, ht, h.fr⟩
theorem scan2 (w : World) (hT : LxT w) : Calls Tryd.prog 13 #[.string ⟨#[97, 32, 35, 32, 98]⟩] w fun e w' => ∃ A cap, e = .returned (.tuple #[.slice A 0 cap, .int .i64 2, .int .i64 70]) ∧ Below w.heap.size w w' := by
  refine (scan_tks ⟨#[97, 32, 35, 32, 98]⟩ (by decide) w hT).mono fun e w' h => ?_
  rw [show (⟨#[97, 32, 35, 32, 98]⟩ : ByteArray).data.toList = kn2 from rfl, scan_kn2] at h
  obtain ⟨A, cap, he, _, ht⟩ := h.val
  exact ⟨A, cap, he, h.fr⟩
theorem tks_lit2 (w : World) (x y : TkB) (hx : x.Ok) (hy : y.Ok) : Tks (w.heap.size + 1) (w.alloc (.cells #[.int .i64 x.k, .string x.s, .int .i64 x.n, .int .i64 x.a, .int .i64 y.k, .string y.s, .int .i64 y.n, .int .i64 y.a] 32)) (some ⟨w.heap.size, 0, none⟩) [x, y] := by
  have hc := fun j => blk_cellL (heap_alloc_new w (.cells #[.int .i64 x.k, .string x.s, .int .i64 x.n, .int .i64 x.a, .int .i64 y.k, .string y.s, .int .i64 y.n, .int .i64 y.a] 32)) j
  refine ⟨by show (2 : Nat) ≤ _; decide, fun t ht => ?_, fun j t q => ?_⟩
  · rcases List.mem_cons.1 ht with rfl | ht
    · exact hx
    · rw [List.mem_singleton.1 ht]; exact hy
  · match j, q with
    | 0, q =>
      simp at q; subst q
      exact ⟨_, 0, rfl, Nat.lt_succ_self _, hc 0, hc 1, hc 2, hc 3⟩
    | 1, q =>
      simp at q; subst q
      exact ⟨_, 0, rfl, Nat.lt_succ_self _, hc 4, hc 5, hc 6, hc 7⟩
theorem print1 (w : World) (hT : LTab w) : Calls Tryd.prog 20 #[.slice (some ⟨w.heap.size, 0, none⟩) 2 2] (w.alloc (.cells #[.int .i64 3, .string ⟨#[97]⟩, .int .i64 0, .int .i64 0, .int .i64 2, .string ⟨#[10]⟩, .int .i64 0, .int .i64 0] 32))
    fun e w' => e = .returned (.tuple #[.string ⟨#[97, 32, 34, 92, 110, 34]⟩, .int .i64 0]) ∧ Below w.heap.size w w' := by
  have hb := below_oneL w (.cells #[.int .i64 3, .string ⟨#[97]⟩, .int .i64 0, .int .i64 0, .int .i64 2, .string ⟨#[10]⟩, .int .i64 0, .int .i64 0] 32)
  have hk := tks_lit2 w ⟨3, ⟨#[97]⟩, 0, 0⟩ ⟨2, ⟨#[10]⟩, 0, 0⟩ ⟨by decide, by decide⟩ ⟨by decide, by decide⟩
  have h2 := hT.stay hb
  refine (print_any _ 2 [⟨3, ⟨#[97]⟩, 0, 0⟩, ⟨2, ⟨#[10]⟩, 0, 0⟩] _ (by rw [World.size_alloc]; exact hk) (by decide) (fun t ht => ?_) h2.t h2.x).mono fun e w' h => ?_
  · rcases List.mem_cons.1 ht with rfl | ht
    · decide
    · rw [List.mem_singleton.1 ht]; decide
  · have e1 : joinL [] (([⟨3, ⟨#[97]⟩, 0, 0⟩, ⟨2, ⟨#[10]⟩, 0, 0⟩] : List TkB).map TkB.I) = some [97, 32, 34, 92, 110, 34] := join_kn
    rw [e1] at h
    exact ⟨h.1, hb.trans (h.2.mono hb.size)⟩
set_option maxRecDepth 100000 in
set_option maxHeartbeats 8000000 in
theorem lknown_any (w : World) (hT : LTab w) : Calls Tryd.prog 12 #[] w fun e w' => e = .returned (.bool true) ∧ Below w.heap.size w w' := by
  have HT := Lib.hid hT
  clear hT
  go_enter Tryd.func12, Tryd.ntmps12
  go_wp2_with fail
  refine (scan1 _ HT.out.x).mono ?_
  rintro e w1 ⟨A, ca, rfl, ht1, hb1⟩
  obtain ⟨g, off, rfl, hg, c0, c1, c2, c3⟩ := ht1.cell 1 _ rfl
  obtain ⟨g', off', hgg, hg', d0, d1, d2, d3⟩ := ht1.cell 4 _ rfl
  injection hgg with hgg
  injection hgg with hg1 hg2
  subst hg1 hg2
  obtain ⟨g', off', hgg, hg'', e0, e1, e2, e3⟩ := ht1.cell 6 _ rfl
  injection hgg with hgg
  injection hgg with hg1 hg2
  subst hg1 hg2
  have H1 := Lib.hid (And.intro hb1 (HT.out.stay hb1))
  have HC := Lib.hid (And.intro hg (And.intro (And.intro c0 (And.intro c1 (And.intro c2 c3))) (And.intro d2 (And.intro e0 (And.intro e1 (And.intro e2 e3))))))
  clear ht1 hb1 c0 c1 c2 c3 d0 d1 d2 d3 e0 e1 e2 e3 hg hg' hg''
  go_wp2_with fail
  refine (scan2 _ H1.out.2.x).mono ?_
  rintro e w2 ⟨A2, ca2, rfl, hb2⟩
  have H2 := Lib.hid (And.intro hb2 (H1.out.2.stay hb2))
  clear hb2
  go_wp2_with fail
  refine (print1 _ H2.out.2).mono ?_
  rintro e w3 ⟨rfl, hb3⟩
  have H3 := Lib.hid (H2.out.1.trans (hb3.mono H2.out.1.size))
  clear hb3
  have c0 := (H3.out.cell (p := ⟨g, _, none⟩) HC.out.1).trans HC.out.2.1.1
  have c1 := (H3.out.cell (p := ⟨g, _, none⟩) HC.out.1).trans HC.out.2.1.2.1
  have c2 := (H3.out.cell (p := ⟨g, _, none⟩) HC.out.1).trans HC.out.2.1.2.2.1
  have c3 := (H3.out.cell (p := ⟨g, _, none⟩) HC.out.1).trans HC.out.2.1.2.2.2
  have d2 := (H3.out.cell (p := ⟨g, _, none⟩) HC.out.1).trans HC.out.2.2.1
  have e0 := (H3.out.cell (p := ⟨g, _, none⟩) HC.out.1).trans HC.out.2.2.2.1
  have e1 := (H3.out.cell (p := ⟨g, _, none⟩) HC.out.1).trans HC.out.2.2.2.2.1
  have e2 := (H3.out.cell (p := ⟨g, _, none⟩) HC.out.1).trans HC.out.2.2.2.2.2.1
  have e3 := (H3.out.cell (p := ⟨g, _, none⟩) HC.out.1).trans HC.out.2.2.2.2.2.2
  simp only [tkOf, tEnd] at c0 c1 c2 c3 d2 e0 e1 e2 e3
  go_wp2_with fail
  go_ret
  exact ⟨rfl, H1.out.1.trans (H3.out.mono H1.out.1.size)⟩
set_option maxRecDepth 100000 in
set_option maxHeartbeats 8000000 in
theorem long_any (s : ByteArray) (w : World) : Calls Tryd.prog 11 #[.string s] w fun e w' => e = .returned (.bool (decide (500 < s.size) && decide (s.size ≤ 4096))) ∧ w' = w := by
  by_cases h1 : 500 < s.size
  · have b1 : decide ((500 : Int) < (s.size : Int)) = true := decide_eq_true (by omega)
    rw [decide_eq_true h1]
    by_cases h2 : s.size ≤ 4096
    · have b2 : decide ((s.size : Int) ≤ 4096) = true := decide_eq_true (by omega)
      rw [decide_eq_true h2]
      clear h1 h2
      go_enter Tryd.func11, Tryd.ntmps11
      go_wp2_with fail
      go_ret
      exact ⟨rfl, rfl⟩
    · have b2 : decide ((s.size : Int) ≤ 4096) = false := decide_eq_false (by omega)
      rw [decide_eq_false h2]
      clear h1 h2
      go_enter Tryd.func11, Tryd.ntmps11
      go_wp2_with fail
      go_ret
      exact ⟨rfl, rfl⟩
  · have b1 : decide ((500 : Int) < (s.size : Int)) = false := decide_eq_false (by omega)
    rw [decide_eq_false h1]
    clear h1
    go_enter Tryd.func11, Tryd.ntmps11
    go_wp2_with fail
    go_ret
    exact ⟨rfl, rfl⟩
end Go.Proofs.YtphhokpbkcdljaaDoor
