/- Plain mathematics: texts printed and cut again, tokens alone, texts behind one another, blanks between. Conditions: none. -/
import Derived.Test.YtphhokpbkcdljaaDoorLexPu
import Derived.Test.YtphhokpbkcdljaaDoorLexEight
namespace Go.Proofs.YtphhokpbkcdljaaDoor
open Go Go.RowKit
def keyO (x : Tok × Nat) : Int × List UInt8 × Int := ((x.1.kind : Int), x.1.text, (x.1.num : Int))
def keyI (t : TokI) : Int × List UInt8 × Int := (t.kind, t.text, t.num)
theorem scan_last (N : Nat) : ∀ (l : List UInt8) (a c : Nat) (ts : List (Tok × Nat)), l.length ≤ N → (scanT l a c).1 = some ts → ∃ init, ts = init ++ [(tEnd, a + l.length)] := by
  induction N with
  | zero =>
    intro l a c ts hl h
    have h0 : l = [] := List.length_eq_zero_iff.1 (by omega)
    subst h0
    rw [scan_end (by rw [blk_nil]) (by simp), blk_nil] at h
    injection h with h; subst h
    exact ⟨[], rfl⟩
  | succ N ih =>
    intro l a c ts hl h
    cases hb : (blk l).2 with
    | false => rw [scan_open hb] at h; cases h
    | true =>
      have hle := blk_le _ l (Nat.le_refl _)
      by_cases he : l.drop (blk l).1 = []
      · rw [scan_end hb he] at h
        injection h with h; subst h
        have : (blk l).1 = l.length := by have := List.drop_eq_nil_iff.1 he; omega
        exact ⟨[], by rw [this]; rfl⟩
      · cases hc : cutL (l.drop (blk l).1) with
        | none => rw [scan_bad hb he hc] at h; cases h
        | some x =>
          rw [scan_cut hb he hc] at h
          by_cases hcc : c = 1000
          · rw [if_pos hcc] at h; cases h
          · rw [if_neg hcc] at h
            unfold consR at h
            obtain ⟨us, hu, rfl⟩ := Option.map_eq_some_iff.1 h
            have hp := cut_pos hc
            rw [List.length_drop] at hp
            obtain ⟨init, hi⟩ := ih _ _ _ us (by simp; omega) hu
            rw [List.length_drop] at hi
            exact ⟨(x.1, a + (blk l).1) :: init, by rw [hi, List.cons_append, show a + (blk l).1 + x.2 + (l.length - ((blk l).1 + x.2)) = a + l.length by omega]⟩
theorem scan_errT (N : Nat) : ∀ (l : List UInt8) (a c : Nat), l.length ≤ N → (scanT l a c).1 = none → (scanT l a c).2.2 = 3 ∨ (scanT l a c).2.2 = 70 := by
  induction N with
  | zero =>
    intro l a c hl h
    have h0 : l = [] := List.length_eq_zero_iff.1 (by omega)
    subst h0
    rw [scan_end (by rw [blk_nil]) (by simp)] at h
    cases h
  | succ N ih =>
    intro l a c hl h
    cases hb : (blk l).2 with
    | false => rw [scan_open hb]; exact .inr rfl
    | true =>
      by_cases he : l.drop (blk l).1 = []
      · rw [scan_end hb he] at h; cases h
      · cases hc : cutL (l.drop (blk l).1) with
        | none => rw [scan_bad hb he hc]; exact .inr rfl
        | some x =>
          rw [scan_cut hb he hc] at h ⊢
          by_cases hcc : c = 1000
          · rw [if_pos hcc]; exact .inl rfl
          · rw [if_neg hcc] at h ⊢
            have hp := cut_pos hc
            rw [List.length_drop] at hp
            have hn : (scanT (l.drop ((blk l).1 + x.2)) (a + (blk l).1 + x.2) (c + 1)).1 = none := by
              unfold consR at h
              exact Option.map_eq_none_iff.1 h
            exact ih _ _ _ (by simp; omega) hn
theorem scan_err (l : List UInt8) (h : (scanTop l).1 = none) : (scanTop l).2.2 = 3 ∨ (scanTop l).2.2 = 70 := by
  unfold scanTop at h ⊢
  by_cases q : 4096 < l.length
  · rw [if_pos q]; exact .inl rfl
  · rw [if_neg q] at h ⊢
    exact scan_errT _ l 0 0 (Nat.le_refl _) h
theorem top_some {l : List UInt8} {ts : List (Tok × Nat)} (h : (scanTop l).1 = some ts) : scanTop l = (some ts, 0, 0) ∧ (scanT l 0 0).1 = some ts ∧ l.length ≤ 4096 := by
  have h2 := (top_len h).2.2
  unfold scanTop at h ⊢
  rw [if_neg (by omega)] at h ⊢
  exact ⟨scan_ok _ _ _ _ _ (Nat.le_refl _) h, h, h2⟩
theorem scan_few {l : List UInt8} {ts : List (Tok × Nat)} (h : (scanT l 0 0).1 = some ts) : ts.length ≤ 1001 := by
  obtain ⟨rel, hr, hre⟩ := scan_re _ l 0 0 ts (Nat.le_refl _) h
  obtain ⟨g1, g2⟩ := hre 0 0 (by decide)
  rw [hr, List.length_map]
  by_cases q : rel.length ≤ 1001
  · exact q
  · obtain ⟨p, hp⟩ := g2 (by omega)
    rw [hp] at h; cases h
/-- each token alone -/
theorem alone_scan {l : List UInt8} {ts : List (Tok × Nat)} {i a b : Nat} {t u : Tok} (hl : l.length ≤ 4096) (h : (scanT l 0 0).1 = some ts) (hi : ts[i]? = some (t, a)) (hj : ts[i + 1]? = some (u, b)) :
    a < b ∧ b ≤ l.length ∧ scanTop ((l.drop a).take (b - a)) = (some [(t, 0), (tEnd, b - a)], 0, 0) := by
  obtain ⟨_, ha, _, hs⟩ := scan_split _ l 0 0 ts i t a (Nat.le_refl _) h hi
  obtain ⟨_, hb, _, hs2⟩ := scan_split _ l 0 0 ts (i + 1) u b (Nat.le_refl _) h hj
  simp only [Nat.sub_zero, Nat.zero_add] at ha hs hb hs2
  have hd : ts.drop i = (t, a) :: ts.drop (i + 1) := by
    obtain ⟨q, e⟩ := List.getElem?_eq_some_iff.1 hi
    rw [List.drop_eq_getElem_cons q, e]
  have hd2 : ts.drop (i + 1) = (u, b) :: ts.drop (i + 2) := by
    obtain ⟨q, e⟩ := List.getElem?_eq_some_iff.1 hj
    rw [List.drop_eq_getElem_cons q, e]
  rw [hd] at hs
  obtain ⟨x, hx⟩ : ∃ x, l.drop a = x := ⟨_, rfl⟩
  have hxl : x.length = l.length - a := by rw [← hx, List.length_drop]
  rw [hx] at hs ⊢
  cases hbl : (blk x).2 with
  | false => rw [scan_open hbl] at hs; cases hs
  | true =>
    by_cases he : x.drop (blk x).1 = []
    · rw [scan_end hbl he] at hs
      injection hs with hs _
      injection hs with hs
      injection hs with _ hs
      rw [hd2] at hs; cases hs
    · cases hc : cutL (x.drop (blk x).1) with
      | none => rw [scan_bad hbl he hc] at hs; cases hs
      | some y =>
        obtain ⟨t', m⟩ := y
        rw [scan_cut hbl he hc] at hs
        by_cases hcc : i = 1000
        · rw [if_pos hcc] at hs; cases hs
        · rw [if_neg hcc] at hs
          unfold consR at hs
          injection hs with hs _
          obtain ⟨us, hu, hv⟩ := Option.map_eq_some_iff.1 hs
          injection hv with hv1 hv2
          injection hv1 with hv3 hv4
          subst hv3
          have h0 : (blk x).1 = 0 := by omega
          rw [h0] at hc hu he
          rw [List.drop_zero] at hc
          simp only [Nat.zero_add, Nat.add_zero] at hu
          have hp := cut_pos hc
          simp only at hp
          have hb0 : blk x = (0, true) := Prod.ext h0 hbl
          -- the next place
          have hbm : b = a + m + (blk (x.drop m)).1 ∧ (blk (x.drop m)).2 = true := by
            rw [hv2, hd2] at hu
            cases q : (blk (x.drop m)).2 with
            | false => rw [scan_open q] at hu; cases hu
            | true =>
              refine ⟨?_, rfl⟩
              by_cases he2 : (x.drop m).drop (blk (x.drop m)).1 = []
              · rw [scan_end q he2] at hu
                injection hu with hu
                injection hu with hu _
                injection hu with _ hu
                exact hu.symm
              · cases hc2 : cutL ((x.drop m).drop (blk (x.drop m)).1) with
                | none => rw [scan_bad q he2 hc2] at hu; cases hu
                | some z =>
                  rw [scan_cut q he2 hc2] at hu
                  split at hu
                  · cases hu
                  · unfold consR at hu
                    obtain ⟨_, _, hz⟩ := Option.map_eq_some_iff.1 hu
                    injection hz with hz _
                    injection hz with _ hz
                    exact hz.symm
          obtain ⟨n, hn⟩ : ∃ n, (blk (x.drop m)).1 = n := ⟨_, rfl⟩
          rw [hn] at hbm
          have hble := blk_le _ (x.drop m) (Nat.le_refl _)
          rw [hn, List.length_drop] at hble
          refine ⟨by omega, hb, ?_⟩
          have hba : b - a = m + n := by omega
          rw [hba]
          have p1 : blk (x.take (m + n)) = (0, true) := blk_take _ x 0 (m + n) (Nat.le_refl _) hb0 (Nat.zero_le _)
          have p2 : cutL (x.take (m + n)) = some (t', m) := cut_take hc (by show m ≤ m + n; omega)
          have p3 : (x.take (m + n)).drop m = (x.drop m).take n := by rw [List.drop_take, Nat.add_sub_cancel_left]
          have p4 : blk ((x.drop m).take n) = (n, true) := blk_take _ _ n n (Nat.le_refl _) (Prod.ext hn hbm.2) (Nat.le_refl _)
          unfold scanTop
          rw [if_neg (by rw [List.length_take]; omega), scan_step (n := 0) (m := m) (t := t') p1 (by rw [List.drop_zero]; exact p2) (by decide) rfl]
          simp only [Nat.zero_add, Nat.add_zero]
          rw [p3, scan_end (by rw [p4]) (by rw [p4]; simp), p4]
          rfl
theorem stp_bl {c : UInt8} (h : isBl c = true) : stp c = true := by
  have hf : ∀ n : Fin 256, isBl (UInt8.ofNat n.val) = true → stp (UInt8.ofNat n.val) = true := by decide +kernel
  have := hf ⟨c.toNat, c.toNat_lt⟩
  simp only [UInt8.ofNat_toNat] at this
  exact this h
theorem stp_head {l r : List UInt8} (h0 : l ≠ []) (h : blk l = (l.length, true)) : Stp (l ++ r) := by
  intro c r' e
  have hc : l.headD 0 = c := by
    cases l with
    | nil => exact absurd rfl h0
    | cons a b => rw [List.cons_append] at e; injection e with e _
  have hpos := List.length_pos_iff.2 h0
  by_cases hb : isBl (l.headD 0) = true
  · rw [← hc]; exact stp_bl hb
  · have hb : isBl (l.headD 0) = false := by simpa using hb
    by_cases h2 : l.take 2 = [40, 42]
    · have : l.headD 0 = 40 := by
        cases l with
        | nil => exact absurd rfl h0
        | cons a b => exact (List.cons.inj h2).1
      rw [← hc, this]; decide
    · rw [blk_else hb h2] at h
      injection h with h _
      omega
/-- blanks between two tokens -/
theorem blanks_scan {l bl : List UInt8} {ts : List (Tok × Nat)} {i at_ : Nat} {t : Tok} (h : (scanT l 0 0).1 = some ts) (hb : blk bl = (bl.length, true)) (hi : ts[i]? = some (t, at_)) :
    at_ ≤ l.length ∧ ∃ ts', scanT (l.take at_ ++ bl ++ l.drop at_) 0 0 = (some ts', 0, 0) ∧ ts'.map keyO = ts.map keyO := by
  obtain ⟨_, ha, hsp, hs⟩ := scan_split _ l 0 0 ts i t at_ (Nat.le_refl _) h hi
  simp only [Nat.sub_zero, Nat.zero_add] at ha hsp hs
  refine ⟨ha, ?_⟩
  by_cases h0 : bl = []
  · subst h0
    rw [List.append_nil, List.take_append_drop]
    exact ⟨ts, scan_ok _ _ _ _ _ (Nat.le_refl _) h, rfl⟩
  · have h1 := hsp (bl ++ l.drop at_) (stp_head h0 hb)
    have h2 := blk_app _ bl (l.drop at_) (Nat.le_refl _) hb
    have h3 := scan_blk (r := l.drop at_) h2 (by rw [List.drop_append_of_le_length (Nat.le_refl _), List.drop_length, List.nil_append]) at_ i
    obtain ⟨rel, hr, hre⟩ := scan_re _ (l.drop at_) at_ i (ts.drop i) (Nat.le_refl _) (by rw [hs])
    have hi2 : i < ts.length := (List.getElem?_eq_some_iff.1 hi).1
    have hf := scan_few h
    have hrl : rel.length = ts.length - i := by have := congrArg List.length hr; simpa using this.symm
    obtain ⟨g1, _⟩ := hre (at_ + bl.length) i (by omega)
    rw [List.append_assoc, h1, h3, g1 (by omega)]
    refine ⟨ts.take i ++ rel.map (fun x => (x.1, at_ + bl.length + x.2)), rfl, ?_⟩
    have e : (rel.map (fun x => (x.1, at_ + bl.length + x.2))).map keyO = (ts.drop i).map keyO := by
      rw [hr, List.map_map, List.map_map]; rfl
    rw [List.map_append, e, ← List.map_append, List.take_append_drop]
/-- two texts with a line's end between -/
theorem joins_scan {la lb : List UInt8} {ta tb : List (Tok × Nat)} (ha : (scanT la 0 0).1 = some ta) (hb : (scanT lb 0 0).1 = some tb) :
    (ta.length + tb.length ≤ 1002 → scanT (la ++ 10 :: lb) 0 0 = (some (ta.take (ta.length - 1) ++ tb.map (fun x => (x.1, la.length + 1 + x.2))), 0, 0)) ∧
    (1002 < ta.length + tb.length → ∃ p, scanT (la ++ 10 :: lb) 0 0 = (none, p, 3)) := by
  obtain ⟨init, hi⟩ := scan_last _ la 0 0 ta (Nat.le_refl _) ha
  have hfa := scan_few ha
  have hlen : ta.length = init.length + 1 := by rw [hi]; simp
  have hg : ta[init.length]? = some (tEnd, la.length) := by rw [hi]; simp
  obtain ⟨_, _, hsp, _⟩ := scan_split _ la 0 0 ta init.length tEnd la.length (Nat.le_refl _) ha hg
  simp only [Nat.sub_zero, Nat.zero_add, List.take_length] at hsp
  have h1 := hsp (10 :: lb) (fun c r' e => by injection e with e _; rw [← e]; decide)
  have h2 : blk (10 :: lb) = (1 + (blk lb).1, (blk lb).2) := by
    rw [blk_bl (l := 10 :: lb) (by simp) (show isBl 10 = true by decide)]
    show ((blk lb).1 + 1, (blk lb).2) = _
    rw [Nat.add_comm]
  have h3 := scan_blk (r := lb) h2 rfl la.length init.length
  obtain ⟨rel, hr, hre⟩ := scan_re _ lb 0 0 tb (Nat.le_refl _) hb
  have hr' : tb = rel := by rw [hr]; simp
  subst hr'
  obtain ⟨g1, g2⟩ := hre (la.length + 1) init.length (by omega)
  rw [h1, h3, hlen, Nat.add_sub_cancel]
  refine ⟨fun q => ?_, fun q => ?_⟩
  · rw [g1 (by omega)]; rfl
  · obtain ⟨p, hp⟩ := g2 (by omega)
    exact ⟨p, by rw [hp]; rfl⟩
/-- tokens' texts with a blank between any two -/
def joinT : List TokI → List UInt8
  | [] => []
  | t :: r => spl t ++ (if r = [] then [] else 32 :: joinT r)
theorem right_ne {t : TokI} (h : rightL t = true) (hk : t.kind ≠ 0) : ∃ x : Tok, tokL (spl t) = some x ∧ (x.kind : Int) = t.kind ∧ x.text = t.text ∧ (x.num : Int) = t.num := by
  unfold rightL at h
  rw [if_neg hk] at h
  split at h
  · cases h
  · cases e : tokL (spl t) with
    | none => rw [e] at h; cases h
    | some x =>
      rw [e] at h
      simp only [hits, Bool.and_eq_true, decide_eq_true_eq] at h
      exact ⟨x, rfl, h.1.1, h.1.2, h.2⟩
theorem joinL_T : ∀ (ts : List TokI) (acc : List UInt8), acc ≠ [] → (∀ t ∈ ts, rightL t = true ∧ t.kind ≠ 0) → joinL acc ts = some (acc ++ (if ts = [] then [] else 32 :: joinT ts))
  | [], acc, _, _ => by rw [if_pos rfl, List.append_nil]; rfl
  | t :: r, acc, h0, h => by
    obtain ⟨h1, h2⟩ := h t List.mem_cons_self
    rw [joinL_more h0 h1 h2, joinL_T r _ (by simp) fun x hx => h x (List.mem_cons_of_mem _ hx), if_neg (List.cons_ne_nil t r)]
    show some ((acc ++ 32 :: spl t) ++ _) = some (acc ++ 32 :: (spl t ++ _))
    rw [List.append_assoc]; rfl
theorem joinL_top (ts : List TokI) (h : ∀ t ∈ ts, rightL t = true ∧ t.kind ≠ 0) : joinL [] ts = some (joinT ts) := by
  cases ts with
  | nil => rfl
  | cons t r =>
    obtain ⟨h1, h2⟩ := h t List.mem_cons_self
    obtain ⟨x, hx, _⟩ := right_ne h1 h2
    have hne : spl t ≠ [] := by intro q; rw [q, tokL_nil] at hx; cases hx
    rw [joinL_first h1 h2, joinL_T r _ hne fun x hx => h x (List.mem_cons_of_mem _ hx)]
    rfl
theorem blk_tok {s r : List UInt8} {x : Tok} (h : tokL s = some x) (hs : Stp r) : blk (s ++ r) = (0, true) := by
  have hc := cut_of_tok h
  have h0 : s ≠ [] := by rintro rfl; rw [tokL_nil] at h; cases h
  cases s with
  | nil => exact absurd rfl h0
  | cons c s =>
    have hfin : ∀ n : Fin 256, isBl (UInt8.ofNat n.val) = true → isDg (UInt8.ofNat n.val) = false ∧ isSm (UInt8.ofNat n.val) = false ∧ isLg (UInt8.ofNat n.val) = false ∧ (UInt8.ofNat n.val).toNat ≠ 34 ∧ (UInt8.ofNat n.val).toNat ≠ 39 ∧ ∀ s ∈ signsL, s.headD 0 ≠ UInt8.ofNat n.val := by decide +kernel
    have hb : isBl c = false := by
      cases q : isBl c with
      | false => rfl
      | true =>
        exfalso
        have := hfin ⟨c.toNat, c.toNat_lt⟩
        simp only [UInt8.ofNat_toNat] at this
        obtain ⟨a1, a2, a3, a4, a5, a6⟩ := this q
        have e := tokL_sign (r := s) a1 a4 a2 a3 a5
        rw [h] at e
        by_cases z : (c :: s) ∈ signsL
        · exact a6 _ z rfl
        · rw [if_neg z] at e; cases e
    refine blk_else hb ?_
    intro q
    rw [List.cons_append] at q
    have hc40 : c = 40 := (List.cons.inj q).1
    subst hc40
    have e := tokL_sign (c := 40) (r := s) (by decide) (by decide) (by decide) (by decide) (by decide)
    rw [h] at e
    have hall : ∀ s ∈ signsL, s.headD 0 = 40 → s = [40] := by decide
    by_cases z : (40 :: s) ∈ signsL
    · have hs0 : s = [] := (List.cons.inj (hall _ z rfl)).2
      subst hs0
      cases r with
      | nil => simp at q
      | cons d r =>
        have hd : d = 42 := by simpa using congrArg (fun z => z.getD 1 0) q
        exact stp_42 (hs d r rfl) hd
    · rw [if_neg z] at e; cases e
theorem stp_32 (r : List UInt8) : Stp (32 :: r) := fun c r' e => by injection e with e _; rw [← e]; decide
theorem stp_nil : Stp [] := fun c r' e => by cases e
/-- what is put together is cut into the same tokens -/
theorem back_scan : ∀ (ts : List TokI), (∀ t ∈ ts, rightL t = true ∧ t.kind ≠ 0) → ∀ a c, c + ts.length ≤ 1000 → ∃ out p, scanT (joinT ts) a c = (some (out ++ [(tEnd, p)]), 0, 0) ∧ out.map keyO = ts.map keyI
  | [], _, a, c, _ => by
    refine ⟨[], a, ?_, rfl⟩
    show scanT [] a c = _
    rw [scan_end (by rw [blk_nil]) (by simp), blk_nil]; rfl
  | t :: r, h, a, c, hc => by
    obtain ⟨h1, h2⟩ := h t List.mem_cons_self
    obtain ⟨x, hx, k1, k2, k3⟩ := right_ne h1 h2
    have hr : ∀ t ∈ r, rightL t = true ∧ t.kind ≠ 0 := fun u hu => h u (List.mem_cons_of_mem _ hu)
    rw [List.length_cons] at hc
    obtain ⟨tail, htail⟩ : ∃ tail, (if r = [] then [] else 32 :: joinT r) = tail := ⟨_, rfl⟩
    have hj : joinT (t :: r) = spl t ++ tail := by rw [← htail]; rfl
    have hst : Stp tail := by
      rw [← htail]
      by_cases q : r = []
      · rw [if_pos q]; exact stp_nil
      · rw [if_neg q]; exact stp_32 _
    have hb := blk_tok hx hst
    have hcut : cutL (spl t ++ tail) = some (x, (spl t).length) := cut_app (cut_of_tok hx) (.inr hst)
    have hs := scan_step (l := spl t ++ tail) (n := 0) (a := a) (c := c) hb (by rw [List.drop_zero]; exact hcut) (by omega) rfl
    rw [Nat.zero_add, Nat.add_zero, List.drop_append_of_le_length (Nat.le_refl _), List.drop_length, List.nil_append] at hs
    have key : ∃ out p, scanT tail (a + (spl t).length) (c + 1) = (some (out ++ [(tEnd, p)]), 0, 0) ∧ out.map keyO = r.map keyI := by
      rw [← htail]
      by_cases q : r = []
      · rw [if_pos q]
        subst q
        exact ⟨[], _, by rw [scan_end (by rw [blk_nil]) (by simp), blk_nil]; rfl, rfl⟩
      · rw [if_neg q]
        obtain ⟨out, p, ho, hk⟩ := back_scan r hr (a + (spl t).length + 1) (c + 1) (by omega)
        have hb2 : blk (32 :: joinT r) = (1 + (blk (joinT r)).1, (blk (joinT r)).2) := by
          rw [blk_bl (l := 32 :: joinT r) (by simp) (show isBl 32 = true by decide)]
          show ((blk (joinT r)).1 + 1, (blk (joinT r)).2) = _
          rw [Nat.add_comm]
        exact ⟨out, p, by rw [scan_blk hb2 rfl]; exact ho, hk⟩
    obtain ⟨out, p, ho, hk⟩ := key
    refine ⟨(x, a) :: out, p, ?_, ?_⟩
    · rw [hj, hs, ho]; rfl
    · rw [List.map_cons, List.map_cons, hk]
      congr 1
      unfold keyO keyI
      simp only
      rw [k1, k2, k3]
end Go.Proofs.YtphhokpbkcdljaaDoor
