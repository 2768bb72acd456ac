/- Plain mathematics: what is listed is read line by line; a line more that is none's. Conditions: none. -/
import Derived.Test.YtfpgalckmfdcmaaDoorIsaReadR
namespace Go.Proofs.YtfpgalckmfdcmaaDoor
open Go Go.RowKit
theorem linesOf_cut' {a : List UInt8} (r : List UInt8) (ha : ∀ x ∈ a, x ≠ 10) : linesOf (a ++ [10] ++ r) = a :: linesOf r := by
  rw [List.append_assoc]; exact linesOf_cut ha
theorem name_no10 : ∀ n, n < 37 → ∀ x ∈ (rowOf n).1, x ≠ 10 := by decide +kernel
theorem name_63 : ∀ n, n < 37 → 1 ≤ n → ∃ c r, (rowOf n).1 = c :: r ∧ c ≠ 63 := by
  intro n hn h1
  have h : ∀ n, n < 37 → 1 ≤ n → (rowOf n).1.headD 63 ≠ 63 := by decide +kernel
  have h2 := h n hn h1
  cases q : (rowOf n).1 with
  | nil => exact absurd q (name_ne n hn h1)
  | cons c r => rw [q] at h2; exact ⟨c, r, rfl, h2⟩
theorem itoa_no10 (v : Int) : ∀ x ∈ Lib.itoa v, x ≠ 10 := by
  intro x hx
  have hd : isDig x ∨ x = 45 := by
    by_cases q : v < 0
    · rw [itoa_neg' q] at hx
      rcases List.mem_cons.1 hx with e | e
      · exact .inr e
      · exact .inl (dec_dig _ x e)
    · rw [itoa_abs_pos (by omega)] at hx
      exact .inl (dec_dig _ x hx)
  rcases hd with h | rfl
  · rintro rfl
    have := h.1
    simp at this
  · decide
theorem argT_no10 (k : UInt8) (v : Int) : ∀ x ∈ argT k v, x ≠ 10 := by
  intro x hx
  rw [argT_word] at hx
  rcases List.mem_cons.1 hx with rfl | hx
  · decide
  · unfold argW at hx
    split at hx
    · exact itoa_no10 v x hx
    · rcases List.mem_cons.1 hx with rfl | e
      · decide
      · exact itoa_no10 v x e
theorem text_no10 {o a b c n : Int} (h : chkOf o a b c n = 0) : ∀ x ∈ textOf o a b c n, x ≠ 10 := by
  have h0 := known_of h
  obtain ⟨k, rfl⟩ := Int.eq_ofNat_of_zero_le (show 0 ≤ o by omega)
  rw [textOf_yes h]
  intro x hx
  unfold textF at hx
  rcases List.mem_append.1 hx with e | e
  · exact name_no10 k (by omega) x e
  · obtain ⟨y, _, hy⟩ := List.mem_flatMap.1 e
    exact argT_no10 _ _ x hy
theorem lines_list (r : List UInt8) : ∀ l : List I5, (∀ x ∈ l, x.chk = 0) → linesOf (listT l ++ r) = l.map I5.txt ++ linesOf r
  | [], _ => by simp [listT]
  | x :: l, h => by
    have ih := lines_list r l (fun y hy => h y (List.mem_cons_of_mem _ hy))
    have e : listT (x :: l) ++ r = x.txt ++ [10] ++ (listT l ++ r) := by simp [listT]
    rw [e, linesOf_cut' _ (show ∀ y ∈ x.txt, y ≠ 10 from text_no10 (h x (List.mem_cons_self ..))), ih]
    rfl
theorem itoa_len32 {v : Int} (h0 : -2147483648 ≤ v) (h1 : v ≤ 2147483647) : (Lib.itoa v).length ≤ 11 := by
  have h := dec_len 10 v.natAbs (by decide) (by omega)
  by_cases q : v < 0
  · rw [itoa_neg' q, List.length_cons]; omega
  · rw [itoa_abs_pos (by omega)]; omega
theorem name_len8 : ∀ k, k < 37 → (rowOf k).1.length ≤ 8 := by decide +kernel
theorem text_len50 {o a b c n : Int} : (textOf o a b c n).length ≤ 50 := by
  by_cases h : chkOf o a b c n = 0
  · have h0 := known_of h
    obtain ⟨k, rfl⟩ := Int.eq_ofNat_of_zero_le (show 0 ≤ o by omega)
    rw [textOf_yes h]
    unfold textF
    have hb : ∀ f : List UInt8, (f.flatMap fun k => argT k (letterOf a b c n (k.toNat : Int))).length ≤ 13 * f.length := by
      intro f
      induction f with
      | nil => simp
      | cons x f ih =>
        rw [List.flatMap_cons, List.length_append, argT_word, List.length_cons, List.length_cons]
        obtain ⟨q0, q1⟩ := fld_fits h x
        have := itoa_len32 q0 q1
        have : (argW x (letterOf a b c n (x.toNat : Int))).length ≤ 12 := by
          unfold argW
          split
          · omega
          · rw [List.length_cons]; omega
        omega
    have h1 := hb (rowOf k).2.1
    have h2 := form_len k (by omega)
    have h3 := name_len8 k (by omega)
    rw [List.length_append]
    omega
  · unfold textOf; rw [if_neg h]; simp
theorem listT_len50 (l : List I5) : (listT l).length ≤ 51 * l.length := by
  induction l with
  | nil => simp [listT]
  | cons x l ih =>
    unfold listT at *
    rw [List.flatMap_cons, List.length_append, List.length_append]
    have : x.txt.length ≤ 50 := text_len50
    simp only [List.length_cons, List.length_nil]
    omega
theorem rd_list (l : List I5) (r : List (List UInt8)) (h : ∀ x ∈ l, x.chk = 0) : RdTo (l.map I5.txt ++ r) l.length l := by
  refine ⟨rfl, by simp, fun j x t hx ht => ?_⟩
  have hl := (List.getElem?_eq_some_iff.1 hx).1
  rw [List.getElem?_append_left (by simpa using hl), List.getElem?_map, hx] at ht
  exact ⟨h x (List.mem_of_getElem? hx), Option.some.inj ht⟩
/-- what is listed is read again -/
theorem read_back {l : List I5} {xs : List I5} {a e : Int} (h : ∀ x ∈ l, x.chk = 0) (hl : l.length ≤ 4096) (hr : IsRead (linesOf (listT l)) xs a e) : xs = l ∧ a = 0 ∧ e = 0 := by
  have el : linesOf (listT l) = l.map I5.txt := by
    have := lines_list [] l h
    simpa [linesOf] using this
  have h0 : IsRead (linesOf (listT l)) l 0 0 := by
    rw [el]
    have := rd_list l [] h
    rw [List.append_nil] at this
    exact .inr (.inr ⟨by simpa using hl, by simpa using this, rfl, rfl⟩)
  exact hr.unique h0
theorem noText_63 {t : List UInt8} (h : t.head? = some 63) : NoText t := by
  intro o a b c n h1 h2
  have h0 := known_of h1
  obtain ⟨k, rfl⟩ := Int.eq_ofNat_of_zero_le (show 0 ≤ o by omega)
  obtain ⟨c1, r, hn, hc⟩ := name_63 k (by omega) (by omega)
  rw [← h2, textOf_yes h1] at h
  unfold textF at h
  rw [hn] at h
  simp at h
  exact hc h
/-- a line more that is none's is told -/
theorem read_more {l : List I5} {more : List UInt8} {xs : List I5} {a e : Int} (h : ∀ x ∈ l, x.chk = 0) (hl : l.length ≤ 1000) (hm : more.length ≤ 1000) (hr : IsRead (linesOf (listT l ++ (63 :: more))) xs a e) : xs = [] ∧ a = l.length ∧ e = 32 := by
  have el := lines_list (63 :: more) l h
  have es := linesOf_step (l := 63 :: more) (by simp)
  have hn := linesOf_len (more.length + 1) (63 :: more) (by simp)
  have h0 : IsRead (linesOf (listT l ++ (63 :: more))) [] l.length 32 := by
    refine .inr (.inl ⟨by rw [el, List.length_append, List.length_map]; omega, l.length, l, lineHead (63 :: more), ?_, ?_, noText_63 ?_, rfl, rfl, rfl⟩)
    · rw [el]; exact rd_list l _ h
    · rw [el, es, List.getElem?_append_right (by simp)]; simp
    · rw [head_cons more (by decide)]; rfl
  exact hr.unique h0
end Go.Proofs.YtfpgalckmfdcmaaDoor
