/- Plain mathematics: what a token is written as, which tokens are right, tokens put together. Conditions: none. The contracts of the program's spelt and Right. Conditions: the text has no more than 200,000 bytes; the tables are as laid. The contract of the document's Quote: the quoted text; nothing that lay has turned. Condition: the text is no longer than a million bytes. The contracts of the document's Written and Right. Condition: the text has no more than 200,000 bytes. -/
import Derived.Test.YtphhokpbkcdljaaDoorLexThree
import Derived.Test.YtphhokpbkcdljaaDoorTextM
import Derived.Test.YtphhokpbkcdljaaDoorRtsQAll
import Derived.Test.YtphhokpbkcdljaaDoorLexFive
import Derived.Test.YtphhokpbkcdljaaDoorKnown
import Derived.Laws.OwnMore
import Derived.Test.YtphhokpbkcdljaaDoorText
namespace Go.Proofs.YtphhokpbkcdljaaDoor
open Go Go.RowKit
structure TokI where
  kind : Int
  text : List UInt8
  num : Int
/-- a token's text, as the program spells it -/
def spl (t : TokI) : List UInt8 := if t.kind = 1 then Lib.itoa t.num else if t.kind = 2 then RtsQ.quoteL t.text else t.text
/-- a token's text, as the document says it -/
def wrt (t : TokI) : List UInt8 := if t.kind = 0 then [] else spl t
def hits (t : TokI) : Option Tok → Bool
  | some x => decide ((x.kind : Int) = t.kind) && decide (x.text = t.text) && decide ((x.num : Int) = t.num)
  | none => false
def rightL (t : TokI) : Bool :=
  if t.kind = 0 then decide (t.text = []) && decide (t.num = 0) else if t.kind = 1 ∧ (t.num < 0 ∨ (maxI : Int) < t.num) then false else hits t (tokL (spl t))
def rightP (t : TokI) : Bool :=
  if spl t = [] then decide (t.kind = 0) && decide (t.text = []) && decide (t.num = 0) else match cutL (spl t) with
    | some x => decide (x.2 = (spl t).length) && hits t (some x.1)
    | none => false
theorem down_le {l : List UInt8} : ∀ {n : Nat} {x : Tok × Nat}, down l n = some x → x.2 ≤ n
  | 0, _, h => by cases h
  | n + 1, x, h => by
    rw [down] at h
    split at h
    · injection h with h; subst h; exact Nat.le_refl _
    · exact Nat.le_succ_of_le (down_le h)
theorem tok_nil : tokL [] = none := by decide
theorem run_all {p : UInt8 → Bool} {l : List UInt8} (h : l.all p = true) : run p l = l.length := by
  have h1 := run_le p l
  have h2 := (run_take p l l.length (Nat.le_refl _)).1 (by rw [List.take_length]; exact h)
  omega
theorem cut_of_tok {l : List UInt8} {t : Tok} (h : tokL l = some t) : cutL l = some (t, l.length) := by
  have h0 : l ≠ [] := by rintro rfl; rw [tok_nil] at h; cases h
  rw [← cut_long h0]
  unfold longL
  by_cases hd : run isDg l > 0
  · rw [if_pos hd]
    cases l with
    | nil => exact absurd rfl h0
    | cons c r =>
      have hc : isDg c = true := by
        rw [run_cons] at hd
        by_cases q : isDg c = true
        · exact q
        · rw [if_neg q] at hd; omega
      have h2 := tokL_digits (r := r) hc
      rw [h] at h2
      have hall : (c :: r).all isDg = true := by
        by_cases q : (c :: r).all isDg = true
        · exact q
        · rw [if_neg (fun z => q z.1)] at h2; cases h2
      rw [run_all hall, List.take_length, h]; rfl
  · rw [if_neg hd]
    obtain ⟨n, hn⟩ : ∃ n, l.length = n + 1 := ⟨l.length - 1, by have := List.length_pos_iff.2 h0; omega⟩
    rw [hn, down, ← hn, List.take_length, h]
theorem tok_of_cut {l : List UInt8} {t : Tok} (h : cutL l = some (t, l.length)) : tokL l = some t := by
  have h0 : l ≠ [] := by rintro rfl; cases h
  rw [← cut_long h0] at h
  unfold longL at h
  by_cases hd : run isDg l > 0
  · rw [if_pos hd] at h
    obtain ⟨t', ht, e⟩ := Option.map_eq_some_iff.1 h
    injection e with e1 e2
    rw [e2, List.take_length] at ht
    rw [ht, e1]
  · rw [if_neg hd] at h
    obtain ⟨n, hn⟩ : ∃ n, l.length = n + 1 := ⟨l.length - 1, by have := List.length_pos_iff.2 h0; omega⟩
    rw [hn, down, ← hn, List.take_length] at h
    split at h
    · rename_i t' ht
      injection h with h
      injection h with h1 h2
      rw [ht, h1]
    · have := down_le h
      simp only at this
      omega
theorem kindW_pos (s : List UInt8) : 3 ≤ kindW s ∧ kindW s ≤ 6 := by
  unfold kindW; split
  · omega
  · split <;> omega
/-- what is cut: of what kind, by its first byte -/
theorem cut_kind {c : UInt8} {r : List UInt8} {x : Tok × Nat} (h : cutL (c :: r) = some x) : 1 ≤ x.1.kind ∧ (x.1.kind = 1 → isDg c = true ∧ x.1.num ≤ maxI ∧ x.1.text = []) := by
  unfold cutL at h
  simp only at h
  split at h
  · rename_i hd
    split at h
    · rename_i hm
      injection h with h; subst h
      exact ⟨Nat.le_refl _, fun _ => ⟨hd, hm, rfl⟩⟩
    · cases h
  · split at h
    · obtain ⟨y, _, rfl⟩ := Option.map_eq_some_iff.1 h
      exact ⟨by simp, fun q => by simp at q⟩
    · split at h
      · injection h with h; subst h
        have := kindW_pos ((c :: r).take (run part1 r + 1))
        exact ⟨by simp only; omega, fun q => by simp only at q; omega⟩
      · split at h
        · injection h with h; subst h
          exact ⟨by simp, fun q => by simp at q⟩
        · obtain ⟨y, _, rfl⟩ := Option.map_eq_some_iff.1 h
          exact ⟨by simp, fun q => by simp at q⟩
theorem itoa_ne (n : Int) : Lib.itoa n ≠ [] := by
  unfold Lib.itoa
  split
  · simp
  · exact dec_ne _
theorem qL_ne (l : List UInt8) : RtsQ.quoteL l ≠ [] := by unfold RtsQ.quoteL; simp
theorem rightP_eq (t : TokI) : rightP t = rightL t := by
  unfold rightP rightL
  by_cases h0 : spl t = []
  · rw [if_pos h0]
    have h1 : t.kind ≠ 1 := fun q => by unfold spl at h0; rw [if_pos q] at h0; exact itoa_ne _ h0
    have h2 : t.kind ≠ 2 := fun q => by unfold spl at h0; rw [if_neg h1, if_pos q] at h0; exact qL_ne _ h0
    by_cases hk : t.kind = 0
    · rw [if_pos hk, decide_eq_true hk]; rfl
    · rw [if_neg hk, if_neg (fun q => h1 q.1), h0, tok_nil, decide_eq_false hk]; rfl
  · rw [if_neg h0]
    obtain ⟨c, r, hcr⟩ : ∃ c r, spl t = c :: r := by
      cases e : spl t with
      | nil => exact absurd e h0
      | cons c r => exact ⟨c, r, rfl⟩
    by_cases hk : t.kind = 0
    · rw [if_pos hk]
      have ht : t.text ≠ [] := fun q => h0 (by unfold spl; rw [if_neg (by omega), if_neg (by omega)]; exact q)
      rw [decide_eq_false ht]
      cases e : cutL (spl t) with
      | none => rfl
      | some x =>
        rw [hcr] at e
        have := (cut_kind e).1
        have hne : ¬ ((x.1.kind : Int) = t.kind) := by omega
        simp [hits, hne]
    · rw [if_neg hk]
      by_cases hb : t.kind = 1 ∧ (t.num < 0 ∨ (maxI : Int) < t.num)
      · rw [if_pos hb]
        cases e : cutL (spl t) with
        | none => rfl
        | some x =>
          have e' := e
          rw [hcr] at e'
          have hx := (cut_kind e').2
          by_cases hq : (x.1.kind : Int) = t.kind ∧ (x.1.num : Int) = t.num
          · have hx := hx (by omega)
            rcases hb.2 with hn | hn
            · omega
            · have := hx.2.1; omega
          · simp only [hits]
            by_cases q1 : (x.1.kind : Int) = t.kind
            · have q2 : ¬ (x.1.num : Int) = t.num := fun z => hq ⟨q1, z⟩
              simp [q2]
            · simp [q1]
      · rw [if_neg hb]
        cases e : cutL (spl t) with
        | none =>
          cases e2 : tokL (spl t) with
          | none => rfl
          | some y => rw [cut_of_tok e2] at e; cases e
        | some x =>
          obtain ⟨y, m⟩ := x
          by_cases hm : m = (spl t).length
          · rw [hm] at e
            rw [tok_of_cut e]
            simp [hm]
          · simp only [decide_eq_false hm, Bool.false_and]
            cases e2 : tokL (spl t) with
            | none => rfl
            | some z =>
              rw [cut_of_tok e2] at e
              injection e with e
              injection e with e1 e3
              exact absurd e3.symm hm
/-- tokens put together behind what stands there -/
def joinL (acc : List UInt8) : List TokI → Option (List UInt8)
  | [] => some acc
  | t :: r => if rightL t = true then (if t.kind = 0 then joinL acc r else joinL (if acc = [] then spl t else acc ++ 32 :: spl t) r) else none
end Go.Proofs.YtphhokpbkcdljaaDoor
namespace Go.Proofs.YtphhokpbkcdljaaDoor
open Go Go.RowKit
def TokW (k : Int) (s : ByteArray) (n a : Int) : Value := .agg #[.int .i64 k, .string s, .int .i64 n, .int .i64 a]
def tabTok (k : Int) (s : ByteArray) (n a : Int) : Obj := .cells #[.int .i64 k, .string s, .int .i64 n, .int .i64 a] 32
theorem spl_len (k n : Int) (s : ByteArray) (h0 : -9223372036854775808 ≤ n) (h1 : n ≤ 9223372036854775807) : (spl ⟨k, s.data.toList, n⟩).length ≤ 4 * s.size + 22 := by
  have hs : s.data.toList.length = s.size := by simp
  unfold spl
  simp only
  split
  · have hp : (10 : Nat) ^ 19 = 10000000000000000000 := by decide
    have := dec_len 19 n.natAbs (by decide) (by omega)
    by_cases h : n < 0
    · rw [itoa_abs_neg h]; simp only [List.length_cons]; omega
    · rw [itoa_abs_pos (by omega)]; omega
  · split
    · have := (RtsQ.quoteL_len s.data.toList).2; omega
    · omega
set_option maxRecDepth 100000 in
set_option maxHeartbeats 8000000 in
theorem spelt_any (k n a : Int) (s : ByteArray) (hs : s.size ≤ 200000) (h0 : -9223372036854775808 ≤ n) (h1 : n ≤ 9223372036854775807) (w : World) (ht : Tab w) :
    Calls Tryd.prog 28 #[.agg #[.int .i64 k, .string s, .int .i64 n, .int .i64 a]] w fun e w' => e = .returned (.string ⟨(spl ⟨k, s.data.toList, n⟩).toArray⟩) ∧ Below w.heap.size w w' := by
  have HB := Lib.hid (below_oneL w (.cells #[.int .i64 k, .string s, .int .i64 n, .int .i64 a] 32))
  have HT := Lib.hid ht
  obtain ⟨T, hT⟩ : ∃ T, (⟨(spl ⟨k, s.data.toList, n⟩).toArray⟩ : ByteArray) = T := ⟨_, rfl⟩
  rw [hT]
  unfold spl at hT
  simp only at hT
  by_cases hk1 : k = 1
  · rw [if_pos hk1] at hT
    have HR := Lib.hid (text_any n h0 h1)
    rw [hT] at HR
    have q1 : (k == 1) = true := by rw [hk1]; rfl
    clear hk1 hT ht
    go_enter Tryd.func28, Tryd.ntmps28
    go_wp2_with fail
    refine (HR.out _ (tab_below HT.out (Nat.le_refl _) HB.out)).mono ?_
    rintro e w1 ⟨rfl, hb1⟩
    have HB1 := Lib.hid (HB.out.trans (hb1.mono HB.out.size))
    clear hb1
    go_wp2_with fail
    go_ret
    exact ⟨rfl, HB1.out⟩
  · have q1 : (k == 1) = false := by rw [beq_eq_false_iff_ne]; exact hk1
    rw [if_neg hk1] at hT
    by_cases hk2 : k = 2
    · rw [if_pos hk2] at hT
      have HR := Lib.hid (RtsQ.quote_any s (by omega))
      rw [hT] at HR
      have q2 : (k == 2) = true := by rw [hk2]; rfl
      clear hk1 hk2 hT ht
      go_enter Tryd.func28, Tryd.ntmps28
      go_wp2_with fail
      refine (HR.out _).mono ?_
      rintro e w1 ⟨rfl, hb1⟩
      have HB1 := Lib.hid (HB.out.trans (hb1.mono HB.out.size))
      clear hb1
      go_wp2_with fail
      go_ret
      exact ⟨rfl, HB1.out⟩
    · have q2 : (k == 2) = false := by rw [beq_eq_false_iff_ne]; exact hk2
      rw [if_neg hk2] at hT
      have hT : s = T := hT
      subst hT
      clear hk1 hk2 ht
      go_enter Tryd.func28, Tryd.ntmps28
      go_wp2_with fail
      go_ret
      exact ⟨rfl, HB.out⟩
theorem box3 {w : World} {k n a : Int} {s : ByteArray} : ((w.alloc (.cells #[.int .i64 k, .string s, .int .i64 n, .int .i64 a] 32)).setCell ⟨w.heap.size, 3, none⟩ (.int .i64 0)).heap[w.heap.size]? = some (.cells #[.int .i64 k, .string s, .int .i64 n, .int .i64 0] 32 (0, 0)) := by
  have := blk_setL (heap_alloc_new w (.cells #[.int .i64 k, .string s, .int .i64 n, .int .i64 a] 32)) 3 (.int .i64 0)
  simpa using this
theorem ans3 {k n : Int} {s : ByteArray} (h1 : k = 0) (h2 : s.toList = []) (h3 : n = 0) : (decide (k = 0) && decide (s.data.toList = []) && decide (n = 0)) = true := by rw [← Lib.toList_data]; simp [h1, h2, h3]
theorem ans2 {k n : Int} {s : ByteArray} (_ : s.toList = []) (h3 : ¬ n = 0) : (decide (k = 0) && decide (s.data.toList = []) && decide (n = 0)) = false := by simp [h3]
theorem ans1 {k n : Int} {s : ByteArray} (h2 : ¬ s.toList = []) : (decide (k = 0) && decide (s.data.toList = []) && decide (n = 0)) = false := by rw [← Lib.toList_data]; simp [h2]
theorem ans0 {k n : Int} {s : ByteArray} (h1 : ¬ k = 0) : (decide (k = 0) && decide (s.data.toList = []) && decide (n = 0)) = false := by simp [h1]
theorem agr3 {k n a b : Int} {s X : ByteArray} (h1 : a = k) (h2 : X.toList = s.toList) (h3 : b = n) : (true && (decide (a = k) && decide (X.toList = s.data.toList) && decide (b = n))) = true := by rw [← Lib.toList_data s]; simp [h1, h2, h3]
theorem agr2 {k n a b : Int} {s X : ByteArray} (_ : X.toList = s.toList) (h3 : ¬ b = n) : (true && (decide (a = k) && decide (X.toList = s.data.toList) && decide (b = n))) = false := by simp [h3]
theorem agr1 {k n a b : Int} {s X : ByteArray} (h2 : ¬ X.toList = s.toList) : (true && (decide (a = k) && decide (X.toList = s.data.toList) && decide (b = n))) = false := by rw [← Lib.toList_data s]; simp [h2]
theorem agr0 {k n a b : Int} {s X : ByteArray} (h1 : ¬ a = k) : (true && (decide (a = k) && decide (X.toList = s.data.toList) && decide (b = n))) = false := by simp [h1]
theorem stays_blk {A B : World} {N b : Nat} {o : Obj} (h : A.heap[b]? = some o) (hb : Below N A B) (hN : b < N) : B.heap[b]? = some o := (hb.block _ hN).trans h
set_option maxRecDepth 100000 in
set_option maxHeartbeats 8000000 in
theorem right_any (k n a : Int) (s : ByteArray) (hs : s.size ≤ 200000) (h0 : -9223372036854775808 ≤ n) (h1 : n ≤ 9223372036854775807) (w : World) (ht : Tab w) (hT : LxT w) :
    Calls Tryd.prog 18 #[.agg #[.int .i64 k, .string s, .int .i64 n, .int .i64 a]] w fun e w' => e = .returned (.bool (rightL ⟨k, s.data.toList, n⟩)) ∧ Below w.heap.size w w' := by
  have hB := below_oneL w (.cells #[.int .i64 k, .string s, .int .i64 n, .int .i64 0] 32)
  have hsz : w.heap.size < (w.alloc (.cells #[.int .i64 k, .string s, .int .i64 n, .int .i64 0] 32)).heap.size := by rw [World.size_alloc]; omega
  have HBX := Lib.hid (And.intro (heap_alloc_new w (.cells #[.int .i64 k, .string s, .int .i64 n, .int .i64 0] 32)) (And.intro hB hsz))
  have HT := Lib.hid (And.intro (tab_below ht (Nat.le_refl _) hB) (hT.stay hB))
  have HSP := Lib.hid (spelt_any k n 0 s hs h0 h1)
  have hlen := spl_len k n s h0 h1
  rw [← rightP_eq]
  unfold rightP
  obtain ⟨l, hl⟩ : ∃ l, spl ⟨k, s.data.toList, n⟩ = l := ⟨_, rfl⟩
  rw [hl] at HSP hlen ⊢
  obtain ⟨T, hTl⟩ : ∃ T : ByteArray, (⟨l.toArray⟩ : ByteArray) = T := ⟨_, rfl⟩
  have hTd : T.data.toList = l := by rw [← hTl]
  have hTs : T.size = l.length := by rw [← hTl]; simp [ByteArray.size]
  rw [hTl] at HSP
  clear hl hTl ht hT hB hsz
  by_cases hl0 : l = []
  · rw [if_pos hl0]
    have he : T.toList.isEmpty = true := by rw [Lib.toList_data, hTd, hl0]; rfl
    clear hTd hTs hlen hl0
    go_enter Tryd.func18, Tryd.ntmps18
    go_wp2_with fail
    refine (HSP.out _ HT.out.1).mono ?_
    rintro e w1 ⟨rfl, hb1⟩
    have HX := Lib.hid (And.intro (stays_blk HBX.out.1 hb1 HBX.out.2.2) (HBX.out.2.1.trans (hb1.mono HBX.out.2.1.size)))
    clear hb1
    have c0 := blk_cellL HX.out.1 0
    have c1 := blk_cellL HX.out.1 1
    have c2 := blk_cellL HX.out.1 2
    have c3 := blk_cellL HX.out.1 3
    go_wp2_with fail
    all_goals go_ret
    all_goals refine ⟨?_, HX.out.2⟩
    all_goals
      first
      | (rw [ans3 (by assumption) (by assumption) (by assumption)]; rfl)
      | (rw [ans2 (by assumption) (by assumption)]; rfl)
      | (rw [ans1 (by assumption)]; rfl)
      | (rw [ans0 (by assumption)]; rfl)
  · rw [if_neg hl0]
    have he : T.toList.isEmpty = false := toL_isE (by rw [hTs]; exact List.length_pos_iff.2 hl0)
    have hT6 : T.size ≤ 1000000 := by omega
    have hTp : 0 < T.size := by rw [hTs]; exact List.length_pos_iff.2 hl0
    have hc := fun (W : World) (h : LxT W) => cut_any T hT6 0 hTp W h
    rw [List.drop_zero, hTd] at hc
    have HTS := Lib.hid hTs
    clear hTd hTs hlen hl0
    cases ec : cutL l with
    | none =>
      rw [ec] at hc
      have HC := Lib.hid (show ∀ W, LxT W → Calls _ _ _ W (fun e w' => (∃ (a n i : Int) (s : ByteArray), e = .returned (.tuple #[.agg #[.int .i64 a, .string s, .int .i64 n, .int .i64 0], .int .i64 i, .bool false])) ∧ Below W.heap.size W w') from hc)
      clear hc ec
      go_enter Tryd.func18, Tryd.ntmps18
      go_wp2_with fail
      refine (HSP.out _ HT.out.1).mono ?_
      rintro e w1 ⟨rfl, hb1⟩
      have HX := Lib.hid (And.intro (stays_blk HBX.out.1 hb1 HBX.out.2.2) (And.intro (HBX.out.2.1.trans (hb1.mono HBX.out.2.1.size)) (HT.out.2.stay hb1)))
      clear hb1
      go_wp2_with fail
      refine (HC.out _ HX.out.2.2).mono ?_
      rintro e w2 ⟨⟨ax, nx, ix, sx, rfl⟩, hb2⟩
      have HX2 := Lib.hid (HX.out.2.1.trans (hb2.mono HX.out.2.1.size))
      clear hb2
      go_wp2_with fail
      go_ret
      exact ⟨rfl, HX2.out.alloc HX2.out.size _⟩
    | some y =>
      obtain ⟨x, m⟩ := y
      rw [ec] at hc
      obtain ⟨X, hX⟩ : ∃ X : ByteArray, (⟨x.text.toArray⟩ : ByteArray) = X := ⟨_, rfl⟩
      have hXt : x.text = X.toList := by rw [← hX, Lib.toList_data]
      have HC := Lib.hid (show ∀ W, LxT W → Calls _ _ _ W (fun e w' => e = .returned (.tuple #[.agg #[.int .i64 (x.kind : Int), .string X, .int .i64 (x.num : Int), .int .i64 0], .int .i64 (m : Int), .bool true]) ∧ Below W.heap.size W w') from fun W h => by
        have := hc W h
        rw [show CuV 0 (some (x, m)) = fun e => e = .returned (.tuple #[.agg #[.int .i64 (x.kind : Int), .string X, .int .i64 (x.num : Int), .int .i64 0], .int .i64 (m : Int), .bool true]) from by
          funext e; unfold CuV tokA; simp only; rw [hX, Nat.zero_add]] at this
        exact this)
      simp only [hits]
      rw [hXt]
      clear hc ec hX hXt
      generalize (x.kind : Int) = xk at HC ⊢
      generalize (x.num : Int) = xn at HC ⊢
      by_cases hm : m = l.length
      · have hmB : ((m : Int) == (T.size : Int)) = true := by rw [beq_iff_eq, HTS.out]; omega
        rw [decide_eq_true hm]
        clear hm
        go_enter Tryd.func18, Tryd.ntmps18
        go_wp2_with fail
        refine (HSP.out _ HT.out.1).mono ?_
        rintro e w1 ⟨rfl, hb1⟩
        have HX := Lib.hid (And.intro (stays_blk HBX.out.1 hb1 HBX.out.2.2) (And.intro (HBX.out.2.1.trans (hb1.mono HBX.out.2.1.size)) (And.intro (HT.out.2.stay hb1) (Nat.lt_of_lt_of_le HBX.out.2.2 hb1.size))))
        clear hb1
        go_wp2_with fail
        refine (HC.out _ HX.out.2.2.1).mono ?_
        rintro e w2 ⟨rfl, hb2⟩
        have HX2 := Lib.hid (And.intro (stays_blk HX.out.1 hb2 HX.out.2.2.2) (HX.out.2.1.trans (hb2.mono HX.out.2.1.size)))
        have hs2 := hb2.size
        clear hb2
        have HX3 := fun (o : Obj) => stays_blk HX2.out.1 (below_oneL w2 o) (Nat.lt_of_lt_of_le HX.out.2.2.2 hs2)
        have c0 := fun (o : Obj) => blk_cellL (HX3 o) 0
        have c1 := fun (o : Obj) => blk_cellL (HX3 o) 1
        have c2 := fun (o : Obj) => blk_cellL (HX3 o) 2
        have c3 := fun (o : Obj) => blk_cellL (HX3 o) 3
        clear HX3 hs2
        go_wp2_with fail
        all_goals go_ret
        all_goals refine ⟨?_, HX2.out.2.alloc HX2.out.2.size _⟩
        all_goals
          first
          | (rw [agr3 (by assumption) (by assumption) (by assumption)]; rfl)
          | (rw [agr2 (by assumption) (by assumption)]; rfl)
          | (rw [agr1 (by assumption)]; rfl)
          | (rw [agr0 (by assumption)]; rfl)
      · have hmB : ((m : Int) == (T.size : Int)) = false := by rw [beq_eq_false_iff_ne, HTS.out]; omega
        rw [decide_eq_false hm]
        clear hm
        go_enter Tryd.func18, Tryd.ntmps18
        go_wp2_with fail
        refine (HSP.out _ HT.out.1).mono ?_
        rintro e w1 ⟨rfl, hb1⟩
        have HX := Lib.hid (And.intro (stays_blk HBX.out.1 hb1 HBX.out.2.2) (And.intro (HBX.out.2.1.trans (hb1.mono HBX.out.2.1.size)) (HT.out.2.stay hb1)))
        clear hb1
        go_wp2_with fail
        refine (HC.out _ HX.out.2.2).mono ?_
        rintro e w2 ⟨rfl, hb2⟩
        have HX2 := Lib.hid (HX.out.2.1.trans (hb2.mono HX.out.2.1.size))
        clear hb2
        go_wp2_with fail
        go_ret
        exact ⟨rfl, HX2.out.alloc HX2.out.size _⟩
end Go.Proofs.YtphhokpbkcdljaaDoor
namespace Go.Proofs.YtphhokpbkcdljaaDoor.RtsQ
open Go Go.RowKit Go.Proofs.YtphhokpbkcdljaaDoor
set_option maxRecDepth 100000 in
set_option maxHeartbeats 8000000 in
theorem refquote7_any (s : ByteArray) (hs : s.size ≤ 1000000) (w : World) :
    Calls Tryd.prog 57 #[.string s] w fun e w' => e = .returned (.string ⟨(quoteL s.data.toList).toArray⟩) ∧ Below w.heap.size w w' := by
  obtain ⟨i0, hi, hz0, hz1, hz2⟩ := info_parts infoU8
  have HQ2 := Lib.hid (show QR w (w.alloc (.cells #[.int .u8 34] 5)) [34] (.slice (some ⟨w.heap.size, 0, none⟩) 1 1) from ⟨World.ownsRow_lit w #[.int .u8 34] 1 (Nat.le_refl _) (by decide) rfl, (Below.refl _ w).alloc (Nat.le_refl _) _⟩)
  go_enter Tryd.func57, Tryd.ntmps57
  go_wp2_with fail
  have hqs : ∀ l : List UInt8, l.length ≤ s.size → ([34] ++ quoteI l).length ≤ 4000001 := fun l hl => by
    have := (quoteI_len l).2
    simp only [List.length_append, List.length_cons, List.length_nil]; omega
  have HQS := Lib.hid hqs
  have hsl : s.data.toList.length = s.size := by simp
  have HSL := Lib.hid hsl
  clear hqs hsl
  go_loopw [3, 4] (fun q i wr => ∃ (k : Nat), k ≤ s.size ∧ i = .int .i64 k ∧ QR w wr ([34] ++ quoteI (s.data.toList.take k)) q) (fun _ i _ => s.size - (intOf i).toNat)
  case atStart => exact ⟨0, Nat.zero_le _, rfl, HQ2.out⟩
  case round =>
    obtain ⟨k, hk, rfl, hq⟩ := hrel
    clear HQ2
    have hle := hq.fr.size
    by_cases hlt : k < s.size
    · have hln := HQS.out (s.data.toList.take k) (by rw [List.length_take]; omega)
      obtain ⟨L, hL⟩ : ∃ L, [34] ++ quoteI (s.data.toList.take k) = L := ⟨_, rfl⟩
      rw [hL] at hq hln
      have hts := take_snocB s k hlt
      have HSN := Lib.hid (show [34] ++ quoteI (s.data.toList.take (k + 1)) = L ++ quoteB s[k] from by rw [hts, quoteI_snoc, ← hL, List.append_assoc])
      obtain ⟨n, hn⟩ : ∃ n, L.length = n := ⟨_, rfl⟩
      have hrow := hq.row
      rw [hn] at hrow hln
      have HQ := Lib.hid hq
      have HROW := Lib.hid hrow
      have HN := Lib.hid hn
      have hc256 : (s[k]).toNat < 256 := (s[k]).toNat_lt
      obtain ⟨x, hx⟩ : ∃ x, (s[k]).toNat = x := ⟨_, rfl⟩
      rw [hx] at hc256
      have HX := Lib.hid hx
      clear hq hrow hn hL hts
      by_cases h1 : x = 34 ∨ x = 92
      · have HB := Lib.hid (qb_1 HX.out h1)
        have b3 : (((x : Int) == 34) = true) ∨ (((x : Int) == 34) = false ∧ ((x : Int) == 92) = true) := by
          rcases h1 with h1 | h1
          · left; simp; omega
          · right; constructor <;> simp <;> omega
        clear h1
        rcases b3 with b1 | ⟨b1, b2⟩
        all_goals
          go_wp2_with (at_builtin; refine wpList_append_own_at _ rfl _ _ 30 rfl w.heap.size 5 i0 (.int .u8 0) 1 1 Tryd.underlying30 hi hz0 hz1 hz2 rfl (by decide) _ n (u8s L) rfl (HROW.out.alloc _) ⟨wr.heap.size, 0, none⟩ 2 2 [.int .u8 92, .int .u8 (x : Int)] rfl rfl (cellsN_at _ [_, _] _) (by simp [Value.oneCell']) (by unfold maxLen; omega) (by omega) (by simp; omega) ?_; intro v5 w5 hown5 hgrow5 _ _; have HQ5 := Lib.hid (HQ.out.app (m := [92, s[k]]) (n := 2) (xs := [.int .u8 92, .int .u8 (x : Int)]) (by rw [← HX.out]; rfl) rfl (by rw [HN.out]; exact hown5) hgrow5); clear hown5 hgrow5)
          go_roundw
          case rel => exact ⟨k + 1, hlt, by go_num, by rw [HSN.out, HB.out]; exact HQ5.out⟩
          case measure => simp [intOf]; omega
      · have b1 : ((x : Int) == 34) = false := by simp; omega
        have b2 : ((x : Int) == 92) = false := by simp; omega
        by_cases h2 : x = 10
        · have HB := Lib.hid (qb_2 HX.out h2)
          have b3 : ((x : Int) == 10) = true := by simp; omega
          clear h1 h2
          go_wp2_with (at_builtin; refine wpList_append_own_at _ rfl _ _ 30 rfl w.heap.size 5 i0 (.int .u8 0) 1 1 Tryd.underlying30 hi hz0 hz1 hz2 rfl (by decide) _ n (u8s L) rfl (HROW.out.alloc _) ⟨wr.heap.size, 0, none⟩ 2 2 [.int .u8 92, .int .u8 110] rfl rfl (cellsN_at _ [_, _] _) (by simp [Value.oneCell']) (by unfold maxLen; omega) (by omega) (by simp; omega) ?_; intro v5 w5 hown5 hgrow5 _ _; have HQ5 := Lib.hid (HQ.out.app (m := [92, 110]) (n := 2) (xs := [.int .u8 92, .int .u8 110]) rfl rfl (by rw [HN.out]; exact hown5) hgrow5); clear hown5 hgrow5)
          go_roundw
          case rel => exact ⟨k + 1, hlt, by go_num, by rw [HSN.out, HB.out]; exact HQ5.out⟩
          case measure => simp [intOf]; omega
        · have b3 : ((x : Int) == 10) = false := by simp; omega
          by_cases h3 : x = 9
          · have HB := Lib.hid (qb_3 HX.out h3)
            have b4 : ((x : Int) == 9) = true := by simp; omega
            clear h1 h2 h3
            go_wp2_with (at_builtin; refine wpList_append_own_at _ rfl _ _ 30 rfl w.heap.size 5 i0 (.int .u8 0) 1 1 Tryd.underlying30 hi hz0 hz1 hz2 rfl (by decide) _ n (u8s L) rfl (HROW.out.alloc _) ⟨wr.heap.size, 0, none⟩ 2 2 [.int .u8 92, .int .u8 116] rfl rfl (cellsN_at _ [_, _] _) (by simp [Value.oneCell']) (by unfold maxLen; omega) (by omega) (by simp; omega) ?_; intro v5 w5 hown5 hgrow5 _ _; have HQ5 := Lib.hid (HQ.out.app (m := [92, 116]) (n := 2) (xs := [.int .u8 92, .int .u8 116]) rfl rfl (by rw [HN.out]; exact hown5) hgrow5); clear hown5 hgrow5)
            go_roundw
            case rel => exact ⟨k + 1, hlt, by go_num, by rw [HSN.out, HB.out]; exact HQ5.out⟩
            case measure => simp [intOf]; omega
          · have b4 : ((x : Int) == 9) = false := by simp; omega
            by_cases h5 : x < 32 ∨ 126 < x
            · have HB := Lib.hid (qb_4 HX.out (by omega) (by omega) h2 h3 h5)
              have b5 : (decide ((x : Int) < 32) = true) ∨ (decide ((x : Int) < 32) = false ∧ decide ((126 : Int) < x) = true) := by
                by_cases q : x < 32
                · left; simp; omega
                · right; constructor <;> simp <;> omega
              have s2 : (x : Int).tdiv 16 = ((x / 16 : Nat) : Int) := by rw [Int.tdiv_eq_ediv_of_nonneg (by omega)]; omega
              have s3 : IntKind.u8.wrap ((x / 16 : Nat) : Int) = ((x / 16 : Nat) : Int) := by rw [IntKind.wrap_u8]; omega
              have s4 : (x : Int).tmod 16 = ((x % 16 : Nat) : Int) := by rw [Int.tmod_eq_emod_of_nonneg (by omega)]; omega
              have i1 := hex_run (x / 16) (by omega) .u8 ((x / 16 : Nat) : Int) rfl
              have i2 := hex_run (x % 16) (by omega) .u8 ((x % 16 : Nat) : Int) rfl
              obtain ⟨xa, hxa⟩ : ∃ xa, (hexN (x / 16)).toNat = xa := ⟨_, rfl⟩
              obtain ⟨xb, hxb⟩ : ∃ xb, (hexN (x % 16)).toNat = xb := ⟨_, rfl⟩
              rw [hxa] at i1
              rw [hxb] at i2
              have HXA := Lib.hid hxa
              have e1 : x / 16 < 16 := by omega
              have e2 : x % 16 < 16 := by omega
              have HXB := Lib.hid hxb
              have HXX := Lib.hid (And.intro hxa hxb)
              obtain ⟨xd, hxd⟩ : ∃ xd, x / 16 = xd := ⟨_, rfl⟩
              obtain ⟨xr, hxr⟩ : ∃ xr, x % 16 = xr := ⟨_, rfl⟩
              rw [hxd] at s2 s3 i1 e1
              rw [hxr] at s4 i2 e2
              clear h1 h2 h3 h5 hxa hxb hxd hxr
              rcases b5 with b5 | ⟨b5, b6⟩
              all_goals
                go_wp2_with fail
                go_region_law ((refine step_append_lies _ (by rfl) _ _ 30 (by rfl) w.heap.size 5 i0 (.int .u8 0) 1 1 Tryd.underlying30 hi hz0 hz1 hz2 rfl (by decide) u3 n (u8s L) (by rfl) ((HROW.out.drew).alloc _) ⟨wr.heap.size, 0, none⟩ 4 4 [.int .u8 92, .int .u8 120, .int .u8 (xa : Int), .int .u8 (xb : Int)] (by rfl) rfl (cellsN_on _ [_, _, _, _] _ _ (by simp)) (by simp [Value.oneCell']) (by omega) (by unfold maxLen; omega) (by omega) (by simp; omega) (wr.heap.size + 1) (by simp) ?_; intro g5 cap5 w5 hown5 hgrow5 _ _; have HQ5 := Lib.hid (HQ.out.drew.app (m := [92, 120, hexN (x / 16), hexN (x % 16)]) (n := 4) (xs := [.int .u8 92, .int .u8 120, .int .u8 (xa : Int), .int .u8 (xb : Int)]) (by rw [← HXA.out, ← HXB.out]; rfl) rfl (by rw [HN.out]; exact hown5) hgrow5); clear hown5 hgrow5))
                all_goals
                  go_wp2_with fail
                  go_roundw
                  case rel => exact ⟨k + 1, hlt, by go_num, by rw [HSN.out, HB.out]; exact HQ5.out⟩
                  case measure => simp [intOf]; omega
            · have HB := Lib.hid (qb_5 HX.out (by omega) (by omega) h2 h3 h5)
              have b5 : decide ((x : Int) < 32) = false := by simp; omega
              have b6 : decide ((126 : Int) < x) = false := by simp; omega
              clear h1 h2 h3 h5
              go_wp2_with (at_builtin; refine wpList_append_own_at _ rfl _ _ 30 rfl w.heap.size 5 i0 (.int .u8 0) 1 1 Tryd.underlying30 hi hz0 hz1 hz2 rfl (by decide) _ n (u8s L) rfl (HROW.out.alloc _) ⟨wr.heap.size, 0, none⟩ 1 1 [.int .u8 (x : Int)] rfl rfl (cell_one_new _ _ _) (by simp [Value.oneCell']) (by unfold maxLen; omega) (by omega) (by simp; omega) ?_; intro v5 w5 hown5 hgrow5 _ _; have HQ5 := Lib.hid (HQ.out.app (m := [s[k]]) (n := 1) (xs := [.int .u8 (x : Int)]) (by rw [← HX.out]; rfl) rfl (by rw [HN.out]; exact hown5) hgrow5); clear hown5 hgrow5)
              go_roundw
              case rel => exact ⟨k + 1, hlt, by go_num, by rw [HSN.out, HB.out]; exact HQ5.out⟩
              case measure => simp [intOf]; omega
    · obtain rfl : k = s.size := by omega
      rw [List.take_of_length_le (by rw [HSL.out]; exact Nat.le_refl _)] at hq
      have hln := HQS.out s.data.toList (by rw [HSL.out]; exact Nat.le_refl _)
      obtain ⟨L, hL⟩ : ∃ L, [34] ++ quoteI s.data.toList = L := ⟨_, rfl⟩
      rw [hL] at hq hln
      have HLL := Lib.hid hL
      obtain ⟨n, hn⟩ : ∃ n, L.length = n := ⟨_, rfl⟩
      have hrow := hq.row
      rw [hn] at hrow hln
      have HQ := Lib.hid hq
      have HROW := Lib.hid hrow
      have HN := Lib.hid hn
      clear hq hrow hn hL
      go_wp2_with (at_builtin; refine wpList_append_own_at _ rfl _ _ 30 rfl w.heap.size 5 i0 (.int .u8 0) 1 1 Tryd.underlying30 hi hz0 hz1 hz2 rfl (by decide) _ n (u8s L) rfl (HROW.out.alloc _) ⟨wr.heap.size, 0, none⟩ 1 1 [.int .u8 34] rfl rfl (cell_one_new _ _ _) (by simp [Value.oneCell']) (by unfold maxLen; omega) (by omega) (by simp; omega) ?_; intro v5 w5 hown5 hgrow5 _ _; have HQ5 := Lib.hid (HQ.out.app (m := [34]) (n := 1) (xs := [.int .u8 34]) rfl rfl (by rw [HN.out]; exact hown5) hgrow5); have hct := own_text rfl HQ5.out.row; clear hown5 hgrow5)
      go_ret
      exact ⟨by rw [← HLL.out]; rfl, HQ5.out.fr⟩
end Go.Proofs.YtphhokpbkcdljaaDoor.RtsQ
namespace Go.Proofs.YtphhokpbkcdljaaDoor
open Go Go.RowKit
set_option maxRecDepth 100000 in
set_option maxHeartbeats 8000000 in
theorem ref_written (k n a : Int) (s : ByteArray) (hs : s.size ≤ 200000) (h0 : -9223372036854775808 ≤ n) (h1 : n ≤ 9223372036854775807) (w : World) :
    Calls Tryd.prog 30 #[.agg #[.int .i64 k, .string s, .int .i64 n, .int .i64 a]] w fun e w' => e = .returned (.string ⟨(wrt ⟨k, s.data.toList, n⟩).toArray⟩) ∧ Below w.heap.size w w' := by
  have HB := Lib.hid (below_oneL w (.cells #[.int .i64 k, .string s, .int .i64 n, .int .i64 a] 32))
  obtain ⟨T, hT⟩ : ∃ T, (⟨(wrt ⟨k, s.data.toList, n⟩).toArray⟩ : ByteArray) = T := ⟨_, rfl⟩
  rw [hT]
  unfold wrt spl at hT
  simp only at hT
  by_cases hk0 : k = 0
  · rw [if_pos hk0] at hT
    subst hT
    have q0 : (k == 0) = true := by rw [hk0]; rfl
    clear hk0
    go_enter Tryd.func30, Tryd.ntmps30
    go_wp2_with fail
    go_ret
    exact ⟨rfl, HB.out⟩
  have q0 : (k == 0) = false := by rw [beq_eq_false_iff_ne]; exact hk0
  rw [if_neg hk0] at hT
  by_cases hk1 : k = 1
  · rw [if_pos hk1] at hT
    have HR := Lib.hid (reftext_any n h0 h1)
    rw [hT] at HR
    have q1 : (k == 1) = true := by rw [hk1]; rfl
    clear hk1 hT hk0
    go_enter Tryd.func30, Tryd.ntmps30
    go_wp2_with fail
    refine (HR.out _).mono ?_
    rintro e w1 ⟨rfl, hb1⟩
    have HB1 := Lib.hid (HB.out.trans (hb1.mono HB.out.size))
    clear hb1
    go_wp2_with fail
    go_ret
    exact ⟨rfl, HB1.out⟩
  · have q1 : (k == 1) = false := by rw [beq_eq_false_iff_ne]; exact hk1
    rw [if_neg hk1] at hT
    by_cases hk2 : k = 2
    · rw [if_pos hk2] at hT
      have HR := Lib.hid (RtsQ.refquote7_any s (by omega))
      rw [hT] at HR
      have q2 : (k == 2) = true := by rw [hk2]; rfl
      clear hk1 hk2 hT hk0
      go_enter Tryd.func30, Tryd.ntmps30
      go_wp2_with fail
      refine (HR.out _).mono ?_
      rintro e w1 ⟨rfl, hb1⟩
      have HB1 := Lib.hid (HB.out.trans (hb1.mono HB.out.size))
      clear hb1
      go_wp2_with fail
      go_ret
      exact ⟨rfl, HB1.out⟩
    · have q2 : (k == 2) = false := by rw [beq_eq_false_iff_ne]; exact hk2
      rw [if_neg hk2] at hT
      have hT : s = T := hT
      subst hT
      clear hk1 hk2 hk0
      go_enter Tryd.func30, Tryd.ntmps30
      go_wp2_with fail
      go_ret
      exact ⟨rfl, HB.out⟩
theorem cond1 {k n : Int} : (k = 1 ∧ (n < 0 ∨ (maxI : Int) < n)) ↔ ((k == 1) = true ∧ (decide (n < 0) = true ∨ decide ((4611686018427387903 : Int) < n) = true)) := by
  have : (maxI : Int) = 4611686018427387903 := rfl
  rw [this]; simp
set_option maxRecDepth 100000 in
set_option maxHeartbeats 8000000 in
theorem ref_right (k n a : Int) (s : ByteArray) (hs : s.size ≤ 200000) (h0 : -9223372036854775808 ≤ n) (h1 : n ≤ 9223372036854775807) (w : World) :
    Calls Tryd.prog 19 #[.agg #[.int .i64 k, .string s, .int .i64 n, .int .i64 a]] w fun e w' => e = .returned (.bool (rightL ⟨k, s.data.toList, n⟩)) ∧ Below w.heap.size w w' := by
  have hB := below_oneL w (.cells #[.int .i64 k, .string s, .int .i64 n, .int .i64 a] 32)
  have hsz : w.heap.size < (w.alloc (.cells #[.int .i64 k, .string s, .int .i64 n, .int .i64 a] 32)).heap.size := by rw [World.size_alloc]; omega
  have HBX := Lib.hid (And.intro (heap_alloc_new w (.cells #[.int .i64 k, .string s, .int .i64 n, .int .i64 a] 32)) (And.intro hB hsz))
  unfold rightL
  by_cases hk0 : k = 0
  · rw [if_pos hk0]
    have q0 : (k == 0) = true := by rw [hk0]; rfl
    cases es : s.toList.isEmpty with
    | true =>
      have es2 : decide (s.data.toList = []) = true := by rw [← Lib.toList_data, decide_eq_true_eq]; simpa using es
      rw [es2]
      clear hB hsz hk0 es2
      cases en : (n == 0) with
      | true =>
        have en2 : decide (n = 0) = true := by simpa using en
        rw [en2]
        clear en2
        go_enter Tryd.func19, Tryd.ntmps19
        go_wp2_with fail
        go_ret
        exact ⟨rfl, HBX.out.2.1⟩
      | false =>
        have en2 : decide (n = 0) = false := by simpa using en
        rw [en2]
        clear en2
        go_enter Tryd.func19, Tryd.ntmps19
        go_wp2_with fail
        go_ret
        exact ⟨rfl, HBX.out.2.1⟩
    | false =>
      have es2 : decide (s.data.toList = []) = false := by rw [← Lib.toList_data, decide_eq_false_iff_not]; simpa using es
      rw [es2]
      clear hB hsz hk0 es2
      go_enter Tryd.func19, Tryd.ntmps19
      go_wp2_with fail
      go_ret
      exact ⟨rfl, HBX.out.2.1⟩
  have q0 : (k == 0) = false := by rw [beq_eq_false_iff_ne]; exact hk0
  rw [if_neg hk0]
  by_cases hb : k = 1 ∧ (n < 0 ∨ (maxI : Int) < n)
  · rw [if_pos hb]
    rw [cond1] at hb
    obtain ⟨q1, hb⟩ := hb
    clear hB hsz hk0
    cases en : decide (n < 0) with
    | true =>
      clear hb
      go_enter Tryd.func19, Tryd.ntmps19
      go_wp2_with fail
      go_ret
      exact ⟨rfl, HBX.out.2.1⟩
    | false =>
      have hb := hb.resolve_left (by rw [en]; simp)
      go_enter Tryd.func19, Tryd.ntmps19
      go_wp2_with fail
      go_ret
      exact ⟨rfl, HBX.out.2.1⟩
  rw [if_neg hb]
  rw [cond1] at hb
  have hb2 : ((k == 1) = false) ∨ ((k == 1) = true ∧ decide (n < 0) = false ∧ decide ((4611686018427387903 : Int) < n) = false) := by
    cases q1 : (k == 1) with
    | false => exact .inl rfl
    | true =>
      refine .inr ⟨rfl, ?_, ?_⟩
      · cases q : decide (n < 0) with
        | false => rfl
        | true => exact absurd ⟨q1, .inl q⟩ hb
      · cases q : decide ((4611686018427387903 : Int) < n) with
        | false => rfl
        | true => exact absurd ⟨q1, .inr q⟩ hb
  have hwr : wrt ⟨k, s.data.toList, n⟩ = spl ⟨k, s.data.toList, n⟩ := by unfold wrt; exact if_neg hk0
  have hw := ref_written k n a s hs h0 h1
  have hlen := spl_len k n s h0 h1
  rw [hwr] at hw
  obtain ⟨l, hl⟩ : ∃ l, spl ⟨k, s.data.toList, n⟩ = l := ⟨_, rfl⟩
  rw [hl] at hw hlen ⊢
  obtain ⟨T, hTl⟩ : ∃ T : ByteArray, (⟨l.toArray⟩ : ByteArray) = T := ⟨_, rfl⟩
  have hTd : T.data.toList = l := by rw [← hTl]
  have hTs : T.size = l.length := by rw [← hTl]; simp [ByteArray.size]
  rw [hTl] at hw
  have HW := Lib.hid hw
  have ht := ref_token T (by omega)
  rw [hTd] at ht
  clear hl hTl hb hwr hw hB hsz hk0 hTd hTs hlen
  cases et : tokL l with
  | none =>
    rw [et] at ht
    have HT := Lib.hid (show ∀ W, Calls _ _ _ W (fun e w' => e = .returned (.tuple #[.agg #[.int .i64 0, .string ⟨#[]⟩, .int .i64 0, .int .i64 0], .bool false]) ∧ Below W.heap.size W w') from ht)
    clear ht et
    rcases hb2 with qb2 | ⟨qb2, qb3, qb4⟩
    all_goals
      go_enter Tryd.func19, Tryd.ntmps19
      go_wp2_with fail
      refine (HW.out _).mono ?_
      rintro e w1 ⟨rfl, hb1⟩
      have HX := Lib.hid (HBX.out.2.1.trans (hb1.mono HBX.out.2.1.size))
      clear hb1
      go_wp2_with fail
      refine (HT.out _).mono ?_
      rintro e w2 ⟨rfl, hb2⟩
      have HX2 := Lib.hid (HX.out.trans (hb2.mono HX.out.size))
      clear hb2
      go_wp2_with fail
      go_ret
      exact ⟨rfl, HX2.out.alloc HX2.out.size _⟩
  | some x =>
    rw [et] at ht
    obtain ⟨X, hX⟩ : ∃ X : ByteArray, (⟨x.text.toArray⟩ : ByteArray) = X := ⟨_, rfl⟩
    have hXt : x.text = X.toList := by rw [← hX, Lib.toList_data]
    have HT := Lib.hid (show ∀ W, Calls _ _ _ W (fun e w' => e = .returned (.tuple #[.agg #[.int .i64 (x.kind : Int), .string X, .int .i64 (x.num : Int), .int .i64 0], .bool true]) ∧ Below W.heap.size W w') from by rw [← hX]; exact ht)
    simp only [hits]
    rw [hXt]
    clear ht et hX hXt
    generalize (x.kind : Int) = xk at HT ⊢
    generalize (x.num : Int) = xn at HT ⊢
    have b1 : (xk == k) = decide (xk = k) := by rw [Bool.eq_iff_iff]; simp
    have b2 : (X.toList == s.toList) = decide (X.toList = s.data.toList) := by rw [Bool.eq_iff_iff, ← Lib.toList_data s]; simp
    have b3 : (xn == n) = decide (xn = n) := by rw [Bool.eq_iff_iff]; simp
    generalize decide (xk = k) = d1 at b1 ⊢
    generalize decide (X.toList = s.data.toList) = d2 at b2 ⊢
    generalize decide (xn = n) = d3 at b3 ⊢
    rcases hb2 with qb2 | ⟨qb2, qb3, qb4⟩
    all_goals
      go_enter Tryd.func19, Tryd.ntmps19
      go_wp2_with fail
      refine (HW.out _).mono ?_
      rintro e w1 ⟨rfl, hb1⟩
      have HX := Lib.hid (And.intro (stays_blk HBX.out.1 hb1 HBX.out.2.2) (And.intro (HBX.out.2.1.trans (hb1.mono HBX.out.2.1.size)) (Nat.lt_of_lt_of_le HBX.out.2.2 hb1.size)))
      clear hb1
      go_wp2_with fail
      refine (HT.out _).mono ?_
      rintro e w2 ⟨rfl, hb2⟩
      have HX2 := Lib.hid (And.intro (stays_blk HX.out.1 hb2 HX.out.2.2) (HX.out.2.1.trans (hb2.mono HX.out.2.1.size)))
      have hs2 := hb2.size
      clear hb2
      have HX3 := fun (o : Obj) => stays_blk HX2.out.1 (below_oneL w2 o) (Nat.lt_of_lt_of_le HX.out.2.2 hs2)
      have c0 := fun (o : Obj) => blk_cellL (HX3 o) 0
      have c1 := fun (o : Obj) => blk_cellL (HX3 o) 1
      have c2 := fun (o : Obj) => blk_cellL (HX3 o) 2
      have c3 := fun (o : Obj) => blk_cellL (HX3 o) 3
      clear HX3 hs2
      cases d1
      · go_wp2_with fail
        go_ret
        exact ⟨rfl, HX2.out.2.alloc HX2.out.2.size _⟩
      · cases d2
        · go_wp2_with fail
          go_ret
          exact ⟨rfl, HX2.out.2.alloc HX2.out.2.size _⟩
        · cases d3
          · go_wp2_with fail
            go_ret
            exact ⟨rfl, HX2.out.2.alloc HX2.out.2.size _⟩
          · go_wp2_with fail
            go_ret
            exact ⟨rfl, HX2.out.2.alloc HX2.out.2.size _⟩
end Go.Proofs.YtphhokpbkcdljaaDoor
