/- Lines of both. Conditions: the text is not over-long; the library's bound on searches holds some integer. -/
import Derived.RangeFuncBox
import Derived.RangeFuncLeaves
import Derived.Shelf.Abstract
import Derived.WalkKit
import Derived.OwnWalkIn
import Derived.TacticsInMore
import Derived.LoopNIn
import Derived.LoopIn
import Derived.Maps.AppendAt
import Derived.Laws.MakeOwn
import Derived.Laws.OwnMore
import Derived.OwnWalk
import Derived.Laws.AppendOwn
import Derived.RangeFuncNested
import Derived.Lib.Hide
import Derived.IntWalk
import Derived.Below
import Derived.Test.YtfpgalckmfdcmaaDoorShelf
import Derived.Test.YtfpgalckmfdcmaaDoorIsaLinesM
namespace Go.Proofs.YtfpgalckmfdcmaaDoor
open Go Go.RowKit Go.Shelf
attribute [local go_sem] Oper.semAt_some
theorem infoStr : (Tryd.prog.info? 9).map (fun i => (i.zero, i.size, i.bytes)) = some (some (.string ⟨#[]⟩), 1, 16) := by kernel_rfl
def lineV (l : List UInt8) : Value := .string ⟨l.toArray⟩
/-- the piece between two places -/
def piece (l : List UInt8) (g k : Nat) : List UInt8 := (l.drop g).take (k - g)
theorem piece_ext (s : ByteArray) (g k : Nat) : Value.string (s.extract g k) = lineV (piece s.data.toList g k) := by
  unfold lineV piece
  congr 1
  apply ByteArray.ext
  simp [ByteArray.data_extract]
  apply Array.ext'
  simp
/-- what the reference has found up to a place -/
structure LP (l : List UInt8) (k g : Nat) (P : List (List UInt8)) : Prop where
  gk : g ≤ k
  kl : k ≤ l.length
  e : linesOf l = P ++ linesOf (l.drop g)
  no : ∀ x ∈ piece l g k, x ≠ 10
  pk : P.length ≤ k
theorem LP.init (l : List UInt8) : LP l 0 0 [] := ⟨Nat.le_refl _, Nat.zero_le _, rfl, by simp [piece], Nat.le_refl _⟩
theorem piece_succ {l : List UInt8} {g k : Nat} (hgk : g ≤ k) (hk : k < l.length) : piece l g (k + 1) = piece l g k ++ [l[k]] := by
  unfold piece
  rw [show k + 1 - g = (k - g) + 1 from by omega, List.take_succ_eq_append_getElem (by rw [List.length_drop]; omega)]
  congr 2
  rw [List.getElem_drop]
  congr 1
  omega
theorem drop_piece {l : List UInt8} {g k : Nat} (hgk : g ≤ k) (hk : k < l.length) : l.drop g = piece l g k ++ l[k] :: l.drop (k + 1) := by
  have h1 : l.drop g = piece l g k ++ (l.drop g).drop (k - g) := (List.take_append_drop _ _).symm
  rw [List.drop_drop, show g + (k - g) = k from by omega, List.drop_eq_getElem_cons hk] at h1
  exact h1
theorem LP.go {l : List UInt8} {k g : Nat} {P : List (List UInt8)} (h : LP l k g P) (hk : k < l.length) (hn : l[k] ≠ 10) : LP l (k + 1) g P :=
  ⟨Nat.le_succ_of_le h.gk, hk, h.e, fun x hx => by
    rw [piece_succ h.gk hk] at hx
    rcases List.mem_append.1 hx with q | q
    · exact h.no x q
    · rw [List.mem_singleton.1 q]; exact hn, Nat.le_succ_of_le h.pk⟩
theorem LP.cut {l : List UInt8} {k g : Nat} {P : List (List UInt8)} (h : LP l k g P) (hk : k < l.length) (hn : l[k] = 10) : LP l (k + 1) (k + 1) (P ++ [piece l g k]) := by
  refine ⟨Nat.le_refl _, hk, ?_, by simp [piece], by simp; exact h.pk⟩
  have := h.e
  rw [drop_piece h.gk hk, hn, linesOf_cut h.no] at this
  rw [this]
  simp
theorem LP.last {l : List UInt8} {g : Nat} {P : List (List UInt8)} (h : LP l l.length g P) (hg : g < l.length) : linesOf l = P ++ [piece l g l.length] := by
  have hp : piece l g l.length = l.drop g := by
    unfold piece
    exact List.take_of_length_le (by rw [List.length_drop]; exact Nat.le_refl _)
  have h1 := h.e
  have h2 := h.no
  rw [hp] at h2 ⊢
  rw [linesOf_last h2 (by intro e; have := congrArg List.length e; rw [List.length_drop] at this; simp at this; omega)] at h1
  exact h1
theorem LP.none {l : List UInt8} {P : List (List UInt8)} (h : LP l l.length l.length P) : linesOf l = P := by
  have h1 := h.e
  rw [List.drop_of_length_le (Nat.le_refl _)] at h1
  simpa [linesOf] using h1
theorem strs_snoc (P : List (List UInt8)) (x : List UInt8) : P.map lineV ++ [lineV x] = (P ++ [x]).map lineV := by simp
set_option maxRecDepth 100000 in
set_option maxHeartbeats 4000000 in
theorem reflines_any (s : ByteArray) (hs : s.size ≤ 60000) (w : World) :
    Calls Tryd.prog 19 #[.string s] w fun e w' => (∃ v, e = .returned v ∧ w'.ownsRow w.heap.size 9 1 v (linesOf s.data.toList).length ((linesOf s.data.toList).map lineV)) ∧ Below w.heap.size w w' := by
  obtain ⟨i0, hi, hz0, hz1, hz2⟩ := info_parts infoStr
  go_enter Tryd.func19, Tryd.ntmps19
  obtain ⟨N, hN⟩ : ∃ N, s.size = N := ⟨_, rfl⟩
  have hL : s.data.toList.length = N := by rw [Array.length_toList]; exact hN
  have HN := Lib.hid hN
  have HL := Lib.hid hL
  clear hL hN
  go_wp2_with fail
  go_loopw [3, 4, 5] (fun v f i wr => ∃ (k g : Nat) (P : List (List UInt8)), LP s.data.toList k g P ∧ i = .int .i64 k ∧ f = .int .i64 g ∧ wr.ownsRow w.heap.size 9 1 v P.length (P.map lineV) ∧ Below w.heap.size w wr) (fun _ _ i _ => s.size - (intOf i).toNat)
  case atStart => exact ⟨0, 0, [], LP.init _, rfl, rfl, World.ownsRow_nil _ _ _ _, Below.refl _ _⟩
  case round =>
    obtain ⟨k, g, P, hp, rfl, rfl, hown, hb⟩ := hrel
    have hgk := hp.gk
    have hkN := hp.kl
    rw [HL.out] at hkN
    have hpk := hp.pk
    have hkS : k ≤ s.size := by rw [HN.out]; exact hkN
    have HP := Lib.hid hp
    have HO := Lib.hid hown
    have HB := Lib.hid hb
    have hsz := hb.size
    by_cases hlt : k < s.size
    · have hltl : k < s.data.toList.length := by rw [HL.out, ← HN.out]; exact hlt
      have hget : s.data.toList[k] = s[k]'hlt := by simp; rfl
      by_cases h10 : s[k]'hlt = 10
      · have q : (((s[k]'hlt).toNat : Int) == 10) = true := by rw [h10]; rfl
        have HC := Lib.hid (hp.cut hltl (by rw [hget]; exact h10))
        have HS := Lib.hid (strs_snoc P (piece s.data.toList g k))
        have HX := Lib.hid (piece_ext s g k)
        have z0 : (0 : Int) ≤ (g : Int) := by omega
        have z1 : (g : Int) ≤ (k : Int) := by omega
        have z2 : (k : Int) ≤ (s.size : Int) := by omega
        have z3 : (0 : Int) ≤ (k : Int) := by omega
        have z4 : (g : Int) ≤ (s.size : Int) := by omega
        have z5 : k ≤ s.size := by omega
        clear hp hown hb hget hltl
        go_wp2_with (at_builtin; refine wpList_append_own _ rfl _ _ 39 rfl w.heap.size 9 i0 (.string ⟨#[]⟩) 1 16 Tryd.underlying39 hi hz0 hz1 hz2 rfl (by decide) _ _ _ rfl (HO.out.alloc _) ⟨wr.heap.size, 0, none⟩ 1 1 [.string (s.extract g k)] rfl rfl (cell_one_new _ _ _) (by simp [Value.oneCell']) (by unfold maxLen; omega) (by omega) (by simp; omega) ?_; intro v' w2 hown' hgrow _; rw [HX.out, HS.out] at hown'; have HOW := Lib.hid hown'; have HB2 := Lib.hid (((HB.out.alloc hsz _).grown hgrow (by simp; omega) (fun r e => (HO.out.lt r e).1) : Below w.heap.size w w2)); obtain ⟨g', cap', rfl⟩ := ownsRow_succ hown'; clear hown' hgrow)
        go_roundw
        case rel => exact ⟨k + 1, k + 1, _, HC.out, by go_num, by go_num, by simpa using HOW.out, HB2.out⟩
        case measure => simp [intOf]; omega
      · have q : (((s[k]'hlt).toNat : Int) == 10) = false := by
          have : (s[k]'hlt).toNat ≠ 10 := fun e => h10 (UInt8.toNat_inj.1 e)
          simpa using (by omega : ¬ (((s[k]'hlt).toNat : Int) = 10))
        have HC := Lib.hid (hp.go hltl (by rw [hget]; exact h10))
        clear hp hown hb hget hltl
        go_wp2_with fail
        go_roundw
        case rel => exact ⟨k + 1, g, P, HC.out, by go_num, rfl, HO.out, HB.out⟩
        case measure => simp [intOf]; omega
    · obtain rfl : k = s.size := by omega
      by_cases hg : g < s.size
      · have z0 : (0 : Int) ≤ (g : Int) := by omega
        have z4 : (g : Int) ≤ (s.size : Int) := by omega
        have z6 : (g : Int) < (s.size : Int) := by omega
        have HS := Lib.hid (strs_snoc P (piece s.data.toList g s.size))
        have HX := Lib.hid (piece_ext s g s.size)
        have HE : Hid (linesOf s.data.toList = P ++ [piece s.data.toList g s.size]) := by
          have hl : s.data.toList.length = s.size := by rw [HL.out, HN.out]
          have hq := HP.out
          rw [← hl] at hq ⊢
          exact hq.last (by rw [hl]; exact hg)
        clear hp hown hb
        go_wp2_with (at_builtin; refine wpList_append_own _ rfl _ _ 39 rfl w.heap.size 9 i0 (.string ⟨#[]⟩) 1 16 Tryd.underlying39 hi hz0 hz1 hz2 rfl (by decide) _ _ _ rfl (HO.out.alloc _) ⟨wr.heap.size, 0, none⟩ 1 1 [.string (s.extract g s.size)] rfl rfl (cell_one_new _ _ _) (by simp [Value.oneCell']) (by unfold maxLen; omega) (by omega) (by simp; omega) ?_; intro v' w2 hown' hgrow _; rw [HX.out, HS.out] at hown'; have HOW := Lib.hid hown'; have HB2 := Lib.hid (((HB.out.alloc hsz _).grown hgrow (by simp; omega) (fun r e => (HO.out.lt r e).1) : Below w.heap.size w w2)); obtain ⟨g', cap', rfl⟩ := ownsRow_succ hown'; clear hown' hgrow)
        go_ret
        rw [HE.out]
        exact ⟨⟨_, rfl, by simpa using HOW.out⟩, HB2.out⟩
      · obtain rfl : g = s.size := by omega
        have HE : Hid (linesOf s.data.toList = P) := by
          have hl : s.data.toList.length = s.size := by rw [HL.out, HN.out]
          have hq := HP.out
          rw [← hl] at hq
          exact hq.none
        clear hp hown hb
        go_wp2_with fail
        go_ret
        rw [HE.out]
        exact ⟨⟨_, rfl, HO.out⟩, HB.out⟩
end Go.Proofs.YtfpgalckmfdcmaaDoor
