/- The contracts of Lent, Kept and SameWords over words as they lie. Conditions: at most 1000 words. -/
import Derived.Test.YtjdhjehnofediaaGcRefS
import Derived.Test.YtjdhjehnofediaaGcGrow
namespace Go.Proofs.Ytjdhjehnofediaa
open Go Go.RowKit
theorem WordsV.at_ {w : World} {a : Option Addr} {N : Nat} {ns : List Nat} (h : WordsV w a N ns) {b off : Nat} (ha : a = some ⟨b, off, none⟩) : ∀ j, j < N → b < w.heap.size ∧ w.cell? ⟨b, off + j, none⟩ = some (.int .u64 (ns.getD j 0 : Nat)) := by
  intro j hj
  have hx : ns[j]? = some (ns.getD j 0) := by
    rw [List.getD_eq_getElem?_getD, List.getElem?_eq_getElem (by rw [h.len]; exact hj)]; rfl
  obtain ⟨g, o, e, h1, h2⟩ := h.cell j _ hx
  rw [ha] at e
  have e2 := Option.some.inj e
  injection e2 with e3 e4 _
  subst e3 e4
  exact ⟨h1, h2⟩
theorem sameV {w : World} {a b : Option Addr} {N c d : Nat} {ns : List Nat} (h1 : WordsV w a N ns) (h2 : WordsV w b N ns) (hN : N ≤ 100000) :
    Calls Try.prog 21 #[.slice a N c, .slice b N d] w fun e w' => e = .returned (.bool true) ∧ Below w.heap.size w w' := by
  by_cases h0 : N = 0
  · subst h0; exact same_empty a b c d w
  · obtain ⟨x, hx⟩ : ∃ x, ns[0]? = some x := ⟨_, List.getElem?_eq_getElem (by rw [h1.len]; omega)⟩
    obtain ⟨g1, o1, rfl, hg1, _⟩ := h1.cell 0 x hx
    obtain ⟨g2, o2, rfl, hg2, _⟩ := h2.cell 0 x hx
    exact same_yes g1 o1 c g2 o2 d N ns hN w hg1 hg2 (fun j hj => (h1.at_ rfl j hj).2) (fun j hj => (h2.at_ rfl j hj).2)
/-- what Lent hands back: the words, with the mark 71 behind them in the same new row -/
def LentV (w : World) (N : Nat) (ns : List Nat) (e : Ending) (w' : World) : Prop := ∃ g cap, e = .returned (.slice (some ⟨g, 0, none⟩) N cap) ∧ w'.ownsRow w.heap.size 56 1 (.slice (some ⟨g, 0, none⟩) (N + 1) cap) (N + 1) (u64s (ns ++ [71])) ∧ Below w.heap.size w w'
set_option maxRecDepth 100000 in
set_option maxHeartbeats 8000000 in
theorem lentV_any {w : World} {a : Option Addr} {N c : Nat} {ns : List Nat} (hv : WordsV w a N ns) (hno : a = none → c = 0) (hN : N ≤ 1000) :
    Calls Try.prog 18 #[.slice a N c] w (LentV w N ns) := by
  obtain ⟨i0, hi, hz0, hz1, hz2⟩ := info_parts infoU64
  have hl := hv.len
  have HNO := Lib.hid (show a = none → c = 0 ∧ N = 0 from fun e => ⟨hno e, by
    cases hns : ns with
    | nil => rw [hns] at hl; exact hl.symm
    | cons x xs => obtain ⟨g, off, h1, _⟩ := hv.cell 0 x (by rw [hns]; rfl); rw [e] at h1; cases h1⟩)
  have HNS := Lib.hid (show ∀ j u, (u64s ns)[j]? = some u → ∃ ad, a = some ad ∧ w.cell? (ad.add j) = some u from fun j u hu => by
    unfold u64s at hu
    rw [List.getElem?_map] at hu
    cases hx : ns[j]? with
    | none => rw [hx] at hu; cases hu
    | some x =>
      rw [hx] at hu
      obtain rfl := Option.some.inj hu
      obtain ⟨g, off, e1, _, e2⟩ := hv.cell j x hx
      exact ⟨_, e1, by rw [plain_add]; exact e2⟩)
  have HLN := Lib.hid (show (u64s ns).length = N by simp [u64s]; exact hl)
  clear hv hno hl
  have tok1 : True := trivial
  go_enter Try.func18, Try.ntmps18
  go_wp2_with (first
    | (at_builtin; have _t := tok1; refine wpList_append_opt rfl _ _ 32 rfl w.heap.size 56 i0 (.int .u64 0) 8 Try.underlying32 hi hz0 hz1 hz2 rfl (.slice none 0 0) 0 [] rfl (World.ownsRow_nil _ _ _ _) a N c (u64s ns) rfl HNO.out HLN.out HNS.out (fun y hy => by obtain ⟨z, _, rfl⟩ := List.mem_map.1 hy; rfl) (by unfold maxLen; omega) (by omega) (Nat.le_refl _) ?_; intro v1 w1 hown1 hgrow1 _; rw [Nat.zero_add, List.nil_append] at hown1; obtain ⟨a1, c1, rfl, hc1, hc2⟩ := own_shape5 (own_mono hown1 (Nat.zero_le _)); have HO1 := Lib.hid hown1; have HB1 := Lib.hid (((Fr.refl (fun _ => False) w).grown hgrow1 (fun _ q => by cases q)).below (Nat.le_refl _) (fun _ q => q.elim)); clear tok1 _t hown1 hgrow1)
    | (at_builtin; refine wpList_append_own_at _ rfl _ _ 32 rfl w.heap.size 56 i0 (.int .u64 0) 1 8 Try.underlying32 hi hz0 hz1 hz2 rfl (by decide) (.slice a1 N c1) _ _ rfl (HO1.out.alloc _) ⟨w1.heap.size, 0, none⟩ 1 1 [.int .u64 71] rfl rfl (cell_one_new _ _ _) (by simp [Value.oneCell']) (by unfold maxLen; omega) (by omega) (by simp; have := HB1.out.size; omega) ?_; intro v2 w2 hown2 hgrow2 _ _; obtain ⟨g2, c2, rfl⟩ := ownsRow_succ hown2; rw [show u64s ns ++ [Value.int .u64 71] = u64s (ns ++ [71]) from by simp [u64s]] at hown2; obtain ⟨a3, c3, he3, hc3, hc4⟩ := own_shape5 (own_mono hown2 (Nat.zero_le _)); injection he3 with q1 q2 q3; subst q3; have HO2 := Lib.hid hown2; have HB2 := Lib.hid (((HB1.out.alloc HB1.out.size _)).grown hgrow2 (by simp; have := HB1.out.size; omega) (fun j hj => (HO1.out.lt j hj).1)); clear hown2 hgrow2 q1 q2))
  have hle4 : N ≤ c2 := by omega
  go_ret
  exact ⟨g2, c2, rfl, HO2.out, HB2.out⟩
theorem lentV_words {w : World} {B g cap N : Nat} {ns : List Nat} (h : w.ownsRow B 56 1 (.slice (some ⟨g, 0, none⟩) (N + 1) cap) (N + 1) (u64s (ns ++ [71]))) (hl : ns.length = N) (hw : ∀ x ∈ ns, x < 18446744073709551616) (hN : N ≤ 1000) : WordsV w (some ⟨g, 0, none⟩) N ns := by
  obtain ⟨a, c, e, hv, _⟩ := wordsV_own h (by simp [hl]) (by omega) (fun x hx => by
    rcases List.mem_append.1 hx with q | q
    · exact hw x q
    · rw [List.mem_singleton.1 q]; omega)
  injection e with e1 e2 e3
  subst e1
  have := hv.take (t := N) (by omega)
  rwa [List.take_append_of_le_length (by omega), List.take_of_length_le (by omega)] at this
set_option maxRecDepth 100000 in
set_option maxHeartbeats 8000000 in
theorem keptV_any {w : World} {B g cap N c : Nat} {a : Option Addr} {ns : List Nat} (h : w.ownsRow B 56 1 (.slice (some ⟨g, 0, none⟩) (N + 1) cap) (N + 1) (u64s (ns ++ [71]))) (hv : WordsV w a N ns) (hN : N ≤ 1000) :
    Calls Try.prog 23 #[.slice (some ⟨g, 0, none⟩) N cap, .slice a N c] w fun e w' => e = .returned (.bool true) ∧ Below w.heap.size w w' := by
  have HS := Lib.hid (sameV (c := cap) (d := c) (lentV_words h hv.len hv.word hN) hv (by omega))
  obtain ⟨a3, c3, he3, hle1, hle2⟩ := own_shape5 (own_mono h (Nat.zero_le _))
  injection he3 with q1 q2 q3
  subst q3
  have hl := hv.len
  have hcell : w.cell? ⟨g, N, none⟩ = some (.int .u64 71) := by
    rw [h.cellAt N (by omega)]
    simp [u64s, hl]
  have hg : g < w.heap.size := (h.lt g rfl).2
  have HC := Lib.hid hcell
  clear h hv hl hcell q1 q2
  go_enter Try.func23, Try.ntmps23
  go_wp2_with fail
  refine HS.out.mono ?_
  rintro e w1 ⟨rfl, hb⟩
  have hc1 : w1.cell? ⟨g, N, none⟩ = some (.int .u64 71) := by rw [hb.cell (p := ⟨g, N, none⟩) hg]; exact HC.out
  have HB := Lib.hid hb
  clear hb
  go_wp2_with fail
  go_ret
  exact ⟨rfl, HB.out⟩
end Go.Proofs.Ytjdhjehnofediaa
