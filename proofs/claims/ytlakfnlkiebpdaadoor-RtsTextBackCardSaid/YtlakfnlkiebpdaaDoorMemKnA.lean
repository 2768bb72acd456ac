/- An object more, and a memory that is the call's own. Conditions: none. -/
import Derived.Test.YtlakfnlkiebpdaaDoorMemA
namespace Go.Proofs.YtlakfnlkiebpdaaDoor
open Go Go.RowKit
section
variable {w : World} {b W h : Nat} {R : Nat → Value} {now old : List Ob}
theorem newOb_len {k s t : Nat} (h : t ≤ s) : (newOb k s t).ws.length = s := by simp [newOb]; omega
theorem wf_alloc {k s t : Nat} (z : WF W h now old) (hr : rightB k s t = true) (hf : used now + s + 1 ≤ W) : WF W h (now ++ [newOb k s t]) old := by
  have hb := right_bd hr
  have hl : (newOb k s t).ws.length = s := newOb_len (by omega)
  refine ⟨z.w0, z.w1, z.hh, ?_, z.uo, fun o ho => ?_, z.oko, fun o ho => ?_⟩
  · rw [used_append, used_one, hl]; omega
  · rcases List.mem_append.1 ho with h | h
    · exact z.okn o h
    · obtain rfl := List.mem_singleton.1 h
      refine ⟨by rw [hl]; exact hr, Nat.zero_le _, fun x hx => ?_⟩
      rcases List.mem_append.1 hx with q | q
      · have := List.eq_of_mem_replicate q; omega
      · have := List.eq_of_mem_replicate q; omega
  · rcases List.mem_append.1 ho with h | h
    · exact z.fresh o h
    · obtain rfl := List.mem_singleton.1 h; rfl
end
theorem own_nil {B b : Nat} (hb : B ≤ b) : ∀ i, Own b (fun _ => .slice none 0 0) i → B ≤ i := by
  rintro i (rfl | ⟨r, _, hg⟩)
  · exact hb
  · cases hg
section
variable {w : World} {b W h : Nat} {R : Nat → Value} {now old : List Ob}
theorem alloc_to (m : Mem w b W h R now old) (z : WF W h now old) (k s t : Nat) (K S T A : Int) (hK : K = k) (hS : S = s) (hT : T = t) (hA : adr h W (used now) = A) (hr : rightB k s t = true) (hf : used now + s + 1 ≤ W) :
    Calls Tryd.prog 42 #[.pointer (some ⟨b, 0, none⟩), .int .i64 K, .int .i64 S, .int .i64 T] w fun e w' => e = .returned (.tuple #[.int .i64 A, .int .i64 0]) ∧ ∃ R', Mem w' b W h R' (now ++ [newOb k s t]) old ∧ (∀ i, Own b R' i → Own b R i ∨ w.heap.size ≤ i) ∧ Fr (Own b R) w w' := by
  subst hK hS hT hA
  exact alloc_ok m z k s t hr hf
end
theorem used_rep (q : Nat) (o : Ob) : used (List.replicate q o) = q * (1 + o.ws.length) := by
  induction q with
  | zero => simp [used]
  | succ q ih => rw [List.replicate_succ', used_append, ih, used_one, Nat.succ_mul]
/-- what holds of a memory that is the call's own -/
structure MW (w : World) (b W h : Nat) (now old : List Ob) (wr : World) (R : Nat → Value) : Prop where
  m : Mem wr b W h R now old
  z : WF W h now old
  ge : ∀ i, Own b R i → w.heap.size ≤ i
  fr : Below w.heap.size w wr
theorem MW.drewN {w : World} {b W h : Nat} {now old : List Ob} {wr : World} {R : Nat → Value} (x : MW w b W h now old wr R) (n : Nat) : MW w b W h now old (wr.drewN n) R := ⟨x.m.drewN n, x.z, x.ge, ⟨x.fr.os, x.fr.tape, x.fr.output, x.fr.size, x.fr.block⟩⟩
theorem MW.next {w : World} {b W h h' : Nat} {now old now' old' : List Ob} {wr w1 : World} {R R' : Nat → Value} (x : MW w b W h now old wr R) (m : Mem w1 b W h' R' now' old') (z : WF W h' now' old') (hs : ∀ i, Own b R' i → Own b R i ∨ wr.heap.size ≤ i) (hf : Fr (Own b R) wr w1) : MW w b W h' now' old' w1 R' :=
  ⟨m, z, fun i hi => by
    rcases hs i hi with a | a
    · exact x.ge i a
    · exact Nat.le_trans x.fr.size a, x.fr.trans (hf.below x.fr.size x.ge)⟩
theorem MW.new (w : World) {W : Nat} (h0 : 64 ≤ W) (h1 : W ≤ 65536) : MW w w.heap.size W 0 [] [] (w.alloc (newObj W)) (fun _ => .slice none 0 0) :=
  ⟨new_mem W w, wf_new h0 h1, own_nil (Nat.le_refl _), (Below.refl _ _).alloc (Nat.le_refl _) _⟩
theorem free_m {w : World} {b W h : Nat} {now old : List Ob} {R : Nat → Value} (m : Mem w b W h R now old) (z : WF W h now old) {u : Nat} (hu : used now = u) (A : Int) (hA : (W : Int) - u = A) : Calls Tryd.prog 80 #[.pointer (some ⟨b, 0, none⟩)] w fun e w' => e = .returned (.int .i64 A) ∧ ∃ n, w' = w.drewN n := by
  have := free_any m z.sizes
  rw [rows_cells, half_now, flat_length, hu, hA] at this
  exact this
end Go.Proofs.YtlakfnlkiebpdaaDoor
