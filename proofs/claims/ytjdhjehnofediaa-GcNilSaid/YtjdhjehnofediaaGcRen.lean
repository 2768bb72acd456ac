/- The contracts of gc's renewed; Live and Collect of a memory that is not there. Conditions: the memory lies as Mem says. -/
import Derived.Test.YtjdhjehnofediaaGcLive
import Derived.Test.YtjdhjehnofediaaMemMoveK
namespace Go.Proofs.Ytjdhjehnofediaa
open Go Go.RowKit Go.Shelf
attribute [local go_sem] Oper.semAt_some
section
variable {w : World} {b W h : Nat} {R : Nat → Value} {now old : List Ob}
theorem renewed_int (n : Nat) (hn : n < 18446744073709551616) (h1 : n % 2 = 1) (p : Option Addr) : Calls Try.prog 56 #[.pointer p, .int .u64 (n : Int)] w fun e w' => e = .returned (.int .u64 (n : Int)) ∧ w' = w := by
  have HI := Lib.hid (fun W1 => isint_any (n : Int) W1 (by omega) (by omega))
  have q0 : isIntB (n : Int) = true := by unfold isIntB; simpa using by omega
  rw [q0] at HI
  clear q0 h1 hn
  go_enter Try.func56, Try.ntmps56
  go_wp2_with fail
  refine (HI.out _).mono ?_
  rintro e w1 ⟨rfl, hw⟩
  subst w1
  go_wp2_with fail
  go_ret
  exact ⟨rfl, rfl⟩
theorem renewed_ptr (m : Mem w b W h R now old) (z : WF W h now old) (n : Nat) (hn : n < 18446744073709551616) (h1 : n % 2 ≠ 1) {j : Nat} {o : Ob} (hi : idxAt old (1 - h) W (toP n) = some j) (ho : old[j]? = some o) (ht : o.to ≠ 0) :
    Calls Try.prog 56 #[.pointer (some ⟨b, 0, none⟩), .int .u64 (n : Int)] w fun e w' => e = .returned (.int .u64 ((2 * o.to : Nat) : Int)) ∧ ∃ k, w' = w.drewN k := by
  have HI := Lib.hid (fun W1 => isint_any (n : Int) W1 (by omega) (by omega))
  have q0 : isIntB (n : Int) = false := by unfold isIntB; simpa using by omega
  rw [q0] at HI
  have HT := Lib.hid (fun W1 => toptr_any (n : Int) W1 (by omega) (by omega))
  have ha2 : toP (n : Int) ≤ 9223372036854775807 := by unfold toP; split <;> omega
  have HMV := Lib.hid (move_done m z (toP (n : Int)) ha2 hi ho ht)
  have hto := (z.oko o (List.mem_of_getElem? ho)).to
  have HP := Lib.hid (fun W1 => ptr_word o.to (by omega) hto W1)
  clear q0 h1 hn m z hi ho ht ha2 hto
  go_enter Try.func56, Try.ntmps56
  go_wp2_with fail
  refine (HI.out _).mono ?_
  rintro e w1 ⟨rfl, hw⟩
  subst hw
  go_wp2_with fail
  refine (HT.out _).mono ?_
  rintro e w1 ⟨rfl, hw⟩
  subst hw
  go_wp2_with fail
  refine HMV.out.mono ?_
  rintro e w1 ⟨rfl, n1, hw⟩
  go_wp2_with fail
  refine (HP.out _).mono ?_
  rintro e w2 ⟨rfl, hw2⟩
  subst w2
  go_wp2_with fail
  go_ret
  exact ⟨rfl, n1, rfl⟩
end
theorem collect_nil (v : Value) (w : World) : Calls Try.prog 19 #[.pointer none, v] w fun e w' => e = .returned (.tuple #[.slice none 0 0, .int .i64 2]) ∧ Below w.heap.size w w' := by
  refine (callsIn_wide (n := 3)).1 ?_
  refine callsIn_of_wp_marks Try.func19 rfl trivial ?_ rfl
  simp only [Try.ntmps19, List.size_toArray, List.length_cons, List.length_nil, Nat.reduceAdd, Nat.reduceSub, Array.replicate_succ, Array.replicate_zero, List.push_toArray, List.append_toArray, List.nil_append, List.cons_append]
  gi_wp2_with fail
  refine ⟨trivial, ?_⟩
  refine (callsIn_wide.2 (trace_nil _ _)).mono ?_
  rintro e w1 ⟨rfl, hw⟩
  subst w1
  gi_wp2_with fail
  refine ⟨_, results_tmp2 rfl _ _ _, rfl, (Below.refl _ w).alloc (Nat.le_refl _) _⟩
set_option maxRecDepth 100000 in
set_option maxHeartbeats 4000000 in
theorem live_nil (v : Value) (w : World) : Calls Try.prog 28 #[.pointer none, v] w fun e w' => e = .returned (.tuple #[.int .i64 0, .int .i64 2]) ∧ Below w.heap.size w w' := by
  refine (callsIn_wide (n := 3)).1 ?_
  refine callsIn_of_wp_marks Try.func28 rfl trivial ?_ rfl
  simp only [Try.ntmps28, List.size_toArray, List.length_cons, List.length_nil, Nat.reduceAdd, Nat.reduceSub, Array.replicate_succ, Array.replicate_zero, List.push_toArray, List.append_toArray, List.nil_append, List.cons_append]
  gi_wp2_with fail
  refine ⟨trivial, ?_⟩
  refine (callsIn_wide.2 (trace_nil _ _)).mono ?_
  rintro e w1 ⟨rfl, hw⟩
  subst w1
  obtain ⟨w2, hw2⟩ : ∃ w2, w.alloc (.cells #[.pointer none] 26) = w2 := ⟨_, rfl⟩
  have hB2 : Below w.heap.size w w2 := by rw [← hw2]; exact (Below.refl _ w).alloc (Nat.le_refl _) _
  have HS2 := Lib.hid (show w2.heap.size = w.heap.size + 1 from by rw [← hw2]; simp)
  have HB2 := Lib.hid hB2
  rw [hw2]
  clear hw2 hB2
  gi_wp2_with (refine ⟨trivial, ?_⟩; gi_at_call 52; refine (each_in Fence.wide _ trivial rfl _ _ _ _).mono ?_; rintro e w' ⟨rfl, rfl⟩)
  have bI := Boxed.new w2 3 (.int .i64 0)
  have bN := Boxed.new (w2.alloc (.cells #[.int .i64 0] 3)) 23 (.slice none 0 0)
  rw [World.size_alloc] at bN
  have hB3 : Below w2.heap.size w2 ((w2.alloc (.cells #[.int .i64 0] 3)).alloc (.cells #[.slice none 0 0] 23)) := ((Below.refl _ w2).alloc (Nat.le_refl _) _).alloc (by simp) _
  refine wpIn_rangeFunc_ownG rfl (by omega) (gf := 80) (lb := #[.pointer (some ⟨w2.heap.size + 1, 0, none⟩)]) rfl trivial (enters_of Try.func80 (by kernel_rfl) rfl)
    (each_stops (3 - 1) (by omega) (w2.heap.size + 1) (.slice none 0 0) [] _ bN (World.ownsRow_nil _ _ _ _)) keepL_t keepL_b (Below.refl _ _) (fun _ => rfl)
    (fun _ W' => Boxed W' w2.heap.size 3 (.int .i64 0) ∧ Below w2.heap.size w2 W')
    (fun _ _ _ => False)
    (OwnFrom.and (Own.from (boxed_own w2.heap.size 3 (fun (_ : List Nat) => .int .i64 0)) _) (ownFrom_below (Nat.le_refl _) (by simp; omega)))
    (fun _ _ _ _ _ hs _ _ => hs)
    ⟨bI.alloc _, hB3⟩
    ?a1 ?assign ?body ?done ?stop
  case assign =>
    intro l x W' K hK
    gi_wp2
    exact hK
  case body =>
    intro l pre x W' _ hlt
    exact absurd hlt (Nat.not_lt_zero _)
  case done =>
    rintro D ys W' hD rfl ⟨hI, hB⟩ hK
    have hci := hI.cell
    have HB := Lib.hid hB
    have HKD := Lib.hid hK
    clear hI hB hK
    gi_wp2_with fail
    refine ⟨by simp, .inl ⟨_, _, rfl, run_takeDeferred HKD.out, ?_⟩⟩
    refine ⟨_, results_tmp2 rfl _ _ _, rfl, (HB2.out.trans (HB.out.mono HB2.out.size)).trans (belowK_b (w := w) (Nat.le_refl _) W' D _ _ (by have := HS2.out; simp at hD; omega) HKD.out rfl rfl)⟩
  case stop =>
    rintro D c pre W' _ _ h _
    exact h.elim
end Go.Proofs.Ytjdhjehnofediaa
