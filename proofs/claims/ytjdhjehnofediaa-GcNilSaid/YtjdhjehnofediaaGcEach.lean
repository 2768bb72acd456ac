/- The contracts of gc's each and of Check. Conditions: the list is a row of integers. -/
import Derived.Test.YtjdhjehnofediaaGcTrace
namespace Go.Proofs.Ytjdhjehnofediaa
open Go Go.RowKit Go.Shelf
attribute [local go_sem] Oper.semAt_some
/-- what a round keeps: the row -/
def KeepL (v : Value) (xs : List Int) (A B : World) : Prop := A.ownsRow 0 3 1 v xs.length (ints xs) → B.ownsRow 0 3 1 v xs.length (ints xs)
theorem keepL_t {v : Value} {xs : List Int} {A B C : World} (p : KeepL v xs A B) (q : KeepL v xs B C) : KeepL v xs A C := fun x => q (p x)
theorem keepL_b {v : Value} {xs : List Int} {w : World} (W1 : World) (l : Nat) (o o' : Obj) (_ : w.heap.size ≤ l) (ho : W1.heap[l]? = some o) (hc : o.isCells = false) (_ : o.isWalk = false) : KeepL v xs W1 (W1.putObj l o') := fun x =>
  x.kept (grownBy_putObj' W1 l o') (.inr (fun e => by
    rcases x.2 with ⟨hv, _⟩ | ⟨g, cap, cur, hv, _, hg, _⟩
    · rw [hv] at e; cases e
    · rw [hv] at e
      obtain rfl : g = l := by simpa [Value.ownBlock] using e
      rw [hg] at ho
      cases ho
      cases hc))
set_option maxRecDepth 100000 in
set_option maxHeartbeats 2000000 in
theorem each1_in (n : Nat) (hn : 1 ≤ n) (l Bs : Nat) (v : Value) (xs : List Int) (J Jx : List Nat → World → Prop)
    (hY : ∀ pre x W1, J pre W1 → pre.length < xs.length → YieldAt Fence.wide (n - 1) Try.prog l #[.int .i64 (xs.getD x 0)] W1 fun e W' =>
      (e = .returned (.bool true) ∧ J (pre ++ [x]) W' ∧ KeepL v xs W1 W') ∨ (e = .returned (.bool false) ∧ Jx (pre ++ [x]) W'))
    (W0 : World) (hBs : Boxed W0 Bs 23 v) (hM : W0.ownsRow 0 3 1 v xs.length (ints xs)) (h0 : J [] W0) :
    CallsIn Fence.wide n Try.prog 80 #[.func (.yield l) #[] #[], .pointer (some ⟨Bs, 0, none⟩)] W0 fun e W' => (∃ v, e = .returned v) ∧
      ((∃ ys, ys = List.range xs.length ∧ J ys W') ∨ (∃ pre, (∃ k, k ≤ xs.length ∧ pre = List.range k) ∧ Jx pre W')) := by
  refine callsIn_of_wp Try.func80 rfl trivial ?_ rfl
  simp only [Try.ntmps80, List.size_toArray, List.length_cons, List.length_nil, Nat.reduceAdd, Nat.reduceSub, Array.replicate_succ, Array.replicate_zero, List.push_toArray, List.append_toArray, List.nil_append, List.cons_append]
  obtain ⟨a, cap, hv, hcap, hcap2, _⟩ := rowI hM
  subst hv
  have hcx0 := hBs.cell
  have HZ0 := Lib.hid h0
  have HY := Lib.hid hY
  obtain ⟨N, hN⟩ : ∃ N, xs.length = N := ⟨_, rfl⟩
  rw [hN] at HY hcx0 hcap ⊢
  have HN := Lib.hid hN
  have HM0 := Lib.hid (show W0.ownsRow 0 3 1 (.slice a N cap) xs.length (ints xs) from by rw [← hN]; exact hM)
  have HX := Lib.hid (fun (W1 : World) (h : W1.ownsRow 0 3 1 (.slice a N cap) xs.length (ints xs)) (k : Nat) (hk : k < N) => (show ∃ g, a = some ⟨g, 0, none⟩ ∧ W1.cell? ⟨g, k, none⟩ = some (.int .i64 (xs.getD k 0)) from by
    obtain ⟨a', cap', hv', _, _, hc⟩ := rowI (l := xs) h
    obtain ⟨g, hg, _, hc1, _⟩ := hc k (xs.getD k 0) (by rw [List.getD_eq_getElem?_getD, List.getElem?_eq_getElem (by omega)]; rfl)
    injection hv' with e1
    exact ⟨g, e1.trans hg, hc1⟩))
  clear hM h0 hY hN hBs
  gi_wp2_with fail
  gi_loopw [7] (fun i wr => ∃ k : Nat, k ≤ N ∧ i = .int .i64 k ∧ J (List.range k) wr ∧ wr.ownsRow 0 3 1 (.slice a N cap) xs.length (ints xs)) (fun i _ => N - (intOf i).toNat)
  case atStart => exact ⟨0, Nat.zero_le _, rfl, HZ0.out, HM0.out⟩
  case round =>
    obtain ⟨k, hk, rfl, hJs, hrow⟩ := hrel
    clear HM0 HZ0
    by_cases hlt : k < N
    · obtain ⟨fn, tmps, assign, body, hy, hR⟩ := HY.out _ k wr hJs (by rw [List.length_range]; exact hlt)
      obtain ⟨g, ha, hc⟩ := HX.out wr hrow k hlt
      subst ha
      obtain ⟨zz, hzz⟩ : ∃ zz, xs.getD k 0 = zz := ⟨_, rfl⟩
      rw [hzz] at hc hy
      have HR := Lib.hid hR
      have HRW := Lib.hid hrow
      have HLT := Lib.hid hlt
      have hki : (k : Int) < N := by omega
      have hk0 : (0 : Int) ≤ k := by omega
      have hN2 : (N : Int) ≤ 9223372036854775807 := by omega
      clear hJs hrow hR hlt hzz
      gi_wp2_with fail
      refine HR.out.mono ?_
      rintro e W3 (⟨rfl, hJ3, hk3⟩ | ⟨rfl, hJx3⟩)
      · have HS3 := Lib.hid (And.intro (show J (List.range (k + 1)) W3 from by rw [List.range_succ]; exact hJ3) (hk3 HRW.out))
        clear hJ3 hk3 hc
        gi_wp2_with fail
        go_roundw
        case rel => exact ⟨k + 1, HLT.out, by go_num, HS3.out⟩
        case measure => have := HLT.out; simp [intOf]; omega
      · have HXX := Lib.hid hJx3
        clear hJx3 hc
        gi_wp2
        refine bodyPost_ret (results_none rfl _ _ _) rfl ?_
        exact ⟨⟨_, rfl⟩, .inr ⟨_, ⟨k + 1, HLT.out, by rw [List.range_succ]⟩, HXX.out⟩⟩
    · obtain rfl : k = N := by omega
      have HJs := Lib.hid hJs
      clear hJs hrow
      gi_wp2
      go_end0
      exact ⟨⟨_, rfl⟩, .inl ⟨_, rfl, HJs.out⟩⟩
/-- the contract, as the law of a range over a function asks for it -/
theorem each_stops (n : Nat) (hn : 1 ≤ n) (Bs : Nat) (v : Value) (xs : List Int) (w : World) (hc : Boxed w Bs 23 v) (hM : w.ownsRow 0 3 1 v xs.length (ints xs)) :
    SeqStopsK Fence.wide n Try.prog 80 #[.pointer (some ⟨Bs, 0, none⟩)] (fun x : Nat => #[Value.int .i64 (xs.getD x 0)]) (KeepL v xs) (fun ys => ys = List.range xs.length) (fun pre => ∃ k, k ≤ xs.length ∧ pre = List.range k) xs.length w := fun l J Jx W1 hW _ _ hY h0 =>
  each1_in n hn l Bs v xs J Jx hY W1 ((hW.block Bs hc.lt).trans hc) ((Fr.of_below (O := fun _ => False) hW).own hM (fun _ _ => id)) h0
theorem each_in (F : Fence) (n : Nat) (h4 : F.fn 52) (hro : F.round = none) (a : Option Addr) (k c : Nat) (w : World) :
    CallsIn F n Try.prog 52 #[.slice a k c] w fun e w' => e = .returned (.func (.func 80) #[] #[.pointer (some ⟨w.heap.size, 0, none⟩)]) ∧ w' = w.alloc (.cells #[.slice a k c] 23) := by
  refine callsIn_of_wp Try.func52 rfl h4 ?_ hro
  simp only [Try.ntmps52, List.size_toArray, List.length_cons, List.length_nil, Nat.reduceAdd, Nat.reduceSub, Array.replicate_succ, Array.replicate_zero, List.push_toArray, List.append_toArray, List.nil_append, List.cons_append]
  gi_wp2
  go_ret
  exact ⟨rfl, rfl⟩
theorem each_any (a : Option Addr) (k c : Nat) (w : World) : Calls Try.prog 52 #[.slice a k c] w fun e w' => e = .returned (.func (.func 80) #[] #[.pointer (some ⟨w.heap.size, 0, none⟩)]) ∧ w' = w.alloc (.cells #[.slice a k c] 23) :=
  callsIn_wide.1 (each_in Fence.wide 1 trivial rfl a k c w)
theorem trace_nil (v : Value) (w : World) : Calls Try.prog 50 #[.pointer none, v] w fun e w' => e = .returned (.tuple #[.slice none 0 0, .int .i64 2]) ∧ w' = w := by
  go_enter Try.func50, Try.ntmps50
  go_wp2_with fail
  go_step3
  go_wp2_with fail
  rw [Exit.noGoto_ret]
  go_ret2
  exact ⟨rfl, rfl⟩
theorem check_nil (v : Value) (w : World) : Calls Try.prog 26 #[.pointer none, v] w fun e w' => e = .returned (.int .i64 2) ∧ w' = w := by
  go_enter Try.func26, Try.ntmps26
  go_wp2_with fail
  refine (trace_nil _ _).mono ?_
  rintro e w1 ⟨rfl, hw⟩
  subst w1
  go_wp2_with fail
  go_ret
  exact ⟨rfl, rfl⟩
theorem reach_nil (v : Value) (w : World) : Calls Try.prog 27 #[.pointer none, v] w fun e w' => e = .returned (.func (.func 80) #[] #[.pointer (some ⟨w.heap.size, 0, none⟩)]) ∧ w' = w.alloc (.cells #[.slice none 0 0] 23) := by
  go_enter Try.func27, Try.ntmps27
  go_wp2_with fail
  refine (trace_nil _ _).mono ?_
  rintro e w1 ⟨rfl, hw⟩
  subst w1
  go_wp2_with fail
  refine (each_any _ _ _ _).mono ?_
  rintro e w1 ⟨rfl, hw⟩
  subst w1
  go_wp2_with fail
  go_ret
  exact ⟨rfl, rfl⟩
section
variable {w : World} {b W h : Nat} {R : Nat → Value} {now old : List Ob}
/-- is all good that can be reached? -/
def checkE (now : List Ob) (h W : Nat) (ns : List Nat) : Int := match reach now h W ns with
  | none => 40
  | some _ => 0
theorem check_any (m : Mem w b W h R now old) (z : WF W h now old) {a : Option Addr} {N c : Nat} {ns : List Nat} (hv : WordsV w a N ns) :
    Calls Try.prog 26 #[.pointer (some ⟨b, 0, none⟩), .slice a N c] w fun e w' => e = .returned (.int .i64 (checkE now h W ns)) ∧ Below w.heap.size w w' := by
  have HT := Lib.hid (trace_any m z (c := c) hv)
  clear m z hv
  go_enter Try.func26, Try.ntmps26
  go_wp2_with fail
  refine HT.out.mono ?_
  rintro e w1 (⟨hr, rfl, hb⟩ | ⟨met, v, hr, rfl, hb, ho⟩)
  · have HE := Lib.hid (show checkE now h W ns = 40 from by unfold checkE; rw [hr])
    have HB := Lib.hid hb
    clear hr hb
    go_wp2_with fail
    go_ret
    exact ⟨ret_int HE.out.symm, HB.out⟩
  · have HE := Lib.hid (show checkE now h W ns = 0 from by unfold checkE; rw [hr])
    have HB := Lib.hid hb
    clear hr hb ho
    go_wp2_with fail
    go_ret
    exact ⟨ret_int HE.out.symm, HB.out⟩
/-- Reach tells the objects that trace answers, whatever becomes of the memory; none, if some word is not good -/
theorem reach_any (m : Mem w b W h R now old) (z : WF W h now old) {a : Option Addr} {N c : Nat} {ns : List Nat} (hv : WordsV w a N ns) :
    Calls Try.prog 27 #[.pointer (some ⟨b, 0, none⟩), .slice a N c] w fun e w' => ∃ Bs v, e = .returned (.func (.func 80) #[] #[.pointer (some ⟨Bs, 0, none⟩)]) ∧ Boxed w' Bs 23 v ∧ w.heap.size ≤ Bs ∧ Below w.heap.size w w' ∧
      w'.ownsRow w.heap.size 3 1 v ((reach now h W ns).getD []).length (ints (metI h W now ((reach now h W ns).getD []))) := by
  have HT := Lib.hid (trace_any m z (c := c) hv)
  clear m z hv
  go_enter Try.func27, Try.ntmps27
  go_wp2_with fail
  refine HT.out.mono ?_
  rintro e w1 (⟨hr, rfl, hb⟩ | ⟨met, v, hr, rfl, hb, ho⟩)
  · have HB := Lib.hid hb
    have HR := Lib.hid hr
    clear hr hb
    go_wp2_with fail
    refine (each_any _ _ _ _).mono ?_
    rintro e w2 ⟨rfl, hw⟩
    have HW := Lib.hid hw
    clear hw
    go_wp2_with fail
    go_ret
    rw [HW.out, HR.out]
    exact ⟨_, _, rfl, Boxed.new w1 23 (.slice none 0 0), HB.out.size, HB.out.alloc HB.out.size _, World.ownsRow_nil _ _ _ _⟩
  · have HB := Lib.hid hb
    have HR := Lib.hid hr
    have HO := Lib.hid ho
    obtain ⟨va, cap, hv', _, _⟩ := rowI (l := metI h W now met) (va := v) (by rw [metI_length]; exact ho)
    subst hv'
    clear hr hb ho
    go_wp2_with fail
    refine (each_any _ _ _ _).mono ?_
    rintro e w2 ⟨rfl, hw⟩
    have HW := Lib.hid hw
    clear hw
    go_wp2_with fail
    go_ret
    rw [HW.out, HR.out]
    exact ⟨_, _, rfl, Boxed.new w1 23 _, HB.out.size, HB.out.alloc HB.out.size _, HO.out.alloc _⟩
end
end Go.Proofs.Ytjdhjehnofediaa
