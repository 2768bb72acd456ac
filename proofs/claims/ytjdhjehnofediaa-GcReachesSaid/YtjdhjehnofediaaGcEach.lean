/- The contracts of gc's each and of Check. Conditions: the list is a row of integers. The contract of gc's Live. Conditions: the memory lies as Mem says; the roots are words. The contracts of gc's renewed; Live and Collect of a memory that is not there. Conditions: the memory lies as Mem says. -/
import Derived.Test.YtjdhjehnofediaaGcTrace
import Derived.Test.YtjdhjehnofediaaMemMoveK
namespace Go.Proofs.Ytjdhjehnofediaa
open Go Go.RowKit Go.Shelf
attribute [local go_sem] Oper.semAt_some
/-- what a round keeps: the row -/
def KeepL (v : Value) (xs : List Int) (A B : World) : Prop := A.ownsRow 0 3 1 v xs.length (ints xs) → B.ownsRow 0 3 1 v xs.length (ints xs)
theorem keepL_t {v : Value} {xs : List Int} {A B C : World} (p : KeepL v xs A B) (q : KeepL v xs B C) : KeepL v xs A C := fun x => q (p x)
theorem keepL_b {v : Value} {xs : List Int} {w : World} (W1 : World) (l : Nat) (o o' : Obj) (_ : w.heap.size ≤ l) (ho : W1.heap[l]? = some o) (hc : o.isCells = false) (_ : o.isWalk = false) : KeepL v xs W1 (W1.putObj l o') := fun x =>
  x.kept (grownBy_putObj' W1 l o') (.inr (fun e => by
    rcases x.2 with ⟨hv, _⟩ | ⟨g, cap, cur, hv, _, hg, _⟩
    · rw [hv] at e; cases e
    · rw [hv] at e
      obtain rfl : g = l := by simpa [Value.ownBlock] using e
      rw [hg] at ho
      cases ho
      cases hc))
set_option maxRecDepth 100000 in
set_option maxHeartbeats 2000000 in
theorem each1_in (n : Nat) (hn : 1 ≤ n) (l Bs : Nat) (v : Value) (xs : List Int) (J Jx : List Nat → World → Prop)
    (hY : ∀ pre x W1, J pre W1 → pre.length < xs.length → YieldAt Fence.wide (n - 1) Try.prog l #[.int .i64 (xs.getD x 0)] W1 fun e W' =>
      (e = .returned (.bool true) ∧ J (pre ++ [x]) W' ∧ KeepL v xs W1 W') ∨ (e = .returned (.bool false) ∧ Jx (pre ++ [x]) W'))
    (W0 : World) (hBs : Boxed W0 Bs 23 v) (hM : W0.ownsRow 0 3 1 v xs.length (ints xs)) (h0 : J [] W0) :
    CallsIn Fence.wide n Try.prog 80 #[.func (.yield l) #[] #[], .pointer (some ⟨Bs, 0, none⟩)] W0 fun e W' => (∃ v, e = .returned v) ∧
      ((∃ ys, ys = List.range xs.length ∧ J ys W') ∨ (∃ pre, (∃ k, k ≤ xs.length ∧ pre = List.range k) ∧ Jx pre W')) := by
  refine callsIn_of_wp Try.func80 rfl trivial ?_ rfl
  simp only [Try.ntmps80, List.size_toArray, List.length_cons, List.length_nil, Nat.reduceAdd, Nat.reduceSub, Array.replicate_succ, Array.replicate_zero, List.push_toArray, List.append_toArray, List.nil_append, List.cons_append]
  obtain ⟨a, cap, hv, hcap, hcap2, _⟩ := rowI hM
  subst hv
  have hcx0 := hBs.cell
  have HZ0 := Lib.hid h0
  have HY := Lib.hid hY
  obtain ⟨N, hN⟩ : ∃ N, xs.length = N := ⟨_, rfl⟩
  rw [hN] at HY hcx0 hcap ⊢
  have HN := Lib.hid hN
  have HM0 := Lib.hid (show W0.ownsRow 0 3 1 (.slice a N cap) xs.length (ints xs) from by rw [← hN]; exact hM)
  have HX := Lib.hid (fun (W1 : World) (h : W1.ownsRow 0 3 1 (.slice a N cap) xs.length (ints xs)) (k : Nat) (hk : k < N) => (show ∃ g, a = some ⟨g, 0, none⟩ ∧ W1.cell? ⟨g, k, none⟩ = some (.int .i64 (xs.getD k 0)) from by
    obtain ⟨a', cap', hv', _, _, hc⟩ := rowI (l := xs) h
    obtain ⟨g, hg, _, hc1, _⟩ := hc k (xs.getD k 0) (by rw [List.getD_eq_getElem?_getD, List.getElem?_eq_getElem (by omega)]; rfl)
    injection hv' with e1
    exact ⟨g, e1.trans hg, hc1⟩))
  clear hM h0 hY hN hBs
  gi_wp2_with fail
  gi_loopw [7] (fun i wr => ∃ k : Nat, k ≤ N ∧ i = .int .i64 k ∧ J (List.range k) wr ∧ wr.ownsRow 0 3 1 (.slice a N cap) xs.length (ints xs)) (fun i _ => N - (intOf i).toNat)
  case atStart => exact ⟨0, Nat.zero_le _, rfl, HZ0.out, HM0.out⟩
  case round =>
    obtain ⟨k, hk, rfl, hJs, hrow⟩ := hrel
    clear HM0 HZ0
    by_cases hlt : k < N
    · obtain ⟨fn, tmps, assign, body, hy, hR⟩ := HY.out _ k wr hJs (by rw [List.length_range]; exact hlt)
      obtain ⟨g, ha, hc⟩ := HX.out wr hrow k hlt
      subst ha
      obtain ⟨zz, hzz⟩ : ∃ zz, xs.getD k 0 = zz := ⟨_, rfl⟩
      rw [hzz] at hc hy
      have HR := Lib.hid hR
      have HRW := Lib.hid hrow
      have HLT := Lib.hid hlt
      have hki : (k : Int) < N := by omega
      have hk0 : (0 : Int) ≤ k := by omega
      have hN2 : (N : Int) ≤ 9223372036854775807 := by omega
      clear hJs hrow hR hlt hzz
      gi_wp2_with fail
      refine HR.out.mono ?_
      rintro e W3 (⟨rfl, hJ3, hk3⟩ | ⟨rfl, hJx3⟩)
      · have HS3 := Lib.hid (And.intro (show J (List.range (k + 1)) W3 from by rw [List.range_succ]; exact hJ3) (hk3 HRW.out))
        clear hJ3 hk3 hc
        gi_wp2_with fail
        go_roundw
        case rel => exact ⟨k + 1, HLT.out, by go_num, HS3.out⟩
        case measure => have := HLT.out; simp [intOf]; omega
      · have HXX := Lib.hid hJx3
        clear hJx3 hc
        gi_wp2
        refine bodyPost_ret (results_none rfl _ _ _) rfl ?_
        exact ⟨⟨_, rfl⟩, .inr ⟨_, ⟨k + 1, HLT.out, by rw [List.range_succ]⟩, HXX.out⟩⟩
    · obtain rfl : k = N := by omega
      have HJs := Lib.hid hJs
      clear hJs hrow
      gi_wp2
      go_end0
      exact ⟨⟨_, rfl⟩, .inl ⟨_, rfl, HJs.out⟩⟩
/-- the contract, as the law of a range over a function asks for it -/
theorem each_stops (n : Nat) (hn : 1 ≤ n) (Bs : Nat) (v : Value) (xs : List Int) (w : World) (hc : Boxed w Bs 23 v) (hM : w.ownsRow 0 3 1 v xs.length (ints xs)) :
    SeqStopsK Fence.wide n Try.prog 80 #[.pointer (some ⟨Bs, 0, none⟩)] (fun x : Nat => #[Value.int .i64 (xs.getD x 0)]) (KeepL v xs) (fun ys => ys = List.range xs.length) (fun pre => ∃ k, k ≤ xs.length ∧ pre = List.range k) xs.length w := fun l J Jx W1 hW _ _ hY h0 =>
  each1_in n hn l Bs v xs J Jx hY W1 ((hW.block Bs hc.lt).trans hc) ((Fr.of_below (O := fun _ => False) hW).own hM (fun _ _ => id)) h0
theorem each_in (F : Fence) (n : Nat) (h4 : F.fn 52) (hro : F.round = none) (a : Option Addr) (k c : Nat) (w : World) :
    CallsIn F n Try.prog 52 #[.slice a k c] w fun e w' => e = .returned (.func (.func 80) #[] #[.pointer (some ⟨w.heap.size, 0, none⟩)]) ∧ w' = w.alloc (.cells #[.slice a k c] 23) := by
  refine callsIn_of_wp Try.func52 rfl h4 ?_ hro
  simp only [Try.ntmps52, List.size_toArray, List.length_cons, List.length_nil, Nat.reduceAdd, Nat.reduceSub, Array.replicate_succ, Array.replicate_zero, List.push_toArray, List.append_toArray, List.nil_append, List.cons_append]
  gi_wp2
  go_ret
  exact ⟨rfl, rfl⟩
theorem each_any (a : Option Addr) (k c : Nat) (w : World) : Calls Try.prog 52 #[.slice a k c] w fun e w' => e = .returned (.func (.func 80) #[] #[.pointer (some ⟨w.heap.size, 0, none⟩)]) ∧ w' = w.alloc (.cells #[.slice a k c] 23) :=
  callsIn_wide.1 (each_in Fence.wide 1 trivial rfl a k c w)
theorem trace_nil (v : Value) (w : World) : Calls Try.prog 50 #[.pointer none, v] w fun e w' => e = .returned (.tuple #[.slice none 0 0, .int .i64 2]) ∧ w' = w := by
  go_enter Try.func50, Try.ntmps50
  go_wp2_with fail
  go_step3
  go_wp2_with fail
  rw [Exit.noGoto_ret]
  go_ret2
  exact ⟨rfl, rfl⟩
theorem check_nil (v : Value) (w : World) : Calls Try.prog 26 #[.pointer none, v] w fun e w' => e = .returned (.int .i64 2) ∧ w' = w := by
  go_enter Try.func26, Try.ntmps26
  go_wp2_with fail
  refine (trace_nil _ _).mono ?_
  rintro e w1 ⟨rfl, hw⟩
  subst w1
  go_wp2_with fail
  go_ret
  exact ⟨rfl, rfl⟩
theorem reach_nil (v : Value) (w : World) : Calls Try.prog 27 #[.pointer none, v] w fun e w' => e = .returned (.func (.func 80) #[] #[.pointer (some ⟨w.heap.size, 0, none⟩)]) ∧ w' = w.alloc (.cells #[.slice none 0 0] 23) := by
  go_enter Try.func27, Try.ntmps27
  go_wp2_with fail
  refine (trace_nil _ _).mono ?_
  rintro e w1 ⟨rfl, hw⟩
  subst w1
  go_wp2_with fail
  refine (each_any _ _ _ _).mono ?_
  rintro e w1 ⟨rfl, hw⟩
  subst w1
  go_wp2_with fail
  go_ret
  exact ⟨rfl, rfl⟩
section
variable {w : World} {b W h : Nat} {R : Nat → Value} {now old : List Ob}
/-- is all good that can be reached? -/
def checkE (now : List Ob) (h W : Nat) (ns : List Nat) : Int := match reach now h W ns with
  | none => 40
  | some _ => 0
theorem check_any (m : Mem w b W h R now old) (z : WF W h now old) {a : Option Addr} {N c : Nat} {ns : List Nat} (hv : WordsV w a N ns) :
    Calls Try.prog 26 #[.pointer (some ⟨b, 0, none⟩), .slice a N c] w fun e w' => e = .returned (.int .i64 (checkE now h W ns)) ∧ Below w.heap.size w w' := by
  have HT := Lib.hid (trace_any m z (c := c) hv)
  clear m z hv
  go_enter Try.func26, Try.ntmps26
  go_wp2_with fail
  refine HT.out.mono ?_
  rintro e w1 (⟨hr, rfl, hb⟩ | ⟨met, v, hr, rfl, hb, ho⟩)
  · have HE := Lib.hid (show checkE now h W ns = 40 from by unfold checkE; rw [hr])
    have HB := Lib.hid hb
    clear hr hb
    go_wp2_with fail
    go_ret
    exact ⟨ret_int HE.out.symm, HB.out⟩
  · have HE := Lib.hid (show checkE now h W ns = 0 from by unfold checkE; rw [hr])
    have HB := Lib.hid hb
    clear hr hb ho
    go_wp2_with fail
    go_ret
    exact ⟨ret_int HE.out.symm, HB.out⟩
/-- Reach tells the objects that trace answers, whatever becomes of the memory; none, if some word is not good -/
theorem reach_any (m : Mem w b W h R now old) (z : WF W h now old) {a : Option Addr} {N c : Nat} {ns : List Nat} (hv : WordsV w a N ns) :
    Calls Try.prog 27 #[.pointer (some ⟨b, 0, none⟩), .slice a N c] w fun e w' => ∃ Bs v, e = .returned (.func (.func 80) #[] #[.pointer (some ⟨Bs, 0, none⟩)]) ∧ Boxed w' Bs 23 v ∧ w.heap.size ≤ Bs ∧ Below w.heap.size w w' ∧
      w'.ownsRow w.heap.size 3 1 v ((reach now h W ns).getD []).length (ints (metI h W now ((reach now h W ns).getD []))) := by
  have HT := Lib.hid (trace_any m z (c := c) hv)
  clear m z hv
  go_enter Try.func27, Try.ntmps27
  go_wp2_with fail
  refine HT.out.mono ?_
  rintro e w1 (⟨hr, rfl, hb⟩ | ⟨met, v, hr, rfl, hb, ho⟩)
  · have HB := Lib.hid hb
    have HR := Lib.hid hr
    clear hr hb
    go_wp2_with fail
    refine (each_any _ _ _ _).mono ?_
    rintro e w2 ⟨rfl, hw⟩
    have HW := Lib.hid hw
    clear hw
    go_wp2_with fail
    go_ret
    rw [HW.out, HR.out]
    exact ⟨_, _, rfl, Boxed.new w1 23 (.slice none 0 0), HB.out.size, HB.out.alloc HB.out.size _, World.ownsRow_nil _ _ _ _⟩
  · have HB := Lib.hid hb
    have HR := Lib.hid hr
    have HO := Lib.hid ho
    obtain ⟨va, cap, hv', _, _⟩ := rowI (l := metI h W now met) (va := v) (by rw [metI_length]; exact ho)
    subst hv'
    clear hr hb ho
    go_wp2_with fail
    refine (each_any _ _ _ _).mono ?_
    rintro e w2 ⟨rfl, hw⟩
    have HW := Lib.hid hw
    clear hw
    go_wp2_with fail
    go_ret
    rw [HW.out, HR.out]
    exact ⟨_, _, rfl, Boxed.new w1 23 _, HB.out.size, HB.out.alloc HB.out.size _, HO.out.alloc _⟩
end
end Go.Proofs.Ytjdhjehnofediaa
namespace Go.Proofs.Ytjdhjehnofediaa
open Go Go.RowKit Go.Shelf
attribute [local go_sem] Oper.semAt_some
/-- how many words objects need -/
def needs (now : List Ob) (met : List Nat) : Nat := (met.map fun j => 1 + ((now[j]?).map fun o => o.ws.length).getD 0).sum
theorem needs_snoc (now : List Ob) (met : List Nat) (j : Nat) : needs now (met ++ [j]) = needs now met + (1 + ((now[j]?).map fun o => o.ws.length).getD 0) := by simp [needs]
/-- what Live tells -/
def liveN (now : List Ob) (h W : Nat) (ns : List Nat) : Nat := needs now ((reach now h W ns).getD [])
/-- the size of the object that a number of the list tells; 0, if none -/
def sizeAt (now : List Ob) (met : List Nat) (x : Nat) : Nat := match met[x]? with
  | none => 0
  | some j => ((now[j]?).map fun o => o.ws.length).getD 0
def needI (now : List Ob) (met pre : List Nat) : Nat := (pre.map fun x => 1 + sizeAt now met x).sum
theorem needI_snoc (now : List Ob) (met pre : List Nat) (x : Nat) : needI now met (pre ++ [x]) = needI now met pre + (1 + sizeAt now met x) := by simp [needI]
theorem needI_all (now : List Ob) (met : List Nat) : needI now met (List.range met.length) = needs now met := by
  unfold needI needs
  congr 1
  apply List.ext_getElem
  · simp
  · intro i h1 h2
    simp only [List.length_map, List.length_range] at h1
    simp [sizeAt, List.getElem?_eq_getElem h1]
theorem sizeAt_le {W h : Nat} {now old : List Ob} (z : WF W h now old) (met : List Nat) (x : Nat) : sizeAt now met x ≤ 16384 := by
  unfold sizeAt
  cases e : met[x]? with
  | none => exact Nat.zero_le _
  | some j =>
    simp only []
    cases e2 : now[j]? with
    | none => simp
    | some o =>
      have := right_bd (z.okn o (List.mem_of_getElem? e2)).right
      simp
      omega
theorem needI_le {W h : Nat} {now old : List Ob} (z : WF W h now old) (met pre : List Nat) : needI now met pre ≤ pre.length * 16385 := by
  induction pre with
  | nil => simp [needI]
  | cons x l ih =>
    have := sizeAt_le z met x
    have e : needI now met (x :: l) = (1 + sizeAt now met x) + needI now met l := by simp [needI]
    rw [e, List.length_cons]
    omega
theorem keepsOthers_drew (W : World) (n : Nat) : KeepsOthers W (W.drewN n) := ⟨Nat.le_refl _, fun _ _ h _ => h⟩
section
variable {w : World} {b W h : Nat} {R : Nat → Value} {now old : List Ob}
/-- what Look answers of an address of the list -/
theorem look_x (m : Mem w b W h R now old) (z : WF W h now old) {met : List Nat} (ok : Okm now met) (x : Nat) :
    Calls Try.prog 39 #[.pointer (some ⟨b, 0, none⟩), .int .i64 ((metI h W now met).getD x 0)] w fun e w' => (∃ k t q, e = .returned (.tuple #[.int .i64 k, .int .i64 (sizeAt now met x : Nat), .int .i64 t, .int .i64 q])) ∧ ∃ n, w' = w.drewN n := by
  cases e : met[x]? with
  | none =>
    have e0 : (metI h W now met).getD x 0 = 0 := by
      rw [List.getD_eq_getElem?_getD, List.getElem?_eq_none (by rw [metI_length]; exact List.getElem?_eq_none_iff.1 e)]; rfl
    have hi : idxAt now h W 0 = none := by
      cases e1 : idxAt now h W 0 with
      | none => rfl
      | some j =>
        have := (idxAt_some e1).2
        unfold adr at this
        split at this <;> omega
    rw [e0]
    refine (look_miss m z 0 (by decide) hi).mono ?_
    rintro e' w' ⟨rfl, h2⟩
    exact ⟨⟨0, 0, 20, by unfold sizeAt; rw [e]; rfl⟩, h2⟩
  | some j =>
    have hj := ok.lt j (List.mem_of_getElem? e)
    obtain ⟨o, ho⟩ : ∃ o, now[j]? = some o := ⟨_, List.getElem?_eq_getElem hj⟩
    have e0 : (metI h W now met).getD x 0 = objA h W now j := by rw [List.getD_eq_getElem?_getD, metI_get e]; rfl
    have hbd := objA_bd z (Nat.le_of_lt hj)
    rw [e0]
    refine (look_hit m z (objA h W now j) (by omega) (idxAt_of hj) ho).mono ?_
    rintro e' w' ⟨rfl, h2⟩
    exact ⟨⟨o.k, o.t, 0, by unfold sizeAt; rw [e]; simp [ho]⟩, h2⟩
theorem traced_all {ns : List Nat} {e : Ending} {w' : World} (t : Traced w h W now ns e w') : ∃ v, e = .returned (.tuple #[v, .int .i64 (checkE now h W ns)]) ∧ Below w.heap.size w w' ∧ w'.ownsRow w.heap.size 3 1 v ((reach now h W ns).getD []).length (ints (metI h W now ((reach now h W ns).getD []))) ∧ Okm now ((reach now h W ns).getD []) := by
  rcases t with ⟨hr, rfl, hb⟩ | ⟨met, v, hr, rfl, hb, ho⟩
  · exact ⟨_, by unfold checkE; rw [hr], hb, by rw [hr]; exact World.ownsRow_nil _ _ _ _, by rw [hr]; exact okm_nil⟩
  · exact ⟨v, by unfold checkE; rw [hr], hb, by rw [hr]; exact ho, by rw [hr]; exact reach_okm hr⟩
set_option maxRecDepth 100000 in
set_option maxHeartbeats 8000000 in
theorem live_any (m : Mem w b W h R now old) (z : WF W h now old) {a : Option Addr} {N c : Nat} {ns : List Nat} (hv : WordsV w a N ns) :
    Calls Try.prog 28 #[.pointer (some ⟨b, 0, none⟩), .slice a N c] w fun e w' => e = .returned (.tuple #[.int .i64 (liveN now h W ns : Nat), .int .i64 (checkE now h W ns)]) ∧ Below w.heap.size w w' := by
  have HT := Lib.hid (fun W1 (hb : Below w.heap.size w W1) (hs : w.heap.size ≤ W1.heap.size) => trace_any (m.below hb) z (c := c) (ns := ns) (a := a) (N := N) ⟨hv.len, hv.few, hv.word, fun j n hj => by
    obtain ⟨g, off, h1, h2, h3⟩ := hv.cell j n hj
    exact ⟨g, off, h1, by omega, (World.cell?_of_block (hb.block g h2)).trans h3⟩⟩)
  have HM := Lib.hid m
  clear m hv
  refine (callsIn_wide (n := 3)).1 ?_
  refine callsIn_of_wp_marks Try.func28 rfl trivial ?_ rfl
  simp only [Try.ntmps28, List.size_toArray, List.length_cons, List.length_nil, Nat.reduceAdd, Nat.reduceSub, Array.replicate_succ, Array.replicate_zero, List.push_toArray, List.append_toArray, List.nil_append, List.cons_append]
  have bM0 := Boxed.new w 26 (.pointer (some ⟨b, 0, none⟩))
  have hB0 : Below w.heap.size w (w.alloc (.cells #[.pointer (some ⟨b, 0, none⟩)] 26)) := (Below.refl _ w).alloc (Nat.le_refl _) _
  gi_wp2_with fail
  refine ⟨trivial, ?_⟩
  refine (callsIn_wide.2 (HT.out _ hB0 (by simp))).mono ?_
  rintro e w2 ht
  obtain ⟨v, rfl, hb2, hown, hok⟩ := traced_all ht
  clear ht HT
  rw [World.size_alloc] at hb2 hown
  obtain ⟨met, hmet⟩ : ∃ met, (reach now h W ns).getD [] = met := ⟨_, rfl⟩
  have HMET := Lib.hid hmet
  rw [hmet] at hown hok
  have hs2 : w.heap.size + 1 ≤ w2.heap.size := by have := hb2.size; simpa using this
  have bM2 : Boxed w2 w.heap.size 26 (.pointer (some ⟨b, 0, none⟩)) := (hb2.block _ (by omega)).trans bM0
  have hB2 : Below w.heap.size w w2 := hB0.trans (hb2.mono (by omega))
  obtain ⟨va, cap, hv', _, _, _⟩ := rowI (l := metI h W now met) (va := v) (by rw [metI_length]; exact hown)
  subst hv'
  rw [metI_length] at hown ⊢
  obtain ⟨K, hK⟩ : ∃ K, met.length = K := ⟨_, rfl⟩
  have hKf : K ≤ 65536 := by
    have h2 := start_mono now (i := 0) (j := now.length) (Nat.zero_le _) (Nat.le_refl _)
    rw [start_len] at h2
    have := hok.len
    have := z.un
    have := z.w1
    omega
  have HOWN := Lib.hid hown
  have HOK := Lib.hid hok
  have HK := Lib.hid hK
  have HS2 := Lib.hid hs2
  have HB2 := Lib.hid hB2
  have HBM := Lib.hid bM2
  rw [hK]
  clear hmet hown hok hb2 bM0 hB0 hK
  gi_wp2_with (refine ⟨trivial, ?_⟩; gi_at_call 52; refine (each_in Fence.wide _ trivial rfl _ _ _ _).mono ?_; rintro e w' ⟨rfl, rfl⟩)
  have bI := Boxed.new w2 3 (.int .i64 0)
  have bN := Boxed.new (w2.alloc (.cells #[.int .i64 0] 3)) 23 (.slice va K cap)
  rw [World.size_alloc] at bN
  have hB3 : Below w2.heap.size w2 ((w2.alloc (.cells #[.int .i64 0] 3)).alloc (.cells #[.slice va K cap] 23)) := ((Below.refl _ w2).alloc (Nat.le_refl _) _).alloc (by simp) _
  have hrow : ((w2.alloc (.cells #[.int .i64 0] 3)).alloc (.cells #[.slice va K cap] 23)).ownsRow 0 3 1 (.slice va K cap) (metI h W now met).length (ints (metI h W now met)) := by
    have := own_mono (B' := 0) HOWN.out (Nat.zero_le _)
    rw [metI_length]
    rw [HK.out] at this ⊢
    exact (this.alloc _).alloc _
  refine wpIn_rangeFunc_ownG rfl (by omega) (gf := 80) (lb := #[.pointer (some ⟨w2.heap.size + 1, 0, none⟩)]) rfl trivial (enters_of Try.func80 (by kernel_rfl) rfl)
    (each_stops (3 - 1) (by omega) (w2.heap.size + 1) (.slice va K cap) (metI h W now met) _ bN hrow) keepL_t keepL_b (Below.refl _ _) (fun _ => rfl)
    (fun pre W' => Boxed W' w2.heap.size 3 (.int .i64 (needI now met pre : Nat)) ∧ Below w2.heap.size w2 W')
    (fun _ _ _ => False)
    (OwnFrom.and (Own.from (boxed_own w2.heap.size 3 (fun (pre : List Nat) => .int .i64 (needI now met pre : Nat))) _) (ownFrom_below (Nat.le_refl _) (by simp; omega)))
    (fun _ _ _ _ _ hs _ _ => hs)
    ⟨bI.alloc _, hB3⟩
    ?a1 ?assign ?body ?done ?stop
  case assign =>
    intro l x W' K hK
    gi_wp2
    exact hK
  case body =>
    rintro l pre x W' ⟨hI, hB⟩ hlt
    have hci := hI.cell
    have hfi := hI.frozen
    have hmb : Boxed W' w.heap.size 26 (.pointer (some ⟨b, 0, none⟩)) := (hB.block _ (by have := HS2.out; omega)).trans HBM.out
    have hcm := hmb.cell
    have HLX := Lib.hid (look_x ((HM.out.below (HB2.out.trans (hB.mono HB2.out.size)))) z HOK.out x)
    have hle := needI_le z met pre
    have hsx := sizeAt_le z met x
    rw [metI_length, HK.out] at hlt
    obtain ⟨Q, hQ⟩ : ∃ Q, needI now met pre = Q := ⟨_, rfl⟩
    obtain ⟨S, hS⟩ : ∃ S, sizeAt now met x = S := ⟨_, rfl⟩
    have hnx : needI now met (pre ++ [x]) = Q + (1 + S) := by rw [needI_snoc, hQ, hS]
    obtain ⟨Z, hZ⟩ : ∃ Z, (metI h W now met)[x]?.getD 0 = Z := ⟨_, rfl⟩
    rw [List.getD_eq_getElem?_getD] at HLX
    rw [hQ] at hci hle
    rw [hS] at hsx HLX
    rw [hZ] at HLX
    have hQ2 : (Q : Int) ≤ 1073823744 := by omega
    have hS2 : (S : Int) ≤ 16384 := by omega
    have hQ0 : (0 : Int) ≤ Q := by omega
    have hS0 : (0 : Int) ≤ S := by omega
    have HNX := Lib.hid hnx
    have HI := Lib.hid hI
    have HB := Lib.hid hB
    rw [hZ]
    clear hI hB hmb hQ hS hnx hZ hle hsx
    gi_wp2_with fail
    refine ⟨trivial, ?_⟩
    refine (CallsIn.inRound l (callsIn_wide.2 HLX.out)).mono ?_
    rintro e w5 ⟨⟨k5, t5, q5, rfl⟩, n5, hw5⟩
    have HW5 := Lib.hid hw5
    have hci5 : w5.cell? ⟨w2.heap.size, 0, none⟩ = some (.int .i64 (Q : Int)) := by rw [hw5]; exact hci
    have hfi5 : w5.frozen? ⟨w2.heap.size, 0, none⟩ = false := by rw [hw5]; exact hfi
    clear hw5 hci hfi hcm
    gi_wp2_with fail
    have hset := HI.out.set (.int .i64 ((Q : Int) + (1 + (S : Int))))
    have hrw := HOWN.out
    rw [HK.out] at hrw
    rw [HW5.out]
    refine ⟨((keepsOthers_drew W' n5).trans (KeepsOthers.setCell _ _ _)).from _, fun hr => (((Fr.refl (· = w2.heap.size) W').drewN n5).setCell (p := ⟨w2.heap.size, 0, none⟩) (.inl rfl) _).own hr (fun g hg e => by have := (hrw.lt g hg).2; omega), ?_, (Below.drewN' HB.out n5).setCell (p := ⟨w2.heap.size, 0, none⟩) (Nat.le_refl _) _⟩
    rw [HNX.out, show ((Q + (1 + S) : Nat) : Int) = (Q : Int) + (1 + (S : Int)) by omega]
    exact hset
  case done =>
    rintro D ys W' hD rfl ⟨hI, hB⟩ hK
    have hci := hI.cell
    rw [metI_length, needI_all] at hci
    have hln : needs now met = liveN now h W ns := by unfold liveN; rw [HMET.out]
    rw [hln] at hci
    have HB := Lib.hid hB
    have HKD := Lib.hid hK
    clear hI hB hK hln
    gi_wp2_with fail
    refine ⟨by simp, .inl ⟨_, _, rfl, run_takeDeferred HKD.out, ?_⟩⟩
    refine ⟨_, results_tmp2 rfl _ _ _, rfl, (HB2.out.trans (HB.out.mono HB2.out.size)).trans (belowK_b (w := w) (Nat.le_refl _) W' D _ _ (by have := HS2.out; simp at hD; omega) HKD.out rfl rfl)⟩
  case stop =>
    rintro D c pre W' _ _ h _
    exact h.elim
end
end Go.Proofs.Ytjdhjehnofediaa
namespace Go.Proofs.Ytjdhjehnofediaa
open Go Go.RowKit Go.Shelf
attribute [local go_sem] Oper.semAt_some
section
variable {w : World} {b W h : Nat} {R : Nat → Value} {now old : List Ob}
theorem renewed_int (n : Nat) (hn : n < 18446744073709551616) (h1 : n % 2 = 1) (p : Option Addr) : Calls Try.prog 56 #[.pointer p, .int .u64 (n : Int)] w fun e w' => e = .returned (.int .u64 (n : Int)) ∧ w' = w := by
  have HI := Lib.hid (fun W1 => isint_any (n : Int) W1 (by omega) (by omega))
  have q0 : isIntB (n : Int) = true := by unfold isIntB; simpa using by omega
  rw [q0] at HI
  clear q0 h1 hn
  go_enter Try.func56, Try.ntmps56
  go_wp2_with fail
  refine (HI.out _).mono ?_
  rintro e w1 ⟨rfl, hw⟩
  subst w1
  go_wp2_with fail
  go_ret
  exact ⟨rfl, rfl⟩
theorem renewed_ptr (m : Mem w b W h R now old) (z : WF W h now old) (n : Nat) (hn : n < 18446744073709551616) (h1 : n % 2 ≠ 1) {j : Nat} {o : Ob} (hi : idxAt old (1 - h) W (toP n) = some j) (ho : old[j]? = some o) (ht : o.to ≠ 0) :
    Calls Try.prog 56 #[.pointer (some ⟨b, 0, none⟩), .int .u64 (n : Int)] w fun e w' => e = .returned (.int .u64 ((2 * o.to : Nat) : Int)) ∧ ∃ k, w' = w.drewN k := by
  have HI := Lib.hid (fun W1 => isint_any (n : Int) W1 (by omega) (by omega))
  have q0 : isIntB (n : Int) = false := by unfold isIntB; simpa using by omega
  rw [q0] at HI
  have HT := Lib.hid (fun W1 => toptr_any (n : Int) W1 (by omega) (by omega))
  have ha2 : toP (n : Int) ≤ 9223372036854775807 := by unfold toP; split <;> omega
  have HMV := Lib.hid (move_done m z (toP (n : Int)) ha2 hi ho ht)
  have hto := (z.oko o (List.mem_of_getElem? ho)).to
  have HP := Lib.hid (fun W1 => ptr_word o.to (by omega) hto W1)
  clear q0 h1 hn m z hi ho ht ha2 hto
  go_enter Try.func56, Try.ntmps56
  go_wp2_with fail
  refine (HI.out _).mono ?_
  rintro e w1 ⟨rfl, hw⟩
  subst hw
  go_wp2_with fail
  refine (HT.out _).mono ?_
  rintro e w1 ⟨rfl, hw⟩
  subst hw
  go_wp2_with fail
  refine HMV.out.mono ?_
  rintro e w1 ⟨rfl, n1, hw⟩
  go_wp2_with fail
  refine (HP.out _).mono ?_
  rintro e w2 ⟨rfl, hw2⟩
  subst w2
  go_wp2_with fail
  go_ret
  exact ⟨rfl, n1, rfl⟩
end
theorem collect_nil (v : Value) (w : World) : Calls Try.prog 19 #[.pointer none, v] w fun e w' => e = .returned (.tuple #[.slice none 0 0, .int .i64 2]) ∧ Below w.heap.size w w' := by
  refine (callsIn_wide (n := 3)).1 ?_
  refine callsIn_of_wp_marks Try.func19 rfl trivial ?_ rfl
  simp only [Try.ntmps19, List.size_toArray, List.length_cons, List.length_nil, Nat.reduceAdd, Nat.reduceSub, Array.replicate_succ, Array.replicate_zero, List.push_toArray, List.append_toArray, List.nil_append, List.cons_append]
  gi_wp2_with fail
  refine ⟨trivial, ?_⟩
  refine (callsIn_wide.2 (trace_nil _ _)).mono ?_
  rintro e w1 ⟨rfl, hw⟩
  subst w1
  gi_wp2_with fail
  refine ⟨_, results_tmp2 rfl _ _ _, rfl, (Below.refl _ w).alloc (Nat.le_refl _) _⟩
set_option maxRecDepth 100000 in
set_option maxHeartbeats 4000000 in
theorem live_nil (v : Value) (w : World) : Calls Try.prog 28 #[.pointer none, v] w fun e w' => e = .returned (.tuple #[.int .i64 0, .int .i64 2]) ∧ Below w.heap.size w w' := by
  refine (callsIn_wide (n := 3)).1 ?_
  refine callsIn_of_wp_marks Try.func28 rfl trivial ?_ rfl
  simp only [Try.ntmps28, List.size_toArray, List.length_cons, List.length_nil, Nat.reduceAdd, Nat.reduceSub, Array.replicate_succ, Array.replicate_zero, List.push_toArray, List.append_toArray, List.nil_append, List.cons_append]
  gi_wp2_with fail
  refine ⟨trivial, ?_⟩
  refine (callsIn_wide.2 (trace_nil _ _)).mono ?_
  rintro e w1 ⟨rfl, hw⟩
  subst w1
  obtain ⟨w2, hw2⟩ : ∃ w2, w.alloc (.cells #[.pointer none] 26) = w2 := ⟨_, rfl⟩
  have hB2 : Below w.heap.size w w2 := by rw [← hw2]; exact (Below.refl _ w).alloc (Nat.le_refl _) _
  have HS2 := Lib.hid (show w2.heap.size = w.heap.size + 1 from by rw [← hw2]; simp)
  have HB2 := Lib.hid hB2
  rw [hw2]
  clear hw2 hB2
  gi_wp2_with (refine ⟨trivial, ?_⟩; gi_at_call 52; refine (each_in Fence.wide _ trivial rfl _ _ _ _).mono ?_; rintro e w' ⟨rfl, rfl⟩)
  have bI := Boxed.new w2 3 (.int .i64 0)
  have bN := Boxed.new (w2.alloc (.cells #[.int .i64 0] 3)) 23 (.slice none 0 0)
  rw [World.size_alloc] at bN
  have hB3 : Below w2.heap.size w2 ((w2.alloc (.cells #[.int .i64 0] 3)).alloc (.cells #[.slice none 0 0] 23)) := ((Below.refl _ w2).alloc (Nat.le_refl _) _).alloc (by simp) _
  refine wpIn_rangeFunc_ownG rfl (by omega) (gf := 80) (lb := #[.pointer (some ⟨w2.heap.size + 1, 0, none⟩)]) rfl trivial (enters_of Try.func80 (by kernel_rfl) rfl)
    (each_stops (3 - 1) (by omega) (w2.heap.size + 1) (.slice none 0 0) [] _ bN (World.ownsRow_nil _ _ _ _)) keepL_t keepL_b (Below.refl _ _) (fun _ => rfl)
    (fun _ W' => Boxed W' w2.heap.size 3 (.int .i64 0) ∧ Below w2.heap.size w2 W')
    (fun _ _ _ => False)
    (OwnFrom.and (Own.from (boxed_own w2.heap.size 3 (fun (_ : List Nat) => .int .i64 0)) _) (ownFrom_below (Nat.le_refl _) (by simp; omega)))
    (fun _ _ _ _ _ hs _ _ => hs)
    ⟨bI.alloc _, hB3⟩
    ?a1 ?assign ?body ?done ?stop
  case assign =>
    intro l x W' K hK
    gi_wp2
    exact hK
  case body =>
    intro l pre x W' _ hlt
    exact absurd hlt (Nat.not_lt_zero _)
  case done =>
    rintro D ys W' hD rfl ⟨hI, hB⟩ hK
    have hci := hI.cell
    have HB := Lib.hid hB
    have HKD := Lib.hid hK
    clear hI hB hK
    gi_wp2_with fail
    refine ⟨by simp, .inl ⟨_, _, rfl, run_takeDeferred HKD.out, ?_⟩⟩
    refine ⟨_, results_tmp2 rfl _ _ _, rfl, (HB2.out.trans (HB.out.mono HB2.out.size)).trans (belowK_b (w := w) (Nat.le_refl _) W' D _ _ (by have := HS2.out; simp at hD; omega) HKD.out rfl rfl)⟩
  case stop =>
    rintro D c pre W' _ _ h _
    exact h.elim
end Go.Proofs.Ytjdhjehnofediaa
