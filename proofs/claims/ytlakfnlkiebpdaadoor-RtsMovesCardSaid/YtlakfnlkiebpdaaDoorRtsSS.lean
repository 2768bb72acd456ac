/- The contract of Same: the answer and the steps. Conditions: the memory is right; at most 2000 steps. -/
import Derived.WalkSmall
import Derived.Test.YtlakfnlkiebpdaaDoorRtsSL
import Derived.Test.YtlakfnlkiebpdaaDoorRtsTwo
namespace Go.Proofs.YtlakfnlkiebpdaaDoor
open Go Go.RowKit
structure FrS where
  A : Int
  C : Int
  i : Nat
  j : Nat
  nx : Nat
def frC (os : List Ob) (f : FrS) : List Value := [.int .i64 f.A, .int .i64 f.C, .int .i64 (f.nx : Int), .int .i64 ((obN os f.i).ws.length : Int)]
def cellsFr (os : List Ob) (fs : List FrS) : List Value := fs.flatMap (frC os)
theorem cellsFr_len (os : List Ob) (fs : List FrS) : (cellsFr os fs).length = fs.length * 4 := by
  induction fs with
  | nil => rfl
  | cons f fs ih => unfold cellsFr at ih ⊢; rw [List.flatMap_cons, List.length_append, ih]; simp [frC]; omega
theorem cellsFr_snoc (os : List Ob) (ini : List FrS) (f : FrS) : cellsFr os (ini ++ [f]) = cellsFr os ini ++ frC os f := by simp [cellsFr]
structure FrOk (os : List Ob) (h W : Nat) (f : FrS) : Prop where
  hi : idxAt os h W f.A = some f.i
  hj : idxAt os h W f.C = some f.j
  hl : (obN os f.i).ws.length = (obN os f.j).ws.length
  hn : f.nx < (obN os f.i).ws.length
  hA : f.A ≤ 9223372036854775807
  hC : f.C ≤ 9223372036854775807
def remF (os : List Ob) (f : FrS) : List Nat × List Nat := ((obN os f.i).ws.drop f.nx, (obN os f.j).ws.drop f.nx)
/-- the pairs that wait, as they lie -/
structure Open (X : World) (B : Nat) (os : List Ob) (h W : Nat) (v : Value) (fs : List FrS) : Prop where
  row : X.ownsRow B 107 4 v fs.length (cellsFr os fs)
  ok : ∀ f ∈ fs, FrOk os h W f
section
variable {X : World} {B : Nat} {os : List Ob} {h W g cap : Nat} {ini : List FrS} {f : FrS}
theorem Open.cell (o : Open X B os h W (.slice (some ⟨g, 0, none⟩) (ini.length + 1) cap) (ini ++ [f])) (q : Nat) (hq : q < 4) : X.cell? ⟨g, ini.length * 4 + q, none⟩ = (frC os f)[q]? := by
  have hr := o.row
  rw [cellsFr_snoc] at hr
  have hl : (ini ++ [f]).length = ini.length + 1 := by simp
  rw [hl] at hr
  rw [hr.cellAt _ (by omega), List.getElem?_append_right (by rw [cellsFr_len]; omega), cellsFr_len]
  congr 1
  omega
theorem Open.capLe (o : Open X B os h W (.slice (some ⟨g, 0, none⟩) (ini.length + 1) cap) (ini ++ [f])) : ini.length + 1 ≤ cap := by
  rcases o.row.2 with ⟨h0, _⟩ | ⟨g', cap', cur, h0, _, _, h1, _⟩
  · cases h0
  · injection h0 with _ _ h0
    have hl : (ini ++ [f]).length = ini.length + 1 := by simp
    omega
theorem Open.fz (o : Open X B os h W (.slice (some ⟨g, 0, none⟩) (ini.length + 1) cap) (ini ++ [f])) (q : Nat) : X.frozen? ⟨g, q, none⟩ = false := by
  have hr := o.row
  have hl : (ini ++ [f]).length = ini.length + 1 := by simp
  rw [hl] at hr
  exact hr.frozenAt q
theorem Open.pop (o : Open X B os h W (.slice (some ⟨g, 0, none⟩) (ini.length + 1) cap) (ini ++ [f])) : Open X B os h W (.slice (some ⟨g, 0, none⟩) ini.length cap) ini := by
  refine ⟨?_, fun f' hf => o.ok f' (List.mem_append_left _ hf)⟩
  have hr := o.row
  rw [cellsFr_snoc] at hr
  have hl : (ini ++ [f]).length = ini.length + 1 := by simp
  rw [hl] at hr
  exact ownsRow_pop (cellsFr_len _ _) hr
theorem Open.next (o : Open X B os h W (.slice (some ⟨g, 0, none⟩) (ini.length + 1) cap) (ini ++ [f])) (hn : f.nx + 1 < (obN os f.i).ws.length) : Open (X.setCell ⟨g, ini.length * 4 + 2, none⟩ (.int .i64 ((f.nx : Int) + 1))) B os h W (.slice (some ⟨g, 0, none⟩) (ini.length + 1) cap) (ini ++ [{ f with nx := f.nx + 1 }]) := by
  have hl : (ini ++ [f]).length = ini.length + 1 := by simp
  have hr := o.row
  rw [hl] at hr
  have h1 := (hr.stored (ini.length * 4 + 2) (.int .i64 ((f.nx : Int) + 1))).1
  refine ⟨?_, fun f' hf => ?_⟩
  · have hl2 : (ini ++ [{ f with nx := f.nx + 1 }]).length = ini.length + 1 := by simp
    rw [hl2]
    have e : (cellsFr os (ini ++ [f])).set (ini.length * 4 + 2) (.int .i64 ((f.nx : Int) + 1)) = cellsFr os (ini ++ [{ f with nx := f.nx + 1 }]) := by
      rw [cellsFr_snoc, cellsFr_snoc, List.set_append_right _ _ (by rw [cellsFr_len]; omega), cellsFr_len, show ini.length * 4 + 2 - ini.length * 4 = 2 by omega]
      rfl
    rw [← e]
    exact h1
  · rcases List.mem_append.1 hf with q | q
    · exact o.ok f' (List.mem_append_left _ q)
    · obtain rfl := List.mem_singleton.1 q
      have := o.ok f (by simp)
      exact ⟨this.hi, this.hj, this.hl, hn, this.hA, this.hC⟩
theorem Open.setc (o : Open X B os h W (.slice (some ⟨g, 0, none⟩) (ini.length + 1) cap) (ini ++ [f])) (u : Value) :
    (X.setCell ⟨g, ini.length * 4 + 2, none⟩ u).cell? ⟨g, ini.length * 4 + 2, none⟩ = some u ∧ (X.setCell ⟨g, ini.length * 4 + 2, none⟩ u).cell? ⟨g, ini.length * 4 + 3, none⟩ = some (.int .i64 ((obN os f.i).ws.length : Int)) := by
  have hl : (ini ++ [f]).length = ini.length + 1 := by simp
  have hr := o.row
  rw [hl] at hr
  have h1 := (hr.stored (ini.length * 4 + 2) u).1
  have hlen := cellsFr_len os (ini ++ [f])
  rw [hl] at hlen
  refine ⟨?_, ?_⟩
  · rw [h1.cellAt _ (by omega), List.getElem?_set_self (by omega)]
  · rw [h1.cellAt _ (by omega), List.getElem?_set_ne (by omega), cellsFr_snoc, List.getElem?_append_right (by rw [cellsFr_len]; omega), cellsFr_len, show ini.length * 4 + 3 - ini.length * 4 = 3 by omega]
    rfl
theorem Open.base (o : Open X B os h W (.slice (some ⟨g, 0, none⟩) (ini.length + 1) cap) (ini ++ [f])) : B ≤ g := (o.row.lt g rfl).1
theorem Open.popSet (o : Open X B os h W (.slice (some ⟨g, 0, none⟩) (ini.length + 1) cap) (ini ++ [f])) (u : Value) : Open (X.setCell ⟨g, ini.length * 4 + 2, none⟩ u) B os h W (.slice (some ⟨g, 0, none⟩) ini.length cap) ini := by
  refine ⟨?_, fun f' hf => o.ok f' (List.mem_append_left _ hf)⟩
  have hl : (ini ++ [f]).length = ini.length + 1 := by simp
  have hr := o.row
  rw [hl] at hr
  have h1 := (hr.stored (ini.length * 4 + 2) u).1
  rw [cellsFr_snoc, List.set_append_right _ _ (by rw [cellsFr_len]; omega)] at h1
  exact ownsRow_pop (cellsFr_len _ _) h1
theorem Open.below {X1 : World} {v : Value} {fs : List FrS} (o : Open X B os h W v fs) (hb : Below X.heap.size X X1) : Open X1 B os h W v fs :=
  ⟨by
    refine o.row.kept (row := none) ⟨hb.os, hb.tape, hb.output, hb.size, fun i hi _ => hb.block i hi⟩ ?_
    cases hv : v.ownBlock <;> simp, o.ok⟩
theorem remF_cons (o : FrOk os h W f) : remF os f = ((obN os f.i).ws.getD f.nx 0 :: (obN os f.i).ws.drop (f.nx + 1), (obN os f.j).ws.getD f.nx 0 :: (obN os f.j).ws.drop (f.nx + 1)) := by
  have h1 := o.hn
  have h2 : f.nx < (obN os f.j).ws.length := by rw [← o.hl]; exact h1
  unfold remF
  rw [List.drop_eq_getElem_cons h1, List.drop_eq_getElem_cons h2]
  simp [List.getD_eq_getElem?_getD, List.getElem?_eq_getElem h1, List.getElem?_eq_getElem h2]
theorem adv_gen {n : Nat} {res : Nat × Nat} (o : FrOk os h W f) (e : contN (lookS os h W) ((ini ++ [f]).reverse.map (remF os)) (1, n) = res) :
    contN (lookS os h W) (if (obN os f.i).ws.drop (f.nx + 1) = [] then ini.reverse.map (remF os) else ((obN os f.i).ws.drop (f.nx + 1), (obN os f.j).ws.drop (f.nx + 1)) :: ini.reverse.map (remF os)) (sameN (lookS os h W) ((obN os f.i).ws.getD f.nx 0) ((obN os f.j).ws.getD f.nx 0) n) = res := by
  rw [List.reverse_append, List.reverse_singleton, List.singleton_append, List.map_cons, remF_cons o, contN_cons, contN_step _ _ _ _ (by simp [o.hl])] at e
  exact e
theorem adv_pop {n : Nat} {res : Nat × Nat} (o : FrOk os h W f) (e : contN (lookS os h W) ((ini ++ [f]).reverse.map (remF os)) (1, n) = res) (hn : f.nx + 1 = (obN os f.i).ws.length) :
    contN (lookS os h W) (ini.reverse.map (remF os)) (sameN (lookS os h W) ((obN os f.i).ws.getD f.nx 0) ((obN os f.j).ws.getD f.nx 0) n) = res := by
  have := adv_gen o e
  rwa [if_pos (List.drop_eq_nil_of_le (by omega))] at this
theorem adv_keep {n : Nat} {res : Nat × Nat} (o : FrOk os h W f) (e : contN (lookS os h W) ((ini ++ [f]).reverse.map (remF os)) (1, n) = res) (hn : f.nx + 1 < (obN os f.i).ws.length) :
    contN (lookS os h W) ((ini ++ [{ f with nx := f.nx + 1 }]).reverse.map (remF os)) (sameN (lookS os h W) ((obN os f.i).ws.getD f.nx 0) ((obN os f.j).ws.getD f.nx 0) n) = res := by
  have := adv_gen o e
  rw [if_neg (fun q => by have := congrArg List.length q; simp at this; omega)] at this
  rw [List.reverse_append, List.reverse_singleton, List.singleton_append, List.map_cons]
  exact this
end
theorem own5m {w : World} {B n : Nat} {e : TypeId} {v : Value} {xs : List Value} (h : w.ownsRow B e 4 v n xs) : w.ownsRow 0 e 4 v n xs := by
  refine ⟨h.1, ?_⟩
  rcases h.2 with h0 | ⟨g, cap, cur, h1, h2, h3⟩
  · exact .inl h0
  · exact .inr ⟨g, cap, cur, h1, Nat.zero_le _, h3⟩
theorem open_some {X : World} {B : Nat} {os : List Ob} {h W n : Nat} {va : Option Addr} {vc : Nat} {fs : List FrS} (o : Open X B os h W (.slice va (n + 1) vc) fs) : ∃ g cap, Value.slice va (n + 1) vc = .slice (some ⟨g, 0, none⟩) (n + 1) cap := by
  rcases o.row.2 with ⟨h0, _⟩ | ⟨g', cap', cur, h0, _, _, h1, _⟩
  · injection h0 with _ h0 _; omega
  · injection h0 with h1 h2 h3
    exact ⟨g', cap', by rw [h1, h3]⟩
theorem word_at64 {W h : Nat} {now old : List Ob} (z : WF W h now old) {i k x : Nat} (hx : (obN now i).ws.getD k 0 = x) : x < 18446744073709551616 := by
  subst hx
  by_cases hi : i < now.length
  · have ho := (obN_get hi)
    by_cases hk : k < (obN now i).ws.length
    · have := (z.okn _ (List.mem_of_getElem? ho)).word ((obN now i).ws.getD k 0) (by
        rw [List.getD_eq_getElem?_getD, List.getElem?_eq_getElem hk]; exact List.getElem_mem hk)
      exact this
    · rw [List.getD_eq_getElem?_getD, List.getElem?_eq_none (by omega)]; decide
  · have : obN now i = ⟨0, 0, [], 0⟩ := by unfold obN; rw [List.getElem?_eq_none (by omega)]; rfl
    rw [this]; simp
theorem len_ob {W h : Nat} {now old : List Ob} (z : WF W h now old) {i : Nat} : (obN now i).ws.length ≤ 16384 := by
  by_cases hi : i < now.length
  · obtain ⟨_, _, _, h1, _, _⟩ := right_bd (z.okn _ (List.mem_of_getElem? (obN_get hi))).right
    omega
  · have : obN now i = ⟨0, 0, [], 0⟩ := by unfold obN; rw [List.getElem?_eq_none (by omega)]; rfl
    rw [this]; simp
theorem tup_len {W h i : Nat} {now old : List Ob} {a : Int} (z : WF W h now old) (hi : idxAt now h W a = some i) (h1 : isC (obN now i).k = false) : 0 < (obN now i).ws.length := by
  have hr := (z.okn _ (List.mem_of_getElem? (idx_ob hi))).right
  unfold rightB at hr
  have hr := of_decide_eq_true hr
  unfold isC at h1
  simp at h1
  omega
theorem infoPair : (Tryd.prog.info? 107).map (fun i => (i.zero, i.size, i.bytes)) = some (some (.agg #[.int .i64 0, .int .i64 0, .int .i64 0, .int .i64 0]), 4, 32) := by kernel_rfl
theorem cells4_atS (w : World) (a b c d : Value) (t : TypeId) (g : Nat) (hg : w.heap.size = g) : ∀ j u, [a, b, c, d][j]? = some u → (w.alloc (.cells #[a, b, c, d] t)).cell? ((⟨g, 0, none⟩ : Addr).add j) = some u := by
  subst hg
  exact cellsN_at w [a, b, c, d] t
/-- what Same answers -/
def ansT (M : Nat) (r : Nat × Nat) : Int × Int × Int := if r.1 = 4 then (0, 0, 40) else ((r.1 : Int), ((M - r.2 : Nat) : Int), 0)
def SameTo (now : List Ob) (h W a c : Nat) (most : Int) (w : World) (e : Ending) (w' : World) : Prop :=
  e = .returned (.tuple #[.int .i64 (ansT most.toNat (sameN (lookS now h W) a c most.toNat)).1, .int .i64 (ansT most.toNat (sameN (lookS now h W) a c most.toNat)).2.1, .int .i64 (ansT most.toNat (sameN (lookS now h W) a c most.toNat)).2.2]) ∧ Below w.heap.size w w'
theorem lookS_ans {os : List Ob} {h W a c k : Nat} (e : lookS os h W a c = .inl k) : k = 0 ∨ k = 1 ∨ k = 2 ∨ k = 4 := by
  unfold lookS at e
  repeat' split at e
  all_goals first | (injection e with e; subst e; first | simp | (split <;> simp)) | cases e
set_option maxRecDepth 100000 in
set_option maxHeartbeats 32000000 in
theorem same_any5 {w : World} {b W h : Nat} {now old : List Ob} {R : Nat → Value} (m : Mem w b W h R now old) (z : WF W h now old) (a0 c0 : Nat) (ha0 : a0 < 18446744073709551616) (hc0 : c0 < 18446744073709551616) (most : Int) (hm0 : -9223372036854775808 ≤ most) (hm1 : most ≤ 2000) :
    Calls Tryd.prog 30 #[.pointer (some ⟨b, 0, none⟩), .int .u64 (a0 : Int), .int .u64 (c0 : Int), .int .i64 most] w (SameTo now h W a0 c0 most w) := by
  obtain ⟨i0, hi0, hz0, hz1, hz2⟩ := info_parts infoPair
  obtain ⟨res, hres⟩ : ∃ res, sameN (lookS now h W) a0 c0 most.toNat = res := ⟨_, rfl⟩
  unfold SameTo
  rw [hres]
  obtain ⟨M, hM⟩ : ∃ M, most.toNat = M := ⟨_, rfl⟩
  rw [hM] at hres ⊢
  have hMm : most ≤ M := by omega
  have hM2 : M ≤ 2000 := by omega
  have HMM0 := Lib.hid (show (M : Int) ≤ most ∨ M = 0 by omega)
  have HRES0 := Lib.hid hres
  have HM := Lib.hid m
  have HZ := Lib.hid z
  clear hres hM m z
  go_enter Tryd.func30, Tryd.ntmps30
  go_wp2_with fail
  go_step3
  go_wp2_with fail
  go_step3
  go_wp2_with fail
  go_loopw [1, 2, 11, 12, 13] (fun p q o k s wr => ∃ (a c s' : Nat) (fs : List FrS), p = .int .u64 (a : Int) ∧ q = .int .u64 (c : Int) ∧ k = .int .i64 1 ∧ s = .int .i64 (s' : Int) ∧ a < 18446744073709551616 ∧ c < 18446744073709551616 ∧ s' ≤ M ∧ fs.length ≤ s' ∧ Open wr w.heap.size now h W o fs ∧ Below w.heap.size w wr ∧ contN (lookS now h W) (fs.reverse.map (remF now)) (sameN (lookS now h W) a c (M - s')) = res) (fun _ _ _ _ s _ => M + 1 - (intOf s).toNat)
  case atStart => exact ⟨a0, c0, 0, [], rfl, rfl, rfl, rfl, ha0, hc0, Nat.zero_le _, Nat.le_refl _, ⟨World.ownsRow_nil _ _ _ _, by simp⟩, Below.refl _ _, HRES0.out⟩
  case round =>
    obtain ⟨a, c, s', fs, rfl, rfl, rfl, rfl, ha, hc, hs, hfl, hop, hb, hcon⟩ := hrel
    have HB := Lib.hid hb
    have HOP := Lib.hid hop
    have HCON := Lib.hid hcon
    clear hb hop hcon
    by_cases hge : most ≤ s'
    · have hd : decide (most ≤ (s' : Int)) = true := decide_eq_true hge
      have hsm : s' = M := by have := HMM0.out; omega
      have hr : res = (3, 0) := by
        have := HCON.out
        rw [hsm, Nat.sub_self, sameN_zero, contN_other (by simp)] at this
        exact this.symm
      have HR := Lib.hid hr
      have HSM := Lib.hid hsm
      clear hr hsm
      go_wp2_with fail
      simp only [Exit.noGoto]
      go_ret3
      exact ⟨by rw [HR.out, HSM.out]; rfl, HB.out⟩
    have hd : decide (most ≤ (s' : Int)) = false := decide_eq_false hge
    obtain ⟨n, hn⟩ : ∃ n, M - s' = n + 1 := ⟨M - s' - 1, by omega⟩
    have hlk := look_any (HM.out.below HB.out) HZ.out a c ha hc
    have hcon := HCON.out
    rw [hn, sameN_succ] at hcon
    have hle : s' + 1 ≤ M := by omega
    have hnM : M - (s' + 1) = n := by omega
    have HNM := Lib.hid hnM
    clear hn hnM
    obtain ⟨va, vc, rfl, _, _⟩ := own_shape5 (own5m HOP.out.row)
    cases el : lookS now h W a c with
    | inl k =>
      rw [el] at hcon hlk
      simp only at hcon
      by_cases hk4 : k = 4
      · subst hk4
        rw [contN_other (by simp)] at hcon
        have HR := Lib.hid hcon
        have HLK := Lib.hid (show Calls _ _ _ _ (fun e w' => e = .returned (.tuple #[.int .i64 0, .int .i64 0, .int .i64 40]) ∧ ∃ n, w' = wr.drewN n) from hlk)
        clear hcon hlk el
        go_wp2_with fail
        refine (HLK.out).mono ?_
        rintro e w1 ⟨rfl, q1, hw1⟩
        have HB1 := Lib.hid (show Below w.heap.size w w1 from by rw [hw1]; exact Below.drewN' HB.out q1)
        clear hw1
        go_wp2_with fail
        simp only [Exit.noGoto]
        go_ret3
        exact ⟨by rw [← HR.out]; rfl, HB1.out⟩
      by_cases hk1 : k = 1
      · subst hk1
        have hlk' : Calls Tryd.prog 63 #[.pointer (some ⟨b, 0, none⟩), .int .u64 (a : Int), .int .u64 (c : Int)] wr (fun e w' => e = .returned (.tuple #[.int .i64 1, .int .i64 0, .int .i64 0]) ∧ ∃ n, w' = wr.drewN n) := hlk
        have HLK := Lib.hid hlk'
        have HRES := Lib.hid hcon
        clear hcon hlk hlk' el
        rcases List.eq_nil_or_concat fs with rfl | ⟨ini, f, rfl⟩
        · have hr : (1, n) = res := HRES.out
          have HR := Lib.hid hr
          clear hr
          go_wp2_with fail
          refine (HLK.out).mono ?_
          rintro e w1 ⟨rfl, q1, hw1⟩
          have HB1 := Lib.hid (show Below w.heap.size w w1 from by rw [hw1]; exact Below.drewN' HB.out q1)
          clear hw1
          go_wp2_with fail
          simp only [Exit.noGoto]
          go_ret3
          exact ⟨by rw [← HR.out, ← HNM.out]; show _ = Ending.returned (.tuple #[.int .i64 1, .int .i64 ((M - (M - (s' + 1)) : Nat) : Int), .int .i64 0]); rw [show M - (M - (s' + 1)) = s' + 1 by omega]; rfl, HB1.out⟩
        · have hlen : (ini ++ [f]).length = ini.length + 1 := by simp
          rw [List.concat_eq_append] at HOP HRES HCON hfl ⊢
          rw [hlen] at HOP ⊢
          have hfl2 : ini.length + 1 ≤ s' := by rw [hlen] at hfl; exact hfl
          have HLEN := Lib.hid (show ini.length + 1 ≤ 2000 by omega)
          have HFL := Lib.hid hfl2
          have hvs := open_some HOP.out
          obtain ⟨g, cap, hva⟩ := hvs
          injection hva with hva _ hvc
          subst hva hvc
          clear hlen hfl hfl2
          go_wp2_with fail
          refine (HLK.out).mono ?_
          rintro e w1 ⟨rfl, q1, hw1⟩
          have HBX := Lib.hid (show Below w.heap.size w w1 from by rw [hw1]; exact Below.drewN' HB.out q1)
          have HOPX := Lib.hid (show Open w1 w.heap.size now h W (.slice (some ⟨g, 0, none⟩) (ini.length + 1) vc) (ini ++ [f]) from HOP.out.below (by rw [hw1]; exact Below.drewN' (Below.refl _ _) q1))
          clear HOP hw1
          have HOP := HOPX
          clear HOPX
          obtain ⟨cap, hcap⟩ : ∃ cap, vc = cap := ⟨_, rfl⟩
          subst hcap
          obtain ⟨X, hX⟩ : ∃ X, w1 = X := ⟨_, rfl⟩
          subst hX
          have hfo := HOP.out.ok f (by simp)
          obtain ⟨A1, hA1⟩ : ∃ A1, f.A = A1 := ⟨_, rfl⟩
          obtain ⟨C1, hC1⟩ : ∃ C1, f.C = C1 := ⟨_, rfl⟩
          obtain ⟨nx, hnx⟩ : ∃ nx, f.nx = nx := ⟨_, rfl⟩
          obtain ⟨sz, hsz⟩ : ∃ sz, (obN now f.i).ws.length = sz := ⟨_, rfl⟩
          have hfa := fun q => fieldof_hit (((HM.out.below HBX.out)).drewN q) HZ.out f.A f.nx hfo.hA hfo.hi (idx_ob hfo.hi) hfo.hn
          have hfc := fun q => fieldof_hit (((HM.out.below HBX.out)).drewN q) HZ.out f.C f.nx hfo.hC hfo.hj (idx_ob hfo.hj) (by rw [← hfo.hl]; exact hfo.hn)
          obtain ⟨x, hx⟩ : ∃ x, (obN now f.i).ws.getD f.nx 0 = x := ⟨_, rfl⟩
          obtain ⟨y, hy⟩ : ∃ y, (obN now f.j).ws.getD f.nx 0 = y := ⟨_, rfl⟩
          rw [hx, hA1, hnx] at hfa
          rw [hy, hC1, hnx] at hfc
          have HFA := Lib.hid hfa
          have HFC := Lib.hid hfc
          have hx64 := word_at64 HZ.out hx
          have hy64 := word_at64 HZ.out hy
          have d0 := HOP.out.cell 0 (by decide)
          have d1 := HOP.out.cell 1 (by decide)
          have d2 := HOP.out.cell 2 (by decide)
          have d3 := HOP.out.cell 3 (by decide)
          have dz := HOP.out.fz (ini.length * 4 + 2)
          simp only [frC, List.getElem?_cons_zero, List.getElem?_cons_succ, hA1, hC1, hnx, hsz, Nat.add_zero] at d0 d1 d2 d3
          have hszb : sz ≤ 16384 := by have := len_ob HZ.out (i := f.i); omega
          have hnb : nx < sz := by have := hfo.hn; omega
          have HPOP := Lib.hid (adv_pop (n := n) hfo HRES.out)
          have HKEEP := Lib.hid (adv_keep (n := n) hfo HRES.out)
          rw [hx, hy] at HPOP HKEEP
          rw [hnx, hsz] at HPOP HKEEP
          have HEQ := Lib.hid (And.intro hnx (And.intro hsz (And.intro hx hy)))
          obtain ⟨mm, hmm⟩ : ∃ mm, ini.length = mm := ⟨_, rfl⟩
          have hcap : mm + 1 ≤ vc := by have := HOP.out.capLe; rw [hmm] at this; exact this
          rw [hmm] at d0 d1 d2 d3 dz
          have HMM := Lib.hid hmm
          rw [hmm]
          have hmb : mm ≤ 3000 := by have := HLEN.out; rw [hmm] at this; omega
          have hm0 : (0 : Int) ≤ mm := by omega
          have hm1 : (mm : Int) < (mm : Int) + 1 := by omega
          have hmw : IntKind.i64.wrap ((mm : Int) + 1 - 1) = (mm : Int) := by rw [IntKind.wrap_i64]; omega
          clear hfo hA1 hC1 hnx hsz hfa hfc hx hy hmm
          go_wp2_with fail
          go_quiet ((first | (go_at_call 64; with_reducible exact Calls.quiet_of (HFA.out _)) | (go_at_call 64; with_reducible exact Calls.quiet_of (HFC.out _))))
          have d2' : (w1.drewN nq).cell? ⟨g, mm * 4 + 2, none⟩ = some (.int .i64 (nx : Int)) := d2
          have dz' : (w1.drewN nq).frozen? ⟨g, mm * 4 + 2, none⟩ = false := dz
          go_wp2_with fail
          have hY2 : ((w1.drewN nq).setCell ⟨g, mm * 4 + 2, none⟩ (.int .i64 ((nx : Int) + 1))).cell? ⟨g, mm * 4 + 2, none⟩ = some (.int .i64 ((nx : Int) + 1)) := by
            have := (HOP.out.setc (.int .i64 ((nx : Int) + 1))).1
            rw [HMM.out] at this
            exact this
          have hY3 : ((w1.drewN nq).setCell ⟨g, mm * 4 + 2, none⟩ (.int .i64 ((nx : Int) + 1))).cell? ⟨g, mm * 4 + 3, none⟩ = some (.int .i64 (sz : Int)) := by
            have := (HOP.out.setc (.int .i64 ((nx : Int) + 1))).2
            rw [HMM.out, HEQ.out.2.1] at this
            exact this
          have HBY := Lib.hid (show Below w.heap.size w ((w1.drewN nq).setCell ⟨g, mm * 4 + 2, none⟩ (.int .i64 ((nx : Int) + 1))) from (Below.drewN' HBX.out nq).setCell (p := ⟨g, mm * 4 + 2, none⟩) HOP.out.base _)
          have HPOPY := Lib.hid (show Open ((w1.drewN nq).setCell ⟨g, mm * 4 + 2, none⟩ (.int .i64 ((nx : Int) + 1))) w.heap.size now h W (.slice (some ⟨g, 0, none⟩) mm vc) ini from by
            have := (HOP.out.below (Below.drewN' (Below.refl _ _) nq)).popSet (.int .i64 ((nx : Int) + 1))
            rw [HMM.out] at this
            exact this)
          have HNEXT := Lib.hid (show nx + 1 < sz → Open ((w1.drewN nq).setCell ⟨g, mm * 4 + 2, none⟩ (.int .i64 ((nx : Int) + 1))) w.heap.size now h W (.slice (some ⟨g, 0, none⟩) (mm + 1) vc) (ini ++ [{ f with nx := f.nx + 1 }]) from fun q => by
            have := (HOP.out.below (Below.drewN' (Below.refl _ _) nq)).next (by rw [HEQ.out.1, HEQ.out.2.1]; exact q)
            rw [HMM.out, HEQ.out.1] at this
            rw [HEQ.out.1]
            exact this)
          obtain ⟨Y, hY⟩ : ∃ Y, ((w1.drewN nq).setCell ⟨g, mm * 4 + 2, none⟩ (.int .i64 ((nx : Int) + 1))) = Y := ⟨_, rfl⟩
          rw [hY] at hY2 hY3 HBY HPOPY HNEXT ⊢
          clear hY d0 d1 d2 d3 dz d2' dz' hmw
          by_cases hend : nx + 1 = sz
          · have hendB : ((nx : Int) + 1 == (sz : Int)) = true := by simp; omega
            have HEND := Lib.hid hend
            have hmw : IntKind.i64.wrap ((mm : Int) + 1 - 1) = (mm : Int) := by rw [IntKind.wrap_i64]; omega
            have hmc : (mm : Int) ≤ vc := by omega
            clear hend
            go_quiet (fail)
            go_wp2_with fail
            go_roundw
            case rel => exact ⟨x, y, s' + 1, ini, rfl, rfl, rfl, by go_num, hx64, hy64, hle, by have := HFL.out; omega, HPOPY.out.below (Below.drewN' (Below.refl _ _) _), Below.drewN' HBY.out _, by rw [HNM.out]; exact HPOP.out HEND.out⟩
            case measure => simp [intOf]; omega
          · have hendB : ((nx : Int) + 1 == (sz : Int)) = false := by simp; omega
            have hend2 : nx + 1 < sz := by omega
            go_quiet (fail)
            go_wp2_with fail
            go_roundw
            case rel => exact ⟨x, y, s' + 1, ini ++ [{ f with nx := f.nx + 1 }], rfl, rfl, rfl, by go_num, hx64, hy64, hle, by have := HFL.out; simp; omega, (HNEXT.out hend2).below (Below.drewN' (Below.refl _ _) _), Below.drewN' HBY.out _, by rw [HNM.out]; have := HKEEP.out hend2; rw [← HEQ.out.1] at this; exact this⟩
            case measure => simp [intOf]; omega
      have hk02 : k = 0 ∨ k = 2 := by rcases lookS_ans el with q | q | q | q <;> omega
      rw [contN_other (by simpa using hk1)] at hcon
      have HR := Lib.hid hcon
      clear hcon el hk4 hk1
      rcases hk02 with rfl | rfl
      · have HLK := Lib.hid (show Calls _ _ _ _ (fun e w' => e = .returned (.tuple #[.int .i64 0, .int .i64 0, .int .i64 0]) ∧ ∃ n, w' = wr.drewN n) from hlk)
        clear hlk
        go_wp2_with fail
        refine (HLK.out).mono ?_
        rintro e w1 ⟨rfl, q1, hw1⟩
        have HB1 := Lib.hid (show Below w.heap.size w w1 from by rw [hw1]; exact Below.drewN' HB.out q1)
        clear hw1
        go_wp2_with fail
        simp only [Exit.noGoto]
        go_ret3
        exact ⟨by rw [← HR.out, ← HNM.out]; show _ = Ending.returned (.tuple #[.int .i64 0, .int .i64 ((M - (M - (s' + 1)) : Nat) : Int), .int .i64 0]); rw [show M - (M - (s' + 1)) = s' + 1 by omega]; rfl, HB1.out⟩
      · have HLK := Lib.hid (show Calls _ _ _ _ (fun e w' => e = .returned (.tuple #[.int .i64 2, .int .i64 0, .int .i64 0]) ∧ ∃ n, w' = wr.drewN n) from hlk)
        clear hlk
        go_wp2_with fail
        refine (HLK.out).mono ?_
        rintro e w1 ⟨rfl, q1, hw1⟩
        have HB1 := Lib.hid (show Below w.heap.size w w1 from by rw [hw1]; exact Below.drewN' HB.out q1)
        clear hw1
        go_wp2_with fail
        simp only [Exit.noGoto]
        go_ret3
        exact ⟨by rw [← HR.out, ← HNM.out]; show _ = Ending.returned (.tuple #[.int .i64 2, .int .i64 ((M - (M - (s' + 1)) : Nat) : Int), .int .i64 0]); rw [show M - (M - (s' + 1)) = s' + 1 by omega]; rfl, HB1.out⟩
    | inr p =>
      obtain ⟨i, j, hi, hj, rfl, hll, _, hc1, hc2, hc4⟩ := lookS_fields el
      rw [el] at hcon hlk
      simp only at hcon
      have hsz1 := tup_len HZ.out hi hc1
      obtain ⟨f0, hf0⟩ : ∃ f0, f0 = (⟨toP (a : Int), toP (c : Int), i, j, 0⟩ : FrS) := ⟨_, rfl⟩
      have hpa : toP (a : Int) ≤ 1099511627776 := by unfold toP; split <;> omega
      have hpc : toP (c : Int) ≤ 1099511627776 := by unfold toP; split <;> omega
      have hfo : FrOk now h W f0 := by rw [hf0]; exact ⟨hi, hj, hll, hsz1, by show toP (a : Int) ≤ _; omega, by show toP (c : Int) ≤ _; omega⟩
      have HTA := Lib.hid (fun W1 : World => show Calls _ _ _ W1 (fun e w' => e = .returned (.int .i64 (toP (a : Int))) ∧ w' = W1) from (toptr_any (a : Int) W1 (by omega) (by omega)).mono fun e w' ⟨h1, h2⟩ => ⟨h1, h2.symm⟩)
      have HTC := Lib.hid (fun W1 : World => show Calls _ _ _ W1 (fun e w' => e = .returned (.int .i64 (toP (c : Int))) ∧ w' = W1) from (toptr_any (c : Int) W1 (by omega) (by omega)).mono fun e w' ⟨h1, h2⟩ => ⟨h1, h2.symm⟩)
      have hfc0 : frC now f0 = [.int .i64 (toP (a : Int)), .int .i64 (toP (c : Int)), .int .i64 0, .int .i64 ((obN now i).ws.length : Int)] := by rw [hf0]; rfl
      have hre0 : remF now f0 = ((obN now i).ws, (obN now j).ws) := by rw [hf0]; rfl
      have HRES := Lib.hid (show contN (lookS now h W) ((fs ++ [f0]).reverse.map (remF now)) (1, n) = res from by
        rw [List.reverse_append, List.reverse_singleton, List.singleton_append, List.map_cons, hre0, contN_cons]
        exact hcon)
      have hlk' : Calls Tryd.prog 63 #[.pointer (some ⟨b, 0, none⟩), .int .u64 (a : Int), .int .u64 (c : Int)] wr (fun e w' => e = .returned (.tuple #[.int .i64 (-1), .int .i64 ((obN now i).ws.length : Int), .int .i64 0]) ∧ ∃ n, w' = wr.drewN n) := hlk
      obtain ⟨A0, hA0⟩ : ∃ A0, toP (a : Int) = A0 := ⟨_, rfl⟩
      obtain ⟨C0, hC0⟩ : ∃ C0, toP (c : Int) = C0 := ⟨_, rfl⟩
      obtain ⟨Z0, hZ0⟩ : ∃ Z0, (obN now i).ws.length = Z0 := ⟨_, rfl⟩
      rw [hA0] at HTA hfc0
      rw [hC0] at HTC hfc0
      rw [hZ0] at hlk' hfc0
      have HLK := Lib.hid hlk'
      have HFC0 := Lib.hid hfc0
      have HFO := Lib.hid hfo
      obtain ⟨N, hN⟩ : ∃ N, fs.length = N := ⟨_, rfl⟩
      have HLN := Lib.hid hN
      have hNb : N ≤ 2000 := by omega
      have HFL := Lib.hid (show fs.length ≤ s' by exact hfl)
      have HLEN := Lib.hid (show fs.length + 1 ≤ 2001 by omega)
      rw [hN] at HOP ⊢
      clear hi hj hll hc1 hc2 hc4 el hcon hlk hlk' hsz1 hf0 hpa hpc hfo hfc0 hre0 hA0 hC0 hZ0 hfl hN
      go_wp2_with fail
      refine (HLK.out).mono ?_
      rintro e w1 ⟨rfl, q1, hw1⟩
      have HB1 := Lib.hid (show Below w.heap.size w w1 from by rw [hw1]; exact Below.drewN' HB.out q1)
      have HOP1 := Lib.hid (show Open w1 w.heap.size now h W (.slice va N vc) fs from HOP.out.below (by rw [hw1]; exact Below.drewN' (Below.refl _ _) q1))
      have hrow1 := HOP1.out.row
      rw [HLN.out] at hrow1
      have HROW1 := Lib.hid hrow1
      have hs1 := HB1.out.size
      clear hw1 hrow1
      go_wp2_with fail
      refine (HTA.out _).mono ?_
      rintro e w1 ⟨rfl, hw1⟩
      subst w1
      go_wp2_with fail
      refine (HTC.out _).mono ?_
      rintro e w1 ⟨rfl, hw1⟩
      subst w1
      go_wp2_with (at_builtin; refine wpList_append_own_at _ rfl _ _ 104 rfl w.heap.size 107 i0 (.agg #[.int .i64 0, .int .i64 0, .int .i64 0, .int .i64 0]) 4 32 Tryd.underlying104 hi0 hz0 hz1 hz2 rfl (by decide) (.slice va N vc) _ _ rfl (HROW1.out.alloc _) ⟨w1.heap.size, 0, none⟩ 1 1 [.int .i64 A0, .int .i64 C0, .int .i64 0, .int .i64 (Z0 : Int)] rfl rfl (cells4_atS w1 _ _ _ _ _ _ rfl) (by simp [Value.oneCell']) (by unfold maxLen; omega) (by omega) (by simp; omega) ?_; intro v7 w7 hown7 hgrow7 _ hblk7; rw [← HFC0.out, ← cellsFr_snoc] at hown7; have HO7 := Lib.hid hown7; have HB7 := Lib.hid ((HB1.out.alloc HB1.out.size _).grown hgrow7 (by simp; omega) (fun j hj => (HROW1.out.lt j hj).1)); clear hown7 hgrow7 hblk7)
      obtain ⟨g, cap, rfl⟩ := ownsRow_succ HO7.out
      have hN := HLN.out
      subst hN
      have HOPX := Lib.hid (show Open w7 w.heap.size now h W (.slice (some ⟨g, 0, none⟩) (fs.length + 1) cap) (fs ++ [f0]) from ⟨by rw [show (fs ++ [f0]).length = fs.length + 1 by simp]; exact HO7.out, fun f hf => by
        rcases List.mem_append.1 hf with q | q
        · exact HOP.out.ok f q
        · rw [List.mem_singleton.1 q]; exact HFO.out⟩)
      clear HOP HOP1 HROW1
      have HOP := HOPX
      have HBX := HB7
      clear HOPX HCON HTA HTC HLK HFC0
      have hfo := HOP.out.ok f0 (by simp)
      obtain ⟨A1, hA1⟩ : ∃ A1, f0.A = A1 := ⟨_, rfl⟩
      obtain ⟨C1, hC1⟩ : ∃ C1, f0.C = C1 := ⟨_, rfl⟩
      obtain ⟨nx, hnx⟩ : ∃ nx, f0.nx = nx := ⟨_, rfl⟩
      obtain ⟨sz, hsz⟩ : ∃ sz, (obN now f0.i).ws.length = sz := ⟨_, rfl⟩
      have hfa := fun q => fieldof_hit (((HM.out.below HBX.out)).drewN q) HZ.out f0.A f0.nx hfo.hA hfo.hi (idx_ob hfo.hi) hfo.hn
      have hfc := fun q => fieldof_hit (((HM.out.below HBX.out)).drewN q) HZ.out f0.C f0.nx hfo.hC hfo.hj (idx_ob hfo.hj) (by rw [← hfo.hl]; exact hfo.hn)
      obtain ⟨x, hx⟩ : ∃ x, (obN now f0.i).ws.getD f0.nx 0 = x := ⟨_, rfl⟩
      obtain ⟨y, hy⟩ : ∃ y, (obN now f0.j).ws.getD f0.nx 0 = y := ⟨_, rfl⟩
      rw [hx, hA1, hnx] at hfa
      rw [hy, hC1, hnx] at hfc
      have HFA := Lib.hid hfa
      have HFC := Lib.hid hfc
      have hx64 := word_at64 HZ.out hx
      have hy64 := word_at64 HZ.out hy
      have d0 := HOP.out.cell 0 (by decide)
      have d1 := HOP.out.cell 1 (by decide)
      have d2 := HOP.out.cell 2 (by decide)
      have d3 := HOP.out.cell 3 (by decide)
      have dz := HOP.out.fz (fs.length * 4 + 2)
      simp only [frC, List.getElem?_cons_zero, List.getElem?_cons_succ, hA1, hC1, hnx, hsz, Nat.add_zero] at d0 d1 d2 d3
      have hszb : sz ≤ 16384 := by have := len_ob HZ.out (i := f0.i); omega
      have hnb : nx < sz := by have := hfo.hn; omega
      have HPOP := Lib.hid (adv_pop (n := n) hfo HRES.out)
      have HKEEP := Lib.hid (adv_keep (n := n) hfo HRES.out)
      rw [hx, hy] at HPOP HKEEP
      rw [hnx, hsz] at HPOP HKEEP
      have HEQ := Lib.hid (And.intro hnx (And.intro hsz (And.intro hx hy)))
      obtain ⟨mm, hmm⟩ : ∃ mm, fs.length = mm := ⟨_, rfl⟩
      have hcap : mm + 1 ≤ cap := by have := HOP.out.capLe; rw [hmm] at this; exact this
      rw [hmm] at d0 d1 d2 d3 dz
      have HMM := Lib.hid hmm
      rw [hmm]
      have hmb : mm ≤ 3000 := by have := HLEN.out; rw [hmm] at this; omega
      have hm0 : (0 : Int) ≤ mm := by omega
      have hm1 : (mm : Int) < (mm : Int) + 1 := by omega
      have hmw : IntKind.i64.wrap ((mm : Int) + 1 - 1) = (mm : Int) := by rw [IntKind.wrap_i64]; omega
      clear hfo hA1 hC1 hnx hsz hfa hfc hx hy hmm
      go_wp2_with fail
      go_quiet ((first | (go_at_call 64; with_reducible exact Calls.quiet_of (HFA.out _)) | (go_at_call 64; with_reducible exact Calls.quiet_of (HFC.out _))))
      have d2' : (w7.drewN nq).cell? ⟨g, mm * 4 + 2, none⟩ = some (.int .i64 (nx : Int)) := d2
      have dz' : (w7.drewN nq).frozen? ⟨g, mm * 4 + 2, none⟩ = false := dz
      go_wp2_with fail
      have hY2 : ((w7.drewN nq).setCell ⟨g, mm * 4 + 2, none⟩ (.int .i64 ((nx : Int) + 1))).cell? ⟨g, mm * 4 + 2, none⟩ = some (.int .i64 ((nx : Int) + 1)) := by
        have := (HOP.out.setc (.int .i64 ((nx : Int) + 1))).1
        rw [HMM.out] at this
        exact this
      have hY3 : ((w7.drewN nq).setCell ⟨g, mm * 4 + 2, none⟩ (.int .i64 ((nx : Int) + 1))).cell? ⟨g, mm * 4 + 3, none⟩ = some (.int .i64 (sz : Int)) := by
        have := (HOP.out.setc (.int .i64 ((nx : Int) + 1))).2
        rw [HMM.out, HEQ.out.2.1] at this
        exact this
      have HBY := Lib.hid (show Below w.heap.size w ((w7.drewN nq).setCell ⟨g, mm * 4 + 2, none⟩ (.int .i64 ((nx : Int) + 1))) from (Below.drewN' HBX.out nq).setCell (p := ⟨g, mm * 4 + 2, none⟩) HOP.out.base _)
      have HPOPY := Lib.hid (show Open ((w7.drewN nq).setCell ⟨g, mm * 4 + 2, none⟩ (.int .i64 ((nx : Int) + 1))) w.heap.size now h W (.slice (some ⟨g, 0, none⟩) mm cap) fs from by
        have := (HOP.out.below (Below.drewN' (Below.refl _ _) nq)).popSet (.int .i64 ((nx : Int) + 1))
        rw [HMM.out] at this
        exact this)
      have HNEXT := Lib.hid (show nx + 1 < sz → Open ((w7.drewN nq).setCell ⟨g, mm * 4 + 2, none⟩ (.int .i64 ((nx : Int) + 1))) w.heap.size now h W (.slice (some ⟨g, 0, none⟩) (mm + 1) cap) (fs ++ [{ f0 with nx := f0.nx + 1 }]) from fun q => by
        have := (HOP.out.below (Below.drewN' (Below.refl _ _) nq)).next (by rw [HEQ.out.1, HEQ.out.2.1]; exact q)
        rw [HMM.out, HEQ.out.1] at this
        rw [HEQ.out.1]
        exact this)
      obtain ⟨Y, hY⟩ : ∃ Y, ((w7.drewN nq).setCell ⟨g, mm * 4 + 2, none⟩ (.int .i64 ((nx : Int) + 1))) = Y := ⟨_, rfl⟩
      rw [hY] at hY2 hY3 HBY HPOPY HNEXT ⊢
      clear hY d0 d1 d2 d3 dz d2' dz' hmw
      by_cases hend : nx + 1 = sz
      · have hendB : ((nx : Int) + 1 == (sz : Int)) = true := by simp; omega
        have HEND := Lib.hid hend
        have hmw : IntKind.i64.wrap ((mm : Int) + 1 - 1) = (mm : Int) := by rw [IntKind.wrap_i64]; omega
        have hmc : (mm : Int) ≤ cap := by omega
        clear hend
        go_quiet (fail)
        go_wp2_with fail
        go_roundw
        case rel => exact ⟨x, y, s' + 1, fs, rfl, rfl, rfl, by go_num, hx64, hy64, hle, by have := HFL.out; omega, HPOPY.out.below (Below.drewN' (Below.refl _ _) _), Below.drewN' HBY.out _, by rw [HNM.out]; exact HPOP.out HEND.out⟩
        case measure => simp [intOf]; omega
      · have hendB : ((nx : Int) + 1 == (sz : Int)) = false := by simp; omega
        have hend2 : nx + 1 < sz := by omega
        go_quiet (fail)
        go_wp2_with fail
        go_roundw
        case rel => exact ⟨x, y, s' + 1, fs ++ [{ f0 with nx := f0.nx + 1 }], rfl, rfl, rfl, by go_num, hx64, hy64, hle, by have := HFL.out; simp; omega, (HNEXT.out hend2).below (Below.drewN' (Below.refl _ _) _), Below.drewN' HBY.out _, by rw [HNM.out]; have := HKEEP.out hend2; rw [← HEQ.out.1] at this; exact this⟩
        case measure => simp [intOf]; omega
end Go.Proofs.YtlakfnlkiebpdaaDoor
