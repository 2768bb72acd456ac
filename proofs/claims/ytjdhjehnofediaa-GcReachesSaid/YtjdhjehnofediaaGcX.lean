/- A region that draws its order and only reads, in a round of a range over a function: one walk in the text's order serves. Conditions: none of its operations defers. A region that draws its order, in a round of a range over a function: what serves outside of rounds serves there too. Conditions: none of its operations defers, and each comes to an end. The contract of gc's renewed for any word; what a collection keeps of its boxes and rows while the memory turns. Condition: the memory lies as Mem says. -/
import Derived.Sort.QuietIn
import Derived.Deep.RegionLaw
import Derived.OrdersIn
import Derived.RangeFuncCalls
import Derived.Test.YtjdhjehnofediaaMemX
import Derived.Test.YtjdhjehnofediaaGcEach
namespace Go.Proofs.Ytjdhjehnofediaa
open Go Go.RowKit
section
variable {F : Fence} {n : Nat} {P : Program} {ops : Array Oper} {C : World → Prop}
def noDefer (o : Oper) : Bool := match o.op with | .defer _ => false | _ => true
theorem noDefer_ne {o : Oper} (h : noDefer o = true) : ∀ c, o.op ≠ .defer c := by
  intro c e
  unfold noDefer at h
  rw [e] at h
  cases h
theorem quiet_runs {o : Oper} {a : Act} {K : Act → Prop} {K' : Act → World → Prop} {Q' : Exit → Act → World → Prop} {w : World} (hd : ∀ c, o.op ≠ .defer c) (hw : C w) (h : ∀ a w', C w' → K a → K' a w') (ha : o.askedIn F P a C) (hq : o.quietIn F n P a C K) : o.wpIn F n P a w K' Q' := by
  obtain ⟨v, hv, hk⟩ := hq
  have h3 := hv w hw
  refine ⟨ha w hw, ?_⟩
  rw [Oper.semAt_eq F.round a.eval o hd]
  unfold Oper.quietAtIn at h3
  cases hr : (execOp a.eval o).run P w with
  | halt x w' => rw [hr] at h3; exact h3.elim
  | ok x w' =>
    rw [hr] at h3
    cases x with
    | value u => obtain ⟨rfl, rfl⟩ := h3; exact h _ _ hw hk
    | skip => obtain ⟨rfl, rfl⟩ := h3; exact h _ _ hw hk
    | enter f args =>
      obtain ⟨rfl, hdp, hc⟩ := h3
      refine ⟨hdp, hc.mono ?_⟩
      rintro e w'' ⟨rfl, hw''⟩
      exact h _ _ hw'' hk
    | _ => exact h3.elim
theorem quiet_anyway {Q : Act → Prop} {Q' : Exit → Act → World → Prop} (hd : ∀ (i : Nat) o, ops[i]? = some o → ∀ c, o.op ≠ .defer c) (hQ : ∀ a w, C w → Q a → Q' .normal a w) (md : Region.Mode) : ∀ (fuel : Nat) (listed : Array Bool) (a : Act) (w : World), C w →
    wpAnyQIn F n P md ops C Q fuel listed a → wpAnyIn F n P md ops Q' fuel listed a w := by
  intro fuel
  induction fuel with
  | zero => intro listed a w hw h; exact ⟨h.1, hQ _ _ hw h.2⟩
  | succ fuel ih =>
    intro listed a w hw h
    refine ⟨fun h0 => hQ _ _ hw (h.1 h0), fun i hi => ?_⟩
    have hop := h.2 i hi
    unfold qOpIn at hop
    unfold wpOpIn
    cases ho : ops[i]? with
    | none => rw [ho] at hop; exact ih _ _ _ hw hop
    | some o =>
      rw [ho] at hop
      obtain ⟨ha, hr⟩ := hop
      simp only [] at hr ⊢
      by_cases hwt : Region.wanted o (yielded ops a.tmps) = true
      · rw [if_pos hwt] at hr ⊢
        exact quiet_runs (hd i o ho) hw (fun a' w' hw' hk => ih _ _ _ hw' hk) ha hr
      · rw [if_neg hwt] at hr ⊢
        exact ⟨ha w hw, ih _ _ _ hw hr⟩
theorem wpIn_region_quiet_round {id : Nat} {Q : Exit → Act → World → Prop} {a : Act} {w : World} {l : List Oper} (hd : l.all noDefer = true) (hm : P.follows .mixedOrders = true) (hB : Region.lexB .any l.toArray = true)
    (h : wpQuietIn F n P l.toArray (fun w' => ∃ n, w' = w.drewN n) (fun a' => ∀ w', (∃ n, w' = w.drewN n) → Q .normal a' w') l a) : (Code.region id l.toArray true).wpIn F n P Q a w := by
  have hB2 := hB
  simp only [Region.lexB, Bool.and_eq_true] at hB2
  refine wpIn_region_any hm (quiet_anyway (C := fun w' => ∃ n, w' = w.drewN n) (Q := fun a' => ∀ w', (∃ n, w' = w.drewN n) → Q .normal a' w') (fun i o ho => noDefer_ne ?_) (fun _ w' hw' h => h w' hw') _ _ _ _ _ ⟨1, rfl⟩ ?_)
  · rw [List.getElem?_toArray] at ho
    exact List.all_eq_true.1 hd o (List.mem_of_getElem? ho)
  · have := wpAnyQIn_lex (F := F) (n := n) (P := P) (C := fun w' => ∃ n, w' = w.drewN n) (md := .any) (Q := fun a' => ∀ w', (∃ n, w' = w.drewN n) → Q .normal a' w') hB2.1 l 0 (Array.replicate l.toArray.size false) a (by simp) (by simpa using hB2.2) h
    simpa using this
end
end Go.Proofs.Ytjdhjehnofediaa
namespace Go.Proofs.Ytjdhjehnofediaa
open Go Go.RowKit
/-- where a region ends as it should, and nowhere else -/
def onlyN (Q : Act → World → Prop) : Exit → Act → World → Prop
  | .normal, a, w => Q a w
  | _, _, _ => False
theorem no_out (Q : Act → World → Prop) : ¬ LetsOut (onlyN Q) := fun ⟨_, _, h⟩ => h
section
variable {P : Program} {ops : Array Oper} {lp n : Nat} {Q : Act → World → Prop} {Q2 : Exit → Act → World → Prop}
theorem rows_in {row : String} {args : Array Value} {w : World} {R : Value → World → Prop} (h : Rows P row args w R) : RowsIn (Fence.wide.inRound lp) n P row args w R :=
  fun c cs _ => let ⟨v, w', r, s⟩ := h c cs; ⟨v, w', r, stepsIn_wide.2 s⟩
theorem oper_round {o : Oper} (hd : ∀ c, o.op ≠ .defer c) {a : Act} {w : World} {K K' : Act → World → Prop} (hk : ∀ a w, K a w → K' a w) (h : o.wp P a w K (onlyN Q)) : o.wpIn (Fence.wide.inRound lp) n P a w K' Q2 := by
  unfold Oper.wp at h
  refine ⟨fun _ _ => trivial, ?_⟩
  rw [Oper.semAt_eq _ a.eval o hd]
  cases hr : (execOp a.eval o).run P w with
  | halt x w' =>
    rw [hr] at h
    cases x <;> exact h.elim
  | ok x w' =>
    rw [hr] at h
    cases x with
    | value v => exact hk _ _ h
    | skip => exact hk _ _ h
    | defer d => exact hk _ _ h
    | enter f args =>
      refine ⟨fun q => by simp [Fence.wide] at q, CallsIn.inRound lp (callsIn_wide.2 ?_)⟩
      refine Calls.mono h ?_
      intro e w'' he
      cases e with
      | returned v => exact hk _ _ he
      | panicked c => exact he.elim
      | outgrown => exact (no_out Q he).elim
    | row row args => exact ⟨fun q => by simp [Fence.wide] at q, rows_in (Rows.mono h fun v w'' q => hk _ _ q)⟩
    | _ => exact h.elim
theorem any_round (hd : ∀ (i : Nat) o, ops[i]? = some o → ∀ c, o.op ≠ .defer c) (md : Region.Mode) : ∀ (fuel : Nat) (listed : Array Bool) (a : Act) (w : World), wpAny P md ops (onlyN (Q2 .normal)) fuel listed a w → wpAnyIn (Fence.wide.inRound lp) n P md ops Q2 fuel listed a w := by
  intro fuel
  induction fuel with
  | zero => intro listed a w h; exact h
  | succ fuel ih =>
    intro listed a w h
    refine ⟨h.1, fun i hi => ?_⟩
    have hop := h.2 i hi
    unfold wpOp at hop
    unfold wpOpIn
    cases ho : ops[i]? with
    | none => rw [ho] at hop; exact ih _ _ _ hop
    | some o =>
      rw [ho] at hop
      simp only [] at hop ⊢
      by_cases hw : Region.wanted o (yielded ops a.tmps) = true
      · rw [if_pos hw] at hop ⊢
        rcases hop with q | ⟨_, q⟩
        · exact oper_round (hd i o ho) (fun a' w' q => ih _ _ _ q) q
        · exact (no_out _ q).elim
      · rw [if_neg hw] at hop ⊢
        exact ⟨fun _ _ => trivial, ih _ _ _ hop⟩
theorem wpIn_region_round {id : Nat} {a : Act} {w : World} {l : List Oper} (hd : l.all noDefer = true) (hm : P.follows .mixedOrders = true)
    (h : wpAny P .any l.toArray (onlyN (Q2 .normal)) l.toArray.size (Array.replicate l.toArray.size false) a w.drew) : (Code.region id l.toArray true).wpIn (Fence.wide.inRound lp) n P Q2 a w := by
  refine wpIn_region_any hm (any_round (fun i o ho => noDefer_ne ?_) _ _ _ _ _ h)
  rw [List.getElem?_toArray] at ho
  exact List.all_eq_true.1 hd o (List.mem_of_getElem? ho)
end
end Go.Proofs.Ytjdhjehnofediaa
namespace Go.Proofs.Ytjdhjehnofediaa
open Go Go.RowKit Go.Shelf
/-- what renewed does to the memory, and what it answers -/
def renS (h W : Nat) (s : St) (n : Nat) : St := if n % 2 = 1 then s else movedX h W s (toP n)
def renV (h W : Nat) (s : St) (n : Nat) : Nat := if n % 2 = 1 then n else (ptrW ((moveX h W s (toP n)).1 : Nat)).toNat
theorem ptrW_rng (x : Int) : 0 ≤ ptrW x ∧ ptrW x ≤ 2199023255552 := by unfold ptrW; split <;> omega
theorem renV_bd (h W : Nat) (s : St) {n : Nat} (hn : n < 18446744073709551616) : renV h W s n < 18446744073709551616 := by
  unfold renV
  split
  · exact hn
  · have := ptrW_rng ((moveX h W s (toP n)).1 : Nat); omega
section
variable {w wr : World} {O : Nat → Prop} {b W h : Nat} {s : St} {R : Nat → Value}
theorem renX_any (x : MX w O b W h s wr R) (n : Nat) (hn : n < 18446744073709551616) :
    Calls Try.prog 56 #[.pointer (some ⟨b, 0, none⟩), .int .u64 (n : Int)] wr fun e w' => e = .returned (.int .u64 ((renV h W s n : Nat) : Int)) ∧ ∃ R', MX w O b W h (renS h W s n) w' R' ∧ (∀ i, Own b R' i → Own b R i ∨ wr.heap.size ≤ i) ∧ Fr (Own b R) wr w' := by
  unfold renS renV
  by_cases h1 : n % 2 = 1
  · simp only [if_pos h1]
    refine (renewed_int n hn h1 _).mono ?_
    rintro e w' ⟨rfl, rfl⟩
    exact ⟨rfl, R, x, fun _ h => .inl h, Fr.refl _ _⟩
  · simp only [if_neg h1]
    have HI := Lib.hid (fun W1 => isint_any (n : Int) W1 (by omega) (by omega))
    have q0 : isIntB (n : Int) = false := by unfold isIntB; simpa using by omega
    rw [q0] at HI
    have HT := Lib.hid (fun W1 => toptr_any (n : Int) W1 (by omega) (by omega))
    have ha2 : toP (n : Int) ≤ 9223372036854775807 := by unfold toP; split <;> omega
    have HMV := Lib.hid (moveX_any x (toP (n : Int)) ha2)
    obtain ⟨t, ht⟩ : ∃ t, (moveX h W s (toP (n : Int))).1 = t := ⟨_, rfl⟩
    obtain ⟨q, hq⟩ : ∃ q, (moveX h W s (toP (n : Int))).2 = q := ⟨_, rfl⟩
    rw [ht, hq] at HMV
    rw [ht]
    have HP := Lib.hid (fun W1 => ptr_any (t : Int) W1)
    have hp0 := ptrW_rng (t : Int)
    obtain ⟨y, hy⟩ : ∃ y : Nat, ptrW (t : Int) = (y : Int) := ⟨(ptrW (t : Int)).toNat, by omega⟩
    rw [hy] at HP ⊢
    rw [Int.toNat_natCast]
    clear q0 h1 hn ha2 ht hq hp0 hy x
    go_enter Try.func56, Try.ntmps56
    go_wp2_with fail
    refine (HI.out _).mono ?_
    rintro e w1 ⟨rfl, hw⟩
    subst w1
    go_wp2_with fail
    refine (HT.out _).mono ?_
    rintro e w1 ⟨rfl, hw⟩
    subst w1
    go_wp2_with fail
    refine HMV.out.mono ?_
    rintro e w1 ⟨rfl, hm⟩
    have HM1 := Lib.hid hm
    clear hm
    go_wp2_with fail
    refine (HP.out _).mono ?_
    rintro e w2 ⟨rfl, hw2⟩
    subst w2
    go_wp2_with fail
    go_ret
    exact ⟨rfl, HM1.out⟩
end
theorem keepsOthers_fr {O : Nat → Prop} {w w1 : World} (hf : Fr O w w1) (hO : ∀ (i : Nat) (o : Obj), O i → w.heap[i]? = some o → o.isCells = true) : KeepsOthers w w1 :=
  ⟨hf.size, fun k o hk ho => (hf.block k (Array.getElem?_eq_some_iff.1 hk).1 (fun q => by rw [hO k o q hk] at ho; cases ho)).trans hk⟩
/-- the memory, and blocks that are none of its own -/
structure CI (w : World) (O : Nat → Prop) (b W h : Nat) (X : Nat → Prop) (s : St) (wr : World) (R : Nat → Value) : Prop where
  x : MX w O b W h s wr R
  far : ∀ i, X i → ¬ Own b R i ∧ i < wr.heap.size
section
variable {w wr w1 w2 : World} {O X : Nat → Prop} {b W h : Nat} {s s' : St} {R R' : Nat → Value}
theorem CI.turn (c : CI w O b W h X s wr R) (x : MX w O b W h s' w1 R') (hs : ∀ i, Own b R' i → Own b R i ∨ wr.heap.size ≤ i) (hf : Fr (Own b R) wr w1) : CI w O b W h X s' w1 R' :=
  ⟨x, fun i hi => by
    obtain ⟨h1, h2⟩ := c.far i hi
    refine ⟨fun q => ?_, Nat.lt_of_lt_of_le h2 hf.size⟩
    rcases hs i q with q | q
    · exact h1 q
    · omega⟩
theorem CI.drewN (c : CI w O b W h X s wr R) (n : Nat) : CI w O b W h X s (wr.drewN n) R := ⟨c.x.drewN n, c.far⟩
/-- a step that turns blocks which are none of the memory's -/
theorem CI.kept {Y : Nat → Prop} (c : CI w O b W h X s wr R) (hf : Fr Y wr w1) (hn : ∀ i, Own b R i → ¬ Y i) (hY : ∀ i, Y i → O i ∨ w.heap.size ≤ i) : CI w O b W h X s w1 R :=
  ⟨c.x.kept hf hn hY, fun i hi => ⟨(c.far i hi).1, Nat.lt_of_lt_of_le (c.far i hi).2 hf.size⟩⟩
theorem CI.cellOf (c : CI w O b W h X s wr R) : ∀ (i : Nat) (o : Obj), Own b R i → wr.heap[i]? = some o → o.isCells = true := fun _ _ hi ho => MemV.isCells c.x.m hi ho
theorem CI.keeps (c : CI w O b W h X s wr R) (hf : Fr (Own b R) wr w1) : KeepsOthers wr w1 := keepsOthers_fr hf c.cellOf
theorem CI.row {B : Nat} {e : TypeId} {v : Value} {n : Nat} {xs : List Value} (c : CI w O b W h X s wr R) (hf : Fr (Own b R) wr w1) (hr : wr.ownsRow B e 1 v n xs) (hX : ∀ g, v.ownBlock = some g → X g) : w1.ownsRow B e 1 v n xs :=
  hf.own hr (fun g hg => (c.far g (hX g hg)).1)
theorem CI.box {B : Nat} {t : TypeId} {v : Value} (c : CI w O b W h X s wr R) (hf : Fr (Own b R) wr w1) (hr : Boxed wr B t v) (hX : X B) : Boxed w1 B t v :=
  (hf.block B hr.lt (c.far B hX).1).trans hr
end
/-- a range over a function tells so much of what a collection keeps -/
theorem ownFrom_ci {w : World} {O X : Nat → Prop} {b W h B : Nat} (S : List Nat → St) (hB : w.heap.size ≤ B) {P : List Nat → (Nat → Value) → World → Prop} (hP : ∀ R, OwnFrom B (fun l W' => P l R W')) : OwnFrom B (fun l W' => ∃ R, CI w O b W h X (S l) W' R ∧ P l R W') := by
  rintro l A A' row ⟨R, c, p⟩ hg hr
  refine ⟨R, c.kept (Y := fun i => row = some i) ((Fr.refl _ A).grown hg (fun k hk => .inl hk)) (fun i hi hrow => ?_) (fun i hi => .inr (by obtain ⟨h1, _⟩ := hr i hi; omega)), hP R l A A' row p hg hr⟩
  obtain ⟨_, o, ho, hc⟩ := hr i hrow
  rw [c.cellOf i o hi ho] at hc
  cases hc
/-- the state behind some numbers told, and the addresses -/
def mvP (h W : Nat) (xs : List Int) (s : St) (l : List Nat) : St × List Int := l.foldl (fun p x => (movedX h W p.1 (xs.getD x 0), p.2 ++ [((moveX h W p.1 (xs.getD x 0)).1 : Int)])) (s, [])
theorem mvP_snoc (h W : Nat) (xs : List Int) (s : St) (l : List Nat) (x : Nat) : mvP h W xs s (l ++ [x]) = (movedX h W (mvP h W xs s l).1 (xs.getD x 0), (mvP h W xs s l).2 ++ [((moveX h W (mvP h W xs s l).1 (xs.getD x 0)).1 : Int)]) := by
  unfold mvP; rw [List.foldl_append]; rfl
theorem mvP_len (h W : Nat) (xs : List Int) (s : St) (l : List Nat) : (mvP h W xs s l).2.length = l.length := by
  have gen : ∀ (l : List Nat) (p : St × List Int), (l.foldl (fun p x => (movedX h W p.1 (xs.getD x 0), p.2 ++ [((moveX h W p.1 (xs.getD x 0)).1 : Int)])) p).2.length = p.2.length + l.length := by
    intro l
    induction l with
    | nil => intro p; rfl
    | cons x l ih => intro p; rw [List.foldl_cons, ih]; simp; omega
  have := gen l (s, [])
  simpa [mvP] using this
/-- a field of an object is renewed; all tagged ones are -/
def rnF (h W : Nat) (a : Int) (s : St) (f : Nat) : St := if isPtrB ((loadX h W s a f).1 : Nat) then storeX h W (renS h W s (loadX h W s a f).1) a f (renV h W s (loadX h W s a f).1) else s
def rnO (h W : Nat) (a : Int) (s : St) (k : Nat) : St := (List.range k).foldl (rnF h W a) s
theorem rnO_succ (h W : Nat) (a : Int) (s : St) (k : Nat) : rnO h W a s (k + 1) = rnF h W a (rnO h W a s k) k := by unfold rnO; rw [List.range_succ, List.foldl_append]; rfl
def rnS (h W : Nat) (ys : List Int) (s : St) (l : List Nat) : St := l.foldl (fun s x => rnO h W (ys.getD x 0) s (lookX h W s (ys.getD x 0)).2.2.1) s
theorem rnS_snoc (h W : Nat) (ys : List Int) (s : St) (l : List Nat) (x : Nat) : rnS h W ys s (l ++ [x]) = rnO h W (ys.getD x 0) (rnS h W ys s l) (lookX h W (rnS h W ys s l) (ys.getD x 0)).2.2.1 := by unfold rnS; rw [List.foldl_append]; rfl
end Go.Proofs.Ytjdhjehnofediaa
