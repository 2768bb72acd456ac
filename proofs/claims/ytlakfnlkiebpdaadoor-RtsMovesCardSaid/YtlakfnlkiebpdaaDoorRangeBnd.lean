/- A range over a function whose iterator has no end of its own: the body's invariant bounds the rounds. Conditions: those that the law names. -/
import Derived.RangeFuncNested
import Derived.RangeFuncBound
import Derived.RangeFuncCalls
import Derived.RangeFuncLeaves
import Derived.LoopNIn
import Derived.LoopIn
import Derived.Test.YtlakfnlkiebpdaaDoorProg
namespace Go.Proofs.YtlakfnlkiebpdaaDoor
open Go Go.RowKit
/-- the iterator's contract: as many rounds as the body's invariant lets be -/
def SeqBnd {α : Type} (F : Fence) (n : Nat) (P : Program) (g : Nat) (lb : Array Value) (encs : α → Array Value) (Kp : World → World → Prop) (S Sp : List α → Prop) (M : Nat) (w : World) : Prop :=
  ∀ (l : Nat) (J Jx : List α → World → Prop) (W : World), Below w.heap.size w W → AbidesFrom W.heap.size J → AbidesFrom W.heap.size Jx → (∀ pre W1, J pre W1 → pre.length ≤ M) →
    (∀ pre x W1, J pre W1 → S (pre ++ [x]) → YieldAt F (n - 1) P l (encs x) W1 fun e W' =>
      (e = .returned (.bool true) ∧ J (pre ++ [x]) W' ∧ Kp W1 W') ∨ (e = .returned (.bool false) ∧ Jx (pre ++ [x]) W')) →
    J [] W →
    CallsIn F n P g (#[.func (.yield l) #[] #[]] ++ lb) W fun e W' => (∃ v, e = .returned v) ∧ ((∃ xs, Sp xs ∧ J xs W') ∨ (∃ pre, S pre ∧ Jx pre W'))
theorem wpIn_range_bnd {F : Fence} {n : Nat} {P : Program} {α : Type} {g : Operand} {ps : Array Tmp} {assign body : Code} {Q : Exit → Act → World → Prop} {a : Act} {w : World}
    (hro : F.round = none) (h1 : 1 ≤ n) {gf : Nat} {lb : Array Value} (hg : a.eval g = .func (.func gf) #[] lb) (hFg : F.fn gf) (eg : ∀ args w, (callFunc gf args).run P w = .ok (.enter gf args) w)
    {encs : α → Array Value} {Kp : World → World → Prop} {S Sp : List α → Prop} {M : Nat} (hseq : SeqBnd F (n - 1) P gf lb encs Kp S Sp M w)
    (hKt : ∀ {A B C : World}, Kp A B → Kp B C → Kp A C) (hKb : ∀ (W : World) (l : Nat) (o o' : Obj), w.heap.size ≤ l → W.heap[l]? = some o → o.isCells = false → o.isWalk = false → Kp W (W.putObj l o')) (hps : ∀ x, (encs x).size = ps.size)
    (I : List α → World → Prop) (Ix : Code → List α → World → Prop) (hI : OwnFrom w.heap.size I) (hIx : ∀ c, OwnFrom w.heap.size (Ix c)) (h0 : I [] w) (hM : ∀ pre W, I pre W → pre.length ≤ M) (a₁ : α → Act)
    (hassign : ∀ (l : Nat) (x : α) (W : World) (K : Act → World → Prop), K (a₁ x) W →
      assign.wpIn (F.inRound l) (n - 1 - 1) P (Exit.then K (fun _ _ _ => False)) { tmps := (ps.zip (encs x)).foldl (fun t (p, v) => t.setIfInBounds p v) a.tmps, defers := [] } W)
    (hbody : ∀ (l : Nat) (pre : List α) (x : α) (W : World), I pre W → S (pre ++ [x]) → body.wpIn (F.inRound l) (n - 1 - 1) P (ownPostG w.heap.size Kp I Ix (pre ++ [x]) W) (a₁ x) W)
    (hdone : ∀ (D : Nat) (xs : List α) (W : World), w.heap.size ≤ D → Sp xs → I xs W → W.heap[D]? = some (.deferred (some [])) → Q .normal { a with defers := { target := .collected D, args := #[] } :: a.defers } W)
    (hstop : ∀ (D : Nat) (c : Code) (pre : List α) (W : World), w.heap.size ≤ D → S pre → Ix c pre W → W.heap[D]? = some (.deferred (some [])) → c.wpIn F n P Q { a with defers := { target := .collected D, args := #[] } :: a.defers } W) :
    (Code.rangeFunc g ps assign body).wpIn F n P Q a w := by
  refine wpIn_rangeFunc fun fn hfn => ?_
  rw [hro]
  obtain ⟨z, hz⟩ : ∃ z, w.heap.size = z := ⟨_, rfl⟩
  obtain ⟨rec, hrec⟩ : ∃ rec : LoopState → Option Code → Loop, rec = fun st pe => { state := st, pending := pe, fn, tmps := a.tmps, params := ps, assign, body, defers := z } := ⟨_, rfl⟩
  have hps' : ∀ st pe x, (encs x).size = (rec st pe).params.size := fun st pe x => by rw [hrec]; exact hps x
  have hst : ∀ st pe, (rec st pe).state = st := fun st pe => by rw [hrec]
  obtain ⟨W1, hW1⟩ : ∃ W1, (w.alloc (.deferred (some []))).alloc (.loop (rec .ready none)) = W1 := ⟨_, rfl⟩
  have hL1 : W1.heap[z + 1]? = some (.loop (rec .ready none)) := by
    rw [← hW1, ← hz]
    have := World.alloc_heap_new (w.alloc (.deferred (some []))) (.loop (rec .ready none))
    rwa [World.size_alloc] at this
  have hK1 : W1.heap[z]? = some (.deferred (some [])) := by
    rw [← hW1, ← hz]; exact (Below.heap_alloc _ _ _ (by simp)).trans (World.alloc_heap_new w _)
  have hs1 : W1.heap.size = z + 2 := by rw [← hW1, ← hz]; simp
  have hb1 : Below w.heap.size w W1 := by rw [← hW1]; exact ((Below.refl _ w).alloc (Nat.le_refl _) _).alloc (by simp) _
  have hI1 : I [] W1 := by rw [← hW1]; exact hI.alloc _ (hI.alloc _ h0)
  rw [hz] at hI hIx hKb hbody hdone hstop
  /- what stands in the record's block beside an invariant -/
  have own2 : ∀ {X : List α → World → Prop} (_ : OwnFrom z X) (L : Loop), AbidesFrom W1.heap.size fun pre W => X pre W ∧ W.heap[z + 1]? = some (.loop L) ∧ W.heap[z]? = some (.deferred (some [])) := fun {X} hX L s A B row hs hg' hr =>
    ⟨hX s A B row hs.1 hg' (fun r e => by obtain ⟨h2, o, ho, hw⟩ := hr r e; exact ⟨by omega, o, ho, Obj.not_cells_of_walk hw⟩),
      (grownBy_keeps hg' (fun r e => (hr r e).2) hs.2.1 rfl).trans hs.2.1, (grownBy_keeps hg' (fun r e => (hr r e).2) hs.2.2 rfl).trans hs.2.2⟩
  refine ⟨z + 1, [{ target := .collected z, args := #[] }], W1, { target := .fn (.func gf) lb, args := #[.func (.yield (z + 1)) #[] #[]] }, W1, gf, #[.func (.yield (z + 1)) #[] #[]] ++ lb, W1, ?_, ?_, ?_, ?_, fun _ => h1, ?_⟩
  · subst hz; rw [← hW1, hrec]; exact run_enterLoop_outer _ _ _ _ _
  · simp only [resolve, hg]
    simp [go_sem]
  · intro f' hf'; simp [Target.leads] at hf'; subst hf'; exact hFg
  · simp [invoke, go_sem, eg]
  refine (hseq (z + 1) (fun pre W => I pre W ∧ W.heap[z + 1]? = some (.loop (rec .ready none)) ∧ W.heap[z]? = some (.deferred (some [])))
    (fun pre W => ∃ c, Ix c pre W ∧ W.heap[z + 1]? = some (.loop (rec .done (some c))) ∧ W.heap[z]? = some (.deferred (some []))) W1 hb1 (own2 hI _)
    (fun s A B row hs hg' hr => by obtain ⟨c, hc⟩ := hs; exact ⟨c, own2 (hIx c) _ s A B row hc hg' hr⟩) (fun pre W h => hM pre W h.1) ?_ ⟨hI1, hL1, hK1⟩).mono ?_
  · rintro pre x W ⟨hi, hl, hk⟩ hS
    have hlt : z + 1 < W.heap.size := (Array.getElem?_eq_some_iff.1 hl).1
    have hy := run_yield (P := P) (args := encs x) hl (hps' _ _ x)
    rw [hrec] at hy
    obtain ⟨Wb, hWb⟩ : ∃ Wb, W.putObj (z + 1) (.loop { rec .ready none with state := .busy }) = Wb := ⟨_, rfl⟩
    have hbg := run_beginRound (P := P) hl (hst _ _)
    rw [hWb] at hbg
    refine ⟨fn, _, assign, body, hy, roundIn_of_wpIn hfn (hassign _ x W _ ⟨Wb, hbg, ?_⟩)⟩
    have hlb : Wb.heap[z + 1]? = some (.loop { rec .ready none with state := .busy }) := by rw [← hWb]; exact World.putObj_heap_same hlt
    have hkb : Wb.heap[z]? = some (.deferred (some [])) := by rw [← hWb]; exact (World.putObj_heap_other (by omega)).trans hk
    have hKp : Kp W Wb := by rw [← hWb]; exact hKb _ _ _ _ (by omega) hl rfl rfl
    have hIb : I pre Wb := by rw [← hWb]; exact hI.putObj _ hi (by omega) hl rfl
    have leave : ∀ (jump : Option Code) (W3 : World), KeepsFrom z Wb W3 → ∃ W4, W4 = W3.putObj (z + 1) (.loop (rec (if jump.isNone then .ready else .done) jump)) ∧ (Instr.endRound (z + 1) jump).run P W3 = .ok (.bool jump.isNone) W4 ∧
        W3.heap[z + 1]? = some (.loop { rec .ready none with state := .busy }) ∧ W4.heap[z + 1]? = some (.loop (rec (if jump.isNone then .ready else .done) jump)) ∧ W4.heap[z]? = some (.deferred (some [])) := fun jump W3 h3 => by
      have hl3 := h3.same _ _ (by omega) hlb rfl
      have hr := run_endRound (P := P) jump hl3
      rw [hrec] at hr hl3 ⊢
      exact ⟨_, rfl, hr, hl3, World.putObj_heap_same (Array.getElem?_eq_some_iff.1 hl3).1, (World.putObj_heap_other (by omega)).trans (h3.same _ _ (Nat.le_refl _) hkb rfl)⟩
    refine wpIn_mono (hbody _ pre x _ hIb hS) ?_
    have stopped : ∀ (c : Code) (W3 : World), KeepsFrom z Wb W3 → Ix c (pre ++ [x]) W3 → ∃ v w', (Instr.endRound (z + 1) (some c)).run P W3 = .ok v w' ∧
        ((Ending.returned v = .returned (.bool true) ∧ (I (pre ++ [x]) w' ∧ w'.heap[z + 1]? = some (.loop (rec .ready none)) ∧ w'.heap[z]? = some (.deferred (some []))) ∧ Kp W w') ∨
          (Ending.returned v = .returned (.bool false) ∧ ∃ c, Ix c (pre ++ [x]) w' ∧ w'.heap[z + 1]? = some (.loop (rec .done (some c))) ∧ w'.heap[z]? = some (.deferred (some [])))) := fun c W3 h3 hx3 => by
      obtain ⟨W4, e4, hr, hl3, hl4, hk4⟩ := leave (some c) W3 h3
      exact ⟨_, _, hr, .inr ⟨rfl, c, by rw [e4]; exact (hIx c).putObj _ hx3 (by omega) hl3 rfl, hl4, hk4⟩⟩
    rintro e a3 W3 hp
    cases e with
    | normal =>
      obtain ⟨h3, hkp3, hi3⟩ := hp
      obtain ⟨W4, e4, hr, hl3, hl4, hk4⟩ := leave none W3 h3
      exact ⟨_, _, hr, .inl ⟨rfl, ⟨by rw [e4]; exact hI.putObj _ hi3 (by omega) hl3 rfl, hl4, hk4⟩, hKt (hKt hKp hkp3) (by rw [e4]; exact hKb _ _ _ _ (by omega) hl3 rfl rfl)⟩⟩
    | ret => exact stopped _ W3 hp.1 hp.2
    | exit id => exact stopped _ W3 hp.1 hp.2
    | goto t => exact stopped _ W3 hp.1 hp.2
    | panic ch => exact hp.elim
    | outgrown => exact hp.elim
  · rintro e W2 ⟨⟨v, rfl⟩, (⟨xs, hSp, hi, hl, hk⟩ | ⟨pre, hS, c, hi, hl, hk⟩)⟩
    · have hr := run_endLoop (P := P) hl (by rw [hst]; simp)
      rw [hrec] at hr
      exact ⟨none, _, hr, hdone _ xs _ (by omega) hSp (hI.putObj _ hi (by omega) hl rfl) ((World.putObj_heap_other (by omega)).trans hk)⟩
    · have hr := run_endLoop (P := P) hl (by rw [hst]; simp)
      rw [hrec] at hr
      exact ⟨some c, _, hr, hstop _ c pre _ (by omega) hS ((hIx c).putObj _ hi (by omega) hl rfl) ((World.putObj_heap_other (by omega)).trans hk)⟩
/-- a loop of at most M rounds, by a relation that counts them -/
theorem wpIn_loop_bnd {F : Fence} {n : Nat} {P : Program} {Q : Exit → Act → World → Prop} {a : Act} {w : World} {c : Code} (M : Nat) (R : Nat → Act → World → Prop) (h0 : R 0 a w) (hM : ∀ k a w, R k a w → k ≤ M)
    (step : ∀ k a w, R k a w → c.wpIn F n P (Exit.then (R (k + 1)) Q) a w) : (Code.loop c).wpIn F n P Q a w := by
  have key : ∀ m k a w, R k a w → M < k + m → Code.roundsIn F n P c Q m a w := by
    intro m
    induction m with
    | zero => intro k a w h hk; have := hM k a w h; omega
    | succ m ih =>
      intro k a w h hk
      rw [roundsIn_succ]
      refine wpIn_mono (step k a w h) ?_
      intro e a' w' hq
      cases e with
      | normal => exact ih (k + 1) a' w' hq (by omega)
      | ret => exact hq
      | exit id => exact hq
      | goto t => exact hq
      | panic ch => exact hq
      | outgrown => exact hq
  exact wpIn_loop_rounds (M + 1) (key (M + 1) 0 a w h0 (by omega))
end Go.Proofs.YtlakfnlkiebpdaaDoor
