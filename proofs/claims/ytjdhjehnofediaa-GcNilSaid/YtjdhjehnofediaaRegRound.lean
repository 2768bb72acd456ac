/- A region that draws its order, in a round of a range over a function: what serves outside of rounds serves there too. Conditions: none of its operations defers, and each comes to an end. -/
import Derived.Deep.RegionLaw
import Derived.OrdersIn
import Derived.RangeFuncCalls
import Derived.Test.YtjdhjehnofediaaQuietRound
namespace Go.Proofs.Ytjdhjehnofediaa
open Go Go.RowKit
/-- where a region ends as it should, and nowhere else -/
def onlyN (Q : Act → World → Prop) : Exit → Act → World → Prop
  | .normal, a, w => Q a w
  | _, _, _ => False
theorem no_out (Q : Act → World → Prop) : ¬ LetsOut (onlyN Q) := fun ⟨_, _, h⟩ => h
section
variable {P : Program} {ops : Array Oper} {lp n : Nat} {Q : Act → World → Prop} {Q2 : Exit → Act → World → Prop}
theorem rows_in {row : String} {args : Array Value} {w : World} {R : Value → World → Prop} (h : Rows P row args w R) : RowsIn (Fence.wide.inRound lp) n P row args w R :=
  fun c cs _ => let ⟨v, w', r, s⟩ := h c cs; ⟨v, w', r, stepsIn_wide.2 s⟩
theorem oper_round {o : Oper} (hd : ∀ c, o.op ≠ .defer c) {a : Act} {w : World} {K K' : Act → World → Prop} (hk : ∀ a w, K a w → K' a w) (h : o.wp P a w K (onlyN Q)) : o.wpIn (Fence.wide.inRound lp) n P a w K' Q2 := by
  unfold Oper.wp at h
  refine ⟨fun _ _ => trivial, ?_⟩
  rw [Oper.semAt_eq _ a.eval o hd]
  cases hr : (execOp a.eval o).run P w with
  | halt x w' =>
    rw [hr] at h
    cases x <;> exact h.elim
  | ok x w' =>
    rw [hr] at h
    cases x with
    | value v => exact hk _ _ h
    | skip => exact hk _ _ h
    | defer d => exact hk _ _ h
    | enter f args =>
      refine ⟨fun q => by simp [Fence.wide] at q, CallsIn.inRound lp (callsIn_wide.2 ?_)⟩
      refine Calls.mono h ?_
      intro e w'' he
      cases e with
      | returned v => exact hk _ _ he
      | panicked c => exact he.elim
      | outgrown => exact (no_out Q he).elim
    | row row args => exact ⟨fun q => by simp [Fence.wide] at q, rows_in (Rows.mono h fun v w'' q => hk _ _ q)⟩
    | _ => exact h.elim
theorem any_round (hd : ∀ (i : Nat) o, ops[i]? = some o → ∀ c, o.op ≠ .defer c) (md : Region.Mode) : ∀ (fuel : Nat) (listed : Array Bool) (a : Act) (w : World), wpAny P md ops (onlyN (Q2 .normal)) fuel listed a w → wpAnyIn (Fence.wide.inRound lp) n P md ops Q2 fuel listed a w := by
  intro fuel
  induction fuel with
  | zero => intro listed a w h; exact h
  | succ fuel ih =>
    intro listed a w h
    refine ⟨h.1, fun i hi => ?_⟩
    have hop := h.2 i hi
    unfold wpOp at hop
    unfold wpOpIn
    cases ho : ops[i]? with
    | none => rw [ho] at hop; exact ih _ _ _ hop
    | some o =>
      rw [ho] at hop
      simp only [] at hop ⊢
      by_cases hw : Region.wanted o (yielded ops a.tmps) = true
      · rw [if_pos hw] at hop ⊢
        rcases hop with q | ⟨_, q⟩
        · exact oper_round (hd i o ho) (fun a' w' q => ih _ _ _ q) q
        · exact (no_out _ q).elim
      · rw [if_neg hw] at hop ⊢
        exact ⟨fun _ _ => trivial, ih _ _ _ hop⟩
theorem wpIn_region_round {id : Nat} {a : Act} {w : World} {l : List Oper} (hd : l.all noDefer = true) (hm : P.follows .mixedOrders = true)
    (h : wpAny P .any l.toArray (onlyN (Q2 .normal)) l.toArray.size (Array.replicate l.toArray.size false) a w.drew) : (Code.region id l.toArray true).wpIn (Fence.wide.inRound lp) n P Q2 a w := by
  refine wpIn_region_any hm (any_round (fun i o ho => noDefer_ne ?_) _ _ _ _ _ h)
  rw [List.getElem?_toArray] at ho
  exact List.all_eq_true.1 hd o (List.mem_of_getElem? ho)
end
end Go.Proofs.Ytjdhjehnofediaa
