/- What the statements of gc that play against the document's memory begin with: a heap, its memory, the document's beside it. Conditions: none. -/
import Derived.Test.YtjdhjehnofediaaGcRefE
import Derived.Test.YtjdhjehnofediaaGcRefM
import Derived.Test.YtjdhjehnofediaaGcSame
namespace Go.Proofs.Ytjdhjehnofediaa
open Go Go.RowKit
theorem RW.rebox {w wr w1 : World} {b W rb : Nat} {os : List Ob} {v : Value} {P : List (RO × Value)} (x : RW w b W os wr v P) (hb : Below wr.heap.size wr w1) (hblk : w1.heap[rb]? = some (.cells #[.int .i64 W, .int .i64 0, v, .slice none 0 0] 30 (0, 0))) (hrb : wr.heap.size ≤ rb) :
    RM w1 rb W 0 v P (.slice none 0 0) [] ∧ ∀ i, OwnR rb v P (.slice none 0 0) [] i → w.heap.size ≤ i := by
  refine ⟨⟨hblk, x.r.l1.below hb, RL.nil _, fun h => ?_, fun h => ownL_nilE h, fun i _ h => ownL_nilE h⟩, fun i hi => ?_⟩
  · have := x.r.l1.lt rb h
    omega
  · rcases hi with q | q | q
    · have := x.fr.size; omega
    · exact x.ge i (.inr (.inl q))
    · exact (ownL_nilE q).elim
theorem twin_of {w2 w3 w4 : World} {b b2 W rb : Nat} {R : Nat → Value} {now : List Ob} {v : Value} {P : List (RO × Value)} (m : Mem w2 b W 0 R now []) (z : WF W 0 now []) (x : RW w2 b2 W now w3 v P) (hb : Below w3.heap.size w3 w4) (hblk : w4.heap[rb]? = some (.cells #[.int .i64 W, .int .i64 0, v, .slice none 0 0] 30 (0, 0))) (hrb : w3.heap.size ≤ rb) :
    Twin w4 b rb W 0 R now [] v P (.slice none 0 0) [] ∧ ∀ i, OwnR rb v P (.slice none 0 0) [] i → w2.heap.size ≤ i := by
  obtain ⟨h1, h2⟩ := x.rebox hb hblk hrb
  exact ⟨⟨m.below (x.fr.trans (hb.mono x.fr.size)), z, h1, x.e, rfl, fun i hi q => by
    have := h2 i q
    have := m.own_lt i hi
    omega⟩, h2⟩
theorem Twin.rt {w : World} {b rb W h : Nat} {R : Nat → Value} {now old : List Ob} {v1 v2 : Value} {P1 P2 : List (RO × Value)} (t : Twin w b rb W h R now old v1 P1 v2 P2) : RT w rb W h now old v1 P1 v2 P2 := ⟨t.r, t.z, t.e1, t.e2⟩
theorem row_no {w : World} {B n m c : Nat} {e : TypeId} {a : Option Addr} {xs : List Value} (h : w.ownsRow B e 1 (.slice a n c) m xs) : a = none → c = 0 := by
  intro he
  subst he
  rcases h.2 with ⟨h0, _⟩ | ⟨g, cap, cur, h0, _⟩
  · injection h0
  · injection h0 with h1; cases h1
end Go.Proofs.Ytjdhjehnofediaa
