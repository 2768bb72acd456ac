/- Two memories with the document's beside them: what a round of MemPlays does to them. Conditions: none. -/
import Derived.Test.YtpgnadngiaibeaaMemStepU
import Derived.Test.YtpgnadngiaibeaaRmD
import Derived.Test.YtpgnadngiaibeaaMemCopy
namespace Go.Proofs.Ytpgnadngiaibeaa
open Go Go.RowKit
/-- beside one another, their blocks among O -/
def TP (w : World) (b rb W : Nat) (O : Nat → Prop) : Prop :=
  ∃ (h : Nat) (R : Nat → Value) (now old : List Ob) (v1 : Value) (P1 : List (RO × Value)) (v2 : Value) (P2 : List (RO × Value)), Twin w b rb W h R now old v1 P1 v2 P2 ∧ ∀ i, OwnT b rb R v1 P1 v2 P2 i → O i
/-- the two, apart, in blocks laid since w0 -/
structure PL (w0 w : World) (bm rb bc db W : Nat) (O1 O2 : Nat → Prop) : Prop where
  t1 : TP w bm rb W O1
  t2 : TP w bc db W O2
  ap : ∀ i, O1 i → ¬ O2 i
  g1 : ∀ i, O1 i → w0.heap.size ≤ i ∧ i < w.heap.size
  g2 : ∀ i, O2 i → w0.heap.size ≤ i ∧ i < w.heap.size
  fr : Below w0.heap.size w0 w
section
variable {w0 w w1 w2 w3 : World} {bm rb bc db W h : Nat} {O O1 O2 : Nat → Prop} {R V : Nat → Value} {now old : List Ob} {v1 v2 u1 u2 : Value} {P1 P2 Q1 Q2 : List (RO × Value)}
theorem TP.kept (t : TP w bm rb W O1) (hf : Fr O w w1) (hn : ∀ i, O1 i → ¬ O i) : TP w1 bm rb W O1 := by
  obtain ⟨h, R, now, old, v1, P1, v2, P2, t, g⟩ := t
  exact ⟨h, R, now, old, v1, P1, v2, P2, t.kept hf (fun i hi => hn i (g i hi)), g⟩
theorem TP.below (t : TP w bm rb W O1) (hb : Below w.heap.size w w1) : TP w1 bm rb W O1 := t.kept (Fr.of_below (O := fun _ => False) hb) (fun _ _ => id)
theorem TP.mono (t : TP w bm rb W O1) (hs : ∀ i, O1 i → O i) : TP w bm rb W O := by
  obtain ⟨h, R, now, old, v1, P1, v2, P2, t, g⟩ := t
  exact ⟨h, R, now, old, v1, P1, v2, P2, t, fun i hi => hs i (g i hi)⟩
theorem PL.below (p : PL w0 w bm rb bc db W O1 O2) (hb : Below w.heap.size w w1) : PL w0 w1 bm rb bc db W O1 O2 :=
  ⟨p.t1.below hb, p.t2.below hb, p.ap, fun i hi => ⟨(p.g1 i hi).1, Nat.lt_of_lt_of_le (p.g1 i hi).2 hb.size⟩, fun i hi => ⟨(p.g2 i hi).1, Nat.lt_of_lt_of_le (p.g2 i hi).2 hb.size⟩, p.fr.trans (hb.mono p.fr.size)⟩
/-- after a call of step -/
theorem PL.step (p : PL w0 w bm rb bc db W O1 O2) (hO : ∀ i, O i → O1 i) (s : TS w O w1 bm rb W) : ∃ O1', PL w0 w1 bm rb bc db W O1' O2 := by
  obtain ⟨h, R, now, old, v1, P1, v2, P2, t, g, f⟩ := s
  have hsz := f.size
  refine ⟨OwnT bm rb R v1 P1 v2 P2, ⟨h, R, now, old, v1, P1, v2, P2, t, fun _ => id⟩, p.t2.kept f (fun i hi ho => p.ap i (hO i ho) hi), fun i hi hi2 => ?_, fun i hi => ⟨?_, t.own_lt i hi⟩, fun i hi => ⟨(p.g2 i hi).1, Nat.lt_of_lt_of_le (p.g2 i hi).2 hsz⟩, ?_⟩
  · rcases g i hi with q | q
    · exact p.ap i (hO i q) hi2
    · have := (p.g2 i hi2).2; omega
  · rcases g i hi with q | q
    · exact (p.g1 i (hO i q)).1
    · exact Nat.le_trans p.fr.size q
  · exact p.fr.trans (f.below p.fr.size (fun i hi => (p.g1 i (hO i hi)).1))
/-- a memory copied, and the document's -/
theorem twin_copy (z : WF W h now old) (hm : Mem w1 bc W h V now old) (ho : ∀ i, Own bc V i → w.heap.size ≤ i) (hw : w.heap.size ≤ w1.heap.size)
    (e1 : P1.map Prod.fst = ros h W now) (e2 : P2.map Prod.fst = ros (1 - h) W old) (l1 : RL w2 u1 Q1) (l2 : RL w2 u2 Q2) (f1 : Q1.map Prod.fst = P1.map Prod.fst) (f2 : Q2.map Prod.fst = P2.map Prod.fst)
    (s1 : ∀ i, OwnL u1 Q1 i → w1.heap.size ≤ i) (s2 : ∀ i, OwnL u2 Q2 i → w1.heap.size ≤ i) (sd : ∀ i, OwnL u1 Q1 i → ¬ OwnL u2 Q2 i) (hb : Below w1.heap.size w1 w2)
    (hf : Fr (· = db) w2 w3) (hblk : w3.heap[db]? = some (.cells #[.int .i64 W, .int .i64 h, u1, u2] 36 (0, 0))) (hd : db < w.heap.size ∨ w2.heap.size ≤ db) :
    Twin w3 bc db W h V now old u1 Q1 u2 Q2 ∧ ∀ i, OwnT bc db V u1 Q1 u2 Q2 i → i = db ∨ (w.heap.size ≤ i ∧ i < w2.heap.size) := by
  have hm2 := hm.kept (Fr.of_below (O := fun _ => False) hb) (fun _ _ => id)
  have b0 : ∀ i, Own bc V i → w.heap.size ≤ i ∧ i < w1.heap.size := fun i hi => ⟨ho i hi, hm.own_lt i hi⟩
  have b1 : ∀ i, OwnL u1 Q1 i → w1.heap.size ≤ i ∧ i < w2.heap.size := fun i hi => ⟨s1 i hi, l1.lt i hi⟩
  have b2 : ∀ i, OwnL u2 Q2 i → w1.heap.size ≤ i ∧ i < w2.heap.size := fun i hi => ⟨s2 i hi, l2.lt i hi⟩
  have hsz := hb.size
  refine ⟨⟨hm2.kept hf (fun i hi e => ?_), z, ⟨hblk, l1.kept hf (fun i hi e => ?_), l2.kept hf (fun i hi e => ?_), fun hi => ?_, fun hi => ?_, sd⟩, f1.trans e1, f2.trans e2, fun i hi hr => ?_⟩, fun i hi => ?_⟩
  · have := b0 i hi; omega
  · have := b1 i hi; omega
  · have := b2 i hi; omega
  · have := b1 db hi; omega
  · have := b2 db hi; omega
  · have h0 := b0 i hi
    rcases hr with q | q | q
    · omega
    · have := b1 i q; omega
    · have := b2 i q; omega
  · rcases hi with q | q | q | q
    · have := b0 i q; exact .inr (by omega)
    · exact .inl q
    · have := b1 i q; exact .inr (by omega)
    · have := b2 i q; exact .inr (by omega)
theorem RM.at_ (m : RM w rb W h v1 P1 v2 P2) (hf : Fr O w w1) (hn : ∀ i, OwnL v1 P1 i ∨ OwnL v2 P2 i → ¬ O i) (hblk : w1.heap[db]? = some (.cells #[.int .i64 W, .int .i64 h, v1, v2] 36 (0, 0))) (n1 : ¬ OwnL v1 P1 db) (n2 : ¬ OwnL v2 P2 db) : RM w1 db W h v1 P1 v2 P2 :=
  ⟨hblk, m.l1.kept hf (fun i hi => hn i (.inl hi)), m.l2.kept hf (fun i hi => hn i (.inr hi)), n1, n2, m.n3⟩
/-- the document's memory at another block -/
theorem Twin.at_ (t : Twin w bm rb W h R now old v1 P1 v2 P2) (hf : Fr (fun i => i = rb ∨ i = db) w w1) (hblk : w1.heap[db]? = some (.cells #[.int .i64 W, .int .i64 h, v1, v2] 36 (0, 0))) (hdb : ¬ OwnT bm rb R v1 P1 v2 P2 db) :
    Twin w1 bm db W h R now old v1 P1 v2 P2 ∧ ∀ i, OwnT bm db R v1 P1 v2 P2 i → i = db ∨ (OwnT bm rb R v1 P1 v2 P2 i ∧ i ≠ rb) := by
  have k0 : ∀ i, Own bm R i → i ≠ rb ∧ i ≠ db := fun i hi => ⟨fun e => t.ap i hi (.inl e), fun e => hdb (by rw [← e]; exact .inl hi)⟩
  have k1 : ∀ i, OwnL v1 P1 i → i ≠ rb ∧ i ≠ db := fun i hi => ⟨fun e => t.r.n1 (by rw [← e]; exact hi), fun e => hdb (by rw [← e]; exact .inr (.inr (.inl hi)))⟩
  have k2 : ∀ i, OwnL v2 P2 i → i ≠ rb ∧ i ≠ db := fun i hi => ⟨fun e => t.r.n2 (by rw [← e]; exact hi), fun e => hdb (by rw [← e]; exact .inr (.inr (.inr hi)))⟩
  refine ⟨⟨t.m.kept hf (fun i hi e => e.elim (k0 i hi).1 (k0 i hi).2), t.z, t.r.at_ hf (fun i hi e => ?_) hblk (fun q => (k1 db q).2 rfl) (fun q => (k2 db q).2 rfl), t.e1, t.e2, fun i hi hr => ?_⟩, fun i hi => ?_⟩
  · rcases hi with q | q
    · exact e.elim (k1 i q).1 (k1 i q).2
    · exact e.elim (k2 i q).1 (k2 i q).2
  · rcases hr with q | q
    · exact (k0 i hi).2 q
    · exact t.ap i hi (.inr q)
  · rcases hi with q | q | q | q
    · exact .inr ⟨.inl q, (k0 i q).1⟩
    · exact .inl q
    · exact .inr ⟨.inr (.inr (.inl q)), (k1 i q).1⟩
    · exact .inr ⟨.inr (.inr (.inr q)), (k2 i q).1⟩
/-- copies of both stand in the place of the second -/
theorem pl_copy (t : TP w bm rb W O1) (g : ∀ i, O1 i → w0.heap.size ≤ i ∧ i < w.heap.size) (fr : Below w0.heap.size w0 w)
    (z : WF W h now old) (hm : Mem w1 bc W h V now old) (ho : ∀ i, Own bc V i → w.heap.size ≤ i) (hw : Below w.heap.size w w1)
    (e1 : P1.map Prod.fst = ros h W now) (e2 : P2.map Prod.fst = ros (1 - h) W old) (l1 : RL w2 u1 Q1) (l2 : RL w2 u2 Q2) (f1 : Q1.map Prod.fst = P1.map Prod.fst) (f2 : Q2.map Prod.fst = P2.map Prod.fst)
    (s1 : ∀ i, OwnL u1 Q1 i → w1.heap.size ≤ i) (s2 : ∀ i, OwnL u2 Q2 i → w1.heap.size ≤ i) (sd : ∀ i, OwnL u1 Q1 i → ¬ OwnL u2 Q2 i) (hb : Below w1.heap.size w1 w2)
    (hf : Fr (· = db) w2 w3) (hblk : w3.heap[db]? = some (.cells #[.int .i64 W, .int .i64 h, u1, u2] 36 (0, 0))) (hd : db < w.heap.size ∨ w2.heap.size ≤ db) (hd0 : w0.heap.size ≤ db) (hn : ¬ O1 db) : ∃ O2', PL w0 w3 bm rb bc db W O1 O2' := by
  obtain ⟨t2, o2⟩ := twin_copy z hm ho hw.size e1 e2 l1 l2 f1 f2 s1 s2 sd hb hf hblk hd
  have hws := hw.size
  have hbs := hb.size
  have hfs := hf.size
  have h0 := fr.size
  have hdl : db < w3.heap.size := (Array.getElem?_eq_some_iff.1 hblk).1
  refine ⟨fun i => i = db ∨ (w.heap.size ≤ i ∧ i < w2.heap.size), ((t.below hw).below hb).kept hf (fun i hi e => hn (by rw [← e]; exact hi)), ⟨_, _, _, _, _, _, _, _, t2, o2⟩, fun i hi q => ?_, fun i hi => ?_, fun i hi => ?_, ?_⟩
  · rcases q with q | q
    · exact hn (by rw [← q]; exact hi)
    · have := (g i hi).2; omega
  · have := g i hi; omega
  · rcases hi with q | q
    · subst q; exact ⟨hd0, hdl⟩
    · omega
  · have h2 : Below w0.heap.size w0 w2 := (fr.trans (hw.mono h0)).trans (hb.mono (Nat.le_trans h0 hws))
    exact h2.trans (hf.below (by omega) (fun i e => by subst e; exact hd0))
/-- they change places -/
theorem pl_swap {h' : Nat} {R' : Nat → Value} {now' old' : List Ob} (t : Twin w bm rb W h R now old v1 P1 v2 P2) (t' : Twin w bc db W h' R' now' old' u1 Q1 u2 Q2) (g : ∀ i, OwnT bm rb R v1 P1 v2 P2 i → O1 i) (g' : ∀ i, OwnT bc db R' u1 Q1 u2 Q2 i → O2 i)
    (ap : ∀ i, O1 i → ¬ O2 i) (g1 : ∀ i, O1 i → w0.heap.size ≤ i ∧ i < w.heap.size) (g2 : ∀ i, O2 i → w0.heap.size ≤ i ∧ i < w.heap.size) (fr : Below w0.heap.size w0 w)
    (hf : Fr (fun i => i = rb ∨ i = db) w w1) (hb1 : w1.heap[rb]? = some (.cells #[.int .i64 W, .int .i64 h', u1, u2] 36 (0, 0))) (hb2 : w1.heap[db]? = some (.cells #[.int .i64 W, .int .i64 h, v1, v2] 36 (0, 0))) : ∃ O1' O2', PL w0 w1 bc rb bm db W O1' O2' := by
  have h1 : O1 rb := g rb (.inr (.inl rfl))
  have h2 : O2 db := g' db (.inr (.inl rfl))
  obtain ⟨s, o⟩ := t.at_ hf hb2 (fun q => ap db (g db q) h2)
  obtain ⟨s', o'⟩ := t'.at_ (hf.mono (fun i q => .inl q.symm)) hb1 (fun q => ap rb h1 (g' rb q))
  have hfs := hf.size
  have r1 := g1 rb h1
  have r2 := g2 db h2
  refine ⟨fun i => i = rb ∨ (O2 i ∧ i ≠ db), fun i => i = db ∨ (O1 i ∧ i ≠ rb), ⟨_, _, _, _, _, _, _, _, s', fun i hi => (o' i hi).imp id (fun q => ⟨g' i q.1, q.2⟩)⟩, ⟨_, _, _, _, _, _, _, _, s, fun i hi => (o i hi).imp id (fun q => ⟨g i q.1, q.2⟩)⟩, fun i hi q => ?_, fun i hi => ?_, fun i hi => ?_, ?_⟩
  · rcases hi with rfl | hi
    · rcases q with rfl | q
      · exact ap _ h1 h2
      · exact q.2 rfl
    · rcases q with rfl | q
      · exact hi.2 rfl
      · exact ap i q.1 hi.1
  · rcases hi with rfl | hi
    · omega
    · have := g2 i hi.1; omega
  · rcases hi with rfl | hi
    · omega
    · have := g1 i hi.1; omega
  · exact fr.trans (hf.below fr.size (fun i e => by rcases e with rfl | rfl <;> omega))
/-- four cells stored anew -/
theorem fr_four {W1 : World} {c : Nat} (x0 x1 x2 x3 : Value) : Fr (· = c) W1 ((((W1.setCell ⟨c, 0, none⟩ x0).setCell ⟨c, 1, none⟩ x1).setCell ⟨c, 2, none⟩ x2).setCell ⟨c, 3, none⟩ x3) :=
  ((((Fr.refl (· = c) W1).setCell (p := ⟨c, 0, none⟩) (.inl rfl) _).setCell (p := ⟨c, 1, none⟩) (.inl rfl) _).setCell (p := ⟨c, 2, none⟩) (.inl rfl) _).setCell (p := ⟨c, 3, none⟩) (.inl rfl) _
theorem PL.same (p : PL w0 w bm rb bc db W O1 O2) : Calls Try.prog 24 #[.pointer (some ⟨bm, 0, none⟩), .pointer (some ⟨rb, 0, none⟩)] w fun e w' => e = .returned (.bool true) ∧ PL w0 w' bm rb bc db W O1 O2 := by
  obtain ⟨h, R, now, old, v1, P1, v2, P2, t, g⟩ := p.t1
  exact (same_any t).mono fun e w' hh => ⟨hh.1, p.below hh.2⟩
theorem PL.whole1 (p : PL w0 w bm rb bc db W O1 O2) : Calls Try.prog 25 #[.pointer (some ⟨bm, 0, none⟩), .pointer (some ⟨rb, 0, none⟩)] w fun e w' => e = .returned (.bool true) ∧ PL w0 w' bm rb bc db W O1 O2 := by
  obtain ⟨h, R, now, old, v1, P1, v2, P2, t, g⟩ := p.t1
  exact (whole_any t).mono fun e w' hh => ⟨hh.1, p.below hh.2⟩
theorem PL.whole2 (p : PL w0 w bm rb bc db W O1 O2) : Calls Try.prog 25 #[.pointer (some ⟨bc, 0, none⟩), .pointer (some ⟨db, 0, none⟩)] w fun e w' => e = .returned (.bool true) ∧ PL w0 w' bm rb bc db W O1 O2 := by
  obtain ⟨h, R, now, old, v1, P1, v2, P2, t, g⟩ := p.t2
  exact (whole_any t).mono fun e w' hh => ⟨hh.1, p.below hh.2⟩
theorem PL.asked (p : PL w0 w bm rb bc db W O1 O2) (k A B C X : Int) (hA : A ≤ 9223372036854775807) (h0 : 0 ≤ X) (h1 : X < 18446744073709551616) : Calls Try.prog 23 #[.pointer (some ⟨bm, 0, none⟩), .pointer (some ⟨rb, 0, none⟩), .agg #[.int .i64 k, .int .i64 A, .int .i64 B, .int .i64 C, .int .u64 X]] w fun e w' => e = .returned (.bool true) ∧ ∃ O1', PL w0 w' bm rb bc db W O1' O2 := by
  obtain ⟨h, R, now, old, v1, P1, v2, P2, t, g⟩ := p.t1
  exact (step_any t k A B C X hA h0 h1).mono fun e w' hh => ⟨hh.1, p.step g hh.2⟩
end
end Go.Proofs.Ytpgnadngiaibeaa
