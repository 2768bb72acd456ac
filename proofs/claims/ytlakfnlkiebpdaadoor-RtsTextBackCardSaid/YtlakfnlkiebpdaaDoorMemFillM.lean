/- A memory that is filled by a row of numbers: its objects, their addresses and sizes; two lists of integers beside it. Conditions: none. -/
import Derived.Test.YtlakfnlkiebpdaaDoorMemKnA
namespace Go.Proofs.YtlakfnlkiebpdaaDoor
open Go Go.RowKit
def ints (l : List Int) : List Value := l.map (Value.int .i64)
theorem ints_length (l : List Int) : (ints l).length = l.length := by simp [ints]
theorem ints_snoc (l : List Int) (x : Int) : ints l ++ [Value.int .i64 x] = ints (l ++ [x]) := by simp [ints]
/-- the object of a number with n fields, of which k are stored -/
def fobP (i n k : Nat) : Ob := ⟨1, n, (List.range k).map (fun x => 100 * i + x) ++ List.replicate (n - k) 1, 0⟩
def fob (i n : Nat) : Ob := ⟨1, n, (List.range n).map (fun x => 100 * i + x), 0⟩
theorem fobP_zero (i n : Nat) : fobP i n 0 = newOb 1 n n := by simp [fobP, newOb]
theorem fobP_full (i n : Nat) : fobP i n n = fob i n := by simp [fobP, fob]
theorem fobP_len {i n k : Nat} (h : k ≤ n) : (fobP i n k).ws.length = n := by simp [fobP]; omega
theorem fob_len (i n : Nat) : (fob i n).ws.length = n := by simp [fob]
theorem fobP_set {i n k : Nat} (h : k < n) : ({ fobP i n k with ws := (fobP i n k).ws.set k (100 * i + k) } : Ob) = fobP i n (k + 1) := by
  unfold fobP
  simp only [Ob.mk.injEq, true_and, and_true]
  rw [List.set_append_right _ _ (by simp), List.length_map, List.length_range, Nat.sub_self, show n - k = (n - (k + 1)) + 1 by omega, List.replicate_succ, List.set_cons_zero, List.range_succ, List.map_append]
  simp
theorem fob_get {i n k : Nat} (h : k < n) : (fob i n).ws.getD k 0 = 100 * i + k := by simp [fob, h]
/-- the objects of sizes -/
def fobs (ns : List Nat) : List Ob := ns.mapIdx fob
theorem fobs_length (ns : List Nat) : (fobs ns).length = ns.length := by simp [fobs]
theorem fobs_snoc (ns : List Nat) (n : Nat) : fobs (ns ++ [n]) = fobs ns ++ [fob ns.length n] := by simp [fobs]
theorem fobs_get (ns : List Nat) {j : Nat} (h : j < ns.length) : (fobs ns)[j]? = some (fob j ns[j]) := by simp [fobs, h]
/-- the addresses of objects of the half 0 -/
def aL (os : List Ob) : List Int := (List.range os.length).map fun j => ((start os j : Nat) : Int) + 1
theorem aL_length (os : List Ob) : (aL os).length = os.length := by simp [aL]
theorem aL_snoc (os : List Ob) (o : Ob) : aL (os ++ [o]) = aL os ++ [((used os : Nat) : Int) + 1] := by
  unfold aL
  rw [List.length_append, List.length_singleton, List.range_succ, List.map_append]
  congr 1
  · apply List.map_congr_left
    intro j hj
    rw [start_append _ _ _ (Nat.le_of_lt (List.mem_range.1 hj))]
  · simp [start_append _ _ _ (Nat.le_refl _), start_len]
theorem aL_get (os : List Ob) {j : Nat} (h : j < os.length) : (aL os)[j]? = some (((start os j : Nat) : Int) + 1) := by simp [aL, h]
def sL (ns : List Nat) : List Int := ns.map fun (n : Nat) => (n : Int)
theorem sL_length (ns : List Nat) : (sL ns).length = ns.length := by simp [sL]
theorem sL_snoc (ns : List Nat) (n : Nat) : sL (ns ++ [n]) = sL ns ++ [(n : Int)] := by simp [sL]
theorem sL_get (ns : List Nat) {j : Nat} (h : j < ns.length) : (sL ns)[j]? = some ((ns[j] : Nat) : Int) := by simp [sL, h]
/-- a memory of the call's own, and beside it two lists of integers of its own -/
structure FRel (w : World) (b W h : Nat) (now old : List Ob) (la ls : List Int) (va vs : Value) (wr : World) (R : Nat → Value) : Prop where
  x : MW w b W h now old wr R
  oa : wr.ownsRow w.heap.size 3 1 va la.length (ints la)
  os : wr.ownsRow w.heap.size 3 1 vs ls.length (ints ls)
  na : ∀ g, va.ownBlock = some g → ¬ Own b R g
  ns : ∀ g, vs.ownBlock = some g → ¬ Own b R g
  ne : ∀ g, va.ownBlock = some g → vs.ownBlock ≠ some g
section
variable {w wr w1 : World} {b W h h' : Nat} {now old now' old' : List Ob} {la ls : List Int} {va vs v' : Value} {R R' : Nat → Value}
theorem FRel.drewN (f : FRel w b W h now old la ls va vs wr R) (n : Nat) : FRel w b W h now old la ls va vs (wr.drewN n) R := ⟨f.x.drewN n, f.oa, f.os, f.na, f.ns, f.ne⟩
theorem FRel.next (f : FRel w b W h now old la ls va vs wr R) (m : Mem w1 b W h' R' now' old') (z : WF W h' now' old') (hs : ∀ i, Own b R' i → Own b R i ∨ wr.heap.size ≤ i) (hf : Fr (Own b R) wr w1) : FRel w b W h' now' old' la ls va vs w1 R' := by
  refine ⟨f.x.next m z hs hf, hf.own f.oa f.na, hf.own f.os f.ns, fun g hg ho => ?_, fun g hg ho => ?_, f.ne⟩
  · rcases hs g ho with a | a
    · exact f.na g hg a
    · have := (f.oa.lt g hg).2; omega
  · rcases hs g ho with a | a
    · exact f.ns g hg a
    · have := (f.os.lt g hg).2; omega
theorem Fr.of_grown {v : Value} {tmp : Obj} (hg : (wr.alloc tmp).grownBy w1 v.ownBlock) : Fr (fun i => v.ownBlock = some i) wr w1 :=
  ((Fr.refl _ wr).alloc tmp).grown hg (fun _ hk => .inl hk)
theorem FRel.appA (f : FRel w b W h now old la ls va vs wr R) {tmp : Obj} {x : Int} {n : Nat} (hn : la.length + 1 = n) (hown : w1.ownsRow w.heap.size 3 1 v' n (ints (la ++ [x]))) (hg : (wr.alloc tmp).grownBy w1 va.ownBlock) (hblk : v'.ownBlock = va.ownBlock ∨ v'.ownBlock = some (wr.alloc tmp).heap.size) :
    FRel w b W h now old (la ++ [x]) ls v' vs w1 R := by
  have hf := Fr.of_grown hg
  have hgv : ∀ g, v'.ownBlock = some g → va.ownBlock = some g ∨ wr.heap.size ≤ g := fun g hg' => by
    rcases hblk with e | e
    · left; rw [← e]; exact hg'
    · right; rw [e] at hg'; have := Option.some.inj hg'; simp at this; omega
  have hx : MW w b W h now old w1 R := ⟨f.x.m.kept hf (fun i hi hv => f.na i hv hi), f.x.z, f.x.ge, f.x.fr.trans (hf.below f.x.fr.size (fun i hi => (f.oa.lt i hi).1))⟩
  refine ⟨hx, by rw [List.length_append, List.length_singleton, hn]; exact hown, hf.own f.os (fun g hg' hv => f.ne g hv hg'), fun g hg' ho => ?_, f.ns, fun g hg' hsg => ?_⟩
  · rcases hgv g hg' with a | a
    · exact f.na g a ho
    · have := f.x.m.own_lt g ho; omega
  · rcases hgv g hg' with a | a
    · exact f.ne g a hsg
    · have := (f.os.lt g hsg).2; omega
theorem FRel.appS (f : FRel w b W h now old la ls va vs wr R) {tmp : Obj} {x : Int} {n : Nat} (hn : ls.length + 1 = n) (hown : w1.ownsRow w.heap.size 3 1 v' n (ints (ls ++ [x]))) (hg : (wr.alloc tmp).grownBy w1 vs.ownBlock) (hblk : v'.ownBlock = vs.ownBlock ∨ v'.ownBlock = some (wr.alloc tmp).heap.size) :
    FRel w b W h now old la (ls ++ [x]) va v' w1 R := by
  have hf := Fr.of_grown hg
  have hgv : ∀ g, v'.ownBlock = some g → vs.ownBlock = some g ∨ wr.heap.size ≤ g := fun g hg' => by
    rcases hblk with e | e
    · left; rw [← e]; exact hg'
    · right; rw [e] at hg'; have := Option.some.inj hg'; simp at this; omega
  have hx : MW w b W h now old w1 R := ⟨f.x.m.kept hf (fun i hi hv => f.ns i hv hi), f.x.z, f.x.ge, f.x.fr.trans (hf.below f.x.fr.size (fun i hi => (f.os.lt i hi).1))⟩
  refine ⟨hx, hf.own f.oa (fun g hg' hv => f.ne g hg' hv), by rw [List.length_append, List.length_singleton, hn]; exact hown, f.na, fun g hg' ho => ?_, fun g hg' hsg => ?_⟩
  · rcases hgv g hg' with a | a
    · exact f.ns g a ho
    · have := f.x.m.own_lt g ho; omega
  · rcases hgv g hsg with a | a
    · exact f.ne g hg' a
    · have := (f.oa.lt g hg').2; omega
/-- what a walk asks of a list of integers -/
theorem rowI {B : Nat} {l : List Int} (ho : wr.ownsRow B 3 1 va l.length (ints l)) : ∃ a cap, va = .slice a l.length cap ∧ l.length ≤ cap ∧ cap ≤ 9223372036854775807 ∧ ∀ j z, l[j]? = some z → ∃ g, a = some ⟨g, 0, none⟩ ∧ g < wr.heap.size ∧ wr.cell? ⟨g, j, none⟩ = some (.int .i64 z) ∧ wr.frozen? ⟨g, j, none⟩ = false := by
  have ho' := ho
  rcases ho.2 with ⟨hv, h0⟩ | ⟨g, cap, cur, hv, hb, hg, h1, h2, h3, h4⟩
  · refine ⟨none, 0, by rw [hv, h0], by omega, by omega, fun j z hz => ?_⟩
    have := (List.getElem?_eq_some_iff.1 hz).1
    omega
  · subst hv
    refine ⟨_, cap, rfl, h1, by simpa [maxLen] using h2, fun j z hz => ?_⟩
    have hj := (List.getElem?_eq_some_iff.1 hz).1
    refine ⟨g, rfl, (Array.getElem?_eq_some_iff.1 hg).1, ?_, ho'.frozenAt j⟩
    rw [ho'.cellAt j (by omega)]
    simp [ints, hz]
end
end Go.Proofs.YtlakfnlkiebpdaaDoor
