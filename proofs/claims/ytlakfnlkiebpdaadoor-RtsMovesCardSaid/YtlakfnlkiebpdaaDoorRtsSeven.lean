/- The contract of constructor. Condition: the scene. The contract of constructor where the word is no integer. Condition: the scene. The contract of constructor, whole. Condition: the scene. -/
import Derived.Test.YtlakfnlkiebpdaaDoorRtsFour
import Derived.Deep.DrawnRows
import Derived.Deep.RegionHeld3
import Derived.Test.YtlakfnlkiebpdaaDoorRtsSix
namespace Go.Proofs.YtlakfnlkiebpdaaDoor
open Go Go.RowKit
theorem below_allocT {x w : World} (h : Below x.heap.size x w) (o : Obj) : Below x.heap.size x (w.alloc o) := h.alloc h.size o
theorem below_trT {w Z w3 : World} (hb : Below Z.heap.size Z w3) (h : Below w.heap.size w Z) : Below w.heap.size w w3 := h.trans (hb.mono h.size)
theorem zblk {Z w1 w3 : World} (hb3 : Below Z.heap.size Z w3) (hz : Z.heap = (w1.alloc zMkO).heap) : w3.heap[w1.heap.size]? = some zMkO := by
  rw [hb3.block w1.heap.size (by rw [hz]; simp), hz]
  exact heap_alloc_new w1 zMkO
theorem zblkA {w1 w3 : World} {q : Nat} (hb : Below ((w1.alloc (.cells #[.string ⟨#[]⟩, .int .i64 0, .bool false, .int .i64 0, .int .i64 0, .int .i64 0, .string ⟨#[]⟩, .slice none 0 0, .int .i64 0, .int .i64 0, .string ⟨#[]⟩, .slice none 0 0] 73)).drewN q).heap.size ((w1.alloc (.cells #[.string ⟨#[]⟩, .int .i64 0, .bool false, .int .i64 0, .int .i64 0, .int .i64 0, .string ⟨#[]⟩, .slice none 0 0, .int .i64 0, .int .i64 0, .string ⟨#[]⟩, .slice none 0 0] 73)).drewN q) w3) : w3.heap[w1.heap.size]? = some (.cells #[.string ⟨#[]⟩, .int .i64 0, .bool false, .int .i64 0, .int .i64 0, .int .i64 0, .string ⟨#[]⟩, .slice none 0 0, .int .i64 0, .int .i64 0, .string ⟨#[]⟩, .slice none 0 0] 73 (0, 0)) := by
  have h2 : ((w1.alloc (.cells #[.string ⟨#[]⟩, .int .i64 0, .bool false, .int .i64 0, .int .i64 0, .int .i64 0, .string ⟨#[]⟩, .slice none 0 0, .int .i64 0, .int .i64 0, .string ⟨#[]⟩, .slice none 0 0] 73)).drewN q).heap[w1.heap.size]? = some (.cells #[.string ⟨#[]⟩, .int .i64 0, .bool false, .int .i64 0, .int .i64 0, .int .i64 0, .string ⟨#[]⟩, .slice none 0 0, .int .i64 0, .int .i64 0, .string ⟨#[]⟩, .slice none 0 0] 73 (0, 0)) := heap_alloc_new w1 (.cells #[.string ⟨#[]⟩, .int .i64 0, .bool false, .int .i64 0, .int .i64 0, .int .i64 0, .string ⟨#[]⟩, .slice none 0 0, .int .i64 0, .int .i64 0, .string ⟨#[]⟩, .slice none 0 0] 73)
  exact (hb.block w1.heap.size (Array.getElem?_eq_some_iff.1 h2).1).trans h2
theorem zblkB {w1 w3 : World} {q : Nat} (hb : Below ((w1.drewN q).alloc (.cells #[.string ⟨#[]⟩, .int .i64 0, .bool false, .int .i64 0, .int .i64 0, .int .i64 0, .string ⟨#[]⟩, .slice none 0 0, .int .i64 0, .int .i64 0, .string ⟨#[]⟩, .slice none 0 0] 73)).heap.size ((w1.drewN q).alloc (.cells #[.string ⟨#[]⟩, .int .i64 0, .bool false, .int .i64 0, .int .i64 0, .int .i64 0, .string ⟨#[]⟩, .slice none 0 0, .int .i64 0, .int .i64 0, .string ⟨#[]⟩, .slice none 0 0] 73)) w3) : w3.heap[w1.heap.size]? = some (.cells #[.string ⟨#[]⟩, .int .i64 0, .bool false, .int .i64 0, .int .i64 0, .int .i64 0, .string ⟨#[]⟩, .slice none 0 0, .int .i64 0, .int .i64 0, .string ⟨#[]⟩, .slice none 0 0] 73 (0, 0)) := by
  have h2 : ((w1.drewN q).alloc (.cells #[.string ⟨#[]⟩, .int .i64 0, .bool false, .int .i64 0, .int .i64 0, .int .i64 0, .string ⟨#[]⟩, .slice none 0 0, .int .i64 0, .int .i64 0, .string ⟨#[]⟩, .slice none 0 0] 73)).heap[w1.heap.size]? = some (.cells #[.string ⟨#[]⟩, .int .i64 0, .bool false, .int .i64 0, .int .i64 0, .int .i64 0, .string ⟨#[]⟩, .slice none 0 0, .int .i64 0, .int .i64 0, .string ⟨#[]⟩, .slice none 0 0] 73 (0, 0)) := heap_alloc_new w1 (.cells #[.string ⟨#[]⟩, .int .i64 0, .bool false, .int .i64 0, .int .i64 0, .int .i64 0, .string ⟨#[]⟩, .slice none 0 0, .int .i64 0, .int .i64 0, .string ⟨#[]⟩, .slice none 0 0] 73)
  exact (hb.block w1.heap.size (Array.getElem?_eq_some_iff.1 h2).1).trans h2
theorem zblkC {w1 w3 : World}  (hb : Below (w1.alloc (.cells #[.string ⟨#[]⟩, .int .i64 0, .bool false, .int .i64 0, .int .i64 0, .int .i64 0, .string ⟨#[]⟩, .slice none 0 0, .int .i64 0, .int .i64 0, .string ⟨#[]⟩, .slice none 0 0] 73)).heap.size (w1.alloc (.cells #[.string ⟨#[]⟩, .int .i64 0, .bool false, .int .i64 0, .int .i64 0, .int .i64 0, .string ⟨#[]⟩, .slice none 0 0, .int .i64 0, .int .i64 0, .string ⟨#[]⟩, .slice none 0 0] 73)) w3) : w3.heap[w1.heap.size]? = some (.cells #[.string ⟨#[]⟩, .int .i64 0, .bool false, .int .i64 0, .int .i64 0, .int .i64 0, .string ⟨#[]⟩, .slice none 0 0, .int .i64 0, .int .i64 0, .string ⟨#[]⟩, .slice none 0 0] 73 (0, 0)) := by
  have h2 : (w1.alloc (.cells #[.string ⟨#[]⟩, .int .i64 0, .bool false, .int .i64 0, .int .i64 0, .int .i64 0, .string ⟨#[]⟩, .slice none 0 0, .int .i64 0, .int .i64 0, .string ⟨#[]⟩, .slice none 0 0] 73)).heap[w1.heap.size]? = some (.cells #[.string ⟨#[]⟩, .int .i64 0, .bool false, .int .i64 0, .int .i64 0, .int .i64 0, .string ⟨#[]⟩, .slice none 0 0, .int .i64 0, .int .i64 0, .string ⟨#[]⟩, .slice none 0 0] 73 (0, 0)) := heap_alloc_new w1 (.cells #[.string ⟨#[]⟩, .int .i64 0, .bool false, .int .i64 0, .int .i64 0, .int .i64 0, .string ⟨#[]⟩, .slice none 0 0, .int .i64 0, .int .i64 0, .string ⟨#[]⟩, .slice none 0 0] 73)
  exact (hb.block w1.heap.size (Array.getElem?_eq_some_iff.1 h2).1).trans h2
theorem zblkD {w1 w3 : World}  (hb : Below ((w1.alloc (.cells #[.string ⟨#[]⟩, .int .i64 0, .bool false, .int .i64 0, .int .i64 0, .int .i64 0, .string ⟨#[]⟩, .slice none 0 0, .int .i64 0, .int .i64 0, .string ⟨#[]⟩, .slice none 0 0] 73)).drew).heap.size ((w1.alloc (.cells #[.string ⟨#[]⟩, .int .i64 0, .bool false, .int .i64 0, .int .i64 0, .int .i64 0, .string ⟨#[]⟩, .slice none 0 0, .int .i64 0, .int .i64 0, .string ⟨#[]⟩, .slice none 0 0] 73)).drew) w3) : w3.heap[w1.heap.size]? = some (.cells #[.string ⟨#[]⟩, .int .i64 0, .bool false, .int .i64 0, .int .i64 0, .int .i64 0, .string ⟨#[]⟩, .slice none 0 0, .int .i64 0, .int .i64 0, .string ⟨#[]⟩, .slice none 0 0] 73 (0, 0)) := by
  have h2 : ((w1.alloc (.cells #[.string ⟨#[]⟩, .int .i64 0, .bool false, .int .i64 0, .int .i64 0, .int .i64 0, .string ⟨#[]⟩, .slice none 0 0, .int .i64 0, .int .i64 0, .string ⟨#[]⟩, .slice none 0 0] 73)).drew).heap[w1.heap.size]? = some (.cells #[.string ⟨#[]⟩, .int .i64 0, .bool false, .int .i64 0, .int .i64 0, .int .i64 0, .string ⟨#[]⟩, .slice none 0 0, .int .i64 0, .int .i64 0, .string ⟨#[]⟩, .slice none 0 0] 73 (0, 0)) := heap_alloc_new w1 (.cells #[.string ⟨#[]⟩, .int .i64 0, .bool false, .int .i64 0, .int .i64 0, .int .i64 0, .string ⟨#[]⟩, .slice none 0 0, .int .i64 0, .int .i64 0, .string ⟨#[]⟩, .slice none 0 0] 73)
  exact (hb.block w1.heap.size (Array.getElem?_eq_some_iff.1 h2).1).trans h2
theorem zblkE {w1 w3 : World}  (hb : Below (w1.drew.alloc (.cells #[.string ⟨#[]⟩, .int .i64 0, .bool false, .int .i64 0, .int .i64 0, .int .i64 0, .string ⟨#[]⟩, .slice none 0 0, .int .i64 0, .int .i64 0, .string ⟨#[]⟩, .slice none 0 0] 73)).heap.size (w1.drew.alloc (.cells #[.string ⟨#[]⟩, .int .i64 0, .bool false, .int .i64 0, .int .i64 0, .int .i64 0, .string ⟨#[]⟩, .slice none 0 0, .int .i64 0, .int .i64 0, .string ⟨#[]⟩, .slice none 0 0] 73)) w3) : w3.heap[w1.heap.size]? = some (.cells #[.string ⟨#[]⟩, .int .i64 0, .bool false, .int .i64 0, .int .i64 0, .int .i64 0, .string ⟨#[]⟩, .slice none 0 0, .int .i64 0, .int .i64 0, .string ⟨#[]⟩, .slice none 0 0] 73 (0, 0)) := by
  have h2 : (w1.drew.alloc (.cells #[.string ⟨#[]⟩, .int .i64 0, .bool false, .int .i64 0, .int .i64 0, .int .i64 0, .string ⟨#[]⟩, .slice none 0 0, .int .i64 0, .int .i64 0, .string ⟨#[]⟩, .slice none 0 0] 73)).heap[w1.heap.size]? = some (.cells #[.string ⟨#[]⟩, .int .i64 0, .bool false, .int .i64 0, .int .i64 0, .int .i64 0, .string ⟨#[]⟩, .slice none 0 0, .int .i64 0, .int .i64 0, .string ⟨#[]⟩, .slice none 0 0] 73 (0, 0)) := heap_alloc_new w1 (.cells #[.string ⟨#[]⟩, .int .i64 0, .bool false, .int .i64 0, .int .i64 0, .int .i64 0, .string ⟨#[]⟩, .slice none 0 0, .int .i64 0, .int .i64 0, .string ⟨#[]⟩, .slice none 0 0] 73)
  exact (hb.block w1.heap.size (Array.getElem?_eq_some_iff.1 h2).1).trans h2
theorem pb4 {p q r s : Prop} (h : p ∧ q ∧ r ∧ s) : s := h.2.2.2
theorem bcellT {W w1 : World} (hb : Below W.heap.size W w1) : (∀ b o, b < W.heap.size → w1.cell? ⟨b, o, none⟩ = W.cell? ⟨b, o, none⟩) ∧ (∀ b o, b < W.heap.size → w1.frozen? ⟨b, o, none⟩ = W.frozen? ⟨b, o, none⟩) :=
  ⟨fun b o h => hb.cell (p := ⟨b, o, none⟩) h, fun b o h => hb.frozen (p := ⟨b, o, none⟩) h⟩
section
variable {w : World} {b W h N : Nat} {now old : List Ob} {R : Nat → Value} {a : Option Addr} {ms : List Mkr} {f : Nat → Ty → List UInt8 × Bool}
/-- constructor, where the word is an integer -/
theorem not_cases (x : Bool) : (x = true ∧ (!x) = false) ∨ (x = false ∧ (!x) = true) := by cases x <;> simp
set_option maxRecDepth 100000 in
set_option maxHeartbeats 8000000 in
theorem cons_int (s : Sc w b W h now old R a N ms) (c : Nat) (dep : Int) (n : Nat) (hn : n < 18446744073709551616) (t : Ty) (u : Value) (hi : isIntB (n : Int) = true) :
    Calls Tryd.prog 110 #[tlr b a N c, .int .u64 (n : Int), tyA t u, .int .i64 dep] w fun e w' => e = .returned (.tuple #[.string (bst (consF (LN now h W) ms f n t).1), .bool (consF (LN now h W) ms f n t).2]) ∧ Below w.heap.size w w' := by
  have hb2 := below_two w (tlrO b a N c) (.cells #[.int .i64 t.k, .int .i64 t.n, .string t.s, u] 61)
  have HB2 := Lib.hid hb2
  have HII := Lib.hid (isintN n hn)
  rw [hi] at HII
  have HM := Lib.hid (maker_any s hb2 c t.n n hn)
  unfold consF
  rw [if_pos hi]
  obtain ⟨tk0, tn0, tz0, tl0⟩ := t
  unfold tyA
  simp only [Ty.k, Ty.n, Ty.s] at HM HB2 ⊢
  obtain ⟨r, hr⟩ : ∃ r, mkOf ms tn0 n = r := ⟨_, rfl⟩
  rw [hr] at HM ⊢
  clear s hb2 hi hr
  cases r with
  | none =>
    simp only
    go_enter Tryd.func110, Tryd.ntmps110
    go_wp2_with fail
    refine (HII.out _).mono ?_
    rintro e w1 ⟨rfl, hw1⟩
    subst w1
    go_wp2_with fail
    refine (HM.out).mono ?_
    rintro e w1 ⟨hb1, he⟩
    subst he
    have HB1 := Lib.hid (HB2.out.trans (hb1.mono HB2.out.size))
    clear hb1
    unfold zMkA
    go_wp2_with fail
    go_ret2
    exact ⟨rfl, HB1.out.trans ((below_one w1 _).mono HB1.out.size)⟩
  | some m =>
    obtain ⟨nm, tg, hs, vs, ⟨ak, an, az, al⟩, ⟨tk, tn, ts, tl⟩⟩ := m
    simp only
    rcases not_cases hs with ⟨rfl, hx⟩ | ⟨rfl, hx⟩
    all_goals
      go_enter Tryd.func110, Tryd.ntmps110
      go_wp2_with fail
      refine (HII.out _).mono ?_
      rintro e w1 ⟨rfl, hw1⟩
      subst w1
      go_wp2_with fail
      refine (HM.out).mono ?_
      rintro e w1 ⟨hb1, ua, ut, he, hu, hv⟩
      subst he
      obtain ⟨xa, xc, rfl, _, _⟩ := hu.shape
      obtain ⟨ya, yc, rfl, _, _⟩ := hv.shape
      have HB1 := Lib.hid (HB2.out.trans (hb1.mono HB2.out.size))
      clear hb1 hu hv
      simp only [mkC, Ty.k, Ty.n, Ty.s, Ty.l]
      go_wp2_with fail
      go_ret2
      exact ⟨by first | rfl | (rw [show nm = bst nm.data.toList from rfl]; rfl), HB1.out.trans ((below_one w1 _).mono HB1.out.size)⟩
set_option maxRecDepth 100000 in
set_option maxHeartbeats 8000000 in
theorem cons_miss (s : Sc w b W h now old R a N ms) (c : Nat) (dep : Int) (n : Nat) (hn : n < 18446744073709551616) (t : Ty) (u : Value) (hi : isIntB (n : Int) = false) (hq : tupL (LN now h W) n 2 = none) :
    Calls Tryd.prog 110 #[tlr b a N c, .int .u64 (n : Int), tyA t u, .int .i64 dep] w fun e w' => e = .returned (.tuple #[.string (bst (consF (LN now h W) ms f n t).1), .bool (consF (LN now h W) ms f n t).2]) ∧ Below w.heap.size w w' := by
  have hb2 := below_two w (tlrO b a N c) (.cells #[.int .i64 t.k, .int .i64 t.n, .string t.s, u] 61)
  have HB2 := Lib.hid hb2
  have HII := Lib.hid (isintN n hn)
  rw [hi] at HII
  have HT := Lib.hid (tupleof_any (s.below hb2) c n hn 2)
  unfold consF
  rw [if_neg (by rw [hi]; decide), hq]
  rw [hq] at HT
  unfold tyA
  obtain ⟨A, hA⟩ : ∃ A, toP (n : Int) = A := ⟨_, rfl⟩
  rw [hA] at HT
  clear s hb2 hi hq hA
  simp only [Option.isSome_none] at HT
  go_enter Tryd.func110, Tryd.ntmps110
  go_wp2_with fail
  refine (HII.out _).mono ?_
  rintro e w1 ⟨rfl, hw1⟩
  subst w1
  go_wp2_with fail
  refine (HT.out).mono ?_
  rintro e w1 ⟨rfl, hb1⟩
  have HB1 := Lib.hid (HB2.out.trans (hb1.mono HB2.out.size))
  clear hb1
  go_wp2_with fail
  go_ret2
  exact ⟨rfl, HB1.out⟩
/-- what maker answers, whatever it found -/
structure Mz where
  nm : ByteArray
  tg : Int
  hs : Bool
  vs : Int
  ak : Int
  an : Int
  az : ByteArray
  xa : Option Addr
  xn : Nat
  xc : Nat
  tk : Int
  tn : Int
  ts : ByteArray
  ya : Option Addr
  yn : Nat
  yc : Nat
def Mz.C (z : Mz) : Array Value := #[.string z.nm, .int .i64 z.tg, .bool z.hs, .int .i64 z.vs, .int .i64 z.ak, .int .i64 z.an, .string z.az, .slice z.xa z.xn z.xc, .int .i64 z.tk, .int .i64 z.tn, .string z.ts, .slice z.ya z.yn z.yc]
def Fd (v0 : World) (r : Option Mkr) (z : Mz) (v : Bool) : Prop := match r with
  | some m => m.name = z.nm ∧ m.has = z.hs ∧ m.vars = z.vs ∧ m.arg.k = z.ak ∧ m.arg.n = z.an ∧ m.arg.s = z.az ∧ TyV v0 m.arg.l (.slice z.xa z.xn z.xc) ∧ v = true
  | none => v = false
theorem mk_any {v0 w1 : World} (s : Sc v0 b W h now old R a N ms) (hvw : Below v0.heap.size v0 w1) (c : Nat) (st : Int) (tag : Nat) (ht : tag < 18446744073709551616) :
    Calls Tryd.prog 115 #[tlr b a N c, .int .i64 st, .int .u64 (tag : Int)] w1 fun e w' => Below w1.heap.size w1 w' ∧ ∃ (z : Mz) (v : Bool), e = .returned (.tuple #[.agg #[.string z.nm, .int .i64 z.tg, .bool z.hs, .int .i64 z.vs, .int .i64 z.ak, .int .i64 z.an, .string z.az, .slice z.xa z.xn z.xc, .int .i64 z.tk, .int .i64 z.tn, .string z.ts, .slice z.ya z.yn z.yc], .bool v]) ∧ Fd v0 (mkOf ms st tag) z v := by
  refine (maker_any s hvw c st tag ht).mono ?_
  rintro e w' ⟨hb, he⟩
  refine ⟨hb, ?_⟩
  cases hr : mkOf ms st tag with
  | none =>
    rw [hr] at he
    exact ⟨⟨⟨#[]⟩, 0, false, 0, 0, 0, ⟨#[]⟩, none, 0, 0, 0, 0, ⟨#[]⟩, none, 0, 0⟩, false, he, rfl⟩
  | some m =>
    rw [hr] at he
    obtain ⟨ua, ut, he, hu, hv⟩ := he
    obtain ⟨nm, tg, hs, vs, ⟨ak, an, az, al⟩, ⟨tk, tn, ts, tl⟩⟩ := m
    obtain ⟨xa, xc, rfl, _, _⟩ := hu.shape
    obtain ⟨ya, yc, rfl, _, _⟩ := hv.shape
    exact ⟨⟨nm, tg, hs, vs, ak, an, az, xa, _, xc, tk, tn, ts, ya, _, yc⟩, true, he, rfl, rfl, rfl, rfl, rfl, rfl, hu, rfl⟩
end
end Go.Proofs.YtlakfnlkiebpdaaDoor
namespace Go.Proofs.YtlakfnlkiebpdaaDoor
open Go Go.RowKit
attribute [local go_sem ↓] Go.wp_at_zero Go.wp_at_succ
section
variable {w : World} {b W h N : Nat} {now old : List Ob} {R : Nat → Value} {a : Option Addr} {ms : List Mkr} {f : Nat → Ty → List UInt8 × Bool}
theorem pb10 {p0 p1 p2 p3 p4 p5 p6 p7 p8 p9 : Prop} (h : p0 ∧ p1 ∧ p2 ∧ p3 ∧ p4 ∧ p5 ∧ p6 ∧ p7 ∧ p8 ∧ p9) : p9 := h.2.2.2.2.2.2.2.2.2
theorem there12 {W : World} {g : Nat} {cs : Array Value} {T : TypeId} (h : W.heap[g]? = some (.cells cs T (0, 0))) (hs : cs.size = 12 := by rfl) : W.there g 0 12 := fun j hj => by
  rw [Nat.zero_add]
  exact ⟨by rw [blk_cellT h j, Array.getElem?_eq_getElem (by omega)]; rfl, blk_fzT h j⟩
theorem blk_set12 {W : World} {g : Nat} (h : W.heap[g]? = some zMkO) (z : Mz) : (W.setCells g 0 (Mz.C z).toList).heap[g]? = some (.cells (Mz.C z) 73 (0, 0)) :=
  mk_set h (.string z.nm) (.int .i64 z.tg) (.bool z.hs) (.int .i64 z.vs) (.int .i64 z.ak) (.int .i64 z.an) (.string z.az) (.slice z.xa z.xn z.xc) (.int .i64 z.tk) (.int .i64 z.tn) (.string z.ts) (.slice z.ya z.yn z.yc)
theorem below_set12 {w W : World} {B b : Nat} (h : Below b w W) (hB : b ≤ B) (z : Mz) : Below b w (W.setCells B 0 (Mz.C z).toList) :=
  mk_below h hB (.string z.nm) (.int .i64 z.tg) (.bool z.hs) (.int .i64 z.vs) (.int .i64 z.ak) (.int .i64 z.an) (.string z.az) (.slice z.xa z.xn z.xc) (.int .i64 z.tk) (.int .i64 z.tn) (.string z.ts) (.slice z.ya z.yn z.yc)
theorem c12 (z : Mz) : (Mz.C z).all (·.oneCell') = true := by simp [Mz.C, Value.oneCell']
theorem blk_kept {Y W : World} {g : Nat} {o : Obj} (hb : Below Y.heap.size Y W) (h : Y.heap[g]? = some o) : W.heap[g]? = some o := (hb.block g (Array.getElem?_eq_some_iff.1 h).1).trans h
theorem zfr (W : World) : (W.alloc zMkO).heap[W.heap.size]? = some zMkO := heap_alloc_new W zMkO
set_option maxRecDepth 100000 in
set_option maxHeartbeats 8000000 in
theorem cons_ptr (s : Sc w b W h now old R a N ms) (c : Nat) (dep : Int) (hd0 : 0 ≤ dep) (hd1 : dep ≤ 31) (hf : TellC w b a N c f (dep + 1)) (hfl : ∀ n t, (f n t).1.length ≤ 20000000) (n : Nat) (hn : n < 18446744073709551616) (t : Ty) (u : Value) (hu : TyV w t.l u) (hi : isIntB (n : Int) = false) (ws : List Nat) (hq : tupL (LN now h W) n 2 = some ws) :
    Calls Tryd.prog 110 #[tlr b a N c, .int .u64 (n : Int), tyA t u, .int .i64 dep] w fun e w' => e = .returned (.tuple #[.string (bst (consF (LN now h W) ms f n t).1), .bool (consF (LN now h W) ms f n t).2]) ∧ Below w.heap.size w w' := by
  have hb2 := below_two w (tlrO b a N c) (.cells #[.int .i64 t.k, .int .i64 t.n, .string t.s, u] 61)
  have HB2 := Lib.hid hb2
  have HII := Lib.hid (isintN n hn)
  rw [hi] at HII
  have HT := Lib.hid (tupleof_any (s.below hb2) c n hn 2)
  have hwl : ws.length = 2 := by obtain ⟨_, _, _, _, h⟩ := tupL_of hq; exact h
  have hw0 := tupL_word s hq 0
  have HF0 := Lib.hid (fun Y (hY : Below w.heap.size w Y) => show Calls Tryd.prog 64 #[.pointer (some ⟨b, 0, none⟩), .int .i64 (toP (n : Int)), .int .i64 0] Y _ from field_any (s.below hY) hq 0 (by omega))
  have HF1 := Lib.hid (fun Y (hY : Below w.heap.size w Y) => show Calls Tryd.prog 64 #[.pointer (some ⟨b, 0, none⟩), .int .i64 (toP (n : Int)), .int .i64 1] Y _ from field_any (s.below hY) hq 1 (by omega))
  have HM := Lib.hid (fun Y (hY : Below w.heap.size w Y) => mk_any s hY c t.n (ws.getD 0 0) hw0)
  have HU := Lib.hid hu
  have HTC := Lib.hid hf
  have HFL := Lib.hid hfl
  have HS0 := Lib.hid s
  have hw1 := tupL_word s hq 1
  unfold consF
  rw [if_neg (by rw [hi]; decide), hq]
  rw [hq] at HT
  unfold tyA
  obtain ⟨A, hA⟩ : ∃ A, toP (n : Int) = A := ⟨_, rfl⟩
  rw [hA] at HT HF0 HF1
  obtain ⟨x0, hx0⟩ : ∃ x, ws.getD 0 0 = x := ⟨_, rfl⟩
  obtain ⟨x1, hx1⟩ : ∃ x, ws.getD 1 0 = x := ⟨_, rfl⟩
  rw [hx0] at HF0 HM hw0
  rw [hx1] at HF1 hw1
  simp only
  rw [hx0, hx1]
  obtain ⟨ua, uc, rfl, huc, hul⟩ := hu.shape
  have HX := Lib.hid (res4 (new_at (w.alloc (tlrO b a N c)) (.cells #[.int .i64 t.k, .int .i64 t.n, .string t.s, .slice ua t.l.length uc] 61) (w.heap.size + 1) (by simp)))
  have hbl := blk_cellT (old_at (w.alloc (tlrO b a N c)) (.cells #[.int .i64 t.k, .int .i64 t.n, .string t.s, .slice ua t.l.length uc] 61) (heap_alloc_new w (tlrO b a N c)))
  have hl0 := hbl 0
  have hl1 := hbl 1
  simp only [List.getElem?_toArray, List.getElem?_cons_zero, List.getElem?_cons_succ] at hl0 hl1
  have HL := Lib.hid (And.intro hl0 hl1)
  obtain ⟨tk0, tn0, tz0, tl0⟩ := t
  simp only [Ty.k, Ty.n, Ty.s, Ty.l] at HM HB2 HT HX HL HU huc hul ⊢
  obtain ⟨un, hun⟩ : ∃ x, tl0.length = x := ⟨_, rfl⟩
  rw [hun] at HB2 HT HX HL HU huc hul ⊢
  have HUN := Lib.hid hun
  simp only [Option.isSome_some] at HT
  obtain ⟨r, hr⟩ : ∃ r, mkOf ms tn0 x0 = r := ⟨_, rfl⟩
  rw [hr] at HM ⊢
  have HR := Lib.hid hr
  clear s hb2 hi hq hA hr hwl hx0 hx1 hbl hl0 hl1 hun hf hfl hu
  go_enter Tryd.func110, Tryd.ntmps110
  go_wp2_with fail
  refine (HII.out _).mono ?_
  rintro e w1 ⟨rfl, hw1⟩
  subst w1
  go_wp2_with fail
  refine (HT.out).mono ?_
  rintro e w1 ⟨rfl, hb1⟩
  have HB1 := Lib.hid (HB2.out.trans (hb1.mono HB2.out.size))
  have l0 : w1.cell? ⟨w.heap.size, 0, none⟩ = some (.pointer (some ⟨b, 0, none⟩)) := below_cell hb1 HL.out.1
  have l1 : w1.cell? ⟨w.heap.size, 1, none⟩ = some (.slice a N c) := below_cell hb1 HL.out.2
  have x4 : w1.cell? ⟨w.heap.size + 1, 1, none⟩ = some (.int .i64 tn0) := below_cell hb1 HX.out.2.1
  have x7 : w1.cell? ⟨w.heap.size + 1, 3, none⟩ = some (.slice ua un uc) := below_cell hb1 HX.out.2.2.2
  have HX7 := Lib.hid x7
  have HL01 := Lib.hid (And.intro l0 l1)
  have k0 := fun (o : Obj) => below_cell (below_one w1 o) l0
  have k1 := fun (o : Obj) => below_cell (below_one w1 o) l1
  have k4 := fun (o : Obj) => below_cell (below_one w1 o) x4
  have kd0 := fun (q : Nat) (o : Obj) => below_cell (below_one (w1.drewN q) o) (show (w1.drewN q).cell? _ = _ from l0)
  have kd1 := fun (q : Nat) (o : Obj) => below_cell (below_one (w1.drewN q) o) (show (w1.drewN q).cell? _ = _ from l1)
  have kd4 := fun (q : Nat) (o : Obj) => below_cell (below_one (w1.drewN q) o) (show (w1.drewN q).cell? _ = _ from x4)
  have hgz : w.heap.size + 1 < w1.heap.size := by have := hb1.size; simp at this; omega
  have hgy : w.heap.size < w1.heap.size := by omega
  have HB11 := Lib.hid (hgz)
  clear hb1 x7
  go_wp2_with fail
  go_cut [14, 15] from 42 to 53 (fun p bv wx => ∃ pb z v, p = .pointer (some ⟨pb, 0, none⟩) ∧ bv = .bool v ∧ wx.heap[pb]? = some (.cells (Mz.C z) 73 (0, 0)) ∧ Fd w r z v ∧ Below w1.heap.size w1 wx)
  case first =>
    have hH : Below w1.heap.size w1 w1.drew := Below.drew (Below.refl _ _)
    refine wp_region_held_drew (S := fun Y => Below w1.heap.size w1 Y) (by kernel_rfl) hH (fun _ => ?_)
    change wpAnyH _ _ _ _ _ 14 #[false, false, false, false, false, false, false, false, false, false, false, false, false, false] _ _
    refine wpAnyH_take (i := 0) (oi := { dst := some 43, op := Op.load 115 (Operand.tmp 4), type := 115, pos := "show.go:180", after := #[], guard := none }) (v := .agg #[.pointer (some ⟨b, 0, none⟩), .slice a N c]) rfl (by kernel_rfl) (by kernel_rfl) (by kernel_rfl) (fun _ _ _ h => h) (Or.inl ⟨by rfl, (by intro Y hY; have y0 := below_cell hY HL01.out.1; have y1 := below_cell hY HL01.out.2; go_simp)⟩) hH ?_
    simp only [Act.put, List.setIfInBounds_toArray, List.set_cons_zero, List.set_cons_succ]
    refine wpAnyH_take (i := 1) (oi := { dst := some 44, op := Op.fieldAddr 61 (Operand.tmp 6) 1, type := 0, pos := "show.go:180", after := #[], guard := none }) (v := .pointer (some ⟨w.heap.size + 1, 1, none⟩)) rfl (by kernel_rfl) (by kernel_rfl) (by kernel_rfl) (fun _ _ _ h => h) (Or.inl ⟨by rfl, (by intro Y hY; go_simp)⟩) hH ?_
    simp only [Act.put, List.setIfInBounds_toArray, List.set_cons_zero, List.set_cons_succ]
    refine wpAnyH_take (i := 2) (oi := { dst := some 45, op := Op.load 3 (Operand.tmp 44), type := 3, pos := "show.go:180", after := #[{ on := 1, ground := Ground.data }], guard := none }) (v := .int .i64 tn0) rfl (by kernel_rfl) (by kernel_rfl) (by kernel_rfl) (fun _ _ _ h => h) (Or.inl ⟨by rfl, (by intro Y hY; have y0 := below_cell hY x4; go_simp)⟩) hH ?_
    simp only [Act.put, List.setIfInBounds_toArray, List.set_cons_zero, List.set_cons_succ]
    refine wpAnyH_take (i := 3) (oi := { dst := some 46, op := Op.fieldAddr 115 (Operand.tmp 4) 0, type := 0, pos := "show.go:180", after := #[], guard := none }) (v := .pointer (some ⟨w.heap.size, 0, none⟩)) rfl (by kernel_rfl) (by kernel_rfl) (by kernel_rfl) (fun _ _ _ h => h) (Or.inl ⟨by rfl, (by intro Y hY; go_simp)⟩) hH ?_
    simp only [Act.put, List.setIfInBounds_toArray, List.set_cons_zero, List.set_cons_succ]
    refine wpAnyH_take (i := 4) (oi := { dst := some 47, op := Op.load 24 (Operand.tmp 46), type := 24, pos := "show.go:180", after := #[{ on := 3, ground := Ground.data }], guard := none }) (v := .pointer (some ⟨b, 0, none⟩)) rfl (by kernel_rfl) (by kernel_rfl) (by kernel_rfl) (fun _ _ _ h => h) (Or.inl ⟨by rfl, (by intro Y hY; have y0 := below_cell hY HL01.out.1; go_simp)⟩) hH ?_
    simp only [Act.put, List.setIfInBounds_toArray, List.set_cons_zero, List.set_cons_succ]
    refine wpAnyH_take (i := 5) (oi := { dst := some 48, op := Op.move (Operand.tmp 12), type := 3, pos := "show.go:180", after := #[], guard := none }) (v := .int .i64 A) rfl (by kernel_rfl) (by kernel_rfl) (by kernel_rfl) (fun _ _ _ h => h) (Or.inl ⟨by rfl, (by intro Y hY; go_simp)⟩) hH ?_
    simp only [Act.put, List.setIfInBounds_toArray, List.set_cons_zero, List.set_cons_succ]
    clear k0 k1 k4 kd0 kd1 kd4
    have HFB := Lib.hid (fun Y (hY : Below w.heap.size w Y) => (HF0.out Y hY).mono fun e w' ⟨h1, n', h2⟩ => (⟨h1, by rw [h2]; exact Below.drewN' (Below.refl _ _) n'⟩ : e = Ending.returned (.int .u64 (x0 : Int)) ∧ Below Y.heap.size Y w'))
    refine wpAnyH_ready (rs := [6, 11]) (by kernel_rfl) (by simp) ?_
    refine AllReadyH.cons (o := { dst := some 49, op := Op.call { callee := Callee.value (Operand.func 64), args := #[Operand.tmp 47, Operand.tmp 48, Operand.const (Value.int IntKind.i64 0)], argTypes := #[24, 3, 3] }, type := 33, pos := "show.go:180", after := #[{ on := 4, ground := Ground.data }, { on := 5, ground := Ground.data }], guard := none }) rfl (fun K hK => ?_) (AllReadyH.cons (o := { dst := some 14, op := Op.alloc 73, type := 0, pos := "show.go:180", after := #[], guard := none }) rfl (fun K hK => ?_) AllReadyH.nil)
    · go_simp
      refine (HFB.out _ (HB1.out.trans (hH.mono HB1.out.size))).mono ?_
      rintro e w2 ⟨rfl, hb2⟩
      try go_simp
      have h6 : Below w1.heap.size w1 w2 := below_trT hb2 hH
      refine hK.out _ _ h6 (fun _ => ?_)
      clear hK K
      simp only [List.setIfInBounds_toArray, List.set_cons_zero, List.set_cons_succ]
      refine wpAnyH_ready (rs := [7, 11]) (by kernel_rfl) (by simp) ?_
      refine AllReadyH.cons (o := { dst := some 50, op := Op.call { callee := Callee.value (Operand.func 115), args := #[Operand.tmp 43, Operand.tmp 45, Operand.tmp 49], argTypes := #[115, 3, 33] }, type := 165, pos := "show.go:180", after := #[{ on := 0, ground := Ground.data }, { on := 2, ground := Ground.data }, { on := 6, ground := Ground.data }, { on := 6, ground := Ground.chain }], guard := none }) rfl (fun K hK => ?_) (AllReadyH.cons (o := { dst := some 14, op := Op.alloc 73, type := 0, pos := "show.go:180", after := #[], guard := none }) rfl (fun K hK => ?_) AllReadyH.nil)
      · go_simp
        refine (HM.out _ (HB1.out.trans (h6.mono HB1.out.size))).mono ?_
        rintro e w3 ⟨hb3, z, v, he, hfd⟩
        subst he
        try go_simp
        have h7 : Below w1.heap.size w1 w3 := below_trT hb3 h6
        refine hK.out _ _ h7 (fun _ => ?_)
        clear hK K
        simp only [List.setIfInBounds_toArray, List.set_cons_zero, List.set_cons_succ]
        refine wpAnyH_take (i := 8) (oi := { dst := some 42, op := Op.move (Operand.tmp 50), type := 165, pos := "show.go:180", after := #[{ on := 7, ground := Ground.data }], guard := none }) (v := .tuple #[.agg #[.string z.nm, .int .i64 z.tg, .bool z.hs, .int .i64 z.vs, .int .i64 z.ak, .int .i64 z.an, .string z.az, .slice z.xa z.xn z.xc, .int .i64 z.tk, .int .i64 z.tn, .string z.ts, .slice z.ya z.yn z.yc], .bool v]) rfl (by kernel_rfl) (by kernel_rfl) (by kernel_rfl) (fun _ _ _ h => h) (Or.inl ⟨by rfl, (by intro Y hY; go_simp)⟩) h7 ?_
        simp only [Act.put, List.setIfInBounds_toArray, List.set_cons_zero, List.set_cons_succ]
        refine wpAnyH_take (i := 9) (oi := { dst := some 51, op := Op.extract (Operand.tmp 42) 0, type := 73, pos := "show.go:180", after := #[{ on := 8, ground := Ground.data }], guard := none }) (v := .agg #[.string z.nm, .int .i64 z.tg, .bool z.hs, .int .i64 z.vs, .int .i64 z.ak, .int .i64 z.an, .string z.az, .slice z.xa z.xn z.xc, .int .i64 z.tk, .int .i64 z.tn, .string z.ts, .slice z.ya z.yn z.yc]) rfl (by kernel_rfl) (by kernel_rfl) (by kernel_rfl) (fun _ _ _ h => h) (Or.inl ⟨by rfl, (by intro Y hY; go_simp)⟩) h7 ?_
        simp only [Act.put, List.setIfInBounds_toArray, List.set_cons_zero, List.set_cons_succ]
        refine wpAnyH_take (i := 10) (oi := { dst := some 52, op := Op.extract (Operand.tmp 42) 1, type := 4, pos := "show.go:180", after := #[{ on := 8, ground := Ground.data }, { on := 12, ground := Ground.gcOnly Departure.lateStores }], guard := none }) (v := .bool v) rfl (by kernel_rfl) (by kernel_rfl) (by kernel_rfl) (fun _ _ _ h => h) (Or.inl ⟨by rfl, (by intro Y hY; go_simp)⟩) h7 ?_
        simp only [Act.put, List.setIfInBounds_toArray, List.set_cons_zero, List.set_cons_succ]
        refine wpAnyH_ready (rs := [11]) (by kernel_rfl) (by simp) ?_
        refine AllReadyH.cons (o := { dst := some 14, op := Op.alloc 73, type := 0, pos := "show.go:180", after := #[], guard := none }) rfl (fun K hK => ?_) AllReadyH.nil
        go_simp
        have h11 : Below w1.heap.size w1 (w3.alloc zMkO) := below_allocT h7 zMkO
        refine hK.out _ _ h11 (fun _ => ?_)
        clear hK K
        simp only [List.setIfInBounds_toArray, List.set_cons_zero, List.set_cons_succ]
        refine wpAnyH_ready (rs := [12]) (by kernel_rfl) (by simp) ?_
        refine AllReadyH.cons (o := { dst := none, op := Op.store 73 (Operand.tmp 14) (Operand.tmp 51), type := 0, pos := "show.go:180", after := #[{ on := 11, ground := Ground.data }, { on := 9, ground := Ground.data }, { on := 7, ground := Ground.chain }, { on := 0, ground := Ground.phase }, { on := 1, ground := Ground.phase }, { on := 2, ground := Ground.phase }, { on := 3, ground := Ground.phase }, { on := 4, ground := Ground.phase }, { on := 5, ground := Ground.phase }, { on := 6, ground := Ground.phase }, { on := 7, ground := Ground.phase }, { on := 8, ground := Ground.phase }, { on := 9, ground := Ground.phase }, { on := 10, ground := Ground.textOnly Departure.lateStores }, { on := 11, ground := Ground.phase }], guard := none }) rfl (fun K hK => ?_) AllReadyH.nil
        have hb3l : w1.heap.size ≤ w3.heap.size := h7.size
        have hnew := zfr w3
        rw [if_pos (by rfl)]
        refine wp_store_mid _ _ _ rfl w3.heap.size 0 (Mz.C z) rfl rfl (there12 hnew) (by kernel_rfl) (c12 z) ?_
        have h12 : Below w1.heap.size w1 ((w3.alloc zMkO).setCells w3.heap.size 0 (Mz.C z).toList) := below_set12 h11 hb3l z
        have hset := blk_set12 hnew z
        refine hK.out _ _ h12 (fun _ => ?_)
        clear hK K
        simp only [Act.put, List.setIfInBounds_toArray, List.set_cons_zero, List.set_cons_succ]
        refine wpAnyH_take (i := 13) (oi := { dst := some 15, op := Op.assign (Operand.tmp 52), type := 4, pos := "show.go:180", after := #[{ on := 10, ground := Ground.data }, { on := 12, ground := Ground.chain }, { on := 0, ground := Ground.phase }, { on := 1, ground := Ground.phase }, { on := 2, ground := Ground.phase }, { on := 3, ground := Ground.phase }, { on := 4, ground := Ground.phase }, { on := 5, ground := Ground.phase }, { on := 6, ground := Ground.phase }, { on := 7, ground := Ground.phase }, { on := 8, ground := Ground.phase }, { on := 9, ground := Ground.phase }, { on := 10, ground := Ground.phase }, { on := 11, ground := Ground.phase }, { on := 12, ground := Ground.phase }], guard := none }) (v := .bool v) rfl (by kernel_rfl) (by kernel_rfl) (by kernel_rfl) (fun _ _ _ h => h) (Or.inl ⟨by rfl, (by intro Y hY; go_simp)⟩) h12 ?_
        simp only [Act.put, List.setIfInBounds_toArray, List.set_cons_zero, List.set_cons_succ]
        refine wpAnyH_done (by kernel_rfl) ?_ _
        have HN := Lib.hid h12
        have HSET := Lib.hid hset
        have HFD := Lib.hid hfd
        clear h12 hset hfd
        go_wp2_with fail
        go_meet
        exact ⟨_, z, _, rfl, rfl, HSET.out, HFD.out, HN.out⟩
      · go_simp
        have h11 : Below w1.heap.size w1 (w2.alloc zMkO) := below_allocT h6 zMkO
        refine hK.out _ _ h11 (fun _ => ?_)
        clear hK K
        simp only [List.setIfInBounds_toArray, List.set_cons_zero, List.set_cons_succ]
        refine wpAnyH_ready (rs := [7]) (by kernel_rfl) (by simp) ?_
        refine AllReadyH.cons (o := { dst := some 50, op := Op.call { callee := Callee.value (Operand.func 115), args := #[Operand.tmp 43, Operand.tmp 45, Operand.tmp 49], argTypes := #[115, 3, 33] }, type := 165, pos := "show.go:180", after := #[{ on := 0, ground := Ground.data }, { on := 2, ground := Ground.data }, { on := 6, ground := Ground.data }, { on := 6, ground := Ground.chain }], guard := none }) rfl (fun K hK => ?_) AllReadyH.nil
        go_simp
        refine (HM.out _ (HB1.out.trans (h11.mono HB1.out.size))).mono ?_
        rintro e w3 ⟨hb3, z, v, he, hfd⟩
        subst he
        try go_simp
        have h7 : Below w1.heap.size w1 w3 := below_trT hb3 h11
        refine hK.out _ _ h7 (fun _ => ?_)
        clear hK K
        simp only [List.setIfInBounds_toArray, List.set_cons_zero, List.set_cons_succ]
        refine wpAnyH_take (i := 8) (oi := { dst := some 42, op := Op.move (Operand.tmp 50), type := 165, pos := "show.go:180", after := #[{ on := 7, ground := Ground.data }], guard := none }) (v := .tuple #[.agg #[.string z.nm, .int .i64 z.tg, .bool z.hs, .int .i64 z.vs, .int .i64 z.ak, .int .i64 z.an, .string z.az, .slice z.xa z.xn z.xc, .int .i64 z.tk, .int .i64 z.tn, .string z.ts, .slice z.ya z.yn z.yc], .bool v]) rfl (by kernel_rfl) (by kernel_rfl) (by kernel_rfl) (fun _ _ _ h => h) (Or.inl ⟨by rfl, (by intro Y hY; go_simp)⟩) h7 ?_
        simp only [Act.put, List.setIfInBounds_toArray, List.set_cons_zero, List.set_cons_succ]
        refine wpAnyH_take (i := 9) (oi := { dst := some 51, op := Op.extract (Operand.tmp 42) 0, type := 73, pos := "show.go:180", after := #[{ on := 8, ground := Ground.data }], guard := none }) (v := .agg #[.string z.nm, .int .i64 z.tg, .bool z.hs, .int .i64 z.vs, .int .i64 z.ak, .int .i64 z.an, .string z.az, .slice z.xa z.xn z.xc, .int .i64 z.tk, .int .i64 z.tn, .string z.ts, .slice z.ya z.yn z.yc]) rfl (by kernel_rfl) (by kernel_rfl) (by kernel_rfl) (fun _ _ _ h => h) (Or.inl ⟨by rfl, (by intro Y hY; go_simp)⟩) h7 ?_
        simp only [Act.put, List.setIfInBounds_toArray, List.set_cons_zero, List.set_cons_succ]
        refine wpAnyH_take (i := 10) (oi := { dst := some 52, op := Op.extract (Operand.tmp 42) 1, type := 4, pos := "show.go:180", after := #[{ on := 8, ground := Ground.data }, { on := 12, ground := Ground.gcOnly Departure.lateStores }], guard := none }) (v := .bool v) rfl (by kernel_rfl) (by kernel_rfl) (by kernel_rfl) (fun _ _ _ h => h) (Or.inl ⟨by rfl, (by intro Y hY; go_simp)⟩) h7 ?_
        simp only [Act.put, List.setIfInBounds_toArray, List.set_cons_zero, List.set_cons_succ]
        have hb2l : w1.heap.size ≤ w2.heap.size := h6.size
        have hblk : w3.heap[w2.heap.size]? = some zMkO := blk_kept hb3 (zfr w2)
        refine wpAnyH_ready (rs := [12]) (by kernel_rfl) (by simp) ?_
        refine AllReadyH.cons (o := { dst := none, op := Op.store 73 (Operand.tmp 14) (Operand.tmp 51), type := 0, pos := "show.go:180", after := #[{ on := 11, ground := Ground.data }, { on := 9, ground := Ground.data }, { on := 7, ground := Ground.chain }, { on := 0, ground := Ground.phase }, { on := 1, ground := Ground.phase }, { on := 2, ground := Ground.phase }, { on := 3, ground := Ground.phase }, { on := 4, ground := Ground.phase }, { on := 5, ground := Ground.phase }, { on := 6, ground := Ground.phase }, { on := 7, ground := Ground.phase }, { on := 8, ground := Ground.phase }, { on := 9, ground := Ground.phase }, { on := 10, ground := Ground.textOnly Departure.lateStores }, { on := 11, ground := Ground.phase }], guard := none }) rfl (fun K hK => ?_) AllReadyH.nil
        rw [if_pos (by rfl)]
        refine wp_store_mid _ _ _ rfl w2.heap.size 0 (Mz.C z) rfl rfl (there12 hblk) (by kernel_rfl) (c12 z) ?_
        have h12 : Below w1.heap.size w1 (w3.setCells w2.heap.size 0 (Mz.C z).toList) := below_set12 h7 hb2l z
        have hset := blk_set12 hblk z
        refine hK.out _ _ h12 (fun _ => ?_)
        clear hK K
        simp only [Act.put, List.setIfInBounds_toArray, List.set_cons_zero, List.set_cons_succ]
        refine wpAnyH_take (i := 13) (oi := { dst := some 15, op := Op.assign (Operand.tmp 52), type := 4, pos := "show.go:180", after := #[{ on := 10, ground := Ground.data }, { on := 12, ground := Ground.chain }, { on := 0, ground := Ground.phase }, { on := 1, ground := Ground.phase }, { on := 2, ground := Ground.phase }, { on := 3, ground := Ground.phase }, { on := 4, ground := Ground.phase }, { on := 5, ground := Ground.phase }, { on := 6, ground := Ground.phase }, { on := 7, ground := Ground.phase }, { on := 8, ground := Ground.phase }, { on := 9, ground := Ground.phase }, { on := 10, ground := Ground.phase }, { on := 11, ground := Ground.phase }, { on := 12, ground := Ground.phase }], guard := none }) (v := .bool v) rfl (by kernel_rfl) (by kernel_rfl) (by kernel_rfl) (fun _ _ _ h => h) (Or.inl ⟨by rfl, (by intro Y hY; go_simp)⟩) h12 ?_
        simp only [Act.put, List.setIfInBounds_toArray, List.set_cons_zero, List.set_cons_succ]
        refine wpAnyH_done (by kernel_rfl) ?_ _
        have HN := Lib.hid h12
        have HSET := Lib.hid hset
        have HFD := Lib.hid hfd
        clear h12 hset hfd
        go_wp2_with fail
        go_meet
        exact ⟨_, z, _, rfl, rfl, HSET.out, HFD.out, HN.out⟩
    · go_simp
      have h11 : Below w1.heap.size w1 (w1.drew.alloc zMkO) := below_allocT hH zMkO
      refine hK.out _ _ h11 (fun _ => ?_)
      clear hK K
      simp only [List.setIfInBounds_toArray, List.set_cons_zero, List.set_cons_succ]
      refine wpAnyH_ready (rs := [6]) (by kernel_rfl) (by simp) ?_
      refine AllReadyH.cons (o := { dst := some 49, op := Op.call { callee := Callee.value (Operand.func 64), args := #[Operand.tmp 47, Operand.tmp 48, Operand.const (Value.int IntKind.i64 0)], argTypes := #[24, 3, 3] }, type := 33, pos := "show.go:180", after := #[{ on := 4, ground := Ground.data }, { on := 5, ground := Ground.data }], guard := none }) rfl (fun K hK => ?_) AllReadyH.nil
      go_simp
      refine (HFB.out _ (HB1.out.trans (h11.mono HB1.out.size))).mono ?_
      rintro e w2 ⟨rfl, hb2⟩
      try go_simp
      have h6 : Below w1.heap.size w1 w2 := below_trT hb2 h11
      have hblk2 : w2.heap[w1.heap.size]? = some zMkO := blk_kept hb2 (zfr w1.drew)
      refine hK.out _ _ h6 (fun _ => ?_)
      clear hK K
      simp only [List.setIfInBounds_toArray, List.set_cons_zero, List.set_cons_succ]
      refine wpAnyH_ready (rs := [7]) (by kernel_rfl) (by simp) ?_
      refine AllReadyH.cons (o := { dst := some 50, op := Op.call { callee := Callee.value (Operand.func 115), args := #[Operand.tmp 43, Operand.tmp 45, Operand.tmp 49], argTypes := #[115, 3, 33] }, type := 165, pos := "show.go:180", after := #[{ on := 0, ground := Ground.data }, { on := 2, ground := Ground.data }, { on := 6, ground := Ground.data }, { on := 6, ground := Ground.chain }], guard := none }) rfl (fun K hK => ?_) AllReadyH.nil
      go_simp
      refine (HM.out _ (HB1.out.trans (h6.mono HB1.out.size))).mono ?_
      rintro e w3 ⟨hb3, z, v, he, hfd⟩
      subst he
      try go_simp
      have h7 : Below w1.heap.size w1 w3 := below_trT hb3 h6
      have hblk : w3.heap[w1.heap.size]? = some zMkO := blk_kept hb3 hblk2
      refine hK.out _ _ h7 (fun _ => ?_)
      clear hK K
      simp only [List.setIfInBounds_toArray, List.set_cons_zero, List.set_cons_succ]
      refine wpAnyH_take (i := 8) (oi := { dst := some 42, op := Op.move (Operand.tmp 50), type := 165, pos := "show.go:180", after := #[{ on := 7, ground := Ground.data }], guard := none }) (v := .tuple #[.agg #[.string z.nm, .int .i64 z.tg, .bool z.hs, .int .i64 z.vs, .int .i64 z.ak, .int .i64 z.an, .string z.az, .slice z.xa z.xn z.xc, .int .i64 z.tk, .int .i64 z.tn, .string z.ts, .slice z.ya z.yn z.yc], .bool v]) rfl (by kernel_rfl) (by kernel_rfl) (by kernel_rfl) (fun _ _ _ h => h) (Or.inl ⟨by rfl, (by intro Y hY; go_simp)⟩) h7 ?_
      simp only [Act.put, List.setIfInBounds_toArray, List.set_cons_zero, List.set_cons_succ]
      refine wpAnyH_take (i := 9) (oi := { dst := some 51, op := Op.extract (Operand.tmp 42) 0, type := 73, pos := "show.go:180", after := #[{ on := 8, ground := Ground.data }], guard := none }) (v := .agg #[.string z.nm, .int .i64 z.tg, .bool z.hs, .int .i64 z.vs, .int .i64 z.ak, .int .i64 z.an, .string z.az, .slice z.xa z.xn z.xc, .int .i64 z.tk, .int .i64 z.tn, .string z.ts, .slice z.ya z.yn z.yc]) rfl (by kernel_rfl) (by kernel_rfl) (by kernel_rfl) (fun _ _ _ h => h) (Or.inl ⟨by rfl, (by intro Y hY; go_simp)⟩) h7 ?_
      simp only [Act.put, List.setIfInBounds_toArray, List.set_cons_zero, List.set_cons_succ]
      refine wpAnyH_take (i := 10) (oi := { dst := some 52, op := Op.extract (Operand.tmp 42) 1, type := 4, pos := "show.go:180", after := #[{ on := 8, ground := Ground.data }, { on := 12, ground := Ground.gcOnly Departure.lateStores }], guard := none }) (v := .bool v) rfl (by kernel_rfl) (by kernel_rfl) (by kernel_rfl) (fun _ _ _ h => h) (Or.inl ⟨by rfl, (by intro Y hY; go_simp)⟩) h7 ?_
      simp only [Act.put, List.setIfInBounds_toArray, List.set_cons_zero, List.set_cons_succ]
      refine wpAnyH_ready (rs := [12]) (by kernel_rfl) (by simp) ?_
      refine AllReadyH.cons (o := { dst := none, op := Op.store 73 (Operand.tmp 14) (Operand.tmp 51), type := 0, pos := "show.go:180", after := #[{ on := 11, ground := Ground.data }, { on := 9, ground := Ground.data }, { on := 7, ground := Ground.chain }, { on := 0, ground := Ground.phase }, { on := 1, ground := Ground.phase }, { on := 2, ground := Ground.phase }, { on := 3, ground := Ground.phase }, { on := 4, ground := Ground.phase }, { on := 5, ground := Ground.phase }, { on := 6, ground := Ground.phase }, { on := 7, ground := Ground.phase }, { on := 8, ground := Ground.phase }, { on := 9, ground := Ground.phase }, { on := 10, ground := Ground.textOnly Departure.lateStores }, { on := 11, ground := Ground.phase }], guard := none }) rfl (fun K hK => ?_) AllReadyH.nil
      rw [if_pos (by rfl)]
      refine wp_store_mid _ _ _ rfl w1.heap.size 0 (Mz.C z) rfl rfl (there12 hblk) (by kernel_rfl) (c12 z) ?_
      have h12 : Below w1.heap.size w1 (w3.setCells w1.heap.size 0 (Mz.C z).toList) := below_set12 h7 (Nat.le_refl _) z
      have hset := blk_set12 hblk z
      refine hK.out _ _ h12 (fun _ => ?_)
      clear hK K
      simp only [Act.put, List.setIfInBounds_toArray, List.set_cons_zero, List.set_cons_succ]
      refine wpAnyH_take (i := 13) (oi := { dst := some 15, op := Op.assign (Operand.tmp 52), type := 4, pos := "show.go:180", after := #[{ on := 10, ground := Ground.data }, { on := 12, ground := Ground.chain }, { on := 0, ground := Ground.phase }, { on := 1, ground := Ground.phase }, { on := 2, ground := Ground.phase }, { on := 3, ground := Ground.phase }, { on := 4, ground := Ground.phase }, { on := 5, ground := Ground.phase }, { on := 6, ground := Ground.phase }, { on := 7, ground := Ground.phase }, { on := 8, ground := Ground.phase }, { on := 9, ground := Ground.phase }, { on := 10, ground := Ground.phase }, { on := 11, ground := Ground.phase }, { on := 12, ground := Ground.phase }], guard := none }) (v := .bool v) rfl (by kernel_rfl) (by kernel_rfl) (by kernel_rfl) (fun _ _ _ h => h) (Or.inl ⟨by rfl, (by intro Y hY; go_simp)⟩) h12 ?_
      simp only [Act.put, List.setIfInBounds_toArray, List.set_cons_zero, List.set_cons_succ]
      refine wpAnyH_done (by kernel_rfl) ?_ _
      have HN := Lib.hid h12
      have HSET := Lib.hid hset
      have HFD := Lib.hid hfd
      clear h12 hset hfd
      go_wp2_with fail
      go_meet
      exact ⟨_, z, _, rfl, rfl, HSET.out, HFD.out, HN.out⟩
  case rest =>
    obtain ⟨pb, z, v, rfl, rfl, hblk, hfd, hbw⟩ := hcut
    have hwx : Below w.heap.size w wc := HB1.out.trans (hbw.mono HB1.out.size)
    have hr := HR.out
    clear k0 k1 k4 kd0 kd1 kd4 HF0 HM l0 l1 x4 HT
    have c0 := below_cell hbw HL01.out.1
    have c1 := below_cell hbw HL01.out.2
    have c2 := below_cell hbw HX7.out
    cases r with
    | none =>
      obtain rfl : v = false := hfd
      clear hblk hr hbw HX7
      have HWX := Lib.hid hwx
      clear hwx
      go_wp2_with fail
      go_ret2
      exact ⟨rfl, HWX.out⟩
    | some m =>
      have hmem : m ∈ ms := by unfold mkOf at hr; exact List.mem_of_find?_eq_some hr
      have hnm := HS0.out.names m hmem
      have hsz := HS0.out.args m hmem
      obtain ⟨nm, tg, hs, vs, ak, an, az, xa, xn, xc, tk, tn, ts, ya, yn, yc⟩ := z
      obtain ⟨mnm, mtg, mhs, mvs, ⟨mak, man, maz, mal⟩, mty⟩ := m
      simp only [Fd, Ty.k, Ty.n, Ty.s, Ty.l] at hfd hnm hsz ⊢
      obtain ⟨rfl, rfl, rfl, rfl, rfl, rfl, h6, rfl⟩ := hfd
      have hq := res12 (show wc.heap[pb]? = some (.cells #[.string mnm, .int .i64 tg, .bool mhs, .int .i64 mvs, .int .i64 mak, .int .i64 man, .string maz, .slice xa xn xc, .int .i64 tk, .int .i64 tn, .string ts, .slice ya yn yc] 73 (0, 0)) from hblk)
      have q0 := hq.1
      have q2 := hq.2.2.1
      have q3 := hq.2.2.2.1
      have q4 := hq.2.2.2.2.1
      have q5 := hq.2.2.2.2.2.1
      have q6 := hq.2.2.2.2.2.2.1
      have q7 := hq.2.2.2.2.2.2.2.1
      clear hq hblk hr hmem
      cases mhs with
      | false =>
        clear q0 q3 q4 q5 q6 q7 h6 HX7 hbw
        have HWX := Lib.hid hwx
        clear hwx
        go_wp2_with fail
        go_ret2
        exact ⟨rfl, HWX.out⟩
      | true =>
        have hu' := HU.out
        rw [← HUN.out] at hu'
        have hun := HUN.out
        have HPT := Lib.hid (fun (Y : World) (hY : Below wc.heap.size wc Y) =>
          have hYw : Below w.heap.size w Y := hwx.trans (hY.mono hwx.size)
          (putTy_any 300 (Nat.le_refl _) (.mk mak man maz mal) hsz w.heap.size Y (.slice xa xn xc) mvs tl0 ua uc hYw.size (h6.below hYw) (TyX.keep (Y := (· < w.heap.size)) hu' (fun g hg _ => hYw.block g hg) (fun g hg _ => hg))).mono fun e w' ⟨⟨u', he, ht⟩, hb⟩ =>
            (⟨u', he, ht.keep (fun _ _ _ => rfl) (fun g _ hg => hg), hY.trans (hb.mono hY.size)⟩ : ∃ u', e = Ending.returned (tyA (putT mvs tl0 (.mk mak man maz mal)) u') ∧ TyV w' (putT mvs tl0 (.mk mak man maz mal)).l u' ∧ Below wc.heap.size wc w'))
        obtain ⟨T, hT⟩ : ∃ T, putT mvs tl0 (.mk mak man maz mal) = T := ⟨_, rfl⟩
        rw [hT] at HPT
        have HT0 := Lib.hid hT
        obtain ⟨Q, hQ⟩ : ∃ Q, behindF f mnm.data.toList x1 T = Q := ⟨_, rfl⟩
        have HBH := Lib.hid (fun (Y : World) (hY : Below wc.heap.size wc Y) (u : Value) (hu : TyV Y T.l u) =>
          have hYw : Below w.heap.size w Y := hwx.trans (hY.mono hwx.size)
          (behind_any (w := Y) (b := b) (N := N) (a := a) c dep hd0 hd1 (HTC.out.at hYw) HFL.out mnm hnm x1 hw1 T u hu).mono fun e w' ⟨he, hb⟩ =>
            (⟨by rw [he, hQ], hY.trans (hb.mono hY.size)⟩ : e = Ending.returned (.string (bst Q)) ∧ Below wc.heap.size wc w'))
        have HQ0 := Lib.hid hQ
        have HFB := Lib.hid (fun (Y : World) (hY : Below wc.heap.size wc Y) => (HF1.out Y (hwx.trans (hY.mono hwx.size))).mono fun e w' ⟨h1, n', h2⟩ => (⟨h1, by rw [h2]; exact Below.drewN' hY n'⟩ : e = Ending.returned (.int .u64 (x1 : Int)) ∧ Below wc.heap.size wc w'))
        have HC := Lib.hid (fun (Y : World) (hY : Below wc.heap.size wc Y) => (⟨below_cell hY c0, below_cell hY c1, below_cell hY c2, below_cell hY q0, below_cell hY q3, below_cell hY q4, below_cell hY q5, below_cell hY q6, below_cell hY q7, hY⟩ : Y.cell? ⟨w.heap.size, 0, none⟩ = some (.pointer (some ⟨b, 0, none⟩)) ∧ Y.cell? ⟨w.heap.size, 1, none⟩ = some (.slice a N c) ∧ Y.cell? ⟨w.heap.size + 1, 3, none⟩ = some (.slice ua un uc) ∧ Y.cell? ⟨pb, 0, none⟩ = some (.string mnm) ∧ Y.cell? ⟨pb, 3, none⟩ = some (.int .i64 mvs) ∧ Y.cell? ⟨pb, 4, none⟩ = some (.int .i64 mak) ∧ Y.cell? ⟨pb, 5, none⟩ = some (.int .i64 man) ∧ Y.cell? ⟨pb, 6, none⟩ = some (.string maz) ∧ Y.cell? ⟨pb, 7, none⟩ = some (.slice xa xn xc) ∧ Below wc.heap.size wc Y))
        obtain ⟨t0, t1, t2, t3⟩ := T
        unfold tyA at HPT HBH
        simp only [Ty.k, Ty.n, Ty.s, Ty.l] at HPT HBH
        rw [hun] at HPT
        have HWX := Lib.hid hwx
        clear hu' hun hT hQ h6 hwx hnm hsz hbw HTC HFL HS0 HU HUN HX7 HF1
        go_wp2_with fail
        go_region_held3 (fun Y => Y.cell? ⟨w.heap.size, 0, none⟩ = some (.pointer (some ⟨b, 0, none⟩)) ∧ Y.cell? ⟨w.heap.size, 1, none⟩ = some (.slice a N c) ∧ Y.cell? ⟨w.heap.size + 1, 3, none⟩ = some (.slice ua un uc) ∧ Y.cell? ⟨pb, 0, none⟩ = some (.string mnm) ∧ Y.cell? ⟨pb, 3, none⟩ = some (.int .i64 mvs) ∧ Y.cell? ⟨pb, 4, none⟩ = some (.int .i64 mak) ∧ Y.cell? ⟨pb, 5, none⟩ = some (.int .i64 man) ∧ Y.cell? ⟨pb, 6, none⟩ = some (.string maz) ∧ Y.cell? ⟨pb, 7, none⟩ = some (.slice xa xn xc) ∧ Below wc.heap.size wc Y)
          (first | (with_reducible assumption) | (with_reducible exact HC.out _ (Below.drew (Below.refl _ _))) | (with_reducible exact HC.out _ (by with_reducible assumption)))
          (first | (go_at_call 64; (with_reducible refine (HFB.out _ (pb10 (by with_reducible assumption))).mono ?_); rintro e w' ⟨rfl, hww⟩) | (go_at_call 116; (with_reducible refine (HPT.out _ (pb10 (by with_reducible assumption))).mono ?_); rintro e w' ⟨u', rfl, hty, hww⟩) | (go_at_call 108; (with_reducible refine (HBH.out _ (pb10 (by with_reducible assumption)) _ (by with_reducible assumption)).mono ?_); rintro e w' ⟨rfl, hww⟩))
        have HW := Lib.hid (HWX.out.trans (hww.mono HWX.out.size))
        go_wp2_with fail
        go_ret2
        refine ⟨?_, HW.out⟩
        show Ending.returned (.tuple #[.string (bst Q), .bool true]) = Ending.returned (.tuple #[.string (bst (if true = true then (behindF f mnm.data.toList x1 (putT mvs tl0 (.mk mak man maz mal)), true) else ([63], false)).1), .bool (if true = true then (behindF f mnm.data.toList x1 (putT mvs tl0 (.mk mak man maz mal)), true) else ([63], false)).2])
        rw [if_pos rfl, HT0.out, HQ0.out]
end
end Go.Proofs.YtlakfnlkiebpdaaDoor
namespace Go.Proofs.YtlakfnlkiebpdaaDoor
open Go Go.RowKit
section
variable {w : World} {b W h N : Nat} {now old : List Ob} {R : Nat → Value} {a : Option Addr} {ms : List Mkr}
theorem cons_all (s : Sc w b W h now old R a N ms) (c : Nat) : ConsAll w b a N c (LN now h W) ms := by
  intro f dep hd0 hd1 hf hfl Y hY n t u hn hu
  have s' := s.below hY
  cases hi : isIntB (n : Int) with
  | true => exact cons_int s' c dep n hn t u hi
  | false =>
    cases hq : tupL (LN now h W) n 2 with
    | none => exact cons_miss s' c dep n hn t u hi hq
    | some ws => exact cons_ptr s' c dep hd0 hd1 (hf.at hY) hfl n hn t u hu hi ws hq
end
end Go.Proofs.YtlakfnlkiebpdaaDoor
