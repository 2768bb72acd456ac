/- How a value is shown, pure: types and constructors as trees, a memory as a function. Conditions: none. -/
import Derived.Lib.SmallJoins
import Derived.Lib.AppendIntMem
import Derived.Test.YtlakfnlkiebpdaaDoorRtsTy
namespace Go.Proofs.YtlakfnlkiebpdaaDoor
open Go Go.RowKit
structure Mkr where
  name : ByteArray
  tag : Int
  has : Bool
  vars : Int
  arg : Ty
  typ : Ty
def zTy : Ty := .mk 0 0 ⟨#[]⟩ []
mutual
def Ty.size : Ty → Nat
  | .mk _ _ _ l => 1 + sizeL l
def sizeL : List Ty → Nat
  | [] => 0
  | t :: l => t.size + sizeL l
end
mutual
def putT (vars : Int) (args : List Ty) : Ty → Ty
  | .mk k n s l => if k = 1 then (if n < 0 ∨ vars ≤ n ∨ (args.length : Int) ≤ n then zTy else args.getD n.toNat zTy) else .mk k n s (putL vars args l)
def putL (vars : Int) (args : List Ty) : List Ty → List Ty
  | [] => []
  | t :: l => putT vars args t :: putL vars args l
end
theorem putL_len (vars : Int) (args : List Ty) : ∀ l, (putL vars args l).length = l.length
  | [] => rfl
  | t :: l => by rw [putL, List.length_cons, List.length_cons, putL_len vars args l]
theorem putL_get (vars : Int) (args : List Ty) : ∀ (l : List Ty) (j : Nat), (putL vars args l)[j]? = (l[j]?).map (putT vars args)
  | [], j => by simp [putL]
  | t :: l, 0 => by simp [putL]
  | t :: l, j + 1 => by simp [putL, putL_get vars args l j]
theorem size_mem : ∀ {l : List Ty} {t : Ty}, t ∈ l → t.size ≤ sizeL l
  | x :: l, t, h => by
    rw [sizeL]
    rcases List.mem_cons.1 h with rfl | h
    · omega
    · have := size_mem h; omega
theorem size_len : ∀ l : List Ty, l.length ≤ sizeL l
  | [] => Nat.le_refl _
  | t :: l => by
    rw [sizeL, List.length_cons]
    have := size_len l
    have : 1 ≤ t.size := by cases t; rw [Ty.size]; omega
    omega
theorem Ty.size_eq (t : Ty) : t.size = 1 + sizeL t.l := by cases t; rw [Ty.size]; rfl
section
variable (L : Nat → Option (Nat × List Nat)) (T : Nat → Option (List UInt8)) (ms : List Mkr)
def tupL (w n : Nat) : Option (List Nat) := match L w with
  | some (k, ws) => if k = 1 ∧ ws.length = n then some ws else none
  | none => none
def isK (w k : Nat) : Bool := match L w with
  | some (j, _) => j == k
  | none => false
/-- the element and the rest of a list's cell -/
def cellL (w : Nat) : Option (Nat × Nat) := match tupL L w 2 with
  | some ws => if ws.getD 0 0 = 3 then (tupL L (ws.getD 1 0) 2).map fun us => (us.getD 0 0, us.getD 1 0) else none
  | none => none
def mkOf (stamp : Int) (tag : Nat) : Option Mkr := ms.find? fun k => k.typ.n == stamp && (isIntB (tag : Int) && k.tag == toI (tag : Int))
def longB (s : List UInt8) : Bool := decide (500 < s.length)
def behindF (f : Nat → Ty → List UInt8 × Bool) (word : List UInt8) (w : Nat) (t : Ty) : List UInt8 :=
  if (f w t).2 = true then word ++ [32, 40] ++ (f w t).1 ++ [41] else word ++ [32] ++ (f w t).1
def tupF (f : Nat → Ty → List UInt8 × Bool) : List Nat → List Ty → List UInt8 → List UInt8 → List UInt8
  | w :: ws, t :: ts, bt, s => if longB (s ++ (bt ++ (f w t).1)) = true then s ++ (bt ++ (f w t).1) else tupF f ws ts [44, 32] (s ++ (bt ++ (f w t).1))
  | _, _, _, s => s ++ [41]
def listF (el : Nat → List UInt8) : Nat → Nat → List UInt8 → List UInt8 → List UInt8
  | 0, _, _, s => s
  | n + 1, rest, bt, s =>
    if rest = 1 then s ++ [93]
    else match cellL L rest with
      | none => if longB (s ++ (bt ++ [63])) = true then s ++ (bt ++ [63]) else s ++ (bt ++ [63]) ++ [93]
      | some c => if longB (s ++ (bt ++ el c.1)) = true then s ++ (bt ++ el c.1) else listF el n c.2 [44, 32] (s ++ (bt ++ el c.1))
def consF (f : Nat → Ty → List UInt8 × Bool) (w : Nat) (t : Ty) : List UInt8 × Bool :=
  if isIntB (w : Int) = true then
    match mkOf ms t.n w with
    | some k => if k.has = true then ([63], false) else (k.name.data.toList, false)
    | none => ([63], false)
  else match tupL L w 2 with
    | none => ([63], false)
    | some ws => match mkOf ms t.n (ws.getD 0 0) with
      | some k => if k.has = true then (behindF f k.name.data.toList (ws.getD 1 0) (putT k.vars t.l k.arg), true) else ([63], false)
      | none => ([63], false)
/-- the text of a value by its type, where f shows what stands one deeper -/
def tellF (f : Nat → Ty → List UInt8 × Bool) (w : Nat) (t : Ty) : List UInt8 × Bool :=
  if t.n = 1 ∧ isIntB (w : Int) = true then (Lib.itoa (toI (w : Int)), false)
  else if t.n = 3 ∧ w = 1 then ([40, 41], false)
  else if t.n = 2 then (match T w with | some s => (quoteL s, false) | none => ([63], false))
  else if t.n = 5 ∧ isK L w 3 = true then ([102, 110], false)
  else if t.n = 1 ∨ t.n = 3 ∨ t.n = 5 then ([63], false)
  else if t.n = 6 ∧ 2 ≤ t.l.length then (match tupL L w t.l.length with | some ws => (tupF f ws t.l [] [40], false) | none => ([63], false))
  else if t.n = 7 ∧ t.l.length = 1 then (if isK L w 2 = true then (behindF f [114, 101, 102] (((L w).map (·.2)).getD [] |>.getD 0 0) (t.l.getD 0 zTy), true) else ([63], false))
  else if t.n = 9 ∧ t.l.length = 1 then (listF L (fun x => (f x (t.l.getD 0 zTy)).1) 300 w [] [91], false)
  else consF L ms f w t
def showF : Nat → Nat → Ty → List UInt8 × Bool
  | 0, _, _ => ([35], false)
  | d + 1, w, t => if t.k = 1 then ([95], false) else if t.k = 2 then tellF L T ms (showF d) w t else ([63], false)
def cutS (s : List UInt8) : List UInt8 := if longB s = true then s.take 500 ++ [46, 46, 46] else s
def showS (w : Nat) (t : Ty) : List UInt8 := cutS (showF L T ms 30 w t).1
end
end Go.Proofs.YtlakfnlkiebpdaaDoor
