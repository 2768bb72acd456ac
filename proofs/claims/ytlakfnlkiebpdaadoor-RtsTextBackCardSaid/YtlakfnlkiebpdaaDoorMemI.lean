/- The contract of the objects told one by one. Conditions: the memory lies as Mem says, and stays so in each round. -/
import Derived.Test.YtlakfnlkiebpdaaDoorMemE
namespace Go.Proofs.YtlakfnlkiebpdaaDoor
open Go Go.RowKit Go.Shelf
attribute [local go_sem] Oper.semAt_some
/-- the address of the object of a number -/
def objA (h W : Nat) (now : List Ob) (k : Nat) : Int := adr h W (start now k : Nat)
def aOf (h W : Nat) (now : List Ob) (k : Nat) : Int := if k < now.length then objA h W now k else adr h W (-1)
/-- the address that is looked behind for the object of a number -/
def behind (h W : Nat) (now : List Ob) (k : Nat) : Int := match k with | 0 => 0 | k + 1 => objA h W now k
theorem start_le_used {now : List Ob} {k : Nat} (hk : k ≤ now.length) : start now k ≤ used now := by
  have := start_mono now hk (Nat.le_refl _)
  rw [start_len] at this
  omega
section
variable {w : World} {b W h : Nat} {R : Nat → Value} {now old : List Ob}
end
/-- what a round keeps: the box, and the memory as it was -/
def KeepO (Bs b W h : Nat) (R : Nat → Value) (now old : List Ob) (A B : World) : Prop := Boxed A Bs 24 (.pointer (some ⟨b, 0, none⟩)) → Mem A b W h R now old → Boxed B Bs 24 (.pointer (some ⟨b, 0, none⟩)) ∧ Mem B b W h R now old
theorem keepO_t {Bs b W h : Nat} {R : Nat → Value} {now old : List Ob} {A B C : World} (p : KeepO Bs b W h R now old A B) (q : KeepO Bs b W h R now old B C) : KeepO Bs b W h R now old A C := fun x y => q (p x y).1 (p x y).2
theorem MemV.isCells {w : World} {b W h : Nat} {R : Nat → Value} {L : Nat → List Nat} (m : MemV w b W h R L) {i : Nat} (hi : Own b R i) {o : Obj} (ho : w.heap[i]? = some o) : o.isCells = true := by
  rcases hi with rfl | ⟨r, hr, hg⟩
  · have hc := m.c0
    unfold World.cell? at hc
    simp only [] at hc
    rw [ho] at hc
    cases o <;> first | rfl | cases hc
  · rcases (m.own r hr).2 with ⟨hv, _⟩ | ⟨g, cap, cur, hv, _, hk, _⟩
    · rw [hv] at hg; cases hg
    · rw [hv] at hg
      obtain rfl : g = i := by simpa [Value.ownBlock] using hg
      rw [hk] at ho
      obtain rfl := Option.some.inj ho
      rfl
theorem keepO_b {Bs b W h : Nat} {R : Nat → Value} {now old : List Ob} {w : World} (hb : Bs < w.heap.size) (W1 : World) (l : Nat) (o o' : Obj) (hl : w.heap.size ≤ l) (ho : W1.heap[l]? = some o) (hc : o.isCells = false) (_ : o.isWalk = false) : KeepO Bs b W h R now old W1 (W1.putObj l o') := fun x y =>
  ⟨x.kept (grownBy_putObj' W1 l o') (fun e => by cases e; omega), y.kept ((Fr.refl (· = l) W1).grown (grownBy_putObj' W1 l o') (fun k hk => .inl (Option.some.inj hk).symm)) (fun i hi e => by
    subst e
    rw [MemV.isCells y hi ho] at hc
    cases hc)⟩
def meas (a ok : Value) : Nat := match ok with | .bool true => 200001 - (intOf a).toNat | _ => 0
theorem objA_bd {W h : Nat} {now old : List Ob} (z : WF W h now old) {k : Nat} (hk : k ≤ now.length) : 1 ≤ objA h W now k ∧ objA h W now k ≤ 200000 := by
  have := start_le_used hk
  have := z.un
  have := z.w1
  unfold objA adr
  split <;> omega
theorem meas_lt {W h : Nat} {now old : List Ob} (z : WF W h now old) {k N : Nat} (hN : now.length = N) (hk : k < N) : meas (.int .i64 (aOf h W now (k + 1))) (.bool (decide (k + 1 < N))) < meas (.int .i64 (aOf h W now k)) (.bool true) := by
  subst hN
  obtain ⟨h1, h2⟩ := objA_bd z (Nat.le_of_lt hk)
  have e : meas (.int .i64 (aOf h W now k)) (.bool true) = 200001 - (objA h W now k).toNat := by
    unfold aOf; rw [if_pos hk]; rfl
  rw [e]
  by_cases q : k + 1 < now.length
  · rw [decide_eq_true q]
    obtain ⟨h3, h4⟩ := objA_bd z (Nat.le_of_lt q)
    have e2 : meas (.int .i64 (aOf h W now (k + 1))) (.bool true) = 200001 - (objA h W now (k + 1)).toNat := by
      unfold aOf; rw [if_pos q]; rfl
    rw [e2]
    have hm := start_mono now (i := k) (j := k + 1) (by omega) (by omega)
    have : objA h W now k < objA h W now (k + 1) := by unfold objA adr; omega
    omega
  · rw [decide_eq_false q]
    show 0 < _
    omega
theorem behind_succ {h W : Nat} {now : List Ob} {k : Nat} (hk : k < now.length) : behind h W now (k + 1) = aOf h W now k := by
  unfold aOf; rw [if_pos hk]; rfl
end Go.Proofs.YtlakfnlkiebpdaaDoor
