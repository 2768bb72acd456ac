/- A memory as a plain function of its objects: Look, Load, Store and Move of any address. Condition: the memory lies as Mem says. -/
import Derived.Test.YtlakfnlkiebpdaaDoorMemMoveK
import Derived.Test.YtlakfnlkiebpdaaDoorMemI
namespace Go.Proofs.YtlakfnlkiebpdaaDoor
open Go Go.RowKit
/-- a memory's objects: those in use, the others -/
structure St where
  now : List Ob
  old : List Ob
/-- the object of a number, or an empty one -/
def obN (os : List Ob) (j : Nat) : Ob := (os[j]?).getD ⟨0, 0, [], 0⟩
theorem obN_get {os : List Ob} {j : Nat} (h : j < os.length) : os[j]? = some (obN os j) := by unfold obN; rw [List.getElem?_eq_getElem h]; rfl
theorem obN_of {os : List Ob} {j : Nat} {o : Ob} (h : os[j]? = some o) : obN os j = o := by unfold obN; rw [h]; rfl
theorem idx_ob {os : List Ob} {h W j : Nat} {a : Int} (e : idxAt os h W a = some j) : os[j]? = some (obN os j) := obN_get (idxAt_some e).1
/-- kind, size, tagged ones, error -/
def lookX (h W : Nat) (s : St) (a : Int) : Nat × Nat × Nat × Nat := match idxAt s.now h W a with
  | none => (0, 0, 0, 20)
  | some j => ((obN s.now j).k, (obN s.now j).ws.length, (obN s.now j).t, 0)
def loadX (h W : Nat) (s : St) (a : Int) (i : Nat) : Nat × Nat := match idxAt s.now h W a with
  | none => (0, 20)
  | some j => if i < (obN s.now j).ws.length then ((obN s.now j).ws.getD i 0, 0) else (0, 20)
def storeX (h W : Nat) (s : St) (a : Int) (i x : Nat) : St := match idxAt s.now h W a with
  | none => s
  | some j => if i < (obN s.now j).ws.length then ⟨s.now.set j { obN s.now j with ws := (obN s.now j).ws.set i x }, s.old⟩ else s
/-- the new address, the error -/
def moveX (h W : Nat) (s : St) (a : Int) : Nat × Nat := match idxAt s.old (1 - h) W a with
  | none => (0, 20)
  | some j => if (obN s.old j).to ≠ 0 then ((obN s.old j).to, 0) else if W < used s.now + (obN s.old j).ws.length + 1 then (0, 21) else ((adr h W (used s.now : Nat)).toNat, 0)
def movedX (h W : Nat) (s : St) (a : Int) : St := match idxAt s.old (1 - h) W a with
  | none => s
  | some j => if (obN s.old j).to ≠ 0 then s else if W < used s.now + (obN s.old j).ws.length + 1 then s else ⟨s.now ++ [obN s.old j], s.old.set j { obN s.old j with to := (adr h W (used s.now : Nat)).toNat }⟩
/-- what a memory keeps of those that it was made of: from a world w on it owns what O did and what was laid since -/
structure MX (w : World) (O : Nat → Prop) (b W h : Nat) (s : St) (wr : World) (R : Nat → Value) : Prop where
  m : Mem wr b W h R s.now s.old
  z : WF W h s.now s.old
  own : ∀ i, Own b R i → O i ∨ w.heap.size ≤ i
  fr : Fr O w wr
section
variable {w wr w1 : World} {O : Nat → Prop} {b W h : Nat} {s : St} {R : Nat → Value}
theorem MX.drewN (x : MX w O b W h s wr R) (n : Nat) : MX w O b W h s (wr.drewN n) R := ⟨x.m.drewN n, x.z, x.own, x.fr.drewN n⟩
theorem MX.lt (x : MX w O b W h s wr R) : ∀ i, Own b R i → i < wr.heap.size := x.m.own_lt
theorem MX.of (m : Mem w b W h R s.now s.old) (z : WF W h s.now s.old) : MX w (Own b R) b W h s w R := ⟨m, z, fun _ h => .inl h, Fr.refl _ _⟩
/-- what does not touch the memory keeps it -/
theorem MX.kept {X : Nat → Prop} (x : MX w O b W h s wr R) (hf : Fr X wr w1) (hn : ∀ i, Own b R i → ¬ X i) (hX : ∀ i, X i → O i ∨ w.heap.size ≤ i) : MX w O b W h s w1 R :=
  ⟨x.m.kept hf hn, x.z, x.own, x.fr.trans hf hX⟩
theorem lookX_any (m : Mem w b W h R s.now s.old) (z : WF W h s.now s.old) (a : Int) (ha : a ≤ 9223372036854775807) :
    Calls Tryd.prog 55 #[.pointer (some ⟨b, 0, none⟩), .int .i64 a] w fun e w' => e = .returned (.tuple #[.int .i64 ((lookX h W s a).1 : Nat), .int .i64 ((lookX h W s a).2.1 : Nat), .int .i64 ((lookX h W s a).2.2.1 : Nat), .int .i64 ((lookX h W s a).2.2.2 : Nat)]) ∧ ∃ n, w' = w.drewN n := by
  unfold lookX
  cases e : idxAt s.now h W a with
  | none => exact look_miss m z a ha e
  | some j => exact look_hit m z a ha e (idx_ob e)
theorem lookX_bd (z : WF W h s.now s.old) (a : Int) : (lookX h W s a).1 ≤ 5 ∧ (lookX h W s a).2.1 ≤ 16384 ∧ (lookX h W s a).2.2.1 ≤ (lookX h W s a).2.1 := by
  unfold lookX
  cases e : idxAt s.now h W a with
  | none => exact ⟨Nat.zero_le _, Nat.zero_le _, Nat.zero_le _⟩
  | some j =>
    have := right_bd (z.okn _ (List.mem_of_getElem? (idx_ob e))).right
    exact ⟨by show (obN s.now j).k ≤ 5; omega, by show (obN s.now j).ws.length ≤ 16384; omega, by show (obN s.now j).t ≤ (obN s.now j).ws.length; omega⟩
theorem loadX_any (m : Mem w b W h R s.now s.old) (z : WF W h s.now s.old) (a : Int) (ha : a ≤ 9223372036854775807) (i : Nat) :
    Calls Tryd.prog 21 #[.pointer (some ⟨b, 0, none⟩), .int .i64 a, .int .i64 i] w fun e w' => e = .returned (.tuple #[.int .u64 ((loadX h W s a i).1 : Nat), .int .i64 ((loadX h W s a i).2 : Nat)]) ∧ ∃ n, w' = w.drewN n := by
  unfold loadX
  cases e : idxAt s.now h W a with
  | none => exact load_err a i (field_miss m z a i ha e)
  | some j =>
    by_cases hi : i < (obN s.now j).ws.length
    · simp only [if_pos hi]
      exact load_hit m z a i ha e (idx_ob e) hi
    · simp only [if_neg hi]
      exact load_err a i (field_bad m z a i ha e (idx_ob e) (.inr (by omega)))
theorem loadX_bd (z : WF W h s.now s.old) (a : Int) (i : Nat) : (loadX h W s a i).1 < 18446744073709551616 := by
  unfold loadX
  cases e : idxAt s.now h W a with
  | none => show 0 < 18446744073709551616; omega
  | some j =>
    simp only []
    split
    · rename_i hi
      have hok := z.okn _ (List.mem_of_getElem? (idx_ob e))
      show (obN s.now j).ws.getD i 0 < _
      rw [List.getD_eq_getElem?_getD, List.getElem?_eq_getElem hi]
      exact hok.word _ (List.getElem_mem hi)
    · show 0 < 18446744073709551616; omega
theorem storeX_wf (z : WF W h s.now s.old) (a : Int) (i x : Nat) (hx : x < 18446744073709551616) : WF W h (storeX h W s a i x).now (storeX h W s a i x).old := by
  unfold storeX
  cases e : idxAt s.now h W a with
  | none => exact z
  | some j =>
    by_cases hi : i < (obN s.now j).ws.length
    · simp only [if_pos hi]
      have := wf_setF (i := i) z (idx_ob e) hx
      rw [setF_eq (idx_ob e)] at this
      exact this
    · simp only [if_neg hi]; exact z
/-- what Store answers is left open -/
theorem storeX_any (x : MX w O b W h s wr R) (a : Int) (ha : a ≤ 9223372036854775807) (i y : Nat) (hy : y < 18446744073709551616) :
    Calls Tryd.prog 43 #[.pointer (some ⟨b, 0, none⟩), .int .i64 a, .int .i64 i, .int .u64 y] wr fun e w' => (∃ q, e = .returned (.int .i64 q)) ∧ MX w O b W h (storeX h W s a i y) w' R ∧ Fr (Own b R) wr w' := by
  have hz := storeX_wf x.z a i y hy
  unfold storeX at hz ⊢
  cases e : idxAt s.now h W a with
  | none =>
    refine (store_err a i y (field_miss x.m x.z a i ha e)).mono ?_
    rintro e w' ⟨rfl, n, rfl⟩
    exact ⟨⟨_, rfl⟩, x.drewN n, (Fr.refl _ _).drewN n⟩
  | some j =>
    by_cases hi : i < (obN s.now j).ws.length
    · simp only [e, if_pos hi] at hz ⊢
      refine (store_hit x.m x.z a i y ha e (idx_ob e) hi).mono ?_
      rintro e w' ⟨rfl, h1, h2⟩
      rw [setF_eq (idx_ob (by assumption))] at h1
      exact ⟨⟨_, rfl⟩, ⟨h1, hz, x.own, x.fr.trans h2 (fun i hi => x.own i hi)⟩, h2⟩
    · simp only [if_neg hi]
      refine (store_err a i y (field_bad x.m x.z a i ha e (idx_ob e) (.inr (by omega)))).mono ?_
      rintro e w' ⟨rfl, n, rfl⟩
      exact ⟨⟨_, rfl⟩, x.drewN n, (Fr.refl _ _).drewN n⟩
theorem movedX_wf (z : WF W h s.now s.old) (a : Int) : WF W h (movedX h W s a).now (movedX h W s a).old := by
  unfold movedX
  cases e : idxAt s.old (1 - h) W a with
  | none => exact z
  | some j =>
    have ho := idx_ob e
    have hok := z.oko _ (List.mem_of_getElem? ho)
    by_cases ht : (obN s.old j).to ≠ 0
    · simp only [if_pos ht]; exact z
    · simp only [if_neg ht]
      by_cases hf : W < used s.now + (obN s.old j).ws.length + 1
      · simp only [if_pos hf]; exact z
      · simp only [if_neg hf]
        have hw := z.w1
        refine ⟨z.w0, z.w1, z.hh, ?_, ?_, ?_, ?_, ?_⟩
        · rw [used_append, used_one]; omega
        · rw [used_congr (sz_set (o' := { obN s.old j with to := (adr h W (used s.now : Nat)).toNat }) ho rfl)]; exact z.uo
        · intro o hm
          rcases List.mem_append.1 hm with q | q
          · exact z.okn o q
          · rw [List.mem_singleton.1 q]; exact hok
        · intro o hm
          rcases List.mem_or_eq_of_mem_set hm with q | q
          · exact z.oko o q
          · rw [q]
            refine ⟨hok.right, ?_, hok.word⟩
            show (adr h W (used s.now : Nat)).toNat ≤ 131072
            unfold adr
            split <;> omega
        · intro o hm
          rcases List.mem_append.1 hm with q | q
          · exact z.fresh o q
          · rw [List.mem_singleton.1 q]; omega
theorem moveX_bd (z : WF W h s.now s.old) (a : Int) : (moveX h W s a).1 ≤ 131073 := by
  unfold moveX
  cases e : idxAt s.old (1 - h) W a with
  | none => exact Nat.zero_le _
  | some j =>
    have hok := z.oko _ (List.mem_of_getElem? (idx_ob e))
    have h1 := hok.to
    have h2 := z.un
    have h3 := z.w1
    simp only []
    split
    · show (obN s.old j).to ≤ _; omega
    · split
      · exact Nat.zero_le _
      · show (adr h W (used s.now : Nat)).toNat ≤ 131073
        unfold adr
        split <;> omega
theorem moveX_any (x : MX w O b W h s wr R) (a : Int) (ha : a ≤ 9223372036854775807) :
    Calls Tryd.prog 71 #[.pointer (some ⟨b, 0, none⟩), .int .i64 a] wr fun e w' => e = .returned (.tuple #[.int .i64 ((moveX h W s a).1 : Nat), .int .i64 ((moveX h W s a).2 : Nat)]) ∧ ∃ R', MX w O b W h (movedX h W s a) w' R' ∧ (∀ i, Own b R' i → Own b R i ∨ wr.heap.size ≤ i) ∧ Fr (Own b R) wr w' := by
  have hz := movedX_wf x.z a
  unfold movedX at hz ⊢
  unfold moveX
  cases e : idxAt s.old (1 - h) W a with
  | none =>
    refine (move_miss x.m x.z a ha e).mono ?_
    rintro e w' ⟨rfl, rfl⟩
    exact ⟨rfl, R, x, fun _ h => .inl h, Fr.refl _ _⟩
  | some j =>
    have ho := idx_ob e
    by_cases ht : (obN s.old j).to ≠ 0
    · simp only [if_pos ht]
      refine (move_done x.m x.z a ha e ho ht).mono ?_
      rintro e w' ⟨rfl, n, rfl⟩
      exact ⟨rfl, R, x.drewN n, fun _ h => .inl h, (Fr.refl _ _).drewN n⟩
    · have ht' : (obN s.old j).to = 0 := by omega
      simp only [e, if_neg ht] at hz ⊢
      by_cases hf : W < used s.now + (obN s.old j).ws.length + 1
      · simp only [if_pos hf]
        refine (move_full x.m x.z a ha e ho ht' (by omega)).mono ?_
        rintro e w' ⟨rfl, n, rfl⟩
        exact ⟨rfl, R, x.drewN n, fun _ h => .inl h, (Fr.refl _ _).drewN n⟩
      · simp only [if_neg hf] at hz ⊢
        refine (move_raw x.m x.z a ha e ho ht' (by omega) (adr h W (used s.now : Nat)).toNat (by unfold adr; split <;> omega)).mono ?_
        rintro e w' ⟨rfl, R', m', hs', hf'⟩
        refine ⟨rfl, R', ⟨m', hz, fun i hi => ?_, x.fr.trans hf' (fun i hi => x.own i hi)⟩, hs', hf'⟩
        rcases hs' i hi with q | q
        · exact x.own i q
        · exact .inr (Nat.le_trans x.fr.size q)
end
end Go.Proofs.YtlakfnlkiebpdaaDoor
