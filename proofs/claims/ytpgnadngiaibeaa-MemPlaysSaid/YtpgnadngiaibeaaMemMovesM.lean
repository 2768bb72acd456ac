/- A memory of which objects are being moved: what has been moved, what has not; Move of any object of it, once and again. Conditions: none. -/
import Derived.Test.YtpgnadngiaibeaaMemMoveK
namespace Go.Proofs.Ytpgnadngiaibeaa
open Go Go.RowKit
/-- the cells of those that were not moved -/
def rest (os : List Ob) : Nat := (os.map fun o => if o.to = 0 then 1 + o.ws.length else 0).sum
theorem rest_set : ∀ (os : List Ob) (j : Nat) (o o' : Ob), os[j]? = some o → o.to = 0 → o'.to ≠ 0 → rest (os.set j o') + (1 + o.ws.length) = rest os
  | [], j, o, _, h, _, _ => by cases h
  | x :: xs, 0, o, o', h, h0, h1 => by
    rw [List.getElem?_cons_zero] at h
    obtain rfl := Option.some.inj h
    simp only [rest, List.set_cons_zero, List.map_cons, List.sum_cons, if_pos h0, if_neg h1]
    omega
  | x :: xs, j + 1, o, o', h, h0, h1 => by
    rw [List.getElem?_cons_succ] at h
    have ih := rest_set xs j o o' h h0 h1
    simp only [rest, List.set_cons_succ, List.map_cons, List.sum_cons] at ih ⊢
    omega
theorem rest_fresh : ∀ (os : List Ob), Fresh os → rest os = used os
  | [], _ => rfl
  | x :: xs, h => by
    have ih := rest_fresh xs (fun o ho => h o (List.mem_cons_of_mem _ ho))
    simp only [rest, used, List.map_cons, List.sum_cons, if_pos (h x (List.mem_cons_self ..))] at ih ⊢
    omega
theorem fresh_fobs (ns : List Nat) : Fresh (fobs ns) := by
  intro o ho
  obtain ⟨i, h1, h2⟩ := List.mem_iff_getElem.1 ho
  rw [← h2]
  simp [fobs, fob]
/-- of the objects of sizes ns some lie in the half 1 anew -/
structure Moved (W : Nat) (ns : List Nat) (now old : List Ob) : Prop where
  sz : sz old = ns
  sum : used now + rest old = used (fobs ns)
  obj : ∀ i (h : i < ns.length), ∃ t : Nat, old[i]? = some { fob i ns[i] with to := t } ∧ (t ≠ 0 → ∃ p, now[p]? = some (fob i ns[i]) ∧ adr 1 W (start now p : Nat) = t)
theorem Moved.init (W : Nat) (ns : List Nat) : Moved W ns [] (fobs ns) :=
  ⟨sz_fobs ns, by rw [rest_fresh _ (fresh_fobs ns)]; simp [used], fun i h => ⟨0, by rw [fobs_get ns h]; rfl, fun q => absurd rfl q⟩⟩
theorem Moved.put {W : Nat} {ns : List Nat} {now old : List Ob} (v : Moved W ns now old) {i : Nat} (hi : i < ns.length) (ho : old[i]? = some (fob i ns[i])) {T : Nat} (hT : adr 1 W (used now : Nat) = T) (hT0 : T ≠ 0) :
    Moved W ns (now ++ [fob i ns[i]]) (old.set i { fob i ns[i] with to := T }) := by
  have hset : ((old.set i { fob i ns[i] with to := T })[i]?) = some { fob i ns[i] with to := T } := set_get ho
  refine ⟨(sz_set (o' := { fob i ns[i] with to := T }) ho rfl).trans v.sz, ?_, fun k hk => ?_⟩
  · have h1 := rest_set old i _ { fob i ns[i] with to := T } ho rfl hT0
    have h2 := v.sum
    rw [used_append, used_one]
    omega
  · by_cases e : k = i
    · subst e
      exact ⟨T, hset, fun _ => ⟨now.length, get_last _ _, by rw [start_append _ _ _ (Nat.le_refl _), start_len, hT]⟩⟩
    · obtain ⟨t, h1, h2⟩ := v.obj k hk
      refine ⟨t, by rw [List.getElem?_set_ne (fun q => e q.symm)]; exact h1, fun ht => ?_⟩
      obtain ⟨p, h3, h4⟩ := h2 ht
      have hp := (List.getElem?_eq_some_iff.1 h3).1
      exact ⟨p, by rw [List.getElem?_append_left hp]; exact h3, by rw [start_append _ _ _ (Nat.le_of_lt hp)]; exact h4⟩
section
variable {w wr : World} {b W : Nat} {R : Nat → Value} {now old : List Ob} {la ls : List Int} {va vs : Value} {ns : List Nat}
/-- an object that was moved: its place, and Move of it once more -/
theorem move_again (f : FRel w b W 1 now old la ls va vs wr R) (v : Moved W ns now old) {i t : Nat} (hi : i < ns.length) (ho : old[i]? = some { fob i ns[i] with to := t }) (ht : t ≠ 0) (A : Int) (hA : ((start (fobs ns) i : Nat) : Int) + 1 = A) (hA2 : A ≤ 9223372036854775807) :
    Calls Try.prog 37 #[.pointer (some ⟨b, 0, none⟩), .int .i64 A] wr fun e w' => e = .returned (.tuple #[.int .i64 t, .int .i64 0]) ∧ FRel w b W 1 now old la ls va vs w' R := by
  refine (move_done f.x.m f.x.z A hA2 (j := i) (idx_start (os := old) (by rw [len_of_sz v.sz]; exact hi) (by rw [start_congr (v.sz.trans (sz_fobs ns).symm)]; exact hA)) ho ht).mono ?_
  rintro e w' ⟨rfl, n, rfl⟩
  exact ⟨rfl, f.drewN n⟩
/-- Move of any object -/
theorem move_at (f : FRel w b W 1 now old la ls va vs wr R) (v : Moved W ns now old) {i : Nat} (hi : i < ns.length) (hu : used (fobs ns) ≤ W) (A : Int) (hA : ((start (fobs ns) i : Nat) : Int) + 1 = A) (hA2 : A ≤ 9223372036854775807) :
    Calls Try.prog 37 #[.pointer (some ⟨b, 0, none⟩), .int .i64 A] wr fun e w' => ∃ (now' old' : List Ob) (R' : Nat → Value) (t p c : Nat), e = .returned (.tuple #[.int .i64 t, .int .i64 0]) ∧ FRel w b W 1 now' old' la ls va vs w' R' ∧ Moved W ns now' old' ∧ old'[i]? = some { fob i ns[i] with to := t } ∧ t ≠ 0 ∧ now'[p]? = some (fob i ns[i]) ∧ start now' p = c ∧ t = W + c + 1 ∧ c + ns[i] < used now' ∧
      ((c < used now ∧ used now' = used now) ∨ (c = used now ∧ used now' = used now + 1 + ns[i])) := by
  obtain ⟨t, ho, h2⟩ := v.obj i hi
  by_cases ht : t = 0
  · subst ht
    have ho' : old[i]? = some (fob i ns[i]) := ho
    have hsum := v.sum
    have hr := rest_set old i _ { fob i ns[i] with to := 1 } ho' rfl Nat.one_ne_zero
    have hfl : (fob i ns[i]).ws.length = ns[i] := fob_len _ _
    have hfit : used now + (fob i ns[i]).ws.length + 1 ≤ W := by omega
    have hT : adr 1 W (used now : Nat) = ((W + used now + 1 : Nat) : Int) := by rw [adr_1]; omega
    refine (move_raw f.x.m f.x.z A hA2 (j := i) (idx_start (os := old) (by rw [len_of_sz v.sz]; exact hi) (by rw [start_congr (v.sz.trans (sz_fobs ns).symm)]; exact hA)) ho' rfl hfit _ hT).mono ?_
    rintro e w' ⟨rfl, R', m', hs', hf'⟩
    have v' := v.put hi ho' hT (by omega)
    have hok := f.x.z.oko _ (List.mem_of_getElem? ho')
    have hW1 := f.x.z.w1
    have z' : WF W 1 (now ++ [fob i ns[i]]) (old.set i { fob i ns[i] with to := W + used now + 1 }) := by
      refine ⟨f.x.z.w0, hW1, f.x.z.hh, ?_, ?_, ?_, ?_, ?_⟩
      · rw [used_append, used_one]; omega
      · rw [used_congr (v'.sz.trans (sz_fobs ns).symm)]; exact hu
      · intro o hm
        rcases List.mem_append.1 hm with a | a
        · exact f.x.z.okn o a
        · rw [List.mem_singleton.1 a]; exact hok
      · intro o hm
        rcases List.mem_or_eq_of_mem_set hm with a | a
        · exact f.x.z.oko o a
        · rw [a]
          exact ⟨hok.right, by show W + used now + 1 ≤ 131072; omega, hok.word⟩
      · intro o hm
        rcases List.mem_append.1 hm with a | a
        · exact f.x.z.fresh o a
        · rw [List.mem_singleton.1 a]; rfl
    refine ⟨_, _, R', _, now.length, used now, rfl, f.next m' z' hs' hf', v', set_get ho', by omega, get_last _ _, by rw [start_append _ _ _ (Nat.le_refl _), start_len], rfl, by rw [used_append, used_one]; omega, .inr ⟨rfl, by rw [used_append, used_one]; omega⟩⟩
  · obtain ⟨p, h3, h4⟩ := h2 ht
    have hp := (List.getElem?_eq_some_iff.1 h3).1
    have hlt := start_lt now hp
    have he : now[p] = fob i ns[i] := (List.getElem?_eq_some_iff.1 h3).2
    rw [he, fob_len] at hlt
    rw [adr_1] at h4
    refine (move_again f v hi ho ht A hA hA2).mono ?_
    rintro e w' ⟨rfl, f'⟩
    exact ⟨now, old, R, t, p, start now p, rfl, f', v, ho, ht, h3, rfl, by omega, hlt, .inl ⟨by omega, rfl⟩⟩
end
end Go.Proofs.Ytpgnadngiaibeaa
