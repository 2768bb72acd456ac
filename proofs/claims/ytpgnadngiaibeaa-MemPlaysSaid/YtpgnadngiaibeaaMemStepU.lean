/- step: Store. Conditions: the memories lie as Twin says. -/
import Derived.Test.YtpgnadngiaibeaaMemStepV
namespace Go.Proofs.Ytpgnadngiaibeaa
open Go Go.RowKit
/-- the box of step's operation stays -/
structure SX (g : Nat) (A B C X : Int) (W' : World) : Prop where
  blk : W'.heap[g]? = some (.cells #[.int .i64 4, .int .i64 A, .int .i64 B, .int .i64 C, .int .u64 X] 42 (0, 0))
theorem SX.all {g : Nat} {A B C X : Int} {W' : World} (s : SX g A B C X W') : W'.cell? ⟨g, 1, none⟩ = some (.int .i64 A) ∧ W'.cell? ⟨g, 2, none⟩ = some (.int .i64 B) ∧ W'.cell? ⟨g, 4, none⟩ = some (.int .u64 X) ∧ SX g A B C X W' := ⟨blk_cell s.blk 1, blk_cell s.blk 2, blk_cell s.blk 4, s⟩
theorem SX.of_all {g : Nat} {A B C X : Int} {W' : World} (s : W'.cell? ⟨g, 1, none⟩ = some (.int .i64 A) ∧ W'.cell? ⟨g, 2, none⟩ = some (.int .i64 B) ∧ W'.cell? ⟨g, 4, none⟩ = some (.int .u64 X) ∧ SX g A B C X W') : SX g A B C X W' := s.2.2.2
theorem SX.fr {g : Nat} {A B C X : Int} {W' W2 : World} {O : Nat → Prop} (s : SX g A B C X W') (hf : Fr O W' W2) (hn : ¬ O g) : SX g A B C X W2 := ⟨(hf.block g (Array.getElem?_eq_some_iff.1 s.blk).1 hn).trans s.blk⟩
theorem SX.drewN {g : Nat} {A B C X : Int} {W' : World} (s : SX g A B C X W') (n : Nat) : SX g A B C X (W'.drewN n) := s.fr ((Fr.refl (fun _ => False) _).drewN n) (fun h => h)
section
variable {w : World} {b rb W h : Nat} {R : Nat → Value} {now old : List Ob} {v1 v2 : Value} {P1 P2 : List (RO × Value)}
theorem below_drew {w1 : World} (hb : Below w.heap.size w w1) : Below w.heap.size w w1.drew := hb.drew
set_option maxRecDepth 100000 in
set_option maxHeartbeats 8000000 in
/-- the call where nothing is stored -/
theorem step_store_no (t : Twin w b rb W h R now old v1 P1 v2 P2) (A B C X : Int)
    (hr1 : ∀ W1, Below w.heap.size w W1 → Calls Try.prog 32 #[.pointer (some ⟨b, 0, none⟩), .int .i64 A, .int .i64 B, .int .u64 X] W1 fun e w' => e = .returned (.int .i64 20) ∧ ∃ n, w' = W1.drewN n)
    (hr2 : ∀ W1, Below w.heap.size w W1 → Calls Try.prog 48 #[.pointer (some ⟨rb, 0, none⟩), .int .i64 A, .int .i64 B, .int .u64 X] W1 fun e w' => e = .returned (.int .i64 20) ∧ w' = W1) :
    Calls Try.prog 23 #[.pointer (some ⟨b, 0, none⟩), .pointer (some ⟨rb, 0, none⟩), .agg #[.int .i64 4, .int .i64 A, .int .i64 B, .int .i64 C, .int .u64 X]] w fun e w' => e = .returned (.bool true) ∧ TS w (OwnT b rb R v1 P1 v2 P2) w' b rb W := by
  have HT := Lib.hid t
  have H1 := Lib.hid hr1
  have H2 := Lib.hid hr2
  clear t hr1 hr2
  go_enter Try.func23, Try.ntmps23
  go_wp2_with fail
  have hs0 := alloc_below w (.cells #[.int .i64 4, .int .i64 A, .int .i64 B, .int .i64 C, .int .u64 X] 42)
  have hx0 : SX w.heap.size A B C X (w.alloc (.cells #[.int .i64 4, .int .i64 A, .int .i64 B, .int .i64 C, .int .u64 X] 42)) := ⟨heap_alloc_new w _⟩
  obtain ⟨w1, hw1⟩ : ∃ w1, w.alloc (.cells #[.int .i64 4, .int .i64 A, .int .i64 B, .int .i64 C, .int .u64 X] 42) = w1 := ⟨_, rfl⟩
  rw [hw1] at hs0 hx0 ⊢
  have hs1 := hs0.drew
  have hx1 : SX w.heap.size A B C X w1.drew := ⟨hx0.blk⟩
  clear hw1
  go_region_held3 (fun W' => W'.cell? ⟨w.heap.size, 1, none⟩ = some (.int .i64 A) ∧ W'.cell? ⟨w.heap.size, 2, none⟩ = some (.int .i64 B) ∧ W'.cell? ⟨w.heap.size, 4, none⟩ = some (.int .u64 X) ∧ SX w.heap.size A B C X W')
    (first | assumption | exact SX.all (by assumption))
    (first
      | (go_at_call 32; refine (H1.out _ (by assumption)).mono ?_; rintro e wa ⟨rfl, na, hwa⟩; have hya : SX w.heap.size A B C X wa := by rw [hwa]; exact SX.drewN (SX.of_all (by assumption)) na
         have hsa : Below w.heap.size w wa := by rw [hwa]; exact below_drewN hs1 na
         clear hwa)
      | (go_at_call 48; refine (H2.out _ (by assumption)).mono ?_; rintro e wb ⟨rfl, rfl⟩))
  go_wp2_with fail
  go_ret
  exact ⟨rfl, (TS.of HT.out).below hsa⟩
set_option maxRecDepth 100000 in
set_option maxHeartbeats 8000000 in
/-- the call where a word is stored -/
theorem step_store_yes (t : Twin w b rb W h R now old v1 P1 v2 P2) (A C : Int) (i x j : Nat) (o : Ob) (hA : A ≤ 9223372036854775807) (hx : x < 18446744073709551616) (hi : idxAt now h W A = some j) (ho : now[j]? = some o) (hlt : i < o.ws.length) :
    Calls Try.prog 23 #[.pointer (some ⟨b, 0, none⟩), .pointer (some ⟨rb, 0, none⟩), .agg #[.int .i64 4, .int .i64 A, .int .i64 i, .int .i64 C, .int .u64 x]] w fun e w' => e = .returned (.bool true) ∧ TS w (OwnT b rb R v1 P1 v2 P2) w' b rb W := by
  obtain ⟨u, hp⟩ := P_get t.e1 ho
  have hr1 := fun W1 (hb : Below w.heap.size w W1) => store_hit (t.below hb).m t.z A i x hA hi ho hlt
  have hr2 := fun W1 (m : RM W1 rb W h v1 P1 v2 P2) => rstore_hit m t.rz A i x (by rw [P_idx t.e1]; exact hi) hp hlt
  have HT := Lib.hid t
  have H1 := Lib.hid hr1
  have H2 := Lib.hid hr2
  have HO := Lib.hid ho
  have HP := Lib.hid hp
  have HX := Lib.hid hx
  have HL := Lib.hid hlt
  have HOL := Lib.hid (fun k (q : OwnT b rb R v1 P1 v2 P2 k) (e : w.heap.size = k) => by have := t.own_lt k q; omega : ∀ k, OwnT b rb R v1 P1 v2 P2 k → ¬ w.heap.size = k)
  clear t hr1 hr2 hi ho hp hx hlt hA
  go_enter Try.func23, Try.ntmps23
  go_wp2_with fail
  have hs0 := alloc_below w (.cells #[.int .i64 4, .int .i64 A, .int .i64 i, .int .i64 C, .int .u64 x] 42)
  have hx0 : SX w.heap.size A i C x (w.alloc (.cells #[.int .i64 4, .int .i64 A, .int .i64 i, .int .i64 C, .int .u64 x] 42)) := ⟨heap_alloc_new w _⟩
  obtain ⟨w1, hw1⟩ : ∃ w1, w.alloc (.cells #[.int .i64 4, .int .i64 A, .int .i64 i, .int .i64 C, .int .u64 x] 42) = w1 := ⟨_, rfl⟩
  rw [hw1] at hs0 hx0 ⊢
  have hs1 := hs0.drew
  have hx1 : SX w.heap.size A i C x w1.drew := ⟨hx0.blk⟩
  clear hw1
  go_region_held3 (fun W' => W'.cell? ⟨w.heap.size, 1, none⟩ = some (.int .i64 A) ∧ W'.cell? ⟨w.heap.size, 2, none⟩ = some (.int .i64 (i : Int)) ∧ W'.cell? ⟨w.heap.size, 4, none⟩ = some (.int .u64 (x : Int)) ∧ SX w.heap.size A i C x W')
    (first | assumption | exact SX.all (by assumption))
    (first
      | (go_at_call 32; refine (H1.out _ (by assumption)).mono ?_; rintro e wa ⟨rfl, ma, fa⟩; have hya : SX w.heap.size A i C x wa := SX.fr (SX.of_all (by assumption)) fa (fun q => HOL.out _ (.inl q) rfl)
         have ra : RM wa rb W h v1 P1 v2 P2 := (HT.out.below hs1).r.kept fa (fun k hk hb => HT.out.ap k hb hk))
      | (go_at_call 48; refine (H2.out _ (by assumption)).mono ?_; rintro e wb ⟨rfl, rb', fb⟩; have hyb : SX w.heap.size A i C x wb := SX.fr (SX.of_all (by assumption)) fb (fun q => HOL.out _ (.inr q) rfl)))
  have HS := Lib.hid (((HT.out.below hs1).store HO.out HP.out HL.out HX.out ma fa rb' fb).pre hs1)
  clear ma fa rb' fb hs0 hs1 hx0 hx1 hya ra hyb
  go_wp2_with fail
  go_ret
  exact ⟨rfl, HS.out⟩
theorem step_store (t : Twin w b rb W h R now old v1 P1 v2 P2) : StepOf 4 w b rb W (OwnT b rb R v1 P1 v2 P2) := by
  intro A B C X hA hX0 hX1
  cases hi : idxAt now h W A with
  | none =>
    exact step_store_no t A B C X (fun W1 hb => store_err (b := b) (w := W1) A B X (field_miss (t.below hb).m t.z A B hA hi)) (fun W1 hb => rstore_miss (t.below hb).r t.rz A B X (by rw [P_idx t.e1]; exact hi))
  | some j =>
    have ho := List.getElem?_eq_getElem (idxAt_some hi).1
    obtain ⟨u, hp⟩ := P_get t.e1 ho
    by_cases hbad : B < 0 ∨ ((now[j]'(idxAt_some hi).1).ws.length : Int) ≤ B
    · exact step_store_no t A B C X (fun W1 hb => store_err (b := b) (w := W1) A B X (field_bad (t.below hb).m t.z A B hA hi ho hbad)) (fun W1 hb => rstore_bad (t.below hb).r t.rz A B X (by rw [P_idx t.e1]; exact hi) hp hbad)
    · obtain ⟨i, rfl⟩ := Int.eq_ofNat_of_zero_le (show 0 ≤ B by omega)
      obtain ⟨x, rfl⟩ := Int.eq_ofNat_of_zero_le hX0
      exact step_store_yes t A C i x j _ hA (by omega) hi ho (by omega)
/-- step, whatever is asked -/
theorem step_any (t : Twin w b rb W h R now old v1 P1 v2 P2) (kind : Int) : StepOf kind w b rb W (OwnT b rb R v1 P1 v2 P2) := by
  by_cases h1 : kind = 1
  · subst h1; exact step_alloc t
  by_cases h2 : kind = 2
  · subst h2; exact step_look t
  by_cases h3 : kind = 3
  · subst h3; exact step_load t
  by_cases h4 : kind = 4
  · subst h4; exact step_store t
  by_cases h5 : kind = 5
  · subst h5; exact step_flip t
  by_cases h6 : kind = 6
  · subst h6; exact step_move t
  by_cases h9 : kind = 9
  · subst h9; exact step_whole t
  exact step_else t kind h1 h2 h3 h4 h5 h6 h9
end
end Go.Proofs.Ytpgnadngiaibeaa
