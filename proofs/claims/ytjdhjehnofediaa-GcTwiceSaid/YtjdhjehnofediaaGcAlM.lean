/- alike of two addresses of which the first is no object's: false. Conditions: the memories lie as Mem says. -/
import Derived.Test.YtjdhjehnofediaaGcTw
namespace Go.Proofs.Ytjdhjehnofediaa
open Go Go.RowKit
set_option maxRecDepth 100000 in
set_option maxHeartbeats 4000000 in
theorem alike_miss {w : World} {b1 b2 W h h2 : Nat} {s s2 : St} {R1 R2 : Nat → Value} (m1 : Mem w b1 W h R1 s.now s.old) (z1 : WF W h s.now s.old) (m2 : Mem w b2 W h2 R2 s2.now s2.old) (z2 : WF W h2 s2.now s2.old) {a b : Nat} (ha : a < 18446744073709551616) (hb : b < 18446744073709551616) (hod : a % 2 ≠ 1) (hob : b % 2 ≠ 1) (he : (lookX h W s (toP a)).2.2.2 ≠ 0) :
    Calls Try.prog 33 #[.pointer (some ⟨b1, 0, none⟩), .int .u64 (a : Int), .pointer (some ⟨b2, 0, none⟩), .int .u64 (b : Int)] w fun e w' => e = .returned (.bool false) ∧ ∃ n, w' = w.drewN n := by
  have HIa := Lib.hid (fun W1 => refisint_any (a : Int) W1 (by omega) (by omega))
  have HIb := Lib.hid (fun W1 => refisint_any (b : Int) W1 (by omega) (by omega))
  have q0 : isIntB (a : Int) = false := by unfold isIntB; simpa using by omega
  have q1 : isIntB (b : Int) = false := by unfold isIntB; simpa using by omega
  rw [q0] at HIa
  rw [q1] at HIb
  have HTa := Lib.hid (fun W1 => reftoptr_any (a : Int) W1 (by omega) (by omega))
  have HTb := Lib.hid (fun W1 => reftoptr_any (b : Int) W1 (by omega) (by omega))
  have pa := toP_le (a : Int)
  have pb := toP_le (b : Int)
  obtain ⟨P, hP⟩ : ∃ P, toP (a : Int) = P := ⟨_, rfl⟩
  obtain ⟨Q, hQ⟩ : ∃ Q, toP (b : Int) = Q := ⟨_, rfl⟩
  rw [hP] at HTa he pa
  rw [hQ] at HTb pb
  have HL1 := Lib.hid (fun n => lookX_any (m1.drewN n) z1 P (by omega))
  have HL2 := Lib.hid (fun n => lookX_any (m2.drewN n) z2 Q (by omega))
  obtain ⟨E, hE⟩ : ∃ u, (lookX h W s P).2.2.2 = u := ⟨_, rfl⟩
  rw [hE] at HL1 he
  have hEn : ((E : Int) != 0) = true := by simp; omega
  generalize (lookX h W s P).1 = u1 at HL1
  generalize (lookX h W s P).2.1 = u2 at HL1
  generalize (lookX h W s P).2.2.1 = u3 at HL1
  generalize (lookX h2 W s2 Q).1 = v1 at HL2
  generalize (lookX h2 W s2 Q).2.1 = v2 at HL2
  generalize (lookX h2 W s2 Q).2.2.1 = v3 at HL2
  generalize (lookX h2 W s2 Q).2.2.2 = v4 at HL2
  clear m1 m2 z1 z2 he hP hQ hE q0 q1
  go_enter Try.func33, Try.ntmps33
  go_wp2_with fail
  refine (HIa.out _).mono ?_
  rintro e w1 ⟨rfl, hw⟩
  subst hw
  go_wp2_with fail
  refine (HIb.out _).mono ?_
  rintro e w1 ⟨rfl, hw⟩
  subst hw
  go_wp2_with fail
  refine (HTa.out _).mono ?_
  rintro e w1 ⟨rfl, hw⟩
  subst hw
  go_wp2_with fail
  refine (HL1.out 0).mono ?_
  rintro e w1 ⟨rfl, n1, hw1⟩
  have HW1 := Lib.hid (show ∃ n, w1 = w.drewN n from ⟨0 + n1, by rw [hw1, World.drewN_drewN]⟩)
  clear hw1
  go_wp2_with fail
  refine (HTb.out _).mono ?_
  rintro e w2 ⟨rfl, hw⟩
  subst hw
  have hl2 : Calls Try.prog 39 #[.pointer (some ⟨b2, 0, none⟩), .int .i64 Q] w1 fun e w' => e = .returned (.tuple #[.int .i64 (v1 : Int), .int .i64 (v2 : Int), .int .i64 (v3 : Int), .int .i64 (v4 : Int)]) ∧ ∃ n, w' = w1.drewN n := by
    obtain ⟨n, hn⟩ := HW1.out
    rw [hn]; exact HL2.out n
  have HL2' := Lib.hid hl2
  clear hl2 HL1 HL2
  go_wp2_with fail
  refine HL2'.out.mono ?_
  rintro e w2 ⟨rfl, n2, hw2⟩
  have HW2 := Lib.hid (show ∃ n, w2 = w.drewN n from by obtain ⟨n, hn⟩ := HW1.out; exact ⟨n + n2, by rw [hw2, hn, World.drewN_drewN]⟩)
  clear hw2 HL2'
  go_wp2_with fail
  go_ret
  exact ⟨rfl, HW2.out⟩
/-- where no object begins a look finds nothing -/
theorem look_end {h W : Nat} {s : St} : (lookX h W s (adr h W (used s.now : Nat))).2.2.2 ≠ 0 := by
  unfold lookX
  cases e : idxAt s.now h W (adr h W (used s.now : Nat)) with
  | none => simp
  | some j =>
    obtain ⟨h1, h2⟩ := idxAt_some e
    have h3 := start_lt s.now h1
    unfold adr at h2
    omega
theorem start_big (os : List Ob) {x : Nat} (hx : os.length ≤ x) : start os x = used os := by unfold start; rw [List.take_of_length_le hx]
/-- behind the last object: an address that is no object's, and its fellow -/
theorem tw_end {now o1 : List Ob} {W : Nat} {met : List Nat} (hu : used (newF 0 W now met) ≤ W) (hW : W ≤ 65536) {x : Nat} (hx : met.length ≤ x) :
    ∃ u v : Nat, ptrW (objA 1 W (newF 0 W now met) x) = u ∧ ptrW (objA 1 W (newF 0 W now met) x - W) = v ∧ u < 18446744073709551616 ∧ v < 18446744073709551616 ∧ u % 2 ≠ 1 ∧ v % 2 ≠ 1 ∧ (lookX 1 W ⟨newF 0 W now met, o1⟩ (toP u)).2.2.2 ≠ 0 := by
  obtain ⟨U, hU⟩ : ∃ U, used (newF 0 W now met) = U := ⟨_, rfl⟩
  have e1 : objA 1 W (newF 0 W now met) x = ((W + U + 1 : Nat) : Int) := by
    unfold objA
    rw [start_big _ (by rw [newF_length]; exact hx), adr_1, hU]; omega
  rw [hU] at hu
  refine ⟨2 * (W + U + 1), 2 * (U + 1), ?_, ?_, by omega, by omega, by omega, by omega, ?_⟩
  · rw [e1]; unfold ptrW; rw [if_pos (by omega)]; omega
  · rw [e1]; unfold ptrW; rw [if_pos (by omega)]; omega
  · rw [toP_two (by omega) (by omega)]
    have := look_end (h := 1) (W := W) (s := ⟨newF 0 W now met, o1⟩)
    rw [adr_1] at this
    simp only [hU] at this
    rw [show ((W + U + 1 : Nat) : Int) = (W : Int) + U + 1 by omega]
    exact this
end Go.Proofs.Ytjdhjehnofediaa
