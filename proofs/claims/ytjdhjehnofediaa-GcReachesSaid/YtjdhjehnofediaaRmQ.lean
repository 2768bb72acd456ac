/- Contracts of what only reads the document's memory: Find, Used, Next, Free, Look, Load. Conditions: the memory lies as RM says. -/
import Derived.Test.YtjdhjehnofediaaRmM
namespace Go.Proofs.Ytjdhjehnofediaa
open Go Go.RowKit
section
variable {w : World} {v : Value} {P : List (RO × Value)}
set_option maxRecDepth 100000 in
set_option maxHeartbeats 1000000 in
theorem rfind_any (l : RL w v P) (hn : P.length ≤ 1000000) (a : Int) : Calls Try.prog 63 #[v, .int .i64 a] w fun e w' => e = .returned (.int .i64 (fint (fidx P a))) ∧ w' = w := by
  obtain ⟨ad, cap, rfl, hc1, hc2⟩ := own_shape5 l.row
  obtain ⟨N, hN⟩ : ∃ N, P.length = N := ⟨_, rfl⟩
  have HN := Lib.hid hN
  rw [hN] at hc1 hn
  have HL := Lib.hid l
  rw [hN]
  clear l hN
  go_enter Try.func63, Try.ntmps63
  go_wp2_with fail
  go_loop [5] (fun i => ∃ k : Nat, k ≤ N ∧ i = .int .i64 k ∧ Ahead P a k) (fun i => N - (intOf i).toNat)
  case atStart => exact ⟨0, Nat.zero_le _, rfl, fun j p hj => by omega⟩
  case round =>
    obtain ⟨k, hk, rfl, hA⟩ := hrel
    have HA := Lib.hid hA
    clear hA
    by_cases hlt : k < N
    · have hkP : k < P.length := by rw [HN.out]; exact hlt
      have hp : P[k]? = some P[k] := List.getElem?_eq_getElem hkP
      obtain ⟨p, hpe⟩ : ∃ p, P[k] = p := ⟨_, rfl⟩
      rw [hpe] at hp
      obtain ⟨g, cap', hv, _, _, _, A⟩ := HL.out.at hp
      injection hv with e1 _ _
      subst e1
      have hc := A.c0
      obtain ⟨x, hx⟩ : ∃ x, p.1.at_ = x := ⟨_, rfl⟩
      rw [hx] at hc
      have HX := Lib.hid hx
      have HP := Lib.hid hp
      clear hp hpe A hx
      by_cases hxa : x = a
      · subst hxa
        have hb : (x == x) = true := beqT rfl
        go_wp2_with fail
        go_ret
        exact ⟨ret_int (by rw [fidx_hit HA.out HP.out HX.out]; rfl), rfl⟩
      · have hb : (x == a) = false := beqF hxa
        have HXA := Lib.hid hxa
        clear hxa
        go_wp2_with fail
        go_round
        case rel => exact ⟨k + 1, by omega, by go_num, fun j q hj hq => by
          by_cases e : j = k
          · subst e
            rw [HP.out] at hq
            obtain rfl := Option.some.inj hq
            rw [HX.out]; exact HXA.out
          · exact HA.out j q (by omega) hq⟩
        case measure => simp [intOf]; omega
    · obtain rfl : k = N := by omega
      go_wp2_with fail
      go_ret
      exact ⟨ret_int (by rw [fidx_miss (by rw [HN.out]; exact HA.out)]; rfl), rfl⟩
set_option maxRecDepth 100000 in
set_option maxHeartbeats 1000000 in
theorem used_any (l : RL w v P) (hu : usedP P ≤ 1000000) : Calls Try.prog 85 #[v] w fun e w' => e = .returned (.int .i64 (usedP P : Nat)) ∧ w' = w := by
  obtain ⟨ad, cap, rfl, hc1, hc2⟩ := own_shape5 l.row
  obtain ⟨N, hN⟩ : ∃ N, P.length = N := ⟨_, rfl⟩
  have hn := length_le_usedP P
  have HN := Lib.hid hN
  have HU := Lib.hid hu
  rw [hN] at hc1 hn
  have hN2 : N ≤ 1000000 := by omega
  have HL := Lib.hid l
  rw [hN]
  clear l hN hu hn
  go_enter Try.func85, Try.ntmps85
  go_wp2_with fail
  go_loop [3, 4] (fun n i => ∃ k m : Nat, k ≤ N ∧ i = .int .i64 k ∧ n = .int .i64 m ∧ usedP (P.take k) = m) (fun _ i => N - (intOf i).toNat)
  case atStart => exact ⟨0, 0, Nat.zero_le _, rfl, rfl, by simp [usedP]⟩
  case round =>
    obtain ⟨k, m, hk, rfl, rfl, hm⟩ := hrel
    have hmu : m ≤ 1000000 := by have := usedP_take_le P k; have := HU.out; omega
    have HM := Lib.hid hm
    clear hm
    by_cases hlt : k < N
    · have hkP : k < P.length := by rw [HN.out]; exact hlt
      have hp : P[k]? = some P[k] := List.getElem?_eq_getElem hkP
      have hmem : P[k] ∈ P := List.getElem_mem hkP
      obtain ⟨p, hpe⟩ : ∃ p, P[k] = p := ⟨_, rfl⟩
      rw [hpe] at hp hmem
      obtain ⟨g, cap', hv, _, _, _, A⟩ := HL.out.at hp
      injection hv with e1 _ _
      subst e1
      have hc := A.c3
      obtain ⟨ua, uc, hue, hu1, hu2⟩ := own_shape5 (HL.out.ws p hmem)
      rw [hue] at hc
      obtain ⟨z, hz⟩ : ∃ z, p.1.ws.length = z := ⟨_, rfl⟩
      rw [hz] at hc hu1
      have hzs : m + (1 + z) ≤ 1000000 := by
        have h1 := usedP_take_succ hp
        have h2 := usedP_take_le P (k + 1)
        have h3 := HU.out
        have h4 := HM.out
        omega
      have HS := Lib.hid (show usedP (P.take (k + 1)) = m + (1 + z) from by rw [usedP_take_succ hp, HM.out, hz])
      clear hp hpe A hmem hue hz
      go_wp2_with fail
      go_round
      case rel => exact ⟨k + 1, m + (1 + z), by omega, by go_num, by go_num, HS.out⟩
      case measure => simp [intOf]; omega
    · obtain rfl : k = N := by omega
      go_wp2_with fail
      go_ret
      exact ⟨ret_int (by rw [← HM.out, ← HN.out, List.take_length]), rfl⟩
end
/-- the document's memory at b -/
structure RM (w : World) (b W h : Nat) (v1 : Value) (P1 : List (RO × Value)) (v2 : Value) (P2 : List (RO × Value)) : Prop where
  blk : w.heap[b]? = some (.cells #[.int .i64 W, .int .i64 h, v1, v2] 30 (0, 0))
  l1 : RL w v1 P1
  l2 : RL w v2 P2
  n1 : ¬ OwnL v1 P1 b
  n2 : ¬ OwnL v2 P2 b
  n3 : ∀ i, OwnL v1 P1 i → ¬ OwnL v2 P2 i
def OwnR (b : Nat) (v1 : Value) (P1 : List (RO × Value)) (v2 : Value) (P2 : List (RO × Value)) (i : Nat) : Prop := i = b ∨ OwnL v1 P1 i ∨ OwnL v2 P2 i
structure RZ (W h : Nat) (P1 P2 : List (RO × Value)) : Prop where
  w1 : W ≤ 65536
  hh : h < 2
  u1 : usedP P1 ≤ 65536
  u2 : usedP P2 ≤ 65536
section
variable {w w1 : World} {b W h : Nat} {v1 v2 : Value} {P1 P2 : List (RO × Value)}
theorem RM.lt (m : RM w b W h v1 P1 v2 P2) : b < w.heap.size := (Array.getElem?_eq_some_iff.1 m.blk).1
theorem RM.own_lt (m : RM w b W h v1 P1 v2 P2) : ∀ i, OwnR b v1 P1 v2 P2 i → i < w.heap.size := by
  rintro i (rfl | a | a)
  · exact m.lt
  · exact m.l1.lt i a
  · exact m.l2.lt i a
theorem RM.kept {O : Nat → Prop} (m : RM w b W h v1 P1 v2 P2) (hf : Fr O w w1) (hn : ∀ i, OwnR b v1 P1 v2 P2 i → ¬ O i) : RM w1 b W h v1 P1 v2 P2 :=
  ⟨(hf.block b m.lt (hn b (.inl rfl))).trans m.blk, m.l1.kept hf (fun i hi => hn i (.inr (.inl hi))), m.l2.kept hf (fun i hi => hn i (.inr (.inr hi))), m.n1, m.n2, m.n3⟩
theorem RM.drewN (m : RM w b W h v1 P1 v2 P2) (n : Nat) : RM (w.drewN n) b W h v1 P1 v2 P2 := m.kept ((Fr.refl (fun _ => False) w).drewN n) (fun _ _ => id)
theorem RM.below (m : RM w b W h v1 P1 v2 P2) (hb : Below w.heap.size w w1) : RM w1 b W h v1 P1 v2 P2 := m.kept (Fr.of_below (O := fun _ => False) hb) (fun _ _ => id)
theorem RM.c0 (m : RM w b W h v1 P1 v2 P2) : w.cell? ⟨b, 0, none⟩ = some (.int .i64 W) := blk_cell m.blk 0
theorem RM.c1 (m : RM w b W h v1 P1 v2 P2) : w.cell? ⟨b, 1, none⟩ = some (.int .i64 h) := blk_cell m.blk 1
theorem RM.c2 (m : RM w b W h v1 P1 v2 P2) : w.cell? ⟨b, 2, none⟩ = some v1 := blk_cell m.blk 2
theorem RM.c3 (m : RM w b W h v1 P1 v2 P2) : w.cell? ⟨b, 3, none⟩ = some v2 := blk_cell m.blk 3
theorem RM.fz (m : RM w b W h v1 P1 v2 P2) : ∀ i, w.frozen? ⟨b, i, none⟩ = false := blk_free m.blk
set_option maxRecDepth 100000 in
set_option maxHeartbeats 1000000 in
theorem rnext_any (m : RM w b W h v1 P1 v2 P2) (z : RZ W h P1 P2) : Calls Try.prog 61 #[.pointer (some ⟨b, 0, none⟩)] w fun e w' => e = .returned (.int .i64 (adr h W (usedP P1))) ∧ ∃ n, w' = w.drewN n := by
  have c0 := m.c0
  have c1 := m.c1
  have c2 := m.c2
  have hU := fun n => used_any (m.l1.drewN n) (Nat.le_trans z.u1 (by decide))
  have HU := Lib.hid hU
  have hu := z.u1
  have hw := z.w1
  have hh := z.hh
  obtain ⟨u, hue⟩ : ∃ u, usedP P1 = u := ⟨_, rfl⟩
  rw [hue] at HU hu ⊢
  clear m z hU hue
  have hh' : h = 0 ∨ h = 1 := by omega
  rcases hh' with rfl | rfl
  · have q1 : IntKind.i64.wrap (((0 : Nat) : Int) * W) = 0 := by rw [IntKind.wrap_i64]; simp
    have q2 : IntKind.i64.wrap (1 + (0 : Int)) = 1 := by decide
    have q3 : IntKind.i64.wrap (1 + (u : Int)) = 1 + u := by rw [IntKind.wrap_i64]; omega
    go_enter Try.func61, Try.ntmps61
    go_wp2_with fail
    go_quiet ((go_at_call 85; refine Calls.quiet_of_same (HU.out _)))
    go_wp2_with fail
    go_ret
    exact ⟨ret_int (by rw [adr_0]; omega), _, rfl⟩
  · have q1 : IntKind.i64.wrap (((1 : Nat) : Int) * W) = W := by rw [IntKind.wrap_i64]; omega
    have q2 : IntKind.i64.wrap (1 + (W : Int)) = 1 + W := by rw [IntKind.wrap_i64]; omega
    have q3 : IntKind.i64.wrap (1 + (W : Int) + (u : Int)) = 1 + W + u := by rw [IntKind.wrap_i64]; omega
    go_enter Try.func61, Try.ntmps61
    go_wp2_with fail
    go_quiet ((go_at_call 85; refine Calls.quiet_of_same (HU.out _)))
    go_wp2_with fail
    go_ret
    exact ⟨ret_int (by rw [adr_1]; omega), _, rfl⟩
set_option maxRecDepth 100000 in
set_option maxHeartbeats 1000000 in
theorem rfree_any (m : RM w b W h v1 P1 v2 P2) (z : RZ W h P1 P2) : Calls Try.prog 62 #[.pointer (some ⟨b, 0, none⟩)] w fun e w' => e = .returned (.int .i64 ((W : Int) - usedP P1)) ∧ ∃ n, w' = w.drewN n := by
  have c0 := m.c0
  have c2 := m.c2
  have hU := fun n => used_any (m.l1.drewN n) (Nat.le_trans z.u1 (by decide))
  have HU := Lib.hid hU
  have hu := z.u1
  have hw := z.w1
  obtain ⟨u, hue⟩ : ∃ u, usedP P1 = u := ⟨_, rfl⟩
  rw [hue] at HU hu ⊢
  clear m z hU hue
  have q3 : IntKind.i64.wrap ((W : Int) - (u : Int)) = W - u := by rw [IntKind.wrap_i64]; omega
  go_enter Try.func62, Try.ntmps62
  go_wp2_with fail
  go_quiet ((go_at_call 85; refine Calls.quiet_of_same (HU.out _)))
  go_wp2_with fail
  go_ret
  exact ⟨rfl, _, rfl⟩
end
end Go.Proofs.Ytjdhjehnofediaa
