/- Contracts of after and of the objects told one by one. Conditions: the memory lies as Mem says. -/
import Derived.RangeFuncBox
import Derived.RangeFuncLeaves
import Derived.RangeFuncNested
import Derived.Shelf.Abstract
import Derived.OwnWalkIn
import Derived.TacticsInMore
import Derived.LoopNIn
import Derived.LoopIn
import Derived.Test.YtjdhjehnofediaaMemKnA
namespace Go.Proofs.Ytjdhjehnofediaa
open Go Go.RowKit Go.Shelf
theorem max_cast (f B : Nat) : Value.int .i64 (max (f : Int) ((B : Int) * 64)) = .int .i64 ((max f (B * 64) : Nat) : Int) := by congr 1; omega
theorem bit_len {M : List Nat} {c : Nat} (h : bitAt M c = true) : c < M.length * 64 := by
  by_cases q : c / 64 < M.length
  · omega
  · unfold bitAt at h; rw [decide_eq_false q] at h; cases h
/-- no cell from f on below c is marked -/
def Clear (M : List Nat) (f c : Nat) : Prop := ∀ d, f ≤ d → d < c → bitAt M d = false
theorem Clear.succ {M : List Nat} {f c : Nat} (h : Clear M f c) (hb : bitAt M c = false) : Clear M f (c + 1) := fun d h1 h2 => by
  by_cases e : d = c
  · rw [e]; exact hb
  · exact h d h1 (by omega)
/-- the first marked cell from f on, as an answer -/
def After (M : List Nat) (h W f : Nat) (e : Ending) : Prop := (∃ c, f ≤ c ∧ c < M.length * 64 ∧ Clear M f c ∧ bitAt M c = true ∧ e = .returned (.tuple #[.int .i64 (adr h W c), .bool true])) ∨ ((∀ c, f ≤ c → bitAt M c = false) ∧ e = .returned (.tuple #[.int .i64 (adr h W (-1)), .bool false]))
section
variable {w : World} {b W h : Nat} {R : Nat → Value} {L : Nat → List Nat}
set_option maxRecDepth 100000 in
set_option maxHeartbeats 4000000 in
theorem after_any (m : MemV w b W h R L) (z : Sizes W h L) (a : Int) (f : Nat) (ha0 : 0 ≤ a) (ha1 : a ≤ 1000000) (hf : max (adr h W 0) (a + 1) - adr h W 0 = f) : Calls Try.prog 66 #[.pointer (some ⟨b, 0, none⟩), .int .i64 a] w fun e w' => After (L (h * 2 + 1)) h W f e ∧ ∃ n, w' = w.drewN n := by
  have c1 := m.c1
  have hh := z.hh
  have hh0 : (0 : Int) ≤ h := by omega
  have hh1 : (h : Int) < 2 := by omega
  have HADR := Lib.hid (fun n (c : Int) (h0 : -1 ≤ c) (h1 : c ≤ 1099511627776) => address_any (m.drewN n) z.w1 h hh c h0 h1)
  have HA0 := Lib.hid (fun n => HADR.out n 0 (by decide) (by decide))
  obtain ⟨A0, hA0⟩ : ∃ A0, adr h W 0 = A0 := ⟨_, rfl⟩
  have hA1 : 1 ≤ A0 ∧ A0 ≤ 65537 := by
    rw [← hA0]
    have := z.w1
    unfold adr
    split <;> omega
  rw [hA0] at HA0 hf
  have q1 : IntKind.i64.wrap (a + 1) = a + 1 := by rw [IntKind.wrap_i64]; omega
  have HMW := Lib.hid (fun n k c hk hc => marked_any (m.drewN n) z k c hk hc)
  have cr := m.cr (h * 2 + 1) (by omega)
  obtain ⟨ra, rc, hrv, hrc1, hrc2⟩ := m.shape (r := h * 2 + 1) (by omega)
  have hlen := z.len (h * 2 + 1) (by omega)
  rw [hrv] at cr
  obtain ⟨M, hM⟩ : ∃ M, L (h * 2 + 1) = M := ⟨_, rfl⟩
  have HM := Lib.hid hM
  rw [hM] at cr hlen hrc1 ⊢
  have hf1 : f ≤ 1000001 := by omega
  obtain ⟨N, hN⟩ : ∃ N, M.length = N := ⟨_, rfl⟩
  have HN := Lib.hid hN
  rw [hN] at cr hlen hrc1
  clear hrv hM hA0 m z hN
  go_enter Try.func66, Try.ntmps66
  go_wp2_with fail
  go_step3
  go_wp2_with fail
  go_quiet ((go_at_call 84; refine Calls.quiet_of_same (HA0.out _)))
  clear hf hA1 q1 HA0 ha0 ha1
  obtain ⟨w0, hw0⟩ : ∃ w0, w.drewN nq = w0 := ⟨_, rfl⟩
  have c1' : w0.cell? ⟨b, 1, none⟩ = some (.int .i64 h) := by rw [← hw0]; exact c1
  have HD0 := Lib.hid (show ∃ n, w0 = w.drewN n from ⟨nq, hw0.symm⟩)
  have cr' : w0.cell? ⟨b, 2 + (h * 2 + 1), none⟩ = some (.slice ra N rc) := by rw [← hw0]; exact cr
  rw [hw0]
  clear hw0 c1 cr nq
  go_wp2_with fail
  go_quiet (fail)
  obtain ⟨w1, hw1⟩ : ∃ w1, w0.drewN nq = w1 := ⟨_, rfl⟩
  have c1 : w1.cell? ⟨b, 1, none⟩ = some (.int .i64 h) := by rw [← hw1]; exact c1'
  have cr : w1.cell? ⟨b, 2 + h * 2 + 1, none⟩ = some (.slice ra N rc) := by rw [← hw1]; exact cr'
  have HD1 := Lib.hid (show ∃ n, w1 = w.drewN n from by obtain ⟨n, hn⟩ := HD0.out; exact ⟨n + nq, by rw [← hw1, hn, World.drewN_drewN]⟩)
  rw [hw1]
  clear hw1 c1' cr' HD0
  have HMK : Hid (∀ c : Nat, c ≤ 9223372036854775807 → Calls Try.prog 86 #[.pointer (some ⟨b, 2 + h * 2, none⟩), .int .i64 c] w1 fun e w' => e = .returned (.bool (bitAt M c)) ∧ w1 = w') := fun c hc => by
    obtain ⟨n, hn⟩ := HD1.out
    have := HMW.out n h c hh hc
    rw [← hn, HM.out] at this
    exact this.mono fun _ _ ⟨x, y⟩ => ⟨x, y.symm⟩
  have HAD : Hid (∀ c : Int, -1 ≤ c → c ≤ 1099511627776 → Calls Try.prog 84 #[.pointer (some ⟨b, 0, none⟩), .int .i64 h, .int .i64 c] w1 fun e w' => e = .returned (.int .i64 (adr h W c)) ∧ w1 = w') := fun c h0 h1 => by
    obtain ⟨n, hn⟩ := HD1.out
    have := HADR.out n c h0 h1
    rw [← hn] at this
    exact this.mono fun _ _ ⟨x, y⟩ => ⟨x, y.symm⟩
  go_wp2_with fail
  go_step3
  go_wp2_with fail
  go_loop [8, 9] (fun x i => ∃ B : Nat, B ≤ 65537 ∧ x = .int .i64 (-1) ∧ i = .int .i64 B ∧ f / 64 ≤ B ∧ Clear M f (B * 64)) (fun _ i => 65537 - (intOf i).toNat)
  case atStart => exact ⟨f / 64, by omega, rfl, by go_num, Nat.le_refl _, fun d h1 h2 => by omega⟩
  case round =>
    obtain ⟨B, hB, rfl, rfl, hfB, hcl⟩ := hrel
    have HC := Lib.hid hcl
    clear hcl
    by_cases hlt : B < N
    · have hB1 : B ≤ 65536 := by omega
      go_wp2_with fail
      go_loop [8, 10] (fun x c => ∃ k : Nat, x = .int .i64 (-1) ∧ c = .int .i64 k ∧ f ≤ k ∧ B * 64 ≤ k ∧ k ≤ (B + 1) * 64 ∧ Clear M f k) (fun _ c => (B + 1) * 64 - (intOf c).toNat)
      case atStart => exact ⟨max f (B * 64), rfl, max_cast f B, by omega, by omega, by omega, fun d h1 h2 => HC.out d h1 (by omega)⟩
      case round =>
        obtain ⟨k, rfl, rfl, hk1, hk2, hk3, hck⟩ := hrel
        have HCK := Lib.hid hck
        clear hck
        by_cases hkl : k < (B + 1) * 64
        · have hki : (k : Int) < ((B : Int) + 1) * 64 := by omega
          obtain ⟨v, hv⟩ : ∃ v, bitAt M k = v := ⟨_, rfl⟩
          have hmk := HMK.out k (by omega)
          rw [hv] at hmk
          have HMK2 := Lib.hid hmk
          have HV := Lib.hid hv
          have HAK := Lib.hid (HAD.out k (by omega) (by omega))
          have hk0 : (0 : Int) ≤ k := by omega
          clear hmk hv
          cases v
          · go_wp2_with fail
            refine HMK2.out.mono ?_
            rintro e w' ⟨rfl, rfl⟩
            go_wp2_with fail
            go_round
            case rel => exact ⟨k + 1, rfl, by go_num, by omega, by omega, by omega, HCK.out.succ HV.out⟩
            case measure => simp [intOf]; omega
          · go_wp2_with fail
            refine HMK2.out.mono ?_
            rintro e w' ⟨rfl, rfl⟩
            go_wp2_with fail
            refine HAK.out.mono ?_
            rintro e w' ⟨rfl, rfl⟩
            go_wp2_with fail
            rw [Exit.noGoto_ret]
            go_ret2
            exact ⟨.inl ⟨k, hk1, bit_len HV.out, HCK.out, HV.out, rfl⟩, HD1.out⟩
        · have hki : ¬ (k : Int) < ((B : Int) + 1) * 64 := by omega
          go_wp2_with fail
          go_round
          case rel => exact ⟨B + 1, by omega, rfl, by go_num, by omega, fun d h1 h2 => HCK.out d h1 (by omega)⟩
          case measure => simp [intOf]; omega
    · have HA1 := Lib.hid (HAD.out (-1) (by omega) (by omega))
      go_wp2_with fail
      refine HA1.out.mono ?_
      rintro e w' ⟨rfl, rfl⟩
      go_wp2_with fail
      rw [Exit.noGoto_ret]
      go_ret2
      refine ⟨.inr ⟨fun c hc => ?_, rfl⟩, HD1.out⟩
      by_cases q : c < B * 64
      · exact HC.out c hc q
      · cases hb : bitAt M c with
        | false => rfl
        | true => have := bit_len hb; rw [HN.out] at this; omega
end
end Go.Proofs.Ytjdhjehnofediaa
