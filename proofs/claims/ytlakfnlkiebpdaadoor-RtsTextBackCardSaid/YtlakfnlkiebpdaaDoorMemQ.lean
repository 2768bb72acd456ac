/- Contracts of what only reads a memory: Words, Half, Next, Free, address, marked, find. Conditions: the memory lies as MemV says. -/
import Derived.Test.YtlakfnlkiebpdaaDoorMemHdr
import Derived.RegionTactic
import Derived.BigRegion
import Derived.BigQuiet
import Derived.Outline
import Derived.IntWalk
namespace Go.Proofs.YtlakfnlkiebpdaaDoor
open Go Go.RowKit
/-- the address of a half's cell -/
def adr (h W : Nat) (c : Int) : Int := (if h = 0 then 0 else (W : Int)) + c + 1
theorem adr_0 (W : Nat) (c : Int) : adr 0 W c = c + 1 := by unfold adr; rw [if_pos rfl]; omega
theorem adr_1 (W : Nat) (c : Int) : adr 1 W c = W + c + 1 := by unfold adr; rw [if_neg (by decide)]
theorem bit_eq (x j : Nat) (hx : x < 18446744073709551616) : (bits BinOp.and IntKind.u64 ((x : Int) / 2 ^ j) 1 == 1) = x.testBit j := by
  have e : (x : Int) / 2 ^ j = ((x / 2 ^ j : Nat) : Int) := by simp
  have hlt : x / 2 ^ j < 18446744073709551616 := Nat.lt_of_le_of_lt (Nat.div_le_self _ _) hx
  have h1 := u64_and_nat (x / 2 ^ j) 1 hlt (by decide)
  rw [Nat.and_one_is_mod] at h1
  rw [e]
  rw [show ((1 : Nat) : Int) = 1 from rfl] at h1
  rw [h1, Nat.testBit_eq_decide_div_mod_eq]
  have h2 := Nat.mod_two_eq_zero_or_one (x / 2 ^ j)
  rcases h2 with h2 | h2 <;> simp [h2]
structure Sizes (W h : Nat) (L : Nat → List Nat) : Prop where
  w0 : 64 ≤ W
  w1 : W ≤ 65536
  hh : h < 2
  len : ∀ r, r < 4 → (L r).length ≤ 65536
  word : ∀ r, r < 4 → ∀ x ∈ L r, x < 18446744073709551616
section
variable {w : World} {b W h : Nat} {R : Nat → Value} {L : Nat → List Nat}
theorem words_any (m : MemV w b W h R L) : Calls Tryd.prog 96 #[.pointer (some ⟨b, 0, none⟩)] w fun e w' => e = .returned (.int .i64 W) ∧ w' = w := by
  have c0 := m.c0
  clear m
  go_enter Tryd.func96, Tryd.ntmps96
  go_wp2
  go_ret
  exact ⟨rfl, rfl⟩
theorem address_any (m : MemV w b W h R L) (hW : W ≤ 65536) (k : Nat) (hk : k < 2) (c : Int) (h0 : -1 ≤ c) (h1 : c ≤ 1099511627776) : Calls Tryd.prog 49 #[.pointer (some ⟨b, 0, none⟩), .int .i64 k, .int .i64 c] w fun e w' => e = .returned (.int .i64 (adr k W c)) ∧ w' = w := by
  have c0 := m.c0
  clear m
  have hk' : k = 0 ∨ k = 1 := by omega
  rcases hk' with rfl | rfl
  · go_enter Tryd.func49, Tryd.ntmps49
    go_wp2
    go_ret
    exact ⟨ret_int (by rw [adr_0]), rfl⟩
  · go_enter Tryd.func49, Tryd.ntmps49
    go_wp2
    go_ret
    exact ⟨ret_int (by rw [adr_1]), rfl⟩
set_option maxHeartbeats 1000000 in
theorem next_any (m : MemV w b W h R L) (z : Sizes W h L) : Calls Tryd.prog 19 #[.pointer (some ⟨b, 0, none⟩)] w fun e w' => e = .returned (.int .i64 (adr h W (L (h * 2)).length)) ∧ ∃ n, w' = w.drewN n := by
  have c1 := m.c1
  have hl := z.len (h * 2) (by have := z.hh; omega)
  have cr := m.cr (h * 2) (by have := z.hh; omega)
  obtain ⟨a, cap, hv, hle, hcap⟩ := m.shape (r := h * 2) (by have := z.hh; omega)
  rw [hv] at cr
  have hh0 : (0 : Int) ≤ h := by omega
  have hh1 : (h : Int) < 2 := by have := z.hh; omega
  have HM := Lib.hid m
  have HZ := Lib.hid z
  clear m z hv
  go_enter Tryd.func19, Tryd.ntmps19
  go_wp2
  go_quiet ((go_at_call 49; refine Calls.quiet_of_same (address_any (HM.out.drewN _) HZ.out.w1 h HZ.out.hh _ (by omega) (by omega))))
  go_wp2
  go_ret
  exact ⟨rfl, _, rfl⟩
set_option maxHeartbeats 1000000 in
theorem free_any (m : MemV w b W h R L) (z : Sizes W h L) : Calls Tryd.prog 80 #[.pointer (some ⟨b, 0, none⟩)] w fun e w' => e = .returned (.int .i64 ((W : Int) - (L (h * 2)).length)) ∧ ∃ n, w' = w.drewN n := by
  have c0 := m.c0
  have c1 := m.c1
  have hl := z.len (h * 2) (by have := z.hh; omega)
  have hw1 := z.w1
  have cr := m.cr (h * 2) (by have := z.hh; omega)
  obtain ⟨a, cap, hv, hle, hcap⟩ := m.shape (r := h * 2) (by have := z.hh; omega)
  rw [hv] at cr
  have hh0 : (0 : Int) ≤ h := by omega
  have hh1 : (h : Int) < 2 := by have := z.hh; omega
  clear m z hv
  go_enter Tryd.func80, Tryd.ntmps80
  go_wp2
  go_quiet (fail)
  go_wp2
  go_ret
  exact ⟨rfl, _, rfl⟩
set_option maxHeartbeats 1000000 in
theorem marked_in (m : MemV w b W h R L) (k c : Nat) (hk : k < 2) (hc : c ≤ 9223372036854775807) (hlt : c / 64 < (L (k * 2 + 1)).length) (hw : ∀ x ∈ L (k * 2 + 1), x < 18446744073709551616) : Calls Tryd.prog 103 #[.pointer (some ⟨b, 2 + k * 2, none⟩), .int .i64 c] w fun e w' => e = .returned (.bool (bitAt (L (k * 2 + 1)) c)) ∧ w' = w := by
  have cr : w.cell? ⟨b, 2 + k * 2 + 1, none⟩ = some (R (k * 2 + 1)) := m.cr (k * 2 + 1) (by omega)
  obtain ⟨g, cap, hv, hle, hcap⟩ := m.some_row (r := k * 2 + 1) (by omega) hlt
  have cx := (m.row_cell (r := k * 2 + 1) (j := c / 64) (by omega) hlt hv).1
  rw [hv] at cr
  obtain ⟨x, hx⟩ : ∃ x, (L (k * 2 + 1)).getD (c / 64) 0 = x := ⟨_, rfl⟩
  rw [hx] at cx
  clear m hv
  go_enter Tryd.func103, Tryd.ntmps103
  go_wp2
  go_ret
  exact ⟨ret_bool (by
    have hxl : x < 18446744073709551616 := by
      rw [← hx, List.getD_eq_getElem?_getD, List.getElem?_eq_getElem hlt]
      exact hw _ (List.getElem_mem hlt)
    rw [bitAt_eq, hx]; exact bit_eq x _ hxl), rfl⟩
set_option maxHeartbeats 1000000 in
theorem marked_out (m : MemV w b W h R L) (k c : Nat) (hk : k < 2) (hc : c ≤ 9223372036854775807) (hlt : (L (k * 2 + 1)).length ≤ c / 64) : Calls Tryd.prog 103 #[.pointer (some ⟨b, 2 + k * 2, none⟩), .int .i64 c] w fun e w' => e = .returned (.bool (bitAt (L (k * 2 + 1)) c)) ∧ w' = w := by
  have cr : w.cell? ⟨b, 2 + k * 2 + 1, none⟩ = some (R (k * 2 + 1)) := m.cr (k * 2 + 1) (by omega)
  obtain ⟨a, cap, hv, hle, hcap⟩ := m.shape (r := k * 2 + 1) (by omega)
  rw [hv] at cr
  have hB : bitAt (L (k * 2 + 1)) c = false := by unfold bitAt; rw [decide_eq_false (by omega)]; rfl
  rw [hB]
  clear m hv hB
  go_enter Tryd.func103, Tryd.ntmps103
  go_wp2
  go_ret
  exact ⟨rfl, rfl⟩
theorem marked_any (m : MemV w b W h R L) (z : Sizes W h L) (k c : Nat) (hk : k < 2) (hc : c ≤ 9223372036854775807) : Calls Tryd.prog 103 #[.pointer (some ⟨b, 2 + k * 2, none⟩), .int .i64 c] w fun e w' => e = .returned (.bool (bitAt (L (k * 2 + 1)) c)) ∧ w' = w := by
  by_cases hlt : c / 64 < (L (k * 2 + 1)).length
  · exact marked_in m k c hk hc hlt (z.word _ (by omega))
  · exact marked_out m k c hk hc (by omega)
set_option maxHeartbeats 1000000 in
theorem find_lo (m : MemV w b W h R L) (z : Sizes W h L) (k : Nat) (hk : k < 2) (a : Int) (ha : a < adr k W 0) : Calls Tryd.prog 86 #[.pointer (some ⟨b, 0, none⟩), .int .i64 k, .int .i64 a] w fun e w' => e = .returned (.tuple #[.int .i64 0, .bool false]) ∧ w' = w := by
  obtain ⟨B, hB⟩ : ∃ B, adr k W 0 = B := ⟨_, rfl⟩
  have HA := Lib.hid (address_any m z.w1 k hk 0 (by decide) (by decide))
  rw [hB] at ha HA
  clear m z hB
  go_enter Tryd.func86, Tryd.ntmps86
  go_wp2_with fail
  refine HA.out.mono ?_
  rintro e w1 ⟨rfl, rfl⟩
  go_wp2_with fail
  go_ret2
  exact ⟨rfl, rfl⟩
set_option maxHeartbeats 1000000 in
theorem find_hi (m : MemV w b W h R L) (z : Sizes W h L) (k : Nat) (hk : k < 2) (a : Int) (c : Nat) (ha : a = adr k W c) (ha2 : a ≤ 9223372036854775807) (v : Bool) (hv : bitAt (L (k * 2 + 1)) c = v) : Calls Tryd.prog 86 #[.pointer (some ⟨b, 0, none⟩), .int .i64 k, .int .i64 a] w fun e w' => e = .returned (.tuple #[.int .i64 (if v then (c : Int) else 0), .bool v]) ∧ w' = w := by
  obtain ⟨B, hB⟩ : ∃ B, adr k W 0 = B := ⟨_, rfl⟩
  have HA := Lib.hid (address_any m z.w1 k hk 0 (by decide) (by decide))
  have hle : 1 ≤ B := by rw [← hB]; unfold adr; split <;> omega
  have hac : a - B = (c : Int) := by rw [← hB, ha]; unfold adr; omega
  have hab : ¬ a < B := by omega
  have HM := Lib.hid (marked_any m z k c hk (by omega))
  have hk0 : (0 : Int) ≤ k := by omega
  have hk1 : (k : Int) < 2 := by omega
  rw [hB] at HA
  rw [hv] at HM
  clear m z hB ha hv
  cases v
  · go_enter Tryd.func86, Tryd.ntmps86
    go_wp2_with fail
    refine HA.out.mono ?_
    rintro e w1 ⟨rfl, rfl⟩
    go_wp2_with fail
    refine HA.out.mono ?_
    rintro e w1 ⟨rfl, rfl⟩
    go_wp2_with fail
    refine HM.out.mono ?_
    rintro e w1 ⟨rfl, rfl⟩
    go_wp2_with fail
    go_ret2
    exact ⟨rfl, rfl⟩
  · go_enter Tryd.func86, Tryd.ntmps86
    go_wp2_with fail
    refine HA.out.mono ?_
    rintro e w1 ⟨rfl, rfl⟩
    go_wp2_with fail
    refine HA.out.mono ?_
    rintro e w1 ⟨rfl, rfl⟩
    go_wp2_with fail
    refine HM.out.mono ?_
    rintro e w1 ⟨rfl, rfl⟩
    go_wp2_with fail
    go_ret2
    exact ⟨rfl, rfl⟩
end
end Go.Proofs.YtlakfnlkiebpdaaDoor
