/- Contracts of Move where it does not move: no such object, one that was moved, no room. Conditions: the memory lies as Mem says. -/
import Derived.Test.YtlakfnlkiebpdaaDoorMemKnA
import Derived.WalkSmall
namespace Go.Proofs.YtlakfnlkiebpdaaDoor
open Go Go.RowKit
theorem isptr_odd (n : Nat) (h : n % 2 = 1) (hn : n < 18446744073709551616) (w : World) : Calls Tryd.prog 72 #[.int .u64 n] w fun e w' => e = .returned (.bool false) ∧ w' = w := by
  have hb : (bits BinOp.and IntKind.u64 (n : Int) 1 == 0) = false := by rw [and_one_u64 (n : Int) (by omega) (by omega)]; exact beqF (by omega)
  clear h
  go_enter Tryd.func72, Tryd.ntmps72
  go_wp2
  go_ret
  exact ⟨rfl, rfl⟩
theorem isptr_even (t : Nat) (h0 : 1 ≤ t) (h1 : t ≤ 131072) (w : World) : Calls Tryd.prog 72 #[.int .u64 ((2 * t : Nat) : Int)] w fun e w' => e = .returned (.bool true) ∧ w' = w := by
  obtain ⟨n, hn⟩ : ∃ n : Nat, 2 * t = n := ⟨_, rfl⟩
  rw [hn]
  have hb : (bits BinOp.and IntKind.u64 (n : Int) 1 == 0) = true := by rw [and_one_u64 (n : Int) (by omega) (by omega)]; exact beqT (by omega)
  have h2 : 2 ≤ (n : Int) := by omega
  have h3 : (n : Int) ≤ 2199023255552 := by omega
  clear hn
  go_enter Tryd.func72, Tryd.ntmps72
  go_wp2
  go_ret
  exact ⟨rfl, rfl⟩
theorem toptr_even (t : Nat) (h0 : 1 ≤ t) (h1 : t ≤ 131072) (w : World) : Calls Tryd.prog 54 #[.int .u64 ((2 * t : Nat) : Int)] w fun e w' => e = .returned (.int .i64 t) ∧ w' = w := by
  have HP := Lib.hid (isptr_even t h0 h1 w)
  obtain ⟨n, hn⟩ : ∃ n : Nat, 2 * t = n := ⟨_, rfl⟩
  rw [hn] at HP ⊢
  have hd : (n : Int) / 2 = t := by omega
  have h2 : (n : Int) < 18446744073709551616 := by omega
  clear hn
  go_enter Tryd.func54, Tryd.ntmps54
  go_wp2_with fail
  refine HP.out.mono ?_
  rintro e w' ⟨rfl, rfl⟩
  go_wp2_with fail
  go_ret
  exact ⟨rfl, rfl⟩
theorem ptr_word (t : Nat) (h0 : 1 ≤ t) (h1 : t ≤ 131072) (w : World) : Calls Tryd.prog 44 #[.int .i64 t] w fun e w' => e = .returned (.int .u64 ((2 * t : Nat) : Int)) ∧ w' = w := by
  have h2 : 1 ≤ (t : Int) := by omega
  have h3 : (t : Int) ≤ 1099511627776 := by omega
  go_enter Tryd.func44, Tryd.ntmps44
  go_wp2
  go_ret
  exact ⟨ret_int (by omega), rfl⟩
section
variable {w : World} {b W h k : Nat} {R : Nat → Value} {now old : List Ob}
/-- what is known of an object of the old half -/
structure AtO (w : World) (b k : Nat) (R : Nat → Value) (old : List Ob) (j g cap : Nat) (o : Ob) : Prop where
  row : w.cell? ⟨b, 2 + k * 2, none⟩ = some (.slice (some ⟨g, 0, none⟩) (used old) cap)
  val : R (k * 2) = .slice (some ⟨g, 0, none⟩) (used old) cap
  cap1 : used old ≤ cap
  cap2 : cap ≤ 9223372036854775807
  head : w.cell? ⟨g, start old j, none⟩ = some (.int .u64 (o.hw : Nat))
  frozen : w.frozen? ⟨g, start old j, none⟩ = false
  cells : ∀ q u, (u64s (o.hw :: o.ws))[q]? = some u → w.cell? ⟨g, start old j + q, none⟩ = some u
  fits : start old j + o.ws.length < used old
theorem ato_of (m : Mem w b W h R now old) (hk : k < 2) (hne : k ≠ h) {j : Nat} {o : Ob} (ho : old[j]? = some o) : ∃ g cap, AtO w b k R old j g cap o := by
  obtain ⟨hj, rfl⟩ := List.getElem?_eq_some_iff.1 ho
  have hlt := start_lt old hj
  have hlen : (rowsOf h now old (k * 2)).length = used old := by rw [rows_cells, half_old _ _ hne, flat_length]
  obtain ⟨g, cap, hv, hle, hcap⟩ := m.some_row (r := k * 2) (j := start old j) (by omega) (by rw [hlen]; omega)
  rw [hlen] at hv hle
  have hcell : ∀ c x, c < used old → (flat old)[c]? = some x → w.cell? ⟨g, c, none⟩ = some (.int .u64 (x : Nat)) := fun c x hc hx => by
    have h1 := (m.row_cell (r := k * 2) (j := c) (by omega) (by rw [hlen]; exact hc) hv).1
    rw [rows_cells, half_old _ _ hne, List.getD_eq_getElem?_getD, hx] at h1
    exact h1
  obtain ⟨f1, f2⟩ := flat_at old hj
  refine ⟨g, cap, (m.cr (k * 2) (by omega)).trans (by rw [hv]), hv, hle, hcap, hcell _ _ (by omega) f1, (m.row_cell (r := k * 2) (j := start old j) (by omega) (by rw [hlen]; omega) hv).2, fun q u hu => ?_, hlt⟩
  unfold u64s at hu
  rw [List.getElem?_map] at hu
  cases q with
  | zero =>
    rw [List.getElem?_cons_zero] at hu
    obtain rfl := Option.some.inj hu
    exact hcell _ _ (by omega) f1
  | succ i =>
    rw [List.getElem?_cons_succ] at hu
    by_cases hi : i < old[j].ws.length
    · rw [List.getElem?_eq_getElem hi] at hu
      obtain rfl := Option.some.inj hu
      refine hcell _ _ (by omega) ?_
      rw [show start old j + (i + 1) = start old j + 1 + i by omega, f2 i hi, List.getElem?_eq_getElem hi]
    · rw [List.getElem?_eq_none (by omega)] at hu
      cases hu
theorem other {h : Nat} (hh : h < 2) : ∃ k : Nat, (1 : Int) - h = k ∧ k < 2 ∧ k ≠ h ∧ k = 1 - h := ⟨1 - h, by omega, by omega, by omega, rfl⟩
set_option maxHeartbeats 1000000 in
theorem move_miss (m : Mem w b W h R now old) (z : WF W h now old) (a : Int) (ha2 : a ≤ 9223372036854775807) (hi : idxAt old (1 - h) W a = none) :
    Calls Tryd.prog 71 #[.pointer (some ⟨b, 0, none⟩), .int .i64 a] w fun e w' => e = .returned (.tuple #[.int .i64 0, .int .i64 20]) ∧ w' = w := by
  have c1 := m.c1
  obtain ⟨k, hk, hk2, hne, hke⟩ := other z.hh
  rw [← hke] at hi
  clear hke
  have hf := find_idx m z k hk2 a ha2
  rw [half_old _ _ hne, hi] at hf
  have HF := Lib.hid hf
  have hwk : wrap64 (1 - (h : Int)) = k := by rw [hk]; unfold wrap64; omega
  clear m z hf hi
  go_enter Tryd.func71, Tryd.ntmps71
  go_wp2_with fail
  refine HF.out.mono ?_
  rintro e w1 ⟨rfl, rfl⟩
  go_wp2_with fail
  go_ret2
  exact ⟨rfl, rfl⟩
set_option maxHeartbeats 1000000 in
theorem move_done (m : Mem w b W h R now old) (z : WF W h now old) (a : Int) (ha2 : a ≤ 9223372036854775807) {j : Nat} {o : Ob} (hi : idxAt old (1 - h) W a = some j) (ho : old[j]? = some o) (ht : o.to ≠ 0) :
    Calls Tryd.prog 71 #[.pointer (some ⟨b, 0, none⟩), .int .i64 a] w fun e w' => e = .returned (.tuple #[.int .i64 o.to, .int .i64 0]) ∧ ∃ n, w' = w.drewN n := by
  have c1 := m.c1
  obtain ⟨k, hk, hk2, hne, hke⟩ := other z.hh
  rw [← hke] at hi
  clear hke
  obtain ⟨g, cap, A⟩ := ato_of m hk2 hne ho
  have hf := find_idx m z k hk2 a ha2
  rw [half_old _ _ hne, hi] at hf
  have HF := Lib.hid hf
  have hwk : wrap64 (1 - (h : Int)) = k := by rw [hk]; unfold wrap64; omega
  have r0 := A.row
  have r1 := A.head
  have hhw : o.hw = 2 * o.to := by unfold Ob.hw; rw [if_neg ht]
  have hto := (z.oko _ (List.mem_of_getElem? ho)).to
  rw [hhw] at r1
  have r2 := A.fits
  have r3 := A.cap1
  have r4 := A.cap2
  have hs0 : (0 : Int) ≤ start old j := by omega
  have hs1 : (start old j : Int) < used old := by omega
  have hk0 : (0 : Int) ≤ k := by omega
  have hk1 : (k : Int) < 2 := by omega
  have HP := Lib.hid (fun W => isptr_even o.to (by omega) hto W)
  have HT := Lib.hid (fun W => toptr_even o.to (by omega) hto W)
  have huw : used old ≤ 65536 := Nat.le_trans z.uo z.w1
  clear m z hf hi A
  go_enter Tryd.func71, Tryd.ntmps71
  go_wp2_with fail
  refine HF.out.mono ?_
  rintro e w1 ⟨rfl, rfl⟩
  go_wp2_with fail
  go_quiet (fail)
  go_wp2_with fail
  refine (HP.out _).mono ?_
  rintro e w2 ⟨rfl, rfl⟩
  go_wp2_with fail
  refine (HT.out _).mono ?_
  rintro e w3 ⟨rfl, rfl⟩
  go_wp2_with fail
  go_ret2
  exact ⟨rfl, _, rfl⟩
end
end Go.Proofs.YtlakfnlkiebpdaaDoor
