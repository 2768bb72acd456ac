/- Contracts of field, Look, Load, Store, object by object. Conditions: the memory lies as Mem says. -/
import Derived.Test.YtlakfnlkiebpdaaDoorMemO
namespace Go.Proofs.YtlakfnlkiebpdaaDoor
open Go Go.RowKit
theorem split_q (N : Nat) (h : N < 18446744073709551616) (w : World) : Calls Tryd.prog 87 #[.int .u64 N] w fun e w' => e = .returned (.tuple #[.int .i64 (kN N), .int .i64 (zN N), .int .i64 (tN N)]) ∧ w' = w := (split_any N h w).mono fun _ _ ⟨he, hw⟩ => ⟨he, hw.symm⟩
theorem split_o {k s t : Nat} (h : rightB k s t = true) (w : World) : Calls Tryd.prog 87 #[.int .u64 (hdr k s t : Nat)] w fun e w' => e = .returned (.tuple #[.int .i64 k, .int .i64 s, .int .i64 t]) ∧ w' = w := by
  obtain ⟨a, b, c⟩ := split_hdr h
  have hb := right_bd h
  have := split_q (hdr k s t) (by unfold hdr; omega) w
  rw [a, b, c] at this
  exact this
section
variable {w : World} {b W h : Nat} {R : Nat → Value} {now old : List Ob}
/-- what is known of an object in use -/
structure At (w : World) (b h : Nat) (R : Nat → Value) (now : List Ob) (j g cap : Nat) (o : Ob) : Prop where
  row : w.cell? ⟨b, 2 + h * 2, none⟩ = some (.slice (some ⟨g, 0, none⟩) (used now) cap)
  val : R (h * 2) = .slice (some ⟨g, 0, none⟩) (used now) cap
  cap1 : used now ≤ cap
  cap2 : cap ≤ 9223372036854775807
  head : w.cell? ⟨g, start now j, none⟩ = some (.int .u64 (hdr o.k o.ws.length o.t : Nat))
  field : ∀ i, i < o.ws.length → w.cell? ⟨g, start now j + 1 + i, none⟩ = some (.int .u64 (o.ws.getD i 0 : Nat))
  frozen : ∀ i, i < o.ws.length → w.frozen? ⟨g, start now j + 1 + i, none⟩ = false
  fits : start now j + o.ws.length < used now
  right : rightB o.k o.ws.length o.t = true
theorem at_of (m : Mem w b W h R now old) (z : WF W h now old) {j : Nat} {o : Ob} (ho : now[j]? = some o) : ∃ g cap, At w b h R now j g cap o := by
  obtain ⟨hj, rfl⟩ := List.getElem?_eq_some_iff.1 ho
  have hh := z.hh
  have hlt := start_lt now hj
  have hlen : (rowsOf h now old (h * 2)).length = used now := by rw [rows_cells, half_now, flat_length]
  obtain ⟨g, cap, hv, hle, hcap⟩ := m.some_row (r := h * 2) (j := start now j) (by omega) (by rw [hlen]; omega)
  rw [hlen] at hv hle
  have hcell : ∀ c x, c < used now → (flat now)[c]? = some x → w.cell? ⟨g, c, none⟩ = some (.int .u64 (x : Nat)) := fun c x hc hx => by
    have h1 := (m.row_cell (r := h * 2) (j := c) (by omega) (by rw [hlen]; exact hc) hv).1
    rw [rows_cells, half_now, List.getD_eq_getElem?_getD, hx] at h1
    exact h1
  obtain ⟨f1, f2⟩ := flat_at now hj
  have hok := z.okn _ (List.getElem_mem hj)
  have hfr := z.fresh _ (List.getElem_mem hj)
  refine ⟨g, cap, (m.cr (h * 2) (by omega)).trans (by rw [hv]), hv, hle, hcap, hcell _ _ (by omega) (by rw [f1]; unfold Ob.hw; rw [if_pos hfr]), fun i hi => hcell _ _ (by omega) ?_, fun i hi => (m.row_cell (r := h * 2) (j := start now j + 1 + i) (by omega) (by rw [hlen]; omega) hv).2, hlt, hok.right⟩
  rw [f2 i hi, List.getD_eq_getElem?_getD, List.getElem?_eq_getElem hi]; rfl
theorem At.drewN {j g cap : Nat} {o : Ob} (a : At w b h R now j g cap o) (n : Nat) : At (w.drewN n) b h R now j g cap o := ⟨a.row, a.val, a.cap1, a.cap2, a.head, a.field, a.frozen, a.fits, a.right⟩
set_option maxHeartbeats 1000000 in
theorem field_miss (m : Mem w b W h R now old) (z : WF W h now old) (a i : Int) (ha2 : a ≤ 9223372036854775807) (hi : idxAt now h W a = none) :
    Calls Tryd.prog 51 #[.pointer (some ⟨b, 0, none⟩), .int .i64 a, .int .i64 i] w fun e w' => e = .returned (.tuple #[.int .i64 0, .int .i64 20]) ∧ ∃ n, w' = w.drewN n := by
  have c1 := m.c1
  have hf := find_idx m z h z.hh a ha2
  rw [half_now, hi] at hf
  have HF := Lib.hid hf
  clear m z hf hi
  go_enter Tryd.func51, Tryd.ntmps51
  go_wp2_with fail
  refine HF.out.mono ?_
  rintro e w1 ⟨rfl, rfl⟩
  go_wp2_with fail
  go_ret2
  exact ⟨rfl, 0, rfl⟩
set_option maxHeartbeats 2000000 in
theorem field_bad (m : Mem w b W h R now old) (z : WF W h now old) (a i : Int) (ha2 : a ≤ 9223372036854775807) {j : Nat} {o : Ob} (hi : idxAt now h W a = some j) (ho : now[j]? = some o) (hr : i < 0 ∨ (o.ws.length : Int) ≤ i) :
    Calls Tryd.prog 51 #[.pointer (some ⟨b, 0, none⟩), .int .i64 a, .int .i64 i] w fun e w' => e = .returned (.tuple #[.int .i64 0, .int .i64 20]) ∧ ∃ n, w' = w.drewN n := by
  have c1 := m.c1
  obtain ⟨g, cap, A⟩ := at_of m z ho
  have hf := find_idx m z h z.hh a ha2
  rw [half_now, hi] at hf
  have HF := Lib.hid hf
  have hh0 : (0 : Int) ≤ h := by omega
  have hh1 : (h : Int) < 2 := by have := z.hh; omega
  have r0 := A.row
  have r1 := A.head
  have r2 := A.fits
  have r3 := A.cap1
  have r4 := A.cap2
  have hs0 : (0 : Int) ≤ start now j := by omega
  have hs1 : (start now j : Int) < used now := by omega
  have HS := Lib.hid (fun W => split_o A.right W)
  have huw : used now ≤ 65536 := Nat.le_trans z.un z.w1
  clear m z hf hi A
  rcases hr with hr | hr
  · go_enter Tryd.func51, Tryd.ntmps51
    go_wp2_with fail
    refine HF.out.mono ?_
    rintro e w1 ⟨rfl, rfl⟩
    go_wp2_with fail
    go_quiet ((go_at_call 87; refine Calls.quiet_of_same (HS.out _)))
    go_wp2_with fail
    go_ret2
    exact ⟨rfl, _, rfl⟩
  · have hr0 : ¬ i < 0 := by omega
    go_enter Tryd.func51, Tryd.ntmps51
    go_wp2_with fail
    refine HF.out.mono ?_
    rintro e w1 ⟨rfl, rfl⟩
    go_wp2_with fail
    go_quiet ((go_at_call 87; refine Calls.quiet_of_same (HS.out _)))
    go_wp2_with fail
    go_ret2
    exact ⟨rfl, _, rfl⟩
set_option maxHeartbeats 2000000 in
theorem field_hit (m : Mem w b W h R now old) (z : WF W h now old) (a : Int) (i : Nat) (ha2 : a ≤ 9223372036854775807) {j : Nat} {o : Ob} (hi : idxAt now h W a = some j) (ho : now[j]? = some o) (hr : i < o.ws.length) :
    Calls Tryd.prog 51 #[.pointer (some ⟨b, 0, none⟩), .int .i64 a, .int .i64 i] w fun e w' => e = .returned (.tuple #[.int .i64 (start now j + 1 + i : Nat), .int .i64 0]) ∧ ∃ n, w' = w.drewN n := by
  have c1 := m.c1
  obtain ⟨g, cap, A⟩ := at_of m z ho
  have hf := find_idx m z h z.hh a ha2
  rw [half_now, hi] at hf
  have HF := Lib.hid hf
  have hh0 : (0 : Int) ≤ h := by omega
  have hh1 : (h : Int) < 2 := by have := z.hh; omega
  have r0 := A.row
  have r1 := A.head
  have r2 := A.fits
  have r3 := A.cap1
  have r4 := A.cap2
  have hs0 : (0 : Int) ≤ start now j := by omega
  have hs1 : (start now j : Int) < used now := by omega
  have HS := Lib.hid (fun W => split_o A.right W)
  have huw : used now ≤ 65536 := Nat.le_trans z.un z.w1
  have hri : (i : Int) < o.ws.length := by omega
  clear m z hf hi A
  go_enter Tryd.func51, Tryd.ntmps51
  go_wp2_with fail
  refine HF.out.mono ?_
  rintro e w1 ⟨rfl, rfl⟩
  go_wp2_with fail
  go_quiet ((go_at_call 87; refine Calls.quiet_of_same (HS.out _)))
  go_wp2_with fail
  go_ret2
  exact ⟨ret2 (by omega) rfl, _, rfl⟩
end
end Go.Proofs.YtlakfnlkiebpdaaDoor
