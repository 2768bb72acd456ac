/- Contracts of field, Look, Load, Store, object by object. Conditions: the memory lies as Mem says. Contracts of Load, Look, Store, object by object. Conditions: the memory lies as Mem says. Plain mathematics: what a change of one object does to the cells. Conditions: none. Contracts of New, Store and Flip, object by object. Conditions: the memory lies as Mem says. The contract of mark: one bit more. Conditions: the memory lies as MemV says. The contract of slices.Grow for words: the same words, there or anew. Condition: at most a hundred thousand words in all. The contract of Alloc, object by object. Conditions: the memory lies as Mem says. An object more, and a memory that is the call's own. Conditions: none. -/
import Derived.Test.YtpoblealgooamaaGreatDoorMemOne
import Derived.StillTailTactics
import Derived.Deep.AppendLies
import Derived.Deep.LoopGhost
import Derived.Shelf.Spec.SlicesGrow
import Derived.Deep.RegionLaw
namespace Go.Proofs.YtpoblealgooamaaGreatDoor
open Go Go.RowKit
theorem split_q (N : Nat) (h : N < 18446744073709551616) (w : World) : Calls Tryz.prog 83 #[.int .u64 N] w fun e w' => e = .returned (.tuple #[.int .i64 (kN N), .int .i64 (zN N), .int .i64 (tN N)]) ∧ w' = w := (split_any N h w).mono fun _ _ ⟨he, hw⟩ => ⟨he, hw.symm⟩
theorem split_o {k s t : Nat} (h : rightB k s t = true) (w : World) : Calls Tryz.prog 83 #[.int .u64 (hdr k s t : Nat)] w fun e w' => e = .returned (.tuple #[.int .i64 k, .int .i64 s, .int .i64 t]) ∧ w' = w := by
  obtain ⟨a, b, c⟩ := split_hdr h
  have hb := right_bd h
  have := split_q (hdr k s t) (by unfold hdr; omega) w
  rw [a, b, c] at this
  exact this
section
variable {w : World} {b W h : Nat} {R : Nat → Value} {now old : List Ob}
/-- what is known of an object in use -/
structure At (w : World) (b h : Nat) (R : Nat → Value) (now : List Ob) (j g cap : Nat) (o : Ob) : Prop where
  row : w.cell? ⟨b, 2 + h * 2, none⟩ = some (.slice (some ⟨g, 0, none⟩) (used now) cap)
  val : R (h * 2) = .slice (some ⟨g, 0, none⟩) (used now) cap
  cap1 : used now ≤ cap
  cap2 : cap ≤ 9223372036854775807
  head : w.cell? ⟨g, start now j, none⟩ = some (.int .u64 (hdr o.k o.ws.length o.t : Nat))
  field : ∀ i, i < o.ws.length → w.cell? ⟨g, start now j + 1 + i, none⟩ = some (.int .u64 (o.ws.getD i 0 : Nat))
  frozen : ∀ i, i < o.ws.length → w.frozen? ⟨g, start now j + 1 + i, none⟩ = false
  fits : start now j + o.ws.length < used now
  right : rightB o.k o.ws.length o.t = true
theorem at_of (m : Mem w b W h R now old) (z : WF W h now old) {j : Nat} {o : Ob} (ho : now[j]? = some o) : ∃ g cap, At w b h R now j g cap o := by
  obtain ⟨hj, rfl⟩ := List.getElem?_eq_some_iff.1 ho
  have hh := z.hh
  have hlt := start_lt now hj
  have hlen : (rowsOf h now old (h * 2)).length = used now := by rw [rows_cells, half_now, flat_length]
  obtain ⟨g, cap, hv, hle, hcap⟩ := m.some_row (r := h * 2) (j := start now j) (by omega) (by rw [hlen]; omega)
  rw [hlen] at hv hle
  have hcell : ∀ c x, c < used now → (flat now)[c]? = some x → w.cell? ⟨g, c, none⟩ = some (.int .u64 (x : Nat)) := fun c x hc hx => by
    have h1 := (m.row_cell (r := h * 2) (j := c) (by omega) (by rw [hlen]; exact hc) hv).1
    rw [rows_cells, half_now, List.getD_eq_getElem?_getD, hx] at h1
    exact h1
  obtain ⟨f1, f2⟩ := flat_at now hj
  have hok := z.okn _ (List.getElem_mem hj)
  have hfr := z.fresh _ (List.getElem_mem hj)
  refine ⟨g, cap, (m.cr (h * 2) (by omega)).trans (by rw [hv]), hv, hle, hcap, hcell _ _ (by omega) (by rw [f1]; unfold Ob.hw; rw [if_pos hfr]), fun i hi => hcell _ _ (by omega) ?_, fun i hi => (m.row_cell (r := h * 2) (j := start now j + 1 + i) (by omega) (by rw [hlen]; omega) hv).2, hlt, hok.right⟩
  rw [f2 i hi, List.getD_eq_getElem?_getD, List.getElem?_eq_getElem hi]; rfl
theorem At.drewN {j g cap : Nat} {o : Ob} (a : At w b h R now j g cap o) (n : Nat) : At (w.drewN n) b h R now j g cap o := ⟨a.row, a.val, a.cap1, a.cap2, a.head, a.field, a.frozen, a.fits, a.right⟩
set_option maxHeartbeats 1000000 in
theorem field_miss (m : Mem w b W h R now old) (z : WF W h now old) (a i : Int) (ha2 : a ≤ 9223372036854775807) (hi : idxAt now h W a = none) :
    Calls Tryz.prog 84 #[.pointer (some ⟨b, 0, none⟩), .int .i64 a, .int .i64 i] w fun e w' => e = .returned (.tuple #[.int .i64 0, .int .i64 20]) ∧ ∃ n, w' = w.drewN n := by
  have c1 := m.c1
  have hf := find_idx m z h z.hh a ha2
  rw [half_now, hi] at hf
  have HF := Lib.hid hf
  clear m z hf hi
  go_enter Tryz.func84, Tryz.ntmps84
  go_wp2_with fail
  refine HF.out.mono ?_
  rintro e w1 ⟨rfl, rfl⟩
  go_wp2_with fail
  go_ret2
  exact ⟨rfl, 0, rfl⟩
set_option maxHeartbeats 2000000 in
theorem field_bad (m : Mem w b W h R now old) (z : WF W h now old) (a i : Int) (ha2 : a ≤ 9223372036854775807) {j : Nat} {o : Ob} (hi : idxAt now h W a = some j) (ho : now[j]? = some o) (hr : i < 0 ∨ (o.ws.length : Int) ≤ i) :
    Calls Tryz.prog 84 #[.pointer (some ⟨b, 0, none⟩), .int .i64 a, .int .i64 i] w fun e w' => e = .returned (.tuple #[.int .i64 0, .int .i64 20]) ∧ ∃ n, w' = w.drewN n := by
  have c1 := m.c1
  obtain ⟨g, cap, A⟩ := at_of m z ho
  have hf := find_idx m z h z.hh a ha2
  rw [half_now, hi] at hf
  have HF := Lib.hid hf
  have hh0 : (0 : Int) ≤ h := by omega
  have hh1 : (h : Int) < 2 := by have := z.hh; omega
  have r0 := A.row
  have r1 := A.head
  have r2 := A.fits
  have r3 := A.cap1
  have r4 := A.cap2
  have hs0 : (0 : Int) ≤ start now j := by omega
  have hs1 : (start now j : Int) < used now := by omega
  have HS := Lib.hid (fun W => split_o A.right W)
  have huw : used now ≤ 65536 := Nat.le_trans z.un z.w1
  clear m z hf hi A
  rcases hr with hr | hr
  · go_enter Tryz.func84, Tryz.ntmps84
    go_wp2_with fail
    refine HF.out.mono ?_
    rintro e w1 ⟨rfl, rfl⟩
    go_wp2_with fail
    go_quiet ((go_at_call 83; refine Calls.quiet_of_same (HS.out _)))
    go_wp2_with fail
    go_ret2
    exact ⟨rfl, _, rfl⟩
  · have hr0 : ¬ i < 0 := by omega
    go_enter Tryz.func84, Tryz.ntmps84
    go_wp2_with fail
    refine HF.out.mono ?_
    rintro e w1 ⟨rfl, rfl⟩
    go_wp2_with fail
    go_quiet ((go_at_call 83; refine Calls.quiet_of_same (HS.out _)))
    go_wp2_with fail
    go_ret2
    exact ⟨rfl, _, rfl⟩
set_option maxHeartbeats 2000000 in
theorem field_hit (m : Mem w b W h R now old) (z : WF W h now old) (a : Int) (i : Nat) (ha2 : a ≤ 9223372036854775807) {j : Nat} {o : Ob} (hi : idxAt now h W a = some j) (ho : now[j]? = some o) (hr : i < o.ws.length) :
    Calls Tryz.prog 84 #[.pointer (some ⟨b, 0, none⟩), .int .i64 a, .int .i64 i] w fun e w' => e = .returned (.tuple #[.int .i64 (start now j + 1 + i : Nat), .int .i64 0]) ∧ ∃ n, w' = w.drewN n := by
  have c1 := m.c1
  obtain ⟨g, cap, A⟩ := at_of m z ho
  have hf := find_idx m z h z.hh a ha2
  rw [half_now, hi] at hf
  have HF := Lib.hid hf
  have hh0 : (0 : Int) ≤ h := by omega
  have hh1 : (h : Int) < 2 := by have := z.hh; omega
  have r0 := A.row
  have r1 := A.head
  have r2 := A.fits
  have r3 := A.cap1
  have r4 := A.cap2
  have hs0 : (0 : Int) ≤ start now j := by omega
  have hs1 : (start now j : Int) < used now := by omega
  have HS := Lib.hid (fun W => split_o A.right W)
  have huw : used now ≤ 65536 := Nat.le_trans z.un z.w1
  have hri : (i : Int) < o.ws.length := by omega
  clear m z hf hi A
  go_enter Tryz.func84, Tryz.ntmps84
  go_wp2_with fail
  refine HF.out.mono ?_
  rintro e w1 ⟨rfl, rfl⟩
  go_wp2_with fail
  go_quiet ((go_at_call 83; refine Calls.quiet_of_same (HS.out _)))
  go_wp2_with fail
  go_ret2
  exact ⟨ret2 (by omega) rfl, _, rfl⟩
end
end Go.Proofs.YtpoblealgooamaaGreatDoor
namespace Go.Proofs.YtpoblealgooamaaGreatDoor
open Go Go.RowKit
section
variable {w : World} {b W h : Nat} {R : Nat → Value} {now old : List Ob}
set_option maxHeartbeats 1000000 in
theorem load_err (a i : Int) (hf : Calls Tryz.prog 84 #[.pointer (some ⟨b, 0, none⟩), .int .i64 a, .int .i64 i] w fun e w' => e = .returned (.tuple #[.int .i64 0, .int .i64 20]) ∧ ∃ n, w' = w.drewN n) :
    Calls Tryz.prog 50 #[.pointer (some ⟨b, 0, none⟩), .int .i64 a, .int .i64 i] w fun e w' => e = .returned (.tuple #[.int .u64 0, .int .i64 20]) ∧ ∃ n, w' = w.drewN n := by
  have HF := Lib.hid hf
  clear hf
  go_enter Tryz.func50, Tryz.ntmps50
  go_wp2_with fail
  refine HF.out.mono ?_
  rintro e w1 ⟨rfl, n, rfl⟩
  go_wp2_with fail
  go_ret2
  exact ⟨rfl, n, rfl⟩
set_option maxHeartbeats 2000000 in
theorem load_hit (m : Mem w b W h R now old) (z : WF W h now old) (a : Int) (i : Nat) (ha2 : a ≤ 9223372036854775807) {j : Nat} {o : Ob} (hi : idxAt now h W a = some j) (ho : now[j]? = some o) (hr : i < o.ws.length) :
    Calls Tryz.prog 50 #[.pointer (some ⟨b, 0, none⟩), .int .i64 a, .int .i64 i] w fun e w' => e = .returned (.tuple #[.int .u64 (o.ws.getD i 0 : Nat), .int .i64 0]) ∧ ∃ n, w' = w.drewN n := by
  have c1 := m.c1
  obtain ⟨g, cap, A⟩ := at_of m z ho
  have HF := Lib.hid (field_hit m z a i ha2 hi ho hr)
  have hh0 : (0 : Int) ≤ h := by omega
  have hh1 : (h : Int) < 2 := by have := z.hh; omega
  have r0 := A.row
  have r1 := A.field i hr
  have r2 := A.fits
  have r3 := A.cap1
  have r4 := A.cap2
  obtain ⟨q, hq⟩ : ∃ q, start now j + 1 + i = q := ⟨_, rfl⟩
  rw [hq] at r1 HF
  obtain ⟨v, hv⟩ : ∃ v, o.ws.getD i 0 = v := ⟨_, rfl⟩
  rw [hv] at r1 ⊢
  have hs0 : (0 : Int) ≤ q := by omega
  have hs1 : (q : Int) < used now := by omega
  have huw : used now ≤ 65536 := Nat.le_trans z.un z.w1
  clear m z hi A hq
  go_enter Tryz.func50, Tryz.ntmps50
  go_wp2_with fail
  refine HF.out.mono ?_
  rintro e w1 ⟨rfl, n, rfl⟩
  go_wp2_with fail
  go_quiet (fail)
  go_wp2_with fail
  go_ret2
  exact ⟨rfl, _, World.drewN_drewN _ _ _⟩
set_option maxHeartbeats 2000000 in
theorem look_miss (m : Mem w b W h R now old) (z : WF W h now old) (a : Int) (ha2 : a ≤ 9223372036854775807) (hi : idxAt now h W a = none) :
    Calls Tryz.prog 47 #[.pointer (some ⟨b, 0, none⟩), .int .i64 a] w fun e w' => e = .returned (.tuple #[.int .i64 0, .int .i64 0, .int .i64 0, .int .i64 20]) ∧ ∃ n, w' = w.drewN n := by
  have c1 := m.c1
  have hf := find_idx m z h z.hh a ha2
  rw [half_now, hi] at hf
  have HF := Lib.hid hf
  clear m z hf hi
  go_enter Tryz.func47, Tryz.ntmps47
  go_wp2_with fail
  refine HF.out.mono ?_
  rintro e w1 ⟨rfl, rfl⟩
  go_wp2_with fail
  refine bodyPost_ret (results_tmp4 rfl _ _ _) rfl ?_
  exact ⟨rfl, 0, rfl⟩
set_option maxHeartbeats 2000000 in
theorem look_hit (m : Mem w b W h R now old) (z : WF W h now old) (a : Int) (ha2 : a ≤ 9223372036854775807) {j : Nat} {o : Ob} (hi : idxAt now h W a = some j) (ho : now[j]? = some o) :
    Calls Tryz.prog 47 #[.pointer (some ⟨b, 0, none⟩), .int .i64 a] w fun e w' => e = .returned (.tuple #[.int .i64 o.k, .int .i64 o.ws.length, .int .i64 o.t, .int .i64 0]) ∧ ∃ n, w' = w.drewN n := by
  have c1 := m.c1
  obtain ⟨g, cap, A⟩ := at_of m z ho
  have hf := find_idx m z h z.hh a ha2
  rw [half_now, hi] at hf
  have HF := Lib.hid hf
  have hh0 : (0 : Int) ≤ h := by omega
  have hh1 : (h : Int) < 2 := by have := z.hh; omega
  have r0 := A.row
  have r1 := A.head
  have r2 := A.fits
  have r3 := A.cap1
  have r4 := A.cap2
  have hs0 : (0 : Int) ≤ start now j := by omega
  have hs1 : (start now j : Int) < used now := by omega
  have HS := Lib.hid (fun W => split_o A.right W)
  have huw : used now ≤ 65536 := Nat.le_trans z.un z.w1
  clear m z hf hi A
  go_enter Tryz.func47, Tryz.ntmps47
  go_wp2_with fail
  refine HF.out.mono ?_
  rintro e w1 ⟨rfl, rfl⟩
  go_wp2_with fail
  go_quiet ((go_at_call 83; refine Calls.quiet_of_same (HS.out _)))
  go_wp2_with fail
  refine bodyPost_ret (results_tmp4 rfl _ _ _) rfl ?_
  exact ⟨rfl, _, rfl⟩
set_option maxHeartbeats 1000000 in
theorem store_err (a i : Int) (x : Int) (hf : Calls Tryz.prog 84 #[.pointer (some ⟨b, 0, none⟩), .int .i64 a, .int .i64 i] w fun e w' => e = .returned (.tuple #[.int .i64 0, .int .i64 20]) ∧ ∃ n, w' = w.drewN n) :
    Calls Tryz.prog 68 #[.pointer (some ⟨b, 0, none⟩), .int .i64 a, .int .i64 i, .int .u64 x] w fun e w' => e = .returned (.int .i64 20) ∧ ∃ n, w' = w.drewN n := by
  have HF := Lib.hid hf
  clear hf
  go_enter Tryz.func68, Tryz.ntmps68
  go_wp2_with fail
  refine HF.out.mono ?_
  rintro e w1 ⟨rfl, n, rfl⟩
  go_wp2_with fail
  go_ret
  exact ⟨rfl, n, rfl⟩
set_option maxRecDepth 100000 in
set_option maxHeartbeats 2000000 in
theorem store_raw (m : Mem w b W h R now old) (z : WF W h now old) (a : Int) (i x : Nat) (ha2 : a ≤ 9223372036854775807) {j : Nat} {o : Ob} (hi : idxAt now h W a = some j) (ho : now[j]? = some o) (hr : i < o.ws.length) :
    Calls Tryz.prog 68 #[.pointer (some ⟨b, 0, none⟩), .int .i64 a, .int .i64 i, .int .u64 x] w fun e w' => e = .returned (.int .i64 0) ∧ ∃ g cap n, R (h * 2) = .slice (some ⟨g, 0, none⟩) (used now) cap ∧ w' = (w.setCell ⟨g, start now j + 1 + i, none⟩ (.int .u64 x)).drewN n := by
  have c1 := m.c1
  obtain ⟨g, cap, A⟩ := at_of m z ho
  have HF := Lib.hid (field_hit m z a i ha2 hi ho hr)
  have hh0 : (0 : Int) ≤ h := by omega
  have hh1 : (h : Int) < 2 := by have := z.hh; omega
  have HV := Lib.hid A.val
  have r0 := A.row
  have r1 := A.field i hr
  have r5 := A.frozen i hr
  have r2 := A.fits
  have r3 := A.cap1
  have r4 := A.cap2
  obtain ⟨q, hq⟩ : ∃ q, start now j + 1 + i = q := ⟨_, rfl⟩
  rw [hq] at r1 r5 HF
  rw [hq]
  have hs0 : (0 : Int) ≤ q := by omega
  have hs1 : (q : Int) < used now := by omega
  have huw : used now ≤ 65536 := Nat.le_trans z.un z.w1
  clear m z hi A hq
  go_enter Tryz.func68, Tryz.ntmps68
  go_wp2_with fail
  refine HF.out.mono ?_
  rintro e w1 ⟨rfl, n, hn⟩
  have c1' : w1.cell? ⟨b, 1, none⟩ = some (.int .i64 h) := by rw [hn]; exact c1
  have r0' : w1.cell? ⟨b, 2 + h * 2, none⟩ = some (.slice (some ⟨g, 0, none⟩) (used now) cap) := by rw [hn]; exact r0
  have r1' : w1.cell? ⟨g, q, none⟩ = some (.int .u64 (o.ws.getD i 0 : Nat)) := by rw [hn]; exact r1
  have r5' : w1.frozen? ⟨g, q, none⟩ = false := by rw [hn]; exact r5
  have HN := Lib.hid hn
  clear hn c1 r0 r1 r5
  go_wp2_with fail
  go_still_tail 13, (by kernel_rfl)
  go_wp2_with fail
  go_ret
  exact ⟨rfl, g, cap, n + 1, HV.out, by rw [HN.out]; rfl⟩
end
end Go.Proofs.YtpoblealgooamaaGreatDoor
namespace Go.Proofs.YtpoblealgooamaaGreatDoor
open Go Go.RowKit
def sz (os : List Ob) : List Nat := os.map fun o => o.ws.length
theorem used_sz (os : List Ob) : used os = ((sz os).map (1 + ·)).sum := by
  unfold used sz; rw [List.map_map]; rfl
theorem sz_take (os : List Ob) (j : Nat) : sz (os.take j) = (sz os).take j := by unfold sz; rw [List.map_take]
theorem start_congr {a c : List Ob} (h : sz a = sz c) (j : Nat) : start a j = start c j := by
  unfold start; rw [used_sz, used_sz, sz_take, sz_take, h]
theorem used_congr {a c : List Ob} (h : sz a = sz c) : used a = used c := by rw [used_sz, used_sz, h]
theorem len_congr {a c : List Ob} (h : sz a = sz c) : a.length = c.length := by
  have := congrArg List.length h
  simpa [sz] using this
theorem marksL_congr {a c : List Ob} (h : sz a = sz c) : marksL a = marksL c := by
  unfold marksL
  rw [len_congr h]
  congr 1
  exact List.map_congr_left fun j _ => start_congr h j
theorem idxAt_congr {a c : List Ob} (h : sz a = sz c) (k W : Nat) (x : Int) : idxAt a k W x = idxAt c k W x := by
  unfold idxAt
  rw [len_congr h]
  congr 1
  funext j
  rw [start_congr h]
theorem sz_set {os : List Ob} {j : Nat} {o o' : Ob} (ho : os[j]? = some o) (hl : o'.ws.length = o.ws.length) : sz (os.set j o') = sz os := by
  unfold sz
  rw [List.map_set, hl]
  apply List.ext_getElem?
  intro i
  by_cases e : i = j
  · subst e
    obtain ⟨hj, rfl⟩ := List.getElem?_eq_some_iff.1 ho
    rw [List.getElem?_set_self (by simpa using hj)]
    simp [hj]
  · rw [List.getElem?_set_ne (fun q => e q.symm)]
theorem flat_split {os : List Ob} {j : Nat} (hj : j < os.length) : flat os = flat (os.take j) ++ ((os[j].hw :: os[j].ws) ++ flat (os.drop (j + 1))) := by
  have e : os = os.take j ++ (os[j] :: os.drop (j + 1)) := by rw [← List.drop_eq_getElem_cons hj, List.take_append_drop]
  conv => lhs; rw [e]
  rw [flat_append]; rfl
theorem flat_set {os : List Ob} {j : Nat} (hj : j < os.length) (o' : Ob) : flat (os.set j o') = flat (os.take j) ++ ((o'.hw :: o'.ws) ++ flat (os.drop (j + 1))) := by
  have hj' : j < (os.set j o').length := by simpa using hj
  rw [flat_split hj', List.getElem_set_self, List.take_set_of_le (Nat.le_refl _), List.drop_set_of_lt (Nat.lt_succ_self _)]
theorem flat_set_field {os : List Ob} {j i x : Nat} {o : Ob} (ho : os[j]? = some o) (hi : i < o.ws.length) : flat (os.set j { o with ws := o.ws.set i x }) = (flat os).set (start os j + 1 + i) x := by
  obtain ⟨hj, rfl⟩ := List.getElem?_eq_some_iff.1 ho
  have hl : (flat (os.take j)).length = start os j := by rw [flat_length]; rfl
  rw [flat_set hj, flat_split hj, List.set_append_right _ _ (by omega), hl, show start os j + 1 + i - start os j = i + 1 by omega]
  congr 1
  have e1 : ({ os[j] with ws := os[j].ws.set i x } : Ob).hw = os[j].hw := by simp [Ob.hw]
  rw [e1, List.set_append_left _ _ (by simp; omega)]
  rfl
theorem flat_set_head {os : List Ob} {j t : Nat} {o : Ob} (ho : os[j]? = some o) (ht : t ≠ 0) : flat (os.set j { o with to := t }) = (flat os).set (start os j) (2 * t) := by
  obtain ⟨hj, rfl⟩ := List.getElem?_eq_some_iff.1 ho
  have hl : (flat (os.take j)).length = start os j := by rw [flat_length]; rfl
  rw [flat_set hj, flat_split hj, List.set_append_right _ _ (by omega), hl, Nat.sub_self]
  congr 1
  have e1 : ({ os[j] with to := t } : Ob).hw = 2 * t := by simp [Ob.hw, ht]
  rw [e1, List.set_append_left _ _ (by simp)]
  rfl
theorem MemV.congr {w : World} {b W h : Nat} {R : Nat → Value} {L L' : Nat → List Nat} (m : MemV w b W h R L) (e : ∀ r, r < 4 → L r = L' r) : MemV w b W h R L' :=
  ⟨m.c0, m.c1, m.cr, m.fz, fun r hr => by rw [← e r hr]; exact m.own r hr, m.sep, m.far⟩
theorem rows_upd_now {h : Nat} {now now' old : List Ob} (hs : sz now' = sz now) (r : Nat) : upd (rowsOf h now old) (h * 2) (flat now') r = rowsOf h now' old r := by
  by_cases e : r = h * 2
  · subst e; rw [upd_same, rows_cells, half_now]
  · rw [upd_other _ _ e]
    unfold rowsOf
    by_cases e2 : r / 2 = h
    · have p : ¬ r % 2 = 0 := by omega
      rw [if_neg p, if_neg p, if_pos e2, if_pos e2, marksL_congr hs]
    · rw [if_neg e2, if_neg e2]
theorem rows_upd_old {h k : Nat} {now old old' : List Ob} (hk : k < 2) (hh : h < 2) (hne : k ≠ h) (hs : sz old' = sz old) (r : Nat) (hr : r < 4) : upd (rowsOf h now old) (k * 2) (flat old') r = rowsOf h now old' r := by
  by_cases e : r = k * 2
  · subst e; rw [upd_same, rows_cells, half_old _ _ hne]
  · rw [upd_other _ _ e]
    unfold rowsOf
    by_cases e2 : r / 2 = h
    · rw [if_pos e2, if_pos e2]
    · have p : ¬ r % 2 = 0 := by omega
      rw [if_neg p, if_neg p, if_neg e2, if_neg e2, marksL_congr hs]
end Go.Proofs.YtpoblealgooamaaGreatDoor
namespace Go.Proofs.YtpoblealgooamaaGreatDoor
open Go Go.RowKit
theorem new_bad (W : Int) (hW : W < 64 ∨ 65536 < W) (w : World) : Calls Tryz.prog 18 #[.int .i64 W] w fun e w' => e = .returned (.tuple #[.pointer none, .int .i64 1]) ∧ w' = w := by
  rcases hW with h | h
  · go_enter Tryz.func18, Tryz.ntmps18
    go_wp2
    go_ret2
    exact ⟨rfl, rfl⟩
  · have h' : ¬ W < 64 := by omega
    go_enter Tryz.func18, Tryz.ntmps18
    go_wp2
    go_ret2
    exact ⟨rfl, rfl⟩
def newObj (W : Nat) : Obj := .cells #[.int .i64 W, .int .i64 0, .slice none 0 0, .slice none 0 0, .slice none 0 0, .slice none 0 0] 103
theorem new_raw (W : Nat) (h0 : 64 ≤ W) (h1 : W ≤ 65536) (w : World) : Calls Tryz.prog 18 #[.int .i64 W] w fun e w' => e = .returned (.tuple #[.pointer (some ⟨w.heap.size, 0, none⟩), .int .i64 0]) ∧ w' = w.alloc (newObj W) := by
  go_enter Tryz.func18, Tryz.ntmps18
  go_wp2
  go_ret2
  exact ⟨rfl, rfl⟩
theorem rows_empty (r : Nat) : rowsOf 0 [] [] r = [] := by
  unfold rowsOf
  split <;> split <;> rfl
theorem new_mem (W : Nat) (w : World) : Mem (w.alloc (newObj W)) w.heap.size W 0 (fun _ => .slice none 0 0) [] [] := by
  have hb : (w.alloc (newObj W)).heap[w.heap.size]? = some (newObj W) := heap_alloc_new w _
  have hc : ∀ i, (w.alloc (newObj W)).cell? ⟨w.heap.size, i, none⟩ = (#[.int .i64 W, .int .i64 0, .slice none 0 0, .slice none 0 0, .slice none 0 0, .slice none 0 0] : Array Value)[i]? := fun i => by unfold World.cell?; rw [show ((⟨w.heap.size, i, none⟩ : Addr).block) = w.heap.size from rfl, hb]; rfl
  refine ⟨hc 0, hc 1, fun r hr => ?_, fun j => by unfold World.frozen?; rw [show ((⟨w.heap.size, j, none⟩ : Addr).block) = w.heap.size from rfl, hb]; simp [newObj], fun r _ => ?_, fun _ _ _ _ _ g hg => ?_, fun _ _ hg => ?_⟩
  · rw [hc]
    have : r = 0 ∨ r = 1 ∨ r = 2 ∨ r = 3 := by omega
    rcases this with rfl | rfl | rfl | rfl <;> rfl
  · rw [rows_empty]; exact World.ownsRow_nil _ _ _ _
  · cases hg
  · cases hg
theorem wf_new {W : Nat} (h0 : 64 ≤ W) (h1 : W ≤ 65536) : WF W 0 [] [] :=
  ⟨h0, h1, by decide, by simp [used], by simp [used], by simp, by simp, by simp [Fresh]⟩
section
variable {w : World} {b W h : Nat} {R : Nat → Value} {now old : List Ob}
/-- a field of an object in use is stored -/
def setF (now : List Ob) (j i x : Nat) : List Ob := match now[j]? with
  | some o => now.set j { o with ws := o.ws.set i x }
  | none => now
theorem setF_eq {j i x : Nat} {o : Ob} (ho : now[j]? = some o) : setF now j i x = now.set j { o with ws := o.ws.set i x } := by unfold setF; rw [ho]
theorem setF_sz {j i x : Nat} {o : Ob} (ho : now[j]? = some o) : sz (setF now j i x) = sz now := by
  rw [setF_eq ho]; exact sz_set ho (by simp)
theorem wf_set {j : Nat} {o o' : Ob} (z : WF W h now old) (ho : now[j]? = some o) (hl : o'.ws.length = o.ws.length) (hok : ObOk o') (hto : o'.to = 0) : WF W h (now.set j o') old := by
  refine ⟨z.w0, z.w1, z.hh, ?_, z.uo, fun x hx => ?_, z.oko, fun x hx => ?_⟩
  · rw [used_congr (sz_set ho hl)]; exact z.un
  · rcases List.mem_or_eq_of_mem_set hx with e | e
    · exact z.okn x e
    · rw [e]; exact hok
  · rcases List.mem_or_eq_of_mem_set hx with e | e
    · exact z.fresh x e
    · rw [e]; exact hto
theorem wf_setF {j i x : Nat} {o : Ob} (z : WF W h now old) (ho : now[j]? = some o) (hx : x < 18446744073709551616) : WF W h (setF now j i x) old := by
  have hm := List.mem_of_getElem? ho
  have hok := z.okn o hm
  rw [setF_eq ho]
  refine wf_set z ho (by simp) ⟨by simpa using hok.right, hok.to, fun y hy => ?_⟩ (z.fresh o hm)
  rcases List.mem_or_eq_of_mem_set hy with e | e
  · exact hok.word y e
  · omega
theorem store_hit (m : Mem w b W h R now old) (z : WF W h now old) (a : Int) (i x : Nat) (ha2 : a ≤ 9223372036854775807) {j : Nat} {o : Ob} (hi : idxAt now h W a = some j) (ho : now[j]? = some o) (hr : i < o.ws.length) :
    Calls Tryz.prog 68 #[.pointer (some ⟨b, 0, none⟩), .int .i64 a, .int .i64 i, .int .u64 x] w fun e w' => e = .returned (.int .i64 0) ∧ Mem w' b W h R (setF now j i x) old ∧ Fr (Own b R) w w' := by
  refine (store_raw m z a i x ha2 hi ho hr).mono ?_
  rintro e w' ⟨rfl, g, cap, n, hv, rfl⟩
  have hh := z.hh
  refine ⟨rfl, ?_, ((Fr.refl _ _).setCell (.inl (.inr ⟨h * 2, by omega, by rw [hv]; rfl⟩)) _).drewN n⟩
  have m2 := m.set_cell (r := h * 2) (j := start now j + 1 + i) (z := x) (by omega) hv
  refine (MemV.congr m2 fun r _ => ?_).drewN n
  rw [rows_cells, half_now, ← flat_set_field (x := x) ho hr, ← setF_eq ho]
  exact rows_upd_now (setF_sz ho) r
theorem own_zero {B : Nat} {e : TypeId} {a : Option Addr} {n cap : Nat} {xs : List Value} (ho : w.ownsRow B e 1 (.slice a n cap) n xs) : w.ownsRow B e 1 (.slice a 0 cap) 0 [] := by
  rcases ho.2 with ⟨hv, h0⟩ | ⟨g, cap', cur, hv, hb, hg, h1, h2, h3, _⟩
  · injection hv with ha _ hc
    subst ha hc
    exact World.ownsRow_nil _ _ _ _
  · injection hv with ha _ hc
    subst ha hc
    exact ⟨by simp, .inr ⟨g, cap, cur, rfl, hb, hg, Nat.zero_le _, h2, h3, by simp⟩⟩
set_option maxRecDepth 100000 in
set_option maxHeartbeats 2000000 in
theorem flip_raw_0 (a1 a2 : Option Addr) (n1 n2 k1 k2 : Nat) (c1 : w.cell? ⟨b, 1, none⟩ = some (.int .i64 0)) (c2 : w.cell? ⟨b, 4, none⟩ = some (.slice a1 n1 k1)) (c3 : w.cell? ⟨b, 5, none⟩ = some (.slice a2 n2 k2))
    (f1 : w.frozen? ⟨b, 1, none⟩ = false) (f2 : w.frozen? ⟨b, 4, none⟩ = false) (f3 : w.frozen? ⟨b, 5, none⟩ = false) :
    Calls Tryz.prog 66 #[.pointer (some ⟨b, 0, none⟩)] w fun e w' => e = .returned (.int .i64 0) ∧ ∃ n, w' = (((w.setCell ⟨b, 1, none⟩ (.int .i64 1)).setCell ⟨b, 4, none⟩ (.slice a1 0 k1)).setCell ⟨b, 5, none⟩ (.slice a2 0 k2)).drewN n := by
  cases a1 <;> cases a2
  all_goals
    go_enter Tryz.func66, Tryz.ntmps66
    go_wp2
    go_quiet (fail)
    go_wp2
    obtain ⟨W1, hW1⟩ : ∃ W1, (w.setCell ⟨b, 1, none⟩ (.int .i64 1)).drewN nq = W1 := ⟨_, rfl⟩
    have e2 : ∀ o v, o ≠ 1 → w.cell? ⟨b, o, none⟩ = some v → W1.cell? ⟨b, o, none⟩ = some v := fun o v ho hv => by
      rw [← hW1]; exact (World.cell?_setCell_other _ _ _ _ (by intro q; injection q with _ q2; exact ho q2.symm)).trans hv
    have e3 : ∀ o, w.frozen? ⟨b, o, none⟩ = false → W1.frozen? ⟨b, o, none⟩ = false := fun o hv => by
      rw [← hW1]; exact (World.frozen?_setCell _ _ _ _).trans hv
    have c2' := e2 _ _ (by decide) c2
    have c3' := e2 _ _ (by decide) c3
    have f2' := e3 _ f2
    have f3' := e3 _ f3
    rw [hW1]
    have HW := Lib.hid hW1
    clear hW1 e2 e3 c1 c2 c3 f1 f2 f3
    go_region
    all_goals
      go_wp2_with fail
      go_ret
      exact ⟨rfl, nq + 1, by rw [← HW.out]; rfl⟩
set_option maxRecDepth 100000 in
set_option maxHeartbeats 2000000 in
theorem flip_raw_1 (a1 a2 : Option Addr) (n1 n2 k1 k2 : Nat) (c1 : w.cell? ⟨b, 1, none⟩ = some (.int .i64 1)) (c2 : w.cell? ⟨b, 2, none⟩ = some (.slice a1 n1 k1)) (c3 : w.cell? ⟨b, 3, none⟩ = some (.slice a2 n2 k2))
    (f1 : w.frozen? ⟨b, 1, none⟩ = false) (f2 : w.frozen? ⟨b, 2, none⟩ = false) (f3 : w.frozen? ⟨b, 3, none⟩ = false) :
    Calls Tryz.prog 66 #[.pointer (some ⟨b, 0, none⟩)] w fun e w' => e = .returned (.int .i64 0) ∧ ∃ n, w' = (((w.setCell ⟨b, 1, none⟩ (.int .i64 0)).setCell ⟨b, 2, none⟩ (.slice a1 0 k1)).setCell ⟨b, 3, none⟩ (.slice a2 0 k2)).drewN n := by
  cases a1 <;> cases a2
  all_goals
    go_enter Tryz.func66, Tryz.ntmps66
    go_wp2
    go_quiet (fail)
    go_wp2
    obtain ⟨W1, hW1⟩ : ∃ W1, (w.setCell ⟨b, 1, none⟩ (.int .i64 0)).drewN nq = W1 := ⟨_, rfl⟩
    have e2 : ∀ o v, o ≠ 1 → w.cell? ⟨b, o, none⟩ = some v → W1.cell? ⟨b, o, none⟩ = some v := fun o v ho hv => by
      rw [← hW1]; exact (World.cell?_setCell_other _ _ _ _ (by intro q; injection q with _ q2; exact ho q2.symm)).trans hv
    have e3 : ∀ o, w.frozen? ⟨b, o, none⟩ = false → W1.frozen? ⟨b, o, none⟩ = false := fun o hv => by
      rw [← hW1]; exact (World.frozen?_setCell _ _ _ _).trans hv
    have c2' := e2 _ _ (by decide) c2
    have c3' := e2 _ _ (by decide) c3
    have f2' := e3 _ f2
    have f3' := e3 _ f3
    rw [hW1]
    have HW := Lib.hid hW1
    clear hW1 e2 e3 c1 c2 c3 f1 f2 f3
    go_region
    all_goals
      go_wp2_with fail
      go_ret
      exact ⟨rfl, nq + 1, by rw [← HW.out]; rfl⟩
theorem zero_blocks {a : Option Addr} {n cap g : Nat} (hg : (Value.slice a 0 cap).ownBlock = some g) : (Value.slice a n cap).ownBlock = some g := by
  cases a with
  | none => cases hg
  | some a => exact hg
theorem flip_any (m : Mem w b W h R now old) (z : WF W h now old) :
    Calls Tryz.prog 66 #[.pointer (some ⟨b, 0, none⟩)] w fun e w' => e = .returned (.int .i64 0) ∧ ∃ R', Mem w' b W (1 - h) R' [] now ∧ (∀ i, Own b R' i → Own b R i) ∧ Fr (Own b R) w w' := by
  have hh := z.hh
  obtain ⟨a1, k1, hv1, _, _⟩ := m.shape (r := (1 - h) * 2) (by omega)
  obtain ⟨a2, k2, hv2, _, _⟩ := m.shape (r := (1 - h) * 2 + 1) (by omega)
  have key : ∀ n, ∃ R', Mem ((((w.setCell ⟨b, 1, none⟩ (.int .i64 (1 - h : Nat))).setCell ⟨b, 2 + (1 - h) * 2, none⟩ (.slice a1 0 k1)).setCell ⟨b, 2 + ((1 - h) * 2 + 1), none⟩ (.slice a2 0 k2)).drewN n) b W (1 - h) R' [] now ∧ (∀ i, Own b R' i → Own b R i) ∧
      Fr (Own b R) w ((((w.setCell ⟨b, 1, none⟩ (.int .i64 (1 - h : Nat))).setCell ⟨b, 2 + (1 - h) * 2, none⟩ (.slice a1 0 k1)).setCell ⟨b, 2 + ((1 - h) * 2 + 1), none⟩ (.slice a2 0 k2)).drewN n) := fun n => by
    have m1 := m.set_half (1 - h)
    have o1 := m1.own ((1 - h) * 2) (by omega)
    rw [hv1] at o1
    have m2 := m1.set_row (r := (1 - h) * 2) (by omega) (v := .slice a1 0 k1) (l := []) (own_zero o1) (fun g hg => by
      have hg' := zero_blocks (n := (rowsOf h now old ((1 - h) * 2)).length) hg
      rw [← hv1] at hg'
      exact ⟨fun e => m.far _ (by omega) (e ▸ hg'), fun s hs hne hsg => m.sep _ _ (by omega) hs (fun q => hne q.symm) g hg' hsg⟩)
    have o2 := m2.own ((1 - h) * 2 + 1) (by omega)
    rw [upd_other _ _ (by omega), upd_other _ _ (by omega), hv2] at o2
    have m3 := m2.set_row (r := (1 - h) * 2 + 1) (by omega) (v := .slice a2 0 k2) (l := []) (own_zero o2) (fun g hg => by
      have hg' := zero_blocks (n := (rowsOf h now old ((1 - h) * 2 + 1)).length) hg
      rw [← hv2] at hg'
      refine ⟨fun e => m.far _ (by omega) (e ▸ hg'), fun s hs hne hsg => ?_⟩
      by_cases e : s = (1 - h) * 2
      · subst e
        rw [upd_same] at hsg
        have hsg' := zero_blocks (n := (rowsOf h now old ((1 - h) * 2)).length) hsg
        rw [← hv1] at hsg'
        exact m.sep _ _ (by omega) (by omega) (by omega) g hg' hsg'
      · rw [upd_other _ _ e] at hsg
        exact m.sep _ _ (by omega) hs (fun q => hne q.symm) g hg' hsg)
    refine ⟨_, (MemV.congr m3 fun r hr => ?_).drewN n, fun i hi => ?_, ((((Fr.refl _ _).setCell (.inl (.inl rfl)) _).setCell (.inl (.inl rfl)) _).setCell (.inl (.inl rfl)) _).drewN n⟩
    · unfold upd rowsOf
      by_cases e1 : r = (1 - h) * 2 + 1
      · subst e1
        rw [if_pos rfl, if_neg (by omega), if_pos (by omega)]; rfl
      · rw [if_neg e1]
        by_cases e2 : r = (1 - h) * 2
        · subst e2
          rw [if_pos rfl, if_pos (by omega), if_pos (by omega)]; rfl
        · rw [if_neg e2]
          have q1 : r / 2 = h := by omega
          have q2 : ¬ r / 2 = 1 - h := by omega
          rw [if_pos q1, if_neg q2]
    · rcases hi with rfl | ⟨r, hr, hg⟩
      · exact .inl rfl
      · by_cases e1 : r = (1 - h) * 2 + 1
        · subst e1
          rw [upd_same] at hg
          have hg' := zero_blocks (n := (rowsOf h now old ((1 - h) * 2 + 1)).length) hg
          rw [← hv2] at hg'
          exact .inr ⟨_, hr, hg'⟩
        · rw [upd_other _ _ e1] at hg
          by_cases e2 : r = (1 - h) * 2
          · subst e2
            rw [upd_same] at hg
            have hg' := zero_blocks (n := (rowsOf h now old ((1 - h) * 2)).length) hg
            rw [← hv1] at hg'
            exact .inr ⟨_, hr, hg'⟩
          · rw [upd_other _ _ e2] at hg
            exact .inr ⟨_, hr, hg⟩
  have hh' : h = 0 ∨ h = 1 := by omega
  have c2 := m.cr ((1 - h) * 2) (by omega)
  have c3 := m.cr ((1 - h) * 2 + 1) (by omega)
  have f2 := m.fz (2 + (1 - h) * 2)
  have f3 := m.fz (2 + ((1 - h) * 2 + 1))
  rw [hv1] at c2
  rw [hv2] at c3
  rcases hh' with rfl | rfl
  · refine (flip_raw_0 a1 a2 _ _ k1 k2 m.c1 c2 c3 (m.fz 1) f2 f3).mono ?_
    rintro e w' ⟨rfl, n, rfl⟩
    exact ⟨rfl, key n⟩
  · refine (flip_raw_1 a1 a2 _ _ k1 k2 m.c1 c2 c3 (m.fz 1) f2 f3).mono ?_
    rintro e w' ⟨rfl, n, rfl⟩
    exact ⟨rfl, key n⟩
theorem wf_flip (z : WF W h now old) : WF W (1 - h) [] now :=
  ⟨z.w0, z.w1, by omega, by simp [used], z.un, by simp, z.okn, by simp [Fresh]⟩
end
end Go.Proofs.YtpoblealgooamaaGreatDoor
namespace Go.Proofs.YtpoblealgooamaaGreatDoor
open Go Go.RowKit
theorem infoU64 : (Tryz.prog.info? 31).map (fun i => (i.zero, i.size, i.bytes)) = some (some (.int .u64 0), 1, 8) := by kernel_rfl
section
variable {w w1 : World} {b W h : Nat} {R : Nat → Value} {L : Nat → List Nat}
/-- a row that has turned, or lies anew, is stored -/
theorem MemV.put_row (m : MemV w b W h R L) {r : Nat} (hr : r < 4) {v : Value} {l : List Nat} (hf : Fr (fun i => (R r).ownBlock = some i) w w1) (hv : w1.ownsRow 0 31 1 v l.length (u64s l)) (hs : ∀ g, v.ownBlock = some g → (R r).ownBlock = some g ∨ w.heap.size ≤ g) :
    MemV (w1.setCell ⟨b, 2 + r, none⟩ v) b W h (upd R r v) (upd L r l) ∧ (∀ i, Own b (upd R r v) i → Own b R i ∨ w.heap.size ≤ i) ∧ Fr (Own b R) w (w1.setCell ⟨b, 2 + r, none⟩ v) := by
  have hb : ¬ (R r).ownBlock = some b := m.far r hr
  have hg : ∀ g, v.ownBlock = some g → g ≠ b ∧ ∀ s, s < 4 → s ≠ r → (R s).ownBlock ≠ some g := fun g hg => by
    rcases hs g hg with e | e
    · exact ⟨fun q => hb (q ▸ e), fun s hs4 hne hsg => m.sep r s hr hs4 (fun q => hne q.symm) g e hsg⟩
    · exact ⟨fun q => by have := m.lt; omega, fun s hs4 _ hsg => by have := ((m.own s hs4).lt g hsg).2; omega⟩
  have hc1 : ∀ (o : Nat) (u : Value), w.cell? ⟨b, o, none⟩ = some u → w1.cell? ⟨b, o, none⟩ = some u := fun o u hu => hf.cell_some hu hb
  have hc : ∀ (o : Nat) (u : Value), o ≠ 2 + r → w.cell? ⟨b, o, none⟩ = some u → (w1.setCell ⟨b, 2 + r, none⟩ v).cell? ⟨b, o, none⟩ = some u := fun o u ho hu => (World.cell?_setCell_other _ _ _ _ (by intro q; injection q with _ q2; exact ho q2.symm)).trans (hc1 o u hu)
  have hfb : Fr (· = b) w1 (w1.setCell ⟨b, 2 + r, none⟩ v) := (Fr.refl (· = b) w1).setCell (p := ⟨b, 2 + r, none⟩) (.inl rfl) _
  refine ⟨⟨hc 0 _ (by omega) m.c0, hc 1 _ (by omega) m.c1, fun s hs4 => ?_, fun j => (World.frozen?_setCell _ _ _ _).trans ((hf.frozen m.lt hb).trans (m.fz j)), fun s hs4 => ?_, fun s t hs4 ht4 hne g => ?_, fun s hs4 => ?_⟩, fun i hi => ?_, ?_⟩
  · by_cases e : s = r
    · subst e; rw [upd_same]; exact World.cell?_setCell_same _ _ _ (hc1 _ _ (m.cr s hs4))
    · rw [upd_other _ _ e]; exact hc _ _ (by omega) (m.cr s hs4)
  · by_cases e : s = r
    · subst e; rw [upd_same, upd_same]; exact hfb.own hv (fun g hg' q => (hg g hg').1 q)
    · rw [upd_other _ _ e, upd_other _ _ e]
      exact hfb.own (hf.own (m.own s hs4) (fun g hg' q => m.sep r s hr hs4 (fun x => e x.symm) g q hg')) (fun g hg' q => m.far s hs4 (q ▸ hg'))
  · by_cases e : s = r
    · subst e
      rw [upd_same, upd_other _ _ (fun q => hne q.symm)]
      exact fun hg' => (hg g hg').2 t ht4 (fun q => hne q.symm)
    · rw [upd_other _ _ e]
      by_cases e2 : t = r
      · subst e2
        rw [upd_same]
        exact fun hg' hg2 => (hg g hg2).2 s hs4 e hg'
      · rw [upd_other _ _ e2]
        exact m.sep s t hs4 ht4 hne g
  · by_cases e : s = r
    · subst e; rw [upd_same]; exact fun hg' => (hg b hg').1 rfl
    · rw [upd_other _ _ e]; exact m.far s hs4
  · rcases hi with rfl | ⟨s, hs4, hg'⟩
    · exact .inl (.inl rfl)
    · by_cases e : s = r
      · subst e
        rw [upd_same] at hg'
        rcases hs i hg' with a | a
        · exact .inl (.inr ⟨s, hs4, a⟩)
        · exact .inr a
      · rw [upd_other _ _ e] at hg'
        exact .inl (.inr ⟨s, hs4, hg'⟩)
  · exact (hf.mono (fun i hi => .inl (.inr ⟨r, hr, hi⟩))).setCell (.inl (.inl rfl)) _
/-- what an append to a row leaves turned -/
theorem app_fr {r : Nat} {tmp : Obj} (hg : (w.alloc tmp).grownBy w1 (R r).ownBlock) : Fr (fun i => (R r).ownBlock = some i) w w1 :=
  ((Fr.refl _ w).alloc tmp).grown hg (fun _ hk => .inl hk)
def padded (M : List Nat) (k : Nat) : List Nat := M ++ List.replicate k 0
theorem padded_length (M : List Nat) (k : Nat) : (padded M k).length = M.length + k := by simp [padded]
theorem padded_succ (M : List Nat) (k : Nat) : u64s (padded M k) ++ [Value.int .u64 0] = u64s (padded M (k + 1)) := by
  unfold padded
  rw [List.replicate_succ', ← List.append_assoc, u64s_append (M ++ List.replicate k 0)]
  rfl
theorem ms_of {w0 : World} {O : Nat → Prop} {R' : Nat → Value} {L' : Nat → List Nat} {h' : Nat} (h1 : ∀ i, Own b R i → O i ∨ w0.heap.size ≤ i) (h2 : Fr O w0 w) (m : MemV w1 b W h' R' L') (h3 : ∀ i, Own b R' i → Own b R i ∨ w.heap.size ≤ i) (h4 : Fr (Own b R) w w1) : MS w0 O w1 b W h' L' := by
  refine ⟨R', m, fun i hi => ?_, h2.trans h4 h1⟩
  rcases h3 i hi with a | a
  · exact h1 i a
  · exact .inr (Nat.le_trans h2.size a)
theorem or_bit (x j : Nat) (hx : x < 18446744073709551616) (hj : j < 64) : bits BinOp.or IntKind.u64 (x : Int) (IntKind.u64.wrap (2 ^ j)) = ((x ||| 2 ^ j : Nat) : Int) := by
  have h2 : 2 ^ j < 2 ^ 64 := Nat.pow_lt_pow_right (by decide) hj
  have e : IntKind.u64.wrap (2 ^ j) = ((2 ^ j : Nat) : Int) := by
    rw [IntKind.wrap_u64]
    push_cast
    have h3 : ((2 : Int) ^ j) < 18446744073709551616 := by
      have := Int.ofNat_lt.2 h2
      rw [Int.natCast_pow] at this
      exact this
    have h4 : (0 : Int) < 2 ^ j := Int.pow_pos (by decide)
    omega
  rw [e, u64_or_nat x _ hx h2]
theorem padded_lt {M : List Nat} (hM : ∀ y ∈ M, y < 18446744073709551616) (k i : Nat) : (padded M k).getD i 0 < 18446744073709551616 := by
  rw [List.getD_eq_getElem?_getD]
  cases e : (padded M k)[i]? with
  | none => simp
  | some y =>
    rcases List.mem_append.1 (List.mem_of_getElem? e) with h | h
    · exact hM y h
    · have := List.eq_of_mem_replicate h
      simp [this]
set_option maxRecDepth 100000 in
set_option maxHeartbeats 4000000 in
theorem mark_any (m : MemV w b W h R L) (z : Sizes W h L) :
    Calls Tryz.prog 110 #[.pointer (some ⟨b, 2 + h * 2, none⟩)] w fun e w' => e = .returned (.tuple #[]) ∧ MS w (Own b R) w' b W h (upd L (h * 2 + 1) (markAt (L (h * 2 + 1)) (L (h * 2)).length)) := by
  obtain ⟨i0, hi, hz0, hz1, hz2⟩ := info_parts infoU64
  have hh := z.hh
  have cr := m.cr (h * 2) (by omega)
  obtain ⟨a, cap, hv, hle, hcap⟩ := m.shape (r := h * 2) (by omega)
  rw [hv] at cr
  have hl := z.len (h * 2) (by omega)
  have hl2 := z.len (h * 2 + 1) (by omega)
  obtain ⟨c, hc⟩ : ∃ c, (L (h * 2)).length = c := ⟨_, rfl⟩
  obtain ⟨M, hM⟩ : ∃ M, L (h * 2 + 1) = M := ⟨_, rfl⟩
  rw [hc] at cr hle hl ⊢
  rw [hM] at hl2 ⊢
  have HR0 := Lib.hid (show MS w (Own b R) w b W h (upd L (h * 2 + 1) (padded M 0)) from by
    refine ⟨R, MemV.congr m fun r _ => ?_, fun _ h => .inl h, Fr.refl _ _⟩
    by_cases e : r = h * 2 + 1
    · subst e; rw [upd_same, hM]; simp [padded]
    · rw [upd_other _ _ e])
  have HW := Lib.hid (show ∀ y ∈ M, y < 18446744073709551616 from by rw [← hM]; exact z.word _ (by omega))
  clear m z hv hM hc
  go_enter Tryz.func110, Tryz.ntmps110
  go_wp2
  go_loopg [24] (c / 64 + 1 - M.length) (fun g _ wr => ∃ k, k ≤ c / 64 + 1 - M.length ∧ g = c / 64 + 1 - M.length - k ∧ MS w (Own b R) wr b W h (upd L (h * 2 + 1) (padded M k)))
  case atStart => exact ⟨0, Nat.zero_le _, by omega, HR0.out⟩
  case round =>
    obtain ⟨k, hk, hg, R1, m1, ho1, hf1⟩ := hrel
    have HG := Lib.hid hg
    have HO1 := Lib.hid ho1
    have HF1 := Lib.hid hf1
    have hrow : wr.cell? ⟨b, 2 + h * 2 + 1, none⟩ = some (R1 (h * 2 + 1)) := m1.cr (h * 2 + 1) (by omega)
    obtain ⟨a1, cap1, hv1, hle1, hcap1⟩ := m1.shape (r := h * 2 + 1) (by omega)
    rw [upd_same, padded_length] at hv1 hle1
    rw [hv1] at hrow
    have hown : wr.ownsRow 0 31 1 (.slice a1 (M.length + k) cap1) (M.length + k) (u64s (padded M k)) := by
      have := m1.own (h * 2 + 1) (by omega)
      rw [upd_same, padded_length, hv1] at this
      exact this
    have hfz := m1.fz (2 + h * 2 + 1)
    have HV1 := Lib.hid hv1
    have HM1 := Lib.hid m1
    clear hg ho1 hf1 hv1 m1
    by_cases hlt : M.length + k ≤ c / 64
    · go_wp2_with (at_builtin; refine wpList_append_own_at _ rfl _ _ 52 rfl 0 31 i0 (.int .u64 0) 1 8 Tryz.underlying52 hi hz0 hz1 hz2 rfl (by decide) (.slice a1 (M.length + k) cap1) _ _ rfl (hown.alloc _) ⟨wr.heap.size, 0, none⟩ 1 1 [.int .u64 0] rfl rfl (cell_one_new _ _ _) (by simp [Value.oneCell']) (by unfold maxLen; omega) (by omega) (Nat.zero_le _) ?_; intro v' w1 hown' hgrow _ hblk; rw [padded_succ] at hown'; obtain ⟨g2, cap2, rfl⟩ := ownsRow_succ (k := M.length + k) hown'; have hfr := app_fr (R := R1) (r := h * 2 + 1) (by rw [HV1.out]; exact hgrow); have hc1 := hfr.cell_some hrow (HM1.out.far _ (by omega)); have hf1 := (hfr.frozen (p := ⟨b, 2 + h * 2 + 1, none⟩) HM1.out.lt (HM1.out.far _ (by omega))).trans hfz; have HFR := Lib.hid hfr; have HOWN' := Lib.hid hown'; have HBLK := Lib.hid hblk; clear hfr hown' hblk hgrow hown)
      go_roundg (c / 64 + 1 - M.length - (k + 1))
      case measure => have := HG.out; omega
      case rel =>
        refine ⟨k + 1, by omega, rfl, ?_⟩
        have hp := HM1.out.put_row (r := h * 2 + 1) (by omega) (l := padded M (k + 1)) HFR.out (by rw [padded_length, ← Nat.add_assoc]; exact HOWN'.out) (fun g hg => by
          rcases HBLK.out with e | e
          · left; rw [HV1.out, ← e]; exact hg
          · right; rw [e] at hg; injection hg with hg; simp at hg; omega)
        refine ms_of HO1.out HF1.out (MemV.congr hp.1 fun r _ => ?_) hp.2.1 hp.2.2
        by_cases e : r = h * 2 + 1
        · subst e; rw [upd_same, upd_same]
        · rw [upd_other _ _ e, upd_other _ _ e, upd_other _ _ e]
    · have hn : M.length + k = max M.length (c / 64 + 1) := by omega
      have hlen : (padded M k).length = M.length + k := padded_length M k
      have hin : c / 64 < M.length + k := by omega
      obtain ⟨g1, cap2, hv2, _, _⟩ := HM1.out.some_row (r := h * 2 + 1) (j := c / 64) (by omega) (by rw [upd_same, hlen]; exact hin)
      have hcell := HM1.out.row_cell (r := h * 2 + 1) (j := c / 64) (by omega) (by rw [upd_same, hlen]; exact hin) hv2
      rw [upd_same, hlen] at hv2
      rw [upd_same] at hcell
      rw [HV1.out] at hv2
      injection hv2 with hx1 _ hx2
      subst hx1 hx2
      obtain ⟨x, hx⟩ : ∃ x, (padded M k).getD (c / 64) 0 = x := ⟨_, rfl⟩
      rw [hx] at hcell
      obtain ⟨hc1, hc2⟩ := hcell
      have hi0 : (0 : Int) ≤ (c : Int) / 64 := by omega
      have hi1 : (c : Int) / 64 < (M.length : Int) + k := by omega
      have HX := Lib.hid hx
      clear hn hlen hown hx hi hz0 hz1 hz2
      go_wp2_with fail
      go_region
      go_end0
      have hk2 : k = c / 64 + 1 - M.length := by omega
      have hxl : x < 18446744073709551616 := by rw [← HX.out]; exact padded_lt HW.out _ _
      have hbit := or_bit x (c % 64) hxl (Nat.mod_lt _ (by decide))
      rw [hbit]
      have m2 := HM1.out.set_cell (r := h * 2 + 1) (j := c / 64) (z := x ||| 2 ^ (c % 64)) (by omega) HV1.out
      refine ⟨rfl, ms_of HO1.out HF1.out ((MemV.congr m2 fun r _ => ?_).drewN 1) (fun _ h => .inl h) (((Fr.refl _ _).setCell (.inl (.inr ⟨h * 2 + 1, by omega, by rw [HV1.out]; rfl⟩)) _).drewN 1)⟩
      by_cases e : r = h * 2 + 1
      · subst e
        rw [upd_same, upd_same, upd_same, ← HX.out, hk2]
        rfl
      · rw [upd_other _ _ e, upd_other _ _ e, upd_other _ _ e]
end
end Go.Proofs.YtpoblealgooamaaGreatDoor
namespace Go.Proofs.YtpoblealgooamaaGreatDoor
open Go Go.RowKit Go.Shelf Go.Lib
def growRen : Go.Shelf.Ren := ⟨fun | 4 => 113 | n => n, fun | 0 => 0 | 3 => 3 | 4 => 4 | 9 => 9 | 20 => 20 | 22 => 52 | 25 => 31 | n => n, fun | n => n⟩
theorem growLays : Go.Proofs.Lays8.n4 Tryz.prog growRen := {
  mixed := by kernel_rfl
  f4 := ⟨Tryz.f113.name, by decide, Tryz.func113.trans (congrArg some (by kernel_rfl))⟩
  t0 := Tryz.underlying0
  a0 := Tryz.isAgg0
  z0 := Tryz.sizeOf0
  v0 := Tryz.zeroValue0
  t3 := Tryz.underlying3
  a3 := Tryz.isAgg3
  z3 := Tryz.sizeOf3
  v3 := Tryz.zeroValue3
  t4 := Tryz.underlying4
  a4 := Tryz.isAgg4
  z4 := Tryz.sizeOf4
  v4 := Tryz.zeroValue4
  t9 := Tryz.underlying9
  a9 := Tryz.isAgg9
  z9 := Tryz.sizeOf9
  v9 := Tryz.zeroValue9
  t20 := Tryz.underlying20
  a20 := Tryz.isAgg20
  z20 := Tryz.sizeOf20
  v20 := Tryz.zeroValue20
  t22 := Tryz.underlying52
  a22 := Tryz.isAgg52
  z22 := Tryz.sizeOf52
  v22 := Tryz.zeroValue52 }
theorem size_zc (z : Value) (n : Nat) (h : z.cells.size = 1) : (Builtin.zeroCells z.cells n).size = n := by
  rw [size_zeroCells, h, Nat.mul_one]
theorem grow_any {w : World} {v : Value} {n k : Nat} {xs : List Value} (hown : w.ownsRow 0 31 1 v n xs) (hk : 1 ≤ k) (hk2 : n + k ≤ 1000000) :
    Calls Tryz.prog 113 #[v, .int .i64 k] w fun e w' => (∃ v', e = .returned v' ∧ w'.ownsRow 0 31 1 v' n xs ∧ ∀ g, v'.ownBlock = some g → v.ownBlock = some g ∨ w.heap.size ≤ g) ∧ Fr (fun _ => False) w w' := by
  obtain ⟨i0, hi, hz0, hz1, hz2⟩ := info_parts infoU64
  have grown : ∀ (a : Option Addr) (c : Nat) (cs : List Value), n ≤ c → c < n + k → cs.length = c → cs.take n = xs → (a = none → c = 0) → (∀ x, a = some x → ∀ j u, cs[j]? = some u → w.cell? (x.add j) = some u) →
      Calls Tryz.prog 113 #[.slice a n c, .int .i64 k] w fun e w' => (∃ v', e = .returned v' ∧ w'.ownsRow 0 31 1 v' n xs ∧ ∀ g, v'.ownBlock = some g → (Value.slice a n c).ownBlock = some g ∨ w.heap.size ≤ g) ∧ Fr (fun _ => False) w w' := by
    intro a c cs h1 h2 h3 h4 h5 h6
    have h := Any8.slices_Grow_grow growLays i0 (.int .u64 0) hi hz0 (by rw [hz1]; decide) a n c k cs w h1 h2 (by rw [hz2]; omega) (by omega) (by rw [hz1, h3, Nat.mul_one]) h5 h6
    refine Calls.mono h ?_
    rintro e w' ⟨rfl, rfl⟩
    have hG1 := grownCap_ge w (n + k) c 31
    have hG2 := grownCap_le_maxLen w (n + k) c 31 (by unfold maxLen; omega)
    refine ⟨⟨_, rfl, ⟨by rw [← h4, List.length_take]; omega, .inr ⟨w.heap.size, _, _, rfl, Nat.zero_le _, heap_alloc_new w.drew _, ?_, hG2, ?_, ?_⟩⟩, fun g hg => .inr ?_⟩, ((Fr.refl _ w).drew).alloc _⟩
    · exact Nat.le_trans (by omega) hG1
    · simp only [Array.size_append, List.size_toArray, size_zc (.int .u64 0) _ rfl, h3]
      show c + (n + k - c) + (grownCap w (n + k) c 31 - (n + k)) = grownCap w (n + k) c 31 * 1
      omega
    · rw [Nat.mul_one, Array.toList_append, Array.toList_append, List.append_assoc, List.take_append_of_le_length (by simp; omega)]
      exact h4
    · have : w.heap.size = g := by simpa [Value.ownBlock] using hg
      omega
  rcases hown.2 with ⟨rfl, rfl⟩ | ⟨g, cap, cur, rfl, hb, hg, h1, h2, h3, h4⟩
  · have hxs : xs = [] := List.eq_nil_of_length_eq_zero (by simpa using hown.1)
    subst hxs
    exact grown none 0 [] (Nat.le_refl _) (by omega) rfl rfl (fun _ => rfl) (fun _ h => by cases h)
  · by_cases hr : n + k ≤ cap
    · refine Calls.mono (Any8.slices_Grow_room growLays (some ⟨g, 0, none⟩) n cap k w h1 (by simpa [maxLen] using h2) (by omega) hr) ?_
      rintro e w' ⟨rfl, rfl⟩
      exact ⟨⟨_, rfl, hown, fun _ h => .inl h⟩, Fr.refl _ _⟩
    · refine grown (some ⟨g, 0, none⟩) cap cur.toList h1 (by omega) (by rw [Array.length_toList, h3, Nat.mul_one]) (by rw [← h4, Nat.mul_one]) (fun h => by cases h) ?_
      intro x hx j u hu
      obtain rfl := Option.some.inj hx
      have hadd : (⟨g, 0, none⟩ : Addr).add j = ⟨g, j, none⟩ := by unfold Addr.add; split <;> simp_all
      rw [hadd, cell_of_row w g j cur 31 (0, 0) hg]
      simpa using hu
end Go.Proofs.YtpoblealgooamaaGreatDoor
namespace Go.Proofs.YtpoblealgooamaaGreatDoor
open Go Go.RowKit
theorem int0_any (w : World) : Calls Tryz.prog 19 #[.int .i64 0] w fun e w' => e = .returned (.int .u64 1) ∧ w' = w := by
  have h : bits BinOp.or IntKind.u64 0 1 = 1 := by decide
  go_enter Tryz.func19, Tryz.ntmps19
  go_wp2
  go_ret
  exact ⟨ret_int h, rfl⟩
section
variable {w : World} {b W h : Nat} {R : Nat → Value} {now old : List Ob}
set_option maxHeartbeats 1000000 in
theorem alloc_head (k s t : Int) (hr : rightB k s t = false) (a : Addr) : Calls Tryz.prog 74 #[.pointer (some a), .int .i64 k, .int .i64 s, .int .i64 t] w fun e w' => e = .returned (.tuple #[.int .i64 0, .int .i64 22]) ∧ w' = w := by
  have HC := Lib.hid (fun W => header_no k s t hr W)
  clear hr
  go_enter Tryz.func74, Tryz.ntmps74
  go_wp2_with fail
  refine (HC.out _).mono ?_
  rintro e w' ⟨rfl, rfl⟩
  go_wp2_with fail
  go_ret2
  exact ⟨rfl, rfl⟩
set_option maxRecDepth 100000 in
set_option maxHeartbeats 1000000 in
theorem alloc_full (m : Mem w b W h R now old) (z : WF W h now old) (k s t : Int) (hr : rightB k s t = true) (hf : (W : Int) - used now < s + 1) : Calls Tryz.prog 74 #[.pointer (some ⟨b, 0, none⟩), .int .i64 k, .int .i64 s, .int .i64 t] w fun e w' => e = .returned (.tuple #[.int .i64 0, .int .i64 21]) ∧ ∃ n, w' = w.drewN n := by
  have HC := Lib.hid (fun W => header_yes k s t hr W)
  obtain ⟨_, _, s0, s1, _, _⟩ := right_bd hr
  have hfr := free_any m z.sizes
  rw [rows_cells, half_now, flat_length] at hfr
  have HF := Lib.hid hfr
  clear hr m z hfr
  go_enter Tryz.func74, Tryz.ntmps74
  go_wp2_with fail
  refine (HC.out _).mono ?_
  rintro e w' ⟨rfl, rfl⟩
  go_wp2_with fail
  refine HF.out.mono ?_
  rintro e w1 ⟨rfl, n, rfl⟩
  go_wp2_with fail
  go_ret2
  exact ⟨rfl, n, rfl⟩
theorem grow_to {w : World} {v : Value} {n k : Nat} {xs : List Value} (K : Int) (hK : K = (k : Nat)) (hown : w.ownsRow 0 31 1 v n xs) (hk : 1 ≤ k) (hk2 : n + k ≤ 1000000) :
    Calls Tryz.prog 113 #[v, .int .i64 K] w fun e w' => (∃ a c, e = .returned (.slice a n c) ∧ w'.ownsRow 0 31 1 (.slice a n c) n xs ∧ ∀ g, (Value.slice a n c).ownBlock = some g → v.ownBlock = some g ∨ w.heap.size ≤ g) ∧ Fr (fun _ => False) w w' := by
  subst hK
  refine (grow_any hown hk hk2).mono ?_
  rintro e w' ⟨⟨v', rfl, h1, h2⟩, h3⟩
  rcases h1.2 with ⟨rfl, rfl⟩ | ⟨g, cap, cur, rfl, _⟩
  · exact ⟨⟨_, _, rfl, h1, h2⟩, h3⟩
  · exact ⟨⟨_, _, rfl, h1, h2⟩, h3⟩
/-- from a world w in which O were the own blocks a world wr has come, with a memory at b of rows R1 -/
structure ST (w : World) (O : Nat → Prop) (b W h : Nat) (L : Nat → List Nat) (wr : World) (R1 : Nat → Value) : Prop where
  m : MemV wr b W h R1 L
  sub : ∀ i, Own b R1 i → O i ∨ w.heap.size ≤ i
  fr : Fr O w wr
theorem ST.ms {O : Nat → Prop} {L : Nat → List Nat} {wr : World} {R1 : Nat → Value} (s : ST w O b W h L wr R1) : MS w O wr b W h L := ⟨R1, s.m, s.sub, s.fr⟩
theorem ST.drewN {O : Nat → Prop} {L : Nat → List Nat} {wr : World} {R1 : Nat → Value} (s : ST w O b W h L wr R1) (n : Nat) : ST w O b W h L (wr.drewN n) R1 := ⟨s.m.drewN n, s.sub, s.fr.drewN n⟩
theorem ST.congr {O : Nat → Prop} {L L' : Nat → List Nat} {wr : World} {R1 : Nat → Value} (s : ST w O b W h L wr R1) (e : ∀ r, r < 4 → L r = L' r) : ST w O b W h L' wr R1 := ⟨s.m.congr e, s.sub, s.fr⟩
theorem ST.put {O : Nat → Prop} {L : Nat → List Nat} {wr w1 : World} {R1 : Nat → Value} (s : ST w O b W h L wr R1) {r : Nat} (hr : r < 4) {v : Value} {l : List Nat} (hf : Fr (fun i => (R1 r).ownBlock = some i) wr w1) (hv : w1.ownsRow 0 31 1 v l.length (u64s l)) (hs : ∀ g, v.ownBlock = some g → (R1 r).ownBlock = some g ∨ wr.heap.size ≤ g) :
    ST w O b W h (upd L r l) (w1.setCell ⟨b, 2 + r, none⟩ v) (upd R1 r v) := by
  obtain ⟨a1, a2, a3⟩ := s.m.put_row hr hf hv hs
  refine ⟨a1, fun i hi => ?_, s.fr.trans a3 s.sub⟩
  rcases a2 i hi with a | a
  · exact s.sub i a
  · exact .inr (Nat.le_trans s.fr.size a)
theorem ST.step {O : Nat → Prop} {L L' : Nat → List Nat} {wr w1 : World} {R1 : Nat → Value} (s : ST w O b W h L wr R1) (hm : MS wr (Own b R1) w1 b W h L') : ∃ R2, ST w O b W h L' w1 R2 := by
  obtain ⟨R2, m2, h2, f2⟩ := hm
  refine ⟨R2, m2, fun i hi => ?_, s.fr.trans f2 s.sub⟩
  rcases h2 i hi with a | a
  · exact s.sub i a
  · exact .inr (Nat.le_trans s.fr.size a)
theorem cell_one_at (w : World) (x : Value) (t : TypeId) (g : Nat) (hg : w.heap.size = g) : ∀ j u, [x][j]? = some u → (w.alloc (.cells #[x] t)).cell? ((⟨g, 0, none⟩ : Addr).add j) = some u := by
  subst hg; exact cell_one_new w x t
/-- what the walk asks of the row r ahead of an append or a Grow -/
theorem ST.row {O : Nat → Prop} {L : Nat → List Nat} {wr : World} {R1 : Nat → Value} (s : ST w O b W h L wr R1) {r : Nat} (hr : r < 4) : ∃ a cap, R1 r = .slice a (L r).length cap ∧ wr.cell? ⟨b, 2 + r, none⟩ = some (.slice a (L r).length cap) ∧ wr.frozen? ⟨b, 2 + r, none⟩ = false ∧ wr.ownsRow 0 31 1 (.slice a (L r).length cap) (L r).length (u64s (L r)) ∧ (L r).length ≤ cap ∧ cap ≤ 9223372036854775807 := by
  obtain ⟨a, cap, hv, h1, h2⟩ := s.m.shape hr
  exact ⟨a, cap, hv, (s.m.cr r hr).trans (by rw [hv]), s.m.fz _, by rw [← hv]; exact s.m.own r hr, h1, h2⟩
theorem ST.far {O : Nat → Prop} {L : Nat → List Nat} {wr w1 : World} {R1 : Nat → Value} (s : ST w O b W h L wr R1) {r : Nat} (hr : r < 4) (hf : Fr (fun i => (R1 r).ownBlock = some i) wr w1) : (∀ o v, wr.cell? ⟨b, o, none⟩ = some v → w1.cell? ⟨b, o, none⟩ = some v) ∧ (∀ o, w1.frozen? ⟨b, o, none⟩ = false) :=
  ⟨fun o _ hv => hf.cell_some (p := ⟨b, o, none⟩) hv (s.m.far r hr), fun o => (hf.frozen (p := ⟨b, o, none⟩) s.m.lt (s.m.far r hr)).trans (s.m.fz o)⟩
/-- an append to a row, and the store of what it gives -/
theorem ST.app {O : Nat → Prop} {L : Nat → List Nat} {wr w1 : World} {R1 : Nat → Value} (s : ST w O b W h L wr R1) {r : Nat} (hr : r < 4) {u v' : Value} (hv : R1 r = u) {tmp : Obj} {n : Nat} {l : List Nat} (hn : l.length = n) (hown : w1.ownsRow 0 31 1 v' n (u64s l)) (hgrow : (wr.alloc tmp).grownBy w1 u.ownBlock) (hblk : v'.ownBlock = u.ownBlock ∨ v'.ownBlock = some (wr.alloc tmp).heap.size) :
    w1.cell? ⟨b, 2 + r, none⟩ = some u ∧ w1.frozen? ⟨b, 2 + r, none⟩ = false ∧ ST w O b W h (upd L r l) (w1.setCell ⟨b, 2 + r, none⟩ v') (upd R1 r v') := by
  subst hv hn
  have hfr := app_fr (R := R1) hgrow
  obtain ⟨q1, q2⟩ := s.far hr hfr
  refine ⟨q1 _ _ (s.m.cr r hr), q2 _, s.put hr hfr hown fun g hg => ?_⟩
  rcases hblk with e | e
  · left; rw [← e]; exact hg
  · right
    rw [e] at hg
    have := Option.some.inj hg
    simp at this
    omega
theorem u64s_snoc (l : List Nat) (x : Nat) : u64s l ++ [Value.int .u64 (x : Int)] = u64s (l ++ [x]) := by rw [u64s_append]; rfl
theorem ST.drew {O : Nat → Prop} {L : Nat → List Nat} {wr : World} {R1 : Nat → Value} (s : ST w O b W h L wr R1) : ST w O b W h L wr.drew R1 := s.drewN 1
theorem blk_of {g n cap H : Nat} {u : Value} {W1 : World} (h : u.ownBlock = some g ∨ g = H) (hH : W1.heap.size = H) : (Value.slice (some ⟨g, 0, none⟩) n cap).ownBlock = u.ownBlock ∨ (Value.slice (some ⟨g, 0, none⟩) n cap).ownBlock = some W1.heap.size := by
  rcases h with e | e
  · left; rw [e]; rfl
  · right; rw [hH, ← e]; rfl
theorem u64s_rep (l : List Nat) (H q x : Nat) : u64s (l ++ H :: List.replicate q x) ++ [Value.int .u64 (x : Int)] = u64s (l ++ H :: List.replicate (q + 1) x) := by
  rw [u64s_snoc, List.replicate_succ', List.append_assoc, List.cons_append]
theorem rep_snoc (l c : List Nat) (p : Nat) : u64s (l ++ (c ++ List.replicate p 0)) ++ [Value.int .u64 ((0 : Nat) : Int)] = u64s (l ++ (c ++ List.replicate (p + 1) 0)) := by
  rw [u64s_snoc, List.replicate_succ', List.append_assoc, List.append_assoc]
def newOb (k s t : Nat) : Ob := ⟨k, t, List.replicate t 1 ++ List.replicate (s - t) 0, 0⟩
/-- the rows while the new object's fields are laid: f words so far -/
def rowsA (h : Nat) (now old : List Ob) (M f : List Nat) : Nat → List Nat := upd (upd (rowsOf h now old) (h * 2 + 1) M) (h * 2) (flat now ++ f)
theorem rowsA_cells (M f : List Nat) : rowsA h now old M f (h * 2) = flat now ++ f := upd_same _ _ _
theorem rowsA_upd (M f g : List Nat) (r : Nat) : upd (rowsA h now old M f) (h * 2) (flat now ++ g) r = rowsA h now old M g r := by
  unfold rowsA
  by_cases e : r = h * 2
  · subst e; rw [upd_same, upd_same]
  · rw [upd_other _ _ e, upd_other _ _ e, upd_other _ _ e]
theorem rowsA_end {k s t : Nat} (hts : t ≤ s) (r : Nat) : rowsA h now old (markAt (marksL now) (used now)) (hdr k s t :: (List.replicate t 1 ++ List.replicate (s - t) 0)) r = rowsOf h (now ++ [newOb k s t]) old r := by
  unfold rowsA
  by_cases e : r = h * 2
  · subst e
    rw [upd_same, rows_cells, half_now, flat_append]
    have hl : (newOb k s t).ws.length = s := by simp [newOb]; omega
    show _ = flat now ++ ((newOb k s t).hw :: (newOb k s t).ws ++ [])
    rw [List.append_nil]
    have hw : (newOb k s t).hw = hdr k s t := by
      unfold Ob.hw
      rw [hl]
      rfl
    rw [hw]
    rfl
  · rw [upd_other _ _ e]
    by_cases e2 : r = h * 2 + 1
    · subst e2
      rw [upd_same, rows_marks, half_now, marksL_snoc]
    · rw [upd_other _ _ e2]
      unfold rowsOf
      have q : ¬ r / 2 = h := by omega
      rw [if_neg q, if_neg q]
set_option maxRecDepth 100000 in
set_option maxHeartbeats 4000000 in
theorem alloc_ok (m : Mem w b W h R now old) (z : WF W h now old) (k s t : Nat) (hr : rightB k s t = true) (hf : used now + s + 1 ≤ W) : Calls Tryz.prog 74 #[.pointer (some ⟨b, 0, none⟩), .int .i64 k, .int .i64 s, .int .i64 t] w fun e w' => e = .returned (.tuple #[.int .i64 (adr h W (used now)), .int .i64 0]) ∧ MS w (Own b R) w' b W h (rowsOf h (now ++ [newOb k s t]) old) := by
  obtain ⟨i0, hi, hz0, hz1, hz2⟩ := info_parts infoU64
  have hhd := fun W => header_yes k s t hr W
  obtain ⟨_, _, s0, s1, t0, t1⟩ := right_bd hr
  obtain ⟨H, hH⟩ : ∃ H : Nat, hdr k s t = H := ⟨_, rfl⟩
  have hHI : hdrI k s t = (H : Int) := by rw [← hH]; unfold hdrI hdr; omega
  rw [hHI] at hhd
  have HH := Lib.hid hH
  have HC := Lib.hid hhd
  have hW1 := z.w1
  have hh := z.hh
  have hfr := free_any m z.sizes
  rw [rows_cells, half_now, flat_length] at hfr
  have HF := Lib.hid hfr
  obtain ⟨A, hA⟩ : ∃ A, adr h W (used now) = A := ⟨_, rfl⟩
  rw [hA]
  have HA := Lib.hid hA
  have HM := Lib.hid m
  have HZ := Lib.hid z
  have HTS := Lib.hid (show t ≤ s by omega)
  obtain ⟨u, hu⟩ : ∃ u, used now = u := ⟨_, rfl⟩
  have HU := Lib.hid hu
  rw [hu] at HF hf
  obtain ⟨MM, hMM⟩ : ∃ MM, markAt (marksL now) (used now) = MM := ⟨_, rfl⟩
  have HMM := Lib.hid hMM
  clear hr hfr m z hA hhd hHI hH hu hMM
  go_enter Tryz.func74, Tryz.ntmps74
  go_wp2_with fail
  refine (HC.out _).mono ?_
  rintro e w' ⟨rfl, rfl⟩
  go_wp2_with fail
  refine HF.out.mono ?_
  rintro e w1 ⟨rfl, n, hn⟩
  have S1 : ST w (Own b R) b W h (rowsOf h now old) w1 R := by rw [hn]; exact ⟨HM.out.drewN n, fun _ h => .inl h, (Fr.refl _ _).drewN n⟩
  have HS1 := Lib.hid S1
  have c1 := S1.m.c1
  have hh0 : (0 : Int) ≤ h := by omega
  have hh1 : (h : Int) < 2 := by omega
  clear hn S1
  go_wp2_with fail
  have hnx : ∀ n', Calls Tryz.prog 79 #[.pointer (some ⟨b, 0, none⟩)] (w1.drewN n') fun e w' => e = .returned (.int .i64 A) ∧ ∃ m, w' = (w1.drewN n').drewN m := fun n' => by
    have := next_any (HS1.out.m.drewN n') HZ.out.sizes
    rw [rows_cells, half_now, flat_length, HA.out] at this
    exact this
  have HNX := Lib.hid hnx
  clear hnx
  go_quiet ((go_at_call 79; refine Calls.quiet_of (HNX.out _)))
  go_wp2_with fail
  refine (mark_any (HS1.out.drewN nq).m HZ.out.sizes).mono ?_
  rintro e w2 ⟨rfl, hms⟩
  rw [rows_cells, rows_marks, half_now, flat_length, HMM.out] at hms
  obtain ⟨R2, S2⟩ := (HS1.out.drewN nq).step hms
  have S2' : ST w (Own b R) b W h (rowsA h now old MM []) w2 R2 := S2.congr fun r _ => by
    unfold rowsA
    rw [List.append_nil]
    by_cases e : r = h * 2
    · subst e; rw [upd_same, upd_other _ _ (by omega), rows_cells, half_now]
    · rw [upd_other (r := h * 2) _ _ e]
  have HS2 := Lib.hid S2'
  obtain ⟨a2, cap2, hv2, hc2, hf2, hown2, hle2, hcm2⟩ := S2'.row (r := h * 2) (by omega)
  have hlen2 : (rowsA h now old MM [] (h * 2)).length = u := by rw [rowsA_cells, List.append_nil, flat_length, HU.out]
  rw [hlen2] at hv2 hc2 hown2 hle2
  have HV2 := Lib.hid hv2
  have HO2 := Lib.hid hown2
  clear hms S2 S2' hv2 hown2 hlen2
  go_wp2_with fail
  refine (grow_to (k := s + 1) _ (by omega) HO2.out (by omega) (by omega)).mono ?_
  rintro e w3 ⟨⟨a3, cap3, rfl, hown3, hblk3⟩, hfr3⟩
  have hfr3' : Fr (fun i => (R2 (h * 2)).ownBlock = some i) w2 w3 := hfr3.mono (fun _ h => h.elim)
  obtain ⟨q1, q2⟩ := HS2.out.far (r := h * 2) (by omega) hfr3'
  have c3 := q1 _ _ hc2
  have f3 := q2 (2 + h * 2)
  have hfl : (flat now ++ []).length = u := by rw [List.append_nil, flat_length, HU.out]
  have S3 := HS2.out.put (r := h * 2) (by omega) (v := .slice a3 u cap3) (l := flat now ++ []) hfr3' (by rw [hfl]; rw [rowsA_cells] at hown3; exact hown3) (by rw [HV2.out]; exact hblk3)
  have S3' := S3.congr fun r _ => rowsA_upd (h := h) (now := now) (old := old) MM [] [] r
  have HS3 := Lib.hid S3'
  obtain ⟨a4, cap4, hv4, hx4, hy4, hown4, hle4, hcm4⟩ := S3'.row (r := h * 2) (by omega)
  clear hx4 hy4
  rw [upd_same] at hv4
  rw [rowsA_cells, hfl] at hv4 hown4 hle4
  injection hv4 with e1 e3 e2
  clear e3
  subst e1 e2
  have HO4 := Lib.hid hown4
  have HFL := Lib.hid hfl
  clear hfr3 hfr3' q1 q2 hblk3 hown3 S3 S3' hown4 c1 hc2 hf2 hfl
  go_wp2_with (at_builtin; refine wpList_append_own_at _ rfl _ _ 52 rfl 0 31 i0 (.int .u64 0) 1 8 Tryz.underlying52 hi hz0 hz1 hz2 rfl (by decide) (.slice a3 u cap3) _ _ rfl (HO4.out.alloc _) ⟨w3.heap.size, 0, none⟩ 1 1 [.int .u64 H] rfl rfl (cell_one_at _ _ _ _ (by simp)) (by simp [Value.oneCell']) (by unfold maxLen; omega) (by omega) (Nat.zero_le _) ?_; intro v5 w5 hown5 hgrow5 _ hblk5; rw [u64s_snoc, List.append_assoc] at hown5; obtain ⟨g5, cap5, rfl⟩ := ownsRow_succ (k := u) hown5; obtain ⟨x5, y5, S5⟩ := HS3.out.app (r := h * 2) (by omega) (upd_same _ _ _) (by rw [List.length_append, flat_length, HU.out]; rfl) hown5 hgrow5 hblk5; have HS5 := Lib.hid (S5.congr fun r _ => rowsA_upd (h := h) (now := now) (old := old) MM [] [H] r); clear S5 hown5 hgrow5 hblk5)
  go_loopw [64] (fun i wr => ∃ (q : Nat) (Rq : Nat → Value), q ≤ t ∧ i = .int .i64 q ∧ ST w (Own b R) b W h (rowsA h now old MM (H :: List.replicate q 1)) wr Rq) (fun i _ => t - (intOf i).toNat)
  case atStart => exact ⟨0, _, Nat.zero_le _, rfl, HS5.out⟩
  case round =>
    obtain ⟨q, Rq, hq, rfl, Sq⟩ := hrel
    have HSq := Lib.hid Sq
    obtain ⟨aq, capq, hvq, hcq, hfq, hownq, hleq, hcmq⟩ := Sq.row (r := h * 2) (by omega)
    have hlq : (rowsA h now old MM (H :: List.replicate q 1) (h * 2)).length = u + q + 1 := by rw [rowsA_cells, List.length_append, flat_length, HU.out]; simp; omega
    rw [hlq] at hvq hcq hownq hleq
    rw [rowsA_cells] at hownq
    have HVq := Lib.hid hvq
    have HOq := Lib.hid hownq
    have hbl := Sq.m.lt
    clear Sq hvq hownq hlq
    by_cases hlt : q < t
    · have hus : u + q + 2 ≤ 100000 := by omega
      go_wp2_with fail
      go_region_law ((first
        | (refine step_append_lies _ (by rfl) _ _ 52 (by rfl) 0 31 i0 (.int .u64 0) 1 8 Tryz.underlying52 hi hz0 hz1 hz2 rfl (by decide) (.slice aq (u + q + 1) capq) _ _ (by rfl) ((HOq.out.drew).alloc _) ⟨wr.heap.size, 0, none⟩ 1 1 [.int .u64 1] (by rfl) rfl (cell_one_at _ _ _ _ (by simp)) (by simp [Value.oneCell']) (by omega) (by unfold maxLen; omega) (by omega) (Nat.zero_le _) (wr.heap.size + 1) (by simp) ?_; intro g6 cap6 w6 hown6 hgrow6 hblk6 hlt6; rw [show (Value.int .u64 1) = Value.int .u64 ((1 : Nat) : Int) from rfl, u64s_rep] at hown6; obtain ⟨x6, y6, S6⟩ := HSq.out.drew.app (r := h * 2) (by omega) HVq.out (by rw [List.length_append, flat_length, HU.out]; simp; omega) hown6 hgrow6 (blk_of hblk6 (by simp)); have HS6 := Lib.hid (S6.congr fun r _ => rowsA_upd (h := h) (now := now) (old := old) MM _ _ r); clear S6 hown6 hgrow6 hblk6)
        | (go_simp; go_at_call 19; refine (int0_any _).mono ?_; rintro e w' ⟨rfl, rfl⟩)))
      all_goals
        go_wp2_with fail
        go_roundw
        case rel => exact ⟨q + 1, _, hlt, by go_num, HS6.out⟩
        case measure => simp [intOf]; omega
    · obtain rfl : q = t := by omega
      have hts := HTS.out
      have hq0 : ¬ (q : Int) < q := by omega
      clear hcq hfq hleq hcmq hbl HOq HVq
      go_wp2_with fail
      go_loopw [80] (fun i wr => ∃ (p : Nat) (Rp : Nat → Value), p ≤ s - q ∧ i = .int .i64 p ∧ ST w (Own b R) b W h (rowsA h now old MM ((H :: List.replicate q 1) ++ List.replicate p 0)) wr Rp) (fun i _ => (s - q) - (intOf i).toNat)
      case atStart => exact ⟨0, _, Nat.zero_le _, rfl, by rw [List.replicate_zero, List.append_nil]; exact HSq.out⟩
      case round =>
        obtain ⟨p, Rp, hp, rfl, Sp⟩ := hrel
        by_cases hlt2 : p < s - q
        · have HSp := Lib.hid Sp
          obtain ⟨ap, capp, hvp, hcp, hfp, hownp, hlep, hcmp⟩ := Sp.row (r := h * 2) (by omega)
          have hlp : (rowsA h now old MM ((H :: List.replicate q 1) ++ List.replicate p 0) (h * 2)).length = u + q + 1 + p := by rw [rowsA_cells, List.length_append, flat_length, HU.out]; simp; omega
          rw [hlp] at hvp hcp hownp hlep
          rw [rowsA_cells] at hownp
          have HVp := Lib.hid hvp
          have HOp := Lib.hid hownp
          have hbl := Sp.m.lt
          clear Sp hvp hownp hlp
          have hus : u + q + p + 2 ≤ 100000 := by omega
          go_wp2_with (at_builtin; refine wpList_append_own_at _ rfl _ _ 52 rfl 0 31 i0 (.int .u64 0) 1 8 Tryz.underlying52 hi hz0 hz1 hz2 rfl (by decide) (.slice ap (u + q + 1 + p) capp) _ _ rfl (HOp.out.alloc _) ⟨_, 0, none⟩ 1 1 [.int .u64 0] rfl rfl (cell_one_new _ _ _) (by simp [Value.oneCell']) (by unfold maxLen; omega) (by omega) (Nat.zero_le _) ?_; intro v7 w7 hown7 hgrow7 _ hblk7; rw [show (Value.int .u64 0) = Value.int .u64 ((0 : Nat) : Int) from rfl, rep_snoc] at hown7; obtain ⟨g7, cap7, rfl⟩ := ownsRow_succ (k := u + q + 1 + p) hown7; obtain ⟨x7, y7, S7⟩ := HSp.out.app (r := h * 2) (by omega) HVp.out (n := u + q + 1 + p + 1) (l := flat now ++ ((H :: List.replicate q 1) ++ List.replicate (p + 1) 0)) (by rw [List.length_append, flat_length, HU.out]; simp; omega) hown7 hgrow7 hblk7; have HS7 := Lib.hid (S7.congr fun r _ => rowsA_upd (h := h) (now := now) (old := old) MM _ _ r); clear S7 hown7 hgrow7 hblk7)
          go_roundw
          case rel => exact ⟨p + 1, _, hlt2, by go_num, HS7.out⟩
          case measure => simp [intOf]; omega
        · obtain rfl : p = s - q := by omega
          have HE := Lib.hid (show MS w (Own b R) wr b W h (rowsOf h (now ++ [newOb k s q]) old) from (Sp.congr fun r _ => by
            rw [← rowsA_end (h := h) (now := now) (old := old) (k := k) hts r, HMM.out, HH.out]; rfl).ms)
          clear Sp
          go_wp2_with fail
          go_ret2
          exact ⟨rfl, HE.out⟩
end
end Go.Proofs.YtpoblealgooamaaGreatDoor
namespace Go.Proofs.YtpoblealgooamaaGreatDoor
open Go Go.RowKit
section
variable {w : World} {b W h : Nat} {R : Nat → Value} {now old : List Ob}
theorem newOb_len {k s t : Nat} (h : t ≤ s) : (newOb k s t).ws.length = s := by simp [newOb]; omega
theorem wf_alloc {k s t : Nat} (z : WF W h now old) (hr : rightB k s t = true) (hf : used now + s + 1 ≤ W) : WF W h (now ++ [newOb k s t]) old := by
  have hb := right_bd hr
  have hl : (newOb k s t).ws.length = s := newOb_len (by omega)
  refine ⟨z.w0, z.w1, z.hh, ?_, z.uo, fun o ho => ?_, z.oko, fun o ho => ?_⟩
  · rw [used_append, used_one, hl]; omega
  · rcases List.mem_append.1 ho with h | h
    · exact z.okn o h
    · obtain rfl := List.mem_singleton.1 h
      refine ⟨by rw [hl]; exact hr, Nat.zero_le _, fun x hx => ?_⟩
      rcases List.mem_append.1 hx with q | q
      · have := List.eq_of_mem_replicate q; omega
      · have := List.eq_of_mem_replicate q; omega
  · rcases List.mem_append.1 ho with h | h
    · exact z.fresh o h
    · obtain rfl := List.mem_singleton.1 h; rfl
end
theorem own_nil {B b : Nat} (hb : B ≤ b) : ∀ i, Own b (fun _ => .slice none 0 0) i → B ≤ i := by
  rintro i (rfl | ⟨r, _, hg⟩)
  · exact hb
  · cases hg
section
variable {w : World} {b W h : Nat} {R : Nat → Value} {now old : List Ob}
theorem alloc_to (m : Mem w b W h R now old) (z : WF W h now old) (k s t : Nat) (K S T A : Int) (hK : K = k) (hS : S = s) (hT : T = t) (hA : adr h W (used now) = A) (hr : rightB k s t = true) (hf : used now + s + 1 ≤ W) :
    Calls Tryz.prog 74 #[.pointer (some ⟨b, 0, none⟩), .int .i64 K, .int .i64 S, .int .i64 T] w fun e w' => e = .returned (.tuple #[.int .i64 A, .int .i64 0]) ∧ ∃ R', Mem w' b W h R' (now ++ [newOb k s t]) old ∧ (∀ i, Own b R' i → Own b R i ∨ w.heap.size ≤ i) ∧ Fr (Own b R) w w' := by
  subst hK hS hT hA
  exact alloc_ok m z k s t hr hf
end
theorem used_rep (q : Nat) (o : Ob) : used (List.replicate q o) = q * (1 + o.ws.length) := by
  induction q with
  | zero => simp [used]
  | succ q ih => rw [List.replicate_succ', used_append, ih, used_one, Nat.succ_mul]
/-- what holds of a memory that is the call's own -/
structure MW (w : World) (b W h : Nat) (now old : List Ob) (wr : World) (R : Nat → Value) : Prop where
  m : Mem wr b W h R now old
  z : WF W h now old
  ge : ∀ i, Own b R i → w.heap.size ≤ i
  fr : Below w.heap.size w wr
theorem MW.drewN {w : World} {b W h : Nat} {now old : List Ob} {wr : World} {R : Nat → Value} (x : MW w b W h now old wr R) (n : Nat) : MW w b W h now old (wr.drewN n) R := ⟨x.m.drewN n, x.z, x.ge, ⟨x.fr.os, x.fr.tape, x.fr.output, x.fr.size, x.fr.block⟩⟩
theorem MW.next {w : World} {b W h h' : Nat} {now old now' old' : List Ob} {wr w1 : World} {R R' : Nat → Value} (x : MW w b W h now old wr R) (m : Mem w1 b W h' R' now' old') (z : WF W h' now' old') (hs : ∀ i, Own b R' i → Own b R i ∨ wr.heap.size ≤ i) (hf : Fr (Own b R) wr w1) : MW w b W h' now' old' w1 R' :=
  ⟨m, z, fun i hi => by
    rcases hs i hi with a | a
    · exact x.ge i a
    · exact Nat.le_trans x.fr.size a, x.fr.trans (hf.below x.fr.size x.ge)⟩
theorem MW.new (w : World) {W : Nat} (h0 : 64 ≤ W) (h1 : W ≤ 65536) : MW w w.heap.size W 0 [] [] (w.alloc (newObj W)) (fun _ => .slice none 0 0) :=
  ⟨new_mem W w, wf_new h0 h1, own_nil (Nat.le_refl _), (Below.refl _ _).alloc (Nat.le_refl _) _⟩
theorem free_m {w : World} {b W h : Nat} {now old : List Ob} {R : Nat → Value} (m : Mem w b W h R now old) (z : WF W h now old) {u : Nat} (hu : used now = u) (A : Int) (hA : (W : Int) - u = A) : Calls Tryz.prog 73 #[.pointer (some ⟨b, 0, none⟩)] w fun e w' => e = .returned (.int .i64 A) ∧ ∃ n, w' = w.drewN n := by
  have := free_any m z.sizes
  rw [rows_cells, half_now, flat_length, hu, hA] at this
  exact this
end Go.Proofs.YtpoblealgooamaaGreatDoor
