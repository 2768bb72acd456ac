/- The contract of gc's trace. Conditions: the memory lies as Mem says; the roots are words. -/
import Derived.Test.YtlakfnlkiebpdaaDoorGcMeet
import Derived.Deep.RegionLaw
import Derived.Deep.CutRange
import Derived.Laws.OwnMore
import Derived.Laws.MakeOwn
import Derived.Test.YtlakfnlkiebpdaaDoorMemCopy
namespace Go.Proofs.YtlakfnlkiebpdaaDoor
open Go Go.RowKit
/-- a slice of words as it came in -/
structure WordsV (w : World) (a : Option Addr) (N : Nat) (ns : List Nat) : Prop where
  len : ns.length = N
  few : (N : Int) ≤ 9223372036854775807
  word : ∀ n ∈ ns, n < 18446744073709551616
  cell : ∀ (j n : Nat), ns[j]? = some n → ∃ g off, a = some ⟨g, off, none⟩ ∧ g < w.heap.size ∧ w.cell? ⟨g, off + j, none⟩ = some (.int .u64 (n : Int))
theorem infoB : (Tryd.prog.info? 4).map (fun i => (i.zero, i.size, i.bytes)) = some (some (.bool false), 1, 1) := by kernel_rfl
theorem make_seen (U : Nat) (hU : U ≤ 65536) : ∃ cs : Array Value, cs.toList = List.replicate U (.bool false) ∧ ∀ w : World, (Instr.makeSlice 147 (.int .i64 (U : Int)) (.int .i64 (U : Int))).run Tryd.prog w = .ok (.slice (some ⟨w.heap.size, 0, none⟩) U U) (w.alloc (.cells cs 4)) := by
  obtain ⟨i0, hi, hz0, hz1, hz2⟩ := info_parts infoB
  refine ⟨madeCells (Value.bool false).cells (U * i0.size), ?_, fun w => ?_⟩
  · rw [hz1, Nat.mul_one]
    apply List.ext_getElem
    · simp [madeCells]
    · intro j h1 h2
      simp [madeCells, Value.cells, Nat.mod_one]
  · have hr := run_make (P := Tryd.prog) w 147 4 i0 (.bool false) Tryd.underlying147 hi hz0 .i64 .i64 U U (by omega) (Int.le_refl _) (by rw [hz2]; omega) (by omega)
    simp only [Int.toNat_natCast] at hr
    exact hr
section
variable {w w1 : World} {b W h : Nat} {R : Nat → Value} {now old : List Ob}
theorem new_at (X : World) (o : Obj) (g : Nat) (hg : X.heap.size = g) : (X.alloc o).heap[g]? = some o := by subst hg; exact heap_alloc_new _ _
theorem old_at (X : World) (o : Obj) {g : Nat} {u : Obj} (h : X.heap[g]? = some u) : (X.alloc o).heap[g]? = some u := (Below.heap_alloc X o g (Array.getElem?_eq_some_iff.1 h).1).trans h
theorem set4_at {X : World} {c : Nat} {a0 a1 a2 a3 : Value} {t : TypeId} (h : X.heap[c]? = some (.cells #[.pointer none, .int .i64 0, .slice none 0 0, .slice none 0 0] t (0, 0))) : ((((X.setCell ⟨c, 0, none⟩ a0).setCell ⟨c, 1, none⟩ a1).setCell ⟨c, 2, none⟩ a2).setCell ⟨c, 3, none⟩ a3).heap[c]? = some (.cells #[a0, a1, a2, a3] t (0, 0)) :=
  blk_set (blk_set (blk_set (blk_set h 0 a0) 1 a1) 2 a2) 3 a3
theorem set4_far {X : World} {c g : Nat} {u : Obj} {a0 a1 a2 a3 : Value} (hne : c ≠ g) (h : X.heap[g]? = some u) : ((((X.setCell ⟨c, 0, none⟩ a0).setCell ⟨c, 1, none⟩ a1).setCell ⟨c, 2, none⟩ a2).setCell ⟨c, 3, none⟩ a3).heap[g]? = some u := by
  rw [heap_setCell_other _ _ _ _ hne.symm, heap_setCell_other _ _ _ _ hne.symm, heap_setCell_other _ _ _ _ hne.symm, heap_setCell_other _ _ _ _ hne.symm]; exact h
theorem set4_below {B : Nat} {Y X : World} {c : Nat} {a0 a1 a2 a3 : Value} (h : Below B Y X) (hc : B ≤ c) : Below B Y ((((X.setCell ⟨c, 0, none⟩ a0).setCell ⟨c, 1, none⟩ a1).setCell ⟨c, 2, none⟩ a2).setCell ⟨c, 3, none⟩ a3) :=
  (((h.setCell (p := ⟨c, 0, none⟩) hc _).setCell (p := ⟨c, 1, none⟩) hc _).setCell (p := ⟨c, 2, none⟩) hc _).setCell (p := ⟨c, 3, none⟩) hc _
theorem drew_at {X : World} {k g : Nat} {u : Option Obj} (h : X.heap[g]? = u) : (X.drewN k).heap[g]? = u := h
theorem Below.drewN' {B : Nat} {Y X : World} (h : Below B Y X) (n : Nat) : Below B Y (X.drewN n) := ⟨h.os, h.tape, h.output, h.size, h.block⟩
/-- a look that has just been made -/
theorem look_new {lb sb U : Nat} {A0 : Int} {cs : Array Value} (m : Mem w b W h R now old) (z : WF W h now old) (hA : adr h W 0 = A0) (hU : used now = U) (hcs : cs.toList = List.replicate U (.bool false)) (h1 : w1.heap[lb]? = some (.cells #[.pointer (some ⟨b, 0, none⟩), .int .i64 A0, .slice (some ⟨sb, 0, none⟩) U U, .slice none 0 0] 149 (0, 0)))
    (h2 : w1.heap[sb]? = some (.cells cs 4 (0, 0))) (hb : Below w.heap.size w w1) (hl : w.heap.size ≤ lb) (hs : w.heap.size ≤ sb) (hne : sb ≠ lb) : LK w.heap.size w1 lb b W h R now old [] sb (.slice none 0 0) ∧ Below w.heap.size w w1 := by
  subst hA hU
  have hcl : cs.size = used now := by rw [← Array.length_toList, hcs, List.length_replicate]
  have hmx : used now ≤ maxLen := by have := z.un; have := z.w1; unfold maxLen; omega
  refine ⟨⟨blk_cell h1 0, blk_cell h1 1, blk_cell h1 2, blk_cell h1 3, fun j => blk_free h1 j, ⟨by rw [seenV_length, Nat.mul_one], .inr ⟨sb, used now, cs, rfl, hs, h2, Nat.le_refl _, hmx, by rw [Nat.mul_one, hcl], ?_⟩⟩, World.ownsRow_nil _ _ _ _, hl, hne, (by simp [Value.ownBlock]), (by simp [Value.ownBlock]), m.below hb, z, m.own_lt, okm_nil⟩, hb⟩
  rw [hcs, seenV_nil, Nat.mul_one]
  simp
/-- what trace leaves -/
def Traced (w : World) (h W : Nat) (now : List Ob) (ns : List Nat) (e : Ending) (w' : World) : Prop :=
  (reach now h W ns = none ∧ e = .returned (.tuple #[.slice none 0 0, .int .i64 40]) ∧ Below w.heap.size w w') ∨
  (∃ met v, reach now h W ns = some met ∧ e = .returned (.tuple #[v, .int .i64 0]) ∧ Below w.heap.size w w' ∧ w'.ownsRow w.heap.size 3 1 v met.length (ints (metI h W now met)))
theorem next_u (m : Mem w b W h R now old) (z : WF W h now old) {A : Int} (hA : adr h W (used now : Nat) = A) : Calls Tryd.prog 19 #[.pointer (some ⟨b, 0, none⟩)] w fun e w' => e = .returned (.int .i64 A) ∧ ∃ n, w' = w.drewN n := by
  subst hA
  have := next_any m z.sizes
  rwa [rows_cells, half_now, flat_length] at this
theorem meetS_get {met m : List Nat} {n k j : Nat} (e : meetS now h W met n = some m) (hj : met[k]? = some j) : m[k]? = some j := by
  rcases meetS_cases (os := now) (h := h) (W := W) met n with a | ⟨a, b⟩ | ⟨a, j', b, c⟩ | ⟨a, j', b, c⟩
  · rw [meetS_int a] at e; cases e; exact hj
  · rw [meetS_bad a b] at e; cases e
  · rw [meetS_old a b c] at e; cases e; exact hj
  · rw [meetS_new a b c] at e; cases e
    rw [List.getElem?_append_left (List.getElem?_eq_some_iff.1 hj).1]; exact hj
theorem tag_get {o : Ob} {j q : Nat} (ho : now[j]? = some o) (hq : q < o.t) (ht : o.t ≤ o.ws.length) : (tagW now j)[q]? = some (o.ws.getD q 0) := by
  rw [tagW_eq ho, List.getElem?_take_of_lt hq, List.getD_eq_getElem?_getD, List.getElem?_eq_getElem (by omega)]; rfl
theorem tag_end {o : Ob} {j q : Nat} (ho : now[j]? = some o) (hq : o.t ≤ q) : (tagW now j).drop q = [] := by
  rw [tagW_eq ho]; exact List.drop_eq_nil_of_le (by rw [List.length_take]; omega)
/-- the address of an object that was met, as the look has it -/
theorem LK.met_at {B : Nat} {lb sb : Nat} {met : List Nat} {v : Value} (k : LK B w lb b W h R now old met sb v) {i j : Nat} (hj : met[i]? = some j) : ∃ g cap, v = .slice (some ⟨g, 0, none⟩) met.length cap ∧ w.cell? ⟨lb, 3, none⟩ = some (.slice (some ⟨g, 0, none⟩) met.length cap) ∧ w.cell? ⟨g, i, none⟩ = some (.int .i64 (objA h W now j)) ∧ met.length ≤ cap := by
  have hi := (List.getElem?_eq_some_iff.1 hj).1
  have ho := k.ov
  rcases k.ov.2 with ⟨hv, h0⟩ | ⟨g, cap, cur, hv, hb, hg, h1, h2, h3, h4⟩
  · omega
  · refine ⟨g, cap, hv, by rw [k.c3, hv], ?_, h1⟩
    rw [hv] at ho
    rw [ho.cellAt i (by omega)]
    simp [ints, metI_get hj]
set_option maxRecDepth 100000 in
set_option maxHeartbeats 8000000 in
theorem trace_any (m : Mem w b W h R now old) (z : WF W h now old) {a : Option Addr} {N c : Nat} {ns : List Nat} (hv : WordsV w a N ns) :
    Calls Tryd.prog 68 #[.pointer (some ⟨b, 0, none⟩), .slice a N c] w (Traced w h W now ns) := by
  obtain ⟨U, hU⟩ : ∃ U, used now = U := ⟨_, rfl⟩
  have hun := z.un
  have hw1 := z.w1
  rw [hU] at hun
  obtain ⟨cs, hcs, hmk⟩ := make_seen U (by omega)
  have hA : adr h W (U : Nat) = adr h W 0 + U := by unfold adr; split <;> omega
  have hA1 : 1 ≤ adr h W 0 ∧ adr h W 0 ≤ 65537 := by unfold adr; split <;> omega
  have HW := words_any m
  obtain ⟨F, hF⟩ : ∃ F, (W : Int) - U = F := ⟨_, rfl⟩
  have HFr := free_m m z hU F hF
  have hWF : (W : Int) - F = U := by omega
  obtain ⟨A0, hA0⟩ : ∃ A0, adr h W 0 = A0 := ⟨_, rfl⟩
  rw [hA0] at hA hA1
  have HA0 := Lib.hid hA0
  have HCS := Lib.hid hcs
  obtain ⟨a1, a2⟩ := hA1
  obtain ⟨T, hT⟩ : ∃ T, A0 + (U : Int) = T := ⟨_, rfl⟩
  have hTU : T - (U : Int) = A0 := by omega
  have hT1 : 1 ≤ T := by omega
  have hT2 : T ≤ 200000 := by omega
  have hU2 : (U : Int) ≤ 65536 := by omega
  have hNX : ∀ W1, Below w.heap.size w W1 → Calls Tryd.prog 19 #[.pointer (some ⟨b, 0, none⟩)] W1 fun e w' => e = .returned (.int .i64 T) ∧ ∃ n, w' = W1.drewN n := fun W1 hb => next_u (m.below hb) z (by rw [hU, hA, hT])
  have HNX := Lib.hid hNX
  have HM := Lib.hid m
  have HWH := Lib.hid HW
  have HFH := Lib.hid HFr
  clear m HW HFr hNX hA hcs hA0
  go_enter Tryd.func68, Tryd.ntmps68
  go_wp2_with fail
  go_step3
  go_wp2_with fail
  refine HWH.out.mono ?_
  rintro e w' ⟨rfl, hw⟩
  subst w'
  go_wp2_with fail
  refine HFH.out.mono ?_
  rintro e w1 ⟨rfl, n1, hw1'⟩
  have hb1 : Below w.heap.size w w1 := by rw [hw1']; exact ⟨rfl, rfl, rfl, Nat.le_refl _, fun _ _ => rfl⟩
  have hs1 : w1.heap.size = w.heap.size := by rw [hw1']; rfl
  clear hF hT hw1'
  go_wp2_with fail
  have hwA : IntKind.i64.wrap A0 = A0 := by rw [IntKind.wrap_i64]; omega
  go_cut [7] from 26 to 33 (fun l wx => ∃ lb sb, l = .pointer (some ⟨lb, 0, none⟩) ∧ LK w.heap.size wx lb b W h R now old [] sb (.slice none 0 0) ∧ Below w.heap.size w wx)
  case first =>
    go_region_law ((go_simp; go_at_call 19; refine (HNX.out _ (by first | exact hb1.drew | exact hb1.drew.alloc (by simp [hs1]) _ | exact (hb1.drew.alloc (by simp [hs1]) _).alloc (by simp [hs1]) _)).mono ?_; rintro e w' ⟨rfl, nx, rfl⟩))
    all_goals
      go_wp2_with fail
      go_meet
      first | refine ⟨w.heap.size + 1, w.heap.size, rfl, ?_⟩ | refine ⟨w.heap.size, w.heap.size + 1, rfl, ?_⟩
      refine look_new HM.out z HA0.out hU HCS.out ?_ ?_ ?_ ?_ ?_ ?_
      · repeat (first | with_reducible exact new_at _ _ _ (by simp [hs1]) | with_reducible refine set4_at ?_ | with_reducible refine drew_at ?_ | with_reducible refine old_at _ _ ?_)
      · repeat (first | with_reducible exact new_at _ _ _ (by simp [hs1]) | with_reducible refine set4_far (by simp) ?_ | with_reducible refine drew_at ?_ | with_reducible refine old_at _ _ ?_)
      · repeat (first | with_reducible exact hb1 | with_reducible refine Below.drewN' ?_ _ | with_reducible refine set4_below ?_ (by simp) | with_reducible refine Below.alloc ?_ (by simp [hs1]) _)
      all_goals simp
  case rest =>
    obtain ⟨lb, sb, rfl, hk, hbc⟩ := hcut
    have HV := Lib.hid hv
    have hN := hv.len
    have hN2 := hv.few
    have HMT := Lib.hid (fun (W1 : World) (met : List Nat) (v : Value) (k : LK w.heap.size W1 lb b W h R now old met sb v) (n : Nat) (hn : n < 18446744073709551616) => meet_any k n hn)
    have HK := Lib.hid (And.intro hk hbc)
    clear hk hbc hv hmk hs1 hb1 HNX HWH HFH
    go_wp2_with fail
    go_loopw [36] (fun i wr => ∃ (k : Nat) (met : List Nat) (v : Value), k ≤ N ∧ i = .int .i64 k ∧ LK w.heap.size wr lb b W h R now old met sb v ∧ Below w.heap.size w wr ∧ meetL now h W met (ns.drop k) = meetL now h W [] ns) (fun i _ => N - (intOf i).toNat)
    case atStart => exact ⟨0, _, _, Nat.zero_le _, rfl, HK.out.1, HK.out.2, rfl⟩
    case round =>
      obtain ⟨k, met, v, hkN, rfl, hk, hb, hml⟩ := hrel
      by_cases hlt : k < N
      · obtain ⟨n, hn⟩ : ∃ n, ns[k]? = some n := ⟨_, List.getElem?_eq_getElem (by omega)⟩
        have hn64 := HV.out.word n (List.mem_of_getElem? hn)
        obtain ⟨g, off, ha, hg, hc⟩ := HV.out.cell k n hn
        have hcr : wr.cell? ⟨g, off + k, none⟩ = some (.int .u64 (n : Int)) := (World.cell?_of_block (hb.block g hg)).trans hc
        subst ha
        have HMK := Lib.hid (HMT.out wr met v hk n hn64)
        rw [meetL_drop hn] at hml
        have HML := Lib.hid hml
        have HB := Lib.hid hb
        have hki : (k : Int) < N := by omega
        have hk0 : (0 : Int) ≤ k := by omega
        clear hn hc hg hml hk hb
        go_wp2_with fail
        refine HMK.out.mono ?_
        rintro e w2 (⟨hS, rfl, hb2⟩ | ⟨m2, v2, hS, rfl, hk2, hb2⟩)
        · go_wp2_with fail
          rw [Exit.noGoto_ret]
          go_ret2
          refine .inl ⟨?_, rfl, HB.out.trans hb2⟩
          have := HML.out
          rw [hS] at this
          unfold reach
          rw [← this]
          rfl
        · have HS2 := Lib.hid (show LK w.heap.size w2 lb b W h R now old m2 sb v2 ∧ Below w.heap.size w w2 ∧ meetL now h W m2 (ns.drop (k + 1)) = meetL now h W [] ns from ⟨hk2, HB.out.trans hb2, by
            have := HML.out
            rw [hS] at this
            exact this⟩)
          clear hS hk2 hb2
          go_wp2_with fail
          go_roundw
          case rel => exact ⟨k + 1, m2, v2, hlt, by go_num, HS2.out⟩
          case measure => simp [intOf]; omega
      · obtain rfl : k = N := by omega
        have hre : (bfs now h W (now.length + 1) 0 met) = reach now h W ns := by
          unfold reach
          rw [← hml, List.drop_eq_nil_of_le (by omega)]
          rfl
        have HK2 := Lib.hid (And.intro hk (And.intro hb hre))
        clear hk hb hml hre
        go_wp2_with fail
        go_step3
        go_wp2_with fail
        have hnl : now.length ≤ 65536 := by
          have h2 := start_mono now (i := 0) (j := now.length) (Nat.zero_le _) (Nat.le_refl _)
          rw [start_len, hU] at h2
          omega
        go_loopw [10, 11] (fun gd i wr => ∃ (k : Nat) (met : List Nat) (v : Value), k ≤ now.length ∧ gd = .bool true ∧ i = .int .i64 k ∧ LK w.heap.size wr lb b W h R now old met sb v ∧ Below w.heap.size w wr ∧ bfs now h W (now.length - k + 1) k met = reach now h W ns) (fun _ i _ => now.length + 1 - (intOf i).toNat)
        case atStart => exact ⟨0, _, _, Nat.zero_le _, rfl, rfl, HK2.out.1, HK2.out.2.1, HK2.out.2.2⟩
        case round =>
          obtain ⟨k, met, v, hkl, rfl, rfl, hk, hb, hbf⟩ := hrel
          clear HK2
          have hml := hk.few
          have hmn := hk.ok.len
          by_cases hlt : k < met.length
          · obtain ⟨j, hj⟩ : ∃ j, met[k]? = some j := ⟨_, List.getElem?_eq_getElem hlt⟩
            have hjn := hk.ok.lt j (List.mem_of_getElem? hj)
            obtain ⟨o, ho⟩ : ∃ o, now[j]? = some o := ⟨_, List.getElem?_eq_getElem hjn⟩
            have hob := z.okn o (List.mem_of_getElem? ho)
            have hrt := right_bd hob.right
            obtain ⟨_, _, _, hsz, _, hts⟩ := hrt
            obtain ⟨g, cap, hv, hc3, hce, hcap⟩ := hk.met_at hj
            have hidx : idxAt now h W (objA h W now j) = some j := idxAt_of hjn
            have hbd := objA_bd z (Nat.le_of_lt hjn)
            obtain ⟨A, hA⟩ : ∃ A, objA h W now j = A := ⟨_, rfl⟩
            rw [hA] at hce hidx hbd
            have HA := Lib.hid hA
            have HLK := Lib.hid (look_hit hk.m hk.z A (by omega) hidx ho)
            have HLD := Lib.hid (fun (W1 : World) (m1 : Mem W1 b W h R now old) (q : Nat) (hq : q < o.ws.length) => load_hit m1 z A q (by omega) hidx ho hq)
            have HO := Lib.hid ho
            have HJ := Lib.hid hj
            have HW8 := Lib.hid hob.word
            rw [bfs_step hj] at hbf
            have HBF := Lib.hid hbf
            have HK3 := Lib.hid hk
            have HB3 := Lib.hid hb
            obtain ⟨M, hM⟩ : ∃ M, met.length = M := ⟨_, rfl⟩
            have HM2 := Lib.hid hM
            rw [hM] at hlt hc3 hcap hml
            have hkn : k < now.length := by omega
            have hki : (k : Int) < M := by omega
            have hk0 : (0 : Int) ≤ k := by omega
            obtain ⟨t, ht⟩ : ∃ t, o.t = t := ⟨_, rfl⟩
            obtain ⟨s, hs⟩ : ∃ s, o.ws.length = s := ⟨_, rfl⟩
            obtain ⟨kd, hkd⟩ : ∃ kd, o.k = kd := ⟨_, rfl⟩
            rw [ht, hs, hkd] at HLK
            rw [hs] at HLD
            rw [ht, hs] at hts
            rw [hs] at hsz
            have HT := Lib.hid ht
            have HSZ := Lib.hid hs
            clear hk hb hbf hob ho hj hidx hA hv hM ht hs hkd hmn
            go_wp2_with fail
            refine HLK.out.mono ?_
            rintro e w3 ⟨rfl, n3, hw3⟩
            have HS3 := Lib.hid (show LK w.heap.size w3 lb b W h R now old met sb v ∧ Below w.heap.size w w3 from by rw [hw3]; exact ⟨HK3.out.drewN _, Below.drewN' HB3.out _⟩)
            clear hw3 hc3 hce
            go_wp2_with fail
            go_loopw [10, 64] (fun gd f wx => ∃ (q : Nat) (met2 : List Nat) (v2 : Value), q ≤ t ∧ gd = .bool true ∧ f = .int .i64 q ∧ LK w.heap.size wx lb b W h R now old met2 sb v2 ∧ Below w.heap.size w wx ∧ met2[k]? = some j ∧ ((meetL now h W met2 ((tagW now j).drop q)).bind fun m => bfs now h W (now.length - k) (k + 1) m) = reach now h W ns) (fun _ f _ => t - (intOf f).toNat)
            case atStart => exact ⟨0, met, v, Nat.zero_le _, rfl, rfl, HS3.out.1, HS3.out.2, HJ.out, HBF.out⟩
            case round =>
              obtain ⟨q, met2, v2, hqt, rfl, rfl, hk4, hb4, hj4, hbf4⟩ := hrel
              clear HS3
              by_cases hlt2 : q < t
              · obtain ⟨g2, cap2, hv2, hc32, hce2, hcap2⟩ := hk4.met_at hj4
                have hml2 := hk4.few
                have hkm2 := (List.getElem?_eq_some_iff.1 hj4).1
                rw [HA.out] at hce2
                obtain ⟨n, hn⟩ : ∃ n, o.ws.getD q 0 = n := ⟨_, rfl⟩
                have hld := HLD.out wr hk4.m q (by omega)
                rw [hn] at hld
                have HLD4 := Lib.hid hld
                have hn64 : n < 18446744073709551616 := HW8.out n (by
                  rw [← hn, List.getD_eq_getElem?_getD, List.getElem?_eq_getElem (by rw [HSZ.out]; omega)]
                  exact List.getElem_mem _)
                have hdr := meetL_drop (os := now) (h := h) (W := W) (met := met2) (tag_get HO.out (by rw [HT.out]; exact hlt2) (by rw [HT.out, HSZ.out]; omega))
                rw [hdr, hn] at hbf4
                have HBF4 := Lib.hid hbf4
                have HK4 := Lib.hid hk4
                have HB4 := Lib.hid hb4
                have HJ4 := Lib.hid hj4
                obtain ⟨M2, hM2⟩ : ∃ M2, met2.length = M2 := ⟨_, rfl⟩
                rw [hM2] at hc32 hcap2 hml2 hkm2
                have hki2 : (k : Int) < M2 := by omega
                have hqi : (q : Int) < t := by omega
                have hq0 : (0 : Int) ≤ q := by omega
                clear hk4 hb4 hj4 hbf4 hdr hld hn hM2 hv2
                go_wp2_with fail
                refine HLD4.out.mono ?_
                rintro e w5 ⟨rfl, n5, hw5⟩
                have HS5 := Lib.hid (show LK w.heap.size w5 lb b W h R now old met2 sb v2 ∧ Below w.heap.size w w5 from by rw [hw5]; exact ⟨HK4.out.drewN _, Below.drewN' HB4.out _⟩)
                have HMK := Lib.hid (HMT.out w5 met2 v2 HS5.out.1 n hn64)
                clear hw5 hc32 hce2
                go_wp2_with fail
                refine HMK.out.mono ?_
                rintro e w6 (⟨hS, rfl, hb6⟩ | ⟨m6, v6, hS, rfl, hk6, hb6⟩)
                · have hre : reach now h W ns = none := by
                    rw [← HBF4.out, hS]; rfl
                  have HR := Lib.hid hre
                  have HB6 := Lib.hid (HS5.out.2.trans hb6)
                  clear hS hb6 hre
                  go_wp2_with fail
                  rw [Exit.noGoto_ret]
                  go_ret2
                  exact .inl ⟨HR.out, rfl, HB6.out⟩
                · have HS6 := Lib.hid (show LK w.heap.size w6 lb b W h R now old m6 sb v6 ∧ Below w.heap.size w w6 ∧ m6[k]? = some j ∧ ((meetL now h W m6 ((tagW now j).drop (q + 1))).bind fun m => bfs now h W (now.length - k) (k + 1) m) = reach now h W ns from ⟨hk6, HS5.out.2.trans hb6, meetS_get hS HJ4.out, by
                    have := HBF4.out
                    rw [hS] at this
                    exact this⟩)
                  clear hS hk6 hb6
                  go_wp2_with fail
                  go_roundw
                  case rel => exact ⟨q + 1, m6, v6, hlt2, rfl, by go_num, HS6.out⟩
                  case measure => simp [intOf]; omega
              · obtain rfl : q = t := by omega
                have hbe : bfs now h W (now.length - (k + 1) + 1) (k + 1) met2 = reach now h W ns := by
                  rw [← hbf4, tag_end HO.out (by rw [HT.out]; omega), show now.length - (k + 1) + 1 = now.length - k by omega]
                  rfl
                have HS7 := Lib.hid (And.intro hk4 (And.intro hb4 hbe))
                clear hk4 hb4 hj4 hbf4 hbe
                go_wp2_with fail
                go_roundw
                case rel => exact ⟨k + 1, met2, v2, by omega, rfl, by go_num, HS7.out⟩
                case measure => simp [intOf]; omega
          · have hre : reach now h W ns = some met := by
              rw [← hbf, bfs_end (by omega)]
            have HR := Lib.hid hre
            obtain ⟨va, cap, hv, hcap, hcap2⟩ := hk.shape
            have hc3 := hk.c3
            obtain ⟨M, hM⟩ : ∃ M, met.length = M := ⟨_, rfl⟩
            have hov := hk.ov
            have HOV := Lib.hid hov
            have HB3 := Lib.hid hb
            rw [hv] at hc3
            have HV3 := Lib.hid hv
            rw [hM] at hc3 hlt hcap hml
            have HM3 := Lib.hid hM
            have hki : ¬ (k : Int) < M := by omega
            clear hk hb hbf hre hov hv hM
            go_wp2_with fail
            go_ret2
            exact .inr ⟨met, v, HR.out, by rw [HV3.out, HM3.out]; rfl, HB3.out, HOV.out⟩
end
end Go.Proofs.YtlakfnlkiebpdaaDoor
