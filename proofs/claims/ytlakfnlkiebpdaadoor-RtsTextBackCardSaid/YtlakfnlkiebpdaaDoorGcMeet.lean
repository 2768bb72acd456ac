/- The contract of look's meet. Conditions: the look lies as LK says. -/
import Derived.Test.YtlakfnlkiebpdaaDoorGcM
import Derived.Test.YtlakfnlkiebpdaaDoorMemFillM
import Derived.StillTailTactics
namespace Go.Proofs.YtlakfnlkiebpdaaDoor
open Go Go.RowKit
/-- a look at lb, through the memory at b: the objects that were met; all its blocks begin at B -/
structure LK (B : Nat) (w : World) (lb b W h : Nat) (R : Nat → Value) (now old : List Ob) (met : List Nat) (sb : Nat) (v : Value) : Prop where
  c0 : w.cell? ⟨lb, 0, none⟩ = some (.pointer (some ⟨b, 0, none⟩))
  c1 : w.cell? ⟨lb, 1, none⟩ = some (.int .i64 (adr h W 0))
  c2 : w.cell? ⟨lb, 2, none⟩ = some (.slice (some ⟨sb, 0, none⟩) (used now) (used now))
  c3 : w.cell? ⟨lb, 3, none⟩ = some v
  fz : ∀ j, w.frozen? ⟨lb, j, none⟩ = false
  os : w.ownsRow B 4 1 (.slice (some ⟨sb, 0, none⟩) (used now) (used now)) (used now) (seenV now met)
  ov : w.ownsRow B 3 1 v met.length (ints (metI h W now met))
  lb0 : B ≤ lb
  ls : sb ≠ lb
  vl : v.ownBlock ≠ some lb
  vs : v.ownBlock ≠ some sb
  m : Mem w b W h R now old
  z : WF W h now old
  mb : ∀ i, Own b R i → i < B
  ok : Okm now met
section
variable {B : Nat} {w w1 : World} {lb b W h : Nat} {R : Nat → Value} {now old : List Ob} {met : List Nat} {sb : Nat} {v : Value}
theorem LK.lt (k : LK B w lb b W h R now old met sb v) : lb < w.heap.size := World.block_lt_of_cell? w _ k.c0
theorem LK.below (k : LK B w lb b W h R now old met sb v) (hb : Below w.heap.size w w1) : LK B w1 lb b W h R now old met sb v := by
  have hf : Fr (fun _ => False) w w1 := Fr.of_below hb
  exact ⟨hf.cell_some k.c0 id, hf.cell_some k.c1 id, hf.cell_some k.c2 id, hf.cell_some k.c3 id, fun j => (hf.frozen (p := ⟨lb, j, none⟩) k.lt id).trans (k.fz j), hf.own k.os (fun _ _ => id), hf.own k.ov (fun _ _ => id), k.lb0, k.ls, k.vl, k.vs, k.m.below hb, k.z, k.mb, k.ok⟩
theorem LK.drewN (k : LK B w lb b W h R now old met sb v) (n : Nat) : LK B (w.drewN n) lb b W h R now old met sb v := k.below ⟨rfl, rfl, rfl, Nat.le_refl _, fun _ _ => rfl⟩
theorem LK.sb_ge (k : LK B w lb b W h R now old met sb v) : B ≤ sb ∧ sb < w.heap.size := k.os.lt sb rfl
theorem LK.shape (k : LK B w lb b W h R now old met sb v) : ∃ a cap, v = .slice a met.length cap ∧ met.length ≤ cap ∧ cap ≤ 9223372036854775807 := by
  rcases k.ov.2 with ⟨hv, h0⟩ | ⟨g, cap, cur, hv, _, _, h1, h2, _⟩
  · exact ⟨none, 0, by rw [hv, h0], by omega, by omega⟩
  · exact ⟨_, cap, hv, h1, by simpa [maxLen] using h2⟩
theorem LK.few (k : LK B w lb b W h R now old met sb v) : met.length ≤ 65536 := by
  have h1 := k.ok.len
  have h2 := start_mono now (i := 0) (j := now.length) (Nat.zero_le _) (Nat.le_refl _)
  rw [start_len] at h2
  have := k.z.un
  have := k.z.w1
  omega
/-- the mark of an object -/
theorem LK.mark (k : LK B w lb b W h R now old met sb v) {j : Nat} (hj : j < now.length) : w.cell? ⟨sb, start now j, none⟩ = some (.bool (decide (j ∈ met))) ∧ w.frozen? ⟨sb, start now j, none⟩ = false := by
  have hs := start_lt now hj
  exact ⟨(k.os.cellAt _ (by omega)).trans (seenV_at k.ok hj), k.os.frozenAt _⟩
/-- what a call of meet leaves -/
def Meets (B : Nat) (w : World) (lb b W h : Nat) (R : Nat → Value) (now old : List Ob) (met : List Nat) (sb n : Nat) (e : Ending) (w' : World) : Prop :=
  (meetS now h W met n = none ∧ e = .returned (.bool false) ∧ Below B w w') ∨
  (∃ m v', meetS now h W met n = some m ∧ e = .returned (.bool true) ∧ LK B w' lb b W h R now old m sb v' ∧ Below B w w')
theorem mark_fr (w : World) (now : List Ob) (sb j : Nat) : Fr (fun i => i = sb) w (w.setCell ⟨sb, start now j, none⟩ (.bool true)) := (Fr.refl (fun i => i = sb) w).setCell (p := ⟨sb, start now j, none⟩) (.inl rfl) _
/-- an object more: its mark, its address behind the others, the store of what append gives -/
theorem LK.more (k : LK B w lb b W h R now old met sb v) {j : Nat} (hj : j < now.length) (hn : j ∉ met) {wa wr w2 : World} {v' : Value} {tmp : Obj} (hwa : wa = w.setCell ⟨sb, start now j, none⟩ (.bool true)) (hwr : Below wa.heap.size wa wr)
    (hown : w2.ownsRow B 3 1 v' (met.length + 1) (ints (metI h W now met ++ [objA h W now j]))) (hg : (wr.alloc tmp).grownBy w2 v.ownBlock) (hblk : v'.ownBlock = v.ownBlock ∨ v'.ownBlock = some (wr.alloc tmp).heap.size) :
    w2.cell? ⟨lb, 3, none⟩ = some v ∧ w2.frozen? ⟨lb, 3, none⟩ = false ∧ LK B (w2.setCell ⟨lb, 3, none⟩ v') lb b W h R now old (met ++ [j]) sb v' ∧ Below B w (w2.setCell ⟨lb, 3, none⟩ v') := by
  subst hwa
  have hsb := k.sb_ge
  have hB : B ≤ w.heap.size := Nat.le_trans k.lb0 (Nat.le_of_lt k.lt)
  have hlt := k.lt
  have f1 := mark_fr w now sb j
  have f2 : Fr (fun i => i = sb) w wr := f1.trans (Fr.of_below (O := fun _ => False) hwr) (fun _ h => h.elim)
  have f2' : Fr (fun i => i = sb ∨ v.ownBlock = some i) w wr := f2.mono (fun i hi => .inl (.inl hi))
  have f3 : Fr (fun i => i = sb ∨ v.ownBlock = some i) w w2 := f2'.trans (Fr.of_grown hg) (fun i hi => .inl (.inr hi))
  have hnl : ¬ (lb = sb ∨ v.ownBlock = some lb) := fun e => by
    rcases e with e | e
    · exact k.ls e.symm
    · exact k.vl e
  have hc1 : ∀ (o : Nat) (u : Value), w.cell? ⟨lb, o, none⟩ = some u → w2.cell? ⟨lb, o, none⟩ = some u := fun o u hu => f3.cell_some hu hnl
  have hfz : ∀ o, w2.frozen? ⟨lb, o, none⟩ = false := fun o => (f3.frozen (p := ⟨lb, o, none⟩) hlt hnl).trans (k.fz o)
  have hc : ∀ (o : Nat) (u : Value), o ≠ 3 → w.cell? ⟨lb, o, none⟩ = some u → (w2.setCell ⟨lb, 3, none⟩ v').cell? ⟨lb, o, none⟩ = some u := fun o u ho hu => (World.cell?_setCell_other _ _ _ _ (by intro q; injection q with _ q2; exact ho q2.symm)).trans (hc1 o u hu)
  have hfb : Fr (· = lb) w2 (w2.setCell ⟨lb, 3, none⟩ v') := (Fr.refl (· = lb) w2).setCell (p := ⟨lb, 3, none⟩) (.inl rfl) _
  have f4 : Fr (fun i => i = sb ∨ v.ownBlock = some i ∨ i = lb) w (w2.setCell ⟨lb, 3, none⟩ v') := (f3.mono (P := fun i => i = sb ∨ v.ownBlock = some i ∨ i = lb) (fun i hi => by
    rcases hi with a | a
    · exact .inl (.inl a)
    · exact .inl (.inr (.inl a)))).trans hfb (fun i hi => .inl (.inr (.inr hi)))
  have hge : ∀ i, (i = sb ∨ v.ownBlock = some i ∨ i = lb) → B ≤ i := fun i hi => by
    rcases hi with a | a | a
    · rw [a]; exact hsb.1
    · exact (k.ov.lt i a).1
    · rw [a]; exact k.lb0
  have hws : w.heap.size ≤ wr.heap.size := f2.size
  have hv' : ∀ g, v'.ownBlock = some g → v.ownBlock = some g ∨ w.heap.size ≤ g := fun g hg' => by
    rcases hblk with e | e
    · left; rw [← e]; exact hg'
    · right; rw [e] at hg'; have := Option.some.inj hg'; simp at this; omega
  have hvl : v'.ownBlock ≠ some lb := fun e => by
    rcases hv' _ e with a | a
    · exact k.vl a
    · omega
  have hvs : v'.ownBlock ≠ some sb := fun e => by
    rcases hv' _ e with a | a
    · exact k.vs a
    · omega
  refine ⟨hc1 _ _ k.c3, hfz 3, ⟨hc _ _ (by decide) k.c0, hc _ _ (by decide) k.c1, hc _ _ (by decide) k.c2, World.cell?_setCell_same _ _ _ (hc1 _ _ k.c3), fun o => (World.frozen?_setCell _ _ _ _).trans (hfz o), ?_, ?_, k.lb0, k.ls, hvl, hvs, MemV.kept k.m f4 (fun i hi ho => by have := k.mb i hi; have := hge i ho; omega), k.z, k.mb, k.ok.snoc hj hn⟩, f4.below hB hge⟩
  · have h1 := (k.os.stored (start now j) (.bool true)).1
    rw [seenV_set] at h1
    have h2 := (Fr.of_below (O := fun _ => False) hwr).own h1 (fun _ _ => id)
    have h3 := (Fr.of_grown hg).own h2 (fun g hg' e => by
      have : sb = g := by simpa [Value.ownBlock] using hg'
      exact k.vs (this ▸ e))
    exact hfb.own h3 (fun g hg' e => by
      have : sb = g := by simpa [Value.ownBlock] using hg'
      exact k.ls (this.trans e))
  · rw [List.length_append, List.length_singleton, ← metI_snoc]
    exact hfb.own hown (fun g hg' e => hvl (e ▸ hg'))
theorem infoI : (Tryd.prog.info? 3).map (fun i => (i.zero, i.size, i.bytes)) = some (some (.int .i64 0), 1, 8) := by kernel_rfl
set_option maxRecDepth 100000 in
set_option maxHeartbeats 4000000 in
theorem meet_any (k : LK B w lb b W h R now old met sb v) (n : Nat) (hn : n < 18446744073709551616) :
    Calls Tryd.prog 97 #[.pointer (some ⟨lb, 0, none⟩), .int .u64 n] w (Meets B w lb b W h R now old met sb n) := by
  have hI := fun W1 => isint_any (n : Int) W1 (by omega) (by omega)
  have hT := fun W1 => toptr_any (n : Int) W1 (by omega) (by omega)
  have HI := Lib.hid hI
  have HT := Lib.hid hT
  have c0 := k.c0
  have c1 := k.c1
  have c2 := k.c2
  have c3 := k.c3
  have ha2 : toP (n : Int) ≤ 9223372036854775807 := by unfold toP; split <;> omega
  have HA := Lib.hid ha2
  have HK := Lib.hid k
  clear hI hT ha2
  rcases meetS_cases (os := now) (h := h) (W := W) met n with a | ⟨a, e⟩ | ⟨a, j, e, hj⟩ | ⟨a, j, e, hj⟩
  · have q0 : isIntB (n : Int) = true := by unfold isIntB; simpa using by omega
    rw [q0] at HI
    have HS := Lib.hid (meetS_int (os := now) (h := h) (W := W) (met := met) a)
    clear k c0 c1 c2 c3 a q0 HT HA
    go_enter Tryd.func97, Tryd.ntmps97
    go_wp2_with fail
    refine (HI.out _).mono ?_
    rintro e w1 ⟨rfl, hw⟩
    subst hw
    go_wp2_with fail
    go_ret
    exact .inr ⟨_, v, HS.out, rfl, HK.out, Below.refl _ _⟩
  · have q0 : isIntB (n : Int) = false := by unfold isIntB; simpa using by omega
    rw [q0] at HI
    have HS := Lib.hid (meetS_bad (met := met) a e)
    have HL := Lib.hid (look_miss k.m k.z (toP (n : Int)) HA.out e)
    clear k c1 c2 c3 a q0 HA e
    go_enter Tryd.func97, Tryd.ntmps97
    go_wp2_with fail
    refine (HI.out _).mono ?_
    rintro e w1 ⟨rfl, hw⟩
    subst hw
    go_wp2_with fail
    refine (HT.out _).mono ?_
    rintro e w1 ⟨rfl, hw⟩
    subst hw
    go_wp2_with fail
    refine HL.out.mono ?_
    rintro e w1 ⟨rfl, n1, rfl⟩
    go_wp2_with fail
    go_ret
    exact .inl ⟨HS.out, rfl, ⟨rfl, rfl, rfl, Nat.le_refl _, fun _ _ => rfl⟩⟩
  · have q0 : isIntB (n : Int) = false := by unfold isIntB; simpa using by omega
    rw [q0] at HI
    have HS := Lib.hid (meetS_old (met := met) a e hj)
    obtain ⟨hjl, hA⟩ := idxAt_some e
    have HJ := Lib.hid hjl
    have hsl := start_lt now hjl
    have hul := k.z.un
    have hWl := k.z.w1
    have hmk := k.mark hjl
    rw [decide_eq_true hj] at hmk
    obtain ⟨m0, m1⟩ := hmk
    obtain ⟨o, ho⟩ : ∃ o, now[j]? = some o := ⟨_, List.getElem?_eq_getElem hjl⟩
    have HL := Lib.hid (look_hit k.m k.z (toP (n : Int)) HA.out e ho)
    have hobj : objA h W now j = adr h W (start now j : Nat) := rfl
    have HOB := Lib.hid hobj
    have hA0 : 1 ≤ adr h W 0 ∧ adr h W 0 ≤ 65537 ∧ adr h W (start now j : Nat) = adr h W 0 + start now j := by unfold adr; split <;> omega
    rw [hA] at HT HL
    obtain ⟨b0, b1, b2⟩ := hA0
    rw [b2] at HT HL HOB
    obtain ⟨A0, hA0⟩ : ∃ A0, adr h W 0 = A0 := ⟨_, rfl⟩
    obtain ⟨S, hS⟩ : ∃ S, start now j = S := ⟨_, rfl⟩
    obtain ⟨U, hU⟩ : ∃ U, used now = U := ⟨_, rfl⟩
    rw [hA0] at c1 b0 b1 HT HL HOB
    rw [hS] at m0 m1 HT HL HOB hsl
    rw [hU] at c2 hsl hul
    obtain ⟨A, hAA⟩ : ∃ A, A0 + (S : Int) = A := ⟨_, rfl⟩
    rw [hAA] at HT HL HOB
    have hsub : A - A0 = (S : Int) := by omega
    have hlt : (S : Int) < U := by omega
    have hu2 : (U : Int) ≤ 65536 := by omega
    have hs0 : (0 : Int) ≤ S := by omega
    have hAb : 1 ≤ A ∧ A ≤ 200000 := by omega
    obtain ⟨hAb0, hAb1⟩ := hAb
    have HSS := Lib.hid hS
    clear k a q0 HA e ho hjl hA b2 hA0 hS hU hAA hobj hsl hul hWl
    go_enter Tryd.func97, Tryd.ntmps97
    go_wp2_with fail
    refine (HI.out _).mono ?_
    rintro e w1 ⟨rfl, hw⟩
    subst hw
    go_wp2_with fail
    refine (HT.out _).mono ?_
    rintro e w1 ⟨rfl, hw⟩
    subst hw
    go_wp2_with fail
    refine HL.out.mono ?_
    rintro e w1 ⟨rfl, n1, hw1⟩
    have c1' : w1.cell? ⟨lb, 1, none⟩ = some (.int .i64 A0) := by rw [hw1]; exact c1
    have c2' : w1.cell? ⟨lb, 2, none⟩ = some (.slice (some ⟨sb, 0, none⟩) U U) := by rw [hw1]; exact c2
    have m0' : w1.cell? ⟨sb, S, none⟩ = some (.bool true) := by rw [hw1]; exact m0
    have m1' : w1.frozen? ⟨sb, S, none⟩ = false := by rw [hw1]; exact m1
    have HW1 := Lib.hid hw1
    clear c0 c1 c2 c3 m0 m1 hw1
    go_wp2_with fail
    go_quiet (fail)
    go_wp2_with fail
    go_ret
    exact .inr ⟨_, v, HS.out, rfl, by rw [HW1.out, World.drewN_drewN]; exact HK.out.drewN _, ⟨by rw [HW1.out]; rfl, by rw [HW1.out]; rfl, by rw [HW1.out]; rfl, by rw [HW1.out]; exact Nat.le_refl _, fun _ _ => by rw [HW1.out]; rfl⟩⟩
  · have q0 : isIntB (n : Int) = false := by unfold isIntB; simpa using by omega
    rw [q0] at HI
    have HS := Lib.hid (meetS_new (met := met) a e hj)
    obtain ⟨hjl, hA⟩ := idxAt_some e
    have HJ := Lib.hid hjl
    have hsl := start_lt now hjl
    have hul := k.z.un
    have hWl := k.z.w1
    have hmk := k.mark hjl
    rw [decide_eq_false hj] at hmk
    obtain ⟨m0, m1⟩ := hmk
    obtain ⟨o, ho⟩ : ∃ o, now[j]? = some o := ⟨_, List.getElem?_eq_getElem hjl⟩
    have HL := Lib.hid (look_hit k.m k.z (toP (n : Int)) HA.out e ho)
    have hobj : objA h W now j = adr h W (start now j : Nat) := rfl
    have HOB := Lib.hid hobj
    have hA0 : 1 ≤ adr h W 0 ∧ adr h W 0 ≤ 65537 ∧ adr h W (start now j : Nat) = adr h W 0 + start now j := by unfold adr; split <;> omega
    rw [hA] at HT HL
    obtain ⟨b0, b1, b2⟩ := hA0
    rw [b2] at HT HL HOB
    obtain ⟨A0, hA0⟩ : ∃ A0, adr h W 0 = A0 := ⟨_, rfl⟩
    obtain ⟨S, hS⟩ : ∃ S, start now j = S := ⟨_, rfl⟩
    obtain ⟨U, hU⟩ : ∃ U, used now = U := ⟨_, rfl⟩
    rw [hA0] at c1 b0 b1 HT HL HOB
    rw [hS] at m0 m1 HT HL HOB hsl
    rw [hU] at c2 hsl hul
    obtain ⟨A, hAA⟩ : ∃ A, A0 + (S : Int) = A := ⟨_, rfl⟩
    rw [hAA] at HT HL HOB
    have hsub : A - A0 = (S : Int) := by omega
    have hlt : (S : Int) < U := by omega
    have hu2 : (U : Int) ≤ 65536 := by omega
    have hs0 : (0 : Int) ≤ S := by omega
    have hAb : 1 ≤ A ∧ A ≤ 200000 := by omega
    obtain ⟨hAb0, hAb1⟩ := hAb
    have HSS := Lib.hid hS
    clear k a q0 HA e ho hjl hA b2 hA0 hS hU hAA hobj hsl hul hWl
    go_enter Tryd.func97, Tryd.ntmps97
    go_wp2_with fail
    refine (HI.out _).mono ?_
    rintro e w1 ⟨rfl, hw⟩
    subst hw
    go_wp2_with fail
    refine (HT.out _).mono ?_
    rintro e w1 ⟨rfl, hw⟩
    subst hw
    go_wp2_with fail
    refine HL.out.mono ?_
    rintro e w1 ⟨rfl, n1, hw1⟩
    have c1' : w1.cell? ⟨lb, 1, none⟩ = some (.int .i64 A0) := by rw [hw1]; exact c1
    have c2' : w1.cell? ⟨lb, 2, none⟩ = some (.slice (some ⟨sb, 0, none⟩) U U) := by rw [hw1]; exact c2
    have m0' : w1.cell? ⟨sb, S, none⟩ = some (.bool false) := by rw [hw1]; exact m0
    have m1' : w1.frozen? ⟨sb, S, none⟩ = false := by rw [hw1]; exact m1
    have HW1 := Lib.hid hw1
    clear c0 c1 c2 c3 m0 m1 hw1
    go_wp2_with fail
    go_quiet (fail)
    go_wp2_with fail
    obtain ⟨w2, hw2⟩ : ∃ w2, w1.drewN nq = w2 := ⟨_, rfl⟩
    have HD2 := Lib.hid (show w2 = w.drewN (n1 + nq) from by rw [← hw2, HW1.out, World.drewN_drewN])
    have K2 : LK B w2 lb b W h R now old met sb v := by rw [HD2.out]; exact HK.out.drewN _
    have c1 : w2.cell? ⟨lb, 1, none⟩ = some (.int .i64 A0) := by rw [← hw2]; exact c1'
    have c2 : w2.cell? ⟨lb, 2, none⟩ = some (.slice (some ⟨sb, 0, none⟩) U U) := by rw [← hw2]; exact c2'
    have m0 : w2.cell? ⟨sb, S, none⟩ = some (.bool false) := by rw [← hw2]; exact m0'
    have m1 : w2.frozen? ⟨sb, S, none⟩ = false := by rw [← hw2]; exact m1'
    rw [hw2]
    have HK2 := Lib.hid K2
    clear hw2 c1' c2' m0' m1' K2
    have hwS : IntKind.i64.wrap (S : Int) = S := by rw [IntKind.wrap_i64]; omega
    obtain ⟨va, cap, hv, hcap, hcap2⟩ := HK2.out.shape
    have hfew := HK2.out.few
    have hfr : Fr (fun i => i = sb) w2 (w2.setCell ⟨sb, S, none⟩ (.bool true)) := by rw [← HSS.out]; exact mark_fr w2 now sb j
    have c3 : (w2.setCell ⟨sb, S, none⟩ (.bool true)).cell? ⟨lb, 3, none⟩ = some v := hfr.cell_some HK2.out.c3 (fun e => HK2.out.ls e.symm)
    have hov : (w2.setCell ⟨sb, S, none⟩ (.bool true)).ownsRow B 3 1 v met.length (ints (metI h W now met)) := hfr.own HK2.out.ov (fun g hg e => HK2.out.vs (e ▸ hg))
    have hBr : B ≤ w2.heap.size := Nat.le_trans HK2.out.lb0 (Nat.le_of_lt HK2.out.lt)
    have hlbs : lb ≠ sb := fun e => HK2.out.ls e.symm
    have c3w := HK2.out.c3
    obtain ⟨M, hM⟩ : ∃ M, met.length = M := ⟨_, rfl⟩
    have HM := Lib.hid hM
    rw [hM] at hv hcap hfew hov
    have HV := Lib.hid hv
    rw [hv] at c3 hov c3w
    have HOV := Lib.hid hov
    have HBR := Lib.hid hBr
    clear hfr hov hBr hM hv
    obtain ⟨i0, hi, hz0, hz1, hz2⟩ := info_parts infoI
    go_still_tail 11, (by kernel_rfl)
    go_wp2_with (at_builtin; refine wpList_append_own_at _ rfl _ _ 95 rfl B 3 i0 (.int .i64 0) 1 8 Tryd.underlying95 hi hz0 hz1 hz2 rfl (by decide) (.slice va M cap) M (ints (metI h W now met)) rfl (HOV.out.drew.alloc _) ⟨w2.heap.size, 0, none⟩ 1 1 [.int .i64 A] rfl rfl (cell_one_at _ _ _ _ (by simp)) (by simp [Value.oneCell']) (by unfold maxLen; omega) (by omega) (by have := HBR.out; simpa using Nat.le_succ_of_le this) ?_; intro v7 w7 hown7 hgrow7 _ hblk7; rw [ints_snoc, ← HOB.out] at hown7; obtain ⟨g7, cap7, rfl⟩ := ownsRow_succ (k := M) hown7; obtain ⟨x7, y7, K7, B7⟩ := HK2.out.more HJ.out hj (wa := w2.setCell ⟨sb, S, none⟩ (.bool true)) (wr := (w2.setCell ⟨sb, S, none⟩ (.bool true)).drew) (by rw [HSS.out]) ⟨rfl, rfl, rfl, Nat.le_refl _, fun _ _ => rfl⟩ (by rw [HM.out]; exact hown7) (by rw [HV.out]; exact hgrow7) (by rw [HV.out]; exact hblk7); have HK7 := Lib.hid K7; have HB7 := Lib.hid B7; clear K7 B7 hown7 hgrow7 hblk7)
    go_ret
    have hb := HB7.out
    refine .inr ⟨_, _, HS.out, rfl, HK7.out, ?_⟩
    rw [HD2.out] at hb
    exact (show Below B w (w.drewN (n1 + nq)) from ⟨rfl, rfl, rfl, Nat.le_refl _, fun _ _ => rfl⟩).trans hb
end
end Go.Proofs.YtlakfnlkiebpdaaDoor
