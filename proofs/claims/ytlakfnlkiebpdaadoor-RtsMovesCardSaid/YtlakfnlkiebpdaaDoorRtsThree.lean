/- The contract of the document's PutText over the document's memory, where there is room; and of both where there is none. PutText of both memories where there is no room; Load and Next of both. -/
import Derived.Test.YtlakfnlkiebpdaaDoorRtsOne
import Derived.Test.YtlakfnlkiebpdaaDoorRefPackAll
import Derived.Test.YtlakfnlkiebpdaaDoorGcTwo
import Derived.Test.YtlakfnlkiebpdaaDoorRmOne
namespace Go.Proofs.YtlakfnlkiebpdaaDoor
open Go Go.RowKit
theorem txtP_new' {l : List UInt8} {n : Nat} (h : NumL.nWords l.length = n) : ({ newOb 4 (1 + n) 0 with ws := (newOb 4 (1 + n) 0).ws.set 0 l.length } : Ob) = txtP l 0 := by
  rw [← h]
  have := txtP_new l
  show (⟨4, 0, (newOb 4 (1 + NumL.nWords l.length) 0).ws.set 0 l.length, 0⟩ : Ob) = _
  rw [this]
  rfl
theorem RW.put {w0 wr : World} {b W : Nat} {os : List Ob} {ob : Ob} {v : Value} {P : List (RO × Value)} (x : RW w0 b W (os ++ [ob]) wr v P) {A : Int} (hA : adr 0 W (used os : Nat) = A) (i X : Nat) (hi : i < ob.ws.length) (hX : X < 18446744073709551616) :
    Calls Tryd.prog 47 #[.pointer (some ⟨b, 0, none⟩), .int .i64 A, .int .i64 i, .int .u64 X] wr fun e w' => e = .returned (.int .i64 0) ∧ ∃ P', RW w0 b W (os ++ [{ ob with ws := ob.ws.set i X }]) w' v P' ∧ (∀ g, OwnR b v P' (.slice none 0 0) [] g → OwnR b v P (.slice none 0 0) [] g) ∧ Fr (OwnR b v P (.slice none 0 0) []) wr w' := by
  have ho : (os ++ [ob])[os.length]? = some ob := by simp
  obtain ⟨u, hp⟩ := P_get x.e ho
  have hidx : fidx P A = some os.length := by
    rw [P_idx x.e]
    have := idxAt_of (os := os ++ [ob]) (h := 0) (W := W) (j := os.length) (by simp)
    rw [start_append _ _ _ (Nat.le_refl _), start_len, hA] at this
    exact this
  refine (rstore_hit x.r x.rz A i X hidx hp hi).mono ?_
  rintro e w' ⟨rfl, m6, f6⟩
  have q6 := x.store (n := X) (i := i) ho hp hX m6 f6
  rw [show (os ++ [ob]).set os.length { ob with ws := ob.ws.set i X } = os ++ [{ ob with ws := ob.ws.set i X }] from by simp] at q6
  refine ⟨rfl, _, q6, fun g hg => ?_, f6⟩
  rcases hg with a | a | a
  · exact .inl a
  · exact .inr (.inl (own_set_word hp g a))
  · exact .inr (.inr a)
set_option maxRecDepth 100000 in
set_option maxHeartbeats 8000000 in
theorem refput_ok {w0 w : World} {b W : Nat} {os : List Ob} {v : Value} {P : List (RO × Value)} (x : RW w0 b W os w v P) (s : ByteArray) (hs : s.size ≤ 131064) (hf : used os + (1 + NumL.nWords s.size) + 1 ≤ W) :
    Calls Tryd.prog 18 #[.pointer (some ⟨b, 0, none⟩), .string s] w fun e w' => e = .returned (.tuple #[.int .u64 (ptrW (adr 0 W (used os : Nat))), .int .i64 0]) ∧ ∃ v' P', RW w0 b W (os ++ [txtO s.data.toList]) w' v' P' ∧ Fr (OwnR b v P (.slice none 0 0) []) w w' ∧ ∀ i, OwnR b v' P' (.slice none 0 0) [] i → OwnR b v P (.slice none 0 0) [] i ∨ w.heap.size ≤ i := by
  have hpk := NumL.refpack_any s (by omega) w
  obtain ⟨l, hl⟩ : ∃ l, s.data.toList = l := ⟨_, rfl⟩
  have hsz : s.size = l.length := by rw [← hl]; simp
  obtain ⟨A, hA⟩ : ∃ A, adr 0 W (used os : Nat) = A := ⟨_, rfl⟩
  have hA0 : 1 ≤ A ∧ A ≤ 200000 := by
    have h1 := x.z.un
    have h2 := x.z.w1
    rw [← hA]; unfold adr; split <;> omega
  obtain ⟨n, hn⟩ : ∃ n, NumL.nWords l.length = n := ⟨_, rfl⟩
  rw [hsz] at hf
  rw [hn] at hf
  rw [hl] at hpk ⊢
  rw [hsz, hn] at hpk
  have hn1 : n ≤ 16383 := by rw [← hn]; unfold NumL.nWords; omega
  have hrt : rightB 4 ((1 + n : Nat) : Int) 0 = true := right_yes (by omega)
  have HX := Lib.hid x
  have HPK := Lib.hid hpk
  have HA := Lib.hid hA
  have HN := Lib.hid hn
  have HRT := Lib.hid hrt
  have HF := Lib.hid hf
  have HSZ := Lib.hid hsz
  have hdl : decide ((131064 : Int) < (s.size : Int)) = false := decide_eq_false (by omega)
  have hwr : IntKind.u64.wrap (l.length : Int) = (l.length : Int) := by rw [IntKind.wrap_u64]; omega
  clear hpk hA hl hn hrt x
  go_enter Tryd.func18, Tryd.ntmps18
  go_wp2_with fail
  refine HPK.out.mono ?_
  rintro e w1 ⟨pv, rfl, hrow, hb1⟩
  obtain ⟨va, vc, rfl, hwv, hvg⟩ := wordsV_own1 hrow (by rw [NumL.packL_length, HN.out]) (by omega) (fun x hx => word_lt hx)
  have HWV := Lib.hid hwv
  have HROW := Lib.hid hrow
  have hX1 : RW w0 b W os w1 v P := HX.out.below hb1
  have HX1 := Lib.hid hX1
  have HF1 := Lib.hid (show Fr (OwnR b v P (.slice none 0 0) []) w w1 from Fr.of_below hb1)
  have HVG := Lib.hid (show ∀ g off, va = some ⟨g, off, none⟩ → ¬ OwnR b v P (.slice none 0 0) [] g from fun g off e q => by
    have h1 := (hrow.lt g (hvg g off e)).1
    have h2 := HX.out.r.own_lt g q
    omega)
  have hal := ralloc_ok hX1.r hX1.rz 4 (1 + n) 0 HRT.out (by rw [P_used hX1.e]; have := HF.out; omega)
  have hA2 : adr 0 W (usedP P : Nat) = A := by rw [P_used hX1.e, HA.out]
  rw [hA2] at hal
  have HA2 := Lib.hid hA2
  have hc1 : ((1 + n : Nat) : Int) = (n : Int) + 1 := by omega
  rw [hc1] at hal
  have HAL := Lib.hid hal
  clear hrow hb1 hwv hvg hX1 hal hc1 hA2
  go_wp2_with fail
  refine HAL.out.mono ?_
  rintro e w2 ⟨rfl, v3, u3, m3, s3, f3⟩
  have HV2 := Lib.hid (wordsV_frm HWV.out f3 (fun g off e q => HVG.out g off e q))
  have HVG2 := Lib.hid (show ∀ g off, va = some ⟨g, off, none⟩ → ¬ OwnR b v3 _ (.slice none 0 0) [] g from fun g off e q => by
    rcases s3 g q with q | q
    · exact HVG.out g off e q
    · obtain ⟨x, hx⟩ | hne : (∃ x, (NumL.packL l)[0]? = some x) ∨ NumL.packL l = [] := by
        cases hp : NumL.packL l with
        | nil => exact .inr rfl
        | cons x xs => exact .inl ⟨x, rfl⟩
      · obtain ⟨g', off', e1, h1, _⟩ := HWV.out.cell 0 x hx
        rw [e] at e1
        injection e1 with e1
        injection e1 with e1 _ _
        subst e1
        omega
      · have := (HROW.out.lt g (by rw [e]; rfl)).2
        omega)
  have hvg2 := HVG2.out
  rw [← HA2.out] at m3 s3 hvg2
  have HVG2 := Lib.hid hvg2
  clear hvg2
  have HF2 := Lib.hid (HF1.out.trans f3 (fun i hi => .inl hi))
  have HS2 := Lib.hid (show ∀ i, OwnR b v3 _ (.slice none 0 0) [] i → OwnR b v P (.slice none 0 0) [] i ∨ w.heap.size ≤ i from fun i hi => (s3 i hi).elim .inl (fun q => .inr (Nat.le_trans HF1.out.size q)))
  have hX2 := HX1.out.alloc HRT.out (by have := HF.out; omega) m3 s3 f3
  have hnl : (newOb 4 (1 + n) 0).ws.length = 1 + n := newOb_len (Nat.zero_le _)
  have HST := Lib.hid (hX2.put HA.out 0 l.length (by rw [hnl]; omega) (by omega))
  clear hnl m3 s3 f3 hX2 HPK HAL
  go_wp2_with fail
  refine HST.out.mono ?_
  rintro e w3 ⟨rfl, P3, hX3, s4, f4⟩
  rw [txtP_new' HN.out] at hX3
  have HX3 := Lib.hid hX3
  have HV3 := Lib.hid (wordsV_frm HV2.out f4 (fun g off e q => HVG2.out g off e q))
  have HVG3 := Lib.hid (show ∀ g off, va = some ⟨g, off, none⟩ → ¬ OwnR b v3 P3 (.slice none 0 0) [] g from fun g off e q => HVG2.out g off e (s4 g q))
  have HF3 := Lib.hid (HF2.out.trans f4 HS2.out)
  have HS3 := Lib.hid (show ∀ i, OwnR b v3 P3 (.slice none 0 0) [] i → OwnR b v P (.slice none 0 0) [] i ∨ w.heap.size ≤ i from fun i hi => HS2.out i (s4 i hi))
  clear hX3 s4 f4 HST
  go_wp2_with fail
  go_loopw [9] (fun i wr => ∃ (k : Nat) (P4 : List (RO × Value)), k ≤ n ∧ i = .int .i64 k ∧ RW w0 b W (os ++ [txtP l k]) wr v3 P4 ∧ WordsV wr va n (NumL.packL l) ∧ (∀ g off, va = some ⟨g, off, none⟩ → ¬ OwnR b v3 P4 (.slice none 0 0) [] g) ∧ Fr (OwnR b v P (.slice none 0 0) []) w wr ∧ (∀ i, OwnR b v3 P4 (.slice none 0 0) [] i → OwnR b v P (.slice none 0 0) [] i ∨ w.heap.size ≤ i)) (fun i _ => n - (intOf i).toNat)
  case atStart => exact ⟨0, _, Nat.zero_le _, rfl, HX3.out, HV3.out, HVG3.out, HF3.out, HS3.out⟩
  case round =>
    obtain ⟨k, P4, hk, rfl, hX, hV, hG, hF, hS⟩ := hrel
    have HFF := Lib.hid hF
    have HSS := Lib.hid hS
    clear hF hS
    by_cases hlt : k < n
    · obtain ⟨x, hx⟩ : ∃ x, (NumL.packL l)[k]? = some x := ⟨_, List.getElem?_eq_getElem (by rw [NumL.packL_length, HN.out]; exact hlt)⟩
      obtain ⟨g, off, hva, hg, hcl⟩ := hV.cell k x hx
      have hlen2 := txtP_len (l := l) (k := k) (by rw [HN.out]; exact hk)
      rw [HN.out] at hlen2
      have hx64 := word_lt (List.mem_of_getElem? hx)
      have hst := hX.put HA.out (1 + k) x (by rw [hlen2]; omega) hx64
      have hcast : ((1 + k : Nat) : Int) = (k : Int) + 1 := by omega
      rw [hcast] at hst
      have HST := Lib.hid hst
      have HV := Lib.hid hV
      have HG := Lib.hid hG
      have HXX := Lib.hid hx
      have hk0 : (0 : Int) ≤ k := by omega
      have hk1 : (k : Int) < n := by omega
      subst hva
      clear hX hV hG hx hg hlen2 hcast hst
      go_wp2_with fail
      refine HST.out.mono ?_
      rintro e w4 ⟨rfl, P5, hX4, s5, f5⟩
      have HX4 := Lib.hid (show RW w0 b W (os ++ [txtP l (k + 1)]) w4 v3 P5 from by
        have q := hX4
        rw [show ({ txtP l k with ws := (txtP l k).ws.set (1 + k) x } : Ob) = txtP l (k + 1) from by
          have := txtP_set (l := l) (by rw [HN.out]; exact hlt) HXX.out
          show (⟨4, 0, (txtP l k).ws.set (1 + k) x, 0⟩ : Ob) = _
          rw [this]
          rfl] at q
        exact q)
      have HV4 := Lib.hid (wordsV_frm HV.out f5 (fun g off e q => HG.out g off e q))
      have HG4 := Lib.hid (show ∀ (g' : Nat) (off' : Nat), (some ⟨g, off, none⟩ : Option Addr) = some ⟨g', off', none⟩ → ¬ OwnR b v3 P5 (.slice none 0 0) [] g' from fun g' off' e q => HG.out g' off' e (s5 g' q))
      have HF4 := Lib.hid (HFF.out.trans f5 HSS.out)
      have HS4 := Lib.hid (show ∀ i, OwnR b v3 P5 (.slice none 0 0) [] i → OwnR b v P (.slice none 0 0) [] i ∨ w.heap.size ≤ i from fun i hi => HSS.out i (s5 i hi))
      clear hX4 s5 f5
      go_wp2_with fail
      go_roundw
      case rel => exact ⟨k + 1, P5, hlt, by go_num, HX4.out, HV4.out, HG4.out, HF4.out, HS4.out⟩
      case measure => simp [intOf]; omega
    · obtain rfl : k = n := by omega
      rw [← HN.out, txtP_full] at hX
      have HX := Lib.hid hX
      have HPT := Lib.hid (show Calls Tryd.prog 48 #[.int .i64 A] wr fun e w' => e = .returned (.int .u64 (ptrW A)) ∧ w' = wr from (refptr_any A wr).mono fun e w' ⟨h1, h2⟩ => ⟨h1, h2.symm⟩)
      clear hX hV hG
      go_wp2_with fail
      refine HPT.out.mono ?_
      rintro e w5 ⟨rfl, hw5⟩
      subst w5
      go_wp2_with fail
      go_ret2
      exact ⟨by rw [HA.out]; rfl, _, _, HX.out, HFF.out, HSS.out⟩
end Go.Proofs.YtlakfnlkiebpdaaDoor
namespace Go.Proofs.YtlakfnlkiebpdaaDoor
open Go Go.RowKit
theorem RW.load {w0 w : World} {b W : Nat} {os : List Ob} {v : Value} {P : List (RO × Value)} (x : RW w0 b W os w v P) (a : Int) (i : Nat) :
    Calls Tryd.prog 23 #[.pointer (some ⟨b, 0, none⟩), .int .i64 a, .int .i64 i] w fun e w' => e = .returned (.tuple #[.int .u64 ((loadX 0 W ⟨os, []⟩ a i).1 : Nat), .int .i64 ((loadX 0 W ⟨os, []⟩ a i).2 : Nat)]) ∧ ∃ n, w' = w.drewN n := by
  unfold loadX
  cases e : idxAt os 0 W a with
  | none => exact rload_miss x.r x.rz a i (by rw [P_idx x.e]; exact e)
  | some j =>
    have hf : fidx P a = some j := by rw [P_idx x.e]; exact e
    obtain ⟨u, hp⟩ := P_get x.e (idx_ob e)
    by_cases hi : i < (obN os j).ws.length
    · simp only [if_pos hi]
      exact rload_hit x.r x.rz a i hf hp hi
    · simp only [if_neg hi]
      exact rload_bad x.r x.rz a i hf hp (.inr (by show ((obN os j).ws.length : Int) ≤ i; omega))
theorem RW.next {w0 w : World} {b W : Nat} {os : List Ob} {v : Value} {P : List (RO × Value)} (x : RW w0 b W os w v P) :
    Calls Tryd.prog 20 #[.pointer (some ⟨b, 0, none⟩)] w fun e w' => e = .returned (.int .i64 (adr 0 W (used os : Nat))) ∧ ∃ n, w' = w.drewN n := by
  have := rnext_any x.r x.rz
  rw [P_used x.e] at this
  exact this
theorem mnext {w : World} {b W h : Nat} {now old : List Ob} {R : Nat → Value} (m : Mem w b W h R now old) (z : WF W h now old) : Calls Tryd.prog 19 #[.pointer (some ⟨b, 0, none⟩)] w fun e w' => e = .returned (.int .i64 (adr h W (used now : Nat))) ∧ ∃ n, w' = w.drewN n := by
  have := next_any m z.sizes
  rwa [rows_cells, half_now, flat_length] at this
theorem RW.keptF {w0 w w1 : World} {O : Nat → Prop} {b W : Nat} {os : List Ob} {v : Value} {P : List (RO × Value)} (x : RW w0 b W os w v P) (hf : Fr O w w1) (hn : ∀ i, OwnR b v P (.slice none 0 0) [] i → ¬ O i) (ho : ∀ i, O i → w0.heap.size ≤ i) : RW w0 b W os w1 v P :=
  ⟨x.r.kept hf hn, x.e, x.z, x.ge, x.fr.trans (hf.below x.fr.size ho)⟩
section
variable {w : World} {b W h : Nat} {now old : List Ob} {R : Nat → Value}
set_option maxRecDepth 100000 in
set_option maxHeartbeats 8000000 in
theorem puttext_full (m : Mem w b W h R now old) (z : WF W h now old) (s : ByteArray) (hs : s.size ≤ 131064) (hf : ¬ used now + (1 + NumL.nWords s.size) + 1 ≤ W) :
    Calls Tryd.prog 17 #[.pointer (some ⟨b, 0, none⟩), .string s] w fun e w' => e = .returned (.tuple #[.int .u64 0, .int .i64 21]) ∧ Below w.heap.size w w' := by
  have hpk := NumL.pack_any s (by omega) w
  obtain ⟨n, hn⟩ : ∃ n, NumL.nWords s.size = n := ⟨_, rfl⟩
  have hn1 : n ≤ 16383 := by rw [← hn]; unfold NumL.nWords; omega
  rw [hn] at hpk hf
  have HPK := Lib.hid hpk
  have HAL := Lib.hid (fun (W1 : World) (hb : Below w.heap.size w W1) => alloc_full (m.below hb) z 4 (1 + (n : Int)) 0 (by rw [show (1 + (n : Int)) = ((1 + n : Nat) : Int) by omega]; exact right_yes (by omega)) (by omega))
  have hdl : decide ((131064 : Int) < (s.size : Int)) = false := decide_eq_false (by omega)
  clear m z hpk hn hf
  go_enter Tryd.func17, Tryd.ntmps17
  go_wp2_with fail
  refine HPK.out.mono ?_
  rintro e w1 ⟨pv, rfl, hrow, hb1⟩
  obtain ⟨va, vc, rfl, _, _⟩ := own_shape5 (own_mono hrow (Nat.zero_le _))
  have HA := Lib.hid (HAL.out w1 hb1)
  have HB1 := Lib.hid hb1
  clear hrow hb1
  go_wp2_with fail
  refine HA.out.mono ?_
  rintro e w2 ⟨rfl, q, hw⟩
  have HB2 := Lib.hid (show Below w.heap.size w w2 from by rw [hw]; exact Below.drewN' HB1.out q)
  clear hw
  go_wp2_with fail
  go_ret2
  exact ⟨rfl, HB2.out⟩
end
set_option maxRecDepth 100000 in
set_option maxHeartbeats 8000000 in
theorem refput_full {w0 w : World} {b W : Nat} {os : List Ob} {v : Value} {P : List (RO × Value)} (x : RW w0 b W os w v P) (s : ByteArray) (hs : s.size ≤ 131064) (hf : ¬ used os + (1 + NumL.nWords s.size) + 1 ≤ W) :
    Calls Tryd.prog 18 #[.pointer (some ⟨b, 0, none⟩), .string s] w fun e w' => e = .returned (.tuple #[.int .u64 0, .int .i64 21]) ∧ Below w.heap.size w w' := by
  have hpk := NumL.refpack_any s (by omega) w
  obtain ⟨n, hn⟩ : ∃ n, NumL.nWords s.size = n := ⟨_, rfl⟩
  have hn1 : n ≤ 16383 := by rw [← hn]; unfold NumL.nWords; omega
  rw [hn] at hpk hf
  have HPK := Lib.hid hpk
  have HAL := Lib.hid (fun (W1 : World) (hb : Below w.heap.size w W1) => ralloc_full (x.r.below hb) x.rz 4 ((n : Int) + 1) 0 (by rw [show ((n : Int) + 1) = ((1 + n : Nat) : Int) by omega]; exact right_yes (by omega)) (by rw [P_used x.e]; omega))
  have hdl : decide ((131064 : Int) < (s.size : Int)) = false := decide_eq_false (by omega)
  clear x hpk hn hf
  go_enter Tryd.func18, Tryd.ntmps18
  go_wp2_with fail
  refine HPK.out.mono ?_
  rintro e w1 ⟨pv, rfl, hrow, hb1⟩
  obtain ⟨va, vc, rfl, _, _⟩ := own_shape5 (own_mono hrow (Nat.zero_le _))
  have HA := Lib.hid (HAL.out w1 hb1)
  have HB1 := Lib.hid hb1
  clear hrow hb1
  go_wp2_with fail
  refine HA.out.mono ?_
  rintro e w2 ⟨rfl, q, hw⟩
  have HB2 := Lib.hid (show Below w.heap.size w w2 from by rw [hw]; exact Below.drewN' HB1.out q)
  clear hw
  go_wp2_with fail
  go_ret2
  exact ⟨rfl, HB2.out⟩
theorem ptrW_bd64 (A : Int) : 0 ≤ ptrW A ∧ ptrW A ≤ 18446744073709551615 := by unfold ptrW; split <;> omega
/-- PutText of both memories, room or none -/
theorem put_any {W : Nat} (s : ByteArray) (hs : s.size ≤ 131064) :
    ∃ (wd E : Int) (now : List Ob), 0 ≤ wd ∧ wd ≤ 18446744073709551615 ∧
      (∀ (w : World) (b : Nat) (R : Nat → Value), Mem w b W 0 R [] [] → WF W 0 [] [] → Calls Tryd.prog 17 #[.pointer (some ⟨b, 0, none⟩), .string s] w fun e w' => e = .returned (.tuple #[.int .u64 wd, .int .i64 E]) ∧ ∃ R', MX w (Own b R) b W 0 ⟨now, []⟩ w' R') ∧
      (∀ (w0 w : World) (b : Nat) (v : Value) (P : List (RO × Value)), RW w0 b W [] w v P → Calls Tryd.prog 18 #[.pointer (some ⟨b, 0, none⟩), .string s] w fun e w' => e = .returned (.tuple #[.int .u64 wd, .int .i64 E]) ∧ ∃ v' P', RW w0 b W now w' v' P' ∧ Fr (OwnR b v P (.slice none 0 0) []) w w') := by
  by_cases hf : used [] + (1 + NumL.nWords s.size) + 1 ≤ W
  · refine ⟨ptrW (adr 0 W (used [] : Nat)), 0, [txtO s.data.toList], (ptrW_bd64 _).1, (ptrW_bd64 _).2, fun w b R m z => puttext_ok m z s hs hf, fun w0 w b v P x => (refput_ok x s hs hf).mono fun e w' ⟨h1, v', P', h2, h3, _⟩ => ⟨h1, v', P', h2, h3⟩⟩
  · refine ⟨0, 21, [], by omega, by omega, fun w b R m z => (puttext_full m z s hs hf).mono fun e w' ⟨h1, h2⟩ => ⟨h1, R, (MX.of (s := ⟨[], []⟩) m z).kept (X := fun _ => False) (Fr.of_below h2) (fun _ _ q => q) (fun _ q => q.elim)⟩, fun w0 w b v P x => (refput_full x s hs hf).mono fun e w' ⟨h1, h2⟩ => ⟨h1, v, P, x.below h2, Fr.of_below h2⟩⟩
end Go.Proofs.YtlakfnlkiebpdaaDoor
