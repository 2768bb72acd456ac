/- The contracts of PutText and GetText over a memory as it lies. Conditions: the memory is right; the text is no longer than a text object may be. -/
import Derived.Test.YtlakfnlkiebpdaaDoorRefUnpack
import Derived.Test.YtlakfnlkiebpdaaDoorMemX
import Derived.Test.YtlakfnlkiebpdaaDoorMemKnA
import Derived.Test.YtlakfnlkiebpdaaDoorGcTrace
namespace Go.Proofs.YtlakfnlkiebpdaaDoor
open Go Go.RowKit
theorem MX.allocd {w wr w1 : World} {O : Nat → Prop} {b W h k s t : Nat} {now old : List Ob} {R R' : Nat → Value} (x : MX w O b W h ⟨now, old⟩ wr R) (hr : rightB k s t = true) (hf : used now + s + 1 ≤ W) (m1 : Mem w1 b W h R' (now ++ [newOb k s t]) old) (s1 : ∀ i, Own b R' i → Own b R i ∨ wr.heap.size ≤ i) (f1 : Fr (Own b R) wr w1) : MX w O b W h ⟨now ++ [newOb k s t], old⟩ w1 R' :=
  ⟨m1, wf_alloc x.z hr hf, fun i hi => by
    rcases s1 i hi with q | q
    · exact x.own i q
    · exact .inr (Nat.le_trans x.fr.size q), x.fr.trans f1 (fun i hi => x.own i hi)⟩
theorem MX.stored {w wr w1 : World} {O : Nat → Prop} {b W h j i n : Nat} {now old : List Ob} {R : Nat → Value} {o : Ob} (x : MX w O b W h ⟨now, old⟩ wr R) (ho : now[j]? = some o) (hn : n < 18446744073709551616) (m1 : Mem w1 b W h R (setF now j i n) old) (f1 : Fr (Own b R) wr w1) : MX w O b W h ⟨now.set j { o with ws := o.ws.set i n }, old⟩ w1 R := by
  have z1 := wf_setF (i := i) x.z ho hn
  rw [setF_eq ho] at z1 m1
  exact ⟨m1, z1, x.own, x.fr.trans f1 (fun i hi => x.own i hi)⟩
theorem wordsV_own1 {w : World} {B : Nat} {v : Value} {n : Nat} {ns : List Nat} (ho : w.ownsRow B 33 1 v n (u64s ns)) (hn : ns.length = n) (hs : n ≤ 100000) (hw : ∀ x ∈ ns, x < 18446744073709551616) :
    ∃ a c, v = .slice a n c ∧ WordsV w a n ns ∧ ∀ (g off : Nat), a = some ⟨g, off, none⟩ → v.ownBlock = some g := by
  have ho' := ho
  rcases ho.2 with ⟨hv, h0⟩ | ⟨g, cap, cur, hv, hb, hg, h1, h2, h3, h4⟩
  · refine ⟨none, 0, by rw [hv, h0], ⟨hn, by omega, hw, fun j x hj => ?_⟩, fun g off e => by cases e⟩
    have := (List.getElem?_eq_some_iff.1 hj).1
    omega
  · subst hv
    refine ⟨_, cap, rfl, ⟨hn, by omega, hw, fun j x hj => ?_⟩, fun g' off e => by injection e with e; injection e with e1; rw [← e1]; rfl⟩
    have hj' := (List.getElem?_eq_some_iff.1 hj).1
    refine ⟨g, 0, rfl, (Array.getElem?_eq_some_iff.1 hg).1, ?_⟩
    rw [Nat.zero_add, ho'.cellAt j (by omega)]
    simp [u64s, hj]
/-- a text's object, k of its words laid -/
def txtP (l : List UInt8) (k : Nat) : Ob := ⟨4, 0, (l.length :: (NumL.packL l).take k) ++ List.replicate (NumL.nWords l.length - k) 0, 0⟩
def txtO (l : List UInt8) : Ob := ⟨4, 0, l.length :: NumL.packL l, 0⟩
theorem txtP_len {l : List UInt8} {k : Nat} (h : k ≤ NumL.nWords l.length) : (txtP l k).ws.length = NumL.nWords l.length + 1 := by
  simp only [txtP, List.length_append, List.length_cons, List.length_take, List.length_replicate, NumL.packL_length]; omega
theorem txtP_full (l : List UInt8) : txtP l (NumL.nWords l.length) = txtO l := by
  unfold txtP txtO
  rw [List.take_of_length_le (by rw [NumL.packL_length]; exact Nat.le_refl _), Nat.sub_self]
  simp
theorem txtP_new (l : List UInt8) : (newOb 4 (1 + NumL.nWords l.length) 0).ws.set 0 l.length = (txtP l 0).ws := by
  show (List.replicate 0 1 ++ List.replicate (1 + NumL.nWords l.length - 0) 0).set 0 l.length = _
  rw [Nat.sub_zero, Nat.add_comm 1, List.replicate_succ]
  rfl
theorem txtP_set {l : List UInt8} {k n : Nat} (hk : k < NumL.nWords l.length) (hn : (NumL.packL l)[k]? = some n) : (txtP l k).ws.set (1 + k) n = (txtP l (k + 1)).ws := by
  obtain ⟨h1, rfl⟩ := List.getElem?_eq_some_iff.1 hn
  have hl : (l.length :: (NumL.packL l).take k).length = 1 + k := by
    simp only [List.length_cons, List.length_take, NumL.packL_length]; omega
  show ((l.length :: (NumL.packL l).take k) ++ List.replicate (NumL.nWords l.length - k) 0).set (1 + k) _ = (l.length :: (NumL.packL l).take (k + 1)) ++ List.replicate (NumL.nWords l.length - (k + 1)) 0
  rw [List.set_append, if_neg (by omega), hl, Nat.sub_self, show NumL.nWords l.length - k = (NumL.nWords l.length - (k + 1)) + 1 by omega, List.replicate_succ, List.set_cons_zero, List.take_succ_eq_append_getElem h1, List.cons_append, List.cons_append, List.append_assoc]
  rfl
theorem word_lt {l : List UInt8} {n : Nat} (h : n ∈ NumL.packL l) : n < 18446744073709551616 := by
  obtain ⟨k, _, rfl⟩ := List.mem_map.1 h
  exact NumL.wordN_lt l k
theorem wordsV_frm {w w1 : World} {O : Nat → Prop} {a : Option Addr} {N : Nat} {ns : List Nat} (h : WordsV w a N ns) (hf : Fr O w w1) (hn : ∀ g off, a = some ⟨g, off, none⟩ → ¬ O g) : WordsV w1 a N ns :=
  ⟨h.len, h.few, h.word, fun j n hj => by
    obtain ⟨g, off, h1, h2, h3⟩ := h.cell j n hj
    exact ⟨g, off, h1, by have := hf.size; omega, hf.cell_some h3 (hn g off h1)⟩⟩
section
variable {w : World} {b W h : Nat} {now old : List Ob} {R : Nat → Value}
set_option maxRecDepth 100000 in
set_option maxHeartbeats 8000000 in
theorem puttext_ok (m : Mem w b W h R now old) (z : WF W h now old) (s : ByteArray) (hs : s.size ≤ 131064) (hf : used now + (1 + NumL.nWords s.size) + 1 ≤ W) :
    Calls Tryd.prog 17 #[.pointer (some ⟨b, 0, none⟩), .string s] w fun e w' => e = .returned (.tuple #[.int .u64 (ptrW (adr h W (used now : Nat))), .int .i64 0]) ∧ ∃ R', MX w (Own b R) b W h ⟨now ++ [txtO s.data.toList], old⟩ w' R' := by
  have hpk := NumL.pack_any s (by omega) w
  obtain ⟨l, hl⟩ : ∃ l, s.data.toList = l := ⟨_, rfl⟩
  have hsz : s.size = l.length := by rw [← hl]; simp
  obtain ⟨A, hA⟩ : ∃ A, adr h W (used now : Nat) = A := ⟨_, rfl⟩
  have hA0 : 1 ≤ A ∧ A ≤ 200000 := by
    have h1 := z.un
    have h2 := z.w1
    rw [← hA]; unfold adr; split <;> omega
  obtain ⟨n, hn⟩ : ∃ n, NumL.nWords l.length = n := ⟨_, rfl⟩
  rw [hsz] at hf
  rw [hn] at hf
  rw [hl] at hpk ⊢
  rw [hsz, hn] at hpk
  have hn1 : n ≤ 16383 := by rw [← hn]; unfold NumL.nWords; omega
  have hrt : rightB 4 ((1 + n : Nat) : Int) 0 = true := right_yes (by omega)
  have hX := MX.of (s := ⟨now, old⟩) m z
  have HX := Lib.hid hX
  have HPK := Lib.hid hpk
  have HA := Lib.hid hA
  have HN := Lib.hid hn
  have HRT := Lib.hid hrt
  have HF := Lib.hid hf
  have HSZ := Lib.hid hsz
  have hdl : decide ((131064 : Int) < (s.size : Int)) = false := decide_eq_false (by omega)
  clear m hpk hA hX hl hn hrt z
  go_enter Tryd.func17, Tryd.ntmps17
  go_wp2_with fail
  refine HPK.out.mono ?_
  rintro e w1 ⟨v, rfl, hrow, hb1⟩
  obtain ⟨va, vc, rfl, hwv, hvg⟩ := wordsV_own1 hrow (by rw [NumL.packL_length, HN.out]) (by omega) (fun x hx => word_lt hx)
  have HWV := Lib.hid hwv
  have HROW := Lib.hid hrow
  have hX1 : MX w (Own b R) b W h ⟨now, old⟩ w1 R := HX.out.kept (X := fun _ => False) (Fr.of_below hb1) (fun _ _ q => q) (fun _ q => q.elim)
  have HX1 := Lib.hid hX1
  have HVG := Lib.hid (show ∀ g off, va = some ⟨g, off, none⟩ → ¬ Own b R g from fun g off e q => by
    have h1 := (hrow.lt g (hvg g off e)).1
    have h2 := HX.out.m.own_lt g q
    omega)
  have HAL := Lib.hid (alloc_to hX1.m hX1.z 4 (1 + n) 0 4 (1 + (n : Int)) 0 A rfl (by omega) rfl HA.out HRT.out (by have := HF.out; omega))
  clear hrow hb1 hwv hvg hX1
  go_wp2_with fail
  refine HAL.out.mono ?_
  rintro e w2 ⟨rfl, R2, m2, s2, f2⟩
  have hX2 := HX1.out.allocd HRT.out (by have := HF.out; omega) m2 s2 f2
  have hidx : ∀ ob : Ob, ob.ws.length = 1 + n → idxAt (now ++ [ob]) h W A = some now.length := fun ob ho => by
    have := idxAt_of (os := now ++ [ob]) (h := h) (W := W) (j := now.length) (by simp)
    rw [start_append _ _ _ (Nat.le_refl _), start_len, HA.out] at this
    exact this
  have hget : ∀ ob : Ob, (now ++ [ob])[now.length]? = some ob := fun ob => by simp
  have hput : ∀ (ob o2 : Ob), (now ++ [ob]).set now.length o2 = now ++ [o2] := fun ob o2 => by simp
  have hnl : (newOb 4 (1 + n) 0).ws.length = 1 + n := newOb_len (Nat.zero_le _)
  have HST := Lib.hid (store_hit hX2.m hX2.z A 0 l.length (by omega) (hidx _ hnl) (hget _) (by rw [hnl]; omega))
  have HX2 := Lib.hid hX2
  have HIDX := Lib.hid hidx
  have HGET := Lib.hid hget
  have HPUT := Lib.hid hput
  have HV2 := Lib.hid (wordsV_frm HWV.out f2 (fun g off e q => HVG.out g off e q))
  have HVG2 := Lib.hid (show ∀ g off, va = some ⟨g, off, none⟩ → ¬ Own b R2 g from fun g off e q => by
    rcases s2 g q with q | q
    · exact HVG.out g off e q
    · obtain ⟨x, hx⟩ | hne : (∃ x, (NumL.packL l)[0]? = some x) ∨ NumL.packL l = [] := by
        cases hp : NumL.packL l with
        | nil => exact .inr rfl
        | cons x xs => exact .inl ⟨x, rfl⟩
      · obtain ⟨g', off', e1, h1, _⟩ := HWV.out.cell 0 x hx
        rw [e] at e1
        injection e1 with e1
        injection e1 with e1 _ _
        subst e1
        omega
      · have := (HROW.out.lt g (by rw [e]; rfl)).2
        omega)
  have hws : ((l.length : Int)) ≤ 131064 := by have := HSZ.out; omega
  clear hX2 hidx hget hput hnl m2 s2 f2 HPK HAL
  have hlen : (s.size : Int) = (l.length : Int) := by have := HSZ.out; omega
  go_wp2_with fail
  refine HST.out.mono ?_
  rintro e w3 ⟨rfl, m3, f3⟩
  have hX3 := HX2.out.stored (HGET.out _) (by have := HSZ.out; omega) m3 f3
  rw [HPUT.out, ← HN.out, txtP_new, HN.out] at hX3
  have HX3 := Lib.hid (show MX w (Own b R) b W h ⟨now ++ [txtP l 0], old⟩ w3 R2 from hX3)
  have HV3 := Lib.hid (wordsV_frm HV2.out f3 (fun g off e q => HVG2.out g off e q))
  clear hX3 m3 f3 HST
  go_wp2_with fail
  go_loopw [37] (fun i wr => ∃ k : Nat, k ≤ n ∧ i = .int .i64 k ∧ MX w (Own b R) b W h ⟨now ++ [txtP l k], old⟩ wr R2 ∧ WordsV wr va n (NumL.packL l)) (fun i _ => n - (intOf i).toNat)
  case atStart => exact ⟨0, Nat.zero_le _, rfl, HX3.out, HV3.out⟩
  case round =>
    obtain ⟨k, hk, rfl, hX, hV⟩ := hrel
    by_cases hlt : k < n
    · obtain ⟨x, hx⟩ : ∃ x, (NumL.packL l)[k]? = some x := ⟨_, List.getElem?_eq_getElem (by rw [NumL.packL_length, HN.out]; exact hlt)⟩
      obtain ⟨g, off, hva, hg, hcl⟩ := hV.cell k x hx
      have hlen2 := txtP_len (l := l) (k := k) (by rw [HN.out]; exact hk)
      rw [HN.out] at hlen2
      have HST := Lib.hid (store_hit hX.m hX.z A (1 + k) x (by omega) (HIDX.out _ (by omega)) (HGET.out _) (by rw [hlen2]; omega))
      have hx64 := word_lt (List.mem_of_getElem? hx)
      have HX := Lib.hid hX
      have HV := Lib.hid hV
      have HXX := Lib.hid hx
      have hk0 : (0 : Int) ≤ k := by omega
      have hk1 : (k : Int) < n := by omega
      have hcast : ((1 + k : Nat) : Int) = 1 + (k : Int) := by omega
      rw [hcast] at HST
      subst hva
      clear hX hV hx hg hlen2 hcast
      go_wp2_with fail
      refine HST.out.mono ?_
      rintro e w4 ⟨rfl, m4, f4⟩
      have hX4 := HX.out.stored (HGET.out _) hx64 m4 f4
      rw [HPUT.out, txtP_set (by rw [HN.out]; exact hlt) HXX.out] at hX4
      have HX4 := Lib.hid (show MX w (Own b R) b W h ⟨now ++ [txtP l (k + 1)], old⟩ w4 R2 from hX4)
      have HV4 := Lib.hid (wordsV_frm HV.out f4 (fun g off e q => HVG2.out g off e q))
      clear hX4 m4 f4
      go_wp2_with fail
      go_roundw
      case rel => exact ⟨k + 1, hlt, by go_num, HX4.out, HV4.out⟩
      case measure => simp [intOf]; omega
    · obtain rfl : k = n := by omega
      rw [← HN.out, txtP_full] at hX
      have HX := Lib.hid hX
      have HPT := Lib.hid (show Calls Tryd.prog 44 #[.int .i64 A] wr fun e w' => e = .returned (.int .u64 (ptrW A)) ∧ w' = wr from (ptr_any A wr).mono fun e w' ⟨h1, h2⟩ => ⟨h1, h2.symm⟩)
      clear hX hV
      go_wp2_with fail
      refine HPT.out.mono ?_
      rintro e w5 ⟨rfl, hw5⟩
      subst w5
      go_wp2_with fail
      go_ret2
      exact ⟨by rw [HA.out]; rfl, R2, HX.out⟩
end
end Go.Proofs.YtlakfnlkiebpdaaDoor
