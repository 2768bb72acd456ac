/- Same on one text, Show by the type string, Con. Condition: the memory is right. The contract of kindlinglaw05.known. -/
import Derived.Test.YtlakfnlkiebpdaaDoorRtsOne
import Derived.Test.YtlakfnlkiebpdaaDoorRtsQAll
import Derived.Test.YtlakfnlkiebpdaaDoorMemTwo
namespace Go.Proofs.YtlakfnlkiebpdaaDoor
open Go Go.RowKit
section
variable {w : World} {b W h : Nat} {now old : List Ob} {R : Nat → Value}
theorem lookO_self {x : Ob} (hk : x.k = 4) (A : Int) : lookO x x A A = (1, 0) := by
  unfold lookO isC
  rw [hk]
  simp
set_option maxRecDepth 100000 in
set_option maxHeartbeats 8000000 in
theorem same_self (m : Mem w b W h R now old) (z : WF W h now old) (a : Nat) (ha : a < 18446744073709551616) (hea : isIntB (a : Int) = false) {i : Nat} {x : Ob} (hi : idxAt now h W (toP (a : Int)) = some i) (hx : now[i]? = some x) (hk : x.k = 4) :
    Calls Tryd.prog 30 #[.pointer (some ⟨b, 0, none⟩), .int .u64 (a : Int), .int .u64 (a : Int), .int .i64 5] w fun e w' => e = .returned (.tuple #[.int .i64 1, .int .i64 1, .int .i64 0]) ∧ ∃ n, w' = w.drewN n := by
  have hl := look_obj m z a a ha ha hea hea hi hx hi hx
  rw [lookO_self hk] at hl
  have HL := Lib.hid hl
  clear hl m z hi hx hea ha
  go_enter Tryd.func30, Tryd.ntmps30
  go_wp2_with fail
  go_step3
  go_wp2_with fail
  go_step3
  go_wp2_with fail
  go_loopw [1, 2, 11, 12, 13] (fun p q o c s wr => p = .int .u64 (a : Int) ∧ q = .int .u64 (a : Int) ∧ o = .slice none 0 0 ∧ c = .int .i64 1 ∧ s = .int .i64 0 ∧ wr = w) (fun _ _ _ _ _ _ => 1)
  case atStart => exact ⟨rfl, rfl, rfl, rfl, rfl, rfl⟩
  case round =>
    obtain ⟨rfl, rfl, rfl, rfl, rfl, rfl⟩ := hrel
    go_wp2_with fail
    refine HL.out.mono ?_
    rintro e w2 ⟨rfl, q2, hw2⟩
    subst w2
    go_wp2_with fail
    simp only [Exit.noGoto]
    go_ret3
    exact ⟨rfl, _, rfl⟩
def tyStr (l : Value) : Value := .agg #[.int .i64 2, .int .i64 2, .string ⟨#[115, 116, 114, 105, 110, 103]⟩, l]
theorem below_one (w : World) (o : Obj) : Below w.heap.size w (w.alloc o) := Below.alloc (show Below w.heap.size w w from Below.refl _ _) (Nat.le_refl _) o
theorem below_two (w : World) (o p : Obj) : Below w.heap.size w ((w.alloc o).alloc p) := (below_one w o).alloc (below_one w o).size p
theorem con_str (w : World) : Calls Tryd.prog 40 #[.string ⟨#[115, 116, 114, 105, 110, 103]⟩, .int .i64 2, .slice none 0 0] w fun e w' => e = .returned (tyStr (.slice none 0 0)) ∧ Below w.heap.size w w' := by
  go_enter Tryd.func40, Tryd.ntmps40
  go_wp2
  have f : ∀ i v, (#[.int .i64 2, .int .i64 2, .string ⟨#[115, 116, 114, 105, 110, 103]⟩, .slice none 0 0] : Array Value)[i]? = some v → (w.alloc (.cells #[.int .i64 2, .int .i64 2, .string ⟨#[115, 116, 114, 105, 110, 103]⟩, .slice none 0 0] 61)).cell? ⟨w.heap.size, i, none⟩ = some v := fun i v h => by
    simp only [World.cell?, World.alloc, Array.getElem?_push_size]
    exact h
  have f0 := f 0 _ rfl
  have f1 := f 1 _ rfl
  have f2 := f 2 _ rfl
  have f3 := f 3 _ rfl
  exact bodyPost_ret (v := tyStr (.slice none 0 0)) (by simp [tyStr, results, Tryd.results40, go_sem, f0, f1, f2, f3]) rfl ⟨rfl, below_one _ _⟩
set_option maxRecDepth 100000 in
set_option maxHeartbeats 8000000 in
theorem tellof_text (M l mk : Value) (n : Int) (s : ByteArray) (hs : s.size ≤ 100) (hG : ∀ W1, Below w.heap.size w W1 → Calls Tryd.prog 24 #[M, .int .u64 n] W1 fun e w' => e = .returned (.tuple #[.string s, .int .i64 0]) ∧ Below W1.heap.size W1 w') :
    Calls Tryd.prog 95 #[.agg #[M, mk], .int .u64 n, tyStr l, .int .i64 1] w fun e w' => e = .returned (.tuple #[.string ⟨(quoteL s.data.toList).toArray⟩, .bool false]) ∧ Below w.heap.size w w' := by
  have HG := Lib.hid hG
  have HQ := Lib.hid (fun W1 => quote_any s (by omega) W1)
  clear hG
  unfold tyStr
  go_enter Tryd.func95, Tryd.ntmps95
  go_wp2_with fail
  refine (HG.out _ (below_two _ _ _)).mono ?_
  rintro e w1 ⟨rfl, hb1⟩
  have HB1 := Lib.hid ((below_two w _ _).trans (hb1.mono (below_two w _ _).size))
  clear hb1
  go_wp2_with fail
  refine (HQ.out _).mono ?_
  rintro e w2 ⟨rfl, hb2⟩
  have HB2 := Lib.hid (HB1.out.trans (hb2.mono HB1.out.size))
  clear hb2
  go_wp2_with fail
  go_ret2
  exact ⟨rfl, HB2.out⟩
set_option maxRecDepth 100000 in
set_option maxHeartbeats 8000000 in
theorem tell_text (M l mk : Value) (n : Int) (s : ByteArray) (hs : s.size ≤ 100) (hG : ∀ W1, Below w.heap.size w W1 → Calls Tryd.prog 24 #[M, .int .u64 n] W1 fun e w' => e = .returned (.tuple #[.string s, .int .i64 0]) ∧ Below W1.heap.size W1 w') :
    Calls Tryd.prog 67 #[.agg #[M, mk], .int .u64 n, tyStr l, .int .i64 1] w fun e w' => e = .returned (.tuple #[.string ⟨(quoteL s.data.toList).toArray⟩, .bool false]) ∧ Below w.heap.size w w' := by
  have HT := Lib.hid (fun (W0 : World) (hb0 : Below w.heap.size w W0) => tellof_text (w := W0) M l mk n s hs (fun W1 hb => hG W1 (hb0.trans (hb.mono hb0.size))))
  clear hG
  unfold tyStr at HT ⊢
  go_enter Tryd.func67, Tryd.ntmps67
  go_wp2_with fail
  refine (HT.out _ (below_two _ _ _)).mono ?_
  rintro e w1 ⟨rfl, hb1⟩
  have HB1 := Lib.hid ((below_two w _ _).trans (hb1.mono (below_two w _ _).size))
  clear hb1
  go_wp2_with fail
  go_ret2
  exact ⟨rfl, HB1.out⟩
set_option maxRecDepth 100000 in
set_option maxHeartbeats 8000000 in
theorem show_text (b : Nat) (l : Value) (n : Int) (s : ByteArray) (hs : s.size ≤ 100) (hG : ∀ W1, Below w.heap.size w W1 → Calls Tryd.prog 24 #[.pointer (some ⟨b, 0, none⟩), .int .u64 n] W1 fun e w' => e = .returned (.tuple #[.string s, .int .i64 0]) ∧ Below W1.heap.size W1 w') :
    Calls Tryd.prog 33 #[.pointer (some ⟨b, 0, none⟩), .int .u64 n, tyStr l, .slice none 0 0] w fun e w' => e = .returned (.string ⟨(quoteL s.data.toList).toArray⟩) ∧ Below w.heap.size w w' := by
  have HT := Lib.hid (fun (W0 : World) (hb0 : Below w.heap.size w W0) => tell_text (w := W0) (.pointer (some ⟨b, 0, none⟩)) l (.slice none 0 0) n s hs (fun W1 hb => hG W1 (hb0.trans (hb.mono hb0.size))))
  clear hG
  have hql := (quoteL_len s.data.toList).2
  obtain ⟨Q, hQ⟩ : ∃ Q : ByteArray, (⟨(quoteL s.data.toList).toArray⟩ : ByteArray) = Q := ⟨_, rfl⟩
  have hqs : (Q.size : Int) ≤ 500 := by
    have h1 : s.data.toList.length = s.size := by simp
    have h2 : Q.size = (quoteL s.data.toList).length := by rw [← hQ]; simp [ByteArray.size]
    omega
  have hd : decide ((500 : Int) < (Q.size : Int)) = false := decide_eq_false (by omega)
  rw [hQ] at HT ⊢
  unfold tyStr at HT ⊢
  clear hQ hql hqs
  go_enter Tryd.func33, Tryd.ntmps33
  go_wp2_with fail
  refine (HT.out _ (below_one _ _)).mono ?_
  rintro e w1 ⟨rfl, hb1⟩
  have HB1 := Lib.hid ((below_one w _).trans (hb1.mono (below_one w _).size))
  clear hb1
  go_wp2_with fail
  go_ret
  exact ⟨rfl, HB1.out⟩
end
end Go.Proofs.YtlakfnlkiebpdaaDoor
namespace Go.Proofs.YtlakfnlkiebpdaaDoor
open Go Go.RowKit
def abcB : ByteArray := ⟨#[97, 98, 99]⟩
theorem abc_list : abcB.data.toList = [97, 98, 99] := rfl
def abcO : Ob := txtO [97, 98, 99]
theorem abc_pack : NumL.packL [97, 98, 99] = [6513249] := by decide
theorem abcO_eq : abcO = ⟨4, 0, [3, 6513249], 0⟩ := by
  unfold abcO txtO
  rw [abc_pack]
  rfl
theorem abc_idx : idxAt [abcO] 0 64 (toP ((2 : Nat) : Int)) = some 0 := by
  rw [abcO_eq]
  decide
theorem abc_uok : NumL.UOk [6513249] 3 := by
  unfold NumL.UOk
  decide
theorem abc_bytes : NumL.bytesOf [6513249] 3 = [97, 98, 99] := by decide
theorem get_abc {w : World} {b : Nat} {R : Nat → Value} (m : Mem w b 64 0 R [abcO] []) (z : WF 64 0 [abcO] []) :
    Calls Tryd.prog 24 #[.pointer (some ⟨b, 0, none⟩), .int .u64 2] w fun e w' => e = .returned (.tuple #[.string ⟨#[97, 98, 99]⟩, .int .i64 0]) ∧ Below w.heap.size w w' :=
  (gettext_hit m z 2 (by decide) (j := 0) (a := 3) (o := abcO) (ws := [6513249]) abc_idx rfl (by rw [abcO_eq]) (by rw [abcO_eq]) (by decide)).mono fun e w' h => by
    obtain ⟨h1, h2⟩ := h
    rcases h1 with ⟨_, h1⟩ | ⟨h1, _⟩
    · refine ⟨?_, h2⟩
      rw [h1, abc_bytes]
    · exact absurd abc_uok h1
theorem get_abc' {w : World} {b : Nat} {R : Nat → Value} (m : Mem w b 64 0 R [abcO] []) (z : WF 64 0 [abcO] []) (W1 : World) (hb : Below w.heap.size w W1) :
    Calls Tryd.prog 24 #[.pointer (some ⟨b, 0, none⟩), .int .u64 2] W1 fun e w' => e = .returned (.tuple #[.string ⟨#[97, 98, 99]⟩, .int .i64 0]) ∧ Below W1.heap.size W1 w' :=
  get_abc (m.below hb) z
theorem same_abc {w : World} {b : Nat} {R : Nat → Value} (m : Mem w b 64 0 R [abcO] []) (z : WF 64 0 [abcO] []) :
    Calls Tryd.prog 30 #[.pointer (some ⟨b, 0, none⟩), .int .u64 2, .int .u64 2, .int .i64 5] w fun e w' => e = .returned (.tuple #[.int .i64 1, .int .i64 1, .int .i64 0]) ∧ ∃ n, w' = w.drewN n :=
  same_self m z 2 (by decide) (by decide) abc_idx rfl (by rw [abcO_eq])
theorem show_abc {w : World} {b : Nat} {R : Nat → Value} (m : Mem w b 64 0 R [abcO] []) (z : WF 64 0 [abcO] []) :
    Calls Tryd.prog 33 #[.pointer (some ⟨b, 0, none⟩), .int .u64 2, tyStr (.slice none 0 0), .slice none 0 0] w fun e w' => e = .returned (.string ⟨#[34, 97, 98, 99, 34]⟩) ∧ Below w.heap.size w w' :=
  (show_text b (.slice none 0 0) 2 ⟨#[97, 98, 99]⟩ (by decide) (get_abc' m z)).mono fun e w' h => ⟨by rw [h.1]; rfl, h.2⟩
theorem quote_an (w : World) : Calls Tryd.prog 35 #[.string ⟨#[97, 10]⟩] w fun e w' => e = .returned (.string ⟨#[34, 97, 92, 110, 34]⟩) ∧ Below w.heap.size w w' :=
  (quote_any ⟨#[97, 10]⟩ (by decide) w).mono fun e w' h => ⟨by rw [h.1]; rfl, h.2⟩
theorem put_abc {w : World} {b : Nat} {R : Nat → Value} (m : Mem w b 64 0 R [] []) :
    Calls Tryd.prog 17 #[.pointer (some ⟨b, 0, none⟩), .string ⟨#[97, 98, 99]⟩] w fun e w' => e = .returned (.tuple #[.int .u64 2, .int .i64 0]) ∧ ∃ R', MX w (Own b R) b 64 0 ⟨[abcO], []⟩ w' R' :=
  (puttext_ok m (wf_new (by decide) (by decide)) ⟨#[97, 98, 99]⟩ (by decide) (by decide)).mono fun e w' h => ⟨by rw [h.1]; rfl, h.2⟩
set_option maxRecDepth 100000 in
set_option maxHeartbeats 8000000 in
theorem rknown_any (w : World) : Calls Tryd.prog 13 #[] w fun e w' => e = .returned (.bool true) ∧ Below w.heap.size w w' := by
  have HN := Lib.hid (new_raw 64 (by decide) (by decide) w)
  have m1 := new_mem 64 w
  have HM1 := Lib.hid m1
  have HP := Lib.hid (put_abc m1)
  have HQ := Lib.hid quote_an
  have HC := Lib.hid con_str
  have HB0 := Lib.hid (below_one w (newObj 64))
  have HOW := Lib.hid (show ∀ i, Own w.heap.size (fun _ => .slice none 0 0) i → w.heap.size ≤ i from fun i hi => by
    rcases hi with rfl | ⟨r, _, hr⟩
    · exact Nat.le_refl _
    · cases hr)
  clear m1
  go_enter Tryd.func13, Tryd.ntmps13
  go_wp2_with fail
  refine HN.out.mono ?_
  rintro e w1 ⟨rfl, hw1⟩
  subst w1
  go_wp2_with fail
  refine HP.out.mono ?_
  rintro e w2 ⟨rfl, R2, X2⟩
  have HB2 := Lib.hid (show Below w.heap.size w w2 from HB0.out.trans (X2.fr.below HB0.out.size (fun i hi => HOW.out i hi)))
  have HG := Lib.hid (get_abc X2.m X2.z)
  have HX := Lib.hid X2
  clear X2
  go_wp2_with fail
  refine HG.out.mono ?_
  rintro e w3 ⟨rfl, hb3⟩
  have HB3 := Lib.hid (HB2.out.trans (hb3.mono HB2.out.size))
  have HS := Lib.hid (same_abc (HX.out.m.below hb3) HX.out.z)
  have HM3 := Lib.hid (HX.out.m.below hb3)
  clear hb3
  go_wp2_with fail
  refine HS.out.mono ?_
  rintro e w4 ⟨rfl, q4, hw4⟩
  have HB4 := Lib.hid (show Below w.heap.size w w4 from by rw [hw4]; exact Below.drewN' HB3.out q4)
  have HM4 := Lib.hid (show Mem w4 _ 64 0 _ _ _ from by rw [hw4]; exact HM3.out.drewN q4)
  clear hw4
  go_wp2_with fail
  refine (HQ.out _).mono ?_
  rintro e w5 ⟨rfl, hb5⟩
  have HB5 := Lib.hid (HB4.out.trans (hb5.mono HB4.out.size))
  have HM5 := Lib.hid (HM4.out.below hb5)
  clear hb5
  go_wp2_with fail
  refine (HC.out _).mono ?_
  rintro e w6 ⟨rfl, hb6⟩
  have HB6 := Lib.hid (HB5.out.trans (hb6.mono HB5.out.size))
  have HH := Lib.hid (show_abc (HM5.out.below hb6) HX.out.z)
  clear hb6
  go_wp2_with fail
  refine HH.out.mono ?_
  rintro e w7 ⟨rfl, hb7⟩
  have HB7 := Lib.hid (HB6.out.trans (hb7.mono HB6.out.size))
  clear hb7
  go_wp2_with fail
  go_ret
  exact ⟨rfl, HB7.out⟩
end Go.Proofs.YtlakfnlkiebpdaaDoor
