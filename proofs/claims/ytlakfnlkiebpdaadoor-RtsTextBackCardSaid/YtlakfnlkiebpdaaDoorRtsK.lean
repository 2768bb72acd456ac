/- Same on one text, Show by the type string, Con. Condition: the memory is right. -/
import Derived.Test.YtlakfnlkiebpdaaDoorRtsL
import Derived.Test.YtlakfnlkiebpdaaDoorRtsQ
namespace Go.Proofs.YtlakfnlkiebpdaaDoor
open Go Go.RowKit
section
variable {w : World} {b W h : Nat} {now old : List Ob} {R : Nat → Value}
theorem lookO_self {x : Ob} (hk : x.k = 4) (A : Int) : lookO x x A A = (1, 0) := by
  unfold lookO isC
  rw [hk]
  simp
set_option maxRecDepth 100000 in
set_option maxHeartbeats 8000000 in
theorem same_self (m : Mem w b W h R now old) (z : WF W h now old) (a : Nat) (ha : a < 18446744073709551616) (hea : isIntB (a : Int) = false) {i : Nat} {x : Ob} (hi : idxAt now h W (toP (a : Int)) = some i) (hx : now[i]? = some x) (hk : x.k = 4) :
    Calls Tryd.prog 30 #[.pointer (some ⟨b, 0, none⟩), .int .u64 (a : Int), .int .u64 (a : Int), .int .i64 5] w fun e w' => e = .returned (.tuple #[.int .i64 1, .int .i64 1, .int .i64 0]) ∧ ∃ n, w' = w.drewN n := by
  have hl := look_obj m z a a ha ha hea hea hi hx hi hx
  rw [lookO_self hk] at hl
  have HL := Lib.hid hl
  clear hl m z hi hx hea ha
  go_enter Tryd.func30, Tryd.ntmps30
  go_wp2_with fail
  go_step3
  go_wp2_with fail
  go_step3
  go_wp2_with fail
  go_loopw [1, 2, 11, 12, 13] (fun p q o c s wr => p = .int .u64 (a : Int) ∧ q = .int .u64 (a : Int) ∧ o = .slice none 0 0 ∧ c = .int .i64 1 ∧ s = .int .i64 0 ∧ wr = w) (fun _ _ _ _ _ _ => 1)
  case atStart => exact ⟨rfl, rfl, rfl, rfl, rfl, rfl⟩
  case round =>
    obtain ⟨rfl, rfl, rfl, rfl, rfl, rfl⟩ := hrel
    go_wp2_with fail
    refine HL.out.mono ?_
    rintro e w2 ⟨rfl, q2, hw2⟩
    subst w2
    go_wp2_with fail
    simp only [Exit.noGoto]
    go_ret3
    exact ⟨rfl, _, rfl⟩
def tyStr (l : Value) : Value := .agg #[.int .i64 2, .int .i64 2, .string ⟨#[115, 116, 114, 105, 110, 103]⟩, l]
theorem below_one (w : World) (o : Obj) : Below w.heap.size w (w.alloc o) := Below.alloc (show Below w.heap.size w w from Below.refl _ _) (Nat.le_refl _) o
theorem below_two (w : World) (o p : Obj) : Below w.heap.size w ((w.alloc o).alloc p) := (below_one w o).alloc (below_one w o).size p
theorem con_str (w : World) : Calls Tryd.prog 40 #[.string ⟨#[115, 116, 114, 105, 110, 103]⟩, .int .i64 2, .slice none 0 0] w fun e w' => e = .returned (tyStr (.slice none 0 0)) ∧ Below w.heap.size w w' := by
  go_enter Tryd.func40, Tryd.ntmps40
  go_wp2
  have f : ∀ i v, (#[.int .i64 2, .int .i64 2, .string ⟨#[115, 116, 114, 105, 110, 103]⟩, .slice none 0 0] : Array Value)[i]? = some v → (w.alloc (.cells #[.int .i64 2, .int .i64 2, .string ⟨#[115, 116, 114, 105, 110, 103]⟩, .slice none 0 0] 61)).cell? ⟨w.heap.size, i, none⟩ = some v := fun i v h => by
    simp only [World.cell?, World.alloc, Array.getElem?_push_size]
    exact h
  have f0 := f 0 _ rfl
  have f1 := f 1 _ rfl
  have f2 := f 2 _ rfl
  have f3 := f 3 _ rfl
  exact bodyPost_ret (v := tyStr (.slice none 0 0)) (by simp [tyStr, results, Tryd.results40, go_sem, f0, f1, f2, f3]) rfl ⟨rfl, below_one _ _⟩
set_option maxRecDepth 100000 in
set_option maxHeartbeats 8000000 in
theorem tellof_text (M l mk : Value) (n : Int) (s : ByteArray) (hs : s.size ≤ 100) (hG : ∀ W1, Below w.heap.size w W1 → Calls Tryd.prog 24 #[M, .int .u64 n] W1 fun e w' => e = .returned (.tuple #[.string s, .int .i64 0]) ∧ Below W1.heap.size W1 w') :
    Calls Tryd.prog 95 #[.agg #[M, mk], .int .u64 n, tyStr l, .int .i64 1] w fun e w' => e = .returned (.tuple #[.string ⟨(quoteL s.data.toList).toArray⟩, .bool false]) ∧ Below w.heap.size w w' := by
  have HG := Lib.hid hG
  have HQ := Lib.hid (fun W1 => quote_any s (by omega) W1)
  clear hG
  unfold tyStr
  go_enter Tryd.func95, Tryd.ntmps95
  go_wp2_with fail
  refine (HG.out _ (below_two _ _ _)).mono ?_
  rintro e w1 ⟨rfl, hb1⟩
  have HB1 := Lib.hid ((below_two w _ _).trans (hb1.mono (below_two w _ _).size))
  clear hb1
  go_wp2_with fail
  refine (HQ.out _).mono ?_
  rintro e w2 ⟨rfl, hb2⟩
  have HB2 := Lib.hid (HB1.out.trans (hb2.mono HB1.out.size))
  clear hb2
  go_wp2_with fail
  go_ret2
  exact ⟨rfl, HB2.out⟩
set_option maxRecDepth 100000 in
set_option maxHeartbeats 8000000 in
theorem tell_text (M l mk : Value) (n : Int) (s : ByteArray) (hs : s.size ≤ 100) (hG : ∀ W1, Below w.heap.size w W1 → Calls Tryd.prog 24 #[M, .int .u64 n] W1 fun e w' => e = .returned (.tuple #[.string s, .int .i64 0]) ∧ Below W1.heap.size W1 w') :
    Calls Tryd.prog 67 #[.agg #[M, mk], .int .u64 n, tyStr l, .int .i64 1] w fun e w' => e = .returned (.tuple #[.string ⟨(quoteL s.data.toList).toArray⟩, .bool false]) ∧ Below w.heap.size w w' := by
  have HT := Lib.hid (fun (W0 : World) (hb0 : Below w.heap.size w W0) => tellof_text (w := W0) M l mk n s hs (fun W1 hb => hG W1 (hb0.trans (hb.mono hb0.size))))
  clear hG
  unfold tyStr at HT ⊢
  go_enter Tryd.func67, Tryd.ntmps67
  go_wp2_with fail
  refine (HT.out _ (below_two _ _ _)).mono ?_
  rintro e w1 ⟨rfl, hb1⟩
  have HB1 := Lib.hid ((below_two w _ _).trans (hb1.mono (below_two w _ _).size))
  clear hb1
  go_wp2_with fail
  go_ret2
  exact ⟨rfl, HB1.out⟩
set_option maxRecDepth 100000 in
set_option maxHeartbeats 8000000 in
theorem show_text (b : Nat) (l : Value) (n : Int) (s : ByteArray) (hs : s.size ≤ 100) (hG : ∀ W1, Below w.heap.size w W1 → Calls Tryd.prog 24 #[.pointer (some ⟨b, 0, none⟩), .int .u64 n] W1 fun e w' => e = .returned (.tuple #[.string s, .int .i64 0]) ∧ Below W1.heap.size W1 w') :
    Calls Tryd.prog 33 #[.pointer (some ⟨b, 0, none⟩), .int .u64 n, tyStr l, .slice none 0 0] w fun e w' => e = .returned (.string ⟨(quoteL s.data.toList).toArray⟩) ∧ Below w.heap.size w w' := by
  have HT := Lib.hid (fun (W0 : World) (hb0 : Below w.heap.size w W0) => tell_text (w := W0) (.pointer (some ⟨b, 0, none⟩)) l (.slice none 0 0) n s hs (fun W1 hb => hG W1 (hb0.trans (hb.mono hb0.size))))
  clear hG
  have hql := (quoteL_len s.data.toList).2
  obtain ⟨Q, hQ⟩ : ∃ Q : ByteArray, (⟨(quoteL s.data.toList).toArray⟩ : ByteArray) = Q := ⟨_, rfl⟩
  have hqs : (Q.size : Int) ≤ 500 := by
    have h1 : s.data.toList.length = s.size := by simp
    have h2 : Q.size = (quoteL s.data.toList).length := by rw [← hQ]; simp [ByteArray.size]
    omega
  have hd : decide ((500 : Int) < (Q.size : Int)) = false := decide_eq_false (by omega)
  rw [hQ] at HT ⊢
  unfold tyStr at HT ⊢
  clear hQ hql hqs
  go_enter Tryd.func33, Tryd.ntmps33
  go_wp2_with fail
  refine (HT.out _ (below_one _ _)).mono ?_
  rintro e w1 ⟨rfl, hb1⟩
  have HB1 := Lib.hid ((below_one w _).trans (hb1.mono (below_one w _).size))
  clear hb1
  go_wp2_with fail
  go_ret
  exact ⟨rfl, HB1.out⟩
end
end Go.Proofs.YtlakfnlkiebpdaaDoor
