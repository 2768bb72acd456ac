/- The walk of the statement NumPackBack: it returns true. Conditions: the library's table of powers of ten reads as it is laid; the texts are no longer than the reach. -/
import Derived.Test.YtladgbfmfhmpiaaDoorSame
import Derived.Test.YtladgbfmfhmpiaaDoorKnown
namespace Go.Proofs.YtladgbfmfhmpiaaDoor
open Go Go.RowKit
theorem below_tr' {w w1 w2 : World} (h : Below w.heap.size w w1) (k : Below w1.heap.size w1 w2) : Below w.heap.size w w2 := h.trans (k.mono h.size)
theorem ownsRow_below {W W' : World} {n₀ : Nat} {e : TypeId} {v : Value} {n : Nat} {xs : List Value} (h : W.ownsRow n₀ e 1 v n xs) (hb : Below W.heap.size W W') : W'.ownsRow n₀ e 1 v n xs := by
  have hg : W.grownBy W' none := ⟨hb.os, hb.tape, hb.output, hb.size, fun i hi _ => hb.block i hi⟩
  refine h.kept hg ?_
  rcases h.2 with ⟨rfl, _⟩ | ⟨g, cap, cur, rfl, _⟩
  · exact .inl rfl
  · exact .inr (by simp [Value.ownBlock])
theorem bytes_eq {s : ByteArray} {l : List UInt8} (h : l = s.data.toList) : (⟨l.toArray⟩ : ByteArray) = s := by subst h; simp
set_option maxHeartbeats 400000 in
theorem unpack_pack (n₀ : Nat) (s : ByteArray) (hs : s.size ≤ 140737488351232) (v : Value) (w : World) (hv : w.ownsRow n₀ 31 1 v (nWords s.size) (u64s (packL s.data.toList))) :
    Calls Tryd.prog 48 #[v, .int .i64 s.size] w fun e w' => e = .returned (.tuple #[.string s, .int .i64 0]) ∧ Below w.heap.size w w' := by
  have hl : (packL s.data.toList).length = nWords s.size := by rw [packL_length]; simp
  have hw : Words w.heap.size w v (packL s.data.toList) := Words.of_own (n₀ := n₀) (by rw [hl]; exact hv)
  have hu : UOk (packL s.data.toList) s.size := by have := uok_pack s.data.toList; simpa using this
  refine (unpack_yes v _ s.size hs hu w hw).mono ?_
  rintro e w' ⟨rfl, hb⟩
  refine ⟨?_, hb⟩
  have : bytesOf (packL s.data.toList) s.size = s.data.toList := by have := bytesOf_pack s.data.toList; simpa using this
  rw [bytes_eq this]
theorem own_shape {W : World} {n₀ n : Nat} {e : TypeId} {v : Value} {xs : List Value} (h : W.ownsRow n₀ e 1 v n xs) : ∃ a cap, v = .slice a n cap := by
  rcases h.2 with ⟨rfl, rfl⟩ | ⟨g, cap, cur, rfl, _⟩
  · exact ⟨none, 0, rfl⟩
  · exact ⟨_, _, rfl⟩
theorem own_some {W : World} {n₀ n : Nat} {e : TypeId} {v : Value} {xs : List Value} (h : W.ownsRow n₀ e 1 v n xs) (hn : 1 ≤ n) : ∃ g cap, v = .slice (some ⟨g, 0, none⟩) n cap := by
  rcases h.2 with ⟨rfl, rfl⟩ | ⟨g, cap, cur, rfl, _⟩
  · omega
  · exact ⟨_, _, rfl⟩
theorem own_frozen {W : World} {n₀ n g cap : Nat} {e : TypeId} {xs : List Value} (h : W.ownsRow n₀ e 1 (.slice (some ⟨g, 0, none⟩) n cap) n xs) (j : Nat) : W.frozen? ⟨g, j, none⟩ = false := by
  rcases h.2 with ⟨h1, _⟩ | ⟨g', cap', cur, h1, _, hg, _⟩
  · cases h1
  · cases h1
    simp [World.frozen?, hg]
theorem own_cell {W : World} {n₀ g cap : Nat} {zs : List Nat} (h : W.ownsRow n₀ 31 1 (.slice (some ⟨g, 0, none⟩) zs.length cap) zs.length (u64s zs)) (j : Nat) (hj : j < zs.length) : W.cell? ⟨g, j, none⟩ = some (.int .u64 (zs.getD j 0 : Nat)) := by
  rcases Words.of_own h with ⟨h1, _⟩ | ⟨b, off, cap', h1, _, _, hc⟩
  · cases h1
  · have h2 := hc j hj
    cases h1
    rw [Nat.zero_add] at h2
    exact h2
theorem u64s_set (zs : List Nat) (j z : Nat) : u64s (zs.set j z) = (u64s zs).set j (.int .u64 (z : Int)) := by simp [u64s, List.map_set]
theorem xor_step (z : Nat) (b : Int) (hz : z < 18446744073709551616) (h0 : 0 ≤ b) (h1 : b ≤ 18446744073709551615) (hb : b ≠ 0) : ∃ z' : Nat, bits BinOp.xor IntKind.u64 (z : Int) b = (z' : Int) ∧ z' ≠ z ∧ z' < 18446744073709551616 := by
  refine ⟨z ^^^ b.toNat, ?_, ?_, ?_⟩
  · have := u64_xor (z : Int) b (by omega) (by omega) h0 (by omega)
    rw [this]; simp
  · intro h
    have h2 : z ^^^ (z ^^^ b.toNat) = b.toNat := by rw [← Nat.xor_assoc, Nat.xor_self, Nat.zero_xor]
    rw [h, Nat.xor_self] at h2
    omega
  · have := Nat.xor_lt_two_pow (n := 64) (x := z) (y := b.toNat) (by omega) (by omega)
    omega
theorem set_ne {zs : List Nat} {j z : Nat} (hj : j < zs.length) (h : z ≠ zs.getD j 0) : zs.set j z ≠ zs := by
  intro e
  have h2 : (zs.set j z).getD j 0 = z := by simp [List.getD, hj]
  rw [e] at h2
  exact h h2.symm
theorem packL_lt (l : List UInt8) : ∀ z ∈ packL l, z < 18446744073709551616 := by
  intro z hz
  obtain ⟨k, _, rfl⟩ := List.mem_map.1 hz
  exact wordN_lt l k
theorem set_lt {zs : List Nat} {j z : Nat} (h : ∀ x ∈ zs, x < 18446744073709551616) (hz : z < 18446744073709551616) : ∀ x ∈ zs.set j z, x < 18446744073709551616 := by
  intro x hx
  rcases List.mem_or_eq_of_mem_set hx with h1 | h1
  · exact h x h1
  · omega
theorem pack_eq_iff {s t : ByteArray} (h : s.size = t.size) : decide (packL s.data.toList = packL t.data.toList) = (s.toList == t.toList) := by
  rw [Bool.eq_iff_iff, decide_eq_true_eq, beq_iff_eq, Lib.toList_data, Lib.toList_data]
  constructor
  · intro e; exact packL_inj (by simpa using h) e
  · intro e; rw [e]
theorem same_to (v1 v2 : Value) (xs ys : List Nat) (bb : Bool) (hbb : decide (xs = ys) = bb) (hx : xs.length ≤ 140737488351232) (w : World) (h1 : Words w.heap.size w v1 xs) (h2 : Words w.heap.size w v2 ys) :
    Calls Tryd.prog 51 #[v1, v2] w fun e w' => e = .returned (.bool bb) ∧ Below w.heap.size w w' := by
  refine (same_any v1 v2 xs ys hx w h1 h2).mono ?_
  rintro e w' ⟨he, hb⟩
  unfold SameOut at he
  exact ⟨by rw [he, hbb], hb⟩
/-- the words of a text, owned -/
def OwnP (n₀ : Nat) (W : World) (v : Value) (s : ByteArray) : Prop := W.ownsRow n₀ 31 1 v (nWords s.size) (u64s (packL s.data.toList))
theorem ownP_words {n₀ : Nat} {W : World} {v : Value} {s : ByteArray} (h : OwnP n₀ W v s) : Words W.heap.size W v (packL s.data.toList) := by
  have hl : (packL s.data.toList).length = nWords s.size := by rw [packL_length]; simp
  exact Words.of_own (n₀ := n₀) (by rw [hl]; exact h)
theorem pack_own (s : ByteArray) (hs : s.size ≤ 140737488351232) (w : World) :
    Calls Tryd.prog 52 #[.string s] w fun e w' => (∃ a cap, e = .returned (.slice a (nWords s.size) cap) ∧ OwnP w.heap.size w' (.slice a (nWords s.size) cap) s) ∧ Below w.heap.size w w' := by
  refine (pack_any s hs w).mono ?_
  rintro e w' ⟨v, rfl, hv, hb⟩
  obtain ⟨a, cap, rfl⟩ := own_shape hv
  exact ⟨⟨a, cap, rfl, hv⟩, hb⟩
set_option maxHeartbeats 2000000 in
theorem numPackBack_longs (s t : ByteArray) (at' by' : Int) (h : 4096 < s.size) (hs : s.size ≤ 140737488351232) (w : World) (ht : Tab w) :
    Calls Tryd.prog 13 #[.string s, .string t, .int .i64 at', .int .u64 by'] w fun e w' => e = .returned (.bool true) ∧ Below w.heap.size w w' := by
  have HT := Lib.hid ht
  clear ht
  go_enter Tryd.func13, Tryd.ntmps13
  go_wp2_with fail
  refine (known_any _ HT.out).mono ?_
  rintro e w1 ⟨rfl, hb⟩
  go_wp2_with fail
  go_ret
  exact ⟨rfl, hb⟩
set_option maxHeartbeats 2000000 in
theorem numPackBack_longt (s t : ByteArray) (at' by' : Int) (h0 : s.size ≤ 4096) (h : 4096 < t.size) (ht2 : t.size ≤ 140737488351232) (w : World) (ht : Tab w) :
    Calls Tryd.prog 13 #[.string s, .string t, .int .i64 at', .int .u64 by'] w fun e w' => e = .returned (.bool true) ∧ Below w.heap.size w w' := by
  have HT := Lib.hid ht
  clear ht
  go_enter Tryd.func13, Tryd.ntmps13
  go_wp2_with fail
  refine (known_any _ HT.out).mono ?_
  rintro e w1 ⟨rfl, hb⟩
  go_wp2_with fail
  go_ret
  exact ⟨rfl, hb⟩
theorem after_store {W : World} {n₀ g cap j n z' : Nat} {zs : List Nat} (h : W.ownsRow n₀ 31 1 (.slice (some ⟨g, 0, none⟩) n cap) n (u64s zs)) : (W.setCell ⟨g, j, none⟩ (.int .u64 (z' : Int))).ownsRow n₀ 31 1 (.slice (some ⟨g, 0, none⟩) n cap) n (u64s (zs.set j z')) := by
  rw [u64s_set]; exact (World.ownsRow.stored h j _).1
theorem words_of' {W : World} {n₀ n : Nat} {v : Value} {zs : List Nat} (hl : zs.length = n) (h : W.ownsRow n₀ 31 1 v n (u64s zs)) : Words W.heap.size W v zs := Words.of_own (n₀ := n₀) (by rw [hl]; exact h)
theorem unpack_to (v : Value) (zs : List Nat) (m : Nat) (hm : m ≤ 140737488351232) (hu : UOk zs m) (y : ByteArray) (hy : y.data.toList = bytesOf zs m) (w : World) (hv : Words w.heap.size w v zs) :
    Calls Tryd.prog 48 #[v, .int .i64 m] w fun e w' => e = .returned (.tuple #[.string y, .int .i64 0]) ∧ Below w.heap.size w w' := by
  refine (unpack_yes v zs m hm hu w hv).mono ?_
  rintro e w' ⟨rfl, hb⟩
  exact ⟨by rw [bytes_eq hy.symm], hb⟩
theorem own_base {W : World} {n₀ n g cap : Nat} {e : TypeId} {xs : List Value} (h : W.ownsRow n₀ e 1 (.slice (some ⟨g, 0, none⟩) n cap) n xs) : n₀ ≤ g := by
  rcases h.2 with ⟨h1, _⟩ | ⟨g', cap', cur, h1, hb, _⟩
  · cases h1
  · cases h1; exact hb
set_option maxHeartbeats 4000000 in
theorem numPackBack_eq_empty (s t : ByteArray) (at' by' : Int) (h0 : s.size ≤ 4096) (h1 : t.size ≤ 4096) (hst : s.size = t.size) (he : s.size = 0) (w : World) (ht : Tab w) :
    Calls Tryd.prog 13 #[.string s, .string t, .int .i64 at', .int .u64 by'] w fun e w' => e = .returned (.bool true) ∧ Below w.heap.size w w' := by
  have HT := Lib.hid ht
  have HST := Lib.hid hst
  have hse : ((s.size : Int) == (t.size : Int)) = true := by
    have : ((s.size : Int) = (t.size : Int)) := by omega
    simpa using this
  have hnw : ((nWords s.size : Int) != ((s.size : Int) + 7) / 8) = false := by
    have : ((nWords s.size : Int) = ((s.size : Int) + 7) / 8) := by unfold nWords; omega
    simpa using this
  have hlen : (packL s.data.toList).length = nWords s.size := by rw [packL_length]; simp
  have HLEN := Lib.hid hlen
  have hnb : nWords s.size ≤ 1000 := by unfold nWords; omega
  have hz : ((nWords s.size : Int) == 0) = true := by
    have : ((nWords s.size : Int) = 0) := by unfold nWords; omega
    simpa using this
  obtain ⟨bb, hbb1, hbb2⟩ : ∃ bb : Bool, decide (packL s.data.toList = packL t.data.toList) = bb ∧ (s.toList == t.toList) = bb := ⟨_, pack_eq_iff hst, rfl⟩
  have HBB := Lib.hid hbb1
  clear hbb1
  clear ht hst hlen he
  go_enter Tryd.func13, Tryd.ntmps13
  go_wp2_with fail
  refine (pack_own s (by omega) _).mono ?_
  rintro e w1 ⟨⟨a, cap, rfl, hv⟩, hb1⟩
  have HV1 := Lib.hid hv
  have HB1 := Lib.hid hb1
  have HT1 := Lib.hid (tab_below HT.out (Nat.le_refl _) hb1)
  clear hv hb1
  go_wp2_with fail
  refine (unpack_pack _ s (by omega) _ _ HV1.out).mono ?_
  rintro e w2 ⟨rfl, hb2⟩
  have HV2 := Lib.hid (ownsRow_below HV1.out hb2)
  have HB2 := Lib.hid (below_tr' HB1.out hb2)
  have HT2 := Lib.hid (tab_below HT1.out (Nat.le_refl _) hb2)
  clear hb2
  go_wp2_with fail
  refine (pack_own t (by omega) _).mono ?_
  rintro e w3 ⟨⟨a3, cap3, rfl, hv3⟩, hb3⟩
  have HV3 := Lib.hid (ownsRow_below HV2.out hb3)
  have HW3 := Lib.hid (ownP_words hv3)
  have HB3 := Lib.hid (below_tr' HB2.out hb3)
  have HT3 := Lib.hid (tab_below HT2.out (Nat.le_refl _) hb3)
  clear hb3 hv3
  go_wp2_with fail
  refine (same_to _ _ _ _ bb HBB.out (by rw [HLEN.out]; omega) _ (ownP_words HV3.out) HW3.out).mono ?_
  rintro e w4 ⟨rfl, hb4⟩
  have HV4 := Lib.hid (ownsRow_below HV3.out hb4)
  have HB4 := Lib.hid (below_tr' HB3.out hb4)
  have HT4 := Lib.hid (tab_below HT3.out (Nat.le_refl _) hb4)
  clear hb4
  go_wp2_with fail
  refine (known_any _ HT4.out).mono ?_
  rintro e w9 ⟨rfl, hb9⟩
  go_wp2_with fail
  go_ret
  exact ⟨rfl, below_tr' HB4.out hb9⟩
set_option maxHeartbeats 4000000 in
theorem numPackBack_eq_by0 (s t : ByteArray) (at' : Int) (h0 : s.size ≤ 4096) (h1 : t.size ≤ 4096) (hst : s.size = t.size) (hp : 1 ≤ s.size) (w : World) (ht : Tab w) :
    Calls Tryd.prog 13 #[.string s, .string t, .int .i64 at', .int .u64 0] w fun e w' => e = .returned (.bool true) ∧ Below w.heap.size w w' := by
  have HT := Lib.hid ht
  have HST := Lib.hid hst
  have hse : ((s.size : Int) == (t.size : Int)) = true := by
    have : ((s.size : Int) = (t.size : Int)) := by omega
    simpa using this
  have hnw : ((nWords s.size : Int) != ((s.size : Int) + 7) / 8) = false := by
    have : ((nWords s.size : Int) = ((s.size : Int) + 7) / 8) := by unfold nWords; omega
    simpa using this
  have hlen : (packL s.data.toList).length = nWords s.size := by rw [packL_length]; simp
  have HLEN := Lib.hid hlen
  have hnb : nWords s.size ≤ 1000 := by unfold nWords; omega
  have hz : ((nWords s.size : Int) == 0) = false := by
    have : ¬ ((nWords s.size : Int) = 0) := by unfold nWords; omega
    simpa using this
  have hpos : 1 ≤ nWords s.size := by unfold nWords; omega
  obtain ⟨bb, hbb1, hbb2⟩ : ∃ bb : Bool, decide (packL s.data.toList = packL t.data.toList) = bb ∧ (s.toList == t.toList) = bb := ⟨_, pack_eq_iff hst, rfl⟩
  have HBB := Lib.hid hbb1
  clear hbb1
  clear ht hst hlen
  go_enter Tryd.func13, Tryd.ntmps13
  go_wp2_with fail
  refine (pack_own s (by omega) _).mono ?_
  rintro e w1 ⟨⟨a, cap, rfl, hv⟩, hb1⟩
  have HV1 := Lib.hid hv
  have HB1 := Lib.hid hb1
  have HT1 := Lib.hid (tab_below HT.out (Nat.le_refl _) hb1)
  clear hv hb1
  go_wp2_with fail
  refine (unpack_pack _ s (by omega) _ _ HV1.out).mono ?_
  rintro e w2 ⟨rfl, hb2⟩
  have HV2 := Lib.hid (ownsRow_below HV1.out hb2)
  have HB2 := Lib.hid (below_tr' HB1.out hb2)
  have HT2 := Lib.hid (tab_below HT1.out (Nat.le_refl _) hb2)
  clear hb2
  go_wp2_with fail
  refine (pack_own t (by omega) _).mono ?_
  rintro e w3 ⟨⟨a3, cap3, rfl, hv3⟩, hb3⟩
  have HV3 := Lib.hid (ownsRow_below HV2.out hb3)
  have HW3 := Lib.hid (ownP_words hv3)
  have HB3 := Lib.hid (below_tr' HB2.out hb3)
  have HT3 := Lib.hid (tab_below HT2.out (Nat.le_refl _) hb3)
  clear hb3 hv3
  go_wp2_with fail
  refine (same_to _ _ _ _ bb HBB.out (by rw [HLEN.out]; omega) _ (ownP_words HV3.out) HW3.out).mono ?_
  rintro e w4 ⟨rfl, hb4⟩
  have HV4 := Lib.hid (ownsRow_below HV3.out hb4)
  have HB4 := Lib.hid (below_tr' HB3.out hb4)
  have HT4 := Lib.hid (tab_below HT3.out (Nat.le_refl _) hb4)
  clear hb4
  go_wp2_with fail
  refine (known_any _ HT4.out).mono ?_
  rintro e w9 ⟨rfl, hb9⟩
  go_wp2_with fail
  go_ret
  exact ⟨rfl, below_tr' HB4.out hb9⟩
set_option maxHeartbeats 4000000 in
theorem numPackBack_eq_rest (s t : ByteArray) (at' by' : Int) (h0 : s.size ≤ 4096) (h1 : t.size ≤ 4096) (hst : s.size = t.size) (hp : 1 ≤ s.size) (hby : by' ≠ 0) (hby0 : 0 ≤ by') (hby1 : by' ≤ 18446744073709551615) (w : World) (ht : Tab w) :
    Calls Tryd.prog 13 #[.string s, .string t, .int .i64 at', .int .u64 by'] w fun e w' => e = .returned (.bool true) ∧ Below w.heap.size w w' := by
  have HT := Lib.hid ht
  have HST := Lib.hid hst
  have hse : ((s.size : Int) == (t.size : Int)) = true := by
    have : ((s.size : Int) = (t.size : Int)) := by omega
    simpa using this
  have hnw : ((nWords s.size : Int) != ((s.size : Int) + 7) / 8) = false := by
    have : ((nWords s.size : Int) = ((s.size : Int) + 7) / 8) := by unfold nWords; omega
    simpa using this
  have hlen : (packL s.data.toList).length = nWords s.size := by rw [packL_length]; simp
  have HLEN := Lib.hid hlen
  have hnb : nWords s.size ≤ 1000 := by unfold nWords; omega
  have hz : ((nWords s.size : Int) == 0) = false := by
    have : ¬ ((nWords s.size : Int) = 0) := by unfold nWords; omega
    simpa using this
  have hpos : 1 ≤ nWords s.size := by unfold nWords; omega
  have hbz : (by' == 0) = false := by simpa using hby
  have HBY := Lib.hid hby
  clear hby
  obtain ⟨bb, hbb1, hbb2⟩ : ∃ bb : Bool, decide (packL s.data.toList = packL t.data.toList) = bb ∧ (s.toList == t.toList) = bb := ⟨_, pack_eq_iff hst, rfl⟩
  have HBB := Lib.hid hbb1
  clear hbb1
  clear ht hst hlen
  go_enter Tryd.func13, Tryd.ntmps13
  go_wp2_with fail
  refine (pack_own s (by omega) _).mono ?_
  rintro e w1 ⟨⟨a, cap, rfl, hv⟩, hb1⟩
  have HV1 := Lib.hid hv
  have HB1 := Lib.hid hb1
  have HT1 := Lib.hid (tab_below HT.out (Nat.le_refl _) hb1)
  clear hv hb1
  go_wp2_with fail
  refine (unpack_pack _ s (by omega) _ _ HV1.out).mono ?_
  rintro e w2 ⟨rfl, hb2⟩
  have HV2 := Lib.hid (ownsRow_below HV1.out hb2)
  have HB2 := Lib.hid (below_tr' HB1.out hb2)
  have HT2 := Lib.hid (tab_below HT1.out (Nat.le_refl _) hb2)
  clear hb2
  go_wp2_with fail
  refine (pack_own t (by omega) _).mono ?_
  rintro e w3 ⟨⟨a3, cap3, rfl, hv3⟩, hb3⟩
  have HV3 := Lib.hid (ownsRow_below HV2.out hb3)
  have HW3 := Lib.hid (ownP_words hv3)
  have HB3 := Lib.hid (below_tr' HB2.out hb3)
  have HT3 := Lib.hid (tab_below HT2.out (Nat.le_refl _) hb3)
  clear hb3 hv3
  go_wp2_with fail
  refine (same_to _ _ _ _ bb HBB.out (by rw [HLEN.out]; omega) _ (ownP_words HV3.out) HW3.out).mono ?_
  rintro e w4 ⟨rfl, hb4⟩
  have HV4 := Lib.hid (ownsRow_below HV3.out hb4)
  have HB4 := Lib.hid (below_tr' HB3.out hb4)
  have HT4 := Lib.hid (tab_below HT3.out (Nat.le_refl _) hb4)
  clear hb4
  obtain ⟨g, cap', hag⟩ := own_some HV4.out hpos
  injection hag with hag1 hag2 hag3
  subst hag1
  clear hag2 hag3
  go_wp2_with fail
  refine (among_any at' (nWords s.size) hpos (by omega) _).mono ?_
  rintro e w' ⟨⟨j, hj, rfl⟩, rfl⟩
  have HROW : Hid (w4.ownsRow w.heap.size 31 1 (.slice (some ⟨g, 0, none⟩) (packL s.data.toList).length cap) (packL s.data.toList).length (u64s (packL s.data.toList))) := by rw [HLEN.out]; exact HV4.out
  have hfr := own_frozen HROW.out j
  have hcell := own_cell HROW.out j (by rw [HLEN.out]; exact hj)
  obtain ⟨z, hz1⟩ : ∃ z, (packL s.data.toList).getD j 0 = z := ⟨_, rfl⟩
  rw [hz1] at hcell
  have hzl : z < 18446744073709551616 := by
    rw [← hz1, packL_getD _ _ (by rw [← packL_length, HLEN.out]; exact hj)]
    exact wordN_lt _ _
  obtain ⟨z', hx, hzne, hzl'⟩ := xor_step z by' hzl hby0 hby1 HBY.out
  have HST1 := Lib.hid (World.ownsRow.stored HROW.out j (.int .u64 (z' : Int)))
  have HNE : Hid ((packL s.data.toList).set j z' ≠ packL s.data.toList) := set_ne (by rw [HLEN.out]; exact hj) (by rw [hz1]; exact hzne)
  have HLT := Lib.hid (set_lt (j := j) (packL_lt s.data.toList) hzl')
  have HBL := Lib.hid ((Below.refl w.heap.size w4).setCell (p := ⟨g, j, none⟩) (own_base HROW.out) (.int .u64 (z' : Int)))
  clear hz1 hzne hzl hzl'
  have HOWN5 := Lib.hid (after_store (j := j) (z' := z') HV4.out)
  have HZL : Hid (((packL s.data.toList).set j z').length = nWords s.size) := by rw [List.length_set]; exact HLEN.out
  have HB5 := Lib.hid (HB4.out.trans HBL.out)
  have HT5 := Lib.hid (tab_below HT.out (Nat.le_refl _) HB5.out)
  generalize hzs : (packL s.data.toList).set j z' = zs' at HOWN5 HZL HNE HLT
  generalize hw5 : w4.setCell ⟨g, j, none⟩ (.int .u64 (z' : Int)) = w5 at HOWN5 HB5 HT5
  by_cases hu : UOk zs' s.size
  · obtain ⟨y, hy⟩ : ∃ y : ByteArray, y.data.toList = bytesOf zs' s.size := ⟨⟨(bytesOf zs' s.size).toArray⟩, by simp⟩
    have hpy : packL y.data.toList = zs' := by rw [hy]; exact packL_bytes hu HLT.out
    have hsz : y.size = s.size := by
      have e : y.size = y.data.toList.length := by simp
      rw [e, hy, bytesOf_length]
    have hys : (y.toList == s.toList) = false := by
      rw [Lib.toList_data, Lib.toList_data]
      have : ¬ (y.data.toList = s.data.toList) := fun e => HNE.out (by rw [← hpy, e])
      simpa using this
    have HY := Lib.hid hy
    have HPY := Lib.hid hpy
    have hyl : y.size ≤ 4096 := by omega
    have HU := Lib.hid hu
    have HZS := Lib.hid hzs
    clear hy hpy hsz hu hzs
    go_wp2_with fail
    clear hw5
    refine (unpack_to _ zs' s.size (by omega) HU.out y HY.out _ (words_of' HZL.out HOWN5.out)).mono ?_
    rintro e w6 ⟨rfl, hb6⟩
    have HV6 := Lib.hid (ownsRow_below HOWN5.out hb6)
    have HB6 := Lib.hid (below_tr' HB5.out hb6)
    have HT6 := Lib.hid (tab_below HT5.out (Nat.le_refl _) hb6)
    clear hb6
    go_wp2_with fail
    refine (pack_own y (by omega) _).mono ?_
    rintro e w7 ⟨⟨a7, cap7, rfl, hv7⟩, hb7⟩
    have HV7 := Lib.hid (ownsRow_below HV6.out hb7)
    have HW7 := Lib.hid (ownP_words hv7)
    have HB7 := Lib.hid (below_tr' HB6.out hb7)
    have HT7 := Lib.hid (tab_below HT6.out (Nat.le_refl _) hb7)
    clear hb7 hv7
    go_wp2_with fail
    refine (same_to _ _ _ zs' true (decide_eq_true HPY.out) (by rw [HPY.out, HZL.out]; omega) _ HW7.out (words_of' HZL.out HV7.out)).mono ?_
    rintro e w8 ⟨rfl, hb8⟩
    have HB8 := Lib.hid (below_tr' HB7.out hb8)
    have HT8 := Lib.hid (tab_below HT7.out (Nat.le_refl _) hb8)
    clear hb8
    go_wp2_with fail
    refine (known_any _ HT8.out).mono ?_
    rintro e w9 ⟨rfl, hb9⟩
    go_wp2_with fail
    go_ret
    exact ⟨rfl, below_tr' HB8.out hb9⟩
  · have HU := Lib.hid hu
    clear hu hzs
    go_wp2_with fail
    clear hw5
    refine (unpack_err _ zs' s.size (by omega) HU.out _ (words_of' HZL.out HOWN5.out)).mono ?_
    rintro e w6 ⟨rfl, rfl⟩
    go_wp2_with fail
    refine (known_any _ HT5.out).mono ?_
    rintro e w9 ⟨rfl, hb9⟩
    go_wp2_with fail
    go_ret
    exact ⟨rfl, below_tr' HB5.out hb9⟩
set_option maxHeartbeats 4000000 in
theorem numPackBack_ne_empty (s t : ByteArray) (at' by' : Int) (h0 : s.size ≤ 4096) (h1 : t.size ≤ 4096) (hst : s.size ≠ t.size) (he : s.size = 0) (w : World) (ht : Tab w) :
    Calls Tryd.prog 13 #[.string s, .string t, .int .i64 at', .int .u64 by'] w fun e w' => e = .returned (.bool true) ∧ Below w.heap.size w w' := by
  have HT := Lib.hid ht
  have HST := Lib.hid hst
  have hse : ((s.size : Int) == (t.size : Int)) = false := by
    have : ¬ ((s.size : Int) = (t.size : Int)) := by omega
    simpa using this
  have hnw : ((nWords s.size : Int) != ((s.size : Int) + 7) / 8) = false := by
    have : ((nWords s.size : Int) = ((s.size : Int) + 7) / 8) := by unfold nWords; omega
    simpa using this
  have hlen : (packL s.data.toList).length = nWords s.size := by rw [packL_length]; simp
  have HLEN := Lib.hid hlen
  have hnb : nWords s.size ≤ 1000 := by unfold nWords; omega
  have hz : ((nWords s.size : Int) == 0) = true := by
    have : ((nWords s.size : Int) = 0) := by unfold nWords; omega
    simpa using this
  clear ht hst hlen he
  go_enter Tryd.func13, Tryd.ntmps13
  go_wp2_with fail
  refine (pack_own s (by omega) _).mono ?_
  rintro e w1 ⟨⟨a, cap, rfl, hv⟩, hb1⟩
  have HV1 := Lib.hid hv
  have HB1 := Lib.hid hb1
  have HT1 := Lib.hid (tab_below HT.out (Nat.le_refl _) hb1)
  clear hv hb1
  go_wp2_with fail
  refine (unpack_pack _ s (by omega) _ _ HV1.out).mono ?_
  rintro e w2 ⟨rfl, hb2⟩
  have HV2 := Lib.hid (ownsRow_below HV1.out hb2)
  have HB2 := Lib.hid (below_tr' HB1.out hb2)
  have HT2 := Lib.hid (tab_below HT1.out (Nat.le_refl _) hb2)
  clear hb2
  go_wp2_with fail
  refine (known_any _ HT2.out).mono ?_
  rintro e w9 ⟨rfl, hb9⟩
  go_wp2_with fail
  go_ret
  exact ⟨rfl, below_tr' HB2.out hb9⟩
set_option maxHeartbeats 4000000 in
theorem numPackBack_ne_by0 (s t : ByteArray) (at' : Int) (h0 : s.size ≤ 4096) (h1 : t.size ≤ 4096) (hst : s.size ≠ t.size) (hp : 1 ≤ s.size) (w : World) (ht : Tab w) :
    Calls Tryd.prog 13 #[.string s, .string t, .int .i64 at', .int .u64 0] w fun e w' => e = .returned (.bool true) ∧ Below w.heap.size w w' := by
  have HT := Lib.hid ht
  have HST := Lib.hid hst
  have hse : ((s.size : Int) == (t.size : Int)) = false := by
    have : ¬ ((s.size : Int) = (t.size : Int)) := by omega
    simpa using this
  have hnw : ((nWords s.size : Int) != ((s.size : Int) + 7) / 8) = false := by
    have : ((nWords s.size : Int) = ((s.size : Int) + 7) / 8) := by unfold nWords; omega
    simpa using this
  have hlen : (packL s.data.toList).length = nWords s.size := by rw [packL_length]; simp
  have HLEN := Lib.hid hlen
  have hnb : nWords s.size ≤ 1000 := by unfold nWords; omega
  have hz : ((nWords s.size : Int) == 0) = false := by
    have : ¬ ((nWords s.size : Int) = 0) := by unfold nWords; omega
    simpa using this
  have hpos : 1 ≤ nWords s.size := by unfold nWords; omega
  clear ht hst hlen
  go_enter Tryd.func13, Tryd.ntmps13
  go_wp2_with fail
  refine (pack_own s (by omega) _).mono ?_
  rintro e w1 ⟨⟨a, cap, rfl, hv⟩, hb1⟩
  have HV1 := Lib.hid hv
  have HB1 := Lib.hid hb1
  have HT1 := Lib.hid (tab_below HT.out (Nat.le_refl _) hb1)
  clear hv hb1
  go_wp2_with fail
  refine (unpack_pack _ s (by omega) _ _ HV1.out).mono ?_
  rintro e w2 ⟨rfl, hb2⟩
  have HV2 := Lib.hid (ownsRow_below HV1.out hb2)
  have HB2 := Lib.hid (below_tr' HB1.out hb2)
  have HT2 := Lib.hid (tab_below HT1.out (Nat.le_refl _) hb2)
  clear hb2
  go_wp2_with fail
  refine (known_any _ HT2.out).mono ?_
  rintro e w9 ⟨rfl, hb9⟩
  go_wp2_with fail
  go_ret
  exact ⟨rfl, below_tr' HB2.out hb9⟩
set_option maxHeartbeats 4000000 in
theorem numPackBack_ne_rest (s t : ByteArray) (at' by' : Int) (h0 : s.size ≤ 4096) (h1 : t.size ≤ 4096) (hst : s.size ≠ t.size) (hp : 1 ≤ s.size) (hby : by' ≠ 0) (hby0 : 0 ≤ by') (hby1 : by' ≤ 18446744073709551615) (w : World) (ht : Tab w) :
    Calls Tryd.prog 13 #[.string s, .string t, .int .i64 at', .int .u64 by'] w fun e w' => e = .returned (.bool true) ∧ Below w.heap.size w w' := by
  have HT := Lib.hid ht
  have HST := Lib.hid hst
  have hse : ((s.size : Int) == (t.size : Int)) = false := by
    have : ¬ ((s.size : Int) = (t.size : Int)) := by omega
    simpa using this
  have hnw : ((nWords s.size : Int) != ((s.size : Int) + 7) / 8) = false := by
    have : ((nWords s.size : Int) = ((s.size : Int) + 7) / 8) := by unfold nWords; omega
    simpa using this
  have hlen : (packL s.data.toList).length = nWords s.size := by rw [packL_length]; simp
  have HLEN := Lib.hid hlen
  have hnb : nWords s.size ≤ 1000 := by unfold nWords; omega
  have hz : ((nWords s.size : Int) == 0) = false := by
    have : ¬ ((nWords s.size : Int) = 0) := by unfold nWords; omega
    simpa using this
  have hpos : 1 ≤ nWords s.size := by unfold nWords; omega
  have hbz : (by' == 0) = false := by simpa using hby
  have HBY := Lib.hid hby
  clear hby
  clear ht hst hlen
  go_enter Tryd.func13, Tryd.ntmps13
  go_wp2_with fail
  refine (pack_own s (by omega) _).mono ?_
  rintro e w1 ⟨⟨a, cap, rfl, hv⟩, hb1⟩
  have HV1 := Lib.hid hv
  have HB1 := Lib.hid hb1
  have HT1 := Lib.hid (tab_below HT.out (Nat.le_refl _) hb1)
  clear hv hb1
  go_wp2_with fail
  refine (unpack_pack _ s (by omega) _ _ HV1.out).mono ?_
  rintro e w2 ⟨rfl, hb2⟩
  have HV2 := Lib.hid (ownsRow_below HV1.out hb2)
  have HB2 := Lib.hid (below_tr' HB1.out hb2)
  have HT2 := Lib.hid (tab_below HT1.out (Nat.le_refl _) hb2)
  clear hb2
  obtain ⟨g, cap', hag⟩ := own_some HV2.out hpos
  injection hag with hag1 hag2 hag3
  subst hag1
  clear hag2 hag3
  go_wp2_with fail
  refine (among_any at' (nWords s.size) hpos (by omega) _).mono ?_
  rintro e w' ⟨⟨j, hj, rfl⟩, rfl⟩
  have HROW : Hid (w2.ownsRow w.heap.size 31 1 (.slice (some ⟨g, 0, none⟩) (packL s.data.toList).length cap) (packL s.data.toList).length (u64s (packL s.data.toList))) := by rw [HLEN.out]; exact HV2.out
  have hfr := own_frozen HROW.out j
  have hcell := own_cell HROW.out j (by rw [HLEN.out]; exact hj)
  obtain ⟨z, hz1⟩ : ∃ z, (packL s.data.toList).getD j 0 = z := ⟨_, rfl⟩
  rw [hz1] at hcell
  have hzl : z < 18446744073709551616 := by
    rw [← hz1, packL_getD _ _ (by rw [← packL_length, HLEN.out]; exact hj)]
    exact wordN_lt _ _
  obtain ⟨z', hx, hzne, hzl'⟩ := xor_step z by' hzl hby0 hby1 HBY.out
  have HST1 := Lib.hid (World.ownsRow.stored HROW.out j (.int .u64 (z' : Int)))
  have HNE : Hid ((packL s.data.toList).set j z' ≠ packL s.data.toList) := set_ne (by rw [HLEN.out]; exact hj) (by rw [hz1]; exact hzne)
  have HLT := Lib.hid (set_lt (j := j) (packL_lt s.data.toList) hzl')
  have HBL := Lib.hid ((Below.refl w.heap.size w2).setCell (p := ⟨g, j, none⟩) (own_base HROW.out) (.int .u64 (z' : Int)))
  clear hz1 hzne hzl hzl'
  have HOWN5 := Lib.hid (after_store (j := j) (z' := z') HV2.out)
  have HZL : Hid (((packL s.data.toList).set j z').length = nWords s.size) := by rw [List.length_set]; exact HLEN.out
  have HB5 := Lib.hid (HB2.out.trans HBL.out)
  have HT5 := Lib.hid (tab_below HT.out (Nat.le_refl _) HB5.out)
  generalize hzs : (packL s.data.toList).set j z' = zs' at HOWN5 HZL HNE HLT
  generalize hw5 : w2.setCell ⟨g, j, none⟩ (.int .u64 (z' : Int)) = w5 at HOWN5 HB5 HT5
  by_cases hu : UOk zs' s.size
  · obtain ⟨y, hy⟩ : ∃ y : ByteArray, y.data.toList = bytesOf zs' s.size := ⟨⟨(bytesOf zs' s.size).toArray⟩, by simp⟩
    have hpy : packL y.data.toList = zs' := by rw [hy]; exact packL_bytes hu HLT.out
    have hsz : y.size = s.size := by
      have e : y.size = y.data.toList.length := by simp
      rw [e, hy, bytesOf_length]
    have hys : (y.toList == s.toList) = false := by
      rw [Lib.toList_data, Lib.toList_data]
      have : ¬ (y.data.toList = s.data.toList) := fun e => HNE.out (by rw [← hpy, e])
      simpa using this
    have HY := Lib.hid hy
    have HPY := Lib.hid hpy
    have hyl : y.size ≤ 4096 := by omega
    have HU := Lib.hid hu
    have HZS := Lib.hid hzs
    clear hy hpy hsz hu hzs
    go_wp2_with fail
    clear hw5
    refine (unpack_to _ zs' s.size (by omega) HU.out y HY.out _ (words_of' HZL.out HOWN5.out)).mono ?_
    rintro e w6 ⟨rfl, hb6⟩
    have HV6 := Lib.hid (ownsRow_below HOWN5.out hb6)
    have HB6 := Lib.hid (below_tr' HB5.out hb6)
    have HT6 := Lib.hid (tab_below HT5.out (Nat.le_refl _) hb6)
    clear hb6
    go_wp2_with fail
    refine (pack_own y (by omega) _).mono ?_
    rintro e w7 ⟨⟨a7, cap7, rfl, hv7⟩, hb7⟩
    have HV7 := Lib.hid (ownsRow_below HV6.out hb7)
    have HW7 := Lib.hid (ownP_words hv7)
    have HB7 := Lib.hid (below_tr' HB6.out hb7)
    have HT7 := Lib.hid (tab_below HT6.out (Nat.le_refl _) hb7)
    clear hb7 hv7
    go_wp2_with fail
    refine (same_to _ _ _ zs' true (decide_eq_true HPY.out) (by rw [HPY.out, HZL.out]; omega) _ HW7.out (words_of' HZL.out HV7.out)).mono ?_
    rintro e w8 ⟨rfl, hb8⟩
    have HB8 := Lib.hid (below_tr' HB7.out hb8)
    have HT8 := Lib.hid (tab_below HT7.out (Nat.le_refl _) hb8)
    clear hb8
    go_wp2_with fail
    refine (known_any _ HT8.out).mono ?_
    rintro e w9 ⟨rfl, hb9⟩
    go_wp2_with fail
    go_ret
    exact ⟨rfl, below_tr' HB8.out hb9⟩
  · have HU := Lib.hid hu
    clear hu hzs
    go_wp2_with fail
    clear hw5
    refine (unpack_err _ zs' s.size (by omega) HU.out _ (words_of' HZL.out HOWN5.out)).mono ?_
    rintro e w6 ⟨rfl, rfl⟩
    go_wp2_with fail
    refine (known_any _ HT5.out).mono ?_
    rintro e w9 ⟨rfl, hb9⟩
    go_wp2_with fail
    go_ret
    exact ⟨rfl, below_tr' HB5.out hb9⟩
theorem numPackBack_walk (s t : ByteArray) (at' by' : Int) (hs : s.size ≤ 140737488351232) (ht2 : t.size ≤ 140737488351232) (hby0 : 0 ≤ by') (hby1 : by' ≤ 18446744073709551615) (w : World) (ht : Tab w) :
    Calls Tryd.prog 13 #[.string s, .string t, .int .i64 at', .int .u64 by'] w fun e w' => e = .returned (.bool true) ∧ Below w.heap.size w w' := by
  by_cases h0 : s.size ≤ 4096
  · by_cases h1 : t.size ≤ 4096
    · by_cases he : s.size = 0
      · by_cases hst : s.size = t.size
        · exact numPackBack_eq_empty s t at' by' h0 h1 hst he w ht
        · exact numPackBack_ne_empty s t at' by' h0 h1 hst he w ht
      · by_cases hby : by' = 0
        · subst hby
          by_cases hst : s.size = t.size
          · exact numPackBack_eq_by0 s t at' h0 h1 hst (by omega) w ht
          · exact numPackBack_ne_by0 s t at' h0 h1 hst (by omega) w ht
        · by_cases hst : s.size = t.size
          · exact numPackBack_eq_rest s t at' by' h0 h1 hst (by omega) hby hby0 hby1 w ht
          · exact numPackBack_ne_rest s t at' by' h0 h1 hst (by omega) hby hby0 hby1 w ht
    · exact numPackBack_longt s t at' by' h0 (by omega) ht2 w ht
  · exact numPackBack_longs s t at' by' (by omega) hs w ht
end Go.Proofs.YtladgbfmfhmpiaaDoor
