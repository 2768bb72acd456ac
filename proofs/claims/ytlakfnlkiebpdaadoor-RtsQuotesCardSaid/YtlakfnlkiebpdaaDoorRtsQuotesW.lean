/- The walk of the statement RtsQuotes: it returns true. Condition: each text is no longer than a text of the machine may be. -/
import Derived.Test.YtlakfnlkiebpdaaDoorRtsKn
import Derived.Test.YtlakfnlkiebpdaaDoorRtsQR
import Derived.Lib.Strings
namespace Go.Proofs.YtlakfnlkiebpdaaDoor
open Go Go.RowKit
theorem str_eq_of {a c : ByteArray} (h : a.data.toList = c.data.toList) : a = c := by
  cases a; cases c
  simp at h
  rw [h]
theorem quoteB_eq (s t : ByteArray) : ((⟨(quoteL s.data.toList).toArray⟩ : ByteArray).toList == (⟨(quoteL t.data.toList).toArray⟩ : ByteArray).toList) = (s.toList == t.toList) := by
  rw [Bool.eq_iff_iff, beq_iff_eq, beq_iff_eq, Lib.toList_data, Lib.toList_data, Lib.toList_data, Lib.toList_data]
  constructor
  · intro h
    exact quoteL_inj h
  · intro h
    show quoteL s.data.toList = quoteL t.data.toList
    rw [h]
theorem byte_mem (Q : ByteArray) (k : Nat) (h : k < Q.size) : Q[k] ∈ Q.data.toList := by
  show Q.data[k] ∈ Q.data.toList
  simp
set_option maxRecDepth 100000 in
set_option maxHeartbeats 8000000 in
theorem rtsQuotes_walk (s t : ByteArray) (hs : s.size ≤ 140737488351232) (ht : t.size ≤ 140737488351232) (w : World) : Calls Tryd.prog 10 #[.string s, .string t] w fun e w' => e = .returned (.bool true) ∧ Below w.heap.size w w' := by
  have HK := Lib.hid rknown_any
  by_cases h1 : 5000 < s.size
  · have hd1 : decide ((5000 : Int) < (s.size : Int)) = true := decide_eq_true (by omega)
    clear h1
    go_enter Tryd.func10, Tryd.ntmps10
    go_wp2_with fail
    refine (HK.out _).mono ?_
    rintro e w3 ⟨rfl, hb3⟩
    have HB3 := Lib.hid hb3
    clear hb3
    go_wp2_with fail
    go_ret
    exact ⟨rfl, HB3.out⟩
  have hd1 : decide ((5000 : Int) < (s.size : Int)) = false := decide_eq_false (by omega)
  by_cases h2 : 5000 < t.size
  · have hd2 : decide ((5000 : Int) < (t.size : Int)) = true := decide_eq_true (by omega)
    clear h1 h2
    go_enter Tryd.func10, Tryd.ntmps10
    go_wp2_with fail
    refine (HK.out _).mono ?_
    rintro e w3 ⟨rfl, hb3⟩
    have HB3 := Lib.hid hb3
    clear hb3
    go_wp2_with fail
    go_ret
    exact ⟨rfl, HB3.out⟩
  have hd2 : decide ((5000 : Int) < (t.size : Int)) = false := decide_eq_false (by omega)
  have hqe := quoteB_eq s t
  have HQS := Lib.hid (quote_any s (by omega))
  have HRS := Lib.hid (refquote_any s (by omega))
  have HQT := Lib.hid (quote_any t (by omega))
  have hqn := quoteL_len s.data.toList
  have HSEEN := Lib.hid (quoteL_seen s.data.toList)
  have hsl : s.data.toList.length = s.size := by simp
  rw [hsl] at hqn
  obtain ⟨L, hL⟩ : ∃ L, quoteL s.data.toList = L := ⟨_, rfl⟩
  rw [hL] at hqe HQS HRS hqn HSEEN
  obtain ⟨Q, hQ⟩ : ∃ Q : ByteArray, (⟨L.toArray⟩ : ByteArray) = Q := ⟨_, rfl⟩
  obtain ⟨T, hT⟩ : ∃ T : ByteArray, (⟨(quoteL t.data.toList).toArray⟩ : ByteArray) = T := ⟨_, rfl⟩
  have hQl : Q.data.toList = L := by rw [← hQ]
  have hqs : Q.size = L.length := by rw [← hQ]; simp [ByteArray.size]
  rw [hQ] at hqe HQS HRS
  rw [hT] at hqe HQT
  have hQT : (!(Q.toList == T.toList) == (s.toList == t.toList)) = false := by rw [hqe]; cases (s.toList == t.toList) <;> rfl
  have hge : decide (((s.size : Int) + 2) ≤ (Q.size : Int)) = true := decide_eq_true (by omega)
  have HQL := Lib.hid hQl
  have hn1 : Q.size ≤ 30000 := by omega
  clear hL hQ hT hQl hqs hqn hsl h1 h2 hqe
  go_enter Tryd.func10, Tryd.ntmps10
  go_wp2_with fail
  refine (HQS.out _).mono ?_
  rintro e w1 ⟨rfl, hb1⟩
  have HB1 := Lib.hid hb1
  clear hb1
  go_wp2_with fail
  refine (HRS.out _).mono ?_
  rintro e w2 ⟨rfl, hb2⟩
  have HB2 := Lib.hid (HB1.out.trans (hb2.mono HB1.out.size))
  clear hb2
  go_wp2_with fail
  refine (HQT.out _).mono ?_
  rintro e w3 ⟨rfl, hb3⟩
  have HB3 := Lib.hid (HB2.out.trans (hb3.mono HB2.out.size))
  clear hb3
  go_wp2_with fail
  go_loopw [6] (fun i wr => ∃ k : Nat, k ≤ Q.size ∧ i = .int .i64 k ∧ wr = w3) (fun i _ => Q.size - (intOf i).toNat)
  case atStart => exact ⟨0, Nat.zero_le _, rfl, rfl⟩
  case round =>
    obtain ⟨k, hk, rfl, hw⟩ := hrel
    subst hw
    by_cases hlt : k < Q.size
    · have hcm := HSEEN.out Q[k] (by rw [← HQL.out]; exact byte_mem Q k hlt)
      obtain ⟨x, hx⟩ : ∃ x, (Q[k]).toNat = x := ⟨_, rfl⟩
      rw [hx] at hcm
      have hc1 : decide ((x : Int) < 32) = false := decide_eq_false (by omega)
      have hc2 : decide ((126 : Int) < (x : Int)) = false := decide_eq_false (by omega)
      clear hcm
      go_wp2_with fail
      go_roundw
      case rel => exact ⟨k + 1, hlt, by go_num, trivial⟩
      case measure => simp [intOf]; omega
    · have hke : k = Q.size := by omega
      subst hke
      clear hlt
      go_wp2_with fail
      refine (HK.out _).mono ?_
      rintro e w4 ⟨rfl, hb4⟩
      have HB4 := Lib.hid (HB3.out.trans (hb4.mono HB3.out.size))
      clear hb4
      go_wp2_with fail
      go_ret
      exact ⟨rfl, HB4.out⟩
end Go.Proofs.YtlakfnlkiebpdaaDoor
