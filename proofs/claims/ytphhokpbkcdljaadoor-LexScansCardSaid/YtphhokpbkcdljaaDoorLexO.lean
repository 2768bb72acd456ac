/- The contract of kindOf. Conditions: the tables are as laid. -/
import Derived.Test.YtphhokpbkcdljaaDoorLexJ
namespace Go.Proofs.YtphhokpbkcdljaaDoor
open Go Go.RowKit
set_option maxRecDepth 100000 in
set_option maxHeartbeats 8000000 in
theorem kindof_any (s : ByteArray) (h0 : 0 < s.size) (w : World) (hT : LxT w) :
    Calls Tryd.prog 45 #[.string s] w fun e w' => e = .returned (.int .i64 ((kindW s.data.toList : Nat) : Int)) ∧ w' = w := by
  obtain ⟨K, hK⟩ : ∃ K, kindW s.data.toList = K := ⟨_, rfl⟩
  rw [hK]
  have HK := Lib.hid hK
  clear hK
  obtain ⟨KV, hlk, hnk, hik⟩ := keys_at w hT
  obtain ⟨CV, hlc, hnc, hic⟩ := caps_at w hT
  have HLK := Lib.hid hlk
  have HLC := Lib.hid hlc
  have HIK := Lib.hid hik
  have HIC := Lib.hid hic
  have HNK := Lib.hid (show (Tryd.prog.info? 77).map (·.size) = some KV.length from by rw [hnk]; exact infoS26)
  have HNC := Lib.hid (show (Tryd.prog.info? 78).map (·.size) = some CV.length from by rw [hnc]; exact infoS3)
  clear hlk hlc hik hic hnk hnc
  have HX := Lib.hid hT
  clear hT
  go_enter Tryd.func45, Tryd.ntmps45
  go_wp2_with (refine wpList_load_mid rfl 77 _ rfl 0 0 rfl KV _ HLK.out Tryd.underlying77 rfl HNK.out ?_)
  go_loop [8] (fun i => ∃ k : Nat, k ≤ 26 ∧ i = .int .i64 k ∧ (s.data.toList ∈ keysL ↔ s.data.toList ∈ keysL.drop k)) (fun i => 26 - (intOf i).toNat)
  case atStart => exact ⟨0, Nat.zero_le _, rfl, by rw [List.drop_zero]⟩
  case round =>
    obtain ⟨k, hk, rfl, hm⟩ := hrel
    by_cases hlt : k < 26
    · rw [drop_mem (L := keysL) hlt] at hm
      have hix := fun W => HIK.out k hlt W
      by_cases he : s.data.toList = keysL.getD k []
      · have hB : ((keyN k).toList == s.toList) = true := by
          unfold keyN
          rw [toL_of, Lib.toList_data, he]; simp
        have HE := Lib.hid (show K = 6 from by
          rw [← HK.out, kindW, if_pos (hm.2 (.inl he))])
        generalize keyN k = kn at hix hB
        clear he hm
        go_wp2_with fail
        go_ret
        exact ⟨ret_intL (by rw [HE.out]; rfl), rfl⟩
      · have hB : ((keyN k).toList == s.toList) = false := by
          unfold keyN
          rw [toL_of, Lib.toList_data, beq_eq_false_iff_ne]
          exact fun q => he q.symm
        have HM := Lib.hid (show s.data.toList ∈ keysL ↔ s.data.toList ∈ keysL.drop (k + 1) from hm.trans ⟨fun q => q.resolve_left he, .inr⟩)
        generalize keyN k = kn at hix hB
        clear he hm
        go_wp2_with fail
        exact ⟨⟨k + 1, hlt, by go_num, HM.out⟩, by simp [intOf]; omega⟩
    · obtain rfl : k = 26 := by omega
      have HN := Lib.hid (show s.data.toList ∉ keysL from fun q => by have := hm.1 q; simp [keysL] at this)
      clear hm
      go_wp2_with (refine wpList_load_mid rfl 78 _ rfl 1 0 rfl CV _ HLC.out Tryd.underlying78 rfl HNC.out ?_)
      go_loop [16] (fun i => ∃ k : Nat, k ≤ 3 ∧ i = .int .i64 k ∧ (s.data.toList ∈ capsL ↔ s.data.toList ∈ capsL.drop k)) (fun i => 3 - (intOf i).toNat)
      case atStart => exact ⟨0, Nat.zero_le _, rfl, by rw [List.drop_zero]⟩
      case round =>
        obtain ⟨k, hk, rfl, hm⟩ := hrel
        by_cases hlt : k < 3
        · rw [drop_mem (L := capsL) hlt] at hm
          have hix := fun W => HIC.out k hlt W
          by_cases he : s.data.toList = capsL.getD k []
          · have hB : ((capN k).toList == s.toList) = true := by
              unfold capN
              rw [toL_of, Lib.toList_data, he]; simp
            have HE := Lib.hid (show K = 4 from by
              rw [← HK.out, kindW, if_neg HN.out, if_pos (.inr (hm.2 (.inl he)))])
            generalize capN k = kn at hix hB
            clear he hm
            go_wp2_with fail
            go_ret
            exact ⟨ret_intL (by rw [HE.out]; rfl), rfl⟩
          · have hB : ((capN k).toList == s.toList) = false := by
              unfold capN
              rw [toL_of, Lib.toList_data, beq_eq_false_iff_ne]
              exact fun q => he q.symm
            have HM := Lib.hid (show s.data.toList ∈ capsL ↔ s.data.toList ∈ capsL.drop (k + 1) from hm.trans ⟨fun q => q.resolve_left he, .inr⟩)
            generalize capN k = kn at hix hB
            clear he hm
            go_wp2_with fail
            exact ⟨⟨k + 1, hlt, by go_num, HM.out⟩, by simp [intOf]; omega⟩
        · obtain rfl : k = 3 := by omega
          have HN2 := Lib.hid (show s.data.toList ∉ capsL from fun q => by have := hm.1 q; simp [capsL] at this)
          have HG := Lib.hid (isLg_any s[0])
          have hl : s.data.toList.headD 0 = s[0] := by
            have h5 := drop_cons s h0
            rw [List.drop_zero] at h5
            rw [h5]; rfl
          cases hg : isLg s[0] with
          | true =>
            have HE := Lib.hid (show K = 4 from by rw [← HK.out, kindW, if_neg HN.out, if_pos (.inl (by rw [hl]; exact hg))])
            rw [hg] at HG
            clear hm hl hg
            go_wp2_with fail
            refine (HG.out _).mono ?_
            rintro e w1 ⟨rfl, hw1⟩
            subst w1
            go_wp2_with fail
            go_ret
            exact ⟨ret_intL (by rw [HE.out]; rfl), rfl⟩
          | false =>
            have HE := Lib.hid (show K = 3 from by
              rw [← HK.out, kindW, if_neg HN.out, if_neg]
              rintro (q | q)
              · rw [hl, hg] at q; cases q
              · exact HN2.out q)
            rw [hg] at HG
            clear hm hl hg
            go_wp2_with fail
            refine (HG.out _).mono ?_
            rintro e w1 ⟨rfl, hw1⟩
            subst w1
            go_wp2_with fail
            go_ret
            exact ⟨ret_intL (by rw [HE.out]; rfl), rfl⟩
end Go.Proofs.YtphhokpbkcdljaaDoor
