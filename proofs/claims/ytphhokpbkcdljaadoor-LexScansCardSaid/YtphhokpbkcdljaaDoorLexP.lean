/- The contract of the program's sign. Conditions: the tables are as laid. -/
import Derived.Test.YtphhokpbkcdljaaDoorLexJ
namespace Go.Proofs.YtphhokpbkcdljaaDoor
open Go Go.RowKit
def sgP (l : List UInt8) (k : Nat) : ByteArray := match (signsL.drop k).find? fun s => decide (l.take s.length = s) with
  | some x => ⟨x.toArray⟩
  | none => ⟨#[]⟩
theorem sgP_zero (l : List UInt8) : sgP l 0 = match signP l with
  | some x => ⟨x.toArray⟩
  | none => ⟨#[]⟩ := rfl
theorem sgP_step {l : List UInt8} {k : Nat} (h : k < 22) : sgP l k = if l.take (signsL.getD k []).length = signsL.getD k [] then signN k else sgP l (k + 1) := by
  have hd : signsL.drop k = signsL.getD k [] :: signsL.drop (k + 1) := by
    rw [List.drop_eq_getElem_cons (show k < signsL.length from h), List.getD_eq_getElem?_getD, List.getElem?_eq_getElem (show k < signsL.length from h)]
    rfl
  unfold sgP
  rw [hd, List.find?_cons]
  by_cases q : l.take (signsL.getD k []).length = signsL.getD k []
  · rw [decide_eq_true q, if_pos q]; rfl
  · rw [decide_eq_false q, if_neg q]
theorem sgP_end (l : List UInt8) : sgP l 22 = ⟨#[]⟩ := rfl
set_option maxRecDepth 100000 in
set_option maxHeartbeats 8000000 in
theorem sign_any (s : ByteArray) (w : World) (hT : LxT w) :
    Calls Tryd.prog 46 #[.string s] w fun e w' => e = .returned (.string (sgP s.data.toList 0)) ∧ w' = w := by
  obtain ⟨R, hR⟩ : ∃ R, sgP s.data.toList 0 = R := ⟨_, rfl⟩
  rw [hR]
  obtain ⟨KV, hlk, hnk, hik⟩ := signs_at w hT
  have HLK := Lib.hid hlk
  have HIK := Lib.hid hik
  have HNK := Lib.hid (show (Tryd.prog.info? 79).map (·.size) = some KV.length from by rw [hnk]; exact infoS22)
  have HR := Lib.hid hR
  clear hlk hik hnk hR hT
  go_enter Tryd.func46, Tryd.ntmps46
  go_wp2_with fail
  go_step3
  go_wp2_with fail
  go_step3
  go_wp2_with (refine wpList_load_mid rfl 79 _ rfl 2 0 rfl KV _ HLK.out Tryd.underlying79 rfl HNK.out ?_)
  go_loop [3, 7] (fun f i => ∃ k : Nat, k ≤ 22 ∧ f = .string ⟨#[]⟩ ∧ i = .int .i64 k ∧ sgP s.data.toList k = R) (fun _ i => 22 - (intOf i).toNat)
  case atStart => exact ⟨0, Nat.zero_le _, rfl, rfl, HR.out⟩
  case round =>
    obtain ⟨k, hk, rfl, rfl, hm⟩ := hrel
    by_cases hlt : k < 22
    · rw [sgP_step hlt] at hm
      have hix := fun W => HIK.out k hlt W
      have hp := Tryd.strings_HasPrefix s (signN k)
      have hpl : (signN k).data.toList = signsL.getD k [] := by unfold signN; simp
      rw [hpl] at hp
      by_cases he : s.data.toList.take (signsL.getD k []).length = signsL.getD k []
      · have hb : Lib.hasPrefix s.data.toList (signsL.getD k []) = true := by
          unfold Lib.hasPrefix
          rw [List.isPrefixOf_iff_prefix, List.prefix_iff_eq_take]
          exact he.symm
        rw [if_pos he] at hm
        rw [hb] at hp
        have HP := Lib.hid hp
        have HM := Lib.hid hm
        generalize signN k = kn at hix HP HM
        clear he hm hb hpl hp
        go_wp2_with fail
        refine (HP.out _).mono ?_
        rintro e w1 ⟨rfl, hw1⟩
        subst w1
        go_wp2_with fail
        rw [Exit.noGoto_ret]
        go_ret
        exact ⟨by rw [← HM.out]; rfl, rfl⟩
      · have hb : Lib.hasPrefix s.data.toList (signsL.getD k []) = false := by
          cases e : Lib.hasPrefix s.data.toList (signsL.getD k []) with
          | false => rfl
          | true =>
            unfold Lib.hasPrefix at e
            rw [List.isPrefixOf_iff_prefix, List.prefix_iff_eq_take] at e
            exact absurd e.symm he
        rw [if_neg he] at hm
        rw [hb] at hp
        have HP := Lib.hid hp
        have HM := Lib.hid hm
        generalize signN k = kn at hix HP
        clear he hm hb hpl hp
        go_wp2_with fail
        refine (HP.out _).mono ?_
        rintro e w1 ⟨rfl, hw1⟩
        subst w1
        go_wp2_with fail
        exact ⟨⟨k + 1, hlt, rfl, by go_num, HM.out⟩, by simp [intOf]; omega⟩
    · obtain rfl : k = 22 := by omega
      rw [sgP_end] at hm
      have HM := Lib.hid hm
      clear hm
      go_wp2_with fail
      go_ret
      exact ⟨by rw [← HM.out]; rfl, rfl⟩
end Go.Proofs.YtphhokpbkcdljaaDoor
