/- The walk of the statement LexPrints: it returns true. Conditions: each text is within the reach; the tables are as laid. -/
import Derived.Test.YtphhokpbkcdljaaDoorLexTk
namespace Go.Proofs.YtphhokpbkcdljaaDoor
open Go Go.RowKit
set_option maxRecDepth 100000 in
set_option maxHeartbeats 8000000 in
theorem lexPrints_walk (A : Option Addr) (c : Nat) (ts : List TkB) (w : World) (hq : A = none → c = 0 ∧ ts = []) (ht : Tks w.heap.size w A ts) (hz : ∀ t ∈ ts, t.s.size ≤ 140737488351232) (hT : LTab w) :
    Calls Tryd.prog 6 #[.slice A ts.length c] w fun e w' => e = .returned (.bool true) ∧ Below w.heap.size w w' := by
  obtain ⟨i0, hi, hz0, hz1, hz2⟩ := info_parts infoTok
  have hf := ht.few
  obtain ⟨N, hN⟩ : ∃ N, ts.length = N := ⟨_, rfl⟩
  rw [hN] at hf ⊢
  have HN := Lib.hid hN
  have HTS := Lib.hid (And.intro ht (And.intro hz hq))
  have HT := Lib.hid hT
  have HK := Lib.hid lknown_any
  clear hN ht hz hq hT
  go_enter Tryd.func6, Tryd.ntmps6
  go_wp2_with fail
  go_loopw [3, 4] (fun n i wr => ∃ k : Nat, k ≤ N ∧ i = .int .i64 k ∧ n = .int .i64 (sumT (ts.take k) : Nat) ∧ wr = w ∧ sumT (ts.take k) ≤ 150000000000000) (fun _ i _ => N - (intOf i).toNat)
  case atStart => exact ⟨0, Nat.zero_le _, rfl, rfl, rfl, by rw [List.take_zero]; exact Nat.zero_le _⟩
  case round =>
    obtain ⟨k, hk, rfl, rfl, hw, hsm⟩ := hrel
    replace hw := hw.symm
    subst hw
    by_cases hlt : k < N
    · obtain ⟨t, hkt⟩ : ∃ t, ts[k]? = some t := ⟨_, List.getElem?_eq_getElem (by rw [HN.out]; exact hlt)⟩
      have HS := Lib.hid (sumT_succ hkt)
      obtain ⟨S, hS⟩ : ∃ S, sumT (ts.take k) = S := ⟨_, rfl⟩
      rw [hS] at hsm HS
      rw [hS]
      have HSS := Lib.hid hS
      clear hS
      by_cases hle : S ≤ 3000
      · have hd : decide ((S : Int) ≤ 3000) = true := decide_eq_true (by omega)
        obtain ⟨g, off, rfl, hg, c0, c1, c2, c3⟩ := HTS.out.1.cell k t hkt
        have hs2 := HTS.out.2.1 t (List.mem_of_getElem? hkt)
        clear c0 c2 c3 hkt hg
        go_wp2_with fail
        go_roundw
        case rel => exact ⟨k + 1, hlt, by go_num, by rw [HS.out]; go_num, trivial, by rw [HS.out]; omega⟩
        case measure => simp [intOf]; omega
      · have hd : decide ((S : Int) ≤ 3000) = false := decide_eq_false (by omega)
        have hd2 : decide ((3000 : Int) < (S : Int)) = true := decide_eq_true (by omega)
        clear hle hkt
        go_wp2_with fail
        refine (HK.out _ HT.out).mono ?_
        rintro e w1 ⟨rfl, hb1⟩
        have HB1 := Lib.hid hb1
        clear hb1
        go_wp2_with fail
        go_ret
        exact ⟨rfl, HB1.out⟩
    · have hke : k = N := by omega
      subst hke
      have htk : ts.take k = ts := List.take_of_length_le (by rw [HN.out]; exact Nat.le_refl _)
      rw [htk] at hsm ⊢
      clear htk hlt
      by_cases hle : sumT ts ≤ 3000
      · obtain ⟨h1, h2⟩ := sumT_le hle
        rw [HN.out] at h1
        have hd2 : decide ((3000 : Int) < (sumT ts : Int)) = false := decide_eq_false (by omega)
        have HZ := Lib.hid h2
        have hno : A = none → c = 0 ∧ k = 0 := fun q => by
          obtain ⟨q1, q2⟩ := HTS.out.2.2 q
          exact ⟨q1, by rw [← HN.out, q2]; rfl⟩
        have HNO := Lib.hid hno
        have hcl := cellsB_len ts
        rw [HN.out] at hcl
        have HCL := Lib.hid hcl
        generalize sumT ts = S at hd2 hsm hle
        clear h2 hno hle hcl
        go_wp2_with (at_builtin; refine wpList_append_tok rfl _ _ 24 rfl w.heap.size 32 i0 (.agg #[.int .i64 0, .string ⟨#[]⟩, .int .i64 0, .int .i64 0]) 40 Tryd.underlying24 hi hz0 hz1 hz2 rfl (.slice none 0 0) 0 [] rfl (World.ownsRow_nil _ _ _ _) A k c (cellsB ts) rfl HNO.out HCL.out HTS.out.1.news (cellsB_one' ts) (by unfold maxLen; omega) (by omega) (Nat.le_refl _) ?_; intro v5 w5 hown5 hgrow5 _; have HO5 := Lib.hid hown5; have HB5 := Lib.hid ((Below.refl w.heap.size w).grown hgrow5 (Nat.le_refl _) (fun j hj => by cases hj)); clear hown5 hgrow5)
        have ho := HO5.out
        rw [List.nil_append, Nat.zero_add, ← HN.out] at ho
        obtain ⟨A5, c5, rfl, _, _, hk5⟩ := tks_ownB ho HTS.out.1.ok (by rw [HN.out]; exact hf)
        have HK5 := Lib.hid hk5
        have HPR := Lib.hid (print_any A5 c5 ts w5 hk5 (by rw [HN.out]; omega) (fun t q => Nat.le_trans (HZ.out t q) (by decide)) (HT.out.stay HB5.out).t (HT.out.stay HB5.out).x)
        rw [HN.out, prV_eq] at HPR
        rw [HN.out]
        clear ho hk5
        go_wp2_with fail
        refine HPR.out.mono ?_
        rintro e w6 ⟨rfl, hb6⟩
        have H6 := Lib.hid (And.intro (HB5.out.trans (hb6.mono HB5.out.size)) ((HK5.out.below hb6).mono hb6.size))
        clear hb6
        have HRP := Lib.hid (ref_print A c ts w6 ((HTS.out.1.below H6.out.1).mono H6.out.1.size) (by rw [HN.out]; omega) (fun t q => Nat.le_trans (HZ.out t q) (by decide)))
        rw [HN.out, prV_eq] at HRP
        go_wp2_with fail
        refine HRP.out.mono ?_
        rintro e w7 ⟨rfl, hb7⟩
        have H7 := Lib.hid (And.intro (H6.out.1.trans (hb7.mono H6.out.1.size)) ((H6.out.2.below hb7).mono hb7.size))
        clear hb7
        generalize prS (joinL [] (ts.map TkB.I)) = P
        generalize prE (joinL [] (ts.map TkB.I)) = E
        have hp : (P.toList == P.toList) = true := by simp
        have hE : (E == E) = true := by simp
        have HSM := Lib.hid (same_any A5 A c5 c ts ts true w7 H7.out.2 ((HTS.out.1.below H7.out.1).mono H7.out.1.size))
        rw [HN.out, sameT_same] at HSM
        go_wp2_with fail
        refine HSM.out.mono ?_
        rintro e w8 ⟨rfl, hb8⟩
        have H8 := Lib.hid (H7.out.1.trans (hb8.mono H7.out.1.size))
        clear hb8
        go_wp2_with fail
        refine (HK.out _ (HT.out.stay H8.out)).mono ?_
        rintro e w9 ⟨rfl, hb9⟩
        have H9 := Lib.hid (H8.out.trans (hb9.mono H8.out.size))
        clear hb9
        go_wp2_with fail
        go_ret
        exact ⟨rfl, H9.out⟩
      · have hd2 : decide ((3000 : Int) < (sumT ts : Int)) = true := decide_eq_true (by omega)
        generalize sumT ts = S at hd2 hsm hle
        clear hle
        go_wp2_with fail
        refine (HK.out _ HT.out).mono ?_
        rintro e w1 ⟨rfl, hb1⟩
        have HB1 := Lib.hid hb1
        clear hb1
        go_wp2_with fail
        go_ret
        exact ⟨rfl, HB1.out⟩
end Go.Proofs.YtphhokpbkcdljaaDoor
