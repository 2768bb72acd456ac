/- The contracts of the statements' follow and alike. Conditions: the memories lie as Mem says; the roots are words, the way integers. -/
import Derived.Test.YtjdhjehnofediaaGcBeg
namespace Go.Proofs.Ytjdhjehnofediaa
open Go Go.RowKit
/-- where a way leads from a word -/
def folW (h W : Nat) (s : St) : Nat → List Int → Nat × Bool
  | n, [] => (n, true)
  | n, y :: ys => if n % 2 = 1 then (n, true) else if (lookX h W s (toP n)).2.2.2 ≠ 0 then (0, false) else if (lookX h W s (toP n)).2.2.1 = 0 then (n, true) else
    if (loadX h W s (toP n) (y % ((lookX h W s (toP n)).2.2.1 : Nat)).toNat).2 ≠ 0 then (0, false) else folW h W s (loadX h W s (toP n) (y % ((lookX h W s (toP n)).2.2.1 : Nat)).toNat).1 ys
/-- and from some words -/
def folR (h W : Nat) (s : St) (ns : List Nat) (way : List Int) : Nat × Bool := if ns.length = 0 ∨ way.length = 0 then (0, false) else folW h W s (ns.getD ((way.getD 0 0) % (ns.length : Nat)).toNat 0) ((way.take 60).drop 1)
theorem folW_lt {h W : Nat} {s : St} (z : WF W h s.now s.old) : ∀ (ys : List Int) (n : Nat), n < 18446744073709551616 → (folW h W s n ys).1 < 18446744073709551616
  | [], n, hn => hn
  | y :: ys, n, hn => by
    unfold folW
    split
    · exact hn
    · split
      · show 0 < 18446744073709551616; omega
      · split
        · exact hn
        · split
          · show 0 < 18446744073709551616; omega
          · exact folW_lt z ys _ (loadX_bd z _ _)
theorem folR_lt {h W : Nat} {s : St} (z : WF W h s.now s.old) {ns : List Nat} (hw : ∀ x ∈ ns, x < 18446744073709551616) (way : List Int) : (folR h W s ns way).1 < 18446744073709551616 := by
  unfold folR
  split
  · show 0 < 18446744073709551616; omega
  · refine folW_lt z _ _ ?_
    rw [List.getD_eq_getElem?_getD]
    cases e : ns[((way.getD 0 0) % (ns.length : Nat)).toNat]? with
    | none => show 0 < 18446744073709551616; omega
    | some x => exact hw x (List.mem_of_getElem? e)
theorem toP_le (n : Int) : toP n ≤ 1099511627776 ∧ 0 ≤ toP n := by unfold toP; split <;> omega
set_option maxRecDepth 100000 in
set_option maxHeartbeats 8000000 in
theorem follow_any {w : World} {b W h : Nat} {s : St} {R : Nat → Value} (m : Mem w b W h R s.now s.old) (z : WF W h s.now s.old) {a a2 : Option Addr} {N c N2 c2 : Nat} {ns : List Nat} {ys : List Int} (hv : WordsV w a N ns) (hz : RootsV w a2 N2 ys) (hN : N ≤ 1000) :
    Calls Try.prog 32 #[.pointer (some ⟨b, 0, none⟩), .slice a N c, .slice a2 N2 c2] w fun e w' => e = .returned (.tuple #[.int .u64 (((folR h W s ns ys).1 : Nat) : Int), .bool (folR h W s ns ys).2]) ∧ ∃ n, w' = w.drewN n := by
  have hl := hv.len
  have hl2 := hz.len
  have hfew := hz.few
  by_cases hN0 : N = 0
  · have hb0 : ((N : Int) == 0) = true := beqT (by omega)
    have hF : folR h W s ns ys = (0, false) := by unfold folR; rw [if_pos (.inl (by omega))]
    rw [hF]
    clear hv hz m z hF
    go_enter Try.func32, Try.ntmps32
    go_wp2_with fail
    go_ret2
    exact ⟨rfl, 0, rfl⟩
  have hb0 : ((N : Int) == 0) = false := beqF (by omega)
  by_cases hN2 : N2 = 0
  · have hb2 : ((N2 : Int) == 0) = true := beqT (by omega)
    have hF : folR h W s ns ys = (0, false) := by unfold folR; rw [if_pos (.inr (by omega))]
    rw [hF]
    clear hv hz m z hF
    go_enter Try.func32, Try.ntmps32
    go_wp2_with fail
    go_ret2
    exact ⟨rfl, 0, rfl⟩
  have hb2 : ((N2 : Int) == 0) = false := beqF (by omega)
  have hF : folR h W s ns ys = folW h W s (ns.getD ((ys.getD 0 0) % (ns.length : Nat)).toNat 0) ((ys.take 60).drop 1) := by unfold folR; rw [if_neg (by omega)]
  obtain ⟨F, hFF⟩ : ∃ F, folR h W s ns ys = F := ⟨_, rfl⟩
  rw [hFF] at hF ⊢
  obtain ⟨y0, hy0⟩ : ∃ y0, ys[0]? = some y0 := ⟨_, List.getElem?_eq_getElem (by omega)⟩
  rw [List.getD_eq_getElem?_getD (l := ys), hy0, Option.getD_some, hl] at hF
  have em0 := Int.emod_nonneg y0 (show (N : Int) ≠ 0 by omega)
  have em1 := Int.emod_lt_of_pos y0 (show (0 : Int) < N by omega)
  obtain ⟨r, hr⟩ : ∃ r : Nat, y0 % (N : Int) = r := ⟨(y0 % N).toNat, by omega⟩
  rw [hr, Int.toNat_natCast] at hF
  rw [hr] at em1
  have HA0 := Lib.hid (fun W1 => among_is y0 N (by omega) (by omega) W1)
  rw [hr] at HA0
  obtain ⟨n0, hn0⟩ : ∃ n0, ns[r]? = some n0 := ⟨_, List.getElem?_eq_getElem (by omega)⟩
  rw [List.getD_eq_getElem?_getD (l := ns), hn0, Option.getD_some] at hF
  have hnw := hv.word n0 (List.mem_of_getElem? hn0)
  obtain ⟨g1, o1, e1, _, k1⟩ := hv.cell r n0 hn0
  obtain ⟨g2, o2, e2, _, k2⟩ := hz.cell 0 y0 hy0
  subst e1 e2
  rw [Nat.add_zero] at k2
  have hrN : (r : Int) < N := em1
  have hr0 : (0 : Int) ≤ r := by omega
  have hN2p : (0 : Int) < N2 := by omega
  have HM := Lib.hid m
  have HZ := Lib.hid z
  have HY := Lib.hid hz
  have HF0 := Lib.hid hF
  clear hv hz m z hF hFF hr em0 em1 hy0 hn0
  go_enter Try.func32, Try.ntmps32
  go_wp2_with fail
  refine (HA0.out _).mono ?_
  rintro e w1 ⟨rfl, hw⟩
  subst w1
  go_wp2_with fail
  go_loopw [8, 9] (fun x i wr => ∃ k n : Nat, 1 ≤ k ∧ k ≤ N2 ∧ k ≤ 60 ∧ i = .int .i64 k ∧ x = .int .u64 (n : Int) ∧ n < 18446744073709551616 ∧ F = folW h W s n ((ys.take 60).drop k) ∧ ∃ q, wr = w.drewN q) (fun _ i _ => 60 - (intOf i).toNat)
  case atStart => exact ⟨1, n0, Nat.le_refl _, by omega, by omega, rfl, rfl, hnw, HF0.out, 0, rfl⟩
  case round =>
    obtain ⟨k, n, hk1, hk2, hk3, rfl, rfl, hn, hf, q, hq⟩ := hrel
    have HWR := Lib.hid (show ∃ q, wr = w.drewN q from ⟨q, hq⟩)
    have HMr := Lib.hid (show Mem wr b W h R s.now s.old from by rw [hq]; exact HM.out.drewN q)
    have hcc : ∀ p v, w.cell? p = some v → wr.cell? p = some v := fun p v hv => by rw [hq]; exact hv
    clear hq HF0 k1 k2
    by_cases hlt : k < N2
    · by_cases hlt2 : k < 60
      · obtain ⟨y, hy⟩ : ∃ y, ys[k]? = some y := ⟨_, List.getElem?_eq_getElem (by omega)⟩
        have hdr : (ys.take 60).drop k = y :: (ys.take 60).drop (k + 1) := by
          have : (ys.take 60)[k]? = some y := by rw [List.getElem?_take, if_pos hlt2]; exact hy
          obtain ⟨hp, e⟩ := List.getElem?_eq_some_iff.1 this
          rw [List.drop_eq_getElem_cons hp, e]
        rw [hdr] at hf
        unfold folW at hf
        have hki : (k : Int) < N2 := by omega
        have hk0 : (0 : Int) ≤ k := by omega
        have hk6 : (k : Int) < 60 := by omega
        have HI := Lib.hid (fun W1 => refisint_any (n : Int) W1 (by omega) (by omega))
        obtain ⟨g3, o3, e3, _, k3⟩ := HY.out.cell k y hy
        injection e3 with e3
        injection e3 with e4 e5 _
        subst e4 e5
        have k4 := hcc _ _ k3
        by_cases hod : n % 2 = 1
        · rw [if_pos hod] at hf
          have q0 : isIntB (n : Int) = true := by unfold isIntB; simpa using by omega
          rw [q0] at HI
          subst hf
          clear hcc k3 k4 hdr hy
          go_wp2_with fail
          refine (HI.out _).mono ?_
          rintro e w2 ⟨rfl, hw⟩
          subst hw
          go_wp2_with fail
          go_ret2
          exact ⟨rfl, HWR.out⟩
        · rw [if_neg hod] at hf
          have q0 : isIntB (n : Int) = false := by unfold isIntB; simpa using by omega
          rw [q0] at HI
          have HT := Lib.hid (fun W1 => reftoptr_any (n : Int) W1 (by omega) (by omega))
          have hbd := toP_le (n : Int)
          obtain ⟨P, hP⟩ : ∃ P, toP (n : Int) = P := ⟨_, rfl⟩
          rw [hP] at HT hf hbd
          have HLK := Lib.hid (lookX_any HMr.out HZ.out P (by omega))
          have hlb := lookX_bd HZ.out P
          obtain ⟨u1, hu1⟩ : ∃ u, (lookX h W s P).1 = u := ⟨_, rfl⟩
          obtain ⟨u2, hu2⟩ : ∃ u, (lookX h W s P).2.1 = u := ⟨_, rfl⟩
          obtain ⟨tg, htg⟩ : ∃ u, (lookX h W s P).2.2.1 = u := ⟨_, rfl⟩
          obtain ⟨u4, hu4⟩ : ∃ u, (lookX h W s P).2.2.2 = u := ⟨_, rfl⟩
          rw [hu1, hu2, htg, hu4] at HLK
          rw [hu2, htg] at hlb
          rw [htg, hu4] at hf
          have htg2 : (tg : Int) ≤ 16384 := by omega
          clear hu1 hu2 htg hu4 hP hdr hy k3
          by_cases he : u4 = 0
          · subst he
            rw [if_neg (by simp)] at hf
            by_cases ht0 : tg = 0
            · subst ht0
              rw [if_pos rfl] at hf
              subst hf
              go_wp2_with fail
              refine (HI.out _).mono ?_
              rintro e w2 ⟨rfl, hw⟩
              subst hw
              go_wp2_with fail
              refine (HT.out _).mono ?_
              rintro e w2 ⟨rfl, hw⟩
              subst hw
              go_wp2_with fail
              refine HLK.out.mono ?_
              rintro e w3 ⟨rfl, q3, hw3⟩
              go_wp2_with fail
              go_ret2
              obtain ⟨q, hq⟩ := HWR.out
              exact ⟨rfl, q + q3, by first | rw [hw3, hq, World.drewN_drewN] | rw [hq, World.drewN_drewN]⟩
            · rw [if_neg ht0] at hf
              have htb : ((tg : Int) == 0) = false := beqF (by omega)
              have em0 := Int.emod_nonneg y (show (tg : Int) ≠ 0 by omega)
              have em1 := Int.emod_lt_of_pos y (show (0 : Int) < tg by omega)
              obtain ⟨r2, hr2⟩ : ∃ r2 : Nat, y % (tg : Int) = r2 := ⟨(y % (tg : Int)).toNat, by rw [Int.toNat_of_nonneg em0]⟩
              have HAM := Lib.hid (fun W1 => among_is y tg (by omega) (by omega) W1)
              rw [hr2] at HAM
              rw [hr2, Int.toNat_natCast] at hf
              have hlx := loadX_bd HZ.out P r2
              have hldq := fun q' => loadX_any (HMr.out.drewN q') HZ.out P (by omega) r2
              obtain ⟨x2, hx2⟩ : ∃ x2, (loadX h W s P r2).1 = x2 := ⟨_, rfl⟩
              obtain ⟨u5, hu5⟩ : ∃ u5, (loadX h W s P r2).2 = u5 := ⟨_, rfl⟩
              rw [hx2, hu5] at hldq hf
              have HLD := Lib.hid hldq
              rw [hx2] at hlx
              have HFF := Lib.hid hf
              clear em0 em1 hr2 hx2 hu5 hf hldq
              go_wp2_with fail
              refine (HI.out _).mono ?_
              rintro e w2 ⟨rfl, hw⟩
              subst hw
              go_wp2_with fail
              refine (HT.out _).mono ?_
              rintro e w2 ⟨rfl, hw⟩
              subst hw
              go_wp2_with fail
              refine HLK.out.mono ?_
              rintro e w3 ⟨rfl, q3, hw3⟩
              have k5 : w3.cell? ⟨g2, o2 + k, none⟩ = some (.int .i64 y) := by rw [hw3]; exact k4
              have HLD3 : Hid (∀ n', Calls Try.prog 54 #[.pointer (some ⟨b, 0, none⟩), .int .i64 P, .int .i64 (r2 : Int)] (w3.drewN n') fun e w' => e = .returned (.tuple #[.int .u64 (x2 : Int), .int .i64 (u5 : Int)]) ∧ ∃ n, w' = (w3.drewN n').drewN n) := fun n' => by rw [hw3, World.drewN_drewN]; exact HLD.out (q3 + n')
              have HW3 := Lib.hid (show ∃ q, w3 = w.drewN q from by obtain ⟨q, hq⟩ := HWR.out; exact ⟨q + q3, by rw [hw3, hq, World.drewN_drewN]⟩)
              clear HLD k4 hcc
              clear hw3
              go_wp2_with fail
              go_quiet ((first
                | (go_at_call 37; exact Calls.quiet_of_same ((HT.out _).mono fun _ _ ⟨x, y⟩ => ⟨x, y.symm⟩))
                | (go_at_call 41; exact Calls.quiet_of_same (HAM.out _))
                | (go_at_call 54; exact Calls.quiet_of (HLD3.out _))))
              have HWq := Lib.hid (show ∃ q, w3.drewN nq = w.drewN q from by obtain ⟨q, hq⟩ := HW3.out; exact ⟨q + nq, by rw [hq, World.drewN_drewN]⟩)
              obtain ⟨w5, hw5⟩ : ∃ w5, w3.drewN nq = w5 := ⟨_, rfl⟩
              rw [hw5] at HWq ⊢
              clear hw5 k5 HW3 HLD3
              have hff := HFF.out
              by_cases h5 : u5 = 0
              · subst h5
                rw [if_neg (by simp)] at hff
                have HF5 := Lib.hid hff
                clear hff HFF
                go_wp2_with fail
                go_roundw
                case rel => exact ⟨k + 1, x2, by omega, by omega, by omega, by go_num, rfl, hlx, HF5.out, HWq.out⟩
                case measure => simp [intOf]; omega
              · rw [if_pos h5] at hff
                have heb : ((u5 : Int) != 0) = true := by simpa using by omega
                clear HFF
                subst hff
                go_wp2_with fail
                go_ret2
                exact ⟨rfl, HWq.out⟩
          · rw [if_pos he] at hf
            have heb : ((u4 : Int) != 0) = true := by simpa using by omega
            subst hf
            go_wp2_with fail
            refine (HI.out _).mono ?_
            rintro e w2 ⟨rfl, hw⟩
            subst hw
            go_wp2_with fail
            refine (HT.out _).mono ?_
            rintro e w2 ⟨rfl, hw⟩
            subst hw
            go_wp2_with fail
            refine HLK.out.mono ?_
            rintro e w3 ⟨rfl, q3, hw3⟩
            go_wp2_with fail
            go_ret2
            obtain ⟨q, hq⟩ := HWR.out
            exact ⟨rfl, q + q3, by first | rw [hw3, hq, World.drewN_drewN] | rw [hq, World.drewN_drewN]⟩
      · have hk60 : k = 60 := by omega
        have hki : (k : Int) < N2 := by omega
        have hk6 : ¬ (k : Int) < 60 := by omega
        have hd : (ys.take 60).drop k = [] := List.drop_eq_nil_of_le (by rw [List.length_take]; omega)
        rw [hd] at hf
        subst hf
        clear hcc hd hk60
        go_wp2_with fail
        go_ret2
        exact ⟨rfl, HWR.out⟩
    · have hki : ¬ (k : Int) < N2 := by omega
      have hd : (ys.take 60).drop k = [] := List.drop_eq_nil_of_le (by rw [List.length_take]; omega)
      rw [hd] at hf
      subst hf
      clear hcc hd
      go_wp2_with fail
      go_ret2
      exact ⟨rfl, HWR.out⟩
end Go.Proofs.Ytjdhjehnofediaa
