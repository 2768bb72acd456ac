/- The contracts of the reference's Live, moved and Collect. Conditions: the document's memory lies as RT says; the roots are words. -/
import Derived.Test.YtjdhjehnofediaaGcRef
import Derived.Test.YtjdhjehnofediaaRmC
namespace Go.Proofs.Ytjdhjehnofediaa
open Go Go.RowKit
section
variable {w w1 : World} {rb W h : Nat} {now old : List Ob} {v1 v2 : Value} {P1 P2 : List (RO × Value)}
theorem needs_le (z : WF W h now old) (met : List Nat) : needs now met ≤ met.length * 16385 := by
  induction met with
  | nil => simp [needs]
  | cons x l ih =>
    have e : needs now (x :: l) = (1 + ((now[x]?).map fun o => o.ws.length).getD 0) + needs now l := by simp [needs]
    have h1 : ((now[x]?).map fun o => o.ws.length).getD 0 ≤ 16384 := by
      cases hx : now[x]? with
      | none => simp
      | some o =>
        have := right_bd (z.okn o (List.mem_of_getElem? hx)).right
        simp; omega
    rw [e, List.length_cons]
    omega
set_option maxRecDepth 100000 in
set_option maxHeartbeats 8000000 in
theorem rlive_any (t : RT w rb W h now old v1 P1 v2 P2) {a : Option Addr} {N c : Nat} {ns : List Nat} (hv : WordsV w a N ns) (hno : a = none → c = 0) (hN : N ≤ 100000) :
    Calls Try.prog 29 #[.pointer (some ⟨rb, 0, none⟩), .slice a N c] w fun e w' => e = .returned (.tuple #[.int .i64 (liveN now h W ns : Nat), .int .i64 (checkE now h W ns)]) ∧ Below w.heap.size w w' := by
  have HRR := Lib.hid (rreach_any t hv hno hN)
  have HT := Lib.hid t
  have hnl : now.length ≤ 65536 := by
    have h1 := P_length t.e1
    have h2 := Nat.le_trans (length_le_usedP P1) t.rz.u1
    omega
  clear t hv hno hN
  go_enter Try.func29, Try.ntmps29
  go_wp2_with fail
  refine HRR.out.mono ?_
  rintro e w2 (⟨hr, rfl, hb⟩ | ⟨met, v, hr, rfl, hb, hrow⟩)
  · have HB := Lib.hid hb
    have e1 : liveN now h W ns = 0 := by unfold liveN; rw [hr]; rfl
    have e2 : checkE now h W ns = 40 := by unfold checkE; rw [hr]
    have HE := Lib.hid (And.intro e1 e2)
    clear hb hr e1 e2 HRR
    go_wp2_with fail
    go_ret2
    exact ⟨by rw [HE.out.1, HE.out.2]; rfl, HB.out⟩
  · have HB := Lib.hid hb
    have e1 : liveN now h W ns = needs now met := by unfold liveN; rw [hr]; rfl
    have e2 : checkE now h W ns = 0 := by unfold checkE; rw [hr]
    have HE := Lib.hid (And.intro e1 e2)
    have hok := reach_okm hr
    have hml := hok.len
    have HOK := Lib.hid hok
    have HROW := Lib.hid hrow
    obtain ⟨ua, uc, rfl, huc, huc2⟩ := own_shape5 (own_mono hrow (Nat.zero_le _))
    have HT2 := Lib.hid (HT.out.below hb)
    obtain ⟨L, hL⟩ : ∃ L, met.length = L := ⟨_, rfl⟩
    have HL := Lib.hid hL
    rw [hL] at HROW huc hml ⊢
    clear hb hr e1 e2 hok hrow hL HRR HT
    go_wp2_with fail
    go_loopw [8, 9] (fun n i wr => ∃ q : Nat, q ≤ L ∧ i = .int .i64 q ∧ n = .int .i64 (needs now (met.take q) : Nat) ∧ Below w2.heap.size w2 wr) (fun _ i _ => L - (intOf i).toNat)
    case atStart => exact ⟨0, Nat.zero_le _, rfl, rfl, Below.refl _ _⟩
    case round =>
      obtain ⟨q, hq, rfl, rfl, hb2⟩ := hrel
      by_cases hlt : q < L
      · obtain ⟨j, hj⟩ : ∃ j, met[q]? = some j := ⟨_, List.getElem?_eq_getElem (by rw [HL.out]; exact hlt)⟩
        have hjn := HOK.out.lt j (List.mem_of_getElem? hj)
        obtain ⟨o, ho⟩ : ∃ o, now[j]? = some o := ⟨_, List.getElem?_eq_getElem hjn⟩
        have hrt := HT2.out.below hb2
        obtain ⟨g, cap, wa, wc, hv1, hcap, hcap2, hat, hw1, hw2, _, _, _⟩ := hrt.words ho
        have hf : ∀ n, Calls Try.prog 63 #[v1, .int .i64 (objA h W now j)] (wr.drewN n) fun e w' => e = .returned (.int .i64 (j : Int)) ∧ w' = wr.drewN n := fun n => by
          have q := (hrt.drewN n).find (objA h W now j)
          rw [show idxAt now h W (objA h W now j) = some j from idxAt_of hjn] at q
          exact q
        have hbd := right_bd (hrt.z.okn o (List.mem_of_getElem? ho)).right
        obtain ⟨_, _, _, hsz, _, hts⟩ := hbd
        have hc2 := hrt.r.c2
        rw [hv1] at hf hc2
        have hrow' := (Fr.of_below (O := fun _ => False) hb2).own HROW.out (fun _ _ => id)
        obtain ⟨g2, c2, hu2, _, _, hg2, hcx⟩ := int_at hrow' hlt (metI_get hj)
        injection hu2 with q1 q2 q3
        subst q1
        have d3 : wr.cell? ⟨g, j * 5 + 3, none⟩ = some (.slice wa o.ws.length wc) := hat.c3
        have hns : needs now (met.take (q + 1)) = needs now (met.take q) + (1 + o.ws.length) := by
          rw [take_snoc hj, needs_snoc, ho]; rfl
        have hnb := needs_le hrt.z (met.take q)
        have hnb2 : (met.take q).length ≤ q := List.length_take_le _ _
        obtain ⟨A, hA⟩ : ∃ A, objA h W now j = A := ⟨_, rfl⟩
        rw [hA] at hf hcx
        have HFN := Lib.hid hf
        obtain ⟨D, hD⟩ : ∃ D, needs now (met.take q) = D := ⟨_, rfl⟩
        rw [hD] at hns hnb ⊢
        obtain ⟨NL, hNL⟩ : ∃ NL, now.length = NL := ⟨_, rfl⟩
        rw [hNL] at hc2 HFN hcap hnl hjn hml
        obtain ⟨OS, hOS⟩ : ∃ OS, o.ws.length = OS := ⟨_, rfl⟩
        rw [hOS] at hns hsz hw1 d3
        have hD2 : D ≤ 1073807360 := by
          have : (met.take q).length * 16385 ≤ 65536 * 16385 := Nat.mul_le_mul_right _ (by omega)
          omega
        have s1 : IntKind.i64.wrap ((D : Int) + 1) = (D : Int) + 1 := by rw [IntKind.wrap_i64]; omega
        have s2 : IntKind.i64.wrap ((D : Int) + 1 + OS) = (D : Int) + 1 + OS := by rw [IntKind.wrap_i64]; omega
        have hj0 : (0 : Int) ≤ j := by omega
        have hj1 : (j : Int) < NL := by omega
        have hq0 : (0 : Int) ≤ q := by omega
        have hq1 : (q : Int) < L := by omega
        have HNS := Lib.hid hns
        have HB2 := Lib.hid hb2
        clear hj hjn ho hrt hv1 hat hf hrow' hA hD hNL hOS q2 q3 hns hnb hnb2 hb2 hg2
        go_wp2_with fail
        go_quiet ((go_at_call 63; refine Calls.quiet_of_same (HFN.out _)))
        clear s1 s2
        go_wp2_with fail
        go_roundw
        case rel => exact ⟨q + 1, hlt, by go_num, by rw [HNS.out]; go_num, Below.drewN' HB2.out _⟩
        case measure => simp [intOf]; omega
      · obtain rfl : q = L := by omega
        have HQ := Lib.hid (show needs now (met.take q) = needs now met from by rw [List.take_of_length_le (by rw [HL.out]; exact Nat.le_refl _)])
        have HB2 := Lib.hid hb2
        clear hb2
        go_wp2_with fail
        go_ret2
        exact ⟨by rw [HE.out.1, HE.out.2, HQ.out]; rfl, HB.out.trans (HB2.out.mono HB.out.size)⟩
/-- a word by its object's new address -/
def movedZ (n : Int) : List Int → List Int → Int
  | x :: xs, y :: ys => if n = ptrW x then ptrW y else movedZ n xs ys
  | _, _ => n
theorem movedZ_drop {n : Int} {xs ys : List Int} {i : Nat} {x y : Int} (hx : xs[i]? = some x) (hy : ys[i]? = some y) : movedZ n (xs.drop i) (ys.drop i) = if n = ptrW x then ptrW y else movedZ n (xs.drop (i + 1)) (ys.drop (i + 1)) := by
  obtain ⟨h1, rfl⟩ := List.getElem?_eq_some_iff.1 hx
  obtain ⟨h2, rfl⟩ := List.getElem?_eq_some_iff.1 hy
  rw [List.drop_eq_getElem_cons h1, List.drop_eq_getElem_cons h2]
  rfl
set_option maxRecDepth 100000 in
set_option maxHeartbeats 8000000 in
theorem rmoved_any {B B' : Nat} {L : Nat} {u1 u2 : Value} {xs ys : List Int} (hx : w.ownsRow B 3 1 u1 L (ints xs)) (hy : w.ownsRow B' 3 1 u2 L (ints ys)) (hxl : xs.length = L) (hyl : ys.length = L) (hL : L ≤ 65536) (n : Nat) :
    Calls Try.prog 59 #[.int .u64 (n : Int), u1, u2] w fun e w' => e = .returned (.int .u64 (movedZ n xs ys)) ∧ w' = w := by
  obtain ⟨ua, uc, rfl, huc, huc2⟩ := own_shape5 (own_mono hx (Nat.zero_le _))
  obtain ⟨va, vc, rfl, hvc, hvc2⟩ := own_shape5 (own_mono hy (Nat.zero_le _))
  have HX := Lib.hid hx
  have HY := Lib.hid hy
  have HXL := Lib.hid hxl
  have HYL := Lib.hid hyl
  clear hx hy hxl hyl
  go_enter Try.func59, Try.ntmps59
  go_wp2_with fail
  go_loop [7] (fun i => ∃ q : Nat, q ≤ L ∧ i = .int .i64 q ∧ movedZ n (xs.drop q) (ys.drop q) = movedZ n xs ys) (fun i => L - (intOf i).toNat)
  case atStart => exact ⟨0, Nat.zero_le _, rfl, rfl⟩
  case round =>
    obtain ⟨q, hq, rfl, hm⟩ := hrel
    by_cases hlt : q < L
    · obtain ⟨x, hxq⟩ : ∃ x, xs[q]? = some x := ⟨_, List.getElem?_eq_getElem (by rw [HXL.out]; exact hlt)⟩
      obtain ⟨y, hyq⟩ : ∃ y, ys[q]? = some y := ⟨_, List.getElem?_eq_getElem (by rw [HYL.out]; exact hlt)⟩
      obtain ⟨g, c, hu, _, _, _, hcx⟩ := int_at HX.out hlt hxq
      injection hu with q1 q2 q3
      subst q1
      obtain ⟨g2, c2, hu2, _, _, _, hcy⟩ := int_at HY.out hlt hyq
      injection hu2 with q1 q4 q5
      subst q1
      rw [movedZ_drop hxq hyq] at hm
      have HPX := Lib.hid (refptr_any x w)
      have HPY := Lib.hid (refptr_any y w)
      have hq0 : (0 : Int) ≤ q := by omega
      have hq1 : (q : Int) < L := by omega
      obtain ⟨px, hpx⟩ : ∃ px, ptrW x = px := ⟨_, rfl⟩
      rw [hpx] at hm HPX
      obtain ⟨py, hpy⟩ : ∃ py, ptrW y = py := ⟨_, rfl⟩
      rw [hpy] at hm HPY
      clear hxq hyq hpx hpy q2 q3 q4 q5
      by_cases he : (n : Int) = px
      · rw [if_pos he] at hm
        have hb : ((n : Int) == px) = true := by simp [he]
        have HM := Lib.hid hm
        clear hm he
        go_wp2_with fail
        refine HPX.out.mono ?_
        rintro e w' ⟨rfl, hww⟩
        subst w'
        go_wp2_with fail
        refine HPY.out.mono ?_
        rintro e w' ⟨rfl, hww⟩
        subst w'
        go_wp2_with fail
        go_ret
        exact ⟨by rw [← HM.out]; rfl, rfl⟩
      · rw [if_neg he] at hm
        have hb : ((n : Int) == px) = false := by simp [he]
        have HM := Lib.hid hm
        clear hm he
        go_wp2_with fail
        refine HPX.out.mono ?_
        rintro e w' ⟨rfl, hww⟩
        subst w'
        go_wp2_with fail
        go_round
        case rel => exact ⟨q + 1, hlt, by go_num, HM.out⟩
        case measure => simp [intOf]; omega
    · obtain rfl : q = L := by omega
      rw [List.drop_eq_nil_of_le (by rw [HXL.out]; exact Nat.le_refl _)] at hm
      have HM := Lib.hid (show (n : Int) = movedZ n xs ys from hm)
      clear hm
      go_wp2_with fail
      go_ret
      exact ⟨by rw [← HM.out]; rfl, rfl⟩
theorem movedZ_none {n : Int} {A B : Nat → Int} : ∀ (met : List Nat), (∀ j ∈ met, n ≠ ptrW (A j)) → movedZ n (met.map A) (met.map B) = n
  | [], _ => rfl
  | x :: l, hh => by
    show (if n = ptrW (A x) then ptrW (B x) else movedZ n (l.map A) (l.map B)) = n
    rw [if_neg (hh x (by simp))]
    exact movedZ_none l (fun j hj => hh j (List.mem_cons_of_mem _ hj))
theorem movedZ_some {n : Int} {A B : Nat → Int} {j : Nat} (hn : n = ptrW (A j)) : ∀ (met : List Nat), j ∈ met → (∀ i ∈ met, ptrW (A i) = ptrW (A j) → i = j) → movedZ n (met.map A) (met.map B) = ptrW (B j)
  | [], hj, _ => by cases hj
  | x :: l, hj, hh => by
    show (if n = ptrW (A x) then ptrW (B x) else movedZ n (l.map A) (l.map B)) = _
    by_cases e : n = ptrW (A x)
    · rw [if_pos e, hh x (by simp) (by rw [← e, hn])]
    · rw [if_neg e]
      rcases List.mem_cons.1 hj with q | q
      · subst q; exact absurd hn e
      · exact movedZ_some hn l q (fun i hi => hh i (List.mem_cons_of_mem _ hi))
theorem objA_ptr (z : WF W h now old) {j : Nat} (hj : j < now.length) : ptrW (objA h W now j) = 2 * objA h W now j := by
  have := objA_bd z (Nat.le_of_lt hj)
  unfold ptrW
  rw [if_pos (by omega)]
theorem movedZ_ren (z : WF W h now old) {met : List Nat} (ok : Okm now met) {n : Nat} (g : Good now h W met n) : movedZ n (metI h W now met) (met.map fun j => ((toK (1 - h) W now met j : Nat) : Int)) = (renW h W now met n : Nat) := by
  rcases g with a | ⟨a, j, e, hj⟩
  · rw [renW_int a]
    refine movedZ_none met (fun j hj q => ?_)
    rw [objA_ptr z (ok.lt j hj)] at q
    omega
  · rw [renW_ptr a e]
    have e' : idxAt now h W (toP (n : Int)) = some j := e
    obtain ⟨hjl, hjA⟩ := idxAt_some e'
    have hbd := objA_bd z (Nat.le_of_lt hjl)
    have hjA' : toP (n : Int) = objA h W now j := hjA
    have hn : (n : Int) = ptrW (objA h W now j) := by
      rw [objA_ptr z hjl, ← hjA']
      rw [← hjA'] at hbd
      unfold toP at hbd ⊢
      by_cases hc : ((n : Int) % 2 = 0 ∧ 2 ≤ (n : Int) ∧ (n : Int) ≤ 2199023255552)
      · rw [if_pos hc]; omega
      · rw [if_neg hc] at hbd; omega
    have h1 := toK_pos (1 - h) W now met j
    have h2 := toK_le' (k := 1 - h) z.fresh ok z.un z.w1 hj
    rw [show metI h W now met = met.map fun j => objA h W now j from rfl, movedZ_some hn met hj (fun i hi q => ?_)]
    · unfold ptrW; rw [if_pos (by omega)]; omega
    · rw [objA_ptr z (ok.lt i hi), objA_ptr z hjl] at q
      have q2 := adr_inj (show adr h W (start now i : Nat) = adr h W (start now j : Nat) from by show objA h W now i = objA h W now j; omega)
      exact start_inj now (ok.lt i hi) hjl (by omega)
end
end Go.Proofs.Ytjdhjehnofediaa
