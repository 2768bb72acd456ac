/- The contract of gc's Live. Conditions: the memory lies as Mem says; the roots are words. -/
import Derived.Test.YtjdhjehnofediaaGcEach
namespace Go.Proofs.Ytjdhjehnofediaa
open Go Go.RowKit Go.Shelf
attribute [local go_sem] Oper.semAt_some
/-- how many words objects need -/
def needs (now : List Ob) (met : List Nat) : Nat := (met.map fun j => 1 + ((now[j]?).map fun o => o.ws.length).getD 0).sum
theorem needs_snoc (now : List Ob) (met : List Nat) (j : Nat) : needs now (met ++ [j]) = needs now met + (1 + ((now[j]?).map fun o => o.ws.length).getD 0) := by simp [needs]
/-- what Live tells -/
def liveN (now : List Ob) (h W : Nat) (ns : List Nat) : Nat := needs now ((reach now h W ns).getD [])
/-- the size of the object that a number of the list tells; 0, if none -/
def sizeAt (now : List Ob) (met : List Nat) (x : Nat) : Nat := match met[x]? with
  | none => 0
  | some j => ((now[j]?).map fun o => o.ws.length).getD 0
def needI (now : List Ob) (met pre : List Nat) : Nat := (pre.map fun x => 1 + sizeAt now met x).sum
theorem needI_snoc (now : List Ob) (met pre : List Nat) (x : Nat) : needI now met (pre ++ [x]) = needI now met pre + (1 + sizeAt now met x) := by simp [needI]
theorem needI_all (now : List Ob) (met : List Nat) : needI now met (List.range met.length) = needs now met := by
  unfold needI needs
  congr 1
  apply List.ext_getElem
  · simp
  · intro i h1 h2
    simp only [List.length_map, List.length_range] at h1
    simp [sizeAt, List.getElem?_eq_getElem h1]
theorem sizeAt_le {W h : Nat} {now old : List Ob} (z : WF W h now old) (met : List Nat) (x : Nat) : sizeAt now met x ≤ 16384 := by
  unfold sizeAt
  cases e : met[x]? with
  | none => exact Nat.zero_le _
  | some j =>
    simp only []
    cases e2 : now[j]? with
    | none => simp
    | some o =>
      have := right_bd (z.okn o (List.mem_of_getElem? e2)).right
      simp
      omega
theorem needI_le {W h : Nat} {now old : List Ob} (z : WF W h now old) (met pre : List Nat) : needI now met pre ≤ pre.length * 16385 := by
  induction pre with
  | nil => simp [needI]
  | cons x l ih =>
    have := sizeAt_le z met x
    have e : needI now met (x :: l) = (1 + sizeAt now met x) + needI now met l := by simp [needI]
    rw [e, List.length_cons]
    omega
theorem keepsOthers_drew (W : World) (n : Nat) : KeepsOthers W (W.drewN n) := ⟨Nat.le_refl _, fun _ _ h _ => h⟩
section
variable {w : World} {b W h : Nat} {R : Nat → Value} {now old : List Ob}
/-- what Look answers of an address of the list -/
theorem look_x (m : Mem w b W h R now old) (z : WF W h now old) {met : List Nat} (ok : Okm now met) (x : Nat) :
    Calls Try.prog 39 #[.pointer (some ⟨b, 0, none⟩), .int .i64 ((metI h W now met).getD x 0)] w fun e w' => (∃ k t q, e = .returned (.tuple #[.int .i64 k, .int .i64 (sizeAt now met x : Nat), .int .i64 t, .int .i64 q])) ∧ ∃ n, w' = w.drewN n := by
  cases e : met[x]? with
  | none =>
    have e0 : (metI h W now met).getD x 0 = 0 := by
      rw [List.getD_eq_getElem?_getD, List.getElem?_eq_none (by rw [metI_length]; exact List.getElem?_eq_none_iff.1 e)]; rfl
    have hi : idxAt now h W 0 = none := by
      cases e1 : idxAt now h W 0 with
      | none => rfl
      | some j =>
        have := (idxAt_some e1).2
        unfold adr at this
        split at this <;> omega
    rw [e0]
    refine (look_miss m z 0 (by decide) hi).mono ?_
    rintro e' w' ⟨rfl, h2⟩
    exact ⟨⟨0, 0, 20, by unfold sizeAt; rw [e]; rfl⟩, h2⟩
  | some j =>
    have hj := ok.lt j (List.mem_of_getElem? e)
    obtain ⟨o, ho⟩ : ∃ o, now[j]? = some o := ⟨_, List.getElem?_eq_getElem hj⟩
    have e0 : (metI h W now met).getD x 0 = objA h W now j := by rw [List.getD_eq_getElem?_getD, metI_get e]; rfl
    have hbd := objA_bd z (Nat.le_of_lt hj)
    rw [e0]
    refine (look_hit m z (objA h W now j) (by omega) (idxAt_of hj) ho).mono ?_
    rintro e' w' ⟨rfl, h2⟩
    exact ⟨⟨o.k, o.t, 0, by unfold sizeAt; rw [e]; simp [ho]⟩, h2⟩
theorem traced_all {ns : List Nat} {e : Ending} {w' : World} (t : Traced w h W now ns e w') : ∃ v, e = .returned (.tuple #[v, .int .i64 (checkE now h W ns)]) ∧ Below w.heap.size w w' ∧ w'.ownsRow w.heap.size 3 1 v ((reach now h W ns).getD []).length (ints (metI h W now ((reach now h W ns).getD []))) ∧ Okm now ((reach now h W ns).getD []) := by
  rcases t with ⟨hr, rfl, hb⟩ | ⟨met, v, hr, rfl, hb, ho⟩
  · exact ⟨_, by unfold checkE; rw [hr], hb, by rw [hr]; exact World.ownsRow_nil _ _ _ _, by rw [hr]; exact okm_nil⟩
  · exact ⟨v, by unfold checkE; rw [hr], hb, by rw [hr]; exact ho, by rw [hr]; exact reach_okm hr⟩
set_option maxRecDepth 100000 in
set_option maxHeartbeats 8000000 in
theorem live_any (m : Mem w b W h R now old) (z : WF W h now old) {a : Option Addr} {N c : Nat} {ns : List Nat} (hv : WordsV w a N ns) :
    Calls Try.prog 28 #[.pointer (some ⟨b, 0, none⟩), .slice a N c] w fun e w' => e = .returned (.tuple #[.int .i64 (liveN now h W ns : Nat), .int .i64 (checkE now h W ns)]) ∧ Below w.heap.size w w' := by
  have HT := Lib.hid (fun W1 (hb : Below w.heap.size w W1) (hs : w.heap.size ≤ W1.heap.size) => trace_any (m.below hb) z (c := c) (ns := ns) (a := a) (N := N) ⟨hv.len, hv.few, hv.word, fun j n hj => by
    obtain ⟨g, off, h1, h2, h3⟩ := hv.cell j n hj
    exact ⟨g, off, h1, by omega, (World.cell?_of_block (hb.block g h2)).trans h3⟩⟩)
  have HM := Lib.hid m
  clear m hv
  refine (callsIn_wide (n := 3)).1 ?_
  refine callsIn_of_wp_marks Try.func28 rfl trivial ?_ rfl
  simp only [Try.ntmps28, List.size_toArray, List.length_cons, List.length_nil, Nat.reduceAdd, Nat.reduceSub, Array.replicate_succ, Array.replicate_zero, List.push_toArray, List.append_toArray, List.nil_append, List.cons_append]
  have bM0 := Boxed.new w 26 (.pointer (some ⟨b, 0, none⟩))
  have hB0 : Below w.heap.size w (w.alloc (.cells #[.pointer (some ⟨b, 0, none⟩)] 26)) := (Below.refl _ w).alloc (Nat.le_refl _) _
  gi_wp2_with fail
  refine ⟨trivial, ?_⟩
  refine (callsIn_wide.2 (HT.out _ hB0 (by simp))).mono ?_
  rintro e w2 ht
  obtain ⟨v, rfl, hb2, hown, hok⟩ := traced_all ht
  clear ht HT
  rw [World.size_alloc] at hb2 hown
  obtain ⟨met, hmet⟩ : ∃ met, (reach now h W ns).getD [] = met := ⟨_, rfl⟩
  have HMET := Lib.hid hmet
  rw [hmet] at hown hok
  have hs2 : w.heap.size + 1 ≤ w2.heap.size := by have := hb2.size; simpa using this
  have bM2 : Boxed w2 w.heap.size 26 (.pointer (some ⟨b, 0, none⟩)) := (hb2.block _ (by omega)).trans bM0
  have hB2 : Below w.heap.size w w2 := hB0.trans (hb2.mono (by omega))
  obtain ⟨va, cap, hv', _, _, _⟩ := rowI (l := metI h W now met) (va := v) (by rw [metI_length]; exact hown)
  subst hv'
  rw [metI_length] at hown ⊢
  obtain ⟨K, hK⟩ : ∃ K, met.length = K := ⟨_, rfl⟩
  have hKf : K ≤ 65536 := by
    have h2 := start_mono now (i := 0) (j := now.length) (Nat.zero_le _) (Nat.le_refl _)
    rw [start_len] at h2
    have := hok.len
    have := z.un
    have := z.w1
    omega
  have HOWN := Lib.hid hown
  have HOK := Lib.hid hok
  have HK := Lib.hid hK
  have HS2 := Lib.hid hs2
  have HB2 := Lib.hid hB2
  have HBM := Lib.hid bM2
  rw [hK]
  clear hmet hown hok hb2 bM0 hB0 hK
  gi_wp2_with (refine ⟨trivial, ?_⟩; gi_at_call 52; refine (each_in Fence.wide _ trivial rfl _ _ _ _).mono ?_; rintro e w' ⟨rfl, rfl⟩)
  have bI := Boxed.new w2 3 (.int .i64 0)
  have bN := Boxed.new (w2.alloc (.cells #[.int .i64 0] 3)) 23 (.slice va K cap)
  rw [World.size_alloc] at bN
  have hB3 : Below w2.heap.size w2 ((w2.alloc (.cells #[.int .i64 0] 3)).alloc (.cells #[.slice va K cap] 23)) := ((Below.refl _ w2).alloc (Nat.le_refl _) _).alloc (by simp) _
  have hrow : ((w2.alloc (.cells #[.int .i64 0] 3)).alloc (.cells #[.slice va K cap] 23)).ownsRow 0 3 1 (.slice va K cap) (metI h W now met).length (ints (metI h W now met)) := by
    have := own_mono (B' := 0) HOWN.out (Nat.zero_le _)
    rw [metI_length]
    rw [HK.out] at this ⊢
    exact (this.alloc _).alloc _
  refine wpIn_rangeFunc_ownG rfl (by omega) (gf := 80) (lb := #[.pointer (some ⟨w2.heap.size + 1, 0, none⟩)]) rfl trivial (enters_of Try.func80 (by kernel_rfl) rfl)
    (each_stops (3 - 1) (by omega) (w2.heap.size + 1) (.slice va K cap) (metI h W now met) _ bN hrow) keepL_t keepL_b (Below.refl _ _) (fun _ => rfl)
    (fun pre W' => Boxed W' w2.heap.size 3 (.int .i64 (needI now met pre : Nat)) ∧ Below w2.heap.size w2 W')
    (fun _ _ _ => False)
    (OwnFrom.and (Own.from (boxed_own w2.heap.size 3 (fun (pre : List Nat) => .int .i64 (needI now met pre : Nat))) _) (ownFrom_below (Nat.le_refl _) (by simp; omega)))
    (fun _ _ _ _ _ hs _ _ => hs)
    ⟨bI.alloc _, hB3⟩
    ?a1 ?assign ?body ?done ?stop
  case assign =>
    intro l x W' K hK
    gi_wp2
    exact hK
  case body =>
    rintro l pre x W' ⟨hI, hB⟩ hlt
    have hci := hI.cell
    have hfi := hI.frozen
    have hmb : Boxed W' w.heap.size 26 (.pointer (some ⟨b, 0, none⟩)) := (hB.block _ (by have := HS2.out; omega)).trans HBM.out
    have hcm := hmb.cell
    have HLX := Lib.hid (look_x ((HM.out.below (HB2.out.trans (hB.mono HB2.out.size)))) z HOK.out x)
    have hle := needI_le z met pre
    have hsx := sizeAt_le z met x
    rw [metI_length, HK.out] at hlt
    obtain ⟨Q, hQ⟩ : ∃ Q, needI now met pre = Q := ⟨_, rfl⟩
    obtain ⟨S, hS⟩ : ∃ S, sizeAt now met x = S := ⟨_, rfl⟩
    have hnx : needI now met (pre ++ [x]) = Q + (1 + S) := by rw [needI_snoc, hQ, hS]
    obtain ⟨Z, hZ⟩ : ∃ Z, (metI h W now met)[x]?.getD 0 = Z := ⟨_, rfl⟩
    rw [List.getD_eq_getElem?_getD] at HLX
    rw [hQ] at hci hle
    rw [hS] at hsx HLX
    rw [hZ] at HLX
    have hQ2 : (Q : Int) ≤ 1073823744 := by omega
    have hS2 : (S : Int) ≤ 16384 := by omega
    have hQ0 : (0 : Int) ≤ Q := by omega
    have hS0 : (0 : Int) ≤ S := by omega
    have HNX := Lib.hid hnx
    have HI := Lib.hid hI
    have HB := Lib.hid hB
    rw [hZ]
    clear hI hB hmb hQ hS hnx hZ hle hsx
    gi_wp2_with fail
    refine ⟨trivial, ?_⟩
    refine (CallsIn.inRound l (callsIn_wide.2 HLX.out)).mono ?_
    rintro e w5 ⟨⟨k5, t5, q5, rfl⟩, n5, hw5⟩
    have HW5 := Lib.hid hw5
    have hci5 : w5.cell? ⟨w2.heap.size, 0, none⟩ = some (.int .i64 (Q : Int)) := by rw [hw5]; exact hci
    have hfi5 : w5.frozen? ⟨w2.heap.size, 0, none⟩ = false := by rw [hw5]; exact hfi
    clear hw5 hci hfi hcm
    gi_wp2_with fail
    have hset := HI.out.set (.int .i64 ((Q : Int) + (1 + (S : Int))))
    have hrw := HOWN.out
    rw [HK.out] at hrw
    rw [HW5.out]
    refine ⟨((keepsOthers_drew W' n5).trans (KeepsOthers.setCell _ _ _)).from _, fun hr => (((Fr.refl (· = w2.heap.size) W').drewN n5).setCell (p := ⟨w2.heap.size, 0, none⟩) (.inl rfl) _).own hr (fun g hg e => by have := (hrw.lt g hg).2; omega), ?_, (Below.drewN' HB.out n5).setCell (p := ⟨w2.heap.size, 0, none⟩) (Nat.le_refl _) _⟩
    rw [HNX.out, show ((Q + (1 + S) : Nat) : Int) = (Q : Int) + (1 + (S : Int)) by omega]
    exact hset
  case done =>
    rintro D ys W' hD rfl ⟨hI, hB⟩ hK
    have hci := hI.cell
    rw [metI_length, needI_all] at hci
    have hln : needs now met = liveN now h W ns := by unfold liveN; rw [HMET.out]
    rw [hln] at hci
    have HB := Lib.hid hB
    have HKD := Lib.hid hK
    clear hI hB hK hln
    gi_wp2_with fail
    refine ⟨by simp, .inl ⟨_, _, rfl, run_takeDeferred HKD.out, ?_⟩⟩
    refine ⟨_, results_tmp2 rfl _ _ _, rfl, (HB2.out.trans (HB.out.mono HB2.out.size)).trans (belowK_b (w := w) (Nat.le_refl _) W' D _ _ (by have := HS2.out; simp at hD; omega) HKD.out rfl rfl)⟩
  case stop =>
    rintro D c pre W' _ _ h _
    exact h.elim
end
end Go.Proofs.Ytjdhjehnofediaa
