/- A memory and the document's memory beside it: they tell the same. Conditions: they lie as Twin says. -/
import Derived.Test.YtpgnadngiaibeaaMemI
import Derived.Test.YtpgnadngiaibeaaRmD
import Derived.Test.YtpgnadngiaibeaaMemRoomW
import Derived.Test.YtpgnadngiaibeaaQuietRound
namespace Go.Proofs.Ytpgnadngiaibeaa
open Go Go.RowKit Go.Shelf
attribute [local go_sem] Oper.semAt_some
/-- an object as the document's -/
def roOf (A : Int) (o : Ob) : RO := ⟨A, o.k, o.t, o.ws, o.to⟩
def ros (h W : Nat) (os : List Ob) : List RO := os.mapIdx fun j o => roOf (objA h W os j) o
theorem ros_length (h W : Nat) (os : List Ob) : (ros h W os).length = os.length := by simp [ros]
theorem ros_get {h W : Nat} {os : List Ob} {j : Nat} {o : Ob} (ho : os[j]? = some o) : (ros h W os)[j]? = some (roOf (objA h W os j) o) := by
  unfold ros; rw [List.getElem?_mapIdx, ho]; rfl
theorem objA_append (h W : Nat) (os ps : List Ob) {j : Nat} (hj : j ≤ os.length) : objA h W (os ++ ps) j = objA h W os j := by unfold objA; rw [start_append _ _ _ hj]
theorem ros_snoc (h W : Nat) (os : List Ob) (o : Ob) : ros h W (os ++ [o]) = ros h W os ++ [roOf (adr h W (used os : Nat)) o] := by
  apply List.ext_getElem?
  intro i
  by_cases q : i < os.length
  · rw [List.getElem?_append_left (by rw [ros_length]; exact q)]
    have h1 : (os ++ [o])[i]? = some os[i] := by rw [List.getElem?_append_left q, List.getElem?_eq_getElem q]
    rw [ros_get h1, ros_get (List.getElem?_eq_getElem q), objA_append _ _ _ _ (Nat.le_of_lt q)]
  · by_cases e : i = os.length
    · subst e
      rw [List.getElem?_append_right (by rw [ros_length]; exact Nat.le_refl _), ros_length, Nat.sub_self]
      have h1 : (os ++ [o])[os.length]? = some o := by simp
      rw [ros_get h1, objA_append _ _ _ _ (Nat.le_refl _)]
      unfold objA; rw [start_len]; rfl
    · rw [List.getElem?_eq_none (by rw [ros_length]; simp; omega), List.getElem?_eq_none (by simp [ros_length]; omega)]
theorem ros_set {h W : Nat} {os : List Ob} {j : Nat} {o o' : Ob} (ho : os[j]? = some o) (hl : o'.ws.length = o.ws.length) : ros h W (os.set j o') = (ros h W os).set j (roOf (objA h W os j) o') := by
  have hsz := sz_set ho hl
  have hobj : ∀ i, objA h W (os.set j o') i = objA h W os i := fun i => by unfold objA; rw [start_congr hsz]
  have hj := (List.getElem?_eq_some_iff.1 ho).1
  apply List.ext_getElem?
  intro i
  by_cases e : i = j
  · subst e
    rw [List.getElem?_set_self (by rw [ros_length]; exact hj), ros_get (List.getElem?_set_self hj), hobj]
  · rw [List.getElem?_set_ne (fun q => e q.symm)]
    by_cases q : i < os.length
    · rw [ros_get (o := os[i]) (by rw [List.getElem?_set_ne (fun q => e q.symm)]; exact List.getElem?_eq_getElem q), ros_get (List.getElem?_eq_getElem q), hobj]
    · rw [List.getElem?_eq_none (by rw [ros_length]; simp; omega), List.getElem?_eq_none (by rw [ros_length]; omega)]
section
variable {h W : Nat} {os : List Ob} {P : List (RO × Value)}
theorem P_length (e : P.map Prod.fst = ros h W os) : P.length = os.length := by
  have := congrArg List.length e
  simpa [ros_length] using this
theorem P_get (e : P.map Prod.fst = ros h W os) {j : Nat} {o : Ob} (ho : os[j]? = some o) : ∃ u, P[j]? = some (roOf (objA h W os j) o, u) := by
  have h1 := ros_get (h := h) (W := W) ho
  rw [← e, List.getElem?_map] at h1
  cases hp : P[j]? with
  | none => rw [hp] at h1; cases h1
  | some p =>
    rw [hp] at h1
    have := Option.some.inj h1
    exact ⟨p.2, by rw [← this]⟩
theorem P_used (e : P.map Prod.fst = ros h W os) : usedP P = used os := by
  have h1 : P.map (fun p => 1 + p.1.ws.length) = (P.map Prod.fst).map (fun r => 1 + r.ws.length) := by rw [List.map_map]; rfl
  unfold usedP used
  rw [h1, e]
  unfold ros
  congr 1
  apply List.ext_getElem?
  intro i
  rw [List.getElem?_map, List.getElem?_mapIdx, List.getElem?_map]
  cases os[i]? <;> rfl
theorem P_idx (e : P.map Prod.fst = ros h W os) (a : Int) : fidx P a = idxAt os h W a := by
  cases q : idxAt os h W a with
  | some j =>
    obtain ⟨hj, ha⟩ := idxAt_some q
    obtain ⟨u, hp⟩ := P_get e (List.getElem?_eq_getElem hj)
    refine fidx_hit (fun i p hi hp' hpa => ?_) hp ha.symm
    have hio : i < os.length := by omega
    obtain ⟨u', hp''⟩ := P_get e (List.getElem?_eq_getElem hio)
    rw [hp'] at hp''
    obtain rfl := Option.some.inj hp''
    have h2 : objA h W os i = objA h W os j := hpa.trans ha
    have := adr_inj h2
    have := start_inj os hio hj (by omega)
    omega
  | none =>
    refine fidx_miss (fun i p hi hp hpa => ?_)
    have hio : i < os.length := by rw [← P_length e]; exact hi
    obtain ⟨u', hp''⟩ := P_get e (List.getElem?_eq_getElem hio)
    rw [hp] at hp''
    obtain rfl := Option.some.inj hp''
    exact idxAt_none q i hio hpa.symm
end
/-- a memory at b, the document's at rb, alike -/
structure Twin (w : World) (b rb W h : Nat) (R : Nat → Value) (now old : List Ob) (v1 : Value) (P1 : List (RO × Value)) (v2 : Value) (P2 : List (RO × Value)) : Prop where
  m : Mem w b W h R now old
  z : WF W h now old
  r : RM w rb W h v1 P1 v2 P2
  e1 : P1.map Prod.fst = ros h W now
  e2 : P2.map Prod.fst = ros (1 - h) W old
  ap : ∀ i, Own b R i → ¬ OwnR rb v1 P1 v2 P2 i
def OwnT (b rb : Nat) (R : Nat → Value) (v1 : Value) (P1 : List (RO × Value)) (v2 : Value) (P2 : List (RO × Value)) (i : Nat) : Prop := Own b R i ∨ OwnR rb v1 P1 v2 P2 i
section
variable {w w1 : World} {b rb W h : Nat} {R : Nat → Value} {now old : List Ob} {v1 v2 : Value} {P1 P2 : List (RO × Value)}
theorem Twin.rz (t : Twin w b rb W h R now old v1 P1 v2 P2) : RZ W h P1 P2 := by
  have h1 := t.z.un
  have h2 := t.z.uo
  have h3 := t.z.w1
  exact ⟨h3, t.z.hh, by rw [P_used t.e1]; omega, by rw [P_used t.e2]; omega⟩
theorem Twin.own_lt (t : Twin w b rb W h R now old v1 P1 v2 P2) : ∀ i, OwnT b rb R v1 P1 v2 P2 i → i < w.heap.size := by
  rintro i (q | q)
  · exact t.m.own_lt i q
  · exact t.r.own_lt i q
theorem Twin.kept {O : Nat → Prop} (t : Twin w b rb W h R now old v1 P1 v2 P2) (hf : Fr O w w1) (hn : ∀ i, OwnT b rb R v1 P1 v2 P2 i → ¬ O i) : Twin w1 b rb W h R now old v1 P1 v2 P2 :=
  ⟨t.m.kept hf (fun i hi => hn i (.inl hi)), t.z, t.r.kept hf (fun i hi => hn i (.inr hi)), t.e1, t.e2, t.ap⟩
theorem Twin.below (t : Twin w b rb W h R now old v1 P1 v2 P2) (hb : Below w.heap.size w w1) : Twin w1 b rb W h R now old v1 P1 v2 P2 := t.kept (Fr.of_below (O := fun _ => False) hb) (fun _ _ => id)
theorem Twin.drewN (t : Twin w b rb W h R now old v1 P1 v2 P2) (n : Nat) : Twin (w.drewN n) b rb W h R now old v1 P1 v2 P2 := t.kept ((Fr.refl (fun _ => False) w).drewN n) (fun _ _ => id)
theorem Twin.next (t : Twin w b rb W h R now old v1 P1 v2 P2) : Calls Try.prog 27 #[.pointer (some ⟨b, 0, none⟩)] w fun e w' => e = .returned (.int .i64 (adr h W (used now : Nat))) ∧ ∃ n, w' = w.drewN n := next_m t.m t.z rfl _ rfl
theorem Twin.free (t : Twin w b rb W h R now old v1 P1 v2 P2) : Calls Try.prog 28 #[.pointer (some ⟨b, 0, none⟩)] w fun e w' => e = .returned (.int .i64 ((W : Int) - used now)) ∧ ∃ n, w' = w.drewN n := free_m t.m t.z rfl _ rfl
theorem Twin.rnext (t : Twin w b rb W h R now old v1 P1 v2 P2) : Calls Try.prog 51 #[.pointer (some ⟨rb, 0, none⟩)] w fun e w' => e = .returned (.int .i64 (adr h W (used now : Nat))) ∧ ∃ n, w' = w.drewN n := by
  have := rnext_any t.r t.rz
  rw [P_used t.e1] at this
  exact this
theorem Twin.rfree (t : Twin w b rb W h R now old v1 P1 v2 P2) : Calls Try.prog 52 #[.pointer (some ⟨rb, 0, none⟩)] w fun e w' => e = .returned (.int .i64 ((W : Int) - used now)) ∧ ∃ n, w' = w.drewN n := by
  have := rfree_any t.r t.rz
  rw [P_used t.e1] at this
  exact this
end
theorem keepsOthers_drewN (W : World) (n : Nat) : KeepsOthers W (W.drewN n) := ⟨Nat.le_refl _, fun _ _ h _ => h⟩
def MissN (pre : List Nat) : Prop := ∃ ini last, pre = ini ++ [last] ∧ last ≠ ini.length
theorem not_missN {k : Nat} (h : MissN (List.range k)) : False := by
  obtain ⟨ini, last, e, hne⟩ := h
  cases k with
  | zero => simp at e
  | succ k =>
    rw [List.range_succ] at e
    obtain ⟨e1, e2⟩ := List.append_inj' e rfl
    have hl : ini.length = k := by rw [← e1, List.length_range]
    have e3 : k = last := by simpa using e2
    exact hne (by rw [hl, e3])
theorem objA_ne {h W : Nat} {now : List Ob} {x k : Nat} (hk : k < now.length) (hne : x ≠ k) : objA h W now x ≠ objA h W now k := by
  intro e
  have h1 := adr_inj (show adr h W (start now x : Nat) = adr h W (start now k : Nat) from e)
  have h2 : start now x = start now k := by omega
  by_cases q : x < now.length
  · exact hne (start_inj now q hk h2)
  · have h3 : start now x = used now := by unfold start; rw [List.take_of_length_le (by omega)]
    have := start_lt now hk
    omega
section
variable {w : World} {b rb W h : Nat} {R : Nat → Value} {now old : List Ob} {v1 v2 : Value} {P1 P2 : List (RO × Value)}
set_option maxRecDepth 100000 in
set_option maxHeartbeats 8000000 in
theorem same_any (t : Twin w b rb W h R now old v1 P1 v2 P2) : Calls Try.prog 24 #[.pointer (some ⟨b, 0, none⟩), .pointer (some ⟨rb, 0, none⟩)] w fun e w' => e = .returned (.bool true) ∧ Below w.heap.size w w' := by
  have hnf : ∀ (p : Nat) (W : World), (binOp BinOp.eql 68 (Value.func (Fn.func 62) #[] #[Value.pointer (some ⟨p, 0, none⟩)]) Value.nilFunc).run Try.prog W = .ok (.bool false) W := fun _ _ => by kernel_rfl
  refine (callsIn_wide (n := 5)).1 ?_
  have HT := Lib.hid t
  have hbl := t.m.lt
  have hrl := t.r.lt
  clear t
  refine callsIn_of_wp_marks Try.func24 rfl trivial ?_ rfl
  simp only [Try.ntmps24, List.size_toArray, List.length_cons, List.length_nil, Nat.reduceAdd, Nat.reduceSub, Array.replicate_succ, Array.replicate_zero, List.push_toArray, List.append_toArray, List.nil_append, List.cons_append]
  gi_wp2_with fail
  have bR0 := Boxed.new w 44 (.pointer (some ⟨rb, 0, none⟩))
  have bB := Boxed.new (w.alloc (.cells #[.pointer (some ⟨rb, 0, none⟩)] 44)) 4 (.bool false)
  rw [World.size_alloc] at bB
  have bR := bR0.alloc (.cells #[.bool false] 4)
  have hB1 : Below w.heap.size w ((w.alloc (.cells #[.pointer (some ⟨rb, 0, none⟩)] 44)).alloc (.cells #[.bool false] 4)) := ((Below.refl _ w).alloc (Nat.le_refl _) _).alloc (by simp) _
  obtain ⟨w1, hw1⟩ : ∃ w1, (w.alloc (.cells #[.pointer (some ⟨rb, 0, none⟩)] 44)).alloc (.cells #[.bool false] 4) = w1 := ⟨_, rfl⟩
  have hs1 : w1.heap.size = w.heap.size + 2 := by rw [← hw1]; simp
  rw [hw1] at bR bB hB1 ⊢
  have ht1 := HT.out.below hB1
  have q0 := bR.cell
  have q1 := ht1.r.c0
  have q2 := ht1.r.c1
  have HW := Lib.hid (fun n => words_any (ht1.m.drewN n))
  have HH := Lib.hid (fun n => half_any (ht1.m.drewN n))
  have HNX := Lib.hid (fun n => (ht1.drewN n).next)
  have HFR := Lib.hid (fun n => (ht1.drewN n).free)
  have HRN := Lib.hid (fun n => (ht1.drewN n).rnext)
  have HRF := Lib.hid (fun n => (ht1.drewN n).rfree)
  have HT1 := Lib.hid ht1
  have HBR := Lib.hid bR
  have HBB := Lib.hid bB
  have HB1 := Lib.hid hB1
  have HS1 := Lib.hid hs1
  clear bR0 hw1 ht1 bR bB hB1 hs1
  refine wpIn_wide.2 ?_
  go_quiet ((first
    | (go_at_call 29; refine Calls.quiet_of_same (HW.out _))
    | (go_at_call 30; refine Calls.quiet_of_same (HH.out _))
    | (go_at_call 27; refine Calls.quiet_of (HNX.out _))
    | (go_at_call 28; refine Calls.quiet_of (HFR.out _))
    | (go_at_call 51; refine Calls.quiet_of (HRN.out _))
    | (go_at_call 52; refine Calls.quiet_of (HRF.out _))))
  obtain ⟨w2, hw2⟩ : ∃ w2, w1.drewN nq = w2 := ⟨_, rfl⟩
  have hb12 : Below w1.heap.size w1 w2 := by rw [← hw2]; exact ((Fr.refl (fun _ => False) w1).drewN nq).below (Nat.le_refl _) (fun _ h => h.elim)
  have hs2 : w2.heap.size = w.heap.size + 2 := by rw [← hw2]; exact HS1.out
  rw [hw2]
  have HT2 := Lib.hid (HT1.out.below hb12)
  have HBR2 := Lib.hid ((hb12.block _ HBR.out.lt).trans HBR.out)
  have HBB2 := Lib.hid ((hb12.block _ HBB.out.lt).trans HBB.out)
  have HB2 := Lib.hid (HB1.out.trans (hb12.mono HB1.out.size))
  have HS2 := Lib.hid hs2
  clear hw2 hb12 hs2 q0 q1 q2 HW HH HNX HFR HRN HRF HT1 HBR HBB HB1 HS1
  gi_wp2_with (refine ⟨trivial, ?_⟩; gi_at_call 39; refine (objects_in Fence.wide _ trivial rfl _ _).mono ?_; rintro e w' ⟨rfl, rfl⟩)
  clear hnf
  have bI := Boxed.new w2 3 (.int .i64 0)
  have bN := Boxed.new (w2.alloc (.cells #[.int .i64 0] 3)) 31 (.pointer (some ⟨b, 0, none⟩))
  rw [World.size_alloc] at bN
  have hB3 : Below w2.heap.size w2 ((w2.alloc (.cells #[.int .i64 0] 3)).alloc (.cells #[.pointer (some ⟨b, 0, none⟩)] 31)) := ((Below.refl _ w2).alloc (Nat.le_refl _) _).alloc (by simp) _
  refine wpIn_rangeFunc_ownG rfl (by omega) (gf := 62) (lb := #[.pointer (some ⟨w2.heap.size + 1, 0, none⟩)]) rfl trivial (enters_of Try.func62 (by kernel_rfl) rfl)
    (objects_stops (5 - 1) (by omega) (w2.heap.size + 1) b W h R now old HT2.out.z _ bN (HT2.out.below hB3).m) keepO_t (keepO_b (by simp)) (Below.refl _ _) (fun _ => rfl)
    (fun pre W' => (Boxed W' w2.heap.size 3 (.int .i64 (pre.length : Int)) ∧ Boxed W' (w2.heap.size + 1) 31 (.pointer (some ⟨b, 0, none⟩))) ∧ Below w2.heap.size w2 W')
    (fun c pre _ => c = .ret ∧ MissN pre)
    (OwnFrom.and (OwnFrom.and (Own.from (boxed_own w2.heap.size 3 (fun (pre : List Nat) => .int .i64 (pre.length : Int))) _) (Own.from (boxed_own (w2.heap.size + 1) 31 (fun _ => .pointer (some ⟨b, 0, none⟩))) _)) (ownFrom_below (Nat.le_refl _) (by simp; omega)))
    (fun _ _ _ _ _ hs _ _ => hs)
    ⟨⟨bI.alloc _, bN⟩, hB3⟩
    ?a1 ?assign ?body ?done ?stop
  case assign =>
    intro l x W' K hK
    gi_wp2
    exact hK
  case body =>
    rintro l pre x W' ⟨⟨hI, hN⟩, hB⟩ hlt
    have ht := HT2.out.below hB
    have hci := hI.cell
    have hfi := hI.frozen
    have hcr := (show Boxed W' w.heap.size 44 (.pointer (some ⟨rb, 0, none⟩)) from (hB.block _ (Array.getElem?_eq_some_iff.1 HBR2.out).1).trans HBR2.out).cell
    have hbbx : Boxed W' (w.heap.size + 1) 4 (.bool false) := (hB.block _ (Array.getElem?_eq_some_iff.1 HBB2.out).1).trans HBB2.out
    have hcb := hbbx.cell
    have hfb := hbbx.frozen
    obtain ⟨u, hp⟩ := P_get ht.e1 (List.getElem?_eq_getElem hlt)
    obtain ⟨g, cap, hv, hc1, hc2, hj, A⟩ := ht.r.l1.at hp
    have c2 := ht.r.c2
    have d0 : W'.cell? ⟨g, pre.length * 5, none⟩ = some (.int .i64 (objA h W now pre.length)) := A.c0
    have hlu := P_length ht.e1
    have hu65 : P1.length ≤ 65536 := Nat.le_trans (length_le_usedP P1) ht.rz.u1
    rw [hv, hlu] at c2
    rw [hlu] at hc1 hu65
    obtain ⟨K, hK⟩ : ∃ K, pre.length = K := ⟨_, rfl⟩
    rw [hK] at hci d0 hlt
    obtain ⟨N, hN'⟩ : ∃ N, now.length = N := ⟨_, rfl⟩
    rw [hN'] at c2 hc1 hu65 hlt
    obtain ⟨AK, hAK⟩ : ∃ AK, objA h W now K = AK := ⟨_, rfl⟩
    rw [hAK] at d0
    have hk0 : (0 : Int) ≤ K := by omega
    have hk1 : (K : Int) < N := by omega
    have hge1 : decide (N ≤ K) = false := decide_eq_false (by omega)
    have hge2 : decide ((N : Int) ≤ (K : Int)) = false := decide_eq_false (by omega)
    have HI := Lib.hid hI
    have HN := Lib.hid hN
    have HB := Lib.hid hB
    have HK := Lib.hid hK
    by_cases hx : x = K
    · subst hx
      have hq : (AK != AK) = false := by simp
      rw [hAK]
      have hset := hI.set (.int .i64 ((x : Int) + 1))
      have HG : Hid ((Boxed (W'.setCell ⟨w2.heap.size, 0, none⟩ (.int .i64 ((x : Int) + 1))) w2.heap.size 3 (.int .i64 (((pre ++ [x]).length : Nat) : Int)) ∧ Boxed (W'.setCell ⟨w2.heap.size, 0, none⟩ (.int .i64 ((x : Int) + 1))) (w2.heap.size + 1) 31 (.pointer (some ⟨b, 0, none⟩))) ∧ Below w2.heap.size w2 (W'.setCell ⟨w2.heap.size, 0, none⟩ (.int .i64 ((x : Int) + 1)))) :=
        ⟨⟨by rw [show (((pre ++ [x]).length : Nat) : Int) = (x : Int) + 1 from by simp [hK]]; exact hset, hN.other (by omega) _⟩, hB.setCell (p := ⟨w2.heap.size, 0, none⟩) (Nat.le_refl _) _⟩
      clear ht hI hN hB hp hv A hlu hK hN' hAK hset hbbx
      gi_wp2_with fail
      refine wpIn_region_quiet_round (by kernel_rfl) (by kernel_rfl) (by kernel_rfl) ?_
      repeat (gi_big_quiet_step (fail))
      refine wpQuietIn_nil ?_
      intro _ hw'
      obtain ⟨nq, hw''⟩ := hw'
      subst hw''
      gi_wp2_with fail
      have hg := HG.out
      refine ⟨((keepsOthers_drewN W' nq).trans (KeepsOthers.setCell _ _ _)).from _, fun hx hy => ⟨hg.1.2, MemV.kept hy (((Fr.refl (· = w2.heap.size) W').drewN nq).setCell (p := ⟨w2.heap.size, 0, none⟩) (.inl rfl) _) (fun i hi e => by have := HT2.out.own_lt i (.inl hi); omega)⟩, ⟨hg.1.1, hg.1.2⟩, ⟨hg.2.os, hg.2.tape, hg.2.output, hg.2.size, hg.2.block⟩⟩
    · have hq : (AK != objA h W now x) = true := by
        have := objA_ne (h := h) (W := W) (by rw [hN']; exact hlt) hx
        rw [hAK] at this
        simp; exact fun e => this e.symm
      have HM : Hid (MissN (pre ++ [x])) := ⟨pre, x, rfl, by rw [hK]; exact hx⟩
      obtain ⟨Ax, hAx⟩ : ∃ Ax, objA h W now x = Ax := ⟨_, rfl⟩
      rw [hAx] at hq ⊢
      clear ht hI hN hB hp hv A hlu hK hN' hAK hbbx hAx hx
      gi_wp2_with fail
      refine wpIn_region_quiet_round (by kernel_rfl) (by kernel_rfl) (by kernel_rfl) ?_
      repeat (gi_big_quiet_step (fail))
      refine wpQuietIn_nil ?_
      intro _ hw'
      obtain ⟨nq, hw''⟩ := hw'
      subst hw''
      gi_wp2_with fail
      exact ⟨((keepsOthers_drewN W' nq).trans (KeepsOthers.setCell _ _ _)).from _, rfl, HM.out⟩
  case done =>
    rintro D ys W' hD rfl ⟨⟨hI, hN⟩, hB⟩ hK
    rw [List.length_range] at hI
    have ht := HT2.out.below hB
    have hci := hI.cell
    have hcr := (show Boxed W' w.heap.size 44 (.pointer (some ⟨rb, 0, none⟩)) from (hB.block _ (Array.getElem?_eq_some_iff.1 HBR2.out).1).trans HBR2.out).cell
    have hbbx : Boxed W' (w.heap.size + 1) 4 (.bool false) := (hB.block _ (Array.getElem?_eq_some_iff.1 HBB2.out).1).trans HBB2.out
    have hcb := hbbx.cell
    have hfb := hbbx.frozen
    obtain ⟨a1, c1, hv, hc1, hc2⟩ := own_shape5 ht.r.l1.row
    have c2 := ht.r.c2
    have hlu := P_length ht.e1
    have hu65 : P1.length ≤ 65536 := Nat.le_trans (length_le_usedP P1) ht.rz.u1
    rw [hv, hlu] at c2
    rw [hlu] at hc1 hu65
    obtain ⟨N, hN'⟩ : ∃ N, now.length = N := ⟨_, rfl⟩
    rw [hN'] at c2 hc1 hu65 hci
    have hnn : ((N : Int) == (N : Int)) = true := beqT rfl
    have HB := Lib.hid hB
    have HK := Lib.hid hK
    have HBX := Lib.hid hbbx
    have hsD : w.heap.size ≤ D := by have := HS2.out; simp at hD; omega
    have hDne : D ≠ w.heap.size + 1 := fun e => by
      subst e
      rw [show W'.heap[w.heap.size + 1]? = _ from hbbx] at hK
      cases hK
    clear ht hI hN hB hv hlu hN' hbbx hK
    gi_wp2_with fail
    refine wpIn_wide.2 ?_
    go_still_tail 7, (by kernel_rfl)
    go_wp2_with fail
    gi_wp2_with fail
    have hK' : ((W'.setCell ⟨w.heap.size + 1, 0, none⟩ (.bool true)).drew).heap[D]? = some (.deferred (some [])) := (Below.heap_setCell W' _ _ D hDne).trans HK.out
    refine ⟨by simp, .inl ⟨_, _, rfl, run_takeDeferred hK', ?_⟩⟩
    have hc9 : ((W'.setCell ⟨w.heap.size + 1, 0, none⟩ (.bool true)).drew).cell? ⟨w.heap.size + 1, 0, none⟩ = some (.bool true) := (HBX.out.set (.bool true)).cell
    have hc10 := cell_kept hc9 (grownBy_putObj' _ D (.deferred none)) (fun r e => by cases e; exact ⟨_, hK', rfl⟩)
    refine ⟨.bool true, ?_, rfl, (((HB2.out.trans (HB.out.mono HB2.out.size)).setCell (p := ⟨w.heap.size + 1, 0, none⟩) (Nat.le_succ _) _).drew).trans (belowK_b (w := w) (Nat.le_refl _) _ D _ _ hsD hK' rfl rfl)⟩
    simp [results, Try.f24, go_sem, hc10]
  case stop =>
    rintro D c pre W' hD ⟨k, hk, rfl⟩ ⟨rfl, hm⟩ _
    exact (not_missN hm).elim
end
end Go.Proofs.Ytpgnadngiaibeaa
