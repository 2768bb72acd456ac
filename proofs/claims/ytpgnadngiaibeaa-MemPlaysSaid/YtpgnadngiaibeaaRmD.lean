/- The contracts of the document's Copied and Copy. Conditions: the memory lies as RM says. -/
import Derived.Test.YtpgnadngiaibeaaRmC
namespace Go.Proofs.Ytpgnadngiaibeaa
open Go Go.RowKit
section
variable {w wr w1 : World} {v : Value} {P : List (RO × Value)}
theorem RL.push (l : RL wr v P) {o : RO} {u v' : Value} {tmp : Obj} (hu : wr.ownsRow 0 22 1 u o.ws.length (u64s o.ws)) (hnew : ∀ i, u.ownBlock = some i → ¬ OwnL v P i) (hown : w1.ownsRow 0 83 5 v' (P.length + 1) (cellsP P ++ roCells o u)) (hg : (wr.alloc tmp).grownBy w1 v.ownBlock) (hblk : v'.ownBlock = v.ownBlock ∨ v'.ownBlock = some (wr.heap.size + 1)) :
    RL w1 v' (P ++ [(o, u)]) ∧ (∀ i, OwnL v' (P ++ [(o, u)]) i → OwnL v P i ∨ u.ownBlock = some i ∨ wr.heap.size ≤ i) ∧ Fr (OwnL v P) wr w1 := by
  have hf : Fr (fun i => v.ownBlock = some i) wr w1 := ((Fr.refl _ wr).alloc tmp).grown hg (fun _ hk => .inl hk)
  refine ⟨⟨?_, ?_, ?_⟩, ?_, hf.mono (fun i hi => .inl (.inl hi))⟩
  · rw [List.length_append, List.length_singleton, cellsP_append]
    have e : cellsP [(o, u)] = roCells o u := by simp [cellsP]
    rw [e]
    exact hown
  · intro p hp
    rcases List.mem_append.1 hp with e | e
    · exact hf.own (l.ws p e) (fun g hg' q => (l.far e) g q hg')
    · rw [List.mem_singleton.1 e]
      exact hf.own hu (fun g hg' q => hnew g hg' (.inl q))
  · rw [List.map_append, List.pairwise_append]
    refine ⟨l.sep, by simp, ?_⟩
    intro a ha c hc g hga hgc
    obtain ⟨p, hp, rfl⟩ := List.mem_map.1 ha
    simp at hc
    subst hc
    exact hnew g hgc (.inr ⟨p, hp, hga⟩)
  · rintro i (q | ⟨p, hp, q⟩)
    · rcases hblk with e | e
      · exact .inl (.inl (e ▸ q))
      · rw [e] at q; have := Option.some.inj q; exact .inr (.inr (by omega))
    · rcases List.mem_append.1 hp with e | e
      · exact .inl (.inr ⟨p, e, q⟩)
      · rw [List.mem_singleton.1 e] at q; exact .inr (.inl q)
/-- the words of an object that is copied are laid -/
theorem words_laid {w3 w5 : World} {ob z5 B : Nat} {oa ok ot tt : Int} {u0 v5 : Value} {ws : List Nat} {tmp : Obj} (hB : w3.heap.size = B) (hblk : w3.heap[ob]? = some (.cells #[.int .i64 oa, .int .i64 ok, .int .i64 ot, u0, .int .i64 tt] 83 (0, 0)))
    (hz : ws.length = z5) (hown : w5.ownsRow B 22 1 v5 (0 + z5) ([] ++ u64s ws)) (hg : (w3.alloc tmp).grownBy w5 (some B)) :
    w5.heap[ob]? = some (.cells #[.int .i64 oa, .int .i64 ok, .int .i64 ot, u0, .int .i64 tt] 83 (0, 0)) ∧ (w5.setCell ⟨ob, 3, none⟩ v5).ownsRow B 22 1 v5 ws.length (u64s ws) ∧ (w5.setCell ⟨ob, 3, none⟩ v5).heap.size = w5.heap.size ∧ Fr (· = ob) w3 (w5.setCell ⟨ob, 3, none⟩ v5) := by
  subst hz hB
  rw [Nat.zero_add, List.nil_append] at hown
  have hlt : ob < w3.heap.size := (Array.getElem?_eq_some_iff.1 hblk).1
  have hb : w5.heap[ob]? = _ := (hg.block ob (by simp; omega) (fun e => by have := Option.some.inj e; omega)).trans ((Below.heap_alloc _ tmp ob hlt).trans hblk)
  refine ⟨hb, own_set0 hown (fun g hg' e => ?_), by simp [World.setCell], (((Fr.refl (· = ob) w3).alloc tmp).grown hg (fun k hk => .inr (by have := Option.some.inj hk; omega))).setCell (p := ⟨ob, 3, none⟩) (.inl rfl) _⟩
  subst e
  have := (hown.lt g hg').1
  omega
end
theorem ownL_nil (i : Nat) (h : OwnL (.slice none 0 0) [] i) : False := by
  rcases h with h | ⟨p, hp, _⟩
  · cases h
  · cases hp
/-- what a copy of a list is -/
def CopyOf (w : World) (P : List (RO × Value)) (k : Nat) (v' : Value) (w' : World) : Prop := ∃ P', RL w' v' P' ∧ P'.map Prod.fst = (P.take k).map Prod.fst ∧ (∀ i, OwnL v' P' i → w.heap.size ≤ i) ∧ Below w.heap.size w w'
set_option maxRecDepth 100000 in
set_option maxHeartbeats 8000000 in
theorem copied_any {w : World} {v : Value} {P : List (RO × Value)} (l : RL w v P) (hu : usedP P ≤ 65536) : Calls Try.prog 44 #[v] w fun e w' => ∃ v', e = .returned v' ∧ CopyOf w P P.length v' w' := by
  obtain ⟨i0, hi0, hz0, hz1, hz2⟩ := info_parts infoU64
  obtain ⟨i5, hi5, hy0, hy1, hy2⟩ := info_parts infoObj
  obtain ⟨ad, cap, rfl, hc1, hc2⟩ := own_shape5 l.row
  obtain ⟨N, hN⟩ : ∃ N, P.length = N := ⟨_, rfl⟩
  have hlu := length_le_usedP P
  have HN := Lib.hid hN
  rw [hN] at hc1 hlu
  have HL := Lib.hid l
  have HU := Lib.hid hu
  have hN6 : N ≤ 65536 := by omega
  rw [hN]
  have HR0 : Hid (CopyOf w P 0 (.slice none 0 0) w) := ⟨[], RL.nil w, by simp, fun i hi => (ownL_nil i hi).elim, Below.refl _ _⟩
  clear l hN hlu hu
  go_enter Try.func44, Try.ntmps44
  go_wp2_with fail
  go_loopw [3, 4] (fun o i wr => ∃ k : Nat, k ≤ N ∧ i = .int .i64 k ∧ CopyOf w P k o wr) (fun _ i _ => N - (intOf i).toNat)
  case atStart => exact ⟨0, Nat.zero_le _, rfl, HR0.out⟩
  case round =>
    obtain ⟨k, hk, rfl, hC⟩ := hrel
    have HC := Lib.hid hC
    obtain ⟨P', hl', hm', ho', hb'⟩ := hC
    have hlen : P'.length = k := by have := congrArg List.length hm'; simpa [HN.out, Nat.min_eq_left hk] using this
    obtain ⟨a', c', hvo, hc1', hc2'⟩ := own_shape5 hl'.row
    rw [hlen] at hvo hc1'
    subst hvo
    clear HR0
    by_cases hlt : k < N
    · have hkP : k < P.length := by rw [HN.out]; exact hlt
      have hp : P[k]? = some P[k] := List.getElem?_eq_getElem hkP
      obtain ⟨p, hpe⟩ : ∃ p, P[k] = p := ⟨_, rfl⟩
      rw [hpe] at hp
      have hlr := HL.out.below hb'
      obtain ⟨g, cap', hv, _, _, _, AT⟩ := hlr.at hp
      injection hv with e1 e2 e3
      subst e1
      clear e2 e3
      have how := hlr.ws p (List.mem_of_getElem? hp)
      obtain ⟨⟨oa, ok, ot, ws, tt⟩, u⟩ := p
      simp only at how AT
      obtain ⟨ua, uc, rfl, hu1, hu2⟩ := own_shape5 how
      have d0 := AT.c0
      have d1 := AT.c1
      have d2 := AT.c2
      have d3 := AT.c3
      have d4 := AT.c4
      simp only at d0 d1 d2 d3 d4
      have hz6 : ws.length ≤ 65536 := by
        have h1 := usedP_take_succ hp
        have h2 := usedP_take_le P (k + 1)
        have h3 := HU.out
        simp only at h1
        omega
      obtain ⟨z5, hz5⟩ : ∃ z5, ws.length = z5 := ⟨_, rfl⟩
      rw [hz5] at how d3 hu1 hz6
      have HZ5 := Lib.hid hz5
      have hgw : g < wr.heap.size := World.block_lt_of_cell? wr ⟨g, k * 5, none⟩ d0
      have HP := Lib.hid hp
      have HOW := Lib.hid how
      have HL' := Lib.hid hl'
      have HM' := Lib.hid hm'
      have HO' := Lib.hid ho'
      have HB' := Lib.hid hb'
      have HLEN := Lib.hid hlen
      have hsz := hb'.size
      clear hp hpe hlr AT how hl' hm' ho' hb' hlen hz5
      have hblk3 := heap_alloc_new wr (.cells #[.int .i64 oa, .int .i64 ok, .int .i64 ot, .slice ua z5 uc, .int .i64 tt] 83)
      have HBL3 := Lib.hid hblk3
      have HO0 : Hid (((wr.alloc (.cells #[.int .i64 oa, .int .i64 ok, .int .i64 ot, .slice ua z5 uc, .int .i64 tt] 83)).alloc (.cells #[] 22)).ownsRow (wr.heap.size + 1) 22 1 (.slice (some ⟨wr.heap.size + 1, 0, none⟩) 0 0) 0 []) := by
        have h := own_empty (wr.alloc (.cells #[.int .i64 oa, .int .i64 ok, .int .i64 ot, .slice ua z5 uc, .int .i64 tt] 83)) 22
        rw [World.size_alloc] at h
        exact h
      clear hblk3
      have HW5 : Hid (∀ (w5 : World) (v5 : Value), Fr (· = wr.heap.size) (wr.alloc (.cells #[.int .i64 oa, .int .i64 ok, .int .i64 ot, .slice ua z5 uc, .int .i64 tt] 83)) (w5.setCell ⟨wr.heap.size, 3, none⟩ v5) → RL (w5.setCell ⟨wr.heap.size, 3, none⟩ v5) (.slice a' k c') P' ∧ Below w.heap.size w (w5.setCell ⟨wr.heap.size, 3, none⟩ v5)) := fun w5 v5 hf => by
        have hb := (HB'.out.alloc hsz (.cells #[.int .i64 oa, .int .i64 ok, .int .i64 ot, .slice ua z5 uc, .int .i64 tt] 83)).trans (hf.below (by simp; omega) (fun i hi => by subst hi; exact hsz))
        have hb2 : Below wr.heap.size wr (w5.setCell ⟨wr.heap.size, 3, none⟩ v5) := ((Below.refl _ wr).alloc (Nat.le_refl _) _).trans (hf.below (by simp) (fun i hi => by subst hi; exact Nat.le_refl _))
        exact ⟨HL'.out.below hb2, hb⟩
      have tok1 : True := trivial
      go_wp2_with (first
        | (at_builtin; have _t := tok1; refine wpList_append_row rfl _ _ 74 rfl (wr.heap.size + 1) 22 i0 (.int .u64 0) 8 Try.underlying74 hi0 hz0 hz1 hz2 rfl (.slice (some ⟨wr.heap.size + 1, 0, none⟩) 0 0) 0 [] rfl HO0.out (.slice ua z5 uc) z5 (u64s ws) rfl ((HOW.out.alloc _).alloc _) (u64s_one ws) (by unfold maxLen; omega) (by omega) (by simp) ?_; intro v5 w5 hown5 hgrow5 hblk5; obtain ⟨a5, k5, rfl, hk5, hk6⟩ := own_shape5 (own_mono hown5 (Nat.zero_le _)); rw [Nat.zero_add] at hk5; obtain ⟨b5, o5, s5, f5⟩ := words_laid (World.size_alloc _ _) HBL3.out HZ5.out hown5 hgrow5; rw [Nat.zero_add] at o5 s5 f5; have y0 := blk_cell b5 0; have y1 := blk_cell b5 1; have y2 := blk_cell b5 2; have y3 := blk_cell b5 3; have y4 := blk_cell b5 4; have yf := blk_free b5 3; have HB5 := Lib.hid (HW5.out w5 _ f5); have HO5 := Lib.hid o5; have HS5 := Lib.hid s5; have HG5 := Lib.hid f5.size; clear tok1 _t b5 o5 s5 f5 hown5 hgrow5 hblk5)
        | (at_builtin; refine wpList_append_own_at _ rfl _ _ 34 rfl 0 83 i5 (.agg #[.int .i64 0, .int .i64 0, .int .i64 0, .slice none 0 0, .int .i64 0]) 5 56 Try.underlying34 hi5 hy0 hy1 hy2 rfl (by decide) (.slice a' k c') k (cellsP P') rfl (by have := HB5.out.1.row.alloc (.cells #[.int .i64 oa, .int .i64 ok, .int .i64 ot, .slice a5 z5 k5, .int .i64 tt] 83); rw [HLEN.out] at this; exact this) ⟨w5.heap.size, 0, none⟩ 1 1 [.int .i64 oa, .int .i64 ok, .int .i64 ot, .slice a5 z5 k5, .int .i64 tt] rfl rfl (cells5_at _ _ _ _ _ _ _ _ HS5.out) (ro_one (o := ⟨oa, ok, ot, ws, tt⟩) (u := .slice a5 z5 k5) rfl) (by unfold maxLen; omega) (by omega) (Nat.zero_le _) ?_; intro v8 w8 hown8 hgrow8 _ hblk8))
      obtain ⟨q1, q2, q3⟩ := RL.push (wr := w5.setCell ⟨wr.heap.size, 3, none⟩ (.slice a5 z5 k5)) HB5.out.1 (o := ⟨oa, ok, ot, ws, tt⟩) (u := .slice a5 z5 k5) (own_mono HO5.out (Nat.zero_le _)) (fun i hi hn => by have := (HO5.out.lt i hi).1; have := HL'.out.lt i hn; omega) (by rw [HLEN.out]; exact hown8) hgrow8 (by rw [World.size_alloc] at hblk8; exact hblk8)
      have hg5 := HG5.out
      rw [World.size_alloc] at hg5
      go_roundw
      case rel =>
        refine ⟨k + 1, hlt, by go_num, _, q1, ?_, fun i hi => ?_, HB5.out.2.trans (q3.below (by omega) HO'.out)⟩
        · rw [List.map_append, HM'.out, List.take_add_one, HP.out]; simp
        · rcases q2 i hi with r | r | r
          · exact HO'.out i r
          · have := (HO5.out.lt i r).1; omega
          · omega
      case measure => simp [intOf]; omega
    · go_wp2_with fail
      go_ret
      have hkN : N = k := by omega
      exact ⟨_, rfl, by rw [hkN]; exact HC.out⟩
/-- nothing but the block c, whose four cells lie there, has turned -/
structure KR (w1 : World) (c : Nat) (W1 : World) : Prop where
  fr : Fr (· = c) w1 W1
  blk : ∃ cs, W1.heap[c]? = some (.cells cs 36 (0, 0)) ∧ cs.size = 4
theorem KR.below {w1 W1 W2 : World} {c : Nat} (k : KR w1 c W1) (h : Below W1.heap.size W1 W2) : KR w1 c W2 := by
  obtain ⟨cs, h1, h2⟩ := k.blk
  exact ⟨k.fr.trans (Fr.of_below (O := fun _ => False) h) (fun _ => False.elim), cs, (h.block c (Array.getElem?_eq_some_iff.1 h1).1).trans h1, h2⟩
theorem KR.drew {w1 W1 : World} {c : Nat} (k : KR w1 c W1) : KR w1 c W1.drew := k.below (Below.refl _ W1).drew
theorem KR.set {w1 W1 : World} {c : Nat} (k : KR w1 c W1) (j : Nat) (v : Value) : KR w1 c (W1.setCell ⟨c, j, none⟩ v) := by
  obtain ⟨cs, h1, h2⟩ := k.blk
  exact ⟨k.fr.setCell (p := ⟨c, j, none⟩) (.inl rfl) v, _, blk_set h1 j v, by simpa using h2⟩
theorem four_set {W1 : World} {c : Nat} {cs : Array Value} {t : TypeId} (h1 : W1.heap[c]? = some (.cells cs t (0, 0))) (h2 : cs.size = 4) (x0 x1 x2 x3 : Value) : ((((W1.setCell ⟨c, 0, none⟩ x0).setCell ⟨c, 1, none⟩ x1).setCell ⟨c, 2, none⟩ x2).setCell ⟨c, 3, none⟩ x3).heap[c]? = some (.cells #[x0, x1, x2, x3] t (0, 0)) := by
  obtain ⟨l⟩ := cs
  have hl : l.length = 4 := h2
  match l, hl with
  | [_, _, _, _], _ => exact blk_set (blk_set (blk_set (blk_set h1 0 x0) 1 x1) 2 x2) 3 x3
theorem kr_s {w1 W1 : World} {b c : Nat} {x0 x1 x2 x3 : Value} (hne : b ≠ c) (h0 : w1.cell? ⟨b, 0, none⟩ = some x0) (h1 : w1.cell? ⟨b, 1, none⟩ = some x1) (h2 : w1.cell? ⟨b, 2, none⟩ = some x2) (h3 : w1.cell? ⟨b, 3, none⟩ = some x3) (h : KR w1 c W1) :
    W1.cell? ⟨b, 0, none⟩ = some x0 ∧ W1.cell? ⟨b, 1, none⟩ = some x1 ∧ W1.cell? ⟨b, 2, none⟩ = some x2 ∧ W1.cell? ⟨b, 3, none⟩ = some x3 ∧ W1.cell? ⟨c, 0, none⟩ = some (cellAt W1 c 0) ∧ W1.cell? ⟨c, 1, none⟩ = some (cellAt W1 c 1) ∧ W1.cell? ⟨c, 2, none⟩ = some (cellAt W1 c 2) ∧ W1.cell? ⟨c, 3, none⟩ = some (cellAt W1 c 3) ∧ W1.frozen? ⟨c, 0, none⟩ = false ∧ W1.frozen? ⟨c, 1, none⟩ = false ∧ W1.frozen? ⟨c, 2, none⟩ = false ∧ W1.frozen? ⟨c, 3, none⟩ = false ∧ KR w1 c W1 := by
  obtain ⟨cs, g1, g2⟩ := h.blk
  have k : ∀ i, i < 4 → W1.cell? ⟨c, i, none⟩ = some (cellAt W1 c i) := fun i hi => by
    unfold cellAt
    rw [blk_cell g1, Array.getElem?_eq_getElem (by omega)]; rfl
  exact ⟨h.fr.cell_some h0 hne, h.fr.cell_some h1 hne, h.fr.cell_some h2 hne, h.fr.cell_some h3 hne, k _ (by omega), k _ (by omega), k _ (by omega), k _ (by omega), blk_free g1 _, blk_free g1 _, blk_free g1 _, blk_free g1 _, h⟩
theorem kr_of {p0 p1 p2 p3 p4 p5 p6 p7 p8 p9 p10 p11 : Prop} {a b : World} {c : Nat} (h : p0 ∧ p1 ∧ p2 ∧ p3 ∧ p4 ∧ p5 ∧ p6 ∧ p7 ∧ p8 ∧ p9 ∧ p10 ∧ p11 ∧ KR a c b) : KR a c b := h.2.2.2.2.2.2.2.2.2.2.2.2
theorem copied_kr {w1 W1 : World} {c : Nat} {v : Value} {P : List (RO × Value)} (l : RL w1 v P) (hc : ∀ i, OwnL v P i → i ≠ c) (k : KR w1 c W1) (hu : usedP P ≤ 65536) :
    Calls Try.prog 44 #[v] W1 fun e w' => (∃ a n k, e = .returned (.slice a n k) ∧ CopyOf W1 P P.length (.slice a n k) w') ∧ Below W1.heap.size W1 w' := by
  refine (copied_any (l.kept k.fr hc) hu).mono ?_
  rintro e w' ⟨v', rfl, P', h1, h2, h3, h4⟩
  obtain ⟨a, cap, rfl, _, _⟩ := own_shape5 h1.row
  exact ⟨⟨a, _, cap, rfl, P', h1, h2, h3, h4⟩, h4⟩
section
variable {w : World} {b W h : Nat} {v1 v2 : Value} {P1 P2 : List (RO × Value)}
/-- what a copy of the document's memory is, as a value -/
def CopyM (w : World) (W h : Nat) (P1 P2 : List (RO × Value)) (e : Ending) (w' : World) : Prop := ∃ u1 u2 Q1 Q2, e = .returned (.agg #[.int .i64 W, .int .i64 h, u1, u2]) ∧ RL w' u1 Q1 ∧ RL w' u2 Q2 ∧ Q1.map Prod.fst = P1.map Prod.fst ∧ Q2.map Prod.fst = P2.map Prod.fst ∧ (∀ i, OwnL u1 Q1 i → w.heap.size ≤ i) ∧ (∀ i, OwnL u2 Q2 i → w.heap.size ≤ i) ∧ (∀ i, OwnL u1 Q1 i → ¬ OwnL u2 Q2 i) ∧ Below w.heap.size w w'
set_option maxRecDepth 100000 in
set_option maxHeartbeats 8000000 in
theorem rcopy_any (m : RM w b W h v1 P1 v2 P2) (z : RZ W h P1 P2) : Calls Try.prog 22 #[.pointer (some ⟨b, 0, none⟩)] w (CopyM w W h P1 P2) := by
  have hbl := m.lt
  have HM := Lib.hid m
  have HZ := Lib.hid z
  clear m z
  go_enter Try.func22, Try.ntmps22
  go_wp2_with fail
  obtain ⟨w1, hw1⟩ : ∃ w1, w.alloc (.cells #[.int .i64 0, .int .i64 0, .slice none 0 0, .slice none 0 0] 36) = w1 := ⟨_, rfl⟩
  have hb1 : Below w.heap.size w w1 := by rw [← hw1]; exact (Below.refl _ _).alloc (Nat.le_refl _) _
  have hcb := heap_alloc_new w (.cells #[.int .i64 0, .int .i64 0, .slice none 0 0, .slice none 0 0] 36)
  rw [hw1] at hcb ⊢
  have hm1 := HM.out.below hb1
  have HB1 := Lib.hid hb1
  have C0 := Lib.hid hm1.c0
  have C1 := Lib.hid hm1.c1
  have C2 := Lib.hid hm1.c2
  have C3 := Lib.hid hm1.c3
  have HL1 := Lib.hid hm1.l1
  have HL2 := Lib.hid hm1.l2
  have N1 := Lib.hid (show ∀ i, OwnL v1 P1 i → i ≠ w.heap.size from fun i hi => by have := HM.out.l1.lt i hi; omega)
  have N2 := Lib.hid (show ∀ i, OwnL v2 P2 i → i ≠ w.heap.size from fun i hi => by have := HM.out.l2.lt i hi; omega)
  have NE := Lib.hid (show b ≠ w.heap.size from by omega)
  have HLT := Lib.hid (show w.heap.size < w1.heap.size from (Array.getElem?_eq_some_iff.1 hcb).1)
  have hd0 := (KR.mk (Fr.refl _ w1) ⟨_, hcb, rfl⟩).drew
  clear hw1 hb1 hcb hm1
  go_region_held3 (fun W' => W'.cell? ⟨b, 0, none⟩ = some (.int .i64 W) ∧ W'.cell? ⟨b, 1, none⟩ = some (.int .i64 h) ∧ W'.cell? ⟨b, 2, none⟩ = some v1 ∧ W'.cell? ⟨b, 3, none⟩ = some v2 ∧ W'.cell? ⟨w.heap.size, 0, none⟩ = some (cellAt W' w.heap.size 0) ∧ W'.cell? ⟨w.heap.size, 1, none⟩ = some (cellAt W' w.heap.size 1) ∧ W'.cell? ⟨w.heap.size, 2, none⟩ = some (cellAt W' w.heap.size 2) ∧ W'.cell? ⟨w.heap.size, 3, none⟩ = some (cellAt W' w.heap.size 3) ∧ W'.frozen? ⟨w.heap.size, 0, none⟩ = false ∧ W'.frozen? ⟨w.heap.size, 1, none⟩ = false ∧ W'.frozen? ⟨w.heap.size, 2, none⟩ = false ∧ W'.frozen? ⟨w.heap.size, 3, none⟩ = false ∧ KR w1 w.heap.size W')
    (first | (with_reducible assumption) | exact kr_s NE.out C0.out C1.out C2.out C3.out (by with_reducible assumption) | exact kr_s NE.out C0.out C1.out C2.out C3.out (KR.set (KR.set (KR.set (KR.set (kr_of (by with_reducible assumption)) _ _) _ _) _ _) _ _))
    (first
      | (go_at_call 44; (with_reducible refine (copied_kr HL1.out N1.out (kr_of (by assumption)) HZ.out.u1).mono ?_); rintro e wa ⟨⟨aa, na, ka, rfl, ca⟩, ba⟩; have hya := KR.below (kr_of (by with_reducible assumption)) ba)
      | (go_at_call 44; (with_reducible refine (copied_kr HL2.out N2.out (kr_of (by assumption)) HZ.out.u2).mono ?_); rintro e wb ⟨⟨ab, nb, kb, rfl, cb⟩, bb⟩; have hyb := KR.below (kr_of (by with_reducible assumption)) bb))
  obtain ⟨Q1, l1, m1, s1, b1⟩ := ca
  obtain ⟨Q2, l2, m2, s2, b2⟩ := cb
  obtain ⟨cs, k1, k2⟩ := hyb.blk
  have hblk := four_set k1 k2 (.int .i64 W) (.int .i64 h) (.slice aa na ka) (.slice ab nb kb)
  have hf : Fr (· = w.heap.size) wb ((((wb.setCell ⟨w.heap.size, 0, none⟩ (.int .i64 W)).setCell ⟨w.heap.size, 1, none⟩ (.int .i64 h)).setCell ⟨w.heap.size, 2, none⟩ (.slice aa na ka)).setCell ⟨w.heap.size, 3, none⟩ (.slice ab nb kb)) :=
    ((((Fr.refl (· = w.heap.size) wb).setCell (p := ⟨w.heap.size, 0, none⟩) (.inl rfl) _).setCell (p := ⟨w.heap.size, 1, none⟩) (.inl rfl) _).setCell (p := ⟨w.heap.size, 2, none⟩) (.inl rfl) _).setCell (p := ⟨w.heap.size, 3, none⟩) (.inl rfl) _
  obtain ⟨Wf, hWf⟩ : ∃ Wf, ((((wb.setCell ⟨w.heap.size, 0, none⟩ (.int .i64 W)).setCell ⟨w.heap.size, 1, none⟩ (.int .i64 h)).setCell ⟨w.heap.size, 2, none⟩ (.slice aa na ka)).setCell ⟨w.heap.size, 3, none⟩ (.slice ab nb kb)) = Wf := ⟨_, rfl⟩
  rw [hWf] at hblk hf ⊢
  have f0 := blk_cell hblk 0
  have f1 := blk_cell hblk 1
  have f2 := blk_cell hblk 2
  have f3 := blk_cell hblk 3
  have hsw1 : (w1.drew).heap.size = w1.heap.size := rfl
  have hba := ba.size
  have hbb := bb.size
  have HPOST : Hid (CopyM w W h P1 P2 (.returned (.agg #[.int .i64 W, .int .i64 h, .slice aa na ka, .slice ab nb kb])) Wf) := by
    have hlt := HLT.out
    refine ⟨_, _, Q1, Q2, rfl, (l1.below bb).kept hf (fun i hi e => by have := s1 i hi; omega), l2.kept hf (fun i hi e => by have := s2 i hi; omega), by rw [m1, List.take_length], by rw [m2, List.take_length], fun i hi => by have := s1 i hi; omega, fun i hi => by have := s2 i hi; omega, fun i hi hi2 => by have := l1.lt i hi; have := s2 i hi2; omega, ?_⟩
    exact (HB1.out.trans (hyb.fr.below HB1.out.size (fun i hi => Nat.le_of_eq hi.symm))).trans (hf.below (by omega) (fun i hi => Nat.le_of_eq hi.symm))
  clear l1 m1 s1 b1 l2 m2 s2 b2 k1 k2 hf hWf ba bb hya hyb hsw1 hba hbb
  go_wp2_with fail
  exact bodyPost_ret (v := .agg #[.int .i64 W, .int .i64 h, .slice aa na ka, .slice ab nb kb]) (by simp [results, Try.results22, go_sem, f0, f1, f2, f3]) rfl HPOST.out
end
end Go.Proofs.Ytpgnadngiaibeaa
