/- Contracts of the document's memory: Look, Load, Store, Flip. Conditions: the memory lies as RM says. -/
import Derived.Test.YtjdhjehnofediaaRmQ
namespace Go.Proofs.Ytjdhjehnofediaa
open Go Go.RowKit
/-- an object with another word, or moved elsewhere -/
def pW (p : RO × Value) (i x : Nat) : RO × Value := ({ p.1 with ws := p.1.ws.set i x }, p.2)
def pT (p : RO × Value) (t : Int) : RO × Value := ({ p.1 with to := t }, p.2)
theorem cellsP_keep {P : List (RO × Value)} {p q : RO × Value} (hq : roCells q.1 q.2 = roCells p.1 p.2) : ∀ {j : Nat}, P[j]? = some p → cellsP (P.set j q) = cellsP P := by
  induction P with
  | nil => intro j h; simp at h
  | cons r P ih =>
    intro j h
    cases j with
    | zero =>
      rw [List.getElem?_cons_zero] at h
      obtain rfl := Option.some.inj h
      rw [List.set_cons_zero, cellsP_cons, cellsP_cons, hq]
    | succ j =>
      rw [List.getElem?_cons_succ] at h
      rw [List.set_cons_succ, cellsP_cons, cellsP_cons, ih h]
theorem fidx_lt {P : List (RO × Value)} {a : Int} {j : Nat} (e : fidx P a = some j) : j < P.length := by
  obtain ⟨p, hp, _⟩ := fidx_some e
  exact (List.getElem?_eq_some_iff.1 hp).1
section
variable {w w1 : World} {v : Value} {P : List (RO × Value)}
theorem RL.sep_at (l : RL w v P) {i j : Nat} {p q : RO × Value} (hp : P[i]? = some p) (hq : P[j]? = some q) (hne : i ≠ j) : DJ p.2 q.2 := by
  have hs := List.pairwise_iff_getElem.1 l.sep
  obtain ⟨hi, rfl⟩ := List.getElem?_eq_some_iff.1 hp
  obtain ⟨hj, rfl⟩ := List.getElem?_eq_some_iff.1 hq
  rcases Nat.lt_or_gt_of_ne hne with h | h
  · have := hs i j (by simpa using hi) (by simpa using hj) h
    simpa using this
  · have := hs j i (by simpa using hj) (by simpa using hi) h
    exact DJ.symm (by simpa using this)
theorem snd_set {P : List (RO × Value)} {j : Nat} {p q : RO × Value} (hp : P[j]? = some p) (hq : q.2 = p.2) : (P.set j q).map Prod.snd = P.map Prod.snd := by
  rw [List.map_set, hq]
  apply List.ext_getElem?
  intro i
  by_cases e : i = j
  · subst e
    obtain ⟨hj, rfl⟩ := List.getElem?_eq_some_iff.1 hp
    rw [List.getElem?_set_self (by simpa using hj)]
    simp [hj]
  · rw [List.getElem?_set_ne (fun q => e q.symm)]
/-- what a walk asks of a word -/
theorem word_at {u : Value} {ws : List Nat} (h : w.ownsRow 0 56 1 u ws.length (u64s ws)) {i : Nat} (hi : i < ws.length) : ∃ g c, u = .slice (some ⟨g, 0, none⟩) ws.length c ∧ ws.length ≤ c ∧ c ≤ 9223372036854775807 ∧ w.cell? ⟨g, i, none⟩ = some (.int .u64 ((ws.getD i 0 : Nat) : Int)) ∧ w.frozen? ⟨g, i, none⟩ = false := by
  have h' := h
  rcases h.2 with ⟨_, h0⟩ | ⟨g, cap, cur, rfl, _, _, h1, h2, _⟩
  · omega
  · exact ⟨g, cap, rfl, h1, by simpa [maxLen] using h2, (h'.cellAt i (by omega)).trans (u64s_get _ _ hi), h'.frozenAt i⟩
theorem RL.set_word (l : RL w v P) {j i g n c x : Nat} {p : RO × Value} (hp : P[j]? = some p) (hu : p.2 = .slice (some ⟨g, 0, none⟩) n c) : RL (w.setCell ⟨g, i, none⟩ (.int .u64 (x : Int))) v (P.set j (pW p i x)) := by
  have hpm := List.mem_of_getElem? hp
  have hog : p.2.ownBlock = some g := by rw [hu]; rfl
  have hf : Fr (· = g) w (w.setCell ⟨g, i, none⟩ (.int .u64 (x : Int))) := (Fr.refl (· = g) w).setCell (p := ⟨g, i, none⟩) (.inl rfl) _
  refine ⟨?_, fun q hq => ?_, ?_⟩
  · have := own5 hf l.row (fun k hk e => by subst e; exact (l.far hpm) k hk hog)
    rw [List.length_set, cellsP_keep (p := p) (q := pW p i x) rfl hp]
    exact this
  · obtain ⟨k, hk⟩ := List.getElem?_of_mem hq
    by_cases e : k = j
    · subst e
      rw [List.getElem?_set_self (List.getElem?_eq_some_iff.1 hp).1] at hk
      obtain rfl := Option.some.inj hk
      have ho := l.ws p hpm
      show (w.setCell ⟨g, i, none⟩ (.int .u64 (x : Int))).ownsRow 0 56 1 p.2 (p.1.ws.set i x).length (u64s (p.1.ws.set i x))
      rw [List.length_set, u64s_set]
      rw [hu] at ho ⊢
      obtain ⟨_, _, hsh, _⟩ := own_shape5 ho
      have hn : n = p.1.ws.length := by injection hsh
      rw [hn] at ho ⊢
      exact (ho.stored i _).1
    · rw [List.getElem?_set_ne (fun q => e q.symm)] at hk
      exact hf.own (l.ws q (List.mem_of_getElem? hk)) (fun b hb e2 => by subst e2; exact (l.sep_at hk hp e) b hb hog)
  · rw [snd_set (q := pW p i x) hp rfl]; exact l.sep
theorem own_set_word {j i x : Nat} {p : RO × Value} (hp : P[j]? = some p) : ∀ b, OwnL v (P.set j (pW p i x)) b → OwnL v P b := by
  rintro b (h | ⟨q, hq, h⟩)
  · exact .inl h
  · rcases List.mem_or_eq_of_mem_set hq with e | e
    · exact .inr ⟨q, e, h⟩
    · rw [e] at h; exact .inr ⟨p, List.mem_of_getElem? hp, h⟩
end
section
variable {w w1 : World} {b W h : Nat} {v1 v2 : Value} {P1 P2 : List (RO × Value)}
theorem RM.find1 (m : RM w b W h v1 P1 v2 P2) (z : RZ W h P1 P2) (a : Int) : Calls Try.prog 63 #[v1, .int .i64 a] w fun e w' => e = .returned (.int .i64 (fint (fidx P1 a))) ∧ w' = w :=
  rfind_any m.l1 (by have := length_le_usedP P1; have := z.u1; omega) a
theorem RM.find2 (m : RM w b W h v1 P1 v2 P2) (z : RZ W h P1 P2) (a : Int) : Calls Try.prog 63 #[v2, .int .i64 a] w fun e w' => e = .returned (.int .i64 (fint (fidx P2 a))) ∧ w' = w :=
  rfind_any m.l2 (by have := length_le_usedP P2; have := z.u2; omega) a
set_option maxRecDepth 100000 in
set_option maxHeartbeats 1000000 in
theorem rstore_miss (m : RM w b W h v1 P1 v2 P2) (z : RZ W h P1 P2) (a i x : Int) (hi : fidx P1 a = none) : Calls Try.prog 48 #[.pointer (some ⟨b, 0, none⟩), .int .i64 a, .int .i64 i, .int .u64 x] w fun e w' => e = .returned (.int .i64 20) ∧ w' = w := by
  have c2 := m.c2
  have hf := m.find1 z a
  rw [hi] at hf
  obtain ⟨ad, cap, rfl, hc1, hc2⟩ := own_shape5 m.l1.row
  have HF := Lib.hid (show Calls _ _ _ _ (fun e w' => e = .returned (.int .i64 (-1)) ∧ w' = w) from hf)
  clear m z hf hi
  go_enter Try.func48, Try.ntmps48
  go_wp2_with fail
  refine HF.out.mono ?_
  rintro e w' ⟨rfl, rfl⟩
  go_wp2_with fail
  go_ret
  exact ⟨rfl, rfl⟩
set_option maxRecDepth 100000 in
set_option maxHeartbeats 1000000 in
theorem rstore_bad (m : RM w b W h v1 P1 v2 P2) (z : RZ W h P1 P2) (a i x : Int) {j : Nat} {p : RO × Value} (hi : fidx P1 a = some j) (hp : P1[j]? = some p) (hr : i < 0 ∨ (p.1.ws.length : Int) ≤ i) : Calls Try.prog 48 #[.pointer (some ⟨b, 0, none⟩), .int .i64 a, .int .i64 i, .int .u64 x] w fun e w' => e = .returned (.int .i64 20) ∧ w' = w := by
  have c2 := m.c2
  have hf := m.find1 z a
  rw [hi] at hf
  obtain ⟨g, cap, hv, hc1, hc2, hj, A⟩ := m.l1.at hp
  obtain ⟨ua, uc, hu, hu1, hu2⟩ := own_shape5 (m.l1.ws p (List.mem_of_getElem? hp))
  have hlu : P1.length ≤ 65536 := Nat.le_trans (length_le_usedP P1) z.u1
  have d3 := A.c3
  rw [hu] at d3
  rw [hv] at hf c2
  have HF := Lib.hid (show Calls _ _ _ _ (fun e w' => e = .returned (.int .i64 (j : Int)) ∧ w' = w) from hf)
  have hj0 : (0 : Int) ≤ j := by omega
  have hj1 : (j : Int) < P1.length := by omega
  clear m z hf hi A hv hu
  rcases hr with hr | hr
  · go_enter Try.func48, Try.ntmps48
    go_wp2_with fail
    refine HF.out.mono ?_
    rintro e w' ⟨rfl, rfl⟩
    go_wp2_with fail
    go_ret
    exact ⟨rfl, rfl⟩
  · have hr0 : ¬ i < 0 := by omega
    go_enter Try.func48, Try.ntmps48
    go_wp2_with fail
    refine HF.out.mono ?_
    rintro e w' ⟨rfl, rfl⟩
    go_wp2_with fail
    go_ret
    exact ⟨rfl, rfl⟩
set_option maxRecDepth 100000 in
set_option maxHeartbeats 1000000 in
theorem rstore_raw (m : RM w b W h v1 P1 v2 P2) (z : RZ W h P1 P2) (a : Int) (i x : Nat) {j : Nat} {p : RO × Value} (hi : fidx P1 a = some j) (hp : P1[j]? = some p) (hr : i < p.1.ws.length) : Calls Try.prog 48 #[.pointer (some ⟨b, 0, none⟩), .int .i64 a, .int .i64 i, .int .u64 x] w fun e w' => e = .returned (.int .i64 0) ∧ ∃ g n c, p.2 = .slice (some ⟨g, 0, none⟩) n c ∧ w' = w.setCell ⟨g, i, none⟩ (.int .u64 (x : Int)) := by
  have c2 := m.c2
  have hf := m.find1 z a
  rw [hi] at hf
  obtain ⟨g, cap, hv, hc1, hc2, hj, A⟩ := m.l1.at hp
  obtain ⟨g2, uc, hu, hu1, hu2, cw, fw⟩ := word_at (m.l1.ws p (List.mem_of_getElem? hp)) hr
  have hlu : P1.length ≤ 65536 := Nat.le_trans (length_le_usedP P1) z.u1
  have d3 := A.c3
  rw [hu] at d3
  rw [hv] at hf c2
  have HF := Lib.hid (show Calls _ _ _ _ (fun e w' => e = .returned (.int .i64 (j : Int)) ∧ w' = w) from hf)
  have hj0 : (0 : Int) ≤ j := by omega
  have hj1 : (j : Int) < P1.length := by omega
  have hi0 : (0 : Int) ≤ i := by omega
  have hi1 : (i : Int) < p.1.ws.length := by omega
  have HU := Lib.hid hu
  clear m z hf hi A hv hu
  go_enter Try.func48, Try.ntmps48
  go_wp2_with fail
  refine HF.out.mono ?_
  rintro e w' ⟨rfl, rfl⟩
  go_wp2_with fail
  go_ret
  exact ⟨rfl, g2, _, _, HU.out, rfl⟩
theorem rstore_hit (m : RM w b W h v1 P1 v2 P2) (z : RZ W h P1 P2) (a : Int) (i x : Nat) {j : Nat} {p : RO × Value} (hi : fidx P1 a = some j) (hp : P1[j]? = some p) (hr : i < p.1.ws.length) : Calls Try.prog 48 #[.pointer (some ⟨b, 0, none⟩), .int .i64 a, .int .i64 i, .int .u64 x] w fun e w' => e = .returned (.int .i64 0) ∧ RM w' b W h v1 (P1.set j (pW p i x)) v2 P2 ∧ Fr (OwnR b v1 P1 v2 P2) w w' := by
  refine (rstore_raw m z a i x hi hp hr).mono ?_
  rintro e w' ⟨rfl, g, n, c, hu, rfl⟩
  have hog : OwnL v1 P1 g := .inr ⟨p, List.mem_of_getElem? hp, by rw [hu]; rfl⟩
  have hf : Fr (· = g) w (w.setCell ⟨g, i, none⟩ (.int .u64 (x : Int))) := (Fr.refl (· = g) w).setCell (p := ⟨g, i, none⟩) (.inl rfl) _
  have hb : b ≠ g := fun e => m.n1 (by rw [e]; exact hog)
  refine ⟨rfl, ⟨(hf.block b m.lt hb).trans m.blk, m.l1.set_word hp hu, m.l2.kept hf (fun k hk e => by subst e; exact m.n3 k hog hk), fun h => m.n1 (own_set_word hp _ h), m.n2, fun k hk => m.n3 k (own_set_word hp _ hk)⟩, hf.mono (fun k hk => .inl (.inr (.inl (by subst hk; exact hog))))⟩
/-- objects of which the first k were moved nowhere -/
def zTo (k : Nat) (P : List (RO × Value)) : List (RO × Value) := P.mapIdx fun i p => if i < k then (pT p 0) else p
theorem zTo_length (k : Nat) (P : List (RO × Value)) : (zTo k P).length = P.length := by simp [zTo]
theorem zTo_zero (P : List (RO × Value)) : zTo 0 P = P := by
  apply List.ext_getElem?
  intro i
  unfold zTo
  rw [List.getElem?_mapIdx]
  cases P[i]? <;> simp
theorem zTo_get {k j : Nat} {P : List (RO × Value)} {p : RO × Value} (hp : P[j]? = some p) (h : k ≤ j) : (zTo k P)[j]? = some p := by
  unfold zTo
  rw [List.getElem?_mapIdx, hp]
  simp; omega
theorem zTo_succ {k : Nat} {P : List (RO × Value)} {p : RO × Value} (hp : P[k]? = some p) : (zTo k P).set k (pT p 0) = zTo (k + 1) P := by
  apply List.ext_getElem?
  intro i
  by_cases e : i = k
  · subst e
    rw [List.getElem?_set_self (by rw [zTo_length]; exact (List.getElem?_eq_some_iff.1 hp).1)]
    unfold zTo
    rw [List.getElem?_mapIdx, hp]
    simp
  · rw [List.getElem?_set_ne (fun q => e q.symm)]
    unfold zTo
    rw [List.getElem?_mapIdx, List.getElem?_mapIdx]
    cases P[i]? with
    | none => rfl
    | some q =>
      have : (i < k) ↔ (i < k + 1) := by omega
      simp only [Option.map_some, this]
theorem zTo_full (P : List (RO × Value)) : zTo P.length P = P.map fun p => (pT p 0) := by
  apply List.ext_getElem?
  intro i
  unfold zTo
  rw [List.getElem?_mapIdx, List.getElem?_map]
  cases h : P[i]? with
  | none => rfl
  | some p =>
    have := (List.getElem?_eq_some_iff.1 h).1
    simp [this]
theorem own_zTo {v : Value} {k : Nat} {P : List (RO × Value)} : ∀ i, OwnL v (zTo k P) i → OwnL v P i := by
  rintro i (h | ⟨q, hq, h⟩)
  · exact .inl h
  · obtain ⟨j, hj⟩ := List.getElem?_of_mem hq
    unfold zTo at hj
    rw [List.getElem?_mapIdx] at hj
    cases hp : P[j]? with
    | none => rw [hp] at hj; cases hj
    | some p =>
      rw [hp] at hj
      have := Option.some.inj hj
      refine .inr ⟨p, List.mem_of_getElem? hp, ?_⟩
      rw [← h, ← this]
      split <;> rfl
/-- where an object was moved to is stored -/
theorem RL.set_to {v : Value} {P : List (RO × Value)} (l : RL w v P) {j g n c : Nat} {t : Int} {p : RO × Value} (hp : P[j]? = some p) (hv : v = .slice (some ⟨g, 0, none⟩) n c) : RL (w.setCell ⟨g, j * 5 + 4, none⟩ (.int .i64 t)) v (P.set j (pT p t)) := by
  have hpm := List.mem_of_getElem? hp
  have hf : Fr (· = g) w (w.setCell ⟨g, j * 5 + 4, none⟩ (.int .i64 t)) := (Fr.refl (· = g) w).setCell (p := ⟨g, j * 5 + 4, none⟩) (.inl rfl) _
  refine ⟨?_, fun q hq => ?_, ?_⟩
  · have ho := l.row
    rw [hv] at ho ⊢
    obtain ⟨_, _, hsh, _⟩ := own_shape5 ho
    have hn : n = P.length := by injection hsh
    rw [List.length_set, cellsP_set (p := p) 4 (by decide) (.int .i64 t) (q := pT p t) rfl hp]
    rw [hn] at ho ⊢
    exact (ho.stored (j * 5 + 4) _).1
  · have key : ∀ r ∈ P, (w.setCell ⟨g, j * 5 + 4, none⟩ (.int .i64 t)).ownsRow 0 56 1 r.2 r.1.ws.length (u64s r.1.ws) := fun r hr => hf.own (l.ws r hr) (fun k hk e => by subst e; exact (l.far hr) k (by rw [hv]; rfl) hk)
    rcases List.mem_or_eq_of_mem_set hq with e | e
    · exact key q e
    · subst e; exact key p hpm
  · rw [snd_set (q := pT p t) hp rfl]; exact l.sep
set_option maxRecDepth 100000 in
set_option maxHeartbeats 2000000 in
theorem rflip_any (m : RM w b W h v1 P1 v2 P2) (z : RZ W h P1 P2) : Calls Try.prog 57 #[.pointer (some ⟨b, 0, none⟩)] w fun e w' => e = .returned (.tuple #[]) ∧ RM w' b W (1 - h) (.slice none 0 0) [] v1 (P1.map fun p => (pT p 0)) ∧ Fr (OwnR b v1 P1 v2 P2) w w' := by
  have c1 := m.c1
  have c2 := m.c2
  have c3 := m.c3
  have f0 := m.fz
  have f1 := f0 1
  have f2 := f0 2
  have f3 := f0 3
  obtain ⟨a1, k1, hv1, hc1, hc2⟩ := own_shape5 m.l1.row
  obtain ⟨a2, k2, hv2, _, _⟩ := own_shape5 m.l2.row
  have hlu : P1.length ≤ 65536 := Nat.le_trans (length_le_usedP P1) z.u1
  have hh := z.hh
  have hh1 : wrap64 (1 - (h : Int)) = ((1 - h : Nat) : Int) := by unfold wrap64; omega
  have HS : Hid (RM (((w.setCell ⟨b, 1, none⟩ (.int .i64 ((1 - h : Nat) : Int))).setCell ⟨b, 3, none⟩ v1).setCell ⟨b, 2, none⟩ (.slice none 0 0)) b W (1 - h) (.slice none 0 0) [] v1 (zTo 0 P1) ∧ Fr (OwnR b v1 P1 v2 P2) w (((w.setCell ⟨b, 1, none⟩ (.int .i64 ((1 - h : Nat) : Int))).setCell ⟨b, 3, none⟩ v1).setCell ⟨b, 2, none⟩ (.slice none 0 0))) := by
    have hf : Fr (· = b) w (((w.setCell ⟨b, 1, none⟩ (.int .i64 ((1 - h : Nat) : Int))).setCell ⟨b, 3, none⟩ v1).setCell ⟨b, 2, none⟩ (.slice none 0 0)) := (((Fr.refl (· = b) w).setCell (p := ⟨b, 1, none⟩) (.inl rfl) _).setCell (p := ⟨b, 3, none⟩) (.inl rfl) _).setCell (p := ⟨b, 2, none⟩) (.inl rfl) _
    refine ⟨⟨blk_set (blk_set (blk_set m.blk 1 _) 3 _) 2 _, RL.nil _, ?_, ?_, ?_, ?_⟩, hf.mono (fun i hi => .inl (.inl hi))⟩
    · rw [zTo_zero]; exact m.l1.kept hf (fun i hi e => by subst e; exact m.n1 hi)
    · rintro (h | ⟨p, hp, _⟩)
      · cases h
      · cases hp
    · rw [zTo_zero]; exact m.n1
    · rintro i (h | ⟨p, hp, _⟩)
      · cases h
      · cases hp
  have HM := Lib.hid m
  rw [hv1] at c2 HS
  rw [hv2] at c3
  have HV1 := Lib.hid hv1
  obtain ⟨N, hN⟩ : ∃ N, P1.length = N := ⟨_, rfl⟩
  have HN := Lib.hid hN
  rw [hN] at c2 HS hlu hc1 HV1
  clear m z hv1 hv2 f0 hN hh
  go_enter Try.func57, Try.ntmps57
  go_wp2_with fail
  go_loopw [2] (fun i wr => ∃ k : Nat, k ≤ N ∧ i = .int .i64 k ∧ RM wr b W (1 - h) (.slice none 0 0) [] (.slice a1 N k1) (zTo k P1) ∧ Fr (OwnR b v1 P1 v2 P2) w wr) (fun i _ => N - (intOf i).toNat)
  case atStart => exact ⟨0, Nat.zero_le _, rfl, by have := HS.out; rw [← HV1.out] at this ⊢; exact this⟩
  case round =>
    obtain ⟨k, hk, rfl, hR, hF⟩ := hrel
    have HR := Lib.hid hR
    have HF := Lib.hid hF
    have d3 := hR.c3
    clear hR hF HS c1 c2 c3 f1 f2 f3
    by_cases hlt : k < N
    · have hkP : k < P1.length := by rw [HN.out]; exact hlt
      have hp : P1[k]? = some P1[k] := List.getElem?_eq_getElem hkP
      obtain ⟨p, hpe⟩ : ∃ p, P1[k] = p := ⟨_, rfl⟩
      rw [hpe] at hp
      have hpz := zTo_get hp (Nat.le_refl k)
      obtain ⟨g, cap', hv, _, _, _, A⟩ := HR.out.l2.at hpz
      injection hv with e1 _ _
      subst e1
      have d4 := A.c4
      have f4 := A.fz (k * 5 + 4)
      have HP := Lib.hid hp
      have HPZ := Lib.hid hpz
      clear hp hpe A hpz
      go_wp2_with fail
      go_roundw
      case rel =>
        refine ⟨k + 1, by omega, by go_num, ?_, HF.out.setCell (p := ⟨g, k * 5 + 4, none⟩) (.inl (.inr (.inl (.inl (by rw [HV1.out]; rfl))))) _⟩
        have hm := HR.out
        have hl2 := hm.l2.set_to (t := 0) HPZ.out rfl
        rw [zTo_succ HP.out] at hl2
        have hog : OwnL (.slice (some ⟨g, 0, none⟩) N k1) (zTo k P1) g := .inl rfl
        have hf : Fr (· = g) wr (wr.setCell ⟨g, k * 5 + 4, none⟩ (.int .i64 0)) := (Fr.refl (· = g) wr).setCell (p := ⟨g, k * 5 + 4, none⟩) (.inl rfl) _
        have hn2 : ∀ i, OwnL (.slice (some ⟨g, 0, none⟩) N k1) (zTo (k + 1) P1) i → OwnR b v1 P1 v2 P2 i := fun i hi => .inr (.inl (by rw [HV1.out]; exact own_zTo _ hi))
        refine ⟨(hf.block b hm.lt (fun e => hm.n2 (by rw [e]; exact hog))).trans hm.blk, RL.nil _, hl2, hm.n1, fun hi => ?_, ?_⟩
        · have := own_zTo _ hi
          rw [← HV1.out] at this
          exact HM.out.n1 this
        · rintro i (h | ⟨p, hp, _⟩)
          · cases h
          · cases hp
      case measure => simp [intOf]; omega
    · obtain rfl : k = N := by omega
      have HE := Lib.hid (show RM wr b W (1 - h) (.slice none 0 0) [] v1 (P1.map fun p => (pT p 0)) from by rw [← zTo_full, HN.out, HV1.out]; exact HR.out)
      go_wp2_with fail
      go_end0
      exact ⟨rfl, HE.out, HF.out⟩
end
end Go.Proofs.Ytjdhjehnofediaa
