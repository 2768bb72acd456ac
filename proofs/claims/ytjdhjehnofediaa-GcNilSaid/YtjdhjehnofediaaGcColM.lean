/- Plain mathematics of a collection: the objects as they are moved, and as they are renewed. Conditions: none. -/
import Derived.Test.YtjdhjehnofediaaGcM
namespace Go.Proofs.Ytjdhjehnofediaa
open Go Go.RowKit
/-- the cells of those that were not moved -/
def resto (os : List Ob) : Nat := (os.map fun o => if o.to = 0 then 1 + o.ws.length else 0).sum
theorem resto_set : ∀ (os : List Ob) (j : Nat) (o o' : Ob), os[j]? = some o → o.to = 0 → o'.to ≠ 0 → resto (os.set j o') + (1 + o.ws.length) = resto os
  | [], j, o, _, h, _, _ => by cases h
  | x :: xs, 0, o, o', h, h0, h1 => by
    rw [List.getElem?_cons_zero] at h
    obtain rfl := Option.some.inj h
    simp only [resto, List.set_cons_zero, List.map_cons, List.sum_cons, if_pos h0, if_neg h1]
    omega
  | x :: xs, j + 1, o, o', h, h0, h1 => by
    rw [List.getElem?_cons_succ] at h
    have ih := resto_set xs j o o' h h0 h1
    simp only [resto, List.set_cons_succ, List.map_cons, List.sum_cons] at ih ⊢
    omega
theorem resto_fresh : ∀ (os : List Ob), Fresh os → resto os = used os
  | [], _ => rfl
  | x :: xs, h => by
    have ih := resto_fresh xs (fun o ho => h o (List.mem_cons_of_mem _ ho))
    simp only [resto, used, List.map_cons, List.sum_cons, if_pos (h x (List.mem_cons_self ..))] at ih ⊢
    omega
/-- the object of a number -/
def obAt (os : List Ob) (j : Nat) : Ob := (os[j]?).getD ⟨0, 0, [], 0⟩
theorem obAt_get {os : List Ob} {j : Nat} (h : j < os.length) : os[j]? = some (obAt os j) := by unfold obAt; rw [List.getElem?_eq_getElem h]; rfl
theorem obAt_of {os : List Ob} {j : Nat} {o : Ob} (h : os[j]? = some o) : obAt os j = o := by unfold obAt; rw [h]; rfl
/-- the objects of some numbers -/
def pick (os : List Ob) (met : List Nat) : List Ob := met.map (obAt os)
theorem pick_length (os : List Ob) (met : List Nat) : (pick os met).length = met.length := by simp [pick]
theorem pick_snoc (os : List Ob) (met : List Nat) (j : Nat) : pick os (met ++ [j]) = pick os met ++ [obAt os j] := by simp [pick]
theorem pick_get {os : List Ob} {met : List Nat} {p j : Nat} (h : met[p]? = some j) : (pick os met)[p]? = some (obAt os j) := by simp [pick, h]
/-- where the object of a number lies behind the collection in the half k -/
def toK (k W : Nat) (os : List Ob) (met : List Nat) (j : Nat) : Nat := (adr k W (start (pick os met) (met.idxOf j) : Nat)).toNat
/-- the old objects when those of pre were moved -/
def oldK (k W : Nat) (os : List Ob) (met pre : List Nat) : List Ob := os.mapIdx fun j o => if j ∈ pre then { o with to := toK k W os met j } else o
theorem sz_oldK (k W : Nat) (os : List Ob) (met pre : List Nat) : sz (oldK k W os met pre) = sz os := by
  unfold sz oldK
  apply List.ext_getElem
  · simp
  · intro i h1 h2
    simp only [List.getElem_map, List.getElem_mapIdx]
    split <;> rfl
theorem oldK_nil (k W : Nat) (os : List Ob) (met : List Nat) : oldK k W os met [] = os := by
  unfold oldK
  apply List.ext_getElem
  · simp
  · intro i h1 h2
    simp
theorem oldK_get {k W : Nat} {os : List Ob} {met pre : List Nat} {j : Nat} {o : Ob} (h : os[j]? = some o) : (oldK k W os met pre)[j]? = some (if j ∈ pre then { o with to := toK k W os met j } else o) := by
  unfold oldK
  rw [List.getElem?_mapIdx, h]; rfl
theorem oldK_put {k W : Nat} {os : List Ob} {met pre : List Nat} {j : Nat} {o : Ob} (h : os[j]? = some o) : (oldK k W os met pre).set j { o with to := toK k W os met j } = oldK k W os met (pre ++ [j]) := by
  apply List.ext_getElem?
  intro i
  by_cases e : i = j
  · subst e
    have hl : i < (oldK k W os met pre).length := by
      have := (List.getElem?_eq_some_iff.1 h).1
      simpa [oldK] using this
    rw [List.getElem?_set_self hl, oldK_get h, if_pos (by simp)]
  · rw [List.getElem?_set_ne (fun q => e q.symm)]
    unfold oldK
    rw [List.getElem?_mapIdx, List.getElem?_mapIdx]
    have : i ∈ pre ++ [j] ↔ i ∈ pre := by simp [e]
    simp only [this]
theorem idxOf_get {met : List Nat} (hn : met.Nodup) {p j : Nat} (h : met[p]? = some j) : met.idxOf j = p := by
  obtain ⟨hp, rfl⟩ := List.getElem?_eq_some_iff.1 h
  exact List.Nodup.idxOf_getElem hn p hp
theorem pick_take (os : List Ob) (met : List Nat) (p : Nat) : (pick os met).take p = pick os (met.take p) := by unfold pick; rw [List.map_take]
theorem start_pick (os : List Ob) (met : List Nat) (p : Nat) : start (pick os met) p = used (pick os (met.take p)) := by unfold start; rw [pick_take]
theorem toK_at {k W : Nat} {os : List Ob} {met : List Nat} (hn : met.Nodup) {p j : Nat} (h : met[p]? = some j) : ((toK k W os met j : Nat) : Int) = adr k W (used (pick os (met.take p)) : Nat) := by
  unfold toK
  rw [idxOf_get hn h, start_pick]
  have : 0 ≤ adr k W (used (pick os (met.take p)) : Nat) := by unfold adr; split <;> omega
  omega
theorem take_snoc {met : List Nat} {p j : Nat} (h : met[p]? = some j) : met.take (p + 1) = met.take p ++ [j] := by
  obtain ⟨hp, e⟩ := List.getElem?_eq_some_iff.1 h
  rw [List.take_succ_eq_append_getElem hp, e]
theorem nodup_take {met : List Nat} (hn : met.Nodup) {p j : Nat} (h : met[p]? = some j) : j ∉ met.take p := by
  intro hm
  obtain ⟨q, hq, e⟩ := List.mem_iff_getElem.1 hm
  rw [List.getElem_take] at e
  obtain ⟨hp, e2⟩ := List.getElem?_eq_some_iff.1 h
  rw [List.length_take] at hq
  exact List.pairwise_iff_getElem.1 hn q p (by omega) hp (by omega) (e.trans e2.symm)
/-- what was moved and what was not take no more than all did -/
theorem moved_sum {k W : Nat} {os : List Ob} {met : List Nat} (hf : Fresh os) (ok : Okm os met) (p : Nat) (hp : p ≤ met.length) (ht : ∀ j ∈ met, toK k W os met j ≠ 0) : used (pick os (met.take p)) + resto (oldK k W os met (met.take p)) = used os := by
  induction p with
  | zero => rw [List.take_zero, oldK_nil, resto_fresh os hf]; simp [pick, used]
  | succ p ih =>
    have hg : met[p]? = some (met[p]'(by omega)) := List.getElem?_eq_getElem (by omega)
    obtain ⟨j, hj⟩ : ∃ j, met[p]'(by omega) = j := ⟨_, rfl⟩
    rw [hj] at hg
    have hm := List.mem_of_getElem? hg
    have ho := obAt_get (ok.lt j hm)
    have h1 := ih (by omega)
    have h2 := oldK_get (k := k) (W := W) (met := met) (pre := met.take p) ho
    rw [if_neg (nodup_take ok.nd hg)] at h2
    have h3 := resto_set _ j _ { obAt os j with to := toK k W os met j } h2 (hf _ (List.mem_of_getElem? ho)) (ht j hm)
    rw [oldK_put ho] at h3
    rw [take_snoc hg, pick_snoc, used_append, used_one]
    omega
theorem adr_pos (k W c : Nat) : 1 ≤ adr k W (c : Nat) := by unfold adr; split <;> omega
theorem toK_pos (k W : Nat) (os : List Ob) (met : List Nat) (j : Nat) : toK k W os met j ≠ 0 := by
  unfold toK
  have := adr_pos k W (start (pick os met) (met.idxOf j))
  omega
theorem moved_fits {k W : Nat} {os : List Ob} {met : List Nat} (hf : Fresh os) (ok : Okm os met) {p j : Nat} (h : met[p]? = some j) (hu : used os ≤ W) : used (pick os (met.take p)) + (obAt os j).ws.length + 1 ≤ W := by
  have hp := (List.getElem?_eq_some_iff.1 h).1
  have h1 := moved_sum (k := k) (W := W) hf ok (p + 1) (by omega) (fun _ _ => toK_pos _ _ _ _ _)
  rw [take_snoc h, pick_snoc, used_append, used_one] at h1
  omega
theorem moved_used {W : Nat} {os : List Ob} {met : List Nat} (hf : Fresh os) (ok : Okm os met) (p : Nat) (hu : used os ≤ W) : used (pick os (met.take p)) ≤ W := by
  by_cases hp : p ≤ met.length
  · have h1 := moved_sum (k := 0) (W := W) hf ok p hp (fun _ _ => toK_pos _ _ _ _ _)
    omega
  · have h1 := moved_sum (k := 0) (W := W) hf ok met.length (Nat.le_refl _) (fun _ _ => toK_pos _ _ _ _ _)
    rw [List.take_of_length_le (by omega)]
    rw [List.take_length] at h1
    omega
theorem toK_le' {k W : Nat} {os : List Ob} {met : List Nat} (hf : Fresh os) (ok : Okm os met) (hu : used os ≤ W) (hW : W ≤ 65536) {j : Nat} (hj : j ∈ met) : toK k W os met j ≤ 131072 := by
  obtain ⟨p, hp⟩ := List.getElem?_of_mem hj
  have h1 := toK_at (k := k) (W := W) (os := os) ok.nd hp
  have := moved_fits (k := k) hf ok hp hu
  unfold adr at h1
  split at h1 <;> omega
/-- a memory of which the first p of the objects that were met were moved -/
theorem wf_move {h W : Nat} {os old : List Ob} {met : List Nat} (z : WF W h os old) (ok : Okm os met) (p : Nat) : WF W (1 - h) (pick os (met.take p)) (oldK (1 - h) W os met (met.take p)) := by
  have hh := z.hh
  have hmem : ∀ o ∈ pick os (met.take p), o ∈ os := by
    intro o ho
    obtain ⟨j, hj, rfl⟩ := List.mem_map.1 ho
    exact List.mem_of_getElem? (obAt_get (ok.lt j (List.mem_of_mem_take hj)))
  refine ⟨z.w0, z.w1, by omega, moved_used z.fresh ok p z.un, ?_, fun o ho => z.okn o (hmem o ho), fun o ho => ?_, fun o ho => z.fresh o (hmem o ho)⟩
  · rw [used_congr (sz_oldK _ _ _ _ _)]; exact z.un
  · obtain ⟨j, hj⟩ := List.getElem?_of_mem ho
    have hjl : j < os.length := by
      have := (List.getElem?_eq_some_iff.1 hj).1
      simpa [oldK] using this
    rw [oldK_get (obAt_get hjl)] at hj
    have hok := z.okn _ (List.mem_of_getElem? (obAt_get hjl))
    obtain rfl := Option.some.inj hj
    split
    · rename_i hm
      exact ⟨hok.right, toK_le' z.fresh ok z.un z.w1 (List.mem_of_mem_take hm), hok.word⟩
    · exact hok
/-- a word behind the collection -/
def renW (h W : Nat) (os : List Ob) (met : List Nat) (n : Nat) : Nat := if n % 2 = 1 then n else match objOf os h W n with
  | none => n
  | some j => 2 * toK (1 - h) W os met j
/-- an object of which k words are renewed -/
def renO (h W : Nat) (os : List Ob) (met : List Nat) (o : Ob) (k : Nat) : Ob := { o with ws := (o.ws.take k).map (renW h W os met) ++ o.ws.drop k }
theorem renO_len (h W : Nat) (os : List Ob) (met : List Nat) (o : Ob) (k : Nat) : (renO h W os met o k).ws.length = o.ws.length := by simp [renO]; omega
theorem renO_zero (h W : Nat) (os : List Ob) (met : List Nat) (o : Ob) : renO h W os met o 0 = o := by simp [renO]
theorem renO_get {h W : Nat} {os : List Ob} {met : List Nat} {o : Ob} {k : Nat} (hk : k < o.ws.length) : (renO h W os met o k).ws.getD k 0 = o.ws.getD k 0 := by
  rw [List.getD_eq_getElem?_getD, List.getD_eq_getElem?_getD]
  show (((o.ws.take k).map (renW h W os met) ++ o.ws.drop k)[k]?).getD 0 = _
  rw [List.getElem?_append_right (by simp; omega), List.length_map, List.length_take, Nat.min_eq_left (by omega), Nat.sub_self, List.getElem?_drop]
  rfl
theorem renO_set {h W : Nat} {os : List Ob} {met : List Nat} {o : Ob} {k : Nat} (hk : k < o.ws.length) : ({ renO h W os met o k with ws := (renO h W os met o k).ws.set k (renW h W os met (o.ws.getD k 0)) } : Ob) = renO h W os met o (k + 1) := by
  unfold renO
  simp only [Ob.mk.injEq, true_and, and_true]
  rw [List.set_append_right _ _ (by simp; omega), List.length_map, List.length_take, Nat.min_eq_left (by omega), Nat.sub_self, List.drop_eq_getElem_cons hk, List.set_cons_zero, List.take_succ_eq_append_getElem hk, List.map_append, List.append_assoc]
  rw [List.getD_eq_getElem?_getD, List.getElem?_eq_getElem hk]
  rfl
theorem renO_same {h W : Nat} {os : List Ob} {met : List Nat} {o : Ob} {k : Nat} (hk : k < o.ws.length) (e : renW h W os met (o.ws.getD k 0) = o.ws.getD k 0) : renO h W os met o k = renO h W os met o (k + 1) := by
  rw [← renO_set hk, e, ← renO_get (h := h) (W := W) (os := os) (met := met) hk]
  have hl : k < (renO h W os met o k).ws.length := by rw [renO_len]; exact hk
  have : (renO h W os met o k).ws.set k ((renO h W os met o k).ws.getD k 0) = (renO h W os met o k).ws := by
    rw [List.getD_eq_getElem?_getD, List.getElem?_eq_getElem hl]
    exact List.set_getElem_self hl
  rw [this]
/-- the moved objects of which the first p are renewed -/
def newK (h W : Nat) (os : List Ob) (met : List Nat) (p : Nat) : List Ob := met.mapIdx fun i j => if i < p then renO h W os met (obAt os j) (obAt os j).t else obAt os j
def newF (h W : Nat) (os : List Ob) (met : List Nat) : List Ob := met.map fun j => renO h W os met (obAt os j) (obAt os j).t
theorem newK_zero (h W : Nat) (os : List Ob) (met : List Nat) : newK h W os met 0 = pick os met := by
  unfold newK pick
  apply List.ext_getElem
  · simp
  · intro i h1 h2; simp
theorem newK_end (h W : Nat) (os : List Ob) (met : List Nat) : newK h W os met met.length = newF h W os met := by
  unfold newK newF
  apply List.ext_getElem
  · simp
  · intro i h1 h2
    have : i < met.length := by simpa using h1
    simp [this]
theorem newK_get {h W : Nat} {os : List Ob} {met : List Nat} {p q j : Nat} (hj : met[q]? = some j) (hq : p ≤ q) : (newK h W os met p)[q]? = some (obAt os j) := by
  unfold newK
  rw [List.getElem?_mapIdx, hj]
  simp; omega
theorem newK_put {h W : Nat} {os : List Ob} {met : List Nat} {p j : Nat} (hj : met[p]? = some j) : (newK h W os met p).set p (renO h W os met (obAt os j) (obAt os j).t) = newK h W os met (p + 1) := by
  apply List.ext_getElem?
  intro i
  by_cases e : i = p
  · subst e
    have hl : i < (newK h W os met i).length := by
      have := (List.getElem?_eq_some_iff.1 hj).1
      simpa [newK] using this
    rw [List.getElem?_set_self hl]
    unfold newK
    rw [List.getElem?_mapIdx, hj]
    simp
  · rw [List.getElem?_set_ne (fun q => e q.symm)]
    unfold newK
    rw [List.getElem?_mapIdx, List.getElem?_mapIdx]
    have : i < p ↔ i < p + 1 := by omega
    simp only [this]
theorem sz_newK (h W : Nat) (os : List Ob) (met : List Nat) (p : Nat) : sz (newK h W os met p) = sz (pick os met) := by
  unfold sz newK pick
  apply List.ext_getElem
  · simp
  · intro i h1 h2
    simp only [List.getElem_map, List.getElem_mapIdx]
    split
    · exact renO_len _ _ _ _ _ _
    · rfl
theorem sz_newF (h W : Nat) (os : List Ob) (met : List Nat) : sz (newF h W os met) = sz (pick os met) := by rw [← newK_end]; exact sz_newK _ _ _ _ _
theorem sz_set_ren {h W : Nat} {os : List Ob} {met : List Nat} {p j k : Nat} (hj : met[p]? = some j) : sz ((newK h W os met p).set p (renO h W os met (obAt os j) k)) = sz (pick os met) := by
  rw [← sz_newK h W os met p]
  exact sz_set (newK_get hj (Nat.le_refl _)) (renO_len _ _ _ _ _ _)
/-- a word that is good when met were met -/
def Good (os : List Ob) (h W : Nat) (met : List Nat) (n : Nat) : Prop := n % 2 = 1 ∨ (n % 2 ≠ 1 ∧ ∃ j, objOf os h W n = some j ∧ j ∈ met)
section
variable {os : List Ob} {h W : Nat} {met m : List Nat}
theorem Good.mono {n : Nat} (g : Good os h W met n) (hs : ∀ j ∈ met, j ∈ m) : Good os h W m n := by
  rcases g with a | ⟨a, j, b, c⟩
  · exact .inl a
  · exact .inr ⟨a, j, b, hs j c⟩
theorem meetS_ext {n : Nat} (e : meetS os h W met n = some m) : (∃ r, m = met ++ r) ∧ Good os h W m n := by
  rcases meetS_cases (os := os) (h := h) (W := W) met n with a | ⟨a, b⟩ | ⟨a, j, b, c⟩ | ⟨a, j, b, c⟩
  · rw [meetS_int a] at e; cases e; exact ⟨⟨[], by simp⟩, .inl a⟩
  · rw [meetS_bad a b] at e; cases e
  · rw [meetS_old a b c] at e; cases e; exact ⟨⟨[], by simp⟩, .inr ⟨a, j, b, c⟩⟩
  · rw [meetS_new a b c] at e; cases e; exact ⟨⟨_, rfl⟩, .inr ⟨a, j, b, by simp⟩⟩
theorem ext_sub {r : List Nat} (e : m = met ++ r) : ∀ j ∈ met, j ∈ m := fun j hj => by rw [e]; exact List.mem_append_left _ hj
theorem meetL_ext {ns : List Nat} (e : meetL os h W met ns = some m) : (∃ r, m = met ++ r) ∧ ∀ n ∈ ns, Good os h W m n := by
  induction ns generalizing met with
  | nil => cases e; exact ⟨⟨[], by simp⟩, by simp⟩
  | cons n ns ih =>
    unfold meetL at e
    cases e2 : meetS os h W met n with
    | none => rw [e2] at e; cases e
    | some m2 =>
      rw [e2] at e
      obtain ⟨⟨r, hr⟩, hg⟩ := meetS_ext e2
      obtain ⟨⟨r2, hr2⟩, hg2⟩ := ih e
      refine ⟨⟨r ++ r2, by rw [hr2, hr, List.append_assoc]⟩, fun x hx => ?_⟩
      rcases List.mem_cons.1 hx with q | q
      · rw [q]; exact hg.mono (ext_sub hr2)
      · exact hg2 x q
theorem bfs_ext {f i : Nat} (k : Okm os met) (hf : os.length < f + i) (e : bfs os h W f i met = some m) (hd : ∀ p j, p < i → met[p]? = some j → ∀ n ∈ tagW os j, Good os h W met n) :
    (∃ r, m = met ++ r) ∧ ∀ j ∈ m, ∀ n ∈ tagW os j, Good os h W m n := by
  induction f generalizing i met with
  | zero =>
    cases e
    refine ⟨⟨[], by simp⟩, fun j hj => ?_⟩
    obtain ⟨p, hp⟩ := List.getElem?_of_mem hj
    have h1 := (List.getElem?_eq_some_iff.1 hp).1
    have h2 := k.len
    exact hd p j (by omega) hp
  | succ f ih =>
    unfold bfs at e
    cases e1 : met[i]? with
    | none =>
      rw [e1] at e
      cases e
      refine ⟨⟨[], by simp⟩, fun j hj => ?_⟩
      obtain ⟨p, hp⟩ := List.getElem?_of_mem hj
      have h1 := (List.getElem?_eq_some_iff.1 hp).1
      have h2 := List.getElem?_eq_none_iff.1 e1
      exact hd p j (by omega) hp
    | some j0 =>
      rw [e1] at e
      simp only [] at e
      cases e2 : meetL os h W met (tagW os j0) with
      | none => rw [e2] at e; cases e
      | some m2 =>
        rw [e2] at e
        obtain ⟨⟨r, hr⟩, hg⟩ := meetL_ext e2
        obtain ⟨⟨r2, hr2⟩, hg2⟩ := ih (meetL_okm k e2) (by omega) e (fun p j hp hj n hn => by
          by_cases q : p = i
          · have : met[i]? = some j := by
              rw [hr, q] at hj
              rwa [List.getElem?_append_left (List.getElem?_eq_some_iff.1 e1).1] at hj
            rw [e1] at this
            obtain rfl := Option.some.inj this
            exact hg n hn
          · have hpl : p < met.length := by have := (List.getElem?_eq_some_iff.1 e1).1; omega
            rw [hr, List.getElem?_append_left hpl] at hj
            exact (hd p j (by omega) hj n hn).mono (ext_sub hr))
        exact ⟨⟨r ++ r2, by rw [hr2, hr, List.append_assoc]⟩, hg2⟩
/-- what was reached is closed -/
theorem reach_good {ns : List Nat} (e : reach os h W ns = some m) : (∀ n ∈ ns, Good os h W m n) ∧ ∀ j ∈ m, ∀ n ∈ tagW os j, Good os h W m n := by
  unfold reach at e
  cases e2 : meetL os h W [] ns with
  | none => rw [e2] at e; cases e
  | some m2 =>
    rw [e2] at e
    obtain ⟨_, hg⟩ := meetL_ext e2
    obtain ⟨⟨r, hr⟩, hg2⟩ := bfs_ext (meetL_okm okm_nil e2) (by omega) e (fun p j hp => by omega)
    exact ⟨fun n hn => (hg n hn).mono (ext_sub hr), hg2⟩
theorem renW_int {n : Nat} (a : n % 2 = 1) : renW h W os met n = n := if_pos a
theorem renW_ptr {n j : Nat} (a : n % 2 ≠ 1) (e : objOf os h W n = some j) : renW h W os met n = 2 * toK (1 - h) W os met j := by
  unfold renW; rw [if_neg a, e]
end
end Go.Proofs.Ytjdhjehnofediaa
