/- The contract of the reference's Collect. Conditions: the document's memory lies as RT says; the roots are words outside of it. -/
import Derived.Test.YtjdhjehnofediaaGcRefC
namespace Go.Proofs.Ytjdhjehnofediaa
open Go Go.RowKit
/-- the document's memory since the world w, where it had the blocks O -/
structure RX (w : World) (O : Nat → Prop) (rb W h : Nat) (now old : List Ob) (wr : World) (u1 : Value) (Q1 : List (RO × Value)) (u2 : Value) (Q2 : List (RO × Value)) : Prop where
  t : RT wr rb W h now old u1 Q1 u2 Q2
  own : ∀ i, OwnR rb u1 Q1 u2 Q2 i → O i ∨ w.heap.size ≤ i
  fr : Fr O w wr
section
variable {w wr w1 : World} {O : Nat → Prop} {rb W h : Nat} {now old os : List Ob} {u1 u2 : Value} {Q1 Q2 : List (RO × Value)} {met : List Nat}
theorem RX.kept {X : Nat → Prop} (x : RX w O rb W h now old wr u1 Q1 u2 Q2) (hf : Fr X wr w1) (hX : ∀ i, X i → w.heap.size ≤ i) (hn : ∀ i, OwnR rb u1 Q1 u2 Q2 i → ¬ X i) : RX w O rb W h now old w1 u1 Q1 u2 Q2 :=
  ⟨⟨x.t.r.kept hf hn, x.t.z, x.t.e1, x.t.e2⟩, x.own, x.fr.trans hf (fun i hi => .inr (hX i hi))⟩
theorem ros_fresh {P : List (RO × Value)} (hf : Fresh os) (e : P.map Prod.fst = ros h W os) : (P.map fun p => pT p 0).map Prod.fst = ros h W os := by
  rw [← e, List.map_map]
  apply List.ext_getElem?
  intro i
  rw [List.getElem?_map, List.getElem?_map]
  cases hp : P[i]? with
  | none => rfl
  | some p =>
    have h1 : (ros h W os)[i]? = some p.1 := by rw [← e, List.getElem?_map, hp]; rfl
    have hi : i < os.length := by
      have := (List.getElem?_eq_some_iff.1 h1).1
      rwa [ros_length] at this
    have h2 := ros_get (h := h) (W := W) (List.getElem?_eq_getElem hi)
    rw [h1] at h2
    have h3 := Option.some.inj h2
    have h4 := hf _ (List.getElem_mem hi)
    show some (⟨p.1.at_, p.1.k, p.1.t, p.1.ws, 0⟩ : RO) = some p.1
    rw [h3]
    unfold roOf
    rw [h4]; rfl
end
section
variable {w wr w1 : World} {O : Nat → Prop} {rb W h : Nat} {now old : List Ob} {u1 u2 : Value} {Q1 Q2 : List (RO × Value)} {met : List Nat}
/-- one object is moved -/
theorem RX.move {p : Nat} (x : RX w O rb W (1 - h) (pick now (met.take p)) (oldK (1 - h) W now met (met.take p)) wr u1 Q1 u2 Q2) (z : WF W h now old) (ok : Okm now met) {j : Nat} (hj : met[p]? = some j) :
    Calls Try.prog 58 #[.pointer (some ⟨rb, 0, none⟩), .int .i64 (objA h W now j)] wr fun e w' => e = .returned (.tuple #[.int .i64 ((toK (1 - h) W now met j : Nat) : Int), .int .i64 0]) ∧
      ∃ v' Q1' Q2', RX w O rb W (1 - h) (pick now (met.take (p + 1))) (oldK (1 - h) W now met (met.take (p + 1))) w' v' Q1' u2 Q2' ∧ (∀ i, OwnR rb v' Q1' u2 Q2' i → OwnR rb u1 Q1 u2 Q2 i ∨ wr.heap.size ≤ i) ∧ Fr (OwnR rb u1 Q1 u2 Q2) wr w' := by
  have hjm := List.mem_of_getElem? hj
  have hjl := ok.lt j hjm
  have ho := obAt_get hjl
  have hko : (oldK (1 - h) W now met (met.take p))[j]? = some (obAt now j) := by rw [oldK_get ho, if_neg (nodup_take ok.nd hj)]
  have hto : (obAt now j).to = 0 := z.fresh _ (List.mem_of_getElem? ho)
  have hfit := moved_fits (k := 1 - h) z.fresh ok hj z.un
  obtain ⟨u, hp⟩ := P_get x.t.e2 hko
  have hidx : fidx Q2 (objA h W now j) = some j := by
    rw [P_idx x.t.e2, idxAt_congr (sz_oldK _ _ _ _ _), other2 z.hh]
    exact idxAt_of hjl
  have hA : adr (1 - h) W (usedP Q1) = ((toK (1 - h) W now met j : Nat) : Int) := by rw [P_used x.t.e1, toK_at ok.nd hj]
  refine (rmove_ok x.t.r x.t.rz (objA h W now j) hidx hp (by show ¬ (0 : Int) < ((obAt now j).to : Int); rw [hto]; omega) (by rw [P_used x.t.e1]; exact hfit)).mono ?_
  rintro e w' ⟨rfl, v', un, hr, ho', hf⟩
  rw [hA] at hr ho' ⊢
  refine ⟨rfl, v', _, _, ⟨⟨hr, wf_move z ok (p + 1), ?_, ?_⟩, fun i hi => ?_, ?_⟩, ho', hf⟩
  · rw [List.map_append, x.t.e1, take_snoc hj, pick_snoc, ros_snoc]
    congr 1
    show [_] = [_]
    congr 1
    show (⟨((toK (1 - h) W now met j : Nat) : Int), (obAt now j).k, (obAt now j).t, (obAt now j).ws, ((obAt now j).to : Int)⟩ : RO) = _
    rw [toK_at ok.nd hj]
    rfl
  · rw [List.map_set, x.t.e2, take_snoc hj, ← oldK_put ho, ros_set (o' := ⟨(obAt now j).k, (obAt now j).t, (obAt now j).ws, toK (1 - h) W now met j⟩) hko rfl]
    rfl
  · rcases ho' i hi with q | q
    · exact x.own i q
    · exact .inr (Nat.le_trans x.fr.size q)
  · exact x.fr.trans hf (fun i hi => x.own i hi)
end
section
variable {w wr w1 : World} {O : Nat → Prop} {rb W h : Nat} {now old : List Ob} {u1 u2 : Value} {Q1 Q2 : List (RO × Value)} {met : List Nat}
/-- a field is stored -/
theorem RX.word {p k n g c m : Nat} {o : Ob} {q : RO × Value} (x : RX w O rb W h now old wr u1 Q1 u2 Q2) (ho : now[p]? = some o) (hq : Q1[p]? = some q) (hqu : q.2 = .slice (some ⟨g, 0, none⟩) m c) (hn : n < 18446744073709551616) :
    RX w O rb W h (now.set p { o with ws := o.ws.set k n }) old (wr.setCell ⟨g, k, none⟩ (.int .u64 (n : Int))) u1 (Q1.set p (pW q k n)) u2 Q2 ∧ OwnR rb u1 Q1 u2 Q2 g ∧ (∀ i, OwnR rb u1 (Q1.set p (pW q k n)) u2 Q2 i → OwnR rb u1 Q1 u2 Q2 i) := by
  have hog : OwnL u1 Q1 g := .inr ⟨q, List.mem_of_getElem? hq, by rw [hqu]; rfl⟩
  have hf : Fr (· = g) wr (wr.setCell ⟨g, k, none⟩ (.int .u64 (n : Int))) := (Fr.refl (· = g) wr).setCell (p := ⟨g, k, none⟩) (.inl rfl) _
  have hb : rb ≠ g := fun e => x.t.r.n1 (by rw [e]; exact hog)
  have hOg : OwnR rb u1 Q1 u2 Q2 g := .inr (.inl hog)
  have hsub : ∀ i, OwnR rb u1 (Q1.set p (pW q k n)) u2 Q2 i → OwnR rb u1 Q1 u2 Q2 i := by
    rintro i (a | a | a)
    · exact .inl a
    · exact .inr (.inl (own_set_word hq i a))
    · exact .inr (.inr a)
  have z1 := wf_setF (i := k) x.t.z ho hn
  rw [setF_eq ho] at z1
  have hro : q.1 = roOf (objA h W now p) o := by
    obtain ⟨u, h2⟩ := P_get x.t.e1 ho
    rw [hq] at h2
    rw [Option.some.inj h2]
  refine ⟨⟨⟨⟨(hf.block rb x.t.r.lt hb).trans x.t.r.blk, x.t.r.l1.set_word hq hqu, x.t.r.l2.kept hf (fun i hi e => by subst e; exact x.t.r.n3 i hog hi), fun h => x.t.r.n1 (own_set_word hq _ h), x.t.r.n2, fun i hi => x.t.r.n3 i (own_set_word hq _ hi)⟩, z1, ?_, x.t.e2⟩, fun i hi => x.own i (hsub i hi), x.fr.trans hf (fun i hi => by subst hi; exact x.own i hOg)⟩, hOg, hsub⟩
  rw [List.map_set, x.t.e1, ros_set (o' := { o with ws := o.ws.set k n }) ho (by simp)]
  show (ros h W now).set p { q.1 with ws := q.1.ws.set k n } = _
  rw [hro]
  rfl
end
/-- what the reference's Collect leaves -/
def RCollected (w : World) (rb W h : Nat) (v1 : Value) (P1 : List (RO × Value)) (v2 : Value) (P2 : List (RO × Value)) (now : List Ob) (ns : List Nat) (e : Ending) (w' : World) : Prop :=
  (reach now h W ns = none ∧ e = .returned (.tuple #[.slice none 0 0, .int .i64 40]) ∧ Below w.heap.size w w') ∨
  (∃ met v u1 Q1 u2 Q2, reach now h W ns = some met ∧ e = .returned (.tuple #[v, .int .i64 0]) ∧ RX w (OwnR rb v1 P1 v2 P2) rb W (1 - h) (newF h W now met) (oldK (1 - h) W now met met) w' u1 Q1 u2 Q2 ∧
    w'.ownsRow w.heap.size 56 1 v ns.length (u64s (ns.map (renW h W now met))) ∧ ∀ g, v.ownBlock = some g → ¬ OwnR rb u1 Q1 u2 Q2 g)
/-- how far Collect is: the memory, the addresses that were met, the new ones -/
structure RY (w : World) (O : Nat → Prop) (rb W h : Nat) (now old : List Ob) (wr : World) (u1 : Value) (Q1 : List (RO × Value)) (u2 : Value) (Q2 : List (RO × Value)) (uO : Value) (xs : List Int) (uN : Value) (ys : List Int) : Prop where
  x : RX w O rb W h now old wr u1 Q1 u2 Q2
  ro : wr.ownsRow w.heap.size 3 1 uO xs.length (ints xs)
  rn : wr.ownsRow w.heap.size 3 1 uN ys.length (ints ys)
  ao : ∀ g, uO.ownBlock = some g → ¬ OwnR rb u1 Q1 u2 Q2 g
  an : ∀ g, uN.ownBlock = some g → ¬ OwnR rb u1 Q1 u2 Q2 g ∧ uO.ownBlock ≠ some g
section
variable {w wr w1 : World} {O : Nat → Prop} {rb W h k : Nat} {now old now' old' : List Ob} {u1 u2 uO uN : Value} {Q1 Q2 : List (RO × Value)} {xs ys : List Int} {met : List Nat}
/-- where the memory turns, and nothing else -/
theorem RY.turn {u1' u2' : Value} {Q1' Q2' : List (RO × Value)} (y : RY w O rb W h now old wr u1 Q1 u2 Q2 uO xs uN ys) (x : RX w O rb W h now' old' w1 u1' Q1' u2' Q2') (hs : ∀ i, OwnR rb u1' Q1' u2' Q2' i → OwnR rb u1 Q1 u2 Q2 i ∨ wr.heap.size ≤ i) (hf : Fr (OwnR rb u1 Q1 u2 Q2) wr w1) : RY w O rb W h now' old' w1 u1' Q1' u2' Q2' uO xs uN ys :=
  ⟨x, hf.own y.ro y.ao, hf.own y.rn (fun g hg => (y.an g hg).1), fun g hg q => by
    rcases hs g q with a | a
    · exact y.ao g hg a
    · have := (y.ro.lt g hg).2; omega, fun g hg => ⟨fun q => by
    rcases hs g q with a | a
    · exact (y.an g hg).1 a
    · have := (y.rn.lt g hg).2; omega, (y.an g hg).2⟩⟩
/-- a new address behind the others -/
theorem RY.app {tmp : Obj} {v' : Value} {t : Int} (y : RY w O rb W h now old wr u1 Q1 u2 Q2 uO xs uN ys) (hown : w1.ownsRow w.heap.size 3 1 v' (ys.length + 1) (ints ys ++ [.int .i64 t])) (hg : (wr.alloc tmp).grownBy w1 uN.ownBlock) (hb : v'.ownBlock = uN.ownBlock ∨ v'.ownBlock = some (wr.alloc tmp).heap.size) : RY w O rb W h now old w1 u1 Q1 u2 Q2 uO xs v' (ys ++ [t]) := by
  have f2 : Fr (fun i => uN.ownBlock = some i) wr w1 := Fr.of_grown hg
  refine ⟨y.x.kept f2 (fun i hi => (y.rn.lt i hi).1) (fun i hi q => (y.an i q).1 hi), f2.own y.ro (fun g hg q => (y.an g q).2 hg), ?_, y.ao, fun g hg => ?_⟩
  · rw [List.length_append, ← ints_snoc]; exact hown
  · rcases hb with q | q
    · rw [q] at hg; exact y.an g hg
    · rw [q] at hg
      have := Option.some.inj hg
      refine ⟨fun h1 => ?_, fun h1 => ?_⟩
      · have := y.x.t.r.own_lt g h1; simp at *; omega
      · have := (y.ro.lt g h1).2; simp at *; omega
end
theorem ownL_nilE {i : Nat} (h : OwnL (.slice none 0 0) [] i) : False := by
  rcases h with h | ⟨p, hp, _⟩
  · cases h
  · cases hp
section
variable {w wr w1 : World} {O : Nat → Prop} {rb W h k : Nat} {now old : List Ob} {u1 u2 uO uN v : Value} {Q1 Q2 : List (RO × Value)} {xs ys : List Int} {ws : List Nat}
/-- where a field lies -/
theorem RX.field {p : Nat} {o : Ob} (x : RX w O rb W h now old wr u1 Q1 u2 Q2) (ho : now[p]? = some o) (hk : k < o.ws.length) :
    ∃ g cap g2 c q, u1 = .slice (some ⟨g, 0, none⟩) now.length cap ∧ now.length ≤ cap ∧ cap ≤ 9223372036854775807 ∧ wr.cell? ⟨rb, 2, none⟩ = some u1 ∧ wr.cell? ⟨g, p * 5 + 2, none⟩ = some (.int .i64 (o.t : Int)) ∧
      wr.cell? ⟨g, p * 5 + 3, none⟩ = some (.slice (some ⟨g2, 0, none⟩) o.ws.length c) ∧ o.ws.length ≤ c ∧ c ≤ 9223372036854775807 ∧ wr.cell? ⟨g2, k, none⟩ = some (.int .u64 ((o.ws.getD k 0 : Nat) : Int)) ∧ wr.frozen? ⟨g2, k, none⟩ = false ∧ Q1[p]? = some q ∧ q.2 = .slice (some ⟨g2, 0, none⟩) o.ws.length c := by
  obtain ⟨u, hp⟩ := P_get x.t.e1 ho
  obtain ⟨g, cap, hv, h1, h2, _, hat⟩ := x.t.r.l1.at hp
  rw [P_length x.t.e1] at hv h1
  have hw := x.t.r.l1.ws _ (List.mem_of_getElem? hp)
  obtain ⟨g2, c, e1, e2, e3, e4, e5⟩ := word_at hw hk
  have e1' : u = .slice (some ⟨g2, 0, none⟩) o.ws.length c := e1
  have c3 : wr.cell? ⟨g, p * 5 + 3, none⟩ = some u := hat.c3
  rw [e1'] at c3
  exact ⟨g, cap, g2, c, _, hv, h1, h2, x.t.r.c2, hat.c2, c3, e2, e3, e4, e5, hp, e1'⟩
/-- and the words that are handed back -/
structure RU (w : World) (O : Nat → Prop) (rb W h : Nat) (now old : List Ob) (wr : World) (u1 : Value) (Q1 : List (RO × Value)) (u2 : Value) (Q2 : List (RO × Value)) (uO : Value) (xs : List Int) (uN : Value) (ys : List Int) (v : Value) (ws : List Nat) : Prop where
  y : RY w O rb W h now old wr u1 Q1 u2 Q2 uO xs uN ys
  ru : wr.ownsRow w.heap.size 56 1 v ws.length (u64s ws)
  au : ∀ g, v.ownBlock = some g → ¬ OwnR rb u1 Q1 u2 Q2 g ∧ uO.ownBlock ≠ some g ∧ uN.ownBlock ≠ some g
theorem RU.app {tmp : Obj} {v' : Value} {n : Nat} (y : RU w O rb W h now old wr u1 Q1 u2 Q2 uO xs uN ys v ws) (hown : w1.ownsRow w.heap.size 56 1 v' (ws.length + 1) (u64s ws ++ [.int .u64 (n : Int)])) (hg : (wr.alloc tmp).grownBy w1 v.ownBlock) (hb : v'.ownBlock = v.ownBlock ∨ v'.ownBlock = some (wr.alloc tmp).heap.size) : RU w O rb W h now old w1 u1 Q1 u2 Q2 uO xs uN ys v' (ws ++ [n]) := by
  have f2 : Fr (fun i => v.ownBlock = some i) wr w1 := Fr.of_grown hg
  refine ⟨⟨y.y.x.kept f2 (fun i hi => (y.ru.lt i hi).1) (fun i hi q => (y.au i q).1 hi), f2.own y.y.ro (fun g hg q => (y.au g q).2.1 hg), f2.own y.y.rn (fun g hg q => (y.au g q).2.2 hg), y.y.ao, y.y.an⟩, ?_, fun g hg => ?_⟩
  · rw [List.length_append, ← u64s_snoc]; exact hown
  · rcases hb with q | q
    · rw [q] at hg; exact y.au g hg
    · rw [q] at hg
      have := Option.some.inj hg
      refine ⟨fun h1 => ?_, fun h1 => ?_, fun h1 => ?_⟩
      · have := y.y.x.t.r.own_lt g h1; simp at *; omega
      · have := (y.y.ro.lt g h1).2; simp at *; omega
      · have := (y.y.rn.lt g h1).2; simp at *; omega
end
theorem map_toK {h W : Nat} {now : List Ob} {met : List Nat} {p j : Nat} (hj : met[p]? = some j) : (met.take (p + 1)).map (fun i => ((toK (1 - h) W now met i : Nat) : Int)) = (met.take p).map (fun i => ((toK (1 - h) W now met i : Nat) : Int)) ++ [((toK (1 - h) W now met j : Nat) : Int)] := by
  rw [take_snoc hj, List.map_append]; rfl
theorem newK_length (h W : Nat) (os : List Ob) (met : List Nat) (p : Nat) : (newK h W os met p).length = met.length := by simp [newK]
theorem newK_set0 {h W : Nat} {os : List Ob} {met : List Nat} {p j : Nat} (hj : met[p]? = some j) : (newK h W os met p).set p (renO h W os met (obAt os j) 0) = newK h W os met p := by
  rw [renO_zero]
  have hg := newK_get (h := h) (W := W) (os := os) hj (Nat.le_refl p)
  obtain ⟨hl, e⟩ := List.getElem?_eq_some_iff.1 hg
  rw [← e]
  exact List.set_getElem_self hl
end Go.Proofs.Ytjdhjehnofediaa
