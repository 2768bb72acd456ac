/- Plain mathematics of the reference's Heap: the objects that it makes of a list. Conditions: none. The contract of the reference's Heap. Condition: the list came in as ArgV says. The contract of the reference's Heap. Condition: the list came in as ArgV says. The contract of the statements' known: true. Conditions: none. Plain mathematics: what can be reached behind a collection is all of it, in its order; what is closed holds what can be reached. Conditions: none. A slice of objects, each with a slice of integers, as an argument: opened into what it reads as, and read again behind a call that keeps what was there. Conditions: none. What the statements of gc begin with: a heap, its memory, its roots as words. Conditions: none. -/
import Derived.Test.YtlakfnlkiebpdaaDoorGcTwo
import Derived.Test.YtlakfnlkiebpdaaDoorRmOne
import Derived.Laws.AppendOwnNone
import Derived.Deep.CutRange
import Derived.Deep.CutBlock
import Derived.Test.YtlakfnlkiebpdaaDoorGcThree
import Derived.Test.YtlakfnlkiebpdaaDoorPost
import Derived.Deep.Slices
import Derived.Deep.Fields
import Derived.DataShut
namespace Go.Proofs.YtlakfnlkiebpdaaDoor
open Go Go.RowKit
/-- an object's kind, how many fields, its fields, its tagged ones, as Heap makes them -/
def hK (o : O4) : Int := 1 + o.k % 5
def hN0 (o : O4) : Nat := min o.fs.length 12
def hN1 (o : O4) : Nat := if hK o = 2 ∧ 1 < hN0 o then 1 else hN0 o
def hF (o : O4) : List Int := if hN1 o = 0 then [-1] else o.fs.take (hN1 o)
def hT (o : O4) : Int := if hK o = 4 then 0 else if hK o = 5 then o.t % ((hF o).length + 1 : Nat) else (hF o).length
def hO (o : O4) : O4 := ⟨hK o, hT o, hF o, o.bd⟩
/-- the objects -/
def heapL (rs : List O4) (k : Nat) : List O4 := (rs.take k).map hO
def heapO (rs : List O4) : List O4 := heapL rs 40
/-- how many words -/
def heapW (rs : List O4) : Nat := 63 + addr4 (heapO rs) (heapO rs).length
theorem hN1_le (o : O4) : hN1 o ≤ o.fs.length ∧ hN1 o ≤ 12 := by
  unfold hN1 hN0
  split <;> omega
theorem hF_len (o : O4) : (hF o).length = if hN1 o = 0 then 1 else hN1 o := by
  have := (hN1_le o).1
  unfold hF
  split
  · rfl
  · rw [List.length_take]; omega
theorem hF_bd (o : O4) : 1 ≤ (hF o).length ∧ (hF o).length ≤ 12 := by
  have := (hN1_le o).2
  rw [hF_len]
  split <;> omega
theorem hK_bd (o : O4) : 1 ≤ hK o ∧ hK o ≤ 5 := by unfold hK; omega
theorem heapL_zero (rs : List O4) : heapL rs 0 = [] := rfl
theorem heapL_succ {rs : List O4} {k : Nat} {o : O4} (h : rs[k]? = some o) : heapL rs (k + 1) = heapL rs k ++ [hO o] := by
  obtain ⟨hk, e⟩ := List.getElem?_eq_some_iff.1 h
  unfold heapL
  rw [List.take_succ_eq_append_getElem hk, List.map_append, e]
  rfl
theorem heapL_length {rs : List O4} {k : Nat} (h : k ≤ rs.length) : (heapL rs k).length = k := by simp [heapL]; omega
theorem heapL_end {rs : List O4} {k : Nat} (h : rs.length ≤ 40) (hk : k = rs.length) : heapL rs k = heapO rs := by
  unfold heapO heapL
  rw [List.take_of_length_le (by omega), List.take_of_length_le h]
theorem addr4_all (os : List O4) : addr4 os os.length = 1 + (os.map fun o => 1 + o.fs.length).sum := by unfold addr4; rw [List.take_length]
theorem heapL_words {rs : List O4} {k : Nat} {o : O4} (h : rs[k]? = some o) : addr4 (heapL rs (k + 1)) (heapL rs (k + 1)).length = addr4 (heapL rs k) (heapL rs k).length + 1 + (hF o).length := by
  rw [heapL_succ h, addr4_all, addr4_all, List.map_append, List.sum_append]
  simp [hO]
  omega
theorem heapL_le (rs : List O4) (k : Nat) : addr4 (heapL rs k) (heapL rs k).length ≤ 1 + k * 13 := by
  have h1 : ∀ o ∈ heapL rs k, o.fs.length ≤ 12 := by
    intro o ho
    obtain ⟨r, _, rfl⟩ := List.mem_map.1 ho
    exact (hF_bd r).2
  have h2 := addr4_le h1 _ (Nat.le_refl _)
  have h3 : (heapL rs k).length ≤ k := by simp [heapL]; omega
  omega
theorem heapO_short (rs : List O4) : ∀ o ∈ heapO rs, o.fs.length ≤ 12 := by
  intro o ho
  obtain ⟨r, _, rfl⟩ := List.mem_map.1 ho
  exact (hF_bd r).2
theorem heapO_few (rs : List O4) : (heapO rs).length ≤ 40 := by simp [heapO, heapL]; omega
/-- what a list that came in is -/
structure In4 (rs : List O4) : Prop where
  rng : ∀ o ∈ rs, ∀ x ∈ o.fs, -9223372036854775808 ≤ x ∧ x ≤ 9223372036854775807
theorem heapR {rs : List O4} (r : In4 rs) : HeapR (heapO rs) (heapW rs) := by
  refine ⟨fun o ho => ?_, rfl, fun o ho x hx => ?_⟩
  · obtain ⟨q, _, rfl⟩ := List.mem_map.1 ho
    have h1 := hK_bd q
    have h2 := hF_bd q
    have h3 : hK q = 2 → (hF q).length = 1 := by
      intro h
      have : hN1 q ≤ 1 := by
        unfold hN1
        split
        · omega
        · have : ¬ (1 < hN0 q) := fun e => by rename_i hn; exact hn ⟨h, e⟩
          omega
      rw [hF_len]
      split <;> omega
    have h4 : 0 ≤ hT q ∧ hT q ≤ (hF q).length ∧ (hK q = 4 → hT q = 0) ∧ (hK q ≠ 4 → hK q ≠ 5 → hT q = (hF q).length) := by
      unfold hT
      have e1 := Int.emod_nonneg q.t (show (((hF q).length + 1 : Nat) : Int) ≠ 0 by omega)
      have e2 := Int.emod_lt_of_pos q.t (show (0 : Int) < (((hF q).length + 1 : Nat) : Int) by omega)
      split
      · omega
      · split
        · refine ⟨e1, by omega, by omega, by omega⟩
        · omega
    refine ⟨by show 0 ≤ hK q; omega, h4.1, right_yes ?_⟩
    show (0 : Int) ≤ ((hF q).length : Int) ∧ ((hF q).length : Int) ≤ 16384 ∧ 0 ≤ hT q ∧ hT q ≤ ((hF q).length : Int) ∧ ((hK q = 1 ∨ hK q = 3) ∧ 1 ≤ ((hF q).length : Int) ∧ hT q = ((hF q).length : Int) ∨ hK q = 2 ∧ ((hF q).length : Int) = 1 ∧ hT q = 1 ∨ hK q = 4 ∧ 1 ≤ ((hF q).length : Int) ∧ hT q = 0 ∨ hK q = 5)
    obtain ⟨a, b, c, d⟩ := h4
    refine ⟨by omega, by omega, a, b, ?_⟩
    have hk : hK q = 1 ∨ hK q = 2 ∨ hK q = 3 ∨ hK q = 4 ∨ hK q = 5 := by omega
    rcases hk with e | e | e | e | e
    · exact .inl ⟨.inl e, by omega, d (by omega) (by omega)⟩
    · have := d (by omega) (by omega)
      have := h3 e
      exact .inr (.inl ⟨e, by omega, by omega⟩)
    · exact .inl ⟨.inr e, by omega, d (by omega) (by omega)⟩
    · exact .inr (.inr (.inl ⟨e, by omega, c e⟩))
    · exact .inr (.inr (.inr e))
  · obtain ⟨q, hq, rfl⟩ := List.mem_map.1 ho
    have hx' : x ∈ hF q := hx
    unfold hF at hx'
    split at hx'
    · obtain rfl := List.mem_singleton.1 hx'
      omega
    · exact r.rng q (List.mem_of_mem_take hq) x (List.mem_of_mem_take hx')
end Go.Proofs.YtlakfnlkiebpdaaDoor
namespace Go.Proofs.YtlakfnlkiebpdaaDoor
open Go Go.RowKit
/-- a list of objects as it came in -/
structure ArgV (w : World) (a : Option Addr) (N : Nat) (rs : List O4) : Prop where
  len : rs.length = N
  few : (N : Int) ≤ 9223372036854775807
  at_ : ∀ (i : Nat) (o : O4), rs[i]? = some o → ∃ g off fa fc, a = some ⟨g, off, none⟩ ∧ g < w.heap.size ∧ w.cell? ⟨g, off + i * 4, none⟩ = some (.int .i64 o.k) ∧ w.cell? ⟨g, off + i * 4 + 1, none⟩ = some (.int .i64 o.t) ∧ w.cell? ⟨g, off + i * 4 + 2, none⟩ = some (.slice fa o.fs.length fc) ∧ w.cell? ⟨g, off + i * 4 + 3, none⟩ = some (.int .i64 o.bd) ∧ o.fs.length ≤ fc ∧ fc ≤ 9223372036854775807 ∧ (fa = none → fc = 0) ∧
    ∀ (f : Nat) (x : Int), o.fs[f]? = some x → ∃ fg fo, fa = some ⟨fg, fo, none⟩ ∧ fg < w.heap.size ∧ w.cell? ⟨fg, fo + f, none⟩ = some (.int .i64 x)
  rng : In4 rs
theorem ArgV.below {w w1 : World} {a : Option Addr} {N : Nat} {rs : List O4} (h : ArgV w a N rs) (hb : Below w.heap.size w w1) : ArgV w1 a N rs := by
  refine ⟨h.len, h.few, fun i o hi => ?_, h.rng⟩
  obtain ⟨g, off, fa, fc, h1, h2, h3, h4, h5, h6, k1, k2, k3, h7⟩ := h.at_ i o hi
  have hs := hb.size
  have hc : ∀ (q : Nat) (u : Value), w.cell? ⟨g, q, none⟩ = some u → w1.cell? ⟨g, q, none⟩ = some u := fun q u hu => (World.cell?_of_block (hb.block g h2)).trans hu
  refine ⟨g, off, fa, fc, h1, by omega, hc _ _ h3, hc _ _ h4, hc _ _ h5, hc _ _ h6, k1, k2, k3, fun f x hx => ?_⟩
  obtain ⟨fg, fo, e1, e2, e3⟩ := h7 f x hx
  exact ⟨fg, fo, e1, by omega, (World.cell?_of_block (hb.block fg e2)).trans e3⟩
def oCells (o : O4) (u : Value) : List Value := [.int .i64 o.k, .int .i64 o.t, u, .int .i64 o.bd]
def cells4 (Q : List (O4 × Value)) : List Value := Q.flatMap fun p => oCells p.1 p.2
theorem cells4_cons (p : O4 × Value) (Q : List (O4 × Value)) : cells4 (p :: Q) = oCells p.1 p.2 ++ cells4 Q := rfl
theorem cells4_length (Q : List (O4 × Value)) : (cells4 Q).length = Q.length * 4 := by
  induction Q with
  | nil => rfl
  | cons p Q ih => rw [cells4_cons, List.length_append, ih]; simp [oCells]; omega
theorem cells4_snoc (Q : List (O4 × Value)) (p : O4 × Value) : cells4 (Q ++ [p]) = cells4 Q ++ oCells p.1 p.2 := by simp [cells4]
theorem cells4_get {Q : List (O4 × Value)} {p : O4 × Value} (i : Nat) (hi : i < 4) : ∀ {j : Nat}, Q[j]? = some p → (cells4 Q)[j * 4 + i]? = (oCells p.1 p.2)[i]? := by
  induction Q with
  | nil => intro j h; simp at h
  | cons q Q ih =>
    intro j h
    rw [cells4_cons]
    cases j with
    | zero =>
      rw [List.getElem?_cons_zero] at h
      obtain rfl := Option.some.inj h
      rw [List.getElem?_append_left (by simp [oCells]; omega), Nat.zero_mul, Nat.zero_add]
    | succ j =>
      rw [List.getElem?_cons_succ] at h
      rw [List.getElem?_append_right (by simp [oCells]; omega), ← ih h]
      congr 1
      simp [oCells]; omega
/-- the heap in the making -/
structure HP (w : World) (v : Value) (Q : List (O4 × Value)) (wr : World) : Prop where
  row : wr.ownsRow w.heap.size 97 4 v Q.length (cells4 Q)
  fs : ∀ p ∈ Q, wr.ownsRow w.heap.size 3 1 p.2 p.1.fs.length (ints p.1.fs)
  base : Below w.heap.size w wr
section
variable {w wr w1 : World} {v : Value} {Q : List (O4 × Value)}
theorem own4 {O : Nat → Prop} {B : Nat} (hf : Fr O w w1) {e : TypeId} {n s : Nat} {xs : List Value} (hr : w.ownsRow B e s v n xs) (hn : ∀ g, v.ownBlock = some g → ¬ O g) : w1.ownsRow B e s v n xs := by
  refine ⟨hr.1, ?_⟩
  rcases hr.2 with h0 | ⟨g, cap, cur, rfl, hb, hg, rest⟩
  · exact .inl h0
  · exact .inr ⟨g, cap, cur, rfl, hb, (hf.block g (Array.getElem?_eq_some_iff.1 hg).1 (hn g rfl)).trans hg, rest⟩
theorem HP.nil (w : World) : HP w (.slice none 0 0) [] w := ⟨World.ownsRow_nil _ _ _ _, by simp, Below.refl _ _⟩
theorem HP.below (h : HP w v Q wr) (hb : Below wr.heap.size wr w1) : HP w v Q w1 :=
  ⟨own4 (Fr.of_below (O := fun _ => False) hb) h.row (fun _ _ => id), fun p hp => own4 (Fr.of_below (O := fun _ => False) hb) (h.fs p hp) (fun _ _ => id), h.base.trans (hb.mono h.base.size)⟩
theorem own_apart {B B' : Nat} {e e' : TypeId} {n n' s s' : Nat} {xs xs' : List Value} {u : Value} (h : w.ownsRow B e s v n xs) (h' : w.ownsRow B' e' s' u n' xs') (hne : e ≠ e') : ∀ g, u.ownBlock = some g → ¬ v.ownBlock = some g := by
  intro g hg hv
  rcases h.2 with ⟨rfl, _⟩ | ⟨g1, _, _, rfl, _, hk, _⟩
  · cases hv
  · rcases h'.2 with ⟨rfl, _⟩ | ⟨g2, _, _, rfl, _, hk', _⟩
    · cases hg
    · obtain rfl : g1 = g := by simpa [Value.ownBlock] using hv
      obtain rfl : g2 = g1 := by simpa [Value.ownBlock] using hg
      rw [hk] at hk'
      injection hk' with hk'
      injection hk' with _ h3 _
      exact hne h3
theorem HP.push (h : HP w v Q wr) {o : O4} {u v' : Value} {tmp : Obj} (hu : wr.ownsRow w.heap.size 3 1 u o.fs.length (ints o.fs)) (hown : w1.ownsRow w.heap.size 97 4 v' (Q.length + 1) (cells4 Q ++ oCells o u)) (hg : (wr.alloc tmp).grownBy w1 v.ownBlock) : HP w v' (Q ++ [(o, u)]) w1 := by
  have hf : Fr (fun i => v.ownBlock = some i) wr w1 := ((Fr.refl _ wr).alloc tmp).grown hg (fun _ hk => .inl hk)
  refine ⟨?_, fun p hp => ?_, ?_⟩
  · rw [List.length_append, List.length_singleton, cells4_snoc]; exact hown
  · rcases List.mem_append.1 hp with e | e
    · exact own4 hf (h.fs p e) (own_apart h.row (h.fs p e) (by decide))
    · rw [List.mem_singleton.1 e]
      exact own4 hf hu (own_apart h.row hu (by decide))
  · exact h.base.trans (hf.below h.base.size (fun i hi => (h.row.lt i hi).1))
theorem HP.obsV (h : HP w v Q wr) {os : List O4} (e : Q.map Prod.fst = os) (hf : os.length ≤ 40) (hs : ∀ o ∈ os, o.fs.length ≤ 12) : ∃ a c, v = .slice a os.length c ∧ ObsV wr a os.length os := by
  have hl : Q.length = os.length := by rw [← e]; simp
  obtain ⟨a, c, rfl, _, _⟩ : ∃ a c, v = .slice a Q.length c ∧ Q.length ≤ c ∧ True := by
    rcases h.row.2 with ⟨hv, h0⟩ | ⟨g, cap, cur, hv, _, _, h1, _⟩
    · exact ⟨none, 0, by rw [hv, h0], by omega, trivial⟩
    · exact ⟨_, cap, hv, h1, trivial⟩
  rw [hl]
  refine ⟨a, c, rfl, rfl, hf, hs, fun i o hi => ?_⟩
  rw [← e, List.getElem?_map] at hi
  cases hq : Q[i]? with
  | none => rw [hq] at hi; cases hi
  | some p =>
    rw [hq] at hi
    obtain rfl : p.1 = o := Option.some.inj hi
    have hil := (List.getElem?_eq_some_iff.1 hq).1
    have ho := h.row
    rcases h.row.2 with ⟨hv, h0⟩ | ⟨g, cap, cur, hv, _, hgk, _⟩
    · omega
    · injection hv with e1 _ _
      subst e1
      have hc : ∀ q, q < 4 → wr.cell? ⟨g, i * 4 + q, none⟩ = (oCells p.1 p.2)[q]? := fun q hq4 => by
        rw [ho.cellAt _ (by omega), cells4_get q hq4 hq]
      have hu := h.fs p (List.mem_of_getElem? hq)
      obtain ⟨fa, fc, hpv, _, _, hcf⟩ := rowI hu
      refine ⟨g, 0, fa, fc, rfl, (Array.getElem?_eq_some_iff.1 hgk).1, ?_, ?_, ?_, ?_, fun f x hx => ?_⟩
      · rw [Nat.zero_add]; exact hc 0 (by decide)
      · rw [Nat.zero_add]; exact hc 1 (by decide)
      · rw [Nat.zero_add, ← hpv]; exact hc 2 (by decide)
      · rw [Nat.zero_add]; exact hc 3 (by decide)
      · obtain ⟨fg, e1, e2, e3, _⟩ := hcf f x hx
        exact ⟨fg, 0, e1, e2, by rw [Nat.zero_add]; exact e3⟩
end
/-- an append of what some cells hold, be there any or none, to a row of the call's own -/
theorem wpList_append_opt {P : Program} {w : World} {ops : Array Oper} {rest : List Oper} {o : Oper} {a : Act} {Q : Exit → Act → World → Prop} (hgd : o.guard = none) (s x : Operand) (t : TypeId)
    (ho : o.op = .call { callee := .builtin .append, args := #[s, x], argTypes := #[t, t] })
    (base : Nat) (e : TypeId) (i : TypeInfo) (z : Value) (bytes : Nat) (ht : P.underlying t = some (.slice e)) (hi : P.info? e = some i) (hz : i.zero = some z)
    (hsize : i.size = 1) (hby : i.bytes = bytes) (hzs : z.cells.size = 1)
    (v : Value) (n : Nat) (xs : List Value) (hs : a.eval s = v) (hown : w.ownsRow base e 1 v n xs)
    (fa : Option Addr) (m c : Nat) (news : List Value) (hx : a.eval x = .slice fa m c) (hno : fa = none → c = 0 ∧ m = 0) (hl : news.length = m) (hnews : ∀ j u, news[j]? = some u → ∃ ad, fa = some ad ∧ w.cell? (ad.add j) = some u) (h1 : ∀ y ∈ news, y.oneCell' = true)
    (h63 : n + m ≤ maxLen) (hbytes : (n + m) * bytes ≤ 140737488355328) (hbase : base ≤ w.heap.size)
    (h : ∀ v' w', w'.ownsRow base e 1 v' (n + m) (xs ++ news) → w.grownBy w' v.ownBlock → (v'.ownBlock = v.ownBlock ∨ v'.ownBlock = some w.heap.size) → wpList P ops Q rest (a.put o.dst v') w') :
    wpList P ops Q (o :: rest) a w := by
  cases fa with
  | none =>
    obtain ⟨rfl, rfl⟩ := hno rfl
    have hn : news = [] := List.eq_nil_of_length_eq_zero hl
    subst hn
    exact wpList_append_own_none hgd s x t ho base e i 1 ht hi v n xs hs hown hx (h v w (by simpa using hown) (World.grownBy.refl w _) (.inl rfl))
  | some ad =>
    exact wpList_append_own_at w hgd s x t ho base e i z 1 bytes ht hi hz hsize hby hzs (by decide) v n xs hs hown ad m c news hx (by rw [hl, Nat.mul_one]) (fun j u hu => by
      obtain ⟨ad', e1, e2⟩ := hnews j u hu
      rw [Option.some.inj e1]; exact e2) h1 h63 hbytes hbase (fun v' w' p q _ r => h v' w' p q r)
theorem plain_add (b o j : Nat) : (⟨b, o, none⟩ : Addr).add j = ⟨b, o + j, none⟩ := by unfold Addr.add; split <;> simp_all
theorem sl_to (A : Option Addr) (L c m : Nat) (hm : m ≤ c) (W : World) : (Instr.sliceAt 95 (.slice A L c) none (some (.int .i64 (m : Int))) none).run Tryd.prog W = .ok (.slice A m c) W := by
  have hs : (sizeOf 3).run Tryd.prog W = .ok 1 W := by kernel_rfl
  have he : Tryd.prog.elem 95 = 3 := by kernel_rfl
  have h1 := run_sliceAt_slice (P := Tryd.prog) (w := W) 95 (.slice A L c) none (some (.int .i64 (m : Int))) none (by rw [he]; exact Tryd.underlying95)
  have h2 := run_slice_h (P := Tryd.prog) (w := W) 95 A L c (by rw [he]; exact Tryd.underlying95) .i64 (m : Int) (by omega) (by omega)
  rw [h1, h2, he, hs]
  have ha : ∀ ad : Addr, ad.add 0 = ad := fun ad => by
    obtain ⟨b, o, sp⟩ := ad
    cases sp <;> simp [Addr.add]
  have hA : A.map (fun x => x.add 0) = A := by cases A <;> simp [ha]
  simp [sliced, hA]
theorem own_single (w : World) (t : TypeId) (x : Value) : (w.alloc (.cells #[x] t)).ownsRow w.heap.size t 1 (.slice (some ⟨w.heap.size, 0, none⟩) 1 1) 1 [x] :=
  ⟨by simp, .inr ⟨w.heap.size, 1, #[x], rfl, Nat.le_refl _, heap_alloc_new w _, Nat.le_refl _, by simp [maxLen], by simp, by simp⟩⟩
/-- the fields of an object in the making are laid -/
theorem fields_laid {w3 w5 : World} {ob B n : Nat} {K t bd : Int} {u0 v5 : Value} {xs : List Value} {tmp : Obj} (hB : w3.heap.size = B) (hblk : w3.heap[ob]? = some (.cells #[.int .i64 K, .int .i64 t, u0, .int .i64 bd] 97 (0, 0)))
    (hown : w5.ownsRow B 3 1 v5 n xs) (hg : (w3.alloc tmp).grownBy w5 (some B)) :
    w5.heap[ob]? = some (.cells #[.int .i64 K, .int .i64 t, u0, .int .i64 bd] 97 (0, 0)) ∧ (w5.setCell ⟨ob, 2, none⟩ v5).heap[ob]? = some (.cells #[.int .i64 K, .int .i64 t, v5, .int .i64 bd] 97 (0, 0)) ∧ (w5.setCell ⟨ob, 2, none⟩ v5).ownsRow B 3 1 v5 n xs ∧ Fr (· = ob) w3 (w5.setCell ⟨ob, 2, none⟩ v5) := by
  subst hB
  have hlt : ob < w3.heap.size := (Array.getElem?_eq_some_iff.1 hblk).1
  have hb : w5.heap[ob]? = _ := (hg.block ob (by simp; omega) (fun e => by have := Option.some.inj e; omega)).trans ((Below.heap_alloc _ tmp ob hlt).trans hblk)
  refine ⟨hb, blk_set hb 2 v5, ?_, (((Fr.refl (· = ob) w3).alloc tmp).grown hg (fun k hk => .inr (by have := Option.some.inj hk; omega))).setCell (p := ⟨ob, 2, none⟩) (.inl rfl) _⟩
  refine own4 ((Fr.refl (· = ob) w5).setCell (p := ⟨ob, 2, none⟩) (.inl rfl) v5) hown (fun g hg' e => ?_)
  have := (hown.lt g hg').1
  omega
theorem own_apart2 {w : World} {ob B n : Nat} {cs : Array Value} {v : Value} {xs : List Value} (h : w.heap[ob]? = some (.cells cs 97 (0, 0))) (h' : w.ownsRow B 3 1 v n xs) : ∀ g, v.ownBlock = some g → ¬ g = ob := by
  intro g hg e
  rcases h'.2 with ⟨rfl, _⟩ | ⟨g2, _, _, rfl, _, hk', _⟩
  · cases hg
  · obtain rfl : g2 = g := by simpa [Value.ownBlock] using hg
    rw [e, h] at hk'
    injection hk' with hk'
    injection hk' with _ h3 _
    exact absurd h3 (by decide)
theorem cells4_at (w : World) (a b c d : Value) (t : TypeId) : ∀ j u, [a, b, c, d][j]? = some u → (w.alloc (.cells #[a, b, c, d] t)).cell? ((⟨w.heap.size, 0, none⟩ : Addr).add j) = some u := by
  intro j u hu
  have hadd : (⟨w.heap.size, 0, none⟩ : Addr).add j = ⟨w.heap.size, j, none⟩ := by unfold Addr.add; split <;> simp_all
  rw [hadd, cell_of_row _ _ j _ t (0, 0) (heap_alloc_new w _)]
  simpa using hu
theorem oc_one {o : O4} {u : Value} (hu : u.oneCell' = true) : ∀ v ∈ oCells o u, v.oneCell' = true := by
  intro v hv
  simp [oCells] at hv
  rcases hv with rfl | rfl | rfl | rfl
  · rfl
  · rfl
  · exact hu
  · rfl
end Go.Proofs.YtlakfnlkiebpdaaDoor
namespace Go.Proofs.YtlakfnlkiebpdaaDoor
open Go Go.RowKit
theorem infoObj4 : (Tryd.prog.info? 97).map (fun i => (i.zero, i.size, i.bytes)) = some (some (.agg #[.int .i64 0, .int .i64 0, .slice none 0 0, .int .i64 0]), 4, 48) := by kernel_rfl
theorem infoInt4 : (Tryd.prog.info? 3).map (fun i => (i.zero, i.size, i.bytes)) = some (some (.int .i64 0), 1, 8) := by kernel_rfl
set_option maxRecDepth 100000 in
set_option maxHeartbeats 8000000 in
theorem heap_any {w : World} {a : Option Addr} {N c : Nat} {rs : List O4} (hv : ArgV w a N rs) :
    Calls Tryd.prog 25 #[.slice a N c] w fun e w' => ∃ a' c', e = .returned (.tuple #[.slice a' (heapO rs).length c', .int .i64 (heapW rs : Nat)]) ∧ ObsV w' a' (heapO rs).length (heapO rs) ∧ Below w.heap.size w w' := by
  obtain ⟨i0, hi, hz0, hz1, hz2⟩ := info_parts infoInt4
  obtain ⟨i4, hi4, hy0, hy1, hy2⟩ := info_parts infoObj4
  have hl := hv.len
  have hfew := hv.few
  have HV := Lib.hid hv
  clear hv
  go_enter Tryd.func25, Tryd.ntmps25
  go_wp2_with fail
  go_loopw [4, 5, 6] (fun o n i wr => ∃ (k : Nat) (Q : List (O4 × Value)), k ≤ N ∧ k ≤ 40 ∧ i = .int .i64 k ∧ n = .int .i64 ((63 + addr4 (heapL rs k) (heapL rs k).length : Nat) : Int) ∧ HP w o Q wr ∧ Q.map Prod.fst = heapL rs k) (fun _ _ i _ => 40 - (intOf i).toNat)
  case atStart => exact ⟨0, [], Nat.zero_le _, Nat.zero_le _, rfl, rfl, HP.nil w, rfl⟩
  case round =>
    obtain ⟨k, Q, hk, hk40, rfl, rfl, hp, hq⟩ := hrel
    by_cases hlt : k < N
    · by_cases hlt2 : k < 40
      · obtain ⟨o, ho⟩ : ∃ o, rs[k]? = some o := ⟨_, List.getElem?_eq_getElem (by omega)⟩
        obtain ⟨g, off, fa, fc, ha, hg, c0, c1, c2, c3, hfc1, hfc2, hfn, hcell⟩ := HV.out.at_ k o ho
        subst ha
        have cc : ∀ (q : Nat) (u : Value), w.cell? ⟨g, q, none⟩ = some u → wr.cell? ⟨g, q, none⟩ = some u := fun q u hu => (World.cell?_of_block (hp.base.block g hg)).trans hu
        have d0 := cc _ _ c0
        have d1 := cc _ _ c1
        have d2 := cc _ _ c2
        have d3 := cc _ _ c3
        have HA := Lib.hid (fun W1 => among_is o.k 5 (by decide) (by decide) W1)
        have HCE := Lib.hid (fun (W1 : World) (hb : Below wr.heap.size wr W1) (f : Nat) (x : Int) (hx : o.fs[f]? = some x) => (show ∃ fg fo, fa = some ⟨fg, fo, none⟩ ∧ W1.cell? ⟨fg, fo + f, none⟩ = some (.int .i64 x) from by
          obtain ⟨fg, fo, e1, e2, e3⟩ := hcell f x hx
          have hs := hp.base.size
          exact ⟨fg, fo, e1, (World.cell?_of_block (hb.block fg (by omega))).trans ((World.cell?_of_block (hp.base.block fg e2)).trans e3)⟩))
        have hlen : Q.length = k := by
          have := congrArg List.length hq
          rw [List.length_map, heapL_length (by omega)] at this
          exact this
        have HLEN := Lib.hid hlen
        obtain ⟨a4, k4, hv4, hk1, hk2⟩ : ∃ a cap, u4 = .slice a k cap ∧ k ≤ cap ∧ cap ≤ 9223372036854775807 := by
          rcases hp.row.2 with ⟨hv, h0⟩ | ⟨g, cap, cur, hv, _, _, h1, h2, _⟩
          · exact ⟨none, 0, by rw [hv, ← hlen, h0], by omega, by omega⟩
          · exact ⟨_, cap, by rw [hv, hlen], by omega, by simpa [maxLen] using h2⟩
        subst hv4
        have HPp := Lib.hid hp
        have HQ := Lib.hid hq
        have HO := Lib.hid ho
        have hNle := hN1_le o
        obtain ⟨L, hL⟩ : ∃ L, o.fs.length = L := ⟨_, rfl⟩
        have HL := Lib.hid hL
        obtain ⟨K, hKe⟩ : ∃ K, 1 + o.k % 5 = K := ⟨_, rfl⟩
        have hKb : 1 ≤ K ∧ K ≤ 5 := by omega
        have HK := Lib.hid (show hK o = K from hKe)
        have hn1 : hN1 o = if K = 2 ∧ 1 < min L 12 then 1 else min L 12 := by rw [← hKe, ← hL]; rfl
        rw [hL] at d2 hfc1 hNle
        have hki : (k : Int) < N := by omega
        have hk0 : (0 : Int) ≤ k := by omega
        have hk5 : (k : Int) < 40 := by omega
        obtain ⟨t, ht⟩ : ∃ t, o.t = t := ⟨_, rfl⟩
        obtain ⟨bd, hbd⟩ : ∃ bd, o.bd = bd := ⟨_, rfl⟩
        obtain ⟨m, hm⟩ : ∃ m, hN1 o = m := ⟨_, rfl⟩
        have HT := Lib.hid ht
        have HBD := Lib.hid hbd
        have HM := Lib.hid hm
        rw [ht] at d1
        rw [hbd] at d3
        rw [hm] at hn1 hNle
        have HFN := Lib.hid hfn
        clear hp hq ho hcell hlen c0 c1 c2 c3 cc hL hg ht hbd hm hfn
        go_wp2_with fail
        refine (HA.out _).mono ?_
        rintro e w1 ⟨rfl, hw⟩
        subst w1
        have hkn0 : 0 ≤ o.k % 5 := by omega
        have hkn1 : o.k % 5 ≤ 4 := by omega
        obtain ⟨r5, hr5⟩ : ∃ r5, o.k % 5 = r5 := ⟨_, rfl⟩
        rw [hr5] at hkn0 hkn1 hKe ⊢
        obtain ⟨wo, hwo⟩ : ∃ wo, wr.alloc (.cells #[.int .i64 K, .int .i64 t, .slice fa L fc, .int .i64 bd] 97) = wo := ⟨_, rfl⟩
        have hwoc : wo.heap[wr.heap.size]? = some (.cells #[.int .i64 K, .int .i64 t, .slice fa L fc, .int .i64 bd] 97 (0, 0)) := by rw [← hwo]; exact heap_alloc_new wr _
        have hwob : Below wr.heap.size wr wo := by rw [← hwo]; exact (Below.refl _ wr).alloc (Nat.le_refl _) _
        have HWC := Lib.hid hwoc
        have HWB := Lib.hid hwob
        have HWO := Lib.hid hwo
        clear hwo hwoc hwob
        go_upto_if 32 with fail
        rw [HWO.out]
        have y0 := blk_cell HWC.out 0
        obtain ⟨m0, hm0⟩ : ∃ m0, min L 12 = m0 := ⟨_, rfl⟩
        rw [hm0] at hn1
        go_cut [8] from 9 to 73 (fun n wx => n = .int .i64 (m0 : Int) ∧ wx = wo)
        case first =>
          by_cases h12 : 12 < L
          · have h12i : decide ((12 : Int) < L) = true := decide_eq_true (by omega)
            have e0 : m0 = 12 := by omega
            go_wp2_with fail
            go_meet
            exact ⟨by rw [e0]; rfl, rfl⟩
          · have h12i : decide ((12 : Int) < L) = false := decide_eq_false (by omega)
            have e0 : m0 = L := by omega
            go_wp2_with fail
            go_meet
            exact ⟨by rw [e0], rfl⟩
        case rest =>
          obtain ⟨rfl, rfl⟩ := hcut
          go_upto_region 11 with fail
          go_cut [39] from 9 to 73 (fun c wx => c = .bool (decide (K = 2 ∧ 1 < m0)) ∧ wx = wc)
          case first =>
            by_cases hK2 : K = 2
            · have hK2b : (K == 2) = true := beqT hK2
              go_wp2_with fail
              go_meet
              exact ⟨by congr 1; rw [Bool.eq_iff_iff]; simp [hK2]; omega, rfl⟩
            · have hK2b : (K == 2) = false := beqF hK2
              go_wp2_with fail
              go_meet
              exact ⟨by simp [hK2], rfl⟩
          case rest =>
            obtain ⟨rfl, hwx⟩ := hcut
            subst hwx
            go_upto_if 39 with fail
            go_cut [8] from 9 to 73 (fun n wx => n = .int .i64 (m : Int) ∧ wx = wc)
            case first =>
              by_cases hc : K = 2 ∧ 1 < m0
              · have hcb : decide (K = 2 ∧ 1 < m0) = true := decide_eq_true hc
                have e0 : m = 1 := by rw [hn1, if_pos hc]
                go_wp2_with fail
                go_meet
                exact ⟨by rw [e0]; rfl, rfl⟩
              · have hcb : decide (K = 2 ∧ 1 < m0) = false := decide_eq_false hc
                have e0 : m = m0 := by rw [hn1, if_neg hc]
                go_wp2_with fail
                go_meet
                exact ⟨by rw [e0], rfl⟩
            case rest =>
              obtain ⟨rfl, hwx⟩ := hcut
              subst hwx
              have hmc : m ≤ fc := by omega
              clear hn1 hm0
              have hsl := fun W => sl_to fa L fc m hmc W
              have y1 := blk_cell HWC.out 1
              have y2 := blk_cell HWC.out 2
              have y3 := blk_cell HWC.out 3
              have HO0 : Hid ((wc.alloc (.cells #[] 3)).ownsRow wc.heap.size 3 1 (.slice (some ⟨wc.heap.size, 0, none⟩) 0 0) 0 []) := own_empty wc 3
              have hobl : wr.heap.size < wc.heap.size := (Array.getElem?_eq_some_iff.1 HWC.out).1
              have y2' : (wc.alloc (.cells #[] 3)).cell? ⟨wr.heap.size, 2, none⟩ = some (.slice fa L fc) := (Below.cell (((Below.refl wc.heap.size wc).alloc (Nat.le_refl _) _)) (p := ⟨wr.heap.size, 2, none⟩) hobl).trans y2
              go_upto_region 13 with fail
              go_cut [8] from 9 to 73 (fun n wx => n = .int .i64 (m : Int) ∧ ∃ v, wx.heap[wr.heap.size]? = some (.cells #[.int .i64 K, .int .i64 t, v, .int .i64 bd] 97 (0, 0)) ∧ wx.ownsRow wr.heap.size 3 1 v m (ints (o.fs.take m)) ∧ Below wr.heap.size wr wx)
              case first =>
                go_wp2_with (at_builtin; refine wpList_append_opt rfl _ _ 95 rfl wc.heap.size 3 i0 (.int .i64 0) 8 Tryd.underlying95 hi hz0 hz1 hz2 rfl (.slice (some ⟨wc.heap.size, 0, none⟩) 0 0) 0 [] rfl HO0.out fa m fc (ints (o.fs.take m)) rfl (fun e => by have := HFN.out e; omega) (by rw [ints_length, List.length_take, HL.out]; omega) (fun j u hu => by
                  unfold ints at hu
                  rw [List.getElem?_map] at hu
                  cases hx : (o.fs.take m)[j]? with
                  | none => rw [hx] at hu; cases hu
                  | some x =>
                    rw [hx] at hu
                    obtain rfl := Option.some.inj hu
                    obtain ⟨fg, fo, e1, e2⟩ := HCE.out (wc.alloc (.cells #[] 3)) (HWB.out.alloc HWB.out.size _) j x (by rw [List.getElem?_take] at hx; split at hx; exact hx; cases hx)
                    exact ⟨_, e1, by rw [plain_add]; exact e2⟩) (fun y hy => by obtain ⟨z, _, rfl⟩ := List.mem_map.1 hy; rfl) (by unfold maxLen; omega) (by omega) (by simp) ?_; intro v5 w5 hown5 hgrow5 _; obtain ⟨a5, k5, rfl, hk5, hk6⟩ := own_shape5 (own_mono hown5 (Nat.zero_le _)); obtain ⟨b5, c5, o5, f5⟩ := fields_laid rfl HWC.out hown5 hgrow5; have z0 := blk_cell b5 2; have z1 := blk_free b5 2; have HC5 := Lib.hid c5; have HO5 := Lib.hid o5; have HF5 := Lib.hid f5; clear hown5 hgrow5 b5 c5 o5 f5)
                go_meet
                rw [Nat.zero_add, List.nil_append] at HO5
                rw [Nat.zero_add] at HC5 HF5
                exact ⟨rfl, _, HC5.out, own_mono HO5.out HWB.out.size, HWB.out.trans (HF5.out.below HWB.out.size (fun i hi => by subst hi; exact Nat.le_refl _))⟩
              case rest =>
                obtain ⟨rfl, v, hbv, hov, hbb⟩ := hcut
                have HBV := Lib.hid hbv
                have HOV := Lib.hid hov
                have HBB := Lib.hid hbb
                clear y0 y1 y2 y2' y3 hbv hov hbb
                obtain ⟨n2, hn2⟩ : ∃ n2, (if m = 0 then 1 else m) = n2 := ⟨_, rfl⟩
                have HF2 := Lib.hid (show (hF o).length = n2 from by rw [hF_len, HM.out]; exact hn2)
                go_upto_if 48 with fail
                have hbl : wr.heap.size < wc.heap.size := (Array.getElem?_eq_some_iff.1 HBV.out).1
                go_cut [8] from 9 to 73 (fun n wx => n = .int .i64 (n2 : Int) ∧ ∃ v, wx.heap[wr.heap.size]? = some (.cells #[.int .i64 K, .int .i64 t, v, .int .i64 bd] 97 (0, 0)) ∧ wx.ownsRow wr.heap.size 3 1 v n2 (ints (hF o)) ∧ Below wr.heap.size wr wx)
                case first =>
                  by_cases hm0 : m = 0
                  · have hmb : ((m : Int) == 0) = true := beqT (by omega)
                    rw [if_pos hm0] at hn2
                    have HN2 := Lib.hid hn2
                    clear hn2
                    have e1 : hF o = [-1] := by unfold hF; rw [HM.out, if_pos hm0]
                    have hb1 : (wc.alloc (.cells #[.int .i64 (-1)] 3)).heap[wr.heap.size]? = some (.cells #[.int .i64 K, .int .i64 t, v, .int .i64 bd] 97 (0, 0)) := (Below.heap_alloc _ _ _ hbl).trans HBV.out
                    have z0 := blk_cell hb1 2
                    have z1 := blk_free hb1 2
                    have HB1 := Lib.hid hb1
                    clear hb1
                    go_wp2_with fail
                    go_meet
                    have hs1 : (wc.setCell ⟨wr.heap.size, 2, none⟩ (.slice (some ⟨wc.heap.size, 0, none⟩) 1 1)).heap.size = wc.heap.size := by simp [World.setCell]
                    refine ⟨by rw [← HN2.out]; rfl, _, (Below.heap_alloc _ _ _ (by omega)).trans (blk_set HBV.out 2 _), ?_, (HBB.out.setCell (p := ⟨wr.heap.size, 2, none⟩) (Nat.le_refl _) _).alloc (by omega) _⟩
                    rw [e1, ← HN2.out]
                    have ho1 := own_single (wc.setCell ⟨wr.heap.size, 2, none⟩ (.slice (some ⟨wc.heap.size, 0, none⟩) 1 1)) 3 (.int .i64 (-1))
                    rw [hs1] at ho1
                    exact own_mono ho1 (by omega)
                  · have hmb : ((m : Int) == 0) = false := beqF (by omega)
                    rw [if_neg hm0] at hn2
                    have e1 : hF o = o.fs.take m := by unfold hF; rw [HM.out, if_neg hm0]
                    go_wp2_with fail
                    go_meet
                    exact ⟨by rw [← hn2], v, HBV.out, by rw [e1, ← hn2]; exact HOV.out, HBB.out⟩
                case rest =>
                  obtain ⟨rfl, v2, hbv2, hov2, hbb2⟩ := hcut
                  have HBV2 := Lib.hid hbv2
                  have HOV2 := Lib.hid hov2
                  have HBB2 := Lib.hid hbb2
                  clear hbv2 hov2 hbb2 hbl HBV HOV HBB
                  have z0 := blk_cell HBV2.out 0
                  have z1 := blk_cell HBV2.out 1
                  have zf := blk_free HBV2.out 1
                  have hn2b : 1 ≤ n2 ∧ n2 ≤ 12 := by have := hF_bd o; rw [HF2.out] at this; exact this
                  obtain ⟨T, hT⟩ : ∃ T, hT o = T := ⟨_, rfl⟩
                  have hTe : (if K = 4 then 0 else if K = 5 then t % ((n2 + 1 : Nat) : Int) else (n2 : Int)) = T := by rw [← hT]; unfold Go.Proofs.YtlakfnlkiebpdaaDoor.hT; rw [HK.out, HF2.out, HT.out]
                  have HAM := Lib.hid (fun W1 => among_is t ((n2 : Int) + 1) (by omega) (by omega) W1)
                  have HTT := Lib.hid hT
                  clear hT
                  go_upto_block 2 with fail
                  go_cut [8] from 9 to 73 (fun n wx => n = .int .i64 (n2 : Int) ∧ wx.heap[wr.heap.size]? = some (.cells #[.int .i64 K, .int .i64 T, v2, .int .i64 bd] 97 (0, 0)) ∧ wx.ownsRow wr.heap.size 3 1 v2 n2 (ints (hF o)) ∧ Below wr.heap.size wr wx)
                  case first =>
                    by_cases h4 : K = 4
                    · have h4b : (K == 4) = true := beqT h4
                      have e1 : T = 0 := by rw [← hTe, if_pos h4]
                      have HE := Lib.hid e1
                      clear hTe e1
                      go_wp2_with fail
                      go_meet
                      exact ⟨rfl, by rw [HE.out]; exact blk_set HBV2.out 1 _, own4 ((Fr.refl (· = wr.heap.size) _).setCell (p := ⟨wr.heap.size, 1, none⟩) (.inl rfl) _) HOV2.out (own_apart2 HBV2.out HOV2.out), HBB2.out.setCell (p := ⟨wr.heap.size, 1, none⟩) (Nat.le_refl _) _⟩
                    · have h4b : (K == 4) = false := beqF h4
                      rw [if_neg h4] at hTe
                      by_cases h5 : K = 5
                      · have h5b : (K == 5) = true := beqT h5
                        rw [if_pos h5] at hTe
                        have HE := Lib.hid hTe
                        clear hTe
                        go_wp2_with fail
                        refine (HAM.out _).mono ?_
                        rintro e w1 ⟨rfl, hw⟩
                        subst w1
                        go_wp2_with fail
                        go_meet
                        exact ⟨rfl, by rw [← HE.out]; exact blk_set HBV2.out 1 _, own4 ((Fr.refl (· = wr.heap.size) _).setCell (p := ⟨wr.heap.size, 1, none⟩) (.inl rfl) _) HOV2.out (own_apart2 HBV2.out HOV2.out), HBB2.out.setCell (p := ⟨wr.heap.size, 1, none⟩) (Nat.le_refl _) _⟩
                      · have h5b : (K == 5) = false := beqF h5
                        rw [if_neg h5] at hTe
                        have HE := Lib.hid hTe
                        clear hTe
                        go_wp2_with fail
                        go_meet
                        exact ⟨rfl, by rw [← HE.out]; exact blk_set HBV2.out 1 _, own4 ((Fr.refl (· = wr.heap.size) _).setCell (p := ⟨wr.heap.size, 1, none⟩) (.inl rfl) _) HOV2.out (own_apart2 HBV2.out HOV2.out), HBB2.out.setCell (p := ⟨wr.heap.size, 1, none⟩) (Nat.le_refl _) _⟩
                  case rest =>
                    obtain ⟨rfl, hbv3, hov3, hbb3⟩ := hcut
                    obtain ⟨va, vc, rfl, hvc1, hvc2⟩ := own_shape5 (own_mono hov3 (Nat.zero_le _))
                    have hpn := HPp.out.below hbb3
                    have hrow := hpn.row
                    rw [HLEN.out] at hrow
                    have HPN := Lib.hid hpn
                    have HRW := Lib.hid hrow
                    have HOV3 := Lib.hid hov3
                    have q0 := blk_cell hbv3 0
                    have q1 := blk_cell hbv3 1
                    have q2 := blk_cell hbv3 2
                    have q3 := blk_cell hbv3 3
                    have hbl3 : wr.heap.size < wc.heap.size := (Array.getElem?_eq_some_iff.1 hbv3).1
                    have hAle := heapL_le rs k
                    have hAn := heapL_words HO.out
                    rw [HF2.out] at hAn
                    obtain ⟨A, hA⟩ : ∃ A, addr4 (heapL rs k) (heapL rs k).length = A := ⟨_, rfl⟩
                    rw [hA] at hAle hAn
                    have HAN := Lib.hid hAn
                    have hsw : w.heap.size ≤ wc.heap.size := hpn.base.size
                    have HOE : Hid (hO o = ⟨K, T, hF o, bd⟩) := Lib.hid (by unfold Go.Proofs.YtlakfnlkiebpdaaDoor.hO; rw [HK.out, HTT.out, HBD.out])
                    rw [hA]
                    clear hpn hrow hov3 hbb3 hA hTe hAn hbv3 z0 z1 zf hn2 hNle hmc hsl hobl
                    go_wp2_with (at_builtin; refine wpList_append_own_at _ rfl _ _ 47 rfl w.heap.size 97 i4 (.agg #[.int .i64 0, .int .i64 0, .slice none 0 0, .int .i64 0]) 4 48 Tryd.underlying47 hi4 hy0 hy1 hy2 rfl (by decide) (.slice a4 k k4) k (cells4 Q) rfl (HRW.out.alloc _) ⟨wc.heap.size, 0, none⟩ 1 1 (oCells ⟨K, T, hF o, bd⟩ (.slice va n2 vc)) rfl rfl (cells4_at _ _ _ _ _ _) (oc_one rfl) (by unfold maxLen; omega) (by omega) (by simpa using Nat.le_succ_of_le hsw) ?_; intro v8 w8 hown8 hgrow8 _ _)
                    have hpush := HPN.out.push (o := ⟨K, T, hF o, bd⟩) (u := .slice va n2 vc) (by show wc.ownsRow w.heap.size 3 1 _ (hF o).length _; rw [HF2.out]; exact own_mono HOV3.out HPp.out.base.size) (by rw [HLEN.out]; exact hown8) hgrow8
                    have HPU := Lib.hid hpush
                    clear hpush hown8 hgrow8
                    go_roundw
                    case rel => exact ⟨k + 1, _, hlt, hlt2, by go_num, by rw [HAN.out]; go_num, HPU.out, by rw [List.map_append, HQ.out, heapL_succ HO.out, HOE.out]; rfl⟩
                    case measure => simp [intOf]; omega
      · have hk0 : k = 40 := by omega
        have hki : (k : Int) < N := by omega
        have hk5 : ¬ (k : Int) < 40 := by omega
        obtain ⟨a', c', hv4, ho4⟩ := hp.obsV (os := heapO rs) (by rw [hq, hk0]; rfl) (heapO_few rs) (heapO_short rs)
        have hw4 : 63 + addr4 (heapL rs k) (heapL rs k).length = heapW rs := by rw [hk0]; rfl
        rw [hw4]
        subst hv4
        have HE := Lib.hid (And.intro ho4 hp.base)
        clear hp hq hw4 ho4 hk0
        go_wp2_with fail
        go_ret2
        exact ⟨_, ⟨_, rfl⟩, HE.out⟩
    · have hkN : k = N := by omega
      have hki : ¬ (k : Int) < N := by omega
      have hle : heapL rs k = heapO rs := heapL_end (by omega) (by omega)
      obtain ⟨a', c', hv4, ho4⟩ := hp.obsV (os := heapO rs) (by rw [hq, hle]) (heapO_few rs) (heapO_short rs)
      have hw4 : 63 + addr4 (heapL rs k) (heapL rs k).length = heapW rs := by rw [hle]; rfl
      rw [hw4]
      subst hv4
      have HE := Lib.hid (And.intro ho4 hp.base)
      clear hp hq hw4 ho4 hkN hle
      go_wp2_with fail
      go_ret2
      exact ⟨_, ⟨_, rfl⟩, HE.out⟩
end Go.Proofs.YtlakfnlkiebpdaaDoor
namespace Go.Proofs.YtlakfnlkiebpdaaDoor
open Go Go.RowKit
def rsK : List O4 := [⟨0, 0, [-5, 0], 0⟩, ⟨0, 0, [-7], 0⟩]
def osK : List Ob := [⟨1, 2, [5, 2], 0⟩, ⟨1, 1, [7], 0⟩]
theorem rsK_few : (heapO rsK).length = 2 := by kernel_rfl
theorem rsK_W : heapW rsK = 69 := by kernel_rfl
theorem rsK_obs : heapObs (heapO rsK) = osK := by kernel_rfl
theorem osK_reach : reach osK 0 69 [2] = some [0] := by kernel_rfl
theorem osK_live : liveN osK 0 69 [2] = 3 := by kernel_rfl
theorem osK_check : checkE osK 0 69 [2] = 0 := by kernel_rfl
theorem osK_used : used (newF 0 69 osK [0]) = 3 := by kernel_rfl
theorem rsK_in : In4 rsK := ⟨by
  intro o ho x hx
  simp [rsK] at ho
  rcases ho with rfl | rfl
  · simp at hx; rcases hx with rfl | rfl <;> decide
  · simp at hx; subst hx; decide⟩
theorem words_lit (w : World) (n : Nat) (hn : n < 18446744073709551616) : WordsV (w.alloc (.cells #[.int .u64 (n : Int)] 33)) (some ⟨w.heap.size, 0, none⟩) 1 [n] := by
  refine ⟨rfl, by decide, by simpa using hn, fun j x hj => ?_⟩
  cases j with
  | zero =>
    obtain rfl : n = x := by simpa using hj
    exact ⟨_, 0, rfl, by simp, by rw [cell_of_row _ _ (0 + 0) _ _ (0, 0) (heap_alloc_new w _)]; rfl⟩
  | succ j => simp at hj
theorem arg_lit (w : World) : ArgV (((w.alloc (.cells #[.int .i64 (-5), .int .i64 0] 3)).alloc (.cells #[.int .i64 (-7)] 3)).alloc (.cells #[.int .i64 0, .int .i64 0, .slice (some ⟨w.heap.size, 0, none⟩) 2 2, .int .i64 0, .int .i64 0, .int .i64 0, .slice (some ⟨w.heap.size + 1, 0, none⟩) 1 1, .int .i64 0] 97)) (some ⟨w.heap.size + 2, 0, none⟩) 2 rsK := by
  have h0 : (((w.alloc (.cells #[.int .i64 (-5), .int .i64 0] 3)).alloc (.cells #[.int .i64 (-7)] 3)).alloc (.cells #[.int .i64 0, .int .i64 0, .slice (some ⟨w.heap.size, 0, none⟩) 2 2, .int .i64 0, .int .i64 0, .int .i64 0, .slice (some ⟨w.heap.size + 1, 0, none⟩) 1 1, .int .i64 0] 97)).heap[w.heap.size]? = some (.cells #[.int .i64 (-5), .int .i64 0] 3 (0, 0)) := (Below.heap_alloc _ _ _ (by simp <;> omega)).trans ((Below.heap_alloc _ _ _ (by simp <;> omega)).trans (heap_alloc_new w _))
  have h1 : (((w.alloc (.cells #[.int .i64 (-5), .int .i64 0] 3)).alloc (.cells #[.int .i64 (-7)] 3)).alloc (.cells #[.int .i64 0, .int .i64 0, .slice (some ⟨w.heap.size, 0, none⟩) 2 2, .int .i64 0, .int .i64 0, .int .i64 0, .slice (some ⟨w.heap.size + 1, 0, none⟩) 1 1, .int .i64 0] 97)).heap[w.heap.size + 1]? = some (.cells #[.int .i64 (-7)] 3 (0, 0)) := (Below.heap_alloc _ _ _ (by simp <;> omega)).trans (by have := heap_alloc_new (w.alloc (.cells #[.int .i64 (-5), .int .i64 0] 3)) (.cells #[.int .i64 (-7)] 3); rwa [World.size_alloc] at this)
  have h2 : (((w.alloc (.cells #[.int .i64 (-5), .int .i64 0] 3)).alloc (.cells #[.int .i64 (-7)] 3)).alloc (.cells #[.int .i64 0, .int .i64 0, .slice (some ⟨w.heap.size, 0, none⟩) 2 2, .int .i64 0, .int .i64 0, .int .i64 0, .slice (some ⟨w.heap.size + 1, 0, none⟩) 1 1, .int .i64 0] 97)).heap[w.heap.size + 2]? = some (.cells #[.int .i64 0, .int .i64 0, .slice (some ⟨w.heap.size, 0, none⟩) 2 2, .int .i64 0, .int .i64 0, .int .i64 0, .slice (some ⟨w.heap.size + 1, 0, none⟩) 1 1, .int .i64 0] 97 (0, 0)) := by
    have := heap_alloc_new ((w.alloc (.cells #[.int .i64 (-5), .int .i64 0] 3)).alloc (.cells #[.int .i64 (-7)] 3)) (.cells #[.int .i64 0, .int .i64 0, .slice (some ⟨w.heap.size, 0, none⟩) 2 2, .int .i64 0, .int .i64 0, .int .i64 0, .slice (some ⟨w.heap.size + 1, 0, none⟩) 1 1, .int .i64 0] 97)
    rwa [World.size_alloc, World.size_alloc] at this
  refine ⟨rfl, by decide, fun i o hi => ?_, rsK_in⟩
  match i with
  | 0 =>
    obtain rfl : (⟨0, 0, [-5, 0], 0⟩ : O4) = o := by simpa [rsK] using hi
    refine ⟨_, 0, _, 2, rfl, by simp, blk_cell h2 0, blk_cell h2 1, blk_cell h2 2, blk_cell h2 3, by simp, by omega, by simp, fun f x hx => ?_⟩
    match f with
    | 0 => obtain rfl : (-5 : Int) = x := by simpa using hx
           exact ⟨_, 0, rfl, by simp <;> omega, blk_cell h0 0⟩
    | 1 => obtain rfl : (0 : Int) = x := by simpa using hx
           exact ⟨_, 0, rfl, by simp <;> omega, blk_cell h0 1⟩
    | f + 2 => simp at hx
  | 1 =>
    obtain rfl : (⟨0, 0, [-7], 0⟩ : O4) = o := by simpa [rsK] using hi
    refine ⟨_, 0, _, 1, rfl, by simp, blk_cell h2 4, blk_cell h2 5, blk_cell h2 6, blk_cell h2 7, by simp, by omega, by simp, fun f x hx => ?_⟩
    match f with
    | 0 => obtain rfl : (-7 : Int) = x := by simpa using hx
           exact ⟨_, 0, rfl, by simp <;> omega, blk_cell h1 0⟩
    | f + 1 => simp at hx
  | i + 2 => simp [rsK] at hi
end Go.Proofs.YtlakfnlkiebpdaaDoor
namespace Go.Proofs.YtlakfnlkiebpdaaDoor
open Go Go.RowKit
section
variable {os old ex : List Ob} {h W : Nat} {met : List Nat}
theorem newF_length (h W : Nat) (os : List Ob) (met : List Nat) : (newF h W os met).length = met.length := by simp [newF]
theorem newF_get {p j : Nat} (hj : met[p]? = some j) : (newF h W os met)[p]? = some (renO h W os met (obAt os j) (obAt os j).t) := by simp [newF, hj]
theorem newF_used (z : WF W h os old) (ok : Okm os met) : used (newF h W os met) ≤ W := by
  rw [used_congr (sz_newF h W os met)]
  have := moved_used (W := W) z.fresh ok met.length z.un
  rwa [List.take_length] at this
/-- the object of a renewed word -/
theorem obj_ren (z : WF W h os old) (ok : Okm os met) {p j : Nat} (hj : met[p]? = some j) : objOf (newF h W os met ++ ex) (1 - h) W (2 * toK (1 - h) W os met j) = some p ∧ (2 * toK (1 - h) W os met j) % 2 ≠ 1 := by
  have hjm := List.mem_of_getElem? hj
  have hp := (List.getElem?_eq_some_iff.1 hj).1
  have h1 := toK_pos (1 - h) W os met j
  have h2 := toK_le' (k := 1 - h) z.fresh ok z.un z.w1 hjm
  refine ⟨?_, by omega⟩
  unfold objOf
  have e1 : toP ((2 * toK (1 - h) W os met j : Nat) : Int) = ((toK (1 - h) W os met j : Nat) : Int) := by
    unfold toP
    rw [if_pos (by omega)]
    omega
  rw [e1, toK_at ok.nd hj, ← start_pick, ← start_congr (sz_newF h W os met), ← start_append (newF h W os met) ex p (by rw [newF_length]; omega)]
  exact idxAt_of (by rw [List.length_append, newF_length]; omega)
theorem tag_ren (z : WF W h os old) (ok : Okm os met) {p j : Nat} (hj : met[p]? = some j) : tagW (newF h W os met ++ ex) p = (tagW os j).map (renW h W os met) := by
  have hp := (List.getElem?_eq_some_iff.1 hj).1
  have ho := obAt_get (ok.lt j (List.mem_of_getElem? hj))
  have hg : (newF h W os met ++ ex)[p]? = some (renO h W os met (obAt os j) (obAt os j).t) := by
    rw [List.getElem?_append_left (by rw [newF_length]; exact hp)]; exact newF_get hj
  have htl := right_bd (z.okn _ (List.mem_of_getElem? ho)).right
  rw [tagW_eq hg, tagW_eq ho]
  show (((obAt os j).ws.take (obAt os j).t).map (renW h W os met) ++ (obAt os j).ws.drop (obAt os j).t).take (obAt os j).t = _
  rw [List.take_append_of_le_length (by simp; omega), List.take_of_length_le (by simp; omega)]
theorem take_pre {m : List Nat} {r : List Nat} (e : met = m ++ r) : m = met.take m.length := by rw [e]; simp
/-- a word is met as its fellow is -/
theorem meetS_ren (z : WF W h os old) (ok : Okm os met) {q n : Nat} {m r : List Nat} (hq : q ≤ met.length) (e : meetS os h W (met.take q) n = some m) (hm : met = m ++ r) : meetS (newF h W os met ++ ex) (1 - h) W (List.range q) (renW h W os met n) = some (List.range m.length) := by
  have hlq : (met.take q).length = q := by rw [List.length_take]; omega
  rcases meetS_cases (os := os) (h := h) (W := W) (met.take q) n with a | ⟨a, b⟩ | ⟨a, j, b, c⟩ | ⟨a, j, b, c⟩
  · rw [meetS_int a] at e
    cases e
    rw [renW_int a, meetS_int a, hlq]
  · rw [meetS_bad a b] at e; cases e
  · rw [meetS_old a b c] at e
    cases e
    obtain ⟨p, hp⟩ := List.getElem?_of_mem c
    have hpq := (List.getElem?_eq_some_iff.1 hp).1
    rw [hlq] at hpq
    rw [List.getElem?_take, if_pos hpq] at hp
    obtain ⟨h1, h2⟩ := obj_ren (ex := ex) z ok hp
    rw [renW_ptr a b, meetS_old h2 h1 (List.mem_range.2 hpq), hlq]
  · rw [meetS_new a b c] at e
    cases e
    have hp : met[q]? = some j := by
      rw [hm, List.append_assoc, List.getElem?_append_right (by omega), hlq, Nat.sub_self]; rfl
    obtain ⟨h1, h2⟩ := obj_ren (ex := ex) z ok hp
    rw [renW_ptr a b, meetS_new h2 h1 (by simp), List.length_append, hlq]
    show _ = some (List.range (q + 1))
    rw [List.range_succ]
theorem meetL_ren (z : WF W h os old) (ok : Okm os met) : ∀ (ns : List Nat) {q : Nat} {m r : List Nat}, q ≤ met.length → meetL os h W (met.take q) ns = some m → met = m ++ r → meetL (newF h W os met ++ ex) (1 - h) W (List.range q) (ns.map (renW h W os met)) = some (List.range m.length)
  | [], q, m, r, hq, e, _ => by
    cases e
    rw [List.length_take, Nat.min_eq_left hq]; rfl
  | n :: ns, q, m, r, hq, e, hm => by
    unfold meetL at e
    cases e2 : meetS os h W (met.take q) n with
    | none => rw [e2] at e; cases e
    | some m2 =>
      rw [e2] at e
      obtain ⟨⟨r2, hr2⟩, _⟩ := meetL_ext (met := m2) e
      have hm2 : met = m2 ++ (r2 ++ r) := by rw [hm, hr2, List.append_assoc]
      have h1 := meetS_ren (ex := ex) z ok hq e2 hm2
      have hl2 : m2.length ≤ met.length := by rw [hm2]; simp
      have e' : meetL os h W (met.take m2.length) ns = some m := by rw [← take_pre hm2]; exact e
      have h2 := meetL_ren z ok ns hl2 e' hm
      rw [List.map_cons]
      unfold meetL
      rw [h1]
      exact h2
theorem bfs_ren (z : WF W h os old) (ok : Okm os met) : ∀ (f0 f i q : Nat), q ≤ met.length → os.length < f0 + i → met.length < f + i → bfs os h W f0 i (met.take q) = some met → (∀ p j, p < i → (met.take q)[p]? = some j → ∀ n ∈ tagW os j, Good os h W (met.take q) n) → bfs (newF h W os met ++ ex) (1 - h) W f i (List.range q) = some (List.range met.length) := by
  intro f0
  induction f0 with
  | zero =>
    intro f i q hq h0 h1 e _
    have e' : met.take q = met := by
      have : some (met.take q) = some met := e
      exact Option.some.inj this
    have hql : q = met.length := by
      have := congrArg List.length e'
      rw [List.length_take] at this
      omega
    have := ok.len
    rw [hql]
    exact bfs_end (by rw [List.length_range]; omega)
  | succ f0 ih =>
    intro f i q hq h0 h1 e hd
    have hlq : (met.take q).length = q := by rw [List.length_take]; omega
    unfold bfs at e
    cases e1 : (met.take q)[i]? with
    | none =>
      rw [e1] at e
      have e' : met.take q = met := Option.some.inj e
      have hql : q = met.length := by
        have := congrArg List.length e'
        omega
      have := List.getElem?_eq_none_iff.1 e1
      rw [hql]
      exact bfs_end (by rw [List.length_range]; omega)
    | some j =>
      rw [e1] at e
      simp only [] at e
      have hi := (List.getElem?_eq_some_iff.1 e1).1
      rw [hlq] at hi
      have hj : met[i]? = some j := by rw [List.getElem?_take, if_pos hi] at e1; exact e1
      cases e2 : meetL os h W (met.take q) (tagW os j) with
      | none => rw [e2] at e; cases e
      | some m2 =>
        rw [e2] at e
        have okq : Okm os (met.take q) := ⟨List.Nodup.sublist (List.take_sublist _ _) ok.nd, fun x hx => ok.lt x (List.mem_of_mem_take hx)⟩
        have ok2 := meetL_okm okq e2
        obtain ⟨⟨r1, hr1⟩, hg⟩ := meetL_ext e2
        have hd2 : ∀ p j', p < i + 1 → m2[p]? = some j' → ∀ n ∈ tagW os j', Good os h W m2 n := fun p j' hp hj' n hn => by
          by_cases hpi : p = i
          · have : m2[i]? = some j := by rw [hr1, List.getElem?_append_left (by omega)]; exact e1
            rw [hpi, this] at hj'
            obtain rfl := Option.some.inj hj'
            exact hg n hn
          · rw [hr1, List.getElem?_append_left (by omega)] at hj'
            exact (hd p j' (by omega) hj' n hn).mono (ext_sub hr1)
        obtain ⟨⟨r2, hr2⟩, _⟩ := bfs_ext ok2 (by omega) e hd2
        have hl2 : m2.length ≤ met.length := by rw [hr2]; simp
        have hm2 := take_pre hr2
        obtain ⟨f', rfl⟩ : ∃ f', f = f' + 1 := ⟨f - 1, by omega⟩
        rw [bfs_step (j := i) (by rw [List.getElem?_range hi]), tag_ren z ok hj, meetL_ren (ex := ex) z ok _ hq e2 hr2]
        exact ih f' (i + 1) m2.length hl2 (by omega) (by omega) (by rw [← hm2]; exact e) (by rw [← hm2]; exact hd2)
/-- behind a collection the renewed roots reach all that was moved, in its order -/
theorem reach_new (z : WF W h os old) {ns : List Nat} (e : reach os h W ns = some met) : reach (newF h W os met ++ ex) (1 - h) W (ns.map (renW h W os met)) = some (List.range met.length) := by
  have ok := reach_okm e
  unfold reach at e
  cases e2 : meetL os h W [] ns with
  | none => rw [e2] at e; cases e
  | some m2 =>
    rw [e2] at e
    obtain ⟨⟨r, hr⟩, _⟩ := bfs_ext (meetL_okm okm_nil e2) (by omega) e (fun p j hp => by omega)
    have e2' : meetL os h W (met.take 0) ns = some m2 := by rw [List.take_zero]; exact e2
    have h1 := meetL_ren (ex := ex) z ok ns (Nat.zero_le _) e2' hr
    have hl2 : m2.length ≤ met.length := by rw [hr]; simp
    unfold reach
    rw [show (List.range 0 : List Nat) = [] from rfl] at h1
    rw [h1]
    exact bfs_ren z ok (os.length + 1) _ 0 m2.length hl2 (by omega) (by rw [List.length_append, newF_length]; omega) (by rw [← take_pre hr]; exact e) (fun p j hp => by omega)
theorem needs_range (os ex : List Ob) : needs (os ++ ex) (List.range os.length) = used os := by
  unfold needs used
  congr 1
  apply List.ext_getElem
  · simp
  · intro i h1 h2
    simp only [List.length_map, List.length_range] at h1
    simp [List.getElem?_append_left h1, List.getElem?_eq_getElem h1]
/-- how much can be reached behind a collection -/
theorem live_new (z : WF W h os old) {ns : List Nat} (e : reach os h W ns = some met) : liveN (newF h W os met ++ ex) (1 - h) W (ns.map (renW h W os met)) = used (newF h W os met) ∧ checkE (newF h W os met ++ ex) (1 - h) W (ns.map (renW h W os met)) = 0 := by
  have h1 := reach_new (ex := ex) z e
  refine ⟨?_, by unfold checkE; rw [h1]⟩
  unfold liveN
  rw [h1, Option.getD_some, ← newF_length h W os met]
  exact needs_range _ _
/-- what it was ahead of it -/
theorem needs_pick {met : List Nat} (ok : Okm os met) : needs os met = used (pick os met) := by
  unfold needs used pick
  rw [List.map_map]
  congr 1
  refine List.map_congr_left fun j hj => ?_
  rw [obAt_get (ok.lt j hj)]
  rfl
theorem live_old {ns : List Nat} (e : reach os h W ns = some met) : liveN os h W ns = used (newF h W os met) := by
  unfold liveN
  rw [e, Option.getD_some, needs_pick (reach_okm e), used_congr (sz_newF h W os met)]
end
end Go.Proofs.YtlakfnlkiebpdaaDoor
namespace Go.Proofs.YtlakfnlkiebpdaaDoor
open Go Go.ChangeShapes Go.WideShapes Go.ChangeAt Go.ChangeMaps Go.RowKit Go.Deep
theorem cellsObj4 : Tryd.prog.cellsOf 97 = 4 := by kernel_rfl
theorem cellsSlI : Tryd.prog.cellsOf 95 = 1 := by kernel_rfl
/-- a slice of integers within another as it came in -/
def InnerV (W : World) (u : Value) (zs : List Int) : Prop := (u = .slice none 0 0 ∧ zs = []) ∨ ∃ a cap, u = .slice (some a) zs.length cap ∧ zs.length ≤ cap ∧ cap ≤ 9223372036854775807 ∧ (∀ (j : Nat) (z : Int), zs[j]? = some z → ∃ b off, a = ⟨b, off, none⟩ ∧ b < W.heap.size ∧ W.cell? ⟨b, off + j, none⟩ = some (.int .i64 z)) ∧ ∀ z ∈ zs, -9223372036854775808 ≤ z ∧ z ≤ 9223372036854775807
section
variable {H : Type} {enc : TypeId × Value → H} {W : World} {held : Bool}
theorem lit_rng {z : Int} (h : (Lit.int .i64 z).wf = true) : -9223372036854775808 ≤ z ∧ z ≤ 9223372036854775807 := by simpa [Lit.wf, IntKind.min, IntKind.max, IntKind.signed, IntKind.bits] using h
theorem plain_of_cell {w : World} {a : Addr} {v : Value} (h : w.cell? a = some v) : a = ⟨a.block, a.off, none⟩ := by
  have := World.cell?_spot h
  obtain ⟨b, o, s⟩ := a
  simp only at this
  subst this
  rfl
theorem inner_again {n : Nat} {u : Value} {x : DataW H × List MemPlace} (h : DataW.trod enc Tryd.prog W 0 (fun _ => true) held n 95 [u] = some x) :
    ∃ zs, InnerV W u zs ∧ ∀ (W' : World) (sp : Nat → Bool), Below W.heap.size W W' → (∀ q ∈ x.2, sp q.block = true) → DataW.trod enc Tryd.prog W' 0 sp held 2 95 [u] = some x := by
  rcases open_ints Tryd.underlying95 Tryd.underlying3 cellsInt h with ⟨hcs, hx⟩ | ⟨a, len, cap, zs, hcs, _, hl, hm, hz, hx, hcell, hwz⟩
  · simp only [List.cons.injEq, and_true] at hcs
    subst hcs hx
    refine ⟨[], .inl ⟨rfl, rfl⟩, fun W' sp _ _ => ?_⟩
    rw [DataW.trod_step]
    unfold DataW.trodStep
    rw [Tryd.underlying95]
    rfl
  · simp only [List.cons.injEq, and_true] at hcs
    subst hcs hx
    simp only [if_true] at hz
    have hln : (zs.take len).length = len := by simp; omega
    have hpl : ∀ j, j < zs.length → a = ⟨a.block, a.off, none⟩ ∧ a.block < W.heap.size := fun j hj => by
      have h0 := hcell 0 (by omega)
      rw [show a.add 0 = a from by simp [Addr.add]] at h0
      exact ⟨plain_of_cell h0, World.block_lt_of_cell? W _ h0⟩
    refine ⟨zs.take len, .inr ⟨a, cap, by rw [hln], by rw [hln]; exact hl, by simpa [maxLen] using hm, fun j z hj => ?_, fun z hz' => lit_rng (hwz z (List.mem_of_mem_take hz'))⟩, fun W' sp hb hq => ?_⟩
    · have hjl := (List.getElem?_eq_some_iff.1 hj).1
      rw [hln] at hjl
      obtain ⟨h1, h2⟩ := hpl j (by omega)
      refine ⟨a.block, a.off, h1, h2, ?_⟩
      have h3 := hcell j (by omega)
      rw [h1, add_plain] at h3
      rw [h3, List.getD_eq_getElem?_getD]
      rw [List.getElem?_take, if_pos hjl] at hj
      rw [hj]; rfl
    · refine shut_ints 0 Tryd.underlying95 Tryd.underlying3 cellsInt (Nat.zero_le _) hl hm ?_ (fun i hi => ?_) hwz
      · by_cases hc0 : cap = 0
        · have : len = 0 := by omega
          subst this
          rw [hz, hc0]; simp
        · have := hq (.cell a.block a.off) (MemPlace.mem_row.2 ⟨0, by omega, by simp⟩)
          simp only [MemPlace.block] at this
          rw [if_pos this, hz]
      · obtain ⟨h1, h2⟩ := hpl i hi
        have h3 := hcell i hi
        rw [h1, add_plain] at h3 ⊢
        exact (hb.cell (p := ⟨a.block, a.off + i, none⟩) h2).trans h3
set_option maxRecDepth 100000 in
theorem obj_again {n : Nat} {cs : List Value} {x : DataW H × List MemPlace} (h : DataW.trod enc Tryd.prog W 0 (fun _ => true) held n 97 cs = some x) :
    ∃ (k t bd : Int) (u : Value) (zs : List Int), cs = [.int .i64 k, .int .i64 t, u, .int .i64 bd] ∧ InnerV W u zs ∧ ∀ (W' : World) (sp : Nat → Bool), Below W.heap.size W W' → (∀ q ∈ x.2, sp q.block = true) → DataW.trod enc Tryd.prog W' 0 sp held 3 97 cs = some x := by
  obtain ⟨xs, n', _, hx, hlen, hyl, hf⟩ := DataW.trod_struct Tryd.underlying97 h
  rw [cellsObj4] at hlen
  match cs, hlen with
  | [c0, c1, c2, c3], _ =>
    match xs, hyl with
    | [y0, y1, y2, y3], _ =>
      have g0 : DataW.trod enc Tryd.prog W 0 (fun _ => true) held n' 3 (([c0, c1, c2, c3].drop 0).take (Tryd.prog.cellsOf 3)) = some y0 := hf 0 _ rfl
      rw [cellsInt] at g0
      have g1 : DataW.trod enc Tryd.prog W 0 (fun _ => true) held n' 3 (([c0, c1, c2, c3].drop 1).take (Tryd.prog.cellsOf 3)) = some y1 := hf 1 _ rfl
      rw [cellsInt] at g1
      have g2 : DataW.trod enc Tryd.prog W 0 (fun _ => true) held n' 95 (([c0, c1, c2, c3].drop 2).take (Tryd.prog.cellsOf 95)) = some y2 := hf 2 _ rfl
      rw [cellsSlI] at g2
      have g3 : DataW.trod enc Tryd.prog W 0 (fun _ => true) held n' 3 (([c0, c1, c2, c3].drop 3).take (Tryd.prog.cellsOf 3)) = some y3 := hf 3 _ rfl
      rw [cellsInt] at g3
      obtain ⟨z0, e0, r0, w0⟩ := DataW.trod_int Tryd.underlying3 (show DataW.trod enc Tryd.prog W 0 (fun _ => true) held n' 3 [c0] = some y0 from g0)
      obtain ⟨z1, e1, r1, w1⟩ := DataW.trod_int Tryd.underlying3 (show DataW.trod enc Tryd.prog W 0 (fun _ => true) held n' 3 [c1] = some y1 from g1)
      obtain ⟨z3, e3, r3, w3⟩ := DataW.trod_int Tryd.underlying3 (show DataW.trod enc Tryd.prog W 0 (fun _ => true) held n' 3 [c3] = some y3 from g3)
      obtain ⟨zs, hin, hag⟩ := inner_again (show DataW.trod enc Tryd.prog W 0 (fun _ => true) held n' 95 [c2] = some y2 from g2)
      simp only [List.cons.injEq, and_true] at e0 e1 e3
      subst e0 e1 e3
      refine ⟨z0, z1, z3, c2, zs, rfl, hin, fun W' sp hb hq => ?_⟩
      rw [hx] at hq ⊢
      have k2 := hag W' sp hb (fun q hq2 => hq q (by simp [hq2]))
      refine trod_struct_mk (n := 2) Tryd.underlying97 (by rw [cellsObj4]; rfl) ?_
      have k0 : DataW.trod enc Tryd.prog W' 0 sp held 2 3 [.int .i64 z0] = some y0 := by rw [r0]; exact trod_int_mk 1 Tryd.underlying3 w0
      have k1 : DataW.trod enc Tryd.prog W' 0 sp held 2 3 [.int .i64 z1] = some y1 := by rw [r1]; exact trod_int_mk 1 Tryd.underlying3 w1
      have k3 : DataW.trod enc Tryd.prog W' 0 sp held 2 3 [.int .i64 z3] = some y3 := by rw [r3]; exact trod_int_mk 1 Tryd.underlying3 w3
      simp [cellsInt, cellsSlI, k0, k1, k2, k3]
end
theorem len_fit {len m : Nat} (hl : len ≤ m) (hm : m ≤ maxLen) : (len : Int) ≤ 9223372036854775807 := by
  have : m ≤ 9223372036854775807 := by simpa [maxLen] using hm
  omega
set_option maxRecDepth 100000 in
theorem open_obs {H : Type} {enc : TypeId × Value → H} {W : World} {b0 : Nat} {v : Value} {d : DataW H} {p : List MemPlace} (hval : Value.okWide Tryd.prog W .any b0 47 v)
    (hd : DataW.Trod enc Tryd.prog W 0 (fun _ => true) true 47 v d p) :
    (∃ a N c rs, v = .slice a N c ∧ ArgV W a N rs) ∧ (∀ (W' : World) (sp : Nat → Bool), Below W.heap.size W W' → (∀ q ∈ p, sp q.block = true) → DataW.Trod enc Tryd.prog W' 0 sp true 47 v d p) := by
  obtain ⟨a0, len, cap, rfl⟩ := okWide_slice Tryd.underlying47 hval
  obtain ⟨fuel, hf⟩ := hd
  rcases open_slice Tryd.underlying47 hf with ⟨hcs, hx⟩ | ⟨a, len', cap', m, n, D, Pl, hcs, _, hl, hm, hmm, hx, hi⟩
  · simp [Value.cells] at hcs
    obtain ⟨rfl, rfl, rfl⟩ := hcs
    simp only [Prod.mk.injEq] at hx
    obtain ⟨rfl, rfl⟩ := hx
    exact ⟨⟨none, 0, 0, [], rfl, rfl, by omega, fun i o ho => by simp at ho, ⟨by simp⟩⟩, fun W' sp _ _ => shut_slice_nil Tryd.underlying47⟩
  · simp [Value.cells] at hcs
    obtain ⟨rfl, rfl, rfl⟩ := hcs
    simp only [Prod.mk.injEq] at hx
    obtain ⟨rfl, rfl⟩ := hx
    simp only [if_true] at hmm
    subst hmm
    have hval' := hval
    simp only [Value.okWide, Cell.okWide, Cell.ok, Tryd.underlying47] at hval'
    obtain ⟨hsp, hlt⟩ := has_lt hval'.2.2
    obtain ⟨b, off, spot⟩ := a
    simp only at hsp hlt
    subst hsp
    rw [cellsObj4] at hi
    have key : ∀ i, i < m → ∃ (k t bd : Int) (u : Value) (zs : List Int), InnerV W u zs ∧ (∀ q, q < 4 → W.cell? ⟨b, off + i * 4 + q, none⟩ = [Value.int .i64 k, .int .i64 t, u, .int .i64 bd][q]?) ∧ ∀ (W' : World) (sp : Nat → Bool), Below W.heap.size W W' → (∀ q ∈ Pl i, sp q.block = true) → DataW.trod enc Tryd.prog W' 0 sp true 3 97 [.int .i64 k, .int .i64 t, u, .int .i64 bd] = some (D i, Pl i) := fun i him => by
      obtain ⟨cs', hc, ht'⟩ := hi i him
      obtain ⟨k, t, bd, u, zs, rfl, hin, hag⟩ := obj_again ht'
      obtain ⟨_, _, hat⟩ := World.cells?_some hc
      refine ⟨k, t, bd, u, zs, hin, fun q hq => ?_, hag⟩
      have := hat q hq
      rwa [add_plain, add_plain] at this
    refine ⟨?_, fun W' sp hb hq => ?_⟩
    · have hch : ∃ f : Nat → Int × Int × Int × Value × List Int, ∀ i, i < m → InnerV W (f i).2.2.2.1 (f i).2.2.2.2 ∧ ∀ q, q < 4 → W.cell? ⟨b, off + i * 4 + q, none⟩ = [Value.int .i64 (f i).1, .int .i64 (f i).2.1, (f i).2.2.2.1, .int .i64 (f i).2.2.1][q]? := by
        refine ⟨fun i => if h : i < m then (Classical.choose (key i h), Classical.choose (Classical.choose_spec (key i h)), Classical.choose (Classical.choose_spec (Classical.choose_spec (key i h))), Classical.choose (Classical.choose_spec (Classical.choose_spec (Classical.choose_spec (key i h)))), Classical.choose (Classical.choose_spec (Classical.choose_spec (Classical.choose_spec (Classical.choose_spec (key i h)))))) else (0, 0, 0, .slice none 0 0, []), fun i h => ?_⟩
        have hs := Classical.choose_spec (Classical.choose_spec (Classical.choose_spec (Classical.choose_spec (Classical.choose_spec (key i h)))))
        simp only [dif_pos h]
        exact ⟨hs.1, hs.2.1⟩
      obtain ⟨f, hfs⟩ := hch
      refine ⟨_, len, m, (List.range len).map fun i => ⟨(f i).1, (f i).2.1, (f i).2.2.2.2, (f i).2.2.1⟩, rfl, by simp, len_fit hl hm, fun i o ho => ?_, ⟨fun o ho x hx => ?_⟩⟩
      · have hil := (List.getElem?_eq_some_iff.1 ho).1
        simp only [List.length_map, List.length_range] at hil
        rw [List.getElem?_map, List.getElem?_range hil] at ho
        obtain rfl := Option.some.inj ho
        obtain ⟨hin, hc⟩ := hfs i (by omega)
        have c0 := hc 0 (by decide)
        have c1 := hc 1 (by decide)
        have c2 := hc 2 (by decide)
        have c3 := hc 3 (by decide)
        rcases hin with ⟨hu, hz⟩ | ⟨ia, ic, hu, h1, h2, h3, h4⟩
        · refine ⟨b, off, none, 0, rfl, hlt, c0, c1, ?_, c3, ?_, by omega, fun _ => rfl, fun q x hx => ?_⟩
          · show _ = some (Value.slice none (f i).2.2.2.2.length 0)
            rw [hz, c2, hu]; rfl
          · show (f i).2.2.2.2.length ≤ 0
            rw [hz]; exact Nat.le_refl _
          · have hx' : (f i).2.2.2.2[q]? = some x := hx
            rw [hz] at hx'; simp at hx'
        · refine ⟨b, off, some ia, ic, rfl, hlt, c0, c1, by rw [c2, hu]; rfl, c3, h1, h2, by simp, fun q x hx => ?_⟩
          obtain ⟨fb, fo, e1, e2, e3⟩ := h3 q x hx
          exact ⟨fb, fo, by rw [e1], e2, e3⟩
      · obtain ⟨i, hir, rfl⟩ := List.mem_map.1 ho
        have hil := List.mem_range.1 hir
        obtain ⟨hin, _⟩ := hfs i (by omega)
        rcases hin with ⟨_, hz⟩ | ⟨_, _, _, _, _, _, h4⟩
        · have hx' : x ∈ (f i).2.2.2.2 := hx
          rw [hz] at hx'; cases hx'
        · exact h4 x hx
    · have hpl : ∀ i, i < m → ∀ q ∈ Pl i, sp q.block = true := fun i him q hq2 => hq q (List.mem_append_right _ (List.mem_flatMap.2 ⟨i, List.mem_range.2 him, hq2⟩))
      have again : ∀ i, i < m → ∃ cs n, W'.cells? 0 ((⟨b, off, none⟩ : Addr).add (i * Tryd.prog.cellsOf 97)) (Tryd.prog.cellsOf 97) = some cs ∧ DataW.trod enc Tryd.prog W' 0 sp true n 97 cs = some (D i, Pl i) := fun i him => by
        obtain ⟨k, t, bd, u, zs, _, hc, hag⟩ := key i him
        rw [cellsObj4]
        refine ⟨_, 3, World.cells?_of_each (Nat.zero_le _) rfl (fun l hl => ?_), hag W' sp hb (hpl i him)⟩
        rw [← hc l hl, add_plain, add_plain]
        exact hb.cell (p := ⟨b, off + i * 4 + l, none⟩) hlt
      by_cases hs : sp b = true
      · exact shut_slice_whole (a := ⟨b, off, none⟩) Tryd.underlying47 (Nat.zero_le _) hl hm hs D Pl again
      · have hm0 : m = 0 := by
          by_cases q : m = 0
          · exact q
          · exfalso
            apply hs
            have := hq (.cell b off) (List.mem_append_left _ (MemPlace.mem_row.2 ⟨0, by rw [cellsObj4]; omega, by simp⟩))
            simpa only [MemPlace.block] using this
        subst hm0
        have hl0 : len = 0 := by omega
        subst hl0
        exact shut_slice (a := ⟨b, off, none⟩) Tryd.underlying47 (Nat.zero_le _) hl hm (by simpa using hs) D Pl (fun i hi => absurd hi (Nat.not_lt_zero _))
end Go.Proofs.YtlakfnlkiebpdaaDoor
namespace Go.Proofs.YtlakfnlkiebpdaaDoor
open Go Go.RowKit
theorem RootsV.below {w w1 : World} {a : Option Addr} {N : Nat} {zs : List Int} (h : RootsV w a N zs) (hb : Below w.heap.size w w1) : RootsV w1 a N zs :=
  ⟨h.len, h.few, fun j z hj => by
    obtain ⟨g, off, e1, e2, e3⟩ := h.cell j z hj
    exact ⟨g, off, e1, by have := hb.size; omega, (World.cell?_of_block (hb.block g e2)).trans e3⟩, h.rng⟩
theorem roots_of {w : World} {v : Value} {zs : List Int} (h : IntsV w v zs) : ∃ a N c, v = .slice a N c ∧ RootsV w a N zs := by
  rcases h with ⟨rfl, rfl⟩ | ⟨b, off, cap, rfl, hb, hc, hm, hcell, hr⟩
  · exact ⟨none, 0, 0, rfl, rfl, by decide, fun j z hj => by simp at hj, by simp⟩
  · refine ⟨_, _, cap, rfl, rfl, by omega, fun j z hj => ?_, hr⟩
    have hjl := (List.getElem?_eq_some_iff.1 hj).1
    refine ⟨b, off, rfl, hb, ?_⟩
    rw [hcell j hjl, List.getD_eq_getElem?_getD, hj]; rfl
/-- a row of the call's own as a slice of words -/
theorem wordsV_own {w : World} {B : Nat} {v : Value} {n : Nat} {ns : List Nat} (ho : w.ownsRow B 33 1 v n (u64s ns)) (hn : ns.length = n) (hs : n ≤ 100000) (hw : ∀ x ∈ ns, x < 18446744073709551616) :
    ∃ a c, v = .slice a n c ∧ WordsV w a n ns ∧ ∀ (g off : Nat), a = some ⟨g, off, none⟩ → v.ownBlock = some g := by
  have ho' := ho
  rcases ho.2 with ⟨hv, h0⟩ | ⟨g, cap, cur, hv, hb, hg, h1, h2, h3, h4⟩
  · refine ⟨none, 0, by rw [hv, h0], ⟨hn, by omega, hw, fun j x hj => ?_⟩, fun g off e => by cases e⟩
    have := (List.getElem?_eq_some_iff.1 hj).1
    omega
  · subst hv
    refine ⟨_, cap, rfl, ⟨hn, by omega, hw, fun j x hj => ?_⟩, fun g' off e => by injection e with e; injection e with e1; rw [← e1]; rfl⟩
    have hj' := (List.getElem?_eq_some_iff.1 hj).1
    refine ⟨g, 0, rfl, (Array.getElem?_eq_some_iff.1 hg).1, ?_⟩
    rw [Nat.zero_add, ho'.cellAt j (by omega)]
    simp [u64s, hj]
theorem rootsN_lt (os : List O4) (zs : List Int) (k : Nat) : ∀ x ∈ rootsN os zs k, x < 18446744073709551616 := by
  intro x hx
  obtain ⟨v, _, rfl⟩ := List.mem_map.1 hx
  have := rootW_bd os v
  omega
theorem rootsN_len' {os : List O4} {zs : List Int} {N : Nat} (h : zs.length = N) : (rootsN os zs (min N 50)).length = min N 50 := rootsN_length (by omega)
/-- how much a heap takes -/
theorem used_heap {rs : List O4} (r : In4 rs) : used (heapObs (heapO rs)) + 64 = heapW rs := by
  have h1 := heapR r
  have e : sz (heapObs (heapO rs)) = sz (obA (heapO rs) (heapO rs).length) := by rw [sz_heap, sz_obA h1]
  have h2 := used_obA h1 (heapO rs).length (Nat.le_refl _)
  rw [used_congr e]
  unfold heapW
  omega
theorem heapW_bd {rs : List O4} (r : In4 rs) : 64 ≤ heapW rs ∧ heapW rs ≤ 600 := (heapR r).size (heapO_few rs) (heapO_short rs)
theorem used_le_old {h W : Nat} {os old : List Ob} {met : List Nat} (z : WF W h os old) (ok : Okm os met) : used (newF h W os met) ≤ used os := by
  rw [used_congr (sz_newF h W os met)]
  have := moved_sum (k := 0) (W := W) z.fresh ok met.length (Nat.le_refl _) (fun _ _ => toK_pos _ _ _ _ _)
  rw [List.take_length] at this
  omega
theorem renW_lt {h W : Nat} {os old : List Ob} {met : List Nat} (z : WF W h os old) (ok : Okm os met) {n : Nat} (hn : n < 18446744073709551616) : renW h W os met n < 18446744073709551616 := by
  unfold renW
  split
  · exact hn
  · split
    · exact hn
    · rename_i j _
      have h1 := start_le_used (now := pick os met) (k := met.idxOf j) (by rw [pick_length]; exact List.idxOf_le_length)
      have h2 := moved_used (W := W) z.fresh ok met.length z.un
      rw [List.take_length] at h2
      have h3 := z.w1
      unfold toK adr
      split <;> omega
theorem ren_lt {h W : Nat} {os old : List Ob} {met ns : List Nat} (z : WF W h os old) (ok : Okm os met) (hw : ∀ x ∈ ns, x < 18446744073709551616) : ∀ x ∈ ns.map (renW h W os met), x < 18446744073709551616 := by
  intro x hx
  obtain ⟨n, hn, rfl⟩ := List.mem_map.1 hx
  exact renW_lt z ok (hw n hn)
/-- what a collection leaves of a memory that was the call's own -/
theorem mx_below {w w3 w4 : World} {O : Nat → Prop} {b W h : Nat} {s : St} {R : Nat → Value} (hb : Below w.heap.size w w3) (hO : ∀ i, O i → w.heap.size ≤ i) (x : MX w3 O b W h s w4 R) : Below w.heap.size w w4 ∧ ∀ i, Own b R i → w.heap.size ≤ i :=
  ⟨hb.trans (x.fr.below hb.size hO), fun i hi => by
    rcases x.own i hi with q | q
    · exact hO i q
    · have := hb.size; omega⟩
end Go.Proofs.YtlakfnlkiebpdaaDoor
