/- The contract of the reference's Heap. Condition: the list came in as ArgV says. -/
import Derived.Test.YtjdhjehnofediaaGcHpM
import Derived.Test.YtjdhjehnofediaaGcWord
import Derived.Test.YtjdhjehnofediaaRmC
import Derived.Laws.AppendOwnNone
import Derived.Deep.CutRange
namespace Go.Proofs.Ytjdhjehnofediaa
open Go Go.RowKit
/-- a list of objects as it came in -/
structure ArgV (w : World) (a : Option Addr) (N : Nat) (rs : List O4) : Prop where
  len : rs.length = N
  few : (N : Int) ≤ 9223372036854775807
  at_ : ∀ (i : Nat) (o : O4), rs[i]? = some o → ∃ g off fa fc, a = some ⟨g, off, none⟩ ∧ g < w.heap.size ∧ w.cell? ⟨g, off + i * 4, none⟩ = some (.int .i64 o.k) ∧ w.cell? ⟨g, off + i * 4 + 1, none⟩ = some (.int .i64 o.t) ∧ w.cell? ⟨g, off + i * 4 + 2, none⟩ = some (.slice fa o.fs.length fc) ∧ w.cell? ⟨g, off + i * 4 + 3, none⟩ = some (.int .i64 o.bd) ∧ o.fs.length ≤ fc ∧ fc ≤ 9223372036854775807 ∧ (fa = none → fc = 0) ∧
    ∀ (f : Nat) (x : Int), o.fs[f]? = some x → ∃ fg fo, fa = some ⟨fg, fo, none⟩ ∧ fg < w.heap.size ∧ w.cell? ⟨fg, fo + f, none⟩ = some (.int .i64 x)
  rng : In4 rs
theorem ArgV.below {w w1 : World} {a : Option Addr} {N : Nat} {rs : List O4} (h : ArgV w a N rs) (hb : Below w.heap.size w w1) : ArgV w1 a N rs := by
  refine ⟨h.len, h.few, fun i o hi => ?_, h.rng⟩
  obtain ⟨g, off, fa, fc, h1, h2, h3, h4, h5, h6, k1, k2, k3, h7⟩ := h.at_ i o hi
  have hs := hb.size
  have hc : ∀ (q : Nat) (u : Value), w.cell? ⟨g, q, none⟩ = some u → w1.cell? ⟨g, q, none⟩ = some u := fun q u hu => (World.cell?_of_block (hb.block g h2)).trans hu
  refine ⟨g, off, fa, fc, h1, by omega, hc _ _ h3, hc _ _ h4, hc _ _ h5, hc _ _ h6, k1, k2, k3, fun f x hx => ?_⟩
  obtain ⟨fg, fo, e1, e2, e3⟩ := h7 f x hx
  exact ⟨fg, fo, e1, by omega, (World.cell?_of_block (hb.block fg e2)).trans e3⟩
def oCells (o : O4) (u : Value) : List Value := [.int .i64 o.k, .int .i64 o.t, u, .int .i64 o.bd]
def cells4 (Q : List (O4 × Value)) : List Value := Q.flatMap fun p => oCells p.1 p.2
theorem cells4_cons (p : O4 × Value) (Q : List (O4 × Value)) : cells4 (p :: Q) = oCells p.1 p.2 ++ cells4 Q := rfl
theorem cells4_length (Q : List (O4 × Value)) : (cells4 Q).length = Q.length * 4 := by
  induction Q with
  | nil => rfl
  | cons p Q ih => rw [cells4_cons, List.length_append, ih]; simp [oCells]; omega
theorem cells4_snoc (Q : List (O4 × Value)) (p : O4 × Value) : cells4 (Q ++ [p]) = cells4 Q ++ oCells p.1 p.2 := by simp [cells4]
theorem cells4_get {Q : List (O4 × Value)} {p : O4 × Value} (i : Nat) (hi : i < 4) : ∀ {j : Nat}, Q[j]? = some p → (cells4 Q)[j * 4 + i]? = (oCells p.1 p.2)[i]? := by
  induction Q with
  | nil => intro j h; simp at h
  | cons q Q ih =>
    intro j h
    rw [cells4_cons]
    cases j with
    | zero =>
      rw [List.getElem?_cons_zero] at h
      obtain rfl := Option.some.inj h
      rw [List.getElem?_append_left (by simp [oCells]; omega), Nat.zero_mul, Nat.zero_add]
    | succ j =>
      rw [List.getElem?_cons_succ] at h
      rw [List.getElem?_append_right (by simp [oCells]; omega), ← ih h]
      congr 1
      simp [oCells]; omega
/-- the heap in the making -/
structure HP (w : World) (v : Value) (Q : List (O4 × Value)) (wr : World) : Prop where
  row : wr.ownsRow w.heap.size 71 4 v Q.length (cells4 Q)
  fs : ∀ p ∈ Q, wr.ownsRow w.heap.size 3 1 p.2 p.1.fs.length (ints p.1.fs)
  base : Below w.heap.size w wr
section
variable {w wr w1 : World} {v : Value} {Q : List (O4 × Value)}
theorem own4 {O : Nat → Prop} {B : Nat} (hf : Fr O w w1) {e : TypeId} {n s : Nat} {xs : List Value} (hr : w.ownsRow B e s v n xs) (hn : ∀ g, v.ownBlock = some g → ¬ O g) : w1.ownsRow B e s v n xs := by
  refine ⟨hr.1, ?_⟩
  rcases hr.2 with h0 | ⟨g, cap, cur, rfl, hb, hg, rest⟩
  · exact .inl h0
  · exact .inr ⟨g, cap, cur, rfl, hb, (hf.block g (Array.getElem?_eq_some_iff.1 hg).1 (hn g rfl)).trans hg, rest⟩
theorem HP.nil (w : World) : HP w (.slice none 0 0) [] w := ⟨World.ownsRow_nil _ _ _ _, by simp, Below.refl _ _⟩
theorem HP.below (h : HP w v Q wr) (hb : Below wr.heap.size wr w1) : HP w v Q w1 :=
  ⟨own4 (Fr.of_below (O := fun _ => False) hb) h.row (fun _ _ => id), fun p hp => own4 (Fr.of_below (O := fun _ => False) hb) (h.fs p hp) (fun _ _ => id), h.base.trans (hb.mono h.base.size)⟩
theorem own_apart {B B' : Nat} {e e' : TypeId} {n n' s s' : Nat} {xs xs' : List Value} {u : Value} (h : w.ownsRow B e s v n xs) (h' : w.ownsRow B' e' s' u n' xs') (hne : e ≠ e') : ∀ g, u.ownBlock = some g → ¬ v.ownBlock = some g := by
  intro g hg hv
  rcases h.2 with ⟨rfl, _⟩ | ⟨g1, _, _, rfl, _, hk, _⟩
  · cases hv
  · rcases h'.2 with ⟨rfl, _⟩ | ⟨g2, _, _, rfl, _, hk', _⟩
    · cases hg
    · obtain rfl : g1 = g := by simpa [Value.ownBlock] using hv
      obtain rfl : g2 = g1 := by simpa [Value.ownBlock] using hg
      rw [hk] at hk'
      injection hk' with hk'
      injection hk' with _ h3 _
      exact hne h3
theorem HP.push (h : HP w v Q wr) {o : O4} {u v' : Value} {tmp : Obj} (hu : wr.ownsRow w.heap.size 3 1 u o.fs.length (ints o.fs)) (hown : w1.ownsRow w.heap.size 71 4 v' (Q.length + 1) (cells4 Q ++ oCells o u)) (hg : (wr.alloc tmp).grownBy w1 v.ownBlock) : HP w v' (Q ++ [(o, u)]) w1 := by
  have hf : Fr (fun i => v.ownBlock = some i) wr w1 := ((Fr.refl _ wr).alloc tmp).grown hg (fun _ hk => .inl hk)
  refine ⟨?_, fun p hp => ?_, ?_⟩
  · rw [List.length_append, List.length_singleton, cells4_snoc]; exact hown
  · rcases List.mem_append.1 hp with e | e
    · exact own4 hf (h.fs p e) (own_apart h.row (h.fs p e) (by decide))
    · rw [List.mem_singleton.1 e]
      exact own4 hf hu (own_apart h.row hu (by decide))
  · exact h.base.trans (hf.below h.base.size (fun i hi => (h.row.lt i hi).1))
theorem HP.obsV (h : HP w v Q wr) {os : List O4} (e : Q.map Prod.fst = os) (hf : os.length ≤ 40) (hs : ∀ o ∈ os, o.fs.length ≤ 12) : ∃ a c, v = .slice a os.length c ∧ ObsV wr a os.length os := by
  have hl : Q.length = os.length := by rw [← e]; simp
  obtain ⟨a, c, rfl, _, _⟩ : ∃ a c, v = .slice a Q.length c ∧ Q.length ≤ c ∧ True := by
    rcases h.row.2 with ⟨hv, h0⟩ | ⟨g, cap, cur, hv, _, _, h1, _⟩
    · exact ⟨none, 0, by rw [hv, h0], by omega, trivial⟩
    · exact ⟨_, cap, hv, h1, trivial⟩
  rw [hl]
  refine ⟨a, c, rfl, rfl, hf, hs, fun i o hi => ?_⟩
  rw [← e, List.getElem?_map] at hi
  cases hq : Q[i]? with
  | none => rw [hq] at hi; cases hi
  | some p =>
    rw [hq] at hi
    obtain rfl : p.1 = o := Option.some.inj hi
    have hil := (List.getElem?_eq_some_iff.1 hq).1
    have ho := h.row
    rcases h.row.2 with ⟨hv, h0⟩ | ⟨g, cap, cur, hv, _, hgk, _⟩
    · omega
    · injection hv with e1 _ _
      subst e1
      have hc : ∀ q, q < 4 → wr.cell? ⟨g, i * 4 + q, none⟩ = (oCells p.1 p.2)[q]? := fun q hq4 => by
        rw [ho.cellAt _ (by omega), cells4_get q hq4 hq]
      have hu := h.fs p (List.mem_of_getElem? hq)
      obtain ⟨fa, fc, hpv, _, _, hcf⟩ := rowI hu
      refine ⟨g, 0, fa, fc, rfl, (Array.getElem?_eq_some_iff.1 hgk).1, ?_, ?_, ?_, ?_, fun f x hx => ?_⟩
      · rw [Nat.zero_add]; exact hc 0 (by decide)
      · rw [Nat.zero_add]; exact hc 1 (by decide)
      · rw [Nat.zero_add, ← hpv]; exact hc 2 (by decide)
      · rw [Nat.zero_add]; exact hc 3 (by decide)
      · obtain ⟨fg, e1, e2, e3, _⟩ := hcf f x hx
        exact ⟨fg, 0, e1, e2, by rw [Nat.zero_add]; exact e3⟩
end
/-- an append of what some cells hold, be there any or none, to a row of the call's own -/
theorem wpList_append_opt {P : Program} {w : World} {ops : Array Oper} {rest : List Oper} {o : Oper} {a : Act} {Q : Exit → Act → World → Prop} (hgd : o.guard = none) (s x : Operand) (t : TypeId)
    (ho : o.op = .call { callee := .builtin .append, args := #[s, x], argTypes := #[t, t] })
    (base : Nat) (e : TypeId) (i : TypeInfo) (z : Value) (bytes : Nat) (ht : P.underlying t = some (.slice e)) (hi : P.info? e = some i) (hz : i.zero = some z)
    (hsize : i.size = 1) (hby : i.bytes = bytes) (hzs : z.cells.size = 1)
    (v : Value) (n : Nat) (xs : List Value) (hs : a.eval s = v) (hown : w.ownsRow base e 1 v n xs)
    (fa : Option Addr) (m c : Nat) (news : List Value) (hx : a.eval x = .slice fa m c) (hno : fa = none → c = 0 ∧ m = 0) (hl : news.length = m) (hnews : ∀ j u, news[j]? = some u → ∃ ad, fa = some ad ∧ w.cell? (ad.add j) = some u) (h1 : ∀ y ∈ news, y.oneCell' = true)
    (h63 : n + m ≤ maxLen) (hbytes : (n + m) * bytes ≤ 140737488355328) (hbase : base ≤ w.heap.size)
    (h : ∀ v' w', w'.ownsRow base e 1 v' (n + m) (xs ++ news) → w.grownBy w' v.ownBlock → (v'.ownBlock = v.ownBlock ∨ v'.ownBlock = some w.heap.size) → wpList P ops Q rest (a.put o.dst v') w') :
    wpList P ops Q (o :: rest) a w := by
  cases fa with
  | none =>
    obtain ⟨rfl, rfl⟩ := hno rfl
    have hn : news = [] := List.eq_nil_of_length_eq_zero hl
    subst hn
    exact wpList_append_own_none hgd s x t ho base e i 1 ht hi v n xs hs hown hx (h v w (by simpa using hown) (World.grownBy.refl w _) (.inl rfl))
  | some ad =>
    exact wpList_append_own_at w hgd s x t ho base e i z 1 bytes ht hi hz hsize hby hzs (by decide) v n xs hs hown ad m c news hx (by rw [hl, Nat.mul_one]) (fun j u hu => by
      obtain ⟨ad', e1, e2⟩ := hnews j u hu
      rw [Option.some.inj e1]; exact e2) h1 h63 hbytes hbase (fun v' w' p q _ r => h v' w' p q r)
theorem plain_add (b o j : Nat) : (⟨b, o, none⟩ : Addr).add j = ⟨b, o + j, none⟩ := by unfold Addr.add; split <;> simp_all
theorem sl_to (A : Option Addr) (L c m : Nat) (hm : m ≤ c) (W : World) : (Instr.sliceAt 23 (.slice A L c) none (some (.int .i64 (m : Int))) none).run Try.prog W = .ok (.slice A m c) W := by
  have hs : (sizeOf 3).run Try.prog W = .ok 1 W := by kernel_rfl
  have he : Try.prog.elem 23 = 3 := by kernel_rfl
  have h1 := run_sliceAt_slice (P := Try.prog) (w := W) 23 (.slice A L c) none (some (.int .i64 (m : Int))) none (by rw [he]; exact Try.underlying23)
  have h2 := run_slice_h (P := Try.prog) (w := W) 23 A L c (by rw [he]; exact Try.underlying23) .i64 (m : Int) (by omega) (by omega)
  rw [h1, h2, he, hs]
  have ha : ∀ ad : Addr, ad.add 0 = ad := fun ad => by
    obtain ⟨b, o, sp⟩ := ad
    cases sp <;> simp [Addr.add]
  have hA : A.map (fun x => x.add 0) = A := by cases A <;> simp [ha]
  simp [sliced, hA]
theorem own_single (w : World) (t : TypeId) (x : Value) : (w.alloc (.cells #[x] t)).ownsRow w.heap.size t 1 (.slice (some ⟨w.heap.size, 0, none⟩) 1 1) 1 [x] :=
  ⟨by simp, .inr ⟨w.heap.size, 1, #[x], rfl, Nat.le_refl _, heap_alloc_new w _, Nat.le_refl _, by simp [maxLen], by simp, by simp⟩⟩
/-- the fields of an object in the making are laid -/
theorem fields_laid {w3 w5 : World} {ob B n : Nat} {K t bd : Int} {u0 v5 : Value} {xs : List Value} {tmp : Obj} (hB : w3.heap.size = B) (hblk : w3.heap[ob]? = some (.cells #[.int .i64 K, .int .i64 t, u0, .int .i64 bd] 71 (0, 0)))
    (hown : w5.ownsRow B 3 1 v5 n xs) (hg : (w3.alloc tmp).grownBy w5 (some B)) :
    w5.heap[ob]? = some (.cells #[.int .i64 K, .int .i64 t, u0, .int .i64 bd] 71 (0, 0)) ∧ (w5.setCell ⟨ob, 2, none⟩ v5).heap[ob]? = some (.cells #[.int .i64 K, .int .i64 t, v5, .int .i64 bd] 71 (0, 0)) ∧ (w5.setCell ⟨ob, 2, none⟩ v5).ownsRow B 3 1 v5 n xs ∧ Fr (· = ob) w3 (w5.setCell ⟨ob, 2, none⟩ v5) := by
  subst hB
  have hlt : ob < w3.heap.size := (Array.getElem?_eq_some_iff.1 hblk).1
  have hb : w5.heap[ob]? = _ := (hg.block ob (by simp; omega) (fun e => by have := Option.some.inj e; omega)).trans ((Below.heap_alloc _ tmp ob hlt).trans hblk)
  refine ⟨hb, blk_set hb 2 v5, ?_, (((Fr.refl (· = ob) w3).alloc tmp).grown hg (fun k hk => .inr (by have := Option.some.inj hk; omega))).setCell (p := ⟨ob, 2, none⟩) (.inl rfl) _⟩
  refine own4 ((Fr.refl (· = ob) w5).setCell (p := ⟨ob, 2, none⟩) (.inl rfl) v5) hown (fun g hg' e => ?_)
  have := (hown.lt g hg').1
  omega
theorem own_apart2 {w : World} {ob B n : Nat} {cs : Array Value} {v : Value} {xs : List Value} (h : w.heap[ob]? = some (.cells cs 71 (0, 0))) (h' : w.ownsRow B 3 1 v n xs) : ∀ g, v.ownBlock = some g → ¬ g = ob := by
  intro g hg e
  rcases h'.2 with ⟨rfl, _⟩ | ⟨g2, _, _, rfl, _, hk', _⟩
  · cases hg
  · obtain rfl : g2 = g := by simpa [Value.ownBlock] using hg
    rw [e, h] at hk'
    injection hk' with hk'
    injection hk' with _ h3 _
    exact absurd h3 (by decide)
theorem cells4_at (w : World) (a b c d : Value) (t : TypeId) : ∀ j u, [a, b, c, d][j]? = some u → (w.alloc (.cells #[a, b, c, d] t)).cell? ((⟨w.heap.size, 0, none⟩ : Addr).add j) = some u := by
  intro j u hu
  have hadd : (⟨w.heap.size, 0, none⟩ : Addr).add j = ⟨w.heap.size, j, none⟩ := by unfold Addr.add; split <;> simp_all
  rw [hadd, cell_of_row _ _ j _ t (0, 0) (heap_alloc_new w _)]
  simpa using hu
theorem oc_one {o : O4} {u : Value} (hu : u.oneCell' = true) : ∀ v ∈ oCells o u, v.oneCell' = true := by
  intro v hv
  simp [oCells] at hv
  rcases hv with rfl | rfl | rfl | rfl
  · rfl
  · rfl
  · exact hu
  · rfl
end Go.Proofs.Ytjdhjehnofediaa
