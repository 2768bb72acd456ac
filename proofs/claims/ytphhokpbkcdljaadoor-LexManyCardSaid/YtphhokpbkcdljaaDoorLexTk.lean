/- Rows of tokens that a call owns: made, opened, appended to. Conditions: none. -/
import Derived.Maps.AppendAt
import Derived.Laws.AppendOwnNone
import Derived.Test.YtphhokpbkcdljaaDoorLexEight
import Derived.Test.YtphhokpbkcdljaaDoorLexSeven
namespace Go.Proofs.YtphhokpbkcdljaaDoor
open Go Go.RowKit
def tkC (t : TkB) : List Value := [.int .i64 t.k, .string t.s, .int .i64 t.n, .int .i64 t.a]
def cellsB (ts : List TkB) : List Value := ts.flatMap tkC
theorem cellsB_len (ts : List TkB) : (cellsB ts).length = ts.length * 4 := by
  induction ts with
  | nil => rfl
  | cons f fs ih => unfold cellsB at ih ⊢; rw [List.flatMap_cons, List.length_append, ih]; simp [tkC]; omega
theorem cellsB_app (a b : List TkB) : cellsB (a ++ b) = cellsB a ++ cellsB b := by simp [cellsB]
theorem cellsB_one (t : TkB) : cellsB [t] = tkC t := by simp [cellsB]
theorem cellsB_T (ts : List (Tok × Nat)) : cellsB (ts.map tkOf) = cellsT ts := by
  induction ts with
  | nil => rfl
  | cons f fs ih => unfold cellsB cellsT at ih ⊢; rw [List.map_cons, List.flatMap_cons, List.flatMap_cons, ih]; rfl
theorem cellsB_at : ∀ (ts : List TkB) (j : Nat) (t : TkB), ts[j]? = some t → ∀ i, i < 4 → (cellsB ts)[j * 4 + i]? = (tkC t)[i]?
  | [], j, t, h => by simp at h
  | x :: ts, 0, t, h => by
    intro i hi
    simp at h; subst h
    unfold cellsB
    rw [List.flatMap_cons, Nat.zero_mul, Nat.zero_add, List.getElem?_append_left (by simp [tkC]; omega)]
  | x :: ts, j + 1, t, h => by
    intro i hi
    have ih := cellsB_at ts j t (by simpa using h) i hi
    unfold cellsB at ih ⊢
    rw [List.flatMap_cons, List.getElem?_append_right (by simp [tkC]; omega), ← ih]
    congr 1
    simp [tkC]; omega
theorem cellsB_one' (ts : List TkB) : ∀ u ∈ cellsB ts, u.oneCell' = true := by
  intro u hu
  obtain ⟨t, _, h⟩ := List.mem_flatMap.1 hu
  simp only [tkC, List.mem_cons, List.not_mem_nil, or_false] at h
  rcases h with rfl | rfl | rfl | rfl <;> rfl
theorem addr_add (b o j : Nat) : (⟨b, o, none⟩ : Addr).add j = ⟨b, o + j, none⟩ := by unfold Addr.add; split <;> simp_all
/-- a slice's tokens, cell for cell -/
theorem Tks.news {n₀ : Nat} {W : World} {A : Option Addr} {ts : List TkB} (h : Tks n₀ W A ts) : ∀ j u, (cellsB ts)[j]? = some u → ∃ ad, A = some ad ∧ W.cell? (ad.add j) = some u := by
  intro j u hu
  have hj := (List.getElem?_eq_some_iff.1 hu).1
  rw [cellsB_len] at hj
  have hq : j / 4 < ts.length := by omega
  have hjt : ts[j / 4]? = some ts[j / 4] := List.getElem?_eq_getElem hq
  obtain ⟨g, off, rfl, _, c0, c1, c2, c3⟩ := h.cell (j / 4) _ hjt
  refine ⟨_, rfl, ?_⟩
  have hc := cellsB_at ts (j / 4) _ hjt (j % 4) (by omega)
  rw [show j / 4 * 4 + j % 4 = j by omega, hu] at hc
  rw [addr_add]
  have hj4 : j = j / 4 * 4 + j % 4 := by omega
  rw [show off + j = off + j / 4 * 4 + j % 4 by omega]
  have hr : j % 4 < 4 := by omega
  generalize j % 4 = r at hc hr ⊢
  match r, hr with
  | 0, _ => rw [Nat.add_zero, c0]; exact hc.symm
  | 1, _ => rw [c1]; exact hc.symm
  | 2, _ => rw [c2]; exact hc.symm
  | 3, _ => rw [c3]; exact hc.symm
theorem tks_ownB {W : World} {n₀ : Nat} {v : Value} {ts : List TkB} (h : W.ownsRow n₀ 32 4 v ts.length (cellsB ts)) (hn : ∀ t ∈ ts, t.Ok) (hf : ts.length ≤ 9223372036854775807) :
    ∃ A cap, v = .slice A ts.length cap ∧ ts.length ≤ cap ∧ (A = none → cap = 0 ∧ ts = []) ∧ Tks W.heap.size W A ts := by
  rcases h.2 with ⟨rfl, h0⟩ | ⟨g, cap, cur, rfl, _, hg, h1, h2, h3, h4⟩
  · have : ts = [] := List.length_eq_zero_iff.1 h0
    subst this
    exact ⟨none, 0, rfl, Nat.le_refl _, fun _ => ⟨rfl, rfl⟩, by simp, fun t ht => by simp at ht, fun j t q => by simp at q⟩
  · refine ⟨_, cap, rfl, h1, (fun q => by cases q), hf, hn, fun j t q => ?_⟩
    have hj : j < ts.length := (List.getElem?_eq_some_iff.1 q).1
    have hc : ∀ i, i < 4 → W.cell? ⟨g, 0 + j * 4 + i, none⟩ = (tkC t)[i]? := fun i hi => by
      have e1 : W.cell? ⟨g, 0 + j * 4 + i, none⟩ = cur[0 + j * 4 + i]? := by simp [World.cell?, hg]
      rw [e1, ← cellsB_at ts j t q i hi, ← h4, List.getElem?_take_of_lt (by omega), Array.getElem?_toList, Nat.zero_add]
    exact ⟨g, 0, rfl, (Array.getElem?_eq_some_iff.1 hg).1, hc 0 (by decide), hc 1 (by decide), hc 2 (by decide), hc 3 (by decide)⟩
/-- an append of a slice of tokens, be there any or none, to a row of the call's own -/
theorem wpList_append_tok {P : Program} {w : World} {ops : Array Oper} {rest : List Oper} {o : Oper} {a : Act} {Q : Exit → Act → World → Prop} (hgd : o.guard = none) (s x : Operand) (t : TypeId)
    (ho : o.op = .call { callee := .builtin .append, args := #[s, x], argTypes := #[t, t] })
    (base : Nat) (e : TypeId) (i : TypeInfo) (z : Value) (bytes : Nat) (ht : P.underlying t = some (.slice e)) (hi : P.info? e = some i) (hz : i.zero = some z)
    (hsize : i.size = 4) (hby : i.bytes = bytes) (hzs : z.cells.size = 4)
    (v : Value) (n : Nat) (xs : List Value) (hs : a.eval s = v) (hown : w.ownsRow base e 4 v n xs)
    (fa : Option Addr) (m c : Nat) (news : List Value) (hx : a.eval x = .slice fa m c) (hno : fa = none → c = 0 ∧ m = 0) (hl : news.length = m * 4) (hnews : ∀ j u, news[j]? = some u → ∃ ad, fa = some ad ∧ w.cell? (ad.add j) = some u) (h1 : ∀ y ∈ news, y.oneCell' = true)
    (h63 : n + m ≤ maxLen) (hbytes : (n + m) * bytes ≤ 140737488355328) (hbase : base ≤ w.heap.size)
    (h : ∀ v' w', w'.ownsRow base e 4 v' (n + m) (xs ++ news) → w.grownBy w' v.ownBlock → (v'.ownBlock = v.ownBlock ∨ v'.ownBlock = some w.heap.size) → wpList P ops Q rest (a.put o.dst v') w') :
    wpList P ops Q (o :: rest) a w := by
  cases fa with
  | none =>
    obtain ⟨rfl, rfl⟩ := hno rfl
    have hn : news = [] := List.eq_nil_of_length_eq_zero (by simpa using hl)
    subst hn
    exact wpList_append_own_none hgd s x t ho base e i 4 ht hi v n xs hs hown hx (h v w (by simpa using hown) (World.grownBy.refl w _) (.inl rfl))
  | some ad =>
    exact wpList_append_own_at w hgd s x t ho base e i z 4 bytes ht hi hz hsize hby hzs (by decide) v n xs hs hown ad m c news hx hl (fun j u hu => by
      obtain ⟨ad', e1, e2⟩ := hnews j u hu
      rw [Option.some.inj e1]; exact e2) h1 h63 hbytes hbase (fun v' w' p q _ r => h v' w' p q r)
theorem sameT_same (p : Bool) (xs : List TkB) : sameT p xs xs = true := by unfold sameT; simp
/-- an append at a guarded operation whose guard holds -/
theorem wpList_append_own_g {P : Program} (w : World) {ops : Array Oper} {rest : List Oper} {o : Oper} {a : Act} {Q : Exit → Act → World → Prop} (hgd : Region.wanted o (yielded ops a.tmps) = true) (s x : Operand) (t : TypeId)
    (ho : o.op = .call { callee := .builtin .append, args := #[s, x], argTypes := #[t, t] })
    (base : Nat) (e : TypeId) (i : TypeInfo) (z : Value) (size bytes : Nat) (ht : P.underlying t = some (.slice e)) (hi : P.info? e = some i) (hz : i.zero = some z)
    (hsize : i.size = size) (hby : i.bytes = bytes) (hzs : z.cells.size = size) (hsz : 0 < size)
    (v : Value) (n : Nat) (xs : List Value) (hs : a.eval s = v) (hown : w.ownsRow base e size v n xs)
    (ad : Addr) (m c : Nat) (news : List Value) (hx : a.eval x = .slice (some ad) m c) (hl : news.length = m * size) (hnews : ∀ j u, news[j]? = some u → w.cell? (ad.add j) = some u) (h1 : ∀ u ∈ news, u.oneCell' = true)
    (h63 : n + m ≤ maxLen) (hbytes : (n + m) * bytes ≤ 140737488355328) (hbase : base ≤ w.heap.size)
    (h : ∀ v' w', w'.ownsRow base e size v' (n + m) (xs ++ news) → w.grownBy w' v.ownBlock → (v' = .slice none 0 0 ↔ v = .slice none 0 0 ∧ m = 0) → (v'.ownBlock = v.ownBlock ∨ v'.ownBlock = some w.heap.size) → wpList P ops Q rest (a.put o.dst v') w') :
    wpList P ops Q (o :: rest) a w := by
  refine wpList_step fun K hK => ?_
  rw [if_pos hgd]
  obtain ⟨v', w', hr, h2, h3, h4, h5⟩ := run_append_own_at (P := P) w base t o.type e i z size bytes ht hi hz hsize hby hzs hsz v n xs hown ad m c news hl hnews h1 h63 hbytes hbase
  unfold Oper.wp execOp
  simp only [ho, resolve, invoke, builtin, Sem.run_bind, Sem.run_pure, Result.andThen_ok, List.map_toArray, List.map_cons, List.map_nil, hs, hx, hr]
  exact hK _ _ (h v' w' h2 h3 h4 h5)
def sumT (ts : List TkB) : Nat := (ts.map fun t => 1 + t.s.size).sum
theorem sumT_succ {ts : List TkB} {k : Nat} {t : TkB} (h : ts[k]? = some t) : sumT (ts.take (k + 1)) = sumT (ts.take k) + 1 + t.s.size := by
  obtain ⟨hk, e⟩ := List.getElem?_eq_some_iff.1 h
  rw [List.take_succ_eq_append_getElem hk, e]
  simp [sumT]; omega
theorem sumT_le {ts : List TkB} {B : Nat} (h : sumT ts ≤ B) : ts.length ≤ B ∧ ∀ t ∈ ts, t.s.size ≤ B := by
  induction ts generalizing B with
  | nil => exact ⟨Nat.zero_le _, fun t ht => by simp at ht⟩
  | cons x xs ih =>
    have e : sumT (x :: xs) = 1 + x.s.size + sumT xs := by simp [sumT]
    rw [e] at h
    obtain ⟨h1, h2⟩ := ih (B := B - (1 + x.s.size)) (by omega)
    refine ⟨by simp; omega, fun t ht => ?_⟩
    rcases List.mem_cons.1 ht with rfl | ht
    · omega
    · have := h2 t ht; omega
def prS : Option (List UInt8) → ByteArray
  | some l => ⟨l.toArray⟩
  | none => ⟨#[]⟩
def prE : Option (List UInt8) → Int
  | some _ => 0
  | none => 1
theorem prV_eq (r : Option (List UInt8)) : prV r = .tuple #[.string (prS r), .int .i64 (prE r)] := by cases r <;> rfl
end Go.Proofs.YtphhokpbkcdljaaDoor
