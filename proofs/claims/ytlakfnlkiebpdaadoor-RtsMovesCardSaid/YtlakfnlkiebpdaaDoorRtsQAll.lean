/- Plain mathematics: quoted texts. Conditions: none. The contracts of Quote, the program's and the document's: the quoted text; nothing that lay has turned. Conditions: the text is no longer than a million bytes. -/
import Derived.Laws.MakeOwn
import Derived.Lib.AppendStr
import Derived.Deep.AppendLies
import Derived.Deep.RegionLaw
import Derived.Test.YtlakfnlkiebpdaaDoorRefPackAll
namespace Go.Proofs.YtlakfnlkiebpdaaDoor
/-- a digit of sixteen -/
def hexN (n : Nat) : UInt8 := UInt8.ofNat (if n < 10 then 48 + n else 55 + n)
/-- what stands for a byte -/
def quoteB (c : UInt8) : List UInt8 :=
  if c = 34 ∨ c = 92 then [92, c] else if c = 10 then [92, 110] else if c = 9 then [92, 116] else if c.toNat < 32 ∨ 126 < c.toNat then [92, 120, hexN (c.toNat / 16), hexN (c.toNat % 16)] else [c]
def quoteI (l : List UInt8) : List UInt8 := l.flatMap quoteB
def quoteL (l : List UInt8) : List UInt8 := 34 :: quoteI l ++ [34]
theorem quoteI_snoc (l : List UInt8) (c : UInt8) : quoteI (l ++ [c]) = quoteI l ++ quoteB c := by simp [quoteI]
theorem quoteB_len (c : UInt8) : 1 ≤ (quoteB c).length ∧ (quoteB c).length ≤ 4 := by
  unfold quoteB
  split
  · simp
  · split
    · simp
    · split
      · simp
      · split <;> simp
theorem quoteI_len (l : List UInt8) : l.length ≤ (quoteI l).length ∧ (quoteI l).length ≤ 4 * l.length := by
  induction l with
  | nil => simp [quoteI]
  | cons c l ih =>
    have h := quoteB_len c
    have e : quoteI (c :: l) = quoteB c ++ quoteI l := by simp [quoteI]
    rw [e, List.length_append, List.length_cons]
    omega
theorem quoteL_len (l : List UInt8) : l.length + 2 ≤ (quoteL l).length ∧ (quoteL l).length ≤ 4 * l.length + 2 := by
  have h := quoteI_len l
  simp only [quoteL, List.length_append, List.length_cons, List.length_nil]
  omega
theorem hexN_seen : ∀ n : Nat, n < 16 → 48 ≤ (hexN n).toNat ∧ (hexN n).toNat ≤ 70 := by decide
theorem quoteB_seen (c : UInt8) : ∀ b ∈ quoteB c, 32 ≤ b.toNat ∧ b.toNat ≤ 126 := by
  have hc : c.toNat < 256 := c.toNat_lt
  unfold quoteB
  split
  · rename_i h
    intro b hb
    simp at hb
    rcases hb with rfl | rfl
    · decide
    · rcases h with rfl | rfl <;> decide
  · split
    · intro b hb
      simp at hb
      rcases hb with rfl | rfl <;> decide
    · split
      · intro b hb
        simp at hb
        rcases hb with rfl | rfl <;> decide
      · split
        · intro b hb
          have h1 := hexN_seen (c.toNat / 16) (by omega)
          have h2 := hexN_seen (c.toNat % 16) (by omega)
          simp at hb
          rcases hb with rfl | rfl | rfl | rfl
          · decide
          · decide
          · omega
          · omega
        · rename_i h
          intro b hb
          simp at hb
          subst hb
          omega
theorem quoteL_seen (l : List UInt8) : ∀ b ∈ quoteL l, 32 ≤ b.toNat ∧ b.toNat ≤ 126 := by
  intro b hb
  simp only [quoteL, List.mem_append, List.mem_cons, List.not_mem_nil, or_false] at hb
  rcases hb with (rfl | hb) | rfl
  · decide
  · obtain ⟨c, _, hb⟩ := List.mem_flatMap.1 hb
    exact quoteB_seen c b hb
  · decide
/-- the byte that some sign stands for, and how long it is -/
def unhexN (b : UInt8) : Nat := if b.toNat < 58 then b.toNat - 48 else b.toNat - 55
theorem unhex_hex : ∀ n : Nat, n < 16 → unhexN (hexN n) = n := by decide
def signOf : List UInt8 → UInt8 × Nat
  | a :: l => if a ≠ 92 then (a, 1) else match l with
    | b :: l2 => if b = 110 then (10, 2) else if b = 116 then (9, 2) else if b = 120 then (match l2 with
      | x :: y :: _ => (UInt8.ofNat (16 * unhexN x + unhexN y), 4)
      | _ => (0, 0)) else (b, 2)
    | _ => (0, 0)
  | _ => (0, 0)
theorem sign_quote (c : UInt8) (x : List UInt8) : signOf (quoteB c ++ x) = (c, (quoteB c).length) := by
  have hc : c.toNat < 256 := c.toNat_lt
  unfold quoteB
  by_cases h1 : c = 34 ∨ c = 92
  · rw [if_pos h1]
    rcases h1 with rfl | rfl <;> rfl
  · rw [if_neg h1]
    by_cases h2 : c = 10
    · rw [if_pos h2, h2]; rfl
    · rw [if_neg h2]
      by_cases h3 : c = 9
      · rw [if_pos h3, h3]; rfl
      · rw [if_neg h3]
        by_cases h4 : c.toNat < 32 ∨ 126 < c.toNat
        · rw [if_pos h4]
          have e1 := unhex_hex (c.toNat / 16) (by omega)
          have e2 := unhex_hex (c.toNat % 16) (by omega)
          show (UInt8.ofNat (16 * unhexN (hexN (c.toNat / 16)) + unhexN (hexN (c.toNat % 16))), 4) = (c, 4)
          rw [e1, e2, show 16 * (c.toNat / 16) + c.toNat % 16 = c.toNat by omega, UInt8.ofNat_toNat]
        · rw [if_neg h4]
          have hn : c ≠ 92 := fun e => h1 (.inr e)
          show (if c ≠ 92 then (c, 1) else _) = (c, 1)
          rw [if_pos hn]
theorem quoteB_inj {a b : UInt8} {x y : List UInt8} (h : quoteB a ++ x = quoteB b ++ y) : a = b ∧ x = y := by
  have h1 := sign_quote a x
  rw [h, sign_quote b y] at h1
  have e := congrArg Prod.fst h1
  simp at e
  subst e
  exact ⟨rfl, List.append_cancel_left h⟩
theorem quoteB_no (a : UInt8) (x : List UInt8) : quoteB a ++ x ≠ [34] := by
  intro h
  have h1 := sign_quote a x
  rw [h] at h1
  have h2 : ((34 : UInt8), 1) = (a, (quoteB a).length) := h1
  have e := congrArg Prod.fst h2
  have e' : (34 : UInt8) = a := e
  subst e'
  have e2 := congrArg Prod.snd h2
  exact absurd e2 (by decide)
theorem quoteI_inj : ∀ {l m : List UInt8}, quoteI l ++ [34] = quoteI m ++ [34] → l = m
  | [], [], _ => rfl
  | a :: l, [], h => by
    have e : quoteI (a :: l) = quoteB a ++ quoteI l := by simp [quoteI]
    rw [e, List.append_assoc] at h
    exact absurd h (quoteB_no a _)
  | [], b :: m, h => by
    have e : quoteI (b :: m) = quoteB b ++ quoteI m := by simp [quoteI]
    rw [e, List.append_assoc] at h
    exact absurd h.symm (quoteB_no b _)
  | a :: l, b :: m, h => by
    have e1 : quoteI (a :: l) = quoteB a ++ quoteI l := by simp [quoteI]
    have e2 : quoteI (b :: m) = quoteB b ++ quoteI m := by simp [quoteI]
    rw [e1, e2, List.append_assoc, List.append_assoc] at h
    obtain ⟨rfl, h2⟩ := quoteB_inj h
    rw [quoteI_inj h2]
theorem quoteL_inj {l m : List UInt8} (h : quoteL l = quoteL m) : l = m := by
  unfold quoteL at h
  simp only [List.cons_append] at h
  injection h with _ h
  exact quoteI_inj h
end Go.Proofs.YtlakfnlkiebpdaaDoor
namespace Go.Proofs.YtlakfnlkiebpdaaDoor
open Go Go.RowKit
theorem cellsN_at (w : World) (vs : List Value) (t : TypeId) : ∀ j u, vs[j]? = some u → (w.alloc (.cells vs.toArray t)).cell? ((⟨w.heap.size, 0, none⟩ : Addr).add j) = some u := by
  intro j u hu
  have hadd : (⟨w.heap.size, 0, none⟩ : Addr).add j = ⟨w.heap.size, j, none⟩ := by unfold Addr.add; split <;> simp_all
  rw [hadd, cell_of_row _ _ j _ t (0, 0) (World.alloc_heap_new w _)]
  simpa using hu
theorem cellsN_on (w : World) (vs : List Value) (t : TypeId) (g : Nat) (hg : w.heap.size = g) : ∀ j u, vs[j]? = some u → (w.alloc (.cells vs.toArray t)).cell? ((⟨g, 0, none⟩ : Addr).add j) = some u := by
  subst hg
  exact cellsN_at w vs t
/-- the bytes that are owned, since the world w -/
structure QR (w wr : World) (l : List UInt8) (v : Value) : Prop where
  row : wr.ownsRow w.heap.size 5 1 v l.length (NumL.u8s l)
  fr : Below w.heap.size w wr
theorem u8s_app (l m : List UInt8) : NumL.u8s (l ++ m) = NumL.u8s l ++ NumL.u8s m := by simp [NumL.u8s]
theorem QR.grow {w wr w1 : World} {l m : List UInt8} {v v' : Value} {n : Nat} {xs : List Value} (q : QR w wr l v) (hx : xs = NumL.u8s m) (hn : n = m.length) (hown : w1.ownsRow w.heap.size 5 1 v' (l.length + n) (NumL.u8s l ++ xs)) (hg : wr.grownBy w1 v.ownBlock) : QR w w1 (l ++ m) v' := by
  subst hx hn
  exact ⟨by rw [List.length_append, u8s_app]; exact hown, q.fr.grown hg q.fr.size (fun j hj => (q.row.lt j hj).1)⟩
theorem QR.app {w wr w1 : World} {l m : List UInt8} {v v' : Value} {n : Nat} {xs : List Value} {tmp : Obj} (q : QR w wr l v) (hx : xs = NumL.u8s m) (hn : n = m.length) (hown : w1.ownsRow w.heap.size 5 1 v' (l.length + n) (NumL.u8s l ++ xs)) (hg : (wr.alloc tmp).grownBy w1 v.ownBlock) : QR w w1 (l ++ m) v' :=
  QR.grow ⟨q.row.alloc _, q.fr.alloc q.fr.size _⟩ hx hn hown hg
theorem take_snocB (s : ByteArray) (k : Nat) (h : k < s.size) : s.data.toList.take (k + 1) = s.data.toList.take k ++ [s[k]] := by
  rw [List.take_succ_eq_append_getElem (by simpa using h)]; rfl
/-- what stands for a byte, by what it is -/
theorem qb_1 {c : UInt8} {x : Nat} (hx : c.toNat = x) (h : x = 34 ∨ x = 92) : quoteB c = [92, c] := by
  unfold quoteB
  rw [if_pos]
  rcases h with h | h
  · exact .inl (UInt8.toNat_inj.1 (by rw [hx, h]; rfl))
  · exact .inr (UInt8.toNat_inj.1 (by rw [hx, h]; rfl))
theorem qb_2 {c : UInt8} {x : Nat} (hx : c.toNat = x) (h : x = 10) : quoteB c = [92, 110] := by
  obtain rfl : c = 10 := UInt8.toNat_inj.1 (by rw [hx, h]; rfl)
  rfl
theorem qb_3 {c : UInt8} {x : Nat} (hx : c.toNat = x) (h : x = 9) : quoteB c = [92, 116] := by
  obtain rfl : c = 9 := UInt8.toNat_inj.1 (by rw [hx, h]; rfl)
  rfl
theorem qb_ne {c : UInt8} {x : Nat} (hx : c.toNat = x) (h1 : x ≠ 34) (h2 : x ≠ 92) (h3 : x ≠ 10) (h4 : x ≠ 9) : quoteB c = if c.toNat < 32 ∨ 126 < c.toNat then [92, 120, hexN (c.toNat / 16), hexN (c.toNat % 16)] else [c] := by
  unfold quoteB
  have n : ∀ k : UInt8, c = k → x = k.toNat := fun k e => by rw [← hx, e]
  rw [if_neg (fun h => by rcases h with h | h; exact h1 (n 34 h); exact h2 (n 92 h)), if_neg (fun h => h3 (n 10 h)), if_neg (fun h => h4 (n 9 h))]
theorem qb_4 {c : UInt8} {x : Nat} (hx : c.toNat = x) (h1 : x ≠ 34) (h2 : x ≠ 92) (h3 : x ≠ 10) (h4 : x ≠ 9) (h5 : x < 32 ∨ 126 < x) : quoteB c = [92, 120, hexN (x / 16), hexN (x % 16)] := by
  rw [qb_ne hx h1 h2 h3 h4, hx, if_pos h5]
theorem qb_5 {c : UInt8} {x : Nat} (hx : c.toNat = x) (h1 : x ≠ 34) (h2 : x ≠ 92) (h3 : x ≠ 10) (h4 : x ≠ 9) (h5 : ¬ (x < 32 ∨ 126 < x)) : quoteB c = [c] := by
  rw [qb_ne hx h1 h2 h3 h4, hx, if_neg h5]
theorem hex_run (n : Nat) (hn : n < 16) (k : IntKind) (i : Int) (hi : i = n) (W : World) : (Instr.index 9 (.string ⟨#[48, 49, 50, 51, 52, 53, 54, 55, 56, 57, 65, 66, 67, 68, 69, 70]⟩) (.int k i)).run Tryd.prog W = .ok (.int .u8 ((hexN n).toNat : Int)) W := by
  subst hi
  have hs : (0 : Int) ≤ (n : Int) ∧ (n : Int) < ((⟨#[48, 49, 50, 51, 52, 53, 54, 55, 56, 57, 65, 66, 67, 68, 69, 70]⟩ : ByteArray).size : Nat) := ⟨by omega, by show (n : Int) < 16; omega⟩
  rw [run_index_string W 9 _ k n Tryd.underlying9, dif_pos hs]
  have h16 : ∀ m : Nat, (h : m < 16) → ((⟨#[48, 49, 50, 51, 52, 53, 54, 55, 56, 57, 65, 66, 67, 68, 69, 70]⟩ : ByteArray)[m]'(by show m < 16; exact h)) = hexN m := by decide
  have := h16 n hn
  simp only [Int.toNat_natCast]
  rw [this]
theorem and15 : ∀ x : Nat, x < 256 → bits .and .u8 (x : Int) 15 = ((x % 16 : Nat) : Int) := by decide +kernel
theorem QR.drew {w wr : World} {l : List UInt8} {v : Value} (q : QR w wr l v) : QR w wr.drew l v := ⟨q.row.drew, q.fr.drew⟩
set_option maxRecDepth 100000 in
set_option maxHeartbeats 8000000 in
theorem quote_any (s : ByteArray) (hs : s.size ≤ 1000000) (w : World) :
    Calls Tryd.prog 35 #[.string s] w fun e w' => e = .returned (.string ⟨(quoteL s.data.toList).toArray⟩) ∧ Below w.heap.size w w' := by
  obtain ⟨i0, hi, hz0, hz1, hz2⟩ := info_parts NumL.infoU8
  obtain ⟨w1, hmk, hown0, hgr0⟩ := run_make_own w w.heap.size 125 5 i0 (.int .u8 0) 1 Tryd.underlying125 hi hz0 hz1 .i64 .i64 (s.size + 2) (by rw [hz2]; omega) (by unfold maxLen; omega) (Nat.le_refl _)
  rw [show ((s.size + 2 : Nat) : Int) = (s.size : Int) + 2 by omega] at hmk
  have HQ0 := Lib.hid (show QR w w1 [] (.slice (some ⟨w.heap.size, 0, none⟩) 0 (s.size + 2)) from ⟨hown0, (Below.refl _ w).grown hgr0 (Nat.le_refl _) (fun j hj => by cases hj)⟩)
  have hs1 : w.heap.size ≤ w1.heap.size := hgr0.size
  clear hown0 hgr0
  go_enter Tryd.func35, Tryd.ntmps35
  go_wp2_with (at_builtin; refine wpList_append_own_at _ rfl _ _ 125 rfl w.heap.size 5 i0 (.int .u8 0) 1 1 Tryd.underlying125 hi hz0 hz1 hz2 rfl (by decide) _ 0 [] rfl (HQ0.out.row.alloc _) ⟨w1.heap.size, 0, none⟩ 1 1 [.int .u8 34] rfl rfl (cell_one_new _ _ _) (by simp [Value.oneCell']) (by unfold maxLen; omega) (by omega) (by simp; omega) ?_; intro v2 w2 hown2 hgrow2 _ _; have HQ2 := Lib.hid (HQ0.out.app (m := [34]) (xs := [.int .u8 34]) rfl rfl hown2 hgrow2); clear hown2 hgrow2)
  have hqs : ∀ l : List UInt8, l.length ≤ s.size → ([34] ++ quoteI l).length ≤ 4000001 := fun l hl => by
    have := (quoteI_len l).2
    simp only [List.length_append, List.length_cons, List.length_nil]; omega
  have HQS := Lib.hid hqs
  have hsl : s.data.toList.length = s.size := by simp
  have HSL := Lib.hid hsl
  clear hqs hsl hmk
  go_loopw [3, 15] (fun q i wr => ∃ (k : Nat), k ≤ s.size ∧ i = .int .i64 k ∧ QR w wr ([34] ++ quoteI (s.data.toList.take k)) q) (fun _ i _ => s.size - (intOf i).toNat)
  case atStart => exact ⟨0, Nat.zero_le _, rfl, HQ2.out⟩
  case round =>
    rename_i u3 _
    obtain ⟨k, hk, rfl, hq⟩ := hrel
    clear HQ2 HQ0
    have hle := hq.fr.size
    by_cases hlt : k < s.size
    · have hln := HQS.out (s.data.toList.take k) (by rw [List.length_take]; omega)
      obtain ⟨L, hL⟩ : ∃ L, [34] ++ quoteI (s.data.toList.take k) = L := ⟨_, rfl⟩
      rw [hL] at hq hln
      have hts := take_snocB s k hlt
      have HSN := Lib.hid (show [34] ++ quoteI (s.data.toList.take (k + 1)) = L ++ quoteB s[k] from by rw [hts, quoteI_snoc, ← hL, List.append_assoc])
      obtain ⟨n, hn⟩ : ∃ n, L.length = n := ⟨_, rfl⟩
      have hrow := hq.row
      rw [hn] at hrow hln
      have HQ := Lib.hid hq
      have HROW := Lib.hid hrow
      have HN := Lib.hid hn
      have hc256 : (s[k]).toNat < 256 := (s[k]).toNat_lt
      obtain ⟨x, hx⟩ : ∃ x, (s[k]).toNat = x := ⟨_, rfl⟩
      rw [hx] at hc256
      have HX := Lib.hid hx
      clear hq hrow hn hL hts
      by_cases h1 : x = 34 ∨ x = 92
      · have HB := Lib.hid (qb_1 HX.out h1)
        have b3 : (((x : Int) == 34) = true) ∨ (((x : Int) == 34) = false ∧ ((x : Int) == 92) = true) := by
          rcases h1 with h1 | h1
          · left; simp; omega
          · right; constructor <;> simp <;> omega
        clear h1
        rcases b3 with b1 | ⟨b1, b2⟩
        all_goals
          go_wp2_with (at_builtin; refine wpList_append_own_at _ rfl _ _ 125 rfl w.heap.size 5 i0 (.int .u8 0) 1 1 Tryd.underlying125 hi hz0 hz1 hz2 rfl (by decide) _ n (NumL.u8s L) rfl (HROW.out.alloc _) ⟨wr.heap.size, 0, none⟩ 2 2 [.int .u8 92, .int .u8 (x : Int)] rfl rfl (cellsN_at _ [_, _] _) (by simp [Value.oneCell']) (by unfold maxLen; omega) (by omega) (by simp; omega) ?_; intro v5 w5 hown5 hgrow5 _ _; have HQ5 := Lib.hid (HQ.out.app (m := [92, s[k]]) (n := 2) (xs := [.int .u8 92, .int .u8 (x : Int)]) (by rw [← HX.out]; rfl) rfl (by rw [HN.out]; exact hown5) hgrow5); clear hown5 hgrow5)
          go_roundw
          case rel => exact ⟨k + 1, hlt, by go_num, by rw [HSN.out, HB.out]; exact HQ5.out⟩
          case measure => simp [intOf]; omega
      · have b1 : ((x : Int) == 34) = false := by simp; omega
        have b2 : ((x : Int) == 92) = false := by simp; omega
        by_cases h2 : x = 10
        · have HB := Lib.hid (qb_2 HX.out h2)
          have b3 : ((x : Int) == 10) = true := by simp; omega
          clear h1 h2
          go_wp2_with (at_builtin; refine Lib.wpList_append_own_string _ rfl _ _ 125 9 rfl w.heap.size 5 i0 Tryd.underlying125 Tryd.underlying9 hi hz0 hz1 hz2 _ n (NumL.u8s L) rfl HROW.out ⟨#[92, 110]⟩ rfl (by unfold maxLen; show n + 2 ≤ _; omega) (by show n + 2 ≤ _; omega) (by omega) ?_; intro v5 w5 hown5 hgrow5 _; have HQ5 := Lib.hid (HQ.out.grow (m := [92, 110]) (n := 2) (xs := Lib.strCells ⟨#[92, 110]⟩) rfl rfl (by rw [HN.out]; exact hown5) hgrow5); clear hown5 hgrow5)
          go_roundw
          case rel => exact ⟨k + 1, hlt, by go_num, by rw [HSN.out, HB.out]; exact HQ5.out⟩
          case measure => simp [intOf]; omega
        · have b3 : ((x : Int) == 10) = false := by simp; omega
          by_cases h3 : x = 9
          · have HB := Lib.hid (qb_3 HX.out h3)
            have b4 : ((x : Int) == 9) = true := by simp; omega
            clear h1 h2 h3
            go_wp2_with (at_builtin; refine Lib.wpList_append_own_string _ rfl _ _ 125 9 rfl w.heap.size 5 i0 Tryd.underlying125 Tryd.underlying9 hi hz0 hz1 hz2 _ n (NumL.u8s L) rfl HROW.out ⟨#[92, 116]⟩ rfl (by unfold maxLen; show n + 2 ≤ _; omega) (by show n + 2 ≤ _; omega) (by omega) ?_; intro v5 w5 hown5 hgrow5 _; have HQ5 := Lib.hid (HQ.out.grow (m := [92, 116]) (n := 2) (xs := Lib.strCells ⟨#[92, 116]⟩) rfl rfl (by rw [HN.out]; exact hown5) hgrow5); clear hown5 hgrow5)
            go_roundw
            case rel => exact ⟨k + 1, hlt, by go_num, by rw [HSN.out, HB.out]; exact HQ5.out⟩
            case measure => simp [intOf]; omega
          · have b4 : ((x : Int) == 9) = false := by simp; omega
            by_cases h5 : x < 32 ∨ 126 < x
            · have HB := Lib.hid (qb_4 HX.out (by omega) (by omega) h2 h3 h5)
              have b5 : (decide ((x : Int) < 32) = true) ∨ (decide ((x : Int) < 32) = false ∧ decide ((126 : Int) < x) = true) := by
                by_cases q : x < 32
                · left; simp; omega
                · right; constructor <;> simp <;> omega
              have i1 := hex_run (x / 16) (by omega) .u8 ((x : Int) / 16) (by omega)
              have i2 := hex_run (x % 16) (by omega) .u8 (bits .and .u8 (x : Int) 15) (and15 x hc256)
              obtain ⟨xa, hxa⟩ : ∃ xa, (hexN (x / 16)).toNat = xa := ⟨_, rfl⟩
              obtain ⟨xb, hxb⟩ : ∃ xb, (hexN (x % 16)).toNat = xb := ⟨_, rfl⟩
              rw [hxa] at i1
              rw [hxb] at i2
              have HXA := Lib.hid hxa
              have HXB := Lib.hid hxb
              clear h1 h2 h3 h5 hxa hxb
              rcases b5 with b5 | ⟨b5, b6⟩
              all_goals
                go_wp2_with fail
                go_region_law ((refine step_append_lies _ (by rfl) _ _ 125 (by rfl) w.heap.size 5 i0 (.int .u8 0) 1 1 Tryd.underlying125 hi hz0 hz1 hz2 rfl (by decide) u3 n (NumL.u8s L) (by rfl) ((HROW.out.drew).alloc _) ⟨wr.heap.size, 0, none⟩ 4 4 [.int .u8 92, .int .u8 120, .int .u8 (xa : Int), .int .u8 (xb : Int)] (by rfl) rfl (cellsN_on _ [_, _, _, _] _ _ (by simp)) (by simp [Value.oneCell']) (by omega) (by unfold maxLen; omega) (by omega) (by simp; omega) (wr.heap.size + 1) (by simp) ?_; intro g5 cap5 w5 hown5 hgrow5 _ _; have HQ5 := Lib.hid (HQ.out.drew.app (m := [92, 120, hexN (x / 16), hexN (x % 16)]) (n := 4) (xs := [.int .u8 92, .int .u8 120, .int .u8 (xa : Int), .int .u8 (xb : Int)]) (by rw [← HXA.out, ← HXB.out]; rfl) rfl (by rw [HN.out]; exact hown5) hgrow5); clear hown5 hgrow5))
                all_goals
                  go_wp2_with fail
                  go_roundw
                  case rel => exact ⟨k + 1, hlt, by go_num, by rw [HSN.out, HB.out]; exact HQ5.out⟩
                  case measure => simp [intOf]; omega
            · have HB := Lib.hid (qb_5 HX.out (by omega) (by omega) h2 h3 h5)
              have b5 : decide ((x : Int) < 32) = false := by simp; omega
              have b6 : decide ((126 : Int) < x) = false := by simp; omega
              clear h1 h2 h3 h5
              go_wp2_with (at_builtin; refine wpList_append_own_at _ rfl _ _ 125 rfl w.heap.size 5 i0 (.int .u8 0) 1 1 Tryd.underlying125 hi hz0 hz1 hz2 rfl (by decide) _ n (NumL.u8s L) rfl (HROW.out.alloc _) ⟨wr.heap.size, 0, none⟩ 1 1 [.int .u8 (x : Int)] rfl rfl (cell_one_new _ _ _) (by simp [Value.oneCell']) (by unfold maxLen; omega) (by omega) (by simp; omega) ?_; intro v5 w5 hown5 hgrow5 _ _; have HQ5 := Lib.hid (HQ.out.app (m := [s[k]]) (n := 1) (xs := [.int .u8 (x : Int)]) (by rw [← HX.out]; rfl) rfl (by rw [HN.out]; exact hown5) hgrow5); clear hown5 hgrow5)
              go_roundw
              case rel => exact ⟨k + 1, hlt, by go_num, by rw [HSN.out, HB.out]; exact HQ5.out⟩
              case measure => simp [intOf]; omega
    · obtain rfl : k = s.size := by omega
      rw [List.take_of_length_le (by rw [HSL.out]; exact Nat.le_refl _)] at hq
      have hln := HQS.out s.data.toList (by rw [HSL.out]; exact Nat.le_refl _)
      obtain ⟨L, hL⟩ : ∃ L, [34] ++ quoteI s.data.toList = L := ⟨_, rfl⟩
      rw [hL] at hq hln
      have HLL := Lib.hid hL
      obtain ⟨n, hn⟩ : ∃ n, L.length = n := ⟨_, rfl⟩
      have hrow := hq.row
      rw [hn] at hrow hln
      have HQ := Lib.hid hq
      have HROW := Lib.hid hrow
      have HN := Lib.hid hn
      clear hq hrow hn hL
      go_wp2_with (at_builtin; refine wpList_append_own_at _ rfl _ _ 125 rfl w.heap.size 5 i0 (.int .u8 0) 1 1 Tryd.underlying125 hi hz0 hz1 hz2 rfl (by decide) _ n (NumL.u8s L) rfl (HROW.out.alloc _) ⟨wr.heap.size, 0, none⟩ 1 1 [.int .u8 34] rfl rfl (cell_one_new _ _ _) (by simp [Value.oneCell']) (by unfold maxLen; omega) (by omega) (by simp; omega) ?_; intro v5 w5 hown5 hgrow5 _ _; have HQ5 := Lib.hid (HQ.out.app (m := [34]) (n := 1) (xs := [.int .u8 34]) rfl rfl (by rw [HN.out]; exact hown5) hgrow5); have hct := NumL.own_text rfl HQ5.out.row; clear hown5 hgrow5)
      go_ret
      exact ⟨by rw [← HLL.out]; rfl, HQ5.out.fr⟩
end Go.Proofs.YtlakfnlkiebpdaaDoor
