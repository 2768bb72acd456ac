/- The walk of the statement IsaTextBack: it returns true. Conditions: the library's tables and bound and the table of operations read as they are laid. -/
import Derived.Test.YtfpgalckmfdcmaaDoorIsaKnown
import Derived.Test.YtfpgalckmfdcmaaDoorIsaParse
import Derived.Deep.RegionHeld3
import Derived.Deep.QuietTactic
import Derived.BigQuiet
namespace Go.Proofs.YtfpgalckmfdcmaaDoor
open Go Go.RowKit
theorem cmp_ins (o a b c n o' a' b' c' n' : Int) (h : ¬ (o = o' ∧ a = a' ∧ b = b' ∧ c = c' ∧ n = n')) (W : World) :
    (binOp .eql 23 (.agg #[.int .i64 o, .int .i64 a, .int .i64 b, .int .i64 c, .int .i64 n]) (.agg #[.int .i64 o', .int .i64 a', .int .i64 b', .int .i64 c', .int .i64 n'])).run Tryd.prog W = .ok (.bool false) W := by
  by_cases h0 : o = o'
  · by_cases h1 : a = a'
    · by_cases h2 : b = b'
      · by_cases h3 : c = c'
        · by_cases h4 : n = n'
          · exact absurd ⟨h0, h1, h2, h3, h4⟩ h
          · subst h0 h1 h2 h3
            have g : (n == n') = false := by simpa using h4
            simp [go_sem, g]
        · subst h0 h1 h2
          have g : (c == c') = false := by simpa using h3
          simp [go_sem, g]
      · subst h0 h1
        have g : (b == b') = false := by simpa using h2
        simp [go_sem, g]
    · subst h0
      have g : (a == a') = false := by simpa using h1
      simp [go_sem, g]
  · have g : (o == o') = false := by simpa using h0
    simp [go_sem, g]
theorem cmn_ins (o a b c n o' a' b' c' n' : Int) (h : ¬ (o = o' ∧ a = a' ∧ b = b' ∧ c = c' ∧ n = n')) (W : World) :
    (binOp .neq 23 (.agg #[.int .i64 o, .int .i64 a, .int .i64 b, .int .i64 c, .int .i64 n]) (.agg #[.int .i64 o', .int .i64 a', .int .i64 b', .int .i64 c', .int .i64 n'])).run Tryd.prog W = .ok (.bool true) W := by
  by_cases h0 : o = o'
  · by_cases h1 : a = a'
    · by_cases h2 : b = b'
      · by_cases h3 : c = c'
        · by_cases h4 : n = n'
          · exact absurd ⟨h0, h1, h2, h3, h4⟩ h
          · subst h0 h1 h2 h3
            have g : (n == n') = false := by simpa using h4
            simp [go_sem, g]
        · subst h0 h1 h2
          have g : (c == c') = false := by simpa using h3
          simp [go_sem, g]
      · subst h0 h1
        have g : (b == b') = false := by simpa using h2
        simp [go_sem, g]
    · subst h0
      have g : (a == a') = false := by simpa using h1
      simp [go_sem, g]
  · have g : (o == o') = false := by simpa using h0
    simp [go_sem, g]
/-- an instruction in memory -/
structure InsAt (W : World) (B : Nat) (o a b c n : Int) : Prop where
  c0 : W.cell? ⟨B, 0, none⟩ = some (.int .i64 o)
  c1 : W.cell? ⟨B, 1, none⟩ = some (.int .i64 a)
  c2 : W.cell? ⟨B, 2, none⟩ = some (.int .i64 b)
  c3 : W.cell? ⟨B, 3, none⟩ = some (.int .i64 c)
  c4 : W.cell? ⟨B, 4, none⟩ = some (.int .i64 n)
theorem InsAt.lt {W : World} {B : Nat} {o a b c n : Int} (h : InsAt W B o a b c n) : B < W.heap.size := World.block_lt_of_cell? W _ h.c0
theorem InsAt.below {W W' : World} {B : Nat} {o a b c n : Int} (h : InsAt W B o a b c n) (hb : Below W.heap.size W W') : InsAt W' B o a b c n :=
  have st : ∀ (p : Addr) (u : Value), W.cell? p = some u → W'.cell? p = some u := fun p _ hv => (hb.cell (p := p) (World.block_lt_of_cell? W _ hv)).trans hv
  ⟨st _ _ h.c0, st _ _ h.c1, st _ _ h.c2, st _ _ h.c3, st _ _ h.c4⟩
theorem InsAt.new (W : World) (o a b c n : Int) : InsAt (W.alloc (.cells #[.int .i64 o, .int .i64 a, .int .i64 b, .int .i64 c, .int .i64 n] 23)) W.heap.size o a b c n := ⟨by simp, by simp, by simp, by simp, by simp⟩
theorem InsAt.alloc {W : World} {B : Nat} {o a b c n : Int} (h : InsAt W B o a b c n) (x : Obj) : InsAt (W.alloc x) B o a b c n := h.below ((Below.refl _ _).alloc (Nat.le_refl _) _)
theorem Kn.alloc {w W : World} (h : Kn w W) (x : Obj) : Kn w (W.alloc x) := h.below ((Below.refl _ _).alloc (Nat.le_refl _) _)
/-- what stays over the calls, the library's bound too -/
structure KM (m : Int) (w W : World) : Prop where
  kn : Kn w W
  cm : W.cell? ⟨1, 0, none⟩ = some (.int .i64 m)
theorem KM.below {m : Int} {w W W' : World} (h : KM m w W) (hb : Below W.heap.size W W') : KM m w W' := ⟨h.kn.below hb, (hb.cell (World.block_lt_of_cell? W _ h.cm)).trans h.cm⟩
theorem KM.alloc {m : Int} {w W : World} (h : KM m w W) (x : Obj) : KM m w (W.alloc x) := h.below ((Below.refl _ _).alloc (Nat.le_refl _) _)
/-- what stays: two instructions in memory beside -/
structure LW (m : Int) (w : World) (I J : Nat) (o a b c n p q r s t : Int) (W : World) : Prop where
  kn : KM m w W
  i : InsAt W I o a b c n
  j : InsAt W J p q r s t
theorem LW.below {m : Int} {w W W' : World} {I J : Nat} {o a b c n p q r s t : Int} (h : LW m w I J o a b c n p q r s t W) (hb : Below W.heap.size W W') : LW m w I J o a b c n p q r s t W' := ⟨h.kn.below hb, h.i.below hb, h.j.below hb⟩
theorem lw_s {m : Int} {w W : World} {I J : Nat} {o a b c n p q r s t : Int} (h : LW m w I J o a b c n p q r s t W) : W.cell? ⟨I, 0, none⟩ = some (.int .i64 o) ∧ W.cell? ⟨I, 1, none⟩ = some (.int .i64 a) ∧ W.cell? ⟨I, 2, none⟩ = some (.int .i64 b) ∧ W.cell? ⟨I, 3, none⟩ = some (.int .i64 c) ∧ W.cell? ⟨I, 4, none⟩ = some (.int .i64 n) ∧ W.cell? ⟨J, 0, none⟩ = some (.int .i64 p) ∧ W.cell? ⟨J, 1, none⟩ = some (.int .i64 q) ∧ W.cell? ⟨J, 2, none⟩ = some (.int .i64 r) ∧ W.cell? ⟨J, 3, none⟩ = some (.int .i64 s) ∧ W.cell? ⟨J, 4, none⟩ = some (.int .i64 t) ∧ LW m w I J o a b c n p q r s t W := ⟨h.i.c0, h.i.c1, h.i.c2, h.i.c3, h.i.c4, h.j.c0, h.j.c1, h.j.c2, h.j.c3, h.j.c4, h⟩
theorem lw_of {m : Int} {w W : World} {I J : Nat} {o a b c n p q r s t : Int} {p0 p1 p2 p3 p4 p5 p6 p7 p8 p9 : Prop} (h : p0 ∧ p1 ∧ p2 ∧ p3 ∧ p4 ∧ p5 ∧ p6 ∧ p7 ∧ p8 ∧ p9 ∧ LW m w I J o a b c n p q r s t W) : LW m w I J o a b c n p q r s t W := h.2.2.2.2.2.2.2.2.2.2
/-- the text that an instruction has -/
def Txt (o a b c n : Int) (T : List UInt8) : Prop := ∀ W, Ops W → Tab W → Calls Tryd.prog 11 #[.agg #[.int .i64 o, .int .i64 a, .int .i64 b, .int .i64 c, .int .i64 n]] W fun e w' => e = .returned (.string ⟨T.toArray⟩) ∧ Below W.heap.size W w'
def Chk (o a b c n E : Int) : Prop := ∀ W, Ops W → Calls Tryd.prog 13 #[.agg #[.int .i64 o, .int .i64 a, .int .i64 b, .int .i64 c, .int .i64 n]] W fun e w' => e = .returned (.int .i64 E) ∧ Below W.heap.size W w'
/-- the instruction that a text is -/
def Par (m : Int) (L : List UInt8) (o a b c n E : Int) : Prop := ∀ W, Ops W → Tab W → W.cell? ⟨1, 0, none⟩ = some (.int .i64 m) → Calls Tryd.prog 9 #[.string ⟨L.toArray⟩] W fun e w' => e = .returned (.tuple #[.agg #[.int .i64 o, .int .i64 a, .int .i64 b, .int .i64 c, .int .i64 n], .int .i64 E]) ∧ Below W.heap.size W w'
theorem txt_of (o a b c n : Int) : Txt o a b c n (textOf o a b c n) := fun W ho ht => istext_any o a b c n W ho ht
theorem chk_of (o a b c n : Int) : Chk o a b c n (chkOf o a b c n) := fun W ho => check_any o a b c n W ho
theorem par_of {m : Int} {L : List UInt8} (hL : L.length ≤ 100000) {o a b c n E : Int} (h : IsParse L o a b c n E) : Par m L o a b c n E := fun W ho ht hm => by
  refine (ispar_any ⟨L.toArray⟩ (by show L.toArray.size ≤ _; rw [List.size_toArray]; exact hL) m W ho ht hm).mono ?_
  rintro e w1 ⟨⟨p, q, r, u, v, er, rfl, hp1⟩, hb1⟩
  obtain ⟨rfl, rfl, rfl, rfl, rfl, rfl⟩ := h.unique hp1
  exact ⟨rfl, hb1⟩
theorem textOf_len {o a b c n : Int} : (textOf o a b c n).length ≤ 100000 := by
  by_cases h : chkOf o a b c n = 0
  · have h0 := known_of h
    obtain ⟨k, rfl⟩ := Int.eq_ofNat_of_zero_le (show 0 ≤ o by omega)
    rw [textOf_yes h]
    unfold textF
    have hb : ∀ f : List UInt8, (f.flatMap fun k => argT k (letterOf a b c n (k.toNat : Int))).length ≤ 31 * f.length := by
      intro f
      induction f with
      | nil => simp
      | cons x f ih =>
        rw [List.flatMap_cons, List.length_append, argT_word, List.length_cons, List.length_cons]
        have := argW_len h x
        omega
    have h1 := hb (rowOf k).2.1
    have h2 := form_len k (by omega)
    have h3 := name_len k (by omega)
    rw [List.length_append]
    omega
  · unfold textOf; rw [if_neg h]; simp
set_option maxRecDepth 100000 in
set_option maxHeartbeats 4000000 in
theorem isaTB_same_ok (o a b c n m p q r u v : Int) (T S : List UInt8) (hS : S.length ≤ 4096) (t1 : Txt o a b c n T) (c1 : Chk o a b c n 0) (p1 : Par m T o a b c n 0) (hT : T ≠ []) (p2 : Par m S p q r u v 0) (t3 : Txt p q r u v S) (c3 : Chk p q r u v 0) (w : World) (ho : Ops w) (ht : Tab w) (hm : w.cell? ⟨1, 0, none⟩ = some (.int .i64 m)) :
    Calls Tryd.prog 4 #[.agg #[.int .i64 o, .int .i64 a, .int .i64 b, .int .i64 c, .int .i64 n], .agg #[.int .i64 o, .int .i64 a, .int .i64 b, .int .i64 c, .int .i64 n], .string ⟨S.toArray⟩] w fun e w' => e = .returned (.bool true) ∧ Below w.heap.size w w' := by
  have hsz : (⟨S.toArray⟩ : ByteArray).size ≤ 4096 := by show S.toArray.size ≤ _; rw [List.size_toArray]; exact hS
  have HK0 := Lib.hid (((KM.mk (Kn.mk (Below.refl w.heap.size w) ho ht) hm).alloc (.cells #[.int .i64 o, .int .i64 a, .int .i64 b, .int .i64 c, .int .i64 n] 23)).alloc (.cells #[.int .i64 o, .int .i64 a, .int .i64 b, .int .i64 c, .int .i64 n] 23))
  have hI := (InsAt.new w o a b c n).alloc (.cells #[.int .i64 o, .int .i64 a, .int .i64 b, .int .i64 c, .int .i64 n] 23)
  have hJ := InsAt.new (w.alloc (.cells #[.int .i64 o, .int .i64 a, .int .i64 b, .int .i64 c, .int .i64 n] 23)) o a b c n
  rw [show (w.alloc (.cells #[.int .i64 o, .int .i64 a, .int .i64 b, .int .i64 c, .int .i64 n] 23)).heap.size = w.heap.size + 1 by simp] at hJ
  have HI := Lib.hid hI
  have HJ := Lib.hid hJ
  clear ho ht hm hI hJ hsz
  have T1 := Lib.hid t1
  have C1 := Lib.hid c1
  have P1 := Lib.hid p1
  have P2 := Lib.hid p2
  clear t1 c1 p1 p2
  have b1 : T.isEmpty = false := by simpa using hT
  have b2 : (T == []) = false := by simpa using hT
  have b3 : (T == T) = true := by simp
  clear hT
  have s0 : (o == o) = true := by simp
  have s1 : (a == a) = true := by simp
  have s2 : (b == b) = true := by simp
  have s3 : (c == c) = true := by simp
  have s4 : (n == n) = true := by simp
  have T3 := Lib.hid t3
  have C3 := Lib.hid c3
  have b5 : (S == S) = true := by simp
  clear t3 c3
  go_enter Tryd.func4, Tryd.ntmps4
  go_wp2_with fail
  refine (T1.out _ HK0.out.kn.ops HK0.out.kn.tab).mono ?_
  rintro e w1 ⟨rfl, hb⟩
  have HK1 := Lib.hid (HK0.out.below hb)
  have HI1 := Lib.hid (HI.out.below hb)
  have HJ1 := Lib.hid (HJ.out.below hb)
  clear hb
  go_wp2_with fail
  refine (P1.out _ HK1.out.kn.ops HK1.out.kn.tab HK1.out.cm).mono ?_
  rintro e w2 ⟨rfl, hb⟩
  have HK2 := Lib.hid ((HK1.out.below hb).alloc (.cells #[.int .i64 o, .int .i64 a, .int .i64 b, .int .i64 c, .int .i64 n] 23))
  have HI2 := Lib.hid ((HI1.out.below hb).alloc (.cells #[.int .i64 o, .int .i64 a, .int .i64 b, .int .i64 c, .int .i64 n] 23))
  have HJ2 := Lib.hid ((HJ1.out.below hb).alloc (.cells #[.int .i64 o, .int .i64 a, .int .i64 b, .int .i64 c, .int .i64 n] 23))
  have HX2 := Lib.hid (InsAt.new w2 o a b c n)
  obtain ⟨i0, i1, i2, i3, i4⟩ := (HI1.out.below hb)
  have z1 := (HI1.out.below hb).lt
  have z2 := (HJ1.out.below hb).lt
  clear hb
  go_wp2_with fail
  obtain ⟨w3, hw3⟩ : ∃ w3, w2.alloc (.cells #[.int .i64 o, .int .i64 a, .int .i64 b, .int .i64 c, .int .i64 n] 23) = w3 := ⟨_, rfl⟩
  rw [hw3] at HK2 HI2 HJ2 HX2 ⊢
  clear hw3 i0 i1 i2 i3 i4
  refine (C1.out _ HK2.out.kn.ops).mono ?_
  rintro e w4 ⟨rfl, hb⟩
  have HK4 := Lib.hid (HK2.out.below hb)
  have HI4 := Lib.hid (HI2.out.below hb)
  have HJ4 := Lib.hid (HJ2.out.below hb)
  have HX4 := Lib.hid (HX2.out.below hb)
  obtain ⟨i0, i1, i2, i3, i4⟩ := HI4.out
  obtain ⟨x0, x1, x2, x3, x4⟩ := HX4.out
  clear hb
  go_wp2_with fail
  refine (C1.out _ HK4.out.kn.ops).mono ?_
  rintro e w5 ⟨rfl, hb⟩
  have HK5 := Lib.hid (HK4.out.below hb)
  have HI5 := Lib.hid (HI4.out.below hb)
  have HJ5 := Lib.hid (HJ4.out.below hb)
  clear hb i0 i1 i2 i3 i4 x0 x1 x2 x3 x4
  go_wp2_with fail
  obtain ⟨I, hI⟩ : ∃ I, w.heap.size = I := ⟨_, rfl⟩
  have hLW : LW m w I (I + 1) (o) (a) (b) (c) (n) (o) (a) (b) (c) (n) w5 := ⟨HK5.out, by rw [← hI]; exact HI5.out, by rw [← hI]; exact HJ5.out⟩
  rw [hI]
  clear hI
  have hLd := hLW.below (Below.refl _ _).drew
  go_region_held3 (fun W => W.cell? ⟨I, 0, none⟩ = some (.int .i64 o) ∧ W.cell? ⟨I, 1, none⟩ = some (.int .i64 a) ∧ W.cell? ⟨I, 2, none⟩ = some (.int .i64 b) ∧ W.cell? ⟨I, 3, none⟩ = some (.int .i64 c) ∧ W.cell? ⟨I, 4, none⟩ = some (.int .i64 n) ∧ W.cell? ⟨I + 1, 0, none⟩ = some (.int .i64 o) ∧ W.cell? ⟨I + 1, 1, none⟩ = some (.int .i64 a) ∧ W.cell? ⟨I + 1, 2, none⟩ = some (.int .i64 b) ∧ W.cell? ⟨I + 1, 3, none⟩ = some (.int .i64 c) ∧ W.cell? ⟨I + 1, 4, none⟩ = some (.int .i64 n) ∧ LW m w I (I + 1) (o) (a) (b) (c) (n) (o) (a) (b) (c) (n) W)
    (first | assumption | exact lw_s (by assumption))
    (first
      | (go_at_call 11; refine (T1.out _ (lw_of (by assumption)).kn.kn.ops (lw_of (by assumption)).kn.kn.tab).mono ?_; rintro e w6 ⟨rfl, hb6⟩; have hk6 := LW.below (lw_of (by assumption)) hb6))
  go_wp2_with fail
  have HK6 := Lib.hid hk6.kn
  have HI6 := Lib.hid hk6.i
  clear hk6 hLd hLW
  refine (P2.out _ HK6.out.kn.ops HK6.out.kn.tab HK6.out.cm).mono ?_
  rintro e w7 ⟨rfl, hb⟩
  have HK7 := Lib.hid ((HK6.out.below hb).alloc (.cells #[.int .i64 p, .int .i64 q, .int .i64 r, .int .i64 u, .int .i64 v] 23))
  have HX7 := Lib.hid (InsAt.new w7 p q r u v)
  clear hb
  go_wp2_with fail
  refine (T3.out _ HK7.out.kn.ops HK7.out.kn.tab).mono ?_
  rintro e w8 ⟨rfl, hb⟩
  have HK8 := Lib.hid (HK7.out.below hb)
  have HX8 := Lib.hid (HX7.out.below hb)
  obtain ⟨x0, x1, x2, x3, x4⟩ := HX8.out
  clear hb
  go_wp2_with fail
  refine (C3.out _ HK8.out.kn.ops).mono ?_
  rintro e w9 ⟨rfl, hb⟩
  have HK9 := Lib.hid (HK8.out.below hb)
  clear hb x0 x1 x2 x3 x4
  go_wp2_with fail
  refine (known_any _ HK9.out.kn.ops HK9.out.kn.tab).mono ?_
  rintro e w10 ⟨rfl, hb⟩
  have HK10 := Lib.hid (HK9.out.below hb)
  clear hb
  go_wp2_with fail
  go_ret
  exact ⟨rfl, HK10.out.kn.base⟩
set_option maxRecDepth 100000 in
set_option maxHeartbeats 4000000 in
theorem isaTB_same_no (o a b c n m : Int) (T S : List UInt8) (hS : S.length ≤ 4096) (t1 : Txt o a b c n T) (c1 : Chk o a b c n 0) (p1 : Par m T o a b c n 0) (hT : T ≠ []) (p2 : Par m S 0 0 0 0 0 32) (w : World) (ho : Ops w) (ht : Tab w) (hm : w.cell? ⟨1, 0, none⟩ = some (.int .i64 m)) :
    Calls Tryd.prog 4 #[.agg #[.int .i64 o, .int .i64 a, .int .i64 b, .int .i64 c, .int .i64 n], .agg #[.int .i64 o, .int .i64 a, .int .i64 b, .int .i64 c, .int .i64 n], .string ⟨S.toArray⟩] w fun e w' => e = .returned (.bool true) ∧ Below w.heap.size w w' := by
  have hsz : (⟨S.toArray⟩ : ByteArray).size ≤ 4096 := by show S.toArray.size ≤ _; rw [List.size_toArray]; exact hS
  have HK0 := Lib.hid (((KM.mk (Kn.mk (Below.refl w.heap.size w) ho ht) hm).alloc (.cells #[.int .i64 o, .int .i64 a, .int .i64 b, .int .i64 c, .int .i64 n] 23)).alloc (.cells #[.int .i64 o, .int .i64 a, .int .i64 b, .int .i64 c, .int .i64 n] 23))
  have hI := (InsAt.new w o a b c n).alloc (.cells #[.int .i64 o, .int .i64 a, .int .i64 b, .int .i64 c, .int .i64 n] 23)
  have hJ := InsAt.new (w.alloc (.cells #[.int .i64 o, .int .i64 a, .int .i64 b, .int .i64 c, .int .i64 n] 23)) o a b c n
  rw [show (w.alloc (.cells #[.int .i64 o, .int .i64 a, .int .i64 b, .int .i64 c, .int .i64 n] 23)).heap.size = w.heap.size + 1 by simp] at hJ
  have HI := Lib.hid hI
  have HJ := Lib.hid hJ
  clear ho ht hm hI hJ hsz
  have T1 := Lib.hid t1
  have C1 := Lib.hid c1
  have P1 := Lib.hid p1
  have P2 := Lib.hid p2
  clear t1 c1 p1 p2
  have b1 : T.isEmpty = false := by simpa using hT
  have b2 : (T == []) = false := by simpa using hT
  have b3 : (T == T) = true := by simp
  clear hT
  have s0 : (o == o) = true := by simp
  have s1 : (a == a) = true := by simp
  have s2 : (b == b) = true := by simp
  have s3 : (c == c) = true := by simp
  have s4 : (n == n) = true := by simp
  go_enter Tryd.func4, Tryd.ntmps4
  go_wp2_with fail
  refine (T1.out _ HK0.out.kn.ops HK0.out.kn.tab).mono ?_
  rintro e w1 ⟨rfl, hb⟩
  have HK1 := Lib.hid (HK0.out.below hb)
  have HI1 := Lib.hid (HI.out.below hb)
  have HJ1 := Lib.hid (HJ.out.below hb)
  clear hb
  go_wp2_with fail
  refine (P1.out _ HK1.out.kn.ops HK1.out.kn.tab HK1.out.cm).mono ?_
  rintro e w2 ⟨rfl, hb⟩
  have HK2 := Lib.hid ((HK1.out.below hb).alloc (.cells #[.int .i64 o, .int .i64 a, .int .i64 b, .int .i64 c, .int .i64 n] 23))
  have HI2 := Lib.hid ((HI1.out.below hb).alloc (.cells #[.int .i64 o, .int .i64 a, .int .i64 b, .int .i64 c, .int .i64 n] 23))
  have HJ2 := Lib.hid ((HJ1.out.below hb).alloc (.cells #[.int .i64 o, .int .i64 a, .int .i64 b, .int .i64 c, .int .i64 n] 23))
  have HX2 := Lib.hid (InsAt.new w2 o a b c n)
  obtain ⟨i0, i1, i2, i3, i4⟩ := (HI1.out.below hb)
  have z1 := (HI1.out.below hb).lt
  have z2 := (HJ1.out.below hb).lt
  clear hb
  go_wp2_with fail
  obtain ⟨w3, hw3⟩ : ∃ w3, w2.alloc (.cells #[.int .i64 o, .int .i64 a, .int .i64 b, .int .i64 c, .int .i64 n] 23) = w3 := ⟨_, rfl⟩
  rw [hw3] at HK2 HI2 HJ2 HX2 ⊢
  clear hw3 i0 i1 i2 i3 i4
  refine (C1.out _ HK2.out.kn.ops).mono ?_
  rintro e w4 ⟨rfl, hb⟩
  have HK4 := Lib.hid (HK2.out.below hb)
  have HI4 := Lib.hid (HI2.out.below hb)
  have HJ4 := Lib.hid (HJ2.out.below hb)
  have HX4 := Lib.hid (HX2.out.below hb)
  obtain ⟨i0, i1, i2, i3, i4⟩ := HI4.out
  obtain ⟨x0, x1, x2, x3, x4⟩ := HX4.out
  clear hb
  go_wp2_with fail
  refine (C1.out _ HK4.out.kn.ops).mono ?_
  rintro e w5 ⟨rfl, hb⟩
  have HK5 := Lib.hid (HK4.out.below hb)
  have HI5 := Lib.hid (HI4.out.below hb)
  have HJ5 := Lib.hid (HJ4.out.below hb)
  clear hb i0 i1 i2 i3 i4 x0 x1 x2 x3 x4
  go_wp2_with fail
  obtain ⟨I, hI⟩ : ∃ I, w.heap.size = I := ⟨_, rfl⟩
  have hLW : LW m w I (I + 1) (o) (a) (b) (c) (n) (o) (a) (b) (c) (n) w5 := ⟨HK5.out, by rw [← hI]; exact HI5.out, by rw [← hI]; exact HJ5.out⟩
  rw [hI]
  clear hI
  have hLd := hLW.below (Below.refl _ _).drew
  go_region_held3 (fun W => W.cell? ⟨I, 0, none⟩ = some (.int .i64 o) ∧ W.cell? ⟨I, 1, none⟩ = some (.int .i64 a) ∧ W.cell? ⟨I, 2, none⟩ = some (.int .i64 b) ∧ W.cell? ⟨I, 3, none⟩ = some (.int .i64 c) ∧ W.cell? ⟨I, 4, none⟩ = some (.int .i64 n) ∧ W.cell? ⟨I + 1, 0, none⟩ = some (.int .i64 o) ∧ W.cell? ⟨I + 1, 1, none⟩ = some (.int .i64 a) ∧ W.cell? ⟨I + 1, 2, none⟩ = some (.int .i64 b) ∧ W.cell? ⟨I + 1, 3, none⟩ = some (.int .i64 c) ∧ W.cell? ⟨I + 1, 4, none⟩ = some (.int .i64 n) ∧ LW m w I (I + 1) (o) (a) (b) (c) (n) (o) (a) (b) (c) (n) W)
    (first | assumption | exact lw_s (by assumption))
    (first
      | (go_at_call 11; refine (T1.out _ (lw_of (by assumption)).kn.kn.ops (lw_of (by assumption)).kn.kn.tab).mono ?_; rintro e w6 ⟨rfl, hb6⟩; have hk6 := LW.below (lw_of (by assumption)) hb6))
  go_wp2_with fail
  have HK6 := Lib.hid hk6.kn
  have HI6 := Lib.hid hk6.i
  clear hk6 hLd hLW
  refine (P2.out _ HK6.out.kn.ops HK6.out.kn.tab HK6.out.cm).mono ?_
  rintro e w7 ⟨rfl, hb⟩
  have HK7 := Lib.hid ((HK6.out.below hb).alloc (.cells #[.int .i64 0, .int .i64 0, .int .i64 0, .int .i64 0, .int .i64 0] 23))
  have HX7 := Lib.hid (InsAt.new w7 0 0 0 0 0)
  clear hb
  go_wp2_with fail
  have HK9 := Lib.hid HK7.out
  refine (known_any _ HK9.out.kn.ops HK9.out.kn.tab).mono ?_
  rintro e w10 ⟨rfl, hb⟩
  have HK10 := Lib.hid (HK9.out.below hb)
  clear hb
  go_wp2_with fail
  go_ret
  exact ⟨rfl, HK10.out.kn.base⟩
set_option maxRecDepth 100000 in
set_option maxHeartbeats 4000000 in
theorem isaTB_diff_ok (o a b c n o' a' b' c' n' m p q r u v : Int) (T S : List UInt8) (hS : S.length ≤ 4096) (t1 : Txt o a b c n T) (c1 : Chk o a b c n 0) (p1 : Par m T o a b c n 0) (hT : T ≠ []) (T2 : List UInt8) (t2 : Txt o' a' b' c' n' T2) (hT2 : T2 ≠ T) (hne : ¬ (o = o' ∧ a = a' ∧ b = b' ∧ c = c' ∧ n = n')) (p2 : Par m S p q r u v 0) (t3 : Txt p q r u v S) (c3 : Chk p q r u v 0) (w : World) (ho : Ops w) (ht : Tab w) (hm : w.cell? ⟨1, 0, none⟩ = some (.int .i64 m)) :
    Calls Tryd.prog 4 #[.agg #[.int .i64 o, .int .i64 a, .int .i64 b, .int .i64 c, .int .i64 n], .agg #[.int .i64 o', .int .i64 a', .int .i64 b', .int .i64 c', .int .i64 n'], .string ⟨S.toArray⟩] w fun e w' => e = .returned (.bool true) ∧ Below w.heap.size w w' := by
  have hsz : (⟨S.toArray⟩ : ByteArray).size ≤ 4096 := by show S.toArray.size ≤ _; rw [List.size_toArray]; exact hS
  have HK0 := Lib.hid (((KM.mk (Kn.mk (Below.refl w.heap.size w) ho ht) hm).alloc (.cells #[.int .i64 o, .int .i64 a, .int .i64 b, .int .i64 c, .int .i64 n] 23)).alloc (.cells #[.int .i64 o', .int .i64 a', .int .i64 b', .int .i64 c', .int .i64 n'] 23))
  have hI := (InsAt.new w o a b c n).alloc (.cells #[.int .i64 o', .int .i64 a', .int .i64 b', .int .i64 c', .int .i64 n'] 23)
  have hJ := InsAt.new (w.alloc (.cells #[.int .i64 o, .int .i64 a, .int .i64 b, .int .i64 c, .int .i64 n] 23)) o' a' b' c' n'
  rw [show (w.alloc (.cells #[.int .i64 o, .int .i64 a, .int .i64 b, .int .i64 c, .int .i64 n] 23)).heap.size = w.heap.size + 1 by simp] at hJ
  have HI := Lib.hid hI
  have HJ := Lib.hid hJ
  clear ho ht hm hI hJ hsz
  have T1 := Lib.hid t1
  have C1 := Lib.hid c1
  have P1 := Lib.hid p1
  have P2 := Lib.hid p2
  clear t1 c1 p1 p2
  have b1 : T.isEmpty = false := by simpa using hT
  have b2 : (T == []) = false := by simpa using hT
  have b3 : (T == T) = true := by simp
  clear hT
  have s0 : (o == o) = true := by simp
  have s1 : (a == a) = true := by simp
  have s2 : (b == b) = true := by simp
  have s3 : (c == c) = true := by simp
  have s4 : (n == n) = true := by simp
  have b4 : (T2 == T) = false := by simpa using hT2
  have T2' := Lib.hid t2
  have hcmp := cmp_ins o a b c n o' a' b' c' n' hne
  clear t2 hT2 hne
  have T3 := Lib.hid t3
  have C3 := Lib.hid c3
  have b5 : (S == S) = true := by simp
  clear t3 c3
  go_enter Tryd.func4, Tryd.ntmps4
  go_wp2_with fail
  refine (T1.out _ HK0.out.kn.ops HK0.out.kn.tab).mono ?_
  rintro e w1 ⟨rfl, hb⟩
  have HK1 := Lib.hid (HK0.out.below hb)
  have HI1 := Lib.hid (HI.out.below hb)
  have HJ1 := Lib.hid (HJ.out.below hb)
  clear hb
  go_wp2_with fail
  refine (P1.out _ HK1.out.kn.ops HK1.out.kn.tab HK1.out.cm).mono ?_
  rintro e w2 ⟨rfl, hb⟩
  have HK2 := Lib.hid ((HK1.out.below hb).alloc (.cells #[.int .i64 o, .int .i64 a, .int .i64 b, .int .i64 c, .int .i64 n] 23))
  have HI2 := Lib.hid ((HI1.out.below hb).alloc (.cells #[.int .i64 o, .int .i64 a, .int .i64 b, .int .i64 c, .int .i64 n] 23))
  have HJ2 := Lib.hid ((HJ1.out.below hb).alloc (.cells #[.int .i64 o, .int .i64 a, .int .i64 b, .int .i64 c, .int .i64 n] 23))
  have HX2 := Lib.hid (InsAt.new w2 o a b c n)
  obtain ⟨i0, i1, i2, i3, i4⟩ := (HI1.out.below hb)
  have z1 := (HI1.out.below hb).lt
  have z2 := (HJ1.out.below hb).lt
  clear hb
  go_wp2_with fail
  obtain ⟨w3, hw3⟩ : ∃ w3, w2.alloc (.cells #[.int .i64 o, .int .i64 a, .int .i64 b, .int .i64 c, .int .i64 n] 23) = w3 := ⟨_, rfl⟩
  rw [hw3] at HK2 HI2 HJ2 HX2 ⊢
  clear hw3 i0 i1 i2 i3 i4
  refine (C1.out _ HK2.out.kn.ops).mono ?_
  rintro e w4 ⟨rfl, hb⟩
  have HK4 := Lib.hid (HK2.out.below hb)
  have HI4 := Lib.hid (HI2.out.below hb)
  have HJ4 := Lib.hid (HJ2.out.below hb)
  have HX4 := Lib.hid (HX2.out.below hb)
  obtain ⟨i0, i1, i2, i3, i4⟩ := HI4.out
  obtain ⟨x0, x1, x2, x3, x4⟩ := HX4.out
  clear hb
  go_wp2_with fail
  refine (C1.out _ HK4.out.kn.ops).mono ?_
  rintro e w5 ⟨rfl, hb⟩
  have HK5 := Lib.hid (HK4.out.below hb)
  have HI5 := Lib.hid (HI4.out.below hb)
  have HJ5 := Lib.hid (HJ4.out.below hb)
  clear hb i0 i1 i2 i3 i4 x0 x1 x2 x3 x4
  go_wp2_with fail
  obtain ⟨I, hI⟩ : ∃ I, w.heap.size = I := ⟨_, rfl⟩
  have hLW : LW m w I (I + 1) (o) (a) (b) (c) (n) (o') (a') (b') (c') (n') w5 := ⟨HK5.out, by rw [← hI]; exact HI5.out, by rw [← hI]; exact HJ5.out⟩
  rw [hI]
  clear hI
  have hLd := hLW.below (Below.refl _ _).drew
  go_region_held3 (fun W => W.cell? ⟨I, 0, none⟩ = some (.int .i64 o) ∧ W.cell? ⟨I, 1, none⟩ = some (.int .i64 a) ∧ W.cell? ⟨I, 2, none⟩ = some (.int .i64 b) ∧ W.cell? ⟨I, 3, none⟩ = some (.int .i64 c) ∧ W.cell? ⟨I, 4, none⟩ = some (.int .i64 n) ∧ W.cell? ⟨I + 1, 0, none⟩ = some (.int .i64 o') ∧ W.cell? ⟨I + 1, 1, none⟩ = some (.int .i64 a') ∧ W.cell? ⟨I + 1, 2, none⟩ = some (.int .i64 b') ∧ W.cell? ⟨I + 1, 3, none⟩ = some (.int .i64 c') ∧ W.cell? ⟨I + 1, 4, none⟩ = some (.int .i64 n') ∧ LW m w I (I + 1) (o) (a) (b) (c) (n) (o') (a') (b') (c') (n') W)
    (first | assumption | exact lw_s (by assumption))
    (first
      | (go_at_call 11; refine (T2'.out _ (lw_of (by assumption)).kn.kn.ops (lw_of (by assumption)).kn.kn.tab).mono ?_; rintro e w6 ⟨rfl, hb6⟩; have hk6 := LW.below (lw_of (by assumption)) hb6))
  go_wp2_with fail
  have HK6 := Lib.hid hk6.kn
  have HI6 := Lib.hid hk6.i
  clear hk6 hLd hLW
  refine (P2.out _ HK6.out.kn.ops HK6.out.kn.tab HK6.out.cm).mono ?_
  rintro e w7 ⟨rfl, hb⟩
  have HK7 := Lib.hid ((HK6.out.below hb).alloc (.cells #[.int .i64 p, .int .i64 q, .int .i64 r, .int .i64 u, .int .i64 v] 23))
  have HX7 := Lib.hid (InsAt.new w7 p q r u v)
  clear hb
  go_wp2_with fail
  refine (T3.out _ HK7.out.kn.ops HK7.out.kn.tab).mono ?_
  rintro e w8 ⟨rfl, hb⟩
  have HK8 := Lib.hid (HK7.out.below hb)
  have HX8 := Lib.hid (HX7.out.below hb)
  obtain ⟨x0, x1, x2, x3, x4⟩ := HX8.out
  clear hb
  go_wp2_with fail
  refine (C3.out _ HK8.out.kn.ops).mono ?_
  rintro e w9 ⟨rfl, hb⟩
  have HK9 := Lib.hid (HK8.out.below hb)
  clear hb x0 x1 x2 x3 x4
  go_wp2_with fail
  refine (known_any _ HK9.out.kn.ops HK9.out.kn.tab).mono ?_
  rintro e w10 ⟨rfl, hb⟩
  have HK10 := Lib.hid (HK9.out.below hb)
  clear hb
  go_wp2_with fail
  go_ret
  exact ⟨rfl, HK10.out.kn.base⟩
set_option maxRecDepth 100000 in
set_option maxHeartbeats 4000000 in
theorem isaTB_diff_no (o a b c n o' a' b' c' n' m : Int) (T S : List UInt8) (hS : S.length ≤ 4096) (t1 : Txt o a b c n T) (c1 : Chk o a b c n 0) (p1 : Par m T o a b c n 0) (hT : T ≠ []) (T2 : List UInt8) (t2 : Txt o' a' b' c' n' T2) (hT2 : T2 ≠ T) (hne : ¬ (o = o' ∧ a = a' ∧ b = b' ∧ c = c' ∧ n = n')) (p2 : Par m S 0 0 0 0 0 32) (w : World) (ho : Ops w) (ht : Tab w) (hm : w.cell? ⟨1, 0, none⟩ = some (.int .i64 m)) :
    Calls Tryd.prog 4 #[.agg #[.int .i64 o, .int .i64 a, .int .i64 b, .int .i64 c, .int .i64 n], .agg #[.int .i64 o', .int .i64 a', .int .i64 b', .int .i64 c', .int .i64 n'], .string ⟨S.toArray⟩] w fun e w' => e = .returned (.bool true) ∧ Below w.heap.size w w' := by
  have hsz : (⟨S.toArray⟩ : ByteArray).size ≤ 4096 := by show S.toArray.size ≤ _; rw [List.size_toArray]; exact hS
  have HK0 := Lib.hid (((KM.mk (Kn.mk (Below.refl w.heap.size w) ho ht) hm).alloc (.cells #[.int .i64 o, .int .i64 a, .int .i64 b, .int .i64 c, .int .i64 n] 23)).alloc (.cells #[.int .i64 o', .int .i64 a', .int .i64 b', .int .i64 c', .int .i64 n'] 23))
  have hI := (InsAt.new w o a b c n).alloc (.cells #[.int .i64 o', .int .i64 a', .int .i64 b', .int .i64 c', .int .i64 n'] 23)
  have hJ := InsAt.new (w.alloc (.cells #[.int .i64 o, .int .i64 a, .int .i64 b, .int .i64 c, .int .i64 n] 23)) o' a' b' c' n'
  rw [show (w.alloc (.cells #[.int .i64 o, .int .i64 a, .int .i64 b, .int .i64 c, .int .i64 n] 23)).heap.size = w.heap.size + 1 by simp] at hJ
  have HI := Lib.hid hI
  have HJ := Lib.hid hJ
  clear ho ht hm hI hJ hsz
  have T1 := Lib.hid t1
  have C1 := Lib.hid c1
  have P1 := Lib.hid p1
  have P2 := Lib.hid p2
  clear t1 c1 p1 p2
  have b1 : T.isEmpty = false := by simpa using hT
  have b2 : (T == []) = false := by simpa using hT
  have b3 : (T == T) = true := by simp
  clear hT
  have s0 : (o == o) = true := by simp
  have s1 : (a == a) = true := by simp
  have s2 : (b == b) = true := by simp
  have s3 : (c == c) = true := by simp
  have s4 : (n == n) = true := by simp
  have b4 : (T2 == T) = false := by simpa using hT2
  have T2' := Lib.hid t2
  have hcmp := cmp_ins o a b c n o' a' b' c' n' hne
  clear t2 hT2 hne
  go_enter Tryd.func4, Tryd.ntmps4
  go_wp2_with fail
  refine (T1.out _ HK0.out.kn.ops HK0.out.kn.tab).mono ?_
  rintro e w1 ⟨rfl, hb⟩
  have HK1 := Lib.hid (HK0.out.below hb)
  have HI1 := Lib.hid (HI.out.below hb)
  have HJ1 := Lib.hid (HJ.out.below hb)
  clear hb
  go_wp2_with fail
  refine (P1.out _ HK1.out.kn.ops HK1.out.kn.tab HK1.out.cm).mono ?_
  rintro e w2 ⟨rfl, hb⟩
  have HK2 := Lib.hid ((HK1.out.below hb).alloc (.cells #[.int .i64 o, .int .i64 a, .int .i64 b, .int .i64 c, .int .i64 n] 23))
  have HI2 := Lib.hid ((HI1.out.below hb).alloc (.cells #[.int .i64 o, .int .i64 a, .int .i64 b, .int .i64 c, .int .i64 n] 23))
  have HJ2 := Lib.hid ((HJ1.out.below hb).alloc (.cells #[.int .i64 o, .int .i64 a, .int .i64 b, .int .i64 c, .int .i64 n] 23))
  have HX2 := Lib.hid (InsAt.new w2 o a b c n)
  obtain ⟨i0, i1, i2, i3, i4⟩ := (HI1.out.below hb)
  have z1 := (HI1.out.below hb).lt
  have z2 := (HJ1.out.below hb).lt
  clear hb
  go_wp2_with fail
  obtain ⟨w3, hw3⟩ : ∃ w3, w2.alloc (.cells #[.int .i64 o, .int .i64 a, .int .i64 b, .int .i64 c, .int .i64 n] 23) = w3 := ⟨_, rfl⟩
  rw [hw3] at HK2 HI2 HJ2 HX2 ⊢
  clear hw3 i0 i1 i2 i3 i4
  refine (C1.out _ HK2.out.kn.ops).mono ?_
  rintro e w4 ⟨rfl, hb⟩
  have HK4 := Lib.hid (HK2.out.below hb)
  have HI4 := Lib.hid (HI2.out.below hb)
  have HJ4 := Lib.hid (HJ2.out.below hb)
  have HX4 := Lib.hid (HX2.out.below hb)
  obtain ⟨i0, i1, i2, i3, i4⟩ := HI4.out
  obtain ⟨x0, x1, x2, x3, x4⟩ := HX4.out
  clear hb
  go_wp2_with fail
  refine (C1.out _ HK4.out.kn.ops).mono ?_
  rintro e w5 ⟨rfl, hb⟩
  have HK5 := Lib.hid (HK4.out.below hb)
  have HI5 := Lib.hid (HI4.out.below hb)
  have HJ5 := Lib.hid (HJ4.out.below hb)
  clear hb i0 i1 i2 i3 i4 x0 x1 x2 x3 x4
  go_wp2_with fail
  obtain ⟨I, hI⟩ : ∃ I, w.heap.size = I := ⟨_, rfl⟩
  have hLW : LW m w I (I + 1) (o) (a) (b) (c) (n) (o') (a') (b') (c') (n') w5 := ⟨HK5.out, by rw [← hI]; exact HI5.out, by rw [← hI]; exact HJ5.out⟩
  rw [hI]
  clear hI
  have hLd := hLW.below (Below.refl _ _).drew
  go_region_held3 (fun W => W.cell? ⟨I, 0, none⟩ = some (.int .i64 o) ∧ W.cell? ⟨I, 1, none⟩ = some (.int .i64 a) ∧ W.cell? ⟨I, 2, none⟩ = some (.int .i64 b) ∧ W.cell? ⟨I, 3, none⟩ = some (.int .i64 c) ∧ W.cell? ⟨I, 4, none⟩ = some (.int .i64 n) ∧ W.cell? ⟨I + 1, 0, none⟩ = some (.int .i64 o') ∧ W.cell? ⟨I + 1, 1, none⟩ = some (.int .i64 a') ∧ W.cell? ⟨I + 1, 2, none⟩ = some (.int .i64 b') ∧ W.cell? ⟨I + 1, 3, none⟩ = some (.int .i64 c') ∧ W.cell? ⟨I + 1, 4, none⟩ = some (.int .i64 n') ∧ LW m w I (I + 1) (o) (a) (b) (c) (n) (o') (a') (b') (c') (n') W)
    (first | assumption | exact lw_s (by assumption))
    (first
      | (go_at_call 11; refine (T2'.out _ (lw_of (by assumption)).kn.kn.ops (lw_of (by assumption)).kn.kn.tab).mono ?_; rintro e w6 ⟨rfl, hb6⟩; have hk6 := LW.below (lw_of (by assumption)) hb6))
  go_wp2_with fail
  have HK6 := Lib.hid hk6.kn
  have HI6 := Lib.hid hk6.i
  clear hk6 hLd hLW
  refine (P2.out _ HK6.out.kn.ops HK6.out.kn.tab HK6.out.cm).mono ?_
  rintro e w7 ⟨rfl, hb⟩
  have HK7 := Lib.hid ((HK6.out.below hb).alloc (.cells #[.int .i64 0, .int .i64 0, .int .i64 0, .int .i64 0, .int .i64 0] 23))
  have HX7 := Lib.hid (InsAt.new w7 0 0 0 0 0)
  clear hb
  go_wp2_with fail
  have HK9 := Lib.hid HK7.out
  refine (known_any _ HK9.out.kn.ops HK9.out.kn.tab).mono ?_
  rintro e w10 ⟨rfl, hb⟩
  have HK10 := Lib.hid (HK9.out.below hb)
  clear hb
  go_wp2_with fail
  go_ret
  exact ⟨rfl, HK10.out.kn.base⟩
set_option maxRecDepth 100000 in
set_option maxHeartbeats 4000000 in
theorem isaTB_bad_ok (o a b c n o' a' b' c' n' m p q r u v : Int) (S : List UInt8) (hS : S.length ≤ 4096) (t1 : Txt o a b c n []) (E : Int) (hE : E ≠ 0) (c1 : Chk o a b c n E) (p1 : Par m [] 0 0 0 0 0 32) (p2 : Par m S p q r u v 0) (t3 : Txt p q r u v S) (c3 : Chk p q r u v 0) (w : World) (ho : Ops w) (ht : Tab w) (hm : w.cell? ⟨1, 0, none⟩ = some (.int .i64 m)) :
    Calls Tryd.prog 4 #[.agg #[.int .i64 o, .int .i64 a, .int .i64 b, .int .i64 c, .int .i64 n], .agg #[.int .i64 o', .int .i64 a', .int .i64 b', .int .i64 c', .int .i64 n'], .string ⟨S.toArray⟩] w fun e w' => e = .returned (.bool true) ∧ Below w.heap.size w w' := by
  have hsz : (⟨S.toArray⟩ : ByteArray).size ≤ 4096 := by show S.toArray.size ≤ _; rw [List.size_toArray]; exact hS
  have HK0 := Lib.hid (((KM.mk (Kn.mk (Below.refl w.heap.size w) ho ht) hm).alloc (.cells #[.int .i64 o, .int .i64 a, .int .i64 b, .int .i64 c, .int .i64 n] 23)).alloc (.cells #[.int .i64 o', .int .i64 a', .int .i64 b', .int .i64 c', .int .i64 n'] 23))
  have hI := (InsAt.new w o a b c n).alloc (.cells #[.int .i64 o', .int .i64 a', .int .i64 b', .int .i64 c', .int .i64 n'] 23)
  have hJ := InsAt.new (w.alloc (.cells #[.int .i64 o, .int .i64 a, .int .i64 b, .int .i64 c, .int .i64 n] 23)) o' a' b' c' n'
  rw [show (w.alloc (.cells #[.int .i64 o, .int .i64 a, .int .i64 b, .int .i64 c, .int .i64 n] 23)).heap.size = w.heap.size + 1 by simp] at hJ
  have HI := Lib.hid hI
  have HJ := Lib.hid hJ
  clear ho ht hm hI hJ hsz
  have T1 := Lib.hid t1
  have C1 := Lib.hid c1
  have P1 := Lib.hid p1
  have P2 := Lib.hid p2
  clear t1 c1 p1 p2
  have b1 : (E == 0) = false := by simpa using hE
  have b2 : (E != 0) = true := by simpa using hE
  clear hE
  have T3 := Lib.hid t3
  have C3 := Lib.hid c3
  have b5 : (S == S) = true := by simp
  clear t3 c3
  go_enter Tryd.func4, Tryd.ntmps4
  go_wp2_with fail
  refine (T1.out _ HK0.out.kn.ops HK0.out.kn.tab).mono ?_
  rintro e w1 ⟨rfl, hb⟩
  have HK1 := Lib.hid (HK0.out.below hb)
  have HI1 := Lib.hid (HI.out.below hb)
  have HJ1 := Lib.hid (HJ.out.below hb)
  clear hb
  go_wp2_with fail
  refine (P1.out _ HK1.out.kn.ops HK1.out.kn.tab HK1.out.cm).mono ?_
  rintro e w2 ⟨rfl, hb⟩
  have HK2 := Lib.hid ((HK1.out.below hb).alloc (.cells #[.int .i64 0, .int .i64 0, .int .i64 0, .int .i64 0, .int .i64 0] 23))
  have HI2 := Lib.hid ((HI1.out.below hb).alloc (.cells #[.int .i64 0, .int .i64 0, .int .i64 0, .int .i64 0, .int .i64 0] 23))
  have HJ2 := Lib.hid ((HJ1.out.below hb).alloc (.cells #[.int .i64 0, .int .i64 0, .int .i64 0, .int .i64 0, .int .i64 0] 23))
  have HX2 := Lib.hid (InsAt.new w2 0 0 0 0 0)
  obtain ⟨i0, i1, i2, i3, i4⟩ := (HI1.out.below hb)
  have z1 := (HI1.out.below hb).lt
  have z2 := (HJ1.out.below hb).lt
  clear hb
  go_wp2_with fail
  obtain ⟨w3, hw3⟩ : ∃ w3, w2.alloc (.cells #[.int .i64 0, .int .i64 0, .int .i64 0, .int .i64 0, .int .i64 0] 23) = w3 := ⟨_, rfl⟩
  rw [hw3] at HK2 HI2 HJ2 HX2 ⊢
  clear hw3 i0 i1 i2 i3 i4
  refine (C1.out _ HK2.out.kn.ops).mono ?_
  rintro e w4 ⟨rfl, hb⟩
  have HK4 := Lib.hid (HK2.out.below hb)
  have HI4 := Lib.hid (HI2.out.below hb)
  have HJ4 := Lib.hid (HJ2.out.below hb)
  have HX4 := Lib.hid (HX2.out.below hb)
  obtain ⟨i0, i1, i2, i3, i4⟩ := HI4.out
  obtain ⟨x0, x1, x2, x3, x4⟩ := HX4.out
  clear hb
  go_wp2_with fail
  refine (C1.out _ HK4.out.kn.ops).mono ?_
  rintro e w5 ⟨rfl, hb⟩
  have HK5 := Lib.hid (HK4.out.below hb)
  have HI5 := Lib.hid (HI4.out.below hb)
  have HJ5 := Lib.hid (HJ4.out.below hb)
  clear hb i0 i1 i2 i3 i4 x0 x1 x2 x3 x4
  go_wp2_with fail
  go_quiet (fail)
  generalize hwq : w5.drewN nq = wq
  have HK6 : Hid (KM m w wq) := Lib.hid (by rw [← hwq]; exact HK5.out.below ⟨rfl, rfl, rfl, Nat.le_refl _, fun _ _ => rfl⟩)
  clear hwq
  go_wp2_with fail
  refine (P2.out _ HK6.out.kn.ops HK6.out.kn.tab HK6.out.cm).mono ?_
  rintro e w7 ⟨rfl, hb⟩
  have HK7 := Lib.hid ((HK6.out.below hb).alloc (.cells #[.int .i64 p, .int .i64 q, .int .i64 r, .int .i64 u, .int .i64 v] 23))
  have HX7 := Lib.hid (InsAt.new w7 p q r u v)
  clear hb
  go_wp2_with fail
  refine (T3.out _ HK7.out.kn.ops HK7.out.kn.tab).mono ?_
  rintro e w8 ⟨rfl, hb⟩
  have HK8 := Lib.hid (HK7.out.below hb)
  have HX8 := Lib.hid (HX7.out.below hb)
  obtain ⟨x0, x1, x2, x3, x4⟩ := HX8.out
  clear hb
  go_wp2_with fail
  refine (C3.out _ HK8.out.kn.ops).mono ?_
  rintro e w9 ⟨rfl, hb⟩
  have HK9 := Lib.hid (HK8.out.below hb)
  clear hb x0 x1 x2 x3 x4
  go_wp2_with fail
  refine (known_any _ HK9.out.kn.ops HK9.out.kn.tab).mono ?_
  rintro e w10 ⟨rfl, hb⟩
  have HK10 := Lib.hid (HK9.out.below hb)
  clear hb
  go_wp2_with fail
  go_ret
  exact ⟨rfl, HK10.out.kn.base⟩
set_option maxRecDepth 100000 in
set_option maxHeartbeats 4000000 in
theorem isaTB_bad_no (o a b c n o' a' b' c' n' m : Int) (S : List UInt8) (hS : S.length ≤ 4096) (t1 : Txt o a b c n []) (E : Int) (hE : E ≠ 0) (c1 : Chk o a b c n E) (p1 : Par m [] 0 0 0 0 0 32) (p2 : Par m S 0 0 0 0 0 32) (w : World) (ho : Ops w) (ht : Tab w) (hm : w.cell? ⟨1, 0, none⟩ = some (.int .i64 m)) :
    Calls Tryd.prog 4 #[.agg #[.int .i64 o, .int .i64 a, .int .i64 b, .int .i64 c, .int .i64 n], .agg #[.int .i64 o', .int .i64 a', .int .i64 b', .int .i64 c', .int .i64 n'], .string ⟨S.toArray⟩] w fun e w' => e = .returned (.bool true) ∧ Below w.heap.size w w' := by
  have hsz : (⟨S.toArray⟩ : ByteArray).size ≤ 4096 := by show S.toArray.size ≤ _; rw [List.size_toArray]; exact hS
  have HK0 := Lib.hid (((KM.mk (Kn.mk (Below.refl w.heap.size w) ho ht) hm).alloc (.cells #[.int .i64 o, .int .i64 a, .int .i64 b, .int .i64 c, .int .i64 n] 23)).alloc (.cells #[.int .i64 o', .int .i64 a', .int .i64 b', .int .i64 c', .int .i64 n'] 23))
  have hI := (InsAt.new w o a b c n).alloc (.cells #[.int .i64 o', .int .i64 a', .int .i64 b', .int .i64 c', .int .i64 n'] 23)
  have hJ := InsAt.new (w.alloc (.cells #[.int .i64 o, .int .i64 a, .int .i64 b, .int .i64 c, .int .i64 n] 23)) o' a' b' c' n'
  rw [show (w.alloc (.cells #[.int .i64 o, .int .i64 a, .int .i64 b, .int .i64 c, .int .i64 n] 23)).heap.size = w.heap.size + 1 by simp] at hJ
  have HI := Lib.hid hI
  have HJ := Lib.hid hJ
  clear ho ht hm hI hJ hsz
  have T1 := Lib.hid t1
  have C1 := Lib.hid c1
  have P1 := Lib.hid p1
  have P2 := Lib.hid p2
  clear t1 c1 p1 p2
  have b1 : (E == 0) = false := by simpa using hE
  have b2 : (E != 0) = true := by simpa using hE
  clear hE
  go_enter Tryd.func4, Tryd.ntmps4
  go_wp2_with fail
  refine (T1.out _ HK0.out.kn.ops HK0.out.kn.tab).mono ?_
  rintro e w1 ⟨rfl, hb⟩
  have HK1 := Lib.hid (HK0.out.below hb)
  have HI1 := Lib.hid (HI.out.below hb)
  have HJ1 := Lib.hid (HJ.out.below hb)
  clear hb
  go_wp2_with fail
  refine (P1.out _ HK1.out.kn.ops HK1.out.kn.tab HK1.out.cm).mono ?_
  rintro e w2 ⟨rfl, hb⟩
  have HK2 := Lib.hid ((HK1.out.below hb).alloc (.cells #[.int .i64 0, .int .i64 0, .int .i64 0, .int .i64 0, .int .i64 0] 23))
  have HI2 := Lib.hid ((HI1.out.below hb).alloc (.cells #[.int .i64 0, .int .i64 0, .int .i64 0, .int .i64 0, .int .i64 0] 23))
  have HJ2 := Lib.hid ((HJ1.out.below hb).alloc (.cells #[.int .i64 0, .int .i64 0, .int .i64 0, .int .i64 0, .int .i64 0] 23))
  have HX2 := Lib.hid (InsAt.new w2 0 0 0 0 0)
  obtain ⟨i0, i1, i2, i3, i4⟩ := (HI1.out.below hb)
  have z1 := (HI1.out.below hb).lt
  have z2 := (HJ1.out.below hb).lt
  clear hb
  go_wp2_with fail
  obtain ⟨w3, hw3⟩ : ∃ w3, w2.alloc (.cells #[.int .i64 0, .int .i64 0, .int .i64 0, .int .i64 0, .int .i64 0] 23) = w3 := ⟨_, rfl⟩
  rw [hw3] at HK2 HI2 HJ2 HX2 ⊢
  clear hw3 i0 i1 i2 i3 i4
  refine (C1.out _ HK2.out.kn.ops).mono ?_
  rintro e w4 ⟨rfl, hb⟩
  have HK4 := Lib.hid (HK2.out.below hb)
  have HI4 := Lib.hid (HI2.out.below hb)
  have HJ4 := Lib.hid (HJ2.out.below hb)
  have HX4 := Lib.hid (HX2.out.below hb)
  obtain ⟨i0, i1, i2, i3, i4⟩ := HI4.out
  obtain ⟨x0, x1, x2, x3, x4⟩ := HX4.out
  clear hb
  go_wp2_with fail
  refine (C1.out _ HK4.out.kn.ops).mono ?_
  rintro e w5 ⟨rfl, hb⟩
  have HK5 := Lib.hid (HK4.out.below hb)
  have HI5 := Lib.hid (HI4.out.below hb)
  have HJ5 := Lib.hid (HJ4.out.below hb)
  clear hb i0 i1 i2 i3 i4 x0 x1 x2 x3 x4
  go_wp2_with fail
  go_quiet (fail)
  generalize hwq : w5.drewN nq = wq
  have HK6 : Hid (KM m w wq) := Lib.hid (by rw [← hwq]; exact HK5.out.below ⟨rfl, rfl, rfl, Nat.le_refl _, fun _ _ => rfl⟩)
  clear hwq
  go_wp2_with fail
  refine (P2.out _ HK6.out.kn.ops HK6.out.kn.tab HK6.out.cm).mono ?_
  rintro e w7 ⟨rfl, hb⟩
  have HK7 := Lib.hid ((HK6.out.below hb).alloc (.cells #[.int .i64 0, .int .i64 0, .int .i64 0, .int .i64 0, .int .i64 0] 23))
  have HX7 := Lib.hid (InsAt.new w7 0 0 0 0 0)
  clear hb
  go_wp2_with fail
  have HK9 := Lib.hid HK7.out
  refine (known_any _ HK9.out.kn.ops HK9.out.kn.tab).mono ?_
  rintro e w10 ⟨rfl, hb⟩
  have HK10 := Lib.hid (HK9.out.below hb)
  clear hb
  go_wp2_with fail
  go_ret
  exact ⟨rfl, HK10.out.kn.base⟩
theorem isaTextBack_walk (o a b c n o' a' b' c' n' : Int) (s : ByteArray) (m : Int) (w : World) (ho : Ops w) (ht : Tab w) (hm : w.cell? ⟨1, 0, none⟩ = some (.int .i64 m)) :
    Calls Tryd.prog 4 #[.agg #[.int .i64 o, .int .i64 a, .int .i64 b, .int .i64 c, .int .i64 n], .agg #[.int .i64 o', .int .i64 a', .int .i64 b', .int .i64 c', .int .i64 n'], .string s] w fun e w' => e = .returned (.bool true) ∧ Below w.heap.size w w' := by
  obtain ⟨S, rfl⟩ : ∃ S : List UInt8, s = ⟨S.toArray⟩ := ⟨s.data.toList, rfl⟩
  by_cases hS : S.length ≤ 4096
  · have hx : ∃ p q r u v E, IsParse S p q r u v E := by
      by_cases h : ∃ p q r u v, chkOf p q r u v = 0 ∧ textOf p q r u v = S
      · obtain ⟨p, q, r, u, v, h1, h2⟩ := h
        exact ⟨p, q, r, u, v, 0, .inl ⟨rfl, h1, h2⟩⟩
      · exact ⟨0, 0, 0, 0, 0, 32, .inr ⟨rfl, rfl, rfl, rfl, rfl, rfl, fun p q r u v h1 h2 => h ⟨p, q, r, u, v, h1, h2⟩⟩⟩
    obtain ⟨p, q, r, u, v, E, hx⟩ := hx
    have px := par_of (m := m) (by omega) hx
    have c1 := chk_of o a b c n
    have t1 := txt_of o a b c n
    have t2 := txt_of o' a' b' c' n'
    have p1 : ∀ {p q r u v E : Int}, IsParse (textOf o a b c n) p q r u v E → Par m (textOf o a b c n) p q r u v E := fun h => par_of textOf_len h
    by_cases hc : chkOf o a b c n = 0
    · have hT := textOf_ne hc
      have hp1 := p1 (.inl ⟨rfl, hc, rfl⟩)
      rw [hc] at c1
      by_cases hne : o = o' ∧ a = a' ∧ b = b' ∧ c = c' ∧ n = n'
      · obtain ⟨rfl, rfl, rfl, rfl, rfl⟩ := hne
        rcases hx with ⟨rfl, h2, h3⟩ | ⟨rfl, rfl, rfl, rfl, rfl, rfl, _⟩
        · have c3 := chk_of p q r u v
          have t3 := txt_of p q r u v
          rw [h2] at c3
          rw [h3] at t3
          exact isaTB_same_ok o a b c n m p q r u v _ S hS t1 c1 hp1 hT px t3 c3 w ho ht hm
        · exact isaTB_same_no o a b c n m _ S hS t1 c1 hp1 hT px w ho ht hm
      · have hT2 : textOf o' a' b' c' n' ≠ textOf o a b c n := fun e => by
          obtain ⟨e0, e1, e2, e3, e4⟩ := textOf_inj hc (chk_of_text (by rw [e]; exact hT)) e.symm
          exact hne ⟨e0, e1, e2, e3, e4⟩
        rcases hx with ⟨rfl, h2, h3⟩ | ⟨rfl, rfl, rfl, rfl, rfl, rfl, _⟩
        · have c3 := chk_of p q r u v
          have t3 := txt_of p q r u v
          rw [h2] at c3
          rw [h3] at t3
          exact isaTB_diff_ok o a b c n o' a' b' c' n' m p q r u v _ S hS t1 c1 hp1 hT _ t2 hT2 hne px t3 c3 w ho ht hm
        · exact isaTB_diff_no o a b c n o' a' b' c' n' m _ S hS t1 c1 hp1 hT _ t2 hT2 hne px w ho ht hm
    · have hT : textOf o a b c n = [] := by unfold textOf; rw [if_neg hc]
      have hp1 := p1 (.inr ⟨rfl, rfl, rfl, rfl, rfl, rfl, fun p q r u v h1 h2 => textOf_ne h1 (by rw [h2]; exact hT)⟩)
      rw [hT] at t1 hp1
      rcases hx with ⟨rfl, h2, h3⟩ | ⟨rfl, rfl, rfl, rfl, rfl, rfl, _⟩
      · have c3 := chk_of p q r u v
        have t3 := txt_of p q r u v
        rw [h2] at c3
        rw [h3] at t3
        exact isaTB_bad_ok o a b c n o' a' b' c' n' m p q r u v S hS t1 _ hc c1 hp1 px t3 c3 w ho ht hm
      · exact isaTB_bad_no o a b c n o' a' b' c' n' m S hS t1 _ hc c1 hp1 px w ho ht hm
  · have HK0 := Lib.hid (((KM.mk (Kn.mk (Below.refl w.heap.size w) ho ht) hm).alloc (.cells #[.int .i64 o, .int .i64 a, .int .i64 b, .int .i64 c, .int .i64 n] 23)).alloc (.cells #[.int .i64 o', .int .i64 a', .int .i64 b', .int .i64 c', .int .i64 n'] 23))
    have hl : ¬ S.length ≤ 4096 := hS
    have hl2 : 4096 < S.length := by omega
    clear ho ht hm
    go_enter Tryd.func4, Tryd.ntmps4
    go_wp2_with fail
    refine (known_any _ HK0.out.kn.ops HK0.out.kn.tab).mono ?_
    rintro e w1 ⟨rfl, hb⟩
    have HK1 := Lib.hid (HK0.out.below hb)
    clear hb
    go_wp2_with fail
    go_ret
    exact ⟨rfl, HK1.out.kn.base⟩
end Go.Proofs.YtfpgalckmfdcmaaDoor
