/- The walk of the statement IsaBack: it returns true. Conditions: the library's table of powers of ten and the table of operations read as they are laid. -/
import Derived.Test.YtfmecfamiplfdaaDoorIsaBackM
import Derived.Test.YtfmecfamiplfdaaDoorIsaEncodesW
namespace Go.Proofs.YtfmecfamiplfdaaDoor
open Go Go.RowKit
/-- an instruction in memory -/
structure InsAt (W : World) (B : Nat) (o a b c n : Int) : Prop where
  c0 : W.cell? ⟨B, 0, none⟩ = some (.int .i64 o)
  c1 : W.cell? ⟨B, 1, none⟩ = some (.int .i64 a)
  c2 : W.cell? ⟨B, 2, none⟩ = some (.int .i64 b)
  c3 : W.cell? ⟨B, 3, none⟩ = some (.int .i64 c)
  c4 : W.cell? ⟨B, 4, none⟩ = some (.int .i64 n)
theorem InsAt.lt {W : World} {B : Nat} {o a b c n : Int} (h : InsAt W B o a b c n) : B < W.heap.size := World.block_lt_of_cell? W _ h.c0
theorem InsAt.below {W W' : World} {B : Nat} {o a b c n : Int} (h : InsAt W B o a b c n) (hb : Below W.heap.size W W') : InsAt W' B o a b c n :=
  have st : ∀ (p : Addr) (u : Value), W.cell? p = some u → W'.cell? p = some u := fun p _ hv => (hb.cell (p := p) (World.block_lt_of_cell? W _ hv)).trans hv
  ⟨st _ _ h.c0, st _ _ h.c1, st _ _ h.c2, st _ _ h.c3, st _ _ h.c4⟩
theorem InsAt.new (W : World) (o a b c n : Int) : InsAt (W.alloc (.cells #[.int .i64 o, .int .i64 a, .int .i64 b, .int .i64 c, .int .i64 n] 30)) W.heap.size o a b c n := ⟨by simp, by simp, by simp, by simp, by simp⟩
theorem InsAt.alloc {W : World} {B : Nat} {o a b c n : Int} (h : InsAt W B o a b c n) (x : Obj) : InsAt (W.alloc x) B o a b c n := h.below ((Below.refl _ _).alloc (Nat.le_refl _) _)
theorem Kn.alloc {w W : World} (h : Kn w W) (x : Obj) : Kn w (W.alloc x) := h.below ((Below.refl _ _).alloc (Nat.le_refl _) _)
/-- what encoding says of an instruction -/
def Enc (o a b c n X E : Int) : Prop := ∀ W, Ops W → Calls Tryd.prog 13 #[.agg #[.int .i64 o, .int .i64 a, .int .i64 b, .int .i64 c, .int .i64 n]] W fun e w' => e = .returned (.tuple #[.int .u64 X, .int .i64 E]) ∧ Below W.heap.size W w'
/-- what decoding says of a word -/
def Dec (X o a b c n E : Int) : Prop := ∀ W, Ops W → Calls Tryd.prog 17 #[.int .u64 X] W fun e w' => e = .returned (.tuple #[.agg #[.int .i64 o, .int .i64 a, .int .i64 b, .int .i64 c, .int .i64 n], .int .i64 E]) ∧ Below W.heap.size W w'
theorem enc_yes {o a b c n : Int} (h : chkOf o a b c n = 0) : Enc o a b c n (encW o a b c n) 0 := fun W hW => by
  have := encode_any o a b c n W hW
  rw [wordOf, if_pos h, h] at this
  exact this
theorem enc_no {o a b c n : Int} (h : chkOf o a b c n ≠ 0) : Enc o a b c n 0 (chkOf o a b c n) := fun W hW => by
  have := encode_any o a b c n W hW
  rw [wordOf, if_neg h] at this
  exact this
theorem dec_enc {o a b c n : Int} (h : chkOf o a b c n = 0) : Dec (encW o a b c n) o a b c n 0 := fun W hW => by
  obtain ⟨e0, e1, e2, e3, e4⟩ := enc_parts h
  have hd := enc_dchk h
  have := decode_any _ (encN_lt h) W hW
  simp only [pk_ok hd, e0, e1, e2, e3, e4] at this
  rw [hd, encN_cast h] at this
  exact this
theorem dec_yes {N : Nat} (hN : N < 18446744073709551616) (h : dchk N = 0) : Dec N (oN N) (aN N) (bN N) (cN N) (sN N) 0 := fun W hW => by
  have := decode_any N hN W hW
  simp only [pk_ok h] at this
  rw [h] at this
  exact this
theorem dec_no {N : Nat} (hN : N < 18446744073709551616) (h : dchk N ≠ 0) : Dec N 0 0 0 0 0 (dchk N) := fun W hW => by
  have := decode_any N hN W hW
  simp only [pk_no h] at this
  exact this
theorem enc_dec {N : Nat} (hN : N < 18446744073709551616) (h : dchk N = 0) : Enc (oN N) (aN N) (bN N) (cN N) (sN N) N 0 := by
  have := enc_yes (o := oN N) (a := aN N) (b := bN N) (c := cN N) (n := sN N) h
  rw [dec_word N hN] at this
  exact this
theorem enc_zero : Enc 0 0 0 0 0 0 30 := by
  have h : chkOf 0 0 0 0 0 = 30 := chkOf_no (.inl (by decide)) _ _ _ _
  have := enc_no (o := 0) (a := 0) (b := 0) (c := 0) (n := 0) (by rw [h]; decide)
  rw [h] at this
  exact this
set_option maxRecDepth 100000 in
set_option maxHeartbeats 4000000 in
theorem isaBack_TTe_ok (o a b c n X N p q r s t : Int) (e1 : Enc o a b c n X 0) (e2 : Enc o a b c n X 0) (d1 : Dec X o a b c n 0) (d2 : Dec N p q r s t 0) (e3 : Enc p q r s t N 0) (w : World) (ho : Ops w) (ht : Tab w) :
    Calls Tryd.prog 6 #[.agg #[.int .i64 o, .int .i64 a, .int .i64 b, .int .i64 c, .int .i64 n], .agg #[.int .i64 o, .int .i64 a, .int .i64 b, .int .i64 c, .int .i64 n], .int .u64 N] w fun e w' => e = .returned (.bool true) ∧ Below w.heap.size w w' := by
  have HK0 := Lib.hid (((Kn.mk (Below.refl w.heap.size w) ho ht).alloc (.cells #[.int .i64 o, .int .i64 a, .int .i64 b, .int .i64 c, .int .i64 n] 30)).alloc (.cells #[.int .i64 o, .int .i64 a, .int .i64 b, .int .i64 c, .int .i64 n] 30))
  have hI := (InsAt.new w o a b c n).alloc (.cells #[.int .i64 o, .int .i64 a, .int .i64 b, .int .i64 c, .int .i64 n] 30)
  have hJ := InsAt.new (w.alloc (.cells #[.int .i64 o, .int .i64 a, .int .i64 b, .int .i64 c, .int .i64 n] 30)) o a b c n
  rw [show (w.alloc (.cells #[.int .i64 o, .int .i64 a, .int .i64 b, .int .i64 c, .int .i64 n] 30)).heap.size = w.heap.size + 1 by simp] at hJ
  have HI := Lib.hid hI
  have HJ := Lib.hid hJ
  clear ho ht hI hJ
  have E1 := Lib.hid e1
  have E2 := Lib.hid e2
  have E3 := Lib.hid e3
  have D2 := Lib.hid d2
  clear e1 e2 e3 d2
  have D1 := Lib.hid d1
  clear d1
  go_enter Tryd.func6, Tryd.ntmps6
  go_wp2_with fail
  refine (E1.out _ HK0.out.ops).mono ?_
  rintro e w1 ⟨rfl, hb⟩
  have HK1 := Lib.hid (HK0.out.below hb)
  have HI1 := Lib.hid (HI.out.below hb)
  have HJ1 := Lib.hid (HJ.out.below hb)
  obtain ⟨j0, j1, j2, j3, j4⟩ := HJ1.out
  clear hb
  go_wp2_with fail
  refine (E2.out _ HK1.out.ops).mono ?_
  rintro e w2 ⟨rfl, hb⟩
  have HK2 := Lib.hid (HK1.out.below hb)
  have HI2 := Lib.hid (HI1.out.below hb)
  have HJ2 := Lib.hid (HJ1.out.below hb)
  clear hb j0 j1 j2 j3 j4
  go_wp2_with fail
  refine (D1.out _ HK2.out.ops).mono ?_
  rintro e w3 ⟨rfl, hb⟩
  have HK3 := Lib.hid ((HK2.out.below hb).alloc (.cells #[.int .i64 o, .int .i64 a, .int .i64 b, .int .i64 c, .int .i64 n] 30))
  have HI3 := Lib.hid (HI2.out.below hb)
  have HJ3 := Lib.hid (HJ2.out.below hb)
  obtain ⟨i0, i1, i2, i3, i4⟩ := HI3.out
  obtain ⟨j0, j1, j2, j3, j4⟩ := HJ3.out
  have z1 := HI3.out.lt
  have z2 := HJ3.out.lt
  clear hb
  go_wp2_with fail
  refine (D2.out _ HK3.out.ops).mono ?_
  rintro e w4 ⟨rfl, hb⟩
  have HK4 := Lib.hid ((HK3.out.below hb).alloc (.cells #[.int .i64 p, .int .i64 q, .int .i64 r, .int .i64 s, .int .i64 t] 30))
  clear hb
  go_wp2_with fail
  refine (E3.out _ HK4.out.ops).mono ?_
  rintro e w5 ⟨rfl, hb⟩
  have HP := Lib.hid ((InsAt.new w4 p q r s t).below hb)
  obtain ⟨p0, p1, p2, p3, p4⟩ := HP.out
  have HK5 := Lib.hid (HK4.out.below hb)
  clear hb
  go_wp2_with fail
  refine (known_any _ HK5.out.ops HK5.out.tab).mono ?_
  rintro e w6 ⟨rfl, hb⟩
  have HK6 := Lib.hid (HK5.out.below hb)
  clear hb
  go_wp2_with fail
  go_ret
  exact ⟨rfl, HK6.out.base⟩
set_option maxRecDepth 100000 in
set_option maxHeartbeats 4000000 in
theorem isaBack_TTe_no (o a b c n X N G : Int) (e1 : Enc o a b c n X 0) (e2 : Enc o a b c n X 0) (d1 : Dec X o a b c n 0) (d2 : Dec N 0 0 0 0 0 G) (hG : G ≠ 0) (e3 : Enc 0 0 0 0 0 0 30) (w : World) (ho : Ops w) (ht : Tab w) :
    Calls Tryd.prog 6 #[.agg #[.int .i64 o, .int .i64 a, .int .i64 b, .int .i64 c, .int .i64 n], .agg #[.int .i64 o, .int .i64 a, .int .i64 b, .int .i64 c, .int .i64 n], .int .u64 N] w fun e w' => e = .returned (.bool true) ∧ Below w.heap.size w w' := by
  have HK0 := Lib.hid (((Kn.mk (Below.refl w.heap.size w) ho ht).alloc (.cells #[.int .i64 o, .int .i64 a, .int .i64 b, .int .i64 c, .int .i64 n] 30)).alloc (.cells #[.int .i64 o, .int .i64 a, .int .i64 b, .int .i64 c, .int .i64 n] 30))
  have hI := (InsAt.new w o a b c n).alloc (.cells #[.int .i64 o, .int .i64 a, .int .i64 b, .int .i64 c, .int .i64 n] 30)
  have hJ := InsAt.new (w.alloc (.cells #[.int .i64 o, .int .i64 a, .int .i64 b, .int .i64 c, .int .i64 n] 30)) o a b c n
  rw [show (w.alloc (.cells #[.int .i64 o, .int .i64 a, .int .i64 b, .int .i64 c, .int .i64 n] 30)).heap.size = w.heap.size + 1 by simp] at hJ
  have HI := Lib.hid hI
  have HJ := Lib.hid hJ
  clear ho ht hI hJ
  have b4 : (G != 0) = true := by simpa using hG
  clear hG
  have E1 := Lib.hid e1
  have E2 := Lib.hid e2
  have E3 := Lib.hid e3
  have D2 := Lib.hid d2
  clear e1 e2 e3 d2
  have D1 := Lib.hid d1
  clear d1
  go_enter Tryd.func6, Tryd.ntmps6
  go_wp2_with fail
  refine (E1.out _ HK0.out.ops).mono ?_
  rintro e w1 ⟨rfl, hb⟩
  have HK1 := Lib.hid (HK0.out.below hb)
  have HI1 := Lib.hid (HI.out.below hb)
  have HJ1 := Lib.hid (HJ.out.below hb)
  obtain ⟨j0, j1, j2, j3, j4⟩ := HJ1.out
  clear hb
  go_wp2_with fail
  refine (E2.out _ HK1.out.ops).mono ?_
  rintro e w2 ⟨rfl, hb⟩
  have HK2 := Lib.hid (HK1.out.below hb)
  have HI2 := Lib.hid (HI1.out.below hb)
  have HJ2 := Lib.hid (HJ1.out.below hb)
  clear hb j0 j1 j2 j3 j4
  go_wp2_with fail
  refine (D1.out _ HK2.out.ops).mono ?_
  rintro e w3 ⟨rfl, hb⟩
  have HK3 := Lib.hid ((HK2.out.below hb).alloc (.cells #[.int .i64 o, .int .i64 a, .int .i64 b, .int .i64 c, .int .i64 n] 30))
  have HI3 := Lib.hid (HI2.out.below hb)
  have HJ3 := Lib.hid (HJ2.out.below hb)
  obtain ⟨i0, i1, i2, i3, i4⟩ := HI3.out
  obtain ⟨j0, j1, j2, j3, j4⟩ := HJ3.out
  have z1 := HI3.out.lt
  have z2 := HJ3.out.lt
  clear hb
  go_wp2_with fail
  refine (D2.out _ HK3.out.ops).mono ?_
  rintro e w4 ⟨rfl, hb⟩
  have HK4 := Lib.hid ((HK3.out.below hb).alloc (.cells #[.int .i64 0, .int .i64 0, .int .i64 0, .int .i64 0, .int .i64 0] 30))
  clear hb
  go_wp2_with fail
  refine (E3.out _ HK4.out.ops).mono ?_
  rintro e w5 ⟨rfl, hb⟩
  have HP := Lib.hid ((InsAt.new w4 0 0 0 0 0).below hb)
  obtain ⟨p0, p1, p2, p3, p4⟩ := HP.out
  have HK5 := Lib.hid (HK4.out.below hb)
  clear hb
  go_wp2_with fail
  refine (known_any _ HK5.out.ops HK5.out.tab).mono ?_
  rintro e w6 ⟨rfl, hb⟩
  have HK6 := Lib.hid (HK5.out.below hb)
  clear hb
  go_wp2_with fail
  go_ret
  exact ⟨rfl, HK6.out.base⟩
set_option maxRecDepth 100000 in
set_option maxHeartbeats 4000000 in
theorem isaBack_TTn_ok (o a b c n o' a' b' c' n' X Y N p q r s t : Int) (e1 : Enc o a b c n X 0) (e2 : Enc o' a' b' c' n' Y 0) (d1 : Dec X o a b c n 0) (hxy : X ≠ Y) (hne : ¬ (o = o' ∧ a = a' ∧ b = b' ∧ c = c' ∧ n = n')) (d2 : Dec N p q r s t 0) (e3 : Enc p q r s t N 0) (w : World) (ho : Ops w) (ht : Tab w) :
    Calls Tryd.prog 6 #[.agg #[.int .i64 o, .int .i64 a, .int .i64 b, .int .i64 c, .int .i64 n], .agg #[.int .i64 o', .int .i64 a', .int .i64 b', .int .i64 c', .int .i64 n'], .int .u64 N] w fun e w' => e = .returned (.bool true) ∧ Below w.heap.size w w' := by
  have HK0 := Lib.hid (((Kn.mk (Below.refl w.heap.size w) ho ht).alloc (.cells #[.int .i64 o, .int .i64 a, .int .i64 b, .int .i64 c, .int .i64 n] 30)).alloc (.cells #[.int .i64 o', .int .i64 a', .int .i64 b', .int .i64 c', .int .i64 n'] 30))
  have hI := (InsAt.new w o a b c n).alloc (.cells #[.int .i64 o', .int .i64 a', .int .i64 b', .int .i64 c', .int .i64 n'] 30)
  have hJ := InsAt.new (w.alloc (.cells #[.int .i64 o, .int .i64 a, .int .i64 b, .int .i64 c, .int .i64 n] 30)) o' a' b' c' n'
  rw [show (w.alloc (.cells #[.int .i64 o, .int .i64 a, .int .i64 b, .int .i64 c, .int .i64 n] 30)).heap.size = w.heap.size + 1 by simp] at hJ
  have HI := Lib.hid hI
  have HJ := Lib.hid hJ
  clear ho ht hI hJ
  have hcmp := cmp_ins o a b c n o' a' b' c' n' hne
  have b3 : (X == Y) = false := by simpa using hxy
  clear hxy hne
  have E1 := Lib.hid e1
  have E2 := Lib.hid e2
  have E3 := Lib.hid e3
  have D2 := Lib.hid d2
  clear e1 e2 e3 d2
  have D1 := Lib.hid d1
  clear d1
  go_enter Tryd.func6, Tryd.ntmps6
  go_wp2_with fail
  refine (E1.out _ HK0.out.ops).mono ?_
  rintro e w1 ⟨rfl, hb⟩
  have HK1 := Lib.hid (HK0.out.below hb)
  have HI1 := Lib.hid (HI.out.below hb)
  have HJ1 := Lib.hid (HJ.out.below hb)
  obtain ⟨j0, j1, j2, j3, j4⟩ := HJ1.out
  clear hb
  go_wp2_with fail
  refine (E2.out _ HK1.out.ops).mono ?_
  rintro e w2 ⟨rfl, hb⟩
  have HK2 := Lib.hid (HK1.out.below hb)
  have HI2 := Lib.hid (HI1.out.below hb)
  have HJ2 := Lib.hid (HJ1.out.below hb)
  clear hb j0 j1 j2 j3 j4
  go_wp2_with fail
  refine (D1.out _ HK2.out.ops).mono ?_
  rintro e w3 ⟨rfl, hb⟩
  have HK3 := Lib.hid ((HK2.out.below hb).alloc (.cells #[.int .i64 o, .int .i64 a, .int .i64 b, .int .i64 c, .int .i64 n] 30))
  have HI3 := Lib.hid (HI2.out.below hb)
  have HJ3 := Lib.hid (HJ2.out.below hb)
  obtain ⟨i0, i1, i2, i3, i4⟩ := HI3.out
  obtain ⟨j0, j1, j2, j3, j4⟩ := HJ3.out
  have z1 := HI3.out.lt
  have z2 := HJ3.out.lt
  clear hb
  go_wp2_with fail
  refine (D2.out _ HK3.out.ops).mono ?_
  rintro e w4 ⟨rfl, hb⟩
  have HK4 := Lib.hid ((HK3.out.below hb).alloc (.cells #[.int .i64 p, .int .i64 q, .int .i64 r, .int .i64 s, .int .i64 t] 30))
  clear hb
  go_wp2_with fail
  refine (E3.out _ HK4.out.ops).mono ?_
  rintro e w5 ⟨rfl, hb⟩
  have HP := Lib.hid ((InsAt.new w4 p q r s t).below hb)
  obtain ⟨p0, p1, p2, p3, p4⟩ := HP.out
  have HK5 := Lib.hid (HK4.out.below hb)
  clear hb
  go_wp2_with fail
  refine (known_any _ HK5.out.ops HK5.out.tab).mono ?_
  rintro e w6 ⟨rfl, hb⟩
  have HK6 := Lib.hid (HK5.out.below hb)
  clear hb
  go_wp2_with fail
  go_ret
  exact ⟨rfl, HK6.out.base⟩
set_option maxRecDepth 100000 in
set_option maxHeartbeats 4000000 in
theorem isaBack_TTn_no (o a b c n o' a' b' c' n' X Y N G : Int) (e1 : Enc o a b c n X 0) (e2 : Enc o' a' b' c' n' Y 0) (d1 : Dec X o a b c n 0) (hxy : X ≠ Y) (hne : ¬ (o = o' ∧ a = a' ∧ b = b' ∧ c = c' ∧ n = n')) (d2 : Dec N 0 0 0 0 0 G) (hG : G ≠ 0) (e3 : Enc 0 0 0 0 0 0 30) (w : World) (ho : Ops w) (ht : Tab w) :
    Calls Tryd.prog 6 #[.agg #[.int .i64 o, .int .i64 a, .int .i64 b, .int .i64 c, .int .i64 n], .agg #[.int .i64 o', .int .i64 a', .int .i64 b', .int .i64 c', .int .i64 n'], .int .u64 N] w fun e w' => e = .returned (.bool true) ∧ Below w.heap.size w w' := by
  have HK0 := Lib.hid (((Kn.mk (Below.refl w.heap.size w) ho ht).alloc (.cells #[.int .i64 o, .int .i64 a, .int .i64 b, .int .i64 c, .int .i64 n] 30)).alloc (.cells #[.int .i64 o', .int .i64 a', .int .i64 b', .int .i64 c', .int .i64 n'] 30))
  have hI := (InsAt.new w o a b c n).alloc (.cells #[.int .i64 o', .int .i64 a', .int .i64 b', .int .i64 c', .int .i64 n'] 30)
  have hJ := InsAt.new (w.alloc (.cells #[.int .i64 o, .int .i64 a, .int .i64 b, .int .i64 c, .int .i64 n] 30)) o' a' b' c' n'
  rw [show (w.alloc (.cells #[.int .i64 o, .int .i64 a, .int .i64 b, .int .i64 c, .int .i64 n] 30)).heap.size = w.heap.size + 1 by simp] at hJ
  have HI := Lib.hid hI
  have HJ := Lib.hid hJ
  clear ho ht hI hJ
  have hcmp := cmp_ins o a b c n o' a' b' c' n' hne
  have b3 : (X == Y) = false := by simpa using hxy
  clear hxy hne
  have b4 : (G != 0) = true := by simpa using hG
  clear hG
  have E1 := Lib.hid e1
  have E2 := Lib.hid e2
  have E3 := Lib.hid e3
  have D2 := Lib.hid d2
  clear e1 e2 e3 d2
  have D1 := Lib.hid d1
  clear d1
  go_enter Tryd.func6, Tryd.ntmps6
  go_wp2_with fail
  refine (E1.out _ HK0.out.ops).mono ?_
  rintro e w1 ⟨rfl, hb⟩
  have HK1 := Lib.hid (HK0.out.below hb)
  have HI1 := Lib.hid (HI.out.below hb)
  have HJ1 := Lib.hid (HJ.out.below hb)
  obtain ⟨j0, j1, j2, j3, j4⟩ := HJ1.out
  clear hb
  go_wp2_with fail
  refine (E2.out _ HK1.out.ops).mono ?_
  rintro e w2 ⟨rfl, hb⟩
  have HK2 := Lib.hid (HK1.out.below hb)
  have HI2 := Lib.hid (HI1.out.below hb)
  have HJ2 := Lib.hid (HJ1.out.below hb)
  clear hb j0 j1 j2 j3 j4
  go_wp2_with fail
  refine (D1.out _ HK2.out.ops).mono ?_
  rintro e w3 ⟨rfl, hb⟩
  have HK3 := Lib.hid ((HK2.out.below hb).alloc (.cells #[.int .i64 o, .int .i64 a, .int .i64 b, .int .i64 c, .int .i64 n] 30))
  have HI3 := Lib.hid (HI2.out.below hb)
  have HJ3 := Lib.hid (HJ2.out.below hb)
  obtain ⟨i0, i1, i2, i3, i4⟩ := HI3.out
  obtain ⟨j0, j1, j2, j3, j4⟩ := HJ3.out
  have z1 := HI3.out.lt
  have z2 := HJ3.out.lt
  clear hb
  go_wp2_with fail
  refine (D2.out _ HK3.out.ops).mono ?_
  rintro e w4 ⟨rfl, hb⟩
  have HK4 := Lib.hid ((HK3.out.below hb).alloc (.cells #[.int .i64 0, .int .i64 0, .int .i64 0, .int .i64 0, .int .i64 0] 30))
  clear hb
  go_wp2_with fail
  refine (E3.out _ HK4.out.ops).mono ?_
  rintro e w5 ⟨rfl, hb⟩
  have HP := Lib.hid ((InsAt.new w4 0 0 0 0 0).below hb)
  obtain ⟨p0, p1, p2, p3, p4⟩ := HP.out
  have HK5 := Lib.hid (HK4.out.below hb)
  clear hb
  go_wp2_with fail
  refine (known_any _ HK5.out.ops HK5.out.tab).mono ?_
  rintro e w6 ⟨rfl, hb⟩
  have HK6 := Lib.hid (HK5.out.below hb)
  clear hb
  go_wp2_with fail
  go_ret
  exact ⟨rfl, HK6.out.base⟩
set_option maxRecDepth 100000 in
set_option maxHeartbeats 4000000 in
theorem isaBack_TF_ok (o a b c n o' a' b' c' n' X Y F N p q r s t : Int) (e1 : Enc o a b c n X 0) (e2 : Enc o' a' b' c' n' Y F) (d1 : Dec X o a b c n 0) (hF : F ≠ 0) (d2 : Dec N p q r s t 0) (e3 : Enc p q r s t N 0) (w : World) (ho : Ops w) (ht : Tab w) :
    Calls Tryd.prog 6 #[.agg #[.int .i64 o, .int .i64 a, .int .i64 b, .int .i64 c, .int .i64 n], .agg #[.int .i64 o', .int .i64 a', .int .i64 b', .int .i64 c', .int .i64 n'], .int .u64 N] w fun e w' => e = .returned (.bool true) ∧ Below w.heap.size w w' := by
  have HK0 := Lib.hid (((Kn.mk (Below.refl w.heap.size w) ho ht).alloc (.cells #[.int .i64 o, .int .i64 a, .int .i64 b, .int .i64 c, .int .i64 n] 30)).alloc (.cells #[.int .i64 o', .int .i64 a', .int .i64 b', .int .i64 c', .int .i64 n'] 30))
  have hI := (InsAt.new w o a b c n).alloc (.cells #[.int .i64 o', .int .i64 a', .int .i64 b', .int .i64 c', .int .i64 n'] 30)
  have hJ := InsAt.new (w.alloc (.cells #[.int .i64 o, .int .i64 a, .int .i64 b, .int .i64 c, .int .i64 n] 30)) o' a' b' c' n'
  rw [show (w.alloc (.cells #[.int .i64 o, .int .i64 a, .int .i64 b, .int .i64 c, .int .i64 n] 30)).heap.size = w.heap.size + 1 by simp] at hJ
  have HI := Lib.hid hI
  have HJ := Lib.hid hJ
  clear ho ht hI hJ
  have b2 : (F == 0) = false := by simpa using hF
  clear hF
  have E1 := Lib.hid e1
  have E2 := Lib.hid e2
  have E3 := Lib.hid e3
  have D2 := Lib.hid d2
  clear e1 e2 e3 d2
  have D1 := Lib.hid d1
  clear d1
  go_enter Tryd.func6, Tryd.ntmps6
  go_wp2_with fail
  refine (E1.out _ HK0.out.ops).mono ?_
  rintro e w1 ⟨rfl, hb⟩
  have HK1 := Lib.hid (HK0.out.below hb)
  have HI1 := Lib.hid (HI.out.below hb)
  have HJ1 := Lib.hid (HJ.out.below hb)
  obtain ⟨j0, j1, j2, j3, j4⟩ := HJ1.out
  clear hb
  go_wp2_with fail
  refine (E2.out _ HK1.out.ops).mono ?_
  rintro e w2 ⟨rfl, hb⟩
  have HK2 := Lib.hid (HK1.out.below hb)
  have HI2 := Lib.hid (HI1.out.below hb)
  have HJ2 := Lib.hid (HJ1.out.below hb)
  clear hb j0 j1 j2 j3 j4
  go_wp2_with fail
  refine (D1.out _ HK2.out.ops).mono ?_
  rintro e w3 ⟨rfl, hb⟩
  have HK3 := Lib.hid ((HK2.out.below hb).alloc (.cells #[.int .i64 o, .int .i64 a, .int .i64 b, .int .i64 c, .int .i64 n] 30))
  have HI3 := Lib.hid (HI2.out.below hb)
  have HJ3 := Lib.hid (HJ2.out.below hb)
  obtain ⟨i0, i1, i2, i3, i4⟩ := HI3.out
  obtain ⟨j0, j1, j2, j3, j4⟩ := HJ3.out
  have z1 := HI3.out.lt
  have z2 := HJ3.out.lt
  clear hb
  go_wp2_with fail
  refine (D2.out _ HK3.out.ops).mono ?_
  rintro e w4 ⟨rfl, hb⟩
  have HK4 := Lib.hid ((HK3.out.below hb).alloc (.cells #[.int .i64 p, .int .i64 q, .int .i64 r, .int .i64 s, .int .i64 t] 30))
  clear hb
  go_wp2_with fail
  refine (E3.out _ HK4.out.ops).mono ?_
  rintro e w5 ⟨rfl, hb⟩
  have HP := Lib.hid ((InsAt.new w4 p q r s t).below hb)
  obtain ⟨p0, p1, p2, p3, p4⟩ := HP.out
  have HK5 := Lib.hid (HK4.out.below hb)
  clear hb
  go_wp2_with fail
  refine (known_any _ HK5.out.ops HK5.out.tab).mono ?_
  rintro e w6 ⟨rfl, hb⟩
  have HK6 := Lib.hid (HK5.out.below hb)
  clear hb
  go_wp2_with fail
  go_ret
  exact ⟨rfl, HK6.out.base⟩
set_option maxRecDepth 100000 in
set_option maxHeartbeats 4000000 in
theorem isaBack_TF_no (o a b c n o' a' b' c' n' X Y F N G : Int) (e1 : Enc o a b c n X 0) (e2 : Enc o' a' b' c' n' Y F) (d1 : Dec X o a b c n 0) (hF : F ≠ 0) (d2 : Dec N 0 0 0 0 0 G) (hG : G ≠ 0) (e3 : Enc 0 0 0 0 0 0 30) (w : World) (ho : Ops w) (ht : Tab w) :
    Calls Tryd.prog 6 #[.agg #[.int .i64 o, .int .i64 a, .int .i64 b, .int .i64 c, .int .i64 n], .agg #[.int .i64 o', .int .i64 a', .int .i64 b', .int .i64 c', .int .i64 n'], .int .u64 N] w fun e w' => e = .returned (.bool true) ∧ Below w.heap.size w w' := by
  have HK0 := Lib.hid (((Kn.mk (Below.refl w.heap.size w) ho ht).alloc (.cells #[.int .i64 o, .int .i64 a, .int .i64 b, .int .i64 c, .int .i64 n] 30)).alloc (.cells #[.int .i64 o', .int .i64 a', .int .i64 b', .int .i64 c', .int .i64 n'] 30))
  have hI := (InsAt.new w o a b c n).alloc (.cells #[.int .i64 o', .int .i64 a', .int .i64 b', .int .i64 c', .int .i64 n'] 30)
  have hJ := InsAt.new (w.alloc (.cells #[.int .i64 o, .int .i64 a, .int .i64 b, .int .i64 c, .int .i64 n] 30)) o' a' b' c' n'
  rw [show (w.alloc (.cells #[.int .i64 o, .int .i64 a, .int .i64 b, .int .i64 c, .int .i64 n] 30)).heap.size = w.heap.size + 1 by simp] at hJ
  have HI := Lib.hid hI
  have HJ := Lib.hid hJ
  clear ho ht hI hJ
  have b2 : (F == 0) = false := by simpa using hF
  clear hF
  have b4 : (G != 0) = true := by simpa using hG
  clear hG
  have E1 := Lib.hid e1
  have E2 := Lib.hid e2
  have E3 := Lib.hid e3
  have D2 := Lib.hid d2
  clear e1 e2 e3 d2
  have D1 := Lib.hid d1
  clear d1
  go_enter Tryd.func6, Tryd.ntmps6
  go_wp2_with fail
  refine (E1.out _ HK0.out.ops).mono ?_
  rintro e w1 ⟨rfl, hb⟩
  have HK1 := Lib.hid (HK0.out.below hb)
  have HI1 := Lib.hid (HI.out.below hb)
  have HJ1 := Lib.hid (HJ.out.below hb)
  obtain ⟨j0, j1, j2, j3, j4⟩ := HJ1.out
  clear hb
  go_wp2_with fail
  refine (E2.out _ HK1.out.ops).mono ?_
  rintro e w2 ⟨rfl, hb⟩
  have HK2 := Lib.hid (HK1.out.below hb)
  have HI2 := Lib.hid (HI1.out.below hb)
  have HJ2 := Lib.hid (HJ1.out.below hb)
  clear hb j0 j1 j2 j3 j4
  go_wp2_with fail
  refine (D1.out _ HK2.out.ops).mono ?_
  rintro e w3 ⟨rfl, hb⟩
  have HK3 := Lib.hid ((HK2.out.below hb).alloc (.cells #[.int .i64 o, .int .i64 a, .int .i64 b, .int .i64 c, .int .i64 n] 30))
  have HI3 := Lib.hid (HI2.out.below hb)
  have HJ3 := Lib.hid (HJ2.out.below hb)
  obtain ⟨i0, i1, i2, i3, i4⟩ := HI3.out
  obtain ⟨j0, j1, j2, j3, j4⟩ := HJ3.out
  have z1 := HI3.out.lt
  have z2 := HJ3.out.lt
  clear hb
  go_wp2_with fail
  refine (D2.out _ HK3.out.ops).mono ?_
  rintro e w4 ⟨rfl, hb⟩
  have HK4 := Lib.hid ((HK3.out.below hb).alloc (.cells #[.int .i64 0, .int .i64 0, .int .i64 0, .int .i64 0, .int .i64 0] 30))
  clear hb
  go_wp2_with fail
  refine (E3.out _ HK4.out.ops).mono ?_
  rintro e w5 ⟨rfl, hb⟩
  have HP := Lib.hid ((InsAt.new w4 0 0 0 0 0).below hb)
  obtain ⟨p0, p1, p2, p3, p4⟩ := HP.out
  have HK5 := Lib.hid (HK4.out.below hb)
  clear hb
  go_wp2_with fail
  refine (known_any _ HK5.out.ops HK5.out.tab).mono ?_
  rintro e w6 ⟨rfl, hb⟩
  have HK6 := Lib.hid (HK5.out.below hb)
  clear hb
  go_wp2_with fail
  go_ret
  exact ⟨rfl, HK6.out.base⟩
set_option maxRecDepth 100000 in
set_option maxHeartbeats 4000000 in
theorem isaBack_FT_ok (o a b c n o' a' b' c' n' X E Y N p q r s t : Int) (e1 : Enc o a b c n X E) (e2 : Enc o' a' b' c' n' Y 0) (hE : E ≠ 0) (d2 : Dec N p q r s t 0) (e3 : Enc p q r s t N 0) (w : World) (ho : Ops w) (ht : Tab w) :
    Calls Tryd.prog 6 #[.agg #[.int .i64 o, .int .i64 a, .int .i64 b, .int .i64 c, .int .i64 n], .agg #[.int .i64 o', .int .i64 a', .int .i64 b', .int .i64 c', .int .i64 n'], .int .u64 N] w fun e w' => e = .returned (.bool true) ∧ Below w.heap.size w w' := by
  have HK0 := Lib.hid (((Kn.mk (Below.refl w.heap.size w) ho ht).alloc (.cells #[.int .i64 o, .int .i64 a, .int .i64 b, .int .i64 c, .int .i64 n] 30)).alloc (.cells #[.int .i64 o', .int .i64 a', .int .i64 b', .int .i64 c', .int .i64 n'] 30))
  have hI := (InsAt.new w o a b c n).alloc (.cells #[.int .i64 o', .int .i64 a', .int .i64 b', .int .i64 c', .int .i64 n'] 30)
  have hJ := InsAt.new (w.alloc (.cells #[.int .i64 o, .int .i64 a, .int .i64 b, .int .i64 c, .int .i64 n] 30)) o' a' b' c' n'
  rw [show (w.alloc (.cells #[.int .i64 o, .int .i64 a, .int .i64 b, .int .i64 c, .int .i64 n] 30)).heap.size = w.heap.size + 1 by simp] at hJ
  have HI := Lib.hid hI
  have HJ := Lib.hid hJ
  clear ho ht hI hJ
  have b1 : (E == 0) = false := by simpa using hE
  clear hE
  have E1 := Lib.hid e1
  have E2 := Lib.hid e2
  have E3 := Lib.hid e3
  have D2 := Lib.hid d2
  clear e1 e2 e3 d2
  go_enter Tryd.func6, Tryd.ntmps6
  go_wp2_with fail
  refine (E1.out _ HK0.out.ops).mono ?_
  rintro e w1 ⟨rfl, hb⟩
  have HK1 := Lib.hid (HK0.out.below hb)
  have HI1 := Lib.hid (HI.out.below hb)
  have HJ1 := Lib.hid (HJ.out.below hb)
  obtain ⟨j0, j1, j2, j3, j4⟩ := HJ1.out
  clear hb
  go_wp2_with fail
  refine (E2.out _ HK1.out.ops).mono ?_
  rintro e w2 ⟨rfl, hb⟩
  have HK2 := Lib.hid (HK1.out.below hb)
  have HI2 := Lib.hid (HI1.out.below hb)
  have HJ2 := Lib.hid (HJ1.out.below hb)
  clear hb j0 j1 j2 j3 j4
  go_wp2_with fail
  refine (D2.out _ HK2.out.ops).mono ?_
  rintro e w4 ⟨rfl, hb⟩
  have HK4 := Lib.hid ((HK2.out.below hb).alloc (.cells #[.int .i64 p, .int .i64 q, .int .i64 r, .int .i64 s, .int .i64 t] 30))
  clear hb
  go_wp2_with fail
  refine (E3.out _ HK4.out.ops).mono ?_
  rintro e w5 ⟨rfl, hb⟩
  have HP := Lib.hid ((InsAt.new w4 p q r s t).below hb)
  obtain ⟨p0, p1, p2, p3, p4⟩ := HP.out
  have HK5 := Lib.hid (HK4.out.below hb)
  clear hb
  go_wp2_with fail
  refine (known_any _ HK5.out.ops HK5.out.tab).mono ?_
  rintro e w6 ⟨rfl, hb⟩
  have HK6 := Lib.hid (HK5.out.below hb)
  clear hb
  go_wp2_with fail
  go_ret
  exact ⟨rfl, HK6.out.base⟩
set_option maxRecDepth 100000 in
set_option maxHeartbeats 4000000 in
theorem isaBack_FT_no (o a b c n o' a' b' c' n' X E Y N G : Int) (e1 : Enc o a b c n X E) (e2 : Enc o' a' b' c' n' Y 0) (hE : E ≠ 0) (d2 : Dec N 0 0 0 0 0 G) (hG : G ≠ 0) (e3 : Enc 0 0 0 0 0 0 30) (w : World) (ho : Ops w) (ht : Tab w) :
    Calls Tryd.prog 6 #[.agg #[.int .i64 o, .int .i64 a, .int .i64 b, .int .i64 c, .int .i64 n], .agg #[.int .i64 o', .int .i64 a', .int .i64 b', .int .i64 c', .int .i64 n'], .int .u64 N] w fun e w' => e = .returned (.bool true) ∧ Below w.heap.size w w' := by
  have HK0 := Lib.hid (((Kn.mk (Below.refl w.heap.size w) ho ht).alloc (.cells #[.int .i64 o, .int .i64 a, .int .i64 b, .int .i64 c, .int .i64 n] 30)).alloc (.cells #[.int .i64 o', .int .i64 a', .int .i64 b', .int .i64 c', .int .i64 n'] 30))
  have hI := (InsAt.new w o a b c n).alloc (.cells #[.int .i64 o', .int .i64 a', .int .i64 b', .int .i64 c', .int .i64 n'] 30)
  have hJ := InsAt.new (w.alloc (.cells #[.int .i64 o, .int .i64 a, .int .i64 b, .int .i64 c, .int .i64 n] 30)) o' a' b' c' n'
  rw [show (w.alloc (.cells #[.int .i64 o, .int .i64 a, .int .i64 b, .int .i64 c, .int .i64 n] 30)).heap.size = w.heap.size + 1 by simp] at hJ
  have HI := Lib.hid hI
  have HJ := Lib.hid hJ
  clear ho ht hI hJ
  have b1 : (E == 0) = false := by simpa using hE
  clear hE
  have b4 : (G != 0) = true := by simpa using hG
  clear hG
  have E1 := Lib.hid e1
  have E2 := Lib.hid e2
  have E3 := Lib.hid e3
  have D2 := Lib.hid d2
  clear e1 e2 e3 d2
  go_enter Tryd.func6, Tryd.ntmps6
  go_wp2_with fail
  refine (E1.out _ HK0.out.ops).mono ?_
  rintro e w1 ⟨rfl, hb⟩
  have HK1 := Lib.hid (HK0.out.below hb)
  have HI1 := Lib.hid (HI.out.below hb)
  have HJ1 := Lib.hid (HJ.out.below hb)
  obtain ⟨j0, j1, j2, j3, j4⟩ := HJ1.out
  clear hb
  go_wp2_with fail
  refine (E2.out _ HK1.out.ops).mono ?_
  rintro e w2 ⟨rfl, hb⟩
  have HK2 := Lib.hid (HK1.out.below hb)
  have HI2 := Lib.hid (HI1.out.below hb)
  have HJ2 := Lib.hid (HJ1.out.below hb)
  clear hb j0 j1 j2 j3 j4
  go_wp2_with fail
  refine (D2.out _ HK2.out.ops).mono ?_
  rintro e w4 ⟨rfl, hb⟩
  have HK4 := Lib.hid ((HK2.out.below hb).alloc (.cells #[.int .i64 0, .int .i64 0, .int .i64 0, .int .i64 0, .int .i64 0] 30))
  clear hb
  go_wp2_with fail
  refine (E3.out _ HK4.out.ops).mono ?_
  rintro e w5 ⟨rfl, hb⟩
  have HP := Lib.hid ((InsAt.new w4 0 0 0 0 0).below hb)
  obtain ⟨p0, p1, p2, p3, p4⟩ := HP.out
  have HK5 := Lib.hid (HK4.out.below hb)
  clear hb
  go_wp2_with fail
  refine (known_any _ HK5.out.ops HK5.out.tab).mono ?_
  rintro e w6 ⟨rfl, hb⟩
  have HK6 := Lib.hid (HK5.out.below hb)
  clear hb
  go_wp2_with fail
  go_ret
  exact ⟨rfl, HK6.out.base⟩
set_option maxRecDepth 100000 in
set_option maxHeartbeats 4000000 in
theorem isaBack_FF_ok (o a b c n o' a' b' c' n' X E Y F N p q r s t : Int) (e1 : Enc o a b c n X E) (e2 : Enc o' a' b' c' n' Y F) (hE : E ≠ 0) (hF : F ≠ 0) (d2 : Dec N p q r s t 0) (e3 : Enc p q r s t N 0) (w : World) (ho : Ops w) (ht : Tab w) :
    Calls Tryd.prog 6 #[.agg #[.int .i64 o, .int .i64 a, .int .i64 b, .int .i64 c, .int .i64 n], .agg #[.int .i64 o', .int .i64 a', .int .i64 b', .int .i64 c', .int .i64 n'], .int .u64 N] w fun e w' => e = .returned (.bool true) ∧ Below w.heap.size w w' := by
  have HK0 := Lib.hid (((Kn.mk (Below.refl w.heap.size w) ho ht).alloc (.cells #[.int .i64 o, .int .i64 a, .int .i64 b, .int .i64 c, .int .i64 n] 30)).alloc (.cells #[.int .i64 o', .int .i64 a', .int .i64 b', .int .i64 c', .int .i64 n'] 30))
  have hI := (InsAt.new w o a b c n).alloc (.cells #[.int .i64 o', .int .i64 a', .int .i64 b', .int .i64 c', .int .i64 n'] 30)
  have hJ := InsAt.new (w.alloc (.cells #[.int .i64 o, .int .i64 a, .int .i64 b, .int .i64 c, .int .i64 n] 30)) o' a' b' c' n'
  rw [show (w.alloc (.cells #[.int .i64 o, .int .i64 a, .int .i64 b, .int .i64 c, .int .i64 n] 30)).heap.size = w.heap.size + 1 by simp] at hJ
  have HI := Lib.hid hI
  have HJ := Lib.hid hJ
  clear ho ht hI hJ
  have b1 : (E == 0) = false := by simpa using hE
  clear hE
  have b2 : (F == 0) = false := by simpa using hF
  clear hF
  have E1 := Lib.hid e1
  have E2 := Lib.hid e2
  have E3 := Lib.hid e3
  have D2 := Lib.hid d2
  clear e1 e2 e3 d2
  go_enter Tryd.func6, Tryd.ntmps6
  go_wp2_with fail
  refine (E1.out _ HK0.out.ops).mono ?_
  rintro e w1 ⟨rfl, hb⟩
  have HK1 := Lib.hid (HK0.out.below hb)
  have HI1 := Lib.hid (HI.out.below hb)
  have HJ1 := Lib.hid (HJ.out.below hb)
  obtain ⟨j0, j1, j2, j3, j4⟩ := HJ1.out
  clear hb
  go_wp2_with fail
  refine (E2.out _ HK1.out.ops).mono ?_
  rintro e w2 ⟨rfl, hb⟩
  have HK2 := Lib.hid (HK1.out.below hb)
  have HI2 := Lib.hid (HI1.out.below hb)
  have HJ2 := Lib.hid (HJ1.out.below hb)
  clear hb j0 j1 j2 j3 j4
  go_wp2_with fail
  refine (D2.out _ HK2.out.ops).mono ?_
  rintro e w4 ⟨rfl, hb⟩
  have HK4 := Lib.hid ((HK2.out.below hb).alloc (.cells #[.int .i64 p, .int .i64 q, .int .i64 r, .int .i64 s, .int .i64 t] 30))
  clear hb
  go_wp2_with fail
  refine (E3.out _ HK4.out.ops).mono ?_
  rintro e w5 ⟨rfl, hb⟩
  have HP := Lib.hid ((InsAt.new w4 p q r s t).below hb)
  obtain ⟨p0, p1, p2, p3, p4⟩ := HP.out
  have HK5 := Lib.hid (HK4.out.below hb)
  clear hb
  go_wp2_with fail
  refine (known_any _ HK5.out.ops HK5.out.tab).mono ?_
  rintro e w6 ⟨rfl, hb⟩
  have HK6 := Lib.hid (HK5.out.below hb)
  clear hb
  go_wp2_with fail
  go_ret
  exact ⟨rfl, HK6.out.base⟩
set_option maxRecDepth 100000 in
set_option maxHeartbeats 4000000 in
theorem isaBack_FF_no (o a b c n o' a' b' c' n' X E Y F N G : Int) (e1 : Enc o a b c n X E) (e2 : Enc o' a' b' c' n' Y F) (hE : E ≠ 0) (hF : F ≠ 0) (d2 : Dec N 0 0 0 0 0 G) (hG : G ≠ 0) (e3 : Enc 0 0 0 0 0 0 30) (w : World) (ho : Ops w) (ht : Tab w) :
    Calls Tryd.prog 6 #[.agg #[.int .i64 o, .int .i64 a, .int .i64 b, .int .i64 c, .int .i64 n], .agg #[.int .i64 o', .int .i64 a', .int .i64 b', .int .i64 c', .int .i64 n'], .int .u64 N] w fun e w' => e = .returned (.bool true) ∧ Below w.heap.size w w' := by
  have HK0 := Lib.hid (((Kn.mk (Below.refl w.heap.size w) ho ht).alloc (.cells #[.int .i64 o, .int .i64 a, .int .i64 b, .int .i64 c, .int .i64 n] 30)).alloc (.cells #[.int .i64 o', .int .i64 a', .int .i64 b', .int .i64 c', .int .i64 n'] 30))
  have hI := (InsAt.new w o a b c n).alloc (.cells #[.int .i64 o', .int .i64 a', .int .i64 b', .int .i64 c', .int .i64 n'] 30)
  have hJ := InsAt.new (w.alloc (.cells #[.int .i64 o, .int .i64 a, .int .i64 b, .int .i64 c, .int .i64 n] 30)) o' a' b' c' n'
  rw [show (w.alloc (.cells #[.int .i64 o, .int .i64 a, .int .i64 b, .int .i64 c, .int .i64 n] 30)).heap.size = w.heap.size + 1 by simp] at hJ
  have HI := Lib.hid hI
  have HJ := Lib.hid hJ
  clear ho ht hI hJ
  have b1 : (E == 0) = false := by simpa using hE
  clear hE
  have b2 : (F == 0) = false := by simpa using hF
  clear hF
  have b4 : (G != 0) = true := by simpa using hG
  clear hG
  have E1 := Lib.hid e1
  have E2 := Lib.hid e2
  have E3 := Lib.hid e3
  have D2 := Lib.hid d2
  clear e1 e2 e3 d2
  go_enter Tryd.func6, Tryd.ntmps6
  go_wp2_with fail
  refine (E1.out _ HK0.out.ops).mono ?_
  rintro e w1 ⟨rfl, hb⟩
  have HK1 := Lib.hid (HK0.out.below hb)
  have HI1 := Lib.hid (HI.out.below hb)
  have HJ1 := Lib.hid (HJ.out.below hb)
  obtain ⟨j0, j1, j2, j3, j4⟩ := HJ1.out
  clear hb
  go_wp2_with fail
  refine (E2.out _ HK1.out.ops).mono ?_
  rintro e w2 ⟨rfl, hb⟩
  have HK2 := Lib.hid (HK1.out.below hb)
  have HI2 := Lib.hid (HI1.out.below hb)
  have HJ2 := Lib.hid (HJ1.out.below hb)
  clear hb j0 j1 j2 j3 j4
  go_wp2_with fail
  refine (D2.out _ HK2.out.ops).mono ?_
  rintro e w4 ⟨rfl, hb⟩
  have HK4 := Lib.hid ((HK2.out.below hb).alloc (.cells #[.int .i64 0, .int .i64 0, .int .i64 0, .int .i64 0, .int .i64 0] 30))
  clear hb
  go_wp2_with fail
  refine (E3.out _ HK4.out.ops).mono ?_
  rintro e w5 ⟨rfl, hb⟩
  have HP := Lib.hid ((InsAt.new w4 0 0 0 0 0).below hb)
  obtain ⟨p0, p1, p2, p3, p4⟩ := HP.out
  have HK5 := Lib.hid (HK4.out.below hb)
  clear hb
  go_wp2_with fail
  refine (known_any _ HK5.out.ops HK5.out.tab).mono ?_
  rintro e w6 ⟨rfl, hb⟩
  have HK6 := Lib.hid (HK5.out.below hb)
  clear hb
  go_wp2_with fail
  go_ret
  exact ⟨rfl, HK6.out.base⟩
theorem isaBack_walk (o a b c n o' a' b' c' n' z : Int) (h0 : 0 ≤ z) (h1 : z ≤ 18446744073709551615) (w : World) (ho : Ops w) (ht : Tab w) :
    Calls Tryd.prog 6 #[.agg #[.int .i64 o, .int .i64 a, .int .i64 b, .int .i64 c, .int .i64 n], .agg #[.int .i64 o', .int .i64 a', .int .i64 b', .int .i64 c', .int .i64 n'], .int .u64 z] w fun e w' => e = .returned (.bool true) ∧ Below w.heap.size w w' := by
  obtain ⟨N, rfl⟩ := Int.eq_ofNat_of_zero_le h0
  have hN : N < 18446744073709551616 := by omega
  by_cases hi : chkOf o a b c n = 0
  · by_cases hj : chkOf o' a' b' c' n' = 0
    · by_cases he : o = o' ∧ a = a' ∧ b = b' ∧ c = c' ∧ n = n'
      · obtain ⟨rfl, rfl, rfl, rfl, rfl⟩ := he
        by_cases hg : dchk N = 0
        · exact isaBack_TTe_ok _ _ _ _ _ _ _ _ _ _ _ _ (enc_yes hi) (enc_yes hi) (dec_enc hi) (dec_yes hN hg) (enc_dec hN hg) w ho ht
        · exact isaBack_TTe_no _ _ _ _ _ _ _ _ (enc_yes hi) (enc_yes hi) (dec_enc hi) (dec_no hN hg) hg enc_zero w ho ht
      · by_cases hg : dchk N = 0
        · exact isaBack_TTn_ok _ _ _ _ _ _ _ _ _ _ _ _ _ _ _ _ _ _ (enc_yes hi) (enc_yes hj) (dec_enc hi) (fun e => he (enc_inj hi hj e)) he (dec_yes hN hg) (enc_dec hN hg) w ho ht
        · exact isaBack_TTn_no _ _ _ _ _ _ _ _ _ _ _ _ _ _ (enc_yes hi) (enc_yes hj) (dec_enc hi) (fun e => he (enc_inj hi hj e)) he (dec_no hN hg) hg enc_zero w ho ht
    · by_cases hg : dchk N = 0
      · exact isaBack_TF_ok _ _ _ _ _ _ _ _ _ _ _ _ _ _ _ _ _ _ _ (enc_yes hi) (enc_no hj) (dec_enc hi) hj (dec_yes hN hg) (enc_dec hN hg) w ho ht
      · exact isaBack_TF_no _ _ _ _ _ _ _ _ _ _ _ _ _ _ _ (enc_yes hi) (enc_no hj) (dec_enc hi) hj (dec_no hN hg) hg enc_zero w ho ht
  · by_cases hj : chkOf o' a' b' c' n' = 0
    · by_cases hg : dchk N = 0
      · exact isaBack_FT_ok _ _ _ _ _ _ _ _ _ _ _ _ _ _ _ _ _ _ _ (enc_no hi) (enc_yes hj) hi (dec_yes hN hg) (enc_dec hN hg) w ho ht
      · exact isaBack_FT_no _ _ _ _ _ _ _ _ _ _ _ _ _ _ _ (enc_no hi) (enc_yes hj) hi (dec_no hN hg) hg enc_zero w ho ht
    · by_cases hg : dchk N = 0
      · exact isaBack_FF_ok _ _ _ _ _ _ _ _ _ _ _ _ _ _ _ _ _ _ _ _ (enc_no hi) (enc_no hj) hi hj (dec_yes hN hg) (enc_dec hN hg) w ho ht
      · exact isaBack_FF_no _ _ _ _ _ _ _ _ _ _ _ _ _ _ _ _ (enc_no hi) (enc_no hj) hi hj (dec_no hN hg) hg enc_zero w ho ht
end Go.Proofs.YtfmecfamiplfdaaDoor
