/- The reference's Check of an instruction. Conditions: none. -/
import Derived.Test.YtpoblealgooamaaGreatDoorIsaLeaf
import Derived.Deep.RegionHeld3
import Derived.Deep.QuietTactic
import Derived.BigQuiet
namespace Go.Proofs.YtpoblealgooamaaGreatDoor.IsaL
open Go Go.RowKit
def badR (s : ByteArray) (v k : Int) : Prop := hasB s k = true ∧ (v < 0 ∨ 15 < v)
def badZ (s : ByteArray) (v k : Int) : Prop := hasB s k = false ∧ v ≠ 0
def badN (s : ByteArray) (n : Int) : Prop := (hasB s 110 = true ∧ (n < -2147483648 ∨ 2147483647 < n)) ∨ (hasB s 110 = false ∧ n ≠ 0)
open Classical in
/-- what is wrong with an instruction of a form -/
noncomputable def chk (s : ByteArray) (a b c n : Int) : Int :=
  if badR s a 97 ∨ badR s b 98 ∨ badR s c 99 then 31 else if badZ s a 97 ∨ badZ s b 98 ∨ badZ s c 99 ∨ badN s n then 1 else 0
theorem chk_31 {s : ByteArray} {a b c n : Int} (h : badR s a 97 ∨ badR s b 98 ∨ badR s c 99) : chk s a b c n = 31 := by unfold chk; rw [if_pos h]
theorem chk_1 {s : ByteArray} {a b c n : Int} (h : ¬ (badR s a 97 ∨ badR s b 98 ∨ badR s c 99)) (h2 : badZ s a 97 ∨ badZ s b 98 ∨ badZ s c 99 ∨ badN s n) : chk s a b c n = 1 := by unfold chk; rw [if_neg h, if_pos h2]
theorem chk_0 {s : ByteArray} {a b c n : Int} (h : ¬ (badR s a 97 ∨ badR s b 98 ∨ badR s c 99)) (h2 : ¬ (badZ s a 97 ∨ badZ s b 98 ∨ badZ s c 99 ∨ badN s n)) : chk s a b c n = 0 := by unfold chk; rw [if_neg h, if_neg h2]
theorem form_size : ∀ n, (bs (rowOf n).2.1).size ≤ 100
  | 0 => by decide
  | 1 => by decide
  | 2 => by decide
  | 3 => by decide
  | 4 => by decide
  | 5 => by decide
  | 6 => by decide
  | 7 => by decide
  | 8 => by decide
  | 9 => by decide
  | 10 => by decide
  | 11 => by decide
  | 12 => by decide
  | 13 => by decide
  | 14 => by decide
  | 15 => by decide
  | 16 => by decide
  | 17 => by decide
  | 18 => by decide
  | 19 => by decide
  | 20 => by decide
  | 21 => by decide
  | 22 => by decide
  | 23 => by decide
  | 24 => by decide
  | 25 => by decide
  | 26 => by decide
  | 27 => by decide
  | 28 => by decide
  | 29 => by decide
  | 30 => by decide
  | 31 => by decide
  | 32 => by decide
  | 33 => by decide
  | 34 => by decide
  | 35 => by decide
  | 36 => by decide
  | n + 37 => by have e : bs (rowOf (n + 37)).2.1 = ⟨#[]⟩ := by simp [rowOf, opRows, bs]
                 rw [e]; decide
/-- what the reference's Check finds in memory -/
structure Lay (w : World) (R : Nat) (o a b c n : Int) (s : ByteArray) (W : World) : Prop where
  base : Below w.heap.size w W
  c0 : W.cell? ⟨w.heap.size, 0, none⟩ = some (.int .i64 o)
  c1 : W.cell? ⟨w.heap.size, 1, none⟩ = some (.int .i64 a)
  c2 : W.cell? ⟨w.heap.size, 2, none⟩ = some (.int .i64 b)
  c3 : W.cell? ⟨w.heap.size, 3, none⟩ = some (.int .i64 c)
  c4 : W.cell? ⟨w.heap.size, 4, none⟩ = some (.int .i64 n)
  form : W.cell? ⟨R, 1, none⟩ = some (.string s)
theorem Lay.below {w : World} {R : Nat} {o a b c n : Int} {s : ByteArray} {W W' : World} (h : Lay w R o a b c n s W) (hb : Below W.heap.size W W') : Lay w R o a b c n s W' :=
  have st : ∀ (p : Addr) (u : Value), W.cell? p = some u → W'.cell? p = some u := fun p _ hv => (hb.cell (p := p) (World.block_lt_of_cell? W _ hv)).trans hv
  ⟨h.base.trans (hb.mono h.base.size), st _ _ h.c0, st _ _ h.c1, st _ _ h.c2, st _ _ h.c3, st _ _ h.c4, st _ _ h.form⟩
theorem lay_s {w : World} {R : Nat} {o a b c n : Int} {s : ByteArray} {W : World} (h : Lay w R o a b c n s W) :
    W.cell? ⟨w.heap.size, 0, none⟩ = some (.int .i64 o) ∧ W.cell? ⟨w.heap.size, 1, none⟩ = some (.int .i64 a) ∧ W.cell? ⟨w.heap.size, 2, none⟩ = some (.int .i64 b) ∧ W.cell? ⟨w.heap.size, 3, none⟩ = some (.int .i64 c) ∧ W.cell? ⟨w.heap.size, 4, none⟩ = some (.int .i64 n) ∧ W.cell? ⟨R, 1, none⟩ = some (.string s) ∧ Lay w R o a b c n s W :=
  ⟨h.c0, h.c1, h.c2, h.c3, h.c4, h.form, h⟩
theorem lay_of {p q r t u x : Prop} {w : World} {R : Nat} {o a b c n : Int} {s : ByteArray} {W : World} (h : p ∧ q ∧ r ∧ t ∧ u ∧ x ∧ Lay w R o a b c n s W) : Lay w R o a b c n s W := h.2.2.2.2.2.2
theorem abc_at {L : ByteArray} (h : L = ⟨#[97, 98, 99]⟩) : L.size = 3 ∧ ∀ k (hk : k < L.size), ((L[k]).toNat : Int) = 97 + k := by
  subst h
  refine ⟨rfl, fun k hk => ?_⟩
  have : k < 3 := hk
  match k, this with
  | 0, _ => rfl
  | 1, _ => rfl
  | 2, _ => rfl
/-- the registers before number k are right -/
def RegsOk (s : ByteArray) (a b c n : Int) (k : Nat) : Prop := ∀ j : Nat, j < k → ¬ badR s (letterOf a b c n (97 + j)) (97 + j)
def ZeroOk (s : ByteArray) (a b c n : Int) (k : Nat) : Prop := ∀ j : Nat, j < k → ¬ badZ s (letterOf a b c n (97 + j)) (97 + j)
theorem l97 (a b c n : Int) : letterOf a b c n (97 + (0 : Nat)) = a := by simp [letterOf]
theorem l98 (a b c n : Int) : letterOf a b c n (97 + (1 : Nat)) = b := by simp [letterOf]
theorem l99 (a b c n : Int) : letterOf a b c n (97 + (2 : Nat)) = c := by simp [letterOf]
theorem regs_hit {s : ByteArray} {a b c n : Int} {k : Nat} (hk : k < 3) (h : badR s (letterOf a b c n (97 + k)) (97 + k)) : badR s a 97 ∨ badR s b 98 ∨ badR s c 99 := by
  match k, hk with
  | 0, _ => rw [l97] at h; exact .inl h
  | 1, _ => rw [l98] at h; exact .inr (.inl h)
  | 2, _ => rw [l99] at h; exact .inr (.inr h)
theorem regs_end {s : ByteArray} {a b c n : Int} (h : RegsOk s a b c n 3) : ¬ (badR s a 97 ∨ badR s b 98 ∨ badR s c 99) := by
  have h0 := h 0 (by omega); rw [l97] at h0
  have h1 := h 1 (by omega); rw [l98] at h1
  have h2 := h 2 (by omega); rw [l99] at h2
  rintro (h | h | h)
  · exact h0 h
  · exact h1 h
  · exact h2 h
theorem zero_hit {s : ByteArray} {a b c n : Int} {k : Nat} (hk : k < 3) (h : badZ s (letterOf a b c n (97 + k)) (97 + k)) : badZ s a 97 ∨ badZ s b 98 ∨ badZ s c 99 ∨ badN s n := by
  match k, hk with
  | 0, _ => rw [l97] at h; exact .inl h
  | 1, _ => rw [l98] at h; exact .inr (.inl h)
  | 2, _ => rw [l99] at h; exact .inr (.inr (.inl h))
theorem zero_end {s : ByteArray} {a b c n : Int} (h : ZeroOk s a b c n 3) (hn : ¬ badN s n) : ¬ (badZ s a 97 ∨ badZ s b 98 ∨ badZ s c 99 ∨ badN s n) := by
  have h0 := h 0 (by omega); rw [l97] at h0
  have h1 := h 1 (by omega); rw [l98] at h1
  have h2 := h 2 (by omega); rw [l99] at h2
  rintro (h | h | h | h)
  · exact h0 h
  · exact h1 h
  · exact h2 h
  · exact hn h
theorem has_to (s : ByteArray) (c : Int) (p : Bool) (hp : hasB s c = p) (hs : s.size ≤ 100) (w : World) : Calls Tryz.prog 136 #[.string s, .int .u8 c] w fun e w' => e = .returned (.bool p) ∧ w' = w := by
  subst hp; exact has_any s c hs w
theorem letter_to (o a b c n k x : Int) (hx : letterOf a b c n k = x) (w : World) : Calls Tryz.prog 135 #[.agg #[.int .i64 o, .int .i64 a, .int .i64 b, .int .i64 c, .int .i64 n], .int .u8 k] w fun e w' => e = .returned (.int .i64 x) ∧ Below w.heap.size w w' := by
  subst hx; exact letter_any o a b c n k w
theorem step_ok {P : Nat → Prop} {k : Nat} (h : ∀ j, j < k → P j) (hk : P k) : ∀ j, j < k + 1 → P j := fun j hj => by
  by_cases e : j = k
  · subst e; exact hk
  · exact h j (by omega)
set_option maxRecDepth 100000 in
set_option maxHeartbeats 4000000 in
theorem refcheck_yes (op : Nat) (h0 : 1 ≤ op) (h1 : op ≤ 36) (a b c n : Int) (w : World) :
    Calls Tryz.prog 127 #[.agg #[.int .i64 op, .int .i64 a, .int .i64 b, .int .i64 c, .int .i64 n]] w fun e w' => e = .returned (.int .i64 (chk (bs (rowOf op).2.1) a b c n)) ∧ Below w.heap.size w w' := by
  have HS := Lib.hid (form_size op)
  obtain ⟨s, hs⟩ : ∃ s, bs (rowOf op).2.1 = s := ⟨_, rfl⟩
  obtain ⟨f0, hf0⟩ : ∃ s, bs (rowOf op).1 = s := ⟨_, rfl⟩
  obtain ⟨f2, hf2⟩ : ∃ s, bs (rowOf op).2.2.1 = s := ⟨_, rfl⟩
  obtain ⟨f3, hf3⟩ : ∃ s, bs (rowOf op).2.2.2 = s := ⟨_, rfl⟩
  have HF : Hid (rowV op = .agg #[.string f0, .string s, .string f2, .string f3]) := by unfold rowV strV; rw [hs, hf0, hf2, hf3]; rfl
  rw [hs] at HS ⊢
  clear hs hf0 hf2 hf3
  go_enter Tryz.func127, Tryz.ntmps127
  go_wp2_with fail
  refine (find_yes op h0 h1 _).mono ?_
  rintro e w1 ⟨rfl, hb1⟩
  rw [HF.out]
  have HL0 : Hid (Lay w w1.heap.size op a b c n s (w1.alloc (.cells #[.string f0, .string s, .string f2, .string f3] 196))) := by
    have hbs := Below.refl w.heap.size w
    have hst : ∀ (p : Addr) (u : Value), (w.alloc (.cells #[.int .i64 op, .int .i64 a, .int .i64 b, .int .i64 c, .int .i64 n] 66)).cell? p = some u → (w1.alloc (.cells #[.string f0, .string s, .string f2, .string f3] 196)).cell? p = some u := fun p u hu => by
      have hlt := World.block_lt_of_cell? _ _ hu
      rw [((hb1.trans ((Below.refl _ w1).alloc hb1.size _)).cell (p := p) hlt)]
      exact hu
    refine Lay.mk ((hbs.alloc (Nat.le_refl _) _).trans ((hb1.mono (by simp)).trans (((Below.refl _ w1).alloc (Nat.le_refl _) _).mono (Nat.le_trans (by simp) hb1.size)))) (hst _ _ ?_) (hst _ _ ?_) (hst _ _ ?_) (hst _ _ ?_) (hst _ _ ?_) ?_
    all_goals first | (simp; done) | (simp [go_sem]; done)
  clear hb1
  go_wp2_with fail
  generalize w1.alloc (.cells #[.string f0, .string s, .string f2, .string f3] 196) = w2 at HL0 ⊢
  generalize hL : ({ data := #[97, 98, 99] } : ByteArray) = L
  obtain ⟨hL3, hLx⟩ := abc_at hL.symm
  have HLX := Lib.hid hLx
  clear hLx hL
  go_loopw [6] (fun i wr => ∃ k : Nat, k ≤ 3 ∧ i = .int .i64 k ∧ RegsOk s a b c n k ∧ Lay w w1.heap.size op a b c n s wr) (fun i _ => 3 - (intOf i).toNat)
  case atStart => exact ⟨0, by omega, rfl, fun _ h => absurd h (by omega), HL0.out⟩
  case round =>
    obtain ⟨k, hk, rfl, hR, hLy⟩ := hrel
    have HR := Lib.hid hR
    have HY := Lib.hid hLy
    have hS0 := lay_s hLy
    clear hR hLy
    by_cases hlt : k < 3
    · have hlt2 : k < L.size := by omega
      have hix := HLX.out k hlt2
      obtain ⟨x, hx⟩ : ∃ x, letterOf a b c n (97 + k) = x := ⟨_, rfl⟩
      have HX := Lib.hid hx
      clear hx
      by_cases hp : hasB s (97 + k) = true
      · have HP := Lib.hid hp
        clear hp
        by_cases h1 : x < 0
        · have hd1 : decide (x < 0) = true := decide_eq_true h1
          have HB := Lib.hid (Or.inl h1 : x < 0 ∨ 15 < x)
          clear h1
          go_wp2_with fail
          have hyd := Lay.below HY.out (Below.refl _ _).drew
          go_region_held3 (fun W => W.cell? ⟨w.heap.size, 0, none⟩ = some (.int .i64 op) ∧ W.cell? ⟨w.heap.size, 1, none⟩ = some (.int .i64 a) ∧ W.cell? ⟨w.heap.size, 2, none⟩ = some (.int .i64 b) ∧ W.cell? ⟨w.heap.size, 3, none⟩ = some (.int .i64 c) ∧ W.cell? ⟨w.heap.size, 4, none⟩ = some (.int .i64 n) ∧ W.cell? ⟨w1.heap.size, 1, none⟩ = some (.string s) ∧ Lay w w1.heap.size op a b c n s W)
            (first | assumption | exact lay_s (by assumption))
            (first | (go_at_call 135; refine (letter_to op a b c n (97 + k) x HX.out _).mono ?_; rintro e wl ⟨rfl, hbl⟩; have hyl := Lay.below (lay_of (by assumption)) hbl))
          have HY2 := Lib.hid hyl
          have hS2 := lay_s hyl
          clear hyd hyl
          go_wp2_with fail
          go_quiet ((go_at_call 136; refine Calls.quiet_of_same (has_to s (97 + k) true HP.out HS.out _)))
          go_wp2_with fail
          go_ret
          exact ⟨ret_int' (chk_31 (regs_hit hlt (by rw [HX.out]; exact ⟨HP.out, HB.out⟩))).symm, below_drewN HY2.out.base _⟩
        · by_cases h2 : 15 < x
          · have hd1 : decide (x < 0) = false := decide_eq_false h1
            have hd2 : decide (15 < x) = true := decide_eq_true h2
            have HB := Lib.hid (Or.inr h2 : x < 0 ∨ 15 < x)
            clear h1 h2
            go_wp2_with fail
            have hyd := Lay.below HY.out (Below.refl _ _).drew
            go_region_held3 (fun W => W.cell? ⟨w.heap.size, 0, none⟩ = some (.int .i64 op) ∧ W.cell? ⟨w.heap.size, 1, none⟩ = some (.int .i64 a) ∧ W.cell? ⟨w.heap.size, 2, none⟩ = some (.int .i64 b) ∧ W.cell? ⟨w.heap.size, 3, none⟩ = some (.int .i64 c) ∧ W.cell? ⟨w.heap.size, 4, none⟩ = some (.int .i64 n) ∧ W.cell? ⟨w1.heap.size, 1, none⟩ = some (.string s) ∧ Lay w w1.heap.size op a b c n s W)
              (first | assumption | exact lay_s (by assumption))
              (first | (go_at_call 135; refine (letter_to op a b c n (97 + k) x HX.out _).mono ?_; rintro e wl ⟨rfl, hbl⟩; have hyl := Lay.below (lay_of (by assumption)) hbl))
            have HY2 := Lib.hid hyl
            have hS2 := lay_s hyl
            clear hyd hyl
            go_wp2_with fail
            go_quiet ((go_at_call 136; refine Calls.quiet_of_same (has_to s (97 + k) true HP.out HS.out _)))
            go_wp2_with fail
            go_ret
            exact ⟨ret_int' (chk_31 (regs_hit hlt (by rw [HX.out]; exact ⟨HP.out, HB.out⟩))).symm, below_drewN HY2.out.base _⟩
          · have hd1 : decide (x < 0) = false := decide_eq_false h1
            have hd2 : decide (15 < x) = false := decide_eq_false h2
            have HB : Hid (¬ badR s x (97 + k)) := fun h => h.2.elim h1 h2
            clear h1 h2
            go_wp2_with fail
            have hyd := Lay.below HY.out (Below.refl _ _).drew
            go_region_held3 (fun W => W.cell? ⟨w.heap.size, 0, none⟩ = some (.int .i64 op) ∧ W.cell? ⟨w.heap.size, 1, none⟩ = some (.int .i64 a) ∧ W.cell? ⟨w.heap.size, 2, none⟩ = some (.int .i64 b) ∧ W.cell? ⟨w.heap.size, 3, none⟩ = some (.int .i64 c) ∧ W.cell? ⟨w.heap.size, 4, none⟩ = some (.int .i64 n) ∧ W.cell? ⟨w1.heap.size, 1, none⟩ = some (.string s) ∧ Lay w w1.heap.size op a b c n s W)
              (first | assumption | exact lay_s (by assumption))
              (first | (go_at_call 135; refine (letter_to op a b c n (97 + k) x HX.out _).mono ?_; rintro e wl ⟨rfl, hbl⟩; have hyl := Lay.below (lay_of (by assumption)) hbl))
            have HY2 := Lib.hid hyl
            have hS2 := lay_s hyl
            clear hyd hyl
            go_wp2_with fail
            go_quiet ((go_at_call 136; refine Calls.quiet_of_same (has_to s (97 + k) true HP.out HS.out _)))
            go_wp2_with fail
            go_roundw
            case rel => exact ⟨k + 1, by omega, by simp, step_ok HR.out (by rw [HX.out]; exact HB.out), Lay.below HY2.out (below_drewN (Below.refl _ _) _)⟩
            case measure => simp [intOf]; omega
      · have hp2 : hasB s (97 + k) = false := by simpa using hp
        have HP := Lib.hid hp2
        have HB : Hid (¬ badR s x (97 + k)) := fun h => hp h.1
        clear hp hp2
        go_wp2_with fail
        have hyd := Lay.below HY.out (Below.refl _ _).drew
        go_region_held3 (fun W => W.cell? ⟨w.heap.size, 0, none⟩ = some (.int .i64 op) ∧ W.cell? ⟨w.heap.size, 1, none⟩ = some (.int .i64 a) ∧ W.cell? ⟨w.heap.size, 2, none⟩ = some (.int .i64 b) ∧ W.cell? ⟨w.heap.size, 3, none⟩ = some (.int .i64 c) ∧ W.cell? ⟨w.heap.size, 4, none⟩ = some (.int .i64 n) ∧ W.cell? ⟨w1.heap.size, 1, none⟩ = some (.string s) ∧ Lay w w1.heap.size op a b c n s W)
          (first | assumption | exact lay_s (by assumption))
          (first | (go_at_call 135; refine (letter_to op a b c n (97 + k) x HX.out _).mono ?_; rintro e wl ⟨rfl, hbl⟩; have hyl := Lay.below (lay_of (by assumption)) hbl))
        have HY2 := Lib.hid hyl
        have hS2 := lay_s hyl
        clear hyd hyl
        go_wp2_with fail
        go_quiet ((go_at_call 136; refine Calls.quiet_of_same (has_to s (97 + k) false HP.out HS.out _)))
        go_wp2_with fail
        go_roundw
        case rel => exact ⟨k + 1, by omega, by simp, step_ok HR.out (by rw [HX.out]; exact HB.out), Lay.below HY2.out (below_drewN (Below.refl _ _) _)⟩
        case measure => simp [intOf]; omega
    · obtain rfl : k = 3 := by omega
      have HRE := Lib.hid (regs_end HR.out)
      have hy1 := HY.out
      clear hS0
      go_wp2_with fail
      go_loopw [8] (fun i wz => ∃ k : Nat, k ≤ 3 ∧ i = .int .i64 k ∧ ZeroOk s a b c n k ∧ Lay w w1.heap.size op a b c n s wz) (fun i _ => 3 - (intOf i).toNat)
      case atStart => exact ⟨0, by omega, rfl, fun _ h => absurd h (by omega), hy1⟩
      case round =>
      clear hy1
      obtain ⟨k, hk, rfl, hR, hLy⟩ := hrel
      have HZO := Lib.hid hR
      have HY := Lib.hid hLy
      have hS0 := lay_s hLy
      clear hR hLy
      by_cases hlt : k < 3
      · have hlt2 : k < L.size := by omega
        have hix := HLX.out k hlt2
        obtain ⟨x, hx⟩ : ∃ x, letterOf a b c n (97 + k) = x := ⟨_, rfl⟩
        have HX := Lib.hid hx
        clear hx
        by_cases hp : hasB s (97 + k) = true
        · have HP := Lib.hid hp
          have HB : Hid (¬ badZ s x (97 + k)) := fun h => by have h1 := h.1; rw [hp] at h1; cases h1
          clear hp
          go_wp2_with fail
          go_quiet ((go_at_call 136; refine Calls.quiet_of_same (has_to s (97 + k) true HP.out HS.out _)))
          go_wp2_with fail
          go_roundw
          case rel => exact ⟨k + 1, by omega, by simp, step_ok HZO.out (by rw [HX.out]; exact HB.out), Lay.below HY.out (below_drewN (Below.refl _ _) _)⟩
          case measure => simp [intOf]; omega
        have hp2 : hasB s (97 + k) = false := by simpa using hp
        have HP := Lib.hid hp2
        clear hp
        by_cases hx0 : x = 0
        · have hd : (x != 0) = false := by simpa using hx0
          have HB : Hid (¬ badZ s x (97 + k)) := fun h => h.2 hx0
          clear hx0 hp2
          go_wp2_with fail
          have hyd := Lay.below HY.out (Below.refl _ _).drew
          go_region_held3 (fun W => W.cell? ⟨w.heap.size, 0, none⟩ = some (.int .i64 op) ∧ W.cell? ⟨w.heap.size, 1, none⟩ = some (.int .i64 a) ∧ W.cell? ⟨w.heap.size, 2, none⟩ = some (.int .i64 b) ∧ W.cell? ⟨w.heap.size, 3, none⟩ = some (.int .i64 c) ∧ W.cell? ⟨w.heap.size, 4, none⟩ = some (.int .i64 n) ∧ W.cell? ⟨w1.heap.size, 1, none⟩ = some (.string s) ∧ Lay w w1.heap.size op a b c n s W)
            (first | assumption | exact lay_s (by assumption))
            (first | (go_at_call 136; refine (has_to s (97 + k) false HP.out HS.out _).mono ?_; rintro e wh ⟨rfl, rfl⟩) | (go_at_call 135; refine (letter_to op a b c n (97 + k) x HX.out _).mono ?_; rintro e wl ⟨rfl, hbl⟩; have hyl := Lay.below (lay_of (by assumption)) hbl))
          have HY2 := Lib.hid hyl
          clear hyd hyl
          go_wp2_with fail
          go_roundw
          case rel =>
            refine ⟨_, _, _, _, _, _, _, _, _, _, _, _, _, _, _, _, _, _, _, _, _, ?_, rfl⟩
            exact ⟨k + 1, by omega, by simp, step_ok HZO.out (by rw [HX.out]; exact HB.out), HY2.out⟩
          case measure => simp [intOf]; omega
        · have hd : (x != 0) = true := by simpa using hx0
          have HB : Hid (badZ s x (97 + k)) := ⟨hp2, hx0⟩
          clear hx0 hp2
          go_wp2_with fail
          have hyd := Lay.below HY.out (Below.refl _ _).drew
          go_region_held3 (fun W => W.cell? ⟨w.heap.size, 0, none⟩ = some (.int .i64 op) ∧ W.cell? ⟨w.heap.size, 1, none⟩ = some (.int .i64 a) ∧ W.cell? ⟨w.heap.size, 2, none⟩ = some (.int .i64 b) ∧ W.cell? ⟨w.heap.size, 3, none⟩ = some (.int .i64 c) ∧ W.cell? ⟨w.heap.size, 4, none⟩ = some (.int .i64 n) ∧ W.cell? ⟨w1.heap.size, 1, none⟩ = some (.string s) ∧ Lay w w1.heap.size op a b c n s W)
            (first | assumption | exact lay_s (by assumption))
            (first | (go_at_call 136; refine (has_to s (97 + k) false HP.out HS.out _).mono ?_; rintro e wh ⟨rfl, rfl⟩) | (go_at_call 135; refine (letter_to op a b c n (97 + k) x HX.out _).mono ?_; rintro e wl ⟨rfl, hbl⟩; have hyl := Lay.below (lay_of (by assumption)) hbl))
          have HY2 := Lib.hid hyl
          clear hyd hyl
          go_wp2_with fail
          go_ret
          exact ⟨ret_int' (chk_1 HRE.out (zero_hit hlt (by rw [HX.out]; exact HB.out))).symm, HY2.out.base⟩
      · obtain rfl : k = 3 := by omega
        have HZ := HY
        by_cases hp : hasB s 110 = true
        · have HP := Lib.hid hp
          by_cases h1 : n < -2147483648
          · have hd1 : decide (n < -2147483648) = true := decide_eq_true h1
            have HB : Hid (badN s n) := .inl ⟨hp, .inl h1⟩
            clear h1 hp
            go_wp2_with (go_at_call 136; refine (has_to s 110 true HP.out HS.out _).mono ?_; rintro e wh ⟨rfl, rfl⟩)
            go_ret
            exact ⟨ret_int' (chk_1 HRE.out (.inr (.inr (.inr HB.out)))).symm, HZ.out.base⟩
          by_cases h2 : 2147483647 < n
          · have hd1 : decide (n < -2147483648) = false := decide_eq_false h1
            have hd2 : decide (2147483647 < n) = true := decide_eq_true h2
            have HB : Hid (badN s n) := .inl ⟨hp, .inr h2⟩
            clear h1 h2 hp
            go_wp2_with (go_at_call 136; refine (has_to s 110 true HP.out HS.out _).mono ?_; rintro e wh ⟨rfl, rfl⟩)
            go_ret
            exact ⟨ret_int' (chk_1 HRE.out (.inr (.inr (.inr HB.out)))).symm, HZ.out.base⟩
          · have hd1 : decide (n < -2147483648) = false := decide_eq_false h1
            have hd2 : decide (2147483647 < n) = false := decide_eq_false h2
            have HB : Hid (¬ badN s n) := fun h => h.elim (fun h => h.2.elim h1 h2) (fun h => by have h1 := h.1; rw [hp] at h1; cases h1)
            clear h1 h2 hp
            go_wp2_with (go_at_call 136; refine (has_to s 110 true HP.out HS.out _).mono ?_; rintro e wh ⟨rfl, rfl⟩)
            go_ret
            exact ⟨ret_int' (chk_0 HRE.out (zero_end HZO.out HB.out)).symm, HZ.out.base⟩
        · have hp2 : hasB s 110 = false := by simpa using hp
          have HP := Lib.hid hp2
          by_cases hx0 : n = 0
          · have hd : (n != 0) = false := by simpa using hx0
            have HB : Hid (¬ badN s n) := fun h => h.elim (fun h => hp h.1) (fun h => h.2 hx0)
            clear hx0 hp hp2
            go_wp2_with (go_at_call 136; refine (has_to s 110 false HP.out HS.out _).mono ?_; rintro e wh ⟨rfl, rfl⟩)
            go_ret
            exact ⟨ret_int' (chk_0 HRE.out (zero_end HZO.out HB.out)).symm, HZ.out.base⟩
          · have hd : (n != 0) = true := by simpa using hx0
            have HB : Hid (badN s n) := .inr ⟨hp2, hx0⟩
            clear hx0 hp hp2
            go_wp2_with (go_at_call 136; refine (has_to s 110 false HP.out HS.out _).mono ?_; rintro e wh ⟨rfl, rfl⟩)
            go_ret
            exact ⟨ret_int' (chk_1 HRE.out (.inr (.inr (.inr HB.out)))).symm, HZ.out.base⟩
end Go.Proofs.YtpoblealgooamaaGreatDoor.IsaL
