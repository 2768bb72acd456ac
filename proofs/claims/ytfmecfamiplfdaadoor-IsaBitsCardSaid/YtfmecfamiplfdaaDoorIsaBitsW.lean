/- The walk of the statement IsaBits: it returns true. Conditions: the library's table of powers of ten and the table of operations read as they are laid. -/
import Derived.Test.YtfmecfamiplfdaaDoorIsaBitsM
import Derived.Test.YtfmecfamiplfdaaDoorIsaBackW
import Derived.Test.YtfmecfamiplfdaaDoorIsaForm
namespace Go.Proofs.YtfmecfamiplfdaaDoor
open Go Go.RowKit
set_option maxRecDepth 100000 in
set_option maxHeartbeats 4000000 in
theorem isaBits_bad (N bit G : Int) (hG : G ≠ 0) (d1 : Dec N 0 0 0 0 0 G) (w : World) (ho : Ops w) (ht : Tab w) :
    Calls Tryd.prog 7 #[.int .u64 N, .int .i64 bit] w fun e w' => e = .returned (.bool true) ∧ Below w.heap.size w w' := by
  have HK0 := Lib.hid (Kn.mk (Below.refl w.heap.size w) ho ht)
  have D1 := Lib.hid d1
  have b4 : (G != 0) = true := by simpa using hG
  clear ho ht d1 hG
  go_enter Tryd.func7, Tryd.ntmps7
  go_wp2_with fail
  refine (D1.out _ HK0.out.ops).mono ?_
  rintro e w1 ⟨rfl, hb⟩
  have HK1 := Lib.hid ((HK0.out.below hb).alloc (.cells #[.int .i64 0, .int .i64 0, .int .i64 0, .int .i64 0, .int .i64 0] 30))
  clear hb
  go_wp2_with fail
  refine (known_any _ HK1.out.ops HK1.out.tab).mono ?_
  rintro e w6 ⟨rfl, hb⟩
  have HK6 := Lib.hid (HK1.out.below hb)
  clear hb
  go_wp2_with fail
  go_ret
  exact ⟨rfl, HK6.out.base⟩
set_option maxRecDepth 100000 in
set_option maxHeartbeats 4000000 in
theorem isaBits_lo (N bit : Int) (hbit : bit < 8) (o a b c n : Int) (d1 : Dec N o a b c n 0) (F : ByteArray) (hF : F.size ≤ 4) (mk : Nat → Int) (m0 : mk 0 = 255) (ms : ∀ k (h : k < F.size), mk (k + 1) = bits BinOp.or IntKind.u64 (mk k) (pieceL F[k]))
    (f1 : ∀ W, Ops W → Calls Tryd.prog 11 #[.int .i64 o] W fun e w' => e = .returned (.string F) ∧ w' = W) (M : Int) (hM : mk F.size = M) (hz : bits BinOp.andNot IntKind.u64 N M = 0) (ho8 : wrap64 (bits BinOp.and IntKind.u64 N 255) = o)
    (w : World) (ho : Ops w) (ht : Tab w) :
    Calls Tryd.prog 7 #[.int .u64 N, .int .i64 bit] w fun e w' => e = .returned (.bool true) ∧ Below w.heap.size w w' := by
  have HK0 := Lib.hid (Kn.mk (Below.refl w.heap.size w) ho ht)
  have D1 := Lib.hid d1
  have F1 := Lib.hid f1
  have M0 := Lib.hid m0
  have MS := Lib.hid ms
  have HM := Lib.hid hM
  clear ho ht d1 f1 m0 ms hM
  go_enter Tryd.func7, Tryd.ntmps7
  go_wp2_with fail
  refine (D1.out _ HK0.out.ops).mono ?_
  rintro e w1 ⟨rfl, hb⟩
  have HK1 := Lib.hid ((HK0.out.below hb).alloc (.cells #[.int .i64 o, .int .i64 a, .int .i64 b, .int .i64 c, .int .i64 n] 30))
  clear hb
  go_wp2_with fail
  refine (F1.out _ HK1.out.ops).mono ?_
  rintro e w2 ⟨rfl, rfl⟩
  go_wp2_with fail
  go_loop [8, 9] (fun m i => ∃ k : Nat, k ≤ F.size ∧ i = .int .i64 k ∧ m = .int .u64 (mk k)) (fun _ i => F.size - (intOf i).toNat)
  case atStart => exact ⟨0, Nat.zero_le _, rfl, by rw [M0.out]⟩
  case round =>
    obtain ⟨k, hk, rfl, rfl⟩ := hrel
    by_cases hlt : k < F.size
    · have S := Lib.hid (MS.out k hlt)
      by_cases c97 : ((F[k]).toNat : Int) = 97
      · have q : pieceL F[k] = 3840 := by unfold pieceL; rw [if_pos c97]
        have e1 : (((F[k]).toNat : Int) == 97) = true := by simpa using c97
        have Q := Lib.hid q
        clear q c97
        go_wp2_with fail
        go_round
        case rel => exact ⟨k + 1, hlt, by go_num, by rw [S.out, Q.out]⟩
        case measure => simp [intOf]; omega
      · have e1 : (((F[k]).toNat : Int) == 97) = false := by simpa using c97
        by_cases c98 : ((F[k]).toNat : Int) = 98
        · have q : pieceL F[k] = 983040 := by unfold pieceL; rw [if_neg c97, if_pos c98]
          have e2 : (((F[k]).toNat : Int) == 98) = true := by simpa using c98
          have Q := Lib.hid q
          clear q c97 c98
          go_wp2_with fail
          go_round
          case rel => exact ⟨k + 1, hlt, by go_num, by rw [S.out, Q.out]⟩
          case measure => simp [intOf]; omega
        · have e2 : (((F[k]).toNat : Int) == 98) = false := by simpa using c98
          by_cases c99 : ((F[k]).toNat : Int) = 99
          · have q : pieceL F[k] = 251658240 := by unfold pieceL; rw [if_neg c97, if_neg c98, if_pos c99]
            have e3 : (((F[k]).toNat : Int) == 99) = true := by simpa using c99
            have Q := Lib.hid q
            clear q c97 c98 c99
            go_wp2_with fail
            go_round
            case rel => exact ⟨k + 1, hlt, by go_num, by rw [S.out, Q.out]⟩
            case measure => simp [intOf]; omega
          · have e3 : (((F[k]).toNat : Int) == 99) = false := by simpa using c99
            have q : pieceL F[k] = 18446744069414584320 := by unfold pieceL; rw [if_neg c97, if_neg c98, if_neg c99]
            have Q := Lib.hid q
            clear q c97 c98 c99
            go_wp2_with fail
            go_round
            case rel => exact ⟨k + 1, hlt, by go_num, by rw [S.out, Q.out]⟩
            case measure => simp [intOf]; omega
    · obtain rfl : k = F.size := by omega
      rw [HM.out]
      have hz' : (bits BinOp.andNot IntKind.u64 N M != 0) = false := by simp [hz]
      go_wp2_with fail
      refine (known_any _ HK1.out.ops HK1.out.tab).mono ?_
      rintro e w6 ⟨rfl, hb⟩
      have HK6 := Lib.hid (HK1.out.below hb)
      clear hb
      go_wp2_with fail
      go_ret
      exact ⟨rfl, HK6.out.base⟩
set_option maxRecDepth 100000 in
set_option maxHeartbeats 4000000 in
theorem isaBits_hi (N bit : Int) (hbit : 63 < bit) (o a b c n : Int) (d1 : Dec N o a b c n 0) (F : ByteArray) (hF : F.size ≤ 4) (mk : Nat → Int) (m0 : mk 0 = 255) (ms : ∀ k (h : k < F.size), mk (k + 1) = bits BinOp.or IntKind.u64 (mk k) (pieceL F[k]))
    (f1 : ∀ W, Ops W → Calls Tryd.prog 11 #[.int .i64 o] W fun e w' => e = .returned (.string F) ∧ w' = W) (M : Int) (hM : mk F.size = M) (hz : bits BinOp.andNot IntKind.u64 N M = 0) (ho8 : wrap64 (bits BinOp.and IntKind.u64 N 255) = o)
    (w : World) (ho : Ops w) (ht : Tab w) :
    Calls Tryd.prog 7 #[.int .u64 N, .int .i64 bit] w fun e w' => e = .returned (.bool true) ∧ Below w.heap.size w w' := by
  have hb8 : ¬ bit < 8 := by omega
  have HK0 := Lib.hid (Kn.mk (Below.refl w.heap.size w) ho ht)
  have D1 := Lib.hid d1
  have F1 := Lib.hid f1
  have M0 := Lib.hid m0
  have MS := Lib.hid ms
  have HM := Lib.hid hM
  clear ho ht d1 f1 m0 ms hM
  go_enter Tryd.func7, Tryd.ntmps7
  go_wp2_with fail
  refine (D1.out _ HK0.out.ops).mono ?_
  rintro e w1 ⟨rfl, hb⟩
  have HK1 := Lib.hid ((HK0.out.below hb).alloc (.cells #[.int .i64 o, .int .i64 a, .int .i64 b, .int .i64 c, .int .i64 n] 30))
  clear hb
  go_wp2_with fail
  refine (F1.out _ HK1.out.ops).mono ?_
  rintro e w2 ⟨rfl, rfl⟩
  go_wp2_with fail
  go_loop [8, 9] (fun m i => ∃ k : Nat, k ≤ F.size ∧ i = .int .i64 k ∧ m = .int .u64 (mk k)) (fun _ i => F.size - (intOf i).toNat)
  case atStart => exact ⟨0, Nat.zero_le _, rfl, by rw [M0.out]⟩
  case round =>
    obtain ⟨k, hk, rfl, rfl⟩ := hrel
    by_cases hlt : k < F.size
    · have S := Lib.hid (MS.out k hlt)
      by_cases c97 : ((F[k]).toNat : Int) = 97
      · have q : pieceL F[k] = 3840 := by unfold pieceL; rw [if_pos c97]
        have e1 : (((F[k]).toNat : Int) == 97) = true := by simpa using c97
        have Q := Lib.hid q
        clear q c97
        go_wp2_with fail
        go_round
        case rel => exact ⟨k + 1, hlt, by go_num, by rw [S.out, Q.out]⟩
        case measure => simp [intOf]; omega
      · have e1 : (((F[k]).toNat : Int) == 97) = false := by simpa using c97
        by_cases c98 : ((F[k]).toNat : Int) = 98
        · have q : pieceL F[k] = 983040 := by unfold pieceL; rw [if_neg c97, if_pos c98]
          have e2 : (((F[k]).toNat : Int) == 98) = true := by simpa using c98
          have Q := Lib.hid q
          clear q c97 c98
          go_wp2_with fail
          go_round
          case rel => exact ⟨k + 1, hlt, by go_num, by rw [S.out, Q.out]⟩
          case measure => simp [intOf]; omega
        · have e2 : (((F[k]).toNat : Int) == 98) = false := by simpa using c98
          by_cases c99 : ((F[k]).toNat : Int) = 99
          · have q : pieceL F[k] = 251658240 := by unfold pieceL; rw [if_neg c97, if_neg c98, if_pos c99]
            have e3 : (((F[k]).toNat : Int) == 99) = true := by simpa using c99
            have Q := Lib.hid q
            clear q c97 c98 c99
            go_wp2_with fail
            go_round
            case rel => exact ⟨k + 1, hlt, by go_num, by rw [S.out, Q.out]⟩
            case measure => simp [intOf]; omega
          · have e3 : (((F[k]).toNat : Int) == 99) = false := by simpa using c99
            have q : pieceL F[k] = 18446744069414584320 := by unfold pieceL; rw [if_neg c97, if_neg c98, if_neg c99]
            have Q := Lib.hid q
            clear q c97 c98 c99
            go_wp2_with fail
            go_round
            case rel => exact ⟨k + 1, hlt, by go_num, by rw [S.out, Q.out]⟩
            case measure => simp [intOf]; omega
    · obtain rfl : k = F.size := by omega
      rw [HM.out]
      have hz' : (bits BinOp.andNot IntKind.u64 N M != 0) = false := by simp [hz]
      go_wp2_with fail
      refine (known_any _ HK1.out.ops HK1.out.tab).mono ?_
      rintro e w6 ⟨rfl, hb⟩
      have HK6 := Lib.hid (HK1.out.below hb)
      clear hb
      go_wp2_with fail
      go_ret
      exact ⟨rfl, HK6.out.base⟩
set_option maxRecDepth 100000 in
set_option maxHeartbeats 4000000 in
theorem isaBits_good (N X : Int) (bit : Nat) (h0 : 8 ≤ bit) (h1 : bit ≤ 63) (hx : bits BinOp.xor IntKind.u64 N (IntKind.u64.wrap (2 ^ bit)) = X) (o a b c n : Int) (d1 : Dec N o a b c n 0) (F : ByteArray) (hF : F.size ≤ 4) (mk : Nat → Int) (m0 : mk 0 = 255) (ms : ∀ k (h : k < F.size), mk (k + 1) = bits BinOp.or IntKind.u64 (mk k) (pieceL F[k]))
    (f1 : ∀ W, Ops W → Calls Tryd.prog 11 #[.int .i64 o] W fun e w' => e = .returned (.string F) ∧ w' = W) (M : Int) (hM : mk F.size = M) (hz : bits BinOp.andNot IntKind.u64 N M = 0) (ho8 : wrap64 (bits BinOp.and IntKind.u64 N 255) = o)
    (a' b' c' n' : Int) (hne : ¬ (o = o ∧ a' = a ∧ b' = b ∧ c' = c ∧ n' = n)) (d2 : Dec X o a' b' c' n' 0) (hz2 : bits BinOp.andNot IntKind.u64 X M = 0) (w : World) (ho : Ops w) (ht : Tab w) :
    Calls Tryd.prog 7 #[.int .u64 N, .int .i64 bit] w fun e w' => e = .returned (.bool true) ∧ Below w.heap.size w w' := by
  have hcmp := ncmp_ins o a' b' c' n' o a b c n hne
  have D2 := Lib.hid d2
  have g2 : (bits BinOp.andNot IntKind.u64 X M == 0) = true := by simp [hz2]
  clear hne d2 hz2
  have HK0 := Lib.hid (Kn.mk (Below.refl w.heap.size w) ho ht)
  have D1 := Lib.hid d1
  have F1 := Lib.hid f1
  have M0 := Lib.hid m0
  have MS := Lib.hid ms
  have HM := Lib.hid hM
  clear ho ht d1 f1 m0 ms hM
  go_enter Tryd.func7, Tryd.ntmps7
  go_wp2_with fail
  refine (D1.out _ HK0.out.ops).mono ?_
  rintro e w1 ⟨rfl, hb⟩
  have HK1 := Lib.hid ((HK0.out.below hb).alloc (.cells #[.int .i64 o, .int .i64 a, .int .i64 b, .int .i64 c, .int .i64 n] 30))
  clear hb
  go_wp2_with fail
  refine (F1.out _ HK1.out.ops).mono ?_
  rintro e w2 ⟨rfl, rfl⟩
  go_wp2_with fail
  go_loop [8, 9] (fun m i => ∃ k : Nat, k ≤ F.size ∧ i = .int .i64 k ∧ m = .int .u64 (mk k)) (fun _ i => F.size - (intOf i).toNat)
  case atStart => exact ⟨0, Nat.zero_le _, rfl, by rw [M0.out]⟩
  case round =>
    obtain ⟨k, hk, rfl, rfl⟩ := hrel
    by_cases hlt : k < F.size
    · have S := Lib.hid (MS.out k hlt)
      by_cases c97 : ((F[k]).toNat : Int) = 97
      · have q : pieceL F[k] = 3840 := by unfold pieceL; rw [if_pos c97]
        have e1 : (((F[k]).toNat : Int) == 97) = true := by simpa using c97
        have Q := Lib.hid q
        clear q c97
        go_wp2_with fail
        go_round
        case rel => exact ⟨k + 1, hlt, by go_num, by rw [S.out, Q.out]⟩
        case measure => simp [intOf]; omega
      · have e1 : (((F[k]).toNat : Int) == 97) = false := by simpa using c97
        by_cases c98 : ((F[k]).toNat : Int) = 98
        · have q : pieceL F[k] = 983040 := by unfold pieceL; rw [if_neg c97, if_pos c98]
          have e2 : (((F[k]).toNat : Int) == 98) = true := by simpa using c98
          have Q := Lib.hid q
          clear q c97 c98
          go_wp2_with fail
          go_round
          case rel => exact ⟨k + 1, hlt, by go_num, by rw [S.out, Q.out]⟩
          case measure => simp [intOf]; omega
        · have e2 : (((F[k]).toNat : Int) == 98) = false := by simpa using c98
          by_cases c99 : ((F[k]).toNat : Int) = 99
          · have q : pieceL F[k] = 251658240 := by unfold pieceL; rw [if_neg c97, if_neg c98, if_pos c99]
            have e3 : (((F[k]).toNat : Int) == 99) = true := by simpa using c99
            have Q := Lib.hid q
            clear q c97 c98 c99
            go_wp2_with fail
            go_round
            case rel => exact ⟨k + 1, hlt, by go_num, by rw [S.out, Q.out]⟩
            case measure => simp [intOf]; omega
          · have e3 : (((F[k]).toNat : Int) == 99) = false := by simpa using c99
            have q : pieceL F[k] = 18446744069414584320 := by unfold pieceL; rw [if_neg c97, if_neg c98, if_neg c99]
            have Q := Lib.hid q
            clear q c97 c98 c99
            go_wp2_with fail
            go_round
            case rel => exact ⟨k + 1, hlt, by go_num, by rw [S.out, Q.out]⟩
            case measure => simp [intOf]; omega
    · obtain rfl : k = F.size := by omega
      rw [HM.out]
      have hz' : (bits BinOp.andNot IntKind.u64 N M != 0) = false := by simp [hz]
      have HI := Lib.hid (InsAt.new w1 o a b c n)
      go_wp2_with fail
      refine (D2.out _ HK1.out.ops).mono ?_
      rintro e w4 ⟨rfl, hb⟩
      have HI4 := Lib.hid (HI.out.below hb)
      obtain ⟨i0, i1, i2, i3, i4⟩ := HI4.out
      have hz4 := HI4.out.lt
      have HK4 := Lib.hid ((HK1.out.below hb).alloc (.cells #[.int .i64 o, .int .i64 a', .int .i64 b', .int .i64 c', .int .i64 n'] 30))
      clear hb
      go_wp2_with fail
      refine (known_any _ HK4.out.ops HK4.out.tab).mono ?_
      rintro e w6 ⟨rfl, hb⟩
      have HK6 := Lib.hid (HK4.out.below hb)
      clear hb
      go_wp2_with fail
      go_ret
      exact ⟨rfl, HK6.out.base⟩
set_option maxRecDepth 100000 in
set_option maxHeartbeats 4000000 in
theorem isaBits_bad' (N X : Int) (bit : Nat) (h0 : 8 ≤ bit) (h1 : bit ≤ 63) (hx : bits BinOp.xor IntKind.u64 N (IntKind.u64.wrap (2 ^ bit)) = X) (o a b c n : Int) (d1 : Dec N o a b c n 0) (F : ByteArray) (hF : F.size ≤ 4) (mk : Nat → Int) (m0 : mk 0 = 255) (ms : ∀ k (h : k < F.size), mk (k + 1) = bits BinOp.or IntKind.u64 (mk k) (pieceL F[k]))
    (f1 : ∀ W, Ops W → Calls Tryd.prog 11 #[.int .i64 o] W fun e w' => e = .returned (.string F) ∧ w' = W) (M : Int) (hM : mk F.size = M) (hz : bits BinOp.andNot IntKind.u64 N M = 0) (ho8 : wrap64 (bits BinOp.and IntKind.u64 N 255) = o)
    (G : Int) (hG : G ≠ 0) (d2 : Dec X 0 0 0 0 0 G) (hz2 : bits BinOp.andNot IntKind.u64 X M ≠ 0) (w : World) (ho : Ops w) (ht : Tab w) :
    Calls Tryd.prog 7 #[.int .u64 N, .int .i64 bit] w fun e w' => e = .returned (.bool true) ∧ Below w.heap.size w w' := by
  have b4 : (G != 0) = true := by simpa using hG
  have b5 : (G == 0) = false := by simpa using hG
  have D2 := Lib.hid d2
  have g2 : (bits BinOp.andNot IntKind.u64 X M == 0) = false := by simp [hz2]
  clear hG d2 hz2
  have HK0 := Lib.hid (Kn.mk (Below.refl w.heap.size w) ho ht)
  have D1 := Lib.hid d1
  have F1 := Lib.hid f1
  have M0 := Lib.hid m0
  have MS := Lib.hid ms
  have HM := Lib.hid hM
  clear ho ht d1 f1 m0 ms hM
  go_enter Tryd.func7, Tryd.ntmps7
  go_wp2_with fail
  refine (D1.out _ HK0.out.ops).mono ?_
  rintro e w1 ⟨rfl, hb⟩
  have HK1 := Lib.hid ((HK0.out.below hb).alloc (.cells #[.int .i64 o, .int .i64 a, .int .i64 b, .int .i64 c, .int .i64 n] 30))
  clear hb
  go_wp2_with fail
  refine (F1.out _ HK1.out.ops).mono ?_
  rintro e w2 ⟨rfl, rfl⟩
  go_wp2_with fail
  go_loop [8, 9] (fun m i => ∃ k : Nat, k ≤ F.size ∧ i = .int .i64 k ∧ m = .int .u64 (mk k)) (fun _ i => F.size - (intOf i).toNat)
  case atStart => exact ⟨0, Nat.zero_le _, rfl, by rw [M0.out]⟩
  case round =>
    obtain ⟨k, hk, rfl, rfl⟩ := hrel
    by_cases hlt : k < F.size
    · have S := Lib.hid (MS.out k hlt)
      by_cases c97 : ((F[k]).toNat : Int) = 97
      · have q : pieceL F[k] = 3840 := by unfold pieceL; rw [if_pos c97]
        have e1 : (((F[k]).toNat : Int) == 97) = true := by simpa using c97
        have Q := Lib.hid q
        clear q c97
        go_wp2_with fail
        go_round
        case rel => exact ⟨k + 1, hlt, by go_num, by rw [S.out, Q.out]⟩
        case measure => simp [intOf]; omega
      · have e1 : (((F[k]).toNat : Int) == 97) = false := by simpa using c97
        by_cases c98 : ((F[k]).toNat : Int) = 98
        · have q : pieceL F[k] = 983040 := by unfold pieceL; rw [if_neg c97, if_pos c98]
          have e2 : (((F[k]).toNat : Int) == 98) = true := by simpa using c98
          have Q := Lib.hid q
          clear q c97 c98
          go_wp2_with fail
          go_round
          case rel => exact ⟨k + 1, hlt, by go_num, by rw [S.out, Q.out]⟩
          case measure => simp [intOf]; omega
        · have e2 : (((F[k]).toNat : Int) == 98) = false := by simpa using c98
          by_cases c99 : ((F[k]).toNat : Int) = 99
          · have q : pieceL F[k] = 251658240 := by unfold pieceL; rw [if_neg c97, if_neg c98, if_pos c99]
            have e3 : (((F[k]).toNat : Int) == 99) = true := by simpa using c99
            have Q := Lib.hid q
            clear q c97 c98 c99
            go_wp2_with fail
            go_round
            case rel => exact ⟨k + 1, hlt, by go_num, by rw [S.out, Q.out]⟩
            case measure => simp [intOf]; omega
          · have e3 : (((F[k]).toNat : Int) == 99) = false := by simpa using c99
            have q : pieceL F[k] = 18446744069414584320 := by unfold pieceL; rw [if_neg c97, if_neg c98, if_neg c99]
            have Q := Lib.hid q
            clear q c97 c98 c99
            go_wp2_with fail
            go_round
            case rel => exact ⟨k + 1, hlt, by go_num, by rw [S.out, Q.out]⟩
            case measure => simp [intOf]; omega
    · obtain rfl : k = F.size := by omega
      rw [HM.out]
      have hz' : (bits BinOp.andNot IntKind.u64 N M != 0) = false := by simp [hz]
      have HI := Lib.hid (InsAt.new w1 o a b c n)
      go_wp2_with fail
      refine (D2.out _ HK1.out.ops).mono ?_
      rintro e w4 ⟨rfl, hb⟩
      have HI4 := Lib.hid (HI.out.below hb)
      obtain ⟨i0, i1, i2, i3, i4⟩ := HI4.out
      have hz4 := HI4.out.lt
      have HK4 := Lib.hid ((HK1.out.below hb).alloc (.cells #[.int .i64 0, .int .i64 0, .int .i64 0, .int .i64 0, .int .i64 0] 30))
      clear hb
      go_wp2_with fail
      refine (known_any _ HK4.out.ops HK4.out.tab).mono ?_
      rintro e w6 ⟨rfl, hb⟩
      have HK6 := Lib.hid (HK4.out.below hb)
      clear hb
      go_wp2_with fail
      go_ret
      exact ⟨rfl, HK6.out.base⟩
theorem mk_is {F : ByteArray} : (maskL (F.data.toList.take 0) = 255) ∧ (∀ k (h : k < F.size), maskL (F.data.toList.take (k + 1)) = bits BinOp.or IntKind.u64 (maskL (F.data.toList.take k)) (pieceL F[k])) ∧ maskL (F.data.toList.take F.size) = maskL F.data.toList := by
  refine ⟨rfl, fun k h => ?_, ?_⟩
  · rw [List.take_succ_eq_append_getElem (show k < F.data.toList.length by rw [Array.length_toList]; exact h), maskL_snoc]; rfl
  · rw [List.take_of_length_le (show F.data.toList.length ≤ F.size by rw [Array.length_toList]; exact Nat.le_refl _)]
theorem form_small : ∀ n : Nat, 1 ≤ n → n ≤ 36 → (bs (rowOf n).2.1).size ≤ 4
  | 0, h, _ => absurd h (by decide)
  | 1, _, _ => by decide
  | 2, _, _ => by decide
  | 3, _, _ => by decide
  | 4, _, _ => by decide
  | 5, _, _ => by decide
  | 6, _, _ => by decide
  | 7, _, _ => by decide
  | 8, _, _ => by decide
  | 9, _, _ => by decide
  | 10, _, _ => by decide
  | 11, _, _ => by decide
  | 12, _, _ => by decide
  | 13, _, _ => by decide
  | 14, _, _ => by decide
  | 15, _, _ => by decide
  | 16, _, _ => by decide
  | 17, _, _ => by decide
  | 18, _, _ => by decide
  | 19, _, _ => by decide
  | 20, _, _ => by decide
  | 21, _, _ => by decide
  | 22, _, _ => by decide
  | 23, _, _ => by decide
  | 24, _, _ => by decide
  | 25, _, _ => by decide
  | 26, _, _ => by decide
  | 27, _, _ => by decide
  | 28, _, _ => by decide
  | 29, _, _ => by decide
  | 30, _, _ => by decide
  | 31, _, _ => by decide
  | 32, _, _ => by decide
  | 33, _, _ => by decide
  | 34, _, _ => by decide
  | 35, _, _ => by decide
  | 36, _, _ => by decide
  | n + 37, _, h => absurd h (by omega)
theorem xor_pow (N B : Nat) (hN : N < 18446744073709551616) (h1 : B ≤ 63) : bits BinOp.xor IntKind.u64 (N : Int) (IntKind.u64.wrap (2 ^ B)) = ((N ^^^ 2 ^ B : Nat) : Int) := by
  have h2 : 2 ^ B < 2 ^ 64 := Nat.pow_lt_pow_right (by decide) (by omega)
  have e : IntKind.u64.wrap (2 ^ B) = ((2 ^ B : Nat) : Int) := by
    rw [IntKind.wrap_u64]
    push_cast
    have h3 : ((2 : Int) ^ B) < 18446744073709551616 := by
      have := Int.ofNat_lt.2 h2
      rw [Int.natCast_pow] at this
      exact this
    have h4 : (0 : Int) < 2 ^ B := Int.pow_pos (by decide)
    omega
  rw [e, u64_xor_nat N _ hN h2]
theorem isaBits_any (z bit : Int) (h0 : 0 ≤ z) (h1 : z ≤ 18446744073709551615) (w : World) (ho : Ops w) (ht : Tab w) :
    Calls Tryd.prog 7 #[.int .u64 z, .int .i64 bit] w fun e w' => e = .returned (.bool true) ∧ Below w.heap.size w w' := by
  obtain ⟨N, rfl⟩ := Int.eq_ofNat_of_zero_le h0
  have hN : N < 18446744073709551616 := by omega
  by_cases hg : dchk N = 0
  · obtain ⟨g0, g1⟩ := known_of hg
    obtain ⟨op, hop⟩ := Int.eq_ofNat_of_zero_le (oN_bd N).1
    have d1 := dec_yes hN hg
    have p1 : 1 ≤ op := by omega
    have p2 : op ≤ 36 := by omega
    have hF := form_small op p1 p2
    obtain ⟨m0, ms, me⟩ := mk_is (F := bs (rowOf op).2.1)
    have hM : maskL ((bs (rowOf op).2.1).data.toList.take (bs (rowOf op).2.1).size) = maskL (rowOf op).2.1 := me
    have f1 : ∀ W, Ops W → Calls Tryd.prog 11 #[.int .i64 (oN N)] W fun e w' => e = .returned (.string (bs (rowOf op).2.1)) ∧ w' = W := by rw [hop]; exact fun W hW => form_yes op p1 p2 W hW
    have hz : bits BinOp.andNot IntKind.u64 (N : Int) (maskL (rowOf op).2.1) = 0 := by rw [andNot_mask N hN p1 p2, (dchk_iff N hN p1 p2 hop).1 hg]; rfl
    have ho8 := dec_o N hN
    by_cases hlo : bit < 8
    · exact isaBits_lo N bit hlo _ _ _ _ _ d1 _ hF (fun k => maskL ((bs (rowOf op).2.1).data.toList.take k)) m0 ms f1 _ hM hz ho8 w ho ht
    by_cases hhi : 63 < bit
    · exact isaBits_hi N bit hhi _ _ _ _ _ d1 _ hF (fun k => maskL ((bs (rowOf op).2.1).data.toList.take k)) m0 ms f1 _ hM hz ho8 w ho ht
    obtain ⟨B, rfl⟩ := Int.eq_ofNat_of_zero_le (show 0 ≤ bit by omega)
    obtain ⟨x1, x2, x3⟩ := flip_facts N B hN (by omega) (by omega)
    have hx := xor_pow N B hN (by omega)
    by_cases hq : dchk (N ^^^ 2 ^ B) = 0
    · have d2 := dec_yes x1 hq
      rw [x2] at d2
      have hne := dec_differ hN x1 x3
      rw [x2] at hne
      have hz2 : bits BinOp.andNot IntKind.u64 ((N ^^^ 2 ^ B : Nat) : Int) (maskL (rowOf op).2.1) = 0 := by rw [andNot_mask _ x1 p1 p2, (dchk_iff _ x1 p1 p2 (x2.trans hop)).1 hq]; rfl
      exact isaBits_good N _ B (by omega) (by omega) hx _ _ _ _ _ d1 _ hF (fun k => maskL ((bs (rowOf op).2.1).data.toList.take k)) m0 ms f1 _ hM hz ho8 _ _ _ _ hne d2 hz2 w ho ht
    · have d2 := dec_no x1 hq
      have hz2 : bits BinOp.andNot IntKind.u64 ((N ^^^ 2 ^ B : Nat) : Int) (maskL (rowOf op).2.1) ≠ 0 := by
        rw [andNot_mask _ x1 p1 p2]
        intro e
        exact hq ((dchk_iff _ x1 p1 p2 (x2.trans hop)).2 (by omega))
      exact isaBits_bad' N _ B (by omega) (by omega) hx _ _ _ _ _ d1 _ hF (fun k => maskL ((bs (rowOf op).2.1).data.toList.take k)) m0 ms f1 _ hM hz ho8 _ hq d2 hz2 w ho ht
  · exact isaBits_bad N bit _ hg (dec_no hN hg) w ho ht
end Go.Proofs.YtfmecfamiplfdaaDoor
