/- Contracts of the program's leaf functions on bytes, and of run: each only computes. Conditions: texts within the reach. The contract of the program's cutInt: a number's token. Condition: the text is within the reach. Contracts of the program's digit and letter: each only computes. Conditions: texts within the reach; letter is called where no quote stands. The three tables of words that the program lays, and the contract of kindOf. Conditions: the tables are as laid. The contract of the program's cutText: a quoted text's token. Condition: the text has no more than a million bytes. The contract of kindOf. Conditions: the tables are as laid. The contract of the program's sign. Conditions: the tables are as laid. The contract of the program's comment. Condition: the text is within the reach, and a comment begins there. The contract of the program's pass. Condition: the text is within the reach. -/
import Derived.Test.YtphhokpbkcdljaaDoorLexTwo
import Derived.Test.YtphhokpbkcdljaaDoorShelf
import Derived.Below
import Derived.Deep.MidRow
import Derived.Test.YtphhokpbkcdljaaDoorLexThree
namespace Go.Proofs.YtphhokpbkcdljaaDoor
open Go Go.RowKit
theorem isDg_any (c : UInt8) (w : World) : Calls Tryd.prog 39 #[.int .u8 (c.toNat : Int)] w fun e w' => e = .returned (.bool (isDg c)) ∧ w' = w := by
  unfold isDg
  obtain ⟨n, hn⟩ : ∃ n, c.toNat = n := ⟨_, rfl⟩
  rw [hn]
  clear hn
  by_cases h3 : 48 ≤ n
  · have a1 : decide ((48 : Int) ≤ (n : Int)) = true := decide_eq_true (by omega)
    rw [decide_eq_true h3]
    by_cases h4 : n ≤ 57
    · have a2 : decide ((n : Int) ≤ 57) = true := decide_eq_true (by omega)
      rw [decide_eq_true h4]
      go_enter Tryd.func39, Tryd.ntmps39
      go_wp2_with fail
      go_ret
      exact ⟨rfl, rfl⟩
    · have a2 : decide ((n : Int) ≤ 57) = false := decide_eq_false (by omega)
      have h5 : 57 < n := by omega
      rw [decide_eq_false h4]
      go_enter Tryd.func39, Tryd.ntmps39
      go_wp2_with fail
      go_ret
      exact ⟨rfl, rfl⟩
  · have a1 : decide ((48 : Int) ≤ (n : Int)) = false := decide_eq_false (by omega)
    have h5 : n < 48 := by omega
    rw [decide_eq_false h3]
    go_enter Tryd.func39, Tryd.ntmps39
    go_wp2_with fail
    go_ret
    exact ⟨rfl, rfl⟩
theorem isSm_any (c : UInt8) (w : World) : Calls Tryd.prog 42 #[.int .u8 (c.toNat : Int)] w fun e w' => e = .returned (.bool (isSm c)) ∧ w' = w := by
  unfold isSm
  obtain ⟨n, hn⟩ : ∃ n, c.toNat = n := ⟨_, rfl⟩
  rw [hn]
  clear hn
  by_cases h3 : 97 ≤ n
  · have a1 : decide ((97 : Int) ≤ (n : Int)) = true := decide_eq_true (by omega)
    rw [decide_eq_true h3]
    by_cases h4 : n ≤ 122
    · have a2 : decide ((n : Int) ≤ 122) = true := decide_eq_true (by omega)
      rw [decide_eq_true h4]
      go_enter Tryd.func42, Tryd.ntmps42
      go_wp2_with fail
      go_ret
      exact ⟨rfl, rfl⟩
    · have a2 : decide ((n : Int) ≤ 122) = false := decide_eq_false (by omega)
      have h5 : 122 < n := by omega
      rw [decide_eq_false h4]
      go_enter Tryd.func42, Tryd.ntmps42
      go_wp2_with fail
      go_ret
      exact ⟨rfl, rfl⟩
  · have a1 : decide ((97 : Int) ≤ (n : Int)) = false := decide_eq_false (by omega)
    have h5 : n < 97 := by omega
    rw [decide_eq_false h3]
    go_enter Tryd.func42, Tryd.ntmps42
    go_wp2_with fail
    go_ret
    exact ⟨rfl, rfl⟩
theorem isLg_any (c : UInt8) (w : World) : Calls Tryd.prog 43 #[.int .u8 (c.toNat : Int)] w fun e w' => e = .returned (.bool (isLg c)) ∧ w' = w := by
  unfold isLg
  obtain ⟨n, hn⟩ : ∃ n, c.toNat = n := ⟨_, rfl⟩
  rw [hn]
  clear hn
  by_cases h3 : 65 ≤ n
  · have a1 : decide ((65 : Int) ≤ (n : Int)) = true := decide_eq_true (by omega)
    rw [decide_eq_true h3]
    by_cases h4 : n ≤ 90
    · have a2 : decide ((n : Int) ≤ 90) = true := decide_eq_true (by omega)
      rw [decide_eq_true h4]
      go_enter Tryd.func43, Tryd.ntmps43
      go_wp2_with fail
      go_ret
      exact ⟨rfl, rfl⟩
    · have a2 : decide ((n : Int) ≤ 90) = false := decide_eq_false (by omega)
      have h5 : 90 < n := by omega
      rw [decide_eq_false h4]
      go_enter Tryd.func43, Tryd.ntmps43
      go_wp2_with fail
      go_ret
      exact ⟨rfl, rfl⟩
  · have a1 : decide ((65 : Int) ≤ (n : Int)) = false := decide_eq_false (by omega)
    have h5 : n < 65 := by omega
    rw [decide_eq_false h3]
    go_enter Tryd.func43, Tryd.ntmps43
    go_wp2_with fail
    go_ret
    exact ⟨rfl, rfl⟩
def partP (pr : Bool) (c : UInt8) : Bool := part0 c || (decide (c.toNat = 39) && pr)
theorem partP_true : partP true = part1 := by funext c; unfold partP part1; simp
theorem partP_false : partP false = part0 := by funext c; unfold partP; simp
theorem run_nil (p : UInt8 → Bool) : Go.Proofs.YtphhokpbkcdljaaDoor.run p [] = 0 := rfl
set_option maxRecDepth 100000 in
set_option maxHeartbeats 4000000 in
theorem run_any (s : ByteArray) (hs : s.size ≤ 140737488351232) (k : Nat) (hk : k ≤ s.size) (pr : Bool) (w : World) :
    Calls Tryd.prog 44 #[.string s, .int .i64 (k : Int), .bool pr] w fun e w' => e = .returned (.int .i64 ((k + Go.Proofs.YtphhokpbkcdljaaDoor.run (partP pr) (s.data.toList.drop k) : Nat) : Int)) ∧ w' = w := by
  obtain ⟨res, hr⟩ : ∃ res, k + Go.Proofs.YtphhokpbkcdljaaDoor.run (partP pr) (s.data.toList.drop k) = res := ⟨_, rfl⟩
  rw [hr]
  have HR := Lib.hid hr
  clear hr
  go_enter Tryd.func44, Tryd.ntmps44
  go_wp2_with fail
  go_loop [1] (fun i => ∃ q : Nat, q ≤ s.size ∧ i = .int .i64 q ∧ q + Go.Proofs.YtphhokpbkcdljaaDoor.run (partP pr) (s.data.toList.drop q) = res) (fun i => s.size - (intOf i).toNat)
  case atStart => exact ⟨k, hk, rfl, HR.out⟩
  case round =>
    clear hk
    obtain ⟨q, hq, rfl, hres⟩ := hrel
    by_cases hlt : q < s.size
    · rw [drop_cons s hlt, run_cons] at hres
      have hP : partP pr s[q] = (isSm s[q] || isLg s[q] || isDg s[q] || decide (s[q].toNat = 95) || (decide (s[q].toNat = 39) && pr)) := rfl
      have HS := Lib.hid (isSm_any s[q])
      have HL := Lib.hid (isLg_any s[q])
      have HD := Lib.hid (isDg_any s[q])
      obtain ⟨x, hx⟩ : ∃ x, isSm s[q] = x := ⟨_, rfl⟩
      obtain ⟨y, hy⟩ : ∃ y, isLg s[q] = y := ⟨_, rfl⟩
      obtain ⟨z, hz⟩ : ∃ z, isDg s[q] = z := ⟨_, rfl⟩
      obtain ⟨c, hc⟩ : ∃ c : Int, (s[q].toNat : Int) = c := ⟨_, rfl⟩
      rw [hx] at HS hP
      rw [hy] at HL hP
      rw [hz] at HD hP
      rw [hc] at HS HL HD
      rw [show decide (s[q].toNat = 95) = decide (c = 95) from by rw [decide_eq_decide]; omega, show decide (s[q].toNat = 39) = decide (c = 39) from by rw [decide_eq_decide]; omega] at hP
      have hcx : ((s[q].toNat : Nat) : Int) = c := hc
      rw [hP] at hres
      have HRES := Lib.hid hres
      clear hx hy hz hP hres hc
      have fin : (x || y || z || decide (c = 95) || (decide (c = 39) && pr)) = true → q + 1 + Go.Proofs.YtphhokpbkcdljaaDoor.run (partP pr) (s.data.toList.drop (q + 1)) = res := fun h => by
        have := HRES.out
        rw [if_pos h] at this; omega
      have fout : (x || y || z || decide (c = 95) || (decide (c = 39) && pr)) = false → q = res := fun h => by
        have := HRES.out
        rw [h] at this; simpa using this
      have HFI := Lib.hid fin
      have HFO := Lib.hid fout
      clear fin fout HRES
      have tri : ((x = true ∨ (x = false ∧ y = true) ∨ (x = false ∧ y = false ∧ z = true)) ∨ (x = false ∧ y = false ∧ z = false)) := by cases x <;> cases y <;> cases z <;> simp
      rcases tri with tri | ⟨rfl, rfl, rfl⟩
      · have HF := Lib.hid (HFI.out (by rcases tri with rfl | ⟨_, rfl⟩ | ⟨_, _, rfl⟩ <;> simp))
        clear HFI HFO
        have go_on : ∀ (x : Int), x = (q : Int) + 1 → ∃ q' : Nat, q' ≤ s.size ∧ Value.int .i64 x = .int .i64 q' ∧ q' + Go.Proofs.YtphhokpbkcdljaaDoor.run (partP pr) (s.data.toList.drop q') = res := fun x h => ⟨q + 1, by omega, by rw [h]; rfl, HF.out⟩
        have HGO := Lib.hid go_on
        clear go_on
        rcases tri with rfl | ⟨rfl, rfl⟩ | ⟨rfl, rfl, rfl⟩
        · go_wp2_with fail
          refine (HS.out _).mono ?_
          rintro e w1 ⟨rfl, hw1⟩
          subst w1
          go_wp2_with fail
          go_round
          case rel => exact HGO.out _ rfl
          case measure => simp [intOf]; omega
        · go_wp2_with fail
          refine (HS.out _).mono ?_
          rintro e w1 ⟨rfl, hw1⟩
          subst w1
          go_wp2_with fail
          refine (HL.out _).mono ?_
          rintro e w1 ⟨rfl, hw1⟩
          subst w1
          go_wp2_with fail
          go_round
          case rel => exact HGO.out _ rfl
          case measure => simp [intOf]; omega
        · go_wp2_with fail
          refine (HS.out _).mono ?_
          rintro e w1 ⟨rfl, hw1⟩
          subst w1
          go_wp2_with fail
          refine (HL.out _).mono ?_
          rintro e w1 ⟨rfl, hw1⟩
          subst w1
          go_wp2_with fail
          refine (HD.out _).mono ?_
          rintro e w1 ⟨rfl, hw1⟩
          subst w1
          go_wp2_with fail
          go_round
          case rel => exact HGO.out _ rfl
          case measure => simp [intOf]; omega
      · have h4 : (c != 95) = true ∨ (c != 95) = false := by cases (c != 95) <;> simp
        rcases h4 with h4 | h4
        · have h5 : (c != 39) = true ∨ (c != 39) = false := by cases (c != 39) <;> simp
          rcases h5 with h5 | h5
          · have HE := Lib.hid (HFO.out (by have a : ¬ c = 95 := by simpa using h4
                                            have b : ¬ c = 39 := by simpa using h5
                                            simp [a, b]))
            clear HFI HFO
            go_wp2_with fail
            refine (HS.out _).mono ?_
            rintro e w1 ⟨rfl, hw1⟩
            subst w1
            go_wp2_with fail
            refine (HL.out _).mono ?_
            rintro e w1 ⟨rfl, hw1⟩
            subst w1
            go_wp2_with fail
            refine (HD.out _).mono ?_
            rintro e w1 ⟨rfl, hw1⟩
            subst w1
            go_wp2_with fail
            go_ret
            exact ⟨by rw [HE.out]; rfl, rfl⟩
          · cases pr with
            | true =>
              have HF := Lib.hid (HFI.out (by have b : c = 39 := by simpa using h5
                                              simp [b]))
              clear HFI HFO
              go_wp2_with fail
              refine (HS.out _).mono ?_
              rintro e w1 ⟨rfl, hw1⟩
              subst w1
              go_wp2_with fail
              refine (HL.out _).mono ?_
              rintro e w1 ⟨rfl, hw1⟩
              subst w1
              go_wp2_with fail
              refine (HD.out _).mono ?_
              rintro e w1 ⟨rfl, hw1⟩
              subst w1
              go_wp2_with fail
              go_round
              case rel => exact ⟨q + 1, by omega, by go_num, HF.out⟩
              case measure => simp [intOf]; omega
            | false =>
              have HE := Lib.hid (HFO.out (by have a : ¬ c = 95 := by simpa using h4
                                              simp [a]))
              clear HFI HFO
              go_wp2_with fail
              refine (HS.out _).mono ?_
              rintro e w1 ⟨rfl, hw1⟩
              subst w1
              go_wp2_with fail
              refine (HL.out _).mono ?_
              rintro e w1 ⟨rfl, hw1⟩
              subst w1
              go_wp2_with fail
              refine (HD.out _).mono ?_
              rintro e w1 ⟨rfl, hw1⟩
              subst w1
              go_wp2_with fail
              go_ret
              exact ⟨by rw [HE.out]; rfl, rfl⟩
        · have HF := Lib.hid (HFI.out (by have b : c = 95 := by simpa using h4
                                          simp [b]))
          clear HFI HFO
          go_wp2_with fail
          refine (HS.out _).mono ?_
          rintro e w1 ⟨rfl, hw1⟩
          subst w1
          go_wp2_with fail
          refine (HL.out _).mono ?_
          rintro e w1 ⟨rfl, hw1⟩
          subst w1
          go_wp2_with fail
          refine (HD.out _).mono ?_
          rintro e w1 ⟨rfl, hw1⟩
          subst w1
          go_wp2_with fail
          go_round
          case rel => exact ⟨q + 1, by omega, by go_num, HF.out⟩
          case measure => simp [intOf]; omega
    · rw [drop_end s (by omega), run_nil] at hres
      obtain rfl : q = res := by omega
      go_wp2_with fail
      go_ret
      exact ⟨rfl, rfl⟩
end Go.Proofs.YtphhokpbkcdljaaDoor
namespace Go.Proofs.YtphhokpbkcdljaaDoor
open Go Go.RowKit
/-- digits, as the program adds them up -/
def dgo (a : Nat) : List UInt8 → Option (Nat × Nat)
  | [] => some (a, 0)
  | c :: r => if isDg c = true then (if a * 10 + (c.toNat - 48) ≤ maxI then (dgo (a * 10 + (c.toNat - 48)) r).map (fun x => (x.1, x.2 + 1)) else none) else some (a, 0)
theorem dgo_ge : ∀ (l : List UInt8) (a : Nat), a ≤ l.foldl (fun a c => a * 10 + (c.toNat - 48)) a
  | [], a => Nat.le_refl _
  | c :: r, a => by
    rw [List.foldl_cons]
    have := dgo_ge r (a * 10 + (c.toNat - 48))
    omega
theorem dgo_eq : ∀ (l : List UInt8) (a : Nat), a ≤ maxI → dgo a l = if (l.take (run isDg l)).foldl (fun a c => a * 10 + (c.toNat - 48)) a ≤ maxI then some ((l.take (run isDg l)).foldl (fun a c => a * 10 + (c.toNat - 48)) a, run isDg l) else none
  | [], a, h => by simp [dgo, Go.Proofs.YtphhokpbkcdljaaDoor.run, h]
  | c :: r, a, h => by
    rw [dgo, run_cons]
    by_cases hd : isDg c = true
    · rw [if_pos hd, if_pos hd, List.take_succ_cons, List.foldl_cons]
      by_cases h2 : a * 10 + (c.toNat - 48) ≤ maxI
      · rw [if_pos h2, dgo_eq r _ h2]
        by_cases h3 : (r.take (run isDg r)).foldl (fun a c => a * 10 + (c.toNat - 48)) (a * 10 + (c.toNat - 48)) ≤ maxI
        · rw [if_pos h3, if_pos h3]; rfl
        · rw [if_neg h3, if_neg h3]; rfl
      · rw [if_neg h2, if_neg]
        have := dgo_ge (r.take (run isDg r)) (a * 10 + (c.toNat - 48))
        omega
    · rw [if_neg hd, if_neg hd, List.take_zero, List.foldl_nil, if_pos h]
/-- what cutInt answers -/
def ciV (k : Nat) (o : Option (Nat × Nat)) : Value := match o with
  | some x => .tuple #[tokA ⟨1, [], x.1⟩ 0, .int .i64 ((k + x.2 : Nat) : Int), .bool true]
  | none => .tuple #[tokNil, .int .i64 0, .bool false]
theorem ciV_map (k : Nat) (o : Option (Nat × Nat)) : ciV k (o.map fun x => (x.1, x.2 + 1)) = ciV (k + 1) o := by
  cases o with
  | none => rfl
  | some x => unfold ciV; simp only [Option.map_some]; rw [show k + (x.2 + 1) = k + 1 + x.2 by omega]
/-- the two boxes of cutInt -/
structure CI (w : World) (B : Nat) (wr : World) (a : Nat) : Prop where
  b : Below B w wr
  r : wr.heap[B]? = some (.cells #[.int .i64 0, .string ⟨#[]⟩, .int .i64 0, .int .i64 0] 32 (0, 0))
  t : wr.heap[B + 1]? = some (.cells #[.int .i64 1, .string ⟨#[]⟩, .int .i64 (a : Int), .int .i64 0] 32 (0, 0))
theorem CI.start (w : World) : CI w w.heap.size ((w.alloc (.cells #[.int .i64 0, .string ⟨#[]⟩, .int .i64 0, .int .i64 0] 32)).alloc (.cells #[.int .i64 1, .string ⟨#[]⟩, .int .i64 0, .int .i64 0] 32)) 0 := by
  have h := heap_alloc_new (w.alloc (.cells #[.int .i64 0, .string ⟨#[]⟩, .int .i64 0, .int .i64 0] 32)) (.cells #[.int .i64 1, .string ⟨#[]⟩, .int .i64 0, .int .i64 0] 32)
  rw [World.size_alloc] at h
  exact ⟨(below_oneL w _).alloc (by rw [World.size_alloc]; omega) _, box_stay (below_oneL _ _), h⟩
theorem CI.set {w wr : World} {B a : Nat} (h : CI w B wr a) (a' : Nat) : CI w B (wr.setCell ⟨B + 1, 2, none⟩ (.int .i64 (a' : Int))) a' := by
  refine ⟨h.b.setCell (p := ⟨B + 1, 2, none⟩) (Nat.le_succ B) _, ?_, by have := blk_setL h.t 2 (.int .i64 (a' : Int)); simpa using this⟩
  rw [← h.r]
  show (wr.heap.modify _ _)[B]? = _
  rw [Array.getElem?_modify, if_neg (Nat.succ_ne_self B)]
set_option maxRecDepth 100000 in
set_option maxHeartbeats 8000000 in
theorem cutint_any (s : ByteArray) (hs : s.size ≤ 140737488351232) (k : Nat) (hk : k ≤ s.size) (w : World) :
    Calls Tryd.prog 40 #[.string s, .int .i64 (k : Int)] w fun e w' => e = .returned (ciV k (dgo 0 (s.data.toList.drop k))) ∧ Below w.heap.size w w' := by
  obtain ⟨res, hr⟩ : ∃ res, ciV k (dgo 0 (s.data.toList.drop k)) = res := ⟨_, rfl⟩
  rw [hr]
  have HR := Lib.hid hr
  clear hr
  have HC := Lib.hid (CI.start w)
  go_enter Tryd.func40, Tryd.ntmps40
  go_wp2_with fail
  go_loopw [1] (fun i wr => ∃ (q a : Nat), q ≤ s.size ∧ i = .int .i64 q ∧ a ≤ maxI ∧ CI w w.heap.size wr a ∧ ciV q (dgo a (s.data.toList.drop q)) = res) (fun i _ => s.size - (intOf i).toNat)
  case atStart => exact ⟨k, 0, hk, rfl, Nat.zero_le _, HC.out, HR.out⟩
  case round =>
    clear hk
    obtain ⟨q, a, hq, rfl, ha, hci, hres⟩ := hrel
    have HX := Lib.hid hci
    have e0 := blk_cellL hci.t 0
    have e1 := blk_cellL hci.t 1
    have e2 := blk_cellL hci.t 2
    have e3 := blk_cellL hci.t 3
    have r0 := blk_cellL hci.r 0
    have r1 := blk_cellL hci.r 1
    have r2 := blk_cellL hci.r 2
    have r3 := blk_cellL hci.r 3
    have g0 := blk_freeL hci.t
    have g1 := blk_freeL hci.r
    clear hci
    by_cases hlt : q < s.size
    · rw [drop_cons s hlt] at hres
      have HD := Lib.hid (isDg_any s[q])
      cases hd : isDg s[q] with
      | false =>
        have HRES := Lib.hid (show ciV q (some (a, 0)) = res from by rw [← hres, dgo, hd]; rfl)
        rw [hd] at HD
        clear hres hd
        go_wp2_with fail
        refine (HD.out _).mono ?_
        rintro e w1 ⟨rfl, hw1⟩
        subst w1
        go_wp2_with fail
        have hs4 := tok_set HX.out.r (.int .i64 1) (.string ⟨#[]⟩) (.int .i64 (a : Int)) (.int .i64 0)
        have hs5 := tok_below HX.out.b (Nat.le_refl _) (.int .i64 1) (.string ⟨#[]⟩) (.int .i64 (a : Int)) (.int .i64 0)
        clear e0 e1 e2 e3 r0 r1 r2 r3 g0 g1
        generalize World.setCell (World.setCell (World.setCell (World.setCell _ _ _) _ _) _ _) _ _ = W4 at hs4 hs5 ⊢
        have f0 := blk_cellL hs4 0
        have f1 := blk_cellL hs4 1
        have f2 := blk_cellL hs4 2
        have f3 := blk_cellL hs4 3
        exact bodyPost_ret (v := .tuple #[.agg #[.int .i64 1, .string ⟨#[]⟩, .int .i64 (a : Int), .int .i64 0], .int .i64 (q : Int), .bool true]) (by simp [results, Tryd.results40, go_sem, f0, f1, f2, f3]) rfl ⟨by rw [← HRES.out]; rfl, hs5⟩
      | true =>
        have hb := dg_bd hd
        rw [hd] at HD
        rw [dgo, if_pos hd] at hres
        clear hd
        obtain ⟨d, hdd⟩ : ∃ d, s[q].toNat - 48 = d := ⟨_, rfl⟩
        have hd9 : d ≤ 9 := by omega
        have hsub : (s[q].toNat : Int) - 48 = (d : Int) := by omega
        rw [hdd] at hres
        by_cases hm : a * 10 + d ≤ maxI
        · rw [if_pos hm, ciV_map] at hres
          have HRES := Lib.hid hres
          clear hres
          have ht : decide ((4611686018427387903 - (d : Int)) / 10 < (a : Int)) = false := decide_eq_false (by unfold maxI at hm ha; omega)
          go_wp2_with fail
          refine (HD.out _).mono ?_
          rintro e w1 ⟨rfl, hw1⟩
          subst w1
          go_wp2_with fail
          have hw1 : wrap64 ((a : Int) * 10) = (a : Int) * 10 := by unfold maxI at hm; unfold wrap64; omega
          have hw2 : wrap64 ((a : Int) * 10 + d) = (a : Int) * 10 + d := by unfold maxI at hm; unfold wrap64; omega
          rw [hw1, hw2]
          have hc2 := HX.out.set (a * 10 + d)
          rw [show ((a * 10 + d : Nat) : Int) = (a : Int) * 10 + d by omega] at hc2
          exact ⟨⟨q + 1, a * 10 + d, hlt, by go_num, hm, hc2, HRES.out⟩, by simp [intOf]; omega⟩
        · rw [if_neg hm] at hres
          have HRES := Lib.hid hres
          clear hres
          have ht : decide ((4611686018427387903 - (d : Int)) / 10 < (a : Int)) = true := decide_eq_true (by unfold maxI at hm ha; omega)
          go_wp2_with fail
          refine (HD.out _).mono ?_
          rintro e w1 ⟨rfl, hw1⟩
          subst w1
          go_wp2_with fail
          have hs4 := tok_set HX.out.r (.int .i64 0) (.string ⟨#[]⟩) (.int .i64 0) (.int .i64 0)
          have hs5 := tok_below HX.out.b (Nat.le_refl _) (.int .i64 0) (.string ⟨#[]⟩) (.int .i64 0) (.int .i64 0)
          clear e0 e1 e2 e3 r0 r1 r2 r3 g0 g1
          generalize World.setCell (World.setCell (World.setCell (World.setCell _ _ _) _ _) _ _) _ _ = W4 at hs4 hs5 ⊢
          have f0 := blk_cellL hs4 0
          have f1 := blk_cellL hs4 1
          have f2 := blk_cellL hs4 2
          have f3 := blk_cellL hs4 3
          exact bodyPost_ret (v := .tuple #[.agg #[.int .i64 0, .string ⟨#[]⟩, .int .i64 0, .int .i64 0], .int .i64 0, .bool false]) (by simp [results, Tryd.results40, go_sem, f0, f1, f2, f3]) rfl ⟨by rw [← HRES.out]; rfl, hs5⟩
    · rw [drop_end s (by omega)] at hres
      have HRES := Lib.hid hres
      clear hres
      go_wp2_with fail
      have hs4 := tok_set HX.out.r (.int .i64 1) (.string ⟨#[]⟩) (.int .i64 (a : Int)) (.int .i64 0)
      have hs5 := tok_below HX.out.b (Nat.le_refl _) (.int .i64 1) (.string ⟨#[]⟩) (.int .i64 (a : Int)) (.int .i64 0)
      clear e0 e1 e2 e3 r0 r1 r2 r3 g0 g1
      generalize World.setCell (World.setCell (World.setCell (World.setCell _ _ _) _ _) _ _) _ _ = W4 at hs4 hs5 ⊢
      have f0 := blk_cellL hs4 0
      have f1 := blk_cellL hs4 1
      have f2 := blk_cellL hs4 2
      have f3 := blk_cellL hs4 3
      exact bodyPost_ret (v := .tuple #[.agg #[.int .i64 1, .string ⟨#[]⟩, .int .i64 (a : Int), .int .i64 0], .int .i64 (q : Int), .bool true]) (by simp [results, Tryd.results40, go_sem, f0, f1, f2, f3]) rfl ⟨by rw [← HRES.out]; rfl, hs5⟩
end Go.Proofs.YtphhokpbkcdljaaDoor
namespace Go.Proofs.YtphhokpbkcdljaaDoor
open Go Go.RowKit
theorem hex_at : ∀ n : Fin 256, Lib.indexByte [48, 49, 50, 51, 52, 53, 54, 55, 56, 57, 65, 66, 67, 68, 69, 70] (UInt8.ofNat n.val) = d16I (UInt8.ofNat n.val) := by decide +kernel
theorem or_fin : ∀ a b : Fin 16, bits BinOp.or IntKind.i64 ((a.val : Int) * 16) (b.val : Int) % 256 = ((16 * a.val + b.val : Nat) : Int) := by decide +kernel
theorem or_ab (a b : Nat) (ha : a < 16) (hb : b < 16) : bits BinOp.or IntKind.i64 ((a : Int) * 16) (b : Int) % 256 = ((16 * a + b : Nat) : Int) := or_fin ⟨a, ha⟩ ⟨b, hb⟩
theorem digit_any (c : UInt8) (w : World) : Calls Tryd.prog 67 #[.int .u8 (c.toNat : Int)] w fun e w' => e = .returned (.int .i64 (d16I c)) ∧ w' = w := by
  have hc := c.toNat_lt
  have hx : Lib.indexByte (⟨#[48, 49, 50, 51, 52, 53, 54, 55, 56, 57, 65, 66, 67, 68, 69, 70]⟩ : ByteArray).data.toList ((c.toNat : Int).toNat.toUInt8) = d16I c := by
    have h := hex_at ⟨c.toNat, hc⟩
    simp only [UInt8.ofNat_toNat] at h
    rw [Int.toNat_natCast, show c.toNat.toUInt8 = c from UInt8.ofNat_toNat]
    exact h
  have HI := Lib.hid (Tryd.strings_IndexByte ⟨#[48, 49, 50, 51, 52, 53, 54, 55, 56, 57, 65, 66, 67, 68, 69, 70]⟩ (c.toNat : Int))
  rw [hx] at HI
  obtain ⟨r, hr⟩ : ∃ r, d16I c = r := ⟨_, rfl⟩
  rw [hr] at HI ⊢
  clear hx hr
  go_enter Tryd.func67, Tryd.ntmps67
  go_wp2_with fail
  refine (HI.out _).mono ?_
  rintro e w1 ⟨rfl, hw1⟩
  subst w1
  go_wp2_with fail
  go_ret
  exact ⟨rfl, rfl⟩
set_option maxRecDepth 100000 in
set_option maxHeartbeats 8000000 in
theorem letter_any (s : ByteArray) (hs : s.size ≤ 140737488351232) (hpos : 0 < s.size) (h34 : s[0].toNat ≠ 34) (w : World) :
    Calls Tryd.prog 61 #[.string s] w fun e w' => e = .returned (.tuple #[.int .u8 ((sgnV s.data.toList).1.toNat : Int), .int .i64 ((sgnV s.data.toList).2 : Int)]) ∧ ∃ n, w' = w.drewN n := by
  have hl : s.data.toList = s[0] :: s.data.toList.drop 1 := by have := drop_cons s hpos; simpa using this
  obtain ⟨V, hV⟩ : ∃ V, sgnV s.data.toList = V := ⟨_, rfl⟩
  have hv := hV
  rw [hl, sgnV_cons] at hv
  rw [hV]
  clear hV hl
  have q0 : (0 : Int) ≤ (s[0].toNat : Int) := by omega
  have q1 : (s[0].toNat : Int) ≤ 255 := by have := s[0].toNat_lt; omega
  by_cases a4 : s[0].toNat ≠ 92
  · have b4 : (((s[0].toNat : Nat) : Int) != 92) = true := by simp; omega
    by_cases a1 : s[0].toNat < 32
    · have b1 : decide (((s[0].toNat : Nat) : Int) < 32) = true := decide_eq_true (by omega)
      rw [if_pos (.inl a1)] at hv
      have HV := Lib.hid hv
      clear hv a1 a4 h34
      go_enter Tryd.func61, Tryd.ntmps61
      go_wp2_with fail
      go_ret2
      exact ⟨by rw [← HV.out]; rfl, 0, rfl⟩
    have b1 : decide (((s[0].toNat : Nat) : Int) < 32) = false := decide_eq_false (by omega)
    by_cases a2 : 126 < s[0].toNat
    · have b2 : decide ((126 : Int) < ((s[0].toNat : Nat) : Int)) = true := decide_eq_true (by omega)
      rw [if_pos (.inr (.inl a2))] at hv
      have HV := Lib.hid hv
      clear hv a1 a2 a4 h34
      go_enter Tryd.func61, Tryd.ntmps61
      go_wp2_with fail
      go_ret2
      exact ⟨by rw [← HV.out]; rfl, 0, rfl⟩
    have b2 : decide ((126 : Int) < ((s[0].toNat : Nat) : Int)) = false := decide_eq_false (by omega)
    rw [if_neg (by omega), if_pos a4] at hv
    have HV := Lib.hid hv
    clear hv a1 a2 a4 h34
    go_enter Tryd.func61, Tryd.ntmps61
    go_wp2_with fail
    go_ret2
    exact ⟨by rw [← HV.out]; rfl, 0, rfl⟩
  have b4 : (((s[0].toNat : Nat) : Int) != 92) = false := by simp; omega
  rw [if_neg (by omega), if_neg a4] at hv
  clear a4 h34
  by_cases h2 : s.size < 2
  · have hd : decide ((s.size : Int) < 2) = true := decide_eq_true (by omega)
    rw [drop_end s (by omega)] at hv
    have HV := Lib.hid hv
    clear hv h2
    go_enter Tryd.func61, Tryd.ntmps61
    go_wp2_with fail
    go_ret2
    exact ⟨by rw [← HV.out]; rfl, 0, rfl⟩
  have hd : decide ((s.size : Int) < 2) = false := decide_eq_false (by omega)
  have h1 : 1 < s.size := by omega
  rw [drop_cons s h1] at hv
  simp only at hv
  have p0 : (0 : Int) ≤ (s[1].toNat : Int) := by omega
  have p1 : (s[1].toNat : Int) ≤ 255 := by have := s[1].toNat_lt; omega
  clear h2
  by_cases a1 : s[1].toNat = 34
  · have c1 : (((s[1].toNat : Nat) : Int) == 34) = true := by simp; omega
    rw [if_pos (.inl a1)] at hv
    have HV := Lib.hid (show V.1.toNat = s[1].toNat ∧ V.2 = 2 from by rw [← hv]; exact ⟨rfl, rfl⟩)
    clear hv a1
    go_enter Tryd.func61, Tryd.ntmps61
    go_wp2_with fail
    go_ret2
    exact ⟨by rw [HV.out.1, HV.out.2]; rfl, 0, rfl⟩
  have c1 : (((s[1].toNat : Nat) : Int) == 34) = false := by simp; omega
  by_cases a2 : s[1].toNat = 92
  · have c2 : (((s[1].toNat : Nat) : Int) == 92) = true := by simp; omega
    rw [if_pos (.inr a2)] at hv
    have HV := Lib.hid (show V.1.toNat = s[1].toNat ∧ V.2 = 2 from by rw [← hv]; exact ⟨rfl, rfl⟩)
    clear hv a1 a2
    go_enter Tryd.func61, Tryd.ntmps61
    go_wp2_with fail
    go_ret2
    exact ⟨by rw [HV.out.1, HV.out.2]; rfl, 0, rfl⟩
  have c2 : (((s[1].toNat : Nat) : Int) == 92) = false := by simp; omega
  rw [if_neg (by omega)] at hv
  by_cases a3 : s[1].toNat = 110
  · have c3 : (((s[1].toNat : Nat) : Int) == 110) = true := by simp; omega
    rw [if_pos a3] at hv
    have HV := Lib.hid hv
    clear hv a1 a2 a3
    go_enter Tryd.func61, Tryd.ntmps61
    go_wp2_with fail
    go_ret2
    exact ⟨by rw [← HV.out]; rfl, 0, rfl⟩
  have c3 : (((s[1].toNat : Nat) : Int) == 110) = false := by simp; omega
  rw [if_neg a3] at hv
  by_cases a4 : s[1].toNat = 116
  · have c4 : (((s[1].toNat : Nat) : Int) == 116) = true := by simp; omega
    rw [if_pos a4] at hv
    have HV := Lib.hid hv
    clear hv a1 a2 a3 a4
    go_enter Tryd.func61, Tryd.ntmps61
    go_wp2_with fail
    go_ret2
    exact ⟨by rw [← HV.out]; rfl, 0, rfl⟩
  have c4 : (((s[1].toNat : Nat) : Int) == 116) = false := by simp; omega
  rw [if_neg a4] at hv
  by_cases a5 : s[1].toNat = 120
  · have c5 : (((s[1].toNat : Nat) : Int) == 120) = true := by simp; omega
    rw [if_pos a5] at hv
    clear a1 a2 a3 a4 a5
    by_cases h4 : s.size < 4
    · have he : decide ((4 : Int) ≤ (s.size : Int)) = false := decide_eq_false (by omega)
      have HV := Lib.hid (show V = (0, 0) from by
        rw [← hv]
        cases hq : s.data.toList.drop (1 + 1) with
        | nil => rfl
        | cons y r => cases r with
          | nil => rfl
          | cons z r =>
            have h5 := congrArg List.length hq
            rw [List.length_drop, len_data] at h5
            simp at h5
            omega)
      clear hv h4
      go_enter Tryd.func61, Tryd.ntmps61
      go_wp2_with fail
      go_ret2
      exact ⟨by rw [HV.out]; rfl, 0, rfl⟩
    have he : decide ((4 : Int) ≤ (s.size : Int)) = true := decide_eq_true (by omega)
    have h2 : 2 < s.size := by omega
    have h3 : 3 < s.size := by omega
    rw [drop_cons s h2, drop_cons s h3] at hv
    simp only at hv
    have HY := Lib.hid (digit_any s[2])
    have HZ := Lib.hid (digit_any s[3])
    unfold d16I at HY HZ
    clear h4
    cases ey : d16 s[2] with
    | none =>
      rw [ey] at HY hv
      simp only at HY hv
      have HV := Lib.hid hv
      clear hv
      go_enter Tryd.func61, Tryd.ntmps61
      go_wp2_with fail
      refine (HY.out _).mono ?_
      rintro e w1 ⟨rfl, hw1⟩
      subst w1
      go_wp2_with fail
      go_ret2
      exact ⟨by rw [← HV.out]; rfl, 0, rfl⟩
    | some a =>
      rw [ey] at HY hv
      simp only at HY
      have ha := d16_bd ey
      have hg1 : decide ((0 : Int) ≤ (a : Int)) = true := decide_eq_true (by omega)
      cases ez : d16 s[3] with
      | none =>
        rw [ez] at HZ hv
        simp only at HZ hv
        have HV := Lib.hid hv
        clear hv
        go_enter Tryd.func61, Tryd.ntmps61
        go_wp2_with fail
        refine (HY.out _).mono ?_
        rintro e w1 ⟨rfl, hw1⟩
        subst w1
        go_wp2_with fail
        refine (HZ.out _).mono ?_
        rintro e w1 ⟨rfl, hw1⟩
        subst w1
        go_wp2_with fail
        go_ret2
        exact ⟨by rw [← HV.out]; rfl, 0, rfl⟩
      | some b =>
        rw [ez] at HZ hv
        simp only at HZ hv
        have hb := d16_bd ez
        have hg2 : decide ((0 : Int) ≤ (b : Int)) = true := decide_eq_true (by omega)
        have HV := Lib.hid (show V.1.toNat = 16 * a + b ∧ V.2 = 4 from by
          rw [← hv]
          refine ⟨?_, rfl⟩
          show (UInt8.ofNat (16 * a + b)).toNat = _
          rw [UInt8.toNat_ofNat']
          omega)
        have HYQ := Lib.hid (fun q => (HY.out (w.drewN q)))
        have HZQ := Lib.hid (fun q => (HZ.out (w.drewN q)))
        clear hv ey ez
        go_enter Tryd.func61, Tryd.ntmps61
        go_wp2_with fail
        refine (HY.out _).mono ?_
        rintro e w1 ⟨rfl, hw1⟩
        subst w1
        go_wp2_with fail
        refine (HZ.out _).mono ?_
        rintro e w1 ⟨rfl, hw1⟩
        subst w1
        go_wp2_with fail
        go_quiet ((first | (go_at_call 67; with_reducible exact Calls.quiet_of_same (HYQ.out _)) | (go_at_call 67; with_reducible exact Calls.quiet_of_same (HZQ.out _))))
        go_wp2_with fail
        go_ret2
        refine ⟨?_, _, rfl⟩
        show Ending.returned (.tuple #[.int .u8 (bits BinOp.or IntKind.i64 ((a : Int) * 16) (b : Int) % 256), .int .i64 4]) = _
        rw [or_ab a b ha hb, HV.out.1, HV.out.2]
        rfl
  have c5 : (((s[1].toNat : Nat) : Int) == 120) = false := by simp; omega
  rw [if_neg a5] at hv
  have HV := Lib.hid hv
  clear hv a1 a2 a3 a4 a5
  go_enter Tryd.func61, Tryd.ntmps61
  go_wp2_with fail
  go_ret2
  exact ⟨by rw [← HV.out]; rfl, 0, rfl⟩
end Go.Proofs.YtphhokpbkcdljaaDoor
namespace Go.Proofs.YtphhokpbkcdljaaDoor
open Go Go.RowKit
def keysA : Array Value := #[.string ⟨#[97, 110, 100]⟩, .string ⟨#[97, 110, 100, 97, 108, 115, 111]⟩, .string ⟨#[99, 97, 115, 101]⟩, .string ⟨#[100, 97, 116, 97, 116, 121, 112, 101]⟩, .string ⟨#[100, 105, 118]⟩, .string ⟨#[101, 108, 115, 101]⟩, .string ⟨#[101, 110, 100]⟩, .string ⟨#[101, 120, 99, 101, 112, 116, 105, 111, 110]⟩, .string ⟨#[102, 110]⟩, .string ⟨#[102, 117, 110]⟩, .string ⟨#[104, 97, 110, 100, 108, 101]⟩, .string ⟨#[105, 102]⟩, .string ⟨#[105, 110]⟩, .string ⟨#[105, 116, 111, 115]⟩, .string ⟨#[108, 101, 116]⟩, .string ⟨#[109, 111, 100]⟩, .string ⟨#[110, 111, 116]⟩, .string ⟨#[111, 102]⟩, .string ⟨#[111, 114, 100]⟩, .string ⟨#[111, 114, 101, 108, 115, 101]⟩, .string ⟨#[114, 97, 105, 115, 101]⟩, .string ⟨#[114, 101, 102]⟩, .string ⟨#[115, 105, 122, 101]⟩, .string ⟨#[115, 116, 114]⟩, .string ⟨#[116, 104, 101, 110]⟩, .string ⟨#[118, 97, 108]⟩]
def capsA : Array Value := #[.string ⟨#[116, 114, 117, 101]⟩, .string ⟨#[102, 97, 108, 115, 101]⟩, .string ⟨#[110, 105, 108]⟩]
def signsA : Array Value := #[.string ⟨#[45, 62]⟩, .string ⟨#[61, 62]⟩, .string ⟨#[58, 58]⟩, .string ⟨#[58, 61]⟩, .string ⟨#[60, 61]⟩, .string ⟨#[62, 61]⟩, .string ⟨#[60, 62]⟩, .string ⟨#[61]⟩, .string ⟨#[60]⟩, .string ⟨#[62]⟩, .string ⟨#[43]⟩, .string ⟨#[45]⟩, .string ⟨#[42]⟩, .string ⟨#[94]⟩, .string ⟨#[33]⟩, .string ⟨#[126]⟩, .string ⟨#[40]⟩, .string ⟨#[41]⟩, .string ⟨#[44]⟩, .string ⟨#[59]⟩, .string ⟨#[124]⟩, .string ⟨#[95]⟩]
/-- the tables lie as the program lays them -/
structure LxT (w : World) : Prop where
  k : ∀ i x, keysA[i]? = some x → w.cell? ⟨0, i, none⟩ = some x
  c : ∀ i x, capsA[i]? = some x → w.cell? ⟨1, i, none⟩ = some x
  s : ∀ i x, signsA[i]? = some x → w.cell? ⟨2, i, none⟩ = some x
theorem LxT.stay {w w' : World} (h : LxT w) (hb : Below w.heap.size w w') : LxT w' :=
  ⟨fun i x q => (hb.cell (p := ⟨_, i, none⟩) (World.block_lt_of_cell? w _ (h.k i x q))).trans (h.k i x q), fun i x q => (hb.cell (p := ⟨_, i, none⟩) (World.block_lt_of_cell? w _ (h.c i x q))).trans (h.c i x q), fun i x q => (hb.cell (p := ⟨_, i, none⟩) (World.block_lt_of_cell? w _ (h.s i x q))).trans (h.s i x q)⟩
def keyN (k : Nat) : ByteArray := ⟨(keysL.getD k []).toArray⟩
def capN (k : Nat) : ByteArray := ⟨(capsL.getD k []).toArray⟩
def signN (k : Nat) : ByteArray := ⟨(signsL.getD k []).toArray⟩
theorem ix_keys (W : World) : ∀ k : Nat, k < 26 → (Instr.index 77 (.agg #[.string ⟨#[97, 110, 100]⟩, .string ⟨#[97, 110, 100, 97, 108, 115, 111]⟩, .string ⟨#[99, 97, 115, 101]⟩, .string ⟨#[100, 97, 116, 97, 116, 121, 112, 101]⟩, .string ⟨#[100, 105, 118]⟩, .string ⟨#[101, 108, 115, 101]⟩, .string ⟨#[101, 110, 100]⟩, .string ⟨#[101, 120, 99, 101, 112, 116, 105, 111, 110]⟩, .string ⟨#[102, 110]⟩, .string ⟨#[102, 117, 110]⟩, .string ⟨#[104, 97, 110, 100, 108, 101]⟩, .string ⟨#[105, 102]⟩, .string ⟨#[105, 110]⟩, .string ⟨#[105, 116, 111, 115]⟩, .string ⟨#[108, 101, 116]⟩, .string ⟨#[109, 111, 100]⟩, .string ⟨#[110, 111, 116]⟩, .string ⟨#[111, 102]⟩, .string ⟨#[111, 114, 100]⟩, .string ⟨#[111, 114, 101, 108, 115, 101]⟩, .string ⟨#[114, 97, 105, 115, 101]⟩, .string ⟨#[114, 101, 102]⟩, .string ⟨#[115, 105, 122, 101]⟩, .string ⟨#[115, 116, 114]⟩, .string ⟨#[116, 104, 101, 110]⟩, .string ⟨#[118, 97, 108]⟩]) (.int .i64 k)).run Tryd.prog W = .ok (.string (keyN k)) W
  | 0, _ => by kernel_rfl
  | 1, _ => by kernel_rfl
  | 2, _ => by kernel_rfl
  | 3, _ => by kernel_rfl
  | 4, _ => by kernel_rfl
  | 5, _ => by kernel_rfl
  | 6, _ => by kernel_rfl
  | 7, _ => by kernel_rfl
  | 8, _ => by kernel_rfl
  | 9, _ => by kernel_rfl
  | 10, _ => by kernel_rfl
  | 11, _ => by kernel_rfl
  | 12, _ => by kernel_rfl
  | 13, _ => by kernel_rfl
  | 14, _ => by kernel_rfl
  | 15, _ => by kernel_rfl
  | 16, _ => by kernel_rfl
  | 17, _ => by kernel_rfl
  | 18, _ => by kernel_rfl
  | 19, _ => by kernel_rfl
  | 20, _ => by kernel_rfl
  | 21, _ => by kernel_rfl
  | 22, _ => by kernel_rfl
  | 23, _ => by kernel_rfl
  | 24, _ => by kernel_rfl
  | 25, _ => by kernel_rfl
  | k + 26, h => absurd h (by omega)
theorem ix_caps (W : World) : ∀ k : Nat, k < 3 → (Instr.index 78 (.agg #[.string ⟨#[116, 114, 117, 101]⟩, .string ⟨#[102, 97, 108, 115, 101]⟩, .string ⟨#[110, 105, 108]⟩]) (.int .i64 k)).run Tryd.prog W = .ok (.string (capN k)) W
  | 0, _ => by kernel_rfl
  | 1, _ => by kernel_rfl
  | 2, _ => by kernel_rfl
  | k + 3, h => absurd h (by omega)
theorem ix_signs (W : World) : ∀ k : Nat, k < 22 → (Instr.index 79 (.agg #[.string ⟨#[45, 62]⟩, .string ⟨#[61, 62]⟩, .string ⟨#[58, 58]⟩, .string ⟨#[58, 61]⟩, .string ⟨#[60, 61]⟩, .string ⟨#[62, 61]⟩, .string ⟨#[60, 62]⟩, .string ⟨#[61]⟩, .string ⟨#[60]⟩, .string ⟨#[62]⟩, .string ⟨#[43]⟩, .string ⟨#[45]⟩, .string ⟨#[42]⟩, .string ⟨#[94]⟩, .string ⟨#[33]⟩, .string ⟨#[126]⟩, .string ⟨#[40]⟩, .string ⟨#[41]⟩, .string ⟨#[44]⟩, .string ⟨#[59]⟩, .string ⟨#[124]⟩, .string ⟨#[95]⟩]) (.int .i64 k)).run Tryd.prog W = .ok (.string (signN k)) W
  | 0, _ => by kernel_rfl
  | 1, _ => by kernel_rfl
  | 2, _ => by kernel_rfl
  | 3, _ => by kernel_rfl
  | 4, _ => by kernel_rfl
  | 5, _ => by kernel_rfl
  | 6, _ => by kernel_rfl
  | 7, _ => by kernel_rfl
  | 8, _ => by kernel_rfl
  | 9, _ => by kernel_rfl
  | 10, _ => by kernel_rfl
  | 11, _ => by kernel_rfl
  | 12, _ => by kernel_rfl
  | 13, _ => by kernel_rfl
  | 14, _ => by kernel_rfl
  | 15, _ => by kernel_rfl
  | 16, _ => by kernel_rfl
  | 17, _ => by kernel_rfl
  | 18, _ => by kernel_rfl
  | 19, _ => by kernel_rfl
  | 20, _ => by kernel_rfl
  | 21, _ => by kernel_rfl
  | k + 22, h => absurd h (by omega)
theorem toL_of (l : List UInt8) : (⟨l.toArray⟩ : ByteArray).toList = l := by rw [Lib.toList_data]
theorem getD_at {L : List (List UInt8)} {k : Nat} (h : k < L.length) : L[k]? = some (L.getD k []) := by
  rw [List.getD_eq_getElem?_getD, List.getElem?_eq_getElem h]; rfl
/-- not among the words from k on -/
theorem drop_mem {L : List (List UInt8)} {k : Nat} (h : k < L.length) (x : List UInt8) : x ∈ L.drop k ↔ x = L.getD k [] ∨ x ∈ L.drop (k + 1) := by
  rw [List.drop_eq_getElem_cons h, List.mem_cons]
  rw [List.getD_eq_getElem?_getD, List.getElem?_eq_getElem h]
  rfl
/-- the table as one value: its load, and its words -/
theorem keys_at (w : World) (hT : LxT w) : ∃ cs : List Value, w.rangeAt 0 0 cs ∧ cs.length = 26 ∧ ∀ k : Nat, k < 26 → ∀ W, (Instr.index 77 (.agg cs.toArray) (.int .i64 k)).run Tryd.prog W = .ok (.string (keyN k)) W :=
  ⟨keysA.toList, fun j v h => by rw [Nat.zero_add]; exact hT.k j v (by simpa using h), rfl, fun k hk W => ix_keys W k hk⟩
/-- the table as one value: its load, and its words -/
theorem caps_at (w : World) (hT : LxT w) : ∃ cs : List Value, w.rangeAt 1 0 cs ∧ cs.length = 3 ∧ ∀ k : Nat, k < 3 → ∀ W, (Instr.index 78 (.agg cs.toArray) (.int .i64 k)).run Tryd.prog W = .ok (.string (capN k)) W :=
  ⟨capsA.toList, fun j v h => by rw [Nat.zero_add]; exact hT.c j v (by simpa using h), rfl, fun k hk W => ix_caps W k hk⟩
/-- the table as one value: its load, and its words -/
theorem signs_at (w : World) (hT : LxT w) : ∃ cs : List Value, w.rangeAt 2 0 cs ∧ cs.length = 22 ∧ ∀ k : Nat, k < 22 → ∀ W, (Instr.index 79 (.agg cs.toArray) (.int .i64 k)).run Tryd.prog W = .ok (.string (signN k)) W :=
  ⟨signsA.toList, fun j v h => by rw [Nat.zero_add]; exact hT.s j v (by simpa using h), rfl, fun k hk W => ix_signs W k hk⟩
theorem infoS26 : (Tryd.prog.info? 77).map (·.size) = some 26 := by kernel_rfl
theorem infoS3 : (Tryd.prog.info? 78).map (·.size) = some 3 := by kernel_rfl
theorem infoS22 : (Tryd.prog.info? 79).map (·.size) = some 22 := by kernel_rfl
end Go.Proofs.YtphhokpbkcdljaaDoor
namespace Go.Proofs.YtphhokpbkcdljaaDoor
open Go Go.RowKit
/-- what cutText answers, so many bytes being read -/
def ctV (q : Nat) (out : List UInt8) (o : Option (List UInt8 × Nat)) : Value := match o with
  | some y => .tuple #[tokA ⟨2, out ++ y.1, 0⟩ 0, .int .i64 ((q + y.2 : Nat) : Int), .bool true]
  | none => .tuple #[tokNil, .int .i64 0, .bool false]
theorem ct_none {q : Nat} {out l : List UInt8} (h34 : l.headD 0 ≠ 34) (h : sgn l = none) : ctV q out (txt l) = .tuple #[tokNil, .int .i64 0, .bool false] := by
  rw [txt_cons h34, h]; rfl
theorem ct_step {q : Nat} {out l : List UInt8} {x : UInt8 × Nat} (h34 : l.headD 0 ≠ 34) (h : sgn l = some x) : ctV q out (txt l) = ctV (q + x.2) (out ++ [x.1]) (txt (l.drop x.2)) := by
  rw [txt_cons h34, h]
  simp only
  cases txt (l.drop x.2) with
  | none => rfl
  | some y =>
    show Value.tuple #[tokA ⟨2, out ++ x.1 :: y.1, 0⟩ 0, .int .i64 ((q + (y.2 + x.2) : Nat) : Int), .bool true] = Value.tuple #[tokA ⟨2, out ++ [x.1] ++ y.1, 0⟩ 0, .int .i64 ((q + x.2 + y.2 : Nat) : Int), .bool true]
    rw [List.append_assoc, show q + (y.2 + x.2) = q + x.2 + y.2 by omega]
    rfl
theorem ct_end {q : Nat} {out l : List UInt8} (h34 : l.headD 0 = 34) : ctV q out (txt l) = .tuple #[tokA ⟨2, out, 0⟩ 0, .int .i64 ((q + 1 : Nat) : Int), .bool true] := by
  rw [txt, if_pos h34]
  show Value.tuple #[tokA ⟨2, out ++ [], 0⟩ 0, _, _] = _
  rw [List.append_nil]
theorem ct_nil {q : Nat} {out : List UInt8} : ctV q out (txt []) = .tuple #[tokNil, .int .i64 0, .bool false] := by rw [txt_nil]; rfl
structure CT (w : World) (k : Nat) (out : List UInt8) (v : Value) (wr : World) : Prop where
  row : wr.ownsRow (w.heap.size + 1) 5 1 v out.length (u8s out)
  len : out.length ≤ k
  fr : Below (w.heap.size + 1) (w.alloc (.cells #[.int .i64 0, .string ⟨#[]⟩, .int .i64 0, .int .i64 0] 32)) wr
theorem CT.box {w : World} {k : Nat} {out : List UInt8} {v : Value} {wr : World} (h : CT w k out v wr) : wr.heap[w.heap.size]? = some (.cells #[.int .i64 0, .string ⟨#[]⟩, .int .i64 0, .int .i64 0] 32 (0, 0)) :=
  (h.fr.block _ (Nat.lt_succ_self _)).trans (heap_alloc_new w _)
theorem CT.below {w : World} {k : Nat} {out : List UInt8} {v : Value} {wr : World} (h : CT w k out v wr) : Below w.heap.size w wr :=
  (below_oneL w _).trans (h.fr.mono (Nat.le_succ _))
set_option maxRecDepth 100000 in
set_option maxHeartbeats 16000000 in
theorem cuttext_any (s : ByteArray) (hs : s.size ≤ 1000000) (k : Nat) (hk : k < s.size) (w : World) :
    Calls Tryd.prog 41 #[.string s, .int .i64 (k : Int)] w fun e w' => e = .returned (ctV (k + 1) [] (txt (s.data.toList.drop (k + 1)))) ∧ Below w.heap.size w w' := by
  obtain ⟨i0, hi, hz0, hz1, hz2⟩ := info_parts infoU8L
  obtain ⟨res, hr⟩ : ∃ res, ctV (k + 1) [] (txt (s.data.toList.drop (k + 1))) = res := ⟨_, rfl⟩
  rw [hr]
  have HR := Lib.hid hr
  clear hr
  have HC := Lib.hid (show CT w (k + 1) [] (.slice none 0 0) (w.alloc (.cells #[.int .i64 0, .string ⟨#[]⟩, .int .i64 0, .int .i64 0] 32)) from ⟨World.ownsRow_nil _ _ _ _, by simp, Below.refl _ _⟩)
  go_enter Tryd.func41, Tryd.ntmps41
  go_wp2_with fail
  go_loopw [1, 7] (fun i v wr => ∃ (q : Nat) (out : List UInt8), 1 ≤ q ∧ q ≤ s.size ∧ i = .int .i64 q ∧ CT w q out v wr ∧ ctV q out (txt (s.data.toList.drop q)) = res) (fun i _ _ => s.size - (intOf i).toNat)
  case atStart => exact ⟨k + 1, [], by omega, by omega, by go_num, HC.out, HR.out⟩
  case round =>
    clear hk
    obtain ⟨q, out, hq1, hq, rfl, hct, hres⟩ := hrel
    obtain ⟨va, vc, rfl⟩ := ownsRow_shapeL hct.row
    have HX := Lib.hid hct
    have hol := hct.len
    obtain ⟨L, hL⟩ : ∃ L, out.length = L := ⟨_, rfl⟩
    rw [hL] at hol ⊢
    have HL := Lib.hid hL
    have hrow := hct.row
    rw [hL] at hrow
    have HROW := Lib.hid hrow
    clear hL hrow hct
    have hq0 : (0 : Int) ≤ q := by omega
    have hqs : (q : Int) ≤ s.size := by omega
    by_cases hlt : q < s.size
    · have hdr := drop_cons s hlt
      have p0 : (0 : Int) ≤ (s[q].toNat : Int) := by omega
      have p1 : (s[q].toNat : Int) ≤ 255 := by have := s[q].toNat_lt; omega
      by_cases hc : s[q].toNat = 34
      · have hB : (((s[q].toNat : Nat) : Int) != 34) = false := by rw [hc]; rfl
        have h34 : (s.data.toList.drop q).headD 0 = 34 := by rw [hdr]; exact UInt8.toNat_inj.1 (by rw [List.headD_cons, hc]; rfl)
        rw [ct_end h34] at hres
        have HRES := Lib.hid hres
        have hcv0 : (convert 30 9 (.slice va L vc)).run Tryd.prog wr = .ok (.string ⟨out.toArray⟩) wr := own_text HL.out HROW.out
        have r0 := blk_cellL HX.out.box 0
        have r1 := blk_cellL HX.out.box 1
        have r2 := blk_cellL HX.out.box 2
        have r3 := blk_cellL HX.out.box 3
        have g1 := blk_freeL HX.out.box
        clear hres hdr h34 hc
        go_wp2_with fail
        have hs4 := tok_set HX.out.box (.int .i64 2) (.string ⟨out.toArray⟩) (.int .i64 0) (.int .i64 0)
        have hs5 := tok_below HX.out.below (Nat.le_refl _) (.int .i64 2) (.string ⟨out.toArray⟩) (.int .i64 0) (.int .i64 0)
        clear r0 r1 r2 r3 g1
        generalize World.setCell (World.setCell (World.setCell (World.setCell _ _ _) _ _) _ _) _ _ = W4 at hs4 hs5 ⊢
        have f0 := blk_cellL hs4 0
        have f1 := blk_cellL hs4 1
        have f2 := blk_cellL hs4 2
        have f3 := blk_cellL hs4 3
        exact bodyPost_ret (v := .tuple #[.agg #[.int .i64 2, .string ⟨out.toArray⟩, .int .i64 0, .int .i64 0], .int .i64 ((q : Int) + 1), .bool true]) (by simp [results, Tryd.results41, go_sem, f0, f1, f2, f3]) rfl ⟨by rw [← HRES.out]; rfl, hs5⟩
      · have hB : (((s[q].toNat : Nat) : Int) != 34) = true := by simp; omega
        have h34 : (s.data.toList.drop q).headD 0 ≠ 34 := by
          rw [hdr]
          intro e
          exact hc (by rw [List.headD_cons] at e; rw [e]; rfl)
        have hse : 0 < (s.extract q s.size).size := by rw [ByteArray.size_extract]; omega
        have hhd : (s.extract q s.size)[0].toNat ≠ 34 := by
          intro e
          apply h34
          rw [← ext_drop]
          have h5 := drop_cons (s.extract q s.size) hse
          rw [List.drop_zero] at h5
          rw [h5]
          exact UInt8.toNat_inj.1 (by rw [List.headD_cons, e]; rfl)
        have hsg := letter_any (s.extract q s.size) (by rw [ByteArray.size_extract]; omega) hse hhd wr
        rw [ext_drop] at hsg
        cases e : sgn (s.data.toList.drop q) with
        | none =>
          have hv : sgnV (s.data.toList.drop q) = (0, 0) := by unfold sgnV; rw [e]
          rw [hv] at hsg
          rw [ct_none h34 e] at hres
          have HRES := Lib.hid hres
          have HSG := Lib.hid (show Calls _ _ _ wr (fun e w' => e = .returned (.tuple #[.int .u8 0, .int .i64 0]) ∧ ∃ n, w' = wr.drewN n) from hsg)
          clear hsg hv e hres hdr h34 hc hse hhd
          go_wp2_with fail
          refine (HSG.out).mono ?_
          rintro e w1 ⟨rfl, q1, hw1⟩
          have HX1 := Lib.hid (show CT w q out (.slice va L vc) w1 from by rw [hw1]; exact ⟨by rw [HL.out]; exact HROW.out, HX.out.len, drewL HX.out.fr q1⟩)
          have r0 := blk_cellL HX1.out.box 0
          have r1 := blk_cellL HX1.out.box 1
          have r2 := blk_cellL HX1.out.box 2
          have r3 := blk_cellL HX1.out.box 3
          have g1 := blk_freeL HX1.out.box
          clear hw1
          go_wp2_with fail
          have hs4 := tok_set HX1.out.box (.int .i64 0) (.string ⟨#[]⟩) (.int .i64 0) (.int .i64 0)
          have hs5 := tok_below HX1.out.below (Nat.le_refl _) (.int .i64 0) (.string ⟨#[]⟩) (.int .i64 0) (.int .i64 0)
          clear r0 r1 r2 r3 g1
          generalize World.setCell (World.setCell (World.setCell (World.setCell _ _ _) _ _) _ _) _ _ = W4 at hs4 hs5 ⊢
          have f0 := blk_cellL hs4 0
          have f1 := blk_cellL hs4 1
          have f2 := blk_cellL hs4 2
          have f3 := blk_cellL hs4 3
          exact bodyPost_ret (v := .tuple #[.agg #[.int .i64 0, .string ⟨#[]⟩, .int .i64 0, .int .i64 0], .int .i64 0, .bool false]) (by simp [results, Tryd.results41, go_sem, f0, f1, f2, f3]) rfl ⟨by rw [← HRES.out]; rfl, hs5⟩
        | some x =>
          have hv : sgnV (s.data.toList.drop q) = x := by unfold sgnV; rw [e]
          rw [hv] at hsg
          have hp := sgn_pos e
          rw [List.length_drop, len_data] at hp
          rw [ct_step h34 e, List.drop_drop] at hres
          obtain ⟨c, n⟩ := x
          simp only at hsg hp hres
          have HSG := Lib.hid hsg
          have HRES := Lib.hid hres
          have hnB : ((n : Int) == 0) = false := by simp; omega
          have hn4 : (n : Int) ≤ 4 := by omega
          have hc0 : (0 : Int) ≤ (c.toNat : Int) := by omega
          have hc1 : (c.toNat : Int) ≤ 255 := by have := c.toNat_lt; omega
          have hkn : q + n ≤ s.size := by omega
          have hn1 : 1 ≤ n := hp.1
          clear hsg hv e hp hres hdr h34 hc hse hhd
          go_wp2_with fail
          refine (HSG.out).mono ?_
          rintro e w1 ⟨rfl, q1, hw1⟩
          have HX1 := Lib.hid (show CT w q out (.slice va L vc) w1 from by rw [hw1]; exact ⟨by rw [HL.out]; exact HROW.out, HX.out.len, drewL HX.out.fr q1⟩)
          have HROW1 := Lib.hid (show w1.ownsRow (w.heap.size + 1) 5 1 (.slice va L vc) L (u8s out) from by rw [hw1]; exact HROW.out)
          have hs1 : w.heap.size + 1 ≤ w1.heap.size := by have := HX1.out.fr.size; rwa [World.size_alloc] at this
          clear hw1
          go_wp2_with (at_builtin; refine wpList_append_own_at _ rfl _ _ 30 rfl (w.heap.size + 1) 5 i0 (.int .u8 0) 1 1 Tryd.underlying30 hi hz0 hz1 hz2 rfl (by decide) (.slice va L vc) _ _ rfl (HROW1.out.alloc _) ⟨w1.heap.size, 0, none⟩ 1 1 [.int .u8 (c.toNat : Int)] rfl rfl (cell_one_new _ _ _) (by simp [Value.oneCell']) (by unfold maxLen; omega) (by omega) (by simp; omega) ?_; intro v7 w7 hown7 hgrow7 _ hblk7; rw [u8s_one] at hown7; have HI7 := Lib.hid (show CT w (q + n) (out ++ [c]) v7 w7 from ⟨by rw [List.length_append, HL.out]; exact hown7, by rw [List.length_append, HL.out]; simp; omega, (HX1.out.fr.alloc hs1 _).grown hgrow7 (by simp; omega) (fun j hj => (HROW1.out.lt j hj).1)⟩); clear hown7 hgrow7 hblk7)
          exact ⟨⟨q + n, out ++ [c], by omega, hkn, by go_num, HI7.out, HRES.out⟩, by simp [intOf]; omega⟩
    · rw [drop_end s (by omega), ct_nil] at hres
      have HRES := Lib.hid hres
      have r0 := blk_cellL HX.out.box 0
      have r1 := blk_cellL HX.out.box 1
      have r2 := blk_cellL HX.out.box 2
      have r3 := blk_cellL HX.out.box 3
      have g1 := blk_freeL HX.out.box
      clear hres
      go_wp2_with fail
      have hs4 := tok_set HX.out.box (.int .i64 0) (.string ⟨#[]⟩) (.int .i64 0) (.int .i64 0)
      have hs5 := tok_below HX.out.below (Nat.le_refl _) (.int .i64 0) (.string ⟨#[]⟩) (.int .i64 0) (.int .i64 0)
      clear r0 r1 r2 r3 g1
      generalize World.setCell (World.setCell (World.setCell (World.setCell _ _ _) _ _) _ _) _ _ = W4 at hs4 hs5 ⊢
      have f0 := blk_cellL hs4 0
      have f1 := blk_cellL hs4 1
      have f2 := blk_cellL hs4 2
      have f3 := blk_cellL hs4 3
      exact bodyPost_ret (v := .tuple #[.agg #[.int .i64 0, .string ⟨#[]⟩, .int .i64 0, .int .i64 0], .int .i64 0, .bool false]) (by simp [results, Tryd.results41, go_sem, f0, f1, f2, f3]) rfl ⟨by rw [← HRES.out]; rfl, hs5⟩
end Go.Proofs.YtphhokpbkcdljaaDoor
namespace Go.Proofs.YtphhokpbkcdljaaDoor
open Go Go.RowKit
set_option maxRecDepth 100000 in
set_option maxHeartbeats 8000000 in
theorem kindof_any (s : ByteArray) (h0 : 0 < s.size) (w : World) (hT : LxT w) :
    Calls Tryd.prog 45 #[.string s] w fun e w' => e = .returned (.int .i64 ((kindW s.data.toList : Nat) : Int)) ∧ w' = w := by
  obtain ⟨K, hK⟩ : ∃ K, kindW s.data.toList = K := ⟨_, rfl⟩
  rw [hK]
  have HK := Lib.hid hK
  clear hK
  obtain ⟨KV, hlk, hnk, hik⟩ := keys_at w hT
  obtain ⟨CV, hlc, hnc, hic⟩ := caps_at w hT
  have HLK := Lib.hid hlk
  have HLC := Lib.hid hlc
  have HIK := Lib.hid hik
  have HIC := Lib.hid hic
  have HNK := Lib.hid (show (Tryd.prog.info? 77).map (·.size) = some KV.length from by rw [hnk]; exact infoS26)
  have HNC := Lib.hid (show (Tryd.prog.info? 78).map (·.size) = some CV.length from by rw [hnc]; exact infoS3)
  clear hlk hlc hik hic hnk hnc
  have HX := Lib.hid hT
  clear hT
  go_enter Tryd.func45, Tryd.ntmps45
  go_wp2_with (refine wpList_load_mid rfl 77 _ rfl 0 0 rfl KV _ HLK.out Tryd.underlying77 rfl HNK.out ?_)
  go_loop [8] (fun i => ∃ k : Nat, k ≤ 26 ∧ i = .int .i64 k ∧ (s.data.toList ∈ keysL ↔ s.data.toList ∈ keysL.drop k)) (fun i => 26 - (intOf i).toNat)
  case atStart => exact ⟨0, Nat.zero_le _, rfl, by rw [List.drop_zero]⟩
  case round =>
    obtain ⟨k, hk, rfl, hm⟩ := hrel
    by_cases hlt : k < 26
    · rw [drop_mem (L := keysL) hlt] at hm
      have hix := fun W => HIK.out k hlt W
      by_cases he : s.data.toList = keysL.getD k []
      · have hB : ((keyN k).toList == s.toList) = true := by
          unfold keyN
          rw [toL_of, Lib.toList_data, he]; simp
        have HE := Lib.hid (show K = 6 from by
          rw [← HK.out, kindW, if_pos (hm.2 (.inl he))])
        generalize keyN k = kn at hix hB
        clear he hm
        go_wp2_with fail
        go_ret
        exact ⟨ret_intL (by rw [HE.out]; rfl), rfl⟩
      · have hB : ((keyN k).toList == s.toList) = false := by
          unfold keyN
          rw [toL_of, Lib.toList_data, beq_eq_false_iff_ne]
          exact fun q => he q.symm
        have HM := Lib.hid (show s.data.toList ∈ keysL ↔ s.data.toList ∈ keysL.drop (k + 1) from hm.trans ⟨fun q => q.resolve_left he, .inr⟩)
        generalize keyN k = kn at hix hB
        clear he hm
        go_wp2_with fail
        exact ⟨⟨k + 1, hlt, by go_num, HM.out⟩, by simp [intOf]; omega⟩
    · obtain rfl : k = 26 := by omega
      have HN := Lib.hid (show s.data.toList ∉ keysL from fun q => by have := hm.1 q; simp [keysL] at this)
      clear hm
      go_wp2_with (refine wpList_load_mid rfl 78 _ rfl 1 0 rfl CV _ HLC.out Tryd.underlying78 rfl HNC.out ?_)
      go_loop [16] (fun i => ∃ k : Nat, k ≤ 3 ∧ i = .int .i64 k ∧ (s.data.toList ∈ capsL ↔ s.data.toList ∈ capsL.drop k)) (fun i => 3 - (intOf i).toNat)
      case atStart => exact ⟨0, Nat.zero_le _, rfl, by rw [List.drop_zero]⟩
      case round =>
        obtain ⟨k, hk, rfl, hm⟩ := hrel
        by_cases hlt : k < 3
        · rw [drop_mem (L := capsL) hlt] at hm
          have hix := fun W => HIC.out k hlt W
          by_cases he : s.data.toList = capsL.getD k []
          · have hB : ((capN k).toList == s.toList) = true := by
              unfold capN
              rw [toL_of, Lib.toList_data, he]; simp
            have HE := Lib.hid (show K = 4 from by
              rw [← HK.out, kindW, if_neg HN.out, if_pos (.inr (hm.2 (.inl he)))])
            generalize capN k = kn at hix hB
            clear he hm
            go_wp2_with fail
            go_ret
            exact ⟨ret_intL (by rw [HE.out]; rfl), rfl⟩
          · have hB : ((capN k).toList == s.toList) = false := by
              unfold capN
              rw [toL_of, Lib.toList_data, beq_eq_false_iff_ne]
              exact fun q => he q.symm
            have HM := Lib.hid (show s.data.toList ∈ capsL ↔ s.data.toList ∈ capsL.drop (k + 1) from hm.trans ⟨fun q => q.resolve_left he, .inr⟩)
            generalize capN k = kn at hix hB
            clear he hm
            go_wp2_with fail
            exact ⟨⟨k + 1, hlt, by go_num, HM.out⟩, by simp [intOf]; omega⟩
        · obtain rfl : k = 3 := by omega
          have HN2 := Lib.hid (show s.data.toList ∉ capsL from fun q => by have := hm.1 q; simp [capsL] at this)
          have HG := Lib.hid (isLg_any s[0])
          have hl : s.data.toList.headD 0 = s[0] := by
            have h5 := drop_cons s h0
            rw [List.drop_zero] at h5
            rw [h5]; rfl
          cases hg : isLg s[0] with
          | true =>
            have HE := Lib.hid (show K = 4 from by rw [← HK.out, kindW, if_neg HN.out, if_pos (.inl (by rw [hl]; exact hg))])
            rw [hg] at HG
            clear hm hl hg
            go_wp2_with fail
            refine (HG.out _).mono ?_
            rintro e w1 ⟨rfl, hw1⟩
            subst w1
            go_wp2_with fail
            go_ret
            exact ⟨ret_intL (by rw [HE.out]; rfl), rfl⟩
          | false =>
            have HE := Lib.hid (show K = 3 from by
              rw [← HK.out, kindW, if_neg HN.out, if_neg]
              rintro (q | q)
              · rw [hl, hg] at q; cases q
              · exact HN2.out q)
            rw [hg] at HG
            clear hm hl hg
            go_wp2_with fail
            refine (HG.out _).mono ?_
            rintro e w1 ⟨rfl, hw1⟩
            subst w1
            go_wp2_with fail
            go_ret
            exact ⟨ret_intL (by rw [HE.out]; rfl), rfl⟩
end Go.Proofs.YtphhokpbkcdljaaDoor
namespace Go.Proofs.YtphhokpbkcdljaaDoor
open Go Go.RowKit
def sgP (l : List UInt8) (k : Nat) : ByteArray := match (signsL.drop k).find? fun s => decide (l.take s.length = s) with
  | some x => ⟨x.toArray⟩
  | none => ⟨#[]⟩
theorem sgP_zero (l : List UInt8) : sgP l 0 = match signP l with
  | some x => ⟨x.toArray⟩
  | none => ⟨#[]⟩ := rfl
theorem sgP_step {l : List UInt8} {k : Nat} (h : k < 22) : sgP l k = if l.take (signsL.getD k []).length = signsL.getD k [] then signN k else sgP l (k + 1) := by
  have hd : signsL.drop k = signsL.getD k [] :: signsL.drop (k + 1) := by
    rw [List.drop_eq_getElem_cons (show k < signsL.length from h), List.getD_eq_getElem?_getD, List.getElem?_eq_getElem (show k < signsL.length from h)]
    rfl
  unfold sgP
  rw [hd, List.find?_cons]
  by_cases q : l.take (signsL.getD k []).length = signsL.getD k []
  · rw [decide_eq_true q, if_pos q]; rfl
  · rw [decide_eq_false q, if_neg q]
theorem sgP_end (l : List UInt8) : sgP l 22 = ⟨#[]⟩ := rfl
set_option maxRecDepth 100000 in
set_option maxHeartbeats 8000000 in
theorem sign_any (s : ByteArray) (w : World) (hT : LxT w) :
    Calls Tryd.prog 46 #[.string s] w fun e w' => e = .returned (.string (sgP s.data.toList 0)) ∧ w' = w := by
  obtain ⟨R, hR⟩ : ∃ R, sgP s.data.toList 0 = R := ⟨_, rfl⟩
  rw [hR]
  obtain ⟨KV, hlk, hnk, hik⟩ := signs_at w hT
  have HLK := Lib.hid hlk
  have HIK := Lib.hid hik
  have HNK := Lib.hid (show (Tryd.prog.info? 79).map (·.size) = some KV.length from by rw [hnk]; exact infoS22)
  have HR := Lib.hid hR
  clear hlk hik hnk hR hT
  go_enter Tryd.func46, Tryd.ntmps46
  go_wp2_with fail
  go_step3
  go_wp2_with fail
  go_step3
  go_wp2_with (refine wpList_load_mid rfl 79 _ rfl 2 0 rfl KV _ HLK.out Tryd.underlying79 rfl HNK.out ?_)
  go_loop [3, 7] (fun f i => ∃ k : Nat, k ≤ 22 ∧ f = .string ⟨#[]⟩ ∧ i = .int .i64 k ∧ sgP s.data.toList k = R) (fun _ i => 22 - (intOf i).toNat)
  case atStart => exact ⟨0, Nat.zero_le _, rfl, rfl, HR.out⟩
  case round =>
    obtain ⟨k, hk, rfl, rfl, hm⟩ := hrel
    by_cases hlt : k < 22
    · rw [sgP_step hlt] at hm
      have hix := fun W => HIK.out k hlt W
      have hp := Tryd.strings_HasPrefix s (signN k)
      have hpl : (signN k).data.toList = signsL.getD k [] := by unfold signN; simp
      rw [hpl] at hp
      by_cases he : s.data.toList.take (signsL.getD k []).length = signsL.getD k []
      · have hb : Lib.hasPrefix s.data.toList (signsL.getD k []) = true := by
          unfold Lib.hasPrefix
          rw [List.isPrefixOf_iff_prefix, List.prefix_iff_eq_take]
          exact he.symm
        rw [if_pos he] at hm
        rw [hb] at hp
        have HP := Lib.hid hp
        have HM := Lib.hid hm
        generalize signN k = kn at hix HP HM
        clear he hm hb hpl hp
        go_wp2_with fail
        refine (HP.out _).mono ?_
        rintro e w1 ⟨rfl, hw1⟩
        subst w1
        go_wp2_with fail
        rw [Exit.noGoto_ret]
        go_ret
        exact ⟨by rw [← HM.out]; rfl, rfl⟩
      · have hb : Lib.hasPrefix s.data.toList (signsL.getD k []) = false := by
          cases e : Lib.hasPrefix s.data.toList (signsL.getD k []) with
          | false => rfl
          | true =>
            unfold Lib.hasPrefix at e
            rw [List.isPrefixOf_iff_prefix, List.prefix_iff_eq_take] at e
            exact absurd e.symm he
        rw [if_neg he] at hm
        rw [hb] at hp
        have HP := Lib.hid hp
        have HM := Lib.hid hm
        generalize signN k = kn at hix HP
        clear he hm hb hpl hp
        go_wp2_with fail
        refine (HP.out _).mono ?_
        rintro e w1 ⟨rfl, hw1⟩
        subst w1
        go_wp2_with fail
        exact ⟨⟨k + 1, hlt, rfl, by go_num, HM.out⟩, by simp [intOf]; omega⟩
    · obtain rfl : k = 22 := by omega
      rw [sgP_end] at hm
      have HM := Lib.hid hm
      clear hm
      go_wp2_with fail
      go_ret
      exact ⟨by rw [← HM.out]; rfl, rfl⟩
end Go.Proofs.YtphhokpbkcdljaaDoor
namespace Go.Proofs.YtphhokpbkcdljaaDoor
open Go Go.RowKit
def cmV (q : Nat) (o : Option Nat) : Value := match o with
  | some n => .tuple #[.int .i64 ((q + n : Nat) : Int), .bool true]
  | none => .tuple #[.int .i64 0, .bool false]
theorem cmV_map (q m : Nat) (o : Option Nat) : cmV q (o.map (· + m)) = cmV (q + m) o := by
  cases o with
  | none => rfl
  | some n => show Value.tuple #[.int .i64 ((q + (n + m) : Nat) : Int), .bool true] = Value.tuple #[.int .i64 ((q + m + n : Nat) : Int), .bool true]; rw [show q + (n + m) = q + m + n by omega]
theorem pre_two (l : List UInt8) (a b : UInt8) : Lib.hasPrefix l [a, b] = decide (l.take 2 = [a, b]) := by
  unfold Lib.hasPrefix
  cases e : List.isPrefixOf [a, b] l with
  | true =>
    rw [List.isPrefixOf_iff_prefix, List.prefix_iff_eq_take] at e
    exact (decide_eq_true e.symm).symm
  | false =>
    refine (decide_eq_false fun q => ?_).symm
    have : List.isPrefixOf [a, b] l = true := by rw [List.isPrefixOf_iff_prefix, List.prefix_iff_eq_take]; exact q.symm
    rw [e] at this; cases this
theorem two_len {s : ByteArray} {q : Nat} {a b : UInt8} (h : (s.data.toList.drop q).take 2 = [a, b]) : q + 2 ≤ s.size := by
  have := congrArg List.length h
  rw [List.length_take, List.length_drop] at this
  simp at this
  omega
set_option maxRecDepth 100000 in
set_option maxHeartbeats 8000000 in
theorem comment_any (s : ByteArray) (hs : s.size ≤ 140737488351232) (k : Nat) (hk : (s.data.toList.drop k).take 2 = [40, 42]) (w : World) :
    Calls Tryd.prog 38 #[.string s, .int .i64 (k : Int)] w fun e w' => e = .returned (cmV (k + 2) (com (s.data.toList.drop (k + 2)) 1)) ∧ w' = w := by
  obtain ⟨R, hR⟩ : ∃ R, cmV (k + 2) (com (s.data.toList.drop (k + 2)) 1) = R := ⟨_, rfl⟩
  rw [hR]
  have HR := Lib.hid hR
  have HK := Lib.hid hk
  have hk2 := two_len hk
  clear hR hk
  go_enter Tryd.func38, Tryd.ntmps38
  go_wp2_with fail
  go_loop [1, 6] (fun i o => ∃ (q d : Nat), q ≤ s.size ∧ i = .int .i64 q ∧ o = .int .i64 d ∧ d ≤ q ∧ ((d = 0 ∧ q = k) ∨ (1 ≤ d ∧ cmV q (com (s.data.toList.drop q) d) = R))) (fun i _ => s.size - (intOf i).toNat)
  case atStart => exact ⟨k, 0, by omega, rfl, rfl, Nat.zero_le _, .inl ⟨rfl, rfl⟩⟩
  case round =>
    obtain ⟨q, d, hq, rfl, rfl, hdq, hm⟩ := hrel
    have hq0 : (0 : Int) ≤ q := by omega
    have hqs : (q : Int) ≤ s.size := by omega
    by_cases hlt : q < s.size
    · have h1 := Tryd.strings_HasPrefix (s.extract q s.size) ⟨#[40, 42]⟩
      have h2 := Tryd.strings_HasPrefix (s.extract q s.size) ⟨#[42, 41]⟩
      rw [show (s.extract q s.size).data.toList = s.data.toList.drop q from Lib.extract_to_end s q, show (⟨#[40, 42]⟩ : ByteArray).data.toList = [40, 42] from rfl, pre_two] at h1
      rw [show (s.extract q s.size).data.toList = s.data.toList.drop q from Lib.extract_to_end s q, show (⟨#[42, 41]⟩ : ByteArray).data.toList = [42, 41] from rfl, pre_two] at h2
      by_cases ho : (s.data.toList.drop q).take 2 = [40, 42]
      · rw [decide_eq_true ho] at h1
        have HP := Lib.hid h1
        have hq2 := two_len ho
        have HM := Lib.hid (show cmV (q + 2) (com (s.data.toList.drop (q + 2)) (d + 1)) = R from by
          rcases hm with ⟨rfl, rfl⟩ | ⟨_, hm⟩
          · exact HR.out
          · rw [com_open ho, cmV_map, List.drop_drop] at hm; exact hm)
        clear hm h1 h2 ho
        go_wp2_with fail
        refine (HP.out _).mono ?_
        rintro e w1 ⟨rfl, hw1⟩
        subst w1
        go_wp2_with fail
        exact ⟨⟨q + 2, d + 1, hq2, by go_num, by go_num, by omega, .inr ⟨by omega, HM.out⟩⟩, by simp [intOf]; omega⟩
      · rw [decide_eq_false ho] at h1
        have HP := Lib.hid h1
        have hm2 : 1 ≤ d ∧ cmV q (com (s.data.toList.drop q) d) = R := by
          rcases hm with ⟨rfl, rfl⟩ | hm
          · exact absurd HK.out ho
          · exact hm
        obtain ⟨hd1, hm2⟩ := hm2
        by_cases hc : (s.data.toList.drop q).take 2 = [42, 41]
        · rw [decide_eq_true hc] at h2
          have HP2 := Lib.hid h2
          have hq2 := two_len hc
          rw [com_close hc] at hm2
          by_cases he : d = 1
          · subst he
            rw [if_pos rfl] at hm2
            have HM := Lib.hid hm2
            clear hm hm2 h1 h2 ho hc
            go_wp2_with fail
            refine (HP.out _).mono ?_
            rintro e w1 ⟨rfl, hw1⟩
            subst w1
            go_wp2_with fail
            refine (HP2.out _).mono ?_
            rintro e w1 ⟨rfl, hw1⟩
            subst w1
            go_wp2_with fail
            go_ret2
            exact ⟨by rw [← HM.out]; rfl, rfl⟩
          · rw [if_neg he, cmV_map, List.drop_drop] at hm2
            have HM := Lib.hid hm2
            have hB : (((d : Int) - 1) == 0) = false := by rw [beq_eq_false_iff_ne]; omega
            clear hm hm2 h1 h2 ho hc
            go_wp2_with fail
            refine (HP.out _).mono ?_
            rintro e w1 ⟨rfl, hw1⟩
            subst w1
            go_wp2_with fail
            refine (HP2.out _).mono ?_
            rintro e w1 ⟨rfl, hw1⟩
            subst w1
            go_wp2_with fail
            exact ⟨⟨q + 2, d - 1, hq2, by go_num, by congr 1; omega, by omega, .inr ⟨by omega, HM.out⟩⟩, by simp [intOf]; omega⟩
        · rw [decide_eq_false hc] at h2
          have HP2 := Lib.hid h2
          rw [com_step (by rw [drop_cons s hlt]; simp) ho hc, cmV_map, List.drop_drop] at hm2
          have HM := Lib.hid hm2
          clear hm hm2 h1 h2 ho hc
          go_wp2_with fail
          refine (HP.out _).mono ?_
          rintro e w1 ⟨rfl, hw1⟩
          subst w1
          go_wp2_with fail
          refine (HP2.out _).mono ?_
          rintro e w1 ⟨rfl, hw1⟩
          subst w1
          go_wp2_with fail
          exact ⟨⟨q + 1, d, hlt, by go_num, rfl, by omega, .inr ⟨hd1, HM.out⟩⟩, by simp [intOf]; omega⟩
    · have HM := Lib.hid (show cmV q none = R from by
        rcases hm with ⟨rfl, rfl⟩ | ⟨_, hm⟩
        · have := two_len HK.out; omega
        · rw [drop_end s (by omega), com_nil] at hm; exact hm)
      clear hm
      go_wp2_with fail
      go_ret2
      exact ⟨by rw [← HM.out]; rfl, rfl⟩
end Go.Proofs.YtphhokpbkcdljaaDoor
namespace Go.Proofs.YtphhokpbkcdljaaDoor
open Go Go.RowKit
theorem bl_fin : ∀ n : Fin 256, decide (0 ≤ Lib.indexByte [9, 10, 13, 32] (UInt8.ofNat n.val)) = isBl (UInt8.ofNat n.val) := by decide +kernel
theorem bl_at (c : UInt8) : decide (0 ≤ Lib.indexByte (⟨#[9, 10, 13, 32]⟩ : ByteArray).data.toList ((c.toNat : Int).toNat.toUInt8)) = isBl c := by
  have h := bl_fin ⟨c.toNat, c.toNat_lt⟩
  simp only [UInt8.ofNat_toNat] at h
  rw [Int.toNat_natCast, show c.toNat.toUInt8 = c from UInt8.ofNat_toNat]
  exact h
def paV (q : Nat) (x : Nat × Bool) : Value := .tuple #[.int .i64 ((q + x.1 : Nat) : Int), .bool x.2]
set_option maxRecDepth 100000 in
set_option maxHeartbeats 8000000 in
theorem pass_any (s : ByteArray) (hs : s.size ≤ 140737488351232) (k : Nat) (hk : k ≤ s.size) (w : World) :
    Calls Tryd.prog 23 #[.string s, .int .i64 (k : Int)] w fun e w' => e = .returned (paV k (blk (s.data.toList.drop k))) ∧ w' = w := by
  obtain ⟨R, hR⟩ : ∃ R, paV k (blk (s.data.toList.drop k)) = R := ⟨_, rfl⟩
  rw [hR]
  have HR := Lib.hid hR
  clear hR
  go_enter Tryd.func23, Tryd.ntmps23
  go_wp2_with fail
  go_loop [1] (fun i => ∃ q : Nat, q ≤ s.size ∧ i = .int .i64 q ∧ paV q (blk (s.data.toList.drop q)) = R) (fun i => s.size - (intOf i).toNat)
  case atStart => exact ⟨k, hk, rfl, HR.out⟩
  case round =>
    clear hk
    obtain ⟨q, hq, rfl, hm⟩ := hrel
    have hq0 : (0 : Int) ≤ q := by omega
    have hqs : (q : Int) ≤ s.size := by omega
    by_cases hlt : q < s.size
    · have hne : s.data.toList.drop q ≠ [] := by rw [drop_cons s hlt]; simp
      have hhd := headD_drop' s hlt
      have hi := Tryd.strings_IndexByte ⟨#[9, 10, 13, 32]⟩ (s[q].toNat : Int)
      have hbl := bl_at s[q]
      obtain ⟨r, hr⟩ : ∃ r, Lib.indexByte (⟨#[9, 10, 13, 32]⟩ : ByteArray).data.toList ((s[q].toNat : Int).toNat.toUInt8) = r := ⟨_, rfl⟩
      rw [hr] at hi hbl
      have HI := Lib.hid hi
      clear hi hr
      cases hb : isBl s[q] with
      | true =>
        rw [hb] at hbl
        rw [blk_bl hne (by rw [hhd]; exact hb), List.drop_drop] at hm
        have HM := Lib.hid (show paV (q + 1) (blk (s.data.toList.drop (q + 1))) = R from by
          rw [← hm]; unfold paV; simp only; rw [show q + ((blk (s.data.toList.drop (q + 1))).1 + 1) = q + 1 + (blk (s.data.toList.drop (q + 1))).1 by omega])
        clear hm hne hhd hb
        go_wp2_with fail
        refine (HI.out _).mono ?_
        rintro e w1 ⟨rfl, hw1⟩
        subst w1
        go_wp2_with fail
        exact ⟨⟨q + 1, hlt, by go_num, HM.out⟩, by simp [intOf]; omega⟩
      | false =>
        rw [hb] at hbl
        have h1 := Tryd.strings_HasPrefix (s.extract q s.size) ⟨#[40, 42]⟩
        rw [show (s.extract q s.size).data.toList = s.data.toList.drop q from Lib.extract_to_end s q, show (⟨#[40, 42]⟩ : ByteArray).data.toList = [40, 42] from rfl, pre_two] at h1
        by_cases ho : (s.data.toList.drop q).take 2 = [40, 42]
        · rw [decide_eq_true ho] at h1
          have HP := Lib.hid h1
          have HC := Lib.hid (comment_any s hs q ho)
          rw [blk_com hne (by rw [hhd]; exact hb) ho, List.drop_drop] at hm
          have hq2 := two_len ho
          cases hc : com (s.data.toList.drop (q + 2)) 1 with
          | none =>
            rw [hc] at hm HC
            have HM := Lib.hid hm
            have HC2 := Lib.hid (show ∀ W, Calls _ _ _ W (fun e w' => e = .returned (.tuple #[.int .i64 0, .bool false]) ∧ w' = W) from HC.out)
            clear hm hne hhd hb h1 ho hc HC
            go_wp2_with fail
            refine (HI.out _).mono ?_
            rintro e w1 ⟨rfl, hw1⟩
            subst w1
            go_wp2_with fail
            refine (HP.out _).mono ?_
            rintro e w1 ⟨rfl, hw1⟩
            subst w1
            go_wp2_with fail
            refine (HC2.out _).mono ?_
            rintro e w1 ⟨rfl, hw1⟩
            subst w1
            go_wp2_with fail
            go_ret2
            exact ⟨by rw [← HM.out]; rfl, rfl⟩
          | some n =>
            have hle := com_le _ _ _ _ (Nat.le_refl _) hc
            rw [List.length_drop, len_data] at hle
            rw [hc] at hm HC
            simp only at hm
            rw [List.drop_drop] at hm
            have HM := Lib.hid (show paV (q + 2 + n) (blk (s.data.toList.drop (q + 2 + n))) = R from by
              rw [← hm, show q + (n + 2) = q + 2 + n by omega]; unfold paV; simp only; rw [show q + ((blk (s.data.toList.drop (q + 2 + n))).1 + (n + 2)) = q + 2 + n + (blk (s.data.toList.drop (q + 2 + n))).1 by omega])
            have HC2 := Lib.hid (show ∀ W, Calls _ _ _ W (fun e w' => e = .returned (.tuple #[.int .i64 ((q + 2 + n : Nat) : Int), .bool true]) ∧ w' = W) from HC.out)
            clear hm hne hhd hb h1 ho hc HC
            go_wp2_with fail
            refine (HI.out _).mono ?_
            rintro e w1 ⟨rfl, hw1⟩
            subst w1
            go_wp2_with fail
            refine (HP.out _).mono ?_
            rintro e w1 ⟨rfl, hw1⟩
            subst w1
            go_wp2_with fail
            refine (HC2.out _).mono ?_
            rintro e w1 ⟨rfl, hw1⟩
            subst w1
            go_wp2_with fail
            exact ⟨⟨q + 2 + n, by omega, rfl, HM.out⟩, by simp [intOf]; omega⟩
        · rw [decide_eq_false ho] at h1
          have HP := Lib.hid h1
          rw [blk_else (by rw [hhd]; exact hb) ho] at hm
          have HM := Lib.hid hm
          clear hm hne hhd hb h1 ho
          go_wp2_with fail
          refine (HI.out _).mono ?_
          rintro e w1 ⟨rfl, hw1⟩
          subst w1
          go_wp2_with fail
          refine (HP.out _).mono ?_
          rintro e w1 ⟨rfl, hw1⟩
          subst w1
          go_wp2_with fail
          go_ret2
          exact ⟨by rw [← HM.out]; rfl, rfl⟩
    · rw [drop_end s (by omega), blk_nil] at hm
      have HM := Lib.hid hm
      clear hm
      go_wp2_with fail
      go_ret2
      exact ⟨by rw [← HM.out]; rfl, rfl⟩
end Go.Proofs.YtphhokpbkcdljaaDoor
