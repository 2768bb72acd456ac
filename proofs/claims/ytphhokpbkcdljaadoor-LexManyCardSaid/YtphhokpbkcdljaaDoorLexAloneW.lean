/- The walk of the statement LexAlone: it returns true. Conditions: the text is within the reach; the tables are as laid. -/
import Derived.Deep.RegionHeld3
import Derived.Deep.QuietTactic
import Derived.BigQuiet
import Derived.Test.YtphhokpbkcdljaaDoorLexTk
import Derived.Test.YtphhokpbkcdljaaDoorLexPv
namespace Go.Proofs.YtphhokpbkcdljaaDoor
open Go Go.RowKit
/-- a text that is cut, cut: its tokens, and where each stands -/
theorem scan_yes {s : ByteArray} {ts : List (Tok × Nat)} (hs : s.size ≤ 140737488351232) (hr : scanTop s.data.toList = (some ts, 0, 0)) (w : World) (hT : LxT w) :
    Calls Tryd.prog 13 #[.string s] w fun e w' => ∃ A cap, e = .returned (.tuple #[.slice A ts.length cap, .int .i64 0, .int .i64 0]) ∧ ts.length ≤ cap ∧ Tks w'.heap.size w' A (ts.map tkOf) ∧ Below w.heap.size w w' := by
  refine (scan_tks s hs w hT).mono fun e w' h => ?_
  rw [hr] at h
  obtain ⟨⟨A, cap, he, hc, ht⟩, hb⟩ := h
  have hl : (toks ((some ts, 0, 0) : ScR)).length = ts.length := by show (ts.map tkOf).length = _; rw [List.length_map]
  rw [hl] at he hc
  exact ⟨A, cap, he, hc, ht, hb⟩
theorem scan_noT {s : ByteArray} (hs : s.size ≤ 140737488351232) (hr : (scanTop s.data.toList).1 = none) (w : World) (hT : LxT w) :
    Calls Tryd.prog 13 #[.string s] w fun e w' => ∃ A cap p e2, e = .returned (.tuple #[.slice A 0 cap, .int .i64 p, .int .i64 e2]) ∧ (e2 = 3 ∨ e2 = 70) ∧ Below w.heap.size w w' := by
  refine (scan_tks s hs w hT).mono fun e w' h => ?_
  obtain ⟨⟨A, cap, he, hc, ht⟩, hb⟩ := h
  have hl : (toks (scanTop s.data.toList)).length = 0 := by unfold toks; rw [hr]; rfl
  rw [hl] at he
  refine ⟨A, cap, _, _, he, ?_, hb⟩
  rcases scan_err s.data.toList hr with q | q <;> rw [q]
  · exact .inl rfl
  · exact .inr rfl
theorem tsl_to (A : Option Addr) (L c m : Nat) (hm : m ≤ c) (W : World) : (Instr.sliceAt 24 (.slice A L c) none (some (.int .i64 (m : Int))) none).run Tryd.prog W = .ok (.slice A m c) W := by
  have hs : (sizeOf 32).run Tryd.prog W = .ok 4 W := by kernel_rfl
  have he : Tryd.prog.elem 24 = 32 := by kernel_rfl
  have h1 := run_sliceAt_slice (P := Tryd.prog) (w := W) 24 (.slice A L c) none (some (.int .i64 (m : Int))) none (by rw [he]; exact Tryd.underlying24)
  have h2 := run_slice_h (P := Tryd.prog) (w := W) 24 A L c (by rw [he]; exact Tryd.underlying24) .i64 (m : Int) (by omega) (by omega)
  rw [h1, h2, he, hs]
  have ha : ∀ ad : Addr, ad.add 0 = ad := fun ad => by
    obtain ⟨b, o, sp⟩ := ad
    cases sp <;> simp [Addr.add]
  have hA : A.map (fun x => x.add 0) = A := by cases A <;> simp [ha]
  simp [sliced, hA]
theorem tsl_one (g off L c i : Nat) (hi : i < c) (W : World) : (Instr.sliceAt 24 (.slice (some ⟨g, off, none⟩) L c) (some (.int .i64 (i : Int))) (some (.int .i64 ((i : Int) + 1))) none).run Tryd.prog W = .ok (.slice (some ⟨g, off + i * 4, none⟩) 1 (c - i)) W := by
  have hs : (sizeOf 32).run Tryd.prog W = .ok 4 W := by kernel_rfl
  have he : Tryd.prog.elem 24 = 32 := by kernel_rfl
  have h1 := run_sliceAt_slice (P := Tryd.prog) (w := W) 24 (.slice (some ⟨g, off, none⟩) L c) (some (.int .i64 (i : Int))) (some (.int .i64 ((i : Int) + 1))) none (by rw [he]; exact Tryd.underlying24)
  have h2 := run_slice_lh (P := Tryd.prog) (w := W) 24 (some ⟨g, off, none⟩) L c (by rw [he]; exact Tryd.underlying24) .i64 .i64 (i : Int) ((i : Int) + 1) (by omega) (by omega) (by omega)
  rw [h1, h2, he, hs]
  have e1 : ((i : Int) + 1).toNat = i + 1 := by omega
  simp only [Result.andThen, sliced, Int.toNat_natCast, e1]
  rw [if_neg (by omega), show i + 1 - i = 1 by omega]
  simp [addr_add]
theorem tks_one {n₀ : Nat} {W : World} {g off : Nat} {ts : List TkB} {i : Nat} {t : TkB} (h : Tks n₀ W (some ⟨g, off, none⟩) ts) (hi : ts[i]? = some t) : Tks n₀ W (some ⟨g, off + i * 4, none⟩) [t] := by
  refine ⟨by show (1 : Nat) ≤ _; decide, fun x hx => by rw [List.mem_singleton.1 hx]; exact h.ok t (List.mem_of_getElem? hi), fun j x hx => ?_⟩
  cases j with
  | succ j => simp at hx
  | zero =>
    simp at hx; subst hx
    obtain ⟨g', off', e, hg, c0, c1, c2, c3⟩ := h.cell i t hi
    injection e with e
    injection e with e1 e2
    subst e1 e2
    refine ⟨g, _, rfl, hg, ?_, ?_, ?_, ?_⟩
    all_goals simpa using ‹_›
theorem tks_first {n₀ : Nat} {W : World} {A : Option Addr} {t : TkB} {ts : List TkB} (h : Tks n₀ W A (t :: ts)) : Tks n₀ W A [t] := by
  refine ⟨by show (1 : Nat) ≤ _; decide, fun x hx => by rw [List.mem_singleton.1 hx]; exact h.ok t List.mem_cons_self, fun j x hx => ?_⟩
  cases j with
  | succ j => simp at hx
  | zero => exact h.cell 0 x (by simpa using hx)
theorem alone_keep {w3 X Y : World} {p : Addr} {v : Value} (h : ∀ Z, Below w3.heap.size w3 Z → Z.cell? p = some v) (hX : Below w3.heap.size w3 X) (hb : Below X.heap.size X Y) : Y.cell? p = some v ∧ Below w3.heap.size w3 Y :=
  ⟨h Y (hX.trans (hb.mono hX.size)), hX.trans (hb.mono hX.size)⟩
theorem same_one (t : Tok) (a b : Nat) : sameT false [tkOf (t, a)] [tkOf (t, b)] = true := by unfold sameT; simp [TkB.key, tkOf]
theorem ext_mid2 (s : ByteArray) (k e : Nat) : (s.extract k e).data.toList = (s.data.toList.drop k).take (e - k) := ext_mid s k e
set_option maxRecDepth 100000 in
set_option maxHeartbeats 16000000 in
theorem lexAlone_walk (s : ByteArray) (hs : s.size ≤ 140737488351232) (w : World) (hT : LTab w) :
    Calls Tryd.prog 8 #[.string s] w fun e w' => e = .returned (.bool true) ∧ Below w.heap.size w w' := by
  have HT := Lib.hid hT
  have HL := Lib.hid (long_any s)
  have HK := Lib.hid lknown_any
  clear hT
  cases hl : (decide (500 < s.size) && decide (s.size ≤ 4096)) with
  | true =>
    rw [hl] at HL
    clear hl
    go_enter Tryd.func8, Tryd.ntmps8
    go_wp2_with fail
    refine (HL.out _).mono ?_
    rintro e w1 ⟨rfl, hw1⟩
    subst w1
    go_wp2_with fail
    refine (HK.out _ HT.out).mono ?_
    rintro e w2 ⟨rfl, hb2⟩
    have HB := Lib.hid hb2
    clear hb2
    go_wp2_with fail
    go_ret
    exact ⟨rfl, HB.out⟩
  | false =>
    rw [hl] at HL
    clear hl
    cases htop : (scanTop s.data.toList).1 with
    | none =>
      have HS := Lib.hid (scan_noT hs htop)
      clear htop
      go_enter Tryd.func8, Tryd.ntmps8
      go_wp2_with fail
      refine (HL.out _).mono ?_
      rintro e w1 ⟨rfl, hw1⟩
      subst w1
      go_wp2_with fail
      refine (HS.out _ HT.out.x).mono ?_
      rintro e w2 ⟨A, c, p, e2, rfl, he2, hb2⟩
      have HB := Lib.hid hb2
      clear hb2
      have he : (e2 != 0) = true := by rcases he2 with rfl | rfl <;> rfl
      go_wp2_with fail
      refine (HK.out _ (HT.out.stay HB.out)).mono ?_
      rintro e w3 ⟨rfl, hb3⟩
      have HB3 := Lib.hid (HB.out.trans (hb3.mono HB.out.size))
      clear hb3
      go_wp2_with fail
      go_ret
      exact ⟨rfl, HB3.out⟩
    | some ts =>
      obtain ⟨h1, h2, h3⟩ := top_some htop
      have hsz : s.data.toList.length = s.size := by simp
      have hs4 : s.size ≤ 4096 := by omega
      obtain ⟨init, hin⟩ := scan_last _ _ 0 0 ts (Nat.le_refl _) h2
      obtain ⟨M, hM⟩ : ∃ M, ts.length = M + 1 := ⟨init.length, by rw [hin]; simp⟩
      have hlast : ts[M]? = some (tEnd, s.size) := by
        have : init.length = M := by rw [hin] at hM; simpa using hM
        rw [hin, ← this, hsz]; simp
      have hfew := scan_few h2
      have hM1 : M ≤ 1000 := by omega
      have HS := Lib.hid (scan_yes hs h1)
      rw [hM] at HS
      have HALL := Lib.hid (And.intro h2 (And.intro hlast hM))
      clear htop h1 h2 h3 hin hlast hfew hsz hM
      go_enter Tryd.func8, Tryd.ntmps8
      go_wp2_with fail
      refine (HL.out _).mono ?_
      rintro e w1 ⟨rfl, hw1⟩
      subst w1
      go_wp2_with fail
      refine (HS.out _ HT.out.x).mono ?_
      rintro e w2 ⟨A, c, rfl, hc, ht, hb2⟩
      have H2 := Lib.hid (And.intro hb2 ht)
      obtain ⟨g, off, rfl, hg, _⟩ := ht.cell M (tkOf (tEnd, s.size)) (by rw [List.getElem?_map, HALL.out.2.1]; rfl)
      clear hb2 ht
      have HG := Lib.hid hg
      clear hg
      go_wp2_with fail
      go_loopw [6] (fun v wr => ∃ i : Nat, i ≤ M ∧ v = .int .i64 i ∧ Below w2.heap.size w2 wr) (fun v _ => M + 1 - (intOf v).toNat)
      case atStart => exact ⟨0, Nat.zero_le _, rfl, Below.refl _ _⟩
      case round =>
        obtain ⟨i, hi, rfl, hb⟩ := hrel
        have HB := Lib.hid hb
        clear hb
        by_cases hlt : i + 1 < M + 1
        · obtain ⟨⟨t, a⟩, hta⟩ : ∃ t, ts[i]? = some t := ⟨_, List.getElem?_eq_getElem (by rw [HALL.out.2.2]; omega)⟩
          obtain ⟨⟨u, b⟩, hub⟩ : ∃ t, ts[i + 1]? = some t := ⟨_, List.getElem?_eq_getElem (by rw [HALL.out.2.2]; omega)⟩
          obtain ⟨hab, hbs, hsc⟩ := alone_scan (by rw [show s.data.toList.length = s.size by simp]; exact hs4) HALL.out.1 hta hub
          rw [show s.data.toList.length = s.size by simp] at hbs
          obtain ⟨g1, off1, e1, hg1, c0, c1, c2, c3⟩ := H2.out.2.cell i (tkOf (t, a)) (by rw [List.getElem?_map, hta]; rfl)
          injection e1 with e1
          injection e1 with e1 e2
          subst e1 e2
          obtain ⟨g1, off1, e1, hg1, d0, d1, d2, d3⟩ := H2.out.2.cell (i + 1) (tkOf (u, b)) (by rw [List.getElem?_map, hub]; rfl)
          injection e1 with e1
          injection e1 with e1 e2
          subst e1 e2
          have f3 := (HB.out.cell (p := ⟨g, _, none⟩) HG.out).trans c3
          have f7 := (HB.out.cell (p := ⟨g, _, none⟩) HG.out).trans d3
          have HC := Lib.hid (And.intro hta c3)
          clear c0 c1 c2 c3 d0 d1 d2 d3 hg1 hub hta
          simp only [tkOf] at f3 f7
          rw [← ext_mid2] at hsc
          have HSC := Lib.hid (scan_yes (s := s.extract a b) (by rw [ByteArray.size_extract]; omega) hsc)
          clear hsc
          have b1 : decide ((a : Int) < 0) = false := decide_eq_false (by omega)
          have b2 : decide ((b : Int) ≤ (a : Int)) = false := decide_eq_false (by omega)
          have b3 : decide ((s.size : Int) < (b : Int)) = false := decide_eq_false (by omega)
          go_wp2_with fail
          go_quiet (fail)
          go_wp2_with fail
          generalize hwq : wr.drewN nq = wq
          have hbq : Below w2.heap.size w2 wq := by rw [← hwq]; exact below_drewN' HB.out nq
          have HQ := Lib.hid (And.intro hbq (H2.out.1.trans (hbq.mono H2.out.1.size)))
          clear hwq hbq f3 f7
          refine (HSC.out _ (HT.out.stay HQ.out.2).x).mono ?_
          rintro e w3 ⟨A3, c3, rfl, hc3, ht3, hb3⟩
          obtain ⟨g3, off3, rfl, hg3, _, _, _, d3⟩ := ht3.cell 0 (tkOf (t, 0)) rfl
          have hc31 : 1 ≤ c3 := by simp at hc3; omega
          have hb13 := HQ.out.1.trans (hb3.mono HQ.out.1.size)
          have hSM : ∀ X, Below w3.heap.size w3 X → Calls Tryd.prog 15 #[.slice (some ⟨g3, off3, none⟩) 1 c3, .slice (some ⟨g, off + i * 4, none⟩) 1 (c - i), .bool false] X fun e w' => e = .returned (.bool true) ∧ Below X.heap.size X w' := fun X hX => by
            have hx1 : Tks X.heap.size X (some ⟨g3, off3, none⟩) [tkOf (t, 0)] := ((tks_first ht3).below hX).mono hX.size
            have hb2X := hb13.trans (hX.mono hb13.size)
            have hx2 : Tks X.heap.size X (some ⟨g, off + i * 4, none⟩) [tkOf (t, a)] := (tks_one ((H2.out.2.below hb2X).mono hb2X.size) (by rw [List.getElem?_map, HC.out.1]; rfl))
            have := same_any (some ⟨g3, off3, none⟩) (some ⟨g, off + i * 4, none⟩) c3 (c - i) [tkOf (t, 0)] [tkOf (t, a)] false X hx1 hx2
            rw [same_one] at this
            exact this
          have HSM := Lib.hid hSM
          have sl1 : ∀ W, (Instr.sliceAt 24 (.slice (some ⟨g3, off3, none⟩) 2 c3) none (some (.int .i64 1)) none).run Tryd.prog W = .ok (.slice (some ⟨g3, off3, none⟩) 1 c3) W := fun W => tsl_to (some ⟨g3, off3, none⟩) 2 c3 1 hc31 W
          have sl2 := tsl_one g off (M + 1) c i (by omega)
          have hi0 : (0 : Int) ≤ i := by omega
          have hwr : IntKind.i64.wrap ((i : Int) + 1) = (i : Int) + 1 := by rw [IntKind.wrap_i64]; omega
          have hci : ¬ c = i := by omega
          have hi3 : ((i : Int) + 1).toNat = i + 1 := by omega
          have hi1 : (i : Int) + 1 ≤ c := by omega
          have hi2 : (i : Int) ≤ (i : Int) + 1 := by omega
          have hS3 : w3.cell? ⟨g3, off3 + 3, none⟩ = some (.int .i64 0) := by simpa [tkOf] using d3
          have HR := Lib.hid (fun (X : World) (h : Below w3.heap.size w3 X) => (h.cell (p := ⟨g3, off3 + 3, none⟩) hg3).trans hS3)
          have HB3 := Lib.hid (HQ.out.2.trans (hb3.mono HQ.out.2.size))
          have HB13 := Lib.hid hb13
          have hk0 : w3.drew.cell? ⟨g3, off3 + 3, none⟩ = some (.int .i64 0) ∧ Below w3.heap.size w3 w3.drew := ⟨hS3, (Below.refl _ _).drew⟩
          clear hSM d3 ht3 hb3 hb13 hc3 hg3 hab hbs
          go_wp2_with fail
          go_region_held3 (fun X => X.cell? ⟨g3, off3 + 3, none⟩ = some (.int .i64 0) ∧ Below w3.heap.size w3 X)
            (first | assumption)
            (first
              | (go_at_call 15; refine (HSM.out _ (And.right (by assumption))).mono ?_; rintro e w13 ⟨rfl, hb13⟩; have hk13 := alone_keep HR.out (And.right (by assumption)) hb13))
          have HEND := Lib.hid (HB13.out.trans (hk13.2.mono HB13.out.size))
          clear sl1 sl2 hi1 hi2 hi3 hwr hci
          go_wp2_with fail
          go_roundw
          case rel => exact ⟨i + 1, by omega, by go_num, HEND.out⟩
          case measure => simp [intOf]; omega
        · obtain rfl : i = M := by omega
          obtain ⟨g1, off1, e1, hg1, _, _, _, c3⟩ := H2.out.2.cell i (tkOf (tEnd, s.size)) (by rw [List.getElem?_map, HALL.out.2.1]; rfl)
          injection e1 with e1
          injection e1 with e1 e2
          subst e1 e2
          have f3 := (HB.out.cell (p := ⟨g, _, none⟩) HG.out).trans c3
          simp only [tkOf] at f3
          have HW := Lib.hid (H2.out.1.trans (HB.out.mono H2.out.1.size))
          clear c3 hg1
          go_wp2_with fail
          refine (HK.out _ (HT.out.stay HW.out)).mono ?_
          rintro e w7 ⟨rfl, hb7⟩
          have H7 := Lib.hid (HW.out.trans (hb7.mono HW.out.size))
          clear hb7
          go_wp2_with fail
          go_ret
          exact ⟨rfl, H7.out⟩
end Go.Proofs.YtphhokpbkcdljaaDoor
