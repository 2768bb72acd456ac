/- The walk of the statement RtsTextBack: it returns true. Condition: the strings lie as they do. -/
import Derived.Test.YtlakfnlkiebpdaaDoorRtsH
import Derived.Test.YtlakfnlkiebpdaaDoorRtsKn
import Derived.Test.YtlakfnlkiebpdaaDoorStrArg
namespace Go.Proofs.YtlakfnlkiebpdaaDoor
open Go Go.RowKit
def sumW (ls : List ByteArray) : Nat := (ls.map fun s => 2 + (s.size + 7) / 8).sum
def txts (ls : List ByteArray) : List Ob := ls.map fun s => txtO s.data.toList
theorem used_txts (ls : List ByteArray) : used (txts ls) = sumW ls := by
  unfold used txts sumW
  rw [List.map_map]
  refine congrArg List.sum (List.map_congr_left fun s _ => ?_)
  have h : s.data.toList.length = s.size := by simp
  show 1 + (txtO s.data.toList).ws.length = _
  unfold txtO
  rw [List.length_cons, NumL.packL_length, h]
  unfold NumL.nWords
  omega
def wrdAt (ls : List ByteArray) (i : Nat) : Nat := 2 * (sumW (ls.take i) + 1)
def wordsK (ls : List ByteArray) (k : Nat) : List Nat := (List.range k).map (wrdAt ls)
theorem wordsK_succ (ls : List ByteArray) (k : Nat) : wordsK ls (k + 1) = wordsK ls k ++ [wrdAt ls k] := by
  unfold wordsK; rw [List.range_succ, List.map_append]; rfl
theorem wordsK_len (ls : List ByteArray) (k : Nat) : (wordsK ls k).length = k := by simp [wordsK]
theorem wordsK_get {ls : List ByteArray} {k i : Nat} (h : i < k) : (wordsK ls k)[i]? = some (wrdAt ls i) := by
  unfold wordsK; rw [List.getElem?_map, List.getElem?_range h]; rfl
theorem take_snocS {ls : List ByteArray} {k : Nat} {s : ByteArray} (h : ls[k]? = some s) : ls.take (k + 1) = ls.take k ++ [s] := by
  obtain ⟨h1, rfl⟩ := List.getElem?_eq_some_iff.1 h
  rw [List.take_succ_eq_append_getElem h1]
theorem sumW_snoc {ls : List ByteArray} {k : Nat} {s : ByteArray} (h : ls[k]? = some s) : sumW (ls.take (k + 1)) = sumW (ls.take k) + (2 + (s.size + 7) / 8) := by
  rw [take_snocS h]; simp [sumW]
theorem txts_snoc {ls : List ByteArray} {k : Nat} {s : ByteArray} (h : ls[k]? = some s) : txts (ls.take (k + 1)) = txts (ls.take k) ++ [txtO s.data.toList] := by
  rw [take_snocS h]; simp [txts]
theorem sumW_mono (ls : List ByteArray) : ∀ {a b : Nat}, a ≤ b → sumW (ls.take a) ≤ sumW (ls.take b) := by
  intro a b h
  obtain ⟨d, rfl⟩ : ∃ d, b = a + d := ⟨b - a, by omega⟩
  induction d with
  | zero => exact Nat.le_refl _
  | succ d ih =>
    have := ih (by omega)
    by_cases hl : a + d < ls.length
    · have h2 := sumW_snoc (List.getElem?_eq_getElem hl)
      rw [show a + (d + 1) = a + d + 1 by omega, h2]
      omega
    · rw [List.take_of_length_le (show ls.length ≤ a + (d + 1) by omega)]
      rw [List.take_of_length_le (show ls.length ≤ a + d by omega)] at this
      exact this
theorem sumW_le {k : Nat} (ls : List ByteArray) (hs : ∀ j s, j < k → ls[j]? = some s → s.size ≤ 1000) : sumW (ls.take k) ≤ k * 128 := by
  induction k with
  | zero => simp [sumW]
  | succ k ih =>
    have h1 := ih (fun j s hj he => hs j s (by omega) he)
    by_cases hl : k < ls.length
    · have h2 := sumW_snoc (List.getElem?_eq_getElem hl)
      have h3 := hs k _ (by omega) (List.getElem?_eq_getElem hl)
      omega
    · rw [List.take_of_length_le (by omega)]
      rw [List.take_of_length_le (by omega)] at h1
      omega
theorem toP_wrd {W : Nat} (ls : List ByteArray) (i : Nat) (h : sumW (ls.take i) ≤ 100000) : toP ((wrdAt ls i : Nat) : Int) = adr 0 W (sumW (ls.take i) : Nat) := by
  unfold toP wrdAt adr
  rw [if_pos (by omega), if_pos rfl]
  omega
theorem ptrW_wrd {W : Nat} (ls : List ByteArray) (i : Nat) (h : sumW (ls.take i) ≤ 100000) : ptrW (adr 0 W (sumW (ls.take i) : Nat)) = ((wrdAt ls i : Nat) : Int) := by
  unfold ptrW wrdAt adr
  rw [if_pos rfl, if_pos (by omega)]
  omega
theorem idx_txts {W : Nat} {ls : List ByteArray} {i T : Nat} (hi : i < T) (hT : T ≤ ls.length) (h : sumW (ls.take i) ≤ 100000) : idxAt (txts (ls.take T)) 0 W (toP ((wrdAt ls i : Nat) : Int)) = some i := by
  have hl : (txts (ls.take T)).length = T := by simp [txts]; omega
  have h1 := idxAt_of (os := txts (ls.take T)) (h := 0) (W := W) (j := i) (by omega)
  rw [toP_wrd (W := W) ls i h]
  have h2 : start (txts (ls.take T)) i = sumW (ls.take i) := by
    unfold start
    have : (txts (ls.take T)).take i = txts (ls.take i) := by
      unfold txts
      rw [← List.map_take, List.take_take, Nat.min_eq_left (by omega)]
    rw [this, used_txts]
  rw [h2] at h1
  exact h1
theorem get_txts {ls : List ByteArray} {i T : Nat} {s : ByteArray} (hi : i < T) (hs : ls[i]? = some s) : (txts (ls.take T))[i]? = some (txtO s.data.toList) := by
  unfold txts
  rw [List.getElem?_map, List.getElem?_take_of_lt hi, hs]
  rfl
theorem bytes_self (s : ByteArray) : (⟨s.data.toList.toArray⟩ : ByteArray) = s := by cases s; simp
/-- what is got of a text that was put -/
theorem get_put {w : World} {b W : Nat} {R : Nat → Value} {now : List Ob} (m : Mem w b W 0 R now []) (z : WF W 0 now []) (n : Nat) (hn : n < 18446744073709551616) {j : Nat} {s : ByteArray} (hs : s.size ≤ 131064) (hi : idxAt now 0 W (toP (n : Int)) = some j) (ho : now[j]? = some (txtO s.data.toList)) :
    Calls Tryd.prog 24 #[.pointer (some ⟨b, 0, none⟩), .int .u64 (n : Int)] w fun e w' => e = .returned (.tuple #[.string s, .int .i64 0]) ∧ Below w.heap.size w w' := by
  have hl : s.data.toList.length = s.size := by simp
  refine (gettext_hit m z n hn (a := s.data.toList.length) (ws := NumL.packL s.data.toList) hi ho rfl rfl (by omega)).mono fun e w' ⟨h1, h2⟩ => ⟨?_, h2⟩
  rcases h1 with ⟨_, h1⟩ | ⟨h1, _⟩
  · rw [h1, NumL.bytesOf_pack, bytes_self]
  · exact absurd (NumL.uok_pack _) h1
/-- what stands behind so many texts put -/
structure PutT (w : World) (b W : Nat) (ls : List ByteArray) (k : Nat) (wr : World) (v : Value) (R : Nat → Value) : Prop where
  m : Mem wr b W 0 R (txts (ls.take k)) []
  z : WF W 0 (txts (ls.take k)) []
  row : wr.ownsRow w.heap.size 33 1 v k (u64s (wordsK ls k))
  no : ∀ g, v.ownBlock = some g → ¬ Own b R g
  ge : ∀ i, Own b R i → w.heap.size ≤ i
  fr : Below w.heap.size w wr
theorem PutT.drewN {w wr : World} {b W k : Nat} {ls : List ByteArray} {v : Value} {R : Nat → Value} (x : PutT w b W ls k wr v R) (n : Nat) : PutT w b W ls k (wr.drewN n) v R :=
  ⟨x.m.drewN n, x.z, x.row, x.no, x.ge, Below.drewN' x.fr n⟩
theorem PutT.below {w wr w1 : World} {b W k : Nat} {ls : List ByteArray} {v : Value} {R : Nat → Value} (x : PutT w b W ls k wr v R) (hb : Below wr.heap.size wr w1) : PutT w b W ls k w1 v R :=
  ⟨x.m.below hb, x.z, (Fr.of_below (O := fun _ => False) hb).own x.row (fun _ _ => id), x.no, x.ge, x.fr.trans (hb.mono x.fr.size)⟩
theorem putT_zero {w w1 : World} {W : Nat} {ls : List ByteArray} (m : Mem w1 w.heap.size W 0 (fun _ => .slice none 0 0) [] []) (z : WF W 0 [] []) (hb : Below w.heap.size w w1) : PutT w w.heap.size W ls 0 w1 (.slice none 0 0) (fun _ => .slice none 0 0) := by
  refine ⟨m, z, World.ownsRow_nil _ _ _ _, fun g hg => (by cases hg), fun i hi => ?_, hb⟩
  rcases hi with rfl | ⟨r, _, hr⟩
  · exact Nat.le_refl _
  · cases hr
/-- a text more -/
theorem PutT.put {w wr w1 w2 : World} {b W k : Nat} {ls : List ByteArray} {s : ByteArray} {v v2 : Value} {R R1 : Nat → Value} {tmp : Obj} (x : PutT w b W ls k wr v R) (hs : ls[k]? = some s)
    (x1 : MX wr (Own b R) b W 0 ⟨txts (ls.take k) ++ [txtO s.data.toList], []⟩ w1 R1) (hg : (w1.alloc tmp).grownBy w2 v.ownBlock) (ho : w2.ownsRow w.heap.size 33 1 v2 (k + 1) (u64s (wordsK ls k) ++ [.int .u64 ((wrdAt ls k : Nat) : Int)])) (hv : v2.ownBlock = v.ownBlock ∨ v2.ownBlock = some (w1.heap.size + 1)) :
    PutT w b W ls (k + 1) w2 v2 R1 := by
  have hno : ∀ g, v.ownBlock = some g → ¬ Own b R1 g := fun g hg q => by
    rcases x1.own g q with q | q
    · exact x.no g hg q
    · have := (x.row.lt g hg).2
      omega
  have hf : Fr (fun i => v.ownBlock = some i) w1 w2 := Fr.of_grown hg
  have hm : Mem w2 b W 0 R1 (txts (ls.take (k + 1))) [] := by
    rw [txts_snoc hs]
    exact x1.m.kept hf (fun i hi q => hno i q hi)
  have hge : ∀ i, Own b R1 i → w.heap.size ≤ i := fun i hi => by
    rcases x1.own i hi with q | q
    · exact x.ge i q
    · have := x.fr.size
      omega
  refine ⟨hm, ?_, ?_, fun g hg2 q => ?_, hge, ?_⟩
  · rw [txts_snoc hs]; exact x1.z
  · rw [wordsK_succ]
    rw [show u64s (wordsK ls k) ++ [.int .u64 ((wrdAt ls k : Nat) : Int)] = u64s (wordsK ls k ++ [wrdAt ls k]) from by simp [u64s]] at ho
    exact ho
  · rcases hv with hv | hv
    · exact hno g (hv ▸ hg2) q
    · rw [hv] at hg2
      have h1 := x1.lt g q
      have h2 := Option.some.inj hg2
      omega
  · have h1 : Below w.heap.size w w1 := x.fr.trans (x1.fr.below x.fr.size x.ge)
    exact h1.trans (hf.below h1.size (fun i hi => (x.row.lt i hi).1))
set_option maxRecDepth 100000 in
set_option maxHeartbeats 16000000 in
theorem rtsTextBack_walk {w : World} {a : Option Addr} {N c : Nat} {ls : List ByteArray} (hv : StrsV w a N ls) :
    Calls Tryd.prog 4 #[.slice a N c] w fun e w' => e = .returned (.bool true) ∧ Below w.heap.size w w' := by
  have HK := Lib.hid rknown_any
  have HV := Lib.hid hv
  have hN0 := hv.few
  obtain ⟨i0, hi0, hz0, hz1, hz2⟩ := info_parts infoU64
  have hmin : ∃ T, T = min N 50 := ⟨_, rfl⟩
  obtain ⟨T, hT⟩ := hmin
  have hTN : T ≤ N := by omega
  have hT5 : T ≤ 50 := by omega
  have HT := Lib.hid (show ∀ k, k < T ↔ (k < N ∧ k < 50) from fun k => by omega)
  clear hv hT
  go_enter Tryd.func4, Tryd.ntmps4
  go_wp2_with fail
  go_loop [3, 4] (fun n i => ∃ k : Nat, k ≤ T ∧ i = .int .i64 k ∧ n = .int .i64 ((64 + sumW (ls.take k) : Nat) : Int) ∧ ∀ j s, j < k → ls[j]? = some s → s.size ≤ 1000) (fun _ i => T - (intOf i).toNat)
  case atStart => exact ⟨0, Nat.zero_le _, rfl, rfl, fun j s hj => absurd hj (Nat.not_lt_zero _)⟩
  case round =>
    obtain ⟨k, hk, rfl, rfl, hsz⟩ := hrel
    have hk50 : k ≤ 50 := by omega
    by_cases hlt : k < T
    · have h1 : decide ((k : Int) < (N : Int)) = true := decide_eq_true (by omega)
      have h2 : decide ((k : Int) < 50) = true := decide_eq_true (by omega)
      obtain ⟨s, hs⟩ : ∃ s, ls[k]? = some s := ⟨_, List.getElem?_eq_getElem (by rw [HV.out.len]; omega)⟩
      obtain ⟨g, off, ha, hg, hcl⟩ := HV.out.cell k s hs
      have hk0 : (0 : Int) ≤ k := by omega
      have hk1 : (k : Int) < N := by omega
      have hss := HV.out.size s (List.mem_of_getElem? hs)
      have hsu := sumW_le ls hsz
      have HSZ := Lib.hid hsz
      have HS := Lib.hid hs
      subst ha
      clear hs hsz
      by_cases hbig : 1000 < s.size
      · have h3 : decide ((1000 : Int) < (s.size : Int)) = true := decide_eq_true (by omega)
        go_wp2_with fail
        refine (HK.out _).mono ?_
        rintro e w3 ⟨rfl, hb3⟩
        have HB3 := Lib.hid hb3
        clear hb3
        go_wp2_with fail
        go_ret
        exact ⟨rfl, HB3.out⟩
      · have h3 : decide ((1000 : Int) < (s.size : Int)) = false := decide_eq_false (by omega)
        obtain ⟨u, hu⟩ : ∃ u, 64 + sumW (ls.take k) = u := ⟨_, rfl⟩
        have HU := Lib.hid hu
        rw [hu]
        have hu2 : u ≤ 7000 := by omega
        clear hu hsu
        go_wp2_with fail
        go_round
        case rel => exact ⟨k + 1, by omega, by go_num, congrArg (Value.int .i64) (by have h4 := sumW_snoc HS.out; have h5 := HU.out; omega), fun j s' hj hs' => by
          rcases Nat.lt_succ_iff_lt_or_eq.1 hj with q | rfl
          · exact HSZ.out j s' q hs'
          · rw [HS.out] at hs'; rw [← Option.some.inj hs']; omega⟩
        case measure => simp [intOf]; omega
    · obtain rfl : k = T := by omega
      have h1 : ((k : Int) < N ∧ (50 : Int) ≤ k ∧ decide ((k : Int) < (N : Int)) = true ∧ decide ((k : Int) < 50) = false ∧ decide (k < 50) = false) ∨ ((N : Int) ≤ k ∧ decide ((k : Int) < (N : Int)) = false ∧ decide (k < N) = false) := by
        have := (HT.out k).mpr
        by_cases q : k < N
        · refine .inl ⟨by omega, by omega, decide_eq_true (by omega), decide_eq_false (by omega), decide_eq_false (by omega)⟩
        · exact .inr ⟨by omega, decide_eq_false (by omega), decide_eq_false (by omega)⟩
      have hsu := sumW_le ls hsz
      obtain ⟨W, hW⟩ : ∃ W, 64 + sumW (ls.take k) = W := ⟨_, rfl⟩
      have HW := Lib.hid hW
      have hW2 : 64 ≤ W ∧ W ≤ 7000 := by omega
      have HN := Lib.hid (new_raw W (by omega) (by omega) w)
      have HM1 := Lib.hid (new_mem W w)
      have HZ := Lib.hid (wf_new (W := W) (by omega) (by omega))
      have HSZ := Lib.hid hsz
      rw [hW]
      clear hW hsz hsu
      rcases h1 with ⟨h1, h2, h3, h4, h5⟩ | ⟨h1, h2, h3⟩
      all_goals
        go_wp2_with fail
        refine HN.out.mono ?_
        rintro e w1 ⟨rfl, hw1⟩
        have HMB := Lib.hid (show Mem w1 w.heap.size W 0 (fun _ => .slice none 0 0) [] [] from by rw [hw1]; exact HM1.out)
        have HB1 := Lib.hid (show Below w.heap.size w w1 from by rw [hw1]; exact below_one _ _)
        have HX0 := Lib.hid (putT_zero HMB.out HZ.out HB1.out (ls := ls))
        clear hw1 HN HM1 h1 HMB
        go_wp2_with fail
        go_loopw [7, 8] (fun v i wr => ∃ (k2 : Nat) (R : Nat → Value), k2 ≤ k ∧ i = .int .i64 k2 ∧ PutT w w.heap.size W ls k2 wr v R) (fun _ i _ => k - (intOf i).toNat)
        case atStart => exact ⟨0, _, Nat.zero_le _, rfl, HX0.out⟩
        case round =>
          obtain ⟨k2, R, hk2, rfl, hx⟩ := hrel
          have hk250 : k2 ≤ 50 := by omega
          clear HX0
          by_cases hlt2 : k2 < k
          · have h1 : decide ((k2 : Int) < (N : Int)) = true := decide_eq_true (by omega)
            have h2 : decide ((k2 : Int) < 50) = true := decide_eq_true (by omega)
            obtain ⟨s, hs⟩ : ∃ s, ls[k2]? = some s := ⟨_, List.getElem?_eq_getElem (by rw [HV.out.len]; omega)⟩
            obtain ⟨g, off, ha, hg, hcl⟩ := (HV.out.below hx.fr).cell k2 s hs
            have hss := HSZ.out k2 s hlt2 hs
            have hsn := sumW_snoc hs
            have hmn := sumW_mono ls (show k2 + 1 ≤ k by omega)
            have hW3 := HW.out
            have hput := puttext_ok hx.m hx.z s (by omega) (by rw [used_txts]; unfold NumL.nWords; omega)
            rw [used_txts, ptrW_wrd ls k2 (by omega)] at hput
            have hwd : wrdAt ls k2 ≤ 300000 := by unfold wrdAt; omega
            obtain ⟨X, hX⟩ : ∃ X, wrdAt ls k2 = X := ⟨_, rfl⟩
            rw [hX] at hput hwd
            have HPUT := Lib.hid hput
            have HXX := Lib.hid hX
            obtain ⟨va, vc, rfl, hvc, hvc2⟩ := own_shape5 (own_mono hx.row (Nat.zero_le _))
            have HX := Lib.hid hx
            have HS := Lib.hid hs
            have hk0 : (0 : Int) ≤ k2 := by omega
            have hk1 : (k2 : Int) < N := by omega
            subst ha
            clear hs hss hsn hmn hW3 hput hX hx
            go_wp2_with fail
            refine HPUT.out.mono ?_
            rintro e w4 ⟨rfl, R4, hx4⟩
            have HX4 := Lib.hid hx4
            have hrow4 : w4.ownsRow w.heap.size 33 1 (.slice va k2 vc) k2 (u64s (wordsK ls k2)) := hx4.fr.own HX.out.row HX.out.no
            have HROW4 := Lib.hid hrow4
            have hs4 := hx4.fr.size
            have hs5 := HX.out.fr.size
            clear hx4 hrow4
            go_wp2_with (at_builtin; refine wpList_append_own_at _ rfl _ _ 43 rfl w.heap.size 33 i0 (.int .u64 0) 1 8 Tryd.underlying43 hi0 hz0 hz1 hz2 rfl (by decide) (.slice va k2 vc) _ _ rfl (HROW4.out.alloc _) ⟨w4.heap.size, 0, none⟩ 1 1 [.int .u64 (X : Int)] rfl rfl (cell_one_new _ _ _) (by simp [Value.oneCell']) (by unfold maxLen; omega) (by omega) (by simp; omega) ?_; intro v7 w7 hown7 hgrow7 _ hblk7; rw [← HXX.out] at hown7; have HO7 := Lib.hid (HX.out.put HS.out HX4.out hgrow7 hown7 (by simpa using hblk7)); clear hown7 hgrow7 hblk7)
            go_roundw
            case rel => exact ⟨k2 + 1, R4, hlt2, by go_num, HO7.out⟩
            case measure => simp [intOf]; omega
          · obtain rfl : k2 = k := by omega
            have h1 : ((k2 : Int) < N ∧ (50 : Int) ≤ k2 ∧ decide ((k2 : Int) < (N : Int)) = true ∧ decide ((k2 : Int) < 50) = false ∧ decide (k2 < 50) = false) ∨ ((N : Int) ≤ k2 ∧ decide ((k2 : Int) < (N : Int)) = false ∧ decide (k2 < N) = false) := by
              have := (HT.out k2).mpr
              by_cases q : k2 < N
              · refine .inl ⟨by omega, by omega, decide_eq_true (by omega), decide_eq_false (by omega), decide_eq_false (by omega)⟩
              · exact .inr ⟨by omega, decide_eq_false (by omega), decide_eq_false (by omega)⟩
            obtain ⟨va, vc, rfl, hwv, hvg⟩ := wordsV_own1 hx.row (wordsK_len _ _) (by omega) (fun x hx => by
              obtain ⟨j, hj, rfl⟩ := List.mem_map.1 hx
              have h1 := sumW_mono ls (Nat.le_of_lt (List.mem_range.1 hj))
              have h2 := HW.out
              unfold wrdAt; omega)
            have HX := Lib.hid hx
            have HWV := Lib.hid hwv
            clear hx hwv hvg
            rcases h1 with ⟨h1, h2, h3, h4, h5⟩ | ⟨h1, h2, h3⟩
            all_goals
              go_wp2_with fail
              go_loopw [11] (fun i w8 => ∃ k3 : Nat, k3 ≤ k2 ∧ i = .int .i64 k3 ∧ PutT w w.heap.size W ls k2 w8 (.slice va k2 vc) R ∧ WordsV w8 va k2 (wordsK ls k2)) (fun i _ => k2 - (intOf i).toNat)
              case atStart => exact ⟨0, Nat.zero_le _, rfl, HX.out, HWV.out⟩
              case round =>
                obtain ⟨k3, hk3, rfl, hx, hwv⟩ := hrel
                by_cases hlt3 : k3 < k2
                · obtain ⟨s, hs⟩ : ∃ s, ls[k3]? = some s := ⟨_, List.getElem?_eq_getElem (by rw [HV.out.len]; omega)⟩
                  have h3 : decide ((k3 : Int) < (k2 : Int)) = true := decide_eq_true (by omega)
                  obtain ⟨g, off, hva, hg, hcl⟩ := hwv.cell k3 _ (wordsK_get hlt3)
                  have hs2 := sumW_mono ls (show k3 ≤ k2 by omega)
                  have hW3 := HW.out
                  have hwd : wrdAt ls k3 ≤ 300000 := by unfold wrdAt; omega
                  have hgt := get_put hx.m hx.z (wrdAt ls k3) (by omega) (s := s) (by have := HSZ.out k3 s hlt3 hs; omega) (idx_txts hlt3 (by rw [HV.out.len]; exact hTN) (by omega)) (get_txts hlt3 hs)
                  obtain ⟨X, hX⟩ : ∃ X, wrdAt ls k3 = X := ⟨_, rfl⟩
                  rw [hX] at hgt hcl
                  have HGT := Lib.hid hgt
                  have HX := Lib.hid hx
                  have HWV := Lib.hid hwv
                  have HS := Lib.hid hs
                  have hk0 : (0 : Int) ≤ k3 := by omega
                  have hk1 : (k3 : Int) < k2 := by omega
                  have hk3N : (k3 : Int) < N := by omega
                  subst hva
                  clear hx hwv hgt hs hs2 hW3 hX
                  go_wp2_with fail
                  refine HGT.out.mono ?_
                  rintro e w9 ⟨rfl, hb9⟩
                  have HX9 := Lib.hid (HX.out.below hb9)
                  have HWV9 := Lib.hid (show WordsV w9 (some ⟨g, off, none⟩) k2 (wordsK ls k2) from wordsV_frm HWV.out (Fr.of_below (O := fun _ => False) hb9) (fun _ _ _ q => q))
                  obtain ⟨g2, off2, ha, hg2, hcl2⟩ := (HV.out.below HX9.out.fr).cell k3 s HS.out
                  subst ha
                  clear hb9
                  go_wp2_with fail
                  go_roundw
                  case rel => exact ⟨k3 + 1, hlt3, by go_num, HX9.out, HWV9.out⟩
                  case measure => simp [intOf]; omega
                · have h3 : decide ((k3 : Int) < (k2 : Int)) = false := decide_eq_false (by omega)
                  have HBE := Lib.hid hx.fr
                  clear hx hwv
                  go_wp2_with fail
                  refine (HK.out _).mono ?_
                  rintro e w9 ⟨rfl, hb9⟩
                  have HB9 := Lib.hid (HBE.out.trans (hb9.mono HBE.out.size))
                  clear hb9
                  go_wp2_with fail
                  go_ret
                  exact ⟨rfl, HB9.out⟩
end Go.Proofs.YtlakfnlkiebpdaaDoor
