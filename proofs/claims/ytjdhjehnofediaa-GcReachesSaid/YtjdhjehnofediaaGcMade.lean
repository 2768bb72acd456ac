/- The statements' made: the memory that a heap makes. Conditions: the list of objects lies as ObsV says, each right, in a memory that has room. The contract of the statements' made. Conditions: the list of objects lies as ObsV says, each right, in a memory that has room. The contract of the statements' words. Conditions: the list of objects lies as ObsV says, the roots are integers. -/
import Derived.Test.YtjdhjehnofediaaGcHeap
import Derived.Deep.RegionLaw
namespace Go.Proofs.Ytjdhjehnofediaa
open Go Go.RowKit
/-- a heap whose objects are right, with words that have room for them -/
structure HeapR (os : List O4) (W : Nat) : Prop where
  right : ∀ o ∈ os, 0 ≤ o.k ∧ 0 ≤ o.t ∧ rightB o.k o.fs.length o.t = true
  room : W = 63 + addr4 os os.length
  rng : ∀ o ∈ os, ∀ x ∈ o.fs, -9223372036854775808 ≤ x ∧ x ≤ 9223372036854775807
/-- the first objects, as Alloc makes them -/
def obA (os : List O4) (i : Nat) : List Ob := (os.take i).map fun o => newOb o.k.toNat o.fs.length o.t.toNat
theorem obA_zero (os : List O4) : obA os 0 = [] := rfl
theorem obA_succ {os : List O4} {i : Nat} {o : O4} (h : os[i]? = some o) : obA os (i + 1) = obA os i ++ [newOb o.k.toNat o.fs.length o.t.toNat] := by
  obtain ⟨hk, e⟩ := List.getElem?_eq_some_iff.1 h
  unfold obA
  rw [List.take_succ_eq_append_getElem hk, List.map_append, e]
  rfl
theorem HeapR.tle {os : List O4} {W : Nat} (r : HeapR os W) {o : O4} (ho : o ∈ os) : o.t.toNat ≤ o.fs.length := by
  obtain ⟨_, h1, h2⟩ := r.right o ho
  have := right_bd h2
  omega
theorem HeapR.right' {os : List O4} {W : Nat} (r : HeapR os W) {o : O4} (ho : o ∈ os) : rightB (o.k.toNat : Nat) (o.fs.length : Nat) (o.t.toNat : Nat) = true := by
  obtain ⟨h0, h1, h2⟩ := r.right o ho
  rw [Int.toNat_of_nonneg h0, Int.toNat_of_nonneg h1]
  exact h2
theorem used_obA {os : List O4} {W : Nat} (r : HeapR os W) (i : Nat) (hi : i ≤ os.length) : used (obA os i) + 1 = addr4 os i := by
  induction i with
  | zero => rw [obA_zero, addr4_zero]; rfl
  | succ i ih =>
    have hg : os[i]? = some (os[i]'(by omega)) := List.getElem?_eq_getElem (by omega)
    have hm := List.mem_of_getElem? hg
    rw [obA_succ hg, addr4_succ hg, used_append, used_one, newOb_len (r.tle hm)]
    have := ih (by omega)
    omega
theorem addr4_mono (os : List O4) {i : Nat} (hi : i ≤ os.length) : addr4 os i ≤ addr4 os os.length := by
  obtain ⟨d, hd⟩ : ∃ d, os.length = i + d := ⟨os.length - i, by omega⟩
  rw [hd]
  induction d generalizing i with
  | zero => exact Nat.le_refl _
  | succ d ih =>
    have hg : os[i]? = some (os[i]'(by omega)) := List.getElem?_eq_getElem (by omega)
    have h1 := addr4_succ hg
    have h2 := ih (i := i + 1) (by omega) (by omega)
    rw [show i + 1 + d = i + (d + 1) by omega] at h2
    omega
/-- there is room for the next one -/
theorem HeapR.fits {os : List O4} {W : Nat} (r : HeapR os W) {i : Nat} {o : O4} (h : os[i]? = some o) : used (obA os i) + o.fs.length + 1 ≤ W := by
  have hk := (List.getElem?_eq_some_iff.1 h).1
  have h1 := used_obA r i (by omega)
  have h2 := addr4_succ h
  have h3 := addr4_mono os (i := i + 1) (by omega)
  have := r.room
  omega
theorem HeapR.size {os : List O4} {W : Nat} (r : HeapR os W) (h40 : os.length ≤ 40) (hs : ∀ o ∈ os, o.fs.length ≤ 12) : 64 ≤ W ∧ W ≤ 600 := by
  have h1 := addr4_le hs os.length (Nat.le_refl _)
  have h2 : 1 ≤ addr4 os os.length := by unfold addr4; omega
  have := r.room
  omega
/-- the object of a number, k of its fields stored -/
def obP (os : List O4) (j : Nat) (o : O4) (k : Nat) : Ob := ⟨o.k.toNat, o.t.toNat, (List.range k).map (fun f => (wordW os j f).toNat) ++ (newOb o.k.toNat o.fs.length o.t.toNat).ws.drop k, 0⟩
/-- the memory of a heap -/
def heapObs (os : List O4) : List Ob := os.mapIdx fun j o => ⟨o.k.toNat, o.t.toNat, (List.range o.fs.length).map (fun f => (wordW os j f).toNat), 0⟩
theorem heapObs_length (os : List O4) : (heapObs os).length = os.length := by simp [heapObs]
theorem obP_zero (os : List O4) (j : Nat) (o : O4) : obP os j o 0 = newOb o.k.toNat o.fs.length o.t.toNat := by simp [obP, newOb]
theorem ptrW_bd (x : Int) : 0 ≤ ptrW x ∧ ptrW x ≤ 2199023255552 := by unfold ptrW; split <;> omega
theorem intW_bd (x : Int) : 0 ≤ intW x ∧ intW x < 18446744073709551616 := by unfold intW; omega
theorem wordW_bd (os : List O4) (k f : Nat) : 0 ≤ wordW os k f ∧ wordW os k f < 18446744073709551616 := by
  unfold wordW
  cases os[k]? with
  | none => show (0 : Int) ≤ 0 ∧ (0 : Int) < 18446744073709551616; omega
  | some o =>
    simp only []
    split
    · omega
    · split
      · have := ptrW_bd (addr4 os k : Nat); omega
      · split
        · exact intW_bd _
        · have := ptrW_bd (addr4 os ((o.fs.getD f 0) % os.length).toNat : Nat); omega
theorem obP_len {os : List O4} {j k : Nat} {o : O4} (ht : o.t.toNat ≤ o.fs.length) (hk : k ≤ o.fs.length) : (obP os j o k).ws.length = o.fs.length := by
  simp only [obP, List.length_append, List.length_map, List.length_range, List.length_drop, newOb_len ht]
  omega
theorem obP_set {os : List O4} {j k : Nat} {o : O4} (ht : o.t.toNat ≤ o.fs.length) (hk : k < o.fs.length) : ({ obP os j o k with ws := (obP os j o k).ws.set k (wordW os j k).toNat } : Ob) = obP os j o (k + 1) := by
  have hl : (newOb o.k.toNat o.fs.length o.t.toNat).ws.length = o.fs.length := newOb_len ht
  unfold obP
  simp only [Ob.mk.injEq, true_and, and_true]
  rw [List.set_append_right _ _ (by simp), List.length_map, List.length_range, Nat.sub_self, List.drop_eq_getElem_cons (by omega), List.set_cons_zero, List.range_succ, List.map_append, List.append_assoc]
  rfl
theorem obP_full {os : List O4} {j : Nat} {o : O4} (ht : o.t.toNat ≤ o.fs.length) : obP os j o o.fs.length = ⟨o.k.toNat, o.t.toNat, (List.range o.fs.length).map (fun f => (wordW os j f).toNat), 0⟩ := by
  have hl : (newOb o.k.toNat o.fs.length o.t.toNat).ws.length = o.fs.length := newOb_len ht
  unfold obP
  rw [List.drop_eq_nil_of_le (by omega), List.append_nil]
/-- the objects while k fields of the j-th are stored -/
def obM (os : List O4) (j : Nat) (o : O4) (k : Nat) : List Ob := (heapObs os).take j ++ obP os j o k :: (obA os os.length).drop (j + 1)
theorem heapObs_get {os : List O4} {j : Nat} {o : O4} (h : os[j]? = some o) : (heapObs os)[j]? = some ⟨o.k.toNat, o.t.toNat, (List.range o.fs.length).map (fun f => (wordW os j f).toNat), 0⟩ := by
  simp [heapObs, h]
theorem obM_get {os : List O4} {j k : Nat} {o : O4} (hj : j < os.length) : (obM os j o k)[j]? = some (obP os j o k) := by
  unfold obM
  rw [List.getElem?_append_right (by rw [List.length_take, heapObs_length]; omega), List.length_take, heapObs_length, Nat.min_eq_left (by omega), Nat.sub_self]
  rfl
theorem obM_set {os : List O4} {j k : Nat} {o : O4} (hj : j < os.length) (p : Ob) : (obM os j o k).set j p = (heapObs os).take j ++ p :: (obA os os.length).drop (j + 1) := by
  unfold obM
  rw [List.set_append_right _ _ (by rw [List.length_take, heapObs_length]; omega), List.length_take, heapObs_length, Nat.min_eq_left (by omega), Nat.sub_self]
  rfl
/-- the objects when the first j are stored -/
def obJ (os : List O4) (j : Nat) : List Ob := (heapObs os).take j ++ (obA os os.length).drop j
theorem obJ_zero (os : List O4) : obJ os 0 = obA os os.length := by simp [obJ]
theorem obJ_end (os : List O4) : obJ os os.length = heapObs os := by
  unfold obJ
  rw [List.take_of_length_le (by rw [heapObs_length]; exact Nat.le_refl _), List.drop_eq_nil_of_le (by simp [obA]), List.append_nil]
theorem obA_get {os : List O4} {j : Nat} {o : O4} (h : os[j]? = some o) : (obA os os.length)[j]? = some (newOb o.k.toNat o.fs.length o.t.toNat) := by
  simp [obA, h]
theorem obJ_obM {os : List O4} {j : Nat} {o : O4} (h : os[j]? = some o) : obJ os j = obM os j o 0 := by
  obtain ⟨hj, e⟩ := List.getElem?_eq_some_iff.1 (obA_get h)
  unfold obJ obM
  rw [List.drop_eq_getElem_cons hj, e, obP_zero]
theorem obM_obJ {os : List O4} {j : Nat} {o : O4} (h : os[j]? = some o) (ht : o.t.toNat ≤ o.fs.length) : obM os j o o.fs.length = obJ os (j + 1) := by
  obtain ⟨hj, e⟩ := List.getElem?_eq_some_iff.1 (heapObs_get h)
  unfold obJ obM
  rw [obP_full ht, List.take_succ_eq_append_getElem hj, e, List.append_assoc]
  rfl
theorem sz_heap (os : List O4) : sz (heapObs os) = os.map fun o => o.fs.length := by
  unfold sz heapObs
  apply List.ext_getElem
  · simp
  · intro i h1 h2; simp
theorem sz_obA {os : List O4} {W : Nat} (r : HeapR os W) : sz (obA os os.length) = os.map fun o => o.fs.length := by
  unfold sz obA
  rw [List.take_length, List.map_map]
  apply List.map_congr_left
  intro o ho
  exact newOb_len (r.tle ho)
theorem sz_obM {os : List O4} {W j k : Nat} {o : O4} (r : HeapR os W) (h : os[j]? = some o) (hk : k ≤ o.fs.length) : sz (obM os j o k) = sz (obA os os.length) := by
  obtain ⟨hj, e⟩ := List.getElem?_eq_some_iff.1 h
  have h1 : sz (obM os j o k) = (sz (heapObs os)).take j ++ o.fs.length :: (sz (obA os os.length)).drop (j + 1) := by
    unfold obM
    show List.map _ _ = _
    rw [List.map_append, List.map_cons, obP_len (r.tle (List.mem_of_getElem? h)) hk, List.map_take, List.map_drop]
    rfl
  rw [h1, sz_heap, sz_obA r]
  conv => rhs; rw [← List.take_append_drop j (os.map fun o => o.fs.length)]
  have hd := List.drop_eq_getElem_cons (l := os.map fun o => o.fs.length) (i := j) (by simpa using hj)
  rw [hd]
  simp [e]
theorem start_obM {os : List O4} {W j k : Nat} {o : O4} (r : HeapR os W) (h : os[j]? = some o) (hk : k ≤ o.fs.length) : start (obM os j o k) j + 1 = addr4 os j := by
  have hj := (List.getElem?_eq_some_iff.1 h).1
  rw [start_congr (sz_obM r h hk) j, ← used_obA r j (by omega)]
  unfold start obA
  rw [List.take_length, ← List.map_take]
end Go.Proofs.Ytjdhjehnofediaa
namespace Go.Proofs.Ytjdhjehnofediaa
open Go Go.RowKit
set_option maxRecDepth 100000 in
set_option maxHeartbeats 8000000 in
theorem made_any {w : World} {a : Option Addr} {N c W : Nat} {os : List O4} (hv : ObsV w a N os) (r : HeapR os W) :
    Calls Try.prog 15 #[.slice a N c, .int .i64 (W : Int)] w fun e w' => e = .returned (.pointer (some ⟨w.heap.size, 0, none⟩)) ∧ ∃ R, MW w w.heap.size W 0 (heapObs os) [] w' R := by
  have hl := hv.len
  have h40 := hv.few
  obtain ⟨hW0, hW1⟩ := r.size (by omega) hv.short
  have HNW := Lib.hid (new_raw W hW0 (by omega))
  have HV := Lib.hid hv
  have HR := Lib.hid r
  clear hv r
  go_enter Try.func15, Try.ntmps15
  go_wp2_with fail
  refine (HNW.out _).mono ?_
  rintro e w1 ⟨rfl, hw1⟩
  have HM1 := Lib.hid (show MW w w.heap.size W 0 (obA os 0) [] w1 (fun _ => .slice none 0 0) from by rw [hw1]; exact MW.new w hW0 (by omega))
  clear hw1 HNW
  have hpn : ((some (⟨w.heap.size, 0, none⟩ : Addr)) == none) = false := rfl
  go_wp2_with fail
  go_loopw [7] (fun i wr => ∃ (j : Nat) (R : Nat → Value), j ≤ N ∧ i = .int .i64 j ∧ MW w w.heap.size W 0 (obA os j) [] wr R) (fun i _ => N - (intOf i).toNat)
  case atStart => exact ⟨0, _, Nat.zero_le _, rfl, HM1.out⟩
  case round =>
    obtain ⟨j, R, hj, rfl, hm⟩ := hrel
    clear HM1
    by_cases hlt : j < N
    · obtain ⟨o, ho⟩ : ∃ o, os[j]? = some o := ⟨_, List.getElem?_eq_getElem (by omega)⟩
      have hmo := List.mem_of_getElem? ho
      have hvr := HV.out.below (w1 := wr) hm.fr
      obtain ⟨g, off, fa, fc, rfl, hg, c0, c1, c2, c3, hfs⟩ := hvr.at_ j o ho
      have hsh := HV.out.short o hmo
      obtain ⟨hk0, ht0, _⟩ := HR.out.right o hmo
      have hua := used_obA HR.out j (by omega)
      have HAL := Lib.hid (show Calls Try.prog 40 #[.pointer (some ⟨w.heap.size, 0, none⟩), .int .i64 o.k, .int .i64 o.fs.length, .int .i64 o.t] wr.drew _ from alloc_to (hm.drewN 1).m hm.z o.k.toNat o.fs.length o.t.toNat o.k o.fs.length o.t (addr4 os j : Nat) (by omega) rfl (by omega) (by rw [adr_0]; omega) (HR.out.right' hmo) (HR.out.fits ho))
      have HMW := Lib.hid (hm.drewN 1)
      have HWA := Lib.hid (wf_alloc hm.z (HR.out.right' hmo) (HR.out.fits ho))
      have HNX := Lib.hid (obA_succ ho)
      have hle := addr4_le HV.out.short j (by omega)
      obtain ⟨A, hA⟩ : ∃ A, addr4 os j = A := ⟨_, rfl⟩
      rw [hA] at HAL hle
      obtain ⟨S, hS⟩ : ∃ S, o.fs.length = S := ⟨_, rfl⟩
      rw [hS] at HAL HWA HNX c2 hsh
      obtain ⟨t, ht⟩ : ∃ t, o.t = t := ⟨_, rfl⟩
      obtain ⟨kd, hkd⟩ : ∃ kd, o.k = kd := ⟨_, rfl⟩
      rw [ht] at HAL HWA HNX c1
      rw [hkd] at HAL HWA HNX c0
      have HAJ := Lib.hid hA
      have hji : (j : Int) < N := by omega
      have hj0 : (0 : Int) ≤ j := by omega
      have hAA : ((A : Int) != (A : Int)) = false := by simp
      clear hm hvr hfs hg ho hmo hk0 ht0 hua hA hS ht hkd hle hsh
      go_wp2_with fail
      go_region_law ((go_simp; go_at_call 40; refine (HAL.out).mono ?_; rintro e w3 ⟨rfl, R3, m3, s3, f3⟩))
      all_goals
        have HM3 := Lib.hid (show MW w w.heap.size W 0 (obA os (j + 1)) [] w3 R3 from by rw [HNX.out]; exact HMW.out.next m3 HWA.out s3 f3)
        have HAT3 := Lib.hid (at_any (c := c) (HV.out.below (w1 := w3) HM3.out.fr) j (by omega))
        rw [HAJ.out] at HAT3
        clear m3 s3 f3
        go_wp2_with fail
        refine HAT3.out.mono ?_
        rintro e w4 ⟨rfl, hw⟩
        subst w4
        go_wp2_with fail
        go_roundw
        case rel => exact ⟨j + 1, R3, hlt, by go_num, HM3.out⟩
        case measure => simp [intOf]; omega
    · obtain rfl : j = N := by omega
      have HJ0 := Lib.hid (show MW w w.heap.size W 0 (obJ os 0) [] wr R from by rw [obJ_zero, hl]; exact hm)
      clear hm
      go_wp2_with fail
      go_loopw [10] (fun i wx => ∃ (q : Nat) (R : Nat → Value), q ≤ j ∧ i = .int .i64 q ∧ MW w w.heap.size W 0 (obJ os q) [] wx R) (fun i _ => j - (intOf i).toNat)
      case atStart => exact ⟨0, _, Nat.zero_le _, rfl, HJ0.out⟩
      case round =>
        obtain ⟨q, R, hq, rfl, hm⟩ := hrel
        clear HJ0
        by_cases hlt2 : q < j
        · obtain ⟨o, ho⟩ : ∃ o, os[q]? = some o := ⟨_, List.getElem?_eq_getElem (by omega)⟩
          have hmo := List.mem_of_getElem? ho
          have htl := HR.out.tle hmo
          have hsh := HV.out.short o hmo
          have hrg := HR.out.rng o hmo
          rw [obJ_obM ho] at hm
          have HQ := Lib.hid hm
          have HO := Lib.hid ho
          obtain ⟨S, hS⟩ : ∃ S, o.fs.length = S := ⟨_, rfl⟩
          have HS := Lib.hid hS
          rw [hS] at hsh
          have hqi : (q : Int) < j := by omega
          have hq0 : (0 : Int) ≤ q := by omega
          clear hm ho hS
          go_wp2_with fail
          go_loopw [11] (fun i wx => ∃ (k : Nat) (R : Nat → Value), k ≤ S ∧ i = .int .i64 k ∧ MW w w.heap.size W 0 (obM os q o k) [] wx R) (fun i _ => S - (intOf i).toNat)
          case atStart => exact ⟨0, _, Nat.zero_le _, rfl, HQ.out⟩
          case round =>
            obtain ⟨k, R, hk, rfl, hm⟩ := hrel
            clear HQ
            have hvr := HV.out.below (w1 := wr) hm.fr
            obtain ⟨g, off, fa, fc, rfl, hg, c0, c1, c2, c3, hfs⟩ := hvr.at_ q o HO.out
            rw [HS.out] at c2
            have hsti := start_obM HR.out HO.out (k := k) (by rw [HS.out]; exact hk)
            have HMM := Lib.hid hm
            clear hfs c0 c1 c3 hg
            by_cases hlt3 : k < S
            · have HAT := Lib.hid (at_any (c := c) hvr q (by omega))
              have hkl : k < o.fs.length := by rw [HS.out]; exact hlt3
              have hrx := hrg (o.fs.getD k 0) (by rw [List.getD_eq_getElem?_getD, List.getElem?_eq_getElem hkl]; exact List.getElem_mem _)
              have HWD := Lib.hid (word_any (c := c) hvr HO.out hkl hrx.1)
              obtain ⟨x0, x1⟩ := wordW_bd os q k
              obtain ⟨X, hX⟩ : ∃ X : Nat, wordW os q k = X := ⟨(wordW os q k).toNat, by omega⟩
              have HX := Lib.hid hX
              rw [hX] at HWD x0 x1
              obtain ⟨A, hA⟩ : ∃ A, addr4 os q = A := ⟨_, rfl⟩
              rw [hA] at HAT hsti
              have hidx : idxAt (obM os q o k) 0 W (A : Int) = some q := by
                have := idxAt_of (os := obM os q o k) (h := 0) (W := W) (j := q) (List.getElem?_eq_some_iff.1 (obM_get (k := k) (o := o) (by rw [hl]; exact hlt2))).1
                rw [adr_0, show ((start (obM os q o k) q : Nat) : Int) + 1 = (A : Int) by omega] at this
                exact this
              have hle := addr4_le HV.out.short q (by omega)
              rw [hA] at hle
              have HST := Lib.hid (fun (W1 : World) (hb : Below wr.heap.size wr W1) => store_hit (MemV.below HMM.out.m hb) HMM.out.z (A : Int) k X (by omega) hidx (obM_get (by rw [hl]; exact hlt2)) (by rw [obP_len htl (Nat.le_of_lt hkl)]; exact hkl))
              have hki : (k : Int) < S := by omega
              have hk0 : (0 : Int) ≤ k := by omega
              clear hm hrx hX hA hidx hle hsti
              go_wp2_with fail
              refine HAT.out.mono ?_
              rintro e w4 ⟨rfl, hw⟩
              subst w4
              go_wp2_with fail
              refine HWD.out.mono ?_
              rintro e w5 ⟨rfl, hb5⟩
              have HST5 := Lib.hid (HST.out w5 hb5)
              have HM5 := Lib.hid hb5
              clear hb5
              go_wp2_with fail
              refine HST5.out.mono ?_
              rintro e w6 ⟨rfl, m6, f6⟩
              have HM6 := Lib.hid (show MW w w.heap.size W 0 (obM os q o (k + 1)) [] w6 R from by
                have hg := obM_get (os := os) (j := q) (k := k) (o := o) (by rw [hl]; exact hlt2)
                have z6 := wf_setF (x := X) (i := k) HMM.out.z hg (by omega)
                rw [setF_eq hg] at m6 z6
                have e1 : (obM os q o k).set q { obP os q o k with ws := (obP os q o k).ws.set k X } = obM os q o (k + 1) := by
                  rw [obM_set (by rw [hl]; exact hlt2), show X = (wordW os q k).toNat from by rw [HX.out]; rfl, obP_set htl hkl]
                  rfl
                rw [e1] at m6 z6
                exact (MW.mk (MemV.below HMM.out.m HM5.out) HMM.out.z HMM.out.ge (HMM.out.fr.trans (HM5.out.mono HMM.out.fr.size))).next m6 z6 (fun _ h => .inl h) f6)
              clear m6 f6
              go_wp2_with fail
              go_roundw
              case rel => exact ⟨k + 1, R, hlt3, by go_num, HM6.out⟩
              case measure => simp [intOf]; omega
            · obtain rfl : k = S := by omega
              have HE := Lib.hid (show MW w w.heap.size W 0 (obJ os (q + 1)) [] wr R from by
                have := hm
                rw [← HS.out, obM_obJ HO.out htl] at this
                exact this)
              clear hm hsti
              go_wp2_with fail
              go_roundw
              case rel => exact ⟨q + 1, _, hlt2, by go_num, HE.out⟩
              case measure => simp [intOf]; omega
        · obtain rfl : q = j := by omega
          have HE := Lib.hid (show MW w w.heap.size W 0 (heapObs os) [] wr R from by rw [← obJ_end, hl]; exact hm)
          clear hm
          go_wp2_with fail
          go_ret
          exact ⟨rfl, R, HE.out⟩
end Go.Proofs.Ytjdhjehnofediaa
namespace Go.Proofs.Ytjdhjehnofediaa
open Go Go.RowKit
/-- a slice of integers as it came in -/
structure RootsV (w : World) (a : Option Addr) (N : Nat) (zs : List Int) : Prop where
  len : zs.length = N
  few : (N : Int) ≤ 9223372036854775807
  cell : ∀ (j : Nat) (z : Int), zs[j]? = some z → ∃ g off, a = some ⟨g, off, none⟩ ∧ g < w.heap.size ∧ w.cell? ⟨g, off + j, none⟩ = some (.int .i64 z)
  rng : ∀ z ∈ zs, -9223372036854775808 ≤ z ∧ z ≤ 9223372036854775807
theorem rootW_bd (os : List O4) (v : Int) : 0 ≤ rootW os v ∧ rootW os v < 18446744073709551616 := by
  unfold rootW
  split
  · omega
  · split
    · omega
    · split
      · exact intW_bd _
      · have := ptrW_bd (addr4 os (v % os.length).toNat : Nat); omega
/-- the words of the first roots -/
def rootsN (os : List O4) (zs : List Int) (k : Nat) : List Nat := (zs.take k).map fun v => (rootW os v).toNat
theorem rootsN_length {os : List O4} {zs : List Int} {k : Nat} (h : k ≤ zs.length) : (rootsN os zs k).length = k := by simp [rootsN]; omega
theorem rootsN_succ {os : List O4} {zs : List Int} {k : Nat} {z : Int} (h : zs[k]? = some z) : rootsN os zs (k + 1) = rootsN os zs k ++ [(rootW os z).toNat] := by
  obtain ⟨hk, e⟩ := List.getElem?_eq_some_iff.1 h
  unfold rootsN
  rw [List.take_succ_eq_append_getElem hk, List.map_append, e]
  rfl
set_option maxRecDepth 100000 in
set_option maxHeartbeats 4000000 in
theorem words_root {w : World} {a a2 : Option Addr} {N c N2 c2 : Nat} {os : List O4} {zs : List Int} (hv : ObsV w a N os) (hz : RootsV w a2 N2 zs) :
    Calls Try.prog 17 #[.slice a N c, .slice a2 N2 c2] w fun e w' => ∃ v, e = .returned v ∧ w'.ownsRow w.heap.size 56 1 v (min N2 50) (u64s (rootsN os zs (min N2 50))) ∧ Below w.heap.size w w' := by
  obtain ⟨i0, hi, hz0, hz1, hz2⟩ := info_parts infoU64
  have hl := hz.len
  have hfew := hz.few
  have HV := Lib.hid hv
  have HZ := Lib.hid hz
  clear hv hz
  go_enter Try.func17, Try.ntmps17
  go_wp2_with fail
  go_loopw [5, 6] (fun o i wr => ∃ k : Nat, k ≤ min N2 50 ∧ i = .int .i64 k ∧ wr.ownsRow w.heap.size 56 1 o k (u64s (rootsN os zs k)) ∧ Below w.heap.size w wr) (fun _ i _ => 50 - (intOf i).toNat)
  case atStart => exact ⟨0, Nat.zero_le _, rfl, World.ownsRow_nil _ _ _ _, Below.refl _ _⟩
  case round =>
    obtain ⟨k, hk, rfl, hrow, hb⟩ := hrel
    by_cases hlt : k < N2
    · by_cases hlt2 : k < 50
      · obtain ⟨z, hzk⟩ : ∃ z, zs[k]? = some z := ⟨_, List.getElem?_eq_getElem (by omega)⟩
        obtain ⟨hr0, hr1⟩ := HZ.out.rng z (List.mem_of_getElem? hzk)
        obtain ⟨g, off, ha, hg, hc⟩ := HZ.out.cell k z hzk
        have hc' : wr.cell? ⟨g, off + k, none⟩ = some (.int .i64 z) := (World.cell?_of_block (hb.block g hg)).trans hc
        subst ha
        obtain ⟨x0, x1⟩ := rootW_bd os z
        have HNX := Lib.hid (rootsN_succ (os := os) hzk)
        have HRT := Lib.hid (root_any (c := c) (HV.out.below hb) z hr0 hr1)
        obtain ⟨X, hX⟩ : ∃ X : Nat, rootW os z = X := ⟨(rootW os z).toNat, by omega⟩
        have HXN := Lib.hid (show (rootW os z).toNat = X from by rw [hX]; rfl)
        rw [hX] at HRT
        obtain ⟨va, cap, hv, hcap, hcap2⟩ : ∃ a cap, u5 = .slice a k cap ∧ k ≤ cap ∧ cap ≤ 9223372036854775807 := by
          rcases hrow.2 with ⟨hv, h0⟩ | ⟨g, cap, cur, hv, _, _, h1, h2, _⟩
          · exact ⟨none, 0, by rw [hv, h0], by omega, by omega⟩
          · exact ⟨_, cap, hv, h1, by simpa [maxLen] using h2⟩
        subst hv
        have HOV := Lib.hid hrow
        have HB := Lib.hid hb
        have hki : (k : Int) < N2 := by omega
        have hk5 : (k : Int) < 50 := by omega
        have hk0 : (0 : Int) ≤ k := by omega
        clear hrow hb hzk hc hg hX x0 x1 hr0 hr1
        go_wp2_with fail
        refine HRT.out.mono ?_
        rintro e w1 ⟨rfl, hw⟩
        subst w1
        go_wp2_with (at_builtin; refine wpList_append_own_at _ rfl _ _ 32 rfl w.heap.size 56 i0 (.int .u64 0) 1 8 Try.underlying32 hi hz0 hz1 hz2 rfl (by decide) (.slice va k cap) k (u64s (rootsN os zs k)) rfl (HOV.out.alloc _) ⟨wr.heap.size, 0, none⟩ 1 1 [.int .u64 (X : Int)] rfl rfl (cell_one_new _ _ _) (by simp [Value.oneCell']) (by unfold maxLen; omega) (by omega) (by have := HB.out.size; simpa using Nat.le_succ_of_le this) ?_; intro v7 w7 hown7 hgrow7 _ hblk7; rw [u64s_snoc] at hown7; obtain ⟨g7, cap7, rfl⟩ := ownsRow_succ (k := k) hown7; have HS7 := Lib.hid (And.intro hown7 (HB.out.trans ((Fr.of_grown hgrow7).below HB.out.size (fun i hi => (HOV.out.lt i hi).1)))); clear hown7 hgrow7 hblk7)
        go_roundw
        case rel => exact ⟨k + 1, by omega, by go_num, by rw [HNX.out, HXN.out]; exact HS7.out.1, HS7.out.2⟩
        case measure => simp [intOf]; omega
      · have hk50 : k = 50 := by omega
        have HE := Lib.hid (And.intro hrow hb)
        have HME := Lib.hid (show min N2 50 = k by omega)
        have h5 : ¬ (k : Int) < 50 := by omega
        clear hrow hb hk50
        go_wp2_with fail
        go_ret
        exact ⟨u5, rfl, by rw [HME.out]; exact HE.out.1, HE.out.2⟩
    · have HE := Lib.hid (And.intro hrow hb)
      have HME := Lib.hid (show min N2 50 = k by omega)
      have h5 : ¬ (k : Int) < N2 := by omega
      clear hrow hb
      go_wp2_with fail
      go_ret
      exact ⟨u5, rfl, by rw [HME.out]; exact HE.out.1, HE.out.2⟩
end Go.Proofs.Ytjdhjehnofediaa
