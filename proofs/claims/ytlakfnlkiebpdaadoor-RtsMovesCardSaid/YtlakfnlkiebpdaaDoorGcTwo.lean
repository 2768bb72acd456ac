/- Contracts of the reference's At and Number. Conditions: the list of objects lies as ObsV says. Contracts of the reference's Root and Word. Conditions: the list of objects lies as ObsV says. The statements' made: the memory that a heap makes. Conditions: the list of objects lies as ObsV says, each right, in a memory that has room. The contract of the statements' made. Conditions: the list of objects lies as ObsV says, each right, in a memory that has room. The contract of the statements' words. Conditions: the list of objects lies as ObsV says, the roots are integers. The contract of the reference's Made. Conditions: the list of objects lies as ObsV says, each right, in a memory that has room. -/
import Derived.Test.YtlakfnlkiebpdaaDoorGcOne
import Derived.Deep.RegionLaw
import Derived.Test.YtlakfnlkiebpdaaDoorRmOne
namespace Go.Proofs.YtlakfnlkiebpdaaDoor
open Go Go.RowKit
/-- what an object is made of -/
structure O4 where
  k : Int
  t : Int
  fs : List Int
  bd : Int
/-- a heap as Heap hands it back -/
structure ObsV (w : World) (a : Option Addr) (N : Nat) (os : List O4) : Prop where
  len : os.length = N
  few : N ≤ 40
  short : ∀ o ∈ os, o.fs.length ≤ 12
  at_ : ∀ (i : Nat) (o : O4), os[i]? = some o → ∃ g off fa fc, a = some ⟨g, off, none⟩ ∧ g < w.heap.size ∧ w.cell? ⟨g, off + i * 4, none⟩ = some (.int .i64 o.k) ∧ w.cell? ⟨g, off + i * 4 + 1, none⟩ = some (.int .i64 o.t) ∧ w.cell? ⟨g, off + i * 4 + 2, none⟩ = some (.slice fa o.fs.length fc) ∧ w.cell? ⟨g, off + i * 4 + 3, none⟩ = some (.int .i64 o.bd) ∧
    ∀ (f : Nat) (x : Int), o.fs[f]? = some x → ∃ fg fo, fa = some ⟨fg, fo, none⟩ ∧ fg < w.heap.size ∧ w.cell? ⟨fg, fo + f, none⟩ = some (.int .i64 x)
theorem ObsV.below {w w1 : World} {a : Option Addr} {N : Nat} {os : List O4} (h : ObsV w a N os) (hb : Below w.heap.size w w1) : ObsV w1 a N os := by
  refine ⟨h.len, h.few, h.short, fun i o hi => ?_⟩
  obtain ⟨g, off, fa, fc, h1, h2, h3, h4, h5, h6, h7⟩ := h.at_ i o hi
  have hs := hb.size
  have hc : ∀ (q : Nat) (u : Value), w.cell? ⟨g, q, none⟩ = some u → w1.cell? ⟨g, q, none⟩ = some u := fun q u hu => (World.cell?_of_block (hb.block g h2)).trans hu
  refine ⟨g, off, fa, fc, h1, by omega, hc _ _ h3, hc _ _ h4, hc _ _ h5, hc _ _ h6, fun f x hx => ?_⟩
  obtain ⟨fg, fo, e1, e2, e3⟩ := h7 f x hx
  exact ⟨fg, fo, e1, by omega, (World.cell?_of_block (hb.block fg e2)).trans e3⟩
/-- the address of the object of a number of a heap that was just made -/
def addr4 (os : List O4) (k : Nat) : Nat := 1 + ((os.take k).map fun o => 1 + o.fs.length).sum
theorem addr4_zero (os : List O4) : addr4 os 0 = 1 := by simp [addr4]
theorem addr4_succ {os : List O4} {k : Nat} {o : O4} (h : os[k]? = some o) : addr4 os (k + 1) = addr4 os k + 1 + o.fs.length := by
  obtain ⟨hk, e⟩ := List.getElem?_eq_some_iff.1 h
  unfold addr4
  rw [List.take_succ_eq_append_getElem hk, List.map_append, List.sum_append, e]
  simp
  omega
theorem addr4_le {os : List O4} (h : ∀ o ∈ os, o.fs.length ≤ 12) (k : Nat) (hk : k ≤ os.length) : addr4 os k ≤ 1 + k * 13 := by
  induction k with
  | zero => rw [addr4_zero]; omega
  | succ k ih =>
    have hg : os[k]? = some (os[k]'(by omega)) := List.getElem?_eq_getElem (by omega)
    rw [addr4_succ hg]
    have := h _ (List.mem_of_getElem? hg)
    have := ih (by omega)
    omega
set_option maxHeartbeats 2000000 in
theorem at_any {w : World} {a : Option Addr} {N c : Nat} {os : List O4} (hv : ObsV w a N os) (k : Nat) (hk : k ≤ N) :
    Calls Tryd.prog 57 #[.slice a N c, .int .i64 (k : Int)] w fun e w' => e = .returned (.int .i64 (addr4 os k : Nat)) ∧ w' = w := by
  have hl := hv.len
  have h40 := hv.few
  have HV := Lib.hid hv
  have HLE := Lib.hid (fun j hj => addr4_le hv.short j hj)
  clear hv
  go_enter Tryd.func57, Tryd.ntmps57
  go_wp2_with fail
  go_loop [5, 6] (fun x i => ∃ j : Nat, j ≤ k ∧ x = .int .i64 (addr4 os j : Nat) ∧ i = .int .i64 j) (fun _ i => k - (intOf i).toNat)
  case atStart => exact ⟨0, Nat.zero_le _, by rw [addr4_zero]; rfl, rfl⟩
  case round =>
    obtain ⟨j, hj, rfl, rfl⟩ := hrel
    by_cases hlt : j < k
    · obtain ⟨o, ho⟩ : ∃ o, os[j]? = some o := ⟨_, List.getElem?_eq_getElem (by omega)⟩
      obtain ⟨g, off, fa, fc, ha, hg, h3, h4, h5, h6, h7⟩ := HV.out.at_ j o ho
      subst ha
      have hsh := HV.out.short o (List.mem_of_getElem? ho)
      have hle := HLE.out j (by omega)
      have hnx : addr4 os (j + 1) = addr4 os j + 1 + o.fs.length := addr4_succ ho
      obtain ⟨A, hA⟩ : ∃ A, addr4 os j = A := ⟨_, rfl⟩
      obtain ⟨S, hS⟩ : ∃ S, o.fs.length = S := ⟨_, rfl⟩
      rw [hA, hS] at hnx
      rw [hA] at hle ⊢
      rw [hS] at h5 hsh
      have hji : (j : Int) < k := by omega
      have hjn : (j : Int) < N := by omega
      have hj0 : (0 : Int) ≤ j := by omega
      have hA2 : (A : Int) ≤ 600 := by omega
      have hS2 : (S : Int) ≤ 12 := by omega
      have HNX := Lib.hid hnx
      clear h3 h4 h6 h7 hg ho hA hS hnx hle hsh
      go_wp2_with fail
      go_round
      case rel => exact ⟨j + 1, hlt, by rw [HNX.out]; go_num, by go_num⟩
      case measure => simp [intOf]; omega
    · obtain rfl : j = k := by omega
      go_wp2_with fail
      go_ret
      exact ⟨rfl, rfl⟩
/-- the integer of a number below 0 -/
def numI (v : Int) : Int := if (-1 - v) % 2 = 0 then (-1 - v) / 2 else -((-1 - v) / 2) - 1
set_option maxHeartbeats 1000000 in
theorem number_any (v : Int) (h0 : -9223372036854775808 ≤ v) (h1 : v < 0) (w : World) :
    Calls Tryd.prog 60 #[.int .i64 v] w fun e w' => e = .returned (.int .i64 (numI v)) ∧ w' = w := by
  have hn0 : 0 ≤ -1 - v := by omega
  have hn1 : -1 - v ≤ 9223372036854775807 := by omega
  obtain ⟨n, hn⟩ : ∃ n : Nat, -1 - v = n := ⟨(-1 - v).toNat, by omega⟩
  have hu : numI v = if (n : Int) % 2 = 0 then (n : Int) / 2 else -((n : Int) / 2) - 1 := by unfold numI; rw [hn]
  have hn2 : (n : Int) ≤ 9223372036854775807 := by omega
  have hn3 : (0 : Int) ≤ n := by omega
  by_cases hp : (n : Int) % 2 = 0
  · have hb : ((n : Int) % 2 == 0) = true := beqT hp
    rw [if_pos hp] at hu
    rw [hu]
    clear hu hp
    go_enter Tryd.func60, Tryd.ntmps60
    go_wp2_with fail
    go_ret
    exact ⟨rfl, rfl⟩
  · have hb : ((n : Int) % 2 == 0) = false := beqF hp
    rw [if_neg hp] at hu
    rw [hu]
    clear hu hp
    go_enter Tryd.func60, Tryd.ntmps60
    go_wp2_with fail
    go_ret
    exact ⟨rfl, rfl⟩
end Go.Proofs.YtlakfnlkiebpdaaDoor
namespace Go.Proofs.YtlakfnlkiebpdaaDoor
open Go Go.RowKit
theorem among_is (k n : Int) (hn : 1 ≤ n) (hn2 : n ≤ 1000000000) (w : World) :
    Calls Tryd.prog 14 #[.int .i64 k, .int .i64 n] w fun e w' => e = .returned (.int .i64 (k % n)) ∧ w' = w := by
  have t1 := Int.tmod_lt_of_pos k (show 0 < n by omega)
  have t2 : -n < k.tmod n := by
    have := Int.tmod_lt_of_pos (-k) (show 0 < n by omega)
    rw [Int.neg_tmod] at this
    omega
  have e1 : k % n = if k.tmod n < 0 then k.tmod n + n else k.tmod n := by
    have hk : k % n = k.tmod n % n := by
      have := Int.mul_tdiv_add_tmod k n
      conv => lhs; rw [← this]
      rw [Int.add_comm, Int.add_mul_emod_self_left]
    rw [hk]
    split
    · rw [← Int.add_emod_right, Int.emod_eq_of_lt (by omega) (by omega)]
    · rw [Int.emod_eq_of_lt (by omega) (by omega)]
  obtain ⟨m, hm⟩ : ∃ m, k.tmod n = m := ⟨_, rfl⟩
  rw [hm] at t1 t2 e1
  rw [e1]
  clear e1
  have hnz : (n == 0) = false := beqF (by omega)
  by_cases hneg : m < 0
  · rw [if_pos hneg]
    go_enter Tryd.func14, Tryd.ntmps14
    go_wp2
    go_ret
    exact ⟨rfl, rfl⟩
  · rw [if_neg hneg]
    go_enter Tryd.func14, Tryd.ntmps14
    go_wp2
    go_ret
    exact ⟨rfl, rfl⟩
/-- a root's word -/
def rootW (os : List O4) (v : Int) : Int := if v = -9223372036854775808 then 0 else if os.length = 0 ∧ 0 ≤ v then 1 else if v < 0 then intW (numI v) else ptrW (addr4 os (v % os.length).toNat : Nat)
theorem numI_bd {v : Int} (h0 : -9223372036854775808 ≤ v) (h1 : v < 0) : -9223372036854775808 ≤ numI v ∧ numI v ≤ 9223372036854775807 := by
  unfold numI; split <;> omega
set_option maxHeartbeats 1000000 in
theorem root_any {w : World} {a : Option Addr} {N c : Nat} {os : List O4} (hv : ObsV w a N os) (v : Int) (h0 : -9223372036854775808 ≤ v) (h1 : v ≤ 9223372036854775807) :
    Calls Tryd.prog 28 #[.slice a N c, .int .i64 v] w fun e w' => e = .returned (.int .u64 (rootW os v)) ∧ w' = w := by
  have hl := hv.len
  have h40 := hv.few
  by_cases hm : v = -9223372036854775808
  · subst hm
    rw [show rootW os (-9223372036854775808) = 0 from if_pos rfl]
    go_enter Tryd.func28, Tryd.ntmps28
    go_wp2_with fail
    go_ret
    exact ⟨rfl, rfl⟩
  have hmb : (v == -9223372036854775808) = false := beqF hm
  by_cases hneg : v < 0
  · have hr : rootW os v = intW (numI v) := by unfold rootW; rw [if_neg hm, if_neg (by omega), if_pos hneg]
    rw [hr]
    obtain ⟨b0, b1⟩ := numI_bd h0 hneg
    have HN := Lib.hid (fun W1 => number_any v h0 hneg W1)
    have HI := Lib.hid (fun W1 => refint_any (numI v) W1 b0 b1)
    have hge : decide (0 ≤ v) = false := decide_eq_false (by omega)
    clear hr b0 b1
    by_cases hN : N = 0
    · have hNb : ((N : Int) == 0) = true := beqT (by omega)
      go_enter Tryd.func28, Tryd.ntmps28
      go_wp2_with fail
      refine (HN.out _).mono ?_
      rintro e w1 ⟨rfl, hw⟩
      subst w1
      go_wp2_with fail
      refine (HI.out _).mono ?_
      rintro e w1 ⟨rfl, hw⟩
      subst hw
      go_wp2_with fail
      go_ret
      exact ⟨rfl, rfl⟩
    · have hNb : ((N : Int) == 0) = false := beqF (by omega)
      go_enter Tryd.func28, Tryd.ntmps28
      go_wp2_with fail
      refine (HN.out _).mono ?_
      rintro e w1 ⟨rfl, hw⟩
      subst w1
      go_wp2_with fail
      refine (HI.out _).mono ?_
      rintro e w1 ⟨rfl, hw⟩
      subst hw
      go_wp2_with fail
      go_ret
      exact ⟨rfl, rfl⟩
  · have hge : decide (0 ≤ v) = true := decide_eq_true (by omega)
    by_cases hN : N = 0
    · have hNb : ((N : Int) == 0) = true := beqT (by omega)
      have hr : rootW os v = 1 := by unfold rootW; rw [if_neg hm, if_pos (by omega)]
      rw [hr]
      go_enter Tryd.func28, Tryd.ntmps28
      go_wp2_with fail
      go_ret
      exact ⟨rfl, rfl⟩
    · have hNb : ((N : Int) == 0) = false := beqF (by omega)
      have hr : rootW os v = ptrW (addr4 os (v % N).toNat : Nat) := by unfold rootW; rw [if_neg hm, if_neg (by omega), if_neg hneg, hl]
      rw [hr]
      have em0 := Int.emod_nonneg v (show (N : Int) ≠ 0 by omega)
      have em1 := Int.emod_lt_of_pos v (show (0 : Int) < N by omega)
      obtain ⟨r, hr2⟩ : ∃ r : Nat, v % (N : Int) = r := ⟨(v % N).toNat, by omega⟩
      rw [hr2] at em1
      clear em0
      have hrN : r ≤ N := by omega
      have HA := Lib.hid (fun W1 => among_is v N (by omega) (by omega) W1)
      rw [hr2] at HA ⊢
      have HAT := Lib.hid (at_any (c := c) hv r hrN)
      have HP := Lib.hid (fun W1 => refptr_any ((addr4 os r : Nat) : Int) W1)
      rw [Int.toNat_natCast]
      clear hr hr2 hv hrN
      go_enter Tryd.func28, Tryd.ntmps28
      go_wp2_with fail
      refine (HA.out _).mono ?_
      rintro e w1 ⟨rfl, hw⟩
      subst w1
      go_wp2_with fail
      refine HAT.out.mono ?_
      rintro e w1 ⟨rfl, hw⟩
      subst w1
      go_wp2_with fail
      refine (HP.out _).mono ?_
      rintro e w1 ⟨rfl, hw⟩
      subst hw
      go_wp2_with fail
      go_ret
      exact ⟨rfl, rfl⟩
/-- a field's word -/
def wordW (os : List O4) (k f : Nat) : Int := match os[k]? with
  | none => 0
  | some o => if o.t ≤ f then (o.fs.getD f 0) % 18446744073709551616 else if o.bd = (f : Int) + 1 then ptrW (addr4 os k : Nat) + 2 else if o.fs.getD f 0 < 0 then intW (numI (o.fs.getD f 0)) else ptrW (addr4 os ((o.fs.getD f 0) % os.length).toNat : Nat)
set_option maxRecDepth 100000 in
set_option maxHeartbeats 4000000 in
theorem word_any {w : World} {a : Option Addr} {N c : Nat} {os : List O4} (hv : ObsV w a N os) {k f : Nat} {o : O4} (ho : os[k]? = some o) (hf : f < o.fs.length) (hx0 : -9223372036854775808 ≤ o.fs.getD f 0) :
    Calls Tryd.prog 58 #[.slice a N c, .int .i64 (k : Int), .int .i64 (f : Int)] w fun e w' => e = .returned (.int .u64 (wordW os k f)) ∧ Below w.heap.size w w' := by
  have hl := hv.len
  have h40 := hv.few
  have hk := (List.getElem?_eq_some_iff.1 ho).1
  obtain ⟨g, off, fa, fc, ha, hg, c0, c1, c2, c3, hfs⟩ := hv.at_ k o ho
  obtain ⟨fg, fo, rfl, hfg, cf⟩ := hfs f (o.fs.getD f 0) (by rw [List.getD_eq_getElem?_getD, List.getElem?_eq_getElem hf]; rfl)
  subst ha
  have hsh := hv.short o (List.mem_of_getElem? ho)
  have hle := addr4_le hv.short k (by omega)
  have hwd : wordW os k f = if o.t ≤ f then (o.fs.getD f 0) % 18446744073709551616 else if o.bd = (f : Int) + 1 then ptrW (addr4 os k : Nat) + 2 else if o.fs.getD f 0 < 0 then intW (numI (o.fs.getD f 0)) else ptrW (addr4 os ((o.fs.getD f 0) % os.length).toNat : Nat) := by unfold wordW; rw [ho]
  obtain ⟨v, hvv⟩ : ∃ v, o.fs.getD f 0 = v := ⟨_, rfl⟩
  rw [hvv] at hwd hx0 cf
  rw [hwd]
  obtain ⟨t, ht⟩ : ∃ t, o.t = t := ⟨_, rfl⟩
  obtain ⟨bd, hbd⟩ : ∃ bd, o.bd = bd := ⟨_, rfl⟩
  obtain ⟨S, hS⟩ : ∃ S, o.fs.length = S := ⟨_, rfl⟩
  obtain ⟨kd, hkd⟩ : ∃ kd, o.k = kd := ⟨_, rfl⟩
  rw [hkd] at c0
  rw [ht] at c1 ⊢
  rw [hS] at c2 hf hsh
  rw [hbd] at c3 ⊢
  have HV := Lib.hid hv
  have hki : (k : Int) < N := by omega
  have hk0 : (0 : Int) ≤ k := by omega
  have hfi : (f : Int) < S := by omega
  have hf0 : (0 : Int) ≤ f := by omega
  have hS2 : (S : Int) ≤ 12 := by omega
  have hb0 : Below w.heap.size w (w.alloc (.cells #[.int .i64 kd, .int .i64 t, .slice (some ⟨fg, fo, none⟩) S fc, .int .i64 bd] 97)) := (Below.refl _ w).alloc (Nat.le_refl _) _
  clear hfs hwd hvv ht hbd hS hkd ho hv
  by_cases h1 : t ≤ f
  · rw [if_pos h1]
    have hd : decide (t ≤ (f : Int)) = true := decide_eq_true h1
    go_enter Tryd.func58, Tryd.ntmps58
    go_wp2_with fail
    go_ret
    exact ⟨rfl, hb0⟩
  rw [if_neg h1]
  have hd : decide (t ≤ (f : Int)) = false := decide_eq_false h1
  by_cases h2 : bd = (f : Int) + 1
  · rw [if_pos h2]
    subst h2
    have HA := Lib.hid (at_any (c := c) (HV.out.below hb0) k (by omega))
    obtain ⟨A, hA⟩ : ∃ A, addr4 os k = A := ⟨_, rfl⟩
    have hA1 : 1 ≤ A := by rw [← hA]; unfold addr4; omega
    rw [hA] at HA hle ⊢
    have hP : ptrW (A : Int) = 2 * (A : Int) := ptrW_in (by omega) (by omega)
    have HP := Lib.hid (fun W1 => refptr_any (A : Int) W1)
    rw [hP] at HP ⊢
    have hA2 : (A : Int) ≤ 600 := by omega
    have hA0 : (1 : Int) ≤ A := by omega
    clear hA hP hle hA1
    go_enter Tryd.func58, Tryd.ntmps58
    go_wp2_with fail
    refine HA.out.mono ?_
    rintro e w1 ⟨rfl, hw⟩
    subst w1
    go_wp2_with fail
    refine (HP.out _).mono ?_
    rintro e w1 ⟨rfl, hw⟩
    subst hw
    go_wp2_with fail
    go_ret
    exact ⟨ret_int (by omega), hb0⟩
  rw [if_neg h2]
  have hd2 : (bd == (f : Int) + 1) = false := beqF h2
  by_cases h3 : v < 0
  · rw [if_pos h3]
    obtain ⟨b0, b1⟩ := numI_bd hx0 h3
    have HN := Lib.hid (fun W1 => number_any v hx0 h3 W1)
    have HI := Lib.hid (fun W1 => refint_any (numI v) W1 b0 b1)
    clear b0 b1
    go_enter Tryd.func58, Tryd.ntmps58
    go_wp2_with fail
    refine (HN.out _).mono ?_
    rintro e w1 ⟨rfl, hw⟩
    subst w1
    go_wp2_with fail
    refine (HI.out _).mono ?_
    rintro e w1 ⟨rfl, hw⟩
    subst hw
    go_wp2_with fail
    go_ret
    exact ⟨rfl, hb0⟩
  · rw [if_neg h3]
    have em0 := Int.emod_nonneg v (show (N : Int) ≠ 0 by omega)
    have em1 := Int.emod_lt_of_pos v (show (0 : Int) < N by omega)
    obtain ⟨r, hr2⟩ : ∃ r : Nat, v % (N : Int) = r := ⟨(v % N).toNat, by omega⟩
    rw [hr2] at em1
    have HA := Lib.hid (fun W1 => among_is v N (by omega) (by omega) W1)
    rw [hr2] at HA
    rw [hl, hr2, Int.toNat_natCast]
    have HAT := Lib.hid (at_any (c := c) (HV.out.below hb0) r (by omega))
    have HP := Lib.hid (fun W1 => refptr_any ((addr4 os r : Nat) : Int) W1)
    clear em0 em1 hr2
    go_enter Tryd.func58, Tryd.ntmps58
    go_wp2_with fail
    refine (HA.out _).mono ?_
    rintro e w1 ⟨rfl, hw⟩
    subst w1
    go_wp2_with fail
    refine HAT.out.mono ?_
    rintro e w1 ⟨rfl, hw⟩
    subst w1
    go_wp2_with fail
    refine (HP.out _).mono ?_
    rintro e w1 ⟨rfl, hw⟩
    subst hw
    go_wp2_with fail
    go_ret
    exact ⟨rfl, hb0⟩
end Go.Proofs.YtlakfnlkiebpdaaDoor
namespace Go.Proofs.YtlakfnlkiebpdaaDoor
open Go Go.RowKit
/-- a heap whose objects are right, with words that have room for them -/
structure HeapR (os : List O4) (W : Nat) : Prop where
  right : ∀ o ∈ os, 0 ≤ o.k ∧ 0 ≤ o.t ∧ rightB o.k o.fs.length o.t = true
  room : W = 63 + addr4 os os.length
  rng : ∀ o ∈ os, ∀ x ∈ o.fs, -9223372036854775808 ≤ x ∧ x ≤ 9223372036854775807
/-- the first objects, as Alloc makes them -/
def obA (os : List O4) (i : Nat) : List Ob := (os.take i).map fun o => newOb o.k.toNat o.fs.length o.t.toNat
theorem obA_zero (os : List O4) : obA os 0 = [] := rfl
theorem obA_succ {os : List O4} {i : Nat} {o : O4} (h : os[i]? = some o) : obA os (i + 1) = obA os i ++ [newOb o.k.toNat o.fs.length o.t.toNat] := by
  obtain ⟨hk, e⟩ := List.getElem?_eq_some_iff.1 h
  unfold obA
  rw [List.take_succ_eq_append_getElem hk, List.map_append, e]
  rfl
theorem HeapR.tle {os : List O4} {W : Nat} (r : HeapR os W) {o : O4} (ho : o ∈ os) : o.t.toNat ≤ o.fs.length := by
  obtain ⟨_, h1, h2⟩ := r.right o ho
  have := right_bd h2
  omega
theorem HeapR.right' {os : List O4} {W : Nat} (r : HeapR os W) {o : O4} (ho : o ∈ os) : rightB (o.k.toNat : Nat) (o.fs.length : Nat) (o.t.toNat : Nat) = true := by
  obtain ⟨h0, h1, h2⟩ := r.right o ho
  rw [Int.toNat_of_nonneg h0, Int.toNat_of_nonneg h1]
  exact h2
theorem used_obA {os : List O4} {W : Nat} (r : HeapR os W) (i : Nat) (hi : i ≤ os.length) : used (obA os i) + 1 = addr4 os i := by
  induction i with
  | zero => rw [obA_zero, addr4_zero]; rfl
  | succ i ih =>
    have hg : os[i]? = some (os[i]'(by omega)) := List.getElem?_eq_getElem (by omega)
    have hm := List.mem_of_getElem? hg
    rw [obA_succ hg, addr4_succ hg, used_append, used_one, newOb_len (r.tle hm)]
    have := ih (by omega)
    omega
theorem addr4_mono (os : List O4) {i : Nat} (hi : i ≤ os.length) : addr4 os i ≤ addr4 os os.length := by
  obtain ⟨d, hd⟩ : ∃ d, os.length = i + d := ⟨os.length - i, by omega⟩
  rw [hd]
  induction d generalizing i with
  | zero => exact Nat.le_refl _
  | succ d ih =>
    have hg : os[i]? = some (os[i]'(by omega)) := List.getElem?_eq_getElem (by omega)
    have h1 := addr4_succ hg
    have h2 := ih (i := i + 1) (by omega) (by omega)
    rw [show i + 1 + d = i + (d + 1) by omega] at h2
    omega
/-- there is room for the next one -/
theorem HeapR.fits {os : List O4} {W : Nat} (r : HeapR os W) {i : Nat} {o : O4} (h : os[i]? = some o) : used (obA os i) + o.fs.length + 1 ≤ W := by
  have hk := (List.getElem?_eq_some_iff.1 h).1
  have h1 := used_obA r i (by omega)
  have h2 := addr4_succ h
  have h3 := addr4_mono os (i := i + 1) (by omega)
  have := r.room
  omega
theorem HeapR.size {os : List O4} {W : Nat} (r : HeapR os W) (h40 : os.length ≤ 40) (hs : ∀ o ∈ os, o.fs.length ≤ 12) : 64 ≤ W ∧ W ≤ 600 := by
  have h1 := addr4_le hs os.length (Nat.le_refl _)
  have h2 : 1 ≤ addr4 os os.length := by unfold addr4; omega
  have := r.room
  omega
/-- the object of a number, k of its fields stored -/
def obP (os : List O4) (j : Nat) (o : O4) (k : Nat) : Ob := ⟨o.k.toNat, o.t.toNat, (List.range k).map (fun f => (wordW os j f).toNat) ++ (newOb o.k.toNat o.fs.length o.t.toNat).ws.drop k, 0⟩
/-- the memory of a heap -/
def heapObs (os : List O4) : List Ob := os.mapIdx fun j o => ⟨o.k.toNat, o.t.toNat, (List.range o.fs.length).map (fun f => (wordW os j f).toNat), 0⟩
theorem heapObs_length (os : List O4) : (heapObs os).length = os.length := by simp [heapObs]
theorem obP_zero (os : List O4) (j : Nat) (o : O4) : obP os j o 0 = newOb o.k.toNat o.fs.length o.t.toNat := by simp [obP, newOb]
theorem ptrW_bd (x : Int) : 0 ≤ ptrW x ∧ ptrW x ≤ 2199023255552 := by unfold ptrW; split <;> omega
theorem intW_bd (x : Int) : 0 ≤ intW x ∧ intW x < 18446744073709551616 := by unfold intW; omega
theorem wordW_bd (os : List O4) (k f : Nat) : 0 ≤ wordW os k f ∧ wordW os k f < 18446744073709551616 := by
  unfold wordW
  cases os[k]? with
  | none => show (0 : Int) ≤ 0 ∧ (0 : Int) < 18446744073709551616; omega
  | some o =>
    simp only []
    split
    · omega
    · split
      · have := ptrW_bd (addr4 os k : Nat); omega
      · split
        · exact intW_bd _
        · have := ptrW_bd (addr4 os ((o.fs.getD f 0) % os.length).toNat : Nat); omega
theorem obP_len {os : List O4} {j k : Nat} {o : O4} (ht : o.t.toNat ≤ o.fs.length) (hk : k ≤ o.fs.length) : (obP os j o k).ws.length = o.fs.length := by
  simp only [obP, List.length_append, List.length_map, List.length_range, List.length_drop, newOb_len ht]
  omega
theorem obP_set {os : List O4} {j k : Nat} {o : O4} (ht : o.t.toNat ≤ o.fs.length) (hk : k < o.fs.length) : ({ obP os j o k with ws := (obP os j o k).ws.set k (wordW os j k).toNat } : Ob) = obP os j o (k + 1) := by
  have hl : (newOb o.k.toNat o.fs.length o.t.toNat).ws.length = o.fs.length := newOb_len ht
  unfold obP
  simp only [Ob.mk.injEq, true_and, and_true]
  rw [List.set_append_right _ _ (by simp), List.length_map, List.length_range, Nat.sub_self, List.drop_eq_getElem_cons (by omega), List.set_cons_zero, List.range_succ, List.map_append, List.append_assoc]
  rfl
theorem obP_full {os : List O4} {j : Nat} {o : O4} (ht : o.t.toNat ≤ o.fs.length) : obP os j o o.fs.length = ⟨o.k.toNat, o.t.toNat, (List.range o.fs.length).map (fun f => (wordW os j f).toNat), 0⟩ := by
  have hl : (newOb o.k.toNat o.fs.length o.t.toNat).ws.length = o.fs.length := newOb_len ht
  unfold obP
  rw [List.drop_eq_nil_of_le (by omega), List.append_nil]
/-- the objects while k fields of the j-th are stored -/
def obM (os : List O4) (j : Nat) (o : O4) (k : Nat) : List Ob := (heapObs os).take j ++ obP os j o k :: (obA os os.length).drop (j + 1)
theorem heapObs_get {os : List O4} {j : Nat} {o : O4} (h : os[j]? = some o) : (heapObs os)[j]? = some ⟨o.k.toNat, o.t.toNat, (List.range o.fs.length).map (fun f => (wordW os j f).toNat), 0⟩ := by
  simp [heapObs, h]
theorem obM_get {os : List O4} {j k : Nat} {o : O4} (hj : j < os.length) : (obM os j o k)[j]? = some (obP os j o k) := by
  unfold obM
  rw [List.getElem?_append_right (by rw [List.length_take, heapObs_length]; omega), List.length_take, heapObs_length, Nat.min_eq_left (by omega), Nat.sub_self]
  rfl
theorem obM_set {os : List O4} {j k : Nat} {o : O4} (hj : j < os.length) (p : Ob) : (obM os j o k).set j p = (heapObs os).take j ++ p :: (obA os os.length).drop (j + 1) := by
  unfold obM
  rw [List.set_append_right _ _ (by rw [List.length_take, heapObs_length]; omega), List.length_take, heapObs_length, Nat.min_eq_left (by omega), Nat.sub_self]
  rfl
/-- the objects when the first j are stored -/
def obJ (os : List O4) (j : Nat) : List Ob := (heapObs os).take j ++ (obA os os.length).drop j
theorem obJ_zero (os : List O4) : obJ os 0 = obA os os.length := by simp [obJ]
theorem obJ_end (os : List O4) : obJ os os.length = heapObs os := by
  unfold obJ
  rw [List.take_of_length_le (by rw [heapObs_length]; exact Nat.le_refl _), List.drop_eq_nil_of_le (by simp [obA]), List.append_nil]
theorem obA_get {os : List O4} {j : Nat} {o : O4} (h : os[j]? = some o) : (obA os os.length)[j]? = some (newOb o.k.toNat o.fs.length o.t.toNat) := by
  simp [obA, h]
theorem obJ_obM {os : List O4} {j : Nat} {o : O4} (h : os[j]? = some o) : obJ os j = obM os j o 0 := by
  obtain ⟨hj, e⟩ := List.getElem?_eq_some_iff.1 (obA_get h)
  unfold obJ obM
  rw [List.drop_eq_getElem_cons hj, e, obP_zero]
theorem obM_obJ {os : List O4} {j : Nat} {o : O4} (h : os[j]? = some o) (ht : o.t.toNat ≤ o.fs.length) : obM os j o o.fs.length = obJ os (j + 1) := by
  obtain ⟨hj, e⟩ := List.getElem?_eq_some_iff.1 (heapObs_get h)
  unfold obJ obM
  rw [obP_full ht, List.take_succ_eq_append_getElem hj, e, List.append_assoc]
  rfl
theorem sz_heap (os : List O4) : sz (heapObs os) = os.map fun o => o.fs.length := by
  unfold sz heapObs
  apply List.ext_getElem
  · simp
  · intro i h1 h2; simp
theorem sz_obA {os : List O4} {W : Nat} (r : HeapR os W) : sz (obA os os.length) = os.map fun o => o.fs.length := by
  unfold sz obA
  rw [List.take_length, List.map_map]
  apply List.map_congr_left
  intro o ho
  exact newOb_len (r.tle ho)
theorem sz_obM {os : List O4} {W j k : Nat} {o : O4} (r : HeapR os W) (h : os[j]? = some o) (hk : k ≤ o.fs.length) : sz (obM os j o k) = sz (obA os os.length) := by
  obtain ⟨hj, e⟩ := List.getElem?_eq_some_iff.1 h
  have h1 : sz (obM os j o k) = (sz (heapObs os)).take j ++ o.fs.length :: (sz (obA os os.length)).drop (j + 1) := by
    unfold obM
    show List.map _ _ = _
    rw [List.map_append, List.map_cons, obP_len (r.tle (List.mem_of_getElem? h)) hk, List.map_take, List.map_drop]
    rfl
  rw [h1, sz_heap, sz_obA r]
  conv => rhs; rw [← List.take_append_drop j (os.map fun o => o.fs.length)]
  have hd := List.drop_eq_getElem_cons (l := os.map fun o => o.fs.length) (i := j) (by simpa using hj)
  rw [hd]
  simp [e]
theorem start_obM {os : List O4} {W j k : Nat} {o : O4} (r : HeapR os W) (h : os[j]? = some o) (hk : k ≤ o.fs.length) : start (obM os j o k) j + 1 = addr4 os j := by
  have hj := (List.getElem?_eq_some_iff.1 h).1
  rw [start_congr (sz_obM r h hk) j, ← used_obA r j (by omega)]
  unfold start obA
  rw [List.take_length, ← List.map_take]
end Go.Proofs.YtlakfnlkiebpdaaDoor
namespace Go.Proofs.YtlakfnlkiebpdaaDoor
open Go Go.RowKit
set_option maxRecDepth 100000 in
set_option maxHeartbeats 8000000 in
theorem made_any {w : World} {a : Option Addr} {N c W : Nat} {os : List O4} (hv : ObsV w a N os) (r : HeapR os W) :
    Calls Tryd.prog 26 #[.slice a N c, .int .i64 (W : Int)] w fun e w' => e = .returned (.pointer (some ⟨w.heap.size, 0, none⟩)) ∧ ∃ R, MW w w.heap.size W 0 (heapObs os) [] w' R := by
  have hl := hv.len
  have h40 := hv.few
  obtain ⟨hW0, hW1⟩ := r.size (by omega) hv.short
  have HNW := Lib.hid (new_raw W hW0 (by omega))
  have HV := Lib.hid hv
  have HR := Lib.hid r
  clear hv r
  go_enter Tryd.func26, Tryd.ntmps26
  go_wp2_with fail
  refine (HNW.out _).mono ?_
  rintro e w1 ⟨rfl, hw1⟩
  have HM1 := Lib.hid (show MW w w.heap.size W 0 (obA os 0) [] w1 (fun _ => .slice none 0 0) from by rw [hw1]; exact MW.new w hW0 (by omega))
  clear hw1 HNW
  have hpn : ((some (⟨w.heap.size, 0, none⟩ : Addr)) == none) = false := rfl
  go_wp2_with fail
  go_loopw [7] (fun i wr => ∃ (j : Nat) (R : Nat → Value), j ≤ N ∧ i = .int .i64 j ∧ MW w w.heap.size W 0 (obA os j) [] wr R) (fun i _ => N - (intOf i).toNat)
  case atStart => exact ⟨0, _, Nat.zero_le _, rfl, HM1.out⟩
  case round =>
    obtain ⟨j, R, hj, rfl, hm⟩ := hrel
    clear HM1
    by_cases hlt : j < N
    · obtain ⟨o, ho⟩ : ∃ o, os[j]? = some o := ⟨_, List.getElem?_eq_getElem (by omega)⟩
      have hmo := List.mem_of_getElem? ho
      have hvr := HV.out.below (w1 := wr) hm.fr
      obtain ⟨g, off, fa, fc, rfl, hg, c0, c1, c2, c3, hfs⟩ := hvr.at_ j o ho
      have hsh := HV.out.short o hmo
      obtain ⟨hk0, ht0, _⟩ := HR.out.right o hmo
      have hua := used_obA HR.out j (by omega)
      have HAL := Lib.hid (show Calls Tryd.prog 42 #[.pointer (some ⟨w.heap.size, 0, none⟩), .int .i64 o.k, .int .i64 o.fs.length, .int .i64 o.t] wr.drew _ from alloc_to (hm.drewN 1).m hm.z o.k.toNat o.fs.length o.t.toNat o.k o.fs.length o.t (addr4 os j : Nat) (by omega) rfl (by omega) (by rw [adr_0]; omega) (HR.out.right' hmo) (HR.out.fits ho))
      have HMW := Lib.hid (hm.drewN 1)
      have HWA := Lib.hid (wf_alloc hm.z (HR.out.right' hmo) (HR.out.fits ho))
      have HNX := Lib.hid (obA_succ ho)
      have hle := addr4_le HV.out.short j (by omega)
      obtain ⟨A, hA⟩ : ∃ A, addr4 os j = A := ⟨_, rfl⟩
      rw [hA] at HAL hle
      obtain ⟨S, hS⟩ : ∃ S, o.fs.length = S := ⟨_, rfl⟩
      rw [hS] at HAL HWA HNX c2 hsh
      obtain ⟨t, ht⟩ : ∃ t, o.t = t := ⟨_, rfl⟩
      obtain ⟨kd, hkd⟩ : ∃ kd, o.k = kd := ⟨_, rfl⟩
      rw [ht] at HAL HWA HNX c1
      rw [hkd] at HAL HWA HNX c0
      have HAJ := Lib.hid hA
      have hji : (j : Int) < N := by omega
      have hj0 : (0 : Int) ≤ j := by omega
      have hAA : ((A : Int) != (A : Int)) = false := by simp
      clear hm hvr hfs hg ho hmo hk0 ht0 hua hA hS ht hkd hle hsh
      go_wp2_with fail
      go_region_law ((go_simp; go_at_call 42; refine (HAL.out).mono ?_; rintro e w3 ⟨rfl, R3, m3, s3, f3⟩))
      all_goals
        have HM3 := Lib.hid (show MW w w.heap.size W 0 (obA os (j + 1)) [] w3 R3 from by rw [HNX.out]; exact HMW.out.next m3 HWA.out s3 f3)
        have HAT3 := Lib.hid (at_any (c := c) (HV.out.below (w1 := w3) HM3.out.fr) j (by omega))
        rw [HAJ.out] at HAT3
        clear m3 s3 f3
        go_wp2_with fail
        refine HAT3.out.mono ?_
        rintro e w4 ⟨rfl, hw⟩
        subst w4
        go_wp2_with fail
        go_roundw
        case rel => exact ⟨j + 1, R3, hlt, by go_num, HM3.out⟩
        case measure => simp [intOf]; omega
    · obtain rfl : j = N := by omega
      have HJ0 := Lib.hid (show MW w w.heap.size W 0 (obJ os 0) [] wr R from by rw [obJ_zero, hl]; exact hm)
      clear hm
      go_wp2_with fail
      go_loopw [10] (fun i wx => ∃ (q : Nat) (R : Nat → Value), q ≤ j ∧ i = .int .i64 q ∧ MW w w.heap.size W 0 (obJ os q) [] wx R) (fun i _ => j - (intOf i).toNat)
      case atStart => exact ⟨0, _, Nat.zero_le _, rfl, HJ0.out⟩
      case round =>
        obtain ⟨q, R, hq, rfl, hm⟩ := hrel
        clear HJ0
        by_cases hlt2 : q < j
        · obtain ⟨o, ho⟩ : ∃ o, os[q]? = some o := ⟨_, List.getElem?_eq_getElem (by omega)⟩
          have hmo := List.mem_of_getElem? ho
          have htl := HR.out.tle hmo
          have hsh := HV.out.short o hmo
          have hrg := HR.out.rng o hmo
          rw [obJ_obM ho] at hm
          have HQ := Lib.hid hm
          have HO := Lib.hid ho
          obtain ⟨S, hS⟩ : ∃ S, o.fs.length = S := ⟨_, rfl⟩
          have HS := Lib.hid hS
          rw [hS] at hsh
          have hqi : (q : Int) < j := by omega
          have hq0 : (0 : Int) ≤ q := by omega
          clear hm ho hS
          go_wp2_with fail
          go_loopw [11] (fun i wx => ∃ (k : Nat) (R : Nat → Value), k ≤ S ∧ i = .int .i64 k ∧ MW w w.heap.size W 0 (obM os q o k) [] wx R) (fun i _ => S - (intOf i).toNat)
          case atStart => exact ⟨0, _, Nat.zero_le _, rfl, HQ.out⟩
          case round =>
            obtain ⟨k, R, hk, rfl, hm⟩ := hrel
            clear HQ
            have hvr := HV.out.below (w1 := wr) hm.fr
            obtain ⟨g, off, fa, fc, rfl, hg, c0, c1, c2, c3, hfs⟩ := hvr.at_ q o HO.out
            rw [HS.out] at c2
            have hsti := start_obM HR.out HO.out (k := k) (by rw [HS.out]; exact hk)
            have HMM := Lib.hid hm
            clear hfs c0 c1 c3 hg
            by_cases hlt3 : k < S
            · have HAT := Lib.hid (at_any (c := c) hvr q (by omega))
              have hkl : k < o.fs.length := by rw [HS.out]; exact hlt3
              have hrx := hrg (o.fs.getD k 0) (by rw [List.getD_eq_getElem?_getD, List.getElem?_eq_getElem hkl]; exact List.getElem_mem _)
              have HWD := Lib.hid (word_any (c := c) hvr HO.out hkl hrx.1)
              obtain ⟨x0, x1⟩ := wordW_bd os q k
              obtain ⟨X, hX⟩ : ∃ X : Nat, wordW os q k = X := ⟨(wordW os q k).toNat, by omega⟩
              have HX := Lib.hid hX
              rw [hX] at HWD x0 x1
              obtain ⟨A, hA⟩ : ∃ A, addr4 os q = A := ⟨_, rfl⟩
              rw [hA] at HAT hsti
              have hidx : idxAt (obM os q o k) 0 W (A : Int) = some q := by
                have := idxAt_of (os := obM os q o k) (h := 0) (W := W) (j := q) (List.getElem?_eq_some_iff.1 (obM_get (k := k) (o := o) (by rw [hl]; exact hlt2))).1
                rw [adr_0, show ((start (obM os q o k) q : Nat) : Int) + 1 = (A : Int) by omega] at this
                exact this
              have hle := addr4_le HV.out.short q (by omega)
              rw [hA] at hle
              have HST := Lib.hid (fun (W1 : World) (hb : Below wr.heap.size wr W1) => store_hit (MemV.below HMM.out.m hb) HMM.out.z (A : Int) k X (by omega) hidx (obM_get (by rw [hl]; exact hlt2)) (by rw [obP_len htl (Nat.le_of_lt hkl)]; exact hkl))
              have hki : (k : Int) < S := by omega
              have hk0 : (0 : Int) ≤ k := by omega
              clear hm hrx hX hA hidx hle hsti
              go_wp2_with fail
              refine HAT.out.mono ?_
              rintro e w4 ⟨rfl, hw⟩
              subst w4
              go_wp2_with fail
              refine HWD.out.mono ?_
              rintro e w5 ⟨rfl, hb5⟩
              have HST5 := Lib.hid (HST.out w5 hb5)
              have HM5 := Lib.hid hb5
              clear hb5
              go_wp2_with fail
              refine HST5.out.mono ?_
              rintro e w6 ⟨rfl, m6, f6⟩
              have HM6 := Lib.hid (show MW w w.heap.size W 0 (obM os q o (k + 1)) [] w6 R from by
                have hg := obM_get (os := os) (j := q) (k := k) (o := o) (by rw [hl]; exact hlt2)
                have z6 := wf_setF (x := X) (i := k) HMM.out.z hg (by omega)
                rw [setF_eq hg] at m6 z6
                have e1 : (obM os q o k).set q { obP os q o k with ws := (obP os q o k).ws.set k X } = obM os q o (k + 1) := by
                  rw [obM_set (by rw [hl]; exact hlt2), show X = (wordW os q k).toNat from by rw [HX.out]; rfl, obP_set htl hkl]
                  rfl
                rw [e1] at m6 z6
                exact (MW.mk (MemV.below HMM.out.m HM5.out) HMM.out.z HMM.out.ge (HMM.out.fr.trans (HM5.out.mono HMM.out.fr.size))).next m6 z6 (fun _ h => .inl h) f6)
              clear m6 f6
              go_wp2_with fail
              go_roundw
              case rel => exact ⟨k + 1, R, hlt3, by go_num, HM6.out⟩
              case measure => simp [intOf]; omega
            · obtain rfl : k = S := by omega
              have HE := Lib.hid (show MW w w.heap.size W 0 (obJ os (q + 1)) [] wr R from by
                have := hm
                rw [← HS.out, obM_obJ HO.out htl] at this
                exact this)
              clear hm hsti
              go_wp2_with fail
              go_roundw
              case rel => exact ⟨q + 1, _, hlt2, by go_num, HE.out⟩
              case measure => simp [intOf]; omega
        · obtain rfl : q = j := by omega
          have HE := Lib.hid (show MW w w.heap.size W 0 (heapObs os) [] wr R from by rw [← obJ_end, hl]; exact hm)
          clear hm
          go_wp2_with fail
          go_ret
          exact ⟨rfl, R, HE.out⟩
end Go.Proofs.YtlakfnlkiebpdaaDoor
namespace Go.Proofs.YtlakfnlkiebpdaaDoor
open Go Go.RowKit
/-- a slice of integers as it came in -/
structure RootsV (w : World) (a : Option Addr) (N : Nat) (zs : List Int) : Prop where
  len : zs.length = N
  few : (N : Int) ≤ 9223372036854775807
  cell : ∀ (j : Nat) (z : Int), zs[j]? = some z → ∃ g off, a = some ⟨g, off, none⟩ ∧ g < w.heap.size ∧ w.cell? ⟨g, off + j, none⟩ = some (.int .i64 z)
  rng : ∀ z ∈ zs, -9223372036854775808 ≤ z ∧ z ≤ 9223372036854775807
theorem rootW_bd (os : List O4) (v : Int) : 0 ≤ rootW os v ∧ rootW os v < 18446744073709551616 := by
  unfold rootW
  split
  · omega
  · split
    · omega
    · split
      · exact intW_bd _
      · have := ptrW_bd (addr4 os (v % os.length).toNat : Nat); omega
/-- the words of the first roots -/
def rootsN (os : List O4) (zs : List Int) (k : Nat) : List Nat := (zs.take k).map fun v => (rootW os v).toNat
theorem rootsN_length {os : List O4} {zs : List Int} {k : Nat} (h : k ≤ zs.length) : (rootsN os zs k).length = k := by simp [rootsN]; omega
theorem rootsN_succ {os : List O4} {zs : List Int} {k : Nat} {z : Int} (h : zs[k]? = some z) : rootsN os zs (k + 1) = rootsN os zs k ++ [(rootW os z).toNat] := by
  obtain ⟨hk, e⟩ := List.getElem?_eq_some_iff.1 h
  unfold rootsN
  rw [List.take_succ_eq_append_getElem hk, List.map_append, e]
  rfl
end Go.Proofs.YtlakfnlkiebpdaaDoor
namespace Go.Proofs.YtlakfnlkiebpdaaDoor
open Go Go.RowKit
/-- the document's memory, made since w -/
structure RW (w : World) (b W : Nat) (os : List Ob) (wr : World) (v : Value) (P : List (RO × Value)) : Prop where
  r : RM wr b W 0 v P (.slice none 0 0) []
  e : P.map Prod.fst = ros 0 W os
  z : WF W 0 os []
  ge : ∀ i, OwnR b v P (.slice none 0 0) [] i → w.heap.size ≤ i
  fr : Below w.heap.size w wr
theorem RW.rz {w wr : World} {b W : Nat} {os : List Ob} {v : Value} {P : List (RO × Value)} (x : RW w b W os wr v P) : RZ W 0 P [] := by
  have h1 := x.z.un
  have h3 := x.z.w1
  exact ⟨h3, x.z.hh, by rw [P_used x.e]; omega, by simp [usedP]⟩
theorem RW.drewN {w wr : World} {b W : Nat} {os : List Ob} {v : Value} {P : List (RO × Value)} (x : RW w b W os wr v P) (n : Nat) : RW w b W os (wr.drewN n) v P := ⟨x.r.drewN n, x.e, x.z, x.ge, ⟨x.fr.os, x.fr.tape, x.fr.output, x.fr.size, x.fr.block⟩⟩
theorem RW.below {w wr w1 : World} {b W : Nat} {os : List Ob} {v : Value} {P : List (RO × Value)} (x : RW w b W os wr v P) (hb : Below wr.heap.size wr w1) : RW w b W os w1 v P := ⟨x.r.below hb, x.e, x.z, x.ge, x.fr.trans (hb.mono x.fr.size)⟩
theorem ownL_none {i : Nat} (h : OwnL (.slice none 0 0) [] i) : False := by
  rcases h with h | ⟨p, hp, _⟩
  · cases h
  · cases hp
theorem ownR_nil {b : Nat} (i : Nat) (h : OwnR b (.slice none 0 0) [] (.slice none 0 0) [] i) : i = b := by
  rcases h with h | h | h
  · exact h
  · exact (ownL_none h).elim
  · exact (ownL_none h).elim
theorem RW.new {w wr : World} {b W : Nat} (h0 : 64 ≤ W) (h1 : W ≤ 65536) (hblk : wr.heap[b]? = some (.cells #[.int .i64 W, .int .i64 0, .slice none 0 0, .slice none 0 0] 30 (0, 0))) (hb : w.heap.size ≤ b) (hf : Below w.heap.size w wr) : RW w b W [] wr (.slice none 0 0) [] :=
  ⟨⟨hblk, RL.nil _, RL.nil _, fun h => ownL_none h, fun h => ownL_none h, fun i h => (ownL_none h).elim⟩, rfl, wf_new h0 h1, fun i hi => by rw [ownR_nil i hi]; exact hb, hf⟩
theorem RW.alloc {w wr w1 : World} {b W k s t : Nat} {os : List Ob} {v v' u : Value} {P : List (RO × Value)} (x : RW w b W os wr v P) (hr : rightB k s t = true) (hf : used os + s + 1 ≤ W)
    (r1 : RM w1 b W 0 v' (P ++ [(⟨adr 0 W (usedP P), k, t, newL s t, 0⟩, u)]) (.slice none 0 0) []) (s1 : ∀ i, OwnR b v' (P ++ [(⟨adr 0 W (usedP P), k, t, newL s t, 0⟩, u)]) (.slice none 0 0) [] i → OwnR b v P (.slice none 0 0) [] i ∨ wr.heap.size ≤ i) (f1 : Fr (OwnR b v P (.slice none 0 0) []) wr w1) :
    RW w b W (os ++ [newOb k s t]) w1 v' (P ++ [(⟨adr 0 W (usedP P), k, t, newL s t, 0⟩, u)]) :=
  ⟨r1, by rw [List.map_append, x.e, ros_snoc, P_used x.e]; rfl, wf_alloc x.z hr hf, fun i hi => by
    rcases s1 i hi with a | a
    · exact x.ge i a
    · exact Nat.le_trans x.fr.size a, x.fr.trans (f1.below x.fr.size x.ge)⟩
theorem RW.store {w wr w1 : World} {b W j i n : Nat} {os : List Ob} {o : Ob} {v : Value} {P : List (RO × Value)} {p : RO × Value} (x : RW w b W os wr v P) (ho : os[j]? = some o) (hp : P[j]? = some p) (hn : n < 18446744073709551616)
    (r1 : RM w1 b W 0 v (P.set j (pW p i n)) (.slice none 0 0) []) (f1 : Fr (OwnR b v P (.slice none 0 0) []) wr w1) :
    RW w b W (os.set j { o with ws := o.ws.set i n }) w1 v (P.set j (pW p i n)) := by
  have hro : p.1 = roOf (objA 0 W os j) o := by
    obtain ⟨u, h2⟩ := P_get x.e ho
    rw [hp] at h2
    rw [Option.some.inj h2]
  have z1 := wf_setF (i := i) x.z ho hn
  rw [setF_eq ho] at z1
  refine ⟨r1, ?_, z1, fun q hq => ?_, x.fr.trans (f1.below x.fr.size x.ge)⟩
  · rw [List.map_set, x.e, ros_set ho (by simp)]
    show (ros 0 W os).set j { p.1 with ws := p.1.ws.set i n } = _
    rw [hro]
    rfl
  · refine x.ge q ?_
    rcases hq with a | a | a
    · exact .inl a
    · exact .inr (.inl (own_set_word hp q a))
    · exact .inr (.inr a)
set_option maxRecDepth 100000 in
set_option maxHeartbeats 8000000 in
theorem rmade_any {w : World} {a : Option Addr} {N c W : Nat} {os : List O4} (hv : ObsV w a N os) (r : HeapR os W) :
    Calls Tryd.prog 27 #[.slice a N c, .int .i64 (W : Int)] w fun e w' => ∃ b v P, e = .returned (.agg #[.int .i64 W, .int .i64 0, v, .slice none 0 0]) ∧ RW w b W (heapObs os) w' v P := by
  have hl := hv.len
  have h40 := hv.few
  obtain ⟨hW0, hW1⟩ := r.size (by omega) hv.short
  have HNW := Lib.hid (rnew_ok W hW0 (by omega))
  have HV := Lib.hid hv
  have HR := Lib.hid r
  clear hv r
  go_enter Tryd.func27, Tryd.ntmps27
  go_wp2_with fail
  refine (HNW.out _).mono ?_
  rintro e w1 ⟨rfl, hb1⟩
  have hr1 := (hb1.block w.heap.size (by simp)).trans (heap_alloc_new w _)
  have hs1 := hb1.size
  rw [World.size_alloc] at hs1
  have HB1 := Lib.hid (((Below.refl _ w).alloc (Nat.le_refl _) _).trans (hb1.mono (by simp)))
  have HR1 := Lib.hid hr1
  clear hb1 HNW hr1
  go_wp2_with fail
  have HM1 := Lib.hid (show RW w1 w1.heap.size W [] (w1.alloc (.cells #[.int .i64 W, .int .i64 0, .slice none 0 0, .slice none 0 0] 30)) (.slice none 0 0) [] from RW.new hW0 (by omega) (heap_alloc_new _ _) (Nat.le_refl _) ((Below.refl _ w1).alloc (Nat.le_refl _) _))
  obtain ⟨b, hb⟩ : ∃ b, w1.heap.size = b := ⟨_, rfl⟩
  rw [hb] at HM1 hs1
  have HBE := Lib.hid hb
  rw [hb]
  clear hb
  go_loopw [7] (fun i wr => ∃ (j : Nat) (v : Value) (P : List (RO × Value)), j ≤ N ∧ i = .int .i64 j ∧ RW w1 b W (obA os j) wr v P) (fun i _ => N - (intOf i).toNat)
  case atStart => exact ⟨0, _, _, Nat.zero_le _, rfl, HM1.out⟩
  case round =>
    obtain ⟨j, v, P, hj, rfl, hm⟩ := hrel
    clear HM1
    by_cases hlt : j < N
    · obtain ⟨o, ho⟩ : ∃ o, os[j]? = some o := ⟨_, List.getElem?_eq_getElem (by omega)⟩
      have hmo := List.mem_of_getElem? ho
      have hvr := (HV.out.below HB1.out).below (w1 := wr) hm.fr
      obtain ⟨g, off, fa, fc, rfl, hg, c0, c1, c2, c3, hfs⟩ := hvr.at_ j o ho
      have hsh := HV.out.short o hmo
      obtain ⟨hk0, ht0, _⟩ := HR.out.right o hmo
      have hfit := HR.out.fits ho
      have HAL := Lib.hid (fun n => ralloc_ok (hm.drewN n).r hm.rz o.k.toNat o.fs.length o.t.toNat (HR.out.right' hmo) (by rw [P_used hm.e]; exact hfit))
      have hk1 : ((o.k.toNat : Nat) : Int) = o.k := by omega
      have ht1 : ((o.t.toNat : Nat) : Int) = o.t := by omega
      have HMW := Lib.hid (fun n => hm.drewN n)
      have HNX := Lib.hid (obA_succ ho)
      have HRF := Lib.hid (And.intro (HR.out.right' hmo) hfit)
      obtain ⟨S, hS⟩ : ∃ S, o.fs.length = S := ⟨_, rfl⟩
      rw [hS] at HAL HNX HRF c2 hsh
      obtain ⟨kd, hkd⟩ : ∃ kd, o.k.toNat = kd := ⟨_, rfl⟩
      obtain ⟨t, ht⟩ : ∃ t, o.t.toNat = t := ⟨_, rfl⟩
      rw [← ht1, ht] at c1
      rw [← hk1, hkd] at c0
      rw [hkd, ht] at HAL HNX HRF
      have hji : (j : Int) < N := by omega
      have hj0 : (0 : Int) ≤ j := by omega
      clear hm hvr hfs hg ho hmo hk0 ht0 hS ht hkd hsh hk1 ht1 hfit
      go_wp2_with fail
      go_region_law ((go_simp; go_at_call 46; refine (HAL.out _).mono ?_; rintro e w3 ⟨rfl, v3, u3, m3, s3, f3⟩))
      all_goals
        have HM3 := Lib.hid ((HMW.out _).alloc HRF.out.1 HRF.out.2 m3 s3 f3)
        clear m3 s3 f3 c0 c1 c2 c3
        go_wp2_with fail
        go_roundw
        case rel => exact ⟨j + 1, _, _, hlt, by go_num, by rw [HNX.out]; exact HM3.out⟩
        case measure => simp [intOf]; omega
    · obtain rfl : j = N := by omega
      have HJ0 := Lib.hid (show RW w1 b W (obJ os 0) wr v P from by rw [obJ_zero, hl]; exact hm)
      clear hm
      go_wp2_with fail
      go_loopw [8] (fun i wx => ∃ (q : Nat) (v : Value) (P : List (RO × Value)), q ≤ j ∧ i = .int .i64 q ∧ RW w1 b W (obJ os q) wx v P) (fun i _ => j - (intOf i).toNat)
      case atStart => exact ⟨0, _, _, Nat.zero_le _, rfl, HJ0.out⟩
      case round =>
        obtain ⟨q, v, P, hq, rfl, hm⟩ := hrel
        clear HJ0
        by_cases hlt2 : q < j
        · obtain ⟨o, ho⟩ : ∃ o, os[q]? = some o := ⟨_, List.getElem?_eq_getElem (by omega)⟩
          have hmo := List.mem_of_getElem? ho
          have htl := HR.out.tle hmo
          have hsh := HV.out.short o hmo
          have hrg := HR.out.rng o hmo
          rw [obJ_obM ho] at hm
          have HQ := Lib.hid hm
          have HO := Lib.hid ho
          obtain ⟨S, hS⟩ : ∃ S, o.fs.length = S := ⟨_, rfl⟩
          have HS := Lib.hid hS
          rw [hS] at hsh
          have hqi : (q : Int) < j := by omega
          have hq0 : (0 : Int) ≤ q := by omega
          clear hm ho hS
          go_wp2_with fail
          go_loopw [9] (fun i wx => ∃ (k : Nat) (v : Value) (P : List (RO × Value)), k ≤ S ∧ i = .int .i64 k ∧ RW w1 b W (obM os q o k) wx v P) (fun i _ => S - (intOf i).toNat)
          case atStart => exact ⟨0, _, _, Nat.zero_le _, rfl, HQ.out⟩
          case round =>
            obtain ⟨k, v, P, hk, rfl, hm⟩ := hrel
            clear HQ
            have hvr := (HV.out.below HB1.out).below (w1 := wr) hm.fr
            obtain ⟨g, off, fa, fc, rfl, hg, c0, c1, c2, c3, hfs⟩ := hvr.at_ q o HO.out
            rw [HS.out] at c2
            have hsti := start_obM HR.out HO.out (k := k) (by rw [HS.out]; exact hk)
            have HMM := Lib.hid hm
            clear hfs c0 c1 c3 hg
            by_cases hlt3 : k < S
            · have HAT := Lib.hid (at_any (c := c) hvr q (by omega))
              have hkl : k < o.fs.length := by rw [HS.out]; exact hlt3
              have hrx := hrg (o.fs.getD k 0) (by rw [List.getD_eq_getElem?_getD, List.getElem?_eq_getElem hkl]; exact List.getElem_mem _)
              have HWD := Lib.hid (word_any (c := c) hvr HO.out hkl hrx.1)
              obtain ⟨x0, x1⟩ := wordW_bd os q k
              obtain ⟨X, hX⟩ : ∃ X : Nat, wordW os q k = X := ⟨(wordW os q k).toNat, by omega⟩
              have HX := Lib.hid hX
              rw [hX] at HWD x0 x1
              obtain ⟨A, hA⟩ : ∃ A, addr4 os q = A := ⟨_, rfl⟩
              rw [hA] at HAT hsti
              have hge := obM_get (os := os) (j := q) (k := k) (o := o) (by rw [hl]; exact hlt2)
              have hidx : fidx P (A : Int) = some q := by
                rw [P_idx hm.e]
                have := idxAt_of (os := obM os q o k) (h := 0) (W := W) (j := q) (List.getElem?_eq_some_iff.1 hge).1
                rw [adr_0, show ((start (obM os q o k) q : Nat) : Int) + 1 = (A : Int) by omega] at this
                exact this
              obtain ⟨u0, hp0⟩ := P_get hm.e hge
              have HST := Lib.hid (fun (W1 : World) (hb : Below wr.heap.size wr W1) => rstore_hit (hm.r.below hb) hm.rz (A : Int) k X hidx hp0 (by show k < (obP os q o k).ws.length; rw [obP_len htl (Nat.le_of_lt hkl)]; exact hkl))
              have HP0 := Lib.hid hp0
              have hki : (k : Int) < S := by omega
              have hk0 : (0 : Int) ≤ k := by omega
              clear hm hrx hX hA hidx hsti hp0 hge
              go_wp2_with fail
              refine HAT.out.mono ?_
              rintro e w4 ⟨rfl, hw⟩
              subst w4
              go_wp2_with fail
              refine HWD.out.mono ?_
              rintro e w5 ⟨rfl, hb5⟩
              have HST5 := Lib.hid (HST.out w5 hb5)
              have HM5 := Lib.hid hb5
              clear hb5
              go_wp2_with fail
              refine HST5.out.mono ?_
              rintro e w6 ⟨rfl, m6, f6⟩
              have HM6 := Lib.hid (show RW w1 b W (obM os q o (k + 1)) w6 v _ from by
                have hg := obM_get (os := os) (j := q) (k := k) (o := o) (by rw [hl]; exact hlt2)
                have q6 := (HMM.out.below HM5.out).store (n := X) (i := k) hg HP0.out (by omega) m6 f6
                have e1 : (obM os q o k).set q { obP os q o k with ws := (obP os q o k).ws.set k X } = obM os q o (k + 1) := by
                  rw [obM_set (by rw [hl]; exact hlt2), show X = (wordW os q k).toNat from by rw [HX.out]; rfl, obP_set htl hkl]
                  rfl
                rw [e1] at q6
                exact q6)
              clear m6 f6
              go_wp2_with fail
              go_roundw
              case rel => exact ⟨k + 1, _, _, hlt3, by go_num, HM6.out⟩
              case measure => simp [intOf]; omega
            · obtain rfl : k = S := by omega
              have HE := Lib.hid (show RW w1 b W (obJ os (q + 1)) wr v P from by
                have := hm
                rw [← HS.out, obM_obJ HO.out htl] at this
                exact this)
              clear hm hsti
              go_wp2_with fail
              go_roundw
              case rel => exact ⟨q + 1, _, _, hlt2, by go_num, HE.out⟩
              case measure => simp [intOf]; omega
        · obtain rfl : q = j := by omega
          have hm' : RW w1 b W (heapObs os) wr v P := by rw [← obJ_end, hl]; exact hm
          have hrb : wr.heap[w.heap.size]? = some (.cells #[.int .i64 0, .int .i64 0, .slice none 0 0, .slice none 0 0] 30 (0, 0)) := (hm'.fr.block w.heap.size (by have := HBE.out; omega)).trans HR1.out
          obtain ⟨va, vc, hve, _, _⟩ := own_shape5 hm'.r.l1.row
          obtain ⟨PL, hPL⟩ : ∃ PL, P.length = PL := ⟨_, rfl⟩
          rw [hPL] at hve
          subst hve
          have hw0 : w.heap.size < wr.heap.size := (Array.getElem?_eq_some_iff.1 hrb).1
          have hfr : Fr (· = w.heap.size) wr ((((wr.setCell ⟨w.heap.size, 0, none⟩ (.int .i64 W)).setCell ⟨w.heap.size, 1, none⟩ (.int .i64 0)).setCell ⟨w.heap.size, 2, none⟩ (.slice va PL vc)).setCell ⟨w.heap.size, 3, none⟩ (.slice none 0 0)) :=
            ((((Fr.refl (· = w.heap.size) wr).setCell (p := ⟨w.heap.size, 0, none⟩) (.inl rfl) _).setCell (p := ⟨w.heap.size, 1, none⟩) (.inl rfl) _).setCell (p := ⟨w.heap.size, 2, none⟩) (.inl rfl) _).setCell (p := ⟨w.heap.size, 3, none⟩) (.inl rfl) _
          have hbl := blk_set (blk_set (blk_set (blk_set hrb 0 (.int .i64 W)) 1 (.int .i64 0)) 2 (.slice va PL vc)) 3 (.slice none 0 0)
          obtain ⟨Wf, hWf⟩ : ∃ Wf, ((((wr.setCell ⟨w.heap.size, 0, none⟩ (.int .i64 W)).setCell ⟨w.heap.size, 1, none⟩ (.int .i64 0)).setCell ⟨w.heap.size, 2, none⟩ (.slice va PL vc)).setCell ⟨w.heap.size, 3, none⟩ (.slice none 0 0)) = Wf := ⟨_, rfl⟩
          rw [hWf] at hfr hbl
          have HP := Lib.hid (show RW w b W (heapObs os) Wf (.slice va PL vc) P from
            ⟨hm'.r.kept hfr (fun i hi e => by have := hm'.ge i hi; have := HBE.out; omega), hm'.e, hm'.z, fun i hi => by have := hm'.ge i hi; have := HBE.out; omega,
              (HB1.out.trans (hm'.fr.mono HB1.out.size)).trans (hfr.below (Nat.le_of_lt hw0) (fun i hi => Nat.le_of_eq hi.symm))⟩)
          have f0 := blk_cell hbl 0
          have f1 := blk_cell hbl 1
          have f2 := blk_cell hbl 2
          have f3 := blk_cell hbl 3
          have HWF := Lib.hid hWf
          have r0 := hm'.r.c0
          have r1 := hm'.r.c1
          have r2 := hm'.r.c2
          have r3 := hm'.r.c3
          have HE := Lib.hid hm'
          have HRB := Lib.hid hrb
          have t0 := blk_free hrb 0
          have t1 := blk_free hrb 1
          have t2 := blk_free hrb 2
          have t3 := blk_free hrb 3
          have s0 := blk_cell hrb 0
          have s1 := blk_cell hrb 1
          have s2 := blk_cell hrb 2
          have s3 := blk_cell hrb 3
          clear hm hm' hrb hPL hfr hbl hWf
          go_wp2_with fail
          rw [HWF.out]
          exact bodyPost_ret (v := .agg #[.int .i64 W, .int .i64 0, .slice va PL vc, .slice none 0 0]) (by simp [results, Tryd.results27, go_sem, f0, f1, f2, f3]) rfl ⟨b, _, P, rfl, HP.out⟩
end Go.Proofs.YtlakfnlkiebpdaaDoor
