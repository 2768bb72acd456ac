/- Contracts of the reference's At and Number. Conditions: the list of objects lies as ObsV says. Contracts of the reference's Root and Word. Conditions: the list of objects lies as ObsV says. -/
import Derived.Test.YtjdhjehnofediaaGcEach
namespace Go.Proofs.Ytjdhjehnofediaa
open Go Go.RowKit
/-- what an object is made of -/
structure O4 where
  k : Int
  t : Int
  fs : List Int
  bd : Int
/-- a heap as Heap hands it back -/
structure ObsV (w : World) (a : Option Addr) (N : Nat) (os : List O4) : Prop where
  len : os.length = N
  few : N ≤ 40
  short : ∀ o ∈ os, o.fs.length ≤ 12
  at_ : ∀ (i : Nat) (o : O4), os[i]? = some o → ∃ g off fa fc, a = some ⟨g, off, none⟩ ∧ g < w.heap.size ∧ w.cell? ⟨g, off + i * 4, none⟩ = some (.int .i64 o.k) ∧ w.cell? ⟨g, off + i * 4 + 1, none⟩ = some (.int .i64 o.t) ∧ w.cell? ⟨g, off + i * 4 + 2, none⟩ = some (.slice fa o.fs.length fc) ∧ w.cell? ⟨g, off + i * 4 + 3, none⟩ = some (.int .i64 o.bd) ∧
    ∀ (f : Nat) (x : Int), o.fs[f]? = some x → ∃ fg fo, fa = some ⟨fg, fo, none⟩ ∧ fg < w.heap.size ∧ w.cell? ⟨fg, fo + f, none⟩ = some (.int .i64 x)
theorem ObsV.below {w w1 : World} {a : Option Addr} {N : Nat} {os : List O4} (h : ObsV w a N os) (hb : Below w.heap.size w w1) : ObsV w1 a N os := by
  refine ⟨h.len, h.few, h.short, fun i o hi => ?_⟩
  obtain ⟨g, off, fa, fc, h1, h2, h3, h4, h5, h6, h7⟩ := h.at_ i o hi
  have hs := hb.size
  have hc : ∀ (q : Nat) (u : Value), w.cell? ⟨g, q, none⟩ = some u → w1.cell? ⟨g, q, none⟩ = some u := fun q u hu => (World.cell?_of_block (hb.block g h2)).trans hu
  refine ⟨g, off, fa, fc, h1, by omega, hc _ _ h3, hc _ _ h4, hc _ _ h5, hc _ _ h6, fun f x hx => ?_⟩
  obtain ⟨fg, fo, e1, e2, e3⟩ := h7 f x hx
  exact ⟨fg, fo, e1, by omega, (World.cell?_of_block (hb.block fg e2)).trans e3⟩
/-- the address of the object of a number of a heap that was just made -/
def addr4 (os : List O4) (k : Nat) : Nat := 1 + ((os.take k).map fun o => 1 + o.fs.length).sum
theorem addr4_zero (os : List O4) : addr4 os 0 = 1 := by simp [addr4]
theorem addr4_succ {os : List O4} {k : Nat} {o : O4} (h : os[k]? = some o) : addr4 os (k + 1) = addr4 os k + 1 + o.fs.length := by
  obtain ⟨hk, e⟩ := List.getElem?_eq_some_iff.1 h
  unfold addr4
  rw [List.take_succ_eq_append_getElem hk, List.map_append, List.sum_append, e]
  simp
  omega
theorem addr4_le {os : List O4} (h : ∀ o ∈ os, o.fs.length ≤ 12) (k : Nat) (hk : k ≤ os.length) : addr4 os k ≤ 1 + k * 13 := by
  induction k with
  | zero => rw [addr4_zero]; omega
  | succ k ih =>
    have hg : os[k]? = some (os[k]'(by omega)) := List.getElem?_eq_getElem (by omega)
    rw [addr4_succ hg]
    have := h _ (List.mem_of_getElem? hg)
    have := ih (by omega)
    omega
set_option maxHeartbeats 2000000 in
theorem at_any {w : World} {a : Option Addr} {N c : Nat} {os : List O4} (hv : ObsV w a N os) (k : Nat) (hk : k ≤ N) :
    Calls Try.prog 43 #[.slice a N c, .int .i64 (k : Int)] w fun e w' => e = .returned (.int .i64 (addr4 os k : Nat)) ∧ w' = w := by
  have hl := hv.len
  have h40 := hv.few
  have HV := Lib.hid hv
  have HLE := Lib.hid (fun j hj => addr4_le hv.short j hj)
  clear hv
  go_enter Try.func43, Try.ntmps43
  go_wp2_with fail
  go_loop [5, 6] (fun x i => ∃ j : Nat, j ≤ k ∧ x = .int .i64 (addr4 os j : Nat) ∧ i = .int .i64 j) (fun _ i => k - (intOf i).toNat)
  case atStart => exact ⟨0, Nat.zero_le _, by rw [addr4_zero]; rfl, rfl⟩
  case round =>
    obtain ⟨j, hj, rfl, rfl⟩ := hrel
    by_cases hlt : j < k
    · obtain ⟨o, ho⟩ : ∃ o, os[j]? = some o := ⟨_, List.getElem?_eq_getElem (by omega)⟩
      obtain ⟨g, off, fa, fc, ha, hg, h3, h4, h5, h6, h7⟩ := HV.out.at_ j o ho
      subst ha
      have hsh := HV.out.short o (List.mem_of_getElem? ho)
      have hle := HLE.out j (by omega)
      have hnx : addr4 os (j + 1) = addr4 os j + 1 + o.fs.length := addr4_succ ho
      obtain ⟨A, hA⟩ : ∃ A, addr4 os j = A := ⟨_, rfl⟩
      obtain ⟨S, hS⟩ : ∃ S, o.fs.length = S := ⟨_, rfl⟩
      rw [hA, hS] at hnx
      rw [hA] at hle ⊢
      rw [hS] at h5 hsh
      have hji : (j : Int) < k := by omega
      have hjn : (j : Int) < N := by omega
      have hj0 : (0 : Int) ≤ j := by omega
      have hA2 : (A : Int) ≤ 600 := by omega
      have hS2 : (S : Int) ≤ 12 := by omega
      have HNX := Lib.hid hnx
      clear h3 h4 h6 h7 hg ho hA hS hnx hle hsh
      go_wp2_with fail
      go_round
      case rel => exact ⟨j + 1, hlt, by rw [HNX.out]; go_num, by go_num⟩
      case measure => simp [intOf]; omega
    · obtain rfl : j = k := by omega
      go_wp2_with fail
      go_ret
      exact ⟨rfl, rfl⟩
/-- the integer of a number below 0 -/
def numI (v : Int) : Int := if (-1 - v) % 2 = 0 then (-1 - v) / 2 else -((-1 - v) / 2) - 1
set_option maxHeartbeats 1000000 in
theorem number_any (v : Int) (h0 : -9223372036854775808 ≤ v) (h1 : v < 0) (w : World) :
    Calls Try.prog 76 #[.int .i64 v] w fun e w' => e = .returned (.int .i64 (numI v)) ∧ w' = w := by
  have hn0 : 0 ≤ -1 - v := by omega
  have hn1 : -1 - v ≤ 9223372036854775807 := by omega
  obtain ⟨n, hn⟩ : ∃ n : Nat, -1 - v = n := ⟨(-1 - v).toNat, by omega⟩
  have hu : numI v = if (n : Int) % 2 = 0 then (n : Int) / 2 else -((n : Int) / 2) - 1 := by unfold numI; rw [hn]
  have hn2 : (n : Int) ≤ 9223372036854775807 := by omega
  have hn3 : (0 : Int) ≤ n := by omega
  by_cases hp : (n : Int) % 2 = 0
  · have hb : ((n : Int) % 2 == 0) = true := beqT hp
    rw [if_pos hp] at hu
    rw [hu]
    clear hu hp
    go_enter Try.func76, Try.ntmps76
    go_wp2_with fail
    go_ret
    exact ⟨rfl, rfl⟩
  · have hb : ((n : Int) % 2 == 0) = false := beqF hp
    rw [if_neg hp] at hu
    rw [hu]
    clear hu hp
    go_enter Try.func76, Try.ntmps76
    go_wp2_with fail
    go_ret
    exact ⟨rfl, rfl⟩
end Go.Proofs.Ytjdhjehnofediaa
namespace Go.Proofs.Ytjdhjehnofediaa
open Go Go.RowKit
theorem among_is (k n : Int) (hn : 1 ≤ n) (hn2 : n ≤ 1000000000) (w : World) :
    Calls Try.prog 41 #[.int .i64 k, .int .i64 n] w fun e w' => e = .returned (.int .i64 (k % n)) ∧ w' = w := by
  have t1 := Int.tmod_lt_of_pos k (show 0 < n by omega)
  have t2 : -n < k.tmod n := by
    have := Int.tmod_lt_of_pos (-k) (show 0 < n by omega)
    rw [Int.neg_tmod] at this
    omega
  have e1 : k % n = if k.tmod n < 0 then k.tmod n + n else k.tmod n := by
    have hk : k % n = k.tmod n % n := by
      have := Int.mul_tdiv_add_tmod k n
      conv => lhs; rw [← this]
      rw [Int.add_comm, Int.add_mul_emod_self_left]
    rw [hk]
    split
    · rw [← Int.add_emod_right, Int.emod_eq_of_lt (by omega) (by omega)]
    · rw [Int.emod_eq_of_lt (by omega) (by omega)]
  obtain ⟨m, hm⟩ : ∃ m, k.tmod n = m := ⟨_, rfl⟩
  rw [hm] at t1 t2 e1
  rw [e1]
  clear e1
  have hnz : (n == 0) = false := beqF (by omega)
  by_cases hneg : m < 0
  · rw [if_pos hneg]
    go_enter Try.func41, Try.ntmps41
    go_wp2
    go_ret
    exact ⟨rfl, rfl⟩
  · rw [if_neg hneg]
    go_enter Try.func41, Try.ntmps41
    go_wp2
    go_ret
    exact ⟨rfl, rfl⟩
/-- a root's word -/
def rootW (os : List O4) (v : Int) : Int := if v = -9223372036854775808 then 0 else if os.length = 0 ∧ 0 ≤ v then 1 else if v < 0 then intW (numI v) else ptrW (addr4 os (v % os.length).toNat : Nat)
theorem numI_bd {v : Int} (h0 : -9223372036854775808 ≤ v) (h1 : v < 0) : -9223372036854775808 ≤ numI v ∧ numI v ≤ 9223372036854775807 := by
  unfold numI; split <;> omega
set_option maxHeartbeats 1000000 in
theorem root_any {w : World} {a : Option Addr} {N c : Nat} {os : List O4} (hv : ObsV w a N os) (v : Int) (h0 : -9223372036854775808 ≤ v) (h1 : v ≤ 9223372036854775807) :
    Calls Try.prog 49 #[.slice a N c, .int .i64 v] w fun e w' => e = .returned (.int .u64 (rootW os v)) ∧ w' = w := by
  have hl := hv.len
  have h40 := hv.few
  by_cases hm : v = -9223372036854775808
  · subst hm
    rw [show rootW os (-9223372036854775808) = 0 from if_pos rfl]
    go_enter Try.func49, Try.ntmps49
    go_wp2_with fail
    go_ret
    exact ⟨rfl, rfl⟩
  have hmb : (v == -9223372036854775808) = false := beqF hm
  by_cases hneg : v < 0
  · have hr : rootW os v = intW (numI v) := by unfold rootW; rw [if_neg hm, if_neg (by omega), if_pos hneg]
    rw [hr]
    obtain ⟨b0, b1⟩ := numI_bd h0 hneg
    have HN := Lib.hid (fun W1 => number_any v h0 hneg W1)
    have HI := Lib.hid (fun W1 => refint_any (numI v) W1 b0 b1)
    have hge : decide (0 ≤ v) = false := decide_eq_false (by omega)
    clear hr b0 b1
    by_cases hN : N = 0
    · have hNb : ((N : Int) == 0) = true := beqT (by omega)
      go_enter Try.func49, Try.ntmps49
      go_wp2_with fail
      refine (HN.out _).mono ?_
      rintro e w1 ⟨rfl, hw⟩
      subst w1
      go_wp2_with fail
      refine (HI.out _).mono ?_
      rintro e w1 ⟨rfl, hw⟩
      subst hw
      go_wp2_with fail
      go_ret
      exact ⟨rfl, rfl⟩
    · have hNb : ((N : Int) == 0) = false := beqF (by omega)
      go_enter Try.func49, Try.ntmps49
      go_wp2_with fail
      refine (HN.out _).mono ?_
      rintro e w1 ⟨rfl, hw⟩
      subst w1
      go_wp2_with fail
      refine (HI.out _).mono ?_
      rintro e w1 ⟨rfl, hw⟩
      subst hw
      go_wp2_with fail
      go_ret
      exact ⟨rfl, rfl⟩
  · have hge : decide (0 ≤ v) = true := decide_eq_true (by omega)
    by_cases hN : N = 0
    · have hNb : ((N : Int) == 0) = true := beqT (by omega)
      have hr : rootW os v = 1 := by unfold rootW; rw [if_neg hm, if_pos (by omega)]
      rw [hr]
      go_enter Try.func49, Try.ntmps49
      go_wp2_with fail
      go_ret
      exact ⟨rfl, rfl⟩
    · have hNb : ((N : Int) == 0) = false := beqF (by omega)
      have hr : rootW os v = ptrW (addr4 os (v % N).toNat : Nat) := by unfold rootW; rw [if_neg hm, if_neg (by omega), if_neg hneg, hl]
      rw [hr]
      have em0 := Int.emod_nonneg v (show (N : Int) ≠ 0 by omega)
      have em1 := Int.emod_lt_of_pos v (show (0 : Int) < N by omega)
      obtain ⟨r, hr2⟩ : ∃ r : Nat, v % (N : Int) = r := ⟨(v % N).toNat, by omega⟩
      rw [hr2] at em1
      clear em0
      have hrN : r ≤ N := by omega
      have HA := Lib.hid (fun W1 => among_is v N (by omega) (by omega) W1)
      rw [hr2] at HA ⊢
      have HAT := Lib.hid (at_any (c := c) hv r hrN)
      have HP := Lib.hid (fun W1 => refptr_any ((addr4 os r : Nat) : Int) W1)
      rw [Int.toNat_natCast]
      clear hr hr2 hv hrN
      go_enter Try.func49, Try.ntmps49
      go_wp2_with fail
      refine (HA.out _).mono ?_
      rintro e w1 ⟨rfl, hw⟩
      subst w1
      go_wp2_with fail
      refine HAT.out.mono ?_
      rintro e w1 ⟨rfl, hw⟩
      subst w1
      go_wp2_with fail
      refine (HP.out _).mono ?_
      rintro e w1 ⟨rfl, hw⟩
      subst hw
      go_wp2_with fail
      go_ret
      exact ⟨rfl, rfl⟩
/-- a field's word -/
def wordW (os : List O4) (k f : Nat) : Int := match os[k]? with
  | none => 0
  | some o => if o.t ≤ f then (o.fs.getD f 0) % 18446744073709551616 else if o.bd = (f : Int) + 1 then ptrW (addr4 os k : Nat) + 2 else if o.fs.getD f 0 < 0 then intW (numI (o.fs.getD f 0)) else ptrW (addr4 os ((o.fs.getD f 0) % os.length).toNat : Nat)
set_option maxRecDepth 100000 in
set_option maxHeartbeats 4000000 in
theorem word_any {w : World} {a : Option Addr} {N c : Nat} {os : List O4} (hv : ObsV w a N os) {k f : Nat} {o : O4} (ho : os[k]? = some o) (hf : f < o.fs.length) (hx0 : -9223372036854775808 ≤ o.fs.getD f 0) :
    Calls Try.prog 45 #[.slice a N c, .int .i64 (k : Int), .int .i64 (f : Int)] w fun e w' => e = .returned (.int .u64 (wordW os k f)) ∧ Below w.heap.size w w' := by
  have hl := hv.len
  have h40 := hv.few
  have hk := (List.getElem?_eq_some_iff.1 ho).1
  obtain ⟨g, off, fa, fc, ha, hg, c0, c1, c2, c3, hfs⟩ := hv.at_ k o ho
  obtain ⟨fg, fo, rfl, hfg, cf⟩ := hfs f (o.fs.getD f 0) (by rw [List.getD_eq_getElem?_getD, List.getElem?_eq_getElem hf]; rfl)
  subst ha
  have hsh := hv.short o (List.mem_of_getElem? ho)
  have hle := addr4_le hv.short k (by omega)
  have hwd : wordW os k f = if o.t ≤ f then (o.fs.getD f 0) % 18446744073709551616 else if o.bd = (f : Int) + 1 then ptrW (addr4 os k : Nat) + 2 else if o.fs.getD f 0 < 0 then intW (numI (o.fs.getD f 0)) else ptrW (addr4 os ((o.fs.getD f 0) % os.length).toNat : Nat) := by unfold wordW; rw [ho]
  obtain ⟨v, hvv⟩ : ∃ v, o.fs.getD f 0 = v := ⟨_, rfl⟩
  rw [hvv] at hwd hx0 cf
  rw [hwd]
  obtain ⟨t, ht⟩ : ∃ t, o.t = t := ⟨_, rfl⟩
  obtain ⟨bd, hbd⟩ : ∃ bd, o.bd = bd := ⟨_, rfl⟩
  obtain ⟨S, hS⟩ : ∃ S, o.fs.length = S := ⟨_, rfl⟩
  obtain ⟨kd, hkd⟩ : ∃ kd, o.k = kd := ⟨_, rfl⟩
  rw [hkd] at c0
  rw [ht] at c1 ⊢
  rw [hS] at c2 hf hsh
  rw [hbd] at c3 ⊢
  have HV := Lib.hid hv
  have hki : (k : Int) < N := by omega
  have hk0 : (0 : Int) ≤ k := by omega
  have hfi : (f : Int) < S := by omega
  have hf0 : (0 : Int) ≤ f := by omega
  have hS2 : (S : Int) ≤ 12 := by omega
  have hb0 : Below w.heap.size w (w.alloc (.cells #[.int .i64 kd, .int .i64 t, .slice (some ⟨fg, fo, none⟩) S fc, .int .i64 bd] 71)) := (Below.refl _ w).alloc (Nat.le_refl _) _
  clear hfs hwd hvv ht hbd hS hkd ho hv
  by_cases h1 : t ≤ f
  · rw [if_pos h1]
    have hd : decide (t ≤ (f : Int)) = true := decide_eq_true h1
    go_enter Try.func45, Try.ntmps45
    go_wp2_with fail
    go_ret
    exact ⟨rfl, hb0⟩
  rw [if_neg h1]
  have hd : decide (t ≤ (f : Int)) = false := decide_eq_false h1
  by_cases h2 : bd = (f : Int) + 1
  · rw [if_pos h2]
    subst h2
    have HA := Lib.hid (at_any (c := c) (HV.out.below hb0) k (by omega))
    obtain ⟨A, hA⟩ : ∃ A, addr4 os k = A := ⟨_, rfl⟩
    have hA1 : 1 ≤ A := by rw [← hA]; unfold addr4; omega
    rw [hA] at HA hle ⊢
    have hP : ptrW (A : Int) = 2 * (A : Int) := ptrW_in (by omega) (by omega)
    have HP := Lib.hid (fun W1 => refptr_any (A : Int) W1)
    rw [hP] at HP ⊢
    have hA2 : (A : Int) ≤ 600 := by omega
    have hA0 : (1 : Int) ≤ A := by omega
    clear hA hP hle hA1
    go_enter Try.func45, Try.ntmps45
    go_wp2_with fail
    refine HA.out.mono ?_
    rintro e w1 ⟨rfl, hw⟩
    subst w1
    go_wp2_with fail
    refine (HP.out _).mono ?_
    rintro e w1 ⟨rfl, hw⟩
    subst hw
    go_wp2_with fail
    go_ret
    exact ⟨ret_int (by omega), hb0⟩
  rw [if_neg h2]
  have hd2 : (bd == (f : Int) + 1) = false := beqF h2
  by_cases h3 : v < 0
  · rw [if_pos h3]
    obtain ⟨b0, b1⟩ := numI_bd hx0 h3
    have HN := Lib.hid (fun W1 => number_any v hx0 h3 W1)
    have HI := Lib.hid (fun W1 => refint_any (numI v) W1 b0 b1)
    clear b0 b1
    go_enter Try.func45, Try.ntmps45
    go_wp2_with fail
    refine (HN.out _).mono ?_
    rintro e w1 ⟨rfl, hw⟩
    subst w1
    go_wp2_with fail
    refine (HI.out _).mono ?_
    rintro e w1 ⟨rfl, hw⟩
    subst hw
    go_wp2_with fail
    go_ret
    exact ⟨rfl, hb0⟩
  · rw [if_neg h3]
    have em0 := Int.emod_nonneg v (show (N : Int) ≠ 0 by omega)
    have em1 := Int.emod_lt_of_pos v (show (0 : Int) < N by omega)
    obtain ⟨r, hr2⟩ : ∃ r : Nat, v % (N : Int) = r := ⟨(v % N).toNat, by omega⟩
    rw [hr2] at em1
    have HA := Lib.hid (fun W1 => among_is v N (by omega) (by omega) W1)
    rw [hr2] at HA
    rw [hl, hr2, Int.toNat_natCast]
    have HAT := Lib.hid (at_any (c := c) (HV.out.below hb0) r (by omega))
    have HP := Lib.hid (fun W1 => refptr_any ((addr4 os r : Nat) : Int) W1)
    clear em0 em1 hr2
    go_enter Try.func45, Try.ntmps45
    go_wp2_with fail
    refine (HA.out _).mono ?_
    rintro e w1 ⟨rfl, hw⟩
    subst w1
    go_wp2_with fail
    refine HAT.out.mono ?_
    rintro e w1 ⟨rfl, hw⟩
    subst w1
    go_wp2_with fail
    refine (HP.out _).mono ?_
    rintro e w1 ⟨rfl, hw⟩
    subst hw
    go_wp2_with fail
    go_ret
    exact ⟨rfl, hb0⟩
end Go.Proofs.Ytjdhjehnofediaa
