/- Contracts of the reference's At and Number. Conditions: the list of objects lies as ObsV says. -/
import Derived.Test.YtjdhjehnofediaaGcRen
namespace Go.Proofs.Ytjdhjehnofediaa
open Go Go.RowKit
/-- what an object is made of -/
structure O4 where
  k : Int
  t : Int
  fs : List Int
  bd : Int
/-- a heap as Heap hands it back -/
structure ObsV (w : World) (a : Option Addr) (N : Nat) (os : List O4) : Prop where
  len : os.length = N
  few : N ≤ 40
  short : ∀ o ∈ os, o.fs.length ≤ 12
  at_ : ∀ (i : Nat) (o : O4), os[i]? = some o → ∃ g off fa fc, a = some ⟨g, off, none⟩ ∧ g < w.heap.size ∧ w.cell? ⟨g, off + i * 4, none⟩ = some (.int .i64 o.k) ∧ w.cell? ⟨g, off + i * 4 + 1, none⟩ = some (.int .i64 o.t) ∧ w.cell? ⟨g, off + i * 4 + 2, none⟩ = some (.slice fa o.fs.length fc) ∧ w.cell? ⟨g, off + i * 4 + 3, none⟩ = some (.int .i64 o.bd) ∧
    ∀ (f : Nat) (x : Int), o.fs[f]? = some x → ∃ fg fo, fa = some ⟨fg, fo, none⟩ ∧ fg < w.heap.size ∧ w.cell? ⟨fg, fo + f, none⟩ = some (.int .i64 x)
theorem ObsV.below {w w1 : World} {a : Option Addr} {N : Nat} {os : List O4} (h : ObsV w a N os) (hb : Below w.heap.size w w1) : ObsV w1 a N os := by
  refine ⟨h.len, h.few, h.short, fun i o hi => ?_⟩
  obtain ⟨g, off, fa, fc, h1, h2, h3, h4, h5, h6, h7⟩ := h.at_ i o hi
  have hs := hb.size
  have hc : ∀ (q : Nat) (u : Value), w.cell? ⟨g, q, none⟩ = some u → w1.cell? ⟨g, q, none⟩ = some u := fun q u hu => (World.cell?_of_block (hb.block g h2)).trans hu
  refine ⟨g, off, fa, fc, h1, by omega, hc _ _ h3, hc _ _ h4, hc _ _ h5, hc _ _ h6, fun f x hx => ?_⟩
  obtain ⟨fg, fo, e1, e2, e3⟩ := h7 f x hx
  exact ⟨fg, fo, e1, by omega, (World.cell?_of_block (hb.block fg e2)).trans e3⟩
/-- the address of the object of a number of a heap that was just made -/
def addr4 (os : List O4) (k : Nat) : Nat := 1 + ((os.take k).map fun o => 1 + o.fs.length).sum
theorem addr4_zero (os : List O4) : addr4 os 0 = 1 := by simp [addr4]
theorem addr4_succ {os : List O4} {k : Nat} {o : O4} (h : os[k]? = some o) : addr4 os (k + 1) = addr4 os k + 1 + o.fs.length := by
  obtain ⟨hk, e⟩ := List.getElem?_eq_some_iff.1 h
  unfold addr4
  rw [List.take_succ_eq_append_getElem hk, List.map_append, List.sum_append, e]
  simp
  omega
theorem addr4_le {os : List O4} (h : ∀ o ∈ os, o.fs.length ≤ 12) (k : Nat) (hk : k ≤ os.length) : addr4 os k ≤ 1 + k * 13 := by
  induction k with
  | zero => rw [addr4_zero]; omega
  | succ k ih =>
    have hg : os[k]? = some (os[k]'(by omega)) := List.getElem?_eq_getElem (by omega)
    rw [addr4_succ hg]
    have := h _ (List.mem_of_getElem? hg)
    have := ih (by omega)
    omega
set_option maxHeartbeats 2000000 in
theorem at_any {w : World} {a : Option Addr} {N c : Nat} {os : List O4} (hv : ObsV w a N os) (k : Nat) (hk : k ≤ N) :
    Calls Try.prog 43 #[.slice a N c, .int .i64 (k : Int)] w fun e w' => e = .returned (.int .i64 (addr4 os k : Nat)) ∧ w' = w := by
  have hl := hv.len
  have h40 := hv.few
  have HV := Lib.hid hv
  have HLE := Lib.hid (fun j hj => addr4_le hv.short j hj)
  clear hv
  go_enter Try.func43, Try.ntmps43
  go_wp2_with fail
  go_loop [5, 6] (fun x i => ∃ j : Nat, j ≤ k ∧ x = .int .i64 (addr4 os j : Nat) ∧ i = .int .i64 j) (fun _ i => k - (intOf i).toNat)
  case atStart => exact ⟨0, Nat.zero_le _, by rw [addr4_zero]; rfl, rfl⟩
  case round =>
    obtain ⟨j, hj, rfl, rfl⟩ := hrel
    by_cases hlt : j < k
    · obtain ⟨o, ho⟩ : ∃ o, os[j]? = some o := ⟨_, List.getElem?_eq_getElem (by omega)⟩
      obtain ⟨g, off, fa, fc, ha, hg, h3, h4, h5, h6, h7⟩ := HV.out.at_ j o ho
      subst ha
      have hsh := HV.out.short o (List.mem_of_getElem? ho)
      have hle := HLE.out j (by omega)
      have hnx : addr4 os (j + 1) = addr4 os j + 1 + o.fs.length := addr4_succ ho
      obtain ⟨A, hA⟩ : ∃ A, addr4 os j = A := ⟨_, rfl⟩
      obtain ⟨S, hS⟩ : ∃ S, o.fs.length = S := ⟨_, rfl⟩
      rw [hA, hS] at hnx
      rw [hA] at hle ⊢
      rw [hS] at h5 hsh
      have hji : (j : Int) < k := by omega
      have hjn : (j : Int) < N := by omega
      have hj0 : (0 : Int) ≤ j := by omega
      have hA2 : (A : Int) ≤ 600 := by omega
      have hS2 : (S : Int) ≤ 12 := by omega
      have HNX := Lib.hid hnx
      clear h3 h4 h6 h7 hg ho hA hS hnx hle hsh
      go_wp2_with fail
      go_round
      case rel => exact ⟨j + 1, hlt, by rw [HNX.out]; go_num, by go_num⟩
      case measure => simp [intOf]; omega
    · obtain rfl : j = k := by omega
      go_wp2_with fail
      go_ret
      exact ⟨rfl, rfl⟩
/-- the integer of a number below 0 -/
def numI (v : Int) : Int := if (-1 - v) % 2 = 0 then (-1 - v) / 2 else -((-1 - v) / 2) - 1
set_option maxHeartbeats 1000000 in
theorem number_any (v : Int) (h0 : -9223372036854775808 ≤ v) (h1 : v < 0) (w : World) :
    Calls Try.prog 76 #[.int .i64 v] w fun e w' => e = .returned (.int .i64 (numI v)) ∧ w' = w := by
  have hn0 : 0 ≤ -1 - v := by omega
  have hn1 : -1 - v ≤ 9223372036854775807 := by omega
  obtain ⟨n, hn⟩ : ∃ n : Nat, -1 - v = n := ⟨(-1 - v).toNat, by omega⟩
  have hu : numI v = if (n : Int) % 2 = 0 then (n : Int) / 2 else -((n : Int) / 2) - 1 := by unfold numI; rw [hn]
  have hn2 : (n : Int) ≤ 9223372036854775807 := by omega
  have hn3 : (0 : Int) ≤ n := by omega
  by_cases hp : (n : Int) % 2 = 0
  · have hb : ((n : Int) % 2 == 0) = true := beqT hp
    rw [if_pos hp] at hu
    rw [hu]
    clear hu hp
    go_enter Try.func76, Try.ntmps76
    go_wp2_with fail
    go_ret
    exact ⟨rfl, rfl⟩
  · have hb : ((n : Int) % 2 == 0) = false := beqF hp
    rw [if_neg hp] at hu
    rw [hu]
    clear hu hp
    go_enter Try.func76, Try.ntmps76
    go_wp2_with fail
    go_ret
    exact ⟨rfl, rfl⟩
end Go.Proofs.Ytjdhjehnofediaa
