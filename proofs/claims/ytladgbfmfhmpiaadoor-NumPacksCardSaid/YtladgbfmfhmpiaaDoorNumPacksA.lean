/- What the statement NumPacks needs of the two Unpacks and of Each, named alike. Conditions: at most 1000 words below 2^64. -/
import Derived.Test.YtladgbfmfhmpiaaDoorLent
import Derived.Test.YtladgbfmfhmpiaaDoorKnown
namespace Go.Proofs.YtladgbfmfhmpiaaDoor
open Go Go.RowKit
open Classical in
/-- the text of n bytes that has these words; empty, if there is none -/
noncomputable def upS (zs : List Nat) (n : Int) : ByteArray := if 0 ≤ n ∧ UOk zs n.toNat then ⟨(bytesOf zs n.toNat).toArray⟩ else ⟨#[]⟩
open Classical in
noncomputable def upE (zs : List Nat) (n : Int) : Int := if 0 ≤ n ∧ UOk zs n.toNat then 0 else 1
theorem up_yes {zs : List Nat} {n : Int} (h : 0 ≤ n ∧ UOk zs n.toNat) : Ending.returned (.tuple #[.string ⟨(bytesOf zs n.toNat).toArray⟩, .int .i64 0]) = .returned (.tuple #[.string (upS zs n), .int .i64 (upE zs n)]) := by
  unfold upS upE; rw [if_pos h, if_pos h]
theorem up_no {zs : List Nat} {n : Int} (h : ¬ (0 ≤ n ∧ UOk zs n.toNat)) : Ending.returned (.tuple #[.string ⟨#[]⟩, .int .i64 1]) = .returned (.tuple #[.string (upS zs n), .int .i64 (upE zs n)]) := by
  unfold upS upE; rw [if_neg h, if_neg h]
theorem refunpack_spec (v : Value) (zs : List Nat) (n : Int) (hl : zs.length ≤ 1000) (hn1 : n ≤ 9223372036854775807) (hz : ∀ z ∈ zs, z < 18446744073709551616) (w : World) (hv : Words w.heap.size w v zs) :
    Calls Tryd.prog 49 #[v, .int .i64 n] w fun e w' => e = .returned (.tuple #[.string (upS zs n), .int .i64 (upE zs n)]) ∧ Below w.heap.size w w' := by
  refine (refunpack_any v zs n hl hn1 hz w hv).mono ?_
  rintro e w' ⟨⟨h0, h1, rfl⟩ | ⟨h0, rfl⟩, hb⟩
  · exact ⟨up_yes ⟨h0, h1⟩, hb⟩
  · exact ⟨up_no h0, hb⟩
theorem unpack_spec (v : Value) (zs : List Nat) (n : Int) (hl : zs.length ≤ 1000) (hn1 : n ≤ 9223372036854775807) (w : World) (hv : Words w.heap.size w v zs) :
    Calls Tryd.prog 48 #[v, .int .i64 n] w fun e w' => e = .returned (.tuple #[.string (upS zs n), .int .i64 (upE zs n)]) ∧ Below w.heap.size w w' := by
  obtain ⟨a, cap, rfl⟩ := hv.shape
  by_cases h0 : n < 0
  · refine (unpack_neg a zs.length cap n h0 w).mono ?_
    rintro e w' ⟨rfl, rfl⟩
    exact ⟨up_no (by omega), Below.refl _ _⟩
  · obtain ⟨m, rfl⟩ : ∃ m : Nat, n = m := ⟨n.toNat, by omega⟩
    by_cases hlen : zs.length = nWords m
    · have hm : m ≤ 140737488351232 := by unfold nWords at hlen; omega
      by_cases hu : UOk zs m
      · refine (unpack_yes _ zs m hm hu w hv).mono ?_
        rintro e w' ⟨rfl, hb⟩
        exact ⟨up_yes (n := (m : Int)) ⟨by omega, by simpa using hu⟩, hb⟩
      · refine (unpack_err _ zs m hm hu w hv).mono ?_
        rintro e w' ⟨rfl, rfl⟩
        exact ⟨up_no (n := (m : Int)) (fun h => hu (by simpa using h.2)), Below.refl _ _⟩
    · refine (unpack_len a zs.length cap m (by omega) hlen w).mono ?_
      rintro e w' ⟨rfl, rfl⟩
      exact ⟨up_no (n := (m : Int)) (fun h => hlen (by have := h.2.1; simpa using this)), Below.refl _ _⟩
/-- the box of a slice that reads as words -/
theorem wordAt_fst (s : ByteArray) (k : Nat) : (wordAt s k).1 = k := rfl
theorem wordAt_snd (s : ByteArray) (k : Nat) : (wordAt s k).2 = wordN s.data.toList k := rfl
end Go.Proofs.YtladgbfmfhmpiaaDoor
