/- The contract of the reference's Pack: a slice that owns the words of the text, and nothing that lay has turned. Condition: the text is no longer than the reach. The contract of the reference's Unpack: the text of words, or none; nothing that lay has turned. Conditions: the list is of 64-bit words and no longer than 1000. -/
import Derived.RegionTactic
import Derived.BigRegion
import Derived.Laws.OwnMore
import Derived.Test.YtlakfnlkiebpdaaDoorPackAll
import Derived.Test.YtlakfnlkiebpdaaDoorTextB
import Derived.Laws.BytesArg
namespace Go.Proofs.YtlakfnlkiebpdaaDoor.NumL
open Go Go.RowKit
/-- the words of the first k bytes, with a new empty one where a word is full -/
def preL (l : List UInt8) (k : Nat) : List Nat := if k % 8 = 0 then packL (l.take k) ++ [0] else packL (l.take k)
theorem preL_length (l : List UInt8) (k : Nat) (h : k < l.length) : (preL l k).length = k / 8 + 1 := by
  unfold preL
  have h1 : (packL (l.take k)).length = (k + 7) / 8 := by rw [packL_length, List.length_take, Nat.min_eq_left (Nat.le_of_lt h)]; rfl
  split
  · rw [List.length_append, h1]; simp; omega
  · rw [h1]; omega
theorem packL_at (l : List UInt8) (j : Nat) (h : j < nWords l.length) : (packL l)[j]? = some (wordN l j) := by
  simp [packL, h]
theorem wordN_take (l : List UInt8) (k j : Nat) (h : 8 * j + 8 ≤ k) : wordN (l.take k) j = wordN l j := by
  unfold wordN
  congr 1
  rw [List.drop_take, List.take_take, Nat.min_eq_left (by omega)]
theorem wordN_last (l : List UInt8) (k : Nat) (h : k < l.length) : wordN (l.take (k + 1)) (k / 8) = wordN (l.take k) (k / 8) + 2 ^ (8 * (k % 8)) * (l[k]).toNat := by
  unfold wordN
  have e1 : ((l.take (k + 1)).drop (8 * (k / 8))).take 8 = (l.drop (8 * (k / 8))).take (k % 8 + 1) := by
    rw [List.drop_take, List.take_take]; congr 1; omega
  have e2 : ((l.take k).drop (8 * (k / 8))).take 8 = (l.drop (8 * (k / 8))).take (k % 8) := by
    rw [List.drop_take, List.take_take]; congr 1; omega
  have hl : k % 8 < (l.drop (8 * (k / 8))).length := by simp; omega
  rw [e1, e2, leN_step _ _ hl]
  congr 3
  simp only [List.getElem_drop]
  congr 1
  omega
theorem preL_last (l : List UInt8) (k : Nat) (h : k < l.length) : (preL l k).getD (k / 8) 0 = wordN (l.take k) (k / 8) := by
  unfold preL
  have hlen : (l.take k).length = k := by rw [List.length_take, Nat.min_eq_left (Nat.le_of_lt h)]
  have h1 : (packL (l.take k)).length = nWords k := by rw [packL_length, hlen]
  split
  · rename_i h8
    have e : wordN (l.take k) (k / 8) = 0 := by
      unfold wordN
      rw [List.drop_eq_nil_of_le (by rw [hlen]; omega)]; rfl
    rw [e]
    have h2 : nWords k = k / 8 := by unfold nWords; omega
    simp [List.getD, h1, h2]
  · rename_i h8
    have h2 : k / 8 < nWords (l.take k).length := by rw [hlen]; unfold nWords; omega
    rw [packL_getD _ _ h2]
theorem preL_next (l : List UInt8) (k : Nat) (h : k < l.length) : (preL l k).set (k / 8) (wordN (l.take k) (k / 8) + 2 ^ (8 * (k % 8)) * (l[k]).toNat) = packL (l.take (k + 1)) := by
  have hlen : (l.take k).length = k := by rw [List.length_take, Nat.min_eq_left (Nat.le_of_lt h)]
  have hlen1 : (l.take (k + 1)).length = k + 1 := by rw [List.length_take, Nat.min_eq_left h]
  apply List.ext_getElem?
  intro j
  by_cases hj : j = k / 8
  · subst hj
    rw [List.getElem?_set_self (by rw [preL_length l k h]; omega), packL_at _ _ (by rw [hlen1]; unfold nWords; omega), wordN_last l k h]
  · rw [List.getElem?_set_ne (fun e => hj e.symm)]
    by_cases hlt : j < k / 8
    · rw [packL_at _ _ (by rw [hlen1]; unfold nWords; omega), wordN_take l (k + 1) j (by omega)]
      have h3 : (packL (l.take k))[j]? = some (wordN l j) := by rw [packL_at _ _ (by rw [hlen]; unfold nWords; omega), wordN_take l k j (by omega)]
      unfold preL
      split
      · rw [List.getElem?_append_left (by rw [packL_length, hlen]; unfold nWords; omega), h3]
      · exact h3
    · rw [List.getElem?_eq_none (by rw [preL_length l k h]; omega), List.getElem?_eq_none (by rw [packL_length, hlen1]; unfold nWords; omega)]
theorem sum_small (l : List UInt8) (k : Nat) (h : k < l.length) : wordN (l.take k) (k / 8) + 2 ^ (8 * (k % 8)) * (l[k]).toNat < 18446744073709551616 := by
  rw [← wordN_last l k h]; exact wordN_lt _ _
theorem own_cell_frozen {W : World} {n₀ g cap n j : Nat} {zs : List Nat} (h : W.ownsRow n₀ 33 1 (.slice (some ⟨g, 0, none⟩) n cap) n (u64s zs)) (hl : zs.length = n) (hj : j < n) :
    W.cell? ⟨g, j, none⟩ = some (.int .u64 (zs.getD j 0 : Nat)) ∧ W.frozen? ⟨g, j, none⟩ = false := by
  subst hl
  refine ⟨?_, ?_⟩
  · rcases Words.of_own h with ⟨h1, _⟩ | ⟨b, off, cap', h1, _, _, hc⟩
    · cases h1
    · have h2 := hc j hj
      cases h1
      rw [Nat.zero_add] at h2
      exact h2
  · rcases h.2 with ⟨h1, _⟩ | ⟨g', cap', cur, h1, _, hg, _⟩
    · cases h1
    · cases h1
      simp [World.frozen?, hg]
/-- what is owned ahead of the store of byte k -/
theorem pre_facts {W : World} {n₀ g cap k j : Nat} {s : ByteArray} (hk : k < s.data.toList.length) (hj : j = k / 8) (h : W.ownsRow n₀ 33 1 (.slice (some ⟨g, 0, none⟩) (j + 1) cap) (j + 1) (u64s (preL s.data.toList k))) :
    W.cell? ⟨g, j, none⟩ = some (.int .u64 (wordN (s.data.toList.take k) (k / 8) : Nat)) ∧ W.frozen? ⟨g, j, none⟩ = false := by
  subst hj
  have h1 := own_cell_frozen (j := k / 8) h (preL_length _ _ hk) (by omega)
  rw [preL_last _ _ hk] at h1
  exact h1
theorem post_facts {W : World} {n₀ g cap k j : Nat} {s : ByteArray} (hk : k < s.data.toList.length) (hj : j = k / 8) (h : W.ownsRow n₀ 33 1 (.slice (some ⟨g, 0, none⟩) (j + 1) cap) (j + 1) (u64s (preL s.data.toList k))) :
    (W.setCell ⟨g, j, none⟩ (.int .u64 ((wordN (s.data.toList.take k) (k / 8) + 2 ^ (8 * (k % 8)) * (s.data.toList[k]).toNat : Nat) : Int))).ownsRow n₀ 33 1 (.slice (some ⟨g, 0, none⟩) (j + 1) cap) (j + 1) (u64s (packL (s.data.toList.take (k + 1)))) := by
  subst hj
  rw [← preL_next _ _ hk]
  have e : ∀ (zs : List Nat) (j z : Nat), u64s (zs.set j z) = (u64s zs).set j (.int .u64 (z : Int)) := fun zs j z => by simp [u64s, List.map_set]
  rw [e]
  exact (World.ownsRow.stored h _ _).1
theorem pre_app {l : List UInt8} {k : Nat} (h8 : k % 8 = 0) : u64s (preL l k) = u64s (packL (l.take k)) ++ [Value.int .u64 0] := by
  unfold preL; rw [if_pos h8]; simp [u64s]
theorem pre_not {l : List UInt8} {k : Nat} (h8 : k % 8 ≠ 0) : u64s (preL l k) = u64s (packL (l.take k)) := by
  unfold preL; rw [if_neg h8]
theorem add_eq (z c k : Nat) (hc : c < 256) (hk : k < 8) (hz : z + 2 ^ (8 * k) * c < 18446744073709551616) : IntKind.u64.wrap ((z : Int) + IntKind.u64.wrap (IntKind.u64.wrap (c : Int) * 2 ^ (8 * k))) = ((z + 2 ^ (8 * k) * c : Nat) : Int) := by
  rw [shl_eq c k hc hk, IntKind.wrap_u64]; omega
theorem app_below {w wr w1 : World} {v : Value} {N : Nat} {e : TypeId} {xs : List Value} {tmp : Obj} (hB : Below w.heap.size w wr) (hrow : wr.ownsRow w.heap.size e 1 v N xs) (hgrow : (wr.alloc tmp).grownBy w1 v.ownBlock) : Below w.heap.size w w1 := by
  refine (hB.alloc hB.size tmp).grown hgrow (by have := hB.size; simp; omega) fun j ej => ?_
  rcases hrow.2 with ⟨rfl, _⟩ | ⟨g, cap, cur, rfl, hb, _, _⟩
  · simp [Value.ownBlock] at ej
  · obtain rfl : g = j := by simpa [Value.ownBlock] using ej
    exact hb
theorem own_base' {W : World} {n₀ n g cap : Nat} {e : TypeId} {xs : List Value} (h : W.ownsRow n₀ e 1 (.slice (some ⟨g, 0, none⟩) n cap) n xs) : n₀ ≤ g := by
  rcases h.2 with ⟨h1, _⟩ | ⟨g', cap', cur, h1, hb, _⟩
  · cases h1
  · cases h1; exact hb
theorem own_some' {W : World} {n₀ n : Nat} {e : TypeId} {v : Value} {xs : List Value} (h : W.ownsRow n₀ e 1 v (n + 1) xs) : ∃ g cap, v = .slice (some ⟨g, 0, none⟩) (n + 1) cap := by
  rcases h.2 with ⟨_, h0⟩ | ⟨g, cap, cur, rfl, _⟩
  · omega
  · exact ⟨_, _, rfl⟩
def PackRel (s : ByteArray) (w : World) (k N : Nat) (v : Value) (wr : World) : Prop := nWords k = N ∧ wr.ownsRow w.heap.size 33 1 v N (u64s (packL (s.data.toList.take k))) ∧ Below w.heap.size w wr
theorem pack_close {s : ByteArray} {w w1 : World} {k M g cap z' : Nat} (hk : k < s.data.toList.length) (hM : M = k / 8) (hz : z' = wordN (s.data.toList.take k) (k / 8) + 2 ^ (8 * (k % 8)) * (s.data.toList[k]).toNat)
    (h : w1.ownsRow w.heap.size 33 1 (.slice (some ⟨g, 0, none⟩) (M + 1) cap) (M + 1) (u64s (preL s.data.toList k))) (hB : Below w.heap.size w w1) :
    ∃ k_1 N_1 : Nat, k_1 ≤ s.size ∧ Value.int .i64 ((k : Int) + 1) = Value.int .i64 (k_1 : Int) ∧ PackRel s w k_1 N_1 (.slice (some ⟨g, 0, none⟩) (M + 1) cap) (w1.setCell ⟨g, M, none⟩ (.int .u64 (z' : Int))).drew := by
  have hb := own_base' h
  have h2 := post_facts hk hM h
  rw [← hz] at h2
  exact ⟨k + 1, M + 1, by have : k < s.size := by simpa using hk
                          omega, by simp, by unfold nWords; omega, h2, (hB.setCell (p := ⟨g, M, none⟩) hb _).drew⟩
set_option maxHeartbeats 2000000 in
theorem refpack_any (s : ByteArray) (hs : s.size ≤ 140737488351232) (w : World) :
    Calls Tryd.prog 45 #[.string s] w fun e W' => ∃ v, e = .returned v ∧ W'.ownsRow w.heap.size 33 1 v (nWords s.size) (u64s (packL s.data.toList)) ∧ Below w.heap.size w W' := by
  obtain ⟨i0, hi, hz0, hz1, hz2⟩ := info_parts infoU64
  go_enter Tryd.func45, Tryd.ntmps45
  go_wp2
  go_loopw [3, 4, 5] (fun o i _ wr => ∃ k N : Nat, k ≤ s.size ∧ i = .int .i64 k ∧ PackRel s w k N o wr) (fun _ i _ _ => s.size - (intOf i).toNat)
  case atStart => exact ⟨0, 0, by omega, rfl, rfl, by simpa [packL, nWords, u64s] using World.ownsRow_nil _ _ _ _, Below.refl _ _⟩
  case round =>
    obtain ⟨k, N, hk, rfl, hN, hrow, hB⟩ := hrel
    by_cases hlt : k < s.size
    · have hNk : 8 * N ≤ k + 7 := by unfold nWords at hN; omega
      have HN := Lib.hid hN
      have hlc : k < s.data.toList.length := by simpa using hlt
      have hle : w.heap.size ≤ wr.heap.size := hB.size
      clear hN
      by_cases h8 : k % 8 = 0
      · have hc8 : ((k : Int) % 8 == 0) = true := by
          have : ((k : Int) % 8 = 0) := by omega
          simpa using this
        have H8 := Lib.hid h8
        clear h8
        have hNk8 : N = k / 8 := by have h1 := HN.out; have h2 := H8.out; unfold nWords at h1; omega
        have HNK := Lib.hid hNk8
        have hadd := add_eq (wordN (s.data.toList.take k) (k / 8)) (s.data.toList[k]).toNat (k % 8) (s.data.toList[k]).toNat_lt (by omega) (sum_small _ _ hlc)
        obtain ⟨z', hz'⟩ : ∃ z' : Nat, z' = wordN (s.data.toList.take k) (k / 8) + 2 ^ (8 * (k % 8)) * (s.data.toList[k]).toNat := ⟨_, rfl⟩
        obtain ⟨z, hz⟩ : ∃ z : Nat, wordN (s.data.toList.take k) (k / 8) = z := ⟨_, rfl⟩
        rw [← hz', hz] at hadd
        have hadd2 : IntKind.u64.wrap ((z : Int) + IntKind.u64.wrap (IntKind.u64.wrap ((s[k]).toNat : Int) * 2 ^ (8 * (k % 8)))) = (z' : Int) := hadd
        have HZ' := Lib.hid hz'
        have HZ := Lib.hid hz
        have hNlt : N < 9223372036854775807 := by omega
        clear hNk8 hz' hz hadd
        go_wp2_with (at_builtin; refine wpList_append_own _ rfl _ _ 43 rfl w.heap.size 33 i0 (.int .u64 0) 1 8 Tryd.underlying43 hi hz0 hz1 hz2 rfl (by decide) _ _ _ rfl (hrow.alloc _) ⟨wr.heap.size, 0, none⟩ 1 1 [.int .u64 0] rfl rfl (cell_one_new _ _ _) (by simp [Value.oneCell']) (by unfold maxLen; omega) (by omega) (by simp; omega) ?_; intro v' w1 hown' hgrow _; obtain ⟨g', cap', rfl⟩ := ownsRow_succ hown'; rw [← pre_app H8.out] at hown'; obtain ⟨hcell, hfr⟩ := pre_facts hlc HNK.out hown'; rw [HZ.out] at hcell)
        have HOWN := Lib.hid hown'
        have HGROW := Lib.hid hgrow
        clear hown' hgrow
        have HB1 := Lib.hid (app_below hB hrow HGROW.out)
        go_region
        go_wp2_with fail
        go_roundw
        case rel => exact pack_close hlc HNK.out HZ'.out HOWN.out HB1.out
        case measure => exact meas_up hlt
      · have hc8 : ((k : Int) % 8 == 0) = false := by
          have : ¬ ((k : Int) % 8 = 0) := by omega
          simpa using this
        have H8 := Lib.hid h8
        obtain ⟨M, hM⟩ : ∃ M, N = M + 1 := ⟨N - 1, by have h1 := HN.out; unfold nWords at h1; omega⟩
        subst hM
        have hMk : M = k / 8 := by have h1 := HN.out; unfold nWords at h1; omega
        obtain ⟨g, cap, hv⟩ := own_some' hrow
        subst hv
        rw [← pre_not h8] at hrow
        obtain ⟨hcell, hfr⟩ := pre_facts hlc hMk hrow
        have hadd := add_eq (wordN (s.data.toList.take k) (k / 8)) (s.data.toList[k]).toNat (k % 8) (s.data.toList[k]).toNat_lt (by omega) (sum_small _ _ hlc)
        obtain ⟨z', hz'⟩ : ∃ z' : Nat, z' = wordN (s.data.toList.take k) (k / 8) + 2 ^ (8 * (k % 8)) * (s.data.toList[k]).toNat := ⟨_, rfl⟩
        obtain ⟨z, hz⟩ : ∃ z : Nat, wordN (s.data.toList.take k) (k / 8) = z := ⟨_, rfl⟩
        rw [← hz', hz] at hadd
        rw [hz] at hcell
        have hadd2 : IntKind.u64.wrap ((z : Int) + IntKind.u64.wrap (IntKind.u64.wrap ((s[k]).toNat : Int) * 2 ^ (8 * (k % 8)))) = (z' : Int) := hadd
        have HZ' := Lib.hid hz'
        have HZ := Lib.hid hz
        have HNK := Lib.hid hMk
        have HOWN := Lib.hid hrow
        have HB1 := Lib.hid hB
        have hNlt : M < 9223372036854775807 := by omega
        clear hz' hz hadd hMk hrow h8
        go_wp2_with fail
        go_region
        go_wp2_with fail
        go_roundw
        case rel => exact pack_close hlc HNK.out HZ'.out HOWN.out HB1.out
        case measure => exact meas_up hlt
    · obtain rfl : k = s.size := by omega
      have hN2 : N = nWords s.size := hN.symm
      subst hN2
      have e : s.data.toList.take s.size = s.data.toList := List.take_of_length_le (by simp)
      rw [e] at hrow
      go_wp2
      go_ret
      exact ⟨_, rfl, hrow, hB⟩
end Go.Proofs.YtlakfnlkiebpdaaDoor.NumL
namespace Go.Proofs.YtlakfnlkiebpdaaDoor.NumL
open Go Go.RowKit
def u8s (l : List UInt8) : List Value := l.map fun c => Value.int .u8 (c.toNat : Int)
theorem bytesOf_succ (zs : List Nat) (k : Nat) : bytesOf zs (k + 1) = bytesOf zs k ++ [UInt8.ofNat (byteAt zs k)] := by simp [bytesOf, List.range_succ]
theorem u8s_snoc (zs : List Nat) (k : Nat) : u8s (bytesOf zs (k + 1)) = u8s (bytesOf zs k) ++ [Value.int .u8 (byteAt zs k : Nat)] := by
  rw [bytesOf_succ]
  have h4 : (UInt8.ofNat (byteAt zs k)).toNat = byteAt zs k := by rw [UInt8.toNat_ofNat']; have := byteAt_lt zs k; omega
  simp [u8s, h4]
/-- the bytes that are owned, as a text -/
theorem own_text {W : World} {n₀ n : Nat} {v : Value} {l : List UInt8} (hl : l.length = n) (h : W.ownsRow n₀ 5 1 v n (u8s l)) :
    (convert 125 9 v).run Tryd.prog W = .ok (.string ⟨l.toArray⟩) W := by
  rcases h.2 with ⟨rfl, rfl⟩ | ⟨g, cap, cur, rfl, _, hg, h1, h2, h3, h4⟩
  · obtain rfl : l = [] := List.length_eq_zero_iff.1 hl
    have := run_convert_bytes_string (P := Tryd.prog) W 125 9 5 none 0 0 Tryd.underlying125 Tryd.underlying5 Tryd.underlying9
    rw [this]; rfl
  · subst hl
    refine run_convert_bytes_back (P := Tryd.prog) W 125 9 5 ⟨g, 0, none⟩ cap l Tryd.underlying125 Tryd.underlying5 Tryd.underlying9 (fun j hj => ?_)
    have e : cur.toList[j]? = some (.int .u8 ((l[j]).toNat : Int)) := by
      have : (cur.toList.take (l.length * 1))[j]? = (u8s l)[j]? := by rw [h4]
      rw [List.getElem?_take_of_lt (by omega)] at this
      rw [this]
      simp [u8s, hj]
    have e2 : (Addr.add ⟨g, 0, none⟩ j) = ⟨g, j, none⟩ := by
      simp [Addr.add]
      exact fun h => h.symm
    have hc : W.cell? ⟨g, j, none⟩ = cur[j]? := by simp [World.cell?, hg]
    rw [e2, hc, ← e]; simp
/-- the same where only what is new has turned -/
theorem own_below {W W' : World} {n₀ : Nat} {e : TypeId} {v : Value} {n : Nat} {xs : List Value} (h : W.ownsRow n₀ e 1 v n xs) (hb : Below W.heap.size W W') : W'.ownsRow n₀ e 1 v n xs := by
  have hg : W.grownBy W' none := ⟨hb.os, hb.tape, hb.output, hb.size, fun i hi _ => hb.block i hi⟩
  refine h.kept hg ?_
  rcases h.2 with ⟨rfl, _⟩ | ⟨g, cap, cur, rfl, _⟩
  · exact .inl rfl
  · exact .inr (by simp [Value.ownBlock])
theorem same_to' (v1 v2 : Value) (xs ys : List Nat) (bb : Bool) (hbb : decide (xs = ys) = bb) (hx : xs.length ≤ 140737488351232) (w : World) (h1 : Words w.heap.size w v1 xs) (h2 : Words w.heap.size w v2 ys) :
    Calls Tryd.prog 89 #[v1, v2] w fun e w' => e = .returned (.bool bb) ∧ Below w.heap.size w w' := by
  refine (same_any v1 v2 xs ys hx w h1 h2).mono ?_
  rintro e w' ⟨he, hb⟩
  unfold SameOut at he
  exact ⟨by rw [he, hbb], hb⟩
theorem uok_iff {zs : List Nat} {n : Nat} (hz : ∀ z ∈ zs, z < 18446744073709551616) : UOk zs n ↔ packL (bytesOf zs n) = zs := by
  constructor
  · intro h; exact packL_bytes h hz
  · intro h
    have := uok_pack (bytesOf zs n)
    rwa [h, bytesOf_length] at this
theorem bl_tr {w w1 w2 : World} (h : Below w.heap.size w w1) (k : Below w1.heap.size w1 w2) : Below w.heap.size w w2 := h.trans (k.mono h.size)
set_option maxHeartbeats 1000000 in
theorem refunpack_neg (a : Option Addr) (len cap : Nat) (n : Int) (hn : n < 0) (w : World) :
    Calls Tryd.prog 62 #[.slice a len cap, .int .i64 n] w fun e w' => e = .returned (.tuple #[.string ⟨#[]⟩, .int .i64 1]) ∧ Below w.heap.size w w' := by
  have hd : decide (n < 0) = true := by simpa using hn
  go_enter Tryd.func62, Tryd.ntmps62
  go_wp2_with fail
  go_ret2
  exact ⟨rfl, Below.refl _ _⟩
set_option maxHeartbeats 1000000 in
theorem refunpack_long (a : Option Addr) (len cap m : Nat) (hl : len ≤ 1000) (hn : 8 * len < m) (w : World) :
    Calls Tryd.prog 62 #[.slice a len cap, .int .i64 m] w fun e w' => e = .returned (.tuple #[.string ⟨#[]⟩, .int .i64 1]) ∧ Below w.heap.size w w' := by
  have hd : decide ((m : Int) < 0) = false := by rw [decide_eq_false_iff_not]; omega
  go_enter Tryd.func62, Tryd.ntmps62
  go_wp2_with fail
  go_ret2
  exact ⟨rfl, Below.refl _ _⟩
def BytesRel (zs : List Nat) (w : World) (k : Nat) (v : Value) (wr : World) : Prop := wr.ownsRow w.heap.size 5 1 v k (u8s (bytesOf zs k)) ∧ Below w.heap.size w wr
def UnpackEnd (y : ByteArray) (bb : Bool) (e : Ending) : Prop := e = (if bb then .returned (.tuple #[.string y, .int .i64 0]) else .returned (.tuple #[.string ⟨#[]⟩, .int .i64 1]))
theorem refpack_own (s : ByteArray) (hs : s.size ≤ 140737488351232) (w : World) :
    Calls Tryd.prog 45 #[.string s] w fun e w' => (∃ a cap, e = .returned (.slice a (nWords s.size) cap) ∧ Words w'.heap.size w' (.slice a (nWords s.size) cap) (packL s.data.toList)) ∧ Below w.heap.size w w' := by
  refine (refpack_any s hs w).mono ?_
  rintro e w' ⟨v, rfl, hv, hb⟩
  have hl : (packL s.data.toList).length = nWords s.size := by rw [packL_length]; simp
  rcases hv.2 with ⟨rfl, h0⟩ | ⟨g, cap, cur, rfl, _⟩
  · refine ⟨⟨none, 0, by rw [h0], ?_⟩, hb⟩
    have : packL s.data.toList = [] := List.length_eq_zero_iff.1 (by omega)
    rw [this, h0]; exact .inl ⟨rfl, rfl⟩
  · exact ⟨⟨_, cap, rfl, Words.of_own (n₀ := w.heap.size) (by rw [hl]; exact hv)⟩, hb⟩
theorem byte_is' {zs : List Nat} {k z : Nat} (h : zs.getD (k / 8) 0 = z) : (((z : Nat) : Int) / 2 ^ (8 * (k % 8))).tmod 256 % 256 = ((byteAt zs k : Nat) : Int) := by
  have h0 : (0 : Int) ≤ ((z : Nat) : Int) / 2 ^ (8 * (k % 8)) := by
    have e : ((z : Nat) : Int) / 2 ^ (8 * (k % 8)) = ((z / 2 ^ (8 * (k % 8)) : Nat) : Int) := by rw [Int.natCast_ediv, Int.natCast_pow]; rfl
    rw [e]; exact Int.natCast_nonneg _
  rw [Int.tmod_eq_emod_of_nonneg h0, Int.emod_emod_of_dvd _ (Int.dvd_refl _), byte_is h]
theorem bytes_rel {zs : List Nat} {w w1 : World} {k : Nat} {v : Value} (h : w1.ownsRow w.heap.size 5 1 v k (u8s (bytesOf zs k))) (hB : Below w.heap.size w w1) : BytesRel zs w k v w1 := ⟨h, hB⟩
theorem bytes_eq' {s : ByteArray} {l : List UInt8} (h : s.data.toList = l) : (⟨l.toArray⟩ : ByteArray) = s := by subst h; simp
set_option maxHeartbeats 4000000 in
theorem refunpack_nil (a : Option Addr) (cap : Nat) (w : World) (hv : Words w.heap.size w (.slice a 0 cap) []) :
    Calls Tryd.prog 62 #[.slice a 0 cap, .int .i64 0] w fun e w' => e = .returned (.tuple #[.string ⟨#[]⟩, .int .i64 0]) ∧ Below w.heap.size w w' := by
  have HV := Lib.hid hv
  have hown0 := World.ownsRow_nil w w.heap.size 5 1
  have hct := own_text (l := []) rfl hown0
  clear hv hown0
  go_enter Tryd.func62, Tryd.ntmps62
  go_wp2_with fail
  go_loopw [6, 7] (fun o i wr => o = .slice none 0 0 ∧ i = .int .i64 0 ∧ wr = w) (fun _ _ _ => 0)
  case atStart => exact ⟨rfl, rfl, rfl⟩
  case round =>
    obtain ⟨rfl, rfl, rfl⟩ := hrel
    go_wp2_with fail
    refine (refpack_own ⟨#[]⟩ (by decide) _).mono ?_
    rintro e w1 ⟨⟨a1, cap1, rfl, hv1⟩, hb1⟩
    have HW1 := Lib.hid hv1
    have HB1 := Lib.hid hb1
    have HV1 := Lib.hid ((HV.out.below hb1).mono hb1.size)
    have hct1 := own_text (W := w1) (n₀ := 0) (l := []) rfl (World.ownsRow_nil _ _ _ _)
    clear hv1 hb1
    go_wp2_with fail
    refine (same_to' _ _ [] [] true rfl (by decide) _ HW1.out HV1.out).mono ?_
    rintro e w2 ⟨rfl, hb2⟩
    have hct2 := own_text (W := w2) (n₀ := 0) (l := []) rfl (World.ownsRow_nil _ _ _ _)
    have HB2 := Lib.hid (bl_tr HB1.out hb2)
    clear hb2
    go_wp2_with fail
    go_ret2
    exact ⟨rfl, HB2.out⟩
set_option maxRecDepth 100000 in
set_option maxHeartbeats 4000000 in
theorem refunpack_in (b off cap : Nat) (zs : List Nat) (m : Nat) (y : ByteArray) (hy : y.data.toList = bytesOf zs m) (bb : Bool) (hl : zs.length ≤ 1000) (hm : m ≤ 8 * zs.length) (hbb : decide (packL (bytesOf zs m) = zs) = bb) (w : World) (hbw : b < w.heap.size) (hlc : zs.length ≤ cap)
    (hc : ∀ j, j < zs.length → w.cell? ⟨b, off + j, none⟩ = some (.int .u64 (zs.getD j 0 : Nat))) :
    Calls Tryd.prog 62 #[.slice (some ⟨b, off, none⟩) zs.length cap, .int .i64 m] w fun e w' => UnpackEnd y bb e ∧ Below w.heap.size w w' := by
  obtain ⟨i0, hi, hz0, hz1, hz2⟩ := info_parts infoU8
  have HC := Lib.hid hc
  have HBB := Lib.hid hbb
  have HY := Lib.hid hy
  have hd : decide ((m : Int) < 0) = false := by rw [decide_eq_false_iff_not]; omega
  clear hc hbb hy
  go_enter Tryd.func62, Tryd.ntmps62
  go_wp2_with fail
  go_loopw [6, 7] (fun o i wr => ∃ k : Nat, k ≤ m ∧ i = .int .i64 k ∧ BytesRel zs w k o wr) (fun _ i _ => m - (intOf i).toNat)
  case atStart => exact ⟨0, by omega, rfl, by simpa [bytesOf, u8s] using World.ownsRow_nil _ _ _ _, Below.refl _ _⟩
  case round =>
    obtain ⟨k, hk, rfl, hrow, hB⟩ := hrel
    have hle : w.heap.size ≤ wr.heap.size := hB.size
    by_cases hlt : k < m
    · have hkz : k / 8 < zs.length := by omega
      obtain ⟨z, hz⟩ : ∃ z, zs.getD (k / 8) 0 = z := ⟨_, rfl⟩
      have hcx : wr.cell? ⟨b, off + k / 8, none⟩ = some (.int .u64 (z : Nat)) := by rw [hB.cell (p := ⟨b, off + k / 8, none⟩) hbw, HC.out _ hkz, hz]
      have HZK := Lib.hid hz
      clear hz
      go_wp2_with (at_builtin; refine wpList_append_own _ rfl _ _ 125 rfl w.heap.size 5 i0 (.int .u8 0) 1 1 Tryd.underlying125 hi hz0 hz1 hz2 rfl (by decide) _ _ _ rfl (hrow.alloc _) ⟨wr.heap.size, 0, none⟩ 1 1 [_] rfl rfl (cell_one_new _ _ _) (by simp [Value.oneCell']) (by unfold maxLen; omega) (by omega) (by simp; omega) ?_; intro v' w1 hown' hgrow _)
      rw [byte_is' HZK.out, ← u8s_snoc] at hown'
      have HR := Lib.hid (bytes_rel (w := w) hown' (app_below hB hrow hgrow))
      go_roundw
      case rel => exact ⟨k + 1, hlt, by simp, HR.out⟩
      case measure => simp [intOf]; omega
    · obtain rfl : k = m := by omega
      have hyz : y.size ≤ 8000 := by
        have e : y.size = y.data.toList.length := by simp
        rw [e, HY.out, bytesOf_length]; omega
      have hct := own_text (bytesOf_length zs k) hrow
      rw [bytes_eq' HY.out] at hct
      have HROW := Lib.hid hrow
      have HB0 := Lib.hid hB
      have HV0 : Hid (Words w.heap.size w (.slice (some ⟨b, off, none⟩) zs.length cap) zs) := .inr ⟨b, off, cap, rfl, hbw, hlc, HC.out⟩
      clear hrow hB
      go_wp2_with fail
      refine (refpack_own y (by omega) _).mono ?_
      rintro e w1 ⟨⟨a1, cap1, rfl, hv1⟩, hb1⟩
      have HW1 := Lib.hid hv1
      have HR1 := Lib.hid (own_below HROW.out hb1)
      have HB1 := Lib.hid (bl_tr HB0.out hb1)
      have HV1 := Lib.hid ((HV0.out.below HB1.out).mono HB1.out.size)
      clear hv1 hb1 hct
      cases bb
      · go_wp2_with fail
        refine (same_to' _ _ _ zs false (by rw [HY.out]; exact HBB.out) (by rw [HY.out, packL_length, bytesOf_length]; unfold nWords; omega) _ HW1.out HV1.out).mono ?_
        rintro e w2 ⟨rfl, hb2⟩
        have HB2 := Lib.hid (bl_tr HB1.out hb2)
        clear hb2
        go_wp2_with fail
        go_ret2
        exact ⟨rfl, HB2.out⟩
      · go_wp2_with fail
        refine (same_to' _ _ _ zs true (by rw [HY.out]; exact HBB.out) (by rw [HY.out, packL_length, bytesOf_length]; unfold nWords; omega) _ HW1.out HV1.out).mono ?_
        rintro e w2 ⟨rfl, hb2⟩
        have hct2 := own_text (bytesOf_length zs k) (own_below HR1.out hb2)
        rw [bytes_eq' HY.out] at hct2
        have HB2 := Lib.hid (bl_tr HB1.out hb2)
        clear hb2
        go_wp2_with fail
        go_ret2
        exact ⟨rfl, HB2.out⟩
/-- the reference's Unpack at right words, and at others -/
theorem refunpack_any (v : Value) (zs : List Nat) (n : Int) (hl : zs.length ≤ 1000) (hn1 : n ≤ 9223372036854775807) (hz : ∀ z ∈ zs, z < 18446744073709551616) (w : World) (hv : Words w.heap.size w v zs) :
    Calls Tryd.prog 62 #[v, .int .i64 n] w fun e w' => ((0 ≤ n ∧ UOk zs n.toNat ∧ e = .returned (.tuple #[.string ⟨(bytesOf zs n.toNat).toArray⟩, .int .i64 0])) ∨ (¬ (0 ≤ n ∧ UOk zs n.toNat) ∧ e = .returned (.tuple #[.string ⟨#[]⟩, .int .i64 1]))) ∧ Below w.heap.size w w' := by
  obtain ⟨a, cap, rfl⟩ := hv.shape
  by_cases h0 : n < 0
  · refine (refunpack_neg a zs.length cap n h0 w).mono ?_
    rintro e w' ⟨rfl, hb⟩
    exact ⟨.inr ⟨by omega, rfl⟩, hb⟩
  · obtain ⟨m, rfl⟩ : ∃ m : Nat, n = m := ⟨n.toNat, by omega⟩
    simp only [Int.toNat_natCast]
    by_cases hm : m ≤ 8 * zs.length
    · rcases hv with ⟨hv1, hv2⟩ | ⟨b, off, cap', hsl, hbw, hlc, hc⟩
      · subst hv2
        have hm0 : m = 0 := by simp at hm; omega
        subst hm0
        refine (refunpack_nil a cap w (.inl ⟨hv1, rfl⟩)).mono ?_
        rintro e w' ⟨rfl, hb⟩
        exact ⟨.inl ⟨by omega, ⟨rfl, fun h => (h rfl).elim⟩, rfl⟩, hb⟩
      · injection hsl with hs1 hs2 hs3
        subst hs1
        subst hs3
        refine (refunpack_in b off cap zs m ⟨(bytesOf zs m).toArray⟩ (by simp) (decide (packL (bytesOf zs m) = zs)) hl hm rfl w hbw hlc hc).mono ?_
        rintro e w' ⟨he, hb⟩
        refine ⟨?_, hb⟩
        unfold UnpackEnd at he
        by_cases hu : UOk zs m
        · left
          refine ⟨by omega, hu, ?_⟩
          rw [he, decide_eq_true ((uok_iff hz).1 hu)]
          rfl
        · right
          refine ⟨fun h => hu h.2, ?_⟩
          rw [he, decide_eq_false (fun h => hu ((uok_iff hz).2 h))]
          rfl
    · refine (refunpack_long a zs.length cap m hl (by omega) w).mono ?_
      rintro e w' ⟨rfl, hb⟩
      refine ⟨.inr ⟨fun h => ?_, rfl⟩, hb⟩
      have := h.2.1
      unfold nWords at this
      omega
end Go.Proofs.YtlakfnlkiebpdaaDoor.NumL
