/- The contract of the reference's Pack: a slice that owns the words of the text, and nothing that lay has turned. Condition: the text is no longer than the reach. The contract of the reference's Unpack: the text of words, or none; nothing that lay has turned. Conditions: the list is of 64-bit words and no longer than 1000. -/
import Derived.RegionTactic
import Derived.BigRegion
import Derived.Laws.OwnMore
import Derived.Test.YtphhokpbkcdljaaDoorPackAll
import Derived.Test.YtphhokpbkcdljaaDoorTextB
import Derived.Laws.BytesArg
namespace Go.Proofs.YtphhokpbkcdljaaDoor
open Go Go.RowKit
/-- the words of the first k bytes, with a new empty one where a word is full -/
def preL (l : List UInt8) (k : Nat) : List Nat := if k % 8 = 0 then packL (l.take k) ++ [0] else packL (l.take k)
theorem preL_length (l : List UInt8) (k : Nat) (h : k < l.length) : (preL l k).length = k / 8 + 1 := by
  unfold preL
  have h1 : (packL (l.take k)).length = (k + 7) / 8 := by rw [packL_length, List.length_take, Nat.min_eq_left (Nat.le_of_lt h)]; rfl
  split
  · rw [List.length_append, h1]; simp; omega
  · rw [h1]; omega
theorem packL_at (l : List UInt8) (j : Nat) (h : j < nWords l.length) : (packL l)[j]? = some (wordN l j) := by
  simp [packL, h]
theorem wordN_take (l : List UInt8) (k j : Nat) (h : 8 * j + 8 ≤ k) : wordN (l.take k) j = wordN l j := by
  unfold wordN
  congr 1
  rw [List.drop_take, List.take_take, Nat.min_eq_left (by omega)]
theorem wordN_last (l : List UInt8) (k : Nat) (h : k < l.length) : wordN (l.take (k + 1)) (k / 8) = wordN (l.take k) (k / 8) + 2 ^ (8 * (k % 8)) * (l[k]).toNat := by
  unfold wordN
  have e1 : ((l.take (k + 1)).drop (8 * (k / 8))).take 8 = (l.drop (8 * (k / 8))).take (k % 8 + 1) := by
    rw [List.drop_take, List.take_take]; congr 1; omega
  have e2 : ((l.take k).drop (8 * (k / 8))).take 8 = (l.drop (8 * (k / 8))).take (k % 8) := by
    rw [List.drop_take, List.take_take]; congr 1; omega
  have hl : k % 8 < (l.drop (8 * (k / 8))).length := by simp; omega
  rw [e1, e2, leN_step _ _ hl]
  congr 3
  simp only [List.getElem_drop]
  congr 1
  omega
theorem preL_last (l : List UInt8) (k : Nat) (h : k < l.length) : (preL l k).getD (k / 8) 0 = wordN (l.take k) (k / 8) := by
  unfold preL
  have hlen : (l.take k).length = k := by rw [List.length_take, Nat.min_eq_left (Nat.le_of_lt h)]
  have h1 : (packL (l.take k)).length = nWords k := by rw [packL_length, hlen]
  split
  · rename_i h8
    have e : wordN (l.take k) (k / 8) = 0 := by
      unfold wordN
      rw [List.drop_eq_nil_of_le (by rw [hlen]; omega)]; rfl
    rw [e]
    have h2 : nWords k = k / 8 := by unfold nWords; omega
    simp [List.getD, h1, h2]
  · rename_i h8
    have h2 : k / 8 < nWords (l.take k).length := by rw [hlen]; unfold nWords; omega
    rw [packL_getD _ _ h2]
theorem preL_next (l : List UInt8) (k : Nat) (h : k < l.length) : (preL l k).set (k / 8) (wordN (l.take k) (k / 8) + 2 ^ (8 * (k % 8)) * (l[k]).toNat) = packL (l.take (k + 1)) := by
  have hlen : (l.take k).length = k := by rw [List.length_take, Nat.min_eq_left (Nat.le_of_lt h)]
  have hlen1 : (l.take (k + 1)).length = k + 1 := by rw [List.length_take, Nat.min_eq_left h]
  apply List.ext_getElem?
  intro j
  by_cases hj : j = k / 8
  · subst hj
    rw [List.getElem?_set_self (by rw [preL_length l k h]; omega), packL_at _ _ (by rw [hlen1]; unfold nWords; omega), wordN_last l k h]
  · rw [List.getElem?_set_ne (fun e => hj e.symm)]
    by_cases hlt : j < k / 8
    · rw [packL_at _ _ (by rw [hlen1]; unfold nWords; omega), wordN_take l (k + 1) j (by omega)]
      have h3 : (packL (l.take k))[j]? = some (wordN l j) := by rw [packL_at _ _ (by rw [hlen]; unfold nWords; omega), wordN_take l k j (by omega)]
      unfold preL
      split
      · rw [List.getElem?_append_left (by rw [packL_length, hlen]; unfold nWords; omega), h3]
      · exact h3
    · rw [List.getElem?_eq_none (by rw [preL_length l k h]; omega), List.getElem?_eq_none (by rw [packL_length, hlen1]; unfold nWords; omega)]
theorem sum_small (l : List UInt8) (k : Nat) (h : k < l.length) : wordN (l.take k) (k / 8) + 2 ^ (8 * (k % 8)) * (l[k]).toNat < 18446744073709551616 := by
  rw [← wordN_last l k h]; exact wordN_lt _ _
theorem own_cell_frozen {W : World} {n₀ g cap n j : Nat} {zs : List Nat} (h : W.ownsRow n₀ 87 1 (.slice (some ⟨g, 0, none⟩) n cap) n (u64s zs)) (hl : zs.length = n) (hj : j < n) :
    W.cell? ⟨g, j, none⟩ = some (.int .u64 (zs.getD j 0 : Nat)) ∧ W.frozen? ⟨g, j, none⟩ = false := by
  subst hl
  refine ⟨?_, ?_⟩
  · rcases Words.of_own h with ⟨h1, _⟩ | ⟨b, off, cap', h1, _, _, hc⟩
    · cases h1
    · have h2 := hc j hj
      cases h1
      rw [Nat.zero_add] at h2
      exact h2
  · rcases h.2 with ⟨h1, _⟩ | ⟨g', cap', cur, h1, _, hg, _⟩
    · cases h1
    · cases h1
      simp [World.frozen?, hg]
/-- what is owned ahead of the store of byte k -/
theorem pre_facts {W : World} {n₀ g cap k j : Nat} {s : ByteArray} (hk : k < s.data.toList.length) (hj : j = k / 8) (h : W.ownsRow n₀ 87 1 (.slice (some ⟨g, 0, none⟩) (j + 1) cap) (j + 1) (u64s (preL s.data.toList k))) :
    W.cell? ⟨g, j, none⟩ = some (.int .u64 (wordN (s.data.toList.take k) (k / 8) : Nat)) ∧ W.frozen? ⟨g, j, none⟩ = false := by
  subst hj
  have h1 := own_cell_frozen (j := k / 8) h (preL_length _ _ hk) (by omega)
  rw [preL_last _ _ hk] at h1
  exact h1
theorem post_facts {W : World} {n₀ g cap k j : Nat} {s : ByteArray} (hk : k < s.data.toList.length) (hj : j = k / 8) (h : W.ownsRow n₀ 87 1 (.slice (some ⟨g, 0, none⟩) (j + 1) cap) (j + 1) (u64s (preL s.data.toList k))) :
    (W.setCell ⟨g, j, none⟩ (.int .u64 ((wordN (s.data.toList.take k) (k / 8) + 2 ^ (8 * (k % 8)) * (s.data.toList[k]).toNat : Nat) : Int))).ownsRow n₀ 87 1 (.slice (some ⟨g, 0, none⟩) (j + 1) cap) (j + 1) (u64s (packL (s.data.toList.take (k + 1)))) := by
  subst hj
  rw [← preL_next _ _ hk]
  have e : ∀ (zs : List Nat) (j z : Nat), u64s (zs.set j z) = (u64s zs).set j (.int .u64 (z : Int)) := fun zs j z => by simp [u64s, List.map_set]
  rw [e]
  exact (World.ownsRow.stored h _ _).1
theorem pre_app {l : List UInt8} {k : Nat} (h8 : k % 8 = 0) : u64s (preL l k) = u64s (packL (l.take k)) ++ [Value.int .u64 0] := by
  unfold preL; rw [if_pos h8]; simp [u64s]
theorem pre_not {l : List UInt8} {k : Nat} (h8 : k % 8 ≠ 0) : u64s (preL l k) = u64s (packL (l.take k)) := by
  unfold preL; rw [if_neg h8]
theorem add_eq (z c k : Nat) (hc : c < 256) (hk : k < 8) (hz : z + 2 ^ (8 * k) * c < 18446744073709551616) : IntKind.u64.wrap ((z : Int) + IntKind.u64.wrap (IntKind.u64.wrap (c : Int) * 2 ^ (8 * k))) = ((z + 2 ^ (8 * k) * c : Nat) : Int) := by
  rw [shl_eq c k hc hk, IntKind.wrap_u64]; omega
theorem app_below {w wr w1 : World} {v : Value} {N : Nat} {e : TypeId} {xs : List Value} {tmp : Obj} (hB : Below w.heap.size w wr) (hrow : wr.ownsRow w.heap.size e 1 v N xs) (hgrow : (wr.alloc tmp).grownBy w1 v.ownBlock) : Below w.heap.size w w1 := by
  refine (hB.alloc hB.size tmp).grown hgrow (by have := hB.size; simp; omega) fun j ej => ?_
  rcases hrow.2 with ⟨rfl, _⟩ | ⟨g, cap, cur, rfl, hb, _, _⟩
  · simp [Value.ownBlock] at ej
  · obtain rfl : g = j := by simpa [Value.ownBlock] using ej
    exact hb
theorem own_base' {W : World} {n₀ n g cap : Nat} {e : TypeId} {xs : List Value} (h : W.ownsRow n₀ e 1 (.slice (some ⟨g, 0, none⟩) n cap) n xs) : n₀ ≤ g := by
  rcases h.2 with ⟨h1, _⟩ | ⟨g', cap', cur, h1, hb, _⟩
  · cases h1
  · cases h1; exact hb
theorem own_some' {W : World} {n₀ n : Nat} {e : TypeId} {v : Value} {xs : List Value} (h : W.ownsRow n₀ e 1 v (n + 1) xs) : ∃ g cap, v = .slice (some ⟨g, 0, none⟩) (n + 1) cap := by
  rcases h.2 with ⟨_, h0⟩ | ⟨g, cap, cur, rfl, _⟩
  · omega
  · exact ⟨_, _, rfl⟩
def PackRel (s : ByteArray) (w : World) (k N : Nat) (v : Value) (wr : World) : Prop := nWords k = N ∧ wr.ownsRow w.heap.size 87 1 v N (u64s (packL (s.data.toList.take k))) ∧ Below w.heap.size w wr
theorem pack_close {s : ByteArray} {w w1 : World} {k M g cap z' : Nat} (hk : k < s.data.toList.length) (hM : M = k / 8) (hz : z' = wordN (s.data.toList.take k) (k / 8) + 2 ^ (8 * (k % 8)) * (s.data.toList[k]).toNat)
    (h : w1.ownsRow w.heap.size 87 1 (.slice (some ⟨g, 0, none⟩) (M + 1) cap) (M + 1) (u64s (preL s.data.toList k))) (hB : Below w.heap.size w w1) :
    ∃ k_1 N_1 : Nat, k_1 ≤ s.size ∧ Value.int .i64 ((k : Int) + 1) = Value.int .i64 (k_1 : Int) ∧ PackRel s w k_1 N_1 (.slice (some ⟨g, 0, none⟩) (M + 1) cap) (w1.setCell ⟨g, M, none⟩ (.int .u64 (z' : Int))).drew := by
  have hb := own_base' h
  have h2 := post_facts hk hM h
  rw [← hz] at h2
  exact ⟨k + 1, M + 1, by have : k < s.size := by simpa using hk
                          omega, by simp, by unfold nWords; omega, h2, (hB.setCell (p := ⟨g, M, none⟩) hb _).drew⟩
end Go.Proofs.YtphhokpbkcdljaaDoor
namespace Go.Proofs.YtphhokpbkcdljaaDoor
open Go Go.RowKit
def u8s (l : List UInt8) : List Value := l.map fun c => Value.int .u8 (c.toNat : Int)
theorem bytesOf_succ (zs : List Nat) (k : Nat) : bytesOf zs (k + 1) = bytesOf zs k ++ [UInt8.ofNat (byteAt zs k)] := by simp [bytesOf, List.range_succ]
theorem u8s_snoc (zs : List Nat) (k : Nat) : u8s (bytesOf zs (k + 1)) = u8s (bytesOf zs k) ++ [Value.int .u8 (byteAt zs k : Nat)] := by
  rw [bytesOf_succ]
  have h4 : (UInt8.ofNat (byteAt zs k)).toNat = byteAt zs k := by rw [UInt8.toNat_ofNat']; have := byteAt_lt zs k; omega
  simp [u8s, h4]
/-- the bytes that are owned, as a text -/
theorem own_text {W : World} {n₀ n : Nat} {v : Value} {l : List UInt8} (hl : l.length = n) (h : W.ownsRow n₀ 5 1 v n (u8s l)) :
    (convert 30 9 v).run Tryd.prog W = .ok (.string ⟨l.toArray⟩) W := by
  rcases h.2 with ⟨rfl, rfl⟩ | ⟨g, cap, cur, rfl, _, hg, h1, h2, h3, h4⟩
  · obtain rfl : l = [] := List.length_eq_zero_iff.1 hl
    have := run_convert_bytes_string (P := Tryd.prog) W 30 9 5 none 0 0 Tryd.underlying30 Tryd.underlying5 Tryd.underlying9
    rw [this]; rfl
  · subst hl
    refine run_convert_bytes_back (P := Tryd.prog) W 30 9 5 ⟨g, 0, none⟩ cap l Tryd.underlying30 Tryd.underlying5 Tryd.underlying9 (fun j hj => ?_)
    have e : cur.toList[j]? = some (.int .u8 ((l[j]).toNat : Int)) := by
      have : (cur.toList.take (l.length * 1))[j]? = (u8s l)[j]? := by rw [h4]
      rw [List.getElem?_take_of_lt (by omega)] at this
      rw [this]
      simp [u8s, hj]
    have e2 : (Addr.add ⟨g, 0, none⟩ j) = ⟨g, j, none⟩ := by
      simp [Addr.add]
      exact fun h => h.symm
    have hc : W.cell? ⟨g, j, none⟩ = cur[j]? := by simp [World.cell?, hg]
    rw [e2, hc, ← e]; simp
/-- the same where only what is new has turned -/
theorem own_below {W W' : World} {n₀ : Nat} {e : TypeId} {v : Value} {n : Nat} {xs : List Value} (h : W.ownsRow n₀ e 1 v n xs) (hb : Below W.heap.size W W') : W'.ownsRow n₀ e 1 v n xs := by
  have hg : W.grownBy W' none := ⟨hb.os, hb.tape, hb.output, hb.size, fun i hi _ => hb.block i hi⟩
  refine h.kept hg ?_
  rcases h.2 with ⟨rfl, _⟩ | ⟨g, cap, cur, rfl, _⟩
  · exact .inl rfl
  · exact .inr (by simp [Value.ownBlock])
theorem uok_iff {zs : List Nat} {n : Nat} (hz : ∀ z ∈ zs, z < 18446744073709551616) : UOk zs n ↔ packL (bytesOf zs n) = zs := by
  constructor
  · intro h; exact packL_bytes h hz
  · intro h
    have := uok_pack (bytesOf zs n)
    rwa [h, bytesOf_length] at this
theorem bl_tr {w w1 w2 : World} (h : Below w.heap.size w w1) (k : Below w1.heap.size w1 w2) : Below w.heap.size w w2 := h.trans (k.mono h.size)
def BytesRel (zs : List Nat) (w : World) (k : Nat) (v : Value) (wr : World) : Prop := wr.ownsRow w.heap.size 5 1 v k (u8s (bytesOf zs k)) ∧ Below w.heap.size w wr
def UnpackEnd (y : ByteArray) (bb : Bool) (e : Ending) : Prop := e = (if bb then .returned (.tuple #[.string y, .int .i64 0]) else .returned (.tuple #[.string ⟨#[]⟩, .int .i64 1]))
theorem byte_is' {zs : List Nat} {k z : Nat} (h : zs.getD (k / 8) 0 = z) : (((z : Nat) : Int) / 2 ^ (8 * (k % 8))).tmod 256 % 256 = ((byteAt zs k : Nat) : Int) := by
  have h0 : (0 : Int) ≤ ((z : Nat) : Int) / 2 ^ (8 * (k % 8)) := by
    have e : ((z : Nat) : Int) / 2 ^ (8 * (k % 8)) = ((z / 2 ^ (8 * (k % 8)) : Nat) : Int) := by rw [Int.natCast_ediv, Int.natCast_pow]; rfl
    rw [e]; exact Int.natCast_nonneg _
  rw [Int.tmod_eq_emod_of_nonneg h0, Int.emod_emod_of_dvd _ (Int.dvd_refl _), byte_is h]
theorem bytes_rel {zs : List Nat} {w w1 : World} {k : Nat} {v : Value} (h : w1.ownsRow w.heap.size 5 1 v k (u8s (bytesOf zs k))) (hB : Below w.heap.size w w1) : BytesRel zs w k v w1 := ⟨h, hB⟩
theorem bytes_eq' {s : ByteArray} {l : List UInt8} (h : s.data.toList = l) : (⟨l.toArray⟩ : ByteArray) = s := by subst h; simp
end Go.Proofs.YtphhokpbkcdljaaDoor
