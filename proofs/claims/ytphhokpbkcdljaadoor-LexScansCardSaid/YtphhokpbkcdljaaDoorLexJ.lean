/- The three tables of words that the program lays, and the contract of kindOf. Conditions: the tables are as laid. -/
import Derived.Test.YtphhokpbkcdljaaDoorLexF
import Derived.Test.YtphhokpbkcdljaaDoorShelf
import Derived.Below
import Derived.Deep.MidRow
namespace Go.Proofs.YtphhokpbkcdljaaDoor
open Go Go.RowKit
def keysA : Array Value := #[.string ⟨#[97, 110, 100]⟩, .string ⟨#[97, 110, 100, 97, 108, 115, 111]⟩, .string ⟨#[99, 97, 115, 101]⟩, .string ⟨#[100, 97, 116, 97, 116, 121, 112, 101]⟩, .string ⟨#[100, 105, 118]⟩, .string ⟨#[101, 108, 115, 101]⟩, .string ⟨#[101, 110, 100]⟩, .string ⟨#[101, 120, 99, 101, 112, 116, 105, 111, 110]⟩, .string ⟨#[102, 110]⟩, .string ⟨#[102, 117, 110]⟩, .string ⟨#[104, 97, 110, 100, 108, 101]⟩, .string ⟨#[105, 102]⟩, .string ⟨#[105, 110]⟩, .string ⟨#[105, 116, 111, 115]⟩, .string ⟨#[108, 101, 116]⟩, .string ⟨#[109, 111, 100]⟩, .string ⟨#[110, 111, 116]⟩, .string ⟨#[111, 102]⟩, .string ⟨#[111, 114, 100]⟩, .string ⟨#[111, 114, 101, 108, 115, 101]⟩, .string ⟨#[114, 97, 105, 115, 101]⟩, .string ⟨#[114, 101, 102]⟩, .string ⟨#[115, 105, 122, 101]⟩, .string ⟨#[115, 116, 114]⟩, .string ⟨#[116, 104, 101, 110]⟩, .string ⟨#[118, 97, 108]⟩]
def capsA : Array Value := #[.string ⟨#[116, 114, 117, 101]⟩, .string ⟨#[102, 97, 108, 115, 101]⟩, .string ⟨#[110, 105, 108]⟩]
def signsA : Array Value := #[.string ⟨#[45, 62]⟩, .string ⟨#[61, 62]⟩, .string ⟨#[58, 58]⟩, .string ⟨#[58, 61]⟩, .string ⟨#[60, 61]⟩, .string ⟨#[62, 61]⟩, .string ⟨#[60, 62]⟩, .string ⟨#[61]⟩, .string ⟨#[60]⟩, .string ⟨#[62]⟩, .string ⟨#[43]⟩, .string ⟨#[45]⟩, .string ⟨#[42]⟩, .string ⟨#[94]⟩, .string ⟨#[33]⟩, .string ⟨#[126]⟩, .string ⟨#[40]⟩, .string ⟨#[41]⟩, .string ⟨#[44]⟩, .string ⟨#[59]⟩, .string ⟨#[124]⟩, .string ⟨#[95]⟩]
/-- the tables lie as the program lays them -/
structure LxT (w : World) : Prop where
  k : ∀ i x, keysA[i]? = some x → w.cell? ⟨0, i, none⟩ = some x
  c : ∀ i x, capsA[i]? = some x → w.cell? ⟨1, i, none⟩ = some x
  s : ∀ i x, signsA[i]? = some x → w.cell? ⟨2, i, none⟩ = some x
theorem LxT.stay {w w' : World} (h : LxT w) (hb : Below w.heap.size w w') : LxT w' :=
  ⟨fun i x q => (hb.cell (p := ⟨_, i, none⟩) (World.block_lt_of_cell? w _ (h.k i x q))).trans (h.k i x q), fun i x q => (hb.cell (p := ⟨_, i, none⟩) (World.block_lt_of_cell? w _ (h.c i x q))).trans (h.c i x q), fun i x q => (hb.cell (p := ⟨_, i, none⟩) (World.block_lt_of_cell? w _ (h.s i x q))).trans (h.s i x q)⟩
def keyN (k : Nat) : ByteArray := ⟨(keysL.getD k []).toArray⟩
def capN (k : Nat) : ByteArray := ⟨(capsL.getD k []).toArray⟩
def signN (k : Nat) : ByteArray := ⟨(signsL.getD k []).toArray⟩
theorem ix_keys (W : World) : ∀ k : Nat, k < 26 → (Instr.index 77 (.agg #[.string ⟨#[97, 110, 100]⟩, .string ⟨#[97, 110, 100, 97, 108, 115, 111]⟩, .string ⟨#[99, 97, 115, 101]⟩, .string ⟨#[100, 97, 116, 97, 116, 121, 112, 101]⟩, .string ⟨#[100, 105, 118]⟩, .string ⟨#[101, 108, 115, 101]⟩, .string ⟨#[101, 110, 100]⟩, .string ⟨#[101, 120, 99, 101, 112, 116, 105, 111, 110]⟩, .string ⟨#[102, 110]⟩, .string ⟨#[102, 117, 110]⟩, .string ⟨#[104, 97, 110, 100, 108, 101]⟩, .string ⟨#[105, 102]⟩, .string ⟨#[105, 110]⟩, .string ⟨#[105, 116, 111, 115]⟩, .string ⟨#[108, 101, 116]⟩, .string ⟨#[109, 111, 100]⟩, .string ⟨#[110, 111, 116]⟩, .string ⟨#[111, 102]⟩, .string ⟨#[111, 114, 100]⟩, .string ⟨#[111, 114, 101, 108, 115, 101]⟩, .string ⟨#[114, 97, 105, 115, 101]⟩, .string ⟨#[114, 101, 102]⟩, .string ⟨#[115, 105, 122, 101]⟩, .string ⟨#[115, 116, 114]⟩, .string ⟨#[116, 104, 101, 110]⟩, .string ⟨#[118, 97, 108]⟩]) (.int .i64 k)).run Tryd.prog W = .ok (.string (keyN k)) W
  | 0, _ => by kernel_rfl
  | 1, _ => by kernel_rfl
  | 2, _ => by kernel_rfl
  | 3, _ => by kernel_rfl
  | 4, _ => by kernel_rfl
  | 5, _ => by kernel_rfl
  | 6, _ => by kernel_rfl
  | 7, _ => by kernel_rfl
  | 8, _ => by kernel_rfl
  | 9, _ => by kernel_rfl
  | 10, _ => by kernel_rfl
  | 11, _ => by kernel_rfl
  | 12, _ => by kernel_rfl
  | 13, _ => by kernel_rfl
  | 14, _ => by kernel_rfl
  | 15, _ => by kernel_rfl
  | 16, _ => by kernel_rfl
  | 17, _ => by kernel_rfl
  | 18, _ => by kernel_rfl
  | 19, _ => by kernel_rfl
  | 20, _ => by kernel_rfl
  | 21, _ => by kernel_rfl
  | 22, _ => by kernel_rfl
  | 23, _ => by kernel_rfl
  | 24, _ => by kernel_rfl
  | 25, _ => by kernel_rfl
  | k + 26, h => absurd h (by omega)
theorem ix_caps (W : World) : ∀ k : Nat, k < 3 → (Instr.index 78 (.agg #[.string ⟨#[116, 114, 117, 101]⟩, .string ⟨#[102, 97, 108, 115, 101]⟩, .string ⟨#[110, 105, 108]⟩]) (.int .i64 k)).run Tryd.prog W = .ok (.string (capN k)) W
  | 0, _ => by kernel_rfl
  | 1, _ => by kernel_rfl
  | 2, _ => by kernel_rfl
  | k + 3, h => absurd h (by omega)
theorem ix_signs (W : World) : ∀ k : Nat, k < 22 → (Instr.index 79 (.agg #[.string ⟨#[45, 62]⟩, .string ⟨#[61, 62]⟩, .string ⟨#[58, 58]⟩, .string ⟨#[58, 61]⟩, .string ⟨#[60, 61]⟩, .string ⟨#[62, 61]⟩, .string ⟨#[60, 62]⟩, .string ⟨#[61]⟩, .string ⟨#[60]⟩, .string ⟨#[62]⟩, .string ⟨#[43]⟩, .string ⟨#[45]⟩, .string ⟨#[42]⟩, .string ⟨#[94]⟩, .string ⟨#[33]⟩, .string ⟨#[126]⟩, .string ⟨#[40]⟩, .string ⟨#[41]⟩, .string ⟨#[44]⟩, .string ⟨#[59]⟩, .string ⟨#[124]⟩, .string ⟨#[95]⟩]) (.int .i64 k)).run Tryd.prog W = .ok (.string (signN k)) W
  | 0, _ => by kernel_rfl
  | 1, _ => by kernel_rfl
  | 2, _ => by kernel_rfl
  | 3, _ => by kernel_rfl
  | 4, _ => by kernel_rfl
  | 5, _ => by kernel_rfl
  | 6, _ => by kernel_rfl
  | 7, _ => by kernel_rfl
  | 8, _ => by kernel_rfl
  | 9, _ => by kernel_rfl
  | 10, _ => by kernel_rfl
  | 11, _ => by kernel_rfl
  | 12, _ => by kernel_rfl
  | 13, _ => by kernel_rfl
  | 14, _ => by kernel_rfl
  | 15, _ => by kernel_rfl
  | 16, _ => by kernel_rfl
  | 17, _ => by kernel_rfl
  | 18, _ => by kernel_rfl
  | 19, _ => by kernel_rfl
  | 20, _ => by kernel_rfl
  | 21, _ => by kernel_rfl
  | k + 22, h => absurd h (by omega)
theorem toL_of (l : List UInt8) : (⟨l.toArray⟩ : ByteArray).toList = l := by rw [Lib.toList_data]
theorem getD_at {L : List (List UInt8)} {k : Nat} (h : k < L.length) : L[k]? = some (L.getD k []) := by
  rw [List.getD_eq_getElem?_getD, List.getElem?_eq_getElem h]; rfl
/-- not among the words from k on -/
theorem drop_mem {L : List (List UInt8)} {k : Nat} (h : k < L.length) (x : List UInt8) : x ∈ L.drop k ↔ x = L.getD k [] ∨ x ∈ L.drop (k + 1) := by
  rw [List.drop_eq_getElem_cons h, List.mem_cons]
  rw [List.getD_eq_getElem?_getD, List.getElem?_eq_getElem h]
  rfl
/-- the table as one value: its load, and its words -/
theorem keys_at (w : World) (hT : LxT w) : ∃ cs : List Value, w.rangeAt 0 0 cs ∧ cs.length = 26 ∧ ∀ k : Nat, k < 26 → ∀ W, (Instr.index 77 (.agg cs.toArray) (.int .i64 k)).run Tryd.prog W = .ok (.string (keyN k)) W :=
  ⟨keysA.toList, fun j v h => by rw [Nat.zero_add]; exact hT.k j v (by simpa using h), rfl, fun k hk W => ix_keys W k hk⟩
/-- the table as one value: its load, and its words -/
theorem caps_at (w : World) (hT : LxT w) : ∃ cs : List Value, w.rangeAt 1 0 cs ∧ cs.length = 3 ∧ ∀ k : Nat, k < 3 → ∀ W, (Instr.index 78 (.agg cs.toArray) (.int .i64 k)).run Tryd.prog W = .ok (.string (capN k)) W :=
  ⟨capsA.toList, fun j v h => by rw [Nat.zero_add]; exact hT.c j v (by simpa using h), rfl, fun k hk W => ix_caps W k hk⟩
/-- the table as one value: its load, and its words -/
theorem signs_at (w : World) (hT : LxT w) : ∃ cs : List Value, w.rangeAt 2 0 cs ∧ cs.length = 22 ∧ ∀ k : Nat, k < 22 → ∀ W, (Instr.index 79 (.agg cs.toArray) (.int .i64 k)).run Tryd.prog W = .ok (.string (signN k)) W :=
  ⟨signsA.toList, fun j v h => by rw [Nat.zero_add]; exact hT.s j v (by simpa using h), rfl, fun k hk W => ix_signs W k hk⟩
theorem infoS26 : (Tryd.prog.info? 77).map (·.size) = some 26 := by kernel_rfl
theorem infoS3 : (Tryd.prog.info? 78).map (·.size) = some 3 := by kernel_rfl
theorem infoS22 : (Tryd.prog.info? 79).map (·.size) = some 22 := by kernel_rfl
end Go.Proofs.YtphhokpbkcdljaaDoor
