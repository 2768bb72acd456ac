/- The walk of the statement IsaNames: it returns true. Conditions: the library's table of powers of ten and the table of operations read as they are laid. -/
import Derived.Test.YtfmecfamiplfdaaDoorIsaForm
import Derived.Test.YtfmecfamiplfdaaDoorIsaEncodesW
namespace Go.Proofs.YtfmecfamiplfdaaDoor
open Go Go.RowKit
/-- what stays over the calls of a law that holds a row in memory, at block R -/
structure KR (w : World) (R : Nat) (s f : ByteArray) (W : World) : Prop where
  kn : Kn w W
  c0 : W.cell? ⟨R, 0, none⟩ = some (.string s)
  c1 : W.cell? ⟨R, 1, none⟩ = some (.string f)
theorem KR.below {w W W' : World} {R : Nat} {s f : ByteArray} (h : KR w R s f W) (hb : Below W.heap.size W W') : KR w R s f W' :=
  have st : ∀ (p : Addr) (u : Value), W.cell? p = some u → W'.cell? p = some u := fun p _ hv => (hb.cell (p := p) (World.block_lt_of_cell? W _ hv)).trans hv
  ⟨h.kn.below hb, st _ _ h.c0, st _ _ h.c1⟩
theorem kr_s {w W : World} {R : Nat} {s f : ByteArray} (h : KR w R s f W) : W.cell? ⟨R, 0, none⟩ = some (.string s) ∧ W.cell? ⟨R, 1, none⟩ = some (.string f) ∧ KR w R s f W := ⟨h.c0, h.c1, h⟩
theorem kr_of {p q : Prop} {w W : World} {R : Nat} {s f : ByteArray} (h : p ∧ q ∧ KR w R s f W) : KR w R s f W := h.2.2
set_option maxRecDepth 100000 in
set_option maxHeartbeats 4000000 in
theorem isaNames_walk (op : Int) (w : World) (s f a b : ByteArray) (v : Bool)
    (hF : ∀ W, Calls Tryd.prog 9 #[.int .i64 op] W fun e w' => e = .returned (.tuple #[.agg #[.string s, .string f, .string a, .string b], .bool v]) ∧ Below W.heap.size W w')
    (hN : ∀ W, Ops W → Calls Tryd.prog 10 #[.int .i64 op] W fun e w' => e = .returned (.string s) ∧ w' = W)
    (hM : ∀ W, Ops W → Calls Tryd.prog 11 #[.int .i64 op] W fun e w' => e = .returned (.string f) ∧ w' = W)
    (ho : Ops w) (ht : Tab w) :
    Calls Tryd.prog 3 #[.int .i64 op] w fun e w' => e = .returned (.bool true) ∧ Below w.heap.size w w' := by
  have HK0 := Lib.hid (Kn.mk (Below.refl w.heap.size w) ho ht)
  have HF := Lib.hid hF
  have HN := Lib.hid hN
  have HM := Lib.hid hM
  clear ho ht hF hN hM
  go_enter Tryd.func3, Tryd.ntmps3
  go_wp2_with fail
  refine (HF.out _).mono ?_
  rintro e w1 ⟨rfl, hb⟩
  have hk1 : KR w w1.heap.size s f (w1.alloc (.cells #[.string s, .string f, .string a, .string b] 23)) := ⟨(HK0.out.below hb).below ((Below.refl _ _).alloc (Nat.le_refl _) _), by simp, by simp⟩
  clear hb
  go_wp2_with fail
  have hk2 := hk1.below (Below.refl _ _).drew
  clear hk1
  go_region_held3 (fun W => W.cell? ⟨w1.heap.size, 0, none⟩ = some (.string s) ∧ W.cell? ⟨w1.heap.size, 1, none⟩ = some (.string f) ∧ KR w w1.heap.size s f W)
    (first | assumption | exact kr_s (by assumption))
    (first
      | (go_at_call 10; refine (HN.out _ (kr_of (by assumption)).kn.ops).mono ?_; rintro e w3 ⟨rfl, rfl⟩)
      | (go_at_call 11; refine (HM.out _ (kr_of (by assumption)).kn.ops).mono ?_; rintro e w4 ⟨rfl, rfl⟩)
      | (go_at_call 12; refine (known_any _ (kr_of (by assumption)).kn.ops (kr_of (by assumption)).kn.tab).mono ?_; rintro e w5 ⟨rfl, hb5⟩; have hk5 := KR.below (kr_of (by assumption)) hb5))
  go_wp2_with fail
  go_ret
  exact ⟨rfl, hk5.kn.base⟩
theorem isaNames_any (op : Int) (w : World) (ho : Ops w) (ht : Tab w) :
    Calls Tryd.prog 3 #[.int .i64 op] w fun e w' => e = .returned (.bool true) ∧ Below w.heap.size w w' := by
  by_cases h : 1 ≤ op ∧ op ≤ 36
  · obtain ⟨k, rfl⟩ := Int.eq_ofNat_of_zero_le (show 0 ≤ op by omega)
    exact isaNames_walk k w _ _ _ _ _ (fun W => find_yes k (by omega) (by omega) W) (fun W hW => name_yes k (by omega) (by omega) W hW) (fun W hW => form_yes k (by omega) (by omega) W hW) ho ht
  · exact isaNames_walk op w _ _ _ _ _ (fun W => find_no op (by omega) W) (fun W _ => name_no op (by omega) W) (fun W _ => form_no op (by omega) W) ho ht
end Go.Proofs.YtfmecfamiplfdaaDoor
