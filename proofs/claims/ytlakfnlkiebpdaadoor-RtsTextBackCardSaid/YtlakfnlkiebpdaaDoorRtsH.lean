/- The contract of GetText on a text over a memory as it lies. Condition: the memory is right. -/
import Derived.Test.YtlakfnlkiebpdaaDoorRtsG
import Derived.Test.YtlakfnlkiebpdaaDoorRmM
namespace Go.Proofs.YtlakfnlkiebpdaaDoor
open Go Go.RowKit
section
variable {w : World} {b W h : Nat} {now old : List Ob} {R : Nat → Value}
/-- what GetText answers where the words are looked at -/
def GotT (ws : List Nat) (a : Nat) (e : Ending) : Prop := (NumL.UOk ws a ∧ e = .returned (.tuple #[.string ⟨(NumL.bytesOf ws a).toArray⟩, .int .i64 0])) ∨ (¬ NumL.UOk ws a ∧ e = .returned (.tuple #[.string ⟨#[]⟩, .int .i64 50]))
set_option maxRecDepth 100000 in
set_option maxHeartbeats 8000000 in
theorem gettext_hit (m : Mem w b W h R now old) (z : WF W h now old) (n : Nat) (hn : n < 18446744073709551616) {j a : Nat} {o : Ob} {ws : List Nat} (hi : idxAt now h W (toP (n : Int)) = some j) (ho : now[j]? = some o) (hk : o.k = 4) (hws : o.ws = a :: ws) (ha : a ≤ 131064) :
    Calls Tryd.prog 24 #[.pointer (some ⟨b, 0, none⟩), .int .u64 (n : Int)] w fun e w' => GotT ws a e ∧ Below w.heap.size w w' := by
  obtain ⟨i0, hi0, hz0, hz1, hz2⟩ := info_parts infoU64
  have HTP := Lib.hid (show Calls _ _ _ _ (fun e w' => e = .returned (.int .i64 (toP (n : Int))) ∧ w' = w) from (toptr_any (n : Int) w (by omega) (by omega)).mono fun e w' ⟨h1, h2⟩ => ⟨h1, h2.symm⟩)
  have hpb : toP (n : Int) ≤ 1099511627776 := by unfold toP; split <;> omega
  have HLK := Lib.hid (look_hit m z _ (by omega) hi ho)
  have hob := z.okn o (List.mem_of_getElem? ho)
  have hbd := right_bd hob.right
  obtain ⟨_, _, _, hsz, _, _⟩ := hbd
  have HLD := Lib.hid (fun (W1 : World) (hb : Below w.heap.size w W1) (i : Nat) (hi' : i < o.ws.length) => load_hit (m.below hb) z (toP (n : Int)) i (by omega) hi ho hi')
  obtain ⟨A, hA⟩ : ∃ A, toP (n : Int) = A := ⟨_, rfl⟩
  rw [hA] at HTP HLK HLD
  have hkk : (((o.k : Nat) : Int) != 4) = false := by rw [hk]; rfl
  have hd : decide ((131064 : Int) < (a : Int)) = false := decide_eq_false (by omega)
  have hwd : ∀ x ∈ ws, x < 18446744073709551616 := fun x hx => hob.word x (by rw [hws]; exact List.mem_cons_of_mem _ hx)
  have HWD := Lib.hid hwd
  obtain ⟨L, hL⟩ : ∃ L, ws.length = L := ⟨_, rfl⟩
  have hlen : o.ws.length = L + 1 := by rw [hws, List.length_cons, hL]
  rw [hlen] at HLK HLD hsz
  have HLL := Lib.hid hL
  have HWS := Lib.hid hws
  have hL2 : L ≤ 16383 := by omega
  clear m z hi hpb hA ho hk hws hob hwd hL hlen hsz
  go_enter Tryd.func24, Tryd.ntmps24
  go_wp2_with fail
  refine HTP.out.mono ?_
  rintro e w' ⟨rfl, hw⟩
  subst w'
  go_wp2_with fail
  refine HLK.out.mono ?_
  rintro e w1 ⟨rfl, q, hw1⟩
  have HB1 := Lib.hid (show Below w.heap.size w w1 from by rw [hw1]; exact Below.drewN' (Below.refl _ _) q)
  have HL0 := Lib.hid (HLD.out w1 HB1.out 0 (by omega))
  rw [HWS.out] at HL0
  have HL1 := Lib.hid (show Calls _ _ _ w1 (fun e w' => e = .returned (.tuple #[.int .u64 (a : Int), .int .i64 0]) ∧ ∃ n, w' = w1.drewN n) from HL0.out)
  clear hw1 HL0
  go_wp2_with fail
  refine HL1.out.mono ?_
  rintro e w2 ⟨rfl, q2, hw2⟩
  have HB2 := Lib.hid (show Below w.heap.size w w2 from by rw [hw2]; exact Below.drewN' HB1.out q2)
  clear hw2
  go_wp2_with fail
  go_loopw [13, 14] (fun v i wr => ∃ k : Nat, k ≤ L ∧ i = .int .i64 ((k : Int) + 1) ∧ wr.ownsRow w.heap.size 33 1 v k (u64s (ws.take k)) ∧ Below w.heap.size w wr) (fun _ i _ => L + 1 - (intOf i).toNat)
  case atStart => exact ⟨0, Nat.zero_le _, rfl, World.ownsRow_nil _ _ _ _, HB2.out⟩
  case round =>
    obtain ⟨k, hk, rfl, hrow, hb⟩ := hrel
    by_cases hlt : k < L
    · obtain ⟨x, hx⟩ : ∃ x, ws[k]? = some x := ⟨_, List.getElem?_eq_getElem (by rw [HLL.out]; exact hlt)⟩
      have hl := HLD.out wr hb (k + 1) (by omega)
      rw [HWS.out, show (a :: ws).getD (k + 1) 0 = x from by rw [List.getD_cons_succ, List.getD_eq_getElem?_getD, hx]; rfl, show ((k + 1 : Nat) : Int) = (k : Int) + 1 by omega] at hl
      have HL := Lib.hid hl
      obtain ⟨va, vc, rfl, hvc, hvc2⟩ := own_shape5 (own_mono hrow (Nat.zero_le _))
      have HROW := Lib.hid hrow
      have HB := Lib.hid hb
      have HSN := Lib.hid (show u64s (ws.take (k + 1)) = u64s (ws.take k) ++ [.int .u64 (x : Int)] from by
        obtain ⟨h1, rfl⟩ := List.getElem?_eq_some_iff.1 hx
        rw [List.take_succ_eq_append_getElem h1]; simp only [u64s, List.map_append, List.map_cons, List.map_nil])
      clear hx hl hrow hb
      go_wp2_with fail
      refine HL.out.mono ?_
      rintro e w4 ⟨rfl, q4, hw4⟩
      have HB4 := Lib.hid (show Below w.heap.size w w4 from by rw [hw4]; exact Below.drewN' HB.out q4)
      have HROW4 := Lib.hid (show w4.ownsRow w.heap.size 33 1 (.slice va k vc) k (u64s (ws.take k)) from by rw [hw4]; exact HROW.out)
      have hs4 := HB4.out.size
      clear hw4
      go_wp2_with (at_builtin; refine wpList_append_own_at _ rfl _ _ 43 rfl w.heap.size 33 i0 (.int .u64 0) 1 8 Tryd.underlying43 hi0 hz0 hz1 hz2 rfl (by decide) (.slice va k vc) _ _ rfl (HROW4.out.alloc _) ⟨w4.heap.size, 0, none⟩ 1 1 [.int .u64 (x : Int)] rfl rfl (cell_one_new _ _ _) (by simp [Value.oneCell']) (by unfold maxLen; omega) (by omega) (by simp; omega) ?_; intro v7 w7 hown7 hgrow7 _ hblk7; rw [← HSN.out] at hown7; have HO7 := Lib.hid hown7; have HB7 := Lib.hid ((HB4.out.alloc HB4.out.size _).grown hgrow7 (by simp; omega) (fun j hj => (HROW4.out.lt j hj).1)); clear hown7 hgrow7 hblk7)
      go_roundw
      case rel => exact ⟨k + 1, hlt, by go_num, HO7.out, HB7.out⟩
      case measure => simp [intOf]; omega
    · obtain rfl : k = L := by omega
      obtain ⟨va, vc, rfl, hvc, hvc2⟩ := own_shape5 (own_mono hrow (Nat.zero_le _))
      rw [List.take_of_length_le (by rw [HLL.out]; exact Nat.le_refl _)] at hrow
      have HB := Lib.hid hb
      have hwo := NumL.Words.of_own (show wr.ownsRow w.heap.size 33 1 (.slice va k vc) ws.length (u64s ws) from by rw [HLL.out]; exact hrow)
      by_cases hu : NumL.UOk ws a
      · have HUN := Lib.hid (NumL.unpack_yes (.slice va k vc) ws a (by omega) hu wr hwo)
        have HU := Lib.hid hu
        clear hb hwo hrow hu
        go_wp2_with fail
        refine HUN.out.mono ?_
        rintro e w5 ⟨rfl, hb5⟩
        have HB5 := Lib.hid (HB.out.trans (hb5.mono HB.out.size))
        clear hb5
        go_wp2_with fail
        go_ret2
        exact ⟨.inl ⟨HU.out, rfl⟩, HB5.out⟩
      · have HUN := Lib.hid (NumL.unpack_err (.slice va k vc) ws a (by omega) hu wr hwo)
        have HU := Lib.hid hu
        clear hb hwo hrow hu
        go_wp2_with fail
        refine HUN.out.mono ?_
        rintro e w5 ⟨rfl, hw5⟩
        subst w5
        go_wp2_with fail
        go_ret2
        exact ⟨.inr ⟨HU.out, rfl⟩, HB.out⟩
end
end Go.Proofs.YtlakfnlkiebpdaaDoor
