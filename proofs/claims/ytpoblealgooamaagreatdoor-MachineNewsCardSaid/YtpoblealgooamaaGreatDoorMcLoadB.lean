/- Load, of one code that has instructions alone. Conditions: they are right, and there is room. -/
import Derived.Test.YtpoblealgooamaaGreatDoorMcLoad
import Derived.Test.YtpoblealgooamaaGreatDoorMcRun
namespace Go.Proofs.YtpoblealgooamaaGreatDoor
open Go Go.RowKit Go.Proofs.YtpoblealgooamaaGreatDoor.IsaL
set_option maxRecDepth 100000 in
set_option maxHeartbeats 16000000 in
theorem load_mc {w0 w : World} {g b W gc gi n cp cc : Nat} {F : Nat → Value} {R : Nat → Value} {l : List I5} {wl : List Nat} (hb0 : Below w0.heap.size w0 w) (hops : Ops w0) (hx : Bx w g F) (h0 : F 0 = .pointer (some ⟨b, 0, none⟩)) (hg0 : w0.heap.size ≤ g) (m : Mem w b W 0 R [] []) (z : WF W 0 [] []) (hO : ∀ i, Own b R i → w0.heap.size ≤ i ∧ i ≠ g ∧ i ≠ gc ∧ i ≠ gi) (hgc : gc ≠ g) (hgi : gi ≠ g)
    (hc0 : w.cell? ⟨gc, 0, none⟩ = some (.slice none 0 0)) (hc1 : w.cell? ⟨gc, 1, none⟩ = some (.slice (some ⟨gi, 0, none⟩) n cp)) (hr : InsR w gi l) (hn : l.length = n) (hwn : wl.length = n) (hn1 : 1 ≤ n) (hn2 : n + 1 ≤ W) (hn3 : n ≤ 40) (hcp : n ≤ cp) (hW : W ≤ 65536) (hok : Okl l)
    (hw : ∀ (k : Nat) (x : I5), l[k]? = some x → ∃ y, wl[k]? = some y ∧ y < 18446744073709551616 ∧ ∀ Y, Ops Y → Calls Tryz.prog 76 #[.agg #[.int .i64 x.1, .int .i64 x.2.1, .int .i64 x.2.2.1, .int .i64 x.2.2.2.1, .int .i64 x.2.2.2.2]] Y fun e w' => e = .returned (.tuple #[.int .u64 (y : Int), .int .i64 0]) ∧ Below Y.heap.size Y w') :
    Calls Tryz.prog 16 #[.pointer (some ⟨g, 0, none⟩), .slice (some ⟨gc, 0, none⟩) 1 cc] w fun e w' => e = .returned (.int .i64 0) ∧ Bx w' g (mup (mup (mup F 1043 (.int .u64 1)) 1044 (.int .u64 1)) 1043 (.int .u64 2)) ∧ (∃ R', Mem w' b W 0 R' [obK wl n] [] ∧ ∀ i, Own b R' i → w0.heap.size ≤ i ∧ i ≠ g) ∧ WF W 0 [obK wl n] [] ∧ Below w0.heap.size w0 w' := by
  have HNO := Lib.hid (none_mc hx h0)
  have HI := Lib.hid one_any
  have HALL := Lib.hid (And.intro hb0 (And.intro hx (And.intro m (And.intro hr (And.intro hc0 hc1)))))
  have HOPS := Lib.hid hops
  have H0 := Lib.hid h0
  have HZ := Lib.hid z
  have HO := Lib.hid hO
  have HN := Lib.hid (And.intro hn hwn)
  have HW := Lib.hid hw
  have HOK := Lib.hid hok
  clear hb0 hops hx h0 m z hO hc0 hc1 hr hn hwn hw hok
  go_enter Tryz.func16, Tryz.ntmps16
  go_wp2_with fail
  refine HNO.out.mono ?_
  rintro e w' ⟨rfl, hw'⟩
  subst w'
  go_wp2_with fail
  go_loopw [5, 23] (fun nd i wr => ∃ k : Nat, k ≤ 1 ∧ i = .int .i64 k ∧ nd = .int .i64 ((k * (1 + n) : Nat) : Int) ∧ Below w.heap.size w wr) (fun _ i _ => 1 - (intOf i).toNat)
  case atStart => exact ⟨0, by omega, rfl, by simp, Below.refl _ _⟩
  case round =>
    obtain ⟨k, hk, rfl, rfl, hb⟩ := hrel
    rcases (show k = 0 ∨ k = 1 by omega) with rfl | rfl
    · have c0 := mcb_cell hb HALL.out.2.2.2.2.1
      have c1 := mcb_cell hb HALL.out.2.2.2.2.2
      have hb3 := mcb_one wr (.cells #[.slice none 0 0, .slice (some ⟨gi, 0, none⟩) n cp] 70)
      have hwo := wordsOf_any ((HALL.out.2.2.2.1.below hb).below hb3) (ops_below HOPS.out (Nat.le_refl _) (HALL.out.1.trans ((hb.trans (hb3.mono hb.size)).mono HALL.out.1.size))) HOK.out (by rw [HN.out.1]; omega) cp (by rw [HN.out.1]; omega) 1
      rw [HN.out.1] at hwo
      have HWO := Lib.hid hwo
      have HB := Lib.hid (hb.trans (hb3.mono hb.size))
      clear hb hb3 hwo
      go_wp2_with fail
      refine HWO.out.mono ?_
      rintro e w2 ⟨rfl, hb2⟩
      have HB2 := Lib.hid (HB.out.trans (hb2.mono HB.out.size))
      clear hb2
      go_wp2_with fail
      go_roundw
      case rel => exact ⟨1, by omega, by go_num, by simp, HB2.out⟩
      case measure => simp [intOf]
    · have hx := HALL.out.2.1.below hb
      have c43 := hx.cell (j := 1043) (by omega)
      have z43 := hx.frozen 1043
      have c44 := hx.cell (j := 1044) (by omega)
      have z44 := hx.frozen 1044
      obtain ⟨X, hX⟩ : ∃ X, (wr.setCell ⟨g, 1043, none⟩ (.int .u64 1)).setCell ⟨g, 1044, none⟩ (.int .u64 1) = X := ⟨_, rfl⟩
      have hf : Fr (· = g) wr ((wr.setCell ⟨g, 1043, none⟩ (.int .u64 1)).setCell ⟨g, 1044, none⟩ (.int .u64 1)) := ((Fr.refl (· = g) wr).setCell (p := ⟨g, 1043, none⟩) (.inl rfl) _).setCell (p := ⟨g, 1044, none⟩) (.inl rfl) _
      have hx2 := (hx.set 1043 (.int .u64 1)).set 1044 (.int .u64 1)
      rw [hX] at hf hx2
      have hbX : Below w0.heap.size w0 X := (HALL.out.1.trans (hb.mono HALL.out.1.size)).trans (hf.below (HALL.out.1.trans (hb.mono HALL.out.1.size)).size (fun i hi => by rw [hi]; exact hg0))
      have hm := (HALL.out.2.2.1.below hb).kept hf (fun i hi => (HO.out i hi).2.1)
      have h02 : mup (mup F 1043 (.int .u64 1)) 1044 (.int .u64 1) 0 = .pointer (some ⟨b, 0, none⟩) := H0.out
      have HRM := Lib.hid (room_mc hx2 h02 hm HZ.out (u := 0) rfl (1 + n) (by omega))
      have HMK := Lib.hid (fun (q : Nat) => make_mc (w := X.drewN q) (R := R) (cc := cc) ⟨hbX.os, hbX.tape, hbX.output, hbX.size, hbX.block⟩ HOPS.out hx2 h02 hg0 (hm.drewN q) HZ.out HO.out (hf.cell_some (mcb_cell hb HALL.out.2.2.2.2.1) hgc) (hf.cell_some (mcb_cell hb HALL.out.2.2.2.2.2) hgc) ((HALL.out.2.2.2.1.below hb).fr (O := (· = g)) (hf.drewN q) hgi) HN.out.1 HN.out.2 hn1 hn2 hn3 hcp hW HW.out)
      have HX := Lib.hid hX
      clear hx hb hf hx2 hbX hm h02 hX
      go_wp2_with (go_at_call 19; refine (HI.out _).mono ?_; rintro e w' ⟨rfl, hw'⟩; subst w')
      rw [HX.out]
      refine HRM.out.mono ?_
      rintro e w3 ⟨rfl, q, hq⟩
      subst w3
      go_wp2_with fail
      refine (HMK.out q).mono ?_
      rintro e w4 ⟨⟨v, rfl⟩, h1, h2, h3, h4⟩
      have HR := Lib.hid (And.intro h1 (And.intro h2 (And.intro h3 h4)))
      clear h1 h2 h3 h4
      go_wp2_with fail
      go_ret
      exact ⟨rfl, HR.out⟩
end Go.Proofs.YtpoblealgooamaaGreatDoor
