/- List of both. Conditions: the library's table of powers of ten and the table of operations read as they are laid; the instructions lie in memory. -/
import Derived.Test.YtfpgalckmfdcmaaDoorIsaBld
import Derived.Test.YtfpgalckmfdcmaaDoorIsaLstM
import Derived.Test.YtfpgalckmfdcmaaDoorIsaKnown
import Derived.Test.YtfpgalckmfdcmaaDoorIsaTxtR
namespace Go.Proofs.YtfpgalckmfdcmaaDoor
open Go Go.RowKit Go.Shelf
set_option maxRecDepth 100000 in
set_option maxHeartbeats 4000000 in
theorem islist_any (A : Option Addr) (n cap : Nat) (l : List I5) (w : World) (ho : Ops w) (ht : Tab w) (hl : SlI w w.heap.size A n cap l) :
    Calls Tryd.prog 14 #[.slice A n cap] w fun e w' => e = .returned (.tuple #[.string ⟨(listR l).1.toArray⟩, .int .i64 (listR l).2]) ∧ Below w.heap.size w w' := by
  have hn := hl.len
  have hc1 := hl.cap1
  have hc2 := hl.cap2
  have HL := Lib.hid hl
  have HO := Lib.hid ho
  have HT := Lib.hid ht
  have HN := Lib.hid hn
  clear hl ho ht hn
  by_cases h4 : 4096 < n
  · rw [listR_long (by rw [HN.out]; exact h4)]
    have h4i : (4096 : Int) < (n : Int) := by omega
    go_enter Tryd.func14, Tryd.ntmps14
    go_wp2_with fail
    go_ret2
    exact ⟨rfl, Below.refl _ _⟩
  · have hn4 : n ≤ 4096 := by omega
    have hnd : decide ((4096 : Int) < (n : Int)) = false := decide_eq_false (by omega)
    go_enter Tryd.func14, Tryd.ntmps14
    go_wp2_with fail
    have hb0 : Below w.heap.size w (w.alloc (.cells #[.pointer none, .slice none 0 0] 72)) := (Below.refl _ w).alloc (Nat.le_refl _) _
    have hbn := bld_new w
    obtain ⟨w1, hw1⟩ : ∃ w1, w.alloc (.cells #[.pointer none, .slice none 0 0] 72) = w1 := ⟨_, rfl⟩
    rw [hw1] at hb0 hbn ⊢
    have HB0 := Lib.hid hb0
    have HBN := Lib.hid hbn
    clear hw1 hb0 hbn
    go_loopw [13] (fun i wr => ∃ k : Nat, k ≤ n ∧ i = .int .i64 k ∧ (∀ y ∈ l.take k, y.chk = 0) ∧ IsB w.heap.size w.heap.size (listT (l.take k)) wr ∧ Below w.heap.size w wr) (fun i _ => n - (intOf i).toNat)
    case atStart => exact ⟨0, Nat.zero_le _, rfl, by simp, HBN.out, HB0.out⟩
    case round =>
      obtain ⟨k, hk, rfl, hgood, hbl, hbw⟩ := hrel
      have HG := Lib.hid hgood
      have HBL := Lib.hid hbl
      have HBW := Lib.hid hbw
      have hBw : w.heap.size ≤ wr.heap.size := hbw.size
      have hbB : w.heap.size < wr.heap.size := by
        rcases hbl with h | h <;> exact h.lt
      clear hgood hbl hbw
      by_cases hlt : k < n
      · have hld : decide ((k : Int) < (n : Int)) = true := decide_eq_true (by omega)
        obtain ⟨x, hx⟩ : ∃ x, l[k]? = some x := ⟨_, List.getElem?_eq_getElem (by rw [HN.out]; exact hlt)⟩
        have hsl := HL.out.below HBW.out
        obtain ⟨g, off, rfl, hg, hcs⟩ := hsl.ats (by omega)
        obtain ⟨c0, c1, c2, c3, c4⟩ := hcs k x hx
        have HX := Lib.hid hx
        obtain ⟨E, hE⟩ : ∃ E, x.chk = E := ⟨_, rfl⟩
        have HE := Lib.hid hE
        clear hsl hcs hx hE
        go_wp2_with fail
        obtain ⟨w2, hw2⟩ : ∃ w2, wr.alloc (.cells #[.int .i64 x.o, .int .i64 x.a, .int .i64 x.b, .int .i64 x.c, .int .i64 x.n] 23) = w2 := ⟨_, rfl⟩
        have hba := (Below.refl wr.heap.size wr).alloc (Nat.le_refl _) (.cells #[.int .i64 x.o, .int .i64 x.a, .int .i64 x.b, .int .i64 x.c, .int .i64 x.n] 23)
        have hj2 := heap_alloc_new wr (.cells #[.int .i64 x.o, .int .i64 x.a, .int .i64 x.b, .int .i64 x.c, .int .i64 x.n] 23)
        rw [hw2] at hba hj2 ⊢
        have HB2 := Lib.hid (HBW.out.trans (hba.mono hBw))
        have HD2 := Lib.hid (bld_later HBL.out hba)
        have HJ2 := Lib.hid hj2
        clear hw2 hba hj2 c0 c1 c2 c3 c4
        refine (check_any x.o x.a x.b x.c x.n _ (ops_below HO.out (Nat.le_refl _) HB2.out)).mono ?_
        rintro e w3 ⟨rfl, hb3⟩
        rw [show chkOf x.o x.a x.b x.c x.n = E from HE.out]
        have hs23 : w2.heap.size ≤ w3.heap.size := hb3.size
        have HB3 := Lib.hid (HB2.out.trans (hb3.mono HB2.out.size))
        have HD3 := Lib.hid (bld_later HD2.out hb3)
        have hj3 := (hb3.block _ (blk_lt HJ2.out)).trans HJ2.out
        have d0 : w3.cell? ⟨wr.heap.size, 0, none⟩ = some (.int .i64 x.o) := blk_cell5 hj3 0
        have d1 : w3.cell? ⟨wr.heap.size, 1, none⟩ = some (.int .i64 x.a) := blk_cell5 hj3 1
        have d2 : w3.cell? ⟨wr.heap.size, 2, none⟩ = some (.int .i64 x.b) := blk_cell5 hj3 2
        have d3 : w3.cell? ⟨wr.heap.size, 3, none⟩ = some (.int .i64 x.c) := blk_cell5 hj3 3
        have d4 : w3.cell? ⟨wr.heap.size, 4, none⟩ = some (.int .i64 x.n) := blk_cell5 hj3 4
        clear hb3 hj3
        by_cases hE0 : E = 0
        · subst hE0
          have HT2 := Lib.hid (listT_take HX.out)
          have HG2 := Lib.hid (take_all HG.out HX.out HE.out)
          have hlen : (listT (l.take k)).length ≤ 1001 * k := by
            have h1 := listT_len (l.take k)
            have h2 : (l.take k).length ≤ k := List.length_take_le _ _
            exact Nat.le_trans h1 (Nat.mul_le_mul_left _ h2)
          have htl : x.txt.length ≤ 1000 := textOf_len3
          have HLN := Lib.hid hlen
          have HTL := Lib.hid htl
          clear hlen htl
          go_wp2_with fail
          refine (istext_any x.o x.a x.b x.c x.n _ (ops_below HO.out (Nat.le_refl _) HB3.out) (tab_below HT.out (Nat.le_refl _) HB3.out)).mono ?_
          rintro e w4 ⟨rfl, hb4⟩
          have HB4 := Lib.hid (HB3.out.trans (hb4.mono HB3.out.size))
          have HD4 := Lib.hid (bld_later HD3.out hb4)
          clear hb4 d0 d1 d2 d3 d4
          go_wp2_with fail
          refine (bstr_any w.heap.size w.heap.size (listT (l.take k)) x.txt w4 HD4.out (by have := HLN.out; have := HTL.out; omega) HB4.out.size).mono ?_
          rintro e w5 ⟨rfl, hd5, hb5⟩
          have HB5 := Lib.hid (HB4.out.trans hb5)
          have HD5 := Lib.hid hd5
          clear hd5 hb5
          go_wp2_with fail
          refine (bbyte_any w.heap.size w.heap.size (listT (l.take k) ++ x.txt) w5 HD5.out (by rw [List.length_append]; have := HLN.out; have := HTL.out; omega) HB5.out.size).mono ?_
          rintro e w6 ⟨rfl, hd6, hb6⟩
          have HB6 := Lib.hid (HB5.out.trans hb6)
          have HD6 := Lib.hid hd6
          clear hd6 hb6
          go_wp2_with fail
          go_roundw
          case rel => exact ⟨k + 1, hlt, by go_num, HG2.out, by rw [← HT2.out]; exact HD6.out, HB6.out⟩
          case measure => simp [intOf]; omega
        · have hq : (E != 0) = true := by simpa using hE0
          have HE0 := Lib.hid hE0
          clear hE0
          go_wp2_with fail
          go_ret2
          rw [listR_bad (by rw [HN.out]; exact hn4) HG.out HX.out (by rw [HE.out]; exact HE0.out), HE.out]
          exact ⟨rfl, HB3.out⟩
      · obtain rfl : k = n := by omega
        have HF : Hid (listR l = (listT l, 0)) := Lib.hid (listR_all (by rw [HN.out]; exact hn4) (by have := HG.out; rwa [List.take_of_length_le (by rw [HN.out]; exact Nat.le_refl _)] at this))
        have hE : l.take k = l := List.take_of_length_le (by rw [HN.out]; exact Nat.le_refl _)
        have HBL2 : Hid (IsB w.heap.size w.heap.size (listT l) wr) := Lib.hid (by have := HBL.out; rwa [hE] at this)
        clear hE
        go_wp2_with fail
        refine (Tryd.Builder_String_any w.heap.size w.heap.size (listT l) wr HBL2.out hBw).mono ?_
        rintro e w3 ⟨rfl, hb3⟩
        have HB3 := Lib.hid (HBW.out.trans hb3)
        clear hb3
        go_wp2_with fail
        go_ret2
        rw [HF.out]
        exact ⟨rfl, HB3.out⟩
end Go.Proofs.YtfpgalckmfdcmaaDoor
