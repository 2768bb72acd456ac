/- The reference's List. Conditions: the instructions lie in memory. -/
import Derived.Test.YtfpgalckmfdcmaaDoorIsaList
import Derived.Laws.BytesArg
namespace Go.Proofs.YtfpgalckmfdcmaaDoor
open Go Go.RowKit Go.Shelf
/-- the bytes that are owned, as a text -/
theorem own_text3 {W : World} {n₀ : Nat} {v : Value} {l : List UInt8} (h : W.ownsRow n₀ 5 1 v l.length (Lib.byteCells l)) :
    (convert 56 9 v).run Tryd.prog W = .ok (.string ⟨l.toArray⟩) W := by
  rcases h.2 with ⟨rfl, h0⟩ | ⟨g, cap, cur, rfl, _, hg, h1, h2, h3, h4⟩
  · obtain rfl : l = [] := List.length_eq_zero_iff.1 h0
    have := run_convert_bytes_string (P := Tryd.prog) W 56 9 5 none 0 0 Tryd.underlying56 Tryd.underlying5 Tryd.underlying9
    rw [this]; rfl
  · refine run_convert_bytes_back (P := Tryd.prog) W 56 9 5 ⟨g, 0, none⟩ cap l Tryd.underlying56 Tryd.underlying5 Tryd.underlying9 (fun j hj => ?_)
    have hc := h.cells (g := g) rfl j (.int .u8 ((l[j]).toNat : Int)) (by simp [Lib.byteCells, hj])
    exact hc
theorem own_shape3 {W : World} {B n : Nat} {e : TypeId} {v : Value} {xs : List Value} (h : W.ownsRow B e 1 v n xs) : ∃ A cap, v = .slice A n cap := by
  rcases h.2 with ⟨rfl, rfl⟩ | ⟨g, cap, cur, rfl, _⟩
  · exact ⟨none, 0, rfl⟩
  · exact ⟨_, cap, rfl⟩
theorem own_str3 {W : World} {B : Nat} {v : Value} {l t : List UInt8} (h : W.ownsRow B 5 1 v (l.length + (⟨t.toArray⟩ : ByteArray).size) (Lib.byteCells l ++ Lib.strCells ⟨t.toArray⟩)) : W.ownsRow B 5 1 v (l ++ t).length (Lib.byteCells (l ++ t)) := by
  have e : Lib.byteCells l ++ Lib.strCells ⟨t.toArray⟩ = Lib.byteCells (l ++ t) := by simp [Lib.byteCells, Lib.strCells]
  have e2 : l.length + (⟨t.toArray⟩ : ByteArray).size = (l ++ t).length := by rw [List.length_append]; congr 1
  rw [e, e2] at h
  exact h
theorem own_ten3 {W : World} {B : Nat} {v : Value} {l : List UInt8} (h : W.ownsRow B 5 1 v (l.length + 1) (Lib.byteCells l ++ [.int .u8 10])) : W.ownsRow B 5 1 v (l ++ [10]).length (Lib.byteCells (l ++ [10])) := by
  have e : Lib.byteCells l ++ [Value.int .u8 10] = Lib.byteCells (l ++ [10]) := by simp [Lib.byteCells]
  have e2 : l.length + 1 = (l ++ [(10 : UInt8)]).length := by rw [List.length_append]; rfl
  rw [e, e2] at h
  exact h
set_option maxRecDepth 100000 in
set_option maxHeartbeats 4000000 in
theorem reflist_any (A : Option Addr) (n cap : Nat) (l : List I5) (w : World) (hl : SlI w w.heap.size A n cap l) :
    Calls Tryd.prog 15 #[.slice A n cap] w fun e w' => e = .returned (.tuple #[.string ⟨(listR l).1.toArray⟩, .int .i64 (listR l).2]) ∧ Below w.heap.size w w' := by
  obtain ⟨i0, hi, hz0, hz1, hz2⟩ := info_parts infoU8
  have hn := hl.len
  have hc1 := hl.cap1
  have hc2 := hl.cap2
  have HL := Lib.hid hl
  have HN := Lib.hid hn
  clear hl hn
  by_cases h4 : 4096 < n
  · rw [listR_long (by rw [HN.out]; exact h4)]
    have h4i : (4096 : Int) < (n : Int) := by omega
    go_enter Tryd.func15, Tryd.ntmps15
    go_wp2_with fail
    go_ret2
    exact ⟨rfl, Below.refl _ _⟩
  · have hn4 : n ≤ 4096 := by omega
    have hnd : decide ((4096 : Int) < (n : Int)) = false := decide_eq_false (by omega)
    go_enter Tryd.func15, Tryd.ntmps15
    go_wp2_with fail
    go_loopw [4, 5] (fun v i wr => ∃ k : Nat, k ≤ n ∧ i = .int .i64 k ∧ (∀ y ∈ l.take k, y.chk = 0) ∧ wr.ownsRow w.heap.size 5 1 v (listT (l.take k)).length (Lib.byteCells (listT (l.take k))) ∧ Below w.heap.size w wr) (fun _ i _ => n - (intOf i).toNat)
    case atStart => exact ⟨0, Nat.zero_le _, rfl, by simp, by rw [List.take_zero]; exact World.ownsRow_nil _ _ _ _, Below.refl _ _⟩
    case round =>
      obtain ⟨k, hk, rfl, hgood, hown, hbw⟩ := hrel
      have HG := Lib.hid hgood
      have HO := Lib.hid hown
      have HBW := Lib.hid hbw
      have hBw : w.heap.size ≤ wr.heap.size := hbw.size
      by_cases hlt : k < n
      · have hld : decide ((k : Int) < (n : Int)) = true := decide_eq_true (by omega)
        obtain ⟨x, hx⟩ : ∃ x, l[k]? = some x := ⟨_, List.getElem?_eq_getElem (by rw [HN.out]; exact hlt)⟩
        have hsl := HL.out.below HBW.out
        obtain ⟨g, off, rfl, hg, hcs⟩ := hsl.ats (by omega)
        obtain ⟨c0, c1, c2, c3, c4⟩ := hcs k x hx
        have HX := Lib.hid hx
        obtain ⟨E, hE⟩ : ∃ E, x.chk = E := ⟨_, rfl⟩
        have HE := Lib.hid hE
        clear hsl hcs hx hE hgood hown hbw
        go_wp2_with fail
        refine (refcheck_any x.o x.a x.b x.c x.n _).mono ?_
        rintro e w3 ⟨rfl, hb3⟩
        rw [show chkOf x.o x.a x.b x.c x.n = E from HE.out]
        have HB3 := Lib.hid (HBW.out.trans (hb3.mono hBw))
        have HD3 := Lib.hid (own_later HO.out hb3)
        have hsl := HL.out.below HB3.out
        obtain ⟨g', off', he, hg', hcs⟩ := hsl.ats (by omega)
        obtain ⟨rfl, rfl⟩ : g = g' ∧ off = off' := by simpa using he
        obtain ⟨d0, d1, d2, d3, d4⟩ := hcs k x HX.out
        clear hb3 hsl hcs he c0 c1 c2 c3 c4
        by_cases hE0 : E = 0
        · subst hE0
          have HT2 := Lib.hid (listT_take HX.out)
          have HG2 := Lib.hid (take_all HG.out HX.out HE.out)
          have hlen : (listT (l.take k)).length ≤ 1001 * k := by
            have h1 := listT_len (l.take k)
            have h2 : (l.take k).length ≤ k := List.length_take_le _ _
            exact Nat.le_trans h1 (Nat.mul_le_mul_left _ h2)
          have htl : x.txt.length ≤ 1000 := textOf_len3
          have HLN := Lib.hid hlen
          have HTL := Lib.hid htl
          clear hlen htl
          go_wp2_with fail
          refine (reftxt_any x.o x.a x.b x.c x.n _).mono ?_
          rintro e w4 ⟨rfl, hb4⟩
          have HB4 := Lib.hid (HB3.out.trans (hb4.mono HB3.out.size))
          have HD4 := Lib.hid (own_later HD3.out hb4)
          have hs4 : w.heap.size ≤ w4.heap.size := HB4.out.size
          clear hb4 d0 d1 d2 d3 d4
          have hts : (⟨x.txt.toArray⟩ : ByteArray).size ≤ 1000 := by show x.txt.toArray.size ≤ _; rw [List.size_toArray]; exact HTL.out
          have hl0 : (listT (l.take k)).length ≤ 4100096 := by have := HLN.out; omega
          have hl1 : (listT (l.take k) ++ x.txt).length ≤ 4101096 := by rw [List.length_append]; have := HTL.out; omega
          go_wp2_with (first
            | (at_builtin; refine Lib.wpList_append_own_string _ rfl (.tmp 24) (.tmp 29) 56 9 rfl w.heap.size 5 i0 Tryd.underlying56 Tryd.underlying9 hi hz0 hz1 hz2 _ _ _ rfl HD4.out ⟨x.txt.toArray⟩ rfl (by unfold maxLen; omega) (by omega) hs4 ?_; intro v1 w5 hown1 hgrow1 _; have HB5 := Lib.hid (HB4.out.grown hgrow1 hs4 (fun r e => (HD4.out.lt r e).1)); have HO5 := Lib.hid (own_str3 hown1); have hs5 : w.heap.size ≤ w5.heap.size := HB5.out.size; clear hown1 hgrow1)
            | (at_builtin; refine wpList_append_own _ rfl (.tmp 31) (.tmp 32) 56 rfl w.heap.size 5 i0 (.int .u8 0) 1 1 Tryd.underlying56 hi hz0 hz1 hz2 rfl (by decide) _ _ _ rfl (HO5.out.alloc _) ⟨w5.heap.size, 0, none⟩ 1 1 [.int .u8 10] rfl rfl (cell_one_new _ _ _) (by simp [Value.oneCell']) (by unfold maxLen; omega) (by omega) (by simp; omega) ?_; intro v2 w6 hown2 hgrow2 _; have HB6 := Lib.hid ((HB5.out.alloc hs5 _).grown hgrow2 (by simp; omega) (fun r e => (HO5.out.lt r e).1)); have HO6 := Lib.hid (own_ten3 hown2); clear hown2 hgrow2))
          go_roundw
          case rel => exact ⟨k + 1, hlt, by go_num, HG2.out, by rw [← HT2.out]; exact HO6.out, HB6.out⟩
          case measure => simp [intOf]; omega
        · have hq : (E != 0) = true := by simpa using hE0
          have HE0 := Lib.hid hE0
          clear hE0
          go_wp2_with fail
          go_ret2
          rw [listR_bad (by rw [HN.out]; exact hn4) HG.out HX.out (by rw [HE.out]; exact HE0.out), HE.out]
          exact ⟨rfl, HB3.out⟩
      · obtain rfl : k = n := by omega
        have HF : Hid (listR l = (listT l, 0)) := Lib.hid (listR_all (by rw [HN.out]; exact hn4) (by have := HG.out; rwa [List.take_of_length_le (by rw [HN.out]; exact Nat.le_refl _)] at this))
        have hE : l.take k = l := List.take_of_length_le (by rw [HN.out]; exact Nat.le_refl _)
        rw [hE] at hown
        have hcv := own_text3 hown
        clear hE hgood hown hbw
        go_wp2_with fail
        go_ret2
        rw [HF.out]
        exact ⟨rfl, HBW.out⟩
end Go.Proofs.YtfpgalckmfdcmaaDoor
