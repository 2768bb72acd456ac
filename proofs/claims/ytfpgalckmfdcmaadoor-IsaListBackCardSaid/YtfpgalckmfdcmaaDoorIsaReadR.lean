/- The reference's Read. Conditions: the text is no longer than 60000 bytes. -/
import Derived.Test.YtfpgalckmfdcmaaDoorIsaLstM
import Derived.Test.YtfpgalckmfdcmaaDoorIsaBld
import Derived.Test.YtfpgalckmfdcmaaDoorIsaLineC
import Derived.Deep.AppendLies
namespace Go.Proofs.YtfpgalckmfdcmaaDoor
open Go Go.RowKit Go.Shelf
theorem linesOf_word : ∀ (l t : List UInt8), t ∈ linesOf l → t.length ≤ l.length
  | [], t, h => by simp [linesOf] at h
  | c :: cs, t, h => by
    have ih := linesOf_word cs
    unfold linesOf at h
    split at h
    · rcases List.mem_cons.1 h with rfl | e
      · simp
      · exact Nat.le_succ_of_le (ih t e)
    · cases q : linesOf cs with
      | nil => rw [q] at h; rw [List.mem_singleton.1 h]; simp
      | cons p0 ps =>
        rw [q] at h ih
        rcases List.mem_cons.1 h with rfl | e
        · exact Nat.succ_le_succ (ih p0 (List.mem_cons_self ..))
        · exact Nat.le_succ_of_le (ih t (List.mem_cons_of_mem _ e))
theorem infoIns : (Tryd.prog.info? 23).map (fun i => (i.zero, i.size, i.bytes)) = some (some (.agg #[.int .i64 0, .int .i64 0, .int .i64 0, .int .i64 0, .int .i64 0]), 5, 40) := by kernel_rfl
/-- a line as it lies in the slice of lines -/
theorem line_at3 {w W : World} {B : Nat} {a : Option Addr} {n cap : Nat} {ls : List (List UInt8)} (h : w.ownsRow B 9 1 (.slice a n cap) ls.length (ls.map lineV)) (hb : Below w.heap.size w W) {k : Nat} {t : List UInt8} (hk : ls[k]? = some t) : ∃ g, a = some ⟨g, 0, none⟩ ∧ W.cell? ⟨g, k, none⟩ = some (.string ⟨t.toArray⟩) := by
  have hlt := (List.getElem?_eq_some_iff.1 hk).1
  rcases h.2 with ⟨_, h0⟩ | ⟨g, cap', cur, hv, _, hg, _⟩
  · omega
  · have h4 := h
    rw [hv] at h4
    injection hv with h1 h2 h3
    have hl := (Array.getElem?_eq_some_iff.1 hg).1
    refine ⟨g, h1, ?_⟩
    rw [hb.cell (p := ⟨g, k, none⟩) hl]
    have := h4.cellAt k (by omega)
    rw [this, List.getElem?_map, hk]
    rfl
theorem line_shape3 {w : World} {B : Nat} {v : Value} {n : Nat} {xs : List Value} (h : w.ownsRow B 9 1 v n xs) : ∃ a cap, v = .slice a n cap ∧ n ≤ cap ∧ cap ≤ 9223372036854775807 := by
  rcases h.2 with ⟨rfl, rfl⟩ | ⟨g, cap, cur, rfl, _, _, h1, h2, _⟩
  · exact ⟨none, 0, rfl, Nat.le_refl _, by omega⟩
  · exact ⟨_, cap, rfl, h1, by simpa [maxLen] using h2⟩
theorem ins_new (w : World) (x : I5) : ∀ j u, x.vs[j]? = some u → (w.alloc (.cells #[.int .i64 x.o, .int .i64 x.a, .int .i64 x.b, .int .i64 x.c, .int .i64 x.n] 23)).cell? ((⟨w.heap.size, 0, none⟩ : Addr).add j) = some u := by
  intro j u h
  rw [show ((⟨w.heap.size, 0, none⟩ : Addr).add j) = ⟨w.heap.size, j, none⟩ by unfold Addr.add; split <;> simp_all]
  rw [blk_cell5 (heap_alloc_new w _) j]
  have e : (#[Value.int .i64 x.o, .int .i64 x.a, .int .i64 x.b, .int .i64 x.c, .int .i64 x.n] : Array Value)[j]? = x.vs[j]? := by rw [List.getElem?_toArray]; rfl
  rw [e]; exact h
theorem own_base {w : World} {B B' s n : Nat} {e : TypeId} {v : Value} {xs : List Value} (h : w.ownsRow B e s v n xs) (hB : B' ≤ B) : w.ownsRow B' e s v n xs :=
  ⟨h.1, h.2.imp id fun ⟨g, cap, cur, h1, h2, h3⟩ => ⟨g, cap, cur, h1, Nat.le_trans hB h2, h3⟩⟩
theorem ins_new2 (w : World) (x : I5) : ∀ j u, x.vs[j]? = some u → ((w.alloc (.cells #[.int .i64 x.o, .int .i64 x.a, .int .i64 x.b, .int .i64 x.c, .int .i64 x.n] 23)).alloc (.cells #[.int .i64 x.o, .int .i64 x.a, .int .i64 x.b, .int .i64 x.c, .int .i64 x.n] 23)).cell? ((⟨w.heap.size + 1, 0, none⟩ : Addr).add j) = some u := by
  have h := ins_new (w.alloc (.cells #[.int .i64 x.o, .int .i64 x.a, .int .i64 x.b, .int .i64 x.c, .int .i64 x.n] 23)) x
  rw [World.size_alloc] at h
  exact h
def ReadTo (ls : List (List UInt8)) (w : World) (e : Ending) (w' : World) : Prop := (∃ (v : Value) (xs : List I5) (at_ er : Int), e = .returned (.tuple #[v, .int .i64 at_, .int .i64 er]) ∧ IsRead ls xs at_ er ∧ w'.ownsRow w.heap.size 23 5 v xs.length (cells5 xs)) ∧ Below w.heap.size w w'
set_option maxRecDepth 100000 in
set_option maxHeartbeats 4000000 in
theorem refread_any (s : ByteArray) (hs : s.size ≤ 60000) (w : World) :
    Calls Tryd.prog 17 #[.string s] w (ReadTo (linesOf s.data.toList) w) := by
  obtain ⟨i0, hi, hz0, hz1, hz2⟩ := info_parts infoIns
  have hlw : ∀ t ∈ linesOf s.data.toList, t.length ≤ 60000 := fun t ht => Nat.le_trans (linesOf_word _ t ht) (by rw [Array.length_toList]; exact hs)
  obtain ⟨ls, hls⟩ : ∃ ls, linesOf s.data.toList = ls := ⟨_, rfl⟩
  rw [hls] at hlw ⊢
  have HLW := Lib.hid hlw
  have HLS := Lib.hid hls
  clear hlw hls
  go_enter Tryd.func17, Tryd.ntmps17
  go_wp2_with fail
  refine (reflines_any s hs w).mono ?_
  rintro e w2 ⟨⟨v, rfl, hown⟩, hb2⟩
  obtain ⟨a, cap, rfl, hc1, hc2⟩ := line_shape3 hown
  have hl60 : (linesOf s.data.toList).length ≤ 60000 := linesOf_len _ _ (by rw [Array.length_toList]; exact hs)
  rw [HLS.out] at hown hc1 hl60 ⊢
  obtain ⟨N, hN⟩ : ∃ N, ls.length = N := ⟨_, rfl⟩
  have HO := Lib.hid hown
  have HB2 := Lib.hid hb2
  rw [hN] at hc1 hl60 ⊢
  have HN := Lib.hid hN
  have hs2 : w.heap.size ≤ w2.heap.size := hb2.size
  clear hown hN hb2
  by_cases h4 : 4096 < N
  · have h4i : decide ((4096 : Int) < (N : Int)) = true := decide_eq_true (by omega)
    go_wp2_with fail
    refine bodyPost_ret (results_tmp3 rfl _ _ _) rfl ?_
    exact ⟨⟨_, [], 0, 3, rfl, .inl ⟨by rw [HN.out]; exact h4, rfl, rfl, rfl⟩, World.ownsRow_nil _ _ _ _⟩, HB2.out⟩
  · have hn4 : N ≤ 4096 := by omega
    have hnd : decide ((4096 : Int) < (N : Int)) = false := decide_eq_false (by omega)
    go_wp2_with fail
    go_loopw [6, 7] (fun v i wr => ∃ (k : Nat) (xs : List I5), k ≤ N ∧ i = .int .i64 k ∧ RdTo ls k xs ∧ wr.ownsRow w2.heap.size 23 5 v xs.length (cells5 xs) ∧ Below w2.heap.size w2 wr) (fun _ i _ => N - (intOf i).toNat)
    case atStart => exact ⟨0, [], Nat.zero_le _, rfl, RdTo.init _, World.ownsRow_nil _ _ _ _, Below.refl _ _⟩
    case round =>
      obtain ⟨k, xs, hk, rfl, hrd, hox, hbw⟩ := hrel
      have HRD := Lib.hid hrd
      have HOX := Lib.hid hox
      have HBW := Lib.hid hbw
      have hxl : xs.length = k := hrd.len
      have hBw : w.heap.size ≤ wr.heap.size := Nat.le_trans hs2 hbw.size
      have HXL := Lib.hid hxl
      by_cases hlt : k < N
      · have hld : decide ((k : Int) < (N : Int)) = true := decide_eq_true (by omega)
        obtain ⟨t, ht⟩ : ∃ t, ls[k]? = some t := ⟨_, List.getElem?_eq_getElem (by rw [HN.out]; exact hlt)⟩
        obtain ⟨g, rfl, hct⟩ := line_at3 HO.out hbw ht
        have HTT := Lib.hid ht
        have htl : t.toArray.size ≤ 100000 := by rw [List.size_toArray]; exact Nat.le_trans (HLW.out t (List.mem_of_getElem? ht)) (by decide)
        clear hrd hox hbw ht hxl
        go_wp2_with fail
        refine (refpar_any ⟨t.toArray⟩ htl _).mono ?_
        rintro e w3 ⟨⟨o, a, b, c, n, er, rfl, hp⟩, hb3⟩
        unfold InsV
        have HP := Lib.hid hp
        have HB3 := Lib.hid (HBW.out.trans (hb3.mono HBW.out.size))
        have HO3 := Lib.hid (own_later HOX.out hb3)
        clear hp hb3 hct
        by_cases he : er = 0
        · subst he
          have HLI : Hid (LineIs t ⟨o, a, b, c, n⟩) := Lib.hid (lineIs_of HP.out rfl)
          have hs3 : w2.heap.size ≤ w3.heap.size := HB3.out.size
          have hxk : xs.length + 1 ≤ 60001 := by have := HXL.out; omega
          have HNW := Lib.hid (ins_new2 w3 ⟨o, a, b, c, n⟩)
          have HSN := Lib.hid (cells5_snoc xs ⟨o, a, b, c, n⟩)
          go_wp2_with (at_builtin; go_loud (refine wpList_append_own _ rfl (.tmp 32) (.tmp 34) 32 rfl w2.heap.size 23 i0 (.agg #[.int .i64 0, .int .i64 0, .int .i64 0, .int .i64 0, .int .i64 0]) 5 40 Tryd.underlying32 hi hz0 hz1 hz2 rfl (by decide) _ _ _ rfl ((HO3.out.alloc _).alloc _) ⟨w3.heap.size + 1, 0, none⟩ 1 1 (I5.vs ⟨o, a, b, c, n⟩) rfl rfl HNW.out (fun u hu => cells5_one [⟨o, a, b, c, n⟩] u (by simpa [cells5] using hu)) (by unfold maxLen; omega) (by omega) (by simp; omega) ?_; intro v' w4 hown' hgrow _; rw [HSN.out] at hown'; have HOW := Lib.hid hown'; have HB4 := Lib.hid (((HB3.out.alloc hs3 _).alloc (by simp; omega) _).grown hgrow (by simp; omega) (fun r e => (HO3.out.lt r e).1)); clear hown' hgrow))
          go_roundw
          case rel => exact ⟨k + 1, xs ++ [⟨o, a, b, c, n⟩], hlt, by go_num, HRD.out.step HTT.out HLI.out, by simpa using HOW.out, HB4.out⟩
          case measure => simp [intOf]; omega
        · have hq : (er != 0) = true := by simpa using he
          have HER := Lib.hid he
          clear he
          go_wp2_with fail
          refine bodyPost_ret (results_tmp3 rfl _ _ _) rfl ?_
          exact ⟨⟨_, [], k, 32, rfl, .inr (.inl ⟨by rw [HN.out]; exact hn4, k, xs, t, HRD.out, HTT.out, noText_of HP.out HER.out, rfl, rfl, rfl⟩), World.ownsRow_nil _ _ _ _⟩, (HB2.out.trans (HB3.out.mono hs2)).alloc (Nat.le_trans hs2 HB3.out.size) _⟩
      · obtain rfl : k = N := by omega
        have hld : decide ((k : Int) < (k : Int)) = false := decide_eq_false (by omega)
        clear hrd hox hbw hxl
        go_wp2_with fail
        refine bodyPost_ret (results_tmp3 rfl _ _ _) rfl ?_
        exact ⟨⟨_, xs, 0, 0, rfl, .inr (.inr ⟨by rw [HN.out]; exact hn4, by rw [HN.out]; exact HRD.out, rfl, rfl⟩), own_base HOX.out hs2⟩, HB2.out.trans (HBW.out.mono hs2)⟩
end Go.Proofs.YtfpgalckmfdcmaaDoor
