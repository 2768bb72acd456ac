/- The contract of num.Pack: a slice that owns the words of the text, and nothing that lay has turned. Condition: the text is no longer than the reach. -/
import Derived.Laws.MakeOwn
import Derived.RangeFuncNested
import Derived.Test.YtlakfnlkiebpdaaDoorPack
namespace Go.Proofs.YtlakfnlkiebpdaaDoor.NumL
open Go Go.RowKit Go.Shelf
attribute [local go_sem] Oper.semAt_some
theorem infoU64 : (Tryd.prog.info? 33).map (fun i => (i.zero, i.size, i.bytes)) = some (some (.int .u64 0), 1, 8) := by kernel_rfl
def u64s (l : List Nat) : List Value := l.map fun (n : Nat) => Value.int .u64 (n : Int)
/-- the iterator's contract, as the law of a range over a function asks for it -/
theorem each_stops (n : Nat) (hn : 1 ≤ n) (Bs : Nat) (s : ByteArray) (hs : s.size ≤ 140737488351232) (w : World) (hc : Boxed w Bs 9 (.string s)) :
    SeqStopsK Fence.wide n Tryd.prog 100 #[.pointer (some ⟨Bs, 0, none⟩)] (fun x : Nat × Nat => #[Value.int .i64 (x.1 : Int), Value.int .u64 (x.2 : Int)]) (KeepBox Bs s) (fun ys => ys = upto (wordAt s) (nWords s.size))
      (fun pre => ∃ k, k ≤ nWords s.size ∧ pre = upto (wordAt s) k) (nWords s.size) w := fun l J Jx W hW _ _ hY h0 =>
  each1_in n hn l Bs s hs J Jx hY W ((hW.block Bs hc.lt).trans hc) h0
theorem keepBox_t {Bs : Nat} {s : ByteArray} {A B C : World} (h : KeepBox Bs s A B) (k : KeepBox Bs s B C) : KeepBox Bs s A C := fun x => k (h x)
theorem keepBox_b {Bs : Nat} {s : ByteArray} {w : World} (hb : Bs < w.heap.size) (W : World) (l : Nat) (o o' : Obj) (hl : w.heap.size ≤ l) (_ : W.heap[l]? = some o) (_ : o.isCells = false) (_ : o.isWalk = false) : KeepBox Bs s W (W.putObj l o') := fun x =>
  x.kept (grownBy_putObj' W l o') (fun e => by cases e; omega)
theorem u64s_snoc (l : List Nat) (n : Nat) : u64s (l ++ [n]) = u64s l ++ [Value.int .u64 (n : Int)] := by simp [u64s]
theorem u64s_length (l : List Nat) : (u64s l).length = l.length := by simp [u64s]
theorem upto_words (s : ByteArray) : (upto (wordAt s) (nWords s.size)).map Prod.snd = packL s.data.toList := by
  simp [upto, wordAt, packL]
set_option maxRecDepth 100000 in
set_option maxHeartbeats 2000000 in
theorem pack_any (s : ByteArray) (hs : s.size ≤ 140737488351232) (w : World) :
    Calls Tryd.prog 41 #[.string s] w fun e W' => ∃ v, e = .returned v ∧ W'.ownsRow w.heap.size 33 1 v (nWords s.size) (u64s (packL s.data.toList)) ∧ Below w.heap.size w W' := by
  refine (callsIn_wide (n := 3)).1 ?_
  obtain ⟨i0, hi, hz0, hz1, hz2⟩ := info_parts infoU64
  have hnw : nWords s.size * 8 ≤ s.size + 7 := by unfold nWords; omega
  have hnm : nWords s.size ≤ maxLen := by unfold maxLen; omega
  obtain ⟨w1, hmk, hown0, hgr0⟩ := run_make_own w w.heap.size 43 33 i0 (.int .u64 0) 1 Tryd.underlying43 hi hz0 hz1 .i64 .i64 (nWords s.size) (by rw [hz2]; omega) hnm (Nat.le_refl _)
  refine callsIn_of_wp_marks Tryd.func41 rfl trivial ?_ rfl
  simp only [Tryd.ntmps41, List.size_toArray, List.length_cons, List.length_nil, Nat.reduceAdd, Nat.reduceSub, Array.replicate_succ, Array.replicate_zero, List.push_toArray, List.append_toArray, List.nil_append, List.cons_append]
  have hw0 : s.size ≤ 9223372036854775807 := by omega
  have h1 : 1 ≤ 3 - 1 := by omega
  gi_wp2_with (first | (refine ⟨trivial, ?_⟩; gi_at_call 77; refine (callsIn_wide.2 (wordsof_any _ _ hw0)).mono ?_; rintro e w' ⟨rfl, rfl⟩) | (refine ⟨trivial, ?_⟩; gi_at_call 78; refine (each_in Fence.wide _ trivial rfl _ _).mono ?_; rintro e w' ⟨rfl, rfl⟩))
  have bO := Boxed.new w1 43 (.slice (some ⟨w.heap.size, 0, none⟩) 0 (nWords s.size))
  have bN := Boxed.new (w1.alloc (.cells #[.slice (some ⟨w.heap.size, 0, none⟩) 0 (nWords s.size)] 43)) 9 (.string s)
  rw [World.size_alloc] at bN
  have hsz : w.heap.size ≤ w1.heap.size := hgr0.size
  have hB1 : Below w.heap.size w w1 := (Below.refl _ w).grown hgr0 (Nat.le_refl _) (by simp)
  have hB0 : Below w.heap.size w ((w1.alloc (.cells #[.slice (some ⟨w.heap.size, 0, none⟩) 0 (nWords s.size)] 43)).alloc (.cells #[.string s] 9)) := (hB1.alloc hsz _).alloc (by simp; omega) _
  clear hmk
  refine wpIn_rangeFunc_ownG rfl (by omega) (gf := 100) (lb := #[.pointer (some ⟨w1.heap.size + 1, 0, none⟩)]) rfl trivial (enters_of Tryd.func100 (by kernel_rfl) rfl)
    (each_stops (3 - 1) (by omega) (w1.heap.size + 1) s hs _ bN) keepBox_t (keepBox_b (by simp)) (Below.refl _ _) (fun _ => rfl)
    (fun pre W => ((∃ v, Boxed W w1.heap.size 43 v ∧ W.ownsRow w.heap.size 33 1 v pre.length (u64s (pre.map Prod.snd)) ∧ True) ∧ Boxed W (w1.heap.size + 1) 9 (.string s)) ∧ Below w.heap.size w W)
    (fun _ _ _ => False)
    (OwnFrom.and (OwnFrom.and (Own.from (holdsRow_own w.heap.size w1.heap.size 43 33 1 (fun (pre : List (Nat × Nat)) => pre.length) (fun pre => u64s (pre.map Prod.snd)) (fun _ _ => True)) _) (Own.from (boxed_own (w1.heap.size + 1) 9 (fun _ => .string s)) _)) (ownFrom_below (Nat.le_refl _) (by simp; omega)))
    (fun _ _ _ _ _ hs _ _ => hs)
    ⟨⟨⟨_, bO.alloc _, ((hown0.alloc _).alloc _), trivial⟩, bN⟩, hB0⟩
    (fun x => { tmps := #[.string s, undef, .slice none 0 0, .pointer (some ⟨w1.heap.size, 0, none⟩), undef, .int .u64 (x.2 : Int), .string s, .int .i64 s.size, .int .i64 (nWords s.size), .slice (some ⟨w.heap.size, 0, none⟩) 0 (nWords s.size), .string s, .func (.func 100) #[] #[.pointer (some ⟨w1.heap.size + 1, 0, none⟩)], .int .i64 (x.1 : Int), .int .u64 (x.2 : Int), undef, undef, undef, undef, undef], defers := [] }) ?assign ?body ?done ?stop
  case assign =>
    intro l x W K hK
    gi_wp2
    exact hK
  case body =>
    rintro l pre x W ⟨⟨⟨v, hv, hrow, _⟩, hbs⟩, hB⟩ hlt
    have hc := hv.cell
    gi_wp2_with (gi_at_builtin; refine wpListIn_append_own _ rfl _ _ 43 rfl w.heap.size 33 i0 (.int .u64 0) 1 8 Tryd.underlying43 hi hz0 hz1 hz2 rfl (by decide) _ _ _ rfl (hrow.alloc _) ⟨W.heap.size, 0, none⟩ 1 1 [.int .u64 (x.2 : Int)] rfl rfl (cell_one_new _ _ _) (by simp [Value.oneCell']) (by omega) (by omega) (by have := hB.size; simp; omega) ?_; intro v' w2 hown' hgrow _; obtain ⟨g', cap', rfl⟩ := ownsRow_succ hown'; obtain ⟨hv1, hv2, hr2, hk2, hb2⟩ := hv.appended (by decide) hrow hB.size hsz hown' hgrow; have hc1 := hv1.cell; have hf1 := hv1.frozen)
    have hbs2 : Boxed w2 (w1.heap.size + 1) 9 (.string s) := (hbs.alloc _).kept hgrow (hbs.not_row (by decide) hrow)
    have hbs3 := hbs2.other (B' := w1.heap.size) (by omega) (.slice (some ⟨g', 0, none⟩) (pre.length + 1) cap')
    exact ⟨hk2.from _, fun _ => hbs3, ⟨⟨_, hv2, by simpa [u64s_snoc] using hr2, trivial⟩, hbs3⟩, hB.trans hb2⟩
  case done =>
    rintro D ys W hD rfl ⟨⟨⟨v, hv, hrow, _⟩, _⟩, hB⟩ hK
    have hc := hv.cell
    gi_wp2
    refine ⟨by simp, .inl ⟨_, _, rfl, run_takeDeferred hK, ?_⟩⟩
    refine ⟨_, results_tmp rfl _ _ _, v, rfl, ?_, hB.trans (belowK_b (w := w) (Nat.le_refl _) W D _ _ (by simp at hD; omega) hK rfl rfl)⟩
    have := ownsRow_putObj hrow (.deferred none) hK rfl
    rw [upto_length, upto_words] at this
    exact this
  case stop =>
    rintro D c pre W _ _ h _
    exact h.elim
end Go.Proofs.YtlakfnlkiebpdaaDoor.NumL
