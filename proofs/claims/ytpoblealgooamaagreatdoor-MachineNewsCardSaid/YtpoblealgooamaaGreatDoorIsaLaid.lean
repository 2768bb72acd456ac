/- What the rows' condition on the library's listed tables gives the walks, and that the door's own heap meets it. -/
import Derived.Test.YtpoblealgooamaaGreatDoorRows
import Derived.Test.YtpoblealgooamaaGreatDoorTie
import Derived.Test.YtpoblealgooamaaGreatDoorIsaLeaf
import Derived.ProofKit
import Derived.LaidMore
import Derived.OpenShut
import Derived.Stop.Joined
import Derived.Stop.LaidErr
import Derived.MakeChecks
import Derived.SevenTiedAt
namespace Go.Proofs.YtpoblealgooamaaGreatDoor.IsaL
open Go Go.ChangeShapes Go.WideShapes Go.ChangeAt Go.RowKit
theorem own : ownKnob Tryz.prog.godebug = none := by kernel_rfl
def laid3 : List (String × DataW Unit) := [("math/bits.deBruijn32tab", Rows.laid_math_bits_deBruijn32tab), ("math/bits.deBruijn64tab", Rows.laid_math_bits_deBruijn64tab), ("internal/strconv.uint64pow10", Rows.laid_internal_strconv_uint64pow10), ("kindling/isa.operations", Rows.laid_kindling_isa_operations)]
/-- The door's own heap meets the condition. -/
theorem door_met (os : Os) (args : Array Value) : laidMetH Tryz.prog laid3 ((World.doorLaid Tryz.prog 400 os).forCall (fun _ _ => 0) ⟨#[], args, []⟩).memory :=
  laidMetH_of_parts3 (fuel := 8) (laidMet_of_run' 8 (by kernel_rfl) (by kernel_rfl)) (by kernel_rfl) (by kernel_rfl)
/-- an array of structs of a text and an integer that reads as rows holds the rows, cell for cell -/
theorem cells_of_rows {H : Type} {enc : TypeId × Value → H} {P : Program} {w : World} {base : Nat} {sp : Nat → Bool} {held : Bool} {fuel : Nat} {t e t0 t1 : TypeId} {n : Nat} {k : IntKind} {fs : Array Field} {f0 f1 : Field} {cs : List Value} {zs : List (List UInt8 × Int)} {p : List MemPlace}
    (ht : P.underlying t = some (.array n e)) (he : P.underlying e = some (.struct fs)) (hf0 : fs[0]? = some f0) (hf1 : fs[1]? = some f1) (ho0 : f0.offset = 0) (ho1 : f1.offset = 1) (ht0 : f0.type = t0) (ht1 : f1.type = t1)
    (hs : P.underlying t0 = some .string) (hk : P.underlying t1 = some (.int k)) (hce : P.cellsOf e = 2) (h0 : P.cellsOf t0 = 1) (h1 : P.cellsOf t1 = 1) (hfs : fs.size = 2)
    (h : DataW.trod enc P w base sp held fuel t cs = some (.agg (zs.map fun z => .agg [.lit (.string z.1), .lit (.int k z.2)]), p)) :
    ∀ i z, zs[i]? = some z → cs[i * 2]? = some (.string ⟨z.1.toArray⟩) ∧ cs[i * 2 + 1]? = some (.int k z.2) := by
  obtain ⟨xs, m, _, hx, _, hxl, hxi⟩ := DataW.trod_array ht h
  intro i z hz
  have hzx : xs.map (·.1) = zs.map fun z => (DataW.agg [.lit (.string z.1), .lit (.int k z.2)] : DataW H) := by
    have := congrArg Prod.fst hx
    simpa using this.symm
  have hlen : zs.length = n := by
    have := congrArg List.length hzx
    simp at this
    omega
  have hi : i < n := by
    have := (List.getElem?_eq_some_iff.1 hz).1
    omega
  have hxe : xs[i]? = some (xs[i]'(by omega)) := List.getElem?_eq_getElem (by omega)
  have h2 : (xs.map (·.1))[i]? = some (DataW.agg [.lit (.string z.1), .lit (.int k z.2)] : DataW H) := by rw [hzx]; simp [hz]
  have h3 : (xs[i]'(by omega)).1 = (DataW.agg [.lit (.string z.1), .lit (.int k z.2)] : DataW H) := by simpa [hxe] using h2
  have hd := hxi i hi
  rw [hxe, hce] at hd
  obtain ⟨ys, m', _, hy, _, hyl, hyi⟩ := DataW.trod_struct he hd
  rw [hy] at h3
  have hys : ys.map (·.1) = [.lit (.string z.1), .lit (.int k z.2)] := by simpa using h3
  have e0 := hyi 0 f0 hf0
  have e1 := hyi 1 f1 hf1
  rw [ht0, h0, ho0] at e0
  rw [ht1, h1, ho1] at e1
  obtain ⟨y0, y1, rfl⟩ : ∃ y0 y1, ys = [y0, y1] := by
    match ys, hyl.trans hfs with
    | [y0, y1], _ => exact ⟨_, _, rfl⟩
  simp only [List.map_cons, List.map_nil, List.cons.injEq, and_true] at hys
  obtain ⟨s, hcs, hy0, _⟩ := DataW.trod_string hs (x := y0) e0
  obtain ⟨z', hcz, hy1, _⟩ := DataW.trod_int hk (x := y1) e1
  have g0 : cs[i * 2]? = some (.string s) := by
    have := congrArg (·[0]?) hcs
    simpa [List.getElem?_take, List.getElem?_drop] using this
  have g1 : cs[i * 2 + 1]? = some (.int k z') := by
    have := congrArg (·[0]?) hcz
    simpa [List.getElem?_take, List.getElem?_drop] using this
  have q0 := hys.1
  have q1 := hys.2
  rw [hy0] at q0
  rw [hy1] at q1
  simp only [DataW.lit.injEq, Lit.string.injEq, Lit.int.injEq, true_and] at q0 q1
  subst q1
  exact ⟨by rw [g0, ← q0], g1⟩
theorem ops_of_laid {W : World} (h : laidMetH Tryz.prog laid3 W) : Ops W := by
  rw [MakeChecks.laidMetH_plain _ _ _ (by kernel_rfl)] at h
  have h2 := laidMet.tail (laidMet.tail (laidMet.tail h))
  have e : (Rows.laid_kindling_isa_operations : DataW Unit) = .agg (((List.range 37).map fun n => ((rowOf n).1, ((partsOf n : Nat) : Int))).map fun z => .agg [.lit (.string z.1), .lit (.int .i64 z.2)]) := by rfl
  rw [e] at h2
  obtain ⟨ps, ⟨g', t', cs, fuel, p, q, hg', ht', hvar, hd, _, _⟩, _⟩ := h2
  obtain rfl := Option.some.inj ((show Tryz.prog.globalNamed "kindling/isa.operations" = some 0 by kernel_rfl).symm.trans hg')
  obtain rfl := Option.some.inj ((show (Tryz.prog.globals[0]?).map (·.type) = some 179 by kernel_rfl).symm.trans ht')
  intro n hn
  have hz : ((List.range 37).map fun n => ((rowOf n).1, ((partsOf n : Nat) : Int)))[n]? = some ((rowOf n).1, ((partsOf n : Nat) : Int)) := by simp [hn]
  have hc := cells_of_rows Tryz.underlying179 Tryz.underlying178 rfl rfl rfl rfl rfl rfl Tryz.underlying9 Tryz.underlying3 (by kernel_rfl) (by kernel_rfl) (by kernel_rfl) rfl hd n _ hz
  have hv := World.var?_cell (show Tryz.prog.globalNamed "kindling/isa.operations" = some 0 by kernel_rfl) hvar
  refine ⟨(hv (n * 2)).trans ?_, (hv (n * 2 + 1)).trans ?_⟩
  · rw [← Array.getElem?_toList]; exact hc.1
  · rw [← Array.getElem?_toList]; exact hc.2
section
variable {H : Type} {enc : TypeId × Value → H} {P : Program}
/-- The row's last step of a call that may have laid new blocks: what lay below its heap lies as it lay. -/
theorem post_below {f : Func} {s : ChangeSpec} {apart fresh handsOn again : Bool} {W W' : World} {args : Array Value} {v : Value} {ds gs : List (DataW H)} {before pa pv : List MemPlace}
    (hW : DataW.Whole enc P f.params.toList s.vars apart W args.toList ds gs before)
    (hres : ∀ (b : Nat) (sp : Nat → Bool) (hd : Bool), DataW.TrodAll enc P W' b sp hd f.resultTypes.toList (v.resultList f.resultTypes.size) (s.fn H (ds ++ gs)).results [])
    (hargs : ∀ sp : Nat → Bool, (∀ p ∈ before, sp p.block = true) → DataW.TrodAll enc P W' 0 sp true f.params.toList args.toList (s.fn H (ds ++ gs)).args pa)
    (hvars : ∀ sp : Nat → Bool, (∀ p ∈ before, sp p.block = true) → DataW.TrodVars enc P W' sp s.vars (s.fn H (ds ++ gs)).vars pv)
    (hps : before = pa ++ pv) (hb : Below W.heap.size W W')
    (hok : ∀ (j : Nat) (t : TypeId) (r : Value), f.resultTypes[j]? = some t → (v.resultList f.resultTypes.size)[j]? = some r → Value.okWide P W' .any 0 t r) :
    s.post enc P f apart fresh handsOn again W args v W' := by
  have old : ∀ p ∈ before, decide (p.block < W.heap.size) = true := fun p hp => decide_eq_true (hW.lt p hp)
  refine ⟨ds, gs, before, [], pa, pv, hW, hres _ _ _, hargs _ old, hvars _ old, World.keptBut_mono (fun p hp => ⟨hp, .inr ?_⟩) (hb.frame (· ∈ before)), fun _ => ?_⟩
  · exact List.mem_append.1 (hps ▸ hp)
  · have hlt := hW.lt
    obtain ⟨_, _, _, _, _, hz, hn⟩ := hW
    refine ⟨hok, _, _, ([] ++ pa) ++ pv, ⟨[] ++ pa, pv, trodAll_append (hargs _ (fun _ _ => rfl)) (hres _ _ _), hvars _ (fun _ _ => rfl), rfl, fun b off hp => ?_, fun ha => ?_⟩, fun p hp _ => ?_⟩
    · have hin : MemPlace.cell b off ∈ before := by rw [hps]; simpa using hp
      exact (hb.frozen (p := ⟨b, off, none⟩) (hlt _ hin)).trans (hz b off hin)
    · have h := hn ha
      rw [hps] at h
      simpa using h
    · rw [hps]
      simpa using hp
end
end Go.Proofs.YtpoblealgooamaaGreatDoor.IsaL
