/- What the rows' condition on the listed tables gives the walks of lex, and that the door's own heap meets it. -/
import Derived.Test.YtphhokpbkcdljaaDoorRows
import Derived.Test.YtphhokpbkcdljaaDoorTie
import Derived.Test.YtphhokpbkcdljaaDoorLexFour
import Derived.Test.YtphhokpbkcdljaaDoorKnown
import Derived.ProofKit
import Derived.LaidMore
import Derived.OpenShut
import Derived.Stop.Joined
import Derived.Stop.LaidErr
import Derived.MakeChecks
import Derived.SevenTiedAt
namespace Go.Proofs.YtphhokpbkcdljaaDoor
open Go Go.ChangeShapes Go.WideShapes Go.ChangeAt Go.RowKit
theorem own : ownKnob Tryd.prog.godebug = none := by kernel_rfl
def laid6 : List (String × DataW Unit) := [("math/bits.deBruijn32tab", Rows.laid_math_bits_deBruijn32tab), ("math/bits.deBruijn64tab", Rows.laid_math_bits_deBruijn64tab), ("internal/strconv.uint64pow10", Rows.laid_internal_strconv_uint64pow10), ("kindling/lex.keys", Rows.laid_kindling_lex_keys), ("kindling/lex.caps", Rows.laid_kindling_lex_caps), ("kindling/lex.signs", Rows.laid_kindling_lex_signs)]
/-- The door's own heap meets the condition. -/
theorem door_met (os : Os) (args : Array Value) : laidMetH Tryd.prog laid6 ((World.doorLaid Tryd.prog 400 os).forCall (fun _ _ => 0) ⟨#[], args, []⟩).memory :=
  laidMetH_of_parts3 (fuel := 8) (laidMet_of_run' 8 (by kernel_rfl) (by kernel_rfl)) (by kernel_rfl) (by kernel_rfl)
/-- an array of texts that reads as texts holds them, cell for cell -/
theorem cells_of_texts {H : Type} {enc : TypeId × Value → H} {P : Program} {w : World} {base : Nat} {sp : Nat → Bool} {held : Bool} {fuel : Nat} {t e : TypeId} {n : Nat} {cs : List Value} {zs : List (List UInt8)} {p : List MemPlace}
    (ht : P.underlying t = some (.array n e)) (he : P.underlying e = some .string) (hce : P.cellsOf e = 1)
    (h : DataW.trod enc P w base sp held fuel t cs = some (.agg (zs.map fun z => (DataW.lit (Lit.string z) : DataW H)), p)) :
    ∀ (i : Nat) (z : List UInt8), zs[i]? = some z → cs[i]? = some (Value.string ⟨z.toArray⟩) := by
  obtain ⟨xs, m, _, hx, _, hxl, hxi⟩ := DataW.trod_array ht h
  intro i z hz
  have hzx : xs.map (·.1) = zs.map fun z => (DataW.lit (.string z) : DataW H) := by
    have := congrArg Prod.fst hx
    simpa using this.symm
  have hlen : zs.length = n := by
    have := congrArg List.length hzx
    simp at this
    omega
  have hi : i < n := by
    have := (List.getElem?_eq_some_iff.1 hz).1
    omega
  have hxe : xs[i]? = some (xs[i]'(by omega)) := List.getElem?_eq_getElem (by omega)
  have h2 : (xs.map (·.1))[i]? = some (DataW.lit (.string z) : DataW H) := by rw [hzx]; simp [hz]
  have h3 : (xs[i]'(by omega)).1 = (DataW.lit (.string z) : DataW H) := by simpa [hxe] using h2
  have hd := hxi i hi
  rw [hxe, hce] at hd
  obtain ⟨s, hcs, hy, _⟩ := DataW.trod_string he hd
  rw [hy] at h3
  simp only [DataW.lit.injEq, Lit.string.injEq] at h3
  have := congrArg (·[0]?) hcs
  have g : cs[i]? = some (.string s) := by simpa [List.getElem?_take, List.getElem?_drop] using this
  rw [g, ← h3]
theorem tab_of_laid {W : World} (h : laidMetH Tryd.prog laid6 W) : Tab W := by
  rw [MakeChecks.laidMetH_plain _ _ _ (by kernel_rfl)] at h
  have h2 := laidMet.tail (laidMet.tail h)
  have e : (Rows.laid_internal_strconv_uint64pow10 : DataW Unit) = Lib.tabData .u64 Lib.pow10Tab := by rfl
  rw [e] at h2
  exact Lib.tabIs_of_head (g := 4) (t := 94) (e := 87) (n := 20) (by kernel_rfl) (by kernel_rfl) Tryd.underlying94 Tryd.underlying87 (by kernel_rfl) (by kernel_rfl) h2
theorem cells_of_head {W : World} {v : String} {g : Nat} {t e : TypeId} {n : Nat} {zs : List (List UInt8)} {rest : List (String × DataW Unit)} (hg : Tryd.prog.globalNamed v = some g) (ht : (Tryd.prog.globals[g]?).map (·.type) = some t)
    (hu : Tryd.prog.underlying t = some (.array n e)) (he : Tryd.prog.underlying e = some .string) (hce : Tryd.prog.cellsOf e = 1)
    (h : laidMet Tryd.prog ((v, .agg (zs.map fun z => (DataW.lit (Lit.string z) : DataW Unit))) :: rest) W) : ∀ (i : Nat) (x : Value), (zs.map fun z => (Value.string ⟨z.toArray⟩ : Value))[i]? = some x → W.cell? ⟨g, i, none⟩ = some x := by
  obtain ⟨ps, ⟨g', t', cs, fuel, p, q, hg', ht', hvar, hd, _, _⟩, _⟩ := h
  obtain rfl := Option.some.inj (hg.symm.trans hg')
  obtain rfl := Option.some.inj (ht.symm.trans ht')
  intro i x hx
  rw [List.getElem?_map] at hx
  obtain ⟨z, hz, rfl⟩ := Option.map_eq_some_iff.1 hx
  have hc := cells_of_texts hu he hce hd i z hz
  have hv := World.var?_cell hg hvar
  refine (hv i).trans ?_
  rw [← Array.getElem?_toList]; exact hc
theorem lxt_of_laid {W : World} (h : laidMetH Tryd.prog laid6 W) : LxT W := by
  rw [MakeChecks.laidMetH_plain _ _ _ (by kernel_rfl)] at h
  have h3 := laidMet.tail (laidMet.tail (laidMet.tail h))
  have h4 := laidMet.tail h3
  have h5 := laidMet.tail h4
  have e3 : (Rows.laid_kindling_lex_keys : DataW Unit) = .agg (keysL.map fun z => (DataW.lit (Lit.string z) : DataW Unit)) := by rfl
  have e4 : (Rows.laid_kindling_lex_caps : DataW Unit) = .agg (capsL.map fun z => (DataW.lit (Lit.string z) : DataW Unit)) := by rfl
  have e5 : (Rows.laid_kindling_lex_signs : DataW Unit) = .agg (signsL.map fun z => (DataW.lit (Lit.string z) : DataW Unit)) := by rfl
  rw [e3] at h3
  rw [e4] at h4
  rw [e5] at h5
  refine ⟨fun i x q => ?_, fun i x q => ?_, fun i x q => ?_⟩
  · refine cells_of_head (by kernel_rfl) (by kernel_rfl) Tryd.underlying77 Tryd.underlying9 (by kernel_rfl) h3 i x ?_
    rw [← q, ← Array.getElem?_toList]; rfl
  · refine cells_of_head (by kernel_rfl) (by kernel_rfl) Tryd.underlying78 Tryd.underlying9 (by kernel_rfl) h4 i x ?_
    rw [← q, ← Array.getElem?_toList]; rfl
  · refine cells_of_head (by kernel_rfl) (by kernel_rfl) Tryd.underlying79 Tryd.underlying9 (by kernel_rfl) h5 i x ?_
    rw [← q, ← Array.getElem?_toList]; rfl
section
variable {H : Type} {enc : TypeId × Value → H} {P : Program}
/-- The row's last step of a call that may have laid new blocks: what lay below its heap lies as it lay. -/
theorem post_below {f : Func} {s : ChangeSpec} {apart fresh handsOn again : Bool} {W W' : World} {args : Array Value} {v : Value} {ds gs : List (DataW H)} {before pa pv : List MemPlace}
    (hW : DataW.Whole enc P f.params.toList s.vars apart W args.toList ds gs before)
    (hres : ∀ (b : Nat) (sp : Nat → Bool) (hd : Bool), DataW.TrodAll enc P W' b sp hd f.resultTypes.toList (v.resultList f.resultTypes.size) (s.fn H (ds ++ gs)).results [])
    (hargs : ∀ sp : Nat → Bool, (∀ p ∈ before, sp p.block = true) → DataW.TrodAll enc P W' 0 sp true f.params.toList args.toList (s.fn H (ds ++ gs)).args pa)
    (hvars : ∀ sp : Nat → Bool, (∀ p ∈ before, sp p.block = true) → DataW.TrodVars enc P W' sp s.vars (s.fn H (ds ++ gs)).vars pv)
    (hps : before = pa ++ pv) (hb : Below W.heap.size W W')
    (hok : ∀ (j : Nat) (t : TypeId) (r : Value), f.resultTypes[j]? = some t → (v.resultList f.resultTypes.size)[j]? = some r → Value.okWide P W' .any 0 t r) :
    s.post enc P f apart fresh handsOn again W args v W' := by
  have old : ∀ p ∈ before, decide (p.block < W.heap.size) = true := fun p hp => decide_eq_true (hW.lt p hp)
  refine ⟨ds, gs, before, [], pa, pv, hW, hres _ _ _, hargs _ old, hvars _ old, World.keptBut_mono (fun p hp => ⟨hp, .inr ?_⟩) (hb.frame (· ∈ before)), fun _ => ?_⟩
  · exact List.mem_append.1 (hps ▸ hp)
  · have hlt := hW.lt
    obtain ⟨_, _, _, _, _, hz, hn⟩ := hW
    refine ⟨hok, _, _, ([] ++ pa) ++ pv, ⟨[] ++ pa, pv, trodAll_append (hargs _ (fun _ _ => rfl)) (hres _ _ _), hvars _ (fun _ _ => rfl), rfl, fun b off hp => ?_, fun ha => ?_⟩, fun p hp _ => ?_⟩
    · have hin : MemPlace.cell b off ∈ before := by rw [hps]; simpa using hp
      exact (hb.frozen (p := ⟨b, off, none⟩) (hlt _ hin)).trans (hz b off hin)
    · have h := hn ha
      rw [hps] at h
      simpa using h
    · rw [hps]
      simpa using hp
end
end Go.Proofs.YtphhokpbkcdljaaDoor
