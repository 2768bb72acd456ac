/- A part of the proof of MachineStops: pruned, joined and printed small by a script. Conditions: those that each theorem names. -/
import Derived.Test.YtklcmdoadmcpfaaGreatDoorCards
import Derived.Test.YtklcmdoadmcpfaaGreatDoorP01
import Derived.SizedLaws
import Derived.Test.YtklcmdoadmcpfaaGreatDoorP44
import Derived.Test.YtklcmdoadmcpfaaGreatDoorP38
namespace Go.Proofs.YtklcmdoadmcpfaaGreatDoor.machineStops
open Go Go.ChangeShapes Go.WideShapes Go.ChangeAt Go.ChangeMaps Go.RowKit Go.Proofs.YtklcmdoadmcpfaaGreatDoor Go.Proofs.YtklcmdoadmcpfaaGreatDoor.IsaL
set_option maxRecDepth 100000 in
theorem tab_of_laid {W:World} (h:laidMetH Tryz.prog laid3 W):NumL.Tab W:=by
 rw[MakeChecks.laidMetH_plain _ _ _ (by kernel_rfl)] at h
 have h2:=laidMet.tail (laidMet.tail h)
 have e:(Rows.laid_internal_strconv_uint64pow10:DataW Unit)=Lib.tabData .u64 Lib.pow10Tab:=by rfl
 rw[e] at h2
 exact Lib.tabIs_of_head (g:=1) (t:=239) (e:=65) (n:=20) (by kernel_rfl) (by kernel_rfl) Tryz.underlying239 Tryz.underlying65 (by kernel_rfl) (by kernel_rfl) h2
set_option maxRecDepth 100000 in
theorem lifted (os:Os) (started:os.Started) (H:Type) (enc:TypeId×Value->H):
  ReturnsInHanded {} Tryz.checked os 8 .any (fun w args=>(Rows.machineStopsSpec.pre enc Tryz.prog Tryz.f8 [] false w args/\laidMetH Tryz.prog laid3 w)/\sizedMet enc Tryz.prog Tryz.f8 (OpenSpec.ofChange Rows.machineStopsSpec) false w args)
   (Rows.machineStopsSpec.post enc Tryz.prog Tryz.f8 false true false false):=by
 refine returnsInHanded_of_change_and (C:=Tryz.checked) (X:=fun w _=>laidMetH Tryz.prog laid3 w) (fun _ _ _ hh h=>h.of_heap hh) own started (by kernel_rfl) Tryz.func8
  (ChangeSpec.witness_shaped (enc:=enc) (C:=Tryz.checked) (os:=os) (X:=fun w _=>laidMetH Tryz.prog laid3 w) false (World.doorLaid Tryz.prog 400 os) #[.agg #[.int .i64 0,.int .i64 0,.int .i64 0,.int .i64 0,.int .i64 0],.slice none 0 0] 8 rfl (World.shaped_of_RefB (by kernel_rfl) (by kernel_rfl)) (by kernel_rfl) (by kernel_rfl) (by kernel_rfl) (door_met os _)) ?_
 intro W base args ds gs before hval0 hW _ hsize hL _
 have hval:∀(j:Nat) t v,Tryz.f8.params[j]?=some t->args[j]?=some v->Value.okWide Tryz.prog W .any base t v:=hval0
 have hW':=hW
 obtain⟨p,q,hA0,hV,rfl,hfz,hnd⟩:=hW
 have hA:DataW.TrodAll enc Tryz.prog W 0 (fun _=>true) true Tryz.f8.params.toList args.toList ds p:=hA0
 rw[Tryz.params8] at hA hval
 obtain⟨v0,vs0,d0,ds0,p0,q0,hargs,rfl,rfl,h0,r0⟩:=trodAll_cons hA
 obtain⟨v1,vs1,d1,ds1,p1,q1,rfl,rfl,rfl,h1,r1⟩:=trodAll_cons r0
 obtain⟨rfl,rfl,rfl⟩:=trodAll_nil r1
 obtain rfl:args=#[v0,v1]:=by cases args;simp_all
 obtain⟨rfl,rfl⟩:=trodVars_none hV
 have hlt:=hW'.lt
 have g0:=h0
 obtain⟨ta,tb,tc,ts,te,rfl,t0,t1⟩:=open_try (hval 0 26 v0 rfl rfl) h0
 have g1:=h1
 obtain⟨ca,cn,cc,rfl⟩:=okWide_slice Tryz.underlying22 (hval 1 22 v1 rfl rfl)
 clear hA0 hval0
 obtain⟨fuel,hf⟩:=h1
 obtain⟨l,hcodes,hgreat⟩:=open_codes (v:=.slice ca cn cc) (by simpa[Value.cells] using hf) (fun n hn=>of_decide_eq_true (List.all_eq_true.1 hsize _ (DataW.weights_mem_each (j:=1) rfl rfl n hn)))
 refine(machineStops_any ⟨tab_of_laid hL,ops_of_laid hL⟩ hcodes hgreat ta tb tc ts te t0 t1).mono fun e W' ⟨he,hb⟩=>?_
 subst he
 exact⟨_,rfl,post_below (pv:=[]) hW' (fun _ _ _=>(trodAll_cons_mk (shut_bool Tryz.underlying4 _) trodAll_mk0)) (fun sp hsp=>(trodAll_cons_mk (again_any (by kernel_rfl) (of_decide_eq_true (by kernel_rfl)) g0 hb (fun x hx=>hlt x (by simp[hx])) (fun q hq=>hsp q (by simp[hq]))) (trodAll_cons_mk (again_any (by kernel_rfl) (of_decide_eq_true (by kernel_rfl)) g1 hb (fun x hx=>hlt x (by simp[hx])) (fun q hq=>hsp q (by simp[hq]))) trodAll_mk0))) (fun _ _=>rfl) (by simp)
  hb (ok_one (by kernel_rfl) rfl (okWide_bool_mk Tryz.underlying4 _))⟩
theorem row_holds:Rows.MachineStopsSaid:=
 OpenClaim.holds_of_wide 8 Tryz.f8 rfl rfl rfl rfl rfl rfl rfl ⟨rfl,rfl,rfl,rfl,rfl⟩ rfl rfl rfl rfl rfl (by kernel_rfl) Tryz.func8 (by kernel_rfl)
  (of_decide_eq_true (by kernel_rfl)) (by unfold Func.isWrapper;first|(rw[if_pos (by decide+kernel)];kernel_rfl)|(rw[if_neg (by decide+kernel)];exact⟨rfl,rfl⟩))
  (fun os started H enc _=>lifted os started H enc)
theorem card_holds:Rows.MachineStopsCardSaid:=
 Claim7.holds_tied_plain_at .later [] [.data,.data,.data,.data] true (Rows.machineStopsCard.stood.harness.1,Rows.machineStopsCard.stood.harness.2) false
  row_holds (fun _ h=>by cases h) (by kernel_rfl) (fun _ h=>by cases h) machineStops_row_tie rfl ⟨rfl,rfl⟩ (by kernel_rfl) rfl
  (fun f fn hf hfn=>by
   obtain rfl:f=8:=Option.some.inj ((show Tryz.prog.funcNamed "kindling/kindlinglaw06.MachineStops"=some 8 by kernel_rfl).symm.trans hf)|>.symm
   obtain rfl:fn=Tryz.f8:=(Option.some.inj (Tryz.func8.symm.trans hfn)).symm
   exact⟨by kernel_rfl,fun j t ht=>by
    rw[Tryz.params8] at ht
    have hm:t∈[26,22]:=by simpa using Array.mem_of_getElem? ht
    have hall:([26,22].all fun u=> !Tryz.prog.wantsStandIn u)=true:=by kernel_rfl
    exact(show Tryz.prog.wantsStandIn t=false by simpa using List.all_eq_true.1 hall t hm)⟩)
  (by kernel_rfl)
end Go.Proofs.YtklcmdoadmcpfaaGreatDoor.machineStops
