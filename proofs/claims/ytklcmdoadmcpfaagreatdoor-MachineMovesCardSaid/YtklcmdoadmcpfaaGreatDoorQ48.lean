/- A part of the proof of MachineMoves. Conditions: those that each theorem names. -/
import Derived.Test.YtklcmdoadmcpfaaGreatDoorQ47
namespace Go.Proofs.YtklcmdoadmcpfaaGreatDoor.machineMoves
open Go Go.ChangeShapes Go.WideShapes Go.ChangeAt Go.ChangeMaps Go.RowKit Go.Proofs.YtklcmdoadmcpfaaGreatDoor Go.Proofs.YtklcmdoadmcpfaaGreatDoor.IsaL
set_option maxRecDepth 100000 in
theorem jjk {W:World} (h:laidMetH Tryz.prog jdh W):NumL.Tab W:=by
 rw[MakeChecks.laidMetH_plain _ _ _ (by kernel_rfl)] at h
 have h2:=laidMet.tail (laidMet.tail h)
 have e:(Rows.laid_internal_strconv_uint64pow10:DataW Unit)=Lib.tabData .u64 Lib.pow10Tab:=by rfl
 rw[e] at h2
 exact Lib.tabIs_of_head (g:=1) (t:=239) (e:=65) (n:=20) (by kernel_rfl) (by kernel_rfl) Tryz.underlying239 Tryz.underlying65 (by kernel_rfl) (by kernel_rfl) h2
set_option maxRecDepth 100000 in
theorem jt0 (os:Os) (started:os.Started) (H:Type) (enc:TypeId×Value->H):
  ReturnsInHanded {} Tryz.checked os 6 .any (fun w args=>(Rows.machineMovesSpec.pre enc Tryz.prog Tryz.f6 [] false w args/\laidMetH Tryz.prog jdh w)/\sizedMet enc Tryz.prog Tryz.f6 (OpenSpec.ofChange Rows.machineMovesSpec) false w args)
   (Rows.machineMovesSpec.post enc Tryz.prog Tryz.f6 false true false false):=by
 refine returnsInHanded_of_change_and (C:=Tryz.checked) (X:=fun w _=>laidMetH Tryz.prog jdh w) (fun _ _ _ hh h=>h.of_heap hh) own started (by kernel_rfl) Tryz.func6
  (ChangeSpec.witness_shaped (enc:=enc) (C:=Tryz.checked) (os:=os) (X:=fun w _=>laidMetH Tryz.prog jdh w) false (World.doorLaid Tryz.prog 400 os) #[.agg #[.int .i64 0,.int .i64 0,.int .i64 0,.int .i64 0,.int .i64 0],.slice none 0 0,.int .i64 0] 8 rfl (World.shaped_of_RefB (by kernel_rfl) (by kernel_rfl)) (by kernel_rfl) (by kernel_rfl) (by kernel_rfl) (jpl os _)) ?_
 intro W base args ds gs before hval0 hW _ hsize hL _
 have hval:∀(j:Nat) t v,Tryz.f6.params[j]?=some t->args[j]?=some v->Value.okWide Tryz.prog W .any base t v:=hval0
 have hW':=hW
 obtain⟨p,q,hA0,hV,rfl,hfz,hnd⟩:=hW
 have hA:DataW.TrodAll enc Tryz.prog W 0 (fun _=>true) true Tryz.f6.params.toList args.toList ds p:=hA0
 rw[Tryz.params6] at hA hval
 obtain⟨v0,vs0,d0,ds0,p0,q0,hargs,rfl,rfl,h0,r0⟩:=trodAll_cons hA
 obtain⟨v1,vs1,d1,ds1,p1,q1,rfl,rfl,rfl,h1,r1⟩:=trodAll_cons r0
 obtain⟨v2,vs2,d2,ds2,p2,q2,rfl,rfl,rfl,h2,r2⟩:=trodAll_cons r1
 obtain⟨rfl,rfl,rfl⟩:=trodAll_nil r2
 obtain rfl:args=#[v0,v1,v2]:=by cases args;simp_all
 obtain⟨rfl,rfl⟩:=trodVars_none hV
 have hlt:=hW'.lt
 have g0:=h0
 obtain⟨ta,tb,tc,ts,te,rfl,t0,t1⟩:=jqr (hval 0 26 v0 rfl rfl) h0
 have g1:=h1
 obtain⟨ca,cn,cc,rfl⟩:=okWide_slice Tryz.underlying22 (hval 1 22 v1 rfl rfl)
 obtain⟨a2,rfl,rfl,rfl,w2⟩:=open_int Tryz.underlying3 (hval 2 3 v2 rfl rfl) h2
 have b2: -9223372036854775808<=a2/\a2<=9223372036854775807:=by simpa[Lit.wf,IntKind.min,IntKind.max,IntKind.signed,IntKind.bits] using w2
 clear hA0 hval0
 obtain⟨fuel,hf⟩:=h1
 obtain⟨l,hcodes,hgreat⟩:=jlx (v:=.slice ca cn cc) (by simpa[Value.cells] using hf) (fun n hn=>of_decide_eq_true (List.all_eq_true.1 hsize _ (DataW.weights_mem_each (j:=1) rfl rfl n hn)))
 refine(jdZ ⟨jjk hL,jjd hL⟩ hcodes hgreat ta tb tc ts te a2 b2.1 b2.2).mono fun e W' ⟨he,hb⟩=>?_
 subst he
 exact⟨_,rfl,jlD (pv:=[]) hW' (fun _ _ _=>(trodAll_cons_mk (shut_bool Tryz.underlying4 _) trodAll_mk0)) (fun sp hsp=>(trodAll_cons_mk (jfP (by kernel_rfl) (of_decide_eq_true (by kernel_rfl)) g0 hb (fun x hx=>hlt x (by simp[hx])) (fun q hq=>hsp q (by simp[hq]))) (trodAll_cons_mk (jfP (by kernel_rfl) (of_decide_eq_true (by kernel_rfl)) g1 hb (fun x hx=>hlt x (by simp[hx])) (fun q hq=>hsp q (by simp[hq]))) (trodAll_cons_mk (shut_int Tryz.underlying3 w2) trodAll_mk0)))) (fun _ _=>rfl) (by simp)
  hb (ok_one (by kernel_rfl) rfl (okWide_bool_mk Tryz.underlying4 _))⟩
theorem jor:Rows.MachineMovesSaid:=
 OpenClaim.holds_of_wide 6 Tryz.f6 rfl rfl rfl rfl rfl rfl rfl ⟨rfl,rfl,rfl,rfl,rfl⟩ rfl rfl rfl rfl rfl (by kernel_rfl) Tryz.func6 (by kernel_rfl)
  (of_decide_eq_true (by kernel_rfl)) (by unfold Func.isWrapper;first|(rw[if_pos (by decide+kernel)];kernel_rfl)|(rw[if_neg (by decide+kernel)];exact⟨rfl,rfl⟩))
  (fun os started H enc _=>jt0 os started H enc)
theorem card_holds:Rows.MachineMovesCardSaid:=
 Claim7.holds_tied_plain_at .later [] [.data,.data,.data,.data] true (Rows.machineMovesCard.stood.harness.1,Rows.machineMovesCard.stood.harness.2) false
  jor (fun _ h=>by cases h) (by kernel_rfl) (fun _ h=>by cases h) machineMoves_row_tie rfl ⟨rfl,rfl⟩ (by kernel_rfl) rfl
  (fun f fn hf hfn=>by
   obtain rfl:f=6:=Option.some.inj ((show Tryz.prog.funcNamed "kindling/kindlinglaw06.MachineMoves"=some 6 by kernel_rfl).symm.trans hf)|>.symm
   obtain rfl:fn=Tryz.f6:=(Option.some.inj (Tryz.func6.symm.trans hfn)).symm
   exact⟨by kernel_rfl,fun j t ht=>by
    rw[Tryz.params6] at ht
    have hm:t∈[26,22,3]:=by simpa using Array.mem_of_getElem? ht
    have hall:([26,22,3].all fun u=> !Tryz.prog.wantsStandIn u)=true:=by kernel_rfl
    exact(show Tryz.prog.wantsStandIn t=false by simpa using List.all_eq_true.1 hall t hm)⟩)
  (by kernel_rfl)
end Go.Proofs.YtklcmdoadmcpfaaGreatDoor.machineMoves
