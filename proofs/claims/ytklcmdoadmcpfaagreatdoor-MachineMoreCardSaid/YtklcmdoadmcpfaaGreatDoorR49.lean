/- A part of the proof of MachineMore. Conditions: those that each theorem names. -/
import Derived.Test.YtklcmdoadmcpfaaGreatDoorR48
namespace Go.Proofs.YtklcmdoadmcpfaaGreatDoor.machineMore
open Go Go.ChangeShapes Go.WideShapes Go.ChangeAt Go.ChangeMaps Go.RowKit Go.Proofs.YtklcmdoadmcpfaaGreatDoor Go.Proofs.YtklcmdoadmcpfaaGreatDoor.IsaL
set_option maxRecDepth 100000 in
theorem jjk {W:World} (h:laidMetH Tryz.prog jdh W):NumL.Tab W:=by
 rw[MakeChecks.laidMetH_plain _ _ _ (by kernel_rfl)] at h
 have h2:=laidMet.tail (laidMet.tail h)
 have e:(Rows.laid_internal_strconv_uint64pow10:DataW Unit)=Lib.tabData .u64 Lib.pow10Tab:=by rfl
 rw[e] at h2
 exact Lib.tabIs_of_head (g:=1) (t:=239) (e:=65) (n:=20) (by kernel_rfl) (by kernel_rfl) Tryz.underlying239 Tryz.underlying65 (by kernel_rfl) (by kernel_rfl) h2
theorem zao:Tryz.prog.cellsOf 57=1:=by kernel_rfl
theorem zan:Tryz.prog.cellsOf 58=3:=by kernel_rfl
set_option maxRecDepth 100000 in
theorem zaK {H:Type} {enc:TypeId×Value->H} {W:World} {b0:Nat} {v:Value} {d:DataW H} {p:List MemPlace} (hval:Value.okWide Tryz.prog W .any b0 58 v)
  (hd:DataW.Trod enc Tryz.prog W 0 (fun _=>true) true 58 v d p):∃a b c:Nat,v=.agg #[.int .u16 (a:Int),.int .u16 (b:Int),.int .u16 (c:Int)]/\a<65536/\b<65536/\c<65536:=by
 obtain⟨cs,rfl,hsz⟩:∃cs,v=.agg cs/\cs.size=Tryz.prog.cellsOf 58:=by
  simp only[Value.okWide,Tryz.underlying58] at hval
  obtain⟨cs,h1,h2,_⟩:=hval
  exact⟨cs,h1,h2⟩
 obtain⟨fuel,hf⟩:=hd
 have hf:DataW.trod enc Tryz.prog W 0 (fun _=>true) true fuel 58 cs.toList=some (d,p):=by simpa[Value.cells] using hf
 rw[zan] at hsz
 obtain⟨L,hL⟩:∃L,cs.toList=L:=⟨_,rfl⟩
 have hc:cs=L.toArray:=by rw[<-hL]
 have hlen:L.length=3:=by rw[<-hL];simpa using hsz
 rw[hL] at hf
 match L,hlen with
 |[c0,c1,c2],_=>
  obtain⟨y0,y1,y2,n,_,g0,g1,g2⟩:=trod_array3 Tryz.underlying58 zao hf
  have k:∀(c:Value) (y:DataW H×List MemPlace),DataW.trod enc Tryz.prog W 0 (fun _=>true) true n 57 [c]=some y->∃z:Nat,c=.int .u16 (z:Int)/\z<65536:=by
   intro c y h
   obtain⟨z,e,_,w⟩:=DataW.trod_int Tryz.underlying57 h
   have b:0<=z/\z<=65535:=by simpa[Lit.wf,IntKind.min,IntKind.max,IntKind.signed,IntKind.bits] using w
   simp only[List.cons.injEq,and_true] at e
   exact⟨z.toNat,by rw[e,Int.toNat_of_nonneg b.1],by omega⟩
  obtain⟨z0,rfl,b0⟩:=k c0 y0 g0
  obtain⟨z1,rfl,b1⟩:=k c1 y1 g1
  obtain⟨z2,rfl,b2⟩:=k c2 y2 g2
  exact⟨z0,z1,z2,by rw[hc],b0,b1,b2⟩
set_option maxRecDepth 100000 in
theorem jt0 (os:Os) (started:os.Started) (H:Type) (enc:TypeId×Value->H):
  ReturnsInHanded {} Tryz.checked os 7 .any (fun w args=>(Rows.machineMoreSpec.pre enc Tryz.prog Tryz.f7 [] false w args/\laidMetH Tryz.prog jdh w)/\sizedMet enc Tryz.prog Tryz.f7 (OpenSpec.ofChange Rows.machineMoreSpec) false w args)
   (Rows.machineMoreSpec.post enc Tryz.prog Tryz.f7 false true false false):=by
 refine returnsInHanded_of_change_and (C:=Tryz.checked) (X:=fun w _=>laidMetH Tryz.prog jdh w) (fun _ _ _ hh h=>h.of_heap hh) own started (by kernel_rfl) Tryz.func7
  (ChangeSpec.witness_shaped (enc:=enc) (C:=Tryz.checked) (os:=os) (X:=fun w _=>laidMetH Tryz.prog jdh w) false (World.doorLaid Tryz.prog 400 os) #[.agg #[.int .i64 0,.int .i64 0,.int .i64 0,.int .i64 0,.int .i64 0],.slice none 0 0,.agg #[.int .u16 0,.int .u16 0,.int .u16 0]] 8 rfl (World.shaped_of_RefB (by kernel_rfl) (by kernel_rfl)) (by kernel_rfl) (by kernel_rfl) (by kernel_rfl) (jpl os _)) ?_
 intro W base args ds gs before hval0 hW _ hsize hL _
 have hval:∀(j:Nat) t v,Tryz.f7.params[j]?=some t->args[j]?=some v->Value.okWide Tryz.prog W .any base t v:=hval0
 have hW':=hW
 obtain⟨p,q,hA0,hV,rfl,hfz,hnd⟩:=hW
 have hA:DataW.TrodAll enc Tryz.prog W 0 (fun _=>true) true Tryz.f7.params.toList args.toList ds p:=hA0
 rw[Tryz.params7] at hA hval
 obtain⟨v0,vs0,d0,ds0,p0,q0,hargs,rfl,rfl,h0,r0⟩:=trodAll_cons hA
 obtain⟨v1,vs1,d1,ds1,p1,q1,rfl,rfl,rfl,h1,r1⟩:=trodAll_cons r0
 obtain⟨v2,vs2,d2,ds2,p2,q2,rfl,rfl,rfl,h2,r2⟩:=trodAll_cons r1
 obtain⟨rfl,rfl,rfl⟩:=trodAll_nil r2
 obtain rfl:args=#[v0,v1,v2]:=by cases args;simp_all
 obtain⟨rfl,rfl⟩:=trodVars_none hV
 have hlt:=hW'.lt
 have g0:=h0
 obtain⟨ta,tb,tc,ts,te,rfl,t0,t1⟩:=jqr (hval 0 26 v0 rfl rfl) h0
 have g1:=h1
 obtain⟨ca,cn,cc,rfl⟩:=okWide_slice Tryz.underlying22 (hval 1 22 v1 rfl rfl)
 have g2:=h2
 obtain⟨ma,mb,mc,rfl,l0,l1,l2⟩:=zaK (hval 2 58 v2 rfl rfl) h2
 clear hA0 hval0
 obtain⟨fuel,hf⟩:=h1
 obtain⟨l,hcodes,hgreat⟩:=jlx (v:=.slice ca cn cc) (by simpa[Value.cells] using hf) (fun n hn=>of_decide_eq_true (List.all_eq_true.1 hsize _ (DataW.weights_mem_each (j:=1) rfl rfl n hn)))
 refine(zaH ⟨jjk hL,jjd hL⟩ hcodes hgreat ta tb tc ts te ma mb mc l0 l1 l2).mono fun e W' ⟨he,hb⟩=>?_
 subst he
 exact⟨_,rfl,jlD (pv:=[]) hW' (fun _ _ _=>(trodAll_cons_mk (shut_bool Tryz.underlying4 _) trodAll_mk0)) (fun sp hsp=>(trodAll_cons_mk (jfP (by kernel_rfl) (of_decide_eq_true (by kernel_rfl)) g0 hb (fun x hx=>hlt x (by simp[hx])) (fun q hq=>hsp q (by simp[hq]))) (trodAll_cons_mk (jfP (by kernel_rfl) (of_decide_eq_true (by kernel_rfl)) g1 hb (fun x hx=>hlt x (by simp[hx])) (fun q hq=>hsp q (by simp[hq]))) (trodAll_cons_mk (jfP (by kernel_rfl) (of_decide_eq_true (by kernel_rfl)) g2 hb (fun x hx=>hlt x (by simp[hx])) (fun q hq=>hsp q (by simp[hq]))) trodAll_mk0)))) (fun _ _=>rfl) (by simp)
  hb (ok_one (by kernel_rfl) rfl (okWide_bool_mk Tryz.underlying4 _))⟩
theorem jor:Rows.MachineMoreSaid:=
 OpenClaim.holds_of_wide 7 Tryz.f7 rfl rfl rfl rfl rfl rfl rfl ⟨rfl,rfl,rfl,rfl,rfl⟩ rfl rfl rfl rfl rfl (by kernel_rfl) Tryz.func7 (by kernel_rfl)
  (of_decide_eq_true (by kernel_rfl)) (by unfold Func.isWrapper;first|(rw[if_pos (by decide+kernel)];kernel_rfl)|(rw[if_neg (by decide+kernel)];exact⟨rfl,rfl⟩))
  (fun os started H enc _=>jt0 os started H enc)
theorem card_holds:Rows.MachineMoreCardSaid:=
 Claim7.holds_tied_plain_at .later [] [.data,.data,.data,.data] true (Rows.machineMoreCard.stood.harness.1,Rows.machineMoreCard.stood.harness.2) false
  jor (fun _ h=>by cases h) (by kernel_rfl) (fun _ h=>by cases h) machineMore_row_tie rfl ⟨rfl,rfl⟩ (by kernel_rfl) rfl
  (fun f fn hf hfn=>by
   obtain rfl:f=7:=Option.some.inj ((show Tryz.prog.funcNamed "kindling/kindlinglaw06.MachineMore"=some 7 by kernel_rfl).symm.trans hf)|>.symm
   obtain rfl:fn=Tryz.f7:=(Option.some.inj (Tryz.func7.symm.trans hfn)).symm
   exact⟨by kernel_rfl,fun j t ht=>by
    rw[Tryz.params7] at ht
    have hm:t∈[26,22,58]:=by simpa using Array.mem_of_getElem? ht
    have hall:([26,22,58].all fun u=> !Tryz.prog.wantsStandIn u)=true:=by kernel_rfl
    exact(show Tryz.prog.wantsStandIn t=false by simpa using List.all_eq_true.1 hall t hm)⟩)
  (by kernel_rfl)
end Go.Proofs.YtklcmdoadmcpfaaGreatDoor.machineMore
