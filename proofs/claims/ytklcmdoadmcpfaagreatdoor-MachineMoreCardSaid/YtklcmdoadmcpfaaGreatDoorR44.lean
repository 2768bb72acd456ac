/- A part of the proof of MachineMore. Conditions: those that each theorem names. -/
import Derived.Test.YtklcmdoadmcpfaaGreatDoorR43
set_option maxRecDepth 100000
set_option maxHeartbeats 400000000
namespace Go.Proofs.YtklcmdoadmcpfaaGreatDoor
open Go Go.RowKit IsaL
open Go.Lib(hid)
open Go.Proofs.Tryz(prog)
section
variable {O:Nat->Prop} {w X:World} {g b:Nat} {C:CM} {R:Nat->Value} {vf vs vh:Value} {M:RM} {D:Nat->Prop} {f A:Nat->Nat} {E:List Nat}
def Ran (O:Nat->Prop) (w:World) (g b:Nat) (stop:Int) (n0:Nat) (M0:RM) (e:Ending) (w':World):Prop:=∃N kd,Qs stop n0 M0=(N,kd)/\e=.returned (.agg #[.int .i64 kd,.int .i64 N.steps])/\(∃C' R vf vs vh,McAt O w' g C' b R vf vs vh/\jaB (qX N) C')/\Fr O w w'/\TrR stop n0 M0
structure Way (O:Nat->Prop) (w:World) (g b r9 t8:Nat) (stop bu:Int) (n0:Nat) (M0 M:RM) (n:Nat) (W:World):Prop where
 rs:∃C D f A E,RSt O w g b r9 t8 M C 0 M.steps W/\Sim M C D f A/\Usd M E
 go:Qs stop n M=Qs stop n0 M0
 tr:TrR stop n M->TrR stop n0 M0
 b1:M.budget=bu
 s0:0<=M.steps
 s1:M.steps<=bu
 nn:bu+1<=n+M.steps
 fr:0<M.frs.length
section
variable {r9 t8 n n0:Nat} {stop bu:Int} {M0 M1:RM} {W0 W:World} {r:RM×Int} {c:CM×Int}
theorem jhN (hA:¬(0<stop/\stop<=M1.steps)) (hB:¬M1.budget<=M1.steps) (hs:Zr {M1 with steps:=M1.steps+1}=r):Qs stop (n+1) M1=if r.2=0 then Qs stop n r.1 else r:=by
 obtain⟨N,k⟩:=r;show(if 0<stop/\stop<=M1.steps then(M1,(4:Int)) else if M1.budget<=M1.steps then(M1,3) else match Zr {M1 with steps:=M1.steps+1} with
  |(N,k)=>if k=0 then Qs stop n N else(N,k))=_
 rw[if_neg hA,if_neg hB,hs]
section
variable (h:Way O w g b r9 t8 stop bu n0 M0 M1 (n+1) W0) (hA:¬(0<stop/\stop<=M1.steps)) (hB:¬M1.budget<=M1.steps) (hs:Zr {M1 with steps:=M1.steps+1}=r)
include h hA hB hs
theorem Way.next (h0:r.2=0) (hr:Rel c r) (hrs:RSt O w g b r9 t8 r.1 c.1 0 r.1.steps W) (hf:∃C,jaB M1 C):Way O w g b r9 t8 stop bu n0 M0 r.1 n W/\M1.steps<r.1.steps:=by
 have hst:=joI (M:={M1 with steps:=M1.steps+1}) (by show M1.steps+1<=M1.budget;omega);rw[hs] at hst;have hlo:M1.steps+1<=r.1.steps:=hst.lo;have hhi:r.1.steps<=M1.budget:=hst.hi (by show M1.steps+1<=M1.budget;omega);have hb:=h.b1;have hs0:=h.s0;have hnn:=h.nn;obtain⟨D',f',A',E',s',u'⟩:=hr.2.1 h0;refine⟨⟨⟨c.1,D',f',A',E',hrs,s',u'⟩,?_,fun t=>h.tr (.inr (.inr ⟨hf,h.fr,fun _=>by rw[hs];exact t⟩)),hst.bu.trans hb,by omega,by omega,by omega,hst.fr h.fr h0⟩,by omega⟩;rw[<-h.go,jhN hA hB hs,if_pos h0]
theorem Way.ends (h0:r.2≠0) (hr:Rel c r) (hf:∃C,jaB M1 C):Qs stop n0 M0=r/\jaB (qX r.1) (Qi c.1)/\TrR stop n0 M0:=
 ⟨by rw[<-h.go,jhN hA hB hs,if_neg h0],hr.2.2 h0,h.tr (.inr (.inr ⟨hf,h.fr,fun q=>absurd (by rw[hs] at q;exact q) h0⟩))⟩
end
end
theorem jiJ (a:McAt O w g C b R vf vs vh) (s:Sim M C D f A) (u:Usd M E) (id:jfc M) (hO:∀i,w.heap.size<=i->O i) (hG:∀Y,Fr O w Y->NumL.Tab Y/\ZM Y) (hS:3<=M.stack) {i:Nat} {o:RObj} (he:M.entry=.P i) (ho:M.objs[i]?=some o) (hk:o.k=5) (budget stop every:Int) {bu:Int} (hbu:min (max budget 0) 1099511627776=bu) (hb:bu<=190000) (ev0: -9223372036854775808<=every) (ev1:every<=9223372036854775807):
  Calls prog 19 #[.pointer (some ⟨g,0,none⟩),.int .i64 budget,.int .i64 stop,.int .i64 every] w fun e w'=>Ran O w g b stop (bu.toNat+1) (Jv M budget) e w':=by
 have sB:=s.begin id hS he ho hk budget;have uB:=u.begin budget;have hi:D i:=s.rt i (by rw[<-he];exact ja.2 (.inr (.inr (.inr (.inl rfl)))));obtain⟨o',q1,_,q3⟩:=s.obj hi;rw[ho] at q1;obtain rfl:=zqd q1;have ec:C.cd=A i:=by rw[s.cd,he];rfl
 rw[<-ec] at q3;obtain⟨X,hX⟩:∃X,w.alloc (.cells #[.int .i64 0,.int .i64 0] 43)=X:=⟨_,rfl⟩;have hbX:=jq w (.cells #[.int .i64 0,.int .i64 0] 43);have hnX:=zqe w (.cells #[.int .i64 0,.int .i64 0] 43);rw[hX] at hbX hnX;have HX:=hid hX;have a0:=a.off (zqg w.heap.size);have aX:=a0.below hbX;have hsX:X.heap.size=w.heap.size+1:=by rw[<-hX];exact World.size_alloc ..
 have HNO:=hid (QA aX.bx (jt3 ..));obtain⟨cw,hcw⟩:∃cw,C.cd=cw:=⟨_,rfl⟩;have c43:=aX.ccd;rw[hcw] at c43;have hip:jf (cw:Int)=true:=by rw[<-hcw,ec];exact s.ptr hi
 have hcl:cw<18446744073709551616:=hcw▸s.ok.cd;have HIP:=hid (fun Y=>show Calls prog 51 #[.int .u64 (cw:Int)] Y (fun e w'=>e=.returned (.bool true)/\Y=w') from(QW (cw:Int) Y (by omega) (by omega)).mono fun e w' ⟨h1,h2⟩=>⟨by rw[h1,hip],h2⟩);have HBG:=hid (jrM (O:=fun i=>O i/\i≠w.heap.size) aX s.ok (fun i hi=>⟨hO i (by omega),by omega⟩) q3);have hbu0:0<=bu:=by omega
 have hm0:(Jv M budget).budget=bu:=hbu;have HS:=hid (zqf sB uB);have HB:=hid (zqf hbX hnX);have HO:=hid hO;have HG:=hid hG;have HM0:=hid hm0;obtain⟨M0,hM0⟩:∃M0,Jv M budget=M0:=⟨_,rfl⟩;have hM1:M0.steps=0/\0<M0.frs.length:=by rw[<-hM0];exact⟨rfl,Nat.zero_lt_one⟩
 have HM1:=hid hM1;rw[hM0] at HS HM0;rw[hM0];obtain⟨CB,hCB⟩:∃CB,Ql {C with va:=1} C.cd (jA A o)=CB:=⟨_,rfl⟩;rw[hCB] at HS HBG;clear hM0 hM1 hm0 a s u id hO hG hX hbX hnX a0 aX sB uB hi q3 ec hcw hip hcl hCB ho he hk hS;go_enter Tryz.func19,Tryz.ntmps19;go_wp2_with fail;rw[HX.out];go_step3;go_wp2_with fail;refine HNO.out.mono ?_;rintro e w' ⟨rfl,hw'⟩;subst w';go_wp2_with (go_at_call 51;refine(HIP.out _).mono ?_;rintro e w' ⟨rfl,hw'⟩;subst w');refine HBG.out.mono ?_;rintro e w3 ⟨⟨v,rfl⟩,⟨vf3,a3⟩,hf3⟩;have hb4:=jq w3 (.cells #[.int .i64 0,.int .i64 0] 43);have hn4:=zqe w3 (.cells #[.int .i64 0,.int .i64 0] 43);have a4:=(a3.off (zqg w3.heap.size)).below hb4;obtain⟨X4,hX4⟩:∃X4,w3.alloc (.cells #[.int .i64 0,.int .i64 0] 43)=X4:=⟨_,rfl⟩;obtain⟨r9,hr9⟩:∃r9,w3.heap.size=r9:=⟨_,rfl⟩;have hs3:=hf3.size;have hlt:w.heap.size<r9:=by omega
 have hrc:w3.heap[w.heap.size]?=some (.cells #[.int .i64 0,.int .i64 0] 43 (0,0)):=(hf3.block w.heap.size (by omega) (fun q=>q.2 rfl)).trans HB.out.2;have htc:=(hb4.block w.heap.size (by omega)).trans hrc;have hfr:Fr O w w3:=(Fr.of_below HB.out.1).trans hf3 (fun i hi=>.inl hi.1);have hfr4:=hfr.trans (Fr.of_below (O:=O) hb4) (fun i hi=>.inl hi);rw[hX4] at hb4 hn4 a4 htc hfr4;rw[hr9] at hn4 a4;have hne:r9≠w.heap.size:=by omega
 have HNE:=hid hne;have HR9:=hid (HO.out r9 (by omega));have HT8:=hid (HO.out w.heap.size (zqg _));have HWY:=hid (show Way O w g b r9 w.heap.size stop bu (bu.toNat+1) M0 M0 (bu.toNat+1) X4 from⟨⟨CB,D,f,A,E,⟨⟨_,_,_,_,a4.wide fun i q=>⟨q.1.1,q.2,q.1.2⟩⟩,by rw[HM1.out.1];exact hn4,htc,hfr4⟩,HS.out.1,HS.out.2⟩,rfl,_root_.id,HM0.out,by rw[HM1.out.1];exact Int.le_refl _,by rw[HM1.out.1];exact hbu0,by rw[HM1.out.1];omega,HM1.out.2⟩);have HX4:=hid (zqf hX4 hr9);clear a3 hf3 hb4 hn4 a4 hX4 hr9 hrc htc hfr hfr4 hs3 hne;go_wp2_with fail;go_step3;go_wp2_with fail;rw[HX4.out.1,HX4.out.2];go_loopw [31] (fun _ wr=>∃(M1:RM) (n:Nat),Way O w g b r9 w.heap.size stop bu (bu.toNat+1) M0 M1 n wr) (fun _ wr=>(bu+1).toNat-(intOf ((wr.cell? ⟨r9,1,none⟩).getD undef)).toNat)
 case atStart=>exact⟨M0,_,HWY.out⟩
 case round=>
  obtain⟨M1,n1,hw1⟩:=hrel;obtain⟨C1,D1,f1,A1,E1,h1,s1,u1⟩:=hw1.rs;obtain⟨n,rfl⟩:∃n,n1=n+1:=⟨n1-1,by have:=hw1.nn;have:=hw1.s1;omega⟩;have hb1:=hw1.b1;obtain⟨st,hst⟩:∃st,M1.steps=st:=⟨_,rfl⟩;have st0:0<=st:=hst▸hw1.s0;have st1:st<=bu:=hst▸hw1.s1;rw[hst] at h1;have r0:=h1.c0;have r1:=h1.c1;have R1H:=hid r1;have z0:=jF h1.rc 0;have z1:=jF h1.rc 1;have HW1:=hid hw1;have HST:=hid hst;have HSU:=hid (zqf s1 u1);have H1:=hid h1;clear hw1 hst s1 u1 h1;go_upto_region 6 with fail;go_cut [31] from 31 to 101 (fun c wx=>c=.bool (decide (0<stop/\stop<=st))/\wx=wr)
  case first=>
   by_cases q1:0<stop
   ·have d1:decide (0<stop)=true:=zqr q1
    by_cases q2:stop<=st
    ·have d2:decide (stop<=st)=true:=zqr q2
     go_wp2_with fail;go_meet;exact⟨by rw[zqr (zqf q1 q2)],rfl⟩
    ·have d2:decide (stop<=st)=false:=zqq q2
     go_wp2_with fail;go_meet;exact⟨by rw[zqq (by omega)],rfl⟩
   ·have d1:decide (0<stop)=false:=zqq q1
    go_wp2_with fail;go_meet;exact⟨by rw[zqq (by omega)],rfl⟩
  case rest=>
   obtain⟨rfl,hwx⟩:=hcut;subst hwx;by_cases hA:0<stop/\stop<=st
   ·rw[zqr hA]
    have h7:=H1.out.kind HNE.out HR9.out 4;have HEN:=hid h7.ends;clear h7;go_wp2_with fail;refine HEN.out.mono ?_;rintro e w9 ⟨⟨v9,rfl⟩,h9⟩;have p0:=h9.c0;have p1:=h9.c1;have t0:w9.cell? ⟨w.heap.size,0,none⟩=some (.int .i64 0):=jb h9.tc 0;have t1:w9.cell? ⟨w.heap.size,1,none⟩=some (.int .i64 0):=jb h9.tc 1;have v0:=jF h9.tc 0;have v1:=jF h9.tc 1;have hn9:r9≠w.heap.size:=HNE.out;have hn8:w.heap.size≠r9:=fun e=>HNE.out e.symm;have HOUT:=hid (h9.out HT8.out (.int .i64 4) (.int .i64 st));clear h9;go_wp2_with fail;rw[Exit.noGoto_ret];refine bodyPost_ret (v:=.agg #[.int .i64 4,.int .i64 st]) (by simp[results,Tryz.results19,go_sem,t0,t1]) rfl ?_;obtain⟨⟨R',vf',vs',vh',ho1⟩,ho2⟩:=HOUT.out;have hgo:Qs stop (n+1) M1=(M1,4):=by
     unfold Qs;rw[if_pos (by rw[HST.out];exact hA)]
    refine⟨M1,4,by rw[<-HW1.out.go];exact hgo,by rw[HST.out],⟨_,R',vf',vs',vh',ho1,⟨D1,f1,A1,E1,HSU.out.1.idle HSU.out.1.stk0,HSU.out.2.idle⟩⟩,ho2,HW1.out.tr (.inl (by rw[HST.out];exact hA))⟩
   ·rw[zqq hA]
    by_cases hB:bu<=st
    ·have d3:decide (bu<=st)=true:=zqr hB
     have h7:=H1.out.kind HNE.out HR9.out 3;have HEN:=hid h7.ends;clear h7;go_wp2_with fail;refine HEN.out.mono ?_;rintro e w9 ⟨⟨v9,rfl⟩,h9⟩;have p0:=h9.c0;have p1:=h9.c1;have t0:w9.cell? ⟨w.heap.size,0,none⟩=some (.int .i64 0):=jb h9.tc 0;have t1:w9.cell? ⟨w.heap.size,1,none⟩=some (.int .i64 0):=jb h9.tc 1;have v0:=jF h9.tc 0;have v1:=jF h9.tc 1;have hn9:r9≠w.heap.size:=HNE.out;have hn8:w.heap.size≠r9:=fun e=>HNE.out e.symm;have HOUT:=hid (h9.out HT8.out (.int .i64 3) (.int .i64 st));clear h9;go_wp2_with fail;rw[Exit.noGoto_ret];refine bodyPost_ret (v:=.agg #[.int .i64 3,.int .i64 st]) (by simp[results,Tryz.results19,go_sem,t0,t1]) rfl ?_;obtain⟨⟨R',vf',vs',vh',ho1⟩,ho2⟩:=HOUT.out;have hgo:Qs stop (n+1) M1=(M1,3):=by
      unfold Qs;rw[if_neg (by rw[HST.out];exact hA),if_pos (by rw[HST.out,hb1];exact hB)]
     refine⟨M1,3,by rw[<-HW1.out.go];exact hgo,by rw[HST.out],⟨_,R',vf',vs',vh',ho1,⟨D1,f1,A1,E1,HSU.out.1.idle HSU.out.1.stk0,HSU.out.2.idle⟩⟩,ho2,HW1.out.tr (.inr (.inl (by rw[HST.out,hb1];exact hB)))⟩
    ·have d3:decide (bu<=st)=false:=zqq hB
     have hw3:IntKind.i64.wrap (st+1)=st+1:=jv (by omega) (by omega);have hS1:=H1.out.steps HNE.out HR9.out (st+1);obtain⟨Y1,hY1⟩:∃Y1,wc.setCell ⟨r9,1,none⟩ (.int .i64 (st+1))=Y1:=⟨_,rfl⟩;rw[hY1] at hS1;have HS1:=hid hS1;have HY1:=hid hY1;have HA:=hid hA;have HB2:=hid hB;clear hS1 hY1 hA hB;go_upto_region 11 with fail;rw[HY1.out];have r1:=HS1.out.c1;clear r0 z0 z1;go_cut [59] from 31 to 101 (fun c wx=>c=.bool (decide (0<every/\(st+1).tmod every=0))/\wx=Y1)
     case first=>
      by_cases q1:0<every
      ·have d1:decide (0<every)=true:=zqr q1
       obtain⟨rm,hrm⟩:∃rm,(st+1).tmod every=rm:=⟨_,rfl⟩;have hrb: -9223372036854775808<=rm/\rm<=9223372036854775807:=by
        rw[<-hrm,Int.tmod_eq_emod_of_nonneg (by omega)];have g1:=Int.emod_nonneg (st+1) (by omega:every≠0);have g2:=Int.emod_lt_of_pos (st+1) q1;omega
       have hwr:IntKind.i64.wrap rm=rm:=jv hrb.1 hrb.2;have ene:(every==0)=false:=by rw[beq_eq_false_iff_ne];omega
       have ene2:¬every=0:=by omega
       by_cases q2:rm=0
       ·have d2:(rm==0)=true:=by rw[q2];rfl
        go_wp2_with fail;go_meet;exact⟨by rw[hrm,zqr (zqf q1 q2)],rfl⟩
       ·have d2:(rm==0)=false:=by rw[beq_eq_false_iff_ne];exact q2
        go_wp2_with fail;go_meet;exact⟨by rw[hrm,zqq (fun q=>q2 q.2)],rfl⟩
      ·have d1:decide (0<every)=false:=zqq q1
       go_wp2_with fail;go_meet;exact⟨by rw[zqq (by omega)],rfl⟩
     case rest=>
      obtain⟨rfl,hwx⟩:=hcut;subst hwx;obtain⟨M2,hM2⟩:∃M2,({M1 with steps:=st+1}:RM)=M2:=⟨_,rfl⟩;have hs2:=HSU.out.1.steps (st+1);have hu2:=HSU.out.2.steps (st+1);rw[hM2] at hs2 hu2;have HM2:=hid hM2;have HS2:=hid (zqf hs2 hu2);have H2:=hid (HS1.out.other (N:=M2));have HCO:=hid (H2.out.collect HO.out hs2);clear hM2 hs2 hu2 r1;go_upto_if 59 with fail;go_cut [59] from 31 to 101 (fun _ wx=>∃C2 D2 f2 A2,RSt O w g b r9 w.heap.size M2 C2 0 (st+1) wx/\Sim M2 C2 D2 f2 A2)
      case first=>
       by_cases hE:0<every/\(st+1).tmod every=0
       ·rw[zqr hE]
        go_wp2_with fail;refine HCO.out.mono ?_;rintro e w5 ⟨⟨v,rfl⟩,hc5⟩;have HC5:=hid hc5;clear hc5;go_wp2_with fail;go_meet;exact HC5.out
       ·rw[zqq hE]
        go_wp2_with fail;go_meet;exact⟨_,_,_,_,H2.out,HS2.out.1⟩
      case rest=>
       obtain⟨C2,D2,f2,A2,h2,s2⟩:=hcut;have hl2:0<M2.frs.length:=by rw[<-HM2.out];exact HW1.out.fr
       have hst2:M2.steps=st+1/\M2.budget=bu:=by rw[<-HM2.out];exact⟨rfl,hb1⟩
       have HST2:=hid hst2;have HFI:=hid (show∃C,jaB M1 C from⟨_,_,_,_,_,HSU.out.1,HSU.out.2⟩);clear hst2;cases hi:jbr M2 with
       |none=>
        have HSR:=hid (show Zr {M1 with steps:=M1.steps+1}=(M2,7) from by rw[HST.out,HM2.out];exact jlV hi);have HRL:=hid (show Rel (C2,7) (M2,7) from .stop s2 HS2.out.2 (by decide) rfl rfl);have HFN:=hid (h2.fetchN s2 hl2 hi);clear h2 s2 hl2 hi;go_wp2_with fail;refine HFN.out.mono ?_;rintro e w5 ⟨rfl,h5⟩;have hb6:=jq w5 (.cells #[.int .i64 0,.int .i64 0,.int .i64 0,.int .i64 0,.int .i64 0] 41);have h6:=h5.below hb6;obtain⟨X6,hX6⟩:∃X6,w5.alloc (.cells #[.int .i64 0,.int .i64 0,.int .i64 0,.int .i64 0,.int .i64 0] 41)=X6:=⟨_,rfl⟩;rw[hX6] at h6;have HX6:=hid hX6;have H6:=hid h6;clear hb6 hX6 h5 h6;go_upto_region 17 with fail;rw[HX6.out];have r0:=H6.out.c0;have z0:=jF H6.out.rc 0;have h7:=H6.out.kind HNE.out HR9.out 7;have HEN:=hid h7.ends;clear h7;go_wp2_with fail;refine HEN.out.mono ?_;rintro e w9 ⟨⟨v9,rfl⟩,h9⟩;have p0:=h9.c0;have p1:=h9.c1;have t0:w9.cell? ⟨w.heap.size,0,none⟩=some (.int .i64 0):=jb h9.tc 0;have t1:w9.cell? ⟨w.heap.size,1,none⟩=some (.int .i64 0):=jb h9.tc 1;have v0:=jF h9.tc 0;have v1:=jF h9.tc 1;have hn9:r9≠w.heap.size:=HNE.out;have hn8:w.heap.size≠r9:=fun e=>HNE.out e.symm;have HOUT:=hid (h9.out HT8.out (.int .i64 7) (.int .i64 (st+1)));clear h9;go_wp2_with fail;rw[Exit.noGoto_ret];refine bodyPost_ret (v:=.agg #[.int .i64 7,.int .i64 (st+1)]) (by simp[results,Tryz.results19,go_sem,t0,t1]) rfl ?_;obtain⟨⟨R',vf',vs',vh',ho1⟩,ho2⟩:=HOUT.out;obtain⟨k1,k2,k3⟩:=HW1.out.ends (c:=(C2,7)) (by rw[HST.out];exact HA.out) (by rw[HST.out,hb1];have:=HB2.out;omega) HSR.out (show(7:Int)≠0 by decide) HRL.out HFI.out;exact⟨M2,7,k1,by rw[HST2.out.1],⟨_,R',vf',vs',vh',ho1,k2⟩,ho2,k3⟩
       |some x=>
        obtain⟨io,ia,ib,ic,inn⟩:=x;have HSR:=hid (show Zr {M1 with steps:=M1.steps+1}=doR (zM M2) (io,ia,ib,ic,inn) from by rw[HST.out,HM2.out];exact jlW hi);have HFS:=hid (show Calls prog 53 #[.pointer (some ⟨g,0,none⟩)] _ (fun e w'=>e=.returned (.tuple #[.agg #[.int .i64 io,.int .i64 ia,.int .i64 ib,.int .i64 ic,.int .i64 inn],.bool true])/\∃C2,RSt O w g b r9 w.heap.size M2 C2 0 (st+1) w'/\Nx (fun i=>O i/\i≠r9/\i≠w.heap.size) w' g b M2 E1 (io,ia,ib,ic,inn) C2) from h2.fetchS HO.out HG.out s2 HS2.out.2 hl2 hi);obtain⟨rr,hrr⟩:∃rr,doR (zM M2) (io,ia,ib,ic,inn)=rr:=⟨_,rfl⟩;rw[hrr] at HSR;have HRR:=hid hrr;clear h2 s2 hl2 hi hrr;go_wp2_with fail;refine HFS.out.mono ?_;rintro e w5 ⟨rfl,C5,h5,nx5⟩;have hb6:=jq w5 (.cells #[.int .i64 io,.int .i64 ia,.int .i64 ib,.int .i64 ic,.int .i64 inn] 41);have hn6:=zqe w5 (.cells #[.int .i64 io,.int .i64 ia,.int .i64 ib,.int .i64 ic,.int .i64 inn] 41);have h6:=h5.below hb6;have nx6:=nx5.below hb6;obtain⟨X6,hX6⟩:∃X6,w5.alloc (.cells #[.int .i64 io,.int .i64 ia,.int .i64 ib,.int .i64 ic,.int .i64 inn] 41)=X6:=⟨_,rfl⟩;obtain⟨t6,ht6⟩:∃t6,w5.heap.size=t6:=⟨_,rfl⟩;rw[hX6] at h6 nx6 hn6;rw[ht6] at hn6;have HX6:=hid (zqf hX6 ht6);have H6:=hid (zqf h6 nx6);have HN6:=hid hn6;clear hb6 hn6 hX6 ht6 h5 nx5 h6 nx6;go_upto_region 18 with fail;rw[HX6.out.1,HX6.out.2];have j0:X6.cell? ⟨t6,0,none⟩=some (.int .i64 io):=jb HN6.out 0;have j1:X6.cell? ⟨t6,1,none⟩=some (.int .i64 ia):=jb HN6.out 1;have j2:X6.cell? ⟨t6,2,none⟩=some (.int .i64 ib):=jb HN6.out 2;have j3:X6.cell? ⟨t6,3,none⟩=some (.int .i64 ic):=jb HN6.out 3;have j4:X6.cell? ⟨t6,4,none⟩=some (.int .i64 inn):=jb HN6.out 4;have r1:=H6.out.1.c1;by_cases h15:io=15
        ·subst h15
         have w1:IntKind.i64.wrap (bu-(st+1))=bu-(st+1):=jv (by omega) (by omega);have w2:IntKind.i64.wrap (bu-(st+1)+1)=bu-(st+1)+1:=jv (by omega) (by omega);have hsm:=H6.out.1.sameS HO.out H6.out.2 rfl (by rw[HST2.out.1,HST2.out.2];have:=HB2.out;omega) (by rw[HST2.out.1,HST2.out.2];omega);have hsl:=jj2 (M:=zM M2) (show M2.steps<=M2.budget from by rw[HST2.out.1,HST2.out.2];have:=HB2.out;omega) (15,ia,ib,ic,inn);rw[HRR.out] at hsm hsl;rw[HST2.out.1,HST2.out.2] at hsm;obtain⟨mo,hmo⟩:∃mo,rr.1.steps-(st+1)=mo:=⟨_,rfl⟩;rw[hmo] at hsm;have HSM:=hid (show Calls prog 54 #[.pointer (some ⟨g,0,none⟩),.agg #[.int .i64 15,.int .i64 ia,.int .i64 ib,.int .i64 ic,.int .i64 inn],.int .i64 (bu-(st+1)+1)] X6 (fun e w'=>∃c:CM×Int,e=.returned (.tuple #[.int .i64 c.2,.int .i64 mo])/\RSt O w g b r9 w.heap.size M2 c.1 0 (st+1) w'/\Rel c rr) from hsm);have hlo:=hsl.lo;have hhi:=hsl.hi (show M2.steps<=M2.budget from by rw[HST2.out.1,HST2.out.2];have:=HB2.out;omega);rw[show(zM M2).steps=st+1 from HST2.out.1] at hlo;rw[show(zM M2).budget=bu from HST2.out.2] at hhi;have w3:IntKind.i64.wrap (st+1+mo)=st+1+mo:=jv (by omega) (by omega);have HMO:=hid (show rr.1.steps=st+1+mo from by omega);clear hsm hmo hsl hlo hhi;go_wp2_with fail;refine HSM.out.mono ?_;rintro e w7 ⟨c,rfl,h7,hr7⟩;obtain⟨kk,hkk⟩:∃kk,c.2=kk:=⟨_,rfl⟩;rw[hkk];have q0:=h7.c0;have q1:=h7.c1;have y0:=jF h7.rc 0;have y1:=jF h7.rc 1;have h8:=(h7.steps HNE.out HR9.out (st+1+mo)).kind HNE.out HR9.out kk;have H8:=hid h8;have HR7:=hid hr7;have HKK:=hid hkk;clear h7 h8 hr7 hkk;by_cases hk0:kk=0
         ·subst hk0
          obtain⟨hn1,hn2⟩:=HW1.out.next (c:=c) (by rw[HST.out];exact HA.out) (by rw[HST.out,hb1];have:=HB2.out;omega) HSR.out (HR7.out.1.symm.trans HKK.out) HR7.out (by rw[HMO.out];exact H8.out.other) HFI.out;rw[HST.out,HMO.out] at hn2;have hc1:=H8.out.c1;have HN:=hid hn1;have HME:=hid (show(bu+1).toNat-(st+1+mo).toNat<(bu+1).toNat-st.toNat from by have:=HB2.out;omega);clear hn1 hn2;go_wp2_with fail;go_roundw
          case rel=>exact⟨rr.1,n,HN.out⟩
          case measure=>
           show(bu+1).toNat-(intOf ((_:Option Value).getD undef)).toNat<(bu+1).toNat-(intOf ((_:Option Value).getD undef)).toNat
           rw[hc1,R1H.out];exact HME.out
         ·have ek:(kk !=0)=true:=by simp only[bne,beq_eq_false_iff_ne.2 hk0];rfl
          have h7:=H8.out;have HEN:=hid h7.ends;clear h7;go_wp2_with fail;refine HEN.out.mono ?_;rintro e w9 ⟨⟨v9,rfl⟩,h9⟩;have p0:=h9.c0;have p1:=h9.c1;have t0:w9.cell? ⟨w.heap.size,0,none⟩=some (.int .i64 0):=jb h9.tc 0;have t1:w9.cell? ⟨w.heap.size,1,none⟩=some (.int .i64 0):=jb h9.tc 1;have v0:=jF h9.tc 0;have v1:=jF h9.tc 1;have hn9:r9≠w.heap.size:=HNE.out;have hn8:w.heap.size≠r9:=fun e=>HNE.out e.symm;have HOUT:=hid (h9.out HT8.out (.int .i64 kk) (.int .i64 (st+1+mo)));clear h9;go_wp2_with fail;rw[Exit.noGoto_ret];refine bodyPost_ret (v:=.agg #[.int .i64 kk,.int .i64 (st+1+mo)]) (by simp[results,Tryz.results19,go_sem,t0,t1]) rfl ?_;obtain⟨⟨R',vf',vs',vh',ho1⟩,ho2⟩:=HOUT.out;obtain⟨k1,k2,k3⟩:=HW1.out.ends (c:=c) (by rw[HST.out];exact HA.out) (by rw[HST.out,hb1];have:=HB2.out;omega) HSR.out (by rw[<-HR7.out.1,HKK.out];exact hk0) HR7.out HFI.out;exact⟨rr.1,kk,by rw[k1,<-HKK.out,HR7.out.1],by rw[HMO.out],⟨_,R',vf',vs',vh',ho1,k2⟩,ho2,k3⟩
        ·have e15:(io==15)=false:=beq_eq_false_iff_ne.2 h15
         have hdo:=H6.out.1.doS HO.out HG.out H6.out.2 h15;rw[HRR.out] at hdo
         have HDO:=hid (show Calls prog 55 #[.pointer (some ⟨g,0,none⟩),.agg #[.int .i64 io,.int .i64 ia,.int .i64 ib,.int .i64 ic,.int .i64 inn]] X6 (fun e w'=>∃c:CM×Int,e=.returned (.int .i64 c.2)/\RSt O w g b r9 w.heap.size M2 c.1 0 (st+1) w'/\Rel c rr) from hdo);have hks:=(jjH (M:=zM M2) io ia ib ic inn).st;have hrs:doR (zM M2) (io,ia,ib,ic,inn)=opR (zM M2) io ia ib ic inn:=if_neg h15;rw[<-hrs,HRR.out] at hks;rw[show(zM M2).steps=st+1 from HST2.out.1] at hks;have HMO:=hid hks;clear hdo hks hrs;go_wp2_with fail;refine HDO.out.mono ?_;rintro e w7 ⟨c,rfl,h7,hr7⟩;obtain⟨kk,hkk⟩:∃kk,c.2=kk:=⟨_,rfl⟩;rw[hkk];have q0:=h7.c0;have y0:=jF h7.rc 0;have H8:=hid (h7.kind HNE.out HR9.out kk);have HR7:=hid hr7;have HKK:=hid hkk;clear h7 hr7 hkk;by_cases hk0:kk=0
         ·subst hk0
          obtain⟨hn1,hn2⟩:=HW1.out.next (c:=c) (by rw[HST.out];exact HA.out) (by rw[HST.out,hb1];have:=HB2.out;omega) HSR.out (HR7.out.1.symm.trans HKK.out) HR7.out (by rw[HMO.out];exact H8.out.other) HFI.out;rw[HST.out,HMO.out] at hn2;have hc1:=H8.out.c1;have HN:=hid hn1;have HME:=hid (show(bu+1).toNat-(st+1).toNat<(bu+1).toNat-st.toNat from by have:=HB2.out;omega);clear hn1 hn2;go_wp2_with fail;go_roundw
          case rel=>exact⟨rr.1,n,HN.out⟩
          case measure=>
           show(bu+1).toNat-(intOf ((_:Option Value).getD undef)).toNat<(bu+1).toNat-(intOf ((_:Option Value).getD undef)).toNat
           rw[hc1,R1H.out];exact HME.out
         ·have ek:(kk !=0)=true:=by simp only[bne,beq_eq_false_iff_ne.2 hk0];rfl
          have h7:=H8.out;have HEN:=hid h7.ends;clear h7;go_wp2_with fail;refine HEN.out.mono ?_;rintro e w9 ⟨⟨v9,rfl⟩,h9⟩;have p0:=h9.c0;have p1:=h9.c1;have t0:w9.cell? ⟨w.heap.size,0,none⟩=some (.int .i64 0):=jb h9.tc 0;have t1:w9.cell? ⟨w.heap.size,1,none⟩=some (.int .i64 0):=jb h9.tc 1;have v0:=jF h9.tc 0;have v1:=jF h9.tc 1;have hn9:r9≠w.heap.size:=HNE.out;have hn8:w.heap.size≠r9:=fun e=>HNE.out e.symm;have HOUT:=hid (h9.out HT8.out (.int .i64 kk) (.int .i64 (st+1)));clear h9;go_wp2_with fail;rw[Exit.noGoto_ret];refine bodyPost_ret (v:=.agg #[.int .i64 kk,.int .i64 (st+1)]) (by simp[results,Tryz.results19,go_sem,t0,t1]) rfl ?_;obtain⟨⟨R',vf',vs',vh',ho1⟩,ho2⟩:=HOUT.out;obtain⟨k1,k2,k3⟩:=HW1.out.ends (c:=c) (by rw[HST.out];exact HA.out) (by rw[HST.out,hb1];have:=HB2.out;omega) HSR.out (by rw[<-HR7.out.1,HKK.out];exact hk0) HR7.out HFI.out;exact⟨rr.1,kk,by rw[k1,<-HKK.out,HR7.out.1],by rw[HMO.out],⟨_,R',vf',vs',vh',ho1,k2⟩,ho2,k3⟩
end
section
variable {W S:Nat} {l:List jn}
theorem jsj (h:(Z9 (jZ W S) l).2=0):zu l=0/\(Z9 (jZ W S) l).1=zo (jZ W S) l:=by
 by_cases hE:zu l=0
 ·have e:=jbh W S (jg l)
  cases hr:(jz {jZ W S with entry:=.I 0,value:=.I 0} ((jg l:Nat):Int)).2 with
  |false=>rw[jb6 hE hr] at h;cases h
  |true=>
   rw[jaN hE hr];exact⟨hE,congrArg (fun z=>zo z l) (congrArg Prod.fst e)⟩
 ·rw[jbH hE] at h
  exact absurd h hE
theorem jhV (h:zu l=0):∃o,(zo (jZ W S) l).objs[0]?=some o/\o.k=5:=by
 obtain⟨h1,_,_⟩:=jap h;cases l with
 |nil=>exact absurd h1 (by decide)
 |cons c r=>exact⟨_,rfl,rfl⟩
theorem jfs:jfc (zo (jZ W S) l):=⟨rfl,rfl,fun _ _=>rfl⟩
end
def qZ (F:List Nat):RWd->List Nat
 | .I n=>[1,(n%18446744073709551616).toNat]
 | .P k=>[2,F.idxOf k]
def Z4 (o:RObj):List Nat:=if o.k=4 then(zp o.tx.data.toList).ws else o.ins.map JF
def jcc (F:List Nat) (o:RObj):List Nat:=[o.k,o.ws.length+(Z4 o).length]++(o.ws.flatMap (qZ F)++Z4 o)
def Ji (os:List RObj) (k:Nat):RObj:=(os[k]?).getD ⟨0,[],⟨#[]⟩,[]⟩
def zP (M:RM):List RWd:=M.value::(List.range 1024).map M.gl
def z8 (M:RM):List Nat:=Jk M.objs (zP M)
def grR (M:RM):List Nat:=(zP M).flatMap (qZ (z8 M))++(z8 M).flatMap fun k=>jcc (z8 M) (Ji M.objs k)
theorem jeZ {o:RObj} (h:ObjR o) (A:Nat->Nat):(jA A o).k=o.k/\(jA A o).t=o.ws.length/\(jA A o).ws=o.ws.map (jw A)++Z4 o:=by
 unfold jA Z4;by_cases e:o.k=4
 ·have hw:o.ws=[]:=by rcases h.kd with q|q|q<;>first|exact q.2.1|omega
  simp only[if_pos e,hw];exact⟨e.symm,rfl,rfl⟩
 ·simp only[if_neg e]
  exact⟨trivial,trivial,trivial⟩
def shN (x:Nat):Nat:=if x<9223372036854775808 then x/2 else x/2+9223372036854775808
def wordN (x:Nat) (xs:List Nat):List Nat×List Nat:=if x%2=1 then([1,shN x],xs) else if x∈xs then([2,xs.idxOf x],xs) else([2,xs.length],xs++[x])
theorem jjF {A:Nat->Nat} {k:Nat}:∀(l:List Nat),(∀j∈l,A j=A k->j=k)->(l.map A).idxOf (A k)=l.idxOf k
 |[],_=>rfl
 |j::l,h=>by
  have e:(A j==A k)=(j==k):=by
   by_cases e:j=k
   ·rw[e,beq_self_eq_true,beq_self_eq_true]
   ·rw[beq_eq_false_iff_ne.2 e,beq_eq_false_iff_ne.2 fun q=>e (h j (by simp) q)]
  rw[List.map_cons,List.idxOf_cons,List.idxOf_cons,jjF l (fun i hi=>h i (List.mem_cons_of_mem _ hi)),e]
theorem jek {D:Nat->Prop} {A:Nat->Nat} (hA:∀i j,D i->D j->A i=A j->i=j) (he:∀i,D i->A i%2≠1) {v:RWd} (hv:Wr v) (hd:∀k,v=.P k->D k) {ord:List Nat} (ho:∀k∈ord,D k):
  wordN (jw A v) (ord.map A)=(qZ (Jq ord v) v,(Jq ord v).map A):=by
 unfold wordN;cases v with
 |I n=>
  rw[if_pos (Zl A n)];have h1: -4611686018427387904<=n:=hv.1;have h2:n<=4611686018427387903:=hv.2;have e:shN (jw A (.I n))=(n%18446744073709551616).toNat:=by
   show shN (jO n).toNat=_;unfold shN jO;split<;>omega
  rw[e];rfl
 |P k=>
  have hk:=hd k rfl;rw[if_neg (show¬jw A (.P k)%2=1 from he k hk),jax];have hin:A k∈ord.map A↔k∈ord:=⟨fun q=>by
   obtain⟨j,hj,e⟩:=List.mem_map.1 q;rw[<-hA j k (ho j hj) hk e];exact hj,fun q=>List.mem_map_of_mem q⟩
  have ix:=jjF (A:=A) (k:=k) ord (fun j hj e=>hA j k (ho j hj) hk e);by_cases q:k∈ord
  ·rw[if_pos (show jw A (.P k)∈ord.map A from hin.2 q),if_pos q]
   show([2,(ord.map A).idxOf (A k)],_)=([2,ord.idxOf k],_);rw[ix]
  ·rw[if_neg (show¬jw A (.P k)∈ord.map A from fun z=>q (hin.1 z)),if_neg q]
   show([2,(ord.map A).length],ord.map A++[A k])=([2,(ord++[k]).idxOf k],(ord++[k]).map A);rw[List.length_map,List.map_append,List.idxOf_append,if_neg q];simp
theorem jgj (ord:List Nat) (v:RWd):ord<+:Jq ord v:=by
 cases v with
 |I n=>exact List.prefix_refl _
 |P k=>
  rw[jax];split
  ·exact List.prefix_refl _
  ·exact List.prefix_append _ _
theorem J6:∀(ws:List RWd) (ord:List Nat),ord<+:jB ord ws
 |[],_=>List.prefix_refl _
 |v::ws,ord=>(jgj ord v).trans (J6 ws (Jq ord v))
theorem jdP (os:List RObj):∀(n i:Nat) (out:List Nat),out<+:qU os n i out
 |0,_,_=>List.prefix_refl _
 |n+1,i,out=>by
  unfold qU;cases out[i]? with
  |none=>exact List.prefix_refl _
  |some k=>exact(J6 _ _).trans (jdP os n (i+1) _)
theorem jdB (ord:List Nat) (ws:List RWd) (v:RWd):jB ord (ws++[v])=Jq (jB ord ws) v:=by
 unfold jB;rw[List.foldl_append];rfl
theorem jej {ord F:List Nat} {v:RWd} (h:Jq ord v<+:F):qZ (Jq ord v) v=qZ F v:=by
 cases v with
 |I n=>rfl
 |P k=>
  obtain⟨r,rfl⟩:=h;have hk:k∈Jq ord (.P k):=by
   rw[jax];split
   ·assumption
   ·simp
  show[2,_]=[2,_];rw[List.idxOf_append,if_pos hk]
theorem jgy (F:List Nat) (ws:List RWd) (v:RWd):(ws++[v]).flatMap (qZ F)=ws.flatMap (qZ F)++qZ F v:=by simp
theorem jre (F:List Nat) (v:RWd):(qZ F v).length=2:=by cases v<;>rfl
theorem jcn (F:List Nat) (ws:List RWd):(ws.flatMap (qZ F)).length=2*ws.length:=by
 induction ws with
 |nil=>rfl
 |cons v r ih=>rw[List.flatMap_cons,zqm,ih,jre,List.length_cons];omega
