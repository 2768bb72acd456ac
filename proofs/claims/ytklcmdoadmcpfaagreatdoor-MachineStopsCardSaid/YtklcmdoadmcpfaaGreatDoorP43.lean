/- A part of the proof of MachineStops: pruned, joined and printed small by a script. Conditions: those that each theorem names. -/
import Derived.Test.YtklcmdoadmcpfaaGreatDoorP00
import Derived.Test.YtklcmdoadmcpfaaGreatDoorP42
import Derived.Deep.CutRange
import Derived.Deep.CutBlock
import Derived.Test.YtklcmdoadmcpfaaGreatDoorP21
set_option maxRecDepth 100000
set_option maxHeartbeats 400000000
namespace Go.Proofs.YtklcmdoadmcpfaaGreatDoor
open Go Go.RowKit IsaL
open Go.Lib(hid)
open Go.Proofs.Tryz(prog)
section
variable {O:Nat->Prop} {w X:World} {g b:Nat} {C:CM} {R:Nat->Value} {vf vs vh:Value} {M:RM} {D:Nat->Prop} {f A:Nat->Nat} {E:List Nat}
def Ran (O:Nat->Prop) (w:World) (g b:Nat) (stop:Int) (n0:Nat) (M0:RM) (e:Ending) (w':World):Prop:=∃N kd,zJ stop n0 M0=(N,kd)/\e=.returned (.agg #[.int .i64 kd,.int .i64 N.steps])/\(∃C' R vf vs vh,McAt O w' g C' b R vf vs vh/\Fine (JZ N) C')/\Fr O w w'/\TrR stop n0 M0
structure Way (O:Nat->Prop) (w:World) (g b r9 t8:Nat) (stop bu:Int) (n0:Nat) (M0 M:RM) (n:Nat) (W:World):Prop where
 rs:∃C D f A E,RSt O w g b r9 t8 M C 0 M.steps W/\Sim M C D f A/\Usd M E
 go:zJ stop n M=zJ stop n0 M0
 tr:TrR stop n M->TrR stop n0 M0
 b1:M.budget=bu
 s0:0<=M.steps
 s1:M.steps<=bu
 nn:bu+1<=n+M.steps
 fr:0<M.frs.length
section
variable {r9 t8 n n0:Nat} {stop bu:Int} {M0 M1:RM} {W0 W:World} {r:RM×Int} {c:CM×Int}
theorem goR_step (hA:¬(0<stop/\stop<=M1.steps)) (hB:¬M1.budget<=M1.steps) (hs:j5 {M1 with steps:=M1.steps+1}=r):zJ stop (n+1) M1=if r.2=0 then zJ stop n r.1 else r:=by
 obtain⟨N,k⟩:=r;show(if 0<stop/\stop<=M1.steps then(M1,(4:Int)) else if M1.budget<=M1.steps then(M1,3) else match j5 {M1 with steps:=M1.steps+1} with
  |(N,k)=>if k=0 then zJ stop n N else(N,k))=_
 rw[if_neg hA,if_neg hB,hs]
section
variable (h:Way O w g b r9 t8 stop bu n0 M0 M1 (n+1) W0) (hA:¬(0<stop/\stop<=M1.steps)) (hB:¬M1.budget<=M1.steps) (hs:j5 {M1 with steps:=M1.steps+1}=r)
include h hA hB hs
theorem Way.next (h0:r.2=0) (hr:Rel c r) (hrs:RSt O w g b r9 t8 r.1 c.1 0 r.1.steps W) (hf:∃C,Fine M1 C):Way O w g b r9 t8 stop bu n0 M0 r.1 n W/\M1.steps<r.1.steps:=by
 have hst:=step_step (M:={M1 with steps:=M1.steps+1}) (by show M1.steps+1<=M1.budget;omega);rw[hs] at hst;have hlo:M1.steps+1<=r.1.steps:=hst.lo;have hhi:r.1.steps<=M1.budget:=hst.hi (by show M1.steps+1<=M1.budget;omega);have hb:=h.b1;have hs0:=h.s0;have hnn:=h.nn;obtain⟨D',f',A',E',s',u'⟩:=hr.2.1 h0;refine⟨⟨⟨c.1,D',f',A',E',hrs,s',u'⟩,?_,fun t=>h.tr (.inr (.inr ⟨hf,h.fr,fun _=>by rw[hs];exact t⟩)),hst.bu.trans hb,by omega,by omega,by omega,hst.fr h.fr h0⟩,by omega⟩;rw[<-h.go,goR_step hA hB hs,if_pos h0]
theorem Way.ends (h0:r.2≠0) (hr:Rel c r) (hf:∃C,Fine M1 C):zJ stop n0 M0=r/\Fine (JZ r.1) (Qf c.1)/\TrR stop n0 M0:=
 ⟨by rw[<-h.go,goR_step hA hB hs,if_neg h0],hr.2.2 h0,h.tr (.inr (.inr ⟨hf,h.fr,fun q=>absurd (by rw[hs] at q;exact q) h0⟩))⟩
end
end
theorem run_main (a:McAt O w g C b R vf vs vh) (s:Sim M C D f A) (u:Usd M E) (id:Idle M) (hO:∀i,w.heap.size<=i->O i) (hG:∀Y,Fr O w Y->NumL.Tab Y/\ZK Y) (hS:3<=M.stack) {i:Nat} {o:RObj} (he:M.entry=.P i) (ho:M.objs[i]?=some o) (hk:o.k=5) (budget stop every:Int) {bu:Int} (hbu:min (max budget 0) 1099511627776=bu) (hb:bu<=190000) (ev0: -9223372036854775808<=every) (ev1:every<=9223372036854775807):
  Calls prog 19 #[.pointer (some ⟨g,0,none⟩),.int .i64 budget,.int .i64 stop,.int .i64 every] w fun e w'=>Ran O w g b stop (bu.toNat+1) (JH M budget) e w':=by
 have sB:=s.begin id hS he ho hk budget;have uB:=u.begin budget;have hi:D i:=s.rt i (by rw[<-he];exact ja.2 (.inr (.inr (.inr (.inl rfl)))));obtain⟨o',q1,_,q3⟩:=s.obj hi;rw[ho] at q1;obtain rfl:=zqd q1;have ec:C.cd=A i:=by rw[s.cd,he];rfl
 rw[<-ec] at q3;obtain⟨X,hX⟩:∃X,w.alloc (.cells #[.int .i64 0,.int .i64 0] 43)=X:=⟨_,rfl⟩;have hbX:=jq w (.cells #[.int .i64 0,.int .i64 0] 43);have hnX:=zqe w (.cells #[.int .i64 0,.int .i64 0] 43);rw[hX] at hbX hnX;have HX:=hid hX;have a0:=a.off (zqg w.heap.size);have aX:=a0.below hbX;have hsX:X.heap.size=w.heap.size+1:=by rw[<-hX];exact World.size_alloc ..
 have HNO:=hid (none_mc aX.bx (mF_0 ..));obtain⟨cw,hcw⟩:∃cw,C.cd=cw:=⟨_,rfl⟩;have c43:=aX.ccd;rw[hcw] at c43;have hip:jf (cw:Int)=true:=by rw[<-hcw,ec];exact s.ptr hi
 have hcl:cw<18446744073709551616:=hcw▸s.ok.cd;have HIP:=hid (fun Y=>show Calls prog 51 #[.int .u64 (cw:Int)] Y (fun e w'=>e=.returned (.bool true)/\Y=w') from(QS (cw:Int) Y (by omega) (by omega)).mono fun e w' ⟨h1,h2⟩=>⟨by rw[h1,hip],h2⟩);have HBG:=hid (begin_c (O:=fun i=>O i/\i≠w.heap.size) aX s.ok (fun i hi=>⟨hO i (by omega),by omega⟩) q3);have hbu0:0<=bu:=by omega
 have hm0:(JH M budget).budget=bu:=hbu;have HS:=hid (zqf sB uB);have HB:=hid (zqf hbX hnX);have HO:=hid hO;have HG:=hid hG;have HM0:=hid hm0;obtain⟨M0,hM0⟩:∃M0,JH M budget=M0:=⟨_,rfl⟩;have hM1:M0.steps=0/\0<M0.frs.length:=by rw[<-hM0];exact⟨rfl,Nat.zero_lt_one⟩
 have HM1:=hid hM1;rw[hM0] at HS HM0;rw[hM0];obtain⟨CB,hCB⟩:∃CB,Qg {C with va:=1} C.cd (jC A o)=CB:=⟨_,rfl⟩;rw[hCB] at HS HBG;clear hM0 hM1 hm0 a s u id hO hG hX hbX hnX a0 aX sB uB hi q3 ec hcw hip hcl hCB ho he hk hS;go_enter Tryz.func19,Tryz.ntmps19;go_wp2_with fail;rw[HX.out];go_step3;go_wp2_with fail;refine HNO.out.mono ?_;rintro e w' ⟨rfl,hw'⟩;subst w';go_wp2_with (go_at_call 51;refine(HIP.out _).mono ?_;rintro e w' ⟨rfl,hw'⟩;subst w');refine HBG.out.mono ?_;rintro e w3 ⟨⟨v,rfl⟩,⟨vf3,a3⟩,hf3⟩;have hb4:=jq w3 (.cells #[.int .i64 0,.int .i64 0] 43);have hn4:=zqe w3 (.cells #[.int .i64 0,.int .i64 0] 43);have a4:=(a3.off (zqg w3.heap.size)).below hb4;obtain⟨X4,hX4⟩:∃X4,w3.alloc (.cells #[.int .i64 0,.int .i64 0] 43)=X4:=⟨_,rfl⟩;obtain⟨r9,hr9⟩:∃r9,w3.heap.size=r9:=⟨_,rfl⟩;have hs3:=hf3.size;have hlt:w.heap.size<r9:=by omega
 have hrc:w3.heap[w.heap.size]?=some (.cells #[.int .i64 0,.int .i64 0] 43 (0,0)):=(hf3.block w.heap.size (by omega) (fun q=>q.2 rfl)).trans HB.out.2;have htc:=(hb4.block w.heap.size (by omega)).trans hrc;have hfr:Fr O w w3:=(Fr.of_below HB.out.1).trans hf3 (fun i hi=>.inl hi.1);have hfr4:=hfr.trans (Fr.of_below (O:=O) hb4) (fun i hi=>.inl hi);rw[hX4] at hb4 hn4 a4 htc hfr4;rw[hr9] at hn4 a4;have hne:r9≠w.heap.size:=by omega
 have HNE:=hid hne;have HR9:=hid (HO.out r9 (by omega));have HT8:=hid (HO.out w.heap.size (zqg _));have HWY:=hid (show Way O w g b r9 w.heap.size stop bu (bu.toNat+1) M0 M0 (bu.toNat+1) X4 from⟨⟨CB,D,f,A,E,⟨⟨_,_,_,_,a4.wide fun i q=>⟨q.1.1,q.2,q.1.2⟩⟩,by rw[HM1.out.1];exact hn4,htc,hfr4⟩,HS.out.1,HS.out.2⟩,rfl,_root_.id,HM0.out,by rw[HM1.out.1];exact Int.le_refl _,by rw[HM1.out.1];exact hbu0,by rw[HM1.out.1];omega,HM1.out.2⟩);have HX4:=hid (zqf hX4 hr9);clear a3 hf3 hb4 hn4 a4 hX4 hr9 hrc htc hfr hfr4 hs3 hne;go_wp2_with fail;go_step3;go_wp2_with fail;rw[HX4.out.1,HX4.out.2];go_loopw [31] (fun _ wr=>∃(M1:RM) (n:Nat),Way O w g b r9 w.heap.size stop bu (bu.toNat+1) M0 M1 n wr) (fun _ wr=>(bu+1).toNat-(intOf ((wr.cell? ⟨r9,1,none⟩).getD undef)).toNat)
 case atStart=>exact⟨M0,_,HWY.out⟩
 case round=>
  obtain⟨M1,n1,hw1⟩:=hrel;obtain⟨C1,D1,f1,A1,E1,h1,s1,u1⟩:=hw1.rs;obtain⟨n,rfl⟩:∃n,n1=n+1:=⟨n1-1,by have:=hw1.nn;have:=hw1.s1;omega⟩;have hb1:=hw1.b1;obtain⟨st,hst⟩:∃st,M1.steps=st:=⟨_,rfl⟩;have st0:0<=st:=hst▸hw1.s0;have st1:st<=bu:=hst▸hw1.s1;rw[hst] at h1;have r0:=h1.c0;have r1:=h1.c1;have R1H:=hid r1;have z0:=jE h1.rc 0;have z1:=jE h1.rc 1;have HW1:=hid hw1;have HST:=hid hst;have HSU:=hid (zqf s1 u1);have H1:=hid h1;clear hw1 hst s1 u1 h1;go_upto_region 6 with fail;go_cut [31] from 31 to 101 (fun c wx=>c=.bool (decide (0<stop/\stop<=st))/\wx=wr)
  case first=>
   by_cases q1:0<stop
   ·have d1:decide (0<stop)=true:=decide_eq_true q1
    by_cases q2:stop<=st
    ·have d2:decide (stop<=st)=true:=decide_eq_true q2
     go_wp2_with fail;go_meet;exact⟨by rw[decide_eq_true (zqf q1 q2)],rfl⟩
    ·have d2:decide (stop<=st)=false:=decide_eq_false q2
     go_wp2_with fail;go_meet;exact⟨by rw[decide_eq_false (by omega)],rfl⟩
   ·have d1:decide (0<stop)=false:=decide_eq_false q1
    go_wp2_with fail;go_meet;exact⟨by rw[decide_eq_false (by omega)],rfl⟩
  case rest=>
   obtain⟨rfl,hwx⟩:=hcut;subst hwx;by_cases hA:0<stop/\stop<=st
   ·rw[decide_eq_true hA]
    have h7:=H1.out.kind HNE.out HR9.out 4;have HEN:=hid h7.ends;clear h7;go_wp2_with fail;refine HEN.out.mono ?_;rintro e w9 ⟨⟨v9,rfl⟩,h9⟩;have p0:=h9.c0;have p1:=h9.c1;have t0:w9.cell? ⟨w.heap.size,0,none⟩=some (.int .i64 0):=jb h9.tc 0;have t1:w9.cell? ⟨w.heap.size,1,none⟩=some (.int .i64 0):=jb h9.tc 1;have v0:=jE h9.tc 0;have v1:=jE h9.tc 1;have hn9:r9≠w.heap.size:=HNE.out;have hn8:w.heap.size≠r9:=fun e=>HNE.out e.symm;have HOUT:=hid (h9.out HT8.out (.int .i64 4) (.int .i64 st));clear h9;go_wp2_with fail;rw[Exit.noGoto_ret];refine bodyPost_ret (v:=.agg #[.int .i64 4,.int .i64 st]) (by simp[results,Tryz.results19,go_sem,t0,t1]) rfl ?_;obtain⟨⟨R',vf',vs',vh',ho1⟩,ho2⟩:=HOUT.out;have hgo:zJ stop (n+1) M1=(M1,4):=by
     unfold zJ;rw[if_pos (by rw[HST.out];exact hA)]
    refine⟨M1,4,by rw[<-HW1.out.go];exact hgo,by rw[HST.out],⟨_,R',vf',vs',vh',ho1,⟨D1,f1,A1,E1,HSU.out.1.idle HSU.out.1.stk0,HSU.out.2.idle⟩⟩,ho2,HW1.out.tr (.inl (by rw[HST.out];exact hA))⟩
   ·rw[decide_eq_false hA]
    by_cases hB:bu<=st
    ·have d3:decide (bu<=st)=true:=decide_eq_true hB
     have h7:=H1.out.kind HNE.out HR9.out 3;have HEN:=hid h7.ends;clear h7;go_wp2_with fail;refine HEN.out.mono ?_;rintro e w9 ⟨⟨v9,rfl⟩,h9⟩;have p0:=h9.c0;have p1:=h9.c1;have t0:w9.cell? ⟨w.heap.size,0,none⟩=some (.int .i64 0):=jb h9.tc 0;have t1:w9.cell? ⟨w.heap.size,1,none⟩=some (.int .i64 0):=jb h9.tc 1;have v0:=jE h9.tc 0;have v1:=jE h9.tc 1;have hn9:r9≠w.heap.size:=HNE.out;have hn8:w.heap.size≠r9:=fun e=>HNE.out e.symm;have HOUT:=hid (h9.out HT8.out (.int .i64 3) (.int .i64 st));clear h9;go_wp2_with fail;rw[Exit.noGoto_ret];refine bodyPost_ret (v:=.agg #[.int .i64 3,.int .i64 st]) (by simp[results,Tryz.results19,go_sem,t0,t1]) rfl ?_;obtain⟨⟨R',vf',vs',vh',ho1⟩,ho2⟩:=HOUT.out;have hgo:zJ stop (n+1) M1=(M1,3):=by
      unfold zJ;rw[if_neg (by rw[HST.out];exact hA),if_pos (by rw[HST.out,hb1];exact hB)]
     refine⟨M1,3,by rw[<-HW1.out.go];exact hgo,by rw[HST.out],⟨_,R',vf',vs',vh',ho1,⟨D1,f1,A1,E1,HSU.out.1.idle HSU.out.1.stk0,HSU.out.2.idle⟩⟩,ho2,HW1.out.tr (.inr (.inl (by rw[HST.out,hb1];exact hB)))⟩
    ·have d3:decide (bu<=st)=false:=decide_eq_false hB
     have hw3:IntKind.i64.wrap (st+1)=st+1:=jv (by omega) (by omega);have hS1:=H1.out.steps HNE.out HR9.out (st+1);obtain⟨Y1,hY1⟩:∃Y1,wc.setCell ⟨r9,1,none⟩ (.int .i64 (st+1))=Y1:=⟨_,rfl⟩;rw[hY1] at hS1;have HS1:=hid hS1;have HY1:=hid hY1;have HA:=hid hA;have HB2:=hid hB;clear hS1 hY1 hA hB;go_upto_region 11 with fail;rw[HY1.out];have r1:=HS1.out.c1;clear r0 z0 z1;go_cut [59] from 31 to 101 (fun c wx=>c=.bool (decide (0<every/\(st+1).tmod every=0))/\wx=Y1)
     case first=>
      by_cases q1:0<every
      ·have d1:decide (0<every)=true:=decide_eq_true q1
       obtain⟨rm,hrm⟩:∃rm,(st+1).tmod every=rm:=⟨_,rfl⟩;have hrb: -9223372036854775808<=rm/\rm<=9223372036854775807:=by
        rw[<-hrm,Int.tmod_eq_emod_of_nonneg (by omega)];have g1:=Int.emod_nonneg (st+1) (by omega:every≠0);have g2:=Int.emod_lt_of_pos (st+1) q1;omega
       have hwr:IntKind.i64.wrap rm=rm:=jv hrb.1 hrb.2;have ene:(every==0)=false:=by rw[beq_eq_false_iff_ne];omega
       have ene2:¬every=0:=by omega
       by_cases q2:rm=0
       ·have d2:(rm==0)=true:=by rw[q2];rfl
        go_wp2_with fail;go_meet;exact⟨by rw[hrm,decide_eq_true (zqf q1 q2)],rfl⟩
       ·have d2:(rm==0)=false:=by rw[beq_eq_false_iff_ne];exact q2
        go_wp2_with fail;go_meet;exact⟨by rw[hrm,decide_eq_false (fun q=>q2 q.2)],rfl⟩
      ·have d1:decide (0<every)=false:=decide_eq_false q1
       go_wp2_with fail;go_meet;exact⟨by rw[decide_eq_false (by omega)],rfl⟩
     case rest=>
      obtain⟨rfl,hwx⟩:=hcut;subst hwx;obtain⟨M2,hM2⟩:∃M2,({M1 with steps:=st+1}:RM)=M2:=⟨_,rfl⟩;have hs2:=HSU.out.1.steps (st+1);have hu2:=HSU.out.2.steps (st+1);rw[hM2] at hs2 hu2;have HM2:=hid hM2;have HS2:=hid (zqf hs2 hu2);have H2:=hid (HS1.out.other (N:=M2));have HCO:=hid (H2.out.collect HO.out hs2);clear hM2 hs2 hu2 r1;go_upto_if 59 with fail;go_cut [59] from 31 to 101 (fun _ wx=>∃C2 D2 f2 A2,RSt O w g b r9 w.heap.size M2 C2 0 (st+1) wx/\Sim M2 C2 D2 f2 A2)
      case first=>
       by_cases hE:0<every/\(st+1).tmod every=0
       ·rw[decide_eq_true hE]
        go_wp2_with fail;refine HCO.out.mono ?_;rintro e w5 ⟨⟨v,rfl⟩,hc5⟩;have HC5:=hid hc5;clear hc5;go_wp2_with fail;go_meet;exact HC5.out
       ·rw[decide_eq_false hE]
        go_wp2_with fail;go_meet;exact⟨_,_,_,_,H2.out,HS2.out.1⟩
      case rest=>
       obtain⟨C2,D2,f2,A2,h2,s2⟩:=hcut;have hl2:0<M2.frs.length:=by rw[<-HM2.out];exact HW1.out.fr
       have hst2:M2.steps=st+1/\M2.budget=bu:=by rw[<-HM2.out];exact⟨rfl,hb1⟩
       have HST2:=hid hst2;have HFI:=hid (show∃C,Fine M1 C from⟨_,_,_,_,_,HSU.out.1,HSU.out.2⟩);clear hst2;cases hi:insR M2 with
       |none=>
        have HSR:=hid (show j5 {M1 with steps:=M1.steps+1}=(M2,7) from by rw[HST.out,HM2.out];exact stepR_none hi);have HRL:=hid (show Rel (C2,7) (M2,7) from .stop s2 HS2.out.2 (by decide) rfl rfl);have HFN:=hid (h2.fetchN s2 hl2 hi);clear h2 s2 hl2 hi;go_wp2_with fail;refine HFN.out.mono ?_;rintro e w5 ⟨rfl,h5⟩;have hb6:=jq w5 (.cells #[.int .i64 0,.int .i64 0,.int .i64 0,.int .i64 0,.int .i64 0] 41);have h6:=h5.below hb6;obtain⟨X6,hX6⟩:∃X6,w5.alloc (.cells #[.int .i64 0,.int .i64 0,.int .i64 0,.int .i64 0,.int .i64 0] 41)=X6:=⟨_,rfl⟩;rw[hX6] at h6;have HX6:=hid hX6;have H6:=hid h6;clear hb6 hX6 h5 h6;go_upto_region 17 with fail;rw[HX6.out];have r0:=H6.out.c0;have z0:=jE H6.out.rc 0;have h7:=H6.out.kind HNE.out HR9.out 7;have HEN:=hid h7.ends;clear h7;go_wp2_with fail;refine HEN.out.mono ?_;rintro e w9 ⟨⟨v9,rfl⟩,h9⟩;have p0:=h9.c0;have p1:=h9.c1;have t0:w9.cell? ⟨w.heap.size,0,none⟩=some (.int .i64 0):=jb h9.tc 0;have t1:w9.cell? ⟨w.heap.size,1,none⟩=some (.int .i64 0):=jb h9.tc 1;have v0:=jE h9.tc 0;have v1:=jE h9.tc 1;have hn9:r9≠w.heap.size:=HNE.out;have hn8:w.heap.size≠r9:=fun e=>HNE.out e.symm;have HOUT:=hid (h9.out HT8.out (.int .i64 7) (.int .i64 (st+1)));clear h9;go_wp2_with fail;rw[Exit.noGoto_ret];refine bodyPost_ret (v:=.agg #[.int .i64 7,.int .i64 (st+1)]) (by simp[results,Tryz.results19,go_sem,t0,t1]) rfl ?_;obtain⟨⟨R',vf',vs',vh',ho1⟩,ho2⟩:=HOUT.out;obtain⟨k1,k2,k3⟩:=HW1.out.ends (c:=(C2,7)) (by rw[HST.out];exact HA.out) (by rw[HST.out,hb1];have:=HB2.out;omega) HSR.out (show(7:Int)≠0 by decide) HRL.out HFI.out;exact⟨M2,7,k1,by rw[HST2.out.1],⟨_,R',vf',vs',vh',ho1,k2⟩,ho2,k3⟩
       |some x=>
        obtain⟨io,ia,ib,ic,inn⟩:=x;have HSR:=hid (show j5 {M1 with steps:=M1.steps+1}=Qn (zL M2) (io,ia,ib,ic,inn) from by rw[HST.out,HM2.out];exact stepR_some hi);have HFS:=hid (show Calls prog 53 #[.pointer (some ⟨g,0,none⟩)] _ (fun e w'=>e=.returned (.tuple #[.agg #[.int .i64 io,.int .i64 ia,.int .i64 ib,.int .i64 ic,.int .i64 inn],.bool true])/\∃C2,RSt O w g b r9 w.heap.size M2 C2 0 (st+1) w'/\Nx (fun i=>O i/\i≠r9/\i≠w.heap.size) w' g b M2 E1 (io,ia,ib,ic,inn) C2) from h2.fetchS HO.out HG.out s2 HS2.out.2 hl2 hi);obtain⟨rr,hrr⟩:∃rr,Qn (zL M2) (io,ia,ib,ic,inn)=rr:=⟨_,rfl⟩;rw[hrr] at HSR;have HRR:=hid hrr;clear h2 s2 hl2 hi hrr;go_wp2_with fail;refine HFS.out.mono ?_;rintro e w5 ⟨rfl,C5,h5,nx5⟩;have hb6:=jq w5 (.cells #[.int .i64 io,.int .i64 ia,.int .i64 ib,.int .i64 ic,.int .i64 inn] 41);have hn6:=zqe w5 (.cells #[.int .i64 io,.int .i64 ia,.int .i64 ib,.int .i64 ic,.int .i64 inn] 41);have h6:=h5.below hb6;have nx6:=nx5.below hb6;obtain⟨X6,hX6⟩:∃X6,w5.alloc (.cells #[.int .i64 io,.int .i64 ia,.int .i64 ib,.int .i64 ic,.int .i64 inn] 41)=X6:=⟨_,rfl⟩;obtain⟨t6,ht6⟩:∃t6,w5.heap.size=t6:=⟨_,rfl⟩;rw[hX6] at h6 nx6 hn6;rw[ht6] at hn6;have HX6:=hid (zqf hX6 ht6);have H6:=hid (zqf h6 nx6);have HN6:=hid hn6;clear hb6 hn6 hX6 ht6 h5 nx5 h6 nx6;go_upto_region 18 with fail;rw[HX6.out.1,HX6.out.2];have j0:X6.cell? ⟨t6,0,none⟩=some (.int .i64 io):=jb HN6.out 0;have j1:X6.cell? ⟨t6,1,none⟩=some (.int .i64 ia):=jb HN6.out 1;have j2:X6.cell? ⟨t6,2,none⟩=some (.int .i64 ib):=jb HN6.out 2;have j3:X6.cell? ⟨t6,3,none⟩=some (.int .i64 ic):=jb HN6.out 3;have j4:X6.cell? ⟨t6,4,none⟩=some (.int .i64 inn):=jb HN6.out 4;have r1:=H6.out.1.c1;by_cases h15:io=15
        ·subst h15
         have w1:IntKind.i64.wrap (bu-(st+1))=bu-(st+1):=jv (by omega) (by omega);have w2:IntKind.i64.wrap (bu-(st+1)+1)=bu-(st+1)+1:=jv (by omega) (by omega);have hsm:=H6.out.1.sameS HO.out H6.out.2 rfl (by rw[HST2.out.1,HST2.out.2];have:=HB2.out;omega) (by rw[HST2.out.1,HST2.out.2];omega);have hsl:=step_do (M:=zL M2) (show M2.steps<=M2.budget from by rw[HST2.out.1,HST2.out.2];have:=HB2.out;omega) (15,ia,ib,ic,inn);rw[HRR.out] at hsm hsl;rw[HST2.out.1,HST2.out.2] at hsm;obtain⟨mo,hmo⟩:∃mo,rr.1.steps-(st+1)=mo:=⟨_,rfl⟩;rw[hmo] at hsm;have HSM:=hid (show Calls prog 54 #[.pointer (some ⟨g,0,none⟩),.agg #[.int .i64 15,.int .i64 ia,.int .i64 ib,.int .i64 ic,.int .i64 inn],.int .i64 (bu-(st+1)+1)] X6 (fun e w'=>∃c:CM×Int,e=.returned (.tuple #[.int .i64 c.2,.int .i64 mo])/\RSt O w g b r9 w.heap.size M2 c.1 0 (st+1) w'/\Rel c rr) from hsm);have hlo:=hsl.lo;have hhi:=hsl.hi (show M2.steps<=M2.budget from by rw[HST2.out.1,HST2.out.2];have:=HB2.out;omega);rw[show(zL M2).steps=st+1 from HST2.out.1] at hlo;rw[show(zL M2).budget=bu from HST2.out.2] at hhi;have w3:IntKind.i64.wrap (st+1+mo)=st+1+mo:=jv (by omega) (by omega);have HMO:=hid (show rr.1.steps=st+1+mo from by omega);clear hsm hmo hsl hlo hhi;go_wp2_with fail;refine HSM.out.mono ?_;rintro e w7 ⟨c,rfl,h7,hr7⟩;obtain⟨kk,hkk⟩:∃kk,c.2=kk:=⟨_,rfl⟩;rw[hkk];have q0:=h7.c0;have q1:=h7.c1;have y0:=jE h7.rc 0;have y1:=jE h7.rc 1;have h8:=(h7.steps HNE.out HR9.out (st+1+mo)).kind HNE.out HR9.out kk;have H8:=hid h8;have HR7:=hid hr7;have HKK:=hid hkk;clear h7 h8 hr7 hkk;by_cases hk0:kk=0
         ·subst hk0
          obtain⟨hn1,hn2⟩:=HW1.out.next (c:=c) (by rw[HST.out];exact HA.out) (by rw[HST.out,hb1];have:=HB2.out;omega) HSR.out (HR7.out.1.symm.trans HKK.out) HR7.out (by rw[HMO.out];exact H8.out.other) HFI.out;rw[HST.out,HMO.out] at hn2;have hc1:=H8.out.c1;have HN:=hid hn1;have HME:=hid (show(bu+1).toNat-(st+1+mo).toNat<(bu+1).toNat-st.toNat from by have:=HB2.out;omega);clear hn1 hn2;go_wp2_with fail;go_roundw
          case rel=>exact⟨rr.1,n,HN.out⟩
          case measure=>
           show(bu+1).toNat-(intOf ((_:Option Value).getD undef)).toNat<(bu+1).toNat-(intOf ((_:Option Value).getD undef)).toNat
           rw[hc1,R1H.out];exact HME.out
         ·have ek:(kk !=0)=true:=by simp only[bne,beq_eq_false_iff_ne.2 hk0];rfl
          have h7:=H8.out;have HEN:=hid h7.ends;clear h7;go_wp2_with fail;refine HEN.out.mono ?_;rintro e w9 ⟨⟨v9,rfl⟩,h9⟩;have p0:=h9.c0;have p1:=h9.c1;have t0:w9.cell? ⟨w.heap.size,0,none⟩=some (.int .i64 0):=jb h9.tc 0;have t1:w9.cell? ⟨w.heap.size,1,none⟩=some (.int .i64 0):=jb h9.tc 1;have v0:=jE h9.tc 0;have v1:=jE h9.tc 1;have hn9:r9≠w.heap.size:=HNE.out;have hn8:w.heap.size≠r9:=fun e=>HNE.out e.symm;have HOUT:=hid (h9.out HT8.out (.int .i64 kk) (.int .i64 (st+1+mo)));clear h9;go_wp2_with fail;rw[Exit.noGoto_ret];refine bodyPost_ret (v:=.agg #[.int .i64 kk,.int .i64 (st+1+mo)]) (by simp[results,Tryz.results19,go_sem,t0,t1]) rfl ?_;obtain⟨⟨R',vf',vs',vh',ho1⟩,ho2⟩:=HOUT.out;obtain⟨k1,k2,k3⟩:=HW1.out.ends (c:=c) (by rw[HST.out];exact HA.out) (by rw[HST.out,hb1];have:=HB2.out;omega) HSR.out (by rw[<-HR7.out.1,HKK.out];exact hk0) HR7.out HFI.out;exact⟨rr.1,kk,by rw[k1,<-HKK.out,HR7.out.1],by rw[HMO.out],⟨_,R',vf',vs',vh',ho1,k2⟩,ho2,k3⟩
        ·have e15:(io==15)=false:=beq_eq_false_iff_ne.2 h15
         have hdo:=H6.out.1.doS HO.out HG.out H6.out.2 h15;rw[HRR.out] at hdo
         have HDO:=hid (show Calls prog 55 #[.pointer (some ⟨g,0,none⟩),.agg #[.int .i64 io,.int .i64 ia,.int .i64 ib,.int .i64 ic,.int .i64 inn]] X6 (fun e w'=>∃c:CM×Int,e=.returned (.int .i64 c.2)/\RSt O w g b r9 w.heap.size M2 c.1 0 (st+1) w'/\Rel c rr) from hdo);have hks:=(keep_op (M:=zL M2) io ia ib ic inn).st;have hrs:Qn (zL M2) (io,ia,ib,ic,inn)=opR (zL M2) io ia ib ic inn:=if_neg h15;rw[<-hrs,HRR.out] at hks;rw[show(zL M2).steps=st+1 from HST2.out.1] at hks;have HMO:=hid hks;clear hdo hks hrs;go_wp2_with fail;refine HDO.out.mono ?_;rintro e w7 ⟨c,rfl,h7,hr7⟩;obtain⟨kk,hkk⟩:∃kk,c.2=kk:=⟨_,rfl⟩;rw[hkk];have q0:=h7.c0;have y0:=jE h7.rc 0;have H8:=hid (h7.kind HNE.out HR9.out kk);have HR7:=hid hr7;have HKK:=hid hkk;clear h7 hr7 hkk;by_cases hk0:kk=0
         ·subst hk0
          obtain⟨hn1,hn2⟩:=HW1.out.next (c:=c) (by rw[HST.out];exact HA.out) (by rw[HST.out,hb1];have:=HB2.out;omega) HSR.out (HR7.out.1.symm.trans HKK.out) HR7.out (by rw[HMO.out];exact H8.out.other) HFI.out;rw[HST.out,HMO.out] at hn2;have hc1:=H8.out.c1;have HN:=hid hn1;have HME:=hid (show(bu+1).toNat-(st+1).toNat<(bu+1).toNat-st.toNat from by have:=HB2.out;omega);clear hn1 hn2;go_wp2_with fail;go_roundw
          case rel=>exact⟨rr.1,n,HN.out⟩
          case measure=>
           show(bu+1).toNat-(intOf ((_:Option Value).getD undef)).toNat<(bu+1).toNat-(intOf ((_:Option Value).getD undef)).toNat
           rw[hc1,R1H.out];exact HME.out
         ·have ek:(kk !=0)=true:=by simp only[bne,beq_eq_false_iff_ne.2 hk0];rfl
          have h7:=H8.out;have HEN:=hid h7.ends;clear h7;go_wp2_with fail;refine HEN.out.mono ?_;rintro e w9 ⟨⟨v9,rfl⟩,h9⟩;have p0:=h9.c0;have p1:=h9.c1;have t0:w9.cell? ⟨w.heap.size,0,none⟩=some (.int .i64 0):=jb h9.tc 0;have t1:w9.cell? ⟨w.heap.size,1,none⟩=some (.int .i64 0):=jb h9.tc 1;have v0:=jE h9.tc 0;have v1:=jE h9.tc 1;have hn9:r9≠w.heap.size:=HNE.out;have hn8:w.heap.size≠r9:=fun e=>HNE.out e.symm;have HOUT:=hid (h9.out HT8.out (.int .i64 kk) (.int .i64 (st+1)));clear h9;go_wp2_with fail;rw[Exit.noGoto_ret];refine bodyPost_ret (v:=.agg #[.int .i64 kk,.int .i64 (st+1)]) (by simp[results,Tryz.results19,go_sem,t0,t1]) rfl ?_;obtain⟨⟨R',vf',vs',vh',ho1⟩,ho2⟩:=HOUT.out;obtain⟨k1,k2,k3⟩:=HW1.out.ends (c:=c) (by rw[HST.out];exact HA.out) (by rw[HST.out,hb1];have:=HB2.out;omega) HSR.out (by rw[<-HR7.out.1,HKK.out];exact hk0) HR7.out HFI.out;exact⟨rr.1,kk,by rw[k1,<-HKK.out,HR7.out.1],by rw[HMO.out],⟨_,R',vf',vs',vh',ho1,k2⟩,ho2,k3⟩
end
section
variable {W S:Nat} {l:List jn}
theorem ld_good (h:(Z8 (j6 W S) l).2=0):zu l=0/\(Z8 (j6 W S) l).1=zo (j6 W S) l:=by
 by_cases hE:zu l=0
 ·have e:=roomR_new W S (jg l)
  cases hr:(jx {j6 W S with entry:=.I 0,value:=.I 0} ((jg l:Nat):Int)).2 with
  |false=>rw[ldR_full hE hr] at h;cases h
  |true=>
   rw[ldR_good hE hr];exact⟨hE,congrArg (fun z=>zo z l) (congrArg Prod.fst e)⟩
 ·rw[ldR_bad hE] at h
  exact absurd h hE
theorem ld_first (h:zu l=0):∃o,(zo (j6 W S) l).objs[0]?=some o/\o.k=5:=by
 obtain⟨h1,_,_⟩:=allE_parts h;cases l with
 |nil=>exact absurd h1 (by decide)
 |cons c r=>exact⟨_,rfl,rfl⟩
theorem ld_idle:Idle (zo (j6 W S) l):=⟨rfl,rfl,fun _ _=>rfl⟩
structure Runs2 (stop bu k1 st1 k2 st2:Int):Prop where
 lo:1<=k1
 hi:k1<=7
 s0:0<=st1
 s1:st1<=bu
 n4:k2≠4
 i4:k1=4->0<stop/\stop<=st1/\st1<=st2
 e4:k1≠4->k2=k1/\st2=st1
 t3:k1=3->st1=bu
theorem runs2 (stop:Int) (M:RM) (h0:M.steps=0) (hb:0<=M.budget):Runs2 stop M.budget (zJ stop (M.budget.toNat+1) M).2 (zJ stop (M.budget.toNat+1) M).1.steps (zJ 0 (M.budget.toNat+1) M).2 (zJ 0 (M.budget.toNat+1) M).1.steps:=by
 have hk:∀M:RM,(j5 M).2≠4:=fun M=>(kd_step (M:=M)).2;have g1:=go_steps stop (M.budget.toNat+1) M (by omega);have g2:=go_stop hk stop (M.budget.toNat+1) M (by omega);have g3:=go_stop hk 0 (M.budget.toNat+1) M (by omega);have g4:=kd_go stop (M.budget.toNat+1) M;have g5:=go_time stop (M.budget.toNat+1) M (by omega) (by omega);refine⟨g4.1,g4.2,by omega,g1.2,fun h=>?_,g2.1,fun h=>?_,g5⟩
 ·have:=(g3.1 h).1
  omega
 ·rw[g2.2 h]
  exact⟨rfl,rfl⟩
end
def Tabs (w:World):Prop:=NumL.Tab w/\ZK w
theorem Tabs.below {w w':World} {B:Nat} (h:Tabs w) (hB:w.heap.size<=B) (hb:Below B w w'):Tabs w':=⟨NumL.tab_below h.1 hB hb,QZ h.2 hB hb⟩
def kC:List jn:=[⟨[],kL⟩]
theorem kC_ok:zu kC=0:=by
 have h:qq kL=0:=by
  have h1:zF (1,2,0,0,5)=0:=k_c1;have h2:zF (1,3,0,0,-7)=0:=k_c2;have h3:zF (9,2,2,3,0)=0:=k_c3;have h4:zF (28,2,0,0,0)=0:=k_c4;simp only[kL,qq,h1,h2,h3,h4,if_true]
 have hc:jM 1 ⟨[],kL⟩=0:=by
  show(if 16384<0+4 then 3 else if zM 1 []=0 then qq kL else zM 1 [])=0;rw[h];rfl
 show(if jM 1 ⟨[],kL⟩=0 then 0 else jM 1 ⟨[],kL⟩)=0;rw[hc];rfl
theorem kC_ld:Z8 (j6 64 16) kC=(zo (j6 64 16) kC,0):=by
 have e:=roomR_new 64 16 (jg kC);have h:=ldR_good (M:=j6 64 16) kC_ok (by show(jx (j6 64 16) (jg kC:Int)).2=true;rw[e];rfl);rw[h];show(zo (jx (j6 64 16) (jg kC:Int)).1 kC,(0:Int))=_;rw[e]
theorem kC_go:(zJ 0 10 (JH (zo (j6 64 16) kC) 9)).2=1/\(zJ 0 10 (JH (zo (j6 64 16) kC) 9)).1.steps=4/\(zJ 0 10 (JH (zo (j6 64 16) kC) 9)).1.value=.I (-35):=⟨by kernel_rfl,by kernel_rfl,by kernel_rfl⟩
abbrev kV:Array Value:=#[.int .i64 1,.int .i64 2,.int .i64 0,.int .i64 0,.int .i64 5,.int .i64 1,.int .i64 3,.int .i64 0,.int .i64 0,.int .i64 (-7),.int .i64 9,.int .i64 2,.int .i64 2,.int .i64 3,.int .i64 0,.int .i64 28,.int .i64 2,.int .i64 0,.int .i64 0,.int .i64 0]
theorem kV_at {O:Nat->Prop} {w:World} {g:Nat} (h:w.heap[g]?=some (.cells kV 41 (0,0))) (hO:¬O g):InsAt O w (.slice (some ⟨g,0,none⟩) 4 4) kL:=by
 refine⟨_,_,rfl,fun j x hx=>⟨g,0,rfl,(zqa h).1,hO,fun i hi=>?_⟩⟩;rw[jb h];match j,hx with
 |0,hx=>obtain rfl:=zqd hx;match i,hi with|0,_=>rfl|1,_=>rfl|2,_=>rfl|3,_=>rfl|4,_=>rfl
 |1,hx=>obtain rfl:=zqd hx;match i,hi with|0,_=>rfl|1,_=>rfl|2,_=>rfl|3,_=>rfl|4,_=>rfl
 |2,hx=>obtain rfl:=zqd hx;match i,hi with|0,_=>rfl|1,_=>rfl|2,_=>rfl|3,_=>rfl|4,_=>rfl
 |3,hx=>obtain rfl:=zqd hx;match i,hi with|0,_=>rfl|1,_=>rfl|2,_=>rfl|3,_=>rfl|4,_=>rfl
 |j+4,hx=>simp[kL] at hx
section
variable {w w1 w2:World}
theorem load_kc (ht:Tabs w) (hx:Bx w1 (w.heap.size+1) (mcN w.heap.size 16)) (m:zv w1 w.heap.size 64 0 (fun _=>.slice none 0 0) [] []) (hb:Below w.heap.size w w1):
  Calls prog 16 #[.pointer (some ⟨w.heap.size+1,0,none⟩),.slice (some ⟨w1.heap.size+1,0,none⟩) 1 1] ((w1.alloc (.cells kV 41)).alloc (.cells #[.slice none 0 0,.slice (some ⟨w1.heap.size,0,none⟩) 4 4] 39)) fun e w'=>e=.returned (.int .i64 0)/\(∃C R D f A,McAt (New w) w' (w.heap.size+1) C w.heap.size R (.slice none 0 0) (.slice none 0 0) (.slice none 0 0)/\Sim (zo (j6 64 16) kC) C D f A)/\Below w.heap.size w w':=by
 have hs:=hx.lt;have hbA:=jq w1 (.cells kV 41);have hnA:=zqe w1 (.cells kV 41);have hsA:(w1.alloc (.cells kV 41)).heap.size=w1.heap.size+1:=Array.size_push ..;obtain⟨X,hX⟩:∃X,w1.alloc (.cells kV 41)=X:=⟨_,rfl⟩;rw[hX] at hbA hnA hsA ⊢;have hbC:=jq X (.cells #[.slice none 0 0,.slice (some ⟨w1.heap.size,0,none⟩) 4 4] 39);have hnC:=zqe X (.cells #[.slice none 0 0,.slice (some ⟨w1.heap.size,0,none⟩) 4 4] 39);obtain⟨Z,hZ⟩:∃Z,X.alloc (.cells #[.slice none 0 0,.slice (some ⟨w1.heap.size,0,none⟩) 4 4] 39)=Z:=⟨_,rfl⟩;rw[hZ] at hbC hnC ⊢;rw[hsA] at hnC;have hbZ:Below w1.heap.size w1 Z:=hbA.trans (hbC.mono hbA.size);have hwZ:Below w.heap.size w Z:=hb.trans (hbZ.mono hb.size);have hz1:=hb.size;have hz2:=hbZ.size;have hlC:=(zqa hnC).1;have a:=(McAt.new (O:=fun i=>(w.heap.size<=i/\i<w1.heap.size)\/Z.heap.size<=i) hx m (wf_new (by omega) (by omega)) (.inl (by omega)) (.inl (by omega)) (by omega)).below hbZ;have hnZ:=(hbC.block _ (by omega)).trans hnA;have hlow:∀i,((w.heap.size<=i/\i<w1.heap.size)\/Z.heap.size<=i)->w.heap.size<=i:=fun i hi=>by
  rcases hi with h|h<;>omega
 have hno:∀i,w1.heap.size<=i->i<Z.heap.size->¬((w.heap.size<=i/\i<w1.heap.size)\/Z.heap.size<=i):=fun i h1 h2 h=>by
  rcases h with h|h<;>omega
 have hc:CodesAt (fun i=>(w.heap.size<=i/\i<w1.heap.size)\/Z.heap.size<=i) Z (.slice (some ⟨w1.heap.size+1,0,none⟩) 1 1) kC:=⟨_,_,rfl,fun j x hx=>by
  match j,hx with
  |0,hx=>
   obtain rfl:=zqd hx;exact⟨_,0,_,_,rfl,hlC,hno _ (by omega) hlC,jb hnC 0,jb hnC 1,⟨none,0,rfl,fun j x hx=>by cases hx⟩,kV_at hnZ (hno _ (zqg _) (by omega))⟩
  |j+1,hx=>cases hx⟩
 refine(load_c a (Sim.new (W:=64) (S:=16) (wf_new (by omega) (by omega)) (by omega)) (Usd.new 64 16) (fun i hi=>.inr hi) (fun Y hY=>(ht.below (zqg _) (hwZ.trans (hY.below hwZ.size hlow))).2) hc (by decide) (fun c hc=>?_)).mono ?_
 ·obtain rfl:=List.mem_singleton.1 hc
  exact⟨by decide,by decide,fun x hx=>by cases hx⟩
 ·rintro e w' ⟨rfl,⟨C',R',D',f',A',a',s'⟩,hf⟩
  rw[kC_ld] at s';exact⟨by rw[kC_ld],⟨C',R',D',f',A',a'.wide hlow,s'⟩,hwZ.trans (hf.below hwZ.size hlow)⟩
theorem run_kc (ht:Tabs w) (hb:Below w.heap.size w w2) {g b:Nat} {C:CM} {R:Nat->Value} {vf vs vh:Value} {D:Nat->Prop} {f A:Nat->Nat} (a:McAt (New w) w2 g C b R vf vs vh) (s:Sim (zo (j6 64 16) kC) C D f A):
  Calls prog 19 #[.pointer (some ⟨g,0,none⟩),.int .i64 9,.int .i64 0,.int .i64 0] w2 fun e w'=>e=.returned (.agg #[.int .i64 1,.int .i64 4])/\(∃C R vf vs vh,McAt (New w) w' g C b R vf vs vh/\C.va=18446744073709551547)/\Below w.heap.size w w':=by
 have u:=(Usd.new 64 16).ld (Sim.new (W:=64) (S:=16) (wf_new (by omega) (by omega)) (by omega)) kC;rw[kC_ld] at u;obtain⟨E,u⟩:=u;obtain⟨o,ho,hk⟩:=ld_first (W:=64) (S:=16) kC_ok;refine(run_main a s u ld_idle (fun i hi=>Nat.le_trans hb.size hi) (fun Y hY=>ht.below (zqg _) (hb.trans (hY.below hb.size (fun i hi=>hi)))) (by decide) (i:=0) rfl ho hk 9 0 0 (bu:=9) (by decide) (by decide) (by decide) (by decide)).mono ?_;rintro e w' ⟨N,kd,h1,rfl,⟨C',R',vf',vs',vh',a',D',f',A',E',s',_⟩,hf,_⟩;obtain⟨q1,q2,q3⟩:=kC_go;have h1:zJ 0 10 (JH (zo (j6 64 16) kC) 9)=(N,kd):=h1;rw[h1] at q1 q2 q3;refine⟨by rw[show kd=1 from q1,show N.steps=4 from q2],⟨C',R',vf',vs',vh',a',?_⟩,hb.trans (hf.below hb.size (fun i hi=>hi))⟩;have e:=s'.va;rw[show(JZ N).value=N.value from rfl,show N.value=.I (-35) from q3] at e;rw[e];rfl
theorem value_c {O:Nat->Prop} {g b:Nat} {C:CM} {R:Nat->Value} {vf vs vh:Value} (a:McAt O w g C b R vf vs vh):Calls prog 35 #[.pointer (some ⟨g,0,none⟩)] w fun e w'=>e=.returned (.int .u64 (C.va:Int))/\w'=w:=by
 have HN:=hid (none_mc a.bx rfl);have c:=a.bx.cell (j:=1044) (by omega);rw[mF_va] at c;clear a;go_enter Tryz.func35,Tryz.ntmps35;go_wp2_with fail;refine(HN.out).mono ?_;rintro e w' ⟨rfl,hw'⟩;subst w';go_wp2_with fail;go_ret;exact⟨rfl,rfl⟩
theorem mkn_any (ht:Tabs w):Calls prog 12 #[] w fun e w'=>e=.returned (.bool true)/\Below w.heap.size w w':=by
 have HNW:=hid (new_mc 64 (by decide) (by decide) 16 (by decide) (by decide) w);have HT:=hid ht;have HRI:=hid (fun Y=>show Calls prog 36 #[.int .i64 (-35)] Y (fun e w'=>e=.returned (.int .u64 18446744073709551547)/\Y=w') from(refint_any (-35) Y (by omega) (by omega)).mono fun e w' ⟨h1,h2⟩=>⟨by rw[h1];rfl,h2⟩);clear ht;go_enter Tryz.func12,Tryz.ntmps12;go_wp2_with fail;refine HNW.out.mono ?_;rintro e w1 ⟨rfl,hx1,hm1,hb1⟩;have hpn:((some (⟨w.heap.size+1,0,none⟩:Addr))==none)=false:=rfl;have HLD:=hid (load_kc HT.out hx1 hm1 hb1);clear hx1 hm1 hb1;go_wp2_with fail;refine HLD.out.mono ?_;rintro e w2 ⟨rfl,⟨C2,R2,D2,f2,A2,a2,s2⟩,hb2⟩;have HRUN:=hid (run_kc HT.out hb2 a2 s2);clear a2 s2 hb2;go_wp2_with fail;refine HRUN.out.mono ?_;rintro e w3 ⟨rfl,⟨C3,R3,vf,vs,vh,a3,hv3⟩,hb3⟩;have hbR:=jq w3 (.cells #[.int .i64 1,.int .i64 4] 43);have HV:=hid (value_c (a3.below hbR));rw[hv3] at HV;have HB:=hid (hb3.trans (hbR.mono hb3.size));clear hb3 a3 hbR hv3;go_wp2_with fail;refine HV.out.mono ?_;rintro e w' ⟨rfl,hw'⟩;subst w';go_wp2_with (go_at_call 36;refine(HRI.out _).mono ?_;rintro e w' ⟨rfl,hw'⟩;subst w');go_ret;exact⟨rfl,HB.out⟩
end
end Go.Proofs.YtklcmdoadmcpfaaGreatDoor
