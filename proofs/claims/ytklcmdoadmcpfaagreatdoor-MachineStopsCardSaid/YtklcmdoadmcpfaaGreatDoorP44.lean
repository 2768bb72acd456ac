/- A part of the proof of MachineStops: pruned, joined and printed small by a script. Conditions: those that each theorem names. -/
import Derived.Test.YtklcmdoadmcpfaaGreatDoorP00
import Derived.Test.YtklcmdoadmcpfaaGreatDoorP43
import Derived.Test.YtklcmdoadmcpfaaGreatDoorP40
import Derived.Deep.CutRange
import Derived.Deep.CutBlock
import Derived.Test.YtklcmdoadmcpfaaGreatDoorProg
import Derived.Test.YtklcmdoadmcpfaaGreatDoorCards
import Derived.SliceStrings
import Derived.Carry
import Derived.WalkKit
import Derived.SizedLaws
import Derived.ProofKit
import Derived.Deep.Slices
import Derived.Deep.Fields
set_option maxRecDepth 100000
set_option maxHeartbeats 400000000
namespace Go.Proofs.YtklcmdoadmcpfaaGreatDoor
open Go Go.RowKit IsaL
open Go.Lib(hid)
open Go.Proofs.Tryz(prog)
abbrev os1:Oper:={dst:=some 38,op:=Op.move (Operand.tmp 5),type:=28,pos:= "law.go:257",after:=#[],guard:=none}
abbrev os2:Oper:={dst:=some 39,op:=Op.fieldAddr 26 (Operand.tmp 2) 2,type:=0,pos:= "law.go:257",after:=#[],guard:=none}
abbrev os3:Oper:={dst:=some 40,op:=Op.load 3 (Operand.tmp 39),type:=3,pos:= "law.go:257",after:=#[{on:=1,ground:=Ground.data}],guard:=none}
abbrev os4:Oper:={dst:=some 41,op:=Op.fieldAddr 26 (Operand.tmp 2) 3,type:=0,pos:= "law.go:257",after:=#[],guard:=none}
abbrev os5:Oper:={dst:=some 42,op:=Op.load 3 (Operand.tmp 41),type:=3,pos:= "law.go:257",after:=#[{on:=3,ground:=Ground.data}],guard:=none}
abbrev os6:Oper:={dst:=some 43,op:=Op.fieldAddr 26 (Operand.tmp 2) 4,type:=0,pos:= "law.go:257",after:=#[],guard:=none}
abbrev os7:Oper:={dst:=some 44,op:=Op.load 3 (Operand.tmp 43),type:=3,pos:= "law.go:257",after:=#[{on:=5,ground:=Ground.data}],guard:=none}
abbrev os8:Oper:={dst:=some 46,op:=Op.move (Operand.tmp 9),type:=28,pos:= "law.go:257",after:=#[],guard:=none}
abbrev os9:Oper:={dst:=some 47,op:=Op.fieldAddr 26 (Operand.tmp 2) 2,type:=0,pos:= "law.go:257",after:=#[],guard:=none}
abbrev os10:Oper:={dst:=some 48,op:=Op.load 3 (Operand.tmp 47),type:=3,pos:= "law.go:257",after:=#[{on:=9,ground:=Ground.data}],guard:=none}
abbrev os11:Oper:={dst:=some 45,op:=Op.call {callee:=Callee.value (Operand.func 19),args:=#[Operand.tmp 38,Operand.tmp 40,Operand.tmp 42,Operand.tmp 44],argTypes:=#[28,3,3,3]},type:=43,pos:= "law.go:257",after:=#[{on:=0,ground:=Ground.data},{on:=2,ground:=Ground.data},{on:=4,ground:=Ground.data},{on:=6,ground:=Ground.data}],guard:=none}
abbrev os12:Oper:={dst:=some 10,op:=Op.alloc 43,type:=0,pos:= "law.go:257",after:=#[],guard:=none}
abbrev os13:Oper:={dst:=some 11,op:=Op.alloc 43,type:=0,pos:= "law.go:257",after:=#[],guard:=none}
abbrev os14:Oper:={dst:=some 49,op:=Op.call {callee:=Callee.value (Operand.func 19),args:=#[Operand.tmp 46,Operand.tmp 48,Operand.const (Value.int IntKind.i64 0),Operand.const (Value.int IntKind.i64 0)],argTypes:=#[28,3,3,3]},type:=43,pos:= "law.go:257",after:=#[{on:=8,ground:=Ground.data},{on:=10,ground:=Ground.data},{on:=7,ground:=Ground.chain}],guard:=none}
abbrev os15:Oper:={dst:=none,op:=Op.store 43 (Operand.tmp 10) (Operand.tmp 45),type:=0,pos:= "law.go:257",after:=#[{on:=12,ground:=Ground.data},{on:=7,ground:=Ground.data},{on:=11,ground:=Ground.chain},{on:=0,ground:=Ground.phase},{on:=1,ground:=Ground.phase},{on:=2,ground:=Ground.phase},{on:=3,ground:=Ground.phase},{on:=4,ground:=Ground.phase},{on:=5,ground:=Ground.phase},{on:=6,ground:=Ground.phase},{on:=7,ground:=Ground.phase},{on:=8,ground:=Ground.textOnly Departure.lateStores},{on:=9,ground:=Ground.textOnly Departure.lateStores},{on:=10,ground:=Ground.textOnly Departure.lateStores},{on:=11,ground:=Ground.textOnly Departure.lateStoresUnsure},{on:=12,ground:=Ground.phase},{on:=13,ground:=Ground.phase}],guard:=none}
abbrev os16:Oper:={dst:=none,op:=Op.store 43 (Operand.tmp 11) (Operand.tmp 49),type:=0,pos:= "law.go:257",after:=#[{on:=13,ground:=Ground.data},{on:=11,ground:=Ground.data},{on:=14,ground:=Ground.chain},{on:=0,ground:=Ground.phase},{on:=1,ground:=Ground.phase},{on:=2,ground:=Ground.phase},{on:=3,ground:=Ground.phase},{on:=4,ground:=Ground.phase},{on:=5,ground:=Ground.phase},{on:=6,ground:=Ground.phase},{on:=7,ground:=Ground.phase},{on:=8,ground:=Ground.phase},{on:=9,ground:=Ground.phase},{on:=10,ground:=Ground.phase},{on:=11,ground:=Ground.phase},{on:=12,ground:=Ground.phase},{on:=13,ground:=Ground.phase},{on:=14,ground:=Ground.phase}],guard:=none}
theorem infoResult:(prog.info? 43).map (·.size)=some 2:=by kernel_rfl
section
variable {w:World} {v:Value} {l:List jn}
theorem rdy16 {f7 f11 f12 f13 f14 f15:Bool}:∀{i:Nat},(#[true,true,true,true,true,true,true,f7,true,true,true,f11,f12,f13,f14,f15]:Array Bool).getD i true=false->i=7\/i=11\/i=12\/i=13\/i=14\/i=15
 |7,_|11,_|12,_|13,_|14,_|15,_=>by simp
 |0,h|1,h|2,h|3,h|4,h|5,h|6,h|8,h|9,h|10,h=>by cases h
 |n+16,h=>by
  rw[Array.getD_eq_getD_getElem?,Array.getElem?_eq_none (by simp)] at h;cases h
theorem machineStops_any (ht:Tabs w) (hc:CodesAt (New w) w v l) (hgr:Great l) (ta tb tc ts te:Int) (e0: -9223372036854775808<=te) (e1:te<=9223372036854775807):
  Calls prog 8 #[.agg #[.int .i64 ta,.int .i64 tb,.int .i64 tc,.int .i64 ts,.int .i64 te],v] w fun e w'=>e=.returned (.bool true)/\Below w.heap.size w w':=by
 obtain⟨W,hW⟩:∃W:Nat,64+ta%8000=(W:Int):=⟨(64+ta%8000).toNat,by omega⟩;obtain⟨S,hS⟩:∃S:Nat,16+tb%3000=(S:Int):=⟨(16+tb%3000).toNat,by omega⟩;obtain⟨bu,hbu⟩:∃bu:Int,tc%3000=bu:=⟨_,rfl⟩;have hW1:64<=W/\W<=65536:=by omega
 have hS1:16<=S/\S<=30000:=by omega
 have hb1:0<=bu/\bu<=3000:=by omega
 have HFW:=hid (fun Y=>show Calls prog 13 #[.agg #[.int .i64 ta,.int .i64 tb,.int .i64 tc,.int .i64 ts,.int .i64 te]] Y (fun x w'=>x=.returned (.agg #[.int .i64 (W:Int),.int .i64 (S:Int),.int .i64 bu,.int .i64 ts,.int .i64 te])/\Below Y.heap.size Y w') from by
  have h:=few_any ta tb tc ts te Y;rw[hW,hS,hbu] at h;exact h)
 have HB:=hid (zqf hW1 (zqf hS1 (zqf hb1 (zqf e0 e1))));have HT:=hid ht;have HV:=hid (zqf hc hgr);obtain⟨av,cv,rfl,_⟩:=hc;obtain⟨nc,hnc⟩:∃nc,l.length=nc:=⟨_,rfl⟩;rw[hnc] at HV ⊢;have HN:=hid hnc;have hb0:=jq w (.cells #[.int .i64 ta,.int .i64 tb,.int .i64 tc,.int .i64 ts,.int .i64 te] 26);have hn0:=zqe w (.cells #[.int .i64 ta,.int .i64 tb,.int .i64 tc,.int .i64 ts,.int .i64 te] 26);have hs0:(w.alloc (.cells #[.int .i64 ta,.int .i64 tb,.int .i64 tc,.int .i64 ts,.int .i64 te] 26)).heap.size=w.heap.size+1:=Array.size_push ..;obtain⟨X0,hX0⟩:∃X0,w.alloc (.cells #[.int .i64 ta,.int .i64 tb,.int .i64 tc,.int .i64 ts,.int .i64 te] 26)=X0:=⟨_,rfl⟩;obtain⟨t2,ht2⟩:∃t2,w.heap.size=t2:=⟨_,rfl⟩;rw[hX0] at hb0 hn0 hs0;rw[ht2] at hn0 hs0;have r0:X0.cell? ⟨t2,0,none⟩=some (.int .i64 ta):=jb hn0 0;have r1:X0.cell? ⟨t2,1,none⟩=some (.int .i64 tb):=jb hn0 1;have r2:X0.cell? ⟨t2,2,none⟩=some (.int .i64 tc):=jb hn0 2;have r3:X0.cell? ⟨t2,3,none⟩=some (.int .i64 ts):=jb hn0 3;have r4:X0.cell? ⟨t2,4,none⟩=some (.int .i64 te):=jb hn0 4;have HX0:=hid (zqf hX0 ht2);have HB0:=hid (zqf hb0 (zqf hn0 hs0));clear ht hgr hW hS hbu hW1 hS1 hb1 e0 e1 hnc hb0 hn0 hs0 hX0 ht2;go_enter Tryz.func8,Tryz.ntmps8;go_upto_region 1 with fail;rw[HX0.out.1,HX0.out.2];go_wp2_with fail;refine(HFW.out _).mono ?_;rintro e w1 ⟨rfl,hb1⟩;have hn1:=(hb1.block t2 (by have:=HB0.out.2.2;omega)).trans HB0.out.2.1;have r0:w1.cell? ⟨t2,0,none⟩=some (.int .i64 ta):=jb hn1 0;have r1:w1.cell? ⟨t2,1,none⟩=some (.int .i64 tb):=jb hn1 1;have r2:w1.cell? ⟨t2,2,none⟩=some (.int .i64 tc):=jb hn1 2;have r3:w1.cell? ⟨t2,3,none⟩=some (.int .i64 ts):=jb hn1 3;have r4:w1.cell? ⟨t2,4,none⟩=some (.int .i64 te):=jb hn1 4;have y0:=jE hn1 0;have y1:=jE hn1 1;have y2:=jE hn1 2;have y3:=jE hn1 3;have y4:=jE hn1 4;have hn2:=zj (zj (zj (zj (zj hn1 0 (.int .i64 (W:Int))) 1 (.int .i64 (S:Int))) 2 (.int .i64 bu)) 3 (.int .i64 ts)) 4 (.int .i64 te);obtain⟨X2,hX2⟩:∃X2,((((w1.setCell ⟨t2,0,none⟩ (.int .i64 (W:Int))).setCell ⟨t2,1,none⟩ (.int .i64 (S:Int))).setCell ⟨t2,2,none⟩ (.int .i64 bu)).setCell ⟨t2,3,none⟩ (.int .i64 ts)).setCell ⟨t2,4,none⟩ (.int .i64 te)=X2:=⟨_,rfl⟩;have hbX:Below w.heap.size w X2:=by
  have h:=HB0.out.1.trans (hb1.mono HB0.out.1.size);have q:w.heap.size<=t2:=Nat.le_of_eq HX0.out.2;rw[<-hX2];exact((((h.setCell (p:=⟨t2,0,none⟩) q _).setCell (p:=⟨t2,1,none⟩) q _).setCell (p:=⟨t2,2,none⟩) q _).setCell (p:=⟨t2,3,none⟩) q _).setCell (p:=⟨t2,4,none⟩) q _
 rw[hX2] at hn2;replace hn2:X2.heap[t2]?=some (.cells #[.int .i64 (W:Int),.int .i64 (S:Int),.int .i64 bu,.int .i64 ts,.int .i64 te] 26 (0,0)):=hn2;have HX2:=hid hX2;have HB2:=hid (zqf hbX hn2);have HLI:=hid (light_any (HV.out.1.below hbX) HV.out.2);have s0:X2.cell? ⟨t2,0,none⟩=some (.int .i64 (W:Int)):=jb hn2 0;have s1:X2.cell? ⟨t2,1,none⟩=some (.int .i64 (S:Int)):=jb hn2 1;have s2:X2.cell? ⟨t2,2,none⟩=some (.int .i64 bu):=jb hn2 2;have s3:X2.cell? ⟨t2,3,none⟩=some (.int .i64 ts):=jb hn2 3;have s4:X2.cell? ⟨t2,4,none⟩=some (.int .i64 te):=jb hn2 4;clear hb1 hn1 hn2 hX2 hbX;go_upto_region 2 with fail;rw[HX2.out];go_wp2_with fail;refine HLI.out.mono ?_;rintro e w3 ⟨⟨b,rfl,hsm⟩,hw3⟩;subst w3;have HKN:=hid (fun(Y:World) (hY:Below w.heap.size w Y)=>mkn_any (HT.out.below (zqg _) hY));have HSM:=hid hsm;clear hsm;cases b with
 |false=>
  go_wp2_with fail;refine(HKN.out _ HB2.out.1).mono ?_;rintro e w4 ⟨rfl,hb4⟩;have HF:=hid (HB2.out.1.trans (hb4.mono HB2.out.1.size));clear hb4;go_wp2_with fail;go_ret;exact⟨rfl,HF.out⟩
 |true=>
  have HLD:=hid (loaded_any (w:=X2) (W:=W) (S:=S) HB.out.1.1 HB.out.1.2 HB.out.2.1.1 HB.out.2.1.2 (fun Y hY=>(HT.out.below (zqg _) (HB2.out.1.trans (hY.mono HB2.out.1.size))).2) ((HV.out.1.below HB2.out.1).mono (P:=New X2) (fun i _ q1 q2=>by
   have h1:¬w.heap.size<=i:=q1;have h2:X2.heap.size<=i:=q2;have:=HB2.out.1.size;omega)) (HSM.out rfl) HV.out.2 bu ts te)
  go_wp2_with fail;refine HLD.out.mono ?_;rintro e w5 ⟨g,rb,rfl,h5⟩;obtain⟨er,her⟩:∃er,(Z8 (j6 W S) l).2=er:=⟨_,rfl⟩;rw[her];have HER:=hid her;have H5:=hid h5;have HB5:=hid (HB2.out.1.trans (h5.bl.mono HB2.out.1.size));clear her;by_cases hz:er=0
  case neg=>
   have q0:(er==0)=false:=beq_eq_false_iff_ne.2 hz;clear h5;go_wp2_with fail;refine(HKN.out _ HB5.out).mono ?_;rintro e w6 ⟨rfl,hb6⟩;have HF:=hid (HB5.out.trans (hb6.mono HB5.out.size));clear hb6;go_wp2_with fail;go_ret;exact⟨rfl,HF.out⟩
  case pos=>
   subst hz;obtain⟨Ox,Oy,b,C,R,D,f,A,Ly,hox,hoy,hap,ax,sx,ay⟩:=h5.ex;have HCP:=hid (copy_c ax);have HXM:=hid (zqf hox (zqf ax sx));clear hox hoy hap ax sx ay h5;go_wp2_with fail;refine HCP.out.mono ?_;rintro e w7 ⟨g2,b2,V,rfl,az,hb7⟩;have HZM:=hid (zqf az hb7);clear az hb7;go_upto_region 8 with fail;have hst:=ld_good HER.out;have hM:(Z8 (j6 W S) l).1=zo (j6 W S) l:=hst.2;obtain⟨o,ho,hok⟩:=ld_first (W:=W) (S:=S) hst.1;obtain⟨E,uM⟩:=(Usd.new W S).ld (Sim.new (wf_new HB.out.1.1 HB.out.1.2) HB.out.2.1.2) l;rw[hM] at uM;obtain⟨hox,ax,sx⟩:=HXM.out;rw[hM] at sx;obtain⟨az,hb7⟩:=HZM.out;have hb25:=HB2.out.1;have hX25:=H5.out.bl.size;have hX27:X2.heap.size<=w7.heap.size:=Nat.le_trans hX25 hb7.size;have HX25:=hid hX25;have HX27:=hid hX27;have hS7:Below X2.heap.size X2 w7:=H5.out.bl.trans (hb7.mono hX25);have HS7:=hid hS7;have hw7:Below w.heap.size w w7:=hb25.trans (hS7.mono hb25.size);have HOX:=hid (fun(i:Nat) (hi:Ox i)=>show X2.heap.size<=i/\i<w7.heap.size from⟨(hox i hi).1,Nat.lt_of_lt_of_le (hox i hi).2 hb7.size⟩);have hbm:min (max bu 0) 1099511627776=bu:=by have:=HB.out.2.2.1;omega
   obtain⟨M0,hM0⟩:∃M0,JH (zo (j6 W S) l) bu=M0:=⟨_,rfl⟩;have hM0b:M0.budget=bu:=by rw[<-hM0];exact hbm
   have hM0s:M0.steps=0:=by rw[<-hM0];rfl
   have hruns:=runs2 ts M0 hM0s (by rw[hM0b];exact HB.out.2.2.1.1);rw[hM0b] at hruns;obtain⟨k1,hk1⟩:∃k1,(zJ ts (bu.toNat+1) M0).2=k1:=⟨_,rfl⟩;obtain⟨st1,hst1⟩:∃st1,(zJ ts (bu.toNat+1) M0).1.steps=st1:=⟨_,rfl⟩;obtain⟨k2,hk2⟩:∃k2,(zJ 0 (bu.toNat+1) M0).2=k2:=⟨_,rfl⟩;obtain⟨st2,hst2⟩:∃st2,(zJ 0 (bu.toNat+1) M0).1.steps=st2:=⟨_,rfl⟩;rw[hk1,hst1,hk2,hst2] at hruns;have HRX:=hid (fun(V:World) (hV:Below w7.heap.size w7 V)=>show Calls prog 19 #[.pointer (some ⟨g,0,none⟩),.int .i64 bu,.int .i64 ts,.int .i64 te] V (fun e V'=>e=.returned (.agg #[.int .i64 k1,.int .i64 st1])/\Fr Ox V V') from by
    have hwV:Below w.heap.size w V:=hw7.trans (hV.mono hw7.size);refine(run_main (O:=fun i=>Ox i\/V.heap.size<=i) (((ax.below hb7).below hV).wide (fun i hi=>.inl hi)) sx uM ld_idle (fun i hi=>.inr hi) (fun Y hY=>HT.out.below (zqg _) (hwV.trans (hY.below hwV.size (fun i hi=>by
     rcases hi with q|q
     ·exact Nat.le_trans hb25.size (hox i q).1
     ·exact Nat.le_trans hwV.size q)))) (by show(3:Int)<=(S:Int);have:=HB.out.2.1.1;omega) (i:=0) rfl ho hok bu ts te hbm (by have:=HB.out.2.2.1;omega) HB.out.2.2.2.1 HB.out.2.2.2.2).mono ?_
    rintro e V' ⟨N,kd,h1,rfl,_,h3,_⟩;rw[hM0] at h1;refine⟨by rw[<-hk1,<-hst1,h1],h3.mono (fun i hi=>by
     rcases hi with q|q
     ·exact .inl q
     ·exact .inr q)⟩)
   have HRZ:=hid (fun(V:World) (hV:Fr Ox w7 V)=>show Calls prog 19 #[.pointer (some ⟨g2,0,none⟩),.int .i64 bu,.int .i64 0,.int .i64 0] V (fun e V'=>e=.returned (.agg #[.int .i64 k2,.int .i64 st2])/\Fr (fun i=>w5.heap.size<=i/\i<w7.heap.size) V V') from by
    have hwV:Below w.heap.size w V:=hw7.trans (hV.below hw7.size (fun i hi=>Nat.le_trans hb25.size (hox i hi).1));have ai:=az.inn;have hno:∀i,(w5.heap.size<=i/\i<w7.heap.size)->¬Ox i:=fun i q1 q2=>by
     have:=(hox i q2).2;omega
    have aV:=ai.kept hV (hno _ ai.og) (fun i hi=>hno _ (ai.om i hi)) (fun i hi=>hno _ (ai.o1 i hi)) (fun i hi=>hno _ (ai.o2 i hi)) (fun i hi=>hno _ (ai.o3 i hi));refine(run_main (O:=fun i=>(w5.heap.size<=i/\i<w7.heap.size)\/V.heap.size<=i) (aV.wide (fun i hi=>.inl hi)) sx uM ld_idle (fun i hi=>.inr hi) (fun Y hY=>HT.out.below (zqg _) (hwV.trans (hY.below hwV.size (fun i hi=>by
     rcases hi with q|q
     ·exact Nat.le_trans (Nat.le_trans hb25.size hX25) q.1
     ·exact Nat.le_trans hwV.size q)))) (by show(3:Int)<=(S:Int);have:=HB.out.2.1.1;omega) (i:=0) rfl ho hok bu 0 0 hbm (by have:=HB.out.2.2.1;omega) (by decide) (by decide)).mono ?_
    rintro e V' ⟨N,kd,h1,rfl,_,h3,_⟩;rw[hM0] at h1;refine⟨by rw[<-hk2,<-hst2,h1],h3.mono (fun i hi=>by
     rcases hi with q|q
     ·exact .inl q
     ·exact .inr q)⟩)
   have HRN:=hid hruns;have HIR:=hid infoResult;clear hst hM ho hok uM hox ax sx az hb7 hb25 hX25 hX27 hS7 hw7 hbm hM0 hM0b hM0s hruns hk1 hst1 hk2 hst2;go_cut [10,11] from 38 to 120 (fun pa pb wx=>∃P Q:Nat,pa=.pointer (some ⟨P,0,none⟩)/\pb=.pointer (some ⟨Q,0,none⟩)/\wx.heap[P]?=some (.cells #[.int .i64 k1,.int .i64 st1] 43 (0,0))/\wx.heap[Q]?=some (.cells #[.int .i64 k2,.int .i64 st2] 43 (0,0))/\Below X2.heap.size X2 wx)
   case first=>
    have hS:Below X2.heap.size X2 w7.drew:=HS7.out.drew;have hN:Below w7.heap.size w7 w7.drew:=(Below.refl _ w7).drew;refine wp_region_held_drew (S:=fun Y=>Below X2.heap.size X2 Y) (by kernel_rfl) hS (fun _=>?_);change wpAnyH _ _ _ _ _ 16 #[false,false,false,false,false,false,false,false,false,false,false,false,false,false,false,false] _ _;obtain⟨Y0,hY0⟩:∃Y0,w7.drew=Y0:=⟨_,rfl⟩;rw[hY0] at hS hN ⊢;clear hY0;refine wpAnyH_take (i:=0) (oi:=os1) (v:=.pointer (some ⟨g,0,none⟩)) rfl (by kernel_rfl) (by kernel_rfl) (by kernel_rfl) (fun _ _ _ h=>h) (Or.inl ⟨by rfl,(by intro Y hY;go_simp)⟩) hS ?_;simp only[Act.put,List.setIfInBounds_toArray,List.set_cons_zero,List.set_cons_succ];refine wpAnyH_take (i:=1) (oi:=os2) (v:=.pointer (some ⟨t2,2,none⟩)) rfl (by kernel_rfl) (by kernel_rfl) (by kernel_rfl) (fun _ _ _ h=>h) (Or.inl ⟨by rfl,(by intro Y hY;go_simp)⟩) hS ?_;simp only[Act.put,List.setIfInBounds_toArray,List.set_cons_zero,List.set_cons_succ];refine wpAnyH_take (i:=2) (oi:=os3) (v:=.int .i64 bu) rfl (by kernel_rfl) (by kernel_rfl) (by kernel_rfl) (fun _ _ _ h=>h) (Or.inl ⟨by rfl,(by intro Y hY;have y0:=jl hY s2;go_simp)⟩) hS ?_;simp only[Act.put,List.setIfInBounds_toArray,List.set_cons_zero,List.set_cons_succ];refine wpAnyH_take (i:=3) (oi:=os4) (v:=.pointer (some ⟨t2,3,none⟩)) rfl (by kernel_rfl) (by kernel_rfl) (by kernel_rfl) (fun _ _ _ h=>h) (Or.inl ⟨by rfl,(by intro Y hY;go_simp)⟩) hS ?_;simp only[Act.put,List.setIfInBounds_toArray,List.set_cons_zero,List.set_cons_succ];refine wpAnyH_take (i:=4) (oi:=os5) (v:=.int .i64 ts) rfl (by kernel_rfl) (by kernel_rfl) (by kernel_rfl) (fun _ _ _ h=>h) (Or.inl ⟨by rfl,(by intro Y hY;have y0:=jl hY s3;go_simp)⟩) hS ?_;simp only[Act.put,List.setIfInBounds_toArray,List.set_cons_zero,List.set_cons_succ];refine wpAnyH_take (i:=5) (oi:=os6) (v:=.pointer (some ⟨t2,4,none⟩)) rfl (by kernel_rfl) (by kernel_rfl) (by kernel_rfl) (fun _ _ _ h=>h) (Or.inl ⟨by rfl,(by intro Y hY;go_simp)⟩) hS ?_;simp only[Act.put,List.setIfInBounds_toArray,List.set_cons_zero,List.set_cons_succ];refine wpAnyH_take (i:=6) (oi:=os7) (v:=.int .i64 te) rfl (by kernel_rfl) (by kernel_rfl) (by kernel_rfl) (fun _ _ _ h=>h) (Or.inl ⟨by rfl,(by intro Y hY;have y0:=jl hY s4;go_simp)⟩) hS ?_;simp only[Act.put,List.setIfInBounds_toArray,List.set_cons_zero,List.set_cons_succ];refine wpAnyH_take (i:=8) (oi:=os8) (v:=.pointer (some ⟨g2,0,none⟩)) rfl (by kernel_rfl) (by kernel_rfl) (by kernel_rfl) (fun _ _ _ h=>h) (Or.inl ⟨by rfl,(by intro Y hY;go_simp)⟩) hS ?_;simp only[Act.put,List.setIfInBounds_toArray,List.set_cons_zero,List.set_cons_succ];refine wpAnyH_take (i:=9) (oi:=os9) (v:=.pointer (some ⟨t2,2,none⟩)) rfl (by kernel_rfl) (by kernel_rfl) (by kernel_rfl) (fun _ _ _ h=>h) (Or.inl ⟨by rfl,(by intro Y hY;go_simp)⟩) hS ?_;simp only[Act.put,List.setIfInBounds_toArray,List.set_cons_zero,List.set_cons_succ];refine wpAnyH_take (i:=10) (oi:=os10) (v:=.int .i64 bu) rfl (by kernel_rfl) (by kernel_rfl) (by kernel_rfl) (fun _ _ _ h=>h) (Or.inl ⟨by rfl,(by intro Y hY;have y0:=jl hY s2;go_simp)⟩) hS ?_;simp only[Act.put,List.setIfInBounds_toArray,List.set_cons_zero,List.set_cons_succ];clear s0 s1 s2 s3 s4 r0 r1 r2 r3 r4 y0 y1 y2 y3 y4;refine wpAnyH_from fun a0 ha0=>?_;refine wpAnyH_inv (I:=fun l a Y=>∃(f7 f11 f12 f13 f14 f15:Bool) (x10 x11 x45 x49:Value) (P Q:Nat) (K:Nat->Cp),l=#[true,true,true,true,true,true,true,f7,true,true,true,f11,f12,f13,f14,f15]/\a=(((a0.put (some 10) x10).put (some 11) x11).put (some 45) x45).put (some 49) x49/\CpF X2 Y K/\(∀j p,(K j).own p->w7.heap.size<=p)/\K 0=cond f12 ⟨1,P,undef,43,0,0,[],cond f14 #[.int .i64 k1,.int .i64 st1] #[.int .i64 0,.int .i64 0]⟩ Cp.no/\K 1=cond f13 ⟨1,Q,undef,43,0,0,[],cond f15 #[.int .i64 k2,.int .i64 st2] #[.int .i64 0,.int .i64 0]⟩ Cp.no/\(f12=true->x10=.pointer (some ⟨P,0,none⟩))/\(f13=true->x11=.pointer (some ⟨Q,0,none⟩))/\(f7=true->x45=.agg #[.int .i64 k1,.int .i64 st1])/\(f11=true->x49=.agg #[.int .i64 k2,.int .i64 st2])/\(f7=false->Below w7.heap.size w7 Y)/\(f11=false->Fr Ox w7 Y)/\w7.heap.size<=Y.heap.size/\(f11=true->f7=true)/\(f14=true->f12=true)/\(f15=true->f13=true)) ?_ ?_ 6 _ _ _ (by decide) ⟨false,false,false,false,false,false,undef,undef,undef,undef,0,0,fun _=>Cp.no,rfl,by subst ha0;rfl,CpF.nil hS,no_own,rfl,rfl,nofun,nofun,nofun,nofun,fun _=>hN,fun _=>Fr.of_below hN,hN.size,nofun,nofun,nofun⟩
    ·rintro l a XF ⟨f7,f11,f12,f13,f14,f15,x10,x11,x45,x49,P,Q,K,rfl,rfl,hC,ho1,kA,kB,pA,pB,vA,vB,zA,eA,s7,cA,cB,cC⟩ hr
     obtain rfl:f7=true:=JM hr 7 (o:=os11) rfl rfl;obtain rfl:f12=true:=JM hr 12 (o:=os12) rfl rfl;obtain rfl:f13=true:=JM hr 13 (o:=os13) rfl rfl;obtain rfl:f11=true:=JM hr 11 (o:=os14) rfl rfl;obtain rfl:f14=true:=JM hr 14 (o:=os15) rfl rfl;obtain rfl:f15=true:=JM hr 15 (o:=os16) rfl rfl;obtain rfl:=pA rfl;obtain rfl:=pB rfl;have fP:=(hC.c1 0 (by rw[kA];rfl)).1;have fQ:=(hC.c1 1 (by rw[kB];rfl)).1;rw[kA] at fP;rw[kB] at fQ;have HL:=hid (zqf fP (zqf fQ hC.S));clear hr pA pB vA vB zA eA cA cB cC kA kB hC fP fQ ho1;subst ha0;simp only[Act.put,List.setIfInBounds_toArray,List.set_cons_zero,List.set_cons_succ];go_wp2_with fail;go_meet;exact⟨_,_,rfl,rfl,HL.out.1,HL.out.2.1,HL.out.2.2⟩
    ·rintro l a Y i o ⟨f7,f11,f12,f13,f14,f15,x10,x11,x45,x49,P,Q,K,rfl,rfl,hC,ho1,kA,kB,pA,pB,vA,vB,zA,eA,s7,cA,cB,cC⟩ hi ho K' hK
     have hK:=hid hK;have hS:=hC.S;have h1:=rdy_op hi;subst ha0;rcases rdy16 h1 with rfl|rfl|rfl|rfl|rfl|rfl
     ·obtain rfl:=zqd (show some os11=some o from ho)
      have d1:f7=false:=h1;clear hi ho h1;subst d1;obtain rfl:=nb cA rfl;simp only[Act.put,List.setIfInBounds_toArray,List.set_cons_zero,List.set_cons_succ];go_simp;refine(HRX.out Y (zA rfl)).mono ?_;rintro e Y1 ⟨rfl,hr⟩;try go_simp
      have hC2:=hC.call hr (hS.trans (hr.below hS.size (fun i hi=>(HOX.out i hi).1))) (fun j p h z=>by have:=ho1 j p h;have:=(HOX.out p z).2;omega);exact hK.out _ _ hC2.S ⟨true,false,f12,f13,f14,f15,x10,x11,_,x49,P,Q,_,rfl,rfl,hC2,ho1,kA,kB,pA,pB,fun _=>rfl,vB,nofun,fun _=>(eA rfl).trans hr (fun i hi=>.inl hi),Nat.le_trans s7 hr.size,fun _=>rfl,cB,cC⟩
     ·obtain rfl:=zqd (show some os14=some o from ho)
      have d1:f11=false:=h1;have d2:f7=true:=JN hi (o:=os14) (j:=2) rfl rfl rfl;clear hi ho h1;subst d1 d2;simp only[Act.put,List.setIfInBounds_toArray,List.set_cons_zero,List.set_cons_succ];go_simp;refine(HRZ.out Y (eA rfl)).mono ?_;rintro e Y1 ⟨rfl,hr⟩;try go_simp
      have hC2:=hC.call hr (hS.trans (hr.below hS.size (fun i hi=>Nat.le_trans HX25.out hi.1))) (fun j p h z=>by have:=ho1 j p h;omega);exact hK.out _ _ hC2.S ⟨true,true,f12,f13,f14,f15,x10,x11,_,_,P,Q,_,rfl,rfl,hC2,ho1,kA,kB,pA,pB,fun _=>rfl,fun _=>rfl,nofun,nofun,Nat.le_trans s7 hr.size,fun _=>rfl,cB,cC⟩
     ·obtain rfl:=zqd (show some os12=some o from ho)
      have d1:f12=false:=h1;clear hi ho h1;subst d1;obtain rfl:=nb cB rfl;have hC2:=hC.alloc 0 43 #[.int .i64 0,.int .i64 0];have hb:=jq Y (.cells #[.int .i64 0,.int .i64 0] 43);simp only[Act.put,List.setIfInBounds_toArray,List.set_cons_zero,List.set_cons_succ];go_simp;exact hK.out _ _ hC2.S ⟨f7,f11,true,f13,false,f15,_,x11,x45,x49,_,Q,_,rfl,rfl,hC2,upK_own ho1 fun p h=>(by rcases h with⟨_,rfl⟩|⟨h,_⟩;exact s7;cases h),rfl,kB,fun _=>rfl,pB,vA,vB,fun h=>(zA h).trans (hb.mono s7),fun h=>(eA h).alloc _,Nat.le_trans s7 hb.size,cA,fun _=>rfl,cC⟩
     ·obtain rfl:=zqd (show some os13=some o from ho)
      have d1:f13=false:=h1;clear hi ho h1;subst d1;obtain rfl:=nb cC rfl;have hC2:=hC.alloc 1 43 #[.int .i64 0,.int .i64 0];have hb:=jq Y (.cells #[.int .i64 0,.int .i64 0] 43);simp only[Act.put,List.setIfInBounds_toArray,List.set_cons_zero,List.set_cons_succ];go_simp;exact hK.out _ _ hC2.S ⟨f7,f11,f12,true,f14,false,x10,_,x45,x49,P,_,_,rfl,rfl,hC2,upK_own ho1 fun p h=>(by rcases h with⟨_,rfl⟩|⟨h,_⟩;exact s7;cases h),kA,rfl,pA,fun _=>rfl,vA,vB,fun h=>(zA h).trans (hb.mono s7),fun h=>(eA h).alloc _,Nat.le_trans s7 hb.size,cA,cB,fun _=>rfl⟩
     ·obtain rfl:=zqd (show some os15=some o from ho)
      have d1:f14=false:=h1;have d2:f12=true:=JN hi (o:=os15) (j:=0) rfl rfl rfl;have d3:f7=true:=JN hi (o:=os15) (j:=1) rfl rfl rfl;have d4:f11=true:=JN hi (o:=os15) (j:=2) rfl rfl rfl;clear hi ho h1;subst d1 d2 d3 d4;obtain rfl:=pA rfl;obtain rfl:=vA rfl;have fB:=(hC.c1 0 (by rw[kA];rfl)).1;rw[kA] at fB;replace fB:Y.heap[P]?=some (.cells #[.int .i64 0,.int .i64 0] 43 (0,0)):=fB;simp only[Act.put,List.setIfInBounds_toArray,List.set_cons_zero,List.set_cons_succ];rw[if_pos (by rfl)];refine wp_store_mid _ _ _ rfl P 0 #[.int .i64 k1,.int .i64 st1] rfl rfl (there2 fB) HIR.out (one_two _ _ rfl rfl) ?_;have hC2:=hC.sto 0 kA (.int .i64 k1) (.int .i64 st1);simp only[Act.put];exact hK.out _ _ hC2.S ⟨true,true,true,f13,true,f15,_,x11,_,x49,P,Q,_,rfl,rfl,hC2,upK_own ho1 fun p h=>ho1 0 p (by rw[kA];exact h),rfl,kB,pA,pB,vA,vB,nofun,nofun,Nat.le_trans s7 (fr_set2 Y P _ _).size,cA,fun _=>rfl,cC⟩
     ·obtain rfl:=zqd (show some os16=some o from ho)
      have d1:f15=false:=h1;have d2:f13=true:=JN hi (o:=os16) (j:=0) rfl rfl rfl;have d3:f11=true:=JN hi (o:=os16) (j:=1) rfl rfl rfl;clear hi ho h1;subst d1 d2 d3;obtain rfl:=cA rfl;obtain rfl:=pB rfl;obtain rfl:=vB rfl;have fB:=(hC.c1 1 (by rw[kB];rfl)).1;rw[kB] at fB;replace fB:Y.heap[Q]?=some (.cells #[.int .i64 0,.int .i64 0] 43 (0,0)):=fB;simp only[Act.put,List.setIfInBounds_toArray,List.set_cons_zero,List.set_cons_succ];rw[if_pos (by rfl)];refine wp_store_mid _ _ _ rfl Q 0 #[.int .i64 k2,.int .i64 st2] rfl rfl (there2 fB) HIR.out (one_two _ _ rfl rfl) ?_;have hC2:=hC.sto 1 kB (.int .i64 k2) (.int .i64 st2);simp only[Act.put];exact hK.out _ _ hC2.S ⟨true,true,f12,true,f14,true,x10,_,x45,_,P,Q,_,rfl,rfl,hC2,upK_own ho1 fun p h=>ho1 1 p (by rw[kB];exact h),kA,rfl,pA,pB,vA,vB,nofun,nofun,Nat.le_trans s7 (fr_set2 Y Q _ _).size,cA,cB,fun _=>rfl⟩
   case rest=>
    obtain⟨P,Q,rfl,rfl,hp,hq,hbx⟩:=hcut;have p0:=jb hp 0;have p1:=jb hp 1;have q0:=jb hq 0;have q1:=jb hq 1;replace p0:wc.cell? ⟨P,0,none⟩=some (.int .i64 k1):=p0;replace p1:wc.cell? ⟨P,1,none⟩=some (.int .i64 st1):=p1;replace q0:wc.cell? ⟨Q,0,none⟩=some (.int .i64 k2):=q0;replace q1:wc.cell? ⟨Q,1,none⟩=some (.int .i64 st2):=q1;have b2:=jl hbx s2;have b3:=jl hbx s3;have hkn:=HKN.out wc (HB2.out.1.trans (hbx.mono HB2.out.1.size));have HK:=hid hkn;have HBX:=hid (HB2.out.1.trans (hbx.mono HB2.out.1.size));obtain⟨g1,g2',g3,g4,g5,g6,g7,g8⟩:=HRN.out;have d0:decide (k1<1)=false:=decide_eq_false (by omega);have d1:decide (7<k1)=false:=decide_eq_false (by omega);have d2:decide (st1<0)=false:=decide_eq_false (by omega);have d3:decide (bu<st1)=false:=decide_eq_false (by omega);have d4:(k2==4)=false:=beq_eq_false_iff_ne.2 g5;clear hp hq hbx hkn s0 s1 s2 s3 s4 r0 r1 r2 r3 r4 y0 y1 y2 y3 y4;by_cases h4:k1=4
    ·obtain⟨i1,i2,i3⟩:=g6 h4
     have d5:(k1==4)=true:=by rw[h4];rfl
     have d6:decide (0<ts)=true:=decide_eq_true i1;have d7:decide (ts<=st1)=true:=decide_eq_true i2;have d8:decide (st1<=st2)=true:=decide_eq_true i3;clear g1 g2' g3 g4 g5 g6 g7 g8 h4 i1 i2 i3;go_wp2_with fail;refine HK.out.mono ?_;rintro e w9 ⟨rfl,hb9⟩;have HF:=hid (HBX.out.trans (hb9.mono HBX.out.size));clear hb9;go_wp2_with fail;go_ret;exact⟨rfl,HF.out⟩
    ·have d5:(k1==4)=false:=beq_eq_false_iff_ne.2 h4
     obtain⟨j1,j2⟩:=g7 h4;subst j1 j2;by_cases h3:k2=3
     ·have d6:(k2==3)=true:=by rw[h3];rfl
      have d7:(st2==bu)=true:=by rw[g8 h3];simp
      clear g1 g2' g3 g4 g5 g6 g7 g8 h4 h3;go_wp2_with fail;refine HK.out.mono ?_;rintro e w9 ⟨rfl,hb9⟩;have HF:=hid (HBX.out.trans (hb9.mono HBX.out.size));clear hb9;go_wp2_with fail;go_ret;exact⟨rfl,HF.out⟩
     ·have d6:(k2==3)=false:=beq_eq_false_iff_ne.2 h3
      clear g1 g2' g3 g4 g5 g6 g7 g8 h4 h3;go_wp2_with fail;refine HK.out.mono ?_;rintro e w9 ⟨rfl,hb9⟩;have HF:=hid (HBX.out.trans (hb9.mono HBX.out.size));clear hb9;go_wp2_with fail;go_ret;exact⟨rfl,HF.out⟩
end
section
open Go Go.ChangeShapes Go.WideShapes Go.ChangeAt Go.ChangeMaps Go.RowKit
theorem laidOut_ok:laidOutB prog=true:=by kernel_rfl
theorem again_any {H:Type} {enc:TypeId×Value->H} {t:TypeId} (hr:prog.readableRec t=true) (hrow:t<prog.types.size) {W W':World} {v:Value} {d:DataW H} {ps:List MemPlace} {sp:Nat->Bool}
  (h:DataW.Trod enc prog W 0 (fun _=>true) true t v d ps) (hb:Below W.heap.size W W') (hlt:∀x∈ps,x.block<W.heap.size) (hsp:∀q∈ps,sp q.block=true):
  DataW.Trod enc prog W' 0 sp true t v d ps:=
 WideElems.Trod_stays laidOut_ok hr hrow h (fun x hx=>hb.same (hlt x hx)) hsp
end
section
open Go Go.ChangeShapes Go.WideShapes Go.ChangeAt Go.ChangeMaps Go.RowKit Go.Deep
theorem cellsTry:prog.cellsOf 26=5:=by kernel_rfl
theorem QO:prog.cellsOf 3=1:=by kernel_rfl
theorem open_try {H:Type} {enc:TypeId×Value->H} {W:World} {b0:Nat} {v:Value} {d:DataW H} {p:List MemPlace} (hval:Value.okWide prog W .any b0 26 v)
  (hd:DataW.Trod enc prog W 0 (fun _=>true) true 26 v d p):∃a b c s e:Int,v=.agg #[.int .i64 a,.int .i64 b,.int .i64 c,.int .i64 s,.int .i64 e]/\ -9223372036854775808<=e/\e<=9223372036854775807:=by
 obtain⟨cs,rfl,hsz⟩:=okWide_struct Tryz.underlying26 hval;obtain⟨fuel,hf⟩:=hd;have hf:DataW.trod enc prog W 0 (fun _=>true) true fuel 26 cs.toList=some (d,p):=by simpa[Value.cells] using hf
 obtain⟨xs,n',_,hx,hlen,hyl,hg⟩:=DataW.trod_struct Tryz.underlying26 hf;rw[cellsTry] at hlen;obtain⟨L,hL⟩:∃L,cs.toList=L:=⟨_,rfl⟩;have hc:cs=L.toArray:=by rw[<-hL]
 rw[hL] at hlen hg;match L,hlen with
 |[c0,c1,c2,c3,c4],_=>
  match xs,hyl with
  |[y0,y1,y2,y3,y4],_=>
   have g0:=hg 0 _ rfl;have g1:=hg 1 _ rfl;have g2:=hg 2 _ rfl;have g3:=hg 3 _ rfl;have g4:=hg 4 _ rfl;have k:∀(j:Nat) (c:Value) (y:DataW H×List MemPlace),DataW.trod enc prog W 0 (fun _=>true) true n' 3 [c]=some y->∃z,c=.int .i64 z/\ -9223372036854775808<=z/\z<=9223372036854775807:=by
    intro _ c y h;obtain⟨z,e,_,w⟩:=DataW.trod_int Tryz.underlying3 h;have b: -9223372036854775808<=z/\z<=9223372036854775807:=by simpa[Lit.wf,IntKind.min,IntKind.max,IntKind.signed,IntKind.bits] using w
    simp only[List.cons.injEq,and_true] at e;exact⟨z,e,b⟩
   obtain⟨z0,rfl,_⟩:=k 0 c0 y0 (by simpa[QO] using g0);obtain⟨z1,rfl,_⟩:=k 1 c1 y1 (by simpa[QO] using g1);obtain⟨z2,rfl,_⟩:=k 2 c2 y2 (by simpa[QO] using g2);obtain⟨z3,rfl,_⟩:=k 3 c3 y3 (by simpa[QO] using g3);obtain⟨z4,rfl,b4⟩:=k 4 c4 y4 (by simpa[QO] using g4);exact⟨z0,z1,z2,z3,z4,by rw[hc],b4⟩
end
end Go.Proofs.YtklcmdoadmcpfaaGreatDoor
