/- A part of the proof of MachineMoves. Conditions: those that each theorem names. -/
import Derived.Test.YtklcmdoadmcpfaaGreatDoorQ32
set_option maxRecDepth 100000
set_option maxHeartbeats 400000000
namespace Go.Proofs.YtklcmdoadmcpfaaGreatDoor
open Go Go.RowKit IsaL
open Go.Lib(hid)
open Go.Proofs.Tryz(prog)
def ja3 (M:RM) (A:Int) (b c:RWd):RM×Int:=
 let most:=(M.budget-M.steps+1).toNat
 let r:=jco M b c most;let N:RM:={M with steps:=M.steps+(most-r.2:Nat)-1}
 if r.1=3 then(N,3) else if r.1=2 then Zf N (.I 5) else(N.reg A (.I r.1),0)
def doR (M:RM) (x:I5):RM×Int:=if x.1=15 then ja3 M x.2.1 (M.rg x.2.2.1.toNat) (M.rg x.2.2.2.1.toNat) else opR M x.1 x.2.1 x.2.2.1 x.2.2.2.1 x.2.2.2.2
def jbr (M:RM):Option I5:=if(jK M).place<0 then none else(jo M (jK M).code).ins[(jK M).place.toNat]?
def Zr (M:RM):RM×Int:=match jbr M with
 |none=>(M,7)
 |some x=>doR (M.top fun f=>{f with place:=f.place+1}) x
def Qs (stop:Int):Nat->RM->RM×Int
 |0,M=>(M,3)
 |n+1,M=>if 0<stop/\stop<=M.steps then(M,4) else if M.budget<=M.steps then(M,3) else
  match Zr {M with steps:=M.steps+1} with
  |(N,k)=>if k=0 then Qs stop n N else(N,k)
def Jv (M:RM) (budget:Int):RM:={M with budget:=min (max budget 0) 1099511627776,steps:=0,has:=[],frs:=[⟨M.entry,0,[]⟩],rg:=fun _=>.I 0,value:=.I 0}
def TrR (stop:Int):Nat->RM->Prop
 |0,_=>True
 |n+1,M=>(0<stop/\stop<=M.steps)\/M.budget<=M.steps\/((∃C,jaB M C)/\0<M.frs.length/\((Zr {M with steps:=M.steps+1}).2=0->TrR stop n (Zr {M with steps:=M.steps+1}).1))
structure jfc (M:RM):Prop where
 fr:M.frs=[]
 ha:M.has=[]
 rg:∀k,k<16->M.rg k=.I 0
section
variable {O:Nat->Prop} {w X:World} {g b:Nat} {C:CM} {R:Nat->Value} {vf vs vh:Value} {M:RM} {D:Nat->Prop} {f A:Nat->Nat} {E:List Nat} {k:Nat} {y:Fm}
section
variable (a:McAt O w g C b R vf vs vh) (ok:OkC C)
include a ok
theorem jqU (A:Nat) (hA:A<16) (op:Int) (B:Nat) (hB:B<16) (D:Nat) (hD:D<16) (n most:Int) {st:Int} (s0:0<=st) (s1:st<=1000000000) (HS0:∀Y,Below w.heap.size w Y->Calls prog 92 #[.pointer (some ⟨b,0,none⟩),.int .u64 (C.rg B:Int),.int .u64 (C.rg D:Int),.int .i64 most] Y fun e w'=>e=.returned (.tuple #[.int .i64 3,.int .i64 st,.int .i64 0])/\Below Y.heap.size Y w'):
  Calls prog 54 #[.pointer (some ⟨g,0,none⟩),.agg #[.int .i64 op,.int .i64 A,.int .i64 B,.int .i64 D,.int .i64 n],.int .i64 most] w fun e w'=>e=.returned (.tuple #[.int .i64 3,.int .i64 (st-1)])/\(∃R vf vs vh,McAt O w' g C b R vf vs vh)/\Fr O w w':=by
 obtain⟨X,hX,hblk,hb0,hF0,r0,r1,r2,r3,r4⟩:=ji O w op A B D n;have aX:=a.below hb0;have HW:=hid hX;have i0:(0:Int)<=(A:Int):=by omega
 have i1:(A:Int)<16:=by omega
 have HA:=hid aX;have HF:=hid hF0;have hgO:=a.og;have hib:g≠w.heap.size:=fun e=>by have:=a.bx.lt;omega
 have gB:=aX.regc hB;have i2:(0:Int)<=(B:Int):=by omega
 have i21:(B:Int)<16:=by omega
 obtain⟨x,hx⟩:∃x,C.rg B=x:=⟨_,rfl⟩;have hxl:=ok.rg B hB;have gD:=aX.regc hD;have i4:(0:Int)<=(D:Int):=by omega
 have i41:(D:Int)<16:=by omega
 obtain⟨z,hz⟩:∃z,C.rg D=z:=⟨_,rfl⟩;have hzl:=ok.rg D hD;rw[hx] at gB hxl HS0;rw[hz] at gD hzl HS0;have HSM:=hid (fun q=>(HS0 _ (Below.drewN' hb0 q)).mono fun e w' (h:_/\_)=>(zqf h.1 ((Below.drewN' (Below.refl _ X) q).trans h.2):_/\Below X.heap.size X w'));have hst:IntKind.i64.wrap (st-1)=st-1:=jv (by omega) (by omega);have c0:=aX.c0;have hwX:w.heap.size<X.heap.size:=by rw[<-hX];simp
 have HCA:=hid (fun Y (hY:Below X.heap.size X Y)=>show Y.cell? ⟨w.heap.size,1,none⟩=some (.int .i64 A) from(hY.cell (p:=⟨w.heap.size,1,none⟩) hwX).trans r1);have HCB:=hid (fun Y (hY:Below X.heap.size X Y)=>show Y.cell? ⟨g,0,none⟩=some (.pointer (some ⟨b,0,none⟩))/\Y.cell? ⟨w.heap.size,2,none⟩=some (.int .i64 B)/\Y.cell? ⟨w.heap.size,3,none⟩=some (.int .i64 D)/\Y.cell? ⟨g,2+B,none⟩=some (.int .u64 (x:Int))/\Y.cell? ⟨g,2+D,none⟩=some (.int .u64 (z:Int)) from⟨(aX.below hY).c0,(hY.cell (p:=⟨w.heap.size,2,none⟩) hwX).trans r2,(hY.cell (p:=⟨w.heap.size,3,none⟩) hwX).trans r3,hx▸(aX.below hY).regc hB,hz▸(aX.below hY).regc hD⟩);have HAB:=hid (fun Y (hY:Below X.heap.size X Y)=>aX.below hY);have HFB:=hid (fun Y (hY:Below X.heap.size X Y)=>hF0.trans (Fr.of_below hY) (fun i (hi:False)=>hi.elim));clear a ok hblk hb0 hF0 hX aX hA;clear hx hxl hB hz hzl hD HS0 s0 s1;go_enter Tryz.func54,Tryz.ntmps54;go_wp2_with fail;rw[HW.out];go_wp2_with fail;go_region_held3 (fun Y=>Y.cell? ⟨g,0,none⟩=some (.pointer (some ⟨b,0,none⟩))/\Y.cell? ⟨w.heap.size,2,none⟩=some (.int .i64 B)/\Y.cell? ⟨w.heap.size,3,none⟩=some (.int .i64 D)/\Y.cell? ⟨g,2+B,none⟩=some (.int .u64 (x:Int))/\Y.cell? ⟨g,2+D,none⟩=some (.int .u64 (z:Int))) (first|(with_reducible assumption)|exact⟨c0,r2,r3,gB,gD⟩|exact S5) (first|(go_at_call 92;refine(HSM.out 1).mono ?_;rintro e w5 ⟨rfl,hb5⟩;have S5:=HCB.out _ hb5;have A5:=hid (HAB.out _ hb5);have F5:=hid (HFB.out _ hb5);have C5:=HCA.out _ hb5));go_wp2_with fail;go_ret2;exact⟨rfl,⟨_,_,_,_,A5.out⟩,F5.out⟩
theorem jqT (A:Nat) (hA:A<16) (op:Int) (B:Nat) (hB:B<16) (D:Nat) (hD:D<16) (n most:Int) {st:Int} (s0:0<=st) (s1:st<=1000000000) (HS0:∀Y,Below w.heap.size w Y->Calls prog 92 #[.pointer (some ⟨b,0,none⟩),.int .u64 (C.rg B:Int),.int .u64 (C.rg D:Int),.int .i64 most] Y fun e w'=>e=.returned (.tuple #[.int .i64 2,.int .i64 st,.int .i64 0])/\Below Y.heap.size Y w'):
  Calls prog 54 #[.pointer (some ⟨g,0,none⟩),.agg #[.int .i64 op,.int .i64 A,.int .i64 B,.int .i64 D,.int .i64 n],.int .i64 most] w fun e w'=>∃c,c=Jm C 11/\e=.returned (.tuple #[.int .i64 c.2,.int .i64 (st-1)])/\(∃R vf vs vh,McAt O w' g c.1 b R vf vs vh)/\Fr O w w':=by
 obtain⟨X,hX,hblk,hb0,hF0,r0,r1,r2,r3,r4⟩:=ji O w op A B D n;have aX:=a.below hb0;have HW:=hid hX;have i0:(0:Int)<=(A:Int):=by omega
 have i1:(A:Int)<16:=by omega
 have HA:=hid aX;have HF:=hid hF0;have hgO:=a.og;have hib:g≠w.heap.size:=fun e=>by have:=a.bx.lt;omega
 have gB:=aX.regc hB;have i2:(0:Int)<=(B:Int):=by omega
 have i21:(B:Int)<16:=by omega
 obtain⟨x,hx⟩:∃x,C.rg B=x:=⟨_,rfl⟩;have hxl:=ok.rg B hB;have gD:=aX.regc hD;have i4:(0:Int)<=(D:Int):=by omega
 have i41:(D:Int)<16:=by omega
 obtain⟨z,hz⟩:∃z,C.rg D=z:=⟨_,rfl⟩;have hzl:=ok.rg D hD;rw[hx] at gB hxl HS0;rw[hz] at gD hzl HS0;have HSM:=hid (fun q=>(HS0 _ (Below.drewN' hb0 q)).mono fun e w' (h:_/\_)=>(zqf h.1 ((Below.drewN' (Below.refl _ X) q).trans h.2):_/\Below X.heap.size X w'));have hst:IntKind.i64.wrap (st-1)=st-1:=jv (by omega) (by omega);have c0:=aX.c0;have hwX:w.heap.size<X.heap.size:=by rw[<-hX];simp
 have HCA:=hid (fun Y (hY:Below X.heap.size X Y)=>show Y.cell? ⟨w.heap.size,1,none⟩=some (.int .i64 A) from(hY.cell (p:=⟨w.heap.size,1,none⟩) hwX).trans r1);have HCB:=hid (fun Y (hY:Below X.heap.size X Y)=>show Y.cell? ⟨g,0,none⟩=some (.pointer (some ⟨b,0,none⟩))/\Y.cell? ⟨w.heap.size,2,none⟩=some (.int .i64 B)/\Y.cell? ⟨w.heap.size,3,none⟩=some (.int .i64 D)/\Y.cell? ⟨g,2+B,none⟩=some (.int .u64 (x:Int))/\Y.cell? ⟨g,2+D,none⟩=some (.int .u64 (z:Int)) from⟨(aX.below hY).c0,(hY.cell (p:=⟨w.heap.size,2,none⟩) hwX).trans r2,(hY.cell (p:=⟨w.heap.size,3,none⟩) hwX).trans r3,hx▸(aX.below hY).regc hB,hz▸(aX.below hY).regc hD⟩);have HAB:=hid (fun Y (hY:Below X.heap.size X Y)=>aX.below hY);have HFB:=hid (fun Y (hY:Below X.heap.size X Y)=>hF0.trans (Fr.of_below hY) (fun i (hi:False)=>hi.elim));have HI:=hid (fun Y=>show Calls prog 41 #[.int .i64 5] Y (fun e w'=>e=.returned (.int .u64 ((11:Nat):Int))/\Y=w') from(qe 5 Y).mono fun e w' ⟨h1,h2⟩=>⟨by rw[h1];rfl,h2⟩);have HRA:=hid (fun Y (y:McAt O Y g C b R vf vs vh)=>QD y ok 11);clear a ok hblk hb0 hF0 hX aX hA;clear hx hxl hB hz hzl hD HS0 s0 s1;go_enter Tryz.func54,Tryz.ntmps54;go_wp2_with fail;rw[HW.out];go_wp2_with fail;go_region_held3 (fun Y=>Y.cell? ⟨g,0,none⟩=some (.pointer (some ⟨b,0,none⟩))/\Y.cell? ⟨w.heap.size,2,none⟩=some (.int .i64 B)/\Y.cell? ⟨w.heap.size,3,none⟩=some (.int .i64 D)/\Y.cell? ⟨g,2+B,none⟩=some (.int .u64 (x:Int))/\Y.cell? ⟨g,2+D,none⟩=some (.int .u64 (z:Int))) (first|(with_reducible assumption)|exact⟨c0,r2,r3,gB,gD⟩|exact S5) (first|(go_at_call 92;refine(HSM.out 1).mono ?_;rintro e w5 ⟨rfl,hb5⟩;have S5:=HCB.out _ hb5;have A5:=hid (HAB.out _ hb5);have F5:=hid (HFB.out _ hb5);have C5:=HCA.out _ hb5;have HR5:=hid (HRA.out _ A5.out)));go_wp2_with fail;refine(HI.out _).mono ?_;rintro e w' ⟨rfl,rfl⟩;go_wp2_with fail;refine HR5.out.mono ?_;rintro e w2 ⟨rfl,h2,hf2⟩;have H2:=hid (zqf h2 hf2);clear h2 hf2;go_wp2_with fail;go_ret2;exact⟨_,rfl,rfl,H2.out.1,F5.out.trans H2.out.2 (fun i hi=>.inl hi)⟩
theorem jvs (A:Nat) (hA:A<16) (op:Int) (B:Nat) (hB:B<16) (D:Nat) (hD:D<16) (n most:Int) {st:Int} (s0:0<=st) (s1:st<=1000000000) (HS0:∀Y,Below w.heap.size w Y->Calls prog 92 #[.pointer (some ⟨b,0,none⟩),.int .u64 (C.rg B:Int),.int .u64 (C.rg D:Int),.int .i64 most] Y fun e w'=>e=.returned (.tuple #[.int .i64 1,.int .i64 st,.int .i64 0])/\Below Y.heap.size Y w'):
  Calls prog 54 #[.pointer (some ⟨g,0,none⟩),.agg #[.int .i64 op,.int .i64 A,.int .i64 B,.int .i64 D,.int .i64 n],.int .i64 most] w fun e w'=>e=.returned (.tuple #[.int .i64 0,.int .i64 (st-1)])/\(∃R vf vs vh,McAt O w' g {C with rg:=jG C.rg A 3} b R vf vs vh)/\Fr O w w':=by
 obtain⟨X,hX,hblk,hb0,hF0,r0,r1,r2,r3,r4⟩:=ji O w op A B D n;have aX:=a.below hb0;have HW:=hid hX;have i0:(0:Int)<=(A:Int):=by omega
 have i1:(A:Int)<16:=by omega
 have HA:=hid aX;have HF:=hid hF0;have hgO:=a.og;have hib:g≠w.heap.size:=fun e=>by have:=a.bx.lt;omega
 have gB:=aX.regc hB;have i2:(0:Int)<=(B:Int):=by omega
 have i21:(B:Int)<16:=by omega
 obtain⟨x,hx⟩:∃x,C.rg B=x:=⟨_,rfl⟩;have hxl:=ok.rg B hB;have gD:=aX.regc hD;have i4:(0:Int)<=(D:Int):=by omega
 have i41:(D:Int)<16:=by omega
 obtain⟨z,hz⟩:∃z,C.rg D=z:=⟨_,rfl⟩;have hzl:=ok.rg D hD;rw[hx] at gB hxl HS0;rw[hz] at gD hzl HS0;have HSM:=hid (fun q=>(HS0 _ (Below.drewN' hb0 q)).mono fun e w' (h:_/\_)=>(zqf h.1 ((Below.drewN' (Below.refl _ X) q).trans h.2):_/\Below X.heap.size X w'));have hst:IntKind.i64.wrap (st-1)=st-1:=jv (by omega) (by omega);have c0:=aX.c0;have hwX:w.heap.size<X.heap.size:=by rw[<-hX];simp
 have HCA:=hid (fun Y (hY:Below X.heap.size X Y)=>show Y.cell? ⟨w.heap.size,1,none⟩=some (.int .i64 A) from(hY.cell (p:=⟨w.heap.size,1,none⟩) hwX).trans r1);have HCB:=hid (fun Y (hY:Below X.heap.size X Y)=>show Y.cell? ⟨g,0,none⟩=some (.pointer (some ⟨b,0,none⟩))/\Y.cell? ⟨w.heap.size,2,none⟩=some (.int .i64 B)/\Y.cell? ⟨w.heap.size,3,none⟩=some (.int .i64 D)/\Y.cell? ⟨g,2+B,none⟩=some (.int .u64 (x:Int))/\Y.cell? ⟨g,2+D,none⟩=some (.int .u64 (z:Int)) from⟨(aX.below hY).c0,(hY.cell (p:=⟨w.heap.size,2,none⟩) hwX).trans r2,(hY.cell (p:=⟨w.heap.size,3,none⟩) hwX).trans r3,hx▸(aX.below hY).regc hB,hz▸(aX.below hY).regc hD⟩);have HAB:=hid (fun Y (hY:Below X.heap.size X Y)=>aX.below hY);have HFB:=hid (fun Y (hY:Below X.heap.size X Y)=>hF0.trans (Fr.of_below hY) (fun i (hi:False)=>hi.elim));have HTR:=hid (fun Y=>show Calls prog 94 #[.bool true] Y (fun e w'=>e=.returned (.int .i64 1)/\Y=w') from jbk true Y);have HI:=hid (fun Y=>show Calls prog 41 #[.int .i64 1] Y (fun e w'=>e=.returned (.int .u64 ((3:Nat):Int))/\Y=w') from(qe 1 Y).mono fun e w' ⟨h1,h2⟩=>⟨by rw[h1];rfl,h2⟩);have HRG:=hid (fun Y (y:McAt O Y g C b R vf vs vh)=>y.reg hA 3);have HFZ:=hid (fun Y (y:McAt O Y g C b R vf vs vh)=>y.fz (2+A));have HGA:=hid (fun Y (y:McAt O Y g C b R vf vs vh)=>y.regc hA);clear a ok hblk hb0 hF0 hX aX hA;clear hx hxl hB hz hzl hD HS0 s0 s1;go_enter Tryz.func54,Tryz.ntmps54;go_wp2_with fail;rw[HW.out];go_wp2_with fail;go_region_held3 (fun Y=>Y.cell? ⟨g,0,none⟩=some (.pointer (some ⟨b,0,none⟩))/\Y.cell? ⟨w.heap.size,2,none⟩=some (.int .i64 B)/\Y.cell? ⟨w.heap.size,3,none⟩=some (.int .i64 D)/\Y.cell? ⟨g,2+B,none⟩=some (.int .u64 (x:Int))/\Y.cell? ⟨g,2+D,none⟩=some (.int .u64 (z:Int))) (first|(with_reducible assumption)|exact⟨c0,r2,r3,gB,gD⟩|exact S5) (first|(go_at_call 92;refine(HSM.out 1).mono ?_;rintro e w5 ⟨rfl,hb5⟩;have S5:=HCB.out _ hb5;have A5:=hid (HAB.out _ hb5);have F5:=hid (HFB.out _ hb5);have C5:=HCA.out _ hb5;have R5:=hid (HRG.out _ A5.out);have rz:=HFZ.out _ A5.out;have gA5:=HGA.out _ A5.out));go_wp2_with fail;go_region_held3 (fun Y=>Y.cell? ⟨w.heap.size,1,none⟩=some (.int .i64 A)) (first|(with_reducible assumption)|exact C5|exact(zV hib).trans C5) (first|(go_at_call 94;refine(HTR.out _).mono ?_;rintro e w' ⟨rfl,hw'⟩;subst w')|(go_at_call 41;refine(HI.out _).mono ?_;rintro e w' ⟨rfl,hw'⟩;subst w'));go_wp2_with fail;go_ret2;exact⟨rfl,⟨_,_,_,_,R5.out.drewN 1⟩,(F5.out.setCell (p:=⟨g,2+A,none⟩) (.inl hgO) _).drewN 1⟩
theorem jvr (A:Nat) (hA:A<16) (op:Int) (B:Nat) (hB:B<16) (D:Nat) (hD:D<16) (n most:Int) {st:Int} (s0:0<=st) (s1:st<=1000000000) (HS0:∀Y,Below w.heap.size w Y->Calls prog 92 #[.pointer (some ⟨b,0,none⟩),.int .u64 (C.rg B:Int),.int .u64 (C.rg D:Int),.int .i64 most] Y fun e w'=>e=.returned (.tuple #[.int .i64 0,.int .i64 st,.int .i64 0])/\Below Y.heap.size Y w'):
  Calls prog 54 #[.pointer (some ⟨g,0,none⟩),.agg #[.int .i64 op,.int .i64 A,.int .i64 B,.int .i64 D,.int .i64 n],.int .i64 most] w fun e w'=>e=.returned (.tuple #[.int .i64 0,.int .i64 (st-1)])/\(∃R vf vs vh,McAt O w' g {C with rg:=jG C.rg A 1} b R vf vs vh)/\Fr O w w':=by
 obtain⟨X,hX,hblk,hb0,hF0,r0,r1,r2,r3,r4⟩:=ji O w op A B D n;have aX:=a.below hb0;have HW:=hid hX;have i0:(0:Int)<=(A:Int):=by omega
 have i1:(A:Int)<16:=by omega
 have HA:=hid aX;have HF:=hid hF0;have hgO:=a.og;have hib:g≠w.heap.size:=fun e=>by have:=a.bx.lt;omega
 have gB:=aX.regc hB;have i2:(0:Int)<=(B:Int):=by omega
 have i21:(B:Int)<16:=by omega
 obtain⟨x,hx⟩:∃x,C.rg B=x:=⟨_,rfl⟩;have hxl:=ok.rg B hB;have gD:=aX.regc hD;have i4:(0:Int)<=(D:Int):=by omega
 have i41:(D:Int)<16:=by omega
 obtain⟨z,hz⟩:∃z,C.rg D=z:=⟨_,rfl⟩;have hzl:=ok.rg D hD;rw[hx] at gB hxl HS0;rw[hz] at gD hzl HS0;have HSM:=hid (fun q=>(HS0 _ (Below.drewN' hb0 q)).mono fun e w' (h:_/\_)=>(zqf h.1 ((Below.drewN' (Below.refl _ X) q).trans h.2):_/\Below X.heap.size X w'));have hst:IntKind.i64.wrap (st-1)=st-1:=jv (by omega) (by omega);have c0:=aX.c0;have hwX:w.heap.size<X.heap.size:=by rw[<-hX];simp
 have HCA:=hid (fun Y (hY:Below X.heap.size X Y)=>show Y.cell? ⟨w.heap.size,1,none⟩=some (.int .i64 A) from(hY.cell (p:=⟨w.heap.size,1,none⟩) hwX).trans r1);have HCB:=hid (fun Y (hY:Below X.heap.size X Y)=>show Y.cell? ⟨g,0,none⟩=some (.pointer (some ⟨b,0,none⟩))/\Y.cell? ⟨w.heap.size,2,none⟩=some (.int .i64 B)/\Y.cell? ⟨w.heap.size,3,none⟩=some (.int .i64 D)/\Y.cell? ⟨g,2+B,none⟩=some (.int .u64 (x:Int))/\Y.cell? ⟨g,2+D,none⟩=some (.int .u64 (z:Int)) from⟨(aX.below hY).c0,(hY.cell (p:=⟨w.heap.size,2,none⟩) hwX).trans r2,(hY.cell (p:=⟨w.heap.size,3,none⟩) hwX).trans r3,hx▸(aX.below hY).regc hB,hz▸(aX.below hY).regc hD⟩);have HAB:=hid (fun Y (hY:Below X.heap.size X Y)=>aX.below hY);have HFB:=hid (fun Y (hY:Below X.heap.size X Y)=>hF0.trans (Fr.of_below hY) (fun i (hi:False)=>hi.elim));have HTR:=hid (fun Y=>show Calls prog 94 #[.bool false] Y (fun e w'=>e=.returned (.int .i64 0)/\Y=w') from jbk false Y);have HI:=hid (fun Y=>show Calls prog 41 #[.int .i64 0] Y (fun e w'=>e=.returned (.int .u64 ((1:Nat):Int))/\Y=w') from(qe 0 Y).mono fun e w' ⟨h1,h2⟩=>⟨by rw[h1];rfl,h2⟩);have HRG:=hid (fun Y (y:McAt O Y g C b R vf vs vh)=>y.reg hA 1);have HFZ:=hid (fun Y (y:McAt O Y g C b R vf vs vh)=>y.fz (2+A));have HGA:=hid (fun Y (y:McAt O Y g C b R vf vs vh)=>y.regc hA);clear a ok hblk hb0 hF0 hX aX hA;clear hx hxl hB hz hzl hD HS0 s0 s1;go_enter Tryz.func54,Tryz.ntmps54;go_wp2_with fail;rw[HW.out];go_wp2_with fail;go_region_held3 (fun Y=>Y.cell? ⟨g,0,none⟩=some (.pointer (some ⟨b,0,none⟩))/\Y.cell? ⟨w.heap.size,2,none⟩=some (.int .i64 B)/\Y.cell? ⟨w.heap.size,3,none⟩=some (.int .i64 D)/\Y.cell? ⟨g,2+B,none⟩=some (.int .u64 (x:Int))/\Y.cell? ⟨g,2+D,none⟩=some (.int .u64 (z:Int))) (first|(with_reducible assumption)|exact⟨c0,r2,r3,gB,gD⟩|exact S5) (first|(go_at_call 92;refine(HSM.out 1).mono ?_;rintro e w5 ⟨rfl,hb5⟩;have S5:=HCB.out _ hb5;have A5:=hid (HAB.out _ hb5);have F5:=hid (HFB.out _ hb5);have C5:=HCA.out _ hb5;have R5:=hid (HRG.out _ A5.out);have rz:=HFZ.out _ A5.out;have gA5:=HGA.out _ A5.out));go_wp2_with fail;go_region_held3 (fun Y=>Y.cell? ⟨w.heap.size,1,none⟩=some (.int .i64 A)) (first|(with_reducible assumption)|exact C5|exact(zV hib).trans C5) (first|(go_at_call 94;refine(HTR.out _).mono ?_;rintro e w' ⟨rfl,hw'⟩;subst w')|(go_at_call 41;refine(HI.out _).mono ?_;rintro e w' ⟨rfl,hw'⟩;subst w'));go_wp2_with fail;go_ret2;exact⟨rfl,⟨_,_,_,_,R5.out.drewN 1⟩,(F5.out.setCell (p:=⟨g,2+A,none⟩) (.inl hgO) _).drewN 1⟩
end
def jtA (O:Nat->Prop) (w:World) (g b:Nat) (r:RM×Int) (st:Int) (e:Ending) (w':World):Prop:=∃c:CM×Int,e=.returned (.tuple #[.int .i64 c.2,.int .i64 st])/\(∃R vf vs vh,McAt O w' g c.1 b R vf vs vh)/\Fr O w w'/\Rel c r
theorem Sim.steps (s:Sim M C D f A) (n:Int):Sim {M with steps:=n} C D f A:={s with}
theorem Usd.steps (u:Usd M E) (n:Int):Usd {M with steps:=n} E:=⟨u.nd,u.lt,⟨u.co.rt,u.co.cl⟩,u.us⟩
theorem jqY (h:Pre O w g b C R vf vs vh M D f A E k y) {op a c d n:Int} (i:Qu a c d n) (hb0:M.steps<=M.budget+1) (hb1:M.budget-M.steps<=190000):
  Calls prog 54 #[.pointer (some ⟨g,0,none⟩),.agg #[.int .i64 op,.int .i64 a,.int .i64 c,.int .i64 d,.int .i64 n],.int .i64 (M.budget-M.steps+1)] w fun e w'=>jtA O w g b (ja3 M a (M.rg c.toNat) (M.rg d.toNat)) ((ja3 M a (M.rg c.toNat) (M.rg d.toNat)).1.steps-M.steps) e w':=by
 obtain⟨a,rfl⟩:=jM i.a0;obtain⟨c,rfl⟩:=jM i.b0;obtain⟨d,rfl⟩:=jM i.c0;have ha:a<16:=by have:=i.a1;omega
 have hc:c<16:=by have:=i.b1;omega
 have hd:d<16:=by have:=i.c1;omega
 have ok:=h.s.ok;have e1:=h.s.rg c hc;have g1:=h.get hc;have e2:=h.s.rg d hd;have g2:=h.get hd;rw[show((c:Int)).toNat=c from rfl,show((d:Int)).toNat=d from rfl];obtain⟨r,hr⟩:∃r,jco M (M.rg c) (M.rg d) (M.budget-M.steps+1).toNat=r:=⟨_,rfl⟩;obtain⟨ans,left⟩:=r;have hans:=jgz M (M.rg c) (M.rg d) (M.budget-M.steps+1).toNat
 rw[hr] at hans;obtain⟨st,hst⟩:∃st:Int,((((M.budget-M.steps+1).toNat-left:Nat)):Int)=st:=⟨_,rfl⟩;have hsame:∀Y,Below w.heap.size w Y->Calls prog 92 #[.pointer (some ⟨b,0,none⟩),.int .u64 (C.rg c:Int),.int .u64 (C.rg d:Int),.int .i64 (M.budget-M.steps+1)] Y fun e w'=>e=.returned (.tuple #[.int .i64 (ans:Int),.int .i64 st,.int .i64 0])/\Below Y.heap.size Y w':=fun Y hY=>by
  refine(jow (h.a.below hY).m (h.a.below hY).z (C.rg c) (C.rg d) (ok.rg c hc) (ok.rg d hd) _ (by omega) (by omega)).mono ?_;rintro e w' ⟨h1,h2⟩;refine⟨?_,h2⟩;rw[h1,e1,e2,h.s.same g1 g2,hr];unfold jkj;have h4:¬ans=4:=by have:=hans.1;omega
  simp only[if_neg h4];rw[hst]
 have hheld:ja3 M a (M.rg c) (M.rg d)=(if ans=3 then({M with steps:=M.steps+st-1},3) else if ans=2 then Zf {M with steps:=M.steps+st-1} (.I 5) else(RM.reg {M with steps:=M.steps+st-1} a (.I ans),0)):=by
  unfold ja3;simp only[hr,hst]
 have hsN:=fun q:Int=>h.s.steps q;have huN:=fun q:Int=>h.u.steps q;have hsteps:(ja3 M a (M.rg c) (M.rg d)).1.steps-M.steps=st-1:=by
  rw[hheld];split
  ·show M.steps+st-1-M.steps=_;omega
  ·split
   ·have:(Zf {M with steps:=M.steps+st-1} (.I 5)).1.steps=M.steps+st-1:=by unfold Zf;split<;>rfl
    rw[this];omega
   ·show M.steps+st-1-M.steps=_;omega
 rw[hsteps,hheld];have s0:0<=st:=by omega
 have s1:st<=1000000000:=by omega
 by_cases q3:ans=3
 ·subst q3
  rw[if_pos rfl];refine(jqU h.a ok a ha op c hc d hd n _ s0 s1 hsame).mono ?_;rintro e w' ⟨h1,h2,h3⟩;exact⟨(C,3),h1,h2,h3,.stop (hsN _) (huN _) (by decide) rfl rfl⟩
 rw[if_neg q3];by_cases q2:ans=2
 ·subst q2
  rw[if_pos rfl];refine(jqT h.a ok a ha op c hc d hd n _ s0 s1 hsame).mono ?_;rintro e w' ⟨c',rfl,h1,h2,h3⟩;exact⟨_,h1,h2,h3,Q7 (hsN _) (huN _) (Je (D:=D) (E:=E) (n:=5) ⟨by decide,by decide⟩) (x:=11) rfl⟩
 rw[if_neg q2];by_cases q1:ans=1
 ·subst q1
  refine(jvs h.a ok a ha op c hc d hd n _ s0 s1 hsame).mono ?_;rintro e w' ⟨h1,h2,h3⟩;exact⟨_,h1,h2,h3,.reg (hsN _) (huN _) a (v:=.I _) (Je ⟨by decide,by decide⟩) rfl⟩
 ·obtain rfl:ans=0:=by have:=hans.1;omega
  refine(jvr h.a ok a ha op c hc d hd n _ s0 s1 hsame).mono ?_;rintro e w' ⟨h1,h2,h3⟩;exact⟨_,h1,h2,h3,.reg (hsN _) (huN _) a (v:=.I _) (Je ⟨by decide,by decide⟩) rfl⟩
end
namespace IsaL
open Go Go.RowKit
theorem jff {o a b c n:Int} (h:zq o a b c n=0):0<=Qx o a b c n/\Qx o a b c n<18446744073709551616:=by
 obtain⟨g0,g1⟩:=jb4 h;obtain⟨k,rfl⟩:=Int.eq_ofNat_of_zero_le (show 0<=o by omega);rw[Ja (by omega) (by omega)] at h;obtain⟨⟨ha0,ha1⟩,⟨hb0,hb1⟩,⟨hc0,hc1⟩,hn0,hn1⟩:=jaq h;unfold Qx;omega
def jaH (o a b c n:Int):Nat:=(Qx o a b c n).toNat
theorem jmO {o a b c n:Int} (h:zq o a b c n=0):((jaH o a b c n:Nat):Int)=Qx o a b c n:=by
 have:=(jff h).1;unfold jaH;omega
theorem jrV {o a b c n:Int} (h:zq o a b c n=0):jaH o a b c n<18446744073709551616:=by
 have:=jff h;unfold jaH;omega
theorem jf1 {o a b c n:Int} (h:zq o a b c n=0):oN (jaH o a b c n)=o/\aN (jaH o a b c n)=a/\bN (jaH o a b c n)=b/\cN (jaH o a b c n)=c/\sN (jaH o a b c n)=n:=by
 have hc:=jmO h;obtain⟨g0,g1⟩:=jb4 h;obtain⟨k,rfl⟩:=Int.eq_ofNat_of_zero_le (show 0<=o by omega);rw[Ja (by omega) (by omega)] at h;obtain⟨⟨ha0,ha1⟩,⟨hb0,hb1⟩,⟨hc0,hc1⟩,hn0,hn1⟩:=jaq h;generalize jaH k a b c n=N at hc;unfold Qx at hc;unfold oN aN bN cN sN;refine⟨by omega,by omega,by omega,by omega,?_⟩;split<;>omega
theorem jpp {o a b c n:Int} (h:zq o a b c n=0):jac (jaH o a b c n)=0:=by
 obtain⟨e0,e1,e2,e3,e4⟩:=jf1 h;unfold jac;rw[e0,e1,e2,e3,e4,h]
end IsaL
section
variable {O:Nat->Prop} {w X:World} {g b:Nat} {C:CM} {R:Nat->Value} {vf vs vh:Value} {M:RM} {D:Nat->Prop} {f A:Nat->Nat} {E:List Nat} {k:Nat} {y:Fm}
theorem jmQ (a:McAt O w g C b R vf vs vh) (ok:OkC C) (hO:∀i,w.heap.size<=i->O i) (fl:C.fr.length=k+1) (fy:C.fr[k]?=some y) {p:Nat} (hp:y.place=p) (hlt:p<y.ins) {o:Ob} (ho:jD C y.code=some o) {N:Nat} (hl:y.lits+p<o.ws.length) (hN:o.ws.getD (y.lits+p) 0=N) {io ia ib ic inn:Int}
  (hD:∀Y,Below w.heap.size w Y->Calls prog 91 #[.int .u64 (N:Int)] Y fun e w'=>e=.returned (.tuple #[.agg #[.int .i64 io,.int .i64 ia,.int .i64 ib,.int .i64 ic,.int .i64 inn],.int .i64 0])/\Below Y.heap.size Y w'):
  Calls prog 53 #[.pointer (some ⟨g,0,none⟩)] w fun e w'=>e=.returned (.tuple #[.agg #[.int .i64 io,.int .i64 ia,.int .i64 ib,.int .i64 ic,.int .i64 inn],.bool true])/\(∃R vf vs vh,McAt O w' g {C with fr:=C.fr.set k {y with place:=((p+1:Nat):Int)}} b R vf vs vh)/\Fr O w w':=by
 have hfs:=ok.fs y (zqc fy);have hcl:=ok.fc y (zqc fy);have hn1:=ok.n1;obtain⟨X,hX⟩:∃X,w.alloc (.cells #[.int .i64 0,.int .i64 0,.int .i64 0,.int .i64 0,.int .i64 0] 41)=X:=⟨_,rfl⟩;have hblk:=zqe w (.cells #[.int .i64 0,.int .i64 0,.int .i64 0,.int .i64 0,.int .i64 0] 41);have hbX:=jq w (.cells #[.int .i64 0,.int .i64 0,.int .i64 0,.int .i64 0,.int .i64 0] 41);rw[hX] at hblk hbX;have HXE:=hid hX;have aX:=a.below hbX;have x0:=aX.c0;obtain⟨fg,fc,hv⟩:=aX.fshape (by omega);rw[fl] at hv;have hfw:fg<w.heap.size:=jC a.of (i:=fg) (by rw[hv];rfl);have f0:X.cell? ⟨fg,k*5,none⟩=some (.int .u64 (y.code:Int)):=aX.fcell hv fy (j:=0) rfl;have f1:=aX.fcell hv fy (j:=1) rfl;have f2:=aX.fcell hv fy (j:=2) rfl;have f3:=aX.fcell hv fy (j:=3) rfl;obtain⟨cw,hcw⟩:∃cw,y.code=cw:=⟨_,rfl⟩;obtain⟨li,hli⟩:∃li,y.lits=li:=⟨_,rfl⟩;obtain⟨n,hn⟩:∃n,y.ins=n:=⟨_,rfl⟩;rw[hcw] at f0 ho hcl;rw[hp] at f1;rw[hli] at f2 hl hN hfs;rw[hn] at f3 hlt hfs;obtain⟨P,hP⟩:∃P,jc (cw:Int)=P:=⟨_,rfl⟩;have HTP:=hid (jct aX hv (by omega));have HT:=hid (fun Y=>show Calls prog 90 #[.int .u64 (cw:Int)] Y (fun e w'=>e=.returned (.int .i64 P)/\Y=w') from(jQ (cw:Int) Y (by omega) (by omega)).mono fun e w' ⟨h1,h2⟩=>⟨by rw[h1,hP],h2⟩);obtain⟨lp,hlp⟩:∃lp,li+p=lp:=⟨_,rfl⟩;rw[hlp] at hl hN;have HL:=(fun(q:Nat)=>show Calls prog 68 #[.pointer (some ⟨b,0,none⟩),.int .i64 (jc (cw:Int)),.int .i64 (lp:Int)] (X.drewN q) (fun e w'=>e=.returned (.tuple #[.int .u64 (N:Int),.int .i64 0])/\∃q',w'=X.drewN q') from
  (jgf (aX.drewN q) ho hl).mono fun e w' ⟨h1,q',h2⟩=>⟨by rw[h1,hN],q+q',by rw[h2,World.drewN_drewN]⟩)
 rw[hP] at HL;have HL:=hid HL;have HBX:=hid (zqf hbX (zqf aX hblk));have HDD:=hid hD;have HFW:=hid hfw;have HA:=hid aX;have HO:=hid hO;have HSP:=hid (fun Y (y':McAt O Y g C b R vf vs vh)=>y'.setPlace hv fl fy ((p:Int)+1));have HNO:=hid (show g≠w.heap.size/\(∀i,Own b R i->i≠w.heap.size)/\(∀i,vf.ownBlock=some i->i≠w.heap.size)/\(∀i,vs.ownBlock=some i->i≠w.heap.size)/\(∀i,vh.ownBlock=some i->i≠w.heap.size) from⟨by have:=a.bx.lt;omega,fun i hi=>by have:=a.m.own_lt i hi;omega,fun i hi=>by have:=jC a.of hi;omega,fun i hi=>by have:=jC a.os hi;omega,fun i hi=>by have:=jC a.oh hi;omega⟩);have HFO:=hid (a.o1 fg (by rw[hv];rfl));have HFY:=hid fy;have HFL:=hid fl;have HP1:=hid (show y.cells[1]?=some (.int .i64 (p:Int)) from by rw[<-hp];rfl);have d0:decide ((p:Int)<0)=false:=zqq (by omega);have d1:decide ((n:Int)<=(p:Int))=false:=zqq (by omega);have d2:decide (n<=p)=false:=zqq (by omega);have hwk:IntKind.i64.wrap ((p:Int)+1)=((p+1:Nat):Int):=(jv (by omega) (by omega)).trans (by omega);have hwl:IntKind.i64.wrap ((li:Int)+(p:Int))=(lp:Int):=(jv (by omega) (by omega)).trans (by omega);clear a aX ok hO fy hp hlt ho hl hN hD hX hblk hbX hcw hli hn hfs hcl hn1 hP hlp;go_enter Tryz.func53,Tryz.ntmps53;go_wp2_with fail;rw[HXE.out];go_wp2_with fail;refine(HTP.out).mono ?_;rintro e w1 ⟨rfl,q,hq⟩;subst w1;go_wp2_with fail;go_quiet (fail);obtain⟨q2,hq2⟩:∃q2,(X.drewN q).drewN nq=X.drewN q2:=⟨_,World.drewN_drewN ..⟩;rw[hq2];go_wp2_with fail;have hd:X.cell? ⟨g,0,none⟩=some (.pointer (some ⟨b,0,none⟩))/\X.cell? ⟨fg,k*5,none⟩=some (.int .u64 (cw:Int))/\X.cell? ⟨fg,k*5+2,none⟩=some (.int .i64 (li:Int))/\X.cell? ⟨fg,k*5+1,none⟩=some (.int .i64 (p:Int)):=⟨x0,f0,f2,f1⟩;go_region_held3 (fun Y=>Y.cell? ⟨g,0,none⟩=some (.pointer (some ⟨b,0,none⟩))/\Y.cell? ⟨fg,k*5,none⟩=some (.int .u64 (cw:Int))/\Y.cell? ⟨fg,k*5+2,none⟩=some (.int .i64 (li:Int))/\Y.cell? ⟨fg,k*5+1,none⟩=some (.int .i64 (p:Int)))
  (first|(with_reducible assumption)|exact hd|(rw[hw5];exact hd))
  (first|(go_at_call 90;(with_reducible refine(HT.out _).mono ?_);rintro e w' ⟨rfl,hw'⟩;subst w')|(go_at_call 68;(with_reducible refine(HL.out (q2+1)).mono ?_);rintro e w5 ⟨rfl,q5,hw5⟩))
 subst w5;have HDQ:=hid (HDD.out (X.drewN q5) (Below.drewN' HBX.out.1 q5));go_wp2_with fail;refine HDQ.out.mono ?_;rintro e w6 ⟨rfl,hb6⟩;have hb6:Below X.heap.size X w6:=⟨hb6.os,hb6.tape,hb6.output,hb6.size,hb6.block⟩;have hb7:=jq w6 (.cells #[.int .i64 io,.int .i64 ia,.int .i64 ib,.int .i64 ic,.int .i64 inn] 41);have hn7:=zqe w6 (.cells #[.int .i64 io,.int .i64 ia,.int .i64 ib,.int .i64 ic,.int .i64 inn] 41);have hlX:=(zqa HBX.out.2.2).1;have rb:=(hb7.block w.heap.size (by have:=hb6.size;omega)).trans ((hb6.block w.heap.size hlX).trans HBX.out.2.2);have A7:=hid ((HA.out.below hb6).below hb7);obtain⟨X7,hX7⟩:∃X7,w6.alloc (.cells #[.int .i64 io,.int .i64 ia,.int .i64 ib,.int .i64 ic,.int .i64 inn] 41)=X7:=⟨_,rfl⟩;obtain⟨t7,ht7⟩:∃t7,w6.heap.size=t7:=⟨_,rfl⟩;have hwr:w.heap.size<t7:=by have:=hb6.size;omega
 have hall:=hid (HBX.out.1.trans ((hb6.trans (hb7.mono hb6.size)).mono HBX.out.1.size));have hfw:fg<w.heap.size:=HFW.out;have HX7:=hid (zqf hX7 (zqf hn7 rb));have HT7:=hid ht7;clear hb6 f0 f1 f2 f3 x0 hX7 ht7 hb7 hn7 rb hlX hd;go_upto_region 6 with fail;rw[HX7.out.1,HT7.out];have hn7:=HX7.out.2.1;rw[HX7.out.1,HT7.out] at hn7;have rb:=HX7.out.2.2;rw[HX7.out.1] at rb;have A8:=A7.out;rw[HX7.out.1] at A8;have f1:=A8.fcell hv HFY.out (j:=1) HP1.out;have gz:X7.frozen? ⟨fg,k*5+1,none⟩=false:=by
  have:=A8.of;rw[hv,HFL.out] at this;exact this.frozenAt _
 have i0:X7.cell? ⟨t7,0,none⟩=some (.int .i64 io):=jb hn7 0;have i1:X7.cell? ⟨t7,1,none⟩=some (.int .i64 ia):=jb hn7 1;have i2:X7.cell? ⟨t7,2,none⟩=some (.int .i64 ib):=jb hn7 2;have i3:X7.cell? ⟨t7,3,none⟩=some (.int .i64 ic):=jb hn7 3;have i4:X7.cell? ⟨t7,4,none⟩=some (.int .i64 inn):=jb hn7 4;have r0:X7.cell? ⟨w.heap.size,0,none⟩=some (.int .i64 0):=jb rb 0;have r1:X7.cell? ⟨w.heap.size,1,none⟩=some (.int .i64 0):=jb rb 1;have r2:X7.cell? ⟨w.heap.size,2,none⟩=some (.int .i64 0):=jb rb 2;have r3:X7.cell? ⟨w.heap.size,3,none⟩=some (.int .i64 0):=jb rb 3;have r4:X7.cell? ⟨w.heap.size,4,none⟩=some (.int .i64 0):=jb rb 4;have z0:=jF rb 0;have z1:=jF rb 1;have z2:=jF rb 2;have z3:=jF rb 3;have z4:=jF rb 4;have n1:fg≠t7:=by omega
 have n2:t7≠fg:=by omega
 have n3:w.heap.size≠fg:=by omega
 have n4:fg≠w.heap.size:=by omega
 have n5:w.heap.size≠t7:=by omega
 have n6:t7≠w.heap.size:=by omega
 have H8:=hid (HSP.out _ A8);have hall8:=hall.out;rw[HX7.out.1] at hall8;have HA8:=hid hall8;clear hn7 rb A8 hall8;go_wp2_with fail;refine bodyPost_ret (v:=.tuple #[.agg #[.int .i64 io,.int .i64 ia,.int .i64 ib,.int .i64 ic,.int .i64 inn],.bool true]) (by simp[results,Tryz.results53,go_sem,r0,r1,r2,r3,r4]) rfl ⟨rfl,?_,?_⟩
 ·rw[show((p+1:Nat):Int)=(p:Int)+1 from by omega]
  obtain⟨o1,o2,o3,o4,o5⟩:=HNO.out;exact⟨_,_,_,_,H8.out.kept (P:=(·=w.heap.size)) ((((((Fr.refl (·=w.heap.size) _).setCell (p:=⟨w.heap.size,0,none⟩) (.inl rfl) _).setCell (p:=⟨w.heap.size,1,none⟩) (.inl rfl) _).setCell (p:=⟨w.heap.size,2,none⟩) (.inl rfl) _).setCell (p:=⟨w.heap.size,3,none⟩) (.inl rfl) _).setCell (p:=⟨w.heap.size,4,none⟩) (.inl rfl) _) o1 o2 o3 o4 o5⟩
 ·exact(((((((Fr.of_below (O:=O) HA8.out).setCell (p:=⟨fg,k*5+1,none⟩) (.inl HFO.out) _).setCell (p:=⟨w.heap.size,0,none⟩) (.inl (HO.out _ (zqg _))) _).setCell (p:=⟨w.heap.size,1,none⟩) (.inl (HO.out _ (zqg _))) _).setCell (p:=⟨w.heap.size,2,none⟩) (.inl (HO.out _ (zqg _))) _).setCell (p:=⟨w.heap.size,3,none⟩) (.inl (HO.out _ (zqg _))) _).setCell (p:=⟨w.heap.size,4,none⟩) (.inl (HO.out _ (zqg _))) _)
theorem jpt (a:McAt O w g C b R vf vs vh) (ok:OkC C) (fl:C.fr.length=k+1) (fy:C.fr[k]?=some y) (hp:y.place<0\/(y.ins:Int)<=y.place):
  Calls prog 53 #[.pointer (some ⟨g,0,none⟩)] w fun e w'=>e=.returned (.tuple #[.agg #[.int .i64 0,.int .i64 0,.int .i64 0,.int .i64 0,.int .i64 0],.bool false])/\Below w.heap.size w w':=by
 have hfs:=ok.fs y (zqc fy);have hpp:=ok.fp y (zqc fy);have hn1:=ok.n1;obtain⟨X,hX⟩:∃X,w.alloc (.cells #[.int .i64 0,.int .i64 0,.int .i64 0,.int .i64 0,.int .i64 0] 41)=X:=⟨_,rfl⟩;have hblk:=zqe w (.cells #[.int .i64 0,.int .i64 0,.int .i64 0,.int .i64 0,.int .i64 0] 41);have hbX:=jq w (.cells #[.int .i64 0,.int .i64 0,.int .i64 0,.int .i64 0,.int .i64 0] 41);rw[hX] at hblk hbX;have HXE:=hid hX;have aX:=a.below hbX;obtain⟨fg,fc,hv⟩:=aX.fshape (by omega);rw[fl] at hv;have f1:=aX.fcell hv fy (j:=1) rfl;have f3:=aX.fcell hv fy (j:=3) rfl;obtain⟨p,hp1⟩:∃p,y.place=p:=⟨_,rfl⟩;obtain⟨n,hn⟩:∃n,y.ins=n:=⟨_,rfl⟩;rw[hp1] at f1 hp hpp;rw[hn] at f3 hp;have HTP:=hid (jct aX hv (by omega));have HBX:=hid (zqf hbX hblk);have hcase:(decide (p<0)=true)\/(decide (p<0)=false/\decide ((n:Int)<=p)=true):=by
  by_cases q:p<0
  ·exact .inl (zqr q)
  ·exact .inr ⟨zqq q,zqr (by omega)⟩
 clear a aX ok fy hp hX hbX hn hfs hn1 hpp;rcases hcase with d0|⟨d0,d1⟩;all_goals
  have r0:X.cell? ⟨w.heap.size,0,none⟩=some (.int .i64 0):=jb hblk 0;have r1:X.cell? ⟨w.heap.size,1,none⟩=some (.int .i64 0):=jb hblk 1;have r2:X.cell? ⟨w.heap.size,2,none⟩=some (.int .i64 0):=jb hblk 2;have r3:X.cell? ⟨w.heap.size,3,none⟩=some (.int .i64 0):=jb hblk 3;have r4:X.cell? ⟨w.heap.size,4,none⟩=some (.int .i64 0):=jb hblk 4;have z0:=jF hblk 0;have z1:=jF hblk 1;have z2:=jF hblk 2;have z3:=jF hblk 3;have z4:=jF hblk 4;clear hblk;go_enter Tryz.func53,Tryz.ntmps53;go_wp2_with fail;rw[HXE.out];go_wp2_with fail;refine(HTP.out).mono ?_;rintro e w1 ⟨rfl,q,hq⟩;subst w1;go_wp2_with fail;go_quiet (fail);obtain⟨q2,hq2⟩:∃q2,(X.drewN q).drewN nq=X.drewN q2:=⟨_,World.drewN_drewN ..⟩;rw[hq2];go_wp2_with fail;refine bodyPost_ret (v:=.tuple #[.agg #[.int .i64 0,.int .i64 0,.int .i64 0,.int .i64 0,.int .i64 0],.bool false]) (by simp[results,Tryz.results53,go_sem,r0,r1,r2,r3,r4]) rfl ⟨rfl,?_⟩;exact(((((Below.drewN' HBX.out.1 q2).setCell (zqg _) _).setCell (zqg _) _).setCell (zqg _) _).setCell (zqg _) _).setCell (zqg _) _
end
