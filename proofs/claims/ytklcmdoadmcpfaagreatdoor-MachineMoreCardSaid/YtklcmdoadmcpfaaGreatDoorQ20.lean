/- A part of the proof of MachineMoves. Conditions: those that each theorem names. -/
import Derived.Test.YtklcmdoadmcpfaaGreatDoorQ19
set_option maxRecDepth 100000
set_option maxHeartbeats 400000000
namespace Go.Proofs.YtklcmdoadmcpfaaGreatDoor
open Go Go.RowKit IsaL
open Go.Lib(hid)
open Go.Proofs.Tryz(prog)
def jdg (C:CM) (k:Nat) (f:Fm) (n:Int):CM:={C with fr:=C.fr.set k {f with place:=f.place+n}}
section
variable {O:Nat->Prop} {w w1:World} {g b:Nat} {C:CM} {R:Nat->Value} {vf vs vh:Value}
def ZS (C:CM) (x:Nat):CM×Int:=if qL C then(C,7) else if C.fr.length-1=0 then({jP C (C.fr.length-1) with va:=x},1) else({jP C (C.fr.length-1) with rg:=jG C.rg 0 x},0)
def Jm (C:CM) (x:Nat):CM×Int:=match C.ha.getLast? with
 |none=>({C with va:=x},2)
 |some p=>match C.fr[p.1]? with
  |none=>(C,0)
  |some f=>({jP {C with ha:=C.ha.dropLast} (p.1+1) with fr:=(C.fr.take (p.1+1)).set p.1 {f with place:=p.2},rg:=jG C.rg 0 x},0)
section
variable (a:McAt O w g C b R vf vs vh) (ok:OkC C)
include a ok
theorem jsk {k:Nat} (hl:C.fr.length=k+1) (x:Nat):Calls prog 142 #[.pointer (some ⟨g,0,none⟩),.int .u64 (x:Int)] w fun e w'=>Did O w g b (ZS C x) e w':=by
 have hk:C.fr.length-1=k:=by omega
 cases hh:qL C with
 |true=>
  refine(jja a ok.n1 ok.n3 hh x).mono ?_;rintro e w' ⟨rfl,q,rfl⟩;rw[show ZS C x=(C,7) by unfold ZS;rw[hh];rfl];exact Did.stay a 7 q
 |false=>
  refine(jpR a hl ok.bs ok.n1 ok.n3 hh x).mono ?_;rintro e w' ⟨h,hf⟩;have hF:Fr O w w':=hf.mono (fun i hi=>.inl (by rw[hi];exact a.og));by_cases h0:k=0
  ·rw[if_pos h0] at h
   obtain⟨rfl,v1,v2,h2⟩:=h;rw[show ZS C x=({jP C k with va:=x},1) by unfold ZS;rw[hh,hk];simp[h0]];exact⟨rfl,⟨_,_,_,_,h2⟩,hF⟩
  ·rw[if_neg h0] at h
   obtain⟨rfl,v1,v2,h2⟩:=h;rw[show ZS C x=({jP C k with rg:=jG C.rg 0 x},0) by unfold ZS;rw[hh,hk];simp[h0]];exact⟨rfl,⟨_,_,_,_,h2⟩,hF⟩
theorem QD (x:Nat):Calls prog 93 #[.pointer (some ⟨g,0,none⟩),.int .u64 (x:Int)] w fun e w'=>Did O w g b (Jm C x) e w':=by
 rcases List.eq_nil_or_concat C.ha with h|⟨hs,p,h⟩
 ·refine(jqA a h x).mono ?_
  rintro e w' ⟨rfl,h2,hf⟩;rw[show Jm C x=({C with va:=x},2) by unfold Jm;rw[h];rfl];exact⟨rfl,⟨_,_,_,_,h2⟩,hf.mono (fun i hi=>.inl (by rw[hi];exact a.og))⟩
 ·rw[List.concat_eq_append] at h
  have hp:=ok.hf p (by rw[h];simp);have hf:=zqh hp;refine(jn4 a h hf ok.bs ok.n1 ok.n3 x).mono ?_;rintro e w' ⟨rfl,⟨v1,v2,v3,h2⟩,hF⟩;have e1:C.ha.getLast?=some p:=by rw[h,List.getLast?_append];rfl
  have e2:C.ha.dropLast=hs:=by rw[h,List.dropLast_concat]
  refine⟨?_,⟨R,v1,v2,v3,?_⟩,hF⟩
  ·unfold Jm
   simp only[e1,hf]
  ·rw[show(Jm C x).1={jP {C with ha:=hs} (p.1+1) with fr:=(C.fr.take (p.1+1)).set p.1 {C.fr[p.1] with place:=p.2},rg:=jG C.rg 0 x} by
    unfold Jm;simp only[e1,hf,e2]]
   exact h2
theorem jpi (hO:∀i,w.heap.size<=i->O i) {k:Nat} {f:Fm} (hl:C.fr.length=k+1) (hf:C.fr[k]?=some f) (A:Nat) (hA:A<16) (B D n:Int) (n0: -2147483648<=n) (n1:n<=2147483647):
  Calls prog 99 #[.pointer (some ⟨g,0,none⟩),.agg #[.int .i64 23,.int .i64 A,.int .i64 B,.int .i64 D,.int .i64 n]] w fun e w'=>Did O w g b (jdg C k f n,0) e w':=by
 obtain⟨X,hX,hblk,hb0,hF0,r0,r1,r2,r3,r4⟩:=ji O w 23 A B D n;have aX:=a.below hb0;have HW:=hid hX;have gA:=aX.regc hA;have i0:(0:Int)<=(A:Int):=by omega
 have i1:(A:Int)<16:=by omega
 have HA:=hid aX;have HF:=hid hF0;have hOX:∀i,X.heap.size<=i->O i:=fun i hi=>hO i (zqs hF0.size hi);obtain⟨fg,fc,hv,hkb,HT,f1,f4,fz,hpb,hfX,hfO⟩:=j7 a aX ok hl hf;replace HT:=hid HT;have hgO:=a.og;have HJ:=hid (fun q=>show McAt O ((X.setCell ⟨fg,k*5+1,none⟩ (.int .i64 (f.place+n))).drewN q) g (jdg C k f n) b R vf vs vh from(aX.setPlace hv hl hf (f.place+n)).drewN q);have hw:=jv (n:=f.place+n) (by omega) (by omega);clear a ok hO hblk hb0 hF0 hX aX hl hA hpb hv hf hOX f4 gA;go_enter Tryz.func99,Tryz.ntmps99;go_wp2_with fail;rw[HW.out];go_wp2_with fail;refine HT.out.mono ?_;rintro e w1 ⟨rfl,q1,rfl⟩;go_wp2_with fail;go_region;go_wp2_with fail;go_ret;exact⟨rfl,⟨_,_,_,_,HJ.out _⟩,(HF.out.setCell (p:=⟨fg,k*5+1,none⟩) (.inl hfO) _).drewN _⟩
theorem jgZ (hO:∀i,w.heap.size<=i->O i) {k:Nat} {f:Fm} (hl:C.fr.length=k+1) (hf:C.fr[k]?=some f) (A:Nat) (hA:A<16) (B D n:Int) (hi:jj (C.rg A:Int)=false):
  Calls prog 99 #[.pointer (some ⟨g,0,none⟩),.agg #[.int .i64 24,.int .i64 A,.int .i64 B,.int .i64 D,.int .i64 n]] w fun e w'=>Did O w g b (C,7) e w':=by
 obtain⟨X,hX,hblk,hb0,hF0,r0,r1,r2,r3,r4⟩:=ji O w 24 A B D n;have aX:=a.below hb0;have HW:=hid hX;have gA:=aX.regc hA;have i0:(0:Int)<=(A:Int):=by omega
 have i1:(A:Int)<16:=by omega
 have HA:=hid aX;have HF:=hid hF0;have hOX:∀i,X.heap.size<=i->O i:=fun i hi=>hO i (zqs hF0.size hi);obtain⟨fg,fc,hv,hkb,HT,f1,f4,fz,hpb,hfX,hfO⟩:=j7 a aX ok hl hf;replace HT:=hid HT;have hgO:=a.og;obtain⟨x,hx⟩:∃x,C.rg A=x:=⟨_,rfl⟩;have hxl:=ok.rg A hA;rw[hx] at gA hxl;have HIB:=hid (fun Y=>show Calls prog 127 #[.int .u64 (x:Int)] Y (fun e w'=>e=.returned (.bool (jj (x:Int)))/\Y=w') from j5 (x:Int) Y (by omega) (by omega));have HI0:=hid Qc;rw[hx] at hi;rw[hi] at HIB;clear a ok hO hblk hb0 hF0 hX aX hl hA hpb hv hf f1 fz hgO hfO hfX hOX f4 HI0 hx hi;go_enter Tryz.func99,Tryz.ntmps99;go_wp2_with fail;rw[HW.out];go_wp2_with fail;refine HT.out.mono ?_;rintro e w1 ⟨rfl,q1,rfl⟩;go_wp2_with fail;go_region_held3 (fun Y=>Y.cell? ⟨w.heap.size,1,none⟩=some (.int .i64 A)/\Y.cell? ⟨g,2+A,none⟩=some (.int .u64 (x:Int))) (first|(with_reducible assumption)|exact⟨r1,gA⟩) (first|(go_at_call 127;refine(HIB.out _).mono ?_;rintro e w' ⟨rfl,hw'⟩;subst w'));go_wp2_with fail;go_ret;exact⟨rfl,⟨_,_,_,_,HA.out.drewN _⟩,HF.out.drewN _⟩
theorem jg0 (hO:∀i,w.heap.size<=i->O i) {k:Nat} {f:Fm} (hl:C.fr.length=k+1) (hf:C.fr[k]?=some f) (A:Nat) (hA:A<16) (B D n:Int) (hi:jj (C.rg A:Int)=true) (h1:C.rg A≠1):
  Calls prog 99 #[.pointer (some ⟨g,0,none⟩),.agg #[.int .i64 24,.int .i64 A,.int .i64 B,.int .i64 D,.int .i64 n]] w fun e w'=>Did O w g b (C,0) e w':=by
 obtain⟨X,hX,hblk,hb0,hF0,r0,r1,r2,r3,r4⟩:=ji O w 24 A B D n;have aX:=a.below hb0;have HW:=hid hX;have gA:=aX.regc hA;have i0:(0:Int)<=(A:Int):=by omega
 have i1:(A:Int)<16:=by omega
 have HA:=hid aX;have HF:=hid hF0;have hOX:∀i,X.heap.size<=i->O i:=fun i hi=>hO i (zqs hF0.size hi);obtain⟨fg,fc,hv,hkb,HT,f1,f4,fz,hpb,hfX,hfO⟩:=j7 a aX ok hl hf;replace HT:=hid HT;have hgO:=a.og;obtain⟨x,hx⟩:∃x,C.rg A=x:=⟨_,rfl⟩;have hxl:=ok.rg A hA;rw[hx] at gA hxl;have HIB:=hid (fun Y=>show Calls prog 127 #[.int .u64 (x:Int)] Y (fun e w'=>e=.returned (.bool (jj (x:Int)))/\Y=w') from j5 (x:Int) Y (by omega) (by omega));have HI0:=hid Qc;rw[hx] at hi h1;rw[hi] at HIB;have k1:((x:Int)==1)=false:=by rw[beq_eq_false_iff_ne];omega
 have k2:(x==1)=false:=by rw[beq_eq_false_iff_ne];omega
 clear a ok hO hblk hb0 hF0 hX aX hl hA hpb hv hf f1 fz hgO hfO hfX hOX f4 hx hi;go_enter Tryz.func99,Tryz.ntmps99;go_wp2_with fail;rw[HW.out];go_wp2_with fail;refine HT.out.mono ?_;rintro e w1 ⟨rfl,q1,rfl⟩;go_wp2_with fail;go_region_held3 (fun Y=>Y.cell? ⟨w.heap.size,1,none⟩=some (.int .i64 A)/\Y.cell? ⟨g,2+A,none⟩=some (.int .u64 (x:Int))) (first|(with_reducible assumption)|exact⟨r1,gA⟩) (first|(go_at_call 127;refine(HIB.out _).mono ?_;rintro e w' ⟨rfl,hw'⟩;subst w'));go_wp2_with fail;go_region_held3 (fun Y=>Y.cell? ⟨w.heap.size,1,none⟩=some (.int .i64 A)/\Y.cell? ⟨g,2+A,none⟩=some (.int .u64 (x:Int))) (first|(with_reducible assumption)|exact⟨r1,gA⟩) (first|(go_at_call 41;refine(HI0.out _).mono ?_;rintro e w' ⟨rfl,hw'⟩;subst w'));go_wp2_with fail;go_ret;exact⟨rfl,⟨_,_,_,_,HA.out.drewN _⟩,HF.out.drewN _⟩
theorem jew (hO:∀i,w.heap.size<=i->O i) {k:Nat} {f:Fm} (hl:C.fr.length=k+1) (hf:C.fr[k]?=some f) (A:Nat) (hA:A<16) (B D n:Int) (n0: -2147483648<=n) (n1:n<=2147483647) (h1:C.rg A=1):
  Calls prog 99 #[.pointer (some ⟨g,0,none⟩),.agg #[.int .i64 24,.int .i64 A,.int .i64 B,.int .i64 D,.int .i64 n]] w fun e w'=>Did O w g b (jdg C k f n,0) e w':=by
 obtain⟨X,hX,hblk,hb0,hF0,r0,r1,r2,r3,r4⟩:=ji O w 24 A B D n;have aX:=a.below hb0;have HW:=hid hX;have gA:=aX.regc hA;have i0:(0:Int)<=(A:Int):=by omega
 have i1:(A:Int)<16:=by omega
 have HA:=hid aX;have HF:=hid hF0;have hOX:∀i,X.heap.size<=i->O i:=fun i hi=>hO i (zqs hF0.size hi);obtain⟨fg,fc,hv,hkb,HT,f1,f4,fz,hpb,hfX,hfO⟩:=j7 a aX ok hl hf;replace HT:=hid HT;have hgO:=a.og;obtain⟨x,hx⟩:∃x,C.rg A=x:=⟨_,rfl⟩;have hxl:=ok.rg A hA;rw[hx] at gA hxl;have HIB:=hid (fun Y=>show Calls prog 127 #[.int .u64 (x:Int)] Y (fun e w'=>e=.returned (.bool (jj (x:Int)))/\Y=w') from j5 (x:Int) Y (by omega) (by omega));have HI0:=hid Qc;rw[h1] at hx;subst hx;have HIB:=hid (fun Y=>show Calls prog 127 #[.int .u64 ((1:Nat):Int)] Y (fun e w'=>e=.returned (.bool true)/\Y=w') from HIB.out Y);have HJ:=hid (fun q=>show McAt O ((X.setCell ⟨fg,k*5+1,none⟩ (.int .i64 (f.place+n))).drewN q) g (jdg C k f n) b R vf vs vh from(aX.setPlace hv hl hf (f.place+n)).drewN q);have hw:=jv (n:=f.place+n) (by omega) (by omega);clear a ok hO hblk hb0 hF0 hX aX hl hA hpb hv hf hOX f4;go_enter Tryz.func99,Tryz.ntmps99;go_wp2_with fail;rw[HW.out];go_wp2_with fail;refine HT.out.mono ?_;rintro e w1 ⟨rfl,q1,rfl⟩;go_wp2_with fail;go_region_held3 (fun Y=>Y.cell? ⟨w.heap.size,1,none⟩=some (.int .i64 A)/\Y.cell? ⟨g,2+A,none⟩=some (.int .u64 ((1:Nat):Int))) (first|(with_reducible assumption)|exact⟨r1,gA⟩) (first|(go_at_call 127;refine(HIB.out _).mono ?_;rintro e w' ⟨rfl,hw'⟩;subst w'));go_wp2_with fail;go_region_held3 (fun Y=>Y.cell? ⟨w.heap.size,1,none⟩=some (.int .i64 A)/\Y.cell? ⟨g,2+A,none⟩=some (.int .u64 ((1:Nat):Int))) (first|(with_reducible assumption)|exact⟨r1,gA⟩) (first|(go_at_call 41;refine(HI0.out _).mono ?_;rintro e w' ⟨rfl,hw'⟩;subst w'));go_wp2_with fail;go_region;go_wp2_with fail;go_ret;exact⟨rfl,⟨_,_,_,_,HJ.out _⟩,(HF.out.setCell (p:=⟨fg,k*5+1,none⟩) (.inl hfO) _).drewN _⟩
theorem jkB (hO:∀i,w.heap.size<=i->O i) {k:Nat} {f:Fm} (hl:C.fr.length=k+1) (hf:C.fr[k]?=some f) (A:Nat) (hA:A<16) (B D n:Int):
  Calls prog 99 #[.pointer (some ⟨g,0,none⟩),.agg #[.int .i64 28,.int .i64 A,.int .i64 B,.int .i64 D,.int .i64 n]] w fun e w'=>Did O w g b (ZS C (C.rg A)) e w':=by
 obtain⟨X,hX,hblk,hb0,hF0,r0,r1,r2,r3,r4⟩:=ji O w 28 A B D n;have aX:=a.below hb0;have HW:=hid hX;have gA:=aX.regc hA;have i0:(0:Int)<=(A:Int):=by omega
 have i1:(A:Int)<16:=by omega
 have HA:=hid aX;have HF:=hid hF0;have hOX:∀i,X.heap.size<=i->O i:=fun i hi=>hO i (zqs hF0.size hi);obtain⟨fg,fc,hv,hkb,HT,f1,f4,fz,hpb,hfX,hfO⟩:=j7 a aX ok hl hf;replace HT:=hid HT;have hgO:=a.og;have HLV:=hid (fun q=>jsk (aX.drewN q) ok hl (C.rg A));clear a ok hO hblk hb0 hF0 hX aX hl hA hpb hv hf f1 fz hgO hfO hfX hOX f4;go_enter Tryz.func99,Tryz.ntmps99;go_wp2_with fail;rw[HW.out];go_wp2_with fail;refine HT.out.mono ?_;rintro e w1 ⟨rfl,q1,rfl⟩;go_wp2_with fail;go_region_law ((go_simp;go_at_call 142;refine(HLV.out _).mono ?_;rintro e w2 ⟨rfl,h2,hf2⟩;have H2:=hid (zqf h2 hf2);clear h2 hf2));all_goals
  go_wp2_with fail;go_ret;exact⟨rfl,H2.out.1,(HF.out.drewN _).trans H2.out.2 (fun i hi=>.inl hi)⟩
theorem jmI (hO:∀i,w.heap.size<=i->O i) {k:Nat} {f:Fm} (hl:C.fr.length=k+1) (hf:C.fr[k]?=some f) (A:Nat) (hA:A<16) (B D n:Int):
  Calls prog 99 #[.pointer (some ⟨g,0,none⟩),.agg #[.int .i64 31,.int .i64 A,.int .i64 B,.int .i64 D,.int .i64 n]] w fun e w'=>Did O w g b (Jm C (C.rg A)) e w':=by
 obtain⟨X,hX,hblk,hb0,hF0,r0,r1,r2,r3,r4⟩:=ji O w 31 A B D n;have aX:=a.below hb0;have HW:=hid hX;have gA:=aX.regc hA;have i0:(0:Int)<=(A:Int):=by omega
 have i1:(A:Int)<16:=by omega
 have HA:=hid aX;have HF:=hid hF0;have hOX:∀i,X.heap.size<=i->O i:=fun i hi=>hO i (zqs hF0.size hi);obtain⟨fg,fc,hv,hkb,HT,f1,f4,fz,hpb,hfX,hfO⟩:=j7 a aX ok hl hf;replace HT:=hid HT;have hgO:=a.og;have HLV:=hid (fun q=>QD (aX.drewN q) ok (C.rg A));clear a ok hO hblk hb0 hF0 hX aX hl hA hpb hv hf f1 fz hgO hfO hfX hOX f4;go_enter Tryz.func99,Tryz.ntmps99;go_wp2_with fail;rw[HW.out];go_wp2_with fail;refine HT.out.mono ?_;rintro e w1 ⟨rfl,q1,rfl⟩;go_wp2_with fail;go_region_law ((go_simp;go_at_call 93;refine(HLV.out _).mono ?_;rintro e w2 ⟨rfl,h2,hf2⟩;have H2:=hid (zqf h2 hf2);clear h2 hf2));all_goals
  go_wp2_with fail;go_ret;exact⟨rfl,H2.out.1,(HF.out.drewN _).trans H2.out.2 (fun i hi=>.inl hi)⟩
end
end
namespace NumL
open Go Go.RowKit
theorem jhe {k:IntKind} {a b c d:Int} (h:a=b) (h2:c=d):Ending.returned (.tuple #[.int k a,.int k c])=.returned (.tuple #[.int k b,.int k d]):=by rw[h,h2]
theorem jr1 {a b:Int} (h:a.tmod b=0):a.tdiv b=fl a b:=by unfold fl;simp[h]
theorem jmT {a b:Int} (h:a.tmod b≠0) (h2:a<0↔ ¬b<0):a.tdiv b-1=fl a b:=by unfold fl;rw[if_pos ⟨h,h2⟩]
theorem jmS {a b:Int} (h2:¬(a<0↔ ¬b<0)):a.tdiv b=fl a b:=by unfold fl;rw[if_neg (fun x=>h2 x.2)]
theorem jf3 (a b:Int) (w:World) (hb:b≠0) (h0: -4611686018427387904<=a) (h1:a<=4611686018427387903):
  Calls prog 173 #[.int .i64 a,.int .i64 b] w fun e w'=>e=.returned (.int .i64 (fl a b))/\w=w':=by
 obtain⟨hq0,hq1⟩:=jtk (b:=b) h0 h1;by_cases hm:a.tmod b=0
 ·have hm1:(a.tmod b !=0)=false:=by simp[hm]
  have HM:=hid hm;clear hm;go_enter Tryz.func173,Tryz.ntmps173;go_wp2;go_ret;exact⟨jY (jr1 HM.out),rfl⟩
 ·have hm1:(a.tmod b !=0)=true:=by simp[hm]
  have HM:=hid hm;clear hm;by_cases ha:a<0<;>by_cases hb2:b<0
  ·go_enter Tryz.func173,Tryz.ntmps173
   go_wp2;go_ret;exact⟨jY (jmS (by omega)),rfl⟩
  ·go_enter Tryz.func173,Tryz.ntmps173
   go_wp2;go_ret;exact⟨jY (jmT HM.out (by omega)),rfl⟩
  ·have hm2:(a%b !=0)=true:=by rw[<-Int.tmod_eq_emod_of_nonneg (by omega)];exact hm1
   go_enter Tryz.func173,Tryz.ntmps173;go_wp2;go_ret;exact⟨jY (jmT HM.out (by omega)),rfl⟩
  ·have hm2:(a%b !=0)=true:=by rw[<-Int.tmod_eq_emod_of_nonneg (by omega)];exact hm1
   go_enter Tryz.func173,Tryz.ntmps173;go_wp2;go_ret;exact⟨jY (jmS (by omega)),rfl⟩
theorem jtH {a b:Int} (h0: -4611686018427387904<=a) (h1:a<=4611686018427387903) (hb:b≠0) (g0: -4611686018427387904<=b) (g1:b<=4611686018427387903): -9223372036854775808<=b*fl a b/\b*fl a b<=9223372036854775807:=by
 have e:b*fl a b=a-rest a b:=by unfold rest;omega
 rw[e];rcases Int.lt_or_gt_of_ne hb with h|h
 ·have:=jed (a:=a) h;omega
 ·have:=jee (a:=a) h;omega
def jb0 (a b:Int):Int:=if W b=0 then 0 else W (fl (W a) (W b))
def jbp (b:Int):Int:=if W b=0 then 10 else 0
def jcb (a b:Int):Int:=if W b=0 then 0 else rest (W a) (W b)
theorem jmL {a b:Int} (h:W b=0):jb0 a b=0:=by unfold jb0;rw[if_pos h]
theorem jmK {a b:Int} (h:W b≠0):jb0 a b=W (fl (W a) (W b)):=by unfold jb0;rw[if_neg h]
theorem jnH {a b:Int} (h:W b=0):jcb a b=0:=by unfold jcb;rw[if_pos h]
theorem jnG {a b:Int} (h:W b≠0):jcb a b=rest (W a) (W b):=by unfold jcb;rw[if_neg h]
theorem jfZ {b:Int} (h:W b=0):jbp b=10:=by unfold jbp;rw[if_pos h]
theorem jfY {b:Int} (h:W b≠0):jbp b=0:=by unfold jbp;rw[if_neg h]
theorem jrT (a b:Int) (w:World):
  Calls prog 165 #[.int .i64 a,.int .i64 b] w fun e w'=>e=.returned (.tuple #[.int .i64 (jb0 a b),.int .i64 (jbp b)])/\w=w':=by
 have a0:=jhl a;have a1:=jhk a;have b0:=jhl b;have b1:=jhk b;by_cases hb:W b=0
 ·have hz:(W b==0)=true:=by simp[hb]
  have HB:=hid hb;clear hb;go_enter Tryz.func165,Tryz.ntmps165;go_wp2_with (go_at_call 172;refine(Z7 _ _).mono ?_;rintro e w' ⟨rfl,rfl⟩);go_ret2;exact⟨jhe (jmL HB.out).symm (jfZ HB.out).symm,rfl⟩
 ·have hz:(W b==0)=false:=by simp[hb]
  go_enter Tryz.func165,Tryz.ntmps165;go_wp2_with (first|(go_at_call 172;refine(Z7 _ _).mono ?_;rintro e w' ⟨rfl,rfl⟩)|(go_at_call 173;refine(jf3 _ _ _ hb a0 a1).mono ?_;rintro e w' ⟨rfl,rfl⟩));go_ret2;exact⟨jhe (jmK hb).symm (jfY hb).symm,rfl⟩
theorem jsB (a b:Int) (w:World):
  Calls prog 166 #[.int .i64 a,.int .i64 b] w fun e w'=>e=.returned (.tuple #[.int .i64 (jcb a b),.int .i64 (jbp b)])/\w=w':=by
 have a0:=jhl a;have a1:=jhk a;have b0:=jhl b;have b1:=jhk b;by_cases hb:W b=0
 ·have hz:(W b==0)=true:=by simp[hb]
  have HB:=hid hb;clear hb;go_enter Tryz.func166,Tryz.ntmps166;go_wp2_with (go_at_call 172;refine(Z7 _ _).mono ?_;rintro e w' ⟨rfl,rfl⟩);go_ret2;exact⟨jhe (jnH HB.out).symm (jfZ HB.out).symm,rfl⟩
 ·have hz:(W b==0)=false:=by simp[hb]
  obtain⟨k0,k1⟩:=jtH a0 a1 hb b0 b1;have r0: -9223372036854775808<=W a-W b*fl (W a) (W b)/\W a-W b*fl (W a) (W b)<=9223372036854775807:=by
   show -9223372036854775808<=rest (W a) (W b)/\rest (W a) (W b)<=9223372036854775807;rcases Int.lt_or_gt_of_ne hb with h|h
   ·have:=jed (a:=W a) h;omega
   ·have:=jee (a:=W a) h;omega
  obtain⟨r0,r1⟩:=r0;go_enter Tryz.func166,Tryz.ntmps166;go_wp2_with (first|(go_at_call 172;refine(Z7 _ _).mono ?_;rintro e w' ⟨rfl,rfl⟩)|(go_at_call 173;refine(jf3 _ _ _ hb a0 a1).mono ?_;rintro e w' ⟨rfl,rfl⟩));go_ret2;exact⟨jhe (jnG hb).symm (jfY hb).symm,rfl⟩
end NumL
theorem jbk (t:Bool) (Y:World):Calls prog 94 #[.bool t] Y fun e w'=>e=.returned (.int .i64 (if t then 1 else 0))/\Y=w':=by
 cases t<;>
 ·go_enter Tryz.func94,Tryz.ntmps94
  go_wp2_with fail;go_ret;exact⟨rfl,rfl⟩
section
variable (y z:Int) (Y:World)
include y z Y
theorem jqM:Calls prog 130 #[.int .i64 7,.int .i64 y,.int .i64 z] Y fun e w'=>e=.returned (.tuple #[.int .i64 (W (y+z)),.int .i64 (0)])/\Y=w':=by
 have HM:=hid (jrJ y z Y);go_enter Tryz.func130,Tryz.ntmps130;go_wp2_with fail;refine(HM.out).mono ?_;rintro e w' ⟨rfl,rfl⟩;go_wp2_with fail;go_ret2;exact⟨rfl,rfl⟩
theorem jqN:Calls prog 130 #[.int .i64 8,.int .i64 y,.int .i64 z] Y fun e w'=>e=.returned (.tuple #[.int .i64 (W (y-z)),.int .i64 (0)])/\Y=w':=by
 have HM:=hid (jj3 y z Y);go_enter Tryz.func130,Tryz.ntmps130;go_wp2_with fail;refine(HM.out).mono ?_;rintro e w' ⟨rfl,rfl⟩;go_wp2_with fail;go_ret2;exact⟨rfl,rfl⟩
theorem jqO:Calls prog 130 #[.int .i64 9,.int .i64 y,.int .i64 z] Y fun e w'=>e=.returned (.tuple #[.int .i64 (W (y*z)),.int .i64 (0)])/\Y=w':=by
 have HM:=hid (jsC y z Y);go_enter Tryz.func130,Tryz.ntmps130;go_wp2_with fail;refine(HM.out).mono ?_;rintro e w' ⟨rfl,rfl⟩;go_wp2_with fail;go_ret2;exact⟨rfl,rfl⟩
theorem joi:Calls prog 130 #[.int .i64 10,.int .i64 y,.int .i64 z] Y fun e w'=>e=.returned (.tuple #[.int .i64 (NumL.jb0 y z),.int .i64 (NumL.jbp z)])/\Y=w':=by
 have HM:=hid (NumL.jrT y z Y);go_enter Tryz.func130,Tryz.ntmps130;go_wp2_with fail;refine(HM.out).mono ?_;rintro e w' ⟨rfl,rfl⟩;go_wp2_with fail;go_ret2;exact⟨rfl,rfl⟩
theorem joj:Calls prog 130 #[.int .i64 11,.int .i64 y,.int .i64 z] Y fun e w'=>e=.returned (.tuple #[.int .i64 (NumL.jcb y z),.int .i64 (NumL.jbp z)])/\Y=w':=by
 have HM:=hid (NumL.jsB y z Y);go_enter Tryz.func130,Tryz.ntmps130;go_wp2_with fail;refine(HM.out).mono ?_;rintro e w' ⟨rfl,rfl⟩;go_wp2_with fail;go_ret2;exact⟨rfl,rfl⟩
theorem jok:Calls prog 130 #[.int .i64 13,.int .i64 y,.int .i64 z] Y fun e w'=>e=.returned (.tuple #[.int .i64 (if decide (y<z) then 1 else 0),.int .i64 (0)])/\Y=w':=by
 obtain⟨T,hT⟩:∃T:Int,(if decide (y<z) then(1:Int) else 0)=T:=⟨_,rfl⟩;have HM:=jbk (decide (y<z)) Y;rw[hT] at HM ⊢;have HM:=hid HM;clear hT;go_enter Tryz.func130,Tryz.ntmps130;go_wp2_with fail;refine(HM.out).mono ?_;rintro e w' ⟨rfl,rfl⟩;go_wp2_with fail;go_ret2;exact⟨rfl,rfl⟩
theorem jol:Calls prog 130 #[.int .i64 14,.int .i64 y,.int .i64 z] Y fun e w'=>e=.returned (.tuple #[.int .i64 (if decide (y<=z) then 1 else 0),.int .i64 (0)])/\Y=w':=by
 obtain⟨T,hT⟩:∃T:Int,(if decide (y<=z) then(1:Int) else 0)=T:=⟨_,rfl⟩;have HM:=jbk (decide (y<=z)) Y;rw[hT] at HM ⊢;have HM:=hid HM;clear hT;go_enter Tryz.func130,Tryz.ntmps130;go_wp2_with fail;refine(HM.out).mono ?_;rintro e w' ⟨rfl,rfl⟩;go_wp2_with fail;go_ret2;exact⟨rfl,rfl⟩
end
section
variable {O:Nat->Prop} {w w1:World} {g b:Nat} {C:CM} {R:Nat->Value} {vf vs vh:Value}
section
variable (a:McAt O w g C b R vf vs vh) (ok:OkC C) (hO:∀i,w.heap.size<=i->O i) {k:Nat} {f:Fm} (hl:C.fr.length=k+1) (hf:C.fr[k]?=some f) (A:Nat) (hA:A<16)
include a ok hO k f hl hf A hA
theorem jrC (op:Int) (B:Nat) (hB:B<16) (D n:Int) (HB:jj (C.rg B:Int)=false):
  Calls prog 96 #[.pointer (some ⟨g,0,none⟩),.agg #[.int .i64 op,.int .i64 A,.int .i64 B,.int .i64 D,.int .i64 n]] w fun e w'=>Did O w g b (C,7) e w':=by
 obtain⟨X,hX,hblk,hb0,hF0,r0,r1,r2,r3,r4⟩:=ji O w op A B D n;have aX:=a.below hb0;have HW:=hid hX;have gA:=aX.regc hA;have i0:(0:Int)<=(A:Int):=by omega
 have i1:(A:Int)<16:=by omega
 have HA:=hid aX;have HF:=hid hF0;have hOX:∀i,X.heap.size<=i->O i:=fun i hi=>hO i (zqs hF0.size hi);obtain⟨fg,fc,hv,hkb,HT,f1,f4,fz,hpb,hfX,hfO⟩:=j7 a aX ok hl hf;replace HT:=hid HT;have hgO:=a.og;have gB:=aX.regc hB;have i2:(0:Int)<=(B:Int):=by omega
 have i3:(B:Int)<16:=by omega
 have rz:=aX.fz (2+A);obtain⟨x,hx⟩:∃x,C.rg B=x:=⟨_,rfl⟩;have hxl:=ok.rg B hB;rw[hx] at gB hxl HB;have HIB:=hid (zf (by omega) (by omega) HB);have hib:g≠w.heap.size:=fun e=>by have:=a.bx.lt;omega
 clear a ok hO hblk hb0 hF0 hX aX hl hA hpb hv hf f1 fz hfO hfX hOX f4 HT hkb;clear hx hxl hB HB;go_enter Tryz.func96,Tryz.ntmps96;go_wp2_with fail;rw[HW.out];go_region_held3 (fun Y=>Y.cell? ⟨w.heap.size,2,none⟩=some (.int .i64 B)/\Y.cell? ⟨g,2+B,none⟩=some (.int .u64 (x:Int))) (first|(with_reducible assumption)|exact⟨r2,gB⟩) (first|(go_at_call 127;refine(HIB.out _).mono ?_;rintro e w' ⟨rfl,hw'⟩;subst w'));go_wp2_with fail;go_ret;exact⟨rfl,⟨_,_,_,_,HA.out.drewN _⟩,HF.out.drewN _⟩
theorem jvq (op:Int) (h12:¬op=12) (B:Nat) (hB:B<16) (D:Nat) (hD:D<16) (n:Int) (HB:jj (C.rg B:Int)=true) (HC:jj (C.rg D:Int)=false):
  Calls prog 96 #[.pointer (some ⟨g,0,none⟩),.agg #[.int .i64 op,.int .i64 A,.int .i64 B,.int .i64 D,.int .i64 n]] w fun e w'=>Did O w g b (C,7) e w':=by
 obtain⟨X,hX,hblk,hb0,hF0,r0,r1,r2,r3,r4⟩:=ji O w op A B D n;have aX:=a.below hb0;have HW:=hid hX;have gA:=aX.regc hA;have i0:(0:Int)<=(A:Int):=by omega
 have i1:(A:Int)<16:=by omega
 have HA:=hid aX;have HF:=hid hF0;have hOX:∀i,X.heap.size<=i->O i:=fun i hi=>hO i (zqs hF0.size hi);obtain⟨fg,fc,hv,hkb,HT,f1,f4,fz,hpb,hfX,hfO⟩:=j7 a aX ok hl hf;replace HT:=hid HT;have hgO:=a.og;have gB:=aX.regc hB;have i2:(0:Int)<=(B:Int):=by omega
 have i3:(B:Int)<16:=by omega
 have rz:=aX.fz (2+A);obtain⟨x,hx⟩:∃x,C.rg B=x:=⟨_,rfl⟩;have hxl:=ok.rg B hB;rw[hx] at gB hxl HB;have HIB:=hid (zf (by omega) (by omega) HB);have hib:g≠w.heap.size:=fun e=>by have:=a.bx.lt;omega
 have HTB:=qj (x:Int);obtain⟨p,hp⟩:∃p,qx (x:Int)=p:=⟨_,rfl⟩;rw[hp] at HTB;have HTB:=hid (fun Y=>HTB Y (by omega) (by omega));have gD:=aX.regc hD;have i4:(0:Int)<=(D:Int):=by omega
 have i5:(D:Int)<16:=by omega
 obtain⟨y,hy⟩:∃y,C.rg D=y:=⟨_,rfl⟩;have hyl:=ok.rg D hD;rw[hy] at gD hyl HC;have HIC:=hid (zf (by omega) (by omega) HC);clear a ok hO hblk hb0 hF0 hX aX hl hA hpb hv hf f1 fz hfO hfX hOX f4 HT hkb;clear hx hxl hB HB hy hyl hD HC hp;go_enter Tryz.func96,Tryz.ntmps96;go_wp2_with fail;rw[HW.out];go_region_held3 (fun Y=>Y.cell? ⟨w.heap.size,2,none⟩=some (.int .i64 B)/\Y.cell? ⟨g,2+B,none⟩=some (.int .u64 (x:Int))) (first|(with_reducible assumption)|exact⟨r2,gB⟩) (first|(go_at_call 127;refine(HIB.out _).mono ?_;rintro e w' ⟨rfl,hw'⟩;subst w'));go_wp2_with fail;go_region_held3 (fun Y=>Y.cell? ⟨w.heap.size,2,none⟩=some (.int .i64 B)/\Y.cell? ⟨g,2+B,none⟩=some (.int .u64 (x:Int))) (first|(with_reducible assumption)|exact⟨r2,gB⟩) (first|(go_at_call 128;refine(HTB.out _).mono ?_;rintro e w' ⟨rfl,hw'⟩;subst w'));go_wp2_with fail;go_region_held3 (fun Y=>Y.cell? ⟨w.heap.size,3,none⟩=some (.int .i64 D)/\Y.cell? ⟨g,2+D,none⟩=some (.int .u64 (y:Int))) (first|(with_reducible assumption)|exact⟨r3,gD⟩) (first|(go_at_call 127;refine(HIC.out _).mono ?_;rintro e w' ⟨rfl,hw'⟩;subst w'));go_wp2_with fail;go_ret;exact⟨rfl,⟨_,_,_,_,HA.out.drewN 3⟩,HF.out.drewN 3⟩
theorem jn6 (op:Int) (h12:¬op=12) (B:Nat) (hB:B<16) (D:Nat) (hD:D<16) (n:Int) (HB:jj (C.rg B:Int)=true) (HC:jj (C.rg D:Int)=true) {r er:Int} (HR:∀Y,Calls prog 130 #[.int .i64 op,.int .i64 (qx (C.rg B:Int)),.int .i64 (qx (C.rg D:Int))] Y fun e w'=>e=.returned (.tuple #[.int .i64 r,.int .i64 er])/\Y=w') (he:er≠0):
  Calls prog 96 #[.pointer (some ⟨g,0,none⟩),.agg #[.int .i64 op,.int .i64 A,.int .i64 B,.int .i64 D,.int .i64 n]] w fun e w'=>Did O w g b (Jm C 5) e w':=by
 obtain⟨X,hX,hblk,hb0,hF0,r0,r1,r2,r3,r4⟩:=ji O w op A B D n;have aX:=a.below hb0;have HW:=hid hX;have gA:=aX.regc hA;have i0:(0:Int)<=(A:Int):=by omega
 have i1:(A:Int)<16:=by omega
 have HA:=hid aX;have HF:=hid hF0;have hOX:∀i,X.heap.size<=i->O i:=fun i hi=>hO i (zqs hF0.size hi);obtain⟨fg,fc,hv,hkb,HT,f1,f4,fz,hpb,hfX,hfO⟩:=j7 a aX ok hl hf;replace HT:=hid HT;have hgO:=a.og;have gB:=aX.regc hB;have i2:(0:Int)<=(B:Int):=by omega
 have i3:(B:Int)<16:=by omega
 have rz:=aX.fz (2+A);obtain⟨x,hx⟩:∃x,C.rg B=x:=⟨_,rfl⟩;have hxl:=ok.rg B hB;rw[hx] at gB hxl HB;have HIB:=hid (zf (by omega) (by omega) HB);have hib:g≠w.heap.size:=fun e=>by have:=a.bx.lt;omega
 have HTB:=qj (x:Int);obtain⟨p,hp⟩:∃p,qx (x:Int)=p:=⟨_,rfl⟩;rw[hp] at HTB;have HTB:=hid (fun Y=>HTB Y (by omega) (by omega));have gD:=aX.regc hD;have i4:(0:Int)<=(D:Int):=by omega
 have i5:(D:Int)<16:=by omega
 obtain⟨y,hy⟩:∃y,C.rg D=y:=⟨_,rfl⟩;have hyl:=ok.rg D hD;rw[hy] at gD hyl HC;have HIC:=hid (zf (by omega) (by omega) HC);have HTC:=qj (y:Int);obtain⟨q,hq⟩:∃q,qx (y:Int)=q:=⟨_,rfl⟩;rw[hq] at HTC;have HTC:=hid (fun Y=>HTC Y (by omega) (by omega));rw[hx,hy] at HR;rw[hp,hq] at HR;have HR:=hid HR;have e1:(er==0)=false:=by rw[beq_eq_false_iff_ne];exact he
 have HI:=hid (fun Y=>show Calls prog 41 #[.int .i64 2] Y (fun e w'=>e=.returned (.int .u64 ((5:Nat):Int))/\Y=w') from(qe 2 Y).mono fun e w' ⟨h1,h2⟩=>⟨by rw[h1];rfl,h2⟩);have HRA:=hid (fun q=>QD (aX.drewN q) ok 5);clear a ok hO hblk hb0 hF0 hX aX hl hA hpb hv hf f1 fz hfO hfX hOX f4 HT hkb;clear hx hxl hB HB hy hyl hD HC hp hq;go_enter Tryz.func96,Tryz.ntmps96;go_wp2_with fail;rw[HW.out];go_region_held3 (fun Y=>Y.cell? ⟨w.heap.size,2,none⟩=some (.int .i64 B)/\Y.cell? ⟨g,2+B,none⟩=some (.int .u64 (x:Int))) (first|(with_reducible assumption)|exact⟨r2,gB⟩) (first|(go_at_call 127;refine(HIB.out _).mono ?_;rintro e w' ⟨rfl,hw'⟩;subst w'));go_wp2_with fail;go_region_held3 (fun Y=>Y.cell? ⟨w.heap.size,2,none⟩=some (.int .i64 B)/\Y.cell? ⟨g,2+B,none⟩=some (.int .u64 (x:Int))) (first|(with_reducible assumption)|exact⟨r2,gB⟩) (first|(go_at_call 128;refine(HTB.out _).mono ?_;rintro e w' ⟨rfl,hw'⟩;subst w'));go_wp2_with fail;go_region_held3 (fun Y=>Y.cell? ⟨w.heap.size,3,none⟩=some (.int .i64 D)/\Y.cell? ⟨g,2+D,none⟩=some (.int .u64 (y:Int))) (first|(with_reducible assumption)|exact⟨r3,gD⟩) (first|(go_at_call 127;refine(HIC.out _).mono ?_;rintro e w' ⟨rfl,hw'⟩;subst w'));go_wp2_with fail;go_region_held3 (fun Y=>Y.cell? ⟨w.heap.size,0,none⟩=some (.int .i64 op)/\Y.cell? ⟨w.heap.size,3,none⟩=some (.int .i64 D)/\Y.cell? ⟨g,2+D,none⟩=some (.int .u64 (y:Int))) (first|(with_reducible assumption)|exact⟨r0,r3,gD⟩) (first|(go_at_call 128;refine(HTC.out _).mono ?_;rintro e w' ⟨rfl,hw'⟩;subst w')|(go_at_call 130;refine(HR.out _).mono ?_;rintro e w' ⟨rfl,hw'⟩;subst w'));go_wp2_with fail;refine(HI.out _).mono ?_;rintro e w' ⟨rfl,rfl⟩;go_wp2_with fail;refine(HRA.out 4).mono ?_;rintro e w2 ⟨rfl,h2,hf2⟩;have H2:=hid (zqf h2 hf2);clear h2 hf2;go_wp2_with fail;go_ret;exact⟨rfl,H2.out.1,(HF.out.drewN 4).trans H2.out.2 (fun i hi=>.inl hi)⟩
theorem juC (op:Int) (h12:¬op=12) (B:Nat) (hB:B<16) (D:Nat) (hD:D<16) (n:Int) (HB:jj (C.rg B:Int)=true) (HC:jj (C.rg D:Int)=true) {r:Int} (HR:∀Y,Calls prog 130 #[.int .i64 op,.int .i64 (qx (C.rg B:Int)),.int .i64 (qx (C.rg D:Int))] Y fun e w'=>e=.returned (.tuple #[.int .i64 r,.int .i64 0])/\Y=w'):
  Calls prog 96 #[.pointer (some ⟨g,0,none⟩),.agg #[.int .i64 op,.int .i64 A,.int .i64 B,.int .i64 D,.int .i64 n]] w fun e w'=>Did O w g b ({C with rg:=jG C.rg A (jO r).toNat},0) e w':=by
 obtain⟨X,hX,hblk,hb0,hF0,r0,r1,r2,r3,r4⟩:=ji O w op A B D n;have aX:=a.below hb0;have HW:=hid hX;have gA:=aX.regc hA;have i0:(0:Int)<=(A:Int):=by omega
 have i1:(A:Int)<16:=by omega
 have HA:=hid aX;have HF:=hid hF0;have hOX:∀i,X.heap.size<=i->O i:=fun i hi=>hO i (zqs hF0.size hi);obtain⟨fg,fc,hv,hkb,HT,f1,f4,fz,hpb,hfX,hfO⟩:=j7 a aX ok hl hf;replace HT:=hid HT;have hgO:=a.og;have gB:=aX.regc hB;have i2:(0:Int)<=(B:Int):=by omega
 have i3:(B:Int)<16:=by omega
 have rz:=aX.fz (2+A);obtain⟨x,hx⟩:∃x,C.rg B=x:=⟨_,rfl⟩;have hxl:=ok.rg B hB;rw[hx] at gB hxl HB;have HIB:=hid (zf (by omega) (by omega) HB);have hib:g≠w.heap.size:=fun e=>by have:=a.bx.lt;omega
 have HTB:=qj (x:Int);obtain⟨p,hp⟩:∃p,qx (x:Int)=p:=⟨_,rfl⟩;rw[hp] at HTB;have HTB:=hid (fun Y=>HTB Y (by omega) (by omega));have gD:=aX.regc hD;have i4:(0:Int)<=(D:Int):=by omega
 have i5:(D:Int)<16:=by omega
 obtain⟨y,hy⟩:∃y,C.rg D=y:=⟨_,rfl⟩;have hyl:=ok.rg D hD;rw[hy] at gD hyl HC;have HIC:=hid (zf (by omega) (by omega) HC);have HTC:=qj (y:Int);obtain⟨q,hq⟩:∃q,qx (y:Int)=q:=⟨_,rfl⟩;rw[hq] at HTC;have HTC:=hid (fun Y=>HTC Y (by omega) (by omega));rw[hx,hy] at HR;rw[hp,hq] at HR;have HR:=hid HR;have hwn:0<=jO r:=by unfold jO;omega
 obtain⟨z,hz⟩:∃z,(jO r).toNat=z:=⟨_,rfl⟩;have hzi:jO r=(z:Int):=by omega
 have HI:=fun Y=>qe r Y;rw[hzi] at HI;rw[hz];have HI:=hid HI;have HJ:=hid (fun q=>(aX.reg hA z).drewN q);clear a ok hO hblk hb0 hF0 hX aX hl hA hpb hv hf f1 fz hfO hfX hOX f4 HT hkb;clear hx hxl hB HB hy hyl hD HC hp hq hz hzi hwn;go_enter Tryz.func96,Tryz.ntmps96;go_wp2_with fail;rw[HW.out];go_region_held3 (fun Y=>Y.cell? ⟨w.heap.size,2,none⟩=some (.int .i64 B)/\Y.cell? ⟨g,2+B,none⟩=some (.int .u64 (x:Int))) (first|(with_reducible assumption)|exact⟨r2,gB⟩) (first|(go_at_call 127;refine(HIB.out _).mono ?_;rintro e w' ⟨rfl,hw'⟩;subst w'));go_wp2_with fail;go_region_held3 (fun Y=>Y.cell? ⟨w.heap.size,2,none⟩=some (.int .i64 B)/\Y.cell? ⟨g,2+B,none⟩=some (.int .u64 (x:Int))) (first|(with_reducible assumption)|exact⟨r2,gB⟩) (first|(go_at_call 128;refine(HTB.out _).mono ?_;rintro e w' ⟨rfl,hw'⟩;subst w'));go_wp2_with fail;go_region_held3 (fun Y=>Y.cell? ⟨w.heap.size,3,none⟩=some (.int .i64 D)/\Y.cell? ⟨g,2+D,none⟩=some (.int .u64 (y:Int))) (first|(with_reducible assumption)|exact⟨r3,gD⟩) (first|(go_at_call 127;refine(HIC.out _).mono ?_;rintro e w' ⟨rfl,hw'⟩;subst w'));go_wp2_with fail;go_region_held3 (fun Y=>Y.cell? ⟨w.heap.size,0,none⟩=some (.int .i64 op)/\Y.cell? ⟨w.heap.size,3,none⟩=some (.int .i64 D)/\Y.cell? ⟨g,2+D,none⟩=some (.int .u64 (y:Int))) (first|(with_reducible assumption)|exact⟨r0,r3,gD⟩) (first|(go_at_call 128;refine(HTC.out _).mono ?_;rintro e w' ⟨rfl,hw'⟩;subst w')|(go_at_call 130;refine(HR.out _).mono ?_;rintro e w' ⟨rfl,hw'⟩;subst w'));go_wp2_with fail;go_region_held3 (fun Y=>Y.cell? ⟨w.heap.size,1,none⟩=some (.int .i64 A)) (first|(with_reducible assumption)|exact r1|exact(zV hib).trans r1) (first|(go_at_call 41;refine(HI.out _).mono ?_;rintro e w' ⟨rfl,hw'⟩;subst w'));go_wp2_with fail;go_ret;exact⟨rfl,⟨_,_,_,_,HJ.out 5⟩,(HF.out.setCell (p:=⟨g,2+A,none⟩) (.inl hgO) _).drewN 5⟩
theorem jsT (B:Nat) (hB:B<16) (D n:Int) (HB:jj (C.rg B:Int)=true):
  Calls prog 96 #[.pointer (some ⟨g,0,none⟩),.agg #[.int .i64 12,.int .i64 A,.int .i64 B,.int .i64 D,.int .i64 n]] w fun e w'=>Did O w g b ({C with rg:=jG C.rg A (jO (W (-qx (C.rg B:Int)))).toNat},0) e w':=by
 obtain⟨X,hX,hblk,hb0,hF0,r0,r1,r2,r3,r4⟩:=ji O w 12 A B D n;have aX:=a.below hb0;have HW:=hid hX;have gA:=aX.regc hA;have i0:(0:Int)<=(A:Int):=by omega
 have i1:(A:Int)<16:=by omega
 have HA:=hid aX;have HF:=hid hF0;have hOX:∀i,X.heap.size<=i->O i:=fun i hi=>hO i (zqs hF0.size hi);obtain⟨fg,fc,hv,hkb,HT,f1,f4,fz,hpb,hfX,hfO⟩:=j7 a aX ok hl hf;replace HT:=hid HT;have hgO:=a.og;have gB:=aX.regc hB;have i2:(0:Int)<=(B:Int):=by omega
 have i3:(B:Int)<16:=by omega
 have rz:=aX.fz (2+A);obtain⟨x,hx⟩:∃x,C.rg B=x:=⟨_,rfl⟩;have hxl:=ok.rg B hB;rw[hx] at gB hxl HB;have HIB:=hid (zf (by omega) (by omega) HB);have hib:g≠w.heap.size:=fun e=>by have:=a.bx.lt;omega
 have HTB:=qj (x:Int);obtain⟨p,hp⟩:∃p,qx (x:Int)=p:=⟨_,rfl⟩;rw[hp] at HTB;have HTB:=hid (fun Y=>HTB Y (by omega) (by omega));rw[hx,hp];have HNG:=hid (fun Y=>jsE p Y);have hwn:0<=jO (W (-p)):=by unfold jO;omega
 obtain⟨z,hz⟩:∃z,(jO (W (-p))).toNat=z:=⟨_,rfl⟩;have hzi:jO (W (-p))=(z:Int):=by omega
 have HI:=fun Y=>qe (W (-p)) Y;rw[hzi] at HI;rw[hz];have HI:=hid HI;have HJ:=hid (fun q=>(aX.reg hA z).drewN q);clear a ok hO hblk hb0 hF0 hX aX hl hA hpb hv hf f1 fz hfO hfX hOX f4 HT hkb;clear hx hxl hB HB hp hz hzi hwn;go_enter Tryz.func96,Tryz.ntmps96;go_wp2_with fail;rw[HW.out];go_region_held3 (fun Y=>Y.cell? ⟨w.heap.size,2,none⟩=some (.int .i64 B)/\Y.cell? ⟨g,2+B,none⟩=some (.int .u64 (x:Int))) (first|(with_reducible assumption)|exact⟨r2,gB⟩) (first|(go_at_call 127;refine(HIB.out _).mono ?_;rintro e w' ⟨rfl,hw'⟩;subst w'));go_wp2_with fail;go_region_held3 (fun Y=>Y.cell? ⟨w.heap.size,2,none⟩=some (.int .i64 B)/\Y.cell? ⟨g,2+B,none⟩=some (.int .u64 (x:Int))) (first|(with_reducible assumption)|exact⟨r2,gB⟩) (first|(go_at_call 128;refine(HTB.out _).mono ?_;rintro e w' ⟨rfl,hw'⟩;subst w'));go_wp2_with fail;go_region_held3 (fun Y=>Y.cell? ⟨w.heap.size,1,none⟩=some (.int .i64 A)) (first|(with_reducible assumption)|exact r1|exact(zV hib).trans r1) (first|(go_at_call 129;refine(HNG.out _).mono ?_;rintro e w' ⟨rfl,hw'⟩;subst w')|(go_at_call 41;refine(HI.out _).mono ?_;rintro e w' ⟨rfl,hw'⟩;subst w'));go_wp2_with fail;go_ret;exact⟨rfl,⟨_,_,_,_,HJ.out 3⟩,(HF.out.setCell (p:=⟨g,2+A,none⟩) (.inl hgO) _).drewN 3⟩
end
end
