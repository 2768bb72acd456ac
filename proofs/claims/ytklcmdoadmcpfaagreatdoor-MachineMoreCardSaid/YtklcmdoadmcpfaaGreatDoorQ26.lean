/- A part of the proof of MachineMoves. Conditions: those that each theorem names. -/
import Derived.Test.YtklcmdoadmcpfaaGreatDoorQ25
set_option maxRecDepth 100000
set_option maxHeartbeats 400000000
namespace Go.Proofs.YtklcmdoadmcpfaaGreatDoor
open Go Go.RowKit IsaL
open Go.Lib(hid)
open Go.Proofs.Tryz(prog)
theorem zU (A:Option Addr) (L c m:Nat) (hm:m<=L) (W:World):(Instr.sliceAt 51 (.slice A L c) (some (.int .i64 (m:Int))) none none).run prog W=.ok (sliced A m L c 1) W:=by
 have hs:(sizeOf 65).run prog W=.ok 1 W:=by kernel_rfl
 have he:prog.elem 51=65:=by kernel_rfl
 have h1:=run_sliceAt_slice (P:=prog) (w:=W) 51 (.slice A L c) (some (.int .i64 (m:Int))) none none (by rw[he];exact Tryz.underlying51);have h2:=run_slice_l (P:=prog) (w:=W) 51 A L c (by rw[he];exact Tryz.underlying51) .i64 (m:Int) (by omega) (by omega);rw[h1,h2,he,hs];simp
section
variable {O:Nat->Prop} {w w1:World} {g b:Nat} {C:CM} {R:Nat->Value} {vf vs vh:Value}
section
variable (a:McAt O w g C b R vf vs vh) (ok:OkC C) (hO:∀i,w.heap.size<=i->O i)
include a ok hO
theorem jrS {k:Nat} {f:Fm} (hl:C.fr.length=k+1) (hf:C.fr[k]?=some f) (A:Nat) (hA:A<16) (B D n:Int):
  Calls prog 95 #[.pointer (some ⟨g,0,none⟩),.agg #[.int .i64 1,.int .i64 A,.int .i64 B,.int .i64 D,.int .i64 n]] w fun e w'=>Did O w g b ({C with rg:=jG C.rg A (jO n).toNat},0) e w':=by
 obtain⟨X,hX,hblk,hb0,hF0,r0,r1,r2,r3,r4⟩:=ji O w 1 A B D n;have aX:=a.below hb0;have HW:=hid hX;have gA:=aX.regc hA;have i0:(0:Int)<=(A:Int):=by omega
 have i1:(A:Int)<16:=by omega
 have HA:=hid aX;have HF:=hid hF0;have hOX:∀i,X.heap.size<=i->O i:=fun i hi=>hO i (zqs hF0.size hi);obtain⟨fg,fc,hv,hkb,HT,f1,f4,fz,hpb,hfX,hfO⟩:=j7 a aX ok hl hf;replace HT:=hid HT;have hgO:=a.og;have hbs:=ok.bs f (zqc hf);obtain⟨a2,k2,e2,hk2⟩:=jH aX.os;have c2:=aX.cs;rw[e2] at c2;have hcut:=zU a2 C.sl.length k2 f.base hbs;unfold sliced at hcut;obtain⟨sa,hsv⟩:∃sa,(if k2=f.base then a2 else a2.map (fun x=>x.add (f.base*1)))=sa:=⟨_,rfl⟩;rw[hsv] at hcut;have rz:=aX.fz (2+A);have HI:=hid (fun Y=>qe n Y);have hwn:0<=jO n:=by unfold jO;omega
 obtain⟨z,hz⟩:∃z,(jO n).toNat=z:=⟨_,rfl⟩;have hzi:jO n=(z:Int):=by omega
 rw[hzi] at HI;rw[hz];have HJ:=hid (fun q=>(aX.reg hA z).drewN q);have hib:w.heap.size≠g:=fun e=>by have:=a.bx.lt;omega
 clear a ok hO hblk hb0 hF0 hX aX hl hA hpb hv hf f1 fz hfO hfX hOX e2 hbs hk2 hsv;clear hz hzi hwn;go_enter Tryz.func95,Tryz.ntmps95;go_wp2_with fail;rw[HW.out];go_wp2_with fail;refine HT.out.mono ?_;rintro e w1 ⟨rfl,q1,rfl⟩;go_wp2_with fail;go_quiet (fail);go_wp2_with fail;go_region_held3 (fun Y=>Y.cell? ⟨w.heap.size,1,none⟩=some (.int .i64 A)/\Y.cell? ⟨w.heap.size,4,none⟩=some (.int .i64 n)) (first|(with_reducible assumption)|exact⟨r1,r4⟩|exact⟨(zV hib.symm).trans r1,(zV hib.symm).trans r4⟩) (first|(go_at_call 41;refine(HI.out _).mono ?_;rintro e w' ⟨rfl,hw'⟩;subst w'));go_wp2_with fail;go_ret;exact⟨rfl,⟨_,_,_,_,HJ.out _⟩,(HF.out.setCell (p:=⟨g,2+A,none⟩) (.inl hgO) _).drewN _⟩
theorem jo8 {k:Nat} {f:Fm} (hl:C.fr.length=k+1) (hf:C.fr[k]?=some f) (A:Nat) (hA:A<16) (B:Nat) (hB:B<16) (D n:Int):
  Calls prog 95 #[.pointer (some ⟨g,0,none⟩),.agg #[.int .i64 3,.int .i64 A,.int .i64 B,.int .i64 D,.int .i64 n]] w fun e w'=>Did O w g b ({C with rg:=jG C.rg A (C.rg B)},0) e w':=by
 obtain⟨X,hX,hblk,hb0,hF0,r0,r1,r2,r3,r4⟩:=ji O w 3 A B D n;have aX:=a.below hb0;have HW:=hid hX;have gA:=aX.regc hA;have i0:(0:Int)<=(A:Int):=by omega
 have i1:(A:Int)<16:=by omega
 have HA:=hid aX;have HF:=hid hF0;have hOX:∀i,X.heap.size<=i->O i:=fun i hi=>hO i (zqs hF0.size hi);obtain⟨fg,fc,hv,hkb,HT,f1,f4,fz,hpb,hfX,hfO⟩:=j7 a aX ok hl hf;replace HT:=hid HT;have hgO:=a.og;have hbs:=ok.bs f (zqc hf);obtain⟨a2,k2,e2,hk2⟩:=jH aX.os;have c2:=aX.cs;rw[e2] at c2;have hcut:=zU a2 C.sl.length k2 f.base hbs;unfold sliced at hcut;obtain⟨sa,hsv⟩:∃sa,(if k2=f.base then a2 else a2.map (fun x=>x.add (f.base*1)))=sa:=⟨_,rfl⟩;rw[hsv] at hcut;have rz:=aX.fz (2+A);have gB:=aX.regc hB;have i2:(0:Int)<=(B:Int):=by omega
 have i3:(B:Int)<16:=by omega
 have HJ:=hid (fun q=>(aX.reg hA (C.rg B)).drewN q);clear a ok hO hblk hb0 hF0 hX aX hl hA hpb hv hf f1 fz hfO hfX hOX e2 hbs hk2 hsv;clear hB;go_enter Tryz.func95,Tryz.ntmps95;go_wp2_with fail;rw[HW.out];go_wp2_with fail;refine HT.out.mono ?_;rintro e w1 ⟨rfl,q1,rfl⟩;go_wp2_with fail;go_quiet (fail);go_wp2_with fail;go_region;all_goals
  go_wp2_with fail;go_ret;exact⟨rfl,⟨_,_,_,_,HJ.out _⟩,(HF.out.setCell (p:=⟨g,2+A,none⟩) (.inl hgO) _).drewN _⟩
theorem ji2 {k:Nat} {f:Fm} (hl:C.fr.length=k+1) (hf:C.fr[k]?=some f) (A:Nat) (hA:A<16) (B D n:Int) (h0:n<0):
  Calls prog 95 #[.pointer (some ⟨g,0,none⟩),.agg #[.int .i64 2,.int .i64 A,.int .i64 B,.int .i64 D,.int .i64 n]] w fun e w'=>Did O w g b (C,7) e w':=by
 obtain⟨X,hX,hblk,hb0,hF0,r0,r1,r2,r3,r4⟩:=ji O w 2 A B D n;have aX:=a.below hb0;have HW:=hid hX;have gA:=aX.regc hA;have i0:(0:Int)<=(A:Int):=by omega
 have i1:(A:Int)<16:=by omega
 have HA:=hid aX;have HF:=hid hF0;have hOX:∀i,X.heap.size<=i->O i:=fun i hi=>hO i (zqs hF0.size hi);obtain⟨fg,fc,hv,hkb,HT,f1,f4,fz,hpb,hfX,hfO⟩:=j7 a aX ok hl hf;replace HT:=hid HT;have hgO:=a.og;have hbs:=ok.bs f (zqc hf);obtain⟨a2,k2,e2,hk2⟩:=jH aX.os;have c2:=aX.cs;rw[e2] at c2;have hcut:=zU a2 C.sl.length k2 f.base hbs;unfold sliced at hcut;obtain⟨sa,hsv⟩:∃sa,(if k2=f.base then a2 else a2.map (fun x=>x.add (f.base*1)))=sa:=⟨_,rfl⟩;rw[hsv] at hcut;have rz:=aX.fz (2+A);have d0:decide (n<0)=true:=zqr h0;clear a ok hO hblk hb0 hF0 hX aX hl hA hpb hv hf f1 fz hgO hfO hfX hOX e2 hbs hk2 hsv;clear h0;go_enter Tryz.func95,Tryz.ntmps95;go_wp2_with fail;rw[HW.out];go_wp2_with fail;refine HT.out.mono ?_;rintro e w1 ⟨rfl,q1,rfl⟩;go_wp2_with fail;go_quiet (fail);go_wp2_with fail;go_quiet (fail);go_wp2_with fail;go_ret;exact⟨rfl,⟨_,_,_,_,(HA.out.drewN _).drewN _⟩,(HF.out.drewN _).drewN _⟩
theorem ji1 {k:Nat} {f:Fm} (hl:C.fr.length=k+1) (hf:C.fr[k]?=some f) (A:Nat) (hA:A<16) (B D n:Int) (h0:0<=n) (h1:(f.lits:Int)<=n):
  Calls prog 95 #[.pointer (some ⟨g,0,none⟩),.agg #[.int .i64 2,.int .i64 A,.int .i64 B,.int .i64 D,.int .i64 n]] w fun e w'=>Did O w g b (C,7) e w':=by
 obtain⟨X,hX,hblk,hb0,hF0,r0,r1,r2,r3,r4⟩:=ji O w 2 A B D n;have aX:=a.below hb0;have HW:=hid hX;have gA:=aX.regc hA;have i0:(0:Int)<=(A:Int):=by omega
 have i1:(A:Int)<16:=by omega
 have HA:=hid aX;have HF:=hid hF0;have hOX:∀i,X.heap.size<=i->O i:=fun i hi=>hO i (zqs hF0.size hi);obtain⟨fg,fc,hv,hkb,HT,f1,f4,fz,hpb,hfX,hfO⟩:=j7 a aX ok hl hf;replace HT:=hid HT;have hgO:=a.og;have hbs:=ok.bs f (zqc hf);obtain⟨a2,k2,e2,hk2⟩:=jH aX.os;have c2:=aX.cs;rw[e2] at c2;have hcut:=zU a2 C.sl.length k2 f.base hbs;unfold sliced at hcut;obtain⟨sa,hsv⟩:∃sa,(if k2=f.base then a2 else a2.map (fun x=>x.add (f.base*1)))=sa:=⟨_,rfl⟩;rw[hsv] at hcut;have rz:=aX.fz (2+A);have d0:decide (n<0)=false:=zqq (by omega);have d1:decide ((f.lits:Int)<=n)=true:=zqr h1;have f2:=aX.fcell hv hf (j:=2) rfl;clear a ok hO hblk hb0 hF0 hX aX hl hA hpb hv hf f1 fz hgO hfO hfX hOX e2 hbs hk2 hsv;clear h0 h1;go_enter Tryz.func95,Tryz.ntmps95;go_wp2_with fail;rw[HW.out];go_wp2_with fail;refine HT.out.mono ?_;rintro e w1 ⟨rfl,q1,rfl⟩;go_wp2_with fail;go_quiet (fail);go_wp2_with fail;go_quiet (fail);go_wp2_with fail;go_ret;exact⟨rfl,⟨_,_,_,_,(HA.out.drewN _).drewN _⟩,(HF.out.drewN _).drewN _⟩
theorem jkn {k:Nat} {f:Fm} (hl:C.fr.length=k+1) (hf:C.fr[k]?=some f) (A:Nat) (hA:A<16) (B D:Int) {m:Nat} (h1:m<f.lits):
  Calls prog 95 #[.pointer (some ⟨g,0,none⟩),.agg #[.int .i64 2,.int .i64 A,.int .i64 B,.int .i64 D,.int .i64 m]] w fun e w'=>Did O w g b ({C with rg:=jG C.rg A (qY C.h C.W ⟨C.now,C.old⟩ (jc (f.code:Int)) m).1},0) e w':=by
 obtain⟨X,hX,hblk,hb0,hF0,r0,r1,r2,r3,r4⟩:=ji O w 2 A B D (m:Int);have aX:=a.below hb0;have HW:=hid hX;have gA:=aX.regc hA;have i0:(0:Int)<=(A:Int):=by omega
 have i1:(A:Int)<16:=by omega
 have HA:=hid aX;have HF:=hid hF0;have hOX:∀i,X.heap.size<=i->O i:=fun i hi=>hO i (zqs hF0.size hi);obtain⟨fg,fc,hv,hkb,HT,f1,f4,fz,hpb,hfX,hfO⟩:=j7 a aX ok hl hf;replace HT:=hid HT;have hgO:=a.og;have hbs:=ok.bs f (zqc hf);obtain⟨a2,k2,e2,hk2⟩:=jH aX.os;have c2:=aX.cs;rw[e2] at c2;have hcut:=zU a2 C.sl.length k2 f.base hbs;unfold sliced at hcut;obtain⟨sa,hsv⟩:∃sa,(if k2=f.base then a2 else a2.map (fun x=>x.add (f.base*1)))=sa:=⟨_,rfl⟩;rw[hsv] at hcut;have rz:=aX.fz (2+A);have d0:decide ((m:Int)<0)=false:=zqq (by omega);have d1:decide ((f.lits:Int)<=(m:Int))=false:=zqq (by omega);have d2:decide (f.lits<=m)=false:=zqq (by omega);have f2:=aX.fcell hv hf (j:=2) rfl;have f0:=aX.fcell hv hf (j:=0) rfl;rw[Nat.add_zero] at f0;have hcl:=ok.fc f (zqc hf);have hp:jc (f.code:Int)<=9223372036854775807:=by unfold jc;split<;>omega
 have HFD:=fun q=>jjD (aX.drewN q) (jc (f.code:Int)) hp m;obtain⟨PA,hPA⟩:∃PA,jc (f.code:Int)=PA:=⟨_,rfl⟩;have HTP:=hid (fun Y=>show Calls prog 90 #[.int .u64 (f.code:Int)] Y (fun e w'=>e=.returned (.int .i64 PA)/\Y=w') from(jQ (f.code:Int) Y (by omega) (by omega)).mono fun e w' ⟨h1,h2⟩=>⟨by rw[h1,hPA],h2⟩);rw[hPA] at HFD ⊢;obtain⟨V,hV⟩:∃V,(qY C.h C.W ⟨C.now,C.old⟩ PA m).1=V:=⟨_,rfl⟩;rw[hV] at HFD ⊢;have HFD:=hid HFD;have HJ:=hid (fun q=>(aX.reg hA V).drewN q);have hib:g≠w.heap.size:=fun e=>by have:=a.bx.lt;omega
 have hgf:g≠fg:=fun e=>aX.g1 (by rw[hv,e];rfl);clear a ok hO hblk hb0 hF0 hX aX hl hA hpb hv hf f1 fz hfO hfX hOX e2 hbs hk2 hsv;clear h1 hcl hp hPA hV;go_enter Tryz.func95,Tryz.ntmps95;go_wp2_with fail;rw[HW.out];go_wp2_with fail;refine HT.out.mono ?_;rintro e w1 ⟨rfl,q1,rfl⟩;go_wp2_with fail;go_quiet (fail);go_wp2_with fail;go_quiet (fail);go_wp2_with fail;go_region_held3 (fun Y=>Y.cell? ⟨w.heap.size,1,none⟩=some (.int .i64 A)/\Y.cell? ⟨fg,k*5,none⟩=some (.int .u64 (f.code:Int))/\Y.cell? ⟨w.heap.size,4,none⟩=some (.int .i64 (m:Int))) (first|(with_reducible assumption)|exact⟨r1,f0,r4⟩|exact⟨(zV hib).trans r1,(zV hgf).trans f0,(zV hib).trans r4⟩) (first|(go_at_call 90;refine(HTP.out _).mono ?_;rintro e w' ⟨rfl,hw'⟩;subst w')|(go_at_call 126;refine(HFD.out _).mono ?_;rintro e w' ⟨rfl,q5,rfl⟩));go_wp2_with fail;go_ret;exact⟨rfl,⟨_,_,_,_,HJ.out _⟩,(HF.out.setCell (p:=⟨g,2+A,none⟩) (.inl hgO) _).drewN _⟩
theorem jko {k:Nat} {f:Fm} (hl:C.fr.length=k+1) (hf:C.fr[k]?=some f) (A:Nat) (hA:A<16) (B D n:Int) (h0:n<0\/1024<=n):
  Calls prog 95 #[.pointer (some ⟨g,0,none⟩),.agg #[.int .i64 4,.int .i64 A,.int .i64 B,.int .i64 D,.int .i64 n]] w fun e w'=>Did O w g b (C,7) e w':=by
 obtain⟨X,hX,hblk,hb0,hF0,r0,r1,r2,r3,r4⟩:=ji O w 4 A B D n;have aX:=a.below hb0;have HW:=hid hX;have gA:=aX.regc hA;have i0:(0:Int)<=(A:Int):=by omega
 have i1:(A:Int)<16:=by omega
 have HA:=hid aX;have HF:=hid hF0;have hOX:∀i,X.heap.size<=i->O i:=fun i hi=>hO i (zqs hF0.size hi);obtain⟨fg,fc,hv,hkb,HT,f1,f4,fz,hpb,hfX,hfO⟩:=j7 a aX ok hl hf;replace HT:=hid HT;have hgO:=a.og;have hbs:=ok.bs f (zqc hf);obtain⟨a2,k2,e2,hk2⟩:=jH aX.os;have c2:=aX.cs;rw[e2] at c2;have hcut:=zU a2 C.sl.length k2 f.base hbs;unfold sliced at hcut;obtain⟨sa,hsv⟩:∃sa,(if k2=f.base then a2 else a2.map (fun x=>x.add (f.base*1)))=sa:=⟨_,rfl⟩;rw[hsv] at hcut;have rz:=aX.fz (2+A);have HG:=hid (jdz h0);clear a ok hO hblk hb0 hF0 hX aX hl hA hpb hv hf f1 fz hgO hfO hfX hOX e2 hbs hk2 hsv;clear h0;go_enter Tryz.func95,Tryz.ntmps95;go_wp2_with fail;rw[HW.out];go_wp2_with fail;refine HT.out.mono ?_;rintro e w1 ⟨rfl,q1,rfl⟩;go_wp2_with fail;go_quiet (fail);go_wp2_with fail;refine(HG.out _).mono ?_;rintro e w2 ⟨rfl,hw2⟩;subst w2;go_wp2_with fail;go_ret;exact⟨rfl,⟨_,_,_,_,HA.out.drewN _⟩,HF.out.drewN _⟩
theorem jkp {k:Nat} {f:Fm} (hl:C.fr.length=k+1) (hf:C.fr[k]?=some f) (A:Nat) (hA:A<16) (B D:Int) {m:Nat} (h1:m<1024):
  Calls prog 95 #[.pointer (some ⟨g,0,none⟩),.agg #[.int .i64 4,.int .i64 A,.int .i64 B,.int .i64 D,.int .i64 m]] w fun e w'=>Did O w g b ({C with gl:=jG C.gl m (C.rg A),us:=max C.us (m+1)},0) e w':=by
 obtain⟨X,hX,hblk,hb0,hF0,r0,r1,r2,r3,r4⟩:=ji O w 4 A B D (m:Int);have aX:=a.below hb0;have HW:=hid hX;have gA:=aX.regc hA;have i0:(0:Int)<=(A:Int):=by omega
 have i1:(A:Int)<16:=by omega
 have HA:=hid aX;have HF:=hid hF0;have hOX:∀i,X.heap.size<=i->O i:=fun i hi=>hO i (zqs hF0.size hi);obtain⟨fg,fc,hv,hkb,HT,f1,f4,fz,hpb,hfX,hfO⟩:=j7 a aX ok hl hf;replace HT:=hid HT;have hgO:=a.og;have hbs:=ok.bs f (zqc hf);obtain⟨a2,k2,e2,hk2⟩:=jH aX.os;have c2:=aX.cs;rw[e2] at c2;have hcut:=zU a2 C.sl.length k2 f.base hbs;unfold sliced at hcut;obtain⟨sa,hsv⟩:∃sa,(if k2=f.base then a2 else a2.map (fun x=>x.add (f.base*1)))=sa:=⟨_,rfl⟩;rw[hsv] at hcut;have rz:=aX.fz (2+A);have HG:=hid (jaL (n:=(m:Int)) (by omega) (by omega));have gm:=aX.globc h1;have gz:=aX.fz (18+m);have cu:=aX.cus;have uz:=aX.fz 1042;have m0:(0:Int)<=(m:Int):=by omega
 have m1:(m:Int)<1024:=by omega
 have hus:=ok.us;obtain⟨U,hU⟩:∃U,C.us=U:=⟨_,rfl⟩;have HJ:=hid (fun q=>show McAt O ((((X.drewN q).setCell ⟨g,18+m,none⟩ (.int .u64 (C.rg A:Int))).setCell ⟨g,1042,none⟩ (.int .i64 ((max C.us (m+1):Nat):Int))).drew) g {C with gl:=jG C.gl m (C.rg A),us:=max C.us (m+1)} b R vf vs vh from((((aX.drewN q).glob h1 (C.rg A)).used (max C.us (m+1))).drewN 1));rw[hU] at cu hus HJ ⊢;have l1:=jv (n:=(m:Int)+1) (by omega) (by omega);have l2:max (U:Int) ((m:Int)+1)=((max U (m+1):Nat):Int):=by omega
 clear a ok hO hblk hb0 hF0 hX aX hl hA hpb hv hf f1 fz hfO hfX hOX e2 hbs hk2 hsv;clear h1 hU;go_enter Tryz.func95,Tryz.ntmps95;go_wp2_with fail;rw[HW.out];go_wp2_with fail;refine HT.out.mono ?_;rintro e w1 ⟨rfl,q1,rfl⟩;go_wp2_with fail;go_quiet (fail);go_wp2_with fail;refine(HG.out _).mono ?_;rintro e w2 ⟨rfl,hw2⟩;subst w2;go_wp2_with fail;go_region;all_goals
  go_wp2_with fail;go_region;all_goals
   go_wp2_with fail;go_ret;exact⟨rfl,⟨_,_,_,_,HJ.out _⟩,(((HF.out.drewN _).setCell (p:=⟨g,18+m,none⟩) (.inl hgO) _).setCell (p:=⟨g,1042,none⟩) (.inl hgO) _).drew⟩
theorem jhA {k:Nat} {f:Fm} (hl:C.fr.length=k+1) (hf:C.fr[k]?=some f) (A:Nat) (hA:A<16) (B D n:Int) (h0:n<0):
  Calls prog 95 #[.pointer (some ⟨g,0,none⟩),.agg #[.int .i64 5,.int .i64 A,.int .i64 B,.int .i64 D,.int .i64 n]] w fun e w'=>Did O w g b (C,7) e w':=by
 obtain⟨X,hX,hblk,hb0,hF0,r0,r1,r2,r3,r4⟩:=ji O w 5 A B D n;have aX:=a.below hb0;have HW:=hid hX;have gA:=aX.regc hA;have i0:(0:Int)<=(A:Int):=by omega
 have i1:(A:Int)<16:=by omega
 have HA:=hid aX;have HF:=hid hF0;have hOX:∀i,X.heap.size<=i->O i:=fun i hi=>hO i (zqs hF0.size hi);obtain⟨fg,fc,hv,hkb,HT,f1,f4,fz,hpb,hfX,hfO⟩:=j7 a aX ok hl hf;replace HT:=hid HT;have hgO:=a.og;have hbs:=ok.bs f (zqc hf);obtain⟨a2,k2,e2,hk2⟩:=jH aX.os;have c2:=aX.cs;rw[e2] at c2;have hcut:=zU a2 C.sl.length k2 f.base hbs;unfold sliced at hcut;obtain⟨sa,hsv⟩:∃sa,(if k2=f.base then a2 else a2.map (fun x=>x.add (f.base*1)))=sa:=⟨_,rfl⟩;rw[hsv] at hcut;have rz:=aX.fz (2+A);have d0:decide (n<0)=true:=zqr h0;clear a ok hO hblk hb0 hF0 hX aX hl hA hpb hv hf f1 fz hgO hfO hfX hOX e2 hbs hk2 hsv;clear h0;go_enter Tryz.func95,Tryz.ntmps95;go_wp2_with fail;rw[HW.out];go_wp2_with fail;refine HT.out.mono ?_;rintro e w1 ⟨rfl,q1,rfl⟩;go_wp2_with fail;go_quiet (fail);go_wp2_with fail;go_ret;exact⟨rfl,⟨_,_,_,_,HA.out.drewN _⟩,HF.out.drewN _⟩
theorem jhz {k:Nat} {f:Fm} (hl:C.fr.length=k+1) (hf:C.fr[k]?=some f) (A:Nat) (hA:A<16) (B D n:Int) (h0:0<=n) (h1:((C.sl.length-f.base:Nat):Int)<=n):
  Calls prog 95 #[.pointer (some ⟨g,0,none⟩),.agg #[.int .i64 5,.int .i64 A,.int .i64 B,.int .i64 D,.int .i64 n]] w fun e w'=>Did O w g b (C,7) e w':=by
 obtain⟨X,hX,hblk,hb0,hF0,r0,r1,r2,r3,r4⟩:=ji O w 5 A B D n;have aX:=a.below hb0;have HW:=hid hX;have gA:=aX.regc hA;have i0:(0:Int)<=(A:Int):=by omega
 have i1:(A:Int)<16:=by omega
 have HA:=hid aX;have HF:=hid hF0;have hOX:∀i,X.heap.size<=i->O i:=fun i hi=>hO i (zqs hF0.size hi);obtain⟨fg,fc,hv,hkb,HT,f1,f4,fz,hpb,hfX,hfO⟩:=j7 a aX ok hl hf;replace HT:=hid HT;have hgO:=a.og;have hbs:=ok.bs f (zqc hf);obtain⟨a2,k2,e2,hk2⟩:=jH aX.os;have c2:=aX.cs;rw[e2] at c2;have hcut:=zU a2 C.sl.length k2 f.base hbs;unfold sliced at hcut;obtain⟨sa,hsv⟩:∃sa,(if k2=f.base then a2 else a2.map (fun x=>x.add (f.base*1)))=sa:=⟨_,rfl⟩;rw[hsv] at hcut;have rz:=aX.fz (2+A);obtain⟨SL,hSL⟩:∃SL,C.sl.length-f.base=SL:=⟨_,rfl⟩;rw[hSL] at hcut h1;have d0:decide (n<0)=false:=zqq (by omega);have d1:decide ((SL:Int)<=n)=true:=zqr h1;clear a ok hO hblk hb0 hF0 hX aX hl hA hpb hv hf f1 fz hgO hfO hfX hOX e2 hbs hk2 hsv;clear h0 h1 hSL;go_enter Tryz.func95,Tryz.ntmps95;go_wp2_with fail;rw[HW.out];go_wp2_with fail;refine HT.out.mono ?_;rintro e w1 ⟨rfl,q1,rfl⟩;go_wp2_with fail;go_quiet (fail);go_wp2_with fail;go_ret;exact⟨rfl,⟨_,_,_,_,HA.out.drewN _⟩,HF.out.drewN _⟩
theorem jhC {k:Nat} {f:Fm} (hl:C.fr.length=k+1) (hf:C.fr[k]?=some f) (A:Nat) (hA:A<16) (B D n:Int) (h0:n<0):
  Calls prog 95 #[.pointer (some ⟨g,0,none⟩),.agg #[.int .i64 6,.int .i64 A,.int .i64 B,.int .i64 D,.int .i64 n]] w fun e w'=>Did O w g b (C,7) e w':=by
 obtain⟨X,hX,hblk,hb0,hF0,r0,r1,r2,r3,r4⟩:=ji O w 6 A B D n;have aX:=a.below hb0;have HW:=hid hX;have gA:=aX.regc hA;have i0:(0:Int)<=(A:Int):=by omega
 have i1:(A:Int)<16:=by omega
 have HA:=hid aX;have HF:=hid hF0;have hOX:∀i,X.heap.size<=i->O i:=fun i hi=>hO i (zqs hF0.size hi);obtain⟨fg,fc,hv,hkb,HT,f1,f4,fz,hpb,hfX,hfO⟩:=j7 a aX ok hl hf;replace HT:=hid HT;have hgO:=a.og;have hbs:=ok.bs f (zqc hf);obtain⟨a2,k2,e2,hk2⟩:=jH aX.os;have c2:=aX.cs;rw[e2] at c2;have hcut:=zU a2 C.sl.length k2 f.base hbs;unfold sliced at hcut;obtain⟨sa,hsv⟩:∃sa,(if k2=f.base then a2 else a2.map (fun x=>x.add (f.base*1)))=sa:=⟨_,rfl⟩;rw[hsv] at hcut;have rz:=aX.fz (2+A);have d0:decide (n<0)=true:=zqr h0;clear a ok hO hblk hb0 hF0 hX aX hl hA hpb hv hf f1 fz hgO hfO hfX hOX e2 hbs hk2 hsv;clear h0;go_enter Tryz.func95,Tryz.ntmps95;go_wp2_with fail;rw[HW.out];go_wp2_with fail;refine HT.out.mono ?_;rintro e w1 ⟨rfl,q1,rfl⟩;go_wp2_with fail;go_quiet (fail);go_wp2_with fail;go_ret;exact⟨rfl,⟨_,_,_,_,HA.out.drewN _⟩,HF.out.drewN _⟩
theorem jhB {k:Nat} {f:Fm} (hl:C.fr.length=k+1) (hf:C.fr[k]?=some f) (A:Nat) (hA:A<16) (B D n:Int) (h0:0<=n) (h1:((C.sl.length-f.base:Nat):Int)<=n):
  Calls prog 95 #[.pointer (some ⟨g,0,none⟩),.agg #[.int .i64 6,.int .i64 A,.int .i64 B,.int .i64 D,.int .i64 n]] w fun e w'=>Did O w g b (C,7) e w':=by
 obtain⟨X,hX,hblk,hb0,hF0,r0,r1,r2,r3,r4⟩:=ji O w 6 A B D n;have aX:=a.below hb0;have HW:=hid hX;have gA:=aX.regc hA;have i0:(0:Int)<=(A:Int):=by omega
 have i1:(A:Int)<16:=by omega
 have HA:=hid aX;have HF:=hid hF0;have hOX:∀i,X.heap.size<=i->O i:=fun i hi=>hO i (zqs hF0.size hi);obtain⟨fg,fc,hv,hkb,HT,f1,f4,fz,hpb,hfX,hfO⟩:=j7 a aX ok hl hf;replace HT:=hid HT;have hgO:=a.og;have hbs:=ok.bs f (zqc hf);obtain⟨a2,k2,e2,hk2⟩:=jH aX.os;have c2:=aX.cs;rw[e2] at c2;have hcut:=zU a2 C.sl.length k2 f.base hbs;unfold sliced at hcut;obtain⟨sa,hsv⟩:∃sa,(if k2=f.base then a2 else a2.map (fun x=>x.add (f.base*1)))=sa:=⟨_,rfl⟩;rw[hsv] at hcut;have rz:=aX.fz (2+A);obtain⟨SL,hSL⟩:∃SL,C.sl.length-f.base=SL:=⟨_,rfl⟩;rw[hSL] at hcut h1;have d0:decide (n<0)=false:=zqq (by omega);have d1:decide ((SL:Int)<=n)=true:=zqr h1;clear a ok hO hblk hb0 hF0 hX aX hl hA hpb hv hf f1 fz hgO hfO hfX hOX e2 hbs hk2 hsv;clear h0 h1 hSL;go_enter Tryz.func95,Tryz.ntmps95;go_wp2_with fail;rw[HW.out];go_wp2_with fail;refine HT.out.mono ?_;rintro e w1 ⟨rfl,q1,rfl⟩;go_wp2_with fail;go_quiet (fail);go_wp2_with fail;go_ret;exact⟨rfl,⟨_,_,_,_,HA.out.drewN _⟩,HF.out.drewN _⟩
end
end
section
variable {O:Nat->Prop} {w w1:World} {g b:Nat} {C:CM} {R:Nat->Value} {vf vs vh:Value}
section
variable (a:McAt O w g C b R vf vs vh) (ok:OkC C) (hO:∀i,w.heap.size<=i->O i)
include a ok hO
theorem ji3 {k:Nat} {f:Fm} (hl:C.fr.length=k+1) (hf:C.fr[k]?=some f) (A:Nat) (hA:A<16) (B D:Int) {m:Nat} (h1:m<C.sl.length-f.base):
  Calls prog 95 #[.pointer (some ⟨g,0,none⟩),.agg #[.int .i64 5,.int .i64 A,.int .i64 B,.int .i64 D,.int .i64 m]] w fun e w'=>Did O w g b ({C with rg:=jG C.rg A (C.sl.getD (f.base+m) 0)},0) e w':=by
 obtain⟨X,hX,hblk,hb0,hF0,r0,r1,r2,r3,r4⟩:=ji O w 5 A B D (m:Int);have aX:=a.below hb0;have HW:=hid hX;have gA:=aX.regc hA;have i0:(0:Int)<=(A:Int):=by omega
 have i1:(A:Int)<16:=by omega
 have HA:=hid aX;have HF:=hid hF0;have hOX:∀i,X.heap.size<=i->O i:=fun i hi=>hO i (zqs hF0.size hi);obtain⟨fg,fc,hv,hkb,HT,f1,f4,fz,hpb,hfX,hfO⟩:=j7 a aX ok hl hf;replace HT:=hid HT;have hgO:=a.og;obtain⟨sg,sc,e2,_,_⟩:=aX.os.form (by omega);have hsc:=jay aX.os e2;have c2:=aX.cs;rw[e2] at c2;obtain⟨Bs,hBs⟩:∃Bs,f.base=Bs:=⟨_,rfl⟩;rw[hBs] at h1 f4 ⊢;have hcut:=zU (some ⟨sg,0,none⟩) C.sl.length sc Bs (by omega);have hsv:sliced (some ⟨sg,0,none⟩) Bs C.sl.length sc 1=.slice (some ⟨sg,Bs,none⟩) (C.sl.length-Bs) (sc-Bs):=by
  unfold sliced;rw[if_neg (by omega)];simp[Addr.add];omega
 rw[hsv] at hcut;have scell:X.cell? ⟨sg,Bs+m,none⟩=some (.int .u64 ((C.sl.getD (Bs+m) 0:Nat):Int)):=by
  have:=aX.os;rw[e2] at this;rw[this.cellAt (Bs+m) (by omega)];unfold u64s;rw[List.getElem?_map,zqh (by omega),zqi,zqh (by omega)];rfl
 have sfz:X.frozen? ⟨sg,Bs+m,none⟩=false:=by
  have:=aX.os;rw[e2] at this;exact this.frozenAt _
 have hsO:=aX.o2 sg (by rw[e2];rfl);have hss:=aX.setSlot e2 rfl (Bs+m) (C.rg A);have hsib:sg≠w.heap.size:=fun e=>by
  have h1:=jC a.os (i:=sg) (by rw[e2];rfl);omega
 obtain⟨SL,hSL⟩:∃SL,C.sl.length-Bs=SL:=⟨_,rfl⟩;rw[hSL] at hcut h1;obtain⟨V,hV⟩:∃V,C.sl.getD (Bs+m) 0=V:=⟨_,rfl⟩;rw[hV] at scell;have d0:decide ((m:Int)<0)=false:=zqq (by omega);have d1:decide ((SL:Int)<=(m:Int))=false:=zqq (by omega);have d2:decide (SL<=m)=false:=zqq (by omega);have m0:(0:Int)<=(m:Int):=by omega
 have m1:(m:Int)<(SL:Int):=by omega
 have rz:=aX.fz (2+A);have HJ:=hid (fun q=>(aX.reg hA V).drewN q);rw[hV];clear a ok hO hblk hb0 hF0 hX aX hl hA hpb hv hf f1 fz hfO hfX hOX e2 hsc hBs hsv hSL hV h1;clear hss hsO;go_enter Tryz.func95,Tryz.ntmps95;go_wp2_with fail;rw[HW.out];go_wp2_with fail;refine HT.out.mono ?_;rintro e w1 ⟨rfl,q1,rfl⟩;go_wp2_with fail;go_quiet (fail);go_wp2_with fail;go_region;all_goals
  go_wp2_with fail;go_ret;exact⟨rfl,⟨_,_,_,_,HJ.out _⟩,(HF.out.setCell (p:=⟨g,2+A,none⟩) (.inl hgO) _).drewN _⟩
theorem ji4 {k:Nat} {f:Fm} (hl:C.fr.length=k+1) (hf:C.fr[k]?=some f) (A:Nat) (hA:A<16) (B D:Int) {m:Nat} (h1:m<C.sl.length-f.base):
  Calls prog 95 #[.pointer (some ⟨g,0,none⟩),.agg #[.int .i64 6,.int .i64 A,.int .i64 B,.int .i64 D,.int .i64 m]] w fun e w'=>Did O w g b ({C with sl:=C.sl.set (f.base+m) (C.rg A)},0) e w':=by
 obtain⟨X,hX,hblk,hb0,hF0,r0,r1,r2,r3,r4⟩:=ji O w 6 A B D (m:Int);have aX:=a.below hb0;have HW:=hid hX;have gA:=aX.regc hA;have i0:(0:Int)<=(A:Int):=by omega
 have i1:(A:Int)<16:=by omega
 have HA:=hid aX;have HF:=hid hF0;have hOX:∀i,X.heap.size<=i->O i:=fun i hi=>hO i (zqs hF0.size hi);obtain⟨fg,fc,hv,hkb,HT,f1,f4,fz,hpb,hfX,hfO⟩:=j7 a aX ok hl hf;replace HT:=hid HT;have hgO:=a.og;obtain⟨sg,sc,e2,_,_⟩:=aX.os.form (by omega);have hsc:=jay aX.os e2;have c2:=aX.cs;rw[e2] at c2;obtain⟨Bs,hBs⟩:∃Bs,f.base=Bs:=⟨_,rfl⟩;rw[hBs] at h1 f4 ⊢;have hcut:=zU (some ⟨sg,0,none⟩) C.sl.length sc Bs (by omega);have hsv:sliced (some ⟨sg,0,none⟩) Bs C.sl.length sc 1=.slice (some ⟨sg,Bs,none⟩) (C.sl.length-Bs) (sc-Bs):=by
  unfold sliced;rw[if_neg (by omega)];simp[Addr.add];omega
 rw[hsv] at hcut;have scell:X.cell? ⟨sg,Bs+m,none⟩=some (.int .u64 ((C.sl.getD (Bs+m) 0:Nat):Int)):=by
  have:=aX.os;rw[e2] at this;rw[this.cellAt (Bs+m) (by omega)];unfold u64s;rw[List.getElem?_map,zqh (by omega),zqi,zqh (by omega)];rfl
 have sfz:X.frozen? ⟨sg,Bs+m,none⟩=false:=by
  have:=aX.os;rw[e2] at this;exact this.frozenAt _
 have hsO:=aX.o2 sg (by rw[e2];rfl);have hss:=aX.setSlot e2 rfl (Bs+m) (C.rg A);have hsib:sg≠w.heap.size:=fun e=>by
  have h1:=jC a.os (i:=sg) (by rw[e2];rfl);omega
 obtain⟨SL,hSL⟩:∃SL,C.sl.length-Bs=SL:=⟨_,rfl⟩;rw[hSL] at hcut h1;obtain⟨V,hV⟩:∃V,C.sl.getD (Bs+m) 0=V:=⟨_,rfl⟩;rw[hV] at scell;have d0:decide ((m:Int)<0)=false:=zqq (by omega);have d1:decide ((SL:Int)<=(m:Int))=false:=zqq (by omega);have d2:decide (SL<=m)=false:=zqq (by omega);have m0:(0:Int)<=(m:Int):=by omega
 have m1:(m:Int)<(SL:Int):=by omega
 have rz:=aX.fz (2+A);have HJ:=hid (fun q=>hss.drewN q);clear a ok hO hblk hb0 hF0 hX aX hl hA hpb hv hf f1 fz hfO hfX hOX e2 hsc hBs hsv hSL hV h1;clear hss;go_enter Tryz.func95,Tryz.ntmps95;go_wp2_with fail;rw[HW.out];go_wp2_with fail;refine HT.out.mono ?_;rintro e w1 ⟨rfl,q1,rfl⟩;go_wp2_with fail;go_quiet (fail);go_wp2_with fail;go_region;all_goals
  go_wp2_with fail;go_ret;exact⟨rfl,⟨_,_,_,_,HJ.out _⟩,(HF.out.setCell (p:=⟨sg,Bs+m,none⟩) (.inl hsO) _).drewN _⟩
end
end
def DidS (O:Nat->Prop) (w:World) (g b:Nat) (r:RM×Int) (e:Ending) (w':World):Prop:=∃c:CM×Int,Did O w g b c e w'/\Rel c r
structure Pre (O:Nat->Prop) (w:World) (g b:Nat) (C:CM) (R:Nat->Value) (vf vs vh:Value) (M:RM) (D:Nat->Prop) (f A:Nat->Nat) (E:List Nat) (k:Nat) (y:Fm):Prop where
 a:McAt O w g C b R vf vs vh
 s:Sim M C D f A
 u:Usd M E
 t:TopS M C D A k y
 O:∀i,w.heap.size<=i->O i
 p0:0<=(jK M).place
 p1:(jK M).place<=20000
structure Qu (a b c n:Int):Prop where
 a0:0<=a
 a1:a<16
 b0:0<=b
 b1:b<16
 c0:0<=c
 c1:c<16
 n0: -2147483648<=n
 n1:n<=2147483647
section
variable {O:Nat->Prop} {w:World} {g b:Nat} {C:CM} {R:Nat->Value} {vf vs vh:Value} {M:RM} {D:Nat->Prop} {f A:Nat->Nat} {E:List Nat} {k:Nat} {y:Fm}
theorem Pre.stop (h:Pre O w g b C R vf vs vh M D f A E k y) {n:Int} (h0:n≠0):Rel (C,n) (M,n):=.stop h.s h.u h0 rfl rfl
theorem Pre.get (h:Pre O w g b C R vf vs vh M D f A E k y) {a:Nat} (ha:a<16):Jf D E (M.rg a):=h.s.gotr h.u ha
theorem jM {a:Int} (h:0<=a):∃m:Nat,a=m:=⟨a.toNat,by omega⟩
theorem jmA (h:Pre O w g b C R vf vs vh M D f A E k y) {op a c d n:Int} (i:Qu a c d n) (ho:op=1\/op=2\/op=3\/op=4\/op=5\/op=6):
  Calls prog 95 #[.pointer (some ⟨g,0,none⟩),.agg #[.int .i64 op,.int .i64 a,.int .i64 c,.int .i64 d,.int .i64 n]] w fun e w'=>DidS O w g b (opR M op a c d n) e w':=by
 obtain⟨a,rfl⟩:=jM i.a0;obtain⟨c,rfl⟩:=jM i.b0;have ha:a<16:=by have:=i.a1;omega
 have hc:c<16:=by have:=i.b1;omega
 have ok:=h.s.ok;have fl:=h.t.fl;have fy:=h.t.fy;have n0:=i.n0;have n1:=i.n1;rcases ho with rfl|rfl|rfl|rfl|rfl|rfl
 ·refine(jrS h.a ok h.O fl fy a ha c d n).mono fun e w' q=>⟨_,q,?_⟩
  exact .reg h.s h.u a (v:=.I n) (Je ⟨by omega,by omega⟩) rfl
 ·show Calls _ _ _ _ fun e w'=>DidS O w g b (jld M a n) e w'
  unfold jld;by_cases h0:n<0
  ·rw[if_pos (.inl h0)]
   exact(ji2 h.a ok h.O fl fy a ha c d n h0).mono fun e w' q=>⟨_,q,h.stop (by decide)⟩
  ·obtain⟨m,rfl⟩:=jM (by omega:0<=n)
   obtain⟨j,o,c1,c2,_,_,_,c3,_⟩:=h.t.co;have e1:jo M (jK M).code=o:=by rw[c1];exact Zy c2
   rw[e1];by_cases h1:m<o.ws.length
   ·rw[if_neg (by omega)]
    refine(jkn h.a ok h.O fl fy a ha c d (by omega:m<y.lits)).mono fun e w' q=>⟨_,q,?_⟩;have:=(jsV h.s h.u h.t (by omega:m<y.lits) a).1;rw[e1] at this;exact this
   ·rw[if_pos (.inr (by omega))]
    exact(ji1 h.a ok h.O fl fy a ha c d m (by omega) (by omega)).mono fun e w' q=>⟨_,q,h.stop (by decide)⟩
 ·refine(jo8 h.a ok h.O fl fy a ha c hc d n).mono fun e w' q=>⟨_,q,?_⟩
  exact .reg h.s h.u a (h.get hc) (h.s.rg c hc)
 ·show Calls _ _ _ _ fun e w'=>DidS O w g b (jhb M a n) e w'
  unfold jhb;by_cases h0:n<0\/1024<=n
  ·rw[if_pos h0]
   exact(jko h.a ok h.O fl fy a ha c d n h0).mono fun e w' q=>⟨_,q,h.stop (by decide)⟩
  ·obtain⟨m,rfl⟩:=jM (by omega:0<=n)
   rw[if_neg h0];refine(jkp h.a ok h.O fl fy a ha c d (by omega:m<1024)).mono fun e w' q=>⟨_,q,?_⟩;exact jqF h.s h.u (by omega) (h.get ha) (h.s.rg a ha)
 ·show Calls _ _ _ _ fun e w'=>DidS O w g b (jhc M a n) e w'
  unfold jhc;have hn:=h.t.num;by_cases h0:n<0
  ·rw[if_pos (.inl h0)]
   exact(jhA h.a ok h.O fl fy a ha c d n h0).mono fun e w' q=>⟨_,q,h.stop (by decide)⟩
  ·obtain⟨m,rfl⟩:=jM (by omega:0<=n)
   by_cases h1:m<(jK M).slots.length
   ·rw[if_neg (by omega)]
    refine(ji3 h.a ok h.O fl fy a ha c d (by omega:m<C.sl.length-y.base)).mono fun e w' q=>⟨_,q,?_⟩;exact jqG h.s h.u h.t h1 a
   ·rw[if_pos (.inr (by omega))]
    exact(jhz h.a ok h.O fl fy a ha c d m (by omega) (by omega)).mono fun e w' q=>⟨_,q,h.stop (by decide)⟩
 ·show Calls _ _ _ _ fun e w'=>DidS O w g b (jhf M a n) e w'
  unfold jhf;have hn:=h.t.num;by_cases h0:n<0
  ·rw[if_pos (.inl h0)]
   exact(jhC h.a ok h.O fl fy a ha c d n h0).mono fun e w' q=>⟨_,q,h.stop (by decide)⟩
  ·obtain⟨m,rfl⟩:=jM (by omega:0<=n)
   by_cases h1:m<(jK M).slots.length
   ·rw[if_neg (by omega)]
    refine(ji4 h.a ok h.O fl fy a ha c d (by omega:m<C.sl.length-y.base)).mono fun e w' q=>⟨_,q,?_⟩;exact jqH h.s h.u h.t (h.get ha) (h.s.rg a ha)
   ·rw[if_pos (.inr (by omega))]
    exact(jhB h.a ok h.O fl fy a ha c d m (by omega) (by omega)).mono fun e w' q=>⟨_,q,h.stop (by decide)⟩
end
section
variable {O:Nat->Prop} {w w1:World} {g b:Nat} {C:CM} {R:Nat->Value} {vf vs vh:Value}
section
variable (a:McAt O w g C b R vf vs vh) (ok:OkC C) (hO:∀i,w.heap.size<=i->O i)
include a ok hO
theorem jet {k:Nat} {f:Fm} (hl:C.fr.length=k+1) (hf:C.fr[k]?=some f) (A:Nat) (hA:A<16) (B D n:Int) (hh:QJ C 3=false):
  Calls prog 99 #[.pointer (some ⟨g,0,none⟩),.agg #[.int .i64 29,.int .i64 A,.int .i64 B,.int .i64 D,.int .i64 n]] w fun e w'=>Did O w g b (C,6) e w':=by
 obtain⟨X,hX,hblk,hb0,hF0,r0,r1,r2,r3,r4⟩:=ji O w 29 A B D n;have aX:=a.below hb0;have HW:=hid hX;have gA:=aX.regc hA;have i0:(0:Int)<=(A:Int):=by omega
 have i1:(A:Int)<16:=by omega
 have HA:=hid aX;have HF:=hid hF0;have hOX:∀i,X.heap.size<=i->O i:=fun i hi=>hO i (zqs hF0.size hi);obtain⟨fg,fc,hv,hkb,HT,f1,f4,fz,hpb,hfX,hfO⟩:=j7 a aX ok hl hf;replace HT:=hid HT;have hgO:=a.og;have HH:=fun q=>jaI (aX.drewN q) ok.n1 ok.n2 ok.n3;rw[hh] at HH;have HH:=hid HH;clear a ok hO hblk hb0 hF0 hX aX hl hA hpb hv hf f1 fz hgO hfO hfX hOX f4;go_enter Tryz.func99,Tryz.ntmps99;go_wp2_with fail;rw[HW.out];go_wp2_with fail;refine HT.out.mono ?_;rintro e w1 ⟨rfl,q1,rfl⟩;go_wp2_with fail;refine(HH.out _).mono ?_;rintro e w2 ⟨rfl,q2,rfl⟩;go_wp2_with fail;go_ret;exact⟨rfl,⟨_,_,_,_,HA.out.drewN _⟩,HF.out.drewN _⟩
theorem jgY {k:Nat} {f:Fm} (hl:C.fr.length=k+1) (hf:C.fr[k]?=some f) (A:Nat) (hA:A<16) (B D n:Int) (n0: -2147483648<=n) (n1:n<=2147483647) (hh:QJ C 3=true):
  Calls prog 99 #[.pointer (some ⟨g,0,none⟩),.agg #[.int .i64 29,.int .i64 A,.int .i64 B,.int .i64 D,.int .i64 n]] w fun e w'=>Did O w g b ({C with ha:=C.ha++[(k,f.place+n)]},0) e w':=by
 obtain⟨t0,hi,hz0,hz1,hz2⟩:=info_parts jtV;obtain⟨X,hX,hblk,hb0,hF0,r0,r1,r2,r3,r4⟩:=ji O w 29 A B D n;have aX:=a.below hb0;have HW:=hid hX;have gA:=aX.regc hA;have i0:(0:Int)<=(A:Int):=by omega
 have i1:(A:Int)<16:=by omega
 have HA:=hid aX;have HF:=hid hF0;have hOX:∀i,X.heap.size<=i->O i:=fun i hi=>hO i (zqs hF0.size hi);obtain⟨fg,fc,hv,hkb,HT,f1,f4,fz,hpb,hfX,hfO⟩:=j7 a aX ok hl hf;replace HT:=hid HT;have hgO:=a.og;have HH:=fun q=>jaI (aX.drewN q) ok.n1 ok.n2 ok.n3;rw[hh] at HH;have HH:=hid HH;have c1:=aX.cf;rw[hv] at c1;obtain⟨K,hK⟩:∃K,k+1=K:=⟨_,rfl⟩;rw[hK] at c1;have l1:(K:Int)-1=(k:Int):=by omega
 have l2:=jv (n:=(k:Int)) (by omega) (by omega);have l3:=jv (n:=f.place+n) (by omega) (by omega);have c3:=aX.ch;have z3:=aX.fz 1047;have hgv:=aX.g3;have hw9:=aX.bx.lt;have h3:=ok.n3;have HC3:=hid (zqf c3 z3);have HRW:=hid (fun(q:Nat) (ob:Obj)=>show((X.drewN q).alloc ob).ownsRow 0 116 2 vh C.ha.length (JY C.ha) from World.ownsRow.alloc (w:=X.drewN q) aX.oh ob);have k1:=fun(q:Nat) (ob:Obj)=>jm (jq (X.drewN q) ob) (show(X.drewN q).cell? _=_ from c3);have k2:=fun(q:Nat) (ob:Obj)=>jm (jq (X.drewN q) ob) (show(X.drewN q).cell? _=_ from c1);have HOX:=hid hOX;obtain⟨PL,hPL⟩:∃PL,f.place+n=PL:=⟨_,rfl⟩;clear a ok hO hblk hb0 hF0 hX aX hl hA hpb hv hf fz hfO hfX hOX f4 n0 n1 hh hK;rw[hPL] at l3;go_enter Tryz.func99,Tryz.ntmps99;go_wp2_with fail;rw[HW.out];go_wp2_with fail;refine HT.out.mono ?_;rintro e w1 ⟨rfl,q1,rfl⟩;go_wp2_with fail;refine(HH.out _).mono ?_;rintro e w2 ⟨rfl,q2,rfl⟩;go_wp2_with fail;go_region_law ((refine step_append_lies _ (by rfl) _ _ 92 (by rfl) 0 116 t0 (.agg #[.int .i64 0,.int .i64 0]) 2 16 Tryz.underlying92 hi hz0 hz1 hz2 rfl (by decide) vh C.ha.length (JY C.ha) (by rfl) (HRW.out _ _) ⟨X.heap.size,0,none⟩ 1 1 [.int .i64 (k:Int),.int .i64 PL] (by rfl) rfl (jpa _ _ _ _ _ (by simp)) (jum _ _) (by omega) (by unfold maxLen;omega) (by omega) (Nat.zero_le _) (X.heap.size+1) (by simp) ?_;intro g6 cap6 w6 hown6 hgrow6 hblk6 hlt6;have d6:w6.cell? ⟨g,1047,none⟩=some vh:=(World.cell?_of_block (hgrow6.block g (Nat.lt_of_lt_of_le hw9 (by simp)) (Ne.symm hgv))).trans ((World.cell?_of_block (Below.heap_alloc _ _ g hw9)).trans HC3.out.1);have e6:w6.frozen? ⟨g,1047,none⟩=false:=(World.frozen?_of_block (hgrow6.block g (Nat.lt_of_lt_of_le hw9 (by simp)) (Ne.symm hgv))).trans ((World.frozen?_of_block (Below.heap_alloc _ _ g hw9)).trans HC3.out.2);have HG6:=hid hgrow6;have HW6:=hid hown6;have HB6:=hid hblk6;clear hown6 hgrow6 hblk6 hlt6));all_goals
  have hF6:Fr (fun i=>vh.ownBlock=some i) X w6:=jg9 (((Fr.refl (fun _=>False) X).drewN _).alloc _) HG6.out;have hown:w6.ownsRow 0 116 2 (.slice (some ⟨g6,0,none⟩) (C.ha.length+1) cap6) (C.ha++[(k,f.place+n)]).length (JY (C.ha++[(k,f.place+n)])):=by
   have:=HW6.out;rw[jr9,zqm,hPL];exact this
  have a6:=HA.out.newHa hF6 hown HOX.out (fun i hi=>by
   have hi2:g6=i:=by simpa[Value.ownBlock] using hi
   rcases HB6.out with h|h
   ·exact .inl (by rw[<-hi2];exact h)
   ·exact .inr (by rw[<-hi2,h];exact Nat.le_succ _))
  have H6:=hid (zqf a6 ((HF.out.trans (hF6.mono (P:=O) (fun i hi=>.inl (HA.out.o3 i hi))) (fun i hi=>.inl hi)).setCell (p:=⟨g,1047,none⟩) (.inl hgO) (.slice (some ⟨g6,0,none⟩) (C.ha.length+1) cap6)));clear a6 hF6 hown k1 k2 d6 e6;go_wp2_with fail;go_ret;exact⟨rfl,⟨_,_,_,_,H6.out.1⟩,H6.out.2⟩
end
end
