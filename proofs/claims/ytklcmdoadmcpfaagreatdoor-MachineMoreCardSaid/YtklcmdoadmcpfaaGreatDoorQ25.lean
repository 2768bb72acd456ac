/- A part of the proof of MachineMoves. Conditions: those that each theorem names. -/
import Derived.Test.YtklcmdoadmcpfaaGreatDoorQ24
set_option maxRecDepth 100000
set_option maxHeartbeats 400000000
namespace Go.Proofs.YtklcmdoadmcpfaaGreatDoor
open Go Go.RowKit IsaL
open Go.Lib(hid)
open Go.Proofs.Tryz(prog)
section
variable {O:Nat->Prop} {w w1:World} {g b:Nat} {C:CM} {R:Nat->Value} {vf vs vh:Value}
theorem jgG (a:McAt O w g C b R vf vs vh) {x:Nat} {o:Ob} (h:jD C x=some o) {n:Int} (hn:n<0\/(o.ws.length:Int)<=n) (y:Nat):Calls prog 29 #[.pointer (some ⟨b,0,none⟩),.int .i64 (jc (x:Int)),.int .i64 n,.int .u64 (y:Int)] w fun e w'=>e=.returned (.int .i64 20)/\∃q,w'=w.drewN q:=by
 obtain⟨j,h1,h2⟩:=qh h;exact jc6 _ n (y:Int) (ja2 a.m a.z _ n (jfb x) h1 h2 hn)
def Qp (C:CM) (x i y:Nat):CM:=match jl C.now C.h C.W (jc (x:Int)) with
 |none=>C
 |some j=>{C with now:=setF C.now j i y}
section
variable (a:McAt O w g C b R vf vs vh)
include a
theorem jcs {x:Nat} {o:Ob} (h:jD C x=some o) {n:Nat} (hn:n<o.ws.length) {y:Nat} (hy:y<18446744073709551616) (hO:∀i,w.heap.size<=i->O i):Calls prog 29 #[.pointer (some ⟨b,0,none⟩),.int .i64 (jc (x:Int)),.int .i64 n,.int .u64 (y:Int)] w fun e w'=>e=.returned (.int .i64 0)/\McAt O w' g (Qp C x n y) b R vf vs vh/\Fr (Own b R) w w':=by
 obtain⟨j,h1,h2⟩:=qh h;refine(Qf a.m a.z _ n y (jfb x) h1 h2 hn).mono ?_;rintro e w' ⟨rfl,hm,hf⟩;have:=a.mem hf hm (jaA a.z h2 hy) (fun i hi=>.inl hi) hO;refine⟨rfl,?_,hf⟩;unfold Qp;simp only[h1];exact this
theorem ji0 (ok:OkC C) (A:Nat) (hA:A<16) (B D n:Int) {K:Nat} (hK:((jD C (C.rg A)).map fun o=>o.k).getD 0=K) (hk:K≠1/\K≠3):
  Calls prog 97 #[.pointer (some ⟨g,0,none⟩),.agg #[.int .i64 20,.int .i64 A,.int .i64 B,.int .i64 D,.int .i64 n]] w fun e w'=>Did O w g b (C,7) e w':=by
 obtain⟨X,hX,hblk,hb0,hF0,r0,r1,r2,r3,r4⟩:=ji O w 20 A B D n;have aX:=a.below hb0;have HW:=hid hX;have gA:=aX.regc hA;have i0:(0:Int)<=(A:Int):=by omega
 have i1:(A:Int)<16:=by omega
 have HA:=hid aX;have HF:=hid hF0;have hgO:=a.og;obtain⟨x,hx⟩:∃x,C.rg A=x:=⟨_,rfl⟩;have hxl:=ok.rg A hA;rw[hx] at gA hxl hK;have HOB:=fun q=>zh (aX.drewN q) hxl;rw[hK] at HOB;obtain⟨V,hV⟩:∃V,(if(jD C x).isSome then jc (x:Int) else 0)=V:=⟨_,rfl⟩;rw[hV] at HOB;have HOB:=hid HOB;clear hV;have k1a:((K:Int)==1)=false:=by rw[beq_eq_false_iff_ne];omega
 have k1b:(K==1)=false:=by rw[beq_eq_false_iff_ne];omega
 have k1c:¬K=1:=by omega
 have k1d:((K:Int) !=1)=true:=by simp only[bne,k1a];rfl
 have k3a:((K:Int)==3)=false:=by rw[beq_eq_false_iff_ne];omega
 have k3b:(K==3)=false:=by rw[beq_eq_false_iff_ne];omega
 have k3c:¬K=3:=by omega
 have k3d:((K:Int) !=3)=true:=by simp only[bne,k3a];rfl
 clear a ok hblk hb0 hF0 hX aX hA;clear hx hxl hK;go_enter Tryz.func97,Tryz.ntmps97;go_wp2_with fail;rw[HW.out];go_wp2_with fail;go_region_held3 (fun Y=>Y.cell? ⟨w.heap.size,1,none⟩=some (.int .i64 A)/\Y.cell? ⟨g,2+A,none⟩=some (.int .u64 (x:Int))) (first|(with_reducible assumption)|exact⟨r1,gA⟩) (first|(go_at_call 133;refine(HOB.out _).mono ?_;rintro e w' ⟨rfl,q5,rfl⟩));go_wp2_with fail;go_quiet (fail);go_wp2_with fail;go_ret;exact⟨rfl,⟨_,_,_,_,(HA.out.drewN _).drewN _⟩,(HF.out.drewN _).drewN _⟩
theorem jgS (ok:OkC C) (A:Nat) (hA:A<16) (B D n:Int) {K:Nat} (hK:((jD C (C.rg A)).map fun o=>o.k).getD 0=K) (hk:K≠2):
  Calls prog 97 #[.pointer (some ⟨g,0,none⟩),.agg #[.int .i64 21,.int .i64 A,.int .i64 B,.int .i64 D,.int .i64 n]] w fun e w'=>Did O w g b (C,7) e w':=by
 obtain⟨X,hX,hblk,hb0,hF0,r0,r1,r2,r3,r4⟩:=ji O w 21 A B D n;have aX:=a.below hb0;have HW:=hid hX;have gA:=aX.regc hA;have i0:(0:Int)<=(A:Int):=by omega
 have i1:(A:Int)<16:=by omega
 have HA:=hid aX;have HF:=hid hF0;have hgO:=a.og;obtain⟨x,hx⟩:∃x,C.rg A=x:=⟨_,rfl⟩;have hxl:=ok.rg A hA;rw[hx] at gA hxl hK;have HOB:=fun q=>zh (aX.drewN q) hxl;rw[hK] at HOB;obtain⟨V,hV⟩:∃V,(if(jD C x).isSome then jc (x:Int) else 0)=V:=⟨_,rfl⟩;rw[hV] at HOB;have HOB:=hid HOB;clear hV;have k2a:((K:Int)==2)=false:=by rw[beq_eq_false_iff_ne];omega
 have k2b:(K==2)=false:=by rw[beq_eq_false_iff_ne];omega
 have k2c:¬K=2:=by omega
 have k2d:((K:Int) !=2)=true:=by simp only[bne,k2a];rfl
 clear a ok hblk hb0 hF0 hX aX hA;clear hx hxl hK;go_enter Tryz.func97,Tryz.ntmps97;go_wp2_with fail;rw[HW.out];go_wp2_with fail;go_region_held3 (fun Y=>Y.cell? ⟨w.heap.size,1,none⟩=some (.int .i64 A)/\Y.cell? ⟨g,2+A,none⟩=some (.int .u64 (x:Int))) (first|(with_reducible assumption)|exact⟨r1,gA⟩) (first|(go_at_call 133;refine(HOB.out _).mono ?_;rintro e w' ⟨rfl,q5,rfl⟩));go_wp2_with fail;go_ret;exact⟨rfl,⟨_,_,_,_,HA.out.drewN _⟩,HF.out.drewN _⟩
theorem jgV (ok:OkC C) (A:Nat) (hA:A<16) (B:Nat) (hB:B<16) (D n:Int) {o:Ob} (ho:jD C (C.rg A)=some o) (hk:o.k=1) (hn:n<0\/(o.ws.length:Int)<=n):
  Calls prog 97 #[.pointer (some ⟨g,0,none⟩),.agg #[.int .i64 20,.int .i64 A,.int .i64 B,.int .i64 D,.int .i64 n]] w fun e w'=>Did O w g b (C,7) e w':=by
 obtain⟨X,hX,hblk,hb0,hF0,r0,r1,r2,r3,r4⟩:=ji O w 20 A B D n;have aX:=a.below hb0;have HW:=hid hX;have gA:=aX.regc hA;have i0:(0:Int)<=(A:Int):=by omega
 have i1:(A:Int)<16:=by omega
 have HA:=hid aX;have HF:=hid hF0;have hgO:=a.og;have gB:=aX.regc hB;have i2:(0:Int)<=(B:Int):=by omega
 have i3:(B:Int)<16:=by omega
 obtain⟨y,hy⟩:∃y,C.rg B=y:=⟨_,rfl⟩;have hyl:=ok.rg B hB;rw[hy] at gB hyl;obtain⟨x,hx⟩:∃x,C.rg A=x:=⟨_,rfl⟩;have hxl:=ok.rg A hA;rw[hx] at gA hxl ho;have HOB:=jat aX hxl ho (K:=1) (by omega);obtain⟨PA,hPA⟩:∃PA,jc (x:Int)=PA:=⟨_,rfl⟩;have c0:=aX.c0;have HST:=fun p q=>jgG ((aX.drewN p).drewN q) ho hn y;rw[hPA] at HOB HST;have HOB:=hid HOB;have HST:=hid HST;clear a ok hblk hb0 hF0 hX aX hA;clear hx hxl hy hyl hB ho hn hPA;go_enter Tryz.func97,Tryz.ntmps97;go_wp2_with fail;rw[HW.out];go_wp2_with fail;go_region_held3 (fun Y=>Y.cell? ⟨w.heap.size,1,none⟩=some (.int .i64 A)/\Y.cell? ⟨g,2+A,none⟩=some (.int .u64 (x:Int))) (first|(with_reducible assumption)|exact⟨r1,gA⟩) (first|(go_at_call 133;refine(HOB.out _).mono ?_;rintro e w' ⟨rfl,q5,rfl⟩));go_wp2_with fail;obtain⟨Z,hZ⟩:∃Z,X.drewN (1+q5)=Z:=⟨_,rfl⟩;rw[hZ];have z0:Z.cell? ⟨g,0,none⟩=some (.pointer (some ⟨b,0,none⟩)):=by rw[<-hZ];exact c0
 have z4:Z.cell? ⟨w.heap.size,4,none⟩=some (.int .i64 n):=by rw[<-hZ];exact r4
 have z2:Z.cell? ⟨w.heap.size,2,none⟩=some (.int .i64 B):=by rw[<-hZ];exact r2
 have zB:Z.cell? ⟨g,2+B,none⟩=some (.int .u64 (y:Int)):=by rw[<-hZ];exact gB
 have HSZ:=HST.out (1+q5);rw[hZ] at HSZ;have HSZ:=hid HSZ;have HAZ:=hid (HA.out.drewN (1+q5));have HFZ:=hid (HF.out.drewN (1+q5));rw[hZ] at HAZ HFZ;clear hZ;go_quiet ((go_at_call 29;refine Calls.quiet_of (HSZ.out _)));go_wp2_with fail;go_ret;exact⟨rfl,⟨_,_,_,_,HAZ.out.drewN _⟩,HFZ.out.drewN _⟩
theorem jgW (ok:OkC C) (A:Nat) (hA:A<16) (B:Nat) (hB:B<16) (D n:Int) {o:Ob} (ho:jD C (C.rg A)=some o) (hk:o.k=3) (hn:n<0\/(o.ws.length:Int)<=n):
  Calls prog 97 #[.pointer (some ⟨g,0,none⟩),.agg #[.int .i64 20,.int .i64 A,.int .i64 B,.int .i64 D,.int .i64 n]] w fun e w'=>Did O w g b (C,7) e w':=by
 obtain⟨X,hX,hblk,hb0,hF0,r0,r1,r2,r3,r4⟩:=ji O w 20 A B D n;have aX:=a.below hb0;have HW:=hid hX;have gA:=aX.regc hA;have i0:(0:Int)<=(A:Int):=by omega
 have i1:(A:Int)<16:=by omega
 have HA:=hid aX;have HF:=hid hF0;have hgO:=a.og;have gB:=aX.regc hB;have i2:(0:Int)<=(B:Int):=by omega
 have i3:(B:Int)<16:=by omega
 obtain⟨y,hy⟩:∃y,C.rg B=y:=⟨_,rfl⟩;have hyl:=ok.rg B hB;rw[hy] at gB hyl;obtain⟨x,hx⟩:∃x,C.rg A=x:=⟨_,rfl⟩;have hxl:=ok.rg A hA;rw[hx] at gA hxl ho;have HOB:=jat aX hxl ho (K:=3) (by omega);obtain⟨PA,hPA⟩:∃PA,jc (x:Int)=PA:=⟨_,rfl⟩;have c0:=aX.c0;have HST:=fun q=>jgG (aX.drewN q) ho hn y;rw[hPA] at HOB HST;have HOB:=hid HOB;have HST:=hid HST;clear a ok hblk hb0 hF0 hX aX hA;clear hx hxl hy hyl hB ho hn hPA;go_enter Tryz.func97,Tryz.ntmps97;go_wp2_with fail;rw[HW.out];go_wp2_with fail;go_region_held3 (fun Y=>Y.cell? ⟨w.heap.size,1,none⟩=some (.int .i64 A)/\Y.cell? ⟨g,2+A,none⟩=some (.int .u64 (x:Int))) (first|(with_reducible assumption)|exact⟨r1,gA⟩) (first|(go_at_call 133;refine(HOB.out _).mono ?_;rintro e w' ⟨rfl,q5,rfl⟩));go_wp2_with fail;go_region_held3 (fun Y=>Y.cell? ⟨g,0,none⟩=some (.pointer (some ⟨b,0,none⟩))/\Y.cell? ⟨w.heap.size,4,none⟩=some (.int .i64 n)/\Y.cell? ⟨w.heap.size,2,none⟩=some (.int .i64 B)/\Y.cell? ⟨g,2+B,none⟩=some (.int .u64 (y:Int))) (first|(with_reducible assumption)|exact⟨c0,r4,r2,gB⟩|exact S6) (first|(go_at_call 29;refine(HST.out _).mono ?_;rintro e w' ⟨rfl,q6,rfl⟩));go_wp2_with fail;go_ret;exact⟨rfl,⟨_,_,_,_,HA.out.drewN _⟩,HF.out.drewN _⟩
theorem jhy (ok:OkC C) (hO:∀i,w.heap.size<=i->O i) (A:Nat) (hA:A<16) (B:Nat) (hB:B<16) (D:Int) {o:Ob} (ho:jD C (C.rg A)=some o) (hk:o.k=3) {m:Nat} (hn:m<o.ws.length):
  Calls prog 97 #[.pointer (some ⟨g,0,none⟩),.agg #[.int .i64 20,.int .i64 A,.int .i64 B,.int .i64 D,.int .i64 m]] w fun e w'=>Did O w g b (Qp C (C.rg A) m (C.rg B),0) e w':=by
 obtain⟨X,hX,hblk,hb0,hF0,r0,r1,r2,r3,r4⟩:=ji O w 20 A B D (m:Int);have aX:=a.below hb0;have HW:=hid hX;have gA:=aX.regc hA;have i0:(0:Int)<=(A:Int):=by omega
 have i1:(A:Int)<16:=by omega
 have HA:=hid aX;have HF:=hid hF0;have hOX:∀i,X.heap.size<=i->O i:=fun i hi=>hO i (zqs hF0.size hi);have hgO:=a.og;have gB:=aX.regc hB;have i2:(0:Int)<=(B:Int):=by omega
 have i3:(B:Int)<16:=by omega
 obtain⟨y,hy⟩:∃y,C.rg B=y:=⟨_,rfl⟩;have hyl:=ok.rg B hB;rw[hy] at gB hyl;obtain⟨x,hx⟩:∃x,C.rg A=x:=⟨_,rfl⟩;have hxl:=ok.rg A hA;rw[hx] at gA hxl ho;have HOB:=jat aX hxl ho (K:=3) (by omega);obtain⟨PA,hPA⟩:∃PA,jc (x:Int)=PA:=⟨_,rfl⟩;have c0:=aX.c0;have HST:=fun q=>jcs (aX.drewN q) ho hn hyl hOX;rw[hPA] at HOB HST;have HOB:=hid HOB;have HST:=hid HST;have hibO:¬Own b R w.heap.size:=fun h=>by have:=a.m.own_lt _ h;omega
 have HS6:=hid (fun(q:Nat) (w7:World) (hf7:Fr (Own b R) (X.drewN q) w7)=>show w7.cell? ⟨g,0,none⟩=some (.pointer (some ⟨b,0,none⟩))/\w7.cell? ⟨w.heap.size,4,none⟩=some (.int .i64 (m:Int))/\w7.cell? ⟨w.heap.size,2,none⟩=some (.int .i64 B)/\w7.cell? ⟨g,2+B,none⟩=some (.int .u64 (y:Int)) from⟨hf7.cell_some (p:=⟨g,0,none⟩) c0 a.gm,hf7.cell_some (p:=⟨w.heap.size,4,none⟩) r4 hibO,hf7.cell_some (p:=⟨w.heap.size,2,none⟩) r2 hibO,hf7.cell_some (p:=⟨g,2+B,none⟩) gB a.gm⟩);have HOM:=hid a.om;rw[hx,hy];clear a ok hO hblk hb0 hF0 hX aX hA hOX;clear hx hxl hy hyl hB ho hn hPA hibO;go_enter Tryz.func97,Tryz.ntmps97;go_wp2_with fail;rw[HW.out];go_wp2_with fail;go_region_held3 (fun Y=>Y.cell? ⟨w.heap.size,1,none⟩=some (.int .i64 A)/\Y.cell? ⟨g,2+A,none⟩=some (.int .u64 (x:Int))) (first|(with_reducible assumption)|exact⟨r1,gA⟩) (first|(go_at_call 133;refine(HOB.out _).mono ?_;rintro e w' ⟨rfl,q5,rfl⟩));go_wp2_with fail;go_region_held3 (fun Y=>Y.cell? ⟨g,0,none⟩=some (.pointer (some ⟨b,0,none⟩))/\Y.cell? ⟨w.heap.size,4,none⟩=some (.int .i64 (m:Int))/\Y.cell? ⟨w.heap.size,2,none⟩=some (.int .i64 B)/\Y.cell? ⟨g,2+B,none⟩=some (.int .u64 (y:Int))) (first|(with_reducible assumption)|exact⟨c0,r4,r2,gB⟩|exact S6) (first|(go_at_call 29;refine(HST.out _).mono ?_;rintro e w7 ⟨rfl,h7,hf7⟩;have S6:=HS6.out _ _ hf7;have H7:=hid (zqf h7 hf7);clear h7 hf7));go_wp2_with fail;go_ret;exact⟨rfl,⟨_,_,_,_,H7.out.1⟩,(HF.out.drewN _).trans H7.out.2 (fun i hi=>.inl (HOM.out i hi))⟩
theorem jgT (ok:OkC C) (hO:∀i,w.heap.size<=i->O i) (A:Nat) (hA:A<16) (B:Nat) (hB:B<16) (D n:Int) {o:Ob} (ho:jD C (C.rg A)=some o) (hk:o.k=2) (hn:0<o.ws.length):
  Calls prog 97 #[.pointer (some ⟨g,0,none⟩),.agg #[.int .i64 21,.int .i64 A,.int .i64 B,.int .i64 D,.int .i64 n]] w fun e w'=>Did O w g b (Qp C (C.rg A) 0 (C.rg B),0) e w':=by
 obtain⟨X,hX,hblk,hb0,hF0,r0,r1,r2,r3,r4⟩:=ji O w 21 A B D n;have aX:=a.below hb0;have HW:=hid hX;have gA:=aX.regc hA;have i0:(0:Int)<=(A:Int):=by omega
 have i1:(A:Int)<16:=by omega
 have HA:=hid aX;have HF:=hid hF0;have hOX:∀i,X.heap.size<=i->O i:=fun i hi=>hO i (zqs hF0.size hi);have hgO:=a.og;have gB:=aX.regc hB;have i2:(0:Int)<=(B:Int):=by omega
 have i3:(B:Int)<16:=by omega
 obtain⟨y,hy⟩:∃y,C.rg B=y:=⟨_,rfl⟩;have hyl:=ok.rg B hB;rw[hy] at gB hyl;obtain⟨x,hx⟩:∃x,C.rg A=x:=⟨_,rfl⟩;have hxl:=ok.rg A hA;rw[hx] at gA hxl ho;have HOB:=jat aX hxl ho (K:=2) (by omega);obtain⟨PA,hPA⟩:∃PA,jc (x:Int)=PA:=⟨_,rfl⟩;have c0:=aX.c0;have HST:=fun q=>jcs (aX.drewN q) ho hn hyl hOX;rw[hPA] at HOB HST;have HOB:=hid HOB;have HST:=hid HST;have hibO:¬Own b R w.heap.size:=fun h=>by have:=a.m.own_lt _ h;omega
 have HS6:=hid (fun(q:Nat) (w7:World) (hf7:Fr (Own b R) (X.drewN q) w7)=>show w7.cell? ⟨g,0,none⟩=some (.pointer (some ⟨b,0,none⟩))/\w7.cell? ⟨w.heap.size,2,none⟩=some (.int .i64 B)/\w7.cell? ⟨g,2+B,none⟩=some (.int .u64 (y:Int)) from⟨hf7.cell_some (p:=⟨g,0,none⟩) c0 a.gm,hf7.cell_some (p:=⟨w.heap.size,2,none⟩) r2 hibO,hf7.cell_some (p:=⟨g,2+B,none⟩) gB a.gm⟩);have HOM:=hid a.om;rw[hx,hy];clear a ok hO hblk hb0 hF0 hX aX hA hOX;clear hx hxl hy hyl hB ho hn hPA hibO;go_enter Tryz.func97,Tryz.ntmps97;go_wp2_with fail;rw[HW.out];go_wp2_with fail;go_region_held3 (fun Y=>Y.cell? ⟨w.heap.size,1,none⟩=some (.int .i64 A)/\Y.cell? ⟨g,2+A,none⟩=some (.int .u64 (x:Int))) (first|(with_reducible assumption)|exact⟨r1,gA⟩) (first|(go_at_call 133;refine(HOB.out _).mono ?_;rintro e w' ⟨rfl,q5,rfl⟩));go_wp2_with fail;go_region_held3 (fun Y=>Y.cell? ⟨g,0,none⟩=some (.pointer (some ⟨b,0,none⟩))/\Y.cell? ⟨w.heap.size,2,none⟩=some (.int .i64 B)/\Y.cell? ⟨g,2+B,none⟩=some (.int .u64 (y:Int))) (first|(with_reducible assumption)|exact⟨c0,r2,gB⟩|exact S6) (first|(go_at_call 29;refine(HST.out _).mono ?_;rintro e w7 ⟨rfl,h7,hf7⟩;have S6:=HS6.out _ _ hf7;have H7:=hid (zqf h7 hf7);clear h7 hf7));go_wp2_with fail;go_ret;exact⟨rfl,⟨_,_,_,_,H7.out.1⟩,(HF.out.drewN _).trans H7.out.2 (fun i hi=>.inl (HOM.out i hi))⟩
end
end
section
variable {M:RM} {C:CM} {D S:Nat->Prop} {f A:Nat->Nat} {E:List Nat} {v:RWd}
theorem Sim.orderClo (s:Sim M C D f A):Clo M (fun i=>i∈Jk M.objs (jr M)):=by
 obtain⟨e1,d1,_⟩:=s.cor.order (jr M) s.rt;obtain⟨g1,g2⟩:=ZI e1;have key:∀k,D k->Good C.now C.h C.W ((Jk M.objs (jr M)).map f) (A k)->k∈Jk M.objs (jr M):=fun k hd hg=>by
  rcases hg with q|⟨q,j,e,hj⟩
  ·exact absurd q (s.cor.ev k hd)
  ·rw[s.cor.hit k hd] at e
   obtain⟨i,hi,e2⟩:=List.mem_map.1 hj;rw[<-zqd e] at e2;rw[<-s.inj i k (d1 i hi) hd e2];exact hi
 refine⟨fun k hk=>key k (s.rt k hk) (g1 _ (List.mem_map.2 ⟨.P k,hk,rfl⟩)),fun i hi k hk=>?_⟩;have hd:=s.cl i (d1 i hi) k hk;refine key k hd (g2 (f i) (List.mem_map.2 ⟨i,hi,rfl⟩) _ ?_);rw[s.cor.fld i (d1 i hi)];exact List.mem_map.2 ⟨.P k,hk,rfl⟩
theorem Usd.room (u:Usd M E) (s:Sim M C D f A) (n:Int):∃E',Usd (jz M n).1 E':=by
 unfold jz;split
 ·exact⟨E,u⟩
 ·refine⟨Jk M.objs (jr M),jig M,fun i hi=>?_,⟨s.orderClo.rt,s.orderClo.cl⟩,?_⟩
  ·exact s.cor.lt i ((s.cor.order (jr M) s.rt).2.1 i hi)
  ·show(qS M.objs _:Int)<=(Jp M:Int)
   exact Int.le_refl _
theorem jbl {A A':Nat->Nat} (h:∀k,v=.P k->A' k=A k):jw A' v=jw A v:=by
 cases v with
 |I n=>rfl
 |P k=>exact h k rfl
theorem jcd {A A':Nat->Nat} {o:RObj} (h:∀k,RWd.P k∈o.ws->A' k=A k):jA A' o=jA A o:=by
 unfold jA;rw[List.map_congr_left fun v hv=>jbl (v:=v) fun k e=>h k (e▸hv)]
theorem jjq {now:List Ob} {ob:Ob} {h W j:Nat} (hj:j<=now.length):Jh (now++[ob]) h W j=Jh now h W j:=by
 unfold Jh;rw[Jn _ _ _ hj]
theorem Sim.put (s:Sim M C D f A) {o:RObj} (ho:ObjR o) (hg:∀v∈o.ws,(∀k,v=.P k->D k)/\Wr v) (z:WF C.W C.h (C.now++[jA A o]) C.old):
  ∃D' f' A',Sim (jck M o) {C with now:=C.now++[jA A o]} D' f' A'/\D' M.objs.length/\A' M.objs.length=Jh C.now C.h C.W C.now.length/\(∀i,D i->D' i/\A' i=A i):=by
 have hne:∀i,D i->i≠M.objs.length:=fun i hi e=>by have:=s.cor.lt i hi;omega
 have hfl:∀i,D i->f i<C.now.length:=fun i hi=>by
  obtain⟨_,_,_,h3⟩:=s.ob i hi;exact(zqb h3).1
 obtain⟨f',hf'⟩:∃f':Nat->Nat,f'=fun i=>if i=M.objs.length then C.now.length else f i:=⟨_,rfl⟩;obtain⟨A',hA'⟩:∃A':Nat->Nat,A'=fun i=>Jh (C.now++[jA A o]) C.h C.W (f' i):=⟨_,rfl⟩;have f1:∀i,D i->f' i=f i:=fun i hi=>by rw[hf'];exact if_neg (hne i hi)
 have f2:f' M.objs.length=C.now.length:=by rw[hf'];exact if_pos rfl
 have a1:∀i,D i->A' i=A i:=fun i hi=>by
  rw[hA',s.ad i];show Jh _ _ _ (f' i)=_;rw[f1 i hi];exact jjq (by have:=hfl i hi;omega)
 have hw:∀v,(∀k,v=RWd.P k->D k)->jw A' v=jw A v:=fun v hv=>jbl fun k e=>a1 k (hv k e);have hob:∀i,D i->∀x,M.objs[i]?=some x->jA A' x=jA A x:=fun i hi x hx=>jcd fun k hk=>a1 k (s.cl i hi k (by unfold zK;rw[hx];exact hk));have hwr:∀v∈jr M,jw A' v=jw A v:=fun v hv=>hw v fun k e=>s.rt k (e▸hv);have hws:∀i,i<M.objs.length->zK (M.objs++[o]) i=zK M.objs i:=fun i hi=>by
  unfold zK;rw[zqo hi]
 have hwn:zK (M.objs++[o]) M.objs.length=o.ws:=by
  unfold zK;rw[zqn (zqg _),Nat.sub_self];rfl
 refine⟨fun i=>D i\/i=M.objs.length,f',A',?_,.inr rfl,?_,fun i hi=>⟨.inl hi,a1 i hi⟩⟩
 ·exact{s with
   ad:=fun i=>by rw[hA']
   ob:=fun i hi=>by
    rcases hi with hi|rfl
    ·obtain⟨x,h1,h2,h3⟩:=s.ob i hi
     refine⟨x,?_,h2,?_⟩
     ·show(M.objs++[o])[i]?=_
      rw[zqo (s.cor.lt i hi)];exact h1
     ·show(C.now++[_])[f' i]?=_
      rw[f1 i hi,zqo (hfl i hi),hob i hi x h1];exact h3
    ·refine⟨o,?_,ho,?_⟩
     ·show(M.objs++[o])[_]?=_
      rw[zqn (zqg _),Nat.sub_self];rfl
     ·show(C.now++[_])[f' _]?=_
      rw[f2,zqn (zqg _),Nat.sub_self,jcd (A':=A') (A:=A) fun k hk=>a1 k ((hg _ hk).1 k rfl)];rfl
   inj:=fun i j hi hj e=>by
    rcases hi with hi|rfl
    ·rcases hj with hj|rfl
     ·rw[f1 i hi,f1 j hj] at e
      exact s.inj i j hi hj e
     ·rw[f1 i hi,f2] at e
      have:=hfl i hi;omega
    ·rcases hj with hj|rfl
     ·rw[f1 j hj,f2] at e
      have:=hfl j hj;omega
     ·rfl
   cl:=fun i hi k hk=>by
    rcases hi with hi|rfl
    ·exact .inl (s.cl i hi k (by rw[<-hws i (s.cor.lt i hi)];exact hk))
    ·have hk':RWd.P k∈zK (M.objs++[o]) M.objs.length:=hk
     rw[hwn] at hk';exact .inl ((hg _ hk').1 k rfl)
   rt:=fun k hk=>.inl (s.rt k hk)
   wo:=fun i hi v hv=>by
    rcases hi with hi|rfl
    ·exact s.wo i hi v (by rw[<-hws i (s.cor.lt i hi)];exact hv)
    ·have hv':v∈zK (M.objs++[o]) M.objs.length:=hv
     rw[hwn] at hv';exact(hg _ hv').2
   rg:=fun k hk=>(s.rg k hk).trans (hwr (M.rg k) (ja.2 (.inl ⟨k,hk,rfl⟩))).symm
   gl:=fun k hk=>(s.gl k hk).trans (hwr (M.gl k) (ja.2 (.inr (.inr (.inl ⟨k,hk,rfl⟩))))).symm
   cd:=s.cd.trans (hwr M.entry (ja.2 (.inr (.inr (.inr (.inl rfl)))))).symm
   va:=s.va.trans (hwr M.value (ja.2 (.inr (.inr (.inr (.inr rfl)))))).symm
   fr:=by
    refine⟨s.fr.len,fun j x y hx hy=>?_⟩;obtain⟨h1,h2,h3,i,p,h4,h5,h6,h7,h8⟩:=s.fr.nth j x y hx hy;refine⟨h1.trans (hwr x.code (ja.2 (.inr (.inl ⟨x,zqc hx,.inl rfl⟩)))).symm,h2,h3,i,p,h4,?_,h6,h7,h8⟩;show(M.objs++[o])[i]?=_;rw[zqo (zqb h5).1];exact h5
   sl:=by
    show C.sl=_;rw[s.sl];refine List.map_congr_left fun v hv=>?_;obtain⟨x,h1,h2⟩:=List.mem_flatMap.1 hv;exact(hwr v (ja.2 (.inr (.inl ⟨x,h1,.inr h2⟩)))).symm
   z:=z}
 ·rw[hA']
  show Jh _ _ _ (f' _)=_;rw[f2];exact jjq (zqg _)
theorem jq2 {os:List RObj} {o:RObj} {l:List Nat} (h:∀i∈l,i<os.length):qS (os++[o]) l=qS os l:=by
 unfold qS;congr 1;exact List.map_congr_left fun i hi=>by rw[zqo (h i hi)]
theorem Usd.put (u:Usd M E) {o:RObj} (hg:∀v∈o.ws,∀k,v=.P k->k∈E):Usd (jck M o) (E++[M.objs.length]):=by
 refine⟨?_,fun i hi=>?_,⟨fun k hk=>List.mem_append.2 (.inl (u.co.rt k hk)),fun i hi k hk=>List.mem_append.2 (.inl ?_)⟩,?_⟩
 ·refine List.nodup_append.2 ⟨u.nd,by simp,fun a ha b hb e=>?_⟩
  have:=u.lt a ha;rw[List.mem_singleton.1 hb] at e;omega
 ·show i<(M.objs++[o]).length
  rw[zqm];rcases List.mem_append.1 hi with q|q
  ·have:=u.lt i q;omega
  ·rw[List.mem_singleton.1 q]
   show _<_+1;omega
 ·have hk':RWd.P k∈zK (M.objs++[o]) i:=hk
  unfold zK at hk';rcases List.mem_append.1 hi with q|q
  ·rw[zqo (u.lt i q)] at hk'
   exact u.co.cl i q k hk'
  ·rw[List.mem_singleton.1 q,zqn (zqg _),Nat.sub_self] at hk'
   exact hg _ hk' k rfl
 ·have h1:qS (M.objs++[o]) (E++[M.objs.length])=qS M.objs E+o.words:=by
   rw[<-jq2 (o:=o) u.lt];unfold qS;rw[List.map_append,List.sum_append,List.map_cons,List.map_nil,zqn (zqg _),Nat.sub_self];simp
  have h2:=u.us;show(qS (M.objs++[o]) _:Int)<=M.used+o.words;omega
theorem jsW (s:Sim M C D f A) (u:Usd M E) {o:RObj} (ho:ObjR o) (hg:∀v∈o.ws,Jf D E v) (z:WF C.W C.h (C.now++[jA A o]) C.old) (a:Nat) {x:Nat} (hx:x=Jh C.now C.h C.W C.now.length):
  Rel ({C with now:=C.now++[jA A o],rg:=jG C.rg a x},0) ((jck M o).reg (a:Int) (.P M.objs.length),0):=by
 obtain⟨D',f',A',s1,d1,e1,_⟩:=s.put ho (fun v hv=>⟨(hg v hv).1,(hg v hv).2.2⟩) z;have u1:=u.put (o:=o) fun v hv=>(hg v hv).2.1;refine Rel.reg s1 u1 a (v:=.P M.objs.length) ⟨fun k e=>?_,fun k e=>?_,trivial⟩ (hx.trans e1.symm)
 ·cases e;exact d1
 ·cases e;simp
end
section
variable {M:RM} {C:CM} {D S:Nat->Prop} {f A:Nat->Nat} {E:List Nat} {v:RWd}
theorem joW {os:List RObj} {i:Nat} {m:Nat} {v:RWd} (j:Nat):zK (os.modify i fun o=>{o with ws:=o.ws.set m v}) j=if i=j then(zK os j).set m v else zK os j:=by
 unfold zK;rw[List.getElem?_modify];by_cases e:i=j
 ·rw[if_pos e]
  cases os[j]? with
  |none=>rfl
  |some o=>simp[e]
 ·rw[if_neg e]
  cases os[j]? with
  |none=>rfl
  |some o=>simp[e]
theorem jae {os:List RObj} {i m j:Nat} {v x:RWd} (h:x∈zK (os.modify i fun o=>{o with ws:=o.ws.set m v}) j):x∈zK os j\/x=v:=by
 rw[joW] at h;split at h
 ·exact List.mem_or_eq_of_mem_set h
 ·exact .inl h
theorem jcf {os:List RObj} {i m j:Nat} {v:RWd} {o:RObj} (h:os[j]?=some o):∃o',(os.modify i fun o=>{o with ws:=o.ws.set m v})[j]?=some o'/\o'.k=o.k/\o'.ws.length=o.ws.length/\o'.ins=o.ins/\o'.tx=o.tx/\(i≠j->o'=o)/\(i=j->o'={o with ws:=o.ws.set m v}):=by
 rw[List.getElem?_modify,h];by_cases e:i=j
 ·exact⟨{o with ws:=o.ws.set m v},by simp[e],rfl,List.length_set ..,rfl,rfl,fun q=>absurd e q,fun _=>rfl⟩
 ·exact⟨o,by simp[e],rfl,rfl,rfl,rfl,fun _=>rfl,fun q=>absurd q e⟩
theorem jiY {o o':RObj} (h1:o'.k=o.k) (h2:o'.ws.length=o.ws.length) (h3:o'.ins=o.ins) (h4:o'.tx=o.tx):o'.words=o.words:=by
 unfold RObj.words;rw[h1,h2,h3,h4]
theorem Sim.store (s:Sim M C D f A) {i:Nat} {o:RObj} (hi:D i) (ho:M.objs[i]?=some o) (hk:o.k≠4) {m:Nat} (hm:m<o.ws.length) (hv:∀k,v=.P k->D k) (hw:Wr v) {x:Nat} (hx:x=jw A v) (hlt:x<18446744073709551616):Sim (jbO M (.P i) m v) (Qp C (A i) m x) D f A:=by
 obtain⟨p,p1,p2,p3⟩:=s.ob i hi;rw[ho] at p1;obtain rfl:=zqd p1;obtain⟨q,q1,q2,q3⟩:=s.obj hi;rw[ho] at q1;obtain rfl:=zqd q1;obtain⟨j,j1,j2⟩:=qh q3;have hj:j=f i:=by
  have:=s.cor.hit i hi;unfold qF at this;rw[j1] at this;exact zqd this
 have hC:Qp C (A i) m x={C with now:=setF C.now (f i) m x}:=by
  unfold Qp;simp only[j1];rw[hj]
 rw[hC];have hsz:sz (setF C.now (f i) m x)=sz C.now:=jj0 p3;have hst:∀j,Jh (setF C.now (f i) m x) C.h C.W j=Jh C.now C.h C.W j:=fun j=>by
  unfold Jh;rw[JI hsz]
 have hroot:∀{y:RWd},y∈jr (jbO M (.P i) m v)->y∈jr M:=fun h=>h;exact{s with
  ad:=fun k=>by
   show A k=Jh (setF C.now (f i) m x) C.h C.W (f k);rw[hst];exact s.ad k
  ob:=fun k hk2=>by
   obtain⟨p,h1,h2,h3⟩:=s.ob k hk2;obtain⟨p',g1,g2,g3,g4,g5,g6,g7⟩:=jcf (i:=i) (m:=m) (v:=v) h1;refine⟨p',g1,⟨?_,?_⟩,?_⟩
   ·rw[g2,g3,g4,g5]
    rcases h2.kd with q|⟨q,e,r⟩|q
    ·exact .inl q
    ·refine .inr (.inl ⟨q,?_,r⟩)
     rw[e] at g3;exact List.eq_nil_of_length_eq_zero g3
    ·exact .inr (.inr q)
   ·rw[g2,g5]
    exact h2.nt
   ·show(setF C.now (f i) m x)[f k]?=_
    by_cases e:i=k
    ·subst e
     rw[ho] at h1;obtain rfl:=zqd h1;rw[g7 rfl,Zk p3,List.getElem?_set_self (zqb p3).1,zQ hk,zQ (o:={o with ws:=o.ws.set m v}) hk];show some (Ob.mk _ _ ((o.ws.map (jw A)++o.ins.map JF).set m x) _)=some (Ob.mk _ (o.ws.set m v).length ((o.ws.set m v).map (jw A)++o.ins.map JF) _);rw[List.set_append_left _ _ (by rw[List.length_map];exact hm),List.map_set,List.length_set,hx]
    ·rw[g6 e,Zk p3,List.getElem?_set_ne (fun q=>e (s.inj i k hi hk2 q)),h3]
  cl:=fun a ha k hk2=>by
   rcases jae hk2 with q|q
   ·exact s.cl a ha k q
   ·exact hv k q.symm
  wo:=fun a ha y hy=>by
   rcases jae hy with q|q
   ·exact s.wo a ha y q
   ·rw[q];exact hw
  fr:=by
   refine⟨s.fr.len,fun j x y hx hy=>?_⟩;obtain⟨h1,h2,h3,i,p,h4,h5,h6,h7,h8⟩:=s.fr.nth j x y hx hy;obtain⟨p',g1,g2,g3,g4,_⟩:=jcf (i:=_) (m:=m) (v:=v) h5;exact⟨h1,h2,h3,i,p',h4,g1,g2.trans h6,h7.trans g3.symm,by rw[g4];exact h8⟩
  z:=jaA s.z p3 hlt}
theorem jlY {os:List RObj} {i m:Nat} {v:RWd} (l:List Nat):qS (os.modify i fun o=>{o with ws:=o.ws.set m v}) l=qS os l:=by
 unfold qS;congr 1;refine List.map_congr_left fun j _=>?_;cases h:os[j]? with
 |none=>
  rw[List.getElem?_modify,h];rfl
 |some o=>
  obtain⟨o',h1,h2,h3,h4,h5,_⟩:=jcf (i:=i) (m:=m) (v:=v) h;rw[h1];exact jiY h2 h3 h4 h5
theorem Usd.store (u:Usd M E) (i m:Nat) (hv:∀k,v=.P k->k∈E):Usd (jbO M (.P i) m v) E:=
 ⟨u.nd,fun j hj=>by
  show j<(M.objs.modify i _).length;rw[List.length_modify];exact u.lt j hj,⟨u.co.rt,fun j hj k hk=>by
   rcases jae hk with q|q
   ·exact u.co.cl j hj k q
   ·exact hv k q.symm⟩,by
  show(qS (M.objs.modify i _) E:Int)<=M.used;rw[jlY];exact u.us⟩
theorem jgs (s:Sim M C D f A) (u:Usd M E) {i:Nat} {o:RObj} (hi:D i) (ho:M.objs[i]?=some o) (hk:o.k≠4) {m:Nat} (hm:m<o.ws.length) (g:Jf D E v) {x:Nat} (hx:x=jw A v):Rel (Qp C (A i) m x,0) (jbO M (.P i) m v,0):=
 .of0 (s.store hi ho hk hm g.1 g.2.2 hx (by rw[hx];exact s.lt g.1)) (u.store i m g.2.1)
theorem Sim.kind (s:Sim M C D f A) {v:RWd} (hv:∀k,v=.P k->D k):((jD C (jw A v)).map fun o=>o.k).getD 0=(jo M v).k:=by
 cases v with
 |I n=>rw[jqn];rfl
 |P i=>
  obtain⟨o,h1,_,h3⟩:=s.obj (hv i rfl);rw[show jw A (.P i)=A i from rfl,h3,Zy h1];exact jbK
theorem Sim.there (s:Sim M C D f A) {v:RWd} (hv:∀k,v=.P k->D k) (h0:(jo M v).k≠0):∃i,v=.P i/\M.objs[i]?=some (jo M v)/\ObjR (jo M v)/\jD C (jw A v)=some (jA A (jo M v))/\(jA A (jo M v)).k=(jo M v).k:=by
 cases v with
 |I n=>exact absurd rfl h0
 |P i=>
  obtain⟨o,h1,h2,h3⟩:=s.obj (hv i rfl);rw[Zy h1];exact⟨i,rfl,h1,h2,h3,jbK⟩
theorem jhd (h:ObjR (jo M v)) (hk:(jo M v).k=1\/(jo M v).k=2\/(jo M v).k=3) (A:Nat->Nat):(jA A (jo M v)).ws.length=(jo M v).ws.length/\1<=(jo M v).ws.length:=by
 rcases h.kd with⟨_,q1,q2,_⟩|⟨q,_⟩|⟨q,_⟩
 ·refine⟨?_,q2⟩
  rw[zQ (by omega),q1];simp
 ·omega
 ·omega
theorem joc (s:Sim M C D f A) (u:Usd M E) (g:Jf D E v) (hk:(jo M v).k=1\/(jo M v).k=2\/(jo M v).k=3) {m:Nat} (hm:m<(jo M v).ws.length) (a:Nat) {x:Nat} (hx:x=(jA A (jo M v)).ws.getD m 0):Rel ({C with rg:=jG C.rg a x},0) (M.reg (a:Int) ((jo M v).ws.getD m (.I 0)),0):=by
 obtain⟨i,e,h1,_⟩:=s.there g.1 (by omega);refine .reg s u a (s.gotf u (e▸g) h1 (jaJ hm)) ?_;rw[hx];exact jce (by omega) hm
end
