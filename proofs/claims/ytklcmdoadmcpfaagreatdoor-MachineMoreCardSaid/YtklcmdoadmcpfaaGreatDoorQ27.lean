/- A part of the proof of MachineMoves. Conditions: those that each theorem names. -/
import Derived.Test.YtklcmdoadmcpfaaGreatDoorQ26
set_option maxRecDepth 100000
set_option maxHeartbeats 400000000
namespace Go.Proofs.YtklcmdoadmcpfaaGreatDoor
open Go Go.RowKit IsaL
open Go.Lib(hid)
open Go.Proofs.Tryz(prog)
section
variable {O:Nat->Prop} {w:World} {g b:Nat} {C:CM} {R:Nat->Value} {vf vs vh:Value} {M:RM} {D:Nat->Prop} {f A:Nat->Nat} {E:List Nat} {k:Nat} {y:Fm}
theorem J5 (n:Int):jj (jw A (.I n):Int)=true:=ja5.2 (by have:=Zl A n;omega)
theorem jbQ {n:Int} (h:Wr (.I n)):qx (jw A (.I n):Int)=n:=by
 have h0:0<=jO n:=by unfold jO;omega
 have e:((jw A (.I n):Nat):Int)=jO n:=by show(((jO n).toNat:Nat):Int)=_;omega
 rw[e];obtain⟨h1,h2⟩:=h;unfold qx jO W;rw[if_pos (by omega)];omega
theorem Sim.notInt (s:Sim M C D f A) {i:Nat} (h:D i):jj (jw A (.P i):Int)=false:=jeH.2 (by have:A i%2≠1:=s.cor.ev i h;show((A i:Nat):Int)%2=0;omega)
theorem jfL (n:Int):Wr (.I (W n)):=by
 unfold Wr W;omega
theorem ji6 (h:Pre O w g b C R vf vs vh M D f A E k y) {op a c d n:Int} (i:Qu a c d n) (ho:op=23\/op=24\/op=25\/op=26\/op=27\/op=28\/op=29\/op=30\/op=31):
  Calls prog 99 #[.pointer (some ⟨g,0,none⟩),.agg #[.int .i64 op,.int .i64 a,.int .i64 c,.int .i64 d,.int .i64 n]] w fun e w'=>DidS O w g b (opR M op a c d n) e w':=by
 obtain⟨a,rfl⟩:=jM i.a0;obtain⟨c,rfl⟩:=jM i.b0;have ha:a<16:=by have:=i.a1;omega
 have hc:c<16:=by have:=i.b1;omega
 have ok:=h.s.ok;have fl:=h.t.fl;have fy:=h.t.fy;have n0:=i.n0;have n1:=i.n1;have jump:=jqE h.s h.u h.t h.p0 h.p1 n0 n1;rcases ho with rfl|rfl|rfl|rfl|rfl|rfl|rfl|rfl|rfl
 ·exact(jpi h.a ok h.O fl fy a ha c d n n0 n1).mono fun e w' q=>⟨_,q,jump⟩
 ·show Calls _ _ _ _ fun e w'=>DidS O w g b (jds M a n) e w'
  unfold jds;have e1:=h.s.rg a ha;have g1:=h.get ha;rw[show((a:Int)).toNat=a from rfl];cases hv:M.rg a with
  |P j=>
   rw[hv] at e1 g1;exact(jgZ h.a ok h.O fl fy a ha c d n (by rw[e1];exact h.s.notInt (g1.1 j rfl))).mono fun e w' q=>⟨_,q,h.stop (by decide)⟩
  |I m=>
   rw[hv] at e1 g1;have e2:C.rg a=1↔m=0:=by
    rw[e1];show(jO m).toNat=1↔_;obtain⟨q1,q2⟩:=g1.2.2;unfold jO;omega
   show Calls _ _ _ _ fun e w'=>DidS O w g b (if m=0 then(jeJ M n,0) else(M,0)) e w';by_cases h0:m=0
   ·rw[if_pos h0]
    exact(jew h.a ok h.O fl fy a ha c d n n0 n1 (e2.2 h0)).mono fun e w' q=>⟨_,q,jump⟩
   ·rw[if_neg h0]
    exact(jg0 h.a ok h.O fl fy a ha c d n (by rw[e1];exact J5 m) (fun q=>h0 (e2.1 q))).mono fun e w' q=>⟨_,q,.of0 h.s h.u⟩
 ·exact(jmH h.a ok h.O fl fy a ha c d n n1).mono fun e w' q=>⟨_,q,job h.s h.u h.t n⟩
 ·exact(jph h.a ok h.O fl fy a ha c hc d n).mono fun e w' q=>⟨_,q,jiz h.s h.u h.t.ml false ha hc⟩
 ·exact(jpj h.a ok h.O fl fy a ha c hc d n).mono fun e w' q=>⟨_,q,jiz h.s h.u h.t.ml true ha hc⟩
 ·exact(jkB h.a ok h.O fl fy a ha c d n).mono fun e w' q=>⟨_,q,jod h.s h.u h.t.ml (h.get ha) (h.s.rg a ha)⟩
 ·have r:=jlI h.s h.u h.t h.p0 h.p1 n0 n1
  unfold jfl at r;cases hf:QJ C 3 with
  |false=>
   rw[hf,if_neg Bool.false_ne_true] at r;exact(jet h.a ok h.O fl fy a ha c d n hf).mono fun e w' q=>⟨_,q,r⟩
  |true=>
   rw[hf,if_pos rfl] at r;exact(jgY h.a ok h.O fl fy a ha c d n n0 n1 hf).mono fun e w' q=>⟨_,q,r⟩
 ·have r:=jsX h.s h.u h.t
  unfold jrb at r;cases hf:qL C with
  |false=>
   rw[hf,if_neg Bool.false_ne_true] at r;exact(jeu h.a ok h.O fl fy a ha c d n hf).mono fun e w' q=>⟨_,q,r⟩
  |true=>
   rw[hf,if_pos rfl] at r;rcases List.eq_nil_or_concat C.ha with q|⟨hs,p,q⟩
   ·unfold qL at hf
    rw[q] at hf;cases hf
   ·rw[List.concat_eq_append] at q
    have e2:C.ha.dropLast=hs:=by rw[q,List.dropLast_concat]
    rw[e2] at r;exact(jev h.a ok h.O fl fy a ha c d n hf q).mono fun e w' q=>⟨_,q,r⟩
 ·exact(jmI h.a ok h.O fl fy a ha c d n).mono fun e w' q=>⟨_,q,Q7 h.s h.u (h.get ha) (h.s.rg a ha)⟩
end
section
variable {O:Nat->Prop} {w:World} {g b:Nat} {C:CM} {R:Nat->Value} {vf vs vh:Value} {M:RM} {D:Nat->Prop} {f A:Nat->Nat} {E:List Nat} {k:Nat} {y:Fm}
def jdT (op z:Int):Int:=if(op=10\/op=11)/\z=0 then 10 else 0
theorem QE (h:Pre O w g b C R vf vs vh M D f A E k y) {op a c d n:Int} (i:Qu a c d n) (h12:¬op=12)
  (HR:∀y z Y,Wr (.I z)->Calls prog 130 #[.int .i64 op,.int .i64 y,.int .i64 z] Y fun e w'=>e=.returned (.tuple #[.int .i64 (jiR op y z),.int .i64 (jdT op z)])/\Y=w') (hS:∀y z,Wr (.I (jiR op y z))):
  Calls prog 96 #[.pointer (some ⟨g,0,none⟩),.agg #[.int .i64 op,.int .i64 a,.int .i64 c,.int .i64 d,.int .i64 n]] w fun e w'=>DidS O w g b (Zq M op a (M.rg c.toNat) (M.rg d.toNat)) e w':=by
 obtain⟨a,rfl⟩:=jM i.a0;obtain⟨c,rfl⟩:=jM i.b0;obtain⟨d,rfl⟩:=jM i.c0;have ha:a<16:=by have:=i.a1;omega
 have hc:c<16:=by have:=i.b1;omega
 have hd:d<16:=by have:=i.c1;omega
 have ok:=h.s.ok;have fl:=h.t.fl;have fy:=h.t.fy;have e1:=h.s.rg c hc;have g1:=h.get hc;have e2:=h.s.rg d hd;have g2:=h.get hd;rw[show((c:Int)).toNat=c from rfl,show((d:Int)).toNat=d from rfl];unfold Zq;cases hv:M.rg c with
 |P j=>
  rw[hv] at e1 g1;exact(jrC h.a ok h.O fl fy a ha op c hc d n (by rw[e1];exact h.s.notInt (g1.1 j rfl))).mono fun e w' q=>⟨_,q,h.stop (by decide)⟩
 |I p=>
  rw[hv] at e1 g1;have i1:jj (C.rg c:Int)=true:=by rw[e1];exact J5 p
  have t1:qx (C.rg c:Int)=p:=by rw[e1];exact jbQ g1.2.2
  simp only[if_neg h12];cases hv2:M.rg d with
  |P j=>
   rw[hv2] at e2 g2;exact(jvq h.a ok h.O fl fy a ha op h12 c hc d hd n i1 (by rw[e2];exact h.s.notInt (g2.1 j rfl))).mono fun e w' q=>⟨_,q,h.stop (by decide)⟩
  |I z=>
   rw[hv2] at e2 g2;have i2:jj (C.rg d:Int)=true:=by rw[e2];exact J5 z
   have t2:qx (C.rg d:Int)=z:=by rw[e2];exact jbQ g2.2.2
   by_cases h0:(op=10\/op=11)/\z=0
   ·simp only[if_pos h0]
    refine(jn6 h.a ok h.O fl fy a ha op h12 c hc d hd n i1 i2 (r:=jiR op p z) (er:=10) (fun Y=>?_) (by decide)).mono fun e w' q=>⟨_,q,?_⟩
    ·rw[t1,t2]
     have:=HR p z Y g2.2.2;rw[show jdT op z=10 from if_pos h0] at this;exact this
    ·exact Q7 h.s h.u (Je ⟨by decide,by decide⟩) rfl
   ·simp only[if_neg h0]
    refine(juC h.a ok h.O fl fy a ha op h12 c hc d hd n i1 i2 (r:=jiR op p z) (fun Y=>?_)).mono fun e w' q=>⟨_,q,?_⟩
    ·rw[t1,t2]
     have:=HR p z Y g2.2.2;rw[show jdT op z=0 from if_neg h0] at this;exact this
    ·exact .reg h.s h.u a (Je (hS p z)) rfl
theorem jvJ {z:Int} (h:Wr (.I z)):W z=z:=by
 obtain⟨h1,h2⟩:=h;unfold W;omega
theorem jtv (y z:Int):Wr (.I (NumL.jb0 y z)):=by
 unfold NumL.jb0;split
 ·exact⟨by decide,by decide⟩
 ·exact jfL _
theorem jtw (y z:Int):Wr (.I (NumL.jcb y z)):=by
 unfold NumL.jcb;split
 ·exact⟨by decide,by decide⟩
 ·rename_i h0
  have hz:=jfL z;obtain⟨h1,h2⟩:=hz;show -4611686018427387904<=rest (W y) (W z)/\rest (W y) (W z)<=4611686018427387903;rcases Int.lt_or_gt_of_ne h0 with q|q
  ·have:=jed (a:=W y) q
   omega
  ·have:=jee (a:=W y) q
   omega
theorem jjA {z:Int} (h:Wr (.I z)):NumL.jbp z=if z=0 then 10 else 0:=by
 unfold NumL.jbp;rw[jvJ h]
theorem jlF (h:Pre O w g b C R vf vs vh M D f A E k y) {op a c d n:Int} (i:Qu a c d n) (ho:op=7\/op=8\/op=9\/op=10\/op=11\/op=12\/op=13\/op=14):
  Calls prog 96 #[.pointer (some ⟨g,0,none⟩),.agg #[.int .i64 op,.int .i64 a,.int .i64 c,.int .i64 d,.int .i64 n]] w fun e w'=>DidS O w g b (opR M op a c d n) e w':=by
 rcases ho with rfl|rfl|rfl|rfl|rfl|rfl|rfl|rfl
 ·exact QE h i (by decide) (fun y z Y _=>jqM y z Y) (fun _ _=>jfL _)
 ·exact QE h i (by decide) (fun y z Y _=>jqN y z Y) (fun _ _=>jfL _)
 ·exact QE h i (by decide) (fun y z Y _=>jqO y z Y) (fun _ _=>jfL _)
 ·refine QE h i (by decide) (fun y z Y q=>?_) (fun _ _=>jtv _ _)
  have:=joi y z Y;rw[jjA q] at this;by_cases h0:z=0
  ·rw[show jdT 10 z=10 from if_pos ⟨.inl rfl,h0⟩]
   rw[if_pos h0] at this;exact this
  ·rw[show jdT 10 z=0 from if_neg fun q=>h0 q.2]
   rw[if_neg h0] at this;exact this
 ·refine QE h i (by decide) (fun y z Y q=>?_) (fun _ _=>jtw _ _)
  have:=joj y z Y;rw[jjA q] at this;by_cases h0:z=0
  ·rw[show jdT 11 z=10 from if_pos ⟨.inr rfl,h0⟩]
   rw[if_pos h0] at this;exact this
  ·rw[show jdT 11 z=0 from if_neg fun q=>h0 q.2]
   rw[if_neg h0] at this;exact this
 ·obtain⟨a,rfl⟩:=jM i.a0
  obtain⟨c,rfl⟩:=jM i.b0;have ha:a<16:=by have:=i.a1;omega
  have hc:c<16:=by have:=i.b1;omega
  have e1:=h.s.rg c hc;have g1:=h.get hc;show Calls _ _ _ _ fun e w'=>DidS O w g b (Zq M 12 a (M.rg c) (M.rg d.toNat)) e w';unfold Zq;cases hv:M.rg c with
  |P j=>
   rw[hv] at e1 g1;exact(jrC h.a h.s.ok h.O h.t.fl h.t.fy a ha 12 c hc d n (by rw[e1];exact h.s.notInt (g1.1 j rfl))).mono fun e w' q=>⟨_,q,h.stop (by decide)⟩
  |I p=>
   rw[hv] at e1 g1;refine(jsT h.a h.s.ok h.O h.t.fl h.t.fy a ha c hc d n (by rw[e1];exact J5 p)).mono fun e w' q=>⟨_,q,?_⟩;refine .reg h.s h.u a (v:=.I (W (-p))) (Je (jfL _)) ?_;rw[e1,jbQ g1.2.2];rfl
 ·refine QE h i (by decide) (fun y z Y _=>?_) (fun y z=>?_)
  ·have:=jok y z Y
   simp only[decide_eq_true_eq] at this;exact this
  ·show Wr (.I (if y<z then 1 else 0))
   split<;>exact⟨by decide,by decide⟩
 ·refine QE h i (by decide) (fun y z Y _=>?_) (fun y z=>?_)
  ·have:=jol y z Y
   simp only[decide_eq_true_eq] at this;exact this
  ·show Wr (.I (if y<=z then 1 else 0))
   split<;>exact⟨by decide,by decide⟩
end
section
variable {O:Nat->Prop} {w w1:World} {g b:Nat} {C:CM} {R:Nat->Value} {vf vs vh:Value}
theorem jhx (a:McAt O w g C b R vf vs vh) (ok:OkC C) (hO:∀i,w.heap.size<=i->O i) (A:Nat) (hA:A<16) (B:Nat) (hB:B<16) (D:Int) {o:Ob} (ho:jD C (C.rg A)=some o) (hk:o.k=1) {m:Nat} (hn:m<o.ws.length):
  Calls prog 97 #[.pointer (some ⟨g,0,none⟩),.agg #[.int .i64 20,.int .i64 A,.int .i64 B,.int .i64 D,.int .i64 m]] w fun e w'=>Did O w g b (Qp C (C.rg A) m (C.rg B),0) e w':=by
 obtain⟨X,hX,hblk,hb0,hF0,r0,r1,r2,r3,r4⟩:=ji O w 20 A B D (m:Int);have aX:=a.below hb0;have HW:=hid hX;have gA:=aX.regc hA;have i0:(0:Int)<=(A:Int):=by omega
 have i1:(A:Int)<16:=by omega
 have HA:=hid aX;have HF:=hid hF0;have hOX:∀i,X.heap.size<=i->O i:=fun i hi=>hO i (zqs hF0.size hi);have hgO:=a.og;have gB:=aX.regc hB;have i2:(0:Int)<=(B:Int):=by omega
 have i3:(B:Int)<16:=by omega
 obtain⟨y,hy⟩:∃y,C.rg B=y:=⟨_,rfl⟩;have hyl:=ok.rg B hB;rw[hy] at gB hyl;obtain⟨x,hx⟩:∃x,C.rg A=x:=⟨_,rfl⟩;have hxl:=ok.rg A hA;rw[hx] at gA hxl ho;have HOB:=jat aX hxl ho (K:=1) (by omega);obtain⟨PA,hPA⟩:∃PA,jc (x:Int)=PA:=⟨_,rfl⟩;have c0:=aX.c0;have HST:=fun p q=>jcs ((aX.drewN p).drewN q) ho hn hyl hOX;rw[hPA] at HOB HST;have HOB:=hid HOB;have HST:=hid HST;have hibO:¬Own b R w.heap.size:=fun h=>by have:=a.m.own_lt _ h;omega
 have hgm:=a.gm;have HOM:=hid a.om;rw[hx,hy];clear a ok hO hblk hb0 hF0 hX aX hA hOX;clear hx hxl hy hyl hB ho hn hPA;go_enter Tryz.func97,Tryz.ntmps97;go_wp2_with fail;rw[HW.out];go_wp2_with fail;go_region_held3 (fun Y=>Y.cell? ⟨w.heap.size,1,none⟩=some (.int .i64 A)/\Y.cell? ⟨g,2+A,none⟩=some (.int .u64 (x:Int))) (first|(with_reducible assumption)|exact⟨r1,gA⟩) (first|(go_at_call 133;refine(HOB.out _).mono ?_;rintro e w' ⟨rfl,q5,rfl⟩));go_wp2_with fail;obtain⟨Z,hZ⟩:∃Z,X.drewN (1+q5)=Z:=⟨_,rfl⟩;rw[hZ];have z0:Z.cell? ⟨g,0,none⟩=some (.pointer (some ⟨b,0,none⟩)):=by rw[<-hZ];exact c0
 have z4:Z.cell? ⟨w.heap.size,4,none⟩=some (.int .i64 (m:Int)):=by rw[<-hZ];exact r4
 have z2:Z.cell? ⟨w.heap.size,2,none⟩=some (.int .i64 B):=by rw[<-hZ];exact r2
 have zB:Z.cell? ⟨g,2+B,none⟩=some (.int .u64 (y:Int)):=by rw[<-hZ];exact gB
 have HSZ:=HST.out (1+q5);rw[hZ] at HSZ;have HSZ:=hid HSZ;have HAZ:=hid (HA.out.drewN (1+q5));have HFZ:=hid (HF.out.drewN (1+q5));rw[hZ] at HAZ HFZ;have HS6:=hid (fun(w7:World) (hf7:Fr (Own b R) (Z.drewN 1) w7)=>show w7.cell? ⟨g,0,none⟩=some (.pointer (some ⟨b,0,none⟩))/\w7.cell? ⟨w.heap.size,4,none⟩=some (.int .i64 (m:Int))/\w7.cell? ⟨w.heap.size,2,none⟩=some (.int .i64 B)/\w7.cell? ⟨g,2+B,none⟩=some (.int .u64 (y:Int)) from⟨hf7.cell_some (p:=⟨g,0,none⟩) z0 hgm,hf7.cell_some (p:=⟨w.heap.size,4,none⟩) z4 hibO,hf7.cell_some (p:=⟨w.heap.size,2,none⟩) z2 hibO,hf7.cell_some (p:=⟨g,2+B,none⟩) zB hgm⟩);have HS6:=hid (fun(w7:World) (hf7:Fr (Own b R) (Z.drewN 1) w7)=>show w7.cell? ⟨g,0,none⟩=some (.pointer (some ⟨b,0,none⟩))/\w7.cell? ⟨w.heap.size,4,none⟩=some (.int .i64 (m:Int))/\w7.cell? ⟨w.heap.size,2,none⟩=some (.int .i64 B)/\w7.cell? ⟨g,2+B,none⟩=some (.int .u64 (y:Int)) from⟨hf7.cell_some (p:=⟨g,0,none⟩) z0 hgm,hf7.cell_some (p:=⟨w.heap.size,4,none⟩) z4 hibO,hf7.cell_some (p:=⟨w.heap.size,2,none⟩) z2 hibO,hf7.cell_some (p:=⟨g,2+B,none⟩) zB hgm⟩);clear hZ;have hH:(fun Y:World=>Y.cell? ⟨g,0,none⟩=some (.pointer (some ⟨b,0,none⟩))/\Y.cell? ⟨w.heap.size,4,none⟩=some (.int .i64 (m:Int))/\Y.cell? ⟨w.heap.size,2,none⟩=some (.int .i64 B)/\Y.cell? ⟨g,2+B,none⟩=some (.int .u64 (y:Int))) Z.drew:=⟨z0,z4,z2,zB⟩;refine wp_region_held_drew (S:=(fun Y:World=>Y.cell? ⟨g,0,none⟩=some (.pointer (some ⟨b,0,none⟩))/\Y.cell? ⟨w.heap.size,4,none⟩=some (.int .i64 (m:Int))/\Y.cell? ⟨w.heap.size,2,none⟩=some (.int .i64 B)/\Y.cell? ⟨g,2+B,none⟩=some (.int .u64 (y:Int)))) (by kernel_rfl) hH (fun _=>?_);change wpAnyH _ _ _ _ _ 24 #[false,false,false,false,false,false,false,false,false,false,false,false,false,false,false,false,false,false,false,false,false,false,false,false] _ _;refine wpAnyH_take (i:=0) (oi:={dst:=some 95,op:=Op.move (Operand.tmp 10),type:=3,pos:= "object.go:40",after:=#[],guard:=none}) (v:=.int .i64 1) rfl (by kernel_rfl) (by kernel_rfl) (by kernel_rfl) (fun _ _ _ h=>h) (Or.inl ⟨by rfl,(by intro Y hY;obtain⟨y0,y4,y2,yB⟩:=hY;go_simp)⟩) hH ?_;simp only[Act.put,zqj,zqk,zql];refine wpAnyH_take (i:=1) (oi:={dst:=some 96,op:=Op.binOp BinOp.neq 3 (Operand.tmp 95) (Operand.const (Value.int IntKind.i64 1)) 3,type:=4,pos:= "object.go:40",after:=#[{on:=0,ground:=Ground.data}],guard:=none}) (v:=.bool false) rfl (by kernel_rfl) (by kernel_rfl) (by kernel_rfl) (fun _ _ _ h=>h) (Or.inl ⟨by rfl,(by intro Y hY;obtain⟨y0,y4,y2,yB⟩:=hY;go_simp)⟩) hH ?_;simp only[Act.put,zqj,zqk,zql];refine wpAnyH_take (i:=2) (oi:={dst:=some 97,op:=Op.move (Operand.tmp 96),type:=4,pos:= "object.go:40",after:=#[{on:=1,ground:=Ground.data}],guard:=none}) (v:=.bool false) rfl (by kernel_rfl) (by kernel_rfl) (by kernel_rfl) (fun _ _ _ h=>h) (Or.inl ⟨by rfl,(by intro Y hY;obtain⟨y0,y4,y2,yB⟩:=hY;go_simp)⟩) hH ?_;simp only[Act.put,zqj,zqk,zql];refine wpAnyH_take (i:=3) (oi:={dst:=some 98,op:=Op.move (Operand.tmp 10),type:=3,pos:= "object.go:40",after:=#[{on:=2,ground:=Ground.guard}],guard:=some (2,true)}) (v:=undef) rfl (by kernel_rfl) (by kernel_rfl) (by kernel_rfl) (fun _ _ _ h=>h) (Or.inr ⟨by rfl,rfl⟩) hH ?_;simp only[Act.put,zqj,zqk,zql];refine wpAnyH_take (i:=4) (oi:={dst:=some 99,op:=Op.binOp BinOp.neq 3 (Operand.tmp 98) (Operand.const (Value.int IntKind.i64 3)) 3,type:=4,pos:= "object.go:40",after:=#[{on:=3,ground:=Ground.data},{on:=2,ground:=Ground.guard}],guard:=some (2,true)}) (v:=undef) rfl (by kernel_rfl) (by kernel_rfl) (by kernel_rfl) (fun _ _ _ h=>h) (Or.inr ⟨by rfl,rfl⟩) hH ?_;simp only[Act.put,zqj,zqk,zql];refine wpAnyH_take (i:=5) (oi:={dst:=some 100,op:=Op.pick (Operand.tmp 97) (Operand.tmp 99) (Operand.const (Value.bool false)),type:=4,pos:= "object.go:40",after:=#[{on:=2,ground:=Ground.data},{on:=4,ground:=Ground.data}],guard:=none}) (v:=.bool false) rfl (by kernel_rfl) (by kernel_rfl) (by kernel_rfl) (fun _ _ _ h=>h) (Or.inl ⟨by rfl,(by intro Y hY;obtain⟨y0,y4,y2,yB⟩:=hY;go_simp)⟩) hH ?_;simp only[Act.put,zqj,zqk,zql];refine wpAnyH_take (i:=6) (oi:={dst:=some 101,op:=Op.move (Operand.tmp 100),type:=4,pos:= "object.go:40",after:=#[{on:=5,ground:=Ground.data},{on:=2,ground:=Ground.chain}],guard:=none}) (v:=.bool false) rfl (by kernel_rfl) (by kernel_rfl) (by kernel_rfl) (fun _ _ _ h=>h) (Or.inl ⟨by rfl,(by intro Y hY;obtain⟨y0,y4,y2,yB⟩:=hY;go_simp)⟩) hH ?_;simp only[Act.put,zqj,zqk,zql];refine wpAnyH_take (i:=7) (oi:={dst:=some 102,op:=Op.move (Operand.tmp 0),type:=28,pos:= "object.go:40",after:=#[{on:=6,ground:=Ground.guard}],guard:=some (6,false)}) (v:=.pointer (some ⟨g,0,none⟩)) rfl (by kernel_rfl) (by kernel_rfl) (by kernel_rfl) (fun _ _ _ h=>h) (Or.inl ⟨by rfl,(by intro Y hY;obtain⟨y0,y4,y2,yB⟩:=hY;go_simp)⟩) hH ?_;simp only[Act.put,zqj,zqk,zql];refine wpAnyH_take (i:=8) (oi:={dst:=some 103,op:=Op.nilCheck (Operand.tmp 102),type:=0,pos:= "object.go:40",after:=#[{on:=7,ground:=Ground.data},{on:=6,ground:=Ground.guard}],guard:=some (6,false)}) (v:=.pointer (some ⟨g,0,none⟩)) rfl (by kernel_rfl) (by kernel_rfl) (by kernel_rfl) (fun _ _ _ h=>h) (Or.inl ⟨by rfl,(by intro Y hY;obtain⟨y0,y4,y2,yB⟩:=hY;go_simp)⟩) hH ?_;simp only[Act.put,zqj,zqk,zql];refine wpAnyH_take (i:=9) (oi:={dst:=some 104,op:=Op.fieldAddr 94 (Operand.tmp 103) 0,type:=0,pos:= "object.go:40",after:=#[{on:=8,ground:=Ground.data},{on:=6,ground:=Ground.guard}],guard:=some (6,false)}) (v:=.pointer (some ⟨g,0,none⟩)) rfl (by kernel_rfl) (by kernel_rfl) (by kernel_rfl) (fun _ _ _ h=>h) (Or.inl ⟨by rfl,(by intro Y hY;obtain⟨y0,y4,y2,yB⟩:=hY;go_simp)⟩) hH ?_;simp only[Act.put,zqj,zqk,zql];refine wpAnyH_take (i:=10) (oi:={dst:=some 105,op:=Op.load 62 (Operand.tmp 104),type:=62,pos:= "object.go:40",after:=#[{on:=9,ground:=Ground.data},{on:=6,ground:=Ground.guard}],guard:=some (6,false)}) (v:=.pointer (some ⟨b,0,none⟩)) rfl (by kernel_rfl) (by kernel_rfl) (by kernel_rfl) (fun _ _ _ h=>h) (Or.inl ⟨by rfl,(by intro Y hY;obtain⟨y0,y4,y2,yB⟩:=hY;go_simp)⟩) hH ?_;simp only[Act.put,zqj,zqk,zql];refine wpAnyH_take (i:=11) (oi:={dst:=some 106,op:=Op.move (Operand.tmp 9),type:=3,pos:= "object.go:40",after:=#[{on:=6,ground:=Ground.guard}],guard:=some (6,false)}) (v:=.int .i64 PA) rfl (by kernel_rfl) (by kernel_rfl) (by kernel_rfl) (fun _ _ _ h=>h) (Or.inl ⟨by rfl,(by intro Y hY;obtain⟨y0,y4,y2,yB⟩:=hY;go_simp)⟩) hH ?_;simp only[Act.put,zqj,zqk,zql];refine wpAnyH_take (i:=12) (oi:={dst:=some 107,op:=Op.fieldAddr 41 (Operand.tmp 3) 4,type:=0,pos:= "object.go:40",after:=#[{on:=6,ground:=Ground.guard}],guard:=some (6,false)}) (v:=.pointer (some ⟨w.heap.size,4,none⟩)) rfl (by kernel_rfl) (by kernel_rfl) (by kernel_rfl) (fun _ _ _ h=>h) (Or.inl ⟨by rfl,(by intro Y hY;obtain⟨y0,y4,y2,yB⟩:=hY;go_simp)⟩) hH ?_;simp only[Act.put,zqj,zqk,zql];refine wpAnyH_take (i:=13) (oi:={dst:=some 108,op:=Op.load 3 (Operand.tmp 107),type:=3,pos:= "object.go:40",after:=#[{on:=12,ground:=Ground.data},{on:=6,ground:=Ground.guard}],guard:=some (6,false)}) (v:=.int .i64 (m:Int)) rfl (by kernel_rfl) (by kernel_rfl) (by kernel_rfl) (fun _ _ _ h=>h) (Or.inl ⟨by rfl,(by intro Y hY;obtain⟨y0,y4,y2,yB⟩:=hY;go_simp)⟩) hH ?_;simp only[Act.put,zqj,zqk,zql];refine wpAnyH_take (i:=14) (oi:={dst:=some 109,op:=Op.move (Operand.tmp 0),type:=28,pos:= "object.go:40",after:=#[{on:=6,ground:=Ground.guard}],guard:=some (6,false)}) (v:=.pointer (some ⟨g,0,none⟩)) rfl (by kernel_rfl) (by kernel_rfl) (by kernel_rfl) (fun _ _ _ h=>h) (Or.inl ⟨by rfl,(by intro Y hY;obtain⟨y0,y4,y2,yB⟩:=hY;go_simp)⟩) hH ?_;simp only[Act.put,zqj,zqk,zql];refine wpAnyH_take (i:=15) (oi:={dst:=some 110,op:=Op.fieldAddr 41 (Operand.tmp 3) 2,type:=0,pos:= "object.go:40",after:=#[{on:=6,ground:=Ground.guard}],guard:=some (6,false)}) (v:=.pointer (some ⟨w.heap.size,2,none⟩)) rfl (by kernel_rfl) (by kernel_rfl) (by kernel_rfl) (fun _ _ _ h=>h) (Or.inl ⟨by rfl,(by intro Y hY;obtain⟨y0,y4,y2,yB⟩:=hY;go_simp)⟩) hH ?_;simp only[Act.put,zqj,zqk,zql];refine wpAnyH_take (i:=16) (oi:={dst:=some 111,op:=Op.load 3 (Operand.tmp 110),type:=3,pos:= "object.go:40",after:=#[{on:=15,ground:=Ground.data},{on:=6,ground:=Ground.guard}],guard:=some (6,false)}) (v:=.int .i64 (B:Int)) rfl (by kernel_rfl) (by kernel_rfl) (by kernel_rfl) (fun _ _ _ h=>h) (Or.inl ⟨by rfl,(by intro Y hY;obtain⟨y0,y4,y2,yB⟩:=hY;go_simp)⟩) hH ?_;simp only[Act.put,zqj,zqk,zql];refine wpAnyH_take (i:=17) (oi:={dst:=some 112,op:=Op.nilCheck (Operand.tmp 109),type:=0,pos:= "object.go:40",after:=#[{on:=14,ground:=Ground.data},{on:=6,ground:=Ground.guard}],guard:=some (6,false)}) (v:=.pointer (some ⟨g,0,none⟩)) rfl (by kernel_rfl) (by kernel_rfl) (by kernel_rfl) (fun _ _ _ h=>h) (Or.inl ⟨by rfl,(by intro Y hY;obtain⟨y0,y4,y2,yB⟩:=hY;go_simp)⟩) hH ?_;simp only[Act.put,zqj,zqk,zql];refine wpAnyH_take (i:=18) (oi:={dst:=some 113,op:=Op.fieldAddr 94 (Operand.tmp 112) 2,type:=0,pos:= "object.go:40",after:=#[{on:=17,ground:=Ground.data},{on:=6,ground:=Ground.guard}],guard:=some (6,false)}) (v:=.pointer (some ⟨g,2,none⟩)) rfl (by kernel_rfl) (by kernel_rfl) (by kernel_rfl) (fun _ _ _ h=>h) (Or.inl ⟨by rfl,(by intro Y hY;obtain⟨y0,y4,y2,yB⟩:=hY;go_simp)⟩) hH ?_;simp only[Act.put,zqj,zqk,zql];refine wpAnyH_take (i:=19) (oi:={dst:=some 114,op:=Op.indexAddr 89 (Operand.tmp 113) (Operand.tmp 111),type:=0,pos:= "object.go:40",after:=#[{on:=18,ground:=Ground.data},{on:=16,ground:=Ground.data},{on:=6,ground:=Ground.guard}],guard:=some (6,false)}) (v:=.pointer (some ⟨g,2+B,none⟩)) rfl (by kernel_rfl) (by kernel_rfl) (by kernel_rfl) (fun _ _ _ h=>h) (Or.inl ⟨by rfl,(by intro Y hY;obtain⟨y0,y4,y2,yB⟩:=hY;go_simp)⟩) hH ?_;simp only[Act.put,zqj,zqk,zql];refine wpAnyH_take (i:=20) (oi:={dst:=some 115,op:=Op.load 65 (Operand.tmp 114),type:=65,pos:= "object.go:40",after:=#[{on:=19,ground:=Ground.data},{on:=6,ground:=Ground.guard}],guard:=some (6,false)}) (v:=.int .u64 (y:Int)) rfl (by kernel_rfl) (by kernel_rfl) (by kernel_rfl) (fun _ _ _ h=>h) (Or.inl ⟨by rfl,(by intro Y hY;obtain⟨y0,y4,y2,yB⟩:=hY;go_simp)⟩) hH ?_;simp only[Act.put,zqj,zqk,zql];refine wpAnyH_ready (rs:=[21]) (by kernel_rfl) (by simp) ?_;refine AllReadyH.cons (o:={dst:=some 116,op:=Op.call {callee:=Callee.value (Operand.func 29),args:=#[Operand.tmp 105,Operand.tmp 106,Operand.tmp 108,Operand.tmp 115],argTypes:=#[62,3,3,65]},type:=33,pos:= "object.go:40",after:=#[{on:=10,ground:=Ground.data},{on:=11,ground:=Ground.data},{on:=13,ground:=Ground.data},{on:=20,ground:=Ground.data},{on:=6,ground:=Ground.chain},{on:=6,ground:=Ground.guard}],guard:=some (6,false)}) rfl (fun K hK=>?_) AllReadyH.nil;replace hK:=hid hK;rw[if_pos (by rfl)];go_simp;refine(HSZ.out 1).mono ?_;rintro e w7 ⟨rfl,h7,hf7⟩;have S6:=HS6.out _ hf7;have H7:=hid (zqf h7 hf7);clear h7 hf7;try go_simp
 refine hK.out _ _ S6 (fun _=>?_);clear hK K;simp only[zqj,zqk,zql];refine wpAnyH_take (i:=22) (oi:={dst:=some 117,op:=Op.binOp BinOp.neq 33 (Operand.tmp 116) (Operand.const (Value.int IntKind.i64 0)) 33,type:=4,pos:= "object.go:40",after:=#[{on:=21,ground:=Ground.data},{on:=6,ground:=Ground.guard}],guard:=some (6,false)}) (v:=.bool false) rfl (by kernel_rfl) (by kernel_rfl) (by kernel_rfl) (fun _ _ _ h=>h) (Or.inl ⟨by rfl,(by intro Y hY;obtain⟨y0,y4,y2,yB⟩:=hY;go_simp)⟩) S6 ?_;simp only[Act.put,zqj,zqk,zql];refine wpAnyH_take (i:=23) (oi:={dst:=some 118,op:=Op.pick (Operand.tmp 101) (Operand.const (Value.bool true)) (Operand.tmp 117),type:=4,pos:= "object.go:40",after:=#[{on:=6,ground:=Ground.data},{on:=22,ground:=Ground.data}],guard:=none}) (v:=.bool false) rfl (by kernel_rfl) (by kernel_rfl) (by kernel_rfl) (fun _ _ _ h=>h) (Or.inl ⟨by rfl,(by intro Y hY;obtain⟨y0,y4,y2,yB⟩:=hY;go_simp)⟩) S6 ?_;simp only[Act.put,zqj,zqk,zql];refine wpAnyH_done (by kernel_rfl) ?_ _;all_goals
  go_wp2_with fail;go_ret;exact⟨rfl,⟨_,_,_,_,H7.out.1⟩,(HFZ.out.drewN _).trans H7.out.2 (fun i hi=>.inl (HOM.out i hi))⟩
end
section
variable {O:Nat->Prop} {w w1:World} {g b:Nat} {C:CM} {R:Nat->Value} {vf vs vh:Value}
section
variable (a:McAt O w g C b R vf vs vh) (ok:OkC C)
include a ok
theorem jti (A:Nat) (hA:A<16) (B:Nat) (hB:B<16) (D n:Int) (HB:jj (C.rg B:Int)=true):
  Calls prog 134 #[.pointer (some ⟨g,0,none⟩),.agg #[.int .i64 22,.int .i64 A,.int .i64 B,.int .i64 D,.int .i64 n]] w fun e w'=>Did O w g b ({C with rg:=jG C.rg A (C.rg B)},0) e w':=by
 obtain⟨X,hX,hblk,hb0,hF0,r0,r1,r2,r3,r4⟩:=ji O w 22 A B D n;have aX:=a.below hb0;have HW:=hid hX;have gA:=aX.regc hA;have i0:(0:Int)<=(A:Int):=by omega
 have i1:(A:Int)<16:=by omega
 have HA:=hid aX;have HF:=hid hF0;have hgO:=a.og;have gB:=aX.regc hB;have i2:(0:Int)<=(B:Int):=by omega
 have i3:(B:Int)<16:=by omega
 obtain⟨x,hx⟩:∃x,C.rg B=x:=⟨_,rfl⟩;have hxl:=ok.rg B hB;rw[hx] at gB hxl HB;have HIB:=hid (zf (by omega) (by omega) HB);have HJ:=hid (fun q=>(aX.reg hA x).drewN q);have rz:=aX.fz (2+A);rw[hx];clear a ok hblk hb0 hF0 hX aX hA;clear hx hxl hB HB;go_enter Tryz.func134,Tryz.ntmps134;go_wp2_with fail;rw[HW.out];go_quiet (fail);go_wp2_with fail;refine(HIB.out _).mono ?_;rintro e w' ⟨rfl,rfl⟩;go_wp2_with fail;refine(HIB.out _).mono ?_;rintro e w' ⟨rfl,rfl⟩;go_wp2_with fail;go_region;all_goals
  go_wp2_with fail;go_ret;exact⟨rfl,⟨_,_,_,_,HJ.out _⟩,(HF.out.setCell (p:=⟨g,2+A,none⟩) (.inl hgO) _).drewN _⟩
theorem juO (A:Nat) (hA:A<16) (B:Nat) (hB:B<16) (D n:Int) (HB:jj (C.rg B:Int)=false) {K:Nat} (hK:((jD C (C.rg B)).map fun o=>o.k).getD 0=K) (hk:K≠1):
  Calls prog 134 #[.pointer (some ⟨g,0,none⟩),.agg #[.int .i64 22,.int .i64 A,.int .i64 B,.int .i64 D,.int .i64 n]] w fun e w'=>Did O w g b (C,7) e w':=by
 obtain⟨X,hX,hblk,hb0,hF0,r0,r1,r2,r3,r4⟩:=ji O w 22 A B D n;have aX:=a.below hb0;have HW:=hid hX;have gA:=aX.regc hA;have i0:(0:Int)<=(A:Int):=by omega
 have i1:(A:Int)<16:=by omega
 have HA:=hid aX;have HF:=hid hF0;have hgO:=a.og;have gB:=aX.regc hB;have i2:(0:Int)<=(B:Int):=by omega
 have i3:(B:Int)<16:=by omega
 obtain⟨x,hx⟩:∃x,C.rg B=x:=⟨_,rfl⟩;have hxl:=ok.rg B hB;rw[hx] at gB hxl HB;have HIB:=hid (zf (by omega) (by omega) HB);rw[hx] at hK;have HOB:=fun q=>zh (aX.drewN q) hxl;rw[hK] at HOB;obtain⟨V,hV⟩:∃V,(if(jD C x).isSome then jc (x:Int) else 0)=V:=⟨_,rfl⟩;rw[hV] at HOB;have HOB:=hid HOB;clear hV;have k1a:((K:Int)==1)=false:=by rw[beq_eq_false_iff_ne];omega
 have k1b:(K==1)=false:=by rw[beq_eq_false_iff_ne];omega
 have k1c:¬K=1:=by omega
 have k1d:((K:Int) !=1)=true:=by simp only[bne,k1a];rfl
 clear a ok hblk hb0 hF0 hX aX hA;clear hx hxl hB HB hK;go_enter Tryz.func134,Tryz.ntmps134;go_wp2_with fail;rw[HW.out];go_quiet (fail);go_wp2_with fail;refine(HIB.out _).mono ?_;rintro e w' ⟨rfl,rfl⟩;go_wp2_with fail;refine(HOB.out _).mono ?_;rintro e w' ⟨rfl,q5,rfl⟩;go_wp2_with fail;go_ret;exact⟨rfl,⟨_,_,_,_,HA.out.drewN _⟩,HF.out.drewN _⟩
theorem jtf (A:Nat) (hA:A<16) (B:Nat) (hB:B<16) (D n:Int) (HB:jj (C.rg B:Int)=false) {o:Ob} (ho:jD C (C.rg B)=some o) (hk:o.k=1) (HV:jj ((o.ws.getD 0 0:Nat):Int)=false):
  Calls prog 134 #[.pointer (some ⟨g,0,none⟩),.agg #[.int .i64 22,.int .i64 A,.int .i64 B,.int .i64 D,.int .i64 n]] w fun e w'=>Did O w g b (C,7) e w':=by
 obtain⟨X,hX,hblk,hb0,hF0,r0,r1,r2,r3,r4⟩:=ji O w 22 A B D n;have aX:=a.below hb0;have HW:=hid hX;have gA:=aX.regc hA;have i0:(0:Int)<=(A:Int):=by omega
 have i1:(A:Int)<16:=by omega
 have HA:=hid aX;have HF:=hid hF0;have hgO:=a.og;have gB:=aX.regc hB;have i2:(0:Int)<=(B:Int):=by omega
 have i3:(B:Int)<16:=by omega
 obtain⟨x,hx⟩:∃x,C.rg B=x:=⟨_,rfl⟩;have hxl:=ok.rg B hB;rw[hx] at gB hxl HB;have HIB:=hid (zf (by omega) (by omega) HB);rw[hx] at ho;have HOB:=jat aX hxl ho (K:=1) (by omega);obtain⟨PA,hPA⟩:∃PA,jc (x:Int)=PA:=⟨_,rfl⟩;have c0:=aX.c0;have HFD:=fun q=>Zu (aX.drewN q) ho 0;obtain⟨V,hV⟩:∃V,o.ws.getD 0 0=V:=⟨_,rfl⟩;have hVl:=Z6 aX.z ho 0;rw[hPA] at HOB HFD;rw[hV] at HFD HV hVl;have HOB:=hid HOB;have HFD:=hid HFD;have HIV:=hid (zf (by omega) (by omega) HV);clear a ok hblk hb0 hF0 hX aX hA;clear hx hxl hB HB ho hPA hV hVl HV;go_enter Tryz.func134,Tryz.ntmps134;go_wp2_with fail;rw[HW.out];go_quiet (fail);go_wp2_with fail;refine(HIB.out _).mono ?_;rintro e w' ⟨rfl,rfl⟩;go_wp2_with fail;refine(HOB.out _).mono ?_;rintro e w' ⟨rfl,q5,rfl⟩;go_wp2_with fail;refine(HFD.out _).mono ?_;rintro e w' ⟨rfl,q6,rfl⟩;go_wp2_with fail;refine(HIV.out _).mono ?_;rintro e w' ⟨rfl,rfl⟩;go_wp2_with fail;go_ret;exact⟨rfl,⟨_,_,_,_,HA.out.drewN _⟩,HF.out.drewN _⟩
theorem juP (A:Nat) (hA:A<16) (B:Nat) (hB:B<16) (D n:Int) (HB:jj (C.rg B:Int)=false) {o:Ob} (ho:jD C (C.rg B)=some o) (hk:o.k=1) (HV:jj ((o.ws.getD 0 0:Nat):Int)=true):
  Calls prog 134 #[.pointer (some ⟨g,0,none⟩),.agg #[.int .i64 22,.int .i64 A,.int .i64 B,.int .i64 D,.int .i64 n]] w fun e w'=>Did O w g b ({C with rg:=jG C.rg A (o.ws.getD 0 0)},0) e w':=by
 obtain⟨X,hX,hblk,hb0,hF0,r0,r1,r2,r3,r4⟩:=ji O w 22 A B D n;have aX:=a.below hb0;have HW:=hid hX;have gA:=aX.regc hA;have i0:(0:Int)<=(A:Int):=by omega
 have i1:(A:Int)<16:=by omega
 have HA:=hid aX;have HF:=hid hF0;have hgO:=a.og;have gB:=aX.regc hB;have i2:(0:Int)<=(B:Int):=by omega
 have i3:(B:Int)<16:=by omega
 obtain⟨x,hx⟩:∃x,C.rg B=x:=⟨_,rfl⟩;have hxl:=ok.rg B hB;rw[hx] at gB hxl HB;have HIB:=hid (zf (by omega) (by omega) HB);rw[hx] at ho;have HOB:=jat aX hxl ho (K:=1) (by omega);obtain⟨PA,hPA⟩:∃PA,jc (x:Int)=PA:=⟨_,rfl⟩;have c0:=aX.c0;have HFD:=fun q=>Zu (aX.drewN q) ho 0;obtain⟨V,hV⟩:∃V,o.ws.getD 0 0=V:=⟨_,rfl⟩;have hVl:=Z6 aX.z ho 0;rw[hPA] at HOB HFD;rw[hV] at HFD HV hVl;have HOB:=hid HOB;have HFD:=hid HFD;have HIV:=hid (zf (by omega) (by omega) HV);have HJ:=hid (fun q=>(aX.reg hA V).drewN q);have rz:=aX.fz (2+A);rw[hV];clear a ok hblk hb0 hF0 hX aX hA;clear hx hxl hB HB ho hPA hV hVl HV;go_enter Tryz.func134,Tryz.ntmps134;go_wp2_with fail;rw[HW.out];go_quiet (fail);go_wp2_with fail;refine(HIB.out _).mono ?_;rintro e w' ⟨rfl,rfl⟩;go_wp2_with fail;refine(HOB.out _).mono ?_;rintro e w' ⟨rfl,q5,rfl⟩;go_wp2_with fail;refine(HFD.out _).mono ?_;rintro e w' ⟨rfl,q6,rfl⟩;go_wp2_with fail;refine(HIV.out _).mono ?_;rintro e w' ⟨rfl,rfl⟩;go_wp2_with fail;go_region;all_goals
  go_wp2_with fail;go_ret;exact⟨rfl,⟨_,_,_,_,HJ.out _⟩,(HF.out.setCell (p:=⟨g,2+A,none⟩) (.inl hgO) _).drewN _⟩
end
end
section
variable {O:Nat->Prop} {w:World} {g b:Nat} {C:CM} {R:Nat->Value} {vf vs vh:Value} {M:RM} {D:Nat->Prop} {f A:Nat->Nat} {E:List Nat} {k:Nat} {y:Fm}
section
variable (h:Pre O w g b C R vf vs vh M D f A E k y) {a c d n:Int} (i:Qu a c d n)
include h a c d n i
theorem jmR:
  Calls prog 97 #[.pointer (some ⟨g,0,none⟩),.agg #[.int .i64 19,.int .i64 a,.int .i64 c,.int .i64 d,.int .i64 n]] w fun e w'=>DidS O w g b (jey M a n (M.rg c.toNat)) e w':=by
 obtain⟨a,rfl⟩:=jM i.a0;obtain⟨c,rfl⟩:=jM i.b0;have ha:a<16:=by have:=i.a1;omega
 have hc:c<16:=by have:=i.b1;omega
 have ok:=h.s.ok;have e1:=h.s.rg c hc;have g1:=h.get hc;have hk:=h.s.kind g1.1;rw[<-e1] at hk;rw[show((c:Int)).toNat=c from rfl];unfold jey;by_cases h0:(jo M (M.rg c)).k=1\/(jo M (M.rg c)).k=2\/(jo M (M.rg c)).k=3
 ·obtain⟨j,_,_,ho,hob,hkk⟩:=h.s.there g1.1 (v:=M.rg c) (by omega)
  rw[<-e1] at hob;obtain⟨hl,_⟩:=jhd ho h0 A;by_cases h1:0<=n/\n<((jo M (M.rg c)).ws.length:Int)
  ·rw[if_pos ⟨h0,h1⟩]
   obtain⟨m,rfl⟩:=jM h1.1;have hm:m<(jo M (M.rg c)).ws.length:=by omega
   have r:=joc h.s h.u g1 h0 hm a (x:=(jA A (jo M (M.rg c))).ws.getD m 0) rfl;exact(jhw h.a ok a ha c hc d hob (by rw[hkk];exact h0) (by omega)).mono fun e w' p=>⟨_,p,r⟩
  ·rw[if_neg (fun q=>h1 q.2)]
   exact(jgU h.a ok a ha c hc d n hob (by rw[hkk];exact h0) (by omega)).mono fun e w' p=>⟨_,p,h.stop (by decide)⟩
 ·rw[if_neg (fun q=>h0 q.1)]
  exact(jhv h.a ok a ha c hc d n hk (by omega)).mono fun e w' p=>⟨_,p,h.stop (by decide)⟩
theorem jpu:
  Calls prog 97 #[.pointer (some ⟨g,0,none⟩),.agg #[.int .i64 20,.int .i64 a,.int .i64 c,.int .i64 d,.int .i64 n]] w fun e w'=>DidS O w g b (jg8 M n (M.rg a.toNat) (M.rg c.toNat)) e w':=by
 obtain⟨a,rfl⟩:=jM i.a0;obtain⟨c,rfl⟩:=jM i.b0;have ha:a<16:=by have:=i.a1;omega
 have hc:c<16:=by have:=i.b1;omega
 have ok:=h.s.ok;have e1:=h.s.rg a ha;have g1:=h.get ha;have hk:=h.s.kind g1.1;rw[<-e1] at hk;rw[show((c:Int)).toNat=c from rfl,show((a:Int)).toNat=a from rfl];unfold jg8;by_cases h0:(jo M (M.rg a)).k=1\/(jo M (M.rg a)).k=3
 ·obtain⟨j,hj,hjo,ho,hob,hkk⟩:=h.s.there g1.1 (v:=M.rg a) (by omega)
  rw[<-e1] at hob;obtain⟨hl,_⟩:=jhd ho (by omega) A;by_cases h1:0<=n/\n<((jo M (M.rg a)).ws.length:Int)
  ·rw[if_pos ⟨h0,h1⟩]
   obtain⟨m,rfl⟩:=jM h1.1;have hm:m<(jo M (M.rg a)).ws.length:=by omega
   have r:=jgs h.s h.u (g1.1 j hj) hjo (by omega) hm (h.get hc) (h.s.rg c hc);have e2:C.rg a=A j:=by rw[e1,hj];rfl
   rw[<-e2,<-hj] at r;rcases h0 with q|q
   ·exact(jhx h.a ok h.O a ha c hc d hob (hkk.trans q) (by omega)).mono fun e w' p=>⟨_,p,r⟩
   ·exact(jhy h.a ok h.O a ha c hc d hob (hkk.trans q) (by omega)).mono fun e w' p=>⟨_,p,r⟩
  ·rw[if_neg (fun q=>h1 q.2)]
   rcases h0 with q|q
   ·exact(jgV h.a ok a ha c hc d n hob (hkk.trans q) (by omega)).mono fun e w' p=>⟨_,p,h.stop (by decide)⟩
   ·exact(jgW h.a ok a ha c hc d n hob (hkk.trans q) (by omega)).mono fun e w' p=>⟨_,p,h.stop (by decide)⟩
 ·rw[if_neg (fun q=>h0 q.1)]
  exact(ji0 h.a ok a ha c d n hk (by omega)).mono fun e w' p=>⟨_,p,h.stop (by decide)⟩
theorem jkk:
  Calls prog 97 #[.pointer (some ⟨g,0,none⟩),.agg #[.int .i64 21,.int .i64 a,.int .i64 c,.int .i64 d,.int .i64 n]] w fun e w'=>DidS O w g b (jdc M (M.rg a.toNat) (M.rg c.toNat)) e w':=by
 obtain⟨a,rfl⟩:=jM i.a0;obtain⟨c,rfl⟩:=jM i.b0;have ha:a<16:=by have:=i.a1;omega
 have hc:c<16:=by have:=i.b1;omega
 have ok:=h.s.ok;have e1:=h.s.rg a ha;have g1:=h.get ha;have hk:=h.s.kind g1.1;rw[<-e1] at hk;rw[show((c:Int)).toNat=c from rfl,show((a:Int)).toNat=a from rfl];unfold jdc;by_cases h0:(jo M (M.rg a)).k=2
 ·obtain⟨j,hj,hjo,ho,hob,hkk⟩:=h.s.there g1.1 (v:=M.rg a) (by omega)
  rw[<-e1] at hob;obtain⟨hl,hl1⟩:=jhd ho (by omega) A;rw[if_pos h0];have r:=jgs h.s h.u (g1.1 j hj) hjo (by omega) (m:=0) (by omega) (h.get hc) (h.s.rg c hc);have e2:C.rg a=A j:=by rw[e1,hj];rfl
  rw[<-e2,<-hj] at r;exact(jgT h.a ok h.O a ha c hc d n hob (hkk.trans h0) (by omega)).mono fun e w' p=>⟨_,p,r⟩
 ·rw[if_neg h0]
  exact(jgS h.a ok a ha c d n hk h0).mono fun e w' p=>⟨_,p,h.stop (by decide)⟩
theorem jtj:
  Calls prog 134 #[.pointer (some ⟨g,0,none⟩),.agg #[.int .i64 22,.int .i64 a,.int .i64 c,.int .i64 d,.int .i64 n]] w fun e w'=>DidS O w g b (jl0 M a (M.rg c.toNat)) e w':=by
 obtain⟨a,rfl⟩:=jM i.a0;obtain⟨c,rfl⟩:=jM i.b0;have ha:a<16:=by have:=i.a1;omega
 have hc:c<16:=by have:=i.b1;omega
 have ok:=h.s.ok;have e1:=h.s.rg c hc;have g1:=h.get hc;have hk:=h.s.kind g1.1;rw[<-e1] at hk;rw[show((c:Int)).toNat=c from rfl];unfold jl0;cases hv:M.rg c with
 |I m=>
  rw[hv] at e1 g1;exact(jti h.a ok a ha c hc d n (by rw[e1];exact J5 m)).mono fun e w' p=>⟨_,p,.reg h.s h.u a g1 e1⟩
 |P j=>
  rw[hv] at e1 g1 hk;have hb:jj (C.rg c:Int)=false:=by rw[e1];exact h.s.notInt (g1.1 j rfl)
  by_cases h0:(jo M (.P j)).k=1
  ·obtain⟨j',hj,hjo,ho,hob,hkk⟩:=h.s.there g1.1 (v:=.P j) (by omega)
   cases hj
   rw[<-e1] at hob;obtain⟨hl,hl1⟩:=jhd ho (by omega) A;have gf:=h.s.gotf h.u g1 hjo (jaJ (m:=0) (by omega));have e2:=jce (A:=A) (o:=jo M (.P j)) (by omega) (m:=0) (by omega);show Calls _ _ _ _ fun e w'=>DidS O w g b (if(jo M (.P j)).k≠1\/((jo M (.P j)).ws.getD 0 (.I 0)).isP then(M,7) else(M.reg a ((jo M (.P j)).ws.getD 0 (.I 0)),0)) e w';cases hv2:(jo M (.P j)).ws.getD 0 (.I 0) with
   |I m=>
    rw[hv2] at gf e2;rw[if_neg (by simp[h0,RWd.isP])];exact(juP h.a ok a ha c hc d n hb hob (hkk.trans h0) (by rw[e2];exact J5 m)).mono fun e w' p=>⟨_,p,.reg h.s h.u a gf e2⟩
   |P l=>
    rw[hv2] at gf e2;rw[if_pos (.inr rfl)];exact(jtf h.a ok a ha c hc d n hb hob (hkk.trans h0) (by rw[e2];exact h.s.notInt (gf.1 l rfl))).mono fun e w' p=>⟨_,p,h.stop (by decide)⟩
  ·show Calls _ _ _ _ fun e w'=>DidS O w g b (if(jo M (.P j)).k≠1\/(ja1 M (.P j)).isP then(M,7) else(M.reg a (ja1 M (.P j)),0)) e w'
   rw[if_pos (.inl h0)];exact(juO h.a ok a ha c hc d n hb hk h0).mono fun e w' p=>⟨_,p,h.stop (by decide)⟩
end
end
