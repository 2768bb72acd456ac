/- A part of the proof of MachineMoves. Conditions: those that each theorem names. -/
import Derived.Test.YtklcmdoadmcpfaaGreatDoorQ34
set_option maxRecDepth 100000
set_option maxHeartbeats 400000000
namespace Go.Proofs.YtklcmdoadmcpfaaGreatDoor
open Go Go.RowKit IsaL
open Go.Lib(hid)
open Go.Proofs.Tryz(prog)
section
variable {O:Nat->Prop} {w:World}
theorem zT {α:Type} {l:List α} {k:Nat} {x:α} (h:l[k]?=some x):l.take (k+1)=l.take k++[x]:=by
 obtain⟨h1,h2⟩:=zqb h;rw[List.take_succ_eq_append_getElem h1,h2]
theorem jcO (n:Int) (w:World):Calls prog 76 #[.int .i64 n] w fun e w'=>e=.returned (.bool (decide (0<=n/\n<1024)))/\w'=w:=by
 by_cases h:0<=n/\n<1024
 ·rw[zqr h];exact jaL h.1 h.2 w
 ·rw[zqq h];exact jdz (by omega) w
theorem joV {lv iv:Value} {c:jn} (h1:LitsAt O w lv c.ls) (h2:InsAt O w iv c.ins) (hops:∀Y,Below w.heap.size w Y->ZM Y) (hb1:c.ls.length<=1000000) (hb2:c.ins.length<=1000000) (ht:∀x∈c.ls,x.tx.size<=1000000000) (m:Nat):
  Calls prog 40 #[.agg #[lv,iv],.int .i64 m] w fun e w'=>(∃W:Int,e=.returned (.tuple #[.int .i64 W,.int .i64 (jN m c)])/\(jN m c=0->W=zy c))/\Below w.heap.size w w':=by
 obtain⟨A1,k1,rfl,l1⟩:=h1;obtain⟨A2,k2,rfl,l2⟩:=h2;obtain⟨nl,hnl⟩:∃nl,c.ls.length=nl:=⟨_,rfl⟩;obtain⟨ni,hni⟩:∃ni,c.ins.length=ni:=⟨_,rfl⟩;rw[hnl,hni];rw[hnl] at hb1;rw[hni] at hb2;have HB0:=hid (jq w (.cells #[.slice A1 nl k1,.slice A2 ni k2] 39));obtain⟨X,hX⟩:∃X,w.alloc (.cells #[.slice A1 nl k1,.slice A2 ni k2] 39)=X:=⟨_,rfl⟩;have hblk:=zqe w (.cells #[.slice A1 nl k1,.slice A2 ni k2] 39);rw[hX] at HB0 hblk;have HX:=hid hX;have x0:X.cell? ⟨w.heap.size,0,none⟩=some (.slice A1 nl k1):=jb hblk 0;have x1:X.cell? ⟨w.heap.size,1,none⟩=some (.slice A2 ni k2):=jb hblk 1;have HX1:=hid x1;have HL1:=hid l1;have HL2:=hid l2;have HOP:=hid hops;have HTX:=hid ht;have HNL:=hid hnl;have HNI:=hid hni;have hs1:IntKind.i64.wrap ((nl:Int)+(ni:Int))=(nl:Int)+(ni:Int):=jv (by omega) (by omega);have hs2:IntKind.i64.wrap (1+(nl:Int))=1+(nl:Int):=jv (by omega) (by omega);have hs3:IntKind.i64.wrap (1+(nl:Int)+(ni:Int))=1+(nl:Int)+(ni:Int):=jv (by omega) (by omega);obtain⟨E,hE⟩:∃E,jN m c=E:=⟨_,rfl⟩;rw[hE];have HE:=hid hE;clear hX hblk l1 l2 hops ht hnl hni hE;by_cases hlong:16384<nl+ni
 ·have d0:decide ((16384:Int)<(nl:Int)+(ni:Int))=true:=zqr (by omega)
  have d1:decide (16384<nl+ni)=true:=zqr hlong;go_enter Tryz.func40,Tryz.ntmps40;go_wp2_with fail;rw[HX.out];go_wp2_with fail;go_ret2;have e3:E=3:=by rw[<-HE.out];unfold jN;rw[if_pos (by rw[HNL.out,HNI.out];exact hlong)]
  exact⟨⟨0,by rw[e3];rfl,fun q=>by rw[e3] at q;cases q⟩,HB0.out⟩
 ·have d0:decide ((16384:Int)<(nl:Int)+(ni:Int))=false:=zqq (by omega)
  have d1:decide (16384<nl+ni)=false:=zqq hlong;have hshort:¬16384<c.ls.length+c.ins.length:=by rw[HNL.out,HNI.out];exact hlong
  have hbl:nl<=16384:=by omega
  have HSH:=hid hshort;clear hshort hlong;go_enter Tryz.func40,Tryz.ntmps40;go_wp2_with fail;rw[HX.out];go_wp2_with fail;go_loopw [6,31] (fun v i wr=>∃(k:Nat) (V:Int),k<=nl/\v=.int .i64 V/\i=.int .i64 k/\zL m (c.ls.take k)=0/\V=1+(nl:Int)+(ni:Int)+jU (c.ls.take k)/\Below X.heap.size X wr) (fun _ i _=>nl-(intOf i).toNat)
  case atStart=>exact⟨0,_,Nat.zero_le _,rfl,rfl,rfl,by show _=_+((0:Nat):Int);omega,Below.refl _ _⟩
  case round=>
   obtain⟨k,V,hk,rfl,rfl,hle,hV,hb⟩:=hrel;have hwl:jU (c.ls.take k)<=20000*k:=zqs (jdX hle) (Nat.mul_le_mul_left _ (by rw[List.length_take];omega));by_cases hlt:k<nl
   ·obtain⟨x,hx⟩:∃x,c.ls[k]?=some x:=⟨_,zqh (by have:=HNL.out;omega)⟩
    obtain⟨B,off,rfl,hB1,_,hcell⟩:=HL1.out k x hx;have hbw:=HB0.out.trans (hb.mono HB0.out.size);have g0:=jm hbw (hcell 0 (by omega));have g1:=jm hbw (hcell 1 (by omega));have g2:=jm hbw (hcell 2 (by omega));have g3:=jm hbw (hcell 3 (by omega));rw[Nat.add_zero] at g0;obtain⟨kd,n,num,tx⟩:=x;replace g0:wr.cell? ⟨B,off+k*4,none⟩=some (.int .i64 kd):=g0;replace g1:wr.cell? ⟨B,off+k*4+1,none⟩=some (.int .i64 n):=g1;replace g2:wr.cell? ⟨B,off+k*4+2,none⟩=some (.int .i64 num):=g2;replace g3:wr.cell? ⟨B,off+k*4+3,none⟩=some (.string tx):=g3;have htx:=HTX.out _ (zqc hx);have htx:tx.size<=1000000000:=htx;have HX2:=hid hx;have HLE:=hid hle;have HBW:=hid (zqf hb hbw);have HVV:=hid hV;have HTW:=hid (fun Y (q:tx.size<=131064)=>jaj tx.size (by omega) Y);have hn1:(k:Int)<nl:=by omega
    have HGO:=hid (fun(q:jJ m ⟨kd,n,num,tx⟩≠0)=>show E=jJ m ⟨kd,n,num,tx⟩ from by rw[<-HE.out];unfold jN;rw[if_neg HSH.out,jeM hx hle q,if_neg q]);have HNX:=hid (fun(q:jJ m ⟨kd,n,num,tx⟩=0)=>show zL m (c.ls.take (k+1))=0/\jU (c.ls.take (k+1))=jU (c.ls.take k)+qz ⟨kd,n,num,tx⟩ from by rw[zT hx];exact⟨jeL hle q,jeN _ _⟩);have hVb:0<=V/\V<=400000000:=by omega
    clear hx hle hb hbw hcell hV hwl;by_cases k1:kd=1
    ·subst k1
     obtain⟨e1,e2⟩:=HNX.out (by simp[jJ]);have e2:jU (c.ls.take (k+1))=jU (c.ls.take k):=by rw[e2];simp[qz]
     have HEE:=hid (zqf e1 e2);clear e1 e2;go_wp2_with fail;go_roundw
     case rel=>exact⟨k+1,V,hlt,rfl,by go_num,HEE.out.1,by rw[HEE.out.2];exact HVV.out,HBW.out.1.trans ((jq wr _).mono HBW.out.1.size)⟩
     case measure=>simp[intOf];omega
    by_cases k2:kd=2
    ·subst k2
     by_cases hs:131064<tx.size
     ·have d2:decide ((131064:Int)<(tx.size:Int))=true:=zqr (by omega)
      have d3:decide (131064<tx.size)=true:=zqr hs;have hl:jJ m ⟨2,n,num,tx⟩=3:=by simp[jJ,hs]
      have e3:=HGO.out (by rw[hl];decide);rw[hl] at e3;have HE3:=hid e3;clear hl e3;go_wp2_with fail;go_ret2;exact⟨⟨0,by rw[HE3.out];rfl,fun q=>by rw[HE3.out] at q;cases q⟩,HBW.out.2.trans ((jq wr _).mono HBW.out.2.size)⟩
     ·have d2:decide ((131064:Int)<(tx.size:Int))=false:=zqq (by omega)
      have d3:decide (131064<tx.size)=false:=zqq hs;obtain⟨e1,e2⟩:=HNX.out (by simp[jJ,hs]);obtain⟨tw,htw⟩:∃tw,2+(tx.size+7)/8=tw:=⟨_,rfl⟩;have e2:jU (c.ls.take (k+1))=jU (c.ls.take k)+tw:=by rw[e2];simp[qz,htw]
      have HW2:=hid (fun Y=>htw▸HTW.out Y (by omega));have hsum:IntKind.i64.wrap (V+(tw:Int))=V+(tw:Int):=jv (by omega) (by omega);have HEE:=hid (zqf e1 e2);clear e1 e2 htw;go_wp2_with fail;refine(HW2.out _).mono ?_;rintro e w' ⟨rfl,hw'⟩;subst w';go_wp2_with fail;go_roundw
      case rel=>exact⟨k+1,_,hlt,rfl,by go_num,HEE.out.1,by rw[HEE.out.2,HVV.out];omega,HBW.out.1.trans ((jq wr _).mono HBW.out.1.size)⟩
      case measure=>simp[intOf];omega
    by_cases k3:kd=3
    ·subst k3
     by_cases hs:n<0\/(m:Int)<=n
     ·have hl:jJ m ⟨3,n,num,tx⟩=60:=by simp[jJ,hs]
      have e3:=HGO.out (by rw[hl];decide);rw[hl] at e3;have HE3:=hid e3;have hcase:(decide (n<0)=true)\/(decide (n<0)=false/\decide ((m:Int)<=n)=true):=by
       by_cases q:n<0
       ·exact .inl (zqr q)
       ·exact .inr ⟨zqq q,zqr (by omega)⟩
      clear hl e3 hs;rcases hcase with d2|⟨d2,d3⟩;all_goals
       go_wp2_with fail;go_ret2;exact⟨⟨0,by rw[HE3.out];rfl,fun q=>by rw[HE3.out] at q;cases q⟩,HBW.out.2.trans ((jq wr _).mono HBW.out.2.size)⟩
     ·have d2:decide (n<0)=false:=zqq (by omega)
      have d3:decide ((m:Int)<=n)=false:=zqq (by omega);obtain⟨e1,e2⟩:=HNX.out (by simp[jJ,hs]);have e2:jU (c.ls.take (k+1))=jU (c.ls.take k):=by rw[e2];simp[qz]
      have HEE:=hid (zqf e1 e2);clear e1 e2 hs;go_wp2_with fail;go_roundw
      case rel=>exact⟨k+1,V,hlt,rfl,by go_num,HEE.out.1,by rw[HEE.out.2];exact HVV.out,HBW.out.1.trans ((jq wr _).mono HBW.out.1.size)⟩
      case measure=>simp[intOf];omega
    by_cases k4:kd=4
    ·subst k4
     by_cases hs:n<0\/1024<=n
     ·have hl:jJ m ⟨4,n,num,tx⟩=60:=by simp[jJ,hs]
      have e3:=HGO.out (by rw[hl];decide);rw[hl] at e3;have HE3:=hid e3;have HIG:=hid (fun Y=>show Calls prog 76 #[.int .i64 n] Y (fun e w'=>e=.returned (.bool false)/\w'=Y) from(jcO n Y).mono fun e w' ⟨h1,h2⟩=>⟨by rw[h1,zqq (by omega)],h2⟩);clear hl e3 hs;go_wp2_with fail;refine(HIG.out _).mono ?_;rintro e w' ⟨rfl,hw'⟩;subst w';go_wp2_with fail;go_ret2;exact⟨⟨0,by rw[HE3.out];rfl,fun q=>by rw[HE3.out] at q;cases q⟩,HBW.out.2.trans ((jq wr _).mono HBW.out.2.size)⟩
     ·have HIG:=hid (fun Y=>show Calls prog 76 #[.int .i64 n] Y (fun e w'=>e=.returned (.bool true)/\w'=Y) from(jcO n Y).mono fun e w' ⟨h1,h2⟩=>⟨by rw[h1,zqr (by omega)],h2⟩)
      obtain⟨e1,e2⟩:=HNX.out (by simp[jJ,hs]);have e2:jU (c.ls.take (k+1))=jU (c.ls.take k):=by rw[e2];simp[qz]
      have HEE:=hid (zqf e1 e2);clear e1 e2 hs;go_wp2_with fail;refine(HIG.out _).mono ?_;rintro e w' ⟨rfl,hw'⟩;subst w';go_wp2_with fail;go_roundw
      case rel=>exact⟨k+1,V,hlt,rfl,by go_num,HEE.out.1,by rw[HEE.out.2];exact HVV.out,HBW.out.1.trans ((jq wr _).mono HBW.out.1.size)⟩
      case measure=>simp[intOf];omega
    ·have hl:jJ m ⟨kd,n,num,tx⟩=1:=by simp[jJ,k1,k2,k3,k4]
     have e3:=HGO.out (by rw[hl];decide);rw[hl] at e3;have HE3:=hid e3;have b1:(kd==1)=false:=beq_eq_false_iff_ne.2 k1;have b2:(kd==2)=false:=beq_eq_false_iff_ne.2 k2;have b3:(kd==3)=false:=beq_eq_false_iff_ne.2 k3;have b4:(kd==4)=false:=beq_eq_false_iff_ne.2 k4;clear hl e3;go_wp2_with fail;go_ret2;exact⟨⟨0,by rw[HE3.out];rfl,fun q=>by rw[HE3.out] at q;cases q⟩,HBW.out.2.trans ((jq wr _).mono HBW.out.2.size)⟩
   ·obtain rfl:k=nl:=by omega
    have hall:c.ls.take k=c.ls:=zqp (by rw[HNL.out];exact zqg _);rw[hall] at hle hV hwl;have hVb:0<=V/\V<=400000000:=by omega
    have HLE:=hid hle;have HVV:=hid hV;have HBW:=hid hb;have y1:=jm hb HX1.out;clear hle hV hwl hb hall;go_wp2_with fail;go_loopw [72] (fun i wx=>∃q:Nat,q<=ni/\i=.int .i64 q/\qs (c.ins.take q)=0/\Below X.heap.size X wx) (fun i _=>ni-(intOf i).toNat)
    case atStart=>exact⟨0,Nat.zero_le _,rfl,rfl,HBW.out⟩
    case round=>
     obtain⟨q,hq,rfl,hie,hb⟩:=hrel;by_cases hlt:q<ni
     ·obtain⟨x,hx⟩:∃x,c.ins[q]?=some x:=⟨_,zqh (by have:=HNI.out;omega)⟩
      obtain⟨B,off,rfl,hB1,_,hcell⟩:=HL2.out q x hx;have hbw:=HB0.out.trans (hb.mono HB0.out.size);have g0:=jm hbw (hcell 0 (by omega));have g1:=jm hbw (hcell 1 (by omega));have g2:=jm hbw (hcell 2 (by omega));have g3:=jm hbw (hcell 3 (by omega));have g4:=jm hbw (hcell 4 (by omega));rw[Nat.add_zero] at g0;have y1:=jm hb HX1.out;obtain⟨o,a,b,d,n⟩:=x;replace g0:wr.cell? ⟨B,off+q*5,none⟩=some (.int .i64 o):=g0;replace g1:wr.cell? ⟨B,off+q*5+1,none⟩=some (.int .i64 a):=g1;replace g2:wr.cell? ⟨B,off+q*5+2,none⟩=some (.int .i64 b):=g2;replace g3:wr.cell? ⟨B,off+q*5+3,none⟩=some (.int .i64 d):=g3;replace g4:wr.cell? ⟨B,off+q*5+4,none⟩=some (.int .i64 n):=g4;obtain⟨er,her⟩:∃er,zq o a b d n=er:=⟨_,rfl⟩;have HCK:=hid (fun Y (hY:Below wr.heap.size wr Y)=>show Calls prog 79 #[.agg #[.int .i64 o,.int .i64 a,.int .i64 b,.int .i64 d,.int .i64 n]] Y (fun e w'=>e=.returned (.int .i64 er)/\Below Y.heap.size Y w') from her▸ja0 o a b d n Y (HOP.out Y (hbw.trans (hY.mono hbw.size))));have HIE:=hid hie;have HXX:=hid hx;have HER:=hid her;have HBB:=hid (zqf hb hbw);clear hx hie hb hbw hcell her;go_wp2_with fail;refine(HCK.out _ (jq wr _)).mono ?_;rintro e w2 ⟨rfl,hb2⟩;have hst:=(jq wr (.cells #[.int .i64 o,.int .i64 a,.int .i64 b,.int .i64 d,.int .i64 n] 41)).trans (hb2.mono (jq wr _).size);have HB2:=hid (zqf (HBB.out.1.trans (hst.mono HBB.out.1.size)) (HBB.out.2.trans (hst.mono HBB.out.2.size)));clear hb2 hst;by_cases he0:er=0
      ·have hex:zG (o,a,b,d,n)=0:=HER.out.trans he0
       have hne:qs (c.ins.take (q+1))=0:=by rw[zT HXX.out];exact jeF HIE.out hex
       have HNE:=hid hne;have e0:(er !=0)=false:=by rw[he0];rfl
       clear hne hex;go_wp2_with fail;go_roundw
       case rel=>exact⟨q+1,hlt,by go_num,HNE.out,HB2.out.1⟩
       case measure=>simp[intOf];omega
      ·have e0:(er !=0)=true:=by simp only[bne,beq_eq_false_iff_ne.2 he0];rfl
       have hex:E=er:=by
        have h1:qs c.ins=er:=(jeG HXX.out HIE.out (show zG (o,a,b,d,n)≠0 from by rw[show zG (o,a,b,d,n)=er from HER.out];exact he0)).trans HER.out;rw[<-HE.out];unfold jN;rw[if_neg HSH.out,if_pos HLE.out,h1]
       have HEX:=hid hex;clear hex;go_wp2_with fail;go_ret2;exact⟨⟨0,by rw[HEX.out];rfl,fun z=>absurd (HEX.out.symm.trans z) he0⟩,HB2.out.2⟩
     ·obtain rfl:q=ni:=by omega
      have hex:E=0/\V=zy c:=by
       have h1:c.ins.take q=c.ins:=zqp (by rw[HNI.out];exact zqg _);rw[h1] at hie;refine⟨?_,?_⟩
       ·rw[<-HE.out]
        unfold jN;rw[if_neg HSH.out,if_pos HLE.out,hie]
       ·rw[HVV.out]
        unfold zy;rw[HNL.out,HNI.out];omega
      have HEX:=hid hex;have HBB:=hid (HB0.out.trans (hb.mono HB0.out.size));clear hex hie hb;go_wp2_with fail;go_ret2;exact⟨⟨V,by rw[HEX.out.1];rfl,fun _=>HEX.out.2⟩,HBB.out⟩
end
section
variable {O:Nat->Prop} {w X:World} {g b:Nat} {C:CM} {R:Nat->Value} {vf vs vh:Value}
theorem jvd (kd n num:Int) (tx:ByteArray) (h2:kd≠2) (h3:kd≠3) (h4:kd≠4) (made:Value) (w:World):
  Calls prog 80 #[.pointer (some ⟨g,0,none⟩),.agg #[.int .i64 kd,.int .i64 n,.int .i64 num,.string tx],made] w fun e w'=>e=.returned (.int .u64 (jO num))/\Below w.heap.size w w':=by
 have b2:(kd==2)=false:=beq_eq_false_iff_ne.2 h2;have b3:(kd==3)=false:=beq_eq_false_iff_ne.2 h3;have b4:(kd==4)=false:=beq_eq_false_iff_ne.2 h4;have HI:=hid (fun Y=>qe num Y);clear h2 h3 h4;go_enter Tryz.func80,Tryz.ntmps80;go_wp2_with fail;refine(HI.out _).mono ?_;rintro e w' ⟨rfl,rfl⟩;go_wp2_with fail;go_ret;exact⟨rfl,jq w _⟩
theorem jvf (num:Int) (tx:ByteArray) {n gm nc p:Nat} (hn:n<nc) (hm:w.cell? ⟨gm,n,none⟩=some (.int .i64 (p:Int))) (hp1:1<=p) (hp2:p<=131072):
  Calls prog 80 #[.pointer (some ⟨g,0,none⟩),.agg #[.int .i64 3,.int .i64 n,.int .i64 num,.string tx],.slice (some ⟨gm,0,none⟩) nc nc] w fun e w'=>e=.returned (.int .u64 ((2*p:Nat):Int))/\Below w.heap.size w w':=by
 have HPT:=hid (fun w=>jaT p hp1 hp2 w);have hb:=jq w (.cells #[.int .i64 3,.int .i64 n,.int .i64 num,.string tx] 82);have hm2:=jm hb hm;have i0:(0:Int)<=(n:Int):=by omega
 have i1:(n:Int)<nc:=by omega
 have HB:=hid hb;clear hb hp1 hp2 hm;go_enter Tryz.func80,Tryz.ntmps80;go_wp2_with fail;refine(HPT.out _).mono ?_;rintro e w' ⟨rfl,hw'⟩;subst w';go_wp2_with fail;go_ret;exact⟨rfl,HB.out⟩
theorem jvg (a:McAt O w g C b R vf vs vh) (num:Int) (tx:ByteArray) {n:Nat} (hn:n<1024) (made:Value):
  Calls prog 80 #[.pointer (some ⟨g,0,none⟩),.agg #[.int .i64 4,.int .i64 n,.int .i64 num,.string tx],made] w fun e w'=>e=.returned (.int .u64 (C.gl n:Nat))/\Below w.heap.size w w':=by
 have hb:=jq w (.cells #[.int .i64 4,.int .i64 n,.int .i64 num,.string tx] 82);obtain⟨X,hX⟩:∃X,w.alloc (.cells #[.int .i64 4,.int .i64 (n:Int),.int .i64 num,.string tx] 82)=X:=⟨_,rfl⟩;have hblk:=zqe w (.cells #[.int .i64 4,.int .i64 (n:Int),.int .i64 num,.string tx] 82);rw[hX] at hblk hb;have r0:X.cell? ⟨w.heap.size,0,none⟩=some (.int .i64 4):=jb hblk 0;have r1:X.cell? ⟨w.heap.size,1,none⟩=some (.int .i64 (n:Int)):=jb hblk 1;have gN:=(a.below hb).globc hn;have i0:(0:Int)<=(n:Int):=by omega
 have i1:(n:Int)<1024:=by omega
 have HW:=hid hX;have HB:=hid hb;clear hb hX hblk a;go_enter Tryz.func80,Tryz.ntmps80;go_wp2_with fail;rw[HW.out];go_wp2_with fail;go_quiet (fail);go_wp2_with fail;go_ret;exact⟨rfl,Below.drewN' HB.out _⟩
theorem jve (a:McAt O w g C b R vf vs vh) (hO:∀i,w.heap.size<=i->O i) (n num:Int) (tx:ByteArray) (hs:tx.size<=131064) (hf:used C.now+(2+(tx.size+7)/8)<=C.W) {p:Nat} (hp:jx C.h C.W (used C.now)=(p:Int)) (made:Value):
  Calls prog 80 #[.pointer (some ⟨g,0,none⟩),.agg #[.int .i64 2,.int .i64 n,.int .i64 num,.string tx],made] w fun e w'=>e=.returned (.int .u64 ((2*p:Nat):Int))/\(∃R',McAt O w' g {C with now:=C.now++[zp tx.data.toList]} b R' vf vs vh)/\Fr O w w':=by
 have hb:=jq w (.cells #[.int .i64 2,.int .i64 n,.int .i64 num,.string tx] 82);obtain⟨X,hX⟩:∃X,w.alloc (.cells #[.int .i64 2,.int .i64 n,.int .i64 num,.string tx] 82)=X:=⟨_,rfl⟩;have hblk:=zqe w (.cells #[.int .i64 2,.int .i64 n,.int .i64 num,.string tx] 82);rw[hX] at hblk hb;have r0:X.cell? ⟨w.heap.size,0,none⟩=some (.int .i64 2):=jb hblk 0;have r3:X.cell? ⟨w.heap.size,3,none⟩=some (.string tx):=jb hblk 3;have aX:=a.below hb;have c0:=aX.c0;have hpos:=ZF C.h C.W (used C.now:Nat);have hF0:Fr O w X:=(Fr.of_below (O:=O) hb);have hz:=a.z.w1;have hp2:p<=131072:=by
  have:jx C.h C.W (used C.now)<=131072:=by
   unfold jx;split<;>omega
  omega
 have hOX:∀i,X.heap.size<=i->O i:=fun i hi=>hO i (zqs hb.size hi);have hpw:J8 (p:Int)=((2*p:Nat):Int):=by unfold J8;omega
 obtain⟨pp,hpp⟩:∃pp,2*p=pp:=⟨_,rfl⟩;have HPT:=hid (fun q=>(show Calls _ _ _ (X.drewN q) (fun e w'=>e=.returned (.tuple #[.int .u64 ((pp:Nat):Int),.int .i64 0])/\(∃R',McAt O w' g {C with now:=C.now++[zp tx.data.toList]} b R' vf vs vh)/\Fr O (X.drewN q) w') from
  (jn3 (aX.drewN q) tx hs hf (fun i hi=>hOX i hi) hp).mono fun e w' ⟨h1,h2,h3⟩=>⟨by rw[h1,hpw,hpp],h2,h3.mono fun i hi=>.inl (aX.om i hi)⟩))
 rw[hpp];have HW:=hid hX;have HF:=hid hF0;clear hb hX hblk a aX hpos hOX hpw hpp hp hf hs hF0 hz hp2;go_enter Tryz.func80,Tryz.ntmps80;go_wp2_with fail;rw[HW.out];go_wp2_with fail;go_region_law ((go_simp;go_at_call 116;refine(HPT.out 1).mono ?_;rintro e w5 ⟨rfl,h5,hf5⟩;have H5:=hid (zqf h5 hf5);clear h5 hf5));all_goals
  go_wp2_with fail;go_ret;exact⟨rfl,H5.out.1,(HF.out.drewN 1).trans H5.out.2 (fun i hi=>.inl hi)⟩
end
theorem jns (K:Nat) (hK:K<=65536):∃cs:Array Value,cs=zX K (fun _=>.int .i64 0)/\∀w:World,(Instr.makeSlice 70 (.int .i64 (K:Int)) (.int .i64 (K:Int))).run prog w=.ok (.slice (some ⟨w.heap.size,0,none⟩) K K) (w.alloc (.cells cs 3)):=by
 obtain⟨i0,hi,hz0,hz1,hz2⟩:=info_parts jhS;refine⟨madeCells (Value.int .i64 0).cells (K*i0.size),?_,fun w=>?_⟩
 ·rw[hz1,Nat.mul_one]
  apply Array.ext';apply List.ext_getElem
  ·simp[madeCells,zX]
  ·intro j h1 h2
   simp[madeCells,Value.cells,Nat.mod_one,zX]
 ·have hr:=run_make (P:=prog) w 70 3 i0 (.int .i64 0) Tryz.underlying70 hi hz0 .i64 .i64 K K (by omega) (Int.le_refl _) (by rw[hz2];omega) (by omega)
  simp only[Int.toNat_natCast] at hr;exact hr
def JN (C:CM) (NS:List Ob) (p:Nat):Int:=jx C.h C.W (je NS p:Nat)
def Z2 (C:CM) (NS:List Ob) (k:Nat):Nat->Value:=fun j=>if j<k then .int .i64 (JN C NS (C.now.length+j)) else .int .i64 0
theorem jmk (C:CM) (NS:List Ob) (k:Nat):zt (Z2 C NS k) k (.int .i64 (JN C NS (C.now.length+k)))=Z2 C NS (k+1):=by
 funext j;unfold zt Z2;by_cases h:j=k
 ·subst h;rw[if_pos rfl,if_pos (by omega)]
 ·rw[if_neg h]
  by_cases h2:j<k
  ·rw[if_pos h2,if_pos (by omega)]
  ·rw[if_neg h2,if_neg (by omega)]
theorem jml (C:CM) (NS:List Ob):Z2 C NS 0=fun _=>.int .i64 0:=by
 funext j;unfold Z2;rw[if_neg (by omega)]
def RowA (w:World) (gm nc:Nat) (F:Nat->Value):Prop:=w.heap[gm]?=some (.cells (zX nc F) 3 (0,0))
section
variable {O:Nat->Prop} {w w1:World} {g b gm nc:Nat} {C:CM} {R:Nat->Value} {vf vs vh:Value} {F:Nat->Value}
section
variable (h:RowA w gm nc F)
include h
theorem RowA.lt:gm<w.heap.size:=(zqa h).1
theorem RowA.cell {j:Nat} (hj:j<nc):w.cell? ⟨gm,j,none⟩=some (F j):=(jb h j).trans (jfu F hj)
theorem RowA.frozen (j:Nat):w.frozen? ⟨gm,j,none⟩=false:=jF h j
theorem RowA.set (j:Nat) (v:Value):RowA (w.setCell ⟨gm,j,none⟩ v) gm nc (zt F j v):=JS h j v
theorem RowA.below (hb:Below w.heap.size w w1):RowA w1 gm nc F:=(hb.block gm h.lt).trans h
end
theorem RowA.fr {P:Nat->Prop} (h:RowA w gm nc F) (hf:Fr P w w1) (hP:¬P gm):RowA w1 gm nc F:=(hf.block gm h.lt hP).trans h
def joZ (C:CM) (NS:List Ob) (nc t:Nat) (x:jV) (y:Nat):Prop:=(x.kd=1->(y:Int)=jO x.num)/\(x.kd=2->y=2*(JN C NS (C.now.length+nc+t)).toNat)/\(x.kd=3->y=2*(JN C NS (C.now.length+x.n.toNat)).toNat)/\(x.kd=4->y=C.gl x.n.toNat)
structure Cps (l:List jn) (cs:List RObj) (NS:List Ob) (C:CM) (A:Nat->Nat):Prop where
 len:cs.length=l.length
 k5:∀o∈cs,o.k=5
 ok:∀c∈l,c.ls.length+c.ins.length<=16384/\Okl c.ins
 at_:∀(j:Nat) (c:jn),l[j]?=some c->∃ws:List RWd,cs[j]?=some (RObj.mk 5 ws ⟨#[]⟩ c.ins)/\ws.length=c.ls.length/\∀(q:Nat) (x:jV),c.ls[q]?=some x->jJ l.length x=0/\∃r,ws[q]?=some r/\joZ C NS l.length ((ju (l.take j)).length+(jI (c.ls.take q)).length) x (jw A r)/\jw A r<18446744073709551616
structure Mk1 (O:Nat->Prop) (w:World) (g b:Nat) (C:CM) (vf vs vh:Value) (gm:Nat) (cs:List RObj) (NS:List Ob) (A:Nat->Nat) (k:Nat) (wr:World):Prop where
 m:∃R',McAt (fun i=>O i/\i≠gm) wr g {C with now:=jX C.now (cs.take k) A (fun _=>0) []} b R' vf vs vh
 row:RowA wr gm cs.length (Z2 C NS k)
 fr:Fr O w wr
end
section
variable {O:Nat->Prop} {w w1:World} {g b gm nc t:Nat} {C:CM} {R:Nat->Value} {vf vs vh:Value} {l:List jn} {cs:List RObj} {tx:List ByteArray} {A K:Nat->Nat}
theorem jvt (a:McAt O w g C b R vf vs vh) (hO:∀i,w.heap.size<=i->O i) {j n y:Nat} {o:Ob} (ho:C.now[j]?=some o) (hn:n<o.ws.length) (hy:y<18446744073709551616) {P:Int} (hP:jx C.h C.W (je C.now j:Nat)=P) (hP2:P<=9223372036854775807):
  Calls prog 29 #[.pointer (some ⟨b,0,none⟩),.int .i64 P,.int .i64 n,.int .u64 (y:Int)] w fun e w'=>e=.returned (.int .i64 0)/\McAt O w' g {C with now:=setF C.now j n y} b R vf vs vh/\Fr (Own b R) w w':=by
 have hi:jl C.now C.h C.W P=some j:=by rw[<-hP];exact J4 (zqb ho).1
 refine(Qf a.m a.z P n y hP2 hi ho hn).mono ?_;rintro e w' ⟨rfl,hm,hf⟩;exact⟨rfl,a.mem hf hm (jaA a.z ho hy) (fun i hi=>.inl hi) hO,hf⟩
theorem jo0 {x:ByteArray} (ht:tx[t]?=some x) {base:List Ob}:je (zj base cs tx) (base.length+cs.length+t)+(2+(x.size+7)/8)<=used (zj base cs tx):=by
 have e:(zj base cs tx)[base.length+cs.length+t]?=some (jA (fun _=>0) (txO x)):=by
  unfold zj;rw[zqn (by omega),List.map_append,zqn (by simp;omega),List.map_map,List.getElem?_map,List.length_map,show base.length+cs.length+t-base.length-cs.length=t by omega,ht];rfl
 have h1:=jcp e;have h2:=jbi (zj base cs tx) (p:=base.length+cs.length+t+1);have h3:=Qb (txO x) (fun _=>0);have h4:(txO x).words=2+(x.size+7)/8:=if_pos rfl;omega
theorem jcE {NS:List Ob} (hW:used NS<=C.W) (h:C.W<=65536) (p:Nat):1<=JN C NS p/\JN C NS p<=131073:=by
 have:=jbi NS (p:=p);unfold JN jx;split<;>omega
theorem jmj {NS:List Ob} (hW:used NS<=C.W) (h:C.W<=65536) {p:Nat} (hp:p<NS.length):JN C NS p<=131072:=by
 have h1:=jcp (zqh hp);have h2:=jbi NS (p:=p+1);unfold JN jx;split<;>omega
theorem jsm (a:McAt O w g {C with now:=jX C.now cs A K (tx.take t)} b R vf vs vh) (hO:∀i,w.heap.size<=i->O i) (k5:∀o∈cs,o.k=5) (hrow:RowA w gm nc (Z2 C (zj C.now cs tx) nc)) (hnc:cs.length=nc) (hf:used (zj C.now cs tx)<=C.W) {kd n num:Int} {s:ByteArray} (hE:jJ nc ⟨kd,n,num,s⟩=0) (htx:kd=2->tx[t]?=some s) {y:Nat} (hy:joZ C (zj C.now cs tx) nc t ⟨kd,n,num,s⟩ y):
  Calls prog 80 #[.pointer (some ⟨g,0,none⟩),.agg #[.int .i64 kd,.int .i64 n,.int .i64 num,.string s],.slice (some ⟨gm,0,none⟩) nc nc] w fun e w'=>e=.returned (.int .u64 (y:Int))/\(∃R',McAt O w' g {C with now:=jX C.now cs A K (tx.take (t+txN ⟨kd,n,num,s⟩))} b R' vf vs vh)/\Fr O w w':=by
 have hw:C.W<=65536:=a.z.w1;have q0:∀w':World,Below w.heap.size w w'->kd≠2->(∃R',McAt O w' g {C with now:=jX C.now cs A K (tx.take (t+txN ⟨kd,n,num,s⟩))} b R' vf vs vh)/\Fr O w w':=fun w' hb h2=>by
  have e:txN ⟨kd,n,num,s⟩=0:=if_neg h2;rw[e,Nat.add_zero];exact⟨⟨R,a.below hb⟩,Fr.of_below (O:=O) hb⟩
 unfold jJ at hE;simp only at hE;by_cases k1:kd=1
 ·subst k1
  refine(jvd 1 n num s (by decide) (by decide) (by decide) _ w).mono ?_;rintro e w' ⟨rfl,hb⟩;exact⟨by rw[hy.1 rfl],q0 w' hb (by decide)⟩
 by_cases k2:kd=2
 ·subst k2
  rw[if_neg (by decide),if_pos rfl] at hE;have hs:s.size<=131064:=by
   split at hE
   ·cases hE
   ·omega
  have ht:=htx rfl;have htl:=(zqb ht).1;have hfit:=jo0 (cs:=cs) ht (base:=C.now);have hus:used (jX C.now cs A K (tx.take t))=je (zj C.now cs tx) (C.now.length+cs.length+t):=jsz k5 (by omega);have had:=jcE hf hw (C.now.length+nc+t);refine(jve a hO n num s hs (by show used (jX C.now cs A K (tx.take t))+_<=C.W;rw[hus];omega) (p:=(JN C (zj C.now cs tx) (C.now.length+nc+t)).toNat) (by
   show jx C.h C.W (used (jX C.now cs A K (tx.take t)):Nat)=_;rw[hus,hnc];show JN C (zj C.now cs tx) (C.now.length+nc+t)=_;omega) _).mono ?_
  rintro e w' ⟨rfl,⟨R',h1⟩,h2⟩;refine⟨by rw[hy.2.1 rfl],⟨R',?_⟩,h2⟩;have e1:txN ⟨2,n,num,s⟩=1:=if_pos rfl;have h1:McAt O w' g {C with now:=jX C.now cs A K (tx.take t)++[zp s.data.toList]} b R' vf vs vh:=h1;rw[jlk,<-zT ht] at h1;rw[e1];exact h1
 by_cases k3:kd=3
 ·subst k3
  rw[if_neg (by decide),if_neg (by decide),if_pos rfl] at hE;have hn:¬(n<0\/(nc:Int)<=n):=fun q=>by rw[if_pos q] at hE;cases hE
  obtain⟨m,rfl⟩:∃m:Nat,n=m:=⟨n.toNat,by omega⟩;have had:=jcE hf hw (C.now.length+m);have hb2:JN C (zj C.now cs tx) (C.now.length+m)<=131072:=jmj hf hw (by rw[jdb];omega);refine(jvf num s (n:=m) (nc:=nc) (p:=(JN C (zj C.now cs tx) (C.now.length+m)).toNat) (by omega) (by
   rw[hrow.cell (j:=m) (by omega)];unfold Z2;rw[if_pos (by omega)];congr 2;omega) (by omega) (by omega)).mono ?_
  rintro e w' ⟨rfl,hb⟩;exact⟨by rw[hy.2.2.1 rfl];rfl,q0 w' hb (by decide)⟩
 ·rw[if_neg k1,if_neg k2,if_neg k3] at hE
  have k4:kd=4:=Classical.byContradiction fun q=>by rw[if_neg q] at hE;cases hE
  subst k4;rw[if_pos rfl] at hE;have hn:¬(n<0\/1024<=n):=fun q=>by rw[if_pos q] at hE;cases hE
  obtain⟨m,rfl⟩:∃m:Nat,n=m:=⟨n.toNat,by omega⟩;refine(jvg a num s (n:=m) (by omega) _).mono ?_;rintro e w' ⟨rfl,hb⟩;refine⟨?_,q0 w' hb (by decide)⟩;rw[hy.2.2.2 rfl];rfl
end
def jkP (l:List jn) (j:Nat):Nat:=((l[j]?).map fun c=>c.ls.length+c.ins.length).getD 0
def KK (l:List jn) (i k:Nat):Nat->Nat:=fun j=>if j<i then jkP l j else if j=i then k else 0
theorem jrn (l:List jn) (i k:Nat):KK l i k i=k:=by unfold KK;rw[if_neg (by omega),if_pos rfl]
theorem ju1 (l:List jn) (i k:Nat):jG (KK l i k) i (k+1)=KK l i (k+1):=by
 funext j;unfold jG KK;by_cases h:j=i
 ·subst h;rw[if_pos rfl,if_neg (by omega),if_pos rfl]
 ·rw[if_neg h]
  by_cases h2:j<i
  ·rw[if_pos h2,if_pos h2]
  ·rw[if_neg h2,if_neg h2,if_neg h,if_neg h]
theorem jrF {l:List jn} {i:Nat} {c:jn} (h:l[i]?=some c):KK l i (c.ls.length+c.ins.length)=KK l (i+1) 0:=by
 funext j;unfold KK;by_cases e:j=i
 ·subst e
  rw[if_neg (by omega),if_pos rfl,if_pos (by omega)];unfold jkP;rw[h];rfl
 ·by_cases h2:j<i
  ·rw[if_pos h2,if_pos (by omega)]
  ·rw[if_neg h2,if_neg e,if_neg (by omega)]
   split<;>rfl
theorem jrG (l:List jn):KK l 0 0=fun _=>0:=by
 funext j;unfold KK;rw[if_neg (by omega)];split<;>rfl
theorem jbU {l:List jn} {i:Nat} {c:jn} (h:l[i]?=some c):ju (l.take (i+1))=ju (l.take i)++jI c.ls:=by
 rw[zT h];unfold ju;rw[List.flatMap_append,List.flatMap_cons,List.flatMap_nil,List.append_nil]
theorem jq5 {ls:List jV} {q:Nat} {x:jV} (h:ls[q]?=some x):(jI (ls.take (q+1))).length=(jI (ls.take q)).length+txN x:=by
 rw[zT h,jei,zqm];unfold txN;split<;>rfl
theorem juR {ls:List jV} {q:Nat} {x:jV} (h:ls[q]?=some x) (h2:x.kd=2):(jI ls)[(jI (ls.take q)).length]?=some x.tx:=by
 have e:ls=ls.take q++x::ls.drop (q+1):=by
  obtain⟨h1,h3⟩:=zqb h
  conv=>lhs;rw[<-List.take_append_drop q ls,List.drop_eq_getElem_cons h1,h3]
 have hap:∀a b:List jV,jI (a++b)=jI a++jI b:=fun a b=>by
  induction a with
  |nil=>rfl
  |cons y t ih=>
   show(if y.kd=2 then y.tx::jI (t++b) else jI (t++b))=(if y.kd=2 then y.tx::jI t else jI t)++jI b;rw[ih];split<;>rfl
 have e2:jI ls=jI (ls.take q)++x.tx::jI (ls.drop (q+1)):=by
  conv=>lhs;rw[e,hap]
  congr 1;show(if x.kd=2 then _ else _)=_;rw[if_pos h2]
 rw[e2,zqn (zqg _),Nat.sub_self];rfl
theorem jho {l:List jn} {i q:Nat} {c:jn} {x:jV} (hc:l[i]?=some c) (hx:c.ls[q]?=some x) (h2:x.kd=2):(ju l)[(ju (l.take i)).length+(jI (c.ls.take q)).length]?=some x.tx:=by
 have e:ju l=ju (l.take i)++(jI c.ls++ju (l.drop (i+1))):=by
  obtain⟨h1,h3⟩:=zqb hc
  conv=>lhs;rw[<-List.take_append_drop i l,List.drop_eq_getElem_cons h1,h3]
  unfold ju;rw[List.flatMap_append,List.flatMap_cons]
 have h:=juR hx h2;rw[e,zqn (by omega),Nat.add_sub_cancel_left,zqo (zqb h).1,h]
theorem jhp {l:List jn} {i:Nat}:(ju (l.take i)).length<=(ju l).length:=by
 have e:ju l=ju (l.take i)++ju (l.drop i):=by
  conv=>lhs;rw[<-List.take_append_drop i l]
  unfold ju;rw[List.flatMap_append]
 rw[e,zqm];omega
theorem juT {l:List jV} {i:Nat}:(jI (l.take i)).length<=(jI l).length:=by
 induction l generalizing i with
 |nil=>simp[jI]
 |cons y t ih=>
  cases i with
  |zero=>simp[jI]
  |succ i=>
   show(if y.kd=2 then y.tx::jI (t.take i) else jI (t.take i)).length<=(if y.kd=2 then y.tx::jI t else jI t).length;have:=ih (i:=i);split
   ·simp only[List.length_cons];omega
   ·exact this
section
variable {O:Nat->Prop} {w w1:World} {g b gm nc t:Nat} {C:CM} {R:Nat->Value} {vf vs vh:Value} {l:List jn} {cs:List RObj} {tx:List ByteArray} {A K:Nat->Nat}
structure Mk2 (O:Nat->Prop) (Y:World) (g b:Nat) (C:CM) (vf vs vh:Value) (cs:List RObj) (tx:List ByteArray) (A K:Nat->Nat) (t:Nat) (wr:World):Prop where
 m:∃R',McAt O wr g {C with now:=jX C.now cs A K (tx.take t)} b R' vf vs vh
 fr:Fr O Y wr
theorem jgk {i q y:Nat} {ws:List RWd} {ins:List I5} (a:McAt O w g {C with now:=jX C.now cs A (KK l i q) (tx.take t)} b R vf vs vh) (hO:∀i,w.heap.size<=i->O i) (k5:∀o∈cs,o.k=5) (ht:t<=tx.length) (hf:used (zj C.now cs tx)<=C.W) (hcs:cs[i]?=some (RObj.mk 5 ws ⟨#[]⟩ ins)) (hx:(jA A (RObj.mk 5 ws ⟨#[]⟩ ins)).ws[q]?=some y) (hy:y<18446744073709551616) {P:Int} (hP:JN C (zj C.now cs tx) (C.now.length+i)=P):
  Calls prog 29 #[.pointer (some ⟨b,0,none⟩),.int .i64 P,.int .i64 q,.int .u64 (y:Int)] w fun e w'=>e=.returned (.int .i64 0)/\McAt O w' g {C with now:=jX C.now cs A (KK l i (q+1)) (tx.take t)} b R vf vs vh/\Fr (Own b R) w w':=by
 have hi:=(zqb hcs).1;have hq:=(zqb hx).1;rw[Qw (show(RObj.mk 5 ws ⟨#[]⟩ ins).k=5 from rfl)] at hq;have hw:C.W<=65536:=a.z.w1;have hb:=jcE (C:=C) hf hw (C.now.length+i);have h1:=jeU (base:=C.now) (A:=A) (K:=KK l i q) (tx:=tx.take t) hcs;have h2:=jnF (base:=C.now) (A:=A) (K:=KK l i q) (tx:=tx.take t) hcs rfl (by rw[jrn];exact hx);rw[jrn,ju1] at h2;refine(jvt a hO (j:=C.now.length+i) (o:=qM A (RObj.mk 5 ws ⟨#[]⟩ ins) (KK l i q i)) h1 (by rw[jil rfl];exact hq) hy (by
  show jx C.h C.W (je (jX C.now cs A (KK l i q) (tx.take t)) (C.now.length+i):Nat)=P;rw[jh7 k5 ht (by omega)];exact hP) (by omega)).mono ?_
 rintro e w' ⟨rfl,h3,h4⟩;have h3:McAt O w' g {C with now:=setF (jX C.now cs A (KK l i q) (tx.take t)) (C.now.length+i) q y} b R vf vs vh:=h3;rw[h2] at h3;exact⟨rfl,h3,h4⟩
end
