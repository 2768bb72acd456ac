/- A part of the proof of MachineMoves. Conditions: those that each theorem names. -/
import Derived.Test.YtklcmdoadmcpfaaGreatDoorQ38
import Derived.DataShut
set_option maxRecDepth 100000
set_option maxHeartbeats 400000000
namespace Go.Proofs.YtklcmdoadmcpfaaGreatDoor
open Go Go.RowKit IsaL
open Go.Lib(hid)
open Go.Proofs.Tryz(prog)
section
variable {O:Nat->Prop} {w:World} {v:Value} {l:List jn}
theorem jlG (hc:CodesAt O w v l) (hl:l.length<=1000000) (hsz:∀c∈l,c.ls.length<=1000000/\c.ins.length<=1000000/\∀x∈c.ls,x.tx.size<=1000000000):
  Calls prog 44 #[v] w fun e w'=>(e=.returned (.tuple #[.int .i64 (if zu l=0 then((jg l:Nat):Int) else 0),.int .i64 (zu l)]))/\Below w.heap.size w w':=by
 obtain⟨nc,hnc⟩:∃nc,l.length=nc:=⟨_,rfl⟩;obtain⟨A1,k1,rfl,l1⟩:=hc;rw[hnc] at hl ⊢;have HC:=hid l1;have HN:=hid hnc;have HSZ:=hid hsz;have HB:=hid (fun(n:Int) (h:zu l=n) (h0:n≠0)=>show Ending.returned (.tuple #[.int .i64 0,.int .i64 n])=.returned (.tuple #[.int .i64 (if zu l=0 then((jg l:Nat):Int) else 0),.int .i64 (zu l)]) from by rw[if_neg (by rw[h];exact h0),h]);have HBZ:=hid (fun(h:zu l=0)=>show Ending.returned (.tuple #[.int .i64 ((jg l:Nat):Int),.int .i64 0])=.returned (.tuple #[.int .i64 (if zu l=0 then((jg l:Nat):Int) else 0),.int .i64 (zu l)]) from by rw[if_pos h,h]);obtain⟨EE,hEE⟩:∃EE,Ending.returned (.tuple #[.int .i64 (if zu l=0 then((jg l:Nat):Int) else 0),.int .i64 (zu l)])=EE:=⟨_,rfl⟩;rw[hEE] at HB HBZ ⊢;clear l1 hnc hsz hEE;by_cases hlong:4096<nc
 ·have d0:decide ((4096:Int)<(nc:Int))=true:=zqr (by omega)
  go_enter Tryz.func44,Tryz.ntmps44;go_wp2_with fail;go_ret2;exact⟨HB.out 3 (by unfold zu;rw[if_pos (by rw[HN.out];exact hlong)]) (by decide),Below.refl _ _⟩
 have d0:decide ((4096:Int)<(nc:Int))=false:=zqq (by omega);by_cases hzero:nc=0
 ·have d1:((nc:Int)==0)=true:=by rw[hzero];rfl
  go_enter Tryz.func44,Tryz.ntmps44;go_wp2_with fail;go_ret2;exact⟨HB.out 1 (by unfold zu;rw[if_neg (by rw[HN.out];exact hlong),if_pos (by rw[HN.out];exact hzero)]) (by decide),Below.refl _ _⟩
 have d1:((nc:Int)==0)=false:=beq_eq_false_iff_ne.2 (by omega);have hall:zu l=zv nc l:=by unfold zu;rw[if_neg (by rw[HN.out];exact hlong),if_neg (by rw[HN.out];exact hzero),HN.out]
 have HALL:=hid hall;have hn4:nc<=4096:=by omega
 clear hall hlong;go_enter Tryz.func44,Tryz.ntmps44;go_wp2_with fail;go_loopw [4,5] (fun nd i wr=>∃k:Nat,k<=nc/\i=.int .i64 k/\nd=.int .i64 ((jg (l.take k):Nat):Int)/\zv nc (l.take k)=0/\Below w.heap.size w wr) (fun _ i _=>nc-(intOf i).toNat)
 case atStart=>exact⟨0,by omega,rfl,rfl,rfl,Below.refl _ _⟩
 case round=>
  obtain⟨k,hk,rfl,rfl,hE,hb⟩:=hrel;have hWle:=jcL hE;have hWle:jg (l.take k)<=400000000*4096:=zqs hWle (Nat.mul_le_mul_left _ (by rw[List.length_take];omega));by_cases hlt:k<nc
  ·obtain⟨c,hx⟩:∃c,l[k]?=some c:=⟨_,zqh (by have:=HN.out;omega)⟩
   obtain⟨B,off,lv,iv,rfl,hB1,hB2,d2,d3,⟨Al,cl,rfl,hLL⟩,⟨Ai,ci,rfl,hII⟩⟩:=HC.out k c hx;have d2:=jm hb d2;have d3:=jm hb d3;have hn1:(k:Int)<nc:=by omega
   obtain⟨q1,q2,q3⟩:=HSZ.out c (zqc hx);obtain⟨nl,hnl⟩:∃nl,c.ls.length=nl:=⟨_,rfl⟩;obtain⟨ni,hni⟩:∃ni,c.ins.length=ni:=⟨_,rfl⟩;rw[hnl] at d2 q1;rw[hni] at d3 q2;have hs1:IntKind.i64.wrap ((nl:Int)+(ni:Int))=(nl:Int)+(ni:Int):=jv (by omega) (by omega);obtain⟨WW,hWW⟩:∃WW,jg (l.take k)=WW:=⟨_,rfl⟩;have hwb:WW<=1700000000000:=by omega
   have hs2:IntKind.i64.wrap ((WW:Int)+1)=(WW:Int)+1:=jv (by omega) (by omega);have hs3:IntKind.i64.wrap ((WW:Int)+1+(nl:Int))=(WW:Int)+1+(nl:Int):=jv (by omega) (by omega);have hs4:IntKind.i64.wrap ((WW:Int)+1+(nl:Int)+(ni:Int))=(WW:Int)+1+(nl:Int)+(ni:Int):=jv (by omega) (by omega);have HGO:=hid (fun(n:Int) (h:jN nc c=n) (h0:n≠0)=>HB.out n (HALL.out.trans ((jdx hx hE (by rw[h];exact h0)).trans h)) h0);have HNX:=hid (fun(h:jN nc c=0)=>show zv nc (l.take (k+1))=0/\jg (l.take (k+1))=WW+zy c from by rw[zT hx];exact⟨jdw hE h,by rw[jdy,hWW]⟩);have HCC:=hid (zqf hnl (zqf hni q3));have hb2:=jq wr (.cells #[.slice Al nl cl,.slice Ai ni ci] 39);have hn2:=zqe wr (.cells #[.slice Al nl cl,.slice Ai ni ci] 39);obtain⟨X,hX⟩:∃X,wr.alloc (.cells #[.slice Al nl cl,.slice Ai ni ci] 39)=X:=⟨_,rfl⟩;obtain⟨t6,ht6⟩:∃t,wr.heap.size=t:=⟨_,rfl⟩;rw[hX] at hn2 hb2;have hbX:=hb.trans (hb2.mono hb.size);rw[ht6] at hn2;have x0:X.cell? ⟨t6,0,none⟩=some (.slice Al nl cl):=jb hn2 0;have x1:X.cell? ⟨t6,1,none⟩=some (.slice Ai ni ci):=jb hn2 1;have HX:=hid (zqf hX (zqf ht6 (zqf hbX (zqf x0 x1))));have HLL:=hid (zqf hLL hII);rw[hWW];clear hX ht6 hn2 hb2 hbX hLL hII hnl hni hx hE hb q3 hWle hWW hlt hk;by_cases hsh:16384<nl+ni
   ·have e0:decide ((16384:Int)<(nl:Int)+(ni:Int))=true:=zqr (by omega)
    go_wp2_with fail;go_ret2;exact⟨HGO.out 3 (by unfold jN;rw[if_pos (by rw[HCC.out.1,HCC.out.2.1];exact hsh)]) (by decide),by rw[HX.out.1];exact HX.out.2.2.1⟩
   ·have e0:decide ((16384:Int)<(nl:Int)+(ni:Int))=false:=zqq (by omega)
    have hce:jN nc c=if zL nc c.ls=0 then qs c.ins else zL nc c.ls:=by unfold jN;rw[if_neg (by rw[HCC.out.1,HCC.out.2.1];exact hsh)]
    have HCE:=hid hce;have hnl:nl<=16384:=by omega
    clear hce hsh;go_wp2_with fail;rw[HX.out.1,HX.out.2.1];go_loopw [4,7] (fun nd i wx=>∃(q:Nat) (V:Int),q<=nl/\i=.int .i64 q/\nd=.int .i64 V/\zL nc (c.ls.take q)=0/\V=(WW:Int)+1+(nl:Int)+(ni:Int)+(jU (c.ls.take q):Int)/\Below X.heap.size X wx) (fun _ i _=>nl-(intOf i).toNat)
    case atStart=>exact⟨0,_,Nat.zero_le _,rfl,rfl,rfl,by show _=_+((0:Nat):Int);omega,Below.refl _ _⟩
    case round=>
     obtain⟨q,V,hq,rfl,rfl,hle,hV,hbw⟩:=hrel;have hwl:jU (c.ls.take q)<=20000*q:=zqs (jdX hle) (Nat.mul_le_mul_left _ (by rw[List.length_take];omega));have y0:=jm hbw HX.out.2.2.2.1;have y1:=jm hbw HX.out.2.2.2.2;have HBW:=hid (zqf hbw (HX.out.2.2.1.trans (hbw.mono HX.out.2.2.1.size)));by_cases hlt2:q<nl
     ·obtain⟨x,hx⟩:∃x,c.ls[q]?=some x:=⟨_,zqh (by have:=HCC.out.1;omega)⟩
      obtain⟨LB,loff,rfl,hLB1,hLB2,hcell⟩:=HLL.out.1 q x hx;have g0:=jm HBW.out.2 (hcell 0 (by omega));have g1:=jm HBW.out.2 (hcell 1 (by omega));have g2:=jm HBW.out.2 (hcell 2 (by omega));have g3:=jm HBW.out.2 (hcell 3 (by omega));rw[Nat.add_zero] at g0;have htx:=HCC.out.2.2 _ (zqc hx);have HGL:=hid (fun(n:Int) (h:jJ nc x=n) (h0:n≠0)=>HGO.out n (by rw[HCE.out,jeM hx hle (by rw[h];exact h0),if_neg (by rw[h];exact h0),h]) h0);have HNL:=hid (fun(h:jJ nc x=0)=>show zL nc (c.ls.take (q+1))=0/\jU (c.ls.take (q+1))=jU (c.ls.take q)+qz x from by rw[zT hx];exact⟨jeL hle h,jeN _ _⟩);obtain⟨kd,n,num,tx⟩:=x;replace g0:wr.cell? ⟨LB,loff+q*4,none⟩=some (.int .i64 kd):=g0;replace g1:wr.cell? ⟨LB,loff+q*4+1,none⟩=some (.int .i64 n):=g1;replace g2:wr.cell? ⟨LB,loff+q*4+2,none⟩=some (.int .i64 num):=g2;replace g3:wr.cell? ⟨LB,loff+q*4+3,none⟩=some (.string tx):=g3;replace htx:tx.size<=1000000000:=htx;have hn2:(q:Int)<nl:=by omega
      have hVb:0<=V/\V<=1800000000000:=by omega
      have hbz:=jq wr (.cells #[.int .i64 kd,.int .i64 n,.int .i64 num,.string tx] 82);have HBZ2:=hid (zqf (HBW.out.1.trans (hbz.mono HBW.out.1.size)) (HBW.out.2.trans (hbz.mono HBW.out.2.size)));have HVV:=hid hV;clear hx hle hbw hcell hV hwl hbz;by_cases k1:kd=1
      ·subst k1
       obtain⟨e1,e2⟩:=HNL.out (by simp[jJ]);have e2:jU (c.ls.take (q+1))=jU (c.ls.take q):=by rw[e2];simp[qz]
       have HEE:=hid (zqf e1 e2);clear e1 e2;go_wp2_with fail;go_roundw
       case rel=>exact⟨q+1,V,hlt2,by go_num,rfl,HEE.out.1,by rw[HEE.out.2];exact HVV.out,HBZ2.out.1⟩
       case measure=>simp[intOf];omega
      by_cases k2:kd=2
      ·subst k2
       by_cases hs:131064<tx.size
       ·have d2:decide ((131064:Int)<(tx.size:Int))=true:=zqr (by omega)
        have d3:decide (131064<tx.size)=true:=zqr hs;have HE3:=hid (HGL.out 3 (by simp[jJ,hs]) (by decide));go_wp2_with fail;go_ret2;exact⟨HE3.out,HBZ2.out.2⟩
       ·have d2:decide ((131064:Int)<(tx.size:Int))=false:=zqq (by omega)
        have d3:decide (131064<tx.size)=false:=zqq hs;obtain⟨e1,e2⟩:=HNL.out (by simp[jJ,hs]);obtain⟨tw,htw⟩:∃tw,(tx.size+7)/8=tw:=⟨_,rfl⟩;have e2:jU (c.ls.take (q+1))=jU (c.ls.take q)+(2+tw):=by rw[e2];simp[qz,htw]
        have w1:IntKind.i64.wrap (V+2)=V+2:=jv (by omega) (by omega);have w2:IntKind.i64.wrap ((tx.size:Int)+7)=(tx.size:Int)+7:=jv (by omega) (by omega);have w3:((tx.size:Int)+7).tdiv 8=(tw:Int):=by rw[Int.tdiv_eq_ediv_of_nonneg (by omega)];omega
        have w4:IntKind.i64.wrap (tw:Int)=(tw:Int):=jv (by omega) (by omega);have w5:IntKind.i64.wrap (V+2+(tw:Int))=V+2+(tw:Int):=jv (by omega) (by omega);have HEE:=hid (zqf e1 e2);clear e1 e2 htw;go_wp2_with fail;go_roundw
        case rel=>exact⟨q+1,_,hlt2,by go_num,rfl,HEE.out.1,by rw[HEE.out.2,HVV.out];omega,HBZ2.out.1⟩
        case measure=>simp[intOf];omega
      by_cases k3:kd=3
      ·subst k3
       by_cases hs:n<0\/(nc:Int)<=n
       ·have HE3:=hid (HGL.out 60 (by simp[jJ,hs]) (by decide))
        have hcase:(decide (n<0)=true)\/(decide (n<0)=false/\decide ((nc:Int)<=n)=true):=by
         by_cases q:n<0
         ·exact .inl (zqr q)
         ·exact .inr ⟨zqq q,zqr (by omega)⟩
        clear hs;rcases hcase with d2|⟨d2,d3⟩;all_goals
         go_wp2_with fail;go_ret2;exact⟨HE3.out,HBZ2.out.2⟩
       ·have d2:decide (n<0)=false:=zqq (by omega)
        have d3:decide ((nc:Int)<=n)=false:=zqq (by omega);obtain⟨e1,e2⟩:=HNL.out (by simp[jJ,hs]);have e2:jU (c.ls.take (q+1))=jU (c.ls.take q):=by rw[e2];simp[qz]
        have HEE:=hid (zqf e1 e2);clear e1 e2 hs;go_wp2_with fail;go_roundw
        case rel=>exact⟨q+1,V,hlt2,by go_num,rfl,HEE.out.1,by rw[HEE.out.2];exact HVV.out,HBZ2.out.1⟩
        case measure=>simp[intOf];omega
      by_cases k4:kd=4
      ·subst k4
       by_cases hs:n<0\/1024<=n
       ·have HE3:=hid (HGL.out 60 (by simp[jJ,hs]) (by decide))
        have hcase:(decide (n<0)=true)\/(decide (n<0)=false/\decide ((1024:Int)<=n)=true):=by
         by_cases q:n<0
         ·exact .inl (zqr q)
         ·exact .inr ⟨zqq q,zqr (by omega)⟩
        clear hs;rcases hcase with d2|⟨d2,d3⟩;all_goals
         go_wp2_with fail;go_ret2;exact⟨HE3.out,HBZ2.out.2⟩
       ·have d2:decide (n<0)=false:=zqq (by omega)
        have d3:decide ((1024:Int)<=n)=false:=zqq (by omega);obtain⟨e1,e2⟩:=HNL.out (by simp[jJ,hs]);have e2:jU (c.ls.take (q+1))=jU (c.ls.take q):=by rw[e2];simp[qz]
        have HEE:=hid (zqf e1 e2);clear e1 e2 hs;go_wp2_with fail;go_roundw
        case rel=>exact⟨q+1,V,hlt2,by go_num,rfl,HEE.out.1,by rw[HEE.out.2];exact HVV.out,HBZ2.out.1⟩
        case measure=>simp[intOf];omega
      ·have HE3:=hid (HGL.out 1 (by simp[jJ,k1,k2,k3,k4]) (by decide))
       have hcase:(decide (kd<1)=true)\/(decide (kd<1)=false/\decide ((4:Int)<kd)=true):=by
        by_cases q:kd<1
        ·exact .inl (zqr q)
        ·exact .inr ⟨zqq q,zqr (by omega)⟩
       clear k1 k2 k3 k4;rcases hcase with d2|⟨d2,d3⟩;all_goals
        go_wp2_with fail;go_ret2;exact⟨HE3.out,HBZ2.out.2⟩
     ·obtain rfl:q=nl:=by omega
      have hall:c.ls.take q=c.ls:=zqp (by rw[HCC.out.1];exact zqg _);rw[hall] at hle hV hwl;have hVb:0<=V/\V<=1800000000000:=by omega
      have HLE:=hid hle;have HVV:=hid hV;clear hle hV hwl hbw hall;go_wp2_with fail;go_loopw [9] (fun i wx=>∃p:Nat,p<=ni/\i=.int .i64 p/\qs (c.ins.take p)=0/\Below X.heap.size X wx) (fun i _=>ni-(intOf i).toNat)
      case atStart=>exact⟨0,Nat.zero_le _,rfl,rfl,HBW.out.1⟩
      case round=>
       obtain⟨p,hp,rfl,hie,hbw⟩:=hrel;have y1:=jm hbw HX.out.2.2.2.2;by_cases hlt3:p<ni
       ·obtain⟨x,hx⟩:∃x,c.ins[p]?=some x:=⟨_,zqh (by have:=HCC.out.2.1;omega)⟩
        obtain⟨IB,ioff,rfl,hIB1,_,hcell⟩:=HLL.out.2 p x hx;have hbw2:=HX.out.2.2.1.trans (hbw.mono HX.out.2.2.1.size);have g0:=jm hbw2 (hcell 0 (by omega));have g1:=jm hbw2 (hcell 1 (by omega));have g2:=jm hbw2 (hcell 2 (by omega));have g3:=jm hbw2 (hcell 3 (by omega));have g4:=jm hbw2 (hcell 4 (by omega));rw[Nat.add_zero] at g0;obtain⟨xo,xa,xb,xc,xn⟩:=x;replace g0:wr.cell? ⟨IB,ioff+p*5,none⟩=some (.int .i64 xo):=g0;replace g1:wr.cell? ⟨IB,ioff+p*5+1,none⟩=some (.int .i64 xa):=g1;replace g2:wr.cell? ⟨IB,ioff+p*5+2,none⟩=some (.int .i64 xb):=g2;replace g3:wr.cell? ⟨IB,ioff+p*5+3,none⟩=some (.int .i64 xc):=g3;replace g4:wr.cell? ⟨IB,ioff+p*5+4,none⟩=some (.int .i64 xn):=g4;have hn3:(p:Int)<ni:=by omega
        obtain⟨er,her⟩:∃er,zq xo xa xb xc xn=er:=⟨_,rfl⟩;have HCK:=hid (fun Y=>show Calls prog 83 #[.agg #[.int .i64 xo,.int .i64 xa,.int .i64 xb,.int .i64 xc,.int .i64 xn]] Y (fun e w'=>e=.returned (.int .i64 er)/\Below Y.heap.size Y w') from her▸jiu xo xa xb xc xn Y);have HIE:=hid (zqf hie (zqf hx her));have HB3:=hid (zqf hbw hbw2);clear hx hie hbw hbw2 hcell her;go_wp2_with fail;refine(HCK.out _).mono ?_;rintro e w2 ⟨rfl,hb2⟩;have HB4:=hid (zqf (HB3.out.1.trans (hb2.mono HB3.out.1.size)) (HB3.out.2.trans (hb2.mono HB3.out.2.size)));clear hb2;by_cases he0:er=0
        ·have hne:qs (c.ins.take (p+1))=0:=by rw[zT HIE.out.2.1];exact jeF HIE.out.1 (HIE.out.2.2.trans he0)
         have HNE:=hid hne;have e0:(er !=0)=false:=by rw[he0];rfl
         clear hne;go_wp2_with fail;go_roundw
         case rel=>exact⟨p+1,hlt3,by go_num,HNE.out,HB4.out.1⟩
         case measure=>simp[intOf];omega
        ·have e0:(er !=0)=true:=by simp only[bne,beq_eq_false_iff_ne.2 he0];rfl
         have HEX:=hid (HGO.out er (by
          rw[HCE.out,if_pos HLE.out];exact(jeG HIE.out.2.1 HIE.out.1 (show zG (xo,xa,xb,xc,xn)≠0 from by rw[show zG (xo,xa,xb,xc,xn)=er from HIE.out.2.2];exact he0)).trans HIE.out.2.2) he0)
         go_wp2_with fail;go_ret2;exact⟨HEX.out,HB4.out.2⟩
       ·obtain rfl:p=ni:=by omega
        have hia:c.ins.take p=c.ins:=zqp (by rw[HCC.out.2.1];exact zqg _);rw[hia] at hie;have hnx:=HNX.out (by rw[HCE.out,if_pos HLE.out];exact hie);have hcw:V=((jg (l.take (k+1)):Nat):Int):=by
         rw[hnx.2,HVV.out];unfold zy;rw[HCC.out.1,HCC.out.2.1];omega
        have hbw2:=HX.out.2.2.1.trans (hbw.mono HX.out.2.2.1.size);have HFIN:=hid (zqf hnx.1 (zqf hcw hbw2));clear hie hbw hnx hcw hbw2 hia;go_wp2_with fail;go_roundw
        case rel=>exact⟨k+1,by omega,by go_num,by rw[<-HFIN.out.2.1],HFIN.out.1,HFIN.out.2.2⟩
        case measure=>simp[intOf];omega
  ·obtain rfl:k=nc:=by omega
   have htk:l.take k=l:=zqp (by rw[HN.out];exact zqg _);rw[htk] at hE hWle ⊢;have hfin:=zqf (HBZ.out (HALL.out.trans hE)) hb;have HFIN:=hid hfin;clear hfin hE hb;go_wp2_with fail;go_ret2;exact HFIN.out
end
section
open Go Go.ChangeShapes Go.WideShapes Go.ChangeMaps Go.RowKit Go.Deep IsaL
theorem Qg (b o i:Nat):(⟨b,o,none⟩:Addr).add i=⟨b,o+i,none⟩:=by unfold Addr.add;split<;>simp_all
theorem jjf {w:World} {a:Addr} {v:Value} (h:w.cell? a=some v):a=⟨a.block,a.off,none⟩:=by
 have:=World.cell?_spot h;obtain⟨b,o,s⟩:=a;simp only at this;subst this;rfl
theorem jb7 {α:Type} {p:Nat->α->Prop}:∀{n:Nat},(∀j,j<n->∃t,p j t)->∃ts:List α,ts.length=n/\∀j t,ts[j]?=some t->p j t
 |0,_=>⟨[],rfl,fun j t h=>by simp at h⟩
 |n+1,h=>by
  obtain⟨ts,hl,hp⟩:=jb7 (p:=p) (n:=n) fun j hj=>h j (by omega);obtain⟨t,ht⟩:=h n (Nat.lt_succ_self n);refine⟨ts++[t],by simp[hl],fun j x hx=>?_⟩;by_cases q:j<ts.length
  ·rw[zqo q] at hx;exact hp j x hx
  ·have:j=n:=by
    have:=(zqb hx).1;simp at this;omega
   subst this;rw[zqn (by omega)] at hx;simp[hl] at hx;subst hx;exact ht
theorem jfV:prog.cellsOf 82=4:=by kernel_rfl
theorem jks:prog.cellsOf 36=1:=by kernel_rfl
theorem jfU:prog.cellsOf 41=5:=by kernel_rfl
theorem jkr:prog.cellsOf 37=1:=by kernel_rfl
theorem jep:prog.cellsOf 39=2:=by kernel_rfl
theorem Zt:prog.cellsOf 3=1:=by kernel_rfl
theorem jmB:prog.cellsOf 2=1:=by kernel_rfl
theorem jmD:prog.cellsOf 9=1:=by kernel_rfl
theorem jmw:prog.bytesOf 82=40:=by kernel_rfl
theorem jmv:prog.bytesOf 41=40:=by kernel_rfl
theorem jkm:prog.bytesOf 39=48:=by kernel_rfl
def JM {H:Type} (t:TypeId) (d:DataW H):Prop:=∀n∈d.weights prog t,n<=reachBytes
theorem jbS {H:Type} {e:TypeId} {d:DataW H} {n:Nat} (hn:n∈d.weights prog e):∀{l:List (DataW H)},d∈l->n∈DataW.weightsAll prog e l
 |y::r,h=>by
  unfold DataW.weightsAll;rcases List.mem_cons.1 h with q|q
  ·exact List.mem_append.2 (.inl (by rw[<-q];exact hn))
  ·exact List.mem_append.2 (.inr (jbS hn q))
section
variable {H:Type} {enc:TypeId×Value->H} {W:World} {held:Bool}
theorem jc4 {e:TypeId} {t:TypeId} {n:Nat} {u:Value} {x:DataW H×List MemPlace} (k:Nat) (hk:0<k) (hc:prog.cellsOf e=k) (ht:prog.underlying t=some (.slice e)) (h:DataW.trod enc prog W 0 (fun _=>true) held n t [u]=some x) (hr:JM t x.1):
  u=.slice none 0 0\/∃(a:Addr) (len cap m:Nat),n=m+1/\u=.slice (some a) len cap/\len*prog.bytesOf e<=reachBytes∧
   ∀i,i<len->∃cs y,a=⟨a.block,a.off,none⟩/\a.block<W.heap.size/\(∀q,q<k->W.cell? ⟨a.block,a.off+i*k+q,none⟩=cs[q]?)/\DataW.trod enc prog W 0 (fun _=>true) held m e cs=some y/\JM e y.1:=by
 rcases DataW.trod_slice ht h with⟨h0,_⟩|⟨a,len,cap,elems,rest,m,hn,hcs,hx,_,hl,hm,hel,hat,_,_⟩
 ·left;simpa using h0
 ·right
  simp only[List.cons.injEq,and_true] at hcs;subst hx;have hr2:∀n,(n=(elems.length+rest.length)*prog.bytesOf e\/n∈DataW.weightsAll prog e (elems.map (·.1)))->n<=reachBytes:=fun n hn=>by
   refine hr n ?_;simp only[DataW.weights,ht,List.mem_cons,List.mem_append,List.length_map];rcases hn with q|q
   ·exact .inl q
   ·exact .inr (.inl q)
  refine⟨a,len,cap,m,hn,hcs,?_,fun i hi=>?_⟩
  ·refine zqs (Nat.mul_le_mul_right _ ?_) (hr2 _ (.inl rfl))
   omega
  ·have h1:=hat i hi
   rw[zqh (by omega),hc] at h1;obtain⟨cs,h2,h3⟩:=Option.bind_eq_some_iff.1 h1;obtain⟨_,_,h4⟩:=World.cells?_some h2;have h6:cs.length=k:=(World.cells?_some h2).2.1;have hp:a=⟨a.block,a.off,none⟩:=by
    have g1:=hat 0 (by omega);rw[zqh (by omega),hc] at g1;obtain⟨cs0,g2,_⟩:=Option.bind_eq_some_iff.1 g1;obtain⟨_,g6,g4⟩:=World.cells?_some g2;have g5:=g4 0 hk;rw[zqh (by omega),show(a.add (0*k)).add 0=a by simp[Addr.add]] at g5;exact jjf g5
   have key:∀q,q<k->W.cell? ⟨a.block,a.off+i*k+q,none⟩=cs[q]?:=fun q hq=>by
    have:=h4 q hq;rw[hp,Qg,Qg] at this;exact this
   exact⟨cs,_,hp,World.block_lt_of_cell? W ⟨a.block,a.off+i*k+0,none⟩ ((key 0 hk).trans (zqh (by omega))),key,h3,fun n hn=>hr2 n (.inr (jbS hn (List.mem_map.2 ⟨_,List.getElem_mem (by omega),rfl⟩)))⟩
theorem jfE {t:TypeId} {fs:Array Field} {xs:List (DataW H×List MemPlace)} (ht:prog.underlying t=some (.struct fs)) (hr:JM t (.agg (xs.map (·.1)))) {i:Nat} {f:Field} {x:DataW H×List MemPlace} (hf:fs[i]?=some f) (hx:xs[i]?=some x):JM f.type x.1:=fun n hn=>by
 refine hr n ?_;simp only[DataW.weights,ht];exact DataW.weights_mem_each (j:=i) (by rw[List.getElem?_map,Array.getElem?_toList,hf];rfl) (by rw[List.getElem?_map,hx];rfl) n hn
def jhh (y:jV):Prop:=y.tx.size<=reachBytes/\ -9223372036854775808<=y.num/\y.num<=9223372036854775807
theorem jnn {n:Nat} {cs:List Value} {x:DataW H×List MemPlace} (h:DataW.trod enc prog W 0 (fun _=>true) held n 82 cs=some x) (hr:JM 82 x.1):∃y:jV,(∀q,q<4->cs[q]?=some (jft y q))/\jhh y:=by
 obtain⟨xs,n',_,hx,hlen,hyl,hf⟩:=DataW.trod_struct Tryz.underlying82 h;subst hx;rw[jfV] at hlen;match cs,hlen with
 |[c0,c1,c2,c3],_=>
  match xs,hyl with
  |[y0,y1,y2,y3],_=>
   have g0:DataW.trod enc prog W 0 (fun _=>true) held n' 3 (([c0,c1,c2,c3].drop 0).take (prog.cellsOf 3))=some y0:=hf 0 _ rfl;rw[Zt] at g0;have g1:DataW.trod enc prog W 0 (fun _=>true) held n' 3 (([c0,c1,c2,c3].drop 1).take (prog.cellsOf 3))=some y1:=hf 1 _ rfl;rw[Zt] at g1;have g2:DataW.trod enc prog W 0 (fun _=>true) held n' 2 (([c0,c1,c2,c3].drop 2).take (prog.cellsOf 2))=some y2:=hf 2 _ rfl;rw[jmB] at g2;have g3:DataW.trod enc prog W 0 (fun _=>true) held n' 9 (([c0,c1,c2,c3].drop 3).take (prog.cellsOf 9))=some y3:=hf 3 _ rfl;rw[jmD] at g3;obtain⟨z0,e0,_,_⟩:=DataW.trod_int Tryz.underlying3 (show DataW.trod enc prog W 0 (fun _=>true) held n' 3 [c0]=some y0 from g0);obtain⟨z1,e1,_,_⟩:=DataW.trod_int Tryz.underlying3 (show DataW.trod enc prog W 0 (fun _=>true) held n' 3 [c1]=some y1 from g1);obtain⟨z2,e2,_,w2⟩:=DataW.trod_int Tryz.underlying2 (show DataW.trod enc prog W 0 (fun _=>true) held n' 2 [c2]=some y2 from g2);obtain⟨z3,e3,e4,_⟩:=DataW.trod_string Tryz.underlying9 (show DataW.trod enc prog W 0 (fun _=>true) held n' 9 [c3]=some y3 from g3);have r3:JM 9 y3.1:=jfE Tryz.underlying82 (xs:=[y0,y1,y2,y3]) hr (i:=3) rfl rfl;have b2: -9223372036854775808<=z2/\z2<=9223372036854775807:=by simpa[Lit.wf,IntKind.min,IntKind.max,IntKind.signed,IntKind.bits] using w2
   simp only[List.cons.injEq,and_true] at e0 e1 e2 e3;subst e0 e1 e2 e3;refine⟨⟨z0,z1,z2,z3⟩,fun q hq=>?_,?_,b2⟩
   ·match q,hq with
    |0,_=>rfl
    |1,_=>rfl
    |2,_=>rfl
    |3,_=>rfl
   ·rw[e4] at r3
    have:=r3 z3.data.toList.length (by simp[DataW.weights]);rw[Array.length_toList] at this;exact this
theorem jnd {n:Nat} {cs:List Value} {x:DataW H×List MemPlace} (h:DataW.trod enc prog W 0 (fun _=>true) held n 41 cs=some x):∃y:I5,∀q,q<5->cs[q]?=some (jfo y q):=by
 obtain⟨xs,n',_,hx,hlen,hyl,hf⟩:=DataW.trod_struct Tryz.underlying41 h;rw[jfU] at hlen;match cs,hlen with
 |[c0,c1,c2,c3,c4],_=>
  match xs,hyl with
  |[y0,y1,y2,y3,y4],_=>
   have g0:DataW.trod enc prog W 0 (fun _=>true) held n' 3 (([c0,c1,c2,c3,c4].drop 0).take (prog.cellsOf 3))=some y0:=hf 0 _ rfl;rw[Zt] at g0;have g1:DataW.trod enc prog W 0 (fun _=>true) held n' 3 (([c0,c1,c2,c3,c4].drop 1).take (prog.cellsOf 3))=some y1:=hf 1 _ rfl;rw[Zt] at g1;have g2:DataW.trod enc prog W 0 (fun _=>true) held n' 3 (([c0,c1,c2,c3,c4].drop 2).take (prog.cellsOf 3))=some y2:=hf 2 _ rfl;rw[Zt] at g2;have g3:DataW.trod enc prog W 0 (fun _=>true) held n' 3 (([c0,c1,c2,c3,c4].drop 3).take (prog.cellsOf 3))=some y3:=hf 3 _ rfl;rw[Zt] at g3;have g4:DataW.trod enc prog W 0 (fun _=>true) held n' 3 (([c0,c1,c2,c3,c4].drop 4).take (prog.cellsOf 3))=some y4:=hf 4 _ rfl;rw[Zt] at g4;obtain⟨z0,e0,_,_⟩:=DataW.trod_int Tryz.underlying3 (show DataW.trod enc prog W 0 (fun _=>true) held n' 3 [c0]=some y0 from g0);obtain⟨z1,e1,_,_⟩:=DataW.trod_int Tryz.underlying3 (show DataW.trod enc prog W 0 (fun _=>true) held n' 3 [c1]=some y1 from g1);obtain⟨z2,e2,_,_⟩:=DataW.trod_int Tryz.underlying3 (show DataW.trod enc prog W 0 (fun _=>true) held n' 3 [c2]=some y2 from g2);obtain⟨z3,e3,_,_⟩:=DataW.trod_int Tryz.underlying3 (show DataW.trod enc prog W 0 (fun _=>true) held n' 3 [c3]=some y3 from g3);obtain⟨z4,e4,_,_⟩:=DataW.trod_int Tryz.underlying3 (show DataW.trod enc prog W 0 (fun _=>true) held n' 3 [c4]=some y4 from g4);simp only[List.cons.injEq,and_true] at e0 e1 e2 e3 e4;subst e0 e1 e2 e3 e4;refine⟨(z0,z1,z2,z3,z4),fun q hq=>?_⟩;match q,hq with
   |0,_=>rfl
   |1,_=>rfl
   |2,_=>rfl
   |3,_=>rfl
   |4,_=>rfl
def New (W:World):Nat->Prop:=fun i=>W.heap.size<=i
theorem jle {n:Nat} {u:Value} {x:DataW H×List MemPlace} (h:DataW.trod enc prog W 0 (fun _=>true) held n 36 [u]=some x) (hr:JM 36 x.1):∃l:List jV,LitsAt (New W) W u l/\l.length<=reachBytes/\∀y∈l,jhh y:=by
 rcases jc4 4 (by decide) jfV Tryz.underlying36 h hr with rfl|⟨a,len,cap,m,_,rfl,h1,h2⟩
 ·exact⟨[],⟨none,0,rfl,fun j x hx=>by cases hx⟩,Nat.zero_le _,fun y hy=>by cases hy⟩
 ·rw[jmw] at h1
  obtain⟨l,hl,hp⟩:=jb7 (p:=fun j (t:jV)=>a=⟨a.block,a.off,none⟩/\a.block<W.heap.size/\(∀q,q<4->W.cell? ⟨a.block,a.off+j*4+q,none⟩=some (jft t q))/\jhh t) (n:=len) fun j hj=>by
   obtain⟨cs,y,e1,e2,e3,e4,e5⟩:=h2 j hj;obtain⟨t,f1,f2⟩:=jnn e4 e5;exact⟨t,e1,e2,fun q hq=>(e3 q hq).trans (f1 q hq),f2⟩
  subst hl;refine⟨l,⟨some a,cap,rfl,fun j x hx=>?_⟩,by omega,fun y hy=>?_⟩
  ·obtain⟨e1,e2,e3,_⟩:=hp j x hx
   exact⟨a.block,a.off,congrArg some e1,e2,fun q=>by unfold New at q;omega,e3⟩
  ·obtain⟨j,hj⟩:=List.getElem?_of_mem hy
   exact(hp j y hj).2.2.2
theorem jk5 {n:Nat} {u:Value} {x:DataW H×List MemPlace} (h:DataW.trod enc prog W 0 (fun _=>true) held n 37 [u]=some x) (hr:JM 37 x.1):∃l:List I5,InsAt (New W) W u l/\l.length<=reachBytes:=by
 rcases jc4 5 (by decide) jfU Tryz.underlying37 h hr with rfl|⟨a,len,cap,m,_,rfl,h1,h2⟩
 ·exact⟨[],⟨none,0,rfl,fun j x hx=>by cases hx⟩,Nat.zero_le _⟩
 ·rw[jmv] at h1
  obtain⟨l,hl,hp⟩:=jb7 (p:=fun j (t:I5)=>a=⟨a.block,a.off,none⟩/\a.block<W.heap.size/\(∀q,q<5->W.cell? ⟨a.block,a.off+j*5+q,none⟩=some (jfo t q))) (n:=len) fun j hj=>by
   obtain⟨cs,y,e1,e2,e3,e4,_⟩:=h2 j hj;obtain⟨t,f1⟩:=jnd e4;exact⟨t,e1,e2,fun q hq=>(e3 q hq).trans (f1 q hq)⟩
  subst hl;refine⟨l,⟨some a,cap,rfl,fun j x hx=>?_⟩,by omega⟩;obtain⟨e1,e2,e3⟩:=hp j x hx;exact⟨a.block,a.off,congrArg some e1,e2,fun q=>by unfold New at q;omega,e3⟩
def Great (l:List jn):Prop:=l.length<=reachBytes/\∀c∈l,c.ls.length<=reachBytes/\c.ins.length<=reachBytes/\∀x∈c.ls,jhh x
theorem jlx {v:Value} {d:DataW H} {p:List MemPlace} {n:Nat} (h:DataW.trod enc prog W 0 (fun _=>true) held n 22 [v]=some (d,p)) (hr:JM 22 d):∃l,CodesAt (New W) W v l/\Great l:=by
 rcases jc4 2 (by decide) jep Tryz.underlying22 h hr with rfl|⟨a,len,cap,m,_,rfl,h1,h2⟩
 ·exact⟨[],⟨none,0,rfl,fun j x hx=>by cases hx⟩,Nat.zero_le _,fun y hy=>by cases hy⟩
 ·rw[jkm] at h1
  obtain⟨l,hl,hp⟩:=jb7 (p:=fun j (c:jn)=>∃lv iv,a=⟨a.block,a.off,none⟩/\a.block<W.heap.size/\W.cell? ⟨a.block,a.off+j*2,none⟩=some lv/\W.cell? ⟨a.block,a.off+j*2+1,none⟩=some iv/\LitsAt (New W) W lv c.ls/\InsAt (New W) W iv c.ins/\c.ls.length<=reachBytes/\c.ins.length<=reachBytes/\∀x∈c.ls,jhh x) (n:=len) fun j hj=>by
   obtain⟨cs,y,e1,e2,e3,e4,e5⟩:=h2 j hj;obtain⟨xs,n',_,hx,hlen,hyl,hf⟩:=DataW.trod_struct Tryz.underlying39 e4;rw[jep] at hlen;rw[hx] at e5;match cs,hlen with
   |[c0,c1],_=>
    match xs,hyl with
    |[y0,y1],_=>
     have g0:DataW.trod enc prog W 0 (fun _=>true) held n' 36 (([c0,c1].drop 0).take (prog.cellsOf 36))=some y0:=hf 0 _ rfl;rw[jks] at g0;have g1:DataW.trod enc prog W 0 (fun _=>true) held n' 37 (([c0,c1].drop 1).take (prog.cellsOf 37))=some y1:=hf 1 _ rfl;rw[jkr] at g1;have r0:JM 36 y0.1:=jfE Tryz.underlying39 (xs:=[y0,y1]) e5 (i:=0) rfl rfl;have r1:JM 37 y1.1:=jfE Tryz.underlying39 (xs:=[y0,y1]) e5 (i:=1) rfl rfl;obtain⟨ls,q1,q2,q3⟩:=jle (show DataW.trod enc prog W 0 (fun _=>true) held n' 36 [c0]=some y0 from g0) r0;obtain⟨is,q4,q5⟩:=jk5 (show DataW.trod enc prog W 0 (fun _=>true) held n' 37 [c1]=some y1 from g1) r1;exact⟨⟨ls,is⟩,c0,c1,e1,e2,e3 0 (by decide),e3 1 (by decide),q1,q4,q2,q5,q3⟩
  subst hl;refine⟨l,⟨some a,cap,rfl,fun j x hx=>?_⟩,by omega,fun c hc=>?_⟩
  ·obtain⟨lv,iv,e1,e2,e3,e4,e5,e6,_⟩:=hp j x hx
   exact⟨a.block,a.off,lv,iv,congrArg some e1,e2,fun q=>by unfold New at q;omega,e3,e4,e5,e6⟩
  ·obtain⟨j,hj⟩:=List.getElem?_of_mem hc
   obtain⟨lv,iv,_,_,_,_,_,_,e7,e8,e9⟩:=hp j c hj;exact⟨e7,e8,e9⟩
end
end
