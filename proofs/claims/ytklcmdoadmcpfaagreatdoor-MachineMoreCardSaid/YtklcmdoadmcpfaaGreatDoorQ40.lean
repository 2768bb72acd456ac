/- A part of the proof of MachineMoves. Conditions: those that each theorem names. -/
import Derived.Test.YtklcmdoadmcpfaaGreatDoorQ39
set_option maxRecDepth 100000
set_option maxHeartbeats 400000000
namespace Go.Proofs.YtklcmdoadmcpfaaGreatDoor
open Go Go.RowKit IsaL
open Go.Lib(hid)
open Go.Proofs.Tryz(prog)
theorem jfX {O:Nat->Prop} {w:World} {A:Option Addr} {k1:Nat} {l:List jn} (h:CodesAt O w (.slice A l.length k1) l):∀j x,l[j]?=some x->∃B off lv iv,A=some ⟨B,off,none⟩/\B<w.heap.size/\¬O B/\w.cell? ⟨B,off+j*2,none⟩=some lv/\w.cell? ⟨B,off+j*2+1,none⟩=some iv/\LitsAt O w lv x.ls/\InsAt O w iv x.ins:=by
 obtain⟨A',c',e,k⟩:=h;cases e
 exact k
theorem jcJ {m:Nat}:∀{l:List jn},zv m l=0->∀c∈l,jN m c=0
 |y::t,h,c,hc=>by
  have h0:(if jN m y=0 then zv m t else jN m y)=0:=h;by_cases e:jN m y=0
  ·rw[if_pos e] at h0
   rcases List.mem_cons.1 hc with q|q
   ·rw[q];exact e
   ·exact jcJ h0 c q
  ·rw[if_neg e] at h0;exact absurd h0 e
theorem jhY {m:Nat}:∀{l:List jV},zL m l=0->∀x∈l,jJ m x=0
 |y::t,h,c,hc=>by
  have h0:(if jJ m y=0 then zL m t else jJ m y)=0:=h;by_cases e:jJ m y=0
  ·rw[if_pos e] at h0
   rcases List.mem_cons.1 hc with q|q
   ·rw[q];exact e
   ·exact jhY h0 c q
  ·rw[if_neg e] at h0;exact absurd h0 e
section
variable {O P:Nat->Prop} {w w1:World} {g:Nat} {M:RM} {L:Lay}
theorem jsZ (id:jfc M) (a:RAt O w g {{qX M with value:=.I 0} with entry:=.I 0} L):RAt O w g {M with entry:=.I 0,value:=.I 0} L:=
 a.as (fun j hj=>by
  unfold rF;by_cases h0:j=0
  ·rw[if_pos h0,if_pos h0];rfl
  by_cases h1:j=1
  ·rw[if_neg h0,if_neg h0,if_pos h1,if_pos h1];rfl
  by_cases h2:j=2
  ·rw[if_neg h0,if_neg h0,if_neg h1,if_neg h1,if_pos h2,if_pos h2]
  by_cases h3:j=3
  ·rw[if_neg h0,if_neg h0,if_neg h1,if_neg h1,if_neg h2,if_neg h2,if_pos h3,if_pos h3];rfl
  by_cases h4:j<52
  ·rw[if_neg h0,if_neg h0,if_neg h1,if_neg h1,if_neg h2,if_neg h2,if_neg h3,if_neg h3,if_pos h4,if_pos h4]
   show wc (M.rg ((j-4)/3)) _=wc (.I 0) _;rw[id.rg _ (by omega)]
  ·rw[if_neg h0,if_neg h0,if_neg h1,if_neg h1,if_neg h2,if_neg h2,if_neg h3,if_neg h3,if_neg h4,if_neg h4]
   rfl) rfl id.fr id.ha (fun _ _=>rfl)
theorem jtb (M:RM):Jc M M.used []=M:=by
 unfold Jc;rw[List.append_nil];show({M with objs:=M.objs,used:=M.used+0}:RM)=M;rw[Int.add_zero]
def jrq (O:Nat->Prop) (w:World) (g:Nat) (N:RM) (L:Lay) (n:Int):Prop:=∀Y,Fr O w Y->RAt O Y g N L->Calls prog 46 #[.pointer (some ⟨g,0,none⟩),.int .i64 n] Y fun e w'=>e=.returned (.bool (jz N n).2)/\RAt O w' g (jz N n).1 L/\Fr O Y w'
theorem jon {v:Value} {l:List jn} (a:RAt O w g M L) (id:jfc M) (hO:∀i,w.heap.size<=i->O i) (hc:CodesAt O w v l) (hl:l.length<=1000000) (hsz:∀c∈l,c.ls.length<=1000000/\c.ins.length<=1000000/\∀x∈c.ls,x.tx.size<=1000000000/\ -9223372036854775808<=x.num/\x.num<=9223372036854775807)
  (hroom:jrq O w g {M with entry:=.I 0,value:=.I 0} L.idle (jg l))
  (hB:(jz {M with entry:=.I 0,value:=.I 0} (jg l)).2=true->(jz {M with entry:=.I 0,value:=.I 0} (jg l)).1.objs.length<=500000/\0<=(jz {M with entry:=.I 0,value:=.I 0} (jg l)).1.used/\(jz {M with entry:=.I 0,value:=.I 0} (jg l)).1.used<=500000/\jg l<=500000):
  Calls prog 17 #[.pointer (some ⟨g,0,none⟩),v] w fun e w'=>e=.returned (.int .i64 (Z9 M l).2)/\(∃L',RAt O w' g (Z9 M l).1 L')/\Fr O w w':=by
 obtain⟨nc,hnc⟩:∃nc,l.length=nc:=⟨_,rfl⟩;have HCK:=hid (jlG hc hl (fun c hc=>⟨(hsz c hc).1,(hsz c hc).2.1,fun x hx=>((hsz c hc).2.2 x hx).1⟩));have HCC:=hid hc;obtain⟨A1,k1,rfl,l1⟩:=hc;rw[hnc] at hl HCK ⊢;have HN:=hid hnc;have HSZ:=hid hsz;have HA:=hid (zqf a (zqf id hO));have HRM:=hid (zqf hroom hB);obtain⟨NR,hNR⟩:∃NR,Z9 M l=NR:=⟨_,rfl⟩;have HNR:=hid hNR;rw[hNR];clear a id hO hroom hB hsz l1 hnc hNR;by_cases hE:zu l=0
 case neg=>
  have h2:NR.2=zu l:=by rw[<-HNR.out,jbH hE]
  have h1:NR.1=M:=by rw[<-HNR.out,jbH hE]
  obtain⟨er,her⟩:∃er,zu l=er:=⟨_,rfl⟩;rw[if_neg hE,her] at HCK;rw[h2,h1,her];rw[her] at hE;have e0:(er !=0)=true:=by simp only[bne,beq_eq_false_iff_ne.2 hE];rfl
  clear her h1 h2 hE;go_enter Tryz.func17,Tryz.ntmps17;go_wp2_with fail;refine HCK.out.mono ?_;rintro e w1 ⟨rfl,hb1⟩;have HF:=hid (zqf (HA.out.1.below hb1) (Fr.of_below (O:=O) hb1));clear hb1;go_wp2_with fail;go_ret;exact⟨rfl,⟨L,HF.out.1⟩,HF.out.2⟩
 case pos=>
  rw[if_pos hE,hE] at HCK;have HE:=hid hE;obtain⟨CW,hCW⟩:∃CW,jg l=CW:=⟨_,rfl⟩;rw[hCW] at HCK HRM;have HCW:=hid hCW;clear hE hCW;go_enter Tryz.func17,Tryz.ntmps17;go_wp2_with fail;refine HCK.out.mono ?_;rintro e w1 ⟨rfl,hb1⟩;have HID:=hid (jom (HA.out.1.below hb1));have HB1:=hid hb1;clear hb1;go_wp2_with fail;refine HID.out.mono ?_;rintro e w2 ⟨⟨v2,rfl⟩,a2,f2⟩;have c55:=a2.cell (j:=55) (by decide);have c56:=a2.cell (j:=56) (by decide);have c57:=a2.cell (j:=57) (by decide);have z55:=a2.fz 55;have z56:=a2.fz 56;have z57:=a2.fz 57;have aN:=jsZ HA.out.2.1 (a2.entry (.I 0));have hf2:Fr O w w2:=(Fr.of_below (O:=O) HB1.out).trans f2 (fun i hi=>.inl (by rw[show i=g from hi];exact a2.Og));have hf3:Fr O w (Zb w2 g 55 (.I 0)):=hf2.trans (zZ w2 g 55 (.I 0)) (fun i hi=>.inl (by rw[show i=g from hi];exact a2.Og));obtain⟨X3,hX3⟩:∃X3,Zb w2 g 55 (.I 0)=X3:=⟨_,rfl⟩;rw[hX3] at aN hf3;have HX3:=hid (show((w2.setCell ⟨g,55,none⟩ (.bool false)).setCell ⟨g,56,none⟩ (.int .i64 0)).setCell ⟨g,57,none⟩ (.int .i64 0)=X3 from hX3);have HR:=hid (HRM.out.1 X3 hf3 aN);have HF3:=hid hf3;have HB:=hid HRM.out.2;clear aN hf3 hX3 hf2 f2 a2;go_wp2_with fail;rw[HX3.out];refine HR.out.mono ?_;rintro e w4 ⟨rfl,a4,f4⟩;obtain⟨M2,hM2⟩:∃M2,(jz {M with entry:=.I 0,value:=.I 0} (CW:Int)).1=M2:=⟨_,rfl⟩;obtain⟨ok,hok⟩:∃ok,(jz {M with entry:=.I 0,value:=.I 0} (CW:Int)).2=ok:=⟨_,rfl⟩;rw[hM2,hok] at HB;rw[hM2] at a4;rw[hok];have hf4:=HF3.out.trans f4 (fun i hi=>.inl hi);cases ok with
  |false=>
   have hnr:NR=(M2,21):=by rw[<-HNR.out,jb6 HE.out (by rw[HCW.out];exact hok),HCW.out,hM2]
   have HF:=hid (zqf a4 hf4);clear a4 f4 hf4 hM2 hok;subst hnr;go_wp2_with fail;go_ret;exact⟨rfl,⟨_,HF.out.1⟩,HF.out.2⟩
  |true=>
   have hnr:NR=(zo M2 l,0):=by rw[<-HNR.out,jaN HE.out (by rw[HCW.out];exact hok),HCW.out,hM2]
   subst hnr;obtain⟨hb1,hb2,hb3,hb4⟩:=HB.out rfl;have c2:=a4.cell (j:=2) (by decide);obtain⟨aO,kO,eO,_⟩:=jH a4.oo;obtain⟨m0,hm0⟩:∃m0,M2.objs.length=m0:=⟨_,rfl⟩;rw[show rF M2 L.idle 2=L.idle.ov from rfl,eO,hm0] at c2;obtain⟨gl,hgl⟩:∃gl,M2.gl=gl:=⟨_,rfl⟩;obtain⟨u0,hu0⟩:∃u0,M2.used=u0:=⟨_,rfl⟩;have HM:=hid (zqf hm0 (zqf hgl hu0));have HBB:=hid (show m0<=500000/\0<=u0/\u0<=500000/\jg l<=500000 from⟨by rw[<-hm0];exact hb1,by rw[<-hu0];exact hb2,by rw[<-hu0];exact hb3,by rw[HCW.out];exact hb4⟩);have H4:=hid (zqf a4 hf4);obtain⟨hp1,hp2,hp3⟩:=jap HE.out;rw[HN.out] at hp1 hp2 hp3;have HP:=hid hp3;clear a4 f4 hf4 hM2 hok hb1 hb2 hb3 hb4 HB HNR eO hm0 hgl hu0 hp3 HR HID HF3 HX3;go_wp2_with fail;go_loopw [8] (fun i wr=>∃k:Nat,k<=nc/\i=.int .i64 k/\(∃Lk,RAt O wr g (Jc M2 u0 ((l.take k).map qv)) Lk)/\Fr O w wr) (fun i _=>nc-(intOf i).toNat)
   case atStart=>
    refine⟨0,Nat.zero_le _,rfl,⟨L.idle,?_⟩,H4.out.2⟩;rw[List.take_zero,List.map_nil,<-HM.out.2.2,jtb];exact H4.out.1
   case round=>
    obtain⟨k,hk,rfl,⟨Lk,ak⟩,hfk⟩:=hrel;by_cases hlt:k<nc
    ·obtain⟨c,hx⟩:∃c,l[k]?=some c:=⟨_,zqh (by have:=HN.out;omega)⟩
     obtain⟨B,off,lv,iv,rfl,hB1,hB2,d2,d3,hLL,hII⟩:=jfX (HCC.out.fr hfk (fun i _ h=>h)) k c hx;obtain⟨Al,cl,rfl,_⟩:=hLL;have hII2:=hII;obtain⟨Ai,ci,rfl,_⟩:=hII2;have hce:=(Zh (jcJ HP.out c (zqc hx))).1;obtain⟨nl,hnl⟩:∃nl,c.ls.length=nl:=⟨_,rfl⟩;obtain⟨ni,hni⟩:∃ni,c.ins.length=ni:=⟨_,rfl⟩;rw[hnl,hni] at hce;obtain⟨cs,hcs,hmk⟩:=jjI nl (by omega);have hbA:=jq wr (.cells cs 72);have hnA:=zqe wr (.cells cs 72);have hmo:(Jc M2 u0 ((l.take k).map qv)).objs.length=m0+k:=by
      show(M2.objs++_).length=_;rw[zqm,HM.out.1,List.length_map,List.length_take,HN.out,Nat.min_eq_left (by omega)]
     have aT:=ak.retag (fun q=>if q=wr.heap.size then 5+2*(m0+k) else Lk.T q) (fun q hq=>if_neg (by omega));have aX:=aT.below hbA;have hsum:=jo6 l k;have hB4:=HBB.out;have hY0:Below (wr.alloc (.cells cs 72)).heap.size (wr.alloc (.cells cs 72)) (wr.alloc (.cells cs 72)).drew:=(Below.refl _ _).drew;have hP:=jiI (aX.below hY0) (qv c) (A1:=some ⟨wr.heap.size,0,none⟩) (k1:=nl) (A2:=Ai) (k2:=ci)
      (by
       rw[show(qv c).ws=List.replicate nl (.I 0) from by rw[<-hnl];rfl,List.length_replicate];exact jd (Fr.of_below (O:=fun _=>False) hY0) (jnY (by rw[hnA,hcs]) (by omega)) (fun _ _=>id))
      (fun q e=>by
       obtain rfl:wr.heap.size=q:=zqd e;refine⟨HA.out.2.2 _ hfk.size,?_⟩;rw[hmo];exact if_pos rfl)
      ((hII.below hbA).below hY0) (fun i hi=>HA.out.2.2 i (by have:=hfk.size;have:=hY0.size;have:=hbA.size;omega))
      (by show(List.replicate c.ls.length (RWd.I 0)).length<=_;rw[List.length_replicate];omega) (by show c.ins.length<=_;omega) (by show(0:Nat)<=_;omega) (by show _<=u0+((((l.take k).map qv).map RObj.words).sum:Nat);omega) (by show u0+((((l.take k).map qv).map RObj.words).sum:Nat)<=_;omega) (by rw[hmo];omega)
     have e1:(qv c).ws.length=nl:=by rw[<-hnl];exact List.length_replicate ..
     have e2:(qv c).ins.length=ni:=hni;rw[e1,e2] at hP;have hP2:Calls prog 47 #[.pointer (some ⟨g,0,none⟩),.agg #[.int .i64 5,.slice (some ⟨wr.heap.size,0,none⟩) nl nl,.string ⟨#[]⟩,.slice Ai ni ci]] (wr.alloc (.cells cs 72)).drew fun e w'=>e=.returned (wV (.P (m0+k)))/\(∃L',RAt O w' g (Jc M2 u0 ((l.take (k+1)).map qv)) L')/\Fr O w w':=hP.mono fun e w' ⟨h1,⟨L',h2,_⟩,h3⟩=>⟨by rw[h1,hmo],⟨L',by
       rw[jj1] at h2;rw[zT hx,List.map_append];exact h2⟩,(hfk.trans (Fr.of_below (O:=O) (hbA.trans (hY0.mono hbA.size))) (fun i hi=>.inl hi)).trans h3 (fun i hi=>by
       rcases hi with q|q
       ·exact .inl (by rw[q];exact ak.Og)
       ·exact .inl (ak.Oo i q).1)⟩
     rw[hnl] at d2;rw[hni] at d3;have HP2:=hid hP2;have HX:=hid hx;have b1:(k:Int)<nc:=by omega
     have hmk2:=hmk wr.drew;have d3b:=jm hbA d3;clear hP hP2 hY0 hsum hB4 aX aT hmo hnA hbA hcs hce hII hx ak hfk e1 e2 hB1 hB2 hmk hnl hni;go_wp2_with fail;go_region_law ((go_simp;go_at_call 47;refine(HP2.out).mono ?_;rintro e w' ⟨rfl,⟨L',aL⟩,hF⟩));all_goals
      have HQ:=hid (zqf aL hF);clear aL hF;go_wp2_with fail;go_roundw
      case rel=>exact⟨k+1,hlt,by go_num,⟨_,HQ.out.1⟩,HQ.out.2⟩
      case measure=>simp[intOf];omega
    ·
     obtain rfl:nc=k:=by omega
     have ak2:RAt O wr g (Jc M2 u0 (jaf m0 nc gl l 0)) Lk:=by
      rw[jut];rw[zqp (by rw[HN.out];exact zqg _)] at ak;exact ak
     have H5:=hid (zqf ak2 hfk);clear ak ak2 hfk;go_wp2_with fail;go_loopw [9] (fun i wx=>∃i2:Nat,i2<=nc/\i=.int .i64 i2/\(∃Lk,RAt O wx g (Jc M2 u0 (jaf m0 nc gl l i2)) Lk)/\Fr O w wx) (fun i _=>nc-(intOf i).toNat)
     case atStart=>exact⟨0,Nat.zero_le _,rfl,⟨_,H5.out.1⟩,H5.out.2⟩
     case round=>
      obtain⟨i2,hi2,rfl,⟨Li,ai⟩,hfi⟩:=hrel;by_cases hlt:i2<nc
      ·obtain⟨c,hx⟩:∃c,l[i2]?=some c:=⟨_,zqh (by have:=HN.out;omega)⟩
       obtain⟨B,off,lv,iv,rfl,hB1,hB2,d2w,_,hLL,_⟩:=jfX HCC.out i2 c hx;obtain⟨Al,cl,rfl,hLC⟩:=hLL;have hce:=Zh (jcJ HP.out c (zqc hx));obtain⟨nl,hnl⟩:∃nl,c.ls.length=nl:=⟨_,rfl⟩;rw[hnl] at d2w;have HLC:=hid hLC;have hn16:nl<=16384:=by have:=hce.1;omega
       have HX:=hid (zqf hx (zqf hnl hce.2.1));have HD:=hid (zqf d2w (zqf hB2 hB1));have d2:=hfi.cell_some d2w hB2;have b1:(i2:Int)<nc:=by omega
       have b0:(0:Int)<=(i2:Int):=by omega
       rw[<-ju8 hx] at ai;have H6:=hid (zqf ai hfi);clear hLC hce hx hnl d2w hB1 hB2 ai hfi;go_wp2_with fail;go_loopw [10] (fun j wy=>∃q:Nat,q<=nl/\j=.int .i64 q/\(∃Lq,RAt O wy g (Jc M2 u0 (zr m0 nc gl l i2 c q)) Lq)/\Fr O w wy) (fun j _=>nl-(intOf j).toNat)
       case atStart=>exact⟨0,Nat.zero_le _,rfl,⟨_,H6.out.1⟩,H6.out.2⟩
       case round=>
        obtain⟨q,hq,rfl,⟨Lq,aq⟩,hfq⟩:=hrel;have d2q:=hfq.cell_some HD.out.1 HD.out.2.1;by_cases hl2:q<nl
        ·obtain⟨x,hy⟩:∃x,c.ls[q]?=some x:=⟨_,zqh (by have:=HX.out.2.1;omega)⟩
         obtain⟨LB,loff,rfl,hLB1,hLB2,hcl⟩:=HLC.out q x hy;have g0:=hfq.cell_some (hcl 0 (by decide)) hLB2;have g1:=hfq.cell_some (hcl 1 (by decide)) hLB2;have g2:=hfq.cell_some (hcl 2 (by decide)) hLB2;have g3:=hfq.cell_some (hcl 3 (by decide)) hLB2;rw[Nat.add_zero] at g0;obtain⟨hz1,hz2,hz3⟩:=(HSZ.out c (zqc HX.out.1)).2.2 x (zqc hy);have hle:=jhY HX.out.2.2 x (zqc hy);have hozl:(Zx m0 nc gl (ju (l.take i2)).length c q).ws.length=nl:=by rw[jh4 (by rw[HX.out.2.1];exact hq),HX.out.2.1]
         have HOZ:=hid (zqf (jsg M2 u0 (m0:=m0) (nc:=nc) (gl:=gl) (k:=q) HX.out.1) hozl);rw[HM.out.1] at HOZ;have HY:=hid hy;have hsum:((zr m0 nc gl l i2 c q).map RObj.words).sum<=jg l:=jtT HX.out.1 (by rw[HX.out.2.1];exact hq);have hlen:(zr m0 nc gl l i2 c q).length=nc+(ju (l.take i2)).length+(jI (c.ls.take q)).length:=by rw[jsf HX.out.1,HN.out]
         have hls:=jlb (zr m0 nc gl l i2 c q);have hB4:=HBB.out;have HPL:=hid (fun(v:RWd) (h2:x.kd≠2) (hv:v=JL m0 nc ((ju (l.take i2)).length+(jI (c.ls.take q)).length) gl x)=>jm6 M2 u0 HX.out.1 hy h2 hv);have HTX:=hid (fun(v:RWd) (h2:x.kd=2) (hv:v=JL m0 nc ((ju (l.take i2)).length+(jI (c.ls.take q)).length) gl x)=>jpC M2 u0 HX.out.1 hy h2 hv);rw[HM.out.1] at HPL HTX;obtain⟨kd,n,num,tx⟩:=x;replace g0:wr.cell? ⟨LB,loff+q*4,none⟩=some (.int .i64 kd):=g0;replace g1:wr.cell? ⟨LB,loff+q*4+1,none⟩=some (.int .i64 n):=g1;replace g2:wr.cell? ⟨LB,loff+q*4+2,none⟩=some (.int .i64 num):=g2;replace g3:wr.cell? ⟨LB,loff+q*4+3,none⟩=some (.string tx):=g3;replace hz1:tx.size<=1000000000:=hz1;have HI:=hid (fun Y=>show Calls prog 48 #[.int .i64 num] Y (fun e w'=>e=.returned (.agg #[.bool false,.int .i64 (W num),.int .i64 0])/\Below Y.heap.size Y w') from jqP num hz2 hz3 Y);have hbA:=jq wr (.cells #[.int .i64 kd,.int .i64 n,.int .i64 num,.string tx] 82);have hnA:=zqe wr (.cells #[.int .i64 kd,.int .i64 n,.int .i64 num,.string tx] 82);obtain⟨X1,hX1⟩:∃X1,wr.alloc (.cells #[.int .i64 kd,.int .i64 n,.int .i64 num,.string tx] 82)=X1:=⟨_,rfl⟩;obtain⟨t11,ht11⟩:∃t11,wr.heap.size=t11:=⟨_,rfl⟩;rw[hX1] at hbA hnA;have hs1:X1.heap.size=wr.heap.size+1:=by rw[<-hX1];exact Array.size_push ..
         rw[ht11] at hnA;have r2:X1.cell? ⟨t11,2,none⟩=some (.int .i64 num):=jb hnA 2;have HX1:=hid (zqf hX1 ht11);have HQ:=hid (zqf aq (zqf hfq (zqf hbA (zqf hnA hs1))));clear aq hfq hbA hnA hX1 ht11 hcl hLB1 hLB2 hy hs1 hozl;have b2:(q:Int)<(nl:Int):=by omega
         go_wp2_with fail;rw[HX1.out.1,HX1.out.2];refine(HI.out _).mono ?_;rintro e w5 ⟨rfl,hb5⟩;obtain⟨aq,hfq,hbA,hnA,hs1⟩:=HQ.out;have hbB:=jq w5 (.cells #[.bool false,.int .i64 (W num),.int .i64 0] 72);have hnB:=zqe w5 (.cells #[.bool false,.int .i64 (W num),.int .i64 0] 72);obtain⟨X2,hX2⟩:∃X2,w5.alloc (.cells #[.bool false,.int .i64 (W num),.int .i64 0] 72)=X2:=⟨_,rfl⟩;obtain⟨t12,ht12⟩:∃t12,w5.heap.size=t12:=⟨_,rfl⟩;rw[hX2] at hbB hnB;have hs2:X2.heap.size=w5.heap.size+1:=by rw[<-hX2];exact Array.size_push ..
         have hs5:=hb5.size;have hb15:=hbA.trans (hb5.mono (by omega));have hb2X:=hb15.trans (hbB.mono hb15.size);have aT:=aq.retag (fun z=>if z=w5.heap.size then 6+2*M2.frs.length else Lq.T z) (fun z hz=>if_neg (by omega));have aX:=aT.below hb2X;have hn11:=(hbB.block t11 (by have:=HX1.out.2;omega)).trans ((hb5.block t11 (by have:=HX1.out.2;omega)).trans hnA);obtain⟨LX,hLX⟩:∃LX,({Lq with T:=fun z=>if z=w5.heap.size then 6+2*M2.frs.length else Lq.T z}:Lay)=LX:=⟨_,rfl⟩;have hTX:LX.T t12=6+2*M2.frs.length:=by rw[<-hLX,<-ht12];exact if_pos rfl
         rw[hLX] at aX;have hfX:=hfq.trans (Fr.of_below (O:=O) hb2X) (fun i hi=>.inl hi);have hOt:O t12:=HA.out.2.2 _ (by rw[<-ht12];have:=hfq.size;omega);have htl:t12<X2.heap.size:=by omega
         have htg:t12≠g:=by have:=aq.lt;omega
         have hto:LX.ov.ownBlock≠some t12:=fun e=>by
          have q1:=jC aq.oo (show Lq.ov.ownBlock=some t12 from by rw[<-hLX] at e;exact e);omega
         rw[ht12] at hnB;have HX2:=hid (zqf hX2 ht12);have r0:X2.cell? ⟨t11,0,none⟩=some (.int .i64 kd):=jb hn11 0;have r1:X2.cell? ⟨t11,1,none⟩=some (.int .i64 n):=jb hn11 1;have r3:X2.cell? ⟨t11,3,none⟩=some (.string tx):=jb hn11 3;have s0:X2.cell? ⟨t12,0,none⟩=some (.bool false):=jb hnB 0;have s1:X2.cell? ⟨t12,1,none⟩=some (.int .i64 (W num)):=jb hnB 1;have s2:X2.cell? ⟨t12,2,none⟩=some (.int .i64 0):=jb hnB 2;have y0:=jF hnB 0;have y1:=jF hnB 1;have y2:=jF hnB 2;have HZ:=hid (zqf aX (zqf hfX (zqf hOt hTX)));have HZ2:=hid (zqf htl (zqf htg (zqf hto hnB)));obtain⟨WN,hWN⟩:∃WN,W num=WN:=⟨_,rfl⟩;rw[hWN] at HX2 s1 HZ2;have HWN:=hid hWN;rw[hWN];clear aq hfq hbA hnA hs1 hbB hnB hX2 ht12 hs2 hs5 hb15 hb2X aT aX hn11 hLX hTX hfX hOt htl htg hto hb5 hWN r2 g0 g1 g2 g3 d2q d2;have hBU:0<=u0/\u0+(((zr m0 nc gl l i2 c q).map RObj.words).sum:Nat)<=1000000:=by omega
         have hmo:(Jc M2 u0 (zr m0 nc gl l i2 c q)).objs.length=m0+(zr m0 nc gl l i2 c q).length:=by
          show(M2.objs++_).length=_;rw[zqm,HM.out.1]
         have hNQ:m0+(zr m0 nc gl l i2 c q).length<=1000000:=by omega
         by_cases kd2:kd=2
         ·subst kd2
          obtain⟨nq,hnq⟩:∃nq,m0+(zr m0 nc gl l i2 c q).length=nq:=⟨_,rfl⟩;have hv:RWd.P nq=JL m0 nc ((ju (l.take i2)).length+(jI (c.ls.take q)).length) gl ⟨2,n,num,tx⟩:=by
           show RWd.P nq=RWd.P (m0+nc+((ju (l.take i2)).length+(jI (c.ls.take q)).length));congr 1;omega
          have heq:=HTX.out (RWd.P nq) rfl hv;have hP:=jiI HZ.out.1 (otx tx) (A1:=none) (k1:=0) (A2:=none) (k2:=0) ⟨rfl,.inl ⟨rfl,rfl⟩⟩ (fun q e=>by cases e) ⟨none,0,rfl,fun j x h=>by cases h⟩ (fun i hi=>HA.out.2.2 i (zqs HZ.out.2.1.size hi)) (by show(0:Nat)<=_;omega) (by show(0:Nat)<=_;omega) hz1 (by show _<=u0+(((zr m0 nc gl l i2 c q).map RObj.words).sum:Nat);omega) (by show u0+(((zr m0 nc gl l i2 c q).map RObj.words).sum:Nat)<=_;omega) (by rw[hmo];omega);rw[hmo,hnq,jj1] at hP;have HP2:=hid (show Calls prog 47 #[.pointer (some ⟨g,0,none⟩),.agg #[.int .i64 4,.slice none 0 0,.string tx,.slice none 0 0]] X2 (fun e w'=>e=.returned (.agg #[.bool true,.int .i64 0,.int .i64 (nq:Int)])/\(∃L',RAt O w' g (Jc M2 u0 (zr m0 nc gl l i2 c q++[otx tx])) L'/\∀q,q<X2.heap.size->L'.T q=LX.T q)/\Fr (fun i=>i=g\/LX.ov.ownBlock=some i) X2 w') from hP);have HEQ:=hid heq;clear hP heq hv hnq;go_upto_region 21 with fail;rw[HX2.out.1,HX2.out.2];go_wp2_with fail;refine HP2.out.mono ?_;rintro e w6 ⟨rfl,⟨L6,a6,hT6⟩,hf6⟩;have hn6:=(hf6.block t12 HZ2.out.1 (fun e=>by
           rcases e with e|e
           ·exact HZ2.out.2.1 e
           ·exact HZ2.out.2.2.1 e)).trans HZ2.out.2.2.2
          have s0:w6.cell? ⟨t12,0,none⟩=some (.bool false):=jb hn6 0;have s1:w6.cell? ⟨t12,1,none⟩=some (.int .i64 WN):=jb hn6 1;have s2:w6.cell? ⟨t12,2,none⟩=some (.int .i64 0):=jb hn6 2;have y0:=jF hn6 0;have y1:=jF hn6 1;have y2:=jF hn6 2;have nz:(Zb w6 t12 0 (.P nq)).heap[t12]?=some (.cells #[.bool (RWd.P nq).isB,.int .i64 (RWd.P nq).nI,.int .i64 (RWd.P nq).aI] 72 (0,0)):=zk (zk (zk hn6 0 _) 1 _) 2 _;have aZ:=a6.spare HZ.out.2.2.1 ((hT6 t12 HZ2.out.1).trans HZ.out.2.2.2) (zZ w6 t12 0 (.P nq));have hfZ:Fr O w (Zb w6 t12 0 (.P nq)):=(HZ.out.2.1.trans hf6 (fun i hi=>by
           rcases hi with e|e
           ·exact .inl (by rw[e];exact HZ.out.1.Og)
           ·exact .inl (HZ.out.1.Oo i e).1)).trans (zZ w6 t12 0 (.P nq)) (fun i hi=>.inl (by rw[show i=t12 from hi];exact HZ.out.2.2.1))
          obtain⟨Wz,hWz⟩:∃Wz,Zb w6 t12 0 (.P nq)=Wz:=⟨_,rfl⟩;rw[hWz] at nz aZ hfZ;have HWz:=hid (show((w6.setCell ⟨t12,0,none⟩ (.bool true)).setCell ⟨t12,1,none⟩ (.int .i64 0)).setCell ⟨t12,2,none⟩ (.int .i64 (nq:Int))=Wz from hWz);have HZZ:=hid (zqf nz (zqf aZ hfZ));clear nz aZ hfZ hWz a6 hT6 hf6 hn6;go_upto_region 28 with fail;rw[HWz.out];obtain⟨nz,aZ,hfZ⟩:=HZZ.out;have heq:=HEQ.out;have hoz:(Jc M2 u0 (zr m0 nc gl l i2 c q++[otx tx])).objs[m0+i2]?=some (Zx m0 nc gl (ju (l.take i2)).length c q):=by
           show(M2.objs++(zr m0 nc gl l i2 c q++[otx tx]))[m0+i2]?=_;rw[<-List.append_assoc,zqo (zqb (show(M2.objs++zr m0 nc gl l i2 c q)[m0+i2]?=some _ from HOZ.out.1)).1];exact HOZ.out.1
          have hozl:=HOZ.out.2;obtain⟨vv,hvv⟩:∃vv,RWd.P nq=vv:=⟨_,rfl⟩;obtain⟨MZ,hMZ⟩:∃MZ,Jc M2 u0 (zr m0 nc gl l i2 c q++[otx tx])=MZ:=⟨_,rfl⟩;obtain⟨oz,hoz2⟩:∃oz,Zx m0 nc gl (ju (l.take i2)).length c q=oz:=⟨_,rfl⟩;rw[hvv] at nz heq;rw[hMZ] at aZ heq hoz;rw[hoz2] at hoz hozl;obtain⟨Lz,hLz⟩:∃Lz,L6=Lz:=⟨_,rfl⟩;rw[hLz] at aZ;have hmb:MZ.objs.length<=2000000:=by
           rw[<-hMZ];show(M2.objs++(zr m0 nc gl l i2 c q++[otx tx])).length<=_;simp only[zqm,List.length_singleton,HM.out.1];omega
          clear hvv hMZ hoz2 hLz s0 s1 s2 y0 y1 y2;have s0:=jb nz 0;have s1:=jb nz 1;have s2:=jb nz 2;replace s0:Wz.cell? ⟨t12,0,none⟩=some (.bool vv.isB):=s0;replace s1:Wz.cell? ⟨t12,1,none⟩=some (.int .i64 vv.nI):=s1;replace s2:Wz.cell? ⟨t12,2,none⟩=some (.int .i64 vv.aI):=s2;have hmz:MZ.objs[m0+i2]?=some oz:=hoz;obtain⟨mi,hmi⟩:∃mi,m0+i2=mi:=⟨_,rfl⟩;rw[hmi] at hmz heq;have hlz:=(zqb hmz).1;obtain⟨og,cO,hov,_,_,_,_,_,hcell⟩:=aZ.oform (by omega);obtain⟨wb,cw,hwv,_,hwbl⟩:=(aZ.ow mi oz hmz).form (by omega);have hro:=aZ.ow mi oz hmz;rw[hwv] at hro;have c2z:=aZ.cell (j:=2) (by decide);rw[show rF MZ Lz 2=Lz.ov from rfl,hov] at c2z;have cwz:=hcell mi oz hmz 1 (by decide);rw[show obc oz (Lz.wv mi) (Lz.iv mi) 1=Lz.wv mi from rfl,hwv,hozl] at cwz;obtain⟨uz,huz⟩:∃uz,oz.ws[q]?=some uz:=⟨_,zqh (by omega)⟩;have k0:=(hro.cellAt (q*3+0) (by omega)).trans (qJ huz (j:=0) (by decide));have k1:=(hro.cellAt (q*3+1) (by omega)).trans (qJ huz (j:=1) (by decide));have k2:=(hro.cellAt (q*3+2) (by omega)).trans (qJ huz (j:=2) (by decide));rw[Nat.add_zero] at k0;have f0:=hro.frozenAt (q*3);have f1:=hro.frozenAt (q*3+1);have f2:=hro.frozenAt (q*3+2);have aN:=aZ.setW hmz (by omega:q<oz.ws.length) vv hwv;rw[heq] at aN;have hfN:=hfZ.trans (zZ Wz wb (q*3) vv) (fun i hi=>.inl (by rw[show i=wb from hi];exact(aZ.Ow mi oz hmz wb (by rw[hwv];rfl)).1));have HFIN:=hid (zqf (aN.below (Below.refl _ _).drew) hfN.drew);have m1:IntKind.i64.wrap ((m0:Int)+(i2:Int))=(mi:Int):=by rw[jv (by omega) (by omega)];omega
          obtain⟨NO,hNO⟩:∃NO,MZ.objs.length=NO:=⟨_,rfl⟩;rw[hNO] at c2z hlz;have m2:(mi:Int)<(NO:Int):=by omega
          have m3:(0:Int)<=(mi:Int):=by omega
          have m4:(q:Int)<(nl:Int):=by omega
          have m5:(0:Int)<=(q:Int):=by omega
          clear aZ hfZ hmz hoz hozl heq hov hcell hwv hro huz aN hfN hwbl hmi hNO;go_region;all_goals
           go_wp2_with fail;go_roundw
           case rel=>exact⟨q+1,hl2,by go_num,⟨_,HFIN.out.1⟩,HFIN.out.2⟩
           case measure=>simp[intOf];omega
         ·by_cases kd3:kd=3
          ·subst kd3
           have hn:0<=n/\n<(nc:Int):=by
            unfold jJ at hle;simp at hle;omega
           obtain⟨kn,rfl⟩:∃kn:Nat,n=kn:=⟨n.toNat,by omega⟩;obtain⟨mk,hmk⟩:∃mk,m0+kn=mk:=⟨_,rfl⟩;have heq:=HPL.out (RWd.P mk) (by show¬(3:Int)=2;decide) (by show RWd.P mk=RWd.P (m0+((kn:Nat):Int).toNat);rw[Int.toNat_natCast,hmk]);have wf:IntKind.i64.wrap ((m0:Int)+(kn:Int))=(mk:Int):=by rw[jv (by omega) (by omega)];omega
           have nz:(Zb X2 t12 0 (.P mk)).heap[t12]?=some (.cells #[.bool (RWd.P mk).isB,.int .i64 (RWd.P mk).nI,.int .i64 (RWd.P mk).aI] 72 (0,0)):=zk (zk (zk HZ2.out.2.2.2 0 _) 1 _) 2 _;have aZ:=HZ.out.1.spare HZ.out.2.2.1 HZ.out.2.2.2 (zZ X2 t12 0 (.P mk));have hfZ:Fr O w (Zb X2 t12 0 (.P mk)):=HZ.out.2.1.trans (zZ X2 t12 0 (.P mk)) (fun i hi=>.inl (by rw[show i=t12 from hi];exact HZ.out.2.2.1));obtain⟨Wz,hWz⟩:∃Wz,Zb X2 t12 0 (.P mk)=Wz:=⟨_,rfl⟩;rw[hWz] at nz aZ hfZ;have HWz:=hid (show((X2.setCell ⟨t12,0,none⟩ (.bool true)).setCell ⟨t12,1,none⟩ (.int .i64 0)).setCell ⟨t12,2,none⟩ (.int .i64 (mk:Int))=Wz from hWz);have HZZ:=hid (zqf nz (zqf aZ hfZ));have HEQ:=hid heq;clear nz aZ hfZ hWz heq hn hmk;go_upto_region 21 with fail;rw[HX2.out.1,HX2.out.2];go_upto_region 28 with fail;rw[HWz.out];obtain⟨nz,aZ,hfZ⟩:=HZZ.out;have heq:=HEQ.out;have hoz:=HOZ.out.1;have hozl:=HOZ.out.2;obtain⟨vv,hvv⟩:∃vv,RWd.P mk=vv:=⟨_,rfl⟩;rw[hvv] at nz heq;obtain⟨MZ,hMZ⟩:∃MZ,Jc M2 u0 (zr m0 nc gl l i2 c q)=MZ:=⟨_,rfl⟩;obtain⟨oz,hoz2⟩:∃oz,Zx m0 nc gl (ju (l.take i2)).length c q=oz:=⟨_,rfl⟩;rw[hMZ] at aZ heq hoz;rw[hoz2] at hoz hozl;obtain⟨Lz,hLz⟩:∃Lz,LX=Lz:=⟨_,rfl⟩;rw[hLz] at aZ;have hmb:MZ.objs.length<=2000000:=by
            rw[<-hMZ,hmo];omega
           clear hvv hMZ hoz2 hLz s0 s1 s2 y0 y1 y2;have s0:=jb nz 0;have s1:=jb nz 1;have s2:=jb nz 2;replace s0:Wz.cell? ⟨t12,0,none⟩=some (.bool vv.isB):=s0;replace s1:Wz.cell? ⟨t12,1,none⟩=some (.int .i64 vv.nI):=s1;replace s2:Wz.cell? ⟨t12,2,none⟩=some (.int .i64 vv.aI):=s2;have hmz:MZ.objs[m0+i2]?=some oz:=hoz;obtain⟨mi,hmi⟩:∃mi,m0+i2=mi:=⟨_,rfl⟩;rw[hmi] at hmz heq;have hlz:=(zqb hmz).1;obtain⟨og,cO,hov,_,_,_,_,_,hcell⟩:=aZ.oform (by omega);obtain⟨wb,cw,hwv,_,hwbl⟩:=(aZ.ow mi oz hmz).form (by omega);have hro:=aZ.ow mi oz hmz;rw[hwv] at hro;have c2z:=aZ.cell (j:=2) (by decide);rw[show rF MZ Lz 2=Lz.ov from rfl,hov] at c2z;have cwz:=hcell mi oz hmz 1 (by decide);rw[show obc oz (Lz.wv mi) (Lz.iv mi) 1=Lz.wv mi from rfl,hwv,hozl] at cwz;obtain⟨uz,huz⟩:∃uz,oz.ws[q]?=some uz:=⟨_,zqh (by omega)⟩;have k0:=(hro.cellAt (q*3+0) (by omega)).trans (qJ huz (j:=0) (by decide));have k1:=(hro.cellAt (q*3+1) (by omega)).trans (qJ huz (j:=1) (by decide));have k2:=(hro.cellAt (q*3+2) (by omega)).trans (qJ huz (j:=2) (by decide));rw[Nat.add_zero] at k0;have f0:=hro.frozenAt (q*3);have f1:=hro.frozenAt (q*3+1);have f2:=hro.frozenAt (q*3+2);have aN:=aZ.setW hmz (by omega:q<oz.ws.length) vv hwv;rw[heq] at aN;have hfN:=hfZ.trans (zZ Wz wb (q*3) vv) (fun i hi=>.inl (by rw[show i=wb from hi];exact(aZ.Ow mi oz hmz wb (by rw[hwv];rfl)).1));have HFIN:=hid (zqf (aN.below (Below.refl _ _).drew) hfN.drew);have m1:IntKind.i64.wrap ((m0:Int)+(i2:Int))=(mi:Int):=by rw[jv (by omega) (by omega)];omega
           obtain⟨NO,hNO⟩:∃NO,MZ.objs.length=NO:=⟨_,rfl⟩;rw[hNO] at c2z hlz;have m2:(mi:Int)<(NO:Int):=by omega
           have m3:(0:Int)<=(mi:Int):=by omega
           have m4:(q:Int)<(nl:Int):=by omega
           have m5:(0:Int)<=(q:Int):=by omega
           clear aZ hfZ hmz hoz hozl heq hov hcell hwv hro huz aN hfN hwbl hmi hNO;go_region;all_goals
            go_wp2_with fail;go_roundw
            case rel=>exact⟨q+1,hl2,by go_num,⟨_,HFIN.out.1⟩,HFIN.out.2⟩
            case measure=>simp[intOf];omega
          ·by_cases kd4:kd=4
           ·subst kd4
            have hn:0<=n/\n<1024:=by
             unfold jJ at hle;simp at hle;omega
            obtain⟨kn,rfl⟩:∃kn:Nat,n=kn:=⟨n.toNat,by omega⟩;have hkn:kn<1024:=by omega
            have heq:=HPL.out (gl kn) (by show¬(4:Int)=2;decide) (by show gl kn=gl (((kn:Nat):Int).toNat);rw[Int.toNat_natCast]);obtain⟨gb,cg,hgv,_,_⟩:=HZ.out.1.ogl.form (by decide);have hrg:=HZ.out.1.ogl;rw[hgv] at hrg;have hgk:((List.range 1024).map (Jc M2 u0 (zr m0 nc gl l i2 c q)).gl)[kn]?=some (gl kn):=by
             rw[List.getElem?_map,List.getElem?_range hkn];show some (M2.gl kn)=_;rw[HM.out.2.1]
            have u0':=(hrg.cellAt (kn*3+0) (by omega)).trans (qJ hgk (j:=0) (by decide));have u1':=(hrg.cellAt (kn*3+1) (by omega)).trans (qJ hgk (j:=1) (by decide));have u2':=(hrg.cellAt (kn*3+2) (by omega)).trans (qJ hgk (j:=2) (by decide));rw[Nat.add_zero,jrf] at u0';rw[jrg] at u1';rw[jrh] at u2';have c54:=HZ.out.1.cell (j:=54) (by decide);rw[show rF (Jc M2 u0 (zr m0 nc gl l i2 c q)) LX 54=LX.gv from rfl,hgv] at c54;obtain⟨vv,hvv⟩:∃vv,gl kn=vv:=⟨_,rfl⟩;rw[hvv] at u0' u1' u2' heq;have nz:(Zb X2 t12 0 vv).heap[t12]?=some (.cells #[.bool vv.isB,.int .i64 vv.nI,.int .i64 vv.aI] 72 (0,0)):=zk (zk (zk HZ2.out.2.2.2 0 _) 1 _) 2 _;have aZ:=HZ.out.1.spare HZ.out.2.2.1 HZ.out.2.2.2 (zZ X2 t12 0 vv);have hfZ:Fr O w (Zb X2 t12 0 vv):=HZ.out.2.1.trans (zZ X2 t12 0 vv) (fun i hi=>.inl (by rw[show i=t12 from hi];exact HZ.out.2.2.1));have HZZ:=hid (zqf (show(Zb X2 t12 0 vv).drew.heap[t12]?=_ from nz) (zqf (aZ.below (Below.refl _ _).drew) hfZ.drew));have HEQ:=hid heq;have m6:(kn:Int)<1024:=by omega
            have m7:(0:Int)<=(kn:Int):=by omega
            clear nz aZ hfZ heq hn hrg hgk hgv hvv;go_upto_region 21 with fail;rw[HX2.out.1,HX2.out.2];go_upto_region 27 with fail;go_region;all_goals
             obtain⟨Wz,hWz⟩:∃Wz,(Zb X2 t12 0 vv).drew=Wz:=⟨_,rfl⟩;have HWz:=hid (show(((X2.setCell ⟨t12,0,none⟩ (.bool vv.isB)).setCell ⟨t12,1,none⟩ (.int .i64 vv.nI)).setCell ⟨t12,2,none⟩ (.int .i64 vv.aI)).drew=Wz from hWz);have hzz:=HZZ.out;rw[hWz] at hzz;have HZZ2:=hid hzz;clear hzz hWz;go_upto_region 28 with fail;rw[HWz.out];obtain⟨nz,aZ,hfZ⟩:=HZZ2.out;have heq:=HEQ.out;have hoz:=HOZ.out.1;have hozl:=HOZ.out.2;obtain⟨MZ,hMZ⟩:∃MZ,Jc M2 u0 (zr m0 nc gl l i2 c q)=MZ:=⟨_,rfl⟩;obtain⟨oz,hoz2⟩:∃oz,Zx m0 nc gl (ju (l.take i2)).length c q=oz:=⟨_,rfl⟩;rw[hMZ] at aZ heq hoz;rw[hoz2] at hoz hozl;obtain⟨Lz,hLz⟩:∃Lz,LX=Lz:=⟨_,rfl⟩;rw[hLz] at aZ;have hmb:MZ.objs.length<=2000000:=by
              rw[<-hMZ,hmo];omega
             clear hMZ hoz2 hLz s0 s1 s2 y0 y1 y2;have s0:=jb nz 0;have s1:=jb nz 1;have s2:=jb nz 2;replace s0:Wz.cell? ⟨t12,0,none⟩=some (.bool vv.isB):=s0;replace s1:Wz.cell? ⟨t12,1,none⟩=some (.int .i64 vv.nI):=s1;replace s2:Wz.cell? ⟨t12,2,none⟩=some (.int .i64 vv.aI):=s2;have hmz:MZ.objs[m0+i2]?=some oz:=hoz;obtain⟨mi,hmi⟩:∃mi,m0+i2=mi:=⟨_,rfl⟩;rw[hmi] at hmz heq;have hlz:=(zqb hmz).1;obtain⟨og,cO,hov,_,_,_,_,_,hcell⟩:=aZ.oform (by omega);obtain⟨wb,cw,hwv,_,hwbl⟩:=(aZ.ow mi oz hmz).form (by omega);have hro:=aZ.ow mi oz hmz;rw[hwv] at hro;have c2z:=aZ.cell (j:=2) (by decide);rw[show rF MZ Lz 2=Lz.ov from rfl,hov] at c2z;have cwz:=hcell mi oz hmz 1 (by decide);rw[show obc oz (Lz.wv mi) (Lz.iv mi) 1=Lz.wv mi from rfl,hwv,hozl] at cwz;obtain⟨uz,huz⟩:∃uz,oz.ws[q]?=some uz:=⟨_,zqh (by omega)⟩;have k0:=(hro.cellAt (q*3+0) (by omega)).trans (qJ huz (j:=0) (by decide));have k1:=(hro.cellAt (q*3+1) (by omega)).trans (qJ huz (j:=1) (by decide));have k2:=(hro.cellAt (q*3+2) (by omega)).trans (qJ huz (j:=2) (by decide));rw[Nat.add_zero] at k0;have f0:=hro.frozenAt (q*3);have f1:=hro.frozenAt (q*3+1);have f2:=hro.frozenAt (q*3+2);have aN:=aZ.setW hmz (by omega:q<oz.ws.length) vv hwv;rw[heq] at aN;have hfN:=hfZ.trans (zZ Wz wb (q*3) vv) (fun i hi=>.inl (by rw[show i=wb from hi];exact(aZ.Ow mi oz hmz wb (by rw[hwv];rfl)).1));have HFIN:=hid (zqf (aN.below (Below.refl _ _).drew) hfN.drew);have m1:IntKind.i64.wrap ((m0:Int)+(i2:Int))=(mi:Int):=by rw[jv (by omega) (by omega)];omega
             obtain⟨NO,hNO⟩:∃NO,MZ.objs.length=NO:=⟨_,rfl⟩;rw[hNO] at c2z hlz;have m2:(mi:Int)<(NO:Int):=by omega
             have m3:(0:Int)<=(mi:Int):=by omega
             have m4:(q:Int)<(nl:Int):=by omega
             have m5:(0:Int)<=(q:Int):=by omega
             clear aZ hfZ hmz hoz hozl heq hov hcell hwv hro huz aN hfN hwbl hmi hNO;go_region;all_goals
              go_wp2_with fail;go_roundw
              case rel=>exact⟨q+1,hl2,by go_num,⟨_,HFIN.out.1⟩,HFIN.out.2⟩
              case measure=>simp[intOf];omega
           ·obtain rfl:kd=1:=by
             unfold jJ at hle;simp only at hle;repeat' split at hle
             all_goals first|assumption|(exfalso;omega)
            have heq:=HPL.out (RWd.I (W num)) (by show¬(1:Int)=2;decide) rfl;rw[HWN.out] at heq;have HEQ:=hid heq;clear heq;go_upto_region 21 with fail;rw[HX2.out.1,HX2.out.2];go_upto_region 28 with fail;obtain⟨aZ,hfZ,_,_⟩:=HZ.out;have nz:X2.heap[t12]?=some (.cells #[.bool (RWd.I WN).isB,.int .i64 (RWd.I WN).nI,.int .i64 (RWd.I WN).aI] 72 (0,0)):=HZ2.out.2.2.2;have heq:=HEQ.out;have hoz:=HOZ.out.1;have hozl:=HOZ.out.2;obtain⟨vv,hvv⟩:∃vv,RWd.I WN=vv:=⟨_,rfl⟩;rw[hvv] at nz heq;obtain⟨MZ,hMZ⟩:∃MZ,Jc M2 u0 (zr m0 nc gl l i2 c q)=MZ:=⟨_,rfl⟩;obtain⟨oz,hoz2⟩:∃oz,Zx m0 nc gl (ju (l.take i2)).length c q=oz:=⟨_,rfl⟩;rw[hMZ] at aZ heq hoz;rw[hoz2] at hoz hozl;obtain⟨Lz,hLz⟩:∃Lz,LX=Lz:=⟨_,rfl⟩;rw[hLz] at aZ;have hmb:MZ.objs.length<=2000000:=by
             rw[<-hMZ,hmo];omega
            clear hvv hMZ hoz2 hLz s0 s1 s2 y0 y1 y2;have s0:=jb nz 0;have s1:=jb nz 1;have s2:=jb nz 2;replace s0:X2.cell? ⟨t12,0,none⟩=some (.bool vv.isB):=s0;replace s1:X2.cell? ⟨t12,1,none⟩=some (.int .i64 vv.nI):=s1;replace s2:X2.cell? ⟨t12,2,none⟩=some (.int .i64 vv.aI):=s2;have hmz:MZ.objs[m0+i2]?=some oz:=hoz;obtain⟨mi,hmi⟩:∃mi,m0+i2=mi:=⟨_,rfl⟩;rw[hmi] at hmz heq;have hlz:=(zqb hmz).1;obtain⟨og,cO,hov,_,_,_,_,_,hcell⟩:=aZ.oform (by omega);obtain⟨wb,cw,hwv,_,hwbl⟩:=(aZ.ow mi oz hmz).form (by omega);have hro:=aZ.ow mi oz hmz;rw[hwv] at hro;have c2z:=aZ.cell (j:=2) (by decide);rw[show rF MZ Lz 2=Lz.ov from rfl,hov] at c2z;have cwz:=hcell mi oz hmz 1 (by decide);rw[show obc oz (Lz.wv mi) (Lz.iv mi) 1=Lz.wv mi from rfl,hwv,hozl] at cwz;obtain⟨uz,huz⟩:∃uz,oz.ws[q]?=some uz:=⟨_,zqh (by omega)⟩;have k0:=(hro.cellAt (q*3+0) (by omega)).trans (qJ huz (j:=0) (by decide));have k1:=(hro.cellAt (q*3+1) (by omega)).trans (qJ huz (j:=1) (by decide));have k2:=(hro.cellAt (q*3+2) (by omega)).trans (qJ huz (j:=2) (by decide));rw[Nat.add_zero] at k0;have f0:=hro.frozenAt (q*3);have f1:=hro.frozenAt (q*3+1);have f2:=hro.frozenAt (q*3+2);have aN:=aZ.setW hmz (by omega:q<oz.ws.length) vv hwv;rw[heq] at aN;have hfN:=hfZ.trans (zZ X2 wb (q*3) vv) (fun i hi=>.inl (by rw[show i=wb from hi];exact(aZ.Ow mi oz hmz wb (by rw[hwv];rfl)).1));have HFIN:=hid (zqf (aN.below (Below.refl _ _).drew) hfN.drew);have m1:IntKind.i64.wrap ((m0:Int)+(i2:Int))=(mi:Int):=by rw[jv (by omega) (by omega)];omega
            obtain⟨NO,hNO⟩:∃NO,MZ.objs.length=NO:=⟨_,rfl⟩;rw[hNO] at c2z hlz;have m2:(mi:Int)<(NO:Int):=by omega
            have m3:(0:Int)<=(mi:Int):=by omega
            have m4:(q:Int)<(nl:Int):=by omega
            have m5:(0:Int)<=(q:Int):=by omega
            clear aZ hfZ hmz hoz hozl heq hov hcell hwv hro huz aN hfN hwbl hmi hNO;go_region;all_goals
             go_wp2_with fail;go_roundw
             case rel=>exact⟨q+1,hl2,by go_num,⟨_,HFIN.out.1⟩,HFIN.out.2⟩
             case measure=>simp[intOf];omega
        ·obtain rfl:nl=q:=by omega
         have aq2:RAt O wr g (Jc M2 u0 (jaf m0 nc gl l (i2+1))) Lq:=by
          have:=jse (m0:=m0) (nc:=nc) (gl:=gl) HX.out.1;rw[HX.out.2.1] at this;rw[<-this];exact aq
         have H7:=hid (zqf aq2 hfq);clear aq aq2 hfq;go_wp2_with fail;go_roundw
         case rel=>exact⟨i2+1,hlt,by go_num,⟨_,H7.out.1⟩,H7.out.2⟩
         case measure=>simp[intOf];omega
      ·obtain rfl:nc=i2:=by omega
       have hall:jaf m0 nc gl l nc=j9 m0 gl l:=by
        have:=jqu m0 gl l;rw[HN.out] at this;exact this
       rw[hall] at ai;have e55:=ai.cell (j:=55) (by decide);have e56:=ai.cell (j:=56) (by decide);have e57:=ai.cell (j:=57) (by decide);have z55:=ai.fz 55;have z56:=ai.fz 56;have z57:=ai.fz 57;have aE:=ai.entry (.P m0);have hfE:=hfi.trans (zZ wr g 55 (.P m0)) (fun i hi=>.inl (by rw[show i=g from hi];exact ai.Og));have hME:{Jc M2 u0 (j9 m0 gl l) with entry:=.P m0}=zo M2 l:=by
        obtain⟨q1,q2,q3⟩:=HM.out;unfold Jc zo;simp only;rw[jcY,<-q1,<-q2,<-q3]
       rw[hME] at aE;have HFIN:=hid (zqf aE hfE);clear ai hfi aE hfE hall hME;go_wp2_with fail;go_ret;exact⟨rfl,⟨_,HFIN.out.1⟩,HFIN.out.2⟩
end
