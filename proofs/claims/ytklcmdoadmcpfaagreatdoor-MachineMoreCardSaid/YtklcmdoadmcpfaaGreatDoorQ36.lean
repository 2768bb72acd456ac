/- A part of the proof of MachineMoves. Conditions: those that each theorem names. -/
import Derived.Test.YtklcmdoadmcpfaaGreatDoorQ35
set_option maxRecDepth 100000
set_option maxHeartbeats 400000000
namespace Go.Proofs.YtklcmdoadmcpfaaGreatDoor
open Go Go.RowKit IsaL
open Go.Lib(hid)
open Go.Proofs.Tryz(prog)
section
variable {O:Nat->Prop} {w w1:World} {g b gm nc:Nat} {C:CM} {R:Nat->Value} {vf vs vh:Value} {F:Nat->Value} {l:List jn} {cs:List RObj} {tx:List ByteArray} {A:Nat->Nat}
theorem Mk1.below {NS:List Ob} {k:Nat} {wr w1:World} (h:Mk1 O w g b C vf vs vh gm cs NS A k wr) (hb:Below wr.heap.size wr w1):Mk1 O w g b C vf vs vh gm cs NS A k w1:=by
 obtain⟨R',m⟩:=h.m;exact⟨⟨R',m.below hb⟩,h.row.below hb,h.fr.trans (Fr.of_below (O:=O) hb) (fun i hi=>.inl hi)⟩
theorem jrH {base:List Ob} {k:Nat} {ws:List RWd} {ins:List I5} (h:cs[k]?=some (RObj.mk 5 ws ⟨#[]⟩ ins)):je (zj base cs tx) (base.length+k)+(ws.length+ins.length)+1<=used (zj base cs tx):=by
 have hk:=(zqb h).1;have e:(zj base cs tx)[base.length+k]?=some (jA (fun _=>0) (RObj.mk 5 ws ⟨#[]⟩ ins)):=by
  unfold zj;rw[zqn (by omega),Nat.add_sub_cancel_left,List.map_append,zqo (by simpa using hk),List.getElem?_map,h];rfl
 have h1:=jcp e;have h2:=jbi (zj base cs tx) (p:=base.length+k+1);rw[Qw (show(RObj.mk 5 ws ⟨#[]⟩ ins).k=5 from rfl)] at h1;have h1:je (zj base cs tx) (base.length+k+1)=je (zj base cs tx) (base.length+k)+(1+(ws.length+ins.length)):=h1;omega
theorem jqc {k:Nat} {o:RObj} (ho:cs[k]?=some o) {wr w3:World} (h:Mk1 O w g b C vf vs vh gm cs (zj C.now cs tx) A k wr) (hgm:w.heap.size<=gm) (hO:∀i,w.heap.size<=i->O i) {R3:Nat->Value} {Rw:Nat->Value}
  (hm:McAt (fun i=>O i/\i≠gm) w3 g (ZN {C with now:=jX C.now (cs.take k) A (fun _=>0) []} 5 (o.ws.length+o.ins.length) o.ws.length) b R3 vf vs vh) (hf:Fr (Own b Rw) wr w3) (hR:∀i,Own b Rw i->O i/\i≠gm):
  Mk1 O w g b C vf vs vh gm cs (zj C.now cs tx) A (k+1) (w3.setCell ⟨gm,k,none⟩ (.int .i64 (JN C (zj C.now cs tx) (C.now.length+k)))):=by
 have hfs:Fr (·=gm) w3 (w3.setCell ⟨gm,k,none⟩ (.int .i64 (JN C (zj C.now cs tx) (C.now.length+k)))):=(Fr.refl (·=gm) w3).setCell (p:=⟨gm,k,none⟩) (.inl rfl) _;have hrow:=(h.row.fr hf (fun q=>(hR _ q).2 rfl)).set k (.int .i64 (JN C (zj C.now cs tx) (C.now.length+k)));rw[jmk] at hrow;refine⟨⟨R3,?_⟩,hrow,?_⟩
 ·have:=hm.kept hfs (fun q=>hm.og.2 q) (fun i hi q=>(hm.om i hi).2 q) (fun i hi q=>(hm.o1 i hi).2 q) (fun i hi q=>(hm.o2 i hi).2 q) (fun i hi q=>(hm.o3 i hi).2 q)
  unfold ZN at this;rw[jrL ho] at this;exact this
 ·exact(h.fr.trans hf (fun i hi=>.inl (hR i hi).1)).trans hfs (fun i hi=>.inl (by rw[hi];exact hO gm hgm))
theorem jt8 (a:McAt O w g C b R vf vs vh) (hO:∀i,w.heap.size<=i->O i) {v:Value} (hc:CodesAt O w v l) (h1:1<=l.length) (h2:l.length<=4096) (cp:Cps l cs (zj C.now cs tx) C A) (htx:tx=ju l) (hf:used (zj C.now cs tx)<=C.W) (hops:∀Y,Fr O w Y->ZM Y):
  Calls prog 43 #[.pointer (some ⟨g,0,none⟩),v] w fun e w'=>(∃v,e=.returned v)/\(∃R',McAt O w' g {C with now:=C.now++(cs++tx.map txO).map (jA A),cd:=2*(JN C (zj C.now cs tx) C.now.length).toNat} b R' vf vs vh)/\Fr O w w':=by
 obtain⟨nc,hnc⟩:∃nc,l.length=nc:=⟨_,rfl⟩;rw[hnc] at h1 h2;obtain⟨rw0,hrw,hmk⟩:=jns nc (by omega);obtain⟨A1,k1,rfl,l1⟩:=hc;obtain⟨B,off,rfl⟩:∃B off,A1=some ⟨B,off,none⟩:=by
  obtain⟨B,off,_,_,q,_⟩:=l1 0 _ (zqh (by omega));exact⟨B,off,q⟩
 rw[hnc];have hbX:=jq w (.cells rw0 3);have hnX:=zqe w (.cells rw0 3);obtain⟨X,hX⟩:∃X,w.alloc (.cells rw0 3)=X:=⟨_,rfl⟩;obtain⟨gm,hgm⟩:∃gm,w.heap.size=gm:=⟨_,rfl⟩;rw[hX] at hbX hnX;rw[hgm] at hnX;rw[hrw] at hnX;have hcl:cs.length=nc:=by rw[cp.len,hnc]
 have H0:=hid (show Mk1 O w g b C vf vs vh gm cs (zj C.now cs tx) A 0 X from⟨⟨R,by
  have h:=(a.below hbX).kept ((Fr.refl (fun _=>False) X)) id (fun _ _=>id) (fun _ _=>id) (fun _ _=>id) (fun _ _=>id);have h':McAt (fun i=>O i/\i≠gm) X g C b R vf vs vh:=(a.off (t:=gm) (by omega)).below hbX;have e:jX C.now (cs.take 0) A (fun _=>0) []=C.now:=by simp[jX]
  rw[e];exact h'⟩,by rw[hcl,jml];exact hnX,Fr.of_below (O:=O) hbX⟩)
 have HX:=hid (zqf hX hgm);have HO:=hid hO;have HC:=hid l1;have HP:=hid cp;have HF:=hid hf;have HN:=hid (zqf hnc hcl);have HOP:=hid hops;have HTX:=hid htx;have hgX:=(zqa hnX).1;clear hbX hnX hX hO l1 cp hf hops a hrw hnc hcl hgm htx;go_enter Tryz.func43,Tryz.ntmps43;go_wp2_with fail;rw[HX.out.1,HX.out.2];clear hmk;go_loopw [20] (fun i wr=>∃k:Nat,k<=nc/\i=.int .i64 k/\Mk1 O w g b C vf vs vh gm cs (zj C.now cs tx) A k wr) (fun i _=>nc-(intOf i).toNat)
 case atStart=>exact⟨0,Nat.zero_le _,rfl,H0.out⟩
 case round=>
  obtain⟨k,hk,rfl,hM⟩:=hrel;by_cases hlt:k<nc
  ·obtain⟨c,hx⟩:∃c,l[k]?=some c:=⟨_,zqh (by have:=HN.out.1;omega)⟩
   obtain⟨B',off',lv,iv,hBB,hB1,hB2,d0,d1,⟨Al,cl,rfl,_⟩,⟨Ai,ci,rfl,_⟩⟩:=HC.out k c hx;cases hBB
   have d0:=hM.fr.cell_some d0 hB2;have d1:=hM.fr.cell_some d1 hB2;obtain⟨ws,hcs,hws,_⟩:=HP.out.at_ k c hx;obtain⟨hsz,_⟩:=HP.out.ok c (zqc hx);obtain⟨nl,hnl⟩:∃nl,c.ls.length=nl:=⟨_,rfl⟩;obtain⟨ni,hni⟩:∃ni,c.ins.length=ni:=⟨_,rfl⟩;rw[hnl] at d0 hws hsz;rw[hni] at d1 hsz;have hn1:(k:Int)<nc:=by omega
   have hb2:=jq wr (.cells #[.slice Al nl cl,.slice Ai ni ci] 39);have hn2':=zqe wr (.cells #[.slice Al nl cl,.slice Ai ni ci] 39);have HM:=hid hM;clear hM hx;go_wp2_with fail;obtain⟨X2,hX2⟩:∃X2,wr.alloc (.cells #[.slice Al nl cl,.slice Ai ni ci] 39)=X2:=⟨_,rfl⟩;obtain⟨t6,ht6⟩:∃t,wr.heap.size=t:=⟨_,rfl⟩;rw[hX2] at hb2 hn2' ⊢;rw[ht6] at hn2' ⊢;have hlt6:t6<X2.heap.size:=(zqa hn2').1;have y0:X2.cell? ⟨t6,0,none⟩=some (.slice Al nl cl):=jb hn2' 0;have y1:X2.cell? ⟨t6,1,none⟩=some (.slice Ai ni ci):=jb hn2' 1;have hM2:=HM.out.below hb2;obtain⟨R2,a3⟩:=HM.out.m;have a2:=a3.below hb2;have gmt:gm<t6:=by have:=HM.out.row.lt;omega
   have x0:=a2.c0;have cm:X2.cell? ⟨gm,k,none⟩=some (.int .i64 0):=by
    have:=hM2.row.cell (j:=k) (by have:=HN.out.2;omega);rw[this];unfold Z2;rw[if_neg (by omega)]
   have zm:=hM2.row.frozen k;have hown:∀i,Own b R2 i->O i/\i≠gm:=a2.om;have hgg:g≠gm/\g≠t6:=⟨fun q=>a2.og.2 q,fun q=>by
    have h1:g<wr.heap.size:=a3.bx.lt;omega⟩
   have hot:∀i,Own b R2 i->i≠g/\i≠t6/\i≠gm:=fun i hi=>⟨fun q=>a2.gm (q▸hi),fun q=>by
    have:=a3.m.own_lt i hi;omega,(hown i hi).2⟩
   have KS:=hid (fun(Y:World) (hY:Fr (fun i=>Own b R2 i\/i=gm) X2 Y)=>(⟨hY.cell_some x0 (fun q=>q.elim (fun q=>(hot _ q).1 rfl) (fun q=>hgg.1 q)),hY.cell_some y0 (fun q=>q.elim (fun q=>(hot _ q).2.1 rfl) (fun q=>by have q:t6=gm:=q;omega)),hY.cell_some y1 (fun q=>q.elim (fun q=>(hot _ q).2.1 rfl) (fun q=>by have q:t6=gm:=q;omega))⟩:Y.cell? ⟨g,0,none⟩=some (.pointer (some ⟨b,0,none⟩))/\Y.cell? ⟨t6,0,none⟩=some (.slice Al nl cl)/\Y.cell? ⟨t6,1,none⟩=some (.slice Ai ni ci)));have hus:jx C.h C.W (used (jX C.now (cs.take k) A (fun _=>0) []):Nat)=JN C (zj C.now cs tx) (C.now.length+k):=by
    rw[jju (tx:=tx) HP.out.k5 (by have:=HN.out.2;omega)];rfl
   have hsum:IntKind.i64.wrap ((nl:Int)+(ni:Int))=(nl:Int)+(ni:Int):=jv (by omega) (by omega);have HAL:=hid (show Calls prog 30 #[.pointer (some ⟨b,0,none⟩),.int .i64 5,.int .i64 ((nl:Int)+(ni:Int)),.int .i64 (nl:Int)] X2.drew _ from jdM (a2.drewN 1) 5 (nl+ni) nl (J2 (by omega)) (by
    show used (jX C.now (cs.take k) A (fun _=>0) [])+(nl+ni)+1<=C.W;have h3:=jrH (base:=C.now) (tx:=tx) hcs;have h4:=HF.out;rw[jju (tx:=tx) HP.out.k5 (by have:=HN.out.2;omega)];omega) (fun i hi=>⟨HO.out i (by have:=HX.out.2;have hi:X2.heap.size<=i:=hi;omega),by have hi:X2.heap.size<=i:=hi;omega⟩) rfl (by omega) rfl hus)
   have hdS:=KS.out X2 (Fr.refl _ _);have HX2:=hid (zqf hX2 (zqf ht6 (zqf hb2 hM2)));have HHO:=hid (zqf hot (zqf hown hgg));have HGM:=hid cm;have HZM:=hid zm;have HCS:=hid (zqf hcs (zqf hws hni));clear hX2 ht6 hn2' hb2 y0 y1 x0 cm hot hown hgg hM2 zm a2 a3 d0 d1 hus hcs hws hni hnl;obtain⟨ad,had⟩:∃ad,JN C (zj C.now cs tx) (C.now.length+k)=ad:=⟨_,rfl⟩;rw[had] at HAL;have HAD:=hid had;clear had;go_region_held3 (fun Y=>Y.cell? ⟨g,0,none⟩=some (.pointer (some ⟨b,0,none⟩))/\Y.cell? ⟨t6,0,none⟩=some (.slice Al nl cl)/\Y.cell? ⟨t6,1,none⟩=some (.slice Ai ni ci))
    (first|(with_reducible assumption)|(with_reducible exact KS.out _ ((Fr.refl _ X2).drew))|(with_reducible exact KS.out _ (by with_reducible assumption))|exact KS.out _ ((show Fr (fun i=>Own b R2 i\/i=gm) X2 _ by with_reducible assumption).setCell (p:=⟨gm,k,none⟩) (.inl (.inr rfl)) _))
    (first|(go_at_call 30;(with_reducible refine HAL.out.mono ?_);rintro e w3 ⟨rfl,⟨R3,hm3⟩,hf3⟩;have hF3:Fr (fun i=>Own b R2 i\/i=gm) X2 w3:=((Fr.refl _ X2).drew).trans hf3 (fun i hi=>.inl (.inl hi));have cm3:w3.cell? ⟨gm,k,none⟩=some (.int .i64 0):=hf3.cell_some HGM.out (fun q=>(HHO.out.1 _ q).2.2 rfl);have zm3:w3.frozen? ⟨gm,k,none⟩=false:=(hf3.frozen (p:=⟨gm,k,none⟩) (by show gm<X2.heap.size;omega) (fun q=>(HHO.out.1 _ q).2.2 rfl)).trans HZM.out))
   have hfin:Mk1 O w g b C vf vs vh gm cs (zj C.now cs tx) A (k+1) (w3.setCell ⟨gm,k,none⟩ (.int .i64 ad)):=by
    have:=jqc (Rw:=R2) HCS.out.1 HX2.out.2.2.2 (by have:=HX.out.2;omega) HO.out (by
     show McAt _ w3 g (ZN _ 5 (ws.length+c.ins.length) ws.length) b R3 vf vs vh;rw[HCS.out.2.1,HCS.out.2.2];exact hm3) (((Fr.refl _ X2).drew).trans hf3 (fun i hi=>.inl hi)) (fun i hi=>HHO.out.2.1 i hi)
    rw[HAD.out] at this;exact this
   have HFIN:=hid hfin;clear hm3 hf3 hF3 cm3 zm3 hdS hfin;go_wp2_with fail;go_roundw
   case rel=>exact⟨k+1,hlt,by go_num,HFIN.out⟩
   case measure=>simp[intOf];omega
  ·obtain rfl:k=nc:=by omega
   have h2:Mk2 (fun i=>O i/\i≠gm) wr g b C vf vs vh cs tx A (KK l 0 0) 0 wr:=by
    obtain⟨R',m⟩:=hM.m;refine⟨⟨R',?_⟩,Fr.refl _ _⟩;rw[jrG,List.take_zero];rw[zqp (by rw[HN.out.2];exact zqg _)] at m;exact m
   have HM1:=hid (zqf hM h2);clear hM h2;go_wp2_with fail;obtain⟨Z,hZ⟩:∃Z,wr=Z:=⟨_,rfl⟩;rw[hZ] at HM1 ⊢;clear hZ;go_loopw [49] (fun i wx=>∃j:Nat,j<=k/\i=.int .i64 j/\Mk2 (fun i=>O i/\i≠gm) Z g b C vf vs vh cs tx A (KK l j 0) (ju (l.take j)).length wx) (fun i _=>k-(intOf i).toNat)
   case atStart=>exact⟨0,Nat.zero_le _,rfl,HM1.out.2⟩
   case round=>
    obtain⟨j,hj,rfl,hM⟩:=hrel;by_cases hlt:j<k
    ·obtain⟨c,hx⟩:∃c,l[j]?=some c:=⟨_,zqh (by have:=HN.out.1;omega)⟩
     obtain⟨B',off',lv,iv,hBB,hB1,hB2,d0,d1,⟨Al,cl,rfl,hLL⟩,⟨Ai,ci,rfl,hII⟩⟩:=HC.out j c hx;cases hBB
     have hFZ:Fr O w wr:=HM1.out.1.fr.trans hM.fr (fun i hi=>.inl hi.1);have d0:=hFZ.cell_some d0 hB2;have d1:=hFZ.cell_some d1 hB2;obtain⟨ws,hcs,hws,hlit⟩:=HP.out.at_ j c hx;obtain⟨hsz,hokl⟩:=HP.out.ok c (zqc hx);obtain⟨nl,hnl⟩:∃nl,c.ls.length=nl:=⟨_,rfl⟩;obtain⟨ni,hni⟩:∃ni,c.ins.length=ni:=⟨_,rfl⟩;rw[hnl] at d0 hws hsz;rw[hni] at d1 hsz;have hn1:(j:Int)<k:=by omega
     have hb2:=jq wr (.cells #[.slice Al nl cl,.slice Ai ni ci] 39);have hn2':=zqe wr (.cells #[.slice Al nl cl,.slice Ai ni ci] 39);have HM2:=hid (zqf hM hFZ);have HLL:=hid (zqf hLL hII);have HCS:=hid (zqf hcs (zqf hws (zqf hlit (zqf hokl (zqf hnl (zqf hni hx))))));clear hM hFZ hLL hII hcs hws hlit hokl hnl hni hx;go_wp2_with fail;obtain⟨Y2,hY2⟩:∃Y2,wr.alloc (.cells #[.slice Al nl cl,.slice Ai ni ci] 39)=Y2:=⟨_,rfl⟩;obtain⟨t8,ht8⟩:∃t,wr.heap.size=t:=⟨_,rfl⟩;rw[hY2] at hb2 hn2' ⊢;rw[ht8] at hn2' ⊢;have y0:Y2.cell? ⟨t8,0,none⟩=some (.slice Al nl cl):=jb hn2' 0;have y1:Y2.cell? ⟨t8,1,none⟩=some (.slice Ai ni ci):=jb hn2' 1;have hs2:Mk2 (fun i=>(O i/\i≠gm)/\i≠t8) Y2 g b C vf vs vh cs tx A (KK l j 0) (ju (l.take j)).length Y2:=by
      obtain⟨R',m⟩:=HM2.out.1.m;exact⟨⟨R',(m.off (t:=t8) (by omega)).below hb2⟩,Fr.refl _ _⟩
     have HY:=hid (zqf y0 (zqf y1 (zqf hb2 (zqf hs2 ht8))));clear hY2 ht8 hn2' hb2 hs2 y0 y1 d0 d1;go_loopw [57] (fun i wx=>∃q:Nat,q<=nl/\i=.int .i64 q/\Mk2 (fun i=>(O i/\i≠gm)/\i≠t8) Y2 g b C vf vs vh cs tx A (KK l j q) ((ju (l.take j)).length+(jI (c.ls.take q)).length) wx) (fun i _=>nl-(intOf i).toNat)
     case atStart=>exact⟨0,Nat.zero_le _,rfl,HY.out.2.2.2.1⟩
     case round=>
      obtain⟨q,hq,rfl,hM3⟩:=hrel;by_cases hlt2:q<nl
      ·obtain⟨x,hx⟩:∃x,c.ls[q]?=some x:=⟨_,zqh (by have:=HCS.out.2.2.2.2.1;omega)⟩
       obtain⟨LB,loff,rfl,hLB1,hLB2,hcell⟩:=HLL.out.1 q x hx;have hFX:Fr O w wr:=((HM2.out.2.trans (Fr.of_below (O:=O) HY.out.2.2.1) (fun i hi=>.inl hi)).trans hM3.fr (fun i hi=>.inl hi.1.1));have g0:=hFX.cell_some (hcell 0 (by omega)) hLB2;have g1:=hFX.cell_some (hcell 1 (by omega)) hLB2;have g2:=hFX.cell_some (hcell 2 (by omega)) hLB2;have g3:=hFX.cell_some (hcell 3 (by omega)) hLB2;rw[Nat.add_zero] at g0;obtain⟨hE,r,hwr,hLY,hrb⟩:=HCS.out.2.2.1 q x hx;rw[HN.out.1] at hE hLY;have hTX:=fun h2=>jho HCS.out.2.2.2.2.2.2 hx h2;have hNX:=jq5 hx;obtain⟨kd,n,num,tx'⟩:=x;replace g0:wr.cell? ⟨LB,loff+q*4,none⟩=some (.int .i64 kd):=g0;replace g1:wr.cell? ⟨LB,loff+q*4+1,none⟩=some (.int .i64 n):=g1;replace g2:wr.cell? ⟨LB,loff+q*4+2,none⟩=some (.int .i64 num):=g2;replace g3:wr.cell? ⟨LB,loff+q*4+3,none⟩=some (.string tx'):=g3;have hn2:(q:Int)<nl:=by omega
       have hb3:=jq wr (.cells #[.int .i64 kd,.int .i64 n,.int .i64 num,.string tx'] 82);have hn3':=zqe wr (.cells #[.int .i64 kd,.int .i64 n,.int .i64 num,.string tx'] 82);have HM3:=hid (zqf hM3 hFX);have HLT:=hid (zqf hE (zqf hwr (zqf hLY (zqf hrb (zqf hTX (zqf hNX hx))))));clear hM3 hFX hcell hE hwr hLY hrb hTX hNX hx;go_wp2_with fail;obtain⟨X3,hX3⟩:∃X3,wr.alloc (.cells #[.int .i64 kd,.int .i64 n,.int .i64 num,.string tx'] 82)=X3:=⟨_,rfl⟩;obtain⟨t10,ht10⟩:∃t,wr.heap.size=t:=⟨_,rfl⟩;rw[hX3] at hb3 hn3' ⊢;rw[ht10] at hn3' ⊢;have hlt10:t10<X3.heap.size:=(zqa hn3').1;have z0:X3.cell? ⟨t10,0,none⟩=some (.int .i64 kd):=jb hn3' 0;have z1:X3.cell? ⟨t10,1,none⟩=some (.int .i64 n):=jb hn3' 1;have z2:X3.cell? ⟨t10,2,none⟩=some (.int .i64 num):=jb hn3' 2;have z3:X3.cell? ⟨t10,3,none⟩=some (.string tx'):=jb hn3' 3;obtain⟨Rr,ar⟩:=HM3.out.1.m;have a3:=(ar.off (t:=t10) (by omega)).below hb3;have hrow:RowA X3 gm k (Z2 C (zj C.now cs tx) k):=by
        have h:=((((HM1.out.1.row.fr HM2.out.1.fr (fun q=>q.2 rfl)).below HY.out.2.2.1).fr HM3.out.1.fr (fun q=>q.1.2 rfl)).below hb3);rw[HN.out.2] at h;exact h
       obtain⟨ad,had⟩:∃ad,JN C (zj C.now cs tx) (C.now.length+j)=ad:=⟨_,rfl⟩;have cm:X3.cell? ⟨gm,j,none⟩=some (.int .i64 ad):=by
        rw[hrow.cell hlt];unfold Z2;rw[if_pos hlt,had]
       have x0:=a3.c0;have hO3:∀i,X3.heap.size<=i->(((O i/\i≠gm)/\i≠t8)/\i≠t10):=fun i hi=>by
        have h1:=hb3.size;have h2:=HM3.out.1.fr.size;have h3:=HY.out.2.2.1.size;have h4:=HY.out.2.2.2.2;have h5:=HX.out.2;have h6:=HM2.out.2.size;have h7:=hrow.lt;exact⟨⟨⟨HO.out i (by omega),by omega⟩,by omega⟩,by omega⟩
       have hgg:g≠gm/\g≠t10:=⟨fun q=>a3.og.1.1.2 q,fun q=>a3.og.2 q⟩;obtain⟨y,hyy⟩:∃y,jw A r=y:=⟨_,rfl⟩;have hwd:(jA A (RObj.mk 5 ws ⟨#[]⟩ c.ins)).ws[q]?=some y:=by rw[jrk HLT.out.2.1,hyy]
       have hLY:=HLT.out.2.2.1;have hrb:=HLT.out.2.2.2.1;rw[hyy] at hLY hrb;have htl:(ju (l.take j)).length+(jI (c.ls.take q)).length+txN ⟨kd,n,num,tx'⟩<=tx.length:=by
        have e1:=jbU HCS.out.2.2.2.2.2.2;have e2:=jhp (l:=l) (i:=j+1);have e3:=juT (l:=c.ls) (i:=q+1);have e4:=HLT.out.2.2.2.2.2.1;rw[e1,zqm] at e2;rw[HTX.out];omega
       have HLIT:=hid (show Calls prog 80 #[.pointer (some ⟨g,0,none⟩),.agg #[.int .i64 kd,.int .i64 n,.int .i64 num,.string tx'],.slice (some ⟨gm,0,none⟩) k k] X3.drew _ from jsm (a3.drewN 1) hO3 HP.out.k5 (show RowA X3.drew gm k _ from hrow) HN.out.2 HF.out HLT.out.1 (fun h=>HTX.out▸HLT.out.2.2.2.2.1 h) hLY);have HST:=hid (fun(Y:World) (RY:Nat->Value) (hY:X3.heap.size<=Y.heap.size) (aY:McAt (fun i=>((O i/\i≠gm)/\i≠t8)/\i≠t10) Y g {C with now:=jX C.now cs A (KK l j q) (tx.take ((ju (l.take j)).length+(jI (c.ls.take q)).length+txN ⟨kd,n,num,tx'⟩))} b RY vf vs vh)=>jgk aY (fun i hi=>hO3 i (zqs hY hi)) HP.out.k5 htl HF.out HCS.out.1 hwd hrb had);have KS:=hid (fun(Y:World) (hY:Fr (fun i=>((O i/\i≠gm)/\i≠t8)/\i≠t10) X3 Y) (hgY:Y.cell? ⟨g,0,none⟩=some (.pointer (some ⟨b,0,none⟩)))=>(⟨hgY,hY.cell_some cm (fun q=>q.1.1.2 rfl),hY.cell_some z0 (fun q=>q.2 rfl),hY.cell_some z1 (fun q=>q.2 rfl),hY.cell_some z2 (fun q=>q.2 rfl),hY.cell_some z3 (fun q=>q.2 rfl)⟩:Y.cell? ⟨g,0,none⟩=some (.pointer (some ⟨b,0,none⟩))/\Y.cell? ⟨gm,j,none⟩=some (.int .i64 ad)/\Y.cell? ⟨t10,0,none⟩=some (.int .i64 kd)/\Y.cell? ⟨t10,1,none⟩=some (.int .i64 n)/\Y.cell? ⟨t10,2,none⟩=some (.int .i64 num)/\Y.cell? ⟨t10,3,none⟩=some (.string tx')));have hd:X3.cell? ⟨g,0,none⟩=some (.pointer (some ⟨b,0,none⟩))/\X3.cell? ⟨gm,j,none⟩=some (.int .i64 ad)/\X3.cell? ⟨t10,0,none⟩=some (.int .i64 kd)/\X3.cell? ⟨t10,1,none⟩=some (.int .i64 n)/\X3.cell? ⟨t10,2,none⟩=some (.int .i64 num)/\X3.cell? ⟨t10,3,none⟩=some (.string tx'):=⟨x0,cm,z0,z1,z2,z3⟩;have hdd:X3.drew.cell? ⟨g,0,none⟩=some (.pointer (some ⟨b,0,none⟩))/\X3.drew.cell? ⟨gm,j,none⟩=some (.int .i64 ad)/\X3.drew.cell? ⟨t10,0,none⟩=some (.int .i64 kd)/\X3.drew.cell? ⟨t10,1,none⟩=some (.int .i64 n)/\X3.drew.cell? ⟨t10,2,none⟩=some (.int .i64 num)/\X3.drew.cell? ⟨t10,3,none⟩=some (.string tx'):=hd;have HX3:=hid (zqf hX3 (zqf ht10 (zqf hb3 hO3)));clear hX3 ht10 hn3' hb3 z0 z1 z2 z3 ar a3 hrow had cm x0 hO3 hgg hyy hwd hLY hrb htl g0 g1 g2 g3;go_region_held3 (fun Y=>Y.cell? ⟨g,0,none⟩=some (.pointer (some ⟨b,0,none⟩))/\Y.cell? ⟨gm,j,none⟩=some (.int .i64 ad)/\Y.cell? ⟨t10,0,none⟩=some (.int .i64 kd)/\Y.cell? ⟨t10,1,none⟩=some (.int .i64 n)/\Y.cell? ⟨t10,2,none⟩=some (.int .i64 num)/\Y.cell? ⟨t10,3,none⟩=some (.string tx'))
        (first|(with_reducible assumption)|(with_reducible exact hd)|(with_reducible exact hdd))
        (first|(go_at_call 80;(with_reducible refine HLIT.out.mono ?_);rintro e w4 ⟨rfl,⟨R4,a4⟩,hf4⟩;have hF4:Fr (fun i=>((O i/\i≠gm)/\i≠t8)/\i≠t10) X3 w4:=((Fr.refl _ X3).drew).trans hf4 (fun i hi=>.inl hi);have hd4:=KS.out w4 hF4 a4.c0)|(go_at_call 29;(with_reducible refine(HST.out _ _ hF4.size a4).mono ?_);rintro e w5 ⟨rfl,a5,hf5⟩;have hd5:=KS.out w5 (hF4.trans hf5 (fun i hi=>.inl (a4.om i hi))) a5.c0))
       have hfin:Mk2 (fun i=>(O i/\i≠gm)/\i≠t8) Y2 g b C vf vs vh cs tx A (KK l j (q+1)) ((ju (l.take j)).length+(jI (c.ls.take (q+1))).length) w5:=by
        refine⟨⟨R4,?_⟩,(HM3.out.1.fr.trans (Fr.of_below (O:=fun i=>(O i/\i≠gm)/\i≠t8) HX3.out.2.2.1) (fun i hi=>.inl hi)).trans (hF4.trans hf5 (fun i hi=>.inl (a4.om i hi))) (fun i hi=>.inl hi.1)⟩;rw[HLT.out.2.2.2.2.2.1,<-Nat.add_assoc];exact a5.wide (fun i hi=>hi.1)
       have HFIN:=hid hfin;clear hd hdd hF4 hf4 a4 a5 hf5 hfin hd4 hd5;go_wp2_with fail;go_roundw
       case rel=>exact⟨q+1,hlt2,by go_num,HFIN.out⟩
       case measure=>simp[intOf];omega
      ·obtain rfl:q=nl:=by omega
       have hall:c.ls.take q=c.ls:=zqp (by rw[HCS.out.2.2.2.2.1];exact zqg _);rw[hall] at hM3;have y0:=hM3.fr.cell_some HY.out.1 (fun z=>z.2 rfl);have y1:=hM3.fr.cell_some HY.out.2.1 (fun z=>z.2 rfl);have HM3:=hid hM3;clear hM3 hall;go_wp2_with fail;go_loopw [80] (fun i wx=>∃m:Nat,m<=ni/\i=.int .i64 m/\Mk2 (fun i=>(O i/\i≠gm)/\i≠t8) Y2 g b C vf vs vh cs tx A (KK l j (q+m)) ((ju (l.take j)).length+(jI c.ls).length) wx) (fun i _=>ni-(intOf i).toNat)
       case atStart=>exact⟨0,Nat.zero_le _,rfl,HM3.out⟩
       case round=>
        obtain⟨m,hm,rfl,hM4⟩:=hrel;by_cases hlt3:m<ni
        ·obtain⟨x,hx⟩:∃x,c.ins[m]?=some x:=⟨_,zqh (by have:=HCS.out.2.2.2.2.2.1;omega)⟩
         obtain⟨IB,ioff,rfl,hIB1,hIB2,hcell⟩:=HLL.out.2 m x hx;have hFX:Fr O w wr:=((HM2.out.2.trans (Fr.of_below (O:=O) HY.out.2.2.1) (fun i hi=>.inl hi)).trans hM4.fr (fun i hi=>.inl hi.1.1));have g0:=hFX.cell_some (hcell 0 (by omega)) hIB2;have g1:=hFX.cell_some (hcell 1 (by omega)) hIB2;have g2:=hFX.cell_some (hcell 2 (by omega)) hIB2;have g3:=hFX.cell_some (hcell 3 (by omega)) hIB2;have g4:=hFX.cell_some (hcell 4 (by omega)) hIB2;rw[Nat.add_zero] at g0;have hok:=HCS.out.2.2.2.1 x (zqc hx);have hwd:=jrj (A:=A) (ls:=ws) hx;rw[HCS.out.2.1] at hwd;obtain⟨xo,xa,xb,xc,xn⟩:=x;obtain⟨y,hyy⟩:∃y,JF (xo,xa,xb,xc,xn)=y:=⟨_,rfl⟩;rw[hyy] at hwd;replace hok:zq xo xa xb xc xn=0:=hok;have hbd:=jff hok;have hyw:jc9 xo xa xb xc xn=(y:Int):=by
          unfold jc9;rw[if_pos hok,<-hyy];show _=(((Qx xo xa xb xc xn).toNat:Nat):Int);omega
         have hy64:y<18446744073709551616:=by
          rw[<-hyy];show(Qx xo xa xb xc xn).toNat<_;omega
         replace g0:wr.cell? ⟨IB,ioff+m*5,none⟩=some (.int .i64 xo):=g0;replace g1:wr.cell? ⟨IB,ioff+m*5+1,none⟩=some (.int .i64 xa):=g1;replace g2:wr.cell? ⟨IB,ioff+m*5+2,none⟩=some (.int .i64 xb):=g2;replace g3:wr.cell? ⟨IB,ioff+m*5+3,none⟩=some (.int .i64 xc):=g3;replace g4:wr.cell? ⟨IB,ioff+m*5+4,none⟩=some (.int .i64 xn):=g4;have hn3:(m:Int)<ni:=by omega
         have hb3:=jq wr (.cells #[.int .i64 xo,.int .i64 xa,.int .i64 xb,.int .i64 xc,.int .i64 xn] 41);have hen:=jkF xo xa xb xc xn (wr.alloc (.cells #[.int .i64 xo,.int .i64 xa,.int .i64 xb,.int .i64 xc,.int .i64 xn] 41)) (HOP.out _ (hFX.trans (Fr.of_below (O:=O) hb3) (fun i hi=>.inl hi)));rw[hyw,hok] at hen;have HEN:=hid hen;have HM4:=hid (zqf hM4 hFX);have HWD:=hid (zqf hwd hy64);have y0:=hM4.fr.cell_some HY.out.1 (fun z=>z.2 rfl);have hO2:∀i,wr.heap.size<=i->((O i/\i≠gm)/\i≠t8):=fun i hi=>by
          have h2:=hM4.fr.size;have h3:=HY.out.2.2.1.size;have h4:=HY.out.2.2.2.2;have h5:=HX.out.2;have h6:=HM2.out.2.size;have h7:=HM1.out.1.row.lt;have h8:=HM2.out.1.fr.size;have h9:t8<wr.heap.size:=World.block_lt_of_cell? wr _ y0;exact⟨⟨HO.out i (by omega),by omega⟩,by omega⟩
         have HO2:=hid hO2;clear hM4 hFX hcell hok hwd hyy hbd hyw hy64 hen hx hb3 hO2;go_wp2_with fail;refine HEN.out.mono ?_;rintro e w4 ⟨rfl,hb4⟩;have hb34:=(jq wr (.cells #[.int .i64 xo,.int .i64 xa,.int .i64 xb,.int .i64 xc,.int .i64 xn] 41)).trans (hb4.mono (jq wr _).size);obtain⟨Rr,ar⟩:=HM4.out.1.m;have a4:=ar.below hb34;have hrow:RowA w4 gm k (Z2 C (zj C.now cs tx) k):=by
          have h:=((((HM1.out.1.row.fr HM2.out.1.fr (fun q=>q.2 rfl)).below HY.out.2.2.1).fr HM4.out.1.fr (fun q=>q.1.2 rfl)).below hb34);rw[HN.out.2] at h;exact h
         obtain⟨ad,had⟩:∃ad,JN C (zj C.now cs tx) (C.now.length+j)=ad:=⟨_,rfl⟩;have cm:w4.cell? ⟨gm,j,none⟩=some (.int .i64 ad):=by
          rw[hrow.cell hlt];unfold Z2;rw[if_pos hlt,had]
         have z0:=jm hb34 y0;have x0:=a4.c0;have htl:(ju (l.take j)).length+(jI c.ls).length<=tx.length:=by
          have e1:=jbU HCS.out.2.2.2.2.2.2;have e2:=jhp (l:=l) (i:=j+1);rw[e1,zqm] at e2;rw[HTX.out];omega
         have hsum:IntKind.i64.wrap ((q:Int)+(m:Int))=(q:Int)+(m:Int):=jv (by omega) (by omega);have hst:=jgk (a4.drewN 1) (fun i hi=>HO2.out i (zqs hb34.size hi)) HP.out.k5 htl HF.out HCS.out.1 HWD.out.1 HWD.out.2 had;rw[Int.natCast_add] at hst;have HST:=hid (show Calls prog 29 #[.pointer (some ⟨b,0,none⟩),.int .i64 ad,.int .i64 ((q:Int)+(m:Int)),.int .u64 (y:Int)] w4.drew _ from hst);clear hst;have hd:w4.cell? ⟨g,0,none⟩=some (.pointer (some ⟨b,0,none⟩))/\w4.cell? ⟨gm,j,none⟩=some (.int .i64 ad)/\w4.cell? ⟨t8,0,none⟩=some (.slice Al q cl):=⟨x0,cm,z0⟩;have hdd:w4.drew.cell? ⟨g,0,none⟩=some (.pointer (some ⟨b,0,none⟩))/\w4.drew.cell? ⟨gm,j,none⟩=some (.int .i64 ad)/\w4.drew.cell? ⟨t8,0,none⟩=some (.slice Al q cl):=hd;have HB34:=hid (zqf hb34 a4);clear hb4 hb34 ar a4 hrow had cm z0 x0 htl g0 g1 g2 g3 g4;go_wp2_with fail;go_region_held3 (fun Y=>Y.cell? ⟨g,0,none⟩=some (.pointer (some ⟨b,0,none⟩))/\Y.cell? ⟨gm,j,none⟩=some (.int .i64 ad)/\Y.cell? ⟨t8,0,none⟩=some (.slice Al q cl))
          (first|(with_reducible assumption)|(with_reducible exact hd)|(with_reducible exact hdd))
          (first|(go_at_call 29;(with_reducible refine HST.out.mono ?_);rintro e w5 ⟨rfl,a5,hf5⟩;have hd5:=zqf a5.c0 (zqf (hf5.cell_some hdd.2.1 (fun z=>(HB34.out.2.om _ z).1.2 rfl)) (hf5.cell_some hdd.2.2 (fun z=>(HB34.out.2.om _ z).2 rfl)))))
         have hfin:Mk2 (fun i=>(O i/\i≠gm)/\i≠t8) Y2 g b C vf vs vh cs tx A (KK l j (q+(m+1))) ((ju (l.take j)).length+(jI c.ls).length) w5:=
          ⟨⟨_,a5⟩,((HM4.out.1.fr.trans (Fr.of_below (O:=fun i=>(O i/\i≠gm)/\i≠t8) HB34.out.1) (fun i hi=>.inl hi)).drewN 1).trans hf5 (fun i hi=>.inl (HB34.out.2.om i hi))⟩
         have HFIN:=hid hfin;clear hd hdd a5 hf5 hfin hd5 y0;go_wp2_with fail;go_roundw
         case rel=>exact⟨m+1,hlt3,by go_num,HFIN.out⟩
         case measure=>simp[intOf];omega
        ·obtain rfl:m=ni:=by omega
         have hfin:Mk2 (fun i=>O i/\i≠gm) Z g b C vf vs vh cs tx A (KK l (j+1) 0) (ju (l.take (j+1))).length wr:=by
          obtain⟨R',mm⟩:=hM4.m;have e1:=jrF HCS.out.2.2.2.2.2.2;rw[HCS.out.2.2.2.2.1,HCS.out.2.2.2.2.2.1] at e1;rw[<-e1,jbU HCS.out.2.2.2.2.2.2,zqm];exact⟨⟨R',mm.wide (fun i hi=>hi.1)⟩,(HM2.out.1.fr.trans (Fr.of_below (O:=fun i=>O i/\i≠gm) HY.out.2.2.1) (fun i hi=>.inl hi)).trans hM4.fr (fun i hi=>.inl hi.1)⟩
         have HFIN:=hid hfin;clear hM4 hfin;go_wp2_with fail;go_roundw
         case rel=>exact⟨j+1,hlt,by go_num,HFIN.out⟩
         case measure=>simp[intOf];omega
    ·obtain rfl:j=k:=by omega
     have hlk:l.take j=l:=zqp (by rw[HN.out.1];exact zqg _);have hW:C.W<=65536:=by obtain⟨R',mm⟩:=hM.m;exact mm.z.w1
     have hrow:RowA wr gm j (Z2 C (zj C.now cs tx) j):=by
      have h:=HM1.out.1.row.fr hM.fr (fun q=>q.2 rfl);rw[HN.out.2] at h;exact h
     obtain⟨p,hp⟩:∃p,(JN C (zj C.now cs tx) C.now.length).toNat=p:=⟨_,rfl⟩;have hb1:=jcE (C:=C) HF.out hW C.now.length;have hb2:=jmj (C:=C) HF.out hW (p:=C.now.length) (by rw[jdb];have:=HN.out.2;omega);have cm:wr.cell? ⟨gm,0,none⟩=some (.int .i64 (p:Int)):=by
      rw[hrow.cell (by omega)];unfold Z2;rw[if_pos (by omega),Nat.add_zero,<-hp];congr 2;omega
     obtain⟨pp,hpp⟩:∃pp,2*p=pp:=⟨_,rfl⟩;have HPW:=hid (fun Y=>show Calls prog 82 #[.int .i64 (p:Int)] Y (fun e w'=>e=.returned (.int .u64 ((pp:Nat):Int))/\w'=Y) from hpp▸jaT p (by omega) (by omega) Y);obtain⟨R',mm⟩:=hM.m;have e1:jX C.now cs A (KK l j 0) (tx.take (ju (l.take j)).length)=C.now++(cs++tx.map txO).map (jA A):=by
      rw[hlk,HTX.out,zqp (zqg _)];refine jnE HP.out.k5 (fun i o ho=>?_);have hi:=(zqb ho).1;obtain⟨c,hx⟩:∃c,l[i]?=some c:=⟨_,zqh (by have:=HN.out.1;have:=HN.out.2;omega)⟩;obtain⟨ws,h3,h4,_⟩:=HP.out.at_ i c hx;rw[ho] at h3;cases h3
      unfold KK jkP;rw[if_pos (by have:=HN.out.2;omega),hx];show ws.length+c.ins.length<=c.ls.length+c.ins.length;omega
     rw[e1] at mm;have m3:=(mm.wide (O2:=O) (fun i hi=>hi.1)).code pp;have hfr:=(HM1.out.1.fr.trans hM.fr (fun i hi=>.inl hi.1)).setCell (p:=⟨g,1043,none⟩) (.inl mm.og.1) (.int .u64 (pp:Int));have c43:=mm.ccd;have z43:=mm.fz 1043;have hn1:(0:Int)<(j:Int):=by omega
     have HFIN:=hid (zqf m3 (zqf hfr (hpp.symm.trans (congrArg (2* ·) hp.symm))));clear hM hlk hrow hp hb1 hb2 hpp mm e1 m3 hfr;go_wp2_with (go_at_call 82;refine(HPW.out _).mono ?_;rintro e w' ⟨rfl,hw'⟩;subst w');refine bodyPost_end (results_none rfl _ _ _) rfl ?_;refine⟨⟨_,rfl⟩,⟨R',?_⟩,HFIN.out.2.1⟩;rw[<-HFIN.out.2.2];exact HFIN.out.1
end
