/- A part of the proof of MachineMore. Conditions: those that each theorem names. -/
import Derived.Test.YtklcmdoadmcpfaaGreatDoorR45
set_option maxRecDepth 100000
set_option maxHeartbeats 400000000
namespace Go.Proofs.YtklcmdoadmcpfaaGreatDoor
open Go Go.RowKit IsaL
open Go.Lib(hid)
open Go.Proofs.Tryz(prog)
section
variable {O:Nat->Prop} {w:World} {g b:Nat} {M:RM} {C:CM} {R:Nat->Value} {vf vs vh:Value} {D:Nat->Prop} {f A:Nat->Nat}
theorem jqa (a:McAt O w g C b R vf vs vh):Calls prog 27 #[.pointer (some ⟨g,0,none⟩)] w fun e w'=>e=.returned (.pointer (some ⟨w.heap.size,0,none⟩))/\(∃V,zi w' w.heap.size C.W C.h V C.now C.old)/\Below w.heap.size w w':=by
 have c0:=a.bx.cell (j:=0) (by omega);rw[jt3] at c0;have HN:=hid (QA a.bx rfl);have HC:=hid (jhF a.m a.z.sizes);clear a;go_enter Tryz.func27,Tryz.ntmps27;go_wp2_with fail;refine(HN.out).mono ?_;rintro e w1 ⟨rfl,hw1⟩;subst w1;go_wp2_with fail;refine(HC.out).mono ?_;rintro e w2 ⟨rfl,V,hm,_,hb⟩;have HB:=hid (zqf (show∃V,zi w2 w.heap.size C.W C.h V C.now C.old from⟨V,hm⟩) hb);clear hb hm;go_wp2_with fail;go_ret;exact⟨rfl,HB.out⟩
theorem jpz (a:McAt O w g C b R vf vs vh) {k:Nat} (hk:k<1024):Calls prog 66 #[.pointer (some ⟨g,0,none⟩),.int .i64 (k:Int)] w fun e w'=>e=.returned (.int .u64 (C.gl k:Int))/\w'=w:=jmZ a.bx rfl hk (jp3 _ _ _ _ _ k hk)
def GrP (w:World) (M:RM) (e:Ending) (w':World):Prop:=(∃B v,w.heap.size<=B/\e=.returned (.tuple #[v,.bool true])/\w'.ownsRow B 65 1 v (grR M).length (u64s (grR M)))/\Below w.heap.size w w'
theorem jjN (s:Sim M C D f A) {ord:List Nat} (h:ord<+:z8 M):(ord.map A).length<=1000000:=by
 have h1:=h.length_le;have h2:=s.ofK.2.2.1;rw[List.length_map];omega
theorem jma (s:Sim M C D f A) {v:RWd} (hd:∀k,v=.P k->D k):jw A v<18446744073709551616:=by
 cases v with
 |I n=>
  show(jO n).toNat<_;unfold jO;omega
 |P k=>
  obtain⟨o,_,_,q⟩:=s.ob k (hd k rfl);have:=(jbz s.z (zqb q).1).2.2.2;show A k<_;rw[s.ad k];omega
theorem jr6 (a:McAt O w g C b R vf vs vh) (s:Sim M C D f A):
  Calls prog 23 #[.pointer (some ⟨g,0,none⟩)] w (GrP w M):=by
 obtain⟨i0,hi,hz0,hz1,hz2⟩:=info_parts infoU64;have HM:=hid (jqa a);have HV:=hid (fun(Y:World) (hb:Below w.heap.size w Y)=>jka (a.below hb));have HG:=hid (fun(Y:World) (hb:Below w.heap.size w Y) (k:Nat) (hk:k<1024)=>jpz (a.below hb) hk);have HS:=hid s;have hpn:((some (⟨w.heap.size,0,none⟩:Addr))==none)=false:=rfl;clear a s;go_enter Tryz.func23,Tryz.ntmps23;go_wp2_with fail;refine(HM.out).mono ?_;rintro e w1 ⟨rfl,⟨V,hm⟩,hb1⟩;have HB1:=hid hb1;have HME:=hid hm;clear hb1 hm;go_wp2_with fail;refine((HV.out _ HB1.out)).mono ?_;rintro e w' ⟨rfl,hw'⟩;subst w';have HVA:=hid (show wordN C.va []=(qZ (z8 M) M.value,(Zm M 0).map A) from by
  rw[HS.out.va];have h:=jek HS.out.ainj HS.out.cor.ev (HS.out.keepD.2 M.value (by simp[zP])) (fun j e=>HS.out.keepD.1 j (by simp[zP,e])) (ord:=[]) (fun j hj=>by cases hj);rw[jej (F:=z8 M) (jci M 0)] at h;exact h)
 have HWV:=hid (fun v (hq:w1.ownsRow w1.heap.size 65 1 v ([]:List Nat).length (u64s []))=>word_any (w0:=w1) (Below.refl _ w1) hq C.va (by rw[HS.out.va];exact jma HS.out fun j e=>HS.out.keepD.1 j (by simp[zP,e])) (by simp));go_wp2_with fail;refine((HWV.out _ (GSt.nil w1).q)).mono ?_;rintro e w2 hw2;rw[HVA.out] at hw2;obtain⟨g2,q2,a2,b2,r2,rfl,c2,s2⟩:=(GSt.nil w1).word hw2;have HC2:=hid (zqf c2 (zqf s2 r2));clear hw2 c2 s2 r2;go_wp2_with (at_builtin;go_loud (refine wpList_append_lies _ rfl _ _ 51 rfl w1.heap.size 65 i0 (.int .u64 0) 1 8 Tryz.underlying51 hi hz0 hz1 hz2 rfl (by decide) (.slice none 0 0) 0 (u64s ([]:List Nat)) rfl HC2.out.2.1.o ⟨g2,0,none⟩ 2 2 [.int .u64 (a2:Int),.int .u64 (b2:Int)] rfl rfl HC2.out.1 (by simp[Value.oneCell']) (by decide) (by unfold maxLen;omega) (by omega) HC2.out.2.1.bl.size _ rfl ?_);intro g3 cap3 w3 hown3 hgrow3 hblk3 _;have H3:=hid (zqf hown3 (zqf hgrow3 hblk3));clear hown3 hgrow3 hblk3);have HS3:=hid (show GSt w1 w3 (.slice (some ⟨g3,0,none⟩) 2 cap3) q2 (QB M 0) ((Zm M 0).map A) from by
  have h:=HC2.out.2.1.app (r:=[a2,b2]) (m:=2) (n:=0) rfl rfl H3.out.1 H3.out.2.1 H3.out.2.2;rw[<-show qZ (z8 M) M.value=[a2,b2] from HC2.out.2.2] at h;have e:QB M 0=[]++qZ (z8 M) M.value:=by simp[QB,zP]
  rw[e];exact h)
 clear HC2 H3;go_loopw [5,7,8] (fun o q i wr=>∃k:Nat,k<=1024/\i=.int .i64 k/\GSt w1 wr o q (QB M k) ((Zm M k).map A)) (fun _ _ i _=>1024-(intOf i).toNat)
 case atStart=>exact⟨0,by omega,rfl,HS3.out⟩
 case round=>
  obtain⟨k,hk,rfl,st⟩:=hrel;clear HS3;have HST:=hid st;have hbl:=HB1.out.trans (st.bl.mono HB1.out.size);have HBL:=hid hbl;clear st hbl;by_cases hlt:k<1024
  ·have b0:(0:Int)<=(k:Int):=by omega
   have b1:(k:Int)<1024:=by omega
   have HSA:=hid (HS.out.stepA hlt);have HWW:=hid (word_any (w0:=w1) HST.out.bl HST.out.q (C.gl k) (by rw[HS.out.gl k hlt];exact jma HS.out fun j e=>HS.out.keepD.1 j (e▸zqc (jb3 M hlt))) (jjN HS.out (jci M k)));obtain⟨n5,hn5⟩:∃n5,(QB M k).length=n5:=⟨_,rfl⟩;have hb5:n5<=10000:=by
    rw[<-hn5];unfold QB;rw[jcn,List.length_take];omega
   have HN5:=hid hn5;clear hn5;go_wp2_with fail;refine((HG.out _ HBL.out k hlt)).mono ?_;rintro e w' ⟨rfl,hw'⟩;subst w';go_wp2_with fail;refine HWW.out.mono ?_;rintro e w4 hw4;rw[HSA.out.1] at hw4;obtain⟨g4,q4,a4,b4,r4,rfl,c4,s4⟩:=HST.out.word hw4;have HC4:=hid (zqf c4 (zqf s4 r4));clear hw4 c4 s4 r4;go_wp2_with (at_builtin;go_loud (refine wpList_append_lies _ rfl _ _ 51 rfl w1.heap.size 65 i0 (.int .u64 0) 1 8 Tryz.underlying51 hi hz0 hz1 hz2 rfl (by decide) u5 n5 (u64s (QB M k)) rfl (HN5.out▸HC4.out.2.1.o) ⟨g4,0,none⟩ 2 2 [.int .u64 (a4:Int),.int .u64 (b4:Int)] rfl rfl HC4.out.1 (by simp[Value.oneCell']) (by decide) (by unfold maxLen;omega) (by omega) HC4.out.2.1.bl.size _ rfl ?_);intro g7 cap7 w7 hown7 hgrow7 hblk7 _;have H7:=hid (zqf hown7 (zqf hgrow7 hblk7));clear hown7 hgrow7 hblk7);have HS7:=hid (show GSt w1 w7 (.slice (some ⟨g7,0,none⟩) (n5+2) cap7) q4 (QB M (k+1)) ((Zm M (k+1)).map A) from by
    have h:=HC4.out.2.1.app (r:=[a4,b4]) (m:=2) rfl HN5.out H7.out.1 H7.out.2.1 H7.out.2.2;rw[<-show qZ (z8 M) (M.gl k)=[a4,b4] from HC4.out.2.2,<-HSA.out.2] at h;exact h)
   clear HC4 H7;go_wp2_with fail;go_roundw
   case rel=>exact⟨k+1,hlt,by go_num,HS7.out⟩
   case measure=>simp[intOf];omega
  ·obtain rfl:k=1024:=by omega
   go_wp2_with fail;have HSB:=hid (show BfsS M 0 (Zm M 1024)/\GSt w1 wr u5 u7 (Zn M 0) ((Zm M 1024).map A) from by
    rw[<-(jfQ M).2];exact⟨(jfQ M).1,HST.out⟩)
   clear HST HBL hk hlt;go_loopw [5,7,9] (fun o q i wr=>∃(k:Nat) (ord:List Nat),i=.int .i64 k/\k<=ord.length/\BfsS M k ord/\GSt w1 wr o q (Zn M k) (ord.map A)) (fun _ _ i _=>M.objs.length+1-(intOf i).toNat)
   case atStart=>exact⟨0,_,rfl,Nat.zero_le _,HSB.out.1,HSB.out.2⟩
   case round=>
    obtain⟨k,ord,rfl,hk,hbf,st⟩:=hrel;clear HSB;obtain⟨Aq,cq,rfl,_⟩:=jH st.q;obtain⟨nq,hnq⟩:∃nq,(ord.map A).length=nq:=⟨_,rfl⟩;rw[hnq];have hnq2:ord.length=nq:=by rw[<-hnq,List.length_map]
    have hnq3:nq<=65536:=by
     have h1:=hbf.pre.length_le;have h2:=HS.out.ofK.2.2.1;omega
    rw[hnq2] at hk;have HNQ:=hid (zqf hnq hnq2);have HST:=hid st;have HBF:=hid hbf;have b0:(0:Int)<=(k:Int):=by omega
    clear st hbf hnq hnq2;by_cases hlt:k<nq
    ·have b1:(k:Int)<(nq:Int):=by omega
     obtain⟨j,hj⟩:∃j,ord[k]?=some j:=⟨_,zqh (by have:=HNQ.out.2;omega)⟩;obtain⟨hD,hko,hb2,ho2⟩:=HS.out.stepB HBF.out hj;obtain⟨o1,oR,_⟩:=HS.out.at_ hD;obtain⟨o',p1,_,p3⟩:=HS.out.ob j hD;rw[o1] at p1;obtain rfl:=zqd p1;obtain⟨gq,capq,e2,_,hgl⟩:=HST.out.q.form (by have:=HNQ.out.1;omega);obtain rfl:Aq=some ⟨gq,0,none⟩:=by cases e2;rfl
     have hc:wr.cell? ⟨gq,k,none⟩=some (.int .u64 ((A j:Nat):Int)):=by
      have h:=HST.out.q;rw[h.cellAt k (by have:=HNQ.out.1;omega),jcu _ _ (by have:=HNQ.out.1;omega)];rw[zqi,List.getElem?_map,hj];rfl
     have had:=jbz HS.out.z (zqb p3).1;rw[<-HS.out.ad j] at had;obtain⟨aj,haj⟩:∃aj,A j=aj:=⟨_,rfl⟩;rw[haj] at hc had;obtain⟨had1,had2,had3,had4⟩:=had;have htp:jc (aj:Int)=(aj:Int)/2:=by
      unfold jc;rw[if_pos (by omega)]
     have hp:=jeZ oR A;obtain⟨o,ho⟩:∃o,Ji M.objs j=o:=⟨_,rfl⟩;rw[ho] at p3 oR hp;obtain⟨kk,hkk⟩:∃kk,o.k=kk:=⟨_,rfl⟩;obtain⟨tg,htg⟩:∃tg,o.ws.length=tg:=⟨_,rfl⟩;obtain⟨sz,hsz⟩:∃sz,o.ws.length+(Z4 o).length=sz:=⟨_,rfl⟩;have hkk5:kk<=5:=by rw[<-hkk];rcases oR.kd with q|q|q<;>omega
     have htgs:tg<=sz:=by omega
     have hsz4:sz<=40000:=by have:=jfA oR;omega
     have hwl:(jA A o).ws.length=sz:=by rw[hp.2.2,zqm,List.length_map];exact hsz
     have hix:jl C.now C.h C.W ((aj:Int)/2)=some (f j):=by
      rw[<-htp];have h:=HS.out.cor.hit j hD;rw[haj] at h;exact h
     have HLK:=hid (fun(Y:World) (hY:Below w1.heap.size w1 Y)=>show Calls prog 67 #[.pointer (some ⟨w.heap.size,0,none⟩),.int .i64 ((aj:Int)/2)] Y (fun e w'=>e=.returned (.tuple #[.int .i64 (kk:Int),.int .i64 (sz:Int),.int .i64 (tg:Int),.int .i64 0])/\∃n,w'=Y.drewN n) from by
      have h:=qR (MemV.below HME.out hY) HS.out.z ((aj:Int)/2) (by omega) hix p3;rw[hp.1,hp.2.1,hwl,hkk,htg] at h;exact h)
     have HLD:=hid (fun(Y:World) (hY:Below w1.heap.size w1 Y) (r:Nat) (hr:r<sz)=>show Calls prog 68 #[.pointer (some ⟨w.heap.size,0,none⟩),.int .i64 ((aj:Int)/2),.int .i64 (r:Int)] Y (fun e w'=>e=.returned (.tuple #[.int .u64 (((jA A o).ws.getD r 0:Nat):Int),.int .i64 0])/\∃n,w'=Y.drewN n) from Qz (MemV.below HME.out hY) HS.out.z ((aj:Int)/2) r (by omega) hix p3 (by rw[hwl];exact hr));have HO:=hid (zqf ho (zqf oR (zqf hp.2.2 (zqf hkk (zqf htg hsz)))));have HB2:=hid (zqf hD (zqf hko (zqf hb2 (zqf ho2 hj))));have HAJ:=hid haj;have d1:decide ((sz:Int)<(tg:Int))=false:=zqq (by omega);have a0:(0:Int)<=(aj:Int):=by omega
     have a1:(aj:Int)<=262144:=by omega
     clear hD hko hb2 ho2 o1 oR p3 e2 had1 had2 had3 htp hp ho hkk htg hsz hwl hix haj hj;go_wp2_with fail;refine(HLK.out wr HST.out.bl).mono ?_;rintro e w' ⟨rfl,q8,hw'⟩;subst w';have HS8:=hid (HST.out.drewN q8);obtain⟨Y8,hY8⟩:∃Y8,wr.drewN q8=Y8:=⟨_,rfl⟩;rw[hY8] at HS8 ⊢;clear hY8;have HC9:=hid (show∀j u,[Value.int .u64 (kk:Int),.int .u64 (sz:Int)][j]?=some u->(Y8.alloc (.cells #[.int .u64 (kk:Int),.int .u64 (sz:Int)] 65)).cell? ((⟨Y8.heap.size,0,none⟩:Addr).add j)=some u from World.news_of_block (cs:=#[_,_]) (zqe Y8 _));obtain⟨n9,hn9⟩:∃n9,(Zn M k).length=n9:=⟨_,rfl⟩;have hb9:n9<=10000000000:=by
      have h1:=jih M k;have h2:=HS.out.grLen;omega
     have HN9:=hid hn9;have HA8:=hid (HS8.out.alloc (.cells #[.int .u64 (kk:Int),.int .u64 (sz:Int)] 65));clear hn9;go_wp2_with (at_builtin;go_loud (refine wpList_append_lies _ rfl _ _ 51 rfl w1.heap.size 65 i0 (.int .u64 0) 1 8 Tryz.underlying51 hi hz0 hz1 hz2 rfl (by decide) u5 n9 (u64s (Zn M k)) rfl (HN9.out▸HA8.out.o) ⟨Y8.heap.size,0,none⟩ 2 2 [.int .u64 (kk:Int),.int .u64 (sz:Int)] rfl rfl HC9.out (by simp[Value.oneCell']) (by decide) (by unfold maxLen;omega) (by omega) HA8.out.bl.size _ rfl ?_);intro g9 cap9 w9 hown9 hgrow9 hblk9 _;have H9:=hid (zqf hown9 (zqf hgrow9 hblk9));clear hown9 hgrow9 hblk9);have HS9:=hid (show GSt w1 w9 (.slice (some ⟨g9,0,none⟩) (n9+2) cap9) (.slice (some ⟨gq,0,none⟩) nq cq) (JH M o k 0) ((jB ord (o.ws.take 0)).map A) from by
      have h:=HA8.out.app (r:=[kk,sz]) (m:=2) rfl HN9.out H9.out.1 H9.out.2.1 H9.out.2.2;have e:JH M o k 0=Zn M k++[kk,sz]:=by
       unfold JH;rw[HO.out.2.2.2.1,HO.out.2.2.2.2.2];simp
      rw[e];rw[HNQ.out.1] at h;exact h)
     clear H9 HA8 HC9 HS8;go_loopw [5,7,14] (fun p q i wz=>∃r:Nat,i=.int .i64 r/\r<=sz/\GSt w1 wz p q (JH M o k r) ((jB ord (o.ws.take r)).map A)) (fun _ _ i _=>sz-(intOf i).toNat)
     case atStart=>exact⟨0,rfl,Nat.zero_le _,HS9.out⟩
     case round=>
      obtain⟨r,rfl,hr,st⟩:=hrel;clear HS9;have b2:(0:Int)<=(r:Int):=by omega
      by_cases hlr:r<sz
      ·have b3:(r:Int)<(sz:Int):=by omega
       have hp2:ord<+:jB ord (o.ws.take r):=J6 _ _;have hp3:jB ord (o.ws.take r)<+:z8 M:=by
        have h:=HB2.out.2.2.1.pre;rw[HO.out.1] at h;refine List.IsPrefix.trans ?_ h;have e:jB ord o.ws=jB (jB ord (o.ws.take r)) (o.ws.drop r):=by
         unfold jB;rw[<-List.foldl_append,List.take_append_drop]
        rw[e];exact J6 _ _
       have hkj:(jB ord (o.ws.take r))[k]?=some j:=by
        obtain⟨t,ht⟩:=hp2;rw[<-ht,zqo (by have:=HNQ.out.2;omega)];exact HB2.out.2.2.2.2
       have hol:=jjN HS.out hp3;obtain⟨Ap,cp,rfl,_⟩:=jH st.q;obtain⟨np,hnp⟩:∃np,((jB ord (o.ws.take r)).map A).length=np:=⟨_,rfl⟩;rw[hnp] at hol ⊢;have hkn:k<np:=by
        rw[<-hnp,List.length_map];exact(zqb hkj).1
       have b4:(k:Int)<(np:Int):=by omega
       obtain⟨gp,capp,e2,_,hgp⟩:=st.q.form (by omega);obtain rfl:Ap=some ⟨gp,0,none⟩:=by cases e2;rfl
       have hc:wr.cell? ⟨gp,k,none⟩=some (.int .u64 (aj:Int)):=by
        have h:=st.q;rw[h.cellAt k (by omega),jcu _ _ (by omega)];rw[zqi,List.getElem?_map,hkj,<-HAJ.out];rfl
       have hbl3:=st.bl;rw[hnp] at st;have HST3:=hid st;have HNP:=hid hnp;obtain⟨xv,hxv⟩:∃xv,(jA A o).ws.getD r 0=xv:=⟨_,rfl⟩;have HLD2:=hid (HLD.out wr hbl3 r hlr);rw[hxv] at HLD2;have HXV:=hid hxv;have HP3:=hid (zqf hp3 HO.out.2.2.1);clear hp2 hp3 hkj hnp e2 st hxv hbl3;obtain⟨nc,hnc⟩:∃nc,(JH M o k r).length=nc:=⟨_,rfl⟩;have hbc:nc<=20000000000:=by
        have h1:=jqt HO.out.2.1 M k r;have h2:=HS.out.grLen;omega
       have HNC:=hid hnc;clear hnc;by_cases ht:r<tg
       ·have b5:(r:Int)<(tg:Int):=by omega
        obtain⟨v,hv⟩:∃v,o.ws[r]?=some v:=⟨_,zqh (by have:=HO.out.2.2.2.2.1;omega)⟩;have hxv2:xv=jw A v:=by
         rw[<-HXV.out,HP3.out.2,zqi,zqo (by have:=HO.out.2.2.2.2.1;rw[List.length_map];omega),List.getElem?_map,hv];rfl
        have HSC:=hid (show wordN xv ((jB ord (o.ws.take r)).map A)=(qZ (z8 M) v,(jB ord (o.ws.take (r+1))).map A)/\JH M o k (r+1)=JH M o k r++qZ (z8 M) v from by
         have h:=HS.out.stepC (j:=j) (k:=k) (r:=r) (ord:=ord) (v:=v) HB2.out.1 HB2.out.2.2.1.pre (by rw[HO.out.1];exact hv);rw[HO.out.1] at h;rw[hxv2];exact h)
        have hxl:xv<18446744073709551616:=by
         rw[hxv2];exact jma HS.out fun i e=>HS.out.cl j HB2.out.1 i (by
          unfold zK;rw[(HS.out.at_ HB2.out.1).1];show RWd.P i∈(Ji M.objs j).ws;rw[HO.out.1,<-e];exact zqc hv)
        have HXL:=hid hxl;clear hv hxv2 hxl;go_wp2_with fail;refine HLD2.out.mono ?_;rintro e w' ⟨rfl,q10,hw'⟩;subst w';have HS10:=hid (HST3.out.drewN q10);obtain⟨Y10,hY10⟩:∃Y10,wr.drewN q10=Y10:=⟨_,rfl⟩;rw[hY10] at HS10 ⊢;clear hY10;have HS11:=hid (HS10.out.alloc (.cells #[.int .u64 (xv:Int)] 65));have HWW:=hid (word_any (w0:=w1) HS11.out.bl HS11.out.q xv HXL.out (HNP.out▸hol));rw[HSC.out.1] at HWW;go_wp2_with fail;refine HWW.out.mono (HS11.out.use ?_);intro g12 q12 a12 b12 w12 r12 c12 s12;have HC12:=hid (zqf c12 (zqf s12 r12));clear c12 s12 r12;go_wp2_with (at_builtin;go_loud (refine wpList_append_lies _ rfl _ _ 51 rfl w1.heap.size 65 i0 (.int .u64 0) 1 8 Tryz.underlying51 hi hz0 hz1 hz2 rfl (by decide) u5 nc (u64s (JH M o k r)) rfl (HNC.out▸HC12.out.2.1.o) ⟨g12,0,none⟩ 2 2 [.int .u64 (a12:Int),.int .u64 (b12:Int)] rfl rfl HC12.out.1 (by simp[Value.oneCell']) (by decide) (by unfold maxLen;omega) (by omega) HC12.out.2.1.bl.size _ rfl ?_);intro g13 cap13 w13 hown13 hgrow13 hblk13 _;have H13:=hid (zqf hown13 (zqf hgrow13 hblk13));clear hown13 hgrow13 hblk13);have HS13:=hid (show GSt w1 w13 (.slice (some ⟨g13,0,none⟩) (nc+2) cap13) q12 (JH M o k (r+1)) ((jB ord (o.ws.take (r+1))).map A) from by
         have h:=HC12.out.2.1.app (r:=[a12,b12]) (m:=2) rfl HNC.out H13.out.1 H13.out.2.1 H13.out.2.2;rw[<-show qZ (z8 M) v=[a12,b12] from HC12.out.2.2,<-HSC.out.2] at h;exact h)
        clear HC12 H13;go_wp2_with fail;go_roundw
        case rel=>exact⟨r+1,by go_num,hlr,HS13.out⟩
        case measure=>simp[intOf];omega
       ·have d5:decide ((r:Int)<(tg:Int))=false:=zqq (by omega)
        have hx2:(Z4 o)[r-o.ws.length]?=some xv:=by
         have h1:=HO.out.2.2.2.2.1;have h2:=HO.out.2.2.2.2.2;rw[<-HXV.out,HP3.out.2,zqi,zqn (by rw[List.length_map];omega),List.length_map,zqh (by omega)];rfl
        have HSC:=hid (juL (M:=M) (k:=k) (ord:=ord) (by have:=HO.out.2.2.2.2.1;omega) hx2);clear hx2;go_wp2_with fail;refine HLD2.out.mono ?_;rintro e w' ⟨rfl,q10,hw'⟩;subst w';have HS10:=hid (HST3.out.drewN q10);obtain⟨Y10,hY10⟩:∃Y10,wr.drewN q10=Y10:=⟨_,rfl⟩;rw[hY10] at HS10 ⊢;clear hY10;have HS11:=hid (HS10.out.alloc (.cells #[.int .u64 (xv:Int)] 65));have HC11:=hid (jfT Y10 65 (.int .u64 (xv:Int)) Y10.heap.size rfl);go_wp2_with (at_builtin;go_loud (refine wpList_append_lies _ rfl _ _ 51 rfl w1.heap.size 65 i0 (.int .u64 0) 1 8 Tryz.underlying51 hi hz0 hz1 hz2 rfl (by decide) u5 nc (u64s (JH M o k r)) rfl (HNC.out▸HS11.out.o) ⟨Y10.heap.size,0,none⟩ 1 1 [.int .u64 (xv:Int)] rfl rfl HC11.out (by simp[Value.oneCell']) (by decide) (by unfold maxLen;omega) (by omega) HS11.out.bl.size _ rfl ?_);intro g13 cap13 w13 hown13 hgrow13 hblk13 _;have H13:=hid (zqf hown13 (zqf hgrow13 hblk13));clear hown13 hgrow13 hblk13);have HS13:=hid (show GSt w1 w13 (.slice (some ⟨g13,0,none⟩) (nc+1) cap13) (.slice (some ⟨gp,0,none⟩) np cp) (JH M o k (r+1)) ((jB ord (o.ws.take (r+1))).map A) from by
         have h:=HS11.out.app (r:=[xv]) (m:=1) rfl HNC.out H13.out.1 H13.out.2.1 H13.out.2.2;rw[<-HSC.out.2] at h;rw[HSC.out.1];exact h)
        clear H13;go_wp2_with fail;go_roundw
        case rel=>exact⟨r+1,by go_num,hlr,HS13.out⟩
        case measure=>simp[intOf];omega
      ·obtain rfl:r=sz:=by omega
       have HS14:=hid (show BfsS M (k+1) (jB ord o.ws)/\GSt w1 wr u5 u7 (Zn M (k+1)) ((jB ord o.ws).map A) from by
        have h1:=HB2.out.2.2.1;have h2:=HB2.out.2.2.2.1;rw[HO.out.1] at h1 h2;have h3:=jqs M o k;rw[HO.out.2.2.2.2.2] at h3;have h:=st;rw[h3.1,h3.2] at h;rw[h2];exact⟨h1,h⟩)
       clear st;go_wp2_with fail;go_roundw
       case rel=>
        have hle:k+1<=(jB ord o.ws).length:=by
         have h1:=(J6 o.ws ord).length_le;have h2:=HNQ.out.2;omega
        repeat apply Exists.intro
        refine⟨?_,rfl⟩;exact⟨k+1,_,by go_num,hle,HS14.out.1,HS14.out.2⟩
       case measure=>have:=HB2.out.2.1;simp[intOf];omega
    ·obtain rfl:k=nq:=by omega
     have HF:=hid (show wr.ownsRow w1.heap.size 65 1 u5 (grR M).length (u64s (grR M))/\Below w.heap.size w wr from by
      have h:=HST.out.o;have e:=HNQ.out.2;have h2:=HBF.out;rw[<-e] at h h2;rw[HS.out.endB h2] at h;exact⟨h,HB1.out.trans (HST.out.bl.mono HB1.out.size)⟩)
     go_wp2_with fail;go_ret2;exact⟨⟨_,_,HB1.out.size,rfl,HF.out.1⟩,HF.out.2⟩
end
section
variable {O:Nat->Prop} {w:World} {g b:Nat} {M:RM} {C:CM} {R:Nat->Value} {vf vs vh:Value} {D:Nat->Prop} {f A:Nat->Nat}
theorem jt1 (a:McAt O w g C b R vf vs vh) (s:Sim M C D f A):
  Calls prog 25 #[.pointer (some ⟨g,0,none⟩)] w fun e w'=>e=.returned (.int .i64 ((Jp M:Nat):Int))/\Below w.heap.size w w':=by
 obtain⟨met,hr,hn,_⟩:=s.coll;have hlen:=jip s.ok s.s1;have hlt:=jjR s.ok;have c0:=a.c0;have HN:=hid (QA a.bx rfl);have hd:Below w.heap.size w w.drew:=(Below.refl _ w).drew;have HW:=hid ((jkd (w:=w.drew) (a.below hd) s.ok).mono (fun e w' h=>(show(∃p c,e=.returned (.slice p (j8 C).length c)/\Jg w' p (j8 C).length (j8 C))/\w'.cell? ⟨g,0,none⟩=some (.pointer (some ⟨b,0,none⟩))/\Below w.heap.size w w' from by
  obtain⟨⟨v,h1,h2⟩,h3⟩:=h;obtain⟨p,c,q1,q2,_⟩:=jdI h2 rfl (by omega) hlt;have hb:Below w.heap.size w w':=hd.trans h3;exact⟨⟨p,c,by rw[h1,q1],q2⟩,jm hb c0,hb⟩)))
 have HL:=hid (fun(W1:World) (hb:Below w.heap.size w W1) (p:Option Addr) (c:Nat) (hv:Jg W1 p (j8 C).length (j8 C))=>(jpV (MemV.below a.m hb) a.z (c:=c) hv).mono (fun e w' h=>zqf (show e=.returned (.tuple #[.int .i64 ((Jp M:Nat):Int),.int .i64 0]) from by
  have e1:jeP C.now C.h C.W (j8 C)=Jp M:=by unfold jeP;rw[hr];exact hn
  have e2:jbB C.now C.h C.W (j8 C)=0:=by unfold jbB;rw[hr]
  rw[h.1,e1,e2]) (show w'.cell? ⟨g,0,none⟩=some (.pointer (some ⟨b,0,none⟩))/\Below w.heap.size w w' from⟨jm (hb.trans (h.2.mono hb.size)) c0,hb.trans (h.2.mono hb.size)⟩)))
 obtain⟨N,hN⟩:∃N,(j8 C).length=N:=⟨_,rfl⟩;rw[hN] at HW HL;clear a s hr hn hlen hlt hd hN;go_enter Tryz.func25,Tryz.ntmps25;go_wp2_with fail;refine HN.out.mono ?_;rintro e w1 ⟨rfl,hw1⟩;subst w1;go_wp2_with fail;go_region_held3 (fun Y=>Y.cell? ⟨g,0,none⟩=some (.pointer (some ⟨b,0,none⟩))) (first|(with_reducible assumption)|exact c0|exact hc2|exact hc3) (first|(go_at_call 63;(with_reducible refine HW.out.mono ?_);rintro e w2 ⟨⟨p2,k2,rfl,hv2⟩,hc2,hb2⟩;have HB2:=hid (zqf hb2 hv2);clear hb2 hv2)|(go_at_call 69;(with_reducible refine(HL.out _ HB2.out.1 _ _ HB2.out.2).mono ?_);rintro e w3 ⟨rfl,hc3,hb3⟩;have HB3:=hid hb3;clear hb3));all_goals
  go_wp2_with fail;go_ret;exact⟨rfl,HB3.out⟩
end
section
variable {O P:Nat->Prop} {w V w1:World} {g b:Nat} {M N:RM} {C:CM} {R:Nat->Value} {vf vs vh:Value} {D:Nat->Prop} {f A:Nat->Nat} {E:List Nat}
theorem McAt.away (a:McAt O w g C b R vf vs vh) (hf:Fr P w w1) (h:∀i,O i->¬P i):McAt O w1 g C b R vf vs vh:=
 a.kept hf (h _ a.og) (fun i hi=>h i (a.om i hi)) (fun i hi=>h i (a.o1 i hi)) (fun i hi=>h i (a.o2 i hi)) (fun i hi=>h i (a.o3 i hi))
def MEnd (O:Nat->Prop) (Y:World) (g b:Nat) (N:RM):Prop:=∃C' R vf vs vh,McAt O Y g C' b R vf vs vh/\jaB (qX N) C'
theorem MEnd.away (a:MEnd O w g b N) (hf:Fr P w w1) (h:∀i,O i->¬P i):MEnd O w1 g b N:=by
 obtain⟨C',R,vf,vs,vh,a,fi⟩:=a;exact⟨C',R,vf,vs,vh,a.away hf h,fi⟩
theorem MEnd.wide {O2:Nat->Prop} (a:MEnd O w g b N) (h:∀i,O i->O2 i):MEnd O2 w g b N:=by
 obtain⟨C',R,vf,vs,vh,a,fi⟩:=a;exact⟨C',R,vf,vs,vh,a.wide h,fi⟩
section
variable (a:MEnd O w g b N)
include a
theorem MEnd.graph:Calls prog 23 #[.pointer (some ⟨g,0,none⟩)] w (GrP w (qX N)):=by
 obtain⟨C',R,vf,vs,vh,a,D,f,A,E,s,_⟩:=a;exact jr6 a s
theorem MEnd.live:Calls prog 25 #[.pointer (some ⟨g,0,none⟩)] w fun e w'=>e=.returned (.int .i64 ((Jp (qX N):Nat):Int))/\Below w.heap.size w w':=by
 obtain⟨C',R,vf,vs,vh,a,D,f,A,E,s,_⟩:=a;exact jt1 a s
theorem MEnd.collect (hO:∀i,w.heap.size<=i->O i):Calls prog 22 #[.pointer (some ⟨g,0,none⟩)] w fun e w'=>(∃v,e=.returned v)/\MEnd O w' g b N/\Fr O w w':=by
 obtain⟨C',R,vf,vs,vh,a,D,f,A,E,s,u⟩:=a;refine(jbo a s hO).mono ?_;rintro e w' ⟨h,C2,R2,D2,f2,A2,a2,s2,hf⟩;exact⟨h,⟨C2,R2,vf,vs,vh,a2,D2,f2,A2,E,s2,u⟩,hf⟩
theorem jr5:(grR (qX N)).length<=10000000000:=by
 obtain⟨C',R,vf,vs,vh,a,D,f,A,E,s,_⟩:=a;exact s.grLen
end
theorem jkc {w:World} {B n:Nat} {v:Value} {xs:List Nat} (h:w.ownsRow B 65 1 v n (u64s xs)) (hn:xs.length=n):NumL.Words w.heap.size w v xs:=by
 subst hn;rcases h.2 with⟨rfl,h0⟩|⟨g,cap,cur,rfl,hbg,hg,hc,_⟩
 ·exact .inl ⟨rfl,List.length_eq_zero_iff.1 h0⟩
 ·refine .inr ⟨g,0,cap,rfl,(zqa hg).1,hc,fun j hj=>?_⟩
  rw[Nat.zero_add,h.cellAt j (by omega)];unfold u64s;simp[List.getD,hj]
theorem jox {B B2:Nat} {v1 v2:Value} {xs:List Nat} (hl:xs.length<=10000000000) (h1:w.ownsRow B 65 1 v1 xs.length (u64s xs)) (h2:w.ownsRow B2 65 1 v2 xs.length (u64s xs)):
  Calls prog 24 #[v1,v2] w fun e w'=>e=.returned (.bool true)/\Below w.heap.size w w':=
 (NumL.jqW v1 v2 xs xs (by omega) w (jkc h1 rfl) (jkc h2 rfl)).mono fun e w' ⟨h1,h2⟩=>⟨by rw[h1,zqr rfl],h2⟩
end
