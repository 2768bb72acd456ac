/- A part of the proof of MachineMore. Conditions: those that each theorem names. -/
import Derived.Test.YtklcmdoadmcpfaaGreatDoorR44
set_option maxRecDepth 100000
set_option maxHeartbeats 400000000
namespace Go.Proofs.YtklcmdoadmcpfaaGreatDoor
open Go Go.RowKit IsaL
open Go.Lib(hid)
open Go.Proofs.Tryz(prog)
section
variable {M:RM} {C:CM} {D:Nat->Prop} {f A:Nat->Nat}
theorem jpS (now:List Ob):now.length<=used now:=by
 induction now with
 |nil=>exact Nat.zero_le _
 |cons o r ih=>
  have e:used (o::r)=1+o.ws.length+used r:=by simp[used]
  rw[e,List.length_cons];omega
theorem Sim.ainj (s:Sim M C D f A) (i j:Nat) (hi:D i) (hj:D j) (e:A i=A j):i=j:=by
 have h1:=s.cor.hit i hi;have h2:=s.cor.hit j hj;rw[e,h2] at h1;exact s.inj i j hi hj (zqd h1).symm
theorem Sim.keepD (s:Sim M C D f A):(∀k,RWd.P k∈zP M->D k)/\∀v∈zP M,Wr v:=by
 have hm:∀v,v∈zP M->v∈jr M:=fun v hv=>by
  rcases List.mem_cons.1 hv with rfl|hv
  ·exact ja.2 (.inr (.inr (.inr (.inr rfl))))
  ·obtain⟨k,hk,rfl⟩:=List.mem_map.1 hv
   exact ja.2 (.inr (.inr (.inl ⟨k,List.mem_range.1 hk,rfl⟩)))
 exact⟨fun k hk=>s.rt k (hm _ hk),fun v hv=>s.wr v (hm v hv)⟩
theorem Sim.ofK (s:Sim M C D f A):(∀i∈z8 M,D i)/\(z8 M).Nodup/\(z8 M).length<=65536/\(z8 M).length<=M.objs.length:=by
 obtain⟨_,h1,h2⟩:=s.cor.order (zP M) s.keepD.1;refine⟨h1,h2,?_,Q5 h2 (fun j hj=>s.cor.lt j (h1 j hj))⟩;have h3:((z8 M).map f).Nodup:=List.pairwise_map.2 (List.Pairwise.imp_of_mem (fun{i j} hi hj hn e=>hn (s.inj i j (h1 i hi) (h1 j hj) e)) h2);have h4:=Q5 h3 (n:=C.now.length) (fun j hj=>by
  obtain⟨i,hi,rfl⟩:=List.mem_map.1 hj;obtain⟨o,_,_,q⟩:=s.ob i (h1 i hi);exact(zqb q).1)
 have h5:=jpS C.now;have h6:=s.z.un;have h7:=s.z.w1;rw[List.length_map] at h4;omega
theorem jfA {o:RObj} (h:ObjR o):(Z4 o).length+o.ws.length<=40000:=by
 have e:=Qb o (fun _=>0);rw[(jeZ h _).2.2,zqm,List.length_map] at e;unfold RObj.words at e;rcases h.kd with⟨q1,q2,_,_,q3⟩|⟨q1,q2,q3,q4⟩|⟨q1,_,q3⟩
 ·rw[if_neg (by omega),q2,List.length_nil] at e
  omega
 ·rw[if_pos q1] at e
  omega
 ·rw[if_neg (by omega)] at e
  omega
theorem jqm {F:List Nat} {o:RObj} (h:ObjR o):(jcc F o).length<=100000:=by
 have:=jfA h;unfold jcc;rw[zqm,zqm,jcn];simp;omega
theorem jmY {α:Type} {l:List α} {g:α->List Nat} {B:Nat} (h:∀x∈l,(g x).length<=B):(l.flatMap g).length<=l.length*B:=by
 induction l with
 |nil=>simp
 |cons x r ih=>
  have h1:=h x (by simp);have h2:=ih fun y hy=>h y (List.mem_cons_of_mem _ hy);rw[List.flatMap_cons,zqm,List.length_cons,Nat.succ_mul];omega
theorem Sim.at_ (s:Sim M C D f A) {i:Nat} (hi:D i):M.objs[i]?=some (Ji M.objs i)/\ObjR (Ji M.objs i)/\jD C (A i)=some (jA A (Ji M.objs i)):=by
 obtain⟨o,h1,h2,h3⟩:=s.obj hi;have e:Ji M.objs i=o:=by unfold Ji;rw[h1];rfl
 rw[e];exact⟨h1,h2,h3⟩
theorem Sim.grLen (s:Sim M C D f A):(grR M).length<=10000000000:=by
 obtain⟨h1,_,h3,_⟩:=s.ofK;have h4:=jmY (l:=z8 M) (g:=fun k=>jcc (z8 M) (Ji M.objs k)) (B:=100000) fun i hi=>jqm (s.at_ (h1 i hi)).2.1;unfold grR;rw[zqm,jcn];have h5:(zP M).length=1025:=by simp[zP]
 have h6:=Nat.mul_le_mul_right 100000 h3;omega
def QB (M:RM) (k:Nat):List Nat:=((zP M).take (k+1)).flatMap (qZ (z8 M))
def Zm (M:RM) (k:Nat):List Nat:=jB [] ((zP M).take (k+1))
theorem jb3 (M:RM) {k:Nat} (hk:k<1024):(zP M)[k+1]?=some (M.gl k):=by
 unfold zP;rw[List.getElem?_cons_succ,List.getElem?_map,List.getElem?_range hk];rfl
theorem jaz {α:Type} {l:List α} {k:Nat} {v:α} (h:l[k]?=some v):l.take (k+1)=l.take k++[v]:=by
 obtain⟨h1,h2⟩:=zqb h;rw[List.take_succ_eq_append_getElem h1,h2]
theorem jci (M:RM) (k:Nat):Zm M k<+:z8 M:=by
 have h:jB [] (zP M)=jB (Zm M k) ((zP M).drop (k+1)):=by
  unfold Zm jB;rw[<-List.foldl_append,List.take_append_drop]
 refine List.IsPrefix.trans ?_ (jdP _ _ _ _);rw[h];exact J6 _ _
theorem Sim.stepA (s:Sim M C D f A) {k:Nat} (hk:k<1024):wordN (C.gl k) ((Zm M k).map A)=(qZ (z8 M) (M.gl k),(Zm M (k+1)).map A)/\QB M (k+1)=QB M k++qZ (z8 M) (M.gl k):=by
 have hv:=zqc (jb3 M hk);have e1:Zm M (k+1)=Jq (Zm M k) (M.gl k):=by
  unfold Zm;rw[jaz (jb3 M hk),jdB]
 have h:=jek s.ainj s.cor.ev (s.keepD.2 _ hv) (fun j e=>s.keepD.1 j (e▸hv)) (ord:=Zm M k) (fun j hj=>s.ofK.1 j ((jci M k).subset hj));have e2:Jq (Zm M k) (M.gl k)<+:z8 M:=by rw[<-e1];exact jci M (k+1)
 rw[jej e2,<-e1,<-s.gl k hk] at h;exact⟨h,by unfold QB;rw[jaz (jb3 M hk),jgy]⟩
def Zn (M:RM) (k:Nat):List Nat:=(zP M).flatMap (qZ (z8 M))++((z8 M).take k).flatMap fun j=>jcc (z8 M) (Ji M.objs j)
def BfsS (M:RM) (k:Nat) (ord:List Nat):Prop:=qU M.objs (M.objs.length+1-k) k ord=z8 M
theorem BfsS.pre {k:Nat} {ord:List Nat} (h:BfsS M k ord):ord<+:z8 M:=h▸jdP M.objs _ k ord
theorem jfQ (M:RM):BfsS M 0 (Zm M 1024)/\QB M 1024=Zn M 0:=by
 have h5:(zP M).length=1025:=by simp[zP]
 have e:(zP M).take (1024+1)=zP M:=zqp (by omega);refine⟨?_,?_⟩
 ·unfold BfsS Zm
  rw[e];rfl
 ·unfold QB Zn
  rw[e];simp
theorem Sim.stepB (s:Sim M C D f A) {k:Nat} {ord:List Nat} (h:BfsS M k ord) {j:Nat} (hj:ord[k]?=some j):D j/\k<M.objs.length/\BfsS M (k+1) (jB ord (Ji M.objs j).ws)/\Zn M (k+1)=Zn M k++jcc (z8 M) (Ji M.objs j):=by
 obtain⟨h1,_,_,h4⟩:=s.ofK;have hp:=h.pre;have hF:(z8 M)[k]?=some j:=by
  obtain⟨r,hr⟩:=hp;rw[<-hr,zqo (zqb hj).1];exact hj
 have hk:=(zqb hF).1;have hD:=h1 j (zqc hF);refine⟨hD,by omega,?_,?_⟩
 ·unfold BfsS at h ⊢
  rw[show M.objs.length+1-k=(M.objs.length+1-(k+1))+1 by omega] at h;unfold qU at h;rw[hj] at h;have e:zK M.objs j=(Ji M.objs j).ws:=by
   unfold zK;rw[(s.at_ hD).1]
  rw[<-e];exact h
 ·unfold Zn
  rw[jaz hF,List.flatMap_append,List.append_assoc];simp
theorem Sim.endB (s:Sim M C D f A) {ord:List Nat} (h:BfsS M ord.length ord):Zn M ord.length=grR M:=by
 have h4:=s.ofK.2.2.2;have hl:=h.pre.length_le;unfold BfsS at h;rw[show M.objs.length+1-ord.length=(M.objs.length-ord.length)+1 by omega] at h;unfold qU at h;rw[List.getElem?_eq_none (zqg _)] at h;have h:ord=z8 M:=h;unfold Zn grR;rw[<-h,zqp (zqg _)]
theorem jih (M:RM) (k:Nat):(Zn M k).length<=(grR M).length:=by
 have e:grR M=Zn M k++((z8 M).drop k).flatMap fun j=>jcc (z8 M) (Ji M.objs j):=by
  unfold grR Zn;rw[List.append_assoc,<-List.flatMap_append,List.take_append_drop]
 rw[e,zqm];omega
def JH (M:RM) (o:RObj) (k r:Nat):List Nat:=Zn M k++([o.k,o.ws.length+(Z4 o).length]++((o.ws.take r).flatMap (qZ (z8 M))++(Z4 o).take (r-o.ws.length)))
theorem Sim.stepC (s:Sim M C D f A) {j k r:Nat} {ord:List Nat} (hD:D j) (hp:jB ord (Ji M.objs j).ws<+:z8 M) {v:RWd} (hv:(Ji M.objs j).ws[r]?=some v):
  wordN (jw A v) ((jB ord ((Ji M.objs j).ws.take r)).map A)=(qZ (z8 M) v,(jB ord ((Ji M.objs j).ws.take (r+1))).map A)/\JH M (Ji M.objs j) k (r+1)=JH M (Ji M.objs j) k r++qZ (z8 M) v:=by
 have hm:=zqc hv;have hw:zK M.objs j=(Ji M.objs j).ws:=by unfold zK;rw[(s.at_ hD).1]
 have e1:jB ord ((Ji M.objs j).ws.take (r+1))=Jq (jB ord ((Ji M.objs j).ws.take r)) v:=by rw[jaz hv,jdB]
 have hq:jB ord ((Ji M.objs j).ws.take (r+1))<+:z8 M:=by
  refine List.IsPrefix.trans ?_ hp;have h:jB ord (Ji M.objs j).ws=jB (jB ord ((Ji M.objs j).ws.take (r+1))) ((Ji M.objs j).ws.drop (r+1)):=by
   unfold jB;rw[<-List.foldl_append,List.take_append_drop]
  rw[h];exact J6 _ _
 have e2:Jq (jB ord ((Ji M.objs j).ws.take r)) v<+:z8 M:=by rw[<-e1];exact hq
 have h:=jek s.ainj s.cor.ev (s.wo j hD v (hw▸hm)) (fun i e=>s.cl j hD i (by rw[hw,<-e];exact hm)) (ord:=jB ord ((Ji M.objs j).ws.take r)) (fun i hi=>s.ofK.1 i (((jgj _ v).trans e2).subset hi));rw[jej e2,<-e1] at h;refine⟨h,?_⟩;have hr:=(zqb hv).1;unfold JH;rw[jaz hv,jgy,show r-(Ji M.objs j).ws.length=0 by omega,show r+1-(Ji M.objs j).ws.length=0 by omega];simp
theorem juL {M:RM} {o:RObj} {k r x:Nat} {ord:List Nat} (hr:o.ws.length<=r) (hx:(Z4 o)[r-o.ws.length]?=some x):jB ord (o.ws.take (r+1))=jB ord (o.ws.take r)/\JH M o k (r+1)=JH M o k r++[x]:=by
 rw[zqp hr,zqp (show o.ws.length<=r+1 by omega)];refine⟨rfl,?_⟩;unfold JH;rw[zqp hr,zqp (show o.ws.length<=r+1 by omega),show r+1-o.ws.length=r-o.ws.length+1 by omega,jaz hx];simp
theorem jqs (M:RM) (o:RObj) (k:Nat):JH M o k (o.ws.length+(Z4 o).length)=Zn M k++jcc (z8 M) o/\∀ord,jB ord (o.ws.take (o.ws.length+(Z4 o).length))=jB ord o.ws:=by
 have e:o.ws.take (o.ws.length+(Z4 o).length)=o.ws:=zqp (by omega);refine⟨?_,fun ord=>by rw[e]⟩;unfold JH jcc;rw[e,zqp (show(Z4 o).length<=o.ws.length+(Z4 o).length-o.ws.length by omega)]
theorem jqt {o:RObj} (h:ObjR o) (M:RM) (k r:Nat):(JH M o k r).length<=(grR M).length+100000:=by
 have h1:=jih M k;have h2:=jfA h;unfold JH;rw[zqm,zqm,zqm,jcn,List.length_take,List.length_take];simp;omega
end
def jkh (w0 w:World) (v:Value) (r:List Nat×List Nat) (e:Ending) (w':World):Prop:=
 ∃g v' a b,r.1=[a,b]/\e=.returned (.tuple #[.slice (some ⟨g,0,none⟩) 2 2,v'])/\w'.heap[g]?=some (.cells #[.int .u64 ((a:Nat):Int),.int .u64 ((b:Nat):Int)] 65 (0,0))/\w.heap.size<=g/\w'.ownsRow w0.heap.size 65 1 v' r.2.length (u64s r.2)/\Below w0.heap.size w0 w'/\Fr (fun i=>v.ownBlock=some i) w w'/\(∀q,v'.ownBlock=some q->(v.ownBlock=some q\/w.heap.size<=q)/\q≠g)
theorem jf6 {x:Nat}:∀{xs:List Nat} {k:Nat},xs[k]?=some x->(∀j,j<k->xs.getD j 0≠x)->xs.idxOf x=k
 |[],_,h,_=>by cases h
 |y::xs,0,h,_=>by
  obtain rfl:=zqd h;simp
 |y::xs,k+1,h,hn=>by
  have h0:y≠x:=hn 0 (by omega);have ih:=jf6 (xs:=xs) (k:=k) h (fun j hj=>hn (j+1) (by omega));rw[List.idxOf_cons,beq_eq_false_iff_ne.2 h0,ih];rfl
theorem jfT (W:World) (t:TypeId) (x:Value) (g:Nat) (hg:W.heap.size=g):∀j u,[x][j]?=some u->(W.alloc (.cells #[x] t)).cell? ((⟨g,0,none⟩:Addr).add j)=some u:=by
 subst hg;exact World.news_of_block (cs:=#[x]) (zqe W _)
section
variable {w0 w:World} {v:Value} {xs:List Nat}
section
variable (hb:Below w0.heap.size w0 w) (hr:w.ownsRow w0.heap.size 65 1 v xs.length (u64s xs))
include hb hr
theorem jiZ (a b:Nat):jkh w0 w v ([a,b],xs) (.returned (.tuple #[.slice (some ⟨w.heap.size,0,none⟩) 2 2,v])) (w.alloc (.cells #[.int .u64 (a:Int),.int .u64 (b:Int)] 65)):=
 ⟨_,v,a,b,rfl,rfl,zqe w _,zqg _,hr.alloc _,hb.alloc hb.size _,(Fr.refl _ w).alloc _,fun q hq=>⟨.inl hq,fun e=>by have:=(hr.lt q hq).2;omega⟩⟩
theorem word_any (x:Nat) (hx:x<18446744073709551616) (hl:xs.length<=1000000):
  Calls prog 65 #[.int .u64 (x:Int),v] w (jkh w0 w v (wordN x xs)):=by
 obtain⟨i0,hi,hz0,hz1,hz2⟩:=info_parts infoU64;obtain⟨r,hr0⟩:∃r,wordN x xs=r:=⟨_,rfl⟩;rw[hr0];unfold wordN at hr0;have x0:(0:Int)<=(x:Int):=by omega
 have x1:(x:Int)<=18446744073709551615:=by omega
 obtain⟨A,cp,rfl,_⟩:=jH hr;obtain⟨n,hn⟩:∃n,xs.length=n:=⟨_,rfl⟩;have HR:=hid (zqf hb hr);rw[hn] at hr hl ⊢;have HN:=hid hn;by_cases ho:x%2=1
 ·rw[if_pos ho] at hr0
  subst hr0;have q0:((x:Int)%2==1)=true:=by simp;omega
  have HO:=hid ho;have HS:=hid (show IntKind.u64.wrap (wrap64 (x:Int)/2)=((shN x:Nat):Int) from by
   rw[IntKind.wrap_u64];unfold shN wrap64;split<;>omega)
  clear ho hr hb hn;go_enter Tryz.func65,Tryz.ntmps65;go_wp2_with fail;go_ret2;have h:=jiZ HR.out.1 HR.out.2 1 (shN x);rw[HN.out] at h;rw[HS.out];exact h
 ·rw[if_neg ho] at hr0
  have q0:((x:Int)%2==1)=false:=by simp;omega
  have HR0:=hid hr0;clear ho hr hb hn hr0;go_enter Tryz.func65,Tryz.ntmps65;go_wp2_with fail;go_loopw [6] (fun i wr=>w=wr/\∃k:Nat,i=.int .i64 k/\k<=n/\∀j,j<k->xs.getD j 0≠x) (fun i _=>n-(intOf i).toNat)
  case atStart=>exact⟨rfl,0,rfl,Nat.zero_le _,fun j hj=>by omega⟩
  case round=>
   obtain⟨rfl,k,rfl,hk,hne⟩:=hrel;have HNE:=hid hne;clear hne;have b0:(0:Int)<=(k:Int):=by omega
   by_cases hlt:k<n
   ·have b1:(k:Int)<(n:Int):=by omega
    obtain⟨g,cap,e2,_,hgl⟩:=HR.out.2.form (by have:=HN.out;omega);obtain rfl:A=some ⟨g,0,none⟩:=by cases e2;rfl
    have hc:w.cell? ⟨g,k,none⟩=some (.int .u64 ((xs.getD k 0:Nat):Int)):=by
     have h:=HR.out.2;cases e2
     rw[h.cellAt k (by have:=HN.out;omega)];exact jcu xs k (by have:=HN.out;omega)
    obtain⟨y,hy⟩:∃y,xs.getD k 0=y:=⟨_,rfl⟩;rw[hy] at hc;have HY:=hid hy;clear hy e2;by_cases e:y=x
    ·subst e
     have hin:xs[k]?=some y:=by
      have:=HN.out;rw[<-HY.out,zqi,zqh (by omega)];rfl
     have HX:=hid (show y∈xs/\xs.idxOf y=k from⟨zqc hin,jf6 hin HNE.out⟩);clear hin;go_wp2_with fail;go_ret2;rw[<-HR0.out,if_pos HX.out.1,HX.out.2];have h:=jiZ HR.out.1 HR.out.2 2 k;rw[HN.out] at h;exact h
    ·have e1:((y:Int)==(x:Int))=false:=beq_eq_false_iff_ne.2 (by omega)
     go_wp2_with fail;go_roundw
     case rel=>exact⟨trivial,k+1,by go_num,hlt,fun j hj=>by
      by_cases q:j=k
      ·rw[q,HY.out];exact e
      ·exact HNE.out j (by omega)⟩
     case measure=>simp[intOf];omega
   ·obtain rfl:k=n:=by omega
    have HX:=hid (show¬x∈xs from fun h=>by
     obtain⟨j,hj,e⟩:=List.mem_iff_getElem.1 h;exact HNE.out j (by have:=HN.out;omega) (by rw[zqi,zqh hj,e];rfl))
    have HC:=hid (jfT (w.alloc (.cells #[.int .u64 2,.int .u64 (k:Int)] 65)) 65 (.int .u64 (x:Int)) (w.heap.size+1) (Array.size_push ..));have HR2:=hid (show((w.alloc (.cells #[.int .u64 2,.int .u64 (k:Int)] 65)).alloc (.cells #[.int .u64 (x:Int)] 65)).ownsRow w0.heap.size 65 1 (.slice A k cp) k (u64s xs) from by
     have h:=HR.out.2;rw[HN.out] at h;exact(h.alloc _).alloc _)
    have hz:w0.heap.size<=w.heap.size:=HR.out.1.size;go_wp2_with (at_builtin;go_loud (refine wpList_append_lies _ rfl _ _ 51 rfl w0.heap.size 65 i0 (.int .u64 0) 1 8 Tryz.underlying51 hi hz0 hz1 hz2 rfl (by decide) (.slice A k cp) k (u64s xs) rfl HR2.out ⟨w.heap.size+1,0,none⟩ 1 1 [.int .u64 (x:Int)] rfl rfl HC.out (by simp[Value.oneCell']) (by decide) (by unfold maxLen;omega) (by omega) (by simp;omega) (w.heap.size+2) (by simp) ?_);intro g7 cap7 w7 hown7 hgrow7 hblk7 hlt7;have H7:=hid (zqf hown7 (zqf hgrow7 hblk7));clear hown7 hgrow7 hblk7 hlt7);go_ret2;rw[<-HR0.out,if_neg HX.out,HN.out];obtain⟨h1,h2,h3⟩:=H7.out;obtain⟨hb,hr⟩:=HR.out;rw[HN.out] at hr;have hv:∀q,(Value.slice A k cp).ownBlock=some q->w0.heap.size<=q/\q<w.heap.size:=fun q e=>hr.lt q e;have hw:(w.alloc (.cells #[.int .u64 2,.int .u64 (k:Int)] 65)).heap.size=w.heap.size+1:=Array.size_push ..;have hb2:Below w0.heap.size w0 ((w.alloc (.cells #[.int .u64 2,.int .u64 (k:Int)] 65)).alloc (.cells #[.int .u64 (x:Int)] 65)):=(hb.alloc hb.size _).alloc (hb.alloc hb.size _).size _;have hw2:((w.alloc (.cells #[.int .u64 2,.int .u64 (k:Int)] 65)).alloc (.cells #[.int .u64 (x:Int)] 65)).heap.size=w.heap.size+2:=by simp
    have hg:=jq (w.alloc (.cells #[.int .u64 2,.int .u64 (k:Int)] 65)) (.cells #[.int .u64 (x:Int)] 65);refine⟨w.heap.size,_,2,k,rfl,rfl,(h2.block _ (by omega) (fun e=>by have:=(hv _ e.symm).2;omega)).trans ((hg.block _ (by omega)).trans (zqe w _)),zqg _,?_,hb2.grown h2 hb2.size (fun q e=>(hv q e).1),(((Fr.refl (fun i=>(Value.slice A k cp).ownBlock=some i) w).alloc _).alloc _).grown h2 (fun q e=>.inl e),fun q e=>?_⟩
    ·show w7.ownsRow w0.heap.size 65 1 _ (xs++[x]).length (u64s (xs++[x]))
     rw[zqm,HN.out,Jd];exact h1
    ·have e2:g7=q:=zqd e
     subst e2;rcases h3 with h|h
     ·exact⟨.inl h,fun z=>by have:=(hv _ h).2;omega⟩
     ·exact⟨.inr (by omega),by omega⟩
end
end
structure GSt (w1 Y:World) (vo vq:Value) (out xs:List Nat):Prop where
 bl:Below w1.heap.size w1 Y
 o:Y.ownsRow w1.heap.size 65 1 vo out.length (u64s out)
 q:Y.ownsRow w1.heap.size 65 1 vq xs.length (u64s xs)
 d:∀p,vo.ownBlock=some p->vq.ownBlock≠some p
section
variable {w1 Y Y1:World} {vo vq:Value} {out xs:List Nat}
theorem GSt.nil (w1:World):GSt w1 w1 (.slice none 0 0) (.slice none 0 0) [] []:=⟨Below.refl _ _,⟨rfl,.inl ⟨rfl,rfl⟩⟩,⟨rfl,.inl ⟨rfl,rfl⟩⟩,fun _ e=>by cases e⟩
section
variable (s:GSt w1 Y vo vq out xs)
include s
theorem GSt.drewN (n:Nat):GSt w1 (Y.drewN n) vo vq out xs:=
 ⟨((Fr.of_below (O:=fun _=>False) s.bl).drewN n).below (zqg _) (fun _ h=>h.elim),jd ((Fr.refl (fun _=>False) Y).drewN n) s.o (fun _ _=>id),jd ((Fr.refl (fun _=>False) Y).drewN n) s.q (fun _ _=>id),s.d⟩
theorem GSt.alloc (o:Obj):GSt w1 (Y.alloc o) vo vq out xs:=⟨s.bl.alloc s.bl.size o,s.o.alloc o,s.q.alloc o,s.d⟩
theorem GSt.word {r:List Nat×List Nat} {e:Ending} (h:jkh w1 Y vq r e Y1):
  ∃g v' a b,r.1=[a,b]/\e=.returned (.tuple #[.slice (some ⟨g,0,none⟩) 2 2,v'])/\(∀j u,[Value.int .u64 ((a:Nat):Int),.int .u64 ((b:Nat):Int)][j]?=some u->Y1.cell? ((⟨g,0,none⟩:Addr).add j)=some u)/\GSt w1 Y1 vo v' out r.2:=by
 obtain⟨g,v',a,b,h1,h2,h3,h4,h5,h6,h7,h8⟩:=h;refine⟨g,v',a,b,h1,h2,fun j u hu=>?_,h6,jd h7 s.o (fun p e z=>s.d p e z),h5,fun p e z=>?_⟩
 ·exact World.news_of_block (cs:=#[_,_]) h3 j u hu
 ·rcases(h8 p z).1 with q|q
  ·exact s.d p e q
  ·have:=(s.o.lt p e).2
   omega
theorem GSt.use {r:List Nat×List Nat} {P:Ending->World->Prop} (h:∀g v' a b w',r.1=[a,b]->(∀j u,[Value.int .u64 ((a:Nat):Int),.int .u64 ((b:Nat):Int)][j]?=some u->w'.cell? ((⟨g,0,none⟩:Addr).add j)=some u)->GSt w1 w' vo v' out r.2->P (.returned (.tuple #[.slice (some ⟨g,0,none⟩) 2 2,v'])) w'):∀e w',jkh w1 Y vq r e w'->P e w':=fun e w' hw=>by
 obtain⟨g,v',a,b,h1,rfl,h3,h4⟩:=s.word hw;exact h g v' a b w' h1 h3 h4
theorem GSt.app {r:List Nat} {m n g cap:Nat} (hm:r.length=m) (hn:out.length=n) (ho:Y1.ownsRow w1.heap.size 65 1 (.slice (some ⟨g,0,none⟩) (n+m) cap) (n+m) (u64s out++u64s r)) (hg:Y.grownBy Y1 vo.ownBlock) (hb:vo.ownBlock=some g\/g=Y.heap.size):GSt w1 Y1 (.slice (some ⟨g,0,none⟩) (n+m) cap) vq (out++r) xs:=by
 subst hm hn;refine⟨s.bl.grown hg s.bl.size (fun p e=>(s.o.lt p e).1),?_,s.q.kept hg ?_,fun p e z=>?_⟩
 ·rw[zqm,Jd]
  exact ho
 ·cases hv:vq.ownBlock with
  |none=>exact .inl rfl
  |some p=>exact .inr fun e=>s.d p e.symm (hv.trans rfl)
 ·obtain rfl:g=p:=zqd e
  rcases hb with q|q
  ·exact s.d _ q z
  ·have:=(s.q.lt _ z).2
   omega
end
end
def Tabs (w:World):Prop:=NumL.Tab w/\ZM w
theorem Tabs.below {w w':World} {B:Nat} (h:Tabs w) (hB:w.heap.size<=B) (hb:Below B w w'):Tabs w':=⟨NumL.joL h.1 hB hb,Q6 h.2 hB hb⟩
def kC:List jn:=[⟨[],kL⟩]
theorem jrA:zu kC=0:=by
 have h:qs kL=0:=by
  have h1:zG (1,2,0,0,5)=0:=jvL;have h2:zG (1,3,0,0,-7)=0:=jvM;have h3:zG (9,2,2,3,0)=0:=jvN;have h4:zG (28,2,0,0,0)=0:=jvO;simp only[kL,qs,h1,h2,h3,h4,if_true]
 have hc:jN 1 ⟨[],kL⟩=0:=by
  show(if 16384<0+4 then 3 else if zL 1 []=0 then qs kL else zL 1 [])=0;rw[h];rfl
 show(if jN 1 ⟨[],kL⟩=0 then 0 else jN 1 ⟨[],kL⟩)=0;rw[hc];rfl
theorem jk7:Z9 (jZ 64 16) kC=(zo (jZ 64 16) kC,0):=by
 have e:=jbh 64 16 (jg kC);have h:=jaN (M:=jZ 64 16) jrA (by show(jz (jZ 64 16) (jg kC:Int)).2=true;rw[e];rfl);rw[h];show(zo (jz (jZ 64 16) (jg kC:Int)).1 kC,(0:Int))=_;rw[e]
theorem jvb:(Qs 0 10 (Jv (zo (jZ 64 16) kC) 9)).2=1/\(Qs 0 10 (Jv (zo (jZ 64 16) kC) 9)).1.steps=4/\(Qs 0 10 (Jv (zo (jZ 64 16) kC) 9)).1.value=.I (-35):=⟨by kernel_rfl,by kernel_rfl,by kernel_rfl⟩
abbrev kV:Array Value:=#[.int .i64 1,.int .i64 2,.int .i64 0,.int .i64 0,.int .i64 5,.int .i64 1,.int .i64 3,.int .i64 0,.int .i64 0,.int .i64 (-7),.int .i64 9,.int .i64 2,.int .i64 2,.int .i64 3,.int .i64 0,.int .i64 28,.int .i64 2,.int .i64 0,.int .i64 0,.int .i64 0]
theorem jvc {O:Nat->Prop} {w:World} {g:Nat} (h:w.heap[g]?=some (.cells kV 41 (0,0))) (hO:¬O g):InsAt O w (.slice (some ⟨g,0,none⟩) 4 4) kL:=by
 refine⟨_,_,rfl,fun j x hx=>⟨g,0,rfl,(zqa h).1,hO,fun i hi=>?_⟩⟩;rw[jb h];match j,hx with
 |0,hx=>obtain rfl:=zqd hx;match i,hi with|0,_=>rfl|1,_=>rfl|2,_=>rfl|3,_=>rfl|4,_=>rfl
 |1,hx=>obtain rfl:=zqd hx;match i,hi with|0,_=>rfl|1,_=>rfl|2,_=>rfl|3,_=>rfl|4,_=>rfl
 |2,hx=>obtain rfl:=zqd hx;match i,hi with|0,_=>rfl|1,_=>rfl|2,_=>rfl|3,_=>rfl|4,_=>rfl
 |3,hx=>obtain rfl:=zqd hx;match i,hi with|0,_=>rfl|1,_=>rfl|2,_=>rfl|3,_=>rfl|4,_=>rfl
 |j+4,hx=>simp[kL] at hx
section
variable {w w1 w2:World}
theorem jsn (ht:Tabs w) (hx:Bx w1 (w.heap.size+1) (mcN w.heap.size 16)) (m:zi w1 w.heap.size 64 0 (fun _=>.slice none 0 0) [] []) (hb:Below w.heap.size w w1):
  Calls prog 16 #[.pointer (some ⟨w.heap.size+1,0,none⟩),.slice (some ⟨w1.heap.size+1,0,none⟩) 1 1] ((w1.alloc (.cells kV 41)).alloc (.cells #[.slice none 0 0,.slice (some ⟨w1.heap.size,0,none⟩) 4 4] 39)) fun e w'=>e=.returned (.int .i64 0)/\(∃C R D f A,McAt (New w) w' (w.heap.size+1) C w.heap.size R (.slice none 0 0) (.slice none 0 0) (.slice none 0 0)/\Sim (zo (jZ 64 16) kC) C D f A)/\Below w.heap.size w w':=by
 have hs:=hx.lt;have hbA:=jq w1 (.cells kV 41);have hnA:=zqe w1 (.cells kV 41);have hsA:(w1.alloc (.cells kV 41)).heap.size=w1.heap.size+1:=Array.size_push ..;obtain⟨X,hX⟩:∃X,w1.alloc (.cells kV 41)=X:=⟨_,rfl⟩;rw[hX] at hbA hnA hsA ⊢;have hbC:=jq X (.cells #[.slice none 0 0,.slice (some ⟨w1.heap.size,0,none⟩) 4 4] 39);have hnC:=zqe X (.cells #[.slice none 0 0,.slice (some ⟨w1.heap.size,0,none⟩) 4 4] 39);obtain⟨Z,hZ⟩:∃Z,X.alloc (.cells #[.slice none 0 0,.slice (some ⟨w1.heap.size,0,none⟩) 4 4] 39)=Z:=⟨_,rfl⟩;rw[hZ] at hbC hnC ⊢;rw[hsA] at hnC;have hbZ:Below w1.heap.size w1 Z:=hbA.trans (hbC.mono hbA.size);have hwZ:Below w.heap.size w Z:=hb.trans (hbZ.mono hb.size);have hz1:=hb.size;have hz2:=hbZ.size;have hlC:=(zqa hnC).1;have a:=(McAt.new (O:=fun i=>(w.heap.size<=i/\i<w1.heap.size)\/Z.heap.size<=i) hx m (jc8 (by omega) (by omega)) (.inl (by omega)) (.inl (by omega)) (by omega)).below hbZ;have hnZ:=(hbC.block _ (by omega)).trans hnA;have hlow:∀i,((w.heap.size<=i/\i<w1.heap.size)\/Z.heap.size<=i)->w.heap.size<=i:=fun i hi=>by
  rcases hi with h|h<;>omega
 have hno:∀i,w1.heap.size<=i->i<Z.heap.size->¬((w.heap.size<=i/\i<w1.heap.size)\/Z.heap.size<=i):=fun i h1 h2 h=>by
  rcases h with h|h<;>omega
 have hc:CodesAt (fun i=>(w.heap.size<=i/\i<w1.heap.size)\/Z.heap.size<=i) Z (.slice (some ⟨w1.heap.size+1,0,none⟩) 1 1) kC:=⟨_,_,rfl,fun j x hx=>by
  match j,hx with
  |0,hx=>
   obtain rfl:=zqd hx;exact⟨_,0,_,_,rfl,hlC,hno _ (by omega) hlC,jb hnC 0,jb hnC 1,⟨none,0,rfl,fun j x hx=>by cases hx⟩,jvc hnZ (hno _ (zqg _) (by omega))⟩
  |j+1,hx=>cases hx⟩
 refine(jnp a (Sim.new (W:=64) (S:=16) (jc8 (by omega) (by omega)) (by omega)) (Usd.new 64 16) (fun i hi=>.inr hi) (fun Y hY=>(ht.below (zqg _) (hwZ.trans (hY.below hwZ.size hlow))).2) hc (by decide) (fun c hc=>?_)).mono ?_
 ·obtain rfl:=List.mem_singleton.1 hc
  exact⟨by decide,by decide,fun x hx=>by cases hx⟩
 ·rintro e w' ⟨rfl,⟨C',R',D',f',A',a',s'⟩,hf⟩
  rw[jk7] at s';exact⟨by rw[jk7],⟨C',R',D',f',A',a'.wide hlow,s'⟩,hwZ.trans (hf.below hwZ.size hlow)⟩
theorem juF (ht:Tabs w) (hb:Below w.heap.size w w2) {g b:Nat} {C:CM} {R:Nat->Value} {vf vs vh:Value} {D:Nat->Prop} {f A:Nat->Nat} (a:McAt (New w) w2 g C b R vf vs vh) (s:Sim (zo (jZ 64 16) kC) C D f A):
  Calls prog 19 #[.pointer (some ⟨g,0,none⟩),.int .i64 9,.int .i64 0,.int .i64 0] w2 fun e w'=>e=.returned (.agg #[.int .i64 1,.int .i64 4])/\(∃C R vf vs vh,McAt (New w) w' g C b R vf vs vh/\C.va=18446744073709551547)/\Below w.heap.size w w':=by
 have u:=(Usd.new 64 16).ld (Sim.new (W:=64) (S:=16) (jc8 (by omega) (by omega)) (by omega)) kC;rw[jk7] at u;obtain⟨E,u⟩:=u;obtain⟨o,ho,hk⟩:=jhV (W:=64) (S:=16) jrA;refine(jiJ a s u jfs (fun i hi=>zqs hb.size hi) (fun Y hY=>ht.below (zqg _) (hb.trans (hY.below hb.size (fun i hi=>hi)))) (by decide) (i:=0) rfl ho hk 9 0 0 (bu:=9) (by decide) (by decide) (by decide) (by decide)).mono ?_;rintro e w' ⟨N,kd,h1,rfl,⟨C',R',vf',vs',vh',a',D',f',A',E',s',_⟩,hf,_⟩;obtain⟨q1,q2,q3⟩:=jvb;have h1:Qs 0 10 (Jv (zo (jZ 64 16) kC) 9)=(N,kd):=h1;rw[h1] at q1 q2 q3;refine⟨by rw[show kd=1 from q1,show N.steps=4 from q2],⟨C',R',vf',vs',vh',a',?_⟩,hb.trans (hf.below hb.size (fun i hi=>hi))⟩;have e:=s'.va;rw[show(qX N).value=N.value from rfl,show N.value=.I (-35) from q3] at e;rw[e];rfl
theorem jka {O:Nat->Prop} {g b:Nat} {C:CM} {R:Nat->Value} {vf vs vh:Value} (a:McAt O w g C b R vf vs vh):Calls prog 35 #[.pointer (some ⟨g,0,none⟩)] w fun e w'=>e=.returned (.int .u64 (C.va:Int))/\w'=w:=by
 have HN:=hid (QA a.bx rfl);have c:=a.bx.cell (j:=1044) (by omega);rw[jvh] at c;clear a;go_enter Tryz.func35,Tryz.ntmps35;go_wp2_with fail;refine(HN.out).mono ?_;rintro e w' ⟨rfl,hw'⟩;subst w';go_wp2_with fail;go_ret;exact⟨rfl,rfl⟩
theorem jsA (ht:Tabs w):Calls prog 12 #[] w fun e w'=>e=.returned (.bool true)/\Below w.heap.size w w':=by
 have HNW:=hid (jnQ 64 (by decide) (by decide) 16 (by decide) (by decide) w);have HT:=hid ht;have HRI:=hid (fun Y=>show Calls prog 36 #[.int .i64 (-35)] Y (fun e w'=>e=.returned (.int .u64 18446744073709551547)/\Y=w') from(jlH (-35) Y (by omega) (by omega)).mono fun e w' ⟨h1,h2⟩=>⟨by rw[h1];rfl,h2⟩);clear ht;go_enter Tryz.func12,Tryz.ntmps12;go_wp2_with fail;refine HNW.out.mono ?_;rintro e w1 ⟨rfl,hx1,hm1,hb1⟩;have hpn:((some (⟨w.heap.size+1,0,none⟩:Addr))==none)=false:=rfl;have HLD:=hid (jsn HT.out hx1 hm1 hb1);clear hx1 hm1 hb1;go_wp2_with fail;refine HLD.out.mono ?_;rintro e w2 ⟨rfl,⟨C2,R2,D2,f2,A2,a2,s2⟩,hb2⟩;have HRUN:=hid (juF HT.out hb2 a2 s2);clear a2 s2 hb2;go_wp2_with fail;refine HRUN.out.mono ?_;rintro e w3 ⟨rfl,⟨C3,R3,vf,vs,vh,a3,hv3⟩,hb3⟩;have hbR:=jq w3 (.cells #[.int .i64 1,.int .i64 4] 43);have HV:=hid (jka (a3.below hbR));rw[hv3] at HV;have HB:=hid (hb3.trans (hbR.mono hb3.size));clear hb3 a3 hbR hv3;go_wp2_with fail;refine HV.out.mono ?_;rintro e w' ⟨rfl,hw'⟩;subst w';go_wp2_with (go_at_call 36;refine(HRI.out _).mono ?_;rintro e w' ⟨rfl,hw'⟩;subst w');go_ret;exact⟨rfl,HB.out⟩
end
