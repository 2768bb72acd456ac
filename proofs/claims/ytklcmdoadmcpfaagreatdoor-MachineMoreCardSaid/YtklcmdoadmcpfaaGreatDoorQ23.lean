/- A part of the proof of MachineMoves. Conditions: those that each theorem names. -/
import Derived.Test.YtklcmdoadmcpfaaGreatDoorQ22
import Derived.Lib.ItoaNum
set_option maxRecDepth 100000
set_option maxHeartbeats 400000000
namespace Go.Proofs.YtklcmdoadmcpfaaGreatDoor
open Go Go.RowKit IsaL
open Go.Lib(hid)
open Go.Proofs.Tryz(prog)
theorem jd8 {w:World} {B k:Nat} {e:TypeId} {n c q:Nat} {xs:List Value} (h:w.ownsRow B e k (.slice (some ⟨q,0,none⟩) n c) n xs) (j:Nat) (x:Value):(w.setCell ⟨q,j,none⟩ x).ownsRow B e k (.slice (some ⟨q,0,none⟩) n c) n (xs.set j x):=by
 refine⟨by rw[List.length_set];exact h.1,?_⟩;rcases h.2 with⟨h0,_⟩|⟨g,cap,cur,hv,hb,hg,h1,h2,h3,h4⟩
 ·cases h0
 ·cases hv
  refine .inr ⟨q,c,cur.setIfInBounds j x,rfl,hb,?_,h1,h2,by simpa using h3,?_⟩
  ·show(w.heap.modify q _)[q]?=_
   rw[Array.getElem?_modify,if_pos rfl,hg];rfl
  ·rw[<-h4,Array.toList_setIfInBounds,List.take_set]
def Lay.grown (L:Lay) (s n:Nat) (wv iv v:Value):Lay:={L with ov:=v,wv:=fun i=>if i=n then wv else L.wv i,iv:=fun i=>if i=n then iv else L.iv i,T:=fun q=>if q<s then L.T q else 1}
theorem jsJ (L:Lay) (os:List RObj) (o:RObj) (s:Nat) (wv iv v:Value):oC (L.grown s os.length wv iv v) (os++[o])=oC L os++[.int .i64 (o.k:Int),wv,.string o.tx,iv]:=by
 unfold oC;rw[zqm,List.length_singleton,jjY];congr 1
 ·refine Q9 fun i j hi _=>?_
  show obc _ (if i=os.length then wv else L.wv i) (if i=os.length then iv else L.iv i) j=_;rw[if_neg (by omega),if_neg (by omega),zqi,zqi,zqo hi]
 ·rw[jjZ]
  have e:(os++[o]).getD (os.length+0) noR=o:=by simp
  show(List.range 4).map (fun j=>obc ((os++[o]).getD (os.length+0) noR) (if os.length=os.length then wv else L.wv (os.length+0)) (if os.length=os.length then iv else L.iv (os.length+0)) j)=_;rw[e];simp only[if_true];rfl
section
variable {O P:Nat->Prop} {w w1:World} {g:Nat} {M:RM} {L:Lay}
theorem RAt.grow (a:RAt O w g M L) {o:RObj} {wv iv v:Value} (hf:Fr (fun i=>L.ov.ownBlock=some i) w w1) (hv:w1.ownsRow 0 100 4 v (M.objs.length+1) (oC L M.objs++[.int .i64 (o.k:Int),wv,.string o.tx,iv])) (hO:∀i,w.heap.size<=i->O i) (hc:∀i,v.ownBlock=some i->L.ov.ownBlock=some i\/w.heap.size<=i) (hw:w.ownsRow 0 72 3 wv o.ws.length (zC o.ws)) (hwq:∀q,wv.ownBlock=some q->O q/\L.T q=5+2*M.objs.length) (hi:InsAt O w iv o.ins):RAt O (w1.setCell ⟨g,2,none⟩ v) g {M with objs:=M.objs++[o]} (L.grown w.heap.size M.objs.length wv iv v):=by
 have ht:=a.Tg;have hgb:w1.heap[g]?=some (.cells (zX 63 (rF M L)) 79 (0,0)):=(hf.block g a.lt (fun e=>by have:=(a.Oo g e).2;omega)).trans a.bx;have hf2:Fr (fun i=>i=g) w1 (w1.setCell ⟨g,2,none⟩ v):=(Fr.refl (fun i=>i=g) w1).setCell (p:=⟨g,2,none⟩) (.inl rfl) v;have keep:∀{e:TypeId} {k n:Nat} {u:Value} {xs:List Value},w.ownsRow 0 e k u n xs->(∀q,u.ownBlock=some q->L.T q≠0/\L.T q≠1)->(w1.setCell ⟨g,2,none⟩ v).ownsRow 0 e k u n xs:=fun hr hq=>
  jd hf2 (jd hf hr fun q e z=>(hq q e).2 (a.Oo q z).2) fun q e z=>(hq q e).1 (by rw[show q=g from z];exact ht)
 have tg:∀{e:TypeId} {k n:Nat} {u:Value} {xs:List Value},w.ownsRow 0 e k u n xs->∀q,u.ownBlock=some q->(L.grown w.heap.size M.objs.length wv iv v).T q=L.T q:=fun hr q e=>if_pos (jC hr e);have obj:∀i x,(M.objs++[o])[i]?=some x->(i≠M.objs.length/\M.objs[i]?=some x)\/(i=M.objs.length/\x=o):=fun i x h=>by
  by_cases e:i<M.objs.length
  ·rw[zqo e] at h
   exact .inl ⟨by omega,h⟩
  ·rw[zqn (by omega)] at h
   have:=(zqb h).1;simp at this;have e2:i=M.objs.length:=by omega
   subst e2;rw[Nat.sub_self] at h;exact .inr ⟨rfl,by simpa using h.symm⟩
 have ins:∀{u:Value} {l:List I5},InsAt O w u l->InsAt O (w1.setCell ⟨g,2,none⟩ v) u l:=fun h=>(h.fr hf (fun i _ q z=>q (a.Oo i z).1)).fr hf2 (fun i _ q z=>q (by rw[show i=g from z];exact a.Og));refine⟨?_,?_,keep a.of (fun q e=>by have:=(a.Of q e).2;omega),keep a.oh (fun q e=>by have:=(a.Oh q e).2;omega),keep a.ogl (fun q e=>by have:=(a.Ogl q e).2;omega),fun i x h=>?_,fun i x h=>?_,fun j x h=>keep (a.os j x h) (fun q e=>by have:=(a.Os j x h q e).2;omega),a.Og,fun q e=>?_,fun q e=>⟨(a.Of q e).1,(tg a.of q e).trans (a.Of q e).2⟩,fun q e=>⟨(a.Oh q e).1,(tg a.oh q e).trans (a.Oh q e).2⟩,fun q e=>⟨(a.Ogl q e).1,(tg a.ogl q e).trans (a.Ogl q e).2⟩,fun i x h=>?_,fun j x h q e=>⟨(a.Os j x h q e).1,(tg (a.os j x h) q e).trans (a.Os j x h q e).2⟩,(if_pos a.lt).trans ht⟩
 ·rw[JS hgb]
  congr 2
 ·refine jd hf2 ?_ fun q e z=>?_
  ·show w1.ownsRow 0 100 4 v (M.objs++[o]).length (oC (L.grown w.heap.size M.objs.length wv iv v) (M.objs++[o]))
   rw[jsJ,zqm,List.length_singleton];exact hv
  ·rcases hc q e with h|h
   ·have:=(a.Oo q h).2
    rw[show q=g from z] at this;omega
   ·have:=a.lt
    have:q=g:=z;omega
 ·show(w1.setCell ⟨g,2,none⟩ v).ownsRow 0 _ 3 (if i=M.objs.length then wv else L.wv i) _ _
  rcases obj i x h with⟨h1,h2⟩|⟨h1,h2⟩
  ·rw[if_neg h1]
   exact keep (a.ow i x h2) (fun q e=>by have:=(a.Ow i x h2 q e).2;omega)
  ·rw[if_pos h1,h2]
   exact keep hw (fun q e=>by have:=(hwq q e).2;omega)
 ·show InsAt O _ (if i=M.objs.length then iv else L.iv i) _
  rcases obj i x h with⟨h1,h2⟩|⟨h1,h2⟩
  ·rw[if_neg h1]
   exact ins (a.oi i x h2)
  ·rw[if_pos h1,h2]
   exact ins hi
 ·have e:v.ownBlock=some q:=e
  show O q/\(if q<w.heap.size then L.T q else 1)=1;rcases hc q e with h|h
  ·rw[if_pos (jC a.oo h)]
   exact a.Oo q h
  ·rw[if_neg (by omega)]
   exact⟨hO q h,rfl⟩
 ·intro q e
  replace e:(if i=M.objs.length then wv else L.wv i).ownBlock=some q:=e;rcases obj i x h with⟨h1,h2⟩|⟨h1,h2⟩
  ·rw[if_neg h1] at e
   exact⟨(a.Ow i x h2 q e).1,(tg (a.ow i x h2) q e).trans (a.Ow i x h2 q e).2⟩
  ·rw[if_pos h1] at e
   exact⟨(hwq q e).1,(tg hw q e).trans (by rw[h1];exact(hwq q e).2)⟩
theorem RAt.setW (a:RAt O w g M L) {i:Nat} {o:RObj} (ho:M.objs[i]?=some o) {m:Nat} (hm:m<o.ws.length) (v:RWd) {wb c:Nat} (hv:L.wv i=.slice (some ⟨wb,0,none⟩) o.ws.length c):RAt O (Zb w wb (m*3) v) g {M with objs:=M.objs.modify i fun o=>{o with ws:=o.ws.set m v}} L:=by
 have hq:=a.Ow i o ho wb (by rw[hv];rfl);have hf:=zZ w wb (m*3) v;obtain⟨h1,h2,h3,h4,h5,h6,h7,h8⟩:=a.fr1 hq.1 hf;have ob:∀j x,(M.objs.modify i fun o=>{o with ws:=o.ws.set m v})[j]?=some x->(j≠i/\M.objs[j]?=some x)\/(j=i/\x={o with ws:=o.ws.set m v}):=fun j x h=>by
  rw[List.getElem?_modify] at h;by_cases e:i=j
  ·subst e
   rw[ho] at h;simp at h;exact .inr ⟨rfl,h.symm⟩
  ·refine .inl ⟨fun q=>e q.symm,?_⟩
   cases hx:M.objs[j]? with
   |none=>rw[hx] at h;cases h
   |some y=>rw[hx] at h;simpa[e] using h
 refine⟨h8 (by omega),?_,h2 (by omega),h3 (by omega),h4 (by omega),fun j x h=>?_,fun j x h=>?_,fun j x h=>h7 j x h (by omega),a.Og,a.Oo,a.Of,a.Oh,a.Ogl,fun j x h=>?_,a.Os,a.Tg⟩
 ·have e:oC L (M.objs.modify i fun o=>{o with ws:=o.ws.set m v})=oC L M.objs:=by
   unfold oC;rw[List.length_modify];refine Q9 fun j b hj _=>?_;rw[zqi,zqi,List.getElem?_modify,zqh hj];by_cases e:i=j
   ·subst e
    simp only[if_pos,Option.getD_some];match b with
    |0=>rfl
    |1=>rfl
    |2=>rfl
    |_+3=>rfl
   ·simp[e]
  show World.ownsRow _ 0 _ 4 L.ov (M.objs.modify i fun o=>{o with ws:=o.ws.set m v}).length (oC L _);rw[e,List.length_modify];exact h1 (by omega)
 ·rcases ob j x h with⟨q1,q2⟩|⟨q1,q2⟩
  ·exact h5 j x q2 (by omega)
  ·subst q1 q2
   show World.ownsRow _ 0 _ 3 (L.wv j) (o.ws.set m v).length (zC (o.ws.set m v));have hr:=a.ow j o ho;rw[hv] at hr ⊢;rw[List.length_set,<-ju0 hm v];unfold Zb;rw[<-jrf,<-jrg,<-jrh];exact jd8 (jd8 (jd8 hr _ _) _ _) _ _
 ·rcases ob j x h with⟨q1,q2⟩|⟨q1,q2⟩
  ·exact h6 j x q2
  ·subst q1 q2
   exact h6 j o ho
 ·rcases ob j x h with⟨q1,q2⟩|⟨q1,q2⟩
  ·exact a.Ow j x q2
  ·subst q1 q2
   exact a.Ow j o ho
theorem RAt.as (a:RAt O w g M L) {M':RM} (e:∀j,j<63->rF M' L j=rF M L j) (e1:M'.objs=M.objs) (e2:M'.frs=M.frs) (e3:M'.has=M.has) (e4:∀k,k<1024->M'.gl k=M.gl k):RAt O w g M' L:=
 {a with
  bx:=by
   rw[a.bx];unfold zX;rw[List.map_congr_left fun j hj=>(e j (List.mem_range.1 hj)).symm]
  oo:=by rw[e1];exact a.oo
  of:=by rw[e2];exact a.of
  oh:=by rw[e3];exact a.oh
  ogl:=by
   rw[List.map_congr_left fun k hk=>e4 k (List.mem_range.1 hk)];exact a.ogl
  ow:=by rw[e1];exact a.ow
  oi:=by rw[e1];exact a.oi
  os:=by rw[e2];exact a.os
  Ow:=by rw[e1];exact a.Ow
  Os:=by rw[e2];exact a.Os}
end
section
variable {M:RM} {C:CM} {D S:Nat->Prop} {f A:Nat->Nat} {E:List Nat}
theorem Clo.of {M':RM} (c:Clo M S) (ho:M'.objs=M.objs) (hr:∀v∈jr M',v∈jr M\/∀k,v=.P k->S k):Clo M' S:=
 ⟨fun k hk=>by
  rcases hr _ hk with q|q
  ·exact c.rt k q
  ·exact q k rfl,fun i hi k hk=>c.cl i hi k (by rw[<-ho];exact hk)⟩
theorem Usd.of {M':RM} (u:Usd M E) (ho:M'.objs=M.objs) (hu:M'.used=M.used) (hr:∀v∈jr M',v∈jr M\/∀k,v=.P k->k∈E):Usd M' E:=
 ⟨u.nd,fun i hi=>by rw[ho];exact u.lt i hi,u.co.of ho hr,by rw[ho,hu];exact u.us⟩
theorem Sim.clo (s:Sim M C D f A):Clo M D:=⟨s.rt,s.cl⟩
theorem Clo.field (c:Clo M S) {i:Nat} (hi:S i) {o:RObj} (ho:M.objs[i]?=some o) {v:RWd} (hv:v∈o.ws):∀k,v=.P k->S k:=fun k e=>c.cl i hi k (by unfold zK;rw[ho];exact e▸hv)
theorem jfv {k:Nat} {v x:RWd} (h:x∈jr {M with rg:=JX M.rg k v}):x∈jr M\/x=v:=by
 rcases ja.1 h with⟨j,h1,h2⟩|h|h|h
 ·have h2':x=JX M.rg k v j:=h2
  unfold JX at h2';split at h2'
  ·exact .inr h2'
  ·exact .inl (ja.2 (.inl ⟨j,h1,h2'⟩))
 ·exact .inl (ja.2 (.inr (.inl h)))
 ·exact .inl (ja.2 (.inr (.inr (.inl h))))
 ·exact .inl (ja.2 (.inr (.inr (.inr h))))
theorem Usd.reg (u:Usd M E) (k:Nat) {v:RWd} (hv:∀i,v=.P i->i∈E):Usd {M with rg:=JX M.rg k v} E:=
 u.of rfl rfl fun _ h=>by
  rcases jfv h with q|q
  ·exact .inl q
  ·exact .inr fun i e=>hv i (by rw[<-e];exact q.symm)
theorem Sim.reg (s:Sim M C D f A) (k:Nat) {v:RWd} (hv:∀i,v=.P i->D i) (hw:Wr v) {x:Nat} (hx:x=jw A v):Sim {M with rg:=JX M.rg k v} {C with rg:=jG C.rg k x} D f A:=
 {s with
  rt:=fun i hi=>by
   rcases jfv hi with q|q
   ·exact s.rt i q
   ·exact hv i q.symm
  wr:=fun y hy=>by
   rcases jfv hy with q|q
   ·exact s.wr y q
   ·rw[q];exact hw
  rg:=fun j hj=>by
   show jG C.rg k x j=jw A (JX M.rg k v j);unfold jG JX;split
   ·exact hx
   ·exact s.rg j hj}
theorem jd3 {k:Nat} {v x:RWd} (h:x∈jr {M with gl:=JX M.gl k v}):x∈jr M\/x=v:=by
 rcases ja.1 h with h|h|⟨j,h1,h2⟩|h
 ·exact .inl (ja.2 (.inl h))
 ·exact .inl (ja.2 (.inr (.inl h)))
 ·have h2':x=JX M.gl k v j:=h2
  unfold JX at h2';split at h2'
  ·exact .inr h2'
  ·exact .inl (ja.2 (.inr (.inr (.inl ⟨j,h1,h2'⟩))))
 ·exact .inl (ja.2 (.inr (.inr (.inr h))))
theorem Usd.glob (u:Usd M E) (k:Nat) {v:RWd} (hv:∀i,v=.P i->i∈E):Usd {M with gl:=JX M.gl k v} E:=
 u.of rfl rfl fun _ h=>by
  rcases jd3 h with q|q
  ·exact .inl q
  ·exact .inr fun i e=>hv i (by rw[<-e];exact q.symm)
theorem Sim.glob (s:Sim M C D f A) {k:Nat} (hk:k<1024) {v:RWd} (hv:∀i,v=.P i->D i) (hw:Wr v) {x:Nat} (hx:x=jw A v) {u:Nat} (hu:u=if C.us<k+1 then k+1 else C.us):Sim {M with gl:=JX M.gl k v} {C with gl:=jG C.gl k x,us:=u} D f A:=
 {s with
  rt:=fun i hi=>by
   rcases jd3 hi with q|q
   ·exact s.rt i q
   ·exact hv i q.symm
  wr:=fun y hy=>by
   rcases jd3 hy with q|q
   ·exact s.wr y q
   ·rw[q];exact hw
  gl:=fun j hj=>by
   show jG C.gl k x j=jw A (JX M.gl k v j);unfold jG JX;split
   ·exact hx
   ·exact s.gl j hj
  us:=fun j h1 h2=>by
   have h1':u<=j:=h1;show JX M.gl k v j=_;unfold JX;rw[if_neg (by split at hu<;>omega)];exact s.us j (by split at hu<;>omega) h2
  ul:=by
   show u<=1024;have:=s.ul;split at hu<;>omega}
def qX (M:RM):RM:={M with frs:=[],has:=[],rg:=fun _=>.I 0}
def Qi (C:CM):CM:={C with fr:=[],sl:=[],ha:=[],rg:=fun k=>if k<16 then 1 else C.rg k}
theorem jd4 {x:RWd} (h:x∈jr (qX M)):x∈jr M\/x=.I 0:=by
 rcases ja.1 h with⟨j,_,h2⟩|⟨y,h1,_⟩|h|h
 ·exact .inr h2
 ·cases h1
 ·exact .inl (ja.2 (.inr (.inr (.inl h))))
 ·exact .inl (ja.2 (.inr (.inr (.inr h))))
theorem Usd.idle (u:Usd M E):Usd (qX M) E:=u.of rfl rfl fun _ h=>(jd4 h).imp id fun e i q=>by rw[e] at q;cases q
theorem Sim.idle (s:Sim M C D f A) (hS:0<=M.stack):Sim (qX M) (Qi C) D f A:=
 {s with
  rt:=fun i hi=>by
   rcases jd4 hi with q|q
   ·exact s.rt i q
   ·cases q
  wr:=fun y hy=>by
   rcases jd4 hy with q|q
   ·exact s.wr y q
   ·rw[q];exact⟨by decide,by decide⟩
  rg:=fun j hj=>by
   show(if j<16 then 1 else C.rg j)=(jO 0).toNat
   rw[if_pos hj];rfl
  fr:=⟨rfl,fun j x y h=>by cases h⟩
  sl:=rfl
  ha:=rfl
  pl:=fun x h=>by cases h
  hf:=fun x h=>by cases h
  hp:=fun x h=>by cases h
  hs:=List.Pairwise.nil
  ft:=hS}
theorem Sim.val (s:Sim M C D f A) {v:RWd} (hv:∀i,v=.P i->D i) (hw:Wr v) {x:Nat} (hx:x=jw A v):Sim {M with value:=v} {C with va:=x} D f A:=
 {s with
  rt:=fun i hi=>by
   rcases ja.1 hi with q|q|q|q|q
   ·exact s.rt i (ja.2 (.inl q))
   ·exact s.rt i (ja.2 (.inr (.inl q)))
   ·exact s.rt i (ja.2 (.inr (.inr (.inl q))))
   ·exact s.rt i (ja.2 (.inr (.inr (.inr (.inl q)))))
   ·exact hv i q.symm
  wr:=fun y hy=>by
   rcases ja.1 hy with q|q|q|q|q
   ·exact s.wr y (ja.2 (.inl q))
   ·exact s.wr y (ja.2 (.inr (.inl q)))
   ·exact s.wr y (ja.2 (.inr (.inr (.inl q))))
   ·exact s.wr y (ja.2 (.inr (.inr (.inr (.inl q)))))
   ·rw[q];exact hw
  va:=hx}
theorem Usd.val (u:Usd M E) {v:RWd} (hv:∀i,v=.P i->i∈E):Usd {M with value:=v} E:=
 u.of rfl rfl fun x h=>by
  rcases ja.1 h with q|q|q|q|q
  ·exact .inl (ja.2 (.inl q))
  ·exact .inl (ja.2 (.inr (.inl q)))
  ·exact .inl (ja.2 (.inr (.inr (.inl q))))
  ·exact .inl (ja.2 (.inr (.inr (.inr (.inl q)))))
  ·exact .inr fun i e=>hv i (by rw[<-e];exact q.symm)
end
def ZR (C:CM) (f:Fm) (n:Int):CM×Int:=if n<0 then(C,7) else if C.S<3*(C.fr.length:Int)+f.base+3*C.ha.length+n then(C,6) else({C with sl:=C.sl.take f.base++List.replicate n.toNat 1},0)
theorem jtV:(prog.info? 116).map (fun i=>(i.zero,i.size,i.bytes))=some (some (.agg #[.int .i64 0,.int .i64 0]),2,16):=by kernel_rfl
theorem jpa (w:World) (a b:Value) (t:TypeId) (g:Nat) (hg:w.heap.size=g):∀j u,[a,b][j]?=some u->(w.alloc (.cells #[a,b] t)).cell? ((⟨g,0,none⟩:Addr).add j)=some u:=by
 subst hg;exact World.news_of_block (cs:=#[a,b]) (zqe w _)
theorem jum (x y:Int):∀u∈[Value.int .i64 x,.int .i64 y],u.oneCell'=true:=by simp[Value.oneCell']
section
variable {O:Nat->Prop} {w w1:World} {g b:Nat} {C:CM} {R:Nat->Value} {vf vs vh:Value}
section
variable (a:McAt O w g C b R vf vs vh) (ok:OkC C) (hO:∀i,w.heap.size<=i->O i) {k:Nat}
include a ok hO k
theorem jrX {f:Fm} (hl:C.fr.length=k+1) (hf:C.fr[k]?=some f) {n:Int} (n1:n<=2147483647):Calls prog 140 #[.pointer (some ⟨g,0,none⟩),.int .i64 n] w fun e w'=>Did O w g b (ZR C f n) e w':=by
 obtain⟨fg,fc,hv⟩:=a.fshape (by omega);rw[hl] at hv;have hkb:k<=65536:=by have:=ok.n1;omega
 have hb:=ok.bs f (zqc hf);by_cases h0:n<0
 ·refine(jpq a hv hf hkb h0).mono ?_
  rintro e w' ⟨rfl,q,rfl⟩;rw[show ZR C f n=(C,7) by unfold ZR;rw[if_pos h0]];exact Did.stay a 7 q
 ·by_cases hd:C.S<3*(C.fr.length:Int)+f.base+3*C.ha.length+n
  ·refine(jkI a hv hf ok.n1 ok.n2 ok.n3 hkb (by omega) (by omega) hb hd).mono ?_
   rintro e w' ⟨rfl,q,rfl⟩;rw[show ZR C f n=(C,6) by unfold ZR;rw[if_neg h0,if_pos hd]];exact Did.stay a 6 q
  ·obtain⟨m,rfl⟩:∃m:Nat,n=m:=⟨n.toNat,by omega⟩
   refine(jpr a hv hf ok.n1 ok.n2 ok.n3 hkb (by omega) hb (by omega) ok.s1 hO).mono ?_;rintro e w' ⟨rfl,⟨v,h⟩,hF⟩;rw[show ZR C f (m:Int)=({C with sl:=C.sl.take f.base++List.replicate m 1},0) by unfold ZR;rw[if_neg h0,if_neg hd];rfl];exact⟨rfl,⟨_,_,_,_,h⟩,hF⟩
theorem jmH {f:Fm} (hl:C.fr.length=k+1) (hf:C.fr[k]?=some f) (A:Nat) (hA:A<16) (B D n:Int) (n1:n<=2147483647):
  Calls prog 99 #[.pointer (some ⟨g,0,none⟩),.agg #[.int .i64 25,.int .i64 A,.int .i64 B,.int .i64 D,.int .i64 n]] w fun e w'=>Did O w g b (ZR C f n) e w':=by
 obtain⟨X,hX,hblk,hb0,hF0,r0,r1,r2,r3,r4⟩:=ji O w 25 A B D n;have aX:=a.below hb0;have HW:=hid hX;have gA:=aX.regc hA;have i0:(0:Int)<=(A:Int):=by omega
 have i1:(A:Int)<16:=by omega
 have HA:=hid aX;have HF:=hid hF0;have hOX:∀i,X.heap.size<=i->O i:=fun i hi=>hO i (zqs hF0.size hi);obtain⟨fg,fc,hv,hkb,HT,f1,f4,fz,hpb,hfX,hfO⟩:=j7 a aX ok hl hf;replace HT:=hid HT;have hgO:=a.og;have HEN:=hid (fun q=>jrX (aX.drewN q) ok hOX hl hf n1);clear a ok hO hblk hb0 hF0 hX aX hl hA hpb hv hf f1 fz hgO hfO hfX hOX f4 n1;go_enter Tryz.func99,Tryz.ntmps99;go_wp2_with fail;rw[HW.out];go_wp2_with fail;refine HT.out.mono ?_;rintro e w1 ⟨rfl,q1,rfl⟩;go_wp2_with fail;refine(HEN.out _).mono ?_;rintro e w2 ⟨rfl,h2,hf2⟩;have H2:=hid (zqf h2 hf2);clear h2 hf2;go_wp2_with fail;go_ret;exact⟨rfl,H2.out.1,(HF.out.drewN _).trans H2.out.2 (fun i hi=>.inl hi)⟩
theorem jph {f:Fm} (hl:C.fr.length=k+1) (hf:C.fr[k]?=some f) (A:Nat) (hA:A<16) (B:Nat) (hB:B<16) (D n:Int):
  Calls prog 99 #[.pointer (some ⟨g,0,none⟩),.agg #[.int .i64 26,.int .i64 A,.int .i64 B,.int .i64 D,.int .i64 n]] w fun e w'=>Did O w g b (qW C false A B) e w':=by
 obtain⟨X,hX,hblk,hb0,hF0,r0,r1,r2,r3,r4⟩:=ji O w 26 A B D n;have aX:=a.below hb0;have HW:=hid hX;have gA:=aX.regc hA;have i0:(0:Int)<=(A:Int):=by omega
 have i1:(A:Int)<16:=by omega
 have HA:=hid aX;have HF:=hid hF0;have hOX:∀i,X.heap.size<=i->O i:=fun i hi=>hO i (zqs hF0.size hi);obtain⟨fg,fc,hv,hkb,HT,f1,f4,fz,hpb,hfX,hfO⟩:=j7 a aX ok hl hf;replace HT:=hid HT;have hgO:=a.og;have HCA:=hid (fun q=>jmz (aX.drewN q) ok hOX 26 A B hA hB D n false rfl (by omega));clear a ok hO hblk hb0 hF0 hX aX hl hA hpb hv hf f1 fz hgO hfO hfX hOX f4 hB;go_enter Tryz.func99,Tryz.ntmps99;go_wp2_with fail;rw[HW.out];go_wp2_with fail;refine HT.out.mono ?_;rintro e w1 ⟨rfl,q1,rfl⟩;go_wp2_with fail;refine(HCA.out _).mono ?_;rintro e w2 ⟨rfl,h2,hf2⟩;have H2:=hid (zqf h2 hf2);clear h2 hf2;go_wp2_with fail;go_ret;exact⟨rfl,H2.out.1,(HF.out.drewN _).trans H2.out.2 (fun i hi=>.inl hi)⟩
theorem jpj {f:Fm} (hl:C.fr.length=k+1) (hf:C.fr[k]?=some f) (A:Nat) (hA:A<16) (B:Nat) (hB:B<16) (D n:Int):
  Calls prog 99 #[.pointer (some ⟨g,0,none⟩),.agg #[.int .i64 27,.int .i64 A,.int .i64 B,.int .i64 D,.int .i64 n]] w fun e w'=>Did O w g b (qW C true A B) e w':=by
 obtain⟨X,hX,hblk,hb0,hF0,r0,r1,r2,r3,r4⟩:=ji O w 27 A B D n;have aX:=a.below hb0;have HW:=hid hX;have gA:=aX.regc hA;have i0:(0:Int)<=(A:Int):=by omega
 have i1:(A:Int)<16:=by omega
 have HA:=hid aX;have HF:=hid hF0;have hOX:∀i,X.heap.size<=i->O i:=fun i hi=>hO i (zqs hF0.size hi);obtain⟨fg,fc,hv,hkb,HT,f1,f4,fz,hpb,hfX,hfO⟩:=j7 a aX ok hl hf;replace HT:=hid HT;have hgO:=a.og;have HCA:=hid (fun q=>jmz (aX.drewN q) ok hOX 27 A B hA hB D n true rfl (by omega));clear a ok hO hblk hb0 hF0 hX aX hl hA hpb hv hf f1 fz hgO hfO hfX hOX f4 hB;go_enter Tryz.func99,Tryz.ntmps99;go_wp2_with fail;rw[HW.out];go_wp2_with fail;refine HT.out.mono ?_;rintro e w1 ⟨rfl,q1,rfl⟩;go_wp2_with fail;refine(HCA.out _).mono ?_;rintro e w2 ⟨rfl,h2,hf2⟩;have H2:=hid (zqf h2 hf2);clear h2 hf2;go_wp2_with fail;go_ret;exact⟨rfl,H2.out.1,(HF.out.drewN _).trans H2.out.2 (fun i hi=>.inl hi)⟩
theorem jeu {f:Fm} (hl:C.fr.length=k+1) (hf:C.fr[k]?=some f) (A:Nat) (hA:A<16) (B D n:Int) (hh:qL C=false):
  Calls prog 99 #[.pointer (some ⟨g,0,none⟩),.agg #[.int .i64 30,.int .i64 A,.int .i64 B,.int .i64 D,.int .i64 n]] w fun e w'=>Did O w g b (C,7) e w':=by
 obtain⟨X,hX,hblk,hb0,hF0,r0,r1,r2,r3,r4⟩:=ji O w 30 A B D n;have aX:=a.below hb0;have HW:=hid hX;have gA:=aX.regc hA;have i0:(0:Int)<=(A:Int):=by omega
 have i1:(A:Int)<16:=by omega
 have HA:=hid aX;have HF:=hid hF0;have hOX:∀i,X.heap.size<=i->O i:=fun i hi=>hO i (zqs hF0.size hi);obtain⟨fg,fc,hv,hkb,HT,f1,f4,fz,hpb,hfX,hfO⟩:=j7 a aX ok hl hf;replace HT:=hid HT;have hgO:=a.og;have HH:=fun q=>JQ (aX.drewN q) ok.n1 ok.n3;rw[hh] at HH;have HH:=hid HH;clear a ok hO hblk hb0 hF0 hX aX hl hA hpb hv hf f1 fz hgO hfO hfX hOX f4;go_enter Tryz.func99,Tryz.ntmps99;go_wp2_with fail;rw[HW.out];go_wp2_with fail;refine HT.out.mono ?_;rintro e w1 ⟨rfl,q1,rfl⟩;go_wp2_with fail;refine(HH.out _).mono ?_;rintro e w2 ⟨rfl,q2,rfl⟩;go_wp2_with fail;go_ret;exact⟨rfl,⟨_,_,_,_,HA.out.drewN _⟩,HF.out.drewN _⟩
theorem jev {f:Fm} (hl:C.fr.length=k+1) (hf:C.fr[k]?=some f) (A:Nat) (hA:A<16) (B D n:Int) (hh:qL C=true) {hs:List (Nat×Int)} {p:Nat×Int} (h:C.ha=hs++[p]):
  Calls prog 99 #[.pointer (some ⟨g,0,none⟩),.agg #[.int .i64 30,.int .i64 A,.int .i64 B,.int .i64 D,.int .i64 n]] w fun e w'=>Did O w g b ({C with ha:=hs},0) e w':=by
 obtain⟨X,hX,hblk,hb0,hF0,r0,r1,r2,r3,r4⟩:=ji O w 30 A B D n;have aX:=a.below hb0;have HW:=hid hX;have gA:=aX.regc hA;have i0:(0:Int)<=(A:Int):=by omega
 have i1:(A:Int)<16:=by omega
 have HA:=hid aX;have HF:=hid hF0;have hOX:∀i,X.heap.size<=i->O i:=fun i hi=>hO i (zqs hF0.size hi);obtain⟨fg,fc,hv,hkb,HT,f1,f4,fz,hpb,hfX,hfO⟩:=j7 a aX ok hl hf;replace HT:=hid HT;have hgO:=a.og;have HH:=fun q=>JQ (aX.drewN q) ok.n1 ok.n3;rw[hh] at HH;have HH:=hid HH;have hl2:C.ha.length=hs.length+1:=by rw[h];simp
 obtain⟨hg,hc,e3,_,_⟩:=aX.oh.form (by omega);have hcc:=jay aX.oh e3;have c3:=aX.ch;have h3:=ok.n3;rw[e3,hl2] at c3;rw[hl2] at h3 hcc;have z:=aX.fz 1047;have HC:=hid (fun q=>(aX.cutHa (k:=hs.length) e3 rfl (by omega)).drewN q);have hts:C.ha.take hs.length=hs:=by rw[h];simp
 rw[hts] at HC;obtain⟨m,hm⟩:∃m,hs.length=m:=⟨_,rfl⟩;rw[hm] at c3 h3 hcc HC;obtain⟨K,hK⟩:∃K,m+1=K:=⟨_,rfl⟩;rw[hK] at c3 h3 hcc;have l1:(K:Int)-1=(m:Int):=by omega
 have l2:=jv (n:=(m:Int)) (by omega) (by omega);have b0:(0:Int)<=(m:Int):=by omega
 have b2:(m:Int)<=(hc:Int):=by omega
 clear a ok hO hblk hb0 hF0 hX aX hl hA hpb hv hf f1 fz hfO hfX hOX f4;clear hh h hl2 hm hK e3 hts;go_enter Tryz.func99,Tryz.ntmps99;go_wp2_with fail;rw[HW.out];go_wp2_with fail;refine HT.out.mono ?_;rintro e w1 ⟨rfl,q1,rfl⟩;go_wp2_with fail;refine(HH.out _).mono ?_;rintro e w2 ⟨rfl,q2,rfl⟩;go_wp2_with fail;go_region;all_goals
  go_wp2_with fail;go_ret;exact⟨rfl,⟨_,_,_,_,HC.out _⟩,(HF.out.setCell (p:=⟨g,1047,none⟩) (.inl hgO) _).drewN _⟩
end
end
def jaO (l:List RFm):Nat:=(l.map fun z=>z.slots.length).sum
theorem qy (l:List RFm):(l.flatMap fun x=>x.slots).length=jaO l:=by rw[List.length_flatMap];rfl
theorem jpT (a b:List RFm):jaO (a++b)=jaO a+jaO b:=by unfold jaO;rw[List.map_append,List.sum_append]
theorem jmU (l:List RFm) (n:Nat) (φ:RWd->Nat):((l.flatMap fun x=>x.slots).map φ).take (jaO (l.take n))=((l.take n).flatMap fun x=>x.slots).map φ:=by
 have e:l.flatMap (fun x=>x.slots)=(l.take n).flatMap (fun x=>x.slots)++(l.drop n).flatMap fun x=>x.slots:=by
  conv=>lhs;rw[<-List.take_append_drop n l]
  rw[List.flatMap_append]
 rw[e,List.map_append,List.take_append_of_le_length (by rw[List.length_map,qy];exact zqg _),zqp (by rw[List.length_map,qy];exact zqg _)]
theorem FrS.take {A:Nat->Nat} {os:List RObj} {F:List RFm} {fr:List Fm} (h:FrS A os F fr) (n:Nat):FrS A os (F.take n) (fr.take n):=by
 refine⟨by rw[List.length_take,List.length_take,h.len],fun j x y hx hy=>?_⟩;rw[List.getElem?_take] at hx hy;split at hx
 ·rename_i hj
  rw[if_pos hj] at hy;obtain⟨h1,h2,h3,h4⟩:=h.nth j x y hx hy;refine⟨h1,h2,?_,h4⟩;rw[h3,List.take_take,show min j n=j by omega]
 ·cases hx
theorem FrS.place {A:Nat->Nat} {os:List RObj} {F:List RFm} {fr:List Fm} (h:FrS A os F fr) {k:Nat} {x0:RFm} {y0:Fm} (hx0:F[k]?=some x0) (hy0:fr[k]?=some y0) (pl:Int):FrS A os (F.set k {x0 with place:=pl}) (fr.set k {y0 with place:=pl}):=by
 have hk:=(zqb hx0).1;have hk2:=(zqb hy0).1;refine⟨by rw[List.length_set,List.length_set,h.len],fun j x y hx hy=>?_⟩;have hl:∀j,((F.set k {x0 with place:=pl}).take j).map (fun z=>z.slots.length)=(F.take j).map fun z=>z.slots.length:=fun j=>by
  rw[List.map_take,List.map_take,List.map_set];have:(F.map fun z=>z.slots.length)[k]?=some x0.slots.length:=by rw[List.getElem?_map,hx0];rfl
  obtain⟨q1,q2⟩:=zqb this;rw[<-q2,List.set_getElem_self]
 rw[List.getElem?_set] at hx hy;rw[hl];by_cases e:k=j
 ·subst e
  rw[if_pos rfl,if_pos hk] at hx;rw[if_pos rfl,if_pos hk2] at hy;obtain⟨h1,_,h3,h4⟩:=h.nth k x0 y0 hx0 hy0;cases hx
  cases hy
  exact⟨h1,rfl,h3,h4⟩
 ·rw[if_neg e] at hx hy
  exact h.nth j x y hx hy
section
variable {M:RM} {C:CM} {D S:Nat->Prop} {f A:Nat->Nat} {E:List Nat}
theorem jdi {M':RM} {x:RWd} (h1:M'.rg=M.rg) (h2:M'.gl=M.gl) (h3:M'.entry=M.entry) (h4:M'.value=M.value) (hf:∀y∈M'.frs,∃z∈M.frs,y.code=z.code/\∀v∈y.slots,v∈z.slots) (h:x∈jr M'):x∈jr M:=by
 rcases ja.1 h with⟨j,q1,q2⟩|⟨y,q1,q2⟩|⟨j,q1,q2⟩|q|q
 ·exact ja.2 (.inl ⟨j,q1,by rw[q2,h1]⟩)
 ·obtain⟨z,z1,z2,z3⟩:=hf y q1
  rcases q2 with q2|q2
  ·exact ja.2 (.inr (.inl ⟨z,z1,.inl (by rw[q2,z2])⟩))
  ·exact ja.2 (.inr (.inl ⟨z,z1,.inr (z3 x q2)⟩))
 ·exact ja.2 (.inr (.inr (.inl ⟨j,q1,by rw[q2,h2]⟩)))
 ·exact ja.2 (.inr (.inr (.inr (.inl (by rw[q,h3])))))
 ·exact ja.2 (.inr (.inr (.inr (.inr (by rw[q,h4])))))
theorem jhX (l:List RFm) (n:Nat):jaO (l.take n)<=jaO l:=by
 conv=>rhs;rw[<-List.take_append_drop n l]
 rw[jpT];omega
theorem Sim.cut (s:Sim M C D f A) (n:Nat) {ha:List (Nat×Int)} (h1:ha.Sublist M.has) (h2:∀p∈ha,p.1<min n M.frs.length):Sim {M with frs:=M.frs.take n,has:=ha} {jP C n with ha:=ha} D f A:=by
 have hroot:∀x,x∈jr {M with frs:=M.frs.take n,has:=ha}->x∈jr M:=fun x hx=>jdi (M:=M) (M':={M with frs:=M.frs.take n,has:=ha}) rfl rfl rfl rfl (fun y hy=>⟨y,List.mem_of_mem_take hy,rfl,fun v hv=>hv⟩) hx;have JZ:jP C n={C with fr:=C.fr.take n,sl:=C.sl.take (jaO (M.frs.take n))}:=by
  unfold jP;cases e:C.fr[n]? with
  |none=>
   have hl:=List.getElem?_eq_none_iff.1 e;have hl2:M.frs.length<=n:=by rw[<-s.fr.len];exact hl
   show C=_;rw[zqp hl,zqp hl2,<-qy,<-s.slen,List.take_length]
  |some y=>
   have hl:=(zqb e).1;obtain⟨_,_,h3,_⟩:=s.fr.nth n _ y (zqh (by rw[<-s.fr.len];exact hl)) e;show({C with fr:=C.fr.take n,sl:=C.sl.take y.base}:CM)=_;rw[h3];rfl
 rw[JZ];exact{s with
  rt:=fun k hk=>s.rt k (hroot _ hk)
  wr:=fun v hv=>s.wr v (hroot _ hv)
  fr:=s.fr.take n
  sl:=by
   show C.sl.take _=_;rw[s.sl,jmU]
  ha:=rfl
  pl:=fun x hx=>s.pl x (List.mem_of_mem_take hx)
  hf:=fun p hp=>by
   show p.1<(M.frs.take n).length;rw[List.length_take];exact h2 p hp
  hp:=fun p hp=>s.hp p (h1.subset hp)
  hs:=s.hs.sublist h1
  ft:=by
   have e1:=s.ft;rw[zS] at e1 ⊢;have e2:=h1.length_le;have e3:=jhX M.frs n;rw[qy] at e1;show 3*((M.frs.take n).length:Int)+(((M.frs.take n).flatMap fun x=>x.slots).length:Int)+3*(ha.length:Int)<=M.stack;rw[qy,List.length_take];omega}
theorem Usd.cut (u:Usd M E) (n:Nat) (ha:List (Nat×Int)):Usd {M with frs:=M.frs.take n,has:=ha} E:=
 u.of rfl rfl fun _ hx=>.inl (jdi (M:=M) (M':={M with frs:=M.frs.take n,has:=ha}) rfl rfl rfl rfl (fun y hy=>⟨y,List.mem_of_mem_take hy,rfl,fun _ hv=>hv⟩) hx)
theorem Sim.place (s:Sim M C D f A) {k:Nat} {x:RFm} {y:Fm} (hx:M.frs[k]?=some x) (hy:C.fr[k]?=some y) {pl:Int} (h1: -8589934592<=pl) (h2:pl<=8589934592):Sim {M with frs:=M.frs.set k {x with place:=pl}} {C with fr:=C.fr.set k {y with place:=pl}} D f A:=by
 have hk:=(zqb hx).1;have hm:∀z∈M.frs.set k {x with place:=pl},∃z0∈M.frs,z.code=z0.code/\z.slots=z0.slots/\(z.place=pl\/z.place=z0.place):=fun z hz=>by
  rcases List.mem_or_eq_of_mem_set hz with q|q
  ·exact⟨z,q,rfl,rfl,.inr rfl⟩
  ·exact⟨x,zqc hx,by rw[q],by rw[q],.inl (by rw[q])⟩
 have hroot:∀v,v∈jr {M with frs:=M.frs.set k {x with place:=pl}}->v∈jr M:=fun v hv=>jdi (M:=M) (M':={M with frs:=M.frs.set k {x with place:=pl}}) rfl rfl rfl rfl (fun z hz=>by
  obtain⟨z0,q1,q2,q3,_⟩:=hm z hz;exact⟨z0,q1,q2,fun v hv=>q3▸hv⟩) hv
 have hmap:(M.frs.set k {x with place:=pl}).map (fun z=>z.slots)=M.frs.map fun z=>z.slots:=by
  rw[List.map_set];have:(M.frs.map fun z=>z.slots)[k]?=some x.slots:=by rw[List.getElem?_map,hx];rfl
  obtain⟨q1,q2⟩:=zqb this;rw[<-q2,List.set_getElem_self]
 have hflat:(M.frs.set k {x with place:=pl}).flatMap (fun z=>z.slots)=M.frs.flatMap fun z=>z.slots:=by
  rw[List.flatMap_def,hmap,<-List.flatMap_def]
 exact{s with
  rt:=fun i hi=>s.rt i (hroot _ hi)
  wr:=fun v hv=>s.wr v (hroot _ hv)
  fr:=s.fr.place hx hy pl
  sl:=by
   show C.sl=_;rw[hflat];exact s.sl
  pl:=fun z hz=>by
   obtain⟨z0,q1,_,_,q|q⟩:=hm z hz
   ·rw[q];exact⟨h1,h2⟩
   ·rw[q];exact s.pl z0 q1
  hf:=fun p hp=>by
   show p.1<(M.frs.set k _).length;rw[List.length_set];exact s.hf p hp
  ft:=by
   have e1:=s.ft;rw[zS] at e1 ⊢;show 3*((M.frs.set k {x with place:=pl}).length:Int)+(((M.frs.set k {x with place:=pl}).flatMap fun z=>z.slots).length:Int)+3*(M.has.length:Int)<=M.stack;rw[hflat,List.length_set];exact e1}
theorem Usd.place (u:Usd M E) {k:Nat} {x:RFm} (hx:M.frs[k]?=some x) (pl:Int):Usd {M with frs:=M.frs.set k {x with place:=pl}} E:=
 u.of rfl rfl fun v hv=>.inl (jdi (M:=M) (M':={M with frs:=M.frs.set k {x with place:=pl}}) rfl rfl rfl rfl (fun z hz=>by
  rcases List.mem_or_eq_of_mem_set hz with q|q
  ·exact⟨z,q,rfl,fun v hv=>hv⟩
  ·exact⟨x,zqc hx,by rw[q],fun v hv=>by rw[q] at hv;exact hv⟩) hv)
end
def jbs (M:RM):Bool:=match M.has.getLast? with
 |none=>false
 |some h=>decide (h.1+1=M.frs.length)
def jld (M:RM) (A n:Int):RM×Int:=if n<0\/((jo M (jK M).code).ws.length:Int)<=n then(M,7) else(M.reg A ((jo M (jK M).code).ws.getD n.toNat (.I 0)),0)
def jhb (M:RM) (A n:Int):RM×Int:=if n<0\/1024<=n then(M,7) else({M with gl:=JX M.gl n.toNat (M.rg A.toNat)},0)
def jhc (M:RM) (A n:Int):RM×Int:=if n<0\/((jK M).slots.length:Int)<=n then(M,7) else(M.reg A ((jK M).slots.getD n.toNat (.I 0)),0)
def jhf (M:RM) (A n:Int):RM×Int:=if n<0\/((jK M).slots.length:Int)<=n then(M,7) else(M.top fun f=>{f with slots:=f.slots.set n.toNat (M.rg A.toNat)},0)
def jeJ (M:RM) (n:Int):RM:=M.top fun f=>{f with place:=f.place+n}
def jds (M:RM) (A n:Int):RM×Int:=match M.rg A.toNat with
 | .P _=>(M,7)
 | .I m=>if m=0 then(jeJ M n,0) else(M,0)
def jiR (op y z:Int):Int:=
 if op=7 then W (y+z) else if op=8 then W (y-z) else if op=9 then W (y*z) else if op=10 then NumL.jb0 y z else if op=11 then NumL.jcb y z else if op=13 then(if y<z then 1 else 0) else if y<=z then 1 else 0
def Zq (M:RM) (op A:Int) (b c:RWd):RM×Int:=match b with
 | .P _=>(M,7)
 | .I y=>if op=12 then(M.reg A (.I (W (-y))),0) else match c with
   | .P _=>(M,7)
   | .I z=>if(op=10\/op=11)/\z=0 then Zf M (.I 2) else(M.reg A (.I (jiR op y z)),0)
def jex (M:RM) (n:Int):RM×Int:=if n<0 then(M,7) else if M.stack<qi M-(jK M).slots.length+n then(M,6) else(M.top fun f=>{f with slots:=List.replicate n.toNat (.I 0)},0)
def ja1 (M:RM) (a:RWd):RWd:=(jo M a).ws.getD 0 (.I 0)
def QR (M:RM) (x:RWd):RM:={M with frs:=M.frs++[⟨x,0,[]⟩]}
def jcI (M:RM) (x a b:RWd):RM×Int:=if M.stack<qi (QR M x) then(QR M x,6) else(((QR M x).reg 0 a).reg 1 b,0)
def jde (M:RM) (tail:Bool) (a b:RWd):RM×Int:=if(jo M a).k≠3\/(jo M (ja1 M a)).k≠5\/tail&&jbs M then(M,7) else jcI (if tail then{M with frs:=M.frs.take (M.frs.length-1)} else M) (ja1 M a) a b
def jeK (M:RM) (v:RWd):RM×Int:=if jbs M then(M,7) else if M.frs.length-1=0 then({M with frs:=M.frs.take (M.frs.length-1),value:=v},1) else(RM.reg {M with frs:=M.frs.take (M.frs.length-1)} 0 v,0)
def jeD (M:RM) (n:Int):RM:={M with has:=M.has++[(M.frs.length-1,(jK M).place+n)]}
def jfm (M:RM) (n:Int):RM×Int:=(jeD M n,if M.stack<qi (jeD M n) then 6 else 0)
def jl4 (M:RM):RM×Int:=if jbs M then({M with has:=M.has.dropLast},0) else(M,7)
def jas (M:RM) (A:Int) (o:RObj):RM×Int:=if(jz M o.words).2 then((jck (jz M o.words).1 o).reg A (.P M.objs.length),0) else((jz M o.words).1,5)
def jbE (M:RM) (k:Nat) (A n:Int):RM×Int:=if n<1\/16384<n then(M,7) else jas M A ⟨k,List.replicate n.toNat (.I 0),⟨#[]⟩,[]⟩
def jqB (M:RM) (A:Int) (v:RWd):RM×Int:=jas M A ⟨2,[v],⟨#[]⟩,[]⟩
def jey (M:RM) (A n:Int) (v:RWd):RM×Int:=if((jo M v).k=1\/(jo M v).k=2\/(jo M v).k=3)/\0<=n/\n<((jo M v).ws.length:Int) then(M.reg A ((jo M v).ws.getD n.toNat (.I 0)),0) else(M,7)
def jbO (M:RM) (a:RWd) (n:Nat) (v:RWd):RM:={M with objs:=M.objs.modify a.at fun o=>{o with ws:=o.ws.set n v}}
def jg8 (M:RM) (n:Int) (a v:RWd):RM×Int:=if((jo M a).k=1\/(jo M a).k=3)/\0<=n/\n<((jo M a).ws.length:Int) then(jbO M a n.toNat v,0) else(M,7)
def jdc (M:RM) (a v:RWd):RM×Int:=if(jo M a).k=2 then(jbO M a 0 v,0) else(M,7)
def jl0 (M:RM) (A:Int) (v:RWd):RM×Int:=match v with
 | .I n=>(M.reg A (.I n),0)
 | .P k=>if(jo M (.P k)).k≠1\/(ja1 M (.P k)).isP then(M,7) else(M.reg A (ja1 M (.P k)),0)
def jaa (M:RM) (A:Int) (t:ByteArray):RM×Int:=if 131064<t.size then(M,5) else jas M A ⟨4,[],t,[]⟩
def jha (M:RM) (A:Int) (b c:RWd):RM×Int:=if(jo M b).k≠4\/(jo M c).k≠4 then(M,7) else jaa M A ((jo M b).tx++(jo M c).tx)
def jhg (M:RM) (A:Int) (b:RWd):RM×Int:=if(jo M b).k≠4 then(M,7) else(M.reg A (.I (jo M b).tx.size),0)
def jlz (M:RM) (A:Int) (b c:RWd):RM×Int:=if(jo M b).k≠4\/c.isP then(M,7) else if c.num<0\/((jo M b).tx.size:Int)<=c.num then Zf M (.I 4) else(M.reg A (.I ((jo M b).tx.data.getD c.num.toNat 0).toNat),0)
def jlX (M:RM) (A:Int) (b:RWd):RM×Int:=if b.isP then(M,7) else if b.num<0\/255<b.num then Zf M (.I 3) else jaa M A ⟨#[UInt8.ofNat b.num.toNat]⟩
def jkE (M:RM) (A:Int) (b:RWd):RM×Int:=if b.isP then(M,7) else jaa M A ⟨(Lib.itoa b.num).toArray⟩
def opR (M:RM) (op A B D n:Int):RM×Int:=match op.toNat with
 |1=>(M.reg A (.I n),0)
 |2=>jld M A n
 |3=>(M.reg A (M.rg B.toNat),0)
 |4=>jhb M A n
 |5=>jhc M A n
 |6=>jhf M A n
 |7=>Zq M 7 A (M.rg B.toNat) (M.rg D.toNat)
 |8=>Zq M 8 A (M.rg B.toNat) (M.rg D.toNat)
 |9=>Zq M 9 A (M.rg B.toNat) (M.rg D.toNat)
 |10=>Zq M 10 A (M.rg B.toNat) (M.rg D.toNat)
 |11=>Zq M 11 A (M.rg B.toNat) (M.rg D.toNat)
 |12=>Zq M 12 A (M.rg B.toNat) (M.rg D.toNat)
 |13=>Zq M 13 A (M.rg B.toNat) (M.rg D.toNat)
 |14=>Zq M 14 A (M.rg B.toNat) (M.rg D.toNat)
 |16=>jbE M 1 A n
 |17=>jbE M 3 A n
 |18=>jqB M A (M.rg B.toNat)
 |19=>jey M A n (M.rg B.toNat)
 |20=>jg8 M n (M.rg A.toNat) (M.rg B.toNat)
 |21=>jdc M (M.rg A.toNat) (M.rg B.toNat)
 |22=>jl0 M A (M.rg B.toNat)
 |23=>(jeJ M n,0)
 |24=>jds M A n
 |25=>jex M n
 |26=>jde M false (M.rg A.toNat) (M.rg B.toNat)
 |27=>jde M true (M.rg A.toNat) (M.rg B.toNat)
 |28=>jeK M (M.rg A.toNat)
 |29=>jfm M n
 |30=>jl4 M
 |31=>Zf M (M.rg A.toNat)
 |32=>jha M A (M.rg B.toNat) (M.rg D.toNat)
 |33=>jhg M A (M.rg B.toNat)
 |34=>jlX M A (M.rg B.toNat)
 |35=>jlz M A (M.rg B.toNat) (M.rg D.toNat)
 |36=>jkE M A (M.rg B.toNat)
 |_=>(M,7)
