/- A part of the proof of MachineMoves. Conditions: those that each theorem names. -/
import Derived.Test.YtklcmdoadmcpfaaGreatDoorQ36
set_option maxRecDepth 100000
set_option maxHeartbeats 400000000
namespace Go.Proofs.YtklcmdoadmcpfaaGreatDoor
open Go Go.RowKit IsaL
open Go.Lib(hid)
open Go.Proofs.Tryz(prog)
section
variable {M:RM} {C:CM} {D:Nat->Prop} {f A:Nat->Nat} {E:List Nat} {l:List jn} {m:Nat}
theorem Qh:∀{l:List jn},zv m l=0->∀c∈l,jN m c=0
 |[],_,c,hc=>by cases hc
 |y::t,h,c,hc=>by
  have h':(if jN m y=0 then zv m t else jN m y)=0:=h;by_cases e:jN m y=0
  ·rw[if_pos e] at h'
   rcases List.mem_cons.1 hc with q|q
   ·rw[q];exact e
   ·exact Qh h' c q
  ·rw[if_neg e] at h';exact absurd h' e
theorem ja7:∀{l:List jV},zL m l=0->∀c∈l,jJ m c=0
 |[],_,c,hc=>by cases hc
 |y::t,h,c,hc=>by
  have h':(if jJ m y=0 then zL m t else jJ m y)=0:=h;by_cases e:jJ m y=0
  ·rw[if_pos e] at h'
   rcases List.mem_cons.1 hc with q|q
   ·rw[q];exact e
   ·exact ja7 h' c q
  ·rw[if_neg e] at h';exact absurd h' e
theorem Zh {c:jn} (h:jN m c=0):c.ls.length+c.ins.length<=16384/\zL m c.ls=0/\qs c.ins=0:=by
 unfold jN at h;split at h
 ·cases h
 ·split at h
  ·rename_i h1 h2
   exact⟨by omega,h2,h⟩
  ·rename_i e;exact absurd h e
theorem jtW (n:Int):jO (W n)=jO n:=by unfold jO W;omega
theorem jrI:zj C.now (zE M.objs.length l.length M.gl 0 l) (ju l)=Z3 C (j9 M.objs.length M.gl l):=rfl
theorem jfe (M:RM) (C:CM) (f:Nat->Nat) (os:List RObj) (p:Nat):QT M C f os (M.objs.length+p)=2*(JN C (Z3 C os) (C.now.length+p)).toNat:=by
 unfold QT fN;rw[if_neg (by omega),Nat.add_sub_cancel_left];rfl
theorem jtN (s:Sim M C D f A) (h:zv l.length l=0) (hf:used (Z3 C (j9 M.objs.length M.gl l))<=C.W):Cps l (zE M.objs.length l.length M.gl 0 l) (zj C.now (zE M.objs.length l.length M.gl 0 l) (ju l)) C (QT M C f (j9 M.objs.length M.gl l)):=by
 have hW:C.W<=65536:=s.z.w1;refine⟨qm _ _ _ _ _,fun o ho=>?_,fun c hc=>?_,fun j c hc=>?_⟩
 ·obtain⟨j,hj⟩:=List.mem_iff_getElem?.1 ho
  have hjl:=(zqb hj).1;rw[qm] at hjl;rw[QH _ _ _ _ _ (zqh hjl)] at hj;cases hj
  rfl
 ·obtain⟨h1,_,h3⟩:=Zh (Qh h c hc)
  exact⟨h1,jhT h3⟩
 ·obtain⟨h1,h2,h3⟩:=Zh (Qh h c (zqc hc))
  have hg:=QH M.objs.length l.length M.gl l 0 hc;rw[Nat.zero_add] at hg;refine⟨_,hg,Jy _ _ _ _ _,fun q x hx=>?_⟩;have hE:=ja7 h2 x (zqc hx);have hw:=jar M.objs.length l.length M.gl c.ls (ju (l.take j)).length hx;refine⟨hE,_,hw,?_⟩;rw[jrI];obtain⟨kd,n,num,tx⟩:=x;have hb:∀p,JN C (Z3 C (j9 M.objs.length M.gl l)) p<=131073:=fun p=>(jcE hf hW p).2;unfold jJ at hE;simp only at hE;unfold joZ;simp only;have d:∀{a b:Int},a≠b->∀{P:Prop},a=b->P:=fun h1 _ h2=>absurd h2 h1;by_cases k1:kd=1
  ·subst k1
   have e:JL M.objs.length l.length ((ju (l.take j)).length+(jI (c.ls.take q)).length) M.gl ⟨1,n,num,tx⟩=.I (W num):=rfl;rw[e];have h5:jw (QT M C f (j9 M.objs.length M.gl l)) (.I (W num))=(jO num).toNat:=congrArg Int.toNat (jtW num);rw[h5];have h6:0<=jO num/\jO num<18446744073709551616:=by unfold jO;omega
   exact⟨⟨fun _=>by omega,d (by decide),d (by decide),d (by decide)⟩,by omega⟩
  by_cases k2:kd=2
  ·subst k2
   have e:JL M.objs.length l.length ((ju (l.take j)).length+(jI (c.ls.take q)).length) M.gl ⟨2,n,num,tx⟩=.P (M.objs.length+l.length+((ju (l.take j)).length+(jI (c.ls.take q)).length)):=rfl;rw[e];have h5:jw (QT M C f (j9 M.objs.length M.gl l)) (.P (M.objs.length+l.length+((ju (l.take j)).length+(jI (c.ls.take q)).length)))=2*(JN C (Z3 C (j9 M.objs.length M.gl l)) (C.now.length+l.length+((ju (l.take j)).length+(jI (c.ls.take q)).length))).toNat:=by
    show QT M C f _ _=_;rw[Nat.add_assoc,jfe,Nat.add_assoc]
   have h6:=hb (C.now.length+l.length+((ju (l.take j)).length+(jI (c.ls.take q)).length));exact⟨⟨d (by decide),fun _=>h5,d (by decide),d (by decide)⟩,by rw[h5];omega⟩
  by_cases k3:kd=3
  ·subst k3
   have e:JL M.objs.length l.length ((ju (l.take j)).length+(jI (c.ls.take q)).length) M.gl ⟨3,n,num,tx⟩=.P (M.objs.length+n.toNat):=rfl;rw[e];have h5:jw (QT M C f (j9 M.objs.length M.gl l)) (.P (M.objs.length+n.toNat))=2*(JN C (Z3 C (j9 M.objs.length M.gl l)) (C.now.length+n.toNat)).toNat:=jfe M C f _ _;have h6:=hb (C.now.length+n.toNat);exact⟨⟨d (by decide),d (by decide),fun _=>h5,d (by decide)⟩,by rw[h5];omega⟩
  ·rw[if_neg k1,if_neg k2,if_neg k3] at hE
   have k4:kd=4:=Classical.byContradiction fun q=>by rw[if_neg q] at hE;cases hE
   subst k4;rw[if_pos rfl] at hE;have hn:¬(n<0\/1024<=n):=fun q=>by rw[if_pos q] at hE;cases hE
   have e:JL M.objs.length l.length ((ju (l.take j)).length+(jI (c.ls.take q)).length) M.gl ⟨4,n,num,tx⟩=M.gl n.toNat:=rfl;rw[e];have hk:n.toNat<1024:=by omega
   have hr:M.gl n.toNat∈jr M:=ja.2 (.inr (.inr (.inl ⟨_,hk,rfl⟩)));have h5:jw (QT M C f (j9 M.objs.length M.gl l)) (M.gl n.toNat)=C.gl n.toNat:=by
    rw[s.gl _ hk];exact jbl fun k e=>(s.aN _ (s.rt k (e▸hr))).1
   have h6:C.gl n.toNat<18446744073709551616:=s.ok.gl _ hk;exact⟨⟨d (by decide),d (by decide),d (by decide),fun _=>h5⟩,by rw[h5];exact h6⟩
theorem jdr:∀ls:List jV,((jI ls).map fun t=>2+(t.size+7)/8).sum=jU ls
 |[]=>rfl
 |x::r=>by
  show((if x.kd=2 then x.tx::jI r else jI r).map fun t=>2+(t.size+7)/8).sum=qz x+jU r;unfold qz;by_cases h:x.kd=2
  ·rw[if_pos h,if_pos h,List.map_cons,List.sum_cons,jdr r]
  ·rw[if_neg h,if_neg h,jdr r];omega
theorem jcN (m0 nc:Nat) (gl:Nat->RWd):∀(l:List jn) (t:Nat),((zE m0 nc gl t l).map RObj.words).sum+((ju l).map fun t=>2+(t.size+7)/8).sum=jg l
 |[],_=>rfl
 |c::r,t=>by
  have ih:=jcN m0 nc gl r (t+(jI c.ls).length);have h1:=jdr c.ls;show(((RObj.mk 5 (qf m0 nc gl t c.ls) ⟨#[]⟩ c.ins)::zE m0 nc gl (t+(jI c.ls).length) r).map RObj.words).sum+_=zy c+jg r;rw[show ju (c::r)=jI c.ls++ju r from List.flatMap_cons ..,List.map_append,List.sum_append,List.map_cons,List.sum_cons];have h2:(RObj.mk 5 (qf m0 nc gl t c.ls) ⟨#[]⟩ c.ins).words=1+c.ls.length+c.ins.length:=by
   show 1+(qf m0 nc gl t c.ls).length+c.ins.length=_;rw[Jy]
  rw[h2,h1];unfold zy;omega
theorem jcY (m0:Nat) (gl:Nat->RWd) (l:List jn):((j9 m0 gl l).map RObj.words).sum=jg l:=by
 rw[<-jcN m0 l.length gl l 0];unfold j9;rw[List.map_append,List.sum_append,List.map_map];rfl
theorem jgQ (B:Nat->Nat):∀os:List RObj,used (os.map (jA B))=(os.map RObj.words).sum
 |[]=>rfl
 |o::r=>by
  have:=jgQ B r;have h:=Qb o B;show used ([jA B o]++r.map (jA B))=_;rw[z6,this,List.map_cons,List.sum_cons,<-h];unfold used;simp
theorem joT (m0:Nat) (gl:Nat->RWd) (l:List jn):used (Z3 C (j9 m0 gl l))=used C.now+jg l:=by
 unfold Z3;rw[z6,jgQ,jcY]
theorem juS {c:jn} (h:jN m c=0):∀t∈jI c.ls,t.size<=131064:=by
 obtain⟨_,h2,_⟩:=Zh h;revert h2;generalize c.ls=ls;induction ls with
 |nil=>intro _ t ht;cases ht
 |cons x r ih=>
  intro h2 t ht;have hx:=ja7 h2 x (List.mem_cons_self ..);have hr:zL m r=0:=by
   have h':(if jJ m x=0 then zL m r else jJ m x)=0:=h2;rw[if_pos hx] at h';exact h'
  have ht:t∈(if x.kd=2 then x.tx::jI r else jI r):=ht;by_cases e:x.kd=2
  ·rw[if_pos e] at ht
   rcases List.mem_cons.1 ht with q|q
   ·unfold jJ at hx
    rw[if_neg (by omega),if_pos e] at hx;rw[q];split at hx
    ·cases hx
    ·omega
   ·exact ih hr t q
  ·rw[if_neg e] at ht
   exact ih hr t ht
theorem jgo {m0:Nat} {gl:Nat->RWd} {l:List jn} (h:zv l.length l=0) {P:Nat->Prop} (hgl:∀k,k<1024->Wr (gl k)/\∀j,gl k=.P j->P j):∀o∈j9 m0 gl l,ObjR o/\∀v∈o.ws,Wr v/\∀k,v=.P k->P k\/(m0<=k/\k<m0+(j9 m0 gl l).length):=by
 intro o ho;obtain⟨j,hj⟩:=List.mem_iff_getElem?.1 ho;have hjl:=(zqb hj).1;by_cases hlt:j<l.length
 ·have hc:=zqh hlt
  obtain⟨h1,h2,h3⟩:=Zh (Qh h _ (zqc hc));rw[jlp m0 gl hc] at hj;cases hj
  refine⟨⟨.inr (.inr ⟨rfl,jhT h3,by show(qf _ _ _ _ _).length+_<=_;rw[Jy];exact h1⟩),fun _=>rfl⟩,fun v hv=>?_⟩;have hv:v∈qf m0 l.length gl (ju (l.take j)).length l[j].ls:=hv;obtain⟨q,hq⟩:=List.mem_iff_getElem?.1 hv;have hql:=(zqb hq).1;rw[Jy] at hql;have hx:=zqh hql;have hE:=ja7 h2 _ (zqc hx);rw[jar _ _ _ _ _ hx] at hq;have hTX:=fun h2=>jho hc hx h2;generalize hx0:l[j].ls[q]=x at hq hE hTX;obtain⟨kd,n,num,tx⟩:=x;have hlen:=jcX m0 gl l;unfold jJ at hE;unfold JL at hq;simp only at hE hq;by_cases k2:kd=2
  ·have ht:=(zqb (hTX k2)).1
   rw[if_pos k2] at hq;cases hq
   exact⟨trivial,fun k e=>.inr (by cases e;omega)⟩
  rw[if_neg k2] at hq hE;by_cases k3:kd=3
  ·rw[if_neg (by omega),if_pos k3] at hE
   rw[if_pos k3] at hq;have hn:¬(n<0\/(l.length:Int)<=n):=fun q=>by rw[if_pos q] at hE;cases hE
   cases hq
   exact⟨trivial,fun k e=>.inr (by cases e;omega)⟩
  rw[if_neg k3] at hq hE;by_cases k4:kd=4
  ·rw[if_neg (by omega),if_pos k4] at hE
   rw[if_pos k4] at hq;have hn:¬(n<0\/1024<=n):=fun q=>by rw[if_pos q] at hE;cases hE
   obtain⟨g1,g2⟩:=hgl n.toNat (by omega);cases hq
   exact⟨g1,fun k e=>.inl (g2 k e)⟩
  ·rw[if_neg k4] at hq
   cases hq
   exact⟨⟨jhl _,jhk _⟩,fun k e=>by cases e⟩
 ·obtain⟨t,rfl⟩:∃t,j=l.length+t:=⟨j-l.length,by omega⟩
  rw[jlq] at hj;cases ht:(ju l)[t]? with
  |none=>rw[ht] at hj;cases hj
  |some x=>
   rw[ht] at hj;cases hj
   refine⟨⟨.inr (.inl ⟨rfl,rfl,rfl,?_⟩),fun q=>absurd rfl q⟩,fun v hv=>by cases hv⟩;obtain⟨c,hc,hx⟩:=List.mem_flatMap.1 (zqc ht);exact juS (Qh h c hc) x hx
end
def qv (c:jn):RObj:=⟨5,List.replicate c.ls.length (.I 0),⟨#[]⟩,c.ins⟩
def Zx (m0 nc:Nat) (gl:Nat->RWd) (t:Nat) (c:jn) (k:Nat):RObj:=⟨5,(qf m0 nc gl t c.ls).take k++List.replicate (c.ls.length-k) (.I 0),⟨#[]⟩,c.ins⟩
def otx (t:ByteArray):RObj:=⟨4,[],t,[]⟩
def jaf (m0 nc:Nat) (gl:Nat->RWd) (l:List jn) (i:Nat):List RObj:=zE m0 nc gl 0 (l.take i)++(l.drop i).map qv++(ju (l.take i)).map otx
def zr (m0 nc:Nat) (gl:Nat->RWd) (l:List jn) (i:Nat) (c:jn) (k:Nat):List RObj:=zE m0 nc gl 0 (l.take i)++Zx m0 nc gl (ju (l.take i)).length c k::(l.drop (i+1)).map qv++((ju (l.take i)).map otx++(jI (c.ls.take k)).map otx)
def Jc (M:RM) (u0:Int) (os:List RObj):RM:={M with objs:=M.objs++os,used:=u0+((os.map RObj.words).sum:Nat)}
theorem jj1 (M:RM) (u0:Int) (os:List RObj) (o:RObj):jck (Jc M u0 os) o=Jc M u0 (os++[o]):=by
 unfold jck Jc;have e1:(M.objs++os)++[o]=M.objs++(os++[o]):=List.append_assoc ..;have e2:u0+((os.map RObj.words).sum:Nat)+(o.words:Int)=u0+(((os++[o]).map RObj.words).sum:Nat):=by
  rw[List.map_append,List.sum_append];simp only[List.map_cons,List.map_nil,List.sum_cons,List.sum_nil];omega
 simp only;rw[e1,e2]
theorem jeV {α:Type} (f:α->α):∀(a:List α) (x:α) (b:List α),(a++x::b).modify a.length f=a++f x::b
 |[],_,_=>rfl
 |y::a,x,b=>by
  have:=jeV f a x b;show(y::(a++x::b)).modify (a.length+1) f=y::(a++f x::b);rw[<-this];rfl
section
variable {m0 nc:Nat} {gl:Nat->RWd} {t i k:Nat} {c:jn} {x:jV} {l:List jn}
theorem jcK:∀(l:List jn) (t:Nat),zE m0 nc gl t (l++[c])=zE m0 nc gl t l++[⟨5,qf m0 nc gl (t+(ju l).length) c.ls,⟨#[]⟩,c.ins⟩]
 |[],t=>rfl
 |d::r,t=>by
  have e:(ju (d::r)).length=(jI d.ls).length+(ju r).length:=by
   unfold ju;rw[List.flatMap_cons,zqm]
  show _::zE m0 nc gl (t+(jI d.ls).length) (r++[c])=_::zE m0 nc gl (t+(jI d.ls).length) r++_;rw[jcK r,e,Nat.add_assoc];rfl
theorem juc:Zx m0 nc gl t c 0=qv c:=rfl
theorem jqb:Zx m0 nc gl t c c.ls.length=⟨5,qf m0 nc gl t c.ls,⟨#[]⟩,c.ins⟩:=by
 unfold Zx;rw[zqp (by rw[Jy];exact zqg _),Nat.sub_self,List.replicate_zero,List.append_nil]
theorem jh4 (h:k<=c.ls.length):(Zx m0 nc gl t c k).ws.length=c.ls.length:=by
 show((qf m0 nc gl t c.ls).take k++List.replicate (c.ls.length-k) (RWd.I 0)).length=_;rw[zqm,List.length_take,List.length_replicate,Jy];omega
theorem Qk (h:k<=c.ls.length):(Zx m0 nc gl t c k).words=1+c.ls.length+c.ins.length:=by
 unfold RObj.words;rw[jh4 h];rfl
theorem jh5 (hx:c.ls[k]?=some x):{Zx m0 nc gl t c k with ws:=(Zx m0 nc gl t c k).ws.set k (JL m0 nc (t+(jI (c.ls.take k)).length) gl x)}=Zx m0 nc gl t c (k+1):=by
 have hk:=(zqb hx).1;have hg:=jar m0 nc gl c.ls t hx;have hl:=Jy m0 nc gl c.ls t;unfold Zx;simp only[RObj.mk.injEq,true_and,and_true];generalize qf m0 nc gl t c.ls=Z at hg hl ⊢;generalize JL m0 nc (t+(jI (c.ls.take k)).length) gl x=v at hg ⊢;have hr:List.replicate (c.ls.length-k) (RWd.I 0)=RWd.I 0::List.replicate (c.ls.length-(k+1)) (RWd.I 0):=by
  rw[show c.ls.length-k=c.ls.length-(k+1)+1 by omega];rfl
 have ht:(Z.take k).length=k:=by rw[List.length_take];omega
 rw[hr,List.set_append_right _ _ (by omega),ht,Nat.sub_self,zqk,List.take_add_one,hg];simp
theorem jki (l:List jn) (c:jn):ju (l++[c])=ju l++jI c.ls:=by
 unfold ju;rw[List.flatMap_append];simp
theorem jf0 (hc:l[i]?=some c):l.drop i=c::l.drop (i+1):=by
 obtain⟨h,e⟩:=zqb hc;rw[List.drop_eq_getElem_cons h,e]
theorem ju8 (hc:l[i]?=some c):zr m0 nc gl l i c 0=jaf m0 nc gl l i:=by
 unfold zr jaf;rw[jf0 hc,juc];simp[jI]
theorem jse (hc:l[i]?=some c):zr m0 nc gl l i c c.ls.length=jaf m0 nc gl l (i+1):=by
 unfold zr jaf;rw[jqb,zT hc,jcK,jki,Nat.zero_add,zqp (zqg _)];simp
theorem jut:jaf m0 nc gl l 0=l.map qv:=by
 unfold jaf;simp[zE,ju]
theorem jqu (m0:Nat) (gl:Nat->RWd) (l:List jn):jaf m0 l.length gl l l.length=j9 m0 gl l:=by
 unfold jaf j9;rw[zqp (zqg _),List.drop_of_length_le (zqg _),List.map_nil,List.append_nil];rfl
theorem jsg (M:RM) (u0:Int) (hc:l[i]?=some c):(Jc M u0 (zr m0 nc gl l i c k)).objs[M.objs.length+i]?=some (Zx m0 nc gl (ju (l.take i)).length c k):=by
 have hl:(zE m0 nc gl 0 (l.take i)).length=i:=by
  rw[qm,List.length_take];have:=(zqb hc).1;omega
 show(M.objs++zr m0 nc gl l i c k)[M.objs.length+i]?=_;rw[zqn (by omega),Nat.add_sub_cancel_left];unfold zr;rw[List.append_assoc,zqn (by omega),hl,Nat.sub_self];rfl
theorem jnI {a b:List RObj} {o:RObj} (M:RM) (h:a.length=i) (v:RWd) (k:Nat):(M.objs++(a++o::b)).modify (M.objs.length+i) (fun o=>{o with ws:=o.ws.set k v})=M.objs++(a++{o with ws:=o.ws.set k v}::b):=by
 have:=jeV (fun o:RObj=>{o with ws:=o.ws.set k v}) (M.objs++a) o b;rw[zqm,h,List.append_assoc,List.append_assoc] at this;exact this
theorem jm6 (M:RM) (u0:Int) (hc:l[i]?=some c) (hx:c.ls[k]?=some x) (h2:x.kd≠2) {v:RWd} (hv:v=JL m0 nc ((ju (l.take i)).length+(jI (c.ls.take k)).length) gl x):{Jc M u0 (zr m0 nc gl l i c k) with objs:=(Jc M u0 (zr m0 nc gl l i c k)).objs.modify (M.objs.length+i) fun o=>{o with ws:=o.ws.set k v}}=Jc M u0 (zr m0 nc gl l i c (k+1)):=by
 have hl:(zE m0 nc gl 0 (l.take i)).length=i:=by
  rw[qm,List.length_take];have:=(zqb hc).1;omega
 have hk:=(zqb hx).1;have ht:jI (c.ls.take (k+1))=jI (c.ls.take k):=by rw[zT hx,jei,if_neg h2,List.append_nil]
 have hs:((zr m0 nc gl l i c (k+1)).map RObj.words).sum=((zr m0 nc gl l i c k).map RObj.words).sum:=by
  unfold zr;rw[ht];simp only[List.map_append,List.map_cons,List.sum_append,List.sum_cons,Qk (show k<=c.ls.length by omega),Qk (show k+1<=c.ls.length by omega)]
 have ho:(M.objs++zr m0 nc gl l i c k).modify (M.objs.length+i) (fun o=>{o with ws:=o.ws.set k v})=M.objs++zr m0 nc gl l i c (k+1):=by
  unfold zr;simp only[List.append_assoc,List.cons_append];rw[jnI M hl,hv,jh5 hx,ht]
 unfold Jc;simp only;rw[hs,ho]
theorem jpC (M:RM) (u0:Int) (hc:l[i]?=some c) (hx:c.ls[k]?=some x) (h2:x.kd=2) {v:RWd} (hv:v=JL m0 nc ((ju (l.take i)).length+(jI (c.ls.take k)).length) gl x):{Jc M u0 (zr m0 nc gl l i c k++[otx x.tx]) with objs:=(Jc M u0 (zr m0 nc gl l i c k++[otx x.tx])).objs.modify (M.objs.length+i) fun o=>{o with ws:=o.ws.set k v}}=Jc M u0 (zr m0 nc gl l i c (k+1)):=by
 have hl:(zE m0 nc gl 0 (l.take i)).length=i:=by
  rw[qm,List.length_take];have:=(zqb hc).1;omega
 have hk:=(zqb hx).1;have ht:jI (c.ls.take (k+1))=jI (c.ls.take k)++[x.tx]:=by rw[zT hx,jei,if_pos h2]
 have hs:((zr m0 nc gl l i c (k+1)).map RObj.words).sum=((zr m0 nc gl l i c k++[otx x.tx]).map RObj.words).sum:=by
  unfold zr;rw[ht];simp only[List.map_append,List.map_cons,List.map_nil,List.sum_append,List.sum_cons,List.sum_nil,Qk (show k<=c.ls.length by omega),Qk (show k+1<=c.ls.length by omega)];omega
 have ho:(M.objs++(zr m0 nc gl l i c k++[otx x.tx])).modify (M.objs.length+i) (fun o=>{o with ws:=o.ws.set k v})=M.objs++zr m0 nc gl l i c (k+1):=by
  unfold zr;simp only[List.append_assoc,List.cons_append];rw[jnI M hl,hv,jh5 hx,ht];simp
 unfold Jc;simp only;rw[hs,ho]
theorem jsf (hc:l[i]?=some c):(zr m0 nc gl l i c k).length=l.length+(ju (l.take i)).length+(jI (c.ls.take k)).length:=by
 have:=(zqb hc).1;unfold zr;simp only[zqm,List.length_cons,List.length_map,qm,List.length_take,List.length_drop];omega
theorem jgH (l:List jn):((l.map qv).map RObj.words).sum<=jg l:=by
 induction l with
 |nil=>exact zqg _
 |cons c r ih=>
  have e:(qv c).words=1+c.ls.length+c.ins.length:=by
   show 1+(List.replicate c.ls.length (RWd.I 0)).length+c.ins.length=_;rw[List.length_replicate]
  show(qv c).words+((r.map qv).map RObj.words).sum<=zy c+jg r;rw[e];unfold zy;omega
theorem jq3 (l:List jn) (i:Nat):jg (l.take i)<=jg l:=by
 induction l generalizing i with
 |nil=>simp
 |cons c r ih=>
  cases i with
  |zero=>exact Nat.zero_le _
  |succ i=>
   have:=ih i;show zy c+jg (r.take i)<=zy c+jg r;omega
theorem jlb (os:List RObj):os.length<=(os.map RObj.words).sum:=by
 induction os with
 |nil=>exact zqg _
 |cons o r ih=>
  have:1<=o.words:=by unfold RObj.words;split<;>omega
  simp only[List.length_cons,List.map_cons,List.sum_cons];omega
theorem joN (ts:List ByteArray):((ts.map otx).map RObj.words).sum=(ts.map fun t=>2+(t.size+7)/8).sum:=by
 rw[List.map_map];rfl
theorem jeO:∀(ls:List jV) (k:Nat),jU (ls.take k)<=jU ls
 |[],k=>by simp
 |x::r,0=>Nat.zero_le _
 |x::r,k+1=>by
  have:=jeO r k;show qz x+jU (r.take k)<=qz x+jU r;omega
theorem jkw (a b:List jn):jg (a++b)=jg a+jg b:=by
 induction a with
 |nil=>show jg b=0+jg b;omega
 |cons c r ih=>show zy c+jg (r++b)=zy c+jg r+jg b;omega
theorem jsh (hc:l[i]?=some c) (hk:k<=c.ls.length):((zr m0 nc gl l i c k).map RObj.words).sum+jU c.ls<=jg l+jU (c.ls.take k):=by
 have h1:=jcN m0 nc gl (l.take i) 0;have h2:=jdr (c.ls.take k);have h3:=jgH (l.drop (i+1));have h4:jg l=jg (l.take i)+(zy c+jg (l.drop (i+1))):=by
  have e:=jkw (l.take i) (l.drop i);rw[List.take_append_drop,jf0 hc] at e;exact e
 unfold zr;simp only[List.map_append,List.map_cons,List.sum_append,List.sum_cons,Qk hk];have h5:=joN (ju (l.take i));have h6:=joN (jI (c.ls.take k));simp only[List.map_map] at h3 h5 h6 ⊢;unfold zy at h4;omega
theorem jtT (hc:l[i]?=some c) (hk:k<=c.ls.length):((zr m0 nc gl l i c k).map RObj.words).sum<=jg l:=by
 have:=jsh (m0:=m0) (nc:=nc) (gl:=gl) hc hk;have:=jeO c.ls k;omega
theorem jo6 (l:List jn) (i:Nat):(((l.take i).map qv).map RObj.words).sum<=jg l:=zqs (jgH _) (jq3 l i)
end
section
variable {O P:Nat->Prop} {w w1:World} {g:Nat} {M:RM} {L:Lay}
theorem RAt.oform (a:RAt O w g M L) (h:0<M.objs.length):∃og c,L.ov=.slice (some ⟨og,0,none⟩) M.objs.length c/\M.objs.length<=c/\og<w.heap.size/\O og/\L.T og=1/\(∀j,w.frozen? ⟨og,j,none⟩=false)/\∀k o,M.objs[k]?=some o->∀j,j<4->w.cell? ⟨og,k*4+j,none⟩=some (obc o (L.wv k) (L.iv k) j):=by
 obtain⟨og,c,e,hc⟩:=a.oo.form h;have hq:=a.Oo og (by rw[e];rfl);have ho:=a.oo;rw[e] at ho;refine⟨og,c,e,jay ho rfl,jC ho rfl,hq.1,hq.2,fun j=>ho.frozenAt j,fun k o hk j hj=>?_⟩;have hl:=(zqb hk).1;rw[ho.cellAt (k*4+j) (QC hl hj)];unfold oC;rw[Qe hl hj,zqi,hk];rfl
end
section
variable {O P:Nat->Prop} {w w1:World} {g:Nat} {M:RM} {L:Lay}
theorem jlN (o:RObj) (A1 A2:Option Addr) (k1 k2:Nat) (h1:o.ws.length<=1000000) (h2:o.ins.length<=1000000) (h3:o.tx.size<=1000000000) (w:World):
  Calls prog 84 #[.agg #[.int .i64 (o.k:Int),.slice A1 o.ws.length k1,.string o.tx,.slice A2 o.ins.length k2]] w fun e w'=>e=.returned (.int .i64 ((o.words:Nat):Int))/\Below w.heap.size w w':=by
 obtain⟨k,ws,tx,ins⟩:=o;obtain⟨n,hn⟩:∃n,ws.length=n:=⟨_,rfl⟩;obtain⟨m,hm⟩:∃m,ins.length=m:=⟨_,rfl⟩;have hw:(RObj.mk k ws tx ins).words=if k=4 then 2+(tx.size+7)/8 else 1+n+m:=by
  unfold RObj.words;rw[hn,hm]
 rw[hw];simp only at h1 h2 h3;show Calls _ _ #[.agg #[.int .i64 (k:Int),.slice A1 ws.length k1,.string tx,.slice A2 ins.length k2]] _ _;rw[hn] at h1 ⊢;rw[hm] at h2 ⊢;clear hw hn hm;have HB:=hid (jq w (.cells #[.int .i64 (k:Int),.slice A1 n k1,.string tx,.slice A2 m k2] 100));obtain⟨tw,htw⟩:∃tw,(tx.size+7)/8=tw:=⟨_,rfl⟩;have w2:IntKind.i64.wrap ((tx.size:Int)+7)=(tx.size:Int)+7:=jv (by omega) (by omega);have w3:((tx.size:Int)+7).tdiv 8=(tw:Int):=by rw[Int.tdiv_eq_ediv_of_nonneg (by omega)];omega
 have w4:IntKind.i64.wrap (tw:Int)=(tw:Int):=jv (by omega) (by omega);have w5:IntKind.i64.wrap (2+(tw:Int))=2+(tw:Int):=jv (by omega) (by omega);have w6:IntKind.i64.wrap (1+(n:Int))=1+(n:Int):=jv (by omega) (by omega);have w7:IntKind.i64.wrap (1+(n:Int)+(m:Int))=1+(n:Int)+(m:Int):=jv (by omega) (by omega);rw[htw];clear htw;by_cases h:k=4
 ·subst h
  rw[if_pos rfl];go_enter Tryz.func84,Tryz.ntmps84;go_wp2_with fail;go_ret;exact⟨by congr 2,HB.out⟩
 ·rw[if_neg h]
  have d0:((k:Int)==4)=false:=beq_eq_false_iff_ne.2 (by omega);clear h;go_enter Tryz.func84,Tryz.ntmps84;go_wp2_with fail;go_ret;exact⟨by congr 2,HB.out⟩
end
theorem jpb (w:World) (a b c d:Value) (t:TypeId) (g:Nat) (hg:w.heap.size=g):∀j u,[a,b,c,d][j]?=some u->(w.alloc (.cells #[a,b,c,d] t)).cell? ((⟨g,0,none⟩:Addr).add j)=some u:=by
 subst hg;intro j u hu;have hadd:(⟨w.heap.size,0,none⟩:Addr).add j=⟨w.heap.size,j,none⟩:=by unfold Addr.add;split<;>simp_all
 rw[hadd,jb (zqe w _) j];simpa using hu
theorem jun (a b c d:Value) (ha:a.oneCell'=true) (hb:b.oneCell'=true) (hc:c.oneCell'=true) (hd:d.oneCell'=true):∀u∈[a,b,c,d],u.oneCell'=true:=by
 intro u hu;simp at hu;rcases hu with rfl|rfl|rfl|rfl<;>assumption
theorem jpG:(prog.info? 100).map (fun i=>(i.zero,i.size,i.bytes))=some (some (.agg #[.int .i64 0,.slice none 0 0,.string ⟨#[]⟩,.slice none 0 0]),4,72):=by kernel_rfl
theorem jp7 {w W:World} (h:Below w.heap.size w W) {g j:Nat} (hg:g<w.heap.size) (hz:w.frozen? ⟨g,j,none⟩=false):W.frozen? ⟨g,j,none⟩=false:=(World.frozen?_of_block (h.block g hg)).trans hz
theorem jqP (n:Int) (h0: -9223372036854775808<=n) (h1:n<=9223372036854775807) (w:World):
  Calls prog 48 #[.int .i64 n] w fun e w'=>e=.returned (wV (.I (W n)))/\Below w.heap.size w w':=by
 have HW:=hid (fun Y=>jdE n Y h0 h1);obtain⟨m,hm⟩:∃m,W n=m:=⟨_,rfl⟩;rw[hm] at HW ⊢;clear hm;go_enter Tryz.func48,Tryz.ntmps48;go_wp2_with fail;refine(HW.out _).mono ?_;rintro e w' ⟨rfl,hw'⟩;subst w';go_wp2_with fail;refine bodyPost_ret (v:=wV (.I m)) ?_ rfl ⟨rfl,?_⟩
 ·simp[results,Tryz.results48,go_sem,wV,RWd.isB,RWd.nI,RWd.aI]
 ·exact jq w _
section
variable {O P:Nat->Prop} {w w1:World} {g:Nat} {M:RM} {L:Lay}
theorem RAt.spare (a:RAt O w g M L) {t:Nat} (hO:O t) (hT:L.T t=6+2*M.frs.length) (hf:Fr (fun i=>i=t) w w1):RAt O w1 g M L:=by
 obtain⟨h1,h2,h3,h4,h5,h6,h7,h8⟩:=a.fr1 hO hf;exact⟨h8 (by omega),h1 (by omega),h2 (by omega),h3 (by omega),h4 (by omega),fun i o h=>h5 i o h (by omega),h6,fun j x h=>h7 j x h (by have:=(zqb h).1;omega),a.Og,a.Oo,a.Of,a.Oh,a.Ogl,a.Ow,a.Os,a.Tg⟩
theorem jiI (a:RAt O w g M L) (o:RObj) {A1 A2:Option Addr} {k1 k2:Nat} (hw:w.ownsRow 0 72 3 (.slice A1 o.ws.length k1) o.ws.length (zC o.ws)) (hwq:∀q,(Value.slice A1 o.ws.length k1).ownBlock=some q->O q/\L.T q=5+2*M.objs.length) (hi:InsAt O w (.slice A2 o.ins.length k2) o.ins) (hO:∀i,w.heap.size<=i->O i) (h1:o.ws.length<=1000000) (h2:o.ins.length<=1000000) (h3:o.tx.size<=1000000000) (hu0: -1000000000000<=M.used) (hu1:M.used<=1000000000000) (hn:M.objs.length<=1000000):
  Calls prog 47 #[.pointer (some ⟨g,0,none⟩),.agg #[.int .i64 (o.k:Int),.slice A1 o.ws.length k1,.string o.tx,.slice A2 o.ins.length k2]] w fun e w'=>e=.returned (wV (.P M.objs.length))/\(∃L',RAt O w' g (jck M o) L'/\∀q,q<w.heap.size->L'.T q=L.T q)/\Fr (fun i=>i=g\/L.ov.ownBlock=some i) w w':=by
 obtain⟨i0,hi0,hz0,hz1,hz2⟩:=info_parts jpG;have hwd:o.words<=200000002:=by unfold RObj.words;split<;>omega
 have HWD:=hid (fun Y=>jlN o A1 A2 k1 k2 h1 h2 h3 Y);obtain⟨W0,hW0⟩:∃W0,o.words=W0:=⟨_,rfl⟩;rw[hW0] at HWD hwd;have hb1:=jq w (.cells #[.int .i64 (o.k:Int),.slice A1 o.ws.length k1,.string o.tx,.slice A2 o.ins.length k2] 100);have hn1:=zqe w (.cells #[.int .i64 (o.k:Int),.slice A1 o.ws.length k1,.string o.tx,.slice A2 o.ins.length k2] 100);have hs1:(w.alloc (.cells #[.int .i64 (o.k:Int),.slice A1 o.ws.length k1,.string o.tx,.slice A2 o.ins.length k2] 100)).heap.size=w.heap.size+1:=Array.size_push ..;obtain⟨X1,hX1⟩:∃X1,w.alloc (.cells #[.int .i64 (o.k:Int),.slice A1 o.ws.length k1,.string o.tx,.slice A2 o.ins.length k2] 100)=X1:=⟨_,rfl⟩;rw[hX1] at hb1 hn1 hs1;have hb2:=jq X1 (.cells #[.bool false,.int .i64 0,.int .i64 0] 72);have hn2:=zqe X1 (.cells #[.bool false,.int .i64 0,.int .i64 0] 72);obtain⟨X,hX⟩:∃X,X1.alloc (.cells #[.bool false,.int .i64 0,.int .i64 0] 72)=X:=⟨_,rfl⟩;rw[hX] at hb2 hn2;rw[hs1] at hb2 hn2;have hbX:=hb1.trans (hb2.mono (by omega));have hnX:=(hb2.block w.heap.size (by omega)).trans hn1;have hnT:X.heap[w.heap.size+1]?=some (.cells #[.bool false,.int .i64 0,.int .i64 0] 72 (0,0)):=hn2;have aT:=a.retag (fun q=>if q=w.heap.size+1 then 6+2*M.frs.length else L.T q) (fun q hq=>if_neg (by omega));obtain⟨LT,hLT⟩:∃LT,({L with T:=fun q=>if q=w.heap.size+1 then 6+2*M.frs.length else L.T q}:Lay)=LT:=⟨_,rfl⟩;have hov:LT.ov=L.ov:=by rw[<-hLT]
 have hTt:LT.T (w.heap.size+1)=6+2*M.frs.length:=by rw[<-hLT];exact if_pos rfl
 have hwq2:∀q,(Value.slice A1 o.ws.length k1).ownBlock=some q->O q/\LT.T q=5+2*M.objs.length:=fun q e=>by
  have hl:=jC hw e;rw[<-hLT];exact⟨(hwq q e).1,(if_neg (by omega)).trans (hwq q e).2⟩
 rw[hLT] at aT;have aX:=aT.below hbX;obtain⟨nw,hnw⟩:∃nw,o.ws.length=nw:=⟨_,rfl⟩;obtain⟨ni,hni⟩:∃ni,o.ins.length=ni:=⟨_,rfl⟩;obtain⟨kk,hkk⟩:∃kk,(o.k:Int)=kk:=⟨_,rfl⟩;obtain⟨tx,htx⟩:∃tx,o.tx=tx:=⟨_,rfl⟩;obtain⟨U,hU⟩:∃U,M.used=U:=⟨_,rfl⟩;have HEQ:=hid (zqf hnw (zqf hni (zqf hkk (zqf htx (zqf hU hW0)))));rw[hnw,hni,hkk,htx] at HWD hX1 hnX ⊢;rw[hU] at hu0 hu1;have c3:=aX.cell (j:=3) (by decide);rw[show rF M LT 3=.int .i64 M.used from rfl,hU] at c3;have z3:=aX.fz 3;have r0:X.cell? ⟨w.heap.size,0,none⟩=some (.int .i64 kk):=jb hnX 0;have r1:X.cell? ⟨w.heap.size,1,none⟩=some (.slice A1 nw k1):=jb hnX 1;have r2:X.cell? ⟨w.heap.size,2,none⟩=some (.string tx):=jb hnX 2;have r3:X.cell? ⟨w.heap.size,3,none⟩=some (.slice A2 ni k2):=jb hnX 3;have hs3:IntKind.i64.wrap (U+(W0:Int))=U+(W0:Int):=jv (by omega) (by omega);have hgX:=aX.lt;have HS:=hid (fun Y (hY:Below X.heap.size X Y)=>zqf (jm hY c3) (zqf (jm hY r0) (zqf (jm hY r1) (zqf (jm hY r2) (zqf (jm hY r3) (zqf (jp7 hY hgX z3) hY))))));have hd:=HS.out X (Below.refl _ _);have HWC:=hid (fun(Y:World) (hY:Below X.heap.size X Y)=>(HWD.out Y).mono fun e w' ⟨h1,h2⟩=>(⟨h1,hY.trans (h2.mono hY.size)⟩:e=Ending.returned (.int .i64 (W0:Int))/\Below X.heap.size X w'));have HA:=hid (zqf aX (zqf hbX (zqf hnX (zqf hnT hTt))));have HLT:=hid (zqf hov (show∀q,q<w.heap.size->LT.T q=L.T q from fun q hq=>by rw[<-hLT];exact if_neg (by omega)));have HP:=hid (zqf hw (zqf hwq2 (zqf hi hO)));obtain⟨aO,kO,eO,_⟩:=jH aX.oo;obtain⟨nO,hnO⟩:∃nO,M.objs.length=nO:=⟨_,rfl⟩;rw[hnO] at eO hn ⊢;have HNO:=hid (zqf hnO eO);have hsX:X.heap.size=w.heap.size+2:=by
  rw[<-hX];exact(Array.size_push ..).trans (by rw[hs1])
 have HGL:=hid (zqf a.lt hsX);have HX:=hid (show(w.alloc (.cells #[.int .i64 kk,.slice A1 nw k1,.string tx,.slice A2 ni k2] 100)).alloc (.cells #[.bool false,.int .i64 0,.int .i64 0] 72)=X from by rw[hX1];exact hX);clear hsX;clear a aT aX hbX hnX hnT hw hwq hwq2 hi hO hX1 hX hn1 hov hTt hLT hnO eO hs1 hb1 hb2 hn2 hnw hni hkk htx hU hW0 h1 h2 h3 hwd HWD;go_enter Tryz.func47,Tryz.ntmps47;go_wp2_with fail;rw[HX.out];obtain⟨d3,d4,d5,d6,d7,d8,_⟩:=hd;go_region_law ((go_simp;go_at_call 84;refine(HWC.out X.drew (Below.refl _ X).drew).mono ?_;rintro e w' ⟨rfl,hww⟩;obtain⟨t3,t4,t5,t6,t7,t8,hww2⟩:=HS.out w' hww));all_goals
  clear t3 t4 t5 t6 t7 t8 hww2;have aw:=HA.out.1.below hww;have a2:=aw.used (U+(W0:Int));have hf2:Fr (fun i=>i=g) w' (w'.setCell ⟨g,3,none⟩ (.int .i64 (U+(W0:Int)))):=(Fr.refl (fun i=>i=g) w').setCell (p:=⟨g,3,none⟩) (.inl rfl) _;obtain⟨W2,hW2⟩:∃W2,w'.setCell ⟨g,3,none⟩ (.int .i64 (U+(W0:Int)))=W2:=⟨_,rfl⟩;rw[hW2] at a2 hf2;have HW2:=hid hW2;have hgl:=HGL.out.1;have hsw:=hww.size;rw[HGL.out.2] at hsw;have hgne:g≠w.heap.size/\g≠w.heap.size+1:=by omega
  have b0:=(hf2.block w.heap.size (by omega) (fun e=>hgne.1 e.symm)).trans ((hww.block w.heap.size (by rw[HGL.out.2];omega)).trans HA.out.2.2.1);have b1:=(hf2.block (w.heap.size+1) (by omega) (fun e=>hgne.2 e.symm)).trans ((hww.block (w.heap.size+1) (by rw[HGL.out.2];omega)).trans HA.out.2.2.2.1);have c2:=a2.cell (j:=2) (by decide);rw[show rF {M with used:=U+(W0:Int)} LT 2=LT.ov from rfl,HNO.out.2] at c2;have z2:=a2.fz 2;have r0:W2.cell? ⟨w.heap.size,0,none⟩=some (.int .i64 kk):=jb b0 0;have r1:W2.cell? ⟨w.heap.size,1,none⟩=some (.slice A1 nw k1):=jb b0 1;have r2:W2.cell? ⟨w.heap.size,2,none⟩=some (.string tx):=jb b0 2;have r3:W2.cell? ⟨w.heap.size,3,none⟩=some (.slice A2 ni k2):=jb b0 3;have hown2:=a2.oo;rw[HNO.out.1,HNO.out.2] at hown2;have HRW:=hid (fun(q:Nat) (ob:Obj)=>World.ownsRow.alloc (w:=W2.drewN q) (show(W2.drewN q).ownsRow 0 100 4 _ _ _ from hown2) ob);have hw9:g<W2.heap.size:=a2.lt;have hgv:(Value.slice aO nO kO).ownBlock≠some g:=fun e=>by
   have q1:=(a2.Oo g (by rw[HNO.out.2];exact e)).2;have q2:=a2.Tg;omega
  have htl:w.heap.size+1<W2.heap.size:=Nat.lt_of_lt_of_le (by omega) hf2.size;have HA2:=hid (zqf a2 (zqf hf2 (zqf hww (zqf b1 (zqf hgne htl)))));clear aw a2 hf2 hww b0 b1 hown2 hgne hW2 hgl hsw htl;go_wp2_with fail;rw[HW2.out];go_region_law ((refine step_append_lies _ (by rfl) _ _ 73 (by rfl) 0 100 i0 (.agg #[.int .i64 0,.slice none 0 0,.string ⟨#[]⟩,.slice none 0 0]) 4 72 Tryz.underlying73 hi0 hz0 hz1 hz2 rfl (by decide) (.slice aO nO kO) nO (oC LT M.objs) (by rfl) (HRW.out _ _) ⟨W2.heap.size,0,none⟩ 1 1 [.int .i64 kk,.slice A1 nw k1,.string tx,.slice A2 ni k2] (by rfl) rfl (jpb _ _ _ _ _ _ _ (by simp)) (jun _ _ _ _ rfl rfl rfl rfl) (by omega) (by unfold maxLen;omega) (by omega) (Nat.zero_le _) (W2.heap.size+1) (by simp) ?_;intro g6 cap6 w6 hown6 hgrow6 hblk6 hlt6;have d6:w6.cell? ⟨g,2,none⟩=some (.slice aO nO kO):=(World.cell?_of_block (hgrow6.block g (Nat.lt_of_lt_of_le hw9 (by simp)) (Ne.symm hgv))).trans ((World.cell?_of_block (Below.heap_alloc _ _ g hw9)).trans c2);have e6:w6.frozen? ⟨g,2,none⟩=false:=(World.frozen?_of_block (hgrow6.block g (Nat.lt_of_lt_of_le hw9 (by simp)) (Ne.symm hgv))).trans ((World.frozen?_of_block (Below.heap_alloc _ _ g hw9)).trans z2);have HG6:=hid hgrow6;have HW6:=hid hown6;have HB6:=hid hblk6;clear hown6 hgrow6 hblk6 hlt6));all_goals
   obtain⟨a2,hf2,hww,b1,hgne,htl⟩:=HA2.out;have hf6:Fr (fun i=>LT.ov.ownBlock=some i) W2 w6:=by
    rw[HNO.out.2];exact jg9 (((Fr.refl (fun _=>False) W2).drewN _).alloc _) HG6.out
   have hown:w6.ownsRow 0 100 4 (.slice (some ⟨g6,0,none⟩) (nO+1) cap6) (M.objs.length+1) (oC LT M.objs++[.int .i64 (o.k:Int),.slice A1 o.ws.length k1,.string o.tx,.slice A2 o.ins.length k2]):=by
    obtain⟨q1,q2,q3,q4,_⟩:=HEQ.out;rw[q1,q2,q3,q4,HNO.out.1];exact HW6.out
   have hwo:W2.ownsRow 0 72 3 (.slice A1 o.ws.length k1) o.ws.length (zC o.ws):=jd hf2 (jd (Fr.of_below (O:=fun _=>False) hww) (jd (Fr.of_below (O:=fun _=>False) HA.out.2.1) HP.out.1 (fun _ _=>id)) (fun _ _=>id)) fun q e z=>by
    have q1:=(HP.out.2.1 q e).2;have q2:=a2.Tg;rw[show q=g from z] at q1;omega
   have hio:InsAt O W2 (.slice A2 o.ins.length k2) o.ins:=((HP.out.2.2.1.below HA.out.2.1).below hww).fr hf2 fun i _ q z=>q (by rw[show i=g from z];exact a2.Og);have a6:=a2.grow (o:=o) hf6 hown (fun i hi=>HP.out.2.2.2 i (by omega)) (fun i hi=>by
    have hi2:g6=i:=by simpa[Value.ownBlock] using hi
    rcases HB6.out with h|h
    ·left
     rw[HNO.out.2,<-hi2];exact h
    ·right
     omega) hwo HP.out.2.1 hio
   have hTt:(LT.grown W2.heap.size M.objs.length (.slice A1 o.ws.length k1) (.slice A2 o.ins.length k2) (.slice (some ⟨g6,0,none⟩) (nO+1) cap6)).T (w.heap.size+1)=6+2*M.frs.length:=(if_pos htl).trans HA.out.2.2.2.2;have b6:=(hf6.block (w.heap.size+1) htl (fun e=>by
    have q1:=(a2.Oo _ e).2;have q2:=HA.out.2.2.2.2;omega)).trans b1
   have hfG:Fr (fun i=>i=g) w6 (w6.setCell ⟨g,2,none⟩ (.slice (some ⟨g6,0,none⟩) (nO+1) cap6)):=(Fr.refl (fun i=>i=g) w6).setCell (p:=⟨g,2,none⟩) (.inl rfl) _;have b7:=(hfG.block (w.heap.size+1) (Nat.lt_of_lt_of_le htl hf6.size) (fun e=>hgne.2 e.symm)).trans b6;have c27:=a6.cell (j:=2) (by decide);obtain⟨Wg,hWg⟩:∃Wg,w6.setCell ⟨g,2,none⟩ (.slice (some ⟨g6,0,none⟩) (nO+1) cap6)=Wg:=⟨_,rfl⟩;rw[hWg] at a6 hfG b7 c27 ⊢;replace c27:Wg.cell? ⟨g,2,none⟩=some (.slice (some ⟨g6,0,none⟩) (nO+1) cap6):=c27;have t0:Wg.cell? ⟨w.heap.size+1,0,none⟩=some (.bool false):=jb b7 0;have t1:Wg.cell? ⟨w.heap.size+1,1,none⟩=some (.int .i64 0):=jb b7 1;have t2:Wg.cell? ⟨w.heap.size+1,2,none⟩=some (.int .i64 0):=jb b7 2;have y0:=jF b7 0;have y1:=jF b7 1;have y2:=jF b7 2;have hOt:=HP.out.2.2.2 (w.heap.size+1) (by omega);have a8:=a6.spare hOt hTt (zZ Wg (w.heap.size+1) 0 (.P nO));have hfr:Fr (fun i=>i=g\/L.ov.ownBlock=some i) w (Zb Wg (w.heap.size+1) 0 (.P nO)):=((((Fr.of_below (O:=fun i=>i=g\/L.ov.ownBlock=some i) (HA.out.2.1.trans (hww.mono (by rw[HGL.out.2];omega)))).trans hf2 (fun i hi=>.inl (.inl hi))).trans hf6 (fun i hi=>.inl (.inr (by rw[<-HLT.out.1];exact hi)))).trans hfG (fun i hi=>.inl (.inl hi))).trans (zZ Wg (w.heap.size+1) 0 (.P nO)) (fun i hi=>.inr (by rw[show i=w.heap.size+1 from hi];omega));have hTq:∀q,q<w.heap.size->(LT.grown W2.heap.size M.objs.length (.slice A1 o.ws.length k1) (.slice A2 o.ins.length k2) (.slice (some ⟨g6,0,none⟩) (nO+1) cap6)).T q=L.T q:=fun q hq=>(if_pos (by omega)).trans (HLT.out.2 q hq);have HFIN:=hid (zqf (zqf a8 hTq) hfr);have ho1:IntKind.i64.wrap (nO:Int)=(nO:Int):=jv (by omega) (by omega);clear a2 hf2 hww b1 hgne htl hf6 hown hwo hio a6 hTt b6 hfG b7 hWg hOt a8 hfr hTq d6 e6;go_wp2_with fail;refine bodyPost_ret (v:=wV (.P nO)) ?_ rfl ⟨rfl,?_⟩
   ·simp[results,Tryz.results47,go_sem,wV,RWd.isB,RWd.nI,RWd.aI,t0,t1,t2]
   ·obtain⟨_,_,_,_,q5,q6⟩:=HEQ.out
    have e:jck M o={{M with used:=U+(W0:Int)} with objs:=M.objs++[o]}:=by
     unfold jck;rw[q5,q6]
    rw[e];exact⟨⟨_,HFIN.out.1⟩,HFIN.out.2⟩
end
