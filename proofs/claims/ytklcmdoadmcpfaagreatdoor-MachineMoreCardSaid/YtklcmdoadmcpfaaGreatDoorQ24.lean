/- A part of the proof of MachineMoves. Conditions: those that each theorem names. -/
import Derived.Test.YtklcmdoadmcpfaaGreatDoorQ23
set_option maxRecDepth 100000
set_option maxHeartbeats 400000000
namespace Go.Proofs.YtklcmdoadmcpfaaGreatDoor
open Go Go.RowKit IsaL
def jaB (M:RM) (C:CM):Prop:=∃D f A E,Sim M C D f A/\Usd M E
def Rel (c:CM×Int) (r:RM×Int):Prop:=c.2=r.2/\(r.2=0->jaB r.1 c.1)/\(r.2≠0->jaB (qX r.1) (Qi c.1))
def Jf (D:Nat->Prop) (E:List Nat) (v:RWd):Prop:=(∀k,v=.P k->D k)/\(∀k,v=.P k->k∈E)/\Wr v
section
variable {M:RM} {C:CM} {D S:Nat->Prop} {f A:Nat->Nat} {E:List Nat} {v:RWd}
theorem Sim.got (s:Sim M C D f A) (u:Usd M E) (h:v∈jr M):Jf D E v:=⟨fun k e=>s.rt k (e▸h),fun k e=>u.co.rt k (e▸h),s.wr v h⟩
theorem Sim.gotf (s:Sim M C D f A) (u:Usd M E) {i:Nat} {o:RObj} (hi:Jf D E (.P i)) (ho:M.objs[i]?=some o) (hv:v∈o.ws):Jf D E v:=
 ⟨s.clo.field (hi.1 i rfl) ho hv,u.co.field (hi.2.1 i rfl) ho hv,s.wo i (hi.1 i rfl) v (by unfold zK;rw[ho];exact hv)⟩
theorem Je {n:Int} (h:Wr (.I n)):Jf D E (.I n):=⟨fun _ e=>(by cases e),fun _ e=>(by cases e),h⟩
theorem Sim.gotr (s:Sim M C D f A) (u:Usd M E) {k:Nat} (hk:k<16):Jf D E (M.rg k):=s.got u (ja.2 (.inl ⟨k,hk,rfl⟩))
theorem Sim.stk0 (s:Sim M C D f A):0<=M.stack:=by
 have:=s.ft;rw[zS] at this;omega
theorem Rel.of0 {M':RM} {C':CM} (s:Sim M' C' D f A) (u:Usd M' E):Rel (C',0) (M',0):=⟨rfl,fun _=>⟨_,_,_,_,s,u⟩,fun h=>absurd rfl h⟩
theorem Rel.stop (s:Sim M C D f A) (u:Usd M E) {C':CM} {M':RM} {n:Int} (h0:n≠0) (h1:Qi C'=Qi C) (h2:qX M'=qX M):Rel (C',n) (M',n):=
 ⟨rfl,fun h=>absurd h h0,fun _=>by
  show jaB (qX M') (Qi C');rw[h1,h2];exact⟨_,_,_,_,s.idle s.stk0,u.idle⟩⟩
theorem Rel.reg (s:Sim M C D f A) (u:Usd M E) (k:Nat) (g:Jf D E v) {x:Nat} (hx:x=jw A v):Rel ({C with rg:=jG C.rg k x},0) (M.reg (k:Int) v,0):=
 .of0 (s.reg k g.1 g.2.2 hx) (u.reg k g.2.1)
theorem jeW {α:Type} {l:List α} {k:Nat} {x:α} (h:l[k]?=some x) (g:α->α):l.modify k g=l.set k (g x):=by
 refine List.ext_getElem? fun j=>?_;rw[List.getElem?_modify,List.getElem?_set];have hk:=(zqb h).1;by_cases e:k=j
 ·subst e
  rw[if_pos rfl,if_pos hk,h];simp
 ·rw[if_neg e]
  simp[e]
structure TopS (M:RM) (C:CM) (D:Nat->Prop) (A:Nat->Nat) (k:Nat) (y:Fm):Prop where
 ml:M.frs.length=k+1
 fl:C.fr.length=k+1
 fy:C.fr[k]?=some y
 fm:M.frs[k]?=some (jK M)
 sp:M.frs=M.frs.take k++[jK M]
 pl:y.place=(jK M).place
 bs:y.base=jaO (M.frs.take k)
 co:∃i o,(jK M).code=.P i/\M.objs[i]?=some o/\o.k=5/\D i/\y.code=A i/\y.lits=o.ws.length/\y.ins=o.ins.length/\RWd.P i∈jr M
 sl:C.sl=((M.frs.take k).flatMap fun x=>x.slots).map (jw A)++(jK M).slots.map (jw A)
theorem Sim.topS (s:Sim M C D f A) {k:Nat} (hl:M.frs.length=k+1):∃y,TopS M C D A k y:=by
 have fl:C.fr.length=k+1:=by rw[s.fr.len];exact hl
 have hy:=zqh (l:=C.fr) (i:=k) (by omega);have hm:M.frs[k]?=some (jK M):=by
  unfold jK;rw[List.getLast?_eq_getElem?,hl,Nat.add_sub_cancel,zqh (by omega)];rfl
 have hsp:M.frs=M.frs.take k++[jK M]:=by
  have h1:=List.take_succ_eq_append_getElem (l:=M.frs) (i:=k) (by omega);rw[zqp (by omega)] at h1;obtain⟨h2,h3⟩:=zqb hm;rw[h3] at h1;exact h1
 obtain⟨h1,h2,h3,i,o,h4,h5,h6,h7,h8⟩:=s.fr.nth k _ _ hm hy;have hi:RWd.P i∈jr M:=ja.2 (.inr (.inl ⟨_,zqc hm,.inl h4.symm⟩));refine⟨_,hl,fl,hy,hm,hsp,h2,h3,⟨i,o,h4,h5,h6,s.rt i hi,by rw[h1,h4];rfl,h7,h8,hi⟩,?_⟩;rw[s.sl,<-List.map_append]
 conv=>lhs;rw[hsp]
 rw[List.flatMap_append];simp
section
variable {k:Nat} {y:Fm} (t:TopS M C D A k y)
include k y t
theorem TopS.pre:C.sl.take y.base=((M.frs.take k).flatMap fun x=>x.slots).map (jw A):=by
 rw[t.sl,t.bs,List.take_append_of_le_length (by rw[List.length_map,qy];exact zqg _),zqp (by rw[List.length_map,qy];exact zqg _)]
theorem TopS.num:C.sl.length=y.base+(jK M).slots.length:=by
 rw[t.sl,zqm,List.length_map,List.length_map,qy,t.bs]
theorem TopS.nth (m:Nat):C.sl[y.base+m]?=(jK M).slots[m]?.map (jw A):=by
 rw[t.sl,zqn (by rw[List.length_map,qy,t.bs];omega),List.length_map,qy,t.bs,Nat.add_sub_cancel_left,List.getElem?_map]
theorem TopS.top (g:RFm->RFm):M.top g={M with frs:=M.frs.set k (g (jK M))}:=by
 unfold RM.top;rw[t.ml,Nat.add_sub_cancel,jeW t.fm]
theorem TopS.slot {v:RWd} (h:v∈(jK M).slots):v∈jr M:=ja.2 (.inr (.inl ⟨_,zqc t.fm,.inr h⟩))
end
theorem TopS.own (s:Sim M C D f A) {k:Nat} {y:Fm} (t:TopS M C D A k y):qL C=jbs M:=by
 unfold qL jbs;rw[s.ha,t.fl,t.ml];cases M.has.getLast? with
 |none=>rfl
 |some h=>exact decide_eq_decide.2 (by omega)
theorem TopS.stk {k:Nat} {y:Fm} (t:TopS M C D A k y) (s:Sim M C D f A):qi M=3*(C.fr.length:Int)+C.sl.length+3*C.ha.length:=by
 rw[zS,s.slen,s.ha,t.fl,t.ml]
theorem jeT {k:Nat} {x x':RFm} (hm:M.frs[k]?=some x) (hc:x'.code=x.code) (hs:∀v∈x'.slots,v∈jr M\/Jf D E v) {v:RWd} (h:v∈jr {M with frs:=M.frs.set k x'}):v∈jr M\/Jf D E v:=by
 rcases ja.1 h with q|⟨z,q1,q2⟩|q|q|q
 ·exact .inl (ja.2 (.inl q))
 ·rcases List.mem_or_eq_of_mem_set q1 with p|p
  ·exact .inl (ja.2 (.inr (.inl ⟨z,p,q2⟩)))
  ·subst p
   rcases q2 with q2|q2
   ·exact .inl (ja.2 (.inr (.inl ⟨x,zqc hm,.inl (by rw[q2,hc])⟩)))
   ·exact hs v q2
 ·exact .inl (ja.2 (.inr (.inr (.inl q))))
 ·exact .inl (ja.2 (.inr (.inr (.inr (.inl q)))))
 ·exact .inl (ja.2 (.inr (.inr (.inr (.inr q)))))
theorem Sim.slots (s:Sim M C D f A) {k:Nat} {y:Fm} (t:TopS M C D A k y) {ss:List RWd} (hg:∀v∈ss,Jf D E v) (hs:qi M-(jK M).slots.length+ss.length<=M.stack) {sl:List Nat} (hsl:sl=C.sl.take y.base++ss.map (jw A)):
  Sim (M.top fun x=>{x with slots:=ss}) {C with sl:=sl} D f A:=by
 rw[t.top];have hroot:∀v,v∈jr {M with frs:=M.frs.set k {jK M with slots:=ss}}->v∈jr M\/Jf D E v:=fun v hv=>jeT (x':={jK M with slots:=ss}) t.fm rfl (fun v hv=>.inr (hg v hv)) hv;have hset:M.frs.set k {jK M with slots:=ss}=M.frs.take k++[{jK M with slots:=ss}]:=by
  conv=>lhs;rw[t.sp]
  rw[List.set_append_right _ _ (by rw[List.length_take,t.ml];omega),List.length_take,t.ml,show k-min k (k+1)=0 by omega];rfl
 have hfl:((M.frs.set k {jK M with slots:=ss}).flatMap fun z=>z.slots)=((M.frs.take k).flatMap fun z=>z.slots)++ss:=by
  rw[hset,List.flatMap_append];simp
 have hfl0:(M.frs.flatMap fun z=>z.slots).length=((M.frs.take k).flatMap fun z=>z.slots).length+(jK M).slots.length:=by
  conv=>lhs;rw[t.sp]
  rw[List.flatMap_append];simp
 exact{s with
  rt:=fun i hi=>by
   rcases hroot _ hi with q|q
   ·exact s.rt i q
   ·exact q.1 i rfl
  wr:=fun v hv=>by
   rcases hroot _ hv with q|q
   ·exact s.wr v q
   ·exact q.2.2
  fr:=by
   refine⟨by rw[List.length_set];exact s.fr.len,fun j x z hx hz=>?_⟩;have htk:(M.frs.set k {jK M with slots:=ss}).take j=M.frs.take j\/k<j:=by
    by_cases q:k<j
    ·exact .inr q
    ·refine .inl ?_
     rw[hset,List.take_append_of_le_length (by rw[List.length_take,t.ml];omega),List.take_take,show min j k=j by omega]
   have hj:=(zqb hx).1;rw[List.length_set,t.ml] at hj;rw[htk.resolve_right (by omega)];rw[List.getElem?_set] at hx;by_cases e:k=j
   ·subst e
    rw[if_pos rfl,if_pos (by rw[t.ml];omega)] at hx;cases hx
    exact s.fr.nth k (jK M) z t.fm hz
   ·rw[if_neg e] at hx
    exact s.fr.nth j x z hx hz
  sl:=by
   show sl=_;rw[hfl,List.map_append,hsl,t.pre]
  pl:=fun x hx=>by
   rcases List.mem_or_eq_of_mem_set hx with q|q
   ·exact s.pl x q
   ·rw[q];exact s.pl (jK M) (zqc t.fm)
  hf:=fun p hp=>by
   show p.1<(M.frs.set k _).length;rw[List.length_set];exact s.hf p hp
  ft:=by
   rw[zS] at hs ⊢;show 3*((M.frs.set k {jK M with slots:=ss}).length:Int)+(((M.frs.set k {jK M with slots:=ss}).flatMap fun z=>z.slots).length:Int)+3*(M.has.length:Int)<=M.stack;rw[hfl,zqm,List.length_set];omega}
theorem Usd.slots (u:Usd M E) {k:Nat} {y:Fm} (t:TopS M C D A k y) {ss:List RWd} (hg:∀v∈ss,Jf D E v):Usd (M.top fun x=>{x with slots:=ss}) E:=by
 rw[t.top];refine u.of rfl rfl fun v hv=>?_;rcases jeT (x':={jK M with slots:=ss}) t.fm rfl (fun v hv=>.inr (hg v hv)) hv with q|q
 ·exact .inl q
 ·exact .inr q.2.1
end
theorem jbK {A:Nat->Nat} {o:RObj}:(jA A o).k=o.k:=by
 unfold jA;split
 ·rename_i e
  rw[e];rfl
 ·rfl
theorem zQ {A:Nat->Nat} {o:RObj} (h:o.k≠4):jA A o=⟨o.k,o.ws.length,o.ws.map (jw A)++o.ins.map JF,0⟩:=if_neg h
theorem jce {A:Nat->Nat} {o:RObj} (h:o.k≠4) {m:Nat} (hm:m<o.ws.length):(jA A o).ws.getD m 0=jw A (o.ws.getD m (.I 0)):=by
 rw[zQ h,zqi,zqi,zqo (by rw[List.length_map];exact hm),List.getElem?_map,zqh hm];rfl
theorem jaJ {l:List RWd} {m:Nat} (hm:m<l.length):l.getD m (.I 0)∈l:=by
 rw[zqi,zqh hm];exact List.getElem_mem hm
section
variable {M:RM} {C:CM} {D S:Nat->Prop} {f A:Nat->Nat} {E:List Nat} {v:RWd}
theorem Zy {i:Nat} {o:RObj} (h:M.objs[i]?=some o):jo M (.P i)=o:=by
 show(M.objs[i]?).getD _=o;rw[h];rfl
theorem jqn (n:Int):jD C (jw A (.I n))=none:=by
 have h1:=Zl A n;unfold jD;have:jc (jw A (.I n):Int)=0:=by
  unfold jc;rw[if_neg (by omega)]
 rw[this];cases e:jl C.now C.h C.W 0 with
 |none=>rfl
 |some k=>
  have h2:=(zF e).2;have h3:=ZF C.h C.W (je C.now k:Nat);omega
theorem jry (s:Sim M C D f A) {h:Nat×Int} (e:M.has.getLast?=some h):∀p∈M.has,p.1<=h.1:=fun p hp=>by
 obtain⟨l,e2⟩:=List.getLast?_eq_some_iff.1 e;have q:=s.hs;rw[e2] at q hp;rcases List.mem_append.1 hp with a|a
 ·exact(List.pairwise_append.1 q).2.2 p a h (by simp)
 ·rw[List.mem_singleton.1 a]
  exact zqg _
theorem Sim.below (s:Sim M C D f A) {k:Nat} (hl:M.frs.length=k+1) (ho:jbs M=false):∀p∈M.has,p.1<k:=fun p hp=>by
 cases e:M.has.getLast? with
 |none=>
  rw[List.getLast?_eq_none_iff.1 e] at hp;cases hp
 |some h=>
  have h1:=jry s e p hp;have h2:=s.hf h (List.mem_of_getLast? e);unfold jbs at ho;rw[e] at ho;have h3:¬h.1+1=M.frs.length:=of_decide_eq_false ho;omega
theorem jhH (C:CM) (n:Nat):jP C n={C with fr:=C.fr.take n,sl:=(jP C n).sl}:=by
 unfold jP;split
 ·rename_i e
  rw[zqp (List.getElem?_eq_none_iff.1 e)]
 ·rfl
theorem jmM (C:CM) (n:Nat) (h:List (Nat×Int)):jP {C with ha:=h} n={jP C n with ha:=h}:=by
 unfold jP;rw[show({C with ha:=h}:CM).fr=C.fr from rfl];cases C.fr[n]?<;>rfl
theorem Sim.cut' (s:Sim M C D f A) (n:Nat) (h:∀p∈M.has,p.1<min n M.frs.length):Sim {M with frs:=M.frs.take n} (jP C n) D f A:=by
 have:=s.cut n (List.Sublist.refl _) h;have e:({jP C n with ha:=M.has}:CM)=jP C n:=by
  rw[<-s.ha];unfold jP;split<;>rfl
 rw[e] at this;exact this
theorem Sim.push (s:Sim M C D f A) {i:Nat} {o:RObj} (g:Jf D E (.P i)) (ho:M.objs[i]?=some o) (hk:o.k=5) (hs:qi M+3<=M.stack):Sim (QR M (.P i)) (Ql C (A i) (jA A o)) D f A:=by
 have hroot:∀v,v∈jr (QR M (.P i))->v∈jr M\/v=.P i:=fun v hv=>by
  rcases ja.1 hv with q|⟨z,q1,q2⟩|q|q|q
  ·exact .inl (ja.2 (.inl q))
  ·rcases List.mem_append.1 q1 with p|p
   ·exact .inl (ja.2 (.inr (.inl ⟨z,p,q2⟩)))
   ·rw[List.mem_singleton.1 p] at q2
    rcases q2 with q2|q2
    ·exact .inr q2
    ·cases q2
  ·exact .inl (ja.2 (.inr (.inr (.inl q))))
  ·exact .inl (ja.2 (.inr (.inr (.inr (.inl q)))))
  ·exact .inl (ja.2 (.inr (.inr (.inr (.inr q)))))
 have hfl:((M.frs++[RFm.mk (.P i) 0 []]).flatMap fun z=>z.slots)=M.frs.flatMap fun z=>z.slots:=by
  rw[List.flatMap_append];simp
 exact{s with
  rt:=fun j hj=>by
   rcases hroot _ hj with q|q
   ·exact s.rt j q
   ·exact g.1 j q.symm
  wr:=fun v hv=>by
   rcases hroot _ hv with q|q
   ·exact s.wr v q
   ·rw[q];exact g.2.2
  fr:=by
   refine⟨by show(C.fr++[_]).length=(M.frs++[_]).length;rw[zqm,zqm,s.fr.len];rfl,fun j x z hx hz=>?_⟩;have hx':(M.frs++[RFm.mk (.P i) 0 []])[j]?=some x:=hx;have hz':(C.fr++[Fm.mk (A i) 0 (jA A o).t ((jA A o).ws.length-(jA A o).t) C.sl.length])[j]?=some z:=hz;show _/\_/\z.base=(((M.frs++[RFm.mk (.P i) 0 []]).take j).map fun z=>z.slots.length).sum/\_;by_cases e:j<M.frs.length
   ·rw[zqo e] at hx'
    rw[zqo (by rw[s.fr.len];exact e)] at hz';rw[List.take_append_of_le_length (by omega)];exact s.fr.nth j x z hx' hz'
   ·have e2:j=M.frs.length:=by
     have:=(zqb hx').1;rw[zqm] at this;simp only[List.length_cons,List.length_nil] at this;omega
    subst e2;rw[zqn (zqg _),Nat.sub_self] at hx';rw[zqn (by rw[s.fr.len];exact zqg _),s.fr.len,Nat.sub_self] at hz';cases hx'
    cases hz'
    refine⟨rfl,rfl,?_,i,o,rfl,ho,hk,?_,?_⟩
    ·rw[List.take_append_of_le_length (zqg _),List.take_length]
     show C.sl.length=jaO M.frs;rw[s.slen,qy]
    ·show(jA A o).t=_
     rw[zQ (by omega)]
    ·show(jA A o).ws.length-(jA A o).t=_
     rw[zQ (by omega)];simp
  sl:=by
   show C.sl=((M.frs++[_]).flatMap _).map _;rw[hfl];exact s.sl
  pl:=fun x hx=>by
   rcases List.mem_append.1 hx with q|q
   ·exact s.pl x q
   ·rw[List.mem_singleton.1 q];exact⟨by show _<=(0:Int);decide,by show(0:Int)<=_;decide⟩
  hf:=fun p hp=>by
   show p.1<(M.frs++[_]).length;rw[zqm];have:=s.hf p hp;omega
  ft:=by
   rw[zS] at hs ⊢;show 3*((M.frs++[RFm.mk (.P i) 0 []]).length:Int)+(((M.frs++[RFm.mk (.P i) 0 []]).flatMap fun z=>z.slots).length:Int)+3*(M.has.length:Int)<=M.stack;rw[hfl,zqm];simp only[List.length_cons,List.length_nil];omega}
theorem Usd.push (u:Usd M E) {x:RWd} (g:Jf D E x):Usd (QR M x) E:=
 u.of rfl rfl fun v hv=>by
  rcases ja.1 hv with q|⟨z,q1,q2⟩|q|q|q
  ·exact .inl (ja.2 (.inl q))
  ·rcases List.mem_append.1 q1 with p|p
   ·exact .inl (ja.2 (.inr (.inl ⟨z,p,q2⟩)))
   ·rw[List.mem_singleton.1 p] at q2
    rcases q2 with q2|q2
    ·rw[q2];exact .inr g.2.1
    ·cases q2
  ·exact .inl (ja.2 (.inr (.inr (.inl q))))
  ·exact .inl (ja.2 (.inr (.inr (.inr (.inl q)))))
  ·exact .inl (ja.2 (.inr (.inr (.inr (.inr q)))))
theorem jlU (M:RM) (x:RWd):qi (QR M x)=qi M+3:=by
 rw[zS,zS];show 3*((M.frs++[RFm.mk x 0 []]).length:Int)+(((M.frs++[RFm.mk x 0 []]).flatMap fun z=>z.slots).length:Int)+3*(M.has.length:Int)=_;rw[show((M.frs++[RFm.mk x 0 []]).flatMap fun z=>z.slots)=M.frs.flatMap fun z=>z.slots by rw[List.flatMap_append];simp,zqm];simp only[List.length_cons,List.length_nil];omega
section
variable (s:Sim M C D f A)
include s
theorem Sim.stkC:qi M=3*(C.fr.length:Int)+C.sl.length+3*C.ha.length:=by rw[zS,s.slen,s.ha,s.fr.len]
theorem Sim.fits:QJ C 3=decide (qi M+3<=M.stack):=by
 unfold QJ;rw[s.stkC,s.stk]
theorem jgr (u:Usd M E) {i:Nat} {o:RObj} (g:Jf D E (.P i)) (ho:M.objs[i]?=some o) (hk:o.k=5) {a b:RWd} (ga:Jf D E a) (gb:Jf D E b):Rel (ZP C (A i) (jA A o) (jw A a) (jw A b)) (jcI M (.P i) a b):=by
 unfold ZP jcI;rw[s.fits,jlU];by_cases h:qi M+3<=M.stack
 ·rw[zqr h,if_pos rfl,if_neg (by omega)]
  have s1:=s.push g ho hk h;have u1:=u.push g;exact .of0 ((s1.reg 0 ga.1 ga.2.2 rfl).reg 1 gb.1 gb.2.2 rfl) ((u1.reg 0 ga.2.1).reg 1 gb.2.1)
 ·rw[zqq h,if_neg (by decide),if_pos (by omega)]
  exact .stop s u (by decide) rfl rfl
theorem jiz (u:Usd M E) {k:Nat} (hl:M.frs.length=k+1) (tail:Bool) {a b:Nat} (ha:a<16) (hb:b<16):Rel (qW C tail a b) (jde M tail (M.rg a) (M.rg b)):=by
 obtain⟨y,t⟩:=s.topS hl;have ho:=t.own s;have e1:=s.rg a ha;have e2:=s.rg b hb;have ga:=s.gotr u ha;have gb:=s.gotr u hb;unfold qW jde;rw[e1];cases hv:M.rg a with
 |I n=>
  rw[jqn];rw[if_pos (.inl (by show(0:Nat)≠3;decide))];exact .stop s u (by decide) rfl rfl
 |P i=>
  rw[hv] at ga;obtain⟨o,h1,h2,h3⟩:=s.obj (ga.1 i rfl);rw[show jw A (.P i)=A i from rfl,h3];simp only[jbK,Zy h1];by_cases h4:o.k=3
  ·have hl1:0<o.ws.length:=by
    rcases h2.kd with⟨_,_,q,_⟩|⟨q,_⟩|⟨q,_⟩
    ·omega
    ·omega
    ·omega
   rw[if_neg (by omega),jce (by omega) hl1];have hc:ja1 M (.P i)=o.ws.getD 0 (.I 0):=by unfold ja1;rw[Zy h1]
   rw[hc];have gc:Jf D E (o.ws.getD 0 (.I 0)):=s.gotf u ga h1 (jaJ hl1);cases hv2:o.ws.getD 0 (.I 0) with
   |I n=>
    rw[jqn,if_pos (.inr (.inl (by show(0:Nat)≠5;decide)))];exact .stop s u (by decide) rfl rfl
   |P j=>
    rw[hv2] at gc;obtain⟨p,g1,g2,g3⟩:=s.obj (gc.1 j rfl);rw[show jw A (.P j)=A j from rfl,g3,Zy g1];simp only[jbK];by_cases h5:p.k=5
    ·rw[if_neg (by omega)]
     cases tail with
     |false=>
      rw[if_neg (by decide),if_neg (by simp[h4,h5]),if_neg (by decide),e2];exact jgr s u gc g1 h5 ga gb
     |true=>
      rw[if_pos rfl,ho];cases hw:jbs M with
      |true=>
       rw[if_pos rfl,if_pos (by simp)];exact .stop s u (by decide) rfl rfl
      |false=>
       rw[if_neg (by decide),if_neg (by simp[h4,h5]),if_pos rfl,e2,t.fl,t.ml,Nat.add_sub_cancel];have s1:=s.cut' k fun p hp=>by have:=s.below hl hw p hp;omega
       have u1:=u.cut k M.has;exact jgr s1 u1 gc g1 h5 ga gb
    ·rw[if_pos h5,if_pos (.inr (.inl h5))]
     exact .stop s u (by decide) rfl rfl
  ·rw[if_pos h4,if_pos (.inl h4)]
   exact .stop s u (by decide) rfl rfl
end
end
section
variable {M:RM} {C:CM} {D S:Nat->Prop} {f A:Nat->Nat} {E:List Nat} {v:RWd}
theorem Rel.halt (s:Sim M C D f A) (u:Usd M E) (g:Jf D E v) {x:Nat} (hx:x=jw A v) {C':CM} {M':RM} {n:Int} (h0:n≠0) (h1:Qi C'=Qi {C with va:=x}) (h2:qX M'=qX {M with value:=v}):Rel (C',n) (M',n):=
 ⟨rfl,fun h=>absurd h h0,fun _=>by
  show jaB (qX M') (Qi C');rw[h1,h2];exact⟨_,_,_,_,(s.val g.1 g.2.2 hx).idle s.stk0,(u.val g.2.1).idle⟩⟩
theorem jkH (C:CM) (n x:Nat):Qi {jP C n with va:=x}=Qi {C with va:=x}:=by unfold jP;split<;>rfl
section
variable (s:Sim M C D f A) (u:Usd M E)
include s u
theorem jod {k:Nat} (hl:M.frs.length=k+1) (g:Jf D E v) {x:Nat} (hx:x=jw A v):Rel (ZS C x) (jeK M v):=by
 obtain⟨y,t⟩:=s.topS hl;unfold ZS jeK;rw[t.own s];cases hw:jbs M with
 |true=>
  rw[if_pos rfl,if_pos rfl];exact .stop s u (by decide) rfl rfl
 |false=>
  rw[if_neg Bool.false_ne_true,if_neg Bool.false_ne_true,t.fl,hl,Nat.add_sub_cancel];by_cases h0:k=0
  ·rw[if_pos h0,if_pos h0]
   exact .halt s u g hx (by decide) (jkH ..) rfl
  ·rw[if_neg h0,if_neg h0]
   have s1:=s.cut' k fun p hp=>by have:=s.below hl hw p hp;omega
   have:=Rel.reg s1 (u.cut k M.has) 0 g hx;have e:(jP C k).rg=C.rg:=by unfold jP;split<;>rfl
   rw[e] at this;exact this
theorem Q7 (g:Jf D E v) {x:Nat} (hx:x=jw A v):Rel (Jm C x) (Zf M v):=by
 unfold Jm Zf;rw[s.ha];cases e:M.has.getLast? with
 |none=>exact .halt s u g hx (by decide) rfl rfl
 |some h=>
  have hm:=List.mem_of_getLast? e;have hlt:=s.hf h hm;have hlt2:h.1<C.fr.length:=by rw[s.fr.len];exact hlt
  simp only[zqh hlt2];have s1:=s.cut (h.1+1) (ha:=M.has.dropLast) (List.dropLast_sublist _) fun p hp=>by
   have:=jry s e p (List.dropLast_subset _ hp);omega
  have u1:=u.cut (h.1+1) M.has.dropLast;have hx1:(M.frs.take (h.1+1))[h.1]?=some M.frs[h.1]:=by rw[List.getElem?_take,if_pos (by omega),zqh hlt]
  have hy1:(C.fr.take (h.1+1))[h.1]?=some C.fr[h.1]:=by rw[List.getElem?_take,if_pos (by omega),zqh hlt2]
  rw[jhH] at s1;have s2:=s1.place hx1 hy1 (s.hp h hm).1 (s.hp h hm).2;have u2:=u1.place hx1 h.2;rw[jeW hx1,jmM,jhH];exact Rel.reg s2 u2 0 g hx
theorem job {k:Nat} {y:Fm} (t:TopS M C D A k y) (n:Int):Rel (ZR C y n) (jex M n):=by
 unfold ZR jex;by_cases h0:n<0
 ·rw[if_pos h0,if_pos h0]
  exact .stop s u (by decide) rfl rfl
 ·rw[if_neg h0,if_neg h0]
  have e1:=s.stkC;have e2:=t.num;have e3:=s.stk;by_cases h1:M.stack<qi M-(jK M).slots.length+n
  ·rw[if_pos h1,if_pos (by omega)]
   exact .stop s u (by decide) rfl rfl
  ·rw[if_neg h1,if_neg (by omega)]
   have hg:∀v∈List.replicate n.toNat (RWd.I 0),Jf D E v:=fun v hv=>by
    rw[List.eq_of_mem_replicate hv];exact Je ⟨by decide,by decide⟩
   exact .of0 (s.slots t hg (by rw[List.length_replicate];omega) (by rw[List.map_replicate];rfl)) (u.slots t hg)
theorem jqH {k:Nat} {y:Fm} (t:TopS M C D A k y) {m:Nat} (g:Jf D E v) {x:Nat} (hx:x=jw A v):Rel ({C with sl:=C.sl.set (y.base+m) x},0) (M.top fun f=>{f with slots:=f.slots.set m v},0):=by
 have e:(M.top fun f=>{f with slots:=f.slots.set m v})=M.top fun f=>{f with slots:=(jK M).slots.set m v}:=by rw[t.top,t.top]
 rw[e];have hg:∀z∈(jK M).slots.set m v,Jf D E z:=fun z hz=>by
  rcases List.mem_or_eq_of_mem_set hz with q|q
  ·exact s.got u (t.slot q)
  ·rw[q];exact g
 refine .of0 (s.slots t hg (by rw[List.length_set];have:=s.ft;omega) ?_) (u.slots t hg);rw[t.pre,t.sl,List.set_append_right _ _ (by rw[List.length_map,qy,t.bs];omega),List.length_map,qy,t.bs,Nat.add_sub_cancel_left,List.map_set,hx]
theorem jqG {k:Nat} {y:Fm} (t:TopS M C D A k y) {m:Nat} (hm:m<(jK M).slots.length) (a:Nat):Rel ({C with rg:=jG C.rg a (C.sl.getD (y.base+m) 0)},0) (M.reg (a:Int) ((jK M).slots.getD m (.I 0)),0):=by
 refine .reg s u a (s.got u (t.slot (jaJ hm))) ?_;rw[zqi,t.nth,zqi,zqh hm];rfl
theorem jqE {k:Nat} {y:Fm} (t:TopS M C D A k y) {n:Int} (p0:0<=(jK M).place) (p1:(jK M).place<=20000) (n0: -2147483648<=n) (n1:n<=2147483647):Rel (jdg C k y n,0) (jeJ M n,0):=by
 unfold jdg jeJ;rw[t.top,t.pl];exact .of0 (s.place t.fm t.fy (by omega) (by omega)) (u.place t.fm _)
theorem jqF {m:Nat} (hm:m<1024) (g:Jf D E v) {x:Nat} (hx:x=jw A v):Rel ({C with gl:=jG C.gl m x,us:=max C.us (m+1)},0) ({M with gl:=JX M.gl m v},0):=
 .of0 (s.glob hm g.1 g.2.2 hx (by rw[Nat.max_def];split<;>split<;>omega)) (u.glob m g.2.1)
end
def jfl (C:CM) (k:Nat) (y:Fm) (n:Int):CM×Int:=if QJ C 3 then({C with ha:=C.ha++[(k,y.place+n)]},0) else(C,6)
theorem jlI (s:Sim M C D f A) (u:Usd M E) {k:Nat} {y:Fm} (t:TopS M C D A k y) {n:Int} (p0:0<=(jK M).place) (p1:(jK M).place<=20000) (n0: -2147483648<=n) (n1:n<=2147483647):Rel (jfl C k y n) (jfm M n):=by
 have e:qi (jeD M n)=qi M+3:=by
  rw[zS,zS];show 3*(M.frs.length:Int)+((M.frs.flatMap fun x=>x.slots).length:Int)+3*((M.has++[_]).length:Int)=_;rw[zqm];simp only[List.length_cons,List.length_nil];omega
 unfold jfl jfm;rw[s.fits,e];by_cases h:qi M+3<=M.stack
 ·rw[zqr h,if_pos rfl,if_neg (by omega)]
  refine .of0 (M':=jeD M n) (D:=D) (f:=f) (A:=A) (E:=E) {s with
   ha:=?_,hf:=?_,hp:=?_,hs:=?_,ft:=?_} (u.of rfl rfl fun x hx=>.inl hx)
  ·show C.ha++_=M.has++_
   rw[s.ha,t.pl,t.ml];rfl
  ·intro p hp
   rcases List.mem_append.1 hp with q|q
   ·exact s.hf p q
   ·rw[List.mem_singleton.1 q]
    show M.frs.length-1<M.frs.length;rw[t.ml];omega
  ·intro p hp
   rcases List.mem_append.1 hp with q|q
   ·exact s.hp p q
   ·rw[List.mem_singleton.1 q]
    exact⟨by show _<=(jK M).place+n;omega,by show(jK M).place+n<=_;omega⟩
  ·refine List.pairwise_append.2 ⟨s.hs,List.pairwise_singleton ..,fun p hp q hq=>?_⟩
   rw[List.mem_singleton.1 hq];have:=s.hf p hp;show p.1<=M.frs.length-1;omega
  ·show qi (jeD M n)<=M.stack
   rw[e];exact h
 ·rw[zqq h,if_neg (by decide),if_pos (by omega)]
  exact .stop s u (by decide) rfl rfl
def jrb (C:CM):CM×Int:=if qL C then({C with ha:=C.ha.dropLast},0) else(C,7)
section
variable (s:Sim M C D f A) (u:Usd M E) {k:Nat} {y:Fm} (t:TopS M C D A k y)
include s u k y t
theorem jsX:Rel (jrb C) (jl4 M):=by
 unfold jrb jl4;rw[t.own s];cases hw:jbs M with
 |false=>
  rw[if_neg (by decide),if_neg (by decide)];exact .stop s u (by decide) rfl rfl
 |true=>
  rw[if_pos rfl,if_pos rfl];refine .of0 (M':={M with has:=M.has.dropLast}) (D:=D) (f:=f) (A:=A) (E:=E) {s with
   ha:=?_,hf:=?_,hp:=?_,hs:=?_,ft:=?_} (u.of rfl rfl fun x hx=>.inl hx)
  ·show C.ha.dropLast=_
   rw[s.ha]
  ·exact fun p hp=>s.hf p (List.dropLast_subset _ hp)
  ·exact fun p hp=>s.hp p (List.dropLast_subset _ hp)
  ·exact s.hs.sublist (List.dropLast_sublist _)
  ·have h1:=s.ft
   rw[zS] at h1 ⊢;show 3*(M.frs.length:Int)+((M.frs.flatMap fun x=>x.slots).length:Int)+3*((M.has.dropLast).length:Int)<=M.stack;rw[List.length_dropLast];omega
theorem jsV {m:Nat} (hm:m<y.lits) (a:Nat):Rel ({C with rg:=jG C.rg a (qY C.h C.W ⟨C.now,C.old⟩ (jc (y.code:Int)) m).1},0) (M.reg (a:Int) ((jo M (jK M).code).ws.getD m (.I 0)),0)/\y.lits=(jo M (jK M).code).ws.length:=by
 obtain⟨i,o,h1,h2,h3,h4,h5,h6,h7,h8⟩:=t.co;have e1:jo M (jK M).code=o:=by rw[h1];exact Zy h2
 rw[e1];refine⟨.reg s u a (s.gotf u (s.got u h8) h2 (jaJ (by omega))) ?_,h6⟩;obtain⟨o',g1,g2,g3⟩:=s.obj h4;rw[h2] at g1;obtain rfl:=zqd g1;rw[h5];have g4:=jce (A:=A) (o:=o) (by omega) (m:=m) (by omega);rw[<-g4];obtain⟨j,j1,j2⟩:=qh g3;have hn:m<(jA A o).ws.length:=by rw[zQ (by omega),zqm,List.length_map];omega
 unfold qY;simp only[j1];rw[ZT j2,if_pos hn]
end
end
