/- A part of the proof of MachineStops: pruned, joined and printed small by a script. Conditions: those that each theorem names. -/
import Derived.Test.YtklcmdoadmcpfaaGreatDoorP00
import Derived.Test.YtklcmdoadmcpfaaGreatDoorP22
import Derived.Test.YtklcmdoadmcpfaaGreatDoorP18
set_option maxRecDepth 100000
set_option maxHeartbeats 400000000
namespace Go.Proofs.YtklcmdoadmcpfaaGreatDoor
open Go Go.RowKit IsaL
def Fine (M:RM) (C:CM):Prop:=∃D f A E,Sim M C D f A/\Usd M E
def Rel (c:CM×Int) (r:RM×Int):Prop:=c.2=r.2/\(r.2=0->Fine r.1 c.1)/\(r.2≠0->Fine (JZ r.1) (Qf c.1))
def Jb (D:Nat->Prop) (E:List Nat) (v:RWd):Prop:=(∀k,v=.P k->D k)/\(∀k,v=.P k->k∈E)/\Wr v
section
variable {M:RM} {C:CM} {D S:Nat->Prop} {f A:Nat->Nat} {E:List Nat} {v:RWd}
theorem Sim.got (s:Sim M C D f A) (u:Usd M E) (h:v∈jr M):Jb D E v:=⟨fun k e=>s.rt k (e▸h),fun k e=>u.co.rt k (e▸h),s.wr v h⟩
theorem Sim.gotf (s:Sim M C D f A) (u:Usd M E) {i:Nat} {o:RObj} (hi:Jb D E (.P i)) (ho:M.objs[i]?=some o) (hv:v∈o.ws):Jb D E v:=
 ⟨s.clo.field (hi.1 i rfl) ho hv,u.co.field (hi.2.1 i rfl) ho hv,s.wo i (hi.1 i rfl) v (by unfold z7;rw[ho];exact hv)⟩
theorem qZ {n:Int} (h:Wr (.I n)):Jb D E (.I n):=⟨fun _ e=>(by cases e),fun _ e=>(by cases e),h⟩
theorem Sim.gotr (s:Sim M C D f A) (u:Usd M E) {k:Nat} (hk:k<16):Jb D E (M.rg k):=s.got u (ja.2 (.inl ⟨k,hk,rfl⟩))
theorem Sim.stk0 (s:Sim M C D f A):0<=M.stack:=by
 have:=s.ft;rw[zS] at this;omega
theorem Rel.of0 {M':RM} {C':CM} (s:Sim M' C' D f A) (u:Usd M' E):Rel (C',0) (M',0):=⟨rfl,fun _=>⟨_,_,_,_,s,u⟩,fun h=>absurd rfl h⟩
theorem Rel.stop (s:Sim M C D f A) (u:Usd M E) {C':CM} {M':RM} {n:Int} (h0:n≠0) (h1:Qf C'=Qf C) (h2:JZ M'=JZ M):Rel (C',n) (M',n):=
 ⟨rfl,fun h=>absurd h h0,fun _=>by
  show Fine (JZ M') (Qf C');rw[h1,h2];exact⟨_,_,_,_,s.idle s.stk0,u.idle⟩⟩
theorem Rel.reg (s:Sim M C D f A) (u:Usd M E) (k:Nat) (g:Jb D E v) {x:Nat} (hx:x=jz A v):Rel ({C with rg:=jD C.rg k x},0) (M.reg (k:Int) v,0):=
 .of0 (s.reg k g.1 g.2.2 hx) (u.reg k g.2.1)
theorem modify_set {α:Type} {l:List α} {k:Nat} {x:α} (h:l[k]?=some x) (g:α->α):l.modify k g=l.set k (g x):=by
 refine List.ext_getElem? fun j=>?_;rw[List.getElem?_modify,List.getElem?_set];have hk:=(zqb h).1;by_cases e:k=j
 ·subst e
  rw[if_pos rfl,if_pos hk,h];simp
 ·rw[if_neg e]
  simp[e]
structure TopS (M:RM) (C:CM) (D:Nat->Prop) (A:Nat->Nat) (k:Nat) (y:Fm):Prop where
 ml:M.frs.length=k+1
 fl:C.fr.length=k+1
 fy:C.fr[k]?=some y
 fm:M.frs[k]?=some (jJ M)
 sp:M.frs=M.frs.take k++[jJ M]
 pl:y.place=(jJ M).place
 bs:y.base=lens (M.frs.take k)
 co:∃i o,(jJ M).code=.P i/\M.objs[i]?=some o/\o.k=5/\D i/\y.code=A i/\y.lits=o.ws.length/\y.ins=o.ins.length/\RWd.P i∈jr M
 sl:C.sl=((M.frs.take k).flatMap fun x=>x.slots).map (jz A)++(jJ M).slots.map (jz A)
theorem Sim.topS (s:Sim M C D f A) {k:Nat} (hl:M.frs.length=k+1):∃y,TopS M C D A k y:=by
 have fl:C.fr.length=k+1:=by rw[s.fr.len];exact hl
 have hy:=List.getElem?_eq_getElem (l:=C.fr) (i:=k) (by omega);have hm:M.frs[k]?=some (jJ M):=by
  unfold jJ;rw[List.getLast?_eq_getElem?,hl,Nat.add_sub_cancel,List.getElem?_eq_getElem (by omega)];rfl
 have hsp:M.frs=M.frs.take k++[jJ M]:=by
  have h1:=List.take_succ_eq_append_getElem (l:=M.frs) (i:=k) (by omega);rw[List.take_of_length_le (by omega)] at h1;obtain⟨h2,h3⟩:=zqb hm;rw[h3] at h1;exact h1
 obtain⟨h1,h2,h3,i,o,h4,h5,h6,h7,h8⟩:=s.fr.nth k _ _ hm hy;have hi:RWd.P i∈jr M:=ja.2 (.inr (.inl ⟨_,zqc hm,.inl h4.symm⟩));refine⟨_,hl,fl,hy,hm,hsp,h2,h3,⟨i,o,h4,h5,h6,s.rt i hi,by rw[h1,h4];rfl,h7,h8,hi⟩,?_⟩;rw[s.sl,<-List.map_append]
 conv=>lhs;rw[hsp]
 rw[List.flatMap_append];simp
section
variable {k:Nat} {y:Fm} (t:TopS M C D A k y)
include k y t
theorem TopS.pre:C.sl.take y.base=((M.frs.take k).flatMap fun x=>x.slots).map (jz A):=by
 rw[t.sl,t.bs,List.take_append_of_le_length (by rw[List.length_map,qz];exact zqg _),List.take_of_length_le (by rw[List.length_map,qz];exact zqg _)]
theorem TopS.num:C.sl.length=y.base+(jJ M).slots.length:=by
 rw[t.sl,List.length_append,List.length_map,List.length_map,qz,t.bs]
theorem TopS.nth (m:Nat):C.sl[y.base+m]?=(jJ M).slots[m]?.map (jz A):=by
 rw[t.sl,List.getElem?_append_right (by rw[List.length_map,qz,t.bs];omega),List.length_map,qz,t.bs,Nat.add_sub_cancel_left,List.getElem?_map]
theorem TopS.top (g:RFm->RFm):M.top g={M with frs:=M.frs.set k (g (jJ M))}:=by
 unfold RM.top;rw[t.ml,Nat.add_sub_cancel,modify_set t.fm]
theorem TopS.slot {v:RWd} (h:v∈(jJ M).slots):v∈jr M:=ja.2 (.inr (.inl ⟨_,zqc t.fm,.inr h⟩))
end
theorem TopS.own (s:Sim M C D f A) {k:Nat} {y:Fm} (t:TopS M C D A k y):qJ C=ownR M:=by
 unfold qJ ownR;rw[s.ha,t.fl,t.ml];cases M.has.getLast? with
 |none=>rfl
 |some h=>exact decide_eq_decide.2 (by omega)
theorem TopS.stk {k:Nat} {y:Fm} (t:TopS M C D A k y) (s:Sim M C D f A):qh M=3*(C.fr.length:Int)+C.sl.length+3*C.ha.length:=by
 rw[zS,s.slen,s.ha,t.fl,t.ml]
theorem mem_topset {k:Nat} {x x':RFm} (hm:M.frs[k]?=some x) (hc:x'.code=x.code) (hs:∀v∈x'.slots,v∈jr M\/Jb D E v) {v:RWd} (h:v∈jr {M with frs:=M.frs.set k x'}):v∈jr M\/Jb D E v:=by
 rcases ja.1 h with q|⟨z,q1,q2⟩|q|q|q
 ·exact .inl (ja.2 (.inl q))
 ·rcases List.mem_or_eq_of_mem_set q1 with p|p
  ·exact .inl (ja.2 (.inr (.inl ⟨z,p,q2⟩)))
  ·subst p
   rcases q2 with q2|q2
   ·exact .inl (ja.2 (.inr (.inl ⟨x,zqc hm,.inl (by rw[q2,hc])⟩)))
   ·exact hs v q2
 ·exact .inl (ja.2 (.inr (.inr (.inl q))))
 ·exact .inl (ja.2 (.inr (.inr (.inr (.inl q)))))
 ·exact .inl (ja.2 (.inr (.inr (.inr (.inr q)))))
theorem Sim.slots (s:Sim M C D f A) {k:Nat} {y:Fm} (t:TopS M C D A k y) {ss:List RWd} (hg:∀v∈ss,Jb D E v) (hs:qh M-(jJ M).slots.length+ss.length<=M.stack) {sl:List Nat} (hsl:sl=C.sl.take y.base++ss.map (jz A)):
  Sim (M.top fun x=>{x with slots:=ss}) {C with sl:=sl} D f A:=by
 rw[t.top];have hroot:∀v,v∈jr {M with frs:=M.frs.set k {jJ M with slots:=ss}}->v∈jr M\/Jb D E v:=fun v hv=>mem_topset (x':={jJ M with slots:=ss}) t.fm rfl (fun v hv=>.inr (hg v hv)) hv;have hset:M.frs.set k {jJ M with slots:=ss}=M.frs.take k++[{jJ M with slots:=ss}]:=by
  conv=>lhs;rw[t.sp]
  rw[List.set_append_right _ _ (by rw[List.length_take,t.ml];omega),List.length_take,t.ml,show k-min k (k+1)=0 by omega];rfl
 have hfl:((M.frs.set k {jJ M with slots:=ss}).flatMap fun z=>z.slots)=((M.frs.take k).flatMap fun z=>z.slots)++ss:=by
  rw[hset,List.flatMap_append];simp
 have hfl0:(M.frs.flatMap fun z=>z.slots).length=((M.frs.take k).flatMap fun z=>z.slots).length+(jJ M).slots.length:=by
  conv=>lhs;rw[t.sp]
  rw[List.flatMap_append];simp
 exact{s with
  rt:=fun i hi=>by
   rcases hroot _ hi with q|q
   ·exact s.rt i q
   ·exact q.1 i rfl
  wr:=fun v hv=>by
   rcases hroot _ hv with q|q
   ·exact s.wr v q
   ·exact q.2.2
  fr:=by
   refine⟨by rw[List.length_set];exact s.fr.len,fun j x z hx hz=>?_⟩;have htk:(M.frs.set k {jJ M with slots:=ss}).take j=M.frs.take j\/k<j:=by
    by_cases q:k<j
    ·exact .inr q
    ·refine .inl ?_
     rw[hset,List.take_append_of_le_length (by rw[List.length_take,t.ml];omega),List.take_take,show min j k=j by omega]
   have hj:=(zqb hx).1;rw[List.length_set,t.ml] at hj;rw[htk.resolve_right (by omega)];rw[List.getElem?_set] at hx;by_cases e:k=j
   ·subst e
    rw[if_pos rfl,if_pos (by rw[t.ml];omega)] at hx;cases hx
    exact s.fr.nth k (jJ M) z t.fm hz
   ·rw[if_neg e] at hx
    exact s.fr.nth j x z hx hz
  sl:=by
   show sl=_;rw[hfl,List.map_append,hsl,t.pre]
  pl:=fun x hx=>by
   rcases List.mem_or_eq_of_mem_set hx with q|q
   ·exact s.pl x q
   ·rw[q];exact s.pl (jJ M) (zqc t.fm)
  hf:=fun p hp=>by
   show p.1<(M.frs.set k _).length;rw[List.length_set];exact s.hf p hp
  ft:=by
   rw[zS] at hs ⊢;show 3*((M.frs.set k {jJ M with slots:=ss}).length:Int)+(((M.frs.set k {jJ M with slots:=ss}).flatMap fun z=>z.slots).length:Int)+3*(M.has.length:Int)<=M.stack;rw[hfl,List.length_append,List.length_set];omega}
theorem Usd.slots (u:Usd M E) {k:Nat} {y:Fm} (t:TopS M C D A k y) {ss:List RWd} (hg:∀v∈ss,Jb D E v):Usd (M.top fun x=>{x with slots:=ss}) E:=by
 rw[t.top];refine u.of rfl rfl fun v hv=>?_;rcases mem_topset (x':={jJ M with slots:=ss}) t.fm rfl (fun v hv=>.inr (hg v hv)) hv with q|q
 ·exact .inl q
 ·exact .inr q.2.1
end
theorem obA6_k {A:Nat->Nat} {o:RObj}:(jC A o).k=o.k:=by
 unfold jC;split
 ·rename_i e
  rw[e];rfl
 ·rfl
theorem zP {A:Nat->Nat} {o:RObj} (h:o.k≠4):jC A o=⟨o.k,o.ws.length,o.ws.map (jz A)++o.ins.map JL,0⟩:=if_neg h
theorem obA6_get {A:Nat->Nat} {o:RObj} (h:o.k≠4) {m:Nat} (hm:m<o.ws.length):(jC A o).ws.getD m 0=jz A (o.ws.getD m (.I 0)):=by
 rw[zP h,List.getD_eq_getElem?_getD,List.getD_eq_getElem?_getD,List.getElem?_append_left (by rw[List.length_map];exact hm),List.getElem?_map,List.getElem?_eq_getElem hm];rfl
theorem getD_mem {l:List RWd} {m:Nat} (hm:m<l.length):l.getD m (.I 0)∈l:=by
 rw[List.getD_eq_getElem?_getD,List.getElem?_eq_getElem hm];exact List.getElem_mem hm
section
variable {M:RM} {C:CM} {D S:Nat->Prop} {f A:Nat->Nat} {E:List Nat} {v:RWd}
theorem Zy {i:Nat} {o:RObj} (h:M.objs[i]?=some o):jo M (.P i)=o:=by
 show(M.objs[i]?).getD _=o;rw[h];rfl
theorem objN (n:Int):jB C (jz A (.I n))=none:=by
 have h1:=ZB A n;unfold jB;have:jc (jz A (.I n):Int)=0:=by
  unfold jc;rw[if_neg (by omega)]
 rw[this];cases e:jm C.now C.h C.W 0 with
 |none=>rfl
 |some k=>
  have h2:=(zU e).2;have h3:=ZF C.h C.W (jd C.now k:Nat);omega
theorem hs_le (s:Sim M C D f A) {h:Nat×Int} (e:M.has.getLast?=some h):∀p∈M.has,p.1<=h.1:=fun p hp=>by
 obtain⟨l,e2⟩:=List.getLast?_eq_some_iff.1 e;have q:=s.hs;rw[e2] at q hp;rcases List.mem_append.1 hp with a|a
 ·exact(List.pairwise_append.1 q).2.2 p a h (by simp)
 ·rw[List.mem_singleton.1 a]
  exact zqg _
theorem Sim.below (s:Sim M C D f A) {k:Nat} (hl:M.frs.length=k+1) (ho:ownR M=false):∀p∈M.has,p.1<k:=fun p hp=>by
 cases e:M.has.getLast? with
 |none=>
  rw[List.getLast?_eq_none_iff.1 e] at hp;cases hp
 |some h=>
  have h1:=hs_le s e p hp;have h2:=s.hf h (List.mem_of_getLast? e);unfold ownR at ho;rw[e] at ho;have h3:¬h.1+1=M.frs.length:=of_decide_eq_false ho;omega
theorem dropC_eq (C:CM) (n:Nat):jN C n={C with fr:=C.fr.take n,sl:=(jN C n).sl}:=by
 unfold jN;split
 ·rename_i e
  rw[List.take_of_length_le (List.getElem?_eq_none_iff.1 e)]
 ·rfl
theorem dropC_haE (C:CM) (n:Nat) (h:List (Nat×Int)):jN {C with ha:=h} n={jN C n with ha:=h}:=by
 unfold jN;rw[show({C with ha:=h}:CM).fr=C.fr from rfl];cases C.fr[n]?<;>rfl
theorem Sim.cut' (s:Sim M C D f A) (n:Nat) (h:∀p∈M.has,p.1<min n M.frs.length):Sim {M with frs:=M.frs.take n} (jN C n) D f A:=by
 have:=s.cut n (List.Sublist.refl _) h;have e:({jN C n with ha:=M.has}:CM)=jN C n:=by
  rw[<-s.ha];unfold jN;split<;>rfl
 rw[e] at this;exact this
theorem Sim.push (s:Sim M C D f A) {i:Nat} {o:RObj} (g:Jb D E (.P i)) (ho:M.objs[i]?=some o) (hk:o.k=5) (hs:qh M+3<=M.stack):Sim (QE M (.P i)) (Qg C (A i) (jC A o)) D f A:=by
 have hroot:∀v,v∈jr (QE M (.P i))->v∈jr M\/v=.P i:=fun v hv=>by
  rcases ja.1 hv with q|⟨z,q1,q2⟩|q|q|q
  ·exact .inl (ja.2 (.inl q))
  ·rcases List.mem_append.1 q1 with p|p
   ·exact .inl (ja.2 (.inr (.inl ⟨z,p,q2⟩)))
   ·rw[List.mem_singleton.1 p] at q2
    rcases q2 with q2|q2
    ·exact .inr q2
    ·cases q2
  ·exact .inl (ja.2 (.inr (.inr (.inl q))))
  ·exact .inl (ja.2 (.inr (.inr (.inr (.inl q)))))
  ·exact .inl (ja.2 (.inr (.inr (.inr (.inr q)))))
 have hfl:((M.frs++[RFm.mk (.P i) 0 []]).flatMap fun z=>z.slots)=M.frs.flatMap fun z=>z.slots:=by
  rw[List.flatMap_append];simp
 exact{s with
  rt:=fun j hj=>by
   rcases hroot _ hj with q|q
   ·exact s.rt j q
   ·exact g.1 j q.symm
  wr:=fun v hv=>by
   rcases hroot _ hv with q|q
   ·exact s.wr v q
   ·rw[q];exact g.2.2
  fr:=by
   refine⟨by show(C.fr++[_]).length=(M.frs++[_]).length;rw[List.length_append,List.length_append,s.fr.len];rfl,fun j x z hx hz=>?_⟩;have hx':(M.frs++[RFm.mk (.P i) 0 []])[j]?=some x:=hx;have hz':(C.fr++[Fm.mk (A i) 0 (jC A o).t ((jC A o).ws.length-(jC A o).t) C.sl.length])[j]?=some z:=hz;show _/\_/\z.base=(((M.frs++[RFm.mk (.P i) 0 []]).take j).map fun z=>z.slots.length).sum/\_;by_cases e:j<M.frs.length
   ·rw[List.getElem?_append_left e] at hx'
    rw[List.getElem?_append_left (by rw[s.fr.len];exact e)] at hz';rw[List.take_append_of_le_length (by omega)];exact s.fr.nth j x z hx' hz'
   ·have e2:j=M.frs.length:=by
     have:=(zqb hx').1;rw[List.length_append] at this;simp only[List.length_cons,List.length_nil] at this;omega
    subst e2;rw[List.getElem?_append_right (zqg _),Nat.sub_self] at hx';rw[List.getElem?_append_right (by rw[s.fr.len];exact zqg _),s.fr.len,Nat.sub_self] at hz';cases hx'
    cases hz'
    refine⟨rfl,rfl,?_,i,o,rfl,ho,hk,?_,?_⟩
    ·rw[List.take_append_of_le_length (zqg _),List.take_length]
     show C.sl.length=lens M.frs;rw[s.slen,qz]
    ·show(jC A o).t=_
     rw[zP (by omega)]
    ·show(jC A o).ws.length-(jC A o).t=_
     rw[zP (by omega)];simp
  sl:=by
   show C.sl=((M.frs++[_]).flatMap _).map _;rw[hfl];exact s.sl
  pl:=fun x hx=>by
   rcases List.mem_append.1 hx with q|q
   ·exact s.pl x q
   ·rw[List.mem_singleton.1 q];exact⟨by show _<=(0:Int);decide,by show(0:Int)<=_;decide⟩
  hf:=fun p hp=>by
   show p.1<(M.frs++[_]).length;rw[List.length_append];have:=s.hf p hp;omega
  ft:=by
   rw[zS] at hs ⊢;show 3*((M.frs++[RFm.mk (.P i) 0 []]).length:Int)+(((M.frs++[RFm.mk (.P i) 0 []]).flatMap fun z=>z.slots).length:Int)+3*(M.has.length:Int)<=M.stack;rw[hfl,List.length_append];simp only[List.length_cons,List.length_nil];omega}
theorem Usd.push (u:Usd M E) {x:RWd} (g:Jb D E x):Usd (QE M x) E:=
 u.of rfl rfl fun v hv=>by
  rcases ja.1 hv with q|⟨z,q1,q2⟩|q|q|q
  ·exact .inl (ja.2 (.inl q))
  ·rcases List.mem_append.1 q1 with p|p
   ·exact .inl (ja.2 (.inr (.inl ⟨z,p,q2⟩)))
   ·rw[List.mem_singleton.1 p] at q2
    rcases q2 with q2|q2
    ·rw[q2];exact .inr g.2.1
    ·cases q2
  ·exact .inl (ja.2 (.inr (.inr (.inl q))))
  ·exact .inl (ja.2 (.inr (.inr (.inr (.inl q)))))
  ·exact .inl (ja.2 (.inr (.inr (.inr (.inr q)))))
theorem stack_push (M:RM) (x:RWd):qh (QE M x)=qh M+3:=by
 rw[zS,zS];show 3*((M.frs++[RFm.mk x 0 []]).length:Int)+(((M.frs++[RFm.mk x 0 []]).flatMap fun z=>z.slots).length:Int)+3*(M.has.length:Int)=_;rw[show((M.frs++[RFm.mk x 0 []]).flatMap fun z=>z.slots)=M.frs.flatMap fun z=>z.slots by rw[List.flatMap_append];simp,List.length_append];simp only[List.length_cons,List.length_nil];omega
section
variable (s:Sim M C D f A)
include s
theorem Sim.stkC:qh M=3*(C.fr.length:Int)+C.sl.length+3*C.ha.length:=by rw[zS,s.slen,s.ha,s.fr.len]
theorem Sim.fits:QK C 3=decide (qh M+3<=M.stack):=by
 unfold QK;rw[s.stkC,s.stk]
theorem rel_call2 (u:Usd M E) {i:Nat} {o:RObj} (g:Jb D E (.P i)) (ho:M.objs[i]?=some o) (hk:o.k=5) {a b:RWd} (ga:Jb D E a) (gb:Jb D E b):Rel (ZJ C (A i) (jC A o) (jz A a) (jz A b)) (Qi M (.P i) a b):=by
 unfold ZJ Qi;rw[s.fits,stack_push];by_cases h:qh M+3<=M.stack
 ·rw[decide_eq_true h,if_pos rfl,if_neg (by omega)]
  have s1:=s.push g ho hk h;have u1:=u.push g;exact .of0 ((s1.reg 0 ga.1 ga.2.2 rfl).reg 1 gb.1 gb.2.2 rfl) ((u1.reg 0 ga.2.1).reg 1 gb.2.1)
 ·rw[decide_eq_false h,if_neg (by decide),if_pos (by omega)]
  exact .stop s u (by decide) rfl rfl
theorem rel_call (u:Usd M E) {k:Nat} (hl:M.frs.length=k+1) (tail:Bool) {a b:Nat} (ha:a<16) (hb:b<16):Rel (qU C tail a b) (QC M tail (M.rg a) (M.rg b)):=by
 obtain⟨y,t⟩:=s.topS hl;have ho:=t.own s;have e1:=s.rg a ha;have e2:=s.rg b hb;have ga:=s.gotr u ha;have gb:=s.gotr u hb;unfold qU QC;rw[e1];cases hv:M.rg a with
 |I n=>
  rw[objN];rw[if_pos (.inl (by show(0:Nat)≠3;decide))];exact .stop s u (by decide) rfl rfl
 |P i=>
  rw[hv] at ga;obtain⟨o,h1,h2,h3⟩:=s.obj (ga.1 i rfl);rw[show jz A (.P i)=A i from rfl,h3];simp only[obA6_k,Zy h1];by_cases h4:o.k=3
  ·have hl1:0<o.ws.length:=by
    rcases h2.kd with⟨_,_,q,_⟩|⟨q,_⟩|⟨q,_⟩
    ·omega
    ·omega
    ·omega
   rw[if_neg (by omega),obA6_get (by omega) hl1];have hc:codeR M (.P i)=o.ws.getD 0 (.I 0):=by unfold codeR;rw[Zy h1]
   rw[hc];have gc:Jb D E (o.ws.getD 0 (.I 0)):=s.gotf u ga h1 (getD_mem hl1);cases hv2:o.ws.getD 0 (.I 0) with
   |I n=>
    rw[objN,if_pos (.inr (.inl (by show(0:Nat)≠5;decide)))];exact .stop s u (by decide) rfl rfl
   |P j=>
    rw[hv2] at gc;obtain⟨p,g1,g2,g3⟩:=s.obj (gc.1 j rfl);rw[show jz A (.P j)=A j from rfl,g3,Zy g1];simp only[obA6_k];by_cases h5:p.k=5
    ·rw[if_neg (by omega)]
     cases tail with
     |false=>
      rw[if_neg (by decide),if_neg (by simp[h4,h5]),if_neg (by decide),e2];exact rel_call2 s u gc g1 h5 ga gb
     |true=>
      rw[if_pos rfl,ho];cases hw:ownR M with
      |true=>
       rw[if_pos rfl,if_pos (by simp)];exact .stop s u (by decide) rfl rfl
      |false=>
       rw[if_neg (by decide),if_neg (by simp[h4,h5]),if_pos rfl,e2,t.fl,t.ml,Nat.add_sub_cancel];have s1:=s.cut' k fun p hp=>by have:=s.below hl hw p hp;omega
       have u1:=u.cut k M.has;exact rel_call2 s1 u1 gc g1 h5 ga gb
    ·rw[if_pos h5,if_pos (.inr (.inl h5))]
     exact .stop s u (by decide) rfl rfl
  ·rw[if_pos h4,if_pos (.inl h4)]
   exact .stop s u (by decide) rfl rfl
end
end
section
variable {M:RM} {C:CM} {D S:Nat->Prop} {f A:Nat->Nat} {E:List Nat} {v:RWd}
theorem Rel.halt (s:Sim M C D f A) (u:Usd M E) (g:Jb D E v) {x:Nat} (hx:x=jz A v) {C':CM} {M':RM} {n:Int} (h0:n≠0) (h1:Qf C'=Qf {C with va:=x}) (h2:JZ M'=JZ {M with value:=v}):Rel (C',n) (M',n):=
 ⟨rfl,fun h=>absurd h h0,fun _=>by
  show Fine (JZ M') (Qf C');rw[h1,h2];exact⟨_,_,_,_,(s.val g.1 g.2.2 hx).idle s.stk0,(u.val g.2.1).idle⟩⟩
theorem endC_dropV (C:CM) (n x:Nat):Qf {jN C n with va:=x}=Qf {C with va:=x}:=by unfold jN;split<;>rfl
section
variable (s:Sim M C D f A) (u:Usd M E)
include s u
theorem rel_leave {k:Nat} (hl:M.frs.length=k+1) (g:Jb D E v) {x:Nat} (hx:x=jz A v):Rel (ZI C x) (QR M v):=by
 obtain⟨y,t⟩:=s.topS hl;unfold ZI QR;rw[t.own s];cases hw:ownR M with
 |true=>
  rw[if_pos rfl,if_pos rfl];exact .stop s u (by decide) rfl rfl
 |false=>
  rw[if_neg Bool.false_ne_true,if_neg Bool.false_ne_true,t.fl,hl,Nat.add_sub_cancel];by_cases h0:k=0
  ·rw[if_pos h0,if_pos h0]
   exact .halt s u g hx (by decide) (endC_dropV ..) rfl
  ·rw[if_neg h0,if_neg h0]
   have s1:=s.cut' k fun p hp=>by have:=s.below hl hw p hp;omega
   have:=Rel.reg s1 (u.cut k M.has) 0 g hx;have e:(jN C k).rg=C.rg:=by unfold jN;split<;>rfl
   rw[e] at this;exact this
theorem QT (g:Jb D E v) {x:Nat} (hx:x=jz A v):Rel (Jf C x) (qR M v):=by
 unfold Jf qR;rw[s.ha];cases e:M.has.getLast? with
 |none=>exact .halt s u g hx (by decide) rfl rfl
 |some h=>
  have hm:=List.mem_of_getLast? e;have hlt:=s.hf h hm;have hlt2:h.1<C.fr.length:=by rw[s.fr.len];exact hlt
  simp only[List.getElem?_eq_getElem hlt2];have s1:=s.cut (h.1+1) (ha:=M.has.dropLast) (List.dropLast_sublist _) fun p hp=>by
   have:=hs_le s e p (List.dropLast_subset _ hp);omega
  have u1:=u.cut (h.1+1) M.has.dropLast;have hx1:(M.frs.take (h.1+1))[h.1]?=some M.frs[h.1]:=by rw[List.getElem?_take,if_pos (by omega),List.getElem?_eq_getElem hlt]
  have hy1:(C.fr.take (h.1+1))[h.1]?=some C.fr[h.1]:=by rw[List.getElem?_take,if_pos (by omega),List.getElem?_eq_getElem hlt2]
  rw[dropC_eq] at s1;have s2:=s1.place hx1 hy1 (s.hp h hm).1 (s.hp h hm).2;have u2:=u1.place hx1 h.2;rw[modify_set hx1,dropC_haE,dropC_eq];exact Rel.reg s2 u2 0 g hx
theorem rel_enter {k:Nat} {y:Fm} (t:TopS M C D A k y) (n:Int):Rel (ZR C y n) (enterR M n):=by
 unfold ZR enterR;by_cases h0:n<0
 ·rw[if_pos h0,if_pos h0]
  exact .stop s u (by decide) rfl rfl
 ·rw[if_neg h0,if_neg h0]
  have e1:=s.stkC;have e2:=t.num;have e3:=s.stk;by_cases h1:M.stack<qh M-(jJ M).slots.length+n
  ·rw[if_pos h1,if_pos (by omega)]
   exact .stop s u (by decide) rfl rfl
  ·rw[if_neg h1,if_neg (by omega)]
   have hg:∀v∈List.replicate n.toNat (RWd.I 0),Jb D E v:=fun v hv=>by
    rw[List.eq_of_mem_replicate hv];exact qZ ⟨by decide,by decide⟩
   exact .of0 (s.slots t hg (by rw[List.length_replicate];omega) (by rw[List.map_replicate];rfl)) (u.slots t hg)
theorem rel_save {k:Nat} {y:Fm} (t:TopS M C D A k y) {m:Nat} (g:Jb D E v) {x:Nat} (hx:x=jz A v):Rel ({C with sl:=C.sl.set (y.base+m) x},0) (M.top fun f=>{f with slots:=f.slots.set m v},0):=by
 have e:(M.top fun f=>{f with slots:=f.slots.set m v})=M.top fun f=>{f with slots:=(jJ M).slots.set m v}:=by rw[t.top,t.top]
 rw[e];have hg:∀z∈(jJ M).slots.set m v,Jb D E z:=fun z hz=>by
  rcases List.mem_or_eq_of_mem_set hz with q|q
  ·exact s.got u (t.slot q)
  ·rw[q];exact g
 refine .of0 (s.slots t hg (by rw[List.length_set];have:=s.ft;omega) ?_) (u.slots t hg);rw[t.pre,t.sl,List.set_append_right _ _ (by rw[List.length_map,qz,t.bs];omega),List.length_map,qz,t.bs,Nat.add_sub_cancel_left,List.map_set,hx]
theorem rel_load {k:Nat} {y:Fm} (t:TopS M C D A k y) {m:Nat} (hm:m<(jJ M).slots.length) (a:Nat):Rel ({C with rg:=jD C.rg a (C.sl.getD (y.base+m) 0)},0) (M.reg (a:Int) ((jJ M).slots.getD m (.I 0)),0):=by
 refine .reg s u a (s.got u (t.slot (getD_mem hm))) ?_;rw[List.getD_eq_getElem?_getD,t.nth,List.getD_eq_getElem?_getD,List.getElem?_eq_getElem hm];rfl
theorem rel_jump {k:Nat} {y:Fm} (t:TopS M C D A k y) {n:Int} (p0:0<=(jJ M).place) (p1:(jJ M).place<=20000) (n0: -2147483648<=n) (n1:n<=2147483647):Rel (jumpC C k y n,0) (jumpR M n,0):=by
 unfold jumpC jumpR;rw[t.top,t.pl];exact .of0 (s.place t.fm t.fy (by omega) (by omega)) (u.place t.fm _)
theorem rel_keep {m:Nat} (hm:m<1024) (g:Jb D E v) {x:Nat} (hx:x=jz A v):Rel ({C with gl:=jD C.gl m x,us:=max C.us (m+1)},0) ({M with gl:=JR M.gl m v},0):=
 .of0 (s.glob hm g.1 g.2.2 hx (by rw[Nat.max_def];split<;>split<;>omega)) (u.glob m g.2.1)
end
def handleC (C:CM) (k:Nat) (y:Fm) (n:Int):CM×Int:=if QK C 3 then({C with ha:=C.ha++[(k,y.place+n)]},0) else(C,6)
theorem rel_handle (s:Sim M C D f A) (u:Usd M E) {k:Nat} {y:Fm} (t:TopS M C D A k y) {n:Int} (p0:0<=(jJ M).place) (p1:(jJ M).place<=20000) (n0: -2147483648<=n) (n1:n<=2147483647):Rel (handleC C k y n) (handleR M n):=by
 have e:qh (handR M n)=qh M+3:=by
  rw[zS,zS];show 3*(M.frs.length:Int)+((M.frs.flatMap fun x=>x.slots).length:Int)+3*((M.has++[_]).length:Int)=_;rw[List.length_append];simp only[List.length_cons,List.length_nil];omega
 unfold handleC handleR;rw[s.fits,e];by_cases h:qh M+3<=M.stack
 ·rw[decide_eq_true h,if_pos rfl,if_neg (by omega)]
  refine .of0 (M':=handR M n) (D:=D) (f:=f) (A:=A) (E:=E) {s with
   ha:=?_,hf:=?_,hp:=?_,hs:=?_,ft:=?_} (u.of rfl rfl fun x hx=>.inl hx)
  ·show C.ha++_=M.has++_
   rw[s.ha,t.pl,t.ml];rfl
  ·intro p hp
   rcases List.mem_append.1 hp with q|q
   ·exact s.hf p q
   ·rw[List.mem_singleton.1 q]
    show M.frs.length-1<M.frs.length;rw[t.ml];omega
  ·intro p hp
   rcases List.mem_append.1 hp with q|q
   ·exact s.hp p q
   ·rw[List.mem_singleton.1 q]
    exact⟨by show _<=(jJ M).place+n;omega,by show(jJ M).place+n<=_;omega⟩
  ·refine List.pairwise_append.2 ⟨s.hs,List.pairwise_singleton ..,fun p hp q hq=>?_⟩
   rw[List.mem_singleton.1 hq];have:=s.hf p hp;show p.1<=M.frs.length-1;omega
  ·show qh (handR M n)<=M.stack
   rw[e];exact h
 ·rw[decide_eq_false h,if_neg (by decide),if_pos (by omega)]
  exact .stop s u (by decide) rfl rfl
def unhC (C:CM):CM×Int:=if qJ C then({C with ha:=C.ha.dropLast},0) else(C,7)
section
variable (s:Sim M C D f A) (u:Usd M E) {k:Nat} {y:Fm} (t:TopS M C D A k y)
include s u k y t
theorem rel_unh:Rel (unhC C) (unhR M):=by
 unfold unhC unhR;rw[t.own s];cases hw:ownR M with
 |false=>
  rw[if_neg (by decide),if_neg (by decide)];exact .stop s u (by decide) rfl rfl
 |true=>
  rw[if_pos rfl,if_pos rfl];refine .of0 (M':={M with has:=M.has.dropLast}) (D:=D) (f:=f) (A:=A) (E:=E) {s with
   ha:=?_,hf:=?_,hp:=?_,hs:=?_,ft:=?_} (u.of rfl rfl fun x hx=>.inl hx)
  ·show C.ha.dropLast=_
   rw[s.ha]
  ·exact fun p hp=>s.hf p (List.dropLast_subset _ hp)
  ·exact fun p hp=>s.hp p (List.dropLast_subset _ hp)
  ·exact s.hs.sublist (List.dropLast_sublist _)
  ·have h1:=s.ft
   rw[zS] at h1 ⊢;show 3*(M.frs.length:Int)+((M.frs.flatMap fun x=>x.slots).length:Int)+3*((M.has.dropLast).length:Int)<=M.stack;rw[List.length_dropLast];omega
theorem rel_lit {m:Nat} (hm:m<y.lits) (a:Nat):Rel ({C with rg:=jD C.rg a (qS C.h C.W ⟨C.now,C.old⟩ (jc (y.code:Int)) m).1},0) (M.reg (a:Int) ((jo M (jJ M).code).ws.getD m (.I 0)),0)/\y.lits=(jo M (jJ M).code).ws.length:=by
 obtain⟨i,o,h1,h2,h3,h4,h5,h6,h7,h8⟩:=t.co;have e1:jo M (jJ M).code=o:=by rw[h1];exact Zy h2
 rw[e1];refine⟨.reg s u a (s.gotf u (s.got u h8) h2 (getD_mem (by omega))) ?_,h6⟩;obtain⟨o',g1,g2,g3⟩:=s.obj h4;rw[h2] at g1;obtain rfl:=zqd g1;rw[h5];have g4:=obA6_get (A:=A) (o:=o) (by omega) (m:=m) (by omega);rw[<-g4];obtain⟨j,j1,j2⟩:=qd g3;have hn:m<(jC A o).ws.length:=by rw[zP (by omega),List.length_append,List.length_map];omega
 unfold qS;simp only[j1];rw[ZO j2,if_pos hn]
end
end
end Go.Proofs.YtklcmdoadmcpfaaGreatDoor
