/- A part of the proof of MachineMoves. Conditions: those that each theorem names. -/
import Derived.Test.YtklcmdoadmcpfaaGreatDoorQ33
set_option maxRecDepth 100000
set_option maxHeartbeats 400000000
namespace Go.Proofs.YtklcmdoadmcpfaaGreatDoor
open Go Go.RowKit IsaL
open Go.Lib(hid)
open Go.Proofs.Tryz(prog)
section
variable {O:Nat->Prop} {w X:World} {g b:Nat} {C:CM} {R:Nat->Value} {vf vs vh:Value} {M:RM} {D:Nat->Prop} {f A:Nat->Nat} {E:List Nat} {k:Nat} {y:Fm}
theorem jbo (a:McAt O w g C b R vf vs vh) (s:Sim M C D f A) (hO:∀i,w.heap.size<=i->O i):
  Calls prog 22 #[.pointer (some ⟨g,0,none⟩)] w fun e w'=>(∃v,e=.returned v)/\∃C' R' D' f' A',McAt O w' g C' b R' vf vs vh/\Sim M C' D' f' A'/\Fr O w w':=by
 obtain⟨met,hr,_,hsim⟩:=s.coll;refine(jmG a s.ok s.s1 hO hr (s.odd met) s.codes).mono ?_;rintro e w' ⟨h1,⟨R',h2⟩,h3⟩;obtain⟨D',f',A',_,s'⟩:=hsim h2.z;exact⟨h1,_,R',D',f',A',h2,s',h3⟩
theorem jt4 (C:CM) (b:Nat) (vf vs vh:Value):mcE (mF C b vf vs vh)=mF (Qi C) b (.slice none 0 0) (.slice none 0 0) (.slice none 0 0):=by
 unfold mcE;have e1:jaP (mF C b vf vs vh) 16=mF {C with rg:=fun k=>if k<16 then 1 else C.rg k} b vf vs vh:=by
  funext j;unfold jaP;by_cases h:2<=j/\j<2+16
  ·rw[if_pos h]
   unfold mF;rw[if_neg (by omega),if_neg (by omega),if_pos (by omega)];show _=Value.int .u64 ((if j-2<16 then 1 else C.rg (j-2):Nat):Int);rw[if_pos (by omega)];rfl
  ·rw[if_neg h]
   unfold mF;by_cases h0:j=0
   ·rw[if_pos h0,if_pos h0]
   by_cases h1:j=1
   ·rw[if_neg h0,if_neg h0,if_pos h1,if_pos h1]
   ·rw[if_neg h0,if_neg h0,if_neg h1,if_neg h1,if_neg (c:=j<18) (by omega),if_neg (c:=j<18) (by omega)]
 rw[e1,ja9,jb8,QN];rfl
theorem ju6 (a:McAt O w g C b R vf vs vh):
  Calls prog 56 #[.pointer (some ⟨g,0,none⟩)] w fun e w'=>(∃v,e=.returned v)/\McAt O w' g (Qi C) b R (.slice none 0 0) (.slice none 0 0) (.slice none 0 0)/\Fr O w w':=by
 refine(jjC a.bx).mono ?_;rintro e w' ⟨h1,h2,h3⟩;rw[jt4] at h2;refine⟨h1,?_,h3.mono fun i hi=>.inl (by rw[show i=g from hi];exact a.og)⟩;exact⟨h2,a.m.kept h3 (fun i hi e=>a.gm (e▸hi)),a.z,⟨rfl,.inl ⟨rfl,rfl⟩⟩,⟨rfl,.inl ⟨rfl,rfl⟩⟩,⟨rfl,.inl ⟨rfl,rfl⟩⟩,a.og,a.om,fun _ e=>(by cases e),fun _ e=>(by cases e),fun _ e=>(by cases e),a.gm,fun e=>(by cases e),fun e=>(by cases e),fun e=>(by cases e),fun _ e=>(by cases e),fun _ e=>(by cases e),fun _ e=>(by cases e),fun _ e=>(by cases e),fun _ e=>(by cases e),fun _ e=>(by cases e)⟩
theorem jrM (a:McAt O w g C b R vf vs vh) (ok:OkC C) (hO:∀i,w.heap.size<=i->O i) {o:Ob} (ho:jD C C.cd=some o):
  Calls prog 52 #[.pointer (some ⟨g,0,none⟩)] w fun e w'=>(∃v,e=.returned v)/\(∃vf',McAt O w' g (Ql {C with va:=1} C.cd o) b R vf' vs vh)/\Fr O w w':=by
 obtain⟨j,hj1,hj2⟩:=qh ho;obtain⟨cw,hcw⟩:∃cw,C.cd=cw:=⟨_,rfl⟩;have c3:=a.ccd;have c4:=a.cva;have z4:=a.fz 1044;have hcl:=ok.cd;rw[hcw] at c3 hj1 hcl;have HCW:=hid hcw;have HI:=hid Qc;have a1:=a.value 1;have HF:=hid (((Fr.refl O w).setCell (p:=⟨g,1044,none⟩) (.inl a.og) (.int .u64 1)));have HPS:=hid (jiq (w:=w.setCell ⟨g,1044,none⟩ (.int .u64 1)) (C:={C with va:=1}) a1 hcl hj1 hj2 (fun i hi=>hO i (by simpa[World.setCell] using hi)) ok.n1);have c3':(w.setCell ⟨g,1044,none⟩ (.int .u64 1)).cell? ⟨g,1043,none⟩=some (.int .u64 (cw:Int)):=by
  have:=a1.ccd;rw[show({C with va:=1}:CM).cd=cw from hcw] at this;exact this
 clear a ok hO ho hj1 hj2 hcw hcl a1;go_enter Tryz.func52,Tryz.ntmps52;go_wp2_with (go_at_call 41;refine(HI.out _).mono ?_;rintro e w' ⟨rfl,hw'⟩;subst w');refine HPS.out.mono ?_;rintro e w2 ⟨⟨v,rfl⟩,h1,h2⟩;have HR:=hid (zqf h1 h2);clear h1 h2;go_wp2_with fail;refine bodyPost_end (results_none rfl _ _ _) rfl ?_;refine⟨⟨_,rfl⟩,?_,HF.out.trans HR.out.2 (fun i hi=>.inl hi)⟩;obtain⟨vf',h⟩:=HR.out.1;refine⟨vf',?_⟩;rw[show Ql {C with va:=1} C.cd o=Ql {C with va:=1} cw o from congrArg (fun z=>Ql {C with va:=1} z o) HCW.out];exact h
theorem Sim.begin (s:Sim M C D f A) (id:jfc M) (hS:3<=M.stack) {i:Nat} {o:RObj} (he:M.entry=.P i) (ho:M.objs[i]?=some o) (hk:o.k=5) (bu:Int):Sim (Jv M bu) (Ql {C with va:=1} C.cd (jA A o)) D f A:=by
 have s1:Sim {M with value:=.I 0} {C with va:=1} D f A:=s.val (v:=.I 0) (fun _ e=>(by cases e)) (show Wr (.I 0) from⟨by decide,by decide⟩) rfl;have hi:D i:=s.rt i (by rw[<-he];exact ja.2 (.inr (.inr (.inr (.inl rfl)))));have hst:qi {M with value:=.I 0}+3<=({M with value:=.I 0}:RM).stack:=by
  rw[zS];show 3*(M.frs.length:Int)+((M.frs.flatMap fun x=>x.slots).length:Int)+3*(M.has.length:Int)+3<=M.stack;rw[id.fr,id.ha];simpa using hS
 have s2:=s1.push (E:=[i]) (i:=i) (o:=o) ⟨fun k e=>(by cases e;exact hi),fun k e=>(by cases e;simp),trivial⟩ ho hk hst;have ec:C.cd=A i:=by rw[s.cd,he];rfl
 rw[show Ql {C with va:=1} C.cd (jA A o)=Ql {C with va:=1} (A i) (jA A o) from congrArg (fun z=>Ql {C with va:=1} z (jA A o)) ec];have hroots:∀v,v∈jr (Jv M bu)->v∈jr (QR {M with value:=.I 0} (.P i))\/v=.I 0:=fun v hv=>by
  rcases ja.1 hv with⟨k,q1,q2⟩|⟨x,q1,q2⟩|q|q|q
  ·exact .inr q2
  ·refine .inl (ja.2 (.inr (.inl ⟨x,?_,q2⟩)))
   show x∈M.frs++[RFm.mk (.P i) 0 []];rw[id.fr,<-he];exact q1
  ·exact .inl (ja.2 (.inr (.inr (.inl q))))
  ·exact .inl (ja.2 (.inr (.inr (.inr (.inl q)))))
  ·exact .inr q
 have efr:(Jv M bu).frs=(QR {M with value:=.I 0} (.P i)).frs:=by
  show[RFm.mk M.entry 0 []]=M.frs++[RFm.mk (.P i) 0 []];rw[id.fr,he];rfl
 have eha:(Jv M bu).has=(QR {M with value:=.I 0} (.P i)).has:=id.ha.symm;exact{s2 with
  rt:=fun k hk=>by
   rcases hroots _ hk with q|q
   ·exact s2.rt k q
   ·cases q
  wr:=fun v hv=>by
   rcases hroots _ hv with q|q
   ·exact s2.wr v q
   ·rw[q];exact⟨by decide,by decide⟩
  rg:=fun k hk=>by
   have:=s.rg k hk;rw[id.rg k hk] at this;exact this
  fr:=by rw[efr];exact s2.fr
  sl:=by rw[efr];exact s2.sl
  ha:=by rw[eha];exact s2.ha
  pl:=by rw[efr];exact s2.pl
  hf:=by rw[efr,eha];exact s2.hf
  hp:=by rw[eha];exact s2.hp
  hs:=by rw[eha];exact s2.hs
  ft:=by
   have:=s2.ft;rw[zS] at this ⊢;rw[efr,eha];exact this}
theorem Usd.begin (u:Usd M E) (bu:Int):Usd (Jv M bu) E:=
 u.of rfl rfl fun v hv=>by
  rcases ja.1 hv with⟨k,q1,q2⟩|⟨x,q1,q2⟩|q|q|q
  ·exact .inr fun k e=>by rw[e] at q2;cases q2
  ·left
   obtain rfl:=List.mem_singleton.1 q1;rcases q2 with q2|q2
   ·exact ja.2 (.inr (.inr (.inr (.inl q2))))
   ·cases q2
  ·exact .inl (ja.2 (.inr (.inr (.inl q))))
  ·exact .inl (ja.2 (.inr (.inr (.inr (.inl q)))))
  ·exact .inr fun k e=>by rw[e] at q;cases q
end
def txN (l:jV):Nat:=if l.kd=2 then 1 else 0
def JL (m0 nc t:Nat) (gl:Nat->RWd) (l:jV):RWd:=if l.kd=2 then .P (m0+nc+t) else if l.kd=3 then .P (m0+l.n.toNat) else if l.kd=4 then gl l.n.toNat else .I (W l.num)
def qf (m0 nc:Nat) (gl:Nat->RWd):Nat->List jV->List RWd
 |_,[]=>[]
 |t,l::r=>JL m0 nc t gl l::qf m0 nc gl (t+txN l) r
def jI:List jV->List ByteArray
 |[]=>[]
 |l::r=>if l.kd=2 then l.tx::jI r else jI r
def zE (m0 nc:Nat) (gl:Nat->RWd):Nat->List jn->List RObj
 |_,[]=>[]
 |t,c::r=>⟨5,qf m0 nc gl t c.ls,⟨#[]⟩,c.ins⟩::zE m0 nc gl (t+(jI c.ls).length) r
def ju (l:List jn):List ByteArray:=l.flatMap fun c=>jI c.ls
def j9 (m0:Nat) (gl:Nat->RWd) (l:List jn):List RObj:=zE m0 l.length gl 0 l++(ju l).map fun t=>⟨4,[],t,[]⟩
noncomputable def Z9 (M:RM) (l:List jn):RM×Int:=
 if zu l≠0 then(M,zu l) else
 if(jz {M with entry:=.I 0,value:=.I 0} (jg l)).2=false then((jz {M with entry:=.I 0,value:=.I 0} (jg l)).1,21) else
 ({(jz {M with entry:=.I 0,value:=.I 0} (jg l)).1 with objs:=M.objs++j9 M.objs.length M.gl l,used:=(jz {M with entry:=.I 0,value:=.I 0} (jg l)).1.used+jg l,entry:=.P M.objs.length},0)
theorem Jy (m0 nc:Nat) (gl:Nat->RWd):∀(l:List jV) (t:Nat),(qf m0 nc gl t l).length=l.length
 |[],_=>rfl
 |l::r,t=>by show(_::qf _ _ _ _ r).length=_;rw[List.length_cons,Jy m0 nc gl r,List.length_cons]
theorem qm (m0 nc:Nat) (gl:Nat->RWd):∀(l:List jn) (t:Nat),(zE m0 nc gl t l).length=l.length
 |[],_=>rfl
 |l::r,t=>by show(_::zE _ _ _ _ r).length=_;rw[List.length_cons,qm m0 nc gl r,List.length_cons]
theorem jcX (m0:Nat) (gl:Nat->RWd) (l:List jn):(j9 m0 gl l).length=l.length+(ju l).length:=by
 unfold j9;rw[zqm,qm,List.length_map]
theorem jei (l:List jV) (x:jV):jI (l++[x])=jI l++if x.kd=2 then[x.tx] else[]:=by
 induction l with
 |nil=>show(if x.kd=2 then[x.tx] else[])=_;split<;>rfl
 |cons y t ih=>
  show(if y.kd=2 then y.tx::jI (t++[x]) else jI (t++[x]))=(if y.kd=2 then y.tx::jI t else jI t)++_;rw[ih];split<;>rfl
theorem jar (m0 nc:Nat) (gl:Nat->RWd):∀(l:List jV) (t:Nat) {k:Nat} {x:jV},l[k]?=some x->(qf m0 nc gl t l)[k]?=some (JL m0 nc (t+(jI (l.take k)).length) gl x)
 |[],_,k,x,h=>by cases h
 |y::r,t,0,x,h=>by
  obtain rfl:y=x:=by simpa using h
  rfl
 |y::r,t,k+1,x,h=>by
  have:=jar m0 nc gl r (t+txN y) (k:=k) (x:=x) (by simpa using h);show(qf m0 nc gl (t+txN y) r)[k]?=_;rw[this];show some (JL m0 nc _ gl x)=some (JL m0 nc (t+(if y.kd=2 then y.tx::jI (r.take k) else jI (r.take k)).length) gl x);unfold txN;split
  ·rw[List.length_cons,show t+1+(jI (r.take k)).length=t+((jI (r.take k)).length+1) by omega]
  ·rw[Nat.add_zero]
theorem QH (m0 nc:Nat) (gl:Nat->RWd):∀(l:List jn) (t:Nat) {k:Nat} {c:jn},l[k]?=some c->(zE m0 nc gl t l)[k]?=some ⟨5,qf m0 nc gl (t+(ju (l.take k)).length) c.ls,⟨#[]⟩,c.ins⟩
 |[],_,k,x,h=>by cases h
 |y::r,t,0,x,h=>by
  obtain rfl:y=x:=by simpa using h
  rfl
 |y::r,t,k+1,x,h=>by
  have:=QH m0 nc gl r (t+(jI y.ls).length) (k:=k) (c:=x) (by simpa using h);show(zE m0 nc gl (t+(jI y.ls).length) r)[k]?=_;rw[this];show some (RObj.mk 5 (qf m0 nc gl _ x.ls) _ _)=some (RObj.mk 5 (qf m0 nc gl (t+(ju (y::r.take k)).length) x.ls) _ _);rw[show ju (y::r.take k)=jI y.ls++ju (r.take k) from List.flatMap_cons ..,zqm,Nat.add_assoc]
theorem jlp (m0:Nat) (gl:Nat->RWd) {l:List jn} {k:Nat} {c:jn} (h:l[k]?=some c):(j9 m0 gl l)[k]?=some ⟨5,qf m0 l.length gl (ju (l.take k)).length c.ls,⟨#[]⟩,c.ins⟩:=by
 unfold j9;have:=QH m0 l.length gl l 0 h;rw[Nat.zero_add] at this;rw[zqo (zqb this).1,this]
theorem jlq (m0:Nat) (gl:Nat->RWd) (l:List jn) (t:Nat):(j9 m0 gl l)[l.length+t]?=(ju l)[t]?.map fun t=>⟨4,[],t,[]⟩:=by
 unfold j9;rw[zqn (by rw[qm];omega),qm,Nat.add_sub_cancel_left,List.getElem?_map]
section
variable {M:RM} {C:CM} {D:Nat->Prop} {f A:Nat->Nat} {E:List Nat}
def Z3 (C:CM) (os:List RObj):List Ob:=C.now++os.map (jA fun _=>0)
def fN (M:RM) (C:CM) (f:Nat->Nat) (i:Nat):Nat:=if i<M.objs.length then f i else C.now.length+(i-M.objs.length)
def QT (M:RM) (C:CM) (f:Nat->Nat) (os:List RObj) (i:Nat):Nat:=Jh (Z3 C os) C.h C.W (fN M C f i)
def jaR (M:RM) (C:CM) (f:Nat->Nat) (os:List RObj):List Ob:=C.now++os.map (jA (QT M C f os))
theorem jsK (A B:Nat->Nat) (o:RObj):(jA A o).ws.length=(jA B o).ws.length:=by
 have h1:=Qb o A;have h2:=Qb o B;omega
theorem jte (M:RM) (C:CM) (f:Nat->Nat) (os:List RObj):sz (jaR M C f os)=sz (Z3 C os):=by
 unfold jaR Z3 sz;rw[List.map_append,List.map_append,List.map_map,List.map_map];congr 1;exact List.map_congr_left fun o _=>jsK _ _ o
theorem adN (M:RM) (C:CM) (f:Nat->Nat) (os:List RObj) (p:Nat):Jh (jaR M C f os) C.h C.W p=Jh (Z3 C os) C.h C.W p:=by
 unfold Jh;rw[JI (jte M C f os)]
theorem adS (C:CM) (os:List RObj) {p:Nat} (hp:p<=C.now.length):Jh (Z3 C os) C.h C.W p=Jh C.now C.h C.W p:=by
 unfold Jh Z3;rw[Jn _ _ _ hp]
theorem Sim.aN (s:Sim M C D f A) (os:List RObj) {i:Nat} (hi:D i):QT M C f os i=A i/\fN M C f i=f i:=by
 have h1:i<M.objs.length:=s.cor.lt i hi;obtain⟨_,_,_,h3⟩:=s.ob i hi;have h2:=(zqb h3).1;have e:fN M C f i=f i:=if_pos h1;refine⟨?_,e⟩;unfold QT;rw[e,adS C os (Nat.le_of_lt h2)];exact(s.ad i).symm
theorem Sim.more (s:Sim M C D f A) (os:List RObj) (hos:∀o∈os,ObjR o/\∀v∈o.ws,Wr v/\∀k,v=.P k->D k\/(M.objs.length<=k/\k<M.objs.length+os.length)) (z:WF C.W C.h (jaR M C f os) C.old):
  Sim {M with objs:=M.objs++os} {C with now:=jaR M C f os} (fun i=>D i\/(M.objs.length<=i/\i<M.objs.length+os.length)) (fN M C f) (QT M C f os):=by
 have ha:∀i,D i->QT M C f os i=A i:=fun i hi=>(s.aN os hi).1;have hf:∀i,D i->fN M C f i=f i:=fun i hi=>(s.aN os hi).2;have hw:∀v,(∀k,v=RWd.P k->D k)->jw (QT M C f os) v=jw A v:=fun v hv=>jbl fun k e=>ha k (hv k e);have hfl:∀i,D i->f i<C.now.length:=fun i hi=>by
  obtain⟨_,_,_,h3⟩:=s.ob i hi;exact(zqb h3).1
 have hlt:∀i,D i->i<M.objs.length:=s.cor.lt;have hwr:∀v∈jr M,jw (QT M C f os) v=jw A v:=fun v hv=>hw v fun k e=>s.rt k (e▸hv);have hws:∀i,i<M.objs.length->zK (M.objs++os) i=zK M.objs i:=fun i hi=>by
  unfold zK;rw[zqo hi]
 have hwn:∀i,M.objs.length<=i->i<M.objs.length+os.length->∃o,os[i-M.objs.length]?=some o/\zK (M.objs++os) i=o.ws:=fun i h1 h2=>by
  have h3:=zqh (l:=os) (i:=i-M.objs.length) (by omega);refine⟨_,h3,?_⟩;unfold zK;rw[zqn h1,h3]
 exact{s with
  ad:=fun i=>by
   show QT M C f os i=Jh (jaR M C f os) C.h C.W (fN M C f i);rw[adN];rfl
  ob:=fun i hi=>by
   rcases hi with hi|⟨h1,h2⟩
   ·obtain⟨x,q1,q2,q3⟩:=s.ob i hi
    refine⟨x,?_,q2,?_⟩
    ·show(M.objs++os)[i]?=_
     rw[zqo (hlt i hi)];exact q1
    ·show(jaR M C f os)[fN M C f i]?=_
     unfold jaR;rw[hf i hi,zqo (hfl i hi),q3];exact congrArg some (jcd fun k hk=>(ha k (s.cl i hi k (by unfold zK;rw[q1];exact hk))).symm)
   ·obtain⟨o,q1,_⟩:=hwn i h1 h2
    refine⟨o,?_,(hos o (zqc q1)).1,?_⟩
    ·show(M.objs++os)[i]?=_
     rw[zqn h1];exact q1
    ·show(jaR M C f os)[fN M C f i]?=_
     unfold jaR fN;rw[if_neg (by omega),zqn (by omega),Nat.add_sub_cancel_left,List.getElem?_map,q1];rfl
  inj:=fun i j hi hj e=>by
   rcases hi with hi|⟨h1,h2⟩
   ·rcases hj with hj|⟨h3,h4⟩
    ·rw[hf i hi,hf j hj] at e
     exact s.inj i j hi hj e
    ·rw[hf i hi] at e
     unfold fN at e;rw[if_neg (by omega)] at e;have:=hfl i hi;omega
   ·rcases hj with hj|⟨h3,h4⟩
    ·rw[hf j hj] at e
     unfold fN at e;rw[if_neg (by omega)] at e;have:=hfl j hj;omega
    ·unfold fN at e
     rw[if_neg (by omega),if_neg (by omega)] at e;omega
  cl:=fun i hi k hk=>by
   rcases hi with hi|⟨h1,h2⟩
   ·exact .inl (s.cl i hi k (by rw[<-hws i (hlt i hi)];exact hk))
   ·obtain⟨o,q1,q2⟩:=hwn i h1 h2
    have hk':RWd.P k∈zK (M.objs++os) i:=hk;rw[q2] at hk';exact((hos o (zqc q1)).2 _ hk').2 k rfl
  rt:=fun k hk=>.inl (s.rt k hk)
  wo:=fun i hi v hv=>by
   rcases hi with hi|⟨h1,h2⟩
   ·exact s.wo i hi v (by rw[<-hws i (hlt i hi)];exact hv)
   ·obtain⟨o,q1,q2⟩:=hwn i h1 h2
    have hv':v∈zK (M.objs++os) i:=hv;rw[q2] at hv';exact((hos o (zqc q1)).2 _ hv').1
  rg:=fun k hk=>(s.rg k hk).trans (hwr (M.rg k) (ja.2 (.inl ⟨k,hk,rfl⟩))).symm
  gl:=fun k hk=>(s.gl k hk).trans (hwr (M.gl k) (ja.2 (.inr (.inr (.inl ⟨k,hk,rfl⟩))))).symm
  cd:=s.cd.trans (hwr M.entry (ja.2 (.inr (.inr (.inr (.inl rfl)))))).symm
  va:=s.va.trans (hwr M.value (ja.2 (.inr (.inr (.inr (.inr rfl)))))).symm
  fr:=by
   refine⟨s.fr.len,fun j x y hx hy=>?_⟩;obtain⟨h1,h2,h3,i,p,h4,h5,h6,h7,h8⟩:=s.fr.nth j x y hx hy;refine⟨h1.trans (hwr x.code (ja.2 (.inr (.inl ⟨x,zqc hx,.inl rfl⟩)))).symm,h2,h3,i,p,h4,?_,h6,h7,h8⟩;show(M.objs++os)[i]?=_;rw[zqo (zqb h5).1];exact h5
  sl:=by
   show C.sl=_;rw[s.sl];refine List.map_congr_left fun v hv=>?_;obtain⟨x,h1,h2⟩:=List.mem_flatMap.1 hv;exact(hwr v (ja.2 (.inr (.inl ⟨x,h1,.inr h2⟩)))).symm
  z:=z}
theorem Usd.more (u:Usd M E) (os:List RObj) (n:Int) (hn:((os.map RObj.words).sum:Int)<=n) (hos:∀o∈os,∀v∈o.ws,∀k,v=.P k->k∈E\/(M.objs.length<=k/\k<M.objs.length+os.length)):Usd {M with objs:=M.objs++os,used:=M.used+n} (E++(List.range os.length).map (fun j=>M.objs.length+j)):=by
 refine⟨?_,fun i hi=>?_,⟨fun k hk=>List.mem_append.2 (.inl (u.co.rt k hk)),fun i hi k hk=>?_⟩,?_⟩
 ·refine List.nodup_append.2 ⟨u.nd,List.Pairwise.map _ (fun a b (h:a≠b) (e:M.objs.length+a=M.objs.length+b)=>h (by omega)) List.nodup_range,fun a ha b hb e=>?_⟩
  obtain⟨j,_,rfl⟩:=List.mem_map.1 hb;have:=u.lt a ha;omega
 ·show i<(M.objs++os).length
  rw[zqm];rcases List.mem_append.1 hi with q|q
  ·have:=u.lt i q;omega
  ·obtain⟨j,hj,rfl⟩:=List.mem_map.1 q
   have:=List.mem_range.1 hj;omega
 ·have hk':RWd.P k∈zK (M.objs++os) i:=hk
  unfold zK at hk';rcases List.mem_append.1 hi with q|q
  ·rw[zqo (u.lt i q)] at hk'
   exact List.mem_append.2 (.inl (u.co.cl i q k hk'))
  ·obtain⟨j,hj,rfl⟩:=List.mem_map.1 q
   have hj:=List.mem_range.1 hj;rw[zqn (by omega),Nat.add_sub_cancel_left,zqh hj] at hk';rcases hos _ (List.getElem_mem hj) _ hk' k rfl with p|p
   ·exact List.mem_append.2 (.inl p)
   ·exact List.mem_append.2 (.inr (List.mem_map.2 ⟨k-M.objs.length,List.mem_range.2 (by omega),by omega⟩))
 ·have h1:qS (M.objs++os) (E++(List.range os.length).map fun j=>M.objs.length+j)=qS M.objs E+(os.map RObj.words).sum:=by
   have e1:qS (M.objs++os) E=qS M.objs E:=by
    unfold qS;congr 1;exact List.map_congr_left fun i hi=>by rw[zqo (u.lt i hi)]
   rw[<-e1];unfold qS;rw[List.map_append,List.sum_append];congr 2;rw[List.map_map];refine List.ext_getElem? fun j=>?_;rw[List.getElem?_map,List.getElem?_map];by_cases hj:j<os.length
   ·rw[List.getElem?_range hj,zqh hj]
    show some (((M.objs++os)[M.objs.length+j]?.map RObj.words).getD 0)=some os[j].words;rw[zqn (by omega),Nat.add_sub_cancel_left,zqh hj];rfl
   ·rw[List.getElem?_eq_none (by simp;omega),List.getElem?_eq_none (by omega)]
    rfl
  have h2:=u.us;show(qS (M.objs++os) _:Int)<=M.used+n;omega
end
def qM (A:Nat->Nat) (o:RObj) (k:Nat):Ob:=⟨5,o.ws.length,(jA A o).ws.take k++(zH 5 (o.ws.length+o.ins.length) o.ws.length).ws.drop k,0⟩
def jX (base:List Ob) (cs:List RObj) (A:Nat->Nat) (K:Nat->Nat) (tx:List ByteArray):List Ob:=base++((List.range cs.length).map fun j=>qM A (cs.getD j noR) (K j))++tx.map fun t=>zp t.data.toList
section
variable {base:List Ob} {cs:List RObj} {A:Nat->Nat} {K K':Nat->Nat} {tx:List ByteArray}
theorem Qw {o:RObj} (h5:o.k=5):(jA A o).ws.length=o.ws.length+o.ins.length:=by
 rw[zQ (by omega)];simp
theorem jil {o:RObj} (h5:o.k=5) {k:Nat}:(qM A o k).ws.length=o.ws.length+o.ins.length:=by
 unfold qM;rw[zqm,List.length_take,List.length_drop,Qw h5,Q3 (by omega)];omega
theorem jn1 (o:RObj):qM A o 0=zH 5 (o.ws.length+o.ins.length) o.ws.length:=by
 unfold qM;rw[List.take_zero,List.drop_zero,List.nil_append];rfl
theorem jqx {o:RObj} (h5:o.k=5) {k:Nat} (hk:o.ws.length+o.ins.length<=k):qM A o k=jA A o:=by
 unfold qM;rw[zqp (by rw[Qw h5];exact hk),List.drop_eq_nil_of_le (by rw[Q3 (by omega)];exact hk),List.append_nil,zQ (by omega)];simp[h5]
theorem jqy {o:RObj} (h5:o.k=5) {k x:Nat} (hx:(jA A o).ws[k]?=some x):({qM A o k with ws:=(qM A o k).ws.set k x}:Ob)=qM A o (k+1):=by
 obtain⟨h1,h2⟩:=zqb hx;have hl:=Qw (A:=A) h5;have hn:=Q3 (k:=5) (s:=o.ws.length+o.ins.length) (t:=o.ws.length) (by omega);have ht:((jA A o).ws.take k).length=k:=by rw[List.length_take];omega
 unfold qM;simp only;congr 1;rw[List.set_append_right _ _ (by omega),ht,Nat.sub_self,List.take_succ_eq_append_getElem h1,List.append_assoc,h2];congr 1;rw[List.drop_eq_getElem_cons (by omega)];rfl
theorem jeU {j:Nat} {o:RObj} (h:cs[j]?=some o):(jX base cs A K tx)[base.length+j]?=some (qM A o (K j)):=by
 have hj:=(zqb h).1;unfold jX;rw[List.append_assoc,zqn (by omega),Nat.add_sub_cancel_left,zqo (by simpa using hj),List.getElem?_map,List.getElem?_range hj];show some (qM A (cs.getD j noR) (K j))=_;rw[zqi,h];rfl
theorem jgl:(jX base cs A K tx).length=base.length+cs.length+tx.length:=by simp[jX];omega
theorem jnF {j x:Nat} {o:RObj} (h:cs[j]?=some o) (h5:o.k=5) (hx:(jA A o).ws[K j]?=some x):setF (jX base cs A K tx) (base.length+j) (K j) x=jX base cs A (jG K j (K j+1)) tx:=by
 have hj:=(zqb h).1;rw[Zk (jeU h),jqy h5 hx];unfold jX;rw[List.append_assoc,List.append_assoc,List.set_append_right _ _ (by omega),Nat.add_sub_cancel_left,List.set_append_left _ _ (by simpa using hj)];congr 2;refine List.ext_getElem? fun i=>?_;rw[List.getElem?_set,List.getElem?_map,List.getElem?_map];by_cases e:j=i
 ·subst e
  rw[if_pos rfl,if_pos (by simpa using hj),List.getElem?_range hj];show _=some (qM A (cs.getD j noR) (jG K j (K j+1) j));unfold jG;rw[if_pos rfl,zqi,h];rfl
 ·rw[if_neg e]
  cases hi:(List.range cs.length)[i]? with
  |none=>rfl
  |some q=>
   have hq:q=i:=by
    have h1:=(zqb hi);obtain⟨h2,h3⟩:=h1;rw[List.getElem_range] at h3;exact h3.symm
   subst hq;show some (qM A _ (K q))=some (qM A _ (jG K j (K j+1) q));unfold jG;rw[if_neg (fun z=>e z.symm)]
theorem jlk (t:ByteArray):jX base cs A K tx++[zp t.data.toList]=jX base cs A K (tx++[t]):=by
 unfold jX;rw[List.append_assoc,List.map_append];rfl
theorem jnE (h5:∀o∈cs,o.k=5) (hK:∀j o,cs[j]?=some o->o.ws.length+o.ins.length<=K j):jX base cs A K tx=base++(cs++tx.map fun t=>(⟨4,[],t,[]⟩:RObj)).map (jA A):=by
 unfold jX;rw[List.append_assoc,List.map_append,List.map_map];congr 2;refine List.ext_getElem? fun i=>?_;rw[List.getElem?_map,List.getElem?_map];by_cases hi:i<cs.length
 ·have h:=zqh hi
  rw[List.getElem?_range hi,h];show some (qM A (cs.getD i noR) (K i))=some _;rw[zqi,h];exact congrArg some (jqx (h5 _ (List.getElem_mem hi)) (hK i _ h))
 ·rw[List.getElem?_eq_none (by simp;omega),List.getElem?_eq_none (by omega)]
  rfl
theorem jh6 (h5:∀o∈cs,o.k=5) (B:Nat->Nat):sz (jX base cs A K tx)=sz (base++(cs++tx.map fun t=>(⟨4,[],t,[]⟩:RObj)).map (jA B)):=by
 unfold jX sz;rw[List.append_assoc,List.map_append,List.map_append,List.map_append,List.map_append,List.map_append];congr 1;congr 1
 ·refine List.ext_getElem? fun i=>?_
  rw[List.getElem?_map,List.getElem?_map,List.getElem?_map,List.getElem?_map];by_cases hi:i<cs.length
  ·have h:=zqh hi
   rw[List.getElem?_range hi,h];show some (qM A (cs.getD i noR) (K i)).ws.length=some _;rw[zqi,h];show some (qM A cs[i] (K i)).ws.length=some (jA B cs[i]).ws.length;rw[jil (h5 _ (List.getElem_mem hi)),Qw (h5 _ (List.getElem_mem hi))]
  ·rw[List.getElem?_eq_none (by simp;omega),List.getElem?_eq_none (by omega)]
   rfl
 ·rw[List.map_map,List.map_map,List.map_map]
  exact List.map_congr_left fun t _=>rfl
end
def txO (t:ByteArray):RObj:=⟨4,[],t,[]⟩
def zj (base:List Ob) (cs:List RObj) (tx:List ByteArray):List Ob:=base++(cs++tx.map txO).map (jA fun _=>0)
section
variable {base:List Ob} {cs:List RObj} {A:Nat->Nat} {K:Nat->Nat} {tx:List ByteArray}
theorem jmf (n:Nat):∃r,zj base cs tx=zj base cs (tx.take n)++r:=by
 refine⟨((tx.drop n).map txO).map (jA fun _=>0),?_⟩;unfold zj
 conv=>lhs;rw[<-List.take_append_drop n tx]
 simp only[List.map_append,List.append_assoc]
theorem jme (k:Nat):∃r,zj base cs tx=zj base (cs.take k) []++r:=by
 refine⟨((cs.drop k)++tx.map txO).map (jA fun _=>0),?_⟩;unfold zj
 conv=>lhs;rw[<-List.take_append_drop k cs]
 simp only[List.map_append,List.append_assoc,List.map_nil,List.append_nil]
theorem jdb:(zj base cs tx).length=base.length+cs.length+tx.length:=by simp[zj];omega
section
variable (h5:∀o∈cs,o.k=5)
include h5
theorem jh7 {n p:Nat} (hn:n<=tx.length) (hp:p<=base.length+cs.length+n):je (jX base cs A K (tx.take n)) p=je (zj base cs tx) p:=by
 obtain⟨r,e⟩:=jmf (base:=base) (cs:=cs) (tx:=tx) n;rw[e,Jn _ _ _ (by rw[jdb,List.length_take];omega)];exact JI (jh6 h5 _) p
theorem jsz {n:Nat} (hn:n<=tx.length):used (jX base cs A K (tx.take n))=je (zj base cs tx) (base.length+cs.length+n):=by
 have h:=jh7 (base:=base) (A:=A) (K:=K) h5 hn (zqg (base.length+cs.length+n));rw[<-h,<-qI,jgl,List.length_take,Nat.min_eq_left hn]
theorem jo2 {k p:Nat} (hk:k<=cs.length) (hp:p<=base.length+k):je (jX base (cs.take k) A K []) p=je (zj base cs tx) p:=by
 obtain⟨r,e⟩:=jme (base:=base) (cs:=cs) (tx:=tx) k;rw[e,Jn _ _ _ (by rw[jdb,List.length_take];simp;omega)];exact JI (jh6 (tx:=[]) (fun o ho=>h5 o (List.mem_of_mem_take ho)) _) p
theorem jju {k:Nat} (hk:k<=cs.length):used (jX base (cs.take k) A K [])=je (zj base cs tx) (base.length+k):=by
 rw[<-jo2 (A:=A) (K:=K) h5 hk (zqg _),<-qI,jgl,List.length_take,Nat.min_eq_left hk];rfl
end
theorem jcp {os:List Ob} {p:Nat} {o:Ob} (h:os[p]?=some o):je os (p+1)=je os p+(1+o.ws.length):=by
 obtain⟨h1,h2⟩:=zqb h;unfold je;rw[List.take_succ_eq_append_getElem h1,z6,ZD,h2]
theorem jbi (os:List Ob) {p:Nat}:je os p<=used os:=by
 unfold je
 conv=>rhs;rw[<-List.take_append_drop p os]
 rw[z6];omega
theorem jrL {k:Nat} {o:RObj} (h:cs[k]?=some o):jX base (cs.take k) A (fun _=>0) []++[zH 5 (o.ws.length+o.ins.length) o.ws.length]=jX base (cs.take (k+1)) A (fun _=>0) []:=by
 obtain⟨h1,h2⟩:=zqb h;unfold jX;rw[List.length_take,List.length_take,Nat.min_eq_left (by omega),Nat.min_eq_left (by omega),List.range_succ,List.map_append,List.map_nil,List.append_nil,List.append_nil,List.append_assoc];congr 2
 ·refine List.map_congr_left fun j hj=>?_
  have hj:=List.mem_range.1 hj;rw[zqi,zqi,List.getElem?_take,List.getElem?_take,if_pos hj,if_pos (by omega)]
 ·rw[List.map_cons,List.map_nil,zqi,List.getElem?_take,if_pos (by omega),h]
  exact congrArg (fun z=>[z]) (jn1 o).symm
end
theorem jrk {A:Nat->Nat} {ls:List RWd} {ins:List I5} {k:Nat} {v:RWd} (h:ls[k]?=some v):(jA A ⟨5,ls,⟨#[]⟩,ins⟩).ws[k]?=some (jw A v):=by
 have hk:=(zqb h).1;rw[zQ (show¬(5:Nat)=4 by decide)];show(ls.map (jw A)++ins.map JF)[k]?=_;rw[zqo (by simpa using hk),List.getElem?_map,h];rfl
theorem jrj {A:Nat->Nat} {ls:List RWd} {ins:List I5} {k:Nat} {x:I5} (h:ins[k]?=some x):(jA A ⟨5,ls,⟨#[]⟩,ins⟩).ws[ls.length+k]?=some (JF x):=by
 rw[zQ (show¬(5:Nat)=4 by decide)];show(ls.map (jw A)++ins.map JF)[_]?=_;rw[zqn (by simp),List.length_map,Nat.add_sub_cancel_left,List.getElem?_map,h];rfl
