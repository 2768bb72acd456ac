/- A part of the proof of MachineMoves. Conditions: those that each theorem names. -/
import Derived.Test.YtklcmdoadmcpfaaGreatDoorQ16
set_option maxRecDepth 100000
set_option maxHeartbeats 400000000
namespace Go.Proofs.YtklcmdoadmcpfaaGreatDoor
open Go Go.RowKit IsaL
open Go.Lib(hid)
open Go.Proofs.Tryz(prog)
def Qn (f:Nat->Nat):Nat->List Nat
 |0=>[]
 |n+1=>Qn f n++if jf (f n:Int) then[f n] else[]
def qO (C:CM) (i:Nat):Nat:=C.sl.getD i 0
def j8 (C:CM):List Nat:=Qn C.rg 16++Qn (qO C) C.sl.length++Qn C.gl C.us++(C.fr.map fun x=>x.code)++(if jf (C.cd:Int) then[C.cd] else[])++if jf (C.va:Int) then[C.va] else[]
theorem jaQ {f:Nat->Nat} {x:Nat}:∀{n:Nat},x∈Qn f n↔ ∃k,k<n/\jf (f k:Int)=true/\x=f k
 |0=>by simp[Qn]
 |n+1=>by
  have ih:=jaQ (f:=f) (x:=x) (n:=n);show x∈Qn f n++_↔_;rw[List.mem_append,ih];constructor
  ·rintro(⟨k,h1,h2,h3⟩|h)
   ·exact⟨k,by omega,h2,h3⟩
   ·split at h
    ·rename_i q
     exact⟨n,by omega,q,List.mem_singleton.1 h⟩
    ·cases h
  ·rintro⟨k,h1,h2,h3⟩
   by_cases e:k=n
   ·subst e
    right;rw[if_pos h2,h3];simp
   ·exact .inl ⟨k,by omega,h2,h3⟩
def QI (C:CM) (met:List Nat):CM:=
 {C with h:=1-C.h,now:=JG C.h C.W C.now met,old:=ze (1-C.h) C.W C.now met met,rg:=fun k=>if k<16 then zx C.h C.W C.now met (C.rg k) else C.rg k,gl:=fun k=>if k<C.us then zx C.h C.W C.now met (C.gl k) else C.gl k,sl:=C.sl.map (zx C.h C.W C.now met),cd:=zx C.h C.W C.now met C.cd,va:=zx C.h C.W C.now met C.va,fr:=C.fr.map fun x=>{x with code:=zx C.h C.W C.now met x.code}}
theorem joS (h W:Nat) (os:List Ob) (met:List Nat) (hl:∀j∈met,j<os.length):used (JG h W os met)=qt os met:=by
 rw[jcv (jj4 h W os met)];induction met with
 |nil=>rfl
 |cons j l ih=>
  have h1:=jaS (hl j (by simp));have h2:=ih (fun k hk=>hl k (List.mem_cons_of_mem _ hk));unfold zJ qt used at h2 ⊢;rw[List.map_cons,List.map_cons,List.map_cons,List.sum_cons,List.sum_cons,h2,h1];rfl
section
variable {M:RM} {C:CM} {D:Nat->Prop} {f A:Nat->Nat}
theorem ja {v:RWd}:v∈jr M↔(∃k,k<16/\v=M.rg k)\/(∃x∈M.frs,v=x.code\/v∈x.slots)\/(∃k,k<1024/\v=M.gl k)\/v=M.entry\/v=M.value:=by
 unfold jr;simp only[List.mem_append,List.mem_map,List.mem_range,List.mem_flatMap,List.mem_cons,List.not_mem_nil,or_false];constructor
 ·rintro(((⟨k,h1,h2⟩|h)|⟨k,h1,h2⟩)|h)
  ·exact .inl ⟨k,h1,h2.symm⟩
  ·exact .inr (.inl h)
  ·exact .inr (.inr (.inl ⟨k,h1,h2.symm⟩))
  ·exact .inr (.inr (.inr h))
 ·rintro(⟨k,h1,h2⟩|h|⟨k,h1,h2⟩|h)
  ·exact .inl (.inl (.inl ⟨k,h1,h2.symm⟩))
  ·exact .inl (.inl (.inr h))
  ·exact .inl (.inr ⟨k,h1,h2.symm⟩)
  ·exact .inr h
theorem Sim.ptr (s:Sim M C D f A) {i:Nat} (hi:D i):jf (A i:Int)=true:=by
 obtain⟨o,_,_,h3⟩:=s.ob i hi;obtain⟨_,h1,h2,h4⟩:=jbz s.z (zqb h3).1;rw[s.ad i];exact Zw.2 ⟨by omega,by omega,by omega⟩
theorem FrS.code {os:List RObj} {F:List RFm} {fr:List Fm} (h:FrS A os F fr):(fr.map fun x=>x.code)=F.map fun x=>jw A x.code:=by
 apply List.ext_getElem?;intro j;rw[List.getElem?_map,List.getElem?_map];cases e:F[j]? with
 |none=>
  have:fr[j]?=none:=List.getElem?_eq_none (by rw[h.len];exact List.getElem?_eq_none_iff.1 e);rw[this];rfl
 |some x=>
  have hj:j<fr.length:=by rw[h.len];exact(zqb e).1
  rw[zqh hj];show some fr[j].code=some (jw A x.code);rw[(h.nth j x _ e (zqh hj)).1]
theorem Sim.roots (s:Sim M C D f A):(∀n∈j8 C,n∈(jr M).map (jw A))/\∀n∈(jr M).map (jw A),n%2=1\/n∈j8 C:=by
 have hu:=s.ul;have hslots:∀n,n∈C.sl↔ ∃x∈M.frs,∃v∈x.slots,jw A v=n:=fun n=>by
  rw[s.sl];simp only[List.mem_map,List.mem_flatMap];constructor
  ·rintro⟨v,⟨x,h1,h2⟩,h3⟩;exact⟨x,h1,v,h2,h3⟩
  ·rintro⟨x,h1,v,h2,h3⟩;exact⟨v,⟨x,h1,h2⟩,h3⟩
 have hin:∀v,v∈jr M->jw A v∈(jr M).map (jw A):=fun v hv=>List.mem_map.2 ⟨v,hv,rfl⟩;constructor
 ·intro n hn
  unfold j8 at hn;simp only[List.mem_append,jaQ] at hn;rcases hn with((((⟨k,h1,h2,h3⟩|⟨k,h1,h2,h3⟩)|⟨k,h1,h2,h3⟩)|h)|h)|h
  ·rw[h3,s.rg k h1];exact hin _ (ja.2 (.inl ⟨k,h1,rfl⟩))
  ·have:n∈C.sl:=by
    rw[h3];unfold qO;rw[zqi,zqh h1];exact List.getElem_mem h1
   obtain⟨x,g1,v,g2,g3⟩:=(hslots n).1 this;rw[<-g3];exact hin _ (ja.2 (.inr (.inl ⟨x,g1,.inr g2⟩)))
  ·rw[h3,s.gl k (by omega)];exact hin _ (ja.2 (.inr (.inr (.inl ⟨k,by omega,rfl⟩))))
  ·rw[s.fr.code] at h
   obtain⟨x,g1,g2⟩:=List.mem_map.1 h;rw[<-g2];exact hin _ (ja.2 (.inr (.inl ⟨x,g1,.inl rfl⟩)))
  ·split at h
   ·rw[List.mem_singleton.1 h,s.cd];exact hin _ (ja.2 (.inr (.inr (.inr (.inl rfl)))))
   ·cases h
  ·split at h
   ·rw[List.mem_singleton.1 h,s.va];exact hin _ (ja.2 (.inr (.inr (.inr (.inr rfl)))))
   ·cases h
 ·intro n hn
  obtain⟨v,hv,rfl⟩:=List.mem_map.1 hn;cases v with
  |I m=>exact .inl (Zl A m)
  |P i=>
   right;have hp:jf (jw A (.P i):Int)=true:=s.ptr (s.rt i hv);unfold j8;simp only[List.mem_append,jaQ];rcases ja.1 hv with⟨k,h1,h2⟩|⟨x,h1,h2|h2⟩|⟨k,h1,h2⟩|h2|h2
   ·refine .inl (.inl (.inl (.inl (.inl ⟨k,h1,?_,?_⟩))))
    ·rw[s.rg k h1,<-h2];exact hp
    ·rw[s.rg k h1,<-h2]
   ·refine .inl (.inl (.inr ?_))
    rw[s.fr.code];exact List.mem_map.2 ⟨x,h1,by rw[h2]⟩
   ·have:jw A (.P i)∈C.sl:=(hslots _).2 ⟨x,h1,_,h2,rfl⟩
    obtain⟨k,hk⟩:=List.getElem?_of_mem this;have e:qO C k=jw A (.P i):=by
     unfold qO;rw[zqi,hk];rfl
    refine .inl (.inl (.inl (.inl (.inr ⟨k,(zqb hk).1,?_,?_⟩))))
    ·rw[e];exact hp
    ·rw[e]
   ·have hk:k<C.us:=by
     refine Decidable.byContradiction fun q=>?_;rw[s.us k (by omega) h1] at h2;cases h2
    refine .inl (.inl (.inl (.inr ⟨k,hk,?_,?_⟩)))
    ·rw[s.gl k h1,<-h2];exact hp
    ·rw[s.gl k h1,<-h2]
   ·refine .inl (.inr ?_)
    have e:C.cd=jw A (.P i):=by rw[s.cd,<-h2]
    rw[e,if_pos hp];simp
   ·refine .inr ?_
    have e:C.va=jw A (.P i):=by rw[s.va,<-h2]
    rw[e,if_pos hp];simp
theorem Sim.coll (s:Sim M C D f A):∃met,zg C.now C.h C.W (j8 C)=some met/\qt C.now met=Jp M∧
  (WF C.W (1-C.h) (JG C.h C.W C.now met) (ze (1-C.h) C.W C.now met met)->∃D' f' A',(∀i,D' i->D i)/\Sim M (QI C met) D' f' A'):=by
 obtain⟨r1,r2⟩:=s.roots;obtain⟨met,e1,e2,e3,e4⟩:=s.live r1 r2;obtain⟨g1,g2⟩:=ZI e1;have ok:=Jb e1;have co:=s.cor;refine⟨met,e1,e2,fun z'=>?_⟩;have hA:∀i,D i->f i∈met->zx C.h C.W C.now met (A i)=Jh (JG C.h C.W C.now met) (1-C.h) C.W (met.idxOf (f i)):=fun i hi hm=>by
  rw[jec (co.ev i hi) (co.hit i hi)];unfold Jh JC;rw[JI (jj4 C.h C.W C.now met)]
 obtain⟨A',hA'⟩:∃A':Nat->Nat,A'=fun i=>Jh (JG C.h C.W C.now met) (1-C.h) C.W (met.idxOf (f i)):=⟨_,rfl⟩;have hw:∀v,(∀k,v=RWd.P k->D k/\f k∈met)->zx C.h C.W C.now met (jw A v)=jw A' v:=fun v hv=>by
  cases v with
  |I n=>exact jeb (Zl A n)
  |P k=>
   obtain⟨h1,h2⟩:=hv k rfl;rw[hA'];exact hA k h1 h2
 have hcl:∀i,D i->f i∈met->∀k,RWd.P k∈zK M.objs i->D k/\f k∈met:=fun i hi hm k hk=>by
  have hd:=s.cl i hi k hk;refine⟨hd,?_⟩;have:=g2 (f i) hm (A k) (by rw[co.fld i hi];exact List.mem_map.2 ⟨_,hk,rfl⟩);rcases this with q|⟨q,j,e,hj⟩
  ·exact absurd q (co.ev k hd)
  ·rw[co.hit k hd] at e
   rw[zqd e];exact hj
 have hrt:∀v∈jr M,∀k,v=RWd.P k->D k/\f k∈met:=fun v hv k e=>by
  subst e;exact⟨s.rt k hv,e3 k hv⟩
 refine⟨fun i=>D i/\f i∈met,fun i=>met.idxOf (f i),A',fun i hi=>hi.1,?_⟩;refine⟨fun i=>by rw[hA'];rfl,fun i hi=>?_,fun i j hi hj e=>?_,fun i hi k hk=>hcl i hi.1 hi.2 k hk,fun k hk=>hrt _ hk k rfl,s.wr,fun i hi=>s.wo i hi.1,fun k hk=>?_,fun k hk=>?_,s.us,?_,?_,?_,?_,s.ha,s.lim,s.stk,s.ul,s.s1,s.pl,s.hf,s.hp,s.hs,s.ft,z'⟩
 ·obtain⟨o,h1,h2,h3⟩:=s.ob i hi.1
  refine⟨o,h1,h2,?_⟩;obtain⟨p,hp⟩:=List.getElem?_of_mem hi.2;rw[ja4 ok.nd hp];show(JG C.h C.W C.now met)[p]?=_;rw[McG.jqj hp,jsL h3];unfold qB;rw[h2.tag];have hm:(o.ws.map (jw A)).map (zx C.h C.W C.now met)=o.ws.map (jw A'):=by
   rw[List.map_map];refine List.map_congr_left fun v hv=>hw v fun k e=>hcl i hi.1 hi.2 k ?_;unfold zK;rw[h1];exact e▸hv
  rw[hm];unfold jA;by_cases e:o.k=4
  ·rw[if_pos e,if_pos e]
   have:o.ws=[]:=by
    rcases h2.kd with⟨q,_⟩|⟨_,q,_⟩|⟨q,_⟩
    ·omega
    ·exact q
    ·omega
   rw[this];rfl
  ·rw[if_neg e,if_neg e]
   show some (Ob.mk _ _ (_++(o.ws.map (jw A)++o.ins.map JF).drop o.ws.length) _)=_;rw[show(o.ws.map (jw A)++o.ins.map JF).drop o.ws.length=o.ins.map JF from by
    rw[List.drop_append_of_le_length (by simp),List.drop_eq_nil_of_le (by simp)];rfl]
 ·refine s.inj i j hi.1 hj.1 ?_
  obtain⟨p,hp⟩:=List.getElem?_of_mem hi.2;obtain⟨q,hq⟩:=List.getElem?_of_mem hj.2;rw[ja4 ok.nd hp,ja4 ok.nd hq] at e;subst e;rw[hp] at hq;exact zqd hq
 ·show(if k<16 then zx _ _ _ _ (C.rg k) else _)=_
  rw[if_pos hk,s.rg k hk];exact hw _ (hrt _ (ja.2 (.inl ⟨k,hk,rfl⟩)))
 ·show(if k<C.us then zx _ _ _ _ (C.gl k) else _)=_
  by_cases q:k<C.us
  ·rw[if_pos q,s.gl k hk]
   exact hw _ (hrt _ (ja.2 (.inr (.inr (.inl ⟨k,hk,rfl⟩)))))
  ·rw[if_neg q,s.gl k hk,s.us k (by omega) hk]
   rfl
 ·show zx _ _ _ _ C.cd=_
  rw[s.cd];exact hw _ (hrt _ (ja.2 (.inr (.inr (.inr (.inl rfl))))))
 ·show zx _ _ _ _ C.va=_
  rw[s.va];exact hw _ (hrt _ (ja.2 (.inr (.inr (.inr (.inr rfl))))))
 ·refine⟨by rw[<-s.fr.len];exact List.length_map _,fun j x y hx hy=>?_⟩
  rw[show(QI C met).fr[j]?=(C.fr[j]?).map _ from List.getElem?_map] at hy;obtain⟨y0,h1,h2⟩:=Option.map_eq_some_iff.1 hy;obtain⟨k1,k2,k3,k4⟩:=s.fr.nth j x y0 hx h1;subst h2;refine⟨?_,k2,k3,k4⟩;show zx _ _ _ _ y0.code=_;rw[k1];exact hw _ (hrt _ (ja.2 (.inr (.inl ⟨x,zqc hx,.inl rfl⟩))))
 ·show C.sl.map _=_
  rw[s.sl,List.map_map];refine List.map_congr_left fun v hv=>hw v (hrt v ?_);obtain⟨x,h1,h2⟩:=List.mem_flatMap.1 hv;exact ja.2 (.inr (.inl ⟨x,h1,.inr h2⟩))
end
section
open Go Go.RowKit
theorem jo5 (a b c:Value) (W:World):(Instr.index 172 (.agg #[a,b,c]) (.int .i64 0)).run prog W=.ok a W/\(Instr.index 172 (.agg #[a,b,c]) (.int .i64 1)).run prog W=.ok b W/\(Instr.index 172 (.agg #[a,b,c]) (.int .i64 2)).run prog W=.ok c W:=⟨by kernel_rfl,by kernel_rfl,by kernel_rfl⟩
theorem jtG (a b:Value) (W:World):(Instr.index 173 (.agg #[a,b]) (.int .i64 0)).run prog W=.ok a W/\(Instr.index 173 (.agg #[a,b]) (.int .i64 1)).run prog W=.ok b W:=⟨by kernel_rfl,by kernel_rfl⟩
end
def qo (B off:Nat) (f:Nat->Nat):Nat->List (Nat×Nat)
 |0=>[]
 |n+1=>qo B off f n++if jf (f n:Int) then[(B,off+n)] else[]
def Za (B:Nat):Nat->List (Nat×Nat)
 |0=>[]
 |n+1=>Za B n++[(B,n*5)]
def Zs (C:CM) (g:Nat):Nat->List (Nat×Nat)
 |0=>[]
 |1=>if jf (C.cd:Int) then[(g,1043)] else[]
 |_=>(if jf (C.cd:Int) then[(g,1043)] else[])++if jf (C.va:Int) then[(g,1044)] else[]
def rA0 (C:CM) (g:Nat):List (Nat×Nat):=qo g 2 C.rg 16
def rA1 (C:CM) (g sb:Nat):List (Nat×Nat):=rA0 C g++qo sb 0 (qO C) C.sl.length
def rA2 (C:CM) (g sb:Nat):List (Nat×Nat):=rA1 C g sb++qo g 18 C.gl C.us
def rA3 (C:CM) (g fb sb:Nat):List (Nat×Nat):=rA2 C g sb++Za fb C.fr.length
def zd (C:CM) (g fb sb:Nat):List (Nat×Nat):=rA3 C g fb sb++Zs C g 2
theorem je5 (B off:Nat) (f:Nat->Nat) {j:Nat} (hp:jf (f j:Int)=true):∀{n:Nat},j<n->∃r,qo B off f n=qo B off f (j+1)++r
 |0,h=>absurd h (by omega)
 |n+1,h=>by
  by_cases e:j=n
  ·subst e;exact⟨[],by simp⟩
  ·obtain⟨r,hr⟩:=je5 B off f hp (n:=n) (by omega)
   exact⟨r++if jf (f n:Int) then[(B,off+n)] else[],by show qo B off f n++_=_;rw[hr,List.append_assoc]⟩
theorem je6 (B:Nat) {j:Nat}:∀{n:Nat},j<n->∃r,Za B n=Za B (j+1)++r
 |0,h=>absurd h (by omega)
 |n+1,h=>by
  by_cases e:j=n
  ·subst e;exact⟨[],by simp⟩
  ·obtain⟨r,hr⟩:=je6 B (n:=n) (j:=j) (by omega)
   exact⟨r++[(B,n*5)],by show Za B n++_=_;rw[hr,List.append_assoc]⟩
structure OkW (C:CM):Prop where
 rg:∀k,k<16->C.rg k<18446744073709551616
 gl:∀k,k<1024->C.gl k<18446744073709551616
 sl:∀k,k<C.sl.length->qO C k<18446744073709551616
 cd:C.cd<18446744073709551616
 va:C.va<18446744073709551616
structure ShC (C C1:CM):Prop where
 rg:∀k,k<16->jf (C1.rg k:Int)=jf (C.rg k:Int)
 gl:∀k,k<C.us->jf (C1.gl k:Int)=jf (C.gl k:Int)
 sl:∀k,k<C.sl.length->jf (qO C1 k:Int)=jf (qO C k:Int)
 cd:jf (C1.cd:Int)=jf (C.cd:Int)
 va:jf (C1.va:Int)=jf (C.va:Int)
 us:C1.us=C.us
 ls:C1.sl.length=C.sl.length
 lf:C1.fr.length=C.fr.length
theorem ShC.refl (C:CM):ShC C C:=⟨fun _ _=>rfl,fun _ _=>rfl,fun _ _=>rfl,rfl,rfl,rfl,rfl,rfl⟩
def MB (O:Nat->Prop) (g b Bs:Nat) (C:CM) (R:Nat->Value) (vf vs vh:Value) (W:World):Prop:=
 Boxed W Bs 28 (.pointer (some ⟨g,0,none⟩))/\∃C1,McAt O W g C1 b R vf vs vh/\ShC C C1/\OkW C1
def jan (O:Nat->Prop) (g b Bs:Nat) (C:CM) (R:Nat->Value) (vf vs vh:Value) (A B:World):Prop:=MB O g b Bs C R vf vs vh A->MB O g b Bs C R vf vs vh B
theorem MB.drewN {O:Nat->Prop} {g b Bs:Nat} {C:CM} {R:Nat->Value} {vf vs vh:Value} {W:World} (h:MB O g b Bs C R vf vs vh W) (n:Nat):MB O g b Bs C R vf vs vh (W.drewN n):=by
 obtain⟨h1,C1,h2,h3⟩:=h;exact⟨h1,C1,h2.drewN n,h3⟩
def jg7 (MBw:World->Prop) (A:Option Addr) (n:Nat) (f:Nat->Nat) (B off:Nat):Prop:=
 ∀W,MBw W->∀i,i<n->A=some ⟨B,off,none⟩/\∃x:Nat,W.cell? ⟨B,off+i,none⟩=some (.int .u64 (x:Int))/\x<18446744073709551616/\jf (x:Int)=jf (f i:Int)
section
variable {O:Nat->Prop} {g b Bs:Nat} {C:CM} {R:Nat->Value} {vf vs vh:Value}
theorem jqQ:jg7 (MB O g b Bs C R vf vs vh) (some ⟨g,2,none⟩) 16 C.rg g 2:=fun _ ⟨_,C1,h2,h3,h4⟩ i hi=>⟨rfl,C1.rg i,h2.regc hi,h4.rg i hi,h3.rg i hi⟩
theorem joq (hu:C.us<=1024):jg7 (MB O g b Bs C R vf vs vh) (some ⟨g,18,none⟩) C.us C.gl g 18:=fun _ ⟨_,C1,h2,h3,h4⟩ i hi=>⟨rfl,C1.gl i,h2.globc (by omega),h4.gl i (by omega),h3.gl i hi⟩
theorem jos {A:Option Addr} {n c sb:Nat} (hv:vs=.slice A n c) (hb:∀i,vs.ownBlock=some i->i=sb) (hn:n=C.sl.length):jg7 (MB O g b Bs C R vf vs vh) A n (qO C) sb 0:=fun _ ⟨_,C1,h2,h3,h4⟩ i hi=>by
 subst hn;have hl:0<C1.sl.length:=by rw[h3.ls];omega
 obtain⟨q,c',e,_⟩:=h2.os.form hl;rw[hv] at e;injection e with e1 e2 e3;subst e1;have hq:=hb q (by rw[hv];rfl);subst hq;have hof:=h2.os;rw[hv,<-h3.ls] at hof;have hi':i<C1.sl.length:=by rw[h3.ls];exact hi
 refine⟨rfl,qO C1 i,?_,h4.sl i hi',h3.sl i hi⟩;rw[Nat.zero_add,hof.cellAt i (by omega)];unfold u64s qO;rw[List.getElem?_map,zqi,zqh hi'];rfl
end
def stA (C:CM) (g sb:Nat):Nat->List (Nat×Nat)
 |0=>[]
 |1=>rA0 C g
 |2=>rA1 C g sb
 |_=>rA2 C g sb
theorem jfp {x:Nat} (hx:x<18446744073709551616) {r:Bool} (hr:jf (x:Int)=r) (Y:World):Calls prog 51 #[.int .u64 (x:Int)] Y fun e w'=>e=.returned (.bool r)/\Y=w':=by
 subst hr;exact QW (x:Int) Y (by omega) (by omega)
section
variable {O:Nat->Prop} {g b Bs fb sb:Nat} {C:CM} {R:Nat->Value} {vf vs vh:Value}
theorem jop (n:Nat) (hn:1<=n) (l:Nat) (hu:C.us<=1024) (hl1:C.fr.length<=65536) (hl2:C.sl.length<=65536) (hfb:∀i,vf.ownBlock=some i->i=fb) (hsb:∀i,vs.ownBlock=some i->i=sb)
  (J Jx:List (Nat×Nat)->World->Prop) (hJ:∀pre (W1:World) k,J pre W1->J pre (W1.drewN k))
  (hY:∀pre x r W1,J pre W1->zd C g fb sb=pre++x::r->YieldAt Fence.wide (n-1) prog l #[.pointer (some ⟨x.1,x.2,none⟩)] W1 fun e W'=>
   (e=.returned (.bool true)/\J (pre++[x]) W'/\jan O g b Bs C R vf vs vh W1 W')\/(e=.returned (.bool false)/\Jx (pre++[x]) W'))
  (W0:World) (hM:MB O g b Bs C R vf vs vh W0) (h0:J [] W0):
  CallsIn Fence.wide n prog 111 #[.func (.yield l) #[] #[],.pointer (some ⟨Bs,0,none⟩)] W0 fun e W'=>(∃v,e=.returned v)/\(J (zd C g fb sb) W'\/∃pre,Jx pre W'):=by
 refine callsIn_of_wp Tryz.func111 rfl trivial ?_ rfl;simp only[Tryz.ntmps111,List.size_toArray,List.length_cons,List.length_nil,Nat.reduceAdd,Nat.reduceSub,Array.replicate_succ,Array.replicate_zero,List.push_toArray,List.append_toArray,List.nil_append,List.cons_append];have HM:=hid (zqf hM h0);have HJ:=hid hJ;have HY:=hid hY;obtain⟨hB0,C0,a0,s0,k0⟩:=hM;have cB:=hB0.cell;obtain⟨A1,c1,e1,_⟩:=jH a0.of;obtain⟨A2,c2,e2,hk2⟩:=jH a0.os;have x6:=a0.cs;rw[e2] at x6;have x2:=a0.cus;rw[s0.us] at x2;have hpn:((some (⟨g,0,none⟩:Addr))==none)=false:=rfl;obtain⟨F,hF⟩:∃F,C0.fr.length=F:=⟨_,rfl⟩;obtain⟨L,hL⟩:∃L,C0.sl.length=L:=⟨_,rfl⟩;obtain⟨U,hU⟩:∃U,C.us=U:=⟨_,rfl⟩;rw[hF] at e1;rw[hL] at e2 x6 hk2;rw[hU] at x2;have hU1:(U:Int)<=1024:=by have:=hU▸hu;omega
 have hU0:(0:Int)<=(U:Int):=by omega
 have HIX:Hid (∀k:Nat,k<3->∃(A:Option Addr) (m c:Nat) (f:Nat->Nat) (B off:Nat),(∀W,(Instr.index 172 (.agg #[.slice (some ⟨g,2,none⟩) 16 16,.slice A2 L c2,.slice (some ⟨g,18,none⟩) U 1024]) (.int .i64 (k:Int))).run prog W=.ok (.slice A m c) W)/\jg7 (MB O g b Bs C R vf vs vh) A m f B off/\m<=65536/\stA C g sb (k+1)=stA C g sb k++qo B off f m/\∃r,zd C g fb sb=stA C g sb (k+1)++r):=by
  refine hid fun k hk=>?_;rcases(show k=0\/k=1\/k=2 by omega) with rfl|rfl|rfl
  ·exact⟨_,_,_,C.rg,g,2,fun W=>(jo5 _ _ _ W).1,jqQ,by omega,rfl,_,by show zd C g fb sb=rA0 C g++_;unfold zd rA3 rA2 rA1;simp only[List.append_assoc];rfl⟩
  ·exact⟨_,_,_,qO C,sb,0,fun W=>(jo5 _ _ _ W).2.1,jos e2 hsb (by rw[<-hL,s0.ls]),by rw[<-hL,s0.ls];exact hl2,by show rA1 C g sb=rA0 C g++_;unfold rA1;rw[<-hL,s0.ls],_,by show zd C g fb sb=rA1 C g sb++_;unfold zd rA3 rA2;simp only[List.append_assoc];rfl⟩
  ·exact⟨_,_,_,C.gl,g,18,fun W=>(jo5 _ _ _ W).2.2,by rw[<-hU];exact joq hu,by omega,by show rA2 C g sb=rA1 C g sb++_;unfold rA2;rw[hU],_,by show zd C g fb sb=rA2 C g sb++_;unfold zd rA3;simp only[List.append_assoc];rfl⟩
 have HFR:Hid (F=C.fr.length/\vf=.slice A1 F c1/\F<=65536):=hid ⟨by rw[<-hF,s0.lf],e1,by rw[<-hF,s0.lf];exact hl1⟩;have HFB:=hid hfb;clear h0 hJ hY hB0 a0 s0 k0 e1 e2 hk2 hF hL hU hu hl1 hl2 hfb hsb;gi_wp2_with fail;refine wpIn_wide.2 ?_;go_quiet (fail);have HS:Hid (J (stA C g sb 0) (W0.drewN nq)/\MB O g b Bs C R vf vs vh (W0.drewN nq)):=hid ⟨HJ.out _ _ _ HM.out.2,HM.out.1.drewN _⟩;generalize W0.drewN nq=W1 at HS ⊢;clear cB x6 x2 HM;gi_wp2_with fail;gi_loopw [27] (fun i wr=>∃k:Nat,k<=3/\i=.int .i64 k/\J (stA C g sb k) wr/\MB O g b Bs C R vf vs vh wr) (fun i _=>3-(intOf i).toNat)
 case atStart=>exact⟨0,Nat.zero_le _,rfl,HS.out⟩
 case round=>
  obtain⟨k,hk,rfl,hj0,hm0⟩:=hrel;have HK:=hid (zqf hj0 hm0);clear hj0 hm0 HS;by_cases h3:k<3
  ·obtain⟨A,m,c,f,B,off,hix,hrow,hm,hst,hpre⟩:=HIX.out k h3
   have HR1:=hid (zqf hrow (zqf hst hpre));have b0:(0:Int)<=(k:Int):=by omega
   have b1:(k:Int)<3:=by omega
   have HK1:=hid (show J (stA C g sb k++qo B off f 0) wr/\MB O g b Bs C R vf vs vh wr from by rw[show qo B off f 0=[] from rfl,List.append_nil];exact HK.out);have HKL:=hid h3;clear hrow hst hpre HK h3;gi_wp2_with fail;gi_loopw [32] (fun i wr=>∃j:Nat,j<=m/\i=.int .i64 j/\J (stA C g sb k++qo B off f j) wr/\MB O g b Bs C R vf vs vh wr) (fun i _=>m-(intOf i).toNat)
   case atStart=>exact⟨0,Nat.zero_le _,rfl,HK1.out⟩
   case round=>
    obtain⟨j,hjm,rfl,hj1,hm1⟩:=hrel;have HKJ:=hid (zqf hj1 hm1);clear hj1 hm1 HK1;by_cases hlt:j<m
    ·obtain⟨hA,x,hc,hx,hp⟩:=HR1.out.1 _ HKJ.out.2 j hlt
     subst hA;have d0:(0:Int)<=(j:Int):=by omega
     have d1:(j:Int)<(m:Int):=by omega
     have HLT:=hid hlt;cases hpb:jf (f j:Int) with
     |true=>
      rw[hpb] at hp;have HI:=hid (jfp hx hp);have hsp:∃r,zd C g fb sb=(stA C g sb k++qo B off f j)++(B,off+j)::r:=by
       obtain⟨r1,q1⟩:=je5 B off f hpb hlt;obtain⟨r2,q2⟩:=HR1.out.2.2;refine⟨r1++r2,?_⟩;rw[q2,HR1.out.2.1,q1];show(_++((qo B off f j++if jf (f j:Int)=true then[(B,off+j)] else[])++r1))++r2=_;rw[if_pos hpb];simp only[List.append_assoc,List.cons_append,List.nil_append]
      obtain⟨r,hr⟩:=hsp;have HY1:=hid (fun(Y:World) (hy:J (stA C g sb k++qo B off f j) Y)=>HY.out _ (B,off+j) r Y hy hr);have HPB:=hid hpb;clear hp hx hr hpb hlt;gi_wp2_with fail;refine⟨trivial,?_⟩;refine(callsIn_wide.2 (HI.out _)).mono ?_;rintro e w1 ⟨rfl,hw1⟩;subst w1;obtain⟨fn,tmps,assign,body,hy,hR⟩:=HY1.out wr HKJ.out.1;have HR:=hid hR;clear hR;gi_wp2_with fail;refine HR.out.mono ?_;rintro e W3 (⟨rfl,hJ3,hk3⟩|⟨rfl,hJx3⟩)
      ·have HJ3:=hid (show J (stA C g sb k++qo B off f (j+1)) W3/\MB O g b Bs C R vf vs vh W3 from⟨by
        show J (_++(qo B off f j++if jf (f j:Int)=true then[(B,off+j)] else[])) W3;rw[if_pos HPB.out,<-List.append_assoc];exact hJ3,hk3 HKJ.out.2⟩)
       clear hJ3 hk3 hy hc;gi_wp2_with fail;go_roundw
       case rel=>first|exact⟨j+1,HLT.out,by go_num,HJ3.out⟩|((repeat apply Exists.intro);exact⟨⟨j+1,HLT.out,by go_num,HJ3.out⟩,rfl⟩)
       case measure=>have:=HLT.out;simp[intOf];omega
      ·have HX:=hid hJx3
       clear hJx3 hy hc;gi_wp2;refine bodyPost_ret (results_none rfl _ _ _) rfl ?_;exact⟨⟨_,rfl⟩,.inr ⟨_,HX.out⟩⟩
     |false=>
      rw[hpb] at hp;have HI:=hid (jfp hx hp);have HJ3:=hid (show J (stA C g sb k++qo B off f (j+1)) wr/\MB O g b Bs C R vf vs vh wr from⟨by
       show J (_++(qo B off f j++if jf (f j:Int)=true then[(B,off+j)] else[])) wr;rw[if_neg (by rw[hpb];simp),List.append_nil];exact HKJ.out.1,HKJ.out.2⟩)
      clear hp hx hpb hlt;gi_wp2_with fail;refine⟨trivial,?_⟩;refine(callsIn_wide.2 (HI.out _)).mono ?_;rintro e w1 ⟨rfl,hw1⟩;subst w1;gi_wp2_with fail;refine⟨(fun _ q=>by cases q),?_⟩;gi_wp2_with fail;go_roundw
      case rel=>first|exact⟨j+1,HLT.out,by go_num,HJ3.out⟩|((repeat apply Exists.intro);exact⟨⟨j+1,HLT.out,by go_num,HJ3.out⟩,rfl⟩)
      case measure=>have:=HLT.out;simp[intOf];omega
    ·obtain rfl:j=m:=by omega
     have HK2:=hid (show J (stA C g sb (k+1)) wr/\MB O g b Bs C R vf vs vh wr from by rw[HR1.out.2.1];exact HKJ.out);gi_wp2_with fail;go_roundw
     case rel=>first|exact⟨k+1,HKL.out,by go_num,HK2.out⟩|((repeat apply Exists.intro);exact⟨⟨k+1,HKL.out,by go_num,HK2.out⟩,rfl⟩)
     case measure=>have:=HKL.out;simp[intOf];omega
  ·obtain rfl:k=3:=by omega
   have HK3:=hid (show J (rA2 C g sb++Za fb 0) wr/\MB O g b Bs C R vf vs vh wr from by rw[show Za fb 0=[] from rfl,List.append_nil];exact HK.out);obtain⟨hBw,Cw,aw,sw,kw⟩:=HK.out.2;have cB:=hBw.cell;have x5:=aw.cf;rw[HFR.out.2.1] at x5;clear hBw aw sw kw HK hk h3;gi_wp2_with fail;gi_loopw [54] (fun i wr=>∃j:Nat,j<=F/\i=.int .i64 j/\J (rA2 C g sb++Za fb j) wr/\MB O g b Bs C R vf vs vh wr) (fun i _=>F-(intOf i).toNat)
   case atStart=>exact⟨0,Nat.zero_le _,rfl,HK3.out⟩
   case round=>
    obtain⟨j,hjm,rfl,hj1,hm1⟩:=hrel;have HKJ:=hid (zqf hj1 hm1);clear hj1 hm1 HK3 cB x5;obtain⟨hBw,Cw,aw,sw,kw⟩:=HKJ.out.2;have cB:=hBw.cell;by_cases hlt:j<F
    ·obtain⟨q,c',e,_⟩:=aw.of.form (show 0<Cw.fr.length by rw[sw.lf,<-HFR.out.1];omega)
     have hq:q=fb:=HFB.out q (by rw[e];rfl);subst hq;have x5:=aw.cf;rw[e,sw.lf,<-HFR.out.1] at x5;have d0:(0:Int)<=(j:Int):=by omega
     have d1:(j:Int)<(F:Int):=by omega
     have hF65:=HFR.out.2.2;have HLT:=hid hlt;have hsp:∃r,zd C g q sb=(rA2 C g sb++Za q j)++(q,j*5)::r:=by
      obtain⟨r1,q1⟩:=je6 q (j:=j) (n:=C.fr.length) (by rw[<-HFR.out.1];exact hlt);refine⟨r1++Zs C g 2,?_⟩;unfold zd rA3;rw[q1];show(_++((Za q j++[(q,j*5)])++r1))++_=_;simp only[List.append_assoc,List.cons_append,List.nil_append]
     obtain⟨r,hr⟩:=hsp;obtain⟨fn,tmps,assign,body,hy,hR⟩:=HY.out _ (q,j*5) r wr HKJ.out.1 hr;have HR:=hid hR;clear hR hr hBw aw sw kw e hlt;gi_wp2_with fail;refine HR.out.mono ?_;rintro e W3 (⟨rfl,hJ3,hk3⟩|⟨rfl,hJx3⟩)
     ·have HJ3:=hid (show J (rA2 C g sb++Za q (j+1)) W3/\MB O g b Bs C R vf vs vh W3 from⟨by
       show J (_++(Za q j++[(q,j*5)])) W3;rw[<-List.append_assoc];exact hJ3,hk3 HKJ.out.2⟩)
      clear hJ3 hk3 hy cB x5;gi_wp2_with fail;go_roundw
      case rel=>first|exact⟨j+1,HLT.out,by go_num,HJ3.out⟩|((repeat apply Exists.intro);exact⟨⟨j+1,HLT.out,by go_num,HJ3.out⟩,rfl⟩)
      case measure=>have:=HLT.out;simp[intOf];omega
     ·have HX:=hid hJx3
      clear hJx3 hy cB x5;gi_wp2;refine bodyPost_ret (results_none rfl _ _ _) rfl ?_;exact⟨⟨_,rfl⟩,.inr ⟨_,HX.out⟩⟩
    ·obtain rfl:j=F:=by omega
     have HK4:=hid (show J (rA3 C g fb sb++Zs C g 0) wr/\MB O g b Bs C R vf vs vh wr from by
      rw[show Zs C g 0=[] from rfl,List.append_nil];unfold rA3;rw[<-HFR.out.1];exact HKJ.out)
     clear hBw aw sw kw HKJ;gi_wp2_with fail;refine wpIn_wide.2 ?_;go_quiet (fail);have HK5:Hid (J (rA3 C g fb sb++Zs C g 0) (wr.drewN nq)/\MB O g b Bs C R vf vs vh (wr.drewN nq)):=hid ⟨HJ.out _ _ _ HK4.out.1,HK4.out.2.drewN nq⟩;generalize wr.drewN nq=wq at HK5 ⊢;clear HK4;gi_wp2_with fail;gi_loopw [75] (fun i wr=>∃k:Nat,k<=2/\i=.int .i64 k/\J (rA3 C g fb sb++Zs C g k) wr/\MB O g b Bs C R vf vs vh wr) (fun i _=>2-(intOf i).toNat)
     case atStart=>exact⟨0,Nat.zero_le _,rfl,HK5.out⟩
     case round=>
      obtain⟨k,hk,rfl,hj0,hm0⟩:=hrel;have HK:=hid (zqf hj0 hm0);clear hj0 hm0 HK5 cB;by_cases h3:k<2
      ·obtain⟨o,P,hix,hrow,hst,hpre⟩:∃(o:Nat) (P:Bool),(∀W,(Instr.index 173 (.agg #[.pointer (some ⟨g,1043,none⟩),.pointer (some ⟨g,1044,none⟩)]) (.int .i64 (k:Int))).run prog W=.ok (.pointer (some ⟨g,o,none⟩)) W)/\(∃x:Nat,wr.cell? ⟨g,o,none⟩=some (.int .u64 (x:Int))/\x<18446744073709551616/\jf (x:Int)=P)/\Zs C g (k+1)=Zs C g k++(if P=true then[(g,o)] else[])/\∃r,zd C g fb sb=(rA3 C g fb sb++Zs C g (k+1))++r:=by
        obtain⟨_,Cw,aw,sw,kw⟩:=HK.out.2;rcases(show k=0\/k=1 by omega) with rfl|rfl
        ·exact⟨1043,jf (C.cd:Int),fun W=>(jtG _ _ W).1,⟨Cw.cd,aw.ccd,kw.cd,sw.cd⟩,rfl,(if jf (C.va:Int)=true then[(g,1044)] else[]),by unfold zd;rw[List.append_assoc];rfl⟩
        ·exact⟨1044,jf (C.va:Int),fun W=>(jtG _ _ W).2,⟨Cw.va,aw.cva,kw.va,sw.va⟩,rfl,[],by rw[List.append_nil];rfl⟩
       obtain⟨x,hc,hx,hp⟩:=hrow;have b0:(0:Int)<=(k:Int):=by omega
       have b1:(k:Int)<2:=by omega
       have hpo:((some (⟨g,o,none⟩:Addr))==none)=false:=rfl;have HKL:=hid h3;have HI:=hid (jfp hx hp);have HST:=hid (zqf hst hpre);clear hst hpre hx hp h3;cases P with
       |true=>
        have hsp:∃r,zd C g fb sb=(rA3 C g fb sb++Zs C g k)++(g,o)::r:=by
         obtain⟨r2,q2⟩:=HST.out.2;refine⟨r2,?_⟩;rw[q2,HST.out.1,if_pos rfl];simp only[List.append_assoc,List.cons_append,List.nil_append]
        obtain⟨r,hr⟩:=hsp;obtain⟨fn,tmps,assign,body,hy,hR⟩:=HY.out _ (g,o) r wr HK.out.1 hr;have HR:=hid hR;clear hR hr;gi_wp2_with fail;refine⟨trivial,?_⟩;refine(callsIn_wide.2 (HI.out _)).mono ?_;rintro e w1 ⟨rfl,hw1⟩;subst w1;gi_wp2_with fail;refine HR.out.mono ?_;rintro e W3 (⟨rfl,hJ3,hk3⟩|⟨rfl,hJx3⟩)
        ·have HJ3:=hid (show J (rA3 C g fb sb++Zs C g (k+1)) W3/\MB O g b Bs C R vf vs vh W3 from⟨by
          rw[HST.out.1,<-List.append_assoc];exact hJ3,hk3 HK.out.2⟩)
         clear hJ3 hk3 hy hc;gi_wp2_with fail;go_roundw
         case rel=>first|exact⟨k+1,HKL.out,by go_num,HJ3.out⟩|((repeat apply Exists.intro);exact⟨⟨k+1,HKL.out,by go_num,HJ3.out⟩,rfl⟩)
         case measure=>have:=HKL.out;simp[intOf];omega
        ·have HX:=hid hJx3
         clear hJx3 hy hc;gi_wp2;refine bodyPost_ret (results_none rfl _ _ _) rfl ?_;exact⟨⟨_,rfl⟩,.inr ⟨_,HX.out⟩⟩
       |false=>
        have HJ3:=hid (show J (rA3 C g fb sb++Zs C g (k+1)) wr/\MB O g b Bs C R vf vs vh wr from⟨by
         rw[HST.out.1];simp only[Bool.false_eq_true,if_false,List.append_nil];exact HK.out.1,HK.out.2⟩)
        gi_wp2_with fail;refine⟨trivial,?_⟩;refine(callsIn_wide.2 (HI.out _)).mono ?_;rintro e w1 ⟨rfl,hw1⟩;subst w1;gi_wp2_with fail;refine⟨(fun _ q=>by cases q),?_⟩;gi_wp2_with fail;go_roundw
        case rel=>first|exact⟨k+1,HKL.out,by go_num,HJ3.out⟩|((repeat apply Exists.intro);exact⟨⟨k+1,HKL.out,by go_num,HJ3.out⟩,rfl⟩)
        case measure=>have:=HKL.out;simp[intOf];omega
      ·obtain rfl:k=2:=by omega
       have HE:=hid (show J (zd C g fb sb) wr from HK.out.1);clear HK;gi_wp2;go_end0;exact⟨⟨_,rfl⟩,.inl HE.out⟩
end
def jW (C:CM) (g sb:Nat) (x:Nat×Nat):Nat:=
 if x.1=g then(if x.2<18 then C.rg (x.2-2) else if x.2<1042 then C.gl (x.2-18) else if x.2=1043 then C.cd else C.va)
 else if x.1=sb/\x.2<C.sl.length then qO C x.2 else((C.fr[x.2/5]?).map fun y=>y.code).getD 0
structure Z1 (C:CM) (g fb sb:Nat):Prop where
 sg:0<C.sl.length->sb≠g
 fg:0<C.fr.length->fb≠g
 fs:0<C.fr.length->0<C.sl.length->fb≠sb
 us:C.us<=1024
theorem jh2 {B off:Nat} {f:Nat->Nat} {x:Nat×Nat}:∀{n:Nat},x∈qo B off f n↔ ∃k,k<n/\jf (f k:Int)=true/\x=(B,off+k)
 |0=>by simp[qo]
 |n+1=>by
  have ih:=jh2 (B:=B) (off:=off) (f:=f) (x:=x) (n:=n);show x∈qo B off f n++_↔_;rw[List.mem_append,ih];constructor
  ·rintro(⟨k,h1,h2,h3⟩|h)
   ·exact⟨k,by omega,h2,h3⟩
   ·split at h
    ·rename_i q
     exact⟨n,by omega,q,List.mem_singleton.1 h⟩
    ·cases h
  ·rintro⟨k,h1,h2,h3⟩
   by_cases e:k=n
   ·subst e
    right;rw[if_pos h2,h3];simp
   ·exact .inl ⟨k,by omega,h2,h3⟩
theorem jh3 {B:Nat} {x:Nat×Nat}:∀{n:Nat},x∈Za B n↔ ∃k,k<n/\x=(B,k*5)
 |0=>by simp[Za]
 |n+1=>by
  have ih:=jh3 (B:=B) (x:=x) (n:=n);show x∈Za B n++_↔_;rw[List.mem_append,ih];constructor
  ·rintro(⟨k,h1,h2⟩|h)
   ·exact⟨k,by omega,h2⟩
   ·exact⟨n,by omega,List.mem_singleton.1 h⟩
  ·rintro⟨k,h1,h2⟩
   by_cases e:k=n
   ·subst e;exact .inr (by rw[h2];simp)
   ·exact .inl ⟨k,by omega,h2⟩
theorem Q1 {C:CM} {g fb sb:Nat} {x:Nat×Nat}:x∈zd C g fb sb↔(∃k,k<16/\jf (C.rg k:Int)=true/\x=(g,2+k))\/(∃k,k<C.sl.length/\jf (qO C k:Int)=true/\x=(sb,0+k))\/(∃k,k<C.us/\jf (C.gl k:Int)=true/\x=(g,18+k))\/(∃k,k<C.fr.length/\x=(fb,k*5))\/(jf (C.cd:Int)=true/\x=(g,1043))\/(jf (C.va:Int)=true/\x=(g,1044)):=by
 unfold zd rA3 rA2 rA1 rA0;show x∈_++((if jf (C.cd:Int)=true then[(g,1043)] else[])++if jf (C.va:Int)=true then[(g,1044)] else[])↔_;simp only[List.mem_append,jh2,jh3];have e1:∀(P:Bool) (y:Nat×Nat),x∈(if P=true then[y] else[])↔P=true/\x=y:=fun P y=>by cases P<;>simp
 rw[e1,e1];constructor
 ·rintro((((h|h)|h)|h)|h|h)
  ·exact .inl h
  ·exact .inr (.inl h)
  ·exact .inr (.inr (.inl h))
  ·exact .inr (.inr (.inr (.inl h)))
  ·exact .inr (.inr (.inr (.inr (.inl h))))
  ·exact .inr (.inr (.inr (.inr (.inr h))))
 ·rintro(h|h|h|h|h|h)
  ·exact .inl (.inl (.inl (.inl h)))
  ·exact .inl (.inl (.inl (.inr h)))
  ·exact .inl (.inl (.inr h))
  ·exact .inl (.inr h)
  ·exact .inr (.inl h)
  ·exact .inr (.inr h)
section
variable {C:CM} {g fb sb:Nat}
theorem jfJ {k:Nat} (hk:k<16):jW C g sb (g,2+k)=C.rg k:=by
 unfold jW;rw[if_pos rfl,if_pos (by show 2+k<18;omega)];show C.rg (2+k-2)=_;rw[show 2+k-2=k by omega]
theorem jfI {k:Nat} (hk:k<1024):jW C g sb (g,18+k)=C.gl k:=by
 unfold jW;rw[if_pos rfl,if_neg (by show¬18+k<18;omega),if_pos (by show 18+k<1042;omega)];show C.gl (18+k-18)=_;rw[show 18+k-18=k by omega]
theorem jfK (s:Z1 C g fb sb) {k:Nat} (hk:k<C.sl.length):jW C g sb (sb,0+k)=qO C k:=by
 unfold jW;rw[if_neg (s.sg (by omega)),Nat.zero_add,if_pos ⟨rfl,hk⟩]
theorem jfH (s:Z1 C g fb sb) {k:Nat} {y:Fm} (hk:C.fr[k]?=some y):jW C g sb (fb,k*5)=y.code:=by
 have hl:=(zqb hk).1;unfold jW;rw[if_neg (s.fg (by omega)),if_neg (fun q=>s.fs (by omega) (by have:=q.2;omega) q.1)];show((C.fr[k*5/5]?).map _).getD 0=_;rw[show k*5/5=k by omega,hk];rfl
theorem jb9 (f:Nat->Nat) (B off:Nat) (v:Nat×Nat->Nat):∀n,(∀k,k<n->v (B,off+k)=f k)->(qo B off f n).map v=Qn f n
 |0,_=>rfl
 |n+1,h=>by
  show(qo B off f n++_).map v=Qn f n++_;rw[List.map_append,jb9 f B off v n fun k hk=>h k (by omega)];congr 1;split
  ·rw[List.map_cons,h n (by omega)];rfl
  ·rfl
theorem jba (s:Z1 C g fb sb):(zd C g fb sb).map (jW C g sb)=j8 C:=by
 have hF:∀n,n<=C.fr.length->(Za fb n).map (jW C g sb)=(C.fr.take n).map fun x=>x.code:=fun n=>by
  induction n with
  |zero=>intro _;rfl
  |succ n ih=>
   intro hn;have hk:C.fr[n]?=some C.fr[n]:=zqh (by omega);show(Za fb n++[(fb,n*5)]).map _=_;rw[List.map_append,ih (by omega),List.take_succ_eq_append_getElem (by omega),List.map_append];congr 1;rw[List.map_cons,jfH s hk];rfl
 have hT:(Zs C g 2).map (jW C g sb)=(if jf (C.cd:Int) then[C.cd] else[])++if jf (C.va:Int) then[C.va] else[]:=by
  have e1:jW C g sb (g,1043)=C.cd:=by unfold jW;rw[if_pos rfl];rfl
  have e2:jW C g sb (g,1044)=C.va:=by unfold jW;rw[if_pos rfl];rfl
  show((if jf (C.cd:Int) then[(g,1043)] else[])++if jf (C.va:Int) then[(g,1044)] else[]).map (jW C g sb)=_;rw[List.map_append];congr 1
  ·split
   ·rw[List.map_cons,e1];rfl
   ·rfl
  ·split
   ·rw[List.map_cons,e2];rfl
   ·rfl
 unfold zd rA3 rA2 rA1 rA0 j8;rw[List.map_append,List.map_append,List.map_append,List.map_append,jb9 C.rg g 2 _ 16 fun k hk=>jfJ hk,jb9 (qO C) sb 0 _ _ fun k hk=>jfK s hk,jb9 C.gl g 18 _ _ fun k hk=>jfI (by have:=s.us;omega),hF _ (zqg _),List.take_length,hT,List.append_assoc (Qn C.rg 16++_++_++_)]
end
section
variable {O:Nat->Prop} {w:World} {g b:Nat} {C:CM} {R:Nat->Value} {vf vs vh:Value}
theorem joB (a:McAt O w g C b R vf vs vh) (hu:C.us<=1024):∃fb sb,(∀i,vf.ownBlock=some i->i=fb)/\(∀i,vs.ownBlock=some i->i=sb)/\Z1 C g fb sb:=by
 have hf:0<C.fr.length->∃q,vf.ownBlock=some q:=fun h=>by
  obtain⟨q,c,e,_⟩:=a.of.form h;exact⟨q,by rw[e];rfl⟩
 have hs:0<C.sl.length->∃q,vs.ownBlock=some q:=fun h=>by
  obtain⟨q,c,e,_⟩:=a.os.form h;exact⟨q,by rw[e];rfl⟩
 refine⟨vf.ownBlock.getD 0,vs.ownBlock.getD 0,fun i h=>by rw[h];rfl,fun i h=>by rw[h];rfl,fun h=>?_,fun h=>?_,fun h1 h2=>?_,hu⟩
 ·obtain⟨q,e⟩:=hs h
  rw[e];intro z;exact a.g2 (by rw[e];exact congrArg some z)
 ·obtain⟨q,e⟩:=hf h
  rw[e];intro z;exact a.g1 (by rw[e];exact congrArg some z)
 ·obtain⟨q,e⟩:=hf h1
  obtain⟨r,e2⟩:=hs h2;rw[e,e2];intro z;exact a.s12 q e (by rw[e2];exact congrArg some z.symm)
theorem McAt.val (a:McAt O w g C b R vf vs vh) {fb sb:Nat} (hfb:∀i,vf.ownBlock=some i->i=fb) (hsb:∀i,vs.ownBlock=some i->i=sb) (s:Z1 C g fb sb) {x:Nat×Nat} (hx:x∈zd C g fb sb):w.cell? ⟨x.1,x.2,none⟩=some (.int .u64 (jW C g sb x:Int)):=by
 rcases Q1.1 hx with⟨k,h1,_,rfl⟩|⟨k,h1,_,rfl⟩|⟨k,h1,_,rfl⟩|⟨k,h1,rfl⟩|⟨_,rfl⟩|⟨_,rfl⟩
 ·rw[jfJ h1];exact a.regc h1
 ·obtain⟨q,c,e,_⟩:=a.os.form (by omega)
  have hq:=hsb q (by rw[e];rfl);subst hq;rw[jfK s h1];have hof:=a.os;rw[e] at hof;show w.cell? ⟨q,0+k,none⟩=_;rw[Nat.zero_add,hof.cellAt k (by omega)];unfold u64s qO;rw[List.getElem?_map,zqi,zqh h1];rfl
 ·have:=s.us
  rw[jfI (by omega)];exact a.globc (by omega)
 ·obtain⟨q,c,e,_⟩:=a.of.form (by omega)
  have hq:=hfb q (by rw[e];rfl);subst hq;have hk:C.fr[k]?=some C.fr[k]:=zqh h1;rw[jfH s hk];exact a.fcell e hk (j:=0) rfl
 ·have e1:jW C g sb (g,1043)=C.cd:=by unfold jW;rw[if_pos rfl];rfl
  rw[e1];exact a.ccd
 ·have e1:jW C g sb (g,1044)=C.va:=by unfold jW;rw[if_pos rfl];rfl
  rw[e1];exact a.cva
theorem MB.below {O:Nat->Prop} {g b Bs:Nat} {C:CM} {R:Nat->Value} {vf vs vh:Value} {W W1:World} (h:MB O g b Bs C R vf vs vh W) (hb:Below W.heap.size W W1):MB O g b Bs C R vf vs vh W1:=by
 obtain⟨h1,C1,h2,h3⟩:=h;exact⟨(hb.block Bs h1.lt).trans h1,C1,h2.below hb,h3⟩
abbrev RtS (C:CM) (g fb sb:Nat):={x:Nat×Nat//x∈zd C g fb sb}
theorem jgx (n:Nat) (hn:1<=n) {g b Bs fb sb:Nat} {C:CM} (hu:C.us<=1024) (hl1:C.fr.length<=65536) (hl2:C.sl.length<=65536) (hfb:∀i,vf.ownBlock=some i->i=fb) (hsb:∀i,vs.ownBlock=some i->i=sb) (w:World) (hM:MB O g b Bs C R vf vs vh w):
  SeqStopsK Fence.wide n prog 111 #[.pointer (some ⟨Bs,0,none⟩)] (fun x:RtS C g fb sb=>#[Value.pointer (some ⟨x.1.1,x.1.2,none⟩)]) (jan O g b Bs C R vf vs vh) (fun ys=>ys.map Subtype.val=zd C g fb sb) (fun _=>True) (zd C g fb sb).length w:=fun l J Jx W1 hW hJ _ hY h0=>
 (jop n hn l hu hl1 hl2 hfb hsb (fun pre W=>∃ys:List (RtS C g fb sb),ys.map Subtype.val=pre/\J ys W) (fun pre W=>∃ys:List (RtS C g fb sb),ys.map Subtype.val=pre/\Jx ys W)
  (fun pre W2 k ⟨ys,h1,h2⟩=>⟨ys,h1,hJ ys W2 _ none h2 ⟨rfl,rfl,rfl,zqg _,fun _ _ _=>rfl⟩ (fun r e=>by cases e)⟩)
  (fun pre x r W2 ⟨ys,h1,h2⟩ hr=>by
   have hx:x∈zd C g fb sb:=by rw[hr];simp
   have hlt:ys.length<(zd C g fb sb).length:=by rw[hr,<-h1];simp
   obtain⟨fn,tmps,assign,body,hy,hR⟩:=hY ys ⟨x,hx⟩ W2 h2 hlt;refine⟨fn,tmps,assign,body,hy,hR.mono fun e w' q=>?_⟩;rcases q with⟨q1,q2,q3⟩|⟨q1,q2⟩
   ·exact .inl ⟨q1,⟨ys++[⟨x,hx⟩],by rw[List.map_append,h1];rfl,q2⟩,q3⟩
   ·exact .inr ⟨q1,⟨ys++[⟨x,hx⟩],by rw[List.map_append,h1];rfl,q2⟩⟩)
  W1 (hM.below hW) ⟨[],rfl,h0⟩).mono fun e W' ⟨hv,h⟩=>⟨hv,by
   rcases h with⟨ys,q1,q2⟩|⟨pre,ys,q1,q2⟩
   ·exact .inl ⟨ys,q1,q2⟩
   ·exact .inr ⟨ys,trivial,q2⟩⟩
end
