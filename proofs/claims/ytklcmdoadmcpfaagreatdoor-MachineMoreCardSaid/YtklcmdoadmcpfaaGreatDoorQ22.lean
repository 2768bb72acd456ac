/- A part of the proof of MachineMoves. Conditions: those that each theorem names. -/
import Derived.Test.YtklcmdoadmcpfaaGreatDoorQ21
import Derived.Test.YtklcmdoadmcpfaaGreatDoorQ12
set_option maxRecDepth 100000
set_option maxHeartbeats 400000000
namespace Go.Proofs.YtklcmdoadmcpfaaGreatDoor
open Go Go.RowKit IsaL
open Go.Lib(hid)
open Go.Proofs.Tryz(prog)
structure Clo (M:RM) (S:Nat->Prop):Prop where
 rt:∀k,RWd.P k∈jr M->S k
 cl:∀i,S i->∀k,RWd.P k∈zK M.objs i->S k
structure Usd (M:RM) (E:List Nat):Prop where
 nd:E.Nodup
 lt:∀i∈E,i<M.objs.length
 co:Clo M (fun i=>i∈E)
 us:(qS M.objs E:Int)<=M.used
theorem jcU {S:Nat->Prop}:∀(ws:List RWd) {out:List Nat},(∀i∈out,S i)->(∀k,RWd.P k∈ws->S k)->∀i∈jB out ws,S i
 |[],_,h,_=>h
 |v::ws,out,h,hw=>by
  refine jcU ws (out:=Jq out v) (fun i hi=>?_) (fun k hk=>hw k (List.mem_cons_of_mem _ hk));cases v with
  |I n=>exact h i hi
  |P k=>
   rw[jax] at hi;split at hi
   ·exact h i hi
   ·rcases List.mem_append.1 hi with q|q
    ·exact h i q
    ·rw[List.mem_singleton.1 q]
     exact hw k (by simp)
theorem jjw {S:Nat->Prop} {os:List RObj} (hc:∀i,S i->∀k,RWd.P k∈zK os i->S k):∀(n i:Nat) {out:List Nat},(∀j∈out,S j)->∀j∈qU os n i out,S j
 |0,_,_,h=>h
 |n+1,i,out,h=>by
  unfold qU;cases e:out[i]? with
  |none=>exact h
  |some k=>exact jjw hc n (i+1) (jcU _ h (hc k (h k (zqc e))))
theorem jif {M:RM} {S:Nat->Prop} (h:Clo M S):∀j∈Jk M.objs (jr M),S j:=
 jjw h.cl _ _ (jcU _ (fun _ q=>by cases q) h.rt)
theorem jig (M:RM):(Jk M.objs (jr M)).Nodup:=jdd M.objs _ _ (jbb (os:=M.objs) _ List.nodup_nil)
theorem Usd.live {M:RM} {E:List Nat} (h:Usd M E):(Jp M:Int)<=M.used:=by
 have:qS M.objs (Jk M.objs (jr M))<=qS M.objs E:=McG.jaX (jig M) (jif h.co);have:=h.us;unfold Jp;omega
theorem jlo {now:List Ob} {met:List Nat} (ok:Okm now met):qt now met<=used now:=by
 have h1:qt now met<=qt now (List.range now.length):=McG.jaX ok.nd fun x hx=>List.mem_range.2 (ok.lt x hx);have h2:qt now (List.range now.length)=used now:=by
  have gen:∀(l:List Ob) (n:Nat),n<=l.length->qt l (List.range n)=used (l.take n):=fun l n=>by
   induction n with
   |zero=>intro _;rfl
   |succ n ih=>
    intro hn;rw[List.range_succ,jln,ih (by omega),List.take_succ_eq_append_getElem (by omega),z6,ZD,zqh (by omega)];rfl
  rw[gen now now.length (zqg _),List.take_length]
 omega
section
variable {M:RM} {C:CM} {D:Nat->Prop} {f A:Nat->Nat}
theorem Sim.lt (s:Sim M C D f A) {v:RWd} (hv:∀k,v=.P k->D k):jw A v<18446744073709551616:=by
 cases v with
 |I n=>show(jO n).toNat<_;unfold jO;omega
 |P k=>
  have:=Zw.1 (s.ptr (hv k rfl));show A k<_;omega
theorem jjj (l:List RFm):∀j,((l.take j).map fun z=>z.slots.length).sum<=(l.flatMap fun x=>x.slots).length:=fun j=>by
 rw[List.length_flatMap]
 conv=>rhs;rw[<-List.take_append_drop j l]
 rw[List.map_append,List.sum_append];omega
theorem zS (M:RM):qi M=3*(M.frs.length:Int)+((M.frs.flatMap fun x=>x.slots).length:Int)+3*(M.has.length:Int):=by
 unfold qi;have:∀l:List RFm,(l.map fun f=>3+(f.slots.length:Int)).sum=3*(l.length:Int)+((l.flatMap fun x=>x.slots).length:Int):=fun l=>by
  induction l with
  |nil=>rfl
  |cons x l ih=>
   rw[List.map_cons,List.sum_cons,ih,List.flatMap_cons,zqm,List.length_cons];omega
 rw[this];omega
section
variable (s:Sim M C D f A)
include s
theorem Sim.slen:C.sl.length=(M.frs.flatMap fun x=>x.slots).length:=by rw[s.sl,List.length_map]
theorem Sim.ok:OkC C where
 rg:=fun k hk=>by rw[s.rg k hk];exact s.lt fun i e=>s.rt i (ja.2 (.inl ⟨k,hk,e.symm⟩))
 gl:=fun k hk=>by rw[s.gl k hk];exact s.lt fun i e=>s.rt i (ja.2 (.inr (.inr (.inl ⟨k,hk,e.symm⟩))))
 sl:=fun x hx=>by
  rw[s.sl] at hx;obtain⟨v,hv,rfl⟩:=List.mem_map.1 hx;obtain⟨y,h1,h2⟩:=List.mem_flatMap.1 hv;exact s.lt fun i e=>s.rt i (ja.2 (.inr (.inl ⟨y,h1,.inr (e▸h2)⟩)))
 cd:=by rw[s.cd];exact s.lt fun i e=>s.rt i (ja.2 (.inr (.inr (.inr (.inl e.symm)))))
 va:=by rw[s.va];exact s.lt fun i e=>s.rt i (ja.2 (.inr (.inr (.inr (.inr e.symm)))))
 fc:=fun y hy=>by
  have:y.code∈C.fr.map fun x=>x.code:=List.mem_map.2 ⟨y,hy,rfl⟩;rw[s.fr.code] at this;obtain⟨x,h1,h2⟩:=List.mem_map.1 this;rw[<-h2];exact s.lt fun i e=>s.rt i (ja.2 (.inr (.inl ⟨x,h1,.inl e.symm⟩)))
 fs:=fun y hy=>by
  obtain⟨j,hj⟩:=List.getElem?_of_mem hy;have hl:=(zqb hj).1;obtain⟨_,_,_,i,o,h1,h2,h3,h4,h5⟩:=s.fr.nth j _ y (zqh (by rw[<-s.fr.len];exact hl)) hj;have hd:D i:=s.rt i (ja.2 (.inr (.inl ⟨_,List.getElem_mem (by rw[<-s.fr.len];exact hl),.inl h1.symm⟩)));obtain⟨o',g1,g2,_⟩:=s.ob i hd;rw[h2] at g1;obtain rfl:=zqd g1;rcases g2.kd with⟨q,_⟩|⟨q,_⟩|⟨_,_,q⟩
  ·omega
  ·omega
  ·omega
 bs:=fun y hy=>by
  obtain⟨j,hj⟩:=List.getElem?_of_mem hy;have hl:=(zqb hj).1;obtain⟨_,_,h3,_⟩:=s.fr.nth j _ y (zqh (by rw[<-s.fr.len];exact hl)) hj;rw[h3,s.slen];exact jjj _ _
 fp:=fun y hy=>by
  obtain⟨j,hj⟩:=List.getElem?_of_mem hy;have hl:=(zqb hj).1;obtain⟨_,h2,_⟩:=s.fr.nth j _ y (zqh (by rw[<-s.fr.len];exact hl)) hj;rw[h2];exact s.pl _ (List.getElem_mem _)
 hf:=fun p hp=>by rw[s.fr.len];rw[s.ha] at hp;exact s.hf p hp
 hp:=fun p hp=>by rw[s.ha] at hp;exact s.hp p hp
 ft:=by
  have:=s.ft;rw[zS,s.stk] at this;rw[s.fr.len,s.slen,s.ha];omega
 s1:=by have:=s.s1;omega
 us:=s.ul
theorem Sim.odd (met:List Nat):jo1 C (zx C.h C.W C.now met):=by
 have key:∀v:RWd,v∈jr M->jf (jw A v:Int)=false->zx C.h C.W C.now met (jw A v)=jw A v:=fun v hv hp=>by
  cases v with
  |I n=>exact jeb (Zl A n)
  |P k=>
   have:=s.ptr (s.rt k hv);rw[show jw A (.P k)=A k from rfl,this] at hp;cases hp
 refine⟨fun k hk hp=>?_,fun k hk hp=>?_,fun k hk hp=>?_,fun hp=>?_,fun hp=>?_⟩
 ·rw[s.rg k hk] at hp ⊢
  exact key _ (ja.2 (.inl ⟨k,hk,rfl⟩)) hp
 ·have hu:=s.ul
  rw[s.gl k (by omega)] at hp ⊢;exact key _ (ja.2 (.inr (.inr (.inl ⟨k,by omega,rfl⟩)))) hp
 ·have:qO C k∈C.sl:=by
   unfold qO;rw[zqi,zqh hk];exact List.getElem_mem hk
  rw[s.sl] at this;obtain⟨v,hv,e⟩:=List.mem_map.1 this;obtain⟨x,h1,h2⟩:=List.mem_flatMap.1 hv;rw[<-e] at hp ⊢;exact key v (ja.2 (.inr (.inl ⟨x,h1,.inr h2⟩))) hp
 ·rw[s.cd] at hp ⊢
  exact key _ (ja.2 (.inr (.inr (.inr (.inl rfl))))) hp
 ·rw[s.va] at hp ⊢
  exact key _ (ja.2 (.inr (.inr (.inr (.inr rfl))))) hp
theorem Sim.codes:∀y∈C.fr,jf (y.code:Int)=true:=fun y hy=>by
 obtain⟨j,hj⟩:=List.getElem?_of_mem hy;have hl:=(zqb hj).1;obtain⟨h0,_,_,i,o,h1,_⟩:=s.fr.nth j _ y (zqh (by rw[<-s.fr.len];exact hl)) hj;rw[h0,h1];exact s.ptr (s.rt i (ja.2 (.inr (.inl ⟨_,List.getElem_mem (by rw[<-s.fr.len];exact hl),.inl h1.symm⟩))))
theorem Sim.used (u:Int):Sim {M with used:=u} C D f A:={s with}
end
end
section
variable {O:Nat->Prop} {w:World} {g b:Nat} {M:RM} {C:CM} {D:Nat->Prop} {f A:Nat->Nat} {R:Nat->Value} {vf vs vh:Value}
def jtB (O:Nat->Prop) (w w':World) (g b:Nat) (M:RM) (vf vs vh:Value) (P:CM->Prop):Prop:=∃C' R' D' f' A',McAt O w' g C' b R' vf vs vh/\Sim M C' D' f' A'/\Fr O w w'/\P C'
theorem jvy {C:CM} {met:List Nat} (hr:zg C.now C.h C.W (j8 C)=some met):qt C.now met<=used C.now/\used (JG C.h C.W C.now met)=qt C.now met:=
 ⟨jlo (Jb hr),joS _ _ _ _ (Jb hr).lt⟩
theorem jef (a:McAt O w g C b R vf vs vh) (s:Sim M C D f A) (hO:∀i,w.heap.size<=i->O i) {E:List Nat} (u:Usd M E) (n:Nat):
  Calls prog 42 #[.pointer (some ⟨g,0,none⟩),.int .i64 n] w fun e w'=>e=.returned (.bool (jz M n).2)/\jtB O w w' g b (jz M n).1 vf vs vh (fun C'=>(jz M n).2=true->used C'.now+n<=C'.W):=by
 obtain⟨met,hr,hliv,hsim⟩:=s.coll;obtain⟨hb1,hb2⟩:=jvy hr;have hlv:=u.live;have hlim:=s.lim;have hres:(jz M n).2=decide (Jp M+n<=C.W):=by
  unfold jz;split
  ·exact(zqr (by omega)).symm
  ·exact decide_eq_decide.2 (by omega)
 have hst:∀{C':CM} {D':Nat->Prop} {f' A':Nat->Nat},Sim M C' D' f' A'->Sim (jz M n).1 C' D' f' A':=fun q=>by
  unfold jz;split
  ·exact q
  ·exact q.used _
 rw[hres];by_cases hfree:used C.now+n<=C.W
 ·rw[zqr (show Jp M+n<=C.W by omega)]
  refine(joo a n hfree).mono ?_;rintro e w' ⟨rfl,q,rfl⟩;exact⟨rfl,C,R,D,f,A,a.drewN q,hst s,(Fr.refl O w).drewN q,fun _=>hfree⟩
 ·have c0:=a.c0
  obtain⟨X,hX⟩:∃X:Int,(C.W:Int)-used C.now=X:=⟨_,rfl⟩;have HF:=hid (jbD a.m a.z rfl X hX);have d0:decide (X<(n:Int))=true:=zqr (by omega);obtain⟨X2,hX2⟩:∃X2:Int,(C.W:Int)-Jp M=X2:=⟨_,rfl⟩;have HC:=hid (fun q=>(jmG (a.drewN q) s.ok s.s1 hO hr (s.odd met) s.codes).mono (fun e w' h=>(show(∃v,e=.returned v)/\∃R',McAt O w' g (QI C met) b R' vf vs vh/\Fr O w w'/\w'.cell? ⟨g,0,none⟩=some (.pointer (some ⟨b,0,none⟩))/\Calls prog 34 #[.pointer (some ⟨b,0,none⟩)] w' fun e w2=>e=.returned (.int .i64 X2)/\∃q,w2=w'.drewN q from by
   obtain⟨h1,⟨R',h2⟩,h3⟩:=h;exact⟨h1,R',h2,((Fr.refl O w).drewN q).trans h3 (fun i hi=>.inl hi),h2.c0,jbD h2.m h2.z (hb2.trans hliv) X2 hX2⟩)))
  have hdec:decide ((n:Int)<=X2)=decide (Jp M+n<=C.W):=decide_eq_decide.2 (by omega);have HD:=hid hdec;have HC0:=hid c0;have HU:=hid (show Jp M+n<=C.W->used (QI C met).now+n<=(QI C met).W from fun q=>by
   show used (JG C.h C.W C.now met)+n<=C.W;rw[hb2,hliv];exact q)
  have hX3:X2<=9000000000000000000:=by have:=a.z.w1;omega
  clear a s hO u hr hb1 hb2 hlv hlim hres hfree hX hX2 hdec hliv;go_enter Tryz.func42,Tryz.ntmps42;go_wp2_with fail;refine HF.out.mono ?_;rintro e w1 ⟨rfl,q,hq⟩;have HC1:=hid (show Calls _ _ _ w1 _ from by have:=HC.out q;rw[<-hq] at this;exact this);clear hq c0;go_wp2_with fail;refine HC1.out.mono ?_;rintro e w2 ⟨⟨v,rfl⟩,R',h2,h3,h4,h5⟩;have H2:=hid (zqf h2 h3);have H5:=hid h5;clear h2 h3 h5;go_wp2_with fail;refine H5.out.mono ?_;rintro e w3 ⟨rfl,q3,hq3⟩;have HQ3:=hid hq3;clear hq3;go_wp2_with fail;go_ret;obtain⟨D',f',A',_,hs'⟩:=hsim H2.out.1.z;refine⟨by rw[<-HD.out];rfl,QI C met,R',D',f',A',?_,hst hs',?_,fun q=>HU.out (of_decide_eq_true q)⟩
  ·rw[HQ3.out];exact H2.out.1.drewN q3
  ·rw[HQ3.out];exact H2.out.2.drewN q3
end
section
open Go Go.RowKit
def qP:Nat->List Value
 |0=>[]
 |n+1=>qP n++[.bool false,.int .i64 0,.int .i64 0]
theorem Jt (n:Nat):(qP n).length=n*3:=by
 induction n with
 |zero=>rfl
 |succ n ih=>show(qP n++_).length=_;rw[zqm,ih];simp;omega
theorem jke (a b:Nat):qP (a+b)=qP a++qP b:=by
 induction b with
 |zero=>exact(List.append_nil _).symm
 |succ b ih=>show qP (a+b)++_=qP a++(qP b++_);rw[ih,List.append_assoc]
theorem jfN (n:Nat):∀u∈qP n,u.oneCell'=true:=by
 induction n with
 |zero=>intro u hu;cases hu
 |succ n ih=>
  intro u hu;rcases List.mem_append.1 (show u∈qP n++_ from hu) with h|h
  ·exact ih u h
  ·simp at h
   rcases h with rfl|rfl<;>rfl
theorem jrm {w:World} {g o:Nat}:∀(n:Nat),(∀k,k<n->w.cell? ⟨g,o+k*3,none⟩=some (.bool false)/\w.cell? ⟨g,o+k*3+1,none⟩=some (.int .i64 0)/\w.cell? ⟨g,o+k*3+2,none⟩=some (.int .i64 0))->∀j u,(qP n)[j]?=some u->w.cell? ((⟨g,o,none⟩:Addr).add j)=some u:=by
 intro n;induction n with
 |zero=>intro _ j u hj;cases hj
 |succ n ih=>
  intro h j u hj;change (qP n++_)[j]?=some u at hj;by_cases hl:j<n*3
  ·rw[zqo (by rw[Jt];exact hl)] at hj
   exact ih (fun k hk=>h k (by omega)) j u hj
  ·rw[zqn (by rw[Jt];omega),Jt] at hj
   obtain⟨h0,h1,h2⟩:=h n (by omega);obtain⟨d,hd⟩:∃d,j=n*3+d:=⟨j-n*3,by omega⟩;subst hd;rw[Nat.add_sub_cancel_left] at hj;have hlt:d<3:=by
    have:=(zqb hj).1;simpa using this
   rw[show(⟨g,o,none⟩:Addr).add (n*3+d)=⟨g,o+(n*3+d),none⟩ from by simp[Addr.add]];rcases(show d=0\/d=1\/d=2 by omega) with rfl|rfl|rfl
   ·obtain rfl:Value.bool false=u:=by simpa using hj
    exact h0
   ·obtain rfl:Value.int .i64 0=u:=by simpa using hj
    exact h1
   ·obtain rfl:Value.int .i64 0=u:=by simpa using hj
    exact h2
theorem jtx {w:World} {B n:Nat} {v:Value} {t:TypeId} (h:w.ownsRow B t 3 v n (qP n)) (hn:0<n):∃g c,v=.slice (some ⟨g,0,none⟩) n c/\B<=g/\g<w.heap.size/\∀k,k<n->w.cell? ⟨g,k*3,none⟩=some (.bool false)/\w.cell? ⟨g,k*3+1,none⟩=some (.int .i64 0)/\w.cell? ⟨g,k*3+2,none⟩=some (.int .i64 0):=by
 have key:∀n k,k<n->(qP n)[k*3]?=some (.bool false)/\(qP n)[k*3+1]?=some (.int .i64 0)/\(qP n)[k*3+2]?=some (.int .i64 0):=by
  intro n;induction n with
  |zero=>intro k hk;omega
  |succ n ih=>
   intro k hk;show(qP n++_)[k*3]?=_/\(qP n++_)[k*3+1]?=_/\(qP n++_)[k*3+2]?=_;by_cases h:k<n
   ·rw[zqo (by rw[Jt];omega),zqo (by rw[Jt];omega),zqo (by rw[Jt];omega)]
    exact ih k h
   ·obtain rfl:k=n:=by omega
    rw[zqn (by rw[Jt];omega),zqn (by rw[Jt];omega),zqn (by rw[Jt];omega),Jt];rw[show k*3-k*3=0 by omega,show k*3+1-k*3=1 by omega,show k*3+2-k*3=2 by omega];exact⟨rfl,rfl,rfl⟩
 rcases h.2 with⟨_,rfl⟩|⟨g,cap,cur,rfl,hbg,hg,_,_,_,htk⟩
 ·omega
 ·refine⟨g,cap,rfl,hbg,(zqa hg).1,fun k hk=>?_⟩
  have hat:∀j u,(qP n)[j]?=some u->w.cell? ⟨g,j,none⟩=some u:=fun j u hj=>by
   rw[<-htk,List.getElem?_take] at hj;split at hj
   ·rw[show w.cell? ⟨g,j,none⟩=cur[j]? by simp[World.cell?,hg]]
    rw[Array.getElem?_toList] at hj;exact hj
   ·cases hj
  obtain⟨a,b,c⟩:=key n k hk;exact⟨hat _ _ a,hat _ _ b,hat _ _ c⟩
end
def kL:List I5:=[(1,2,0,0,5),(1,3,0,0,-7),(9,2,2,3,0),(28,2,0,0,0)]
theorem jvL:zq 1 2 0 0 5=0:=by
 rw[show(1:Int)=((1:Nat):Int) from rfl,Ja (by decide) (by decide)];exact jbX (by unfold qb;decide) (by unfold j6 JO;decide)
theorem jvM:zq 1 3 0 0 (-7)=0:=by
 rw[show(1:Int)=((1:Nat):Int) from rfl,Ja (by decide) (by decide)];exact jbX (by unfold qb;decide) (by unfold j6 JO;decide)
theorem jvN:zq 9 2 2 3 0=0:=by
 rw[show(9:Int)=((9:Nat):Int) from rfl,Ja (by decide) (by decide)];exact jbX (by unfold qb;decide) (by unfold j6 JO;decide)
theorem jvO:zq 28 2 0 0 0=0:=by
 rw[show(28:Int)=((28:Nat):Int) from rfl,Ja (by decide) (by decide)];exact jbX (by unfold qb;decide) (by unfold j6 JO;decide)
def je8 (W S:Int):Prop:=64<=W/\W<=65536/\16<=S/\S<=65536
theorem jdz {n:Int} (h:n<0\/1024<=n) (w:World):Calls prog 76 #[.int .i64 n] w fun e w'=>e=.returned (.bool false)/\w'=w:=by
 rcases Int.lt_or_le n 0 with h0|h0
 ·have d0:decide ((0:Int)<=n)=false:=zqq (by omega)
  clear h h0;go_enter Tryz.func76,Tryz.ntmps76;go_wp2_with fail;go_ret;exact⟨rfl,rfl⟩
 ·have d0:decide ((0:Int)<=n)=true:=zqr h0
  have d1:decide (n<1024)=false:=zqq (by omega);clear h h0;go_enter Tryz.func76,Tryz.ntmps76;go_wp2_with fail;go_ret;exact⟨rfl,rfl⟩
theorem jaL {n:Int} (h0:0<=n) (h1:n<1024) (w:World):Calls prog 76 #[.int .i64 n] w fun e w'=>e=.returned (.bool true)/\w'=w:=by
 have d0:decide ((0:Int)<=n)=true:=zqr h0;have d1:decide (n<1024)=true:=zqr h1;clear h0 h1;go_enter Tryz.func76,Tryz.ntmps76;go_wp2_with fail;go_ret;exact⟨rfl,rfl⟩
theorem jmZ {w:World} {g b k:Nat} {F:Nat->Value} {v:Int} (hx:Bx w g F) (h0:F 0=.pointer (some ⟨b,0,none⟩)) (hk:k<1024) (hv:F (18+k)=.int .u64 v):Calls prog 66 #[.pointer (some ⟨g,0,none⟩),.int .i64 k] w fun e w'=>e=.returned (.int .u64 v)/\w'=w:=by
 have HN:=hid (QA hx h0);have HG:=hid (jaL (n:=(k:Int)) (by omega) (by omega));have c:=hx.cell (j:=18+k) (by omega);rw[hv] at c;have hk2:(k:Int)<1024:=by omega
 clear hx h0 hv;go_enter Tryz.func66,Tryz.ntmps66;go_wp2_with fail;refine(HN.out).mono ?_;rintro e w' ⟨rfl,hw'⟩;subst w';go_wp2_with fail;refine((HG.out _)).mono ?_;rintro e w' ⟨rfl,hw'⟩;subst w';go_wp2_with fail;go_ret;exact⟨rfl,rfl⟩
theorem jf7:(prog.info? 72).map (fun i=>(i.zero,i.size,i.bytes))=some (some (.agg #[.bool false,.int .i64 0,.int .i64 0]),3,24):=by kernel_rfl
def jag (W S:Int) (gl:Nat):Array Value:=#[.int .i64 W,.int .i64 S,.slice none 0 0,.int .i64 0,.bool false,.int .i64 0,.int .i64 0,.bool false,.int .i64 0,.int .i64 0,.bool false,.int .i64 0,.int .i64 0,.bool false,.int .i64 0,.int .i64 0,.bool false,.int .i64 0,.int .i64 0,.bool false,.int .i64 0,.int .i64 0,.bool false,.int .i64 0,.int .i64 0,.bool false,.int .i64 0,.int .i64 0,.bool false,.int .i64 0,.int .i64 0,.bool false,.int .i64 0,.int .i64 0,.bool false,.int .i64 0,.int .i64 0,.bool false,.int .i64 0,.int .i64 0,.bool false,.int .i64 0,.int .i64 0,.bool false,.int .i64 0,.int .i64 0,.bool false,.int .i64 0,.int .i64 0,.bool false,.int .i64 0,.int .i64 0,.slice none 0 0,.slice none 0 0,.slice (some ⟨gl,0,none⟩) 1024 1024,.bool false,.int .i64 0,.int .i64 0,.bool false,.int .i64 0,.int .i64 0,.int .i64 0,.int .i64 0]
structure RefNew (w:World) (W S:Int) (gl rb:Nat):Prop where
 gb:∃cs:Array Value,w.heap[gl]?=some (.cells cs 72 (0,0))/\∀k,k<1024->cs[k*3]?=some (.bool false)/\cs[k*3+1]?=some (.int .i64 0)/\cs[k*3+2]?=some (.int .i64 0)
 mb:w.heap[rb]?=some (.cells (jag W S gl) 79 (0,0))
theorem RefNew.below {w w1:World} {W S:Int} {gl rb:Nat} (h:RefNew w W S gl rb) (hb:Below w.heap.size w w1):RefNew w1 W S gl rb:=by
 obtain⟨cs,h1,h2⟩:=h.gb;exact⟨⟨cs,(hb.block gl (zqa h1).1).trans h1,h2⟩,(hb.block rb (zqa h.mb).1).trans h.mb⟩
theorem jn7 (W S:Int) (gl:Nat):∀j u,(qP 16)[j]?=some u->(jag W S gl)[4+j]?=some u:=by
 intro j u hj;have e:((jag W S gl).toList.drop 4).take 48=qP 16:=rfl;rw[<-e,List.getElem?_take] at hj;split at hj
 ·rw[List.getElem?_drop] at hj
  rw[<-Array.getElem?_toList];exact hj
 ·cases hj
theorem RefNew.at {w:World} {W S:Int} {gl rb:Nat} (h:RefNew w W S gl rb) {j:Nat} {v:Value} (hv:(jag W S gl)[j]?=some v):w.cell? ⟨rb,j,none⟩=some v:=(jb h.mb j).trans hv
theorem RefNew.regs {w:World} {W S:Int} {gl rb:Nat} (h:RefNew w W S gl rb):∀j u,(qP 16)[j]?=some u->w.cell? ((⟨rb,4,none⟩:Addr).add j)=some u:=fun j u hj=>by
 rw[show(⟨rb,4,none⟩:Addr).add j=⟨rb,4+j,none⟩ from by simp[Addr.add]];exact h.at (jn7 W S gl j u hj)
theorem RefNew.gls {w:World} {W S:Int} {gl rb:Nat} (h:RefNew w W S gl rb):∀j u,(qP 1024)[j]?=some u->w.cell? ((⟨gl,0,none⟩:Addr).add j)=some u:=by
 obtain⟨cs,hb,hc⟩:=h.gb;refine jrm 1024 (fun k hk=>?_);obtain⟨a,b,c⟩:=hc k hk;rw[Nat.zero_add];exact⟨(jb hb _).trans a,(jb hb _).trans b,(jb hb _).trans c⟩
theorem jii (Y:World) (B:Nat):Y.ownsRow B 72 3 (.slice none 0 0) 0 []:=⟨rfl,.inl ⟨rfl,rfl⟩⟩
theorem jfk {B:Nat} {w w1 w2:World} {v:Value} {n:Nat} {xs:List Value} {t:TypeId} {s:Nat} (hb:Below B w w1) (ho:w1.ownsRow B t s v n xs) (hg:w1.grownBy w2 v.ownBlock) (hB:B<=w.heap.size):Below B w w2:=by
 refine hb.grown hg (zqs hB hb.size) (fun k hk=>?_);rcases ho.2 with⟨rfl,_⟩|⟨g,cap,cur,rfl,hbg,_⟩
 ·cases hk
 ·cases hk
  exact hbg
theorem jix {w:World} {W S:Int} {gl rb:Nat} (h:RefNew w W S gl rb):
  Calls prog 86 #[.pointer (some ⟨rb,0,none⟩)] w fun e w'=>(∃v,e=.returned v/\w'.ownsRow w.heap.size 72 3 v 1042 (qP 1042))/\Below w.heap.size w w':=by
 obtain⟨i0,hi,hz0,hz1,hz2⟩:=info_parts jf7;have HH:=hid h;have HR:=hid h.regs;have HL:=hid (Jt 16);have HL2:=hid (Jt 1024);have hrb:=(zqa h.mb).1;have hpn:((some (⟨rb,0,none⟩:Addr))==none)=false:=rfl;clear h;go_enter Tryz.func86,Tryz.ntmps86;go_wp2_with (at_builtin;refine wpList_append_lies _ rfl _ _ 77 rfl w.heap.size 72 i0 (.agg #[.bool false,.int .i64 0,.int .i64 0]) 3 24 Tryz.underlying77 hi hz0 hz1 hz2 rfl (by decide) (.slice none 0 0) 0 [] rfl (jii _ _) ⟨rb,4,none⟩ 16 16 (qP 16) rfl HL.out HR.out (jfN 16) (by decide) (by unfold maxLen;omega) (by omega) (zqg _) w.heap.size rfl ?_;intro g1 cap1 w1 hown1 hgrow1 _ _;have HO1:=hid (show w1.ownsRow w.heap.size 72 3 (.slice (some ⟨g1,0,none⟩) 16 cap1) 16 (qP 16) from hown1);have HB1:=hid (jfk (Below.refl _ w) (jii w w.heap.size) hgrow1 (zqg _));clear hown1 hgrow1);go_loopw [3,4] (fun l i wr=>l=.slice (some ⟨g1,0,none⟩) 16 cap1/\i=.int .i64 0/\wr=w1) (fun _ _ _=>0)
 case atStart=>exact⟨rfl,rfl,rfl⟩
 case round=>
  obtain⟨rfl,rfl,rfl⟩:=hrel;have hR1:RefNew wr W S gl rb:=HH.out.below HB1.out;have HG1:=hid hR1.gls;have c52:=hR1.at (j:=52) (v:=.slice none 0 0) rfl;have c54:=hR1.at (j:=54) (v:=.slice (some ⟨gl,0,none⟩) 1024 1024) rfl;clear hR1;go_wp2_with (at_builtin;refine wpList_append_lies _ rfl _ _ 77 rfl w.heap.size 72 i0 (.agg #[.bool false,.int .i64 0,.int .i64 0]) 3 24 Tryz.underlying77 hi hz0 hz1 hz2 rfl (by decide) (.slice (some ⟨g1,0,none⟩) 16 cap1) 16 (qP 16) rfl HO1.out ⟨gl,0,none⟩ 1024 1024 (qP 1024) rfl HL2.out HG1.out (jfN 1024) (by decide) (by unfold maxLen;omega) (by omega) HB1.out.size wr.heap.size rfl ?_;intro g2 cap2 w2 hown2 hgrow2 _ _;rw[<-jke] at hown2;have HO2:=hid (show w2.ownsRow w.heap.size 72 3 (.slice (some ⟨g2,0,none⟩) 1040 cap2) 1040 (qP 1040) from hown2);have HB2:=hid (jfk HB1.out HO1.out hgrow2 (zqg _));have hR2:=HH.out.below HB2.out;have d55:=hR2.at (j:=55) (v:=.bool false) rfl;have d56:=hR2.at (j:=56) (v:=.int .i64 0) rfl;have d57:=hR2.at (j:=57) (v:=.int .i64 0) rfl;have d58:=hR2.at (j:=58) (v:=.bool false) rfl;have d59:=hR2.at (j:=59) (v:=.int .i64 0) rfl;have d60:=hR2.at (j:=60) (v:=.int .i64 0) rfl;clear hown2 hgrow2 hR2);go_region_law ((refine step_append_lies _ (by rfl) _ _ 77 (by rfl) w.heap.size 72 i0 (.agg #[.bool false,.int .i64 0,.int .i64 0]) 3 24 Tryz.underlying77 hi hz0 hz1 hz2 rfl (by decide) (.slice (some ⟨g2,0,none⟩) 1040 cap2) 1040 (qP 1040) (by rfl) ((HO2.out.drew).alloc _) ⟨w2.heap.size,0,none⟩ 2 2 (qP 2) (by rfl) rfl (World.news_of_block (zqe w2.drew _)) (jfN 2) (by decide) (by unfold maxLen;omega) (by omega) (by have:=HB2.out.size;simp;omega) (w2.heap.size+1) (by simp) ?_;intro g3 cap3 w3 hown3 hgrow3 _ _;have HB3:=hid (jfk (((HB2.out.drew).alloc HB2.out.size _)) ((HO2.out.drew).alloc _) hgrow3 (zqg _));rw[<-jke] at hown3;have HO3:=hid (show w3.ownsRow w.heap.size 72 3 (.slice (some ⟨g3,0,none⟩) 1042 cap3) 1042 (qP 1042) from hown3);clear hown3 hgrow3));all_goals
   go_wp2_with fail;go_ret;exact⟨⟨_,rfl,HO3.out⟩,HB3.out⟩
def jqi (W S:Nat):CM:=⟨W,S,0,[],[],fun _=>1,fun _=>1,0,1,1,[],[],[]⟩
def jZ (W S:Nat):RM:=⟨W,S,[],0,fun _=>.I 0,[],[],fun _=>.I 0,.I 0,.I 0,0,0⟩
theorem jp6 (b W S:Nat):zX 1048 (mcN b S)=zX 1048 (mF (jqi W S) b (.slice none 0 0) (.slice none 0 0) (.slice none 0 0)):=by
 refine congrArg List.toArray (List.map_congr_left fun j hj=>?_);have hj:=List.mem_range.1 hj;by_cases h0:j=0
 ·subst h0;rfl
 by_cases h1:j=1
 ·subst h1;rfl
 by_cases h2:j<18
 ·unfold mF
  rw[if_neg h0,if_neg h1,if_pos h2];unfold mcN mcE;rw[J1 (by omega),J1 (by omega),J1 (by omega)];unfold jaP;rw[if_pos (by omega)];rfl
 by_cases h3:j<1042
 ·unfold mF
  rw[if_neg h0,if_neg h1,if_neg h2,if_pos h3];unfold mcN mcE;rw[J1 (by omega),J1 (by omega),J1 (by omega)];unfold jaP jcT;rw[if_neg (by omega),if_pos (by omega)];rfl
 by_cases h4:j=1042
 ·subst h4;rfl
 by_cases h5:j=1043
 ·subst h5;rfl
 by_cases h6:j=1044
 ·subst h6;rfl
 by_cases h7:j=1045
 ·subst h7;rfl
 by_cases h8:j=1046
 ·subst h8;rfl
 obtain rfl:j=1047:=by omega
 rfl
theorem McAt.new {O:Nat->Prop} {w:World} {g b W S:Nat} (hx:Bx w g (mcN b S)) (m:zi w b W 0 (fun _=>.slice none 0 0) [] []) (z:WF W 0 [] []) (hg:O g) (hb:O b) (hne:g≠b):McAt O w g (jqi W S) b (fun _=>.slice none 0 0) (.slice none 0 0) (.slice none 0 0) (.slice none 0 0):=by
 have ho:∀i,Own b (fun _=>Value.slice none 0 0) i->i=b:=fun i hi=>by
  rcases hi with h|⟨r,_,hr⟩
  ·exact h
  ·cases hr
 unfold Bx at hx;rw[jp6 b W S] at hx;exact⟨hx,m,z,⟨rfl,.inl ⟨rfl,rfl⟩⟩,⟨rfl,.inl ⟨rfl,rfl⟩⟩,⟨rfl,.inl ⟨rfl,rfl⟩⟩,hg,fun i hi=>by rw[ho i hi];exact hb,fun _ e=>(by cases e),fun _ e=>(by cases e),fun _ e=>(by cases e),fun h=>hne (ho g h),fun e=>(by cases e),fun e=>(by cases e),fun e=>(by cases e),fun _ e=>(by cases e),fun _ e=>(by cases e),fun _ e=>(by cases e),fun _ e=>(by cases e),fun _ e=>(by cases e),fun _ e=>(by cases e)⟩
theorem jcZ (W S:Nat) {v:RWd} (h:v∈jr (jZ W S)):v=.I 0:=by
 rcases ja.1 h with⟨_,_,q⟩|⟨_,q,_⟩|⟨_,_,q⟩|q|q
 ·exact q
 ·cases q
 ·exact q
 ·exact q
 ·exact q
theorem Sim.new {W S:Nat} (z:WF W 0 [] []) (hS:S<=30000):Sim (jZ W S) (jqi W S) (fun _=>False) (fun i=>i) (fun i=>Jh [] 0 W i) where
 ad:=fun _=>rfl
 ob:=fun _ h=>h.elim
 inj:=fun _ _ h=>h.elim
 cl:=fun _ h=>h.elim
 rt:=fun k hk=>by cases jcZ W S hk
 wr:=fun v hv=>by rw[jcZ W S hv];exact⟨by decide,by decide⟩
 wo:=fun _ h=>h.elim
 rg:=fun _ _=>rfl
 gl:=fun _ _=>rfl
 us:=fun _ _ _=>rfl
 cd:=rfl
 va:=rfl
 fr:=⟨rfl,fun j x y h=>by cases h⟩
 sl:=rfl
 ha:=rfl
 lim:=rfl
 stk:=rfl
 ul:=Nat.zero_le _
 s1:=by
  show(S:Int)<=30000;omega
 pl:=fun x h=>by cases h
 hf:=fun x h=>by cases h
 hp:=fun x h=>by cases h
 hs:=List.Pairwise.nil
 ft:=by
  show 3*((0:Nat):Int)+0<=(S:Int);omega
 z:=z
theorem Usd.new (W S:Nat):Usd (jZ W S) []:=⟨List.nodup_nil,fun _ h=>(by cases h),⟨fun k hk=>(by cases jcZ W S hk),fun _ h=>(by cases h)⟩,by show((0:Nat):Int)<=0;decide⟩
theorem jjI (K:Nat) (hK:K<=65536):∃cs:Array Value,cs=(zC (List.replicate K (.I 0))).toArray/\∀w:World,(Instr.makeSlice 77 (.int .i64 (K:Int)) (.int .i64 (K:Int))).run prog w=.ok (.slice (some ⟨w.heap.size,0,none⟩) K K) (w.alloc (.cells cs 72)):=by
 obtain⟨i0,hi,hz0,hz1,hz2⟩:=info_parts jf7;refine⟨madeCells (Value.agg #[.bool false,.int .i64 0,.int .i64 0]).cells (K*i0.size),?_,fun w=>?_⟩
 ·rw[hz1,juZ]
  have e:(Value.agg #[.bool false,.int .i64 0,.int .i64 0]).cells=#[.bool false,.int .i64 0,.int .i64 0]:=by rfl
  rw[e];apply Array.ext';apply List.ext_getElem?;intro j;by_cases h:j<K*3
  ·show _=(Zg 3 K fun _ j=>wc (.I 0) j)[j]?
   rw[jiK h];have:j%3=0\/j%3=1\/j%3=2:=by omega
   rcases this with q|q|q<;>simp[madeCells,h,q,wc]
  ·rw[List.getElem?_eq_none (by simp[madeCells];omega),List.getElem?_eq_none (by rw[List.toList_toArray,qN];omega)]
 ·have hr:=run_make (P:=prog) w 77 72 i0 (.agg #[.bool false,.int .i64 0,.int .i64 0]) Tryz.underlying77 hi hz0 .i64 .i64 K K (by omega) (Int.le_refl _) (by rw[hz2];omega) (by omega)
  simp only[Int.toNat_natCast] at hr;exact hr
theorem jnY {w:World} {q K:Nat} (h:w.heap[q]?=some (.cells (zC (List.replicate K (.I 0))).toArray 72 (0,0))) (hK:K<=65536):w.ownsRow 0 72 3 (.slice (some ⟨q,0,none⟩) K K) K (zC (List.replicate K (.I 0))):=by
 have hl:(zC (List.replicate K (.I 0))).length=K*3:=by rw[joY,List.length_replicate]
 exact⟨hl,.inr ⟨q,K,_,rfl,Nat.zero_le _,h,zqg _,by unfold maxLen;omega,by simpa using hl,by rw[zqp (by rw[List.toList_toArray,hl];exact zqg _),List.toList_toArray]⟩⟩
def jb5 (gl:Nat):Lay:=⟨.slice none 0 0,.slice none 0 0,.slice none 0 0,.slice (some ⟨gl,0,none⟩) 1024 1024,fun _=>.slice none 0 0,fun _=>.slice none 0 0,fun _=>.slice none 0 0,fun q=>if q=gl then 4 else 0⟩
theorem jit (W S gl:Nat):jag W S gl=zX 63 (rF (jZ W S) (jb5 gl)):=by rfl
theorem RAt.new {O:Nat->Prop} {w:World} {W S gl rb:Nat} (hg:w.heap[gl]?=some (.cells (zC (List.replicate 1024 (.I 0))).toArray 72 (0,0))) (hm:w.heap[rb]?=some (.cells (jag W S gl) 79 (0,0))) (hne:rb≠gl) (hO:O rb) (hO2:O gl):RAt O w rb (jZ W S) (jb5 gl) where
 bx:=by rw[hm,jit]
 oo:=⟨rfl,.inl ⟨rfl,rfl⟩⟩
 of:=⟨rfl,.inl ⟨rfl,rfl⟩⟩
 oh:=⟨rfl,.inl ⟨rfl,rfl⟩⟩
 ogl:=by
  have e:(List.range 1024).map (jZ W S).gl=List.replicate 1024 (.I 0):=by
   show(List.range 1024).map (fun _=>RWd.I 0)=_;rw[List.map_const',List.length_range]
  rw[e];exact jnY hg (by decide)
 ow:=fun i o h=>by cases h
 oi:=fun i o h=>by cases h
 os:=fun j x h=>by cases h
 Og:=hO
 Oo:=fun q e=>by cases e
 Of:=fun q e=>by cases e
 Oh:=fun q e=>by cases e
 Ogl:=fun q e=>by
  obtain rfl:gl=q:=zqd e;exact⟨hO2,if_pos rfl⟩
 Ow:=fun i o h=>by cases h
 Os:=fun j x h=>by cases h
 Tg:=if_neg hne
theorem joa {W S:Nat} (h:je8 W S) (w:World):
  Calls prog 38 #[.int .i64 W,.int .i64 S] w fun e w'=>e=.returned (.tuple #[.pointer (some ⟨w.heap.size+1,0,none⟩),.bool true])/\(w'.heap[w.heap.size]?=some (.cells (zC (List.replicate 1024 (.I 0))).toArray 72 (0,0))/\w'.heap[w.heap.size+1]?=some (.cells (jag W S w.heap.size) 79 (0,0)))/\Below w.heap.size w w'/\w'.heap.size=w.heap.size+2:=by
 obtain⟨cs,hcs,hmk⟩:=jjI 1024 (by decide);replace hmk:∀w:World,(Instr.makeSlice 77 (.int .i64 1024) (.int .i64 1024)).run prog w=.ok (.slice (some ⟨w.heap.size,0,none⟩) 1024 1024) (w.alloc (.cells cs 72)):=hmk;have hn:=zqe w (.cells cs 72);have hb:=jq w (.cells cs 72);have hsz:(w.alloc (.cells cs 72)).heap.size=w.heap.size+1:=Array.size_push ..;have HF:=hid (show∀Y,((w.alloc (.cells cs 72)).alloc (.cells (jag W S w.heap.size) 79))=Y->(Y.heap[w.heap.size]?=some (.cells (zC (List.replicate 1024 (.I 0))).toArray 72 (0,0))/\Y.heap[w.heap.size+1]?=some (.cells (jag W S w.heap.size) 79 (0,0)))/\Below w.heap.size w Y/\Y.heap.size=w.heap.size+2 from by
  rintro Y rfl;obtain⟨X,hX⟩:∃X,w.alloc (.cells cs 72)=X:=⟨_,rfl⟩;rw[hX] at hn hb hsz ⊢;have hb2:=jq X (.cells (jag W S w.heap.size) 79);have hn2:=zqe X (.cells (jag W S w.heap.size) 79);have hsz2:(X.alloc (.cells (jag W S w.heap.size) 79)).heap.size=X.heap.size+1:=Array.size_push ..;rw[hsz] at hn2;exact⟨⟨((hb2.block _ (by omega)).trans hn).trans (by rw[hcs]),hn2⟩,hb.trans (hb2.mono hb.size),by omega⟩)
 unfold je8 at h;have d0:decide ((W:Int)<64)=false:=zqq (by omega);have d1:decide ((65536:Int)<(W:Int))=false:=zqq (by omega);have d2:decide ((S:Int)<16)=false:=zqq (by omega);have d3:decide ((65536:Int)<(S:Int))=false:=zqq (by omega);clear h hcs hn hb hsz;go_enter Tryz.func38,Tryz.ntmps38;go_wp2_with fail;go_ret2;exact⟨rfl,HF.out _ rfl⟩
