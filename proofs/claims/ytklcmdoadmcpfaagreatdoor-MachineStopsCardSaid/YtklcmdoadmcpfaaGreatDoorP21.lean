/- A part of the proof of MachineStops: pruned, joined and printed small by a script. Conditions: those that each theorem names. -/
import Derived.Test.YtklcmdoadmcpfaaGreatDoorP00
import Derived.Test.YtklcmdoadmcpfaaGreatDoorP20
import Derived.Test.YtklcmdoadmcpfaaGreatDoorP02
import Derived.Maps.AppendAt
import Derived.Test.YtklcmdoadmcpfaaGreatDoorP08
import Derived.Test.YtklcmdoadmcpfaaGreatDoorP05
import Derived.Test.YtklcmdoadmcpfaaGreatDoorP11
import Derived.Deep.Cut
import Derived.Test.YtklcmdoadmcpfaaGreatDoorP09
import Derived.Deep.AppendLies
import Derived.Test.YtklcmdoadmcpfaaGreatDoorP12
set_option maxRecDepth 100000
set_option maxHeartbeats 400000000
namespace Go.Proofs.YtklcmdoadmcpfaaGreatDoor
open Go Go.RowKit IsaL
open Go.Lib(hid)
open Go.Proofs.Tryz(prog)
structure Clo (M:RM) (S:Nat->Prop):Prop where
 rt:∀k,RWd.P k∈jr M->S k
 cl:∀i,S i->∀k,RWd.P k∈z7 M.objs i->S k
structure Usd (M:RM) (E:List Nat):Prop where
 nd:E.Nodup
 lt:∀i∈E,i<M.objs.length
 co:Clo M (fun i=>i∈E)
 us:(qO M.objs E:Int)<=M.used
theorem meetRL_in {S:Nat->Prop}:∀(ws:List RWd) {out:List Nat},(∀i∈out,S i)->(∀k,RWd.P k∈ws->S k)->∀i∈Ja out ws,S i
 |[],_,h,_=>h
 |v::ws,out,h,hw=>by
  refine meetRL_in ws (out:=meetR out v) (fun i hi=>?_) (fun k hk=>hw k (List.mem_cons_of_mem _ hk));cases v with
  |I n=>exact h i hi
  |P k=>
   rw[meetR_P] at hi;split at hi
   ·exact h i hi
   ·rcases List.mem_append.1 hi with q|q
    ·exact h i q
    ·rw[List.mem_singleton.1 q]
     exact hw k (by simp)
theorem bfsR_in {S:Nat->Prop} {os:List RObj} (hc:∀i,S i->∀k,RWd.P k∈z7 os i->S k):∀(n i:Nat) {out:List Nat},(∀j∈out,S j)->∀j∈J0 os n i out,S j
 |0,_,_,h=>h
 |n+1,i,out,h=>by
  unfold J0;cases e:out[i]? with
  |none=>exact h
  |some k=>exact bfsR_in hc n (i+1) (meetRL_in _ h (hc k (h k (zqc e))))
theorem order_in {M:RM} {S:Nat->Prop} (h:Clo M S):∀j∈Jw M.objs (jr M),S j:=
 bfsR_in h.cl _ _ (meetRL_in _ (fun _ q=>by cases q) h.rt)
theorem order_nd (M:RM):(Jw M.objs (jr M)).Nodup:=bfsR_nd M.objs _ _ (meetRL_nd (os:=M.objs) _ List.nodup_nil)
theorem Usd.live {M:RM} {E:List Nat} (h:Usd M E):(Zj M:Int)<=M.used:=by
 have:qO M.objs (Jw M.objs (jr M))<=qO M.objs E:=McG.sum_less (order_nd M) (order_in h.co);have:=h.us;unfold Zj;omega
theorem needs_used {now:List Ob} {met:List Nat} (ok:Okm now met):Jl now met<=used now:=by
 have h1:Jl now met<=Jl now (List.range now.length):=McG.sum_less ok.nd fun x hx=>List.mem_range.2 (ok.lt x hx);have h2:Jl now (List.range now.length)=used now:=by
  have gen:∀(l:List Ob) (n:Nat),n<=l.length->Jl l (List.range n)=used (l.take n):=fun l n=>by
   induction n with
   |zero=>intro _;rfl
   |succ n ih=>
    intro hn;rw[List.range_succ,needs_snoc,ih (by omega),List.take_succ_eq_append_getElem (by omega),z6,Zu,List.getElem?_eq_getElem (by omega)];rfl
  rw[gen now now.length (zqg _),List.take_length]
 omega
section
variable {M:RM} {C:CM} {D:Nat->Prop} {f A:Nat->Nat}
theorem Sim.lt (s:Sim M C D f A) {v:RWd} (hv:∀k,v=.P k->D k):jz A v<18446744073709551616:=by
 cases v with
 |I n=>show(jP n).toNat<_;unfold jP;omega
 |P k=>
  have:=Zo.1 (s.ptr (hv k rfl));show A k<_;omega
theorem sum_take_le (l:List RFm):∀j,((l.take j).map fun z=>z.slots.length).sum<=(l.flatMap fun x=>x.slots).length:=fun j=>by
 rw[List.length_flatMap]
 conv=>rhs;rw[<-List.take_append_drop j l]
 rw[List.map_append,List.sum_append];omega
theorem zS (M:RM):qh M=3*(M.frs.length:Int)+((M.frs.flatMap fun x=>x.slots).length:Int)+3*(M.has.length:Int):=by
 unfold qh;have:∀l:List RFm,(l.map fun f=>3+(f.slots.length:Int)).sum=3*(l.length:Int)+((l.flatMap fun x=>x.slots).length:Int):=fun l=>by
  induction l with
  |nil=>rfl
  |cons x l ih=>
   rw[List.map_cons,List.sum_cons,ih,List.flatMap_cons,List.length_append,List.length_cons];omega
 rw[this];omega
section
variable (s:Sim M C D f A)
include s
theorem Sim.slen:C.sl.length=(M.frs.flatMap fun x=>x.slots).length:=by rw[s.sl,List.length_map]
theorem Sim.ok:OkC C where
 rg:=fun k hk=>by rw[s.rg k hk];exact s.lt fun i e=>s.rt i (ja.2 (.inl ⟨k,hk,e.symm⟩))
 gl:=fun k hk=>by rw[s.gl k hk];exact s.lt fun i e=>s.rt i (ja.2 (.inr (.inr (.inl ⟨k,hk,e.symm⟩))))
 sl:=fun x hx=>by
  rw[s.sl] at hx;obtain⟨v,hv,rfl⟩:=List.mem_map.1 hx;obtain⟨y,h1,h2⟩:=List.mem_flatMap.1 hv;exact s.lt fun i e=>s.rt i (ja.2 (.inr (.inl ⟨y,h1,.inr (e▸h2)⟩)))
 cd:=by rw[s.cd];exact s.lt fun i e=>s.rt i (ja.2 (.inr (.inr (.inr (.inl e.symm)))))
 va:=by rw[s.va];exact s.lt fun i e=>s.rt i (ja.2 (.inr (.inr (.inr (.inr e.symm)))))
 fc:=fun y hy=>by
  have:y.code∈C.fr.map fun x=>x.code:=List.mem_map.2 ⟨y,hy,rfl⟩;rw[s.fr.code] at this;obtain⟨x,h1,h2⟩:=List.mem_map.1 this;rw[<-h2];exact s.lt fun i e=>s.rt i (ja.2 (.inr (.inl ⟨x,h1,.inl e.symm⟩)))
 fs:=fun y hy=>by
  obtain⟨j,hj⟩:=List.getElem?_of_mem hy;have hl:=(zqb hj).1;obtain⟨_,_,_,i,o,h1,h2,h3,h4,h5⟩:=s.fr.nth j _ y (List.getElem?_eq_getElem (by rw[<-s.fr.len];exact hl)) hj;have hd:D i:=s.rt i (ja.2 (.inr (.inl ⟨_,List.getElem_mem (by rw[<-s.fr.len];exact hl),.inl h1.symm⟩)));obtain⟨o',g1,g2,_⟩:=s.ob i hd;rw[h2] at g1;obtain rfl:=zqd g1;rcases g2.kd with⟨q,_⟩|⟨q,_⟩|⟨_,_,q⟩
  ·omega
  ·omega
  ·omega
 bs:=fun y hy=>by
  obtain⟨j,hj⟩:=List.getElem?_of_mem hy;have hl:=(zqb hj).1;obtain⟨_,_,h3,_⟩:=s.fr.nth j _ y (List.getElem?_eq_getElem (by rw[<-s.fr.len];exact hl)) hj;rw[h3,s.slen];exact sum_take_le _ _
 fp:=fun y hy=>by
  obtain⟨j,hj⟩:=List.getElem?_of_mem hy;have hl:=(zqb hj).1;obtain⟨_,h2,_⟩:=s.fr.nth j _ y (List.getElem?_eq_getElem (by rw[<-s.fr.len];exact hl)) hj;rw[h2];exact s.pl _ (List.getElem_mem _)
 hf:=fun p hp=>by rw[s.fr.len];rw[s.ha] at hp;exact s.hf p hp
 hp:=fun p hp=>by rw[s.ha] at hp;exact s.hp p hp
 ft:=by
  have:=s.ft;rw[zS,s.stk] at this;rw[s.fr.len,s.slen,s.ha];omega
 s1:=by have:=s.s1;omega
 us:=s.ul
theorem Sim.odd (met:List Nat):OddC C (zw C.h C.W C.now met):=by
 have key:∀v:RWd,v∈jr M->jf (jz A v:Int)=false->zw C.h C.W C.now met (jz A v)=jz A v:=fun v hv hp=>by
  cases v with
  |I n=>exact renW_int (ZB A n)
  |P k=>
   have:=s.ptr (s.rt k hv);rw[show jz A (.P k)=A k from rfl,this] at hp;cases hp
 refine⟨fun k hk hp=>?_,fun k hk hp=>?_,fun k hk hp=>?_,fun hp=>?_,fun hp=>?_⟩
 ·rw[s.rg k hk] at hp ⊢
  exact key _ (ja.2 (.inl ⟨k,hk,rfl⟩)) hp
 ·have hu:=s.ul
  rw[s.gl k (by omega)] at hp ⊢;exact key _ (ja.2 (.inr (.inr (.inl ⟨k,by omega,rfl⟩)))) hp
 ·have:qH C k∈C.sl:=by
   unfold qH;rw[List.getD_eq_getElem?_getD,List.getElem?_eq_getElem hk];exact List.getElem_mem hk
  rw[s.sl] at this;obtain⟨v,hv,e⟩:=List.mem_map.1 this;obtain⟨x,h1,h2⟩:=List.mem_flatMap.1 hv;rw[<-e] at hp ⊢;exact key v (ja.2 (.inr (.inl ⟨x,h1,.inr h2⟩))) hp
 ·rw[s.cd] at hp ⊢
  exact key _ (ja.2 (.inr (.inr (.inr (.inl rfl))))) hp
 ·rw[s.va] at hp ⊢
  exact key _ (ja.2 (.inr (.inr (.inr (.inr rfl))))) hp
theorem Sim.codes:∀y∈C.fr,jf (y.code:Int)=true:=fun y hy=>by
 obtain⟨j,hj⟩:=List.getElem?_of_mem hy;have hl:=(zqb hj).1;obtain⟨h0,_,_,i,o,h1,_⟩:=s.fr.nth j _ y (List.getElem?_eq_getElem (by rw[<-s.fr.len];exact hl)) hj;rw[h0,h1];exact s.ptr (s.rt i (ja.2 (.inr (.inl ⟨_,List.getElem_mem (by rw[<-s.fr.len];exact hl),.inl h1.symm⟩))))
theorem Sim.used (u:Int):Sim {M with used:=u} C D f A:={s with}
end
end
section
variable {O:Nat->Prop} {w:World} {g b:Nat} {M:RM} {C:CM} {D:Nat->Prop} {f A:Nat->Nat} {R:Nat->Value} {vf vs vh:Value}
def Stands (O:Nat->Prop) (w w':World) (g b:Nat) (M:RM) (vf vs vh:Value) (P:CM->Prop):Prop:=∃C' R' D' f' A',McAt O w' g C' b R' vf vs vh/\Sim M C' D' f' A'/\Fr O w w'/\P C'
theorem usedB {C:CM} {met:List Nat} (hr:zO C.now C.h C.W (zG C)=some met):Jl C.now met<=used C.now/\used (JD C.h C.W C.now met)=Jl C.now met:=
 ⟨needs_used (Jr hr),used_newF _ _ _ _ (Jr hr).lt⟩
theorem room_sim (a:McAt O w g C b R vf vs vh) (s:Sim M C D f A) (hO:∀i,w.heap.size<=i->O i) {E:List Nat} (u:Usd M E) (n:Nat):
  Calls prog 42 #[.pointer (some ⟨g,0,none⟩),.int .i64 n] w fun e w'=>e=.returned (.bool (jx M n).2)/\Stands O w w' g b (jx M n).1 vf vs vh (fun C'=>(jx M n).2=true->used C'.now+n<=C'.W):=by
 obtain⟨met,hr,hliv,hsim⟩:=s.coll;obtain⟨hb1,hb2⟩:=usedB hr;have hlv:=u.live;have hlim:=s.lim;have hres:(jx M n).2=decide (Zj M+n<=C.W):=by
  unfold jx;split
  ·exact(decide_eq_true (by omega)).symm
  ·exact decide_eq_decide.2 (by omega)
 have hst:∀{C':CM} {D':Nat->Prop} {f' A':Nat->Nat},Sim M C' D' f' A'->Sim (jx M n).1 C' D' f' A':=fun q=>by
  unfold jx;split
  ·exact q
  ·exact q.used _
 rw[hres];by_cases hfree:used C.now+n<=C.W
 ·rw[decide_eq_true (show Zj M+n<=C.W by omega)]
  refine(room_free a n hfree).mono ?_;rintro e w' ⟨rfl,q,rfl⟩;exact⟨rfl,C,R,D,f,A,a.drewN q,hst s,(Fr.refl O w).drewN q,fun _=>hfree⟩
 ·have c0:=a.c0
  obtain⟨X,hX⟩:∃X:Int,(C.W:Int)-used C.now=X:=⟨_,rfl⟩;have HF:=hid (free_m a.m a.z rfl X hX);have d0:decide (X<(n:Int))=true:=decide_eq_true (by omega);obtain⟨X2,hX2⟩:∃X2:Int,(C.W:Int)-Zj M=X2:=⟨_,rfl⟩;have HC:=hid (fun q=>(coll_c (a.drewN q) s.ok s.s1 hO hr (s.odd met) s.codes).mono (fun e w' h=>(show(∃v,e=.returned v)/\∃R',McAt O w' g (QI C met) b R' vf vs vh/\Fr O w w'/\w'.cell? ⟨g,0,none⟩=some (.pointer (some ⟨b,0,none⟩))/\Calls prog 34 #[.pointer (some ⟨b,0,none⟩)] w' fun e w2=>e=.returned (.int .i64 X2)/\∃q,w2=w'.drewN q from by
   obtain⟨h1,⟨R',h2⟩,h3⟩:=h;exact⟨h1,R',h2,((Fr.refl O w).drewN q).trans h3 (fun i hi=>.inl hi),h2.c0,free_m h2.m h2.z (hb2.trans hliv) X2 hX2⟩)))
  have hdec:decide ((n:Int)<=X2)=decide (Zj M+n<=C.W):=decide_eq_decide.2 (by omega);have HD:=hid hdec;have HC0:=hid c0;have HU:=hid (show Zj M+n<=C.W->used (QI C met).now+n<=(QI C met).W from fun q=>by
   show used (JD C.h C.W C.now met)+n<=C.W;rw[hb2,hliv];exact q)
  have hX3:X2<=9000000000000000000:=by have:=a.z.w1;omega
  clear a s hO u hr hb1 hb2 hlv hlim hres hfree hX hX2 hdec hliv;go_enter Tryz.func42,Tryz.ntmps42;go_wp2_with fail;refine HF.out.mono ?_;rintro e w1 ⟨rfl,q,hq⟩;have HC1:=hid (show Calls _ _ _ w1 _ from by have:=HC.out q;rw[<-hq] at this;exact this);clear hq c0;go_wp2_with fail;refine HC1.out.mono ?_;rintro e w2 ⟨⟨v,rfl⟩,R',h2,h3,h4,h5⟩;have H2:=hid (zqf h2 h3);have H5:=hid h5;clear h2 h3 h5;go_wp2_with fail;refine H5.out.mono ?_;rintro e w3 ⟨rfl,q3,hq3⟩;have HQ3:=hid hq3;clear hq3;go_wp2_with fail;go_ret;obtain⟨D',f',A',_,hs'⟩:=hsim H2.out.1.z;refine⟨by rw[<-HD.out];rfl,QI C met,R',D',f',A',?_,hst hs',?_,fun q=>HU.out (of_decide_eq_true q)⟩
  ·rw[HQ3.out];exact H2.out.1.drewN q3
  ·rw[HQ3.out];exact H2.out.2.drewN q3
end
section
open Go Go.RowKit
def qN:Nat->List Value
 |0=>[]
 |n+1=>qN n++[.bool false,.int .i64 0,.int .i64 0]
theorem Jn (n:Nat):(qN n).length=n*3:=by
 induction n with
 |zero=>rfl
 |succ n ih=>show(qN n++_).length=_;rw[List.length_append,ih];simp;omega
theorem zsR_add (a b:Nat):qN (a+b)=qN a++qN b:=by
 induction b with
 |zero=>exact(List.append_nil _).symm
 |succ b ih=>show qN (a+b)++_=qN a++(qN b++_);rw[ih,List.append_assoc]
theorem zsR_one (n:Nat):∀u∈qN n,u.oneCell'=true:=by
 induction n with
 |zero=>intro u hu;cases hu
 |succ n ih=>
  intro u hu;rcases List.mem_append.1 (show u∈qN n++_ from hu) with h|h
  ·exact ih u h
  ·simp at h
   rcases h with rfl|rfl<;>rfl
theorem zsR_cell {w:World} {g o:Nat}:∀(n:Nat),(∀k,k<n->w.cell? ⟨g,o+k*3,none⟩=some (.bool false)/\w.cell? ⟨g,o+k*3+1,none⟩=some (.int .i64 0)/\w.cell? ⟨g,o+k*3+2,none⟩=some (.int .i64 0))->∀j u,(qN n)[j]?=some u->w.cell? ((⟨g,o,none⟩:Addr).add j)=some u:=by
 intro n;induction n with
 |zero=>intro _ j u hj;cases hj
 |succ n ih=>
  intro h j u hj;change (qN n++_)[j]?=some u at hj;by_cases hl:j<n*3
  ·rw[List.getElem?_append_left (by rw[Jn];exact hl)] at hj
   exact ih (fun k hk=>h k (by omega)) j u hj
  ·rw[List.getElem?_append_right (by rw[Jn];omega),Jn] at hj
   obtain⟨h0,h1,h2⟩:=h n (by omega);obtain⟨d,hd⟩:∃d,j=n*3+d:=⟨j-n*3,by omega⟩;subst hd;rw[Nat.add_sub_cancel_left] at hj;have hlt:d<3:=by
    have:=(zqb hj).1;simpa using this
   rw[show(⟨g,o,none⟩:Addr).add (n*3+d)=⟨g,o+(n*3+d),none⟩ from by simp[Addr.add]];rcases(show d=0\/d=1\/d=2 by omega) with rfl|rfl|rfl
   ·obtain rfl:Value.bool false=u:=by simpa using hj
    exact h0
   ·obtain rfl:Value.int .i64 0=u:=by simpa using hj
    exact h1
   ·obtain rfl:Value.int .i64 0=u:=by simpa using hj
    exact h2
theorem zsR_row {w:World} {B n:Nat} {v:Value} {t:TypeId} (h:w.ownsRow B t 3 v n (qN n)) (hn:0<n):∃g c,v=.slice (some ⟨g,0,none⟩) n c/\B<=g/\g<w.heap.size/\∀k,k<n->w.cell? ⟨g,k*3,none⟩=some (.bool false)/\w.cell? ⟨g,k*3+1,none⟩=some (.int .i64 0)/\w.cell? ⟨g,k*3+2,none⟩=some (.int .i64 0):=by
 have key:∀n k,k<n->(qN n)[k*3]?=some (.bool false)/\(qN n)[k*3+1]?=some (.int .i64 0)/\(qN n)[k*3+2]?=some (.int .i64 0):=by
  intro n;induction n with
  |zero=>intro k hk;omega
  |succ n ih=>
   intro k hk;show(qN n++_)[k*3]?=_/\(qN n++_)[k*3+1]?=_/\(qN n++_)[k*3+2]?=_;by_cases h:k<n
   ·rw[List.getElem?_append_left (by rw[Jn];omega),List.getElem?_append_left (by rw[Jn];omega),List.getElem?_append_left (by rw[Jn];omega)]
    exact ih k h
   ·obtain rfl:k=n:=by omega
    rw[List.getElem?_append_right (by rw[Jn];omega),List.getElem?_append_right (by rw[Jn];omega),List.getElem?_append_right (by rw[Jn];omega),Jn];rw[show k*3-k*3=0 by omega,show k*3+1-k*3=1 by omega,show k*3+2-k*3=2 by omega];exact⟨rfl,rfl,rfl⟩
 rcases h.2 with⟨_,rfl⟩|⟨g,cap,cur,rfl,hbg,hg,_,_,_,htk⟩
 ·omega
 ·refine⟨g,cap,rfl,hbg,(zqa hg).1,fun k hk=>?_⟩
  have hat:∀j u,(qN n)[j]?=some u->w.cell? ⟨g,j,none⟩=some u:=fun j u hj=>by
   rw[<-htk,List.getElem?_take] at hj;split at hj
   ·rw[show w.cell? ⟨g,j,none⟩=cur[j]? by simp[World.cell?,hg]]
    rw[Array.getElem?_toList] at hj;exact hj
   ·cases hj
  obtain⟨a,b,c⟩:=key n k hk;exact⟨hat _ _ a,hat _ _ b,hat _ _ c⟩
end
def kL:List I5:=[(1,2,0,0,5),(1,3,0,0,-7),(9,2,2,3,0),(28,2,0,0,0)]
theorem k_c1:zH 1 2 0 0 5=0:=by
 rw[show(1:Int)=((1:Nat):Int) from rfl,qV (by decide) (by decide)];exact chk_0 (by unfold qb;decide) (by unfold j9 JG;decide)
theorem k_c2:zH 1 3 0 0 (-7)=0:=by
 rw[show(1:Int)=((1:Nat):Int) from rfl,qV (by decide) (by decide)];exact chk_0 (by unfold qb;decide) (by unfold j9 JG;decide)
theorem k_c3:zH 9 2 2 3 0=0:=by
 rw[show(9:Int)=((9:Nat):Int) from rfl,qV (by decide) (by decide)];exact chk_0 (by unfold qb;decide) (by unfold j9 JG;decide)
theorem k_c4:zH 28 2 0 0 0=0:=by
 rw[show(28:Int)=((28:Nat):Int) from rfl,qV (by decide) (by decide)];exact chk_0 (by unfold qb;decide) (by unfold j9 JG;decide)
def sizeOk (W S:Int):Prop:=64<=W/\W<=65536/\16<=S/\S<=65536
theorem isglobal_no {n:Int} (h:n<0\/1024<=n) (w:World):Calls prog 76 #[.int .i64 n] w fun e w'=>e=.returned (.bool false)/\w'=w:=by
 rcases Int.lt_or_le n 0 with h0|h0
 ·have d0:decide ((0:Int)<=n)=false:=decide_eq_false (by omega)
  clear h h0;go_enter Tryz.func76,Tryz.ntmps76;go_wp2_with fail;go_ret;exact⟨rfl,rfl⟩
 ·have d0:decide ((0:Int)<=n)=true:=decide_eq_true h0
  have d1:decide (n<1024)=false:=decide_eq_false (by omega);clear h h0;go_enter Tryz.func76,Tryz.ntmps76;go_wp2_with fail;go_ret;exact⟨rfl,rfl⟩
theorem isglobal_yes {n:Int} (h0:0<=n) (h1:n<1024) (w:World):Calls prog 76 #[.int .i64 n] w fun e w'=>e=.returned (.bool true)/\w'=w:=by
 have d0:decide ((0:Int)<=n)=true:=decide_eq_true h0;have d1:decide (n<1024)=true:=decide_eq_true h1;clear h0 h1;go_enter Tryz.func76,Tryz.ntmps76;go_wp2_with fail;go_ret;exact⟨rfl,rfl⟩
theorem infoRWord:(prog.info? 72).map (fun i=>(i.zero,i.size,i.bytes))=some (some (.agg #[.bool false,.int .i64 0,.int .i64 0]),3,24):=by kernel_rfl
def Q6 (W S:Int) (gl:Nat):Array Value:=#[.int .i64 W,.int .i64 S,.slice none 0 0,.int .i64 0,.bool false,.int .i64 0,.int .i64 0,.bool false,.int .i64 0,.int .i64 0,.bool false,.int .i64 0,.int .i64 0,.bool false,.int .i64 0,.int .i64 0,.bool false,.int .i64 0,.int .i64 0,.bool false,.int .i64 0,.int .i64 0,.bool false,.int .i64 0,.int .i64 0,.bool false,.int .i64 0,.int .i64 0,.bool false,.int .i64 0,.int .i64 0,.bool false,.int .i64 0,.int .i64 0,.bool false,.int .i64 0,.int .i64 0,.bool false,.int .i64 0,.int .i64 0,.bool false,.int .i64 0,.int .i64 0,.bool false,.int .i64 0,.int .i64 0,.bool false,.int .i64 0,.int .i64 0,.bool false,.int .i64 0,.int .i64 0,.slice none 0 0,.slice none 0 0,.slice (some ⟨gl,0,none⟩) 1024 1024,.bool false,.int .i64 0,.int .i64 0,.bool false,.int .i64 0,.int .i64 0,.int .i64 0,.int .i64 0]
structure RefNew (w:World) (W S:Int) (gl rb:Nat):Prop where
 gb:∃cs:Array Value,w.heap[gl]?=some (.cells cs 72 (0,0))/\∀k,k<1024->cs[k*3]?=some (.bool false)/\cs[k*3+1]?=some (.int .i64 0)/\cs[k*3+2]?=some (.int .i64 0)
 mb:w.heap[rb]?=some (.cells (Q6 W S gl) 79 (0,0))
theorem RefNew.below {w w1:World} {W S:Int} {gl rb:Nat} (h:RefNew w W S gl rb) (hb:Below w.heap.size w w1):RefNew w1 W S gl rb:=by
 obtain⟨cs,h1,h2⟩:=h.gb;exact⟨⟨cs,(hb.block gl (zqa h1).1).trans h1,h2⟩,(hb.block rb (zqa h.mb).1).trans h.mb⟩
theorem refM_regs (W S:Int) (gl:Nat):∀j u,(qN 16)[j]?=some u->(Q6 W S gl)[4+j]?=some u:=by
 intro j u hj;have e:((Q6 W S gl).toList.drop 4).take 48=qN 16:=rfl;rw[<-e,List.getElem?_take] at hj;split at hj
 ·rw[List.getElem?_drop] at hj
  rw[<-Array.getElem?_toList];exact hj
 ·cases hj
section
variable {w:World} {W S:Int} {gl rb:Nat} (h:RefNew w W S gl rb)
include w W S gl rb h
theorem RefNew.at {j:Nat} {v:Value} (hv:(Q6 W S gl)[j]?=some v):w.cell? ⟨rb,j,none⟩=some v:=(jb h.mb j).trans hv
theorem RefNew.regs:∀j u,(qN 16)[j]?=some u->w.cell? ((⟨rb,4,none⟩:Addr).add j)=some u:=fun j u hj=>by
 rw[show(⟨rb,4,none⟩:Addr).add j=⟨rb,4+j,none⟩ from by simp[Addr.add]];exact h.at (refM_regs W S gl j u hj)
theorem RefNew.gls:∀j u,(qN 1024)[j]?=some u->w.cell? ((⟨gl,0,none⟩:Addr).add j)=some u:=by
 obtain⟨cs,hb,hc⟩:=h.gb;refine zsR_cell 1024 (fun k hk=>?_);obtain⟨a,b,c⟩:=hc k hk;rw[Nat.zero_add];exact⟨(jb hb _).trans a,(jb hb _).trans b,(jb hb _).trans c⟩
end
theorem own_nilZ (Y:World) (B:Nat):Y.ownsRow B 72 3 (.slice none 0 0) 0 []:=⟨rfl,.inl ⟨rfl,rfl⟩⟩
theorem gr_from {B:Nat} {w w1 w2:World} {v:Value} {n:Nat} {xs:List Value} {t:TypeId} {s:Nat} (hb:Below B w w1) (ho:w1.ownsRow B t s v n xs) (hg:w1.grownBy w2 v.ownBlock) (hB:B<=w.heap.size):Below B w w2:=by
 refine hb.grown hg (Nat.le_trans hB hb.size) (fun k hk=>?_);rcases ho.2 with⟨rfl,_⟩|⟨g,cap,cur,rfl,hbg,_⟩
 ·cases hk
 ·cases hk
  exact hbg
theorem refroots_new {w:World} {W S:Int} {gl rb:Nat} (h:RefNew w W S gl rb):
  Calls prog 86 #[.pointer (some ⟨rb,0,none⟩)] w fun e w'=>(∃v,e=.returned v/\w'.ownsRow w.heap.size 72 3 v 1042 (qN 1042))/\Below w.heap.size w w':=by
 obtain⟨i0,hi,hz0,hz1,hz2⟩:=info_parts infoRWord;have HH:=hid h;have HR:=hid h.regs;have HL:=hid (Jn 16);have HL2:=hid (Jn 1024);have hrb:=(zqa h.mb).1;have hpn:((some (⟨rb,0,none⟩:Addr))==none)=false:=rfl;clear h;go_enter Tryz.func86,Tryz.ntmps86;go_wp2_with (at_builtin;refine wpList_append_lies _ rfl _ _ 77 rfl w.heap.size 72 i0 (.agg #[.bool false,.int .i64 0,.int .i64 0]) 3 24 Tryz.underlying77 hi hz0 hz1 hz2 rfl (by decide) (.slice none 0 0) 0 [] rfl (own_nilZ _ _) ⟨rb,4,none⟩ 16 16 (qN 16) rfl HL.out HR.out (zsR_one 16) (by decide) (by unfold maxLen;omega) (by omega) (zqg _) w.heap.size rfl ?_;intro g1 cap1 w1 hown1 hgrow1 _ _;have HO1:=hid (show w1.ownsRow w.heap.size 72 3 (.slice (some ⟨g1,0,none⟩) 16 cap1) 16 (qN 16) from hown1);have HB1:=hid (gr_from (Below.refl _ w) (own_nilZ w w.heap.size) hgrow1 (zqg _));clear hown1 hgrow1);go_loopw [3,4] (fun l i wr=>l=.slice (some ⟨g1,0,none⟩) 16 cap1/\i=.int .i64 0/\wr=w1) (fun _ _ _=>0)
 case atStart=>exact⟨rfl,rfl,rfl⟩
 case round=>
  obtain⟨rfl,rfl,rfl⟩:=hrel;have hR1:RefNew wr W S gl rb:=HH.out.below HB1.out;have HG1:=hid hR1.gls;have c52:=hR1.at (j:=52) (v:=.slice none 0 0) rfl;have c54:=hR1.at (j:=54) (v:=.slice (some ⟨gl,0,none⟩) 1024 1024) rfl;clear hR1;go_wp2_with (at_builtin;refine wpList_append_lies _ rfl _ _ 77 rfl w.heap.size 72 i0 (.agg #[.bool false,.int .i64 0,.int .i64 0]) 3 24 Tryz.underlying77 hi hz0 hz1 hz2 rfl (by decide) (.slice (some ⟨g1,0,none⟩) 16 cap1) 16 (qN 16) rfl HO1.out ⟨gl,0,none⟩ 1024 1024 (qN 1024) rfl HL2.out HG1.out (zsR_one 1024) (by decide) (by unfold maxLen;omega) (by omega) HB1.out.size wr.heap.size rfl ?_;intro g2 cap2 w2 hown2 hgrow2 _ _;rw[<-zsR_add] at hown2;have HO2:=hid (show w2.ownsRow w.heap.size 72 3 (.slice (some ⟨g2,0,none⟩) 1040 cap2) 1040 (qN 1040) from hown2);have HB2:=hid (gr_from HB1.out HO1.out hgrow2 (zqg _));have hR2:=HH.out.below HB2.out;have d55:=hR2.at (j:=55) (v:=.bool false) rfl;have d56:=hR2.at (j:=56) (v:=.int .i64 0) rfl;have d57:=hR2.at (j:=57) (v:=.int .i64 0) rfl;have d58:=hR2.at (j:=58) (v:=.bool false) rfl;have d59:=hR2.at (j:=59) (v:=.int .i64 0) rfl;have d60:=hR2.at (j:=60) (v:=.int .i64 0) rfl;clear hown2 hgrow2 hR2);go_region_law ((refine step_append_lies _ (by rfl) _ _ 77 (by rfl) w.heap.size 72 i0 (.agg #[.bool false,.int .i64 0,.int .i64 0]) 3 24 Tryz.underlying77 hi hz0 hz1 hz2 rfl (by decide) (.slice (some ⟨g2,0,none⟩) 1040 cap2) 1040 (qN 1040) (by rfl) ((HO2.out.drew).alloc _) ⟨w2.heap.size,0,none⟩ 2 2 (qN 2) (by rfl) rfl (World.news_of_block (zqe w2.drew _)) (zsR_one 2) (by decide) (by unfold maxLen;omega) (by omega) (by have:=HB2.out.size;simp;omega) (w2.heap.size+1) (by simp) ?_;intro g3 cap3 w3 hown3 hgrow3 _ _;have HB3:=hid (gr_from (((HB2.out.drew).alloc HB2.out.size _)) ((HO2.out.drew).alloc _) hgrow3 (zqg _));rw[<-zsR_add] at hown3;have HO3:=hid (show w3.ownsRow w.heap.size 72 3 (.slice (some ⟨g3,0,none⟩) 1042 cap3) 1042 (qN 1042) from hown3);clear hown3 hgrow3));all_goals
   go_wp2_with fail;go_ret;exact⟨⟨_,rfl,HO3.out⟩,HB3.out⟩
def newC (W S:Nat):CM:=⟨W,S,0,[],[],fun _=>1,fun _=>1,0,1,1,[],[],[]⟩
def j6 (W S:Nat):RM:=⟨W,S,[],0,fun _=>.I 0,[],[],fun _=>.I 0,.I 0,.I 0,0,0⟩
theorem mcN_newC (b W S:Nat):zX 1048 (mcN b S)=zX 1048 (mF (newC W S) b (.slice none 0 0) (.slice none 0 0) (.slice none 0 0)):=by
 refine congrArg List.toArray (List.map_congr_left fun j hj=>?_);have hj:=List.mem_range.1 hj;by_cases h0:j=0
 ·subst h0;rfl
 by_cases h1:j=1
 ·subst h1;rfl
 by_cases h2:j<18
 ·unfold mF
  rw[if_neg h0,if_neg h1,if_pos h2];unfold mcN mcE;rw[JX (by omega),JX (by omega),JX (by omega)];unfold mcE1;rw[if_pos (by omega)];rfl
 by_cases h3:j<1042
 ·unfold mF
  rw[if_neg h0,if_neg h1,if_neg h2,if_pos h3];unfold mcN mcE;rw[JX (by omega),JX (by omega),JX (by omega)];unfold mcE1 mcG1;rw[if_neg (by omega),if_pos (by omega)];rfl
 by_cases h4:j=1042
 ·subst h4;rfl
 by_cases h5:j=1043
 ·subst h5;rfl
 by_cases h6:j=1044
 ·subst h6;rfl
 by_cases h7:j=1045
 ·subst h7;rfl
 by_cases h8:j=1046
 ·subst h8;rfl
 obtain rfl:j=1047:=by omega
 rfl
theorem McAt.new {O:Nat->Prop} {w:World} {g b W S:Nat} (hx:Bx w g (mcN b S)) (m:zv w b W 0 (fun _=>.slice none 0 0) [] []) (z:WF W 0 [] []) (hg:O g) (hb:O b) (hne:g≠b):McAt O w g (newC W S) b (fun _=>.slice none 0 0) (.slice none 0 0) (.slice none 0 0) (.slice none 0 0):=by
 have ho:∀i,Own b (fun _=>Value.slice none 0 0) i->i=b:=fun i hi=>by
  rcases hi with h|⟨r,_,hr⟩
  ·exact h
  ·cases hr
 unfold Bx at hx;rw[mcN_newC b W S] at hx;exact⟨hx,m,z,⟨rfl,.inl ⟨rfl,rfl⟩⟩,⟨rfl,.inl ⟨rfl,rfl⟩⟩,⟨rfl,.inl ⟨rfl,rfl⟩⟩,hg,fun i hi=>by rw[ho i hi];exact hb,fun _ e=>(by cases e),fun _ e=>(by cases e),fun _ e=>(by cases e),fun h=>hne (ho g h),fun e=>(by cases e),fun e=>(by cases e),fun e=>(by cases e),fun _ e=>(by cases e),fun _ e=>(by cases e),fun _ e=>(by cases e),fun _ e=>(by cases e),fun _ e=>(by cases e),fun _ e=>(by cases e)⟩
theorem new_roots (W S:Nat) {v:RWd} (h:v∈jr (j6 W S)):v=.I 0:=by
 rcases ja.1 h with⟨_,_,q⟩|⟨_,q,_⟩|⟨_,_,q⟩|q|q
 ·exact q
 ·cases q
 ·exact q
 ·exact q
 ·exact q
theorem Sim.new {W S:Nat} (z:WF W 0 [] []) (hS:S<=30000):Sim (j6 W S) (newC W S) (fun _=>False) (fun i=>i) (fun i=>Jc [] 0 W i) where
 ad:=fun _=>rfl
 ob:=fun _ h=>h.elim
 inj:=fun _ _ h=>h.elim
 cl:=fun _ h=>h.elim
 rt:=fun k hk=>by cases new_roots W S hk
 wr:=fun v hv=>by rw[new_roots W S hv];exact⟨by decide,by decide⟩
 wo:=fun _ h=>h.elim
 rg:=fun _ _=>rfl
 gl:=fun _ _=>rfl
 us:=fun _ _ _=>rfl
 cd:=rfl
 va:=rfl
 fr:=⟨rfl,fun j x y h=>by cases h⟩
 sl:=rfl
 ha:=rfl
 lim:=rfl
 stk:=rfl
 ul:=Nat.zero_le _
 s1:=by
  show(S:Int)<=30000;omega
 pl:=fun x h=>by cases h
 hf:=fun x h=>by cases h
 hp:=fun x h=>by cases h
 hs:=List.Pairwise.nil
 ft:=by
  show 3*((0:Nat):Int)+0<=(S:Int);omega
 z:=z
theorem Usd.new (W S:Nat):Usd (j6 W S) []:=⟨List.nodup_nil,fun _ h=>(by cases h),⟨fun k hk=>(by cases new_roots W S hk),fun _ h=>(by cases h)⟩,by show((0:Nat):Int)<=0;decide⟩
theorem make_rw (K:Nat) (hK:K<=65536):∃cs:Array Value,cs=(zC (List.replicate K (.I 0))).toArray/\∀w:World,(Instr.makeSlice 77 (.int .i64 (K:Int)) (.int .i64 (K:Int))).run prog w=.ok (.slice (some ⟨w.heap.size,0,none⟩) K K) (w.alloc (.cells cs 72)):=by
 obtain⟨i0,hi,hz0,hz1,hz2⟩:=info_parts infoRWord;refine⟨madeCells (Value.agg #[.bool false,.int .i64 0,.int .i64 0]).cells (K*i0.size),?_,fun w=>?_⟩
 ·rw[hz1,zC_rep]
  have e:(Value.agg #[.bool false,.int .i64 0,.int .i64 0]).cells=#[.bool false,.int .i64 0,.int .i64 0]:=by rfl
  rw[e];apply Array.ext';apply List.ext_getElem?;intro j;by_cases h:j<K*3
  ·show _=(J8 3 K fun _ j=>wc (.I 0) j)[j]?
   rw[rwF_at h];have:j%3=0\/j%3=1\/j%3=2:=by omega
   rcases this with q|q|q<;>simp[madeCells,h,q,wc]
  ·rw[List.getElem?_eq_none (by simp[madeCells];omega),List.getElem?_eq_none (by rw[List.toList_toArray,qM];omega)]
 ·have hr:=run_make (P:=prog) w 77 72 i0 (.agg #[.bool false,.int .i64 0,.int .i64 0]) Tryz.underlying77 hi hz0 .i64 .i64 K K (by omega) (Int.le_refl _) (by rw[hz2];omega) (by omega)
  simp only[Int.toNat_natCast] at hr;exact hr
theorem own_rw {w:World} {q K:Nat} (h:w.heap[q]?=some (.cells (zC (List.replicate K (.I 0))).toArray 72 (0,0))) (hK:K<=65536):w.ownsRow 0 72 3 (.slice (some ⟨q,0,none⟩) K K) K (zC (List.replicate K (.I 0))):=by
 have hl:(zC (List.replicate K (.I 0))).length=K*3:=by rw[zC_len,List.length_replicate]
 exact⟨hl,.inr ⟨q,K,_,rfl,Nat.zero_le _,h,zqg _,by unfold maxLen;omega,by simpa using hl,by rw[List.take_of_length_le (by rw[List.toList_toArray,hl];exact zqg _),List.toList_toArray]⟩⟩
def layN (gl:Nat):Lay:=⟨.slice none 0 0,.slice none 0 0,.slice none 0 0,.slice (some ⟨gl,0,none⟩) 1024 1024,fun _=>.slice none 0 0,fun _=>.slice none 0 0,fun _=>.slice none 0 0,fun q=>if q=gl then 4 else 0⟩
theorem refM_mcR (W S gl:Nat):Q6 W S gl=zX 63 (rF (j6 W S) (layN gl)):=by rfl
theorem RAt.new {O:Nat->Prop} {w:World} {W S gl rb:Nat} (hg:w.heap[gl]?=some (.cells (zC (List.replicate 1024 (.I 0))).toArray 72 (0,0))) (hm:w.heap[rb]?=some (.cells (Q6 W S gl) 79 (0,0))) (hne:rb≠gl) (hO:O rb) (hO2:O gl):RAt O w rb (j6 W S) (layN gl) where
 bx:=by rw[hm,refM_mcR]
 oo:=⟨rfl,.inl ⟨rfl,rfl⟩⟩
 of:=⟨rfl,.inl ⟨rfl,rfl⟩⟩
 oh:=⟨rfl,.inl ⟨rfl,rfl⟩⟩
 ogl:=by
  have e:(List.range 1024).map (j6 W S).gl=List.replicate 1024 (.I 0):=by
   show(List.range 1024).map (fun _=>RWd.I 0)=_;rw[List.map_const',List.length_range]
  rw[e];exact own_rw hg (by decide)
 ow:=fun i o h=>by cases h
 oi:=fun i o h=>by cases h
 os:=fun j x h=>by cases h
 Og:=hO
 Oo:=fun q e=>by cases e
 Of:=fun q e=>by cases e
 Oh:=fun q e=>by cases e
 Ogl:=fun q e=>by
  obtain rfl:gl=q:=zqd e;exact⟨hO2,if_pos rfl⟩
 Ow:=fun i o h=>by cases h
 Os:=fun j x h=>by cases h
 Tg:=if_neg hne
theorem refnew_at {W S:Nat} (h:sizeOk W S) (w:World):
  Calls prog 38 #[.int .i64 W,.int .i64 S] w fun e w'=>e=.returned (.tuple #[.pointer (some ⟨w.heap.size+1,0,none⟩),.bool true])/\(w'.heap[w.heap.size]?=some (.cells (zC (List.replicate 1024 (.I 0))).toArray 72 (0,0))/\w'.heap[w.heap.size+1]?=some (.cells (Q6 W S w.heap.size) 79 (0,0)))/\Below w.heap.size w w'/\w'.heap.size=w.heap.size+2:=by
 obtain⟨cs,hcs,hmk⟩:=make_rw 1024 (by decide);replace hmk:∀w:World,(Instr.makeSlice 77 (.int .i64 1024) (.int .i64 1024)).run prog w=.ok (.slice (some ⟨w.heap.size,0,none⟩) 1024 1024) (w.alloc (.cells cs 72)):=hmk;have hn:=zqe w (.cells cs 72);have hb:=jq w (.cells cs 72);have hsz:(w.alloc (.cells cs 72)).heap.size=w.heap.size+1:=Array.size_push ..;have HF:=hid (show∀Y,((w.alloc (.cells cs 72)).alloc (.cells (Q6 W S w.heap.size) 79))=Y->(Y.heap[w.heap.size]?=some (.cells (zC (List.replicate 1024 (.I 0))).toArray 72 (0,0))/\Y.heap[w.heap.size+1]?=some (.cells (Q6 W S w.heap.size) 79 (0,0)))/\Below w.heap.size w Y/\Y.heap.size=w.heap.size+2 from by
  rintro Y rfl;obtain⟨X,hX⟩:∃X,w.alloc (.cells cs 72)=X:=⟨_,rfl⟩;rw[hX] at hn hb hsz ⊢;have hb2:=jq X (.cells (Q6 W S w.heap.size) 79);have hn2:=zqe X (.cells (Q6 W S w.heap.size) 79);have hsz2:(X.alloc (.cells (Q6 W S w.heap.size) 79)).heap.size=X.heap.size+1:=Array.size_push ..;rw[hsz] at hn2;exact⟨⟨((hb2.block _ (by omega)).trans hn).trans (by rw[hcs]),hn2⟩,hb.trans (hb2.mono hb.size),by omega⟩)
 unfold sizeOk at h;have d0:decide ((W:Int)<64)=false:=decide_eq_false (by omega);have d1:decide ((65536:Int)<(W:Int))=false:=decide_eq_false (by omega);have d2:decide ((S:Int)<16)=false:=decide_eq_false (by omega);have d3:decide ((65536:Int)<(S:Int))=false:=decide_eq_false (by omega);clear h hcs hn hb hsz;go_enter Tryz.func38,Tryz.ntmps38;go_wp2_with fail;go_ret2;exact⟨rfl,HF.out _ rfl⟩
end Go.Proofs.YtklcmdoadmcpfaaGreatDoor
