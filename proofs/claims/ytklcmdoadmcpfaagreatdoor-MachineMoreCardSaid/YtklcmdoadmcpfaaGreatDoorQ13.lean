/- A part of the proof of MachineMoves. Conditions: those that each theorem names. -/
import Derived.Sort.QuietIn
import Derived.Test.YtklcmdoadmcpfaaGreatDoorQ09
import Derived.Maps.OwnIn
set_option maxRecDepth 100000
set_option maxHeartbeats 400000000
namespace Go.Proofs.YtklcmdoadmcpfaaGreatDoor
open Go Go.RowKit
open Go.Lib(hid)
open Go.Proofs.Tryz(prog)
section
variable {F:Fence} {n:Nat} {P:Program} {ops:Array Oper} {C:World->Prop}
def jfw (o:Oper):Bool:=match o.op with| .defer _=>false|_=>true
theorem jlr {o:Oper} (h:jfw o=true):∀c,o.op≠.defer c:=by
 intro c e;unfold jfw at h;rw[e] at h;cases h
end
def QQ (Q:Act->World->Prop):Exit->Act->World->Prop
 | .normal,a,w=>Q a w
 |_,_,_=>False
theorem jnS (Q:Act->World->Prop):¬LetsOut (QQ Q):=fun⟨_,_,h⟩=>h
section
variable {P:Program} {ops:Array Oper} {lp n:Nat} {Q:Act->World->Prop} {Q2:Exit->Act->World->Prop}
theorem js1 {row:String} {args:Array Value} {w:World} {R:Value->World->Prop} (h:Rows P row args w R):RowsIn (Fence.wide.inRound lp) n P row args w R:=
 fun c cs _=>let⟨v,w',r,s⟩:=h c cs;⟨v,w',r,stepsIn_wide.2 s⟩
theorem jly {o:Oper} (hd:∀c,o.op≠.defer c) {a:Act} {w:World} {K K':Act->World->Prop} (hk:∀a w,K a w->K' a w) (h:o.wp P a w K (QQ Q)):o.wpIn (Fence.wide.inRound lp) n P a w K' Q2:=by
 unfold Oper.wp at h;refine⟨fun _ _=>trivial,?_⟩;rw[Oper.semAt_eq _ a.eval o hd];cases hr:(execOp a.eval o).run P w with
 |halt x w'=>
  rw[hr] at h;cases x<;>exact h.elim
 |ok x w'=>
  rw[hr] at h;cases x with
  |value v=>exact hk _ _ h
  |skip=>exact hk _ _ h
  |defer d=>exact hk _ _ h
  |enter f args=>
   refine⟨fun q=>by simp[Fence.wide] at q,CallsIn.inRound lp (callsIn_wide.2 ?_)⟩;refine Calls.mono h ?_;intro e w'' he;cases e with
   |returned v=>exact hk _ _ he
   |panicked c=>exact he.elim
   |outgrown=>exact(jnS Q he).elim
  |row row args=>exact⟨fun q=>by simp[Fence.wide] at q,js1 (Rows.mono h fun v w'' q=>hk _ _ q)⟩
  |_=>exact h.elim
theorem jmn (hd:∀(i:Nat) o,ops[i]?=some o->∀c,o.op≠.defer c) (md:Region.Mode):∀(fuel:Nat) (listed:Array Bool) (a:Act) (w:World),wpAny P md ops (QQ (Q2 .normal)) fuel listed a w->wpAnyIn (Fence.wide.inRound lp) n P md ops Q2 fuel listed a w:=by
 intro fuel;induction fuel with
 |zero=>intro listed a w h;exact h
 |succ fuel ih=>
  intro listed a w h;refine⟨h.1,fun i hi=>?_⟩;have hop:=h.2 i hi;unfold wpOp at hop;unfold wpOpIn;cases ho:ops[i]? with
  |none=>rw[ho] at hop;exact ih _ _ _ hop
  |some o=>
   rw[ho] at hop;simp only[] at hop ⊢;by_cases hw:Region.wanted o (yielded ops a.tmps)=true
   ·rw[if_pos hw] at hop ⊢
    rcases hop with q|⟨_,q⟩
    ·exact jly (hd i o ho) (fun a' w' q=>ih _ _ _ q) q
    ·exact(jnS _ q).elim
   ·rw[if_neg hw] at hop ⊢
    exact⟨fun _ _=>trivial,ih _ _ _ hop⟩
theorem jal {id:Nat} {a:Act} {w:World} {l:List Oper} (hd:l.all jfw=true) (hm:P.follows .mixedOrders=true)
  (h:wpAny P .any l.toArray (QQ (Q2 .normal)) l.toArray.size (Array.replicate l.toArray.size false) a w.drew):(Code.region id l.toArray true).wpIn (Fence.wide.inRound lp) n P Q2 a w:=by
 refine wpIn_region_any hm (jmn (fun i o ho=>jlr ?_) _ _ _ _ _ h);rw[List.getElem?_toArray] at ho;exact List.all_eq_true.1 hd o (zqc ho)
end
section
open Go Go.RowKit Go.Shelf
def jbv (h W:Nat) (s:St) (n:Nat):St:=if n%2=1 then s else JT h W s (jc n)
def Qm (h W:Nat) (s:St) (n:Nat):Nat:=if n%2=1 then n else(J8 ((Jr h W s (jc n)).1:Nat)).toNat
theorem jio (x:Int):0<=J8 x/\J8 x<=2199023255552:=by unfold J8;split<;>omega
theorem jsY (h W:Nat) (s:St) {n:Nat} (hn:n<18446744073709551616):Qm h W s n<18446744073709551616:=by
 unfold Qm;split
 ·exact hn
 ·have:=jio ((Jr h W s (jc n)).1:Nat);omega
section
variable {w wr:World} {O:Nat->Prop} {b W h:Nat} {s:St} {R:Nat->Value}
theorem jiC (x:MX w O b W h s wr R) (n:Nat) (hn:n<18446744073709551616):
  Calls prog 110 #[.pointer (some ⟨b,0,none⟩),.int .u64 (n:Int)] wr fun e w'=>e=.returned (.int .u64 ((Qm h W s n:Nat):Int))/\∃R',MX w O b W h (jbv h W s n) w' R'/\(∀i,Own b R' i->Own b R i\/wr.heap.size<=i)/\Fr (Own b R) wr w':=by
 unfold jbv Qm;by_cases h1:n%2=1
 ·simp only[if_pos h1]
  refine(jji n hn h1 _).mono ?_;rintro e w' ⟨rfl,rfl⟩;exact⟨rfl,R,x,fun _ h=>.inl h,Fr.refl _ _⟩
 ·simp only[if_neg h1]
  have HI:=hid (fun W1=>j5 (n:Int) W1 (by omega) (by omega));have q0:jj (n:Int)=false:=by unfold jj;simpa using by omega
  rw[q0] at HI;have HT:=hid (fun W1=>jQ (n:Int) W1 (by omega) (by omega));have ha2:jc (n:Int)<=9223372036854775807:=by unfold jc;split<;>omega
  have HMV:=hid (jgm x (jc (n:Int)) ha2);obtain⟨t,ht⟩:∃t,(Jr h W s (jc (n:Int))).1=t:=⟨_,rfl⟩;obtain⟨q,hq⟩:∃q,(Jr h W s (jc (n:Int))).2=q:=⟨_,rfl⟩;rw[ht,hq] at HMV;rw[ht];have HP:=hid (fun W1=>jjQ (t:Int) W1);have hp0:=jio (t:Int);obtain⟨y,hy⟩:∃y:Nat,J8 (t:Int)=(y:Int):=⟨(J8 (t:Int)).toNat,by omega⟩;rw[hy] at HP ⊢;rw[Int.toNat_natCast];clear q0 h1 hn ha2 ht hq hp0 hy x;go_enter Tryz.func110,Tryz.ntmps110;go_wp2_with fail;refine(HI.out _).mono ?_;rintro e w1 ⟨rfl,hw⟩;subst w1;go_wp2_with fail;refine(HT.out _).mono ?_;rintro e w1 ⟨rfl,hw⟩;subst w1;go_wp2_with fail;refine HMV.out.mono ?_;rintro e w1 ⟨rfl,hm⟩;have HM1:=hid hm;clear hm;go_wp2_with fail;refine(HP.out _).mono ?_;rintro e w2 ⟨rfl,hw2⟩;subst w2;go_wp2_with fail;go_ret;exact⟨rfl,HM1.out⟩
end
theorem jfr {O:Nat->Prop} {w w1:World} (hf:Fr O w w1) (hO:∀(i:Nat) (o:Obj),O i->w.heap[i]?=some o->o.isCells=true):KeepsOthers w w1:=
 ⟨hf.size,fun k o hk ho=>(hf.block k (zqa hk).1 (fun q=>by rw[hO k o q hk] at ho;cases ho)).trans hk⟩
structure CI (w:World) (O:Nat->Prop) (b W h:Nat) (X:Nat->Prop) (s:St) (wr:World) (R:Nat->Value):Prop where
 x:MX w O b W h s wr R
 far:∀i,X i->¬Own b R i/\i<wr.heap.size
section
variable {w wr w1 w2:World} {O X:Nat->Prop} {b W h:Nat} {s s':St} {R R':Nat->Value}
theorem CI.turn (c:CI w O b W h X s wr R) (x:MX w O b W h s' w1 R') (hs:∀i,Own b R' i->Own b R i\/wr.heap.size<=i) (hf:Fr (Own b R) wr w1):CI w O b W h X s' w1 R':=
 ⟨x,fun i hi=>by
   obtain⟨h1,h2⟩:=c.far i hi;refine⟨fun q=>?_,Nat.lt_of_lt_of_le h2 hf.size⟩;rcases hs i q with q|q
   ·exact h1 q
   ·omega⟩
theorem CI.drewN (c:CI w O b W h X s wr R) (n:Nat):CI w O b W h X s (wr.drewN n) R:=⟨c.x.drewN n,c.far⟩
theorem CI.kept {Y:Nat->Prop} (c:CI w O b W h X s wr R) (hf:Fr Y wr w1) (hn:∀i,Own b R i->¬Y i) (hY:∀i,Y i->O i\/w.heap.size<=i):CI w O b W h X s w1 R:=
 ⟨c.x.kept hf hn hY,fun i hi=>⟨(c.far i hi).1,Nat.lt_of_lt_of_le (c.far i hi).2 hf.size⟩⟩
theorem CI.cellOf (c:CI w O b W h X s wr R):∀(i:Nat) (o:Obj),Own b R i->wr.heap[i]?=some o->o.isCells=true:=fun _ _ hi ho=>MemV.isCells c.x.m hi ho
theorem CI.keeps (c:CI w O b W h X s wr R) (hf:Fr (Own b R) wr w1):KeepsOthers wr w1:=jfr hf c.cellOf
theorem CI.row {B:Nat} {e:TypeId} {v:Value} {n:Nat} {xs:List Value} (c:CI w O b W h X s wr R) (hf:Fr (Own b R) wr w1) (hr:wr.ownsRow B e 1 v n xs) (hX:∀g,v.ownBlock=some g->X g):w1.ownsRow B e 1 v n xs:=
 hf.own hr (fun g hg=>(c.far g (hX g hg)).1)
theorem CI.box {B:Nat} {t:TypeId} {v:Value} (c:CI w O b W h X s wr R) (hf:Fr (Own b R) wr w1) (hr:Boxed wr B t v) (hX:X B):Boxed w1 B t v:=
 (hf.block B hr.lt (c.far B hX).1).trans hr
end
theorem jvl {w:World} {O X:Nat->Prop} {b W h B:Nat} (S:List Nat->St) (hB:w.heap.size<=B) {P:List Nat->(Nat->Value)->World->Prop} (hP:∀R,OwnFrom B (fun l W'=>P l R W')):OwnFrom B (fun l W'=>∃R,CI w O b W h X (S l) W' R/\P l R W'):=by
 rintro l A A' row ⟨R,c,p⟩ hg hr;refine⟨R,c.kept (Y:=fun i=>row=some i) ((Fr.refl _ A).grown hg (fun k hk=>.inl hk)) (fun i hi hrow=>?_) (fun i hi=>.inr (by obtain⟨h1,_⟩:=hr i hi;omega)),hP R l A A' row p hg hr⟩;obtain⟨_,o,ho,hc⟩:=hr i hrow;rw[c.cellOf i o hi ho] at hc;cases hc
def mvP (h W:Nat) (xs:List Int) (s:St) (l:List Nat):St×List Int:=l.foldl (fun p x=>(JT h W p.1 (xs.getD x 0),p.2++[((Jr h W p.1 (xs.getD x 0)).1:Int)])) (s,[])
theorem jh8 (h W:Nat) (xs:List Int) (s:St) (l:List Nat) (x:Nat):mvP h W xs s (l++[x])=(JT h W (mvP h W xs s l).1 (xs.getD x 0),(mvP h W xs s l).2++[((Jr h W (mvP h W xs s l).1 (xs.getD x 0)).1:Int)]):=by
 unfold mvP;rw[List.foldl_append];rfl
theorem jsD (h W:Nat) (xs:List Int) (s:St) (l:List Nat):(mvP h W xs s l).2.length=l.length:=by
 have gen:∀(l:List Nat) (p:St×List Int),(l.foldl (fun p x=>(JT h W p.1 (xs.getD x 0),p.2++[((Jr h W p.1 (xs.getD x 0)).1:Int)])) p).2.length=p.2.length+l.length:=by
  intro l;induction l with
  |nil=>intro p;rfl
  |cons x l ih=>intro p;rw[List.foldl_cons,ih];simp;omega
 have:=gen l (s,[]);simpa[mvP] using this
def rnF (h W:Nat) (a:Int) (s:St) (f:Nat):St:=if jf ((qY h W s a f).1:Nat) then jaW h W (jbv h W s (qY h W s a f).1) a f (Qm h W s (qY h W s a f).1) else s
def rnO (h W:Nat) (a:Int) (s:St) (k:Nat):St:=(List.range k).foldl (rnF h W a) s
theorem jiD (h W:Nat) (a:Int) (s:St) (k:Nat):rnO h W a s (k+1)=rnF h W a (rnO h W a s k) k:=by unfold rnO;rw[List.range_succ,List.foldl_append];rfl
def rnS (h W:Nat) (ys:List Int) (s:St) (l:List Nat):St:=l.foldl (fun s x=>rnO h W (ys.getD x 0) s (qk h W s (ys.getD x 0)).2.2.1) s
theorem jiE (h W:Nat) (ys:List Int) (s:St) (l:List Nat) (x:Nat):rnS h W ys s (l++[x])=rnO h W (ys.getD x 0) (rnS h W ys s l) (qk h W (rnS h W ys s l) (ys.getD x 0)).2.2.1:=by unfold rnS;rw[List.foldl_append];rfl
end
def jcl (os:List Ob):Nat:=(os.map fun o=>if o.to=0 then 1+o.ws.length else 0).sum
theorem jgv:∀(os:List Ob) (j:Nat) (o o':Ob),os[j]?=some o->o.to=0->o'.to≠0->jcl (os.set j o')+(1+o.ws.length)=jcl os
 |[],j,o,_,h,_,_=>by cases h
 |x::xs,0,o,o',h,h0,h1=>by
  rw[List.getElem?_cons_zero] at h;obtain rfl:=zqd h;simp only[jcl,zqk,List.map_cons,List.sum_cons,if_pos h0,if_neg h1];omega
 |x::xs,j+1,o,o',h,h0,h1=>by
  rw[List.getElem?_cons_succ] at h;have ih:=jgv xs j o o' h h0 h1;simp only[jcl,zql,List.map_cons,List.sum_cons] at ih ⊢;omega
theorem jdF:∀(os:List Ob),jbT os->jcl os=used os
 |[],_=>rfl
 |x::xs,h=>by
  have ih:=jdF xs (fun o ho=>h o (List.mem_cons_of_mem _ ho));simp only[jcl,used,List.map_cons,List.sum_cons,if_pos (h x (List.mem_cons_self ..))] at ih ⊢;omega
def zw (os:List Ob) (j:Nat):Ob:=(os[j]?).getD ⟨0,0,[],0⟩
theorem jaS {os:List Ob} {j:Nat} (h:j<os.length):os[j]?=some (zw os j):=by unfold zw;rw[zqh h];rfl
theorem jsL {os:List Ob} {j:Nat} {o:Ob} (h:os[j]?=some o):zw os j=o:=by unfold zw;rw[h];rfl
def zJ (os:List Ob) (met:List Nat):List Ob:=met.map (zw os)
theorem jbt (os:List Ob) (met:List Nat):(zJ os met).length=met.length:=by simp[zJ]
theorem jc1 (os:List Ob) (met:List Nat) (j:Nat):zJ os (met++[j])=zJ os met++[zw os j]:=by simp[zJ]
def JC (k W:Nat) (os:List Ob) (met:List Nat) (j:Nat):Nat:=(jx k W (je (zJ os met) (met.idxOf j):Nat)).toNat
def ze (k W:Nat) (os:List Ob) (met pre:List Nat):List Ob:=os.mapIdx fun j o=>if j∈pre then(⟨(o).k,(o).t,(o).ws,JC k W os met j⟩:Ob) else o
theorem jj5 (k W:Nat) (os:List Ob) (met pre:List Nat):sz (ze k W os met pre)=sz os:=by
 unfold sz ze;apply List.ext_getElem
 ·simp
 ·intro i h1 h2
  simp only[List.getElem_map,List.getElem_mapIdx];split<;>rfl
theorem jib (k W:Nat) (os:List Ob) (met:List Nat):ze k W os met []=os:=by
 unfold ze;apply List.ext_getElem
 ·simp
 ·intro i h1 h2
  simp
theorem jcg {k W:Nat} {os:List Ob} {met pre:List Nat} {j:Nat} {o:Ob} (h:os[j]?=some o):(ze k W os met pre)[j]?=some (if j∈pre then(⟨(o).k,(o).t,(o).ws,JC k W os met j⟩:Ob) else o):=by
 unfold ze;rw[List.getElem?_mapIdx,h];rfl
theorem jic {k W:Nat} {os:List Ob} {met pre:List Nat} {j:Nat} {o:Ob} (h:os[j]?=some o):(ze k W os met pre).set j (⟨(o).k,(o).t,(o).ws,JC k W os met j⟩:Ob)=ze k W os met (pre++[j]):=by
 apply List.ext_getElem?;intro i;by_cases e:i=j
 ·subst e
  have hl:i<(ze k W os met pre).length:=by
   have:=(zqb h).1;simpa[ze] using this
  rw[List.getElem?_set_self hl,jcg h,if_pos (by simp)]
 ·rw[List.getElem?_set_ne (fun q=>e q.symm)]
  unfold ze;rw[List.getElem?_mapIdx,List.getElem?_mapIdx];have:i∈pre++[j]↔i∈pre:=by simp[e]
  simp only[this]
theorem ja4 {met:List Nat} (hn:met.Nodup) {p j:Nat} (h:met[p]?=some j):met.idxOf j=p:=by
 obtain⟨hp,rfl⟩:=zqb h;exact List.Nodup.idxOf_getElem hn p hp
theorem jn2 (os:List Ob) (met:List Nat) (p:Nat):(zJ os met).take p=zJ os (met.take p):=by unfold zJ;rw[List.map_take]
theorem jcq (os:List Ob) (met:List Nat) (p:Nat):je (zJ os met) p=used (zJ os (met.take p)):=by unfold je;rw[jn2]
theorem jfa {k W:Nat} {os:List Ob} {met:List Nat} (hn:met.Nodup) {p j:Nat} (h:met[p]?=some j):((JC k W os met j:Nat):Int)=jx k W (used (zJ os (met.take p)):Nat):=by
 unfold JC;rw[ja4 hn h,jcq];have:0<=jx k W (used (zJ os (met.take p)):Nat):=by unfold jx;split<;>omega
 omega
theorem jbj {met:List Nat} {p j:Nat} (h:met[p]?=some j):met.take (p+1)=met.take p++[j]:=by
 obtain⟨hp,e⟩:=zqb h;rw[List.take_succ_eq_append_getElem hp,e]
theorem jeY {met:List Nat} (hn:met.Nodup) {p j:Nat} (h:met[p]?=some j):j∉met.take p:=by
 intro hm;obtain⟨q,hq,e⟩:=List.mem_iff_getElem.1 hm;rw[List.getElem_take] at e;obtain⟨hp,e2⟩:=zqb h;rw[List.length_take] at hq;exact List.pairwise_iff_getElem.1 hn q p (by omega) hp (by omega) (e.trans e2.symm)
theorem jcV {k W:Nat} {os:List Ob} {met:List Nat} (hf:jbT os) (ok:Okm os met) (p:Nat) (hp:p<=met.length) (ht:∀j∈met,JC k W os met j≠0):used (zJ os (met.take p))+jcl (ze k W os met (met.take p))=used os:=by
 induction p with
 |zero=>rw[List.take_zero,jib,jdF os hf];simp[zJ,used]
 |succ p ih=>
  have hg:met[p]?=some (met[p]'(by omega)):=zqh (by omega);obtain⟨j,hj⟩:∃j,met[p]'(by omega)=j:=⟨_,rfl⟩;rw[hj] at hg;have hm:=zqc hg;have ho:=jaS (ok.lt j hm);have h1:=ih (by omega);have h2:=jcg (k:=k) (W:=W) (met:=met) (pre:=met.take p) ho;rw[if_neg (jeY ok.nd hg)] at h2;have h3:=jgv _ j _ (⟨(zw os j).k,(zw os j).t,(zw os j).ws,JC k W os met j⟩:Ob) h2 (hf _ (zqc ho)) (ht j hm);rw[jic ho] at h3;rw[jbj hg,jc1,z6,ZD];omega
theorem ZF (k W c:Nat):1<=jx k W (c:Nat):=by unfold jx;split<;>omega
theorem jbR (k W:Nat) (os:List Ob) (met:List Nat) (j:Nat):JC k W os met j≠0:=by
 unfold JC;have:=ZF k W (je (zJ os met) (met.idxOf j));omega
theorem jeX {k W:Nat} {os:List Ob} {met:List Nat} (hf:jbT os) (ok:Okm os met) {p j:Nat} (h:met[p]?=some j) (hu:used os<=W):used (zJ os (met.take p))+(zw os j).ws.length+1<=W:=by
 have hp:=(zqb h).1;have h1:=jcV (k:=k) (W:=W) hf ok (p+1) (by omega) (fun _ _=>jbR _ _ _ _ _);rw[jbj h,jc1,z6,ZD] at h1;omega
theorem jll {W:Nat} {os:List Ob} {met:List Nat} (hf:jbT os) (ok:Okm os met) (p:Nat) (hu:used os<=W):used (zJ os (met.take p))<=W:=by
 by_cases hp:p<=met.length
 ·have h1:=jcV (k:=0) (W:=W) hf ok p hp (fun _ _=>jbR _ _ _ _ _)
  omega
 ·have h1:=jcV (k:=0) (W:=W) hf ok met.length (zqg _) (fun _ _=>jbR _ _ _ _ _)
  rw[zqp (by omega)];rw[List.take_length] at h1;omega
theorem jj8 {k W:Nat} {os:List Ob} {met:List Nat} (hf:jbT os) (ok:Okm os met) (hu:used os<=W) (hW:W<=65536) {j:Nat} (hj:j∈met):JC k W os met j<=131072:=by
 obtain⟨p,hp⟩:=List.getElem?_of_mem hj;have h1:=jfa (k:=k) (W:=W) (os:=os) ok.nd hp;have:=jeX (k:=k) hf ok hp hu;unfold jx at h1;split at h1<;>omega
def zx (h W:Nat) (os:List Ob) (met:List Nat) (n:Nat):Nat:=if n%2=1 then n else match qF os h W n with
 |none=>n
 |some j=>2*JC (1-h) W os met j
def qB (h W:Nat) (os:List Ob) (met:List Nat) (o:Ob) (k:Nat):Ob:={o with ws:=(o.ws.take k).map (zx h W os met)++o.ws.drop k}
theorem jaU (h W:Nat) (os:List Ob) (met:List Nat) (o:Ob) (k:Nat):(qB h W os met o k).ws.length=o.ws.length:=by simp[qB];omega
theorem jog (h W:Nat) (os:List Ob) (met:List Nat) (o:Ob):qB h W os met o 0=o:=by simp[qB]
theorem jiA {h W:Nat} {os:List Ob} {met:List Nat} {o:Ob} {k:Nat} (hk:k<o.ws.length):(qB h W os met o k).ws.getD k 0=o.ws.getD k 0:=by
 rw[zqi,zqi];show(((o.ws.take k).map (zx h W os met)++o.ws.drop k)[k]?).getD 0=_;rw[zqn (by simp;omega),List.length_map,List.length_take,Nat.min_eq_left (by omega),Nat.sub_self,List.getElem?_drop];rfl
theorem jiB {h W:Nat} {os:List Ob} {met:List Nat} {o:Ob} {k:Nat} (hk:k<o.ws.length):({qB h W os met o k with ws:=(qB h W os met o k).ws.set k (zx h W os met (o.ws.getD k 0))}:Ob)=qB h W os met o (k+1):=by
 unfold qB;simp only[Ob.mk.injEq,true_and,and_true];rw[List.set_append_right _ _ (by simp;omega),List.length_map,List.length_take,Nat.min_eq_left (by omega),Nat.sub_self,List.drop_eq_getElem_cons hk,zqk,List.take_succ_eq_append_getElem hk,List.map_append,List.append_assoc];rw[zqi,zqh hk];rfl
theorem jof {h W:Nat} {os:List Ob} {met:List Nat} {o:Ob} {k:Nat} (hk:k<o.ws.length) (e:zx h W os met (o.ws.getD k 0)=o.ws.getD k 0):qB h W os met o k=qB h W os met o (k+1):=by
 rw[<-jiB hk,e,<-jiA (h:=h) (W:=W) (os:=os) (met:=met) hk];have hl:k<(qB h W os met o k).ws.length:=by rw[jaU];exact hk
 have:(qB h W os met o k).ws.set k ((qB h W os met o k).ws.getD k 0)=(qB h W os met o k).ws:=by
  rw[zqi,zqh hl];exact List.set_getElem_self hl
 rw[this]
def qA (h W:Nat) (os:List Ob) (met:List Nat) (p:Nat):List Ob:=met.mapIdx fun i j=>if i<p then qB h W os met (zw os j) (zw os j).t else zw os j
def JG (h W:Nat) (os:List Ob) (met:List Nat):List Ob:=met.map fun j=>qB h W os met (zw os j) (zw os j).t
theorem jnO (h W:Nat) (os:List Ob) (met:List Nat):qA h W os met 0=zJ os met:=by
 unfold qA zJ;apply List.ext_getElem
 ·simp
 ·intro i h1 h2;simp
theorem jh9 (h W:Nat) (os:List Ob) (met:List Nat):qA h W os met met.length=JG h W os met:=by
 unfold qA JG;apply List.ext_getElem
 ·simp
 ·intro i h1 h2
  have:i<met.length:=by simpa using h1
  simp[this]
theorem jd6 {h W:Nat} {os:List Ob} {met:List Nat} {p q j:Nat} (hj:met[q]?=some j) (hq:p<=q):(qA h W os met p)[q]?=some (zw os j):=by
 unfold qA;rw[List.getElem?_mapIdx,hj];simp;omega
theorem jqk {h W:Nat} {os:List Ob} {met:List Nat} {p j:Nat} (hj:met[p]?=some j):(qA h W os met p).set p (qB h W os met (zw os j) (zw os j).t)=qA h W os met (p+1):=by
 apply List.ext_getElem?;intro i;by_cases e:i=p
 ·subst e
  have hl:i<(qA h W os met i).length:=by
   have:=(zqb hj).1;simpa[qA] using this
  rw[List.getElem?_set_self hl];unfold qA;rw[List.getElem?_mapIdx,hj];simp
 ·rw[List.getElem?_set_ne (fun q=>e q.symm)]
  unfold qA;rw[List.getElem?_mapIdx,List.getElem?_mapIdx];have:i<p↔i<p+1:=by omega
  simp only[this]
theorem jfF (h W:Nat) (os:List Ob) (met:List Nat) (p:Nat):sz (qA h W os met p)=sz (zJ os met):=by
 unfold sz qA zJ;apply List.ext_getElem
 ·simp
 ·intro i h1 h2
  simp only[List.getElem_map,List.getElem_mapIdx];split
  ·exact jaU _ _ _ _ _ _
  ·rfl
theorem jj4 (h W:Nat) (os:List Ob) (met:List Nat):sz (JG h W os met)=sz (zJ os met):=by rw[<-jh9];exact jfF _ _ _ _ _
theorem jlZ {h W:Nat} {os:List Ob} {met:List Nat} {p j k:Nat} (hj:met[p]?=some j):sz ((qA h W os met p).set p (qB h W os met (zw os j) k))=sz (zJ os met):=by
 rw[<-jfF h W os met p];exact jc7 (jd6 hj (zqg _)) (jaU _ _ _ _ _ _)
def Good (os:List Ob) (h W:Nat) (met:List Nat) (n:Nat):Prop:=n%2=1\/(n%2≠1/\∃j,qF os h W n=some j/\j∈met)
section
variable {os:List Ob} {h W:Nat} {met m:List Nat}
theorem Good.mono {n:Nat} (g:Good os h W met n) (hs:∀j∈met,j∈m):Good os h W m n:=by
 rcases g with a|⟨a,j,b,c⟩
 ·exact .inl a
 ·exact .inr ⟨a,j,b,hs j c⟩
theorem jnA {n:Nat} (e:qE os h W met n=some m):(∃r,m=met++r)/\Good os h W m n:=by
 rcases QP (os:=os) (h:=h) (W:=W) met n with a|⟨a,b⟩|⟨a,j,b,c⟩|⟨a,j,b,c⟩
 ·rw[QY a] at e;cases e;exact⟨⟨[],by simp⟩,.inl a⟩
 ·rw[jbc a b] at e;cases e
 ·rw[Q0 a b c] at e;cases e;exact⟨⟨[],by simp⟩,.inr ⟨a,j,b,c⟩⟩
 ·rw[QZ a b c] at e;cases e;exact⟨⟨_,rfl⟩,.inr ⟨a,j,b,by simp⟩⟩
theorem jfg {r:List Nat} (e:m=met++r):∀j∈met,j∈m:=fun j hj=>by rw[e];exact List.mem_append_left _ hj
theorem jgi {ns:List Nat} (e:z7 os h W met ns=some m):(∃r,m=met++r)/\∀n∈ns,Good os h W m n:=by
 induction ns generalizing met with
 |nil=>cases e;exact⟨⟨[],by simp⟩,by simp⟩
 |cons n ns ih=>
  unfold z7 at e;cases e2:qE os h W met n with
  |none=>rw[e2] at e;cases e
  |some m2=>
   rw[e2] at e;obtain⟨⟨r,hr⟩,hg⟩:=jnA e2;obtain⟨⟨r2,hr2⟩,hg2⟩:=ih e;refine⟨⟨r++r2,by rw[hr2,hr,List.append_assoc]⟩,fun x hx=>?_⟩;rcases List.mem_cons.1 hx with q|q
   ·rw[q];exact hg.mono (jfg hr2)
   ·exact hg2 x q
theorem jrO {f i:Nat} (k:Okm os met) (hf:os.length<f+i) (e:ZO os h W f i met=some m) (hd:∀p j,p<i->met[p]?=some j->∀n∈JW os j,Good os h W met n):
  (∃r,m=met++r)/\∀j∈m,∀n∈JW os j,Good os h W m n:=by
 induction f generalizing i met with
 |zero=>
  cases e
  refine⟨⟨[],by simp⟩,fun j hj=>?_⟩;obtain⟨p,hp⟩:=List.getElem?_of_mem hj;have h1:=(zqb hp).1;have h2:=k.len;exact hd p j (by omega) hp
 |succ f ih=>
  unfold ZO at e;cases e1:met[i]? with
  |none=>
   rw[e1] at e;cases e
   refine⟨⟨[],by simp⟩,fun j hj=>?_⟩;obtain⟨p,hp⟩:=List.getElem?_of_mem hj;have h1:=(zqb hp).1;have h2:=List.getElem?_eq_none_iff.1 e1;exact hd p j (by omega) hp
  |some j0=>
   rw[e1] at e;simp only[] at e;cases e2:z7 os h W met (JW os j0) with
   |none=>rw[e2] at e;cases e
   |some m2=>
    rw[e2] at e;obtain⟨⟨r,hr⟩,hg⟩:=jgi e2;obtain⟨⟨r2,hr2⟩,hg2⟩:=ih (QX k e2) (by omega) e (fun p j hp hj n hn=>by
     by_cases q:p=i
     ·have:met[i]?=some j:=by
       rw[hr,q] at hj
       rwa [zqo (zqb e1).1] at hj
      rw[e1] at this;obtain rfl:=zqd this;exact hg n hn
     ·have hpl:p<met.length:=by have:=(zqb e1).1;omega
      rw[hr,zqo hpl] at hj;exact(hd p j (by omega) hj n hn).mono (jfg hr))
    exact⟨⟨r++r2,by rw[hr2,hr,List.append_assoc]⟩,hg2⟩
theorem ZI {ns:List Nat} (e:zg os h W ns=some m):(∀n∈ns,Good os h W m n)/\∀j∈m,∀n∈JW os j,Good os h W m n:=by
 unfold zg at e;cases e2:z7 os h W [] ns with
 |none=>rw[e2] at e;cases e
 |some m2=>
  rw[e2] at e;obtain⟨_,hg⟩:=jgi e2;obtain⟨⟨r,hr⟩,hg2⟩:=jrO (QX jbL e2) (by omega) e (fun p j hp=>by omega);exact⟨fun n hn=>(hg n hn).mono (jfg hr),hg2⟩
theorem jeb {n:Nat} (a:n%2=1):zx h W os met n=n:=if_pos a
theorem jec {n j:Nat} (a:n%2≠1) (e:qF os h W n=some j):zx h W os met n=2*JC (1-h) W os met j:=by
 unfold zx;rw[if_neg a,e]
end
section
open Go Go.RowKit Go.Shelf
attribute [local go_sem] Oper.semAt_some
theorem jhS:(prog.info? 3).map (fun i=>(i.zero,i.size,i.bytes))=some (some (.int .i64 0),1,8):=by kernel_rfl
theorem jnb:(prog.info? 65).map (fun i=>(i.zero,i.size,i.bytes))=some (some (.int .u64 0),1,8):=by kernel_rfl
theorem jp5 (K:Nat) (hK:K<=65536):∃cs:Array Value,cs.toList=List.replicate K (.int .i64 0)/\∀w:World,(Instr.makeSlice 70 (.int .i64 0) (.int .i64 (K:Int))).run prog w=.ok (.slice (some ⟨w.heap.size,0,none⟩) 0 K) (w.alloc (.cells cs 3)):=by
 obtain⟨i0,hi,hz0,hz1,hz2⟩:=info_parts jhS;refine⟨madeCells (Value.int .i64 0).cells (K*i0.size),?_,fun w=>?_⟩
 ·rw[hz1,Nat.mul_one]
  apply List.ext_getElem
  ·simp[madeCells]
  ·intro j h1 h2
   simp[madeCells,Value.cells,Nat.mod_one]
 ·have hr:=run_make (P:=prog) w 70 3 i0 (.int .i64 0) Tryz.underlying70 hi hz0 .i64 .i64 (0:Nat) K (by omega) (by omega) (by rw[hz2];omega) (by omega)
  simp only[Int.toNat_natCast] at hr;exact hr
theorem jlh (K:Nat) (hK:K<=1000000):∃cs:Array Value,cs.toList=List.replicate K (.int .u64 0)/\∀w:World,(Instr.makeSlice 51 (.int .i64 (K:Int)) (.int .i64 (K:Int))).run prog w=.ok (.slice (some ⟨w.heap.size,0,none⟩) K K) (w.alloc (.cells cs 65)):=by
 obtain⟨i0,hi,hz0,hz1,hz2⟩:=info_parts jnb;refine⟨madeCells (Value.int .u64 0).cells (K*i0.size),?_,fun w=>?_⟩
 ·rw[hz1,Nat.mul_one]
  apply List.ext_getElem
  ·simp[madeCells]
  ·intro j h1 h2
   simp[madeCells,Value.cells,Nat.mod_one]
 ·have hr:=run_make (P:=prog) w 51 65 i0 (.int .u64 0) Tryz.underlying51 hi hz0 .i64 .i64 K K (by omega) (Int.le_refl _) (by rw[hz2];omega) (by omega)
  simp only[Int.toNat_natCast] at hr;exact hr
theorem jqv (w:World) (K:Nat) (hK:K<=65536) (cs:Array Value) (hcs:cs.toList=List.replicate K (.int .i64 0)):(w.alloc (.cells cs 3)).ownsRow w.heap.size 3 1 (.slice (some ⟨w.heap.size,0,none⟩) 0 K) 0 []:=
 ⟨by simp,.inr ⟨w.heap.size,K,cs,rfl,zqg _,zqe w _,Nat.zero_le _,by unfold maxLen;omega,by rw[<-Array.length_toList,hcs];simp,by simp⟩⟩
def Qo (h W:Nat) (s:St) (ns:List Nat):St×List Nat:=ns.foldl (fun p n=>(jbv h W p.1 n,p.2++[Qm h W p.1 n])) (s,[])
theorem jqR (h W:Nat) (s:St) (l:List Nat) (n:Nat):Qo h W s (l++[n])=(jbv h W (Qo h W s l).1 n,(Qo h W s l).2++[Qm h W (Qo h W s l).1 n]):=by unfold Qo;rw[List.foldl_append];rfl
theorem js2 (h W:Nat) (s:St) (l:List Nat):(Qo h W s l).2.length=l.length:=by
 have gen:∀(l:List Nat) (p:St×List Nat),(l.foldl (fun p n=>(jbv h W p.1 n,p.2++[Qm h W p.1 n])) p).2.length=p.2.length+l.length:=by
  intro l;induction l with
  |nil=>intro p;rfl
  |cons x l ih=>intro p;rw[List.foldl_cons,ih];simp;omega
 have:=gen l (s,[]);simpa[Qo] using this
theorem js0 {r:List Nat} {N k v:Nat} (hr:r.length=k) (hk:k<N):(r++List.replicate (N-k) 0).set k v=(r++[v])++List.replicate (N-(k+1)) 0:=by
 rw[List.set_append_right _ _ (by omega),hr,Nat.sub_self,show N-k=(N-(k+1))+1 by omega,List.replicate_succ,zqk,List.append_assoc];rfl
def jer (h W:Nat) (now:List Ob) (met:List Nat):St×List Int:=mvP (1-h) W (qd h W now met) ⟨[],now⟩ (List.range met.length)
def jky (h W:Nat) (now:List Ob) (met:List Nat):St:=rnS (1-h) W (jer h W now met).2 (jer h W now met).1 (List.range met.length)
def jbZ (h W:Nat) (now:List Ob) (met ns:List Nat):St×List Nat:=Qo (1-h) W (jky h W now met) ns
def jvD (w:World) (b W h:Nat) (R:Nat->Value) (now:List Ob) (ns:List Nat) (e:Ending) (w':World):Prop:=
 (zg now h W ns=none/\e=.returned (.tuple #[.slice none 0 0,.int .i64 40])/\Below w.heap.size w w')∨
 (∃met v R',zg now h W ns=some met/\e=.returned (.tuple #[v,.int .i64 0])/\MX w (Own b R) b W (1-h) (jbZ h W now met ns).1 w' R'/\w'.ownsRow w.heap.size 65 1 v ns.length (u64s (jbZ h W now met ns).2)/\∀g,v.ownBlock=some g->¬Own b R' g)
theorem Zd {Y:Nat->Prop} {w w1:World} {B:Nat} {t:TypeId} {v:Value} (hf:Fr Y w w1) (h:Boxed w B t v) (hn:¬Y B):Boxed w1 B t v:=(hf.block B h.lt hn).trans h
def L1 (w:World) (O:Nat->Prop) (b W h:Nat) (X:Nat->Prop) (Bm Bx:Nat) (S:List Nat->St×List Int) (l:List Nat) (W':World):Prop:=
 ∃(R:Nat->Value) (vv:Value),CI w O b W h X (S l).1 W' R/\Boxed W' Bm 62 (.pointer (some ⟨b,0,none⟩))/\Boxed W' Bx 70 vv/\W'.ownsRow w.heap.size 3 1 vv (S l).2.length (ql (S l).2)/\∀g,vv.ownBlock=some g->¬Own b R g/\¬X g
theorem jlK {w:World} {B:Nat} {e:TypeId} {v:Value} {n:Nat} {xs:List Value} {row:Option Nat} (hr:w.ownsRow B e 1 v n xs) (hn:∀r,row=some r->∃o:Obj,w.heap[r]?=some o/\o.isCells=false):v.ownBlock=none\/v.ownBlock≠row:=by
 rcases hr.2 with⟨hv,_⟩|⟨g,cap,cur,hv,_,hg,_⟩
 ·exact .inl (by rw[hv];rfl)
 ·refine .inr (fun q=>?_)
  rw[hv] at q;obtain⟨o,ho,hc⟩:=hn g q.symm;rw[hg] at ho;cases ho
  cases hc
theorem jbW {w:World} {B:Nat} {t:TypeId} {v:Value} {row:Option Nat} (hb:Boxed w B t v) (hn:∀r,row=some r->∃o:Obj,w.heap[r]?=some o/\o.isCells=false):some B≠row:=by
 intro q;obtain⟨o,ho,hc⟩:=hn B q.symm;rw[show w.heap[B]?=_ from hb] at ho;cases ho
 cases hc
theorem jlB {w:World} {O X:Nat->Prop} {b W h B Bm Bx:Nat} (S:List Nat->St×List Int) (hB:w.heap.size<=B):OwnFrom B (L1 w O b W h X Bm Bx S):=by
 rintro l A A' row ⟨R,vv,c,h1,h2,h3,h4⟩ hg hr;have hr':∀r,row=some r->∃o:Obj,A.heap[r]?=some o/\o.isCells=false:=fun r e=>(hr r e).2;refine⟨R,vv,c.kept (Y:=fun i=>row=some i) ((Fr.refl _ A).grown hg (fun k hk=>.inl hk)) (fun i hi hrow=>?_) (fun i hi=>.inr (by obtain⟨h1,_⟩:=hr i hi;omega)),h1.kept hg (jbW h1 hr'),h2.kept hg (jbW h2 hr'),h3.kept hg (jlK h3 hr'),h4⟩;obtain⟨o,ho,hc⟩:=hr' i hrow;rw[c.cellOf i o hi ho] at hc;cases hc
theorem jtZ {w w5 w7:World} {O X:Nat->Prop} {b W h Bm Bx:Nat} {s:St} {R:Nat->Value} {vv v7:Value} {tmp:Obj} {la la':List Int} (c:CI w O b W h X s w5 R) (hXm:X Bm) (hXx:X Bx) (hBx:w.heap.size<=Bx) (hmx:Bm≠Bx) (h1:Boxed w5 Bm 62 (.pointer (some ⟨b,0,none⟩))) (h2:Boxed w5 Bx 70 vv) (h3:w5.ownsRow w.heap.size 3 1 vv la.length (ql la)) (h4:∀g,vv.ownBlock=some g->¬Own b R g/\¬X g)
  (hown:w7.ownsRow w.heap.size 3 1 v7 la'.length (ql la')) (hg:(w5.alloc tmp).grownBy w7 vv.ownBlock) (hblk:v7.ownBlock=vv.ownBlock\/v7.ownBlock=some (w5.alloc tmp).heap.size):
  Boxed w7 Bx 70 vv/\CI w O b W h X s (w7.setCell ⟨Bx,0,none⟩ v7) R/\Boxed (w7.setCell ⟨Bx,0,none⟩ v7) Bm 62 (.pointer (some ⟨b,0,none⟩))/\Boxed (w7.setCell ⟨Bx,0,none⟩ v7) Bx 70 v7/\(w7.setCell ⟨Bx,0,none⟩ v7).ownsRow w.heap.size 3 1 v7 la'.length (ql la')/\(∀g,v7.ownBlock=some g->¬Own b R g/\¬X g)/\KeepsOthers w5 (w7.setCell ⟨Bx,0,none⟩ v7)/\Fr (fun i=>vv.ownBlock=some i\/i=Bx) w5 (w7.setCell ⟨Bx,0,none⟩ v7):=by
 have hsz:=c.x.fr.size;obtain⟨a1,a2,a3,a4,_⟩:=Boxed.appended (tmp:=tmp) h2 (by decide:70≠3) h3 hsz hBx hown hg;have hf:Fr (fun i=>vv.ownBlock=some i\/i=Bx) w5 (w7.setCell ⟨Bx,0,none⟩ v7):=(((Fr.refl _ w5).alloc tmp).grown hg (fun k hk=>.inl (.inl hk))).setCell (p:=⟨Bx,0,none⟩) (.inl (.inr rfl)) _;refine⟨a1,c.kept hf (fun i hi q=>?_) (fun i hi=>?_),Zd hf h1 (fun q=>?_),a2,a3,fun g hg'=>?_,a4,hf⟩
 ·rcases q with q|q
  ·exact(h4 i q).1 hi
  ·subst q;exact(c.far _ hXx).1 hi
 ·rcases hi with q|q
  ·exact .inr (h3.lt i q).1
  ·subst q;exact .inr hBx
 ·rcases q with q|q
  ·exact(h4 _ q).2 hXm
  ·exact hmx q
 ·rcases hblk with q|q
  ·exact h4 g (q▸hg')
  ·rw[q] at hg'
   obtain rfl:=zqd hg';rw[World.size_alloc];refine⟨fun q=>?_,fun q=>?_⟩
   ·have:=c.x.lt _ q;omega
   ·have:=(c.far _ q).2;omega
theorem jue {h W:Nat} {xs:List Int} {s:St} (z:WF W h s.now s.old) (l:List Nat):∀t∈(mvP h W xs s l).2,t<=131073:=by
 have gen:∀(l:List Nat) (p:St×List Int),WF W h p.1.now p.1.old->(∀t∈p.2,t<=131073)->∀t∈(l.foldl (fun p x=>(JT h W p.1 (xs.getD x 0),p.2++[((Jr h W p.1 (xs.getD x 0)).1:Int)])) p).2,t<=131073:=by
  intro l;induction l with
  |nil=>intro p _ h2;exact h2
  |cons x l ih=>
   intro p h1 h2;refine ih _ (jgn h1 _) (fun t ht=>?_);rcases List.mem_append.1 ht with q|q
   ·exact h2 t q
   ·rw[List.mem_singleton.1 q]
    have:=jqd h1 (xs.getD x 0);omega
 exact gen l (s,[]) z (by simp)
def L2 (w:World) (O:Nat->Prop) (b W h:Nat) (X:Nat->Prop) (Bm D:Nat) (T:List Nat->St) (l:List Nat) (W':World):Prop:=
 ∃(R:Nat->Value),CI w O b W h X (T l) W' R/\Boxed W' Bm 62 (.pointer (some ⟨b,0,none⟩))/\W'.heap[D]?=some (.deferred (some []))
theorem jlC {w:World} {O X:Nat->Prop} {b W h B Bm D:Nat} (T:List Nat->St) (hB:w.heap.size<=B) (hD:D<B):OwnFrom B (L2 w O b W h X Bm D T):=by
 rintro l A A' row ⟨R,c,h1,h2⟩ hg hr;have hr':∀r,row=some r->∃o:Obj,A.heap[r]?=some o/\o.isCells=false:=fun r e=>(hr r e).2;refine⟨R,c.kept (Y:=fun i=>row=some i) ((Fr.refl _ A).grown hg (fun k hk=>.inl hk)) (fun i hi hrow=>?_) (fun i hi=>.inr (by obtain⟨h1,_⟩:=hr i hi;omega)),h1.kept hg (jbW h1 hr'),(hg.block D (zqa h2).1 (fun q=>by have:=(hr D q.symm).1;omega)).trans h2⟩;obtain⟨o,ho,hc⟩:=hr' i hrow;rw[c.cellOf i o hi ho] at hc;cases hc
theorem Jj {w w1:World} {O X:Nat->Prop} {b W h D:Nat} {s:St} {R:Nat->Value} {wr:World} (c:CI w O b W h X s wr R) (hf:Fr (Own b R) wr w1) (hd:wr.heap[D]?=some (.deferred (some []))):w1.heap[D]?=some (.deferred (some [])):=
 (hf.block D (zqa hd).1 (fun q=>by have:=c.cellOf D _ q hd;cases this)).trans hd
section
variable {w:World} {b W h:Nat} {R:Nat->Value} {now old:List Ob}
theorem jhE (m:zi w b W h R now old) (z:WF W h now old) {a:Option Addr} {N c:Nat} {ns:List Nat} (hv:Jg w a N ns) (hN:∀(g off:Nat),a=some ⟨g,off,none⟩->¬Own b R g) (hN1:N<=60000):
  Calls prog 62 #[.pointer (some ⟨b,0,none⟩),.slice a N c] w (jvD w b W h R now ns):=by
 have HT:=hid (fun W1 (hb:Below w.heap.size w W1) (hs:w.heap.size<=W1.heap.size)=>jgK (m.below hb) z (c:=c) (ns:=ns) (a:=a) (N:=N) ⟨hv.len,hv.few,hv.word,fun j n hj=>by
  obtain⟨g,off,h1,h2,h3⟩:=hv.cell j n hj;exact⟨g,off,h1,by omega,(World.cell?_of_block (hb.block g h2)).trans h3⟩⟩)
 have HM:=hid m;have HVV0:=hid hv;have HNN:=hid hN;clear m hv hN;refine(callsIn_wide (n:=3)).1 ?_;refine callsIn_of_wp_marks Tryz.func62 rfl trivial ?_ rfl;simp only[Tryz.ntmps62,List.size_toArray,List.length_cons,List.length_nil,Nat.reduceAdd,Nat.reduceSub,Array.replicate_succ,Array.replicate_zero,List.push_toArray,List.append_toArray,List.nil_append,List.cons_append];have bM0:=Boxed.new w 62 (.pointer (some ⟨b,0,none⟩));have hB0:Below w.heap.size w (w.alloc (.cells #[.pointer (some ⟨b,0,none⟩)] 62)):=(Below.refl _ w).alloc (zqg _) _;gi_wp2_with fail;refine⟨trivial,?_⟩;refine(callsIn_wide.2 (HT.out _ hB0 (by simp))).mono ?_;rintro e w2 (⟨hr,rfl,hb⟩|⟨met,v,hr,rfl,hb2,hown⟩)
 ·have HR:=hid hr
  have HB:=hid (hB0.trans (hb.mono (by simp)));clear hr hb hB0 bM0 HT;gi_wp2_with fail;refine⟨_,results_tmp2 rfl _ _ _,.inl ⟨HR.out,rfl,HB.out⟩⟩
 ·have hok:=Jb hr
  rw[World.size_alloc] at hb2 hown;have hs2:w.heap.size+1<=w2.heap.size:=by have:=hb2.size;simpa using this
  have bM2:Boxed w2 w.heap.size 62 (.pointer (some ⟨b,0,none⟩)):=(hb2.block _ (by omega)).trans bM0;have hB2:Below w.heap.size w w2:=hB0.trans (hb2.mono (by omega));obtain⟨va,cap,hv',_,_,_⟩:=jfB (l:=qd h W now met) (va:=v) (by rw[z5];exact hown);subst hv';rw[z5] at hown ⊢;obtain⟨K,hK⟩:∃K,met.length=K:=⟨_,rfl⟩;have hKf:K<=65536:=by
   have h2:=JB now (i:=0) (j:=now.length) (Nat.zero_le _) (zqg _);rw[qI] at h2;have:=hok.len;have:=z.un;have:=z.w1;omega
  have HFL:=hid (jpw (HM.out.below hB2) z);have HZ0:=hid (show WF W (1-h) [] now from⟨z.w0,z.w1,by have:=z.hh;omega,Nat.zero_le _,z.un,by simp,z.okn,by intro o ho;cases ho⟩);have HOWN:=hid hown;have HRE:=hid hr;have HK:=hid hK;have HS2:=hid hs2;have HB2:=hid hB2;have hcm2:=bM2.cell;have HBM:=hid bM2;have hvX:∀g,(Value.slice va K cap).ownBlock=some g->w.heap.size<g/\g<w2.heap.size:=fun g hg=>by
   have h1:=hown.lt g (by rw[hK];exact hg);omega
  have HVX:=hid hvX;rw[hK];clear hown hb2 bM0 hB0 hK hr hok HT hB2 bM2 hvX;gi_wp2_with fail;refine⟨trivial,?_⟩;refine(callsIn_wide.2 HFL.out).mono ?_;rintro e w3 ⟨rfl,R3,m3,s3,f3⟩;have hx3:MX w (Own b R) b W (1-h) ⟨[],now⟩ w3 R3:=⟨m3,HZ0.out,fun i hi=>.inl (s3 i hi),((Fr.of_below (O:=Own b R) HB2.out).trans f3 (fun i hi=>.inl hi))⟩;obtain⟨cs,hcs,hmk⟩:=jp5 K hKf;have hown3:w3.ownsRow 0 3 1 (.slice va K cap) (qd h W now met).length (ql (qd h W now met)):=f3.own (by have:=Jl HOWN.out (Nat.zero_le (w.heap.size+1));rw[HK.out] at this;rw[z5,HK.out];exact this) (fun g hg q=>by
   have h1:=HVX.out g hg;have:=HM.out.own_lt g q;omega)
  have hmo:=jqv w3 K hKf cs hcs;have hbx:=Boxed.new (w3.alloc (.cells cs 3)) 70 (.slice (some ⟨w3.heap.size,0,none⟩) 0 K);rw[World.size_alloc] at hbx;have hbm3:Boxed w3 w.heap.size 62 (.pointer (some ⟨b,0,none⟩)):=(f3.block w.heap.size HBM.out.lt (fun q=>by have:=HM.out.own_lt _ q;omega)).trans HBM.out;have HX3:=hid hx3;have HO3:=hid hown3;have HMO:=hid hmo;have HBX:=hid hbx;have HBM3:=hid hbm3;have hs3:w2.heap.size<=w3.heap.size:=f3.size;have HF3:=hid f3;have HS3:=hid (fun i (hi:Own b R3 i)=>HM.out.own_lt i (s3 i hi));clear hx3 hown3 hmo hbx m3 s3 f3 hbm3;gi_wp2_with (refine⟨trivial,?_⟩;gi_at_call 108;refine(each_in Fence.wide _ trivial rfl _ _ _ _).mono ?_;rintro e w' ⟨rfl,rfl⟩);obtain⟨Bx,hBx⟩:∃Bx,w3.heap.size+1=Bx:=⟨_,rfl⟩;have hBg:w.heap.size<Bx:=by have:=HB2.out.size;omega
  have bN:=Boxed.new ((w3.alloc (.cells cs 3)).alloc (.cells #[.slice (some ⟨w3.heap.size,0,none⟩) 0 K] 70)) 70 (.slice va K cap);rw[World.size_alloc,World.size_alloc,hBx] at bN;have hrow6:(((w3.alloc (.cells cs 3)).alloc (.cells #[.slice (some ⟨w3.heap.size,0,none⟩) 0 K] 70)).alloc (.cells #[.slice va K cap] 70)).ownsRow 0 3 1 (.slice va K cap) (qd h W now met).length (ql (qd h W now met)):=((HO3.out.alloc _).alloc _).alloc _;have HL0:=hid (show L1 w (Own b R) b W (1-h) (fun i=>i=w.heap.size\/i=Bx\/(Value.slice va K cap).ownBlock=some i) w.heap.size Bx (mvP (1-h) W (qd h W now met) ⟨[],now⟩) [] (((w3.alloc (.cells cs 3)).alloc (.cells #[.slice (some ⟨w3.heap.size,0,none⟩) 0 K] 70)).alloc (.cells #[.slice va K cap] 70)) from by
   have hfr:Fr (fun _=>False) w3 (((w3.alloc (.cells cs 3)).alloc (.cells #[.slice (some ⟨w3.heap.size,0,none⟩) 0 K] 70)).alloc (.cells #[.slice va K cap] 70)):=(((Fr.refl _ w3).alloc _).alloc _).alloc _;have hlt3:∀i,Own b R3 i->i<w3.heap.size:=HX3.out.lt;refine⟨R3,_,⟨HX3.out.kept hfr (fun _ _=>id) (fun _ h=>h.elim),fun i hi=>⟨fun q=>?_,?_⟩⟩,Zd hfr HBM3.out id,by rw[<-hBx];exact HBX.out.alloc _,((Jl HMO.out (by have:=HB2.out.size;omega)).alloc _).alloc _,fun g hg=>?_⟩
   ·have hl:=hlt3 i q
    rcases hi with e|e|e
    ·have:=HS3.out i q;omega
    ·omega
    ·have:=HS3.out i q;have:=HVX.out i e;omega
   ·have h1:=hfr.size
    simp only[World.size_alloc];rcases hi with e|e|e
    ·have:=HB2.out.size;omega
    ·omega
    ·have:=HVX.out i e;omega
   ·have hg':w3.heap.size=g:=by simpa[Value.ownBlock] using hg
    subst hg';refine⟨fun q=>?_,fun q=>?_⟩
    ·have:=hlt3 _ q;omega
    ·rcases q with e|e|e
     ·have:=HB2.out.size;omega
     ·omega
     ·have:=HVX.out _ e;omega)
  obtain⟨xs,hxs⟩:∃xs,qd h W now met=xs:=⟨_,rfl⟩;rw[hxs] at HL0 hrow6;have HXS:=hid hxs;have hxl:xs.length=K:=by rw[<-hxs,z5,HK.out]
  have HXB:=hid (show∀x:Nat,xs[x]?.getD 0<=9223372036854775807 from fun x=>by
   rw[<-hxs];cases e:met[x]? with
   |none=>rw[List.getElem?_eq_none (by rw[z5];exact List.getElem?_eq_none_iff.1 e)];decide
   |some j=>
    have hj:=(Jb HRE.out).lt j (zqc e);have:=(jfy z (Nat.le_of_lt hj)).2;rw[jca e];show J7 h W now j<=_;omega)
  have HSN:=hid (fun l x=>jh8 (1-h) W xs ⟨[],now⟩ l x);have HSL:=hid (fun l=>jsD (1-h) W xs ⟨[],now⟩ l);have HXL:=hid hxl;have HW6:=hid (show Below w3.heap.size w3 (((w3.alloc (.cells cs 3)).alloc (.cells #[.slice (some ⟨w3.heap.size,0,none⟩) 0 K] 70)).alloc (.cells #[.slice va K cap] 70)) from(((Below.refl _ w3).alloc (zqg _) _).alloc (by simp) _).alloc (by simp;omega) _);have hs6:(((w3.alloc (.cells cs 3)).alloc (.cells #[.slice (some ⟨w3.heap.size,0,none⟩) 0 K] 70)).alloc (.cells #[.slice va K cap] 70)).heap.size=Bx+2:=by simp;omega
  rw[hBx];obtain⟨w6,hw6⟩:∃w6,(((w3.alloc (.cells cs 3)).alloc (.cells #[.slice (some ⟨w3.heap.size,0,none⟩) 0 K] 70)).alloc (.cells #[.slice va K cap] 70))=w6:=⟨_,rfl⟩;rw[hw6] at HL0 HW6 hrow6 bN hs6 ⊢;have HBX0:=hid hBx;obtain⟨S,hS⟩:∃S,mvP (1-h) W xs ⟨[],now⟩=S:=⟨_,rfl⟩;rw[hS] at HL0 HSN HSL;have HSS:=hid hS;obtain⟨X,hX⟩:∃X:Nat->Prop,(fun i=>i=w.heap.size\/i=Bx\/(Value.slice va K cap).ownBlock=some i)=X:=⟨_,rfl⟩;rw[hX] at HL0;have HXm:=hid (show X w.heap.size from by rw[<-hX];exact .inl rfl);have HXx:=hid (show X Bx from by rw[<-hX];exact .inr (.inl rfl));have HXv:=hid (show∀g,(Value.slice va K cap).ownBlock=some g->X g/\g≠Bx from fun g hg=>⟨by rw[<-hX];exact .inr (.inr hg),by have:=HVX.out g hg;omega⟩);obtain⟨i1,hi1,hz10,hz11,hz12⟩:=info_parts jhS;clear hw6 hS hX hxs hxl hBx hcm2;refine wpIn_rangeFunc_ownG rfl (by omega) (gf:=155) (lb:=#[.pointer (some ⟨Bx+1,0,none⟩)]) rfl trivial (enters_of Tryz.func155 (by kernel_rfl) rfl)
   (each_stops (3-1) (by omega) (Bx+1) (.slice va K cap) xs w6 bN hrow6) JR jfq (Below.refl _ _) (fun _=>rfl)
   (L1 w (Own b R) b W (1-h) X w.heap.size Bx S)
   (fun _ _ _=>False)
   (jlB S (by omega))
   (fun _ _ _ _ _ hs _ _=>hs)
   HL0.out
   ?a1 ?assign ?body ?done ?stop
  case assign=>
   intro l x W' K hK;gi_wp2;exact hK
  case body=>
   rintro l pre x W' ⟨Rr,vv,cc,hb1,hb2,hrw,hvv⟩ hlt;have hcm:=hb1.cell;have hcb:=hb2.cell;have hfb:=hb2.frozen;obtain⟨Z,hZ⟩:∃Z,xs[x]?.getD 0=Z:=⟨_,rfl⟩;rw[hZ];have hlv:(S pre).2.length=pre.length:=HSL.out pre;have HMV:=hid (jgm cc.x Z (by have:=HXB.out x;rw[hZ] at this;exact this));have hsn:=HSN.out pre x;rw[zqi,hZ] at hsn;obtain⟨t,ht⟩:∃t,(Jr (1-h) W (S pre).1 Z).1=t:=⟨_,rfl⟩;obtain⟨q,hq⟩:∃q,(Jr (1-h) W (S pre).1 Z).2=q:=⟨_,rfl⟩;rw[ht,hq] at HMV;rw[ht] at hsn;have HC:=hid cc;have HB1:=hid hb1;have HB2':=hid hb2;have HRW:=hid hrw;have HVV:=hid hvv;have HSNx:=hid hsn;rw[HXL.out] at hlt;obtain⟨n0,hn0⟩:∃n0,(S pre).2.length=n0:=⟨_,rfl⟩;have hn0':n0=pre.length:=by rw[<-hn0,hlv]
   have HN0:=hid hn0;have hn0b:n0<=65536:=by omega
   clear cc hb1 hb2 hrw hvv hsn ht hq hlv hn0 hn0' hZ hcb hfb;gi_wp2_with fail;refine⟨trivial,?_⟩;refine(CallsIn.inRound l (callsIn_wide.2 HMV.out)).mono ?_;rintro e w5 ⟨rfl,R5,x5,s5,f5⟩;have c5:=HC.out.turn x5 s5 f5;have g1:=HC.out.box f5 HB1.out HXm.out;have g2:=HC.out.box f5 HB2'.out HXx.out;have g3:w5.ownsRow w.heap.size 3 1 vv (S pre).2.length (ql (S pre).2):=f5.own HRW.out (fun g hg=>(HVV.out g hg).1);have g4:∀g,vv.ownBlock=some g->¬Own b R5 g/\¬X g:=fun g hg=>⟨fun q=>by
    rcases s5 g q with r|r
    ·exact(HVV.out g hg).1 r
    ·have:=(HRW.out.lt g hg).2;omega,(HVV.out g hg).2⟩
   have hk5:=HC.out.keeps f5;obtain⟨ag,cg,hvg,_,_,_⟩:=jfB (l:=(S pre).2) g3;rw[HN0.out] at hvg;subst hvg;have hcb:=g2.cell;have hfb:=g2.frozen;have HC5:=hid c5;have HG1:=hid g1;have HG2:=hid g2;have HG3:=hid g3;have HG3':=hid (show w5.ownsRow w.heap.size 3 1 (.slice ag n0 cg) n0 (ql (S pre).2) from by have:=g3;rw[HN0.out] at this;exact this);have HG4:=hid g4;have HK5:=hid hk5;have HF5:=hid f5;have hsz5:=c5.x.fr.size;clear x5 s5 f5 c5 g1 g2 g3 g4 hk5;gi_wp2_with (gi_at_builtin;go_loud (refine wpListIn_append_own_at _ rfl _ _ 70 rfl w.heap.size 3 i1 (.int .i64 0) 1 8 Tryz.underlying70 hi1 hz10 hz11 hz12 rfl (by decide) _ n0 (ql (S pre).2) rfl (HG3'.out.alloc _) ⟨w5.heap.size,0,none⟩ 1 1 [.int .i64 (t:Int)] rfl rfl (cell_one_new _ _ _) (by simp[Value.oneCell']) (by unfold maxLen;omega) (by omega) (by simp;omega) ?_;intro v7 w7 hown7 hgrow7 _ hblk7;rw[jf8] at hown7;obtain⟨g7,cap7,rfl⟩:=ownsRow_succ hown7;obtain⟨q1,q2,q3,q4,q5,q6,q7,q8⟩:=jtZ (la':=(S pre).2++[(t:Int)]) HC5.out HXm.out HXx.out (Nat.le_of_lt hBg) (Nat.ne_of_lt hBg) HG1.out HG2.out HG3.out HG4.out (by rw[zqm,HN0.out];exact hown7) hgrow7 hblk7;have hc1:=q1.cell;have hf1:=q1.frozen;have HQ:=hid (zqf q2 (zqf q3 (zqf q4 (zqf q5 (zqf q6 (zqf q7 q8))))));clear q1 q2 q3 q4 q5 q6 q7 q8 hown7 hgrow7 hblk7));obtain⟨q2,q3,q4,q5,q6,q7,q8⟩:=HQ.out;refine⟨(HK5.out.trans q7).from _,fun hr=>?_,R5,_,?_,q3,q4,?_,q6⟩
   ·have h1:=HC.out.row HF5.out hr (fun g hg=>(HXv.out g hg).1)
    exact q8.own h1 (fun g hg q=>by
     rcases q with q|q
     ·exact(HG4.out g q).2 (HXv.out g hg).1
     ·exact(HXv.out g hg).2 q)
   ·rw[HSNx.out];exact q2
   ·rw[HSNx.out];exact q5
  case done=>
   rintro D ys W' hD rfl ⟨Rr,vv,cc,hb1,hb2,hrw,hvv⟩ hK;have hla:(S (List.range xs.length)).2.length=K:=by rw[HSL.out,List.length_range,HXL.out]
   obtain⟨la,hlae⟩:∃la,(S (List.range xs.length)).2=la:=⟨_,rfl⟩;obtain⟨s1,hs1⟩:∃s1,(S (List.range xs.length)).1=s1:=⟨_,rfl⟩;have HLB:=hid (show∀t∈la,t<=131073 from by
    rw[<-hlae,<-HSS.out];exact jue HZ0.out _)
   rw[hlae] at hrw hla;rw[hs1] at cc;obtain⟨ag,cg,hvg,_,_,_⟩:=jfB (l:=la) hrw;rw[hla] at hvg hrw;subst hvg;have hcb:=hb2.cell;have HC:=hid cc;have HB1:=hid hb1;have HRW:=hid hrw;have HVV:=hid hvv;have HLA:=hid hla;have HS1:=hid hs1;have HLE:=hid hlae;have HKD:=hid hK;have hsz':=cc.x.fr.size;have hDW:D<W'.heap.size:=(zqa hK).1;clear cc hb1 hb2 hrw hvv hla hs1 hlae hK;gi_wp2_with (refine⟨trivial,?_⟩;gi_at_call 108;refine(each_in Fence.wide _ trivial rfl _ _ _ _).mono ?_;rintro e w' ⟨rfl,rfl⟩);have bN2:=Boxed.new W' 70 (.slice ag K cg);obtain⟨By,hBy⟩:∃By,W'.heap.size=By:=⟨_,rfl⟩;have hrow7:(W'.alloc (.cells #[.slice ag K cg] 70)).ownsRow 0 3 1 (.slice ag K cg) la.length (ql la):=by rw[HLA.out];exact(Jl HRW.out (Nat.zero_le _)).alloc _
   have hfr7:Fr (fun _=>False) W' (W'.alloc (.cells #[.slice ag K cg] 70)):=(Fr.refl _ W').alloc _;have HL20:=hid (show L2 w (Own b R) b W (1-h) (fun i=>X i\/(Value.slice ag K cg).ownBlock=some i) w.heap.size D (rnS (1-h) W la s1) [] (W'.alloc (.cells #[.slice ag K cg] 70)) from
    ⟨Rr,⟨HC.out.x.kept hfr7 (fun _ _=>id) (fun _ h=>h.elim),fun i hi=>by
     rcases hi with q|q
     ·exact⟨(HC.out.far i q).1,Nat.lt_of_lt_of_le (HC.out.far i q).2 hfr7.size⟩
     ·exact⟨(HVV.out i q).1,Nat.lt_of_lt_of_le (HRW.out.lt i q).2 hfr7.size⟩⟩,Zd hfr7 HB1.out id,(hfr7.block D hDW id).trans HKD.out⟩)
   have hs7:(W'.alloc (.cells #[.slice ag K cg] 70)).heap.size=By+1:=by rw[World.size_alloc,hBy]
   obtain⟨w7,hw7⟩:∃w7,W'.alloc (.cells #[.slice ag K cg] 70)=w7:=⟨_,rfl⟩;rw[hBy] at bN2 hsz' hDW;rw[hw7] at bN2 hrow7 HL20 hs7 ⊢;obtain⟨X2,hX2⟩:∃X2:Nat->Prop,(fun i=>X i\/(Value.slice ag K cg).ownBlock=some i)=X2:=⟨_,rfl⟩;rw[hX2] at HL20;have HX2m:=hid (show X2 w.heap.size from by rw[<-hX2];exact .inl HXm.out);have HX2v:=hid (show∀g,(Value.slice ag K cg).ownBlock=some g->X2 g from fun g hg=>by rw[<-hX2];exact .inr hg);obtain⟨T,hT⟩:∃T,rnS (1-h) W la s1=T:=⟨_,rfl⟩;have HTS:=hid (fun l x=>jiE (1-h) W la s1 l x);rw[hT] at HL20 HTS;have HTT:=hid hT;have HZB:=hid (show∀x:Nat,la[x]?.getD 0<=9223372036854775807 from fun x=>by
    cases e:la[x]? with
    |none=>decide
    |some t=>have:=HLB.out t (zqc e);show t<=_;omega)
   rw[hBy];clear hw7 hX2 hT hBy hfr7 hcb;refine wpIn_rangeFunc_ownG rfl (by omega) (gf:=155) (lb:=#[.pointer (some ⟨By,0,none⟩)]) rfl trivial (enters_of Tryz.func155 (by kernel_rfl) rfl)
    (each_stops (3-1) (by omega) By (.slice ag K cg) la w7 bN2 hrow7) JR jfq (Below.refl _ _) (fun _=>rfl)
    (L2 w (Own b R) b W (1-h) X2 w.heap.size D T)
    (fun _ _ _=>False)
    (jlC T (by omega) (by omega))
    (fun _ _ _ _ _ hs _ _=>hs)
    HL20.out
    ?a2 ?assign2 ?body2 ?done2 ?stop2
   case assign2=>
    intro l x W3 K3 hK3;gi_wp2;exact hK3
   case body2=>
    rintro l pre x W3 ⟨R3,c3,hb3,hd3⟩ hlt;have hcm:=hb3.cell;obtain⟨Z,hZ⟩:∃Z,la[x]?.getD 0=Z:=⟨_,rfl⟩;have hZb:=HZB.out x;rw[hZ] at hZb ⊢;have HLK:=hid (ja8 c3.x.m c3.x.z Z hZb);have hbd:=jpZ c3.x.z Z;have hts:=HTS.out pre x;rw[zqi,hZ] at hts;obtain⟨q1,hq1⟩:∃q,(qk (1-h) W (T pre) Z).1=q:=⟨_,rfl⟩;obtain⟨q2,hq2⟩:∃q,(qk (1-h) W (T pre) Z).2.1=q:=⟨_,rfl⟩;obtain⟨tg,htg⟩:∃q,(qk (1-h) W (T pre) Z).2.2.1=q:=⟨_,rfl⟩;obtain⟨q4,hq4⟩:∃q,(qk (1-h) W (T pre) Z).2.2.2=q:=⟨_,rfl⟩;rw[hq1,hq2,htg,hq4] at HLK;rw[hq1,hq2,htg] at hbd;rw[htg] at hts;have HTSx:=hid hts;have htg2:(tg:Int)<=16384:=by omega
    have HC3:=hid c3;have HB3:=hid hb3;have HD3:=hid hd3;clear c3 hb3 hd3 hts hq1 hq2 htg hq4 hbd hZ;gi_wp2_with fail;refine⟨trivial,?_⟩;refine(CallsIn.inRound l (callsIn_wide.2 HLK.out)).mono ?_;rintro e w8 ⟨rfl,n8,hw8⟩;have hf8:Fr (Own b R3) W3 w8:=by rw[hw8];exact(Fr.refl _ _).drewN n8
    have HR8:=hid (show CI w (Own b R) b W (1-h) X2 (rnO (1-h) W Z (T pre) 0) w8 R3/\Boxed w8 w.heap.size 62 (.pointer (some ⟨b,0,none⟩))/\w8.heap[D]?=some (.deferred (some []))/\KeepsOthers W3 w8/\Ju (.slice ag K cg) la W3 w8 from
     ⟨by rw[hw8];exact HC3.out.drewN n8,HC3.out.box hf8 HB3.out HX2m.out,Jj HC3.out hf8 HD3.out,HC3.out.keeps hf8,fun hr=>HC3.out.row hf8 hr HX2v.out⟩)
    clear hw8 hf8 hcm;gi_wp2_with fail;gi_loopw [62] (fun i wr=>∃(k:Nat) (R4:Nat->Value),k<=tg/\i=.int .i64 k/\CI w (Own b R) b W (1-h) X2 (rnO (1-h) W Z (T pre) k) wr R4/\Boxed wr w.heap.size 62 (.pointer (some ⟨b,0,none⟩))/\wr.heap[D]?=some (.deferred (some []))/\KeepsOthers W3 wr/\Ju (.slice ag K cg) la W3 wr) (fun i _=>tg-(intOf i).toNat)
    case atStart=>exact⟨0,R3,Nat.zero_le _,rfl,HR8.out⟩
    case round=>
     obtain⟨k,R4,hk,rfl,c4,hb4,hd4,hk4,hl4⟩:=hrel;clear HR8;by_cases hlt2:k<tg
     ·have hlti:(k:Int)<tg:=by omega
      have hk0:(0:Int)<=k:=by omega
      have hcm4:=hb4.cell;have HLD:=hid (jge c4.x.m c4.x.z Z hZb k);have hnb:=jpW c4.x.z Z k;have hrs:=jiD (1-h) W Z (T pre) k;unfold rnF at hrs;obtain⟨n,hn⟩:∃n,(qY (1-h) W (rnO (1-h) W Z (T pre) k) Z k).1=n:=⟨_,rfl⟩;obtain⟨q,hq⟩:∃q,(qY (1-h) W (rnO (1-h) W Z (T pre) k) Z k).2=q:=⟨_,rfl⟩;rw[hn,hq] at HLD;rw[hn] at hnb hrs;have HRS:=hid hrs;have HP:=hid (fun W1=>QW (n:Int) W1 (by omega) (by omega));have HC4:=hid c4;have HB4:=hid hb4;have HD4:=hid hd4;have HK4:=hid hk4;have HL4:=hid hl4;have HNB:=hid hnb;clear c4 hb4 hd4 hk4 hl4 hn hq hrs hnb;gi_wp2_with fail;refine⟨trivial,?_⟩;refine(CallsIn.inRound l (callsIn_wide.2 HLD.out)).mono ?_;rintro e w9 ⟨rfl,n9,hw9⟩;have hf9:Fr (Own b R4) wr w9:=by rw[hw9];exact(Fr.refl _ _).drewN n9
      have HC9:=hid (show CI w (Own b R) b W (1-h) X2 (rnO (1-h) W Z (T pre) k) w9 R4 from by rw[hw9];exact HC4.out.drewN n9);have hb9:=HC4.out.box hf9 HB4.out HX2m.out;have HB9:=hid hb9;have HD9:=hid (Jj HC4.out hf9 HD4.out);have HK9:=hid (HK4.out.trans (HC4.out.keeps hf9));have HL9:=hid (show Ju (.slice ag K cg) la W3 w9 from JR HL4.out (fun hr=>HC4.out.row hf9 hr HX2v.out));have hcm9:=hb9.cell;clear hf9 hw9 hb9 hcm4;cases hp:jf (n:Int)
      ·rw[hp] at HP HRS
       gi_wp2_with fail;refine⟨trivial,?_⟩;refine(CallsIn.inRound l (callsIn_wide.2 (HP.out _))).mono ?_;rintro e w10 ⟨rfl,hw10⟩;subst w10;gi_wp2_with fail;go_roundw
       case rel=>exact⟨k+1,R4,hlt2,by go_num,by rw[HRS.out];exact HC9.out,HB9.out,HD9.out,HK9.out,HL9.out⟩
       case measure=>simp[intOf];omega
      ·rw[hp] at HP HRS
       have hfd:Fr (Own b R4) w9 w9.drew:=(Fr.refl _ w9).drew;have HCd:=hid (show CI w (Own b R) b W (1-h) X2 (rnO (1-h) W Z (T pre) k) w9.drew R4 from HC9.out.drewN 1);have HBd:=hid (HC9.out.box hfd HB9.out HX2m.out);have HDd:=hid (Jj HC9.out hfd HD9.out);have HKd:=hid (HK9.out.trans (HC9.out.keeps hfd));have HLd:=hid (show Ju (.slice ag K cg) la W3 w9.drew from JR HL9.out (fun hr=>HC9.out.row hfd hr HX2v.out));have HST:=hid (jiC HCd.out.x n HNB.out);have hv10:=jsY (1-h) W (rnO (1-h) W Z (T pre) k) HNB.out;simp only[if_true] at HRS;obtain⟨v10,hv10e⟩:∃v10,Qm (1-h) W (rnO (1-h) W Z (T pre) k) n=v10:=⟨_,rfl⟩;rw[hv10e] at HRS HST hv10;have hcmd:w9.drew.cell? ⟨w.heap.size,0,none⟩=some (.pointer (some ⟨b,0,none⟩)):=HBd.out.cell;clear hv10e hfd;gi_wp2_with fail;refine⟨trivial,?_⟩;refine(CallsIn.inRound l (callsIn_wide.2 (HP.out _))).mono ?_;rintro e w10 ⟨rfl,hw10⟩;subst w10;gi_wp2_with fail;refine jal rfl (by kernel_rfl) ?_;change wpAny _ _ _ _ 7 _ _ _;refine wpAny_take (i:=1) (v:=.int .i64 Z) rfl (by kernel_rfl) (by kernel_rfl) (by kernel_rfl) (fun _ _ _ h=>h) (Or.inl ⟨by rfl,fun w=>by go_simp⟩) ?_;refine wpAny_take (i:=2) (v:=.int .i64 (k:Int)) rfl (by kernel_rfl) (by kernel_rfl) (by kernel_rfl) (fun _ _ _ h=>h) (Or.inl ⟨by rfl,fun w=>by go_simp⟩) ?_;refine wpAny_take (i:=4) (v:=.int .u64 (n:Int)) rfl (by kernel_rfl) (by kernel_rfl) (by kernel_rfl) (fun _ _ _ h=>h) (Or.inl ⟨by rfl,fun w=>by go_simp⟩) ?_;change wpAny _ _ _ _ 4 _ _ _;refine wpAny_ready (rs:=[0,3]) (by kernel_rfl) (by simp) ?_;refine AllReady.cons (by rfl) (fun K hK=>?_) (AllReady.cons (by rfl) (fun K hK=>?_) AllReady.nil)
       ·go_simp
        refine hK _ _ ?_;clear hK K;change wpAny _ _ _ _ 3 _ _ _;refine wpAny_ready (rs:=[3]) (by kernel_rfl) (by simp) ?_;refine AllReady.cons (by rfl) (fun K hK=>?_) AllReady.nil;go_simp;refine hK _ _ ?_;clear hK K;change wpAny _ _ _ _ 2 _ _ _;refine wpAny_ready (rs:=[5]) (by kernel_rfl) (by simp) ?_;refine AllReady.cons (by rfl) (fun K hK=>?_) AllReady.nil;go_simp;go_at_call 110;refine HST.out.mono ?_;rintro e w10 ⟨rfl,R5,x5,s5,f5⟩;refine hK _ _ ?_;clear hK K;have HC10:=hid (HCd.out.turn x5 s5 f5);have hb10:=HCd.out.box f5 HBd.out HX2m.out;have HB10:=hid hb10;have HD10:=hid (Jj HCd.out f5 HDd.out);have HK10:=hid (HKd.out.trans (HCd.out.keeps f5));have HL10:=hid (show Ju (.slice ag K cg) la W3 w10 from JR HLd.out (fun hr=>HCd.out.row f5 hr HX2v.out));have hcm10:=hb10.cell;have HSO:=hid (jcr HC10.out.x Z hZb k v10 hv10);clear x5 s5 f5 hb10;change wpAny _ _ _ _ 1 _ _ _;refine wpAny_ready (rs:=[6]) (by kernel_rfl) (by simp) ?_;refine AllReady.cons (by rfl) (fun K hK=>?_) AllReady.nil;go_simp;go_at_call 29;refine HSO.out.mono ?_;rintro e w11 ⟨⟨q11,rfl⟩,x11,f11⟩;refine hK _ _ ?_;clear hK K;refine wpAny_done (by kernel_rfl) ?_ _;have HC11:=hid (HC10.out.turn x11 (fun i hi=>.inl hi) f11);have HB11:=hid (HC10.out.box f11 HB10.out HX2m.out);have HD11:=hid (Jj HC10.out f11 HD10.out);have HK11:=hid (HK10.out.trans (HC10.out.keeps f11));have HL11:=hid (show Ju (.slice ag K cg) la W3 w11 from JR HL10.out (fun hr=>HC10.out.row f11 hr HX2v.out));clear x11 f11;simp only[QQ];gi_wp2_with fail;go_roundw
        case rel=>exact⟨k+1,_,hlt2,by go_num,by rw[HRS.out];exact HC11.out,HB11.out,HD11.out,HK11.out,HL11.out⟩
        case measure=>simp[intOf];omega
       ·go_simp
        refine hK _ _ ?_;clear hK K;change wpAny _ _ _ _ 3 _ _ _;refine wpAny_ready (rs:=[0,5]) (by kernel_rfl) (by simp) ?_;refine AllReady.cons (by rfl) (fun K hK=>?_) (AllReady.cons (by rfl) (fun K hK=>?_) AllReady.nil)
        ·go_simp
         refine hK _ _ ?_;clear hK K;change wpAny _ _ _ _ 2 _ _ _;refine wpAny_ready (rs:=[5]) (by kernel_rfl) (by simp) ?_;refine AllReady.cons (by rfl) (fun K hK=>?_) AllReady.nil;go_simp;go_at_call 110;refine HST.out.mono ?_;rintro e w10 ⟨rfl,R5,x5,s5,f5⟩;refine hK _ _ ?_;clear hK K;have HC10:=hid (HCd.out.turn x5 s5 f5);have hb10:=HCd.out.box f5 HBd.out HX2m.out;have HB10:=hid hb10;have HD10:=hid (Jj HCd.out f5 HDd.out);have HK10:=hid (HKd.out.trans (HCd.out.keeps f5));have HL10:=hid (show Ju (.slice ag K cg) la W3 w10 from JR HLd.out (fun hr=>HCd.out.row f5 hr HX2v.out));have hcm10:=hb10.cell;have HSO:=hid (jcr HC10.out.x Z hZb k v10 hv10);clear x5 s5 f5 hb10;change wpAny _ _ _ _ 1 _ _ _;refine wpAny_ready (rs:=[6]) (by kernel_rfl) (by simp) ?_;refine AllReady.cons (by rfl) (fun K hK=>?_) AllReady.nil;go_simp;go_at_call 29;refine HSO.out.mono ?_;rintro e w11 ⟨⟨q11,rfl⟩,x11,f11⟩;refine hK _ _ ?_;clear hK K;refine wpAny_done (by kernel_rfl) ?_ _;have HC11:=hid (HC10.out.turn x11 (fun i hi=>.inl hi) f11);have HB11:=hid (HC10.out.box f11 HB10.out HX2m.out);have HD11:=hid (Jj HC10.out f11 HD10.out);have HK11:=hid (HK10.out.trans (HC10.out.keeps f11));have HL11:=hid (show Ju (.slice ag K cg) la W3 w11 from JR HL10.out (fun hr=>HC10.out.row f11 hr HX2v.out));clear x11 f11;simp only[QQ];gi_wp2_with fail;go_roundw
         case rel=>exact⟨k+1,_,hlt2,by go_num,by rw[HRS.out];exact HC11.out,HB11.out,HD11.out,HK11.out,HL11.out⟩
         case measure=>simp[intOf];omega
        ·go_simp
         go_at_call 110;refine HST.out.mono ?_;rintro e w10 ⟨rfl,R5,x5,s5,f5⟩;refine hK _ _ ?_;clear hK K;have HC10:=hid (HCd.out.turn x5 s5 f5);have hb10:=HCd.out.box f5 HBd.out HX2m.out;have HB10:=hid hb10;have HD10:=hid (Jj HCd.out f5 HDd.out);have HK10:=hid (HKd.out.trans (HCd.out.keeps f5));have HL10:=hid (show Ju (.slice ag K cg) la W3 w10 from JR HLd.out (fun hr=>HCd.out.row f5 hr HX2v.out));have hcm10:=hb10.cell;have HSO:=hid (jcr HC10.out.x Z hZb k v10 hv10);clear x5 s5 f5 hb10;change wpAny _ _ _ _ 2 _ _ _;refine wpAny_ready (rs:=[0]) (by kernel_rfl) (by simp) ?_;refine AllReady.cons (by rfl) (fun K hK=>?_) AllReady.nil;go_simp;refine hK _ _ ?_;clear hK K;change wpAny _ _ _ _ 1 _ _ _;refine wpAny_ready (rs:=[6]) (by kernel_rfl) (by simp) ?_;refine AllReady.cons (by rfl) (fun K hK=>?_) AllReady.nil;go_simp;go_at_call 29;refine HSO.out.mono ?_;rintro e w11 ⟨⟨q11,rfl⟩,x11,f11⟩;refine hK _ _ ?_;clear hK K;refine wpAny_done (by kernel_rfl) ?_ _;have HC11:=hid (HC10.out.turn x11 (fun i hi=>.inl hi) f11);have HB11:=hid (HC10.out.box f11 HB10.out HX2m.out);have HD11:=hid (Jj HC10.out f11 HD10.out);have HK11:=hid (HK10.out.trans (HC10.out.keeps f11));have HL11:=hid (show Ju (.slice ag K cg) la W3 w11 from JR HL10.out (fun hr=>HC10.out.row f11 hr HX2v.out));clear x11 f11;simp only[QQ];gi_wp2_with fail;go_roundw
         case rel=>exact⟨k+1,_,hlt2,by go_num,by rw[HRS.out];exact HC11.out,HB11.out,HD11.out,HK11.out,HL11.out⟩
         case measure=>simp[intOf];omega
     ·have hkt:k=tg:=by omega
      have hlti:¬(k:Int)<tg:=by omega
      have HE:=hid (show KeepsOthers W3 wr/\Ju (.slice ag K cg) la W3 wr/\L2 w (Own b R) b W (1-h) X2 w.heap.size D T (pre++[x]) wr from⟨hk4,hl4,R4,by rw[HTSx.out,<-hkt];exact c4,hb4,hd4⟩);clear c4 hb4 hd4 hk4 hl4;gi_wp2_with fail;exact⟨HE.out.1.from _,HE.out.2.1,HE.out.2.2⟩
   case done2=>
    rintro D2 ys2 W4 hD2 rfl ⟨R4,c4,hb4,hd4⟩ hK4;obtain⟨s2,hs2'⟩:∃s2,T (List.range la.length)=s2:=⟨_,rfl⟩;rw[hs2'] at c4;have HCS:=hid (show jbZ h W now met ns=Qo (1-h) W s2 ns from by
     have e1:jer h W now met=S (List.range xs.length):=by unfold jer;rw[HXS.out,HSS.out,HXL.out,HK.out]
     unfold jbZ jky;rw[e1,HLE.out,HS1.out,HTT.out,<-hs2',HLA.out,HK.out])
    obtain⟨cs4,hcs4,hmk4⟩:=jlh N (by omega);have hcm:=hb4.cell;obtain⟨rb,hrb⟩:∃rb,W4.heap.size=rb:=⟨_,rfl⟩;have hl:=HVV0.out.len;have hfa:Fr (fun _=>False) W4 (W4.alloc (.cells cs4 65)):=(Fr.refl _ W4).alloc _;have hsz4:=c4.x.fr.size;have hrow4:(W4.alloc (.cells cs4 65)).ownsRow w.heap.size 65 1 (.slice (some ⟨rb,0,none⟩) N N) N (u64s (List.replicate N 0)):=by
     rw[<-hrb];exact⟨by simp[u64s],.inr ⟨W4.heap.size,N,cs4,rfl,hsz4,zqe W4 _,zqg _,by unfold maxLen;omega,by rw[<-Array.length_toList,hcs4];simp,by rw[hcs4];simp[u64s]⟩⟩
    have HR0:=hid (show CI w (Own b R) b W (1-h) (fun i=>X2 i\/i=rb) (Qo (1-h) W s2 (ns.take 0)).1 (W4.alloc (.cells cs4 65)) R4/\Boxed (W4.alloc (.cells cs4 65)) w.heap.size 62 (.pointer (some ⟨b,0,none⟩))/\(W4.alloc (.cells cs4 65)).heap[D]?=some (.deferred (some []))/\(W4.alloc (.cells cs4 65)).heap[D2]?=some (.deferred (some []))/\(W4.alloc (.cells cs4 65)).ownsRow w.heap.size 65 1 (.slice (some ⟨rb,0,none⟩) N N) N (u64s ((Qo (1-h) W s2 (ns.take 0)).2++List.replicate (N-0) 0)) from
     ⟨⟨c4.x.kept hfa (fun _ _=>id) (fun _ h=>h.elim),fun i hi=>by
       rcases hi with q|q
       ·exact⟨(c4.far i q).1,Nat.lt_of_lt_of_le (c4.far i q).2 hfa.size⟩
       ·subst q
        rw[World.size_alloc,<-hrb];exact⟨fun q=>by have:=c4.x.lt _ q;omega,by omega⟩⟩,Zd hfa hb4 id,(hfa.block D (zqa hd4).1 id).trans hd4,(hfa.block D2 (zqa hK4).1 id).trans hK4,hrow4⟩)
    have hbr:w.heap.size<rb:=by rw[<-hrb];exact hb4.lt
    have hrbw:w.heap.size<=rb:=by omega
    have hDD:D2≠D:=by omega
    have hDg:w.heap.size<=D/\w.heap.size<=D2:=by omega
    clear c4 hb4 hd4 hK4 hs2' hfa hrow4;gi_wp2_with fail;gi_loopw [87] (fun i wr=>∃(k:Nat) (R5:Nat->Value),k<=N/\i=.int .i64 k/\CI w (Own b R) b W (1-h) (fun i=>X2 i\/i=rb) (Qo (1-h) W s2 (ns.take k)).1 wr R5/\Boxed wr w.heap.size 62 (.pointer (some ⟨b,0,none⟩))/\wr.heap[D]?=some (.deferred (some []))/\wr.heap[D2]?=some (.deferred (some []))/\wr.ownsRow w.heap.size 65 1 (.slice (some ⟨rb,0,none⟩) N N) N (u64s ((Qo (1-h) W s2 (ns.take k)).2++List.replicate (N-k) 0))) (fun i _=>N-(intOf i).toNat)
    case atStart=>exact⟨0,R4,Nat.zero_le _,rfl,HR0.out⟩
    case round=>
     obtain⟨k,R5,hk,rfl,c5,hb5,hd5,he5,hr5⟩:=hrel;clear HR0;have hcm5:=hb5.cell;by_cases hlt2:k<N
     ·have hlti:(k:Int)<N:=by omega
      have hk0:(0:Int)<=k:=by omega
      obtain⟨n,hn⟩:∃n,ns[k]?=some n:=⟨_,zqh (by omega)⟩;obtain⟨g,off,ha,hg,hcg⟩:=HVV0.out.cell k n hn;subst ha;have hcg':wr.cell? ⟨g,off+k,none⟩=some (.int .u64 (n:Int)):=(c5.x.fr.cell (p:=⟨g,off+k,none⟩) hg (HNN.out g off rfl)).trans hcg;have hnb:=HVV0.out.word n (zqc hn);have HRN:=hid (jiC c5.x n hnb);obtain⟨r,hre⟩:∃r,(Qo (1-h) W s2 (ns.take k)).2=r:=⟨_,rfl⟩;have hrl:r.length=k:=by rw[<-hre,js2,List.length_take];omega
      have htk:ns.take (k+1)=ns.take k++[n]:=by
       obtain⟨hp,e⟩:=zqb hn;rw[List.take_succ_eq_append_getElem hp,e]
      have hsn:=jqR (1-h) W s2 (ns.take k) n;rw[<-htk,hre] at hsn;obtain⟨v5,hv5⟩:∃v5,Qm (1-h) W (Qo (1-h) W s2 (ns.take k)).1 n=v5:=⟨_,rfl⟩;rw[hv5] at HRN hsn;rw[hre] at hr5;have HC5:=hid c5;have HB5:=hid hb5;have HD5:=hid hd5;have HE5:=hid he5;have HR5:=hid hr5;have HSNr:=hid hsn;have HRL:=hid hrl;clear c5 hb5 hd5 he5 hr5 hsn hrl hre hv5 htk hn hcg hnb hg;gi_wp2_with fail;refine⟨trivial,?_⟩;refine(callsIn_wide.2 HRN.out).mono ?_;rintro e w6' ⟨rfl,R6,x6,t6,f6⟩;have c6:=HC5.out.turn x6 t6 f6;have b6:=HC5.out.box f6 HB5.out (.inl HX2m.out);have r6:w6'.ownsRow w.heap.size 65 1 (.slice (some ⟨rb,0,none⟩) N N) N (u64s (r++List.replicate (N-k) 0)):=HC5.out.row f6 HR5.out (fun g hg=>.inr (by simpa[Value.ownBlock] using hg.symm));have HC6:=hid c6;have HB6:=hid b6;have HD6:=hid (Jj HC5.out f6 HD5.out);have HE6:=hid (Jj HC5.out f6 HE5.out);have hst:=r6.stored k (.int .u64 (v5:Int));rw[<-jiV,js0 HRL.out hlt2] at hst;have HST:=hid hst;have HR6:=hid r6;have hcx:w6'.cell? ⟨rb,k,none⟩=some (.int .u64 0):=by
       rw[r6.cellAt k (by omega)];simp only[u64s,List.map_append,List.map_replicate];rw[zqn (by rw[List.length_map,HRL.out];exact zqg _),List.length_map,HRL.out,Nat.sub_self,List.getElem?_replicate,if_pos (by omega)];rfl
      have hfx:w6'.frozen? ⟨rb,k,none⟩=false:=r6.frozenAt k;clear x6 t6 f6 c6 b6 r6 hst hcg' hcm5;gi_wp2_with fail;have hfs:Fr (·=rb) w6' (w6'.setCell ⟨rb,k,none⟩ (.int .u64 (v5:Int))):=(Fr.refl (·=rb) w6').setCell (p:=⟨rb,k,none⟩) (.inl rfl) _;have HFS:=hid hfs;clear hfs;go_roundw
      case rel=>
       have hnb':∀(q:Nat) (o:Obj),w6'.heap[q]?=some o->o.isCells=false->q≠rb:=fun q o ho hc e=>by
        subst e;rcases HR6.out.2 with⟨h0,_⟩|⟨g9,_,_,h9,_,hk9,_⟩
        ·cases h0
        ·obtain rfl:q=g9:=by injection h9 with h9;injection h9 with h9;injection h9
         rw[ho] at hk9;cases hk9
         cases hc
       refine⟨k+1,R6,hlt2,by go_num,?_,?_,?_,?_,?_⟩
       ·rw[HSNr.out]
        exact HC6.out.kept HFS.out (fun i hi q=>(HC6.out.far i (.inr q)).1 hi) (fun i hi=>.inr (by subst hi;exact hrbw))
       ·exact Zd HFS.out HB6.out (Nat.ne_of_lt hbr)
       ·exact(HFS.out.block D (zqa HD6.out).1 (hnb' D _ HD6.out rfl)).trans HD6.out
       ·exact(HFS.out.block D2 (zqa HE6.out).1 (hnb' D2 _ HE6.out rfl)).trans HE6.out
       ·rw[HSNr.out];exact HST.out.1
      case measure=>simp[intOf];omega
     ·have hkN:k=N:=by omega
      have hlti:¬(k:Int)<N:=by omega
      have htn:ns.take k=ns:=zqp (by omega);rw[htn] at c5 hr5;have HE:=hid (show(Qo (1-h) W s2 ns=jbZ h W now met ns)/\ns.length=N from⟨HCS.out.symm,hl⟩);have HC5:=hid c5;have HR5:=hid (show wr.ownsRow w.heap.size 65 1 (.slice (some ⟨rb,0,none⟩) N N) N (u64s (Qo (1-h) W s2 ns).2) from by rw[hkN,Nat.sub_self,List.replicate_zero,List.append_nil] at hr5;exact hr5);have HD5:=hid hd5;have HE5:=hid he5;clear c5 hb5 hd5 he5 hr5 htn hcm5;gi_wp2_with fail;refine⟨by simp,.inl ⟨_,_,rfl,run_takeDeferred HE5.out,?_⟩⟩;have hd10:(wr.putObj D2 (.deferred none)).heap[D]?=some (.deferred (some [])):=(World.putObj_heap_other (fun e=>hDD e.symm)).trans HD5.out;refine⟨by simp,.inl ⟨_,_,rfl,run_takeDeferred hd10,?_⟩⟩;have hff:Fr (fun i=>i=D2\/i=D) wr ((wr.putObj D2 (.deferred none)).putObj D (.deferred none)):=((Fr.refl _ wr).grown (grownBy_putObj' wr D2 (.deferred none)) (fun k e=>.inl (.inl (zqd e).symm))).grown (grownBy_putObj' _ D (.deferred none)) (fun k e=>.inl (.inr (zqd e).symm));refine⟨_,results_tmp2 rfl _ _ _,.inr ⟨met,_,R5,HRE.out,rfl,?_,?_,?_⟩⟩
      ·rw[<-HE.out.1]
       refine HC5.out.x.kept hff (fun i hi q=>?_) (fun i hi=>.inr (by rcases hi with q|q<;>omega));rcases q with q|q
       ·subst q;have:=HC5.out.cellOf _ _ hi HE5.out;cases this
       ·subst q;have:=HC5.out.cellOf _ _ hi HD5.out;cases this
      ·rw[<-HE.out.1,HE.out.2]
       exact ownsRow_putObj (ownsRow_putObj HR5.out (.deferred none) HE5.out rfl) (.deferred none) hd10 rfl
      ·intro g hg
       have hg':rb=g:=by simpa[Value.ownBlock] using hg
       exact(HC5.out.far g (.inr hg'.symm)).1
   case stop2=>
    rintro D2 c pre W' _ _ h _;exact h.elim
  case stop=>
   rintro D c pre W' _ _ h _;exact h.elim
end
end
section
variable {h W:Nat} {now old:List Ob} {met:List Nat}
theorem jnW (hh:h<2):1-(1-h)=h:=by omega
theorem jsy {p j:Nat} (hj:met[p]?=some j):(qd h W now met).getD p 0=J7 h W now j:=by rw[zqi,jca hj];rfl
theorem juz (z:WF W h now old) (ok:Okm now met):∀p,p<=met.length->mvP (1-h) W (qd h W now met) ⟨[],now⟩ (List.range p)=(⟨zJ now (met.take p),ze (1-h) W now met (met.take p)⟩,(met.take p).map fun j=>((JC (1-h) W now met j:Nat):Int)):=by
 intro p;induction p with
 |zero=>intro _;rw[List.take_zero,jib];rfl
 |succ p ih=>
  intro hp;obtain⟨j,hj⟩:∃j,met[p]?=some j:=⟨_,zqh (by omega)⟩;have hjl:=ok.lt j (zqc hj);have ho:=jaS hjl;rw[List.range_succ,jh8,ih (by omega),jsy hj];have hidx:jl (ze (1-h) W now met (met.take p)) (1-(1-h)) W (J7 h W now j)=some j:=by
   rw[QL (jj5 _ _ _ _ _),jnW z.hh];exact J4 hjl
  have hob:jy (ze (1-h) W now met (met.take p)) j=zw now j:=by
   refine ZT ?_;rw[jcg ho,if_neg (jeY ok.nd hj)]
  have hto:(zw now j).to=0:=z.fresh _ (zqc ho);have hfit:=jeX (k:=1-h) z.fresh ok hj z.un;have hT:(jx (1-h) W (used (zJ now (met.take p)):Nat)).toNat=JC (1-h) W now met j:=by
   have:=jfa (k:=1-h) (W:=W) (os:=now) ok.nd hj;omega
  have e1:JT (1-h) W ⟨zJ now (met.take p),ze (1-h) W now met (met.take p)⟩ (J7 h W now j)=⟨zJ now (met.take (p+1)),ze (1-h) W now met (met.take (p+1))⟩:=by
   unfold JT;simp only[hidx,hob];rw[if_neg (by omega),if_neg (by omega),hT,jbj hj,jc1,<-jic ho]
  have e2:(Jr (1-h) W ⟨zJ now (met.take p),ze (1-h) W now met (met.take p)⟩ (J7 h W now j)).1=JC (1-h) W now met j:=by
   unfold Jr;simp only[hidx,hob];rw[if_neg (by omega),if_neg (by omega),hT]
  simp only[e1,e2];rw[jbj hj,List.map_append];rfl
theorem jtp {os:List Ob} {n j:Nat} (e:qF os h W n=some j):jc (n:Int)≠0:=by
 have:=(zF e).2;have h2:=ZF h W (je os j);omega
theorem jk6 {os:List Ob} {n j:Nat} (e:qF os h W n=some j):jf (n:Int)=true:=by
 have h1:=jtp e;cases q:jf (n:Int) with
 |true=>rfl
 |false=>exact absurd (joM q) h1
section
variable (z:WF W h now old) (ok:Okm now met)
include z ok
theorem jgu {nw:List Ob} {n:Nat} (g:Good now h W met n):
  jbv (1-h) W ⟨nw,ze (1-h) W now met met⟩ n=⟨nw,ze (1-h) W now met met⟩/\Qm (1-h) W ⟨nw,ze (1-h) W now met met⟩ n=zx h W now met n:=by
 rcases g with a|⟨a,j,e,hj⟩
 ·unfold jbv Qm zx
  rw[if_pos a,if_pos a,if_pos a];exact⟨rfl,rfl⟩
 ·have ho:=jaS (ok.lt j hj)
  have hidx:jl (ze (1-h) W now met met) (1-(1-h)) W (jc (n:Int))=some j:=by
   rw[QL (jj5 _ _ _ _ _),jnW z.hh];exact e
  have hob:jy (ze (1-h) W now met met) j=⟨(zw now j).k,(zw now j).t,(zw now j).ws,JC (1-h) W now met j⟩:=by
   refine ZT ?_;rw[jcg ho,if_pos hj]
  have ht:=jbR (1-h) W now met j;have hle:=jj8 (k:=1-h) z.fresh ok z.un z.w1 hj;unfold jbv Qm;rw[if_neg a,if_neg a,jec a e];unfold JT Jr;simp only[hidx,hob];rw[if_pos ht,if_pos ht];refine⟨rfl,?_⟩;show(J8 ((JC (1-h) W now met j:Nat):Int)).toNat=_;rw[jjP (by omega) (by omega)];omega
theorem jsS (gd:∀j∈met,∀n∈JW now j,Good now h W met n) {p j:Nat} (hj:met[p]?=some j):∀k,k<=(zw now j).t->rnO (1-h) W ((JC (1-h) W now met j:Nat):Int) ⟨qA h W now met p,ze (1-h) W now met met⟩ k=⟨(qA h W now met p).set p (qB h W now met (zw now j) k),ze (1-h) W now met met⟩:=by
 have hjm:=zqc hj;have hjl:=ok.lt j hjm;have ho:=jaS hjl;have htl:=zR (z.okn _ (zqc ho)).right;have hpm:=(zqb hj).1;have hA:((JC (1-h) W now met j:Nat):Int)=jx (1-h) W (je (zJ now met) p:Nat):=by rw[jfa ok.nd hj,jcq]
 have hidx:∀k,jl ((qA h W now met p).set p (qB h W now met (zw now j) k)) (1-h) W ((JC (1-h) W now met j:Nat):Int)=some p:=fun k=>by
  rw[QL (jlZ hj),hA];exact J4 (by rw[jbt];exact hpm)
 have hget:∀k,jy ((qA h W now met p).set p (qB h W now met (zw now j) k)) p=qB h W now met (zw now j) k:=fun k=>by
  refine ZT ?_;rw[List.getElem?_set_self (by simp[qA];exact hpm)]
 intro k;induction k with
 |zero=>
  intro _;rw[jog];have hs:(qA h W now met p).set p (zw now j)=qA h W now met p:=by
   have hg:=jd6 (h:=h) (W:=W) (os:=now) hj (zqg p);obtain⟨hl,e⟩:=zqb hg;rw[<-e];exact List.set_getElem_self hl
  rw[hs];rfl
 |succ k ih=>
  intro hk;have hkl:k<(zw now j).ws.length:=by omega
  rw[jiD,ih (by omega)];have hld:(qY (1-h) W ⟨(qA h W now met p).set p (qB h W now met (zw now j) k),ze (1-h) W now met met⟩ ((JC (1-h) W now met j:Nat):Int) k).1=(zw now j).ws.getD k 0:=by
   unfold qY;simp only[hidx,hget,jaU];rw[if_pos hkl];exact jiA hkl
  have hg:Good now h W met ((zw now j).ws.getD k 0):=by
   refine gd j hjm _ ?_;rw[jdq ho,zqi,zqh hkl];exact List.mem_take_iff_getElem.2 ⟨k,by omega,rfl⟩
  unfold rnF;rw[hld];obtain⟨hS,hV⟩:=jgu z ok (nw:=(qA h W now met p).set p (qB h W now met (zw now j) k)) hg;rw[hS,hV];rcases hg with a|⟨a,i,e,hi⟩
  ·rw[jhU (by omega)]
   simp only[Bool.false_eq_true,if_false];rw[jof hkl (jeb a)]
  ·rw[jk6 e]
   simp only[if_true];unfold jaW;simp only[hidx,hget,jaU];rw[if_pos hkl,jiB hkl,List.set_set]
theorem juA (gd:∀j∈met,∀n∈JW now j,Good now h W met n):∀p,p<=met.length->rnS (1-h) W (met.map fun j=>((JC (1-h) W now met j:Nat):Int)) ⟨zJ now met,ze (1-h) W now met met⟩ (List.range p)=⟨qA h W now met p,ze (1-h) W now met met⟩:=by
 intro p;induction p with
 |zero=>intro _;rw[jnO];rfl
 |succ p ih=>
  intro hp;obtain⟨j,hj⟩:∃j,met[p]?=some j:=⟨_,zqh (by omega)⟩;have hA:((JC (1-h) W now met j:Nat):Int)=jx (1-h) W (je (zJ now met) p:Nat):=by rw[jfa ok.nd hj,jcq]
  have hz:(met.map fun j=>((JC (1-h) W now met j:Nat):Int)).getD p 0=((JC (1-h) W now met j:Nat):Int):=by
   rw[zqi,List.getElem?_map,hj];rfl
  rw[List.range_succ,jiE,ih (by omega),hz];have hidx:jl (qA h W now met p) (1-h) W ((JC (1-h) W now met j:Nat):Int)=some p:=by
   rw[QL (jfF h W now met p),hA];exact J4 (by rw[jbt];omega)
  have hlk:(qk (1-h) W ⟨qA h W now met p,ze (1-h) W now met met⟩ ((JC (1-h) W now met j:Nat):Int)).2.2.1=(zw now j).t:=by
   unfold qk;simp only[hidx];rw[ZT (jd6 hj (zqg p))]
  rw[hlk,jsS z ok gd hj _ (zqg _),jqk hj]
theorem juB (nw:List Ob):∀(ns:List Nat),(∀n∈ns,Good now h W met n)->Qo (1-h) W ⟨nw,ze (1-h) W now met met⟩ ns=(⟨nw,ze (1-h) W now met met⟩,ns.map (zx h W now met)):=by
 have gen:∀(ns r:List Nat),(∀n∈ns,Good now h W met n)->ns.foldl (fun(p:St×List Nat) n=>(jbv (1-h) W p.1 n,p.2++[Qm (1-h) W p.1 n])) (⟨nw,ze (1-h) W now met met⟩,r)=(⟨nw,ze (1-h) W now met met⟩,r++ns.map (zx h W now met)):=by
  intro ns;induction ns with
  |nil=>intro r _;simp
  |cons n ns ih=>
   intro r hg;obtain⟨hS,hV⟩:=jgu z ok (nw:=nw) (hg n (by simp));rw[List.foldl_cons];simp only[hS,hV];rw[ih _ (fun x hx=>hg x (List.mem_cons_of_mem _ hx))];simp
 intro ns hg;have:=gen ns [] hg;simpa[Qo] using this
end
theorem jpf (z:WF W h now old) {ns:List Nat} (e:zg now h W ns=some met):jbZ h W now met ns=(⟨JG h W now met,ze (1-h) W now met met⟩,ns.map (zx h W now met)):=by
 have ok:=Jb e;obtain⟨g1,g2⟩:=ZI e;have p1:=juz z ok met.length (zqg _);rw[List.take_length] at p1;have p2:=juA z ok g2 met.length (zqg _);unfold jbZ jky jer;rw[p1,p2,jh9];exact juB z ok _ ns g1
end
def jmd (w:World) (b W h:Nat) (R:Nat->Value) (now:List Ob) (ns:List Nat) (e:Ending) (w':World):Prop:=
 (zg now h W ns=none/\e=.returned (.tuple #[.slice none 0 0,.int .i64 40])/\Below w.heap.size w w')∨
 (∃met v R',zg now h W ns=some met/\e=.returned (.tuple #[v,.int .i64 0])/\MX w (Own b R) b W (1-h) ⟨JG h W now met,ze (1-h) W now met met⟩ w' R'/\w'.ownsRow w.heap.size 65 1 v ns.length (u64s (ns.map (zx h W now met)))/\∀g,v.ownBlock=some g->¬Own b R' g)
theorem ji5 {w:World} {b W h:Nat} {R:Nat->Value} {now old:List Ob} (m:zi w b W h R now old) (z:WF W h now old) {a:Option Addr} {N c:Nat} {ns:List Nat} (hv:Jg w a N ns) (hN:∀(g off:Nat),a=some ⟨g,off,none⟩->¬Own b R g) (hN1:N<=60000):
  Calls prog 62 #[.pointer (some ⟨b,0,none⟩),.slice a N c] w (jmd w b W h R now ns):=by
 refine(jhE m z hv hN hN1).mono ?_;rintro e w' (q|⟨met,v,R',hr,he,x,ho,hg⟩)
 ·exact .inl q
 ·rw[jpf z hr] at x ho
  exact .inr ⟨met,v,R',hr,he,x,ho,hg⟩
