/- A part of the proof of MachineMoves. Conditions: those that each theorem names. -/
import Derived.Test.YtklcmdoadmcpfaaGreatDoorQ11
import Derived.Test.YtklcmdoadmcpfaaGreatDoorQ13
set_option maxRecDepth 100000
set_option maxHeartbeats 400000000
namespace Go.Proofs.YtklcmdoadmcpfaaGreatDoor
open Go Go.RowKit IsaL
def jw (A:Nat->Nat):RWd->Nat
 | .I n=>(jO n).toNat
 | .P k=>A k
theorem Zl (A:Nat->Nat) (n:Int):jw A (.I n)%2=1:=by
 show(jO n).toNat%2=1;unfold jO;omega
theorem jax (out:List Nat) (k:Nat):Jq out (.P k)=if k∈out then out else out++[k]:=rfl
structure Cor (os:List RObj) (now:List Ob) (h W:Nat) (D:Nat->Prop) (f A:Nat->Nat):Prop where
 lt:∀i,D i->i<os.length
 hit:∀i,D i->qF now h W (A i)=some (f i)
 ev:∀i,D i->A i%2≠1
 inj:∀i j,D i->D j->f i=f j->i=j
 fld:∀i,D i->JW now (f i)=(zK os i).map (jw A)
 cl:∀i,D i->∀k,RWd.P k∈zK os i->D k
section
variable {os:List RObj} {now:List Ob} {h W:Nat} {D:Nat->Prop} {f A:Nat->Nat}
section
variable (c:Cor os now h W D f A) {out:List Nat} (ho:∀i∈out,D i)
include c out ho
theorem Cor.mem {k:Nat} (hk:D k):f k∈out.map f↔k∈out:=by
 rw[List.mem_map];constructor
 ·rintro⟨i,hi,e⟩
  rw[c.inj k i hk (ho i hi) e.symm];exact hi
 ·exact fun q=>⟨k,q,rfl⟩
theorem Cor.one {v:RWd} (hv:∀k,v=.P k->D k):
  qE now h W (out.map f) (jw A v)=some ((Jq out v).map f)/\∀i∈Jq out v,D i:=by
 cases v with
 |I n=>exact⟨if_pos (Zl A n),ho⟩
 |P k=>
  have hk:=hv k rfl;rw[jax];by_cases q:k∈out
  ·rw[if_pos q]
   refine⟨?_,ho⟩;unfold qE;rw[if_neg (show¬jw A (.P k)%2=1 from c.ev k hk),show qF now h W (jw A (.P k))=some (f k) from c.hit k hk];simp only[Option.map_some,if_pos ((c.mem ho hk).2 q)]
  ·rw[if_neg q]
   refine⟨?_,fun i hi=>?_⟩
   ·unfold qE
    rw[if_neg (show¬jw A (.P k)%2=1 from c.ev k hk),show qF now h W (jw A (.P k))=some (f k) from c.hit k hk];simp only[Option.map_some,if_neg (fun z=>q ((c.mem ho hk).1 z)),List.map_append,List.map_cons,List.map_nil]
   ·rcases List.mem_append.1 hi with a|a
    ·exact ho i a
    ·rw[List.mem_singleton.1 a];exact hk
end
theorem Cor.row (c:Cor os now h W D f A):∀(ws:List RWd) {out:List Nat},(∀i∈out,D i)->(∀k,RWd.P k∈ws->D k)→
  z7 now h W (out.map f) (ws.map (jw A))=some ((jB out ws).map f)/\∀i∈jB out ws,D i
 |[],_,ho,_=>⟨rfl,ho⟩
 |v::ws,out,ho,hw=>by
  obtain⟨h1,h2⟩:=c.one ho (v:=v) (fun k e=>hw k (by simp[e]));have:=Cor.row c ws h2 (fun k hk=>hw k (List.mem_cons_of_mem _ hk));refine⟨?_,this.2⟩;show(qE _ _ _ _ _).bind _=_;rw[h1];exact this.1
theorem Cor.all (c:Cor os now h W D f A):∀(n i:Nat) {out:List Nat},(∀i∈out,D i)→
  ZO now h W n i (out.map f)=some ((qU os n i out).map f)/\∀j∈qU os n i out,D j
 |0,_,_,ho=>⟨rfl,ho⟩
 |n+1,i,out,ho=>by
  show(match(out.map f)[i]? with|none=>some (out.map f)|some j=>(z7 now h W (out.map f) (JW now j)).bind fun m=>ZO now h W n (i+1) m)=some (List.map f (match out[i]? with|none=>out|some k=>qU os n (i+1) (jB out (zK os k))))/\∀j∈(match out[i]? with|none=>out|some k=>qU os n (i+1) (jB out (zK os k))),D j;rw[List.getElem?_map];cases e:out[i]? with
  |none=>exact⟨rfl,ho⟩
  |some k=>
   have hk:=ho k (zqc e);simp only[Option.map_some];obtain⟨h1,h2⟩:=c.row (zK os k) ho (c.cl k hk);rw[c.fld k hk,h1];exact Cor.all c n (i+1) h2
theorem jcG (os:List RObj):∀(n i m:Nat) (out:List Nat),(qU os n i out).length<=i+n->n<=m->qU os m i out=qU os n i out
 |0,i,m,out,hl,_=>by
  have e:out[i]?=none:=List.getElem?_eq_none (by simpa[qU] using hl);cases m with
  |zero=>rfl
  |succ m=>show(match out[i]? with|none=>out|some k=>_)=out;rw[e]
 |n+1,i,0,out,_,hm=>absurd hm (by omega)
 |n+1,i,m+1,out,hl,hm=>by
  unfold qU at hl ⊢;cases e:out[i]? with
  |none=>rfl
  |some k=>
   rw[e] at hl;exact jcG os n (i+1) m _ (by simp only[] at hl;omega) (by omega)
theorem jbb {os:List RObj}:∀(ws:List RWd) {out:List Nat},out.Nodup->(jB out ws).Nodup
 |[],_,h=>h
 |v::ws,out,h=>by
  refine jbb (os:=os) ws (out:=Jq out v) ?_;cases v with
  |I n=>exact h
  |P k=>
   rw[jax];split
   ·exact h
   ·rename_i q
    rw[List.nodup_append];exact⟨h,by simp,fun a ha b hb=>by
     obtain rfl:=List.mem_singleton.1 hb;intro e;exact q (e▸ha)⟩
theorem jdd (os:List RObj):∀(n i:Nat) {out:List Nat},out.Nodup->(qU os n i out).Nodup
 |0,_,_,h=>h
 |n+1,i,out,h=>by
  unfold qU;cases e:out[i]? with
  |none=>exact h
  |some k=>exact jdd os n (i+1) (jbb (os:=os) _ h)
theorem Cor.order (c:Cor os now h W D f A) (rs:List RWd) (hr:∀k,RWd.P k∈rs->D k):
  zg now h W (rs.map (jw A))=some ((Jk os rs).map f)/\(∀i∈Jk os rs,D i)/\(Jk os rs).Nodup:=by
 obtain⟨h1,h2⟩:=c.row rs (out:=[]) (fun i hi=>by cases hi) hr;have nd1:(jB [] rs).Nodup:=jbb (os:=os) rs List.nodup_nil;have b1:=c.all (os.length+1) 0 h2;have b2:=c.all (now.length+1) 0 h2;have hl1:(qU os (os.length+1) 0 (jB [] rs)).length<=os.length:=Q5 (jdd os _ _ nd1) (fun j hj=>c.lt j (b1.2 j hj));have hl2:(qU os (now.length+1) 0 (jB [] rs)).length<=now.length:=by
  have:=jjx (QX jbL h1) b2.1;have:=Q5 this.nd this.lt
  rwa [List.length_map] at this
 have e:qU os (now.length+1) 0 (jB [] rs)=qU os (os.length+1) 0 (jB [] rs):=by
  have e1:=jcG os (os.length+1) 0 (os.length+now.length+2) (jB [] rs) (by omega) (by omega);have e2:=jcG os (now.length+1) 0 (os.length+now.length+2) (jB [] rs) (by omega) (by omega);rw[<-e1,<-e2]
 refine⟨?_,b1.2,jdd os _ _ nd1⟩;unfold zg;rw[show z7 now h W [] (rs.map (jw A))=_ from h1];show ZO _ _ _ _ _ _=_;rw[b2.1,e];rfl
end
namespace McG
open Go Go.RowKit Go.Proofs.YtklcmdoadmcpfaaGreatDoor IsaL
section
variable {os:List Ob} {h W:Nat} {S:List Nat}
theorem jp8 {met:List Nat} {n:Nat} (g:Good os h W S n) (hm:∀j∈met,j∈S):∃m,qE os h W met n=some m/\∀j∈m,j∈S:=by
 rcases g with a|⟨a,j,b,c⟩
 ·exact⟨met,QY a,hm⟩
 ·by_cases hj:j∈met
  ·exact⟨met,Q0 a b hj,hm⟩
  ·refine⟨met++[j],QZ a b hj,fun i hi=>?_⟩
   rcases List.mem_append.1 hi with q|q
   ·exact hm i q
   ·obtain rfl:=List.mem_singleton.1 q
    exact c
theorem jd2:∀(ns:List Nat) {met:List Nat},(∀n∈ns,Good os h W S n)->(∀j∈met,j∈S)->∃m,z7 os h W met ns=some m/\∀j∈m,j∈S
 |[],met,_,hm=>⟨met,rfl,hm⟩
 |n::ns,met,g,hm=>by
  obtain⟨m1,e1,h1⟩:=jp8 (g n (by simp)) hm;obtain⟨m2,e2,h2⟩:=jd2 ns (fun x hx=>g x (by simp[hx])) h1;exact⟨m2,by unfold z7;rw[e1];exact e2,h2⟩
theorem jmp (gd:∀j∈S,∀n∈JW os j,Good os h W S n):∀(f i:Nat) {met:List Nat},(∀j∈met,j∈S)->∃m,ZO os h W f i met=some m/\∀j∈m,j∈S
 |0,_,met,hm=>⟨met,rfl,hm⟩
 |f+1,i,met,hm=>by
  cases e1:met[i]? with
  |none=>exact⟨met,by unfold ZO;rw[e1],hm⟩
  |some j=>
   obtain⟨m1,e2,h1⟩:=jd2 (JW os j) (fun n hn=>gd j (hm j (zqc e1)) n hn) hm;obtain⟨m2,e3,h2⟩:=jmp gd f (i+1) h1;exact⟨m2,by rw[jht e1,e2];exact e3,h2⟩
theorem jis {ns:List Nat} (g:∀n∈ns,Good os h W S n) (gd:∀j∈S,∀n∈JW os j,Good os h W S n):∃m,zg os h W ns=some m/\∀j∈m,j∈S:=by
 obtain⟨m1,e1,h1⟩:=jd2 ns (met:=[]) g (fun _ q=>by cases q);obtain⟨m2,e2,h2⟩:=jmp gd (os.length+1) 0 h1;exact⟨m2,by unfold zg;rw[e1];exact e2,h2⟩
end
theorem jgI {f:Nat->Nat} {x:Nat}:∀{l:List Nat},x∈l->(l.map f).sum=f x+((l.erase x).map f).sum
 |y::l,hx=>by
  by_cases e:y=x
  ·subst e;simp
  ·have hx':x∈l:=by
    rcases List.mem_cons.1 hx with q|q
    ·exact absurd q.symm e
    ·exact q
   rw[List.erase_cons_tail (by simpa using e),List.map_cons,List.map_cons,List.sum_cons,List.sum_cons,jgI hx'];omega
theorem jaX {f:Nat->Nat}:∀{a b:List Nat},a.Nodup->(∀x∈a,x∈b)->(a.map f).sum<=(b.map f).sum
 |[],_,_,_=>by simp
 |x::a,b,hn,hs=>by
  rw[jgI (hs x (by simp)),List.map_cons,List.sum_cons];have hn':=List.nodup_cons.1 hn;have:=jaX (f:=f) (a:=a) (b:=b.erase x) hn'.2 (fun y hy=>(List.mem_erase_of_ne (fun(e:y=x)=>hn'.1 (by rw[<-e];exact hy))).2 (hs y (by simp[hy])));omega
section
variable {os old ex:List Ob} {h W:Nat} {met:List Nat}
theorem jqj {p j:Nat} (hj:met[p]?=some j):(JG h W os met)[p]?=some (qB h W os met (zw os j) (zw os j).t):=by simp[JG,hj]
end
end McG
namespace NumL
open Go Go.RowKit
def JK:List UInt8->Nat
 |[]=>0
 |c::r=>c.toNat+256*JK r
theorem jla (a b:List UInt8):JK (a++b)=JK a+256^a.length*JK b:=by
 induction a with
 |nil=>simp[JK]
 |cons c r ih=>simp only[List.cons_append,JK,ih,List.length_cons,Nat.pow_succ,Nat.mul_add];rw[Nat.mul_comm (256^r.length) 256,Nat.mul_assoc];omega
theorem jhW (a:List UInt8):JK a<256^a.length:=by
 induction a with
 |nil=>simp[JK]
 |cons c r ih=>
  have hc:c.toNat<256:=c.toNat_lt;simp only[JK,List.length_cons,Nat.pow_succ];omega
theorem jim (k:Nat):(256:Nat)^k=2^(8*k):=by rw[Nat.pow_mul]
theorem jl1 (l:List UInt8) (k:Nat) (h:k<l.length):l.take (k+1)=l.take k++[l[k]]:=by
 rw[List.take_succ_eq_append_getElem h]
theorem jpQ (l:List UInt8) (k:Nat) (h:k<l.length):JK (l.take (k+1))=JK (l.take k)+2^(8*k)*(l[k]).toNat:=by
 rw[jl1 l k h,jla,<-jim];simp[JK,Nat.min_eq_left (Nat.le_of_lt h)]
theorem juG (c:Nat) (k:Nat) (hc:c<256) (hk:k<8):IntKind.u64.wrap (IntKind.u64.wrap (c:Int)*2^(8*k))=((2^(8*k)*c:Nat):Int):=by
 have h1:IntKind.u64.wrap (c:Int)=(c:Int):=by rw[IntKind.wrap_u64];omega
 have h2:(2:Nat)^(8*k)*c<18446744073709551616:=by
  have h3:(2:Nat)^(8*k)<=2^56:=Nat.pow_le_pow_right (by decide) (by omega);have h4:(2:Nat)^(8*k)*c<=2^56*255:=Nat.mul_le_mul h3 (by omega);have h5:(2:Nat)^56*255<18446744073709551616:=by decide
  omega
 rw[h1,IntKind.wrap_u64];have e:(c:Int)*2^(8*k)=((2^(8*k)*c:Nat):Int):=by
  rw[Int.natCast_mul,Int.natCast_pow,Int.mul_comm];rfl
 rw[e];omega
theorem jsM (y c k:Nat) (hc:c<256) (hk:k<8) (hy:y<2^(8*k)):bits BinOp.or IntKind.u64 (y:Int) (IntKind.u64.wrap (IntKind.u64.wrap (c:Int)*2^(8*k)))=((y+2^(8*k)*c:Nat):Int):=by
 rw[juG c k hc hk];have h2:(2:Nat)^(8*k)*c<18446744073709551616:=by
  have h3:(2:Nat)^(8*k)<=2^56:=Nat.pow_le_pow_right (by decide) (by omega);have h4:(2:Nat)^(8*k)*c<=2^56*255:=Nat.mul_le_mul h3 (by omega);have h5:(2:Nat)^56*255<18446744073709551616:=by decide
  omega
 have h6:y<18446744073709551616:=by
  have h3:(2:Nat)^(8*k)<=2^56:=Nat.pow_le_pow_right (by decide) (by omega);have h5:(2:Nat)^56<18446744073709551616:=by decide
  omega
 rw[u64_or_nat y _ h6 h2,Nat.or_comm,nat_join (8*k) _ y (by simp) hy,Nat.add_comm]
theorem jsN (l:List UInt8) (k:Nat) (h:k<l.length) (hk:k<8):bits BinOp.or IntKind.u64 ((JK (l.take k):Nat):Int) (IntKind.u64.wrap (IntKind.u64.wrap ((l[k]).toNat:Int)*2^(8*k)))=((JK (l.take (k+1)):Nat):Int):=by
 have hy:=jhW (l.take k);rw[List.length_take,Nat.min_eq_left (Nat.le_of_lt h),jim] at hy;rw[jsM _ _ k (l[k]).toNat_lt hk hy,jpQ l k h]
def jt (n:Nat):Nat:=(n+7)/8
def wordN (l:List UInt8) (k:Nat):Nat:=JK ((l.drop (8*k)).take 8)
theorem jri (l:List UInt8) (k:Nat):wordN l k<18446744073709551616:=by
 have h:=jhW ((l.drop (8*k)).take 8);have h1:((l.drop (8*k)).take 8).length<=8:=List.length_take_le _ _;have h2:256^((l.drop (8*k)).take 8).length<=256^8:=Nat.pow_le_pow_right (by decide) h1;have h3:(256:Nat)^8=18446744073709551616:=by decide
 unfold wordN;omega
def zD (l:List UInt8):List Nat:=(List.range (jt l.length)).map (wordN l)
theorem qH (l:List UInt8):(zD l).length=jt l.length:=by simp[zD]
end NumL
namespace NumL
open Go Go.RowKit
def Zc (zs:List Nat) (i:Nat):Nat:=(zs.getD (i/8) 0)/2^(8*(i%8))%256
def zY (zs:List Nat) (n:Nat):List UInt8:=(List.range n).map fun i=>UInt8.ofNat (Zc zs i)
theorem jbA (zs:List Nat) (n:Nat):(zY zs n).length=n:=by simp[zY]
theorem jmt (zs:List Nat) (i:Nat):Zc zs i<256:=Nat.mod_lt _ (by decide)
def UOk (zs:List Nat) (n:Nat):Prop:=zs.length=jt n/\(n%8≠0->zs.getD (zs.length-1) 0/2^(8*(n%8))=0)
theorem jgc:∀(l:List UInt8) (i:Nat),(h:i<l.length)->JK l/2^(8*i)%256=(l[i]).toNat
 |[],i,h=>by simp at h
 |c::r,0,_=>by
  have hc:c.toNat<256:=c.toNat_lt;simp only[JK,Nat.mul_zero,Nat.pow_zero,Nat.div_one,List.getElem_cons_zero];omega
 |c::r,i+1,h=>by
  have hc:c.toNat<256:=c.toNat_lt;have ih:=jgc r i (by simpa using h);have e:2^(8*(i+1))=256*2^(8*i):=by rw[show 8*(i+1)=8+8*i from by omega,Nat.pow_add]
  simp only[JK,List.getElem_cons_succ];rw[e,<-Nat.div_div_eq_div_mul,show(c.toNat+256*JK r)/256=JK r from by omega,ih]
theorem je2 (l:List UInt8) (k:Nat) (h:k<jt l.length):(zD l).getD k 0=wordN l k:=by
 simp[zD,List.getD,h]
theorem jdv (l:List UInt8) (i:Nat) (h:i<l.length):Zc (zD l) i=(l[i]).toNat:=by
 unfold Zc;rw[je2 l (i/8) (by unfold jt;omega)];unfold wordN;have hl:i%8<((l.drop (8*(i/8))).take 8).length:=by simp;omega
 rw[jgc _ _ hl];congr 1;simp only[List.getElem_take,List.getElem_drop];congr 1;omega
theorem jaE (l:List UInt8):zY (zD l) l.length=l:=by
 apply List.ext_getElem
 ·simp[zY]
 ·intro i h1 h2
  simp only[zY,List.getElem_map,List.getElem_range];rw[jdv l i h2];simp
theorem jrc (l:List UInt8):UOk (zD l) l.length:=by
 refine⟨qH l,fun h=>?_⟩;rw[qH,je2 l _ (by unfold jt;omega)];unfold wordN;have hl:=jhW ((l.drop (8*(jt l.length-1))).take 8);have e:((l.drop (8*(jt l.length-1))).take 8).length=l.length%8:=by simp[jt];omega
 rw[e,jim] at hl;exact Nat.div_eq_of_lt hl
theorem jnZ {a b:List UInt8} (hl:a.length=b.length) (h:zD a=zD b):a=b:=by
 rw[<-jaE a,<-jaE b,h,hl]
end NumL
