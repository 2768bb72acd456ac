/- A part of the proof of MachineStops: pruned, joined and printed small by a script. Conditions: those that each theorem names. -/
import Derived.Test.YtklcmdoadmcpfaaGreatDoorP00
import Derived.Test.YtklcmdoadmcpfaaGreatDoorP11
import Derived.Test.YtklcmdoadmcpfaaGreatDoorP13
import Derived.RowKit
import Derived.Laws.BitsLemmas
import Derived.Laws.BitsAllLaws
import Derived.RangeFuncBox
import Derived.RangeFuncLeaves
import Derived.Shelf.Abstract
import Derived.WalkKit
import Derived.OwnWalkIn
import Derived.TacticsInMore
import Derived.LoopNIn
import Derived.LoopIn
import Derived.Maps.AppendAt
import Derived.Test.YtklcmdoadmcpfaaGreatDoorP03
import Derived.Laws.MakeOwn
import Derived.RangeFuncNested
import Derived.BigQuiet
import Derived.Deep.QuietTactic
import Derived.Laws.OwnMore
import Derived.Laws.IdiomStrings
set_option maxRecDepth 100000
set_option maxHeartbeats 400000000
namespace Go.Proofs.YtklcmdoadmcpfaaGreatDoor
open Go Go.RowKit IsaL
open Go.Lib(hid)
open Go.Proofs.Tryz(prog)
def jz (A:Nat->Nat):RWd->Nat
 | .I n=>(jP n).toNat
 | .P k=>A k
theorem ZB (A:Nat->Nat) (n:Int):jz A (.I n)%2=1:=by
 show(jP n).toNat%2=1;unfold jP;omega
theorem meetR_P (out:List Nat) (k:Nat):meetR out (.P k)=if k∈out then out else out++[k]:=rfl
structure Cor (os:List RObj) (now:List Ob) (h W:Nat) (D:Nat->Prop) (f A:Nat->Nat):Prop where
 lt:∀i,D i->i<os.length
 hit:∀i,D i->qA now h W (A i)=some (f i)
 ev:∀i,D i->A i%2≠1
 inj:∀i j,D i->D j->f i=f j->i=j
 fld:∀i,D i->JP now (f i)=(z7 os i).map (jz A)
 cl:∀i,D i->∀k,RWd.P k∈z7 os i->D k
section
variable {os:List RObj} {now:List Ob} {h W:Nat} {D:Nat->Prop} {f A:Nat->Nat}
section
variable (c:Cor os now h W D f A) {out:List Nat} (ho:∀i∈out,D i)
include c out ho
theorem Cor.mem {k:Nat} (hk:D k):f k∈out.map f↔k∈out:=by
 rw[List.mem_map];constructor
 ·rintro⟨i,hi,e⟩
  rw[c.inj k i hk (ho i hi) e.symm];exact hi
 ·exact fun q=>⟨k,q,rfl⟩
theorem Cor.one {v:RWd} (hv:∀k,v=.P k->D k):
  qC now h W (out.map f) (jz A v)=some ((meetR out v).map f)/\∀i∈meetR out v,D i:=by
 cases v with
 |I n=>exact⟨if_pos (ZB A n),ho⟩
 |P k=>
  have hk:=hv k rfl;rw[meetR_P];by_cases q:k∈out
  ·rw[if_pos q]
   refine⟨?_,ho⟩;unfold qC;rw[if_neg (show¬jz A (.P k)%2=1 from c.ev k hk),show qA now h W (jz A (.P k))=some (f k) from c.hit k hk];simp only[Option.map_some,if_pos ((c.mem ho hk).2 q)]
  ·rw[if_neg q]
   refine⟨?_,fun i hi=>?_⟩
   ·unfold qC
    rw[if_neg (show¬jz A (.P k)%2=1 from c.ev k hk),show qA now h W (jz A (.P k))=some (f k) from c.hit k hk];simp only[Option.map_some,if_neg (fun z=>q ((c.mem ho hk).1 z)),List.map_append,List.map_cons,List.map_nil]
   ·rcases List.mem_append.1 hi with a|a
    ·exact ho i a
    ·rw[List.mem_singleton.1 a];exact hk
end
theorem Cor.row (c:Cor os now h W D f A):∀(ws:List RWd) {out:List Nat},(∀i∈out,D i)->(∀k,RWd.P k∈ws->D k)→
  z8 now h W (out.map f) (ws.map (jz A))=some ((Ja out ws).map f)/\∀i∈Ja out ws,D i
 |[],_,ho,_=>⟨rfl,ho⟩
 |v::ws,out,ho,hw=>by
  obtain⟨h1,h2⟩:=c.one ho (v:=v) (fun k e=>hw k (by simp[e]));have:=Cor.row c ws h2 (fun k hk=>hw k (List.mem_cons_of_mem _ hk));refine⟨?_,this.2⟩;show(qC _ _ _ _ _).bind _=_;rw[h1];exact this.1
theorem Cor.all (c:Cor os now h W D f A):∀(n i:Nat) {out:List Nat},(∀i∈out,D i)→
  ZQ now h W n i (out.map f)=some ((J0 os n i out).map f)/\∀j∈J0 os n i out,D j
 |0,_,_,ho=>⟨rfl,ho⟩
 |n+1,i,out,ho=>by
  show(match(out.map f)[i]? with|none=>some (out.map f)|some j=>(z8 now h W (out.map f) (JP now j)).bind fun m=>ZQ now h W n (i+1) m)=some (List.map f (match out[i]? with|none=>out|some k=>J0 os n (i+1) (Ja out (z7 os k))))/\∀j∈(match out[i]? with|none=>out|some k=>J0 os n (i+1) (Ja out (z7 os k))),D j;rw[List.getElem?_map];cases e:out[i]? with
  |none=>exact⟨rfl,ho⟩
  |some k=>
   have hk:=ho k (zqc e);simp only[Option.map_some];obtain⟨h1,h2⟩:=c.row (z7 os k) ho (c.cl k hk);rw[c.fld k hk,h1];exact Cor.all c n (i+1) h2
theorem bfsR_fuel (os:List RObj):∀(n i m:Nat) (out:List Nat),(J0 os n i out).length<=i+n->n<=m->J0 os m i out=J0 os n i out
 |0,i,m,out,hl,_=>by
  have e:out[i]?=none:=List.getElem?_eq_none (by simpa[J0] using hl);cases m with
  |zero=>rfl
  |succ m=>show(match out[i]? with|none=>out|some k=>_)=out;rw[e]
 |n+1,i,0,out,_,hm=>absurd hm (by omega)
 |n+1,i,m+1,out,hl,hm=>by
  unfold J0 at hl ⊢;cases e:out[i]? with
  |none=>rfl
  |some k=>
   rw[e] at hl;exact bfsR_fuel os n (i+1) m _ (by simp only[] at hl;omega) (by omega)
theorem meetRL_nd {os:List RObj}:∀(ws:List RWd) {out:List Nat},out.Nodup->(Ja out ws).Nodup
 |[],_,h=>h
 |v::ws,out,h=>by
  refine meetRL_nd (os:=os) ws (out:=meetR out v) ?_;cases v with
  |I n=>exact h
  |P k=>
   rw[meetR_P];split
   ·exact h
   ·rename_i q
    rw[List.nodup_append];exact⟨h,by simp,fun a ha b hb=>by
     obtain rfl:=List.mem_singleton.1 hb;intro e;exact q (e▸ha)⟩
theorem bfsR_nd (os:List RObj):∀(n i:Nat) {out:List Nat},out.Nodup->(J0 os n i out).Nodup
 |0,_,_,h=>h
 |n+1,i,out,h=>by
  unfold J0;cases e:out[i]? with
  |none=>exact h
  |some k=>exact bfsR_nd os n (i+1) (meetRL_nd (os:=os) _ h)
theorem Cor.order (c:Cor os now h W D f A) (rs:List RWd) (hr:∀k,RWd.P k∈rs->D k):
  zO now h W (rs.map (jz A))=some ((Jw os rs).map f)/\(∀i∈Jw os rs,D i)/\(Jw os rs).Nodup:=by
 obtain⟨h1,h2⟩:=c.row rs (out:=[]) (fun i hi=>by cases hi) hr;have nd1:(Ja [] rs).Nodup:=meetRL_nd (os:=os) rs List.nodup_nil;have b1:=c.all (os.length+1) 0 h2;have b2:=c.all (now.length+1) 0 h2;have hl1:(J0 os (os.length+1) 0 (Ja [] rs)).length<=os.length:=nodup_len (bfsR_nd os _ _ nd1) (fun j hj=>c.lt j (b1.2 j hj));have hl2:(J0 os (now.length+1) 0 (Ja [] rs)).length<=now.length:=by
  have:=bfs_okm (QU okm_nil h1) b2.1;have:=nodup_len this.nd this.lt
  rwa [List.length_map] at this
 have e:J0 os (now.length+1) 0 (Ja [] rs)=J0 os (os.length+1) 0 (Ja [] rs):=by
  have e1:=bfsR_fuel os (os.length+1) 0 (os.length+now.length+2) (Ja [] rs) (by omega) (by omega);have e2:=bfsR_fuel os (now.length+1) 0 (os.length+now.length+2) (Ja [] rs) (by omega) (by omega);rw[<-e1,<-e2]
 refine⟨?_,b1.2,bfsR_nd os _ _ nd1⟩;unfold zO;rw[show z8 now h W [] (rs.map (jz A))=_ from h1];show ZQ _ _ _ _ _ _=_;rw[b2.1,e];rfl
end
namespace McG
open Go Go.RowKit Go.Proofs.YtklcmdoadmcpfaaGreatDoor IsaL
section
variable {os:List Ob} {h W:Nat} {S:List Nat}
theorem meetS_in {met:List Nat} {n:Nat} (g:Good os h W S n) (hm:∀j∈met,j∈S):∃m,qC os h W met n=some m/\∀j∈m,j∈S:=by
 rcases g with a|⟨a,j,b,c⟩
 ·exact⟨met,QN a,hm⟩
 ·by_cases hj:j∈met
  ·exact⟨met,QX a b hj,hm⟩
  ·refine⟨met++[j],Q4 a b hj,fun i hi=>?_⟩
   rcases List.mem_append.1 hi with q|q
   ·exact hm i q
   ·obtain rfl:=List.mem_singleton.1 q
    exact c
theorem meetL_in:∀(ns:List Nat) {met:List Nat},(∀n∈ns,Good os h W S n)->(∀j∈met,j∈S)->∃m,z8 os h W met ns=some m/\∀j∈m,j∈S
 |[],met,_,hm=>⟨met,rfl,hm⟩
 |n::ns,met,g,hm=>by
  obtain⟨m1,e1,h1⟩:=meetS_in (g n (by simp)) hm;obtain⟨m2,e2,h2⟩:=meetL_in ns (fun x hx=>g x (by simp[hx])) h1;exact⟨m2,by unfold z8;rw[e1];exact e2,h2⟩
theorem bfs_in (gd:∀j∈S,∀n∈JP os j,Good os h W S n):∀(f i:Nat) {met:List Nat},(∀j∈met,j∈S)->∃m,ZQ os h W f i met=some m/\∀j∈m,j∈S
 |0,_,met,hm=>⟨met,rfl,hm⟩
 |f+1,i,met,hm=>by
  cases e1:met[i]? with
  |none=>exact⟨met,by unfold ZQ;rw[e1],hm⟩
  |some j=>
   obtain⟨m1,e2,h1⟩:=meetL_in (JP os j) (fun n hn=>gd j (hm j (zqc e1)) n hn) hm;obtain⟨m2,e3,h2⟩:=bfs_in gd f (i+1) h1;exact⟨m2,by rw[bfs_step e1,e2];exact e3,h2⟩
theorem reach_in {ns:List Nat} (g:∀n∈ns,Good os h W S n) (gd:∀j∈S,∀n∈JP os j,Good os h W S n):∃m,zO os h W ns=some m/\∀j∈m,j∈S:=by
 obtain⟨m1,e1,h1⟩:=meetL_in ns (met:=[]) g (fun _ q=>by cases q);obtain⟨m2,e2,h2⟩:=bfs_in gd (os.length+1) 0 h1;exact⟨m2,by unfold zO;rw[e1];exact e2,h2⟩
end
theorem sum_erase {f:Nat->Nat} {x:Nat}:∀{l:List Nat},x∈l->(l.map f).sum=f x+((l.erase x).map f).sum
 |y::l,hx=>by
  by_cases e:y=x
  ·subst e;simp
  ·have hx':x∈l:=by
    rcases List.mem_cons.1 hx with q|q
    ·exact absurd q.symm e
    ·exact q
   rw[List.erase_cons_tail (by simpa using e),List.map_cons,List.map_cons,List.sum_cons,List.sum_cons,sum_erase hx'];omega
theorem sum_less {f:Nat->Nat}:∀{a b:List Nat},a.Nodup->(∀x∈a,x∈b)->(a.map f).sum<=(b.map f).sum
 |[],_,_,_=>by simp
 |x::a,b,hn,hs=>by
  rw[sum_erase (hs x (by simp)),List.map_cons,List.sum_cons];have hn':=List.nodup_cons.1 hn;have:=sum_less (f:=f) (a:=a) (b:=b.erase x) hn'.2 (fun y hy=>(List.mem_erase_of_ne (fun(e:y=x)=>hn'.1 (by rw[<-e];exact hy))).2 (hs y (by simp[hy])));omega
section
variable {os old ex:List Ob} {h W:Nat} {met:List Nat}
theorem newF_get {p j:Nat} (hj:met[p]?=some j):(JD h W os met)[p]?=some (qy h W os met (zr os j) (zr os j).t):=by simp[JD,hj]
end
end McG
namespace NumL
open Go Go.RowKit
def JE:List UInt8->Nat
 |[]=>0
 |c::r=>c.toNat+256*JE r
theorem leN_append (a b:List UInt8):JE (a++b)=JE a+256^a.length*JE b:=by
 induction a with
 |nil=>simp[JE]
 |cons c r ih=>simp only[List.cons_append,JE,ih,List.length_cons,Nat.pow_succ,Nat.mul_add];rw[Nat.mul_comm (256^r.length) 256,Nat.mul_assoc];omega
theorem leN_lt (a:List UInt8):JE a<256^a.length:=by
 induction a with
 |nil=>simp[JE]
 |cons c r ih=>
  have hc:c.toNat<256:=c.toNat_lt;simp only[JE,List.length_cons,Nat.pow_succ];omega
theorem pow256 (k:Nat):(256:Nat)^k=2^(8*k):=by rw[Nat.pow_mul]
theorem take_snoc' (l:List UInt8) (k:Nat) (h:k<l.length):l.take (k+1)=l.take k++[l[k]]:=by
 rw[List.take_succ_eq_append_getElem h]
theorem leN_step (l:List UInt8) (k:Nat) (h:k<l.length):JE (l.take (k+1))=JE (l.take k)+2^(8*k)*(l[k]).toNat:=by
 rw[take_snoc' l k h,leN_append,<-pow256];simp[JE,Nat.min_eq_left (Nat.le_of_lt h)]
theorem shl_eq (c:Nat) (k:Nat) (hc:c<256) (hk:k<8):IntKind.u64.wrap (IntKind.u64.wrap (c:Int)*2^(8*k))=((2^(8*k)*c:Nat):Int):=by
 have h1:IntKind.u64.wrap (c:Int)=(c:Int):=by rw[IntKind.wrap_u64];omega
 have h2:(2:Nat)^(8*k)*c<18446744073709551616:=by
  have h3:(2:Nat)^(8*k)<=2^56:=Nat.pow_le_pow_right (by decide) (by omega);have h4:(2:Nat)^(8*k)*c<=2^56*255:=Nat.mul_le_mul h3 (by omega);have h5:(2:Nat)^56*255<18446744073709551616:=by decide
  omega
 rw[h1,IntKind.wrap_u64];have e:(c:Int)*2^(8*k)=((2^(8*k)*c:Nat):Int):=by
  rw[Int.natCast_mul,Int.natCast_pow,Int.mul_comm];rfl
 rw[e];omega
theorem or_step (y c k:Nat) (hc:c<256) (hk:k<8) (hy:y<2^(8*k)):bits BinOp.or IntKind.u64 (y:Int) (IntKind.u64.wrap (IntKind.u64.wrap (c:Int)*2^(8*k)))=((y+2^(8*k)*c:Nat):Int):=by
 rw[shl_eq c k hc hk];have h2:(2:Nat)^(8*k)*c<18446744073709551616:=by
  have h3:(2:Nat)^(8*k)<=2^56:=Nat.pow_le_pow_right (by decide) (by omega);have h4:(2:Nat)^(8*k)*c<=2^56*255:=Nat.mul_le_mul h3 (by omega);have h5:(2:Nat)^56*255<18446744073709551616:=by decide
  omega
 have h6:y<18446744073709551616:=by
  have h3:(2:Nat)^(8*k)<=2^56:=Nat.pow_le_pow_right (by decide) (by omega);have h5:(2:Nat)^56<18446744073709551616:=by decide
  omega
 rw[u64_or_nat y _ h6 h2,Nat.or_comm,nat_join (8*k) _ y (by simp) hy,Nat.add_comm]
theorem or_take (l:List UInt8) (k:Nat) (h:k<l.length) (hk:k<8):bits BinOp.or IntKind.u64 ((JE (l.take k):Nat):Int) (IntKind.u64.wrap (IntKind.u64.wrap ((l[k]).toNat:Int)*2^(8*k)))=((JE (l.take (k+1)):Nat):Int):=by
 have hy:=leN_lt (l.take k);rw[List.length_take,Nat.min_eq_left (Nat.le_of_lt h),pow256] at hy;rw[or_step _ _ k (l[k]).toNat_lt hk hy,leN_step l k h]
def jt (n:Nat):Nat:=(n+7)/8
def QJ (l:List UInt8) (k:Nat):Nat:=JE ((l.drop (8*k)).take 8)
theorem wordN_lt (l:List UInt8) (k:Nat):QJ l k<18446744073709551616:=by
 have h:=leN_lt ((l.drop (8*k)).take 8);have h1:((l.drop (8*k)).take 8).length<=8:=List.length_take_le _ _;have h2:256^((l.drop (8*k)).take 8).length<=256^8:=Nat.pow_le_pow_right (by decide) h1;have h3:(256:Nat)^8=18446744073709551616:=by decide
 unfold QJ;omega
def zy (l:List UInt8):List Nat:=(List.range (jt l.length)).map (QJ l)
theorem qG (l:List UInt8):(zy l).length=jt l.length:=by simp[zy]
end NumL
namespace NumL
open Go Go.RowKit
def J7 (zs:List Nat) (i:Nat):Nat:=(zs.getD (i/8) 0)/2^(8*(i%8))%256
def z5 (zs:List Nat) (n:Nat):List UInt8:=(List.range n).map fun i=>UInt8.ofNat (J7 zs i)
theorem bytesOf_length (zs:List Nat) (n:Nat):(z5 zs n).length=n:=by simp[z5]
theorem byteAt_lt (zs:List Nat) (i:Nat):J7 zs i<256:=Nat.mod_lt _ (by decide)
def UOk (zs:List Nat) (n:Nat):Prop:=zs.length=jt n/\(n%8≠0->zs.getD (zs.length-1) 0/2^(8*(n%8))=0)
theorem leN_digit:∀(l:List UInt8) (i:Nat),(h:i<l.length)->JE l/2^(8*i)%256=(l[i]).toNat
 |[],i,h=>by simp at h
 |c::r,0,_=>by
  have hc:c.toNat<256:=c.toNat_lt;simp only[JE,Nat.mul_zero,Nat.pow_zero,Nat.div_one,List.getElem_cons_zero];omega
 |c::r,i+1,h=>by
  have hc:c.toNat<256:=c.toNat_lt;have ih:=leN_digit r i (by simpa using h);have e:2^(8*(i+1))=256*2^(8*i):=by rw[show 8*(i+1)=8+8*i from by omega,Nat.pow_add]
  simp only[JE,List.getElem_cons_succ];rw[e,<-Nat.div_div_eq_div_mul,show(c.toNat+256*JE r)/256=JE r from by omega,ih]
theorem packL_getD (l:List UInt8) (k:Nat) (h:k<jt l.length):(zy l).getD k 0=QJ l k:=by
 simp[zy,List.getD,h]
theorem byteAt_pack (l:List UInt8) (i:Nat) (h:i<l.length):J7 (zy l) i=(l[i]).toNat:=by
 unfold J7;rw[packL_getD l (i/8) (by unfold jt;omega)];unfold QJ;have hl:i%8<((l.drop (8*(i/8))).take 8).length:=by simp;omega
 rw[leN_digit _ _ hl];congr 1;simp only[List.getElem_take,List.getElem_drop];congr 1;omega
theorem bytesOf_pack (l:List UInt8):z5 (zy l) l.length=l:=by
 apply List.ext_getElem
 ·simp[z5]
 ·intro i h1 h2
  simp only[z5,List.getElem_map,List.getElem_range];rw[byteAt_pack l i h2];simp
theorem uok_pack (l:List UInt8):UOk (zy l) l.length:=by
 refine⟨qG l,fun h=>?_⟩;rw[qG,packL_getD l _ (by unfold jt;omega)];unfold QJ;have hl:=leN_lt ((l.drop (8*(jt l.length-1))).take 8);have e:((l.drop (8*(jt l.length-1))).take 8).length=l.length%8:=by simp[jt];omega
 rw[e,pow256] at hl;exact Nat.div_eq_of_lt hl
theorem packL_inj {a b:List UInt8} (hl:a.length=b.length) (h:zy a=zy b):a=b:=by
 rw[<-bytesOf_pack a,<-bytesOf_pack b,h,hl]
end NumL
namespace NumL
open Go Go.RowKit Go.Shelf
attribute [local go_sem] Oper.semAt_some
theorem JB (n:Nat) (w:World) (h:n<=9223372036854775807):
  Calls prog 170 #[.int .i64 n] w fun e w'=>e=.returned (.int .i64 (jt n))/\w=w':=by
 go_enter Tryz.func170,Tryz.ntmps170;go_wp2;go_ret;exact⟨jW (by unfold jt;omega),rfl⟩
theorem or_bytes (s:ByteArray) (k:Nat) (h:k<s.size) (hk:k<8):bits BinOp.or IntKind.u64 ((JE (s.data.toList.take k):Nat):Int) (IntKind.u64.wrap (IntKind.u64.wrap ((s[k]).toNat:Int)*2^(8*k)))=((JE (s.data.toList.take (k+1)):Nat):Int):=
 or_take s.data.toList k (by simpa using h) hk
theorem word_any (s:ByteArray) (w:World) (hs:s.size<=maxLen):
  Calls prog 177 #[.string s] w fun e w'=>e=.returned (.int .u64 (JE (s.data.toList.take 8):Nat))/\w=w':=by
 unfold maxLen at hs;by_cases h8:8<s.size
 ·go_enter Tryz.func177,Tryz.ntmps177
  go_wp2;go_loop [3,8] (fun x i=>∃k:Nat,k<=8/\k<=s.size/\i=.int .i64 k/\x=.int .u64 (JE (s.data.toList.take k):Nat)) (fun _ i=>8-(intOf i).toNat)
  case atStart=>exact⟨0,by omega,by omega,rfl,by simp[JE]⟩
  case round=>
   obtain⟨k,hk,hk2,rfl,rfl⟩:=hrel;by_cases hlt:k<8
   ·have hlt2:k<s.size:=by omega
    have hlt8:k<8:=by omega
    have HS:=hid (or_bytes s k hlt2 hlt8);go_wp2;go_round
    case rel=>exact⟨k+1,by omega,by omega,by go_num,by rw[HS.out]⟩
    case measure=>simp[intOf];omega
   ·obtain rfl:k=8:=by omega
    go_wp2;go_ret;exact⟨jW (by first|rfl|rw[List.take_of_length_le (by simp),List.take_of_length_le (by simp;omega)]),rfl⟩
 ·go_enter Tryz.func177,Tryz.ntmps177
  go_wp2;go_loop [3,8] (fun x i=>∃k:Nat,k<=8/\k<=s.size/\i=.int .i64 k/\x=.int .u64 (JE (s.data.toList.take k):Nat)) (fun _ i=>8-(intOf i).toNat)
  case atStart=>exact⟨0,by omega,by omega,rfl,by simp[JE]⟩
  case round=>
   obtain⟨k,hk,hk2,rfl,rfl⟩:=hrel;by_cases hlt:k<s.size
   ·have hlt2:k<s.size:=by omega
    have hlt8:k<8:=by omega
    have HS:=hid (or_bytes s k hlt2 hlt8);go_wp2;go_round
    case rel=>exact⟨k+1,by omega,by omega,by go_num,by rw[HS.out]⟩
    case measure=>simp[intOf];omega
   ·obtain rfl:k=s.size:=by omega
    go_wp2;go_ret;exact⟨jW (by first|rfl|rw[List.take_of_length_le (by simp),List.take_of_length_le (by simp;omega)]),rfl⟩
theorem each_in (F:Fence) (n:Nat) (h4:F.fn 171) (hro:F.round=none) (s:ByteArray) (w:World):
  CallsIn F n prog 171 #[.string s] w fun e w'=>e=.returned (.func (.func 176) #[] #[.pointer (some ⟨w.heap.size,0,none⟩)])/\w'=w.alloc (.cells #[.string s] 9):=by
 refine callsIn_of_wp Tryz.func171 rfl h4 ?_ hro;simp only[Tryz.ntmps171,List.size_toArray,List.length_cons,List.length_nil,Nat.reduceAdd,Nat.reduceSub,Array.replicate_succ,Array.replicate_zero,List.push_toArray,List.append_toArray,List.nil_append,List.cons_append];gi_wp2;go_ret;exact⟨rfl,rfl⟩
def upto {α:Type} (f:Nat->α) (k:Nat):List α:=(List.range k).map f
theorem upto_succ {α:Type} (f:Nat->α) (k:Nat):upto f (k+1)=upto f k++[f k]:=by simp[upto,List.range_succ]
theorem upto_length {α:Type} (f:Nat->α) (k:Nat):(upto f k).length=k:=by simp[upto]
def Qe (s:ByteArray) (k:Nat):Nat×Nat:=(k,QJ s.data.toList k)
theorem ext_take (s:ByteArray) (k:Nat):JE ((s.extract (k*8) s.size).data.toList.take 8)=QJ s.data.toList k:=by
 unfold QJ;have e:(s.extract (k*8) s.size).data.toList=s.data.toList.drop (8*k):=by
  rw[Nat.mul_comm k 8];simp[ByteArray.data_extract];exact List.take_of_length_le (by simp)
 rw[e]
theorem word_at (s:ByteArray) (k:Nat) (w:World) (hs:s.size<=140737488351232):
  Calls prog 177 #[.string (s.extract (k*8) s.size)] w fun e w'=>e=.returned (.int .u64 (QJ s.data.toList k:Nat))/\w=w':=by
 have hz:(s.extract (k*8) s.size).size<=maxLen:=by rw[ByteArray.size_extract];unfold maxLen;omega
 refine(word_any _ w hz).mono ?_;rintro e w' ⟨rfl,rfl⟩;exact⟨by rw[ext_take],rfl⟩
def KeepBox (Bs:Nat) (s:ByteArray) (A B:World):Prop:=Boxed A Bs 9 (.string s)->Boxed B Bs 9 (.string s)
theorem each1_in (n:Nat) (hn:1<=n) (l Bs:Nat) (s:ByteArray) (hs:s.size<=140737488351232) (J Jx:List (Nat×Nat)->World->Prop)
  (hY:∀pre x W,J pre W->pre.length<jt s.size->YieldAt Fence.wide (n-1) prog l #[.int .i64 (x.1:Int),.int .u64 (x.2:Int)] W fun e W'=>
   (e=.returned (.bool true)/\J (pre++[x]) W'/\KeepBox Bs s W W')\/(e=.returned (.bool false)/\Jx (pre++[x]) W'))
  (W:World) (hBs:Boxed W Bs 9 (.string s)) (h0:J [] W):
  CallsIn Fence.wide n prog 176 #[.func (.yield l) #[] #[],.pointer (some ⟨Bs,0,none⟩)] W fun e W'=>(∃v,e=.returned v)∧
   ((∃ys,ys=upto (Qe s) (jt s.size)/\J ys W')\/(∃pre,(∃k,k<=jt s.size/\pre=upto (Qe s) k)/\Jx pre W')):=by
 refine callsIn_of_wp Tryz.func176 rfl trivial ?_ rfl;simp only[Tryz.ntmps176,List.size_toArray,List.length_cons,List.length_nil,Nat.reduceAdd,Nat.reduceSub,Array.replicate_succ,Array.replicate_zero,List.push_toArray,List.append_toArray,List.nil_append,List.cons_append];have hw0:s.size<=9223372036854775807:=by omega
 have hcx0:=hBs.cell;gi_wp2_with (refine⟨trivial,?_⟩;gi_at_call 170;refine(callsIn_wide.2 (JB _ _ hw0)).mono ?_;rintro e w' ⟨rfl,rfl⟩);gi_loopw [7] (fun i wr=>∃k:Nat,k<=jt s.size/\i=.int .i64 k/\J (upto (Qe s) k) wr/\Boxed wr Bs 9 (.string s))
  (fun i _=>jt s.size-(intOf i).toNat)
 case atStart=>exact⟨0,Nat.zero_le _,rfl,h0,hBs⟩
 case round=>
  obtain⟨k,hk,rfl,hJs,hnx⟩:=hrel;have hcx:=hnx.cell;by_cases hlt:k<jt s.size
  ·obtain⟨fn,tmps,assign,body,hy,hR⟩:=hY _ (Qe s k) wr hJs (by rw[upto_length];exact hlt)
   dsimp only[Qe] at hy;have h8:8*k<=s.size:=by unfold jt at hlt;omega
   gi_wp2_with (refine⟨trivial,?_⟩;gi_at_call 177;refine(callsIn_wide.2 (word_at s k _ hs)).mono ?_;rintro e w' ⟨rfl,rfl⟩);refine hR.mono ?_;rintro e W3 (⟨rfl,hJ3,hk3⟩|⟨rfl,hJx3⟩)
   ·gi_wp2
    go_roundw
    case rel=>exact⟨k+1,by omega,by simp,by rw[upto_succ];exact hJ3,hk3 hnx⟩
    case measure=>simp[intOf];omega
   ·gi_wp2
    refine bodyPost_ret (results_none rfl _ _ _) rfl ?_;exact⟨⟨_,rfl⟩,.inr ⟨_,⟨k+1,by omega,(upto_succ _ _).symm⟩,hJx3⟩⟩
  ·obtain rfl:k=jt s.size:=by omega
   gi_wp2;go_end0;exact⟨⟨_,rfl⟩,.inl ⟨_,rfl,hJs⟩⟩
end NumL
namespace NumL
open Go Go.RowKit Go.Shelf
attribute [local go_sem] Oper.semAt_some
theorem infoU64:(prog.info? 65).map (fun i=>(i.zero,i.size,i.bytes))=some (some (.int .u64 0),1,8):=by kernel_rfl
def u64s (l:List Nat):List Value:=l.map fun(n:Nat)=>Value.int .u64 (n:Int)
theorem each_stops (n:Nat) (hn:1<=n) (Bs:Nat) (s:ByteArray) (hs:s.size<=140737488351232) (w:World) (hc:Boxed w Bs 9 (.string s)):
  SeqStopsK Fence.wide n prog 176 #[.pointer (some ⟨Bs,0,none⟩)] (fun x:Nat×Nat=>#[Value.int .i64 (x.1:Int),Value.int .u64 (x.2:Int)]) (KeepBox Bs s) (fun ys=>ys=upto (Qe s) (jt s.size))
   (fun pre=>∃k,k<=jt s.size/\pre=upto (Qe s) k) (jt s.size) w:=fun l J Jx W hW _ _ hY h0=>
 each1_in n hn l Bs s hs J Jx hY W ((hW.block Bs hc.lt).trans hc) h0
theorem keepBox_t {Bs:Nat} {s:ByteArray} {A B C:World} (h:KeepBox Bs s A B) (k:KeepBox Bs s B C):KeepBox Bs s A C:=fun x=>k (h x)
theorem keepBox_b {Bs:Nat} {s:ByteArray} {w:World} (hb:Bs<w.heap.size) (W:World) (l:Nat) (o o':Obj) (hl:w.heap.size<=l) (_:W.heap[l]?=some o) (_:o.isCells=false) (_:o.isWalk=false):KeepBox Bs s W (W.putObj l o'):=fun x=>
 x.kept (grownBy_putObj' W l o') (fun e=>by cases e;omega)
theorem u64s_snoc (l:List Nat) (n:Nat):u64s (l++[n])=u64s l++[Value.int .u64 (n:Int)]:=by simp[u64s]
theorem upto_words (s:ByteArray):(upto (Qe s) (jt s.size)).map Prod.snd=zy s.data.toList:=by
 simp[upto,Qe,zy]
theorem pack_any (s:ByteArray) (hs:s.size<=140737488351232) (w:World):
  Calls prog 157 #[.string s] w fun e W'=>∃v,e=.returned v/\W'.ownsRow w.heap.size 65 1 v (jt s.size) (u64s (zy s.data.toList))/\Below w.heap.size w W':=by
 refine(callsIn_wide (n:=3)).1 ?_;obtain⟨i0,hi,hz0,hz1,hz2⟩:=info_parts infoU64;have hnw:jt s.size*8<=s.size+7:=by unfold jt;omega
 have hnm:jt s.size<=maxLen:=by unfold maxLen;omega
 obtain⟨w1,hmk,hown0,hgr0⟩:=run_make_own w w.heap.size 51 65 i0 (.int .u64 0) 1 Tryz.underlying51 hi hz0 hz1 .i64 .i64 (jt s.size) (by rw[hz2];omega) hnm (zqg _);refine callsIn_of_wp_marks Tryz.func157 rfl trivial ?_ rfl;simp only[Tryz.ntmps157,List.size_toArray,List.length_cons,List.length_nil,Nat.reduceAdd,Nat.reduceSub,Array.replicate_succ,Array.replicate_zero,List.push_toArray,List.append_toArray,List.nil_append,List.cons_append];have hw0:s.size<=9223372036854775807:=by omega
 have h1:1<=3-1:=by omega
 gi_wp2_with (first|(refine⟨trivial,?_⟩;gi_at_call 170;refine(callsIn_wide.2 (JB _ _ hw0)).mono ?_;rintro e w' ⟨rfl,rfl⟩)|(refine⟨trivial,?_⟩;gi_at_call 171;refine(each_in Fence.wide _ trivial rfl _ _).mono ?_;rintro e w' ⟨rfl,rfl⟩));have bO:=Boxed.new w1 51 (.slice (some ⟨w.heap.size,0,none⟩) 0 (jt s.size));have bN:=Boxed.new (w1.alloc (.cells #[.slice (some ⟨w.heap.size,0,none⟩) 0 (jt s.size)] 51)) 9 (.string s);rw[World.size_alloc] at bN;have hsz:w.heap.size<=w1.heap.size:=hgr0.size;have hB1:Below w.heap.size w w1:=(Below.refl _ w).grown hgr0 (zqg _) (by simp);have hB0:Below w.heap.size w ((w1.alloc (.cells #[.slice (some ⟨w.heap.size,0,none⟩) 0 (jt s.size)] 51)).alloc (.cells #[.string s] 9)):=(hB1.alloc hsz _).alloc (by simp;omega) _;clear hmk;refine wpIn_rangeFunc_ownG rfl (by omega) (gf:=176) (lb:=#[.pointer (some ⟨w1.heap.size+1,0,none⟩)]) rfl trivial (enters_of Tryz.func176 (by kernel_rfl) rfl)
  (each_stops (3-1) (by omega) (w1.heap.size+1) s hs _ bN) keepBox_t (keepBox_b (by simp)) (Below.refl _ _) (fun _=>rfl)
  (fun pre W=>((∃v,Boxed W w1.heap.size 51 v/\W.ownsRow w.heap.size 65 1 v pre.length (u64s (pre.map Prod.snd))/\True)/\Boxed W (w1.heap.size+1) 9 (.string s))/\Below w.heap.size w W)
  (fun _ _ _=>False)
  (OwnFrom.and (OwnFrom.and (Own.from (holdsRow_own w.heap.size w1.heap.size 51 65 1 (fun(pre:List (Nat×Nat))=>pre.length) (fun pre=>u64s (pre.map Prod.snd)) (fun _ _=>True)) _) (Own.from (boxed_own (w1.heap.size+1) 9 (fun _=>.string s)) _)) (ownFrom_below (zqg _) (by simp;omega)))
  (fun _ _ _ _ _ hs _ _=>hs)
  ⟨⟨⟨_,bO.alloc _,((hown0.alloc _).alloc _),trivial⟩,bN⟩,hB0⟩
  (fun x=>{tmps:=#[.string s,undef,.slice none 0 0,.pointer (some ⟨w1.heap.size,0,none⟩),undef,.int .u64 (x.2:Int),.string s,.int .i64 s.size,.int .i64 (jt s.size),.slice (some ⟨w.heap.size,0,none⟩) 0 (jt s.size),.string s,.func (.func 176) #[] #[.pointer (some ⟨w1.heap.size+1,0,none⟩)],.int .i64 (x.1:Int),.int .u64 (x.2:Int),undef,undef,undef,undef,undef],defers:=[]}) ?assign ?body ?done ?stop
 case assign=>
  intro l x W K hK;gi_wp2;exact hK
 case body=>
  rintro l pre x W ⟨⟨⟨v,hv,hrow,_⟩,hbs⟩,hB⟩ hlt;have hc:=hv.cell;gi_wp2_with (gi_at_builtin;refine wpListIn_append_own _ rfl _ _ 51 rfl w.heap.size 65 i0 (.int .u64 0) 1 8 Tryz.underlying51 hi hz0 hz1 hz2 rfl (by decide) _ _ _ rfl (hrow.alloc _) ⟨W.heap.size,0,none⟩ 1 1 [.int .u64 (x.2:Int)] rfl rfl (cell_one_new _ _ _) (by simp[Value.oneCell']) (by omega) (by omega) (by have:=hB.size;simp;omega) ?_;intro v' w2 hown' hgrow _;obtain⟨g',cap',rfl⟩:=ownsRow_succ hown';obtain⟨hv1,hv2,hr2,hk2,hb2⟩:=hv.appended (by decide) hrow hB.size hsz hown' hgrow;have hc1:=hv1.cell;have hf1:=hv1.frozen);have hbs2:Boxed w2 (w1.heap.size+1) 9 (.string s):=(hbs.alloc _).kept hgrow (hbs.not_row (by decide) hrow);have hbs3:=hbs2.other (B':=w1.heap.size) (by omega) (.slice (some ⟨g',0,none⟩) (pre.length+1) cap');exact⟨hk2.from _,fun _=>hbs3,⟨⟨_,hv2,by simpa[u64s_snoc] using hr2,trivial⟩,hbs3⟩,hB.trans hb2⟩
 case done=>
  rintro D ys W hD rfl ⟨⟨⟨v,hv,hrow,_⟩,_⟩,hB⟩ hK;have hc:=hv.cell;gi_wp2;refine⟨by simp,.inl ⟨_,_,rfl,run_takeDeferred hK,?_⟩⟩;refine⟨_,results_tmp rfl _ _ _,v,rfl,?_,hB.trans (belowK_b (w:=w) (zqg _) W D _ _ (by simp at hD;omega) hK rfl rfl)⟩;have:=ownsRow_putObj hrow (.deferred none) hK rfl;rw[upto_length,upto_words] at this;exact this
 case stop=>
  rintro D c pre W _ _ h _;exact h.elim
end NumL
namespace NumL
open Go Go.RowKit
def Words (n₀:Nat) (W:World) (v:Value) (zs:List Nat):Prop:=
 (v=.slice none 0 0/\zs=[])\/∃b off cap,v=.slice (some ⟨b,off,none⟩) zs.length cap/\b<n₀/\zs.length<=cap/\∀j,j<zs.length->W.cell? ⟨b,off+j,none⟩=some (.int .u64 (zs.getD j 0:Nat))
theorem Words.of_own {W:World} {n₀:Nat} {v:Value} {zs:List Nat} (h:W.ownsRow n₀ 65 1 v zs.length (u64s zs)):Words W.heap.size W v zs:=by
 rcases h.2 with⟨rfl,h0⟩|⟨g,cap,cur,rfl,_,hg,h1,h2,h3,h4⟩
 ·left;exact⟨rfl,List.length_eq_zero_iff.1 h0⟩
 ·right
  refine⟨g,0,cap,rfl,(zqa hg).1,h1,fun j hj=>?_⟩;have e:cur.toList[j]?=some (.int .u64 (zs.getD j 0:Nat)):=by
   have:(cur.toList.take (zs.length*1))[j]?=(u64s zs)[j]?:=by rw[h4]
   rw[List.getElem?_take_of_lt (by omega)] at this;rw[this];simp[u64s,hj,List.getD]
  have hc:W.cell? ⟨g,0+j,none⟩=cur[j]?:=by simp[World.cell?,hg]
  rw[hc,<-e];simp
theorem Words.shape {n₀:Nat} {W:World} {v:Value} {zs:List Nat} (h:Words n₀ W v zs):∃a cap,v=.slice a zs.length cap:=by
 rcases h with⟨rfl,rfl⟩|⟨b,off,cap,rfl,_⟩
 ·exact⟨none,0,rfl⟩
 ·exact⟨_,cap,rfl⟩
theorem unpack_len (a:Option Addr) (len cap:Nat) (m:Nat) (hm:m<=9223372036854775807) (hl:len≠jt m) (w:World):
  Calls prog 174 #[.slice a len cap,.int .i64 m] w fun e w'=>e=.returned (.tuple #[.string ⟨#[]⟩,.int .i64 1])/\w=w':=by
 have hd:((len:Int) !=(jt m:Int))=true:=by
  have:¬((len:Int)=(jt m:Int)):=by omega
  simpa using this
 have hd0:decide ((m:Int)<0)=false:=by rw[decide_eq_false_iff_not];omega
 clear hl;go_enter Tryz.func174,Tryz.ntmps174;go_wp2_with fail;refine(JB _ _ hm).mono ?_;rintro e w' ⟨rfl,rfl⟩;go_wp2_with fail;go_ret2;exact⟨rfl,rfl⟩
theorem shr_ne {z e:Nat} (h:z/2^e≠0):(((z:Nat):Int)/2^e !=0)=true:=by
 have:¬(((z:Nat):Int)/2^e=0):=by
  intro h2;apply h;have:((z/2^e:Nat):Int)=0:=by rw[Int.natCast_ediv,Int.natCast_pow];exact h2
  omega
 simpa using this
theorem shr_eq {z e:Nat} (h:z/2^e=0):(((z:Nat):Int)/2^e !=0)=false:=by
 have:(((z:Nat):Int)/2^e=0):=by
  have h2:((z/2^e:Nat):Int)=0:=by omega
  rw[Int.natCast_ediv,Int.natCast_pow] at h2;exact h2
 simpa using this
theorem unpack_last (b off cap len m z:Nat) (hm:m<=140737488351232) (hl:len=jt m) (hr:m%8≠0) (hb:z/2^(8*(m%8))≠0) (w:World)
  (hc:w.cell? ⟨b,off+(len-1),none⟩=some (.int .u64 (z:Nat))):
  Calls prog 174 #[.slice (some ⟨b,off,none⟩) len cap,.int .i64 m] w fun e w'=>e=.returned (.tuple #[.string ⟨#[]⟩,.int .i64 1])/\w=w':=by
 have hd:((len:Int) !=(jt m:Int))=false:=by
  have:((len:Int)=(jt m:Int)):=by omega
  simpa using this
 have hd0:decide ((m:Int)<0)=false:=by rw[decide_eq_false_iff_not];omega
 have hm0:m<=9223372036854775807:=by omega
 have hpos:1<=len:=by unfold jt at hl;omega
 have hlz:len<=140737488351232:=by unfold jt at hl;omega
 have hr1:((m:Int)%8 !=0)=true:=by
  have:¬((m:Int)%8=0):=by omega
  simpa using this
 have hs:=shr_ne hb;clear hr hb hl;go_enter Tryz.func174,Tryz.ntmps174;go_wp2_with fail;refine(JB _ _ hm0).mono ?_;rintro e w' ⟨rfl,rfl⟩;go_wp2_with fail;go_ret2;exact⟨rfl,rfl⟩
theorem infoU8:(prog.info? 5).map (fun i=>(i.zero,i.size,i.bytes))=some (some (.int .u8 0),1,1):=by kernel_rfl
def Made (B n k:Nat) (zs:List Nat) (W:World):Prop:=∀j,j<n->W.cell? ⟨B,j,none⟩=some (.int .u8 ((if j<k then J7 zs j else 0:Nat):Int))/\W.frozen? ⟨B,j,none⟩=false
theorem byte_cast (z e:Nat):((z:Nat):Int)/2^e%256=((z/2^e%256:Nat):Int):=by
 rw[Int.natCast_emod,Int.natCast_ediv,Int.natCast_pow];rfl
theorem byte_is {zs:List Nat} {k z:Nat} (h:zs.getD (k/8) 0=z):((z:Nat):Int)/2^(8*(k%8))%256=((J7 zs k:Nat):Int):=by
 rw[byte_cast];unfold J7;rw[h]
theorem made_start (w:World) (m:Nat) (zs:List Nat):Made w.heap.size m 0 zs (w.alloc (.cells (madeCells #[.int .u8 0] m) 5)):=by
 intro j hj;refine⟨?_,World.frozen?_alloc_new _ _ _ _⟩;have h:(madeCells #[Value.int .u8 0] m)[j]?=some (Value.int .u8 0):=by
  rw[<-Array.getElem?_toList,toList_madeCells_one,List.getElem?_replicate,if_pos hj]
 rw[World.cell?_alloc_mark w _ 5 (0,0) j,h];rfl
theorem made_step {B n k:Nat} {zs:List Nat} {W:World} (h:Made B n k zs W) (hk:k<n):Made B n (k+1) zs (W.setCell ⟨B,k,none⟩ (.int .u8 (J7 zs k:Nat))):=by
 intro j hj;obtain⟨h1,h2⟩:=h j hj;refine⟨?_,by rw[World.frozen?_setCell];exact h2⟩;by_cases e:j=k
 ·subst e
  rw[World.cell?_setCell_same _ _ _ h1,if_pos (by omega)]
 ·rw[World.cell?_setCell_other _ _ _ _ (fun x=>e (by injection x with _ h4;exact h4.symm)),h1]
  by_cases h3:j<k
  ·rw[if_pos h3,if_pos (by omega)]
  ·rw[if_neg h3,if_neg (by omega)]
theorem made_end {B n:Nat} {zs:List Nat} {W:World} (h:Made B n n zs W) (cap:Nat):(convert 210 9 (.slice (some ⟨B,0,none⟩) n cap)).run prog W=.ok (.string ⟨(z5 zs n).toArray⟩) W:=by
 have hb:=run_convert_bytes_back (P:=prog) W 210 9 5 ⟨B,0,none⟩ cap (z5 zs n) Tryz.underlying210 Tryz.underlying5 Tryz.underlying9 (fun j hj=>by
  rw[bytesOf_length] at hj;have h1:=(h j hj).1;rw[if_pos hj] at h1;have e:(z5 zs n)[j]=UInt8.ofNat (J7 zs j):=by simp[z5]
  have h3:=byteAt_lt zs j;have h4:(UInt8.ofNat (J7 zs j)).toNat=J7 zs j:=by rw[UInt8.toNat_ofNat'];omega
  have e2:(Addr.add ⟨B,0,none⟩ j)=⟨B,j,none⟩:=by
   simp[Addr.add];exact fun h=>h.symm
  rw[e2,h1,e,h4])
 rw[bytesOf_length] at hb;exact hb
theorem unpack_some (b off cap m:Nat) (zs:List Nat) (hm:m<=140737488351232) (hu:UOk zs m) (w:World) (hbw:b<w.heap.size)
  (hc:∀j,j<zs.length->w.cell? ⟨b,off+j,none⟩=some (.int .u64 (zs.getD j 0:Nat))):
  Calls prog 174 #[.slice (some ⟨b,off,none⟩) zs.length cap,.int .i64 m] w fun e w'=>e=.returned (.tuple #[.string ⟨(z5 zs m).toArray⟩,.int .i64 0])/\Below w.heap.size w w':=by
 obtain⟨i0,hi,hz0,hz1,hz2⟩:=info_parts infoU8;have hmk:=run_make (P:=prog) w 210 5 i0 (.int .u8 0) Tryz.underlying210 hi hz0 .i64 .i64 m m (by omega) (Int.le_refl _) (by rw[hz2];omega) (by omega);simp only[Int.toNat_natCast,hz1,Nat.mul_one] at hmk;have hM0:=made_start w m zs;have hB0:Below w.heap.size w (w.alloc (.cells (madeCells #[.int .u8 0] m) 5)):=(Below.refl _ _).alloc (zqg _) _;obtain⟨w1,hw1⟩:∃w1,w.alloc (.cells (madeCells (Value.int .u8 0).cells m) 5)=w1:=⟨_,rfl⟩;rw[hw1] at hmk;have hw2:w.alloc (.cells (madeCells #[.int .u8 0] m) 5)=w1:=hw1;rw[hw2] at hM0 hB0;have HM0:=hid hM0;clear hw1 hw2 hM0 hi hz0 hz1 hz2;have hl:=hu.1;have hd:((zs.length:Int) !=(jt m:Int))=false:=by
  have:((zs.length:Int)=(jt m:Int)):=by omega
  simpa using this
 have hd0:decide ((m:Int)<0)=false:=by rw[decide_eq_false_iff_not];omega
 have hm0:m<=9223372036854775807:=by omega
 have hlz:zs.length<=140737488351232:=by unfold jt at hl;omega
 have HL:=hid hl;have HC:=hid hc;have HU:=hid hu;have hmm:∀k,k<m->k/8<zs.length:=by intro k hk;rw[hl];unfold jt;omega
 have HMM:=hid hmm;clear hc hl hu hmm;by_cases hr:m%8=0
 ·have hr1:((m:Int)%8 !=0)=false:=by
   have:((m:Int)%8=0):=by omega
   simpa using this
  clear hr;go_enter Tryz.func174,Tryz.ntmps174;go_wp2_with fail;refine(JB _ _ hm0).mono ?_;rintro e w' ⟨rfl,rfl⟩;go_wp2_with fail;clear hmk;go_loopw [38] (fun i wr=>∃k:Nat,k<=m/\i=.int .i64 k/\Made w.heap.size m k zs wr/\Below w.heap.size w wr) (fun i _=>m-(intOf i).toNat)
  case atStart=>exact⟨0,by omega,rfl,HM0.out,hB0⟩
  case round=>
   obtain⟨k,hk,rfl,hM,hB⟩:=hrel;have HM:=hid hM;clear hM;by_cases hlt:k<m
   ·obtain⟨z,hz⟩:∃z,zs.getD (k/8) 0=z:=⟨_,rfl⟩
    have hkz:=HMM.out k hlt;have hcz:=HC.out (k/8) hkz;have hcx:wr.cell? ⟨b,off+k/8,none⟩=some (.int .u64 (z:Nat)):=by rw[hB.cell (p:=⟨b,off+k/8,none⟩) hbw,hcz,hz]
    obtain⟨hcy,hfy⟩:=HM.out k hlt;have HZ:=hid hz;clear hz hcz;go_wp2_with fail;go_roundw
    case rel=>exact⟨k+1,hlt,by simp,by rw[byte_is HZ.out];exact made_step HM.out hlt,hB.setCell (p:=⟨w.heap.size,k,none⟩) (zqg _) _⟩
    case measure=>simp[intOf];omega
   ·obtain rfl:k=m:=by omega
    have hend:=made_end HM.out k;go_wp2_with fail;go_ret2;exact⟨rfl,hB⟩
 ·have hr1:((m:Int)%8 !=0)=true:=by
   have:¬((m:Int)%8=0):=by omega
   simpa using this
  have hpos:1<=zs.length:=by have:=HL.out;unfold jt at this;omega
  have hlast:=HU.out.2 hr;obtain⟨zl,hzl⟩:∃z,zs.getD (zs.length-1) 0=z:=⟨_,rfl⟩;rw[hzl] at hlast;have hs:=shr_eq hlast;have hcl:w.cell? ⟨b,off+(zs.length-1),none⟩=some (.int .u64 (zl:Nat)):=by rw[HC.out (zs.length-1) (by omega),hzl]
  clear hr hlast hzl;go_enter Tryz.func174,Tryz.ntmps174;go_wp2_with fail;refine(JB _ _ hm0).mono ?_;rintro e w' ⟨rfl,rfl⟩;go_wp2_with fail;clear hmk;go_loopw [38] (fun i wr=>∃k:Nat,k<=m/\i=.int .i64 k/\Made w.heap.size m k zs wr/\Below w.heap.size w wr) (fun i _=>m-(intOf i).toNat)
  case atStart=>exact⟨0,by omega,rfl,HM0.out,hB0⟩
  case round=>
   obtain⟨k,hk,rfl,hM,hB⟩:=hrel;have HM:=hid hM;clear hM;by_cases hlt:k<m
   ·obtain⟨z,hz⟩:∃z,zs.getD (k/8) 0=z:=⟨_,rfl⟩
    have hkz:=HMM.out k hlt;have hcz:=HC.out (k/8) hkz;have hcx:wr.cell? ⟨b,off+k/8,none⟩=some (.int .u64 (z:Nat)):=by rw[hB.cell (p:=⟨b,off+k/8,none⟩) hbw,hcz,hz]
    obtain⟨hcy,hfy⟩:=HM.out k hlt;have HZ:=hid hz;clear hz hcz;go_wp2_with fail;go_roundw
    case rel=>exact⟨k+1,hlt,by simp,by rw[byte_is HZ.out];exact made_step HM.out hlt,hB.setCell (p:=⟨w.heap.size,k,none⟩) (zqg _) _⟩
    case measure=>simp[intOf];omega
   ·obtain rfl:k=m:=by omega
    have hend:=made_end HM.out k;go_wp2_with fail;go_ret2;exact⟨rfl,hB⟩
theorem unpack_nil (w:World):Calls prog 174 #[.slice none 0 0,.int .i64 0] w fun e w'=>e=.returned (.tuple #[.string ⟨(z5 [] 0).toArray⟩,.int .i64 0])/\Below w.heap.size w w':=by
 obtain⟨i0,hi,hz0,hz1,hz2⟩:=info_parts infoU8;have hmk:=run_make (P:=prog) w 210 5 i0 (.int .u8 0) Tryz.underlying210 hi hz0 .i64 .i64 0 0 (by omega) (Int.le_refl _) (by rw[hz2];omega) (by omega);simp only[hz1,Int.toNat_zero,Nat.mul_one] at hmk;have hM0:=made_start w 0 [];have hB0:Below w.heap.size w (w.alloc (.cells (madeCells #[.int .u8 0] 0) 5)):=(Below.refl _ _).alloc (zqg _) _;obtain⟨w1,hw1⟩:∃w1,w.alloc (.cells (madeCells (Value.int .u8 0).cells 0) 5)=w1:=⟨_,rfl⟩;rw[hw1] at hmk;have hw2:w.alloc (.cells (madeCells #[.int .u8 0] 0) 5)=w1:=hw1;rw[hw2] at hM0 hB0;have hend:=made_end hM0 0;clear hw1 hw2 hM0 hi hz0 hz1 hz2;have hwo:jt 0=0:=rfl;have HW:=hid (JB 0 w (by decide));clear hwo;go_enter Tryz.func174,Tryz.ntmps174;go_wp2_with fail;refine(HW.out).mono ?_;rintro e w' ⟨rfl,rfl⟩;have hwo:jt 0=0:=rfl;go_wp2_with fail;go_loopw [38] (fun i wr=>i=.int .i64 0/\wr=w1) (fun _ _=>0)
 case atStart=>exact⟨rfl,rfl⟩
 case round=>
  obtain⟨rfl,rfl⟩:=hrel;go_wp2_with fail;go_ret2;exact⟨rfl,hB0⟩
theorem unpack_yes (v:Value) (zs:List Nat) (m:Nat) (hm:m<=140737488351232) (hu:UOk zs m) (w:World) (hv:Words w.heap.size w v zs):
  Calls prog 174 #[v,.int .i64 m] w fun e w'=>e=.returned (.tuple #[.string ⟨(z5 zs m).toArray⟩,.int .i64 0])/\Below w.heap.size w w':=by
 rcases hv with⟨rfl,rfl⟩|⟨b,off,cap,rfl,hb,_,hc⟩
 ·have h0:m=0:=by have:=hu.1;unfold jt at this;simp at this;omega
  subst h0;exact unpack_nil w
 ·exact unpack_some b off cap m zs hm hu w hb hc
theorem unpack_err (v:Value) (zs:List Nat) (m:Nat) (hm:m<=140737488351232) (hu:¬UOk zs m) (w:World) (hv:Words w.heap.size w v zs):
  Calls prog 174 #[v,.int .i64 m] w fun e w'=>e=.returned (.tuple #[.string ⟨#[]⟩,.int .i64 1])/\w=w':=by
 by_cases hl:zs.length=jt m
 ·have h2:∃_:m%8≠0,zs.getD (zs.length-1) 0/2^(8*(m%8))≠0:=by
   by_cases hr:m%8≠0
   ·refine⟨hr,fun h=>hu ⟨hl,fun _=>h⟩⟩
   ·exact(hu ⟨hl,fun h=>(hr h).elim⟩).elim
  obtain⟨hr,hb⟩:=h2;rcases hv with⟨_,rfl⟩|⟨b,off,cap,rfl,_,_,hc⟩
  ·simp[jt] at hl;omega
  ·exact unpack_last b off cap zs.length m _ hm hl hr hb w (hc _ (by unfold jt at hl;omega))
 ·obtain⟨a,cap,rfl⟩:=hv.shape
  exact unpack_len a zs.length cap m (by omega) hl w
end NumL
end Go.Proofs.YtklcmdoadmcpfaaGreatDoor
