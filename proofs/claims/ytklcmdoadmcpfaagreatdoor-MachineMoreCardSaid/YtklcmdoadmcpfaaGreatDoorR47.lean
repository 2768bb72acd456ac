/- A part of the proof of MachineMore. Conditions: those that each theorem names. -/
import Derived.Test.YtklcmdoadmcpfaaGreatDoorQ00
import Derived.Test.YtklcmdoadmcpfaaGreatDoorR46
import Derived.SliceStrings
import Derived.Carry
import Derived.WalkKit
import Derived.SizedLaws
import Derived.ProofKit
import Derived.Deep.Slices
import Derived.Deep.Fields
import Derived.Deep.CutRange
import Derived.Deep.CutBlock
import Derived.Laws.IdiomArrays
import Derived.Test.YtklcmdoadmcpfaaGreatDoorCards
set_option maxRecDepth 100000
set_option maxHeartbeats 400000000
namespace Go.Proofs.YtklcmdoadmcpfaaGreatDoor
open Go Go.RowKit IsaL
open Go.Proofs.Tryz(prog)
section
variable {M:RM}
theorem zar (stop:Int) (n:Nat) (M:RM):Qs stop (n+1) M=if 0<stop/\stop<=M.steps then(M,(4:Int)) else if M.budget<=M.steps then(M,3) else if(Zr {M with steps:=M.steps+1}).2=0 then Qs stop n (Zr {M with steps:=M.steps+1}).1 else Zr {M with steps:=M.steps+1}:=by
 generalize hr:Zr {M with steps:=M.steps+1}=r;obtain⟨N,k⟩:=r;show(if 0<stop/\stop<=M.steps then(M,(4:Int)) else if M.budget<=M.steps then(M,3) else match Zr {M with steps:=M.steps+1} with
  |(N,k)=>if k=0 then Qs stop n N else(N,k))=_
 rw[hr]
end
section
variable {M:RM}
def KdR (r:RM×Int):Prop:=(0<=r.2/\r.2<=7)/\r.2≠4
theorem zaz (M:RM) (k:Int) (h:(0<=k/\k<=7)/\k≠4):KdR (M,k):=h
theorem zaB (M:RM) (v:RWd):KdR (Zf M v):=by
 unfold Zf;split
 ·exact zaz _ _ (by decide)
 ·exact zaz _ _ (by decide)
theorem zay (M:RM) (A:Int) (o:RObj):KdR (jas M A o):=by
 unfold jas;split
 ·exact zaz _ _ (by decide)
 ·exact zaz _ _ (by decide)
theorem zaE (M:RM) (A:Int) (t:ByteArray):KdR (jaa M A t):=by
 unfold jaa;split
 ·exact zaz _ _ (by decide)
 ·exact zay _ _ _
theorem zat {N:RM} (x a b:RWd):KdR (jcI N x a b):=by
 unfold jcI;split
 ·exact zaz _ _ (by decide)
 ·exact zaz _ _ (by decide)
theorem zas (M:RM) (t:Bool) (a b:RWd):KdR (jde M t a b):=by
 unfold jde;split
 ·exact zaz _ _ (by decide)
 ·exact zat _ _ _
theorem zaC (M:RM) (op A:Int) (b c:RWd):KdR (Zq M op A b c):=by
 unfold Zq;split
 ·exact zaz _ _ (by decide)
 ·split
  ·exact zaz _ _ (by decide)
  ·split
   ·exact zaz _ _ (by decide)
   ·split
    ·exact zaB _ _
    ·exact zaz _ _ (by decide)
theorem zax (M:RM) (v:RWd):KdR (jeK M v):=by
 unfold jeK;split
 ·exact zaz _ _ (by decide)
 ·split
  ·exact zaz _ _ (by decide)
  ·exact zaz _ _ (by decide)
theorem zaA (op A B D n:Int):KdR (opR M op A B D n):=by
 unfold opR;split;all_goals first
  |exact zaC _ _ _ _ _
  |exact zas _ _ _ _
  |exact zax _ _
  |exact zaB _ _
  |exact zay _ _ _
  |exact zaz _ _ (by decide)
  |(unfold jld;split<;>exact zaz _ _ (by decide))
  |(unfold jhb;split<;>exact zaz _ _ (by decide))
  |(unfold jhc;split<;>exact zaz _ _ (by decide))
  |(unfold jhf;split<;>exact zaz _ _ (by decide))
  |(unfold jbE;split;exact zaz _ _ (by decide);exact zay _ _ _)
  |(unfold jqB;exact zay _ _ _)
  |(unfold jey;split<;>exact zaz _ _ (by decide))
  |(unfold jg8;split<;>exact zaz _ _ (by decide))
  |(unfold jdc;split<;>exact zaz _ _ (by decide))
  |(unfold jl0;split;exact zaz _ _ (by decide);split<;>exact zaz _ _ (by decide))
  |(unfold jds;split;exact zaz _ _ (by decide);split<;>exact zaz _ _ (by decide))
  |(unfold jex;split;exact zaz _ _ (by decide);split<;>exact zaz _ _ (by decide))
  |(unfold jl4;split<;>exact zaz _ _ (by decide))
  |(unfold jha;split;exact zaz _ _ (by decide);exact zaE _ _ _)
  |(unfold jhg;split<;>exact zaz _ _ (by decide))
  |(unfold jlz;split;exact zaz _ _ (by decide);split;exact zaB _ _;exact zaz _ _ (by decide))
  |(unfold jlX;split;exact zaz _ _ (by decide);split;exact zaB _ _;exact zaE _ _ _)
  |(unfold jfm;exact zaz _ _ (by split<;>decide))
  |(unfold jkE;split;exact zaz _ _ (by decide);exact zaE _ _ _)
theorem zaw (A:Int) (b c:RWd):KdR (ja3 M A b c):=by
 unfold ja3;simp only;split
 ·exact zaz _ _ (by decide)
 ·split
  ·exact zaB _ _
  ·exact zaz _ _ (by decide)
theorem zau (x:I5):KdR (doR M x):=by
 unfold doR;split
 ·exact zaw _ _ _
 ·exact zaA _ _ _ _ _
theorem zaD:KdR (Zr M):=by
 unfold Zr;split
 ·exact zaz _ _ (by decide)
 ·exact zau _
theorem zav (stop:Int):∀(n:Nat) (M:RM),1<=(Qs stop n M).2/\(Qs stop n M).2<=7
 |0,M=>by show(1:Int)<=3/\(3:Int)<=7;decide
 |n+1,M=>by
  rw[zar];split
  ·show(1:Int)<=4/\(4:Int)<=7;decide
  ·split
   ·show(1:Int)<=3/\(3:Int)<=7;decide
   ·split
    ·exact zav stop n _
    ·have:=(zaD (M:={M with steps:=M.steps+1})).1
     omega
end
section
open Go Go.ChangeShapes Go.WideShapes Go.ChangeAt Go.ChangeMaps Go.RowKit
theorem jk9:laidOutB prog=true:=by kernel_rfl
theorem jfP {H:Type} {enc:TypeId×Value->H} {t:TypeId} (hr:prog.readableRec t=true) (hrow:t<prog.types.size) {W W':World} {v:Value} {d:DataW H} {ps:List MemPlace} {sp:Nat->Bool}
  (h:DataW.Trod enc prog W 0 (fun _=>true) true t v d ps) (hb:Below W.heap.size W W') (hlt:∀x∈ps,x.block<W.heap.size) (hsp:∀q∈ps,sp q.block=true):
  DataW.Trod enc prog W' 0 sp true t v d ps:=
 WideElems.Trod_stays jk9 hr hrow h (fun x hx=>hb.same (hlt x hx)) hsp
end
section
open Go Go.ChangeShapes Go.WideShapes Go.ChangeAt Go.ChangeMaps Go.RowKit Go.Deep
theorem jpd:prog.cellsOf 26=5:=by kernel_rfl
theorem QU:prog.cellsOf 3=1:=by kernel_rfl
theorem jqr {H:Type} {enc:TypeId×Value->H} {W:World} {b0:Nat} {v:Value} {d:DataW H} {p:List MemPlace} (hval:Value.okWide prog W .any b0 26 v)
  (hd:DataW.Trod enc prog W 0 (fun _=>true) true 26 v d p):∃a b c s e:Int,v=.agg #[.int .i64 a,.int .i64 b,.int .i64 c,.int .i64 s,.int .i64 e]/\ -9223372036854775808<=e/\e<=9223372036854775807:=by
 obtain⟨cs,rfl,hsz⟩:=okWide_struct Tryz.underlying26 hval;obtain⟨fuel,hf⟩:=hd;have hf:DataW.trod enc prog W 0 (fun _=>true) true fuel 26 cs.toList=some (d,p):=by simpa[Value.cells] using hf
 obtain⟨xs,n',_,hx,hlen,hyl,hg⟩:=DataW.trod_struct Tryz.underlying26 hf;rw[jpd] at hlen;obtain⟨L,hL⟩:∃L,cs.toList=L:=⟨_,rfl⟩;have hc:cs=L.toArray:=by rw[<-hL]
 rw[hL] at hlen hg;match L,hlen with
 |[c0,c1,c2,c3,c4],_=>
  match xs,hyl with
  |[y0,y1,y2,y3,y4],_=>
   have g0:=hg 0 _ rfl;have g1:=hg 1 _ rfl;have g2:=hg 2 _ rfl;have g3:=hg 3 _ rfl;have g4:=hg 4 _ rfl;have k:∀(j:Nat) (c:Value) (y:DataW H×List MemPlace),DataW.trod enc prog W 0 (fun _=>true) true n' 3 [c]=some y->∃z,c=.int .i64 z/\ -9223372036854775808<=z/\z<=9223372036854775807:=by
    intro _ c y h;obtain⟨z,e,_,w⟩:=DataW.trod_int Tryz.underlying3 h;have b: -9223372036854775808<=z/\z<=9223372036854775807:=by simpa[Lit.wf,IntKind.min,IntKind.max,IntKind.signed,IntKind.bits] using w
    simp only[List.cons.injEq,and_true] at e;exact⟨z,e,b⟩
   obtain⟨z0,rfl,_⟩:=k 0 c0 y0 (by simpa[QU] using g0);obtain⟨z1,rfl,_⟩:=k 1 c1 y1 (by simpa[QU] using g1);obtain⟨z2,rfl,_⟩:=k 2 c2 y2 (by simpa[QU] using g2);obtain⟨z3,rfl,_⟩:=k 3 c3 y3 (by simpa[QU] using g3);obtain⟨z4,rfl,b4⟩:=k 4 c4 y4 (by simpa[QU] using g4);exact⟨z0,z1,z2,z3,z4,by rw[hc],b4⟩
end
def upR (M:RM) (l s u bu:Int):RM:={M with limit:=l,stack:=s,used:=u,budget:=bu}
def up2 (l s u bu:Int) (r:RM×Int):RM×Int:=(upR r.1 l s u bu,r.2)
def MoreR (M M':RM):Prop:=∃l s u bu,M'=upR M l s u bu/\M.limit<=l/\M.stack<=s/\M.budget<=bu
def AnsM (r r':RM×Int):Prop:=r.2=3\/r.2=5\/r.2=6\/r'.2=r.2/\MoreR r.1 r'.1
theorem zaG {M:RM} {g:RFm->RFm} (hg:∀f,(g f).code=f.code/\(g f).slots=f.slots):Jp (M.top g)=Jp M:=by
 have e:∀(n:Nat) (l:List RFm),(l.modify n g).flatMap (fun f=>f.code::f.slots)=l.flatMap fun f=>f.code::f.slots:=fun n l=>by
  induction l generalizing n with
  |nil=>cases n<;>rfl
  |cons f r ih=>
   cases n with
   |zero=>
    show(g f).code::(g f).slots++_=_;rw[(hg f).1,(hg f).2];rfl
   |succ n=>
    show f.code::f.slots++(r.modify n g).flatMap _=f.code::f.slots++r.flatMap _;rw[ih n]
 unfold Jp jr;show qS M.objs (Jk M.objs ((List.range 16).map M.rg++((M.frs.modify (M.frs.length-1) g).flatMap fun f=>f.code::f.slots)++(List.range 1024).map M.gl++[M.entry,M.value]))=_;rw[e]
section
variable {M:RM} {l s u bu:Int}
theorem zaQ {c:Prop} {i:Decidable c} {a b:RM×Int}:up2 l s u bu (@ite _ c i a b)=@ite _ c i (up2 l s u bu a) (up2 l s u bu b):=by split<;>rfl
theorem zaT (A n:Int):jld (upR M l s u bu) A n=up2 l s u bu (jld M A n):=by unfold jld;exact Eq.symm zaQ
theorem zaR (A n:Int):jhb (upR M l s u bu) A n=up2 l s u bu (jhb M A n):=by unfold jhb;exact Eq.symm zaQ
theorem zaU (A n:Int):jhc (upR M l s u bu) A n=up2 l s u bu (jhc M A n):=by unfold jhc;exact Eq.symm zaQ
theorem zaY (A n:Int):jhf (upR M l s u bu) A n=up2 l s u bu (jhf M A n):=by unfold jhf;exact Eq.symm zaQ
theorem zaW (v:RWd):Zf (upR M l s u bu) v=up2 l s u bu (Zf M v):=by
 unfold Zf;rw[show(upR M l s u bu).has=M.has from rfl];cases M.has.getLast?<;>rfl
theorem za2 (A n:Int):jds (upR M l s u bu) A n=up2 l s u bu (jds M A n):=by
 unfold jds;rw[show(upR M l s u bu).rg=M.rg from rfl];cases M.rg A.toNat with
 |P k=>rfl
 |I m=>exact Eq.symm zaQ
theorem zaX (op A:Int) (b c:RWd):Zq (upR M l s u bu) op A b c=up2 l s u bu (Zq M op A b c):=by
 unfold Zq;cases b with
 |P k=>rfl
 |I y=>
  cases c with
  |P k=>exact Eq.symm zaQ
  |I z=>
   show(if op=12 then _ else if(op=10\/op=11)/\z=0 then Zf (upR M l s u bu) (.I 2) else _)=up2 l s u bu (if op=12 then _ else if(op=10\/op=11)/\z=0 then _ else _);rw[zaW];by_cases h1:op=12
   ·rw[if_pos h1,if_pos h1];rfl
   ·rw[if_neg h1,if_neg h1]
    by_cases h2:(op=10\/op=11)/\z=0
    ·rw[if_pos h2,if_pos h2]
    ·rw[if_neg h2,if_neg h2];rfl
theorem zaS (v:RWd):jeK (upR M l s u bu) v=up2 l s u bu (jeK M v):=by
 unfold jeK;by_cases h1:jbs M=true
 ·rw[if_pos (show jbs (upR M l s u bu)=true from h1),if_pos h1];rfl
 ·rw[if_neg (show¬jbs (upR M l s u bu)=true from h1),if_neg h1]
  exact Eq.symm zaQ
theorem za1:jl4 (upR M l s u bu)=up2 l s u bu (jl4 M):=by unfold jl4;exact Eq.symm zaQ
theorem zaO (A n:Int) (v:RWd):jey (upR M l s u bu) A n v=up2 l s u bu (jey M A n v):=by unfold jey;exact Eq.symm zaQ
theorem zaP (n:Int) (a v:RWd):jg8 (upR M l s u bu) n a v=up2 l s u bu (jg8 M n a v):=by unfold jg8;exact Eq.symm zaQ
theorem zaN (a v:RWd):jdc (upR M l s u bu) a v=up2 l s u bu (jdc M a v):=by unfold jdc;exact Eq.symm zaQ
theorem za0 (A:Int) (v:RWd):jl0 (upR M l s u bu) A v=up2 l s u bu (jl0 M A v):=by
 cases v with
 |I n=>rfl
 |P k=>unfold jl0;exact Eq.symm zaQ
theorem zaZ (A:Int) (b:RWd):jhg (upR M l s u bu) A b=up2 l s u bu (jhg M A b):=by unfold jhg;exact Eq.symm zaQ
theorem zaV (A:Int) (b c:RWd):jlz (upR M l s u bu) A b c=up2 l s u bu (jlz M A b c):=by
 unfold jlz;rw[zaW];by_cases h1:(jo M b).k≠4\/c.isP=true
 ·rw[if_pos h1];exact if_pos h1
 ·rw[if_neg h1]
  exact(if_neg h1).trans (Eq.symm zaQ)
theorem zaJ {op:Int} (h:¬op.toNat<37) (A B D n:Int):opR M op A B D n=(M,7):=by
 unfold opR;split<;>first|rfl|omega
theorem zap {α:Type} {f f':α->α->Nat->Nat×Nat} {d:Nat} (h:∀x y n,(f x y n).1≠3->f' x y (n+d)=((f x y n).1,(f x y n).2+d)):∀(xs ys:List α) (n:Nat),(Zj f xs ys n).1≠3->Zj f' xs ys (n+d)=((Zj f xs ys n).1,(Zj f xs ys n).2+d)
 |[],_,_,_=>rfl
 |_::_,[],_,_=>rfl
 |x::xs,y::ys,n,hn=>by
  unfold Zj at hn ⊢;by_cases h1:(f x y n).1=1
  ·rw[if_pos h1] at hn ⊢
   rw[h x y n (by omega),if_pos h1];exact zap h xs ys _ hn
  ·rw[if_neg h1] at hn ⊢
   rw[h x y n hn,if_neg h1]
theorem zaM {α:Type} {L:α->α->Nat⊕(List α×List α)} {d:Nat}:∀(k k':Nat) (a b:α) (n:Nat),k<=k'->(ZK L k a b n).1≠3->ZK L k' a b (n+d)=((ZK L k a b n).1,(ZK L k a b n).2+d)
 |0,_,_,_,_,_,h=>absurd rfl h
 |k+1,0,_,_,_,hk,_=>absurd hk (by omega)
 |k+1,k'+1,a,b,n,hk,h=>by
  unfold ZK at h ⊢;by_cases h0:n=0
  ·rw[if_pos h0] at h
   exact absurd rfl h
  ·rw[if_neg h0] at h ⊢
   rw[if_neg (show¬n+d=0 by omega)];cases e:L a b with
   |inl j=>
    show(j,n+d-1)=(j,n-1+d);rw[show n+d-1=n-1+d by omega]
   |inr p=>
    rw[e] at h;have h:(Zj (ZK L k) p.1 p.2 (n-1)).1≠3:=h;show Zj (ZK L k') p.1 p.2 (n+d-1)=((Zj (ZK L k) p.1 p.2 (n-1)).1,(Zj (ZK L k) p.1 p.2 (n-1)).2+d);rw[show n+d-1=n-1+d by omega];exact zap (fun x y m hm=>zaM k k' x y m (by omega) hm) p.1 p.2 (n-1) h
end
section
variable {M:RM} {l s u bu:Int} (hl:M.limit<=l) (hs:M.stack<=s) (hb:M.budget<=bu)
include hl hs hb
theorem AnsM.same {r:RM×Int} (h1:r.1.limit=M.limit) (h2:r.1.stack=M.stack) (h3:r.1.budget=M.budget):AnsM r (up2 l s u bu r):=
 .inr (.inr (.inr ⟨rfl,l,s,u,bu,rfl,by omega,by omega,by omega⟩))
theorem AnsM.ofK {r r':RM×Int} (k:KeepR M r) (e:r'=up2 l s u bu r):AnsM r r':=by
 subst e;exact AnsM.same hl hs hb k.li k.sk k.bu
theorem zad (n:Int):AnsM (jex M n) (jex (upR M l s u bu) n):=by
 unfold jex;by_cases h:n<0
 ·rw[if_pos h,if_pos h]
  exact AnsM.same (r:=(M,7)) hl hs hb rfl rfl rfl
 ·rw[if_neg h,if_neg h]
  by_cases h2:M.stack<qi M-(jK M).slots.length+n
  ·rw[if_pos h2]
   exact .inr (.inr (.inl rfl))
  ·rw[if_neg h2,if_neg (show¬(upR M l s u bu).stack<qi (upR M l s u bu)-((jK (upR M l s u bu)).slots.length:Int)+n from show¬s<qi M-(jK M).slots.length+n by omega)]
   exact .inr (.inr (.inr ⟨rfl,l,s,u,bu,rfl,hl,hs,hb⟩))
theorem zaf (n:Int):AnsM (jfm M n) (jfm (upR M l s u bu) n):=by
 unfold jfm;by_cases h2:M.stack<qi (jeD M n)
 ·exact .inr (.inr (.inl (if_pos h2)))
 ·exact .inr (.inr (.inr ⟨(if_neg (show¬s<qi (jeD M n) by omega)).trans (if_neg h2).symm,l,s,u,bu,rfl,hl,hs,hb⟩))
theorem zab (x a b:RWd):AnsM (jcI M x a b) (jcI (upR M l s u bu) x a b):=by
 unfold jcI;by_cases h2:M.stack<qi (QR M x)
 ·rw[if_pos h2]
  exact .inr (.inr (.inl rfl))
 ·rw[if_neg h2,if_neg (show¬(upR M l s u bu).stack<qi (QR (upR M l s u bu) x) from show¬s<qi (QR M x) by omega)]
  exact .inr (.inr (.inr ⟨rfl,l,s,u,bu,rfl,hl,hs,hb⟩))
theorem zaa (t:Bool) (a b:RWd):AnsM (jde M t a b) (jde (upR M l s u bu) t a b):=by
 unfold jde;by_cases h:(jo M a).k≠3\/(jo M (ja1 M a)).k≠5\/(t&&jbs M)=true
 ·rw[if_pos h]
  have e:(if(jo (upR M l s u bu) a).k≠3\/(jo (upR M l s u bu) (ja1 (upR M l s u bu) a)).k≠5\/(t&&jbs (upR M l s u bu))=true then(upR M l s u bu,(7:Int)) else jcI (if t then{upR M l s u bu with frs:=M.frs.take (M.frs.length-1)} else upR M l s u bu) (ja1 M a) a b)=(upR M l s u bu,7):=if_pos h;refine(congrArg (AnsM (M,7)) e).mpr ?_;exact AnsM.same (r:=(M,7)) hl hs hb rfl rfl rfl
 ·rw[if_neg h]
  have e:(if(jo (upR M l s u bu) a).k≠3\/(jo (upR M l s u bu) (ja1 (upR M l s u bu) a)).k≠5\/(t&&jbs (upR M l s u bu))=true then(upR M l s u bu,(7:Int)) else jcI (if t then{upR M l s u bu with frs:=M.frs.take (M.frs.length-1)} else upR M l s u bu) (ja1 M a) a b)=jcI (if t then{upR M l s u bu with frs:=M.frs.take (M.frs.length-1)} else upR M l s u bu) (ja1 M a) a b:=if_neg h;refine(congrArg (AnsM _) e).mpr ?_;cases t with
  |false=>exact zab hl hs hb _ _ _
  |true=>exact zab (M:={M with frs:=M.frs.take (M.frs.length-1)}) hl hs hb _ _ _
theorem zag (h0:M.steps<=M.budget) (A:Int) (b c:RWd):AnsM (ja3 M A b c) (ja3 (upR M l s u bu) A b c):=by
 obtain⟨m,hm⟩:∃m,(M.budget-M.steps+1).toNat=m:=⟨_,rfl⟩;obtain⟨d,hd⟩:∃d,(bu-M.steps+1).toNat=m+d:=⟨(bu-M.steps+1).toNat-m,by omega⟩;have ha:=jgz M b c m;by_cases h3:(jco M b c m).1=3
 ·left
  unfold ja3;simp only[hm];rw[if_pos h3]
 ·have e:jco (upR M l s u bu) b c (m+d)=((jco M b c m).1,(jco M b c m).2+d):=zaM (L:=Zo M) m (m+d) b c m (by omega) h3
  obtain⟨r,hr⟩:∃r,jco M b c m=r:=⟨_,rfl⟩;rw[hr] at e ha h3;have e1:ja3 M A b c=if r.1=2 then Zf {M with steps:=M.steps+(m-r.2:Nat)-1} (.I 5) else(RM.reg {M with steps:=M.steps+(m-r.2:Nat)-1} A (.I r.1),0):=by
   unfold ja3;simp only[hm,hr];rw[if_neg h3]
  have e2:ja3 (upR M l s u bu) A b c=if r.1=2 then Zf (upR {M with steps:=M.steps+(m-r.2:Nat)-1} l s u bu) (.I 5) else(RM.reg (upR {M with steps:=M.steps+(m-r.2:Nat)-1} l s u bu) A (.I r.1),0):=by
   unfold ja3;simp only[show((upR M l s u bu).budget-(upR M l s u bu).steps+1).toNat=m+d from hd,e];rw[if_neg h3,show m+d-(r.2+d)=m-r.2 by omega];rfl
  rw[e1,e2];by_cases h2:r.1=2
  ·rw[if_pos h2,if_pos h2]
   have k:=Qj (M:={M with steps:=M.steps+(m-r.2:Nat)-1}) (.I 5);exact AnsM.ofK (M:={M with steps:=M.steps+(m-r.2:Nat)-1}) hl hs hb k (zaW _)
  ·rw[if_neg h2,if_neg h2]
   exact .inr (.inr (.inr ⟨rfl,l,s,u,bu,rfl,hl,hs,hb⟩))
end
section
variable {M:RM} {l s u bu:Int} (hL:(Jp M:Int)<=M.used) (hl:M.limit<=l) (hs:M.stack<=s) (hb:M.budget<=bu)
include hL hl hs hb
theorem zai (A:Int) (o:RObj):AnsM (jas M A o) (jas (upR M l s u bu) A o):=by
 unfold jas;cases hr:(jz M (o.words:Int)).2 with
 |false=>exact .inr (.inl rfl)
 |true=>
  have h1:(Jp M:Int)+o.words<=M.limit:=by
   unfold jz at hr;split at hr
   ·omega
   ·exact of_decide_eq_true hr
  have h2:(jz (upR M l s u bu) (o.words:Int)).2=true/\∃u2,(jz (upR M l s u bu) (o.words:Int)).1=upR M l s u2 bu:=by
   unfold jz;split
   ·exact⟨rfl,u,rfl⟩
   ·exact⟨zqr (show(Jp M:Int)+o.words<=l by omega),_,rfl⟩
  obtain⟨h3,u2,h4⟩:=h2;have h5:∃u1,(jz M (o.words:Int)).1={M with used:=u1}:=by
   unfold jz;split
   ·exact⟨_,rfl⟩
   ·exact⟨_,rfl⟩
  obtain⟨u1,h5⟩:=h5;rw[if_pos rfl,if_pos h3,h4,h5];exact .inr (.inr (.inr ⟨rfl,l,s,u2+o.words,bu,rfl,hl,hs,hb⟩))
theorem zam (A:Int) (t:ByteArray):AnsM (jaa M A t) (jaa (upR M l s u bu) A t):=by
 unfold jaa;split
 ·exact .inr (.inl rfl)
 ·exact zai hL hl hs hb A _
theorem zae (k:Nat) (A n:Int):AnsM (jbE M k A n) (jbE (upR M l s u bu) k A n):=by
 unfold jbE;by_cases h:n<1\/16384<n
 ·rw[if_pos h,if_pos h]
  exact AnsM.same (r:=(M,7)) hl hs hb rfl rfl rfl
 ·rw[if_neg h,if_neg h]
  exact zai hL hl hs hb A _
theorem zah (A:Int) (b c:RWd):AnsM (jha M A b c) (jha (upR M l s u bu) A b c):=by
 by_cases h:(jo M b).k≠4\/(jo M c).k≠4
 ·rw[show jha M A b c=(M,7) from if_pos h,show jha (upR M l s u bu) A b c=(upR M l s u bu,7) from if_pos h]
  exact AnsM.same (r:=(M,7)) hl hs hb rfl rfl rfl
 ·rw[show jha M A b c=jaa M A ((jo M b).tx++(jo M c).tx) from if_neg h,show jha (upR M l s u bu) A b c=jaa (upR M l s u bu) A ((jo M b).tx++(jo M c).tx) from if_neg h]
  exact zam hL hl hs hb A _
theorem zal (A:Int) (b:RWd):AnsM (jlX M A b) (jlX (upR M l s u bu) A b):=by
 unfold jlX;by_cases h:b.isP=true
 ·rw[if_pos h,if_pos h]
  exact AnsM.same (r:=(M,7)) hl hs hb rfl rfl rfl
 ·rw[if_neg h,if_neg h]
  by_cases h2:b.num<0\/255<b.num
  ·rw[if_pos h2,if_pos h2]
   have k:=Qj (M:=M) (.I 3);exact AnsM.ofK hl hs hb k (zaW _)
  ·rw[if_neg h2,if_neg h2]
   exact zam hL hl hs hb A _
theorem zac (A:Int) (b:RWd):AnsM (jkE M A b) (jkE (upR M l s u bu) A b):=by
 unfold jkE;by_cases h:b.isP=true
 ·rw[if_pos h,if_pos h]
  exact AnsM.same (r:=(M,7)) hl hs hb rfl rfl rfl
 ·rw[if_neg h,if_neg h]
  exact zam hL hl hs hb A _
theorem zaj (op A B D n:Int):AnsM (opR M op A B D n) (opR (upR M l s u bu) op A B D n):=by
 have hk:KeepR M (opR M op A B D n):=jjH op A B D n;by_cases h37:op.toNat<37
 ·have hj:op.toNat=0\/op.toNat=1\/op.toNat=2\/op.toNat=3\/op.toNat=4\/op.toNat=5\/op.toNat=6\/op.toNat=7\/op.toNat=8\/op.toNat=9\/op.toNat=10\/op.toNat=11\/op.toNat=12\/op.toNat=13\/op.toNat=14\/op.toNat=15\/op.toNat=16\/op.toNat=17\/op.toNat=18\/op.toNat=19\/op.toNat=20\/op.toNat=21\/op.toNat=22\/op.toNat=23\/op.toNat=24\/op.toNat=25\/op.toNat=26\/op.toNat=27\/op.toNat=28\/op.toNat=29\/op.toNat=30\/op.toNat=31\/op.toNat=32\/op.toNat=33\/op.toNat=34\/op.toNat=35\/op.toNat=36:=by omega
  unfold opR at hk ⊢;rcases hj with h|h|h|h|h|h|h|h|h|h|h|h|h|h|h|h|h|h|h|h|h|h|h|h|h|h|h|h|h|h|h|h|h|h|h|h|h<;>rw[h] at hk ⊢ <;>first
   |exact AnsM.ofK hl hs hb hk rfl
   |exact AnsM.ofK hl hs hb hk (zaT _ _)
   |exact AnsM.ofK hl hs hb hk (zaR _ _)
   |exact AnsM.ofK hl hs hb hk (zaU _ _)
   |exact AnsM.ofK hl hs hb hk (zaY _ _)
   |exact AnsM.ofK hl hs hb hk (zaX _ _ _ _)
   |exact AnsM.ofK hl hs hb hk (zaO _ _ _)
   |exact AnsM.ofK hl hs hb hk (zaP _ _ _)
   |exact AnsM.ofK hl hs hb hk (zaN _ _)
   |exact AnsM.ofK hl hs hb hk (za0 _ _)
   |exact AnsM.ofK hl hs hb hk (za2 _ _)
   |exact AnsM.ofK hl hs hb hk (zaS _)
   |exact AnsM.ofK hl hs hb hk za1
   |exact AnsM.ofK hl hs hb hk (zaW _)
   |exact AnsM.ofK hl hs hb hk (zaZ _ _)
   |exact AnsM.ofK hl hs hb hk (zaV _ _ _)
   |exact zae hL hl hs hb _ _ _
   |exact zai hL hl hs hb _ _
   |exact zad hl hs hb _
   |exact zaa hl hs hb _ _ _
   |exact zaf hl hs hb _
   |exact zah hL hl hs hb _ _ _
   |exact zal hL hl hs hb _ _
   |exact zac hL hl hs hb _ _
 ·rw[zaJ h37,zaJ h37]
  exact AnsM.same (r:=(M,7)) hl hs hb rfl rfl rfl
theorem zak (h0:M.steps<=M.budget):AnsM (Zr M) (Zr (upR M l s u bu)):=by
 have ei:jbr (upR M l s u bu)=jbr M:=rfl;unfold Zr;rw[ei];cases jbr M with
 |none=>exact AnsM.same (r:=(M,7)) hl hs hb rfl rfl rfl
 |some x=>
  show AnsM (doR (M.top fun f=>{f with place:=f.place+1}) x) (doR (upR (M.top fun f=>{f with place:=f.place+1}) l s u bu) x);have hL2:(Jp (M.top fun f=>{f with place:=f.place+1}):Int)<=(M.top fun f=>{f with place:=f.place+1}).used:=by
   rw[zaG (g:=fun f=>{f with place:=f.place+1}) fun _=>⟨rfl,rfl⟩];exact hL
  obtain⟨M2,hM2⟩:∃M2,M.top (fun f=>{f with place:=f.place+1})=M2:=⟨_,rfl⟩;have b1:M2.limit<=l:=by rw[<-hM2];exact hl
  have b2:M2.stack<=s:=by rw[<-hM2];exact hs
  have b3:M2.budget<=bu:=by rw[<-hM2];exact hb
  have b4:M2.steps<=M2.budget:=by rw[<-hM2];exact h0
  rw[hM2] at hL2 ⊢;unfold doR;by_cases h15:x.1=15
  ·rw[if_pos h15,if_pos h15]
   exact zag b1 b2 b3 b4 _ _ _
  ·rw[if_neg h15,if_neg h15]
   exact zaj hL2 b1 b2 b3 _ _ _ _ _
end
section
variable {M M':RM}
theorem zaq:∀(n n':Nat) (M M':RM),n<=n'->MoreR M M'->TrR 0 n M->M.steps<=M.budget->(Qs 0 n M).2≠3->(Qs 0 n M).2≠5->(Qs 0 n M).2≠6->(Qs 0 n' M').2=(Qs 0 n M).2/\MoreR (Qs 0 n M).1 (Qs 0 n' M').1
 |0,_,_,_,_,_,_,_,h,_,_=>absurd rfl h
 |n+1,0,_,_,hn,_,_,_,_,_,_=>absurd hn (by omega)
 |n+1,n'+1,M,M',hn,hm,ht,h0,h3,h5,h6=>by
  obtain⟨l,s,u,bu,rfl,hl,hs,hb⟩:=hm;rw[zar 0 n M] at h3 h5 h6 ⊢;rw[zar 0 n' (upR M l s u bu)];have c0:¬((0:Int)<0/\(0:Int)<=M.steps):=by omega
  have c1:¬((0:Int)<0/\(0:Int)<=(upR M l s u bu).steps):=by omega
  rw[if_neg c0] at h3 h5 h6 ⊢;rw[if_neg c1];by_cases hbu:M.budget<=M.steps
  ·rw[if_pos hbu] at h3
   exact absurd rfl h3
  ·rw[if_neg hbu] at h3 h5 h6 ⊢
   rw[if_neg (show¬(upR M l s u bu).budget<=(upR M l s u bu).steps from show¬bu<=M.steps by omega)];rcases ht with q|q|⟨⟨C,D,f,A,E,_,us⟩,_,ht⟩
   ·omega
   ·exact absurd q hbu
   ·have hL:(Jp M:Int)<=M.used:=us.live
    have ha:=zak (M:={M with steps:=M.steps+1}) (l:=l) (s:=s) (u:=u) (bu:=bu) hL hl hs hb (show M.steps+1<=M.budget by omega);have hst:=joI (M:={M with steps:=M.steps+1}) (show M.steps+1<=M.budget by omega);have e:{upR M l s u bu with steps:=(upR M l s u bu).steps+1}=upR {M with steps:=M.steps+1} l s u bu:=rfl;rw[e];obtain⟨r,hr⟩:∃r,Zr {M with steps:=M.steps+1}=r:=⟨_,rfl⟩;obtain⟨r',hr'⟩:∃r',Zr (upR {M with steps:=M.steps+1} l s u bu)=r':=⟨_,rfl⟩;rw[hr] at h3 h5 h6 ha hst ht ⊢;rw[hr'] at ha ⊢;by_cases hz:r.2=0
    ·rw[if_pos hz] at h3 h5 h6 ⊢
     rcases ha with q|q|q|⟨q1,q2⟩
     ·omega
     ·omega
     ·omega
     ·rw[if_pos (show r'.2=0 by omega)]
      exact zaq n n' r.1 r'.1 (by omega) q2 (ht hz) (by have a1:=hst.hi (show M.steps+1<=M.budget by omega);have a2:=hst.bu;have a3:r.1.steps<=M.budget:=a1;have a4:r.1.budget=M.budget:=a2;omega) h3 h5 h6
    ·rw[if_neg hz] at h3 h5 h6 ⊢
     rcases ha with q|q|q|⟨q1,q2⟩
     ·exact absurd q h3
     ·exact absurd q h5
     ·exact absurd q h6
     ·rw[if_neg (show¬r'.2=0 by omega)]
      exact⟨q1,q2⟩
theorem MoreR.gr (h:MoreR M M'):grR (qX M')=grR (qX M)/\M'.steps=M.steps:=by
 obtain⟨l,s,u,bu,rfl,_⟩:=h;exact⟨rfl,rfl⟩
end
section
variable {W S W' S':Nat} {l:List jn}
theorem zaF (h:(Z9 (jZ W S) l).2=0) (hw:W<=W'):Z9 (jZ W' S') l=(zo (jZ W' S') l,0):=by
 have hE:=(jsj h).1;have hr:(jz (jZ W S) (jg l:Int)).2=true:=by
  cases hr:(jz {jZ W S with entry:=.I 0,value:=.I 0} ((jg l:Nat):Int)).2 with
  |true=>exact hr
  |false=>rw[jb6 hE hr] at h;cases h
 rw[jbh W S (jg l)] at hr;have hle:jg l<=W:=of_decide_eq_true hr;have e2:=jbh W' S' (jg l);have h2:=jaN (M:=jZ W' S') hE (by
  show(jz (jZ W' S') (jg l:Int)).2=true;rw[e2];exact zqr (show jg l<=W' by omega))
 rw[h2];show(zo (jz (jZ W' S') (jg l:Int)).1 l,(0:Int))=_;rw[e2]
theorem zaI {bu bu' k:Int} {N:RM} (hw:W<=W') (hs:S<=S') (h1:bu<=bu') (h2:bu'<=190000) (hg:Qs 0 (bu.toNat+1) (Jv (zo (jZ W S) l) bu)=(N,k)) (ht:TrR 0 (bu.toNat+1) (Jv (zo (jZ W S) l) bu)) (h3:k≠3) (h5:k≠5) (h6:k≠6):
  ∃N',Qs 0 (bu'.toNat+1) (Jv (zo (jZ W' S') l) bu')=(N',k)/\grR (qX N')=grR (qX N)/\N'.steps=N.steps:=by
 have hm:MoreR (Jv (zo (jZ W S) l) bu) (Jv (zo (jZ W' S') l) bu'):=⟨W',S',_,_,rfl,Int.ofNat_le.2 hw,Int.ofNat_le.2 hs,by show min (max bu 0) 1099511627776<=min (max bu' 0) 1099511627776;omega⟩;have h:=zaq (bu.toNat+1) (bu'.toNat+1) _ _ (by omega) hm ht (by show(0:Int)<=min (max bu 0) 1099511627776;omega) (by rw[hg];exact h3) (by rw[hg];exact h5) (by rw[hg];exact h6);rw[hg] at h;obtain⟨e1,e2⟩:=MoreR.gr h.2;exact⟨_,Prod.ext rfl h.1,e1,e2⟩
end
section
variable {O:Nat->Prop} {w V:World} {g b:Nat} {M:RM} {C:CM} {R:Nat->Value} {vf vs vh:Value} {D:Nat->Prop} {f A:Nat->Nat} {E:List Nat}
theorem zaL (ht:Tabs w) (hb:Below w.heap.size w V) (a:McAt O V g C b R vf vs vh) (hO:∀i,O i->w.heap.size<=i) (s:Sim M C D f A) (u:Usd M E) (id:jfc M) (hS:3<=M.stack) {i:Nat} {o:RObj} (he:M.entry=.P i) (ho:M.objs[i]?=some o) (hk:o.k=5) (stop every:Int) {bu:Int} (b0:0<=bu) (b1:bu<=190000) (e0: -9223372036854775808<=every) (e1:every<=9223372036854775807) {N:RM} {k:Int} (hg:Qs stop (bu.toNat+1) (Jv M bu)=(N,k)):
  Calls prog 19 #[.pointer (some ⟨g,0,none⟩),.int .i64 bu,.int .i64 stop,.int .i64 every] V fun e V'=>e=.returned (.agg #[.int .i64 k,.int .i64 N.steps])/\MEnd (fun i=>O i\/(V.heap.size<=i/\i<V'.heap.size)) V' g b N/\Fr O V V'/\TrR stop (bu.toNat+1) (Jv M bu):=by
 refine(jiJ (O:=fun i=>O i\/V.heap.size<=i) (a.wide fun i hi=>.inl hi) s u id (fun i hi=>.inr hi) (fun Y hY=>ht.below (zqg _) (hb.trans (hY.below hb.size fun i hi=>by
  rcases hi with q|q
  ·exact hO i q
  ·exact zqs hb.size q))) hS he ho hk bu stop every (bu:=bu) (by omega) b1 e0 e1).mono ?_
 rintro e V' ⟨N',k',h1,rfl,⟨C',R',vf',vs',vh',a',fi⟩,hf,htr⟩;rw[hg] at h1;cases h1
 refine⟨rfl,⟨C',R',vf',vs',vh',a'.inn.wide fun i hi=>?_,fi⟩,hf.mono fun i hi=>by
  rcases hi with q|q
  ·exact .inl q
  ·exact .inr q,htr⟩
 rcases hi with⟨q|q,z⟩
 ·exact .inl q
 ·exact .inr ⟨q,z⟩
end
