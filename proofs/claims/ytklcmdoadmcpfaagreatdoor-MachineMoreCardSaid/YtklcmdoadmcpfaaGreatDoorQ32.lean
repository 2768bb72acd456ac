/- A part of the proof of MachineMoves. Conditions: those that each theorem names. -/
import Derived.Test.YtklcmdoadmcpfaaGreatDoorQ31
set_option maxRecDepth 100000
set_option maxHeartbeats 400000000
namespace Go.Proofs.YtklcmdoadmcpfaaGreatDoor
open Go Go.RowKit
open Go.Lib(hid)
open Go.Proofs.Tryz(prog)
structure FrW where
 A:Int
 C:Int
 i:Nat
 j:Nat
 nx:Nat
def jdU (os:List Ob) (f:FrW):List Value:=[.int .i64 f.A,.int .i64 f.C,.int .i64 (f.nx:Int),.int .i64 ((jy os f.i).ws.length:Int)]
def Z8 (os:List Ob) (fs:List FrW):List Value:=fs.flatMap (jdU os)
theorem qD (os:List Ob) (fs:List FrW):(Z8 os fs).length=fs.length*4:=by
 induction fs with
 |nil=>rfl
 |cons f fs ih=>unfold Z8 at ih ⊢;rw[List.flatMap_cons,zqm,ih];simp[jdU];omega
theorem JP (os:List Ob) (ini:List FrW) (f:FrW):Z8 os (ini++[f])=Z8 os ini++jdU os f:=by simp[Z8]
structure jkf (os:List Ob) (h W:Nat) (f:FrW):Prop where
 hi:jl os h W f.A=some f.i
 hj:jl os h W f.C=some f.j
 hl:(jy os f.i).ws.length=(jy os f.j).ws.length
 hn:f.nx<(jy os f.i).ws.length
 hA:f.A<=9223372036854775807
 hC:f.C<=9223372036854775807
def jbu (os:List Ob) (f:FrW):List Nat×List Nat:=((jy os f.i).ws.drop f.nx,(jy os f.j).ws.drop f.nx)
structure Open (X:World) (B:Nat) (os:List Ob) (h W:Nat) (v:Value) (fs:List FrW):Prop where
 row:X.ownsRow B 197 4 v fs.length (Z8 os fs)
 ok:∀f∈fs,jkf os h W f
section
variable {X:World} {B:Nat} {os:List Ob} {h W g cap:Nat} {ini:List FrW} {f:FrW}
section
variable (o:Open X B os h W (.slice (some ⟨g,0,none⟩) (ini.length+1) cap) (ini++[f]))
include o
theorem Open.cell (q:Nat) (hq:q<4):X.cell? ⟨g,ini.length*4+q,none⟩=(jdU os f)[q]?:=by
 have hr:=o.row;rw[JP] at hr;have hl:(ini++[f]).length=ini.length+1:=by simp
 rw[hl] at hr;rw[hr.cellAt _ (by omega),zqn (by rw[qD];omega),qD];congr 1;omega
theorem Open.capLe:ini.length+1<=cap:=by
 rcases o.row.2 with⟨h0,_⟩|⟨g',cap',cur,h0,_,_,h1,_⟩
 ·cases h0
 ·injection h0 with _ _ h0
  have hl:(ini++[f]).length=ini.length+1:=by simp
  omega
theorem Open.fz (q:Nat):X.frozen? ⟨g,q,none⟩=false:=by
 have hr:=o.row;have hl:(ini++[f]).length=ini.length+1:=by simp
 rw[hl] at hr;exact hr.frozenAt q
theorem Open.next (hn:f.nx+1<(jy os f.i).ws.length):Open (X.setCell ⟨g,ini.length*4+2,none⟩ (.int .i64 ((f.nx:Int)+1))) B os h W (.slice (some ⟨g,0,none⟩) (ini.length+1) cap) (ini++[{f with nx:=f.nx+1}]):=by
 have hl:(ini++[f]).length=ini.length+1:=by simp
 have hr:=o.row;rw[hl] at hr;have h1:=(hr.stored (ini.length*4+2) (.int .i64 ((f.nx:Int)+1))).1;refine⟨?_,fun f' hf=>?_⟩
 ·have hl2:(ini++[{f with nx:=f.nx+1}]).length=ini.length+1:=by simp
  rw[hl2];have e:(Z8 os (ini++[f])).set (ini.length*4+2) (.int .i64 ((f.nx:Int)+1))=Z8 os (ini++[{f with nx:=f.nx+1}]):=by
   rw[JP,JP,List.set_append_right _ _ (by rw[qD];omega),qD,show ini.length*4+2-ini.length*4=2 by omega];rfl
  rw[<-e];exact h1
 ·rcases List.mem_append.1 hf with q|q
  ·exact o.ok f' (List.mem_append_left _ q)
  ·obtain rfl:=List.mem_singleton.1 q
   have:=o.ok f (by simp);exact⟨this.hi,this.hj,this.hl,hn,this.hA,this.hC⟩
theorem Open.setc (u:Value):
  (X.setCell ⟨g,ini.length*4+2,none⟩ u).cell? ⟨g,ini.length*4+2,none⟩=some u/\(X.setCell ⟨g,ini.length*4+2,none⟩ u).cell? ⟨g,ini.length*4+3,none⟩=some (.int .i64 ((jy os f.i).ws.length:Int)):=by
 have hl:(ini++[f]).length=ini.length+1:=by simp
 have hr:=o.row;rw[hl] at hr;have h1:=(hr.stored (ini.length*4+2) u).1;have hlen:=qD os (ini++[f]);rw[hl] at hlen;refine⟨?_,?_⟩
 ·rw[h1.cellAt _ (by omega),List.getElem?_set_self (by omega)]
 ·rw[h1.cellAt _ (by omega),List.getElem?_set_ne (by omega),JP,zqn (by rw[qD];omega),qD,show ini.length*4+3-ini.length*4=3 by omega]
  rfl
theorem Open.base:B<=g:=(o.row.lt g rfl).1
theorem Open.popSet (u:Value):Open (X.setCell ⟨g,ini.length*4+2,none⟩ u) B os h W (.slice (some ⟨g,0,none⟩) ini.length cap) ini:=by
 refine⟨?_,fun f' hf=>o.ok f' (List.mem_append_left _ hf)⟩;have hl:(ini++[f]).length=ini.length+1:=by simp
 have hr:=o.row;rw[hl] at hr;have h1:=(hr.stored (ini.length*4+2) u).1;rw[JP,List.set_append_right _ _ (by rw[qD];omega)] at h1;exact ownsRow_pop (qD _ _) h1
end
theorem Open.below {X1:World} {v:Value} {fs:List FrW} (o:Open X B os h W v fs) (hb:Below X.heap.size X X1):Open X1 B os h W v fs:=
 ⟨by
  refine o.row.kept (row:=none) ⟨hb.os,hb.tape,hb.output,hb.size,fun i hi _=>hb.block i hi⟩ ?_;cases hv:v.ownBlock<;>simp,o.ok⟩
theorem joe (o:jkf os h W f):jbu os f=((jy os f.i).ws.getD f.nx 0::(jy os f.i).ws.drop (f.nx+1),(jy os f.j).ws.getD f.nx 0::(jy os f.j).ws.drop (f.nx+1)):=by
 have h1:=o.hn;have h2:f.nx<(jy os f.j).ws.length:=by rw[<-o.hl];exact h1
 unfold jbu;rw[List.drop_eq_getElem_cons h1,List.drop_eq_getElem_cons h2];simp[zqh h1,zqh h2]
section
variable {n:Nat} {res:Nat×Nat} (o:jkf os h W f) (e:ZG (zW os h W) ((ini++[f]).reverse.map (jbu os)) (1,n)=res)
include n res o e
theorem jjr:
  ZG (zW os h W) (if(jy os f.i).ws.drop (f.nx+1)=[] then ini.reverse.map (jbu os) else((jy os f.i).ws.drop (f.nx+1),(jy os f.j).ws.drop (f.nx+1))::ini.reverse.map (jbu os)) (Js (zW os h W) ((jy os f.i).ws.getD f.nx 0) ((jy os f.j).ws.getD f.nx 0) n)=res:=by
 rw[List.reverse_append,List.reverse_singleton,List.singleton_append,List.map_cons,joe o,jes,jkz _ _ _ _ (by simp[o.hl])] at e;exact e
theorem jjs (hn:f.nx+1=(jy os f.i).ws.length):
  ZG (zW os h W) (ini.reverse.map (jbu os)) (Js (zW os h W) ((jy os f.i).ws.getD f.nx 0) ((jy os f.j).ws.getD f.nx 0) n)=res:=by
 have:=jjr o e
 rwa [if_pos (List.drop_eq_nil_of_le (by omega))] at this
theorem jhn (hn:f.nx+1<(jy os f.i).ws.length):
  ZG (zW os h W) ((ini++[{f with nx:=f.nx+1}]).reverse.map (jbu os)) (Js (zW os h W) ((jy os f.i).ws.getD f.nx 0) ((jy os f.j).ws.getD f.nx 0) n)=res:=by
 have:=jjr o e;rw[if_neg (fun q=>by have:=congrArg List.length q;simp at this;omega)] at this;rw[List.reverse_append,List.reverse_singleton,List.singleton_append,List.map_cons];exact this
end
end
theorem jvk {w:World} {B n:Nat} {e:TypeId} {v:Value} {xs:List Value} (h:w.ownsRow B e 4 v n xs):w.ownsRow 0 e 4 v n xs:=by
 refine⟨h.1,?_⟩;rcases h.2 with h0|⟨g,cap,cur,h1,h2,h3⟩
 ·exact .inl h0
 ·exact .inr ⟨g,cap,cur,h1,Nat.zero_le _,h3⟩
theorem jnV {X:World} {B:Nat} {os:List Ob} {h W n:Nat} {va:Option Addr} {vc:Nat} {fs:List FrW} (o:Open X B os h W (.slice va (n+1) vc) fs):∃g cap,Value.slice va (n+1) vc=.slice (some ⟨g,0,none⟩) (n+1) cap:=by
 rcases o.row.2 with⟨h0,_⟩|⟨g',cap',cur,h0,_,_,h1,_⟩
 ·injection h0 with _ h0 _;omega
 ·injection h0 with h1 h2 h3
  exact⟨g',cap',by rw[h1,h3]⟩
theorem jbm {W h:Nat} {now old:List Ob} (z:WF W h now old) {i k x:Nat} (hx:(jy now i).ws.getD k 0=x):x<18446744073709551616:=by
 subst hx;by_cases hi:i<now.length
 ·have ho:=(jfx hi)
  by_cases hk:k<(jy now i).ws.length
  ·have:=(z.okn _ (zqc ho)).word ((jy now i).ws.getD k 0) (by
    rw[zqi,zqh hk];exact List.getElem_mem hk)
   exact this
  ·rw[zqi,List.getElem?_eq_none (by omega)];decide
 ·have:jy now i=⟨0,0,[],0⟩:=by unfold jy;rw[List.getElem?_eq_none (by omega)];rfl
  rw[this];simp
theorem jnl {W h:Nat} {now old:List Ob} (z:WF W h now old) {i:Nat}:(jy now i).ws.length<=16384:=by
 by_cases hi:i<now.length
 ·obtain⟨_,_,_,h1,_,_⟩:=zR (z.okn _ (zqc (jfx hi))).right
  omega
 ·have:jy now i=⟨0,0,[],0⟩:=by unfold jy;rw[List.getElem?_eq_none (by omega)];rfl
  rw[this];simp
theorem jtr {W h i:Nat} {now old:List Ob} {a:Int} (z:WF W h now old) (hi:jl now h W a=some i) (h1:Qt (jy now i).k=false):0<(jy now i).ws.length:=by
 have hr:=(z.okn _ (zqc (zO hi))).right;unfold qw at hr;have hr:=of_decide_eq_true hr;unfold Qt at h1;simp at h1;omega
theorem jpD:(prog.info? 197).map (fun i=>(i.zero,i.size,i.bytes))=some (some (.agg #[.int .i64 0,.int .i64 0,.int .i64 0,.int .i64 0]),4,32):=by kernel_rfl
theorem jkq (w:World) (a b c d:Value) (t:TypeId) (g:Nat) (hg:w.heap.size=g):∀j u,[a,b,c,d][j]?=some u->(w.alloc (.cells #[a,b,c,d] t)).cell? ((⟨g,0,none⟩:Addr).add j)=some u:=by
 subst hg;exact jmC w [a,b,c,d] t
def jkj (M:Nat) (r:Nat×Nat):Int×Int×Int:=if r.1=4 then(0,0,40) else((r.1:Int),((M-r.2:Nat):Int),0)
def jmg (now:List Ob) (h W a c:Nat) (most:Int) (w:World) (e:Ending) (w':World):Prop:=
 e=.returned (.tuple #[.int .i64 (jkj most.toNat (Js (zW now h W) a c most.toNat)).1,.int .i64 (jkj most.toNat (Js (zW now h W) a c most.toNat)).2.1,.int .i64 (jkj most.toNat (Js (zW now h W) a c most.toNat)).2.2])/\Below w.heap.size w w'
theorem jnq {os:List Ob} {h W a c k:Nat} (e:zW os h W a c=.inl k):k=0\/k=1\/k=2\/k=4:=by
 unfold zW at e;repeat' split at e
 all_goals first|(injection e with e;subst e;first|simp|(split<;>simp))|cases e
theorem jow {w:World} {b W h:Nat} {now old:List Ob} {R:Nat->Value} (m:zi w b W h R now old) (z:WF W h now old) (a0 c0:Nat) (ha0:a0<18446744073709551616) (hc0:c0<18446744073709551616) (most:Int) (hm0: -9223372036854775808<=most) (hm1:most<=200000):
  Calls prog 92 #[.pointer (some ⟨b,0,none⟩),.int .u64 (a0:Int),.int .u64 (c0:Int),.int .i64 most] w (jmg now h W a0 c0 most w):=by
 obtain⟨i0,hi0,hz0,hz1,hz2⟩:=info_parts jpD;obtain⟨res,hres⟩:∃res,Js (zW now h W) a0 c0 most.toNat=res:=⟨_,rfl⟩;unfold jmg;rw[hres];obtain⟨M,hM⟩:∃M,most.toNat=M:=⟨_,rfl⟩;rw[hM] at hres ⊢;have hMm:most<=M:=by omega
 have hM2:M<=200000:=by omega
 have HMM0:=hid (show(M:Int)<=most\/M=0 by omega);have HRES0:=hid hres;have HM:=hid m;have HZ:=hid z;clear hres hM m z;go_enter Tryz.func92,Tryz.ntmps92;go_wp2_with fail;go_step3;go_wp2_with fail;go_step3;go_wp2_with fail;go_loopw [1,2,11,12,13] (fun p q o k s wr=>∃(a c s':Nat) (fs:List FrW),p=.int .u64 (a:Int)/\q=.int .u64 (c:Int)/\k=.int .i64 1/\s=.int .i64 (s':Int)/\a<18446744073709551616/\c<18446744073709551616/\s'<=M/\fs.length<=s'/\Open wr w.heap.size now h W o fs/\Below w.heap.size w wr/\ZG (zW now h W) (fs.reverse.map (jbu now)) (Js (zW now h W) a c (M-s'))=res) (fun _ _ _ _ s _=>M+1-(intOf s).toNat)
 case atStart=>exact⟨a0,c0,0,[],rfl,rfl,rfl,rfl,ha0,hc0,Nat.zero_le _,zqg _,⟨World.ownsRow_nil _ _ _ _,by simp⟩,Below.refl _ _,HRES0.out⟩
 case round=>
  obtain⟨a,c,s',fs,rfl,rfl,rfl,rfl,ha,hc,hs,hfl,hop,hb,hcon⟩:=hrel;have HB:=hid hb;have HOP:=hid hop;have HCON:=hid hcon;clear hb hop hcon;by_cases hge:most<=s'
  ·have hd:decide (most<=(s':Int))=true:=zqr hge
   have hsm:s'=M:=by have:=HMM0.out;omega
   have hr:res=(3,0):=by
    have:=HCON.out;rw[hsm,Nat.sub_self,jlP,ZQ (by simp)] at this;exact this.symm
   have HR:=hid hr;have HSM:=hid hsm;clear hr hsm;go_wp2_with fail;simp only[Exit.noGoto];go_ret3;exact⟨by rw[HR.out,HSM.out];rfl,HB.out⟩
  have hd:decide (most<=(s':Int))=false:=zqq hge;obtain⟨n,hn⟩:∃n,M-s'=n+1:=⟨M-s'-1,by omega⟩;have hlk:=jp0 (HM.out.below HB.out) HZ.out a c ha hc;have hcon:=HCON.out;rw[hn,jlO] at hcon;have hle:s'+1<=M:=by omega
  have hnM:M-(s'+1)=n:=by omega
  have HNM:=hid hnM;clear hn hnM;obtain⟨va,vc,rfl,_,_⟩:=jcj (jvk HOP.out.row);cases el:zW now h W a c with
  |inl k=>
   rw[el] at hcon hlk;simp only at hcon;by_cases hk4:k=4
   ·subst hk4
    rw[ZQ (by simp)] at hcon;have HR:=hid hcon;have HLK:=hid (show Calls _ _ _ _ (fun e w'=>e=.returned (.tuple #[.int .i64 0,.int .i64 0,.int .i64 40])/\∃n,w'=wr.drewN n) from hlk);clear hcon hlk el;go_wp2_with fail;refine(HLK.out).mono ?_;rintro e w1 ⟨rfl,q1,hw1⟩;have HB1:=hid (show Below w.heap.size w w1 from by rw[hw1];exact Below.drewN' HB.out q1);clear hw1;go_wp2_with fail;simp only[Exit.noGoto];go_ret3;exact⟨by rw[<-HR.out];rfl,HB1.out⟩
   by_cases hk1:k=1
   ·subst hk1
    have hlk':Calls prog 123 #[.pointer (some ⟨b,0,none⟩),.int .u64 (a:Int),.int .u64 (c:Int)] wr (fun e w'=>e=.returned (.tuple #[.int .i64 1,.int .i64 0,.int .i64 0])/\∃n,w'=wr.drewN n):=hlk;have HLK:=hid hlk';have HRES:=hid hcon;clear hcon hlk hlk' el;rcases List.eq_nil_or_concat fs with rfl|⟨ini,f,rfl⟩
    ·have hr:(1,n)=res:=HRES.out
     have HR:=hid hr;clear hr;go_wp2_with fail;refine(HLK.out).mono ?_;rintro e w1 ⟨rfl,q1,hw1⟩;have HB1:=hid (show Below w.heap.size w w1 from by rw[hw1];exact Below.drewN' HB.out q1);clear hw1;go_wp2_with fail;simp only[Exit.noGoto];go_ret3;exact⟨by rw[<-HR.out,<-HNM.out];show _=Ending.returned (.tuple #[.int .i64 1,.int .i64 ((M-(M-(s'+1)):Nat):Int),.int .i64 0]);rw[show M-(M-(s'+1))=s'+1 by omega];rfl,HB1.out⟩
    ·have hlen:(ini++[f]).length=ini.length+1:=by simp
     rw[List.concat_eq_append] at HOP HRES HCON hfl ⊢;rw[hlen] at HOP ⊢;have hfl2:ini.length+1<=s':=by rw[hlen] at hfl;exact hfl
     have HLEN:=hid (show ini.length+1<=200000 by omega);have HFL:=hid hfl2;have hvs:=jnV HOP.out;obtain⟨g,cap,hva⟩:=hvs;injection hva with hva _ hvc;subst hva hvc;clear hlen hfl hfl2;go_wp2_with fail;refine(HLK.out).mono ?_;rintro e w1 ⟨rfl,q1,hw1⟩;have HBX:=hid (show Below w.heap.size w w1 from by rw[hw1];exact Below.drewN' HB.out q1);have HOPX:=hid (show Open w1 w.heap.size now h W (.slice (some ⟨g,0,none⟩) (ini.length+1) vc) (ini++[f]) from HOP.out.below (by rw[hw1];exact Below.drewN' (Below.refl _ _) q1));clear HOP hw1;have HOP:=HOPX;clear HOPX;obtain⟨cap,hcap⟩:∃cap,vc=cap:=⟨_,rfl⟩;subst hcap;obtain⟨X,hX⟩:∃X,w1=X:=⟨_,rfl⟩;subst hX;have hfo:=HOP.out.ok f (by simp);obtain⟨A1,hA1⟩:∃A1,f.A=A1:=⟨_,rfl⟩;obtain⟨C1,hC1⟩:∃C1,f.C=C1:=⟨_,rfl⟩;obtain⟨nx,hnx⟩:∃nx,f.nx=nx:=⟨_,rfl⟩;obtain⟨sz,hsz⟩:∃sz,(jy now f.i).ws.length=sz:=⟨_,rfl⟩;have hfa:=fun q=>Zi (((HM.out.below HBX.out)).drewN q) HZ.out f.A f.nx hfo.hA hfo.hi (zO hfo.hi) hfo.hn;have hfc:=fun q=>Zi (((HM.out.below HBX.out)).drewN q) HZ.out f.C f.nx hfo.hC hfo.hj (zO hfo.hj) (by rw[<-hfo.hl];exact hfo.hn);obtain⟨x,hx⟩:∃x,(jy now f.i).ws.getD f.nx 0=x:=⟨_,rfl⟩;obtain⟨y,hy⟩:∃y,(jy now f.j).ws.getD f.nx 0=y:=⟨_,rfl⟩;rw[hx,hA1,hnx] at hfa;rw[hy,hC1,hnx] at hfc;have HFA:=hid hfa;have HFC:=hid hfc;have hx64:=jbm HZ.out hx;have hy64:=jbm HZ.out hy;have d0:=HOP.out.cell 0 (by decide);have d1:=HOP.out.cell 1 (by decide);have d2:=HOP.out.cell 2 (by decide);have d3:=HOP.out.cell 3 (by decide);have dz:=HOP.out.fz (ini.length*4+2);simp only[jdU,List.getElem?_cons_zero,List.getElem?_cons_succ,hA1,hC1,hnx,hsz,Nat.add_zero] at d0 d1 d2 d3;have hszb:sz<=16384:=by have:=jnl HZ.out (i:=f.i);omega
     have hnb:nx<sz:=by have:=hfo.hn;omega
     have HPOP:=hid (jjs (n:=n) hfo HRES.out);have HKEEP:=hid (jhn (n:=n) hfo HRES.out);rw[hx,hy] at HPOP HKEEP;rw[hnx,hsz] at HPOP HKEEP;have HEQ:=hid (zqf hnx (zqf hsz (zqf hx hy)));obtain⟨mm,hmm⟩:∃mm,ini.length=mm:=⟨_,rfl⟩;have hcap:mm+1<=vc:=by have:=HOP.out.capLe;rw[hmm] at this;exact this
     rw[hmm] at d0 d1 d2 d3 dz;have HMM:=hid hmm;rw[hmm];have hmb:mm<=300000:=by have:=HLEN.out;rw[hmm] at this;omega
     have hm0:(0:Int)<=mm:=by omega
     have hm1:(mm:Int)<(mm:Int)+1:=by omega
     have hmw:IntKind.i64.wrap ((mm:Int)+1-1)=(mm:Int):=by rw[IntKind.wrap_i64];omega
     clear hfo hA1 hC1 hnx hsz hfa hfc hx hy hmm;go_wp2_with fail;go_quiet ((first|(go_at_call 124;with_reducible exact Calls.quiet_of (HFA.out _))|(go_at_call 124;with_reducible exact Calls.quiet_of (HFC.out _))));have d2':(w1.drewN nq).cell? ⟨g,mm*4+2,none⟩=some (.int .i64 (nx:Int)):=d2;have dz':(w1.drewN nq).frozen? ⟨g,mm*4+2,none⟩=false:=dz;go_wp2_with fail;have hY2:((w1.drewN nq).setCell ⟨g,mm*4+2,none⟩ (.int .i64 ((nx:Int)+1))).cell? ⟨g,mm*4+2,none⟩=some (.int .i64 ((nx:Int)+1)):=by
      have:=(HOP.out.setc (.int .i64 ((nx:Int)+1))).1;rw[HMM.out] at this;exact this
     have hY3:((w1.drewN nq).setCell ⟨g,mm*4+2,none⟩ (.int .i64 ((nx:Int)+1))).cell? ⟨g,mm*4+3,none⟩=some (.int .i64 (sz:Int)):=by
      have:=(HOP.out.setc (.int .i64 ((nx:Int)+1))).2;rw[HMM.out,HEQ.out.2.1] at this;exact this
     have HBY:=hid (show Below w.heap.size w ((w1.drewN nq).setCell ⟨g,mm*4+2,none⟩ (.int .i64 ((nx:Int)+1))) from(Below.drewN' HBX.out nq).setCell (p:=⟨g,mm*4+2,none⟩) HOP.out.base _);have HPOPY:=hid (show Open ((w1.drewN nq).setCell ⟨g,mm*4+2,none⟩ (.int .i64 ((nx:Int)+1))) w.heap.size now h W (.slice (some ⟨g,0,none⟩) mm vc) ini from by
      have:=(HOP.out.below (Below.drewN' (Below.refl _ _) nq)).popSet (.int .i64 ((nx:Int)+1));rw[HMM.out] at this;exact this)
     have HNEXT:=hid (show nx+1<sz->Open ((w1.drewN nq).setCell ⟨g,mm*4+2,none⟩ (.int .i64 ((nx:Int)+1))) w.heap.size now h W (.slice (some ⟨g,0,none⟩) (mm+1) vc) (ini++[{f with nx:=f.nx+1}]) from fun q=>by
      have:=(HOP.out.below (Below.drewN' (Below.refl _ _) nq)).next (by rw[HEQ.out.1,HEQ.out.2.1];exact q);rw[HMM.out,HEQ.out.1] at this;rw[HEQ.out.1];exact this)
     obtain⟨Y,hY⟩:∃Y,((w1.drewN nq).setCell ⟨g,mm*4+2,none⟩ (.int .i64 ((nx:Int)+1)))=Y:=⟨_,rfl⟩;rw[hY] at hY2 hY3 HBY HPOPY HNEXT ⊢;clear hY d0 d1 d2 d3 dz d2' dz' hmw;by_cases hend:nx+1=sz
     ·have hendB:((nx:Int)+1==(sz:Int))=true:=by simp;omega
      have HEND:=hid hend;have hmw:IntKind.i64.wrap ((mm:Int)+1-1)=(mm:Int):=by rw[IntKind.wrap_i64];omega
      have hmc:(mm:Int)<=vc:=by omega
      clear hend;go_quiet (fail);go_wp2_with fail;go_roundw
      case rel=>exact⟨x,y,s'+1,ini,rfl,rfl,rfl,by go_num,hx64,hy64,hle,by have:=HFL.out;omega,HPOPY.out.below (Below.drewN' (Below.refl _ _) _),Below.drewN' HBY.out _,by rw[HNM.out];exact HPOP.out HEND.out⟩
      case measure=>simp[intOf];omega
     ·have hendB:((nx:Int)+1==(sz:Int))=false:=by simp;omega
      have hend2:nx+1<sz:=by omega
      go_quiet (fail);go_wp2_with fail;go_roundw
      case rel=>exact⟨x,y,s'+1,ini++[{f with nx:=f.nx+1}],rfl,rfl,rfl,by go_num,hx64,hy64,hle,by have:=HFL.out;simp;omega,(HNEXT.out hend2).below (Below.drewN' (Below.refl _ _) _),Below.drewN' HBY.out _,by rw[HNM.out];have:=HKEEP.out hend2;rw[<-HEQ.out.1] at this;exact this⟩
      case measure=>simp[intOf];omega
   have hk02:k=0\/k=2:=by rcases jnq el with q|q|q|q<;>omega
   rw[ZQ (by simpa using hk1)] at hcon;have HR:=hid hcon;clear hcon el hk4 hk1;rcases hk02 with rfl|rfl
   ·have HLK:=hid (show Calls _ _ _ _ (fun e w'=>e=.returned (.tuple #[.int .i64 0,.int .i64 0,.int .i64 0])/\∃n,w'=wr.drewN n) from hlk)
    clear hlk;go_wp2_with fail;refine(HLK.out).mono ?_;rintro e w1 ⟨rfl,q1,hw1⟩;have HB1:=hid (show Below w.heap.size w w1 from by rw[hw1];exact Below.drewN' HB.out q1);clear hw1;go_wp2_with fail;simp only[Exit.noGoto];go_ret3;exact⟨by rw[<-HR.out,<-HNM.out];show _=Ending.returned (.tuple #[.int .i64 0,.int .i64 ((M-(M-(s'+1)):Nat):Int),.int .i64 0]);rw[show M-(M-(s'+1))=s'+1 by omega];rfl,HB1.out⟩
   ·have HLK:=hid (show Calls _ _ _ _ (fun e w'=>e=.returned (.tuple #[.int .i64 2,.int .i64 0,.int .i64 0])/\∃n,w'=wr.drewN n) from hlk)
    clear hlk;go_wp2_with fail;refine(HLK.out).mono ?_;rintro e w1 ⟨rfl,q1,hw1⟩;have HB1:=hid (show Below w.heap.size w w1 from by rw[hw1];exact Below.drewN' HB.out q1);clear hw1;go_wp2_with fail;simp only[Exit.noGoto];go_ret3;exact⟨by rw[<-HR.out,<-HNM.out];show _=Ending.returned (.tuple #[.int .i64 2,.int .i64 ((M-(M-(s'+1)):Nat):Int),.int .i64 0]);rw[show M-(M-(s'+1))=s'+1 by omega];rfl,HB1.out⟩
  |inr p=>
   obtain⟨i,j,hi,hj,rfl,hll,_,hc1,hc2,hc4⟩:=jhZ el;rw[el] at hcon hlk;simp only at hcon;have hsz1:=jtr HZ.out hi hc1;obtain⟨f0,hf0⟩:∃f0,f0=(⟨jc (a:Int),jc (c:Int),i,j,0⟩:FrW):=⟨_,rfl⟩;have hpa:jc (a:Int)<=1099511627776:=by unfold jc;split<;>omega
   have hpc:jc (c:Int)<=1099511627776:=by unfold jc;split<;>omega
   have hfo:jkf now h W f0:=by rw[hf0];exact⟨hi,hj,hll,hsz1,by show jc (a:Int)<=_;omega,by show jc (c:Int)<=_;omega⟩
   have HTA:=hid (fun W1:World=>show Calls _ _ _ W1 (fun e w'=>e=.returned (.int .i64 (jc (a:Int)))/\w'=W1) from(jQ (a:Int) W1 (by omega) (by omega)).mono fun e w' ⟨h1,h2⟩=>⟨h1,h2.symm⟩);have HTC:=hid (fun W1:World=>show Calls _ _ _ W1 (fun e w'=>e=.returned (.int .i64 (jc (c:Int)))/\w'=W1) from(jQ (c:Int) W1 (by omega) (by omega)).mono fun e w' ⟨h1,h2⟩=>⟨h1,h2.symm⟩);have hfc0:jdU now f0=[.int .i64 (jc (a:Int)),.int .i64 (jc (c:Int)),.int .i64 0,.int .i64 ((jy now i).ws.length:Int)]:=by rw[hf0];rfl
   have hre0:jbu now f0=((jy now i).ws,(jy now j).ws):=by rw[hf0];rfl
   have HRES:=hid (show ZG (zW now h W) ((fs++[f0]).reverse.map (jbu now)) (1,n)=res from by
    rw[List.reverse_append,List.reverse_singleton,List.singleton_append,List.map_cons,hre0,jes];exact hcon)
   have hlk':Calls prog 123 #[.pointer (some ⟨b,0,none⟩),.int .u64 (a:Int),.int .u64 (c:Int)] wr (fun e w'=>e=.returned (.tuple #[.int .i64 (-1),.int .i64 ((jy now i).ws.length:Int),.int .i64 0])/\∃n,w'=wr.drewN n):=hlk;obtain⟨A0,hA0⟩:∃A0,jc (a:Int)=A0:=⟨_,rfl⟩;obtain⟨C0,hC0⟩:∃C0,jc (c:Int)=C0:=⟨_,rfl⟩;obtain⟨Z0,hZ0⟩:∃Z0,(jy now i).ws.length=Z0:=⟨_,rfl⟩;rw[hA0] at HTA hfc0;rw[hC0] at HTC hfc0;rw[hZ0] at hlk' hfc0;have HLK:=hid hlk';have HFC0:=hid hfc0;have HFO:=hid hfo;obtain⟨N,hN⟩:∃N,fs.length=N:=⟨_,rfl⟩;have HLN:=hid hN;have hNb:N<=200000:=by omega
   have HFL:=hid (show fs.length<=s' by exact hfl);have HLEN:=hid (show fs.length+1<=200001 by omega);rw[hN] at HOP ⊢;clear hi hj hll hc1 hc2 hc4 el hcon hlk hlk' hsz1 hf0 hpa hpc hfo hfc0 hre0 hA0 hC0 hZ0 hfl hN;go_wp2_with fail;refine(HLK.out).mono ?_;rintro e w1 ⟨rfl,q1,hw1⟩;have HB1:=hid (show Below w.heap.size w w1 from by rw[hw1];exact Below.drewN' HB.out q1);have HOP1:=hid (show Open w1 w.heap.size now h W (.slice va N vc) fs from HOP.out.below (by rw[hw1];exact Below.drewN' (Below.refl _ _) q1));have hrow1:=HOP1.out.row;rw[HLN.out] at hrow1;have HROW1:=hid hrow1;have hs1:=HB1.out.size;clear hw1 hrow1;go_wp2_with fail;refine(HTA.out _).mono ?_;rintro e w1 ⟨rfl,hw1⟩;subst w1;go_wp2_with fail;refine(HTC.out _).mono ?_;rintro e w1 ⟨rfl,hw1⟩;subst w1;go_wp2_with (at_builtin;refine wpList_append_own_at _ rfl _ _ 194 rfl w.heap.size 197 i0 (.agg #[.int .i64 0,.int .i64 0,.int .i64 0,.int .i64 0]) 4 32 Tryz.underlying194 hi0 hz0 hz1 hz2 rfl (by decide) (.slice va N vc) _ _ rfl (HROW1.out.alloc _) ⟨w1.heap.size,0,none⟩ 1 1 [.int .i64 A0,.int .i64 C0,.int .i64 0,.int .i64 (Z0:Int)] rfl rfl (jkq w1 _ _ _ _ _ _ rfl) (by simp[Value.oneCell']) (by unfold maxLen;omega) (by omega) (by simp;omega) ?_;intro v7 w7 hown7 hgrow7 _ hblk7;rw[<-HFC0.out,<-JP] at hown7;have HO7:=hid hown7;have HB7:=hid ((HB1.out.alloc HB1.out.size _).grown hgrow7 (by simp;omega) (fun j hj=>(HROW1.out.lt j hj).1));clear hown7 hgrow7 hblk7);obtain⟨g,cap,rfl⟩:=ownsRow_succ HO7.out;have hN:=HLN.out;subst hN;have HOPX:=hid (show Open w7 w.heap.size now h W (.slice (some ⟨g,0,none⟩) (fs.length+1) cap) (fs++[f0]) from⟨by rw[show(fs++[f0]).length=fs.length+1 by simp];exact HO7.out,fun f hf=>by
    rcases List.mem_append.1 hf with q|q
    ·exact HOP.out.ok f q
    ·rw[List.mem_singleton.1 q];exact HFO.out⟩)
   clear HOP HOP1 HROW1;have HOP:=HOPX;have HBX:=HB7;clear HOPX HCON HTA HTC HLK HFC0;have hfo:=HOP.out.ok f0 (by simp);obtain⟨A1,hA1⟩:∃A1,f0.A=A1:=⟨_,rfl⟩;obtain⟨C1,hC1⟩:∃C1,f0.C=C1:=⟨_,rfl⟩;obtain⟨nx,hnx⟩:∃nx,f0.nx=nx:=⟨_,rfl⟩;obtain⟨sz,hsz⟩:∃sz,(jy now f0.i).ws.length=sz:=⟨_,rfl⟩;have hfa:=fun q=>Zi (((HM.out.below HBX.out)).drewN q) HZ.out f0.A f0.nx hfo.hA hfo.hi (zO hfo.hi) hfo.hn;have hfc:=fun q=>Zi (((HM.out.below HBX.out)).drewN q) HZ.out f0.C f0.nx hfo.hC hfo.hj (zO hfo.hj) (by rw[<-hfo.hl];exact hfo.hn);obtain⟨x,hx⟩:∃x,(jy now f0.i).ws.getD f0.nx 0=x:=⟨_,rfl⟩;obtain⟨y,hy⟩:∃y,(jy now f0.j).ws.getD f0.nx 0=y:=⟨_,rfl⟩;rw[hx,hA1,hnx] at hfa;rw[hy,hC1,hnx] at hfc;have HFA:=hid hfa;have HFC:=hid hfc;have hx64:=jbm HZ.out hx;have hy64:=jbm HZ.out hy;have d0:=HOP.out.cell 0 (by decide);have d1:=HOP.out.cell 1 (by decide);have d2:=HOP.out.cell 2 (by decide);have d3:=HOP.out.cell 3 (by decide);have dz:=HOP.out.fz (fs.length*4+2);simp only[jdU,List.getElem?_cons_zero,List.getElem?_cons_succ,hA1,hC1,hnx,hsz,Nat.add_zero] at d0 d1 d2 d3;have hszb:sz<=16384:=by have:=jnl HZ.out (i:=f0.i);omega
   have hnb:nx<sz:=by have:=hfo.hn;omega
   have HPOP:=hid (jjs (n:=n) hfo HRES.out);have HKEEP:=hid (jhn (n:=n) hfo HRES.out);rw[hx,hy] at HPOP HKEEP;rw[hnx,hsz] at HPOP HKEEP;have HEQ:=hid (zqf hnx (zqf hsz (zqf hx hy)));obtain⟨mm,hmm⟩:∃mm,fs.length=mm:=⟨_,rfl⟩;have hcap:mm+1<=cap:=by have:=HOP.out.capLe;rw[hmm] at this;exact this
   rw[hmm] at d0 d1 d2 d3 dz;have HMM:=hid hmm;rw[hmm];have hmb:mm<=300000:=by have:=HLEN.out;rw[hmm] at this;omega
   have hm0:(0:Int)<=mm:=by omega
   have hm1:(mm:Int)<(mm:Int)+1:=by omega
   have hmw:IntKind.i64.wrap ((mm:Int)+1-1)=(mm:Int):=by rw[IntKind.wrap_i64];omega
   clear hfo hA1 hC1 hnx hsz hfa hfc hx hy hmm;go_wp2_with fail;go_quiet ((first|(go_at_call 124;with_reducible exact Calls.quiet_of (HFA.out _))|(go_at_call 124;with_reducible exact Calls.quiet_of (HFC.out _))));have d2':(w7.drewN nq).cell? ⟨g,mm*4+2,none⟩=some (.int .i64 (nx:Int)):=d2;have dz':(w7.drewN nq).frozen? ⟨g,mm*4+2,none⟩=false:=dz;go_wp2_with fail;have hY2:((w7.drewN nq).setCell ⟨g,mm*4+2,none⟩ (.int .i64 ((nx:Int)+1))).cell? ⟨g,mm*4+2,none⟩=some (.int .i64 ((nx:Int)+1)):=by
    have:=(HOP.out.setc (.int .i64 ((nx:Int)+1))).1;rw[HMM.out] at this;exact this
   have hY3:((w7.drewN nq).setCell ⟨g,mm*4+2,none⟩ (.int .i64 ((nx:Int)+1))).cell? ⟨g,mm*4+3,none⟩=some (.int .i64 (sz:Int)):=by
    have:=(HOP.out.setc (.int .i64 ((nx:Int)+1))).2;rw[HMM.out,HEQ.out.2.1] at this;exact this
   have HBY:=hid (show Below w.heap.size w ((w7.drewN nq).setCell ⟨g,mm*4+2,none⟩ (.int .i64 ((nx:Int)+1))) from(Below.drewN' HBX.out nq).setCell (p:=⟨g,mm*4+2,none⟩) HOP.out.base _);have HPOPY:=hid (show Open ((w7.drewN nq).setCell ⟨g,mm*4+2,none⟩ (.int .i64 ((nx:Int)+1))) w.heap.size now h W (.slice (some ⟨g,0,none⟩) mm cap) fs from by
    have:=(HOP.out.below (Below.drewN' (Below.refl _ _) nq)).popSet (.int .i64 ((nx:Int)+1));rw[HMM.out] at this;exact this)
   have HNEXT:=hid (show nx+1<sz->Open ((w7.drewN nq).setCell ⟨g,mm*4+2,none⟩ (.int .i64 ((nx:Int)+1))) w.heap.size now h W (.slice (some ⟨g,0,none⟩) (mm+1) cap) (fs++[{f0 with nx:=f0.nx+1}]) from fun q=>by
    have:=(HOP.out.below (Below.drewN' (Below.refl _ _) nq)).next (by rw[HEQ.out.1,HEQ.out.2.1];exact q);rw[HMM.out,HEQ.out.1] at this;rw[HEQ.out.1];exact this)
   obtain⟨Y,hY⟩:∃Y,((w7.drewN nq).setCell ⟨g,mm*4+2,none⟩ (.int .i64 ((nx:Int)+1)))=Y:=⟨_,rfl⟩;rw[hY] at hY2 hY3 HBY HPOPY HNEXT ⊢;clear hY d0 d1 d2 d3 dz d2' dz' hmw;by_cases hend:nx+1=sz
   ·have hendB:((nx:Int)+1==(sz:Int))=true:=by simp;omega
    have HEND:=hid hend;have hmw:IntKind.i64.wrap ((mm:Int)+1-1)=(mm:Int):=by rw[IntKind.wrap_i64];omega
    have hmc:(mm:Int)<=cap:=by omega
    clear hend;go_quiet (fail);go_wp2_with fail;go_roundw
    case rel=>exact⟨x,y,s'+1,fs,rfl,rfl,rfl,by go_num,hx64,hy64,hle,by have:=HFL.out;omega,HPOPY.out.below (Below.drewN' (Below.refl _ _) _),Below.drewN' HBY.out _,by rw[HNM.out];exact HPOP.out HEND.out⟩
    case measure=>simp[intOf];omega
   ·have hendB:((nx:Int)+1==(sz:Int))=false:=by simp;omega
    have hend2:nx+1<sz:=by omega
    go_quiet (fail);go_wp2_with fail;go_roundw
    case rel=>exact⟨x,y,s'+1,fs++[{f0 with nx:=f0.nx+1}],rfl,rfl,rfl,by go_num,hx64,hy64,hle,by have:=HFL.out;simp;omega,(HNEXT.out hend2).below (Below.drewN' (Below.refl _ _) _),Below.drewN' HBY.out _,by rw[HNM.out];have:=HKEEP.out hend2;rw[<-HEQ.out.1] at this;exact this⟩
    case measure=>simp[intOf];omega
section
open Go Go.RowKit IsaL
section
variable {α:Type}
def Zj (f:α->α->Nat->Nat×Nat):List α->List α->Nat->Nat×Nat
 |x::xs,y::ys,left=>if(f x y left).1=1 then Zj f xs ys (f x y left).2 else f x y left
 |[],_,left=>(1,left)
 |_::_,[],left=>(1,left)
def ZK (L:α->α->Nat⊕(List α×List α)):Nat->α->α->Nat->Nat×Nat
 |0,_,_,_=>(3,0)
 |fuel+1,a,c,left=>if left=0 then(3,0) else match L a c with
  | .inl k=>(k,left-1)
  | .inr p=>Zj (ZK L fuel) p.1 p.2 (left-1)
def jt9 (φ:α->Nat):Nat⊕(List α×List α)->Nat⊕(List Nat×List Nat)
 | .inl k=>.inl k
 | .inr p=>.inr (p.1.map φ,p.2.map φ)
theorem jeB {φ:α->Nat} {S:α->Prop} {f:α->α->Nat->Nat×Nat} {f':Nat->Nat->Nat->Nat×Nat} (h:∀a b l,S a->S b->f' (φ a) (φ b) l=f a b l):∀(xs ys:List α) (l:Nat),(∀x∈xs,S x)->(∀y∈ys,S y)->qK f' (xs.map φ) (ys.map φ) l=Zj f xs ys l
 |x::xs,y::ys,l,hx,hy=>by
  have e:=h x y l (hx x (by simp)) (hy y (by simp));show(if(f' (φ x) (φ y) l).1=1 then qK f' (xs.map φ) (ys.map φ) (f' (φ x) (φ y) l).2 else f' (φ x) (φ y) l)=if(f x y l).1=1 then Zj f xs ys (f x y l).2 else f x y l;rw[e,jeB h xs ys _ (fun z hz=>hx z (List.mem_cons_of_mem _ hz)) (fun z hz=>hy z (List.mem_cons_of_mem _ hz))]
 |[],[],l,_,_=>rfl
 |[],_::_,l,_,_=>rfl
 |_::_,[],l,_,_=>rfl
theorem jiL {φ:α->Nat} {S:α->Prop} {L:α->α->Nat⊕(List α×List α)} {L':Nat->Nat->Nat⊕(List Nat×List Nat)} (hL:∀a b,S a->S b->L' (φ a) (φ b)=jt9 φ (L a b)/\∀p,L a b=.inr p->(∀x∈p.1,S x)/\∀x∈p.2,S x):∀(n:Nat) (a b:α) (l:Nat),S a->S b->ZJ L' n (φ a) (φ b) l=ZK L n a b l
 |0,_,_,_,_,_=>rfl
 |n+1,a,b,l,ha,hb=>by
  obtain⟨h1,h2⟩:=hL a b ha hb;unfold ZJ ZK;rw[h1];split
  ·rfl
  ·cases e:L a b with
   |inl k=>rfl
   |inr p=>
    obtain⟨q1,q2⟩:=h2 p e;exact jeB (fun x y l' hx hy=>jiL hL n x y l' hx hy) p.1 p.2 _ q1 q2
end
def clR (k:Nat):Bool:=k==3||k==5
def Zo (M:RM):RWd->RWd->Nat⊕(List RWd×List RWd)
 | .P i,.P j=>
   if clR (jo M (.P i)).k=true\/clR (jo M (.P j)).k=true then .inl 2
   else if(jo M (.P i)).k≠(jo M (.P j)).k then .inl 0
   else if(jo M (.P i)).k=2 then .inl (if i=j then 1 else 0)
   else if(jo M (.P i)).k=4 then .inl (if(jo M (.P i)).tx=(jo M (.P j)).tx then 1 else 0)
   else if(jo M (.P i)).ws.length≠(jo M (.P j)).ws.length then .inl 0
   else .inr ((jo M (.P i)).ws,(jo M (.P j)).ws)
 | .I n,.I m=>.inl (if n=m then 1 else 0)
 |_,_=>.inl 0
theorem jpY (M:RM) (i j:Nat):Zo M (.P i) (.P j)=if clR (jo M (.P i)).k=true\/clR (jo M (.P j)).k=true then .inl 2
  else if(jo M (.P i)).k≠(jo M (.P j)).k then .inl 0
  else if(jo M (.P i)).k=2 then .inl (if i=j then 1 else 0)
  else if(jo M (.P i)).k=4 then .inl (if(jo M (.P i)).tx=(jo M (.P j)).tx then 1 else 0)
  else if(jo M (.P i)).ws.length≠(jo M (.P j)).ws.length then .inl 0
  else .inr ((jo M (.P i)).ws,(jo M (.P j)).ws):=rfl
def jco (M:RM) (a b:RWd) (left:Nat):Nat×Nat:=ZK (Zo M) left a b left
section
variable {M:RM} {C:CM} {D:Nat->Prop} {f A:Nat->Nat} {E:List Nat}
theorem jq6 {a b:List UInt8} (h:(zp a).ws=(zp b).ws):a=b:=by
 have h1:a.length::NumL.zD a=b.length::NumL.zD b:=h;injection h1 with h2 h3;exact NumL.jnZ h2 h3
theorem jdf (n:Int):jl C.now C.h C.W (jc (jw A (.I n):Int))=none:=by
 have h1:=Zl A n;have:jc (jw A (.I n):Int)=0:=by
  unfold jc;rw[if_neg (by omega)]
 rw[this];cases e:jl C.now C.h C.W 0 with
 |none=>rfl
 |some k=>
  have h2:=(zF e).2;have h3:=ZF C.h C.W (je C.now k:Nat);omega
theorem Sim.look (s:Sim M C D f A) (v u:RWd) (hv:(∀k,v=.P k->D k)/\Wr v) (hu:(∀k,u=.P k->D k)/\Wr u):zW C.now C.h C.W (jw A v) (jw A u)=jt9 (jw A) (Zo M v u)/\∀p,Zo M v u=.inr p->(∀x∈p.1,(∀k,x=.P k->D k)/\Wr x)/\∀x∈p.2,(∀k,x=.P k->D k)/\Wr x:=by
 have hit:∀i,D i->jl C.now C.h C.W (jc (jw A (.P i):Int))=some (f i):=fun i hi=>s.cor.hit i hi;have odd:∀n,jj (jw A (.I n):Int)=true:=fun n=>ja5.2 (by have:=Zl A n;omega);have ne:∀n i,D i->jw A (.I n)≠jw A (.P i):=fun n i hi e=>by
  have h1:=Zl A n;have h2:=s.cor.ev i hi;rw[e] at h1;exact h2 h1
 unfold zW;cases v with
 |I n=>
  cases u with
  |I m=>
   rw[jdf,jdf];simp only[odd];refine⟨?_,fun p e=>by cases e⟩;rw[if_neg (by simp)];show Sum.inl _=Sum.inl _;have:jw A (.I n)=jw A (.I m)↔n=m:=by
    obtain⟨a1,a2⟩:=hv.2;obtain⟨b1,b2⟩:=hu.2;show(jO n).toNat=(jO m).toNat↔_;unfold jO;omega
   by_cases e:n=m
   ·rw[if_pos e,if_pos (this.2 e)]
   ·rw[if_neg e,if_neg (fun q=>e (this.1 q))]
  |P j=>
   rw[jdf,hit j (hu.1 j rfl)];simp only[odd];refine⟨?_,fun p e=>by cases e⟩;rw[if_neg (by simp),if_neg (ne n j (hu.1 j rfl))];rfl
 |P i=>
  have hi:=hv.1 i rfl;cases u with
  |I m=>
   rw[jdf,hit i hi];simp only[odd];refine⟨?_,fun p e=>by cases e⟩;rw[if_neg (by simp),if_neg (fun q=>ne m i hi q.symm)];rfl
  |P j=>
   have hj:=hu.1 j rfl;rw[hit i hi,hit j hj];obtain⟨o,o1,o2,o3⟩:=s.ob i hi;obtain⟨p,p1,p2,p3⟩:=s.ob j hj;simp only[ZT o3,ZT p3];rw[jpY,Zy o1,Zy p1];rw[show(jA A o).k=o.k from jbK,show(jA A p).k=p.k from jbK];have hc:∀k,Qt k=clR k:=fun k=>rfl;rw[hc,hc];by_cases c1:clR o.k=true\/clR p.k=true
   ·rw[if_pos c1,if_pos c1]
    exact⟨rfl,fun p e=>by cases e⟩
   rw[if_neg c1,if_neg c1];by_cases c2:o.k≠p.k
   ·rw[if_pos c2,if_pos c2]
    exact⟨rfl,fun p e=>by cases e⟩
   rw[if_neg c2,if_neg c2];have c2:o.k=p.k:=Classical.not_not.1 c2;by_cases c3:o.k=2
   ·rw[if_pos c3,if_pos c3]
    refine⟨?_,fun p e=>by cases e⟩;show Sum.inl _=Sum.inl _;by_cases e:i=j
    ·rw[if_pos e,if_pos (by rw[e])]
    ·rw[if_neg e,if_neg (fun q=>e (s.inj i j hi hj q))]
   rw[if_neg c3,if_neg c3];by_cases c4:o.k=4
   ·simp only[if_pos c4]
    refine⟨?_,fun p e=>by cases e⟩;have e1:jA A o=zp o.tx.data.toList:=if_pos c4;have e2:jA A p=zp p.tx.data.toList:=if_pos (c2▸c4);rw[e1,e2];by_cases e:o.tx=p.tx
    ·rw[e,if_neg (by simp),if_pos rfl,if_pos rfl]
     rfl
    ·have hne:(zp o.tx.data.toList).ws≠(zp p.tx.data.toList).ws:=fun q=>e (by
      have h1:=jq6 q;cases ho:o.tx with
      |mk x=>cases hp:p.tx with
       |mk z=>
        rw[ho,hp] at h1;show ByteArray.mk x=ByteArray.mk z;have h1:x.toList=z.toList:=h1;rw[Array.toList_inj.1 h1])
     rw[if_neg e];by_cases l:(zp o.tx.data.toList).ws.length≠(zp p.tx.data.toList).ws.length
     ·rw[if_pos l]
      rfl
     ·rw[if_neg l,if_neg hne]
      rfl
   simp only[if_neg c4];have e1:o.k=1:=by
    have h1:clR o.k=false:=by simpa using(fun q=>c1 (.inl q))
    unfold clR at h1;simp only[Bool.or_eq_false_iff,beq_eq_false_iff_ne] at h1;rcases o2.kd with⟨q,_⟩|⟨q,_⟩|⟨q,_⟩
    ·omega
    ·omega
    ·omega
   have k1:o.k=1\/o.k=2\/o.k=3:=.inl e1;have w1:(jA A o).ws=o.ws.map (jw A):=by
    rw[zQ (by omega)];rcases o2.kd with⟨_,q,_⟩|⟨q,_⟩|⟨q,_⟩
    ·rw[q];simp
    ·omega
    ·omega
   have w2:(jA A p).ws=p.ws.map (jw A):=by
    rw[zQ (by omega)];rcases p2.kd with⟨_,q,_⟩|⟨q,_⟩|⟨q,_⟩
    ·rw[q];simp
    ·omega
    ·omega
   rw[w1,w2,List.length_map,List.length_map];by_cases c5:o.ws.length≠p.ws.length
   ·rw[if_pos c5,if_pos c5]
    exact⟨rfl,fun p e=>by cases e⟩
   rw[if_neg c5,if_neg c5];refine⟨rfl,fun q e=>?_⟩;cases e
   exact⟨fun x hx=>⟨s.clo.field hi o1 hx,s.wo i hi x (by unfold zK;rw[o1];exact hx)⟩,fun x hx=>⟨s.clo.field hj p1 hx,s.wo j hj x (by unfold zK;rw[p1];exact hx)⟩⟩
theorem Sim.same (s:Sim M C D f A) {v u:RWd} (hv:Jf D E v) (hu:Jf D E u) (left:Nat):Js (zW C.now C.h C.W) (jw A v) (jw A u) left=jco M v u left:=
 jiL (S:=fun x=>(∀k,x=RWd.P k->D k)/\Wr x) (fun a b ha hb=>s.look a b ha hb) left v u left ⟨hv.1,hv.2.2⟩ ⟨hu.1,hu.2.2⟩
end
theorem jc2 {M:RM}:∀(n:Nat) (a b:RWd) (l:Nat),(ZK (Zo M) n a b l).1<=3/\(ZK (Zo M) n a b l).2<=l
 |0,_,_,_=>⟨by show 3<=3;omega,Nat.zero_le _⟩
 |n+1,a,b,l=>by
  have hf:∀(xs ys:List RWd) (l':Nat),(Zj (ZK (Zo M) n) xs ys l').1<=3/\(Zj (ZK (Zo M) n) xs ys l').2<=l':=fun xs=>by
   induction xs with
   |nil=>intro ys l';exact⟨by show 1<=3;omega,zqg _⟩
   |cons x xs ih=>
    intro ys l';cases ys with
    |nil=>exact⟨by show 1<=3;omega,zqg _⟩
    |cons y ys=>
     unfold Zj;have h1:=jc2 (M:=M) n x y l';split
     ·have h2:=ih ys (ZK (Zo M) n x y l').2
      exact⟨h2.1,zqs h2.2 h1.2⟩
     ·exact h1
  unfold ZK;split
  ·exact⟨by show 3<=3;omega,Nat.zero_le _⟩
  ·cases e:Zo M a b with
   |inl k=>
    refine⟨?_,Nat.sub_le _ _⟩;show k<=3;unfold Zo at e;repeat' split at e
    all_goals first|(injection e with e;subst e;first|omega|(split<;>omega))|cases e
   |inr p=>
    have:=hf p.1 p.2 (l-1);exact⟨this.1,zqs this.2 (Nat.sub_le _ _)⟩
theorem jgz (M:RM) (a b:RWd) (l:Nat):(jco M a b l).1<=3/\(jco M a b l).2<=l:=jc2 _ _ _ _
end
