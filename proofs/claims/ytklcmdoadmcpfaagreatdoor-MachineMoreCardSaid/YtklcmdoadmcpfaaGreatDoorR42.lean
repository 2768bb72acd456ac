/- A part of the proof of MachineMore. Conditions: those that each theorem names. -/
import Derived.Test.YtklcmdoadmcpfaaGreatDoorQ41
set_option maxRecDepth 100000
set_option maxHeartbeats 400000000
namespace Go.Proofs.YtklcmdoadmcpfaaGreatDoor
open Go Go.RowKit IsaL
open Go.Lib(hid)
open Go.Proofs.Tryz(prog)
abbrev oc1:Oper:={dst:=some 13,op:=Op.move (Operand.tmp 0),type:=22,pos:= "law.go:111",after:=#[],guard:=none}
abbrev oc2:Oper:={dst:=some 14,op:=Op.move (Operand.tmp 4),type:=3,pos:= "law.go:111",after:=#[],guard:=none}
abbrev oc3:Oper:={dst:=some 15,op:=Op.indexAddr 22 (Operand.tmp 13) (Operand.tmp 14),type:=0,pos:= "law.go:111",after:=#[{on:=1,ground:=Ground.data},{on:=2,ground:=Ground.data}],guard:=none}
abbrev oc4:Oper:={dst:=some 16,op:=Op.fieldAddr 39 (Operand.tmp 15) 0,type:=0,pos:= "law.go:111",after:=#[{on:=3,ground:=Ground.data}],guard:=none}
abbrev oc5:Oper:={dst:=some 17,op:=Op.load 36 (Operand.tmp 16),type:=36,pos:= "law.go:111",after:=#[{on:=4,ground:=Ground.data}],guard:=none}
abbrev oc6:Oper:={dst:=some 20,op:=Op.move (Operand.tmp 0),type:=22,pos:= "law.go:111",after:=#[],guard:=none}
abbrev oc7:Oper:={dst:=some 21,op:=Op.move (Operand.tmp 4),type:=3,pos:= "law.go:111",after:=#[],guard:=none}
abbrev oc8:Oper:={dst:=some 22,op:=Op.indexAddr 22 (Operand.tmp 20) (Operand.tmp 21),type:=0,pos:= "law.go:111",after:=#[{on:=8,ground:=Ground.data},{on:=9,ground:=Ground.data}],guard:=none}
abbrev oc9:Oper:={dst:=some 23,op:=Op.fieldAddr 39 (Operand.tmp 22) 1,type:=0,pos:= "law.go:111",after:=#[{on:=10,ground:=Ground.data}],guard:=none}
abbrev jvP:Oper:={dst:=some 24,op:=Op.load 37 (Operand.tmp 23),type:=37,pos:= "law.go:111",after:=#[{on:=11,ground:=Ground.data}],guard:=none}
abbrev jug:Oper:={dst:=some 12,op:=Op.buildSlice 36 0 #[],type:=36,pos:= "law.go:111",after:=#[],guard:=none}
abbrev juh:Oper:={dst:=some 19,op:=Op.buildSlice 37 0 #[],type:=37,pos:= "law.go:111",after:=#[],guard:=none}
abbrev jui:Oper:={dst:=some 5,op:=Op.alloc 39,type:=0,pos:= "law.go:111",after:=#[],guard:=none}
abbrev jqp:Oper:={dst:=some 18,op:=Op.call {callee:=Callee.builtin Builtin.append,args:=#[Operand.tmp 12,Operand.tmp 17],argTypes:=#[36,36]},type:=36,pos:= "law.go:111",after:=#[{on:=0,ground:=Ground.data},{on:=5,ground:=Ground.data}],guard:=none}
abbrev jlt:Oper:={dst:=some 25,op:=Op.call {callee:=Callee.builtin Builtin.append,args:=#[Operand.tmp 19,Operand.tmp 24],argTypes:=#[37,37]},type:=37,pos:= "law.go:111",after:=#[{on:=7,ground:=Ground.data},{on:=12,ground:=Ground.data},{on:=6,ground:=Ground.chain}],guard:=none}
abbrev jlu:Oper:={dst:=some 26,op:=Op.build 39 #[(0,Operand.tmp 18),(1,Operand.tmp 25)],type:=39,pos:= "law.go:111",after:=#[{on:=6,ground:=Ground.data},{on:=13,ground:=Ground.data}],guard:=none}
abbrev jlv:Oper:={dst:=none,op:=Op.store 39 (Operand.tmp 5) (Operand.tmp 26),type:=0,pos:= "law.go:111",after:=#[{on:=15,ground:=Ground.data},{on:=14,ground:=Ground.data},{on:=13,ground:=Ground.chain},{on:=0,ground:=Ground.phase},{on:=1,ground:=Ground.phase},{on:=2,ground:=Ground.phase},{on:=3,ground:=Ground.phase},{on:=4,ground:=Ground.phase},{on:=5,ground:=Ground.phase},{on:=6,ground:=Ground.phase},{on:=7,ground:=Ground.phase},{on:=8,ground:=Ground.phase},{on:=9,ground:=Ground.phase},{on:=10,ground:=Ground.phase},{on:=11,ground:=Ground.phase},{on:=12,ground:=Ground.phase},{on:=13,ground:=Ground.phase},{on:=14,ground:=Ground.phase},{on:=15,ground:=Ground.phase}],guard:=none}
theorem jpF:(prog.info? 82).map (fun i=>(i.zero,i.size,i.bytes))=some (some (.agg #[.int .i64 0,.int .i64 0,.int .i64 0,.string ⟨#[]⟩]),4,40):=by kernel_rfl
theorem jpE:(prog.info? 41).map (fun i=>(i.zero,i.size,i.bytes))=some (some (.agg #[.int .i64 0,.int .i64 0,.int .i64 0,.int .i64 0,.int .i64 0]),5,40):=by kernel_rfl
theorem jm8:(prog.info? 39).map (fun i=>(i.zero,i.size,i.bytes))=some (some (.agg #[.slice none 0 0,.slice none 0 0]),2,48):=by kernel_rfl
def lC (ls:List jV):List Value:=Zg 4 ls.length fun j i=>jft (ls.getD j ⟨0,0,0,⟨#[]⟩⟩) i
def nC (is:List I5):List Value:=Zg 5 is.length fun j i=>jfo (is.getD j (0,0,0,0,0)) i
def cC (lv iv:Nat->Value) (k:Nat):List Value:=Zg 2 k fun j q=>if q=0 then lv j else iv j
theorem jnk {ls:List jV} {j i:Nat} {x:jV} (h:ls[j]?=some x) (hi:i<4):(lC ls)[j*4+i]?=some (jft x i):=by
 unfold lC;rw[Qe (zqb h).1 hi,zqi,h];rfl
theorem jnM {is:List I5} {j i:Nat} {x:I5} (h:is[j]?=some x) (hi:i<5):(nC is)[j*5+i]?=some (jfo x i):=by
 unfold nC;rw[Qe (zqb h).1 hi,zqi,h];rfl
theorem jrR (lv iv:Nat->Value) (k:Nat) (a b:Value):cC (fun j=>if j=k then a else lv j) (fun j=>if j=k then b else iv j) (k+1)=cC lv iv k++[a,b]:=by
 unfold cC;rw[jjY];congr 1
 ·refine Q9 fun i j hi _=>?_
  have e:i≠k:=by omega
  show(if j=0 then(if i=k then a else lv i) else(if i=k then b else iv i))=(if j=0 then lv i else iv i);simp only[if_neg e]
 ·rw[jjZ]
  show(List.range 2).map _=_;simp only[Nat.add_zero,if_true];rfl
theorem jpU (x:jV) (i:Nat):(jft x i).oneCell'=true:=by
 match i with
 |0=>rfl
 |1=>rfl
 |2=>rfl
 |_+3=>rfl
theorem jpH (x:I5) (i:Nat):(jfo x i).oneCell'=true:=by
 match i with
 |0=>rfl
 |1=>rfl
 |2=>rfl
 |3=>rfl
 |_+4=>rfl
theorem jkx {O:Nat->Prop} {w:World} {A:Option Addr} {k1:Nat} {l:List jn} (h:CodesAt O w (.slice A l.length k1) l):∀j x,l[j]?=some x->∃B off lv iv,A=some ⟨B,off,none⟩/\B<w.heap.size/\¬O B/\w.cell? ⟨B,off+j*2,none⟩=some lv/\w.cell? ⟨B,off+j*2+1,none⟩=some iv/\LitsAt O w lv x.ls/\InsAt O w iv x.ins:=by
 obtain⟨A',c',e,k⟩:=h;cases e
 exact k
section
variable {O P:Nat->Prop} {w w1:World} {v:Value} {l:List jn}
theorem jo9 (w:World) (a b:Value) (t:TypeId) (g:Nat) (hg:w.heap.size=g):∀j u,[a,b][j]?=some u->(w.alloc (.cells #[a,b] t)).cell? ((⟨g,0,none⟩:Addr).add j)=some u:=by
 subst hg;intro j u hu;rw[Qg,Nat.zero_add,jb (zqe w _) j];simpa using hu
theorem jul (a b:Value) (ha:a.oneCell'=true) (hb:b.oneCell'=true):∀u∈[a,b],u.oneCell'=true:=by
 intro u hu;simp at hu;rcases hu with rfl|rfl<;>assumption
theorem LitsAt.src {ls:List jV} {A:Option Addr} {c:Nat} (h:LitsAt O w (.slice A ls.length c) ls) {Y:World} (hY:Below w.heap.size w Y):∀j u,(lC ls)[j]?=some u->∃ad,A=some ad/\Y.cell? (ad.add j)=some u:=fun j u hu=>by
 obtain⟨A',c',e,k⟩:=h;cases e
 have hj:j<ls.length*4:=by
  have:=(zqb hu).1;unfold lC at this;rw[qN] at this;exact this
 obtain⟨x,hx⟩:∃x,ls[j/4]?=some x:=⟨_,zqh (by omega)⟩;obtain⟨B,off,rfl,_,_,q⟩:=k (j/4) x hx;have e:j=j/4*4+j%4:=by omega
 rw[e,jnk hx (Nat.mod_lt _ (by decide))] at hu;refine⟨_,rfl,?_⟩;rw[Qg,<-zqd hu];have h2:=jm hY (q (j%4) (Nat.mod_lt _ (by decide)));rw[show off+j=off+j/4*4+j%4 by omega];exact h2
theorem InsAt.src {ls:List I5} {A:Option Addr} {c:Nat} (h:InsAt O w (.slice A ls.length c) ls) {Y:World} (hY:Below w.heap.size w Y):∀j u,(nC ls)[j]?=some u->∃ad,A=some ad/\Y.cell? (ad.add j)=some u:=fun j u hu=>by
 obtain⟨A',c',e,k⟩:=h;cases e
 have hj:j<ls.length*5:=by
  have:=(zqb hu).1;unfold nC at this;rw[qN] at this;exact this
 obtain⟨x,hx⟩:∃x,ls[j/5]?=some x:=⟨_,zqh (by omega)⟩;obtain⟨B,off,rfl,_,_,q⟩:=k (j/5) x hx;have e:j=j/5*5+j%5:=by omega
 rw[e,jnM hx (Nat.mod_lt _ (by decide))] at hu;refine⟨_,rfl,?_⟩;rw[Qg,<-zqd hu];have h2:=jm hY (q (j%5) (Nat.mod_lt _ (by decide)));rw[show off+j=off+j/5*5+j%5 by omega];exact h2
theorem LitsAt.of_row {ls:List jV} {b:Nat} (h:w.ownsRow b 82 4 v ls.length (lC ls)) (hO:∀q,v.ownBlock=some q->¬O q):LitsAt O w v ls:=by
 obtain⟨A,c,e,_⟩:=jH h;refine⟨A,c,e,fun j x hx=>?_⟩;obtain⟨g,cap,e2,_,hl⟩:=h.form (by have:=(zqb hx).1;omega);have e3:A=some ⟨g,0,none⟩:=by rw[e] at e2;cases e2;rfl
 refine⟨g,0,e3,hl,hO g (by rw[e2];rfl),fun i hi=>?_⟩;rw[e2] at h;rw[Nat.zero_add,h.cellAt (j*4+i) (QC (zqb hx).1 hi)];exact jnk hx hi
theorem InsAt.of_row {ls:List I5} {b:Nat} (h:w.ownsRow b 41 5 v ls.length (nC ls)) (hO:∀q,v.ownBlock=some q->¬O q):InsAt O w v ls:=by
 obtain⟨A,c,e,_⟩:=jH h;refine⟨A,c,e,fun j x hx=>?_⟩;obtain⟨g,cap,e2,_,hl⟩:=h.form (by have:=(zqb hx).1;omega);have e3:A=some ⟨g,0,none⟩:=by rw[e] at e2;cases e2;rfl
 refine⟨g,0,e3,hl,hO g (by rw[e2];rfl),fun i hi=>?_⟩;rw[e2] at h;rw[Nat.zero_add,h.cellAt (j*5+i) (QC (zqb hx).1 hi)];exact jnM hx hi
theorem LitsAt.mono {ls:List jV} (h:LitsAt O w v ls) (hP:∀i,i<w.heap.size->¬O i->¬P i):LitsAt P w v ls:=by
 obtain⟨A,c,e,k⟩:=h;refine⟨A,c,e,fun j x hx=>?_⟩;obtain⟨B,off,q1,q2,q3,q4⟩:=k j x hx;exact⟨B,off,q1,q2,hP B q2 q3,q4⟩
theorem InsAt.mono {ls:List I5} (h:InsAt O w v ls) (hP:∀i,i<w.heap.size->¬O i->¬P i):InsAt P w v ls:=by
 obtain⟨A,c,e,k⟩:=h;refine⟨A,c,e,fun j x hx=>?_⟩;obtain⟨B,off,q1,q2,q3,q4⟩:=k j x hx;exact⟨B,off,q1,q2,hP B q2 q3,q4⟩
structure CopS (w:World) (l:List jn) (k:Nat) (vo:Value) (wr:World) (lv iv:Nat->Value):Prop where
 row:wr.ownsRow w.heap.size 39 2 vo k (cC lv iv k)
 bl:Below w.heap.size w wr
 at_:∀j c,j<k->l[j]?=some c->LitsAt (fun i=>i<w.heap.size\/vo.ownBlock=some i\/wr.heap.size<=i) wr (lv j) c.ls/\InsAt (fun i=>i<w.heap.size\/vo.ownBlock=some i\/wr.heap.size<=i) wr (iv j) c.ins
theorem CopS.next {k:Nat} {vo:Value} {wr X w6:World} {lv iv:Nat->Value} (h:CopS w l k vo wr lv iv) {c:jn} (hx:l[k]?=some c) (hS:Below wr.heap.size wr X) {vA vB:Value} (oA:X.ownsRow wr.heap.size 82 4 vA c.ls.length (lC c.ls)) (oB:X.ownsRow wr.heap.size 41 5 vB c.ins.length (nC c.ins)) {v6:Value} {ob:Obj} (h6:w6.ownsRow w.heap.size 39 2 v6 (k+1) (cC lv iv k++[vA,vB])) (hg:(X.alloc ob).grownBy w6 vo.ownBlock) (hb:∀q,v6.ownBlock=some q->vo.ownBlock=some q\/q=X.heap.size+1):CopS w l (k+1) v6 w6 (fun j=>if j=k then vA else lv j) (fun j=>if j=k then vB else iv j):=by
 have hvo:∀q,vo.ownBlock=some q->q<wr.heap.size:=fun q e=>(h.row.lt q e).2;have hf:Fr (fun i=>vo.ownBlock=some i) wr w6:=(((Fr.of_below (O:=fun i=>vo.ownBlock=some i) hS).alloc ob)).grown hg (fun k hk=>.inl hk);have hfX:Fr (fun i=>vo.ownBlock=some i) X w6:=((Fr.refl (fun i=>vo.ownBlock=some i) X).alloc ob).grown hg (fun k hk=>.inl hk);have hsz:=hS.size;have hs6:=hfX.size;refine⟨by rw[jrR];exact h6,hf.below h.bl.size (fun i hi=>(h.row.lt i hi).1)|>fun q=>h.bl.trans q,fun j y hj hy=>?_⟩;by_cases e:j=k
 ·subst e
  rw[hx] at hy;obtain rfl:=zqd hy;rw[if_pos rfl,if_pos rfl];refine⟨LitsAt.of_row (jd hfX oA fun q e z=>by have:=(oA.lt q e).1;have:=hvo q z;omega) (fun q e z=>?_),InsAt.of_row (jd hfX oB fun q e z=>by have:=(oB.lt q e).1;have:=hvo q z;omega) (fun q e z=>?_)⟩
  ·have:=oA.lt q e
   have hws:=h.bl.size;rcases z with z|z|z
   ·omega
   ·rcases hb q z with y|y
    ·have:=hvo q y;omega
    ·omega
   ·omega
  ·have:=oB.lt q e
   have hws:=h.bl.size;rcases z with z|z|z
   ·omega
   ·rcases hb q z with y|y
    ·have:=hvo q y;omega
    ·omega
   ·omega
 ·rw[if_neg e,if_neg e]
  obtain⟨q1,q2⟩:=h.at_ j y (by omega) hy;have hP:∀i,i<w6.heap.size->¬(i<w.heap.size\/vo.ownBlock=some i\/wr.heap.size<=i)->¬(i<w.heap.size\/v6.ownBlock=some i\/w6.heap.size<=i):=fun i _ hn z=>by
   rcases z with z|z|z
   ·exact hn (.inl z)
   ·rcases hb i z with y|y
    ·exact hn (.inr (.inl y))
    ·exact hn (.inr (.inr (by omega)))
   ·omega
  exact⟨(q1.fr hf (fun i _ hn z=>hn (.inr (.inl z)))).mono hP,(q2.fr hf (fun i _ hn z=>hn (.inr (.inl z)))).mono hP⟩
theorem nb {a b:Bool} (h:a=true->b=true) (hb:b=false):a=false:=by
 cases a
 ·rfl
 ·rw[h rfl] at hb
  cases hb
theorem jvo {f0 f6 f7 f13 f14 f15 f16:Bool}:∀{i:Nat},(#[f0,true,true,true,true,true,f6,f7,true,true,true,true,true,f13,f14,f15,f16]:Array Bool).getD i true=false->i=0\/i=6\/i=7\/i=13\/i=14\/i=15\/i=16
 |0,_|6,_|7,_|13,_|14,_|15,_|16,_=>by simp
 |1,h|2,h|3,h|4,h|5,h|8,h|9,h|10,h|11,h|12,h=>by cases h
 |n+17,h=>by
  rw[Array.getD_eq_getD_getElem?,Array.getElem?_eq_none (by simp)] at h;cases h
theorem jkA (hc:CodesAt O w v l) (hsm:jaZ l):
  Calls prog 15 #[v] w fun e w'=>(∃v',e=.returned v'/\CodesAt (fun i=>i<w.heap.size\/w'.heap.size<=i) w' v' l)/\Below w.heap.size w w':=by
 obtain⟨iL,hL0,hL1,hL2,hL3⟩:=info_parts jpF;obtain⟨iI,hI0,hI1,hI2,hI3⟩:=info_parts jpE;obtain⟨iC,hC0,hC1,hC2,hC3⟩:=info_parts jm8;have HIC:=hid (show(prog.info? 39).map (·.size)=some 2 from by rw[hC0];exact congrArg some hC2);obtain⟨nc,hnc⟩:∃nc,l.length=nc:=⟨_,rfl⟩;have HCC:=hid hc;obtain⟨A1,k1,rfl,_⟩:=hc;rw[hnc];have HN:=hid hnc;have HSM:=hid hsm.2;have hnc60:nc<=60:=by rw[<-hnc];exact hsm.1
 clear hnc hsm;go_enter Tryz.func15,Tryz.ntmps15;go_wp2_with fail;go_loopw [3,4] (fun o i wr=>∃(k:Nat) (lv iv:Nat->Value),k<=nc/\i=.int .i64 k/\CopS w l k o wr lv iv) (fun _ i _=>nc-(intOf i).toNat)
 case atStart=>exact⟨0,fun _=>undef,fun _=>undef,Nat.zero_le _,rfl,⟨rfl,.inl ⟨rfl,rfl⟩⟩,Below.refl _ _,fun j c hj=>by omega⟩
 case round=>
  obtain⟨k,lv,iv,hk,rfl,hcs⟩:=hrel;obtain⟨aO,kO,rfl,_⟩:=jH hcs.row;by_cases hlt:k<nc
  ·obtain⟨c,hx⟩:∃c,l[k]?=some c:=⟨_,zqh (by have:=HN.out;omega)⟩
   obtain⟨B,off,lw,iw,rfl,hB1,hB2,d2,d3,hLL,hII⟩:=jkx (HCC.out.below hcs.bl) k c hx;have hLL2:=hLL;have hII2:=hII;obtain⟨Al,cl,rfl,_⟩:=hLL2;obtain⟨Ai,ci,rfl,_⟩:=hII2;obtain⟨s1,s2,s3⟩:=HSM.out c (zqc hx);have HSL0:=hid (zqf (show(lC c.ls).length=c.ls.length*4 from qN _ _ _) (fun(Y:World) (hY:Below wr.heap.size wr Y)=>hLL.src hY));have HSI0:=hid (zqf (show(nC c.ins).length=c.ins.length*5 from qN _ _ _) (fun(Y:World) (hY:Below wr.heap.size wr Y)=>hII.src hY));have HOL:=hid (show∀u∈lC c.ls,u.oneCell'=true from jeg fun _ _ _=>jpU _ _);have HOI:=hid (show∀u∈nC c.ins,u.oneCell'=true from jeg fun _ _ _=>jpH _ _);obtain⟨nl,hnl⟩:∃nl,c.ls.length=nl:=⟨_,rfl⟩;obtain⟨ni,hni⟩:∃ni,c.ins.length=ni:=⟨_,rfl⟩;rw[hnl] at d2 s1 HSL0;rw[hni] at d3 s2 HSI0;have HNN:=hid (zqf hnl hni);obtain⟨LC,hLC⟩:∃LC,lC c.ls=LC:=⟨_,rfl⟩;obtain⟨IC,hIC⟩:∃IC,nC c.ins=IC:=⟨_,rfl⟩;rw[hLC] at HSL0 HOL;rw[hIC] at HSI0 HOI;have HSL:=HSL0;have HSI:=HSI0;have HLI:=hid (zqf hLC hIC);have HCL:=hid (fun(Y:World) (hY:Below wr.heap.size wr Y)=>zqf (jm hY d2) (jm hY d3));have HCS:=hid hcs;have HX:=hid hx;have b0:(0:Int)<=(k:Int):=by omega
   have b1:(k:Int)<nc:=by omega
   clear hLL hII hcs hx hnl hni hLC hIC d2 d3 hB1 hB2 s3 HSL0 HSI0;go_wp2_with fail;have hS:Below wr.heap.size wr wr.drew:=(Below.refl _ wr).drew;refine wp_region_held_drew (S:=fun Y=>Below wr.heap.size wr Y) (by kernel_rfl) hS (fun _=>?_);change wpAnyH _ _ _ _ _ 17 #[false,false,false,false,false,false,false,false,false,false,false,false,false,false,false,false,false] _ _;obtain⟨Y0,hY0⟩:∃Y0,wr.drew=Y0:=⟨_,rfl⟩;rw[hY0] at hS ⊢;clear hY0;refine wpAnyH_take (i:=1) (oi:=oc1) (v:=.slice (some ⟨B,off,none⟩) nc k1) rfl (by kernel_rfl) (by kernel_rfl) (by kernel_rfl) (fun _ _ _ h=>h) (Or.inl ⟨by rfl,(by intro Y hY;go_simp)⟩) hS ?_;simp only[Act.put,zqj,zqk,zql];refine wpAnyH_take (i:=2) (oi:=oc2) (v:=.int .i64 k) rfl (by kernel_rfl) (by kernel_rfl) (by kernel_rfl) (fun _ _ _ h=>h) (Or.inl ⟨by rfl,(by intro Y hY;go_simp)⟩) hS ?_;simp only[Act.put,zqj,zqk,zql];refine wpAnyH_take (i:=3) (oi:=oc3) (v:=.pointer (some ⟨B,off+k*2,none⟩)) rfl (by kernel_rfl) (by kernel_rfl) (by kernel_rfl) (fun _ _ _ h=>h) (Or.inl ⟨by rfl,(by intro Y hY;go_simp)⟩) hS ?_;simp only[Act.put,zqj,zqk,zql];refine wpAnyH_take (i:=4) (oi:=oc4) (v:=.pointer (some ⟨B,off+k*2,none⟩)) rfl (by kernel_rfl) (by kernel_rfl) (by kernel_rfl) (fun _ _ _ h=>h) (Or.inl ⟨by rfl,(by intro Y hY;go_simp)⟩) hS ?_;simp only[Act.put,zqj,zqk,zql];refine wpAnyH_take (i:=5) (oi:=oc5) (v:=.slice Al nl cl) rfl (by kernel_rfl) (by kernel_rfl) (by kernel_rfl) (fun _ _ _ h=>h) (Or.inl ⟨by rfl,(by intro Y hY;have y0:=(HCL.out Y hY).1;go_simp)⟩) hS ?_;simp only[Act.put,zqj,zqk,zql];refine wpAnyH_take (i:=8) (oi:=oc6) (v:=.slice (some ⟨B,off,none⟩) nc k1) rfl (by kernel_rfl) (by kernel_rfl) (by kernel_rfl) (fun _ _ _ h=>h) (Or.inl ⟨by rfl,(by intro Y hY;go_simp)⟩) hS ?_;simp only[Act.put,zqj,zqk,zql];refine wpAnyH_take (i:=9) (oi:=oc7) (v:=.int .i64 k) rfl (by kernel_rfl) (by kernel_rfl) (by kernel_rfl) (fun _ _ _ h=>h) (Or.inl ⟨by rfl,(by intro Y hY;go_simp)⟩) hS ?_;simp only[Act.put,zqj,zqk,zql];refine wpAnyH_take (i:=10) (oi:=oc8) (v:=.pointer (some ⟨B,off+k*2,none⟩)) rfl (by kernel_rfl) (by kernel_rfl) (by kernel_rfl) (fun _ _ _ h=>h) (Or.inl ⟨by rfl,(by intro Y hY;go_simp)⟩) hS ?_;simp only[Act.put,zqj,zqk,zql];refine wpAnyH_take (i:=11) (oi:=oc9) (v:=.pointer (some ⟨B,off+k*2+1,none⟩)) rfl (by kernel_rfl) (by kernel_rfl) (by kernel_rfl) (fun _ _ _ h=>h) (Or.inl ⟨by rfl,(by intro Y hY;go_simp)⟩) hS ?_;simp only[Act.put,zqj,zqk,zql];refine wpAnyH_take (i:=12) (oi:=jvP) (v:=.slice Ai ni ci) rfl (by kernel_rfl) (by kernel_rfl) (by kernel_rfl) (fun _ _ _ h=>h) (Or.inl ⟨by rfl,(by intro Y hY;have y0:=(HCL.out Y hY).2;go_simp)⟩) hS ?_;simp only[Act.put,zqj,zqk,zql];refine jdJ fun a0 ha0=>?_;refine jcx (I:=fun l a Y=>∃(f0 f6 f7 f13 f14 f15 f16:Bool) (x5 x12 x18 x19 x25 x26:Value) (xA xB:Option Addr) (yA yB bC:Nat) (K:Nat->Cp),l=#[f0,true,true,true,true,true,f6,f7,true,true,true,true,true,f13,f14,f15,f16]/\a=(((((a0.put (some 5) x5).put (some 12) x12).put (some 18) x18).put (some 19) x19).put (some 25) x25).put (some 26) x26/\CpF wr Y K/\K 0=cond f0 ⟨2,0,cond f6 x18 x12,82,4,cond f6 nl 0,cond f6 LC [],#[]⟩ Cp.no/\K 1=cond f7 ⟨2,0,cond f13 x25 x19,41,5,cond f13 ni 0,cond f13 IC [],#[]⟩ Cp.no/\K 2=cond f15 ⟨1,bC,undef,39,0,0,[],cond f16 #[x18,x25] #[.slice none 0 0,.slice none 0 0]⟩ Cp.no/\(f6=true->x18=.slice xA nl yA)/\(f13=true->x25=.slice xB ni yB)/\(f14=true->x26=.agg #[x18,x25])/\(f15=true->x5=.pointer (some ⟨bC,0,none⟩))/\(f6=true->f0=true)/\(f13=true->f6=true/\f7=true)/\(f14=true->f13=true)/\(f16=true->f14=true/\f15=true)) ?_ ?_ 7 _ _ _ (by decide) ⟨false,false,false,false,false,false,false,u5,u12,u18,u19,u25,u26,none,none,0,0,0,_,rfl,by subst ha0;rfl,CpF.nil hS,rfl,rfl,rfl,by simp⟩
   ·rintro l a XF ⟨f0,f6,f7,f13,f14,f15,f16,x5,x12,x18,x19,x25,x26,xA,xB,yA,yB,bC,K,rfl,rfl,hC,k0,k1,k2,sA,sB,e26,e5,c1,c2,c3,c4⟩ hr
    obtain rfl:f0=true:=JV hr 0 (o:=jug) rfl rfl;obtain rfl:f7=true:=JV hr 7 (o:=juh) rfl rfl;obtain rfl:f15=true:=JV hr 15 (o:=jui) rfl rfl;obtain rfl:f6=true:=JV hr 6 (o:=jqp) rfl rfl;obtain rfl:f13=true:=JV hr 13 (o:=jlt) rfl rfl;obtain rfl:f14=true:=JV hr 14 (o:=jlu) rfl rfl;obtain rfl:f16=true:=JV hr 16 (o:=jlv) rfl rfl;obtain rfl:=e26 rfl;obtain rfl:=e5 rfl;obtain rfl:=sA rfl;obtain rfl:=sB rfl;have hS2:=hC.S;have fC2:=(hC.c1 2 (by rw[k2];rfl)).1;have oA2:=hC.c2 0 (by rw[k0];rfl);have oB2:=hC.c2 1 (by rw[k1];rfl);rw[k2] at fC2;rw[k0] at oA2;rw[k1] at oB2;replace fC2:XF.heap[bC]?=some (.cells #[.slice xA nl yA,.slice xB ni yB] 39 (0,0)):=fC2;replace oA2:XF.ownsRow wr.heap.size 82 4 (.slice xA nl yA) nl LC:=oA2;replace oB2:XF.ownsRow wr.heap.size 41 5 (.slice xB ni yB) ni IC:=oB2;clear hr e26 e5 sA sB c1 c2 c3 c4 k0 k1 k2 hC;subst ha0;simp only[Act.put,zqj,zqk,zql];rw[<-HLI.out.1,<-HNN.out.1] at oA2;rw[<-HLI.out.2,<-HNN.out.2] at oB2;have hrow:=jd (Fr.of_below (O:=fun _=>False) hS2) HCS.out.row (fun _ _=>id);have HRW:=hid (fun(ob:Obj)=>World.ownsRow.alloc (w:=XF) hrow ob);have HT:=hid (zqf hS2 (zqf oA2 oB2));have c0:XF.cell? ⟨bC,0,none⟩=some (.slice xA nl yA):=jb fC2 0;have c1:XF.cell? ⟨bC,1,none⟩=some (.slice xB ni yB):=jb fC2 1;have hbase:w.heap.size<=XF.heap.size+1:=by have h1:=HCS.out.bl.size;have h2:=hS2.size;omega
    clear hS2 fC2 oA2 oB2 hrow;go_wp2_with (at_builtin;refine wpList_append_lies _ rfl _ _ 22 rfl w.heap.size 39 iC (.agg #[.slice none 0 0,.slice none 0 0]) 2 48 Tryz.underlying22 hC0 hC1 hC2 hC3 rfl (by decide) (.slice aO k kO) k (cC lv iv k) rfl (HRW.out _) ⟨XF.heap.size,0,none⟩ 1 1 [.slice xA nl yA,.slice xB ni yB] rfl rfl (jo9 XF _ _ _ _ rfl) (jul _ _ rfl rfl) (by decide) (by unfold maxLen;omega) (by omega) (by simpa using hbase) (XF.heap.size+1) (by simp) ?_;intro g6 cap6 w6 hown6 hgrow6 hblk6 _);have HR:=hid (HCS.out.next HX.out HT.out.1 HT.out.2.1 HT.out.2.2 (by rw[HNN.out.1,HNN.out.2];exact hown6) hgrow6 (fun q e=>by
     have e2:g6=q:=by simpa[Value.ownBlock] using e
     rw[<-e2];exact hblk6))
    clear hown6 hgrow6 hblk6;go_wp2_with fail;go_roundw
    case rel=>exact⟨k+1,_,_,hlt,by go_num,HR.out⟩
    case measure=>simp[intOf];omega
   ·rintro l a Y i o ⟨f0,f6,f7,f13,f14,f15,f16,x5,x12,x18,x19,x25,x26,xA,xB,yA,yB,bC,K,rfl,rfl,hC,k0,k1,k2,sA,sB,e26,e5,c1,c2,c3,c4⟩ hi ho K' hK
    have hK:=hid hK;have hS:=hC.S;have h1:=jn5 hi;subst ha0;rcases jvo h1 with rfl|rfl|rfl|rfl|rfl|rfl|rfl
    ·obtain rfl:=zqd (show some jug=some o from ho)
     have d1:f0=false:=h1;clear hi ho h1;subst d1;obtain rfl:=nb c1 rfl;have hC2:=hC.emp 0 82 4;simp only[Act.put,zqj,zqk,zql];go_simp;exact hK.out _ _ hC2.S ⟨true,false,f7,f13,f14,f15,f16,x5,_,x18,x19,x25,x26,xA,xB,yA,yB,bC,_,rfl,rfl,hC2,rfl,k1,k2,sA,sB,e26,e5,by simp_all⟩
    ·obtain rfl:=zqd (show some jqp=some o from ho)
     have d1:f6=false:=h1;have d2:f0=true:=JU hi (o:=jqp) (j:=0) rfl rfl rfl;clear hi ho h1;subst d1 d2;obtain rfl:=nb (fun z=>(c2 z).1) rfl;obtain rfl:=nb c3 rfl;obtain rfl:=nb (fun z=>(c4 z).1) rfl;have oA:=hC.c2 0 (by rw[k0];rfl);rw[k0] at oA;simp only[Act.put,zqj,zqk,zql];rw[if_pos (by rfl)];refine jcD _ _ 36 rfl wr.heap.size 82 iL (.agg #[.int .i64 0,.int .i64 0,.int .i64 0,.string ⟨#[]⟩]) 4 40 Tryz.underlying36 hL0 hL1 hL2 hL3 rfl (by decide) x12 0 [] rfl oA Al nl cl LC rfl HSL.out.1 (HSL.out.2 _ hS) HOL.out (by unfold maxLen;omega) (by omega) hS.size (fun A' c' Y4 oN hg hq=>?_);rw[Nat.zero_add,List.nil_append] at oN;rw[Nat.zero_add] at hq ⊢;have hC2:=hC.app 0 (by rw[k0];rfl) (by rw[k0];rfl) oN hg hq;simp only[Act.put,zqj,zqk,zql];exact hK.out _ _ hC2.S ⟨true,true,f7,false,false,f15,false,x5,x12,_,x19,x25,x26,_,xB,_,yB,bC,_,rfl,rfl,hC2,rfl,k1,k2,fun _=>rfl,sB,by simp,e5,by simp_all⟩
    ·obtain rfl:=zqd (show some juh=some o from ho)
     have d1:f7=false:=h1;clear hi ho h1;subst d1;obtain rfl:=nb (fun z=>(c2 z).2) rfl;have hC2:=hC.emp 1 41 5;simp only[Act.put,zqj,zqk,zql];go_simp;exact hK.out _ _ hC2.S ⟨f0,f6,true,false,f14,f15,f16,x5,x12,x18,_,x25,x26,xA,xB,yA,yB,bC,_,rfl,rfl,hC2,k0,rfl,k2,sA,sB,e26,e5,by simp_all⟩
    ·obtain rfl:=zqd (show some jlt=some o from ho)
     have d1:f13=false:=h1;have d2:f7=true:=JU hi (o:=jlt) (j:=0) rfl rfl rfl;have d3:f6=true:=JU hi (o:=jlt) (j:=2) rfl rfl rfl;clear hi ho h1;subst d1 d2 d3;obtain rfl:=nb c3 rfl;obtain rfl:=nb (fun z=>(c4 z).1) rfl;have oA:=hC.c2 1 (by rw[k1];rfl);rw[k1] at oA;simp only[Act.put,zqj,zqk,zql];rw[if_pos (by rfl)];refine jcD _ _ 37 rfl wr.heap.size 41 iI (.agg #[.int .i64 0,.int .i64 0,.int .i64 0,.int .i64 0,.int .i64 0]) 5 40 Tryz.underlying37 hI0 hI1 hI2 hI3 rfl (by decide) x19 0 [] rfl oA Ai ni ci IC rfl HSI.out.1 (HSI.out.2 _ hS) HOI.out (by unfold maxLen;omega) (by omega) hS.size (fun A' c' Y4 oN hg hq=>?_);rw[Nat.zero_add,List.nil_append] at oN;rw[Nat.zero_add] at hq ⊢;have hC2:=hC.app 1 (by rw[k1];rfl) (by rw[k1];rfl) oN hg hq;simp only[Act.put,zqj,zqk,zql];exact hK.out _ _ hC2.S ⟨f0,true,true,true,false,f15,false,x5,x12,x18,x19,_,x26,xA,_,yA,_,bC,_,rfl,rfl,hC2,k0,rfl,k2,sA,fun _=>rfl,by simp,e5,by simp_all⟩
    ·obtain rfl:=zqd (show some jlu=some o from ho)
     have d1:f14=false:=h1;have d2:f6=true:=JU hi (o:=jlu) (j:=0) rfl rfl rfl;have d3:f13=true:=JU hi (o:=jlu) (j:=1) rfl rfl rfl;clear hi ho h1;subst d1 d2 d3;obtain rfl:=nb (fun z=>(c4 z).1) rfl;have q3:=sA rfl;have q4:=sB rfl;subst q3 q4;simp only[Act.put,zqj,zqk,zql];go_simp;exact hK.out _ _ hS ⟨f0,true,f7,true,true,f15,false,x5,x12,_,x19,_,_,xA,xB,yA,yB,bC,_,rfl,rfl,hC,k0,k1,k2,sA,sB,fun _=>rfl,e5,by simp_all⟩
    ·obtain rfl:=zqd (show some jui=some o from ho)
     have d1:f15=false:=h1;clear hi ho h1;subst d1;obtain rfl:=nb (fun z=>(c4 z).2) rfl;have hC2:=hC.alloc 2 39 #[.slice none 0 0,.slice none 0 0];simp only[Act.put,zqj,zqk,zql];go_simp;exact hK.out _ _ hC2.S ⟨f0,f6,f7,f13,f14,true,false,_,x12,x18,x19,x25,x26,xA,xB,yA,yB,_,_,rfl,rfl,hC2,k0,k1,rfl,sA,sB,e26,fun _=>rfl,by simp_all⟩
    ·obtain rfl:=zqd (show some jlv=some o from ho)
     have d1:f16=false:=h1;have d2:f15=true:=JU hi (o:=jlv) (j:=0) rfl rfl rfl;have d3:f14=true:=JU hi (o:=jlv) (j:=1) rfl rfl rfl;have d4:=c3 d3;have d5:=(c2 d4).1;have d6:=(c2 d4).2;have d7:=c1 d5;have q3:=sA d5;have q4:=sB d4;have q1:=e26 d3;have q2:=e5 d2;clear hi ho h1 e26 e5 sA sB c1 c2 c3 c4;subst d1 d2 d3 d4 d5 d6 d7 q1 q2 q3 q4;have fC:=(hC.c1 2 (by rw[k2];rfl)).1;rw[k2] at fC;replace fC:Y.heap[bC]?=some (.cells #[.slice none 0 0,.slice none 0 0] 39 (0,0)):=fC;simp only[Act.put,zqj,zqk,zql];rw[if_pos (by rfl)];refine wp_store_mid _ _ _ rfl bC 0 #[.slice xA nl yA,.slice xB ni yB] rfl rfl (jiT fC) HIC.out (jfz _ _ rfl rfl) ?_;have hC2:=hC.sto 2 k2 (.slice xA nl yA) (.slice xB ni yB);simp only[Act.put];exact hK.out _ _ hC2.S ⟨true,true,true,true,true,true,true,_,x12,_,x19,_,_,xA,xB,yA,yB,bC,_,rfl,rfl,hC2,k0,k1,rfl,fun _=>rfl,fun _=>rfl,fun _=>rfl,fun _=>rfl,by simp⟩
  ·obtain rfl:nc=k:=by omega
   have HF:=hid (show CodesAt (fun i=>i<w.heap.size\/wr.heap.size<=i) wr (.slice aO nc kO) l/\Below w.heap.size w wr from⟨by
    have hr:=hcs.row;have hl:=HN.out;refine⟨aO,kO,by rw[hl],fun j x hx=>?_⟩;have hj:=(zqb hx).1;rw[hl] at hj;obtain⟨g,cap,e2,hgb,hgl⟩:=hr.form (by omega);have e3:aO=some ⟨g,0,none⟩:=by cases e2;rfl
    rw[e2] at hr;obtain⟨q1,q2⟩:=hcs.at_ j x hj hx;have k0:=hr.cellAt (j*2+0) (by omega);have k1:=hr.cellAt (j*2+1) (by omega);unfold cC at k0 k1;rw[Qe hj (by decide)] at k0 k1;have mono:∀i,i<wr.heap.size->¬(i<w.heap.size\/(Value.slice aO nc kO).ownBlock=some i\/wr.heap.size<=i)->¬(i<w.heap.size\/wr.heap.size<=i):=fun i _ h z=>by
     rcases z with z|z
     ·exact h (.inl z)
     ·exact h (.inr (.inr z))
    refine⟨g,0,lv j,iv j,e3,hgl,(fun z=>by rcases z with z|z<;>omega),?_,?_,q1.mono mono,q2.mono mono⟩
    ·rw[Nat.zero_add];exact k0
    ·rw[Nat.zero_add];exact k1,hcs.bl⟩)
   clear hcs;go_wp2_with fail;go_ret;exact⟨⟨_,rfl,HF.out.1⟩,HF.out.2⟩
end
section
variable {O:Nat->Prop} {w:World} {g b:Nat} {C:CM} {R:Nat->Value}
end
