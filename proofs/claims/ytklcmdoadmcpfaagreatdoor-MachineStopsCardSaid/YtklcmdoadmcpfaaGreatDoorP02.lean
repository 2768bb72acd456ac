/- A part of the proof of MachineStops: pruned, joined and printed small by a script. Conditions: those that each theorem names. -/
import Derived.Test.YtklcmdoadmcpfaaGreatDoorP00
import Derived.RowKit
import Derived.Test.YtklcmdoadmcpfaaGreatDoorProg
import Derived.WalkKit
import Derived.Below
import Derived.Laws.OwnMore
import Derived.Laws.AppendOwn
import Derived.Maps.AppendAt
import Derived.OwnWalk
import Derived.RangeFuncBox
import Derived.Deep.RegionHeld3
import Derived.Deep.QuietTactic
import Derived.Lib.Hide
import Derived.Laws.BitsAllLaws
import Derived.RegionTactic
import Derived.BigRegion
import Derived.BigQuiet
import Derived.Outline
import Derived.IntWalk
set_option maxRecDepth 100000
set_option maxHeartbeats 400000000
namespace Go.Proofs.YtklcmdoadmcpfaaGreatDoor
open Go Go.RowKit
open Go.Lib(hid)
open Go.Proofs.Tryz(prog)
def qQ (M:List Nat) (c:Nat):List Nat:=
 let P:=M++List.replicate (c/64+1-M.length) 0
 P.set (c/64) (P.getD (c/64) 0|||2^(c%64))
def qT (M:List Nat) (c:Nat):Bool:=decide (c/64<M.length)&&(M.getD (c/64) 0).testBit (c%64)
section
variable (M:List Nat)
include M
theorem pad_length (c:Nat):(M++List.replicate (c/64+1-M.length) 0).length=max M.length (c/64+1):=by
 simp;omega
theorem markAt_length (c:Nat):(qQ M c).length=max M.length (c/64+1):=by
 unfold qQ;rw[List.length_set,pad_length]
theorem pad_getD (k i:Nat):(M++List.replicate k 0).getD i 0=M.getD i 0:=by
 by_cases h:i<M.length
 ·simp[List.getD,List.getElem?_append_left h]
 ·have h':M.length<=i:=by omega
  simp only[List.getD];rw[List.getElem?_append_right h',List.getElem?_eq_none h'];by_cases h2:i-M.length<k
  ·rw[List.getElem?_replicate,if_pos h2];rfl
  ·rw[List.getElem?_replicate,if_neg h2]
theorem bitAt_eq (c:Nat):qT M c=(M.getD (c/64) 0).testBit (c%64):=by
 unfold qT;by_cases h:c/64<M.length
 ·simp[h]
 ·have:M.getD (c/64) 0=0:=by
   simp only[List.getD];rw[List.getElem?_eq_none (by omega)];rfl
  simp only[this,Nat.zero_testBit,Bool.and_false]
theorem markAt_getD (c i:Nat):(qQ M c).getD i 0=if i=c/64 then M.getD i 0|||2^(c%64) else M.getD i 0:=by
 unfold qQ;simp only[];by_cases h:i=c/64
 ·subst h
  rw[if_pos rfl];simp only[List.getD_eq_getElem?_getD];rw[List.getElem?_set_self (by rw[pad_length];omega)];have:=pad_getD M (c/64+1-M.length) (c/64);simp only[List.getD_eq_getElem?_getD] at this;rw[Option.getD_some,this]
 ·rw[if_neg h]
  simp only[List.getD_eq_getElem?_getD];rw[List.getElem?_set_ne (fun e=>h e.symm)];have:=pad_getD M (c/64+1-M.length) i;simp only[List.getD_eq_getElem?_getD] at this;exact this
theorem bitAt_markAt (c d:Nat):qT (qQ M c) d=(decide (d=c)||qT M d):=by
 rw[bitAt_eq,bitAt_eq,markAt_getD];by_cases h:d/64=c/64
 ·rw[if_pos h,Nat.testBit_or,Nat.testBit_two_pow]
  by_cases h2:d%64=c%64
  ·have:d=c:=by omega
   subst this;simp
  ·have:d≠c:=fun e=>h2 (by rw[e])
   have h3:¬(c%64=d%64):=fun e=>h2 e.symm;simp[this,h3]
 ·rw[if_neg h]
  have:d≠c:=fun e=>h (by rw[e]);simp[this]
end
theorem markAt_lt {M:List Nat} (hM:∀x∈M,x<18446744073709551616) (c:Nat):∀x∈qQ M c,x<18446744073709551616:=by
 intro x hx;have hP:∀y∈M++List.replicate (c/64+1-M.length) 0,y<18446744073709551616:=by
  intro y hy;rcases List.mem_append.1 hy with h|h
  ·exact hM y h
  ·have:=List.eq_of_mem_replicate h
   omega
 unfold qQ at hx;simp only[] at hx;rcases List.mem_or_eq_of_mem_set hx with h|h
 ·exact hP x h
 ·subst h
  have h1:2^(c%64)<2^64:=Nat.pow_lt_pow_right (by decide) (Nat.mod_lt _ (by decide));have h2:(M++List.replicate (c/64+1-M.length) 0).getD (c/64) 0<2^64:=by
   simp only[List.getD_eq_getElem?_getD];cases e:(M++List.replicate (c/64+1-M.length) 0)[c/64]? with
   |none=>simp
   |some y=>exact hP y (zqc e)
  exact Nat.or_lt_two_pow h2 h1
structure Ob where
 k:Nat
 t:Nat
 ws:List Nat
 to : Nat
def JT (k s t:Nat):Nat:=1+2*k+16*s+268435456*t
def Ob.hw (o:Ob):Nat:=if o.to=0 then JT o.k o.ws.length o.t else 2*o.to
def zb (os:List Ob):List Nat:=os.flatMap fun o=>o.hw::o.ws
def used (os:List Ob):Nat:=(os.map fun o=>1+o.ws.length).sum
def jd (os:List Ob) (j:Nat):Nat:=used (os.take j)
def qf (os:List Ob):List Nat:=((List.range os.length).map (jd os)).foldl qQ []
theorem z6 (a b:List Ob):used (a++b)=used a+used b:=by simp[used]
theorem Zu (o:Ob):used [o]=1+o.ws.length:=by simp[used]
theorem jK (os:List Ob):(zb os).length=used os:=by
 induction os with
 |nil=>rfl
 |cons o l ih=>
  have:zb (o::l)=(o.hw::o.ws)++zb l:=rfl;rw[this,List.length_append,ih];simp[used];omega
theorem QH (a b:List Ob):zb (a++b)=zb a++zb b:=by simp[zb]
theorem Je (a b:List Ob) (j:Nat) (h:j<=a.length):jd (a++b) j=jd a j:=by
 unfold jd;rw[List.take_append_of_le_length h]
theorem qX (a:List Ob):jd a a.length=used a:=by unfold jd;rw[List.take_length]
theorem Qw (os:List Ob) (o:Ob):qf (os++[o])=qQ (qf os) (used os):=by
 unfold qf;rw[List.length_append,List.length_singleton,List.range_succ,List.map_append,List.foldl_append];have e:(List.range os.length).map (jd (os++[o]))=(List.range os.length).map (jd os):=by
  apply List.map_congr_left;intro j hj;exact Je _ _ _ (Nat.le_of_lt (List.mem_range.1 hj))
 rw[e];simp only[List.map_cons,List.map_nil,List.foldl_cons,List.foldl_nil];rw[Je _ _ _ (zqg _),qX]
theorem bitAt_nil (c:Nat):qT [] c=false:=by simp[qT]
section
variable (os:List Ob)
include os
theorem start_succ (j:Nat) (h:j<os.length):jd os (j+1)=jd os j+(1+os[j].ws.length):=by
 unfold jd;rw[List.take_succ_eq_append_getElem h,z6,Zu]
theorem J4 {i j:Nat} (h:i<=j) (hj:j<=os.length):jd os i+(j-i)<=jd os j:=by
 induction j with
 |zero=>obtain rfl:i=0:=by omega
        simp
 |succ j ih=>
  by_cases e:i=j+1
  ·subst e;simp
  ·have:=ih (by omega) (by omega)
   rw[start_succ os j (by omega)];omega
theorem start_inj {i j:Nat} (hi:i<os.length) (hj:j<os.length) (h:jd os i=jd os j):i=j:=by
 rcases Nat.lt_trichotomy i j with a|a|a
 ·have:=J4 os (Nat.le_of_lt a) (Nat.le_of_lt hj);omega
 ·exact a
 ·have:=J4 os (Nat.le_of_lt a) (Nat.le_of_lt hi);omega
theorem Zn {j:Nat} (hj:j<os.length):jd os j+os[j].ws.length<used os:=by
 have h1:=start_succ os j hj;have h2:=J4 os (i:=j+1) (j:=os.length) hj (zqg _);rw[qX] at h2;omega
theorem bitAt_marksL (c:Nat):qT (qf os) c=true↔ ∃j,j<os.length/\jd os j=c:=by
 have gen:∀n,n<=os.length->(qT (qf (os.take n)) c=true↔ ∃j,j<n/\jd os j=c):=by
  intro n;induction n with
  |zero=>intro _;simp[qf,bitAt_nil]
  |succ n ih=>
   intro hn;rw[List.take_succ_eq_append_getElem (by omega),Qw,bitAt_markAt,Bool.or_eq_true,ih (by omega),decide_eq_true_eq];constructor
   ·rintro(h|⟨j,hj,hs⟩)
    ·exact⟨n,by omega,h.symm⟩
    ·exact⟨j,by omega,hs⟩
   ·rintro⟨j,hj,hs⟩
    by_cases e:j=n
    ·subst e;exact .inl hs.symm
    ·exact .inr ⟨j,by omega,hs⟩
 have:=gen os.length (zqg _)
 rwa [List.take_length] at this
theorem marksL_lt:∀x∈qf os,x<18446744073709551616:=by
 have gen:∀(l:List Nat) (M:List Nat),(∀x∈M,x<18446744073709551616)->∀x∈l.foldl qQ M,x<18446744073709551616:=by
  intro l;induction l with
  |nil=>intro M h;exact h
  |cons c l ih=>intro M h;exact ih _ (markAt_lt h c)
 exact gen _ _ (by simp)
theorem flat_at {j:Nat} (hj:j<os.length):(zb os)[jd os j]?=some os[j].hw/\∀i,i<os[j].ws.length->(zb os)[jd os j+1+i]?=os[j].ws[i]?:=by
 have e:os=os.take j++(os[j]::os.drop (j+1)):=by
  rw[<-List.drop_eq_getElem_cons hj,List.take_append_drop]
 have hf:zb os=zb (os.take j)++((os[j].hw::os[j].ws)++zb (os.drop (j+1))):=by
  conv=>lhs;rw[e]
  rw[QH];rfl
 have hl:(zb (os.take j)).length=jd os j:=by rw[jK];rfl
 constructor
 ·rw[hf,List.getElem?_append_right (by omega),hl,Nat.sub_self];rfl
 ·intro i hi
  rw[hf,List.getElem?_append_right (by omega),hl,show jd os j+1+i-jd os j=i+1 by omega];rw[List.getElem?_append_left (by simp;omega)];rfl
end
def u64s (l:List Nat):List Value:=l.map fun(n:Nat)=>Value.int .u64 (n:Int)
theorem u64s_length (l:List Nat):(u64s l).length=l.length:=by simp[u64s]
theorem Zh (a b:List Nat):u64s (a++b)=u64s a++u64s b:=by simp[u64s]
theorem u64s_set (l:List Nat) (j z:Nat):u64s (l.set j z)=(u64s l).set j (.int .u64 (z:Int)):=by simp[u64s,List.map_set]
theorem u64s_get (l:List Nat) (j:Nat) (h:j<l.length):(u64s l)[j]?=some (.int .u64 ((l.getD j 0:Nat):Int)):=by
 simp[u64s,List.getD,h]
structure Fr (O:Nat->Prop) (w w':World):Prop where
 os:w'.os=w.os
 tape:w'.tape=w.tape
 output:w'.output=w.output
 size:w.heap.size<=w'.heap.size
 block:∀i,i<w.heap.size->¬O i->w'.heap[i]?=w.heap[i]?
section
variable {O P:Nat->Prop} {w w1 w2:World}
theorem Fr.refl (O:Nat->Prop) (w:World):Fr O w w:=⟨rfl,rfl,rfl,zqg _,fun _ _ _=>rfl⟩
section
variable (h:Fr O w w1)
include h
theorem Fr.trans (h2:Fr P w1 w2) (hs:∀i,P i->O i\/w.heap.size<=i):Fr O w w2:=
 ⟨h2.os.trans h.os,h2.tape.trans h.tape,h2.output.trans h.output,Nat.le_trans h.size h2.size,fun i hi hn=>(h2.block i (Nat.lt_of_lt_of_le hi h.size) (fun hp=>by
  rcases hs i hp with a|a
  ·exact hn a
  ·omega)).trans (h.block i hi hn)⟩
theorem Fr.mono (hs:∀i,O i->P i\/w.heap.size<=i):Fr P w w1:=
 ⟨h.os,h.tape,h.output,h.size,fun i hi hn=>h.block i hi (fun ho=>by
  rcases hs i ho with a|a
  ·exact hn a
  ·omega)⟩
theorem Fr.drewN (n:Nat):Fr O w (w1.drewN n):=⟨h.os,h.tape,h.output,h.size,h.block⟩
theorem Fr.drew:Fr O w w1.drew:=⟨h.os,h.tape,h.output,h.size,h.block⟩
theorem Fr.alloc (o:Obj):Fr O w (w1.alloc o):=
 ⟨h.os,h.tape,h.output,Nat.le_trans h.size (by simp),fun i hi hn=>(Below.heap_alloc w1 o i (Nat.lt_of_lt_of_le hi h.size)).trans (h.block i hi hn)⟩
theorem Fr.setCell {p:Addr} (hp:O p.block\/w.heap.size<=p.block) (v:Value):Fr O w (w1.setCell p v):=
 ⟨h.os,h.tape,h.output,by simpa[World.setCell] using h.size,fun i hi hn=>(heap_setCell_other w1 p i v (fun e=>by
  rcases hp with a|a
  ·exact hn (e▸a)
  ·omega)).trans (h.block i hi hn)⟩
theorem Fr.grown {row:Option Nat} (hg:w1.grownBy w2 row) (hr:∀k,row=some k->O k\/w.heap.size<=k):Fr O w w2:=
 ⟨hg.os.trans h.os,hg.tape.trans h.tape,hg.output.trans h.output,Nat.le_trans h.size hg.size,fun i hi hn=>(hg.block i (Nat.lt_of_lt_of_le hi h.size) (fun e=>by
  rcases hr i e.symm with a|a
  ·exact hn a
  ·omega)).trans (h.block i hi hn)⟩
end
theorem Fr.of_below (h:Below w.heap.size w w1):Fr O w w1:=⟨h.os,h.tape,h.output,h.size,fun i hi _=>h.block i hi⟩
section
variable (h:Fr O w w1)
include h
theorem Fr.below {B:Nat} (hB:B<=w.heap.size) (ho:∀i,O i->B<=i):Below B w w1:=
 ⟨h.os,h.tape,h.output,h.size,fun i hi=>h.block i (Nat.lt_of_lt_of_le hi hB) (fun hn=>absurd (ho i hn) (by omega))⟩
theorem Fr.cell {p:Addr} (hp:p.block<w.heap.size) (hn:¬O p.block):w1.cell? p=w.cell? p:=World.cell?_of_block (h.block p.block hp hn)
theorem Fr.frozen {p:Addr} (hp:p.block<w.heap.size) (hn:¬O p.block):w1.frozen? p=w.frozen? p:=World.frozen?_of_block (h.block p.block hp hn)
theorem Fr.cell_some {p:Addr} {v:Value} (hc:w.cell? p=some v) (hn:¬O p.block):w1.cell? p=some v:=(h.cell (World.block_lt_of_cell? w _ hc) hn).trans hc
theorem Fr.own {B:Nat} {e:TypeId} {v:Value} {n:Nat} {xs:List Value} (hr:w.ownsRow B e 1 v n xs) (hn:∀g,v.ownBlock=some g->¬O g):w1.ownsRow B e 1 v n xs:=by
 refine⟨hr.1,?_⟩;rcases hr.2 with h0|⟨g,cap,cur,rfl,hb,hg,rest⟩
 ·exact .inl h0
 ·exact .inr ⟨g,cap,cur,rfl,hb,(h.block g (zqa hg).1 (hn g rfl)).trans hg,rest⟩
end
end
def Own (b:Nat) (R:Nat->Value):Nat->Prop:=fun i=>i=b\/∃r,r<4/\(R r).ownBlock=some i
structure MemV (w:World) (b W h:Nat) (R:Nat->Value) (L:Nat->List Nat):Prop where
 c0:w.cell? ⟨b,0,none⟩=some (.int .i64 W)
 c1:w.cell? ⟨b,1,none⟩=some (.int .i64 h)
 cr:∀r,r<4->w.cell? ⟨b,2+r,none⟩=some (R r)
 fz:∀j,w.frozen? ⟨b,j,none⟩=false
 own:∀r,r<4->w.ownsRow 0 65 1 (R r) (L r).length (u64s (L r))
 sep:∀r s,r<4->s<4->r≠s->∀g,(R r).ownBlock=some g->(R s).ownBlock≠some g
 far:∀r,r<4->(R r).ownBlock≠some b
section
variable {w w1:World} {b W h:Nat} {R:Nat->Value} {L:Nat->List Nat}
section
variable (m:MemV w b W h R L)
include m
theorem MemV.lt:b<w.heap.size:=World.block_lt_of_cell? w _ m.c0
theorem MemV.own_lt:∀i,Own b R i->i<w.heap.size:=by
 rintro i (rfl|⟨r,hr,hg⟩)
 ·exact m.lt
 ·exact((m.own r hr).lt i hg).2
theorem MemV.shape {r:Nat} (hr:r<4):∃a cap,R r=.slice a (L r).length cap/\(L r).length<=cap/\cap<=9223372036854775807:=by
 rcases(m.own r hr).2 with⟨hv,h0⟩|⟨g,cap,cur,hv,_,_,h1,h2,_⟩
 ·exact⟨none,0,by rw[hv,h0],by omega,by omega⟩
 ·exact⟨_,cap,hv,h1,by simpa[maxLen] using h2⟩
theorem MemV.some_row {r j:Nat} (hr:r<4) (hj:j<(L r).length):∃g cap,R r=.slice (some ⟨g,0,none⟩) (L r).length cap/\(L r).length<=cap/\cap<=9223372036854775807:=by
 rcases(m.own r hr).2 with⟨_,h0⟩|⟨g,cap,cur,hv,_,_,h1,h2,_⟩
 ·omega
 ·exact⟨g,cap,hv,h1,by simpa[maxLen] using h2⟩
theorem MemV.row_cell {r j g n cap:Nat} (hr:r<4) (hj:j<(L r).length) (hv:R r=.slice (some ⟨g,0,none⟩) n cap):w.cell? ⟨g,j,none⟩=some (.int .u64 (((L r).getD j 0:Nat):Int))/\w.frozen? ⟨g,j,none⟩=false:=by
 have ho:=m.own r hr;obtain⟨a,c,hs,_⟩:=m.shape hr;rw[hv] at hs;have hn:n=(L r).length:=by injection hs
 rw[hv,hn] at ho;exact⟨(ho.cellAt j (by omega)).trans (u64s_get _ _ hj),ho.frozenAt j⟩
theorem MemV.kept {O:Nat->Prop} (hf:Fr O w w1) (hn:∀i,Own b R i->¬O i):MemV w1 b W h R L:=
 ⟨hf.cell_some m.c0 (hn b (.inl rfl)),hf.cell_some m.c1 (hn b (.inl rfl)),fun r hr=>hf.cell_some (m.cr r hr) (hn b (.inl rfl)),fun j=>(hf.frozen m.lt (hn b (.inl rfl))).trans (m.fz j),
  fun r hr=>hf.own (m.own r hr) (fun g hg=>hn g (.inr ⟨r,hr,hg⟩)),m.sep,m.far⟩
theorem MemV.below (hb:Below w.heap.size w w1):MemV w1 b W h R L:=m.kept (Fr.of_below (O:=fun _=>False) hb) (fun _ _=>id)
theorem MemV.drewN (n:Nat):MemV (w.drewN n) b W h R L:=m.kept ((Fr.refl (fun _=>False) w).drewN n) (fun _ _=>id)
end
def Jp {α:Type} (f:Nat->α) (r:Nat) (v:α):Nat->α:=fun s=>if s=r then v else f s
theorem js {α:Type} (f:Nat->α) (r:Nat) (v:α):Jp f r v r=v:=by simp[Jp]
theorem jh {α:Type} (f:Nat->α) {r s:Nat} (v:α) (h:s≠r):Jp f r v s=f s:=by simp[Jp,h]
theorem MemV.set_half (m:MemV w b W h R L) (h':Nat):MemV (w.setCell ⟨b,1,none⟩ (.int .i64 h')) b W h' R L:=by
 have hc:∀(o:Nat) (v:Value),o≠1->w.cell? ⟨b,o,none⟩=some v->(w.setCell ⟨b,1,none⟩ (.int .i64 h')).cell? ⟨b,o,none⟩=some v:=fun o v ho hv=>(World.cell?_setCell_other _ _ _ _ (by intro q;injection q with _ q2;exact ho q2.symm)).trans hv;have hf:Fr (·=b) w (w.setCell ⟨b,1,none⟩ (.int .i64 h')):=(Fr.refl (·=b) w).setCell (p:=⟨b,1,none⟩) (.inl rfl) _;exact⟨hc 0 _ (by decide) m.c0,World.cell?_setCell_same _ _ _ m.c1,fun r hr=>hc _ _ (by omega) (m.cr r hr),fun j=>(World.frozen?_setCell _ _ _ _).trans (m.fz j),
  fun r hr=>hf.own (m.own r hr) (fun g hg e=>m.far r hr (e▸hg)),m.sep,m.far⟩
theorem MemV.set_row (m:MemV w b W h R L) {r:Nat} (hr:r<4) {v:Value} {l:List Nat} (hv:w.ownsRow 0 65 1 v l.length (u64s l)) (hs:∀g,v.ownBlock=some g->g≠b/\∀s,s<4->s≠r->(R s).ownBlock≠some g):
  MemV (w.setCell ⟨b,2+r,none⟩ v) b W h (Jp R r v) (Jp L r l):=by
 have hc:∀(o:Nat) (u:Value),o≠2+r->w.cell? ⟨b,o,none⟩=some u->(w.setCell ⟨b,2+r,none⟩ v).cell? ⟨b,o,none⟩=some u:=fun o u ho hu=>(World.cell?_setCell_other _ _ _ _ (by intro q;injection q with _ q2;exact ho q2.symm)).trans hu;have hf:Fr (·=b) w (w.setCell ⟨b,2+r,none⟩ v):=(Fr.refl (·=b) w).setCell (p:=⟨b,2+r,none⟩) (.inl rfl) _;refine⟨hc 0 _ (by omega) m.c0,hc 1 _ (by omega) m.c1,fun s hs4=>?_,fun j=>(World.frozen?_setCell _ _ _ _).trans (m.fz j),fun s hs4=>?_,fun s t hs4 ht4 hne g=>?_,fun s hs4=>?_⟩
 ·by_cases e:s=r
  ·subst e;rw[js];exact World.cell?_setCell_same _ _ _ (m.cr s hs4)
  ·rw[jh _ _ e];exact hc _ _ (by omega) (m.cr s hs4)
 ·by_cases e:s=r
  ·subst e;rw[js,js];exact hf.own hv (fun g hg q=>(hs g hg).1 q)
  ·rw[jh _ _ e,jh _ _ e];exact hf.own (m.own s hs4) (fun g hg q=>m.far s hs4 (q▸hg))
 ·by_cases e:s=r
  ·subst e
   rw[js,jh _ _ (fun q=>hne q.symm)];exact fun hg=>(hs g hg).2 t ht4 (fun q=>hne q.symm)
  ·rw[jh _ _ e]
   by_cases e2:t=r
   ·subst e2
    rw[js];exact fun hg hg2=>(hs g hg2).2 s hs4 e hg
   ·rw[jh _ _ e2]
    exact m.sep s t hs4 ht4 hne g
 ·by_cases e:s=r
  ·subst e;rw[js];exact fun hg=>(hs b hg).1 rfl
  ·rw[jh _ _ e];exact m.far s hs4
theorem MemV.set_cell (m:MemV w b W h R L) {r j g n cap z:Nat} (hr:r<4) (hv:R r=.slice (some ⟨g,0,none⟩) n cap):
  MemV (w.setCell ⟨g,j,none⟩ (.int .u64 (z:Int))) b W h R (Jp L r ((L r).set j z)):=by
 have hgb:g≠b:=fun e=>m.far r hr (by rw[hv,e];rfl);have hf:Fr (·=g) w (w.setCell ⟨g,j,none⟩ (.int .u64 (z:Int))):=(Fr.refl (·=g) w).setCell (p:=⟨g,j,none⟩) (.inl rfl) _;have hc:∀(o:Nat) (u:Value),w.cell? ⟨b,o,none⟩=some u->(w.setCell ⟨g,j,none⟩ (.int .u64 (z:Int))).cell? ⟨b,o,none⟩=some u:=fun o u hu=>hf.cell_some hu (fun e=>hgb e.symm);refine⟨hc _ _ m.c0,hc _ _ m.c1,fun s hs=>hc _ _ (m.cr s hs),fun q=>(World.frozen?_setCell _ _ _ _).trans (m.fz q),fun s hs=>?_,m.sep,m.far⟩;by_cases e:s=r
 ·subst e
  rw[js,List.length_set,u64s_set];have ho:=m.own s hs;obtain⟨a,c,hsh,_⟩:=m.shape hs;rw[hv] at hsh;have hn:n=(L s).length:=by injection hsh
  rw[hv,hn] at ho ⊢;exact(ho.stored j _).1
 ·rw[jh _ _ e]
  exact hf.own (m.own s hs) (fun k hk q=>m.sep r s hr hs (fun x=>e x.symm) g (by rw[hv];rfl) (q▸hk))
end
def MS (w0:World) (O:Nat->Prop) (w:World) (b W h:Nat) (L:Nat->List Nat):Prop:=
 ∃R,MemV w b W h R L/\(∀i,Own b R i->O i\/w0.heap.size<=i)/\Fr O w0 w
def qu (k s t:Int):Bool:=decide (0<=s/\s<=16384/\0<=t/\t<=s/\((k=1\/k=3)/\1<=s/\t=s\/k=2/\s=1/\t=1\/k=4/\1<=s/\t=0\/k=5))
theorem JV {k s t:Int} (h:0<=s/\s<=16384/\0<=t/\t<=s/\((k=1\/k=3)/\1<=s/\t=s\/k=2/\s=1/\t=1\/k=4/\1<=s/\t=0\/k=5)):qu k s t=true:=decide_eq_true h
theorem qw {k s t:Int} (h:¬(0<=s/\s<=16384/\0<=t/\t<=s/\((k=1\/k=3)/\1<=s/\t=s\/k=2/\s=1/\t=1\/k=4/\1<=s/\t=0\/k=5))):qu k s t=false:=decide_eq_false h
theorem jW {k:IntKind} {a b:Int} (h:a=b):Ending.returned (.int k a)=.returned (.int k b):=by rw[h]
theorem ret_bool {a b:Bool} (h:a=b):Ending.returned (.bool a)=.returned (.bool b):=by rw[h]
theorem beqT {a b:Int} (h:a=b):(a==b)=true:=by simpa using h
theorem jaa {a b:Int} (h:a≠b):(a==b)=false:=by simpa using h
theorem headed_b0 (k s t:Int) (h0:s<0) (w:World):Calls prog 114 #[.int .i64 k,.int .i64 s,.int .i64 t] w fun e w'=>e=.returned (.bool false)/\w=w':=by
 go_enter Tryz.func114,Tryz.ntmps114;go_wp2;go_ret;exact⟨rfl,rfl⟩
theorem headed_b1 (k s t:Int) (h1:16384<s) (w:World):Calls prog 114 #[.int .i64 k,.int .i64 s,.int .i64 t] w fun e w'=>e=.returned (.bool false)/\w=w':=by
 have q0:=(show¬s<0 by omega);go_enter Tryz.func114,Tryz.ntmps114;go_wp2;go_ret;exact⟨rfl,rfl⟩
theorem headed_b2 (k s t:Int) (h0:0<=s) (h1:s<=16384) (h2:t<0) (w:World):Calls prog 114 #[.int .i64 k,.int .i64 s,.int .i64 t] w fun e w'=>e=.returned (.bool false)/\w=w':=by
 go_enter Tryz.func114,Tryz.ntmps114;go_wp2;go_ret;exact⟨rfl,rfl⟩
theorem headed_b3 (k s t:Int) (h0:0<=s) (h1:s<=16384) (h2:0<=t) (h3:s<t) (w:World):Calls prog 114 #[.int .i64 k,.int .i64 s,.int .i64 t] w fun e w'=>e=.returned (.bool false)/\w=w':=by
 go_enter Tryz.func114,Tryz.ntmps114;go_wp2;go_ret;exact⟨rfl,rfl⟩
theorem headed_k1z (s t:Int) (h0:0<=s) (h1:s<=16384) (h2:0<=t) (h3:t<=s) (g:s<1) (w:World):Calls prog 114 #[.int .i64 1,.int .i64 s,.int .i64 t] w fun e w'=>e=.returned (.bool false)/\w=w':=by
 go_enter Tryz.func114,Tryz.ntmps114;go_wp2;go_ret;exact⟨rfl,rfl⟩
theorem headed_k1n (s t:Int) (h0:0<=s) (h1:s<=16384) (h2:0<=t) (h3:t<=s) (g:1<=s) (e:t≠s) (w:World):Calls prog 114 #[.int .i64 1,.int .i64 s,.int .i64 t] w fun e w'=>e=.returned (.bool false)/\w=w':=by
 have q0:=jaa e;go_enter Tryz.func114,Tryz.ntmps114;go_wp2;go_ret;exact⟨rfl,rfl⟩
theorem headed_k1y (s:Int) (h0:0<=s) (h1:s<=16384) (g:1<=s) (w:World):Calls prog 114 #[.int .i64 1,.int .i64 s,.int .i64 s] w fun e w'=>e=.returned (.bool true)/\w=w':=by
 go_enter Tryz.func114,Tryz.ntmps114;go_wp2;go_ret;exact⟨rfl,rfl⟩
theorem headed_k3z (s t:Int) (h0:0<=s) (h1:s<=16384) (h2:0<=t) (h3:t<=s) (g:s<1) (w:World):Calls prog 114 #[.int .i64 3,.int .i64 s,.int .i64 t] w fun e w'=>e=.returned (.bool false)/\w=w':=by
 go_enter Tryz.func114,Tryz.ntmps114;go_wp2;go_ret;exact⟨rfl,rfl⟩
theorem headed_k3n (s t:Int) (h0:0<=s) (h1:s<=16384) (h2:0<=t) (h3:t<=s) (g:1<=s) (e:t≠s) (w:World):Calls prog 114 #[.int .i64 3,.int .i64 s,.int .i64 t] w fun e w'=>e=.returned (.bool false)/\w=w':=by
 have q0:=jaa e;go_enter Tryz.func114,Tryz.ntmps114;go_wp2;go_ret;exact⟨rfl,rfl⟩
theorem headed_k3y (s:Int) (h0:0<=s) (h1:s<=16384) (g:1<=s) (w:World):Calls prog 114 #[.int .i64 3,.int .i64 s,.int .i64 s] w fun e w'=>e=.returned (.bool true)/\w=w':=by
 go_enter Tryz.func114,Tryz.ntmps114;go_wp2;go_ret;exact⟨rfl,rfl⟩
theorem headed_k2n (s t:Int) (h0:0<=s) (h1:s<=16384) (h2:0<=t) (h3:t<=s) (g:s≠1) (w:World):Calls prog 114 #[.int .i64 2,.int .i64 s,.int .i64 t] w fun e w'=>e=.returned (.bool false)/\w=w':=by
 have q0:=jaa g;go_enter Tryz.func114,Tryz.ntmps114;go_wp2;go_ret;exact⟨rfl,rfl⟩
theorem headed_k2m (t:Int) (h2:0<=t) (h3:t<=1) (e:t≠1) (w:World):Calls prog 114 #[.int .i64 2,.int .i64 1,.int .i64 t] w fun e w'=>e=.returned (.bool false)/\w=w':=by
 have q0:=jaa e;go_enter Tryz.func114,Tryz.ntmps114;go_wp2;go_ret;exact⟨rfl,rfl⟩
theorem headed_k2y (w:World):Calls prog 114 #[.int .i64 2,.int .i64 1,.int .i64 1] w fun e w'=>e=.returned (.bool true)/\w=w':=by
 go_enter Tryz.func114,Tryz.ntmps114;go_wp2;go_ret;exact⟨rfl,rfl⟩
theorem headed_k4z (s t:Int) (h0:0<=s) (h1:s<=16384) (h2:0<=t) (h3:t<=s) (g:s<1) (w:World):Calls prog 114 #[.int .i64 4,.int .i64 s,.int .i64 t] w fun e w'=>e=.returned (.bool false)/\w=w':=by
 go_enter Tryz.func114,Tryz.ntmps114;go_wp2;go_ret;exact⟨rfl,rfl⟩
theorem headed_k4n (s t:Int) (h0:0<=s) (h1:s<=16384) (h2:0<=t) (h3:t<=s) (g:1<=s) (e:t≠0) (w:World):Calls prog 114 #[.int .i64 4,.int .i64 s,.int .i64 t] w fun e w'=>e=.returned (.bool false)/\w=w':=by
 have q0:=jaa e;go_enter Tryz.func114,Tryz.ntmps114;go_wp2;go_ret;exact⟨rfl,rfl⟩
theorem headed_k4y (s:Int) (h0:0<=s) (h1:s<=16384) (g:1<=s) (w:World):Calls prog 114 #[.int .i64 4,.int .i64 s,.int .i64 0] w fun e w'=>e=.returned (.bool true)/\w=w':=by
 go_enter Tryz.func114,Tryz.ntmps114;go_wp2;go_ret;exact⟨rfl,rfl⟩
theorem headed_k5 (s t:Int) (h0:0<=s) (h1:s<=16384) (h2:0<=t) (h3:t<=s) (w:World):Calls prog 114 #[.int .i64 5,.int .i64 s,.int .i64 t] w fun e w'=>e=.returned (.bool true)/\w=w':=by
 go_enter Tryz.func114,Tryz.ntmps114;go_wp2;go_ret;exact⟨rfl,rfl⟩
theorem headed_kx (k s t:Int) (h0:0<=s) (h1:s<=16384) (h2:0<=t) (h3:t<=s) (e1:k≠1) (e2:k≠2) (e3:k≠3) (e4:k≠4) (e5:k≠5) (w:World):Calls prog 114 #[.int .i64 k,.int .i64 s,.int .i64 t] w fun e w'=>e=.returned (.bool false)/\w=w':=by
 have q0:=jaa e1;have q1:=jaa e2;have q2:=jaa e3;have q3:=jaa e4;have q4:=jaa e5;go_enter Tryz.func114,Tryz.ntmps114;go_wp2;go_ret;exact⟨rfl,rfl⟩
theorem headed_any (k s t:Int) (w:World):Calls prog 114 #[.int .i64 k,.int .i64 s,.int .i64 t] w fun e w'=>e=.returned (.bool (qu k s t))/\w=w':=by
 by_cases h0:s<0
 ·rw[qw (by omega)];exact headed_b0 k s t h0 w
 by_cases h1:16384<s
 ·rw[qw (by omega)];exact headed_b1 k s t h1 w
 by_cases h2:t<0
 ·rw[qw (by omega)];exact headed_b2 k s t (by omega) (by omega) h2 w
 by_cases h3:s<t
 ·rw[qw (by omega)];exact headed_b3 k s t (by omega) (by omega) (by omega) h3 w
 by_cases e1:k=1
 ·subst e1
  by_cases g:s<1
  ·rw[qw (by omega)];exact headed_k1z s t (by omega) (by omega) (by omega) (by omega) g w
  by_cases e:t=s
  ·subst e;rw[JV (by omega)];exact headed_k1y t (by omega) (by omega) (by omega) w
  ·rw[qw (by omega)];exact headed_k1n s t (by omega) (by omega) (by omega) (by omega) (by omega) e w
 by_cases e3:k=3
 ·subst e3
  by_cases g:s<1
  ·rw[qw (by omega)];exact headed_k3z s t (by omega) (by omega) (by omega) (by omega) g w
  by_cases e:t=s
  ·subst e;rw[JV (by omega)];exact headed_k3y t (by omega) (by omega) (by omega) w
  ·rw[qw (by omega)];exact headed_k3n s t (by omega) (by omega) (by omega) (by omega) (by omega) e w
 by_cases e2:k=2
 ·subst e2
  by_cases g:s=1
  ·subst g
   by_cases e:t=1
   ·subst e;rw[JV (by omega)];exact headed_k2y w
   ·rw[qw (by omega)];exact headed_k2m t (by omega) (by omega) e w
  ·rw[qw (by omega)];exact headed_k2n s t (by omega) (by omega) (by omega) (by omega) g w
 by_cases e4:k=4
 ·subst e4
  by_cases g:s<1
  ·rw[qw (by omega)];exact headed_k4z s t (by omega) (by omega) (by omega) (by omega) g w
  by_cases e:t=0
  ·subst e;rw[JV (by omega)];exact headed_k4y s (by omega) (by omega) (by omega) w
  ·rw[qw (by omega)];exact headed_k4n s t (by omega) (by omega) (by omega) (by omega) (by omega) e w
 by_cases e5:k=5
 ·subst e5;rw[JV (by omega)];exact headed_k5 s t (by omega) (by omega) (by omega) (by omega) w
 ·rw[qw (by omega)];exact headed_kx k s t (by omega) (by omega) (by omega) (by omega) e1 e2 e3 e4 e5 w
theorem zW {k s t:Int} (h:qu k s t=true):1<=k/\k<=5/\0<=s/\s<=16384/\0<=t/\t<=s:=by
 have:=of_decide_eq_true h;omega
def hdrI (k s t:Int):Int:=1+2*k+16*s+268435456*t
theorem or_addI (k:Nat) (x y:Int) (h0:0<=x) (hx:x<2^k) (hk:k<=63) (hy0:0<=y) (hy:y%2^k=0) (h2:y<18446744073709551616):bits BinOp.or IntKind.u64 x y=x+y:=by
 obtain⟨X,rfl⟩:=Int.eq_ofNat_of_zero_le h0;obtain⟨Y,rfl⟩:=Int.eq_ofNat_of_zero_le hy0;have hk2:(2:Nat)^k<=2^63:=Nat.pow_le_pow_right (by decide) hk;have hX:X<2^k:=by exact_mod_cast hx
 have hY:Y%2^k=0:=by exact_mod_cast hy
 have h63:(2:Nat)^63<18446744073709551616:=by decide
 rw[u64_or_nat X Y (by omega) (by omega)];have e:Y=2^k*(Y/2^k):=by have:=Nat.div_add_mod Y (2^k);omega
 have h:=Nat.two_pow_add_eq_or_of_lt hX (Y/2^k);rw[<-e] at h;rw[Nat.or_comm,<-h];omega
theorem hdr_isa {k s t:Int} (h:qu k s t=true):bits BinOp.or IntKind.u64 (bits BinOp.or IntKind.u64 (bits BinOp.or IntKind.u64 1 (k*2)) (s*16)) (t*268435456)=hdrI k s t:=by
 obtain⟨a,b,c,d,e,f⟩:=zW h;rw[or_addI 1 1 (k*2) (by omega) (by omega) (by omega) (by omega) (by omega) (by omega),or_addI 4 (1+k*2) (s*16) (by omega) (by omega) (by omega) (by omega) (by omega) (by omega),or_addI 28 _ (t*268435456) (by omega) (by omega) (by omega) (by omega) (by omega) (by omega)];unfold hdrI;omega
theorem ret2 {a b c d:Int} {x y:IntKind} (h1:a=b) (h2:c=d):Ending.returned (.tuple #[.int x a,.int y c])=.returned (.tuple #[.int x b,.int y d]):=by rw[h1,h2]
theorem header_yes (k s t:Int) (h:qu k s t=true) (w:World):Calls prog 73 #[.int .i64 k,.int .i64 s,.int .i64 t] w fun e w'=>e=.returned (.tuple #[.int .u64 (hdrI k s t),.int .i64 0])/\w=w':=by
 obtain⟨a,b,c,d,e,f⟩:=zW h;have H:=hid h;clear h;go_enter Tryz.func73,Tryz.ntmps73;go_wp2_with fail;refine(headed_any k s t _).mono ?_;rintro e w' ⟨rfl,rfl⟩;rw[H.out];go_wp2_with fail;go_ret2;exact⟨ret2 (by exact hdr_isa H.out) rfl,rfl⟩
def kN (N:Nat):Int:=((N/2%8:Nat):Int)
def zN (N:Nat):Int:=((N/16%16777216:Nat):Int)
def tN (N:Nat):Int:=((N/268435456%16777216:Nat):Int)
theorem and_mask (N j:Nat) (h:N<18446744073709551616) (hj:j<=32):wrap64 (bits BinOp.and IntKind.u64 ((N:Nat):Int) ((2^j-1:Nat):Int))=((N%2^j:Nat):Int):=by
 have h32:2^j<=2^32:=Nat.pow_le_pow_right (by decide) hj;have hp:0<2^j:=Nat.pow_pos (by decide);rw[u64_and_nat N (2^j-1) h (by omega),Nat.and_two_pow_sub_one_eq_mod];have:=Nat.mod_lt N hp;unfold wrap64;omega
section
variable (N:Nat) (h:N<18446744073709551616)
include N h
theorem split_k:wrap64 (bits BinOp.and IntKind.u64 ((N:Int)/2) 7)=kN N:=by
 have:=and_mask (N/2) 3 (by omega) (by decide);simpa[kN] using this
theorem split_z:wrap64 (bits BinOp.and IntKind.u64 ((N:Int)/16) 16777215)=zN N:=by
 have:=and_mask (N/16) 24 (by omega) (by decide);simpa[zN] using this
theorem split_t:wrap64 (bits BinOp.and IntKind.u64 ((N:Int)/268435456) 16777215)=tN N:=by
 have:=and_mask (N/268435456) 24 (by omega) (by decide);simpa[tN] using this
end
theorem ret3 {a b c d e f:Int} {x y z:IntKind} (h1:a=b) (h2:c=d) (h3:e=f):Ending.returned (.tuple #[.int x a,.int y c,.int z e])=.returned (.tuple #[.int x b,.int y d,.int z f]):=by rw[h1,h2,h3]
theorem split_any (N:Nat) (h:N<18446744073709551616) (w:World):Calls prog 113 #[.int .u64 N] w fun e w'=>e=.returned (.tuple #[.int .i64 (kN N),.int .i64 (zN N),.int .i64 (tN N)])/\w=w':=by
 have q0:=split_k N h;have q1:=split_z N h;have q2:=split_t N h;go_enter Tryz.func113,Tryz.ntmps113;go_wp2;go_ret3;exact⟨ret3 q0 q1 q2,rfl⟩
theorem results_tmp4 {fn:Func} {t u v x:Tmp} (h:fn.results=#[.tmp t,.tmp u,.tmp v,.tmp x]) (tmps:Array Value) (P:Program) (w:World):
  (results fn tmps).run P w=.ok (.tuple #[tmps.getD t undef,tmps.getD u undef,tmps.getD v undef,tmps.getD x undef]) w:=by simp[results,h]
def jy (h W:Nat) (c:Int):Int:=(if h=0 then 0 else(W:Int))+c+1
theorem adr_0 (W:Nat) (c:Int):jy 0 W c=c+1:=by unfold jy;rw[if_pos rfl];omega
theorem adr_1 (W:Nat) (c:Int):jy 1 W c=W+c+1:=by unfold jy;rw[if_neg (by decide)]
theorem bit_eq (x j:Nat) (hx:x<18446744073709551616):(bits BinOp.and IntKind.u64 ((x:Int)/2^j) 1==1)=x.testBit j:=by
 have e:(x:Int)/2^j=((x/2^j:Nat):Int):=by simp
 have hlt:x/2^j<18446744073709551616:=Nat.lt_of_le_of_lt (Nat.div_le_self _ _) hx;have h1:=u64_and_nat (x/2^j) 1 hlt (by decide);rw[Nat.and_one_is_mod] at h1;rw[e];rw[show((1:Nat):Int)=1 from rfl] at h1;rw[h1,Nat.testBit_eq_decide_div_mod_eq];have h2:=Nat.mod_two_eq_zero_or_one (x/2^j);rcases h2 with h2|h2<;>simp[h2]
structure Sizes (W h:Nat) (L:Nat->List Nat):Prop where
 w0:64<=W
 w1:W<=65536
 hh:h<2
 len:∀r,r<4->(L r).length<=65536
 word:∀r,r<4->∀x∈L r,x<18446744073709551616
section
variable {w:World} {b W h:Nat} {R:Nat->Value} {L:Nat->List Nat}
section
variable (m:MemV w b W h R L)
include m
theorem words_any:Calls prog 33 #[.pointer (some ⟨b,0,none⟩)] w fun e w'=>e=.returned (.int .i64 W)/\w'=w:=by
 have c0:=m.c0;clear m;go_enter Tryz.func33,Tryz.ntmps33;go_wp2;go_ret;exact⟨rfl,rfl⟩
theorem address_any (hW:W<=65536) (k:Nat) (hk:k<2) (c:Int) (h0: -1<=c) (h1:c<=1099511627776):Calls prog 71 #[.pointer (some ⟨b,0,none⟩),.int .i64 k,.int .i64 c] w fun e w'=>e=.returned (.int .i64 (jy k W c))/\w'=w:=by
 have c0:=m.c0;clear m;have hk':k=0\/k=1:=by omega
 rcases hk' with rfl|rfl
 ·go_enter Tryz.func71,Tryz.ntmps71
  go_wp2;go_ret;exact⟨jW (by rw[adr_0]),rfl⟩
 ·go_enter Tryz.func71,Tryz.ntmps71
  go_wp2;go_ret;exact⟨jW (by rw[adr_1]),rfl⟩
theorem next_any (z:Sizes W h L):Calls prog 28 #[.pointer (some ⟨b,0,none⟩)] w fun e w'=>e=.returned (.int .i64 (jy h W (L (h*2)).length))/\∃n,w'=w.drewN n:=by
 have c1:=m.c1;have hl:=z.len (h*2) (by have:=z.hh;omega);have cr:=m.cr (h*2) (by have:=z.hh;omega);obtain⟨a,cap,hv,hle,hcap⟩:=m.shape (r:=h*2) (by have:=z.hh;omega);rw[hv] at cr;have hh0:(0:Int)<=h:=by omega
 have hh1:(h:Int)<2:=by have:=z.hh;omega
 have HM:=hid m;have HZ:=hid z;clear m z hv;go_enter Tryz.func28,Tryz.ntmps28;go_wp2;go_quiet ((go_at_call 71;refine Calls.quiet_of_same (address_any (HM.out.drewN _) HZ.out.w1 h HZ.out.hh _ (by omega) (by omega))));go_wp2;go_ret;exact⟨rfl,_,rfl⟩
theorem free_any (z:Sizes W h L):Calls prog 34 #[.pointer (some ⟨b,0,none⟩)] w fun e w'=>e=.returned (.int .i64 ((W:Int)-(L (h*2)).length))/\∃n,w'=w.drewN n:=by
 have c0:=m.c0;have c1:=m.c1;have hl:=z.len (h*2) (by have:=z.hh;omega);have hw1:=z.w1;have cr:=m.cr (h*2) (by have:=z.hh;omega);obtain⟨a,cap,hv,hle,hcap⟩:=m.shape (r:=h*2) (by have:=z.hh;omega);rw[hv] at cr;have hh0:(0:Int)<=h:=by omega
 have hh1:(h:Int)<2:=by have:=z.hh;omega
 clear m z hv;go_enter Tryz.func34,Tryz.ntmps34;go_wp2;go_quiet (fail);go_wp2;go_ret;exact⟨rfl,_,rfl⟩
theorem marked_in (k c:Nat) (hk:k<2) (hc:c<=9223372036854775807) (hlt:c/64<(L (k*2+1)).length) (hw:∀x∈L (k*2+1),x<18446744073709551616):Calls prog 156 #[.pointer (some ⟨b,2+k*2,none⟩),.int .i64 c] w fun e w'=>e=.returned (.bool (qT (L (k*2+1)) c))/\w'=w:=by
 have cr:w.cell? ⟨b,2+k*2+1,none⟩=some (R (k*2+1)):=m.cr (k*2+1) (by omega);obtain⟨g,cap,hv,hle,hcap⟩:=m.some_row (r:=k*2+1) (by omega) hlt;have cx:=(m.row_cell (r:=k*2+1) (j:=c/64) (by omega) hlt hv).1;rw[hv] at cr;obtain⟨x,hx⟩:∃x,(L (k*2+1)).getD (c/64) 0=x:=⟨_,rfl⟩;rw[hx] at cx;clear m hv;go_enter Tryz.func156,Tryz.ntmps156;go_wp2;go_ret;exact⟨ret_bool (by
  have hxl:x<18446744073709551616:=by
   rw[<-hx,List.getD_eq_getElem?_getD,List.getElem?_eq_getElem hlt];exact hw _ (List.getElem_mem hlt)
  rw[bitAt_eq,hx];exact bit_eq x _ hxl),rfl⟩
theorem marked_out (k c:Nat) (hk:k<2) (hc:c<=9223372036854775807) (hlt:(L (k*2+1)).length<=c/64):Calls prog 156 #[.pointer (some ⟨b,2+k*2,none⟩),.int .i64 c] w fun e w'=>e=.returned (.bool (qT (L (k*2+1)) c))/\w'=w:=by
 have cr:w.cell? ⟨b,2+k*2+1,none⟩=some (R (k*2+1)):=m.cr (k*2+1) (by omega);obtain⟨a,cap,hv,hle,hcap⟩:=m.shape (r:=k*2+1) (by omega);rw[hv] at cr;have hB:qT (L (k*2+1)) c=false:=by unfold qT;rw[decide_eq_false (by omega)];rfl
 rw[hB];clear m hv hB;go_enter Tryz.func156,Tryz.ntmps156;go_wp2;go_ret;exact⟨rfl,rfl⟩
theorem marked_any (z:Sizes W h L) (k c:Nat) (hk:k<2) (hc:c<=9223372036854775807):Calls prog 156 #[.pointer (some ⟨b,2+k*2,none⟩),.int .i64 c] w fun e w'=>e=.returned (.bool (qT (L (k*2+1)) c))/\w'=w:=by
 by_cases hlt:c/64<(L (k*2+1)).length
 ·exact marked_in m k c hk hc hlt (z.word _ (by omega))
 ·exact marked_out m k c hk hc (by omega)
theorem find_lo (z:Sizes W h L) (k:Nat) (hk:k<2) (a:Int) (ha:a<jy k W 0):Calls prog 112 #[.pointer (some ⟨b,0,none⟩),.int .i64 k,.int .i64 a] w fun e w'=>e=.returned (.tuple #[.int .i64 0,.bool false])/\w'=w:=by
 obtain⟨B,hB⟩:∃B,jy k W 0=B:=⟨_,rfl⟩;have HA:=hid (address_any m z.w1 k hk 0 (by decide) (by decide));rw[hB] at ha HA;clear m z hB;go_enter Tryz.func112,Tryz.ntmps112;go_wp2_with fail;refine HA.out.mono ?_;rintro e w1 ⟨rfl,rfl⟩;go_wp2_with fail;go_ret2;exact⟨rfl,rfl⟩
theorem find_hi (z:Sizes W h L) (k:Nat) (hk:k<2) (a:Int) (c:Nat) (ha:a=jy k W c) (ha2:a<=9223372036854775807) (v:Bool) (hv:qT (L (k*2+1)) c=v):Calls prog 112 #[.pointer (some ⟨b,0,none⟩),.int .i64 k,.int .i64 a] w fun e w'=>e=.returned (.tuple #[.int .i64 (if v then(c:Int) else 0),.bool v])/\w'=w:=by
 obtain⟨B,hB⟩:∃B,jy k W 0=B:=⟨_,rfl⟩;have HA:=hid (address_any m z.w1 k hk 0 (by decide) (by decide));have hle:1<=B:=by rw[<-hB];unfold jy;split<;>omega
 have hac:a-B=(c:Int):=by rw[<-hB,ha];unfold jy;omega
 have hab:¬a<B:=by omega
 have HM:=hid (marked_any m z k c hk (by omega));have hk0:(0:Int)<=k:=by omega
 have hk1:(k:Int)<2:=by omega
 rw[hB] at HA;rw[hv] at HM;clear m z hB ha hv;cases v
 ·go_enter Tryz.func112,Tryz.ntmps112
  go_wp2_with fail;refine HA.out.mono ?_;rintro e w1 ⟨rfl,rfl⟩;go_wp2_with fail;refine HA.out.mono ?_;rintro e w1 ⟨rfl,rfl⟩;go_wp2_with fail;refine HM.out.mono ?_;rintro e w1 ⟨rfl,rfl⟩;go_wp2_with fail;go_ret2;exact⟨rfl,rfl⟩
 ·go_enter Tryz.func112,Tryz.ntmps112
  go_wp2_with fail;refine HA.out.mono ?_;rintro e w1 ⟨rfl,rfl⟩;go_wp2_with fail;refine HA.out.mono ?_;rintro e w1 ⟨rfl,rfl⟩;go_wp2_with fail;refine HM.out.mono ?_;rintro e w1 ⟨rfl,rfl⟩;go_wp2_with fail;go_ret2;exact⟨rfl,rfl⟩
end
end
def jm (os:List Ob) (h W:Nat) (a:Int):Option Nat:=(List.range os.length).find? fun j=>decide (jy h W (jd os j:Nat)=a)
theorem adr_inj {h W:Nat} {c d:Int} (e:jy h W c=jy h W d):c=d:=by unfold jy at e;omega
theorem zU {os:List Ob} {h W j:Nat} {a:Int} (e:jm os h W a=some j):j<os.length/\a=jy h W (jd os j:Nat):=by
 unfold jm at e;have h1:=List.find?_some e;have h2:=List.mem_of_find?_eq_some e;exact⟨List.mem_range.1 h2,(of_decide_eq_true h1).symm⟩
theorem idxAt_none {os:List Ob} {h W:Nat} {a:Int} (e:jm os h W a=none):∀j,j<os.length->a≠jy h W (jd os j:Nat):=by
 unfold jm at e;intro j hj q;have:=List.find?_eq_none.1 e j (List.mem_range.2 hj);simp[q] at this
theorem Zp {os:List Ob} {h W j:Nat} (hj:j<os.length):jm os h W (jy h W (jd os j:Nat))=some j:=by
 cases e:jm os h W (jy h W (jd os j:Nat)) with
 |none=>exact absurd rfl (idxAt_none e j hj)
 |some i=>
  obtain⟨hi,hq⟩:=zU e;have:=start_inj os hj hi (by have:=adr_inj hq;omega);rw[this]
def jQ (h:Nat) (now old:List Ob) (r:Nat):List Nat:=if r%2=0 then zb (if r/2=h then now else old) else qf (if r/2=h then now else old)
def ZH (h:Nat) (now old:List Ob) (k:Nat):List Ob:=if k=h then now else old
theorem jS (h k:Nat) (now old:List Ob):jQ h now old (k*2)=zb (ZH h now old k):=by
 unfold jQ ZH;rw[if_pos (by omega),show k*2/2=k by omega]
theorem Jq (h k:Nat) (now old:List Ob):jQ h now old (k*2+1)=qf (ZH h now old k):=by
 unfold jQ ZH;rw[if_neg (by omega),show(k*2+1)/2=k by omega]
theorem zd (h:Nat) (now old:List Ob):ZH h now old h=now:=by unfold ZH;rw[if_pos rfl]
theorem Zr {h k:Nat} (now old:List Ob) (hk:k≠h):ZH h now old k=old:=by unfold ZH;rw[if_neg hk]
structure ObOk (o:Ob):Prop where
 right:qu o.k o.ws.length o.t=true
 to : o.to<=131072
 word:∀x∈o.ws,x<18446744073709551616
def Fresh (os:List Ob):Prop:=∀o∈os,o.to=0
structure WF (W h:Nat) (now old:List Ob):Prop where
 w0:64<=W
 w1:W<=65536
 hh:h<2
 un:used now<=W
 uo:used old<=W
 okn:∀o∈now,ObOk o
 oko:∀o∈old,ObOk o
 fresh:Fresh now
theorem hdr_lt {o:Ob} (h:ObOk o):JT o.k o.ws.length o.t<18446744073709551616:=by
 have:=zW h.right;unfold JT;omega
theorem hw_lt {o:Ob} (h:ObOk o):o.hw<18446744073709551616:=by
 unfold Ob.hw;have h1:=h.to;split
 ·exact hdr_lt h
 ·omega
theorem flat_word {os:List Ob} (h:∀o∈os,ObOk o):∀x∈zb os,x<18446744073709551616:=by
 intro x hx;unfold zb at hx;obtain⟨o,ho,hx⟩:=List.mem_flatMap.1 hx;rcases List.mem_cons.1 hx with e|e
 ·rw[e];exact hw_lt (h o ho)
 ·exact(h o ho).word x e
theorem marksL_length (os:List Ob):(qf os).length<=used os/64+1:=by
 have gen:∀n,n<=os.length->(qf (os.take n)).length<=used (os.take n)/64+1:=by
  intro n;induction n with
  |zero=>intro _;simp[qf]
  |succ n ih=>
   intro hn;have:=ih (by omega);rw[List.take_succ_eq_append_getElem (by omega),Qw,markAt_length,z6,Zu];omega
 have:=gen os.length (zqg _)
 rwa [List.take_length] at this
theorem half_prop {h k:Nat} {now old:List Ob} {P:List Ob->Prop} (h1:P now) (h2:P old):P (ZH h now old k):=by
 unfold ZH;split
 ·exact h1
 ·exact h2
theorem WF.sizes {W h:Nat} {now old:List Ob} (z:WF W h now old):Sizes W h (jQ h now old):=by
 have hu:∀k,used (ZH h now old k)<=W:=fun k=>half_prop (P:=fun l=>used l<=W) z.un z.uo;refine⟨z.w0,z.w1,z.hh,fun r hr=>?_,fun r hr=>?_⟩
 ·have hw1:=z.w1
  by_cases e:r%2=0
  ·obtain⟨k,rfl⟩:∃k,r=k*2:=⟨r/2,by omega⟩
   rw[jS,jK];have:=hu k;omega
  ·obtain⟨k,rfl⟩:∃k,r=k*2+1:=⟨r/2,by omega⟩
   rw[Jq];have:=hu k;have:=marksL_length (ZH h now old k);omega
 ·by_cases e:r%2=0
  ·obtain⟨k,rfl⟩:∃k,r=k*2:=⟨r/2,by omega⟩
   rw[jS];exact flat_word (half_prop (P:=fun l=>∀o∈l,ObOk o) z.okn z.oko)
  ·obtain⟨k,rfl⟩:∃k,r=k*2+1:=⟨r/2,by omega⟩
   rw[Jq];exact marksL_lt _
theorem split_hdr {k s t:Nat} (h:qu k s t=true):kN (JT k s t)=k/\zN (JT k s t)=s/\tN (JT k s t)=t:=by
 have:=zW h;unfold JT kN zN tN;refine⟨?_,?_,?_⟩<;>omega
def zv (w:World) (b W h:Nat) (R:Nat->Value) (now old:List Ob):Prop:=MemV w b W h R (jQ h now old)
section
variable {w:World} {b W h:Nat} {R:Nat->Value} {now old:List Ob}
theorem J2 (m:zv w b W h R now old) (z:WF W h now old) (k:Nat) (hk:k<2) (a:Int) (ha2:a<=9223372036854775807):
  Calls prog 112 #[.pointer (some ⟨b,0,none⟩),.int .i64 k,.int .i64 a] w fun e w'=>e=.returned (match jm (ZH h now old k) k W a with|some j=>.tuple #[.int .i64 (jd (ZH h now old k) j:Nat),.bool true]|none=>.tuple #[.int .i64 0,.bool false])/\w'=w:=by
 have zs:=z.sizes;cases e:jm (ZH h now old k) k W a with
 |some j=>
  obtain⟨hj,ha⟩:=zU e;have hb:qT (jQ h now old (k*2+1)) (jd (ZH h now old k) j)=true:=by
   rw[Jq];exact(bitAt_marksL _ _).2 ⟨j,hj,rfl⟩
  have:=find_hi m zs k hk a _ ha ha2 true hb;simpa using this
 |none=>
  have hn:=idxAt_none e;by_cases hlo:a<jy k W 0
  ·exact find_lo m zs k hk a hlo
  ·have hc:a=jy k W ((a-jy k W 0).toNat:Nat):=by unfold jy at hlo ⊢;omega
   have hb:qT (jQ h now old (k*2+1)) (a-jy k W 0).toNat=false:=by
    cases q:qT (jQ h now old (k*2+1)) (a-jy k W 0).toNat with
    |false=>rfl
    |true=>
     rw[Jq] at q;obtain⟨j,hj,hs⟩:=(bitAt_marksL _ _).1 q;exact absurd (by rw[hs];exact hc) (hn j hj)
   have:=find_hi m zs k hk a _ hc ha2 false hb;simpa using this
end
end Go.Proofs.YtklcmdoadmcpfaaGreatDoor
