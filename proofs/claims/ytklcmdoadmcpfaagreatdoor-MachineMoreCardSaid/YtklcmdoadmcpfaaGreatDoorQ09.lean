/- A part of the proof of MachineMoves. Conditions: those that each theorem names. -/
import Derived.Test.YtklcmdoadmcpfaaGreatDoorQ07
import Derived.Test.YtklcmdoadmcpfaaGreatDoorQ03
import Derived.Deep.CutRange
set_option maxRecDepth 100000
set_option maxHeartbeats 400000000
namespace Go.Proofs.YtklcmdoadmcpfaaGreatDoor
open Go Go.RowKit
open Go.Lib(hid)
open Go.Proofs.Tryz(prog)
def qF (os:List Ob) (h W n:Nat):Option Nat:=jl os h W (jc n)
def qE (os:List Ob) (h W:Nat) (met:List Nat) (n:Nat):Option (List Nat):=
 if n%2=1 then some met else(qF os h W n).map fun j=>if j∈met then met else met++[j]
def z7 (os:List Ob) (h W:Nat):List Nat->List Nat->Option (List Nat)
 |met,[]=>some met
 |met,n::ns=>(qE os h W met n).bind fun m=>z7 os h W m ns
def JW (os:List Ob) (j:Nat):List Nat:=match os[j]? with
 |none=>[]
 |some o=>o.ws.take o.t
def ZO (os:List Ob) (h W:Nat):Nat->Nat->List Nat->Option (List Nat)
 |0,_,met=>some met
 |f+1,i,met=>match met[i]? with
  |none=>some met
  |some j=>(z7 os h W met (JW os j)).bind fun m=>ZO os h W f (i+1) m
def zg (os:List Ob) (h W:Nat) (roots:List Nat):Option (List Nat):=(z7 os h W [] roots).bind fun m=>ZO os h W (os.length+1) 0 m
structure Okm (os:List Ob) (met:List Nat):Prop where
 nd:met.Nodup
 lt:∀j∈met,j<os.length
section
variable {os:List Ob} {h W:Nat} {met:List Nat}
theorem jbL:Okm os []:=⟨List.nodup_nil,fun _ h=>by cases h⟩
theorem Q5 {l:List Nat} {n:Nat} (hn:l.Nodup) (hl:∀j∈l,j<n):l.length<=n:=by
 induction n generalizing l with
 |zero=>cases l with
  |nil=>exact zqg _
  |cons a l=>exact absurd (hl a (by simp)) (by omega)
 |succ n ih=>
  by_cases hm:n∈l
  ·have h1:=ih (hn.erase n) (fun j hj=>by
    have h2:=(hn.mem_erase_iff).1 hj;have:=hl j h2.2;have:=h2.1;omega)
   rw[List.length_erase_of_mem hm] at h1;omega
  ·have:=ih hn (fun j hj=>by
    have:=hl j hj;have:j≠n:=fun e=>hm (e▸hj);omega)
   omega
theorem Okm.len (k:Okm os met):met.length<=os.length:=Q5 k.nd k.lt
theorem jqo {n j:Nat} (e:qF os h W n=some j):j<os.length:=(zF e).1
theorem Okm.snoc (k:Okm os met) {j:Nat} (hj:j<os.length) (hn:j∉met):Okm os (met++[j]):=by
 refine⟨?_,fun i hi=>?_⟩
 ·rw[List.nodup_append]
  exact⟨k.nd,by simp,fun a ha b hb=>by
   obtain rfl:=List.mem_singleton.1 hb;intro e;exact hn (e▸ha)⟩
 ·rcases List.mem_append.1 hi with a|a
  ·exact k.lt i a
  ·obtain rfl:=List.mem_singleton.1 a
   exact hj
theorem QY {n:Nat} (hn:n%2=1):qE os h W met n=some met:=if_pos hn
theorem jbc {n:Nat} (hn:n%2≠1) (e:qF os h W n=none):qE os h W met n=none:=by unfold qE;rw[if_neg hn,e];rfl
theorem Q0 {n j:Nat} (hn:n%2≠1) (e:qF os h W n=some j) (hj:j∈met):qE os h W met n=some met:=by unfold qE;rw[if_neg hn,e];simp[hj]
theorem QZ {n j:Nat} (hn:n%2≠1) (e:qF os h W n=some j) (hj:j∉met):qE os h W met n=some (met++[j]):=by unfold qE;rw[if_neg hn,e];simp[hj]
theorem QP (met:List Nat) (n:Nat):n%2=1\/(n%2≠1/\qF os h W n=none)\/(n%2≠1/\∃j,qF os h W n=some j/\j∈met)\/(n%2≠1/\∃j,qF os h W n=some j/\j∉met):=by
 by_cases hn:n%2=1
 ·exact .inl hn
 ·cases e:qF os h W n with
  |none=>exact .inr (.inl ⟨hn,rfl⟩)
  |some j=>
   by_cases hj:j∈met
   ·exact .inr (.inr (.inl ⟨hn,j,rfl,hj⟩))
   ·exact .inr (.inr (.inr ⟨hn,j,rfl,hj⟩))
theorem jnC {n:Nat} {m:List Nat} (k:Okm os met) (e:qE os h W met n=some m):Okm os m:=by
 rcases QP (os:=os) (h:=h) (W:=W) met n with a|⟨a,b⟩|⟨a,j,b,c⟩|⟨a,j,b,c⟩
 ·rw[QY a] at e;cases e;exact k
 ·rw[jbc a b] at e;cases e
 ·rw[Q0 a b c] at e;cases e;exact k
 ·rw[QZ a b c] at e;cases e;exact k.snoc (jqo b) c
theorem QX {ns:List Nat} {m:List Nat} (k:Okm os met) (e:z7 os h W met ns=some m):Okm os m:=by
 induction ns generalizing met with
 |nil=>cases e;exact k
 |cons n ns ih=>
  unfold z7 at e;cases e2:qE os h W met n with
  |none=>rw[e2] at e;cases e
  |some m2=>rw[e2] at e;exact ih (jnC k e2) e
theorem jjx {f i:Nat} {m:List Nat} (k:Okm os met) (e:ZO os h W f i met=some m):Okm os m:=by
 induction f generalizing i met with
 |zero=>cases e;exact k
 |succ f ih=>
  unfold ZO at e;cases e1:met[i]? with
  |none=>rw[e1] at e;cases e;exact k
  |some j=>
   rw[e1] at e;simp only[] at e;cases e2:z7 os h W met (JW os j) with
   |none=>rw[e2] at e;cases e
   |some m2=>rw[e2] at e;exact ih (QX k e2) e
theorem Jb {roots m:List Nat} (e:zg os h W roots=some m):Okm os m:=by
 unfold zg at e;cases e2:z7 os h W [] roots with
 |none=>rw[e2] at e;cases e
 |some m2=>rw[e2] at e;exact jjx (QX jbL e2) e
theorem jeS {ns:List Nat} {k n:Nat} (hn:ns[k]?=some n):z7 os h W met (ns.drop k)=(qE os h W met n).bind fun m=>z7 os h W m (ns.drop (k+1)):=by
 obtain⟨hk,e⟩:=zqb hn;rw[List.drop_eq_getElem_cons hk,e];rfl
theorem jrN {f i:Nat} (hi:met.length<=i):ZO os h W f i met=some met:=by
 cases f with
 |zero=>rfl
 |succ f=>unfold ZO;rw[List.getElem?_eq_none hi]
theorem jht {f i j:Nat} (hj:met[i]?=some j):ZO os h W (f+1) i met=(z7 os h W met (JW os j)).bind fun m=>ZO os h W f (i+1) m:=by
 conv=>lhs;unfold ZO
 rw[hj]
theorem jdq {j:Nat} {o:Ob} (ho:os[j]?=some o):JW os j=o.ws.take o.t:=by unfold JW;rw[ho]
end
def ZZ (os:List Ob) (met:List Nat):List Value:=(List.range (used os)).map fun c=>.bool (met.any fun j=>je os j==c)
theorem jiM (os:List Ob) (met:List Nat):(ZZ os met).length=used os:=by simp[ZZ]
theorem joz (os:List Ob):ZZ os []=List.replicate (used os) (.bool false):=by
 apply List.ext_getElem
 ·simp[ZZ]
 ·intro i h1 h2;simp[ZZ]
theorem jqZ {os:List Ob} {met:List Nat} {j:Nat} (k:Okm os met) (hj:j<os.length):(ZZ os met)[je os j]?=some (.bool (decide (j∈met))):=by
 have hs:=ZB os hj;unfold ZZ;rw[List.getElem?_map,List.getElem?_range (by omega),Option.map_some];congr 2;rw[Bool.eq_iff_iff,List.any_eq_true,decide_eq_true_eq];constructor
 ·rintro⟨i,hi,e⟩
  rw[beq_iff_eq] at e
  rwa [jgF os (k.lt i hi) hj e] at hi
 ·intro hm
  exact⟨j,hm,by simp⟩
theorem joA {os:List Ob} {met:List Nat} {j:Nat}:(ZZ os met).set (je os j) (.bool true)=ZZ os (met++[j]):=by
 apply List.ext_getElem
 ·simp[ZZ]
 ·intro c h1 h2
  simp only[ZZ,List.getElem_set,List.getElem_map,List.getElem_range,List.any_append,List.any_cons,List.any_nil,Bool.or_false];by_cases e:je os j=c
  ·rw[if_pos e];simp[e]
  ·rw[if_neg e];simp[e]
def qd (h W:Nat) (os:List Ob) (met:List Nat):List Int:=met.map fun j=>J7 h W os j
theorem z5 (h W:Nat) (os:List Ob) (met:List Nat):(qd h W os met).length=met.length:=by simp[qd]
theorem jnD (h W:Nat) (os:List Ob) (met:List Nat) (j:Nat):qd h W os met++[J7 h W os j]=qd h W os (met++[j]):=by simp[qd]
theorem jca {h W:Nat} {os:List Ob} {met:List Nat} {i j:Nat} (e:met[i]?=some j):(qd h W os met)[i]?=some (J7 h W os j):=by simp[qd,e]
structure LK (B:Nat) (w:World) (lb b W h:Nat) (R:Nat->Value) (now old:List Ob) (met:List Nat) (sb:Nat) (v:Value):Prop where
 c0:w.cell? ⟨lb,0,none⟩=some (.pointer (some ⟨b,0,none⟩))
 c1:w.cell? ⟨lb,1,none⟩=some (.int .i64 (jx h W 0))
 c2:w.cell? ⟨lb,2,none⟩=some (.slice (some ⟨sb,0,none⟩) (used now) (used now))
 c3:w.cell? ⟨lb,3,none⟩=some v
 fz:∀j,w.frozen? ⟨lb,j,none⟩=false
 os:w.ownsRow B 4 1 (.slice (some ⟨sb,0,none⟩) (used now) (used now)) (used now) (ZZ now met)
 ov:w.ownsRow B 3 1 v met.length (ql (qd h W now met))
 lb0:B<=lb
 ls:sb≠lb
 vl:v.ownBlock≠some lb
 vs:v.ownBlock≠some sb
 m:zi w b W h R now old
 z:WF W h now old
 mb:∀i,Own b R i->i<B
 ok:Okm now met
section
variable {B:Nat} {w w1:World} {lb b W h:Nat} {R:Nat->Value} {now old:List Ob} {met:List Nat} {sb:Nat} {v:Value}
section
variable (k:LK B w lb b W h R now old met sb v)
include k
theorem LK.lt:lb<w.heap.size:=World.block_lt_of_cell? w _ k.c0
theorem LK.below (hb:Below w.heap.size w w1):LK B w1 lb b W h R now old met sb v:=by
 have hf:Fr (fun _=>False) w w1:=Fr.of_below hb;exact⟨hf.cell_some k.c0 id,hf.cell_some k.c1 id,hf.cell_some k.c2 id,hf.cell_some k.c3 id,fun j=>(hf.frozen (p:=⟨lb,j,none⟩) k.lt id).trans (k.fz j),hf.own k.os (fun _ _=>id),hf.own k.ov (fun _ _=>id),k.lb0,k.ls,k.vl,k.vs,k.m.below hb,k.z,k.mb,k.ok⟩
theorem LK.drewN (n:Nat):LK B (w.drewN n) lb b W h R now old met sb v:=k.below ⟨rfl,rfl,rfl,zqg _,fun _ _=>rfl⟩
theorem LK.sb_ge:B<=sb/\sb<w.heap.size:=k.os.lt sb rfl
theorem LK.shape:∃a cap,v=.slice a met.length cap/\met.length<=cap/\cap<=9223372036854775807:=by
 rcases k.ov.2 with⟨hv,h0⟩|⟨g,cap,cur,hv,_,_,h1,h2,_⟩
 ·exact⟨none,0,by rw[hv,h0],by omega,by omega⟩
 ·exact⟨_,cap,hv,h1,by simpa[maxLen] using h2⟩
theorem LK.few:met.length<=65536:=by
 have h1:=k.ok.len;have h2:=JB now (i:=0) (j:=now.length) (Nat.zero_le _) (zqg _);rw[qI] at h2;have:=k.z.un;have:=k.z.w1;omega
theorem LK.mark {j:Nat} (hj:j<now.length):w.cell? ⟨sb,je now j,none⟩=some (.bool (decide (j∈met)))/\w.frozen? ⟨sb,je now j,none⟩=false:=by
 have hs:=ZB now hj;exact⟨(k.os.cellAt _ (by omega)).trans (jqZ k.ok hj),k.os.frozenAt _⟩
end
def ju2 (B:Nat) (w:World) (lb b W h:Nat) (R:Nat->Value) (now old:List Ob) (met:List Nat) (sb n:Nat) (e:Ending) (w':World):Prop:=
 (qE now h W met n=none/\e=.returned (.bool false)/\Below B w w')∨
 (∃m v',qE now h W met n=some m/\e=.returned (.bool true)/\LK B w' lb b W h R now old m sb v'/\Below B w w')
theorem jjJ (w:World) (now:List Ob) (sb j:Nat):Fr (fun i=>i=sb) w (w.setCell ⟨sb,je now j,none⟩ (.bool true)):=(Fr.refl (fun i=>i=sb) w).setCell (p:=⟨sb,je now j,none⟩) (.inl rfl) _
theorem LK.more (k:LK B w lb b W h R now old met sb v) {j:Nat} (hj:j<now.length) (hn:j∉met) {wa wr w2:World} {v':Value} {tmp:Obj} (hwa:wa=w.setCell ⟨sb,je now j,none⟩ (.bool true)) (hwr:Below wa.heap.size wa wr)
  (hown:w2.ownsRow B 3 1 v' (met.length+1) (ql (qd h W now met++[J7 h W now j]))) (hg:(wr.alloc tmp).grownBy w2 v.ownBlock) (hblk:v'.ownBlock=v.ownBlock\/v'.ownBlock=some (wr.alloc tmp).heap.size):
  w2.cell? ⟨lb,3,none⟩=some v/\w2.frozen? ⟨lb,3,none⟩=false/\LK B (w2.setCell ⟨lb,3,none⟩ v') lb b W h R now old (met++[j]) sb v'/\Below B w (w2.setCell ⟨lb,3,none⟩ v'):=by
 subst hwa;have hsb:=k.sb_ge;have hB:B<=w.heap.size:=zqs k.lb0 (Nat.le_of_lt k.lt);have hlt:=k.lt;have f1:=jjJ w now sb j;have f2:Fr (fun i=>i=sb) w wr:=f1.trans (Fr.of_below (O:=fun _=>False) hwr) (fun _ h=>h.elim);have f2':Fr (fun i=>i=sb\/v.ownBlock=some i) w wr:=f2.mono (fun i hi=>.inl (.inl hi));have f3:Fr (fun i=>i=sb\/v.ownBlock=some i) w w2:=f2'.trans (Fr.of_grown hg) (fun i hi=>.inl (.inr hi));have hnl:¬(lb=sb\/v.ownBlock=some lb):=fun e=>by
  rcases e with e|e
  ·exact k.ls e.symm
  ·exact k.vl e
 have hc1:∀(o:Nat) (u:Value),w.cell? ⟨lb,o,none⟩=some u->w2.cell? ⟨lb,o,none⟩=some u:=fun o u hu=>f3.cell_some hu hnl;have hfz:∀o,w2.frozen? ⟨lb,o,none⟩=false:=fun o=>(f3.frozen (p:=⟨lb,o,none⟩) hlt hnl).trans (k.fz o);have hc:∀(o:Nat) (u:Value),o≠3->w.cell? ⟨lb,o,none⟩=some u->(w2.setCell ⟨lb,3,none⟩ v').cell? ⟨lb,o,none⟩=some u:=fun o u ho hu=>(World.cell?_setCell_other _ _ _ _ (by intro q;injection q with _ q2;exact ho q2.symm)).trans (hc1 o u hu);have hfb:Fr (·=lb) w2 (w2.setCell ⟨lb,3,none⟩ v'):=(Fr.refl (·=lb) w2).setCell (p:=⟨lb,3,none⟩) (.inl rfl) _;have f4:Fr (fun i=>i=sb\/v.ownBlock=some i\/i=lb) w (w2.setCell ⟨lb,3,none⟩ v'):=(f3.mono (P:=fun i=>i=sb\/v.ownBlock=some i\/i=lb) (fun i hi=>by
  rcases hi with a|a
  ·exact .inl (.inl a)
  ·exact .inl (.inr (.inl a)))).trans hfb (fun i hi=>.inl (.inr (.inr hi)))
 have hge:∀i,(i=sb\/v.ownBlock=some i\/i=lb)->B<=i:=fun i hi=>by
  rcases hi with a|a|a
  ·rw[a];exact hsb.1
  ·exact(k.ov.lt i a).1
  ·rw[a];exact k.lb0
 have hws:w.heap.size<=wr.heap.size:=f2.size;have hv':∀g,v'.ownBlock=some g->v.ownBlock=some g\/w.heap.size<=g:=fun g hg'=>by
  rcases hblk with e|e
  ·left;rw[<-e];exact hg'
  ·right;rw[e] at hg';have:=zqd hg';simp at this;omega
 have hvl:v'.ownBlock≠some lb:=fun e=>by
  rcases hv' _ e with a|a
  ·exact k.vl a
  ·omega
 have hvs:v'.ownBlock≠some sb:=fun e=>by
  rcases hv' _ e with a|a
  ·exact k.vs a
  ·omega
 refine⟨hc1 _ _ k.c3,hfz 3,⟨hc _ _ (by decide) k.c0,hc _ _ (by decide) k.c1,hc _ _ (by decide) k.c2,World.cell?_setCell_same _ _ _ (hc1 _ _ k.c3),fun o=>(World.frozen?_setCell _ _ _ _).trans (hfz o),?_,?_,k.lb0,k.ls,hvl,hvs,MemV.kept k.m f4 (fun i hi ho=>by have:=k.mb i hi;have:=hge i ho;omega),k.z,k.mb,k.ok.snoc hj hn⟩,f4.below hB hge⟩
 ·have h1:=(k.os.stored (je now j) (.bool true)).1
  rw[joA] at h1;have h2:=(Fr.of_below (O:=fun _=>False) hwr).own h1 (fun _ _=>id);have h3:=(Fr.of_grown hg).own h2 (fun g hg' e=>by
   have:sb=g:=by simpa[Value.ownBlock] using hg'
   exact k.vs (this▸e))
  exact hfb.own h3 (fun g hg' e=>by
   have:sb=g:=by simpa[Value.ownBlock] using hg'
   exact k.ls (this.trans e))
 ·rw[zqm,List.length_singleton,<-jnD]
  exact hfb.own hown (fun g hg' e=>hvl (e▸hg'))
theorem jva:(prog.info? 3).map (fun i=>(i.zero,i.size,i.bytes))=some (some (.int .i64 0),1,8):=by kernel_rfl
theorem jp9 (k:LK B w lb b W h R now old met sb v) (n:Nat) (hn:n<18446744073709551616):
  Calls prog 154 #[.pointer (some ⟨lb,0,none⟩),.int .u64 n] w (ju2 B w lb b W h R now old met sb n):=by
 have hI:=fun W1=>j5 (n:Int) W1 (by omega) (by omega);have hT:=fun W1=>jQ (n:Int) W1 (by omega) (by omega);have HI:=hid hI;have HT:=hid hT;have c0:=k.c0;have c1:=k.c1;have c2:=k.c2;have c3:=k.c3;have ha2:jc (n:Int)<=9223372036854775807:=by unfold jc;split<;>omega
 have HA:=hid ha2;have HK:=hid k;clear hI hT ha2;rcases QP (os:=now) (h:=h) (W:=W) met n with a|⟨a,e⟩|⟨a,j,e,hj⟩|⟨a,j,e,hj⟩
 ·have q0:jj (n:Int)=true:=by unfold jj;simpa using by omega
  rw[q0] at HI;have HS:=hid (QY (os:=now) (h:=h) (W:=W) (met:=met) a);clear k c0 c1 c2 c3 a q0 HT HA;go_enter Tryz.func154,Tryz.ntmps154;go_wp2_with fail;refine(HI.out _).mono ?_;rintro e w1 ⟨rfl,hw⟩;subst hw;go_wp2_with fail;go_ret;exact .inr ⟨_,v,HS.out,rfl,HK.out,Below.refl _ _⟩
 ·have q0:jj (n:Int)=false:=by unfold jj;simpa using by omega
  rw[q0] at HI;have HS:=hid (jbc (met:=met) a e);have HL:=hid (qr k.m k.z (jc (n:Int)) HA.out e);clear k c1 c2 c3 a q0 HA e;go_enter Tryz.func154,Tryz.ntmps154;go_wp2_with fail;refine(HI.out _).mono ?_;rintro e w1 ⟨rfl,hw⟩;subst hw;go_wp2_with fail;refine(HT.out _).mono ?_;rintro e w1 ⟨rfl,hw⟩;subst hw;go_wp2_with fail;refine HL.out.mono ?_;rintro e w1 ⟨rfl,n1,rfl⟩;go_wp2_with fail;go_ret;exact .inl ⟨HS.out,rfl,⟨rfl,rfl,rfl,zqg _,fun _ _=>rfl⟩⟩
 ·have q0:jj (n:Int)=false:=by unfold jj;simpa using by omega
  rw[q0] at HI;have HS:=hid (Q0 (met:=met) a e hj);obtain⟨hjl,hA⟩:=zF e;have HJ:=hid hjl;have hsl:=ZB now hjl;have hul:=k.z.un;have hWl:=k.z.w1;have hmk:=k.mark hjl;rw[zqr hj] at hmk;obtain⟨m0,m1⟩:=hmk;obtain⟨o,ho⟩:∃o,now[j]?=some o:=⟨_,zqh hjl⟩;have HL:=hid (qR k.m k.z (jc (n:Int)) HA.out e ho);have hobj:J7 h W now j=jx h W (je now j:Nat):=rfl;have HOB:=hid hobj;have hA0:1<=jx h W 0/\jx h W 0<=65537/\jx h W (je now j:Nat)=jx h W 0+je now j:=by unfold jx;split<;>omega
  rw[hA] at HT HL;obtain⟨b0,b1,b2⟩:=hA0;rw[b2] at HT HL HOB;obtain⟨A0,hA0⟩:∃A0,jx h W 0=A0:=⟨_,rfl⟩;obtain⟨S,hS⟩:∃S,je now j=S:=⟨_,rfl⟩;obtain⟨U,hU⟩:∃U,used now=U:=⟨_,rfl⟩;rw[hA0] at c1 b0 b1 HT HL HOB;rw[hS] at m0 m1 HT HL HOB hsl;rw[hU] at c2 hsl hul;obtain⟨A,hAA⟩:∃A,A0+(S:Int)=A:=⟨_,rfl⟩;rw[hAA] at HT HL HOB;have hsub:A-A0=(S:Int):=by omega
  have hlt:(S:Int)<U:=by omega
  have hu2:(U:Int)<=65536:=by omega
  have hs0:(0:Int)<=S:=by omega
  have hAb:1<=A/\A<=200000:=by omega
  obtain⟨hAb0,hAb1⟩:=hAb;have HSS:=hid hS;clear k a q0 HA e ho hjl hA b2 hA0 hS hU hAA hobj hsl hul hWl;go_enter Tryz.func154,Tryz.ntmps154;go_wp2_with fail;refine(HI.out _).mono ?_;rintro e w1 ⟨rfl,hw⟩;subst hw;go_wp2_with fail;refine(HT.out _).mono ?_;rintro e w1 ⟨rfl,hw⟩;subst hw;go_wp2_with fail;refine HL.out.mono ?_;rintro e w1 ⟨rfl,n1,hw1⟩;have c1':w1.cell? ⟨lb,1,none⟩=some (.int .i64 A0):=by rw[hw1];exact c1
  have c2':w1.cell? ⟨lb,2,none⟩=some (.slice (some ⟨sb,0,none⟩) U U):=by rw[hw1];exact c2
  have m0':w1.cell? ⟨sb,S,none⟩=some (.bool true):=by rw[hw1];exact m0
  have m1':w1.frozen? ⟨sb,S,none⟩=false:=by rw[hw1];exact m1
  have HW1:=hid hw1;clear c0 c1 c2 c3 m0 m1 hw1;go_wp2_with fail;go_quiet (fail);go_wp2_with fail;go_ret;exact .inr ⟨_,v,HS.out,rfl,by rw[HW1.out,World.drewN_drewN];exact HK.out.drewN _,⟨by rw[HW1.out];rfl,by rw[HW1.out];rfl,by rw[HW1.out];rfl,by rw[HW1.out];exact zqg _,fun _ _=>by rw[HW1.out];rfl⟩⟩
 ·have q0:jj (n:Int)=false:=by unfold jj;simpa using by omega
  rw[q0] at HI;have HS:=hid (QZ (met:=met) a e hj);obtain⟨hjl,hA⟩:=zF e;have HJ:=hid hjl;have hsl:=ZB now hjl;have hul:=k.z.un;have hWl:=k.z.w1;have hmk:=k.mark hjl;rw[zqq hj] at hmk;obtain⟨m0,m1⟩:=hmk;obtain⟨o,ho⟩:∃o,now[j]?=some o:=⟨_,zqh hjl⟩;have HL:=hid (qR k.m k.z (jc (n:Int)) HA.out e ho);have hobj:J7 h W now j=jx h W (je now j:Nat):=rfl;have HOB:=hid hobj;have hA0:1<=jx h W 0/\jx h W 0<=65537/\jx h W (je now j:Nat)=jx h W 0+je now j:=by unfold jx;split<;>omega
  rw[hA] at HT HL;obtain⟨b0,b1,b2⟩:=hA0;rw[b2] at HT HL HOB;obtain⟨A0,hA0⟩:∃A0,jx h W 0=A0:=⟨_,rfl⟩;obtain⟨S,hS⟩:∃S,je now j=S:=⟨_,rfl⟩;obtain⟨U,hU⟩:∃U,used now=U:=⟨_,rfl⟩;rw[hA0] at c1 b0 b1 HT HL HOB;rw[hS] at m0 m1 HT HL HOB hsl;rw[hU] at c2 hsl hul;obtain⟨A,hAA⟩:∃A,A0+(S:Int)=A:=⟨_,rfl⟩;rw[hAA] at HT HL HOB;have hsub:A-A0=(S:Int):=by omega
  have hlt:(S:Int)<U:=by omega
  have hu2:(U:Int)<=65536:=by omega
  have hs0:(0:Int)<=S:=by omega
  have hAb:1<=A/\A<=200000:=by omega
  obtain⟨hAb0,hAb1⟩:=hAb;have HSS:=hid hS;clear k a q0 HA e ho hjl hA b2 hA0 hS hU hAA hobj hsl hul hWl;go_enter Tryz.func154,Tryz.ntmps154;go_wp2_with fail;refine(HI.out _).mono ?_;rintro e w1 ⟨rfl,hw⟩;subst hw;go_wp2_with fail;refine(HT.out _).mono ?_;rintro e w1 ⟨rfl,hw⟩;subst hw;go_wp2_with fail;refine HL.out.mono ?_;rintro e w1 ⟨rfl,n1,hw1⟩;have c1':w1.cell? ⟨lb,1,none⟩=some (.int .i64 A0):=by rw[hw1];exact c1
  have c2':w1.cell? ⟨lb,2,none⟩=some (.slice (some ⟨sb,0,none⟩) U U):=by rw[hw1];exact c2
  have m0':w1.cell? ⟨sb,S,none⟩=some (.bool false):=by rw[hw1];exact m0
  have m1':w1.frozen? ⟨sb,S,none⟩=false:=by rw[hw1];exact m1
  have HW1:=hid hw1;clear c0 c1 c2 c3 m0 m1 hw1;go_wp2_with fail;go_quiet (fail);go_wp2_with fail;obtain⟨w2,hw2⟩:∃w2,w1.drewN nq=w2:=⟨_,rfl⟩;have HD2:=hid (show w2=w.drewN (n1+nq) from by rw[<-hw2,HW1.out,World.drewN_drewN]);have K2:LK B w2 lb b W h R now old met sb v:=by rw[HD2.out];exact HK.out.drewN _
  have c1:w2.cell? ⟨lb,1,none⟩=some (.int .i64 A0):=by rw[<-hw2];exact c1'
  have c2:w2.cell? ⟨lb,2,none⟩=some (.slice (some ⟨sb,0,none⟩) U U):=by rw[<-hw2];exact c2'
  have m0:w2.cell? ⟨sb,S,none⟩=some (.bool false):=by rw[<-hw2];exact m0'
  have m1:w2.frozen? ⟨sb,S,none⟩=false:=by rw[<-hw2];exact m1'
  rw[hw2];have HK2:=hid K2;clear hw2 c1' c2' m0' m1' K2;have hwS:IntKind.i64.wrap (S:Int)=S:=by rw[IntKind.wrap_i64];omega
  obtain⟨va,cap,hv,hcap,hcap2⟩:=HK2.out.shape;have hfew:=HK2.out.few;have hfr:Fr (fun i=>i=sb) w2 (w2.setCell ⟨sb,S,none⟩ (.bool true)):=by rw[<-HSS.out];exact jjJ w2 now sb j
  have c3:(w2.setCell ⟨sb,S,none⟩ (.bool true)).cell? ⟨lb,3,none⟩=some v:=hfr.cell_some HK2.out.c3 (fun e=>HK2.out.ls e.symm);have hov:(w2.setCell ⟨sb,S,none⟩ (.bool true)).ownsRow B 3 1 v met.length (ql (qd h W now met)):=hfr.own HK2.out.ov (fun g hg e=>HK2.out.vs (e▸hg));have hBr:B<=w2.heap.size:=zqs HK2.out.lb0 (Nat.le_of_lt HK2.out.lt);have hlbs:lb≠sb:=fun e=>HK2.out.ls e.symm;have c3w:=HK2.out.c3;obtain⟨M,hM⟩:∃M,met.length=M:=⟨_,rfl⟩;have HM:=hid hM;rw[hM] at hv hcap hfew hov;have HV:=hid hv;rw[hv] at c3 hov c3w;have HOV:=hid hov;have HBR:=hid hBr;clear hfr hov hBr hM hv;obtain⟨i0,hi,hz0,hz1,hz2⟩:=info_parts jva;go_still_tail 11,(by kernel_rfl);go_wp2_with (at_builtin;refine wpList_append_own_at _ rfl _ _ 70 rfl B 3 i0 (.int .i64 0) 1 8 Tryz.underlying70 hi hz0 hz1 hz2 rfl (by decide) (.slice va M cap) M (ql (qd h W now met)) rfl (HOV.out.drew.alloc _) ⟨w2.heap.size,0,none⟩ 1 1 [.int .i64 A] rfl rfl (QF _ _ _ _ (by simp)) (by simp[Value.oneCell']) (by unfold maxLen;omega) (by omega) (by have:=HBR.out;simpa using Nat.le_succ_of_le this) ?_;intro v7 w7 hown7 hgrow7 _ hblk7;rw[jf8,<-HOB.out] at hown7;obtain⟨g7,cap7,rfl⟩:=ownsRow_succ (k:=M) hown7;obtain⟨x7,y7,K7,B7⟩:=HK2.out.more HJ.out hj (wa:=w2.setCell ⟨sb,S,none⟩ (.bool true)) (wr:=(w2.setCell ⟨sb,S,none⟩ (.bool true)).drew) (by rw[HSS.out]) ⟨rfl,rfl,rfl,zqg _,fun _ _=>rfl⟩ (by rw[HM.out];exact hown7) (by rw[HV.out];exact hgrow7) (by rw[HV.out];exact hblk7);have HK7:=hid K7;have HB7:=hid B7;clear K7 B7 hown7 hgrow7 hblk7);go_ret;have hb:=HB7.out;refine .inr ⟨_,_,HS.out,rfl,HK7.out,?_⟩;rw[HD2.out] at hb;exact(show Below B w (w.drewN (n1+nq)) from⟨rfl,rfl,rfl,zqg _,fun _ _=>rfl⟩).trans hb
end
structure Jg (w:World) (a:Option Addr) (N:Nat) (ns:List Nat):Prop where
 len:ns.length=N
 few:(N:Int)<=9223372036854775807
 word:∀n∈ns,n<18446744073709551616
 cell:∀(j n:Nat),ns[j]?=some n->∃g off,a=some ⟨g,off,none⟩/\g<w.heap.size/\w.cell? ⟨g,off+j,none⟩=some (.int .u64 (n:Int))
theorem ju9:(prog.info? 4).map (fun i=>(i.zero,i.size,i.bytes))=some (some (.bool false),1,1):=by kernel_rfl
theorem jgh (U:Nat) (hU:U<=65536):∃cs:Array Value,cs.toList=List.replicate U (.bool false)/\∀w:World,(Instr.makeSlice 191 (.int .i64 (U:Int)) (.int .i64 (U:Int))).run prog w=.ok (.slice (some ⟨w.heap.size,0,none⟩) U U) (w.alloc (.cells cs 4)):=by
 obtain⟨i0,hi,hz0,hz1,hz2⟩:=info_parts ju9;refine⟨madeCells (Value.bool false).cells (U*i0.size),?_,fun w=>?_⟩
 ·rw[hz1,Nat.mul_one]
  apply List.ext_getElem
  ·simp[madeCells]
  ·intro j h1 h2
   simp[madeCells,Value.cells,Nat.mod_one]
 ·have hr:=run_make (P:=prog) w 191 4 i0 (.bool false) Tryz.underlying191 hi hz0 .i64 .i64 U U (by omega) (Int.le_refl _) (by rw[hz2];omega) (by omega)
  simp only[Int.toNat_natCast] at hr;exact hr
section
variable {w w1:World} {b W h:Nat} {R:Nat->Value} {now old:List Ob}
theorem jnP (X:World) (o:Obj) (g:Nat) (hg:X.heap.size=g):(X.alloc o).heap[g]?=some o:=by subst hg;exact zqe _ _
theorem jnU (X:World) (o:Obj) {g:Nat} {u:Obj} (h:X.heap[g]?=some u):(X.alloc o).heap[g]?=some u:=(Below.heap_alloc X o g (zqa h).1).trans h
theorem js4 {X:World} {c:Nat} {a0 a1 a2 a3:Value} {t:TypeId} (h:X.heap[c]?=some (.cells #[.pointer none,.int .i64 0,.slice none 0 0,.slice none 0 0] t (0,0))):((((X.setCell ⟨c,0,none⟩ a0).setCell ⟨c,1,none⟩ a1).setCell ⟨c,2,none⟩ a2).setCell ⟨c,3,none⟩ a3).heap[c]?=some (.cells #[a0,a1,a2,a3] t (0,0)):=
 zk (zk (zk (zk h 0 a0) 1 a1) 2 a2) 3 a3
theorem jq0 {X:World} {c g:Nat} {u:Obj} {a0 a1 a2 a3:Value} (hne:c≠g) (h:X.heap[g]?=some u):((((X.setCell ⟨c,0,none⟩ a0).setCell ⟨c,1,none⟩ a1).setCell ⟨c,2,none⟩ a2).setCell ⟨c,3,none⟩ a3).heap[g]?=some u:=by
 rw[heap_setCell_other _ _ _ _ hne.symm,heap_setCell_other _ _ _ _ hne.symm,heap_setCell_other _ _ _ _ hne.symm,heap_setCell_other _ _ _ _ hne.symm];exact h
theorem jlS {B:Nat} {Y X:World} {c:Nat} {a0 a1 a2 a3:Value} (h:Below B Y X) (hc:B<=c):Below B Y ((((X.setCell ⟨c,0,none⟩ a0).setCell ⟨c,1,none⟩ a1).setCell ⟨c,2,none⟩ a2).setCell ⟨c,3,none⟩ a3):=
 (((h.setCell (p:=⟨c,0,none⟩) hc _).setCell (p:=⟨c,1,none⟩) hc _).setCell (p:=⟨c,2,none⟩) hc _).setCell (p:=⟨c,3,none⟩) hc _
theorem jjB {X:World} {k g:Nat} {u:Option Obj} (h:X.heap[g]?=u):(X.drewN k).heap[g]?=u:=h
theorem Below.drewN' {B:Nat} {Y X:World} (h:Below B Y X) (n:Nat):Below B Y (X.drewN n):=⟨h.os,h.tape,h.output,h.size,h.block⟩
theorem jp1 {lb sb U:Nat} {A0:Int} {cs:Array Value} (m:zi w b W h R now old) (z:WF W h now old) (hA:jx h W 0=A0) (hU:used now=U) (hcs:cs.toList=List.replicate U (.bool false)) (h1:w1.heap[lb]?=some (.cells #[.pointer (some ⟨b,0,none⟩),.int .i64 A0,.slice (some ⟨sb,0,none⟩) U U,.slice none 0 0] 217 (0,0)))
  (h2:w1.heap[sb]?=some (.cells cs 4 (0,0))) (hb:Below w.heap.size w w1) (hl:w.heap.size<=lb) (hs:w.heap.size<=sb) (hne:sb≠lb):LK w.heap.size w1 lb b W h R now old [] sb (.slice none 0 0)/\Below w.heap.size w w1:=by
 subst hA hU;have hcl:cs.size=used now:=by rw[<-Array.length_toList,hcs,List.length_replicate]
 have hmx:used now<=maxLen:=by have:=z.un;have:=z.w1;unfold maxLen;omega
 refine⟨⟨qQ h1 0,qQ h1 1,qQ h1 2,qQ h1 3,fun j=>jbV h1 j,⟨by rw[jiM,Nat.mul_one],.inr ⟨sb,used now,cs,rfl,hs,h2,zqg _,hmx,by rw[Nat.mul_one,hcl],?_⟩⟩,World.ownsRow_nil _ _ _ _,hl,hne,(by simp[Value.ownBlock]),(by simp[Value.ownBlock]),m.below hb,z,m.own_lt,jbL⟩,hb⟩;rw[hcs,joz,Nat.mul_one];simp
def jmi (w:World) (h W:Nat) (now:List Ob) (ns:List Nat) (e:Ending) (w':World):Prop:=
 (zg now h W ns=none/\e=.returned (.tuple #[.slice none 0 0,.int .i64 40])/\Below w.heap.size w w')∨
 (∃met v,zg now h W ns=some met/\e=.returned (.tuple #[v,.int .i64 0])/\Below w.heap.size w w'/\w'.ownsRow w.heap.size 3 1 v met.length (ql (qd h W now met)))
theorem juf (m:zi w b W h R now old) (z:WF W h now old) {A:Int} (hA:jx h W (used now:Nat)=A):Calls prog 28 #[.pointer (some ⟨b,0,none⟩)] w fun e w'=>e=.returned (.int .i64 A)/\∃n,w'=w.drewN n:=by
 subst hA;have:=jd7 m z.sizes
 rwa [jT,zb,jL] at this
theorem jnB {met m:List Nat} {n k j:Nat} (e:qE now h W met n=some m) (hj:met[k]?=some j):m[k]?=some j:=by
 rcases QP (os:=now) (h:=h) (W:=W) met n with a|⟨a,b⟩|⟨a,j',b,c⟩|⟨a,j',b,c⟩
 ·rw[QY a] at e;cases e;exact hj
 ·rw[jbc a b] at e;cases e
 ·rw[Q0 a b c] at e;cases e;exact hj
 ·rw[QZ a b c] at e;cases e
  rw[zqo (zqb hj).1];exact hj
theorem jth {o:Ob} {j q:Nat} (ho:now[j]?=some o) (hq:q<o.t) (ht:o.t<=o.ws.length):(JW now j)[q]?=some (o.ws.getD q 0):=by
 rw[jdq ho,List.getElem?_take_of_lt hq,zqi,zqh (by omega)];rfl
theorem jtg {o:Ob} {j q:Nat} (ho:now[j]?=some o) (hq:o.t<=q):(JW now j).drop q=[]:=by
 rw[jdq ho];exact List.drop_eq_nil_of_le (by rw[List.length_take];omega)
theorem LK.met_at {B:Nat} {lb sb:Nat} {met:List Nat} {v:Value} (k:LK B w lb b W h R now old met sb v) {i j:Nat} (hj:met[i]?=some j):∃g cap,v=.slice (some ⟨g,0,none⟩) met.length cap/\w.cell? ⟨lb,3,none⟩=some (.slice (some ⟨g,0,none⟩) met.length cap)/\w.cell? ⟨g,i,none⟩=some (.int .i64 (J7 h W now j))/\met.length<=cap:=by
 have hi:=(zqb hj).1;have ho:=k.ov;rcases k.ov.2 with⟨hv,h0⟩|⟨g,cap,cur,hv,hb,hg,h1,h2,h3,h4⟩
 ·omega
 ·refine⟨g,cap,hv,by rw[k.c3,hv],?_,h1⟩
  rw[hv] at ho;rw[ho.cellAt i (by omega)];simp[ql,jca hj]
theorem jgK (m:zi w b W h R now old) (z:WF W h now old) {a:Option Addr} {N c:Nat} {ns:List Nat} (hv:Jg w a N ns):
  Calls prog 106 #[.pointer (some ⟨b,0,none⟩),.slice a N c] w (jmi w h W now ns):=by
 obtain⟨U,hU⟩:∃U,used now=U:=⟨_,rfl⟩;have hun:=z.un;have hw1:=z.w1;rw[hU] at hun;obtain⟨cs,hcs,hmk⟩:=jgh U (by omega);have hA:jx h W (U:Nat)=jx h W 0+U:=by unfold jx;split<;>omega
 have hA1:1<=jx h W 0/\jx h W 0<=65537:=by unfold jx;split<;>omega
 have HW:=joU m;obtain⟨F,hF⟩:∃F,(W:Int)-U=F:=⟨_,rfl⟩;have HFr:=jbD m z hU F hF;have hWF:(W:Int)-F=U:=by omega
 obtain⟨A0,hA0⟩:∃A0,jx h W 0=A0:=⟨_,rfl⟩;rw[hA0] at hA hA1;have HA0:=hid hA0;have HCS:=hid hcs;obtain⟨a1,a2⟩:=hA1;obtain⟨T,hT⟩:∃T,A0+(U:Int)=T:=⟨_,rfl⟩;have hTU:T-(U:Int)=A0:=by omega
 have hT1:1<=T:=by omega
 have hT2:T<=200000:=by omega
 have hU2:(U:Int)<=65536:=by omega
 have hNX:∀W1,Below w.heap.size w W1->Calls prog 28 #[.pointer (some ⟨b,0,none⟩)] W1 fun e w'=>e=.returned (.int .i64 T)/\∃n,w'=W1.drewN n:=fun W1 hb=>juf (m.below hb) z (by rw[hU,hA,hT]);have HNX:=hid hNX;have HM:=hid m;have HWH:=hid HW;have HFH:=hid HFr;clear m HW HFr hNX hA hcs hA0;go_enter Tryz.func106,Tryz.ntmps106;go_wp2_with fail;go_step3;go_wp2_with fail;refine HWH.out.mono ?_;rintro e w' ⟨rfl,hw⟩;subst w';go_wp2_with fail;refine HFH.out.mono ?_;rintro e w1 ⟨rfl,n1,hw1'⟩;have hb1:Below w.heap.size w w1:=by rw[hw1'];exact⟨rfl,rfl,rfl,zqg _,fun _ _=>rfl⟩
 have hs1:w1.heap.size=w.heap.size:=by rw[hw1'];rfl
 clear hF hT hw1';go_wp2_with fail;have hwA:IntKind.i64.wrap A0=A0:=by rw[IntKind.wrap_i64];omega
 go_cut [7] from 26 to 33 (fun l wx=>∃lb sb,l=.pointer (some ⟨lb,0,none⟩)/\LK w.heap.size wx lb b W h R now old [] sb (.slice none 0 0)/\Below w.heap.size w wx)
 case first=>
  go_region_law ((go_simp;go_at_call 28;refine(HNX.out _ (by first|exact hb1.drew|exact hb1.drew.alloc (by simp[hs1]) _|exact(hb1.drew.alloc (by simp[hs1]) _).alloc (by simp[hs1]) _)).mono ?_;rintro e w' ⟨rfl,nx,rfl⟩));all_goals
   go_wp2_with fail;go_meet;first|refine⟨w.heap.size+1,w.heap.size,rfl,?_⟩|refine⟨w.heap.size,w.heap.size+1,rfl,?_⟩
   refine jp1 HM.out z HA0.out hU HCS.out ?_ ?_ ?_ ?_ ?_ ?_
   ·repeat (first|with_reducible exact jnP _ _ _ (by simp[hs1])|with_reducible refine js4 ?_|with_reducible refine jjB ?_|with_reducible refine jnU _ _ ?_)
   ·repeat (first|with_reducible exact jnP _ _ _ (by simp[hs1])|with_reducible refine jq0 (by simp) ?_|with_reducible refine jjB ?_|with_reducible refine jnU _ _ ?_)
   ·repeat (first|with_reducible exact hb1|with_reducible refine Below.drewN' ?_ _|with_reducible refine jlS ?_ (by simp)|with_reducible refine Below.alloc ?_ (by simp[hs1]) _)
   all_goals simp
 case rest=>
  obtain⟨lb,sb,rfl,hk,hbc⟩:=hcut;have HV:=hid hv;have hN:=hv.len;have hN2:=hv.few;have HMT:=hid (fun(W1:World) (met:List Nat) (v:Value) (k:LK w.heap.size W1 lb b W h R now old met sb v) (n:Nat) (hn:n<18446744073709551616)=>jp9 k n hn);have HK:=hid (zqf hk hbc);clear hk hbc hv hmk hs1 hb1 HNX HWH HFH;go_wp2_with fail;go_loopw [36] (fun i wr=>∃(k:Nat) (met:List Nat) (v:Value),k<=N/\i=.int .i64 k/\LK w.heap.size wr lb b W h R now old met sb v/\Below w.heap.size w wr/\z7 now h W met (ns.drop k)=z7 now h W [] ns) (fun i _=>N-(intOf i).toNat)
  case atStart=>exact⟨0,_,_,Nat.zero_le _,rfl,HK.out.1,HK.out.2,rfl⟩
  case round=>
   obtain⟨k,met,v,hkN,rfl,hk,hb,hml⟩:=hrel;by_cases hlt:k<N
   ·obtain⟨n,hn⟩:∃n,ns[k]?=some n:=⟨_,zqh (by omega)⟩
    have hn64:=HV.out.word n (zqc hn);obtain⟨g,off,ha,hg,hc⟩:=HV.out.cell k n hn;have hcr:wr.cell? ⟨g,off+k,none⟩=some (.int .u64 (n:Int)):=(World.cell?_of_block (hb.block g hg)).trans hc;subst ha;have HMK:=hid (HMT.out wr met v hk n hn64);rw[jeS hn] at hml;have HML:=hid hml;have HB:=hid hb;have hki:(k:Int)<N:=by omega
    have hk0:(0:Int)<=k:=by omega
    clear hn hc hg hml hk hb;go_wp2_with fail;refine HMK.out.mono ?_;rintro e w2 (⟨hS,rfl,hb2⟩|⟨m2,v2,hS,rfl,hk2,hb2⟩)
    ·go_wp2_with fail
     rw[Exit.noGoto_ret];go_ret2;refine .inl ⟨?_,rfl,HB.out.trans hb2⟩;have:=HML.out;rw[hS] at this;unfold zg;rw[<-this];rfl
    ·have HS2:=hid (show LK w.heap.size w2 lb b W h R now old m2 sb v2/\Below w.heap.size w w2/\z7 now h W m2 (ns.drop (k+1))=z7 now h W [] ns from⟨hk2,HB.out.trans hb2,by
      have:=HML.out;rw[hS] at this;exact this⟩)
     clear hS hk2 hb2;go_wp2_with fail;go_roundw
     case rel=>exact⟨k+1,m2,v2,hlt,by go_num,HS2.out⟩
     case measure=>simp[intOf];omega
   ·obtain rfl:k=N:=by omega
    have hre:(ZO now h W (now.length+1) 0 met)=zg now h W ns:=by
     unfold zg;rw[<-hml,List.drop_eq_nil_of_le (by omega)];rfl
    have HK2:=hid (zqf hk (zqf hb hre));clear hk hb hml hre;go_wp2_with fail;go_step3;go_wp2_with fail;have hnl:now.length<=65536:=by
     have h2:=JB now (i:=0) (j:=now.length) (Nat.zero_le _) (zqg _);rw[qI,hU] at h2;omega
    go_loopw [10,11] (fun gd i wr=>∃(k:Nat) (met:List Nat) (v:Value),k<=now.length/\gd=.bool true/\i=.int .i64 k/\LK w.heap.size wr lb b W h R now old met sb v/\Below w.heap.size w wr/\ZO now h W (now.length-k+1) k met=zg now h W ns) (fun _ i _=>now.length+1-(intOf i).toNat)
    case atStart=>exact⟨0,_,_,Nat.zero_le _,rfl,rfl,HK2.out.1,HK2.out.2.1,HK2.out.2.2⟩
    case round=>
     obtain⟨k,met,v,hkl,rfl,rfl,hk,hb,hbf⟩:=hrel;clear HK2;have hml:=hk.few;have hmn:=hk.ok.len;by_cases hlt:k<met.length
     ·obtain⟨j,hj⟩:∃j,met[k]?=some j:=⟨_,zqh hlt⟩
      have hjn:=hk.ok.lt j (zqc hj);obtain⟨o,ho⟩:∃o,now[j]?=some o:=⟨_,zqh hjn⟩;have hob:=z.okn o (zqc ho);have hrt:=zR hob.right;obtain⟨_,_,_,hsz,_,hts⟩:=hrt;obtain⟨g,cap,hv,hc3,hce,hcap⟩:=hk.met_at hj;have hidx:jl now h W (J7 h W now j)=some j:=J4 hjn;have hbd:=jfy z (Nat.le_of_lt hjn);obtain⟨A,hA⟩:∃A,J7 h W now j=A:=⟨_,rfl⟩;rw[hA] at hce hidx hbd;have HA:=hid hA;have HLK:=hid (qR hk.m hk.z A (by omega) hidx ho);have HLD:=hid (fun(W1:World) (m1:zi W1 b W h R now old) (q:Nat) (hq:q<o.ws.length)=>Qz m1 z A q (by omega) hidx ho hq);have HO:=hid ho;have HJ:=hid hj;have HW8:=hid hob.word;rw[jht hj] at hbf;have HBF:=hid hbf;have HK3:=hid hk;have HB3:=hid hb;obtain⟨M,hM⟩:∃M,met.length=M:=⟨_,rfl⟩;have HM2:=hid hM;rw[hM] at hlt hc3 hcap hml;have hkn:k<now.length:=by omega
      have hki:(k:Int)<M:=by omega
      have hk0:(0:Int)<=k:=by omega
      obtain⟨t,ht⟩:∃t,o.t=t:=⟨_,rfl⟩;obtain⟨s,hs⟩:∃s,o.ws.length=s:=⟨_,rfl⟩;obtain⟨kd,hkd⟩:∃kd,o.k=kd:=⟨_,rfl⟩;rw[ht,hs,hkd] at HLK;rw[hs] at HLD;rw[ht,hs] at hts;rw[hs] at hsz;have HT:=hid ht;have HSZ:=hid hs;clear hk hb hbf hob ho hj hidx hA hv hM ht hs hkd hmn;go_wp2_with fail;refine HLK.out.mono ?_;rintro e w3 ⟨rfl,n3,hw3⟩;have HS3:=hid (show LK w.heap.size w3 lb b W h R now old met sb v/\Below w.heap.size w w3 from by rw[hw3];exact⟨HK3.out.drewN _,Below.drewN' HB3.out _⟩);clear hw3 hc3 hce;go_wp2_with fail;go_loopw [10,64] (fun gd f wx=>∃(q:Nat) (met2:List Nat) (v2:Value),q<=t/\gd=.bool true/\f=.int .i64 q/\LK w.heap.size wx lb b W h R now old met2 sb v2/\Below w.heap.size w wx/\met2[k]?=some j/\((z7 now h W met2 ((JW now j).drop q)).bind fun m=>ZO now h W (now.length-k) (k+1) m)=zg now h W ns) (fun _ f _=>t-(intOf f).toNat)
      case atStart=>exact⟨0,met,v,Nat.zero_le _,rfl,rfl,HS3.out.1,HS3.out.2,HJ.out,HBF.out⟩
      case round=>
       obtain⟨q,met2,v2,hqt,rfl,rfl,hk4,hb4,hj4,hbf4⟩:=hrel;clear HS3;by_cases hlt2:q<t
       ·obtain⟨g2,cap2,hv2,hc32,hce2,hcap2⟩:=hk4.met_at hj4
        have hml2:=hk4.few;have hkm2:=(zqb hj4).1;rw[HA.out] at hce2;obtain⟨n,hn⟩:∃n,o.ws.getD q 0=n:=⟨_,rfl⟩;have hld:=HLD.out wr hk4.m q (by omega);rw[hn] at hld;have HLD4:=hid hld;have hn64:n<18446744073709551616:=HW8.out n (by
         rw[<-hn,zqi,zqh (by rw[HSZ.out];omega)];exact List.getElem_mem _)
        have JZ:=jeS (os:=now) (h:=h) (W:=W) (met:=met2) (jth HO.out (by rw[HT.out];exact hlt2) (by rw[HT.out,HSZ.out];omega));rw[JZ,hn] at hbf4;have HBF4:=hid hbf4;have HK4:=hid hk4;have HB4:=hid hb4;have HJ4:=hid hj4;obtain⟨M2,hM2⟩:∃M2,met2.length=M2:=⟨_,rfl⟩;rw[hM2] at hc32 hcap2 hml2 hkm2;have hki2:(k:Int)<M2:=by omega
        have hqi:(q:Int)<t:=by omega
        have hq0:(0:Int)<=q:=by omega
        clear hk4 hb4 hj4 hbf4 JZ hld hn hM2 hv2;go_wp2_with fail;refine HLD4.out.mono ?_;rintro e w5 ⟨rfl,n5,hw5⟩;have HS5:=hid (show LK w.heap.size w5 lb b W h R now old met2 sb v2/\Below w.heap.size w w5 from by rw[hw5];exact⟨HK4.out.drewN _,Below.drewN' HB4.out _⟩);have HMK:=hid (HMT.out w5 met2 v2 HS5.out.1 n hn64);clear hw5 hc32 hce2;go_wp2_with fail;refine HMK.out.mono ?_;rintro e w6 (⟨hS,rfl,hb6⟩|⟨m6,v6,hS,rfl,hk6,hb6⟩)
        ·have hre:zg now h W ns=none:=by
          rw[<-HBF4.out,hS];rfl
         have HR:=hid hre;have HB6:=hid (HS5.out.2.trans hb6);clear hS hb6 hre;go_wp2_with fail;rw[Exit.noGoto_ret];go_ret2;exact .inl ⟨HR.out,rfl,HB6.out⟩
        ·have HS6:=hid (show LK w.heap.size w6 lb b W h R now old m6 sb v6/\Below w.heap.size w w6/\m6[k]?=some j/\((z7 now h W m6 ((JW now j).drop (q+1))).bind fun m=>ZO now h W (now.length-k) (k+1) m)=zg now h W ns from⟨hk6,HS5.out.2.trans hb6,jnB hS HJ4.out,by
          have:=HBF4.out;rw[hS] at this;exact this⟩)
         clear hS hk6 hb6;go_wp2_with fail;go_roundw
         case rel=>exact⟨q+1,m6,v6,hlt2,rfl,by go_num,HS6.out⟩
         case measure=>simp[intOf];omega
       ·obtain rfl:q=t:=by omega
        have hbe:ZO now h W (now.length-(k+1)+1) (k+1) met2=zg now h W ns:=by
         rw[<-hbf4,jtg HO.out (by rw[HT.out];omega),show now.length-(k+1)+1=now.length-k by omega];rfl
        have HS7:=hid (zqf hk4 (zqf hb4 hbe));clear hk4 hb4 hj4 hbf4 hbe;go_wp2_with fail;go_roundw
        case rel=>exact⟨k+1,met2,v2,by omega,rfl,by go_num,HS7.out⟩
        case measure=>simp[intOf];omega
     ·have hre:zg now h W ns=some met:=by
       rw[<-hbf,jrN (by omega)]
      have HR:=hid hre;obtain⟨va,cap,hv,hcap,hcap2⟩:=hk.shape;have hc3:=hk.c3;obtain⟨M,hM⟩:∃M,met.length=M:=⟨_,rfl⟩;have hov:=hk.ov;have HOV:=hid hov;have HB3:=hid hb;rw[hv] at hc3;have HV3:=hid hv;rw[hM] at hc3 hlt hcap hml;have HM3:=hid hM;have hki:¬(k:Int)<M:=by omega
      clear hk hb hbf hre hov hv hM;go_wp2_with fail;go_ret2;exact .inr ⟨met,v,HR.out,by rw[HV3.out,HM3.out];rfl,HB3.out,HOV.out⟩
end
section
open Go Go.RowKit Go.Shelf
attribute [local go_sem] Oper.semAt_some
def Ju (v:Value) (xs:List Int) (A B:World):Prop:=A.ownsRow 0 3 1 v xs.length (ql xs)->B.ownsRow 0 3 1 v xs.length (ql xs)
theorem JR {v:Value} {xs:List Int} {A B C:World} (p:Ju v xs A B) (q:Ju v xs B C):Ju v xs A C:=fun x=>q (p x)
theorem jfq {v:Value} {xs:List Int} {w:World} (W1:World) (l:Nat) (o o':Obj) (_:w.heap.size<=l) (ho:W1.heap[l]?=some o) (hc:o.isCells=false) (_:o.isWalk=false):Ju v xs W1 (W1.putObj l o'):=fun x=>
 x.kept (grownBy_putObj' W1 l o') (.inr (fun e=>by
  rcases x.2 with⟨hv,_⟩|⟨g,cap,cur,hv,_,hg,_⟩
  ·rw[hv] at e;cases e
  ·rw[hv] at e
   obtain rfl:g=l:=by simpa[Value.ownBlock] using e
   rw[hg] at ho;cases ho
   cases hc))
theorem each1_in (n:Nat) (hn:1<=n) (l Bs:Nat) (v:Value) (xs:List Int) (J Jx:List Nat->World->Prop)
  (hY:∀pre x W1,J pre W1->pre.length<xs.length->YieldAt Fence.wide (n-1) prog l #[.int .i64 (xs.getD x 0)] W1 fun e W'=>
   (e=.returned (.bool true)/\J (pre++[x]) W'/\Ju v xs W1 W')\/(e=.returned (.bool false)/\Jx (pre++[x]) W'))
  (W0:World) (hBs:Boxed W0 Bs 70 v) (hM:W0.ownsRow 0 3 1 v xs.length (ql xs)) (h0:J [] W0):
  CallsIn Fence.wide n prog 155 #[.func (.yield l) #[] #[],.pointer (some ⟨Bs,0,none⟩)] W0 fun e W'=>(∃v,e=.returned v)∧
   ((∃ys,ys=List.range xs.length/\J ys W')\/(∃pre,(∃k,k<=xs.length/\pre=List.range k)/\Jx pre W')):=by
 refine callsIn_of_wp Tryz.func155 rfl trivial ?_ rfl;simp only[Tryz.ntmps155,List.size_toArray,List.length_cons,List.length_nil,Nat.reduceAdd,Nat.reduceSub,Array.replicate_succ,Array.replicate_zero,List.push_toArray,List.append_toArray,List.nil_append,List.cons_append];obtain⟨a,cap,hv,hcap,hcap2,_⟩:=jfB hM;subst hv;have hcx0:=hBs.cell;have HZ0:=hid h0;have HY:=hid hY;obtain⟨N,hN⟩:∃N,xs.length=N:=⟨_,rfl⟩;rw[hN] at HY hcx0 hcap ⊢;have HN:=hid hN;have HM0:=hid (show W0.ownsRow 0 3 1 (.slice a N cap) xs.length (ql xs) from by rw[<-hN];exact hM);have HX:=hid (fun(W1:World) (h:W1.ownsRow 0 3 1 (.slice a N cap) xs.length (ql xs)) (k:Nat) (hk:k<N)=>(show∃g,a=some ⟨g,0,none⟩/\W1.cell? ⟨g,k,none⟩=some (.int .i64 (xs.getD k 0)) from by
  obtain⟨a',cap',hv',_,_,hc⟩:=jfB (l:=xs) h;obtain⟨g,hg,_,hc1,_⟩:=hc k (xs.getD k 0) (by rw[zqi,zqh (by omega)];rfl);injection hv' with e1;exact⟨g,e1.trans hg,hc1⟩))
 clear hM h0 hY hN hBs;gi_wp2_with fail;gi_loopw [7] (fun i wr=>∃k:Nat,k<=N/\i=.int .i64 k/\J (List.range k) wr/\wr.ownsRow 0 3 1 (.slice a N cap) xs.length (ql xs)) (fun i _=>N-(intOf i).toNat)
 case atStart=>exact⟨0,Nat.zero_le _,rfl,HZ0.out,HM0.out⟩
 case round=>
  obtain⟨k,hk,rfl,hJs,hrow⟩:=hrel;clear HM0 HZ0;by_cases hlt:k<N
  ·obtain⟨fn,tmps,assign,body,hy,hR⟩:=HY.out _ k wr hJs (by rw[List.length_range];exact hlt)
   obtain⟨g,ha,hc⟩:=HX.out wr hrow k hlt;subst ha;obtain⟨zz,hzz⟩:∃zz,xs.getD k 0=zz:=⟨_,rfl⟩;rw[hzz] at hc hy;have HR:=hid hR;have HRW:=hid hrow;have HLT:=hid hlt;have hki:(k:Int)<N:=by omega
   have hk0:(0:Int)<=k:=by omega
   have hN2:(N:Int)<=9223372036854775807:=by omega
   clear hJs hrow hR hlt hzz;gi_wp2_with fail;refine HR.out.mono ?_;rintro e W3 (⟨rfl,hJ3,hk3⟩|⟨rfl,hJx3⟩)
   ·have HS3:=hid (zqf (show J (List.range (k+1)) W3 from by rw[List.range_succ];exact hJ3) (hk3 HRW.out))
    clear hJ3 hk3 hc;gi_wp2_with fail;go_roundw
    case rel=>exact⟨k+1,HLT.out,by go_num,HS3.out⟩
    case measure=>have:=HLT.out;simp[intOf];omega
   ·have HXX:=hid hJx3
    clear hJx3 hc;gi_wp2;refine bodyPost_ret (results_none rfl _ _ _) rfl ?_;exact⟨⟨_,rfl⟩,.inr ⟨_,⟨k+1,HLT.out,by rw[List.range_succ]⟩,HXX.out⟩⟩
  ·obtain rfl:k=N:=by omega
   have HJs:=hid hJs;clear hJs hrow;gi_wp2;go_end0;exact⟨⟨_,rfl⟩,.inl ⟨_,rfl,HJs.out⟩⟩
theorem each_stops (n:Nat) (hn:1<=n) (Bs:Nat) (v:Value) (xs:List Int) (w:World) (hc:Boxed w Bs 70 v) (hM:w.ownsRow 0 3 1 v xs.length (ql xs)):
  SeqStopsK Fence.wide n prog 155 #[.pointer (some ⟨Bs,0,none⟩)] (fun x:Nat=>#[Value.int .i64 (xs.getD x 0)]) (Ju v xs) (fun ys=>ys=List.range xs.length) (fun pre=>∃k,k<=xs.length/\pre=List.range k) xs.length w:=fun l J Jx W1 hW _ _ hY h0=>
 each1_in n hn l Bs v xs J Jx hY W1 ((hW.block Bs hc.lt).trans hc) ((Fr.of_below (O:=fun _=>False) hW).own hM (fun _ _=>id)) h0
theorem each_in (F:Fence) (n:Nat) (h4:F.fn 108) (hro:F.round=none) (a:Option Addr) (k c:Nat) (w:World):
  CallsIn F n prog 108 #[.slice a k c] w fun e w'=>e=.returned (.func (.func 155) #[] #[.pointer (some ⟨w.heap.size,0,none⟩)])/\w'=w.alloc (.cells #[.slice a k c] 70):=by
 refine callsIn_of_wp Tryz.func108 rfl h4 ?_ hro;simp only[Tryz.ntmps108,List.size_toArray,List.length_cons,List.length_nil,Nat.reduceAdd,Nat.reduceSub,Array.replicate_succ,Array.replicate_zero,List.push_toArray,List.append_toArray,List.nil_append,List.cons_append];gi_wp2;go_ret;exact⟨rfl,rfl⟩
section
variable {w:World} {b W h:Nat} {R:Nat->Value} {now old:List Ob}
def jbB (now:List Ob) (h W:Nat) (ns:List Nat):Int:=match zg now h W ns with
 |none=>40
 |some _=>0
end
end
section
open Go Go.RowKit Go.Shelf
attribute [local go_sem] Oper.semAt_some
def qt (now:List Ob) (met:List Nat):Nat:=(met.map fun j=>1+((now[j]?).map fun o=>o.ws.length).getD 0).sum
theorem jln (now:List Ob) (met:List Nat) (j:Nat):qt now (met++[j])=qt now met+(1+((now[j]?).map fun o=>o.ws.length).getD 0):=by simp[qt]
def jeP (now:List Ob) (h W:Nat) (ns:List Nat):Nat:=qt now ((zg now h W ns).getD [])
def ZU (now:List Ob) (met:List Nat) (x:Nat):Nat:=match met[x]? with
 |none=>0
 |some j=>((now[j]?).map fun o=>o.ws.length).getD 0
def Zp (now:List Ob) (met pre:List Nat):Nat:=(pre.map fun x=>1+ZU now met x).sum
theorem jlm (now:List Ob) (met pre:List Nat) (x:Nat):Zp now met (pre++[x])=Zp now met pre+(1+ZU now met x):=by simp[Zp]
theorem jnN (now:List Ob) (met:List Nat):Zp now met (List.range met.length)=qt now met:=by
 unfold Zp qt;congr 1;apply List.ext_getElem
 ·simp
 ·intro i h1 h2
  simp only[List.length_map,List.length_range] at h1;simp[ZU,zqh h1]
theorem jgB {W h:Nat} {now old:List Ob} (z:WF W h now old) (met:List Nat) (x:Nat):ZU now met x<=16384:=by
 unfold ZU;cases e:met[x]? with
 |none=>exact Nat.zero_le _
 |some j=>
  simp only[];cases e2:now[j]? with
  |none=>simp
  |some o=>
   have:=zR (z.okn o (zqc e2)).right;simp;omega
theorem jqh {W h:Nat} {now old:List Ob} (z:WF W h now old) (met pre:List Nat):Zp now met pre<=pre.length*16385:=by
 induction pre with
 |nil=>simp[Zp]
 |cons x l ih=>
  have:=jgB z met x;have e:Zp now met (x::l)=(1+ZU now met x)+Zp now met l:=by simp[Zp]
  rw[e,List.length_cons];omega
theorem jdW (W:World) (n:Nat):KeepsOthers W (W.drewN n):=⟨zqg _,fun _ _ h _=>h⟩
section
variable {w:World} {b W h:Nat} {R:Nat->Value} {now old:List Ob}
theorem jt2 (m:zi w b W h R now old) (z:WF W h now old) {met:List Nat} (ok:Okm now met) (x:Nat):
  Calls prog 67 #[.pointer (some ⟨b,0,none⟩),.int .i64 ((qd h W now met).getD x 0)] w fun e w'=>(∃k t q,e=.returned (.tuple #[.int .i64 k,.int .i64 (ZU now met x:Nat),.int .i64 t,.int .i64 q]))/\∃n,w'=w.drewN n:=by
 cases e:met[x]? with
 |none=>
  have e0:(qd h W now met).getD x 0=0:=by
   rw[zqi,List.getElem?_eq_none (by rw[z5];exact List.getElem?_eq_none_iff.1 e)];rfl
  have hi:jl now h W 0=none:=by
   cases e1:jl now h W 0 with
   |none=>rfl
   |some j=>
    have:=(zF e1).2;unfold jx at this;split at this<;>omega
  rw[e0];refine(qr m z 0 (by decide) hi).mono ?_;rintro e' w' ⟨rfl,h2⟩;exact⟨⟨0,0,20,by unfold ZU;rw[e];rfl⟩,h2⟩
 |some j=>
  have hj:=ok.lt j (zqc e);obtain⟨o,ho⟩:∃o,now[j]?=some o:=⟨_,zqh hj⟩;have e0:(qd h W now met).getD x 0=J7 h W now j:=by rw[zqi,jca e];rfl
  have hbd:=jfy z (Nat.le_of_lt hj);rw[e0];refine(qR m z (J7 h W now j) (by omega) (J4 hj) ho).mono ?_;rintro e' w' ⟨rfl,h2⟩;exact⟨⟨o.k,o.t,0,by unfold ZU;rw[e];simp[ho]⟩,h2⟩
theorem jl3 {ns:List Nat} {e:Ending} {w':World} (t:jmi w h W now ns e w'):∃v,e=.returned (.tuple #[v,.int .i64 (jbB now h W ns)])/\Below w.heap.size w w'/\w'.ownsRow w.heap.size 3 1 v ((zg now h W ns).getD []).length (ql (qd h W now ((zg now h W ns).getD [])))/\Okm now ((zg now h W ns).getD []):=by
 rcases t with⟨hr,rfl,hb⟩|⟨met,v,hr,rfl,hb,ho⟩
 ·exact⟨_,by unfold jbB;rw[hr],hb,by rw[hr];exact World.ownsRow_nil _ _ _ _,by rw[hr];exact jbL⟩
 ·exact⟨v,by unfold jbB;rw[hr],hb,by rw[hr];exact ho,by rw[hr];exact Jb hr⟩
theorem jpV (m:zi w b W h R now old) (z:WF W h now old) {a:Option Addr} {N c:Nat} {ns:List Nat} (hv:Jg w a N ns):
  Calls prog 69 #[.pointer (some ⟨b,0,none⟩),.slice a N c] w fun e w'=>e=.returned (.tuple #[.int .i64 (jeP now h W ns:Nat),.int .i64 (jbB now h W ns)])/\Below w.heap.size w w':=by
 have HT:=hid (fun W1 (hb:Below w.heap.size w W1) (hs:w.heap.size<=W1.heap.size)=>jgK (m.below hb) z (c:=c) (ns:=ns) (a:=a) (N:=N) ⟨hv.len,hv.few,hv.word,fun j n hj=>by
  obtain⟨g,off,h1,h2,h3⟩:=hv.cell j n hj;exact⟨g,off,h1,by omega,(World.cell?_of_block (hb.block g h2)).trans h3⟩⟩)
 have HM:=hid m;clear m hv;refine(callsIn_wide (n:=3)).1 ?_;refine callsIn_of_wp_marks Tryz.func69 rfl trivial ?_ rfl;simp only[Tryz.ntmps69,List.size_toArray,List.length_cons,List.length_nil,Nat.reduceAdd,Nat.reduceSub,Array.replicate_succ,Array.replicate_zero,List.push_toArray,List.append_toArray,List.nil_append,List.cons_append];have bM0:=Boxed.new w 62 (.pointer (some ⟨b,0,none⟩));have hB0:Below w.heap.size w (w.alloc (.cells #[.pointer (some ⟨b,0,none⟩)] 62)):=(Below.refl _ w).alloc (zqg _) _;gi_wp2_with fail;refine⟨trivial,?_⟩;refine(callsIn_wide.2 (HT.out _ hB0 (by simp))).mono ?_;rintro e w2 ht;obtain⟨v,rfl,hb2,hown,hok⟩:=jl3 ht;clear ht HT;rw[World.size_alloc] at hb2 hown;obtain⟨met,hmet⟩:∃met,(zg now h W ns).getD []=met:=⟨_,rfl⟩;have HMET:=hid hmet;rw[hmet] at hown hok;have hs2:w.heap.size+1<=w2.heap.size:=by have:=hb2.size;simpa using this
 have bM2:Boxed w2 w.heap.size 62 (.pointer (some ⟨b,0,none⟩)):=(hb2.block _ (by omega)).trans bM0;have hB2:Below w.heap.size w w2:=hB0.trans (hb2.mono (by omega));obtain⟨va,cap,hv',_,_,_⟩:=jfB (l:=qd h W now met) (va:=v) (by rw[z5];exact hown);subst hv';rw[z5] at hown ⊢;obtain⟨K,hK⟩:∃K,met.length=K:=⟨_,rfl⟩;have hKf:K<=65536:=by
  have h2:=JB now (i:=0) (j:=now.length) (Nat.zero_le _) (zqg _);rw[qI] at h2;have:=hok.len;have:=z.un;have:=z.w1;omega
 have HOWN:=hid hown;have HOK:=hid hok;have HK:=hid hK;have HS2:=hid hs2;have HB2:=hid hB2;have HBM:=hid bM2;rw[hK];clear hmet hown hok hb2 bM0 hB0 hK;gi_wp2_with (refine⟨trivial,?_⟩;gi_at_call 108;refine(each_in Fence.wide _ trivial rfl _ _ _ _).mono ?_;rintro e w' ⟨rfl,rfl⟩);have bI:=Boxed.new w2 3 (.int .i64 0);have bN:=Boxed.new (w2.alloc (.cells #[.int .i64 0] 3)) 70 (.slice va K cap);rw[World.size_alloc] at bN;have hB3:Below w2.heap.size w2 ((w2.alloc (.cells #[.int .i64 0] 3)).alloc (.cells #[.slice va K cap] 70)):=((Below.refl _ w2).alloc (zqg _) _).alloc (by simp) _;have hrow:((w2.alloc (.cells #[.int .i64 0] 3)).alloc (.cells #[.slice va K cap] 70)).ownsRow 0 3 1 (.slice va K cap) (qd h W now met).length (ql (qd h W now met)):=by
  have:=Jl (B':=0) HOWN.out (Nat.zero_le _);rw[z5];rw[HK.out] at this ⊢;exact(this.alloc _).alloc _
 refine wpIn_rangeFunc_ownG rfl (by omega) (gf:=155) (lb:=#[.pointer (some ⟨w2.heap.size+1,0,none⟩)]) rfl trivial (enters_of Tryz.func155 (by kernel_rfl) rfl)
  (each_stops (3-1) (by omega) (w2.heap.size+1) (.slice va K cap) (qd h W now met) _ bN hrow) JR jfq (Below.refl _ _) (fun _=>rfl)
  (fun pre W'=>Boxed W' w2.heap.size 3 (.int .i64 (Zp now met pre:Nat))/\Below w2.heap.size w2 W')
  (fun _ _ _=>False)
  (OwnFrom.and (Own.from (boxed_own w2.heap.size 3 (fun(pre:List Nat)=>.int .i64 (Zp now met pre:Nat))) _) (ownFrom_below (zqg _) (by simp;omega)))
  (fun _ _ _ _ _ hs _ _=>hs)
  ⟨bI.alloc _,hB3⟩
  ?a1 ?assign ?body ?done ?stop
 case assign=>
  intro l x W' K hK;gi_wp2;exact hK
 case body=>
  rintro l pre x W' ⟨hI,hB⟩ hlt;have hci:=hI.cell;have hfi:=hI.frozen;have hmb:Boxed W' w.heap.size 62 (.pointer (some ⟨b,0,none⟩)):=(hB.block _ (by have:=HS2.out;omega)).trans HBM.out;have hcm:=hmb.cell;have HLX:=hid (jt2 ((HM.out.below (HB2.out.trans (hB.mono HB2.out.size)))) z HOK.out x);have hle:=jqh z met pre;have hsx:=jgB z met x;rw[z5,HK.out] at hlt;obtain⟨Q,hQ⟩:∃Q,Zp now met pre=Q:=⟨_,rfl⟩;obtain⟨S,hS⟩:∃S,ZU now met x=S:=⟨_,rfl⟩;have hnx:Zp now met (pre++[x])=Q+(1+S):=by rw[jlm,hQ,hS]
  obtain⟨Z,hZ⟩:∃Z,(qd h W now met)[x]?.getD 0=Z:=⟨_,rfl⟩;rw[zqi] at HLX;rw[hQ] at hci hle;rw[hS] at hsx HLX;rw[hZ] at HLX;have hQ2:(Q:Int)<=1073823744:=by omega
  have hS2:(S:Int)<=16384:=by omega
  have hQ0:(0:Int)<=Q:=by omega
  have hS0:(0:Int)<=S:=by omega
  have HNX:=hid hnx;have HI:=hid hI;have HB:=hid hB;rw[hZ];clear hI hB hmb hQ hS hnx hZ hle hsx;gi_wp2_with fail;refine⟨trivial,?_⟩;refine(CallsIn.inRound l (callsIn_wide.2 HLX.out)).mono ?_;rintro e w5 ⟨⟨k5,t5,q5,rfl⟩,n5,hw5⟩;have HW5:=hid hw5;have hci5:w5.cell? ⟨w2.heap.size,0,none⟩=some (.int .i64 (Q:Int)):=by rw[hw5];exact hci
  have hfi5:w5.frozen? ⟨w2.heap.size,0,none⟩=false:=by rw[hw5];exact hfi
  clear hw5 hci hfi hcm;gi_wp2_with fail;have hset:=HI.out.set (.int .i64 ((Q:Int)+(1+(S:Int))));have hrw:=HOWN.out;rw[HK.out] at hrw;rw[HW5.out];refine⟨((jdW W' n5).trans (KeepsOthers.setCell _ _ _)).from _,fun hr=>(((Fr.refl (·=w2.heap.size) W').drewN n5).setCell (p:=⟨w2.heap.size,0,none⟩) (.inl rfl) _).own hr (fun g hg e=>by have:=(hrw.lt g hg).2;omega),?_,(Below.drewN' HB.out n5).setCell (p:=⟨w2.heap.size,0,none⟩) (zqg _) _⟩;rw[HNX.out,show((Q+(1+S):Nat):Int)=(Q:Int)+(1+(S:Int)) by omega];exact hset
 case done=>
  rintro D ys W' hD rfl ⟨hI,hB⟩ hK;have hci:=hI.cell;rw[z5,jnN] at hci;have hln:qt now met=jeP now h W ns:=by unfold jeP;rw[HMET.out]
  rw[hln] at hci;have HB:=hid hB;have HKD:=hid hK;clear hI hB hK hln;gi_wp2_with fail;refine⟨by simp,.inl ⟨_,_,rfl,run_takeDeferred HKD.out,?_⟩⟩;refine⟨_,results_tmp2 rfl _ _ _,rfl,(HB2.out.trans (HB.out.mono HB2.out.size)).trans (belowK_b (w:=w) (zqg _) W' D _ _ (by have:=HS2.out;simp at hD;omega) HKD.out rfl rfl)⟩
 case stop=>
  rintro D c pre W' _ _ h _;exact h.elim
end
end
section
open Go Go.RowKit Go.Shelf
attribute [local go_sem] Oper.semAt_some
section
variable {w:World} {b W h:Nat} {R:Nat->Value} {now old:List Ob}
theorem jji (n:Nat) (hn:n<18446744073709551616) (h1:n%2=1) (p:Option Addr):Calls prog 110 #[.pointer p,.int .u64 (n:Int)] w fun e w'=>e=.returned (.int .u64 (n:Int))/\w'=w:=by
 have HI:=hid (fun W1=>j5 (n:Int) W1 (by omega) (by omega));have q0:jj (n:Int)=true:=by unfold jj;simpa using by omega
 rw[q0] at HI;clear q0 h1 hn;go_enter Tryz.func110,Tryz.ntmps110;go_wp2_with fail;refine(HI.out _).mono ?_;rintro e w1 ⟨rfl,hw⟩;subst w1;go_wp2_with fail;go_ret;exact⟨rfl,rfl⟩
end
end
