/- A part of the proof of MachineMoves. Conditions: those that each theorem names. -/
import Derived.Test.YtklcmdoadmcpfaaGreatDoorQ40
import Derived.Deep.Upon
set_option maxRecDepth 100000
set_option maxHeartbeats 400000000
namespace Go.Proofs.YtklcmdoadmcpfaaGreatDoor
open Go Go.RowKit IsaL
open Go.Lib(hid)
open Go.Proofs.Tryz(prog)
theorem jiw {w:World} {W S:Int} {gl rb g n c:Nat} (h:RefNew w W S gl rb) (hn:n<=65536) (hc:∀k,k<n->w.cell? ⟨g,k*3,none⟩=some (.bool false)):
  Calls prog 85 #[.pointer (some ⟨rb,0,none⟩),.slice (some ⟨g,0,none⟩) n c] w fun e w'=>e=.returned (.slice none 0 0)/\Below w.heap.size w w':=by
 obtain⟨cs,_,hmk⟩:=jgh 0 (by omega);have hmk2:∀w:World,(Instr.makeSlice 191 (.int .i64 0) (.int .i64 0)).run prog w=.ok (.slice (some ⟨w.heap.size,0,none⟩) 0 0) (w.alloc (.cells cs 4)):=hmk;have c2:=h.at (j:=2) (v:=.slice none 0 0) rfl;have hpn:((some (⟨rb,0,none⟩:Addr))==none)=false:=rfl;have hb1:=jq w (.cells cs 4);obtain⟨w1,hw1⟩:∃w1,w.alloc (.cells cs 4)=w1:=⟨_,rfl⟩;have hmw:=hmk2 w;rw[hw1] at hb1 hmw;have HC:=hid (fun k hk=>(jm hb1 (hc k hk)));have HB:=hid hb1;clear h hc hmk hmk2 hb1 hw1;go_enter Tryz.func85,Tryz.ntmps85;go_wp2_with fail;go_loopw [6,7,8] (fun o l d wr=>o=.slice none 0 0/\l=.slice (some ⟨g,0,none⟩) n c/\d=.int .i64 0/\wr=w1) (fun _ _ _ _=>0)
 case atStart=>exact⟨rfl,rfl,rfl,rfl⟩
 case round=>
  obtain⟨rfl,rfl,rfl,rfl⟩:=hrel;go_wp2_with fail;go_loopw [6,9] (fun o i wq=>o=.slice none 0 0/\(∃k:Nat,k<=n/\i=.int .i64 k)/\wq=wr) (fun _ i _=>n-(intOf i).toNat)
  case atStart=>exact⟨rfl,⟨0,by omega,rfl⟩,rfl⟩
  case round=>
   obtain⟨rfl,⟨k,hk,rfl⟩,rfl⟩:=hrel;by_cases hlt:k<n
   ·have ck:=HC.out k hlt
    have b0:(0:Int)<=(k:Int):=by omega
    have b1:(k:Int)<n:=by omega
    go_wp2_with fail;go_roundw
    case rel=>exact⟨rfl,⟨k+1,hlt,by go_num⟩,trivial⟩
    case measure=>simp[intOf];omega
   ·obtain rfl:k=n:=by omega
    have b1:¬(k:Int)<k:=by omega
    go_wp2_with fail;go_ret;exact⟨rfl,HB.out⟩
theorem jjh {w:World} {W S:Int} {gl rb:Nat} (h:RefNew w W S gl rb):
  Calls prog 49 #[.pointer (some ⟨rb,0,none⟩)] w fun e w'=>e=.returned (.int .i64 0)/\Below w.heap.size w w':=by
 have HR:=hid (jix h);have HH:=hid h;clear h;go_enter Tryz.func49,Tryz.ntmps49;go_wp2_with fail;refine HR.out.mono ?_;rintro e w1 ⟨⟨v,rfl,ho⟩,hb⟩;obtain⟨g,c,rfl,_,_,hc⟩:=jtx ho (by omega);have HO:=hid ((jiw (n:=1042) (c:=c) (HH.out.below hb) (by omega) (fun k hk=>(hc k hk).1)).mono (fun e w' h=>zqf h.1 (hb.trans (h.2.mono hb.size))));clear ho hc hb;go_wp2_with fail;refine HO.out.mono ?_;rintro e w2 ⟨rfl,hb2⟩;have HB:=hid hb2;clear hb2;go_wp2_with fail;go_loopw [4,5] (fun n i wr=>n=.int .i64 0/\i=.int .i64 0/\wr=w2) (fun _ _ _=>0)
 case atStart=>exact⟨rfl,rfl,rfl⟩
 case round=>
  obtain⟨rfl,rfl,rfl⟩:=hrel;go_wp2_with fail;go_ret;exact⟨rfl,HB.out⟩
theorem jno (W S:Nat):Jp (jZ W S)=0:=by
 have h:∀j∈Jk (jZ W S).objs (jr (jZ W S)),False:=fun j hj=>by
  have:=jif (Usd.new W S).co j hj;cases this
 have e:Jk (jZ W S).objs (jr (jZ W S))=[]:=List.eq_nil_iff_forall_not_mem.2 fun j hj=>h j hj;unfold Jp;rw[e];rfl
theorem jbh (W S:Nat) (n:Nat):jz (jZ W S) n=(jZ W S,decide (n<=W)):=by
 unfold jz;rw[jno];by_cases h:n<=W
 ·rw[if_pos (by show(0:Int)+(n:Int)<=(W:Int);omega),zqr h]
 ·rw[if_neg (by show¬(0:Int)+(n:Int)<=(W:Int);omega),zqq h]
  congr 1;exact zqq (by show¬((0:Nat):Int)+(n:Int)<=(W:Int);omega)
section
variable {O:Nat->Prop} {Y:World} {W S gl rb:Nat}
theorem RAt.refnew (a:RAt O Y rb (jZ W S) (jb5 gl)):RefNew Y W S gl rb:=by
 refine⟨?_,by rw[jit];exact a.bx⟩;have h:=a.ogl;have e:(List.range 1024).map (jZ W S).gl=List.replicate 1024 (.I 0):=by
  show(List.range 1024).map (fun _=>RWd.I 0)=_;rw[List.map_const',List.length_range]
 rw[e] at h;rcases h.2 with⟨h0,_⟩|⟨g,cap,cur,hv,hb,hg,_⟩
 ·cases h0
 ·cases hv
  refine⟨cur,hg,fun k hk=>?_⟩;have hz:(List.replicate 1024 (RWd.I 0))[k]?=some (.I 0):=by rw[List.getElem?_replicate,if_pos hk]
  have c:∀j,j<3->cur[k*3+j]?=some (wc (.I 0) j):=fun j hj=>by
   have h1:=h.cellAt (k*3+j) (by omega);rw[jb hg] at h1;exact h1.trans (qJ hz hj)
  exact⟨c 0 (by decide),c 1 (by decide),c 2 (by decide)⟩
theorem jov (a:RAt O Y rb (jZ W S) (jb5 gl)) (n:Nat) (hn:n<=1000000000000):
  Calls prog 46 #[.pointer (some ⟨rb,0,none⟩),.int .i64 (n:Int)] Y fun e w'=>e=.returned (.bool (decide (n<=W)))/\RAt O w' rb (jZ W S) (jb5 gl)/\Fr O Y w':=by
 have c0:=a.cell (j:=0) (by decide);have c3:=a.cell (j:=3) (by decide);replace c0:Y.cell? ⟨rb,0,none⟩=some (.int .i64 (W:Int)):=c0;replace c3:Y.cell? ⟨rb,3,none⟩=some (.int .i64 0):=c3;have z3:=a.fz 3;have w1:IntKind.i64.wrap (n:Int)=(n:Int):=jv (by omega) (by omega);have HA:=hid a;by_cases h:n<=W
 ·have d0:decide ((W:Int)<(n:Int))=false:=zqq (by omega)
  have d1:decide ((n:Int)<=(W:Int))=true:=zqr (by omega);have d2:decide (W<n)=false:=zqq (by omega);have d3:decide (n<=W)=true:=zqr h;rw[d3];clear a;go_enter Tryz.func46,Tryz.ntmps46;go_wp2_with fail;go_quiet (fail);go_wp2_with fail;go_quiet (fail);go_wp2_with fail;go_ret;exact⟨rfl,HA.out.below ⟨rfl,rfl,rfl,zqg _,fun _ _=>rfl⟩,((Fr.refl O Y).drewN _).drewN _⟩
 ·have d0:decide ((W:Int)<(n:Int))=true:=zqr (by omega)
  have d1:decide ((n:Int)<=(W:Int))=false:=zqq (by omega);have d2:decide (W<n)=true:=zqr (by omega);have d3:decide (n<=W)=false:=zqq h;rw[d3];have HL:=hid (fun(X:World) (hX:Below Y.heap.size Y X)=>jjh (HA.out.below hX).refnew);clear a;go_enter Tryz.func46,Tryz.ntmps46;go_wp2_with fail;go_quiet (fail);go_wp2_with fail;refine(HL.out (Y.drewN nq) ⟨rfl,rfl,rfl,zqg _,fun _ _=>rfl⟩).mono ?_;rintro e w2 ⟨rfl,hb2⟩;have hb3:Below Y.heap.size Y w2:=⟨hb2.os,hb2.tape,hb2.output,hb2.size,hb2.block⟩;have a2:=HA.out.below hb3;have e3:=a2.cell (j:=3) (by decide);have f3:=a2.fz 3;have a3:RAt O (w2.setCell ⟨rb,3,none⟩ (.int .i64 0)) rb (jZ W S) (jb5 gl):=a2.used 0;have hf3:Fr O Y (w2.setCell ⟨rb,3,none⟩ (.int .i64 0)):=(Fr.of_below (O:=O) hb3).setCell (p:=⟨rb,3,none⟩) (.inl a2.Og) _;have k0:=a3.cell (j:=0) (by decide);have k3:=a3.cell (j:=3) (by decide);obtain⟨X,hX⟩:∃X,w2.setCell ⟨rb,3,none⟩ (.int .i64 0)=X:=⟨_,rfl⟩;rw[hX] at a3 hf3 k0 k3;replace k0:X.cell? ⟨rb,0,none⟩=some (.int .i64 (W:Int)):=k0;replace k3:X.cell? ⟨rb,3,none⟩=some (.int .i64 0):=k3;have HX:=hid hX;have HF:=hid (zqf a3 hf3);clear a2 a3 hf3 hX hb2 hb3;go_wp2_with fail;rw[HX.out];go_quiet (fail);go_wp2_with fail;go_ret;exact⟨rfl,HF.out.1.drewN _,HF.out.2.drewN _⟩
end
theorem jqS {P:Program} (w:World) (t ty e:TypeId) (i:TypeInfo) (ht:P.underlying t=some (.slice e)) (hi:P.info? e=some i) (base A:Option Addr) (sLen sCap c:Nat) (hle:sLen<=sCap):
  (Builtin.append_ #[t,t] ty #[.slice base sLen sCap,.slice A 0 c]).run P w=.ok (.slice base sLen sCap) w:=by
 cases base<;>cases A<;>simp[Builtin.append_,run_underlying ht,sizeOf,typeInfo,hi,hle,storeCells,Builtin.lenOf,Builtin.firstCells,loadCells,loadCellsFrom]
section
variable {P:Program} {w:World}
theorem jcD {o:Oper} {a:Act} {K:Act->World->Prop} {Q:Exit->Act->World->Prop} (s x:Operand) (t:TypeId)
  (ho:o.op=.call {callee:=.builtin .append,args:=#[s,x],argTypes:=#[t,t]})
  (base:Nat) (e:TypeId) (i:TypeInfo) (z:Value) (size bytes:Nat) (ht:P.underlying t=some (.slice e)) (hi:P.info? e=some i) (hz:i.zero=some z)
  (hsize:i.size=size) (hby:i.bytes=bytes) (hzs:z.cells.size=size) (hsz:0<size)
  (v:Value) (n:Nat) (xs:List Value) (hs:a.eval s=v) (hown:w.ownsRow base e size v n xs)
  (fa:Option Addr) (m c:Nat) (news:List Value) (hx:a.eval x=.slice fa m c) (hl:news.length=m*size) (hnews:∀j u,news[j]?=some u->∃ad,fa=some ad/\w.cell? (ad.add j)=some u) (h1:∀u∈news,u.oneCell'=true)
  (h63:n+m<=maxLen) (hbytes:(n+m)*bytes<=140737488355328) (hbase:base<=w.heap.size)
  (h:∀A' c' w',w'.ownsRow base e size (.slice A' (n+m) c') (n+m) (xs++news)->w.grownBy w' v.ownBlock->(∀q,(Value.slice A' (n+m) c').ownBlock=some q->v.ownBlock=some q\/q=w.heap.size)->K (a.put o.dst (.slice A' (n+m) c')) w'):o.wp P a w K Q:=by
 by_cases hm:0<m
 ·obtain⟨u,hu⟩:∃u,news[0]?=some u:=⟨_,zqh (by rw[hl];exact Nat.mul_pos hm hsz)⟩
  obtain⟨ad,rfl,_⟩:=hnews 0 u hu;refine wp_append_lies w s x t ho base e i z size bytes ht hi hz hsize hby hzs hsz v n xs hs hown ad m c news hx hl (fun j u hj=>?_) h1 hm h63 hbytes hbase _ rfl (fun g cap w' h2 h3 h4 _=>h _ _ w' h2 h3 (fun q hq=>?_))
  ·obtain⟨ad',e1,e2⟩:=hnews j u hj
   rw[zqd e1];exact e2
  ·have hg:g=q:=by simpa[Value.ownBlock] using hq
   subst hg;exact h4
 ·obtain rfl:m=0:=by omega
  have hn:news=[]:=List.eq_nil_of_length_eq_zero (by rw[hl,Nat.zero_mul]);subst hn;obtain⟨A,k,rfl,hle⟩:∃A k,v=.slice A n k/\n<=k:=by
   rcases hown.2 with⟨rfl,rfl⟩|⟨g,cap,cur,rfl,_,_,hc,_⟩
   ·exact⟨none,0,rfl,zqg _⟩
   ·exact⟨_,cap,rfl,hc⟩
  unfold Oper.wp execOp;simp only[ho,resolve,invoke,builtin,Sem.run_bind,Sem.run_pure,Result.andThen_ok,List.map_toArray,List.map_cons,List.map_nil,hs,hx,jqS w t _ e i ht hi A fa n k c hle];exact h A k w (by simpa using hown) (World.grownBy.refl w _) (fun q hq=>.inl hq)
end
section
variable {w w':World} {b B k n:Nat} {t:TypeId} {vA vA' vB:Value} {xs:List Value}
theorem jsR {W:World} (h:W.heap[B]?=some (.cells #[] t (0,0))) (hb:b<=B):W.ownsRow b t k (.slice (some ⟨B,0,none⟩) 0 0) 0 []:=
 ⟨by simp,.inr ⟨B,0,#[],rfl,hb,h,zqg _,by simp[maxLen],by simp,by simp⟩⟩
end
section
open Go Go.RowKit
structure Cp where
 s:Nat
 b:Nat
 v:Value
 t:TypeId
 k:Nat
 n:Nat
 xs:List Value
 c0:Array Value
def Cp.no:Cp:=⟨0,0,undef,0,0,0,[],#[]⟩
def Cp.own (c:Cp) (p:Nat):Prop:=(c.s=1/\p=c.b)\/(c.s=2/\c.v.ownBlock=some p)
structure CpF (wr Y:World) (K:Nat->Cp):Prop where
 S:Below wr.heap.size wr Y
 c1:∀j,(K j).s=1->Y.heap[(K j).b]?=some (.cells (K j).c0 (K j).t (0,0))/\wr.heap.size<=(K j).b
 c2:∀j,(K j).s=2->Y.ownsRow wr.heap.size (K j).t (K j).k (K j).v (K j).n (K j).xs
 d:∀i j,i≠j->∀p,(K i).own p->¬(K j).own p
section
variable {wr Y Y1:World} {K:Nat->Cp} {T:Nat->Prop}
theorem CpF.lt (h:CpF wr Y K) {j p:Nat} (hp:(K j).own p):wr.heap.size<=p/\p<Y.heap.size:=by
 rcases hp with⟨hs,rfl⟩|⟨hs,e⟩
 ·obtain⟨h1,h2⟩:=h.c1 j hs
  exact⟨h2,(zqa h1).1⟩
 ·exact(h.c2 j hs).lt p e
theorem CpF.step (h:CpF wr Y K) (hf:Fr T Y Y1) (hS:Below wr.heap.size wr Y1) (j:Nat) (c:Cp) (hT:∀i,i≠j->∀p,(K i).own p->¬T p)
  (h1:c.s=1->Y1.heap[c.b]?=some (.cells c.c0 c.t (0,0))/\wr.heap.size<=c.b) (h2:c.s=2->Y1.ownsRow wr.heap.size c.t c.k c.v c.n c.xs)
  (hd:∀p,c.own p->(K j).own p\/Y.heap.size<=p):CpF wr Y1 (fun i=>if i=j then c else K i):=by
 have far:∀k,k≠j->∀p,c.own p->¬(K k).own p:=fun k hk p hp z=>by
  rcases hd p hp with q|q
  ·exact h.d j k (Ne.symm hk) p q z
  ·have:=(h.lt z).2
   omega
 refine⟨hS,fun i hi=>?_,fun i hi=>?_,fun i k hik p hp z=>?_⟩
 ·by_cases e:i=j
  ·simp only[if_pos e] at hi ⊢
   exact h1 hi
  ·simp only[if_neg e] at hi ⊢
   obtain⟨q1,q2⟩:=h.c1 i hi;exact⟨(hf.block _ (zqa q1).1 (hT i e _ (.inl ⟨hi,rfl⟩))).trans q1,q2⟩
 ·by_cases e:i=j
  ·simp only[if_pos e] at hi ⊢
   exact h2 hi
  ·simp only[if_neg e] at hi ⊢
   exact jd hf (h.c2 i hi) fun q eq=>hT i e q (.inr ⟨hi,eq⟩)
 ·by_cases e:i=j
  ·simp only[if_pos e] at hp
   by_cases e2:k=j
   ·exact hik (e.trans e2.symm)
   ·simp only[if_neg e2] at z
    exact far k e2 p hp z
  ·simp only[if_neg e] at hp
   by_cases e2:k=j
   ·simp only[if_pos e2] at z
    exact far i e p z hp
   ·simp only[if_neg e2] at z
    exact h.d i k hik p hp z
def upK (K:Nat->Cp) (j:Nat) (c:Cp):Nat->Cp:=fun i=>if i=j then c else K i
theorem CpF.alloc (h:CpF wr Y K) (j:Nat) (t:TypeId) (cs:Array Value):CpF wr (Y.alloc (.cells cs t)) (upK K j ⟨1,Y.heap.size,undef,t,0,0,[],cs⟩):=
 h.step ((Fr.refl (fun _=>False) Y).alloc _) (h.S.trans ((jq Y _).mono h.S.size)) j _ (fun _ _ _ _=>id) (fun _=>⟨zqe Y _,h.S.size⟩) (fun e=>by cases e) fun p hp=>by
  rcases hp with⟨_,rfl⟩|⟨e,_⟩
  ·exact .inr (zqg _)
  ·cases e
theorem CpF.emp (h:CpF wr Y K) (j:Nat) (t:TypeId) (k:Nat):CpF wr (Y.alloc (.cells #[] t)) (upK K j ⟨2,0,.slice (some ⟨Y.heap.size,0,none⟩) 0 0,t,k,0,[],#[]⟩):=
 h.step ((Fr.refl (fun _=>False) Y).alloc _) (h.S.trans ((jq Y _).mono h.S.size)) j _ (fun _ _ _ _=>id) (fun e=>by cases e) (fun _=>jsR (zqe Y _) h.S.size) fun p hp=>by
  rcases hp with⟨e,_⟩|⟨_,e⟩
  ·cases e
  ·exact .inr (Nat.le_of_eq (zqd e))
theorem CpF.app (h:CpF wr Y K) (j:Nat) (hs:(K j).s=2) {v v':Value} (hv:(K j).v=v) {t:TypeId} {k n:Nat} {xs:List Value} (oN:Y1.ownsRow wr.heap.size t k v' n xs) (hg:Y.grownBy Y1 v.ownBlock) (hq:∀q,v'.ownBlock=some q->v.ownBlock=some q\/q=Y.heap.size):CpF wr Y1 (upK K j ⟨2,0,v',t,k,n,xs,#[]⟩):=by
 subst hv;have ho:∀q,(K j).v.ownBlock=some q->(K j).own q:=fun q e=>.inr ⟨hs,e⟩;refine h.step ((Fr.refl (fun i=>(K j).v.ownBlock=some i) Y).grown hg (fun k hk=>.inl hk)) (h.S.grown hg h.S.size fun z hz=>(h.lt (ho z hz)).1) j _ (fun i hi p hp z=>h.d i j hi p hp (ho p z)) (fun e=>by cases e) (fun _=>oN) fun p hp=>?_;rcases hp with⟨e,_⟩|⟨_,e⟩
 ·cases e
 ·rcases hq p e with z|z
  ·exact .inl (ho p z)
  ·exact .inr (Nat.le_of_eq z.symm)
theorem jkl {w W:World} {g b:Nat} (h:Below b w W) (hg:b<=g) (x y:Value):Below b w (W.setCells g 0 [x,y]):=(h.setCell (p:=⟨g,0,none⟩) hg x).setCell (p:=⟨g,1,none⟩) hg y
theorem jo7 {W:World} {g:Nat} {a b:Value} {T:TypeId} (h:W.heap[g]?=some (.cells #[a,b] T (0,0))) (x y:Value):(W.setCells g 0 [x,y]).heap[g]?=some (.cells #[x,y] T (0,0)):=zk (zk h 0 x) 1 y
theorem jfj (W:World) (g:Nat) (x y:Value):Fr (fun i=>i=g) W (W.setCells g 0 [x,y]):=((Fr.refl (fun i=>i=g) W).setCell (p:=⟨g,0,none⟩) (.inl rfl) x).setCell (p:=⟨g,1,none⟩) (.inl rfl) y
theorem jiT {W:World} {g:Nat} {a b:Value} {T:TypeId} (h:W.heap[g]?=some (.cells #[a,b] T (0,0))):W.there g 0 2:=fun j hj=>by
 rw[Nat.zero_add];exact⟨by rw[jb h j,Array.getElem?_eq_getElem (by simp;omega)];rfl,jF h j⟩
theorem jfz (x y:Value) (h1:x.oneCell'=true) (h2:y.oneCell'=true):(#[x,y].all fun z=>z.oneCell')=true:=by simp[h1,h2]
theorem CpF.sto (h:CpF wr Y K) (j:Nat) {b:Nat} {t:TypeId} {x0 y0:Value} (hk:K j=⟨1,b,undef,t,0,0,[],#[x0,y0]⟩) (x y:Value):CpF wr (Y.setCells b 0 [x,y]) (upK K j ⟨1,b,undef,t,0,0,[],#[x,y]⟩):=by
 have h1:=h.c1 j (by rw[hk]);rw[hk] at h1;have ho:(K j).own b:=by rw[hk];exact .inl ⟨rfl,rfl⟩
 refine h.step (jfj Y b x y) (jkl h.S h1.2 x y) j _ (fun i hi p hp z=>h.d i j hi p hp (z▸ho)) (fun _=>⟨jo7 h1.1 x y,h1.2⟩) (fun e=>by cases e) fun p hp=>?_;rcases hp with⟨_,rfl⟩|⟨e,_⟩
 ·exact .inl ho
 ·cases e
theorem CpF.call (h:CpF wr Y K) (hf:Fr T Y Y1) (hS:Below wr.heap.size wr Y1) (hT:∀j p,(K j).own p->¬T p):CpF wr Y1 K:=
 ⟨hS,fun i hi=>by
  obtain⟨q1,q2⟩:=h.c1 i hi;exact⟨(hf.block _ (zqa q1).1 (hT i _ (.inl ⟨hi,rfl⟩))).trans q1,q2⟩,fun i hi=>jd hf (h.c2 i hi) fun q e=>hT i q (.inr ⟨hi,e⟩),h.d⟩
theorem CpF.nil (h:Below wr.heap.size wr Y):CpF wr Y fun _=>Cp.no:=
 ⟨h,fun _ e=>(by cases e),fun _ e=>(by cases e),fun _ _ _ p hp=>by
   rcases hp with⟨e,_⟩|⟨e,_⟩<;>cases e⟩
end
end
section
open Go
def unl (l:Array Bool):Nat:=(l.toList.filter (·==false)).length
theorem jfG:∀(l:List Bool) (i:Nat),l[i]?=some false->(((l.set i true).filter (·==false)).length)+1=(l.filter (·==false)).length
 |[],_,h=>by simp at h
 |b::l,0,h=>by
  have:b=false:=by simpa using h
  subst this;simp
 |b::l,i+1,h=>by
  have:=jfG l i (by simpa using h);cases b<;>simp at this ⊢ <;>omega
section
variable {P:Program} {ops:Array Oper} {Q:Exit->Act->World->Prop} {md:Region.Mode} {S:World->Prop} {I:Array Bool->Act->World->Prop}
theorem jcx (hd:∀l a w,I l a w->Region.ready md ops l=[]->Q .normal a w)
  (hs:∀l a w i o,I l a w->i∈Region.ready md ops l->ops[i]?=some o->∀K':Act->World->Prop,Shut (∀a w,S w->I (l.setIfInBounds i true) a w->K' a w)→
   if Region.wanted o (yielded ops a.tmps)=true then Oper.wp P o a w K' Q else K' (a.put o.dst undef) w):
  ∀(fuel:Nat) (l:Array Bool) (a:Act) (w:World),unl l<=fuel->I l a w->wpAnyH P md ops Q S fuel l a w
 |0,l,a,w,hn,hI=>by
  have hr:Region.ready md ops l=[]:=by
   cases hc:Region.ready md ops l with
   |nil=>rfl
   |cons i r=>
    have hi:i∈Region.ready md ops l:=by rw[hc];exact List.mem_cons_self
    obtain⟨h1,_⟩:=mem_ready.1 hi;exfalso;have h2:l.toList[i]?=some false:=by
     rcases Nat.lt_or_ge i l.size with q|q
     ·simp[q] at h1
      simp[q,h1]
     ·simp[Array.getElem?_eq_none q] at h1
    have:=jfG l.toList i h2;unfold unl at hn;omega
  exact⟨hr,hd l a w hI hr⟩
 |fuel+1,l,a,w,hn,hI=>by
  refine⟨fun hr=>hd l a w hI hr,fun i hi=>?_⟩;obtain⟨h1,o,ho,_⟩:=mem_ready.1 hi;have h2:l.toList[i]?=some false:=by
   rcases Nat.lt_or_ge i l.size with q|q
   ·simp[q] at h1
    simp[q,h1]
   ·simp[Array.getElem?_eq_none q] at h1
  have h3:=jfG l.toList i h2;refine wpOp_step ho fun K' hK=>hs l a w i o hI hi ho K' fun a' w' hS hI'=>hK a' w' ⟨hS,jcx hd hs fuel _ a' w' ?_ hI'⟩;unfold unl at hn ⊢;rw[Array.toList_setIfInBounds];omega
theorem jdJ {n:Nat} {l:Array Bool} {a:Act} {w:World} (h:∀a0,a0=a->wpAnyH P md ops Q S n l a0 w):wpAnyH P md ops Q S n l a w:=h a rfl
theorem JV {l:Array Bool} (hr:Region.ready md ops l=[]) (i:Nat) {o:Oper} (ho:ops[i]?=some o) (hd:(o.after.toList.all fun e=> !Region.binds md e||l.getD e.on false)=true):l.getD i true=true:=by
 cases hc:l.getD i true with
 |true=>rfl
 |false=>
  have h:i∈Region.ready md ops l:=mem_ready.2 ⟨hc,o,ho,fun e he hb=>by
   have h2:=List.all_eq_true.1 hd e (Array.mem_toList_iff.2 he);simpa[hb] using h2⟩
  rw[hr] at h;cases h
theorem JU {l:Array Bool} {i j:Nat} {o:Oper} {e:Edge} (hi:i∈Region.ready md ops l) (ho:ops[i]?=some o) (he:o.after[j]?=some e) (hb:Region.binds md e=true):l.getD e.on false=true:=by
 obtain⟨_,o',ho',h⟩:=mem_ready.1 hi;rw[ho] at ho';obtain rfl:=zqd ho';exact h e (Array.mem_of_getElem? he) hb
theorem jn5 {l:Array Bool} {i:Nat} (hi:i∈Region.ready md ops l):l.getD i true=false:=(mem_ready.1 hi).1
end
end
theorem jdN (k n:Int) (hn:1<=n) (hn2:n<=1000000000) (w:World):
  Calls prog 37 #[.int .i64 k,.int .i64 n] w fun e w'=>e=.returned (.int .i64 (k%n))/\w'=w:=by
 have t1:=Int.tmod_lt_of_pos k (show 0<n by omega);have t2: -n<k.tmod n:=by
  have:=Int.tmod_lt_of_pos (-k) (show 0<n by omega);rw[Int.neg_tmod] at this;omega
 have e1:k%n=if k.tmod n<0 then k.tmod n+n else k.tmod n:=by
  have hk:k%n=k.tmod n%n:=by
   have:=Int.mul_tdiv_add_tmod k n
   conv=>lhs;rw[<-this]
   rw[Int.add_comm,Int.add_mul_emod_self_left]
  rw[hk];split
  ·rw[<-Int.add_emod_right,Int.emod_eq_of_lt (by omega) (by omega)]
  ·rw[Int.emod_eq_of_lt (by omega) (by omega)]
 obtain⟨m,hm⟩:∃m,k.tmod n=m:=⟨_,rfl⟩;rw[hm] at t1 t2 e1;rw[e1];clear e1;have hnz:(n==0)=false:=jab (by omega);by_cases hneg:m<0
 ·rw[if_pos hneg]
  go_enter Tryz.func37,Tryz.ntmps37;go_wp2;go_ret;exact⟨rfl,rfl⟩
 ·rw[if_neg hneg]
  go_enter Tryz.func37,Tryz.ntmps37;go_wp2;go_ret;exact⟨rfl,rfl⟩
theorem jrY (a b c s e:Int) (w:World):
  Calls prog 13 #[.agg #[.int .i64 a,.int .i64 b,.int .i64 c,.int .i64 s,.int .i64 e]] w fun x w'=>x=.returned (.agg #[.int .i64 (64+a%8000),.int .i64 (16+b%3000),.int .i64 (c%3000),.int .i64 s,.int .i64 e])/\Below w.heap.size w w':=by
 obtain⟨a1,ha1⟩:∃a1,a%8000=a1:=⟨_,rfl⟩;obtain⟨b1,hb1⟩:∃b1,b%3000=b1:=⟨_,rfl⟩;obtain⟨c1,hc1⟩:∃c1,c%3000=c1:=⟨_,rfl⟩;have w1:IntKind.i64.wrap (64+a1)=64+a1:=jv (by omega) (by omega);have w2:IntKind.i64.wrap (16+b1)=16+b1:=jv (by omega) (by omega);have H1:=hid (fun Y=>show Calls prog 37 #[.int .i64 a,.int .i64 8000] Y (fun e w'=>e=.returned (.int .i64 a1)/\w'=Y) from ha1▸jdN a 8000 (by decide) (by decide) Y);have H2:=hid (fun Y=>show Calls prog 37 #[.int .i64 b,.int .i64 3000] Y (fun e w'=>e=.returned (.int .i64 b1)/\w'=Y) from hb1▸jdN b 3000 (by decide) (by decide) Y);have H3:=hid (fun Y=>show Calls prog 37 #[.int .i64 c,.int .i64 3000] Y (fun e w'=>e=.returned (.int .i64 c1)/\w'=Y) from hc1▸jdN c 3000 (by decide) (by decide) Y);rw[ha1,hb1,hc1];clear ha1 hb1 hc1;go_enter Tryz.func13,Tryz.ntmps13;go_wp2_with fail;refine(H1.out _).mono ?_;rintro x w' ⟨rfl,hw'⟩;subst w';go_wp2_with fail;refine(H2.out _).mono ?_;rintro x w' ⟨rfl,hw'⟩;subst w';go_wp2_with fail;refine(H3.out _).mono ?_;rintro x w' ⟨rfl,hw'⟩;subst w';go_wp2_with fail;refine bodyPost_ret (v:=.agg #[.int .i64 (64+a1),.int .i64 (16+b1),.int .i64 c1,.int .i64 s,.int .i64 e]) (by simp[results,Tryz.results13,go_sem]) rfl ?_;exact⟨rfl,((Below.refl _ w).alloc (zqg _) _).alloc (by simp) _⟩
def SmC (c:jn):Prop:=c.ls.length<=3000/\c.ins.length<=3000/\∀x∈c.ls,x.tx.size<=24007
def jaZ (l:List jn):Prop:=l.length<=60/\∀c∈l,SmC c
section
variable {O:Nat->Prop} {w:World} {v:Value} {l:List jn}
theorem jnm (hc:CodesAt O w v l) (hg:Great l):
  Calls prog 11 #[v] w fun e w'=>(∃b,e=.returned (.bool b)/\(b=true->jaZ l))/\w'=w:=by
 have hr:reachBytes=140737488351232:=rfl;obtain⟨nc,hnc⟩:∃nc,l.length=nc:=⟨_,rfl⟩;obtain⟨A1,k1,rfl,l1⟩:=hc;obtain⟨hg1,hg2⟩:=hg;rw[hr] at hg1;rw[hr] at hg2;rw[hnc] at hg1 ⊢;have HC:=hid l1;have HN:=hid hnc;have HG:=hid hg2;clear l1 hnc hg2 hr;go_enter Tryz.func11,Tryz.ntmps11;go_wp2_with fail;go_loopw [3,4] (fun n i wr=>∃k N:Nat,n=.int .i64 N/\i=.int .i64 k/\k<=nc/\k<=61/\N<=3000/\(∀c∈l.take k,SmC c)/\wr=w) (fun _ i _=>nc-(intOf i).toNat)
 case atStart=>exact⟨0,0,rfl,rfl,Nat.zero_le _,Nat.zero_le _,Nat.zero_le _,fun c hc=>by simp at hc,rfl⟩
 case round=>
  obtain⟨k,N,rfl,rfl,hk,hk61,hN,hsm,hwr⟩:=hrel;subst hwr;by_cases hgo:k<nc/\k<61
  ·obtain⟨hlt,hlt61⟩:=hgo
   have d0:decide ((k:Int)<(nc:Int))=true:=zqr (by omega);have d1:decide ((k:Int)<61)=true:=zqr (by omega);obtain⟨c,hx⟩:∃c,l[k]?=some c:=⟨_,zqh (by have:=HN.out;omega)⟩;obtain⟨B,off,lv,iv,rfl,hB1,hB2,c2,c3,⟨Al,cl,rfl,hLL⟩,⟨Ai,ci,rfl,hII⟩⟩:=HC.out k c hx;obtain⟨q1,q2,q3⟩:=HG.out c (zqc hx);obtain⟨nl,hnl⟩:∃nl,c.ls.length=nl:=⟨_,rfl⟩;obtain⟨ni,hni⟩:∃ni,c.ins.length=ni:=⟨_,rfl⟩;rw[hnl] at c2 q1;rw[hni] at c3 q2;have HLL:=hid hLL;have HX:=hid (zqf hx (zqf hnl (zqf hni hsm)));have HQ3:=hid q3;have b1:(k:Int)<nc:=by omega
   clear hLL hII hx hnl hni hsm q3;go_wp2_with fail;go_loopw [3,5] (fun n j wx=>∃q N2:Nat,n=.int .i64 N2/\j=.int .i64 q/\q<=nl/\N2<=18000000000000/\q<=N2/\(∀x∈c.ls.take q,x.tx.size/8<=N2)/\wx=wr) (fun _ j _=>nl-(intOf j).toNat)
   case atStart=>exact⟨0,N,rfl,rfl,Nat.zero_le _,by omega,Nat.zero_le _,fun x hx=>by simp at hx,rfl⟩
   case round=>
    obtain⟨q,N2,rfl,rfl,hq,hN2,hqN,hts,hwx⟩:=hrel;subst hwx;by_cases hgo2:q<nl/\N2<3001
    ·obtain⟨hl2,hl3⟩:=hgo2
     have e0:decide ((q:Int)<(nl:Int))=true:=zqr (by omega);have e1:decide ((N2:Int)<3001)=true:=zqr (by omega);obtain⟨x,hx⟩:∃x,c.ls[q]?=some x:=⟨_,zqh (by have:=HX.out.2.1;omega)⟩;obtain⟨LB,loff,rfl,hLB1,hLB2,hcell⟩:=HLL.out q x hx;have g3:=hcell 3 (by omega);have htx:=HQ3.out x (zqc hx);obtain⟨kd,n,num,tx⟩:=x;replace g3:wr.cell? ⟨LB,loff+q*4+3,none⟩=some (.string tx):=g3;replace htx:tx.size<=140737488351232:=htx.1;have bq:(q:Int)<nl:=by omega
     obtain⟨tw,htw⟩:∃tw,tx.size/8=tw:=⟨_,rfl⟩;have w1:IntKind.i64.wrap ((N2:Int)+1)=(N2:Int)+1:=jv (by omega) (by omega);have w2:((tx.size:Nat):Int).tdiv 8=(tw:Int):=by rw[Int.tdiv_eq_ediv_of_nonneg (by omega)];omega
     have w3:IntKind.i64.wrap (tw:Int)=(tw:Int):=jv (by omega) (by omega);have w4:IntKind.i64.wrap ((N2:Int)+1+(tw:Int))=(N2:Int)+1+(tw:Int):=jv (by omega) (by omega);have HR:=hid (show∀x∈c.ls.take (q+1),x.tx.size/8<=N2+1+tw from by
      intro y hy;rw[zT hx] at hy;rcases List.mem_append.1 hy with z|z
      ·have:=hts y z;omega
      ·rw[List.mem_singleton.1 z]
       show tx.size/8<=_;omega)
     have htb:tw<=17592186043904:=by omega
     clear hx hcell hts htw;go_wp2_with fail;go_roundw
     case rel=>exact⟨q+1,N2+1+tw,by go_num,by go_num,hl2,by omega,by omega,HR.out,by first|rfl|trivial⟩
     case measure=>simp[intOf];omega
    ·have hcase:(decide ((q:Int)<(nl:Int))=false/\decide (q<nl)=false/\q=nl)\/(decide ((q:Int)<(nl:Int))=true/\decide ((N2:Int)<3001)=false/\decide (q<nl)=true/\decide (N2<3001)=false/\3001<=N2):=by
      by_cases z:q<nl
      ·exact .inr ⟨zqr (by omega),zqq (by omega),zqr z,zqq (by omega),by omega⟩
      ·exact .inl ⟨zqq (by omega),zqq z,by omega⟩
     have HTS:=hid hts;have w5:IntKind.i64.wrap ((N2:Int)+(ni:Int))=(N2:Int)+(ni:Int):=jv (by omega) (by omega);clear hts hgo2;by_cases hbig:3000<N2+ni
     ·have f0:decide ((3000:Int)<(N2:Int)+(ni:Int))=true:=zqr (by omega)
      have f1:decide (3000<N2+ni)=true:=zqr hbig;rcases hcase with⟨e0,e4,_⟩|⟨e0,e1,e4,e5,_⟩;all_goals
       go_wp2_with fail;go_ret;exact⟨⟨false,rfl,fun h=>by cases h⟩,rfl⟩
     ·have f0:decide ((3000:Int)<(N2:Int)+(ni:Int))=false:=zqq (by omega)
      have f1:decide (3000<N2+ni)=false:=zqq hbig;rcases hcase with⟨e0,e4,he⟩|⟨e0,e1,e4,e5,he⟩
      ·have HR:=hid (show∀x∈l.take (k+1),SmC x from by
        obtain⟨r1,r2,r3,r4⟩:=HX.out;intro y hy;rw[zT r1] at hy;rcases List.mem_append.1 hy with z|z
        ·exact r4 y z
        ·rw[List.mem_singleton.1 z]
         refine⟨by omega,by omega,fun x hx=>?_⟩;have:=HTS.out x (by rw[zqp (by omega)];exact hx);omega)
       clear he;go_wp2_with fail;go_roundw
       case rel=>exact⟨k+1,N2+ni,by go_num,by go_num,by omega,by omega,by omega,HR.out,by first|rfl|trivial⟩
       case measure=>simp[intOf];omega
      ·omega
  ·have hcase:(decide ((k:Int)<(nc:Int))=false/\decide (k<nc)=false/\k=nc)\/(decide ((k:Int)<(nc:Int))=true/\decide ((k:Int)<61)=false/\decide (k<nc)=true/\decide (k<61)=false/\k=61/\k<nc):=by
    by_cases z:k<nc
    ·exact .inr ⟨zqr (by omega),zqq (by omega),zqr z,zqq (by omega),by omega,z⟩
    ·exact .inl ⟨zqq (by omega),zqq z,by omega⟩
   have HS:=hid hsm;clear hsm hgo;by_cases h60:nc<=60
   ·have f0:decide ((nc:Int)<=60)=true:=zqr (by omega)
    have f1:decide (nc<=60)=true:=zqr h60;rcases hcase with⟨e0,e4,he⟩|⟨e0,e1,e4,e5,he,he2⟩
    ·have HF:=hid (show jaZ l from⟨by rw[HN.out];exact h60,fun c hc=>HS.out c (by rw[zqp (by rw[HN.out];omega)];exact hc)⟩)
     clear he;go_wp2_with fail;go_ret;exact⟨⟨true,rfl,fun _=>HF.out⟩,rfl⟩
    ·omega
   ·have f0:decide ((nc:Int)<=60)=false:=zqq (by omega)
    have f1:decide (nc<=60)=false:=zqq h60;rcases hcase with⟨e0,e4,he⟩|⟨e0,e1,e4,e5,he,he2⟩;all_goals
     clear he;go_wp2_with fail;go_ret;exact⟨⟨false,rfl,fun h=>by cases h⟩,rfl⟩
end
