/- A part of the proof of MachineMoves. Conditions: those that each theorem names. -/
import Derived.Test.YtklcmdoadmcpfaaGreatDoorQ11
set_option maxRecDepth 100000
set_option maxHeartbeats 400000000
namespace Go.Proofs.YtklcmdoadmcpfaaGreatDoor
open Go Go.RowKit IsaL
def Zg (k n:Nat) (F:Nat->Nat->Value):List Value:=(List.range (n*k)).map fun j=>F (j/k) (j%k)
section
variable {k n:Nat} {F G:Nat->Nat->Value}
theorem qN (k n:Nat) (F:Nat->Nat->Value):(Zg k n F).length=n*k:=by simp[Zg]
theorem jiK {m:Nat} (h:m<n*k):(Zg k n F)[m]?=some (F (m/k) (m%k)):=by
 unfold Zg;rw[List.getElem?_map,List.getElem?_range h];rfl
theorem QC {i j:Nat} (hi:i<n) (hj:j<k):i*k+j<n*k:=by
 have:(i+1)*k<=n*k:=Nat.mul_le_mul_right k hi;rw[Nat.add_mul,Nat.one_mul] at this;omega
theorem Qd {i j:Nat} (hj:j<k):(i*k+j)/k=i/\(i*k+j)%k=j:=by
 rw[Nat.mul_comm];exact⟨by rw[Nat.mul_add_div (by omega),Nat.div_eq_of_lt hj];rfl,by rw[Nat.mul_add_mod,Nat.mod_eq_of_lt hj]⟩
theorem Qe {i j:Nat} (hi:i<n) (hj:j<k):(Zg k n F)[i*k+j]?=some (F i j):=by
 rw[jiK (QC hi hj),(Qd hj).1,(Qd hj).2]
theorem Q9 (h:∀i j,i<n->j<k->F i j=G i j):Zg k n F=Zg k n G:=by
 unfold Zg;refine List.map_congr_left fun m hm=>?_;have hm:=List.mem_range.1 hm;have hk:0<k:=Nat.pos_of_ne_zero fun e=>by subst e;rw[Nat.mul_zero] at hm;omega
 exact h _ _ (by rw[Nat.div_lt_iff_lt_mul hk];exact hm) (Nat.mod_lt _ hk)
theorem jfC {l:List Value} (hl:l.length=n*k) (h:∀i j,i<n->j<k->l[i*k+j]?=some (F i j)):l=Zg k n F:=by
 refine List.ext_getElem? fun m=>?_;by_cases hm:m<n*k
 ·have hk:0<k:=Nat.pos_of_ne_zero fun e=>by subst e;rw[Nat.mul_zero] at hm;omega
  have h1:=h (m/k) (m%k) (by rw[Nat.div_lt_iff_lt_mul hk];exact hm) (Nat.mod_lt _ hk);have e:m/k*k+m%k=m:=by rw[Nat.mul_comm];exact Nat.div_add_mod m k
  rw[e] at h1;rw[h1,jiK hm]
 ·rw[List.getElem?_eq_none (by omega),List.getElem?_eq_none (by rw[qN];omega)]
theorem jfD {i j:Nat} (hj:j<k) (v:Value):(Zg k n F).set (i*k+j) v=Zg k n fun a b=>if a=i/\b=j then v else F a b:=by
 refine jfC (by rw[List.length_set,qN]) fun a b ha hb=>?_;rw[List.getElem?_set];by_cases e:i*k+j=a*k+b
 ·have h1:=(Qd (i:=i) hj).1
  have h2:=(Qd (i:=i) hj).2;rw[e,(Qd hb).1] at h1;rw[e,(Qd hb).2] at h2;subst h1 h2;rw[if_pos e,if_pos (by rw[qN];exact QC ha hb),if_pos ⟨rfl,rfl⟩]
 ·rw[if_neg e,Qe ha hb,if_neg (fun q=>e (by rw[q.1,q.2]))]
theorem jjY (m:Nat):Zg k (n+m) F=Zg k n F++Zg k m fun i j=>F (n+i) j:=by
 symm;refine jfC (by rw[zqm,qN,qN,Nat.add_mul]) fun a b ha hb=>?_;by_cases h:a<n
 ·rw[zqo (by rw[qN];exact QC h hb),Qe h hb]
 ·have h1:n*k<=a*k:=Nat.mul_le_mul_right k (by omega)
  rw[zqn (by rw[qN];omega),qN,show a*k+b-n*k=(a-n)*k+b by rw[Nat.sub_mul];omega,Qe (by omega) hb,show n+(a-n)=a by omega]
theorem jjZ (k:Nat) (F:Nat->Nat->Value):Zg k 1 F=(List.range k).map (F 0):=by
 symm;refine jfC (by simp) fun a b ha hb=>?_;obtain rfl:a=0:=by omega
 rw[Nat.zero_mul,Nat.zero_add,List.getElem?_map,List.getElem?_range hb];rfl
theorem jeg (h:∀i j,j<k->(F i j).oneCell'=true):∀u∈Zg k n F,u.oneCell'=true:=fun u hu=>by
 unfold Zg at hu;obtain⟨m,hm,rfl⟩:=List.mem_map.1 hu;have hm:=List.mem_range.1 hm;have hk:0<k:=Nat.pos_of_ne_zero fun e=>by subst e;rw[Nat.mul_zero] at hm;omega
 exact h _ _ (Nat.mod_lt _ hk)
end
def wc:RWd->Nat->Value
 | .I _,0=>.bool false
 | .I n,1=>.int .i64 n
 | .I _,_=>.int .i64 0
 | .P _,0=>.bool true
 | .P _,1=>.int .i64 0
 | .P k,_=>.int .i64 (k:Int)
theorem juW (v:RWd) (j:Nat):(wc v j).oneCell'=true:=by
 cases v<;>(match j with|0=>rfl|1=>rfl|_+2=>rfl)
def RWd.isB:RWd->Bool
 | .I _=>false
 | .P _=>true
def RWd.nI:RWd->Int
 | .I n=>n
 | .P _=>0
def RWd.aI:RWd->Int
 | .I _=>0
 | .P k=>(k:Int)
theorem jrf (v:RWd):wc v 0=.bool v.isB:=by cases v<;>rfl
theorem jrg (v:RWd):wc v 1=.int .i64 v.nI:=by cases v<;>rfl
theorem jrh (v:RWd):wc v 2=.int .i64 v.aI:=by cases v<;>rfl
def wV (v:RWd):Value:=.agg #[.bool v.isB,.int .i64 v.nI,.int .i64 v.aI]
def zC (l:List RWd):List Value:=Zg 3 l.length fun i j=>wc (l.getD i (.I 0)) j
theorem joY (l:List RWd):(zC l).length=l.length*3:=qN _ _ _
theorem qJ {l:List RWd} {i j:Nat} {v:RWd} (h:l[i]?=some v) (hj:j<3):(zC l)[i*3+j]?=some (wc v j):=by
 have hi:=(zqb h).1;unfold zC;rw[Qe hi hj,zqi,h];rfl
theorem ju0 {l:List RWd} {i:Nat} (hi:i<l.length) (v:RWd):(((zC l).set (i*3) (wc v 0)).set (i*3+1) (wc v 1)).set (i*3+2) (wc v 2)=zC (l.set i v):=by
 unfold zC;have h0:=jfD (k:=3) (n:=l.length) (F:=fun i j=>wc (l.getD i (.I 0)) j) (i:=i) (j:=0) (by omega) (wc v 0);rw[Nat.add_zero] at h0;rw[h0,jfD (by omega),jfD (by omega),List.length_set];refine Q9 fun a b ha hb=>?_;rw[zqi,zqi,List.getElem?_set];by_cases e:a=i
 ·subst e
  simp only[true_and,if_pos,if_pos hi,Option.getD_some];by_cases b2:b=2
  ·simp[b2]
  ·by_cases b1:b=1
   ·simp[b1]
   ·have:b=0:=by omega
    simp[this]
 ·simp[e,Ne.symm e]
theorem juY (l:List RWd):∀u∈zC l,u.oneCell'=true:=jeg fun _ _ _=>juW _ _
theorem juZ (n:Nat):zC (List.replicate n (.I 0))=Zg 3 n fun _ j=>wc (.I 0) j:=by
 unfold zC;rw[List.length_replicate];exact Q9 fun i j hi _=>by rw[zqi,List.getElem?_replicate,if_pos hi];rfl
structure Lay where
 ov:Value
 fv:Value
 hv:Value
 gv:Value
 wv:Nat->Value
 iv:Nat->Value
 sv:Nat->Value
 T:Nat->Nat
def rF (M:RM) (L:Lay):Nat->Value:=fun j=>
 if j=0 then .int .i64 M.limit else if j=1 then .int .i64 M.stack else if j=2 then L.ov else if j=3 then .int .i64 M.used else if j<52 then wc (M.rg ((j-4)/3)) ((j-4)%3) else if j=52 then L.fv else if j=53 then L.hv else if j=54 then L.gv else if j<58 then wc M.entry (j-55) else if j<61 then wc M.value (j-58) else if j=61 then .int .i64 M.steps else .int .i64 M.budget
def obc (o:RObj) (wv iv:Value):Nat->Value
 |0=>.int .i64 (o.k:Int)
 |1=>wv
 |2=>.string o.tx
 |_=>iv
def noR:RObj:=⟨0,[],⟨#[]⟩,[]⟩
def oC (L:Lay) (os:List RObj):List Value:=Zg 4 os.length fun i j=>obc (os.getD i noR) (L.wv i) (L.iv i) j
def frc (x:RFm) (sv:Value) (j:Nat):Value:=if j<3 then wc x.code j else if j=3 then .int .i64 x.place else sv
def noF:RFm:=⟨.I 0,0,[]⟩
def fC (L:Lay) (fs:List RFm):List Value:=Zg 5 fs.length fun i j=>frc (fs.getD i noF) (L.sv i) j
def jfo (x:I5):Nat->Value
 |0=>.int .i64 x.1
 |1=>.int .i64 x.2.1
 |2=>.int .i64 x.2.2.1
 |3=>.int .i64 x.2.2.2.1
 |_=>.int .i64 x.2.2.2.2
def InsAt (O:Nat->Prop) (w:World) (v:Value) (l:List I5):Prop:=∃A c,v=.slice A l.length c/\∀j x,l[j]?=some x->∃B off,A=some ⟨B,off,none⟩/\B<w.heap.size/\¬O B/\∀i,i<5->w.cell? ⟨B,off+j*5+i,none⟩=some (jfo x i)
structure RAt (O:Nat->Prop) (w:World) (g:Nat) (M:RM) (L:Lay):Prop where
 bx:w.heap[g]?=some (.cells (zX 63 (rF M L)) 79 (0,0))
 oo:w.ownsRow 0 100 4 L.ov M.objs.length (oC L M.objs)
 of:w.ownsRow 0 109 5 L.fv M.frs.length (fC L M.frs)
 oh:w.ownsRow 0 214 2 L.hv M.has.length (JY M.has)
 ogl:w.ownsRow 0 72 3 L.gv 1024 (zC ((List.range 1024).map M.gl))
 ow:∀i o,M.objs[i]?=some o->w.ownsRow 0 72 3 (L.wv i) o.ws.length (zC o.ws)
 oi:∀i o,M.objs[i]?=some o->InsAt O w (L.iv i) o.ins
 os:∀j x,M.frs[j]?=some x->w.ownsRow 0 72 3 (L.sv j) x.slots.length (zC x.slots)
 Og:O g
 Oo:∀q,L.ov.ownBlock=some q->O q/\L.T q=1
 Of:∀q,L.fv.ownBlock=some q->O q/\L.T q=2
 Oh:∀q,L.hv.ownBlock=some q->O q/\L.T q=3
 Ogl:∀q,L.gv.ownBlock=some q->O q/\L.T q=4
 Ow:∀i o,M.objs[i]?=some o->∀q,(L.wv i).ownBlock=some q->O q/\L.T q=5+2*i
 Os:∀j x,M.frs[j]?=some x->∀q,(L.sv j).ownBlock=some q->O q/\L.T q=6+2*j
 Tg:L.T g=0
section
variable {O P:Nat->Prop} {w w1:World} {g:Nat} {M:RM} {L:Lay}
theorem RAt.lt (a:RAt O w g M L):g<w.heap.size:=(zqa a.bx).1
theorem RAt.cell (a:RAt O w g M L) {j:Nat} (hj:j<63):w.cell? ⟨g,j,none⟩=some (rF M L j):=by
 rw[jb a.bx,jfu _ hj]
theorem RAt.fz (a:RAt O w g M L) (j:Nat):w.frozen? ⟨g,j,none⟩=false:=jF a.bx j
theorem jvn {M:RM} {L:Lay} {M':RM} {L':Lay} {j:Nat} {v:Value} (hv:rF M' L' j=v) (ho:∀i,i≠j->rF M' L' i=rF M L i):zt (rF M L) j v=rF M' L':=by
 funext i;unfold zt;by_cases h:i=j
 ·rw[if_pos h,h,hv]
 ·rw[if_neg h,ho i h]
section
variable (a:RAt O w g M L)
include a
theorem RAt.kept (hf:Fr P w w1) (hP:∀i,O i->¬P i) (hI:∀q:Nat,q<w.heap.size->¬O q->¬P q):RAt O w1 g M L:=
 {a with
  bx:=(hf.block g a.lt (hP g a.Og)).trans a.bx
  oo:=jd hf a.oo fun q h=>hP q (a.Oo q h).1
  of:=jd hf a.of fun q h=>hP q (a.Of q h).1
  oh:=jd hf a.oh fun q h=>hP q (a.Oh q h).1
  ogl:=jd hf a.ogl fun q h=>hP q (a.Ogl q h).1
  ow:=fun i o h=>jd hf (a.ow i o h) fun q e=>hP q (a.Ow i o h q e).1
  oi:=fun i o h=>by
   obtain⟨A,c,e,k⟩:=a.oi i o h;refine⟨A,c,e,fun j x hx=>?_⟩;obtain⟨B,off,q1,q2,q3,q4⟩:=k j x hx;exact⟨B,off,q1,Nat.lt_of_lt_of_le q2 hf.size,q3,fun i hi=>hf.cell_some (q4 i hi) (hI B q2 q3)⟩
  os:=fun j x h=>jd hf (a.os j x h) fun q e=>hP q (a.Os j x h q e).1}
theorem RAt.below (hb:Below w.heap.size w w1):RAt O w1 g M L:=
 a.kept (Fr.of_below (O:=fun _=>False) hb) (fun _ _=>id) (fun _ _ _=>id)
theorem RAt.drewN (n:Nat):RAt O (w.drewN n) g M L:=a.kept ((Fr.refl (fun _=>False) w).drewN n) (fun _ _=>id) (fun _ _ _=>id)
theorem RAt.fr1 {q:Nat} (hq:O q) (hf:Fr (fun i=>i=q) w w1):
  (L.T q≠1->w1.ownsRow 0 100 4 L.ov M.objs.length (oC L M.objs))∧
  (L.T q≠2->w1.ownsRow 0 109 5 L.fv M.frs.length (fC L M.frs))∧
  (L.T q≠3->w1.ownsRow 0 214 2 L.hv M.has.length (JY M.has))∧
  (L.T q≠4->w1.ownsRow 0 72 3 L.gv 1024 (zC ((List.range 1024).map M.gl)))∧
  (∀i o,M.objs[i]?=some o->L.T q≠5+2*i->w1.ownsRow 0 72 3 (L.wv i) o.ws.length (zC o.ws))∧
  (∀i o,M.objs[i]?=some o->InsAt O w1 (L.iv i) o.ins)∧
  (∀j x,M.frs[j]?=some x->L.T q≠6+2*j->w1.ownsRow 0 72 3 (L.sv j) x.slots.length (zC x.slots))∧
  (L.T q≠0->w1.heap[g]?=some (.cells (zX 63 (rF M L)) 79 (0,0))):=by
 refine⟨fun h=>jd hf a.oo fun z hz e=>h ?_,fun h=>jd hf a.of fun z hz e=>h ?_,fun h=>jd hf a.oh fun z hz e=>h ?_,fun h=>jd hf a.ogl fun z hz e=>h ?_,fun i o ho h=>jd hf (a.ow i o ho) fun z hz e=>h ?_,fun i o ho=>?_,fun j x hx h=>jd hf (a.os j x hx) fun z hz e=>h ?_,fun h=>(hf.block g a.lt fun e=>h ?_).trans a.bx⟩
 ·rw[<-e];exact(a.Oo z hz).2
 ·rw[<-e];exact(a.Of z hz).2
 ·rw[<-e];exact(a.Oh z hz).2
 ·rw[<-e];exact(a.Ogl z hz).2
 ·rw[<-e];exact(a.Ow i o ho z hz).2
 ·obtain⟨A,c,e,k⟩:=a.oi i o ho
  refine⟨A,c,e,fun j x hx=>?_⟩;obtain⟨B,off,q1,q2,q3,q4⟩:=k j x hx;exact⟨B,off,q1,Nat.lt_of_lt_of_le q2 hf.size,q3,fun i hi=>hf.cell_some (q4 i hi) (fun e=>q3 (by rw[show B=q from e];exact hq))⟩
 ·rw[<-e];exact(a.Os j x hx z hz).2
 ·rw[<-e];exact a.Tg
theorem RAt.put {M':RM} {L':Lay} (hf:Fr (fun i=>i=g) w w1) (hb:w1.heap[g]?=some (.cells (zX 63 (rF M' L')) 79 (0,0))) (e1:M'.objs=M.objs) (e2:M'.frs=M.frs) (e3:M'.has=M.has) (e4:M'.gl=M.gl) (e5:L'=L):RAt O w1 g M' L':=by
 subst e5;obtain⟨h1,h2,h3,h4,h5,h6,h7,h8⟩:=a.fr1 a.Og hf;have ht:=a.Tg;exact⟨hb,by rw[e1];exact h1 (by omega),by rw[e2];exact h2 (by omega),by rw[e3];exact h3 (by omega),by rw[e4];exact h4 (by omega),by rw[e1];exact fun i o h=>h5 i o h (by omega),by rw[e1];exact h6,by rw[e2];exact fun j x h=>h7 j x h (by omega),a.Og,a.Oo,a.Of,a.Oh,a.Ogl,by rw[e1];exact a.Ow,by rw[e2];exact a.Os,a.Tg⟩
theorem RAt.set1 {M':RM} {j:Nat} {v:Value} (hF:zt (rF M L) j v=rF M' L) (e1:M'.objs=M.objs) (e2:M'.frs=M.frs) (e3:M'.has=M.has) (e4:M'.gl=M.gl):RAt O (w.setCell ⟨g,j,none⟩ v) g M' L:=
 a.put ((Fr.refl (fun i=>i=g) w).setCell (p:=⟨g,j,none⟩) (.inl rfl) v) (by rw[JS a.bx j v,hF]) e1 e2 e3 e4 rfl
end
def Zb (w:World) (g p:Nat) (v:RWd):World:=((w.setCell ⟨g,p,none⟩ (.bool v.isB)).setCell ⟨g,p+1,none⟩ (.int .i64 v.nI)).setCell ⟨g,p+2,none⟩ (.int .i64 v.aI)
theorem jiN {W:World} {B n:Nat} {F:Nat->Value} {T:TypeId} (h:W.heap[B]?=some (.cells (zX n F) T (0,0))) (p:Nat) (v:RWd):(Zb W B p v).heap[B]?=some (.cells (zX n (zt (zt (zt F p (wc v 0)) (p+1) (wc v 1)) (p+2) (wc v 2))) T (0,0)):=by
 rw[jrf,jrg,jrh];exact JS (JS (JS h _ _) _ _) _ _
theorem zZ (w:World) (g p:Nat) (v:RWd):Fr (fun i=>i=g) w (Zb w g p v):=(((Fr.refl (fun i=>i=g) w).setCell (p:=⟨g,p,none⟩) (.inl rfl) _).setCell (p:=⟨g,p+1,none⟩) (.inl rfl) _).setCell (p:=⟨g,p+2,none⟩) (.inl rfl) _
theorem jud {F G:Nat->Value} {p:Nat} {v:RWd} (hv:∀j,j<3->G (p+j)=wc v j) (ho:∀i,(i<p\/p+3<=i)->G i=F i):zt (zt (zt F p (wc v 0)) (p+1) (wc v 1)) (p+2) (wc v 2)=G:=by
 funext i;unfold zt;by_cases h2:i=p+2
 ·rw[if_pos h2,h2,hv 2 (by omega)]
 ·rw[if_neg h2]
  by_cases h1:i=p+1
  ·rw[if_pos h1,h1,hv 1 (by omega)]
  ·rw[if_neg h1]
   by_cases h0:i=p
   ·rw[if_pos h0,h0];exact(hv 0 (by omega)).symm
   ·rw[if_neg h0,ho i (by omega)]
section
variable (a:RAt O w g M L)
include a
theorem RAt.budget (n:Int):RAt O (w.setCell ⟨g,62,none⟩ (.int .i64 n)) g {M with budget:=n} L:=by
 refine a.put ((Fr.refl (fun i=>i=g) w).setCell (p:=⟨g,62,none⟩) (.inl rfl) _) ?_ rfl rfl rfl rfl rfl;rw[JS a.bx];have:zX 63 (zt (rF M L) 62 (.int .i64 n))=zX 63 (rF {M with budget:=n} L):=by
  unfold zX;congr 1
 rw[this]
theorem RAt.used (n:Int):RAt O (w.setCell ⟨g,3,none⟩ (.int .i64 n)) g {M with used:=n} L:=
 a.set1 (jvn rfl fun i hi=>by unfold rF;rw[if_neg (c:=i=3) hi,if_neg (c:=i=3) hi]) rfl rfl rfl rfl
theorem RAt.value (v:RWd):RAt O (Zb w g 58 v) g {M with value:=v} L:=by
 refine a.put (zZ w g _ v) ?_ rfl rfl rfl rfl rfl;rw[jiN a.bx,jud (G:=rF {M with value:=v} L)]
 ·intro j hj
  unfold rF;rw[if_neg (by omega),if_neg (by omega),if_neg (by omega),if_neg (by omega),if_neg (by omega),if_neg (by omega),if_neg (by omega),if_neg (by omega),if_neg (by omega),if_pos (by omega),show 58+j-58=j by omega]
 ·intro i hi
  unfold rF;by_cases h:i<58
  ·rw[if_pos (c:=i<58) h,if_pos (c:=i<58) h]
  ·rw[if_neg (c:=i<61) (by omega),if_neg (c:=i<61) (by omega)]
theorem RAt.entry (v:RWd):RAt O (Zb w g 55 v) g {M with entry:=v} L:=by
 refine a.put (zZ w g _ v) ?_ rfl rfl rfl rfl rfl;rw[jiN a.bx,jud (G:=rF {M with entry:=v} L)]
 ·intro j hj
  unfold rF;rw[if_neg (by omega),if_neg (by omega),if_neg (by omega),if_neg (by omega),if_neg (by omega),if_neg (by omega),if_neg (by omega),if_neg (by omega),if_pos (by omega),show 55+j-55=j by omega]
 ·intro i hi
  unfold rF;by_cases h:i<58
  ·by_cases h2:i=54
   ·rw[h2];rfl
   ·by_cases h3:i=53
    ·rw[h3];rfl
    ·by_cases h4:i=52
     ·rw[h4];rfl
     ·rw[if_pos (c:=i<52) (by omega),if_pos (c:=i<52) (by omega)]
  ·rw[if_neg (c:=i<58) h,if_neg (c:=i<58) h]
theorem RAt.retag (T':Nat->Nat) (h:∀q,q<w.heap.size->T' q=L.T q):RAt O w g M {L with T:=T'}:=
 {a with
  Oo:=fun q e=>⟨(a.Oo q e).1,(h q (jC a.oo e)).trans (a.Oo q e).2⟩
  Of:=fun q e=>⟨(a.Of q e).1,(h q (jC a.of e)).trans (a.Of q e).2⟩
  Oh:=fun q e=>⟨(a.Oh q e).1,(h q (jC a.oh e)).trans (a.Oh q e).2⟩
  Ogl:=fun q e=>⟨(a.Ogl q e).1,(h q (jC a.ogl e)).trans (a.Ogl q e).2⟩
  Ow:=fun i o ho q e=>⟨(a.Ow i o ho q e).1,(h q (jC (a.ow i o ho) e)).trans (a.Ow i o ho q e).2⟩
  Os:=fun j x hx q e=>⟨(a.Os j x hx q e).1,(h q (jC (a.os j x hx) e)).trans (a.Os j x hx q e).2⟩
  Tg:=(h g a.lt).trans a.Tg}
theorem RAt.setF (v:Value) (l:List RFm) (sv:Nat->Value) (hv:w.ownsRow 0 109 5 v l.length (fC {L with sv:=sv} l)) (hq:∀q,v.ownBlock=some q->O q/\L.T q=2) (hs:∀j x,l[j]?=some x->w.ownsRow 0 72 3 (sv j) x.slots.length (zC x.slots)) (hs2:∀j x,l[j]?=some x->∀q,(sv j).ownBlock=some q->O q/\L.T q=6+2*j):RAt O (w.setCell ⟨g,52,none⟩ v) g {M with frs:=l} {L with fv:=v,sv:=sv}:=by
 have hf:Fr (fun i=>i=g) w (w.setCell ⟨g,52,none⟩ v):=(Fr.refl (fun i=>i=g) w).setCell (p:=⟨g,52,none⟩) (.inl rfl) v;obtain⟨h1,h2,h3,h4,h5,h6,h7,h8⟩:=a.fr1 a.Og hf;have ht:=a.Tg;refine⟨?_,h1 (by omega),jd hf hv fun q e z=>?_,h3 (by omega),h4 (by omega),fun i o h=>h5 i o h (by omega),h6,fun j x h=>jd hf (hs j x h) fun q e z=>?_,a.Og,a.Oo,hq,a.Oh,a.Ogl,a.Ow,hs2,a.Tg⟩
 ·rw[JS a.bx]
  congr 2
 ·have:=(hq q e).2
  rw[show q=g from z] at this;omega
 ·have:=(hs2 j x h q e).2
  rw[show q=g from z] at this;omega
theorem RAt.setH (v:Value) (l:List (Nat×Int)) (hv:w.ownsRow 0 214 2 v l.length (JY l)) (hq:∀q,v.ownBlock=some q->O q/\L.T q=3):RAt O (w.setCell ⟨g,53,none⟩ v) g {M with has:=l} {L with hv:=v}:=by
 have hf:Fr (fun i=>i=g) w (w.setCell ⟨g,53,none⟩ v):=(Fr.refl (fun i=>i=g) w).setCell (p:=⟨g,53,none⟩) (.inl rfl) v;obtain⟨h1,h2,h3,h4,h5,h6,h7,h8⟩:=a.fr1 a.Og hf;have ht:=a.Tg;refine⟨?_,h1 (by omega),h2 (by omega),jd hf hv fun q e z=>?_,h4 (by omega),fun i o h=>h5 i o h (by omega),h6,fun j x h=>h7 j x h (by omega),a.Og,a.Oo,a.Of,hq,a.Ogl,a.Ow,a.Os,a.Tg⟩
 ·rw[JS a.bx]
  congr 2
 ·have:=(hq q e).2
  rw[show q=g from z] at this;omega
end
end
structure jV where
 kd:Int
 n:Int
 num:Int
 tx:ByteArray
structure jn where
 ls:List jV
 ins:List I5
def jJ (m:Nat) (l:jV):Int:=if l.kd=1 then 0 else if l.kd=2 then(if 131064<l.tx.size then 3 else 0) else if l.kd=3 then(if l.n<0\/(m:Int)<=l.n then 60 else 0) else if l.kd=4 then(if l.n<0\/1024<=l.n then 60 else 0) else 1
def qz (l:jV):Nat:=if l.kd=2 then 2+(l.tx.size+7)/8 else 0
def zL (m:Nat):List jV->Int
 |[]=>0
 |l::t=>if jJ m l=0 then zL m t else jJ m l
def jU:List jV->Nat
 |[]=>0
 |l::t=>qz l+jU t
noncomputable def zG (x:I5):Int:=zq x.1 x.2.1 x.2.2.1 x.2.2.2.1 x.2.2.2.2
noncomputable def qs:List I5->Int
 |[]=>0
 |x::t=>if zG x=0 then qs t else zG x
noncomputable def jN (m:Nat) (c:jn):Int:=if 16384<c.ls.length+c.ins.length then 3 else if zL m c.ls=0 then qs c.ins else zL m c.ls
def zy (c:jn):Nat:=1+c.ls.length+c.ins.length+jU c.ls
noncomputable def zv (m:Nat):List jn->Int
 |[]=>0
 |c::t=>if jN m c=0 then zv m t else jN m c
def jg:List jn->Nat
 |[]=>0
 |c::t=>zy c+jg t
noncomputable def zu (l:List jn):Int:=if 4096<l.length then 3 else if l.length=0 then 1 else zv l.length l
section
variable {m:Nat}
theorem jeM {l:List jV}:∀{k:Nat} {x:jV},l[k]?=some x->zL m (l.take k)=0->jJ m x≠0->zL m l=jJ m x:=by
 induction l with
 |nil=>intro k x h;cases h
 |cons y t ih=>
  intro k x h h0 h1;cases k with
  |zero=>
   obtain rfl:y=x:=by simpa using h
   show(if jJ m y=0 then _ else _)=_;rw[if_neg h1]
  |succ k=>
   have h0':(if jJ m y=0 then zL m (t.take k) else jJ m y)=0:=h0;show(if jJ m y=0 then zL m t else jJ m y)=_;by_cases e:jJ m y=0
   ·rw[if_pos e] at h0' ⊢
    exact ih (by simpa using h) h0' h1
   ·rw[if_neg e] at h0'
    exact absurd h0' e
theorem jeL {l:List jV} {x:jV} (h0:zL m l=0) (h1:jJ m x=0):zL m (l++[x])=0:=by
 induction l with
 |nil=>show(if jJ m x=0 then _ else _)=_;rw[if_pos h1];rfl
 |cons y t ih=>
  have h0':(if jJ m y=0 then zL m t else jJ m y)=0:=h0;show(if jJ m y=0 then zL m (t++[x]) else jJ m y)=0;by_cases e:jJ m y=0
  ·rw[if_pos e] at h0' ⊢;exact ih h0'
  ·rw[if_neg e] at h0';exact absurd h0' e
theorem jeN (l:List jV) (x:jV):jU (l++[x])=jU l+qz x:=by
 induction l with
 |nil=>show qz x+0=0+qz x;omega
 |cons y t ih=>show qz y+jU (t++[x])=qz y+jU t+qz x;omega
theorem jsl {x:jV} (h:jJ m x=0):qz x<=20000:=by
 unfold qz jJ at*;split at h
 ·rename_i e;rw[if_neg (by omega)];omega
 ·split at h
  ·split at h
   ·cases h
   ·rename_i e _;rw[if_pos e];omega
  ·rename_i e;rw[if_neg e];omega
theorem jdX {l:List jV} (h:zL m l=0):jU l<=20000*l.length:=by
 induction l with
 |nil=>exact zqg _
 |cons y t ih=>
  have h0':(if jJ m y=0 then zL m t else jJ m y)=0:=h;by_cases e:jJ m y=0
  ·rw[if_pos e] at h0'
   have:=ih h0';have:=jsl e;show qz y+jU t<=20000*(t.length+1);omega
  ·rw[if_neg e] at h0';exact absurd h0' e
theorem jeG {l:List I5}:∀{k:Nat} {x:I5},l[k]?=some x->qs (l.take k)=0->zG x≠0->qs l=zG x:=by
 induction l with
 |nil=>intro k x h;cases h
 |cons y t ih=>
  intro k x h h0 h1;cases k with
  |zero=>
   obtain rfl:y=x:=by simpa using h
   show(if zG y=0 then _ else _)=_;rw[if_neg h1]
  |succ k=>
   have h0':(if zG y=0 then qs (t.take k) else zG y)=0:=h0;show(if zG y=0 then qs t else zG y)=_;by_cases e:zG y=0
   ·rw[if_pos e] at h0' ⊢
    exact ih (by simpa using h) h0' h1
   ·rw[if_neg e] at h0'
    exact absurd h0' e
theorem jeF {l:List I5} {x:I5} (h0:qs l=0) (h1:zG x=0):qs (l++[x])=0:=by
 induction l with
 |nil=>show(if zG x=0 then _ else _)=_;rw[if_pos h1];rfl
 |cons y t ih=>
  have h0':(if zG y=0 then qs t else zG y)=0:=h0;show(if zG y=0 then qs (t++[x]) else zG y)=0;by_cases e:zG y=0
  ·rw[if_pos e] at h0' ⊢;exact ih h0'
  ·rw[if_neg e] at h0';exact absurd h0' e
theorem jhT {l:List I5} (h:qs l=0):Okl l:=by
 induction l with
 |nil=>intro x hx;cases hx
 |cons y t ih=>
  have h0':(if zG y=0 then qs t else zG y)=0:=h;by_cases e:zG y=0
  ·rw[if_pos e] at h0'
   intro x hx;rcases List.mem_cons.1 hx with q|q
   ·rw[q];exact e
   ·exact ih h0' x q
  ·rw[if_neg e] at h0';exact absurd h0' e
theorem jdx {l:List jn}:∀{k:Nat} {x:jn},l[k]?=some x->zv m (l.take k)=0->jN m x≠0->zv m l=jN m x:=by
 induction l with
 |nil=>intro k x h;cases h
 |cons y t ih=>
  intro k x h h0 h1;cases k with
  |zero=>
   obtain rfl:y=x:=by simpa using h
   show(if jN m y=0 then _ else _)=_;rw[if_neg h1]
  |succ k=>
   have h0':(if jN m y=0 then zv m (t.take k) else jN m y)=0:=h0;show(if jN m y=0 then zv m t else jN m y)=_;by_cases e:jN m y=0
   ·rw[if_pos e] at h0' ⊢
    exact ih (by simpa using h) h0' h1
   ·rw[if_neg e] at h0'
    exact absurd h0' e
theorem jdw {l:List jn} {x:jn} (h0:zv m l=0) (h1:jN m x=0):zv m (l++[x])=0:=by
 induction l with
 |nil=>show(if jN m x=0 then _ else _)=_;rw[if_pos h1];rfl
 |cons y t ih=>
  have h0':(if jN m y=0 then zv m t else jN m y)=0:=h0;show(if jN m y=0 then zv m (t++[x]) else jN m y)=0;by_cases e:jN m y=0
  ·rw[if_pos e] at h0' ⊢;exact ih h0'
  ·rw[if_neg e] at h0';exact absurd h0' e
theorem jdy (l:List jn) (x:jn):jg (l++[x])=jg l+zy x:=by
 induction l with
 |nil=>show zy x+0=0+zy x;omega
 |cons y t ih=>show zy y+jg (t++[x])=zy y+jg t+zy x;omega
theorem jhD {x:jn} (h:jN m x=0):zy x<=400000000:=by
 unfold jN at h;unfold zy;split at h
 ·cases h
 ·split at h
  ·rename_i e1 e2
   have:=jdX e2;omega
  ·rename_i e;exact absurd h e
end
def jft (x:jV):Nat->Value
 |0=>.int .i64 x.kd
 |1=>.int .i64 x.n
 |2=>.int .i64 x.num
 |_=>.string x.tx
def LitsAt (O:Nat->Prop) (w:World) (v:Value) (l:List jV):Prop:=∃A c,v=.slice A l.length c/\∀j x,l[j]?=some x->∃B off,A=some ⟨B,off,none⟩/\B<w.heap.size/\¬O B/\∀i,i<4->w.cell? ⟨B,off+j*4+i,none⟩=some (jft x i)
def CodesAt (O:Nat->Prop) (w:World) (v:Value) (l:List jn):Prop:=∃A c,v=.slice A l.length c/\∀j x,l[j]?=some x->∃B off lv iv,A=some ⟨B,off,none⟩/\B<w.heap.size/\¬O B/\w.cell? ⟨B,off+j*2,none⟩=some lv/\w.cell? ⟨B,off+j*2+1,none⟩=some iv/\LitsAt O w lv x.ls/\InsAt O w iv x.ins
section
variable {O P:Nat->Prop} {w w1:World} {v:Value}
theorem InsAt.fr {l:List I5} (h:InsAt O w v l) (hf:Fr P w w1) (hP:∀i,i<w.heap.size->¬O i->¬P i):InsAt O w1 v l:=by
 obtain⟨A,c,e,k⟩:=h;refine⟨A,c,e,fun j x hx=>?_⟩;obtain⟨B,off,q1,q2,q3,q4⟩:=k j x hx;exact⟨B,off,q1,Nat.lt_of_lt_of_le q2 hf.size,q3,fun i hi=>hf.cell_some (q4 i hi) (hP B q2 q3)⟩
theorem LitsAt.fr {l:List jV} (h:LitsAt O w v l) (hf:Fr P w w1) (hP:∀i,i<w.heap.size->¬O i->¬P i):LitsAt O w1 v l:=by
 obtain⟨A,c,e,k⟩:=h;refine⟨A,c,e,fun j x hx=>?_⟩;obtain⟨B,off,q1,q2,q3,q4⟩:=k j x hx;exact⟨B,off,q1,Nat.lt_of_lt_of_le q2 hf.size,q3,fun i hi=>hf.cell_some (q4 i hi) (hP B q2 q3)⟩
theorem CodesAt.fr {l:List jn} (h:CodesAt O w v l) (hf:Fr P w w1) (hP:∀i,i<w.heap.size->¬O i->¬P i):CodesAt O w1 v l:=by
 obtain⟨A,c,e,k⟩:=h;refine⟨A,c,e,fun j x hx=>?_⟩;obtain⟨B,off,lv,iv,q1,q2,q3,q4,q5,q6,q7⟩:=k j x hx;exact⟨B,off,lv,iv,q1,Nat.lt_of_lt_of_le q2 hf.size,q3,hf.cell_some q4 (hP B q2 q3),hf.cell_some q5 (hP B q2 q3),q6.fr hf hP,q7.fr hf hP⟩
theorem InsAt.below {l:List I5} (h:InsAt O w v l) (hb:Below w.heap.size w w1):InsAt O w1 v l:=h.fr (Fr.of_below (O:=fun _=>False) hb) (fun _ _ _=>id)
theorem LitsAt.below {l:List jV} (h:LitsAt O w v l) (hb:Below w.heap.size w w1):LitsAt O w1 v l:=h.fr (Fr.of_below (O:=fun _=>False) hb) (fun _ _ _=>id)
theorem CodesAt.below {l:List jn} (h:CodesAt O w v l) (hb:Below w.heap.size w w1):CodesAt O w1 v l:=h.fr (Fr.of_below (O:=fun _=>False) hb) (fun _ _ _=>id)
end
