/- A part of the proof of MachineMoves. Conditions: those that each theorem names. -/
import Derived.Test.YtklcmdoadmcpfaaGreatDoorQ18
set_option maxRecDepth 100000
set_option maxHeartbeats 400000000
namespace Go.Proofs.YtklcmdoadmcpfaaGreatDoor
open Go Go.RowKit IsaL
open Go.Lib(hid)
open Go.Proofs.Tryz(prog)
section
open Go Go.RowKit Go.Shelf IsaL
attribute [local go_sem] Oper.semAt_some
theorem jdI {w:World} {B:Nat} {v:Value} {n:Nat} {ns:List Nat} (ho:w.ownsRow B 65 1 v n (u64s ns)) (hn:ns.length=n) (hs:n<=100000) (hw:∀x∈ns,x<18446744073709551616):
  ∃a c,v=.slice a n c/\Jg w a n ns/\∀(g off:Nat),a=some ⟨g,off,none⟩->v.ownBlock=some g:=by
 have ho':=ho;rcases ho.2 with⟨hv,h0⟩|⟨g,cap,cur,hv,hb,hg,h1,h2,h3,h4⟩
 ·refine⟨none,0,by rw[hv,h0],⟨hn,by omega,hw,fun j x hj=>?_⟩,fun g off e=>by cases e⟩
  have:=(zqb hj).1;omega
 ·subst hv
  refine⟨_,cap,rfl,⟨hn,by omega,hw,fun j x hj=>?_⟩,fun g' off e=>by injection e with e;injection e with e1;rw[<-e1];rfl⟩;have hj':=(zqb hj).1;refine⟨g,0,rfl,(zqa hg).1,?_⟩;rw[Nat.zero_add,ho'.cellAt j (by omega)];simp[u64s,hj]
theorem jqK {h W:Nat} {os old:List Ob} {met:List Nat} (z:WF W h os old) (ok:Okm os met) {n:Nat} (hn:n<18446744073709551616):zx h W os met n<18446744073709551616:=by
 unfold zx;split
 ·exact hn
 ·split
  ·exact hn
  ·rename_i j _
   have h1:=jai (now:=zJ os met) (k:=met.idxOf j) (by rw[jbt];exact List.idxOf_le_length);have h2:=jll (W:=W) z.fresh ok met.length z.un;rw[List.take_length] at h2;have h3:=z.w1;unfold JC jx;split<;>omega
theorem jgR {α β:Type}:∀(pre:List α) (ls:List β) (x:α) (y:β),ls[pre.length]?=some y->(pre++[x]).zip ls=pre.zip ls++[(x,y)]
 |[],ls,x,y,h=>by
  cases ls with
  |nil=>simp at h
  |cons l ls=>simp at h;subst h;rfl
 |p::pre,ls,x,y,h=>by
  cases ls with
  |nil=>simp at h
  |cons l ls=>
   have:=jgR pre ls x y (by simpa using h);simp[this]
theorem jrl {α β γ:Type} (f:α->β) (q:β->γ) (ys:List α):(ys.zip ((ys.map f).map q))=ys.map fun x=>(x,q (f x)):=by
 induction ys with
 |nil=>rfl
 |cons y l ih=>simp only[List.map_cons,List.zip_cons_cons,ih]
def jah {C:CM} {g fb sb:Nat} (C1:CM) (ls:List Nat) (pre:List (RtS C g fb sb)):CM:=(pre.zip ls).foldl (fun C p=>setA C g sb p.1.1 p.2) C1
section
variable {C C1:CM} {g fb sb:Nat} {ls:List Nat}
theorem joh (pre:List (RtS C g fb sb)) (x:RtS C g fb sb) {y:Nat} (hy:ls[pre.length]?=some y):jah C1 ls (pre++[x])=setA (jah C1 ls pre) g sb x.1 y:=by
 unfold jah;rw[jgR pre ls x y hy,List.foldl_append];rfl
theorem jgt:∀(pre:List (RtS C g fb sb)) (ls:List Nat) (C1:CM),(jah C1 ls pre).us=C1.us/\(jah C1 ls pre).sl.length=C1.sl.length/\(jah C1 ls pre).fr.length=C1.fr.length
 |[],_,_=>⟨rfl,rfl,rfl⟩
 |_::_,[],_=>⟨rfl,rfl,rfl⟩
 |x::pre,y::ls,C1=>by
  obtain⟨h1,h2,h3⟩:=jgt pre ls (setA C1 g sb x.1 y);obtain⟨_,_,_,_,g1,g2,g3⟩:=jgA C1 g sb x.1 y;exact⟨h1.trans g1,h2.trans g2,h3.trans g3⟩
theorem jqJ (ρ:Nat->Nat) (ys:List (RtS C g fb sb)) (hys:ys.map Subtype.val=zd C g fb sb) (s:Z1 C g fb sb):jah C1 ((j8 C).map ρ) ys=ZA ρ C g sb (zd C g fb sb) C1:=by
 have e:ys.map (fun x=>jW C g sb x.1)=j8 C:=by
  have h3:=congrArg (List.map (jW C g sb)) hys;rw[List.map_map,jba s] at h3;exact h3
 have e2:ys.zip ((j8 C).map ρ)=ys.map fun x=>(x,ρ (jW C g sb x.1)):=by
  rw[<-e];exact jrl (fun x:RtS C g fb sb=>jW C g sb x.1) ρ ys
 have h3:=congrArg (List.foldl (fun C' x=>Go.Proofs.YtklcmdoadmcpfaaGreatDoor.setA C' g sb x (ρ (jW C g sb x))) C1) hys;rw[List.foldl_map] at h3;unfold jah ZA;rw[e2,List.foldl_map];exact h3
theorem ShC.setA (h:ShC C C1) (s:Z1 C g fb sb) {x:Nat×Nat} (hx:x∈zd C g fb sb) {y:Nat} (hy:jf (y:Int)=true):ShC C (setA C1 g sb x y):=by
 have hst:=jgA C1 g sb x y;rcases Q1.1 hx with⟨k,q,hp,rfl⟩|⟨k,q,hp,rfl⟩|⟨k,q,hp,rfl⟩|⟨k,q,rfl⟩|⟨hp,rfl⟩|⟨hp,rfl⟩
 ·rw[jdn q]
  refine{h with rg:=fun j hj=>?_};show jf ((jG C1.rg k y j:Nat):Int)=_;unfold jG;split
  ·rename_i e;subst e;rw[hy,hp]
  ·exact h.rg j hj
 ·have hk:k<C1.sl.length:=by rw[h.ls];exact q
  rw[jdo s (by omega) hk];refine{h with sl:=fun j hj=>?_,ls:=by show(C1.sl.set k y).length=_;rw[List.length_set];exact h.ls};show jf (((C1.sl.set k y).getD j 0:Nat):Int)=_;rw[zqi,List.getElem?_set];by_cases e:k=j
  ·subst e
   rw[if_pos rfl,if_pos hk];show jf (y:Int)=_;rw[hy,hp]
  ·rw[if_neg e,<-zqi]
   exact h.sl j hj
 ·have hk:k<1024:=by have:=s.us;omega
  rw[jdm hk];refine{h with gl:=fun j hj=>?_};show jf ((jG C1.gl k y j:Nat):Int)=_;unfold jG;split
  ·rename_i e;subst e;rw[hy,hp]
  ·exact h.gl j hj
 ·have hkl:k<C1.fr.length:=by rw[h.lf];exact q
  rw[jdl s (by omega) h.ls (zqh hkl)];exact{h with lf:=by show(C1.fr.set k _).length=_;rw[List.length_set];exact h.lf}
 ·rw[jdk]
  exact{h with cd:=by show jf (y:Int)=_;rw[hy,hp]}
 ·rw[jdp]
  exact{h with va:=by show jf (y:Int)=_;rw[hy,hp]}
theorem OkW.setA (h:OkW C1) (sh:ShC C C1) (s:Z1 C g fb sb) {x:Nat×Nat} (hx:x∈zd C g fb sb) {y:Nat} (hy:y<18446744073709551616):OkW (setA C1 g sb x y):=by
 rcases Q1.1 hx with⟨k,q,_,rfl⟩|⟨k,q,_,rfl⟩|⟨k,q,_,rfl⟩|⟨k,q,rfl⟩|⟨_,rfl⟩|⟨_,rfl⟩
 ·rw[jdn q]
  refine{h with rg:=fun j hj=>?_};show jG C1.rg k y j<_;unfold jG;split
  ·exact hy
  ·exact h.rg j hj
 ·have hk:k<C1.sl.length:=by rw[sh.ls];exact q
  rw[jdo s (by omega) hk];refine{h with sl:=fun j hj=>?_};have hj':j<C1.sl.length:=by have:j<(C1.sl.set k y).length:=hj;rwa [List.length_set] at this
  show(C1.sl.set k y).getD j 0<_;rw[zqi,List.getElem?_set];by_cases e:k=j
  ·subst e
   rw[if_pos rfl,if_pos hk];exact hy
  ·rw[if_neg e,<-zqi]
   exact h.sl j hj'
 ·have hk:k<1024:=by have:=s.us;omega
  rw[jdm hk];refine{h with gl:=fun j hj=>?_};show jG C1.gl k y j<_;unfold jG;split
  ·exact hy
  ·exact h.gl j hj
 ·have hkl:k<C1.fr.length:=by rw[sh.lf];exact q
  rw[jdl s (by omega) sh.ls (zqh hkl)];exact{h with}
 ·rw[jdk]
  exact{h with cd:=hy}
 ·rw[jdp]
  exact{h with va:=hy}
end
section
variable {O:Nat->Prop} {w:World} {g b:Nat} {C:CM} {R:Nat->Value} {vf vs vh:Value}
theorem McAt.isCells (a:McAt O w g C b R vf vs vh) {i:Nat} {o:Obj} (ho:w.heap[i]?=some o) (hi:i=g\/Own b R i\/vf.ownBlock=some i\/vs.ownBlock=some i\/vh.ownBlock=some i):o.isCells=true:=by
 have own:∀{B k n:Nat} {e:TypeId} {v:Value} {xs:List Value},w.ownsRow B e k v n xs->v.ownBlock=some i->o.isCells=true:=fun hr hb=>by
  rcases hr.2 with⟨hv,_⟩|⟨g',cap,cur,hv,_,hg,_⟩
  ·rw[hv] at hb;cases hb
  ·rw[hv] at hb
   obtain rfl:g'=i:=by simpa[Value.ownBlock] using hb
   rw[hg] at ho;cases ho
   rfl
 rcases hi with rfl|hi|hi|hi|hi
 ·have:=a.bx
  rw[show w.heap[i]?=_ from this] at ho;cases ho
  rfl
 ·exact a.m.isCells hi ho
 ·exact own a.of hi
 ·exact own a.os hi
 ·exact own a.oh hi
theorem McAt.grown {A B:World} {row:Option Nat} (a:McAt O A g C b R vf vs vh) (hg:A.grownBy B row) (hr:∀r,row=some r->∃o:Obj,A.heap[r]?=some o/\o.isCells=false):McAt O B g C b R vf vs vh:=by
 have key:∀i,(i=g\/Own b R i\/vf.ownBlock=some i\/vs.ownBlock=some i\/vh.ownBlock=some i)->¬row=some i:=fun i hi e=>by
  obtain⟨o,ho,hc⟩:=hr i e;rw[a.isCells ho hi] at hc;cases hc
 exact a.kept ((Fr.refl (fun i=>row=some i) A).grown hg (fun k hk=>.inl hk)) (key g (.inl rfl)) (fun i hi=>key i (.inr (.inl hi))) (fun i hi=>key i (.inr (.inr (.inl hi)))) (fun i hi=>key i (.inr (.inr (.inr (.inl hi))))) (fun i hi=>key i (.inr (.inr (.inr (.inr hi)))))
theorem McAt.rcell {C0:CM} (a:McAt O w g C b R vf vs vh) {fb sb:Nat} (hfb:∀i,vf.ownBlock=some i->i=fb) (hsb:∀i,vs.ownBlock=some i->i=sb) (s:Z1 C0 g fb sb) (h1:C.sl.length=C0.sl.length) (h2:C.fr.length=C0.fr.length) {x:Nat×Nat} (hx:x∈zd C0 g fb sb):(∃n:Nat,w.cell? ⟨x.1,x.2,none⟩=some (.int .u64 (n:Int)))/\w.frozen? ⟨x.1,x.2,none⟩=false/\x.1<w.heap.size/\(x.1=g\/vf.ownBlock=some x.1\/vs.ownBlock=some x.1):=by
 rcases Q1.1 hx with⟨k,q,_,rfl⟩|⟨k,q,_,rfl⟩|⟨k,q,_,rfl⟩|⟨k,q,rfl⟩|⟨_,rfl⟩|⟨_,rfl⟩
 ·exact⟨⟨_,a.regc q⟩,a.fz _,a.bx.lt,.inl rfl⟩
 ·obtain⟨i,c,e,_⟩:=a.os.form (show 0<C.sl.length by omega)
  have hq:=hsb i (by rw[e];rfl);subst hq;have hof:=a.os;rw[e] at hof;have hk:k<C.sl.length:=by omega
  refine⟨⟨C.sl.getD k 0,?_⟩,?_,jC a.os (by rw[e];rfl),.inr (.inr (by rw[e];rfl))⟩
  ·show w.cell? ⟨i,0+k,none⟩=_
   rw[Nat.zero_add,hof.cellAt k (by omega)];unfold u64s;rw[List.getElem?_map,zqi,zqh hk];rfl
  ·show w.frozen? ⟨i,0+k,none⟩=false
   exact hof.frozenAt _
 ·have:=s.us
  exact⟨⟨_,a.globc (by omega)⟩,a.fz _,a.bx.lt,.inl rfl⟩
 ·obtain⟨i,c,e,_⟩:=a.of.form (show 0<C.fr.length by omega)
  have hq:=hfb i (by rw[e];rfl);subst hq;have hkl:k<C.fr.length:=by omega
  have hof:=a.of;rw[e] at hof;exact⟨⟨_,a.fcell e (zqh hkl) (j:=0) rfl⟩,hof.frozenAt _,jC a.of (by rw[e];rfl),.inr (.inl (by rw[e];rfl))⟩
 ·exact⟨⟨_,a.ccd⟩,a.fz _,a.bx.lt,.inl rfl⟩
 ·exact⟨⟨_,a.cva⟩,a.fz _,a.bx.lt,.inl rfl⟩
def CL (O:Nat->Prop) (w:World) (g b:Nat) (R:Nat->Value) (vf vs vh:Value) {α:Type} (T:List α->CM) (l:List α) (W':World):Prop:=McAt O W' g (T l) b R vf vs vh/\Fr O w W'
theorem jlA {α:Type} {B:Nat} (T:List α->CM) (hB:w.heap.size<=B):OwnFrom B (CL O w g b R vf vs vh T):=fun _ _ _ _ ⟨h1,h2⟩ hg hr=>
 ⟨h1.grown hg (fun r e=>(hr r e).2),h2.grown hg (fun k hk=>.inr (zqs hB (hr k hk).1))⟩
theorem jlJ {h W:Nat} {os old:List Ob} {met:List Nat} (z:WF W h os old) (ok:Okm os met) {n:Nat} (hn:jf (n:Int)=true) (gd:Good os h W met n):jf ((zx h W os met n:Nat):Int)=true:=by
 rcases gd with q|⟨q,j,e,hj⟩
 ·have:=Zw.1 hn;omega
 ·rw[jec q e]
  have h1:=jbR (1-h) W os met j;have h2:=jj8 (k:=1-h) z.fresh ok z.un z.w1 hj;exact Zw.2 ⟨by omega,by omega,by omega⟩
end
end
theorem ji (O:Nat->Prop) (w:World) (op a c d n:Int):∃X,w.alloc (.cells #[.int .i64 op,.int .i64 a,.int .i64 c,.int .i64 d,.int .i64 n] 41)=X∧
  X.heap[w.heap.size]?=some (.cells #[.int .i64 op,.int .i64 a,.int .i64 c,.int .i64 d,.int .i64 n] 41)/\Below w.heap.size w X/\Fr O w X∧
  X.cell? ⟨w.heap.size,0,none⟩=some (.int .i64 op)/\X.cell? ⟨w.heap.size,1,none⟩=some (.int .i64 a)/\X.cell? ⟨w.heap.size,2,none⟩=some (.int .i64 c)∧
  X.cell? ⟨w.heap.size,3,none⟩=some (.int .i64 d)/\X.cell? ⟨w.heap.size,4,none⟩=some (.int .i64 n):=by
 have hblk:=zqe w (.cells #[.int .i64 op,.int .i64 a,.int .i64 c,.int .i64 d,.int .i64 n] 41);exact⟨_,rfl,hblk,(Below.refl _ w).alloc (zqg _) _,(Fr.refl O w).alloc _,jb hblk 0,jb hblk 1,jb hblk 2,jb hblk 3,jb hblk 4⟩
theorem j7 {O:Nat->Prop} {w X:World} {g b:Nat} {C:CM} {R:Nat->Value} {vf vs vh:Value} (a:McAt O w g C b R vf vs vh) (aX:McAt O X g C b R vf vs vh) (ok:OkC C) {k:Nat} {f:Fm} (hl:C.fr.length=k+1) (hf:C.fr[k]?=some f):
  ∃fg fc,vf=.slice (some ⟨fg,0,none⟩) (k+1) fc/\k<=65536/\(Calls prog 89 #[.pointer (some ⟨g,0,none⟩)] X fun e w'=>e=.returned (.pointer (some ⟨fg,k*5,none⟩))/\∃n,w'=X.drewN n)∧
   X.cell? ⟨fg,k*5+1,none⟩=some (.int .i64 f.place)/\X.cell? ⟨fg,k*5+4,none⟩=some (.int .i64 (f.base:Int))/\X.frozen? ⟨fg,k*5+1,none⟩=false/\(-8589934592<=f.place/\f.place<=8589934592)/\fg≠w.heap.size/\O fg:=by
 obtain⟨fg,fc,hv⟩:=aX.fshape (by omega);rw[hl] at hv;have hkb:k<=65536:=by have:=ok.n1;omega
 refine⟨fg,fc,hv,hkb,jct aX hv hkb,aX.fcell hv hf (j:=1) rfl,aX.fcell hv hf (j:=4) rfl,?_,ok.fp f (zqc hf),fun e=>?_,a.o1 fg (by rw[hv];rfl)⟩
 ·have:=aX.of
  rw[hv,hl] at this;exact this.frozenAt _
 ·have h1:=jC a.of (i:=fg) (by rw[hv];rfl)
  omega
theorem zf {n:Int} {t:Bool} (h0:0<=n) (h1:n<=18446744073709551615) (h:jj n=t) (Y:World):Calls prog 127 #[.int .u64 n] Y fun e w'=>e=.returned (.bool t)/\Y=w':=by
 rw[<-h];exact j5 n Y h0 h1
theorem jat {O:Nat->Prop} {X:World} {g b:Nat} {C:CM} {R:Nat->Value} {vf vs vh:Value} (aX:McAt O X g C b R vf vs vh) {x:Nat} (hx:x<18446744073709551616) {o:Ob} (ho:jD C x=some o) {K:Int} (hk:(o.k:Int)=K) (q:Nat):
  Calls prog 133 #[.pointer (some ⟨g,0,none⟩),.int .u64 (x:Int)] (X.drewN q) fun e w'=>e=.returned (.tuple #[.int .i64 (jc (x:Int)),.int .i64 K])/\∃q',w'=(X.drewN q).drewN q':=by
 have h:=zh (aX.drewN q) hx;rw[ho] at h;exact h.mono fun e w' ⟨h1,h2⟩=>⟨by rw[h1,<-hk];rfl,h2⟩
section
variable {O:Nat->Prop} {w w1:World} {g b:Nat} {C:CM} {R:Nat->Value} {vf vs vh:Value}
section
variable (a:McAt O w g C b R vf vs vh) (ok:OkC C) (hO:∀i,w.heap.size<=i->O i) (op:Int) (A B:Nat) (hA:A<16) (hB:B<16) (c n:Int)
include a ok hO op A B hA hB c n
theorem jmx {K:Nat} (hK:((jD C (C.rg A)).map fun o=>o.k).getD 0=K) (hk:K≠3):
  Calls prog 141 #[.pointer (some ⟨g,0,none⟩),.agg #[.int .i64 op,.int .i64 A,.int .i64 B,.int .i64 c,.int .i64 n]] w fun e w'=>Did O w g b (C,7) e w':=by
 obtain⟨X,hX,hblk,hb0,hF0,-,-,-,-,-⟩:=ji O w op A B c n;have aX:=a.below hb0;have HW:=hid hX;have r0:X.cell? ⟨w.heap.size,0,none⟩=some (.int .i64 op):=jb hblk 0;have r1:X.cell? ⟨w.heap.size,1,none⟩=some (.int .i64 A):=jb hblk 1;have r2:X.cell? ⟨w.heap.size,2,none⟩=some (.int .i64 B):=jb hblk 2;have gA:=aX.regc hA;have gB:=aX.regc hB;have i0:(0:Int)<=(A:Int):=by omega
 have i1:(A:Int)<16:=by omega
 have i2:(0:Int)<=(B:Int):=by omega
 have i3:(B:Int)<16:=by omega
 have HA:=hid aX;have HF:=hid hF0;have hOX:∀i,X.heap.size<=i->O i:=fun i hi=>hO i (zqs hF0.size hi);have HOB:=fun q=>zh (aX.drewN q) (ok.rg A hA);rw[hK] at HOB;obtain⟨V,hV⟩:∃V,(if(jD C (C.rg A)).isSome then jc (C.rg A:Int) else 0)=V:=⟨_,rfl⟩;rw[hV] at HOB;have HOB:=hid HOB;clear hV;have k1:((K:Int)==3)=false:=by rw[beq_eq_false_iff_ne];omega
 have k2:(K==3)=false:=by rw[beq_eq_false_iff_ne];omega
 have k3:¬K=3:=hk;clear a ok hO hblk hb0 hF0 hX aX hOX hK hA hB;go_enter Tryz.func141,Tryz.ntmps141;go_wp2_with fail;rw[HW.out];go_quiet (fail);go_wp2_with fail;refine(HOB.out _).mono ?_;rintro e w1 ⟨rfl,q1,rfl⟩;go_wp2_with fail;go_ret;exact⟨rfl,⟨_,_,_,_,HA.out.drewN _⟩,HF.out.drewN _⟩
theorem jmy {o:Ob} (ho:jD C (C.rg A)=some o) (hk:o.k=3) {K:Nat} (hK:((jD C (o.ws.getD 0 0)).map fun o=>o.k).getD 0=K) (hk5:K≠5):
  Calls prog 141 #[.pointer (some ⟨g,0,none⟩),.agg #[.int .i64 op,.int .i64 A,.int .i64 B,.int .i64 c,.int .i64 n]] w fun e w'=>Did O w g b (C,7) e w':=by
 obtain⟨X,hX,hblk,hb0,hF0,-,-,-,-,-⟩:=ji O w op A B c n;have aX:=a.below hb0;have HW:=hid hX;have r0:X.cell? ⟨w.heap.size,0,none⟩=some (.int .i64 op):=jb hblk 0;have r1:X.cell? ⟨w.heap.size,1,none⟩=some (.int .i64 A):=jb hblk 1;have r2:X.cell? ⟨w.heap.size,2,none⟩=some (.int .i64 B):=jb hblk 2;have gA:=aX.regc hA;have gB:=aX.regc hB;have i0:(0:Int)<=(A:Int):=by omega
 have i1:(A:Int)<16:=by omega
 have i2:(0:Int)<=(B:Int):=by omega
 have i3:(B:Int)<16:=by omega
 have HA:=hid aX;have HF:=hid hF0;have hOX:∀i,X.heap.size<=i->O i:=fun i hi=>hO i (zqs hF0.size hi);have HOB:=fun q=>zh (aX.drewN q) (ok.rg A hA);rw[ho] at HOB;have HOB:=hid (fun q=>show Calls _ _ _ (X.drewN q) (fun e w'=>e=.returned (.tuple #[.int .i64 (jc (C.rg A:Int)),.int .i64 3])/\∃q',w'=(X.drewN q).drewN q') from(HOB q).mono fun e w' ⟨h1,h2⟩=>⟨by rw[h1];show Ending.returned (.tuple #[.int .i64 (jc (C.rg A:Int)),.int .i64 (o.k:Int)])=_;rw[hk];rfl,h2⟩);have HFD:=hid (fun q=>Zu (aX.drewN q) ho 0);have hcw:=Z6 aX.z ho 0;obtain⟨cw,hcw9⟩:∃cw,o.ws.getD 0 0=cw:=⟨_,rfl⟩;obtain⟨PA,hPA⟩:∃PA,jc (C.rg A:Int)=PA:=⟨_,rfl⟩;rw[hcw9] at HFD hcw;rw[hPA] at HFD HOB;have HO2:=fun q=>zh (aX.drewN q) hcw;rw[hcw9] at hK;rw[hK] at HO2;obtain⟨V,hV⟩:∃V,(if(jD C cw).isSome then jc (cw:Int) else 0)=V:=⟨_,rfl⟩;rw[hV] at HO2;have HO2:=hid HO2;clear hV;have k1:((K:Int)==5)=false:=by rw[beq_eq_false_iff_ne];omega
 have k2:(K==5)=false:=by rw[beq_eq_false_iff_ne];omega
 have k3:¬K=5:=hk5;clear a ok hO hblk hb0 hF0 hX aX hOX hK hA hB ho hcw9 hPA;go_enter Tryz.func141,Tryz.ntmps141;go_wp2_with fail;rw[HW.out];go_quiet (fail);go_wp2_with fail;refine(HOB.out _).mono ?_;rintro e w1 ⟨rfl,q1,rfl⟩;go_wp2_with fail;refine(HFD.out _).mono ?_;rintro e w1 ⟨rfl,q2,rfl⟩;go_wp2_with fail;refine(HO2.out _).mono ?_;rintro e w1 ⟨rfl,q3,rfl⟩;go_wp2_with fail;go_ret;exact⟨rfl,⟨_,_,_,_,HA.out.drewN _⟩,HF.out.drewN _⟩
theorem jtJ {o:Ob} (ho:jD C (C.rg A)=some o) (hk:o.k=3) {p:Ob} (hp:jD C (o.ws.getD 0 0)=some p) (hk5:p.k=5) (ht:op=27) (hh:qL C=true):
  Calls prog 141 #[.pointer (some ⟨g,0,none⟩),.agg #[.int .i64 op,.int .i64 A,.int .i64 B,.int .i64 c,.int .i64 n]] w fun e w'=>Did O w g b (C,7) e w':=by
 obtain⟨X,hX,hblk,hb0,hF0,-,-,-,-,-⟩:=ji O w op A B c n;have aX:=a.below hb0;have HW:=hid hX;have r0:X.cell? ⟨w.heap.size,0,none⟩=some (.int .i64 op):=jb hblk 0;have r1:X.cell? ⟨w.heap.size,1,none⟩=some (.int .i64 A):=jb hblk 1;have r2:X.cell? ⟨w.heap.size,2,none⟩=some (.int .i64 B):=jb hblk 2;have gA:=aX.regc hA;have gB:=aX.regc hB;have i0:(0:Int)<=(A:Int):=by omega
 have i1:(A:Int)<16:=by omega
 have i2:(0:Int)<=(B:Int):=by omega
 have i3:(B:Int)<16:=by omega
 have HA:=hid aX;have HF:=hid hF0;have hOX:∀i,X.heap.size<=i->O i:=fun i hi=>hO i (zqs hF0.size hi);have HOB:=fun q=>zh (aX.drewN q) (ok.rg A hA);rw[ho] at HOB;have HOB:=hid (fun q=>show Calls _ _ _ (X.drewN q) (fun e w'=>e=.returned (.tuple #[.int .i64 (jc (C.rg A:Int)),.int .i64 3])/\∃q',w'=(X.drewN q).drewN q') from(HOB q).mono fun e w' ⟨h1,h2⟩=>⟨by rw[h1];show Ending.returned (.tuple #[.int .i64 (jc (C.rg A:Int)),.int .i64 (o.k:Int)])=_;rw[hk];rfl,h2⟩);have HFD:=hid (fun q=>Zu (aX.drewN q) ho 0);have hcw:=Z6 aX.z ho 0;obtain⟨cw,hcw9⟩:∃cw,o.ws.getD 0 0=cw:=⟨_,rfl⟩;obtain⟨PA,hPA⟩:∃PA,jc (C.rg A:Int)=PA:=⟨_,rfl⟩;rw[hcw9] at HFD hcw;rw[hPA] at HFD HOB;have HO2:=fun q=>zh (aX.drewN q) hcw;rw[hcw9] at hp;rw[hp] at HO2;have HO2:=hid (fun q=>show Calls _ _ _ (X.drewN q) (fun e w'=>(∃v,e=.returned (.tuple #[.int .i64 v,.int .i64 5]))/\∃q',w'=(X.drewN q).drewN q') from(HO2 q).mono fun e w' ⟨h1,h2⟩=>⟨⟨jc (cw:Int),by rw[h1];show Ending.returned (.tuple #[.int .i64 (jc (cw:Int)),.int .i64 (p.k:Int)])=_;rw[hk5];rfl⟩,h2⟩);have HH:=fun q=>JQ (aX.drewN q) ok.n1 ok.n3;rw[hh] at HH;have HH:=hid HH;subst ht;clear a ok hO hblk hb0 hF0 hX aX hOX hA hB ho hcw9 hPA hp hh;go_enter Tryz.func141,Tryz.ntmps141;go_wp2_with fail;rw[HW.out];go_quiet (fail);go_wp2_with fail;refine(HOB.out _).mono ?_;rintro e w1 ⟨rfl,q1,rfl⟩;go_wp2_with fail;refine(HFD.out _).mono ?_;rintro e w1 ⟨rfl,q2,rfl⟩;go_wp2_with fail;refine(HO2.out _).mono ?_;rintro e w1 ⟨⟨v0,rfl⟩,q3,rfl⟩;go_wp2_with fail;refine(HH.out _).mono ?_;rintro e w1 ⟨rfl,q4,rfl⟩;go_wp2_with fail;go_ret;exact⟨rfl,⟨_,_,_,_,HA.out.drewN _⟩,HF.out.drewN _⟩
theorem jtK {o:Ob} (ho:jD C (C.rg A)=some o) (hk:o.k=3) {p:Ob} (hp:jD C (o.ws.getD 0 0)=some p) (hk5:p.k=5) (ht:(op==27)=false):
  Calls prog 141 #[.pointer (some ⟨g,0,none⟩),.agg #[.int .i64 op,.int .i64 A,.int .i64 B,.int .i64 c,.int .i64 n]] w fun e w'=>Did O w g b (ZP C (o.ws.getD 0 0) p (C.rg A) (C.rg B)) e w':=by
 obtain⟨X,hX,hblk,hb0,hF0,-,-,-,-,-⟩:=ji O w op A B c n;have aX:=a.below hb0;have HW:=hid hX;have r0:X.cell? ⟨w.heap.size,0,none⟩=some (.int .i64 op):=jb hblk 0;have r1:X.cell? ⟨w.heap.size,1,none⟩=some (.int .i64 A):=jb hblk 1;have r2:X.cell? ⟨w.heap.size,2,none⟩=some (.int .i64 B):=jb hblk 2;have gA:=aX.regc hA;have gB:=aX.regc hB;have i0:(0:Int)<=(A:Int):=by omega
 have i1:(A:Int)<16:=by omega
 have i2:(0:Int)<=(B:Int):=by omega
 have i3:(B:Int)<16:=by omega
 have HA:=hid aX;have HF:=hid hF0;have hOX:∀i,X.heap.size<=i->O i:=fun i hi=>hO i (zqs hF0.size hi);have HOB:=fun q=>zh (aX.drewN q) (ok.rg A hA);rw[ho] at HOB;have HOB:=hid (fun q=>show Calls _ _ _ (X.drewN q) (fun e w'=>e=.returned (.tuple #[.int .i64 (jc (C.rg A:Int)),.int .i64 3])/\∃q',w'=(X.drewN q).drewN q') from(HOB q).mono fun e w' ⟨h1,h2⟩=>⟨by rw[h1];show Ending.returned (.tuple #[.int .i64 (jc (C.rg A:Int)),.int .i64 (o.k:Int)])=_;rw[hk];rfl,h2⟩);have HFD:=hid (fun q=>Zu (aX.drewN q) ho 0);have hcw:=Z6 aX.z ho 0;obtain⟨cw,hcw9⟩:∃cw,o.ws.getD 0 0=cw:=⟨_,rfl⟩;obtain⟨PA,hPA⟩:∃PA,jc (C.rg A:Int)=PA:=⟨_,rfl⟩;rw[hcw9] at HFD hcw;rw[hPA] at HFD HOB;have HO2:=fun q=>zh (aX.drewN q) hcw;rw[hcw9] at hp;rw[hp] at HO2;have HO2:=hid (fun q=>show Calls _ _ _ (X.drewN q) (fun e w'=>(∃v,e=.returned (.tuple #[.int .i64 v,.int .i64 5]))/\∃q',w'=(X.drewN q).drewN q') from(HO2 q).mono fun e w' ⟨h1,h2⟩=>⟨⟨jc (cw:Int),by rw[h1];show Ending.returned (.tuple #[.int .i64 (jc (cw:Int)),.int .i64 (p.k:Int)])=_;rw[hk5];rfl⟩,h2⟩);obtain⟨jp,hj1,hj2⟩:=qh hp;have HFI:=hid (fun q=>jaI (aX.drewN q) ok.n1 ok.n2 ok.n3);have HPU:=hid (fun q=>jiq (aX.drewN q) hcw hj1 hj2 hOX ok.n1);have hne:¬op=27:=by rw[beq_eq_false_iff_ne] at ht;exact ht
 unfold ZP;rw[hcw9];cases hfi:QJ C 3 with
 |false=>
  rw[hfi] at HFI;clear a ok hO hblk hb0 hF0 hX aX hOX hA hB ho hcw9 hPA hp hfi hj1 hj2 HPU;go_enter Tryz.func141,Tryz.ntmps141;go_wp2_with fail;rw[HW.out];go_quiet (fail);go_wp2_with fail;refine(HOB.out _).mono ?_;rintro e w1 ⟨rfl,q1,rfl⟩;go_wp2_with fail;refine(HFD.out _).mono ?_;rintro e w1 ⟨rfl,q2,rfl⟩;go_wp2_with fail;refine(HO2.out _).mono ?_;rintro e w1 ⟨⟨v0,rfl⟩,q3,rfl⟩;go_wp2_with fail;refine(HFI.out _).mono ?_;rintro e w1 ⟨rfl,q4,rfl⟩;go_wp2_with fail;go_ret;exact⟨rfl,⟨_,_,_,_,HA.out.drewN _⟩,HF.out.drewN _⟩
 |true=>
  rw[hfi] at HFI;have hgO:=a.og;clear a ok hO hblk hb0 hF0 hX aX hOX hA hB ho hcw9 hPA hp hfi hj1 hj2;go_enter Tryz.func141,Tryz.ntmps141;go_wp2_with fail;rw[HW.out];go_quiet (fail);go_wp2_with fail;refine(HOB.out _).mono ?_;rintro e w1 ⟨rfl,q1,rfl⟩;go_wp2_with fail;refine(HFD.out _).mono ?_;rintro e w1 ⟨rfl,q2,rfl⟩;go_wp2_with fail;refine(HO2.out _).mono ?_;rintro e w1 ⟨⟨v0,rfl⟩,q3,rfl⟩;go_wp2_with fail;refine(HFI.out _).mono ?_;rintro e w1 ⟨rfl,q4,rfl⟩;go_wp2_with fail;refine(HPU.out _).mono ?_;rintro e w5 ⟨⟨v5,rfl⟩,⟨vf5,a5⟩,hf5⟩;have s2:w5.frozen? ⟨g,2,none⟩=false:=a5.fz 2;have s3:w5.frozen? ⟨g,3,none⟩=false:=a5.fz 3;have t2:w5.cell? ⟨g,2,none⟩=_:=a5.regc (k:=0) (by omega);have t3:w5.cell? ⟨g,3,none⟩=_:=a5.regc (k:=1) (by omega);have HA5:=hid a5;have HF5:=hid hf5;clear a5 hf5;go_wp2_with fail;go_region;all_goals
   go_wp2_with fail;go_ret;exact⟨rfl,⟨_,_,_,_,jrD HA5.out (C.rg A) (C.rg B) _⟩,((((HF.out.drewN _).trans HF5.out (fun i hi=>.inl hi)).setCell (p:=⟨g,2,none⟩) (.inl hgO) _).setCell (p:=⟨g,3,none⟩) (.inl hgO) _).drewN _⟩
end
theorem jpn (C:CM) (n:Nat):(jP C n).fr.length<=C.fr.length:=by rw[jaG,List.length_take];omega
theorem jpo (C:CM) (n:Nat):(jP C n).sl.length<=C.sl.length:=by
 unfold jP;split
 ·exact zqg _
 ·show(C.sl.take _).length<=_
  rw[List.length_take];omega
section
variable (a:McAt O w g C b R vf vs vh) (ok:OkC C) (hO:∀i,w.heap.size<=i->O i) (op:Int) (A B:Nat) (hA:A<16) (hB:B<16) (c n:Int)
include a ok hO op A B hA hB c n
theorem jtL {o:Ob} (ho:jD C (C.rg A)=some o) (hk:o.k=3) {p:Ob} (hp:jD C (o.ws.getD 0 0)=some p) (hk5:p.k=5) (ht:op=27) (hh:qL C=false) (hfr:0<C.fr.length):
  Calls prog 141 #[.pointer (some ⟨g,0,none⟩),.agg #[.int .i64 op,.int .i64 A,.int .i64 B,.int .i64 c,.int .i64 n]] w fun e w'=>Did O w g b (ZP (jP C (C.fr.length-1)) (o.ws.getD 0 0) p (C.rg A) (C.rg B)) e w':=by
 obtain⟨X,hX,hblk,hb0,hF0,-,-,-,-,-⟩:=ji O w op A B c n;have aX:=a.below hb0;have HW:=hid hX;have r0:X.cell? ⟨w.heap.size,0,none⟩=some (.int .i64 op):=jb hblk 0;have r1:X.cell? ⟨w.heap.size,1,none⟩=some (.int .i64 A):=jb hblk 1;have r2:X.cell? ⟨w.heap.size,2,none⟩=some (.int .i64 B):=jb hblk 2;have gA:=aX.regc hA;have gB:=aX.regc hB;have i0:(0:Int)<=(A:Int):=by omega
 have i1:(A:Int)<16:=by omega
 have i2:(0:Int)<=(B:Int):=by omega
 have i3:(B:Int)<16:=by omega
 have HA:=hid aX;have HF:=hid hF0;have hOX:∀i,X.heap.size<=i->O i:=fun i hi=>hO i (zqs hF0.size hi);have HOB:=fun q=>zh (aX.drewN q) (ok.rg A hA);rw[ho] at HOB;have HOB:=hid (fun q=>show Calls _ _ _ (X.drewN q) (fun e w'=>e=.returned (.tuple #[.int .i64 (jc (C.rg A:Int)),.int .i64 3])/\∃q',w'=(X.drewN q).drewN q') from(HOB q).mono fun e w' ⟨h1,h2⟩=>⟨by rw[h1];show Ending.returned (.tuple #[.int .i64 (jc (C.rg A:Int)),.int .i64 (o.k:Int)])=_;rw[hk];rfl,h2⟩);have HFD:=hid (fun q=>Zu (aX.drewN q) ho 0);have hcw:=Z6 aX.z ho 0;obtain⟨cw,hcw9⟩:∃cw,o.ws.getD 0 0=cw:=⟨_,rfl⟩;obtain⟨PA,hPA⟩:∃PA,jc (C.rg A:Int)=PA:=⟨_,rfl⟩;rw[hcw9] at HFD hcw;rw[hPA] at HFD HOB;have HO2:=fun q=>zh (aX.drewN q) hcw;rw[hcw9] at hp;rw[hp] at HO2;have HO2:=hid (fun q=>show Calls _ _ _ (X.drewN q) (fun e w'=>(∃v,e=.returned (.tuple #[.int .i64 v,.int .i64 5]))/\∃q',w'=(X.drewN q).drewN q') from(HO2 q).mono fun e w' ⟨h1,h2⟩=>⟨⟨jc (cw:Int),by rw[h1];show Ending.returned (.tuple #[.int .i64 (jc (cw:Int)),.int .i64 (p.k:Int)])=_;rw[hk5];rfl⟩,h2⟩);have HH:=fun q=>JQ (aX.drewN q) ok.n1 ok.n3;rw[hh] at HH;have HH:=hid HH;have HD:=fun q=>jdS (aX.drewN q) (C.fr.length-1) ok.bs ok.n1;obtain⟨D,hD⟩:∃D,jP C (C.fr.length-1)=D:=⟨_,rfl⟩;have hD1:D.fr.length<=65536:=by rw[<-hD];exact zqs (jpn C _) ok.n1
 have hD2:D.sl.length<=65536:=by rw[<-hD];exact zqs (jpo C _) ok.n2
 have hD3:D.ha.length<=65536:=by rw[<-hD,jpm];exact ok.n3
 have hpD:jD D cw=some p:=by rw[<-hD,jmN,<-hcw9];rw[hcw9];exact hp
 obtain⟨jp,hj1,hj2⟩:=qh hpD;rw[hD] at HD;obtain⟨a1,k1,e1,_⟩:=jH aX.of;have c1:=aX.cf;rw[e1] at c1;obtain⟨L,hL⟩:∃L,C.fr.length=L:=⟨_,rfl⟩;rw[hL] at c1 hfr HD;have hLb:L<=65536:=by rw[<-hL];exact ok.n1
 have l1:(L:Int)-1=((L-1:Nat):Int):=by omega
 have l2:=jv (n:=((L-1:Nat):Int)) (by omega) (by omega);have HD:=hid HD;subst ht;have hgO:=a.og;rw[hD];unfold ZP;rw[hcw9];cases hfi:QJ D 3 with
 |false=>
  clear a ok hO hblk hb0 hF0 hX aX hOX hA hB ho hcw9 hPA hp hj1 hj2 hh hD hL e1 hpD;go_enter Tryz.func141,Tryz.ntmps141;go_wp2_with fail;rw[HW.out];go_quiet (fail);go_wp2_with fail;refine(HOB.out _).mono ?_;rintro e w1 ⟨rfl,q1,rfl⟩;go_wp2_with fail;refine(HFD.out _).mono ?_;rintro e w1 ⟨rfl,q2,rfl⟩;go_wp2_with fail;refine(HO2.out _).mono ?_;rintro e w1 ⟨⟨v0,rfl⟩,q3,rfl⟩;go_wp2_with fail;refine(HH.out _).mono ?_;rintro e w1 ⟨rfl,q4,rfl⟩;go_wp2_with fail;refine(HD.out _).mono ?_;rintro e w4 ⟨⟨v4,rfl⟩,⟨vf4,vs4,a4⟩,hf4⟩;have HFI:=jaI a4 hD1 hD2 hD3;rw[hfi] at HFI;have HFI:=hid HFI;have HA4:=hid a4;have HF4:=hid (hf4.mono (P:=O) (fun i hi=>.inl (by rw[hi];exact hgO)));clear a4 hf4;go_wp2_with fail;refine HFI.out.mono ?_;rintro e w5 ⟨rfl,q5,rfl⟩;go_wp2_with fail;go_ret;exact⟨rfl,⟨_,_,_,_,HA4.out.drewN _⟩,((HF.out.drewN _).trans HF4.out (fun i hi=>.inl hi)).drewN _⟩
 |true=>
  clear a ok hO hblk hb0 hF0 hX aX hA hB ho hcw9 hPA hp hh hD hL e1 hpD;go_enter Tryz.func141,Tryz.ntmps141;go_wp2_with fail;rw[HW.out];go_quiet (fail);go_wp2_with fail;refine(HOB.out _).mono ?_;rintro e w1 ⟨rfl,q1,rfl⟩;go_wp2_with fail;refine(HFD.out _).mono ?_;rintro e w1 ⟨rfl,q2,rfl⟩;go_wp2_with fail;refine(HO2.out _).mono ?_;rintro e w1 ⟨⟨v0,rfl⟩,q3,rfl⟩;go_wp2_with fail;refine(HH.out _).mono ?_;rintro e w1 ⟨rfl,q4,rfl⟩;go_wp2_with fail;refine(HD.out _).mono ?_;rintro e w4 ⟨⟨v4,rfl⟩,⟨vf4,vs4,a4⟩,hf4⟩;have HFI:=jaI a4 hD1 hD2 hD3;rw[hfi] at HFI;have HFI:=hid HFI;have HF4:=hid ((HF.out.drewN _).trans (hf4.mono (P:=O) (fun i hi=>.inl (by rw[hi];exact hgO))) (fun i hi=>.inl hi));have HPU:=hid (fun q=>jiq (a4.drewN q) hcw hj1 hj2 (fun i hi=>hOX i (zqs hf4.size hi)) hD1);clear a4 hf4 hj1 hj2 hOX hD1 hD2 hD3 hfi;go_wp2_with fail;refine HFI.out.mono ?_;rintro e w5 ⟨rfl,q5,rfl⟩;go_wp2_with fail;refine(HPU.out _).mono ?_;rintro e w5 ⟨⟨v5,rfl⟩,⟨vf5,a5⟩,hf5⟩;have s2:w5.frozen? ⟨g,2,none⟩=false:=a5.fz 2;have s3:w5.frozen? ⟨g,3,none⟩=false:=a5.fz 3;have t2:w5.cell? ⟨g,2,none⟩=_:=a5.regc (k:=0) (by omega);have t3:w5.cell? ⟨g,3,none⟩=_:=a5.regc (k:=1) (by omega);have HA5:=hid a5;have HF5:=hid hf5;clear a5 hf5;go_wp2_with fail;go_region;all_goals
   go_wp2_with fail;go_ret;exact⟨rfl,⟨_,_,_,_,jrD HA5.out (C.rg A) (C.rg B) _⟩,((((HF4.out.drewN _).trans HF5.out (fun i hi=>.inl hi)).setCell (p:=⟨g,2,none⟩) (.inl hgO) _).setCell (p:=⟨g,3,none⟩) (.inl hgO) _).drewN _⟩
theorem jmz (tail:Bool) (ht:(op==27)=tail) (hfr:0<C.fr.length):
  Calls prog 141 #[.pointer (some ⟨g,0,none⟩),.agg #[.int .i64 op,.int .i64 A,.int .i64 B,.int .i64 c,.int .i64 n]] w fun e w'=>Did O w g b (qW C tail A B) e w':=by
 cases e1:jD C (C.rg A) with
 |none=>
  rw[show qW C tail A B=(C,7) by simp[qW,e1]];exact jmx a ok hO op A B hA hB c n (K:=0) (by rw[e1];rfl) (by decide)
 |some o=>
  by_cases hk:o.k=3
  ·cases e2:jD C (o.ws.getD 0 0) with
   |none=>
    rw[show qW C tail A B=(C,7) by simp only[qW,e1,e2,hk,ne_eq,not_true_eq_false,if_false]];exact jmy a ok hO op A B hA hB c n e1 hk (K:=0) (by rw[e2];rfl) (by decide)
   |some p=>
    by_cases hp:p.k=5
    ·cases tail with
     |false=>
      rw[show qW C false A B=ZP C (o.ws.getD 0 0) p (C.rg A) (C.rg B) by simp only[qW,e1,e2,hk,hp,ne_eq,not_true_eq_false,if_false,Bool.false_eq_true]];exact jtK a ok hO op A B hA hB c n e1 hk e2 hp ht
     |true=>
      have h27:op=27:=by simpa using ht
      cases hh:qL C with
      |true=>
       rw[show qW C true A B=(C,7) by simp only[qW,e1,e2,hk,hp,hh,ne_eq,not_true_eq_false,if_false,if_true]];exact jtJ a ok hO op A B hA hB c n e1 hk e2 hp h27 hh
      |false=>
       rw[show qW C true A B=ZP (jP C (C.fr.length-1)) (o.ws.getD 0 0) p (C.rg A) (C.rg B) by simp only[qW,e1,e2,hk,hp,hh,ne_eq,not_true_eq_false,if_false,if_true,Bool.false_eq_true]];exact jtL a ok hO op A B hA hB c n e1 hk e2 hp h27 hh hfr
    ·rw[show qW C tail A B=(C,7) by simp only[qW,e1,e2,hk,hp,ne_eq,not_true_eq_false,if_false,not_false_eq_true,if_true]]
     exact jmy a ok hO op A B hA hB c n e1 hk (K:=p.k) (by rw[e2];rfl) hp
  ·rw[show qW C tail A B=(C,7) by simp only[qW,e1,hk,ne_eq,not_false_eq_true,if_true]]
   exact jmx a ok hO op A B hA hB c n (K:=o.k) (by rw[e1];rfl) hk
end
end
