/- A part of the proof of MachineMoves. Conditions: those that each theorem names. -/
import Derived.Test.YtklcmdoadmcpfaaGreatDoorQ17
set_option maxRecDepth 100000
set_option maxHeartbeats 400000000
namespace Go.Proofs.YtklcmdoadmcpfaaGreatDoor
open Go Go.RowKit Go.Shelf IsaL
open Go.Lib(hid)
open Go.Proofs.Tryz(prog)
section
open Go Go.RowKit IsaL
def setA (C:CM) (g sb:Nat) (x:Nat×Nat) (v:Nat):CM:=
 if x.1=g then(if x.2<18 then{C with rg:=jG C.rg (x.2-2) v} else if x.2<1042 then{C with gl:=jG C.gl (x.2-18) v} else if x.2=1043 then{C with cd:=v} else{C with va:=v})
 else if x.1=sb/\x.2<C.sl.length then{C with sl:=C.sl.set x.2 v} else match C.fr[x.2/5]? with
  |none=>C
  |some y=>{C with fr:=C.fr.set (x.2/5) {y with code:=v}}
section
variable {C C0:CM} {g fb sb v:Nat}
theorem jdn {k:Nat} (hk:k<16):setA C g sb (g,2+k) v={C with rg:=jG C.rg k v}:=by
 unfold setA;have h1:2+k<18:=by omega
 have h2:2+k-2=k:=by omega
 simp only[h1,h2,if_true]
theorem jdm {k:Nat} (hk:k<1024):setA C g sb (g,18+k) v={C with gl:=jG C.gl k v}:=by
 unfold setA;have h0:¬18+k<18:=by omega
 have h1:18+k<1042:=by omega
 have h2:18+k-18=k:=by omega
 simp only[h0,h1,h2,if_true,if_false]
theorem jdk:setA C g sb (g,1043) v={C with cd:=v}:=by
 unfold setA;simp
theorem jdp:setA C g sb (g,1044) v={C with va:=v}:=by
 unfold setA;simp
theorem jdo (s:Z1 C0 g fb sb) (h0:0<C0.sl.length) {k:Nat} (hk:k<C.sl.length):setA C g sb (sb,0+k) v={C with sl:=C.sl.set k v}:=by
 unfold setA;have h1:=s.sg h0;simp only[h1,hk,if_false,Nat.zero_add,true_and,if_true]
theorem jdl (s:Z1 C0 g fb sb) (h0:0<C0.fr.length) (hL:C.sl.length=C0.sl.length) {k:Nat} {y:Fm} (hk:C.fr[k]?=some y):setA C g sb (fb,k*5) v={C with fr:=C.fr.set k {y with code:=v}}:=by
 unfold setA;have h1:=s.fg h0;have h2:¬(fb=sb/\k*5<C.sl.length):=fun z=>s.fs h0 (by have:=z.2;omega) z.1;have h3:k*5/5=k:=by omega
 simp only[h1,h2,h3,if_false,hk]
end
theorem jpx {l:List Fm} {k:Nat} {f:Fm} (h:l[k]?=some f) (v:Nat):(Jw l).set (k*5) (.int .u64 (v:Int))=Jw (l.set k {f with code:=v}):=by
 induction l generalizing k with
 |nil=>cases h
 |cons f0 l ih=>
  cases k with
  |zero=>
   obtain rfl:f0=f:=by simpa using h
   rfl
  |succ k=>
   show(f0.cells++Jw l).set ((k+1)*5) _=f0.cells++Jw (l.set k _);have e5:f0.cells.length=5:=rfl;rw[List.set_append_right _ _ (by omega),e5,show(k+1)*5-5=k*5 by omega,ih (by simpa using h)]
section
variable {O:Nat->Prop} {w:World} {g b fb sb:Nat} {C C0:CM} {R:Nat->Value} {vf vs vh:Value}
theorem McAt.setCode (a:McAt O w g C b R vf vs vh) {fg n c k:Nat} {f:Fm} (hv:vf=.slice (some ⟨fg,0,none⟩) n c) (hn:C.fr.length=n) (hk:C.fr[k]?=some f) (v:Nat):McAt O (w.setCell ⟨fg,k*5,none⟩ (.int .u64 (v:Int))) g {C with fr:=C.fr.set k {f with code:=v}} b R vf vs vh:=by
 have hof:=a.of;rw[hv,hn] at hof;have h2:=(hof.stored (k*5) (.int .u64 (v:Int))).1;rw[jpx hk] at h2;have hob:vf.ownBlock=some fg:=by rw[hv];rfl
 have hfr:Fr (·=fg) w (w.setCell ⟨fg,k*5,none⟩ (.int .u64 (v:Int))):=(Fr.refl (·=fg) w).setCell (p:=⟨fg,k*5,none⟩) (.inl rfl) _;have hb:Bx (w.setCell ⟨fg,k*5,none⟩ (.int .u64 (v:Int))) g (mF C b vf vs vh):=a.bx.fr hfr (fun e=>a.g1 (by rw[hob,e]));exact⟨hb,a.m.kept hfr (fun i hi e=>a.m1 fg hob (e▸hi)),a.z,by rw[hv,List.length_set,hn];exact h2,jd hfr a.os (fun i hi e=>a.s12 fg hob (by rw[hi,e])),jd hfr a.oh (fun i hi e=>a.s13 fg hob (by rw[hi,e])),
  a.og,a.om,a.o1,a.o2,a.o3,a.gm,a.g1,a.g2,a.g3,a.m1,a.m2,a.m3,a.s12,a.s13,a.s23⟩
theorem McAt.setA (a:McAt O w g C b R vf vs vh) (hfb:∀i,vf.ownBlock=some i->i=fb) (hsb:∀i,vs.ownBlock=some i->i=sb) (s:Z1 C0 g fb sb) (h1:C.sl.length=C0.sl.length) (h2:C.fr.length=C0.fr.length) {x:Nat×Nat} (hx:x∈zd C0 g fb sb) (v:Nat):McAt O (w.setCell ⟨x.1,x.2,none⟩ (.int .u64 (v:Int))) g (setA C g sb x v) b R vf vs vh:=by
 rcases Q1.1 hx with⟨k,q,_,rfl⟩|⟨k,q,_,rfl⟩|⟨k,q,_,rfl⟩|⟨k,q,rfl⟩|⟨_,rfl⟩|⟨_,rfl⟩
 ·rw[jdn q]
  exact a.reg q v
 ·obtain⟨i,c,e,_⟩:=a.os.form (by omega)
  have hq:=hsb i (by rw[e];rfl);subst hq;rw[jdo s (by omega) (by omega)];show McAt O (w.setCell ⟨i,0+k,none⟩ _) g {C with sl:=C.sl.set k v} b R vf vs vh;rw[Nat.zero_add];exact a.setSlot e rfl k v
 ·have:=s.us
  have hk1024:k<1024:=by omega
  rw[jdm hk1024];exact a.glob hk1024 v
 ·obtain⟨i,c,e,_⟩:=a.of.form (by omega)
  have hq:=hfb i (by rw[e];rfl);subst hq;have hkl:k<C.fr.length:=by omega
  clear hx;have hk:C.fr[k]?=some (C.fr[k]'hkl):=zqh hkl;rw[jdl s (by omega) h1 hk];exact a.setCode e rfl hk v
 ·rw[jdk]
  exact a.code v
 ·rw[jdp]
  exact a.value v
theorem jgA (C:CM) (g sb:Nat) (x:Nat×Nat) (v:Nat):(setA C g sb x v).W=C.W/\(setA C g sb x v).h=C.h/\(setA C g sb x v).now=C.now/\(setA C g sb x v).old=C.old/\(setA C g sb x v).us=C.us/\(setA C g sb x v).sl.length=C.sl.length/\(setA C g sb x v).fr.length=C.fr.length:=by
 unfold setA;split
 ·split
  ·exact⟨rfl,rfl,rfl,rfl,rfl,rfl,rfl⟩
  ·split
   ·exact⟨rfl,rfl,rfl,rfl,rfl,rfl,rfl⟩
   ·split<;>exact⟨rfl,rfl,rfl,rfl,rfl,rfl,rfl⟩
 ·split
  ·exact⟨rfl,rfl,rfl,rfl,rfl,List.length_set ..,rfl⟩
  ·split
   ·exact⟨rfl,rfl,rfl,rfl,rfl,rfl,rfl⟩
   ·exact⟨rfl,rfl,rfl,rfl,rfl,rfl,List.length_set ..⟩
end
section
variable {C0:CM} {g fb sb:Nat} (ρ:Nat->Nat)
def ZA (ρ:Nat->Nat) (C0:CM) (g sb:Nat) (l:List (Nat×Nat)) (C:CM):CM:=l.foldl (fun C x=>setA C g sb x (ρ (jW C0 g sb x))) C
theorem J9 (l m:List (Nat×Nat)) (C:CM):ZA ρ C0 g sb (l++m) C=ZA ρ C0 g sb m (ZA ρ C0 g sb l C):=List.foldl_append
def ZC (f:Nat->Nat) (n k:Nat):Nat:=if k<n then ρ (f k) else f k
theorem jgO (f:Nat->Nat):ZC ρ f 0=f:=funext fun _=>if_neg (Nat.not_lt_zero _)
theorem jgN (f:Nat->Nat) (n:Nat):jG (ZC ρ f n) n (ρ (f n))=ZC ρ f (n+1):=funext fun k=>by
 unfold jG ZC;by_cases e:k=n
 ·subst e
  rw[if_pos rfl,if_pos (by omega)]
 ·rw[if_neg e]
  by_cases q:k<n
  ·rw[if_pos q,if_pos (by omega)]
  ·rw[if_neg q,if_neg (by omega)]
theorem jgM (f:Nat->Nat) (n:Nat) (h:ρ (f n)=f n):ZC ρ f n=ZC ρ f (n+1):=funext fun k=>by
 unfold ZC;by_cases e:k=n
 ·subst e
  rw[if_neg (by omega),if_pos (by omega),h]
 ·by_cases q:k<n
  ·rw[if_pos q,if_pos (by omega)]
  ·rw[if_neg q,if_neg (by omega)]
theorem jjU (C:CM) (hC:C.rg=C0.rg) (hw:∀k,k<16->jf (C0.rg k:Int)=false->ρ (C0.rg k)=C0.rg k):∀n,n<=16->ZA ρ C0 g sb (qo g 2 C0.rg n) C={C with rg:=ZC ρ C0.rg n}
 |0,_=>by
  rw[jgO,<-hC];rfl
 |n+1,hn=>by
  show ZA ρ C0 g sb (qo g 2 C0.rg n++_) C=_;rw[J9,jjU C hC hw n (by omega)];cases hp:jf (C0.rg n:Int) with
  |true=>
   rw[if_pos rfl];show setA _ g sb (g,2+n) (ρ (jW C0 g sb (g,2+n)))=_;rw[jfJ (by omega),jdn (by omega)];show({C with rg:=jG (ZC ρ C0.rg n) n (ρ (C0.rg n))}:CM)=_;rw[jgN]
  |false=>
   simp only[Bool.false_eq_true,if_false];rw[<-jgM ρ C0.rg n (hw n (by omega) hp)];rfl
theorem jjT (C:CM) (hC:C.gl=C0.gl) (hw:∀k,k<C0.us->jf (C0.gl k:Int)=false->ρ (C0.gl k)=C0.gl k) (hu:C0.us<=1024):∀n,n<=C0.us->ZA ρ C0 g sb (qo g 18 C0.gl n) C={C with gl:=ZC ρ C0.gl n}
 |0,_=>by
  rw[jgO,<-hC];rfl
 |n+1,hn=>by
  show ZA ρ C0 g sb (qo g 18 C0.gl n++_) C=_;rw[J9,jjT C hC hw hu n (by omega)];cases hp:jf (C0.gl n:Int) with
  |true=>
   rw[if_pos rfl];show setA _ g sb (g,18+n) (ρ (jW C0 g sb (g,18+n)))=_;rw[jfI (by omega),jdm (by omega)];show({C with gl:=jG (ZC ρ C0.gl n) n (ρ (C0.gl n))}:CM)=_;rw[jgN]
  |false=>
   simp only[Bool.false_eq_true,if_false];rw[<-jgM ρ C0.gl n (hw n (by omega) hp)];rfl
def qp {α:Type} (q:α->α) (l:List α) (n:Nat):List α:=(l.take n).map q++l.drop n
section
variable {α:Type} (q:α->α)
include α q
theorem jgE (l:List α) (n:Nat):(qp q l n).length=l.length:=by unfold qp;simp;omega
theorem jiQ {l:List α} {n:Nat} {y:α} (h:l[n]?=some y):(qp q l n)[n]?=some y:=by
 have hl:=(zqb h).1;unfold qp;rw[zqn (by simp;omega),List.getElem?_drop];simp only[List.length_map,List.length_take];rw[show n+(n-min n l.length)=n by omega,h]
theorem jc5 {l:List α} {n:Nat} {y:α} (h:l[n]?=some y):(qp q l n).set n (q y)=qp q l (n+1):=by
 obtain⟨hl,e⟩:=zqb h;unfold qp;rw[List.set_append_right _ _ (by simp;omega)];simp only[List.length_map,List.length_take];rw[show n-min n l.length=0 by omega,List.drop_eq_getElem_cons hl,zqk,List.take_succ_eq_append_getElem hl,List.map_append,List.append_assoc,e];rfl
theorem jlT {l:List α} {n:Nat} {y:α} (h:l[n]?=some y) (hy:q y=y):qp q l n=qp q l (n+1):=by
 rw[<-jc5 q h,hy];have:=jiQ q h;obtain⟨hl,e⟩:=zqb this;rw[<-e];exact(List.set_getElem_self hl).symm
theorem jgD (l:List α):qp q l l.length=l.map q:=by unfold qp;simp
end
theorem jjV (s:Z1 C0 g fb sb) (C:CM) (hC:C.sl=C0.sl) (hw:∀k,k<C0.sl.length->jf (qO C0 k:Int)=false->ρ (qO C0 k)=qO C0 k):∀n,n<=C0.sl.length->ZA ρ C0 g sb (qo sb 0 (qO C0) n) C={C with sl:=qp ρ C0.sl n}
 |0,_=>by
  rw[show qp ρ C0.sl 0=C.sl from hC.symm];rfl
 |n+1,hn=>by
  have hk:C0.sl[n]?=some (qO C0 n):=by unfold qO;rw[zqi,zqh (by omega)];rfl
  show ZA ρ C0 g sb (qo sb 0 (qO C0) n++_) C=_;rw[J9,jjV s C hC hw n (by omega)];cases hp:jf (qO C0 n:Int) with
  |true=>
   rw[if_pos rfl];show setA _ g sb (sb,0+n) (ρ (jW C0 g sb (sb,0+n)))=_;rw[jfK s (by omega),jdo s (by omega) (by show n<(qp ρ C0.sl n).length;rw[jgE];omega)];show({C with sl:=(qp ρ C0.sl n).set n (ρ (qO C0 n))}:CM)=_;rw[jc5 ρ hk]
  |false=>
   simp only[Bool.false_eq_true,if_false];rw[<-jlT ρ hk (hw n (by omega) hp)];rfl
theorem jjS (s:Z1 C0 g fb sb) (C:CM) (hC:C.fr=C0.fr) (hL:C.sl.length=C0.sl.length):∀n,n<=C0.fr.length->ZA ρ C0 g sb (Za fb n) C={C with fr:=qp (fun y=>{y with code:=ρ y.code}) C0.fr n}
 |0,_=>by
  rw[show qp (fun y:Fm=>{y with code:=ρ y.code}) C0.fr 0=C.fr from hC.symm];rfl
 |n+1,hn=>by
  have hk:C0.fr[n]?=some C0.fr[n]:=zqh (by omega);show ZA ρ C0 g sb (Za fb n++[(fb,n*5)]) C=_;rw[J9,jjS s C hC hL n (by omega)];show setA _ g sb (fb,n*5) (ρ (jW C0 g sb (fb,n*5)))=_;rw[jfH s hk,jdl (C:={C with fr:=qp (fun y:Fm=>{y with code:=ρ y.code}) C0.fr n}) s (by omega) hL (jiQ _ hk)];show({C with fr:=(qp (fun y:Fm=>{y with code:=ρ y.code}) C0.fr n).set n {C0.fr[n] with code:=ρ C0.fr[n].code}}:CM)=_;rw[<-jc5 (fun y:Fm=>{y with code:=ρ y.code}) hk]
end
structure jo1 (C:CM) (ρ:Nat->Nat):Prop where
 rg:∀k,k<16->jf (C.rg k:Int)=false->ρ (C.rg k)=C.rg k
 gl:∀k,k<C.us->jf (C.gl k:Int)=false->ρ (C.gl k)=C.gl k
 sl:∀k,k<C.sl.length->jf (qO C k:Int)=false->ρ (qO C k)=qO C k
 cd:jf (C.cd:Int)=false->ρ C.cd=C.cd
 va:jf (C.va:Int)=false->ρ C.va=C.va
theorem jqI {C:CM} {g fb sb:Nat} (s:Z1 C g fb sb) (met:List Nat) (o:jo1 C (zx C.h C.W C.now met)):
  ZA (zx C.h C.W C.now met) C g sb (zd C g fb sb) {C with h:=1-C.h,now:=JG C.h C.W C.now met,old:=ze (1-C.h) C.W C.now met met}=QI C met:=by
 obtain⟨ρ,hρ⟩:∃ρ,zx C.h C.W C.now met=ρ:=⟨_,rfl⟩;rw[hρ] at o ⊢;have e1:jW C g sb (g,1043)=C.cd:=by unfold jW;rw[if_pos rfl];rfl
 have e2:jW C g sb (g,1044)=C.va:=by unfold jW;rw[if_pos rfl];rfl
 have htail:∀C':CM,C'.cd=C.cd->C'.va=C.va->ZA ρ C g sb (Zs C g 2) C'={C' with cd:=ρ C.cd,va:=ρ C.va}:=fun C' h1 h2=>by
  show ZA ρ C g sb ((if jf (C.cd:Int)=true then[(g,1043)] else[])++if jf (C.va:Int)=true then[(g,1044)] else[]) C'=_;rw[J9];have a1:ZA ρ C g sb (if jf (C.cd:Int)=true then[(g,1043)] else[]) C'={C' with cd:=ρ C.cd}:=by
   cases hp:jf (C.cd:Int) with
   |true=>
    rw[if_pos rfl];show setA _ g sb (g,1043) (ρ (jW C g sb (g,1043)))=_;rw[e1,jdk]
   |false=>
    simp only[Bool.false_eq_true,if_false];rw[o.cd hp,<-h1];rfl
  rw[a1];cases hp:jf (C.va:Int) with
  |true=>
   rw[if_pos rfl];show setA _ g sb (g,1044) (ρ (jW C g sb (g,1044)))=_;rw[e2,jdp]
  |false=>
   simp only[Bool.false_eq_true,if_false];rw[o.va hp,<-h2];rfl
 obtain⟨C1,hC1⟩:∃C1,({C with h:=1-C.h,now:=JG C.h C.W C.now met,old:=ze (1-C.h) C.W C.now met met}:CM)=C1:=⟨_,rfl⟩;have h1:C1.rg=C.rg:=by rw[<-hC1]
 have h2:C1.sl=C.sl:=by rw[<-hC1]
 have h3:C1.gl=C.gl:=by rw[<-hC1]
 have h4:C1.fr=C.fr:=by rw[<-hC1]
 have h5:C1.cd=C.cd:=by rw[<-hC1]
 have h6:C1.va=C.va:=by rw[<-hC1]
 rw[hC1];unfold zd rA3 rA2 rA1 rA0;rw[J9,J9,J9,J9,jjU ρ C1 h1 o.rg 16 (zqg _),
  jjV ρ s {C1 with rg:=ZC ρ C.rg 16} h2 o.sl _ (zqg _),
  jjT ρ {C1 with rg:=ZC ρ C.rg 16,sl:=qp ρ C.sl C.sl.length} h3 o.gl s.us _ (zqg _),
  jjS ρ s {C1 with rg:=ZC ρ C.rg 16,sl:=qp ρ C.sl C.sl.length,gl:=ZC ρ C.gl C.us} h4 (jgE _ _ _) _ (zqg _),
  htail {C1 with rg:=ZC ρ C.rg 16,sl:=qp ρ C.sl C.sl.length,gl:=ZC ρ C.gl C.us,fr:=qp (fun y:Fm=>{y with code:=ρ y.code}) C.fr C.fr.length} h5 h6,jgD,jgD]
 unfold QI;rw[hρ,<-hC1];rfl
end
section
attribute [local go_sem] Oper.semAt_some
theorem jiF (g:Nat) (w:World):Calls prog 64 #[.pointer (some ⟨g,0,none⟩)] w fun e w'=>e=.returned (.func (.func 111) #[] #[.pointer (some ⟨w.heap.size,0,none⟩)])/\w'=w.alloc (.cells #[.pointer (some ⟨g,0,none⟩)] 28):=by
 go_enter Tryz.func64,Tryz.ntmps64;go_wp2_with fail;go_ret;exact⟨rfl,rfl⟩
end
section
attribute [local go_sem] Oper.semAt_some
section
variable {O:Nat->Prop} {w:World} {g b:Nat} {C:CM} {R:Nat->Value} {vf vs vh:Value}
theorem jia (ok:OkC C):OkW C:=⟨ok.rg,ok.gl,fun k hk=>by
 unfold qO;rw[zqi,zqh hk];exact ok.sl _ (List.getElem_mem hk),ok.cd,ok.va⟩
theorem jaM {A B:World} {P:Nat->Prop} {n0 Bs:Nat} {C':CM} (a:McAt O w g C' b R vf vs vh) (hn:w.heap.size<=n0) (hf:Fr P A B) (hP:∀i,P i->n0<=i) (hb:Boxed A Bs 28 (.pointer (some ⟨g,0,none⟩))->Boxed B Bs 28 (.pointer (some ⟨g,0,none⟩))):jan O g b Bs C R vf vs vh A B:=fun⟨h1,C1,h2,h3⟩=>
 ⟨hb h1,C1,h2.kept hf (fun q=>by have:=a.bx.lt;have:=hP _ q;omega) (fun i hi q=>by have:=a.m.own_lt i hi;have:=hP _ q;omega) (fun i hi q=>by have:=jC a.of hi;have:=hP _ q;omega) (fun i hi q=>by have:=jC a.os hi;have:=hP _ q;omega) (fun i hi q=>by have:=jC a.oh hi;have:=hP _ q;omega),h3⟩
theorem jaw {Bs:Nat} {A B D:World} (p:jan O g b Bs C R vf vs vh A B) (q:jan O g b Bs C R vf vs vh B D):jan O g b Bs C R vf vs vh A D:=fun x=>q (p x)
theorem jjG {Bs:Nat} {w2:World} {C':CM} (a:McAt O w g C' b R vf vs vh) (hw:w.heap.size<=w2.heap.size) (hb:Bs<w2.heap.size) (W1:World) (l:Nat) (o o':Obj) (hl:w2.heap.size<=l) (_:W1.heap[l]?=some o) (_:o.isCells=false) (_:o.isWalk=false):jan O g b Bs C R vf vs vh W1 (W1.putObj l o'):=
 jaM a hw ((Fr.refl (·=l) W1).grown (grownBy_putObj' W1 l o') (fun k hk=>.inl (zqd hk).symm)) (fun i e=>by omega) (fun x=>x.kept (grownBy_putObj' W1 l o') (fun e=>by cases e;omega))
theorem jkd (a:McAt O w g C b R vf vs vh) (ok:OkC C):
  Calls prog 63 #[.pointer (some ⟨g,0,none⟩)] w fun e w'=>(∃v,e=.returned v/\w'.ownsRow w.heap.size 65 1 v (j8 C).length (u64s (j8 C)))/\Below w.heap.size w w':=by
 obtain⟨fb,sb,hfb,hsb,sp⟩:=joB a ok.us;obtain⟨i0,hi,hz0,hz1,hz2⟩:=info_parts jnb;have HA:=hid a;have hn1:=ok.n1;have hn2:=ok.n2;have HLEN:Hid ((j8 C).length<=200000):=hid (by
  have e1:∀(f:Nat->Nat) n,(Qn f n).length<=n:=fun f n=>by
   induction n with
   |zero=>exact zqg _
   |succ n ih=>
    show(Qn f n++_).length<=_;rw[zqm];split<;>simp<;>omega
  unfold j8;have h1:=e1 C.rg 16;have h2:=e1 (qO C) C.sl.length;have h3:=e1 C.gl C.us;have h4:=ok.us;have h5:(if jf (C.cd:Int)=true then[C.cd] else[]).length<=1:=by split<;>simp
  have h6:(if jf (C.va:Int)=true then[C.va] else[]).length<=1:=by split<;>simp
  simp only[zqm,List.length_map];omega)
 refine(callsIn_wide (n:=3)).1 ?_;refine callsIn_of_wp_marks Tryz.func63 rfl trivial ?_ rfl;simp only[Tryz.ntmps63,List.size_toArray,List.length_cons,List.length_nil,Nat.reduceAdd,Nat.reduceSub,Array.replicate_succ,Array.replicate_zero,List.push_toArray,List.append_toArray,List.nil_append,List.cons_append];have HOK:=hid ok;clear a ok;gi_wp2_with fail;refine⟨trivial,?_⟩;refine(callsIn_wide.2 (jiF g _)).mono ?_;rintro e w2 ⟨rfl,hw2⟩;obtain⟨w1,hw1⟩:∃w1,w.alloc (.cells #[.slice none 0 0] 51)=w1:=⟨_,rfl⟩;have bL:Boxed w1 w.heap.size 51 (.slice none 0 0):=by rw[<-hw1];exact Boxed.new w _ _
 have hb1:Below w.heap.size w w1:=by rw[<-hw1];exact(Below.refl _ w).alloc (zqg _) _
 have hs1:w1.heap.size=w.heap.size+1:=by rw[<-hw1];simp
 rw[hw1] at hw2 ⊢;have bM:Boxed w2 w1.heap.size 28 (.pointer (some ⟨g,0,none⟩)):=by rw[hw2];exact Boxed.new w1 _ _
 have bL2:Boxed w2 w.heap.size 51 (.slice none 0 0):=by rw[hw2];exact bL.alloc _
 have hb2:Below w.heap.size w w2:=by rw[hw2];exact hb1.alloc hb1.size _
 have hs2:w2.heap.size=w.heap.size+2:=by rw[hw2];simp;omega
 have HB2:=hid hb2;have HS2:=hid hs2;rw[hs1] at bM;have hMB:MB O g b (w.heap.size+1) C R vf vs vh w2:=⟨bM,C,HA.out.below hb2,ShC.refl C,jia HOK.out⟩;have hseq:=jgx (3-1) (by omega) (Bs:=w.heap.size+1) HOK.out.us hn1 hn2 hfb hsb w2 hMB;have hsz2:w.heap.size<=w2.heap.size:=by omega
 have HBM:=hid bM;clear hw1 hb1 bL hb2 hw2;gi_wp2_with fail;refine wpIn_rangeFunc_ownG rfl (by omega) (gf:=111) (lb:=#[.pointer (some ⟨w.heap.size+1,0,none⟩)]) rfl trivial (enters_of Tryz.func111 (by kernel_rfl) rfl)
  hseq jaw (jjG HA.out hsz2 (by omega)) (Below.refl _ _) (fun _=>rfl)
  (fun pre W'=>((∃v,Boxed W' w.heap.size 51 v/\W'.ownsRow w.heap.size 65 1 v pre.length (u64s (pre.map fun x=>jW C g sb x.1))/\True)/\Boxed W' (w.heap.size+1) 28 (.pointer (some ⟨g,0,none⟩)))/\Below w.heap.size w W')
  (fun _ _ _=>False)
  (OwnFrom.and (OwnFrom.and (Own.from (holdsRow_own w.heap.size w.heap.size 51 65 1 (fun(pre:List (RtS C g fb sb))=>pre.length) (fun pre=>u64s (pre.map fun x=>jW C g sb x.1)) (fun _ _=>True)) _) (Own.from (boxed_own (w.heap.size+1) 28 (fun _=>.pointer (some ⟨g,0,none⟩))) _)) (ownFrom_below (zqg _) (by omega)))
  (fun _ _ _ _ _ hs _ _=>hs)
  ⟨⟨⟨_,bL2,⟨rfl,.inl ⟨rfl,rfl⟩⟩,trivial⟩,HBM.out⟩,HB2.out⟩
  ?a1 ?assign ?body ?done ?stop
 case assign=>
  intro l x W' K hK;gi_wp2;exact hK
 case body=>
  rintro l pre x W' ⟨⟨⟨v,hv,hrow,_⟩,hbs⟩,hB⟩ hlt;have hc:=hv.cell;have hx:=(HA.out.below hB).val hfb hsb sp x.2;obtain⟨⟨xb,xo⟩,hxm⟩:=x;simp only at hx;obtain⟨V,hV⟩:∃V,jW C g sb (xb,xo)=V:=⟨_,rfl⟩;rw[hV] at hx;have hc2:W'.drew.cell? ⟨w.heap.size,0,none⟩=some v:=hc;have hx2:W'.drew.cell? ⟨xb,xo,none⟩=some (.int .u64 (V:Int)):=hx;have hrow2:W'.drew.ownsRow w.heap.size 65 1 v pre.length (u64s (pre.map fun x=>jW C g sb x.1)):=hrow.drew;have hv2:Boxed W'.drew w.heap.size 51 v:=hv;have hxn:((some (⟨xb,xo,none⟩:Addr))==none)=false:=rfl;have hszW:=hB.size;have hbs2:Boxed W'.drew (w.heap.size+1) 28 (.pointer (some ⟨g,0,none⟩)):=hbs;have hB2':Below w.heap.size w W'.drew:=hB.drew;have hKD:jan O g b (w.heap.size+1) C R vf vs vh W' W'.drew:=fun q=>q.drewN 1;have hKO:KeepsOthers W' W'.drew:=⟨zqg _,fun _ _ q _=>q⟩;have hvb:Boxed W'.drew w.heap.size 51 v:=hv;obtain⟨X,hX⟩:∃X,W'.drew=X:=⟨_,rfl⟩;have hplen:pre.length<=200000:=by
   have:=HLEN.out;rw[<-jba sp,List.length_map] at this;omega
  have HPV:=hid hV;have HPL:=hid hplen;have HKS:=hid (zqf hKD (zqf hKO (zqf hbs2 (zqf hB2' (zqf hvb hrow2)))));rw[hX] at hc2 hx2 hrow2 HKS;have hXs:w.heap.size<=X.heap.size:=HKS.out.2.2.2.1.size;have hca:=fun(o:Obj)=>jm ((Below.refl _ X).alloc (zqg _) o) hc2;have hlc:=(Below.refl X.heap.size X).alloc (zqg _) (.cells #[.int .u64 (V:Int)] 65);have HLC:=hid hlc;clear hlc;clear hKD hKO hbs2 hB2' hvb hbs hB hv hc hx hrow hv2 hszW hplen hV;gi_wp2_with fail;refine jal rfl (by kernel_rfl) ?_;rw[hX];clear hX;change wpAny _ _ _ _ 7 _ _ _;refine wpAny_take (i:=1) (v:=.pointer (some ⟨xb,xo,none⟩)) rfl (by kernel_rfl) (by kernel_rfl) (by kernel_rfl) (fun _ _ _ h=>h) (Or.inl ⟨by rfl,fun w=>by go_simp⟩) ?_;refine wpAny_take (i:=2) (v:=.pointer (some ⟨xb,xo,none⟩)) rfl (by kernel_rfl) (by kernel_rfl) (by kernel_rfl) (fun _ _ _ h=>h) (Or.inl ⟨by rfl,fun w=>by go_simp⟩) ?_;change wpAny _ _ _ _ 5 _ _ _;refine wpAny_ready (rs:=[0,3]) (by kernel_rfl) (by simp) ?_;refine AllReady.cons (by rfl) (fun K hK=>?_) (AllReady.cons (by rfl) (fun K hK=>?_) AllReady.nil)
  ·go_simp;refine hK _ _ ?_;clear hK K
   change wpAny _ _ _ _ 4 _ _ _;refine wpAny_ready (rs:=[3]) (by kernel_rfl) (by simp) ?_;refine AllReady.cons (by rfl) (fun K hK=>?_) AllReady.nil;go_simp;refine hK _ _ ?_;clear hK K;change wpAny _ _ _ _ 3 _ _ _;refine wpAny_ready (rs:=[4]) (by kernel_rfl) (by simp) ?_;refine AllReady.cons (by rfl) (fun K hK=>?_) AllReady.nil;go_simp;refine hK _ _ ?_;clear hK K;change wpAny _ _ _ _ 2 _ _ _;refine wpAny_ready (rs:=[5]) (by kernel_rfl) (by simp) ?_;refine AllReady.cons (by rfl) (fun K hK=>?_) AllReady.nil;refine step_append_lies _ (by rfl) _ _ 51 (by rfl) w.heap.size 65 i0 (.int .u64 0) 1 8 Tryz.underlying51 hi hz0 hz1 hz2 rfl (by decide) v pre.length (u64s (pre.map fun x=>jW C g sb x.1)) (by rfl) (hrow2.alloc _) ⟨X.heap.size,0,none⟩ 1 1 [.int .u64 (V:Int)] (by rfl) rfl (World.news_of_block (zqe X _)) (by simp[Value.oneCell']) (by decide) (by have:=HPL.out;unfold maxLen;omega) (by have:=HPL.out;omega) (by rw[World.size_alloc];omega) (X.heap.size+1) (by rw[World.size_alloc]) ?_;intro g3 cap3 w3 hown3 hgrow3 _ _;obtain⟨a1,a2,a3,a4,a5⟩:=HKS.out.2.2.2.2.1.appended (by decide) hrow2 hXs (zqg _) hown3 hgrow3;have HG3:=hid (zqf hown3 hgrow3);have HA3:=hid (zqf a2 (zqf a3 (zqf a4 a5)));have hb1:=a1.cell;have hf1:=a1.frozen;clear hown3 hgrow3 a1 a2 a3 a4 a5;refine hK _ _ ?_;clear hK K;change wpAny _ _ _ _ 1 _ _ _;refine wpAny_ready (rs:=[6]) (by kernel_rfl) (by simp) ?_;refine AllReady.cons (by rfl) (fun K hK=>?_) AllReady.nil;go_simp;refine hK _ _ ?_;clear hK K;refine wpAny_done (by kernel_rfl) ?_ _;simp only[QQ];have hbs3:Boxed (w3.setCell ⟨w.heap.size,0,none⟩ (.slice (some ⟨g3,0,none⟩) (pre.length+1) cap3)) (w.heap.size+1) 28 (.pointer (some ⟨g,0,none⟩)):=((HKS.out.2.2.1.alloc _).kept HG3.out.2 (HKS.out.2.2.1.not_row (by decide) hrow2)).other (B':=w.heap.size) (by omega) _;have hrow3:u64s (pre.map fun x=>jW C g sb x.1)++[Value.int .u64 (V:Int)]=u64s ((pre++[(⟨(xb,xo),hxm⟩:RtS C g fb sb)]).map fun x=>jW C g sb x.1):=by
    rw[List.map_append,Jd,List.map_cons,HPV.out];rfl
   have hfr:Fr (fun i=>v.ownBlock=some i\/i=w.heap.size) X (w3.setCell ⟨w.heap.size,0,none⟩ (.slice (some ⟨g3,0,none⟩) (pre.length+1) cap3)):=(((Fr.refl _ X).alloc _).grown HG3.out.2 (fun k hk=>.inl (.inl hk))).setCell (p:=⟨w.heap.size,0,none⟩) (.inl (.inr rfl)) _;refine⟨(HKS.out.2.1.trans HA3.out.2.2.1).from _,jaw HKS.out.1 (jaM HA.out (zqg _) hfr (fun i hi=>?_) fun _=>hbs3),⟨⟨_,HA3.out.1,by have:=HA3.out.2.1;rw[hrow3] at this;rw[zqm];exact this,trivial⟩,hbs3⟩,HKS.out.2.2.2.1.trans HA3.out.2.2.2⟩;rcases hi with q|q
   ·exact(hrow2.lt i q).1
   ·omega
  ·go_simp;refine hK _ _ ?_;clear hK K
   change wpAny _ _ _ _ 4 _ _ _;refine wpAny_ready (rs:=[0,4]) (by kernel_rfl) (by simp) ?_;refine AllReady.cons (by rfl) (fun K hK=>?_) (AllReady.cons (by rfl) (fun K hK=>?_) AllReady.nil)
   ·go_simp;refine hK _ _ ?_;clear hK K
    change wpAny _ _ _ _ 3 _ _ _;refine wpAny_ready (rs:=[4]) (by kernel_rfl) (by simp) ?_;refine AllReady.cons (by rfl) (fun K hK=>?_) AllReady.nil;go_simp;refine hK _ _ ?_;clear hK K;change wpAny _ _ _ _ 2 _ _ _;refine wpAny_ready (rs:=[5]) (by kernel_rfl) (by simp) ?_;refine AllReady.cons (by rfl) (fun K hK=>?_) AllReady.nil;refine step_append_lies _ (by rfl) _ _ 51 (by rfl) w.heap.size 65 i0 (.int .u64 0) 1 8 Tryz.underlying51 hi hz0 hz1 hz2 rfl (by decide) v pre.length (u64s (pre.map fun x=>jW C g sb x.1)) (by rfl) (hrow2.alloc _) ⟨X.heap.size,0,none⟩ 1 1 [.int .u64 (V:Int)] (by rfl) rfl (World.news_of_block (zqe X _)) (by simp[Value.oneCell']) (by decide) (by have:=HPL.out;unfold maxLen;omega) (by have:=HPL.out;omega) (by rw[World.size_alloc];omega) (X.heap.size+1) (by rw[World.size_alloc]) ?_;intro g3 cap3 w3 hown3 hgrow3 _ _;obtain⟨a1,a2,a3,a4,a5⟩:=HKS.out.2.2.2.2.1.appended (by decide) hrow2 hXs (zqg _) hown3 hgrow3;have HG3:=hid (zqf hown3 hgrow3);have HA3:=hid (zqf a2 (zqf a3 (zqf a4 a5)));have hb1:=a1.cell;have hf1:=a1.frozen;clear hown3 hgrow3 a1 a2 a3 a4 a5;refine hK _ _ ?_;clear hK K;change wpAny _ _ _ _ 1 _ _ _;refine wpAny_ready (rs:=[6]) (by kernel_rfl) (by simp) ?_;refine AllReady.cons (by rfl) (fun K hK=>?_) AllReady.nil;go_simp;refine hK _ _ ?_;clear hK K;refine wpAny_done (by kernel_rfl) ?_ _;simp only[QQ];have hbs3:Boxed (w3.setCell ⟨w.heap.size,0,none⟩ (.slice (some ⟨g3,0,none⟩) (pre.length+1) cap3)) (w.heap.size+1) 28 (.pointer (some ⟨g,0,none⟩)):=((HKS.out.2.2.1.alloc _).kept HG3.out.2 (HKS.out.2.2.1.not_row (by decide) hrow2)).other (B':=w.heap.size) (by omega) _;have hrow3:u64s (pre.map fun x=>jW C g sb x.1)++[Value.int .u64 (V:Int)]=u64s ((pre++[(⟨(xb,xo),hxm⟩:RtS C g fb sb)]).map fun x=>jW C g sb x.1):=by
     rw[List.map_append,Jd,List.map_cons,HPV.out];rfl
    have hfr:Fr (fun i=>v.ownBlock=some i\/i=w.heap.size) X (w3.setCell ⟨w.heap.size,0,none⟩ (.slice (some ⟨g3,0,none⟩) (pre.length+1) cap3)):=(((Fr.refl _ X).alloc _).grown HG3.out.2 (fun k hk=>.inl (.inl hk))).setCell (p:=⟨w.heap.size,0,none⟩) (.inl (.inr rfl)) _;refine⟨(HKS.out.2.1.trans HA3.out.2.2.1).from _,jaw HKS.out.1 (jaM HA.out (zqg _) hfr (fun i hi=>?_) fun _=>hbs3),⟨⟨_,HA3.out.1,by have:=HA3.out.2.1;rw[hrow3] at this;rw[zqm];exact this,trivial⟩,hbs3⟩,HKS.out.2.2.2.1.trans HA3.out.2.2.2⟩;rcases hi with q|q
    ·exact(hrow2.lt i q).1
    ·omega
   ·go_simp;refine hK _ _ ?_;clear hK K
    change wpAny _ _ _ _ 3 _ _ _;refine wpAny_ready (rs:=[0]) (by kernel_rfl) (by simp) ?_;refine AllReady.cons (by rfl) (fun K hK=>?_) AllReady.nil;go_simp;refine hK _ _ ?_;clear hK K;change wpAny _ _ _ _ 2 _ _ _;refine wpAny_ready (rs:=[5]) (by kernel_rfl) (by simp) ?_;refine AllReady.cons (by rfl) (fun K hK=>?_) AllReady.nil;refine step_append_lies _ (by rfl) _ _ 51 (by rfl) w.heap.size 65 i0 (.int .u64 0) 1 8 Tryz.underlying51 hi hz0 hz1 hz2 rfl (by decide) v pre.length (u64s (pre.map fun x=>jW C g sb x.1)) (by rfl) (hrow2.alloc _) ⟨X.heap.size,0,none⟩ 1 1 [.int .u64 (V:Int)] (by rfl) rfl (World.news_of_block (zqe X _)) (by simp[Value.oneCell']) (by decide) (by have:=HPL.out;unfold maxLen;omega) (by have:=HPL.out;omega) (by rw[World.size_alloc];omega) (X.heap.size+1) (by rw[World.size_alloc]) ?_;intro g3 cap3 w3 hown3 hgrow3 _ _;obtain⟨a1,a2,a3,a4,a5⟩:=HKS.out.2.2.2.2.1.appended (by decide) hrow2 hXs (zqg _) hown3 hgrow3;have HG3:=hid (zqf hown3 hgrow3);have HA3:=hid (zqf a2 (zqf a3 (zqf a4 a5)));have hb1:=a1.cell;have hf1:=a1.frozen;clear hown3 hgrow3 a1 a2 a3 a4 a5;refine hK _ _ ?_;clear hK K;change wpAny _ _ _ _ 1 _ _ _;refine wpAny_ready (rs:=[6]) (by kernel_rfl) (by simp) ?_;refine AllReady.cons (by rfl) (fun K hK=>?_) AllReady.nil;go_simp;refine hK _ _ ?_;clear hK K;refine wpAny_done (by kernel_rfl) ?_ _;simp only[QQ];have hbs3:Boxed (w3.setCell ⟨w.heap.size,0,none⟩ (.slice (some ⟨g3,0,none⟩) (pre.length+1) cap3)) (w.heap.size+1) 28 (.pointer (some ⟨g,0,none⟩)):=((HKS.out.2.2.1.alloc _).kept HG3.out.2 (HKS.out.2.2.1.not_row (by decide) hrow2)).other (B':=w.heap.size) (by omega) _;have hrow3:u64s (pre.map fun x=>jW C g sb x.1)++[Value.int .u64 (V:Int)]=u64s ((pre++[(⟨(xb,xo),hxm⟩:RtS C g fb sb)]).map fun x=>jW C g sb x.1):=by
     rw[List.map_append,Jd,List.map_cons,HPV.out];rfl
    have hfr:Fr (fun i=>v.ownBlock=some i\/i=w.heap.size) X (w3.setCell ⟨w.heap.size,0,none⟩ (.slice (some ⟨g3,0,none⟩) (pre.length+1) cap3)):=(((Fr.refl _ X).alloc _).grown HG3.out.2 (fun k hk=>.inl (.inl hk))).setCell (p:=⟨w.heap.size,0,none⟩) (.inl (.inr rfl)) _;refine⟨(HKS.out.2.1.trans HA3.out.2.2.1).from _,jaw HKS.out.1 (jaM HA.out (zqg _) hfr (fun i hi=>?_) fun _=>hbs3),⟨⟨_,HA3.out.1,by have:=HA3.out.2.1;rw[hrow3] at this;rw[zqm];exact this,trivial⟩,hbs3⟩,HKS.out.2.2.2.1.trans HA3.out.2.2.2⟩;rcases hi with q|q
    ·exact(hrow2.lt i q).1
    ·omega
 case done=>
  rintro D ys W' hD hys ⟨⟨⟨v,hv,hrow,_⟩,_⟩,hB⟩ hK;have hc:=hv.cell;have hys2:ys.map (fun x=>jW C g sb x.1)=j8 C:=by
   have h3:=congrArg (List.map (jW C g sb)) hys;rw[List.map_map,jba sp] at h3;exact h3
  rw[hys2] at hrow;have hl:ys.length=(j8 C).length:=by rw[<-hys2,List.length_map]
  rw[hl] at hrow;have HR:=hid hrow;have HB:=hid hB;have HKD:=hid hK;clear hrow hB hK hys hys2 hl;gi_wp2_with fail;refine⟨by simp,.inl ⟨_,_,rfl,run_takeDeferred HKD.out,?_⟩⟩;refine⟨_,results_tmp rfl _ _ _,⟨v,rfl,ownsRow_putObj HR.out (.deferred none) HKD.out rfl⟩,HB.out.trans (belowK_b (w:=w) (zqg _) W' D _ _ (by have:=HS2.out;omega) HKD.out rfl rfl)⟩
 case stop=>
  rintro D c pre W' _ _ h _;exact h.elim
end
end
