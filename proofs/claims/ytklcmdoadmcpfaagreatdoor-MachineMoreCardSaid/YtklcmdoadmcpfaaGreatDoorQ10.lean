/- A part of the proof of MachineMoves. Conditions: those that each theorem names. -/
import Derived.Test.YtklcmdoadmcpfaaGreatDoorQ08
import Derived.Test.YtklcmdoadmcpfaaGreatDoorQ09
set_option maxRecDepth 100000
set_option maxHeartbeats 400000000
namespace Go.Proofs.YtklcmdoadmcpfaaGreatDoor
open Go Go.RowKit IsaL
open Go.Lib(hid)
open Go.Proofs.Tryz(prog)
structure Fm where
 code:Nat
 place:Int
 lits:Nat
 ins:Nat
 base:Nat
structure CM where
 W:Nat
 S:Int
 h:Nat
 now:List Ob
 old:List Ob
 rg:Nat->Nat
 gl:Nat->Nat
 us:Nat
 cd:Nat
 va:Nat
 fr:List Fm
 sl:List Nat
 ha:List (Nat×Int)
def Fm.cells (f:Fm):List Value:=[.int .u64 (f.code:Int),.int .i64 f.place,.int .i64 (f.lits:Int),.int .i64 (f.ins:Int),.int .i64 (f.base:Int)]
def Jw:List Fm->List Value
 |[]=>[]
 |f::l=>f.cells++Jw l
def JY:List (Nat×Int)->List Value
 |[]=>[]
 |p::l=>[.int .i64 (p.1:Int),.int .i64 p.2]++JY l
theorem jr2 (a b:List Fm):Jw (a++b)=Jw a++Jw b:=by
 induction a with
 |nil=>rfl
 |cons f l ih=>show f.cells++Jw (l++b)=(f.cells++Jw l)++Jw b;rw[ih,List.append_assoc]
theorem jr9 (a b:List (Nat×Int)):JY (a++b)=JY a++JY b:=by
 induction a with
 |nil=>rfl
 |cons f l ih=>show _++JY (l++b)=(_++JY l)++JY b;rw[ih,List.append_assoc]
theorem jr3 {l:List Fm} {k:Nat} {f:Fm} (h:l[k]?=some f) (j:Nat) (v:Value) (hj:f.cells[j]?=some v):(Jw l)[k*5+j]?=some v:=by
 induction l generalizing k with
 |nil=>cases h
 |cons f0 l ih=>
  show(f0.cells++Jw l)[k*5+j]?=some v;cases k with
  |zero=>
   obtain rfl:f0=f:=by simpa using h
   rw[Nat.zero_mul,Nat.zero_add,zqo (zqb hj).1];exact hj
  |succ k=>
   have hl:f0.cells.length=5:=rfl;rw[zqn (by omega),hl,show(k+1)*5+j-5=k*5+j by omega];exact ih (by simpa using h)
theorem jsa {l:List (Nat×Int)} {k:Nat} {p:Nat×Int} (h:l[k]?=some p):(JY l)[k*2]?=some (.int .i64 (p.1:Int))/\(JY l)[k*2+1]?=some (.int .i64 p.2):=by
 induction l generalizing k with
 |nil=>cases h
 |cons f0 l ih=>
  cases k with
  |zero=>
   obtain rfl:f0=p:=by simpa using h
   exact⟨rfl,rfl⟩
  |succ k=>
   obtain⟨h1,h2⟩:=ih (k:=k) (by simpa using h);refine⟨?_,?_⟩
   ·show([_,_]++JY l)[(k+1)*2]?=_
    rw[zqn (by simp;omega)];simp only[List.length_cons,List.length_nil];rw[show(k+1)*2-(0+1+1)=k*2 by omega];exact h1
   ·show([_,_]++JY l)[(k+1)*2+1]?=_
    rw[zqn (by simp;omega)];simp only[List.length_cons,List.length_nil];rw[show(k+1)*2+1-(0+1+1)=k*2+1 by omega];exact h2
def mF (C:CM) (b:Nat) (vf vs vh:Value):Nat->Value:=fun j=>
 if j=0 then .pointer (some ⟨b,0,none⟩) else if j=1 then .int .i64 C.S else if j<18 then .int .u64 (C.rg (j-2):Int) else if j<1042 then .int .u64 (C.gl (j-18):Int) else if j=1042 then .int .i64 (C.us:Int) else if j=1043 then .int .u64 (C.cd:Int) else if j=1044 then .int .u64 (C.va:Int) else if j=1045 then vf else if j=1046 then vs else if j=1047 then vh else undef
def jG (f:Nat->Nat) (k v:Nat):Nat->Nat:=fun j=>if j=k then v else f j
section
variable (C:CM) (b:Nat) (vf vs vh:Value)
theorem jt3:mF C b vf vs vh 0=.pointer (some ⟨b,0,none⟩):=rfl
theorem jt6 (k:Nat) (hk:k<16):mF C b vf vs vh (2+k)=.int .u64 (C.rg k:Int):=by
 unfold mF;rw[if_neg (by omega),if_neg (by omega),if_pos (by omega),show 2+k-2=k by omega]
theorem jp3 (k:Nat) (hk:k<1024):mF C b vf vs vh (18+k)=.int .u64 (C.gl k:Int):=by
 unfold mF;rw[if_neg (by omega),if_neg (by omega),if_neg (by omega),if_pos (by omega),show 18+k-18=k by omega]
theorem jvh:mF C b vf vs vh 1044=.int .u64 (C.va:Int):=rfl
theorem jt7 (k v:Nat) (hk:k<16):zt (mF C b vf vs vh) (2+k) (.int .u64 (v:Int))=mF {C with rg:=jG C.rg k v} b vf vs vh:=by
 funext j;unfold zt;by_cases h:j=2+k
 ·subst h
  rw[if_pos rfl,jt6 _ _ _ _ _ k hk];show _=Value.int .u64 (jG C.rg k v k:Int);unfold jG;rw[if_pos rfl]
 ·rw[if_neg h]
  unfold mF;by_cases h2:j<18
  ·by_cases h0:j=0
   ·rw[if_pos h0,if_pos h0]
   ·by_cases h1:j=1
    ·rw[if_neg h0,if_neg h0,if_pos h1,if_pos h1]
    ·rw[if_neg h0,if_neg h0,if_neg h1,if_neg h1,if_pos h2,if_pos h2]
     show _=Value.int .u64 (jG C.rg k v (j-2):Int);unfold jG;rw[if_neg (by omega)]
  ·rw[if_neg (c:=j<18) h2,if_neg (c:=j<18) h2]
theorem jsv (k v:Nat) (hk:k<1024):zt (mF C b vf vs vh) (18+k) (.int .u64 (v:Int))=mF {C with gl:=jG C.gl k v} b vf vs vh:=by
 funext j;unfold zt;by_cases h:j=18+k
 ·subst h
  rw[if_pos rfl,jp3 _ _ _ _ _ k hk];show _=Value.int .u64 (jG C.gl k v k:Int);unfold jG;rw[if_pos rfl]
 ·rw[if_neg h]
  unfold mF;by_cases h2:j<18
  ·by_cases h0:j=0
   ·rw[if_pos h0,if_pos h0]
   ·by_cases h1:j=1
    ·rw[if_neg h0,if_neg h0,if_pos h1,if_pos h1]
    ·rw[if_neg h0,if_neg h0,if_neg h1,if_neg h1,if_pos h2,if_pos h2]
  ·rw[if_neg (c:=j<18) h2,if_neg (c:=j<18) h2]
   by_cases h3:j<1042
   ·rw[if_pos h3,if_pos h3,if_neg (by omega),if_neg (by omega),if_neg (by omega),if_neg (by omega)]
    show _=Value.int .u64 (jG C.gl k v (j-18):Int);unfold jG;rw[if_neg (by omega)]
   ·rw[if_neg h3,if_neg h3]
theorem jbI (j:Nat) (v:Value) (C':CM) (vf' vs' vh':Value) (h1:C'.S=C.S) (h2:C'.rg=C.rg) (h3:C'.gl=C.gl) (hv:mF C' b vf' vs' vh' j=v) (ho:∀i,1042<=i->i≠j->mF C' b vf' vs' vh' i=mF C b vf vs vh i):zt (mF C b vf vs vh) j v=mF C' b vf' vs' vh':=by
 funext i;unfold zt;by_cases h:i=j
 ·rw[if_pos h,h,hv]
 ·rw[if_neg h]
  by_cases hi:1042<=i
  ·exact(ho i hi h).symm
  ·unfold mF
   rw[h1,h2,h3,if_pos (c:=i<1042) (by omega),if_pos (c:=i<1042) (by omega)]
theorem jsw (v:Nat):zt (mF C b vf vs vh) 1042 (.int .i64 (v:Int))=mF {C with us:=v} b vf vs vh:=
 jbI C b vf vs vh 1042 _ _ _ _ _ rfl rfl rfl rfl fun i h1 h2=>by unfold mF;rw[if_neg (c:=i=1042) h2,if_neg (c:=i=1042) h2]
theorem jsu (v:Nat):zt (mF C b vf vs vh) 1043 (.int .u64 (v:Int))=mF {C with cd:=v} b vf vs vh:=
 jbI C b vf vs vh 1043 _ _ _ _ _ rfl rfl rfl rfl fun i h1 h2=>by unfold mF;rw[if_neg (c:=i=1043) h2,if_neg (c:=i=1043) h2]
theorem jp4 (v:Nat):zt (mF C b vf vs vh) 1044 (.int .u64 (v:Int))=mF {C with va:=v} b vf vs vh:=
 jbI C b vf vs vh 1044 _ _ _ _ _ rfl rfl rfl rfl fun i h1 h2=>by unfold mF;rw[if_neg (c:=i=1044) h2,if_neg (c:=i=1044) h2]
theorem ja9 (v:Value):zt (mF C b vf vs vh) 1045 v=mF C b v vs vh:=
 jbI C b vf vs vh 1045 _ _ _ _ _ rfl rfl rfl rfl fun i h1 h2=>by unfold mF;rw[if_neg (c:=i=1045) h2,if_neg (c:=i=1045) h2]
theorem jb8 (v:Value):zt (mF C b vf vs vh) 1046 v=mF C b vf v vh:=
 jbI C b vf vs vh 1046 _ _ _ _ _ rfl rfl rfl rfl fun i h1 h2=>by unfold mF;rw[if_neg (c:=i=1046) h2,if_neg (c:=i=1046) h2]
theorem QN (v:Value):zt (mF C b vf vs vh) 1047 v=mF C b vf vs v:=
 jbI C b vf vs vh 1047 _ _ _ _ _ rfl rfl rfl rfl fun i h1 h2=>by unfold mF;rw[if_neg (c:=i=1047) h2,if_neg (c:=i=1047) h2]
end
structure McAt (O:Nat->Prop) (w:World) (g:Nat) (C:CM) (b:Nat) (R:Nat->Value) (vf vs vh:Value):Prop where
 bx:Bx w g (mF C b vf vs vh)
 m:zi w b C.W C.h R C.now C.old
 z:WF C.W C.h C.now C.old
 of:w.ownsRow 0 112 5 vf C.fr.length (Jw C.fr)
 os:w.ownsRow 0 65 1 vs C.sl.length (u64s C.sl)
 oh:w.ownsRow 0 116 2 vh C.ha.length (JY C.ha)
 og:O g
 om:∀i,Own b R i->O i
 o1:∀i,vf.ownBlock=some i->O i
 o2:∀i,vs.ownBlock=some i->O i
 o3:∀i,vh.ownBlock=some i->O i
 gm:¬Own b R g
 g1:vf.ownBlock≠some g
 g2:vs.ownBlock≠some g
 g3:vh.ownBlock≠some g
 m1:∀i,vf.ownBlock=some i->¬Own b R i
 m2:∀i,vs.ownBlock=some i->¬Own b R i
 m3:∀i,vh.ownBlock=some i->¬Own b R i
 s12:∀i,vf.ownBlock=some i->vs.ownBlock≠some i
 s13:∀i,vf.ownBlock=some i->vh.ownBlock≠some i
 s23:∀i,vs.ownBlock=some i->vh.ownBlock≠some i
theorem jd {w w1:World} {O:Nat->Prop} (h:Fr O w w1) {B k:Nat} {e:TypeId} {v:Value} {n:Nat} {xs:List Value} (hr:w.ownsRow B e k v n xs) (hn:∀g,v.ownBlock=some g->¬O g):w1.ownsRow B e k v n xs:=by
 refine⟨hr.1,?_⟩;rcases hr.2 with h0|⟨g,cap,cur,rfl,hb,hg,hc⟩
 ·exact .inl h0
 ·exact .inr ⟨g,cap,cur,rfl,hb,(h.block g (zqa hg).1 (hn g rfl)).trans hg,hc⟩
section
variable {O:Nat->Prop} {w w1:World} {g b:Nat} {C:CM} {R:Nat->Value} {vf vs vh:Value}
section
variable (a:McAt O w g C b R vf vs vh)
include a
theorem McAt.kept {P:Nat->Prop} (hf:Fr P w w1) (hg:¬P g) (hm:∀i,Own b R i->¬P i) (h1:∀i,vf.ownBlock=some i->¬P i) (h2:∀i,vs.ownBlock=some i->¬P i) (h3:∀i,vh.ownBlock=some i->¬P i):McAt O w1 g C b R vf vs vh:=
 {a with bx:=a.bx.fr hf hg,m:=a.m.kept hf hm,of:=jd hf a.of h1,os:=jd hf a.os h2,oh:=jd hf a.oh h3}
theorem McAt.below (hb:Below w.heap.size w w1):McAt O w1 g C b R vf vs vh:=
 a.kept (Fr.of_below (O:=fun _=>False) hb) id (fun _ _=>id) (fun _ _=>id) (fun _ _=>id) (fun _ _=>id)
theorem McAt.drewN (n:Nat):McAt O (w.drewN n) g C b R vf vs vh:=a.kept ((Fr.refl (fun _=>False) w).drewN n) id (fun _ _=>id) (fun _ _=>id) (fun _ _=>id) (fun _ _=>id)
theorem McAt.put (j:Nat) (v:Value) {C':CM} (hF:zt (mF C b vf vs vh) j v=mF C' b vf vs vh) (e1:C'.W=C.W) (e2:C'.h=C.h) (e3:C'.now=C.now) (e4:C'.old=C.old) (e5:C'.fr=C.fr) (e6:C'.sl=C.sl) (e7:C'.ha=C.ha):McAt O (w.setCell ⟨g,j,none⟩ v) g C' b R vf vs vh:=by
 have hfr:Fr (·=g) w (w.setCell ⟨g,j,none⟩ v):=(Fr.refl (·=g) w).setCell (p:=⟨g,j,none⟩) (.inl rfl) v;have hb:=a.bx.set j v;rw[hF] at hb;exact⟨hb,by rw[e1,e2,e3,e4];exact a.m.kept hfr (fun i hi e=>a.gm (e▸hi)),by rw[e1,e2,e3,e4];exact a.z,
  by rw[e5];exact jd hfr a.of (fun i hi e=>a.g1 (by rw[hi,e])),by rw[e6];exact jd hfr a.os (fun i hi e=>a.g2 (by rw[hi,e])),by rw[e7];exact jd hfr a.oh (fun i hi e=>a.g3 (by rw[hi,e])),
  a.og,a.om,a.o1,a.o2,a.o3,a.gm,a.g1,a.g2,a.g3,a.m1,a.m2,a.m3,a.s12,a.s13,a.s23⟩
theorem McAt.reg {k:Nat} (hk:k<16) (v:Nat):McAt O (w.setCell ⟨g,2+k,none⟩ (.int .u64 (v:Int))) g {C with rg:=jG C.rg k v} b R vf vs vh:=
 a.put (2+k) _ (jt7 C b vf vs vh k v hk) rfl rfl rfl rfl rfl rfl rfl
theorem McAt.glob {k:Nat} (hk:k<1024) (v:Nat):McAt O (w.setCell ⟨g,18+k,none⟩ (.int .u64 (v:Int))) g {C with gl:=jG C.gl k v} b R vf vs vh:=
 a.put (18+k) _ (jsv C b vf vs vh k v hk) rfl rfl rfl rfl rfl rfl rfl
theorem McAt.used (v:Nat):McAt O (w.setCell ⟨g,1042,none⟩ (.int .i64 (v:Int))) g {C with us:=v} b R vf vs vh:=
 a.put 1042 _ (jsw C b vf vs vh v) rfl rfl rfl rfl rfl rfl rfl
theorem McAt.code (v:Nat):McAt O (w.setCell ⟨g,1043,none⟩ (.int .u64 (v:Int))) g {C with cd:=v} b R vf vs vh:=
 a.put 1043 _ (jsu C b vf vs vh v) rfl rfl rfl rfl rfl rfl rfl
theorem McAt.value (v:Nat):McAt O (w.setCell ⟨g,1044,none⟩ (.int .u64 (v:Int))) g {C with va:=v} b R vf vs vh:=
 a.put 1044 _ (jp4 C b vf vs vh v) rfl rfl rfl rfl rfl rfl rfl
theorem McAt.regc {k:Nat} (hk:k<16):w.cell? ⟨g,2+k,none⟩=some (.int .u64 (C.rg k:Int)):=by
 rw[a.bx.cell (by omega),jt6 _ _ _ _ _ k hk]
theorem McAt.globc {k:Nat} (hk:k<1024):w.cell? ⟨g,18+k,none⟩=some (.int .u64 (C.gl k:Int)):=by
 rw[a.bx.cell (by omega),jp3 _ _ _ _ _ k hk]
theorem McAt.c0:w.cell? ⟨g,0,none⟩=some (.pointer (some ⟨b,0,none⟩)):=a.bx.cell (j:=0) (by omega)
theorem McAt.c1:w.cell? ⟨g,1,none⟩=some (.int .i64 C.S):=a.bx.cell (j:=1) (by omega)
theorem McAt.cus:w.cell? ⟨g,1042,none⟩=some (.int .i64 (C.us:Int)):=a.bx.cell (j:=1042) (by omega)
theorem McAt.ccd:w.cell? ⟨g,1043,none⟩=some (.int .u64 (C.cd:Int)):=a.bx.cell (j:=1043) (by omega)
theorem McAt.cva:w.cell? ⟨g,1044,none⟩=some (.int .u64 (C.va:Int)):=a.bx.cell (j:=1044) (by omega)
theorem McAt.cf:w.cell? ⟨g,1045,none⟩=some vf:=a.bx.cell (j:=1045) (by omega)
theorem McAt.cs:w.cell? ⟨g,1046,none⟩=some vs:=a.bx.cell (j:=1046) (by omega)
theorem McAt.ch:w.cell? ⟨g,1047,none⟩=some vh:=a.bx.cell (j:=1047) (by omega)
theorem McAt.fz (j:Nat):w.frozen? ⟨g,j,none⟩=false:=a.bx.frozen j
theorem McAt.fcell {k fg n c:Nat} {f:Fm} (hv:vf=.slice (some ⟨fg,0,none⟩) n c) (hk:C.fr[k]?=some f) {j:Nat} {v:Value} (hj:f.cells[j]?=some v):w.cell? ⟨fg,k*5+j,none⟩=some v:=by
 subst hv;have hl:=(zqb hk).1;have hj5:=(zqb hj).1;have e5:f.cells.length=5:=rfl;have hof:=a.of;have hn:n=C.fr.length:=by
  rcases hof.2 with⟨h,_⟩|⟨g',cap',cur,h,_⟩
  ·cases h
  ·injection h
 subst hn;rw[hof.cellAt (k*5+j) (by omega)];exact jr3 hk j v hj
theorem McAt.fshape (h:0<C.fr.length):∃fg c,vf=.slice (some ⟨fg,0,none⟩) C.fr.length c:=by
 obtain⟨fg,c,h1,_⟩:=a.of.form h;exact⟨fg,c,h1⟩
end
end
theorem jH {w:World} {B k:Nat} {e:TypeId} {v:Value} {n:Nat} {xs:List Value} (h:w.ownsRow B e k v n xs):∃a c,v=.slice a n c/\n<=c:=by
 rcases h.2 with⟨rfl,rfl⟩|⟨g,cap,cur,rfl,_,_,hc,_⟩
 ·exact⟨none,0,rfl,zqg _⟩
 ·exact⟨_,cap,rfl,hc⟩
theorem jv {n:Int} (h0: -9223372036854775808<=n) (h1:n<=9223372036854775807):IntKind.i64.wrap n=n:=by rw[IntKind.wrap_i64];omega
section
variable {O:Nat->Prop} {w w1:World} {g b:Nat} {C:CM} {R:Nat->Value} {vf vs vh:Value}
section
variable (a:McAt O w g C b R vf vs vh)
include a
theorem jct {k fg c:Nat} (hv:vf=.slice (some ⟨fg,0,none⟩) (k+1) c) (hk:k<=65536):Calls prog 89 #[.pointer (some ⟨g,0,none⟩)] w fun e w'=>e=.returned (.pointer (some ⟨fg,k*5,none⟩))/\∃n,w'=w.drewN n:=by
 have c0:=a.cf;rw[hv] at c0;obtain⟨K,hK⟩:∃K,k+1=K:=⟨_,rfl⟩;rw[hK] at c0;have e1:(K:Int)-1=(k:Int):=by omega
 have e2:=jv (n:=(k:Int)) (by omega) (by omega);have b0:(0:Int)<=(k:Int):=by omega
 have b1:(k:Int)<(K:Int):=by omega
 clear a hv hK hk;go_enter Tryz.func89,Tryz.ntmps89;go_wp2_with fail;go_quiet (fail);go_wp2_with fail;go_ret;exact⟨rfl,_,rfl⟩
theorem jhK (n:Int) (h1:C.fr.length<=65536) (h2:C.sl.length<=65536) (h3:C.ha.length<=65536) (n0: -9000000000<=n) (n1:n<=9000000000):Calls prog 143 #[.pointer (some ⟨g,0,none⟩),.int .i64 n] w fun e w'=>e=.returned (.bool (decide (3*(C.fr.length:Int)+C.sl.length+3*C.ha.length+n<=C.S)))/\∃q,w'=w.drewN q:=by
 obtain⟨a1,k1,e1,_⟩:=jH a.of;obtain⟨a2,k2,e2,_⟩:=jH a.os;obtain⟨a3,k3,e3,_⟩:=jH a.oh;have c1:=a.cf;have c2:=a.cs;have c3:=a.ch;have c4:=a.c1;rw[e1] at c1;rw[e2] at c2;rw[e3] at c3;obtain⟨X,hX⟩:∃X,C.fr.length=X:=⟨_,rfl⟩;obtain⟨Y,hY⟩:∃Y,C.sl.length=Y:=⟨_,rfl⟩;obtain⟨Z,hZ⟩:∃Z,C.ha.length=Z:=⟨_,rfl⟩;rw[hX] at c1 h1 ⊢;rw[hY] at c2 h2 ⊢;rw[hZ] at c3 h3 ⊢;have f1:=jv (n:=3*(X:Int)) (by omega) (by omega);have f2:=jv (n:=3*(X:Int)+(Y:Int)) (by omega) (by omega);have f3:=jv (n:=3*(Z:Int)) (by omega) (by omega);have f4:=jv (n:=3*(X:Int)+(Y:Int)+3*(Z:Int)) (by omega) (by omega);have f5:=jv (n:=3*(X:Int)+(Y:Int)+3*(Z:Int)+n) (by omega) (by omega);clear a e1 e2 e3 hX hY hZ h1 h2 h3 n0 n1;go_enter Tryz.func143,Tryz.ntmps143;go_wp2_with fail;go_quiet (fail);go_wp2_with fail;go_ret;exact⟨rfl,_,rfl⟩
theorem ji9 (h:C.ha=[]):Calls prog 144 #[.pointer (some ⟨g,0,none⟩)] w fun e w'=>e=.returned (.bool false)/\∃q,w'=w.drewN q:=by
 obtain⟨a3,k3,e3,_⟩:=jH a.oh;have c3:=a.ch;rw[e3,h] at c3;have c3':w.cell? ⟨g,1047,none⟩=some (.slice a3 0 k3):=c3;clear a e3 c3 h;go_enter Tryz.func144,Tryz.ntmps144;go_wp2_with fail;go_quiet (fail);go_wp2_with fail;go_ret;exact⟨rfl,_,rfl⟩
theorem McAt.hcell {k hg n c:Nat} {p:Nat×Int} (hv:vh=.slice (some ⟨hg,0,none⟩) n c) (hk:C.ha[k]?=some p):w.cell? ⟨hg,k*2,none⟩=some (.int .i64 (p.1:Int))/\w.cell? ⟨hg,k*2+1,none⟩=some (.int .i64 p.2):=by
 subst hv;have hl:=(zqb hk).1;have hof:=a.oh;have hn:n=C.ha.length:=by
  rcases hof.2 with⟨h,_⟩|⟨g',cap',cur,h,_⟩
  ·cases h
  ·injection h
 subst hn;rw[hof.cellAt (k*2) (by omega),hof.cellAt (k*2+1) (by omega)];exact jsa hk
theorem jhP {hs:List (Nat×Int)} {p:Nat×Int} (h:C.ha=hs++[p]) (h1:C.fr.length<=65536) (h3:C.ha.length<=65536):Calls prog 144 #[.pointer (some ⟨g,0,none⟩)] w fun e w'=>e=.returned (.bool (decide ((p.1:Int)=(C.fr.length:Int)-1)))/\∃q,w'=w.drewN q:=by
 obtain⟨a1,k1,e1,_⟩:=jH a.of;have hl:C.ha.length=hs.length+1:=by rw[h];simp
 obtain⟨hg,hc,e3,_⟩:=a.oh.form (by omega);have c1:=a.cf;have c3:=a.ch;have hp:=(a.hcell e3 (k:=hs.length) (p:=p) (by rw[h];simp)).1;rw[e1] at c1;rw[e3,hl] at c3;rw[hl] at h3;obtain⟨X,hX⟩:∃X,C.fr.length=X:=⟨_,rfl⟩;obtain⟨k,hk⟩:∃k,hs.length=k:=⟨_,rfl⟩;rw[hX] at c1 h1 ⊢;rw[hk] at c3 hp h3;obtain⟨K,hK⟩:∃K,k+1=K:=⟨_,rfl⟩;rw[hK] at c3 h3;have f1:(K:Int)-1=(k:Int):=by omega
 have f2:=jv (n:=(k:Int)) (by omega) (by omega);have f3:=jv (n:=(X:Int)-1) (by omega) (by omega);have b0:(0:Int)<=(k:Int):=by omega
 have b1:(k:Int)<(K:Int):=by omega
 have b2:decide (0<K)=true:=zqr (by omega);obtain⟨P,hP⟩:∃P:Int,(p.1:Int)=P:=⟨_,rfl⟩;rw[hP] at hp ⊢;have heq:(P==(X:Int)-1)=decide (P=(X:Int)-1):=by rw[Bool.eq_iff_iff];simp
 clear a e1 e3 hX hk hK h1 h3 h hl hP;go_enter Tryz.func144,Tryz.ntmps144;go_wp2_with fail;go_quiet (fail);go_wp2_with fail;go_ret;exact⟨by first|rfl|rw[heq],_,rfl⟩
theorem jls {x:Nat} (hx:x<18446744073709551616) {j:Nat} {o:Ob} (hj:jl C.now C.h C.W (jc (x:Int))=some j) (ho:C.now[j]?=some o):Calls prog 133 #[.pointer (some ⟨g,0,none⟩),.int .u64 (x:Int)] w fun e w'=>e=.returned (.tuple #[.int .i64 (jc (x:Int)),.int .i64 (o.k:Int)])/\∃q,w'=w.drewN q:=by
 have c0:=a.c0;have hp:jc (x:Int)<=9223372036854775807:=by unfold jc;split<;>omega
 have HT:=hid (jQ (x:Int) w (by omega) (by omega));have HL:=hid (ja8 (s:=⟨C.now,C.old⟩) a.m a.z (jc (x:Int)) hp);have hl:qk C.h C.W ⟨C.now,C.old⟩ (jc (x:Int))=(o.k,o.ws.length,o.t,0):=by
  unfold qk;simp only[hj,ZT ho]
 rw[hl] at HL;obtain⟨A,hA⟩:∃A,jc (x:Int)=A:=⟨_,rfl⟩;rw[hA] at HT HL ⊢;clear a hj ho hl hA hp hx;go_enter Tryz.func133,Tryz.ntmps133;go_wp2_with fail;refine HT.out.mono ?_;rintro e w' ⟨rfl,rfl⟩;go_wp2_with fail;refine HL.out.mono ?_;rintro e w' ⟨rfl,q,rfl⟩;go_wp2_with fail;go_ret2;exact⟨rfl,q,rfl⟩
theorem jjc {x:Nat} (hx:x<18446744073709551616) (hj:jl C.now C.h C.W (jc (x:Int))=none):Calls prog 133 #[.pointer (some ⟨g,0,none⟩),.int .u64 (x:Int)] w fun e w'=>e=.returned (.tuple #[.int .i64 0,.int .i64 0])/\∃q,w'=w.drewN q:=by
 have c0:=a.c0;have hp:jc (x:Int)<=9223372036854775807:=by unfold jc;split<;>omega
 have HT:=hid (jQ (x:Int) w (by omega) (by omega));have HL:=hid (ja8 (s:=⟨C.now,C.old⟩) a.m a.z (jc (x:Int)) hp);have hl:qk C.h C.W ⟨C.now,C.old⟩ (jc (x:Int))=(0,0,0,20):=by
  unfold qk;simp only[hj]
 rw[hl] at HL;obtain⟨A,hA⟩:∃A,jc (x:Int)=A:=⟨_,rfl⟩;rw[hA] at HT HL;clear a hj hl hA hp hx;go_enter Tryz.func133,Tryz.ntmps133;go_wp2_with fail;refine HT.out.mono ?_;rintro e w' ⟨rfl,rfl⟩;go_wp2_with fail;refine HL.out.mono ?_;rintro e w' ⟨rfl,q,rfl⟩;go_wp2_with fail;go_ret2;exact⟨rfl,q,rfl⟩
theorem jjD (A:Int) (hA:A<=9223372036854775807) (i:Nat):Calls prog 126 #[.pointer (some ⟨g,0,none⟩),.int .i64 A,.int .i64 i] w fun e w'=>e=.returned (.int .u64 ((qY C.h C.W ⟨C.now,C.old⟩ A i).1:Nat))/\∃q,w'=w.drewN q:=by
 have c0:=a.c0;have HL:=hid (jge (s:=⟨C.now,C.old⟩) a.m a.z A hA i);clear a hA;go_enter Tryz.func126,Tryz.ntmps126;go_wp2_with fail;refine HL.out.mono ?_;rintro e w' ⟨rfl,q,rfl⟩;go_wp2_with fail;go_ret;exact⟨rfl,q,rfl⟩
end
end
theorem jd9 {w:World} {B k fg n c m:Nat} {e:TypeId} {xs:List Value} (h:w.ownsRow B e k (.slice (some ⟨fg,0,none⟩) n c) n xs) (hm:m<=n):w.ownsRow B e k (.slice (some ⟨fg,0,none⟩) m c) m (xs.take (m*k)):=by
 refine⟨by rw[List.length_take,h.1,Nat.min_eq_left (Nat.mul_le_mul_right _ hm)],?_⟩;rcases h.2 with⟨h0,_⟩|⟨g,cap,cur,h0,h1,h2,h3,h4,h5,h6⟩
 ·cases h0
 ·injection h0 with q1 _ q3
  injection q1 with q1;injection q1 with q1;subst q1 q3;exact .inr ⟨fg,c,cur,rfl,h1,h2,zqs hm h3,h4,h5,by rw[<-h6,List.take_take,Nat.min_eq_left (Nat.mul_le_mul_right _ hm)]⟩
theorem jay {w:World} {B k n c:Nat} {a:Option Addr} {e:TypeId} {v:Value} {xs:List Value} (h:w.ownsRow B e k v n xs) (hv:v=.slice a n c):n<=c:=by
 obtain⟨a',c',h1,h2⟩:=jH h;rw[h1] at hv;injection hv with _ _ q;omega
theorem jpy (l:List Fm) (m:Nat):(Jw l).take (m*5)=Jw (l.take m):=by
 induction l generalizing m with
 |nil=>cases m<;>simp[Jw]
 |cons f l ih=>
  cases m with
  |zero=>simp[Jw]
  |succ m=>
   show(f.cells++Jw l).take ((m+1)*5)=f.cells++Jw (l.take m);have e5:f.cells.length=5:=rfl;rw[List.take_append,zqp (by omega),e5,show(m+1)*5-5=m*5 by omega,ih]
theorem jpB (l:List (Nat×Int)) (m:Nat):(JY l).take (m*2)=JY (l.take m):=by
 induction l generalizing m with
 |nil=>cases m<;>simp[JY]
 |cons f l ih=>
  cases m with
  |zero=>simp[JY]
  |succ m=>
   show(([Value.int .i64 (f.1:Int),Value.int .i64 f.2]:List Value)++JY l).take ((m+1)*2)=([Value.int .i64 (f.1:Int),Value.int .i64 f.2]:List Value)++JY (l.take m);rw[List.take_append,zqp (by simp;omega)];congr 1;simp only[List.length_cons,List.length_nil];rw[show(m+1)*2-(0+1+1)=m*2 by omega,ih]
theorem joQ (l:List Nat) (m:Nat):(u64s l).take (m*1)=u64s (l.take m):=by unfold u64s;rw[Nat.mul_one,List.map_take]
section
variable {O:Nat->Prop} {w w1:World} {g b:Nat} {C:CM} {R:Nat->Value} {vf vs vh:Value}
section
variable (a:McAt O w g C b R vf vs vh)
include a
theorem McAt.setFr (v:Value) (l:List Fm) (hv:w.ownsRow 0 112 5 v l.length (Jw l)) (hc:∀i,v.ownBlock=some i->O i/\i≠g/\¬Own b R i/\vs.ownBlock≠some i/\vh.ownBlock≠some i):McAt O (w.setCell ⟨g,1045,none⟩ v) g {C with fr:=l} b R v vs vh:=by
 have hfr:Fr (·=g) w (w.setCell ⟨g,1045,none⟩ v):=(Fr.refl (·=g) w).setCell (p:=⟨g,1045,none⟩) (.inl rfl) v;have hb:=a.bx.set 1045 v;rw[ja9] at hb;exact⟨hb,a.m.kept hfr (fun i hi e=>a.gm (e▸hi)),a.z,jd hfr hv (fun i hi e=>(hc i hi).2.1 e),jd hfr a.os (fun i hi e=>a.g2 (by rw[hi,e])),jd hfr a.oh (fun i hi e=>a.g3 (by rw[hi,e])),a.og,a.om,fun i hi=>(hc i hi).1,a.o2,a.o3,a.gm,fun e=>(hc g e).2.1 rfl,a.g2,a.g3,fun i hi=>(hc i hi).2.2.1,a.m2,a.m3,fun i hi=>(hc i hi).2.2.2.1,fun i hi=>(hc i hi).2.2.2.2,a.s23⟩
theorem McAt.setSl (v:Value) (l:List Nat) (hv:w.ownsRow 0 65 1 v l.length (u64s l)) (hc:∀i,v.ownBlock=some i->O i/\i≠g/\¬Own b R i/\vf.ownBlock≠some i/\vh.ownBlock≠some i):McAt O (w.setCell ⟨g,1046,none⟩ v) g {C with sl:=l} b R vf v vh:=by
 have hfr:Fr (·=g) w (w.setCell ⟨g,1046,none⟩ v):=(Fr.refl (·=g) w).setCell (p:=⟨g,1046,none⟩) (.inl rfl) v;have hb:=a.bx.set 1046 v;rw[jb8] at hb;exact⟨hb,a.m.kept hfr (fun i hi e=>a.gm (e▸hi)),a.z,jd hfr a.of (fun i hi e=>a.g1 (by rw[hi,e])),jd hfr hv (fun i hi e=>(hc i hi).2.1 e),jd hfr a.oh (fun i hi e=>a.g3 (by rw[hi,e])),a.og,a.om,a.o1,fun i hi=>(hc i hi).1,a.o3,a.gm,a.g1,fun e=>(hc g e).2.1 rfl,a.g3,a.m1,fun i hi=>(hc i hi).2.2.1,a.m3,fun i hi e=>(hc i e).2.2.2.1 hi,a.s13,fun i hi=>(hc i hi).2.2.2.2⟩
theorem McAt.setHa (v:Value) (l:List (Nat×Int)) (hv:w.ownsRow 0 116 2 v l.length (JY l)) (hc:∀i,v.ownBlock=some i->O i/\i≠g/\¬Own b R i/\vf.ownBlock≠some i/\vs.ownBlock≠some i):McAt O (w.setCell ⟨g,1047,none⟩ v) g {C with ha:=l} b R vf vs v:=by
 have hfr:Fr (·=g) w (w.setCell ⟨g,1047,none⟩ v):=(Fr.refl (·=g) w).setCell (p:=⟨g,1047,none⟩) (.inl rfl) v;have hb:=a.bx.set 1047 v;rw[QN] at hb;exact⟨hb,a.m.kept hfr (fun i hi e=>a.gm (e▸hi)),a.z,jd hfr a.of (fun i hi e=>a.g1 (by rw[hi,e])),jd hfr a.os (fun i hi e=>a.g2 (by rw[hi,e])),jd hfr hv (fun i hi e=>(hc i hi).2.1 e),a.og,a.om,a.o1,a.o2,fun i hi=>(hc i hi).1,a.gm,a.g1,a.g2,fun e=>(hc g e).2.1 rfl,a.m1,a.m2,fun i hi=>(hc i hi).2.2.1,a.s12,fun i hi e=>(hc i e).2.2.2.1 hi,fun i hi e=>(hc i e).2.2.2.2 hi⟩
theorem McAt.cutFr {fg n c k:Nat} (hv:vf=.slice (some ⟨fg,0,none⟩) n c) (hn:C.fr.length=n) (hk:k<=n):McAt O (w.setCell ⟨g,1045,none⟩ (.slice (some ⟨fg,0,none⟩) k c)) g {C with fr:=C.fr.take k} b R (.slice (some ⟨fg,0,none⟩) k c) vs vh:=by
 have hof:=a.of;rw[hv,hn] at hof;have h2:=jd9 hof hk;rw[jpy] at h2;have hl:(C.fr.take k).length=k:=by rw[List.length_take];omega
 have hb:∀i,(Value.slice (some ⟨fg,0,none⟩) k c).ownBlock=some i->vf.ownBlock=some i:=fun i hi=>by rw[hv];exact hi
 exact a.setFr _ _ (by rw[hl];exact h2) (fun i hi=>⟨a.o1 i (hb i hi),fun e=>a.g1 (by rw[hb i hi,e]),a.m1 i (hb i hi),a.s12 i (hb i hi),a.s13 i (hb i hi)⟩)
theorem McAt.cutSl {fg n c k:Nat} (hv:vs=.slice (some ⟨fg,0,none⟩) n c) (hn:C.sl.length=n) (hk:k<=n):McAt O (w.setCell ⟨g,1046,none⟩ (.slice (some ⟨fg,0,none⟩) k c)) g {C with sl:=C.sl.take k} b R vf (.slice (some ⟨fg,0,none⟩) k c) vh:=by
 have hof:=a.os;rw[hv,hn] at hof;have h2:=jd9 hof hk;rw[joQ] at h2;have hl:(C.sl.take k).length=k:=by rw[List.length_take];omega
 have hb:∀i,(Value.slice (some ⟨fg,0,none⟩) k c).ownBlock=some i->vs.ownBlock=some i:=fun i hi=>by rw[hv];exact hi
 exact a.setSl _ _ (by rw[hl];exact h2) (fun i hi=>⟨a.o2 i (hb i hi),fun e=>a.g2 (by rw[hb i hi,e]),a.m2 i (hb i hi),fun e=>a.s12 i e (hb i hi),a.s23 i (hb i hi)⟩)
theorem McAt.cutHa {fg n c k:Nat} (hv:vh=.slice (some ⟨fg,0,none⟩) n c) (hn:C.ha.length=n) (hk:k<=n):McAt O (w.setCell ⟨g,1047,none⟩ (.slice (some ⟨fg,0,none⟩) k c)) g {C with ha:=C.ha.take k} b R vf vs (.slice (some ⟨fg,0,none⟩) k c):=by
 have hof:=a.oh;rw[hv,hn] at hof;have h2:=jd9 hof hk;rw[jpB] at h2;have hl:(C.ha.take k).length=k:=by rw[List.length_take];omega
 have hb:∀i,(Value.slice (some ⟨fg,0,none⟩) k c).ownBlock=some i->vh.ownBlock=some i:=fun i hi=>by rw[hv];exact hi
 exact a.setHa _ _ (by rw[hl];exact h2) (fun i hi=>⟨a.o3 i (hb i hi),fun e=>a.g3 (by rw[hb i hi,e]),a.m3 i (hb i hi),fun e=>a.s13 i e (hb i hi),fun e=>a.s23 i e (hb i hi)⟩)
theorem McAt.nilSl:McAt O (w.setCell ⟨g,1046,none⟩ (.slice none 0 0)) g {C with sl:=[]} b R vf (.slice none 0 0) vh:=
 a.setSl _ [] ⟨rfl,.inl ⟨rfl,rfl⟩⟩ (fun i hi=>by cases hi)
theorem jtR {k:Nat} {f:Fm} (hf:C.fr[k]?=some f) (hb:f.base<=C.sl.length) (h1:C.fr.length<=65536):
  Calls prog 125 #[.pointer (some ⟨g,0,none⟩),.int .i64 k] w fun e w'=>(∃v,e=.returned v)/\(∃vf' vs',McAt O w' g {C with fr:=C.fr.take k,sl:=C.sl.take f.base} b R vf' vs' vh)/\Fr (·=g) w w':=by
 have hkl:=(zqb hf).1;obtain⟨fg,fc,e1⟩:=a.fshape (by omega);have f4:=a.fcell e1 hf (j:=4) rfl;have c1:=a.cf;have c2:=a.cs;have z1:=a.fz 1045;have z2:=a.fz 1046;have hne1:fg≠g:=fun e=>a.g1 (by rw[e1,e];rfl);have hne2:g≠fg:=Ne.symm hne1;rw[e1] at c1;obtain⟨X,hX⟩:∃X,C.fr.length=X:=⟨_,rfl⟩;obtain⟨B,hB⟩:∃B,f.base=B:=⟨_,rfl⟩;obtain⟨Y,hY⟩:∃Y,C.sl.length=Y:=⟨_,rfl⟩;rw[hX] at c1 h1 e1 hkl;rw[hB] at f4 hb ⊢;rw[hY] at hb;have b0:(0:Int)<=(k:Int):=by omega
 have b1:(k:Int)<(X:Int):=by omega
 have b2:(k:Int)<=(fc:Int):=by have:=jay a.of (by rw[e1,hX]);omega
 have b3:(0:Int)<=(B:Int):=by omega
 have hk2:k<=X:=by omega
 rcases a.os.2 with⟨e2,h20⟩|⟨sg,sc,cur,e2,h21,h22,h23,h24,h25,h26⟩
 ·have hB0:B=0:=by omega
  subst hB0;rw[e2] at c2;have HA:=hid (show McAt O (((w.setCell ⟨g,1046,none⟩ (.slice none 0 0)).drew).setCell ⟨g,1045,none⟩ (.slice (some ⟨fg,0,none⟩) k fc)) g {C with fr:=C.fr.take k,sl:=C.sl.take 0} b R (.slice (some ⟨fg,0,none⟩) k fc) (.slice none 0 0) vh from by
   rw[List.take_zero];exact(a.nilSl.drewN 1).cutFr (k:=k) e1 hX hk2)
  have HF:=hid (show Fr (·=g) w (((w.setCell ⟨g,1046,none⟩ (.slice none 0 0)).drew).setCell ⟨g,1045,none⟩ (.slice (some ⟨fg,0,none⟩) k fc)) from(((Fr.refl (·=g) w).setCell (p:=⟨g,1046,none⟩) (.inl rfl) (.slice none 0 0)).drew).setCell (p:=⟨g,1045,none⟩) (.inl rfl) (.slice (some ⟨fg,0,none⟩) k fc));clear a hf hb hX hB hY e1 e2 h20 hkl h1 hk2;go_enter Tryz.func125,Tryz.ntmps125;go_wp2_with fail;go_region_held3 (fun Z=>Z.cell? ⟨g,1046,none⟩=some (.slice none 0 0)/\Z.cell? ⟨g,1045,none⟩=some (.slice (some ⟨fg,0,none⟩) X fc)/\Z.cell? ⟨fg,k*5+4,none⟩=some (.int .i64 ((0:Nat):Int))) (first|assumption|(simp[go_sem, *])) (fail);go_wp2_with fail;refine bodyPost_end (results_none rfl _ _ _) rfl ?_;exact⟨⟨_,rfl⟩,⟨_,_,HA.out⟩,HF.out⟩
 ·rw[e2,hY] at c2
  have hB2:(B:Int)<=(sc:Int):=by omega
  rw[hY] at e2;have HA:=hid (show McAt O (((w.setCell ⟨g,1046,none⟩ (.slice (some ⟨sg,0,none⟩) B sc)).drew).setCell ⟨g,1045,none⟩ (.slice (some ⟨fg,0,none⟩) k fc)) g {C with fr:=C.fr.take k,sl:=C.sl.take B} b R (.slice (some ⟨fg,0,none⟩) k fc) (.slice (some ⟨sg,0,none⟩) B sc) vh from
   ((a.cutSl (k:=B) e2 hY hb).drewN 1).cutFr (k:=k) e1 hX hk2)
  have HF:=hid (show Fr (·=g) w (((w.setCell ⟨g,1046,none⟩ (.slice (some ⟨sg,0,none⟩) B sc)).drew).setCell ⟨g,1045,none⟩ (.slice (some ⟨fg,0,none⟩) k fc)) from(((Fr.refl (·=g) w).setCell (p:=⟨g,1046,none⟩) (.inl rfl) (.slice (some ⟨sg,0,none⟩) B sc)).drew).setCell (p:=⟨g,1045,none⟩) (.inl rfl) (.slice (some ⟨fg,0,none⟩) k fc));clear a hf hb hX hB hY e1 e2 h21 h22 h23 h24 h25 h26 hkl h1 hk2;go_enter Tryz.func125,Tryz.ntmps125;go_wp2_with fail;go_region;go_wp2_with fail;refine bodyPost_end (results_none rfl _ _ _) rfl ?_;exact⟨⟨_,rfl⟩,⟨_,_,HA.out⟩,HF.out⟩
theorem jrU {k:Nat} (hk:C.fr.length<=k):
  Calls prog 125 #[.pointer (some ⟨g,0,none⟩),.int .i64 k] w fun e w'=>(∃v,e=.returned v)/\w'=w:=by
 obtain⟨a1,k1,e1,_⟩:=jH a.of;have c1:=a.cf;rw[e1] at c1;obtain⟨X,hX⟩:∃X,C.fr.length=X:=⟨_,rfl⟩;rw[hX] at c1 hk;have b1:¬(k:Int)<(X:Int):=by omega
 clear a e1 hX hk;go_enter Tryz.func125,Tryz.ntmps125;go_wp2_with fail;refine bodyPost_end (results_none rfl _ _ _) rfl ?_;exact⟨⟨_,rfl⟩,rfl⟩
end
theorem jr4 {l:List Fm} {k:Nat} {f:Fm} (h:l[k]?=some f) (pl:Int):(Jw l).set (k*5+1) (.int .i64 pl)=Jw (l.set k {f with place:=pl}):=by
 induction l generalizing k with
 |nil=>cases h
 |cons f0 l ih=>
  cases k with
  |zero=>
   obtain rfl:f0=f:=by simpa using h
   rfl
  |succ k=>
   show(f0.cells++Jw l).set ((k+1)*5+1) _=f0.cells++Jw (l.set k _);have e5:f0.cells.length=5:=rfl;rw[List.set_append_right _ _ (by omega),e5,show(k+1)*5+1-5=k*5+1 by omega,ih (by simpa using h)]
theorem McAt.setPlace (a:McAt O w g C b R vf vs vh) {fg n c k:Nat} {f:Fm} (hv:vf=.slice (some ⟨fg,0,none⟩) n c) (hn:C.fr.length=n) (hk:C.fr[k]?=some f) (pl:Int):McAt O (w.setCell ⟨fg,k*5+1,none⟩ (.int .i64 pl)) g {C with fr:=C.fr.set k {f with place:=pl}} b R vf vs vh:=by
 have hof:=a.of;rw[hv,hn] at hof;have h2:=(hof.stored (k*5+1) (.int .i64 pl)).1;rw[jr4 hk] at h2;have hob:vf.ownBlock=some fg:=by rw[hv];rfl
 have hfr:Fr (·=fg) w (w.setCell ⟨fg,k*5+1,none⟩ (.int .i64 pl)):=(Fr.refl (·=fg) w).setCell (p:=⟨fg,k*5+1,none⟩) (.inl rfl) _;have hb:Bx (w.setCell ⟨fg,k*5+1,none⟩ (.int .i64 pl)) g (mF C b vf vs vh):=a.bx.fr hfr (fun e=>a.g1 (by rw[hob,e]));exact⟨hb,a.m.kept hfr (fun i hi e=>a.m1 fg hob (e▸hi)),a.z,by rw[hv,List.length_set,hn];exact h2,jd hfr a.os (fun i hi e=>a.s12 fg hob (by rw[hi,e])),jd hfr a.oh (fun i hi e=>a.s13 fg hob (by rw[hi,e])),
  a.og,a.om,a.o1,a.o2,a.o3,a.gm,a.g1,a.g2,a.g3,a.m1,a.m2,a.m3,a.s12,a.s13,a.s23⟩
theorem McAt.setSlot (a:McAt O w g C b R vf vs vh) {sg n c:Nat} (hv:vs=.slice (some ⟨sg,0,none⟩) n c) (hn:C.sl.length=n) (k x:Nat):McAt O (w.setCell ⟨sg,k,none⟩ (.int .u64 (x:Int))) g {C with sl:=C.sl.set k x} b R vf vs vh:=by
 have hof:=a.os;rw[hv,hn] at hof;have h2:=(hof.stored k (.int .u64 (x:Int))).1;rw[show(u64s C.sl).set k (.int .u64 (x:Int))=u64s (C.sl.set k x) from by unfold u64s;rw[List.map_set]] at h2;have hob:vs.ownBlock=some sg:=by rw[hv];rfl
 have hfr:Fr (·=sg) w (w.setCell ⟨sg,k,none⟩ (.int .u64 (x:Int))):=(Fr.refl (·=sg) w).setCell (p:=⟨sg,k,none⟩) (.inl rfl) _;have hb:Bx (w.setCell ⟨sg,k,none⟩ (.int .u64 (x:Int))) g (mF C b vf vs vh):=a.bx.fr hfr (fun e=>a.g2 (by rw[hob,e]));exact⟨hb,a.m.kept hfr (fun i hi e=>a.m2 sg hob (e▸hi)),a.z,jd hfr a.of (fun i hi e=>a.s12 i hi (by rw[hob,e])),by rw[hv,List.length_set,hn];exact h2,jd hfr a.oh (fun i hi e=>a.s23 sg hob (by rw[hi,e])),
  a.og,a.om,a.o1,a.o2,a.o3,a.gm,a.g1,a.g2,a.g3,a.m1,a.m2,a.m3,a.s12,a.s13,a.s23⟩
def jP (C:CM) (n:Nat):CM:=match C.fr[n]? with
 |none=>C
 |some f=>{C with fr:=C.fr.take n,sl:=C.sl.take f.base}
theorem jdS (a:McAt O w g C b R vf vs vh) (k:Nat) (hb:∀f∈C.fr,f.base<=C.sl.length) (h1:C.fr.length<=65536):
  Calls prog 125 #[.pointer (some ⟨g,0,none⟩),.int .i64 k] w fun e w'=>(∃v,e=.returned v)/\(∃vf' vs',McAt O w' g (jP C k) b R vf' vs' vh)/\Fr (·=g) w w':=by
 unfold jP;cases e:C.fr[k]? with
 |none=>
  refine(jrU a (k:=k) (by simpa using e)).mono ?_;rintro e w' ⟨hv,rfl⟩;exact⟨hv,⟨vf,vs,a⟩,Fr.refl _ _⟩
 |some f=>exact jtR a e (hb f (zqc e)) h1
theorem jqA (a:McAt O w g C b R vf vs vh) (h:C.ha=[]) (x:Nat):
  Calls prog 93 #[.pointer (some ⟨g,0,none⟩),.int .u64 (x:Int)] w fun e w'=>e=.returned (.int .i64 2)/\McAt O w' g {C with va:=x} b R vf vs vh/\Fr (·=g) w w':=by
 obtain⟨a3,k3,e3,_⟩:=jH a.oh;have c3:=a.ch;rw[e3,h] at c3;have c3':w.cell? ⟨g,1047,none⟩=some (.slice a3 0 k3):=c3;have z:=a.fz 1044;have c4:=a.cva;have HA:=hid (a.value x);have HF:=hid ((Fr.refl (·=g) w).setCell (p:=⟨g,1044,none⟩) (.inl rfl) (.int .u64 (x:Int)));clear a e3 c3 h;go_enter Tryz.func93,Tryz.ntmps93;go_wp2_with fail;go_ret;exact⟨rfl,HA.out,HF.out⟩
end
