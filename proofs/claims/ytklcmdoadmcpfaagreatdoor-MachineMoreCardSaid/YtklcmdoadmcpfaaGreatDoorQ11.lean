/- A part of the proof of MachineMoves. Conditions: those that each theorem names. -/
import Derived.Test.YtklcmdoadmcpfaaGreatDoorQ10
set_option maxRecDepth 100000
set_option maxHeartbeats 400000000
namespace Go.Proofs.YtklcmdoadmcpfaaGreatDoor
open Go Go.RowKit IsaL
open Go.Lib(hid)
open Go.Proofs.Tryz(prog)
section
variable {O:Nat->Prop} {w w1:World} {g b:Nat} {C:CM} {R:Nat->Value} {vf vs vh:Value}
theorem jaG (C:CM) (n:Nat):(jP C n).fr=C.fr.take n:=by
 unfold jP;cases e:C.fr[n]? with
 |none=>
  have:C.fr.length<=n:=by simpa using e
  exact(zqp this).symm
 |some f=>rfl
theorem jhI (C:CM) (n:Nat):(jP C n).rg=C.rg:=by unfold jP;split<;>rfl
theorem jpm (C:CM) (n:Nat):(jP C n).ha=C.ha:=by unfold jP;split<;>rfl
theorem jn4 (a:McAt O w g C b R vf vs vh) {hs:List (Nat×Int)} {p:Nat×Int} (h:C.ha=hs++[p]) {f:Fm} (hp:C.fr[p.1]?=some f) (hb:∀f∈C.fr,f.base<=C.sl.length) (h1:C.fr.length<=65536) (h3:C.ha.length<=65536) (x:Nat):
  Calls prog 93 #[.pointer (some ⟨g,0,none⟩),.int .u64 (x:Int)] w fun e w'=>e=.returned (.int .i64 0)/\(∃vf' vs' vh',McAt O w' g {jP {C with ha:=hs} (p.1+1) with fr:=(C.fr.take (p.1+1)).set p.1 {f with place:=p.2},rg:=jG C.rg 0 x} b R vf' vs' vh')/\Fr O w w':=by
 have hl:C.ha.length=hs.length+1:=by rw[h];simp
 obtain⟨hg,hc,e3,_,hglt⟩:=a.oh.form (by omega);have hcc:=jay a.oh e3;have c3:=a.ch;have hpc:=a.hcell e3 (k:=hs.length) (p:=p) (by rw[h];simp);obtain⟨p0,p1⟩:=hpc;rw[e3,hl] at c3;rw[hl] at h3 hcc;have z:=a.fz 1047;have hne:hg≠g:=fun e=>a.g3 (by rw[e3,e];rfl);obtain⟨k,hk⟩:∃k,hs.length=k:=⟨_,rfl⟩;rw[hk] at c3 p0 p1 h3 hcc;obtain⟨K,hK⟩:∃K,k+1=K:=⟨_,rfl⟩;rw[hK] at c3 h3 hcc;have f1:(K:Int)-1=(k:Int):=by omega
 have f2:=jv (n:=(k:Int)) (by omega) (by omega);have b0:(0:Int)<=(k:Int):=by omega
 have b1:(k:Int)<(K:Int):=by omega
 have b2:(k:Int)<=(hc:Int):=by omega
 have b3:((K:Int)==0)=false:=by rw[beq_eq_false_iff_ne];omega
 have b4:(K==0)=false:=by rw[beq_eq_false_iff_ne];omega
 have hgl:=a.bx.lt;have HA:=hid a;clear a;go_enter Tryz.func93,Tryz.ntmps93;go_wp2_with fail;go_region;have hbX:=jq w (.cells #[.int .i64 (p.1:Int),.int .i64 p.2] 116);have hnX:=zqe w (.cells #[.int .i64 (p.1:Int),.int .i64 p.2] 116);have hFX:Fr O w (w.alloc (.cells #[.int .i64 (p.1:Int),.int .i64 p.2] 116)):=(Fr.refl O w).alloc _;obtain⟨X,hX⟩:∃X,w.alloc (.cells #[.int .i64 (p.1:Int),.int .i64 p.2] 116)=X:=⟨_,rfl⟩;rw[hX] at hbX hnX hFX ⊢;have aX:=HA.out.below hbX;have c3:X.drew.cell? ⟨g,1047,none⟩=some (.slice (some ⟨hg,0,none⟩) K hc):=by
  have:=(aX.drewN 1).ch;rw[e3,hl,hk,hK] at this;exact this
 have z:X.drew.frozen? ⟨g,1047,none⟩=false:=(aX.drewN 1).fz 1047;have aY:=(aX.cutHa (k:=k) e3 (by rw[hl,hk]) (by omega)).drewN 2;have hts:C.ha.take k=hs:=by rw[h,<-hk];simp
 rw[hts] at aY;have hne9:w.heap.size≠g:=Nat.ne_of_gt hgl;have hx0:(X.setCell ⟨g,1047,none⟩ (.slice (some ⟨hg,0,none⟩) k hc)).cell? ⟨w.heap.size,0,none⟩=some (.int .i64 (p.1:Int)):=by
  rw[zV (Ne.symm hne9)];exact jb hnX 0
 have hx1:(X.setCell ⟨g,1047,none⟩ (.slice (some ⟨hg,0,none⟩) k hc)).cell? ⟨w.heap.size,1,none⟩=some (.int .i64 p.2):=by
  rw[zV (Ne.symm hne9)];exact jb hnX 1
 have hFY:Fr O w ((X.setCell ⟨g,1047,none⟩ (.slice (some ⟨hg,0,none⟩) k hc)).drewN 2):=(hFX.setCell (p:=⟨g,1047,none⟩) (.inl HA.out.og) _).drewN 2;go_wp2_with fail;go_region;obtain⟨Y,hY⟩:∃Y,(X.setCell ⟨g,1047,none⟩ (.slice (some ⟨hg,0,none⟩) k hc)).drew.drew=Y:=⟨_,rfl⟩;have aY:McAt O Y g {C with ha:=hs} b R vf vs (.slice (some ⟨hg,0,none⟩) k hc):=by rw[<-hY];exact aY
 have hx0:Y.cell? ⟨w.heap.size,0,none⟩=some (.int .i64 (p.1:Int)):=by rw[<-hY];exact hx0
 have hFY:Fr O w Y:=by rw[<-hY];exact hFY
 have hx1:Y.cell? ⟨w.heap.size,1,none⟩=some (.int .i64 p.2):=by rw[<-hY];exact hx1
 rw[hY];have HD:=jdS aY (p.1+1) hb h1;rw[show((p.1+1:Nat):Int)=(p.1:Int)+1 by omega] at HD;have HD:=hid HD;have HFY:=hid hFY;have HX1:=hid hx1;have hpl:=(zqb hp).1;have e9:=jv (n:=(p.1:Int)+1) (by omega) (by omega);clear aY hFY hY c3 z aX hFX hbX hnX;go_wp2_with fail;refine HD.out.mono ?_;rintro e w3 ⟨⟨v3,rfl⟩,⟨vf3,vs3,a3⟩,hf3⟩;have hfl:(jP {C with ha:=hs} (p.1+1)).fr.length=p.1+1:=by
  rw[jaG,List.length_take];show min (p.1+1) C.fr.length=p.1+1;omega
 obtain⟨fg,fc,e4⟩:=a3.fshape (by rw[hfl];omega);have e4':=e4;rw[hfl] at e4';have HT:=hid (show Calls _ _ _ w3.drew _ from jct (a3.drewN 1) e4' (by omega));have hgk:(jP {C with ha:=hs} (p.1+1)).fr[p.1]?=some f:=by
  rw[jaG,List.getElem?_take,if_pos (by omega)];exact hp
 have hz1:w3.cell? ⟨w.heap.size,1,none⟩=some (.int .i64 p.2):=(hf3.cell_some (p:=⟨w.heap.size,1,none⟩) HX1.out (fun e=>Nat.ne_of_gt hgl e));have f1:=a3.fcell e4 hgk (j:=1) rfl;have fz:w3.frozen? ⟨fg,p.1*5+1,none⟩=false:=by
  have:=a3.of;rw[e4] at this;exact this.frozenAt _
 have hF3:=HFY.out.trans hf3 (fun i hi=>.inl (by rw[hi];exact HA.out.og));have H3:=hid (zqf a3 (zqf e4 (zqf hgk hF3)));have r2:w3.cell? ⟨g,2,none⟩=_:=a3.regc (k:=0) (by omega);have rz:w3.frozen? ⟨g,2,none⟩=false:=a3.fz 2;have hgf:fg≠g:=fun e=>a3.g1 (by rw[e4,e];rfl);clear a3 e4 e4' hgk hF3 hf3 hfl HD HFY HX1;go_wp2_with fail;go_region_law ((go_simp;go_at_call 89;refine HT.out.mono ?_;rintro e w4 ⟨rfl,q4,hw4⟩));all_goals
  have hgg:g≠fg:=Ne.symm hgf;go_wp2_with fail;go_ret;have a5:=((H3.out.1.drewN (1+q4)).setPlace H3.out.2.1 rfl H3.out.2.2.1 p.2).reg (k:=0) (by omega) x;rw[jaG,jhI] at a5;exact⟨rfl,⟨_,_,_,a5⟩,((H3.out.2.2.2.drewN (1+q4)).setCell (p:=⟨fg,p.1*5+1,none⟩) (.inl (H3.out.1.o1 fg (by rw[H3.out.2.1];rfl))) _).setCell (p:=⟨g,2,none⟩) (.inl HA.out.og) _⟩
end
def qL (C:CM):Bool:=match C.ha.getLast? with
 |none=>false
 |some p=>decide ((p.1:Int)=(C.fr.length:Int)-1)
section
variable {O:Nat->Prop} {w w1:World} {g b:Nat} {C:CM} {R:Nat->Value} {vf vs vh:Value}
section
variable (a:McAt O w g C b R vf vs vh) (h1:C.fr.length<=65536) (h3:C.ha.length<=65536)
include a h1 h3
theorem JQ:Calls prog 144 #[.pointer (some ⟨g,0,none⟩)] w fun e w'=>e=.returned (.bool (qL C))/\∃q,w'=w.drewN q:=by
 rcases List.eq_nil_or_concat C.ha with h|⟨hs,p,h⟩
 ·have e:qL C=false:=by unfold qL;rw[h];rfl
  rw[e];exact ji9 a h
 ·rw[List.concat_eq_append] at h
  have e:qL C=decide ((p.1:Int)=(C.fr.length:Int)-1):=by unfold qL;rw[h,List.getLast?_append];rfl
  rw[e];exact jhP a h h1 h3
theorem jja (h:qL C=true) (x:Nat):
  Calls prog 142 #[.pointer (some ⟨g,0,none⟩),.int .u64 (x:Int)] w fun e w'=>e=.returned (.int .i64 7)/\∃q,w'=w.drewN q:=by
 have HH:=JQ a h1 h3;rw[h] at HH;have HH:=hid HH;clear a h1 h3 h;go_enter Tryz.func142,Tryz.ntmps142;go_wp2_with fail;refine(HH.out).mono ?_;rintro e w1 ⟨rfl,q,rfl⟩;go_wp2_with fail;go_ret;exact⟨rfl,_,rfl⟩
end
theorem jpR (a:McAt O w g C b R vf vs vh) {k:Nat} (hk:C.fr.length=k+1) (hb:∀f∈C.fr,f.base<=C.sl.length) (h1:C.fr.length<=65536) (h3:C.ha.length<=65536) (h:qL C=false) (x:Nat):
  Calls prog 142 #[.pointer (some ⟨g,0,none⟩),.int .u64 (x:Int)] w fun e w'=>(if k=0 then e=.returned (.int .i64 1)/\(∃vf' vs',McAt O w' g {jP C k with va:=x} b R vf' vs' vh) else e=.returned (.int .i64 0)/\(∃vf' vs',McAt O w' g {jP C k with rg:=jG C.rg 0 x} b R vf' vs' vh))/\Fr (·=g) w w':=by
 have HH:=JQ a h1 h3;rw[h] at HH;have HH:=hid HH;have HD:=hid (fun q=>jdS (a.drewN q) k hb h1);obtain⟨a1,k1,e1,_⟩:=jH a.of;have c1:=a.cf;rw[e1,hk] at c1;obtain⟨K,hK⟩:∃K,k+1=K:=⟨_,rfl⟩;rw[hK] at c1;rw[hk] at h1;have f1:(K:Int)-1=(k:Int):=by omega
 have f2:=jv (n:=(k:Int)) (by omega) (by omega);clear a h e1 h3;go_enter Tryz.func142,Tryz.ntmps142;go_wp2_with fail;refine(HH.out).mono ?_;rintro e w1 ⟨rfl,q,rfl⟩;go_wp2_with fail;refine((HD.out q)).mono ?_;rintro e w2 ⟨⟨v2,rfl⟩,⟨vf2,vs2,a2⟩,hf2⟩;have hfl:(jP C k).fr.length=k:=by
  rw[jaG,List.length_take];omega
 obtain⟨a3,k3,e3,_⟩:=jH a2.of;have c3:=a2.cf;rw[e3,hfl] at c3;have z4:=a2.fz 1044;have c4:=a2.cva;have z2:w2.frozen? ⟨g,2,none⟩=false:=a2.fz 2;have r2:w2.cell? ⟨g,2,none⟩=_:=a2.regc (k:=0) (by omega);have HA:=hid a2;have HF:=hid ((((Fr.refl (·=g) w).drewN q).trans hf2 (fun i hi=>.inl hi)));clear a2 hf2 e3 hfl HD HH c1;by_cases h0:k=0
 ·subst h0
  go_wp2_with fail;go_ret;exact⟨⟨rfl,_,_,HA.out.value x⟩,HF.out.setCell (p:=⟨g,1044,none⟩) (.inl rfl) _⟩
 ·have b1:((k:Int)==0)=false:=by rw[beq_eq_false_iff_ne];omega
  have b2:(k==0)=false:=by rw[beq_eq_false_iff_ne];omega
  go_wp2_with fail;go_ret;have a5:=HA.out.reg (k:=0) (by omega) x;rw[jhI] at a5;exact⟨⟨rfl,_,_,a5⟩,HF.out.setCell (p:=⟨g,2,none⟩) (.inl rfl) _⟩
end
theorem jtU:(prog.info? 112).map (fun i=>(i.zero,i.size,i.bytes))=some (some (.agg #[.int .u64 0,.int .i64 0,.int .i64 0,.int .i64 0,.int .i64 0]),5,40):=by kernel_rfl
theorem jpc (w:World) (a b c d e:Value) (t:TypeId) (g:Nat) (hg:w.heap.size=g):∀j u,[a,b,c,d,e][j]?=some u->(w.alloc (.cells #[a,b,c,d,e] t)).cell? ((⟨g,0,none⟩:Addr).add j)=some u:=by
 subst hg;intro j u hu;have hadd:(⟨w.heap.size,0,none⟩:Addr).add j=⟨w.heap.size,j,none⟩:=by unfold Addr.add;split<;>simp_all
 rw[hadd,jb (zqe w _) j];simpa using hu
theorem juo (a b c d e:Value) (ha:a.oneCell'=true) (hb:b.oneCell'=true) (hc:c.oneCell'=true) (hd:d.oneCell'=true) (he:e.oneCell'=true):∀u∈[a,b,c,d,e],u.oneCell'=true:=by
 intro u hu;simp at hu;rcases hu with rfl|rfl|rfl|rfl|rfl<;>assumption
theorem jC {w:World} {B k i:Nat} {e:TypeId} {v:Value} {n:Nat} {xs:List Value} (h:w.ownsRow B e k v n xs) (hi:v.ownBlock=some i):i<w.heap.size:=by
 rcases h.2 with⟨rfl,_⟩|⟨g,cap,cur,rfl,_,hg,_⟩
 ·cases hi
 ·cases hi
  exact(zqa hg).1
section
variable {O:Nat->Prop} {w w1:World} {g b:Nat} {C:CM} {R:Nat->Value} {vf vs vh:Value}
section
variable (a:McAt O w g C b R vf vs vh)
include a
theorem McAt.newFr (hf:Fr (fun i=>vf.ownBlock=some i) w w1) {v:Value} {l:List Fm} (hv:w1.ownsRow 0 112 5 v l.length (Jw l)) (hO:∀i,w.heap.size<=i->O i) (hc:∀i,v.ownBlock=some i->vf.ownBlock=some i\/w.heap.size<=i):McAt O (w1.setCell ⟨g,1045,none⟩ v) g {C with fr:=l} b R v vs vh:=by
 have hgl:=a.bx.lt;have hfr:Fr (·=g) w1 (w1.setCell ⟨g,1045,none⟩ v):=(Fr.refl (·=g) w1).setCell (p:=⟨g,1045,none⟩) (.inl rfl) v;have hb:=(a.bx.fr hf a.g1).set 1045 v;rw[ja9] at hb;have hc2:∀i,v.ownBlock=some i->O i/\i≠g/\¬Own b R i/\vs.ownBlock≠some i/\vh.ownBlock≠some i:=fun i hi=>by
  rcases hc i hi with h|h
  ·exact⟨a.o1 i h,fun e=>a.g1 (by rw[h,e]),a.m1 i h,a.s12 i h,a.s13 i h⟩
  ·exact⟨hO i h,by omega,fun q=>by have:=a.m.own_lt i q;omega,fun q=>by have:=jC a.os q;omega,fun q=>by have:=jC a.oh q;omega⟩
 exact⟨hb,(a.m.kept hf (fun i hi e=>a.m1 i e hi)).kept hfr (fun i hi e=>a.gm (e▸hi)),a.z,jd hfr hv (fun i hi e=>(hc2 i hi).2.1 e),jd hfr (jd hf a.os (fun i hi e=>a.s12 i e hi)) (fun i hi e=>a.g2 (by rw[hi,e])),jd hfr (jd hf a.oh (fun i hi e=>a.s13 i e hi)) (fun i hi e=>a.g3 (by rw[hi,e])),
  a.og,a.om,fun i hi=>(hc2 i hi).1,a.o2,a.o3,a.gm,fun e=>(hc2 g e).2.1 rfl,a.g2,a.g3,fun i hi=>(hc2 i hi).2.2.1,a.m2,a.m3,fun i hi=>(hc2 i hi).2.2.2.1,fun i hi=>(hc2 i hi).2.2.2.2,a.s23⟩
theorem McAt.newSl (hf:Fr (fun i=>vs.ownBlock=some i) w w1) {v:Value} {l:List Nat} (hv:w1.ownsRow 0 65 1 v l.length (u64s l)) (hO:∀i,w.heap.size<=i->O i) (hc:∀i,v.ownBlock=some i->vs.ownBlock=some i\/w.heap.size<=i):McAt O (w1.setCell ⟨g,1046,none⟩ v) g {C with sl:=l} b R vf v vh:=by
 have hgl:=a.bx.lt;have hfr:Fr (·=g) w1 (w1.setCell ⟨g,1046,none⟩ v):=(Fr.refl (·=g) w1).setCell (p:=⟨g,1046,none⟩) (.inl rfl) v;have hb:=(a.bx.fr hf a.g2).set 1046 v;rw[jb8] at hb;have hc2:∀i,v.ownBlock=some i->O i/\i≠g/\¬Own b R i/\vf.ownBlock≠some i/\vh.ownBlock≠some i:=fun i hi=>by
  rcases hc i hi with h|h
  ·exact⟨a.o2 i h,fun e=>a.g2 (by rw[h,e]),a.m2 i h,fun e=>a.s12 i e h,a.s23 i h⟩
  ·exact⟨hO i h,by omega,fun q=>by have:=a.m.own_lt i q;omega,fun q=>by have:=jC a.of q;omega,fun q=>by have:=jC a.oh q;omega⟩
 exact⟨hb,(a.m.kept hf (fun i hi e=>a.m2 i e hi)).kept hfr (fun i hi e=>a.gm (e▸hi)),a.z,jd hfr (jd hf a.of (fun i hi e=>a.s12 i hi e)) (fun i hi e=>a.g1 (by rw[hi,e])),jd hfr hv (fun i hi e=>(hc2 i hi).2.1 e),jd hfr (jd hf a.oh (fun i hi e=>a.s23 i e hi)) (fun i hi e=>a.g3 (by rw[hi,e])),
  a.og,a.om,a.o1,fun i hi=>(hc2 i hi).1,a.o3,a.gm,a.g1,fun e=>(hc2 g e).2.1 rfl,a.g3,a.m1,fun i hi=>(hc2 i hi).2.2.1,a.m3,fun i hi e=>(hc2 i e).2.2.2.1 hi,a.s13,fun i hi=>(hc2 i hi).2.2.2.2⟩
theorem McAt.newHa (hf:Fr (fun i=>vh.ownBlock=some i) w w1) {v:Value} {l:List (Nat×Int)} (hv:w1.ownsRow 0 116 2 v l.length (JY l)) (hO:∀i,w.heap.size<=i->O i) (hc:∀i,v.ownBlock=some i->vh.ownBlock=some i\/w.heap.size<=i):McAt O (w1.setCell ⟨g,1047,none⟩ v) g {C with ha:=l} b R vf vs v:=by
 have hgl:=a.bx.lt;have hfr:Fr (·=g) w1 (w1.setCell ⟨g,1047,none⟩ v):=(Fr.refl (·=g) w1).setCell (p:=⟨g,1047,none⟩) (.inl rfl) v;have hb:=(a.bx.fr hf a.g3).set 1047 v;rw[QN] at hb;have hc2:∀i,v.ownBlock=some i->O i/\i≠g/\¬Own b R i/\vf.ownBlock≠some i/\vs.ownBlock≠some i:=fun i hi=>by
  rcases hc i hi with h|h
  ·exact⟨a.o3 i h,fun e=>a.g3 (by rw[h,e]),a.m3 i h,fun e=>a.s13 i e h,fun e=>a.s23 i e h⟩
  ·exact⟨hO i h,by omega,fun q=>by have:=a.m.own_lt i q;omega,fun q=>by have:=jC a.of q;omega,fun q=>by have:=jC a.os q;omega⟩
 exact⟨hb,(a.m.kept hf (fun i hi e=>a.m3 i e hi)).kept hfr (fun i hi e=>a.gm (e▸hi)),a.z,jd hfr (jd hf a.of (fun i hi e=>a.s13 i hi e)) (fun i hi e=>a.g1 (by rw[hi,e])),jd hfr (jd hf a.os (fun i hi e=>a.s23 i hi e)) (fun i hi e=>a.g2 (by rw[hi,e])),jd hfr hv (fun i hi e=>(hc2 i hi).2.1 e),
  a.og,a.om,a.o1,a.o2,fun i hi=>(hc2 i hi).1,a.gm,a.g1,a.g2,fun e=>(hc2 g e).2.1 rfl,a.m1,a.m2,fun i hi=>(hc2 i hi).2.2.1,a.s12,fun i hi e=>(hc2 i e).2.2.2.1 hi,fun i hi e=>(hc2 i e).2.2.2.2 hi⟩
end
theorem jg9 {w A w6:World} {v:Value} (hA:Fr (fun _=>False) w A) (hg:A.grownBy w6 v.ownBlock):Fr (fun i=>v.ownBlock=some i) w w6:=
 (hA.mono (fun _ h=>h.elim)).grown hg (fun _ h=>.inl h)
theorem jiq (a:McAt O w g C b R vf vs vh) {x:Nat} (hx:x<18446744073709551616) {j:Nat} {o:Ob} (hj:jl C.now C.h C.W (jc (x:Int))=some j) (ho:C.now[j]?=some o) (hO:∀i,w.heap.size<=i->O i) (h1:C.fr.length<=65536):
  Calls prog 88 #[.pointer (some ⟨g,0,none⟩),.int .u64 (x:Int)] w fun e w'=>(∃v,e=.returned v)/\(∃vf',McAt O w' g {C with fr:=C.fr++[Fm.mk x 0 o.t (o.ws.length-o.t) C.sl.length]} b R vf' vs vh)/\Fr O w w':=by
 obtain⟨i0,hi,hz0,hz1,hz2⟩:=info_parts jtU;obtain⟨a2,k2,e2,_⟩:=jH a.os;have c0:=a.c0;have c1:=a.cf;have c2:=a.cs;rw[e2] at c2;have z1:=a.fz 1045;have hp:jc (x:Int)<=9223372036854775807:=by unfold jc;split<;>omega
 have hokO:=a.z.okn o (zqc ho);obtain⟨_,_,s0,s1,t0,t1⟩:=zR hokO.right;have hl:qk C.h C.W ⟨C.now,C.old⟩ (jc (x:Int))=(o.k,o.ws.length,o.t,0):=by
  unfold qk;simp only[hj,ZT ho]
 obtain⟨A,hA⟩:∃A,jc (x:Int)=A:=⟨_,rfl⟩;have HTP:=hid (fun Y=>show Calls prog 90 #[.int .u64 (x:Int)] Y (fun e w'=>e=.returned (.int .i64 A)/\Y=w') from(jQ (x:Int) Y (by omega) (by omega)).mono fun e w' ⟨h1,h2⟩=>⟨by rw[h1,hA],h2⟩);have HLKd:=hid (show Calls prog 67 #[.pointer (some ⟨b,0,none⟩),.int .i64 A] w.drew (fun e w'=>e=.returned (.tuple #[.int .i64 (o.k:Int),.int .i64 (o.ws.length:Int),.int .i64 (o.t:Int),.int .i64 0])/\∃q',w'=w.drewN q') from
  (ja8 (s:=⟨C.now,C.old⟩) (a.m.drewN 1) a.z A (by rw[<-hA];exact hp)).mono fun e w' ⟨h1,q',h2⟩=>⟨by rw[h1,<-hA,hl];rfl,1+q',by rw[h2,World.drewN_drewN]⟩)
 obtain⟨sz,hsz⟩:∃sz,o.ws.length=sz:=⟨_,rfl⟩;obtain⟨t,ht⟩:∃t,o.t=t:=⟨_,rfl⟩;obtain⟨Y9,hY9⟩:∃Y9,C.sl.length=Y9:=⟨_,rfl⟩;rw[hsz,ht] at HLKd;rw[hY9] at c2;rw[hsz] at s1 t1;rw[ht] at t1;have HAT:=hid a;have HOO:=hid hO;have HEQ:=hid (zqf hsz (zqf ht hY9));have hwn:=jv (n:=((sz-t:Nat):Int)) (by omega) (by omega);have hwe:(sz:Int)-(t:Int)=((sz-t:Nat):Int):=by omega
 have HRW:=hid (fun(q:Nat) (ob:Obj)=>show((w.drewN q).alloc ob).ownsRow 0 112 5 vf C.fr.length (Jw C.fr) from World.ownsRow.alloc (w:=w.drewN q) a.of ob);have hw9:g<w.heap.size:=a.bx.lt;have hgv:=a.g1;clear hx hj ho hl hA hp hokO hO e2;clear a;go_enter Tryz.func88,Tryz.ntmps88;go_wp2_with fail;go_region_held3 (fun Y=>Y.cell? ⟨g,0,none⟩=some (.pointer (some ⟨b,0,none⟩))) (first|(with_reducible assumption)|exact c0|(rw[hw2];exact c0)) (first|(go_at_call 90;(with_reducible refine(HTP.out _).mono ?_);rintro e w' ⟨rfl,hw'⟩;subst w')|(go_at_call 67;(with_reducible refine HLKd.out.mono ?_);rintro e w2 ⟨rfl,q2,hw2⟩));subst w2;go_wp2_with fail;have hgw:=HAT.out.cf;have k1:=fun(q:Nat) (ob:Obj)=>jm (jq (w.drewN q) ob) (show(w.drewN q).cell? _=_ from hgw);have k2:=fun(q:Nat) (ob:Obj)=>jm (jq (w.drewN q) ob) (show(w.drewN q).cell? _=_ from c2);go_region_law ((refine step_append_lies _ (by rfl) _ _ 91 (by rfl) 0 112 i0 (.agg #[.int .u64 0,.int .i64 0,.int .i64 0,.int .i64 0,.int .i64 0]) 5 40 Tryz.underlying91 hi hz0 hz1 hz2 rfl (by decide) vf C.fr.length (Jw C.fr) (by rfl) (HRW.out _ _) ⟨w.heap.size,0,none⟩ 1 1 [.int .u64 (x:Int),.int .i64 0,.int .i64 (t:Int),.int .i64 (((sz-t:Nat):Int)),.int .i64 (Y9:Int)] (by rfl) rfl (jpc _ _ _ _ _ _ _ _ (by simp)) (juo _ _ _ _ _ rfl rfl rfl rfl rfl) (by omega) (by unfold maxLen;omega) (by omega) (Nat.zero_le _) (w.heap.size+1) (by simp) ?_;intro g6 cap6 w6 hown6 hgrow6 hblk6 hlt6;have d6:w6.cell? ⟨g,1045,none⟩=some vf:=(World.cell?_of_block (hgrow6.block g (Nat.lt_of_lt_of_le hw9 (by simp)) (Ne.symm hgv))).trans ((World.cell?_of_block (Below.heap_alloc _ _ g hw9)).trans hgw);have e6:w6.frozen? ⟨g,1045,none⟩=false:=(World.frozen?_of_block (hgrow6.block g (Nat.lt_of_lt_of_le hw9 (by simp)) (Ne.symm hgv))).trans ((World.frozen?_of_block (Below.heap_alloc _ _ g hw9)).trans z1);have HG6:=hid hgrow6;have HW6:=hid hown6;have HB6:=hid hblk6;clear hown6 hgrow6 hblk6 hlt6));all_goals
  go_wp2_with fail;refine bodyPost_end (results_none rfl _ _ _) rfl ?_;have hF6:Fr (fun i=>vf.ownBlock=some i) w w6:=jg9 (((Fr.refl (fun _=>False) w).drewN _).alloc _) HG6.out;have hown:w6.ownsRow 0 112 5 (.slice (some ⟨g6,0,none⟩) (C.fr.length+1) cap6) (C.fr++[Fm.mk x 0 o.t (o.ws.length-o.t) C.sl.length]).length (Jw (C.fr++[Fm.mk x 0 o.t (o.ws.length-o.t) C.sl.length])):=by
   obtain⟨q1,q2,q3⟩:=HEQ.out;have:=HW6.out;rw[jr2,q1,q2,q3,zqm];exact this
  have a6:=HAT.out.newFr hF6 hown HOO.out (fun i hi=>by
   have hi2:g6=i:=by simpa[Value.ownBlock] using hi
   rcases HB6.out with h|h
   ·exact .inl (by rw[<-hi2];exact h)
   ·exact .inr (by rw[<-hi2,h];exact Nat.le_succ _))
  exact⟨⟨_,rfl⟩,⟨_,a6⟩,(hF6.mono (fun i hi=>.inl (HAT.out.o1 i hi))).setCell (p:=⟨g,1045,none⟩) (.inl HAT.out.og) _⟩
end
theorem jq1 (A:Option Addr) (L c m:Nat) (hm:m<=c) (W:World):(Instr.sliceAt 51 (.slice A L c) none (some (.int .i64 (m:Int))) none).run prog W=.ok (.slice A m c) W:=by
 have hs:(sizeOf 65).run prog W=.ok 1 W:=by kernel_rfl
 have he:prog.elem 51=65:=by kernel_rfl
 have h1:=run_sliceAt_slice (P:=prog) (w:=W) 51 (.slice A L c) none (some (.int .i64 (m:Int))) none (by rw[he];exact Tryz.underlying51);have h2:=run_slice_h (P:=prog) (w:=W) 51 A L c (by rw[he];exact Tryz.underlying51) .i64 (m:Int) (by omega) (by omega);rw[h1,h2,he,hs];have ha:∀ad:Addr,ad.add 0=ad:=fun ad=>by
  obtain⟨b,o,sp⟩:=ad;cases sp<;>simp[Addr.add]
 have hA:A.map (fun x=>x.add 0)=A:=by cases A<;>simp[ha]
 simp[sliced,hA]
section
variable {O:Nat->Prop} {w w1:World} {g b:Nat} {C:CM} {R:Nat->Value} {vf vs vh:Value}
section
variable (a:McAt O w g C b R vf vs vh) {k fg c:Nat} {f:Fm} (hv:vf=.slice (some ⟨fg,0,none⟩) (k+1) c) (hf:C.fr[k]?=some f)
include a k fg c f hv hf
theorem jpq (hk:k<=65536) {n:Int} (hn:n<0):
  Calls prog 140 #[.pointer (some ⟨g,0,none⟩),.int .i64 n] w fun e w'=>e=.returned (.int .i64 7)/\∃q,w'=w.drewN q:=by
 have HT:=hid (jct a hv hk);have f4:=a.fcell hv hf (j:=4) rfl;clear a hv hf hk;go_enter Tryz.func140,Tryz.ntmps140;go_wp2_with fail;refine(HT.out).mono ?_;rintro e w1 ⟨rfl,q,rfl⟩;go_wp2_with fail;go_ret;exact⟨rfl,_,rfl⟩
theorem jkI (h1:C.fr.length<=65536) (h2:C.sl.length<=65536) (h3:C.ha.length<=65536) (hk:k<=65536) {n:Int} (hn:0<=n) (hn2:n<=8000000000) (hb:f.base<=C.sl.length) (hd:C.S<3*(C.fr.length:Int)+f.base+3*C.ha.length+n):
  Calls prog 140 #[.pointer (some ⟨g,0,none⟩),.int .i64 n] w fun e w'=>e=.returned (.int .i64 6)/\∃q,w'=w.drewN q:=by
 obtain⟨a2,k2,e2,_⟩:=jH a.os;have c2:=a.cs;rw[e2] at c2;have HT:=hid (jct a hv hk);have f4:=a.fcell hv hf (j:=4) rfl;have HFI:=fun q=>jhK (a.drewN q) (n-((C.sl.length:Int)-f.base)) h1 h2 h3 (by omega) (by omega);have hdd:decide (3*(C.fr.length:Int)+C.sl.length+3*C.ha.length+(n-((C.sl.length:Int)-f.base))<=C.S)=false:=zqq (by omega);rw[hdd] at HFI;obtain⟨Y,hY⟩:∃Y,C.sl.length=Y:=⟨_,rfl⟩;obtain⟨B,hB⟩:∃B,f.base=B:=⟨_,rfl⟩;rw[hY] at c2 HFI h2 hb;rw[hB] at HFI f4 hb;have HFI:=hid HFI;have f1:=jv (n:=(Y:Int)-(B:Int)) (by omega) (by omega);have f2:=jv (n:=n-((Y:Int)-(B:Int))) (by omega) (by omega);have d0:¬n<0:=by omega
 clear a hv hf hk h1 h2 h3 e2 hd hdd hY hB hn hn2 hb;go_enter Tryz.func140,Tryz.ntmps140;go_wp2_with fail;refine(HT.out).mono ?_;rintro e w1 ⟨rfl,q,rfl⟩;go_wp2_with fail;refine((HFI.out _)).mono ?_;rintro e w1 ⟨rfl,q2,rfl⟩;go_wp2_with fail;go_ret;exact⟨rfl,_,rfl⟩
end
theorem McAt.cutSlA (a:McAt O w g C b R vf vs vh) {A:Option Addr} {n c k:Nat} (hv:vs=.slice A n c) (hn:C.sl.length=n) (hk:k<=n):McAt O (w.setCell ⟨g,1046,none⟩ (.slice A k c)) g {C with sl:=C.sl.take k} b R vf (.slice A k c) vh:=by
 rcases a.os.2 with⟨e2,h20⟩|⟨sg,sc,cur,e2,_⟩
 ·rw[e2] at hv
  injection hv with q1 q2 q3;subst q1 q2 q3;obtain rfl:k=0:=by omega
  rw[List.take_zero];exact a.nilSl
 ·rw[e2] at hv
  injection hv with q1 q2 q3;subst q1 q3;exact a.cutSl (by rw[e2,hn]) hn hk
theorem joP:∀u∈[Value.int .u64 1],u.oneCell'=true:=by simp[Value.oneCell']
theorem jpr (a:McAt O w g C b R vf vs vh) {k fg c:Nat} {f:Fm} (hv:vf=.slice (some ⟨fg,0,none⟩) (k+1) c) (hf:C.fr[k]?=some f) (h1:C.fr.length<=65536) (h2:C.sl.length<=65536) (h3:C.ha.length<=65536) (hk:k<=65536) {n:Nat} (hn2:n<=8000000000) (hb:f.base<=C.sl.length) (hd:3*(C.fr.length:Int)+f.base+3*C.ha.length+n<=C.S) (hS:C.S<=65536) (hO:∀i,w.heap.size<=i->O i):
  Calls prog 140 #[.pointer (some ⟨g,0,none⟩),.int .i64 n] w fun e w'=>e=.returned (.int .i64 0)/\(∃vs',McAt O w' g {C with sl:=C.sl.take f.base++List.replicate n 1} b R vf vs' vh)/\Fr O w w':=by
 obtain⟨i0,hi,hz0,hz1,hz2⟩:=info_parts infoU64;have HT:=hid (jct a hv hk);have f4:=a.fcell hv hf (j:=4) rfl;have c2:=a.cs;have z2:=a.fz 1046;have HFI:=fun q=>jhK (a.drewN q) (n-((C.sl.length:Int)-f.base)) h1 h2 h3 (by omega) (by omega);have hdd:decide (3*(C.fr.length:Int)+C.sl.length+3*C.ha.length+((n:Int)-((C.sl.length:Int)-f.base))<=C.S)=true:=zqr (by omega);rw[hdd] at HFI;have hn9:n<=65536:=by omega
 have HI:=hid Qc;obtain⟨Y,hY⟩:∃Y,C.sl.length=Y:=⟨_,rfl⟩;obtain⟨B,hB⟩:∃B,f.base=B:=⟨_,rfl⟩;rw[hY] at HFI h2 hb;rw[hB] at HFI f4 hb ⊢;have HFI:=hid HFI;have f1:=jv (n:=(Y:Int)-(B:Int)) (by omega) (by omega);have f2:=jv (n:=(n:Int)-((Y:Int)-(B:Int))) (by omega) (by omega);have d0:¬(n:Int)<0:=by omega
 have b3:(0:Int)<=(B:Int):=by omega
 have hB9:B<=65536:=by omega
 obtain⟨a2,k2,e2,hk2⟩:=jH a.os;rw[hY] at e2 hk2;have hcut:=jq1 a2 Y k2 B (by omega);rw[e2] at c2;have hA0:=a.cutSlA (k:=B) e2 hY hb;have hF0:Fr O w (w.setCell ⟨g,1046,none⟩ (.slice a2 B k2)):=(Fr.refl O w).setCell (p:=⟨g,1046,none⟩) (.inl a.og) _;obtain⟨X,hX⟩:∃X,w.setCell ⟨g,1046,none⟩ (.slice a2 B k2)=X:=⟨_,rfl⟩;rw[hX] at hA0 hF0;have HX:=hid hX;have HA0:=hid hA0;have HF0:=hid hF0;have HOO:=hid hO;have HLB:(C.sl.take B).length=B:=by rw[List.length_take];omega
 have HLN:=hid HLB;clear a hv hf hk h1 h2 h3 e2 hd hdd hY hB hn2 hb hA0 hF0 hX hO HLB hk2 hS;go_enter Tryz.func140,Tryz.ntmps140;go_wp2_with fail;refine(HT.out).mono ?_;rintro e w1 ⟨rfl,q,rfl⟩;go_wp2_with fail;refine((HFI.out _)).mono ?_;rintro e w1 ⟨rfl,q2,rfl⟩;go_wp2_with fail;clear HT HFI f4 c2 z2 hcut f1 f2;go_loopw [37] (fun i wr=>∃m:Nat,m<=n/\i=.int .i64 m/\(∃vs',McAt O wr g {C with sl:=C.sl.take B++List.replicate m 1} b R vf vs' vh)/\Fr O w wr) (fun i _=>n-(intOf i).toNat)
 case atStart=>
  have h1:=HA0.out.drewN (q+q2);have h2:=HF0.out.drewN (q+q2);rw[<-HX.out] at h1 h2;exact⟨0,by omega,rfl,⟨_,by rw[List.replicate_zero,List.append_nil];exact h1⟩,h2⟩
 case round=>
  obtain⟨m,hm,rfl,⟨v9,a9⟩,hfr⟩:=hrel;have HA9:=hid a9;have HF9:=hid hfr;by_cases hlt:m<n
  ·have c2:=a9.cs
   have z2:=a9.fz 1046;have hw9:=a9.bx.lt;have hgv:=a9.g2;have hrow:=a9.os;have hlen:(C.sl.take B++List.replicate m 1).length=B+m:=by rw[zqm,HLN.out,List.length_replicate]
   rw[hlen] at hrow;obtain⟨LL,hLL⟩:∃LL,B+m=LL:=⟨_,rfl⟩;obtain⟨ls,hls⟩:∃ls,C.sl.take B++List.replicate m 1=ls:=⟨_,rfl⟩;have HEQ:=hid (zqf hlen (zqf hLL hls));rw[hLL] at hrow;have hrow:wr.ownsRow 0 65 1 v9 LL (u64s ls):=by rw[<-hls];exact hrow
   have HRW:=hid (fun(q:Nat) (ob:Obj)=>show((wr.drewN q).alloc ob).ownsRow 0 65 1 v9 LL (u64s ls) from World.ownsRow.alloc (w:=wr.drewN q) hrow ob);have HC2:=hid (zqf c2 z2);have k1:=fun(q:Nat) (ob:Obj)=>jm (jq (wr.drewN q) ob) (show(wr.drewN q).cell? _=_ from c2);have hLb:LL<=140000:=by rw[<-hLL];omega
   have b0:(0:Int)<=(m:Int):=by omega
   have b1:(m:Int)<(n:Int):=by omega
   clear hls hLL hlen hrow a9 hfr hm;go_wp2_with fail;go_region_law (first|(refine step_append_lies _ (by rfl) _ _ 51 (by rfl) 0 65 i0 (.int .u64 0) 1 8 Tryz.underlying51 hi hz0 hz1 hz2 rfl (by decide) v9 LL (u64s ls) (by rfl) (HRW.out _ _) ⟨wr.heap.size,0,none⟩ 1 1 [.int .u64 1] (by rfl) rfl (QF _ _ _ _ (by simp)) joP (by omega) (by unfold maxLen;omega) (by omega) (Nat.zero_le _) (wr.heap.size+1) (by simp) ?_;intro g6 cap6 w6 hown6 hgrow6 hblk6 hlt6;have d6:w6.cell? ⟨g,1046,none⟩=some v9:=(World.cell?_of_block (hgrow6.block g (Nat.lt_of_lt_of_le hw9 (by simp)) (Ne.symm hgv))).trans ((World.cell?_of_block (Below.heap_alloc _ _ g hw9)).trans HC2.out.1);have e6:w6.frozen? ⟨g,1046,none⟩=false:=(World.frozen?_of_block (hgrow6.block g (Nat.lt_of_lt_of_le hw9 (by simp)) (Ne.symm hgv))).trans ((World.frozen?_of_block (Below.heap_alloc _ _ g hw9)).trans HC2.out.2);have HG6:=hid hgrow6;have HW6:=hid hown6;have HB6:=hid hblk6;clear hown6 hgrow6 hblk6 hlt6)|(go_simp;go_at_call 41;refine(HI.out _).mono ?_;rintro e w' ⟨rfl,hw'⟩;subst w'));all_goals
    have hF6:Fr (fun i=>v9.ownBlock=some i) wr w6:=jg9 (((Fr.refl (fun _=>False) wr).drewN _).alloc _) HG6.out;have hown:w6.ownsRow 0 65 1 (.slice (some ⟨g6,0,none⟩) (LL+1) cap6) (C.sl.take B++List.replicate (m+1) 1).length (u64s (C.sl.take B++List.replicate (m+1) 1)):=by
     obtain⟨q1,q2,q3⟩:=HEQ.out;have:=HW6.out;rw[List.replicate_succ',<-List.append_assoc,q3,zqm,<-q3,q1,q2,q3];unfold u64s at this ⊢;rw[List.map_append];exact this
    have a6:=HA9.out.newSl hF6 hown (fun i hi=>HOO.out i (zqs HF9.out.size hi)) (fun i hi=>by
     have hi2:g6=i:=by simpa[Value.ownBlock] using hi
     rcases HB6.out with h|h
     ·exact .inl (by rw[<-hi2];exact h)
     ·exact .inr (by rw[<-hi2,h];exact Nat.le_succ _))
    have H6:=hid (zqf a6 ((HF9.out.trans (hF6.mono (fun i hi=>.inl (HA9.out.o2 i hi))) (fun i hi=>.inl hi)).setCell (p:=⟨g,1046,none⟩) (.inl HA9.out.og) (.slice (some ⟨g6,0,none⟩) (LL+1) cap6)));clear a6 hF6 hown k1 d6 e6;go_wp2_with fail;go_roundw
    case rel=>exact⟨m+1,hlt,by go_num,⟨_,H6.out.1⟩,H6.out.2⟩
    case measure=>simp[intOf];omega
  ·obtain rfl:m=n:=by omega
   have b1:¬(m:Int)<m:=by omega
   clear a9 hfr;go_wp2_with fail;go_ret;exact⟨rfl,⟨_,HA9.out⟩,HF9.out⟩
end
def jD (C:CM) (x:Nat):Option Ob:=(jl C.now C.h C.W (jc (x:Int))).bind fun j=>C.now[j]?
def Did (O:Nat->Prop) (w:World) (g b:Nat) (r:CM×Int) (e:Ending) (w':World):Prop:=e=.returned (.int .i64 r.2)/\(∃R vf vs vh,McAt O w' g r.1 b R vf vs vh)/\Fr O w w'
def Ql (C:CM) (x:Nat) (o:Ob):CM:={C with fr:=C.fr++[Fm.mk x 0 o.t (o.ws.length-o.t) C.sl.length]}
def QJ (C:CM) (n:Int):Bool:=decide (3*(C.fr.length:Int)+C.sl.length+3*C.ha.length+n<=C.S)
def ZP (C:CM) (x:Nat) (o:Ob) (p q:Nat):CM×Int:=if QJ C 3 then({Ql C x o with rg:=jG (jG C.rg 0 p) 1 q},0) else(C,6)
def qW (C:CM) (tail:Bool) (A B:Nat):CM×Int:=match jD C (C.rg A) with
 |none=>(C,7)
 |some o=>if o.k≠3 then(C,7) else match jD C (o.ws.getD 0 0) with
  |none=>(C,7)
  |some p=>if p.k≠5 then(C,7) else if tail then(if qL C then(C,7) else ZP (jP C (C.fr.length-1)) (o.ws.getD 0 0) p (C.rg A) (C.rg B)) else ZP C (o.ws.getD 0 0) p (C.rg A) (C.rg B)
structure OkC (C:CM):Prop where
 rg:∀k,k<16->C.rg k<18446744073709551616
 gl:∀k,k<1024->C.gl k<18446744073709551616
 sl:∀x∈C.sl,x<18446744073709551616
 cd:C.cd<18446744073709551616
 va:C.va<18446744073709551616
 fc:∀f∈C.fr,f.code<18446744073709551616
 fs:∀f∈C.fr,f.lits+f.ins<=16384
 bs:∀f∈C.fr,f.base<=C.sl.length
 fp:∀f∈C.fr,-8589934592<=f.place/\f.place<=8589934592
 hf:∀p∈C.ha,p.1<C.fr.length
 hp:∀p∈C.ha,-8589934592<=p.2/\p.2<=8589934592
 ft:3*(C.fr.length:Int)+C.sl.length+3*C.ha.length<=C.S
 s1:C.S<=65536
 us:C.us<=1024
section
variable {O:Nat->Prop} {w w1:World} {g b:Nat} {C:CM} {R:Nat->Value} {vf vs vh:Value}
theorem qh {x:Nat} {o:Ob} (h:jD C x=some o):∃j,jl C.now C.h C.W (jc (x:Int))=some j/\C.now[j]?=some o:=by
 unfold jD at h;cases e:jl C.now C.h C.W (jc (x:Int)) with
 |none=>rw[e] at h;cases h
 |some j=>rw[e] at h;exact⟨j,rfl,h⟩
theorem jnT {x:Nat} (h:jD C x=none):jl C.now C.h C.W (jc (x:Int))=none:=by
 unfold jD at h;cases e:jl C.now C.h C.W (jc (x:Int)) with
 |none=>rfl
 |some j=>
  rw[e] at h;have:=zqh (zF e).1;have h2:C.now[j]?=none:=h;rw[this] at h2;cases h2
theorem zh (a:McAt O w g C b R vf vs vh) {x:Nat} (hx:x<18446744073709551616):Calls prog 133 #[.pointer (some ⟨g,0,none⟩),.int .u64 (x:Int)] w fun e w'=>e=.returned (.tuple #[.int .i64 (if(jD C x).isSome then jc (x:Int) else 0),.int .i64 (((jD C x).map fun o=>o.k).getD 0:Nat)])/\∃q,w'=w.drewN q:=by
 cases e:jD C x with
 |none=>exact jjc a hx (jnT e)
 |some o=>
  obtain⟨j,h1,h2⟩:=qh e;exact jls a hx h1 h2
theorem Zu (a:McAt O w g C b R vf vs vh) {x:Nat} {o:Ob} (h:jD C x=some o) (i:Nat):Calls prog 126 #[.pointer (some ⟨g,0,none⟩),.int .i64 (jc (x:Int)),.int .i64 i] w fun e w'=>e=.returned (.int .u64 (o.ws.getD i 0:Nat))/\∃q,w'=w.drewN q:=by
 obtain⟨j,h1,h2⟩:=qh h;have hb:=a.z.w1;have hp:jc (x:Int)<=9223372036854775807:=by
  unfold jc;split<;>omega
 have:=jjD a (jc (x:Int)) hp i;have e:(qY C.h C.W ⟨C.now,C.old⟩ (jc (x:Int)) i).1=o.ws.getD i 0:=by
  unfold qY;simp only[h1,ZT h2];by_cases hi:i<o.ws.length
  ·rw[if_pos hi]
  ·rw[if_neg hi,zqi,List.getElem?_eq_none (by omega)]
   rfl
 rw[e] at this;exact this
theorem Z6 (z:WF C.W C.h C.now C.old) {x:Nat} {o:Ob} (h:jD C x=some o) (i:Nat):o.ws.getD i 0<18446744073709551616:=by
 obtain⟨j,h1,h2⟩:=qh h;have hw:=(z.okn o (zqc h2)).word;rw[zqi];cases e:o.ws[i]? with
 |none=>show 0<_;omega
 |some y=>exact hw y (zqc e)
theorem Did.stay (a:McAt O w g C b R vf vs vh) (n:Int) (q:Nat):Did O w g b (C,n) (.returned (.int .i64 n)) (w.drewN q):=⟨rfl,⟨_,_,_,_,a.drewN q⟩,(Fr.refl O w).drewN q⟩
theorem OkC.n1 (h:OkC C):C.fr.length<=65536:=by have:=h.ft;have:=h.s1;omega
theorem OkC.n2 (h:OkC C):C.sl.length<=65536:=by have:=h.ft;have:=h.s1;omega
theorem OkC.n3 (h:OkC C):C.ha.length<=65536:=by have:=h.ft;have:=h.s1;omega
theorem jmN (C:CM) (n x:Nat):jD (jP C n) x=jD C x:=by unfold jP;split<;>rfl
theorem jaI (a:McAt O w g C b R vf vs vh) (h1:C.fr.length<=65536) (h2:C.sl.length<=65536) (h3:C.ha.length<=65536):Calls prog 143 #[.pointer (some ⟨g,0,none⟩),.int .i64 3] w fun e w'=>e=.returned (.bool (QJ C 3))/\∃q,w'=w.drewN q:=jhK a 3 h1 h2 h3 (by omega) (by omega)
theorem jrD {X:World} (a:McAt O X g C b R vf vs vh) (p q n:Nat):McAt O (((X.setCell ⟨g,2,none⟩ (.int .u64 (p:Int))).setCell ⟨g,3,none⟩ (.int .u64 (q:Int))).drewN n) g {C with rg:=jG (jG C.rg 0 p) 1 q} b R vf vs vh:=
 ((a.reg (k:=0) (by omega) p).reg (k:=1) (by omega) q).drewN n
end
inductive RWd where
 |I (n:Int)
 |P (k:Nat)
def RWd.isP:RWd->Bool
 | .I _=>false
 | .P _=>true
def RWd.num:RWd->Int
 | .I n=>n
 | .P _=>0
def RWd.at:RWd->Nat
 | .I _=>0
 | .P k=>k
def Wr:RWd->Prop
 | .I n=> -4611686018427387904<=n/\n<=4611686018427387903
 | .P _=>True
structure RObj where
 k:Nat
 ws:List RWd
 tx:ByteArray
 ins:List I5
def RObj.words (o:RObj):Nat:=if o.k=4 then 2+(o.tx.size+7)/8 else 1+o.ws.length+o.ins.length
structure RFm where
 code:RWd
 place:Int
 slots:List RWd
structure RM where
 limit:Int
 stack:Int
 objs:List RObj
 used:Int
 rg:Nat->RWd
 frs:List RFm
 has:List (Nat×Int)
 gl:Nat->RWd
 entry:RWd
 value:RWd
 steps:Int
 budget:Int
def JX (f:Nat->RWd) (k:Nat) (v:RWd):Nat->RWd:=fun j=>if j=k then v else f j
def Jq (out:List Nat):RWd->List Nat
 | .I _=>out
 | .P k=>if k∈out then out else out++[k]
def jB (out:List Nat) (ws:List RWd):List Nat:=ws.foldl Jq out
def zK (os:List RObj) (k:Nat):List RWd:=match os[k]? with
 |none=>[]
 |some o=>o.ws
def qU (os:List RObj):Nat->Nat->List Nat->List Nat
 |0,_,out=>out
 |f+1,i,out=>match out[i]? with
  |none=>out
  |some k=>qU os f (i+1) (jB out (zK os k))
def Jk (os:List RObj) (roots:List RWd):List Nat:=qU os (os.length+1) 0 (jB [] roots)
def jr (M:RM):List RWd:=(List.range 16).map M.rg++(M.frs.flatMap fun f=>f.code::f.slots)++(List.range 1024).map M.gl++[M.entry,M.value]
def qS (os:List RObj) (l:List Nat):Nat:=(l.map fun k=>((os[k]?).map RObj.words).getD 0).sum
def Jp (M:RM):Nat:=qS M.objs (Jk M.objs (jr M))
def jz (M:RM) (n:Int):RM×Bool:=
 if M.used+n<=M.limit then(M,true) else({M with used:=(Jp M:Int)},decide ((Jp M:Int)+n<=M.limit))
def jck (M:RM) (o:RObj):RM:={M with used:=M.used+o.words,objs:=M.objs++[o]}
def RM.reg (M:RM) (k:Int) (v:RWd):RM:={M with rg:=JX M.rg k.toNat v}
def jo (M:RM):RWd->RObj
 | .I _=>⟨0,[],⟨#[]⟩,[]⟩
 | .P k=>(M.objs[k]?).getD ⟨0,[],⟨#[]⟩,[]⟩
def Zf (M:RM) (v:RWd):RM×Int:=match M.has.getLast? with
 |none=>({M with value:=v},2)
 |some h=>({M with has:=M.has.dropLast,frs:=(M.frs.take (h.1+1)).modify h.1 fun f=>{f with place:=h.2},rg:=JX M.rg 0 v},0)
def qi (M:RM):Int:=3*M.has.length+(M.frs.map fun f=>3+(f.slots.length:Int)).sum
def RM.top (M:RM) (g:RFm->RFm):RM:={M with frs:=M.frs.modify (M.frs.length-1) g}
def jK (M:RM):RFm:=(M.frs.getLast?).getD ⟨.I 0,0,[]⟩
