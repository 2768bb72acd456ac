/- A part of the proof of MachineMoves. Conditions: those that each theorem names. -/
import Derived.Test.YtklcmdoadmcpfaaGreatDoorQ20
set_option maxRecDepth 100000
set_option maxHeartbeats 400000000
namespace Go.Proofs.YtklcmdoadmcpfaaGreatDoor
open Go Go.RowKit IsaL
open Go.Lib(hid)
open Go.Proofs.Tryz(prog)
section
variable {O:Nat->Prop} {w w1:World} {g b:Nat} {C:CM} {R:Nat->Value} {vf vs vh:Value}
theorem McAt.mem (a:McAt O w g C b R vf vs vh) (hf:Fr (Own b R) w w1) {h':Nat} {R':Nat->Value} {now' old':List Ob} (hm:zi w1 b C.W h' R' now' old') (hz:WF C.W h' now' old') (hR:∀i,Own b R' i->Own b R i\/w.heap.size<=i) (hO:∀i,w.heap.size<=i->O i):McAt O w1 g {C with h:=h',now:=now',old:=old'} b R' vf vs vh:=by
 have hgl:=a.bx.lt;refine⟨a.bx.fr hf a.gm,hm,hz,jd hf a.of a.m1,jd hf a.os a.m2,jd hf a.oh a.m3,a.og,fun i hi=>?_,a.o1,a.o2,a.o3,fun h=>?_,a.g1,a.g2,a.g3,fun i hi h=>?_,fun i hi h=>?_,fun i hi h=>?_,a.s12,a.s13,a.s23⟩
 ·rcases hR i hi with h|h
  ·exact a.om i h
  ·exact hO i h
 ·rcases hR g h with h|h
  ·exact a.gm h
  ·omega
 ·rcases hR i h with q|q
  ·exact a.m1 i hi q
  ·have:=jC a.of hi;omega
 ·rcases hR i h with q|q
  ·exact a.m2 i hi q
  ·have:=jC a.os hi;omega
 ·rcases hR i h with q|q
  ·exact a.m3 i hi q
  ·have:=jC a.oh hi;omega
theorem jfb (x:Nat):jc (x:Int)<=9223372036854775807:=by unfold jc;split<;>omega
section
variable (a:McAt O w g C b R vf vs vh)
include a
theorem jpX {x:Nat} {o:Ob} (h:jD C x=some o) {n:Int} (hn:n<0\/(o.ws.length:Int)<=n):Calls prog 68 #[.pointer (some ⟨b,0,none⟩),.int .i64 (jc (x:Int)),.int .i64 n] w fun e w'=>e=.returned (.tuple #[.int .u64 0,.int .i64 20])/\∃q,w'=w.drewN q:=by
 obtain⟨j,h1,h2⟩:=qh h;exact jdY _ n (ja2 a.m a.z _ n (jfb x) h1 h2 hn)
theorem jgf {x:Nat} {o:Ob} (h:jD C x=some o) {n:Nat} (hn:n<o.ws.length):Calls prog 68 #[.pointer (some ⟨b,0,none⟩),.int .i64 (jc (x:Int)),.int .i64 n] w fun e w'=>e=.returned (.tuple #[.int .u64 (o.ws.getD n 0:Nat),.int .i64 0])/\∃q,w'=w.drewN q:=by
 obtain⟨j,h1,h2⟩:=qh h;exact Qz a.m a.z _ n (jfb x) h1 h2 hn
theorem jhv (ok:OkC C) (A:Nat) (hA:A<16) (B:Nat) (hB:B<16) (D n:Int) {K:Nat} (hK:((jD C (C.rg B)).map fun o=>o.k).getD 0=K) (hk:K≠1/\K≠2/\K≠3):
  Calls prog 97 #[.pointer (some ⟨g,0,none⟩),.agg #[.int .i64 19,.int .i64 A,.int .i64 B,.int .i64 D,.int .i64 n]] w fun e w'=>Did O w g b (C,7) e w':=by
 obtain⟨X,hX,hblk,hb0,hF0,r0,r1,r2,r3,r4⟩:=ji O w 19 A B D n;have aX:=a.below hb0;have HW:=hid hX;have gA:=aX.regc hA;have i0:(0:Int)<=(A:Int):=by omega
 have i1:(A:Int)<16:=by omega
 have HA:=hid aX;have HF:=hid hF0;have hgO:=a.og;have gB:=aX.regc hB;have i2:(0:Int)<=(B:Int):=by omega
 have i3:(B:Int)<16:=by omega
 obtain⟨x,hx⟩:∃x,C.rg B=x:=⟨_,rfl⟩;have hxl:=ok.rg B hB;rw[hx] at gB hxl hK;have HOB:=fun q=>zh (aX.drewN q) hxl;rw[hK] at HOB;obtain⟨V,hV⟩:∃V,(if(jD C x).isSome then jc (x:Int) else 0)=V:=⟨_,rfl⟩;rw[hV] at HOB;have HOB:=hid HOB;clear hV;have k1a:((K:Int)==1)=false:=by rw[beq_eq_false_iff_ne];omega
 have k1b:(K==1)=false:=by rw[beq_eq_false_iff_ne];omega
 have k1c:¬K=1:=by omega
 have k1d:((K:Int) !=1)=true:=by simp only[bne,k1a];rfl
 have k2a:((K:Int)==2)=false:=by rw[beq_eq_false_iff_ne];omega
 have k2b:(K==2)=false:=by rw[beq_eq_false_iff_ne];omega
 have k2c:¬K=2:=by omega
 have k2d:((K:Int) !=2)=true:=by simp only[bne,k2a];rfl
 have k3a:((K:Int)==3)=false:=by rw[beq_eq_false_iff_ne];omega
 have k3b:(K==3)=false:=by rw[beq_eq_false_iff_ne];omega
 have k3c:¬K=3:=by omega
 have k3d:((K:Int) !=3)=true:=by simp only[bne,k3a];rfl
 clear a ok hblk hb0 hF0 hX aX hA;clear hx hxl hB hK;go_enter Tryz.func97,Tryz.ntmps97;go_wp2_with fail;rw[HW.out];go_wp2_with fail;go_region_held3 (fun Y=>Y.cell? ⟨w.heap.size,2,none⟩=some (.int .i64 B)/\Y.cell? ⟨g,2+B,none⟩=some (.int .u64 (x:Int))) (first|(with_reducible assumption)|exact⟨r2,gB⟩) (first|(go_at_call 133;refine(HOB.out _).mono ?_;rintro e w' ⟨rfl,q5,rfl⟩));go_wp2_with fail;go_ret;exact⟨rfl,⟨_,_,_,_,HA.out.drewN _⟩,HF.out.drewN _⟩
theorem jgU (ok:OkC C) (A:Nat) (hA:A<16) (B:Nat) (hB:B<16) (D n:Int) {o:Ob} (ho:jD C (C.rg B)=some o) (hk:o.k=1\/o.k=2\/o.k=3) (hn:n<0\/(o.ws.length:Int)<=n):
  Calls prog 97 #[.pointer (some ⟨g,0,none⟩),.agg #[.int .i64 19,.int .i64 A,.int .i64 B,.int .i64 D,.int .i64 n]] w fun e w'=>Did O w g b (C,7) e w':=by
 obtain⟨X,hX,hblk,hb0,hF0,r0,r1,r2,r3,r4⟩:=ji O w 19 A B D n;have aX:=a.below hb0;have HW:=hid hX;have gA:=aX.regc hA;have i0:(0:Int)<=(A:Int):=by omega
 have i1:(A:Int)<16:=by omega
 have HA:=hid aX;have HF:=hid hF0;have hgO:=a.og;have gB:=aX.regc hB;have i2:(0:Int)<=(B:Int):=by omega
 have i3:(B:Int)<16:=by omega
 obtain⟨x,hx⟩:∃x,C.rg B=x:=⟨_,rfl⟩;have hxl:=ok.rg B hB;rw[hx] at gB hxl ho;have hk2:(o.k:Int)=1\/(o.k:Int)=2\/(o.k:Int)=3:=by omega
 obtain⟨kk,hkk⟩:∃kk:Int,(o.k:Int)=kk:=⟨_,rfl⟩;have HOB:=jat aX hxl ho (K:=kk) (by omega);obtain⟨PA,hPA⟩:∃PA,jc (x:Int)=PA:=⟨_,rfl⟩;have c0:=aX.c0;have HLD:=fun q=>jpX (aX.drewN q) ho hn;rw[hPA] at HOB HLD;have HOB:=hid HOB;have HLD:=hid HLD;clear a ok hblk hb0 hF0 hX aX hA;clear hx hxl hB ho hn hPA;rw[hkk] at hk2;clear hk hkk;rcases hk2 with rfl|rfl|rfl<;>(
  go_enter Tryz.func97,Tryz.ntmps97;go_wp2_with fail;rw[HW.out];go_wp2_with fail;go_region_held3 (fun Y=>Y.cell? ⟨w.heap.size,2,none⟩=some (.int .i64 B)/\Y.cell? ⟨g,2+B,none⟩=some (.int .u64 (x:Int))) (first|(with_reducible assumption)|exact⟨r2,gB⟩) (first|(go_at_call 133;refine(HOB.out _).mono ?_;rintro e w' ⟨rfl,q5,rfl⟩));go_wp2_with fail;go_region_held3 (fun Y=>Y.cell? ⟨g,0,none⟩=some (.pointer (some ⟨b,0,none⟩))/\Y.cell? ⟨w.heap.size,4,none⟩=some (.int .i64 n)) (first|(with_reducible assumption)|exact⟨c0,r4⟩) (first|(go_at_call 68;refine(HLD.out _).mono ?_;rintro e w' ⟨rfl,q6,rfl⟩));go_wp2_with fail;go_ret;exact⟨rfl,⟨_,_,_,_,HA.out.drewN _⟩,HF.out.drewN _⟩)
theorem jhw (ok:OkC C) (A:Nat) (hA:A<16) (B:Nat) (hB:B<16) (D:Int) {o:Ob} (ho:jD C (C.rg B)=some o) (hk:o.k=1\/o.k=2\/o.k=3) {m:Nat} (hn:m<o.ws.length):
  Calls prog 97 #[.pointer (some ⟨g,0,none⟩),.agg #[.int .i64 19,.int .i64 A,.int .i64 B,.int .i64 D,.int .i64 m]] w fun e w'=>Did O w g b ({C with rg:=jG C.rg A (o.ws.getD m 0)},0) e w':=by
 obtain⟨X,hX,hblk,hb0,hF0,r0,r1,r2,r3,r4⟩:=ji O w 19 A B D (m:Int);have aX:=a.below hb0;have HW:=hid hX;have gA:=aX.regc hA;have i0:(0:Int)<=(A:Int):=by omega
 have i1:(A:Int)<16:=by omega
 have HA:=hid aX;have HF:=hid hF0;have hgO:=a.og;have gB:=aX.regc hB;have i2:(0:Int)<=(B:Int):=by omega
 have i3:(B:Int)<16:=by omega
 obtain⟨x,hx⟩:∃x,C.rg B=x:=⟨_,rfl⟩;have hxl:=ok.rg B hB;rw[hx] at gB hxl ho;have hk2:(o.k:Int)=1\/(o.k:Int)=2\/(o.k:Int)=3:=by omega
 obtain⟨kk,hkk⟩:∃kk:Int,(o.k:Int)=kk:=⟨_,rfl⟩;have HOB:=jat aX hxl ho (K:=kk) (by omega);obtain⟨PA,hPA⟩:∃PA,jc (x:Int)=PA:=⟨_,rfl⟩;have c0:=aX.c0;have HLD:=fun q=>jgf (aX.drewN q) ho hn;obtain⟨V,hV⟩:∃V,o.ws.getD m 0=V:=⟨_,rfl⟩;rw[hPA] at HOB HLD;rw[hV] at HLD ⊢;have HOB:=hid HOB;have HLD:=hid HLD;have HJ:=hid (fun q=>(aX.reg hA V).drewN q);have rz:=aX.fz (2+A);clear a ok hblk hb0 hF0 hX aX hA;clear hx hxl hB ho hn hPA hV;rw[hkk] at hk2;clear hk hkk;rcases hk2 with rfl|rfl|rfl<;>(
  go_enter Tryz.func97,Tryz.ntmps97;go_wp2_with fail;rw[HW.out];go_wp2_with fail;go_region_held3 (fun Y=>Y.cell? ⟨w.heap.size,2,none⟩=some (.int .i64 B)/\Y.cell? ⟨g,2+B,none⟩=some (.int .u64 (x:Int))) (first|(with_reducible assumption)|exact⟨r2,gB⟩) (first|(go_at_call 133;refine(HOB.out _).mono ?_;rintro e w' ⟨rfl,q5,rfl⟩));go_wp2_with fail;go_region_held3 (fun Y=>Y.cell? ⟨g,0,none⟩=some (.pointer (some ⟨b,0,none⟩))/\Y.cell? ⟨w.heap.size,4,none⟩=some (.int .i64 (m:Int))) (first|(with_reducible assumption)|exact⟨c0,r4⟩) (first|(go_at_call 68;refine(HLD.out _).mono ?_;rintro e w' ⟨rfl,q6,rfl⟩));go_wp2_with fail;go_region;all_goals
   go_wp2_with fail;go_ret;exact⟨rfl,⟨_,_,_,_,HJ.out _⟩,(HF.out.setCell (p:=⟨g,2+A,none⟩) (.inl hgO) _).drewN _⟩)
end
end
section
open Go Go.RowKit Go.Shelf IsaL
attribute [local go_sem] Oper.semAt_some
section
variable {O:Nat->Prop} {w:World} {g b:Nat} {C:CM} {R:Nat->Value} {vf vs vh:Value}
theorem jip (ok:OkC C) (hS:C.S<=30000):(j8 C).length<=60000:=by
 have e1:∀(f:Nat->Nat) n,(Qn f n).length<=n:=fun f n=>by
  induction n with
  |zero=>exact zqg _
  |succ n ih=>
   show(Qn f n++_).length<=_;rw[zqm];split<;>simp<;>omega
 unfold j8;have h1:=e1 C.rg 16;have h2:=e1 (qO C) C.sl.length;have h3:=e1 C.gl C.us;have h4:=ok.us;have h7:=ok.ft;have h5:(if jf (C.cd:Int)=true then[C.cd] else[]).length<=1:=by split<;>simp
 have h6:(if jf (C.va:Int)=true then[C.va] else[]).length<=1:=by split<;>simp
 simp only[zqm,List.length_map];omega
theorem jjR (ok:OkC C):∀x∈j8 C,x<18446744073709551616:=fun x hx=>by
 have hw:=jia ok;unfold j8 at hx;simp only[List.mem_append,jaQ] at hx;have e1:∀(P:Bool) (y:Nat),x∈(if P=true then[y] else[])->x=y:=fun P y h=>by cases P<;>simp at h;exact h
 rcases hx with((((⟨k,h1,_,h3⟩|⟨k,h1,_,h3⟩)|⟨k,h1,_,h3⟩)|h)|h)|h
 ·rw[h3];exact hw.rg k h1
 ·rw[h3];exact hw.sl k h1
 ·rw[h3];exact hw.gl k (by have:=ok.us;omega)
 ·obtain⟨f,hf,rfl⟩:=List.mem_map.1 h
  exact ok.fc f hf
 ·rw[e1 _ _ h];exact hw.cd
 ·rw[e1 _ _ h];exact hw.va
theorem jqz (hc:∀f∈C.fr,jf (f.code:Int)=true):∀x∈j8 C,jf (x:Int)=true:=fun x hx=>by
 unfold j8 at hx;simp only[List.mem_append,jaQ] at hx;have e1:∀(y:Nat),x∈(if jf (y:Int)=true then[y] else[])->jf (x:Int)=true:=fun y h=>by
  split at h
  ·rename_i q;rw[List.mem_singleton.1 h];exact q
  ·cases h
 rcases hx with((((⟨k,_,h2,h3⟩|⟨k,_,h2,h3⟩)|⟨k,_,h2,h3⟩)|h)|h)|h
 ·rw[h3];exact h2
 ·rw[h3];exact h2
 ·rw[h3];exact h2
 ·obtain⟨f,hf,rfl⟩:=List.mem_map.1 h
  exact hc f hf
 ·exact e1 _ h
 ·exact e1 _ h
theorem jav {A B:World} {P:Nat->Prop} {i:Nat} {o:Obj} (h:Fr P A B) (ho:A.heap[i]?=some o) (hn:¬P i):B.heap[i]?=some o:=(h.block i (zqa ho).1 hn).trans ho
section
variable {A:World} {i:Nat} {v:Value} {t:TypeId} (h:A.heap[i]?=some (.cells #[v] t (0,0)))
include A i v t h
theorem jfR:A.cell? ⟨i,0,none⟩=some v:=by simp[World.cell?,h]
theorem jfS:A.frozen? ⟨i,0,none⟩=false:=by simp[World.frozen?,h]
end
theorem joX {w w1:World} {a:Option Addr} {N:Nat} {ns:List Nat} (h:Jg w a N ns) (hb:Below w.heap.size w w1):Jg w1 a N ns:=
 ⟨h.len,h.few,h.word,fun j n hj=>by
  obtain⟨q,off,h1,h2,h3⟩:=h.cell j n hj;exact⟨q,off,h1,by have:=hb.size;omega,(World.cell?_of_block (hb.block q h2)).trans h3⟩⟩
theorem McAt.above {A B w0:World} {C':CM} {P:Nat->Prop} (a:McAt O A g C b R vf vs vh) (a0:McAt O w0 g C' b R vf vs vh) (hf:Fr P A B) (hP:∀i,P i->w0.heap.size<=i):McAt O B g C b R vf vs vh:=
 a.kept hf (fun q=>by have:=a0.bx.lt;have:=hP _ q;omega) (fun i hi q=>by have:=a0.m.own_lt i hi;have:=hP _ q;omega) (fun i hi q=>by have:=jC a0.of hi;have:=hP _ q;omega) (fun i hi q=>by have:=jC a0.os hi;have:=hP _ q;omega) (fun i hi q=>by have:=jC a0.oh hi;have:=hP _ q;omega)
structure AfC (O:Nat->Prop) (w W4:World) (g b:Nat) (C1:CM) (R:Nat->Value) (vf vs vh u:Value) (N:Nat) (ls:List Nat) (B:Nat):Prop where
 bx:Boxed W4 B 51 u
 ma:McAt O W4 g C1 b R vf vs vh
 rw:W4.ownsRow w.heap.size 65 1 u N (u64s ls)
 fr:Fr O w W4
 lo:w.heap.size<=B
 hi:B<W4.heap.size
theorem jmm {O:Nat->Prop} {w w3 Y:World} {g b N:Nat} {C1:CM} {R:Nat->Value} {vf vs vh u:Value} {ls:List Nat} (ma:McAt O w3 g C1 b R vf vs vh) (hr:w3.ownsRow Y.heap.size 65 1 u N (u64s ls)) (hY:w.heap.size<=Y.heap.size) (hf:Fr O w w3):AfC O w (w3.alloc (.cells #[u] 51)) g b C1 R vf vs vh u N ls w3.heap.size:=
 ⟨Boxed.new w3 _ _,ma.below ((Below.refl _ w3).alloc (zqg _) _),Jl (hr.alloc _) hY,hf.alloc _,hf.size,by rw[World.size_alloc];omega⟩
theorem jjt {O:Nat->Prop} {w w3 Y:World} {g b N B:Nat} {C1:CM} {R:Nat->Value} {vf vs vh u u0:Value} {ls:List Nat} (ma:McAt O w3 g C1 b R vf vs vh) (hr:w3.ownsRow Y.heap.size 65 1 u N (u64s ls)) (hY:w.heap.size<=Y.heap.size) (hf:Fr O w w3) (hb:w3.heap[B]?=some (.cells #[u0] 51 (0,0))) (hB:w.heap.size<=B) (lo:∀i,(i=g\/Own b R i\/vf.ownBlock=some i\/vs.ownBlock=some i\/vh.ownBlock=some i)->i≠B):AfC O w (w3.setCell ⟨B,0,none⟩ u) g b C1 R vf vs vh u N ls B:=by
 have hbx:Boxed w3 B 51 u0:=hb;have hfr:Fr (·=B) w3 (w3.setCell ⟨B,0,none⟩ u):=(Fr.refl (·=B) w3).setCell (p:=⟨B,0,none⟩) (.inl rfl) _;refine⟨hbx.set u,ma.kept hfr (fun e=>lo g (.inl rfl) e) (fun i hi e=>lo i (.inr (.inl hi)) e) (fun i hi e=>lo i (.inr (.inr (.inl hi))) e) (fun i hi e=>lo i (.inr (.inr (.inr (.inl hi)))) e) (fun i hi e=>lo i (.inr (.inr (.inr (.inr hi)))) e),Jl (jd hfr hr (fun q hq e=>hbx.not_row (by decide) hr (by rw[hq,e]))) hY,hf.setCell (p:=⟨B,0,none⟩) (.inr hB) _,hB,?_⟩;exact Nat.lt_of_lt_of_le (zqa hb).1 hfr.size
theorem jmG (a:McAt O w g C b R vf vs vh) (ok:OkC C) (hS:C.S<=30000) (hO:∀i,w.heap.size<=i->O i) {met:List Nat} (hr:zg C.now C.h C.W (j8 C)=some met) (od:jo1 C (zx C.h C.W C.now met)) (hc:∀f∈C.fr,jf (f.code:Int)=true):
  Calls prog 22 #[.pointer (some ⟨g,0,none⟩)] w fun e w'=>(∃v,e=.returned v)/\(∃R',McAt O w' g (QI C met) b R' vf vs vh)/\Fr O w w':=by
 obtain⟨fb,sb,hfb,hsb,sp⟩:=joB a ok.us;have hlen:=jip ok hS;have hlt:=jjR ok;have hptr:=jqz hc;obtain⟨N,hN⟩:∃N,(j8 C).length=N:=⟨_,rfl⟩;have HW:=hid (fun(Y:World) (hb:Below w.heap.size w Y)=>(jkd (a.below hb) ok).mono (fun e w' h=>(show(∃p c,e=.returned (.slice p N c)/\(∀Y',Below w'.heap.size w' Y'->Below w.heap.size w Y'/\Jg Y' p N (j8 C))/\∀(q off:Nat),p=some ⟨q,off,none⟩->¬Own b R q)/\w'.cell? ⟨g,0,none⟩=some (.pointer (some ⟨b,0,none⟩))/\Below w.heap.size w w'/\Below Y.heap.size Y w' from by
  obtain⟨⟨v,h1,h2⟩,h3⟩:=h;obtain⟨p,c,q1,q2,q3⟩:=jdI h2 rfl (by omega) hlt;have hbw:Below w.heap.size w w':=hb.trans (h3.mono hb.size);refine⟨⟨p,c,by rw[h1,q1,hN],fun Y' hY=>⟨hbw.trans (hY.mono hbw.size),joX (hN▸q2) hY⟩,fun q off e hq=>?_⟩,(a.below hbw).c0,hbw,h3⟩;have:=(h2.lt q (q3 q off e)).1;have:=a.m.own_lt q hq;have:=hb.size;omega)))
 have HC:=hid (fun(Y:World) (hb:Below w.heap.size w Y) (p:Option Addr) (c:Nat) (hv:Jg Y p N (j8 C)) (hn:∀(q off:Nat),p=some ⟨q,off,none⟩->¬Own b R q)=>(ji5 (c:=c) (a.m.below hb) a.z hv hn (by omega)).mono (fun e w' h=>(show(∃p' c',e=.returned (.tuple #[.slice p' N c',.int .i64 0])/\w'.ownsRow Y.heap.size 65 1 (.slice p' N c') N (u64s ((j8 C).map (zx C.h C.W C.now met)))/\∃R',McAt O w' g {C with h:=1-C.h,now:=JG C.h C.W C.now met,old:=ze (1-C.h) C.W C.now met met} b R' vf vs vh/\(∀q,(Value.slice p' N c').ownBlock=some q->¬Own b R' q)/\∀i,Own b R' i->Own b R i\/Y.heap.size<=i)/\w'.cell? ⟨g,0,none⟩=some (.pointer (some ⟨b,0,none⟩))/\Fr O w w'/\Fr (Own b R) Y w' from by
  rcases h with⟨h1,_⟩|⟨met',v,R',h1,h2,h3,h4,h5⟩
  ·rw[hr] at h1;cases h1
  ·rw[hr] at h1
   obtain rfl:=zqd h1;have hm:=(a.below hb).mem h3.fr h3.m h3.z (fun i hi=>by rcases h3.own i hi with q|q;exact .inl q;exact .inr q) (fun i hi=>hO i (zqs hb.size hi));obtain⟨p',c',e',_⟩:=jH h4;subst e';rw[hN] at h2 h4;refine⟨⟨p',c',h2,h4,R',hm,by rw[<-hN];exact h5,h3.own⟩,hm.c0,(Fr.of_below (O:=O) hb).trans h3.fr (fun i hi=>.inl (a.om i hi)),h3.fr⟩)))
 have HB0:=hid ((Below.refl w.heap.size w).drew);have HB1:=hid (fun(o:Obj)=>((Below.refl w.heap.size w).drew).alloc (zqg w.heap.size) o);have HB1D:=hid (fun(o:Obj)=>((Below.refl w.heap.size w).alloc (zqg w.heap.size) o).drew);have HNO:=hid (QA a.bx (show mF C b vf vs vh 0=_ from rfl));have c0:=a.c0;have HLO:=hid (fun(R3:Nat->Value) (Y:World) (B:Nat) (h1:w.heap.size<=B) (h2:B<Y.heap.size) (h3:∀i,Own b R3 i->Own b R i\/Y.heap.size<=i) (i:Nat) (hi:i=g\/Own b R3 i\/vf.ownBlock=some i\/vs.ownBlock=some i\/vh.ownBlock=some i)=>(show i≠B from by
  rcases hi with q|q|q|q|q
  ·have:=a.bx.lt;omega
  ·rcases h3 i q with z|z
   ·have:=a.m.own_lt i z;omega
   ·omega
  ·have:=jC a.of q;omega
  ·have:=jC a.os q;omega
  ·have:=jC a.oh q;omega))
 have HNW:=hid (fun(i:Nat) (hi:w.heap.size<=i) (q:Own b R i)=>(show False from by have:=a.m.own_lt i q;omega));have HGN:=hid (fun(i:Nat) (hi:w.heap.size<=i)=>(show i≠g from fun e=>by have:=a.bx.lt;omega));have HA:=hid a;have HOK:=hid (zqf ok (zqf hO (zqf hr (zqf od hN))));have HLT:=hid hlt;have HPT:=hid hptr;have HLEN:=hid hlen;have hn1:=ok.n1;have hn2:=ok.n2;clear a ok hO hr od hc hlt hptr hN hS hlen;refine(callsIn_wide (n:=3)).1 ?_;refine callsIn_of_wp_marks Tryz.func22 rfl trivial ?_ rfl;simp only[Tryz.ntmps22,List.size_toArray,List.length_cons,List.length_nil,Nat.reduceAdd,Nat.reduceSub,Array.replicate_succ,Array.replicate_zero,List.push_toArray,List.append_toArray,List.nil_append,List.cons_append];gi_wp2_with fail;refine⟨trivial,?_⟩;refine(callsIn_wide.2 HNO.out).mono ?_;rintro e w1 ⟨rfl,hw1⟩;subst w1;gi_wp2_with fail;refine wpIn_wide.2 ?_;go_region_held3 (fun Y=>Y.cell? ⟨g,0,none⟩=some (.pointer (some ⟨b,0,none⟩))) (first|(with_reducible assumption)|exact c0|exact hc2|exact hc3|exact jm ((Below.refl _ _).alloc (zqg _) _) hc3|exact jm ((Below.refl _ _).alloc (zqg _) _) hc2|exact jm (((Below.refl _ _).drew).alloc (zqg _) _) c0|exact(zV (HGN.out _ HB2.out.size)).trans hc3|exact(zV (HGN.out _ (zqg _))).trans hc3|exact(zV (HGN.out _ HF3.out.2.2.2.1.size)).trans (jm ((Below.refl _ _).alloc (zqg _) _) hc3))
  (first
   |(go_at_call 63;first
     |((with_reducible refine(HW.out _ HB0.out).mono ?_);rintro e w2 ⟨⟨p2,cp2,rfl,hv2,hn2'⟩,hc2,hb2,hy2⟩;clear hy2;have HV2:=hid (zqf hv2 hn2');have HB2:=hid hb2;clear hv2 hn2' hb2)
     |((with_reducible refine(HW.out _ (HB1.out _)).mono ?_);rintro e w2 ⟨⟨p2,cp2,rfl,hv2,hn2'⟩,hc2,hb2,hy2⟩;have hq2:=hid ((hy2.block w.heap.size (by rw[World.size_alloc];exact Nat.lt_succ_self _)).trans (zqe w.drew _));clear hy2;have HV2:=hid (zqf hv2 hn2');have HB2:=hid hb2;clear hv2 hn2' hb2)
     |((with_reducible refine(HW.out _ (HB1D.out _)).mono ?_);rintro e w2 ⟨⟨p2,cp2,rfl,hv2,hn2'⟩,hc2,hb2,hy2⟩;have hq2:=hid ((hy2.block w.heap.size (by show w.heap.size<(w.alloc _).heap.size;rw[World.size_alloc];exact Nat.lt_succ_self _)).trans (zqe w _));clear hy2;have HV2:=hid (zqf hv2 hn2');have HB2:=hid hb2;clear hv2 hn2' hb2))
   |(go_at_call 62;first
     |((with_reducible refine(HC.out _ (HV2.out.1 _ ((Below.refl _ _).alloc (zqg _) _)).1 _ _ (HV2.out.1 _ ((Below.refl _ _).alloc (zqg _) _)).2 HV2.out.2).mono ?_);rintro e w3 ⟨⟨p3,cp3,rfl,hrow3,R3,ha3,hr3,ho3⟩,hc3,hf3,hs3⟩;have hbl:=jav hs3 (zqe w2 _) (HNW.out _ HB2.out.size);have HBL:=hid hbl;have hbc:=jfR hbl;have hbf:=jfS hbl;have HF3:=hid (zqf hrow3 (zqf ha3 (zqf hr3 (zqf hf3 (zqf hs3 ho3)))));clear hrow3 ha3 hr3 hf3 hs3 ho3 hbl)
     |((with_reducible refine(HC.out _ (HV2.out.1 _ (Below.refl _ _)).1 _ _ (HV2.out.1 _ (Below.refl _ _)).2 HV2.out.2).mono ?_);rintro e w3 ⟨⟨p3,cp3,rfl,hrow3,R3,ha3,hr3,ho3⟩,hc3,hf3,hs3⟩;have hbl:=jav hs3 hq2.out (HNW.out _ (zqg _));have HBL:=hid hbl;have hbc:=jfR hbl;have hbf:=jfS hbl;have HF3:=hid (zqf hrow3 (zqf ha3 (zqf hr3 (zqf hf3 (zqf hs3 ho3)))));clear hrow3 ha3 hr3 hf3 hs3 ho3 hbl)
     |((with_reducible refine(HC.out _ (HV2.out.1 _ (Below.refl _ _)).1 _ _ (HV2.out.1 _ (Below.refl _ _)).2 HV2.out.2).mono ?_);rintro e w3 ⟨⟨p3,cp3,rfl,hrow3,R3,ha3,hr3,ho3⟩,hc3,hf3,hs3⟩;have HF3:=hid (zqf hrow3 (zqf ha3 (zqf hr3 (zqf hf3 (zqf hs3 ho3)))));clear hrow3 ha3 hr3 hf3 hs3 ho3)))
 all_goals first
  |(have hA4:=jmm (w:=w) HF3.out.2.1 HF3.out.1 HB2.out.size HF3.out.2.2.2.1
    obtain⟨W4,hW4⟩:∃W4,w3.alloc (.cells #[.slice p3 N cp3] 51)=W4:=⟨_,rfl⟩;rw[hW4] at hA4 ⊢;obtain⟨B,hB⟩:∃B,w3.heap.size=B:=⟨_,rfl⟩;rw[hB] at hA4 ⊢;have HA4:=hid hA4;clear hA4 hB hc2 hc3 hW4)
  |(have hA4:=jjt (w:=w) HF3.out.2.1 HF3.out.1 (by rw[World.size_alloc];have:=HB2.out.size;omega) HF3.out.2.2.2.1 HBL.out HB2.out.size (HLO.out R3 _ w2.heap.size HB2.out.size (by rw[World.size_alloc];omega) HF3.out.2.2.2.2.2)
    obtain⟨W4,hW4⟩:∃W4,w3.setCell ⟨w2.heap.size,0,none⟩ (.slice p3 N cp3)=W4:=⟨_,rfl⟩;rw[hW4] at hA4 ⊢;obtain⟨B,hB⟩:∃B,w2.heap.size=B:=⟨_,rfl⟩;rw[hB] at hA4 ⊢;have HA4:=hid hA4;clear hA4 hB HBL hbc hbf hc2 hc3 hW4)
  |(have hA4:=jjt (w:=w) HF3.out.2.1 HF3.out.1 HB2.out.size HF3.out.2.2.2.1 HBL.out (zqg _) (HLO.out R3 _ w.heap.size (zqg _) (zqa hq2.out).1 HF3.out.2.2.2.2.2)
    obtain⟨W4,hW4⟩:∃W4,w3.setCell ⟨w.heap.size,0,none⟩ (.slice p3 N cp3)=W4:=⟨_,rfl⟩;rw[hW4] at hA4 ⊢;have HA4:=hid hA4;clear hA4 HBL hbc hbf hc2 hc3 hq2 hW4;obtain⟨B,hB⟩:∃B,w.heap.size=B:=⟨_,rfl⟩;rw[hB];have HA4:=(hid (show AfC O w W4 g b _ R3 vf vs vh _ N _ B from hB▸HA4.out));clear hB)
 all_goals
  clear c0;gi_wp2_with fail;refine⟨trivial,?_⟩;refine(callsIn_wide.2 (jiF g _)).mono ?_;rintro e w5 ⟨rfl,hw5⟩;obtain⟨Wa,hWa⟩:∃Wa,W4.alloc (.cells #[.int .i64 0] 3)=Wa:=⟨_,rfl⟩;have hsa:Wa.heap.size=W4.heap.size+1:=by rw[<-hWa];simp
  have bI:Boxed Wa W4.heap.size 3 (.int .i64 0):=by rw[<-hWa];exact Boxed.new W4 _ _
  have hba:Below W4.heap.size W4 Wa:=by rw[<-hWa];exact(Below.refl _ W4).alloc (zqg _) _
  rw[hWa] at hw5 ⊢;have hb5:Below W4.heap.size W4 w5:=by rw[hw5];exact hba.alloc hba.size _
  have bI5:Boxed w5 W4.heap.size 3 (.int .i64 0):=by rw[hw5];exact bI.alloc _
  have bM5:Boxed w5 (W4.heap.size+1) 28 (.pointer (some ⟨g,0,none⟩)):=by rw[hw5,<-hsa];exact Boxed.new Wa _ _
  have hs5:w5.heap.size=W4.heap.size+2:=by rw[hw5];simp;omega
  rw[hsa];obtain⟨q1,q2,q3,q4,q5,q6⟩:=HA4.out;have ma5:=q2.below hb5;have bL5:Boxed w5 B 51 (.slice p3 N cp3):=(hb5.block B q6).trans q1;have rw5:=jbe q3 hb5;have fr5:Fr O w w5:=q4.trans (Fr.of_below (O:=O) hb5) (fun i hi=>.inl hi);have sh1:ShC C {C with h:=1-C.h,now:=JG C.h C.W C.now met,old:=ze (1-C.h) C.W C.now met met}:=⟨fun _ _=>rfl,fun _ _=>rfl,fun _ _=>rfl,rfl,rfl,rfl,rfl,rfl⟩;have ow0:=jia HOK.out.1;have ow1:OkW {C with h:=1-C.h,now:=JG C.h C.W C.now met,old:=ze (1-C.h) C.W C.now met met}:=⟨ow0.rg,ow0.gl,ow0.sl,ow0.cd,ow0.va⟩;have hMB:MB O g b (W4.heap.size+1) C R3 vf vs vh w5:=⟨bM5,_,ma5,sh1,ow1⟩;have hseq:=jgx (3-1) (by omega) (Bs:=W4.heap.size+1) HOK.out.1.us hn1 hn2 hfb hsb w5 hMB;have H5:=hid (zqf hb5 (zqf bI5 (zqf bM5 (zqf ma5 (zqf bL5 (zqf rw5 (zqf fr5 (zqf sh1 (zqf ow1 (zqf hs5 q5))))))))));have hsz5:W4.heap.size+1<w5.heap.size:=by omega
  have hlo5:w.heap.size<=w5.heap.size:=fr5.size;clear hw5 hWa hsa bI hba hb5 bI5 bM5 hs5 q1 q2 q3 q4 q5 q6 ma5 bL5 rw5 fr5 sh1 ow0 ow1 hMB;gi_wp2_with fail;obtain⟨C1,hC1⟩:∃C1,({C with h:=1-C.h,now:=JG C.h C.W C.now met,old:=ze (1-C.h) C.W C.now met met}:CM)=C1:=⟨_,rfl⟩;obtain⟨ls,hls⟩:∃ls,(j8 C).map (zx C.h C.W C.now met)=ls:=⟨_,rfl⟩;rw[hC1,hls] at H5;have hLN:ls.length=N:=by rw[<-hls,List.length_map];exact HOK.out.2.2.2.2
  have hRN:(zd C g fb sb).length=N:=by rw[<-HOK.out.2.2.2.2,<-jba sp,List.length_map]
  have hlsp:∀y∈ls,jf (y:Int)=true/\y<18446744073709551616:=fun y hy=>by
   rw[<-hls] at hy;obtain⟨n,hn,rfl⟩:=List.mem_map.1 hy;have ok:=Jb HOK.out.2.2.1;exact⟨jlJ HA.out.z ok (HPT.out n hn) ((ZI HOK.out.2.2.1).1 n hn),jqK HA.out.z ok (HLT.out n hn)⟩
  have HCL:=hid (zqf hC1 (zqf hls (zqf hLN (zqf hRN hlsp))));have hN6:N<=60000:=by rw[<-HOK.out.2.2.2.2];exact HLEN.out
  clear hC1 hls hLN hRN hlsp;refine wpIn_rangeFunc_ownG rfl (by omega) (gf:=111) (lb:=#[.pointer (some ⟨W4.heap.size+1,0,none⟩)]) rfl trivial (enters_of Tryz.func111 (by kernel_rfl) rfl)
   hseq jaw (jjG H5.out.2.2.2.1 (zqg _) hsz5) (Below.refl _ _) (fun _=>rfl)
   (fun pre W'=>((CL O w g b R3 vf vs vh (jah C1 ls) pre W'/\∃v,Boxed W' B 51 v/\W'.ownsRow w.heap.size 65 1 v N (u64s ls)/\v=.slice p3 N cp3)/\Boxed W' W4.heap.size 3 (.int .i64 (pre.length:Int)))/\Boxed W' (W4.heap.size+1) 28 (.pointer (some ⟨g,0,none⟩)))
   (fun _ _ _=>False)
   (OwnFrom.and (OwnFrom.and (OwnFrom.and (jlA (jah C1 ls) hlo5) (Own.from (holdsRow_own w.heap.size B 51 65 1 (fun(_:List (RtS C g fb sb))=>N) (fun _=>u64s ls) (fun _ v=>v=.slice p3 N cp3)) _)) (Own.from (boxed_own W4.heap.size 3 (fun(pre:List (RtS C g fb sb))=>.int .i64 (pre.length:Int))) _)) (Own.from (boxed_own (W4.heap.size+1) 28 (fun _=>.pointer (some ⟨g,0,none⟩))) _))
   (fun _ _ _ _ _ hs _ _=>hs)
   ⟨⟨⟨⟨H5.out.2.2.2.1,H5.out.2.2.2.2.2.2.1⟩,_,H5.out.2.2.2.2.1,H5.out.2.2.2.2.2.1,rfl⟩,H5.out.2.1⟩,H5.out.2.2.1⟩
   ?_ ?_ ?_ ?_ ?_
  rotate_left
  ·intro l x W' K hK
   gi_wp2;exact hK
  ·rintro l pre x W' ⟨⟨⟨⟨ma,fr⟩,v,hbl,hrow,rfl⟩,hbi⟩,hbs⟩ hlt
   rw[HCL.out.2.2.2.1] at hlt;obtain⟨y,hy⟩:∃y,ls[pre.length]?=some y:=⟨_,zqh (by rw[HCL.out.2.2.1];exact hlt)⟩;have hst:=jgt pre ls C1;have hlen1:(jah C1 ls pre).sl.length=C.sl.length:=by rw[hst.2.1,<-HCL.out.1]
   have hlen2:(jah C1 ls pre).fr.length=C.fr.length:=by rw[hst.2.2,<-HCL.out.1]
   obtain⟨⟨n0,hcx⟩,hfx,hxlt,hxb⟩:=ma.rcell hfb hsb sp hlen1 hlen2 x.2;have hyp:=HCL.out.2.2.2.2 y (zqc hy);obtain⟨⟨xb,xo⟩,hxm⟩:=x;simp only at hcx hfx hxlt hxb;obtain⟨q,c',e,_⟩:=hrow.form (by omega);injection e with e1 e2 e3;subst e1 e3;clear e2;have hxw:xb<w.heap.size:=by
    rcases hxb with z|z|z
    ·rw[z];exact HA.out.bx.lt
    ·exact jC HA.out.of z
    ·exact jC HA.out.os z
   have hBw:=H5.out.2.2.2.2.2.2.2.2.2.2;have hIw:=HF3.out.2.2.2.1.size;have hqw:=(hrow.lt q rfl).1;have hcL:=hbl.cell;have hcI:=hbi.cell;have hfI:=hbi.frozen;have hcy:W'.cell? ⟨q,pre.length,none⟩=some (.int .u64 (y:Int)):=by
    rw[hrow.cellAt pre.length (by omega)];unfold u64s;rw[List.getElem?_map,hy];rfl
   have hWI:w.heap.size<=W4.heap.size:=HA4.out.fr.size;have hfr1:Fr (·=xb) W' (W'.setCell ⟨xb,xo,none⟩ (.int .u64 (y:Int))):=(Fr.refl (·=xb) W').setCell (p:=⟨xb,xo,none⟩) (.inl rfl) _;have hbi1:Boxed (W'.setCell ⟨xb,xo,none⟩ (.int .u64 (y:Int))) W4.heap.size 3 (.int .i64 (pre.length:Int)):=jav hfr1 hbi (by omega);have hcI1:=hbi1.cell;have hfI1:=hbi1.frozen;have hOx:O xb:=by
    rcases hxb with z|z|z
    ·rw[z];exact ma.og
    ·exact ma.o1 xb z
    ·exact ma.o2 xb z
   have hd1:(pre.length:Int)<(N:Int):=by omega
   have hd0:(0:Int)<=(pre.length:Int):=by omega
   have hdN:(pre.length:Int)<=60000:=by omega
   have hxn:((some (⟨xb,xo,none⟩:Addr))==none)=false:=rfl;have ma1:=ma.setA hfb hsb sp hlen1 hlen2 hxm y;have hK1:jan O g b (W4.heap.size+1) C R3 vf vs vh W' (W'.setCell ⟨xb,xo,none⟩ (.int .u64 (y:Int))):=fun⟨k1,C2,k2,k3,k4⟩=>
    ⟨jav hfr1 k1 (by omega),_,k2.setA hfb hsb sp k3.ls k3.lf hxm y,k3.setA sp hxm hyp.1,k4.setA k3 sp hxm hyp.2⟩
   have hbl1:Boxed (W'.setCell ⟨xb,xo,none⟩ (.int .u64 (y:Int))) B 51 (.slice (some ⟨q,0,none⟩) N cp3):=jav hfr1 hbl (by omega);have hbs1:Boxed (W'.setCell ⟨xb,xo,none⟩ (.int .u64 (y:Int))) (W4.heap.size+1) 28 (.pointer (some ⟨g,0,none⟩)):=jav hfr1 hbs (by omega);have hrow1:=jd hfr1 hrow (fun z hz=>by
    have:q=z:=by simpa[Value.ownBlock] using hz
    omega)
   have hfrO:=fr.setCell (p:=⟨xb,xo,none⟩) (.inl hOx) (.int .u64 (y:Int));rw[<-joh pre ⟨(xb,xo),hxm⟩ hy] at ma1;have hko:KeepsOthers W' (W'.setCell ⟨xb,xo,none⟩ (.int .u64 (y:Int))):=KeepsOthers.setCell _ _ _;have HX:=hid (zqf ma1 (zqf hK1 (zqf hbl1 (zqf hbs1 (zqf hrow1 (zqf hfrO (zqf hbi1 hko)))))));have HY:=hid (zqf hWI (zqf hBw (zqf hqw hxw)));clear ma fr hbl hrow hbi hbs hlt hst hlen1 hlen2 hxlt hxb hyp hy hfr1 hbi1 hOx ma1 hK1 hbl1 hbs1 hrow1 hfrO hko;gi_wp2_with fail;obtain⟨k1,k2,k3,k4,k5,k6,k7,k8⟩:=HX.out;obtain⟨z1,z2,z3,z4⟩:=HY.out;clear hcI1 hfI1;generalize W'.setCell ⟨xb,xo,none⟩ (.int .u64 (y:Int))=X at k1 k2 k3 k4 k5 k6 k7 k8 ⊢;have hfr2:Fr (·=W4.heap.size) X (X.setCell ⟨W4.heap.size,0,none⟩ (.int .i64 ((pre.length:Int)+1))):=(Fr.refl (·=W4.heap.size) X).setCell (p:=⟨W4.heap.size,0,none⟩) (.inl rfl) _;have hBI:B≠W4.heap.size:=by have:=HA4.out.hi;omega
   refine⟨(k8.trans (KeepsOthers.setCell _ _ _)).from _,jaw k2 (jaM HA4.out.ma (zqg _) hfr2 (fun i e=>by omega) fun q=>q.other (by omega) _),⟨⟨⟨k1.above HA4.out.ma hfr2 (fun i e=>by omega),k6.setCell (p:=⟨W4.heap.size,0,none⟩) (.inr z1) _⟩,k3.other hBI _,jd hfr2 k5 (fun z hz=>?_)⟩,?_⟩,k4.other (by omega) _⟩
   ·intro e
    have:q=z:=by simpa[Value.ownBlock] using hz
    subst this;have h1:=k7.not_row (by decide) k5;exact h1 (by rw[e];rfl)
   ·have:=k7.set (.int .i64 ((pre.length:Int)+1))
    rw[zqm];exact this
  ·rintro D ys W' hD hys ⟨⟨⟨⟨ma,fr⟩,v,hbl,hrow,rfl⟩,hbi⟩,hbs⟩ hK
   have hma:McAt O W' g (QI C met) b R3 vf vs vh:=by
    rw[<-HCL.out.2.1,jqJ _ ys hys sp,<-HCL.out.1,jqI sp met HOK.out.2.2.2.1] at ma;exact ma
   have HM:=hid (zqf hma fr);have HKD:=hid hK;clear ma fr hbl hrow hbi hbs hys hK hma;gi_wp2_with fail;refine⟨by simp,.inl ⟨_,_,rfl,run_takeDeferred HKD.out,?_⟩⟩;have hgp:=grownBy_putObj' W' D (.deferred none);refine⟨_,results_none rfl _ _ _,⟨⟨_,rfl⟩,⟨R3,HM.out.1.grown hgp (fun r e=>⟨.deferred (some []),(show W'.heap[r]?=some (.deferred (some [])) from zqd e▸HKD.out),rfl⟩)⟩,HM.out.2.grown hgp (fun k e=>.inr (by have:=zqd e;omega))⟩⟩
  ·rintro D c pre W' _ _ h _
   exact h.elim
end
end
section
variable {O:Nat->Prop} {w w1:World} {g b:Nat} {C:CM} {R:Nat->Value} {vf vs vh:Value}
theorem joo (a:McAt O w g C b R vf vs vh) (need:Nat) (hn:used C.now+need<=C.W):
  Calls prog 42 #[.pointer (some ⟨g,0,none⟩),.int .i64 need] w fun e w'=>e=.returned (.bool true)/\∃n,w'=w.drewN n:=by
 have c0:=a.c0;obtain⟨A,hA⟩:∃A:Int,(C.W:Int)-used C.now=A:=⟨_,rfl⟩;have HF:=hid (fun q=>jbD (a.m.drewN q) a.z rfl A hA);have d0:decide (A<(need:Int))=false:=zqq (by omega);have d1:decide ((need:Int)<=A)=true:=zqr (by omega);have HC:=hid c0;clear a hA hn;go_enter Tryz.func42,Tryz.ntmps42;go_wp2_with fail;refine(HF.out 0).mono ?_;rintro e w1 ⟨rfl,q,hq⟩;have HQ:=hid (show w1=w.drewN q from by rw[hq];rfl);have c1:w1.cell? ⟨g,0,none⟩=some (.pointer (some ⟨b,0,none⟩)):=by rw[HQ.out];exact HC.out
 have HF1:=hid (show Calls _ _ _ w1 _ from by have:=HF.out q;rw[<-HQ.out] at this;exact this);clear hq;go_wp2_with fail;refine HF1.out.mono ?_;rintro e w2 ⟨rfl,q2,hq2⟩;have HQ2:=hid (show w2=w.drewN (q+q2) from by rw[hq2,HQ.out,World.drewN_drewN]);clear hq2;go_wp2_with fail;go_ret;exact⟨rfl,_,HQ2.out⟩
def ZN (C:CM) (k s t:Nat):CM:={C with now:=C.now++[zH k s t]}
theorem jdM (a:McAt O w g C b R vf vs vh) (k s t:Nat) (hr:qw k s t=true) (hf:used C.now+s+1<=C.W) (hO:∀i,w.heap.size<=i->O i) {K S T P:Int} (hK:K=k) (hS:S=s) (hT:T=t) (hP:jx C.h C.W (used C.now)=P):
  Calls prog 30 #[.pointer (some ⟨b,0,none⟩),.int .i64 K,.int .i64 S,.int .i64 T] w fun e w'=>e=.returned (.tuple #[.int .i64 P,.int .i64 0])/\(∃R',McAt O w' g (ZN C k s t) b R' vf vs vh)/\Fr (Own b R) w w':=by
 refine(jhq a.m a.z k s t K S T P hK hS hT hP hr hf).mono ?_;rintro e w' ⟨rfl,R',hm,hR,hfr⟩;exact⟨rfl,⟨R',a.mem hfr hm (jiX a.z hr hf) hR hO⟩,hfr⟩
theorem jmX (a:McAt O w g C b R vf vs vh) (A:Nat) (hA:A<16) (op B D n:Int) (K:Nat) (N:Int) (h:N<1\/16384<N):
  Calls prog 131 #[.pointer (some ⟨g,0,none⟩),.agg #[.int .i64 op,.int .i64 A,.int .i64 B,.int .i64 D,.int .i64 n],.int .i64 K,.int .i64 N] w fun e w'=>Did O w g b (C,7) e w':=by
 obtain⟨X,hX,hblk,hb0,hF0,r0,r1,r2,r3,r4⟩:=ji O w op A B D n;have aX:=a.below hb0;have HW:=hid hX;have gA:=aX.regc hA;have i0:(0:Int)<=(A:Int):=by omega
 have i1:(A:Int)<16:=by omega
 have HA:=hid aX;have HF:=hid hF0;have hgO:=a.og;clear a hblk hb0 hF0 hX aX hA hgO gA r0 r1 r2 r3 r4;by_cases h1:N<1
 ·have k1:decide (N<1)=true:=zqr h1
  clear h h1;go_enter Tryz.func131,Tryz.ntmps131;go_wp2_with fail;rw[HW.out];go_ret;exact⟨rfl,⟨_,_,_,_,HA.out⟩,HF.out⟩
 ·have k1:decide (N<1)=false:=zqq h1
  have k2:decide (16384<N)=true:=zqr (by omega);clear h h1;go_enter Tryz.func131,Tryz.ntmps131;go_wp2_with fail;rw[HW.out];go_ret;exact⟨rfl,⟨_,_,_,_,HA.out⟩,HF.out⟩
end
