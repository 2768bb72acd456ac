/- A part of the proof of MachineMore. Conditions: those that each theorem names. -/
import Derived.Test.YtklcmdoadmcpfaaGreatDoorR42
set_option maxRecDepth 100000
set_option maxHeartbeats 400000000
namespace Go.Proofs.YtklcmdoadmcpfaaGreatDoor
open Go Go.RowKit IsaL
open Go.Lib(hid)
open Go.Proofs.Tryz(prog)
section
variable {O P:Nat->Prop} {w w1:World} {v:Value} {l:List jn}
theorem CodesAt.mono (h:CodesAt O w v l) (hP:∀i,i<w.heap.size->¬O i->¬P i):CodesAt P w v l:=by
 obtain⟨A,c,e,k⟩:=h;refine⟨A,c,e,fun j x hx=>?_⟩;obtain⟨B,off,lv,iv,q1,q2,q3,q4,q5,q6,q7⟩:=k j x hx;exact⟨B,off,lv,iv,q1,q2,hP B q2 q3,q4,q5,q6.mono hP,q7.mono hP⟩
theorem McAt.inn {g b:Nat} {C:CM} {R:Nat->Value} {vf vs vh:Value} (a:McAt O w g C b R vf vs vh):McAt (fun i=>O i/\i<w.heap.size) w g C b R vf vs vh:=
 {a with
  og:=⟨a.og,a.bx.lt⟩
  om:=fun i hi=>⟨a.om i hi,a.m.own_lt i hi⟩
  o1:=fun i hi=>⟨a.o1 i hi,jC a.of hi⟩
  o2:=fun i hi=>⟨a.o2 i hi,jC a.os hi⟩
  o3:=fun i hi=>⟨a.o3 i hi,jC a.oh hi⟩}
structure jvF (w w':World) (g rb:Nat) (M:RM):Prop where
 ex:∃(Ox Oy:Nat->Prop) (b:Nat) (C:CM) (R:Nat->Value) (D:Nat->Prop) (f A:Nat->Nat) (L:Lay),(∀i,Ox i->w.heap.size<=i/\i<w'.heap.size)/\(∀i,Oy i->w.heap.size<=i)/\(∀i,Ox i->¬Oy i)/\McAt Ox w' g C b R (.slice none 0 0) (.slice none 0 0) (.slice none 0 0)/\Sim M C D f A/\RAt Oy w' rb M L
 bl:Below w.heap.size w w'
theorem jgC (h:jaZ l):l.length<=1000000:=by have:=h.1;omega
theorem jiP (h:jaZ l):∀c∈l,c.ls.length<=1000000/\c.ins.length<=1000000/\∀x∈c.ls,x.tx.size<=1000000000:=fun c hc=>by
 obtain⟨h1,h2,h3⟩:=h.2 c hc;exact⟨by omega,by omega,fun x hx=>by have:=h3 x hx;omega⟩
theorem joC (h:jaZ l) (hg:Great l):∀c∈l,c.ls.length<=1000000/\c.ins.length<=1000000/\∀x∈c.ls,x.tx.size<=1000000000/\ -9223372036854775808<=x.num/\x.num<=9223372036854775807:=fun c hc=>by
 obtain⟨h1,h2,h3⟩:=jiP h c hc;exact⟨h1,h2,fun x hx=>⟨h3 x hx,((hg.2 c hc).2.2 x hx).2⟩⟩
theorem jdA:∀(ls:List jV),(∀x∈ls,x.tx.size<=24007)->jU ls<=3003*ls.length
 |[],_=>zqg _
 |x::r,h=>by
  have h1:=jdA r (fun y hy=>h y (List.mem_cons_of_mem _ hy));have h2:=h x (by simp);have h3:qz x<=3003:=by unfold qz;split<;>omega
  show qz x+jU r<=3003*(r.length+1);omega
theorem jcM:∀(l:List jn),(∀c∈l,SmC c)->jg l<=10000000*l.length
 |[],_=>zqg _
 |c::r,h=>by
  have h1:=jcM r (fun y hy=>h y (List.mem_cons_of_mem _ hy));obtain⟨q1,q2,q3⟩:=h c (by simp);have h3:=jdA c.ls q3;show zy c+jg r<=10000000*(r.length+1);unfold zy;omega
theorem js6 (h:jaZ l):jg l<=600000000:=by
 have h1:=jcM l h.2;have h2:=h.1;omega
theorem jlf {W S:Nat} (h0:64<=W) (h1:W<=65536) (s0:16<=S) (s1:S<=30000) (hops:∀Y,Below w.heap.size w Y->ZM Y) (hc:CodesAt (New w) w v l) (hsm:jaZ l) (hgr:Great l) (c s e:Int):
  Calls prog 14 #[.agg #[.int .i64 (W:Int),.int .i64 (S:Int),.int .i64 c,.int .i64 s,.int .i64 e],v] w fun e w'=>∃g rb,e=.returned (.tuple #[.pointer (some ⟨g,0,none⟩),.pointer (some ⟨rb,0,none⟩),.bool true,.bool ((Z9 (jZ W S) l).2==0)])/\jvF w w' g rb (Z9 (jZ W S) l).1:=by
 have HV:=hid hc;obtain⟨av,cv,rfl,_⟩:=hc;obtain⟨nc,hnc⟩:∃nc,l.length=nc:=⟨_,rfl⟩;rw[hnc] at HV ⊢;obtain⟨NR,hNR⟩:∃NR,Z9 (jZ W S) l=NR:=⟨_,rfl⟩;rw[hNR];have HNR2:=hid hNR;clear hNR;have hz:WF W 0 [] []:=jc8 h0 h1;have HZ:=hid (zqf hz (zqf s1 h1));have HL:=hid (zqf hsm hgr);have HOP:=hid hops;have hb0:=jq w (.cells #[.int .i64 (W:Int),.int .i64 (S:Int),.int .i64 c,.int .i64 s,.int .i64 e] 26);have hn0:=zqe w (.cells #[.int .i64 (W:Int),.int .i64 (S:Int),.int .i64 c,.int .i64 s,.int .i64 e] 26);have hs0:(w.alloc (.cells #[.int .i64 (W:Int),.int .i64 (S:Int),.int .i64 c,.int .i64 s,.int .i64 e] 26)).heap.size=w.heap.size+1:=Array.size_push ..;obtain⟨X0,hX0⟩:∃X0,w.alloc (.cells #[.int .i64 (W:Int),.int .i64 (S:Int),.int .i64 c,.int .i64 s,.int .i64 e] 26)=X0:=⟨_,rfl⟩;rw[hX0] at hb0 hn0 hs0;obtain⟨t2,ht2⟩:∃t2,w.heap.size=t2:=⟨_,rfl⟩;rw[ht2] at hn0;have r0:X0.cell? ⟨t2,0,none⟩=some (.int .i64 (W:Int)):=jb hn0 0;have r1:X0.cell? ⟨t2,1,none⟩=some (.int .i64 (S:Int)):=jb hn0 1;have HX0:=hid (zqf hX0 ht2);have HNM:=hid (jnQ W h0 h1 (S:Int) (by omega) (by omega) X0);have HNR:=hid (fun Y=>joa (W:=W) (S:=S) (show je8 W S from by unfold je8;omega) Y);have HB0:=hid (zqf hb0 (zqf hn0 hs0));clear hX0 ht2 hb0 hn0 hs0 hsm hgr hops hz hnc;go_enter Tryz.func14,Tryz.ntmps14;go_upto_region 1 with fail;rw[HX0.out.1,HX0.out.2];obtain⟨n0,hn0⟩:∃n0,X0.heap.size=n0:=⟨_,rfl⟩;have HN0:=hid hn0;rw[hn0] at HNM;obtain⟨g,hg⟩:∃g,n0+1=g:=⟨_,rfl⟩;rw[hg] at HNM;have HG:=hid hg;clear hn0 hg;go_wp2_with fail;refine HNM.out.mono ?_;rintro e w1 ⟨rfl,hx1,hm1,hb1⟩;rw[<-HN0.out] at hb1;have hq0:=jm hb1 r0;have hq1:=jm hb1 r1;have HW1:=hid (zqf hx1 (zqf hm1 hb1));obtain⟨n1,hn1⟩:∃n1,w1.heap.size=n1:=⟨_,rfl⟩;have HR1:=hid (HNR.out w1);rw[hn1] at HR1;obtain⟨rb,hrb⟩:∃rb,n1+1=rb:=⟨_,rfl⟩;rw[hrb] at HR1;have HN1:=hid (zqf hn1 hrb);clear hx1 hm1 hb1 hn1 hrb;go_wp2_with fail;refine HR1.out.mono ?_;rintro e w2 ⟨rfl,⟨hgl,hmr⟩,hb2,hs2⟩;have HR2:=hid (zqf hgl (zqf hmr (zqf hb2 hs2)));rw[<-HN1.out.1] at hb2;have hpn:((some (⟨g,0,none⟩:Addr))==none)=false:=rfl;have hv2:CodesAt (New w) w2 (.slice av nc cv) l:=HV.out.below (HB0.out.1.trans ((HW1.out.2.2.trans (hb2.mono HW1.out.2.2.size)).mono HB0.out.1.size));have HCP:=hid (jkA hv2 HL.out.1);clear hgl hmr hb2 hs2 hv2;go_wp2_with fail;refine HCP.out.mono ?_;rintro e w3 ⟨⟨v3,rfl,hc3⟩,hb3⟩;obtain⟨hgl,hmr,hb2,hs2⟩:=HR2.out;rw[<-HN1.out.1] at hb2 hs2;obtain⟨hx1,hm1,hb1⟩:=HW1.out;obtain⟨hn1,hrb⟩:=HN1.out;have hg0:=HG.out;have hx0:=HN0.out;have hz1:=hb1.size;have hz2:=hb2.size;have hz3:=hb3.size;have hz0:=HB0.out.2.2;have hxl:=hx1.lt;have hb13:Below w1.heap.size w1 w3:=hb2.trans (hb3.mono hz2);have hx3:=hx1.below hb13;have hm3:=hm1.below hb13;have ax:=McAt.new (O:=fun i=>(n0<=i/\i<n1)\/w3.heap.size<=i) hx3 hm3 HZ.out.1 (.inl (by omega)) (.inl (by omega)) (by omega);have hb03:Below w.heap.size w w3:=HB0.out.1.trans ((hb1.trans (hb13.mono hz1)).mono HB0.out.1.size);have hlow:∀i,((n0<=i/\i<n1)\/w3.heap.size<=i)->w.heap.size<=i:=fun i hi=>by
  have:=hb03.size;rcases hi with h|h<;>omega
 have HLD:=hid (jnp ax (Sim.new HZ.out.1 HZ.out.2.1) (Usd.new W S) (fun i hi=>.inr hi) (fun Y hY=>HOP.out Y (hb03.trans (hY.below hb03.size hlow))) (hc3.mono (fun i _ h z=>by
  rcases z with z|z
  ·exact h (.inl (by omega))
  ·exact h (.inr z))) (jgC HL.out.1) (jiP HL.out.1))
 rw[HNR2.out] at HLD;have H3:=hid (zqf hb03 (zqf hb3 hlow));obtain⟨av3,cv3,rfl,_⟩:=hc3;clear hgl hmr hb2 hs2 hx1 hm1 hb1 hn1 hrb hg0 hx0 hz1 hz2 hz3 hz0 hxl hb13 hx3 hm3 ax hb03 hlow hb3;go_wp2_with fail;refine HLD.out.mono ?_;rintro e w4 ⟨rfl,⟨C4,R4,D4,f4,A4,a4,sm4⟩,hf4⟩;obtain⟨hgl,hmr,hb2,hs2⟩:=HR2.out;rw[<-HN1.out.1] at hb2 hs2 hgl;rw[<-HN1.out.2,<-HN1.out.1] at hmr;obtain⟨hb03,hb3,hlow⟩:=H3.out;have hz2:=hb2.size;have hz3:=hb3.size;have hz4:=hf4.size;have hz1:=HW1.out.2.2;have hzx:=HW1.out.1.lt;have hgx:=HG.out;have hnx:=HN1.out;have hwx:=HN0.out;have hwz:=HB0.out.2.2;have nox:∀i,w1.heap.size<=i->i<w2.heap.size->¬((n0<=i/\i<n1)\/w3.heap.size<=i):=fun i q1 q2 q3=>by
  rcases q3 with q|q<;>omega
 have hgl4:=(hf4.block w1.heap.size (by omega) (nox _ (by omega) (by omega))).trans ((hb3.block w1.heap.size (by omega)).trans hgl);have hmr4:=(hf4.block (w1.heap.size+1) (by omega) (nox _ (by omega) (by omega))).trans ((hb3.block (w1.heap.size+1) (by omega)).trans hmr);have ay:=RAt.new (O:=fun i=>(n1<=i/\i<n1+2)\/w4.heap.size<=i) hgl4 hmr4 (by omega) (.inl (by omega)) (.inl (by omega));have hb04:Below w.heap.size w w4:=hb03.trans (hf4.below hb03.size hlow);have hc4:=((HV.out.below hb04).mono (P:=fun i=>(n1<=i/\i<n1+2)\/w4.heap.size<=i) (fun i q1 q2 q3=>by
  have q2:¬w.heap.size<=i:=q2;have:=hb04.size;rcases q3 with q|q<;>omega))
 have hrs:jrq (fun i=>(n1<=i/\i<n1+2)\/w4.heap.size<=i) w4 (w1.heap.size+1) {jZ W S with entry:=.I 0,value:=.I 0} (jb5 w1.heap.size).idle (jg l):=fun Y _ aY=>by
  have h2:=jov (show RAt _ Y _ (jZ W S) (jb5 w1.heap.size) from aY) (jg l) (by have:=js6 HL.out.1;omega);have e:=jbh W S (jg l);show Calls _ _ _ Y (fun e w'=>e=.returned (.bool (jz (jZ W S) (jg l:Int)).2)/\RAt _ w' _ (jz (jZ W S) (jg l:Int)).1 (jb5 w1.heap.size)/\Fr _ Y w');rw[e];exact h2
 have HLY:=hid (jon ay ⟨rfl,rfl,fun _ _=>rfl⟩ (fun i hi=>.inr hi) hc4 (jgC HL.out.1) (joC HL.out.1 HL.out.2) hrs (fun h=>by
  have e:=jbh W S (jg l);replace h:(jz (jZ W S) (jg l:Int)).2=true:=h;show(jz (jZ W S) (jg l:Int)).1.objs.length<=500000/\0<=(jz (jZ W S) (jg l:Int)).1.used/\(jz (jZ W S) (jg l:Int)).1.used<=500000/\jg l<=500000;rw[e] at h ⊢;have h3:jg l<=W:=of_decide_eq_true h;have h4:=HZ.out.2.2;exact⟨Nat.zero_le _,Int.le_refl _,by show(0:Int)<=_;decide,by omega⟩))
 rw[HNR2.out] at HLY;rw[hnx.1,hnx.2] at HLY;have H4:=hid (zqf a4 (zqf sm4 hf4));obtain⟨er,her⟩:∃er,NR.2=er:=⟨_,rfl⟩;rw[her] at HLY;have HER:=hid her;rw[her];clear hgl hmr hb2 hs2 hb03 hb3 hlow hz2 hz3 hz4 hz1 hzx hgx hwx hwz nox hgl4 hmr4 ay hb04 hc4 hrs a4 sm4 hf4 her hnx;go_wp2_with fail;refine HLY.out.mono ?_;rintro e w5 ⟨rfl,⟨L5,a5⟩,hf5⟩;have H5:=hid (zqf a5 hf5);clear a5 hf5;go_wp2_with fail;refine bodyPost_ret (jaV rfl _ _ _) rfl ?_;refine⟨g,rb,by rw[HER.out];rfl,?_⟩;obtain⟨a4,sm4,hf4⟩:=H4.out;obtain⟨a5,hf5⟩:=H5.out;obtain⟨hb03,hb3,hlow⟩:=H3.out;obtain⟨_,_,hb2,hs2⟩:=HR2.out;have hz3:=hb3.size;have hz4:=hf4.size;have hz5:=hf5.size;have hnx:=HN1.out;have hz1:=HW1.out.2.2.size;have hwx:=HN0.out;have hwz:=HB0.out.2.2;have ht2:=HX0.out.2;have hxl:=HW1.out.1.lt;have hg0:=HG.out;have ai:=a4.inn;have hno:∀i,(((n0<=i/\i<n1)\/w3.heap.size<=i)/\i<w4.heap.size)->¬((n1<=i/\i<n1+2)\/w4.heap.size<=i):=fun i q1 q2=>by
  obtain⟨q1|q1,q3⟩:=q1<;>rcases q2 with q2|q2<;>omega
 have ax:=ai.kept hf5 (hno _ ai.og) (fun i hi=>hno _ (ai.om i hi)) (fun i hi=>hno _ (ai.o1 i hi)) (fun i hi=>hno _ (ai.o2 i hi)) (fun i hi=>hno _ (ai.o3 i hi));have hb04:Below w.heap.size w w4:=hb03.trans (hf4.below hb03.size hlow);refine⟨⟨_,_,_,_,_,_,_,_,_,fun i hi=>?_,fun i hi=>?_,hno,ax,sm4,a5⟩,hb04.trans (hf5.below hb04.size (fun i hi=>?_))⟩
 ·have:=hlow i hi.1
  omega
 ·have:=hb04.size
  rcases hi with q|q<;>omega
 ·have:=hb04.size
  rcases hi with q|q<;>omega
end
structure KeepR (M:RM) (r:RM×Int):Prop where
 st:r.1.steps=M.steps
 bu:r.1.budget=M.budget
 li:r.1.limit=M.limit
 sk:r.1.stack=M.stack
 fr:0<M.frs.length->r.2=0->0<r.1.frs.length
 nn:r.1.objs.length<=M.objs.length+1
 en:r.1.entry=M.entry
section
variable {M:RM}
theorem KeepR.same {N:RM} {n:Int} (h1:N.steps=M.steps) (h2:N.budget=M.budget) (h3:N.limit=M.limit) (h4:N.stack=M.stack) (h5:N.frs=M.frs) (h6:N.objs.length<=M.objs.length+1) (h7:N.entry=M.entry):KeepR M (N,n):=⟨h1,h2,h3,h4,fun q _=>by show 0<N.frs.length;rw[h5];exact q,h6,h7⟩
theorem KeepR.stop (n:Int):KeepR M (M,n):=.same rfl rfl rfl rfl rfl (Nat.le_succ _) rfl
theorem KeepR.reg (a:Int) (v:RWd) (n:Int):KeepR M (M.reg a v,n):=.same rfl rfl rfl rfl rfl (Nat.le_succ _) rfl
theorem KeepR.top (g:RFm->RFm) (n:Int):KeepR M (M.top g,n):=⟨rfl,rfl,rfl,rfl,fun q _=>by show 0<(M.frs.modify _ g).length;rw[List.length_modify];exact q,Nat.le_succ _,rfl⟩
theorem Qj (v:RWd):KeepR M (Zf M v):=by
 unfold Zf;split
 ·exact .same rfl rfl rfl rfl rfl (Nat.le_succ _) rfl
 ·rename_i h _
  exact⟨rfl,rfl,rfl,rfl,fun q _=>by show 0<((M.frs.take (h.1+1)).modify h.1 _).length;rw[List.length_modify,List.length_take];omega,Nat.le_succ _,rfl⟩
theorem ja6 (a:Int) (o:RObj):KeepR M (jas M a o):=by
 have h:(jz M o.words).1.steps=M.steps/\(jz M o.words).1.budget=M.budget/\(jz M o.words).1.limit=M.limit/\(jz M o.words).1.stack=M.stack/\(jz M o.words).1.frs=M.frs/\(jz M o.words).1.objs=M.objs/\(jz M o.words).1.entry=M.entry:=by
  unfold jz;split<;>exact⟨rfl,rfl,rfl,rfl,rfl,rfl,rfl⟩
 obtain⟨h1,h2,h3,h4,h5,h6,h7⟩:=h;unfold jas;split
 ·refine .same h1 h2 h3 h4 h5 ?_ h7
  show((jz M o.words).1.objs++[o]).length<=_;rw[h6,zqm];exact zqg _
 ·exact .same h1 h2 h3 h4 h5 (by rw[h6];exact Nat.le_succ _) h7
theorem jb2 (a:Int) (t:ByteArray):KeepR M (jaa M a t):=by
 unfold jaa;split
 ·exact .stop _
 ·exact ja6 a _
theorem J0 (op A:Int) (b c:RWd):KeepR M (Zq M op A b c):=by
 unfold Zq;repeat' split
 all_goals first|exact .stop _|exact .reg _ _ _|exact Qj _
theorem jgb {N:RM} {x a b:RWd} (h1:N.steps=M.steps) (h2:N.budget=M.budget) (h3:N.limit=M.limit) (h4:N.stack=M.stack) (h6:N.objs.length<=M.objs.length+1) (h7:N.entry=M.entry):KeepR M (jcI N x a b):=by
 unfold jcI;have h:0<(N.frs++[RFm.mk x 0 []]).length:=by simp
 split
 ·exact⟨h1,h2,h3,h4,fun _ _=>h,h6,h7⟩
 ·exact⟨h1,h2,h3,h4,fun _ _=>h,h6,h7⟩
theorem jjH (op A B D n:Int):KeepR M (opR M op A B D n):=by
 unfold opR;split
 ·exact .reg _ _ _
 ·unfold jld;split;exact .stop _;exact .reg _ _ _
 ·exact .reg _ _ _
 ·unfold jhb;split;exact .stop _;exact .same rfl rfl rfl rfl rfl (Nat.le_succ _) rfl
 ·unfold jhc;split;exact .stop _;exact .reg _ _ _
 ·unfold jhf;split;exact .stop _;exact .top _ _
 ·exact J0 ..
 ·exact J0 ..
 ·exact J0 ..
 ·exact J0 ..
 ·exact J0 ..
 ·exact J0 ..
 ·exact J0 ..
 ·exact J0 ..
 ·unfold jbE;split;exact .stop _;exact ja6 ..
 ·unfold jbE;split;exact .stop _;exact ja6 ..
 ·exact ja6 ..
 ·unfold jey;split;exact .reg _ _ _;exact .stop _
 ·unfold jg8;split
  ·exact .same rfl rfl rfl rfl rfl (by show(M.objs.modify _ _).length<=_;rw[List.length_modify];exact Nat.le_succ _) rfl
  ·exact .stop _
 ·unfold jdc;split
  ·exact .same rfl rfl rfl rfl rfl (by show(M.objs.modify _ _).length<=_;rw[List.length_modify];exact Nat.le_succ _) rfl
  ·exact .stop _
 ·unfold jl0;split;exact .reg _ _ _;split;exact .stop _;exact .reg _ _ _
 ·exact .top _ _
 ·unfold jds;split;exact .stop _;split;exact .top _ _;exact .stop _
 ·unfold jex;split;exact .stop _;split;exact .stop _;exact .top _ _
 ·unfold jde;split;exact .stop _;exact jgb rfl rfl rfl rfl (Nat.le_succ _) rfl
 ·unfold jde;split;exact .stop _;exact jgb rfl rfl rfl rfl (Nat.le_succ _) rfl
 ·unfold jeK;split;exact .stop _;split
  ·exact⟨rfl,rfl,rfl,rfl,fun _ e=>(by cases e),Nat.le_succ _,rfl⟩
  ·exact⟨rfl,rfl,rfl,rfl,fun _ _=>by show 0<(M.frs.take _).length;rw[List.length_take];omega,Nat.le_succ _,rfl⟩
 ·exact .same rfl rfl rfl rfl rfl (Nat.le_succ _) rfl
 ·unfold jl4;split;exact .same rfl rfl rfl rfl rfl (Nat.le_succ _) rfl;exact .stop _
 ·exact Qj _
 ·unfold jha;split;exact .stop _;exact jb2 ..
 ·unfold jhg;split;exact .stop _;exact .reg _ _ _
 ·unfold jlX;split;exact .stop _;split;exact Qj _;exact jb2 ..
 ·unfold jlz;split;exact .stop _;split;exact Qj _;exact .reg _ _ _
 ·unfold jkE;split;exact .stop _;exact jb2 ..
 ·exact .stop _
theorem jqV:∀(n:Nat) (a b:RWd) (l:Nat),1<=l->(ZK (Zo M) n a b l).2<l
 |0,_,_,l,h=>by show 0<l;omega
 |n+1,a,b,l,h=>by
  have hf:∀(xs ys:List RWd) (l':Nat),(Zj (ZK (Zo M) n) xs ys l').2<=l':=fun xs=>by
   induction xs with
   |nil=>intro ys l';exact zqg _
   |cons x xs ih=>
    intro ys l';cases ys with
    |nil=>exact zqg _
    |cons y ys=>
     unfold Zj;have h1:=(jc2 (M:=M) n x y l').2;split
     ·exact zqs (ih ys _) h1
     ·exact h1
  unfold ZK;rw[if_neg (by omega)];cases Zo M a b with
  |inl k=>show l-1<l;omega
  |inr p=>have:=hf p.1 p.2 (l-1);show(Zj _ _ _ _).2<l;omega
structure jem (M:RM) (r:RM×Int):Prop where
 lo:M.steps<=r.1.steps
 hi:M.steps<=M.budget->r.1.steps<=M.budget
 bu:r.1.budget=M.budget
 li:r.1.limit=M.limit
 sk:r.1.stack=M.stack
 fr:0<M.frs.length->r.2=0->0<r.1.frs.length
 nn:r.1.objs.length<=M.objs.length+1
 en:r.1.entry=M.entry
theorem KeepR.step {r:RM×Int} (h:KeepR M r):jem M r:=⟨by rw[h.st];exact Int.le_refl _,fun q=>by rw[h.st];exact q,h.bu,h.li,h.sk,h.fr,h.nn,h.en⟩
theorem joH (hb:M.steps<=M.budget) (A:Int) (b c:RWd):jem M (ja3 M A b c):=by
 obtain⟨r,hr⟩:∃r,jco M b c (M.budget-M.steps+1).toNat=r:=⟨_,rfl⟩;have h1:=(jgz M b c (M.budget-M.steps+1).toNat).2;have h2:(jco M b c (M.budget-M.steps+1).toNat).2<_:=jqV _ b c _ (by omega);rw[hr] at h1 h2;unfold ja3;simp only[hr];obtain⟨N,hN⟩:∃N:RM,{M with steps:=M.steps+((M.budget-M.steps+1).toNat-r.2:Nat)-1}=N:=⟨_,rfl⟩;have e1:N.steps=M.steps+((M.budget-M.steps+1).toNat-r.2:Nat)-1:=by rw[<-hN]
 have e2:N.budget=M.budget/\N.limit=M.limit/\N.stack=M.stack/\N.frs=M.frs/\N.objs=M.objs/\N.entry=M.entry:=by rw[<-hN];exact⟨rfl,rfl,rfl,rfl,rfl,rfl⟩
 obtain⟨e2,e3,e4,e5,e6,e7⟩:=e2;rw[hN];have key:∀q:RM×Int,KeepR N q->jem M q:=fun q k=>⟨by rw[k.st,e1];omega,fun _=>by rw[k.st,e1];omega,k.bu.trans e2,k.li.trans e3,k.sk.trans e4,fun h=>k.fr (by rw[e5];exact h),by rw[<-e6];exact k.nn,k.en.trans e7⟩;split
 ·exact key _ (.stop _)
 ·split
  ·exact key _ (Qj _)
  ·exact key _ (.reg _ _ _)
theorem jj2 (hb:M.steps<=M.budget) (x:I5):jem M (doR M x):=by
 unfold doR;split
 ·exact joH hb _ _ _
 ·exact(jjH _ _ _ _ _).step
theorem joI (hb:M.steps<=M.budget):jem M (Zr M):=by
 unfold Zr;split
 ·exact(KeepR.stop _).step
 ·rename_i x _
  have k:KeepR M (M.top fun f=>{f with place:=f.place+1},0):=.top _ _;have:=jj2 (M:=M.top fun f=>{f with place:=f.place+1}) hb x;exact⟨this.lo,this.hi,this.bu,this.li,this.sk,fun h=>this.fr (k.fr h rfl),this.nn,this.en⟩
end
structure RSt (O:Nat->Prop) (w0:World) (g b r9 t8:Nat) (M:RM) (C:CM) (kd st:Int) (W:World):Prop where
 mc:∃R vf vs vh,McAt (fun i=>O i/\i≠r9/\i≠t8) W g C b R vf vs vh
 rc:W.heap[r9]?=some (.cells #[.int .i64 kd,.int .i64 st] 43 (0,0))
 tc:W.heap[t8]?=some (.cells #[.int .i64 0,.int .i64 0] 43 (0,0))
 fr:Fr O w0 W
section
variable {O:Nat->Prop} {w w0 W W1:World} {g b r9 t8:Nat} {C C':CM} {M N:RM} {kd st:Int}
section
variable (h:RSt O w0 g b r9 t8 M C kd st W)
include h
theorem RSt.lt:r9<W.heap.size/\t8<W.heap.size:=⟨(zqa h.rc).1,(zqa h.tc).1⟩
theorem RSt.does (hf:Fr (fun i=>O i/\i≠r9/\i≠t8) W W1) (hm:∃R vf vs vh,McAt (fun i=>O i/\i≠r9/\i≠t8) W1 g C' b R vf vs vh):RSt O w0 g b r9 t8 N C' kd st W1:=
 ⟨hm,(hf.block r9 h.lt.1 (fun q=>q.2.1 rfl)).trans h.rc,(hf.block t8 h.lt.2 (fun q=>q.2.2 rfl)).trans h.tc,h.fr.trans hf (fun _ hi=>.inl hi.1)⟩
theorem RSt.other:RSt O w0 g b r9 t8 N C kd st W:=⟨h.mc,h.rc,h.tc,h.fr⟩
theorem RSt.below (hb:Below W.heap.size W W1):RSt O w0 g b r9 t8 M C kd st W1:=by
 obtain⟨R,vf,vs,vh,a⟩:=h.mc;exact h.does ((Fr.of_below (O:=fun i=>O i/\i≠r9/\i≠t8) hb)) ⟨R,vf,vs,vh,a.below hb⟩
theorem RSt.apart:g≠r9/\g≠t8:=by
 obtain⟨R,vf,vs,vh,a⟩:=h.mc;exact⟨fun e=>a.og.2.1 e,fun e=>a.og.2.2 e⟩
theorem RSt.kind (hn:r9≠t8) (hO:O r9) (k:Int):RSt O w0 g b r9 t8 M C k st (W.setCell ⟨r9,0,none⟩ (.int .i64 k)):=by
 obtain⟨R,vf,vs,vh,a⟩:=h.mc;have hf:Fr (·=r9) W (W.setCell ⟨r9,0,none⟩ (.int .i64 k)):=(Fr.refl (·=r9) W).setCell (p:=⟨r9,0,none⟩) (.inl rfl) _;refine⟨⟨R,vf,vs,vh,a.kept hf (fun e=>a.og.2.1 e) (fun i hi e=>(a.om i hi).2.1 e) (fun i hi e=>(a.o1 i hi).2.1 e) (fun i hi e=>(a.o2 i hi).2.1 e) (fun i hi e=>(a.o3 i hi).2.1 e)⟩,?_,(hf.block t8 h.lt.2 (fun e=>hn e.symm)).trans h.tc,h.fr.setCell (p:=⟨r9,0,none⟩) (.inl hO) _⟩;show(W.heap.modify r9 _)[r9]?=_;rw[Array.getElem?_modify,if_pos rfl,h.rc];rfl
theorem RSt.steps (hn:r9≠t8) (hO:O r9) (k:Int):RSt O w0 g b r9 t8 M C kd k (W.setCell ⟨r9,1,none⟩ (.int .i64 k)):=by
 obtain⟨R,vf,vs,vh,a⟩:=h.mc;have hf:Fr (·=r9) W (W.setCell ⟨r9,1,none⟩ (.int .i64 k)):=(Fr.refl (·=r9) W).setCell (p:=⟨r9,1,none⟩) (.inl rfl) _;refine⟨⟨R,vf,vs,vh,a.kept hf (fun e=>a.og.2.1 e) (fun i hi e=>(a.om i hi).2.1 e) (fun i hi e=>(a.o1 i hi).2.1 e) (fun i hi e=>(a.o2 i hi).2.1 e) (fun i hi e=>(a.o3 i hi).2.1 e)⟩,?_,(hf.block t8 h.lt.2 (fun e=>hn e.symm)).trans h.tc,h.fr.setCell (p:=⟨r9,1,none⟩) (.inl hO) _⟩;show(W.heap.modify r9 _)[r9]?=_;rw[Array.getElem?_modify,if_pos rfl,h.rc];rfl
theorem RSt.c0:W.cell? ⟨r9,0,none⟩=some (.int .i64 kd):=jb h.rc 0
theorem RSt.c1:W.cell? ⟨r9,1,none⟩=some (.int .i64 st):=jb h.rc 1
theorem RSt.ends:Calls prog 56 #[.pointer (some ⟨g,0,none⟩)] W fun e w'=>(∃v,e=.returned v)/\RSt O w0 g b r9 t8 M (Qi C) kd st w':=by
 obtain⟨R,vf,vs,vh,a⟩:=h.mc;refine(ju6 a).mono ?_;rintro e w' ⟨h1,h2,h3⟩;exact⟨h1,h.does h3 ⟨R,_,_,_,h2⟩⟩
theorem RSt.out (hO:O t8) (x y:Value):(∃R vf vs vh,McAt O ((W.setCell ⟨t8,0,none⟩ x).setCell ⟨t8,1,none⟩ y) g C b R vf vs vh)/\Fr O w0 ((W.setCell ⟨t8,0,none⟩ x).setCell ⟨t8,1,none⟩ y):=by
 obtain⟨R,vf,vs,vh,a⟩:=h.mc;have hf:Fr (·=t8) W ((W.setCell ⟨t8,0,none⟩ x).setCell ⟨t8,1,none⟩ y):=((Fr.refl (·=t8) W).setCell (p:=⟨t8,0,none⟩) (.inl rfl) _).setCell (p:=⟨t8,1,none⟩) (.inl rfl) _;exact⟨⟨R,vf,vs,vh,(a.kept hf (fun e=>a.og.2.2 e) (fun i hi e=>(a.om i hi).2.2 e) (fun i hi e=>(a.o1 i hi).2.2 e) (fun i hi e=>(a.o2 i hi).2.2 e) (fun i hi e=>(a.o3 i hi).2.2 e)).wide fun i hi=>hi.1⟩,h.fr.trans hf (fun i hi=>.inl (by rw[show i=t8 from hi];exact hO))⟩
theorem RSt.new (hO:∀i,w0.heap.size<=i->O i):∀i,W.heap.size<=i->O i/\i≠r9/\i≠t8:=fun i hi=>⟨hO i (zqs h.fr.size hi),by have:=h.lt.1;omega,by have:=h.lt.2;omega⟩
theorem RSt.collect (hO:∀i,w0.heap.size<=i->O i) {D:Nat->Prop} {f A:Nat->Nat} (s:Sim M C D f A):
  Calls prog 22 #[.pointer (some ⟨g,0,none⟩)] W fun e w'=>(∃v,e=.returned v)/\∃C' D' f' A',RSt O w0 g b r9 t8 M C' kd st w'/\Sim M C' D' f' A':=by
 obtain⟨R,vf,vs,vh,a⟩:=h.mc;refine(jbo a s (h.new hO)).mono ?_;rintro e w' ⟨h1,C',R',D',f',A',h2,h3,h4⟩;exact⟨h1,C',D',f',A',h.does h4 ⟨_,_,_,_,h2⟩,h3⟩
theorem RSt.fetchN {D:Nat->Prop} {f A:Nat->Nat} (s:Sim M C D f A) (hl:0<M.frs.length) (hi:jbr M=none):
  Calls prog 53 #[.pointer (some ⟨g,0,none⟩)] W fun e w'=>e=.returned (.tuple #[.agg #[.int .i64 0,.int .i64 0,.int .i64 0,.int .i64 0,.int .i64 0],.bool false])/\RSt O w0 g b r9 t8 M C kd st w':=by
 obtain⟨R,vf,vs,vh,a⟩:=h.mc;refine(jkJ a s (k:=M.frs.length-1) (by omega) hi).mono ?_;rintro e w' ⟨h1,h2⟩;exact⟨h1,h.below h2⟩
end
def Nx (O:Nat->Prop) (w:World) (g b:Nat) (M:RM) (E:List Nat) (x:I5) (C2:CM):Prop:=∃k R vf vs vh D f A y2,Next O w g b M E k x C2 R vf vs vh D f A y2
theorem Nx.below {O2:Nat->Prop} {E:List Nat} {x:I5} {C2:CM} (h:Nx O2 W g b M E x C2) (hb:Below W.heap.size W W1):Nx O2 W1 g b M E x C2:=by
 obtain⟨k,R,vf,vs,vh,D,f,A,y2,n⟩:=h;exact⟨k,R,vf,vs,vh,D,f,A,y2,{n with a:=n.a.below hb}⟩
section
variable (h:RSt O w0 g b r9 t8 M C kd st W) (hO:∀i,w0.heap.size<=i->O i)
include h hO
theorem RSt.fetchS (hG:∀Y,Fr O w0 Y->NumL.Tab Y/\ZM Y) {D:Nat->Prop} {f A:Nat->Nat} {E:List Nat} (s:Sim M C D f A) (u:Usd M E) (hl:0<M.frs.length) {x:I5} (hi:jbr M=some x):
  Calls prog 53 #[.pointer (some ⟨g,0,none⟩)] W fun e w'=>e=.returned (.tuple #[jfn x,.bool true])/\∃C2,RSt O w0 g b r9 t8 M C2 kd st w'/\Nx (fun i=>O i/\i≠r9/\i≠t8) w' g b M E x C2:=by
 obtain⟨R,vf,vs,vh,a⟩:=h.mc;refine(jkK a s u (h.new hO) (fun Y hY=>(hG Y (h.fr.trans (Fr.of_below (O:=O) hY) fun i hi=>.inl hi)).2) (k:=M.frs.length-1) (by omega) hi).mono ?_;rintro e w' ⟨h1,h2,C2,R',vf',vs',vh',y2,nx⟩;exact⟨h1,C2,h.does h2 ⟨_,_,_,_,nx.a⟩,_,_,_,_,_,_,_,_,_,nx⟩
theorem RSt.doS (hG:∀Y,Fr O w0 Y->NumL.Tab Y/\ZM Y) {E:List Nat} {x:I5} (nx:Nx (fun i=>O i/\i≠r9/\i≠t8) W g b M E x C) (hs:x.1≠15):
  Calls prog 55 #[.pointer (some ⟨g,0,none⟩),jfn x] W fun e w'=>∃c:CM×Int,e=.returned (.int .i64 c.2)/\RSt O w0 g b r9 t8 M c.1 kd st w'/\Rel c (doR (zM M) x):=by
 obtain⟨k,R,vf,vs,vh,D,f,A,y2,n⟩:=nx;refine(jsH n (h.new hO) (fun Y hY=>(hG Y (h.fr.trans (Fr.of_below (O:=O) hY) fun i hi=>.inl hi)).1) hs).mono ?_;rintro e w' ⟨c,⟨h1,h2,h3⟩,h4⟩;exact⟨c,h1,h.does h3 h2,h4⟩
theorem RSt.sameS {E:List Nat} {x:I5} (nx:Nx (fun i=>O i/\i≠r9/\i≠t8) W g b M E x C) (hs:x.1=15) (hb0:M.steps<=M.budget+1) (hb1:M.budget-M.steps<=190000):
  Calls prog 54 #[.pointer (some ⟨g,0,none⟩),jfn x,.int .i64 (M.budget-M.steps+1)] W fun e w'=>∃c:CM×Int,e=.returned (.tuple #[.int .i64 c.2,.int .i64 ((doR (zM M) x).1.steps-M.steps)])/\RSt O w0 g b r9 t8 M c.1 kd st w'/\Rel c (doR (zM M) x):=by
 obtain⟨k,R,vf,vs,vh,D,f,A,y2,n⟩:=nx;refine(jnR n (h.new hO) hs hb0 hb1).mono ?_;rintro e w' ⟨c,h1,h2,h3,h4⟩;exact⟨c,h1,h.does h3 h2,h4⟩
end
end
