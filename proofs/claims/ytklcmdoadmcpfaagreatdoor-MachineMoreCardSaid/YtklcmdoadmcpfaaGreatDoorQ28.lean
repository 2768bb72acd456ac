/- A part of the proof of MachineMoves. Conditions: those that each theorem names. -/
import Derived.Test.YtklcmdoadmcpfaaGreatDoorQ27
import Derived.Test.YtklcmdoadmcpfaaGreatDoorQS
import Derived.Lib.SmallJoins
import Derived.Lib.AppendIntMem
set_option maxRecDepth 100000
set_option maxHeartbeats 400000000
namespace Go.Proofs.YtklcmdoadmcpfaaGreatDoor
open Go Go.RowKit IsaL
open Go.Lib(hid)
open Go.Proofs.Tryz(prog)
section
variable {O O2:Nat->Prop} {w w1:World} {g b:Nat} {C:CM} {R:Nat->Value} {vf vs vh:Value}
theorem McAt.wide (a:McAt O w g C b R vf vs vh) (h:∀i,O i->O2 i):McAt O2 w g C b R vf vs vh:=
 {a with og:=h _ a.og,om:=fun i hi=>h i (a.om i hi),o1:=fun i hi=>h i (a.o1 i hi),o2:=fun i hi=>h i (a.o2 i hi),o3:=fun i hi=>h i (a.o3 i hi)}
theorem McAt.off (a:McAt O w g C b R vf vs vh) {t:Nat} (ht:w.heap.size<=t):McAt (fun i=>O i/\i≠t) w g C b R vf vs vh:=
 {a with
  og:=⟨a.og,by have:=a.bx.lt;omega⟩
  om:=fun i hi=>⟨a.om i hi,by have:=a.m.own_lt i hi;omega⟩
  o1:=fun i hi=>⟨a.o1 i hi,by have:=jC a.of hi;omega⟩
  o2:=fun i hi=>⟨a.o2 i hi,by have:=jC a.os hi;omega⟩
  o3:=fun i hi=>⟨a.o3 i hi,by have:=jC a.oh hi;omega⟩}
def QS (O:Nat->Prop) (g b:Nat) (vf vs vh:Value) (ok:Bool) (P:CM->Prop) (X:World) (e:Ending) (w':World):Prop:=e=.returned (.bool ok)/\∃C' R',McAt O w' g C' b R' vf vs vh/\Fr O X w'/\P C'
theorem jkN (A:Nat) (op B D n:Int) (K:Nat) (N:Nat) (h1:1<=N) (h2:N<=16384) {P:CM->Prop}
  (HR:∀X,X=w.alloc (.cells #[.int .i64 op,.int .i64 A,.int .i64 B,.int .i64 D,.int .i64 n] 41)->Calls prog 42 #[.pointer (some ⟨g,0,none⟩),.int .i64 ((1+N:Nat):Int)] X (QS (fun i=>O i/\i≠w.heap.size) g b vf vs vh false P X)):
  Calls prog 131 #[.pointer (some ⟨g,0,none⟩),.agg #[.int .i64 op,.int .i64 A,.int .i64 B,.int .i64 D,.int .i64 n],.int .i64 K,.int .i64 N] w fun e w'=>∃C',P C'/\Did O w g b (C',5) e w':=by
 obtain⟨X,hX⟩:∃X,w.alloc (.cells #[.int .i64 op,.int .i64 A,.int .i64 B,.int .i64 D,.int .i64 n] 41)=X:=⟨_,rfl⟩;have hF0:Fr O w (w.alloc (.cells #[.int .i64 op,.int .i64 A,.int .i64 B,.int .i64 D,.int .i64 n] 41)):=(Fr.refl O w).alloc _;rw[hX] at hF0;have HW:=hid hX;have HF:=hid hF0;have HRM:=hid (HR X hX.symm);have k1:decide ((N:Int)<1)=false:=zqq (by omega);have k2:decide (16384<(N:Int))=false:=zqq (by omega);have n0:(0:Int)<=(N:Int):=by omega
 have n1:(N:Int)<=16384:=by omega
 clear hF0 hX h1 h2 HR;go_enter Tryz.func131,Tryz.ntmps131;go_wp2_with fail;rw[HW.out];go_wp2_with fail;refine HRM.out.mono ?_;rintro e w7 ⟨rfl,C7,R7,h7,hf7,hP⟩;have H7:=hid (zqf h7 (zqf hf7 hP));clear h7 hf7 hP;go_wp2_with fail;go_ret;exact⟨C7,H7.out.2.2,rfl,⟨_,_,_,_,H7.out.1.wide fun i q=>q.1⟩,HF.out.trans H7.out.2.1 (fun i hi=>.inl hi.1)⟩
theorem jkO (hO:∀i,w.heap.size<=i->O i) (hgw:g<w.heap.size) (A:Nat) (hA:A<16) (op B D n:Int) (K:Nat) (N:Nat) (h1:1<=N) (h2:N<=16384) (hr:qw K N N=true) {P:CM->Prop} (hPr:∀C',P C'->used C'.now+(1+N)<=C'.W)
  (HR:∀X,X=w.alloc (.cells #[.int .i64 op,.int .i64 A,.int .i64 B,.int .i64 D,.int .i64 n] 41)->Calls prog 42 #[.pointer (some ⟨g,0,none⟩),.int .i64 ((1+N:Nat):Int)] X (QS (fun i=>O i/\i≠w.heap.size) g b vf vs vh true P X)):
  Calls prog 131 #[.pointer (some ⟨g,0,none⟩),.agg #[.int .i64 op,.int .i64 A,.int .i64 B,.int .i64 D,.int .i64 n],.int .i64 K,.int .i64 N] w fun e w'=>∃C',P C'/\Did O w g b ({ZN C' K N N with rg:=jG C'.rg A (2*(jx C'.h C'.W (used C'.now)).toNat)},0) e w':=by
 obtain⟨X,hX⟩:∃X,w.alloc (.cells #[.int .i64 op,.int .i64 A,.int .i64 B,.int .i64 D,.int .i64 n] 41)=X:=⟨_,rfl⟩;have hblk:=zqe w (.cells #[.int .i64 op,.int .i64 A,.int .i64 B,.int .i64 D,.int .i64 n] 41);have hF0:Fr O w (w.alloc (.cells #[.int .i64 op,.int .i64 A,.int .i64 B,.int .i64 D,.int .i64 n] 41)):=(Fr.refl O w).alloc _;rw[hX] at hblk hF0;have HW:=hid hX;have r1:X.cell? ⟨w.heap.size,1,none⟩=some (.int .i64 A):=jb hblk 1;have HF:=hid hF0;have HRM:=hid (HR X hX.symm);have HO:=hid (fun i (hi:X.heap.size<=i)=>show O i/\i≠w.heap.size from⟨hO i (zqs hF0.size hi),by have:=(zqa hblk).1;omega⟩);have HPR:=hid hPr;have i0:(0:Int)<=(A:Int):=by omega
 have i1:(A:Int)<16:=by omega
 have k1:decide ((N:Int)<1)=false:=zqq (by omega);have k2:decide (16384<(N:Int))=false:=zqq (by omega);have n0:(0:Int)<=(N:Int):=by omega
 have n1:(N:Int)<=16384:=by omega
 clear hF0 hX h1 h2 HR hO hblk hPr;go_enter Tryz.func131,Tryz.ntmps131;go_wp2_with fail;rw[HW.out];go_wp2_with fail;refine HRM.out.mono ?_;rintro e w3 ⟨rfl,C3,R3,a3,hf3,hP3⟩;have hfree:=HPR.out _ hP3;have s3:w3.cell? ⟨w.heap.size,1,none⟩=some (.int .i64 A):=hf3.cell_some r1 (fun q=>q.2 rfl);have hO3:∀i,w3.heap.size<=i->O i/\i≠w.heap.size:=fun i hi=>HO.out i (zqs hf3.size hi);have hz:=a3.z.w1;obtain⟨p,hp⟩:∃p,(jx C3.h C3.W (used C3.now)).toNat=p:=⟨_,rfl⟩;have hpos:=ZF C3.h C3.W (used C3.now:Nat);have hp0:jx C3.h C3.W (used C3.now)=(p:Int):=by omega
 have hp1:1<=p:=by omega
 have hp2:p<=131072:=by
  have:jx C3.h C3.W (used C3.now)<=131072:=by
   unfold jx;split<;>omega
  omega
 have HAL:=hid (jdM a3 K N N hr (by show used C3.now+N+1<=C3.W;omega) hO3 rfl rfl rfl hp0);have HPT:=hid (fun w=>jaT p hp1 hp2 w);have HRG:=hid (fun(W:World) R' (x:McAt (fun i=>O i/\i≠w.heap.size) W g (ZN C3 K N N) b R' vf vs vh)=>x.reg hA (2*p));have hib:¬Own b R3 w.heap.size:=fun h=>(a3.om _ h).2 rfl;have HS:=hid (fun(W:World) (hf7:Fr (Own b R3) w3 W)=>show W.cell? ⟨w.heap.size,1,none⟩=some (.int .i64 A) from hf7.cell_some (p:=⟨w.heap.size,1,none⟩) s3 hib);have HOM:=hid a3.om;have hgO:=a3.og;have c0:=a3.c0;have H3:=hid (zqf hf3 hP3);clear a3 hf3 hP3 hO3 hfree hpos hp0 hp1 hp2 hr hib hz;go_wp2_with fail;refine HAL.out.mono ?_;rintro e w7 ⟨rfl,⟨R7,h7⟩,hf7⟩;have S6:=HS.out _ hf7;have rz:=h7.fz (2+A);have gA7:=h7.regc hA;have S7:∀v,(w7.setCell ⟨g,2+A,none⟩ v).drew.cell? ⟨w.heap.size,1,none⟩=some (.int .i64 A):=fun v=>(World.cell?_setCell_far _ _ _ _ (show g≠w.heap.size by omega)).trans S6;have H7:=hid (zqf (HRG.out _ _ h7) hf7);clear h7 hf7;go_wp2_with fail;go_region_held3 (fun Y=>Y.cell? ⟨w.heap.size,1,none⟩=some (.int .i64 A)) (first|(with_reducible assumption)|exact S6|exact S7 _) (first|(go_at_call 82;refine(HPT.out _).mono ?_;rintro e w' ⟨rfl,rfl⟩));go_wp2_with fail;go_ret;refine⟨C3,H3.out.2,?_⟩;rw[hp];refine⟨rfl,⟨_,_,_,_,(H7.out.1.wide fun i q=>q.1).drewN _⟩,?_⟩;exact(((HF.out.trans H3.out.1 (fun i hi=>.inl hi.1)).trans H7.out.2 (fun i hi=>.inl (HOM.out i hi).1)).setCell (p:=⟨g,2+A,none⟩) (.inl hgO.1) _).drewN _
end
section
variable {O:Nat->Prop} {w w1:World} {g b:Nat} {C:CM} {R:Nat->Value} {vf vs vh:Value}
def jea (C:CM) (y:Nat):CM:={C with now:=C.now++[⟨2,1,[y],0⟩]}
theorem joG (now:List Ob) (o:Ob):je (now++[o]) now.length=used now:=by
 unfold je;rw[List.take_left]
theorem jn8 (a:McAt O w g (ZN C 2 1 1) b R vf vs vh) {p:Nat} (hp:jx C.h C.W (used C.now)=p) (hp2:p<=131072) {y:Nat} (hy:y<18446744073709551616) (hO:∀i,w.heap.size<=i->O i):
  Calls prog 29 #[.pointer (some ⟨b,0,none⟩),.int .i64 (p:Int),.int .i64 0,.int .u64 (y:Int)] w fun e w'=>e=.returned (.int .i64 0)/\McAt O w' g (jea C y) b R vf vs vh/\Fr (Own b R) w w':=by
 have hj:C.now.length<(C.now++[zH 2 1 1]).length:=by simp
 have hi:jl (C.now++[zH 2 1 1]) C.h C.W (p:Int)=some C.now.length:=by
  have:=J4 (h:=C.h) (W:=C.W) hj;rw[joG,hp] at this;exact this
 have ho:(C.now++[zH 2 1 1])[C.now.length]?=some (zH 2 1 1):=by simp
 refine(Qf a.m a.z (p:Int) 0 y (by omega) hi ho (by decide)).mono ?_;rintro e w' ⟨rfl,hm,hf⟩;have he:setF (C.now++[zH 2 1 1]) C.now.length 0 y=C.now++[⟨2,1,[y],0⟩]:=by
  rw[Zk ho,List.set_append_right _ _ (zqg _),Nat.sub_self];rfl
 have:=a.mem hf hm (jaA a.z ho hy) (fun i hi=>.inl hi) hO;refine⟨rfl,?_,hf⟩;have e2:({ZN C 2 1 1 with h:=C.h,now:=setF (C.now++[zH 2 1 1]) C.now.length 0 y,old:=C.old}:CM)=jea C y:=by rw[he];rfl
 exact e2▸this
end
section
variable {O:Nat->Prop} {w:World} {g b:Nat} {vf vs vh:Value}
theorem jqC (A B:Nat) {P:CM->Prop}
  (HR:Calls prog 42 #[.pointer (some ⟨g,0,none⟩),.int .i64 2] w (QS O g b vf vs vh false P w)):
  Calls prog 132 #[.pointer (some ⟨g,0,none⟩),.int .i64 A,.int .i64 B] w fun e w'=>∃C',P C'/\Did O w g b (C',5) e w':=by
 have HRM:=hid HR;clear HR;go_enter Tryz.func132,Tryz.ntmps132;go_wp2_with fail;refine HRM.out.mono ?_;rintro e w7 ⟨rfl,C7,R7,h7,hf7,hP⟩;have H7:=hid (zqf h7 (zqf hf7 hP));clear h7 hf7 hP;go_wp2_with fail;go_ret;exact⟨C7,H7.out.2.2,rfl,⟨_,_,_,_,H7.out.1⟩,H7.out.2.1⟩
theorem jqD (hO:∀i,w.heap.size<=i->O i) (A B:Nat) (hA:A<16) (hB:B<16) {P:CM->Prop} (hPr:∀C',P C'->used C'.now+2<=C'.W/\C'.rg B<18446744073709551616)
  (HR:Calls prog 42 #[.pointer (some ⟨g,0,none⟩),.int .i64 2] w (QS O g b vf vs vh true P w)):
  Calls prog 132 #[.pointer (some ⟨g,0,none⟩),.int .i64 A,.int .i64 B] w fun e w'=>∃C',P C'/\Did O w g b ({jea C' (C'.rg B) with rg:=jG C'.rg A (2*(jx C'.h C'.W (used C'.now)).toNat)},0) e w':=by
 have HRM:=hid HR;have HO0:=hid hO;have HPR:=hid hPr;have i0:(0:Int)<=(A:Int):=by omega
 have i1:(A:Int)<16:=by omega
 have i2:(0:Int)<=(B:Int):=by omega
 have i3:(B:Int)<16:=by omega
 clear HR hO hPr;go_enter Tryz.func132,Tryz.ntmps132;go_wp2_with fail;refine HRM.out.mono ?_;rintro e w3 ⟨rfl,C3,R3,a3,hf3,hP3⟩;obtain⟨hfree,hyl⟩:=HPR.out _ hP3;obtain⟨y,hy⟩:∃y,C3.rg B=y:=⟨_,rfl⟩;rw[hy] at hyl;have hO3:∀i,w3.heap.size<=i->O i:=fun i hi=>HO0.out i (zqs hf3.size hi);have hz:=a3.z.w1;obtain⟨p,hp⟩:∃p,(jx C3.h C3.W (used C3.now)).toNat=p:=⟨_,rfl⟩;have hpos:=ZF C3.h C3.W (used C3.now:Nat);have hp0:jx C3.h C3.W (used C3.now)=(p:Int):=by omega
 have hp1:1<=p:=by omega
 have hp2:p<=131072:=by
  have:jx C3.h C3.W (used C3.now)<=131072:=by
   unfold jx;split<;>omega
  omega
 have HAL:=hid (jdM a3 2 1 1 (by decide) (by show used C3.now+1+1<=C3.W;omega) hO3 rfl rfl rfl hp0);have HPT:=hid (fun w=>jaT p hp1 hp2 w);have HST:=hid (fun(W:World) (R':Nat->Value) (x:McAt O W g (ZN C3 2 1 1) b R' vf vs vh) (hx:∀i,W.heap.size<=i->O i)=>jn8 x hp0 hp2 hyl hx);have HRG:=hid (fun(W:World) R' (x:McAt O W g (jea C3 y) b R' vf vs vh)=>x.reg hA (2*p));have HC0:=hid (fun(W:World) C' R' (x:McAt O W g C' b R' vf vs vh)=>x.c0);have HGB:=hid (fun(W:World) R' (x:McAt O W g (ZN C3 2 1 1) b R' vf vs vh)=>show W.cell? ⟨g,2+B,none⟩=some (.int .u64 (y:Int)) from hy▸x.regc hB);have HGB2:=hid (fun(W:World) R' (x:McAt O W g (jea C3 y) b R' vf vs vh)=>show W.cell? ⟨g,2+B,none⟩=some (.int .u64 (y:Int)) from hy▸x.regc hB);have HGA2:=hid (fun(W:World) R' (x:McAt O W g (jea C3 y) b R' vf vs vh)=>x.regc hA);have HFZ2:=hid (fun(W:World) R' (x:McAt O W g (jea C3 y) b R' vf vs vh)=>x.fz (2+A));have HOM:=hid (fun(W:World) C' R' (x:McAt O W g C' b R' vf vs vh)=>x.om);have hgO:=a3.og;have HO:=hid hO3;have c0:=a3.c0;have HOM0:=hid a3.om;have H3:=hid (zqf hf3 hP3);have HY:=hid hy;clear a3 hf3 hP3 hO3 hfree hpos hp0 hp1 hp2 hy hyl hA hB hz;go_wp2_with fail;refine HAL.out.mono ?_;rintro e w7 ⟨rfl,⟨R7,h7⟩,hf7⟩;have c7:=HC0.out _ _ _ h7;have g7:=HGB.out _ _ h7;have HS7:=hid (fun q=>HST.out (w7.drewN q) _ (h7.drewN q) (fun i hi=>HO.out i (zqs (by have:=hf7.size;exact this) hi)));have HO7:=hid (HOM.out _ _ _ h7);have HF7:=hid hf7;clear h7 hf7;go_wp2_with fail;go_region_held3 (fun Y=>Y.cell? ⟨g,0,none⟩=some (.pointer (some ⟨b,0,none⟩))/\Y.cell? ⟨g,2+B,none⟩=some (.int .u64 (y:Int))) (first|(with_reducible assumption)|exact⟨c7,g7⟩|exact S8) (first|(go_at_call 29;refine(HS7.out 1).mono ?_;rintro e w8 ⟨rfl,h8,hf8⟩;have S8:=zqf (HC0.out _ _ _ h8) (HGB2.out _ _ h8);have H8:=hid (zqf h8 hf8);clear h8 hf8));go_wp2_with fail;have gA8:=HGA2.out _ _ H8.out.1;have rz:=HFZ2.out _ _ H8.out.1;have HR8:=hid (HRG.out _ _ H8.out.1);go_region_held3 (fun _=>True) (exact trivial) (first|(go_at_call 82;refine(HPT.out _).mono ?_;rintro e w' ⟨rfl,rfl⟩));go_wp2_with fail;go_ret;refine⟨C3,H3.out.2,?_⟩;rw[hp,HY.out];exact⟨rfl,⟨_,_,_,_,HR8.out.drewN _⟩,(((((H3.out.1.trans HF7.out (fun i hi=>.inl (HOM0.out i hi))).drewN _).trans H8.out.2 (fun i hi=>.inl (HO7.out i hi))).setCell (p:=⟨g,2+A,none⟩) (.inl hgO) _).drewN _)⟩
end
section
variable {O:Nat->Prop} {w X:World} {g b:Nat} {C:CM} {R:Nat->Value} {vf vs vh:Value} {M:RM} {D:Nat->Prop} {f A:Nat->Nat} {E:List Nat} {k:Nat} {y:Fm}
section
variable (h:Pre O w g b C R vf vs vh M D f A E k y)
include h
theorem Pre.below (hb:Below w.heap.size w X):Pre O X g b C R vf vs vh M D f A E k y:=
 {h with a:=h.a.below hb,O:=fun i hi=>h.O i (zqs hb.size hi)}
theorem Pre.roomB (o:Obj) (n:Nat):∀X,X=w.alloc o->Calls prog 42 #[.pointer (some ⟨g,0,none⟩),.int .i64 n] X (QS (fun i=>O i/\i≠w.heap.size) g b vf vs vh (jz M n).2 (fun C'=>(∃D' f' A',Sim (jz M n).1 C' D' f' A')/\((jz M n).2=true->used C'.now+n<=C'.W)) X):=by
 rintro X rfl;have hb:Below w.heap.size w (w.alloc o):=(Below.refl _ w).alloc (zqg _) _;have hs:(w.alloc o).heap.size=w.heap.size+1:=World.size_alloc ..;refine(jef ((h.a.off (zqg _)).below hb) h.s (fun i hi=>?_) h.u n).mono ?_
 ·exact⟨h.O i (by omega),by omega⟩
 ·rintro e w' ⟨rfl,C',R',D',f',A',q1,q2,q3,q4⟩
  exact⟨rfl,C',R',q1,q3,⟨D',f',A',q2⟩,q4⟩
theorem Pre.roomN (n:Nat):Calls prog 42 #[.pointer (some ⟨g,0,none⟩),.int .i64 n] w (QS O g b vf vs vh (jz M n).2 (fun C'=>(∃D' f' A',Sim (jz M n).1 C' D' f' A')/\((jz M n).2=true->used C'.now+n<=C'.W)) w):=by
 refine(jef h.a h.s h.O h.u n).mono ?_;rintro e w' ⟨rfl,C',R',D',f',A',q1,q2,q3,q4⟩;exact⟨rfl,C',R',q1,q3,⟨D',f',A',q2⟩,q4⟩
end
theorem je4 (M:RM) (n:Int):(jz M n).1.objs=M.objs/\(jz M n).1.rg=M.rg:=by unfold jz;split<;>exact⟨rfl,rfl⟩
section
variable (h:Pre O w g b C R vf vs vh M D f A E k y)
include h
theorem jd1 {o:RObj} (ho:ObjR o) {n:Nat} (hn:o.words=n) (hr:(jz M n).2=true) {C':CM} {D':Nat->Prop} {f' A':Nat->Nat} (s':Sim (jz M n).1 C' D' f' A') {ob:Ob} (hob:ob=jA A' o) (hg:∀v∈o.ws,∀E',Usd (jz M n).1 E'->Jf D' E' v) {a:Nat} {e:Ending} {w':World} (hd:Did O w g b ({C' with now:=C'.now++[ob],rg:=jG C'.rg a (2*(jx C'.h C'.W (used C'.now)).toNat)},0) e w'):DidS O w g b (jas M a o) e w':=by
 obtain⟨E',u'⟩:=h.u.room h.s n;refine⟨_,hd,?_⟩;obtain⟨_,⟨R',_,_,_,a'⟩,_⟩:=hd;have hz:WF C'.W C'.h (C'.now++[jA A' o]) C'.old:=hob▸a'.z;have:=jsW s' u' ho (fun v hv=>hg v hv E' u') hz a (x:=2*(jx C'.h C'.W (used C'.now)).toNat) (by unfold Jh;rw[qI]);rw[(je4 M n).1] at this;unfold jas;rw[hn,if_pos hr,hob];exact this
theorem jdV {o:RObj} {n:Nat} (hn:o.words=n) (hr:(jz M n).2=false) {C':CM} {D':Nat->Prop} {f' A':Nat->Nat} (s':Sim (jz M n).1 C' D' f' A') {a:Int} {e:Ending} {w':World} (hd:Did O w g b (C',5) e w'):DidS O w g b (jas M a o) e w':=by
 obtain⟨E',u'⟩:=h.u.room h.s n;refine⟨_,hd,?_⟩;unfold jas;rw[hn,if_neg (by rw[hr];decide)];exact .stop s' u' (by decide) rfl rfl
theorem jf4 {op a c d n:Int} (i:Qu a c d n) {K:Nat} (hK:K=1\/K=3):
  Calls prog 131 #[.pointer (some ⟨g,0,none⟩),.agg #[.int .i64 op,.int .i64 a,.int .i64 c,.int .i64 d,.int .i64 n],.int .i64 K,.int .i64 n] w fun e w'=>DidS O w g b (jbE M K a n) e w':=by
 obtain⟨a,rfl⟩:=jM i.a0;have ha:a<16:=by have:=i.a1;omega
 unfold jbE;by_cases h0:n<1\/16384<n
 ·rw[if_pos h0]
  exact(jmX h.a a ha op c d n K n h0).mono fun e w' q=>⟨_,q,h.stop (by decide)⟩
 ·rw[if_neg h0]
  obtain⟨N,rfl⟩:=jM (by omega:0<=n);have hw:(⟨K,List.replicate N (.I 0),⟨#[]⟩,[]⟩:RObj).words=1+N:=by
   unfold RObj.words;rw[if_neg (by show¬K=4;omega)];simp
  have HR:=h.roomB (.cells #[.int .i64 op,.int .i64 a,.int .i64 c,.int .i64 d,.int .i64 N] 41) (1+N);rw[show((N:Int)).toNat=N from rfl];cases hr:(jz M ((1+N:Nat):Int)).2 with
  |false=>
   rw[hr] at HR;refine(jkN a op c d N K N (by omega) (by omega) HR).mono ?_;rintro e w' ⟨C',⟨⟨D',f',A',s'⟩,_⟩,hd⟩;exact jdV h hw hr s' hd
  |true=>
   rw[hr] at HR;refine(jkO h.O h.a.bx.lt a ha op c d N K N (by omega) (by omega) (J2 (by omega)) (fun C' q=>q.2 rfl) HR).mono ?_;rintro e w' ⟨C',⟨⟨D',f',A',s'⟩,_⟩,hd⟩;refine jd1 h ⟨.inl ⟨by show K=1\/K=2\/K=3;omega,rfl,by simp;omega,by show K=2->_;omega,by simp;omega⟩,fun _=>rfl⟩ hw hr s' (ob:=zH K N N) ?_ (fun v hv E' _=>?_) hd
   ·rw[zQ (by show K≠4;omega)]
    unfold zH;simp only[List.length_replicate,Nat.sub_self,List.replicate_zero,List.map_replicate,List.map_nil];rfl
   ·rw[List.eq_of_mem_replicate hv]
    exact Je ⟨by decide,by decide⟩
theorem jsU {a c:Nat} (ha:a<16) (hc:c<16):
  Calls prog 132 #[.pointer (some ⟨g,0,none⟩),.int .i64 a,.int .i64 c] w fun e w'=>DidS O w g b (jqB M a (M.rg c)) e w':=by
 have HR:=h.roomN 2;have hw:(⟨2,[M.rg c],⟨#[]⟩,[]⟩:RObj).words=2:=rfl;unfold jqB;cases hr:(jz M ((2:Nat):Int)).2 with
 |false=>
  rw[hr] at HR;refine(jqC a c HR).mono ?_;rintro e w' ⟨C',⟨⟨D',f',A',s'⟩,_⟩,hd⟩;exact jdV h hw hr s' hd
 |true=>
  rw[hr] at HR;have e1:=(je4 M ((2:Nat):Int)).2;refine(jqD h.O a c ha hc (fun C' q=>⟨q.2 rfl,?_⟩) HR).mono ?_
  ·obtain⟨⟨D',f',A',s'⟩,_⟩:=q
   exact s'.ok.rg c hc
  ·rintro e w' ⟨C',⟨⟨D',f',A',s'⟩,_⟩,hd⟩
   refine jd1 h ⟨.inl ⟨.inr (.inl rfl),rfl,by show 1<=1;decide,fun _=>rfl,by show 1<=16384;decide⟩,fun _=>rfl⟩ hw hr s' (ob:=⟨2,1,[C'.rg c],0⟩) ?_ (fun v hv E' u'=>?_) hd
   ·rw[s'.rg c hc,e1]
    rfl
   ·rw[List.mem_singleton.1 hv,<-e1]
    exact s'.gotr u' hc
end
end
section
variable {O:Nat->Prop} {w X:World} {g b:Nat} {C:CM} {R:Nat->Value} {vf vs vh:Value} {M:RM} {D:Nat->Prop} {f A:Nat->Nat} {E:List Nat} {k:Nat} {y:Fm}
theorem jn3 (a:McAt O w g C b R vf vs vh) (s:ByteArray) (hs:s.size<=131064) (hf:used C.now+(2+(s.size+7)/8)<=C.W) (hO:∀i,w.heap.size<=i->O i) {P:Int} (hP:jx C.h C.W (used C.now)=P):
  Calls prog 116 #[.pointer (some ⟨b,0,none⟩),.string s] w fun e w'=>e=.returned (.tuple #[.int .u64 (J8 P),.int .i64 0])/\(∃R',McAt O w' g {C with now:=C.now++[zp s.data.toList]} b R' vf vs vh)/\Fr (Own b R) w w':=by
 refine(jlE a.m a.z s hs (by unfold NumL.jt;omega)).mono ?_;rintro e w' ⟨rfl,R',hx⟩;refine⟨by rw[hP],⟨R',?_⟩,hx.fr⟩;exact a.mem hx.fr hx.m hx.z hx.own hO
theorem jaj (n:Nat) (hn:n<=1000000) (w:World):Calls prog 78 #[.int .i64 n] w fun e w'=>e=.returned (.int .i64 ((2+(n+7)/8:Nat):Int))/\w'=w:=by
 have h1:IntKind.i64.wrap ((n:Int)+7)=(n:Int)+7:=jv (by omega) (by omega);have h2:((n:Int)+7).tdiv 8=(((n+7)/8:Nat):Int):=by
  rw[Int.tdiv_eq_ediv_of_nonneg (by omega)];omega
 have h3:IntKind.i64.wrap (((n+7)/8:Nat):Int)=(((n+7)/8:Nat):Int):=jv (by omega) (by omega);have h4:IntKind.i64.wrap (2+(((n+7)/8:Nat):Int))=((2+(n+7)/8:Nat):Int):=(jv (by omega) (by omega)).trans (by omega);go_enter Tryz.func78,Tryz.ntmps78;go_wp2_with fail;go_ret;trivial
theorem jmb (A:Nat) (s:ByteArray) (hs:s.size<=131064) {N:Nat} (hN:2+(s.size+7)/8=N) {P:CM->Prop}
  (HR:Calls prog 42 #[.pointer (some ⟨g,0,none⟩),.int .i64 (N:Int)] w (QS O g b vf vs vh false P w)):
  Calls prog 138 #[.pointer (some ⟨g,0,none⟩),.int .i64 A,.string s] w fun e w'=>∃C',P C'/\Did O w g b (C',5) e w':=by
 have HRM:=hid HR;have HTW:=hid (fun w=>show Calls prog 78 #[.int .i64 s.size] w (fun e w'=>e=.returned (.int .i64 (N:Int))/\w'=w) from hN▸jaj s.size (by omega) w);clear HR hN;go_enter Tryz.func138,Tryz.ntmps138;go_wp2_with fail;refine(HTW.out _).mono ?_;rintro e w6 ⟨rfl,h6⟩;subst w6;go_wp2_with fail;refine HRM.out.mono ?_;rintro e w7 ⟨rfl,C7,R7,h7,hf7,hP⟩;have H7:=hid (zqf h7 (zqf hf7 hP));clear h7 hf7 hP;go_wp2_with fail;go_ret;exact⟨C7,H7.out.2.2,rfl,⟨_,_,_,_,H7.out.1⟩,H7.out.2.1⟩
theorem jmc (hO:∀i,w.heap.size<=i->O i) (A:Nat) (hA:A<16) (s:ByteArray) (hs:s.size<=131064) {N:Nat} (hN:2+(s.size+7)/8=N) {P:CM->Prop} (hPr:∀C',P C'->used C'.now+N<=C'.W)
  (HR:Calls prog 42 #[.pointer (some ⟨g,0,none⟩),.int .i64 (N:Int)] w (QS O g b vf vs vh true P w)):
  Calls prog 138 #[.pointer (some ⟨g,0,none⟩),.int .i64 A,.string s] w fun e w'=>∃C',P C'/\Did O w g b ({C' with now:=C'.now++[zp s.data.toList],rg:=jG C'.rg A (2*(jx C'.h C'.W (used C'.now)).toNat)},0) e w':=by
 have HRM:=hid HR;have HTW:=hid (fun w=>show Calls prog 78 #[.int .i64 s.size] w (fun e w'=>e=.returned (.int .i64 (N:Int))/\w'=w) from hN▸jaj s.size (by omega) w);have HPR:=hid (fun C' q=>hN▸hPr C' q);have HO0:=hid hO;have i0:(0:Int)<=(A:Int):=by omega
 have i1:(A:Int)<16:=by omega
 clear HR hN hO hPr;go_enter Tryz.func138,Tryz.ntmps138;go_wp2_with fail;refine(HTW.out _).mono ?_;rintro e w6 ⟨rfl,h6⟩;subst w6;go_wp2_with fail;refine HRM.out.mono ?_;rintro e w3 ⟨rfl,C3,R3,a3,hf3,hP3⟩;have hfree:=HPR.out _ hP3;have hO3:∀i,w3.heap.size<=i->O i:=fun i hi=>HO0.out i (zqs hf3.size hi);have hz:=a3.z.w1;obtain⟨p,hp⟩:∃p,(jx C3.h C3.W (used C3.now)).toNat=p:=⟨_,rfl⟩;have hpos:=ZF C3.h C3.W (used C3.now:Nat);have hp0:jx C3.h C3.W (used C3.now)=(p:Int):=by omega
 have hp1:1<=p:=by omega
 have hp2:p<=131072:=by
  have:jx C3.h C3.W (used C3.now)<=131072:=by
   unfold jx;split<;>omega
  omega
 obtain⟨pp,hpp⟩:∃pp,2*p=pp:=⟨_,rfl⟩;have hpw:J8 (p:Int)=((pp:Nat):Int):=by unfold J8;omega
 have HPT:=hid (fun q=>(show Calls _ _ _ (w3.drewN q) (fun e w'=>e=.returned (.tuple #[.int .u64 ((pp:Nat):Int),.int .i64 0])/\(∃R',McAt O w' g {C3 with now:=C3.now++[zp s.data.toList]} b R' vf vs vh)/\Fr (Own b R3) (w3.drewN q) w') from hpw▸jn3 (a3.drewN q) s hs hfree (fun i hi=>hO3 i hi) hp0));have HRG:=hid (fun(W:World) R' (x:McAt O W g {C3 with now:=C3.now++[zp s.data.toList]} b R' vf vs vh)=>x.reg hA pp);have HGA:=hid (fun(W:World) R' (x:McAt O W g {C3 with now:=C3.now++[zp s.data.toList]} b R' vf vs vh)=>x.regc hA);have HFZ:=hid (fun(W:World) R' (x:McAt O W g {C3 with now:=C3.now++[zp s.data.toList]} b R' vf vs vh)=>x.fz (2+A));have HS9:=hid (fun(W:World) R' (x:McAt O W g {C3 with now:=C3.now++[zp s.data.toList]} b R' vf vs vh) v=>show(W.setCell ⟨g,2+A,none⟩ v).cell? ⟨g,0,none⟩=some (.pointer (some ⟨b,0,none⟩)) from((x.bx.set (2+A) v).cell (j:=0) (by omega)).trans (congrArg some (J1 (by omega))));have HOM0:=hid a3.om;have hgO:=a3.og;have c0:=a3.c0;have H3:=hid (zqf hf3 hP3);have HPP:=hid (zqf hp hpp);clear a3 hf3 hP3 hO3 hfree hpos hp0 hp1 hp2 hz hpw hp hpp;go_wp2_with fail;go_region_held3 (fun Y=>Y.cell? ⟨g,0,none⟩=some (.pointer (some ⟨b,0,none⟩))) (first|(with_reducible assumption)|exact c0|exact S8|exact S9 _) (first|(go_at_call 116;refine(HPT.out 1).mono ?_;rintro e w8 ⟨rfl,⟨R8,h8⟩,hf8⟩;have S8:=h8.c0;have S9:=HS9.out _ _ h8;have gA8:=HGA.out _ _ h8;have rz:=HFZ.out _ _ h8;have H8:=hid (zqf (HRG.out _ _ h8) hf8);clear h8 hf8));go_wp2_with fail;go_ret;refine⟨C3,H3.out.2,?_⟩;rw[HPP.out.1,HPP.out.2];exact⟨rfl,⟨_,_,_,_,H8.out.1⟩,((((H3.out.1.drewN _).trans H8.out.2 (fun i hi=>.inl (HOM0.out i hi))).setCell (p:=⟨g,2+A,none⟩) (.inl hgO) _))⟩
theorem jda (h:Pre O w g b C R vf vs vh M D f A E k y) {a:Nat} (ha:a<16) (s:ByteArray) (hs:s.size<=131064):
  Calls prog 138 #[.pointer (some ⟨g,0,none⟩),.int .i64 a,.string s] w fun e w'=>DidS O w g b (jaa M a s) e w':=by
 obtain⟨N,hN⟩:∃N,2+(s.size+7)/8=N:=⟨_,rfl⟩;have HR:=h.roomN N;have hw:(⟨4,[],s,[]⟩:RObj).words=N:=hN;unfold jaa;rw[if_neg (by omega)];cases hr:(jz M ((N:Nat):Int)).2 with
 |false=>
  rw[hr] at HR;refine(jmb a s hs hN HR).mono ?_;rintro e w' ⟨C',⟨⟨D',f',A',s'⟩,_⟩,hd⟩;exact jdV h hw hr s' hd
 |true=>
  rw[hr] at HR;refine(jmc h.O a ha s hs hN (fun C' q=>q.2 rfl) HR).mono ?_;rintro e w' ⟨C',⟨⟨D',f',A',s'⟩,_⟩,hd⟩;exact jd1 h ⟨.inr (.inl ⟨rfl,rfl,rfl,hs⟩),fun q=>absurd rfl q⟩ hw hr s' (ob:=zp s.data.toList) (if_pos rfl).symm (fun v hv _ _=>by cases hv) hd
section
variable (a:McAt O w g C b R vf vs vh) {x:Nat} (hx:x<18446744073709551616)
include a x hx
theorem jbP {K:Nat} (hK:((jD C x).map fun o=>o.k).getD 0=K) (hk:K≠4):
  Calls prog 136 #[.pointer (some ⟨g,0,none⟩),.int .u64 (x:Int)] w fun e w'=>e=.returned (.tuple #[.int .i64 0,.int .i64 0,.bool false])/\∃q,w'=w.drewN q:=by
 have HOB:=zh a hx;rw[hK] at HOB;obtain⟨V,hV⟩:∃V,(if(jD C x).isSome then jc (x:Int) else 0)=V:=⟨_,rfl⟩;rw[hV] at HOB;have HOB:=hid HOB;have k1a:((K:Int)==4)=false:=by rw[beq_eq_false_iff_ne];omega
 have k1b:(K==4)=false:=by rw[beq_eq_false_iff_ne];omega
 have k1c:¬K=4:=by omega
 have k1d:((K:Int) !=4)=true:=by simp only[bne,k1a];rfl
 clear a hV hK;go_enter Tryz.func136,Tryz.ntmps136;go_wp2_with fail;refine HOB.out.mono ?_;rintro e w1 ⟨rfl,q1,rfl⟩;go_wp2_with fail;go_ret3;exact⟨rfl,_,rfl⟩
theorem Jo {o:Ob} (ho:jD C x=some o) (hk:o.k=4) {n:Nat} (hn:o.ws.getD 0 0=n) (hn1:n<=131064):
  Calls prog 136 #[.pointer (some ⟨g,0,none⟩),.int .u64 (x:Int)] w fun e w'=>e=.returned (.tuple #[.int .i64 (jc (x:Int)),.int .i64 n,.bool true])/\∃q,w'=w.drewN q:=by
 have HOB:=zh a hx;rw[ho] at HOB;have HOB:=show Calls _ _ _ w (fun e w'=>e=.returned (.tuple #[.int .i64 (jc (x:Int)),.int .i64 4])/\∃q',w'=w.drewN q') from HOB.mono fun e w' ⟨h1,h2⟩=>⟨by rw[h1];show Ending.returned (.tuple #[.int .i64 (jc (x:Int)),.int .i64 (o.k:Int)])=_;rw[hk];rfl,h2⟩;have HFD:=fun q=>Zu (a.drewN q) ho 0;obtain⟨PA,hPA⟩:∃PA,jc (x:Int)=PA:=⟨_,rfl⟩;rw[hn] at HFD;rw[hPA] at HFD HOB ⊢;have HOB:=hid HOB;have HFD:=hid HFD;have n0:(0:Int)<=(n:Int):=by omega
 have n1:(n:Int)<=131064:=by omega
 have hw:IntKind.i64.wrap (n:Int)=(n:Int):=jv (by omega) (by omega);clear a ho hn hPA hx;go_enter Tryz.func136,Tryz.ntmps136;go_wp2_with fail;refine HOB.out.mono ?_;rintro e w1 ⟨rfl,q1,rfl⟩;go_wp2_with fail;refine(HFD.out _).mono ?_;rintro e w1 ⟨rfl,q2,rfl⟩;go_wp2_with fail;go_ret3;exact⟨rfl,_,rfl⟩
end
end
namespace NumL
open Go Go.RowKit
def Tab (w:World):Prop:=Lib.TabIs prog w "internal/strconv.uint64pow10" .u64 Lib.pow10Tab
theorem joL {w w':World} {B:Nat} (h:Tab w) (hB:w.heap.size<=B) (hb:Below B w w'):Tab w':=
 Joins.tab_stays (g:=1) (by kernel_rfl) h hb hB
theorem jq4 (n:Int) (h0: -9223372036854775808<=n) (h1:n<=9223372036854775807) (w:World) (ht:Tab w):
  Calls prog 139 #[.int .i64 n] w fun e w'=>e=.returned (.string ⟨(Lib.itoa n).toArray⟩)/\Below w.heap.size w w':=by
 go_enter Tryz.func139,Tryz.ntmps139;go_wp2_with (go_at_call 168;refine(Tryz.strconv_FormatInt_10 n h0 h1 _ ht).mono ?_;rintro e w' ⟨rfl,k,os,rfl⟩);go_ret;exact⟨rfl,Lib.below_grow _ _ (zqg _) _ _⟩
end NumL
