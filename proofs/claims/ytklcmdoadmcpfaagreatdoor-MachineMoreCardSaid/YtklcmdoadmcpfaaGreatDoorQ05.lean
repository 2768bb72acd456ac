/- A part of the proof of MachineMoves. Conditions: those that each theorem names. -/
import Derived.Test.YtklcmdoadmcpfaaGreatDoorQ03
import Derived.Test.YtklcmdoadmcpfaaGreatDoorQ04
import Derived.Test.YtklcmdoadmcpfaaGreatDoorQ01
set_option maxRecDepth 100000
set_option maxHeartbeats 400000000
namespace Go.Proofs.YtklcmdoadmcpfaaGreatDoor
open Go Go.RowKit
open Go.Lib(hid)
open Go.Proofs.Tryz(prog)
def mcZ:Nat->Value:=fun j=>if j=0 then .pointer none else if j=1 then .int .i64 0 else if j<1042 then .int .u64 0 else if j=1042 then .int .i64 0 else if j<1045 then .int .u64 0 else .slice none 0 0
theorem jsx:(prog.info? 94).bind (·.zero)=some (.agg (zX 1048 mcZ)):=by kernel_rfl
theorem jh1 (n:Nat) (F:Nat->Value):(zX n F).size=n:=by simp[zX]
def mcF (b:Nat) (S:Int):Nat->Value:=zt (zt (zt (zt mcZ 0 (.pointer (some ⟨b,0,none⟩))) 1 (.int .i64 S)) 1043 (.int .u64 1)) 1044 (.int .u64 1)
def jaP (F:Nat->Value) (k:Nat):Nat->Value:=fun j=>if 2<=j/\j<2+k then .int .u64 1 else F j
theorem jnx (F:Nat->Value):jaP F 0=F:=by funext j;unfold jaP;rw[if_neg (by omega)]
theorem jnw (F:Nat->Value) (k:Nat):zt (jaP F k) (2+k) (.int .u64 1)=jaP F (k+1):=by
 funext j;unfold zt jaP;by_cases h:j=2+k
 ·rw[if_pos h,if_pos (by omega)]
 ·rw[if_neg h]
  by_cases h2:2<=j/\j<2+k
  ·rw[if_pos h2,if_pos (by omega)]
  ·rw[if_neg h2,if_neg (by omega)]
def mcE (F:Nat->Value):Nat->Value:=zt (zt (zt (jaP F 16) 1045 (.slice none 0 0)) 1046 (.slice none 0 0)) 1047 (.slice none 0 0)
theorem Qc (w:World):Calls prog 41 #[.int .i64 0] w fun e w'=>e=.returned (.int .u64 1)/\w'=w:=
 (qe 0 w).mono fun e w' ⟨h1,h2⟩=>⟨by rw[h1];rfl,h2.symm⟩
theorem jjC {w:World} {g:Nat} {F:Nat->Value} (hx:Bx w g F):
  Calls prog 56 #[.pointer (some ⟨g,0,none⟩)] w fun e w'=>(∃v,e=.returned v)/\Bx w' g (mcE F)/\Fr (·=g) w w':=by
 have HX:=hid hx;have HI:=hid Qc;clear hx;go_enter Tryz.func56,Tryz.ntmps56;go_wp2_with fail;go_loopw [3] (fun i wr=>∃k:Nat,k<=16/\i=.int .i64 k/\Bx wr g (jaP F k)/\Fr (·=g) w wr) (fun i _=>16-(intOf i).toNat)
 case atStart=>exact⟨0,by omega,rfl,by rw[jnx];exact HX.out,Fr.refl _ _⟩
 case round=>
  obtain⟨k,hk,rfl,hX,hfr⟩:=hrel;by_cases hlt:k<16
  ·have HB:=hid (zqf hX hfr)
   have c0:=hX.cell (j:=2+k) (by omega);have z0:=hX.frozen (2+k);have b0:(0:Int)<=(k:Int):=by omega
   have b1:(k:Int)<16:=by omega
   clear hX hfr;go_wp2_with fail;go_region_held3 (fun _=>True) (trivial) (first|(go_at_call 41;refine(HI.out _).mono ?_;rintro e w' ⟨rfl,hw'⟩;subst w'));have HN:=hid (HB.out.1.set (2+k) (.int .u64 1));have HF:=hid ((HB.out.2.setCell (p:=⟨g,2+k,none⟩) (.inl rfl) (.int .u64 1)).drew);go_wp2_with fail;go_roundw
   case rel=>exact⟨k+1,hlt,by go_num,by rw[<-jnw];exact HN.out,HF.out⟩
   case measure=>simp[intOf];omega
  ·obtain rfl:k=16:=by omega
   have c0:=hX.cell (j:=1045) (by omega);have c1:=hX.cell (j:=1046) (by omega);have c2:=hX.cell (j:=1047) (by omega);have z0:=hX.frozen 1045;have z1:=hX.frozen 1046;have z2:=hX.frozen 1047;have HN:=hid (((hX.set 1045 (.slice none 0 0)).set 1046 (.slice none 0 0)).set 1047 (.slice none 0 0));have HF:=hid (((hfr.setCell (p:=⟨g,1045,none⟩) (.inl rfl) (.slice none 0 0)).setCell (p:=⟨g,1046,none⟩) (.inl rfl) (.slice none 0 0)).setCell (p:=⟨g,1047,none⟩) (.inl rfl) (.slice none 0 0));clear hX hfr;go_wp2_with fail;refine bodyPost_end (results_none rfl _ _ _) rfl ?_;exact⟨⟨_,rfl⟩,HN.out,HF.out⟩
theorem jvi:Tryz.zeroCells94=zX 1048 mcZ:=by kernel_rfl
theorem jub (w:World) (g b:Nat) (S:Int) (hg:w.heap.size=g):Bx (w.alloc (.cells ((((Tryz.zeroCells94.setIfInBounds 0 (.pointer (some ⟨b,0,none⟩))).setIfInBounds 1 (.int .i64 S)).setIfInBounds 1043 (.int .u64 1)).setIfInBounds 1044 (.int .u64 1)) 94)) g (mcF b S):=by
 subst hg;unfold Bx;rw[jvi,jbJ,jbJ,jbJ,jbJ];exact zqe w _
def jcT (F:Nat->Value) (k:Nat):Nat->Value:=fun j=>if 18<=j/\j<18+k then .int .u64 1 else F j
theorem jnz (F:Nat->Value):jcT F 0=F:=by funext j;unfold jcT;rw[if_neg (by omega)]
theorem jny (F:Nat->Value) (k:Nat):zt (jcT F k) (18+k) (.int .u64 1)=jcT F (k+1):=by
 funext j;unfold zt jcT;by_cases h:j=18+k
 ·rw[if_pos h,if_pos (by omega)]
 ·rw[if_neg h]
  by_cases h2:18<=j/\j<18+k
  ·rw[if_pos h2,if_pos (by omega)]
  ·rw[if_neg h2,if_neg (by omega)]
def mcN (b:Nat) (S:Int):Nat->Value:=mcE (jcT (mcF b S) 1024)
theorem jnQ (W:Nat) (h0:64<=W) (h1:W<=65536) (S:Int) (s0:16<=S) (s1:S<=65536) (w:World):
  Calls prog 26 #[.int .i64 W,.int .i64 S] w fun e w'=>e=.returned (.tuple #[.pointer (some ⟨w.heap.size+1,0,none⟩),.int .i64 0])/\Bx w' (w.heap.size+1) (mcN w.heap.size S)/\zi w' w.heap.size W 0 (fun _=>.slice none 0 0) [] []/\Below w.heap.size w w':=by
 have HI:=hid Qc;have HN:=hid (jsG W h0 h1 w);have HM:=hid (jsF W w);have hb1:Below w.heap.size w (w.alloc (Q4 W)):=(Below.refl _ w).alloc (zqg _) _;have HB1:=hid hb1;have d0:decide (S<16)=false:=zqq (by omega);have d1:decide ((65536:Int)<S)=false:=zqq (by omega);obtain⟨w1,hw1⟩:∃w1,w.alloc (Q4 W)=w1:=⟨_,rfl⟩;rw[hw1] at HN HM HB1;have hz1:w1.heap.size=w.heap.size+1:=by rw[<-hw1];simp
 clear hb1 hw1 h0 h1;go_enter Tryz.func26,Tryz.ntmps26;go_wp2_with fail;refine HN.out.mono ?_;rintro e w' ⟨rfl,hw'⟩;subst w';go_wp2_with (go_at_call 41;refine(HI.out _).mono ?_;rintro e w' ⟨rfl,hw'⟩;subst w');have hX:=jub w1 (w.heap.size+1) w.heap.size S hz1;obtain⟨w2,hw2⟩:∃w2,(w1.alloc (.cells ((((Tryz.zeroCells94.setIfInBounds 0 (.pointer (some ⟨w.heap.size,0,none⟩))).setIfInBounds 1 (.int .i64 S)).setIfInBounds 1043 (.int .u64 1)).setIfInBounds 1044 (.int .u64 1)) 94))=w2:=⟨_,rfl⟩;have hb2:Below w1.heap.size w1 w2:=by rw[<-hw2];exact(Below.refl _ w1).alloc (zqg _) _
 rw[hw2] at hX ⊢;have HB2:=hid (HB1.out.trans (hb2.mono HB1.out.size));have HM2:=hid (HM.out.below hb2);have HX:=hid hX;have HX:=hid hX;have hgw:w.heap.size<=w.heap.size+1:=by omega
 clear hX hb2 hw2 hz1 HN HM HB1;obtain⟨g,hg⟩:∃g,w.heap.size+1=g:=⟨_,rfl⟩;rw[hg] at HX hgw ⊢;have HGB:=hid (show∀i,Own w.heap.size (fun _=>Value.slice none 0 0) i->¬i=g from fun i hi e=>by
  rcases hi with rfl|⟨r,_,hr⟩
  ·omega
  ·cases hr)
 have HGEQ:=hid hg;clear hg;go_loopw [30] (fun i wr=>∃k:Nat,k<=1024/\i=.int .i64 k/\Bx wr g (jcT (mcF w.heap.size S) k)/\Below w.heap.size w wr/\zi wr w.heap.size W 0 (fun _=>.slice none 0 0) [] []) (fun i _=>1024-(intOf i).toNat)
 case atStart=>exact⟨0,by omega,rfl,by rw[jnz];exact HX.out,HB2.out,HM2.out⟩
 case round=>
  obtain⟨k,hk,rfl,hX,hbl,hm⟩:=hrel;by_cases hlt:k<1024
  ·have HB:=hid (zqf hX (zqf hbl hm))
   have c0:=hX.cell (j:=18+k) (by omega);have z0:=hX.frozen (18+k);have b0:(0:Int)<=(k:Int):=by omega
   have b1:(k:Int)<1024:=by omega
   clear hX hbl hm;go_wp2_with fail;go_region_held3 (fun _=>True) (trivial) (first|(go_at_call 41;refine(HI.out _).mono ?_;rintro e w' ⟨rfl,hw'⟩;subst w'));have HN:=hid (HB.out.1.set (18+k) (.int .u64 1));have HF:=hid ((HB.out.2.1.setCell (p:=⟨g,18+k,none⟩) hgw (.int .u64 1)).drew);have HM3:=hid (HB.out.2.2.kept (((Fr.refl (·=g) wr).setCell (p:=⟨g,18+k,none⟩) (.inl rfl) (.int .u64 1)).drew) HGB.out);go_wp2_with fail;go_roundw
   case rel=>exact⟨k+1,hlt,by go_num,by rw[<-jny];exact HN.out,HF.out,HM3.out⟩
   case measure=>simp[intOf];omega
  ·obtain rfl:k=1024:=by omega
   have HE:=hid (jjC hX);have HBL:=hid hbl;have HMM:=hid hm;clear hX hbl hm;go_wp2_with fail;refine HE.out.mono ?_;rintro e w3 ⟨⟨v,rfl⟩,hx3,hf3⟩;have HX3:=hid hx3;have HB3:=hid (HBL.out.trans (hf3.below HBL.out.size (fun i hi=>by rw[hi];exact hgw)));have HM3:=hid (HMM.out.kept hf3 HGB.out);clear hx3 hf3;go_wp2_with fail;go_ret2;obtain rfl:=HGEQ.out;exact⟨rfl,HX3.out,HM3.out,HB3.out⟩
theorem zV {W:World} {g b i j:Nat} {v:Value} (h:g≠b):(W.setCell ⟨g,i,none⟩ v).cell? ⟨b,j,none⟩=W.cell? ⟨b,j,none⟩:=World.cell?_setCell_far _ _ _ _ h
theorem QA {w:World} {g b:Nat} {F:Nat->Value} (hx:Bx w g F) (h0:F 0=.pointer (some ⟨b,0,none⟩)):Calls prog 39 #[.pointer (some ⟨g,0,none⟩)] w fun e w'=>e=.returned (.bool false)/\w'=w:=by
 have c0:=hx.cell (j:=0) (by omega);rw[h0] at c0;have hn:((some (⟨g,0,none⟩:Addr))==none)=false:=rfl;have hn2:((some (⟨b,0,none⟩:Addr))==none)=false:=rfl;clear hx h0;go_enter Tryz.func39,Tryz.ntmps39;go_wp2_with fail;go_ret;exact⟨rfl,rfl⟩
structure Fb (w:World) (fb:Nat) (cd pl:Int) (n:Nat):Prop where
 c:∃cs,w.heap[fb]?=some (.cells cs 112 (0,0))/\cs[0]?=some (.int .u64 cd)/\cs[1]?=some (.int .i64 pl)/\cs[2]?=some (.int .i64 0)/\cs[3]?=some (.int .i64 (n:Int))/\cs[4]?=some (.int .i64 0)
theorem Fb.keep {w w1:World} {fb n:Nat} {cd pl:Int} (h:Fb w fb cd pl n) (hb:w1.heap[fb]?=w.heap[fb]?):Fb w1 fb cd pl n:=by
 obtain⟨cs,h1,h2⟩:=h.c;exact⟨cs,hb.trans h1,h2⟩
theorem Fb.go {w:World} {fb n:Nat} {cd pl:Int} (h:Fb w fb cd pl n) (p2:Int):Fb (w.setCell ⟨fb,1,none⟩ (.int .i64 p2)) fb cd p2 n:=by
 obtain⟨cs,hb,h0,h1,h2,h3,h4⟩:=h.c;have hl:=(zqa h1).1;refine⟨cs.setIfInBounds 1 (.int .i64 p2),?_,?_,?_,?_,?_,?_⟩
 ·show(w.heap.modify fb _)[fb]?=_
  rw[Array.getElem?_modify,if_pos rfl,hb];rfl
 all_goals rw[Array.getElem?_setIfInBounds]
 ·exact h0
 ·rw[if_pos rfl,if_pos hl]
 ·exact h2
 ·exact h3
 ·exact h4
namespace IsaL
open Go Go.RowKit
def qb (s:ByteArray) (v k:Int):Prop:=zn s k=true/\(v<0\/15<v)
def j6 (s:ByteArray) (v k:Int):Prop:=zn s k=false/\v≠0
def JO (s:ByteArray) (n:Int):Prop:=(zn s 110=true/\(n< -2147483648\/2147483647<n))\/(zn s 110=false/\n≠0)
open Classical in
noncomputable def chk (s:ByteArray) (a b c n:Int):Int:=
 if qb s a 97\/qb s b 98\/qb s c 99 then 31 else if j6 s a 97\/j6 s b 98\/j6 s c 99\/JO s n then 1 else 0
theorem QV {s:ByteArray} {a b c n:Int} (h:qb s a 97\/qb s b 98\/qb s c 99):chk s a b c n=31:=by unfold chk;rw[if_pos h]
section
variable {s:ByteArray} {a b c n:Int} (h:¬(qb s a 97\/qb s b 98\/qb s c 99))
include s a b c n h
theorem QG (h2:j6 s a 97\/j6 s b 98\/j6 s c 99\/JO s n):chk s a b c n=1:=by unfold chk;rw[if_neg h,if_pos h2]
theorem jbX (h2:¬(j6 s a 97\/j6 s b 98\/j6 s c 99\/JO s n)):chk s a b c n=0:=by unfold chk;rw[if_neg h,if_neg h2]
end
theorem jmW:∀n,(bs (zI n).2.1).size<=100
 |0=>by decide
 |1=>by decide
 |2=>by decide
 |3=>by decide
 |4=>by decide
 |5=>by decide
 |6=>by decide
 |7=>by decide
 |8=>by decide
 |9=>by decide
 |10=>by decide
 |11=>by decide
 |12=>by decide
 |13=>by decide
 |14=>by decide
 |15=>by decide
 |16=>by decide
 |17=>by decide
 |18=>by decide
 |19=>by decide
 |20=>by decide
 |21=>by decide
 |22=>by decide
 |23=>by decide
 |24=>by decide
 |25=>by decide
 |26=>by decide
 |27=>by decide
 |28=>by decide
 |29=>by decide
 |30=>by decide
 |31=>by decide
 |32=>by decide
 |33=>by decide
 |34=>by decide
 |35=>by decide
 |36=>by decide
 |n+37=>by have e:bs (zI (n+37)).2.1=⟨#[]⟩:=by simp[zI,opRows,bs]
           rw[e];decide
structure Lay (w:World) (R:Nat) (o a b c n:Int) (s:ByteArray) (W:World):Prop where
 base:Below w.heap.size w W
 c0:W.cell? ⟨w.heap.size,0,none⟩=some (.int .i64 o)
 c1:W.cell? ⟨w.heap.size,1,none⟩=some (.int .i64 a)
 c2:W.cell? ⟨w.heap.size,2,none⟩=some (.int .i64 b)
 c3:W.cell? ⟨w.heap.size,3,none⟩=some (.int .i64 c)
 c4:W.cell? ⟨w.heap.size,4,none⟩=some (.int .i64 n)
 form:W.cell? ⟨R,1,none⟩=some (.string s)
theorem Lay.below {w:World} {R:Nat} {o a b c n:Int} {s:ByteArray} {W W':World} (h:Lay w R o a b c n s W) (hb:Below W.heap.size W W'):Lay w R o a b c n s W':=
 have st:∀(p:Addr) (u:Value),W.cell? p=some u->W'.cell? p=some u:=fun p _ hv=>(hb.cell (p:=p) (World.block_lt_of_cell? W _ hv)).trans hv
 ⟨h.base.trans (hb.mono h.base.size),st _ _ h.c0,st _ _ h.c1,st _ _ h.c2,st _ _ h.c3,st _ _ h.c4,st _ _ h.form⟩
theorem ZX {w:World} {R:Nat} {o a b c n:Int} {s:ByteArray} {W:World} (h:Lay w R o a b c n s W):
  W.cell? ⟨w.heap.size,0,none⟩=some (.int .i64 o)/\W.cell? ⟨w.heap.size,1,none⟩=some (.int .i64 a)/\W.cell? ⟨w.heap.size,2,none⟩=some (.int .i64 b)/\W.cell? ⟨w.heap.size,3,none⟩=some (.int .i64 c)/\W.cell? ⟨w.heap.size,4,none⟩=some (.int .i64 n)/\W.cell? ⟨R,1,none⟩=some (.string s)/\Lay w R o a b c n s W:=
 ⟨h.c0,h.c1,h.c2,h.c3,h.c4,h.form,h⟩
theorem jbG {p q r t u x:Prop} {w:World} {R:Nat} {o a b c n:Int} {s:ByteArray} {W:World} (h:p/\q/\r/\t/\u/\x/\Lay w R o a b c n s W):Lay w R o a b c n s W:=h.2.2.2.2.2.2
theorem jtE {L:ByteArray} (h:L=⟨#[97,98,99]⟩):L.size=3/\∀k (hk:k<L.size),((L[k]).toNat:Int)=97+k:=by
 subst h;refine⟨rfl,fun k hk=>?_⟩;have:k<3:=hk;match k,this with
 |0,_=>rfl
 |1,_=>rfl
 |2,_=>rfl
def jhi (s:ByteArray) (a b c n:Int) (k:Nat):Prop:=∀j:Nat,j<k->¬qb s (jS a b c n (97+j)) (97+j)
def jhm (s:ByteArray) (a b c n:Int) (k:Nat):Prop:=∀j:Nat,j<k->¬j6 s (jS a b c n (97+j)) (97+j)
theorem l97 (a b c n:Int):jS a b c n (97+(0:Nat))=a:=by simp[jS]
theorem l98 (a b c n:Int):jS a b c n (97+(1:Nat))=b:=by simp[jS]
theorem l99 (a b c n:Int):jS a b c n (97+(2:Nat))=c:=by simp[jS]
section
variable {s:ByteArray} {a b c n:Int}
include s a b c n
theorem Zz {k:Nat} (hk:k<3) (h:qb s (jS a b c n (97+k)) (97+k)):qb s a 97\/qb s b 98\/qb s c 99:=by
 match k,hk with
 |0,_=>rw[l97] at h;exact .inl h
 |1,_=>rw[l98] at h;exact .inr (.inl h)
 |2,_=>rw[l99] at h;exact .inr (.inr h)
theorem jiy (h:jhi s a b c n 3):¬(qb s a 97\/qb s b 98\/qb s c 99):=by
 have h0:=h 0 (by omega);rw[l97] at h0;have h1:=h 1 (by omega);rw[l98] at h1;have h2:=h 2 (by omega);rw[l99] at h2;rintro(h|h|h)
 ·exact h0 h
 ·exact h1 h
 ·exact h2 h
theorem jcy {k:Nat} (hk:k<3) (h:j6 s (jS a b c n (97+k)) (97+k)):j6 s a 97\/j6 s b 98\/j6 s c 99\/JO s n:=by
 match k,hk with
 |0,_=>rw[l97] at h;exact .inl h
 |1,_=>rw[l98] at h;exact .inr (.inl h)
 |2,_=>rw[l99] at h;exact .inr (.inr (.inl h))
theorem jel (h:jhm s a b c n 3) (hn:¬JO s n):¬(j6 s a 97\/j6 s b 98\/j6 s c 99\/JO s n):=by
 have h0:=h 0 (by omega);rw[l97] at h0;have h1:=h 1 (by omega);rw[l98] at h1;have h2:=h 2 (by omega);rw[l99] at h2;rintro(h|h|h|h)
 ·exact h0 h
 ·exact h1 h
 ·exact h2 h
 ·exact hn h
end
theorem Ze (s:ByteArray) (c:Int) (p:Bool) (hp:zn s c=p) (hs:s.size<=100) (w:World):Calls prog 119 #[.string s,.int .u8 c] w fun e w'=>e=.returned (.bool p)/\w'=w:=by
 subst hp;exact jsb s c hs w
theorem Qa (o a b c n k x:Int) (hx:jS a b c n k=x) (w:World):Calls prog 118 #[.agg #[.int .i64 o,.int .i64 a,.int .i64 b,.int .i64 c,.int .i64 n],.int .u8 k] w fun e w'=>e=.returned (.int .i64 x)/\Below w.heap.size w w':=by
 subst hx;exact jlc o a b c n k w
theorem qq {P:Nat->Prop} {k:Nat} (h:∀j,j<k->P j) (hk:P k):∀j,j<k+1->P j:=fun j hj=>by
 by_cases e:j=k
 ·subst e;exact hk
 ·exact h j (by omega)
theorem jiv (op:Nat) (h0:1<=op) (h1:op<=36) (a b c n:Int) (w:World):
  Calls prog 83 #[.agg #[.int .i64 op,.int .i64 a,.int .i64 b,.int .i64 c,.int .i64 n]] w fun e w'=>e=.returned (.int .i64 (chk (bs (zI op).2.1) a b c n))/\Below w.heap.size w w':=by
 have HS:=hid (jmW op);obtain⟨s,hs⟩:∃s,bs (zI op).2.1=s:=⟨_,rfl⟩;obtain⟨f0,hf0⟩:∃s,bs (zI op).1=s:=⟨_,rfl⟩;obtain⟨f2,hf2⟩:∃s,bs (zI op).2.2.1=s:=⟨_,rfl⟩;obtain⟨f3,hf3⟩:∃s,bs (zI op).2.2.2=s:=⟨_,rfl⟩;have HF:Hid (jcm op=.agg #[.string f0,.string s,.string f2,.string f3]):=by unfold jcm Qq;rw[hs,hf0,hf2,hf3];rfl
 rw[hs] at HS ⊢;clear hs hf0 hf2 hf3;go_enter Tryz.func83,Tryz.ntmps83;go_wp2_with fail;refine(jpv op h0 h1 _).mono ?_;rintro e w1 ⟨rfl,hb1⟩;rw[HF.out];have HL0:Hid (Lay w w1.heap.size op a b c n s (w1.alloc (.cells #[.string f0,.string s,.string f2,.string f3] 186))):=by
  have hbs:=Below.refl w.heap.size w;have hst:∀(p:Addr) (u:Value),(w.alloc (.cells #[.int .i64 op,.int .i64 a,.int .i64 b,.int .i64 c,.int .i64 n] 41)).cell? p=some u->(w1.alloc (.cells #[.string f0,.string s,.string f2,.string f3] 186)).cell? p=some u:=fun p u hu=>by
   have hlt:=World.block_lt_of_cell? _ _ hu;rw[((hb1.trans ((Below.refl _ w1).alloc hb1.size _)).cell (p:=p) hlt)];exact hu
  refine Lay.mk ((hbs.alloc (zqg _) _).trans ((hb1.mono (by simp)).trans (((Below.refl _ w1).alloc (zqg _) _).mono (zqs (by simp) hb1.size)))) (hst _ _ ?_) (hst _ _ ?_) (hst _ _ ?_) (hst _ _ ?_) (hst _ _ ?_) ?_;all_goals first|(simp;done)|(simp[go_sem];done)
 clear hb1;go_wp2_with fail;generalize w1.alloc (.cells #[.string f0,.string s,.string f2,.string f3] 186)=w2 at HL0 ⊢;generalize hL:({data:=#[97,98,99]}:ByteArray)=L;obtain⟨hL3,hLx⟩:=jtE hL.symm;have HLX:=hid hLx;clear hLx hL;go_loopw [6] (fun i wr=>∃k:Nat,k<=3/\i=.int .i64 k/\jhi s a b c n k/\Lay w w1.heap.size op a b c n s wr) (fun i _=>3-(intOf i).toNat)
 case atStart=>exact⟨0,by omega,rfl,fun _ h=>absurd h (by omega),HL0.out⟩
 case round=>
  obtain⟨k,hk,rfl,hR,hLy⟩:=hrel;have HR:=hid hR;have HY:=hid hLy;have hS0:=ZX hLy;clear hR hLy;by_cases hlt:k<3
  ·have hlt2:k<L.size:=by omega
   have hix:=HLX.out k hlt2;obtain⟨x,hx⟩:∃x,jS a b c n (97+k)=x:=⟨_,rfl⟩;have HX:=hid hx;clear hx;by_cases hp:zn s (97+k)=true
   ·have HP:=hid hp
    clear hp;by_cases h1:x<0
    ·have hd1:decide (x<0)=true:=zqr h1
     have HB:=hid (Or.inl h1:x<0\/15<x);clear h1;go_wp2_with fail;have hyd:=Lay.below HY.out (Below.refl _ _).drew;go_region_held3 (fun W=>W.cell? ⟨w.heap.size,0,none⟩=some (.int .i64 op)/\W.cell? ⟨w.heap.size,1,none⟩=some (.int .i64 a)/\W.cell? ⟨w.heap.size,2,none⟩=some (.int .i64 b)/\W.cell? ⟨w.heap.size,3,none⟩=some (.int .i64 c)/\W.cell? ⟨w.heap.size,4,none⟩=some (.int .i64 n)/\W.cell? ⟨w1.heap.size,1,none⟩=some (.string s)/\Lay w w1.heap.size op a b c n s W)
      (first|assumption|exact ZX (by assumption))
      (first|(go_at_call 118;refine(Qa op a b c n (97+k) x HX.out _).mono ?_;rintro e wl ⟨rfl,hbl⟩;have hyl:=Lay.below (jbG (by assumption)) hbl))
     have HY2:=hid hyl;have hS2:=ZX hyl;clear hyd hyl;go_wp2_with fail;go_quiet ((go_at_call 119;refine Calls.quiet_of_same (Ze s (97+k) true HP.out HS.out _)));go_wp2_with fail;go_ret;exact⟨zc (QV (Zz hlt (by rw[HX.out];exact⟨HP.out,HB.out⟩))).symm,below_drewN HY2.out.base _⟩
    ·by_cases h2:15<x
     ·have hd1:decide (x<0)=false:=zqq h1
      have hd2:decide (15<x)=true:=zqr h2;have HB:=hid (Or.inr h2:x<0\/15<x);clear h1 h2;go_wp2_with fail;have hyd:=Lay.below HY.out (Below.refl _ _).drew;go_region_held3 (fun W=>W.cell? ⟨w.heap.size,0,none⟩=some (.int .i64 op)/\W.cell? ⟨w.heap.size,1,none⟩=some (.int .i64 a)/\W.cell? ⟨w.heap.size,2,none⟩=some (.int .i64 b)/\W.cell? ⟨w.heap.size,3,none⟩=some (.int .i64 c)/\W.cell? ⟨w.heap.size,4,none⟩=some (.int .i64 n)/\W.cell? ⟨w1.heap.size,1,none⟩=some (.string s)/\Lay w w1.heap.size op a b c n s W)
       (first|assumption|exact ZX (by assumption))
       (first|(go_at_call 118;refine(Qa op a b c n (97+k) x HX.out _).mono ?_;rintro e wl ⟨rfl,hbl⟩;have hyl:=Lay.below (jbG (by assumption)) hbl))
      have HY2:=hid hyl;have hS2:=ZX hyl;clear hyd hyl;go_wp2_with fail;go_quiet ((go_at_call 119;refine Calls.quiet_of_same (Ze s (97+k) true HP.out HS.out _)));go_wp2_with fail;go_ret;exact⟨zc (QV (Zz hlt (by rw[HX.out];exact⟨HP.out,HB.out⟩))).symm,below_drewN HY2.out.base _⟩
     ·have hd1:decide (x<0)=false:=zqq h1
      have hd2:decide (15<x)=false:=zqq h2;have HB:Hid (¬qb s x (97+k)):=fun h=>h.2.elim h1 h2;clear h1 h2;go_wp2_with fail;have hyd:=Lay.below HY.out (Below.refl _ _).drew;go_region_held3 (fun W=>W.cell? ⟨w.heap.size,0,none⟩=some (.int .i64 op)/\W.cell? ⟨w.heap.size,1,none⟩=some (.int .i64 a)/\W.cell? ⟨w.heap.size,2,none⟩=some (.int .i64 b)/\W.cell? ⟨w.heap.size,3,none⟩=some (.int .i64 c)/\W.cell? ⟨w.heap.size,4,none⟩=some (.int .i64 n)/\W.cell? ⟨w1.heap.size,1,none⟩=some (.string s)/\Lay w w1.heap.size op a b c n s W)
       (first|assumption|exact ZX (by assumption))
       (first|(go_at_call 118;refine(Qa op a b c n (97+k) x HX.out _).mono ?_;rintro e wl ⟨rfl,hbl⟩;have hyl:=Lay.below (jbG (by assumption)) hbl))
      have HY2:=hid hyl;have hS2:=ZX hyl;clear hyd hyl;go_wp2_with fail;go_quiet ((go_at_call 119;refine Calls.quiet_of_same (Ze s (97+k) true HP.out HS.out _)));go_wp2_with fail;go_roundw
      case rel=>exact⟨k+1,by omega,by simp,qq HR.out (by rw[HX.out];exact HB.out),Lay.below HY2.out (below_drewN (Below.refl _ _) _)⟩
      case measure=>simp[intOf];omega
   ·have hp2:zn s (97+k)=false:=by simpa using hp
    have HP:=hid hp2;have HB:Hid (¬qb s x (97+k)):=fun h=>hp h.1;clear hp hp2;go_wp2_with fail;have hyd:=Lay.below HY.out (Below.refl _ _).drew;go_region_held3 (fun W=>W.cell? ⟨w.heap.size,0,none⟩=some (.int .i64 op)/\W.cell? ⟨w.heap.size,1,none⟩=some (.int .i64 a)/\W.cell? ⟨w.heap.size,2,none⟩=some (.int .i64 b)/\W.cell? ⟨w.heap.size,3,none⟩=some (.int .i64 c)/\W.cell? ⟨w.heap.size,4,none⟩=some (.int .i64 n)/\W.cell? ⟨w1.heap.size,1,none⟩=some (.string s)/\Lay w w1.heap.size op a b c n s W)
     (first|assumption|exact ZX (by assumption))
     (first|(go_at_call 118;refine(Qa op a b c n (97+k) x HX.out _).mono ?_;rintro e wl ⟨rfl,hbl⟩;have hyl:=Lay.below (jbG (by assumption)) hbl))
    have HY2:=hid hyl;have hS2:=ZX hyl;clear hyd hyl;go_wp2_with fail;go_quiet ((go_at_call 119;refine Calls.quiet_of_same (Ze s (97+k) false HP.out HS.out _)));go_wp2_with fail;go_roundw
    case rel=>exact⟨k+1,by omega,by simp,qq HR.out (by rw[HX.out];exact HB.out),Lay.below HY2.out (below_drewN (Below.refl _ _) _)⟩
    case measure=>simp[intOf];omega
  ·obtain rfl:k=3:=by omega
   have HRE:=hid (jiy HR.out);have hy1:=HY.out;clear hS0;go_wp2_with fail;go_loopw [8] (fun i wz=>∃k:Nat,k<=3/\i=.int .i64 k/\jhm s a b c n k/\Lay w w1.heap.size op a b c n s wz) (fun i _=>3-(intOf i).toNat)
   case atStart=>exact⟨0,by omega,rfl,fun _ h=>absurd h (by omega),hy1⟩
   case round=>
   clear hy1;obtain⟨k,hk,rfl,hR,hLy⟩:=hrel;have HZO:=hid hR;have HY:=hid hLy;have hS0:=ZX hLy;clear hR hLy;by_cases hlt:k<3
   ·have hlt2:k<L.size:=by omega
    have hix:=HLX.out k hlt2;obtain⟨x,hx⟩:∃x,jS a b c n (97+k)=x:=⟨_,rfl⟩;have HX:=hid hx;clear hx;by_cases hp:zn s (97+k)=true
    ·have HP:=hid hp
     have HB:Hid (¬j6 s x (97+k)):=fun h=>by have h1:=h.1;rw[hp] at h1;cases h1
     clear hp;go_wp2_with fail;go_quiet ((go_at_call 119;refine Calls.quiet_of_same (Ze s (97+k) true HP.out HS.out _)));go_wp2_with fail;go_roundw
     case rel=>exact⟨k+1,by omega,by simp,qq HZO.out (by rw[HX.out];exact HB.out),Lay.below HY.out (below_drewN (Below.refl _ _) _)⟩
     case measure=>simp[intOf];omega
    have hp2:zn s (97+k)=false:=by simpa using hp
    have HP:=hid hp2;clear hp;by_cases hx0:x=0
    ·have hd:(x !=0)=false:=by simpa using hx0
     have HB:Hid (¬j6 s x (97+k)):=fun h=>h.2 hx0;clear hx0 hp2;go_wp2_with fail;have hyd:=Lay.below HY.out (Below.refl _ _).drew;go_region_held3 (fun W=>W.cell? ⟨w.heap.size,0,none⟩=some (.int .i64 op)/\W.cell? ⟨w.heap.size,1,none⟩=some (.int .i64 a)/\W.cell? ⟨w.heap.size,2,none⟩=some (.int .i64 b)/\W.cell? ⟨w.heap.size,3,none⟩=some (.int .i64 c)/\W.cell? ⟨w.heap.size,4,none⟩=some (.int .i64 n)/\W.cell? ⟨w1.heap.size,1,none⟩=some (.string s)/\Lay w w1.heap.size op a b c n s W)
      (first|assumption|exact ZX (by assumption))
      (first|(go_at_call 119;refine(Ze s (97+k) false HP.out HS.out _).mono ?_;rintro e wh ⟨rfl,rfl⟩)|(go_at_call 118;refine(Qa op a b c n (97+k) x HX.out _).mono ?_;rintro e wl ⟨rfl,hbl⟩;have hyl:=Lay.below (jbG (by assumption)) hbl))
     have HY2:=hid hyl;clear hyd hyl;go_wp2_with fail;go_roundw
     case rel=>
      refine⟨_,_,_,_,_,_,_,_,_,_,_,_,_,_,_,_,_,_,_,_,_,?_,rfl⟩;exact⟨k+1,by omega,by simp,qq HZO.out (by rw[HX.out];exact HB.out),HY2.out⟩
     case measure=>simp[intOf];omega
    ·have hd:(x !=0)=true:=by simpa using hx0
     have HB:Hid (j6 s x (97+k)):=⟨hp2,hx0⟩;clear hx0 hp2;go_wp2_with fail;have hyd:=Lay.below HY.out (Below.refl _ _).drew;go_region_held3 (fun W=>W.cell? ⟨w.heap.size,0,none⟩=some (.int .i64 op)/\W.cell? ⟨w.heap.size,1,none⟩=some (.int .i64 a)/\W.cell? ⟨w.heap.size,2,none⟩=some (.int .i64 b)/\W.cell? ⟨w.heap.size,3,none⟩=some (.int .i64 c)/\W.cell? ⟨w.heap.size,4,none⟩=some (.int .i64 n)/\W.cell? ⟨w1.heap.size,1,none⟩=some (.string s)/\Lay w w1.heap.size op a b c n s W)
      (first|assumption|exact ZX (by assumption))
      (first|(go_at_call 119;refine(Ze s (97+k) false HP.out HS.out _).mono ?_;rintro e wh ⟨rfl,rfl⟩)|(go_at_call 118;refine(Qa op a b c n (97+k) x HX.out _).mono ?_;rintro e wl ⟨rfl,hbl⟩;have hyl:=Lay.below (jbG (by assumption)) hbl))
     have HY2:=hid hyl;clear hyd hyl;go_wp2_with fail;go_ret;exact⟨zc (QG HRE.out (jcy hlt (by rw[HX.out];exact HB.out))).symm,HY2.out.base⟩
   ·obtain rfl:k=3:=by omega
    have HZ:=HY;by_cases hp:zn s 110=true
    ·have HP:=hid hp
     by_cases h1:n< -2147483648
     ·have hd1:decide (n< -2147483648)=true:=zqr h1
      have HB:Hid (JO s n):=.inl ⟨hp,.inl h1⟩;clear h1 hp;go_wp2_with (go_at_call 119;refine(Ze s 110 true HP.out HS.out _).mono ?_;rintro e wh ⟨rfl,rfl⟩);go_ret;exact⟨zc (QG HRE.out (.inr (.inr (.inr HB.out)))).symm,HZ.out.base⟩
     by_cases h2:2147483647<n
     ·have hd1:decide (n< -2147483648)=false:=zqq h1
      have hd2:decide (2147483647<n)=true:=zqr h2;have HB:Hid (JO s n):=.inl ⟨hp,.inr h2⟩;clear h1 h2 hp;go_wp2_with (go_at_call 119;refine(Ze s 110 true HP.out HS.out _).mono ?_;rintro e wh ⟨rfl,rfl⟩);go_ret;exact⟨zc (QG HRE.out (.inr (.inr (.inr HB.out)))).symm,HZ.out.base⟩
     ·have hd1:decide (n< -2147483648)=false:=zqq h1
      have hd2:decide (2147483647<n)=false:=zqq h2;have HB:Hid (¬JO s n):=fun h=>h.elim (fun h=>h.2.elim h1 h2) (fun h=>by have h1:=h.1;rw[hp] at h1;cases h1);clear h1 h2 hp;go_wp2_with (go_at_call 119;refine(Ze s 110 true HP.out HS.out _).mono ?_;rintro e wh ⟨rfl,rfl⟩);go_ret;exact⟨zc (jbX HRE.out (jel HZO.out HB.out)).symm,HZ.out.base⟩
    ·have hp2:zn s 110=false:=by simpa using hp
     have HP:=hid hp2;by_cases hx0:n=0
     ·have hd:(n !=0)=false:=by simpa using hx0
      have HB:Hid (¬JO s n):=fun h=>h.elim (fun h=>hp h.1) (fun h=>h.2 hx0);clear hx0 hp hp2;go_wp2_with (go_at_call 119;refine(Ze s 110 false HP.out HS.out _).mono ?_;rintro e wh ⟨rfl,rfl⟩);go_ret;exact⟨zc (jbX HRE.out (jel HZO.out HB.out)).symm,HZ.out.base⟩
     ·have hd:(n !=0)=true:=by simpa using hx0
      have HB:Hid (JO s n):=.inr ⟨hp2,hx0⟩;clear hx0 hp hp2;go_wp2_with (go_at_call 119;refine(Ze s 110 false HP.out HS.out _).mono ?_;rintro e wh ⟨rfl,rfl⟩);go_ret;exact⟨zc (QG HRE.out (.inr (.inr (.inr HB.out)))).symm,HZ.out.base⟩
end IsaL
