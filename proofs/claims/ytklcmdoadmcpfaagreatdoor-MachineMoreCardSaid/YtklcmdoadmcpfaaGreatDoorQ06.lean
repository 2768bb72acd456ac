/- A part of the proof of MachineMoves. Conditions: those that each theorem names. -/
import Derived.Test.YtklcmdoadmcpfaaGreatDoorQ05
set_option maxRecDepth 100000
set_option maxHeartbeats 400000000
namespace Go.Proofs.YtklcmdoadmcpfaaGreatDoor
open Go Go.RowKit
open Go.Lib(hid)
open Go.Proofs.Tryz(prog)
namespace IsaL
open Go Go.RowKit
theorem jjg (op a b c n:Int) (h:op<1\/36<op) (w:World):
  Calls prog 83 #[.agg #[.int .i64 op,.int .i64 a,.int .i64 b,.int .i64 c,.int .i64 n]] w fun e w'=>e=.returned (.int .i64 30)/\Below w.heap.size w w':=by
 have HV:Hid (jcm 0=.agg #[.string ⟨#[]⟩,.string ⟨#[]⟩,.string ⟨#[]⟩,.string ⟨#[]⟩]):=rfl;go_enter Tryz.func83,Tryz.ntmps83;go_wp2_with fail;refine(jr0 op h _).mono ?_;rintro e w1 ⟨rfl,hb1⟩;rw[HV.out];have HB:=hid (((Below.refl w.heap.size w).alloc (zqg _) (.cells #[.int .i64 op,.int .i64 a,.int .i64 b,.int .i64 c,.int .i64 n] 41)).trans (hb1.mono (by simp)));clear hb1;go_wp2_with fail;go_ret;exact⟨rfl,HB.out.alloc HB.out.size _⟩
theorem jpe (op a b c n:Int) (h:op<1\/36<op) (w:World):
  Calls prog 79 #[.agg #[.int .i64 op,.int .i64 a,.int .i64 b,.int .i64 c,.int .i64 n]] w fun e w'=>e=.returned (.int .i64 30)/\Below w.heap.size w w':=by
 go_enter Tryz.func79,Tryz.ntmps79;go_wp2_with fail;refine(jpP op h _).mono ?_;rintro e w1 ⟨rfl,rfl⟩;go_wp2_with fail;go_ret;exact⟨rfl,(Below.refl w.heap.size w).alloc (zqg _) _⟩
theorem ix3 (a b c:Int) (W:World):(Instr.index 182 (.agg #[.int .i64 a,.int .i64 b,.int .i64 c]) (.int .i64 0)).run prog W=.ok (.int .i64 a) W∧
  (Instr.index 182 (.agg #[.int .i64 a,.int .i64 b,.int .i64 c]) (.int .i64 1)).run prog W=.ok (.int .i64 b) W∧
  (Instr.index 182 (.agg #[.int .i64 a,.int .i64 b,.int .i64 c]) (.int .i64 2)).run prog W=.ok (.int .i64 c) W:=⟨by kernel_rfl,by kernel_rfl,by kernel_rfl⟩
theorem ix4 (a b c n:Int) (W:World):(Instr.index 183 (.agg #[.int .i64 a,.int .i64 b,.int .i64 c,.int .i64 n]) (.int .i64 0)).run prog W=.ok (.int .i64 a) W∧
  (Instr.index 183 (.agg #[.int .i64 a,.int .i64 b,.int .i64 c,.int .i64 n]) (.int .i64 1)).run prog W=.ok (.int .i64 b) W∧
  (Instr.index 183 (.agg #[.int .i64 a,.int .i64 b,.int .i64 c,.int .i64 n]) (.int .i64 2)).run prog W=.ok (.int .i64 c) W∧
  (Instr.index 183 (.agg #[.int .i64 a,.int .i64 b,.int .i64 c,.int .i64 n]) (.int .i64 3)).run prog W=.ok (.int .i64 n) W:=⟨by kernel_rfl,by kernel_rfl,by kernel_rfl,by kernel_rfl⟩
theorem juv:∀n,n<37->bits BinOp.and IntKind.i64 (((ZH n:Nat):Int)) 1=if zn (bs (zI n).2.1) 97 then 1 else 0
 |0,_=>by decide
 |1,_=>by decide
 |2,_=>by decide
 |3,_=>by decide
 |4,_=>by decide
 |5,_=>by decide
 |6,_=>by decide
 |7,_=>by decide
 |8,_=>by decide
 |9,_=>by decide
 |10,_=>by decide
 |11,_=>by decide
 |12,_=>by decide
 |13,_=>by decide
 |14,_=>by decide
 |15,_=>by decide
 |16,_=>by decide
 |17,_=>by decide
 |18,_=>by decide
 |19,_=>by decide
 |20,_=>by decide
 |21,_=>by decide
 |22,_=>by decide
 |23,_=>by decide
 |24,_=>by decide
 |25,_=>by decide
 |26,_=>by decide
 |27,_=>by decide
 |28,_=>by decide
 |29,_=>by decide
 |30,_=>by decide
 |31,_=>by decide
 |32,_=>by decide
 |33,_=>by decide
 |34,_=>by decide
 |35,_=>by decide
 |36,_=>by decide
 |n+37,h=>absurd h (by omega)
theorem juw:∀n,n<37->bits BinOp.and IntKind.i64 (((ZH n:Nat):Int)/2) 1=if zn (bs (zI n).2.1) 98 then 1 else 0
 |0,_=>by decide
 |1,_=>by decide
 |2,_=>by decide
 |3,_=>by decide
 |4,_=>by decide
 |5,_=>by decide
 |6,_=>by decide
 |7,_=>by decide
 |8,_=>by decide
 |9,_=>by decide
 |10,_=>by decide
 |11,_=>by decide
 |12,_=>by decide
 |13,_=>by decide
 |14,_=>by decide
 |15,_=>by decide
 |16,_=>by decide
 |17,_=>by decide
 |18,_=>by decide
 |19,_=>by decide
 |20,_=>by decide
 |21,_=>by decide
 |22,_=>by decide
 |23,_=>by decide
 |24,_=>by decide
 |25,_=>by decide
 |26,_=>by decide
 |27,_=>by decide
 |28,_=>by decide
 |29,_=>by decide
 |30,_=>by decide
 |31,_=>by decide
 |32,_=>by decide
 |33,_=>by decide
 |34,_=>by decide
 |35,_=>by decide
 |36,_=>by decide
 |n+37,h=>absurd h (by omega)
theorem jux:∀n,n<37->bits BinOp.and IntKind.i64 (((ZH n:Nat):Int)/4) 1=if zn (bs (zI n).2.1) 99 then 1 else 0
 |0,_=>by decide
 |1,_=>by decide
 |2,_=>by decide
 |3,_=>by decide
 |4,_=>by decide
 |5,_=>by decide
 |6,_=>by decide
 |7,_=>by decide
 |8,_=>by decide
 |9,_=>by decide
 |10,_=>by decide
 |11,_=>by decide
 |12,_=>by decide
 |13,_=>by decide
 |14,_=>by decide
 |15,_=>by decide
 |16,_=>by decide
 |17,_=>by decide
 |18,_=>by decide
 |19,_=>by decide
 |20,_=>by decide
 |21,_=>by decide
 |22,_=>by decide
 |23,_=>by decide
 |24,_=>by decide
 |25,_=>by decide
 |26,_=>by decide
 |27,_=>by decide
 |28,_=>by decide
 |29,_=>by decide
 |30,_=>by decide
 |31,_=>by decide
 |32,_=>by decide
 |33,_=>by decide
 |34,_=>by decide
 |35,_=>by decide
 |36,_=>by decide
 |n+37,h=>absurd h (by omega)
theorem juy:∀n,n<37->bits BinOp.and IntKind.i64 (((ZH n:Nat):Int)/8) 1=if zn (bs (zI n).2.1) 110 then 1 else 0
 |0,_=>by decide
 |1,_=>by decide
 |2,_=>by decide
 |3,_=>by decide
 |4,_=>by decide
 |5,_=>by decide
 |6,_=>by decide
 |7,_=>by decide
 |8,_=>by decide
 |9,_=>by decide
 |10,_=>by decide
 |11,_=>by decide
 |12,_=>by decide
 |13,_=>by decide
 |14,_=>by decide
 |15,_=>by decide
 |16,_=>by decide
 |17,_=>by decide
 |18,_=>by decide
 |19,_=>by decide
 |20,_=>by decide
 |21,_=>by decide
 |22,_=>by decide
 |23,_=>by decide
 |24,_=>by decide
 |25,_=>by decide
 |26,_=>by decide
 |27,_=>by decide
 |28,_=>by decide
 |29,_=>by decide
 |30,_=>by decide
 |31,_=>by decide
 |32,_=>by decide
 |33,_=>by decide
 |34,_=>by decide
 |35,_=>by decide
 |36,_=>by decide
 |n+37,h=>absurd h (by omega)
theorem jfW (op:Nat) (h0:1<=op) (h1:op<=36) (a b c n:Int) (w:World) (ho:ZM w):
  Calls prog 79 #[.agg #[.int .i64 op,.int .i64 a,.int .i64 b,.int .i64 c,.int .i64 n]] w fun e w'=>e=.returned (.int .i64 (chk (bs (zI op).2.1) a b c n))/\Below w.heap.size w w':=by
 have hlt0:=World.block_lt_of_cell? w _ (ho op (by omega)).2;have hne:w.heap.size≠0:=by have:0<w.heap.size:=hlt0;omega
 have c0:=(ho op (by omega)).2;have p0:=juv op (by omega);have p1:=juw op (by omega);have p2:=jux op (by omega);have p3:=juy op (by omega);obtain⟨P,hP⟩:∃P,ZH op=P:=⟨_,rfl⟩;obtain⟨s,hs⟩:∃s,bs (zI op).2.1=s:=⟨_,rfl⟩;rw[hP] at c0 p0 p1 p2 p3;rw[hs] at p0 p1 p2 p3 ⊢;have HP0:=hid p0;have HP1:=hid p1;have HP2:=hid p2;have HP3:=hid p3;clear hP ho hs p0 p1 p2 p3;have hi0:=fun W=>(ix3 a b c W).1;have hi1:=fun W=>(ix3 a b c W).2.1;have hi2:=fun W=>(ix3 a b c W).2.2;have hj0:=fun W=>(ix4 a b c n W).1;have hj1:=fun W=>(ix4 a b c n W).2.1;have hj2:=fun W=>(ix4 a b c n W).2.2.1;have hj3:=fun W=>(ix4 a b c n W).2.2.2;go_enter Tryz.func79,Tryz.ntmps79;go_wp2_with fail;refine(jnj op (by omega) (by omega) _).mono ?_;rintro e w1 ⟨rfl,rfl⟩;go_wp2_with fail;go_loop [24] (fun i=>∃k:Nat,k<=3/\i=.int .i64 k/\jhi s a b c n k) (fun i=>3-(intOf i).toNat)
 case atStart=>exact⟨0,by omega,rfl,fun _ h=>absurd h (by omega)⟩
 case round=>
  obtain⟨k,hk,rfl,hR⟩:=hrel;have HR:=hid hR;clear hR;by_cases hlt:k<3
  ·obtain rfl|rfl|rfl:k=0\/k=1\/k=2:=by omega
   ·have hb:=HP0.out
    by_cases hq:zn s 97=true
    ·rw[if_pos hq] at hb
     have HQ:=hid hq;clear hq;by_cases u1:a<0
     ·have HV:Hid (a<0\/15<a):=.inl u1
      go_wp2_with fail;go_ret;exact⟨zc (QV (Zz (n:=n) (k:=0) (by omega) (by rw[l97];exact⟨HQ.out,HV.out⟩))).symm,(Below.refl w.heap.size w).alloc (zqg _) _⟩
     by_cases u2:16<=a
     ·have HV:Hid (a<0\/15<a):=.inr (by omega)
      go_wp2_with fail;go_ret;exact⟨zc (QV (Zz (n:=n) (k:=0) (by omega) (by rw[l97];exact⟨HQ.out,HV.out⟩))).symm,(Below.refl w.heap.size w).alloc (zqg _) _⟩
     have HV:Hid (¬qb s a 97):=fun h=>h.2.elim u1 (fun h=>u2 (by omega));go_wp2_with fail;go_round
     case rel=>exact⟨1,by omega,by simp,qq HR.out (by rw[l97];exact HV.out)⟩
     case measure=>simp[intOf]
    ·have HV:Hid (¬qb s a 97):=fun h=>hq h.1
     rw[if_neg hq] at hb;clear hq;go_wp2_with fail;go_round
     case rel=>exact⟨1,by omega,by simp,qq HR.out (by rw[l97];exact HV.out)⟩
     case measure=>simp[intOf]
   ·have hb:=HP1.out
    by_cases hq:zn s 98=true
    ·rw[if_pos hq] at hb
     have HQ:=hid hq;clear hq;by_cases u1:b<0
     ·have HV:Hid (b<0\/15<b):=.inl u1
      go_wp2_with fail;go_ret;exact⟨zc (QV (Zz (n:=n) (k:=1) (by omega) (by rw[l98];exact⟨HQ.out,HV.out⟩))).symm,(Below.refl w.heap.size w).alloc (zqg _) _⟩
     by_cases u2:16<=b
     ·have HV:Hid (b<0\/15<b):=.inr (by omega)
      go_wp2_with fail;go_ret;exact⟨zc (QV (Zz (n:=n) (k:=1) (by omega) (by rw[l98];exact⟨HQ.out,HV.out⟩))).symm,(Below.refl w.heap.size w).alloc (zqg _) _⟩
     have HV:Hid (¬qb s b 98):=fun h=>h.2.elim u1 (fun h=>u2 (by omega));go_wp2_with fail;go_round
     case rel=>exact⟨2,by omega,by simp,qq HR.out (by rw[l98];exact HV.out)⟩
     case measure=>simp[intOf]
    ·have HV:Hid (¬qb s b 98):=fun h=>hq h.1
     rw[if_neg hq] at hb;clear hq;go_wp2_with fail;go_round
     case rel=>exact⟨2,by omega,by simp,qq HR.out (by rw[l98];exact HV.out)⟩
     case measure=>simp[intOf]
   ·have hb:=HP2.out
    by_cases hq:zn s 99=true
    ·rw[if_pos hq] at hb
     have HQ:=hid hq;clear hq;by_cases u1:c<0
     ·have HV:Hid (c<0\/15<c):=.inl u1
      go_wp2_with fail;go_ret;exact⟨zc (QV (Zz (n:=n) (k:=2) (by omega) (by rw[l99];exact⟨HQ.out,HV.out⟩))).symm,(Below.refl w.heap.size w).alloc (zqg _) _⟩
     by_cases u2:16<=c
     ·have HV:Hid (c<0\/15<c):=.inr (by omega)
      go_wp2_with fail;go_ret;exact⟨zc (QV (Zz (n:=n) (k:=2) (by omega) (by rw[l99];exact⟨HQ.out,HV.out⟩))).symm,(Below.refl w.heap.size w).alloc (zqg _) _⟩
     have HV:Hid (¬qb s c 99):=fun h=>h.2.elim u1 (fun h=>u2 (by omega));go_wp2_with fail;go_round
     case rel=>exact⟨3,by omega,by simp,qq HR.out (by rw[l99];exact HV.out)⟩
     case measure=>simp[intOf]
    ·have HV:Hid (¬qb s c 99):=fun h=>hq h.1
     rw[if_neg hq] at hb;clear hq;go_wp2_with fail;go_round
     case rel=>exact⟨3,by omega,by simp,qq HR.out (by rw[l99];exact HV.out)⟩
     case measure=>simp[intOf]
  ·obtain rfl:k=3:=by omega
   have HRE:=hid (jiy HR.out);go_wp2_with fail;go_loop [51] (fun i=>∃k:Nat,k<=4/\i=.int .i64 k/\jhm s a b c n (min k 3)/\(k=4->zn s 110=true\/n=0)) (fun i=>4-(intOf i).toNat)
   case atStart=>exact⟨0,by omega,rfl,fun _ h=>absurd h (by omega),by omega⟩
   case round=>
   obtain⟨k,hk,rfl,hZ,hN⟩:=hrel;have HZ:=hid hZ;have HN:=hid hN;clear hZ hN;by_cases hlt:k<4
   ·obtain rfl|rfl|rfl|rfl:k=0\/k=1\/k=2\/k=3:=by omega
    ·have hb:=HP0.out
     by_cases hq:zn s 97=true
     ·rw[if_pos hq] at hb
      have HV:Hid (¬(j6 s a 97)):=fun h=>by have h1:=h.1;rw[hq] at h1;cases h1
      have HW:Hid (zn s 97=true\/a=0):=.inl hq;clear hq;go_wp2_with fail;go_round
      case rel=>exact⟨1,by omega,by simp,qq (P:=fun j=>¬j6 s (jS a b c n (97+j)) (97+j)) (k:=0) HZ.out (by show¬j6 s (jS a b c n (97+((0:Nat):Int))) _;rw[l97];exact HV.out),by omega⟩
      case measure=>simp[intOf]
     rw[if_neg hq] at hb;by_cases hx0:a=0
     ·have hd:(a !=0)=false:=by simpa using hx0
      have HV:Hid (¬(j6 s a 97)):=fun h=>h.2 hx0;have HW:Hid (zn s 97=true\/a=0):=.inr hx0;clear hq hx0;go_wp2_with fail;go_round
      case rel=>exact⟨1,by omega,by simp,qq (P:=fun j=>¬j6 s (jS a b c n (97+j)) (97+j)) (k:=0) HZ.out (by show¬j6 s (jS a b c n (97+((0:Nat):Int))) _;rw[l97];exact HV.out),by omega⟩
      case measure=>simp[intOf]
     ·have hd:(a !=0)=true:=by simpa using hx0
      have HV:Hid (j6 s a 97):=⟨by simpa using hq,hx0⟩;clear hq hx0;go_wp2_with fail;go_ret;exact⟨zc (QG HRE.out (jcy (k:=0) (by omega) (by rw[l97];exact HV.out))).symm,(Below.refl w.heap.size w).alloc (zqg _) _⟩
    ·have hb:=HP1.out
     by_cases hq:zn s 98=true
     ·rw[if_pos hq] at hb
      have HV:Hid (¬(j6 s b 98)):=fun h=>by have h1:=h.1;rw[hq] at h1;cases h1
      have HW:Hid (zn s 98=true\/b=0):=.inl hq;clear hq;go_wp2_with fail;go_round
      case rel=>exact⟨2,by omega,by simp,qq (P:=fun j=>¬j6 s (jS a b c n (97+j)) (97+j)) (k:=1) HZ.out (by show¬j6 s (jS a b c n (97+((1:Nat):Int))) _;rw[l98];exact HV.out),by omega⟩
      case measure=>simp[intOf]
     rw[if_neg hq] at hb;by_cases hx0:b=0
     ·have hd:(b !=0)=false:=by simpa using hx0
      have HV:Hid (¬(j6 s b 98)):=fun h=>h.2 hx0;have HW:Hid (zn s 98=true\/b=0):=.inr hx0;clear hq hx0;go_wp2_with fail;go_round
      case rel=>exact⟨2,by omega,by simp,qq (P:=fun j=>¬j6 s (jS a b c n (97+j)) (97+j)) (k:=1) HZ.out (by show¬j6 s (jS a b c n (97+((1:Nat):Int))) _;rw[l98];exact HV.out),by omega⟩
      case measure=>simp[intOf]
     ·have hd:(b !=0)=true:=by simpa using hx0
      have HV:Hid (j6 s b 98):=⟨by simpa using hq,hx0⟩;clear hq hx0;go_wp2_with fail;go_ret;exact⟨zc (QG HRE.out (jcy (k:=1) (by omega) (by rw[l98];exact HV.out))).symm,(Below.refl w.heap.size w).alloc (zqg _) _⟩
    ·have hb:=HP2.out
     by_cases hq:zn s 99=true
     ·rw[if_pos hq] at hb
      have HV:Hid (¬(j6 s c 99)):=fun h=>by have h1:=h.1;rw[hq] at h1;cases h1
      have HW:Hid (zn s 99=true\/c=0):=.inl hq;clear hq;go_wp2_with fail;go_round
      case rel=>exact⟨3,by omega,by simp,qq (P:=fun j=>¬j6 s (jS a b c n (97+j)) (97+j)) (k:=2) HZ.out (by show¬j6 s (jS a b c n (97+((2:Nat):Int))) _;rw[l99];exact HV.out),by omega⟩
      case measure=>simp[intOf]
     rw[if_neg hq] at hb;by_cases hx0:c=0
     ·have hd:(c !=0)=false:=by simpa using hx0
      have HV:Hid (¬(j6 s c 99)):=fun h=>h.2 hx0;have HW:Hid (zn s 99=true\/c=0):=.inr hx0;clear hq hx0;go_wp2_with fail;go_round
      case rel=>exact⟨3,by omega,by simp,qq (P:=fun j=>¬j6 s (jS a b c n (97+j)) (97+j)) (k:=2) HZ.out (by show¬j6 s (jS a b c n (97+((2:Nat):Int))) _;rw[l99];exact HV.out),by omega⟩
      case measure=>simp[intOf]
     ·have hd:(c !=0)=true:=by simpa using hx0
      have HV:Hid (j6 s c 99):=⟨by simpa using hq,hx0⟩;clear hq hx0;go_wp2_with fail;go_ret;exact⟨zc (QG HRE.out (jcy (k:=2) (by omega) (by rw[l99];exact HV.out))).symm,(Below.refl w.heap.size w).alloc (zqg _) _⟩
    ·have hb:=HP3.out
     by_cases hq:zn s 110=true
     ·rw[if_pos hq] at hb
      have HV:Hid (¬(zn s 110=false/\n≠0)):=fun h=>by have h1:=h.1;rw[hq] at h1;cases h1
      have HW:Hid (zn s 110=true\/n=0):=.inl hq;clear hq;go_wp2_with fail;go_round
      case rel=>exact⟨4,by omega,by simp,HZ.out,fun _=>HW.out⟩
      case measure=>simp[intOf]
     rw[if_neg hq] at hb;by_cases hx0:n=0
     ·have hd:(n !=0)=false:=by simpa using hx0
      have HV:Hid (¬(zn s 110=false/\n≠0)):=fun h=>h.2 hx0;have HW:Hid (zn s 110=true\/n=0):=.inr hx0;clear hq hx0;go_wp2_with fail;go_round
      case rel=>exact⟨4,by omega,by simp,HZ.out,fun _=>HW.out⟩
      case measure=>simp[intOf]
     ·have hd:(n !=0)=true:=by simpa using hx0
      have HV:Hid (zn s 110=false/\n≠0):=⟨by simpa using hq,hx0⟩;clear hq hx0;go_wp2_with fail;go_ret;exact⟨zc (QG HRE.out (.inr (.inr (.inr (.inr HV.out))))).symm,(Below.refl w.heap.size w).alloc (zqg _) _⟩
   ·obtain rfl:k=4:=by omega
    by_cases u1:n< -2147483648
    ·have HB:Hid (JO s n):=(HN.out rfl).elim (fun h=>.inl ⟨h,.inl u1⟩) (fun h=>by omega)
     go_wp2_with fail;go_ret;exact⟨zc (QG HRE.out (.inr (.inr (.inr HB.out)))).symm,(Below.refl w.heap.size w).alloc (zqg _) _⟩
    by_cases u2:2147483647<n
    ·have HB:Hid (JO s n):=(HN.out rfl).elim (fun h=>.inl ⟨h,.inr u2⟩) (fun h=>by omega)
     go_wp2_with fail;go_ret;exact⟨zc (QG HRE.out (.inr (.inr (.inr HB.out)))).symm,(Below.refl w.heap.size w).alloc (zqg _) _⟩
    ·have HB:Hid (¬JO s n):=fun h=>h.elim (fun h=>h.2.elim u1 u2) (fun h=>(HN.out rfl).elim (fun g=>by have h1:=h.1;rw[g] at h1;cases h1) h.2)
     go_wp2_with fail;go_ret;exact⟨zc (jbX HRE.out (jel HZ.out HB.out)).symm,(Below.refl w.heap.size w).alloc (zqg _) _⟩
end IsaL
namespace IsaL
open Go Go.RowKit
theorem jch {s:ByteArray} {v k:Int} (h1:¬qb s v k) (h2:¬j6 s v k):0<=v/\v<=15:=by
 unfold qb at h1;unfold j6 at h2;by_cases hq:zn s k=true
 ·constructor
  ·by_cases h:v<0
   ·exact absurd ⟨hq,.inl h⟩ h1
   ·omega
  ·by_cases h:15<v
   ·exact absurd ⟨hq,.inr h⟩ h1
   ·omega
 ·have:v=0:=by
   by_cases h:v=0
   ·exact h
   ·exact absurd ⟨by simpa using hq,h⟩ h2
  omega
theorem jqg {s:ByteArray} {n:Int} (h:¬JO s n): -2147483648<=n/\n<=2147483647:=by
 unfold JO at h;by_cases hq:zn s 110=true
 ·constructor
  ·by_cases h':n< -2147483648
   ·exact absurd (.inl ⟨hq,.inl h'⟩) h
   ·omega
  ·by_cases h':2147483647<n
   ·exact absurd (.inl ⟨hq,.inr h'⟩) h
   ·omega
 ·have:n=0:=by
   by_cases h':n=0
   ·exact h'
   ·exact absurd (.inr ⟨by simpa using hq,h'⟩) h
  omega
theorem jaq {s:ByteArray} {a b c n:Int} (h:chk s a b c n=0):(0<=a/\a<=15)/\(0<=b/\b<=15)/\(0<=c/\c<=15)/\ -2147483648<=n/\n<=2147483647:=by
 unfold chk at h;split at h
 ·cases h
 ·rename_i h1
  split at h
  ·cases h
  ·rename_i h2
   exact⟨jch (fun g=>h1 (.inl g)) (fun g=>h2 (.inl g)),jch (fun g=>h1 (.inr (.inl g))) (fun g=>h2 (.inr (.inl g))),jch (fun g=>h1 (.inr (.inr g))) (fun g=>h2 (.inr (.inr (.inl g)))),jqg (fun g=>h2 (.inr (.inr (.inr g))))⟩
theorem jnc {w w1:World} {o a b c n:Int} (hb:Below (w.alloc (.cells #[.int .i64 o,.int .i64 a,.int .i64 b,.int .i64 c,.int .i64 n] 41)).heap.size (w.alloc (.cells #[.int .i64 o,.int .i64 a,.int .i64 b,.int .i64 c,.int .i64 n] 41)) w1):
  w1.cell? ⟨w.heap.size,0,none⟩=some (.int .i64 o)/\w1.cell? ⟨w.heap.size,1,none⟩=some (.int .i64 a)/\w1.cell? ⟨w.heap.size,2,none⟩=some (.int .i64 b)/\w1.cell? ⟨w.heap.size,3,none⟩=some (.int .i64 c)/\w1.cell? ⟨w.heap.size,4,none⟩=some (.int .i64 n):=by
 refine⟨?_,?_,?_,?_,?_⟩;all_goals
  rw[hb.cell (by simp)];simp
theorem jup (k X Y:Nat) (hX:X<2^k) (hY:Y%2^k=0) (h1:X<18446744073709551616) (h2:Y<18446744073709551616):bits BinOp.or IntKind.u64 (X:Int) (Y:Int)=(X:Int)+Y:=by
 rw[u64_or_nat X Y h1 h2,Nat.or_comm,nat_join k Y X hY hX];omega
theorem or_addI (k:Nat) (x y:Int) (h0:0<=x) (hx:x<2^k) (hk:k<=63) (hy0:0<=y) (hy:y%2^k=0) (h2:y<18446744073709551616):bits BinOp.or IntKind.u64 x y=x+y:=by
 obtain⟨X,rfl⟩:=Int.eq_ofNat_of_zero_le h0;obtain⟨Y,rfl⟩:=Int.eq_ofNat_of_zero_le hy0;have hk2:(2:Nat)^k<=2^63:=Nat.pow_le_pow_right (by decide) hk;have hX:X<2^k:=by exact_mod_cast hx
 exact jup k X Y hX (by exact_mod_cast hy) (by have:(2:Nat)^63<18446744073709551616:=by decide
                                               omega) (by omega)
def Qx (o a b c n:Int):Int:=o+256*a+65536*b+16777216*c+4294967296*(n%4294967296)
theorem jrW {o a b c n:Int} (ho0:0<=o) (ho1:o<=255) (ha0:0<=a) (ha1:a<=15) (hb0:0<=b) (hb1:b<=15) (hc0:0<=c) (hc1:c<=15):
  bits BinOp.or IntKind.u64 (bits BinOp.or IntKind.u64 (bits BinOp.or IntKind.u64 (bits BinOp.or IntKind.u64 o (a*256)) (b*65536)) (c*16777216)) (IntKind.u64.wrap (IntKind.u64.wrap n*4294967296))=Qx o a b c n:=by
 have h:IntKind.u64.wrap (IntKind.u64.wrap n*4294967296)=4294967296*(n%4294967296):=by
  rw[IntKind.wrap_u64,IntKind.wrap_u64];omega
 rw[h,or_addI 8 o (a*256) (by omega) (by omega) (by omega) (by omega) (by omega) (by omega),or_addI 16 (o+a*256) (b*65536) (by omega) (by omega) (by omega) (by omega) (by omega) (by omega),or_addI 24 (o+a*256+b*65536) (c*16777216) (by omega) (by omega) (by omega) (by omega) (by omega) (by omega),or_addI 32 _ (4294967296*(n%4294967296)) (by omega) (by omega) (by omega) (by omega) (by omega) (by omega)];unfold Qx;omega
theorem juE {x y:Int} (h:x=y):Ending.returned (.tuple #[.int .u64 x,.int .i64 0])=.returned (.tuple #[.int .u64 y,.int .i64 0]):=by rw[h]
theorem jmP (op:Nat) (h0:1<=op) (h1:op<=36) (a b c n:Int) (hc:chk (bs (zI op).2.1) a b c n=0) (w:World) (ho:ZM w):
  Calls prog 81 #[.agg #[.int .i64 op,.int .i64 a,.int .i64 b,.int .i64 c,.int .i64 n]] w fun e w'=>e=.returned (.tuple #[.int .u64 (Qx op a b c n),.int .i64 0])/\Below w.heap.size w w':=by
 obtain⟨⟨ha0,ha1⟩,⟨hb0,hb1⟩,⟨hc0,hc1⟩,hn0,hn1⟩:=jaq hc;have HC:=hid hc;have HO:=hid ho;clear hc ho;go_enter Tryz.func81,Tryz.ntmps81;go_wp2_with fail;refine(jfW op h0 h1 a b c n _ (Q6 HO.out (zqg _) ((Below.refl w.heap.size w).alloc (zqg _) _))).mono ?_;rintro e w1 ⟨rfl,hb⟩;rw[HC.out];have HB:=hid hb;obtain⟨d0,d1,d2,d3,d4⟩:=jnc hb;clear hb;go_wp2_with fail;go_ret2;exact⟨juE (jrW (by omega) (by omega) ha0 ha1 hb0 hb1 hc0 hc1),((Below.refl w.heap.size w).alloc (zqg _) _).trans (HB.out.mono (by simp))⟩
noncomputable def zq (op a b c n:Int):Int:=if 1<=op/\op<=36 then chk (bs (zI op.toNat).2.1) a b c n else 30
theorem Ja {op:Nat} (h0:1<=op) (h1:op<=36) (a b c n:Int):zq op a b c n=chk (bs (zI op).2.1) a b c n:=by
 unfold zq;rw[if_pos (by omega)];rfl
theorem jdR {op:Int} (h:op<1\/36<op) (a b c n:Int):zq op a b c n=30:=by
 unfold zq;rw[if_neg (by omega)]
theorem jiu (op a b c n:Int) (w:World):
  Calls prog 83 #[.agg #[.int .i64 op,.int .i64 a,.int .i64 b,.int .i64 c,.int .i64 n]] w fun e w'=>e=.returned (.int .i64 (zq op a b c n))/\Below w.heap.size w w':=by
 by_cases h:1<=op/\op<=36
 ·obtain⟨k,rfl⟩:=Int.eq_ofNat_of_zero_le (show 0<=op by omega)
  rw[Ja (by omega) (by omega)];exact jiv k (by omega) (by omega) a b c n w
 ·rw[jdR (by omega)]
  exact jjg op a b c n (by omega) w
theorem ja0 (op a b c n:Int) (w:World) (ho:ZM w):
  Calls prog 79 #[.agg #[.int .i64 op,.int .i64 a,.int .i64 b,.int .i64 c,.int .i64 n]] w fun e w'=>e=.returned (.int .i64 (zq op a b c n))/\Below w.heap.size w w':=by
 by_cases h:1<=op/\op<=36
 ·obtain⟨k,rfl⟩:=Int.eq_ofNat_of_zero_le (show 0<=op by omega)
  rw[Ja (by omega) (by omega)];exact jfW k (by omega) (by omega) a b c n w ho
 ·rw[jdR (by omega)]
  exact jpe op a b c n (by omega) w
theorem jkG (op a b c n:Int) (hc:zq op a b c n≠0) (w:World) (ho:ZM w):
  Calls prog 81 #[.agg #[.int .i64 op,.int .i64 a,.int .i64 b,.int .i64 c,.int .i64 n]] w fun e w'=>e=.returned (.tuple #[.int .u64 0,.int .i64 (zq op a b c n)])/\Below w.heap.size w w':=by
 obtain⟨E,hE⟩:∃E,zq op a b c n=E:=⟨_,rfl⟩;have HE:=hid hE;have HO:=hid ho;rw[hE] at hc ⊢;have hcb:(E !=0)=true:=by simpa using hc
 clear hE hc ho;go_enter Tryz.func81,Tryz.ntmps81;go_wp2_with fail;refine(ja0 op a b c n _ (Q6 HO.out (zqg _) ((Below.refl w.heap.size w).alloc (zqg _) _))).mono ?_;rintro e w1 ⟨rfl,hb⟩;rw[HE.out];have HB:=hid hb;clear hb;go_wp2_with fail;go_ret2;exact⟨rfl,((Below.refl w.heap.size w).alloc (zqg _) _).trans (HB.out.mono (by simp))⟩
noncomputable def jc9 (op a b c n:Int):Int:=if zq op a b c n=0 then Qx op a b c n else 0
theorem jb4 {op a b c n:Int} (h:zq op a b c n=0):1<=op/\op<=36:=by
 by_cases h':1<=op/\op<=36
 ·exact h'
 ·rw[jdR (by omega)] at h;cases h
theorem jkF (op a b c n:Int) (w:World) (ho:ZM w):
  Calls prog 81 #[.agg #[.int .i64 op,.int .i64 a,.int .i64 b,.int .i64 c,.int .i64 n]] w fun e w'=>e=.returned (.tuple #[.int .u64 (jc9 op a b c n),.int .i64 (zq op a b c n)])/\Below w.heap.size w w':=by
 by_cases h:zq op a b c n=0
 ·obtain⟨g0,g1⟩:=jb4 h
  obtain⟨k,rfl⟩:=Int.eq_ofNat_of_zero_le (show 0<=op by omega);unfold jc9;rw[if_pos h,h];rw[Ja (by omega) (by omega)] at h;exact jmP k (by omega) (by omega) a b c n h w ho
 ·unfold jc9
  rw[if_neg h];exact jkG op a b c n h w ho
end IsaL
namespace IsaL
open Go Go.RowKit
def oN (N:Nat):Int:=((N%256:Nat):Int)
def aN (N:Nat):Int:=((N/256%256:Nat):Int)
def bN (N:Nat):Int:=((N/65536%256:Nat):Int)
def cN (N:Nat):Int:=((N/16777216%256:Nat):Int)
def sN (N:Nat):Int:=if N/4294967296<2147483648 then((N/4294967296:Nat):Int) else((N/4294967296:Nat):Int)-4294967296
section
variable (N:Nat) (h:N<18446744073709551616)
include N h
theorem jen:wrap64 (bits BinOp.and IntKind.u64 ((N:Nat):Int) 255)=((N%256:Nat):Int):=by
 have h1:=u64_and_nat N 255 h (by decide);rw[show((255:Nat):Int)=255 from rfl] at h1;have h2:N&&& 255=N%256:=Nat.and_two_pow_sub_one_eq_mod N 8;rw[h1,h2];unfold wrap64;omega
theorem jrx:wrap64 (bits BinOp.and IntKind.u64 (↑N) 255)=oN N:=jen N h
theorem jrt:wrap64 (bits BinOp.and IntKind.u64 ((N:Int)/256) 255)=aN N:=by
 have:=jen (N/256) (by omega);simpa[aN] using this
theorem jru:wrap64 (bits BinOp.and IntKind.u64 ((N:Int)/65536) 255)=bN N:=by
 have:=jen (N/65536) (by omega);simpa[bN] using this
theorem jrv:wrap64 (bits BinOp.and IntKind.u64 ((N:Int)/16777216) 255)=cN N:=by
 have:=jen (N/16777216) (by omega);simpa[cN] using this
theorem jrw:wrap64 (wrap32 ((N:Int)/4294967296))=sN N:=by
 unfold wrap64 wrap32 sN;split<;>omega
end
noncomputable def jac (N:Nat):Int:=zq (oN N) (aN N) (bN N) (cN N) (sN N)
def jpk (N:Nat):Value:=.agg #[.int .i64 (oN N),.int .i64 (aN N),.int .i64 (bN N),.int .i64 (cN N),.int .i64 (sN N)]
def jfM:Value:=.agg #[.int .i64 0,.int .i64 0,.int .i64 0,.int .i64 0,.int .i64 0]
theorem jrs {W w1:World} (hb:Below W.heap.size W w1):(∀b o,b<W.heap.size->w1.cell? ⟨b,o,none⟩=W.cell? ⟨b,o,none⟩)/\(∀b o,b<W.heap.size->w1.frozen? ⟨b,o,none⟩=W.frozen? ⟨b,o,none⟩):=
 ⟨fun b o h=>hb.cell (p:=⟨b,o,none⟩) h,fun b o h=>hb.frozen (p:=⟨b,o,none⟩) h⟩
theorem jmJ (N:Nat) (hN:N<18446744073709551616) (hc:jac N=0) (w:World) (ho:ZM w):
  Calls prog 91 #[.int .u64 N] w fun e w'=>e=.returned (.tuple #[jpk N,.int .i64 0])/\Below w.heap.size w w':=by
 have q0:=jrx N hN;have q1:=jrt N hN;have q2:=jru N hN;have q3:=jrv N hN;have q4:=jrw N hN;have HC:=hid hc;clear hc;have HO:=hid ho;clear ho;go_enter Tryz.func91,Tryz.ntmps91;go_wp2_with fail;refine(ja0 (oN N) (aN N) (bN N) (cN N) (sN N) _ (Q6 HO.out (zqg _) (((Below.refl w.heap.size w).alloc (zqg _) _).alloc (by simp) _))).mono ?_;rintro e w1 ⟨rfl,hb⟩;rw[show zq (oN N) (aN N) (bN N) (cN N) (sN N)=0 from HC.out];have HB:=hid hb;obtain⟨k1,k2⟩:=jrs hb;have hz:w.heap.size+1<w1.heap.size:=by have:=hb.size;simp at this;omega
 clear hb;go_wp2_with fail;have f0:w1.cell? ⟨w.heap.size,0,none⟩=some (.int .i64 0):=(k1 _ _ (by simp;omega)).trans (by simp);have f1:w1.cell? ⟨w.heap.size,1,none⟩=some (.int .i64 0):=(k1 _ _ (by simp;omega)).trans (by simp);have f2:w1.cell? ⟨w.heap.size,2,none⟩=some (.int .i64 0):=(k1 _ _ (by simp;omega)).trans (by simp);have f3:w1.cell? ⟨w.heap.size,3,none⟩=some (.int .i64 0):=(k1 _ _ (by simp;omega)).trans (by simp);have f4:w1.cell? ⟨w.heap.size,4,none⟩=some (.int .i64 0):=(k1 _ _ (by simp;omega)).trans (by simp);refine bodyPost_ret (v:=.tuple #[jpk N,.int .i64 0]) (by simp[results,Tryz.results91,go_sem,f0,f1,f2,f3,f4,jpk]) rfl ⟨rfl,?_⟩;exact((((((((Below.refl w.heap.size w).alloc (zqg _) _).alloc (by simp) _).trans (HB.out.mono (by simp;omega))).setCell (by simp) _).setCell (by simp) _).setCell (by simp) _).setCell (by simp) _).setCell (by simp) _
theorem jkD (N:Nat) (hN:N<18446744073709551616) (hc:jac N≠0) (w:World) (ho:ZM w):
  Calls prog 91 #[.int .u64 N] w fun e w'=>e=.returned (.tuple #[jfM,.int .i64 (jac N)])/\Below w.heap.size w w':=by
 have q0:=jrx N hN;have q1:=jrt N hN;have q2:=jru N hN;have q3:=jrv N hN;have q4:=jrw N hN;obtain⟨E,hE⟩:∃E,jac N=E:=⟨_,rfl⟩;have HC:=hid (show zq (oN N) (aN N) (bN N) (cN N) (sN N)=E from hE);rw[hE] at hc ⊢;have hcb:(E !=0)=true:=by simpa using hc
 clear hE;clear hc;have HO:=hid ho;clear ho;go_enter Tryz.func91,Tryz.ntmps91;go_wp2_with fail;refine(ja0 (oN N) (aN N) (bN N) (cN N) (sN N) _ (Q6 HO.out (zqg _) (((Below.refl w.heap.size w).alloc (zqg _) _).alloc (by simp) _))).mono ?_;rintro e w1 ⟨rfl,hb⟩;rw[HC.out];have HB:=hid hb;obtain⟨k1,k2⟩:=jrs hb;have hz:w.heap.size+1<w1.heap.size:=by have:=hb.size;simp at this;omega
 clear hb;go_wp2_with fail;have f0:w1.cell? ⟨w.heap.size,0,none⟩=some (.int .i64 0):=(k1 _ _ (by simp;omega)).trans (by simp);have f1:w1.cell? ⟨w.heap.size,1,none⟩=some (.int .i64 0):=(k1 _ _ (by simp;omega)).trans (by simp);have f2:w1.cell? ⟨w.heap.size,2,none⟩=some (.int .i64 0):=(k1 _ _ (by simp;omega)).trans (by simp);have f3:w1.cell? ⟨w.heap.size,3,none⟩=some (.int .i64 0):=(k1 _ _ (by simp;omega)).trans (by simp);have f4:w1.cell? ⟨w.heap.size,4,none⟩=some (.int .i64 0):=(k1 _ _ (by simp;omega)).trans (by simp);refine bodyPost_ret (v:=.tuple #[jfM,.int .i64 E]) (by simp[results,Tryz.results91,go_sem,f0,f1,f2,f3,f4,jfM]) rfl ⟨rfl,?_⟩;exact((((((((Below.refl w.heap.size w).alloc (zqg _) _).alloc (by simp) _).trans (HB.out.mono (by simp;omega))).setCell (by simp) _).setCell (by simp) _).setCell (by simp) _).setCell (by simp) _).setCell (by simp) _
noncomputable def pk (N:Nat) (x:Int):Int:=if jac N=0 then x else 0
theorem jdj {N:Nat} (h:jac N=0) (x:Int):pk N x=x:=by unfold pk;rw[if_pos h]
theorem jvm {N:Nat} (h:jac N≠0) (x:Int):pk N x=0:=by unfold pk;rw[if_neg h]
theorem jkC (N:Nat) (hN:N<18446744073709551616) (w:World) (ho:ZM w):
  Calls prog 91 #[.int .u64 N] w fun e w'=>e=.returned (.tuple #[.agg #[.int .i64 (pk N (oN N)),.int .i64 (pk N (aN N)),.int .i64 (pk N (bN N)),.int .i64 (pk N (cN N)),.int .i64 (pk N (sN N))],.int .i64 (jac N)])/\Below w.heap.size w w':=by
 by_cases h:jac N=0
 ·simp only[jdj h]
  rw[h];exact jmJ N hN h w ho
 ·simp only[jvm h]
  exact jkD N hN h w ho
end IsaL
