/- A part of the proof of MachineMoves. Conditions: those that each theorem names. -/
import Derived.Test.YtklcmdoadmcpfaaGreatDoorQ02
import Derived.WalkLawsBesides
import Derived.WalkSpells
import Derived.PlainAid
set_option maxRecDepth 100000
set_option maxHeartbeats 400000000
namespace Go.Proofs.YtklcmdoadmcpfaaGreatDoor
open Go Go.RowKit
open Go.Lib(hid)
open Go.Proofs.Tryz(prog)
def zX (n:Nat) (F:Nat->Value):Array Value:=((List.range n).map F).toArray
def Bx (w:World) (g:Nat) (F:Nat->Value):Prop:=w.heap[g]?=some (.cells (zX 1048 F) 94 (0,0))
def zt (F:Nat->Value) (j:Nat) (v:Value):Nat->Value:=fun k=>if k=j then v else F k
theorem jqf (F:Nat->Value) (j:Nat) (v:Value):zt F j v j=v:=if_pos rfl
theorem J1 {F:Nat->Value} {j k:Nat} {v:Value} (h:k≠j):zt F j v k=F k:=if_neg h
theorem jfu {n:Nat} (F:Nat->Value) {j:Nat} (hj:j<n):(zX n F)[j]?=some (F j):=by
 unfold zX;rw[List.getElem?_toArray,List.getElem?_map,List.getElem?_range hj];rfl
theorem jbJ (n:Nat) (F:Nat->Value) (j:Nat) (v:Value):(zX n F).setIfInBounds j v=zX n (zt F j v):=by
 unfold zX;rw[zqj];congr 1;apply List.ext_getElem?;intro i;rw[List.getElem?_set,List.getElem?_map,List.getElem?_map,List.length_map,List.length_range];by_cases hi:i<n
 ·rw[List.getElem?_range hi]
  by_cases hij:j=i
  ·subst hij
   rw[if_pos rfl,if_pos hi];simp[zt]
  ·rw[if_neg hij]
   simp[zt,Ne.symm hij]
 ·rw[List.getElem?_eq_none (by simp;omega)]
  by_cases hij:j=i
  ·subst hij
   rw[if_pos rfl,if_neg hi];rfl
  ·rw[if_neg hij];rfl
theorem JS {n:Nat} {W:World} {B:Nat} {F:Nat->Value} {T:TypeId} (h:W.heap[B]?=some (.cells (zX n F) T (0,0))) (j:Nat) (v:Value):(W.setCell ⟨B,j,none⟩ v).heap[B]?=some (.cells (zX n (zt F j v)) T (0,0)):=by
 show(W.heap.modify B _)[B]?=_;rw[Array.getElem?_modify,if_pos rfl,h];show some (Obj.cells ((zX n F).setIfInBounds j v) T (0,0))=_;rw[jbJ]
section
variable {W:World} {B:Nat} {cs:Array Value} {t:TypeId} (h:W.heap[B]?=some (.cells cs t (0,0))) (j:Nat)
include W B cs t h j
theorem jb:W.cell? ⟨B,j,none⟩=cs[j]?:=by simp[World.cell?,h]
theorem jF:W.frozen? ⟨B,j,none⟩=false:=by simp[World.frozen?,h]
end
section
variable {w w1:World} {g:Nat} {F:Nat->Value}
section
variable (h:Bx w g F)
include h
theorem Bx.lt:g<w.heap.size:=(zqa h).1
theorem Bx.cell {j:Nat} (hj:j<1048):w.cell? ⟨g,j,none⟩=some (F j):=by
 have h2:w.cell? ⟨g,j,none⟩=(zX 1048 F)[j]?:=by simp[World.cell?,show w.heap[g]?=_ from h]
 rw[h2,jfu F hj]
theorem Bx.frozen (j:Nat):w.frozen? ⟨g,j,none⟩=false:=by simp[World.frozen?,show w.heap[g]?=_ from h]
theorem Bx.set (j:Nat) (v:Value):Bx (w.setCell ⟨g,j,none⟩ v) g (zt F j v):=JS h j v
theorem Bx.below (hb:Below w.heap.size w w1):Bx w1 g F:=(hb.block g h.lt).trans h
end
theorem Bx.fr {O:Nat->Prop} (h:Bx w g F) (hf:Fr O w w1) (hO:¬O g):Bx w1 g F:=(hf.block g h.lt hO).trans h
end
def W (n:Int):Int:=(n+4611686018427387904)%9223372036854775808-4611686018427387904
theorem jhl (n:Int): -4611686018427387904<=W n:=by unfold W;omega
theorem jhk (n:Int):W n<=4611686018427387903:=by unfold W;omega
theorem jvG {n:Int} (h0: -4611686018427387904<=n) (h1:n<=4611686018427387903):W n=n:=by unfold W;omega
theorem jvH (n k:Int):W (n+9223372036854775808*k)=W n:=by unfold W;omega
theorem juV (n:Int):∃k:Int,wrap64 n=n+9223372036854775808*k:=⟨-(2*((n+9223372036854775808)/18446744073709551616)),by unfold wrap64;omega⟩
theorem jdL (n:Int):W (wrap64 n)=W n:=by obtain⟨k,hk⟩:=juV n;rw[hk,jvH]
theorem jtD (n:Int):wrap64 (n*2)/2=W n:=by unfold wrap64 W;omega
theorem jtC {n:Int} (h:4611686018427387904<=n) (h1:n<=9223372036854775807):n-4611686018427387904-4611686018427387904=W n:=by unfold W;omega
theorem jvI {n:Int} (h:n< -4611686018427387904) (h1: -9223372036854775808<=n):n+4611686018427387904+4611686018427387904=W n:=by unfold W;omega
def fl (a b:Int):Int:=if a.tmod b≠0/\(a<0↔ ¬b<0) then a.tdiv b-1 else a.tdiv b
theorem jtk {a b:Int} (h0: -4611686018427387904<=a) (h1:a<=4611686018427387903): -4611686018427387904<=a.tdiv b/\a.tdiv b<=4611686018427387904:=by
 have h:(a.tdiv b).natAbs<=a.natAbs:=Int.natAbs_tdiv_le_natAbs a b;omega
theorem jtm (a b:Int):a-b*a.tdiv b=a.tmod b:=by have:=Int.mul_tdiv_add_tmod a b;omega
theorem jgJ {a b:Int} (h:a.tmod b≠0):(a.tmod b<0↔a<0):=by
 constructor
 ·intro h1
  by_cases h2:0<=a
  ·have:=Int.tmod_nonneg b h2;omega
  ·omega
 ·intro h1
  have h3:(-a).tmod b= -(a.tmod b):=Int.neg_tmod a b;have h4:=Int.tmod_nonneg b (show 0<= -a by omega);omega
def rest (a b:Int):Int:=a-b*fl a b
theorem jjW (a b:Int):rest a b=if a.tmod b≠0/\(a<0↔ ¬b<0) then a.tmod b+b else a.tmod b:=by
 unfold rest fl;have:=jtm a b;split
 ·rw[Int.mul_sub];omega
 ·omega
theorem jj7 {a b:Int} (hb:b≠0): -(b.natAbs:Int)<a.tmod b/\a.tmod b<b.natAbs:=by
 have h:(a.tmod b).natAbs=a.natAbs%b.natAbs:=Int.natAbs_tmod a b;have h2:a.natAbs%b.natAbs<b.natAbs:=Nat.mod_lt _ (by omega);omega
theorem jee {a b:Int} (hb:0<b):0<=rest a b/\rest a b<b:=by
 have h:=jj7 (a:=a) (b:=b) (by omega);rw[jjW];by_cases hz:a.tmod b=0
 ·simp[hz];omega
 ·have hs:=jgJ hz
  by_cases ha:a<0
  ·rw[if_pos ⟨hz,by omega⟩];omega
  ·rw[if_neg (by rintro⟨_,h⟩;omega)];omega
theorem jed {a b:Int} (hb:b<0):b<rest a b/\rest a b<=0:=by
 have h:=jj7 (a:=a) (b:=b) (by omega);rw[jjW];by_cases hz:a.tmod b=0
 ·simp[hz];omega
 ·have hs:=jgJ hz
  by_cases ha:a<0
  ·rw[if_neg (by rintro⟨_,h⟩;omega)];omega
  ·rw[if_pos ⟨hz,by omega⟩];omega
theorem Z7 (n:Int) (w:World):
  Calls prog 172 #[.int .i64 n] w fun e w'=>e=.returned (.int .i64 (W n))/\w=w':=by
 go_enter Tryz.func172,Tryz.ntmps172;go_wp2;go_ret;exact⟨jY (jtD n),rfl⟩
theorem jdE (n:Int) (w:World) (h0: -9223372036854775808<=n) (h1:n<=9223372036854775807):
  Calls prog 77 #[.int .i64 n] w fun e w'=>e=.returned (.int .i64 (W n))/\w=w':=by
 go_enter Tryz.func77,Tryz.ntmps77;go_wp2
 ·go_ret
  exact⟨jY (jtC (by assumption) h1),rfl⟩
 ·go_ret
  exact⟨jY (jvI (by assumption) h0),rfl⟩
 ·go_ret
  exact⟨jY (jvG (by assumption) (by omega)).symm,rfl⟩
theorem jrJ (a b:Int) (w:World):
  Calls prog 163 #[.int .i64 a,.int .i64 b] w fun e w'=>e=.returned (.int .i64 (W (a+b)))/\w=w':=by
 go_enter Tryz.func163,Tryz.ntmps163;go_wp2_with (go_at_call 172;refine(Z7 _ _).mono ?_;rintro e w' ⟨rfl,rfl⟩);go_ret;exact⟨jY (jdL _),rfl⟩
theorem jj3 (a b:Int) (w:World):
  Calls prog 162 #[.int .i64 a,.int .i64 b] w fun e w'=>e=.returned (.int .i64 (W (a-b)))/\w=w':=by
 go_enter Tryz.func162,Tryz.ntmps162;go_wp2_with (go_at_call 172;refine(Z7 _ _).mono ?_;rintro e w' ⟨rfl,rfl⟩);go_ret;exact⟨jY (jdL _),rfl⟩
theorem jsC (a b:Int) (w:World):
  Calls prog 164 #[.int .i64 a,.int .i64 b] w fun e w'=>e=.returned (.int .i64 (W (a*b)))/\w=w':=by
 go_enter Tryz.func164,Tryz.ntmps164;go_wp2_with (go_at_call 172;refine(Z7 _ _).mono ?_;rintro e w' ⟨rfl,rfl⟩);go_ret;exact⟨jY (jdL _),rfl⟩
theorem jsE (a:Int) (w:World):
  Calls prog 129 #[.int .i64 a] w fun e w'=>e=.returned (.int .i64 (W (-a)))/\w=w':=by
 go_enter Tryz.func129,Tryz.ntmps129;go_wp2_with (go_at_call 162;refine(jj3 _ _ _).mono ?_;rintro e w' ⟨rfl,rfl⟩);go_ret;exact⟨jY (by simp),rfl⟩
def jO (n:Int):Int:=(2*n+1)%18446744073709551616
def J8 (a:Int):Int:=if 1<=a/\a<=1099511627776 then 2*a else 1
def jj (w:Int):Bool:=decide (w%2=1)
def jf (w:Int):Bool:=decide (w%2=0/\2<=w/\w<=2199023255552)
def qx (w:Int):Int:=if w%2=1 then W (w/2) else 0
def jc (w:Int):Int:=if w%2=0/\2<=w/\w<=2199023255552 then w/2 else 0
theorem jts (x:Int) (h0:0<=x) (h1:x<18446744073709551616) (h2:x%2=0):bits .or .u64 x 1=x+1:=by
 have h:=u64_or x 1 h0 h1 (by decide) (by decide);have e:=nat_join 1 x.toNat 1 (by omega) (by decide);have e2:(1:Int).toNat=1:=by decide
 rw[e2,e] at h;rw[h];omega
theorem jiW (x:Int):IntKind.u64.wrap x=x%18446744073709551616:=by rw[IntKind.wrap_u64]
theorem jtX (n:Int):bits BinOp.or IntKind.u64 (IntKind.u64.wrap (IntKind.u64.wrap n*2)) 1=jO n:=by
 rw[jiW,jiW,jts _ (by omega) (by omega) (by omega)];unfold jO;omega
theorem jn9 (n:Int):IntKind.u64.wrap (IntKind.u64.wrap (2*IntKind.u64.wrap (W n))+1)=jO n:=by
 rw[jiW,jiW,jiW];unfold jO W;omega
theorem jtF (n:Int) (h0:0<=n) (h1:n<=18446744073709551615):bits BinOp.and IntKind.u64 n 1=n%2:=and_one_u64 n h0 h1
theorem jpJ (n:Int):(n%2==1)=jj n:=by unfold jj;rw[Bool.eq_iff_iff];simp
theorem jjP {n:Int} (h0:1<=n) (h1:n<=1099511627776):J8 n=2*n:=by unfold J8;rw[if_pos ⟨h0,h1⟩]
theorem jin {n:Int} (h:¬(1<=n/\n<=1099511627776)):J8 n=1:=by unfold J8;rw[if_neg h]
theorem jne:jO 0=1:=by decide
theorem qe (n:Int) (w:World):
  Calls prog 41 #[.int .i64 n] w fun e w'=>e=.returned (.int .u64 (jO n))/\w=w':=by
 go_enter Tryz.func41,Tryz.ntmps41;go_wp2;go_ret;exact⟨jY (jtX n),rfl⟩
theorem jlH (n:Int) (w:World) (h0: -9223372036854775808<=n) (h1:n<=9223372036854775807):
  Calls prog 36 #[.int .i64 n] w fun e w'=>e=.returned (.int .u64 (jO n))/\w=w':=by
 go_enter Tryz.func36,Tryz.ntmps36;go_wp2_with (go_at_call 77;refine(jdE _ _ h0 h1).mono ?_;rintro e w' ⟨rfl,rfl⟩);go_ret;exact⟨jY (jn9 n),rfl⟩
theorem j5 (n:Int) (w:World) (h0:0<=n) (h1:n<=18446744073709551615):
  Calls prog 127 #[.int .u64 n] w fun e w'=>e=.returned (.bool (jj n))/\w=w':=by
 go_enter Tryz.func127,Tryz.ntmps127;go_wp2;go_ret;exact⟨ret_bool (by rw[jtF n h0 h1,jpJ]),rfl⟩
theorem jjQ (n:Int) (w:World):
  Calls prog 82 #[.int .i64 n] w fun e w'=>e=.returned (.int .u64 (J8 n))/\w=w':=by
 by_cases ha:n<1
 ·have hd:decide (n<1)=true:=by simpa using ha
  go_enter Tryz.func82,Tryz.ntmps82;go_wp2_with (go_at_call 41;refine(qe _ _).mono ?_;rintro e w' ⟨rfl,rfl⟩);go_ret;exact⟨jY (by rw[jne,jin (by omega)]),rfl⟩
 ·by_cases hb:n<=1099511627776
  ·go_enter Tryz.func82,Tryz.ntmps82
   go_wp2;go_ret;exact⟨jY (by rw[jjP (by omega) (by omega),Int.mul_comm]),rfl⟩
  ·go_enter Tryz.func82,Tryz.ntmps82
   go_wp2_with (go_at_call 41;refine(qe _ _).mono ?_;rintro e w' ⟨rfl,rfl⟩);go_ret;exact⟨jY (by rw[jne,jin (by omega)]),rfl⟩
theorem jhU {w:Int} (h:w%2=1):jf w=false:=by unfold jf;rw[decide_eq_false_iff_not];omega
theorem jpL {w:Int} (h:w<2):jf w=false:=by unfold jf;rw[decide_eq_false_iff_not];omega
theorem jpK {w:Int} (h:2199023255552<w):jf w=false:=by unfold jf;rw[decide_eq_false_iff_not];omega
theorem jnf {w:Int} (h:w%2=0) (h0:2<=w) (h1:w<=2199023255552):jf w=true:=by unfold jf;rw[decide_eq_true_eq];omega
theorem QW (n:Int) (w:World) (h0:0<=n) (h1:n<=18446744073709551615):
  Calls prog 51 #[.int .u64 n] w fun e w'=>e=.returned (.bool (jf n))/\w=w':=by
 have ha:=jtF n h0 h1;rcases Int.emod_two_eq n with hp|hp
 ·have hb:(bits BinOp.and IntKind.u64 n 1==0)=true:=by rw[ha,hp];rfl
  have HP:=hid hp;clear ha hp;by_cases h2:2<=n
  ·by_cases h3:n<=2199023255552
   ·go_enter Tryz.func51,Tryz.ntmps51
    go_wp2;go_ret;exact⟨ret_bool (by rw[jnf HP.out h2 h3]),rfl⟩
   ·go_enter Tryz.func51,Tryz.ntmps51
    go_wp2;go_ret;exact⟨ret_bool (by rw[jpK (by omega)]),rfl⟩
  ·have h2d:decide (2<=n)=false:=by simpa using h2
   go_enter Tryz.func51,Tryz.ntmps51;go_wp2;go_ret;exact⟨ret_bool (by rw[jpL (by omega)]),rfl⟩
 ·have hb:(bits BinOp.and IntKind.u64 n 1==0)=false:=by rw[ha,hp];rfl
  have HP:=hid hp;clear ha hp;go_enter Tryz.func51,Tryz.ntmps51;go_wp2;go_ret;exact⟨ret_bool (by rw[jhU HP.out]),rfl⟩
section
variable {n:Int}
include n
theorem ja5:jj n=true↔n%2=1:=by unfold jj;simp
theorem jeH:jj n=false↔n%2=0:=by unfold jj;rw[decide_eq_false_iff_not];omega
theorem Zw:jf n=true↔n%2=0/\2<=n/\n<=2199023255552:=by unfold jf;simp
theorem juQ (h:jj n=false):qx n=0:=by have:=jeH.1 h;unfold qx;rw[if_neg (by omega)]
theorem jto (h:jj n=true):qx n=W (n/2):=by have:=ja5.1 h;unfold qx;rw[if_pos this]
theorem joM (h:jf n=false):jc n=0:=by unfold jc;rw[if_neg (fun x=>by rw[Zw.2 x] at h;cases h)]
theorem jtq (h:jf n=true):jc n=n/2:=by unfold jc;rw[if_pos (Zw.1 h)]
theorem jtn (h:n%2=1):wrap64 n/2=W (n/2):=by unfold wrap64 W;omega
end
theorem qj (n:Int) (w:World) (h0:0<=n) (h1:n<=18446744073709551615):
  Calls prog 128 #[.int .u64 n] w fun e w'=>e=.returned (.int .i64 (qx n))/\w=w':=by
 cases hb:jj n
 ·go_enter Tryz.func128,Tryz.ntmps128
  go_wp2_with (go_at_call 127;refine(j5 _ _ h0 h1).mono ?_;rintro e w' ⟨rfl,rfl⟩);go_ret;exact⟨jY (juQ hb).symm,rfl⟩
 ·go_enter Tryz.func128,Tryz.ntmps128
  go_wp2_with (go_at_call 127;refine(j5 _ _ h0 h1).mono ?_;rintro e w' ⟨rfl,rfl⟩);go_ret;exact⟨jY (by rw[jto hb];exact jtn (ja5.1 hb)),rfl⟩
theorem jQ (n:Int) (w:World) (h0:0<=n) (h1:n<=18446744073709551615):
  Calls prog 90 #[.int .u64 n] w fun e w'=>e=.returned (.int .i64 (jc n))/\w=w':=by
 cases hb:jf n
 ·go_enter Tryz.func90,Tryz.ntmps90
  go_wp2_with (go_at_call 51;refine(QW _ _ h0 h1).mono ?_;rintro e w' ⟨rfl,rfl⟩);go_ret;exact⟨jY (joM hb).symm,rfl⟩
 ·have h5:=(Zw.1 hb).2.2
  go_enter Tryz.func90,Tryz.ntmps90;go_wp2_with (go_at_call 51;refine(QW _ _ h0 h1).mono ?_;rintro e w' ⟨rfl,rfl⟩);go_ret;exact⟨jY (jtq hb).symm,rfl⟩
