/- A part of the proof of MachineMoves. Conditions: those that each theorem names. -/
import Derived.Test.YtklcmdoadmcpfaaGreatDoorQ00
import Derived.Test.YtklcmdoadmcpfaaGreatDoorProg
import Derived.Great.BuildSlice
import Derived.Lib.Hide
import Derived.WalkLawsBesides
import Derived.WalkSpells
import Derived.Test.YtklcmdoadmcpfaaGreatDoorRows
import Derived.Test.YtklcmdoadmcpfaaGreatDoorTie
import Derived.ProofKit
import Derived.LaidMore
import Derived.OpenShut
import Derived.Stop.LaidErr
import Derived.SevenTiedAt
set_option maxRecDepth 100000
set_option maxHeartbeats 400000000
namespace Go.Proofs.YtklcmdoadmcpfaaGreatDoor
open Go Go.RowKit
open Go.Lib(hid)
open Go.Proofs.Tryz(prog)
namespace IsaL
open Go Go.RowKit
def opRows:List (List UInt8×List UInt8×List UInt8×List UInt8):=[
 ([],[],[],[]),
 ([105,110,116],[97,110],[],[97]),
 ([108,105,116],[97,110],[],[97]),
 ([109,111,118,101],[97,98],[98],[97]),
 ([112,117,116],[97,110],[97],[]),
 ([108,111,97,100],[97,110],[],[97]),
 ([115,97,118,101],[97,110],[97],[]),
 ([97,100,100],[97,98,99],[98,99],[97]),
 ([115,117,98],[97,98,99],[98,99],[97]),
 ([109,117,108],[97,98,99],[98,99],[97]),
 ([100,105,118],[97,98,99],[98,99],[97]),
 ([109,111,100],[97,98,99],[98,99],[97]),
 ([110,101,103],[97,98],[98],[97]),
 ([108,101,115,115],[97,98,99],[98,99],[97]),
 ([97,116,109,111,115,116],[97,98,99],[98,99],[97]),
 ([115,97,109,101],[97,98,99],[98,99],[97]),
 ([116,117,112,108,101],[97,110],[],[97]),
 ([99,108,111,115,117,114,101],[97,110],[],[97]),
 ([114,101,102],[97,98],[98],[97]),
 ([102,105,101,108,100],[97,98,110],[98],[97]),
 ([102,105,108,108],[97,98,110],[97,98],[]),
 ([97,115,115,105,103,110],[97,98],[97,98],[]),
 ([116,97,103],[97,98],[98],[97]),
 ([106,117,109,112],[110],[],[]),
 ([117,110,108,101,115,115],[97,110],[97],[]),
 ([101,110,116,101,114],[110],[],[]),
 ([99,97,108,108],[97,98],[97,98],[48]),
 ([116,97,105,108],[97,98],[97,98],[]),
 ([114,101,116,117,114,110],[97],[97],[]),
 ([104,97,110,100,108,101],[110],[],[]),
 ([117,110,104,97,110,100,108,101],[],[],[]),
 ([114,97,105,115,101],[97],[97],[]),
 ([106,111,105,110],[97,98,99],[98,99],[97]),
 ([115,105,122,101],[97,98],[98],[97]),
 ([115,116,114],[97,98],[98],[97]),
 ([111,114,100],[97,98,99],[98,99],[97]),
 ([100,105,103,105,116,115],[97,98],[98],[97])]
def bs (l:List UInt8):ByteArray:=⟨l.toArray⟩
abbrev Qq (l:List UInt8):Value:=.string (bs l)
def opVals:List Value:=opRows.map fun r=>.agg #[Qq r.1,Qq r.2.1,Qq r.2.2.1,Qq r.2.2.2]
def tabCells:List Value:=opVals.flatMap fun v=>v.cells.toList
theorem jiS (w:World):
  Calls prog 158 #[] w fun e w'=>e=.returned (.slice (some ⟨w.heap.size,0,none⟩) 37 37)/\w'=w.alloc (.cells tabCells.toArray 186):=by
 obtain⟨ie,hie⟩:∃ie,prog.info? 186=some ie:=⟨_,rfl⟩;have hs4:ie.size=4:=by
  have h:(prog.info? 186).map (·.size)=some 4:=by kernel_rfl
  rw[hie] at h;simpa using h
 obtain⟨z,hz⟩:∃z,ie.zero=some z:=by
  have h:((prog.info? 186).bind (·.zero)).isSome=true:=by kernel_rfl
  rw[hie] at h;exact Option.isSome_iff_exists.1 h
 go_enter Tryz.func158,Tryz.ntmps158;go_wp2;refine wp_buildSlice 218 186 37 _ rfl tabCells.toArray ie z Tryz.underlying218 hie hz (by rw[hs4];decide) (by rw[hs4];decide) ?_ ?_
 ·rw[hs4]
  refine Eq.trans (congrArg (Instr.fill _ _) (?_:_=(opVals.zipIdx 0).map fun x=>(x.2,x.1))) (Great.fill_whole (s:=4) (by decide) opVals _ (by decide) (by simp[opVals,opRows]));kernel_rfl
 ·go_wp2
  go_ret;exact⟨rfl,rfl⟩
end IsaL
namespace IsaL
open Go Go.RowKit
def zI (n:Nat):List UInt8×List UInt8×List UInt8×List UInt8:=opRows.getD n ([],[],[],[])
def jcm (n:Nat):Value:=.agg #[Qq (zI n).1,Qq (zI n).2.1,Qq (zI n).2.2.1,Qq (zI n).2.2.2]
theorem jvu:∀n,n<37->tabCells[n*4+0]?=some (Qq (zI n).1)
 |0,_=>rfl
 |1,_=>rfl
 |2,_=>rfl
 |3,_=>rfl
 |4,_=>rfl
 |5,_=>rfl
 |6,_=>rfl
 |7,_=>rfl
 |8,_=>rfl
 |9,_=>rfl
 |10,_=>rfl
 |11,_=>rfl
 |12,_=>rfl
 |13,_=>rfl
 |14,_=>rfl
 |15,_=>rfl
 |16,_=>rfl
 |17,_=>rfl
 |18,_=>rfl
 |19,_=>rfl
 |20,_=>rfl
 |21,_=>rfl
 |22,_=>rfl
 |23,_=>rfl
 |24,_=>rfl
 |25,_=>rfl
 |26,_=>rfl
 |27,_=>rfl
 |28,_=>rfl
 |29,_=>rfl
 |30,_=>rfl
 |31,_=>rfl
 |32,_=>rfl
 |33,_=>rfl
 |34,_=>rfl
 |35,_=>rfl
 |36,_=>rfl
 |n+37,h=>absurd h (by omega)
theorem jvv:∀n,n<37->tabCells[n*4+1]?=some (Qq (zI n).2.1)
 |0,_=>rfl
 |1,_=>rfl
 |2,_=>rfl
 |3,_=>rfl
 |4,_=>rfl
 |5,_=>rfl
 |6,_=>rfl
 |7,_=>rfl
 |8,_=>rfl
 |9,_=>rfl
 |10,_=>rfl
 |11,_=>rfl
 |12,_=>rfl
 |13,_=>rfl
 |14,_=>rfl
 |15,_=>rfl
 |16,_=>rfl
 |17,_=>rfl
 |18,_=>rfl
 |19,_=>rfl
 |20,_=>rfl
 |21,_=>rfl
 |22,_=>rfl
 |23,_=>rfl
 |24,_=>rfl
 |25,_=>rfl
 |26,_=>rfl
 |27,_=>rfl
 |28,_=>rfl
 |29,_=>rfl
 |30,_=>rfl
 |31,_=>rfl
 |32,_=>rfl
 |33,_=>rfl
 |34,_=>rfl
 |35,_=>rfl
 |36,_=>rfl
 |n+37,h=>absurd h (by omega)
theorem jvw:∀n,n<37->tabCells[n*4+2]?=some (Qq (zI n).2.2.1)
 |0,_=>rfl
 |1,_=>rfl
 |2,_=>rfl
 |3,_=>rfl
 |4,_=>rfl
 |5,_=>rfl
 |6,_=>rfl
 |7,_=>rfl
 |8,_=>rfl
 |9,_=>rfl
 |10,_=>rfl
 |11,_=>rfl
 |12,_=>rfl
 |13,_=>rfl
 |14,_=>rfl
 |15,_=>rfl
 |16,_=>rfl
 |17,_=>rfl
 |18,_=>rfl
 |19,_=>rfl
 |20,_=>rfl
 |21,_=>rfl
 |22,_=>rfl
 |23,_=>rfl
 |24,_=>rfl
 |25,_=>rfl
 |26,_=>rfl
 |27,_=>rfl
 |28,_=>rfl
 |29,_=>rfl
 |30,_=>rfl
 |31,_=>rfl
 |32,_=>rfl
 |33,_=>rfl
 |34,_=>rfl
 |35,_=>rfl
 |36,_=>rfl
 |n+37,h=>absurd h (by omega)
theorem jvx:∀n,n<37->tabCells[n*4+3]?=some (Qq (zI n).2.2.2)
 |0,_=>rfl
 |1,_=>rfl
 |2,_=>rfl
 |3,_=>rfl
 |4,_=>rfl
 |5,_=>rfl
 |6,_=>rfl
 |7,_=>rfl
 |8,_=>rfl
 |9,_=>rfl
 |10,_=>rfl
 |11,_=>rfl
 |12,_=>rfl
 |13,_=>rfl
 |14,_=>rfl
 |15,_=>rfl
 |16,_=>rfl
 |17,_=>rfl
 |18,_=>rfl
 |19,_=>rfl
 |20,_=>rfl
 |21,_=>rfl
 |22,_=>rfl
 |23,_=>rfl
 |24,_=>rfl
 |25,_=>rfl
 |26,_=>rfl
 |27,_=>rfl
 |28,_=>rfl
 |29,_=>rfl
 |30,_=>rfl
 |31,_=>rfl
 |32,_=>rfl
 |33,_=>rfl
 |34,_=>rfl
 |35,_=>rfl
 |36,_=>rfl
 |n+37,h=>absurd h (by omega)
theorem jpv (n:Nat) (h0:1<=n) (h1:n<=36) (w:World):
  Calls prog 117 #[.int .i64 n] w fun e w'=>e=.returned (.tuple #[jcm n,.bool true])/\Below w.heap.size w w':=by
 have c0:tabCells[n*4]?=_:=jvu n (by omega);have c1:=jvv n (by omega);have c2:=jvw n (by omega);have c3:=jvx n (by omega);go_enter Tryz.func117,Tryz.ntmps117;go_wp2_with fail;refine(jiS _).mono ?_;rintro e w1 ⟨rfl,rfl⟩;go_wp2_with fail;refine bodyPost_ret (v:=.tuple #[jcm n,.bool true]) ?_ rfl ?_
 ·simp[results,Tryz.f117,go_sem,jcm]
 ·refine⟨rfl,?_⟩
  repeat first|exact Below.refl _ _|refine Below.setCell ?_ (zqg _) _|refine Below.alloc ?_ (by simp) _
theorem jr0 (op:Int) (h:op<1\/36<op) (w:World):
  Calls prog 117 #[.int .i64 op] w fun e w'=>e=.returned (.tuple #[jcm 0,.bool false])/\Below w.heap.size w w':=by
 go_enter Tryz.func117,Tryz.ntmps117;go_wp2_with fail;refine(jiS _).mono ?_;rintro e w1 ⟨rfl,rfl⟩;go_wp2_with fail;all_goals
  refine bodyPost_ret (v:=.tuple #[jcm 0,.bool false]) ?_ rfl ?_
  ·simp[results,Tryz.f117,go_sem,jcm]
   exact⟨rfl,rfl,rfl,rfl⟩
  ·refine⟨rfl,?_⟩
   repeat first|exact Below.refl _ _|refine Below.setCell ?_ (zqg _) _|refine Below.alloc ?_ (by simp) _
end IsaL
namespace IsaL
open Go Go.RowKit
def partsL:List Nat:=[0,9,9,3,9,9,9,7,7,7,7,7,3,7,7,7,9,9,3,11,11,3,3,8,9,8,3,3,1,8,0,1,7,3,3,7,3]
def ZH (n:Nat):Nat:=partsL.getD n 0
def ZM (w:World):Prop:=∀n,n<37->w.cell? ⟨0,n*2,none⟩=some (Qq (zI n).1)/\w.cell? ⟨0,n*2+1,none⟩=some (.int .i64 (ZH n:Nat))
theorem Q6 {w w':World} {B:Nat} (h:ZM w) (hB:w.heap.size<=B) (hb:Below B w w'):ZM w':=fun n hn=>
 have lt:=World.block_lt_of_cell? w _ (h n hn).1
 ⟨(hb.cell (p:=⟨0,n*2,none⟩) (Nat.lt_of_lt_of_le lt hB)).trans (h n hn).1,(hb.cell (p:=⟨0,n*2+1,none⟩) (Nat.lt_of_lt_of_le lt hB)).trans (h n hn).2⟩
theorem zc {k:IntKind} {a b:Int} (h:a=b):Ending.returned (.int k a)=.returned (.int k b):=by rw[h]
theorem ret_bool {a b:Bool} (h:a=b):Ending.returned (.bool a)=.returned (.bool b):=by rw[h]
theorem jnj (op:Int) (h0:1<=op) (h1:op<=36) (w:World):Calls prog 115 #[.int .i64 op] w fun e w'=>e=.returned (.bool true)/\w'=w:=by
 go_enter Tryz.func115,Tryz.ntmps115;go_wp2;go_ret;exact⟨ret_bool (by simp),rfl⟩
theorem jpP (op:Int) (h:op<1\/36<op) (w:World):Calls prog 115 #[.int .i64 op] w fun e w'=>e=.returned (.bool false)/\w'=w:=by
 go_enter Tryz.func115,Tryz.ntmps115;go_wp2;all_goals
  go_ret;exact⟨ret_bool (by first|(simp;done)|(simp;omega)),rfl⟩
def zn (s:ByteArray) (c:Int):Bool:=s.data.toList.any fun b=>(b.toNat:Int)==c
def NoC (s:ByteArray) (c:Int) (k:Nat):Prop:=∀j (h:j<s.size),j<k->((s[j]).toNat:Int)≠c
theorem jql {s:ByteArray} {c:Int} {k:Nat} (h:NoC s c k) (hk:k<s.size) (hc:((s[k]).toNat:Int)≠c):NoC s c (k+1):=fun j hj hjk=>by
 by_cases e:j=k
 ·subst e;exact hc
 ·exact h j hj (by omega)
theorem jsI {s:ByteArray} {c:Int} (h:NoC s c s.size):zn s c=false:=by
 unfold zn;rw[List.any_eq_false];intro b hb;obtain⟨j,hj,rfl⟩:=List.getElem_of_mem hb;have:=h j (by simpa using hj) (by simpa using hj);simpa[ByteArray.getElem_eq_getElem_data] using this
theorem jsc {s:ByteArray} {c:Int} {k:Nat} (hk:k<s.size) (hc:((s[k]).toNat:Int)=c):zn s c=true:=by
 unfold zn;rw[List.any_eq_true];exact⟨s[k],by simp[ByteArray.getElem_eq_getElem_data],by simpa using hc⟩
theorem jsb (s:ByteArray) (c:Int) (hs:s.size<=100) (w:World):Calls prog 119 #[.string s,.int .u8 c] w fun e w'=>e=.returned (.bool (zn s c))/\w'=w:=by
 go_enter Tryz.func119,Tryz.ntmps119;go_wp2_with fail;go_loop [5] (fun i=>∃k:Nat,k<=s.size/\i=.int .i64 k/\NoC s c k) (fun i=>s.size-(intOf i).toNat)
 case atStart=>exact⟨0,by omega,rfl,fun _ _ h=>absurd h (by omega)⟩
 case round=>
  obtain⟨k,hk,rfl,hN⟩:=hrel;have HN:=hid hN;clear hN;by_cases hlt:k<s.size
  ·by_cases hc:((s[k]).toNat:Int)=c
   ·have hcb:(((s[k]).toNat:Int)==c)=true:=by simpa using hc
    have HH:=hid (jsc hlt hc);clear hc;go_wp2_with fail;go_ret;exact⟨by rw[HH.out];rfl,rfl⟩
   ·have hcb:(((s[k]).toNat:Int)==c)=false:=by simpa using hc
    have HH:=hid (jql HN.out hlt hc);clear hc;go_wp2_with fail;go_round
    case rel=>exact⟨k+1,hlt,by simp,HH.out⟩
    case measure=>simp[intOf];omega
  ·obtain rfl:k=s.size:=by omega
   have HE:=hid (jsI HN.out);go_wp2_with fail;go_ret;exact⟨by rw[HE.out];rfl,rfl⟩
def jS (a b c n k:Int):Int:=if k=97 then a else if k=98 then b else if k=99 then c else if k=48 then 0 else n
theorem jlc (o a b c n k:Int) (w:World):Calls prog 118 #[.agg #[.int .i64 o,.int .i64 a,.int .i64 b,.int .i64 c,.int .i64 n],.int .u8 k] w fun e w'=>e=.returned (.int .i64 (jS a b c n k))/\Below w.heap.size w w':=by
 go_enter Tryz.func118,Tryz.ntmps118;go_wp2_with fail;all_goals
  go_ret;exact⟨zc (by simp_all[jS]),(Below.refl _ w).alloc (zqg _) _⟩
end IsaL
namespace IsaL
open Go Go.ChangeShapes Go.WideShapes Go.ChangeAt Go.RowKit
theorem own:ownKnob prog.godebug=none:=by kernel_rfl
def jdh:List (String×DataW Unit):=[("math/bits.deBruijn32tab",Rows.laid_math_bits_deBruijn32tab),("math/bits.deBruijn64tab",Rows.laid_math_bits_deBruijn64tab),("internal/strconv.uint64pow10",Rows.laid_internal_strconv_uint64pow10),("kindling/isa.operations",Rows.laid_kindling_isa_operations)]
theorem jpl (os:Os) (args:Array Value):laidMetH prog jdh ((World.doorLaid prog 400 os).forCall (fun _ _=>0) ⟨#[],args,[]⟩).memory:=
 laidMetH_of_parts3 (fuel:=8) (laidMet_of_run' 8 (by kernel_rfl) (by kernel_rfl)) (by kernel_rfl) (by kernel_rfl)
theorem jgX {H:Type} {enc:TypeId×Value->H} {P:Program} {w:World} {base:Nat} {sp:Nat->Bool} {held:Bool} {fuel:Nat} {t e t0 t1:TypeId} {n:Nat} {k:IntKind} {fs:Array Field} {f0 f1:Field} {cs:List Value} {zs:List (List UInt8×Int)} {p:List MemPlace}
  (ht:P.underlying t=some (.array n e)) (he:P.underlying e=some (.struct fs)) (hf0:fs[0]?=some f0) (hf1:fs[1]?=some f1) (ho0:f0.offset=0) (ho1:f1.offset=1) (ht0:f0.type=t0) (ht1:f1.type=t1)
  (hs:P.underlying t0=some .string) (hk:P.underlying t1=some (.int k)) (hce:P.cellsOf e=2) (h0:P.cellsOf t0=1) (h1:P.cellsOf t1=1) (hfs:fs.size=2)
  (h:DataW.trod enc P w base sp held fuel t cs=some (.agg (zs.map fun z=>.agg [.lit (.string z.1),.lit (.int k z.2)]),p)):
  ∀i z,zs[i]?=some z->cs[i*2]?=some (.string ⟨z.1.toArray⟩)/\cs[i*2+1]?=some (.int k z.2):=by
 obtain⟨xs,m,_,hx,_,hxl,hxi⟩:=DataW.trod_array ht h;intro i z hz;have hzx:xs.map (·.1)=zs.map fun z=>(DataW.agg [.lit (.string z.1),.lit (.int k z.2)]:DataW H):=by
  have:=congrArg Prod.fst hx;simpa using this.symm
 have hlen:zs.length=n:=by
  have:=congrArg List.length hzx;simp at this;omega
 have hi:i<n:=by
  have:=(zqb hz).1;omega
 have hxe:xs[i]?=some (xs[i]'(by omega)):=zqh (by omega);have h2:(xs.map (·.1))[i]?=some (DataW.agg [.lit (.string z.1),.lit (.int k z.2)]:DataW H):=by rw[hzx];simp[hz]
 have h3:(xs[i]'(by omega)).1=(DataW.agg [.lit (.string z.1),.lit (.int k z.2)]:DataW H):=by simpa[hxe] using h2
 have hd:=hxi i hi;rw[hxe,hce] at hd;obtain⟨ys,m',_,hy,_,hyl,hyi⟩:=DataW.trod_struct he hd;rw[hy] at h3;have hys:ys.map (·.1)=[.lit (.string z.1),.lit (.int k z.2)]:=by simpa using h3
 have e0:=hyi 0 f0 hf0;have e1:=hyi 1 f1 hf1;rw[ht0,h0,ho0] at e0;rw[ht1,h1,ho1] at e1;obtain⟨y0,y1,rfl⟩:∃y0 y1,ys=[y0,y1]:=by
  match ys,hyl.trans hfs with
  |[y0,y1],_=>exact⟨_,_,rfl⟩
 simp only[List.map_cons,List.map_nil,List.cons.injEq,and_true] at hys;obtain⟨s,hcs,hy0,_⟩:=DataW.trod_string hs (x:=y0) e0;obtain⟨z',hcz,hy1,_⟩:=DataW.trod_int hk (x:=y1) e1;have g0:cs[i*2]?=some (.string s):=by
  have:=congrArg (·[0]?) hcs;simpa[List.getElem?_take,List.getElem?_drop] using this
 have g1:cs[i*2+1]?=some (.int k z'):=by
  have:=congrArg (·[0]?) hcz;simpa[List.getElem?_take,List.getElem?_drop] using this
 have q0:=hys.1;have q1:=hys.2;rw[hy0] at q0;rw[hy1] at q1;simp only[DataW.lit.injEq,Lit.string.injEq,Lit.int.injEq,true_and] at q0 q1;subst q1;exact⟨by rw[g0,<-q0],g1⟩
theorem jjd {W:World} (h:laidMetH prog jdh W):ZM W:=by
 rw[MakeChecks.laidMetH_plain _ _ _ (by kernel_rfl)] at h;have h2:=laidMet.tail (laidMet.tail (laidMet.tail h));have e:(Rows.laid_kindling_isa_operations:DataW Unit)=.agg (((List.range 37).map fun n=>((zI n).1,((ZH n:Nat):Int))).map fun z=>.agg [.lit (.string z.1),.lit (.int .i64 z.2)]):=by rfl
 rw[e] at h2;obtain⟨ps,⟨g',t',cs,fuel,p,q,hg',ht',hvar,hd,_,_⟩,_⟩:=h2;obtain rfl:=zqd ((show prog.globalNamed "kindling/isa.operations"=some 0 by kernel_rfl).symm.trans hg');obtain rfl:=zqd ((show(prog.globals[0]?).map (·.type)=some 181 by kernel_rfl).symm.trans ht');intro n hn;have hz:((List.range 37).map fun n=>((zI n).1,((ZH n:Nat):Int)))[n]?=some ((zI n).1,((ZH n:Nat):Int)):=by simp[hn]
 have hc:=jgX Tryz.underlying181 Tryz.underlying180 rfl rfl rfl rfl rfl rfl Tryz.underlying9 Tryz.underlying3 (by kernel_rfl) (by kernel_rfl) (by kernel_rfl) rfl hd n _ hz;have hv:=World.var?_cell (show prog.globalNamed "kindling/isa.operations"=some 0 by kernel_rfl) hvar;refine⟨(hv (n*2)).trans ?_,(hv (n*2+1)).trans ?_⟩
 ·rw[<-Array.getElem?_toList];exact hc.1
 ·rw[<-Array.getElem?_toList];exact hc.2
section
variable {H:Type} {enc:TypeId×Value->H} {P:Program}
theorem jlD {f:Func} {s:ChangeSpec} {apart fresh handsOn again:Bool} {W W':World} {args:Array Value} {v:Value} {ds gs:List (DataW H)} {before pa pv:List MemPlace}
  (hW:DataW.Whole enc P f.params.toList s.vars apart W args.toList ds gs before)
  (hres:∀(b:Nat) (sp:Nat->Bool) (hd:Bool),DataW.TrodAll enc P W' b sp hd f.resultTypes.toList (v.resultList f.resultTypes.size) (s.fn H (ds++gs)).results [])
  (hargs:∀sp:Nat->Bool,(∀p∈before,sp p.block=true)->DataW.TrodAll enc P W' 0 sp true f.params.toList args.toList (s.fn H (ds++gs)).args pa)
  (hvars:∀sp:Nat->Bool,(∀p∈before,sp p.block=true)->DataW.TrodVars enc P W' sp s.vars (s.fn H (ds++gs)).vars pv)
  (hps:before=pa++pv) (hb:Below W.heap.size W W')
  (hok:∀(j:Nat) (t:TypeId) (r:Value),f.resultTypes[j]?=some t->(v.resultList f.resultTypes.size)[j]?=some r->Value.okWide P W' .any 0 t r):
  s.post enc P f apart fresh handsOn again W args v W':=by
 have old:∀p∈before,decide (p.block<W.heap.size)=true:=fun p hp=>zqr (hW.lt p hp);refine⟨ds,gs,before,[],pa,pv,hW,hres _ _ _,hargs _ old,hvars _ old,World.keptBut_mono (fun p hp=>⟨hp,.inr ?_⟩) (hb.frame (·∈before)),fun _=>?_⟩
 ·exact List.mem_append.1 (hps▸hp)
 ·have hlt:=hW.lt
  obtain⟨_,_,_,_,_,hz,hn⟩:=hW;refine⟨hok,_,_,([]++pa)++pv,⟨[]++pa,pv,trodAll_append (hargs _ (fun _ _=>rfl)) (hres _ _ _),hvars _ (fun _ _=>rfl),rfl,fun b off hp=>?_,fun ha=>?_⟩,fun p hp _=>?_⟩
  ·have hin:MemPlace.cell b off∈before:=by rw[hps];simpa using hp
   exact(hb.frozen (p:=⟨b,off,none⟩) (hlt _ hin)).trans (hz b off hin)
  ·have h:=hn ha
   rw[hps] at h;simpa using h
  ·rw[hps]
   simpa using hp
end
end IsaL
