/- A part of the proof of MachineMoves. Conditions: those that each theorem names. -/
import Derived.Test.YtklcmdoadmcpfaaGreatDoorQ14
import Derived.Laws.AppendOwnNone
set_option maxRecDepth 100000
set_option maxHeartbeats 400000000
namespace Go.Proofs.YtklcmdoadmcpfaaGreatDoor
open Go Go.RowKit
open Go.Lib(hid)
open Go.Proofs.Tryz(prog)
namespace NumL
open Go Go.RowKit Go.Shelf
attribute [local go_sem] Oper.semAt_some
theorem JJ (n:Nat) (w:World) (h:n<=9223372036854775807):
  Calls prog 170 #[.int .i64 n] w fun e w'=>e=.returned (.int .i64 (jt n))/\w=w':=by
 go_enter Tryz.func170,Tryz.ntmps170;go_wp2;go_ret;exact⟨jY (by unfold jt;omega),rfl⟩
theorem jie (s:ByteArray) (k:Nat) (h:k<s.size) (hk:k<8):bits BinOp.or IntKind.u64 ((JK (s.data.toList.take k):Nat):Int) (IntKind.u64.wrap (IntKind.u64.wrap ((s[k]).toNat:Int)*2^(8*k)))=((JK (s.data.toList.take (k+1)):Nat):Int):=
 jsN s.data.toList k (by simpa using h) hk
theorem word_any (s:ByteArray) (w:World) (hs:s.size<=maxLen):
  Calls prog 177 #[.string s] w fun e w'=>e=.returned (.int .u64 (JK (s.data.toList.take 8):Nat))/\w=w':=by
 unfold maxLen at hs;by_cases h8:8<s.size
 ·go_enter Tryz.func177,Tryz.ntmps177
  go_wp2;go_loop [3,8] (fun x i=>∃k:Nat,k<=8/\k<=s.size/\i=.int .i64 k/\x=.int .u64 (JK (s.data.toList.take k):Nat)) (fun _ i=>8-(intOf i).toNat)
  case atStart=>exact⟨0,by omega,by omega,rfl,by simp[JK]⟩
  case round=>
   obtain⟨k,hk,hk2,rfl,rfl⟩:=hrel;by_cases hlt:k<8
   ·have hlt2:k<s.size:=by omega
    have hlt8:k<8:=by omega
    have HS:=hid (jie s k hlt2 hlt8);go_wp2;go_round
    case rel=>exact⟨k+1,by omega,by omega,by go_num,by rw[HS.out]⟩
    case measure=>simp[intOf];omega
   ·obtain rfl:k=8:=by omega
    go_wp2;go_ret;exact⟨jY (by first|rfl|rw[zqp (by simp),zqp (by simp;omega)]),rfl⟩
 ·go_enter Tryz.func177,Tryz.ntmps177
  go_wp2;go_loop [3,8] (fun x i=>∃k:Nat,k<=8/\k<=s.size/\i=.int .i64 k/\x=.int .u64 (JK (s.data.toList.take k):Nat)) (fun _ i=>8-(intOf i).toNat)
  case atStart=>exact⟨0,by omega,by omega,rfl,by simp[JK]⟩
  case round=>
   obtain⟨k,hk,hk2,rfl,rfl⟩:=hrel;by_cases hlt:k<s.size
   ·have hlt2:k<s.size:=by omega
    have hlt8:k<8:=by omega
    have HS:=hid (jie s k hlt2 hlt8);go_wp2;go_round
    case rel=>exact⟨k+1,by omega,by omega,by go_num,by rw[HS.out]⟩
    case measure=>simp[intOf];omega
   ·obtain rfl:k=s.size:=by omega
    go_wp2;go_ret;exact⟨jY (by first|rfl|rw[zqp (by simp),zqp (by simp;omega)]),rfl⟩
theorem each_in (F:Fence) (n:Nat) (h4:F.fn 171) (hro:F.round=none) (s:ByteArray) (w:World):
  CallsIn F n prog 171 #[.string s] w fun e w'=>e=.returned (.func (.func 176) #[] #[.pointer (some ⟨w.heap.size,0,none⟩)])/\w'=w.alloc (.cells #[.string s] 9):=by
 refine callsIn_of_wp Tryz.func171 rfl h4 ?_ hro;simp only[Tryz.ntmps171,List.size_toArray,List.length_cons,List.length_nil,Nat.reduceAdd,Nat.reduceSub,Array.replicate_succ,Array.replicate_zero,List.push_toArray,List.append_toArray,List.nil_append,List.cons_append];gi_wp2;go_ret;exact⟨rfl,rfl⟩
def upto {α:Type} (f:Nat->α) (k:Nat):List α:=(List.range k).map f
theorem jgP {α:Type} (f:Nat->α) (k:Nat):upto f (k+1)=upto f k++[f k]:=by simp[upto,List.range_succ]
theorem jdH {α:Type} (f:Nat->α) (k:Nat):(upto f k).length=k:=by simp[upto]
def Qr (s:ByteArray) (k:Nat):Nat×Nat:=(k,wordN s.data.toList k)
theorem jps (s:ByteArray) (k:Nat):JK ((s.extract (k*8) s.size).data.toList.take 8)=wordN s.data.toList k:=by
 unfold wordN;have e:(s.extract (k*8) s.size).data.toList=s.data.toList.drop (8*k):=by
  rw[Nat.mul_comm k 8];simp[ByteArray.data_extract];exact zqp (by simp)
 rw[e]
theorem jtt (s:ByteArray) (k:Nat) (w:World) (hs:s.size<=140737488351232):
  Calls prog 177 #[.string (s.extract (k*8) s.size)] w fun e w'=>e=.returned (.int .u64 (wordN s.data.toList k:Nat))/\w=w':=by
 have hz:(s.extract (k*8) s.size).size<=maxLen:=by rw[ByteArray.size_extract];unfold maxLen;omega
 refine(word_any _ w hz).mono ?_;rintro e w' ⟨rfl,rfl⟩;exact⟨by rw[jps],rfl⟩
def jau (Bs:Nat) (s:ByteArray) (A B:World):Prop:=Boxed A Bs 9 (.string s)->Boxed B Bs 9 (.string s)
theorem each1_in (n:Nat) (hn:1<=n) (l Bs:Nat) (s:ByteArray) (hs:s.size<=140737488351232) (J Jx:List (Nat×Nat)->World->Prop)
  (hY:∀pre x W,J pre W->pre.length<jt s.size->YieldAt Fence.wide (n-1) prog l #[.int .i64 (x.1:Int),.int .u64 (x.2:Int)] W fun e W'=>
   (e=.returned (.bool true)/\J (pre++[x]) W'/\jau Bs s W W')\/(e=.returned (.bool false)/\Jx (pre++[x]) W'))
  (W:World) (hBs:Boxed W Bs 9 (.string s)) (h0:J [] W):
  CallsIn Fence.wide n prog 176 #[.func (.yield l) #[] #[],.pointer (some ⟨Bs,0,none⟩)] W fun e W'=>(∃v,e=.returned v)∧
   ((∃ys,ys=upto (Qr s) (jt s.size)/\J ys W')\/(∃pre,(∃k,k<=jt s.size/\pre=upto (Qr s) k)/\Jx pre W')):=by
 refine callsIn_of_wp Tryz.func176 rfl trivial ?_ rfl;simp only[Tryz.ntmps176,List.size_toArray,List.length_cons,List.length_nil,Nat.reduceAdd,Nat.reduceSub,Array.replicate_succ,Array.replicate_zero,List.push_toArray,List.append_toArray,List.nil_append,List.cons_append];have hw0:s.size<=9223372036854775807:=by omega
 have hcx0:=hBs.cell;gi_wp2_with (refine⟨trivial,?_⟩;gi_at_call 170;refine(callsIn_wide.2 (JJ _ _ hw0)).mono ?_;rintro e w' ⟨rfl,rfl⟩);gi_loopw [7] (fun i wr=>∃k:Nat,k<=jt s.size/\i=.int .i64 k/\J (upto (Qr s) k) wr/\Boxed wr Bs 9 (.string s))
  (fun i _=>jt s.size-(intOf i).toNat)
 case atStart=>exact⟨0,Nat.zero_le _,rfl,h0,hBs⟩
 case round=>
  obtain⟨k,hk,rfl,hJs,hnx⟩:=hrel;have hcx:=hnx.cell;by_cases hlt:k<jt s.size
  ·obtain⟨fn,tmps,assign,body,hy,hR⟩:=hY _ (Qr s k) wr hJs (by rw[jdH];exact hlt)
   dsimp only[Qr] at hy;have h8:8*k<=s.size:=by unfold jt at hlt;omega
   gi_wp2_with (refine⟨trivial,?_⟩;gi_at_call 177;refine(callsIn_wide.2 (jtt s k _ hs)).mono ?_;rintro e w' ⟨rfl,rfl⟩);refine hR.mono ?_;rintro e W3 (⟨rfl,hJ3,hk3⟩|⟨rfl,hJx3⟩)
   ·gi_wp2
    go_roundw
    case rel=>exact⟨k+1,by omega,by simp,by rw[jgP];exact hJ3,hk3 hnx⟩
    case measure=>simp[intOf];omega
   ·gi_wp2
    refine bodyPost_ret (results_none rfl _ _ _) rfl ?_;exact⟨⟨_,rfl⟩,.inr ⟨_,⟨k+1,by omega,(jgP _ _).symm⟩,hJx3⟩⟩
  ·obtain rfl:k=jt s.size:=by omega
   gi_wp2;go_end0;exact⟨⟨_,rfl⟩,.inl ⟨_,rfl,hJs⟩⟩
end NumL
namespace NumL
open Go Go.RowKit Go.Shelf
attribute [local go_sem] Oper.semAt_some
theorem infoU64:(prog.info? 65).map (fun i=>(i.zero,i.size,i.bytes))=some (some (.int .u64 0),1,8):=by kernel_rfl
def u64s (l:List Nat):List Value:=l.map fun(n:Nat)=>Value.int .u64 (n:Int)
theorem each_stops (n:Nat) (hn:1<=n) (Bs:Nat) (s:ByteArray) (hs:s.size<=140737488351232) (w:World) (hc:Boxed w Bs 9 (.string s)):
  SeqStopsK Fence.wide n prog 176 #[.pointer (some ⟨Bs,0,none⟩)] (fun x:Nat×Nat=>#[Value.int .i64 (x.1:Int),Value.int .u64 (x.2:Int)]) (jau Bs s) (fun ys=>ys=upto (Qr s) (jt s.size))
   (fun pre=>∃k,k<=jt s.size/\pre=upto (Qr s) k) (jt s.size) w:=fun l J Jx W hW _ _ hY h0=>
 each1_in n hn l Bs s hs J Jx hY W ((hW.block Bs hc.lt).trans hc) h0
theorem jni {Bs:Nat} {s:ByteArray} {A B C:World} (h:jau Bs s A B) (k:jau Bs s B C):jau Bs s A C:=fun x=>k (h x)
theorem jnh {Bs:Nat} {s:ByteArray} {w:World} (hb:Bs<w.heap.size) (W:World) (l:Nat) (o o':Obj) (hl:w.heap.size<=l) (_:W.heap[l]?=some o) (_:o.isCells=false) (_:o.isWalk=false):jau Bs s W (W.putObj l o'):=fun x=>
 x.kept (grownBy_putObj' W l o') (fun e=>by cases e;omega)
theorem u64s_snoc (l:List Nat) (n:Nat):u64s (l++[n])=u64s l++[Value.int .u64 (n:Int)]:=by simp[u64s]
theorem jl9 (s:ByteArray):(upto (Qr s) (jt s.size)).map Prod.snd=zD s.data.toList:=by
 simp[upto,Qr,zD]
theorem jqw (s:ByteArray) (hs:s.size<=140737488351232) (w:World):
  Calls prog 157 #[.string s] w fun e W'=>∃v,e=.returned v/\W'.ownsRow w.heap.size 65 1 v (jt s.size) (u64s (zD s.data.toList))/\Below w.heap.size w W':=by
 refine(callsIn_wide (n:=3)).1 ?_;obtain⟨i0,hi,hz0,hz1,hz2⟩:=info_parts infoU64;have hnw:jt s.size*8<=s.size+7:=by unfold jt;omega
 have hnm:jt s.size<=maxLen:=by unfold maxLen;omega
 obtain⟨w1,hmk,hown0,hgr0⟩:=run_make_own w w.heap.size 51 65 i0 (.int .u64 0) 1 Tryz.underlying51 hi hz0 hz1 .i64 .i64 (jt s.size) (by rw[hz2];omega) hnm (zqg _);refine callsIn_of_wp_marks Tryz.func157 rfl trivial ?_ rfl;simp only[Tryz.ntmps157,List.size_toArray,List.length_cons,List.length_nil,Nat.reduceAdd,Nat.reduceSub,Array.replicate_succ,Array.replicate_zero,List.push_toArray,List.append_toArray,List.nil_append,List.cons_append];have hw0:s.size<=9223372036854775807:=by omega
 have h1:1<=3-1:=by omega
 gi_wp2_with (first|(refine⟨trivial,?_⟩;gi_at_call 170;refine(callsIn_wide.2 (JJ _ _ hw0)).mono ?_;rintro e w' ⟨rfl,rfl⟩)|(refine⟨trivial,?_⟩;gi_at_call 171;refine(each_in Fence.wide _ trivial rfl _ _).mono ?_;rintro e w' ⟨rfl,rfl⟩));have bO:=Boxed.new w1 51 (.slice (some ⟨w.heap.size,0,none⟩) 0 (jt s.size));have bN:=Boxed.new (w1.alloc (.cells #[.slice (some ⟨w.heap.size,0,none⟩) 0 (jt s.size)] 51)) 9 (.string s);rw[World.size_alloc] at bN;have hsz:w.heap.size<=w1.heap.size:=hgr0.size;have hB1:Below w.heap.size w w1:=(Below.refl _ w).grown hgr0 (zqg _) (by simp);have hB0:Below w.heap.size w ((w1.alloc (.cells #[.slice (some ⟨w.heap.size,0,none⟩) 0 (jt s.size)] 51)).alloc (.cells #[.string s] 9)):=(hB1.alloc hsz _).alloc (by simp;omega) _;clear hmk;refine wpIn_rangeFunc_ownG rfl (by omega) (gf:=176) (lb:=#[.pointer (some ⟨w1.heap.size+1,0,none⟩)]) rfl trivial (enters_of Tryz.func176 (by kernel_rfl) rfl)
  (each_stops (3-1) (by omega) (w1.heap.size+1) s hs _ bN) jni (jnh (by simp)) (Below.refl _ _) (fun _=>rfl)
  (fun pre W=>((∃v,Boxed W w1.heap.size 51 v/\W.ownsRow w.heap.size 65 1 v pre.length (u64s (pre.map Prod.snd))/\True)/\Boxed W (w1.heap.size+1) 9 (.string s))/\Below w.heap.size w W)
  (fun _ _ _=>False)
  (OwnFrom.and (OwnFrom.and (Own.from (holdsRow_own w.heap.size w1.heap.size 51 65 1 (fun(pre:List (Nat×Nat))=>pre.length) (fun pre=>u64s (pre.map Prod.snd)) (fun _ _=>True)) _) (Own.from (boxed_own (w1.heap.size+1) 9 (fun _=>.string s)) _)) (ownFrom_below (zqg _) (by simp;omega)))
  (fun _ _ _ _ _ hs _ _=>hs)
  ⟨⟨⟨_,bO.alloc _,((hown0.alloc _).alloc _),trivial⟩,bN⟩,hB0⟩
  (fun x=>{tmps:=#[.string s,undef,.slice none 0 0,.pointer (some ⟨w1.heap.size,0,none⟩),undef,.int .u64 (x.2:Int),.string s,.int .i64 s.size,.int .i64 (jt s.size),.slice (some ⟨w.heap.size,0,none⟩) 0 (jt s.size),.string s,.func (.func 176) #[] #[.pointer (some ⟨w1.heap.size+1,0,none⟩)],.int .i64 (x.1:Int),.int .u64 (x.2:Int),undef,undef,undef,undef,undef],defers:=[]}) ?assign ?body ?done ?stop
 case assign=>
  intro l x W K hK;gi_wp2;exact hK
 case body=>
  rintro l pre x W ⟨⟨⟨v,hv,hrow,_⟩,hbs⟩,hB⟩ hlt;have hc:=hv.cell;gi_wp2_with (gi_at_builtin;refine wpListIn_append_own _ rfl _ _ 51 rfl w.heap.size 65 i0 (.int .u64 0) 1 8 Tryz.underlying51 hi hz0 hz1 hz2 rfl (by decide) _ _ _ rfl (hrow.alloc _) ⟨W.heap.size,0,none⟩ 1 1 [.int .u64 (x.2:Int)] rfl rfl (cell_one_new _ _ _) (by simp[Value.oneCell']) (by omega) (by omega) (by have:=hB.size;simp;omega) ?_;intro v' w2 hown' hgrow _;obtain⟨g',cap',rfl⟩:=ownsRow_succ hown';obtain⟨hv1,hv2,hr2,hk2,hb2⟩:=hv.appended (by decide) hrow hB.size hsz hown' hgrow;have hc1:=hv1.cell;have hf1:=hv1.frozen);have hbs2:Boxed w2 (w1.heap.size+1) 9 (.string s):=(hbs.alloc _).kept hgrow (hbs.not_row (by decide) hrow);have hbs3:=hbs2.other (B':=w1.heap.size) (by omega) (.slice (some ⟨g',0,none⟩) (pre.length+1) cap');exact⟨hk2.from _,fun _=>hbs3,⟨⟨_,hv2,by simpa[u64s_snoc] using hr2,trivial⟩,hbs3⟩,hB.trans hb2⟩
 case done=>
  rintro D ys W hD rfl ⟨⟨⟨v,hv,hrow,_⟩,_⟩,hB⟩ hK;have hc:=hv.cell;gi_wp2;refine⟨by simp,.inl ⟨_,_,rfl,run_takeDeferred hK,?_⟩⟩;refine⟨_,results_tmp rfl _ _ _,v,rfl,?_,hB.trans (belowK_b (w:=w) (zqg _) W D _ _ (by simp at hD;omega) hK rfl rfl)⟩;have:=ownsRow_putObj hrow (.deferred none) hK rfl;rw[jdH,jl9] at this;exact this
 case stop=>
  rintro D c pre W _ _ h _;exact h.elim
end NumL
namespace NumL
open Go Go.RowKit
def Words (n₀:Nat) (W:World) (v:Value) (zs:List Nat):Prop:=
 (v=.slice none 0 0/\zs=[])\/∃b off cap,v=.slice (some ⟨b,off,none⟩) zs.length cap/\b<n₀/\zs.length<=cap/\∀j,j<zs.length->W.cell? ⟨b,off+j,none⟩=some (.int .u64 (zs.getD j 0:Nat))
theorem Words.of_own {W:World} {n₀:Nat} {v:Value} {zs:List Nat} (h:W.ownsRow n₀ 65 1 v zs.length (u64s zs)):Words W.heap.size W v zs:=by
 rcases h.2 with⟨rfl,h0⟩|⟨g,cap,cur,rfl,_,hg,h1,h2,h3,h4⟩
 ·left;exact⟨rfl,List.length_eq_zero_iff.1 h0⟩
 ·right
  refine⟨g,0,cap,rfl,(zqa hg).1,h1,fun j hj=>?_⟩;have e:cur.toList[j]?=some (.int .u64 (zs.getD j 0:Nat)):=by
   have:(cur.toList.take (zs.length*1))[j]?=(u64s zs)[j]?:=by rw[h4]
   rw[List.getElem?_take_of_lt (by omega)] at this;rw[this];simp[u64s,hj,List.getD]
  have hc:W.cell? ⟨g,0+j,none⟩=cur[j]?:=by simp[World.cell?,hg]
  rw[hc,<-e];simp
theorem Words.shape {n₀:Nat} {W:World} {v:Value} {zs:List Nat} (h:Words n₀ W v zs):∃a cap,v=.slice a zs.length cap:=by
 rcases h with⟨rfl,rfl⟩|⟨b,off,cap,rfl,_⟩
 ·exact⟨none,0,rfl⟩
 ·exact⟨_,cap,rfl⟩
theorem jl6 (a:Option Addr) (len cap:Nat) (m:Nat) (hm:m<=9223372036854775807) (hl:len≠jt m) (w:World):
  Calls prog 174 #[.slice a len cap,.int .i64 m] w fun e w'=>e=.returned (.tuple #[.string ⟨#[]⟩,.int .i64 1])/\w=w':=by
 have hd:((len:Int) !=(jt m:Int))=true:=by
  have:¬((len:Int)=(jt m:Int)):=by omega
  simpa using this
 have hd0:decide ((m:Int)<0)=false:=by rw[decide_eq_false_iff_not];omega
 clear hl;go_enter Tryz.func174,Tryz.ntmps174;go_wp2_with fail;refine(JJ _ _ hm).mono ?_;rintro e w' ⟨rfl,rfl⟩;go_wp2_with fail;go_ret2;exact⟨rfl,rfl⟩
theorem juI {z e:Nat} (h:z/2^e≠0):(((z:Nat):Int)/2^e !=0)=true:=by
 have:¬(((z:Nat):Int)/2^e=0):=by
  intro h2;apply h;have:((z/2^e:Nat):Int)=0:=by rw[Int.natCast_ediv,Int.natCast_pow];exact h2
  omega
 simpa using this
theorem juH {z e:Nat} (h:z/2^e=0):(((z:Nat):Int)/2^e !=0)=false:=by
 have:(((z:Nat):Int)/2^e=0):=by
  have h2:((z/2^e:Nat):Int)=0:=by omega
  rw[Int.natCast_ediv,Int.natCast_pow] at h2;exact h2
 simpa using this
theorem jjm (b off cap len m z:Nat) (hm:m<=140737488351232) (hl:len=jt m) (hr:m%8≠0) (hb:z/2^(8*(m%8))≠0) (w:World)
  (hc:w.cell? ⟨b,off+(len-1),none⟩=some (.int .u64 (z:Nat))):
  Calls prog 174 #[.slice (some ⟨b,off,none⟩) len cap,.int .i64 m] w fun e w'=>e=.returned (.tuple #[.string ⟨#[]⟩,.int .i64 1])/\w=w':=by
 have hd:((len:Int) !=(jt m:Int))=false:=by
  have:((len:Int)=(jt m:Int)):=by omega
  simpa using this
 have hd0:decide ((m:Int)<0)=false:=by rw[decide_eq_false_iff_not];omega
 have hm0:m<=9223372036854775807:=by omega
 have hpos:1<=len:=by unfold jt at hl;omega
 have hlz:len<=140737488351232:=by unfold jt at hl;omega
 have hr1:((m:Int)%8 !=0)=true:=by
  have:¬((m:Int)%8=0):=by omega
  simpa using this
 have hs:=juI hb;clear hr hb hl;go_enter Tryz.func174,Tryz.ntmps174;go_wp2_with fail;refine(JJ _ _ hm0).mono ?_;rintro e w' ⟨rfl,rfl⟩;go_wp2_with fail;go_ret2;exact⟨rfl,rfl⟩
theorem jna:(prog.info? 5).map (fun i=>(i.zero,i.size,i.bytes))=some (some (.int .u8 0),1,1):=by kernel_rfl
def jfd (B n k:Nat) (zs:List Nat) (W:World):Prop:=∀j,j<n->W.cell? ⟨B,j,none⟩=some (.int .u8 ((if j<k then Zc zs j else 0:Nat):Int))/\W.frozen? ⟨B,j,none⟩=false
theorem jmu (z e:Nat):((z:Nat):Int)/2^e%256=((z/2^e%256:Nat):Int):=by
 rw[Int.natCast_emod,Int.natCast_ediv,Int.natCast_pow];rfl
theorem jjy {zs:List Nat} {k z:Nat} (h:zs.getD (k/8) 0=z):((z:Nat):Int)/2^(8*(k%8))%256=((Zc zs k:Nat):Int):=by
 rw[jmu];unfold Zc;rw[h]
theorem jeR (w:World) (m:Nat) (zs:List Nat):jfd w.heap.size m 0 zs (w.alloc (.cells (madeCells #[.int .u8 0] m) 5)):=by
 intro j hj;refine⟨?_,World.frozen?_alloc_new _ _ _ _⟩;have h:(madeCells #[Value.int .u8 0] m)[j]?=some (Value.int .u8 0):=by
  rw[<-Array.getElem?_toList,toList_madeCells_one,List.getElem?_replicate,if_pos hj]
 rw[World.cell?_alloc_mark w _ 5 (0,0) j,h];rfl
theorem jgg {B n k:Nat} {zs:List Nat} {W:World} (h:jfd B n k zs W) (hk:k<n):jfd B n (k+1) zs (W.setCell ⟨B,k,none⟩ (.int .u8 (Zc zs k:Nat))):=by
 intro j hj;obtain⟨h1,h2⟩:=h j hj;refine⟨?_,by rw[World.frozen?_setCell];exact h2⟩;by_cases e:j=k
 ·subst e
  rw[World.cell?_setCell_same _ _ _ h1,if_pos (by omega)]
 ·rw[World.cell?_setCell_other _ _ _ _ (fun x=>e (by injection x with _ h4;exact h4.symm)),h1]
  by_cases h3:j<k
  ·rw[if_pos h3,if_pos (by omega)]
  ·rw[if_neg h3,if_neg (by omega)]
theorem jd0 {B n:Nat} {zs:List Nat} {W:World} (h:jfd B n n zs W) (cap:Nat):(convert 210 9 (.slice (some ⟨B,0,none⟩) n cap)).run prog W=.ok (.string ⟨(zY zs n).toArray⟩) W:=by
 have hb:=run_convert_bytes_back (P:=prog) W 210 9 5 ⟨B,0,none⟩ cap (zY zs n) Tryz.underlying210 Tryz.underlying5 Tryz.underlying9 (fun j hj=>by
  rw[jbA] at hj;have h1:=(h j hj).1;rw[if_pos hj] at h1;have e:(zY zs n)[j]=UInt8.ofNat (Zc zs j):=by simp[zY]
  have h3:=jmt zs j;have h4:(UInt8.ofNat (Zc zs j)).toNat=Zc zs j:=by rw[UInt8.toNat_ofNat'];omega
  have e2:(Addr.add ⟨B,0,none⟩ j)=⟨B,j,none⟩:=by
   simp[Addr.add];exact fun h=>h.symm
  rw[e2,h1,e,h4])
 rw[jbA] at hb;exact hb
theorem jjn (b off cap m:Nat) (zs:List Nat) (hm:m<=140737488351232) (hu:UOk zs m) (w:World) (hbw:b<w.heap.size)
  (hc:∀j,j<zs.length->w.cell? ⟨b,off+j,none⟩=some (.int .u64 (zs.getD j 0:Nat))):
  Calls prog 174 #[.slice (some ⟨b,off,none⟩) zs.length cap,.int .i64 m] w fun e w'=>e=.returned (.tuple #[.string ⟨(zY zs m).toArray⟩,.int .i64 0])/\Below w.heap.size w w':=by
 obtain⟨i0,hi,hz0,hz1,hz2⟩:=info_parts jna;have hmk:=run_make (P:=prog) w 210 5 i0 (.int .u8 0) Tryz.underlying210 hi hz0 .i64 .i64 m m (by omega) (Int.le_refl _) (by rw[hz2];omega) (by omega);simp only[Int.toNat_natCast,hz1,Nat.mul_one] at hmk;have hM0:=jeR w m zs;have hB0:Below w.heap.size w (w.alloc (.cells (madeCells #[.int .u8 0] m) 5)):=(Below.refl _ _).alloc (zqg _) _;obtain⟨w1,hw1⟩:∃w1,w.alloc (.cells (madeCells (Value.int .u8 0).cells m) 5)=w1:=⟨_,rfl⟩;rw[hw1] at hmk;have hw2:w.alloc (.cells (madeCells #[.int .u8 0] m) 5)=w1:=hw1;rw[hw2] at hM0 hB0;have HM0:=hid hM0;clear hw1 hw2 hM0 hi hz0 hz1 hz2;have hl:=hu.1;have hd:((zs.length:Int) !=(jt m:Int))=false:=by
  have:((zs.length:Int)=(jt m:Int)):=by omega
  simpa using this
 have hd0:decide ((m:Int)<0)=false:=by rw[decide_eq_false_iff_not];omega
 have hm0:m<=9223372036854775807:=by omega
 have hlz:zs.length<=140737488351232:=by unfold jt at hl;omega
 have HL:=hid hl;have HC:=hid hc;have HU:=hid hu;have hmm:∀k,k<m->k/8<zs.length:=by intro k hk;rw[hl];unfold jt;omega
 have HMM:=hid hmm;clear hc hl hu hmm;by_cases hr:m%8=0
 ·have hr1:((m:Int)%8 !=0)=false:=by
   have:((m:Int)%8=0):=by omega
   simpa using this
  clear hr;go_enter Tryz.func174,Tryz.ntmps174;go_wp2_with fail;refine(JJ _ _ hm0).mono ?_;rintro e w' ⟨rfl,rfl⟩;go_wp2_with fail;clear hmk;go_loopw [38] (fun i wr=>∃k:Nat,k<=m/\i=.int .i64 k/\jfd w.heap.size m k zs wr/\Below w.heap.size w wr) (fun i _=>m-(intOf i).toNat)
  case atStart=>exact⟨0,by omega,rfl,HM0.out,hB0⟩
  case round=>
   obtain⟨k,hk,rfl,hM,hB⟩:=hrel;have HM:=hid hM;clear hM;by_cases hlt:k<m
   ·obtain⟨z,hz⟩:∃z,zs.getD (k/8) 0=z:=⟨_,rfl⟩
    have hkz:=HMM.out k hlt;have hcz:=HC.out (k/8) hkz;have hcx:wr.cell? ⟨b,off+k/8,none⟩=some (.int .u64 (z:Nat)):=by rw[hB.cell (p:=⟨b,off+k/8,none⟩) hbw,hcz,hz]
    obtain⟨hcy,hfy⟩:=HM.out k hlt;have HZ:=hid hz;clear hz hcz;go_wp2_with fail;go_roundw
    case rel=>exact⟨k+1,hlt,by simp,by rw[jjy HZ.out];exact jgg HM.out hlt,hB.setCell (p:=⟨w.heap.size,k,none⟩) (zqg _) _⟩
    case measure=>simp[intOf];omega
   ·obtain rfl:k=m:=by omega
    have hend:=jd0 HM.out k;go_wp2_with fail;go_ret2;exact⟨rfl,hB⟩
 ·have hr1:((m:Int)%8 !=0)=true:=by
   have:¬((m:Int)%8=0):=by omega
   simpa using this
  have hpos:1<=zs.length:=by have:=HL.out;unfold jt at this;omega
  have hlast:=HU.out.2 hr;obtain⟨zl,hzl⟩:∃z,zs.getD (zs.length-1) 0=z:=⟨_,rfl⟩;rw[hzl] at hlast;have hs:=juH hlast;have hcl:w.cell? ⟨b,off+(zs.length-1),none⟩=some (.int .u64 (zl:Nat)):=by rw[HC.out (zs.length-1) (by omega),hzl]
  clear hr hlast hzl;go_enter Tryz.func174,Tryz.ntmps174;go_wp2_with fail;refine(JJ _ _ hm0).mono ?_;rintro e w' ⟨rfl,rfl⟩;go_wp2_with fail;clear hmk;go_loopw [38] (fun i wr=>∃k:Nat,k<=m/\i=.int .i64 k/\jfd w.heap.size m k zs wr/\Below w.heap.size w wr) (fun i _=>m-(intOf i).toNat)
  case atStart=>exact⟨0,by omega,rfl,HM0.out,hB0⟩
  case round=>
   obtain⟨k,hk,rfl,hM,hB⟩:=hrel;have HM:=hid hM;clear hM;by_cases hlt:k<m
   ·obtain⟨z,hz⟩:∃z,zs.getD (k/8) 0=z:=⟨_,rfl⟩
    have hkz:=HMM.out k hlt;have hcz:=HC.out (k/8) hkz;have hcx:wr.cell? ⟨b,off+k/8,none⟩=some (.int .u64 (z:Nat)):=by rw[hB.cell (p:=⟨b,off+k/8,none⟩) hbw,hcz,hz]
    obtain⟨hcy,hfy⟩:=HM.out k hlt;have HZ:=hid hz;clear hz hcz;go_wp2_with fail;go_roundw
    case rel=>exact⟨k+1,hlt,by simp,by rw[jjy HZ.out];exact jgg HM.out hlt,hB.setCell (p:=⟨w.heap.size,k,none⟩) (zqg _) _⟩
    case measure=>simp[intOf];omega
   ·obtain rfl:k=m:=by omega
    have hend:=jd0 HM.out k;go_wp2_with fail;go_ret2;exact⟨rfl,hB⟩
theorem jl7 (w:World):Calls prog 174 #[.slice none 0 0,.int .i64 0] w fun e w'=>e=.returned (.tuple #[.string ⟨(zY [] 0).toArray⟩,.int .i64 0])/\Below w.heap.size w w':=by
 obtain⟨i0,hi,hz0,hz1,hz2⟩:=info_parts jna;have hmk:=run_make (P:=prog) w 210 5 i0 (.int .u8 0) Tryz.underlying210 hi hz0 .i64 .i64 0 0 (by omega) (Int.le_refl _) (by rw[hz2];omega) (by omega);simp only[hz1,Int.toNat_zero,Nat.mul_one] at hmk;have hM0:=jeR w 0 [];have hB0:Below w.heap.size w (w.alloc (.cells (madeCells #[.int .u8 0] 0) 5)):=(Below.refl _ _).alloc (zqg _) _;obtain⟨w1,hw1⟩:∃w1,w.alloc (.cells (madeCells (Value.int .u8 0).cells 0) 5)=w1:=⟨_,rfl⟩;rw[hw1] at hmk;have hw2:w.alloc (.cells (madeCells #[.int .u8 0] 0) 5)=w1:=hw1;rw[hw2] at hM0 hB0;have hend:=jd0 hM0 0;clear hw1 hw2 hM0 hi hz0 hz1 hz2;have hwo:jt 0=0:=rfl;have HW:=hid (JJ 0 w (by decide));clear hwo;go_enter Tryz.func174,Tryz.ntmps174;go_wp2_with fail;refine(HW.out).mono ?_;rintro e w' ⟨rfl,rfl⟩;have hwo:jt 0=0:=rfl;go_wp2_with fail;go_loopw [38] (fun i wr=>i=.int .i64 0/\wr=w1) (fun _ _=>0)
 case atStart=>exact⟨rfl,rfl⟩
 case round=>
  obtain⟨rfl,rfl⟩:=hrel;go_wp2_with fail;go_ret2;exact⟨rfl,hB0⟩
theorem jl8 (v:Value) (zs:List Nat) (m:Nat) (hm:m<=140737488351232) (hu:UOk zs m) (w:World) (hv:Words w.heap.size w v zs):
  Calls prog 174 #[v,.int .i64 m] w fun e w'=>e=.returned (.tuple #[.string ⟨(zY zs m).toArray⟩,.int .i64 0])/\Below w.heap.size w w':=by
 rcases hv with⟨rfl,rfl⟩|⟨b,off,cap,rfl,hb,_,hc⟩
 ·have h0:m=0:=by have:=hu.1;unfold jt at this;simp at this;omega
  subst h0;exact jl7 w
 ·exact jjn b off cap m zs hm hu w hb hc
theorem jl5 (v:Value) (zs:List Nat) (m:Nat) (hm:m<=140737488351232) (hu:¬UOk zs m) (w:World) (hv:Words w.heap.size w v zs):
  Calls prog 174 #[v,.int .i64 m] w fun e w'=>e=.returned (.tuple #[.string ⟨#[]⟩,.int .i64 1])/\w=w':=by
 by_cases hl:zs.length=jt m
 ·have h2:∃_:m%8≠0,zs.getD (zs.length-1) 0/2^(8*(m%8))≠0:=by
   by_cases hr:m%8≠0
   ·refine⟨hr,fun h=>hu ⟨hl,fun _=>h⟩⟩
   ·exact(hu ⟨hl,fun h=>(hr h).elim⟩).elim
  obtain⟨hr,hb⟩:=h2;rcases hv with⟨_,rfl⟩|⟨b,off,cap,rfl,_,_,hc⟩
  ·simp[jt] at hl;omega
  ·exact jjm b off cap zs.length m _ hm hl hr hb w (hc _ (by unfold jt at hl;omega))
 ·obtain⟨a,cap,rfl⟩:=hv.shape
  exact jl6 a zs.length cap m (by omega) hl w
end NumL
namespace NumL
open Go Go.RowKit
theorem jcF {B:Nat} {a w:World} (h:Below B a w) (n:Nat):Below B a (w.drewN n):=⟨h.os,h.tape,h.output,h.size,h.block⟩
theorem jqX (a b:Option Addr) (la lb ca cb:Nat) (h:la≠lb) (w:World):
  Calls prog 24 #[.slice a la ca,.slice b lb cb] w fun e w'=>e=.returned (.bool false)/\Below w.heap.size w w':=by
 have hd:((la:Int) !=(lb:Int))=true:=by
  have:¬((la:Int)=(lb:Int)):=by omega
  simpa using this
 clear h;go_enter Tryz.func24,Tryz.ntmps24;go_wp2;go_ret;exact⟨rfl,Below.refl _ _⟩
theorem jlR (a b:Option Addr) (ca cb:Nat) (w:World):
  Calls prog 24 #[.slice a 0 ca,.slice b 0 cb] w fun e w'=>e=.returned (.bool true)/\Below w.heap.size w w':=by
 go_enter Tryz.func24,Tryz.ntmps24;go_wp2;go_loopw [5] (fun i wr=>i=.int .i64 0/\wr=w) (fun _ _=>0)
 case atStart=>exact⟨rfl,rfl⟩
 case round=>
  obtain⟨rfl,rfl⟩:=hrel;go_wp2;go_ret;exact⟨rfl,Below.refl _ _⟩
def jkg (xs ys:List Nat) (k:Nat):Prop:=∀j,j<k->xs.getD j 0=ys.getD j 0
theorem joR {xs ys:List Nat} {k:Nat} (h:jkg xs ys k) (e:xs.getD k 0=ys.getD k 0):jkg xs ys (k+1):=by
 intro j hj;by_cases hk:j<k
 ·exact h j hk
 ·obtain rfl:j=k:=by omega
  exact e
theorem jrd {xs ys:List Nat} (hl:xs.length=ys.length) (h:jkg xs ys xs.length):xs=ys:=by
 apply List.ext_getElem hl;intro i h1 h2;have:=h i h1;simpa[List.getD,h1,h2] using this
def Qv (xs ys:List Nat) (e:Ending):Prop:=e=.returned (.bool (decide (xs=ys)))
theorem jdG {xs ys:List Nat} (h:xs=ys):Qv xs ys (.returned (.bool true)):=by unfold Qv;rw[zqr h]
theorem jlQ {xs ys:List Nat} {k:Nat} (h:xs.getD k 0≠ys.getD k 0):Qv xs ys (.returned (.bool false)):=by
 unfold Qv;rw[zqq (fun e=>h (by rw[e]))]
theorem joy (b1 o1 c1 b2 o2 c2:Nat) (xs ys:List Nat) (hl:xs.length=ys.length) (hx:xs.length<=140737488351232) (w:World) (hb1:b1<w.heap.size) (hb2:b2<w.heap.size)
  (h1:∀j,j<xs.length->w.cell? ⟨b1,o1+j,none⟩=some (.int .u64 (xs.getD j 0:Nat))) (h2:∀j,j<ys.length->w.cell? ⟨b2,o2+j,none⟩=some (.int .u64 (ys.getD j 0:Nat))):
  Calls prog 24 #[.slice (some ⟨b1,o1,none⟩) xs.length c1,.slice (some ⟨b2,o2,none⟩) ys.length c2] w fun e w'=>Qv xs ys e/\Below w.heap.size w w':=by
 have H1:=hid h1;have H2:=hid h2;have HL:=hid hl;have hd:((xs.length:Int) !=(ys.length:Int))=false:=by
  have:((xs.length:Int)=(ys.length:Int)):=by omega
  simpa using this
 have hle:xs.length<=ys.length:=by omega
 clear h1 h2 hl;go_enter Tryz.func24,Tryz.ntmps24;go_wp2;go_loopw [5] (fun i wr=>∃k:Nat,k<=xs.length/\i=.int .i64 k/\jkg xs ys k/\Below w.heap.size w wr) (fun i _=>xs.length-(intOf i).toNat)
 case atStart=>exact⟨0,by omega,rfl,fun _ h=>by omega,Below.refl _ _⟩
 case round=>
  obtain⟨k,hk,rfl,hU,hB⟩:=hrel;have HU:=hid hU;clear hU;by_cases hlt:k<xs.length
  ·have hlt2:k<ys.length:=by omega
   obtain⟨x,hx1⟩:∃x,xs.getD k 0=x:=⟨_,rfl⟩;obtain⟨y,hy1⟩:∃y,ys.getD k 0=y:=⟨_,rfl⟩;have hcx:wr.cell? ⟨b1,o1+k,none⟩=some (.int .u64 (x:Nat)):=by rw[hB.cell (p:=⟨b1,o1+k,none⟩) hb1,H1.out k hlt,hx1]
   have hcy:wr.cell? ⟨b2,o2+k,none⟩=some (.int .u64 (y:Nat)):=by rw[hB.cell (p:=⟨b2,o2+k,none⟩) hb2,H2.out k hlt2,hy1]
   have HX:=hid hx1;have HY:=hid hy1;clear hx1 hy1;by_cases hxy:x=y
   ·have hdn:((x:Int) !=(y:Int))=false:=by
     have:((x:Int)=(y:Int)):=by omega
     simpa using this
    have HXY:=hid hxy;clear hxy;go_wp2;go_quiet (fail);go_wp2;go_roundw
    case rel=>exact⟨k+1,hlt,by simp,joR HU.out (by rw[HX.out,HY.out];exact HXY.out),jcF hB _⟩
    case measure=>simp[intOf];omega
   ·have hdn:((x:Int) !=(y:Int))=true:=by
     have:¬((x:Int)=(y:Int)):=by omega
     simpa using this
    have HXY:=hid hxy;clear hxy;go_wp2;go_quiet (fail);go_wp2;go_ret;exact⟨jlQ (k:=k) (by rw[HX.out,HY.out];exact HXY.out),jcF hB _⟩
  ·obtain rfl:k=xs.length:=by omega
   go_wp2;go_ret;exact⟨jdG (jrd HL.out HU.out),hB⟩
theorem jqW (v1 v2:Value) (xs ys:List Nat) (hx:xs.length<=140737488351232) (w:World) (h1:Words w.heap.size w v1 xs) (h2:Words w.heap.size w v2 ys):
  Calls prog 24 #[v1,v2] w fun e w'=>Qv xs ys e/\Below w.heap.size w w':=by
 obtain⟨a1,c1,e1⟩:=h1.shape;obtain⟨a2,c2,e2⟩:=h2.shape;by_cases hl:xs.length=ys.length
 ·by_cases h0:xs.length=0
  ·have hx0:xs=[]:=List.length_eq_zero_iff.1 h0
   have hy0:ys=[]:=List.length_eq_zero_iff.1 (by omega);subst hx0;subst hy0;rw[e1,e2];exact(jlR a1 a2 c1 c2 w).mono fun e w' ⟨he,hb⟩=>⟨by subst he;exact jdG rfl,hb⟩
  ·rcases h1 with⟨_,rfl⟩|⟨b1,o1,c1,rfl,hb1,_,hc1⟩
   ·simp at h0
   ·rcases h2 with⟨_,rfl⟩|⟨b2,o2,c2,rfl,hb2,_,hc2⟩
    ·exact(h0 (by rw[hl];rfl)).elim
    ·exact joy b1 o1 c1 b2 o2 c2 xs ys hl hx w hb1 hb2 hc1 hc2
 ·rw[e1,e2]
  refine(jqX a1 a2 xs.length ys.length c1 c2 hl w).mono ?_;rintro e w' ⟨rfl,hb⟩;refine⟨?_,hb⟩;unfold Qv;rw[zqq (fun e=>hl (by rw[e]))]
end NumL
structure RO where
 at_:Int
 k:Int
 t:Int
 ws:List Nat
 tz:Int
def DJ (a b:Value):Prop:=∀g,a.ownBlock=some g->b.ownBlock≠some g
theorem DJ.symm {a b:Value} (h:DJ a b):DJ b a:=fun g hb ha=>h g ha hb
section
variable {w w1:World} {v:Value} {P:List (RO×Value)} {O:Nat->Prop}
theorem jcj {e:TypeId} {n s:Nat} {xs:List Value} (h:w.ownsRow 0 e s v n xs):∃a cap,v=.slice a n cap/\n<=cap/\cap<=9223372036854775807:=by
 rcases h.2 with⟨rfl,rfl⟩|⟨g,cap,cur,rfl,_,_,h1,h2,_⟩
 ·exact⟨none,0,rfl,zqg _,by omega⟩
 ·exact⟨_,cap,rfl,h1,by simpa[maxLen] using h2⟩
end
