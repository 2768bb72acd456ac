/- A part of the proof of MachineStops: pruned, joined and printed small by a script. Conditions: those that each theorem names. -/
import Derived.Test.YtklcmdoadmcpfaaGreatDoorP00
import Derived.Test.YtklcmdoadmcpfaaGreatDoorP07
import Derived.Deep.AppendLies
import Derived.Deep.RegionLaw
import Derived.Laws.AppendOwnNone
import Derived.StillTailTactics
import Derived.RegionTactic
import Derived.BigRegion
import Derived.Laws.OwnMore
import Derived.Test.YtklcmdoadmcpfaaGreatDoorP14
import Derived.Laws.BytesArg
import Derived.Test.YtklcmdoadmcpfaaGreatDoorP04
import Derived.Test.YtklcmdoadmcpfaaGreatDoorP09
set_option maxRecDepth 100000
set_option maxHeartbeats 400000000
namespace Go.Proofs.YtklcmdoadmcpfaaGreatDoor
open Go Go.RowKit
open Go.Lib(hid)
open Go.Proofs.Tryz(prog)
structure RO where
 at_:Int
 k:Int
 t:Int
 ws:List Nat
 tz:Int
def DJ (a b:Value):Prop:=∀g,a.ownBlock=some g->b.ownBlock≠some g
theorem DJ.symm {a b:Value} (h:DJ a b):DJ b a:=fun g hb ha=>h g ha hb
section
variable {w w1:World} {v:Value} {P:List (RO×Value)} {O:Nat->Prop}
theorem own_shape5 {e:TypeId} {n s:Nat} {xs:List Value} (h:w.ownsRow 0 e s v n xs):∃a cap,v=.slice a n cap/\n<=cap/\cap<=9223372036854775807:=by
 rcases h.2 with⟨rfl,rfl⟩|⟨g,cap,cur,rfl,_,_,h1,h2,_⟩
 ·exact⟨none,0,rfl,zqg _,by omega⟩
 ·exact⟨_,cap,rfl,h1,by simpa[maxLen] using h2⟩
end
theorem MX.allocd {w wr w1:World} {O:Nat->Prop} {b W h k s t:Nat} {now old:List Ob} {R R':Nat->Value} (x:MX w O b W h ⟨now,old⟩ wr R) (hr:qu k s t=true) (hf:used now+s+1<=W) (m1:zv w1 b W h R' (now++[zI k s t]) old) (s1:∀i,Own b R' i->Own b R i\/wr.heap.size<=i) (f1:Fr (Own b R) wr w1):MX w O b W h ⟨now++[zI k s t],old⟩ w1 R':=
 ⟨m1,wf_alloc x.z hr hf,fun i hi=>by
  rcases s1 i hi with q|q
  ·exact x.own i q
  ·exact .inr (Nat.le_trans x.fr.size q),x.fr.trans f1 (fun i hi=>x.own i hi)⟩
theorem MX.stored {w wr w1:World} {O:Nat->Prop} {b W h j i n:Nat} {now old:List Ob} {R:Nat->Value} {o:Ob} (x:MX w O b W h ⟨now,old⟩ wr R) (ho:now[j]?=some o) (hn:n<18446744073709551616) (m1:zv w1 b W h R (setF now j i n) old) (f1:Fr (Own b R) wr w1):MX w O b W h ⟨now.set j {o with ws:=o.ws.set i n},old⟩ w1 R:=by
 have z1:=wf_setF (i:=i) x.z ho hn;rw[Ze ho] at z1 m1;exact⟨m1,z1,x.own,x.fr.trans f1 (fun i hi=>x.own i hi)⟩
theorem wordsV_own1 {w:World} {B:Nat} {v:Value} {n:Nat} {ns:List Nat} (ho:w.ownsRow B 65 1 v n (u64s ns)) (hn:ns.length=n) (hs:n<=100000) (hw:∀x∈ns,x<18446744073709551616):
  ∃a c,v=.slice a n c/\J9 w a n ns/\∀(g off:Nat),a=some ⟨g,off,none⟩->v.ownBlock=some g:=by
 have ho':=ho;rcases ho.2 with⟨hv,h0⟩|⟨g,cap,cur,hv,hb,hg,h1,h2,h3,h4⟩
 ·refine⟨none,0,by rw[hv,h0],⟨hn,by omega,hw,fun j x hj=>?_⟩,fun g off e=>by cases e⟩
  have:=(zqb hj).1;omega
 ·subst hv
  refine⟨_,cap,rfl,⟨hn,by omega,hw,fun j x hj=>?_⟩,fun g' off e=>by injection e with e;injection e with e1;rw[<-e1];rfl⟩;have hj':=(zqb hj).1;refine⟨g,0,rfl,(zqa hg).1,?_⟩;rw[Nat.zero_add,ho'.cellAt j (by omega)];simp[u64s,hj]
def txtP (l:List UInt8) (k:Nat):Ob:=⟨4,0,(l.length::(NumL.zy l).take k)++List.replicate (NumL.jt l.length-k) 0,0⟩
def zn (l:List UInt8):Ob:=⟨4,0,l.length::NumL.zy l,0⟩
theorem txtP_len {l:List UInt8} {k:Nat} (h:k<=NumL.jt l.length):(txtP l k).ws.length=NumL.jt l.length+1:=by
 simp only[txtP,List.length_append,List.length_cons,List.length_take,List.length_replicate,NumL.qG];omega
theorem txtP_full (l:List UInt8):txtP l (NumL.jt l.length)=zn l:=by
 unfold txtP zn;rw[List.take_of_length_le (by rw[NumL.qG];exact zqg _),Nat.sub_self];simp
theorem txtP_new (l:List UInt8):(zI 4 (1+NumL.jt l.length) 0).ws.set 0 l.length=(txtP l 0).ws:=by
 show(List.replicate 0 1++List.replicate (1+NumL.jt l.length-0) 0).set 0 l.length=_;rw[Nat.sub_zero,Nat.add_comm 1,List.replicate_succ];rfl
theorem txtP_set {l:List UInt8} {k n:Nat} (hk:k<NumL.jt l.length) (hn:(NumL.zy l)[k]?=some n):(txtP l k).ws.set (1+k) n=(txtP l (k+1)).ws:=by
 obtain⟨h1,rfl⟩:=zqb hn;have hl:(l.length::(NumL.zy l).take k).length=1+k:=by
  simp only[List.length_cons,List.length_take,NumL.qG];omega
 show((l.length::(NumL.zy l).take k)++List.replicate (NumL.jt l.length-k) 0).set (1+k) _=(l.length::(NumL.zy l).take (k+1))++List.replicate (NumL.jt l.length-(k+1)) 0;rw[List.set_append,if_neg (by omega),hl,Nat.sub_self,show NumL.jt l.length-k=(NumL.jt l.length-(k+1))+1 by omega,List.replicate_succ,List.set_cons_zero,List.take_succ_eq_append_getElem h1,List.cons_append,List.cons_append,List.append_assoc];rfl
theorem word_lt {l:List UInt8} {n:Nat} (h:n∈NumL.zy l):n<18446744073709551616:=by
 obtain⟨k,_,rfl⟩:=List.mem_map.1 h;exact NumL.wordN_lt l k
theorem wordsV_frm {w w1:World} {O:Nat->Prop} {a:Option Addr} {N:Nat} {ns:List Nat} (h:J9 w a N ns) (hf:Fr O w w1) (hn:∀g off,a=some ⟨g,off,none⟩->¬O g):J9 w1 a N ns:=
 ⟨h.len,h.few,h.word,fun j n hj=>by
  obtain⟨g,off,h1,h2,h3⟩:=h.cell j n hj;exact⟨g,off,h1,by have:=hf.size;omega,hf.cell_some h3 (hn g off h1)⟩⟩
section
variable {w:World} {b W h:Nat} {now old:List Ob} {R:Nat->Value}
theorem puttext_ok (m:zv w b W h R now old) (z:WF W h now old) (s:ByteArray) (hs:s.size<=131064) (hf:used now+(1+NumL.jt s.size)+1<=W):
  Calls prog 116 #[.pointer (some ⟨b,0,none⟩),.string s] w fun e w'=>e=.returned (.tuple #[.int .u64 (J5 (jy h W (used now:Nat))),.int .i64 0])/\∃R',MX w (Own b R) b W h ⟨now++[zn s.data.toList],old⟩ w' R':=by
 have hpk:=NumL.pack_any s (by omega) w;obtain⟨l,hl⟩:∃l,s.data.toList=l:=⟨_,rfl⟩;have hsz:s.size=l.length:=by rw[<-hl];simp
 obtain⟨A,hA⟩:∃A,jy h W (used now:Nat)=A:=⟨_,rfl⟩;have hA0:1<=A/\A<=200000:=by
  have h1:=z.un;have h2:=z.w1;rw[<-hA];unfold jy;split<;>omega
 obtain⟨n,hn⟩:∃n,NumL.jt l.length=n:=⟨_,rfl⟩;rw[hsz] at hf;rw[hn] at hf;rw[hl] at hpk ⊢;rw[hsz,hn] at hpk;have hn1:n<=16383:=by rw[<-hn];unfold NumL.jt;omega
 have hrt:qu 4 ((1+n:Nat):Int) 0=true:=JV (by omega);have hX:=MX.of (s:=⟨now,old⟩) m z;have HX:=hid hX;have HPK:=hid hpk;have HA:=hid hA;have HN:=hid hn;have HRT:=hid hrt;have HF:=hid hf;have HSZ:=hid hsz;have hdl:decide ((131064:Int)<(s.size:Int))=false:=decide_eq_false (by omega);clear m hpk hA hX hl hn hrt z;go_enter Tryz.func116,Tryz.ntmps116;go_wp2_with fail;refine HPK.out.mono ?_;rintro e w1 ⟨v,rfl,hrow,hb1⟩;obtain⟨va,vc,rfl,hwv,hvg⟩:=wordsV_own1 hrow (by rw[NumL.qG,HN.out]) (by omega) (fun x hx=>word_lt hx);have HWV:=hid hwv;have HROW:=hid hrow;have hX1:MX w (Own b R) b W h ⟨now,old⟩ w1 R:=HX.out.kept (X:=fun _=>False) (Fr.of_below hb1) (fun _ _ q=>q) (fun _ q=>q.elim);have HX1:=hid hX1;have HVG:=hid (show∀g off,va=some ⟨g,off,none⟩->¬Own b R g from fun g off e q=>by
  have h1:=(hrow.lt g (hvg g off e)).1;have h2:=HX.out.m.own_lt g q;omega)
 have HAL:=hid (alloc_to hX1.m hX1.z 4 (1+n) 0 4 (1+(n:Int)) 0 A rfl (by omega) rfl HA.out HRT.out (by have:=HF.out;omega));clear hrow hb1 hwv hvg hX1;go_wp2_with fail;refine HAL.out.mono ?_;rintro e w2 ⟨rfl,R2,m2,s2,f2⟩;have hX2:=HX1.out.allocd HRT.out (by have:=HF.out;omega) m2 s2 f2;have hidx:∀ob:Ob,ob.ws.length=1+n->jm (now++[ob]) h W A=some now.length:=fun ob ho=>by
  have:=Zp (os:=now++[ob]) (h:=h) (W:=W) (j:=now.length) (by simp);rw[Je _ _ _ (zqg _),qX,HA.out] at this;exact this
 have hget:∀ob:Ob,(now++[ob])[now.length]?=some ob:=fun ob=>by simp
 have hput:∀(ob o2:Ob),(now++[ob]).set now.length o2=now++[o2]:=fun ob o2=>by simp
 have hnl:(zI 4 (1+n) 0).ws.length=1+n:=QM (Nat.zero_le _);have HST:=hid (Z4 hX2.m hX2.z A 0 l.length (by omega) (hidx _ hnl) (hget _) (by rw[hnl];omega));have HX2:=hid hX2;have HIDX:=hid hidx;have HGET:=hid hget;have HPUT:=hid hput;have HV2:=hid (wordsV_frm HWV.out f2 (fun g off e q=>HVG.out g off e q));have HVG2:=hid (show∀g off,va=some ⟨g,off,none⟩->¬Own b R2 g from fun g off e q=>by
  rcases s2 g q with q|q
  ·exact HVG.out g off e q
  ·obtain⟨x,hx⟩|hne:(∃x,(NumL.zy l)[0]?=some x)\/NumL.zy l=[]:=by
    cases hp:NumL.zy l with
    |nil=>exact .inr rfl
    |cons x xs=>exact .inl ⟨x,rfl⟩
   ·obtain⟨g',off',e1,h1,_⟩:=HWV.out.cell 0 x hx
    rw[e] at e1;injection e1 with e1;injection e1 with e1 _ _;subst e1;omega
   ·have:=(HROW.out.lt g (by rw[e];rfl)).2
    omega)
 have hws:((l.length:Int))<=131064:=by have:=HSZ.out;omega
 clear hX2 hidx hget hput hnl m2 s2 f2 HPK HAL;have hlen:(s.size:Int)=(l.length:Int):=by have:=HSZ.out;omega
 go_wp2_with fail;refine HST.out.mono ?_;rintro e w3 ⟨rfl,m3,f3⟩;have hX3:=HX2.out.stored (HGET.out _) (by have:=HSZ.out;omega) m3 f3;rw[HPUT.out,<-HN.out,txtP_new,HN.out] at hX3;have HX3:=hid (show MX w (Own b R) b W h ⟨now++[txtP l 0],old⟩ w3 R2 from hX3);have HV3:=hid (wordsV_frm HV2.out f3 (fun g off e q=>HVG2.out g off e q));clear hX3 m3 f3 HST;go_wp2_with fail;go_loopw [37] (fun i wr=>∃k:Nat,k<=n/\i=.int .i64 k/\MX w (Own b R) b W h ⟨now++[txtP l k],old⟩ wr R2/\J9 wr va n (NumL.zy l)) (fun i _=>n-(intOf i).toNat)
 case atStart=>exact⟨0,Nat.zero_le _,rfl,HX3.out,HV3.out⟩
 case round=>
  obtain⟨k,hk,rfl,hX,hV⟩:=hrel;by_cases hlt:k<n
  ·obtain⟨x,hx⟩:∃x,(NumL.zy l)[k]?=some x:=⟨_,List.getElem?_eq_getElem (by rw[NumL.qG,HN.out];exact hlt)⟩
   obtain⟨g,off,hva,hg,hcl⟩:=hV.cell k x hx;have hlen2:=txtP_len (l:=l) (k:=k) (by rw[HN.out];exact hk);rw[HN.out] at hlen2;have HST:=hid (Z4 hX.m hX.z A (1+k) x (by omega) (HIDX.out _ (by omega)) (HGET.out _) (by rw[hlen2];omega));have hx64:=word_lt (zqc hx);have HX:=hid hX;have HV:=hid hV;have HXX:=hid hx;have hk0:(0:Int)<=k:=by omega
   have hk1:(k:Int)<n:=by omega
   have hcast:((1+k:Nat):Int)=1+(k:Int):=by omega
   rw[hcast] at HST;subst hva;clear hX hV hx hg hlen2 hcast;go_wp2_with fail;refine HST.out.mono ?_;rintro e w4 ⟨rfl,m4,f4⟩;have hX4:=HX.out.stored (HGET.out _) hx64 m4 f4;rw[HPUT.out,txtP_set (by rw[HN.out];exact hlt) HXX.out] at hX4;have HX4:=hid (show MX w (Own b R) b W h ⟨now++[txtP l (k+1)],old⟩ w4 R2 from hX4);have HV4:=hid (wordsV_frm HV.out f4 (fun g off e q=>HVG2.out g off e q));clear hX4 m4 f4;go_wp2_with fail;go_roundw
   case rel=>exact⟨k+1,hlt,by go_num,HX4.out,HV4.out⟩
   case measure=>simp[intOf];omega
  ·obtain rfl:k=n:=by omega
   rw[<-HN.out,txtP_full] at hX;have HX:=hid hX;have HPT:=hid (show Calls prog 82 #[.int .i64 A] wr fun e w'=>e=.returned (.int .u64 (J5 A))/\w'=wr from(ptr_any A wr).mono fun e w' ⟨h1,h2⟩=>⟨h1,h2.symm⟩);clear hX hV;go_wp2_with fail;refine HPT.out.mono ?_;rintro e w5 ⟨rfl,hw5⟩;subst w5;go_wp2_with fail;go_ret2;exact⟨by rw[HA.out];rfl,R2,HX.out⟩
end
section
variable {w:World} {b W h:Nat} {now old:List Ob} {R:Nat->Value}
theorem gettext_miss (m:zv w b W h R now old) (z:WF W h now old) (n:Nat) (hn:n<18446744073709551616) (hi:jm now h W (jc (n:Int))=none):
  Calls prog 167 #[.pointer (some ⟨b,0,none⟩),.int .u64 (n:Int)] w fun e w'=>e=.returned (.tuple #[.string ⟨#[]⟩,.int .i64 40])/\Below w.heap.size w w':=by
 have HTP:=hid (show Calls _ _ _ _ (fun e w'=>e=.returned (.int .i64 (jc (n:Int)))/\w'=w) from(jO (n:Int) w (by omega) (by omega)).mono fun e w' ⟨h1,h2⟩=>⟨h1,h2.symm⟩);have hpb:jc (n:Int)<=1099511627776:=by unfold jc;split<;>omega
 have HLK:=hid (qE m z _ (by omega) hi);obtain⟨A,hA⟩:∃A,jc (n:Int)=A:=⟨_,rfl⟩;rw[hA] at HTP HLK;clear m z hi hpb hA;go_enter Tryz.func167,Tryz.ntmps167;go_wp2_with fail;refine HTP.out.mono ?_;rintro e w' ⟨rfl,hw⟩;subst w';go_wp2_with fail;refine HLK.out.mono ?_;rintro e w1 ⟨rfl,q,hw1⟩;have HB:=hid (show Below w.heap.size w w1 from by rw[hw1];exact Below.drewN' (Below.refl _ _) q);clear hw1;go_wp2_with fail;go_ret2;exact⟨rfl,HB.out⟩
end
section
variable {w:World} {b W h:Nat} {now old:List Ob} {R:Nat->Value}
def GotT (ws:List Nat) (a:Nat) (e:Ending):Prop:=(NumL.UOk ws a/\e=.returned (.tuple #[.string ⟨(NumL.z5 ws a).toArray⟩,.int .i64 0]))\/(¬NumL.UOk ws a/\e=.returned (.tuple #[.string ⟨#[]⟩,.int .i64 50]))
theorem gettext_hit (m:zv w b W h R now old) (z:WF W h now old) (n:Nat) (hn:n<18446744073709551616) {j a:Nat} {o:Ob} {ws:List Nat} (hi:jm now h W (jc (n:Int))=some j) (ho:now[j]?=some o) (hk:o.k=4) (hws:o.ws=a::ws) (ha:a<=131064):
  Calls prog 167 #[.pointer (some ⟨b,0,none⟩),.int .u64 (n:Int)] w fun e w'=>GotT ws a e/\Below w.heap.size w w':=by
 obtain⟨i0,hi0,hz0,hz1,hz2⟩:=info_parts infoU64;have HTP:=hid (show Calls _ _ _ _ (fun e w'=>e=.returned (.int .i64 (jc (n:Int)))/\w'=w) from(jO (n:Int) w (by omega) (by omega)).mono fun e w' ⟨h1,h2⟩=>⟨h1,h2.symm⟩);have hpb:jc (n:Int)<=1099511627776:=by unfold jc;split<;>omega
 have HLK:=hid (JC m z _ (by omega) hi ho);have hob:=z.okn o (zqc ho);have hbd:=zW hob.right;obtain⟨_,_,_,hsz,_,_⟩:=hbd;have HLD:=hid (fun(W1:World) (hb:Below w.heap.size w W1) (i:Nat) (hi':i<o.ws.length)=>load_hit (m.below hb) z (jc (n:Int)) i (by omega) hi ho hi');obtain⟨A,hA⟩:∃A,jc (n:Int)=A:=⟨_,rfl⟩;rw[hA] at HTP HLK HLD;have hkk:(((o.k:Nat):Int) !=4)=false:=by rw[hk];rfl
 have hd:decide ((131064:Int)<(a:Int))=false:=decide_eq_false (by omega);have hwd:∀x∈ws,x<18446744073709551616:=fun x hx=>hob.word x (by rw[hws];exact List.mem_cons_of_mem _ hx);have HWD:=hid hwd;obtain⟨L,hL⟩:∃L,ws.length=L:=⟨_,rfl⟩;have hlen:o.ws.length=L+1:=by rw[hws,List.length_cons,hL]
 rw[hlen] at HLK HLD hsz;have HLL:=hid hL;have HWS:=hid hws;have hL2:L<=16383:=by omega
 clear m z hi hpb hA ho hk hws hob hwd hL hlen hsz;go_enter Tryz.func167,Tryz.ntmps167;go_wp2_with fail;refine HTP.out.mono ?_;rintro e w' ⟨rfl,hw⟩;subst w';go_wp2_with fail;refine HLK.out.mono ?_;rintro e w1 ⟨rfl,q,hw1⟩;have HB1:=hid (show Below w.heap.size w w1 from by rw[hw1];exact Below.drewN' (Below.refl _ _) q);have HL0:=hid (HLD.out w1 HB1.out 0 (by omega));rw[HWS.out] at HL0;have HL1:=hid (show Calls _ _ _ w1 (fun e w'=>e=.returned (.tuple #[.int .u64 (a:Int),.int .i64 0])/\∃n,w'=w1.drewN n) from HL0.out);clear hw1 HL0;go_wp2_with fail;refine HL1.out.mono ?_;rintro e w2 ⟨rfl,q2,hw2⟩;have HB2:=hid (show Below w.heap.size w w2 from by rw[hw2];exact Below.drewN' HB1.out q2);clear hw2;go_wp2_with fail;go_loopw [13,14] (fun v i wr=>∃k:Nat,k<=L/\i=.int .i64 ((k:Int)+1)/\wr.ownsRow w.heap.size 65 1 v k (u64s (ws.take k))/\Below w.heap.size w wr) (fun _ i _=>L+1-(intOf i).toNat)
 case atStart=>exact⟨0,Nat.zero_le _,rfl,World.ownsRow_nil _ _ _ _,HB2.out⟩
 case round=>
  obtain⟨k,hk,rfl,hrow,hb⟩:=hrel;by_cases hlt:k<L
  ·obtain⟨x,hx⟩:∃x,ws[k]?=some x:=⟨_,List.getElem?_eq_getElem (by rw[HLL.out];exact hlt)⟩
   have hl:=HLD.out wr hb (k+1) (by omega);rw[HWS.out,show(a::ws).getD (k+1) 0=x from by rw[List.getD_cons_succ,List.getD_eq_getElem?_getD,hx];rfl,show((k+1:Nat):Int)=(k:Int)+1 by omega] at hl;have HL:=hid hl;obtain⟨va,vc,rfl,hvc,hvc2⟩:=own_shape5 (JA hrow (Nat.zero_le _));have HROW:=hid hrow;have HB:=hid hb;have HSN:=hid (show u64s (ws.take (k+1))=u64s (ws.take k)++[.int .u64 (x:Int)] from by
    obtain⟨h1,rfl⟩:=zqb hx;rw[List.take_succ_eq_append_getElem h1];simp only[u64s,List.map_append,List.map_cons,List.map_nil])
   clear hx hl hrow hb;go_wp2_with fail;refine HL.out.mono ?_;rintro e w4 ⟨rfl,q4,hw4⟩;have HB4:=hid (show Below w.heap.size w w4 from by rw[hw4];exact Below.drewN' HB.out q4);have HROW4:=hid (show w4.ownsRow w.heap.size 65 1 (.slice va k vc) k (u64s (ws.take k)) from by rw[hw4];exact HROW.out);have hs4:=HB4.out.size;clear hw4;go_wp2_with (at_builtin;refine wpList_append_own_at _ rfl _ _ 51 rfl w.heap.size 65 i0 (.int .u64 0) 1 8 Tryz.underlying51 hi0 hz0 hz1 hz2 rfl (by decide) (.slice va k vc) _ _ rfl (HROW4.out.alloc _) ⟨w4.heap.size,0,none⟩ 1 1 [.int .u64 (x:Int)] rfl rfl (cell_one_new _ _ _) (by simp[Value.oneCell']) (by unfold maxLen;omega) (by omega) (by simp;omega) ?_;intro v7 w7 hown7 hgrow7 _ hblk7;rw[<-HSN.out] at hown7;have HO7:=hid hown7;have HB7:=hid ((HB4.out.alloc HB4.out.size _).grown hgrow7 (by simp;omega) (fun j hj=>(HROW4.out.lt j hj).1));clear hown7 hgrow7 hblk7);go_roundw
   case rel=>exact⟨k+1,hlt,by go_num,HO7.out,HB7.out⟩
   case measure=>simp[intOf];omega
  ·obtain rfl:k=L:=by omega
   obtain⟨va,vc,rfl,hvc,hvc2⟩:=own_shape5 (JA hrow (Nat.zero_le _));rw[List.take_of_length_le (by rw[HLL.out];exact zqg _)] at hrow;have HB:=hid hb;have hwo:=NumL.Words.of_own (show wr.ownsRow w.heap.size 65 1 (.slice va k vc) ws.length (u64s ws) from by rw[HLL.out];exact hrow);by_cases hu:NumL.UOk ws a
   ·have HUN:=hid (NumL.unpack_yes (.slice va k vc) ws a (by omega) hu wr hwo)
    have HU:=hid hu;clear hb hwo hrow hu;go_wp2_with fail;refine HUN.out.mono ?_;rintro e w5 ⟨rfl,hb5⟩;have HB5:=hid (HB.out.trans (hb5.mono HB.out.size));clear hb5;go_wp2_with fail;go_ret2;exact⟨.inl ⟨HU.out,rfl⟩,HB5.out⟩
   ·have HUN:=hid (NumL.unpack_err (.slice va k vc) ws a (by omega) hu wr hwo)
    have HU:=hid hu;clear hb hwo hrow hu;go_wp2_with fail;refine HUN.out.mono ?_;rintro e w5 ⟨rfl,hw5⟩;subst w5;go_wp2_with fail;go_ret2;exact⟨.inr ⟨HU.out,rfl⟩,HB.out⟩
end
section
variable {w:World} {b W h:Nat} {now old:List Ob} {R:Nat->Value}
theorem Jz (x:Bool) (w:World):Calls prog 159 #[.bool x] w fun e w'=>e=.returned (.int .i64 (if x then 1 else 0))/\w'=w:=by
 cases x
 ·go_enter Tryz.func159,Tryz.ntmps159
  go_wp2;go_ret;exact⟨rfl,rfl⟩
 ·go_enter Tryz.func159,Tryz.ntmps159
  go_wp2;go_ret;exact⟨rfl,rfl⟩
def Qo (k:Nat):Bool:=k==3||k==5
theorem iscode_is (k:Nat) (w:World):Calls prog 160 #[.int .i64 (k:Int)] w fun e w'=>e=.returned (.bool (Qo k))/\w'=w:=by
 by_cases h3:k=3
 ·subst h3
  go_enter Tryz.func160,Tryz.ntmps160;go_wp2;go_ret;exact⟨rfl,rfl⟩
 ·have h1:((k:Int)==3)=false:=by simp;omega
  have h2:Qo k=((k:Int)==5):=by unfold Qo;rw[show(k==3)=false from by simp[h3],Bool.false_or,Bool.eq_iff_iff];simp;omega
  rw[h2];go_enter Tryz.func160,Tryz.ntmps160;go_wp2;go_ret;exact⟨rfl,rfl⟩
theorem Zf (m:zv w b W h R now old) (z:WF W h now old) (a:Int) (i:Nat) (ha2:a<=9223372036854775807) {j:Nat} {o:Ob} (hi:jm now h W a=some j) (ho:now[j]?=some o) (hr:i<o.ws.length):
  Calls prog 124 #[.pointer (some ⟨b,0,none⟩),.int .i64 a,.int .i64 i] w fun e w'=>e=.returned (.int .u64 (o.ws.getD i 0:Nat))/\∃n,w'=w.drewN n:=by
 have HL:=hid (load_hit m z a i ha2 hi ho hr);clear m z hi ho hr;go_enter Tryz.func124,Tryz.ntmps124;go_wp2_with fail;refine HL.out.mono ?_;rintro e w1 ⟨rfl,q,hw1⟩;subst w1;go_wp2_with fail;go_ret;exact⟨rfl,q,rfl⟩
theorem samefields_is (m:zv w b W h R now old) (z:WF W h now old) (A B:Int) (n:Nat) (hA:A<=9223372036854775807) (hB:B<=9223372036854775807) {i j:Nat} {x y:Ob} (hi:jm now h W A=some i) (hx:now[i]?=some x) (hj:jm now h W B=some j) (hy:now[j]?=some y) (hxn:x.ws.length=n) (hyn:y.ws.length=n) (hn:n<=100000):
  Calls prog 161 #[.pointer (some ⟨b,0,none⟩),.int .i64 A,.int .i64 B,.int .i64 (n:Int)] w fun e w'=>e=.returned (.bool (decide (x.ws=y.ws)))/\∃n,w'=w.drewN n:=by
 have HFA:=hid (fun q k (hk:k<n)=>Zf (m.drewN q) z A k hA hi hx (by omega));have HFB:=hid (fun q k (hk:k<n)=>Zf (m.drewN q) z B k hB hj hy (by omega));obtain⟨xs,hxs⟩:∃xs,x.ws=xs:=⟨_,rfl⟩;obtain⟨ys,hys⟩:∃ys,y.ws=ys:=⟨_,rfl⟩;rw[hxs] at HFA hxn;rw[hys] at HFB hyn;rw[hxs,hys];have HXN:=hid hxn;have HYN:=hid hyn;clear m z hi hx hj hy hxs hys hxn hyn hA hB;go_enter Tryz.func161,Tryz.ntmps161;go_wp2_with fail;go_loopw [11] (fun i wr=>∃k:Nat,k<=n/\i=.int .i64 k/\xs.take k=ys.take k/\∃q,wr=w.drewN q) (fun i _=>n-(intOf i).toNat)
 case atStart=>exact⟨0,Nat.zero_le _,rfl,rfl,0,rfl⟩
 case round=>
  obtain⟨k,hk,rfl,hek,q,rfl⟩:=hrel;by_cases hlt:k<n
  ·have HA:=hid (HFA.out q k hlt)
   have hb0:∀q2,Calls prog 124 #[.pointer (some ⟨b,0,none⟩),.int .i64 B,.int .i64 (k:Int)] (w.drewN (q+q2)) fun e w'=>e=.returned (.int .u64 (ys.getD k 0:Nat))/\∃n,w'=(w.drewN (q+q2)).drewN n:=fun q2=>HFB.out (q+q2) k hlt;have HB:=hid hb0;have HEK:=hid hek;have hk1:(k:Int)<n:=by omega
   obtain⟨u,hu⟩:∃u,xs.getD k 0=u:=⟨_,rfl⟩;obtain⟨v,hv⟩:∃v,ys.getD k 0=v:=⟨_,rfl⟩;rw[hu] at HA;rw[hv] at HB;have hu':xs[k]?=some u:=by rw[List.getD_eq_getElem?_getD] at hu;rw[List.getElem?_eq_getElem (by rw[HXN.out];exact hlt)] at hu ⊢;simp at hu;rw[hu]
   have hv':ys[k]?=some v:=by rw[List.getD_eq_getElem?_getD] at hv;rw[List.getElem?_eq_getElem (by rw[HYN.out];exact hlt)] at hv ⊢;simp at hv;rw[hv]
   have HU:=hid hu';have HV:=hid hv';clear hb0 hek hu hv hu' hv';by_cases huv:u=v
   ·have huv2:((u:Int) !=(v:Int))=false:=by simp;omega
    go_wp2_with fail;refine HA.out.mono ?_;rintro e w2 ⟨rfl,q2,hw2⟩;subst w2;go_wp2_with fail;refine(HB.out q2).mono ?_;rintro e w3 ⟨rfl,q3,hw3⟩;subst w3;go_wp2_with fail;go_roundw
    case rel=>
     refine⟨k+1,hlt,by go_num,?_,?_⟩
     ·obtain⟨h1,h2⟩:=zqb HU.out
      obtain⟨h3,h4⟩:=zqb HV.out;rw[List.take_succ_eq_append_getElem h1,List.take_succ_eq_append_getElem h3,HEK.out,h2,h4,huv]
     ·exact⟨_,rfl⟩
    case measure=>simp[intOf];omega
   ·have huv2:((u:Int) !=(v:Int))=true:=by simp;omega
    have HNE:=hid huv;clear huv;go_wp2_with fail;refine HA.out.mono ?_;rintro e w2 ⟨rfl,q2,hw2⟩;subst w2;go_wp2_with fail;refine(HB.out q2).mono ?_;rintro e w3 ⟨rfl,q3,hw3⟩;subst w3;go_wp2_with fail;go_ret;refine⟨?_,?_⟩
    ·exact congrArg (fun x:Bool=>Ending.returned (.bool x)) (decide_eq_false (fun he=>by
      have h1:=HU.out;rw[he,HV.out] at h1;exact HNE.out (zqd h1).symm)).symm
    ·exact⟨_,rfl⟩
  ·obtain rfl:k=n:=by omega
   rw[List.take_of_length_le (by rw[HXN.out];exact zqg _),List.take_of_length_le (by rw[HYN.out];exact zqg _)] at hek;have HEK:=hid hek;clear hek;go_wp2_with fail;go_ret;exact⟨congrArg (fun x:Bool=>Ending.returned (.bool x)) (decide_eq_true HEK.out).symm,q,rfl⟩
def lookO (x y:Ob) (p q:Int):Int×Int:=
 if Qo x.k=true\/Qo y.k=true then(2,0)
 else if x.k≠y.k then(0,0)
 else if x.k=2 then(if p=q then 1 else 0,0)
 else if x.ws.length≠y.ws.length then(0,0)
 else if x.k=4 then(if x.ws=y.ws then 1 else 0,0)
 else(-1,x.ws.length)
theorem look_obj (m:zv w b W h R now old) (z:WF W h now old) (a c:Nat) (ha:a<18446744073709551616) (hc:c<18446744073709551616) (hea:jj (a:Int)=false) (hec:jj (c:Int)=false) {i j:Nat} {x y:Ob} (hi:jm now h W (jc (a:Int))=some i) (hx:now[i]?=some x) (hj:jm now h W (jc (c:Int))=some j) (hy:now[j]?=some y):
  Calls prog 123 #[.pointer (some ⟨b,0,none⟩),.int .u64 (a:Int),.int .u64 (c:Int)] w fun e w'=>e=.returned (.tuple #[.int .i64 (lookO x y (jc (a:Int)) (jc (c:Int))).1,.int .i64 (lookO x y (jc (a:Int)) (jc (c:Int))).2,.int .i64 0])/\∃n,w'=w.drewN n:=by
 have HTA:=hid (show Calls _ _ _ _ (fun e w'=>e=.returned (.int .i64 (jc (a:Int)))/\w'=w) from(jO (a:Int) w (by omega) (by omega)).mono fun e w' ⟨h1,h2⟩=>⟨h1,h2.symm⟩);have HTC:=hid (show Calls _ _ _ _ (fun e w'=>e=.returned (.int .i64 (jc (c:Int)))/\w'=w) from(jO (c:Int) w (by omega) (by omega)).mono fun e w' ⟨h1,h2⟩=>⟨h1,h2.symm⟩);have hpa:jc (a:Int)<=1099511627776:=by unfold jc;split<;>omega
 have hpc:jc (c:Int)<=1099511627776:=by unfold jc;split<;>omega
 have HLA:=hid (JC m z _ (by omega) hi hx);have HLC:=hid (fun q=>JC (m.drewN q) z _ (by omega) hj hy);have HIA:=hid (fun W1:World=>show Calls _ _ _ W1 (fun e w'=>e=.returned (.bool false)/\w'=W1) from(jZ (a:Int) W1 (by omega) (by omega)).mono fun e w' ⟨h1,h2⟩=>⟨by rw[h1,hea],h2.symm⟩);have HIC:=hid (fun W1:World=>show Calls _ _ _ W1 (fun e w'=>e=.returned (.bool false)/\w'=W1) from(jZ (c:Int) W1 (by omega) (by omega)).mono fun e w' ⟨h1,h2⟩=>⟨by rw[h1,hec],h2.symm⟩);have HSF:=hid (fun q (n:Nat) (h1:x.ws.length=n) (h2:y.ws.length=n) (h3:n<=100000)=>samefields_is (m.drewN q) z (jc (a:Int)) (jc (c:Int)) n (by omega) (by omega) hi hx hj hy h1 h2 h3);have hxl:x.ws.length<=100000:=by
  obtain⟨_,_,_,h1,_,_⟩:=zW (z.okn x (zqc hx)).right;omega
 obtain⟨A,hA⟩:∃A,jc (a:Int)=A:=⟨_,rfl⟩;obtain⟨C,hC⟩:∃C,jc (c:Int)=C:=⟨_,rfl⟩;rw[hA] at HTA HLA HSF;rw[hC] at HTC HLC HSF;rw[hA,hC];obtain⟨P,hP⟩:∃P,lookO x y A C=P:=⟨_,rfl⟩;rw[hP];unfold lookO at hP;have HXL:=hid hxl;clear m z hi hx hj hy hA hC hea hec hpa hpc hxl;go_enter Tryz.func123,Tryz.ntmps123;go_wp2_with fail;refine HTA.out.mono ?_;rintro e w' ⟨rfl,hw⟩;subst w';go_wp2_with fail;refine HTC.out.mono ?_;rintro e w' ⟨rfl,hw⟩;subst w';go_wp2_with fail;refine HLA.out.mono ?_;rintro e w1 ⟨rfl,q,hw1⟩;subst w1;go_wp2_with fail;refine(HLC.out q).mono ?_;rintro e w2 ⟨rfl,q2,hw2⟩;subst w2;go_wp2_with fail;refine(HIA.out _).mono ?_;rintro e w' ⟨rfl,hw⟩;subst w';go_wp2_with fail;refine(HIC.out _).mono ?_;rintro e w' ⟨rfl,hw⟩;subst w';go_wp2_with fail;refine(iscode_is x.k _).mono ?_;rintro e w' ⟨rfl,hw⟩;subst w';by_cases hcx:Qo x.k=true
 ·rw[if_pos (.inl hcx)] at hP
  rw[hcx];go_wp2_with fail;go_ret3;exact⟨by subst hP;rfl,_,rfl⟩
 have hcx:Qo x.k=false:=by simpa using hcx
 rw[hcx];go_wp2_with fail;refine(iscode_is y.k _).mono ?_;rintro e w' ⟨rfl,hw⟩;subst w';by_cases hcy:Qo y.k=true
 ·rw[if_pos (.inr hcy)] at hP
  rw[hcy];go_wp2_with fail;go_ret3;exact⟨by subst hP;rfl,_,rfl⟩
 have hcy:Qo y.k=false:=by simpa using hcy
 rw[if_neg (by rw[hcx,hcy];rintro(q|q)<;>cases q)] at hP;rw[hcy];by_cases hk:x.k≠y.k
 ·rw[if_pos hk] at hP
  have hk2:((x.k:Int) !=(y.k:Int))=true:=by simp;omega
  go_wp2_with fail;go_ret3;exact⟨by subst hP;rfl,_,rfl⟩
 rw[if_neg hk] at hP;have hk:x.k=y.k:=Classical.not_not.1 hk;have hk2:((x.k:Int) !=(y.k:Int))=false:=by simp;omega
 clear hk;by_cases hr:x.k=2
 ·rw[if_pos hr] at hP
  have hr2:((x.k:Int)==2)=true:=by simp;omega
  by_cases hac:A=C
  ·rw[if_pos hac] at hP
   have hac2:(A==C)=true:=by simp[hac]
   go_wp2_with fail;refine(Jz true _).mono ?_;rintro e w' ⟨rfl,hw⟩;subst w';go_wp2_with fail;go_ret3;exact⟨by subst hP;rfl,_,rfl⟩
  ·rw[if_neg hac] at hP
   have hac2:(A==C)=false:=by simp[hac]
   go_wp2_with fail;refine(Jz false _).mono ?_;rintro e w' ⟨rfl,hw⟩;subst w';go_wp2_with fail;go_ret3;exact⟨by subst hP;rfl,_,rfl⟩
 rw[if_neg hr] at hP;have hr2:((x.k:Int)==2)=false:=by simp;omega
 by_cases hl:x.ws.length≠y.ws.length
 ·rw[if_pos hl] at hP
  have hl2:((x.ws.length:Int) !=(y.ws.length:Int))=true:=by simp;omega
  go_wp2_with fail;go_ret3;exact⟨by subst hP;rfl,_,rfl⟩
 rw[if_neg hl] at hP;have hl:x.ws.length=y.ws.length:=Classical.not_not.1 hl;have hl2:((x.ws.length:Int) !=(y.ws.length:Int))=false:=by simp;omega
 by_cases h4:x.k=4
 ·rw[if_pos h4] at hP
  have h42:((x.k:Int)==4)=true:=by simp;omega
  have hs0:=HSF.out (q+q2) _ rfl hl.symm HXL.out;clear hl;by_cases hac:x.ws=y.ws
  ·rw[if_pos hac] at hP
   rw[decide_eq_true hac] at hs0;have HS:=hid hs0;clear hs0 hac;go_wp2_with fail;refine HS.out.mono ?_;rintro e w8 ⟨rfl,q8,hw8⟩;subst w8;go_wp2_with fail;refine(Jz (true) _).mono ?_;rintro e w7 ⟨rfl,hw⟩;subst w7;go_wp2_with fail;go_ret3;exact⟨by subst hP;rfl,_,rfl⟩
  ·rw[if_neg hac] at hP
   rw[decide_eq_false hac] at hs0;have HS:=hid hs0;clear hs0 hac;go_wp2_with fail;refine HS.out.mono ?_;rintro e w3 ⟨rfl,q3,hw3⟩;subst w3;go_wp2_with fail;refine(Jz false _).mono ?_;rintro e w' ⟨rfl,hw⟩;subst w';go_wp2_with fail;go_ret3;exact⟨by subst hP;rfl,_,rfl⟩
 rw[if_neg h4] at hP;clear hl;have h42:((x.k:Int)==4)=false:=by simp;omega
 go_wp2_with fail;go_ret3;exact⟨by subst hP;rfl,_,rfl⟩
end
section
open Go Go.RowKit IsaL
def Jc (now:List Ob) (h W j:Nat):Nat:=2*(jy h W (jd now j:Nat)).toNat
def JL (x:I5):Nat:=(Qr x.1 x.2.1 x.2.2.1 x.2.2.2.1 x.2.2.2.2).toNat
def jC (A:Nat->Nat) (o:RObj):Ob:=if o.k=4 then zn o.tx.data.toList else⟨o.k,o.ws.length,o.ws.map (jz A)++o.ins.map JL,0⟩
structure ObjR (o:RObj):Prop where
 kd:(o.k=1\/o.k=2\/o.k=3)/\o.ins=[]/\1<=o.ws.length/\(o.k=2->o.ws.length=1)/\o.ws.length<=16384\/o.k=4/\o.ws=[]/\o.ins=[]/\o.tx.size<=131064\/o.k=5/\Okl o.ins/\o.ws.length+o.ins.length<=16384
 nt:o.k≠4->o.tx=⟨#[]⟩
theorem QY (o:RObj) (A:Nat->Nat):1+(jC A o).ws.length=o.words:=by
 unfold jC RObj.words;by_cases e:o.k=4
 ·rw[if_pos e,if_pos e]
  show 1+(o.tx.data.toList.length::NumL.zy o.tx.data.toList).length=_;rw[List.length_cons,NumL.qG];unfold NumL.jt;simp only[Array.length_toList];show 1+(_+1)=2+(o.tx.data.size+7)/8;omega
 ·rw[if_neg e,if_neg e]
  simp only[List.length_append,List.length_map];omega
theorem ObjR.tag {o:RObj} (h:ObjR o) (A:Nat->Nat):(jC A o).ws.take (jC A o).t=o.ws.map (jz A):=by
 unfold jC;by_cases e:o.k=4
 ·rw[if_pos e]
  have:o.ws=[]:=by
   rcases h.kd with⟨q,_⟩|⟨_,q,_⟩|⟨q,_⟩
   ·omega
   ·exact q
   ·omega
  rw[this];rfl
 ·rw[if_neg e]
  show(o.ws.map (jz A)++_).take o.ws.length=_;rw[List.take_append_of_le_length (by simp),List.take_of_length_le (by simp)]
structure FrS (A:Nat->Nat) (os:List RObj) (F:List RFm) (fr:List Fm):Prop where
 len:fr.length=F.length
 nth:∀j x y,F[j]?=some x->fr[j]?=some y->y.code=jz A x.code/\y.place=x.place/\y.base=((F.take j).map fun z=>z.slots.length).sum/\∃i o,x.code=.P i/\os[i]?=some o/\o.k=5/\y.lits=o.ws.length/\y.ins=o.ins.length
structure Sim (M:RM) (C:CM) (D:Nat->Prop) (f A:Nat->Nat):Prop where
 ad:∀i,A i=Jc C.now C.h C.W (f i)
 ob:∀i,D i->∃o,M.objs[i]?=some o/\ObjR o/\C.now[f i]?=some (jC A o)
 inj:∀i j,D i->D j->f i=f j->i=j
 cl:∀i,D i->∀k,RWd.P k∈z7 M.objs i->D k
 rt:∀k,RWd.P k∈jr M->D k
 wr:∀v∈jr M,Wr v
 wo:∀i,D i->∀v∈z7 M.objs i,Wr v
 rg:∀k,k<16->C.rg k=jz A (M.rg k)
 gl:∀k,k<1024->C.gl k=jz A (M.gl k)
 us:∀k,C.us<=k->k<1024->M.gl k=.I 0
 cd:C.cd=jz A M.entry
 va:C.va=jz A M.value
 fr:FrS A M.objs M.frs C.fr
 sl:C.sl=(M.frs.flatMap fun x=>x.slots).map (jz A)
 ha:C.ha=M.has
 lim:M.limit=C.W
 stk:M.stack=C.S
 ul:C.us<=1024
 s1:C.S<=30000
 pl:∀x∈M.frs,-8589934592<=x.place/\x.place<=8589934592
 hf:∀p∈M.has,p.1<M.frs.length
 hp:∀p∈M.has,-8589934592<=p.2/\p.2<=8589934592
 hs:M.has.Pairwise fun p q=>p.1<=q.1
 ft:qh M<=M.stack
 z:WF C.W C.h C.now C.old
section
variable {M:RM} {C:CM} {D:Nat->Prop} {f A:Nat->Nat}
theorem adW_hit {now old:List Ob} {h W j:Nat} (z:WF W h now old) (hj:j<now.length):qA now h W (Jc now h W j)=some j/\Jc now h W j%2≠1/\2<=Jc now h W j/\Jc now h W j<=262144:=by
 have h1:=Q9 (now:=now) (k:=j) (by omega);have h2:=z.un;have h3:=z.w1;have h4:=ZF h W (jd now j);have h5:jy h W (jd now j:Nat)<=131072:=by
  have:jd now j+1<=used now:=by
   have e:=Zn now hj;omega
  unfold jy;split<;>omega
 unfold Jc;refine⟨?_,by omega,by omega,by omega⟩;unfold qA;have e1:jc ((2*(jy h W (jd now j:Nat)).toNat:Nat):Int)=jy h W (jd now j:Nat):=by
  unfold jc;rw[if_pos (by omega)];omega
 rw[e1];exact Zp hj
theorem Sim.cor (s:Sim M C D f A):Cor M.objs C.now C.h C.W D f A where
 lt:=fun i hi=>by
  obtain⟨o,h1,_⟩:=s.ob i hi;exact(zqb h1).1
 hit:=fun i hi=>by
  obtain⟨o,_,_,h3⟩:=s.ob i hi;rw[s.ad i];exact(adW_hit s.z (zqb h3).1).1
 ev:=fun i hi=>by
  obtain⟨o,_,_,h3⟩:=s.ob i hi;rw[s.ad i];exact(adW_hit s.z (zqb h3).1).2.1
 inj:=s.inj
 fld:=fun i hi=>by
  obtain⟨o,h1,h2,h3⟩:=s.ob i hi;rw[tagW_eq h3,h2.tag];unfold z7;rw[h1]
 cl:=s.cl
theorem Sim.obj (s:Sim M C D f A) {i:Nat} (hi:D i):∃o,M.objs[i]?=some o/\ObjR o/\jB C (A i)=some (jC A o):=by
 obtain⟨o,h1,h2,h3⟩:=s.ob i hi;refine⟨o,h1,h2,?_⟩;unfold jB;have:=s.cor.hit i hi;unfold qA at this;rw[this];exact h3
theorem Sim.need (s:Sim M C D f A):∀(l:List Nat),(∀i∈l,D i)->Jl C.now (l.map f)=qO M.objs l
 |[],_=>rfl
 |i::l,h=>by
  obtain⟨o,h1,_,h3⟩:=s.ob i (h i (by simp));have ih:=Sim.need s l (fun k hk=>h k (List.mem_cons_of_mem _ hk));unfold Go.Proofs.YtklcmdoadmcpfaaGreatDoor.Jl qO at ih ⊢;rw[List.map_cons,List.map_cons,List.map_cons,List.sum_cons,List.sum_cons,ih,h1,h3];show 1+(jC A o).ws.length+_=o.words+_;rw[QY]
theorem Sim.live (s:Sim M C D f A) {ns:List Nat} (h1:∀n∈ns,n∈(jr M).map (jz A)) (h2:∀n∈(jr M).map (jz A),n%2=1\/n∈ns):
  ∃met,zO C.now C.h C.W ns=some met/\Go.Proofs.YtklcmdoadmcpfaaGreatDoor.Jl C.now met=Zj M/\(∀k,RWd.P k∈jr M->f k∈met)/\∀j∈met,∃i,D i/\f i=j:=by
 obtain⟨e1,d1,n1⟩:=s.cor.order (jr M) s.rt;obtain⟨g1,g2⟩:=ZG e1;obtain⟨met,e2,m2⟩:=McG.reach_in (ns:=ns) (fun n hn=>g1 n (h1 n hn)) g2;obtain⟨g3,g4⟩:=ZG e2;obtain⟨met',e3,m3⟩:=McG.reach_in (ns:=(jr M).map (jz A)) (S:=met) (fun n hn=>by
  rcases h2 n hn with q|q
  ·exact .inl q
  ·exact g3 n q) g4
 rw[e1] at e3;obtain rfl:=zqd e3;have o1:=Jr e1;have o2:=Jr e2;refine⟨met,e2,?_,fun k hk=>?_,fun j hj=>?_⟩
 ·have:Go.Proofs.YtklcmdoadmcpfaaGreatDoor.Jl C.now met=Go.Proofs.YtklcmdoadmcpfaaGreatDoor.Jl C.now ((Jw M.objs (jr M)).map f):=Nat.le_antisymm (McG.sum_less o2.nd m2) (McG.sum_less o1.nd m3)
  rw[this];exact s.need _ d1
 ·have:=g1 (A k) (List.mem_map.2 ⟨.P k,hk,rfl⟩)
  rcases this with q|⟨q,j,e,hj⟩
  ·exact absurd q (s.cor.ev k (s.rt k hk))
  ·rw[s.cor.hit k (s.rt k hk)] at e
   rw[zqd e];exact m3 j hj
 ·obtain⟨i,hi,e⟩:=List.mem_map.1 (m2 j hj)
  exact⟨i,d1 i hi,e⟩
end
end
end Go.Proofs.YtklcmdoadmcpfaaGreatDoor
