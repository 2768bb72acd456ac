/- A part of the proof of MachineMoves. Conditions: those that each theorem names. -/
import Derived.Test.YtklcmdoadmcpfaaGreatDoorQ04
import Derived.WalkSmall
import Derived.Lib.QuoteBits
import Derived.RangeFuncNested
import Derived.OwnWalkIn
import Derived.TacticsInMore
import Derived.LoopNIn
import Derived.LoopIn
import Derived.WalkSpells
import Derived.Deep.DrawnRows
set_option maxRecDepth 100000
set_option maxHeartbeats 400000000
namespace Go.Proofs.YtklcmdoadmcpfaaGreatDoor
open Go Go.RowKit
open Go.Lib(hid)
open Go.Proofs.Tryz(prog)
theorem jga (n:Nat) (h:n%2=1) (hn:n<18446744073709551616) (w:World):Calls prog 51 #[.int .u64 n] w fun e w'=>e=.returned (.bool false)/\w'=w:=by
 have hb:(bits BinOp.and IntKind.u64 (n:Int) 1==0)=false:=by rw[and_one_u64 (n:Int) (by omega) (by omega)];exact jab (by omega)
 clear h;go_enter Tryz.func51,Tryz.ntmps51;go_wp2;go_ret;exact⟨rfl,rfl⟩
section
variable (t:Nat) (h0:1<=t) (h1:t<=131072)
include t h0 h1
theorem jeI (w:World):Calls prog 51 #[.int .u64 ((2*t:Nat):Int)] w fun e w'=>e=.returned (.bool true)/\w'=w:=by
 obtain⟨n,hn⟩:∃n:Nat,2*t=n:=⟨_,rfl⟩;rw[hn];have hb:(bits BinOp.and IntKind.u64 (n:Int) 1==0)=true:=by rw[and_one_u64 (n:Int) (by omega) (by omega)];exact jvK (by omega)
 have h2:2<=(n:Int):=by omega
 have h3:(n:Int)<=2199023255552:=by omega
 clear hn;go_enter Tryz.func51,Tryz.ntmps51;go_wp2;go_ret;exact⟨rfl,rfl⟩
theorem jl2 (w:World):Calls prog 90 #[.int .u64 ((2*t:Nat):Int)] w fun e w'=>e=.returned (.int .i64 t)/\w'=w:=by
 have HP:=hid (jeI t h0 h1 w);obtain⟨n,hn⟩:∃n:Nat,2*t=n:=⟨_,rfl⟩;rw[hn] at HP ⊢;have hd:(n:Int)/2=t:=by omega
 have h2:(n:Int)<18446744073709551616:=by omega
 clear hn;go_enter Tryz.func90,Tryz.ntmps90;go_wp2_with fail;refine HP.out.mono ?_;rintro e w' ⟨rfl,rfl⟩;go_wp2_with fail;go_ret;exact⟨rfl,rfl⟩
theorem jaT (w:World):Calls prog 82 #[.int .i64 t] w fun e w'=>e=.returned (.int .u64 ((2*t:Nat):Int))/\w'=w:=by
 have h2:1<=(t:Int):=by omega
 have h3:(t:Int)<=1099511627776:=by omega
 go_enter Tryz.func82,Tryz.ntmps82;go_wp2;go_ret;exact⟨jY (by omega),rfl⟩
end
section
variable {w:World} {b W h k:Nat} {R:Nat->Value} {now old:List Ob}
structure AtO (w:World) (b k:Nat) (R:Nat->Value) (old:List Ob) (j g cap:Nat) (o:Ob):Prop where
 row:w.cell? ⟨b,2+k*2,none⟩=some (.slice (some ⟨g,0,none⟩) (used old) cap)
 val:R (k*2)=.slice (some ⟨g,0,none⟩) (used old) cap
 cap1:used old<=cap
 cap2:cap<=9223372036854775807
 head:w.cell? ⟨g,je old j,none⟩=some (.int .u64 (o.hw:Nat))
 frozen:w.frozen? ⟨g,je old j,none⟩=false
 cells:∀q u,(u64s (o.hw::o.ws))[q]?=some u->w.cell? ⟨g,je old j+q,none⟩=some u
 fits:je old j+o.ws.length<used old
theorem jhr (m:zi w b W h R now old) (hk:k<2) (hne:k≠h) {j:Nat} {o:Ob} (ho:old[j]?=some o):∃g cap,AtO w b k R old j g cap o:=by
 obtain⟨hj,rfl⟩:=zqb ho;have hlt:=ZB old hj;have hlen:(jR h now old (k*2)).length=used old:=by rw[jT,Zv _ _ hne,jL]
 obtain⟨g,cap,hv,hle,hcap⟩:=m.some_row (r:=k*2) (j:=je old j) (by omega) (by rw[hlen];omega);rw[hlen] at hv hle;have hcell:∀c x,c<used old->(za old)[c]?=some x->w.cell? ⟨g,c,none⟩=some (.int .u64 (x:Nat)):=fun c x hc hx=>by
  have h1:=(m.row_cell (r:=k*2) (j:=c) (by omega) (by rw[hlen];exact hc) hv).1;rw[jT,Zv _ _ hne,zqi,hx] at h1;exact h1
 obtain⟨f1,f2⟩:=jfh old hj;refine⟨g,cap,(m.cr (k*2) (by omega)).trans (by rw[hv]),hv,hle,hcap,hcell _ _ (by omega) f1,(m.row_cell (r:=k*2) (j:=je old j) (by omega) (by rw[hlen];omega) hv).2,fun q u hu=>?_,hlt⟩;unfold u64s at hu;rw[List.getElem?_map] at hu;cases q with
 |zero=>
  rw[List.getElem?_cons_zero] at hu;obtain rfl:=zqd hu;exact hcell _ _ (by omega) f1
 |succ i=>
  rw[List.getElem?_cons_succ] at hu;by_cases hi:i<old[j].ws.length
  ·rw[zqh hi] at hu
   obtain rfl:=zqd hu;refine hcell _ _ (by omega) ?_;rw[show je old j+(i+1)=je old j+1+i by omega,f2 i hi,zqh hi]
  ·rw[List.getElem?_eq_none (by omega)] at hu
   cases hu
theorem other {h:Nat} (hh:h<2):∃k:Nat,(1:Int)-h=k/\k<2/\k≠h/\k=1-h:=⟨1-h,by omega,by omega,by omega,rfl⟩
section
variable (m:zi w b W h R now old) (z:WF W h now old) (a:Int) (ha2:a<=9223372036854775807)
include m z a ha2
theorem jnL (hi:jl old (1-h) W a=none):
  Calls prog 109 #[.pointer (some ⟨b,0,none⟩),.int .i64 a] w fun e w'=>e=.returned (.tuple #[.int .i64 0,.int .i64 20])/\w'=w:=by
 have c1:=m.c1;obtain⟨k,hk,hk2,hne,hke⟩:=other z.hh;rw[<-hke] at hi;clear hke;have hf:=J3 m z k hk2 a ha2;rw[Zv _ _ hne,hi] at hf;have HF:=hid hf;have hwk:wrap64 (1-(h:Int))=k:=by rw[hk];unfold wrap64;omega
 clear m z hf hi;go_enter Tryz.func109,Tryz.ntmps109;go_wp2_with fail;refine HF.out.mono ?_;rintro e w1 ⟨rfl,rfl⟩;go_wp2_with fail;go_ret2;exact⟨rfl,rfl⟩
theorem jnJ {j:Nat} {o:Ob} (hi:jl old (1-h) W a=some j) (ho:old[j]?=some o) (ht:o.to≠0):
  Calls prog 109 #[.pointer (some ⟨b,0,none⟩),.int .i64 a] w fun e w'=>e=.returned (.tuple #[.int .i64 o.to,.int .i64 0])/\∃n,w'=w.drewN n:=by
 have c1:=m.c1;obtain⟨k,hk,hk2,hne,hke⟩:=other z.hh;rw[<-hke] at hi;clear hke;obtain⟨g,cap,A⟩:=jhr m hk2 hne ho;have hf:=J3 m z k hk2 a ha2;rw[Zv _ _ hne,hi] at hf;have HF:=hid hf;have hwk:wrap64 (1-(h:Int))=k:=by rw[hk];unfold wrap64;omega
 have r0:=A.row;have r1:=A.head;have hhw:o.hw=2*o.to:=by unfold Ob.hw;rw[if_neg ht]
 have hto:=(z.oko _ (zqc ho)).to;rw[hhw] at r1;have r2:=A.fits;have r3:=A.cap1;have r4:=A.cap2;have hs0:(0:Int)<=je old j:=by omega
 have hs1:(je old j:Int)<used old:=by omega
 have hk0:(0:Int)<=k:=by omega
 have hk1:(k:Int)<2:=by omega
 have HP:=hid (fun W=>jeI o.to (by omega) hto W);have HT:=hid (fun W=>jl2 o.to (by omega) hto W);have huw:used old<=65536:=zqs z.uo z.w1;clear m z hf hi A;go_enter Tryz.func109,Tryz.ntmps109;go_wp2_with fail;refine HF.out.mono ?_;rintro e w1 ⟨rfl,rfl⟩;go_wp2_with fail;go_quiet (fail);go_wp2_with fail;refine(HP.out _).mono ?_;rintro e w2 ⟨rfl,rfl⟩;go_wp2_with fail;refine(HT.out _).mono ?_;rintro e w3 ⟨rfl,rfl⟩;go_wp2_with fail;go_ret2;exact⟨rfl,_,rfl⟩
end
end
section
variable {w:World} {b W h k:Nat} {R:Nat->Value} {now old:List Ob}
theorem jnK (m:zi w b W h R now old) (z:WF W h now old) (a:Int) (ha2:a<=9223372036854775807) {j:Nat} {o:Ob} (hi:jl old (1-h) W a=some j) (ho:old[j]?=some o) (ht:o.to=0) (hfull:(W:Int)-used now<o.ws.length+1):
  Calls prog 109 #[.pointer (some ⟨b,0,none⟩),.int .i64 a] w fun e w'=>e=.returned (.tuple #[.int .i64 0,.int .i64 21])/\∃n,w'=w.drewN n:=by
 have c1:=m.c1;obtain⟨k,hk,hk2,hne,hke⟩:=other z.hh;rw[<-hke] at hi;clear hke;obtain⟨g,cap,A⟩:=jhr m hk2 hne ho;have hf:=J3 m z k hk2 a ha2;rw[Zv _ _ hne,hi] at hf;have HF:=hid hf;have HM:=hid m;have HWF:=hid z;have hwk:wrap64 (1-(h:Int))=k:=by rw[hk];unfold wrap64;omega
 have r0:=A.row;have r1:=A.head;have hok:=z.oko _ (zqc ho);have hhw:o.hw=JZ o.k o.ws.length o.t:=by unfold Ob.hw;rw[if_pos ht]
 have hlt:=jhR hok;have hright:=hok.right;have hbd:=zR hright;rw[hhw] at r1;obtain⟨s,hs⟩:∃s,o.ws.length=s:=⟨_,rfl⟩;rw[hs] at hlt hright hbd hfull r1;have HSP:=hid (fun W=>jbN hright W);have HP:=hid (fun W=>jga (JZ o.k s o.t) (by unfold JZ;omega) hlt W);have r2:=A.fits;have r3:=A.cap1;have r4:=A.cap2;have hs0:(0:Int)<=je old j:=by omega
 have hs1:(je old j:Int)<used old:=by omega
 have hk0:(0:Int)<=k:=by omega
 have hk1:(k:Int)<2:=by omega
 have huw:used old<=65536:=zqs z.uo z.w1;have hs2:s<=1000000000:=by omega
 clear m z hf hi A hhw hlt hright hok hs hbd;go_enter Tryz.func109,Tryz.ntmps109;go_wp2_with fail;refine HF.out.mono ?_;rintro e w1 ⟨rfl,rfl⟩;go_wp2_with fail;go_quiet (fail);go_wp2_with fail;refine(HP.out _).mono ?_;rintro e w2 ⟨rfl,rfl⟩;go_wp2_with fail;refine(HSP.out _).mono ?_;rintro e w3 ⟨rfl,rfl⟩;have HM1:=hid (HM.out.drewN nq);go_wp2_with fail;refine(jbD HM1.out HWF.out rfl _ rfl).mono ?_;rintro e w4 ⟨rfl,n4,rfl⟩;go_wp2_with fail;go_ret2;exact⟨rfl,_,rfl⟩
theorem jjv {L:Nat->List Nat} (m:MemV w b W h R L) (hk:k<2) (hL:L (k*2)=za old) {j:Nat} {o:Ob} (ho:old[j]?=some o):∃g cap,AtO w b k R old j g cap o:=by
 obtain⟨hj,rfl⟩:=zqb ho;have hlt:=ZB old hj;have hlen:(L (k*2)).length=used old:=by rw[hL,jL]
 obtain⟨g,cap,hv,hle,hcap⟩:=m.some_row (r:=k*2) (j:=je old j) (by omega) (by rw[hlen];omega);rw[hlen] at hv hle;have hcell:∀c x,c<used old->(za old)[c]?=some x->w.cell? ⟨g,c,none⟩=some (.int .u64 (x:Nat)):=fun c x hc hx=>by
  have h1:=(m.row_cell (r:=k*2) (j:=c) (by omega) (by rw[hlen];exact hc) hv).1;rw[hL,zqi,hx] at h1;exact h1
 obtain⟨f1,f2⟩:=jfh old hj;refine⟨g,cap,(m.cr (k*2) (by omega)).trans (by rw[hv]),hv,hle,hcap,hcell _ _ (by omega) f1,(m.row_cell (r:=k*2) (j:=je old j) (by omega) (by rw[hlen];omega) hv).2,fun q u hu=>?_,hlt⟩;unfold u64s at hu;rw[List.getElem?_map] at hu;cases q with
 |zero=>
  rw[List.getElem?_cons_zero] at hu;obtain rfl:=zqd hu;exact hcell _ _ (by omega) f1
 |succ i=>
  rw[List.getElem?_cons_succ] at hu;by_cases hi:i<old[j].ws.length
  ·rw[zqh hi] at hu
   obtain rfl:=zqd hu;refine hcell _ _ (by omega) ?_;rw[show je old j+(i+1)=je old j+1+i by omega,f2 i hi,zqh hi]
  ·rw[List.getElem?_eq_none (by omega)] at hu
   cases hu
theorem jiU (l:List Nat):∀v∈u64s l,v.oneCell'=true:=by
 intro v hv;unfold u64s at hv;obtain⟨n,_,rfl⟩:=List.mem_map.1 hv;rfl
theorem jou {o:Ob} (r:Nat):qu h now old (qT (qg now) (used now)) (o.hw::o.ws) r=jR h (now++[o]) old r:=by
 unfold qu;by_cases e:r=h*2
 ·subst e
  rw[js,jT,zb,QK];show _=za now++(o.hw::o.ws++[]);rw[List.append_nil]
 ·rw[jh _ _ e]
  by_cases e2:r=h*2+1
  ·subst e2
   rw[js,JA,zb,QO]
  ·rw[jh _ _ e2]
   unfold jR;have q:¬r/2=h:=by omega
   rw[if_neg q,if_neg q]
theorem jlM {o:Ob} {j T:Nat} (hk:k<2) (hh:h<2) (hne:k≠h) (ho:old[j]?=some o) (hT:T≠0) (r:Nat) (hr:r<4):
  JD (qu h now old (qT (qg now) (used now)) (o.hw::o.ws)) (k*2) ((za old).set (je old j) (2*T)) r=jR h (now++[o]) (old.set j {o with to:=T}) r:=by
 rw[<-jg2 ho hT,<-jiH hk hh hne (jc7 (o':={o with to:=T}) ho rfl) r hr];by_cases e:r=k*2
 ·subst e;rw[js,js]
 ·rw[jh _ _ e,jh _ _ e];exact jou r
theorem jbw {M f:List Nat} (hne:k≠h):qu h now old M f (k*2)=za old:=by
 unfold qu;rw[jh _ _ (by omega),jh _ _ (by omega),jT,Zv _ _ hne]
theorem ST.apps {O:Nat->Prop} {L:Nat->List Nat} {wr w1:World} {R1:Nat->Value} (s:ST w O b W h L wr R1) {r:Nat} (hr:r<4) {u v':Value} (hv:R1 r=u) {n:Nat} {l:List Nat} (hn:l.length=n) (hown:w1.ownsRow 0 65 1 v' n (u64s l)) (hgrow:wr.grownBy w1 u.ownBlock) (hblk:v'.ownBlock=u.ownBlock\/v'.ownBlock=some wr.heap.size):
  w1.cell? ⟨b,2+r,none⟩=some u/\w1.frozen? ⟨b,2+r,none⟩=false/\ST w O b W h (JD L r l) (w1.setCell ⟨b,2+r,none⟩ v') (JD R1 r v'):=by
 subst hv hn;have hfr:Fr (fun i=>(R1 r).ownBlock=some i) wr w1:=(Fr.refl _ wr).grown hgrow (fun _ hk=>.inl hk);obtain⟨q1,q2⟩:=s.far hr hfr;refine⟨q1 _ _ (s.m.cr r hr),q2 _,s.put hr hfr hown fun g hg=>?_⟩;rcases hblk with e|e
 ·left;rw[<-e];exact hg
 ·right
  rw[e] at hg;have:=zqd hg;omega
theorem ST.set {O:Nat->Prop} {L:Nat->List Nat} {wr:World} {R1:Nat->Value} (s:ST w O b W h L wr R1) {r j g n cap z:Nat} (hr:r<4) (hv:R1 r=.slice (some ⟨g,0,none⟩) n cap):ST w O b W h (JD L r ((L r).set j z)) (wr.setCell ⟨g,j,none⟩ (.int .u64 (z:Int))) R1:=
 ⟨s.m.set_cell hr hv,s.sub,s.fr.setCell (p:=⟨g,j,none⟩) (s.sub g (.inr ⟨r,hr,by rw[hv];rfl⟩)) _⟩
theorem jqe (m:zi w b W h R now old) (z:WF W h now old) (a:Int) (ha2:a<=9223372036854775807) {j:Nat} {o:Ob} (hi:jl old (1-h) W a=some j) (ho:old[j]?=some o) (ht:o.to=0) (hfit:used now+o.ws.length+1<=W) (T:Nat) (hT:jx h W (used now)=T):
  Calls prog 109 #[.pointer (some ⟨b,0,none⟩),.int .i64 a] w fun e w'=>e=.returned (.tuple #[.int .i64 T,.int .i64 0])/\MS w (Own b R) w' b W h (jR h (now++[o]) (old.set j {o with to:=T})):=by
 obtain⟨i0,hinf,hz0,hz1,hz2⟩:=info_parts infoU64;have c1:=m.c1;have hh:=z.hh;obtain⟨k,hk,hk2,hne,hke⟩:=other z.hh;rw[<-hke] at hi;clear hke;obtain⟨g,cap,A⟩:=jhr m hk2 hne ho;have hf:=J3 m z k hk2 a ha2;rw[Zv _ _ hne,hi] at hf;have HF:=hid (show Calls prog 112 #[.pointer (some ⟨b,0,none⟩),.int .i64 k,.int .i64 a] w fun e w'=>e=.returned (.tuple #[.int .i64 (je old j:Nat),.bool true])/\w'=w from hf);have HM:=hid m;have HWF:=hid z;have HOJ:=hid ho;have hwk:wrap64 (1-(h:Int))=k:=by rw[hk];unfold wrap64;omega
 have r0:=A.row;have r1:=A.head;have hok:=z.oko _ (zqc ho);have hhw:o.hw=JZ o.k o.ws.length o.t:=by unfold Ob.hw;rw[if_pos ht]
 have hlt:=jhR hok;have hright:=hok.right;have hbd:=zR hright;obtain⟨H,hH⟩:∃H,o.hw=H:=⟨_,rfl⟩;have HH:=hid hH;obtain⟨s,hs⟩:∃s,o.ws.length=s:=⟨_,rfl⟩;have HS:=hid hs;rw[hs] at hlt hright hbd hfit hhw;have hsp:=fun W=>jbN hright W;rw[<-hhw,hH] at hsp;have hip:=fun W=>jga (JZ o.k s o.t) (by unfold JZ;omega) hlt W;rw[<-hhw,hH] at hip;have HSP:=hid hsp;have HP:=hid hip;rw[hH] at r1;have r2:=A.fits;rw[hs] at r2;have r3:=A.cap1;have r4:=A.cap2;have hw1:=z.w1;have hun:=z.un;have hT1:1<=T:=by unfold jx at hT;split at hT<;>omega
 have hT2:T<=131072:=by unfold jx at hT;split at hT<;>omega
 have HPT:=hid (fun W=>jaT T hT1 hT2 W);have hs0:(0:Int)<=je old j:=by omega
 have hs1:(je old j:Int)<used old:=by omega
 have hk0:(0:Int)<=k:=by omega
 have hk1:(k:Int)<2:=by omega
 have hh0:(0:Int)<=h:=by omega
 have hh1:(h:Int)<2:=by omega
 have huw:used old<=65536:=zqs z.uo z.w1;have hs2:s<=1000000000:=by omega
 have HAT:=hid hT;obtain⟨u,hu⟩:∃u,used now=u:=⟨_,rfl⟩;have HU:=hid hu;rw[hu] at hfit hun;obtain⟨MM,hMM⟩:∃MM,qT (qg now) (used now)=MM:=⟨_,rfl⟩;have HMM:=hid hMM;obtain⟨x,hx⟩:∃x,je old j=x:=⟨_,rfl⟩;rw[hx] at HF r1 r2 hs0 hs1;have HX:=hid hx;clear m z hf hi A hhw hlt hright hok hs hbd hH hip hsp hMM hu hT ht ho hx;go_enter Tryz.func109,Tryz.ntmps109;go_wp2_with fail;refine HF.out.mono ?_;rintro e w1 ⟨rfl,rfl⟩;go_wp2_with fail;go_quiet (fail);go_wp2_with fail;refine(HP.out _).mono ?_;rintro e w2 ⟨rfl,rfl⟩;go_wp2_with fail;refine(HSP.out _).mono ?_;rintro e w3 ⟨rfl,rfl⟩;have HM1:=hid (HM.out.drewN nq);go_wp2_with fail;refine(jbD HM1.out HWF.out HU.out _ rfl).mono ?_;rintro e w4 ⟨rfl,n4,hw⟩;have HS1:=hid (show ST w1 (Own b R) b W h (jR h now old) w4 R from by rw[hw];exact⟨(HM.out.drewN nq).drewN n4,fun _ h=>.inl h,((Fr.refl _ _).drewN nq).drewN n4⟩);have c1':=HS1.out.m.c1;clear hw c1 r0 r1;go_wp2_with fail;have hnx:∀n',Calls prog 28 #[.pointer (some ⟨b,0,none⟩)] (w4.drewN n') fun e w'=>e=.returned (.int .i64 T)/\∃m,w'=(w4.drewN n').drewN m:=fun n'=>by
  have:=jd7 (HS1.out.m.drewN n') HWF.out.sizes;rw[jT,zb,jL,HAT.out] at this;exact this
 have HNX:=hid hnx;clear hnx;go_quiet ((go_at_call 28;refine Calls.quiet_of (HNX.out _)));go_wp2_with fail;refine(jh0 (HS1.out.drewN nq).m HWF.out.sizes).mono ?_;rintro e w2 ⟨rfl,hms⟩;rw[jT,JA,zb,jL,HMM.out] at hms;obtain⟨R2,S2⟩:=(HS1.out.drewN nq).step hms;have S2':ST w1 (Own b R) b W h (qu h now old MM []) w2 R2:=S2.congr fun r _=>by
  unfold qu;rw[List.append_nil];by_cases e:r=h*2
  ·subst e;rw[js,jh _ _ (by omega),jT,zb]
  ·rw[jh (r:=h*2) _ _ e]
 have HS2:=hid S2';obtain⟨a2,cap2,hv2,hc2,hf2,hown2,hle2,hcm2⟩:=S2'.row (r:=h*2) (by omega);have hlen2:(qu h now old MM [] (h*2)).length=u:=by rw[qG,List.append_nil,jL,HU.out]
 rw[hlen2] at hv2 hc2 hown2 hle2;rw[qG,List.append_nil] at hown2;have HV2:=hid hv2;have HO2:=hid hown2;obtain⟨g2,cap3,A2⟩:=jjv S2'.m hk2 (jbw hne) HOJ.out;have q0:=A2.row;have q1:=A2.fits;rw[HX.out,HS.out] at q1;have q2:=A2.cap1;have q3:=A2.cap2;have hlw:(u64s (o.hw::o.ws)).length=s+1:=by rw[jjl,List.length_cons,HS.out]
 have HLW:=hid hlw;have hce:=A2.cells;rw[HX.out] at hce;have HCE:=hid hce;obtain⟨P,hP⟩:∃P,x+s+1=P:=⟨_,rfl⟩;have hPw:IntKind.i64.wrap (IntKind.i64.wrap ((x:Int)+s)+1)=(P:Int):=by
  rw[show(x:Int)+s=((x+s:Nat):Int) by omega,Lib.wrap_i64_small _ (by omega),show((x+s:Nat):Int)+1=((x+s+1:Nat):Int) by omega,Lib.wrap_i64_small _ (by omega),hP]
 have hPx:P-x=s+1:=by omega
 have hP1:P<=cap3:=by omega
 have hP2:x<=P:=by omega
 have hP3:¬cap3=x:=by omega
 clear hms S2 S2' hv2 hown2 hlen2 A2 c1' r2 r3 r4 hlw hce hP;go_wp2_with fail;go_region_law ((refine step_append_lies _ (by rfl) _ _ 51 (by rfl) 0 65 i0 (.int .u64 0) 1 8 Tryz.underlying51 hinf hz0 hz1 hz2 rfl (by decide) (.slice a2 u cap2) _ _ (by rfl) (HO2.out.drew) ⟨g2,x,none⟩ (s+1) _ (u64s (o.hw::o.ws)) (by rfl) (by rw[HLW.out,Nat.mul_one]) (by intro q v hv;rw[show(⟨g2,x,none⟩:Addr).add q=⟨g2,x+q,none⟩ from by simp[Addr.add]];exact HCE.out q v hv) (jiU _) (Nat.succ_pos _) (by unfold maxLen;omega) (by omega) (Nat.zero_le _) w2.heap.size rfl ?_;intro g6 cap6 w6 hown6 hgrow6 hblk6 hlt6;rw[<-Jd] at hown6;obtain⟨x6,y6,S6⟩:=HS2.out.drew.apps (r:=h*2) (by omega) HV2.out (by rw[zqm,jL,HU.out,List.length_cons,HS.out]) hown6 hgrow6 (jmr hblk6 rfl);have HS6:=hid (S6.congr (L':=qu h now old MM (o.hw::o.ws)) fun r _=>Q8 (h:=h) (now:=now) (old:=old) MM [] (o.hw::o.ws) r);clear S6 hown6 hgrow6 hblk6));all_goals
  obtain⟨W4,hW4⟩:∃W4,w6.setCell ⟨b,2+h*2,none⟩ (.slice (some ⟨g6,0,none⟩) (u+(s+1)) cap6)=W4:=⟨_,rfl⟩;rw[hW4] at HS6 ⊢;obtain⟨g7,cap7,A7⟩:=jjv HS6.out.m hk2 (jbw hne) HOJ.out;have t0:=A7.row;have t1:=A7.head;have t2:=A7.fits;have t3:=A7.cap1;have t4:=A7.cap2;have t5:=A7.frozen;have HV7:=hid A7.val;rw[HX.out] at t1 t2 t5;clear A7 hW4 x6 y6 hlt6 q0 q1 q2 q3 hPw hPx hP1 hP2 hP3;go_wp2_with fail
 all_goals
  go_region_law ((go_simp;go_at_call 82;refine(HPT.out _).mono ?_;rintro e w' ⟨rfl,rfl⟩))
 all_goals
  have S8:=((HS6.out.set (r:=k*2) (j:=x) (z:=2*T) (by omega) HV7.out).drew).congr (L':=jR h (now++[o]) (old.set j {o with to:=T})) (fun r hr=>by
   rw[jbw hne,<-HX.out,<-HMM.out];exact jlM hk2 hh hne HOJ.out (by omega) r hr)
  have HS8:=hid S8.ms;clear S8;go_wp2_with fail;go_ret2;exact⟨rfl,HS8.out⟩
end
section
open Go Go.RowKit Go.Shelf
def Clear (M:List Nat) (f c:Nat):Prop:=∀d,f<=d->d<c->qV M d=false
theorem Clear.succ {M:List Nat} {f c:Nat} (h:Clear M f c) (hb:qV M c=false):Clear M f (c+1):=fun d h1 h2=>by
 by_cases e:d=c
 ·rw[e];exact hb
 ·exact h d h1 (by omega)
end
section
open Go Go.RowKit Go.Shelf
attribute [local go_sem] Oper.semAt_some
def J7 (h W:Nat) (now:List Ob) (k:Nat):Int:=jx h W (je now k:Nat)
theorem jai {now:List Ob} {k:Nat} (hk:k<=now.length):je now k<=used now:=by
 have:=JB now hk (zqg _);rw[qI] at this;omega
theorem MemV.isCells {w:World} {b W h:Nat} {R:Nat->Value} {L:Nat->List Nat} (m:MemV w b W h R L) {i:Nat} (hi:Own b R i) {o:Obj} (ho:w.heap[i]?=some o):o.isCells=true:=by
 rcases hi with rfl|⟨r,hr,hg⟩
 ·have hc:=m.c0
  unfold World.cell? at hc;simp only[] at hc;rw[ho] at hc;cases o<;>first|rfl|cases hc
 ·rcases(m.own r hr).2 with⟨hv,_⟩|⟨g,cap,cur,hv,_,hk,_⟩
  ·rw[hv] at hg;cases hg
  ·rw[hv] at hg
   obtain rfl:g=i:=by simpa[Value.ownBlock] using hg
   rw[hk] at ho;obtain rfl:=zqd ho;rfl
theorem jfy {W h:Nat} {now old:List Ob} (z:WF W h now old) {k:Nat} (hk:k<=now.length):1<=J7 h W now k/\J7 h W now k<=200000:=by
 have:=jai hk;have:=z.un;have:=z.w1;unfold J7 jx;split<;>omega
end
structure St where
 now:List Ob
 old:List Ob
def jy (os:List Ob) (j:Nat):Ob:=(os[j]?).getD ⟨0,0,[],0⟩
theorem jfx {os:List Ob} {j:Nat} (h:j<os.length):os[j]?=some (jy os j):=by unfold jy;rw[zqh h];rfl
theorem ZT {os:List Ob} {j:Nat} {o:Ob} (h:os[j]?=some o):jy os j=o:=by unfold jy;rw[h];rfl
theorem zO {os:List Ob} {h W j:Nat} {a:Int} (e:jl os h W a=some j):os[j]?=some (jy os j):=jfx (zF e).1
def qk (h W:Nat) (s:St) (a:Int):Nat×Nat×Nat×Nat:=match jl s.now h W a with
 |none=>(0,0,0,20)
 |some j=>((jy s.now j).k,(jy s.now j).ws.length,(jy s.now j).t,0)
def qY (h W:Nat) (s:St) (a:Int) (i:Nat):Nat×Nat:=match jl s.now h W a with
 |none=>(0,20)
 |some j=>if i<(jy s.now j).ws.length then((jy s.now j).ws.getD i 0,0) else(0,20)
def jaW (h W:Nat) (s:St) (a:Int) (i x:Nat):St:=match jl s.now h W a with
 |none=>s
 |some j=>if i<(jy s.now j).ws.length then⟨s.now.set j {jy s.now j with ws:=(jy s.now j).ws.set i x},s.old⟩ else s
def Jr (h W:Nat) (s:St) (a:Int):Nat×Nat:=match jl s.old (1-h) W a with
 |none=>(0,20)
 |some j=>if(jy s.old j).to≠0 then((jy s.old j).to,0) else if W<used s.now+(jy s.old j).ws.length+1 then(0,21) else((jx h W (used s.now:Nat)).toNat,0)
def JT (h W:Nat) (s:St) (a:Int):St:=match jl s.old (1-h) W a with
 |none=>s
 |some j=>if(jy s.old j).to≠0 then s else if W<used s.now+(jy s.old j).ws.length+1 then s else⟨s.now++[jy s.old j],s.old.set j {jy s.old j with to:=(jx h W (used s.now:Nat)).toNat}⟩
structure MX (w:World) (O:Nat->Prop) (b W h:Nat) (s:St) (wr:World) (R:Nat->Value):Prop where
 m:zi wr b W h R s.now s.old
 z:WF W h s.now s.old
 own:∀i,Own b R i->O i\/w.heap.size<=i
 fr:Fr O w wr
section
variable {w wr w1:World} {O:Nat->Prop} {b W h:Nat} {s:St} {R:Nat->Value}
theorem MX.drewN (x:MX w O b W h s wr R) (n:Nat):MX w O b W h s (wr.drewN n) R:=⟨x.m.drewN n,x.z,x.own,x.fr.drewN n⟩
theorem MX.lt (x:MX w O b W h s wr R):∀i,Own b R i->i<wr.heap.size:=x.m.own_lt
theorem MX.of (m:zi w b W h R s.now s.old) (z:WF W h s.now s.old):MX w (Own b R) b W h s w R:=⟨m,z,fun _ h=>.inl h,Fr.refl _ _⟩
theorem MX.kept {X:Nat->Prop} (x:MX w O b W h s wr R) (hf:Fr X wr w1) (hn:∀i,Own b R i->¬X i) (hX:∀i,X i->O i\/w.heap.size<=i):MX w O b W h s w1 R:=
 ⟨x.m.kept hf hn,x.z,x.own,x.fr.trans hf hX⟩
theorem ja8 (m:zi w b W h R s.now s.old) (z:WF W h s.now s.old) (a:Int) (ha:a<=9223372036854775807):
  Calls prog 67 #[.pointer (some ⟨b,0,none⟩),.int .i64 a] w fun e w'=>e=.returned (.tuple #[.int .i64 ((qk h W s a).1:Nat),.int .i64 ((qk h W s a).2.1:Nat),.int .i64 ((qk h W s a).2.2.1:Nat),.int .i64 ((qk h W s a).2.2.2:Nat)])/\∃n,w'=w.drewN n:=by
 unfold qk;cases e:jl s.now h W a with
 |none=>exact qr m z a ha e
 |some j=>exact qR m z a ha e (zO e)
theorem jpZ (z:WF W h s.now s.old) (a:Int):(qk h W s a).1<=5/\(qk h W s a).2.1<=16384/\(qk h W s a).2.2.1<=(qk h W s a).2.1:=by
 unfold qk;cases e:jl s.now h W a with
 |none=>exact⟨Nat.zero_le _,Nat.zero_le _,Nat.zero_le _⟩
 |some j=>
  have:=zR (z.okn _ (zqc (zO e))).right;exact⟨by show(jy s.now j).k<=5;omega,by show(jy s.now j).ws.length<=16384;omega,by show(jy s.now j).t<=(jy s.now j).ws.length;omega⟩
theorem jge (m:zi w b W h R s.now s.old) (z:WF W h s.now s.old) (a:Int) (ha:a<=9223372036854775807) (i:Nat):
  Calls prog 68 #[.pointer (some ⟨b,0,none⟩),.int .i64 a,.int .i64 i] w fun e w'=>e=.returned (.tuple #[.int .u64 ((qY h W s a i).1:Nat),.int .i64 ((qY h W s a i).2:Nat)])/\∃n,w'=w.drewN n:=by
 unfold qY;cases e:jl s.now h W a with
 |none=>exact jdY a i (jez m z a i ha e)
 |some j=>
  by_cases hi:i<(jy s.now j).ws.length
  ·simp only[if_pos hi]
   exact Qz m z a i ha e (zO e) hi
  ·simp only[if_neg hi]
   exact jdY a i (ja2 m z a i ha e (zO e) (.inr (by omega)))
theorem jpW (z:WF W h s.now s.old) (a:Int) (i:Nat):(qY h W s a i).1<18446744073709551616:=by
 unfold qY;cases e:jl s.now h W a with
 |none=>show 0<18446744073709551616;omega
 |some j=>
  simp only[];split
  ·rename_i hi
   have hok:=z.okn _ (zqc (zO e));show(jy s.now j).ws.getD i 0<_;rw[zqi,zqh hi];exact hok.word _ (List.getElem_mem hi)
  ·show 0<18446744073709551616;omega
theorem joJ (z:WF W h s.now s.old) (a:Int) (i x:Nat) (hx:x<18446744073709551616):WF W h (jaW h W s a i x).now (jaW h W s a i x).old:=by
 unfold jaW;cases e:jl s.now h W a with
 |none=>exact z
 |some j=>
  by_cases hi:i<(jy s.now j).ws.length
  ·simp only[if_pos hi]
   have:=jaA (i:=i) z (zO e) hx;rw[Zk (zO e)] at this;exact this
  ·simp only[if_neg hi];exact z
theorem jcr (x:MX w O b W h s wr R) (a:Int) (ha:a<=9223372036854775807) (i y:Nat) (hy:y<18446744073709551616):
  Calls prog 29 #[.pointer (some ⟨b,0,none⟩),.int .i64 a,.int .i64 i,.int .u64 y] wr fun e w'=>(∃q,e=.returned (.int .i64 q))/\MX w O b W h (jaW h W s a i y) w' R/\Fr (Own b R) wr w':=by
 have hz:=joJ x.z a i y hy;unfold jaW at hz ⊢;cases e:jl s.now h W a with
 |none=>
  refine(jc6 a i y (jez x.m x.z a i ha e)).mono ?_;rintro e w' ⟨rfl,n,rfl⟩;exact⟨⟨_,rfl⟩,x.drewN n,(Fr.refl _ _).drewN n⟩
 |some j=>
  by_cases hi:i<(jy s.now j).ws.length
  ·simp only[e,if_pos hi] at hz ⊢
   refine(Qf x.m x.z a i y ha e (zO e) hi).mono ?_;rintro e w' ⟨rfl,h1,h2⟩;rw[Zk (zO (by assumption))] at h1;exact⟨⟨_,rfl⟩,⟨h1,hz,x.own,x.fr.trans h2 (fun i hi=>x.own i hi)⟩,h2⟩
  ·simp only[if_neg hi]
   refine(jc6 a i y (ja2 x.m x.z a i ha e (zO e) (.inr (by omega)))).mono ?_;rintro e w' ⟨rfl,n,rfl⟩;exact⟨⟨_,rfl⟩,x.drewN n,(Fr.refl _ _).drewN n⟩
theorem jgn (z:WF W h s.now s.old) (a:Int):WF W h (JT h W s a).now (JT h W s a).old:=by
 unfold JT;cases e:jl s.old (1-h) W a with
 |none=>exact z
 |some j=>
  have ho:=zO e;have hok:=z.oko _ (zqc ho);by_cases ht:(jy s.old j).to≠0
  ·simp only[if_pos ht];exact z
  ·simp only[if_neg ht]
   by_cases hf:W<used s.now+(jy s.old j).ws.length+1
   ·simp only[if_pos hf];exact z
   ·simp only[if_neg hf]
    have hw:=z.w1;refine⟨z.w0,z.w1,z.hh,?_,?_,?_,?_,?_⟩
    ·rw[z6,ZD];omega
    ·rw[jcv (jc7 (o':={jy s.old j with to:=(jx h W (used s.now:Nat)).toNat}) ho rfl)];exact z.uo
    ·intro o hm
     rcases List.mem_append.1 hm with q|q
     ·exact z.okn o q
     ·rw[List.mem_singleton.1 q];exact hok
    ·intro o hm
     rcases List.mem_or_eq_of_mem_set hm with q|q
     ·exact z.oko o q
     ·rw[q]
      refine⟨hok.right,?_,hok.word⟩;show(jx h W (used s.now:Nat)).toNat<=131072;unfold jx;split<;>omega
    ·intro o hm
     rcases List.mem_append.1 hm with q|q
     ·exact z.fresh o q
     ·rw[List.mem_singleton.1 q];omega
theorem jqd (z:WF W h s.now s.old) (a:Int):(Jr h W s a).1<=131073:=by
 unfold Jr;cases e:jl s.old (1-h) W a with
 |none=>exact Nat.zero_le _
 |some j=>
  have hok:=z.oko _ (zqc (zO e));have h1:=hok.to;have h2:=z.un;have h3:=z.w1;simp only[];split
  ·show(jy s.old j).to<=_;omega
  ·split
   ·exact Nat.zero_le _
   ·show(jx h W (used s.now:Nat)).toNat<=131073
    unfold jx;split<;>omega
theorem jgm (x:MX w O b W h s wr R) (a:Int) (ha:a<=9223372036854775807):
  Calls prog 109 #[.pointer (some ⟨b,0,none⟩),.int .i64 a] wr fun e w'=>e=.returned (.tuple #[.int .i64 ((Jr h W s a).1:Nat),.int .i64 ((Jr h W s a).2:Nat)])/\∃R',MX w O b W h (JT h W s a) w' R'/\(∀i,Own b R' i->Own b R i\/wr.heap.size<=i)/\Fr (Own b R) wr w':=by
 have hz:=jgn x.z a;unfold JT at hz ⊢;unfold Jr;cases e:jl s.old (1-h) W a with
 |none=>
  refine(jnL x.m x.z a ha e).mono ?_;rintro e w' ⟨rfl,rfl⟩;exact⟨rfl,R,x,fun _ h=>.inl h,Fr.refl _ _⟩
 |some j=>
  have ho:=zO e;by_cases ht:(jy s.old j).to≠0
  ·simp only[if_pos ht]
   refine(jnJ x.m x.z a ha e ho ht).mono ?_;rintro e w' ⟨rfl,n,rfl⟩;exact⟨rfl,R,x.drewN n,fun _ h=>.inl h,(Fr.refl _ _).drewN n⟩
  ·have ht':(jy s.old j).to=0:=by omega
   simp only[e,if_neg ht] at hz ⊢;by_cases hf:W<used s.now+(jy s.old j).ws.length+1
   ·simp only[if_pos hf]
    refine(jnK x.m x.z a ha e ho ht' (by omega)).mono ?_;rintro e w' ⟨rfl,n,rfl⟩;exact⟨rfl,R,x.drewN n,fun _ h=>.inl h,(Fr.refl _ _).drewN n⟩
   ·simp only[if_neg hf] at hz ⊢
    refine(jqe x.m x.z a ha e ho ht' (by omega) (jx h W (used s.now:Nat)).toNat (by unfold jx;split<;>omega)).mono ?_;rintro e w' ⟨rfl,R',m',hs',hf'⟩;refine⟨rfl,R',⟨m',hz,fun i hi=>?_,x.fr.trans hf' (fun i hi=>x.own i hi)⟩,hs',hf'⟩;rcases hs' i hi with q|q
    ·exact x.own i q
    ·exact .inr (zqs x.fr.size q)
end
def ql (l:List Int):List Value:=l.map (Value.int .i64)
theorem jf8 (l:List Int) (x:Int):ql l++[Value.int .i64 x]=ql (l++[x]):=by simp[ql]
def aL (os:List Ob):List Int:=(List.range os.length).map fun j=>((je os j:Nat):Int)+1
section
variable {w wr w1:World} {b W h h':Nat} {now old now' old':List Ob} {la ls:List Int} {va vs v':Value} {R R':Nat->Value}
theorem Fr.of_grown {v:Value} {tmp:Obj} (hg:(wr.alloc tmp).grownBy w1 v.ownBlock):Fr (fun i=>v.ownBlock=some i) wr w1:=
 ((Fr.refl _ wr).alloc tmp).grown hg (fun _ hk=>.inl hk)
theorem jfB {B:Nat} {l:List Int} (ho:wr.ownsRow B 3 1 va l.length (ql l)):∃a cap,va=.slice a l.length cap/\l.length<=cap/\cap<=9223372036854775807/\∀j z,l[j]?=some z->∃g,a=some ⟨g,0,none⟩/\g<wr.heap.size/\wr.cell? ⟨g,j,none⟩=some (.int .i64 z)/\wr.frozen? ⟨g,j,none⟩=false:=by
 have ho':=ho;rcases ho.2 with⟨hv,h0⟩|⟨g,cap,cur,hv,hb,hg,h1,h2,h3,h4⟩
 ·refine⟨none,0,by rw[hv,h0],by omega,by omega,fun j z hz=>?_⟩
  have:=(zqb hz).1;omega
 ·subst hv
  refine⟨_,cap,rfl,h1,by simpa[maxLen] using h2,fun j z hz=>?_⟩;have hj:=(zqb hz).1;refine⟨g,rfl,(zqa hg).1,?_,ho'.frozenAt j⟩;rw[ho'.cellAt j (by omega)];simp[ql,hz]
end
theorem jnX (w:World) (t:TypeId):(w.alloc (.cells #[] t)).ownsRow w.heap.size t 1 (.slice (some ⟨w.heap.size,0,none⟩) 0 0) 0 []:=
 ⟨by simp,.inr ⟨w.heap.size,0,#[],rfl,zqg _,zqe w _,zqg _,by simp[maxLen],by simp,by simp⟩⟩
theorem jg5 {w:World} {B g cap n:Nat} {e:TypeId} {xs:List Value} (h:w.ownsRow B e 1 (.slice (some ⟨g,0,none⟩) n cap) n xs):∀j u,xs[j]?=some u->w.cell? ((⟨g,0,none⟩:Addr).add j)=some u:=by
 intro j u hu;have hj:j<n:=by have:=(zqb hu).1;have:=h.1;omega
 have hadd:(⟨g,0,none⟩:Addr).add j=⟨g,j,none⟩:=by unfold Addr.add;split<;>simp_all
 rw[hadd,h.cellAt j (by omega)];exact hu
theorem jmE {w:World} {v:Value} {n:Nat} {xs:List Value} (hown:w.ownsRow 0 65 1 v n xs) (h1:∀u∈xs,u.oneCell'=true) (hn:n<=1000000):
  Calls prog 60 #[v] w fun e w'=>(∃v',e=.returned v'/\w'.ownsRow w.heap.size 65 1 v' n xs)/\Below w.heap.size w w':=by
 obtain⟨i0,hi,hz0,hz1,hz2⟩:=info_parts infoU64;have hcmp:=fun(W:World) (a:Option Addr) (n c:Nat)=>Lib.run_eql_slice_nil (P:=prog) W 51 65 a n c 0 0 Tryz.underlying51;rcases hown.2 with⟨rfl,rfl⟩|⟨g,cap,cur,rfl,hb,hg,hle,hcap,_,_⟩
 ·have hxs:xs=[]:=List.eq_nil_of_length_eq_zero (by simpa using hown.1)
  subst hxs;clear hown;go_enter Tryz.func60,Tryz.ntmps60;go_wp2;go_ret;exact⟨⟨_,rfl,World.ownsRow_nil _ _ _ _⟩,Below.refl _ _⟩
 ·have hl:xs.length=n:=by simpa using hown.1
  have hnews:=jg5 (hown.alloc (.cells #[] 65));have ho0:=jnX w 65;have hb0:Below w.heap.size w (w.alloc (.cells #[] 65)):=(Below.refl _ _).alloc (zqg _) _;have HB0:=hid hb0;have HL:=hid hl;unfold maxLen at hcap;have HNW:=hid hnews;have HO0:=hid ho0;clear hb hg hl hown hnews ho0 hb0;go_enter Tryz.func60,Tryz.ntmps60;go_wp2_with (at_builtin;refine wpList_append_own_at _ rfl _ _ 51 rfl w.heap.size 65 i0 (.int .u64 0) 1 8 Tryz.underlying51 hi hz0 hz1 hz2 rfl (by decide) _ _ _ rfl HO0.out ⟨g,0,none⟩ n cap xs rfl (by rw[HL.out];omega) HNW.out h1 (by unfold maxLen;omega) (by omega) (by simp) ?_;intro v1 w1 hown1 hgrow1 _ hblk1);go_ret;refine⟨⟨_,rfl,by simpa using hown1⟩,HB0.out.grown hgrow1 (by simp) (fun k hk=>?_)⟩;have h2:(Value.slice (some ⟨w.heap.size,0,none⟩) 0 0).ownBlock=some k:=hk;have:=zqd h2;simp only[] at this;omega
section
attribute [local go_sem ↓] Go.wp_at_zero Go.wp_at_succ
theorem zk {W:World} {B:Nat} {cs:Array Value} {t:TypeId} (h:W.heap[B]?=some (.cells cs t (0,0))) (j:Nat) (v:Value):(W.setCell ⟨B,j,none⟩ v).heap[B]?=some (.cells (cs.setIfInBounds j v) t (0,0)):=by
 obtain⟨hlt,hk⟩:=zqa h;show(W.heap.modify B _)[B]?=_;rw[Array.getElem?_eq_getElem (by rw[Array.size_modify];exact hlt),Array.getElem_modify_self,hk];rfl
theorem qQ {W:World} {B:Nat} {cs:Array Value} {t:TypeId} (h:W.heap[B]?=some (.cells cs t (0,0))) (j:Nat):W.cell? ⟨B,j,none⟩=cs[j]?:=by
 simp[World.cell?,h]
theorem jbV {W:World} {B:Nat} {cs:Array Value} {t:TypeId} (h:W.heap[B]?=some (.cells cs t (0,0))) (j:Nat):W.frozen? ⟨B,j,none⟩=false:=by
 simp[World.frozen?,h]
structure CP (w:World) (W h:Nat) (R:Nat->Value) (L:Nat->List Nat) (k:Nat) (V:Nat->Value) (wr:World):Prop where
 blk:wr.heap[w.heap.size]?=some (.cells #[.int .i64 W,.int .i64 h,V 0,V 1,V 2,V 3] 137 (0,0))
 base:Below w.heap.size w wr
 old:∀r,2*k<=r->V r=R r
 own:∀r,r<2*k->wr.ownsRow (w.heap.size+1) 65 1 (V r) (L r).length (u64s (L r))
 sep:∀r s,r<2*k->s<2*k->r≠s->∀g,(V r).ownBlock=some g->(V s).ownBlock≠some g
theorem Jl {w:World} {B B' n:Nat} {e:TypeId} {v:Value} {xs:List Value} (h:w.ownsRow B e 1 v n xs) (hb:B'<=B):w.ownsRow B' e 1 v n xs:=by
 refine⟨h.1,?_⟩;rcases h.2 with h0|⟨g,cap,cur,h1,h2,rest⟩
 ·exact .inl h0
 ·exact .inr ⟨g,cap,cur,h1,zqs hb h2,rest⟩
theorem jbe {w w':World} {B n:Nat} {e:TypeId} {v:Value} {xs:List Value} (h:w.ownsRow B e 1 v n xs) (hb:Below w.heap.size w w'):w'.ownsRow B e 1 v n xs:=
 (Fr.of_below (O:=fun _=>False) hb).own h (fun _ _=>id)
theorem jjO {w:World} {B n c j:Nat} {e:TypeId} {v u:Value} {xs:List Value} (h:w.ownsRow B e 1 v n xs) (hc:c<B):(w.setCell ⟨c,j,none⟩ u).ownsRow B e 1 v n xs:=
 ((Fr.refl (·=c) w).setCell (p:=⟨c,j,none⟩) (.inl rfl) u).own h (fun g hg e=>by have:=(h.lt g hg).1;omega)
theorem jjz {w wr wa wb:World} {W h k:Nat} {R V:Nat->Value} {L:Nat->List Nat} (c:CP w W h R L k V wr) (hk:k<2) (hb1:Below wr.heap.size wr wa) (hb2:Below wa.heap.size wa wb) {va vb:Value} {Ba Bb:Nat} (hBa:wr.heap.size<=Ba) (hBb:wa.heap.size<=Bb)
  (oa:wa.ownsRow Ba 65 1 va (L (2*k)).length (u64s (L (2*k)))) (ob:wb.ownsRow Bb 65 1 vb (L (2*k+1)).length (u64s (L (2*k+1)))):
  CP w W h R L (k+1) (JD (JD V (2*k) va) (2*k+1) vb) ((wb.setCell ⟨w.heap.size,2+2*k,none⟩ va).setCell ⟨w.heap.size,3+2*k,none⟩ vb):=by
 have hlt:w.heap.size<wr.heap.size:=(zqa c.blk).1;have hba:=hb1.trans (hb2.mono hb1.size);have hblk:wb.heap[w.heap.size]?=_:=(hba.block _ hlt).trans c.blk;refine⟨?_,((c.base.trans (hba.mono c.base.size)).setCell (p:=⟨w.heap.size,_,none⟩) (zqg _) _).setCell (p:=⟨w.heap.size,_,none⟩) (zqg _) _,fun r hr=>?_,fun r hr=>?_,fun r s hr hs hne g hg hg2=>?_⟩
 ·have h2:=zk (zk hblk (2+2*k) va) (3+2*k) vb
  have hk':k=0\/k=1:=by omega
  rcases hk' with rfl|rfl
  ·exact h2
  ·exact h2
 ·rw[jh _ _ (by omega),jh _ _ (by omega)];exact c.old r (by omega)
 ·refine jjO (jjO ?_ (Nat.lt_succ_self _)) (Nat.lt_succ_self _)
  by_cases e:r=2*k+1
  ·subst e;rw[js];exact Jl ob (by have:=hb1.size;omega)
  ·rw[jh _ _ e]
   by_cases e2:r=2*k
   ·subst e2;rw[js];exact jbe (Jl oa (by omega)) hb2
   ·rw[jh _ _ e2];exact jbe (c.own r (by omega)) hba
 ·have ho:∀r,r<2*k->∀g,(V r).ownBlock=some g->g<wr.heap.size:=fun r hr g hg=>((c.own r hr).lt g hg).2
  have h1:=hb1.size;by_cases e:r=2*k+1
  ·subst e
   rw[js] at hg;have l1:=(ob.lt g hg).1;rw[jh _ _ (fun q=>hne q.symm)] at hg2;by_cases e2:s=2*k
   ·subst e2;rw[js] at hg2
    have l2:=(oa.lt g hg2).2;omega
   ·rw[jh _ _ e2] at hg2
    have:=ho s (by omega) g hg2;omega
  ·rw[jh _ _ e] at hg
   by_cases e2:r=2*k
   ·subst e2;rw[js] at hg
    have l1:=oa.lt g hg;by_cases e3:s=2*k+1
    ·subst e3;rw[js] at hg2
     have l2:=(ob.lt g hg2).1;omega
    ·rw[jh _ _ e3,jh _ _ (fun q=>hne q.symm)] at hg2
     have:=ho s (by omega) g hg2;omega
   ·rw[jh _ _ e2] at hg
    have l1:=ho r (by omega) g hg;by_cases e3:s=2*k+1
    ·subst e3;rw[js] at hg2
     have l2:=(ob.lt g hg2).1;omega
    ·rw[jh _ _ e3] at hg2
     by_cases e4:s=2*k
     ·subst e4;rw[js] at hg2
      have l2:=(oa.lt g hg2).1;omega
     ·rw[jh _ _ e4] at hg2
      exact c.sep r s (by omega) (by omega) hne g hg hg2
theorem CP.mem {w wr:World} {W h:Nat} {R V:Nat->Value} {L:Nat->List Nat} (c:CP w W h R L 2 V wr):MemV wr w.heap.size W h V L:=by
 refine⟨qQ c.blk 0,qQ c.blk 1,fun r hr=>?_,jbV c.blk,fun r hr=>Jl (c.own r (by omega)) (Nat.zero_le _),fun r s hr hs=>c.sep r s (by omega) (by omega),fun r hr hg=>?_⟩
 ·rw[qQ c.blk]
  have:r=0\/r=1\/r=2\/r=3:=by omega
  rcases this with rfl|rfl|rfl|rfl<;>rfl
 ·have:=((c.own r (by omega)).lt _ hg).1;omega
theorem CP.sub {w wr:World} {W h:Nat} {R V:Nat->Value} {L:Nat->List Nat} (c:CP w W h R L 2 V wr):∀i,Own w.heap.size V i->w.heap.size<=i:=by
 rintro i (rfl|⟨r,hr,hg⟩)
 ·exact zqg _
 ·have:=((c.own r (by omega)).lt _ hg).1;omega
theorem jmF {w W1:World} {v:Value} {l:List Nat} {n:Nat} (hb:Below w.heap.size w W1) (ho:w.ownsRow 0 65 1 v n (u64s l)) (hn:n<=65536):
  Calls prog 60 #[v] W1 fun e w'=>(∃a c,e=.returned (.slice a n c)/\w'.ownsRow W1.heap.size 65 1 (.slice a n c) n (u64s l))/\Below W1.heap.size W1 w':=by
 refine(jmE (jbe ho hb) (jiU l) (by omega)).mono ?_;rintro e w' ⟨⟨v',rfl,h⟩,h2⟩;rcases h.2 with⟨rfl,rfl⟩|⟨g,cap,cur,rfl,_⟩
 ·exact⟨⟨_,_,rfl,h⟩,h2⟩
 ·exact⟨⟨_,_,rfl,h⟩,h2⟩
def jE (W1:World) (c j:Nat):Value:=(W1.cell? ⟨c,j,none⟩).getD undef
structure KN (w1:World) (c:Nat) (W1:World):Prop where
 fr:Fr (·=c) w1 W1
 blk:∃cs,W1.heap[c]?=some (.cells cs 137 (0,0))/\cs.size=6
theorem KN.below {w1 W1 W2:World} {c:Nat} (k:KN w1 c W1) (h:Below W1.heap.size W1 W2):KN w1 c W2:=by
 obtain⟨cs,h1,h2⟩:=k.blk;exact⟨k.fr.trans (Fr.of_below (O:=fun _=>False) h) (fun _=>False.elim),cs,(h.block c (zqa h1).1).trans h1,h2⟩
theorem KN.drew {w1 W1:World} {c:Nat} (k:KN w1 c W1):KN w1 c W1.drew:=k.below (Below.refl _ W1).drew
theorem KN.set {w1 W1:World} {c:Nat} (k:KN w1 c W1) (j:Nat) (v:Value):KN w1 c (W1.setCell ⟨c,j,none⟩ v):=by
 obtain⟨cs,h1,h2⟩:=k.blk;exact⟨k.fr.setCell (p:=⟨c,j,none⟩) (.inl rfl) v,_,zk h1 j v,by simpa using h2⟩
theorem jk8 {w1 W1:World} {g c j:Nat} {x y:Value} (hne:g≠c) (hj:j<5) (hg0:w1.cell? ⟨g,0,none⟩=some x) (hg1:w1.cell? ⟨g,1,none⟩=some y) (h:KN w1 c W1):
  W1.cell? ⟨g,0,none⟩=some x/\W1.cell? ⟨g,1,none⟩=some y/\W1.cell? ⟨c,j,none⟩=some (jE W1 c j)/\W1.cell? ⟨c,j+1,none⟩=some (jE W1 c (j+1))/\W1.frozen? ⟨c,j,none⟩=false/\W1.frozen? ⟨c,j+1,none⟩=false/\KN w1 c W1:=by
 obtain⟨cs,h1,h2⟩:=h.blk;have k:∀i,i<6->W1.cell? ⟨c,i,none⟩=some (jE W1 c i):=fun i hi=>by
  unfold jE;rw[qQ h1,Array.getElem?_eq_getElem (by omega)];rfl
 exact⟨h.fr.cell_some hg0 hne,h.fr.cell_some hg1 hne,k _ (by omega),k _ (by omega),jbV h1 _,jbV h1 _,h⟩
theorem QM {p q r s t u:Prop} {a b:World} {c:Nat} (h:p/\q/\r/\s/\t/\u/\KN a c b):KN a c b:=h.2.2.2.2.2.2
theorem jbY {w w1 W1:World} {v:Value} {l:List Nat} {n:Nat} (hb:Below w.heap.size w w1) (k:KN w1 w.heap.size W1) (ho:w.ownsRow 0 65 1 v n (u64s l)) (hn:n<=65536):
  Calls prog 60 #[v] W1 fun e w'=>(∃a c,e=.returned (.slice a n c)/\w'.ownsRow W1.heap.size 65 1 (.slice a n c) n (u64s l))/\Below W1.heap.size W1 w':=
 jmF (hb.trans (k.fr.below hb.size (fun i hi=>Nat.le_of_eq (by subst hi;rfl)))) ho hn
section
variable {w:World} {b W h:Nat} {R:Nat->Value} {L:Nat->List Nat}
theorem jpg (m:MemV w b W h R L) (z:jao W h L):Calls prog 58 #[.pointer (some ⟨b,0,none⟩)] w fun e w'=>e=.returned (.pointer (some ⟨w.heap.size,0,none⟩))/\∃V,CP w W h R L 2 V w':=by
 have hbl:=m.lt;have c0:=m.c0;have c1:=m.c1;have r0:w.cell? ⟨b,2,none⟩=some (R 0):=m.cr 0 (by decide);have r1:w.cell? ⟨b,3,none⟩=some (R 1):=m.cr 1 (by decide);have r2:w.cell? ⟨b,4,none⟩=some (R 2):=m.cr 2 (by decide);have r3:w.cell? ⟨b,5,none⟩=some (R 3):=m.cr 3 (by decide);obtain⟨a0,k0,v0,_⟩:=m.shape (r:=0) (by decide);obtain⟨a1,k1,v1,_⟩:=m.shape (r:=1) (by decide);obtain⟨a2,k2,v2,_⟩:=m.shape (r:=2) (by decide);obtain⟨a3,k3,v3,_⟩:=m.shape (r:=3) (by decide);have o0:=m.own 0 (by decide);have o1:=m.own 1 (by decide);have o2:=m.own 2 (by decide);have o3:=m.own 3 (by decide);have l0:=z.len 0 (by decide);have l1:=z.len 1 (by decide);have l2:=z.len 2 (by decide);have l3:=z.len 3 (by decide);obtain⟨n0,hn0⟩:∃n,(L 0).length=n:=⟨_,rfl⟩;obtain⟨n1,hn1⟩:∃n,(L 1).length=n:=⟨_,rfl⟩;obtain⟨n2,hn2⟩:∃n,(L 2).length=n:=⟨_,rfl⟩;obtain⟨n3,hn3⟩:∃n,(L 3).length=n:=⟨_,rfl⟩;rw[hn0] at v0 o0 l0;rw[hn1] at v1 o1 l1;rw[hn2] at v2 o2 l2;rw[hn3] at v3 o3 l3;rw[v0] at r0 o0;rw[v1] at r1 o1;rw[v2] at r2 o2;rw[v3] at r3 o3;have H0:=hid (zqf hn0 v0);have H1:=hid (zqf hn1 v1);have H2:=hid (zqf hn2 v2);have H3:=hid (zqf hn3 v3);have O0:=hid (zqf o0 l0);have O1:=hid (zqf o1 l1);have O2:=hid (zqf o2 l2);have O3:=hid (zqf o3 l3);have ix0:∀(x y p q:Value) (W1:World),(Instr.index 135 (.agg #[x,y,p,q]) (.int .i64 0)).run prog W1=.ok (.agg #[x,y]) W1:=fun x y p q W1=>by kernel_rfl
 have ix1:∀(x y p q:Value) (W1:World),(Instr.index 135 (.agg #[x,y,p,q]) (.int .i64 1)).run prog W1=.ok (.agg #[p,q]) W1:=fun x y p q W1=>by kernel_rfl
 clear m z hn0 hn1 hn2 hn3 v0 v1 v2 v3 o0 o1 o2 o3 l0 l1 l2 l3;go_enter Tryz.func58,Tryz.ntmps58;go_wp2_with fail;have HS:Hid (CP w W h R L 0 R (w.alloc (.cells #[.int .i64 W,.int .i64 h,.slice a0 n0 k0,.slice a1 n1 k1,.slice a2 n2 k2,.slice a3 n3 k3] 137))):=by
  refine⟨?_,(Below.refl _ _).alloc (zqg _) _,fun _ _=>rfl,fun r hr=>by omega,fun r s hr=>by omega⟩;rw[zqe,H0.out.2,H1.out.2,H2.out.2,H3.out.2]
 go_loopw [15] (fun i wr=>∃(k:Nat) (V:Nat->Value),k<=2/\i=.int .i64 k/\CP w W h R L k V wr) (fun i _=>2-(intOf i).toNat)
 case atStart=>exact⟨0,R,Nat.zero_le _,rfl,HS.out⟩
 case round=>
  obtain⟨k,V,hk,rfl,hc⟩:=hrel;clear HS c0 c1 r0 r1 r2 r3;have hk':k=0\/k=1\/k=2:=by omega
  rcases hk' with rfl|rfl|rfl
  ·have HC:=hid hc
   have hblk:=hc.blk;have hol:=hc.old;rw[hol 0 (by omega),hol 1 (by omega),hol 2 (by omega),hol 3 (by omega),H0.out.2,H1.out.2,H2.out.2,H3.out.2] at hblk;clear hc hol;go_wp2_with fail;obtain⟨w1,hw1⟩:∃w1,wr.alloc (.cells #[.slice a0 n0 k0,.slice a1 n1 k1] 134)=w1:=⟨_,rfl⟩;have hb1:Below wr.heap.size wr w1:=by rw[<-hw1];exact(Below.refl _ _).alloc (zqg _) _
   have hg:=zqe wr (.cells #[.slice a0 n0 k0,.slice a1 n1 k1] 134);rw[hw1] at hg;have hcb:=(hb1.block w.heap.size (zqa hblk).1).trans hblk;have hd0:=(KN.mk (Fr.refl _ w1) ⟨_,hcb,rfl⟩).drew;have HBW:=hid (HC.out.base.trans (hb1.mono HC.out.base.size));have HB1:=hid hb1;have G0:=hid (qQ hg 0);have G1:=hid (qQ hg 1);have NE:=hid (show wr.heap.size≠w.heap.size from fun e=>by have:=(zqa hblk).1;omega);have HD:=hid (hb1.size);rw[hw1];clear hw1 hblk hg hcb hb1;go_region_held3 (fun W'=>W'.cell? ⟨wr.heap.size,0,none⟩=some (.slice a0 n0 k0)/\W'.cell? ⟨wr.heap.size,1,none⟩=some (.slice a1 n1 k1)/\W'.cell? ⟨w.heap.size,2,none⟩=some (jE W' w.heap.size 2)/\W'.cell? ⟨w.heap.size,3,none⟩=some (jE W' w.heap.size 3)/\W'.frozen? ⟨w.heap.size,2,none⟩=false/\W'.frozen? ⟨w.heap.size,3,none⟩=false/\KN w1 w.heap.size W')
    (first|assumption|exact jk8 (j:=2) NE.out (by decide) G0.out G1.out (by assumption)|exact jk8 (j:=2) NE.out (by decide) G0.out G1.out (KN.set (KN.set (QM (by assumption)) _ _) _ _))
    (first
     |(go_at_call 60;refine(jbY HBW.out (QM (by assumption)) O0.out.1 O0.out.2).mono ?_;rintro e wa ⟨⟨aa,ka,rfl,oa⟩,ba⟩;have hya:=KN.below (QM (by assumption)) ba)
     |(go_at_call 60;refine(jbY HBW.out (QM (by assumption)) O1.out.1 O1.out.2).mono ?_;rintro e wb ⟨⟨ab,kb,rfl,ob⟩,bb⟩;have hyb:=KN.below (QM (by assumption)) bb))
   go_wp2_with fail;go_roundw
   case rel=>exact⟨1,_,by omega,by go_num,jjz HC.out (by decide) (HB1.out.trans ((Below.refl _ w1).drew.trans ba|>.mono HD.out)) bb HD.out (zqg _) (by rw[show 2*0=0 from rfl,H0.out.1];exact oa) (by rw[show 2*0+1=1 from rfl,H1.out.1];exact ob)⟩
   case measure=>simp[intOf]
  ·have HC:=hid hc
   have hblk:=hc.blk;have hol:=hc.old;rw[hol 2 (by omega),hol 3 (by omega),H2.out.2,H3.out.2] at hblk;clear hc hol;go_wp2_with fail;obtain⟨w1,hw1⟩:∃w1,wr.alloc (.cells #[.slice a2 n2 k2,.slice a3 n3 k3] 134)=w1:=⟨_,rfl⟩;have hb1:Below wr.heap.size wr w1:=by rw[<-hw1];exact(Below.refl _ _).alloc (zqg _) _
   have hg:=zqe wr (.cells #[.slice a2 n2 k2,.slice a3 n3 k3] 134);rw[hw1] at hg;have hcb:=(hb1.block w.heap.size (zqa hblk).1).trans hblk;have hd0:=(KN.mk (Fr.refl _ w1) ⟨_,hcb,rfl⟩).drew;have HBW:=hid (HC.out.base.trans (hb1.mono HC.out.base.size));have HB1:=hid hb1;have G0:=hid (qQ hg 0);have G1:=hid (qQ hg 1);have NE:=hid (show wr.heap.size≠w.heap.size from fun e=>by have:=(zqa hblk).1;omega);have HD:=hid (hb1.size);rw[hw1];clear hw1 hblk hg hcb hb1;go_region_held3 (fun W'=>W'.cell? ⟨wr.heap.size,0,none⟩=some (.slice a2 n2 k2)/\W'.cell? ⟨wr.heap.size,1,none⟩=some (.slice a3 n3 k3)/\W'.cell? ⟨w.heap.size,4,none⟩=some (jE W' w.heap.size 4)/\W'.cell? ⟨w.heap.size,5,none⟩=some (jE W' w.heap.size 5)/\W'.frozen? ⟨w.heap.size,4,none⟩=false/\W'.frozen? ⟨w.heap.size,5,none⟩=false/\KN w1 w.heap.size W')
    (first|assumption|exact jk8 (j:=4) NE.out (by decide) G0.out G1.out (by assumption)|exact jk8 (j:=4) NE.out (by decide) G0.out G1.out (KN.set (KN.set (QM (by assumption)) _ _) _ _))
    (first
     |(go_at_call 60;refine(jbY HBW.out (QM (by assumption)) O2.out.1 O2.out.2).mono ?_;rintro e wa ⟨⟨aa,ka,rfl,oa⟩,ba⟩;have hya:=KN.below (QM (by assumption)) ba)
     |(go_at_call 60;refine(jbY HBW.out (QM (by assumption)) O3.out.1 O3.out.2).mono ?_;rintro e wb ⟨⟨ab,kb,rfl,ob⟩,bb⟩;have hyb:=KN.below (QM (by assumption)) bb))
   go_wp2_with fail;go_roundw
   case rel=>exact⟨2,_,by omega,by go_num,jjz HC.out (by decide) (HB1.out.trans ((Below.refl _ w1).drew.trans ba|>.mono HD.out)) bb HD.out (zqg _) (by rw[show 2*1=2 from rfl,H2.out.1];exact oa) (by rw[show 2*1+1=3 from rfl,H3.out.1];exact ob)⟩
   case measure=>simp[intOf]
  ·have HC:=hid hc
   clear hc;go_wp2_with fail;go_ret;exact⟨rfl,V,HC.out⟩
theorem jhF (m:MemV w b W h R L) (z:jao W h L):Calls prog 58 #[.pointer (some ⟨b,0,none⟩)] w fun e w'=>e=.returned (.pointer (some ⟨w.heap.size,0,none⟩))/\∃V,MemV w' w.heap.size W h V L/\(∀i,Own w.heap.size V i->w.heap.size<=i)/\Below w.heap.size w w':=by
 refine(jpg m z).mono ?_;rintro e w' ⟨rfl,V,c⟩;exact⟨rfl,V,c.mem,c.sub,c.base⟩
end
end
