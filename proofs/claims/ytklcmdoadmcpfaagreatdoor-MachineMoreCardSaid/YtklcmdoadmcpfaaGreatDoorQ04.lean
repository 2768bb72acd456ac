/- A part of the proof of MachineMoves. Conditions: those that each theorem names. -/
import Derived.Test.YtklcmdoadmcpfaaGreatDoorQ02
import Derived.StillTailTactics
import Derived.Deep.AppendLies
import Derived.Deep.LoopGhost
import Derived.Shelf.Spec.SlicesGrow
set_option maxRecDepth 100000
set_option maxHeartbeats 400000000
namespace Go.Proofs.YtklcmdoadmcpfaaGreatDoor
open Go Go.RowKit
open Go.Lib(hid)
open Go.Proofs.Tryz(prog)
theorem js8 (N:Nat) (h:N<18446744073709551616) (w:World):Calls prog 113 #[.int .u64 N] w fun e w'=>e=.returned (.tuple #[.int .i64 (kN N),.int .i64 (zN N),.int .i64 (tN N)])/\w'=w:=(joE N h w).mono fun _ _ ⟨he,hw⟩=>⟨he,hw.symm⟩
theorem jbN {k s t:Nat} (h:qw k s t=true) (w:World):Calls prog 113 #[.int .u64 (JZ k s t:Nat)] w fun e w'=>e=.returned (.tuple #[.int .i64 k,.int .i64 s,.int .i64 t])/\w'=w:=by
 obtain⟨a,b,c⟩:=joF h;have hb:=zR h;have:=js8 (JZ k s t) (by unfold JZ;omega) w;rw[a,b,c] at this;exact this
section
variable {w:World} {b W h:Nat} {R:Nat->Value} {now old:List Ob}
structure At (w:World) (b h:Nat) (R:Nat->Value) (now:List Ob) (j g cap:Nat) (o:Ob):Prop where
 row:w.cell? ⟨b,2+h*2,none⟩=some (.slice (some ⟨g,0,none⟩) (used now) cap)
 val:R (h*2)=.slice (some ⟨g,0,none⟩) (used now) cap
 cap1:used now<=cap
 cap2:cap<=9223372036854775807
 head:w.cell? ⟨g,je now j,none⟩=some (.int .u64 (JZ o.k o.ws.length o.t:Nat))
 field:∀i,i<o.ws.length->w.cell? ⟨g,je now j+1+i,none⟩=some (.int .u64 (o.ws.getD i 0:Nat))
 frozen:∀i,i<o.ws.length->w.frozen? ⟨g,je now j+1+i,none⟩=false
 fits:je now j+o.ws.length<used now
 right:qw o.k o.ws.length o.t=true
section
variable (m:zi w b W h R now old) (z:WF W h now old)
include m z
theorem jeo {j:Nat} {o:Ob} (ho:now[j]?=some o):∃g cap,At w b h R now j g cap o:=by
 obtain⟨hj,rfl⟩:=zqb ho;have hh:=z.hh;have hlt:=ZB now hj;have hlen:(jR h now old (h*2)).length=used now:=by rw[jT,zb,jL]
 obtain⟨g,cap,hv,hle,hcap⟩:=m.some_row (r:=h*2) (j:=je now j) (by omega) (by rw[hlen];omega);rw[hlen] at hv hle;have hcell:∀c x,c<used now->(za now)[c]?=some x->w.cell? ⟨g,c,none⟩=some (.int .u64 (x:Nat)):=fun c x hc hx=>by
  have h1:=(m.row_cell (r:=h*2) (j:=c) (by omega) (by rw[hlen];exact hc) hv).1;rw[jT,zb,zqi,hx] at h1;exact h1
 obtain⟨f1,f2⟩:=jfh now hj;have hok:=z.okn _ (List.getElem_mem hj);have hfr:=z.fresh _ (List.getElem_mem hj);refine⟨g,cap,(m.cr (h*2) (by omega)).trans (by rw[hv]),hv,hle,hcap,hcell _ _ (by omega) (by rw[f1];unfold Ob.hw;rw[if_pos hfr]),fun i hi=>hcell _ _ (by omega) ?_,fun i hi=>(m.row_cell (r:=h*2) (j:=je now j+1+i) (by omega) (by rw[hlen];omega) hv).2,hlt,hok.right⟩;rw[f2 i hi,zqi,zqh hi];rfl
theorem jez (a i:Int) (ha2:a<=9223372036854775807) (hi:jl now h W a=none):
  Calls prog 72 #[.pointer (some ⟨b,0,none⟩),.int .i64 a,.int .i64 i] w fun e w'=>e=.returned (.tuple #[.int .i64 0,.int .i64 20])/\∃n,w'=w.drewN n:=by
 have c1:=m.c1;have hf:=J3 m z h z.hh a ha2;rw[zb,hi] at hf;have HF:=hid hf;clear m z hf hi;go_enter Tryz.func72,Tryz.ntmps72;go_wp2_with fail;refine HF.out.mono ?_;rintro e w1 ⟨rfl,rfl⟩;go_wp2_with fail;go_ret2;exact⟨rfl,0,rfl⟩
theorem ja2 (a i:Int) (ha2:a<=9223372036854775807) {j:Nat} {o:Ob} (hi:jl now h W a=some j) (ho:now[j]?=some o) (hr:i<0\/(o.ws.length:Int)<=i):
  Calls prog 72 #[.pointer (some ⟨b,0,none⟩),.int .i64 a,.int .i64 i] w fun e w'=>e=.returned (.tuple #[.int .i64 0,.int .i64 20])/\∃n,w'=w.drewN n:=by
 have c1:=m.c1;obtain⟨g,cap,A⟩:=jeo m z ho;have hf:=J3 m z h z.hh a ha2;rw[zb,hi] at hf;have HF:=hid hf;have hh0:(0:Int)<=h:=by omega
 have hh1:(h:Int)<2:=by have:=z.hh;omega
 have r0:=A.row;have r1:=A.head;have r2:=A.fits;have r3:=A.cap1;have r4:=A.cap2;have hs0:(0:Int)<=je now j:=by omega
 have hs1:(je now j:Int)<used now:=by omega
 have HS:=hid (fun W=>jbN A.right W);have huw:used now<=65536:=zqs z.un z.w1;clear m z hf hi A;rcases hr with hr|hr
 ·go_enter Tryz.func72,Tryz.ntmps72
  go_wp2_with fail;refine HF.out.mono ?_;rintro e w1 ⟨rfl,rfl⟩;go_wp2_with fail;go_quiet ((go_at_call 113;refine Calls.quiet_of_same (HS.out _)));go_wp2_with fail;go_ret2;exact⟨rfl,_,rfl⟩
 ·have hr0:¬i<0:=by omega
  go_enter Tryz.func72,Tryz.ntmps72;go_wp2_with fail;refine HF.out.mono ?_;rintro e w1 ⟨rfl,rfl⟩;go_wp2_with fail;go_quiet ((go_at_call 113;refine Calls.quiet_of_same (HS.out _)));go_wp2_with fail;go_ret2;exact⟨rfl,_,rfl⟩
theorem jf2 (a:Int) (i:Nat) (ha2:a<=9223372036854775807) {j:Nat} {o:Ob} (hi:jl now h W a=some j) (ho:now[j]?=some o) (hr:i<o.ws.length):
  Calls prog 72 #[.pointer (some ⟨b,0,none⟩),.int .i64 a,.int .i64 i] w fun e w'=>e=.returned (.tuple #[.int .i64 (je now j+1+i:Nat),.int .i64 0])/\∃n,w'=w.drewN n:=by
 have c1:=m.c1;obtain⟨g,cap,A⟩:=jeo m z ho;have hf:=J3 m z h z.hh a ha2;rw[zb,hi] at hf;have HF:=hid hf;have hh0:(0:Int)<=h:=by omega
 have hh1:(h:Int)<2:=by have:=z.hh;omega
 have r0:=A.row;have r1:=A.head;have r2:=A.fits;have r3:=A.cap1;have r4:=A.cap2;have hs0:(0:Int)<=je now j:=by omega
 have hs1:(je now j:Int)<used now:=by omega
 have HS:=hid (fun W=>jbN A.right W);have huw:used now<=65536:=zqs z.un z.w1;have hri:(i:Int)<o.ws.length:=by omega
 clear m z hf hi A;go_enter Tryz.func72,Tryz.ntmps72;go_wp2_with fail;refine HF.out.mono ?_;rintro e w1 ⟨rfl,rfl⟩;go_wp2_with fail;go_quiet ((go_at_call 113;refine Calls.quiet_of_same (HS.out _)));go_wp2_with fail;go_ret2;exact⟨juD (by omega) rfl,_,rfl⟩
end
end
section
variable {w:World} {b W h:Nat} {R:Nat->Value} {now old:List Ob}
theorem jdY (a i:Int) (hf:Calls prog 72 #[.pointer (some ⟨b,0,none⟩),.int .i64 a,.int .i64 i] w fun e w'=>e=.returned (.tuple #[.int .i64 0,.int .i64 20])/\∃n,w'=w.drewN n):
  Calls prog 68 #[.pointer (some ⟨b,0,none⟩),.int .i64 a,.int .i64 i] w fun e w'=>e=.returned (.tuple #[.int .u64 0,.int .i64 20])/\∃n,w'=w.drewN n:=by
 have HF:=hid hf;clear hf;go_enter Tryz.func68,Tryz.ntmps68;go_wp2_with fail;refine HF.out.mono ?_;rintro e w1 ⟨rfl,n,rfl⟩;go_wp2_with fail;go_ret2;exact⟨rfl,n,rfl⟩
section
variable (m:zi w b W h R now old) (z:WF W h now old) (a:Int)
include m z a
theorem Qz (i:Nat) (ha2:a<=9223372036854775807) {j:Nat} {o:Ob} (hi:jl now h W a=some j) (ho:now[j]?=some o) (hr:i<o.ws.length):
  Calls prog 68 #[.pointer (some ⟨b,0,none⟩),.int .i64 a,.int .i64 i] w fun e w'=>e=.returned (.tuple #[.int .u64 (o.ws.getD i 0:Nat),.int .i64 0])/\∃n,w'=w.drewN n:=by
 have c1:=m.c1;obtain⟨g,cap,A⟩:=jeo m z ho;have HF:=hid (jf2 m z a i ha2 hi ho hr);have hh0:(0:Int)<=h:=by omega
 have hh1:(h:Int)<2:=by have:=z.hh;omega
 have r0:=A.row;have r1:=A.field i hr;have r2:=A.fits;have r3:=A.cap1;have r4:=A.cap2;obtain⟨q,hq⟩:∃q,je now j+1+i=q:=⟨_,rfl⟩;rw[hq] at r1 HF;obtain⟨v,hv⟩:∃v,o.ws.getD i 0=v:=⟨_,rfl⟩;rw[hv] at r1 ⊢;have hs0:(0:Int)<=q:=by omega
 have hs1:(q:Int)<used now:=by omega
 have huw:used now<=65536:=zqs z.un z.w1;clear m z hi A hq;go_enter Tryz.func68,Tryz.ntmps68;go_wp2_with fail;refine HF.out.mono ?_;rintro e w1 ⟨rfl,n,rfl⟩;go_wp2_with fail;go_quiet (fail);go_wp2_with fail;go_ret2;exact⟨rfl,_,World.drewN_drewN _ _ _⟩
theorem qr (ha2:a<=9223372036854775807) (hi:jl now h W a=none):
  Calls prog 67 #[.pointer (some ⟨b,0,none⟩),.int .i64 a] w fun e w'=>e=.returned (.tuple #[.int .i64 0,.int .i64 0,.int .i64 0,.int .i64 20])/\∃n,w'=w.drewN n:=by
 have c1:=m.c1;have hf:=J3 m z h z.hh a ha2;rw[zb,hi] at hf;have HF:=hid hf;clear m z hf hi;go_enter Tryz.func67,Tryz.ntmps67;go_wp2_with fail;refine HF.out.mono ?_;rintro e w1 ⟨rfl,rfl⟩;go_wp2_with fail;refine bodyPost_ret (jaV rfl _ _ _) rfl ?_;exact⟨rfl,0,rfl⟩
theorem qR (ha2:a<=9223372036854775807) {j:Nat} {o:Ob} (hi:jl now h W a=some j) (ho:now[j]?=some o):
  Calls prog 67 #[.pointer (some ⟨b,0,none⟩),.int .i64 a] w fun e w'=>e=.returned (.tuple #[.int .i64 o.k,.int .i64 o.ws.length,.int .i64 o.t,.int .i64 0])/\∃n,w'=w.drewN n:=by
 have c1:=m.c1;obtain⟨g,cap,A⟩:=jeo m z ho;have hf:=J3 m z h z.hh a ha2;rw[zb,hi] at hf;have HF:=hid hf;have hh0:(0:Int)<=h:=by omega
 have hh1:(h:Int)<2:=by have:=z.hh;omega
 have r0:=A.row;have r1:=A.head;have r2:=A.fits;have r3:=A.cap1;have r4:=A.cap2;have hs0:(0:Int)<=je now j:=by omega
 have hs1:(je now j:Int)<used now:=by omega
 have HS:=hid (fun W=>jbN A.right W);have huw:used now<=65536:=zqs z.un z.w1;clear m z hf hi A;go_enter Tryz.func67,Tryz.ntmps67;go_wp2_with fail;refine HF.out.mono ?_;rintro e w1 ⟨rfl,rfl⟩;go_wp2_with fail;go_quiet ((go_at_call 113;refine Calls.quiet_of_same (HS.out _)));go_wp2_with fail;refine bodyPost_ret (jaV rfl _ _ _) rfl ?_;exact⟨rfl,_,rfl⟩
end
theorem jc6 (a i:Int) (x:Int) (hf:Calls prog 72 #[.pointer (some ⟨b,0,none⟩),.int .i64 a,.int .i64 i] w fun e w'=>e=.returned (.tuple #[.int .i64 0,.int .i64 20])/\∃n,w'=w.drewN n):
  Calls prog 29 #[.pointer (some ⟨b,0,none⟩),.int .i64 a,.int .i64 i,.int .u64 x] w fun e w'=>e=.returned (.int .i64 20)/\∃n,w'=w.drewN n:=by
 have HF:=hid hf;clear hf;go_enter Tryz.func29,Tryz.ntmps29;go_wp2_with fail;refine HF.out.mono ?_;rintro e w1 ⟨rfl,n,rfl⟩;go_wp2_with fail;go_ret;exact⟨rfl,n,rfl⟩
theorem joK (m:zi w b W h R now old) (z:WF W h now old) (a:Int) (i x:Nat) (ha2:a<=9223372036854775807) {j:Nat} {o:Ob} (hi:jl now h W a=some j) (ho:now[j]?=some o) (hr:i<o.ws.length):
  Calls prog 29 #[.pointer (some ⟨b,0,none⟩),.int .i64 a,.int .i64 i,.int .u64 x] w fun e w'=>e=.returned (.int .i64 0)/\∃g cap n,R (h*2)=.slice (some ⟨g,0,none⟩) (used now) cap/\w'=(w.setCell ⟨g,je now j+1+i,none⟩ (.int .u64 x)).drewN n:=by
 have c1:=m.c1;obtain⟨g,cap,A⟩:=jeo m z ho;have HF:=hid (jf2 m z a i ha2 hi ho hr);have hh0:(0:Int)<=h:=by omega
 have hh1:(h:Int)<2:=by have:=z.hh;omega
 have HV:=hid A.val;have r0:=A.row;have r1:=A.field i hr;have r5:=A.frozen i hr;have r2:=A.fits;have r3:=A.cap1;have r4:=A.cap2;obtain⟨q,hq⟩:∃q,je now j+1+i=q:=⟨_,rfl⟩;rw[hq] at r1 r5 HF;rw[hq];have hs0:(0:Int)<=q:=by omega
 have hs1:(q:Int)<used now:=by omega
 have huw:used now<=65536:=zqs z.un z.w1;clear m z hi A hq;go_enter Tryz.func29,Tryz.ntmps29;go_wp2_with fail;refine HF.out.mono ?_;rintro e w1 ⟨rfl,n,hn⟩;have c1':w1.cell? ⟨b,1,none⟩=some (.int .i64 h):=by rw[hn];exact c1
 have r0':w1.cell? ⟨b,2+h*2,none⟩=some (.slice (some ⟨g,0,none⟩) (used now) cap):=by rw[hn];exact r0
 have r1':w1.cell? ⟨g,q,none⟩=some (.int .u64 (o.ws.getD i 0:Nat)):=by rw[hn];exact r1
 have r5':w1.frozen? ⟨g,q,none⟩=false:=by rw[hn];exact r5
 have HN:=hid hn;clear hn c1 r0 r1 r5;go_wp2_with fail;go_still_tail 13,(by kernel_rfl);go_wp2_with fail;go_ret;exact⟨rfl,g,cap,n+1,HV.out,by rw[HN.out];rfl⟩
end
def sz (os:List Ob):List Nat:=os.map fun o=>o.ws.length
theorem jdu (os:List Ob):used os=((sz os).map (1+ ·)).sum:=by
 unfold used sz;rw[List.map_map];rfl
theorem jj6 (os:List Ob) (j:Nat):sz (os.take j)=(sz os).take j:=by unfold sz;rw[List.map_take]
section
variable {a c:List Ob}
include a c
theorem JI (h:sz a=sz c) (j:Nat):je a j=je c j:=by
 unfold je;rw[jdu,jdu,jj6,jj6,h]
theorem jcv (h:sz a=sz c):used a=used c:=by rw[jdu,jdu,h]
theorem jgd (h:sz a=sz c):a.length=c.length:=by
 have:=congrArg List.length h;simpa[sz] using this
theorem jcS (h:sz a=sz c):qg a=qg c:=by
 unfold qg;rw[jgd h];congr 1;exact List.map_congr_left fun j _=>JI h j
theorem QL (h:sz a=sz c) (k W:Nat) (x:Int):jl a k W x=jl c k W x:=by
 unfold jl;rw[jgd h];congr 1;funext j;rw[JI h]
end
theorem jc7 {os:List Ob} {j:Nat} {o o':Ob} (ho:os[j]?=some o) (hl:o'.ws.length=o.ws.length):sz (os.set j o')=sz os:=by
 unfold sz;rw[List.map_set,hl];apply List.ext_getElem?;intro i;by_cases e:i=j
 ·subst e
  obtain⟨hj,rfl⟩:=zqb ho;rw[List.getElem?_set_self (by simpa using hj)];simp[hj]
 ·rw[List.getElem?_set_ne (fun q=>e q.symm)]
theorem jb1 {os:List Ob} {j:Nat} (hj:j<os.length):za os=za (os.take j)++((os[j].hw::os[j].ws)++za (os.drop (j+1))):=by
 have e:os=os.take j++(os[j]::os.drop (j+1)):=by rw[<-List.drop_eq_getElem_cons hj,List.take_append_drop]
 conv=>lhs;rw[e]
 rw[QK];rfl
theorem jhL {os:List Ob} {j:Nat} (hj:j<os.length) (o':Ob):za (os.set j o')=za (os.take j)++((o'.hw::o'.ws)++za (os.drop (j+1))):=by
 have hj':j<(os.set j o').length:=by simpa using hj
 rw[jb1 hj',List.getElem_set_self,List.take_set_of_le (zqg _),List.drop_set_of_lt (Nat.lt_succ_self _)]
theorem jfi {os:List Ob} {j i x:Nat} {o:Ob} (ho:os[j]?=some o) (hi:i<o.ws.length):za (os.set j {o with ws:=o.ws.set i x})=(za os).set (je os j+1+i) x:=by
 obtain⟨hj,rfl⟩:=zqb ho;have hl:(za (os.take j)).length=je os j:=by rw[jL];rfl
 rw[jhL hj,jb1 hj,List.set_append_right _ _ (by omega),hl,show je os j+1+i-je os j=i+1 by omega];congr 1;have e1:({os[j] with ws:=os[j].ws.set i x}:Ob).hw=os[j].hw:=by simp[Ob.hw]
 rw[e1,List.set_append_left _ _ (by simp;omega)];rfl
theorem jg2 {os:List Ob} {j t:Nat} {o:Ob} (ho:os[j]?=some o) (ht:t≠0):za (os.set j {o with to:=t})=(za os).set (je os j) (2*t):=by
 obtain⟨hj,rfl⟩:=zqb ho;have hl:(za (os.take j)).length=je os j:=by rw[jL];rfl
 rw[jhL hj,jb1 hj,List.set_append_right _ _ (by omega),hl,Nat.sub_self];congr 1;have e1:({os[j] with to:=t}:Ob).hw=2*t:=by simp[Ob.hw,ht]
 rw[e1,List.set_append_left _ _ (by simp)];rfl
theorem MemV.congr {w:World} {b W h:Nat} {R:Nat->Value} {L L':Nat->List Nat} (m:MemV w b W h R L) (e:∀r,r<4->L r=L' r):MemV w b W h R L':=
 ⟨m.c0,m.c1,m.cr,m.fz,fun r hr=>by rw[<-e r hr];exact m.own r hr,m.sep,m.far⟩
theorem jiG {h:Nat} {now now' old:List Ob} (hs:sz now'=sz now) (r:Nat):JD (jR h now old) (h*2) (za now') r=jR h now' old r:=by
 by_cases e:r=h*2
 ·subst e;rw[js,jT,zb]
 ·rw[jh _ _ e]
  unfold jR;by_cases e2:r/2=h
  ·have p:¬r%2=0:=by omega
   rw[if_neg p,if_neg p,if_pos e2,if_pos e2,jcS hs]
  ·rw[if_neg e2,if_neg e2]
theorem jiH {h k:Nat} {now old old':List Ob} (hk:k<2) (hh:h<2) (hne:k≠h) (hs:sz old'=sz old) (r:Nat) (hr:r<4):JD (jR h now old) (k*2) (za old') r=jR h now old' r:=by
 by_cases e:r=k*2
 ·subst e;rw[js,jT,Zv _ _ hne]
 ·rw[jh _ _ e]
  unfold jR;by_cases e2:r/2=h
  ·rw[if_pos e2,if_pos e2]
  ·have p:¬r%2=0:=by omega
   rw[if_neg p,if_neg p,if_neg e2,if_neg e2,jcS hs]
def Q4 (W:Nat):Obj:=.cells #[.int .i64 W,.int .i64 0,.slice none 0 0,.slice none 0 0,.slice none 0 0,.slice none 0 0] 137
theorem jsG (W:Nat) (h0:64<=W) (h1:W<=65536) (w:World):Calls prog 70 #[.int .i64 W] w fun e w'=>e=.returned (.tuple #[.pointer (some ⟨w.heap.size,0,none⟩),.int .i64 0])/\w'=w.alloc (Q4 W):=by
 go_enter Tryz.func70,Tryz.ntmps70;go_wp2;go_ret2;exact⟨rfl,rfl⟩
theorem jlL (r:Nat):jR 0 [] [] r=[]:=by
 unfold jR;split<;>split<;>rfl
theorem jsF (W:Nat) (w:World):zi (w.alloc (Q4 W)) w.heap.size W 0 (fun _=>.slice none 0 0) [] []:=by
 have hb:(w.alloc (Q4 W)).heap[w.heap.size]?=some (Q4 W):=zqe w _;have hc:∀i,(w.alloc (Q4 W)).cell? ⟨w.heap.size,i,none⟩=(#[.int .i64 W,.int .i64 0,.slice none 0 0,.slice none 0 0,.slice none 0 0,.slice none 0 0]:Array Value)[i]?:=fun i=>by unfold World.cell?;rw[show((⟨w.heap.size,i,none⟩:Addr).block)=w.heap.size from rfl,hb];rfl
 refine⟨hc 0,hc 1,fun r hr=>?_,fun j=>by unfold World.frozen?;rw[show((⟨w.heap.size,j,none⟩:Addr).block)=w.heap.size from rfl,hb];simp[Q4],fun r _=>?_,fun _ _ _ _ _ g hg=>?_,fun _ _ hg=>?_⟩
 ·rw[hc]
  have:r=0\/r=1\/r=2\/r=3:=by omega
  rcases this with rfl|rfl|rfl|rfl<;>rfl
 ·rw[jlL];exact World.ownsRow_nil _ _ _ _
 ·cases hg
 ·cases hg
theorem jc8 {W:Nat} (h0:64<=W) (h1:W<=65536):WF W 0 [] []:=
 ⟨h0,h1,by decide,by simp[used],by simp[used],by simp,by simp,by simp[jbT]⟩
section
variable {w:World} {b W h:Nat} {R:Nat->Value} {now old:List Ob}
def setF (now:List Ob) (j i x:Nat):List Ob:=match now[j]? with
 |some o=>now.set j {o with ws:=o.ws.set i x}
 |none=>now
theorem Zk {j i x:Nat} {o:Ob} (ho:now[j]?=some o):setF now j i x=now.set j {o with ws:=o.ws.set i x}:=by unfold setF;rw[ho]
theorem jj0 {j i x:Nat} {o:Ob} (ho:now[j]?=some o):sz (setF now j i x)=sz now:=by
 rw[Zk ho];exact jc7 ho (by simp)
theorem juX {j:Nat} {o o':Ob} (z:WF W h now old) (ho:now[j]?=some o) (hl:o'.ws.length=o.ws.length) (hok:jdK o') (hto:o'.to=0):WF W h (now.set j o') old:=by
 refine⟨z.w0,z.w1,z.hh,?_,z.uo,fun x hx=>?_,z.oko,fun x hx=>?_⟩
 ·rw[jcv (jc7 ho hl)];exact z.un
 ·rcases List.mem_or_eq_of_mem_set hx with e|e
  ·exact z.okn x e
  ·rw[e];exact hok
 ·rcases List.mem_or_eq_of_mem_set hx with e|e
  ·exact z.fresh x e
  ·rw[e];exact hto
theorem jaA {j i x:Nat} {o:Ob} (z:WF W h now old) (ho:now[j]?=some o) (hx:x<18446744073709551616):WF W h (setF now j i x) old:=by
 have hm:=zqc ho;have hok:=z.okn o hm;rw[Zk ho];refine juX z ho (by simp) ⟨by simpa using hok.right,hok.to,fun y hy=>?_⟩ (z.fresh o hm);rcases List.mem_or_eq_of_mem_set hy with e|e
 ·exact hok.word y e
 ·omega
theorem Qf (m:zi w b W h R now old) (z:WF W h now old) (a:Int) (i x:Nat) (ha2:a<=9223372036854775807) {j:Nat} {o:Ob} (hi:jl now h W a=some j) (ho:now[j]?=some o) (hr:i<o.ws.length):
  Calls prog 29 #[.pointer (some ⟨b,0,none⟩),.int .i64 a,.int .i64 i,.int .u64 x] w fun e w'=>e=.returned (.int .i64 0)/\zi w' b W h R (setF now j i x) old/\Fr (Own b R) w w':=by
 refine(joK m z a i x ha2 hi ho hr).mono ?_;rintro e w' ⟨rfl,g,cap,n,hv,rfl⟩;have hh:=z.hh;refine⟨rfl,?_,((Fr.refl _ _).setCell (.inl (.inr ⟨h*2,by omega,by rw[hv];rfl⟩)) _).drewN n⟩;have m2:=m.set_cell (r:=h*2) (j:=je now j+1+i) (z:=x) (by omega) hv;refine(MemV.congr m2 fun r _=>?_).drewN n;rw[jT,zb,<-jfi (x:=x) ho hr,<-Zk ho];exact jiG (jj0 ho) r
theorem jij {B:Nat} {e:TypeId} {a:Option Addr} {n cap:Nat} {xs:List Value} (ho:w.ownsRow B e 1 (.slice a n cap) n xs):w.ownsRow B e 1 (.slice a 0 cap) 0 []:=by
 rcases ho.2 with⟨hv,h0⟩|⟨g,cap',cur,hv,hb,hg,h1,h2,h3,_⟩
 ·injection hv with ha _ hc
  subst ha hc;exact World.ownsRow_nil _ _ _ _
 ·injection hv with ha _ hc
  subst ha hc;exact⟨by simp,.inr ⟨g,cap,cur,rfl,hb,hg,Nat.zero_le _,h2,h3,by simp⟩⟩
theorem jkL (a1 a2:Option Addr) (n1 n2 k1 k2:Nat) (c1:w.cell? ⟨b,1,none⟩=some (.int .i64 0)) (c2:w.cell? ⟨b,4,none⟩=some (.slice a1 n1 k1)) (c3:w.cell? ⟨b,5,none⟩=some (.slice a2 n2 k2))
  (f1:w.frozen? ⟨b,1,none⟩=false) (f2:w.frozen? ⟨b,4,none⟩=false) (f3:w.frozen? ⟨b,5,none⟩=false):
  Calls prog 107 #[.pointer (some ⟨b,0,none⟩)] w fun e w'=>e=.returned (.int .i64 0)/\∃n,w'=(((w.setCell ⟨b,1,none⟩ (.int .i64 1)).setCell ⟨b,4,none⟩ (.slice a1 0 k1)).setCell ⟨b,5,none⟩ (.slice a2 0 k2)).drewN n:=by
 cases a1<;>cases a2
 all_goals
  go_enter Tryz.func107,Tryz.ntmps107;go_wp2;go_quiet (fail);go_wp2;obtain⟨W1,hW1⟩:∃W1,(w.setCell ⟨b,1,none⟩ (.int .i64 1)).drewN nq=W1:=⟨_,rfl⟩;have e2:∀o v,o≠1->w.cell? ⟨b,o,none⟩=some v->W1.cell? ⟨b,o,none⟩=some v:=fun o v ho hv=>by
   rw[<-hW1];exact(World.cell?_setCell_other _ _ _ _ (by intro q;injection q with _ q2;exact ho q2.symm)).trans hv
  have e3:∀o,w.frozen? ⟨b,o,none⟩=false->W1.frozen? ⟨b,o,none⟩=false:=fun o hv=>by
   rw[<-hW1];exact(World.frozen?_setCell _ _ _ _).trans hv
  have c2':=e2 _ _ (by decide) c2;have c3':=e2 _ _ (by decide) c3;have f2':=e3 _ f2;have f3':=e3 _ f3;rw[hW1];have HW:=hid hW1;clear hW1 e2 e3 c1 c2 c3 f1 f2 f3;go_region;all_goals
   go_wp2_with fail;go_ret;exact⟨rfl,nq+1,by rw[<-HW.out];rfl⟩
theorem jkM (a1 a2:Option Addr) (n1 n2 k1 k2:Nat) (c1:w.cell? ⟨b,1,none⟩=some (.int .i64 1)) (c2:w.cell? ⟨b,2,none⟩=some (.slice a1 n1 k1)) (c3:w.cell? ⟨b,3,none⟩=some (.slice a2 n2 k2))
  (f1:w.frozen? ⟨b,1,none⟩=false) (f2:w.frozen? ⟨b,2,none⟩=false) (f3:w.frozen? ⟨b,3,none⟩=false):
  Calls prog 107 #[.pointer (some ⟨b,0,none⟩)] w fun e w'=>e=.returned (.int .i64 0)/\∃n,w'=(((w.setCell ⟨b,1,none⟩ (.int .i64 0)).setCell ⟨b,2,none⟩ (.slice a1 0 k1)).setCell ⟨b,3,none⟩ (.slice a2 0 k2)).drewN n:=by
 cases a1<;>cases a2
 all_goals
  go_enter Tryz.func107,Tryz.ntmps107;go_wp2;go_quiet (fail);go_wp2;obtain⟨W1,hW1⟩:∃W1,(w.setCell ⟨b,1,none⟩ (.int .i64 0)).drewN nq=W1:=⟨_,rfl⟩;have e2:∀o v,o≠1->w.cell? ⟨b,o,none⟩=some v->W1.cell? ⟨b,o,none⟩=some v:=fun o v ho hv=>by
   rw[<-hW1];exact(World.cell?_setCell_other _ _ _ _ (by intro q;injection q with _ q2;exact ho q2.symm)).trans hv
  have e3:∀o,w.frozen? ⟨b,o,none⟩=false->W1.frozen? ⟨b,o,none⟩=false:=fun o hv=>by
   rw[<-hW1];exact(World.frozen?_setCell _ _ _ _).trans hv
  have c2':=e2 _ _ (by decide) c2;have c3':=e2 _ _ (by decide) c3;have f2':=e3 _ f2;have f3':=e3 _ f3;rw[hW1];have HW:=hid hW1;clear hW1 e2 e3 c1 c2 c3 f1 f2 f3;go_region;all_goals
   go_wp2_with fail;go_ret;exact⟨rfl,nq+1,by rw[<-HW.out];rfl⟩
theorem ZW {a:Option Addr} {n cap g:Nat} (hg:(Value.slice a 0 cap).ownBlock=some g):(Value.slice a n cap).ownBlock=some g:=by
 cases a with
 |none=>cases hg
 |some a=>exact hg
theorem jpw (m:zi w b W h R now old) (z:WF W h now old):
  Calls prog 107 #[.pointer (some ⟨b,0,none⟩)] w fun e w'=>e=.returned (.int .i64 0)/\∃R',zi w' b W (1-h) R' [] now/\(∀i,Own b R' i->Own b R i)/\Fr (Own b R) w w':=by
 have hh:=z.hh;obtain⟨a1,k1,hv1,_,_⟩:=m.shape (r:=(1-h)*2) (by omega);obtain⟨a2,k2,hv2,_,_⟩:=m.shape (r:=(1-h)*2+1) (by omega);have key:∀n,∃R',zi ((((w.setCell ⟨b,1,none⟩ (.int .i64 (1-h:Nat))).setCell ⟨b,2+(1-h)*2,none⟩ (.slice a1 0 k1)).setCell ⟨b,2+((1-h)*2+1),none⟩ (.slice a2 0 k2)).drewN n) b W (1-h) R' [] now/\(∀i,Own b R' i->Own b R i)∧
   Fr (Own b R) w ((((w.setCell ⟨b,1,none⟩ (.int .i64 (1-h:Nat))).setCell ⟨b,2+(1-h)*2,none⟩ (.slice a1 0 k1)).setCell ⟨b,2+((1-h)*2+1),none⟩ (.slice a2 0 k2)).drewN n):=fun n=>by
  have m1:=m.set_half (1-h);have o1:=m1.own ((1-h)*2) (by omega);rw[hv1] at o1;have m2:=m1.set_row (r:=(1-h)*2) (by omega) (v:=.slice a1 0 k1) (l:=[]) (jij o1) (fun g hg=>by
   have hg':=ZW (n:=(jR h now old ((1-h)*2)).length) hg;rw[<-hv1] at hg';exact⟨fun e=>m.far _ (by omega) (e▸hg'),fun s hs hne hsg=>m.sep _ _ (by omega) hs (fun q=>hne q.symm) g hg' hsg⟩)
  have o2:=m2.own ((1-h)*2+1) (by omega);rw[jh _ _ (by omega),jh _ _ (by omega),hv2] at o2;have m3:=m2.set_row (r:=(1-h)*2+1) (by omega) (v:=.slice a2 0 k2) (l:=[]) (jij o2) (fun g hg=>by
   have hg':=ZW (n:=(jR h now old ((1-h)*2+1)).length) hg;rw[<-hv2] at hg';refine⟨fun e=>m.far _ (by omega) (e▸hg'),fun s hs hne hsg=>?_⟩;by_cases e:s=(1-h)*2
   ·subst e
    rw[js] at hsg;have hsg':=ZW (n:=(jR h now old ((1-h)*2)).length) hsg;rw[<-hv1] at hsg';exact m.sep _ _ (by omega) (by omega) (by omega) g hg' hsg'
   ·rw[jh _ _ e] at hsg
    exact m.sep _ _ (by omega) hs (fun q=>hne q.symm) g hg' hsg)
  refine⟨_,(MemV.congr m3 fun r hr=>?_).drewN n,fun i hi=>?_,((((Fr.refl _ _).setCell (.inl (.inl rfl)) _).setCell (.inl (.inl rfl)) _).setCell (.inl (.inl rfl)) _).drewN n⟩
  ·unfold JD jR
   by_cases e1:r=(1-h)*2+1
   ·subst e1
    rw[if_pos rfl,if_neg (by omega),if_pos (by omega)];rfl
   ·rw[if_neg e1]
    by_cases e2:r=(1-h)*2
    ·subst e2
     rw[if_pos rfl,if_pos (by omega),if_pos (by omega)];rfl
    ·rw[if_neg e2]
     have q1:r/2=h:=by omega
     have q2:¬r/2=1-h:=by omega
     rw[if_pos q1,if_neg q2]
  ·rcases hi with rfl|⟨r,hr,hg⟩
   ·exact .inl rfl
   ·by_cases e1:r=(1-h)*2+1
    ·subst e1
     rw[js] at hg;have hg':=ZW (n:=(jR h now old ((1-h)*2+1)).length) hg;rw[<-hv2] at hg';exact .inr ⟨_,hr,hg'⟩
    ·rw[jh _ _ e1] at hg
     by_cases e2:r=(1-h)*2
     ·subst e2
      rw[js] at hg;have hg':=ZW (n:=(jR h now old ((1-h)*2)).length) hg;rw[<-hv1] at hg';exact .inr ⟨_,hr,hg'⟩
     ·rw[jh _ _ e2] at hg
      exact .inr ⟨_,hr,hg⟩
 have hh':h=0\/h=1:=by omega
 have c2:=m.cr ((1-h)*2) (by omega);have c3:=m.cr ((1-h)*2+1) (by omega);have f2:=m.fz (2+(1-h)*2);have f3:=m.fz (2+((1-h)*2+1));rw[hv1] at c2;rw[hv2] at c3;rcases hh' with rfl|rfl
 ·refine(jkL a1 a2 _ _ k1 k2 m.c1 c2 c3 (m.fz 1) f2 f3).mono ?_
  rintro e w' ⟨rfl,n,rfl⟩;exact⟨rfl,key n⟩
 ·refine(jkM a1 a2 _ _ k1 k2 m.c1 c2 c3 (m.fz 1) f2 f3).mono ?_
  rintro e w' ⟨rfl,n,rfl⟩;exact⟨rfl,key n⟩
end
theorem infoU64:(prog.info? 65).map (fun i=>(i.zero,i.size,i.bytes))=some (some (.int .u64 0),1,8):=by kernel_rfl
section
variable {w w1:World} {b W h:Nat} {R:Nat->Value} {L:Nat->List Nat}
theorem MemV.put_row (m:MemV w b W h R L) {r:Nat} (hr:r<4) {v:Value} {l:List Nat} (hf:Fr (fun i=>(R r).ownBlock=some i) w w1) (hv:w1.ownsRow 0 65 1 v l.length (u64s l)) (hs:∀g,v.ownBlock=some g->(R r).ownBlock=some g\/w.heap.size<=g):
  MemV (w1.setCell ⟨b,2+r,none⟩ v) b W h (JD R r v) (JD L r l)/\(∀i,Own b (JD R r v) i->Own b R i\/w.heap.size<=i)/\Fr (Own b R) w (w1.setCell ⟨b,2+r,none⟩ v):=by
 have hb:¬(R r).ownBlock=some b:=m.far r hr;have hg:∀g,v.ownBlock=some g->g≠b/\∀s,s<4->s≠r->(R s).ownBlock≠some g:=fun g hg=>by
  rcases hs g hg with e|e
  ·exact⟨fun q=>hb (q▸e),fun s hs4 hne hsg=>m.sep r s hr hs4 (fun q=>hne q.symm) g e hsg⟩
  ·exact⟨fun q=>by have:=m.lt;omega,fun s hs4 _ hsg=>by have:=((m.own s hs4).lt g hsg).2;omega⟩
 have hc1:∀(o:Nat) (u:Value),w.cell? ⟨b,o,none⟩=some u->w1.cell? ⟨b,o,none⟩=some u:=fun o u hu=>hf.cell_some hu hb;have hc:∀(o:Nat) (u:Value),o≠2+r->w.cell? ⟨b,o,none⟩=some u->(w1.setCell ⟨b,2+r,none⟩ v).cell? ⟨b,o,none⟩=some u:=fun o u ho hu=>(World.cell?_setCell_other _ _ _ _ (by intro q;injection q with _ q2;exact ho q2.symm)).trans (hc1 o u hu);have hfb:Fr (·=b) w1 (w1.setCell ⟨b,2+r,none⟩ v):=(Fr.refl (·=b) w1).setCell (p:=⟨b,2+r,none⟩) (.inl rfl) _;refine⟨⟨hc 0 _ (by omega) m.c0,hc 1 _ (by omega) m.c1,fun s hs4=>?_,fun j=>(World.frozen?_setCell _ _ _ _).trans ((hf.frozen m.lt hb).trans (m.fz j)),fun s hs4=>?_,fun s t hs4 ht4 hne g=>?_,fun s hs4=>?_⟩,fun i hi=>?_,?_⟩
 ·by_cases e:s=r
  ·subst e;rw[js];exact World.cell?_setCell_same _ _ _ (hc1 _ _ (m.cr s hs4))
  ·rw[jh _ _ e];exact hc _ _ (by omega) (m.cr s hs4)
 ·by_cases e:s=r
  ·subst e;rw[js,js];exact hfb.own hv (fun g hg' q=>(hg g hg').1 q)
  ·rw[jh _ _ e,jh _ _ e]
   exact hfb.own (hf.own (m.own s hs4) (fun g hg' q=>m.sep r s hr hs4 (fun x=>e x.symm) g q hg')) (fun g hg' q=>m.far s hs4 (q▸hg'))
 ·by_cases e:s=r
  ·subst e
   rw[js,jh _ _ (fun q=>hne q.symm)];exact fun hg'=>(hg g hg').2 t ht4 (fun q=>hne q.symm)
  ·rw[jh _ _ e]
   by_cases e2:t=r
   ·subst e2
    rw[js];exact fun hg' hg2=>(hg g hg2).2 s hs4 e hg'
   ·rw[jh _ _ e2]
    exact m.sep s t hs4 ht4 hne g
 ·by_cases e:s=r
  ·subst e;rw[js];exact fun hg'=>(hg b hg').1 rfl
  ·rw[jh _ _ e];exact m.far s hs4
 ·rcases hi with rfl|⟨s,hs4,hg'⟩
  ·exact .inl (.inl rfl)
  ·by_cases e:s=r
   ·subst e
    rw[js] at hg';rcases hs i hg' with a|a
    ·exact .inl (.inr ⟨s,hs4,a⟩)
    ·exact .inr a
   ·rw[jh _ _ e] at hg'
    exact .inl (.inr ⟨s,hs4,hg'⟩)
 ·exact(hf.mono (fun i hi=>.inl (.inr ⟨r,hr,hi⟩))).setCell (.inl (.inl rfl)) _
theorem jmo {r:Nat} {tmp:Obj} (hg:(w.alloc tmp).grownBy w1 (R r).ownBlock):Fr (fun i=>(R r).ownBlock=some i) w w1:=
 ((Fr.refl _ w).alloc tmp).grown hg (fun _ hk=>.inl hk)
def Jz (M:List Nat) (k:Nat):List Nat:=M++List.replicate k 0
theorem ZY (M:List Nat) (k:Nat):(Jz M k).length=M.length+k:=by simp[Jz]
theorem jje (M:List Nat) (k:Nat):u64s (Jz M k)++[Value.int .u64 0]=u64s (Jz M (k+1)):=by
 unfold Jz;rw[List.replicate_succ',<-List.append_assoc,Jd (M++List.replicate k 0)];rfl
theorem jrB {w0:World} {O:Nat->Prop} {R':Nat->Value} {L':Nat->List Nat} {h':Nat} (h1:∀i,Own b R i->O i\/w0.heap.size<=i) (h2:Fr O w0 w) (m:MemV w1 b W h' R' L') (h3:∀i,Own b R' i->Own b R i\/w.heap.size<=i) (h4:Fr (Own b R) w w1):MS w0 O w1 b W h' L':=by
 refine⟨R',m,fun i hi=>?_,h2.trans h4 h1⟩;rcases h3 i hi with a|a
 ·exact h1 i a
 ·exact .inr (zqs h2.size a)
theorem juq (x j:Nat) (hx:x<18446744073709551616) (hj:j<64):bits BinOp.or IntKind.u64 (x:Int) (IntKind.u64.wrap (2^j))=((x|||2^j:Nat):Int):=by
 have h2:2^j<2^64:=Nat.pow_lt_pow_right (by decide) hj;have e:IntKind.u64.wrap (2^j)=((2^j:Nat):Int):=by
  rw[IntKind.wrap_u64];push_cast;have h3:((2:Int)^j)<18446744073709551616:=by
   have:=Int.ofNat_lt.2 h2;rw[Int.natCast_pow] at this;exact this
  have h4:(0:Int)<2^j:=Int.pow_pos (by decide);omega
 rw[e,u64_or_nat x _ hx h2]
theorem jn0 {M:List Nat} (hM:∀y∈M,y<18446744073709551616) (k i:Nat):(Jz M k).getD i 0<18446744073709551616:=by
 rw[zqi];cases e:(Jz M k)[i]? with
 |none=>simp
 |some y=>
  rcases List.mem_append.1 (zqc e) with h|h
  ·exact hM y h
  ·have:=List.eq_of_mem_replicate h
   simp[this]
theorem jh0 (m:MemV w b W h R L) (z:jao W h L):
  Calls prog 74 #[.pointer (some ⟨b,2+h*2,none⟩)] w fun e w'=>e=.returned (.tuple #[])/\MS w (Own b R) w' b W h (JD L (h*2+1) (qT (L (h*2+1)) (L (h*2)).length)):=by
 obtain⟨i0,hi,hz0,hz1,hz2⟩:=info_parts infoU64;have hh:=z.hh;have cr:=m.cr (h*2) (by omega);obtain⟨a,cap,hv,hle,hcap⟩:=m.shape (r:=h*2) (by omega);rw[hv] at cr;have hl:=z.len (h*2) (by omega);have hl2:=z.len (h*2+1) (by omega);obtain⟨c,hc⟩:∃c,(L (h*2)).length=c:=⟨_,rfl⟩;obtain⟨M,hM⟩:∃M,L (h*2+1)=M:=⟨_,rfl⟩;rw[hc] at cr hle hl ⊢;rw[hM] at hl2 ⊢;have HR0:=hid (show MS w (Own b R) w b W h (JD L (h*2+1) (Jz M 0)) from by
  refine⟨R,MemV.congr m fun r _=>?_,fun _ h=>.inl h,Fr.refl _ _⟩;by_cases e:r=h*2+1
  ·subst e;rw[js,hM];simp[Jz]
  ·rw[jh _ _ e])
 have HW:=hid (show∀y∈M,y<18446744073709551616 from by rw[<-hM];exact z.word _ (by omega));clear m z hv hM hc;go_enter Tryz.func74,Tryz.ntmps74;go_wp2;go_loopg [24] (c/64+1-M.length) (fun g _ wr=>∃k,k<=c/64+1-M.length/\g=c/64+1-M.length-k/\MS w (Own b R) wr b W h (JD L (h*2+1) (Jz M k)))
 case atStart=>exact⟨0,Nat.zero_le _,by omega,HR0.out⟩
 case round=>
  obtain⟨k,hk,hg,R1,m1,ho1,hf1⟩:=hrel;have HG:=hid hg;have HO1:=hid ho1;have HF1:=hid hf1;have hrow:wr.cell? ⟨b,2+h*2+1,none⟩=some (R1 (h*2+1)):=m1.cr (h*2+1) (by omega);obtain⟨a1,cap1,hv1,hle1,hcap1⟩:=m1.shape (r:=h*2+1) (by omega);rw[js,ZY] at hv1 hle1;rw[hv1] at hrow;have hown:wr.ownsRow 0 65 1 (.slice a1 (M.length+k) cap1) (M.length+k) (u64s (Jz M k)):=by
   have:=m1.own (h*2+1) (by omega);rw[js,ZY,hv1] at this;exact this
  have hfz:=m1.fz (2+h*2+1);have HV1:=hid hv1;have HM1:=hid m1;clear hg ho1 hf1 hv1 m1;by_cases hlt:M.length+k<=c/64
  ·go_wp2_with (at_builtin;refine wpList_append_own_at _ rfl _ _ 51 rfl 0 65 i0 (.int .u64 0) 1 8 Tryz.underlying51 hi hz0 hz1 hz2 rfl (by decide) (.slice a1 (M.length+k) cap1) _ _ rfl (hown.alloc _) ⟨wr.heap.size,0,none⟩ 1 1 [.int .u64 0] rfl rfl (cell_one_new _ _ _) (by simp[Value.oneCell']) (by unfold maxLen;omega) (by omega) (Nat.zero_le _) ?_;intro v' w1 hown' hgrow _ hblk;rw[jje] at hown';obtain⟨g2,cap2,rfl⟩:=ownsRow_succ (k:=M.length+k) hown';have hfr:=jmo (R:=R1) (r:=h*2+1) (by rw[HV1.out];exact hgrow);have hc1:=hfr.cell_some hrow (HM1.out.far _ (by omega));have hf1:=(hfr.frozen (p:=⟨b,2+h*2+1,none⟩) HM1.out.lt (HM1.out.far _ (by omega))).trans hfz;have HFR:=hid hfr;have HOWN':=hid hown';have HBLK:=hid hblk;clear hfr hown' hblk hgrow hown)
   go_roundg (c/64+1-M.length-(k+1))
   case measure=>have:=HG.out;omega
   case rel=>
    refine⟨k+1,by omega,rfl,?_⟩;have hp:=HM1.out.put_row (r:=h*2+1) (by omega) (l:=Jz M (k+1)) HFR.out (by rw[ZY,<-Nat.add_assoc];exact HOWN'.out) (fun g hg=>by
     rcases HBLK.out with e|e
     ·left;rw[HV1.out,<-e];exact hg
     ·right;rw[e] at hg;injection hg with hg;simp at hg;omega)
    refine jrB HO1.out HF1.out (MemV.congr hp.1 fun r _=>?_) hp.2.1 hp.2.2;by_cases e:r=h*2+1
    ·subst e;rw[js,js]
    ·rw[jh _ _ e,jh _ _ e,jh _ _ e]
  ·have hn:M.length+k=max M.length (c/64+1):=by omega
   have hlen:(Jz M k).length=M.length+k:=ZY M k;have hin:c/64<M.length+k:=by omega
   obtain⟨g1,cap2,hv2,_,_⟩:=HM1.out.some_row (r:=h*2+1) (j:=c/64) (by omega) (by rw[js,hlen];exact hin);have hcell:=HM1.out.row_cell (r:=h*2+1) (j:=c/64) (by omega) (by rw[js,hlen];exact hin) hv2;rw[js,hlen] at hv2;rw[js] at hcell;rw[HV1.out] at hv2;injection hv2 with hx1 _ hx2;subst hx1 hx2;obtain⟨x,hx⟩:∃x,(Jz M k).getD (c/64) 0=x:=⟨_,rfl⟩;rw[hx] at hcell;obtain⟨hc1,hc2⟩:=hcell;have hi0:(0:Int)<=(c:Int)/64:=by omega
   have hi1:(c:Int)/64<(M.length:Int)+k:=by omega
   have HX:=hid hx;clear hn hlen hown hx hi hz0 hz1 hz2;go_wp2_with fail;go_region;go_end0;have hk2:k=c/64+1-M.length:=by omega
   have hxl:x<18446744073709551616:=by rw[<-HX.out];exact jn0 HW.out _ _
   have hbit:=juq x (c%64) hxl (Nat.mod_lt _ (by decide));rw[hbit];have m2:=HM1.out.set_cell (r:=h*2+1) (j:=c/64) (z:=x|||2^(c%64)) (by omega) HV1.out;refine⟨rfl,jrB HO1.out HF1.out ((MemV.congr m2 fun r _=>?_).drewN 1) (fun _ h=>.inl h) (((Fr.refl _ _).setCell (.inl (.inr ⟨h*2+1,by omega,by rw[HV1.out];rfl⟩)) _).drewN 1)⟩;by_cases e:r=h*2+1
   ·subst e
    rw[js,js,js,<-HX.out,hk2];rfl
   ·rw[jh _ _ e,jh _ _ e,jh _ _ e]
end
section
open Go Go.RowKit Go.Shelf Go.Lib
def jr7:Go.Shelf.Ren:=⟨fun|4=>75|n=>n,fun|0=>0|3=>3|4=>4|9=>9|20=>20|22=>51|25=>65|n=>n,fun|n=>n⟩
theorem jhO:Go.Proofs.Lays8.n4 prog jr7:={
 mixed:=by kernel_rfl
 f4:=⟨Tryz.f75.name,by decide,Tryz.func75.trans (congrArg some (by kernel_rfl))⟩
 t0:=Tryz.underlying0
 a0:=Tryz.isAgg0
 z0:=Tryz.sizeOf0
 v0:=Tryz.zeroValue0
 t3:=Tryz.underlying3
 a3:=Tryz.isAgg3
 z3:=Tryz.sizeOf3
 v3:=Tryz.zeroValue3
 t4:=Tryz.underlying4
 a4:=Tryz.isAgg4
 z4:=Tryz.sizeOf4
 v4:=Tryz.zeroValue4
 t9:=Tryz.underlying9
 a9:=Tryz.isAgg9
 z9:=Tryz.sizeOf9
 v9:=Tryz.zeroValue9
 t20:=Tryz.underlying20
 a20:=Tryz.isAgg20
 z20:=Tryz.sizeOf20
 v20:=Tryz.zeroValue20
 t22:=Tryz.underlying51
 a22:=Tryz.isAgg51
 z22:=Tryz.sizeOf51
 v22:=Tryz.zeroValue51}
theorem js5 (z:Value) (n:Nat) (h:z.cells.size=1):(Builtin.zeroCells z.cells n).size=n:=by
 rw[size_zeroCells,h,Nat.mul_one]
theorem jpA {w:World} {v:Value} {n k:Nat} {xs:List Value} (hown:w.ownsRow 0 65 1 v n xs) (hk:1<=k) (hk2:n+k<=1000000):
  Calls prog 75 #[v,.int .i64 k] w fun e w'=>(∃v',e=.returned v'/\w'.ownsRow 0 65 1 v' n xs/\∀g,v'.ownBlock=some g->v.ownBlock=some g\/w.heap.size<=g)/\Fr (fun _=>False) w w':=by
 obtain⟨i0,hi,hz0,hz1,hz2⟩:=info_parts infoU64;have grown:∀(a:Option Addr) (c:Nat) (cs:List Value),n<=c->c<n+k->cs.length=c->cs.take n=xs->(a=none->c=0)->(∀x,a=some x->∀j u,cs[j]?=some u->w.cell? (x.add j)=some u)→
   Calls prog 75 #[.slice a n c,.int .i64 k] w fun e w'=>(∃v',e=.returned v'/\w'.ownsRow 0 65 1 v' n xs/\∀g,v'.ownBlock=some g->(Value.slice a n c).ownBlock=some g\/w.heap.size<=g)/\Fr (fun _=>False) w w':=by
  intro a c cs h1 h2 h3 h4 h5 h6;have h:=Any8.slices_Grow_grow jhO i0 (.int .u64 0) hi hz0 (by rw[hz1];decide) a n c k cs w h1 h2 (by rw[hz2];omega) (by omega) (by rw[hz1,h3,Nat.mul_one]) h5 h6;refine Calls.mono h ?_;rintro e w' ⟨rfl,rfl⟩;have hG1:=grownCap_ge w (n+k) c 65;have hG2:=grownCap_le_maxLen w (n+k) c 65 (by unfold maxLen;omega);refine⟨⟨_,rfl,⟨by rw[<-h4,List.length_take];omega,.inr ⟨w.heap.size,_,_,rfl,Nat.zero_le _,zqe w.drew _,?_,hG2,?_,?_⟩⟩,fun g hg=>.inr ?_⟩,((Fr.refl _ w).drew).alloc _⟩
  ·exact zqs (by omega) hG1
  ·simp only[Array.size_append,List.size_toArray,js5 (.int .u64 0) _ rfl,h3]
   show c+(n+k-c)+(grownCap w (n+k) c 65-(n+k))=grownCap w (n+k) c 65*1;omega
  ·rw[Nat.mul_one,Array.toList_append,Array.toList_append,List.append_assoc,List.take_append_of_le_length (by simp;omega)]
   exact h4
  ·have:w.heap.size=g:=by simpa[Value.ownBlock] using hg
   omega
 rcases hown.2 with⟨rfl,rfl⟩|⟨g,cap,cur,rfl,hb,hg,h1,h2,h3,h4⟩
 ·have hxs:xs=[]:=List.eq_nil_of_length_eq_zero (by simpa using hown.1)
  subst hxs;exact grown none 0 [] (zqg _) (by omega) rfl rfl (fun _=>rfl) (fun _ h=>by cases h)
 ·by_cases hr:n+k<=cap
  ·refine Calls.mono (Any8.slices_Grow_room jhO (some ⟨g,0,none⟩) n cap k w h1 (by simpa[maxLen] using h2) (by omega) hr) ?_
   rintro e w' ⟨rfl,rfl⟩;exact⟨⟨_,rfl,hown,fun _ h=>.inl h⟩,Fr.refl _ _⟩
  ·refine grown (some ⟨g,0,none⟩) cap cur.toList h1 (by omega) (by rw[Array.length_toList,h3,Nat.mul_one]) (by rw[<-h4,Nat.mul_one]) (fun h=>by cases h) ?_
   intro x hx j u hu;obtain rfl:=zqd hx;have hadd:(⟨g,0,none⟩:Addr).add j=⟨g,j,none⟩:=by unfold Addr.add;split<;>simp_all
   rw[hadd,cell_of_row w g j cur 65 (0,0) hg];simpa using hu
end
theorem jpI (w:World):Calls prog 41 #[.int .i64 0] w fun e w'=>e=.returned (.int .u64 1)/\w'=w:=by
 have h:bits BinOp.or IntKind.u64 0 1=1:=by decide
 go_enter Tryz.func41,Tryz.ntmps41;go_wp2;go_ret;exact⟨jY h,rfl⟩
section
variable {w:World} {b W h:Nat} {R:Nat->Value} {now old:List Ob}
theorem jr8 {w:World} {v:Value} {n k:Nat} {xs:List Value} (K:Int) (hK:K=(k:Nat)) (hown:w.ownsRow 0 65 1 v n xs) (hk:1<=k) (hk2:n+k<=1000000):
  Calls prog 75 #[v,.int .i64 K] w fun e w'=>(∃a c,e=.returned (.slice a n c)/\w'.ownsRow 0 65 1 (.slice a n c) n xs/\∀g,(Value.slice a n c).ownBlock=some g->v.ownBlock=some g\/w.heap.size<=g)/\Fr (fun _=>False) w w':=by
 subst hK;refine(jpA hown hk hk2).mono ?_;rintro e w' ⟨⟨v',rfl,h1,h2⟩,h3⟩;rcases h1.2 with⟨rfl,rfl⟩|⟨g,cap,cur,rfl,_⟩
 ·exact⟨⟨_,_,rfl,h1,h2⟩,h3⟩
 ·exact⟨⟨_,_,rfl,h1,h2⟩,h3⟩
structure ST (w:World) (O:Nat->Prop) (b W h:Nat) (L:Nat->List Nat) (wr:World) (R1:Nat->Value):Prop where
 m:MemV wr b W h R1 L
 sub:∀i,Own b R1 i->O i\/w.heap.size<=i
 fr:Fr O w wr
section
variable {O:Nat->Prop}
include O
theorem ST.ms {L:Nat->List Nat} {wr:World} {R1:Nat->Value} (s:ST w O b W h L wr R1):MS w O wr b W h L:=⟨R1,s.m,s.sub,s.fr⟩
theorem ST.drewN {L:Nat->List Nat} {wr:World} {R1:Nat->Value} (s:ST w O b W h L wr R1) (n:Nat):ST w O b W h L (wr.drewN n) R1:=⟨s.m.drewN n,s.sub,s.fr.drewN n⟩
theorem ST.congr {L L':Nat->List Nat} {wr:World} {R1:Nat->Value} (s:ST w O b W h L wr R1) (e:∀r,r<4->L r=L' r):ST w O b W h L' wr R1:=⟨s.m.congr e,s.sub,s.fr⟩
theorem ST.put {L:Nat->List Nat} {wr w1:World} {R1:Nat->Value} (s:ST w O b W h L wr R1) {r:Nat} (hr:r<4) {v:Value} {l:List Nat} (hf:Fr (fun i=>(R1 r).ownBlock=some i) wr w1) (hv:w1.ownsRow 0 65 1 v l.length (u64s l)) (hs:∀g,v.ownBlock=some g->(R1 r).ownBlock=some g\/wr.heap.size<=g):
  ST w O b W h (JD L r l) (w1.setCell ⟨b,2+r,none⟩ v) (JD R1 r v):=by
 obtain⟨a1,a2,a3⟩:=s.m.put_row hr hf hv hs;refine⟨a1,fun i hi=>?_,s.fr.trans a3 s.sub⟩;rcases a2 i hi with a|a
 ·exact s.sub i a
 ·exact .inr (zqs s.fr.size a)
theorem ST.step {L L':Nat->List Nat} {wr w1:World} {R1:Nat->Value} (s:ST w O b W h L wr R1) (hm:MS wr (Own b R1) w1 b W h L'):∃R2,ST w O b W h L' w1 R2:=by
 obtain⟨R2,m2,h2,f2⟩:=hm;refine⟨R2,m2,fun i hi=>?_,s.fr.trans f2 s.sub⟩;rcases h2 i hi with a|a
 ·exact s.sub i a
 ·exact .inr (zqs s.fr.size a)
end
theorem QF (w:World) (x:Value) (t:TypeId) (g:Nat) (hg:w.heap.size=g):∀j u,[x][j]?=some u->(w.alloc (.cells #[x] t)).cell? ((⟨g,0,none⟩:Addr).add j)=some u:=by
 subst hg;exact cell_one_new w x t
theorem ST.row {O:Nat->Prop} {L:Nat->List Nat} {wr:World} {R1:Nat->Value} (s:ST w O b W h L wr R1) {r:Nat} (hr:r<4):∃a cap,R1 r=.slice a (L r).length cap/\wr.cell? ⟨b,2+r,none⟩=some (.slice a (L r).length cap)/\wr.frozen? ⟨b,2+r,none⟩=false/\wr.ownsRow 0 65 1 (.slice a (L r).length cap) (L r).length (u64s (L r))/\(L r).length<=cap/\cap<=9223372036854775807:=by
 obtain⟨a,cap,hv,h1,h2⟩:=s.m.shape hr;exact⟨a,cap,hv,(s.m.cr r hr).trans (by rw[hv]),s.m.fz _,by rw[<-hv];exact s.m.own r hr,h1,h2⟩
theorem ST.far {O:Nat->Prop} {L:Nat->List Nat} {wr w1:World} {R1:Nat->Value} (s:ST w O b W h L wr R1) {r:Nat} (hr:r<4) (hf:Fr (fun i=>(R1 r).ownBlock=some i) wr w1):(∀o v,wr.cell? ⟨b,o,none⟩=some v->w1.cell? ⟨b,o,none⟩=some v)/\(∀o,w1.frozen? ⟨b,o,none⟩=false):=
 ⟨fun o _ hv=>hf.cell_some (p:=⟨b,o,none⟩) hv (s.m.far r hr),fun o=>(hf.frozen (p:=⟨b,o,none⟩) s.m.lt (s.m.far r hr)).trans (s.m.fz o)⟩
theorem ST.app {O:Nat->Prop} {L:Nat->List Nat} {wr w1:World} {R1:Nat->Value} (s:ST w O b W h L wr R1) {r:Nat} (hr:r<4) {u v':Value} (hv:R1 r=u) {tmp:Obj} {n:Nat} {l:List Nat} (hn:l.length=n) (hown:w1.ownsRow 0 65 1 v' n (u64s l)) (hgrow:(wr.alloc tmp).grownBy w1 u.ownBlock) (hblk:v'.ownBlock=u.ownBlock\/v'.ownBlock=some (wr.alloc tmp).heap.size):
  w1.cell? ⟨b,2+r,none⟩=some u/\w1.frozen? ⟨b,2+r,none⟩=false/\ST w O b W h (JD L r l) (w1.setCell ⟨b,2+r,none⟩ v') (JD R1 r v'):=by
 subst hv hn;have hfr:=jmo (R:=R1) hgrow;obtain⟨q1,q2⟩:=s.far hr hfr;refine⟨q1 _ _ (s.m.cr r hr),q2 _,s.put hr hfr hown fun g hg=>?_⟩;rcases hblk with e|e
 ·left;rw[<-e];exact hg
 ·right
  rw[e] at hg;have:=zqd hg;simp at this;omega
theorem u64s_snoc (l:List Nat) (x:Nat):u64s l++[Value.int .u64 (x:Int)]=u64s (l++[x]):=by rw[Jd];rfl
theorem ST.drew {O:Nat->Prop} {L:Nat->List Nat} {wr:World} {R1:Nat->Value} (s:ST w O b W h L wr R1):ST w O b W h L wr.drew R1:=s.drewN 1
theorem jmr {g n cap H:Nat} {u:Value} {W1:World} (h:u.ownBlock=some g\/g=H) (hH:W1.heap.size=H):(Value.slice (some ⟨g,0,none⟩) n cap).ownBlock=u.ownBlock\/(Value.slice (some ⟨g,0,none⟩) n cap).ownBlock=some W1.heap.size:=by
 rcases h with e|e
 ·left;rw[e];rfl
 ·right;rw[hH,<-e];rfl
theorem jra (l:List Nat) (H q x:Nat):u64s (l++H::List.replicate q x)++[Value.int .u64 (x:Int)]=u64s (l++H::List.replicate (q+1) x):=by
 rw[u64s_snoc,List.replicate_succ',List.append_assoc,List.cons_append]
theorem jqL (l c:List Nat) (p:Nat):u64s (l++(c++List.replicate p 0))++[Value.int .u64 ((0:Nat):Int)]=u64s (l++(c++List.replicate (p+1) 0)):=by
 rw[u64s_snoc,List.replicate_succ',List.append_assoc,List.append_assoc]
def zH (k s t:Nat):Ob:=⟨k,t,List.replicate t 1++List.replicate (s-t) 0,0⟩
def qu (h:Nat) (now old:List Ob) (M f:List Nat):Nat->List Nat:=JD (JD (jR h now old) (h*2+1) M) (h*2) (za now++f)
theorem qG (M f:List Nat):qu h now old M f (h*2)=za now++f:=js _ _ _
theorem Q8 (M f g:List Nat) (r:Nat):JD (qu h now old M f) (h*2) (za now++g) r=qu h now old M g r:=by
 unfold qu;by_cases e:r=h*2
 ·subst e;rw[js,js]
 ·rw[jh _ _ e,jh _ _ e,jh _ _ e]
theorem jot {k s t:Nat} (hts:t<=s) (r:Nat):qu h now old (qT (qg now) (used now)) (JZ k s t::(List.replicate t 1++List.replicate (s-t) 0)) r=jR h (now++[zH k s t]) old r:=by
 unfold qu;by_cases e:r=h*2
 ·subst e
  rw[js,jT,zb,QK];have hl:(zH k s t).ws.length=s:=by simp[zH];omega
  show _=za now++((zH k s t).hw::(zH k s t).ws++[]);rw[List.append_nil];have hw:(zH k s t).hw=JZ k s t:=by
   unfold Ob.hw;rw[hl];rfl
  rw[hw];rfl
 ·rw[jh _ _ e]
  by_cases e2:r=h*2+1
  ·subst e2
   rw[js,JA,zb,QO]
  ·rw[jh _ _ e2]
   unfold jR;have q:¬r/2=h:=by omega
   rw[if_neg q,if_neg q]
theorem jo4 (m:zi w b W h R now old) (z:WF W h now old) (k s t:Nat) (hr:qw k s t=true) (hf:used now+s+1<=W):Calls prog 30 #[.pointer (some ⟨b,0,none⟩),.int .i64 k,.int .i64 s,.int .i64 t] w fun e w'=>e=.returned (.tuple #[.int .i64 (jx h W (used now)),.int .i64 0])/\MS w (Own b R) w' b W h (jR h (now++[zH k s t]) old):=by
 obtain⟨i0,hi,hz0,hz1,hz2⟩:=info_parts infoU64;have hhd:=fun W=>jk3 k s t hr W;obtain⟨_,_,s0,s1,t0,t1⟩:=zR hr;obtain⟨H,hH⟩:∃H:Nat,JZ k s t=H:=⟨_,rfl⟩;have hHI:jhQ k s t=(H:Int):=by rw[<-hH];unfold jhQ JZ;omega
 rw[hHI] at hhd;have HH:=hid hH;have HC:=hid hhd;have hW1:=z.w1;have hh:=z.hh;have hfr:=jhM m z.sizes;rw[jT,zb,jL] at hfr;have HF:=hid hfr;obtain⟨A,hA⟩:∃A,jx h W (used now)=A:=⟨_,rfl⟩;rw[hA];have HA:=hid hA;have HM:=hid m;have HZ:=hid z;have HTS:=hid (show t<=s by omega);obtain⟨u,hu⟩:∃u,used now=u:=⟨_,rfl⟩;have HU:=hid hu;rw[hu] at HF hf;obtain⟨MM,hMM⟩:∃MM,qT (qg now) (used now)=MM:=⟨_,rfl⟩;have HMM:=hid hMM;clear hr hfr m z hA hhd hHI hH hu hMM;go_enter Tryz.func30,Tryz.ntmps30;go_wp2_with fail;refine(HC.out _).mono ?_;rintro e w' ⟨rfl,rfl⟩;go_wp2_with fail;refine HF.out.mono ?_;rintro e w1 ⟨rfl,n,hn⟩;have S1:ST w (Own b R) b W h (jR h now old) w1 R:=by rw[hn];exact⟨HM.out.drewN n,fun _ h=>.inl h,(Fr.refl _ _).drewN n⟩
 have HS1:=hid S1;have c1:=S1.m.c1;have hh0:(0:Int)<=h:=by omega
 have hh1:(h:Int)<2:=by omega
 clear hn S1;go_wp2_with fail;have hnx:∀n',Calls prog 28 #[.pointer (some ⟨b,0,none⟩)] (w1.drewN n') fun e w'=>e=.returned (.int .i64 A)/\∃m,w'=(w1.drewN n').drewN m:=fun n'=>by
  have:=jd7 (HS1.out.m.drewN n') HZ.out.sizes;rw[jT,zb,jL,HA.out] at this;exact this
 have HNX:=hid hnx;clear hnx;go_quiet ((go_at_call 28;refine Calls.quiet_of (HNX.out _)));go_wp2_with fail;refine(jh0 (HS1.out.drewN nq).m HZ.out.sizes).mono ?_;rintro e w2 ⟨rfl,hms⟩;rw[jT,JA,zb,jL,HMM.out] at hms;obtain⟨R2,S2⟩:=(HS1.out.drewN nq).step hms;have S2':ST w (Own b R) b W h (qu h now old MM []) w2 R2:=S2.congr fun r _=>by
  unfold qu;rw[List.append_nil];by_cases e:r=h*2
  ·subst e;rw[js,jh _ _ (by omega),jT,zb]
  ·rw[jh (r:=h*2) _ _ e]
 have HS2:=hid S2';obtain⟨a2,cap2,hv2,hc2,hf2,hown2,hle2,hcm2⟩:=S2'.row (r:=h*2) (by omega);have hlen2:(qu h now old MM [] (h*2)).length=u:=by rw[qG,List.append_nil,jL,HU.out]
 rw[hlen2] at hv2 hc2 hown2 hle2;have HV2:=hid hv2;have HO2:=hid hown2;clear hms S2 S2' hv2 hown2 hlen2;go_wp2_with fail;refine(jr8 (k:=s+1) _ (by omega) HO2.out (by omega) (by omega)).mono ?_;rintro e w3 ⟨⟨a3,cap3,rfl,hown3,hblk3⟩,hfr3⟩;have hfr3':Fr (fun i=>(R2 (h*2)).ownBlock=some i) w2 w3:=hfr3.mono (fun _ h=>h.elim);obtain⟨q1,q2⟩:=HS2.out.far (r:=h*2) (by omega) hfr3';have c3:=q1 _ _ hc2;have f3:=q2 (2+h*2);have hfl:(za now++[]).length=u:=by rw[List.append_nil,jL,HU.out]
 have S3:=HS2.out.put (r:=h*2) (by omega) (v:=.slice a3 u cap3) (l:=za now++[]) hfr3' (by rw[hfl];rw[qG] at hown3;exact hown3) (by rw[HV2.out];exact hblk3);have S3':=S3.congr fun r _=>Q8 (h:=h) (now:=now) (old:=old) MM [] [] r;have HS3:=hid S3';obtain⟨a4,cap4,hv4,hx4,hy4,hown4,hle4,hcm4⟩:=S3'.row (r:=h*2) (by omega);clear hx4 hy4;rw[js] at hv4;rw[qG,hfl] at hv4 hown4 hle4;injection hv4 with e1 e3 e2;clear e3;subst e1 e2;have HO4:=hid hown4;have HFL:=hid hfl;clear hfr3 hfr3' q1 q2 hblk3 hown3 S3 S3' hown4 c1 hc2 hf2 hfl;go_wp2_with (at_builtin;refine wpList_append_own_at _ rfl _ _ 51 rfl 0 65 i0 (.int .u64 0) 1 8 Tryz.underlying51 hi hz0 hz1 hz2 rfl (by decide) (.slice a3 u cap3) _ _ rfl (HO4.out.alloc _) ⟨w3.heap.size,0,none⟩ 1 1 [.int .u64 H] rfl rfl (QF _ _ _ _ (by simp)) (by simp[Value.oneCell']) (by unfold maxLen;omega) (by omega) (Nat.zero_le _) ?_;intro v5 w5 hown5 hgrow5 _ hblk5;rw[u64s_snoc,List.append_assoc] at hown5;obtain⟨g5,cap5,rfl⟩:=ownsRow_succ (k:=u) hown5;obtain⟨x5,y5,S5⟩:=HS3.out.app (r:=h*2) (by omega) (js _ _ _) (by rw[zqm,jL,HU.out];rfl) hown5 hgrow5 hblk5;have HS5:=hid (S5.congr fun r _=>Q8 (h:=h) (now:=now) (old:=old) MM [] [H] r);clear S5 hown5 hgrow5 hblk5);go_loopw [64] (fun i wr=>∃(q:Nat) (Rq:Nat->Value),q<=t/\i=.int .i64 q/\ST w (Own b R) b W h (qu h now old MM (H::List.replicate q 1)) wr Rq) (fun i _=>t-(intOf i).toNat)
 case atStart=>exact⟨0,_,Nat.zero_le _,rfl,HS5.out⟩
 case round=>
  obtain⟨q,Rq,hq,rfl,Sq⟩:=hrel;have HSq:=hid Sq;obtain⟨aq,capq,hvq,hcq,hfq,hownq,hleq,hcmq⟩:=Sq.row (r:=h*2) (by omega);have hlq:(qu h now old MM (H::List.replicate q 1) (h*2)).length=u+q+1:=by rw[qG,zqm,jL,HU.out];simp;omega
  rw[hlq] at hvq hcq hownq hleq;rw[qG] at hownq;have HVq:=hid hvq;have HOq:=hid hownq;have hbl:=Sq.m.lt;clear Sq hvq hownq hlq;by_cases hlt:q<t
  ·have hus:u+q+2<=100000:=by omega
   go_wp2_with fail;go_region_law ((first
    |(refine step_append_lies _ (by rfl) _ _ 51 (by rfl) 0 65 i0 (.int .u64 0) 1 8 Tryz.underlying51 hi hz0 hz1 hz2 rfl (by decide) (.slice aq (u+q+1) capq) _ _ (by rfl) ((HOq.out.drew).alloc _) ⟨wr.heap.size,0,none⟩ 1 1 [.int .u64 1] (by rfl) rfl (QF _ _ _ _ (by simp)) (by simp[Value.oneCell']) (by omega) (by unfold maxLen;omega) (by omega) (Nat.zero_le _) (wr.heap.size+1) (by simp) ?_;intro g6 cap6 w6 hown6 hgrow6 hblk6 hlt6;rw[show(Value.int .u64 1)=Value.int .u64 ((1:Nat):Int) from rfl,jra] at hown6;obtain⟨x6,y6,S6⟩:=HSq.out.drew.app (r:=h*2) (by omega) HVq.out (by rw[zqm,jL,HU.out];simp;omega) hown6 hgrow6 (jmr hblk6 (by simp));have HS6:=hid (S6.congr fun r _=>Q8 (h:=h) (now:=now) (old:=old) MM _ _ r);clear S6 hown6 hgrow6 hblk6)
    |(go_simp;go_at_call 41;refine(jpI _).mono ?_;rintro e w' ⟨rfl,rfl⟩)))
   all_goals
    go_wp2_with fail;go_roundw
    case rel=>exact⟨q+1,_,hlt,by go_num,HS6.out⟩
    case measure=>simp[intOf];omega
  ·obtain rfl:q=t:=by omega
   have hts:=HTS.out;have hq0:¬(q:Int)<q:=by omega
   clear hcq hfq hleq hcmq hbl HOq HVq;go_wp2_with fail;go_loopw [80] (fun i wr=>∃(p:Nat) (Rp:Nat->Value),p<=s-q/\i=.int .i64 p/\ST w (Own b R) b W h (qu h now old MM ((H::List.replicate q 1)++List.replicate p 0)) wr Rp) (fun i _=>(s-q)-(intOf i).toNat)
   case atStart=>exact⟨0,_,Nat.zero_le _,rfl,by rw[List.replicate_zero,List.append_nil];exact HSq.out⟩
   case round=>
    obtain⟨p,Rp,hp,rfl,Sp⟩:=hrel;by_cases hlt2:p<s-q
    ·have HSp:=hid Sp
     obtain⟨ap,capp,hvp,hcp,hfp,hownp,hlep,hcmp⟩:=Sp.row (r:=h*2) (by omega);have hlp:(qu h now old MM ((H::List.replicate q 1)++List.replicate p 0) (h*2)).length=u+q+1+p:=by rw[qG,zqm,jL,HU.out];simp;omega
     rw[hlp] at hvp hcp hownp hlep;rw[qG] at hownp;have HVp:=hid hvp;have HOp:=hid hownp;have hbl:=Sp.m.lt;clear Sp hvp hownp hlp;have hus:u+q+p+2<=100000:=by omega
     go_wp2_with (at_builtin;refine wpList_append_own_at _ rfl _ _ 51 rfl 0 65 i0 (.int .u64 0) 1 8 Tryz.underlying51 hi hz0 hz1 hz2 rfl (by decide) (.slice ap (u+q+1+p) capp) _ _ rfl (HOp.out.alloc _) ⟨_,0,none⟩ 1 1 [.int .u64 0] rfl rfl (cell_one_new _ _ _) (by simp[Value.oneCell']) (by unfold maxLen;omega) (by omega) (Nat.zero_le _) ?_;intro v7 w7 hown7 hgrow7 _ hblk7;rw[show(Value.int .u64 0)=Value.int .u64 ((0:Nat):Int) from rfl,jqL] at hown7;obtain⟨g7,cap7,rfl⟩:=ownsRow_succ (k:=u+q+1+p) hown7;obtain⟨x7,y7,S7⟩:=HSp.out.app (r:=h*2) (by omega) HVp.out (n:=u+q+1+p+1) (l:=za now++((H::List.replicate q 1)++List.replicate (p+1) 0)) (by rw[zqm,jL,HU.out];simp;omega) hown7 hgrow7 hblk7;have HS7:=hid (S7.congr fun r _=>Q8 (h:=h) (now:=now) (old:=old) MM _ _ r);clear S7 hown7 hgrow7 hblk7);go_roundw
     case rel=>exact⟨p+1,_,hlt2,by go_num,HS7.out⟩
     case measure=>simp[intOf];omega
    ·obtain rfl:p=s-q:=by omega
     have HE:=hid (show MS w (Own b R) wr b W h (jR h (now++[zH k s q]) old) from(Sp.congr fun r _=>by
      rw[<-jot (h:=h) (now:=now) (old:=old) (k:=k) hts r,HMM.out,HH.out];rfl).ms)
     clear Sp;go_wp2_with fail;go_ret2;exact⟨rfl,HE.out⟩
end
section
variable {w:World} {b W h:Nat} {R:Nat->Value} {now old:List Ob}
theorem Q3 {k s t:Nat} (h:t<=s):(zH k s t).ws.length=s:=by simp[zH];omega
theorem jiX {k s t:Nat} (z:WF W h now old) (hr:qw k s t=true) (hf:used now+s+1<=W):WF W h (now++[zH k s t]) old:=by
 have hb:=zR hr;have hl:(zH k s t).ws.length=s:=Q3 (by omega);refine⟨z.w0,z.w1,z.hh,?_,z.uo,fun o ho=>?_,z.oko,fun o ho=>?_⟩
 ·rw[z6,ZD,hl];omega
 ·rcases List.mem_append.1 ho with h|h
  ·exact z.okn o h
  ·obtain rfl:=List.mem_singleton.1 h
   refine⟨by rw[hl];exact hr,Nat.zero_le _,fun x hx=>?_⟩;rcases List.mem_append.1 hx with q|q
   ·have:=List.eq_of_mem_replicate q;omega
   ·have:=List.eq_of_mem_replicate q;omega
 ·rcases List.mem_append.1 ho with h|h
  ·exact z.fresh o h
  ·obtain rfl:=List.mem_singleton.1 h;rfl
end
section
variable {w:World} {b W h:Nat} {R:Nat->Value} {now old:List Ob}
theorem jhq (m:zi w b W h R now old) (z:WF W h now old) (k s t:Nat) (K S T A:Int) (hK:K=k) (hS:S=s) (hT:T=t) (hA:jx h W (used now)=A) (hr:qw k s t=true) (hf:used now+s+1<=W):
  Calls prog 30 #[.pointer (some ⟨b,0,none⟩),.int .i64 K,.int .i64 S,.int .i64 T] w fun e w'=>e=.returned (.tuple #[.int .i64 A,.int .i64 0])/\∃R',zi w' b W h R' (now++[zH k s t]) old/\(∀i,Own b R' i->Own b R i\/w.heap.size<=i)/\Fr (Own b R) w w':=by
 subst hK hS hT hA;exact jo4 m z k s t hr hf
end
theorem jbD {w:World} {b W h:Nat} {now old:List Ob} {R:Nat->Value} (m:zi w b W h R now old) (z:WF W h now old) {u:Nat} (hu:used now=u) (A:Int) (hA:(W:Int)-u=A):Calls prog 34 #[.pointer (some ⟨b,0,none⟩)] w fun e w'=>e=.returned (.int .i64 A)/\∃n,w'=w.drewN n:=by
 have:=jhM m z.sizes;rw[jT,zb,jL,hu,hA] at this;exact this
