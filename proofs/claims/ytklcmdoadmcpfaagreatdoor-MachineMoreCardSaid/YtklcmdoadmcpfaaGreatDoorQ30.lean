/- A part of the proof of MachineMoves. Conditions: those that each theorem names. -/
import Derived.Test.YtklcmdoadmcpfaaGreatDoorQ29
import Derived.Lib.ItoaLen
set_option maxRecDepth 100000
set_option maxHeartbeats 400000000
namespace Go.Proofs.YtklcmdoadmcpfaaGreatDoor
open Go Go.RowKit IsaL
open Go.Lib(hid)
open Go.Proofs.Tryz(prog)
section
variable {O:Nat->Prop} {w X:World} {g b:Nat} {C:CM} {R:Nat->Value} {vf vs vh:Value} {M:RM} {D:Nat->Prop} {f A:Nat->Nat} {E:List Nat} {k:Nat} {y:Fm}
section
variable (a:McAt O w g C b R vf vs vh) (ok:OkC C)
include a ok
theorem juM (A:Nat) (hA:A<16) (B:Nat) (hB:B<16) (D:Int) (n:Int) (HB:jj (C.rg B:Int)=false):
  Calls prog 98 #[.pointer (some ⟨g,0,none⟩),.agg #[.int .i64 34,.int .i64 A,.int .i64 B,.int .i64 D,.int .i64 n]] w fun e w'=>Did O w g b (C,7) e w':=by
 obtain⟨X,hX,hblk,hb0,hF0,r0,r1,r2,r3,r4⟩:=ji O w 34 A B D n;have aX:=a.below hb0;have HW:=hid hX;have i0:(0:Int)<=(A:Int):=by omega
 have i1:(A:Int)<16:=by omega
 have HA:=hid aX;have HF:=hid hF0;have hgO:=a.og;have hib:g≠w.heap.size:=fun e=>by have:=a.bx.lt;omega
 have gB:=aX.regc hB;have i2:(0:Int)<=(B:Int):=by omega
 have i21:(B:Int)<16:=by omega
 obtain⟨x,hx⟩:∃x,C.rg B=x:=⟨_,rfl⟩;have hxl:=ok.rg B hB;rw[hx] at gB hxl HB;have HIB:=hid (zf (by omega) (by omega) HB);clear a ok hblk hb0 hF0 hX aX hA;clear hx hxl hB HB;go_enter Tryz.func98,Tryz.ntmps98;go_wp2_with fail;rw[HW.out];go_wp2_with fail;go_region_held3 (fun Y=>Y.cell? ⟨w.heap.size,2,none⟩=some (.int .i64 B)/\Y.cell? ⟨g,2+B,none⟩=some (.int .u64 (x:Int))) (first|(with_reducible assumption)|exact⟨r2,gB⟩) (first|(go_at_call 127;refine(HIB.out _).mono ?_;rintro e w' ⟨rfl,hw'⟩;subst w'));go_wp2_with fail;go_ret;exact⟨rfl,⟨_,_,_,_,HA.out.drewN _⟩,HF.out.drewN _⟩
theorem jtO (A:Nat) (hA:A<16) (B:Nat) (hB:B<16) (D:Int) (n:Int) (HB:jj (C.rg B:Int)=false):
  Calls prog 98 #[.pointer (some ⟨g,0,none⟩),.agg #[.int .i64 36,.int .i64 A,.int .i64 B,.int .i64 D,.int .i64 n]] w fun e w'=>Did O w g b (C,7) e w':=by
 obtain⟨X,hX,hblk,hb0,hF0,r0,r1,r2,r3,r4⟩:=ji O w 36 A B D n;have aX:=a.below hb0;have HW:=hid hX;have i0:(0:Int)<=(A:Int):=by omega
 have i1:(A:Int)<16:=by omega
 have HA:=hid aX;have HF:=hid hF0;have hgO:=a.og;have hib:g≠w.heap.size:=fun e=>by have:=a.bx.lt;omega
 have gB:=aX.regc hB;have i2:(0:Int)<=(B:Int):=by omega
 have i21:(B:Int)<16:=by omega
 obtain⟨x,hx⟩:∃x,C.rg B=x:=⟨_,rfl⟩;have hxl:=ok.rg B hB;rw[hx] at gB hxl HB;have HIB:=hid (zf (by omega) (by omega) HB);clear a ok hblk hb0 hF0 hX aX hA;clear hx hxl hB HB;go_enter Tryz.func98,Tryz.ntmps98;go_wp2_with fail;rw[HW.out];go_wp2_with fail;go_region_held3 (fun Y=>Y.cell? ⟨w.heap.size,2,none⟩=some (.int .i64 B)/\Y.cell? ⟨g,2+B,none⟩=some (.int .u64 (x:Int))) (first|(with_reducible assumption)|exact⟨r2,gB⟩) (first|(go_at_call 127;refine(HIB.out _).mono ?_;rintro e w' ⟨rfl,hw'⟩;subst w'));go_wp2_with fail;go_ret;exact⟨rfl,⟨_,_,_,_,HA.out.drewN _⟩,HF.out.drewN _⟩
theorem jtd (A:Nat) (hA:A<16) (B:Nat) (hB:B<16) (D:Int) (n:Int) (HB:jj (C.rg B:Int)=true) {p:Int} (hpB:qx (C.rg B:Int)=p) (h0:p<0):
  Calls prog 98 #[.pointer (some ⟨g,0,none⟩),.agg #[.int .i64 34,.int .i64 A,.int .i64 B,.int .i64 D,.int .i64 n]] w fun e w'=>Did O w g b (Jm C 7) e w':=by
 obtain⟨X,hX,hblk,hb0,hF0,r0,r1,r2,r3,r4⟩:=ji O w 34 A B D n;have aX:=a.below hb0;have HW:=hid hX;have i0:(0:Int)<=(A:Int):=by omega
 have i1:(A:Int)<16:=by omega
 have HA:=hid aX;have HF:=hid hF0;have hgO:=a.og;have hib:g≠w.heap.size:=fun e=>by have:=a.bx.lt;omega
 have gB:=aX.regc hB;have i2:(0:Int)<=(B:Int):=by omega
 have i21:(B:Int)<16:=by omega
 obtain⟨x,hx⟩:∃x,C.rg B=x:=⟨_,rfl⟩;have hxl:=ok.rg B hB;rw[hx] at gB hxl HB;have HIB:=hid (zf (by omega) (by omega) HB);have HOB:=qj (x:Int);rw[show qx (x:Int)=p from hx▸hpB] at HOB;have HOB:=hid (fun Y=>HOB Y (by omega) (by omega));have d0:decide (p<0)=true:=zqr h0;have HI:=hid (fun Y=>show Calls prog 41 #[.int .i64 3] Y (fun e w'=>e=.returned (.int .u64 ((7:Nat):Int))/\Y=w') from(qe 3 Y).mono fun e w' ⟨h1,h2⟩=>⟨by rw[h1];rfl,h2⟩);have HRA:=hid (fun q=>QD (aX.drewN q) ok 7);clear a ok hblk hb0 hF0 hX aX hA;clear hx hxl hB HB hpB h0;go_enter Tryz.func98,Tryz.ntmps98;go_wp2_with fail;rw[HW.out];go_wp2_with fail;go_region_held3 (fun Y=>Y.cell? ⟨w.heap.size,2,none⟩=some (.int .i64 B)/\Y.cell? ⟨g,2+B,none⟩=some (.int .u64 (x:Int))) (first|(with_reducible assumption)|exact⟨r2,gB⟩) (first|(go_at_call 127;refine(HIB.out _).mono ?_;rintro e w' ⟨rfl,hw'⟩;subst w'));go_wp2_with fail;go_region_held3 (fun Y=>Y.cell? ⟨w.heap.size,2,none⟩=some (.int .i64 B)/\Y.cell? ⟨g,2+B,none⟩=some (.int .u64 (x:Int))) (first|(with_reducible assumption)|exact⟨r2,gB⟩) (first|(go_at_call 128;refine(HOB.out _).mono ?_;rintro e w' ⟨rfl,hw'⟩;subst w'));go_wp2_with fail;refine(HI.out _).mono ?_;rintro e w' ⟨rfl,rfl⟩;go_wp2_with fail;refine(HRA.out 2).mono ?_;rintro e w2 ⟨rfl,h2,hf2⟩;have H2:=hid (zqf h2 hf2);clear h2 hf2;go_wp2_with fail;go_ret;exact⟨rfl,H2.out.1,(HF.out.drewN 2).trans H2.out.2 (fun i hi=>.inl hi)⟩
theorem jtc (A:Nat) (hA:A<16) (B:Nat) (hB:B<16) (D:Int) (n:Int) (HB:jj (C.rg B:Int)=true) {p:Int} (hpB:qx (C.rg B:Int)=p) (h0:255<p):
  Calls prog 98 #[.pointer (some ⟨g,0,none⟩),.agg #[.int .i64 34,.int .i64 A,.int .i64 B,.int .i64 D,.int .i64 n]] w fun e w'=>Did O w g b (Jm C 7) e w':=by
 obtain⟨X,hX,hblk,hb0,hF0,r0,r1,r2,r3,r4⟩:=ji O w 34 A B D n;have aX:=a.below hb0;have HW:=hid hX;have i0:(0:Int)<=(A:Int):=by omega
 have i1:(A:Int)<16:=by omega
 have HA:=hid aX;have HF:=hid hF0;have hgO:=a.og;have hib:g≠w.heap.size:=fun e=>by have:=a.bx.lt;omega
 have gB:=aX.regc hB;have i2:(0:Int)<=(B:Int):=by omega
 have i21:(B:Int)<16:=by omega
 obtain⟨x,hx⟩:∃x,C.rg B=x:=⟨_,rfl⟩;have hxl:=ok.rg B hB;rw[hx] at gB hxl HB;have HIB:=hid (zf (by omega) (by omega) HB);have HOB:=qj (x:Int);rw[show qx (x:Int)=p from hx▸hpB] at HOB;have HOB:=hid (fun Y=>HOB Y (by omega) (by omega));have d0:decide (p<0)=false:=zqq (by omega);have d1:decide (255<p)=true:=zqr h0;have HI:=hid (fun Y=>show Calls prog 41 #[.int .i64 3] Y (fun e w'=>e=.returned (.int .u64 ((7:Nat):Int))/\Y=w') from(qe 3 Y).mono fun e w' ⟨h1,h2⟩=>⟨by rw[h1];rfl,h2⟩);have HRA:=hid (fun q=>QD (aX.drewN q) ok 7);clear a ok hblk hb0 hF0 hX aX hA;clear hx hxl hB HB hpB h0;go_enter Tryz.func98,Tryz.ntmps98;go_wp2_with fail;rw[HW.out];go_wp2_with fail;go_region_held3 (fun Y=>Y.cell? ⟨w.heap.size,2,none⟩=some (.int .i64 B)/\Y.cell? ⟨g,2+B,none⟩=some (.int .u64 (x:Int))) (first|(with_reducible assumption)|exact⟨r2,gB⟩) (first|(go_at_call 127;refine(HIB.out _).mono ?_;rintro e w' ⟨rfl,hw'⟩;subst w'));go_wp2_with fail;go_region_held3 (fun Y=>Y.cell? ⟨w.heap.size,2,none⟩=some (.int .i64 B)/\Y.cell? ⟨g,2+B,none⟩=some (.int .u64 (x:Int))) (first|(with_reducible assumption)|exact⟨r2,gB⟩) (first|(go_at_call 128;refine(HOB.out _).mono ?_;rintro e w' ⟨rfl,hw'⟩;subst w'));go_wp2_with fail;refine(HI.out _).mono ?_;rintro e w' ⟨rfl,rfl⟩;go_wp2_with fail;refine(HRA.out 2).mono ?_;rintro e w2 ⟨rfl,h2,hf2⟩;have H2:=hid (zqf h2 hf2);clear h2 hf2;go_wp2_with fail;go_ret;exact⟨rfl,H2.out.1,(HF.out.drewN 2).trans H2.out.2 (fun i hi=>.inl hi)⟩
theorem jtP (A:Nat) (hA:A<16) (B:Nat) (hB:B<16) (D:Int) (n:Int) (HB:jj (C.rg B:Int)=true) {p:Int} (hpB:qx (C.rg B:Int)=p) (p0: -9223372036854775808<=p) (p1:p<=9223372036854775807) {T:ByteArray} (hT:T=⟨(Lib.itoa p).toArray⟩) (HT0:∀Y,Below w.heap.size w Y->NumL.Tab Y) {Q:Ending->World->Prop} (hQ:∀e w',Q e w'->∃v,e=.returned v) (HW0:∀Y,Below w.heap.size w Y->Calls prog 138 #[.pointer (some ⟨g,0,none⟩),.int .i64 A,.string T] Y Q):
  Calls prog 98 #[.pointer (some ⟨g,0,none⟩),.agg #[.int .i64 36,.int .i64 A,.int .i64 B,.int .i64 D,.int .i64 n]] w fun e w'=>Q e w':=by
 obtain⟨X,hX,hblk,hb0,hF0,r0,r1,r2,r3,r4⟩:=ji O w 36 A B D n;have aX:=a.below hb0;have HW:=hid hX;have i0:(0:Int)<=(A:Int):=by omega
 have i1:(A:Int)<16:=by omega
 have HA:=hid aX;have HF:=hid hF0;have hgO:=a.og;have hib:g≠w.heap.size:=fun e=>by have:=a.bx.lt;omega
 have gB:=aX.regc hB;have i2:(0:Int)<=(B:Int):=by omega
 have i21:(B:Int)<16:=by omega
 obtain⟨x,hx⟩:∃x,C.rg B=x:=⟨_,rfl⟩;have hxl:=ok.rg B hB;rw[hx] at gB hxl HB;have HIB:=hid (zf (by omega) (by omega) HB);have HOB:=qj (x:Int);rw[show qx (x:Int)=p from hx▸hpB] at HOB;have HOB:=hid (fun Y=>HOB Y (by omega) (by omega));have HWR:=hid HW0;have HQ:=hid hQ;have hwX:w.heap.size<X.heap.size:=by rw[<-hX];simp
 have HCA:=hid (fun Y (hY:Below X.heap.size X Y)=>show Y.cell? ⟨w.heap.size,1,none⟩=some (.int .i64 A) from(hY.cell (p:=⟨w.heap.size,1,none⟩) hwX).trans r1);have HBX:=hid (fun Y (hY:Below X.heap.size X Y)=>show Below w.heap.size w Y from hb0.trans (hY.mono (by rw[<-hX];simp)));have HTX:=hid (fun q=>show Calls prog 139 #[.int .i64 p] (X.drewN q) (fun e w'=>e=.returned (.string T)/\Below X.heap.size X w') from(NumL.jq4 p p0 p1 (X.drewN q) (HT0 _ (Below.drewN' hb0 q))).mono fun e w' ⟨h1,h2⟩=>⟨by rw[h1,hT],(Below.drewN' (Below.refl _ X) q).trans h2⟩);clear a ok hblk hb0 hF0 hX aX hA;clear hx hxl hB HB hpB p0 p1 hT HT0 hQ HW0;go_enter Tryz.func98,Tryz.ntmps98;go_wp2_with fail;rw[HW.out];go_wp2_with fail;go_region_held3 (fun Y=>Y.cell? ⟨w.heap.size,2,none⟩=some (.int .i64 B)/\Y.cell? ⟨g,2+B,none⟩=some (.int .u64 (x:Int))) (first|(with_reducible assumption)|exact⟨r2,gB⟩) (first|(go_at_call 127;refine(HIB.out _).mono ?_;rintro e w' ⟨rfl,hw'⟩;subst w'));go_wp2_with fail;go_region_held3 (fun Y=>Y.cell? ⟨w.heap.size,2,none⟩=some (.int .i64 B)/\Y.cell? ⟨g,2+B,none⟩=some (.int .u64 (x:Int))) (first|(with_reducible assumption)|exact⟨r2,gB⟩) (first|(go_at_call 128;refine(HOB.out _).mono ?_;rintro e w' ⟨rfl,hw'⟩;subst w'));go_wp2_with fail;go_region_law (first|(go_simp;go_at_call 139;refine(HTX.out 3).mono ?_;rintro e w5 ⟨rfl,hb5⟩;have S5:=HCA.out _ hb5;have HW5:=hid (HWR.out _ (HBX.out _ hb5)))|(go_simp;go_at_call 138;refine HW5.out.mono ?_;rintro e w8 hq;obtain⟨v,rfl⟩:=HQ.out _ _ hq;have H8:=hid hq;clear hq));all_goals
  go_wp2_with fail;first|exact H8.out|(go_ret;exact H8.out)
theorem juN (A:Nat) (hA:A<16) (B:Nat) (hB:B<16) (D:Int) (n:Int) (HB:jj (C.rg B:Int)=true) {p:Nat} (hpB:qx (C.rg B:Int)=(p:Int)) (h0:p<=255) {T:ByteArray} (hT:T=⟨#[UInt8.ofNat p]⟩) {Q:Ending->World->Prop} (hQ:∀e w',Q e w'->∃v,e=.returned v) (HW0:∀Y,Below w.heap.size w Y->Calls prog 138 #[.pointer (some ⟨g,0,none⟩),.int .i64 A,.string T] Y Q):
  Calls prog 98 #[.pointer (some ⟨g,0,none⟩),.agg #[.int .i64 34,.int .i64 A,.int .i64 B,.int .i64 D,.int .i64 n]] w fun e w'=>Q e w':=by
 obtain⟨X,hX,hblk,hb0,hF0,r0,r1,r2,r3,r4⟩:=ji O w 34 A B D n;have aX:=a.below hb0;have HW:=hid hX;have i0:(0:Int)<=(A:Int):=by omega
 have i1:(A:Int)<16:=by omega
 have HA:=hid aX;have HF:=hid hF0;have hgO:=a.og;have hib:g≠w.heap.size:=fun e=>by have:=a.bx.lt;omega
 have gB:=aX.regc hB;have i2:(0:Int)<=(B:Int):=by omega
 have i21:(B:Int)<16:=by omega
 obtain⟨x,hx⟩:∃x,C.rg B=x:=⟨_,rfl⟩;have hxl:=ok.rg B hB;rw[hx] at gB hxl HB;have HIB:=hid (zf (by omega) (by omega) HB);have HOB:=qj (x:Int);rw[show qx (x:Int)=(p:Int) from hx▸hpB] at HOB;have HOB:=hid (fun Y=>HOB Y (by omega) (by omega));have HWR:=hid HW0;have HQ:=hid hQ;have hwX:w.heap.size<X.heap.size:=by rw[<-hX];simp
 have HCA:=hid (fun Y (hY:Below X.heap.size X Y)=>show Y.cell? ⟨w.heap.size,1,none⟩=some (.int .i64 A) from(hY.cell (p:=⟨w.heap.size,1,none⟩) hwX).trans r1);have HBX:=hid (fun Y (hY:Below X.heap.size X Y)=>show Below w.heap.size w Y from hb0.trans (hY.mono (by rw[<-hX];simp)));have d0:decide ((p:Int)<0)=false:=zqq (by omega);have d1:decide (255<(p:Int))=false:=zqq (by omega);have d2:decide (255<p)=false:=zqq (by omega);have p0:(0:Int)<=(p:Int):=by omega
 have p1:(p:Int)<=255:=by omega
 have hcv:(convert 210 9 (.slice (some ⟨X.heap.size,0,none⟩) 1 1)).run prog (X.alloc (.cells #[.int .u8 (p:Int)] 5)).drew.drew=.ok (.string T) (X.alloc (.cells #[.int .u8 (p:Int)] 5)).drew.drew:=by
  rw[hT];exact NumL.js3 X.drew.drew (p:Int)
 have HW5:=hid (HWR.out _ (HBX.out _ (Below.drewN' ((Below.refl _ X).alloc (zqg _) (.cells #[.int .u8 (p:Int)] 5)) 2)));clear a ok hblk hb0 hF0 hX aX hA;clear hx hxl hB HB hpB h0 hQ HW0 hT;go_enter Tryz.func98,Tryz.ntmps98;go_wp2_with fail;rw[HW.out];go_wp2_with fail;go_region_held3 (fun Y=>Y.cell? ⟨w.heap.size,2,none⟩=some (.int .i64 B)/\Y.cell? ⟨g,2+B,none⟩=some (.int .u64 (x:Int))) (first|(with_reducible assumption)|exact⟨r2,gB⟩) (first|(go_at_call 127;refine(HIB.out _).mono ?_;rintro e w' ⟨rfl,hw'⟩;subst w'));go_wp2_with fail;go_region_held3 (fun Y=>Y.cell? ⟨w.heap.size,2,none⟩=some (.int .i64 B)/\Y.cell? ⟨g,2+B,none⟩=some (.int .u64 (x:Int))) (first|(with_reducible assumption)|exact⟨r2,gB⟩) (first|(go_at_call 128;refine(HOB.out _).mono ?_;rintro e w' ⟨rfl,hw'⟩;subst w'));go_wp2_with fail;refine HW5.out.mono ?_;rintro e w8 hq;obtain⟨v,rfl⟩:=HQ.out _ _ hq;have H8:=hid hq;clear hq;go_wp2_with fail;exact H8.out
end
end
section
variable {O:Nat->Prop} {w X:World} {g b:Nat} {C:CM} {R:Nat->Value} {vf vs vh:Value} {M:RM} {D:Nat->Prop} {f A:Nat->Nat} {E:List Nat} {k:Nat} {y:Fm}
theorem jbM (G F:Nat) (op a c d n:Int) (xs:Array Value) (hg:(G=97/\op=16/\F=131/\xs=#[.pointer (some ⟨g,0,none⟩),.agg #[.int .i64 op,.int .i64 a,.int .i64 c,.int .i64 d,.int .i64 n],.int .i64 1,.int .i64 n])\/(G=97/\op=17/\F=131/\xs=#[.pointer (some ⟨g,0,none⟩),.agg #[.int .i64 op,.int .i64 a,.int .i64 c,.int .i64 d,.int .i64 n],.int .i64 3,.int .i64 n])\/(G=97/\op=18/\F=132/\xs=#[.pointer (some ⟨g,0,none⟩),.int .i64 a,.int .i64 c])\/(G=97/\op=22/\F=134/\xs=#[.pointer (some ⟨g,0,none⟩),.agg #[.int .i64 op,.int .i64 a,.int .i64 c,.int .i64 d,.int .i64 n]])\/(G=98/\op=32/\F=135/\xs=#[.pointer (some ⟨g,0,none⟩),.agg #[.int .i64 op,.int .i64 a,.int .i64 c,.int .i64 d,.int .i64 n]])\/(G=98/\op=35/\F=137/\xs=#[.pointer (some ⟨g,0,none⟩),.agg #[.int .i64 op,.int .i64 a,.int .i64 c,.int .i64 d,.int .i64 n]]))
  {Q:Ending->World->Prop} (hQ:∀e w',Q e w'->∃v,e=.returned v) (HC:∀X,X=w.alloc (.cells #[.int .i64 op,.int .i64 a,.int .i64 c,.int .i64 d,.int .i64 n] 41)->Calls prog F xs X Q):
  Calls prog G #[.pointer (some ⟨g,0,none⟩),.agg #[.int .i64 op,.int .i64 a,.int .i64 c,.int .i64 d,.int .i64 n]] w Q:=by
 obtain⟨X,hX,hblk,_,_,r0,r1,r2,r3,r4⟩:=ji (fun _=>True) w op a c d n;have HW:=hid hX;have HC1:=hid (HC X hX.symm);have HQ:=hid hQ;clear HC hQ hX hblk;rcases hg with⟨h1,rfl,rfl,rfl⟩|⟨h1,rfl,rfl,rfl⟩|⟨h1,rfl,rfl,rfl⟩|⟨h1,rfl,rfl,rfl⟩|⟨h1,rfl,rfl,rfl⟩|⟨h1,rfl,rfl,rfl⟩<;>subst h1<;>(
  first|go_enter Tryz.func97,Tryz.ntmps97|go_enter Tryz.func98,Tryz.ntmps98
  go_wp2_with fail;rw[HW.out];go_wp2_with fail;refine HC1.out.mono ?_;rintro e w8 hq;obtain⟨v,rfl⟩:=HQ.out _ _ hq;have H8:=hid hq;clear hq;go_wp2_with fail;first|exact H8.out|(go_ret;exact H8.out))
theorem DidS.ret {r:RM×Int} {e:Ending} {w':World} (h:DidS O w g b r e w'):∃v,e=.returned v:=by
 obtain⟨c,⟨h1,_⟩,_⟩:=h;exact⟨_,h1⟩
theorem jtu (u:UInt8):Wr (.I (u.toNat:Int)):=by
 have:=UInt8.toNat_lt u;exact⟨by omega,by omega⟩
theorem jrQ (t:ByteArray) (p:Nat) (hp:p<t.size):(zp t.data.toList).ws.getD (1+p/8) 0/2^(8*(p%8))%256=(t.data.getD p 0).toNat:=by
 have h1:=NumL.jdv t.data.toList p (by simpa using hp);show(t.data.toList.length::NumL.zD t.data.toList).getD (1+p/8) 0/_%256=_;rw[Nat.add_comm 1,List.getD_cons_succ];have h2:(NumL.zD t.data.toList).getD (p/8) 0/2^(8*(p%8))%256=NumL.Zc (NumL.zD t.data.toList) p:=rfl;rw[h2,h1];have hp':p<t.data.size:=hp;show _=(if h:p<t.data.size then t.data[p] else 0).toNat
 rw[dif_pos hp'];simp
section
variable (h:Pre O w g b C R vf vs vh M D f A E k y)
include h
theorem jms {op a c d n:Int} (i:Qu a c d n) (ho:op=16\/op=17\/op=18\/op=19\/op=20\/op=21\/op=22):
  Calls prog 97 #[.pointer (some ⟨g,0,none⟩),.agg #[.int .i64 op,.int .i64 a,.int .i64 c,.int .i64 d,.int .i64 n]] w fun e w'=>DidS O w g b (opR M op a c d n) e w':=by
 have hb:∀(o:Obj),Below w.heap.size w (w.alloc o):=fun o=>(Below.refl _ w).alloc (zqg _) _;have hf:∀(o:Obj),Fr O w (w.alloc o):=fun o=>(Fr.refl O w).alloc _;rcases ho with rfl|rfl|rfl|rfl|rfl|rfl|rfl
 ·refine jbM _ _ 16 a c d n _ (.inl ⟨rfl,rfl,rfl,rfl⟩) (fun e w' q=>DidS.ret q) ?_
  rintro X rfl;exact(jf4 (h.below (hb _)) i (K:=1) (.inl rfl)).mono fun e w' q=>DidS.from (hf _) q
 ·refine jbM _ _ 17 a c d n _ (.inr (.inl ⟨rfl,rfl,rfl,rfl⟩)) (fun e w' q=>DidS.ret q) ?_
  rintro X rfl;exact(jf4 (h.below (hb _)) i (K:=3) (.inr rfl)).mono fun e w' q=>DidS.from (hf _) q
 ·refine jbM _ _ 18 a c d n _ (.inr (.inr (.inl ⟨rfl,rfl,rfl,rfl⟩))) (fun e w' q=>DidS.ret q) ?_
  rintro X rfl;obtain⟨a,rfl⟩:=jM i.a0;obtain⟨c,rfl⟩:=jM i.b0;exact(jsU (h.below (hb _)) (by have:=i.a1;omega) (by have:=i.b1;omega)).mono fun e w' q=>DidS.from (hf _) q
 ·exact jmR h i
 ·exact jpu h i
 ·exact jkk h i
 ·refine jbM _ _ 22 a c d n _ (.inr (.inr (.inr (.inl ⟨rfl,rfl,rfl,rfl⟩)))) (fun e w' q=>DidS.ret q) ?_
  rintro X rfl;exact(jtj (h.below (hb _)) i).mono fun e w' q=>DidS.from (hf _) q
theorem jsQ {a c d n:Int} (i:Qu a c d n):
  Calls prog 137 #[.pointer (some ⟨g,0,none⟩),.agg #[.int .i64 35,.int .i64 a,.int .i64 c,.int .i64 d,.int .i64 n]] w fun e w'=>DidS O w g b (jlz M a (M.rg c.toNat) (M.rg d.toNat)) e w':=by
 obtain⟨a,rfl⟩:=jM i.a0;obtain⟨c,rfl⟩:=jM i.b0;obtain⟨d,rfl⟩:=jM i.c0;have ha:a<16:=by have:=i.a1;omega
 have hc:c<16:=by have:=i.b1;omega
 have hd:d<16:=by have:=i.c1;omega
 have ok:=h.s.ok;have e1:=h.s.rg c hc;have g1:=h.get hc;have e2:=h.s.rg d hd;have g2:=h.get hd;have hk:=h.s.kind g1.1;rw[<-e1] at hk;rw[show((c:Int)).toNat=c from rfl,show((d:Int)).toNat=d from rfl];unfold jlz;by_cases h4:(jo M (M.rg c)).k=4
 ·obtain⟨ho,hl⟩:=h.s.txt g1.1 h4
  rw[<-e1] at ho;have hm:(zp (jo M (M.rg c)).tx.data.toList).ws.getD 0 0=(jo M (M.rg c)).tx.size:=by simp[zp]
  cases hv:M.rg d with
  |P j=>
   rw[hv] at e2 g2;rw[if_pos (.inr rfl)];exact(jvj h.a ok a ha c hc d hd n ho rfl hm hl (by rw[e2];exact h.s.notInt (g2.1 j rfl))).mono fun e w' q=>⟨_,q,h.stop (by decide)⟩
  |I p=>
   rw[hv] at e2 g2;have i2:jj (C.rg d:Int)=true:=by rw[e2];exact J5 p
   have t2:qx (C.rg d:Int)=p:=by rw[e2];exact jbQ g2.2.2
   rw[if_neg (by rintro(q|q);exact q h4;cases q),show RWd.num (.I p)=p from rfl];have hr:=Q7 h.s h.u (Je (D:=D) (E:=E) (n:=4) ⟨by decide,by decide⟩) (x:=9) rfl;by_cases h0:p<0
   ·rw[if_pos (.inl h0)]
    exact(jsP h.a ok a ha c hc d hd n ho rfl hm hl i2 t2 h0).mono fun e w' q=>⟨_,q,hr⟩
   ·obtain⟨p,rfl⟩:=jM (by omega:0<=p)
    by_cases h1:(jo M (M.rg c)).tx.size<=p
    ·rw[if_pos (.inr (by omega))]
     exact(jsO h.a ok a ha c hc d hd n ho rfl hm hl i2 t2 (by omega)).mono fun e w' q=>⟨_,q,hr⟩
    ·rw[if_neg (by omega)]
     refine(jus h.a ok a ha c hc d hd n ho rfl hm hl i2 t2 (by omega) (jrQ _ p (by omega))).mono fun e w' q=>⟨_,q,?_⟩;exact .reg h.s h.u a (v:=.I _) (Je (jtu _)) rfl
 ·rw[if_pos (.inl h4)]
  exact(jur h.a ok a ha c hc d n hk h4).mono fun e w' q=>⟨_,q,h.stop (by decide)⟩
theorem jpO {a c d n:Int} (i:Qu a c d n):
  Calls prog 135 #[.pointer (some ⟨g,0,none⟩),.agg #[.int .i64 32,.int .i64 a,.int .i64 c,.int .i64 d,.int .i64 n]] w fun e w'=>DidS O w g b (jha M a (M.rg c.toNat) (M.rg d.toNat)) e w':=by
 obtain⟨a,rfl⟩:=jM i.a0;obtain⟨c,rfl⟩:=jM i.b0;obtain⟨d,rfl⟩:=jM i.c0;have ha:a<16:=by have:=i.a1;omega
 have hc:c<16:=by have:=i.b1;omega
 have hd:d<16:=by have:=i.c1;omega
 have ok:=h.s.ok;have e1:=h.s.rg c hc;have g1:=h.get hc;have e2:=h.s.rg d hd;have g2:=h.get hd;have hk1:=h.s.kind g1.1;rw[<-e1] at hk1;have hk2:=h.s.kind g2.1;rw[<-e2] at hk2;rw[show((c:Int)).toNat=c from rfl,show((d:Int)).toNat=d from rfl];unfold jha;by_cases h4:(jo M (M.rg c)).k=4
 ·obtain⟨ho,hl⟩:=h.s.txt g1.1 h4
  rw[<-e1] at ho;have hm:(zp (jo M (M.rg c)).tx.data.toList).ws.getD 0 0=(jo M (M.rg c)).tx.size:=by simp[zp]
  by_cases h5:(jo M (M.rg d)).k=4
  ·obtain⟨ho2,hl2⟩:=h.s.txt g2.1 h5
   rw[<-e2] at ho2;have hm2:(zp (jo M (M.rg d)).tx.data.toList).ws.getD 0 0=(jo M (M.rg d)).tx.size:=by simp[zp]
   rw[if_neg (by rintro(q|q);exact q h4;exact q h5)];by_cases h6:131064<(jo M (M.rg c)).tx.size+(jo M (M.rg d)).tx.size
   ·unfold jaa
    rw[if_pos (by rw[ByteArray.size_append];exact h6)];exact(jng h.a ok a ha c hc d hd n ho rfl hm hl ho2 rfl hm2 hl2 h6).mono fun e w' q=>⟨_,q,h.stop (by decide)⟩
   ·refine jsi h.a ok a ha c hc d hd n ho ho2 (by omega) (Q:=fun e w'=>DidS O w g b _ e w') (fun e w' q=>DidS.ret q) fun Y hY=>?_
    exact(jda (h.below hY) ha _ (by rw[ByteArray.size_append];omega)).mono fun e w' q=>DidS.from ((Fr.of_below hY).mono fun i hi=>.inr hi) q
  ·rw[if_pos (.inr h5)]
   exact(jpN h.a ok a ha c hc d hd n ho rfl hm hl hk2 h5).mono fun e w' q=>⟨_,q,h.stop (by decide)⟩
 ·rw[if_pos (.inl h4)]
  refine(jpM h.a ok a ha c hc d hd n hk1 h4 fun o ho h4'=>?_).mono fun e w' q=>⟨_,q,h.stop (by decide)⟩;rw[ho] at hk2;have h5:(jo M (M.rg d)).k=4:=by rw[<-hk2];exact h4'
  obtain⟨ho2,hl2⟩:=h.s.txt g2.1 h5;rw[<-e2,ho] at ho2;obtain rfl:=zqd ho2;simpa[zp] using hl2
theorem joD (hT:∀Y,Below w.heap.size w Y->NumL.Tab Y) {op a c d n:Int} (i:Qu a c d n) (ho:op=32\/op=33\/op=34\/op=35\/op=36):
  Calls prog 98 #[.pointer (some ⟨g,0,none⟩),.agg #[.int .i64 op,.int .i64 a,.int .i64 c,.int .i64 d,.int .i64 n]] w fun e w'=>DidS O w g b (opR M op a c d n) e w':=by
 have hb:∀(o:Obj),Below w.heap.size w (w.alloc o):=fun o=>(Below.refl _ w).alloc (zqg _) _;have hf:∀(o:Obj),Fr O w (w.alloc o):=fun o=>(Fr.refl O w).alloc _;have ok:=h.s.ok;obtain⟨A1,hA1⟩:=jM i.a0;obtain⟨B1,hB1⟩:=jM i.b0;have ha:A1<16:=by have:=i.a1;omega
 have hc:B1<16:=by have:=i.b1;omega
 have e1:=h.s.rg B1 hc;have g1:=h.get hc;rcases ho with rfl|rfl|rfl|rfl|rfl
 ·refine jbM _ _ 32 a c d n _ (.inr (.inr (.inr (.inr (.inl ⟨rfl,rfl,rfl,rfl⟩))))) (fun e w' q=>DidS.ret q) ?_
  rintro X rfl;exact(jpO (h.below (hb _)) i).mono fun e w' q=>DidS.from (hf _) q
 ·subst hA1 hB1
  show Calls _ _ _ _ fun e w'=>DidS O w g b (jhg M A1 (M.rg B1)) e w';have hk:=h.s.kind g1.1;rw[<-e1] at hk;unfold jhg;by_cases h4:(jo M (M.rg B1)).k=4
  ·obtain⟨ho,hl⟩:=h.s.txt g1.1 h4
   rw[<-e1] at ho;rw[if_neg (fun q=>q h4)];refine(juK h.a ok A1 ha B1 hc d n ho rfl (m:=(jo M (M.rg B1)).tx.size) (by simp[zp]) hl).mono fun e w' q=>⟨_,q,?_⟩;exact .reg h.s h.u A1 (v:=.I _) (Je ⟨by omega,by omega⟩) rfl
  ·rw[if_pos h4]
   exact(juJ h.a ok A1 ha B1 hc d n hk h4).mono fun e w' q=>⟨_,q,h.stop (by decide)⟩
 ·subst hA1 hB1
  show Calls _ _ _ _ fun e w'=>DidS O w g b (jlX M A1 (M.rg B1)) e w';unfold jlX;cases hv:M.rg B1 with
  |P j=>
   rw[hv] at e1 g1;rw[if_pos (show(RWd.P j).isP=true from rfl)];exact(juM h.a ok A1 ha B1 hc d n (by rw[e1];exact h.s.notInt (g1.1 j rfl))).mono fun e w' q=>⟨_,q,h.stop (by decide)⟩
  |I p=>
   rw[hv] at e1 g1;have i1:jj (C.rg B1:Int)=true:=by rw[e1];exact J5 p
   have t1:qx (C.rg B1:Int)=p:=by rw[e1];exact jbQ g1.2.2
   rw[if_neg (by intro q;cases q),show RWd.num (.I p)=p from rfl];have hr:=Q7 h.s h.u (Je (D:=D) (E:=E) (n:=3) ⟨by decide,by decide⟩) (x:=7) rfl;by_cases h0:p<0
   ·rw[if_pos (.inl h0)]
    exact(jtd h.a ok A1 ha B1 hc d n i1 t1 h0).mono fun e w' q=>⟨_,q,hr⟩
   ·obtain⟨p,rfl⟩:=jM (by omega:0<=p)
    by_cases h2:255<p
    ·rw[if_pos (.inr (by omega))]
     exact(jtc h.a ok A1 ha B1 hc d n i1 t1 (by omega)).mono fun e w' q=>⟨_,q,hr⟩
    ·rw[if_neg (by omega)]
     refine juN h.a ok A1 ha B1 hc d n i1 t1 (by omega) rfl (Q:=fun e w'=>DidS O w g b _ e w') (fun e w' q=>DidS.ret q) fun Y hY=>?_;exact(jda (h.below hY) ha ⟨#[UInt8.ofNat p]⟩ (show 1<=131064 by decide)).mono fun e w' q=>DidS.from ((Fr.of_below hY).mono fun i hi=>.inr hi) q
 ·refine jbM _ _ 35 a c d n _ (.inr (.inr (.inr (.inr (.inr ⟨rfl,rfl,rfl,rfl⟩))))) (fun e w' q=>DidS.ret q) ?_
  rintro X rfl;exact(jsQ (h.below (hb _)) i).mono fun e w' q=>DidS.from (hf _) q
 ·subst hA1 hB1
  show Calls _ _ _ _ fun e w'=>DidS O w g b (jkE M A1 (M.rg B1)) e w';unfold jkE;cases hv:M.rg B1 with
  |P j=>
   rw[hv] at e1 g1;rw[if_pos (show(RWd.P j).isP=true from rfl)];exact(jtO h.a ok A1 ha B1 hc d n (by rw[e1];exact h.s.notInt (g1.1 j rfl))).mono fun e w' q=>⟨_,q,h.stop (by decide)⟩
  |I p=>
   rw[hv] at e1 g1;have i1:jj (C.rg B1:Int)=true:=by rw[e1];exact J5 p
   have t1:qx (C.rg B1:Int)=p:=by rw[e1];exact jbQ g1.2.2
   obtain⟨w1,w2⟩:=g1.2.2;rw[if_neg (by intro q;cases q),show RWd.num (.I p)=p from rfl];refine jtP h.a ok A1 ha B1 hc d n i1 t1 (by omega) (by omega) rfl hT (Q:=fun e w'=>DidS O w g b _ e w') (fun e w' q=>DidS.ret q) fun Y hY=>?_;refine(jda (h.below hY) ha _ ?_).mono fun e w' q=>DidS.from ((Fr.of_below hY).mono fun i hi=>.inr hi) q;have:=Lib.itoa_length_le p (by omega) (by omega);show(Lib.itoa p).toArray.size<=131064;rw[List.size_toArray];omega
end
end
section
variable {O:Nat->Prop} {w X:World} {g b:Nat} {C:CM} {R:Nat->Value} {vf vs vh:Value} {M:RM} {D:Nat->Prop} {f A:Nat->Nat} {E:List Nat} {k:Nat} {y:Fm}
def doF:List (Int×Nat):=[(1,95),(2,95),(3,95),(4,95),(5,95),(6,95),(7,96),(8,96),(9,96),(10,96),(11,96),(12,96),(13,96),(14,96),(16,97),(17,97),(18,97),(19,97),(20,97),(21,97),(22,97),(23,99),(24,99),(25,99),(26,99),(27,99),(28,99),(29,99),(30,99),(31,99),(32,98),(33,98),(34,98),(35,98),(36,98)]
theorem jc0 (op:Int) (F:Nat) (hop:(op,F)∈doF) (a c d n:Int) {Q:Ending->World->Prop} (hQ:∀e w',Q e w'->∃v,e=.returned v) (HC:∀X,X=w.alloc (.cells #[.int .i64 op,.int .i64 a,.int .i64 c,.int .i64 d,.int .i64 n] 41)->Calls prog F #[.pointer (some ⟨g,0,none⟩),.agg #[.int .i64 op,.int .i64 a,.int .i64 c,.int .i64 d,.int .i64 n]] X Q):
  Calls prog 55 #[.pointer (some ⟨g,0,none⟩),.agg #[.int .i64 op,.int .i64 a,.int .i64 c,.int .i64 d,.int .i64 n]] w Q:=by
 simp only[doF,List.mem_cons,Prod.mk.injEq,List.not_mem_nil,or_false] at hop;obtain⟨X,hX⟩:∃X,w.alloc (.cells #[.int .i64 op,.int .i64 a,.int .i64 c,.int .i64 d,.int .i64 n] 41)=X:=⟨_,rfl⟩;have hblk:=zqe w (.cells #[.int .i64 op,.int .i64 a,.int .i64 c,.int .i64 d,.int .i64 n] 41);rw[hX] at hblk;have HW:=hid hX;have r0:X.cell? ⟨w.heap.size,0,none⟩=some (.int .i64 op):=jb hblk 0;have r1:X.cell? ⟨w.heap.size,1,none⟩=some (.int .i64 a):=jb hblk 1;have r2:X.cell? ⟨w.heap.size,2,none⟩=some (.int .i64 c):=jb hblk 2;have r3:X.cell? ⟨w.heap.size,3,none⟩=some (.int .i64 d):=jb hblk 3;have r4:X.cell? ⟨w.heap.size,4,none⟩=some (.int .i64 n):=jb hblk 4;have HC1:=hid (HC X hX.symm);have HQ:=hid hQ;clear HC hQ hX hblk;rcases hop with⟨rfl,rfl⟩|⟨rfl,rfl⟩|⟨rfl,rfl⟩|⟨rfl,rfl⟩|⟨rfl,rfl⟩|⟨rfl,rfl⟩|⟨rfl,rfl⟩|⟨rfl,rfl⟩|⟨rfl,rfl⟩|⟨rfl,rfl⟩|⟨rfl,rfl⟩|⟨rfl,rfl⟩|⟨rfl,rfl⟩|⟨rfl,rfl⟩|⟨rfl,rfl⟩|⟨rfl,rfl⟩|⟨rfl,rfl⟩|⟨rfl,rfl⟩|⟨rfl,rfl⟩|⟨rfl,rfl⟩|⟨rfl,rfl⟩|⟨rfl,rfl⟩|⟨rfl,rfl⟩|⟨rfl,rfl⟩|⟨rfl,rfl⟩|⟨rfl,rfl⟩|⟨rfl,rfl⟩|⟨rfl,rfl⟩|⟨rfl,rfl⟩|⟨rfl,rfl⟩|⟨rfl,rfl⟩|⟨rfl,rfl⟩|⟨rfl,rfl⟩|⟨rfl,rfl⟩|⟨rfl,rfl⟩<;>(
  go_enter Tryz.func55,Tryz.ntmps55;go_wp2_with fail;rw[HW.out];go_wp2_with fail;refine HC1.out.mono ?_;rintro e w8 hq;obtain⟨v,rfl⟩:=HQ.out _ _ hq;have H8:=hid hq;clear hq;go_wp2_with fail;first|exact H8.out|(go_ret;exact H8.out))
theorem jtQ (h:Pre O w g b C R vf vs vh M D f A E k y) (hT:∀Y,Below w.heap.size w Y->NumL.Tab Y) {op a c d n:Int} (i:Qu a c d n) (h1:1<=op) (h2:op<=36) (h3:op≠15):
  Calls prog 55 #[.pointer (some ⟨g,0,none⟩),.agg #[.int .i64 op,.int .i64 a,.int .i64 c,.int .i64 d,.int .i64 n]] w fun e w'=>DidS O w g b (opR M op a c d n) e w':=by
 have hb:∀(o:Obj),Below w.heap.size w (w.alloc o):=fun o=>(Below.refl _ w).alloc (zqg _) _;have hf:∀(o:Obj),Fr O w (w.alloc o):=fun o=>(Fr.refl O w).alloc _;have hT2:∀(o:Obj) Y,Below (w.alloc o).heap.size (w.alloc o) Y->NumL.Tab Y:=fun o Y hY=>hT Y ((hb o).trans (hY.mono (hb o).size));have hop:op=1\/op=2\/op=3\/op=4\/op=5\/op=6\/op=7\/op=8\/op=9\/op=10\/op=11\/op=12\/op=13\/op=14\/op=16\/op=17\/op=18\/op=19\/op=20\/op=21\/op=22\/op=23\/op=24\/op=25\/op=26\/op=27\/op=28\/op=29\/op=30\/op=31\/op=32\/op=33\/op=34\/op=35\/op=36:=by omega
 rcases hop with rfl|rfl|rfl|rfl|rfl|rfl|rfl|rfl|rfl|rfl|rfl|rfl|rfl|rfl|rfl|rfl|rfl|rfl|rfl|rfl|rfl|rfl|rfl|rfl|rfl|rfl|rfl|rfl|rfl|rfl|rfl|rfl|rfl|rfl|rfl<;>first
  |(refine jc0 _ 95 (by unfold doF;decide) a c d n (fun e w' q=>DidS.ret q) ?_;rintro X rfl;exact(jmA (h.below (hb _)) i (by decide)).mono fun e w' q=>DidS.from (hf _) q)
  |(refine jc0 _ 96 (by unfold doF;decide) a c d n (fun e w' q=>DidS.ret q) ?_;rintro X rfl;exact(jlF (h.below (hb _)) i (by decide)).mono fun e w' q=>DidS.from (hf _) q)
  |(refine jc0 _ 97 (by unfold doF;decide) a c d n (fun e w' q=>DidS.ret q) ?_;rintro X rfl;exact(jms (h.below (hb _)) i (by decide)).mono fun e w' q=>DidS.from (hf _) q)
  |(refine jc0 _ 99 (by unfold doF;decide) a c d n (fun e w' q=>DidS.ret q) ?_;rintro X rfl;exact(ji6 (h.below (hb _)) i (by decide)).mono fun e w' q=>DidS.from (hf _) q)
  |(refine jc0 _ 98 (by unfold doF;decide) a c d n (fun e w' q=>DidS.ret q) ?_;rintro X rfl;exact(joD (h.below (hb _)) (hT2 _) i (by decide)).mono fun e w' q=>DidS.from (hf _) q)
end
section
open Go Go.RowKit
def qK (f:Nat->Nat->Nat->Nat×Nat):List Nat->List Nat->Nat->Nat×Nat
 |x::xs,y::ys,left=>if(f x y left).1=1 then qK f xs ys (f x y left).2 else f x y left
 |[],_,left=>(1,left)
 |_::_,[],left=>(1,left)
def ZJ (L:Nat->Nat->Nat⊕(List Nat×List Nat)):Nat->Nat->Nat->Nat->Nat×Nat
 |0,_,_,_=>(3,0)
 |fuel+1,a,c,left=>if left=0 then(3,0) else match L a c with
  | .inl k=>(k,left-1)
  | .inr p=>qK (ZJ L fuel) p.1 p.2 (left-1)
section
variable {L:Nat->Nat->Nat⊕(List Nat×List Nat)}
theorem jeA {f:Nat->Nat->Nat->Nat×Nat} (h:∀x y l,(f x y l).2<=l):∀(xs ys:List Nat) (l:Nat),(qK f xs ys l).2<=l
 |x::xs,y::ys,l=>by
  unfold qK;split
  ·exact zqs (jeA h xs ys _) (h x y l)
  ·exact h x y l
 |[],_,l=>by unfold qK;exact zqg _
 |_::_,[],l=>by unfold qK;exact zqg _
theorem jeh:∀(n a c l:Nat),(ZJ L n a c l).2<=l
 |0,_,_,l=>by unfold ZJ;exact Nat.zero_le _
 |n+1,a,c,l=>by
  unfold ZJ;split
  ·exact Nat.zero_le _
  ·split
   ·exact Nat.sub_le _ _
   ·exact zqs (jeA (jeh n) _ _ _) (Nat.sub_le _ _)
theorem jad {f g:Nat->Nat->Nat->Nat×Nat} {N:Nat} (h:∀x y l,l<=N->f x y l=g x y l) (hf:∀x y l,(f x y l).2<=l):∀(xs ys:List Nat) (l:Nat),l<=N->qK f xs ys l=qK g xs ys l
 |x::xs,y::ys,l,hl=>by
  have e:=h x y l hl;unfold qK;rw[<-e];split
  ·exact jad h hf xs ys _ (zqs (hf x y l) hl)
  ·rfl
 |[],_,l,_=>by unfold qK;rfl
 |_::_,[],l,_=>by unfold qK;rfl
theorem je7:∀(n m a c l:Nat),l<=n->l<=m->ZJ L n a c l=ZJ L m a c l
 |0,m,a,c,l,h1,_=>by
  obtain rfl:l=0:=by omega
  cases m<;>simp[ZJ]
 |n+1,0,a,c,l,_,h2=>by
  obtain rfl:l=0:=by omega
  simp[ZJ]
 |n+1,m+1,a,c,l,h1,h2=>by
  unfold ZJ;split
  ·rfl
  ·cases L a c with
   |inl k=>rfl
   |inr p=>exact jad (N:=l-1) (fun x y l' hl=>je7 n m x y l' (by omega) (by omega)) (jeh n) _ _ _ (zqg _)
def Js (L:Nat->Nat->Nat⊕(List Nat×List Nat)) (a c left:Nat):Nat×Nat:=ZJ L left a c left
def Qy (L:Nat->Nat->Nat⊕(List Nat×List Nat)):List Nat->List Nat->Nat->Nat×Nat:=qK (Js L)
theorem jlP (a c:Nat):Js L a c 0=(3,0):=rfl
theorem jlO (a c n:Nat):Js L a c (n+1)=match L a c with
  | .inl k=>(k,n)
  | .inr p=>Qy L p.1 p.2 n:=by
 unfold Js;rw[ZJ];simp only[Nat.add_one_ne_zero,if_false,Nat.add_sub_cancel];cases L a c with
 |inl k=>rfl
 |inr p=>exact jad (N:=n) (fun x y l hl=>je7 n l x y l hl (zqg _)) (jeh n) _ _ _ (zqg _)
theorem jhJ (x y:Nat) (xs ys:List Nat) (l:Nat):Qy L (x::xs) (y::ys) l=if(Js L x y l).1=1 then Qy L xs ys (Js L x y l).2 else Js L x y l:=rfl
theorem ji7 (l:Nat):Qy L [] [] l=(1,l):=rfl
def ZG (L:Nat->Nat->Nat⊕(List Nat×List Nat)):List (List Nat×List Nat)->Nat×Nat->Nat×Nat
 |[],r=>r
 |p::st,r=>if r.1=1 then ZG L st (Qy L p.1 p.2 r.2) else r
theorem ZQ {st:List (List Nat×List Nat)} {r:Nat×Nat} (h:r.1≠1):ZG L st r=r:=by
 cases st with
 |nil=>rfl
 |cons p st=>unfold ZG;rw[if_neg h]
theorem jes (p:List Nat×List Nat) (st:List (List Nat×List Nat)) (l:Nat):ZG L (p::st) (1,l)=ZG L st (Qy L p.1 p.2 l):=by
 show(if _ then _ else _)=_;rw[if_pos rfl]
theorem jkz (x y:Nat) (xs ys:List Nat) (hl:xs.length=ys.length) (st:List (List Nat×List Nat)) (l:Nat):
  ZG L st (Qy L (x::xs) (y::ys) l)=ZG L (if xs=[] then st else(xs,ys)::st) (Js L x y l):=by
 rw[jhJ];by_cases h:(Js L x y l).1=1
 ·rw[if_pos h]
  by_cases hx:xs=[]
  ·subst hx
   have hy:ys=[]:=by cases ys with
    |nil=>rfl
    |cons _ _=>simp at hl
   subst hy;rw[if_pos rfl,ji7];congr 1;exact Prod.ext h.symm rfl
  ·rw[if_neg hx]
   show _=if _ then _ else _;rw[if_pos h]
 ·rw[if_neg h,ZQ h,ZQ h]
end
def zW (os:List Ob) (h W:Nat) (a c:Nat):Nat⊕(List Nat×List Nat):=
 match jl os h W (jc (a:Int)),jl os h W (jc (c:Int)) with
 |some i,some j=>
  if Qt (jy os i).k=true\/Qt (jy os j).k=true then .inl 2
  else if(jy os i).k≠(jy os j).k then .inl 0
  else if(jy os i).k=2 then .inl (if i=j then 1 else 0)
  else if(jy os i).ws.length≠(jy os j).ws.length then .inl 0
  else if(jy os i).k=4 then .inl (if(jy os i).ws=(jy os j).ws then 1 else 0)
  else .inr ((jy os i).ws,(jy os j).ws)
 |none,none=>if jj (a:Int)=false\/jj (c:Int)=false then .inl 4 else .inl (if a=c then 1 else 0)
 |none,some _=>if jj (a:Int)=false then .inl 4 else .inl (if a=c then 1 else 0)
 |some _,none=>if jj (c:Int)=false then .inl 4 else .inl (if a=c then 1 else 0)
theorem jhZ {os:List Ob} {h W a c:Nat} {p:List Nat×List Nat} (e:zW os h W a c=.inr p):∃i j,jl os h W (jc (a:Int))=some i/\jl os h W (jc (c:Int))=some j/\p=((jy os i).ws,(jy os j).ws)/\(jy os i).ws.length=(jy os j).ws.length/\(jy os i).k=(jy os j).k/\Qt (jy os i).k=false/\(jy os i).k≠2/\(jy os i).k≠4:=by
 unfold zW at e;cases ea:jl os h W (jc (a:Int)) with
 |none=>
  cases ec:jl os h W (jc (c:Int)) with
  |none=>simp only[ea,ec] at e;split at e<;>cases e
  |some j=>simp only[ea,ec] at e;split at e<;>cases e
 |some i=>
  cases ec:jl os h W (jc (c:Int)) with
  |none=>simp only[ea,ec] at e;split at e<;>cases e
  |some j=>
   simp only[ea,ec] at e;split at e
   ·cases e
   ·rename_i h1
    split at e
    ·cases e
    ·rename_i h2
     split at e
     ·cases e
     ·rename_i h3
      split at e
      ·cases e
      ·rename_i h4
       split at e
       ·cases e
       ·rename_i h5
        injection e with e;refine⟨i,j,rfl,rfl,e.symm,Classical.not_not.1 h4,Classical.not_not.1 h2,?_,h3,h5⟩;cases q:Qt (jy os i).k with
        |false=>rfl
        |true=>exact absurd (.inl q) h1
end
