/- A part of the proof of MachineMoves. Conditions: those that each theorem names. -/
import Derived.Test.YtklcmdoadmcpfaaGreatDoorQ28
set_option maxRecDepth 100000
set_option maxHeartbeats 400000000
namespace Go.Proofs.YtklcmdoadmcpfaaGreatDoor
open Go Go.RowKit IsaL
open Go.Lib(hid)
open Go.Proofs.Tryz(prog)
section
variable {O:Nat->Prop} {w X:World} {g b:Nat} {C:CM} {R:Nat->Value} {vf vs vh:Value} {M:RM} {D:Nat->Prop} {f A:Nat->Nat} {E:List Nat} {k:Nat} {y:Fm}
theorem jeC (a:McAt O w g C b R vf vs vh) {x:Nat} (hx:x<18446744073709551616) {t:ByteArray} (ho:jD C x=some (zp t.data.toList)) (ht:t.size<=131064):
  Calls prog 167 #[.pointer (some ⟨b,0,none⟩),.int .u64 (x:Int)] w fun e w'=>e=.returned (.tuple #[.string t,.int .i64 0])/\Below w.heap.size w w':=by
 obtain⟨j,h1,h2⟩:=qh ho;refine(ji8 a.m a.z x hx h1 h2 rfl rfl (by simpa using ht)).mono ?_;rintro e w' ⟨q|q,hb⟩
 ·refine⟨?_,hb⟩
  rw[q.2,NumL.jaE]
 ·exact absurd (NumL.jrc _) q.1
theorem Sim.txt (s:Sim M C D f A) {v:RWd} (hv:∀k,v=.P k->D k) (h4:(jo M v).k=4):jD C (jw A v)=some (zp (jo M v).tx.data.toList)/\(jo M v).tx.size<=131064:=by
 obtain⟨i,_,_,h2,h3,_⟩:=s.there hv (by omega);rw[h3];refine⟨congrArg some (if_pos h4),?_⟩;rcases h2.kd with⟨q,_⟩|⟨_,_,_,q⟩|⟨q,_⟩
 ·omega
 ·exact q
 ·omega
theorem DidS.from (hf:Fr O w X) {r:RM×Int} {e:Ending} {w':World} (h:DidS O X g b r e w'):DidS O w g b r e w':=by
 obtain⟨c,⟨h1,h2,h3⟩,h4⟩:=h;exact⟨c,⟨h1,h2,hf.trans h3 fun i hi=>.inl hi⟩,h4⟩
section
variable (a:McAt O w g C b R vf vs vh) (ok:OkC C)
include a ok
theorem juJ (A:Nat) (hA:A<16) (B:Nat) (hB:B<16) (D:Int) (n:Int) {KB:Nat} (hKB:((jD C (C.rg B)).map fun o=>o.k).getD 0=KB) (hkB:KB≠4):
  Calls prog 98 #[.pointer (some ⟨g,0,none⟩),.agg #[.int .i64 33,.int .i64 A,.int .i64 B,.int .i64 D,.int .i64 n]] w fun e w'=>Did O w g b (C,7) e w':=by
 obtain⟨X,hX,hblk,hb0,hF0,r0,r1,r2,r3,r4⟩:=ji O w 33 A B D n;have aX:=a.below hb0;have HW:=hid hX;have i0:(0:Int)<=(A:Int):=by omega
 have i1:(A:Int)<16:=by omega
 have HA:=hid aX;have HF:=hid hF0;have hgO:=a.og;have hib:g≠w.heap.size:=fun e=>by have:=a.bx.lt;omega
 have gB:=aX.regc hB;have i2:(0:Int)<=(B:Int):=by omega
 have i21:(B:Int)<16:=by omega
 obtain⟨x,hx⟩:∃x,C.rg B=x:=⟨_,rfl⟩;have hxl:=ok.rg B hB;rw[hx] at gB hxl hKB;have HTB:=hid (fun q=>jbP (aX.drewN q) hxl hKB hkB);clear a ok hblk hb0 hF0 hX aX hA;clear hx hxl hB hKB;go_enter Tryz.func98,Tryz.ntmps98;go_wp2_with fail;rw[HW.out];go_wp2_with fail;go_region_held3 (fun Y=>Y.cell? ⟨w.heap.size,2,none⟩=some (.int .i64 B)/\Y.cell? ⟨g,2+B,none⟩=some (.int .u64 (x:Int))) (first|(with_reducible assumption)|exact⟨r2,gB⟩) (first|(go_at_call 136;refine(HTB.out _).mono ?_;rintro e w' ⟨rfl,q1,rfl⟩));go_wp2_with fail;go_ret;exact⟨rfl,⟨_,_,_,_,HA.out.drewN _⟩,HF.out.drewN _⟩
theorem juK (A:Nat) (hA:A<16) (B:Nat) (hB:B<16) (D:Int) (n:Int) {oB:Ob} (hoB:jD C (C.rg B)=some oB) (hkB:oB.k=4) {m:Nat} (hmB:oB.ws.getD 0 0=m) (hlB:m<=131064):
  Calls prog 98 #[.pointer (some ⟨g,0,none⟩),.agg #[.int .i64 33,.int .i64 A,.int .i64 B,.int .i64 D,.int .i64 n]] w fun e w'=>Did O w g b ({C with rg:=jG C.rg A (jO m).toNat},0) e w':=by
 obtain⟨X,hX,hblk,hb0,hF0,r0,r1,r2,r3,r4⟩:=ji O w 33 A B D n;have aX:=a.below hb0;have HW:=hid hX;have i0:(0:Int)<=(A:Int):=by omega
 have i1:(A:Int)<16:=by omega
 have HA:=hid aX;have HF:=hid hF0;have hgO:=a.og;have hib:g≠w.heap.size:=fun e=>by have:=a.bx.lt;omega
 have gB:=aX.regc hB;have i2:(0:Int)<=(B:Int):=by omega
 have i21:(B:Int)<16:=by omega
 obtain⟨x,hx⟩:∃x,C.rg B=x:=⟨_,rfl⟩;have hxl:=ok.rg B hB;rw[hx] at gB hxl hoB;obtain⟨PB,hPB⟩:∃PB,jc (x:Int)=PB:=⟨_,rfl⟩;have HTB:=fun q=>Jo (aX.drewN q) hxl hoB hkB hmB hlB;rw[hPB] at HTB;have HTB:=hid HTB;have m0:(0:Int)<=(m:Int):=by omega
 have m1:(m:Int)<=131064:=by omega
 have hwn:0<=jO m:=by unfold jO;omega
 obtain⟨z,hz⟩:∃z,(jO m).toNat=z:=⟨_,rfl⟩;have hzi:jO m=(z:Int):=by omega
 have HI:=fun Y=>qe m Y;rw[hzi] at HI;rw[hz];have HI:=hid HI;have HJ:=hid (fun q=>(aX.reg hA z).drewN q);have rz:=aX.fz (2+A);have gA:=aX.regc hA;clear hz hzi hwn;clear a ok hblk hb0 hF0 hX aX hA;clear hx hxl hB hoB hkB hmB hlB hPB;go_enter Tryz.func98,Tryz.ntmps98;go_wp2_with fail;rw[HW.out];go_wp2_with fail;go_region_held3 (fun Y=>Y.cell? ⟨w.heap.size,2,none⟩=some (.int .i64 B)/\Y.cell? ⟨g,2+B,none⟩=some (.int .u64 (x:Int))) (first|(with_reducible assumption)|exact⟨r2,gB⟩) (first|(go_at_call 136;refine(HTB.out _).mono ?_;rintro e w' ⟨rfl,q1,rfl⟩));go_wp2_with fail;go_region_held3 (fun Y=>Y.cell? ⟨w.heap.size,1,none⟩=some (.int .i64 A)) (first|(with_reducible assumption)|exact r1|exact(zV hib).trans r1) (first|(go_at_call 41;refine(HI.out _).mono ?_;rintro e w' ⟨rfl,hw'⟩;subst w'));go_wp2_with fail;go_ret;exact⟨rfl,⟨_,_,_,_,HJ.out _⟩,(HF.out.setCell (p:=⟨g,2+A,none⟩) (.inl hgO) _).drewN _⟩
theorem jur (A:Nat) (hA:A<16) (B:Nat) (hB:B<16) (D:Int) (n:Int) {KB:Nat} (hKB:((jD C (C.rg B)).map fun o=>o.k).getD 0=KB) (hkB:KB≠4):
  Calls prog 137 #[.pointer (some ⟨g,0,none⟩),.agg #[.int .i64 35,.int .i64 A,.int .i64 B,.int .i64 D,.int .i64 n]] w fun e w'=>Did O w g b (C,7) e w':=by
 obtain⟨X,hX,hblk,hb0,hF0,r0,r1,r2,r3,r4⟩:=ji O w 35 A B D n;have aX:=a.below hb0;have HW:=hid hX;have i0:(0:Int)<=(A:Int):=by omega
 have i1:(A:Int)<16:=by omega
 have HA:=hid aX;have HF:=hid hF0;have hgO:=a.og;have hib:g≠w.heap.size:=fun e=>by have:=a.bx.lt;omega
 have gB:=aX.regc hB;have i2:(0:Int)<=(B:Int):=by omega
 have i21:(B:Int)<16:=by omega
 obtain⟨x,hx⟩:∃x,C.rg B=x:=⟨_,rfl⟩;have hxl:=ok.rg B hB;rw[hx] at gB hxl hKB;have HTB:=hid (fun q=>jbP (aX.drewN q) hxl hKB hkB);clear a ok hblk hb0 hF0 hX aX hA;clear hx hxl hB hKB;go_enter Tryz.func137,Tryz.ntmps137;go_wp2_with fail;rw[HW.out];go_wp2_with fail;go_region_held3 (fun Y=>Y.cell? ⟨w.heap.size,2,none⟩=some (.int .i64 B)/\Y.cell? ⟨g,2+B,none⟩=some (.int .u64 (x:Int))) (first|(with_reducible assumption)|exact⟨r2,gB⟩) (first|(go_at_call 136;refine(HTB.out _).mono ?_;rintro e w' ⟨rfl,q1,rfl⟩));go_wp2_with fail;go_quiet (fail);go_wp2_with fail;go_ret;exact⟨rfl,⟨_,_,_,_,(HA.out.drewN _).drewN _⟩,(HF.out.drewN _).drewN _⟩
theorem jvj (A:Nat) (hA:A<16) (B:Nat) (hB:B<16) (D:Nat) (hD:D<16) (n:Int) {oB:Ob} (hoB:jD C (C.rg B)=some oB) (hkB:oB.k=4) {m:Nat} (hmB:oB.ws.getD 0 0=m) (hlB:m<=131064) (HD:jj (C.rg D:Int)=false):
  Calls prog 137 #[.pointer (some ⟨g,0,none⟩),.agg #[.int .i64 35,.int .i64 A,.int .i64 B,.int .i64 D,.int .i64 n]] w fun e w'=>Did O w g b (C,7) e w':=by
 obtain⟨X,hX,hblk,hb0,hF0,r0,r1,r2,r3,r4⟩:=ji O w 35 A B D n;have aX:=a.below hb0;have HW:=hid hX;have i0:(0:Int)<=(A:Int):=by omega
 have i1:(A:Int)<16:=by omega
 have HA:=hid aX;have HF:=hid hF0;have hgO:=a.og;have hib:g≠w.heap.size:=fun e=>by have:=a.bx.lt;omega
 have gB:=aX.regc hB;have i2:(0:Int)<=(B:Int):=by omega
 have i21:(B:Int)<16:=by omega
 obtain⟨x,hx⟩:∃x,C.rg B=x:=⟨_,rfl⟩;have hxl:=ok.rg B hB;have gD:=aX.regc hD;have i4:(0:Int)<=(D:Int):=by omega
 have i41:(D:Int)<16:=by omega
 obtain⟨z,hz⟩:∃z,C.rg D=z:=⟨_,rfl⟩;have hzl:=ok.rg D hD;rw[hx] at gB hxl hoB;obtain⟨PB,hPB⟩:∃PB,jc (x:Int)=PB:=⟨_,rfl⟩;have HTB:=fun q=>Jo (aX.drewN q) hxl hoB hkB hmB hlB;rw[hPB] at HTB;have HTB:=hid HTB;have m0:(0:Int)<=(m:Int):=by omega
 have m1:(m:Int)<=131064:=by omega
 rw[hz] at gD hzl HD;have HID:=hid (zf (by omega) (by omega) HD);clear a ok hblk hb0 hF0 hX aX hA;clear hx hxl hB hoB hkB hmB hlB hPB;clear hz hzl hD HD;go_enter Tryz.func137,Tryz.ntmps137;go_wp2_with fail;rw[HW.out];go_wp2_with fail;go_region_held3 (fun Y=>Y.cell? ⟨w.heap.size,2,none⟩=some (.int .i64 B)/\Y.cell? ⟨g,2+B,none⟩=some (.int .u64 (x:Int))) (first|(with_reducible assumption)|exact⟨r2,gB⟩) (first|(go_at_call 136;refine(HTB.out _).mono ?_;rintro e w' ⟨rfl,q1,rfl⟩));go_wp2_with fail;go_region_held3 (fun Y=>Y.cell? ⟨w.heap.size,3,none⟩=some (.int .i64 D)/\Y.cell? ⟨g,2+D,none⟩=some (.int .u64 (z:Int))) (first|(with_reducible assumption)|exact⟨r3,gD⟩) (first|(go_at_call 127;refine(HID.out _).mono ?_;rintro e w' ⟨rfl,hw'⟩;subst w'));go_wp2_with fail;go_ret;exact⟨rfl,⟨_,_,_,_,HA.out.drewN _⟩,HF.out.drewN _⟩
theorem jsP (A:Nat) (hA:A<16) (B:Nat) (hB:B<16) (D:Nat) (hD:D<16) (n:Int) {oB:Ob} (hoB:jD C (C.rg B)=some oB) (hkB:oB.k=4) {m:Nat} (hmB:oB.ws.getD 0 0=m) (hlB:m<=131064) (HD:jj (C.rg D:Int)=true) {p:Int} (hpD:qx (C.rg D:Int)=p) (h0:p<0):
  Calls prog 137 #[.pointer (some ⟨g,0,none⟩),.agg #[.int .i64 35,.int .i64 A,.int .i64 B,.int .i64 D,.int .i64 n]] w fun e w'=>Did O w g b (Jm C 9) e w':=by
 obtain⟨X,hX,hblk,hb0,hF0,r0,r1,r2,r3,r4⟩:=ji O w 35 A B D n;have aX:=a.below hb0;have HW:=hid hX;have i0:(0:Int)<=(A:Int):=by omega
 have i1:(A:Int)<16:=by omega
 have HA:=hid aX;have HF:=hid hF0;have hgO:=a.og;have hib:g≠w.heap.size:=fun e=>by have:=a.bx.lt;omega
 have gB:=aX.regc hB;have i2:(0:Int)<=(B:Int):=by omega
 have i21:(B:Int)<16:=by omega
 obtain⟨x,hx⟩:∃x,C.rg B=x:=⟨_,rfl⟩;have hxl:=ok.rg B hB;have gD:=aX.regc hD;have i4:(0:Int)<=(D:Int):=by omega
 have i41:(D:Int)<16:=by omega
 obtain⟨z,hz⟩:∃z,C.rg D=z:=⟨_,rfl⟩;have hzl:=ok.rg D hD;rw[hx] at gB hxl hoB;obtain⟨PB,hPB⟩:∃PB,jc (x:Int)=PB:=⟨_,rfl⟩;have HTB:=fun q=>Jo (aX.drewN q) hxl hoB hkB hmB hlB;rw[hPB] at HTB;have HTB:=hid HTB;have m0:(0:Int)<=(m:Int):=by omega
 have m1:(m:Int)<=131064:=by omega
 rw[hz] at gD hzl HD;have HID:=hid (zf (by omega) (by omega) HD);have HOD:=qj (z:Int);rw[show qx (z:Int)=p from hz▸hpD] at HOD;have HOD:=hid (fun Y=>HOD Y (by omega) (by omega));have d0:decide (p<0)=true:=zqr h0;have HI:=hid (fun Y=>show Calls prog 41 #[.int .i64 4] Y (fun e w'=>e=.returned (.int .u64 ((9:Nat):Int))/\Y=w') from(qe 4 Y).mono fun e w' ⟨h1,h2⟩=>⟨by rw[h1];rfl,h2⟩);have HRA:=hid (fun q=>QD (aX.drewN q) ok 9);clear a ok hblk hb0 hF0 hX aX hA;clear hx hxl hB hoB hkB hmB hlB hPB;clear hz hzl hD HD hpD h0;go_enter Tryz.func137,Tryz.ntmps137;go_wp2_with fail;rw[HW.out];go_wp2_with fail;go_region_held3 (fun Y=>Y.cell? ⟨w.heap.size,2,none⟩=some (.int .i64 B)/\Y.cell? ⟨g,2+B,none⟩=some (.int .u64 (x:Int))) (first|(with_reducible assumption)|exact⟨r2,gB⟩) (first|(go_at_call 136;refine(HTB.out _).mono ?_;rintro e w' ⟨rfl,q1,rfl⟩));go_wp2_with fail;go_region_held3 (fun Y=>Y.cell? ⟨w.heap.size,3,none⟩=some (.int .i64 D)/\Y.cell? ⟨g,2+D,none⟩=some (.int .u64 (z:Int))) (first|(with_reducible assumption)|exact⟨r3,gD⟩) (first|(go_at_call 127;refine(HID.out _).mono ?_;rintro e w' ⟨rfl,hw'⟩;subst w'));go_wp2_with fail;go_region_held3 (fun Y=>Y.cell? ⟨w.heap.size,3,none⟩=some (.int .i64 D)/\Y.cell? ⟨g,2+D,none⟩=some (.int .u64 (z:Int))) (first|(with_reducible assumption)|exact⟨r3,gD⟩) (first|(go_at_call 128;refine(HOD.out _).mono ?_;rintro e w' ⟨rfl,hw'⟩;subst w'));go_wp2_with fail;refine(HI.out _).mono ?_;rintro e w' ⟨rfl,rfl⟩;go_wp2_with fail;refine(HRA.out _).mono ?_;rintro e w2 ⟨rfl,h2,hf2⟩;have H2:=hid (zqf h2 hf2);clear h2 hf2;go_wp2_with fail;go_ret;exact⟨rfl,H2.out.1,(HF.out.drewN _).trans H2.out.2 (fun i hi=>.inl hi)⟩
theorem jsO (A:Nat) (hA:A<16) (B:Nat) (hB:B<16) (D:Nat) (hD:D<16) (n:Int) {oB:Ob} (hoB:jD C (C.rg B)=some oB) (hkB:oB.k=4) {m:Nat} (hmB:oB.ws.getD 0 0=m) (hlB:m<=131064) (HD:jj (C.rg D:Int)=true) {p:Int} (hpD:qx (C.rg D:Int)=p) (h0:(m:Int)<=p):
  Calls prog 137 #[.pointer (some ⟨g,0,none⟩),.agg #[.int .i64 35,.int .i64 A,.int .i64 B,.int .i64 D,.int .i64 n]] w fun e w'=>Did O w g b (Jm C 9) e w':=by
 obtain⟨X,hX,hblk,hb0,hF0,r0,r1,r2,r3,r4⟩:=ji O w 35 A B D n;have aX:=a.below hb0;have HW:=hid hX;have i0:(0:Int)<=(A:Int):=by omega
 have i1:(A:Int)<16:=by omega
 have HA:=hid aX;have HF:=hid hF0;have hgO:=a.og;have hib:g≠w.heap.size:=fun e=>by have:=a.bx.lt;omega
 have gB:=aX.regc hB;have i2:(0:Int)<=(B:Int):=by omega
 have i21:(B:Int)<16:=by omega
 obtain⟨x,hx⟩:∃x,C.rg B=x:=⟨_,rfl⟩;have hxl:=ok.rg B hB;have gD:=aX.regc hD;have i4:(0:Int)<=(D:Int):=by omega
 have i41:(D:Int)<16:=by omega
 obtain⟨z,hz⟩:∃z,C.rg D=z:=⟨_,rfl⟩;have hzl:=ok.rg D hD;rw[hx] at gB hxl hoB;obtain⟨PB,hPB⟩:∃PB,jc (x:Int)=PB:=⟨_,rfl⟩;have HTB:=fun q=>Jo (aX.drewN q) hxl hoB hkB hmB hlB;rw[hPB] at HTB;have HTB:=hid HTB;have m0:(0:Int)<=(m:Int):=by omega
 have m1:(m:Int)<=131064:=by omega
 rw[hz] at gD hzl HD;have HID:=hid (zf (by omega) (by omega) HD);have HOD:=qj (z:Int);rw[show qx (z:Int)=p from hz▸hpD] at HOD;have HOD:=hid (fun Y=>HOD Y (by omega) (by omega));have d0:decide (p<0)=false:=zqq (by omega);have d1:decide ((m:Int)<=p)=true:=zqr h0;have HI:=hid (fun Y=>show Calls prog 41 #[.int .i64 4] Y (fun e w'=>e=.returned (.int .u64 ((9:Nat):Int))/\Y=w') from(qe 4 Y).mono fun e w' ⟨h1,h2⟩=>⟨by rw[h1];rfl,h2⟩);have HRA:=hid (fun q=>QD (aX.drewN q) ok 9);clear a ok hblk hb0 hF0 hX aX hA;clear hx hxl hB hoB hkB hmB hlB hPB;clear hz hzl hD HD hpD h0;go_enter Tryz.func137,Tryz.ntmps137;go_wp2_with fail;rw[HW.out];go_wp2_with fail;go_region_held3 (fun Y=>Y.cell? ⟨w.heap.size,2,none⟩=some (.int .i64 B)/\Y.cell? ⟨g,2+B,none⟩=some (.int .u64 (x:Int))) (first|(with_reducible assumption)|exact⟨r2,gB⟩) (first|(go_at_call 136;refine(HTB.out _).mono ?_;rintro e w' ⟨rfl,q1,rfl⟩));go_wp2_with fail;go_region_held3 (fun Y=>Y.cell? ⟨w.heap.size,3,none⟩=some (.int .i64 D)/\Y.cell? ⟨g,2+D,none⟩=some (.int .u64 (z:Int))) (first|(with_reducible assumption)|exact⟨r3,gD⟩) (first|(go_at_call 127;refine(HID.out _).mono ?_;rintro e w' ⟨rfl,hw'⟩;subst w'));go_wp2_with fail;go_region_held3 (fun Y=>Y.cell? ⟨w.heap.size,3,none⟩=some (.int .i64 D)/\Y.cell? ⟨g,2+D,none⟩=some (.int .u64 (z:Int))) (first|(with_reducible assumption)|exact⟨r3,gD⟩) (first|(go_at_call 128;refine(HOD.out _).mono ?_;rintro e w' ⟨rfl,hw'⟩;subst w'));go_wp2_with fail;refine(HI.out _).mono ?_;rintro e w' ⟨rfl,rfl⟩;go_wp2_with fail;refine(HRA.out _).mono ?_;rintro e w2 ⟨rfl,h2,hf2⟩;have H2:=hid (zqf h2 hf2);clear h2 hf2;go_wp2_with fail;go_ret;exact⟨rfl,H2.out.1,(HF.out.drewN _).trans H2.out.2 (fun i hi=>.inl hi)⟩
theorem jus (A:Nat) (hA:A<16) (B:Nat) (hB:B<16) (D:Nat) (hD:D<16) (n:Int) {oB:Ob} (hoB:jD C (C.rg B)=some oB) (hkB:oB.k=4) {m:Nat} (hmB:oB.ws.getD 0 0=m) (hlB:m<=131064) (HD:jj (C.rg D:Int)=true) {p:Nat} (hpD:qx (C.rg D:Int)=(p:Int)) (h0:p<m) {c:Nat} (hc:oB.ws.getD (1+p/8) 0/2^(8*(p%8))%256=c):
  Calls prog 137 #[.pointer (some ⟨g,0,none⟩),.agg #[.int .i64 35,.int .i64 A,.int .i64 B,.int .i64 D,.int .i64 n]] w fun e w'=>Did O w g b ({C with rg:=jG C.rg A (jO c).toNat},0) e w':=by
 obtain⟨X,hX,hblk,hb0,hF0,r0,r1,r2,r3,r4⟩:=ji O w 35 A B D n;have aX:=a.below hb0;have HW:=hid hX;have i0:(0:Int)<=(A:Int):=by omega
 have i1:(A:Int)<16:=by omega
 have HA:=hid aX;have HF:=hid hF0;have hgO:=a.og;have hib:g≠w.heap.size:=fun e=>by have:=a.bx.lt;omega
 have gB:=aX.regc hB;have i2:(0:Int)<=(B:Int):=by omega
 have i21:(B:Int)<16:=by omega
 obtain⟨x,hx⟩:∃x,C.rg B=x:=⟨_,rfl⟩;have hxl:=ok.rg B hB;have gD:=aX.regc hD;have i4:(0:Int)<=(D:Int):=by omega
 have i41:(D:Int)<16:=by omega
 obtain⟨z,hz⟩:∃z,C.rg D=z:=⟨_,rfl⟩;have hzl:=ok.rg D hD;have HFD0:∀q,Calls prog 126 #[.pointer (some ⟨g,0,none⟩),.int .i64 (jc (C.rg B:Int)),.int .i64 ((1+p/8:Nat):Int)] (X.drewN q) fun e w'=>e=.returned (.int .u64 (oB.ws.getD (1+p/8) 0:Nat))/\∃q',w'=(X.drewN q).drewN q':=fun q=>Zu (aX.drewN q) hoB (1+p/8);have hVl:=Z6 aX.z hoB (1+p/8);rw[hx] at gB hxl hoB;obtain⟨PB,hPB⟩:∃PB,jc (x:Int)=PB:=⟨_,rfl⟩;have HTB:=fun q=>Jo (aX.drewN q) hxl hoB hkB hmB hlB;rw[hPB] at HTB;have HTB:=hid HTB;have m0:(0:Int)<=(m:Int):=by omega
 have m1:(m:Int)<=131064:=by omega
 rw[hz] at gD hzl HD;have HID:=hid (zf (by omega) (by omega) HD);have HOD:=qj (z:Int);rw[show qx (z:Int)=(p:Int) from hz▸hpD] at HOD;have HOD:=hid (fun Y=>HOD Y (by omega) (by omega));rw[hx,hPB] at HFD0;obtain⟨V,hV⟩:∃V,oB.ws.getD (1+p/8) 0=V:=⟨_,rfl⟩;rw[hV] at HFD0 hVl hc;have HFD:=hid HFD0;clear HFD0;have d0:decide ((p:Int)<0)=false:=zqq (by omega);have d1:decide ((m:Int)<=(p:Int))=false:=zqq (by omega);have d2:decide (m<=p)=false:=zqq (by omega);have hwn:0<=jO c:=by unfold jO;omega
 obtain⟨t,ht⟩:∃t,(jO c).toNat=t:=⟨_,rfl⟩;have hti:jO c=(t:Int):=by omega
 have HI:=fun Y=>qe c Y;rw[hti] at HI;rw[ht];have HI:=hid HI;have HJ:=hid (fun q=>(aX.reg hA t).drewN q);have rz:=aX.fz (2+A);have gA:=aX.regc hA;have p0:(0:Int)<=(p:Int):=by omega
 have p1:(p:Int)<=131064:=by omega
 obtain⟨pd,hpd⟩:∃pd,p/8=pd:=⟨_,rfl⟩;obtain⟨pr,hpr⟩:∃pr,p%8=pr:=⟨_,rfl⟩;obtain⟨pe,hpe⟩:∃pe,1+pd=pe:=⟨_,rfl⟩;obtain⟨p8,hp8⟩:∃p8,8*pr=p8:=⟨_,rfl⟩;rw[hpd,hpe] at HFD;rw[hpr,hp8] at hc;have s2:(p:Int).tdiv 8=(pd:Int):=by rw[Int.tdiv_eq_ediv_of_nonneg (by omega)];omega
 have s3:IntKind.i64.wrap (pd:Int)=(pd:Int):=jv (by omega) (by omega);have s4:IntKind.i64.wrap (1+(pd:Int))=(pe:Int):=(jv (by omega) (by omega)).trans (by omega);have s5:(p:Int).tmod 8=(pr:Int):=by rw[Int.tmod_eq_emod_of_nonneg (by omega)];omega
 have s6:IntKind.i64.wrap (8*(pr:Int))=(p8:Int):=(jv (by omega) (by omega)).trans (by omega);have s6b:IntKind.i64.wrap (pr:Int)=(pr:Int):=jv (by omega) (by omega);have q0:(0:Int)<=(p8:Int):=by omega
 have q1':(p8:Int)<=64:=by omega
 obtain⟨Vs,hVs⟩:∃Vs,V/2^p8=Vs:=⟨_,rfl⟩;have hVs1:Vs<18446744073709551616:=by rw[<-hVs];exact Nat.lt_of_le_of_lt (Nat.div_le_self _ _) hVl
 rw[hVs] at hc;have s7:(V:Int)/2^p8=(Vs:Int):=by rw[<-hVs];exact_mod_cast rfl
 have c0:c<256:=by rw[<-hc];exact Nat.mod_lt _ (by decide)
 have s8:bits BinOp.and IntKind.u64 (Vs:Int) 255=(c:Int):=by
  have h1:=u64_and_nat Vs 255 hVs1 (by decide);rw[show((255:Nat):Int)=255 from rfl] at h1;rw[h1,show Vs&&& 255=Vs%256 from Nat.and_two_pow_sub_one_eq_mod Vs 8,hc]
 have s9:IntKind.i64.wrap (c:Int)=(c:Int):=jv (Int.le_trans (by decide) (Int.natCast_nonneg c)) (Int.le_trans (Int.ofNat_le.2 (Nat.le_of_lt c0)) (by decide));clear a ok hblk hb0 hF0 hX aX hA;clear hx hxl hB hoB hkB hmB hlB hPB;clear hz hzl hD HD hpD h0 ht hti hwn hc hVs hVs1 hpd hpr hpe hp8 hV hVl;go_enter Tryz.func137,Tryz.ntmps137;go_wp2_with fail;rw[HW.out];go_wp2_with fail;go_region_held3 (fun Y=>Y.cell? ⟨w.heap.size,2,none⟩=some (.int .i64 B)/\Y.cell? ⟨g,2+B,none⟩=some (.int .u64 (x:Int))) (first|(with_reducible assumption)|exact⟨r2,gB⟩) (first|(go_at_call 136;refine(HTB.out _).mono ?_;rintro e w' ⟨rfl,q1,rfl⟩));go_wp2_with fail;go_region_held3 (fun Y=>Y.cell? ⟨w.heap.size,3,none⟩=some (.int .i64 D)/\Y.cell? ⟨g,2+D,none⟩=some (.int .u64 (z:Int))) (first|(with_reducible assumption)|exact⟨r3,gD⟩) (first|(go_at_call 127;refine(HID.out _).mono ?_;rintro e w' ⟨rfl,hw'⟩;subst w'));go_wp2_with fail;go_region_held3 (fun Y=>Y.cell? ⟨w.heap.size,3,none⟩=some (.int .i64 D)/\Y.cell? ⟨g,2+D,none⟩=some (.int .u64 (z:Int))) (first|(with_reducible assumption)|exact⟨r3,gD⟩) (first|(go_at_call 128;refine(HOD.out _).mono ?_;rintro e w' ⟨rfl,hw'⟩;subst w'));go_wp2_with fail;go_region_held3 (fun Y=>Y.cell? ⟨w.heap.size,1,none⟩=some (.int .i64 A)) (first|(with_reducible assumption)|exact r1|exact(zV hib).trans r1) (first|(go_at_call 126;refine(HFD.out _).mono ?_;rintro e w' ⟨rfl,q9,rfl⟩)|(go_at_call 41;refine(HI.out _).mono ?_;rintro e w' ⟨rfl,hw'⟩;subst w'));go_wp2_with fail;go_ret;exact⟨rfl,⟨_,_,_,_,HJ.out _⟩,(HF.out.setCell (p:=⟨g,2+A,none⟩) (.inl hgO) _).drewN _⟩
end
end
section
variable {O:Nat->Prop} {w X:World} {g b:Nat} {C:CM} {R:Nat->Value} {vf vs vh:Value} {M:RM} {D:Nat->Prop} {f A:Nat->Nat} {E:List Nat} {k:Nat} {y:Fm}
section
variable (a:McAt O w g C b R vf vs vh)
include a
theorem jtl {x:Nat} (hx:x<18446744073709551616) (ht:∀o,jD C x=some o->o.k=4->o.ws.getD 0 0<=131064):∃P N F,∀q,Calls prog 136 #[.pointer (some ⟨g,0,none⟩),.int .u64 (x:Int)] (w.drewN q) fun e w'=>e=.returned (.tuple #[.int .i64 P,.int .i64 N,.bool F])/\∃q',w'=(w.drewN q).drewN q':=by
 by_cases h:((jD C x).map fun o=>o.k).getD 0=4
 ·cases e:jD C x with
  |none=>rw[e] at h;cases h
  |some o=>
   rw[e] at h;exact⟨_,_,_,fun q=>Jo (a.drewN q) hx e h rfl (ht o e h)⟩
 ·exact⟨_,_,_,fun q=>jbP (a.drewN q) hx rfl h⟩
theorem jpM (ok:OkC C) (A:Nat) (hA:A<16) (B:Nat) (hB:B<16) (D:Nat) (hD:D<16) (n:Int) {KB:Nat} (hKB:((jD C (C.rg B)).map fun o=>o.k).getD 0=KB) (hkB:KB≠4) (htD:∀o,jD C (C.rg D)=some o->o.k=4->o.ws.getD 0 0<=131064):
  Calls prog 135 #[.pointer (some ⟨g,0,none⟩),.agg #[.int .i64 32,.int .i64 A,.int .i64 B,.int .i64 D,.int .i64 n]] w fun e w'=>Did O w g b (C,7) e w':=by
 obtain⟨X,hX,hblk,hb0,hF0,r0,r1,r2,r3,r4⟩:=ji O w 32 A B D n;have aX:=a.below hb0;have HW:=hid hX;have i0:(0:Int)<=(A:Int):=by omega
 have i1:(A:Int)<16:=by omega
 have HA:=hid aX;have HF:=hid hF0;have hgO:=a.og;have hib:g≠w.heap.size:=fun e=>by have:=a.bx.lt;omega
 have gB:=aX.regc hB;have i2:(0:Int)<=(B:Int):=by omega
 have i21:(B:Int)<16:=by omega
 obtain⟨x,hx⟩:∃x,C.rg B=x:=⟨_,rfl⟩;have hxl:=ok.rg B hB;have gD:=aX.regc hD;have i4:(0:Int)<=(D:Int):=by omega
 have i41:(D:Int)<16:=by omega
 obtain⟨z,hz⟩:∃z,C.rg D=z:=⟨_,rfl⟩;have hzl:=ok.rg D hD;rw[hx] at gB hxl hKB;have HTB:=hid (fun q=>jbP (aX.drewN q) hxl hKB hkB);rw[hz] at gD hzl htD;obtain⟨PD,ND,FD,HTD⟩:=jtl aX hzl htD;have HTD:=hid HTD;clear a ok hblk hb0 hF0 hX aX hA;clear hx hxl hB hKB;clear hz hzl hD htD;go_enter Tryz.func135,Tryz.ntmps135;go_wp2_with fail;rw[HW.out];go_wp2_with fail;go_region_held3 (fun Y=>Y.cell? ⟨w.heap.size,2,none⟩=some (.int .i64 B)/\Y.cell? ⟨g,2+B,none⟩=some (.int .u64 (x:Int))) (first|(with_reducible assumption)|exact⟨r2,gB⟩) (first|(go_at_call 136;refine(HTB.out _).mono ?_;rintro e w' ⟨rfl,q1,rfl⟩));go_wp2_with fail;go_region_held3 (fun Y=>Y.cell? ⟨w.heap.size,3,none⟩=some (.int .i64 D)/\Y.cell? ⟨g,2+D,none⟩=some (.int .u64 (z:Int))) (first|(with_reducible assumption)|exact⟨r3,gD⟩) (first|(go_at_call 136;refine(HTD.out _).mono ?_;rintro e w' ⟨rfl,q2,rfl⟩));go_wp2_with fail;go_ret;exact⟨rfl,⟨_,_,_,_,HA.out.drewN _⟩,HF.out.drewN _⟩
theorem jpN (ok:OkC C) (A:Nat) (hA:A<16) (B:Nat) (hB:B<16) (D:Nat) (hD:D<16) (n:Int) {oB:Ob} (hoB:jD C (C.rg B)=some oB) (hkB:oB.k=4) {m:Nat} (hmB:oB.ws.getD 0 0=m) (hlB:m<=131064) {KD:Nat} (hKD:((jD C (C.rg D)).map fun o=>o.k).getD 0=KD) (hkD:KD≠4):
  Calls prog 135 #[.pointer (some ⟨g,0,none⟩),.agg #[.int .i64 32,.int .i64 A,.int .i64 B,.int .i64 D,.int .i64 n]] w fun e w'=>Did O w g b (C,7) e w':=by
 obtain⟨X,hX,hblk,hb0,hF0,r0,r1,r2,r3,r4⟩:=ji O w 32 A B D n;have aX:=a.below hb0;have HW:=hid hX;have i0:(0:Int)<=(A:Int):=by omega
 have i1:(A:Int)<16:=by omega
 have HA:=hid aX;have HF:=hid hF0;have hgO:=a.og;have hib:g≠w.heap.size:=fun e=>by have:=a.bx.lt;omega
 have gB:=aX.regc hB;have i2:(0:Int)<=(B:Int):=by omega
 have i21:(B:Int)<16:=by omega
 obtain⟨x,hx⟩:∃x,C.rg B=x:=⟨_,rfl⟩;have hxl:=ok.rg B hB;have gD:=aX.regc hD;have i4:(0:Int)<=(D:Int):=by omega
 have i41:(D:Int)<16:=by omega
 obtain⟨z,hz⟩:∃z,C.rg D=z:=⟨_,rfl⟩;have hzl:=ok.rg D hD;rw[hx] at gB hxl hoB;obtain⟨PB,hPB⟩:∃PB,jc (x:Int)=PB:=⟨_,rfl⟩;have HTB:=fun q=>Jo (aX.drewN q) hxl hoB hkB hmB hlB;rw[hPB] at HTB;have HTB:=hid HTB;have m0:(0:Int)<=(m:Int):=by omega
 have m1:(m:Int)<=131064:=by omega
 rw[hz] at gD hzl hKD;have HTD:=hid (fun q=>jbP (aX.drewN q) hzl hKD hkD);clear a ok hblk hb0 hF0 hX aX hA;clear hx hxl hB hoB hkB hmB hlB hPB;clear hz hzl hD hKD;go_enter Tryz.func135,Tryz.ntmps135;go_wp2_with fail;rw[HW.out];go_wp2_with fail;go_region_held3 (fun Y=>Y.cell? ⟨w.heap.size,2,none⟩=some (.int .i64 B)/\Y.cell? ⟨g,2+B,none⟩=some (.int .u64 (x:Int))) (first|(with_reducible assumption)|exact⟨r2,gB⟩) (first|(go_at_call 136;refine(HTB.out _).mono ?_;rintro e w' ⟨rfl,q1,rfl⟩));go_wp2_with fail;go_region_held3 (fun Y=>Y.cell? ⟨w.heap.size,3,none⟩=some (.int .i64 D)/\Y.cell? ⟨g,2+D,none⟩=some (.int .u64 (z:Int))) (first|(with_reducible assumption)|exact⟨r3,gD⟩) (first|(go_at_call 136;refine(HTD.out _).mono ?_;rintro e w' ⟨rfl,q2,rfl⟩));go_wp2_with fail;go_ret;exact⟨rfl,⟨_,_,_,_,HA.out.drewN _⟩,HF.out.drewN _⟩
theorem jng (ok:OkC C) (A:Nat) (hA:A<16) (B:Nat) (hB:B<16) (D:Nat) (hD:D<16) (n:Int) {oB:Ob} (hoB:jD C (C.rg B)=some oB) (hkB:oB.k=4) {m:Nat} (hmB:oB.ws.getD 0 0=m) (hlB:m<=131064) {oD:Ob} (hoD:jD C (C.rg D)=some oD) (hkD:oD.k=4) {l:Nat} (hmD:oD.ws.getD 0 0=l) (hlD:l<=131064) (hs:131064<m+l):
  Calls prog 135 #[.pointer (some ⟨g,0,none⟩),.agg #[.int .i64 32,.int .i64 A,.int .i64 B,.int .i64 D,.int .i64 n]] w fun e w'=>Did O w g b (C,5) e w':=by
 obtain⟨X,hX,hblk,hb0,hF0,r0,r1,r2,r3,r4⟩:=ji O w 32 A B D n;have aX:=a.below hb0;have HW:=hid hX;have i0:(0:Int)<=(A:Int):=by omega
 have i1:(A:Int)<16:=by omega
 have HA:=hid aX;have HF:=hid hF0;have hgO:=a.og;have hib:g≠w.heap.size:=fun e=>by have:=a.bx.lt;omega
 have gB:=aX.regc hB;have i2:(0:Int)<=(B:Int):=by omega
 have i21:(B:Int)<16:=by omega
 obtain⟨x,hx⟩:∃x,C.rg B=x:=⟨_,rfl⟩;have hxl:=ok.rg B hB;have gD:=aX.regc hD;have i4:(0:Int)<=(D:Int):=by omega
 have i41:(D:Int)<16:=by omega
 obtain⟨z,hz⟩:∃z,C.rg D=z:=⟨_,rfl⟩;have hzl:=ok.rg D hD;rw[hx] at gB hxl hoB;obtain⟨PB,hPB⟩:∃PB,jc (x:Int)=PB:=⟨_,rfl⟩;have HTB:=fun q=>Jo (aX.drewN q) hxl hoB hkB hmB hlB;rw[hPB] at HTB;have HTB:=hid HTB;have m0:(0:Int)<=(m:Int):=by omega
 have m1:(m:Int)<=131064:=by omega
 rw[hz] at gD hzl hoD;obtain⟨PD,hPD⟩:∃PD,jc (z:Int)=PD:=⟨_,rfl⟩;have HTD:=fun q=>Jo (aX.drewN q) hzl hoD hkD hmD hlD;rw[hPD] at HTD;have HTD:=hid HTD;have l0:(0:Int)<=(l:Int):=by omega
 have l1:(l:Int)<=131064:=by omega
 have sw:IntKind.i64.wrap ((m:Int)+(l:Int))=((m+l:Nat):Int):=(jv (by omega) (by omega)).trans (by omega);obtain⟨ml,hml⟩:∃ml,m+l=ml:=⟨_,rfl⟩;rw[hml] at sw hs;have d0:decide ((131064:Int)<(ml:Int))=true:=zqr (by omega);have d2:decide (131064<ml)=true:=zqr hs;clear a ok hblk hb0 hF0 hX aX hA;clear hx hxl hB hoB hkB hmB hlB hPB;clear hz hzl hD hoD hkD hmD hlD hPD;clear hs hml;go_enter Tryz.func135,Tryz.ntmps135;go_wp2_with fail;rw[HW.out];go_wp2_with fail;go_region_held3 (fun Y=>Y.cell? ⟨w.heap.size,2,none⟩=some (.int .i64 B)/\Y.cell? ⟨g,2+B,none⟩=some (.int .u64 (x:Int))) (first|(with_reducible assumption)|exact⟨r2,gB⟩) (first|(go_at_call 136;refine(HTB.out _).mono ?_;rintro e w' ⟨rfl,q1,rfl⟩));go_wp2_with fail;go_region_held3 (fun Y=>Y.cell? ⟨w.heap.size,3,none⟩=some (.int .i64 D)/\Y.cell? ⟨g,2+D,none⟩=some (.int .u64 (z:Int))) (first|(with_reducible assumption)|exact⟨r3,gD⟩) (first|(go_at_call 136;refine(HTD.out _).mono ?_;rintro e w' ⟨rfl,q2,rfl⟩));go_wp2_with fail;go_ret;exact⟨rfl,⟨_,_,_,_,HA.out.drewN _⟩,HF.out.drewN _⟩
theorem jsi (ok:OkC C) (A:Nat) (hA:A<16) (B:Nat) (hB:B<16) (D:Nat) (hD:D<16) (n:Int) {s t:ByteArray} (hoB:jD C (C.rg B)=some (zp s.data.toList)) (hoD:jD C (C.rg D)=some (zp t.data.toList)) (hs:s.size+t.size<=131064) {Q:Ending->World->Prop} (hQ:∀e w',Q e w'->∃v,e=.returned v) (HW0:∀Y,Below w.heap.size w Y->Calls prog 138 #[.pointer (some ⟨g,0,none⟩),.int .i64 A,.string (s++t)] Y Q):
  Calls prog 135 #[.pointer (some ⟨g,0,none⟩),.agg #[.int .i64 32,.int .i64 A,.int .i64 B,.int .i64 D,.int .i64 n]] w fun e w'=>Q e w':=by
 have hlB:s.size<=131064:=by omega
 have hlD:t.size<=131064:=by omega
 obtain⟨X,hX,hblk,hb0,hF0,r0,r1,r2,r3,r4⟩:=ji O w 32 A B D n;have aX:=a.below hb0;have HW:=hid hX;have i0:(0:Int)<=(A:Int):=by omega
 have i1:(A:Int)<16:=by omega
 have HA:=hid aX;have HF:=hid hF0;have hgO:=a.og;have hib:g≠w.heap.size:=fun e=>by have:=a.bx.lt;omega
 have gB:=aX.regc hB;have i2:(0:Int)<=(B:Int):=by omega
 have i21:(B:Int)<16:=by omega
 obtain⟨x,hx⟩:∃x,C.rg B=x:=⟨_,rfl⟩;have hxl:=ok.rg B hB;have gD:=aX.regc hD;have i4:(0:Int)<=(D:Int):=by omega
 have i41:(D:Int)<16:=by omega
 obtain⟨z,hz⟩:∃z,C.rg D=z:=⟨_,rfl⟩;have hzl:=ok.rg D hD;rw[hx] at gB hxl hoB;rw[hz] at gD hzl hoD;obtain⟨PB,hPB⟩:∃PB,jc (x:Int)=PB:=⟨_,rfl⟩;have HTB:=fun q=>Jo (aX.drewN q) hxl hoB rfl (n:=s.size) (by simp[zp]) hlB;rw[hPB] at HTB;have HTB:=hid HTB;obtain⟨PD,hPD⟩:∃PD,jc (z:Int)=PD:=⟨_,rfl⟩;have HTD:=fun q=>Jo (aX.drewN q) hzl hoD rfl (n:=t.size) (by simp[zp]) hlD;rw[hPD] at HTD;have HTD:=hid HTD;have HGB:=hid (fun q=>(jeC (aX.drewN q) hxl hoB hlB).mono fun e w' (h:_/\_)=>(zqf h.1 ((Below.drewN' (Below.refl _ X) q).trans h.2):_/\Below X.heap.size X w'));have HGD:=hid (fun Y (hY:Below X.heap.size X Y) q=>(jeC ((aX.below hY).drewN q) hzl hoD hlD).mono fun e w' (h:_/\_)=>(zqf h.1 ((Below.drewN' hY q).trans (h.2.mono hY.size)):_/\Below X.heap.size X w'));have HWR:=hid HW0;have HQ:=hid hQ;obtain⟨m,hm⟩:∃m,s.size=m:=⟨_,rfl⟩;obtain⟨l,hl⟩:∃l,t.size=l:=⟨_,rfl⟩;rw[hm] at HTB hlB hs;rw[hl] at HTD hlD hs;have m0:(0:Int)<=(m:Int):=by omega
 have m1:(m:Int)<=131064:=by omega
 have l0:(0:Int)<=(l:Int):=by omega
 have l1:(l:Int)<=131064:=by omega
 have sw:IntKind.i64.wrap ((m:Int)+(l:Int))=((m+l:Nat):Int):=(jv (by omega) (by omega)).trans (by omega);obtain⟨ml,hml⟩:∃ml,m+l=ml:=⟨_,rfl⟩;rw[hml] at sw hs;have d0:decide ((131064:Int)<(ml:Int))=false:=zqq (by omega);have d2:decide (131064<ml)=false:=zqq (by omega);have c0:=aX.c0;have HB0:=hid hb0;have hwX:w.heap.size<X.heap.size:=by rw[<-hX];simp
 have hrun:∀W:World,(Op.stringOp .add s t).run prog W=.ok (.string (s++t)) W:=fun W=>run_string_add_sum W s t (by omega);have HCD:=hid (fun Y (hY:Below X.heap.size X Y)=>show Y.cell? ⟨g,0,none⟩=some (.pointer (some ⟨b,0,none⟩))/\Y.cell? ⟨w.heap.size,3,none⟩=some (.int .i64 D)/\Y.cell? ⟨g,2+D,none⟩=some (.int .u64 (z:Int)) from⟨(aX.below hY).c0,(hY.cell (p:=⟨w.heap.size,3,none⟩) hwX).trans r3,hz▸(aX.below hY).regc hD⟩);have HCB:=hid (fun Y (hY:Below X.heap.size X Y)=>show Y.cell? ⟨g,0,none⟩=some (.pointer (some ⟨b,0,none⟩))/\Y.cell? ⟨w.heap.size,2,none⟩=some (.int .i64 B)/\Y.cell? ⟨g,2+B,none⟩=some (.int .u64 (x:Int)) from⟨(aX.below hY).c0,(hY.cell (p:=⟨w.heap.size,2,none⟩) hwX).trans r2,hx▸(aX.below hY).regc hB⟩);have HCA:=hid (fun Y (hY:Below X.heap.size X Y)=>show Y.cell? ⟨w.heap.size,1,none⟩=some (.int .i64 A) from(hY.cell (p:=⟨w.heap.size,1,none⟩) hwX).trans r1);have HBX:=hid (fun Y (hY:Below X.heap.size X Y)=>show Below w.heap.size w Y from hb0.trans (hY.mono (by rw[<-hX];simp)));clear a ok hblk hb0 hF0 hX aX hA;clear hx hxl hB hoB hPB hz hzl hD hoD hPD hs hml hm hl hlB hlD hQ HW0;go_enter Tryz.func135,Tryz.ntmps135;go_wp2_with fail;rw[HW.out];go_wp2_with fail;go_region_held3 (fun Y=>Y.cell? ⟨w.heap.size,2,none⟩=some (.int .i64 B)/\Y.cell? ⟨g,2+B,none⟩=some (.int .u64 (x:Int))) (first|(with_reducible assumption)|exact⟨r2,gB⟩) (first|(go_at_call 136;refine(HTB.out _).mono ?_;rintro e w' ⟨rfl,q1,rfl⟩));go_wp2_with fail;go_region_held3 (fun Y=>Y.cell? ⟨w.heap.size,3,none⟩=some (.int .i64 D)/\Y.cell? ⟨g,2+D,none⟩=some (.int .u64 (z:Int))) (first|(with_reducible assumption)|exact⟨r3,gD⟩) (first|(go_at_call 136;refine(HTD.out _).mono ?_;rintro e w' ⟨rfl,q2,rfl⟩));go_wp2_with fail;go_region_held3 (fun Y=>Y.cell? ⟨g,0,none⟩=some (.pointer (some ⟨b,0,none⟩))/\Y.cell? ⟨w.heap.size,2,none⟩=some (.int .i64 B)/\Y.cell? ⟨g,2+B,none⟩=some (.int .u64 (x:Int))) (first|(with_reducible assumption)|exact⟨c0,r2,gB⟩|exact S5) (first|(go_at_call 167;refine(HGB.out _).mono ?_;rintro e w5 ⟨rfl,hb5⟩;have S5:=HCB.out _ hb5;have S6:=HCD.out _ hb5;have HG5:=hid (HGD.out _ hb5)));go_wp2_with fail;go_region_held3 (fun Y=>Y.cell? ⟨g,0,none⟩=some (.pointer (some ⟨b,0,none⟩))/\Y.cell? ⟨w.heap.size,3,none⟩=some (.int .i64 D)/\Y.cell? ⟨g,2+D,none⟩=some (.int .u64 (z:Int))) (first|(with_reducible assumption)|exact S6|exact S8) (first|(go_at_call 167;refine(HG5.out 1).mono ?_;rintro e w7 ⟨rfl,hb7⟩;have S8:=HCD.out _ hb7;have S9:=HCA.out _ hb7;have HW7:=hid (HWR.out _ (HBX.out _ hb7))));go_wp2_with fail;refine HW7.out.mono ?_;rintro e w8 hq;obtain⟨v,rfl⟩:=HQ.out _ _ hq;have H8:=hid hq;clear hq;go_wp2_with fail;exact H8.out
end
end
namespace NumL
open Go Go.RowKit
theorem js3 (W:World) (d:Int):(convert 210 9 (.slice (some ⟨W.heap.size,0,none⟩) 1 1)).run prog (W.alloc (.cells #[.int .u8 d] 5))=.ok (.string ⟨#[UInt8.ofNat d.toNat]⟩) (W.alloc (.cells #[.int .u8 d] 5)):=by
 rw[run_convert_bytes_string _ _ _ _ _ _ _ Tryz.underlying210 Tryz.underlying5 Tryz.underlying9];have hl:=run_loadCells_list (P:=prog) (W.alloc (.cells #[.int .u8 d] 5)) ⟨W.heap.size,0,none⟩ ([d].map (Value.int .u8)) (fun j v hj=>by
  cases j with
  |zero=>
   have hj':some (Value.int .u8 d)=some v:=hj;rw[<-hj'];exact World.cell?_alloc_mark W #[.int .u8 d] 5 (0,0) 0
  |succ j=>simp at hj)
 simp only[List.map_cons,List.map_nil,List.length_cons,List.length_nil] at hl;rw[run_bytesToString _ _ 1 1 [d] hl];rfl
end NumL
