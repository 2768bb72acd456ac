/- A part of the proof of MachineMoves. Conditions: those that each theorem names. -/
import Derived.Test.YtklcmdoadmcpfaaGreatDoorQ30
set_option maxRecDepth 100000
set_option maxHeartbeats 400000000
namespace Go.Proofs.YtklcmdoadmcpfaaGreatDoor
open Go Go.RowKit
open Go.Lib(hid)
open Go.Proofs.Tryz(prog)
theorem jaK {os:List Ob} {h W i a:Nat} (e:jl os h W (jc (a:Int))=some i):jj (a:Int)=false:=by
 have h1:=(zF e).2;have h2:jc (a:Int)≠0:=by
  intro h0;rw[h0] at h1;unfold jx at h1;split at h1<;>omega
 unfold jc at h2;unfold jj;split at h2
 ·rename_i q
  first|(simp;omega)|(rw[zqq];omega)
 ·exact absurd rfl h2
def jlg:Nat⊕(List Nat×List Nat)->Int×Int×Int
 | .inl k=>if k=4 then(0,0,40) else((k:Int),0,0)
 | .inr p=>(-1,(p.1.length:Int),0)
section
variable {w:World} {b W h:Nat} {now old:List Ob} {R:Nat->Value}
theorem jsr (m:zi w b W h R now old) (z:WF W h now old) (a c:Nat) (ha:a<18446744073709551616) (hc:c<18446744073709551616) (ha:jl now h W (jc (a:Int))=none/\jj (a:Int)=false):
  Calls prog 123 #[.pointer (some ⟨b,0,none⟩),.int .u64 (a:Int),.int .u64 (c:Int)] w fun e w'=>e=.returned (.tuple #[.int .i64 0,.int .i64 0,.int .i64 40])/\∃n,w'=w.drewN n:=by
 have HTA:=hid (show Calls _ _ _ _ (fun e w'=>e=.returned (.int .i64 (jc (a:Int)))/\w'=w) from(jQ (a:Int) w (by omega) (by omega)).mono fun e w' ⟨h1,h2⟩=>⟨h1,h2.symm⟩);have hpa:jc (a:Int)<=1099511627776:=by unfold jc;split<;>omega
 have HTC:=hid (show Calls _ _ _ _ (fun e w'=>e=.returned (.int .i64 (jc (c:Int)))/\w'=w) from(jQ (c:Int) w (by omega) (by omega)).mono fun e w' ⟨h1,h2⟩=>⟨h1,h2.symm⟩);have hpc:jc (c:Int)<=1099511627776:=by unfold jc;split<;>omega
 have hia:=ha.2;have HIA:=hid (fun W1:World=>show Calls _ _ _ W1 (fun e w'=>e=.returned (.bool false)/\w'=W1) from(j5 (a:Int) W1 (by omega) (by omega)).mono fun e w' ⟨h1,h2⟩=>⟨by rw[h1,hia],h2.symm⟩);have HLA:=hid (qr m z _ (by omega) ha.1);obtain⟨A,hA⟩:∃A,jc (a:Int)=A:=⟨_,rfl⟩;rw[hA] at HTA HLA;obtain⟨C,hC⟩:∃C,jc (c:Int)=C:=⟨_,rfl⟩;rw[hC] at HTC;clear m z hA hC hpa hpc hia;clear ha;go_enter Tryz.func123,Tryz.ntmps123;go_wp2_with fail;refine(HTA.out).mono ?_;rintro e w1 ⟨rfl,hw1⟩;subst w1;go_wp2_with fail;refine(HTC.out).mono ?_;rintro e w1 ⟨rfl,hw1⟩;subst w1;go_wp2_with fail;refine HLA.out.mono ?_;rintro e w1 ⟨rfl,qa,hw1⟩;subst w1;go_wp2_with fail;refine(HIA.out _).mono ?_;rintro e w1 ⟨rfl,hw1⟩;subst w1;go_wp2_with fail;go_ret3;exact⟨rfl,_,rfl⟩
theorem jss (m:zi w b W h R now old) (z:WF W h now old) (a c:Nat) (ha:a<18446744073709551616) (hc:c<18446744073709551616) (ha:∃i,jl now h W (jc (a:Int))=some i) (hc:jl now h W (jc (c:Int))=none/\jj (c:Int)=false):
  Calls prog 123 #[.pointer (some ⟨b,0,none⟩),.int .u64 (a:Int),.int .u64 (c:Int)] w fun e w'=>e=.returned (.tuple #[.int .i64 0,.int .i64 0,.int .i64 40])/\∃n,w'=w.drewN n:=by
 have HTA:=hid (show Calls _ _ _ _ (fun e w'=>e=.returned (.int .i64 (jc (a:Int)))/\w'=w) from(jQ (a:Int) w (by omega) (by omega)).mono fun e w' ⟨h1,h2⟩=>⟨h1,h2.symm⟩);have hpa:jc (a:Int)<=1099511627776:=by unfold jc;split<;>omega
 have HTC:=hid (show Calls _ _ _ _ (fun e w'=>e=.returned (.int .i64 (jc (c:Int)))/\w'=w) from(jQ (c:Int) w (by omega) (by omega)).mono fun e w' ⟨h1,h2⟩=>⟨h1,h2.symm⟩);have hpc:jc (c:Int)<=1099511627776:=by unfold jc;split<;>omega
 have hia:jj (a:Int)=false:=by obtain⟨i,hi⟩:=ha;exact jaK hi
 have HIA:=hid (fun W1:World=>show Calls _ _ _ W1 (fun e w'=>e=.returned (.bool false)/\w'=W1) from(j5 (a:Int) W1 (by omega) (by omega)).mono fun e w' ⟨h1,h2⟩=>⟨by rw[h1,hia],h2.symm⟩);have hic:=hc.2;have HIC:=hid (fun W1:World=>show Calls _ _ _ W1 (fun e w'=>e=.returned (.bool false)/\w'=W1) from(j5 (c:Int) W1 (by omega) (by omega)).mono fun e w' ⟨h1,h2⟩=>⟨by rw[h1,hic],h2.symm⟩);obtain⟨ia,qa⟩:=ha;have HLA:=hid (qR m z _ (by omega) qa (zO qa));have HLC:=hid (fun q=>qr (m.drewN q) z _ (by omega) hc.1);obtain⟨A,hA⟩:∃A,jc (a:Int)=A:=⟨_,rfl⟩;rw[hA] at HTA HLA;obtain⟨C,hC⟩:∃C,jc (c:Int)=C:=⟨_,rfl⟩;rw[hC] at HTC HLC;obtain⟨oa,hoa⟩:∃o,jy now ia=o:=⟨_,rfl⟩;rw[hoa] at HLA;clear hoa qa;clear m z hA hC hpa hpc hia hic;clear hc;go_enter Tryz.func123,Tryz.ntmps123;go_wp2_with fail;refine(HTA.out).mono ?_;rintro e w1 ⟨rfl,hw1⟩;subst w1;go_wp2_with fail;refine(HTC.out).mono ?_;rintro e w1 ⟨rfl,hw1⟩;subst w1;go_wp2_with fail;refine HLA.out.mono ?_;rintro e w1 ⟨rfl,qa,hw1⟩;subst w1;go_wp2_with fail;refine(HLC.out qa).mono ?_;rintro e w1 ⟨rfl,qc,hw1⟩;subst w1;go_wp2_with fail;refine(HIC.out _).mono ?_;rintro e w1 ⟨rfl,hw1⟩;subst w1;go_wp2_with fail;go_ret3;exact⟨rfl,_,rfl⟩
theorem jst (m:zi w b W h R now old) (z:WF W h now old) (a c:Nat) (ha:a<18446744073709551616) (hc:c<18446744073709551616) (ha:jl now h W (jc (a:Int))=none/\jj (a:Int)=true) (hc:jl now h W (jc (c:Int))=none/\jj (c:Int)=false):
  Calls prog 123 #[.pointer (some ⟨b,0,none⟩),.int .u64 (a:Int),.int .u64 (c:Int)] w fun e w'=>e=.returned (.tuple #[.int .i64 0,.int .i64 0,.int .i64 40])/\∃n,w'=w.drewN n:=by
 have HTA:=hid (show Calls _ _ _ _ (fun e w'=>e=.returned (.int .i64 (jc (a:Int)))/\w'=w) from(jQ (a:Int) w (by omega) (by omega)).mono fun e w' ⟨h1,h2⟩=>⟨h1,h2.symm⟩);have hpa:jc (a:Int)<=1099511627776:=by unfold jc;split<;>omega
 have HTC:=hid (show Calls _ _ _ _ (fun e w'=>e=.returned (.int .i64 (jc (c:Int)))/\w'=w) from(jQ (c:Int) w (by omega) (by omega)).mono fun e w' ⟨h1,h2⟩=>⟨h1,h2.symm⟩);have hpc:jc (c:Int)<=1099511627776:=by unfold jc;split<;>omega
 have hia:=ha.2;have HIA:=hid (fun W1:World=>show Calls _ _ _ W1 (fun e w'=>e=.returned (.bool true)/\w'=W1) from(j5 (a:Int) W1 (by omega) (by omega)).mono fun e w' ⟨h1,h2⟩=>⟨by rw[h1,hia],h2.symm⟩);have hic:=hc.2;have HIC:=hid (fun W1:World=>show Calls _ _ _ W1 (fun e w'=>e=.returned (.bool false)/\w'=W1) from(j5 (c:Int) W1 (by omega) (by omega)).mono fun e w' ⟨h1,h2⟩=>⟨by rw[h1,hic],h2.symm⟩);have HLA:=hid (qr m z _ (by omega) ha.1);have HLC:=hid (fun q=>qr (m.drewN q) z _ (by omega) hc.1);obtain⟨A,hA⟩:∃A,jc (a:Int)=A:=⟨_,rfl⟩;rw[hA] at HTA HLA;obtain⟨C,hC⟩:∃C,jc (c:Int)=C:=⟨_,rfl⟩;rw[hC] at HTC HLC;clear m z hA hC hpa hpc hia hic;clear ha;clear hc;go_enter Tryz.func123,Tryz.ntmps123;go_wp2_with fail;refine(HTA.out).mono ?_;rintro e w1 ⟨rfl,hw1⟩;subst w1;go_wp2_with fail;refine(HTC.out).mono ?_;rintro e w1 ⟨rfl,hw1⟩;subst w1;go_wp2_with fail;refine HLA.out.mono ?_;rintro e w1 ⟨rfl,qa,hw1⟩;subst w1;go_wp2_with fail;refine(HIA.out _).mono ?_;rintro e w1 ⟨rfl,hw1⟩;subst w1;go_wp2_with fail;refine(HLC.out qa).mono ?_;rintro e w1 ⟨rfl,qc,hw1⟩;subst w1;go_wp2_with fail;refine(HIC.out _).mono ?_;rintro e w1 ⟨rfl,hw1⟩;subst w1;go_wp2_with fail;go_ret3;exact⟨rfl,_,rfl⟩
theorem jso (m:zi w b W h R now old) (z:WF W h now old) (a c:Nat) (ha:a<18446744073709551616) (hc:c<18446744073709551616) (ha:∃i,jl now h W (jc (a:Int))=some i) (hc:jl now h W (jc (c:Int))=none/\jj (c:Int)=true):
  Calls prog 123 #[.pointer (some ⟨b,0,none⟩),.int .u64 (a:Int),.int .u64 (c:Int)] w fun e w'=>e=.returned (.tuple #[.int .i64 (if a=c then 1 else 0),.int .i64 0,.int .i64 0])/\∃n,w'=w.drewN n:=by
 have HTA:=hid (show Calls _ _ _ _ (fun e w'=>e=.returned (.int .i64 (jc (a:Int)))/\w'=w) from(jQ (a:Int) w (by omega) (by omega)).mono fun e w' ⟨h1,h2⟩=>⟨h1,h2.symm⟩);have hpa:jc (a:Int)<=1099511627776:=by unfold jc;split<;>omega
 have HTC:=hid (show Calls _ _ _ _ (fun e w'=>e=.returned (.int .i64 (jc (c:Int)))/\w'=w) from(jQ (c:Int) w (by omega) (by omega)).mono fun e w' ⟨h1,h2⟩=>⟨h1,h2.symm⟩);have hpc:jc (c:Int)<=1099511627776:=by unfold jc;split<;>omega
 have hia:jj (a:Int)=false:=by obtain⟨i,hi⟩:=ha;exact jaK hi
 have HIA:=hid (fun W1:World=>show Calls _ _ _ W1 (fun e w'=>e=.returned (.bool false)/\w'=W1) from(j5 (a:Int) W1 (by omega) (by omega)).mono fun e w' ⟨h1,h2⟩=>⟨by rw[h1,hia],h2.symm⟩);have hic:=hc.2;have HIC:=hid (fun W1:World=>show Calls _ _ _ W1 (fun e w'=>e=.returned (.bool true)/\w'=W1) from(j5 (c:Int) W1 (by omega) (by omega)).mono fun e w' ⟨h1,h2⟩=>⟨by rw[h1,hic],h2.symm⟩);obtain⟨ia,qa⟩:=ha;have HLA:=hid (qR m z _ (by omega) qa (zO qa));have HLC:=hid (fun q=>qr (m.drewN q) z _ (by omega) hc.1);obtain⟨A,hA⟩:∃A,jc (a:Int)=A:=⟨_,rfl⟩;rw[hA] at HTA HLA;obtain⟨C,hC⟩:∃C,jc (c:Int)=C:=⟨_,rfl⟩;rw[hC] at HTC HLC;obtain⟨oa,hoa⟩:∃o,jy now ia=o:=⟨_,rfl⟩;rw[hoa] at HLA;clear hoa qa;clear m z hA hC hpa hpc hia hic;clear hc;by_cases hac:a=c
 ·have hac2:((a:Int)==(c:Int))=true:=by simp;omega
  have HE:=hid hac;clear hac;go_enter Tryz.func123,Tryz.ntmps123;go_wp2_with fail;refine(HTA.out).mono ?_;rintro e w1 ⟨rfl,hw1⟩;subst w1;go_wp2_with fail;refine(HTC.out).mono ?_;rintro e w1 ⟨rfl,hw1⟩;subst w1;go_wp2_with fail;refine HLA.out.mono ?_;rintro e w1 ⟨rfl,qa,hw1⟩;subst w1;go_wp2_with fail;refine(HLC.out qa).mono ?_;rintro e w1 ⟨rfl,qc,hw1⟩;subst w1;go_wp2_with fail;refine(HIC.out _).mono ?_;rintro e w1 ⟨rfl,hw1⟩;subst w1;go_wp2_with fail;refine(HIA.out _).mono ?_;rintro e w1 ⟨rfl,hw1⟩;subst w1;go_wp2_with fail;refine(HIC.out _).mono ?_;rintro e w1 ⟨rfl,hw1⟩;subst w1;go_wp2_with fail;refine(JE true _).mono ?_;rintro e w1 ⟨rfl,hw1⟩;subst w1;go_wp2_with fail;go_ret3;exact⟨by first|rfl|(rw[if_pos HE.out];rfl),_,rfl⟩
 ·have hac2:((a:Int)==(c:Int))=false:=by simp;omega
  have HE:=hid hac;clear hac;go_enter Tryz.func123,Tryz.ntmps123;go_wp2_with fail;refine(HTA.out).mono ?_;rintro e w1 ⟨rfl,hw1⟩;subst w1;go_wp2_with fail;refine(HTC.out).mono ?_;rintro e w1 ⟨rfl,hw1⟩;subst w1;go_wp2_with fail;refine HLA.out.mono ?_;rintro e w1 ⟨rfl,qa,hw1⟩;subst w1;go_wp2_with fail;refine(HLC.out qa).mono ?_;rintro e w1 ⟨rfl,qc,hw1⟩;subst w1;go_wp2_with fail;refine(HIC.out _).mono ?_;rintro e w1 ⟨rfl,hw1⟩;subst w1;go_wp2_with fail;refine(HIA.out _).mono ?_;rintro e w1 ⟨rfl,hw1⟩;subst w1;go_wp2_with fail;refine(HIC.out _).mono ?_;rintro e w1 ⟨rfl,hw1⟩;subst w1;go_wp2_with fail;refine(JE false _).mono ?_;rintro e w1 ⟨rfl,hw1⟩;subst w1;go_wp2_with fail;go_ret3;exact⟨by first|rfl|(rw[if_neg HE.out];rfl),_,rfl⟩
theorem jsp (m:zi w b W h R now old) (z:WF W h now old) (a c:Nat) (ha:a<18446744073709551616) (hc:c<18446744073709551616) (ha:jl now h W (jc (a:Int))=none/\jj (a:Int)=true) (hc:∃i,jl now h W (jc (c:Int))=some i):
  Calls prog 123 #[.pointer (some ⟨b,0,none⟩),.int .u64 (a:Int),.int .u64 (c:Int)] w fun e w'=>e=.returned (.tuple #[.int .i64 (if a=c then 1 else 0),.int .i64 0,.int .i64 0])/\∃n,w'=w.drewN n:=by
 have HTA:=hid (show Calls _ _ _ _ (fun e w'=>e=.returned (.int .i64 (jc (a:Int)))/\w'=w) from(jQ (a:Int) w (by omega) (by omega)).mono fun e w' ⟨h1,h2⟩=>⟨h1,h2.symm⟩);have hpa:jc (a:Int)<=1099511627776:=by unfold jc;split<;>omega
 have HTC:=hid (show Calls _ _ _ _ (fun e w'=>e=.returned (.int .i64 (jc (c:Int)))/\w'=w) from(jQ (c:Int) w (by omega) (by omega)).mono fun e w' ⟨h1,h2⟩=>⟨h1,h2.symm⟩);have hpc:jc (c:Int)<=1099511627776:=by unfold jc;split<;>omega
 have hia:=ha.2;have HIA:=hid (fun W1:World=>show Calls _ _ _ W1 (fun e w'=>e=.returned (.bool true)/\w'=W1) from(j5 (a:Int) W1 (by omega) (by omega)).mono fun e w' ⟨h1,h2⟩=>⟨by rw[h1,hia],h2.symm⟩);have hic:jj (c:Int)=false:=by obtain⟨i,hi⟩:=hc;exact jaK hi
 have HIC:=hid (fun W1:World=>show Calls _ _ _ W1 (fun e w'=>e=.returned (.bool false)/\w'=W1) from(j5 (c:Int) W1 (by omega) (by omega)).mono fun e w' ⟨h1,h2⟩=>⟨by rw[h1,hic],h2.symm⟩);have HLA:=hid (qr m z _ (by omega) ha.1);obtain⟨ic,qc⟩:=hc;have HLC:=hid (fun q=>qR (m.drewN q) z _ (by omega) qc (zO qc));obtain⟨A,hA⟩:∃A,jc (a:Int)=A:=⟨_,rfl⟩;rw[hA] at HTA HLA;obtain⟨C,hC⟩:∃C,jc (c:Int)=C:=⟨_,rfl⟩;rw[hC] at HTC HLC;obtain⟨oc,hoc⟩:∃o,jy now ic=o:=⟨_,rfl⟩;rw[hoc] at HLC;clear hoc qc;clear m z hA hC hpa hpc hia hic;clear ha;by_cases hac:a=c
 ·have hac2:((a:Int)==(c:Int))=true:=by simp;omega
  have HE:=hid hac;clear hac;go_enter Tryz.func123,Tryz.ntmps123;go_wp2_with fail;refine(HTA.out).mono ?_;rintro e w1 ⟨rfl,hw1⟩;subst w1;go_wp2_with fail;refine(HTC.out).mono ?_;rintro e w1 ⟨rfl,hw1⟩;subst w1;go_wp2_with fail;refine HLA.out.mono ?_;rintro e w1 ⟨rfl,qa,hw1⟩;subst w1;go_wp2_with fail;refine(HIA.out _).mono ?_;rintro e w1 ⟨rfl,hw1⟩;subst w1;go_wp2_with fail;refine(HLC.out qa).mono ?_;rintro e w1 ⟨rfl,qc,hw1⟩;subst w1;go_wp2_with fail;refine(HIA.out _).mono ?_;rintro e w1 ⟨rfl,hw1⟩;subst w1;go_wp2_with fail;refine(JE true _).mono ?_;rintro e w1 ⟨rfl,hw1⟩;subst w1;go_wp2_with fail;go_ret3;exact⟨by first|rfl|(rw[if_pos HE.out];rfl),_,rfl⟩
 ·have hac2:((a:Int)==(c:Int))=false:=by simp;omega
  have HE:=hid hac;clear hac;go_enter Tryz.func123,Tryz.ntmps123;go_wp2_with fail;refine(HTA.out).mono ?_;rintro e w1 ⟨rfl,hw1⟩;subst w1;go_wp2_with fail;refine(HTC.out).mono ?_;rintro e w1 ⟨rfl,hw1⟩;subst w1;go_wp2_with fail;refine HLA.out.mono ?_;rintro e w1 ⟨rfl,qa,hw1⟩;subst w1;go_wp2_with fail;refine(HIA.out _).mono ?_;rintro e w1 ⟨rfl,hw1⟩;subst w1;go_wp2_with fail;refine(HLC.out qa).mono ?_;rintro e w1 ⟨rfl,qc,hw1⟩;subst w1;go_wp2_with fail;refine(HIA.out _).mono ?_;rintro e w1 ⟨rfl,hw1⟩;subst w1;go_wp2_with fail;refine(JE false _).mono ?_;rintro e w1 ⟨rfl,hw1⟩;subst w1;go_wp2_with fail;go_ret3;exact⟨by first|rfl|(rw[if_neg HE.out];rfl),_,rfl⟩
theorem jsq (m:zi w b W h R now old) (z:WF W h now old) (a c:Nat) (ha:a<18446744073709551616) (hc:c<18446744073709551616) (ha:jl now h W (jc (a:Int))=none/\jj (a:Int)=true) (hc:jl now h W (jc (c:Int))=none/\jj (c:Int)=true):
  Calls prog 123 #[.pointer (some ⟨b,0,none⟩),.int .u64 (a:Int),.int .u64 (c:Int)] w fun e w'=>e=.returned (.tuple #[.int .i64 (if a=c then 1 else 0),.int .i64 0,.int .i64 0])/\∃n,w'=w.drewN n:=by
 have HTA:=hid (show Calls _ _ _ _ (fun e w'=>e=.returned (.int .i64 (jc (a:Int)))/\w'=w) from(jQ (a:Int) w (by omega) (by omega)).mono fun e w' ⟨h1,h2⟩=>⟨h1,h2.symm⟩);have hpa:jc (a:Int)<=1099511627776:=by unfold jc;split<;>omega
 have HTC:=hid (show Calls _ _ _ _ (fun e w'=>e=.returned (.int .i64 (jc (c:Int)))/\w'=w) from(jQ (c:Int) w (by omega) (by omega)).mono fun e w' ⟨h1,h2⟩=>⟨h1,h2.symm⟩);have hpc:jc (c:Int)<=1099511627776:=by unfold jc;split<;>omega
 have hia:=ha.2;have HIA:=hid (fun W1:World=>show Calls _ _ _ W1 (fun e w'=>e=.returned (.bool true)/\w'=W1) from(j5 (a:Int) W1 (by omega) (by omega)).mono fun e w' ⟨h1,h2⟩=>⟨by rw[h1,hia],h2.symm⟩);have hic:=hc.2;have HIC:=hid (fun W1:World=>show Calls _ _ _ W1 (fun e w'=>e=.returned (.bool true)/\w'=W1) from(j5 (c:Int) W1 (by omega) (by omega)).mono fun e w' ⟨h1,h2⟩=>⟨by rw[h1,hic],h2.symm⟩);have HLA:=hid (qr m z _ (by omega) ha.1);have HLC:=hid (fun q=>qr (m.drewN q) z _ (by omega) hc.1);obtain⟨A,hA⟩:∃A,jc (a:Int)=A:=⟨_,rfl⟩;rw[hA] at HTA HLA;obtain⟨C,hC⟩:∃C,jc (c:Int)=C:=⟨_,rfl⟩;rw[hC] at HTC HLC;clear m z hA hC hpa hpc hia hic;clear ha;clear hc;by_cases hac:a=c
 ·have hac2:((a:Int)==(c:Int))=true:=by simp;omega
  have HE:=hid hac;clear hac;go_enter Tryz.func123,Tryz.ntmps123;go_wp2_with fail;refine(HTA.out).mono ?_;rintro e w1 ⟨rfl,hw1⟩;subst w1;go_wp2_with fail;refine(HTC.out).mono ?_;rintro e w1 ⟨rfl,hw1⟩;subst w1;go_wp2_with fail;refine HLA.out.mono ?_;rintro e w1 ⟨rfl,qa,hw1⟩;subst w1;go_wp2_with fail;refine(HIA.out _).mono ?_;rintro e w1 ⟨rfl,hw1⟩;subst w1;go_wp2_with fail;refine(HLC.out qa).mono ?_;rintro e w1 ⟨rfl,qc,hw1⟩;subst w1;go_wp2_with fail;refine(HIC.out _).mono ?_;rintro e w1 ⟨rfl,hw1⟩;subst w1;go_wp2_with fail;refine(HIA.out _).mono ?_;rintro e w1 ⟨rfl,hw1⟩;subst w1;go_wp2_with fail;refine(JE true _).mono ?_;rintro e w1 ⟨rfl,hw1⟩;subst w1;go_wp2_with fail;go_ret3;exact⟨by first|rfl|(rw[if_pos HE.out];rfl),_,rfl⟩
 ·have hac2:((a:Int)==(c:Int))=false:=by simp;omega
  have HE:=hid hac;clear hac;go_enter Tryz.func123,Tryz.ntmps123;go_wp2_with fail;refine(HTA.out).mono ?_;rintro e w1 ⟨rfl,hw1⟩;subst w1;go_wp2_with fail;refine(HTC.out).mono ?_;rintro e w1 ⟨rfl,hw1⟩;subst w1;go_wp2_with fail;refine HLA.out.mono ?_;rintro e w1 ⟨rfl,qa,hw1⟩;subst w1;go_wp2_with fail;refine(HIA.out _).mono ?_;rintro e w1 ⟨rfl,hw1⟩;subst w1;go_wp2_with fail;refine(HLC.out qa).mono ?_;rintro e w1 ⟨rfl,qc,hw1⟩;subst w1;go_wp2_with fail;refine(HIC.out _).mono ?_;rintro e w1 ⟨rfl,hw1⟩;subst w1;go_wp2_with fail;refine(HIA.out _).mono ?_;rintro e w1 ⟨rfl,hw1⟩;subst w1;go_wp2_with fail;refine(JE false _).mono ?_;rintro e w1 ⟨rfl,hw1⟩;subst w1;go_wp2_with fail;go_ret3;exact⟨by first|rfl|(rw[if_neg HE.out];rfl),_,rfl⟩
theorem jp0 (m:zi w b W h R now old) (z:WF W h now old) (a c:Nat) (ha:a<18446744073709551616) (hc:c<18446744073709551616):
  Calls prog 123 #[.pointer (some ⟨b,0,none⟩),.int .u64 (a:Int),.int .u64 (c:Int)] w fun e w'=>e=.returned (.tuple #[.int .i64 (jlg (zW now h W a c)).1,.int .i64 (jlg (zW now h W a c)).2.1,.int .i64 (jlg (zW now h W a c)).2.2])/\∃n,w'=w.drewN n:=by
 have hb:∀x:Bool,x=true\/x=false:=fun x=>by cases x<;>simp
 unfold zW;cases ea:jl now h W (jc (a:Int)) with
 |none=>
  rcases hb (jj (a:Int)) with ia|ia
  ·cases ec:jl now h W (jc (c:Int)) with
   |none=>
    rcases hb (jj (c:Int)) with ic|ic
    ·refine(jsq m z a c ha hc ⟨ea,ia⟩ ⟨ec,ic⟩).mono fun e w' ⟨h1,h2⟩=>⟨?_,h2⟩
     simp only;rw[if_neg (by rw[ia,ic];simp),h1];by_cases hac:a=c
     ·rw[if_pos hac,if_pos hac];rfl
     ·rw[if_neg hac,if_neg hac];rfl
    ·refine(jst m z a c ha hc ⟨ea,ia⟩ ⟨ec,ic⟩).mono fun e w' ⟨h1,h2⟩=>⟨?_,h2⟩
     simp only;rw[if_pos (.inr ic),h1];rfl
   |some j=>
    refine(jsp m z a c ha hc ⟨ea,ia⟩ ⟨j,ec⟩).mono fun e w' ⟨h1,h2⟩=>⟨?_,h2⟩;simp only;rw[if_neg (by rw[ia];simp),h1];by_cases hac:a=c
    ·rw[if_pos hac,if_pos hac];rfl
    ·rw[if_neg hac,if_neg hac];rfl
  ·refine(jsr m z a c ha hc ⟨ea,ia⟩).mono fun e w' ⟨h1,h2⟩=>⟨?_,h2⟩
   cases ec:jl now h W (jc (c:Int)) with
   |none=>simp only;rw[if_pos (.inl ia),h1];rfl
   |some j=>simp only;rw[if_pos ia,h1];rfl
 |some i=>
  cases ec:jl now h W (jc (c:Int)) with
  |none=>
   rcases hb (jj (c:Int)) with ic|ic
   ·refine(jso m z a c ha hc ⟨i,ea⟩ ⟨ec,ic⟩).mono fun e w' ⟨h1,h2⟩=>⟨?_,h2⟩
    simp only;rw[if_neg (by rw[ic];simp),h1];by_cases hac:a=c
    ·rw[if_pos hac,if_pos hac];rfl
    ·rw[if_neg hac,if_neg hac];rfl
   ·refine(jss m z a c ha hc ⟨i,ea⟩ ⟨ec,ic⟩).mono fun e w' ⟨h1,h2⟩=>⟨?_,h2⟩
    simp only;rw[if_pos ic,h1];rfl
  |some j=>
   refine(jp2 m z a c ha hc (jaK ea) (jaK ec) ea (zO ea) ec (zO ec)).mono fun e w' ⟨h1,h2⟩=>⟨?_,h2⟩;have hadr:jc (a:Int)=jc (c:Int)↔i=j:=by
    constructor
    ·intro q;rw[q,ec] at ea;exact(zqd ea).symm
    ·intro q;subst q;rw[(zF ea).2,(zF ec).2]
   rw[h1];simp only;unfold jeQ;by_cases q1:Qt (jy now i).k=true\/Qt (jy now j).k=true
   ·rw[if_pos q1,if_pos q1];rfl
   rw[if_neg q1,if_neg q1];by_cases q2:(jy now i).k≠(jy now j).k
   ·rw[if_pos q2,if_pos q2];rfl
   rw[if_neg q2,if_neg q2];by_cases q3:(jy now i).k=2
   ·rw[if_pos q3,if_pos q3]
    by_cases q4:i=j
    ·rw[if_pos q4,if_pos (hadr.2 q4)];rfl
    ·rw[if_neg q4,if_neg (fun q=>q4 (hadr.1 q))];rfl
   rw[if_neg q3,if_neg q3];by_cases q5:(jy now i).ws.length≠(jy now j).ws.length
   ·rw[if_pos q5,if_pos q5];rfl
   rw[if_neg q5,if_neg q5];by_cases q6:(jy now i).k=4
   ·rw[if_pos q6,if_pos q6]
    by_cases q7:(jy now i).ws=(jy now j).ws
    ·rw[if_pos q7,if_pos q7];rfl
    ·rw[if_neg q7,if_neg q7];rfl
   rw[if_neg q6,if_neg q6];rfl
end
theorem jmC (w:World) (vs:List Value) (t:TypeId):∀j u,vs[j]?=some u->(w.alloc (.cells vs.toArray t)).cell? ((⟨w.heap.size,0,none⟩:Addr).add j)=some u:=by
 intro j u hu;have hadd:(⟨w.heap.size,0,none⟩:Addr).add j=⟨w.heap.size,j,none⟩:=by unfold Addr.add;split<;>simp_all
 rw[hadd,cell_of_row _ _ j _ t (0,0) (World.alloc_heap_new w _)];simpa using hu
