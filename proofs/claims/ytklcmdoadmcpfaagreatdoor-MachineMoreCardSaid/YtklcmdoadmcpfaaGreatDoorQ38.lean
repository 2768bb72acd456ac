/- A part of the proof of MachineMoves. Conditions: those that each theorem names. -/
import Derived.Test.YtklcmdoadmcpfaaGreatDoorQ37
import Derived.Great.Walk
import Derived.Deep.CutBlock
set_option maxRecDepth 100000
set_option maxHeartbeats 400000000
namespace Go.Proofs.YtklcmdoadmcpfaaGreatDoor
open Go Go.RowKit IsaL
open Go.Lib(hid)
open Go.Proofs.Tryz(prog)
def jcW (F:Nat->Value):Nat->List Value->Nat->Value
 |_,[]=>F
 |o,v::r=>jcW (zt F o v) (o+1) r
theorem jd5:∀(vs:List Value) (F:Nat->Value) (o j:Nat),(j<o\/o+vs.length<=j)->jcW F o vs j=F j
 |[],_,_,_,_=>rfl
 |v::r,F,o,j,h=>by
  show jcW (zt F o v) (o+1) r j=_;simp only[List.length_cons] at h;rw[jd5 r _ _ _ (by omega),J1 (by omega)]
theorem jjM:∀(vs:List Value) (F:Nat->Value) (o i:Nat) (v:Value),vs[i]?=some v->jcW F o vs (o+i)=v
 |[],_,_,_,_,h=>by cases h
 |u::r,F,o,0,v,h=>by
  obtain rfl:u=v:=by simpa using h
  show jcW (zt F o u) (o+1) r (o+0)=_;rw[jd5 r _ _ _ (by omega)];exact jqf F o u
 |u::r,F,o,i+1,v,h=>by
  have:=jjM r (zt F o u) (o+1) i v (by simpa using h);show jcW (zt F o u) (o+1) r (o+(i+1))=_;rw[show o+(i+1)=o+1+i by omega];exact this
theorem jc3 {n g:Nat} {T:TypeId}:∀(vs:List Value) {F:Nat->Value} {w:World} (o:Nat),w.heap[g]?=some (.cells (zX n F) T (0,0))->(w.setCells g o vs).heap[g]?=some (.cells (zX n (jcW F o vs)) T (0,0))
 |[],_,_,_,h=>h
 |v::r,_,_,o,h=>jc3 r (o+1) (JS h o v)
theorem jbq {w0:World} {g:Nat} {O:Nat->Prop} (hO:O g):∀(vs:List Value) {w:World} (o:Nat),Fr O w0 w->Fr O w0 (w.setCells g o vs)
 |[],_,_,h=>h
 |v::r,_,o,h=>jbq hO r (o+1) (h.setCell (p:=⟨g,o,none⟩) (.inl hO) v)
def z48:List Value:=zC (List.replicate 16 (.I 0))
def Lay.idle (L:Lay):Lay:={L with fv:=.slice none 0 0,hv:=.slice none 0 0}
section
variable {O P:Nat->Prop} {w w1:World} {g:Nat} {M:RM} {L:Lay}
theorem RAt.regs0 (a:RAt O w g M L):RAt O (w.setCells g 4 z48) g {M with rg:=fun _=>.I 0} L:=by
 refine a.put (jbq (O:=fun i=>i=g) rfl z48 4 (Fr.refl _ w)) ?_ rfl rfl rfl rfl rfl;rw[jc3 z48 4 a.bx];have e:jcW (rF M L) 4 z48=rF {M with rg:=fun _=>.I 0} L:=by
  funext j;have hl:z48.length=48:=by unfold z48;rw[joY,List.length_replicate]
  by_cases h:4<=j/\j<52
  ·obtain⟨i,rfl⟩:∃i,j=4+i:=⟨j-4,by omega⟩
   have hg:z48[i]?=some (wc (.I 0) (i%3)):=by
    have e2:i=i/3*3+i%3:=by omega
    rw[e2];unfold z48;rw[qJ (v:=.I 0) (by rw[List.getElem?_replicate,if_pos (by omega)]) (Nat.mod_lt _ (by decide))];congr 2;omega
   rw[jjM z48 _ 4 i _ hg];unfold rF;rw[if_neg (by omega),if_neg (by omega),if_neg (by omega),if_neg (by omega),if_pos (by omega),Nat.add_sub_cancel_left]
  ·rw[jd5 z48 _ _ _ (by omega)]
   unfold rF;by_cases h4:j<4
   ·by_cases c0:j=0
    ·rw[if_pos c0,if_pos c0]
    by_cases c1:j=1
    ·rw[if_neg c0,if_neg c0,if_pos c1,if_pos c1]
    by_cases c2:j=2
    ·rw[if_neg c0,if_neg c0,if_neg c1,if_neg c1,if_pos c2,if_pos c2]
    ·rw[if_neg c0,if_neg c0,if_neg c1,if_neg c1,if_neg c2,if_neg c2,if_pos (by omega),if_pos (by omega)]
   ·rw[if_neg (c:=j=0) (by omega),if_neg (c:=j=0) (by omega),if_neg (c:=j=1) (by omega),if_neg (c:=j=1) (by omega),if_neg (c:=j=2) (by omega),if_neg (c:=j=2) (by omega),if_neg (c:=j=3) (by omega),if_neg (c:=j=3) (by omega),if_neg (c:=j<52) (by omega),if_neg (c:=j<52) (by omega)]
 rw[e]
theorem jm9:(prog.info? 74).map (·.size)=some 48:=by kernel_rfl
theorem jrP:prog.built 74 []=some z48.toArray:=by kernel_rfl
theorem RAt.frs0 (a:RAt O w g M L):RAt O (w.setCell ⟨g,52,none⟩ (.slice none 0 0)) g {M with frs:=[]} {L with fv:=.slice none 0 0}:=
 a.setF (.slice none 0 0) [] L.sv ⟨rfl,.inl ⟨rfl,rfl⟩⟩ (fun q e=>by cases e) (fun j x h=>by cases h) (fun j x h=>by cases h)
theorem RAt.has0 (a:RAt O w g M L):RAt O (w.setCell ⟨g,53,none⟩ (.slice none 0 0)) g {M with has:=[]} {L with hv:=.slice none 0 0}:=
 a.setH (.slice none 0 0) [] ⟨rfl,.inl ⟨rfl,rfl⟩⟩ (fun q e=>by cases e)
theorem jom (a:RAt O w g M L):Calls prog 45 #[.pointer (some ⟨g,0,none⟩)] w fun e w'=>(∃v,e=.returned v)/\RAt O w' g {qX M with value:=.I 0} L.idle/\Fr (fun i=>i=g) w w':=by
 have c52:=a.cell (j:=52) (by decide);have z52:=a.fz 52;have a1:=a.frs0;have f1:Fr (fun i=>i=g) w (w.setCell ⟨g,52,none⟩ (.slice none 0 0)):=(Fr.refl (fun i=>i=g) w).setCell (p:=⟨g,52,none⟩) (.inl rfl) _;obtain⟨X1,hX1⟩:∃X1,w.setCell ⟨g,52,none⟩ (.slice none 0 0)=X1:=⟨_,rfl⟩;rw[hX1] at a1 f1;have c53:=a1.cell (j:=53) (by decide);have z53:=a1.fz 53;have a2:=a1.has0;have f2:Fr (fun i=>i=g) w (X1.setCell ⟨g,53,none⟩ (.slice none 0 0)):=f1.setCell (p:=⟨g,53,none⟩) (.inl rfl) _;obtain⟨X2,hX2⟩:∃X2,X1.setCell ⟨g,53,none⟩ (.slice none 0 0)=X2:=⟨_,rfl⟩;rw[hX2] at a2 f2;have t4:X2.there g 4 48:=fun j hj=>⟨by rw[a2.cell (j:=4+j) (by omega)];rfl,a2.fz _⟩;have a3:=a2.regs0;have f3:=jbq (g:=g) (O:=fun i=>i=g) rfl z48 4 f2;obtain⟨X3,hX3⟩:∃X3,X2.setCells g 4 z48=X3:=⟨_,rfl⟩;rw[hX3] at a3 f3;have HX1:=hid hX1;have HX2:=hid hX2;have HX3:=hid hX3;have h1:(z48.toArray).all (·.oneCell')=true:=all_oneCell_toArray (juY _);have HF:=hid (zqf a3 f3);have c58:=a3.cell (j:=58) (by decide);have c59:=a3.cell (j:=59) (by decide);have c60:=a3.cell (j:=60) (by decide);have z58:=a3.fz 58;have z59:=a3.fz 59;have z60:=a3.fz 60;have HT:=hid (show X2.there g 4 z48.toArray.size/\(z48.toArray).all (·.oneCell')=true from⟨by rw[show z48.toArray.size=48 from rfl];exact t4,h1⟩);have HI:=hid (show(prog.info? 74).map (·.size)=some z48.toArray.size from jm9);have HBU:=hid jrP;clear hX1 hX2 hX3 h1 t4 a1 a2 a3 f1 f2 f3 a;go_enter Tryz.func45,Tryz.ntmps45;go_upto_region 1 with fail;rw[HX1.out];go_upto_region 2 with fail;rw[HX2.out];refine wp_region_lit ?_;refine Go.Great.wpList_readTo rfl (some 8) rfl (.pointer (some ⟨g,0,none⟩)) (by go_simp) ?_;refine wpList_buildTo rfl 74 #[] rfl (some 9) rfl z48.toArray (by rw[Array.map_empty];exact HBU.out) ?_;refine Go.Great.wpList_readTo rfl (some 10) rfl (.pointer (some ⟨g,0,none⟩)) (by go_simp) ?_;refine Go.Great.wpList_readTo rfl (some 11) rfl (.pointer (some ⟨g,4,none⟩)) (by go_simp) ?_;refine wpList_store_mid rfl 74 _ _ rfl g 4 z48.toArray rfl rfl HT.out.1 HI.out HT.out.2 ?_;refine wpList_nil ?_;rw[show z48.toArray.toList=z48 from List.toList_toArray,HX3.out];simp only[Act.put,zqj,zqk,zql];obtain⟨ZV,hZV⟩:∃ZV,z48.toArray=ZV:=⟨_,rfl⟩;rw[hZV];clear hZV;go_wp2_with fail;refine bodyPost_end (results_none rfl _ _ _) rfl ?_;have hv:=HF.out.1.value (.I 0);refine⟨⟨_,rfl⟩,?_,?_⟩
 ·exact hv
 ·exact HF.out.2.trans (zZ X3 g 58 (.I 0)) (fun i hi=>.inl hi)
end
section
variable {O:Nat->Prop} {w:World} {g b:Nat} {M:RM} {C:CM} {R:Nat->Value} {vf vs vh v:Value} {D:Nat->Prop} {f A:Nat->Nat} {E:List Nat} {l:List jn}
def zo (M:RM) (l:List jn):RM:={M with objs:=M.objs++j9 M.objs.length M.gl l,used:=M.used+jg l,entry:=.P M.objs.length}
theorem jap (h:zu l=0):1<=l.length/\l.length<=4096/\zv l.length l=0:=by
 unfold zu at h;split at h
 ·cases h
 ·split at h
  ·cases h
  ·exact⟨by omega,by omega,h⟩
theorem jnr (a:McAt O w g C b R vf vs vh) (s:Sim M C D f A) (hO:∀i,w.heap.size<=i->O i) (hops:∀Y,Fr O w Y->ZM Y) (hc:CodesAt O w v l) (hE:zu l=0) (hr:used C.now+jg l<=C.W):
  Calls prog 43 #[.pointer (some ⟨g,0,none⟩),v] w fun e w'=>(∃v,e=.returned v)/\(∃C' R' D' f' A',McAt O w' g C' b R' vf vs vh/\Sim (zo M l) C' D' f' A')/\Fr O w w':=by
 obtain⟨h1,h2,h3⟩:=jap hE;have hu:=joT (C:=C) M.objs.length M.gl l;have hf:used (Z3 C (j9 M.objs.length M.gl l))<=C.W:=by rw[hu];exact hr
 have cp:=jtN s h3 hf;refine(jt8 a hO hc h1 h2 cp rfl hf hops).mono ?_;rintro e w' ⟨he,⟨R',a'⟩,hfr⟩;refine⟨he,?_,hfr⟩;have hz:WF C.W C.h (jaR M C f (j9 M.objs.length M.gl l)) C.old:=a'.z;have hgl:∀k,k<1024->Wr (M.gl k)/\∀j,M.gl k=.P j->D j:=fun k hk=>by
  have hr:M.gl k∈jr M:=ja.2 (.inr (.inr (.inl ⟨k,hk,rfl⟩)));exact⟨s.wr _ hr,fun j e=>s.rt j (e▸hr)⟩
 have s2:=s.more (j9 M.objs.length M.gl l) (jgo h3 hgl) hz;have hA:=jfe M C f (j9 M.objs.length M.gl l) 0;rw[Nat.add_zero,Nat.add_zero] at hA;have hlen:=jcX M.objs.length M.gl l;have hroot:∀v,v∈jr (zo M l)->v∈jr {M with objs:=M.objs++j9 M.objs.length M.gl l}\/v=.P M.objs.length:=fun v hv=>by
  rcases ja.1 hv with q|q|q|q|q
  ·exact .inl (ja.2 (.inl q))
  ·exact .inl (ja.2 (.inr (.inl q)))
  ·exact .inl (ja.2 (.inr (.inr (.inl q))))
  ·exact .inr q
  ·exact .inl (ja.2 (.inr (.inr (.inr (.inr q)))))
 refine⟨_,R',fun i=>D i\/(M.objs.length<=i/\i<M.objs.length+(j9 M.objs.length M.gl l).length),fN M C f,QT M C f (j9 M.objs.length M.gl l),a',?_⟩;exact{s2 with
  cd:=hA.symm
  rt:=fun k hk=>by
   rcases hroot _ hk with q|q
   ·exact s2.rt k q
   ·cases q
    exact .inr ⟨zqg _,by omega⟩
  wr:=fun v hv=>by
   rcases hroot _ hv with q|q
   ·exact s2.wr v q
   ·rw[q];trivial}
theorem Usd.loaded (u:Usd M E) (hw:∀k,k<1024->Wr (M.gl k)) (hE:zu l=0):Usd (zo M l) (E++(List.range (j9 M.objs.length M.gl l).length).map (fun j=>M.objs.length+j)):=by
 obtain⟨h1,h2,h3⟩:=jap hE;have hgl:∀k,k<1024->Wr (M.gl k)/\∀j,M.gl k=.P j->j∈E:=fun k hk=>by
  have hr:M.gl k∈jr M:=ja.2 (.inr (.inr (.inl ⟨k,hk,rfl⟩)));exact⟨hw k hk,fun j e=>u.co.rt j (e▸hr)⟩
 have hlen:=jcX M.objs.length M.gl l;have u2:=u.more (j9 M.objs.length M.gl l) (jg l) (by rw[jcY];omega) (fun o ho v hv k e=>(((jgo h3 (P:=(·∈E)) hgl) o ho).2 v hv).2 k e);refine⟨u2.nd,u2.lt,⟨fun k hk=>?_,u2.co.cl⟩,u2.us⟩;rcases ja.1 hk with q|q|q|q|q
 ·exact u2.co.rt k (ja.2 (.inl q))
 ·exact u2.co.rt k (ja.2 (.inr (.inl q)))
 ·exact u2.co.rt k (ja.2 (.inr (.inr (.inl q))))
 ·cases q
  exact List.mem_append.2 (.inr (List.mem_map.2 ⟨0,List.mem_range.2 (by omega),Nat.add_zero _⟩))
 ·exact u2.co.rt k (ja.2 (.inr (.inr (.inr (.inr q)))))
end
section
variable {O:Nat->Prop} {w X:World} {g b:Nat} {C:CM} {R:Nat->Value} {vf vs vh:Value} {M:RM} {D:Nat->Prop} {f A:Nat->Nat} {E:List Nat} {k:Nat} {y:Fm}
def zM (M:RM):RM:=M.top fun f=>{f with place:=f.place+1}
def ChkI (x:I5):Prop:=zq x.1 x.2.1 x.2.2.1 x.2.2.2.1 x.2.2.2.2=0
theorem ChkI.parts {x:I5} (h:ChkI x):Qu x.2.1 x.2.2.1 x.2.2.2.1 x.2.2.2.2/\1<=x.1/\x.1<=36:=by
 obtain⟨o,a,c,d,n⟩:=x;have h:zq o a c d n=0:=h;obtain⟨g0,g1⟩:=jb4 h;obtain⟨k,rfl⟩:=Int.eq_ofNat_of_zero_le (show 0<=o by omega);rw[Ja (by omega) (by omega)] at h;obtain⟨⟨ha0,ha1⟩,⟨hb0,hb1⟩,⟨hc0,hc1⟩,hn0,hn1⟩:=jaq h;exact⟨⟨by show 0<=a;omega,by show a<16;omega,by show 0<=c;omega,by show c<16;omega,by show 0<=d;omega,by show d<16;omega,by show _<=n;omega,by show n<=_;omega⟩,g0,g1⟩
def jfn (x:I5):Value:=.agg #[.int .i64 x.1,.int .i64 x.2.1,.int .i64 x.2.2.1,.int .i64 x.2.2.2.1,.int .i64 x.2.2.2.2]
structure Next (O:Nat->Prop) (w:World) (g b:Nat) (M:RM) (E:List Nat) (k:Nat) (x:I5) (C2:CM) (R:Nat->Value) (vf vs vh:Value) (D:Nat->Prop) (f A:Nat->Nat) (y2:Fm):Prop where
 a:McAt O w g C2 b R vf vs vh
 s:Sim (zM M) C2 D f A
 u:Usd (zM M) E
 t:TopS (zM M) C2 D A k y2
 c:ChkI x
 p0:0<=(jK (zM M)).place
 p1:(jK (zM M)).place<=20000
theorem jkJ (a:McAt O w g C b R vf vs vh) (s:Sim M C D f A) (hl:M.frs.length=k+1) (hi:jbr M=none):
  Calls prog 53 #[.pointer (some ⟨g,0,none⟩)] w fun e w'=>e=.returned (.tuple #[.agg #[.int .i64 0,.int .i64 0,.int .i64 0,.int .i64 0,.int .i64 0],.bool false])/\Below w.heap.size w w':=by
 obtain⟨y,t⟩:=s.topS hl;refine jpt a s.ok t.fl t.fy ?_;obtain⟨i,o,c1,c2,_,_,_,_,c3,_⟩:=t.co;unfold jbr at hi;rw[t.pl,c3];by_cases h0:(jK M).place<0
 ·exact .inl h0
 ·rw[if_neg h0,c1,Zy c2] at hi
  have:=List.getElem?_eq_none_iff.1 hi;exact .inr (by omega)
theorem jkK (a:McAt O w g C b R vf vs vh) (s:Sim M C D f A) (u:Usd M E) (hO:∀i,w.heap.size<=i->O i) (hops:∀Y,Below w.heap.size w Y->ZM Y) (hl:M.frs.length=k+1) {x:I5} (hi:jbr M=some x):
  Calls prog 53 #[.pointer (some ⟨g,0,none⟩)] w fun e w'=>e=.returned (.tuple #[jfn x,.bool true])/\Fr O w w'/\∃C2 R vf vs vh y2,Next O w' g b M E k x C2 R vf vs vh D f A y2:=by
 obtain⟨y,t⟩:=s.topS hl;obtain⟨i,o,c1,c2,c5,cD,cA,cl,c3,_⟩:=t.co;unfold jbr at hi;have h0:¬(jK M).place<0:=fun q=>by rw[if_pos q] at hi;cases hi
 rw[if_neg h0,c1,Zy c2] at hi;obtain⟨p,hp⟩:=jM (by omega:0<=(jK M).place);rw[hp] at hi;have hi:o.ins[p]?=some x:=hi;have hlt:=(zqb hi).1;obtain⟨o',q1,q2,q3⟩:=s.obj cD;rw[c2] at q1;obtain rfl:=zqd q1;rw[<-cA] at q3;have hok:Okl o.ins/\o.ws.length+o.ins.length<=16384:=by
  rcases q2.kd with⟨q,_⟩|⟨q,_⟩|⟨_,q⟩
  ·omega
  ·omega
  ·exact q
 have hx:ChkI x:=hok.1 x (zqc hi);have hw:(jA A o).ws=o.ws.map (jw A)++o.ins.map JF:=by rw[zQ (by omega)]
 have hN:(jA A o).ws.getD (y.lits+p) 0=JF x:=by
  rw[hw,cl,zqi,zqn (by rw[List.length_map];omega),List.length_map,Nat.add_sub_cancel_left,List.getElem?_map,hi];rfl
 obtain⟨o1,a1,b1,d1,n1⟩:=jf1 hx;refine(jmQ a s.ok hO t.fl t.fy (p:=p) (by rw[t.pl,hp]) (by omega) q3 (by rw[hw,zqm,List.length_map,List.length_map];omega) hN (io:=x.1) (ia:=x.2.1) (ib:=x.2.2.1) (ic:=x.2.2.2.1) (inn:=x.2.2.2.2) fun Y hY=>?_).mono ?_
 ·refine(jkC (JF x) (jrV hx) Y (hops Y hY)).mono ?_
  rintro e w' ⟨h1,h2⟩;refine⟨?_,h2⟩;have hd:jac (JF x)=0:=jpp hx;rw[h1,jdj hd,jdj hd,jdj hd,jdj hd,jdj hd,hd,show oN (JF x)=x.1 from o1,show aN (JF x)=x.2.1 from a1,show bN (JF x)=x.2.2.1 from b1,show cN (JF x)=x.2.2.2.1 from d1,show sN (JF x)=x.2.2.2.2 from n1]
 ·rintro e w' ⟨h1,⟨R',vf',vs',vh',h2⟩,h3⟩
  have s2:=s.place t.fm t.fy (pl:=((p+1:Nat):Int)) (by omega) (by omega);have u2:=u.place (x:=jK M) t.fm ((p+1:Nat):Int);have e2:zM M={M with frs:=M.frs.set k {jK M with place:=((p+1:Nat):Int)}}:=by
   unfold zM;rw[t.top,hp];rfl
  rw[<-e2] at s2 u2;have hl2:(zM M).frs.length=k+1:=by
   rw[e2];show(M.frs.set k _).length=_;rw[List.length_set,hl]
  obtain⟨y2,t2⟩:=s2.topS hl2;have ht2:jK (zM M)={jK M with place:=((p+1:Nat):Int)}:=by
   have h5:=t2.fm;rw[e2] at h5;have h6:(M.frs.set k {jK M with place:=((p+1:Nat):Int)})[k]?=some {jK M with place:=((p+1:Nat):Int)}:=List.getElem?_set_self (by omega);rw[<-e2] at h5;have h7:(zM M).frs[k]?=some {jK M with place:=((p+1:Nat):Int)}:=by rw[e2];exact h6
   rw[h7] at h5;exact(zqd h5).symm
  refine⟨h1,h3,_,R',vf',vs',vh',y2,h2,s2,u2,t2,hx,?_,?_⟩
  ·rw[ht2];show(0:Int)<=((p+1:Nat):Int);omega
  ·rw[ht2];show((p+1:Nat):Int)<=20000;omega
section
variable {C2:CM} {y2:Fm} {x:I5} (h:Next O w g b M E k x C2 R vf vs vh D f A y2) (hO:∀i,w.heap.size<=i->O i)
include C2 y2 x h hO
theorem Next.pre:Pre O w g b C2 R vf vs vh (zM M) D f A E k y2:=⟨h.a,h.s,h.u,h.t,hO,h.p0,h.p1⟩
theorem jsH (hT:∀Y,Below w.heap.size w Y->NumL.Tab Y) (hs:x.1≠15):
  Calls prog 55 #[.pointer (some ⟨g,0,none⟩),jfn x] w fun e w'=>DidS O w g b (doR (zM M) x) e w':=by
 obtain⟨h1,h2,h3⟩:=h.c.parts;unfold doR;rw[if_neg hs];exact jtQ (h.pre hO) hT h1 h2 h3 hs
theorem jnR (hs:x.1=15) (hb0:M.steps<=M.budget+1) (hb1:M.budget-M.steps<=190000):
  Calls prog 54 #[.pointer (some ⟨g,0,none⟩),jfn x,.int .i64 (M.budget-M.steps+1)] w fun e w'=>jtA O w g b (doR (zM M) x) ((doR (zM M) x).1.steps-M.steps) e w':=by
 obtain⟨h1,h2,h3⟩:=h.c.parts;unfold doR;rw[if_pos hs];exact jqY (h.pre hO) h1 (M:=zM M) hb0 hb1
end
theorem jlV (h:jbr M=none):Zr M=(M,7):=by unfold Zr;rw[h]
theorem jlW {x:I5} (h:jbr M=some x):Zr M=doR (zM M) x:=by unfold Zr;rw[h];rfl
end
section
variable {O:Nat->Prop} {w:World} {g b:Nat} {M:RM} {C:CM} {R:Nat->Value} {vf vs vh v:Value} {D:Nat->Prop} {f A:Nat->Nat} {E:List Nat} {l:List jn}
def jtz (O:Nat->Prop) (w:World) (g b:Nat) (vf vs vh:Value) (p:RM×Int) (e:Ending) (w':World):Prop:=e=.returned (.int .i64 p.2)/\(∃C' R' D' f' A',McAt O w' g C' b R' vf vs vh/\Sim p.1 C' D' f' A')/\Fr O w w'
theorem jcL {m:Nat}:∀{l:List jn},zv m l=0->jg l<=400000000*l.length
 |[],_=>zqg _
 |y::t,h=>by
  have h':(if jN m y=0 then zv m t else jN m y)=0:=h;by_cases e:jN m y=0
  ·rw[if_pos e] at h'
   have h1:=jcL h';have h2:=jhD e;show zy y+jg t<=400000000*(t.length+1);omega
  ·rw[if_neg e] at h';exact absurd h' e
theorem Sim.rest (s:Sim M C D f A):Sim {M with entry:=.I 0,value:=.I 0} {C with cd:=1,va:=1} D f A:=
 have hroot:∀v,v∈jr {M with entry:=.I 0,value:=.I 0}->v∈jr M\/v=.I 0:=fun v hv=>by
  rcases ja.1 hv with q|q|q|q|q
  ·exact .inl (ja.2 (.inl q))
  ·exact .inl (ja.2 (.inr (.inl q)))
  ·exact .inl (ja.2 (.inr (.inr (.inl q))))
  ·exact .inr q
  ·exact .inr q
 {s with
  cd:=rfl
  va:=rfl
  rt:=fun k hk=>by
   rcases hroot _ hk with q|q
   ·exact s.rt k q
   ·cases q
  wr:=fun v hv=>by
   rcases hroot _ hv with q|q
   ·exact s.wr v q
   ·rw[q];exact⟨by decide,by decide⟩}
theorem Usd.rest (u:Usd M E):Usd {M with entry:=.I 0,value:=.I 0} E:=by
 refine⟨u.nd,u.lt,⟨fun k hk=>?_,u.co.cl⟩,u.us⟩;rcases ja.1 hk with q|q|q|q|q
 ·exact u.co.rt k (ja.2 (.inl q))
 ·exact u.co.rt k (ja.2 (.inr (.inl q)))
 ·exact u.co.rt k (ja.2 (.inr (.inr (.inl q))))
 ·cases q
 ·cases q
theorem jbH (h:zu l≠0):Z9 M l=(M,zu l):=by unfold Z9;rw[if_pos h]
theorem jb6 (h:zu l=0) (hr:(jz {M with entry:=.I 0,value:=.I 0} (jg l)).2=false):Z9 M l=((jz {M with entry:=.I 0,value:=.I 0} (jg l)).1,21):=by unfold Z9;rw[if_neg (by omega),if_pos hr]
theorem jaN (h:zu l=0) (hr:(jz {M with entry:=.I 0,value:=.I 0} (jg l)).2=true):Z9 M l=(zo (jz {M with entry:=.I 0,value:=.I 0} (jg l)).1 l,0):=by
 unfold Z9;rw[if_neg (by omega),if_neg (by rw[hr];decide)];unfold zo jz;split<;>rfl
theorem jnp (a:McAt O w g C b R vf vs vh) (s:Sim M C D f A) (u:Usd M E) (hO:∀i,w.heap.size<=i->O i) (hops:∀Y,Fr O w Y->ZM Y) (hc:CodesAt O w v l) (hl:l.length<=1000000) (hsz:∀c∈l,c.ls.length<=1000000/\c.ins.length<=1000000/\∀x∈c.ls,x.tx.size<=1000000000):
  Calls prog 16 #[.pointer (some ⟨g,0,none⟩),v] w (jtz O w g b vf vs vh (Z9 M l)):=by
 obtain⟨nc,hnc⟩:∃nc,l.length=nc:=⟨_,rfl⟩;have HCC:=hid hc;obtain⟨A1,k1,rfl,l1⟩:=hc;rw[hnc] at hl ⊢;have HNO:=hid (QA a.bx rfl);have HI:=hid Qc;have HA:=hid (zqf a (zqf s (zqf u (zqf hO hops))));have HC:=hid l1;have HN:=hid hnc;have HSZ:=hid hsz;have hbad:∀w',Below w.heap.size w w'->∀n,zu l=n->n≠0->jtz O w g b vf vs vh (Z9 M l) (.returned (.int .i64 n)) w':=fun w' hb n hn h0=>by
  rw[jbH (by rw[hn];exact h0),hn];exact⟨rfl,⟨C,R,D,f,A,a.below hb,s⟩,Fr.of_below (O:=O) hb⟩
 have HB:=hid hbad;clear a s u hO hops l1 hnc hsz hbad;by_cases hlong:4096<nc
 ·have d0:decide ((4096:Int)<(nc:Int))=true:=zqr (by omega)
  have hE:=HB.out;go_enter Tryz.func16,Tryz.ntmps16;go_wp2_with fail;refine HNO.out.mono ?_;rintro e w' ⟨rfl,hw'⟩;subst w';go_wp2_with fail;go_ret;exact HB.out _ (Below.refl _ _) 3 (by unfold zu;rw[if_pos (by rw[HN.out];exact hlong)]) (by decide)
 have d0:decide ((4096:Int)<(nc:Int))=false:=zqq (by omega);by_cases hzero:nc=0
 ·have d1:((nc:Int)==0)=true:=by rw[hzero];rfl
  go_enter Tryz.func16,Tryz.ntmps16;go_wp2_with fail;refine HNO.out.mono ?_;rintro e w' ⟨rfl,hw'⟩;subst w';go_wp2_with fail;go_ret;exact HB.out _ (Below.refl _ _) 1 (by unfold zu;rw[if_neg (by rw[HN.out];exact hlong),if_pos (by rw[HN.out];exact hzero)]) (by decide)
 have d1:((nc:Int)==0)=false:=beq_eq_false_iff_ne.2 (by omega);have hall:zu l=zv nc l:=by unfold zu;rw[if_neg (by rw[HN.out];exact hlong),if_neg (by rw[HN.out];exact hzero),HN.out]
 have HALL:=hid hall;have hn4:nc<=4096:=by omega
 clear hall hlong;go_enter Tryz.func16,Tryz.ntmps16;go_wp2_with fail;refine HNO.out.mono ?_;rintro e w' ⟨rfl,hw'⟩;subst w';go_wp2_with fail;go_loopw [5,23] (fun nd i wr=>∃k:Nat,k<=nc/\i=.int .i64 k/\nd=.int .i64 ((jg (l.take k):Nat):Int)/\zv nc (l.take k)=0/\Below w.heap.size w wr) (fun _ i _=>nc-(intOf i).toNat)
 case atStart=>exact⟨0,by omega,rfl,rfl,rfl,Below.refl _ _⟩
 case round=>
  obtain⟨k,hk,rfl,rfl,hE,hb⟩:=hrel;have hWle:=jcL hE;have hWle:jg (l.take k)<=400000000*4096:=zqs hWle (Nat.mul_le_mul_left _ (by rw[List.length_take];omega));by_cases hlt:k<nc
  ·obtain⟨c,hx⟩:∃c,l[k]?=some c:=⟨_,zqh (by have:=HN.out;omega)⟩
   obtain⟨B,off,lv,iv,rfl,hB1,hB2,d2,d3,hL,hI⟩:=HC.out k c hx;have d2:=jm hb d2;have d3:=jm hb d3;have hn1:(k:Int)<nc:=by omega
   obtain⟨q1,q2,q3⟩:=HSZ.out c (zqc hx);have hb3:=jq wr (.cells #[lv,iv] 39);have hbb:=hb.trans (hb3.mono hb.size);have hwo:=joV (hL.below hbb) (hI.below hbb) (fun Y hY=>HA.out.2.2.2.2 Y (Fr.of_below (O:=O) (hbb.trans (hY.mono hbb.size)))) q1 q2 q3 nc;obtain⟨⟨_,_,rfl,_⟩,⟨_,_,rfl,_⟩⟩:=zqf hL hI;have HWO:=hid hwo;have HBB:=hid hbb;have HK:=hid (zqf hx hE);clear hb hb3 hbb hwo hL hI hx hE q1 q2 q3;obtain⟨er,her⟩:∃er,jN nc c=er:=⟨_,rfl⟩;have HER:=hid her;go_wp2_with fail;refine HWO.out.mono ?_;rintro e w2 ⟨⟨W',rfl,hW'⟩,hb2⟩;rw[her] at hW' ⊢;have HW':=hid hW';have HB2:=hid (HBB.out.trans (hb2.mono HBB.out.size));clear hb2 hW' her;by_cases he0:er=0
   ·have hw:=HW'.out he0
    have hcl:=jhD (HER.out.trans he0);subst hw;have e0:(er !=0)=false:=by rw[he0];rfl
    have hs:IntKind.i64.wrap ((jg (l.take k):Int)+(zy c:Int))=(jg (l.take k):Int)+(zy c:Int):=jv (by omega) (by omega);have hnx:zv nc (l.take (k+1))=0/\((jg (l.take (k+1)):Nat):Int)=(jg (l.take k):Int)+(zy c:Int):=by
     rw[zT HK.out.1];exact⟨jdw HK.out.2 (HER.out.trans he0),by rw[jdy];omega⟩
    have HNX:=hid hnx;clear hnx;go_wp2_with fail;go_roundw
    case rel=>exact⟨k+1,hlt,by go_num,by rw[HNX.out.2],HNX.out.1,HB2.out⟩
    case measure=>simp[intOf];omega
   ·have e0:(er !=0)=true:=by simp only[bne,beq_eq_false_iff_ne.2 he0];rfl
    have hfin:=HB.out w2 HB2.out er (HALL.out.trans ((jdx HK.out.1 HK.out.2 (by rw[HER.out];exact he0)).trans HER.out)) he0;have HFIN:=hid hfin;clear hfin;go_wp2_with fail;go_ret;exact HFIN.out
  ·obtain rfl:k=nc:=by omega
   have htk:l.take k=l:=zqp (by rw[HN.out];exact zqg _);rw[htk] at hE hWle ⊢;have hz:zu l=0:=HALL.out.trans hE;have a0:=HA.out.1.below hb;have c43:=a0.ccd;have z43:=a0.fz 1043;have c44:=a0.cva;have z44:=a0.fz 1044;have a1:McAt O ((wr.setCell ⟨g,1043,none⟩ (.int .u64 1)).setCell ⟨g,1044,none⟩ (.int .u64 1)) g {C with cd:=1,va:=1} b R vf vs vh:=(a0.code 1).value 1;have hf:Fr O w ((wr.setCell ⟨g,1043,none⟩ (.int .u64 1)).setCell ⟨g,1044,none⟩ (.int .u64 1)):=((Fr.of_below (O:=O) hb).setCell (p:=⟨g,1043,none⟩) (.inl a0.og) _).setCell (p:=⟨g,1044,none⟩) (.inl a0.og) _;obtain⟨X,hX⟩:∃X,(wr.setCell ⟨g,1043,none⟩ (.int .u64 1)).setCell ⟨g,1044,none⟩ (.int .u64 1)=X:=⟨_,rfl⟩;rw[hX] at a1 hf;obtain⟨ok,hok⟩:∃ok,(jz {M with entry:=.I 0,value:=.I 0} ((jg l:Nat):Int)).2=ok:=⟨_,rfl⟩;have hrm:=jef a1 HA.out.2.1.rest (fun i hi=>HA.out.2.2.2.1 i (zqs hf.size hi)) HA.out.2.2.1.rest (jg l);rw[hok] at hrm;have HRM:=hid hrm;have HX:=hid hX;have HF:=hid (zqf hf (zqf hz hok));clear hrm hX hf a1 a0 hz hok hE hWle htk hb;go_wp2_with (go_at_call 41;refine(HI.out _).mono ?_;rintro e w' ⟨rfl,hw'⟩;subst w');rw[HX.out];refine HRM.out.mono ?_;rintro e w3 ⟨rfl,C3,R3,D3,f3,A3,a3,s3,hf3,hu3⟩;have HX3:=hid (zqf a3 (zqf s3 (zqf hf3 hu3)));clear a3 s3 hf3 hu3;have HW3:=hid (HF.out.1.trans HX3.out.2.2.1 (fun i hi=>.inl hi));cases ok with
   |false=>
    go_wp2_with fail;go_ret;rw[jb6 HF.out.2.1 HF.out.2.2];exact⟨rfl,⟨C3,R3,D3,f3,A3,HX3.out.1,HX3.out.2.1⟩,HW3.out⟩
   |true=>
    have HMK:=hid (jnr HX3.out.1 HX3.out.2.1 (fun i hi=>HA.out.2.2.2.1 i (zqs HW3.out.size hi)) (fun Y hY=>HA.out.2.2.2.2 Y (HW3.out.trans hY (fun i hi=>.inl hi))) (HCC.out.fr HW3.out (fun i _ h=>h)) HF.out.2.1 (HX3.out.2.2.2 rfl));rw[HN.out] at HMK;go_wp2_with fail;refine HMK.out.mono ?_;rintro e w4 ⟨⟨v4,rfl⟩,h4,hf4⟩;have HR:=hid (zqf h4 hf4);clear h4 hf4;go_wp2_with fail;go_ret;rw[jaN HF.out.2.1 HF.out.2.2];exact⟨rfl,HR.out.1,HW3.out.trans HR.out.2 (fun i hi=>.inl hi)⟩
theorem Usd.ld (u:Usd M E) (s:Sim M C D f A) (l:List jn):∃E',Usd (Z9 M l).1 E':=by
 by_cases hE:zu l=0
 ·obtain⟨E1,u1⟩:=Usd.room u.rest s.rest ((jg l:Nat):Int)
  cases hr:(jz {M with entry:=.I 0,value:=.I 0} ((jg l:Nat):Int)).2 with
  |false=>rw[jb6 hE hr];exact⟨E1,u1⟩
  |true=>
   rw[jaN hE hr];refine⟨_,u1.loaded (fun k hk=>?_) hE⟩;have hg:(jz {M with entry:=.I 0,value:=.I 0} ((jg l:Nat):Int)).1.gl=M.gl:=by unfold jz;split<;>rfl
   rw[hg];exact s.wr _ (ja.2 (.inr (.inr (.inl ⟨k,hk,rfl⟩))))
 ·rw[jbH hE];exact⟨E,u⟩
end
