/- Short names for laws that the parts use often. Conditions: none. -/
import Derived.Below
import Derived.WalkKit
import Derived.ProofKit
namespace Go.Proofs.YtklcmdoadmcpfaaGreatDoor
open Go
theorem zqa {α:Type _} {xs:Array α} {i:Nat} {v:α} (h:xs[i]? =some v):∃h:i<xs.size,xs[i]=v:=Array.getElem?_eq_some_iff.1 h
theorem zqb {α:Type _} {xs:List α} {i:Nat} {v:α} (h:xs[i]? =some v):∃h:i<xs.length,xs[i]=v:=List.getElem?_eq_some_iff.1 h
theorem zqc {α:Type _} {l:List α} {i:Nat} {a:α} (h:l[i]? =some a):a∈l:=List.mem_of_getElem? h
theorem zqd {α:Type _} {a b:α} (h:some a=some b):a=b:=Option.some.inj h
theorem zqe (w:World) (o:Obj):(w.alloc o).heap[w.heap.size]? =some o:=heap_alloc_new w o
theorem zqf {a b:Prop} (h:a) (k:b):a∧b:=⟨h,k⟩
theorem zqg (n:Nat):n≤n:=Nat.le_refl n
theorem zqh {α:Type _} {l:List α} {i:Nat} (h:i<l.length):l[i]? =some l[i]:=List.getElem?_eq_getElem h
theorem zqi {α:Type _} {l:List α} {i:Nat} {a:α}:l.getD i a=l[i]?.getD a:=List.getD_eq_getElem?_getD
theorem zqj {α:Type _} (l:List α) (i:Nat) (a:α):l.toArray.setIfInBounds i a=(l.set i a).toArray:=List.setIfInBounds_toArray l i a
theorem zqk {α:Type _} {x a:α} {xs:List α}:(x::xs).set 0 a=a::xs:=rfl
theorem zql {α:Type _} {x a:α} {xs:List α} {n:Nat}:(x::xs).set (n+1) a=x::xs.set n a:=rfl
theorem zqm {α:Type _} {l k:List α}:(l++k).length=l.length+k.length:=List.length_append
theorem zqn {α:Type _} {l k:List α} {n:Nat} (h:l.length<=n):(l++k)[n]? =k[n-l.length]?:=List.getElem?_append_right h
theorem zqo {α:Type _} {l k:List α} {n:Nat} (h:n<l.length):(l++k)[n]? =l[n]?:=List.getElem?_append_left h
theorem zqp {α:Type _} {i:Nat} {l:List α} (h:l.length<=i):l.take i=l:=List.take_of_length_le h
theorem zqq {p:Prop} [i:Decidable p]:¬p->decide p=false:=decide_eq_false
theorem zqr {p:Prop} [i:Decidable p]:p->decide p=true:=decide_eq_true
theorem zqs {n m k:Nat}:n<=m->m<=k->n<=k:=Nat.le_trans
end Go.Proofs.YtklcmdoadmcpfaaGreatDoor
