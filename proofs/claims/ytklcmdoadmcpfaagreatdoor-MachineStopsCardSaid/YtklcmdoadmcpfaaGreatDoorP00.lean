/- Short names for laws that the parts use often. Conditions: none. -/
import Derived.Below
import Derived.WalkKit
import Derived.ProofKit
namespace Go.Proofs.YtklcmdoadmcpfaaGreatDoor
open Go
theorem zqa {α:Type _} {xs:Array α} {i:Nat} {v:α} (h:xs[i]? =some v):∃h:i<xs.size,xs[i]=v:=Array.getElem?_eq_some_iff.1 h
theorem zqb {α:Type _} {xs:List α} {i:Nat} {v:α} (h:xs[i]? =some v):∃h:i<xs.length,xs[i]=v:=List.getElem?_eq_some_iff.1 h
theorem zqc {α:Type _} {l:List α} {i:Nat} {a:α} (h:l[i]? =some a):a∈l:=List.mem_of_getElem? h
theorem zqd {α:Type _} {a b:α} (h:some a=some b):a=b:=Option.some.inj h
theorem zqe (w:World) (o:Obj):(w.alloc o).heap[w.heap.size]? =some o:=heap_alloc_new w o
theorem zqf {a b:Prop} (h:a) (k:b):a∧b:=⟨h,k⟩
theorem zqg (n:Nat):n≤n:=Nat.le_refl n
end Go.Proofs.YtklcmdoadmcpfaaGreatDoor
