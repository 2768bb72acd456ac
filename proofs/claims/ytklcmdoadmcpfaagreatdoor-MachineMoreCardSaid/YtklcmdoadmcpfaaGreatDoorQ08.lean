/- A part of the proof of MachineMoves. Conditions: those that each theorem names. -/
import Derived.Test.YtklcmdoadmcpfaaGreatDoorQ06
import Derived.Test.YtklcmdoadmcpfaaGreatDoorQ07
set_option maxRecDepth 100000
set_option maxHeartbeats 400000000
namespace Go.Proofs.YtklcmdoadmcpfaaGreatDoor
open Go Go.RowKit IsaL
theorem jq (w:World) (o:Obj):Below w.heap.size w (w.alloc o):=(Below.refl _ w).alloc (zqg _) o
theorem jm {w W:World} (h:Below w.heap.size w W) {g j:Nat} {v:Value} (hc:w.cell? ⟨g,j,none⟩=some v):W.cell? ⟨g,j,none⟩=some v:=(h.cell (p:=⟨g,j,none⟩) (World.block_lt_of_cell? w _ hc)).trans hc
abbrev I5:=Int×Int×Int×Int×Int
def Okl (l:List I5):Prop:=∀x∈l,zq x.1 x.2.1 x.2.2.1 x.2.2.2.1 x.2.2.2.2=0
