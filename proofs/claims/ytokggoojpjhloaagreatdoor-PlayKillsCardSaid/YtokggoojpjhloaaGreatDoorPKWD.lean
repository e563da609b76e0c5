/- What the plain terms find of PlayKills. -/
import Derived.Test.YtokggoojpjhloaaGreatDoorAllSum
import Derived.Test.YtokggoojpjhloaaGreatDoorWk24
import Derived.Test.YtokggoojpjhloaaGreatDoorBools
namespace Go.Proofs.YtokggoojpjhloaaGreatDoor.playKills
open Go
def cfg : Cfg := ⟨fun _ => true, overW [], summAll2⟩
noncomputable def at_ (v : Value) (e : Bool) (h : AHeap) : Bool := yes (gcall (mkTab tabAll2) (deep Tryz.prog cfg 3000) 60 4 [v, .bool e] h)
abbrev ob (el : Nat) (l : List Bool) : AHeap := heapOf [⟨l.map .bool, el, 2, 1⟩]
abbrev sl (n : Nat) : Value := .slice (some ⟨0, 0, some opened⟩) n n
end Go.Proofs.YtokggoojpjhloaaGreatDoor.playKills
