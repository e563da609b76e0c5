/- What (*disk.Disk).List answers, in abstract memory: the names that begin so, rising. -/
import Derived.Test.YtolignkahfekbaaGreatDoorExec
namespace Go.Proofs.YtolignkahfekbaaGreatDoor
open Go
def bytesLe : List UInt8 → List UInt8 → Bool
  | [], _ => true
  | _ :: _, [] => false
  | a :: r, b :: s => if a.toNat < b.toNat then true else if b.toNat < a.toNat then false else bytesLe r s
def insB (x : List UInt8) : List (List UInt8) → List (List UInt8)
  | [] => [x]
  | y :: r => if bytesLe x y then x :: y :: r else y :: insB x r
def sortB : List (List UInt8) → List (List UInt8)
  | [] => []
  | x :: r => insB x (sortB r)
def startsB : List UInt8 → List UInt8 → Bool
  | [], _ => true
  | _ :: _, [] => false
  | a :: r, b :: s => a == b && startsB r s
def keysB : List Value → Option (List (List UInt8))
  | [] => some []
  | .tuple ⟨[.string k, _]⟩ :: r => (keysB r).bind fun l => some (k.data.toList :: l)
  | _ :: _ => none
/-- The field's place in a Disk: off. -/
def summList (fList off : Nat) (strT : TypeId) (f : FuncId) (args : List Value) (h : AHeap) : Option (Value × AHeap) :=
  match args with
  | [.pointer (some a), .string pre] => if f = fList ∧ a.spot.isNone then (h.cel a.block).bind fun o => match o.cells[a.off + off]? with
      | some (.map (some r)) => (h.get r).bind fun m => if m.kind = 3 ∧ m.cells.length ≤ 1048576 then (keysB m.cells).bind fun ks =>
          let l := sortB (ks.filter (startsB pre.data.toList))
          if l.isEmpty then some (.slice none 0 0, h) else some (.slice (some ⟨h.n, 0, some opened⟩) l.length l.length, h.push ⟨l.map fun b => .string ⟨b.toArray⟩, strT, 0, 1⟩)
        else none
      | _ => none
    else none
  | _ => none
end Go.Proofs.YtolignkahfekbaaGreatDoor
