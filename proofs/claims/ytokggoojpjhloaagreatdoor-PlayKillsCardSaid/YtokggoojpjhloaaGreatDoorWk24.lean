/- hostlerlaw24's wakes, run once by plain terms: a known call. -/
import Derived.Test.YtokggoojpjhloaaGreatDoorAllSum
import Derived.Test.YtokggoojpjhloaaGreatDoorPl
namespace Go.Proofs.YtokggoojpjhloaaGreatDoor
open Go Go.RowKit
def cfgK : Cfg := ⟨fun _ => true, overW [], summAll⟩
theorem cfgK_ok [Toks] : CfgOk Tryz.prog cfgK := ⟨overW_ok [] (fun _ hq => nomatch hq) (fun _ hq => nomatch hq), summAll_ok, summAll_mono⟩
set_option maxRecDepth 1000000 in
theorem wakes_25 : Known Tryz.prog (25, [], .bool true) :=
  ⟨by kernel_rfl, rfl, rfl, fun W => letI : Toks := ⟨fun _ => 0⟩; top_plain tabAll_ok cfgK_ok mixed 3000 60 W .nil (by kernel_rfl)⟩
def knowns2 : List (FuncId × List Value × Value) := [(25, [], .bool true)]
theorem knowns2_ok : ∀ q ∈ knowns2, Known Tryz.prog q := by
  intro q hq
  simp only [knowns2, List.mem_cons, List.not_mem_nil, or_false] at hq
  rcases hq with rfl
  exact wakes_25
def summAll2 : XCall := orS (summC knowns2) summAll
theorem summAll2_ok [Toks] : CallOk Tryz.prog summAll2 := orS_ok (summC_ok knowns2_ok) summAll_ok
theorem summAll2_mono : CallMono summAll2 := orS_mono (summC_mono _) summAll_mono
theorem AllG.without {P : Program} [Toks] {l : List (Nat × G)} (a : AllG P l) (f : Nat) : AllG P (l.filter fun p => !Nat.beq p.1 f) := by
  induction a with
  | nil => exact .nil
  | @cons f' g r hg _ ih =>
    cases e : Nat.beq f' f with
    | true => simpa only [List.filter, e, Bool.not_true] using ih
    | false => simpa only [List.filter, e, Bool.not_false] using .cons hg ih
noncomputable def tabAll2 : List (Nat × G) := tabAll.filter fun p => !Nat.beq p.1 25
theorem tabAll2_ok [Toks] : AllG Tryz.prog tabAll2 := tabAll_ok.without 25
end Go.Proofs.YtokggoojpjhloaaGreatDoor
