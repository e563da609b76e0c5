/- The plain master hears. -/
import Derived.Test.YtiflhfhonhbcpaaRmA
namespace Go.Proofs.Ytiflhfhonhbcpaa.Mas
open Go Go.RowKit Go.Proofs.Ytiflhfhonhbcpaa Go.Proofs.Ytiflhfhonhbcpaa.Crw Go.ChangeShapes Go.WideShapes Go.ChangeAt
set_option linter.unusedVariables false
set_option maxRecDepth 100000
section
variable {w w' : World} {B m : Nat} {V U : Nat → Prop} {a b c : Value} {L : List Rk} {f t : ByteArray}
abbrev msgK (k : Int) (f e t : ByteArray) (n st nu ep : Int) : Array Value := #[.int .i64 k, .string f, .string e, .string t, .int .i64 n, .int .i64 st, .int .i64 nu, .int .i64 ep, .slice none 0 0]
abbrev welC : Array Value := #[.int .i64 6, .string ⟨#[]⟩, .string ⟨#[]⟩, .string ⟨#[]⟩, .int .i64 0, .int .i64 0, .int .i64 0, .int .i64 0, .slice none 0 0]
set_option maxHeartbeats 4000000 in
theorem RHear_none (k : Int) (h1 : (k == 10) = false) (h2 : (k == 11) = false) (f e t : ByteArray) (n st nu ep : Int) (w : World) :
    Calls Try.prog 19 #[.pointer (some ⟨m, 0, none⟩), .agg (msgK k f e t n st nu ep)] w fun r w' => r = .returned (.slice none 0 0) ∧ Below w.heap.size w w' := by
  have h3 : ¬ k = 10 := by simpa using h1
  have h4 : ¬ k = 11 := by simpa using h2
  go_enter Try.func19, Try.ntmps19
  go_wp2_with fail
  go_ret
  exact ⟨rfl, (Below.refl _ _).alloc (Nat.le_refl _) _⟩
set_option maxHeartbeats 4000000 in
theorem RHear_reg (f e t : ByteArray) (n st nu ep : Int) (w : World) :
    Calls Try.prog 19 #[.pointer (some ⟨m, 0, none⟩), .agg (msgK 10 f e t n st nu ep)] w fun r w' => ∃ c, r = .returned (.slice (some ⟨c, 0, none⟩) 1 1) ∧ Blk w' c 30 welC ∧ w.heap.size ≤ c ∧ Below w.heap.size w w' := by
  go_enter Try.func19, Try.ntmps19
  go_wp2_with fail
  go_ret
  exact ⟨_, rfl, by simpa using Blk.new (w.alloc (.cells (msgK 10 f e t n st nu ep) 30)) 30 welC, by simp, ((Below.refl _ _).alloc (Nat.le_refl _) _).alloc (by simp) _⟩
set_option maxHeartbeats 4000000 in
theorem PHear_none (k : Int) (h1 : (k == 10) = false) (h2 : (k == 11) = false) (f e t : ByteArray) (n st nu ep : Int) (w : World) :
    Calls Try.prog 18 #[.pointer (some ⟨m, 0, none⟩), .agg (msgK k f e t n st nu ep)] w fun r w' => r = .returned (.slice none 0 0) ∧ Below w.heap.size w w' := by
  have h3 : ¬ k = 10 := by simpa using h1
  have h4 : ¬ k = 11 := by simpa using h2
  go_enter Try.func18, Try.ntmps18
  go_wp2_with fail
  go_ret
  exact ⟨rfl, (Below.refl _ _).alloc (Nat.le_refl _) _⟩
set_option maxHeartbeats 4000000 in
theorem PHear_reg (f e t : ByteArray) (n st nu ep : Int) (w : World) :
    Calls Try.prog 18 #[.pointer (some ⟨m, 0, none⟩), .agg (msgK 10 f e t n st nu ep)] w fun r w' => ∃ c, r = .returned (.slice (some ⟨c, 0, none⟩) 1 1) ∧ Blk w' c 30 welC ∧ w.heap.size ≤ c ∧ Below w.heap.size w w' := by
  go_enter Try.func18, Try.ntmps18
  go_wp2_with fail
  go_ret
  exact ⟨_, rfl, by simpa using Blk.new (w.alloc (.cells (msgK 10 f e t n st nu ep) 30)) 30 welC, by simp, ((Below.refl _ _).alloc (Nat.le_refl _) _).alloc (by simp) _⟩
end
end Go.Proofs.Ytiflhfhonhbcpaa.Mas
