/- slices.Insert of one box. -/
import Derived.Test.YtiflhfhonhbcpaaRowZ
import Derived.Test.YtiflhfhonhbcpaaRdz
import Derived.Test.YtiflhfhonhbcpaaCrewM
import Derived.Shelf.RegionOpenPlain
import Derived.WalkKit
import Derived.Deep.RegionLaw
import Derived.Lib.Walk
import Derived.Lib.SliceRun
import Derived.Lib.AppendZerosOnto
import Derived.Lib.Overlaps
import Derived.Laws.Externs
import Derived.Lib.Hide
namespace Go.Proofs.Ytiflhfhonhbcpaa.Bin
open Go Go.RowKit Go.Proofs.Ytiflhfhonhbcpaa Go.Proofs.Ytiflhfhonhbcpaa.Crw Go.ChangeShapes Go.WideShapes Go.ChangeAt Go.Lib
set_option linter.unusedVariables false
set_option maxRecDepth 100000
abbrev bxZ : Value := .agg #[.string ⟨#[]⟩, .string ⟨#[]⟩, .int .i64 0, .int .i64 0]
theorem box_info : (Try.prog.info? 70).map (fun i => (i.zero, i.size, i.bytes)) = some (some bxZ, 4, 48) := by kernel_rfl
theorem box_size : (Try.prog.info? 70).map (·.size) = some 4 := by kernel_rfl
abbrev InsPost (B n i : Nat) (v : Value) (xs ns : List Value) (w : World) (e : Ending) (w' : World) : Prop := ∃ v', e = .returned v' ∧ w'.ownsRow B 70 4 v' (n + 1) (xs.take (i * 4) ++ ns ++ xs.drop (i * 4)) ∧ w.grownBy w' v.ownBlock ∧ (v'.ownBlock = v.ownBlock ∨ ∃ k, v'.ownBlock = some k ∧ w.heap.size ≤ k)
set_option maxHeartbeats 8000000 in
/-- At the end. -/
theorem Insert_end {B n c vb : Nat} {A : Option Addr} {xs : List Value} {vs : Array Value} (w : World) (h : w.ownsRow B 70 4 (.slice A n c) n xs) (hn : n ≤ 1000) (hv : Blk w vb 70 vs) (hvs : vs.size = 4) (h1v : ∀ u ∈ vs.toList, u.oneCell' = true) (hBw : B ≤ w.heap.size) :
    Calls Try.prog 58 #[.slice A n c, .int .i64 n, .slice (some ⟨vb, 0, none⟩) 1 1] w (InsPost B n n (.slice A n c) xs vs.toList w) := by
  obtain ⟨i0, hi0, hz0, hz1, hz2⟩ := info_parts box_info
  have hxl := h.1
  have hr := reads_blk hv (z := 4) (by omega)
  have hnc : n ≤ c := by
    obtain ⟨A', c', e, hc, _⟩ := own_slice h
    injection e with e1 e2 e3
    omega
  have hfin : ∀ v7 (w7 : World), w7.ownsRow B 70 4 v7 (n + 1) (xs ++ vs.toList) → w.grownBy w7 (Value.slice A n c).ownBlock → (v7.ownBlock = (Value.slice A n c).ownBlock ∨ v7.ownBlock = some w.heap.size) → InsPost B n n (.slice A n c) xs vs.toList w (.returned v7) w7 := by
    intro v7 w7 h1 h2 h3
    refine ⟨_, rfl, ?_, h2, h3.imp id (fun e => ⟨_, e, Nat.le_refl _⟩)⟩
    rw [List.take_of_length_le (by omega), List.drop_of_length_le (by omega), List.append_nil]
    exact h1
  have HXL := Lib.hid hxl
  clear hxl
  cases A with
  | none =>
    go_enter Try.func58, Try.ntmps58
    have hn0 : n = 0 := by
      rcases h.2 with ⟨h1, h2⟩ | ⟨g, cap, cur, h1, _⟩
      · exact h2
      · cases h1
    subst hn0
    go_wp2_with (at_builtin; refine wpList_append_any _ rfl _ _ 67 rfl B 70 i0 bxZ 4 48 Try.underlying67 hi0 hz0 hz1 hz2 rfl (by decide) _ _ xs rfl h w.heap.size (some ⟨vb, 0, none⟩) 1 1 vs.toList rfl hr h1v (by simp only [maxLen]; omega) (by omega) hBw ?_; intro v7 w7 hown7 hg7 hn7)
    go_ret
    exact hfin _ _ hown7 hg7 hn7
  | some a =>
    obtain ⟨ab, ao, asp⟩ := a
    go_enter Try.func58, Try.ntmps58
    go_wp2_with (at_builtin; refine wpList_append_any _ rfl _ _ 67 rfl B 70 i0 bxZ 4 48 Try.underlying67 hi0 hz0 hz1 hz2 rfl (by decide) _ _ xs rfl h w.heap.size (some ⟨vb, 0, none⟩) 1 1 vs.toList rfl hr h1v (by simp only [maxLen]; omega) (by omega) hBw ?_; intro v7 w7 hown7 hg7 hn7)
    all_goals (go_ret; exact hfin _ _ hown7 hg7 hn7)
end Go.Proofs.Ytiflhfhonhbcpaa.Bin
