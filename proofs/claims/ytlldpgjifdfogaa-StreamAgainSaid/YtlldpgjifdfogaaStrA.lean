/- Contracts of a stream's Again and Ack, where it has one update that runs. -/
import Derived.Test.YtlldpgjifdfogaaStr
namespace Go.Proofs.Ytlldpgjifdfogaa
open Go.ChangeShapes Go.WideShapes Go.ChangeAt Go.RowKit
set_option linter.unusedVariables false
set_option maxRecDepth 100000
set_option maxHeartbeats 4000000 in
theorem Again_not (g u c : Nat) (sd : Bool) (dl du now most draw : Int) (w : World) (h : One w g u c 0 sd dl du) (hn : sd = false ∨ now < du) :
    Calls Try.prog 18 #[.pointer (some ⟨g, 0, none⟩), .int .i64 now, .int .i64 most, .int .i64 draw] w fun e w' => e = .returned (.tuple #[.agg #[.int .i64 0, .int .i64 0], .bool false]) ∧ Below w.heap.size w w' := by
  have g2 : ∀ o, (w.alloc o).cell? ⟨g, 2, none⟩ = some (.bool sd) := fun o => (h.alloc o).blk.cell 2
  have g4 : ∀ o, (w.alloc o).cell? ⟨g, 4, none⟩ = some (.int .i64 du) := fun o => (h.alloc o).blk.cell 4
  have hs : sd = false ∨ (sd = true ∧ now < du) := by cases sd <;> simp_all
  clear hn
  rcases hs with hs | ⟨hs, hn⟩
  all_goals
    subst hs
    go_enter Try.func18, Try.ntmps18
    go_wp2
    refine bodyPost_ret (ret_cell2 rfl rfl (by first | exact Blk.new w 27 #[.int .i64 0, .int .i64 0] | exact (Blk.new w 27 #[.int .i64 0, .int .i64 0]).drewN _ | exact ((Blk.new w 27 #[.int .i64 0, .int .i64 0]).set_ 0 _).set_ 1 _) Try.underlying27 rfl (by kernel_rfl)) rfl ?_
    exact ⟨rfl, by repeat (first | exact Below.refl _ _ | refine Below.drew ?_ | refine below_drewN ?_ _ | refine Below.alloc ?_ (by first | exact Nat.le_refl _ | (simp; done) | (simp; omega)) _ | refine Below.setCell ?_ (by first | exact Nat.le_refl _ | (simp; done) | (simp; omega)) _)⟩
set_option maxHeartbeats 4000000 in
theorem Again_yes (g u c : Nat) (dl du now most draw : Int) (w : World) (h : One w g u c 0 true dl du) (hd : draw ≤ 9223372036854775807) (hn : ¬ now < du) :
    Calls Try.prog 18 #[.pointer (some ⟨g, 0, none⟩), .int .i64 now, .int .i64 most, .int .i64 draw] w fun e w' => e = .returned (.tuple #[.agg #[.int .i64 1, .int .i64 2], .bool true]) ∧ One w' g u c 0 true (nextI dl most) (dueI now (nextI dl most) draw) ∧ w.grownBy w' (some g) := by
  have g2 : ∀ o, (w.alloc o).cell? ⟨g, 2, none⟩ = some (.bool true) := fun o => (h.alloc o).blk.cell 2
  have g3 : ∀ o, (w.alloc o).cell? ⟨g, 3, none⟩ = some (.int .i64 dl) := fun o => (h.alloc o).blk.cell 3
  have g4 : ∀ o, (w.alloc o).cell? ⟨g, 4, none⟩ = some (.int .i64 du) := fun o => (h.alloc o).blk.cell 4
  have f3 : ∀ o, (w.alloc o).frozen? ⟨g, 3, none⟩ = false := fun o => (h.alloc o).blk.frozen 3
  have f4 : ∀ o, (w.alloc o).frozen? ⟨g, 4, none⟩ = false := fun o => (h.alloc o).blk.frozen 4
  have hgl : g ≠ w.heap.size := by have := h.blk.lt; omega
  have hul : u ≠ w.heap.size := by have := h.lt; omega
  go_enter Try.func18, Try.ntmps18
  go_wp2_with (first | (go_at_call 85; refine (Next_any _ _ _).mono ?_; rintro e w' ⟨rfl, rfl⟩) | (go_at_call 86; refine (Due_any _ _ _ _ hd).mono ?_; rintro e w' ⟨rfl, rfl⟩))
  have o1 := (h.alloc (.cells #[.int .i64 0, .int .i64 0] 27)).stored (dl' := nextI dl most) 3 (.int .i64 (nextI dl most)) ((h.alloc _).blk.set_ 3 _)
  have o2 := o1.stored (du' := dueI now (nextI dl most) draw) 4 (.int .i64 (dueI now (nextI dl most) draw)) (o1.blk.set_ 4 _)
  have hr2 := ((Blk.new w 27 #[.int .i64 0, .int .i64 0]).far (p := ⟨g, 3, none⟩) (fun e => hgl e.symm) (.int .i64 (nextI dl most))).far (p := ⟨g, 4, none⟩) (fun e => hgl e.symm) (.int .i64 (dueI now (nextI dl most) draw))
  refine (Front_one _ _ _ _ _ _ _ o2).mono ?_
  rintro e w1 ⟨rfl, hb1⟩
  have o3 := o2.below hb1
  have hr3 := hr2.below hb1 (by simp)
  have r0 : w1.cell? ⟨w.heap.size, 0, none⟩ = some (.int .i64 0) := hr3.cell 0
  have r1 : w1.cell? ⟨w.heap.size, 1, none⟩ = some (.int .i64 0) := hr3.cell 1
  have q0 : w1.frozen? ⟨w.heap.size, 0, none⟩ = false := hr3.frozen 0
  have q1 : w1.frozen? ⟨w.heap.size, 1, none⟩ = false := hr3.frozen 1
  go_wp2
  have o4 := (o3.far (p := ⟨w.heap.size, 0, none⟩) hgl hul (.int .i64 1)).far (p := ⟨w.heap.size, 1, none⟩) hgl hul (.int .i64 2)
  refine bodyPost_ret (ret_cell2 rfl rfl ((hr3.set_ 0 _).set_ 1 _) Try.underlying27 rfl (by kernel_rfl)) rfl ?_
  refine ⟨rfl, o4, ?_⟩
  have b0 : w.grownBy (((w.alloc (.cells #[.int .i64 0, .int .i64 0] 27)).setCell ⟨g, 3, none⟩ (.int .i64 (nextI dl most))).setCell ⟨g, 4, none⟩ (.int .i64 (dueI now (nextI dl most) draw))) (some g) := by
    repeat (first | exact World.grownBy.refl _ _ | refine only_setCell ?_ (.inl rfl) _ | refine only_alloc ?_ _)
  have b1 : w.grownBy w1 (some g) := ⟨hb1.os.trans b0.os, hb1.tape.trans b0.tape, hb1.output.trans b0.output, Nat.le_trans b0.size hb1.size, fun i hi hne => (hb1.block i (Nat.lt_of_lt_of_le hi b0.size)).trans (b0.block i hi hne)⟩
  repeat (first | exact b1 | refine only_setCell ?_ (by first | exact .inl rfl | exact .inr (by simp)) _ | refine only_alloc ?_ _ | refine only_drewN ?_ _)
set_option maxHeartbeats 4000000 in
theorem Ack_one (g u c : Nat) (dl du : Int) (w : World) (h : One w g u c 0 true dl du) :
    Calls Try.prog 20 #[.pointer (some ⟨g, 0, none⟩), .int .i64 1] w fun e w' => e = .returned (.int .i64 0) ∧ w.grownBy w' (some g) := by
  go_enter Try.func20, Try.ntmps20
  go_wp2_with fail
  refine (Front_one _ _ _ _ _ _ _ h).mono ?_
  rintro e w1 ⟨rfl, hb1⟩
  have h1 := h.below hb1
  have g1 : ∀ o, (w1.alloc o).cell? ⟨g, 1, none⟩ = some (.int .i64 0) := fun o => (h1.alloc o).blk.cell 1
  have g2 : ∀ o, (w1.alloc o).cell? ⟨g, 2, none⟩ = some (.bool true) := fun o => (h1.alloc o).blk.cell 2
  have f1 : ∀ o, (w1.alloc o).frozen? ⟨g, 1, none⟩ = false := fun o => (h1.alloc o).blk.frozen 1
  have f2 : ∀ o, (w1.alloc o).frozen? ⟨g, 2, none⟩ = false := fun o => (h1.alloc o).blk.frozen 2
  go_wp2
  go_ret
  refine ⟨rfl, ?_⟩
  have b1 := only_of_below hb1 (some g)
  repeat (first | exact b1 | refine only_setCell ?_ (by first | exact .inl rfl | exact .inr (by simp)) _ | refine only_alloc ?_ _ | refine only_drewN ?_ _)
end Go.Proofs.Ytlldpgjifdfogaa
