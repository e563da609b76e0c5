/- Contracts of a stream's methods, where it has one update that runs. -/
import Derived.Test.YtlldpgjifdfogaaBackoff
import Derived.Test.YtlldpgjifdfogaaLife
import Derived.Test.YtlldpgjifdfogaaAddX
import Derived.Laws.ResultCell
namespace Go.Proofs.Ytlldpgjifdfogaa
open Go.ChangeShapes Go.WideShapes Go.ChangeAt Go.RowKit
set_option linter.unusedVariables false
/-- A stream of one update. -/
structure One (w : World) (g u c : Nat) (ak : Int) (sd : Bool) (dl du : Int) : Prop where
  blk : Blk w g 126 #[.slice (some ⟨u, 0, none⟩) 1 c, .int .i64 ak, .bool sd, .int .i64 dl, .int .i64 du]
  lt : u < w.heap.size
  ne : u ≠ g
  c1 : 1 ≤ c
  n : w.cell? ⟨u, 0, none⟩ = some (.int .i64 1)
  s : w.cell? ⟨u, 1, none⟩ = some (.int .i64 2)
theorem One.alloc {w : World} {g u c : Nat} {ak : Int} {sd : Bool} {dl du : Int} (h : One w g u c ak sd dl du) (o : Obj) : One (w.alloc o) g u c ak sd dl du :=
  ⟨h.blk.alloc o, by have := h.lt; simp; omega, h.ne, h.c1, by rw [((Below.refl w.heap.size w).alloc (Nat.le_refl _) o).cell h.lt]; exact h.n, by rw [((Below.refl w.heap.size w).alloc (Nat.le_refl _) o).cell h.lt]; exact h.s⟩
theorem One.below {w w' : World} {g u c : Nat} {ak : Int} {sd : Bool} {dl du : Int} (h : One w g u c ak sd dl du) (hb : Below w.heap.size w w') : One w' g u c ak sd dl du :=
  ⟨h.blk.below hb h.blk.lt, Nat.lt_of_lt_of_le h.lt hb.size, h.ne, h.c1, by rw [hb.cell h.lt]; exact h.n, by rw [hb.cell h.lt]; exact h.s⟩
/-- A store beside it. -/
theorem One.far {w : World} {g u c : Nat} {ak : Int} {sd : Bool} {dl du : Int} (h : One w g u c ak sd dl du) {p : Addr} (h1 : g ≠ p.block) (h2 : u ≠ p.block) (v : Value) : One (w.setCell p v) g u c ak sd dl du :=
  ⟨h.blk.far h1 v, by have := h.lt; simpa using this, h.ne, h.c1, by rw [World.cell?_of_block (w := w) (Below.heap_setCell w p v u h2)]; exact h.n, by rw [World.cell?_of_block (w := w) (Below.heap_setCell w p v u h2)]; exact h.s⟩
theorem One.stored {w : World} {g u c : Nat} {ak ak' : Int} {sd sd' : Bool} {dl du dl' du' : Int} (h : One w g u c ak sd dl du) (i : Nat) (v : Value) (hb : Blk (w.setCell ⟨g, i, none⟩ v) g 126 #[.slice (some ⟨u, 0, none⟩) 1 c, .int .i64 ak', .bool sd', .int .i64 dl', .int .i64 du']) : One (w.setCell ⟨g, i, none⟩ v) g u c ak' sd' dl' du' :=
  ⟨hb, by have := h.lt; simpa using this, h.ne, h.c1, by rw [World.cell?_of_block (w := w) (Below.heap_setCell w _ v u h.ne)]; exact h.n, by rw [World.cell?_of_block (w := w) (Below.heap_setCell w _ v u h.ne)]; exact h.s⟩
theorem ret_cell2 {P : Program} {fn : Func} {p u : Tmp} {ty : TypeId} {tmps : Array Value} {w : World} {g : Nat} {t : TypeId} {cs : Array Value} {d : TypeDesc} (h : fn.results = #[.cell p ty, .tmp u]) (ht : tmps.getD p undef = .pointer (some ⟨g, 0, none⟩)) (hb : Blk w g t cs)
    (hu : P.underlying ty = some d) (hd : (match d with | .struct _ | .array _ _ => true | _ => false) = true) (hi : (P.info? ty).map (·.size) = some cs.size) : (results fn tmps).run P w = .ok (.tuple #[.agg cs, tmps.getD u undef]) w := by
  rw [results_cell_tmp h, ht]
  simp only [asAddr, Sem.run_pure, Result.andThen_ok]
  rw [Go.run_loadVar_row w g t ty cs _ d hb hu hd hi]
  rfl
set_option maxRecDepth 100000
set_option maxHeartbeats 4000000 in
theorem Pending_one (g u c : Nat) (ak : Int) (sd : Bool) (dl du : Int) (w : World) (h : One w g u c ak sd dl du) (hk : 0 ≤ ak ∧ ak ≤ 1) :
    Calls Try.prog 25 #[.pointer (some ⟨g, 0, none⟩)] w fun e w' => e = .returned (.int .i64 (1 - ak)) ∧ ∃ k, w' = w.drewN k := by
  have h0 := h.blk.cell 0
  have h1 := h.blk.cell 1
  simp at h0 h1
  go_enter Try.func25, Try.ntmps25
  go_wp2
  go_quiet (fail)
  go_wp2
  go_ret
  exact ⟨rfl, _, rfl⟩
set_option maxHeartbeats 4000000 in
theorem Front_one (g u c : Nat) (sd : Bool) (dl du : Int) (w : World) (h : One w g u c 0 sd dl du) :
    Calls Try.prog 87 #[.pointer (some ⟨g, 0, none⟩)] w fun e w' => e = .returned (.tuple #[.agg #[.int .i64 1, .int .i64 2], .bool true]) ∧ Below w.heap.size w w' := by
  have a0 : ∀ o, (w.alloc o).cell? ⟨g, 0, none⟩ = some (.slice (some ⟨u, 0, none⟩) 1 c) := fun o => (h.alloc o).blk.cell 0
  have a1 : ∀ o, (w.alloc o).cell? ⟨g, 1, none⟩ = some (.int .i64 0) := fun o => (h.alloc o).blk.cell 1
  have a2 : ∀ o, (w.alloc o).cell? ⟨u, 0, none⟩ = some (.int .i64 1) := fun o => (h.alloc o).n
  have a3 : ∀ o, (w.alloc o).cell? ⟨u, 1, none⟩ = some (.int .i64 2) := fun o => (h.alloc o).s
  go_enter Try.func87, Try.ntmps87
  go_wp2_with (go_at_call 25; refine (Pending_one _ _ _ _ _ _ _ _ (h.alloc _) (by decide)).mono ?_; rintro e w' ⟨rfl, kd, rfl⟩)
  go_region
  go_wp2
  refine bodyPost_ret (ret_cell2 rfl rfl ((((Blk.new w 27 #[.int .i64 0, .int .i64 0]).drewN _).set_ 0 _).set_ 1 _) Try.underlying27 rfl (by kernel_rfl)) rfl ?_
  exact ⟨rfl, by repeat (first | exact Below.refl _ _ | refine Below.drew ?_ | refine below_drewN ?_ _ | refine Below.alloc ?_ (by first | exact Nat.le_refl _ | (simp; done) | (simp; omega)) _ | refine Below.setCell ?_ (by first | exact Nat.le_refl _ | (simp; done) | (simp; omega)) _)⟩
set_option maxHeartbeats 4000000 in
theorem Say_one (g u c : Nat) (dl du now first draw : Int) (w : World) (h : One w g u c 0 false dl du) (hd : draw ≤ 9223372036854775807) :
    Calls Try.prog 19 #[.pointer (some ⟨g, 0, none⟩), .int .i64 now, .int .i64 first, .int .i64 draw] w fun e w' => e = .returned (.tuple #[.agg #[.int .i64 1, .int .i64 2], .bool true]) ∧ One w' g u c 0 true first (dueI now first draw) ∧ w.grownBy w' (some g) := by
  go_enter Try.func19, Try.ntmps19
  go_wp2_with fail
  refine (Front_one _ _ _ _ _ _ _ (h.alloc _)).mono ?_
  rintro e w1 ⟨rfl, hb1⟩
  have h1 := (h.alloc _).below hb1
  have hr := (Blk.new w 27 #[.int .i64 0, .int .i64 0]).below hb1 (by simp)
  have g2 : ∀ o, (w1.alloc o).cell? ⟨g, 2, none⟩ = some (.bool false) := fun o => (h1.alloc o).blk.cell 2
  have g3 : ∀ o, (w1.alloc o).cell? ⟨g, 3, none⟩ = some (.int .i64 dl) := fun o => (h1.alloc o).blk.cell 3
  have g4 : ∀ o, (w1.alloc o).cell? ⟨g, 4, none⟩ = some (.int .i64 du) := fun o => (h1.alloc o).blk.cell 4
  have f2 : ∀ o, (w1.alloc o).frozen? ⟨g, 2, none⟩ = false := fun o => (h1.alloc o).blk.frozen 2
  have f3 : ∀ o, (w1.alloc o).frozen? ⟨g, 3, none⟩ = false := fun o => (h1.alloc o).blk.frozen 3
  have f4 : ∀ o, (w1.alloc o).frozen? ⟨g, 4, none⟩ = false := fun o => (h1.alloc o).blk.frozen 4
  have r0 : ∀ o, (w1.alloc o).cell? ⟨w.heap.size, 0, none⟩ = some (.int .i64 0) := fun o => (hr.alloc o).cell 0
  have r1 : ∀ o, (w1.alloc o).cell? ⟨w.heap.size, 1, none⟩ = some (.int .i64 0) := fun o => (hr.alloc o).cell 1
  have q0 : ∀ o, (w1.alloc o).frozen? ⟨w.heap.size, 0, none⟩ = false := fun o => (hr.alloc o).frozen 0
  have q1 : ∀ o, (w1.alloc o).frozen? ⟨w.heap.size, 1, none⟩ = false := fun o => (hr.alloc o).frozen 1
  have hgl : g ≠ w.heap.size := by have := h.blk.lt; omega
  go_wp2_with (go_at_call 86; refine (Due_any _ _ _ _ hd).mono ?_; rintro e w' ⟨rfl, rfl⟩)
  have hul : u ≠ w.heap.size := by have := h.lt; omega
  have o1 := (h1.alloc (.cells #[.int .i64 1, .int .i64 2] 27)).stored (sd' := true) 2 (.bool true) ((h1.alloc _).blk.set_ 2 _)
  have o2 := o1.stored (dl' := first) 3 (.int .i64 first) (o1.blk.set_ 3 _)
  have o3 := o2.stored (du' := dueI now first draw) 4 (.int .i64 (dueI now first draw)) (o2.blk.set_ 4 _)
  have o4 := (o3.far (p := ⟨w.heap.size, 0, none⟩) hgl hul (.int .i64 1)).far (p := ⟨w.heap.size, 1, none⟩) hgl hul (.int .i64 2)
  refine bodyPost_ret (ret_cell2 rfl rfl ((((((hr.alloc _).far (fun e => hgl e.symm) _).far (fun e => hgl e.symm) _).far (fun e => hgl e.symm) _).set_ 0 _).set_ 1 _) Try.underlying27 rfl (by kernel_rfl)) rfl ?_
  refine ⟨rfl, o4, ?_⟩
  have b1 := only_of_below (((Below.refl w.heap.size w).alloc (Nat.le_refl _) _).trans (hb1.mono (by simp))) (some g)
  repeat (first | exact b1 | refine only_setCell ?_ (by first | exact .inl rfl | exact .inr (by simp)) _ | refine only_alloc ?_ _ | refine only_drewN ?_ _)
end Go.Proofs.Ytlldpgjifdfogaa
