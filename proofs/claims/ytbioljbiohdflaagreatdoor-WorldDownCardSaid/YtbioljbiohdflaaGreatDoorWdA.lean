/- A configuration out of a setup; a room that may be; a delay where there is room enough: calls that are taken as known. -/
import Derived.Test.YtbioljbiohdflaaGreatDoorNeedT
import Derived.Deep.CutRange
import Derived.Deep.RegionHeld3
import Derived.Deep.DeepCutAuto
import Derived.Deep.CutBlock
import Derived.Lib.Hide
import Derived.StillTailTactics
namespace Go.Proofs.YtbioljbiohdflaaGreatDoor
open Go Go.RowKit Go.ChangeShapes Go.WideShapes Go.ChangeAt
set_option linter.unusedVariables false
set_option maxRecDepth 100000
abbrev i64b (z : Int) : Prop := -9223372036854775808 ≤ z ∧ z ≤ 9223372036854775807
def quotaI (x : Int) : Int := if x.tmod 3 = 2 then 64 + x % 700 else 4096
theorem quotaI_bd (x : Int) : 64 ≤ quotaI x ∧ quotaI x ≤ 4096 := by unfold quotaI; split <;> omega
theorem Delay_one (k q : Int) (hk : 1 ≤ k) (hq : 2 ≤ q) (hq2 : q ≤ 1000000) (w : World) :
    Calls Tryz.prog 90 #[.int .i64 k, .int .i64 1, .int .i64 q] w fun e w' => e = .returned (.int .i64 k) ∧ w = w' := by
  have k1 : ¬ k < 1 := by omega
  have k2 : ¬ q < 1 := by omega
  have k3 : (1 : Int) ≤ q.tdiv 2 := by rw [Int.tdiv_eq_ediv_of_nonneg (by omega)]; omega
  have k4 : IntKind.i64.wrap (q.tdiv 2) = q.tdiv 2 := by rw [Int.tdiv_eq_ediv_of_nonneg (by omega), IntKind.wrap_i64]; omega
  go_enter Tryz.func90, Tryz.ntmps90
  go_wp2_with fail
  go_ret
  exact ⟨rfl, rfl⟩
abbrev stC (s0 s1 s2 s3 s4 s5 s6 s7 : Int) : Array Value := #[.int .i64 s0, .int .i64 s1, .int .i64 s2, .int .i64 s3, .int .i64 s4, .int .i64 s5, .int .i64 s6, .int .i64 s7]
abbrev SetS (g : Nat) (s0 s1 s2 s3 s4 s5 s6 s7 : Int) (w wa : World) : Prop :=
  wa.cell? ⟨g, 0, none⟩ = some (.int .i64 s0) ∧ wa.cell? ⟨g, 1, none⟩ = some (.int .i64 s1) ∧ wa.cell? ⟨g, 2, none⟩ = some (.int .i64 s2) ∧ wa.cell? ⟨g, 3, none⟩ = some (.int .i64 s3) ∧ wa.cell? ⟨g, 4, none⟩ = some (.int .i64 s4) ∧ wa.cell? ⟨g, 5, none⟩ = some (.int .i64 s5) ∧ wa.cell? ⟨g, 6, none⟩ = some (.int .i64 s6) ∧ wa.cell? ⟨g, 7, none⟩ = some (.int .i64 s7) ∧ Blk wa g 23 (stC s0 s1 s2 s3 s4 s5 s6 s7) ∧ Below w.heap.size w wa
theorem setS_mk {g : Nat} {s0 s1 s2 s3 s4 s5 s6 s7 : Int} {w wa : World} (h : Blk wa g 23 (stC s0 s1 s2 s3 s4 s5 s6 s7)) (hb : Below w.heap.size w wa) : SetS g s0 s1 s2 s3 s4 s5 s6 s7 w wa :=
  ⟨h.cell 0, h.cell 1, h.cell 2, h.cell 3, h.cell 4, h.cell 5, h.cell 6, h.cell 7, h, hb⟩
theorem setS_drew {g : Nat} {s0 s1 s2 s3 s4 s5 s6 s7 : Int} {w wa : World} (h : SetS g s0 s1 s2 s3 s4 s5 s6 s7 w wa) : SetS g s0 s1 s2 s3 s4 s5 s6 s7 w wa.drew := by
  obtain ⟨-, -, -, -, -, -, -, -, h, hb⟩ := h
  exact setS_mk h.drew hb.drew
theorem setS_alloc {g : Nat} {s0 s1 s2 s3 s4 s5 s6 s7 : Int} {w wa : World} (h : SetS g s0 s1 s2 s3 s4 s5 s6 s7 w wa) (o : Obj) : SetS g s0 s1 s2 s3 s4 s5 s6 s7 w (wa.alloc o) := by
  obtain ⟨-, -, -, -, -, -, -, -, h, hb⟩ := h
  exact setS_mk (h.alloc o) (hb.alloc hb.size o)
theorem setS_allocd {g : Nat} {s0 s1 s2 s3 s4 s5 s6 s7 : Int} {w wa : World} (h : SetS g s0 s1 s2 s3 s4 s5 s6 s7 w wa.drew) (o : Obj) : SetS g s0 s1 s2 s3 s4 s5 s6 s7 w (wa.alloc o).drew := setS_alloc h o
theorem setS_set {g G : Nat} {s0 s1 s2 s3 s4 s5 s6 s7 : Int} {w wa : World} (h : SetS g s0 s1 s2 s3 s4 s5 s6 s7 w wa) (hg : Hid (w.heap.size ≤ G ∧ g ≠ G)) (i : Nat) (v : Value) : SetS g s0 s1 s2 s3 s4 s5 s6 s7 w (wa.setCell ⟨G, i, none⟩ v) := by
  obtain ⟨-, -, -, -, -, -, -, -, h, hb⟩ := h
  exact setS_mk (h.far hg.out.2 v) (hb.setCell hg.out.1 v)
theorem results_cell1 {fn : Func} {p : Tmp} {ty : TypeId} (h : fn.results = #[.cell p ty]) (tmps : Array Value) (P : Program) (w : World) :
    (results fn tmps).run P w = ((asAddr (tmps.getD p undef)).run P w).andThen fun a w₁ => (loadVar ty a).run P w₁ := by
  simp only [results, h]
  simp [Sem.run_bind, Result.andThen]
theorem ret_cell1 {P : Program} {fn : Func} {p : Tmp} {ty : TypeId} {tmps : Array Value} {w : World} {g : Nat} {t : TypeId} {cs : Array Value} {d : TypeDesc} (h : fn.results = #[.cell p ty]) (ht : tmps.getD p undef = .pointer (some ⟨g, 0, none⟩)) (hb : Blk w g t cs)
    (hu : P.underlying ty = some d) (hd : (match d with | .struct _ | .array _ _ => true | _ => false) = true) (hi : (P.info? ty).map (·.size) = some cs.size) : (results fn tmps).run P w = .ok (.agg cs) w := by
  rw [results_cell1 h, ht]
  simp only [asAddr, Sem.run_pure, Result.andThen_ok]
  exact Go.run_loadVar_row w g t ty cs _ d hb hu hd hi
attribute [local go_sem] run_store_complex
set_option maxHeartbeats 200000000 in
theorem Config_any (s0 s1 s2 s3 s4 s5 s6 s7 : Int) (b0 : i64b s0) (b1 : i64b s1) (b2 : i64b s2) (b3 : i64b s3) (b4 : i64b s4) (b5 : i64b s5) (b6 : i64b s6) (b7 : i64b s7) (w : World) :
    Calls Tryz.prog 4 #[.agg (stC s0 s1 s2 s3 s4 s5 s6 s7)] w fun e w' => e = .returned (.agg #[.complex .f64 (floatOfInt .f64 (2 + s0 % 12)) (floatOfInt .f64 (2 + s1 % 12)), .int .i64 (1 + s2 % 6), .int .i64 (1 + s3 % 6), .int .i64 (1 + s4 % 8), .int .i64 (1 + s5 % 4), .int .i64 (1 + s6 % 9), .int .i64 (quotaI s7)]) ∧ Below w.heap.size w w' := by
  have hW := fun (x n : Int) (hx : i64b x) (hn : 1 ≤ n ∧ n ≤ 9223372036854775807) (wz : World) => Within_any x n wz hx.1 hx.2 hn.1 hn.2
  go_enter Tryz.func4, Tryz.ntmps4
  go_upto_region 2 with fail
  have hb1 := Blk.new w 23 (stC s0 s1 s2 s3 s4 s5 s6 s7)
  have hb2 := hb1.alloc (.cells #[.complex .f64 0 0, .int .i64 0, .int .i64 0, .int .i64 0, .int .i64 0, .int .i64 0, .int .i64 0] 26)
  have hS := setS_mk hb2 ((Below.refl _ _).alloc (Nat.le_refl _) _ |>.alloc (by simp) _)
  obtain ⟨w2, ew2⟩ : ∃ x, x = (w.alloc (.cells (stC s0 s1 s2 s3 s4 s5 s6 s7) 23)).alloc (.cells #[.complex .f64 0 0, .int .i64 0, .int .i64 0, .int .i64 0, .int .i64 0, .int .i64 0, .int .i64 0] 26) := ⟨_, rfl⟩
  have hs2 : w2.heap.size = w.heap.size + 1 + 1 := by rw [ew2]; simp
  rw [← ew2] at hS ⊢
  rw [← ew2] at hb2
  have HS2 := Lib.hid hs2
  obtain ⟨g, eg⟩ : ∃ x, x = w.heap.size := ⟨_, rfl⟩
  clear hb1
  rw [← eg] at hS hb2 hs2 ⊢
  have HG := Lib.hid eg
  have HE2 := Lib.hid ew2
  have hgr : SetS g s0 s1 s2 s3 s4 s5 s6 s7 w w2 := hS
  have HF : Hid (w.heap.size ≤ w2.heap.size ∧ g ≠ w2.heap.size) := Lib.hid ⟨by omega, by omega⟩
  clear ew2 hs2 eg
  have hr2 : Blk w2 (g + 1) 26 #[.complex .f64 0 0, .int .i64 0, .int .i64 0, .int .i64 0, .int .i64 0, .int .i64 0, .int .i64 0] := by rw [HE2.out, HG.out]; exact (by simpa using Blk.new (w.alloc (.cells (stC s0 s1 s2 s3 s4 s5 s6 s7) 23)) 26 #[.complex .f64 0 0, .int .i64 0, .int .i64 0, .int .i64 0, .int .i64 0, .int .i64 0, .int .i64 0])
  have HR2 := Lib.hid hr2
  clear hr2
  go_cut [4] from 5 to 43 (fun v4 wx => Hid (∃ w7, v4 = .pointer (some ⟨w2.heap.size, 0, none⟩) ∧ Blk wx w2.heap.size 26 #[(.complex .f64 (floatOfInt .f64 (IntKind.i64.wrap (2 + s0 % 12))) (floatOfInt .f64 (IntKind.i64.wrap (2 + s1 % 12)))), (.int .i64 (IntKind.i64.wrap (1 + s2 % 6))), (.int .i64 (IntKind.i64.wrap (1 + s3 % 6))), (.int .i64 (IntKind.i64.wrap (1 + s4 % 8))), (.int .i64 (IntKind.i64.wrap (1 + s5 % 4))), (.int .i64 (IntKind.i64.wrap (1 + s6 % 9))), (.int .i64 4096)] ∧ Blk wx (g + 1) 26 #[.complex .f64 0 0, .int .i64 0, .int .i64 0, .int .i64 0, .int .i64 0, .int .i64 0, .int .i64 0] ∧ SetS g s0 s1 s2 s3 s4 s5 s6 s7 w wx ∧ w7 = wx))
  case first =>
    obtain ⟨wd, ewd⟩ : ∃ x, x = w2.drew := ⟨_, rfl⟩
    have hsd : w2.heap.size = wd.heap.size := by rw [ewd]; rfl
    have H0 : SetS g s0 s1 s2 s3 s4 s5 s6 s7 w wd := by rw [ewd]; exact setS_drew hgr
    have hz : Blk (wd.alloc (.cells #[.complex .f64 0 0, .int .i64 0, .int .i64 0, .int .i64 0, .int .i64 0, .int .i64 0, .int .i64 0] 26)) wd.heap.size 26 #[.complex .f64 0 0, .int .i64 0, .int .i64 0, .int .i64 0, .int .i64 0, .int .i64 0, .int .i64 0] := Blk.new wd _ _
    have HRd : Blk wd (g + 1) 26 #[.complex .f64 0 0, .int .i64 0, .int .i64 0, .int .i64 0, .int .i64 0, .int .i64 0, .int .i64 0] := by rw [ewd]; exact HR2.out.drew
    have z0 := hz.cell 0
    have y0 := hz.frozen 0
    have z1 := hz.cell 1
    have y1 := hz.frozen 1
    have z2 := hz.cell 2
    have y2 := hz.frozen 2
    have z3 := hz.cell 3
    have y3 := hz.frozen 3
    have z4 := hz.cell 4
    have y4 := hz.frozen 4
    have z5 := hz.cell 5
    have y5 := hz.frozen 5
    have z6 := hz.cell 6
    have y6 := hz.frozen 6
    have hW0 := fun wz => hW s0 12 b0 (by decide) wz
    have hW1 := fun wz => hW s1 12 b1 (by decide) wz
    have hW2 := fun wz => hW s2 6 b2 (by decide) wz
    have hW3 := fun wz => hW s3 6 b3 (by decide) wz
    have hW4 := fun wz => hW s4 8 b4 (by decide) wz
    have hW5 := fun wz => hW s5 4 b5 (by decide) wz
    have hW6 := fun wz => hW s6 9 b6 (by decide) wz
    clear hW hS hb2 hgr
    refine wp_region_noPanic ?_
    refine wp_region_held_drew (S := (fun wa => wa.cell? ⟨g, 0, none⟩ = some (.int .i64 s0) ∧ wa.cell? ⟨g, 1, none⟩ = some (.int .i64 s1) ∧ wa.cell? ⟨g, 2, none⟩ = some (.int .i64 s2) ∧ wa.cell? ⟨g, 3, none⟩ = some (.int .i64 s3) ∧ wa.cell? ⟨g, 4, none⟩ = some (.int .i64 s4) ∧ wa.cell? ⟨g, 5, none⟩ = some (.int .i64 s5) ∧ wa.cell? ⟨g, 6, none⟩ = some (.int .i64 s6) ∧ wa.cell? ⟨g, 7, none⟩ = some (.int .i64 s7) ∧ Blk wa g 23 (stC s0 s1 s2 s3 s4 s5 s6 s7) ∧ Below w.heap.size w wa)) (by kernel_rfl) (by rw [← ewd]; exact H0) (fun _ => ?_)
    rw [← ewd]
    clear ewd
    refine wpAnyH_take (i := 0) (oi := ?oi1) (v := ?v1) ?hi1 (by kernel_rfl) (by kernel_rfl) (by kernel_rfl) (fun _ _ _ h => h) ?hy1 H0 ?rest1
    case hi1 => (simp only [List.getElem?_toArray, List.getElem?_cons_zero]; try rfl)
    case hy1 => (refine Or.inl ⟨by rfl, ?_⟩; intro w hSw; go_simp; (try with_reducible rfl))
    try simp only [Act.put, List.setIfInBounds_toArray, List.set_cons_zero, List.set_cons_succ]
    refine wpAnyH_take (i := 1) (oi := ?oi2) (v := ?v2) ?hi2 (by kernel_rfl) (by kernel_rfl) (by kernel_rfl) (fun _ _ _ h => h) ?hy2 H0 ?rest2
    case hi2 => (simp only [List.getElem?_toArray, List.getElem?_cons_succ, List.getElem?_cons_zero]; try rfl)
    case hy2 => (refine Or.inl ⟨by rfl, ?_⟩; intro w hSw; go_simp; (try with_reducible rfl))
    try simp only [Act.put, List.setIfInBounds_toArray, List.set_cons_zero, List.set_cons_succ]
    refine wpAnyH_take (i := 2) (oi := ?oi3) (v := ?v3) ?hi3 (by kernel_rfl) (by kernel_rfl) (by kernel_rfl) (fun _ _ _ h => h) ?hy3 H0 ?rest3
    case hi3 => (simp only [List.getElem?_toArray, List.getElem?_cons_succ, List.getElem?_cons_zero]; try rfl)
    case hy3 => (refine Or.inl ⟨by rfl, ?_⟩; intro w hSw; have q := hSw.1; (try dsimp only at q); go_simp; (try with_reducible rfl))
    try simp only [Act.put, List.setIfInBounds_toArray, List.set_cons_zero, List.set_cons_succ]
    refine wpAnyH_take (i := 6) (oi := ?oi4) (v := ?v4) ?hi4 (by kernel_rfl) (by kernel_rfl) (by kernel_rfl) (fun _ _ _ h => h) ?hy4 H0 ?rest4
    case hi4 => (simp only [List.getElem?_toArray, List.getElem?_cons_succ, List.getElem?_cons_zero]; try rfl)
    case hy4 => (refine Or.inl ⟨by rfl, ?_⟩; intro w hSw; go_simp; (try with_reducible rfl))
    try simp only [Act.put, List.setIfInBounds_toArray, List.set_cons_zero, List.set_cons_succ]
    refine wpAnyH_take (i := 7) (oi := ?oi5) (v := ?v5) ?hi5 (by kernel_rfl) (by kernel_rfl) (by kernel_rfl) (fun _ _ _ h => h) ?hy5 H0 ?rest5
    case hi5 => (simp only [List.getElem?_toArray, List.getElem?_cons_succ, List.getElem?_cons_zero]; try rfl)
    case hy5 => (refine Or.inl ⟨by rfl, ?_⟩; intro w hSw; go_simp; (try with_reducible rfl))
    try simp only [Act.put, List.setIfInBounds_toArray, List.set_cons_zero, List.set_cons_succ]
    refine wpAnyH_take (i := 8) (oi := ?oi6) (v := ?v6) ?hi6 (by kernel_rfl) (by kernel_rfl) (by kernel_rfl) (fun _ _ _ h => h) ?hy6 H0 ?rest6
    case hi6 => (simp only [List.getElem?_toArray, List.getElem?_cons_succ, List.getElem?_cons_zero]; try rfl)
    case hy6 => (refine Or.inl ⟨by rfl, ?_⟩; intro w hSw; have q := hSw.2.1; (try dsimp only at q); go_simp; (try with_reducible rfl))
    try simp only [Act.put, List.setIfInBounds_toArray, List.set_cons_zero, List.set_cons_succ]
    refine wpAnyH_take (i := 13) (oi := ?oi7) (v := ?v7) ?hi7 (by kernel_rfl) (by kernel_rfl) (by kernel_rfl) (fun _ _ _ h => h) ?hy7 H0 ?rest7
    case hi7 => (simp only [List.getElem?_toArray, List.getElem?_cons_succ, List.getElem?_cons_zero]; try rfl)
    case hy7 => (refine Or.inl ⟨by rfl, ?_⟩; intro w hSw; go_simp; (try with_reducible rfl))
    try simp only [Act.put, List.setIfInBounds_toArray, List.set_cons_zero, List.set_cons_succ]
    refine wpAnyH_take (i := 14) (oi := ?oi8) (v := ?v8) ?hi8 (by kernel_rfl) (by kernel_rfl) (by kernel_rfl) (fun _ _ _ h => h) ?hy8 H0 ?rest8
    case hi8 => (simp only [List.getElem?_toArray, List.getElem?_cons_succ, List.getElem?_cons_zero]; try rfl)
    case hy8 => (refine Or.inl ⟨by rfl, ?_⟩; intro w hSw; go_simp; (try with_reducible rfl))
    try simp only [Act.put, List.setIfInBounds_toArray, List.set_cons_zero, List.set_cons_succ]
    refine wpAnyH_take (i := 15) (oi := ?oi9) (v := ?v9) ?hi9 (by kernel_rfl) (by kernel_rfl) (by kernel_rfl) (fun _ _ _ h => h) ?hy9 H0 ?rest9
    case hi9 => (simp only [List.getElem?_toArray, List.getElem?_cons_succ, List.getElem?_cons_zero]; try rfl)
    case hy9 => (refine Or.inl ⟨by rfl, ?_⟩; intro w hSw; have q := hSw.2.2.1; (try dsimp only at q); go_simp; (try with_reducible rfl))
    try simp only [Act.put, List.setIfInBounds_toArray, List.set_cons_zero, List.set_cons_succ]
    refine wpAnyH_take (i := 18) (oi := ?oi10) (v := ?v10) ?hi10 (by kernel_rfl) (by kernel_rfl) (by kernel_rfl) (fun _ _ _ h => h) ?hy10 H0 ?rest10
    case hi10 => (simp only [List.getElem?_toArray, List.getElem?_cons_succ, List.getElem?_cons_zero]; try rfl)
    case hy10 => (refine Or.inl ⟨by rfl, ?_⟩; intro w hSw; go_simp; (try with_reducible rfl))
    try simp only [Act.put, List.setIfInBounds_toArray, List.set_cons_zero, List.set_cons_succ]
    refine wpAnyH_take (i := 19) (oi := ?oi11) (v := ?v11) ?hi11 (by kernel_rfl) (by kernel_rfl) (by kernel_rfl) (fun _ _ _ h => h) ?hy11 H0 ?rest11
    case hi11 => (simp only [List.getElem?_toArray, List.getElem?_cons_succ, List.getElem?_cons_zero]; try rfl)
    case hy11 => (refine Or.inl ⟨by rfl, ?_⟩; intro w hSw; go_simp; (try with_reducible rfl))
    try simp only [Act.put, List.setIfInBounds_toArray, List.set_cons_zero, List.set_cons_succ]
    refine wpAnyH_take (i := 20) (oi := ?oi12) (v := ?v12) ?hi12 (by kernel_rfl) (by kernel_rfl) (by kernel_rfl) (fun _ _ _ h => h) ?hy12 H0 ?rest12
    case hi12 => (simp only [List.getElem?_toArray, List.getElem?_cons_succ, List.getElem?_cons_zero]; try rfl)
    case hy12 => (refine Or.inl ⟨by rfl, ?_⟩; intro w hSw; have q := hSw.2.2.2.1; (try dsimp only at q); go_simp; (try with_reducible rfl))
    try simp only [Act.put, List.setIfInBounds_toArray, List.set_cons_zero, List.set_cons_succ]
    refine wpAnyH_take (i := 23) (oi := ?oi13) (v := ?v13) ?hi13 (by kernel_rfl) (by kernel_rfl) (by kernel_rfl) (fun _ _ _ h => h) ?hy13 H0 ?rest13
    case hi13 => (simp only [List.getElem?_toArray, List.getElem?_cons_succ, List.getElem?_cons_zero]; try rfl)
    case hy13 => (refine Or.inl ⟨by rfl, ?_⟩; intro w hSw; go_simp; (try with_reducible rfl))
    try simp only [Act.put, List.setIfInBounds_toArray, List.set_cons_zero, List.set_cons_succ]
    refine wpAnyH_take (i := 24) (oi := ?oi14) (v := ?v14) ?hi14 (by kernel_rfl) (by kernel_rfl) (by kernel_rfl) (fun _ _ _ h => h) ?hy14 H0 ?rest14
    case hi14 => (simp only [List.getElem?_toArray, List.getElem?_cons_succ, List.getElem?_cons_zero]; try rfl)
    case hy14 => (refine Or.inl ⟨by rfl, ?_⟩; intro w hSw; go_simp; (try with_reducible rfl))
    try simp only [Act.put, List.setIfInBounds_toArray, List.set_cons_zero, List.set_cons_succ]
    refine wpAnyH_take (i := 25) (oi := ?oi15) (v := ?v15) ?hi15 (by kernel_rfl) (by kernel_rfl) (by kernel_rfl) (fun _ _ _ h => h) ?hy15 H0 ?rest15
    case hi15 => (simp only [List.getElem?_toArray, List.getElem?_cons_succ, List.getElem?_cons_zero]; try rfl)
    case hy15 => (refine Or.inl ⟨by rfl, ?_⟩; intro w hSw; have q := hSw.2.2.2.2.1; (try dsimp only at q); go_simp; (try with_reducible rfl))
    try simp only [Act.put, List.setIfInBounds_toArray, List.set_cons_zero, List.set_cons_succ]
    refine wpAnyH_take (i := 28) (oi := ?oi16) (v := ?v16) ?hi16 (by kernel_rfl) (by kernel_rfl) (by kernel_rfl) (fun _ _ _ h => h) ?hy16 H0 ?rest16
    case hi16 => (simp only [List.getElem?_toArray, List.getElem?_cons_succ, List.getElem?_cons_zero]; try rfl)
    case hy16 => (refine Or.inl ⟨by rfl, ?_⟩; intro w hSw; go_simp; (try with_reducible rfl))
    try simp only [Act.put, List.setIfInBounds_toArray, List.set_cons_zero, List.set_cons_succ]
    refine wpAnyH_take (i := 29) (oi := ?oi17) (v := ?v17) ?hi17 (by kernel_rfl) (by kernel_rfl) (by kernel_rfl) (fun _ _ _ h => h) ?hy17 H0 ?rest17
    case hi17 => (simp only [List.getElem?_toArray, List.getElem?_cons_succ, List.getElem?_cons_zero]; try rfl)
    case hy17 => (refine Or.inl ⟨by rfl, ?_⟩; intro w hSw; go_simp; (try with_reducible rfl))
    try simp only [Act.put, List.setIfInBounds_toArray, List.set_cons_zero, List.set_cons_succ]
    refine wpAnyH_take (i := 30) (oi := ?oi18) (v := ?v18) ?hi18 (by kernel_rfl) (by kernel_rfl) (by kernel_rfl) (fun _ _ _ h => h) ?hy18 H0 ?rest18
    case hi18 => (simp only [List.getElem?_toArray, List.getElem?_cons_succ, List.getElem?_cons_zero]; try rfl)
    case hy18 => (refine Or.inl ⟨by rfl, ?_⟩; intro w hSw; have q := hSw.2.2.2.2.2.1; (try dsimp only at q); go_simp; (try with_reducible rfl))
    try simp only [Act.put, List.setIfInBounds_toArray, List.set_cons_zero, List.set_cons_succ]
    refine wpAnyH_take (i := 33) (oi := ?oi19) (v := ?v19) ?hi19 (by kernel_rfl) (by kernel_rfl) (by kernel_rfl) (fun _ _ _ h => h) ?hy19 H0 ?rest19
    case hi19 => (simp only [List.getElem?_toArray, List.getElem?_cons_succ, List.getElem?_cons_zero]; try rfl)
    case hy19 => (refine Or.inl ⟨by rfl, ?_⟩; intro w hSw; go_simp; (try with_reducible rfl))
    try simp only [Act.put, List.setIfInBounds_toArray, List.set_cons_zero, List.set_cons_succ]
    refine wpAnyH_take (i := 34) (oi := ?oi20) (v := ?v20) ?hi20 (by kernel_rfl) (by kernel_rfl) (by kernel_rfl) (fun _ _ _ h => h) ?hy20 H0 ?rest20
    case hi20 => (simp only [List.getElem?_toArray, List.getElem?_cons_succ, List.getElem?_cons_zero]; try rfl)
    case hy20 => (refine Or.inl ⟨by rfl, ?_⟩; intro w hSw; go_simp; (try with_reducible rfl))
    try simp only [Act.put, List.setIfInBounds_toArray, List.set_cons_zero, List.set_cons_succ]
    refine wpAnyH_take (i := 35) (oi := ?oi21) (v := ?v21) ?hi21 (by kernel_rfl) (by kernel_rfl) (by kernel_rfl) (fun _ _ _ h => h) ?hy21 H0 ?rest21
    case hi21 => (simp only [List.getElem?_toArray, List.getElem?_cons_succ, List.getElem?_cons_zero]; try rfl)
    case hy21 => (refine Or.inl ⟨by rfl, ?_⟩; intro w hSw; have q := hSw.2.2.2.2.2.2.1; (try dsimp only at q); go_simp; (try with_reducible rfl))
    try simp only [Act.put, List.setIfInBounds_toArray, List.set_cons_zero, List.set_cons_succ]
    refine wpAnyH_ready (rs := [3, 39]) (by kernel_rfl) (by simp) ?_
    refine AllReadyH.cons (o := ?o22) ?hi22 (fun K hK => ?st22) ?mo22
    case hi22 => (simp only [List.getElem?_toArray, List.getElem?_cons_succ, List.getElem?_cons_zero]; try rfl)
    case st22 =>
      go_simp
      go_at_call 6
      refine (hW0 wd).mono ?_
      rintro e wz ⟨rfl, rfl⟩
      try dsimp only
      refine hK.out _ _ H0 (fun _ => ?rs22)
      clear hK K
      try simp only [Act.put, List.setIfInBounds_toArray, List.set_cons_zero, List.set_cons_succ]
      refine wpAnyH_take (i := 4) (oi := ?oi23) (v := ?v23) ?hi23 (by kernel_rfl) (by kernel_rfl) (by kernel_rfl) (fun _ _ _ h => h) ?hy23 H0 ?rest23
      case hi23 => (simp only [List.getElem?_toArray, List.getElem?_cons_succ, List.getElem?_cons_zero]; try rfl)
      case hy23 => (refine Or.inl ⟨by rfl, ?_⟩; intro w hSw; go_simp; (try with_reducible rfl))
      try simp only [Act.put, List.setIfInBounds_toArray, List.set_cons_zero, List.set_cons_succ]
      refine wpAnyH_take (i := 5) (oi := ?oi24) (v := ?v24) ?hi24 (by kernel_rfl) (by kernel_rfl) (by kernel_rfl) (fun _ _ _ h => h) ?hy24 H0 ?rest24
      case hi24 => (simp only [List.getElem?_toArray, List.getElem?_cons_succ, List.getElem?_cons_zero]; try rfl)
      case hy24 => (refine Or.inl ⟨by rfl, ?_⟩; intro w hSw; go_simp; (try with_reducible rfl))
      try simp only [Act.put, List.setIfInBounds_toArray, List.set_cons_zero, List.set_cons_succ]
      refine wpAnyH_ready (rs := [9, 39]) (by kernel_rfl) (by simp) ?_
      refine AllReadyH.cons (o := ?o25) ?hi25 (fun K hK => ?st25) ?mo25
      case hi25 => (simp only [List.getElem?_toArray, List.getElem?_cons_succ, List.getElem?_cons_zero]; try rfl)
      case st25 =>
        go_simp
        go_at_call 6
        refine (hW1 wd).mono ?_
        rintro e wz ⟨rfl, rfl⟩
        try dsimp only
        refine hK.out _ _ H0 (fun _ => ?rs25)
        clear hK K
        try simp only [Act.put, List.setIfInBounds_toArray, List.set_cons_zero, List.set_cons_succ]
        refine wpAnyH_take (i := 10) (oi := ?oi26) (v := ?v26) ?hi26 (by kernel_rfl) (by kernel_rfl) (by kernel_rfl) (fun _ _ _ h => h) ?hy26 H0 ?rest26
        case hi26 => (simp only [List.getElem?_toArray, List.getElem?_cons_succ, List.getElem?_cons_zero]; try rfl)
        case hy26 => (refine Or.inl ⟨by rfl, ?_⟩; intro w hSw; go_simp; (try with_reducible rfl))
        try simp only [Act.put, List.setIfInBounds_toArray, List.set_cons_zero, List.set_cons_succ]
        refine wpAnyH_take (i := 11) (oi := ?oi27) (v := ?v27) ?hi27 (by kernel_rfl) (by kernel_rfl) (by kernel_rfl) (fun _ _ _ h => h) ?hy27 H0 ?rest27
        case hi27 => (simp only [List.getElem?_toArray, List.getElem?_cons_succ, List.getElem?_cons_zero]; try rfl)
        case hy27 => (refine Or.inl ⟨by rfl, ?_⟩; intro w hSw; go_simp; (try with_reducible rfl))
        try simp only [Act.put, List.setIfInBounds_toArray, List.set_cons_zero, List.set_cons_succ]
        refine wpAnyH_take (i := 12) (oi := ?oi28) (v := ?v28) ?hi28 (by kernel_rfl) (by kernel_rfl) (by kernel_rfl) (fun _ _ _ h => h) ?hy28 H0 ?rest28
        case hi28 => (simp only [List.getElem?_toArray, List.getElem?_cons_succ, List.getElem?_cons_zero]; try rfl)
        case hy28 => (refine Or.inl ⟨by rfl, ?_⟩; intro w hSw; go_simp; (try with_reducible rfl))
        try simp only [Act.put, List.setIfInBounds_toArray, List.set_cons_zero, List.set_cons_succ]
        refine wpAnyH_ready (rs := [16, 39]) (by kernel_rfl) (by simp) ?_
        refine AllReadyH.cons (o := ?o29) ?hi29 (fun K hK => ?st29) ?mo29
        case hi29 => (simp only [List.getElem?_toArray, List.getElem?_cons_succ, List.getElem?_cons_zero]; try rfl)
        case st29 =>
          go_simp
          go_at_call 6
          refine (hW2 wd).mono ?_
          rintro e wz ⟨rfl, rfl⟩
          try dsimp only
          refine hK.out _ _ H0 (fun _ => ?rs29)
          clear hK K
          try simp only [Act.put, List.setIfInBounds_toArray, List.set_cons_zero, List.set_cons_succ]
          refine wpAnyH_take (i := 17) (oi := ?oi30) (v := ?v30) ?hi30 (by kernel_rfl) (by kernel_rfl) (by kernel_rfl) (fun _ _ _ h => h) ?hy30 H0 ?rest30
          case hi30 => (simp only [List.getElem?_toArray, List.getElem?_cons_succ, List.getElem?_cons_zero]; try rfl)
          case hy30 => (refine Or.inl ⟨by rfl, ?_⟩; intro w hSw; go_simp; (try with_reducible rfl))
          try simp only [Act.put, List.setIfInBounds_toArray, List.set_cons_zero, List.set_cons_succ]
          refine wpAnyH_ready (rs := [21, 39]) (by kernel_rfl) (by simp) ?_
          refine AllReadyH.cons (o := ?o31) ?hi31 (fun K hK => ?st31) ?mo31
          case hi31 => (simp only [List.getElem?_toArray, List.getElem?_cons_succ, List.getElem?_cons_zero]; try rfl)
          case st31 =>
            go_simp
            go_at_call 6
            refine (hW3 wd).mono ?_
            rintro e wz ⟨rfl, rfl⟩
            try dsimp only
            refine hK.out _ _ H0 (fun _ => ?rs31)
            clear hK K
            try simp only [Act.put, List.setIfInBounds_toArray, List.set_cons_zero, List.set_cons_succ]
            refine wpAnyH_take (i := 22) (oi := ?oi32) (v := ?v32) ?hi32 (by kernel_rfl) (by kernel_rfl) (by kernel_rfl) (fun _ _ _ h => h) ?hy32 H0 ?rest32
            case hi32 => (simp only [List.getElem?_toArray, List.getElem?_cons_succ, List.getElem?_cons_zero]; try rfl)
            case hy32 => (refine Or.inl ⟨by rfl, ?_⟩; intro w hSw; go_simp; (try with_reducible rfl))
            try simp only [Act.put, List.setIfInBounds_toArray, List.set_cons_zero, List.set_cons_succ]
            refine wpAnyH_ready (rs := [26, 39]) (by kernel_rfl) (by simp) ?_
            refine AllReadyH.cons (o := ?o33) ?hi33 (fun K hK => ?st33) ?mo33
            case hi33 => (simp only [List.getElem?_toArray, List.getElem?_cons_succ, List.getElem?_cons_zero]; try rfl)
            case st33 =>
              go_simp
              go_at_call 6
              refine (hW4 wd).mono ?_
              rintro e wz ⟨rfl, rfl⟩
              try dsimp only
              refine hK.out _ _ H0 (fun _ => ?rs33)
              clear hK K
              try simp only [Act.put, List.setIfInBounds_toArray, List.set_cons_zero, List.set_cons_succ]
              refine wpAnyH_take (i := 27) (oi := ?oi34) (v := ?v34) ?hi34 (by kernel_rfl) (by kernel_rfl) (by kernel_rfl) (fun _ _ _ h => h) ?hy34 H0 ?rest34
              case hi34 => (simp only [List.getElem?_toArray, List.getElem?_cons_succ, List.getElem?_cons_zero]; try rfl)
              case hy34 => (refine Or.inl ⟨by rfl, ?_⟩; intro w hSw; go_simp; (try with_reducible rfl))
              try simp only [Act.put, List.setIfInBounds_toArray, List.set_cons_zero, List.set_cons_succ]
              refine wpAnyH_ready (rs := [31, 39]) (by kernel_rfl) (by simp) ?_
              refine AllReadyH.cons (o := ?o35) ?hi35 (fun K hK => ?st35) ?mo35
              case hi35 => (simp only [List.getElem?_toArray, List.getElem?_cons_succ, List.getElem?_cons_zero]; try rfl)
              case st35 =>
                go_simp
                go_at_call 6
                refine (hW5 wd).mono ?_
                rintro e wz ⟨rfl, rfl⟩
                try dsimp only
                refine hK.out _ _ H0 (fun _ => ?rs35)
                clear hK K
                try simp only [Act.put, List.setIfInBounds_toArray, List.set_cons_zero, List.set_cons_succ]
                refine wpAnyH_take (i := 32) (oi := ?oi36) (v := ?v36) ?hi36 (by kernel_rfl) (by kernel_rfl) (by kernel_rfl) (fun _ _ _ h => h) ?hy36 H0 ?rest36
                case hi36 => (simp only [List.getElem?_toArray, List.getElem?_cons_succ, List.getElem?_cons_zero]; try rfl)
                case hy36 => (refine Or.inl ⟨by rfl, ?_⟩; intro w hSw; go_simp; (try with_reducible rfl))
                try simp only [Act.put, List.setIfInBounds_toArray, List.set_cons_zero, List.set_cons_succ]
                refine wpAnyH_ready (rs := [36, 39]) (by kernel_rfl) (by simp) ?_
                refine AllReadyH.cons (o := ?o37) ?hi37 (fun K hK => ?st37) ?mo37
                case hi37 => (simp only [List.getElem?_toArray, List.getElem?_cons_succ, List.getElem?_cons_zero]; try rfl)
                case st37 =>
                  go_simp
                  go_at_call 6
                  refine (hW6 wd).mono ?_
                  rintro e wz ⟨rfl, rfl⟩
                  try dsimp only
                  refine hK.out _ _ H0 (fun _ => ?rs37)
                  clear hK K
                  try simp only [Act.put, List.setIfInBounds_toArray, List.set_cons_zero, List.set_cons_succ]
                  refine wpAnyH_take (i := 37) (oi := ?oi38) (v := ?v38) ?hi38 (by kernel_rfl) (by kernel_rfl) (by kernel_rfl) (fun _ _ _ h => h) ?hy38 H0 ?rest38
                  case hi38 => (simp only [List.getElem?_toArray, List.getElem?_cons_succ, List.getElem?_cons_zero]; try rfl)
                  case hy38 => (refine Or.inl ⟨by rfl, ?_⟩; intro w hSw; go_simp; (try with_reducible rfl))
                  try simp only [Act.put, List.setIfInBounds_toArray, List.set_cons_zero, List.set_cons_succ]
                  refine wpAnyH_take (i := 38) (oi := ?oi39) (v := ?v39) ?hi39 (by kernel_rfl) (by kernel_rfl) (by kernel_rfl) (fun _ _ _ h => h) ?hy39 H0 ?rest39
                  case hi39 => (simp only [List.getElem?_toArray, List.getElem?_cons_succ, List.getElem?_cons_zero]; try rfl)
                  case hy39 => (refine Or.inl ⟨by rfl, ?_⟩; intro w hSw; go_simp; (try with_reducible rfl))
                  try simp only [Act.put, List.setIfInBounds_toArray, List.set_cons_zero, List.set_cons_succ]
                  refine wpAnyH_ready (rs := [39]) (by kernel_rfl) (by simp) ?_
                  refine AllReadyH.cons (o := ?o40) ?hi40 (fun K hK => ?st40) ?mo40
                  case hi40 => (simp only [List.getElem?_toArray, List.getElem?_cons_succ, List.getElem?_cons_zero]; try rfl)
                  case st40 =>
                    go_simp
                    refine hK.out _ _ (setS_alloc H0 _) (fun _ => ?rs40)
                    clear hK K
                    try simp only [Act.put, List.setIfInBounds_toArray, List.set_cons_zero, List.set_cons_succ]
                    refine wpAnyH_ready (rs := [40]) (by kernel_rfl) (by simp) ?_
                    refine AllReadyH.cons (o := ?o41) ?hi41 (fun K hK => ?st41) ?mo41
                    case hi41 => (simp only [List.getElem?_toArray, List.getElem?_cons_succ, List.getElem?_cons_zero]; try rfl)
                    case st41 =>
                      go_simp
                      refine hK.out _ _ (setS_alloc H0 _) (fun hHeld => ?rs41)
                      clear hK K
                      try simp only [Act.put, List.setIfInBounds_toArray, List.set_cons_zero, List.set_cons_succ]
                      refine wpAnyH_done (by kernel_rfl) ?_ _
                      refine NoPanic.normal ?_
                      go_wp2_with fail
                      go_meet
                      exact Lib.hid ⟨_, by rw [hsd], by rw [hsd]; exact Blk.new wd _ _, HRd.alloc _, hHeld, rfl⟩
                    exact AllReadyH.nil
                  exact AllReadyH.nil
                refine AllReadyH.cons (o := ?o42) ?hi42 (fun K hK => ?st42) ?mo42
                case hi42 => (simp only [List.getElem?_toArray, List.getElem?_cons_succ, List.getElem?_cons_zero]; try rfl)
                case st42 =>
                  go_simp
                  refine hK.out _ _ (setS_alloc H0 _) (fun _ => ?rs42)
                  clear hK K
                  try simp only [Act.put, List.setIfInBounds_toArray, List.set_cons_zero, List.set_cons_succ]
                  refine wpAnyH_ready (rs := [36]) (by kernel_rfl) (by simp) ?_
                  refine AllReadyH.cons (o := ?o43) ?hi43 (fun K hK => ?st43) ?mo43
                  case hi43 => (simp only [List.getElem?_toArray, List.getElem?_cons_succ, List.getElem?_cons_zero]; try rfl)
                  case st43 =>
                    go_simp
                    go_at_call 6
                    refine (hW6 _).mono ?_
                    rintro e wz ⟨rfl, rfl⟩
                    try dsimp only
                    refine hK.out _ _ (setS_alloc H0 _) (fun _ => ?rs43)
                    clear hK K
                    try simp only [Act.put, List.setIfInBounds_toArray, List.set_cons_zero, List.set_cons_succ]
                    refine wpAnyH_take (i := 37) (oi := ?oi44) (v := ?v44) ?hi44 (by kernel_rfl) (by kernel_rfl) (by kernel_rfl) (fun _ _ _ h => h) ?hy44 (setS_alloc H0 _) ?rest44
                    case hi44 => (simp only [List.getElem?_toArray, List.getElem?_cons_succ, List.getElem?_cons_zero]; try rfl)
                    case hy44 => (refine Or.inl ⟨by rfl, ?_⟩; intro w hSw; go_simp; (try with_reducible rfl))
                    try simp only [Act.put, List.setIfInBounds_toArray, List.set_cons_zero, List.set_cons_succ]
                    refine wpAnyH_take (i := 38) (oi := ?oi45) (v := ?v45) ?hi45 (by kernel_rfl) (by kernel_rfl) (by kernel_rfl) (fun _ _ _ h => h) ?hy45 (setS_alloc H0 _) ?rest45
                    case hi45 => (simp only [List.getElem?_toArray, List.getElem?_cons_succ, List.getElem?_cons_zero]; try rfl)
                    case hy45 => (refine Or.inl ⟨by rfl, ?_⟩; intro w hSw; go_simp; (try with_reducible rfl))
                    try simp only [Act.put, List.setIfInBounds_toArray, List.set_cons_zero, List.set_cons_succ]
                    refine wpAnyH_ready (rs := [40]) (by kernel_rfl) (by simp) ?_
                    refine AllReadyH.cons (o := ?o46) ?hi46 (fun K hK => ?st46) ?mo46
                    case hi46 => (simp only [List.getElem?_toArray, List.getElem?_cons_succ, List.getElem?_cons_zero]; try rfl)
                    case st46 =>
                      go_simp
                      refine hK.out _ _ (setS_alloc H0 _) (fun hHeld => ?rs46)
                      clear hK K
                      try simp only [Act.put, List.setIfInBounds_toArray, List.set_cons_zero, List.set_cons_succ]
                      refine wpAnyH_done (by kernel_rfl) ?_ _
                      refine NoPanic.normal ?_
                      go_wp2_with fail
                      go_meet
                      exact Lib.hid ⟨_, by rw [hsd], by rw [hsd]; exact Blk.new wd _ _, HRd.alloc _, hHeld, rfl⟩
                    exact AllReadyH.nil
                  exact AllReadyH.nil
                exact AllReadyH.nil
              refine AllReadyH.cons (o := ?o47) ?hi47 (fun K hK => ?st47) ?mo47
              case hi47 => (simp only [List.getElem?_toArray, List.getElem?_cons_succ, List.getElem?_cons_zero]; try rfl)
              case st47 =>
                go_simp
                refine hK.out _ _ (setS_alloc H0 _) (fun _ => ?rs47)
                clear hK K
                try simp only [Act.put, List.setIfInBounds_toArray, List.set_cons_zero, List.set_cons_succ]
                refine wpAnyH_ready (rs := [31]) (by kernel_rfl) (by simp) ?_
                refine AllReadyH.cons (o := ?o48) ?hi48 (fun K hK => ?st48) ?mo48
                case hi48 => (simp only [List.getElem?_toArray, List.getElem?_cons_succ, List.getElem?_cons_zero]; try rfl)
                case st48 =>
                  go_simp
                  go_at_call 6
                  refine (hW5 _).mono ?_
                  rintro e wz ⟨rfl, rfl⟩
                  try dsimp only
                  refine hK.out _ _ (setS_alloc H0 _) (fun _ => ?rs48)
                  clear hK K
                  try simp only [Act.put, List.setIfInBounds_toArray, List.set_cons_zero, List.set_cons_succ]
                  refine wpAnyH_take (i := 32) (oi := ?oi49) (v := ?v49) ?hi49 (by kernel_rfl) (by kernel_rfl) (by kernel_rfl) (fun _ _ _ h => h) ?hy49 (setS_alloc H0 _) ?rest49
                  case hi49 => (simp only [List.getElem?_toArray, List.getElem?_cons_succ, List.getElem?_cons_zero]; try rfl)
                  case hy49 => (refine Or.inl ⟨by rfl, ?_⟩; intro w hSw; go_simp; (try with_reducible rfl))
                  try simp only [Act.put, List.setIfInBounds_toArray, List.set_cons_zero, List.set_cons_succ]
                  refine wpAnyH_ready (rs := [36]) (by kernel_rfl) (by simp) ?_
                  refine AllReadyH.cons (o := ?o50) ?hi50 (fun K hK => ?st50) ?mo50
                  case hi50 => (simp only [List.getElem?_toArray, List.getElem?_cons_succ, List.getElem?_cons_zero]; try rfl)
                  case st50 =>
                    go_simp
                    go_at_call 6
                    refine (hW6 _).mono ?_
                    rintro e wz ⟨rfl, rfl⟩
                    try dsimp only
                    refine hK.out _ _ (setS_alloc H0 _) (fun _ => ?rs50)
                    clear hK K
                    try simp only [Act.put, List.setIfInBounds_toArray, List.set_cons_zero, List.set_cons_succ]
                    refine wpAnyH_take (i := 37) (oi := ?oi51) (v := ?v51) ?hi51 (by kernel_rfl) (by kernel_rfl) (by kernel_rfl) (fun _ _ _ h => h) ?hy51 (setS_alloc H0 _) ?rest51
                    case hi51 => (simp only [List.getElem?_toArray, List.getElem?_cons_succ, List.getElem?_cons_zero]; try rfl)
                    case hy51 => (refine Or.inl ⟨by rfl, ?_⟩; intro w hSw; go_simp; (try with_reducible rfl))
                    try simp only [Act.put, List.setIfInBounds_toArray, List.set_cons_zero, List.set_cons_succ]
                    refine wpAnyH_take (i := 38) (oi := ?oi52) (v := ?v52) ?hi52 (by kernel_rfl) (by kernel_rfl) (by kernel_rfl) (fun _ _ _ h => h) ?hy52 (setS_alloc H0 _) ?rest52
                    case hi52 => (simp only [List.getElem?_toArray, List.getElem?_cons_succ, List.getElem?_cons_zero]; try rfl)
                    case hy52 => (refine Or.inl ⟨by rfl, ?_⟩; intro w hSw; go_simp; (try with_reducible rfl))
                    try simp only [Act.put, List.setIfInBounds_toArray, List.set_cons_zero, List.set_cons_succ]
                    refine wpAnyH_ready (rs := [40]) (by kernel_rfl) (by simp) ?_
                    refine AllReadyH.cons (o := ?o53) ?hi53 (fun K hK => ?st53) ?mo53
                    case hi53 => (simp only [List.getElem?_toArray, List.getElem?_cons_succ, List.getElem?_cons_zero]; try rfl)
                    case st53 =>
                      go_simp
                      refine hK.out _ _ (setS_alloc H0 _) (fun hHeld => ?rs53)
                      clear hK K
                      try simp only [Act.put, List.setIfInBounds_toArray, List.set_cons_zero, List.set_cons_succ]
                      refine wpAnyH_done (by kernel_rfl) ?_ _
                      refine NoPanic.normal ?_
                      go_wp2_with fail
                      go_meet
                      exact Lib.hid ⟨_, by rw [hsd], by rw [hsd]; exact Blk.new wd _ _, HRd.alloc _, hHeld, rfl⟩
                    exact AllReadyH.nil
                  exact AllReadyH.nil
                exact AllReadyH.nil
              exact AllReadyH.nil
            refine AllReadyH.cons (o := ?o54) ?hi54 (fun K hK => ?st54) ?mo54
            case hi54 => (simp only [List.getElem?_toArray, List.getElem?_cons_succ, List.getElem?_cons_zero]; try rfl)
            case st54 =>
              go_simp
              refine hK.out _ _ (setS_alloc H0 _) (fun _ => ?rs54)
              clear hK K
              try simp only [Act.put, List.setIfInBounds_toArray, List.set_cons_zero, List.set_cons_succ]
              refine wpAnyH_ready (rs := [26]) (by kernel_rfl) (by simp) ?_
              refine AllReadyH.cons (o := ?o55) ?hi55 (fun K hK => ?st55) ?mo55
              case hi55 => (simp only [List.getElem?_toArray, List.getElem?_cons_succ, List.getElem?_cons_zero]; try rfl)
              case st55 =>
                go_simp
                go_at_call 6
                refine (hW4 _).mono ?_
                rintro e wz ⟨rfl, rfl⟩
                try dsimp only
                refine hK.out _ _ (setS_alloc H0 _) (fun _ => ?rs55)
                clear hK K
                try simp only [Act.put, List.setIfInBounds_toArray, List.set_cons_zero, List.set_cons_succ]
                refine wpAnyH_take (i := 27) (oi := ?oi56) (v := ?v56) ?hi56 (by kernel_rfl) (by kernel_rfl) (by kernel_rfl) (fun _ _ _ h => h) ?hy56 (setS_alloc H0 _) ?rest56
                case hi56 => (simp only [List.getElem?_toArray, List.getElem?_cons_succ, List.getElem?_cons_zero]; try rfl)
                case hy56 => (refine Or.inl ⟨by rfl, ?_⟩; intro w hSw; go_simp; (try with_reducible rfl))
                try simp only [Act.put, List.setIfInBounds_toArray, List.set_cons_zero, List.set_cons_succ]
                refine wpAnyH_ready (rs := [31]) (by kernel_rfl) (by simp) ?_
                refine AllReadyH.cons (o := ?o57) ?hi57 (fun K hK => ?st57) ?mo57
                case hi57 => (simp only [List.getElem?_toArray, List.getElem?_cons_succ, List.getElem?_cons_zero]; try rfl)
                case st57 =>
                  go_simp
                  go_at_call 6
                  refine (hW5 _).mono ?_
                  rintro e wz ⟨rfl, rfl⟩
                  try dsimp only
                  refine hK.out _ _ (setS_alloc H0 _) (fun _ => ?rs57)
                  clear hK K
                  try simp only [Act.put, List.setIfInBounds_toArray, List.set_cons_zero, List.set_cons_succ]
                  refine wpAnyH_take (i := 32) (oi := ?oi58) (v := ?v58) ?hi58 (by kernel_rfl) (by kernel_rfl) (by kernel_rfl) (fun _ _ _ h => h) ?hy58 (setS_alloc H0 _) ?rest58
                  case hi58 => (simp only [List.getElem?_toArray, List.getElem?_cons_succ, List.getElem?_cons_zero]; try rfl)
                  case hy58 => (refine Or.inl ⟨by rfl, ?_⟩; intro w hSw; go_simp; (try with_reducible rfl))
                  try simp only [Act.put, List.setIfInBounds_toArray, List.set_cons_zero, List.set_cons_succ]
                  refine wpAnyH_ready (rs := [36]) (by kernel_rfl) (by simp) ?_
                  refine AllReadyH.cons (o := ?o59) ?hi59 (fun K hK => ?st59) ?mo59
                  case hi59 => (simp only [List.getElem?_toArray, List.getElem?_cons_succ, List.getElem?_cons_zero]; try rfl)
                  case st59 =>
                    go_simp
                    go_at_call 6
                    refine (hW6 _).mono ?_
                    rintro e wz ⟨rfl, rfl⟩
                    try dsimp only
                    refine hK.out _ _ (setS_alloc H0 _) (fun _ => ?rs59)
                    clear hK K
                    try simp only [Act.put, List.setIfInBounds_toArray, List.set_cons_zero, List.set_cons_succ]
                    refine wpAnyH_take (i := 37) (oi := ?oi60) (v := ?v60) ?hi60 (by kernel_rfl) (by kernel_rfl) (by kernel_rfl) (fun _ _ _ h => h) ?hy60 (setS_alloc H0 _) ?rest60
                    case hi60 => (simp only [List.getElem?_toArray, List.getElem?_cons_succ, List.getElem?_cons_zero]; try rfl)
                    case hy60 => (refine Or.inl ⟨by rfl, ?_⟩; intro w hSw; go_simp; (try with_reducible rfl))
                    try simp only [Act.put, List.setIfInBounds_toArray, List.set_cons_zero, List.set_cons_succ]
                    refine wpAnyH_take (i := 38) (oi := ?oi61) (v := ?v61) ?hi61 (by kernel_rfl) (by kernel_rfl) (by kernel_rfl) (fun _ _ _ h => h) ?hy61 (setS_alloc H0 _) ?rest61
                    case hi61 => (simp only [List.getElem?_toArray, List.getElem?_cons_succ, List.getElem?_cons_zero]; try rfl)
                    case hy61 => (refine Or.inl ⟨by rfl, ?_⟩; intro w hSw; go_simp; (try with_reducible rfl))
                    try simp only [Act.put, List.setIfInBounds_toArray, List.set_cons_zero, List.set_cons_succ]
                    refine wpAnyH_ready (rs := [40]) (by kernel_rfl) (by simp) ?_
                    refine AllReadyH.cons (o := ?o62) ?hi62 (fun K hK => ?st62) ?mo62
                    case hi62 => (simp only [List.getElem?_toArray, List.getElem?_cons_succ, List.getElem?_cons_zero]; try rfl)
                    case st62 =>
                      go_simp
                      refine hK.out _ _ (setS_alloc H0 _) (fun hHeld => ?rs62)
                      clear hK K
                      try simp only [Act.put, List.setIfInBounds_toArray, List.set_cons_zero, List.set_cons_succ]
                      refine wpAnyH_done (by kernel_rfl) ?_ _
                      refine NoPanic.normal ?_
                      go_wp2_with fail
                      go_meet
                      exact Lib.hid ⟨_, by rw [hsd], by rw [hsd]; exact Blk.new wd _ _, HRd.alloc _, hHeld, rfl⟩
                    exact AllReadyH.nil
                  exact AllReadyH.nil
                exact AllReadyH.nil
              exact AllReadyH.nil
            exact AllReadyH.nil
          refine AllReadyH.cons (o := ?o63) ?hi63 (fun K hK => ?st63) ?mo63
          case hi63 => (simp only [List.getElem?_toArray, List.getElem?_cons_succ, List.getElem?_cons_zero]; try rfl)
          case st63 =>
            go_simp
            refine hK.out _ _ (setS_alloc H0 _) (fun _ => ?rs63)
            clear hK K
            try simp only [Act.put, List.setIfInBounds_toArray, List.set_cons_zero, List.set_cons_succ]
            refine wpAnyH_ready (rs := [21]) (by kernel_rfl) (by simp) ?_
            refine AllReadyH.cons (o := ?o64) ?hi64 (fun K hK => ?st64) ?mo64
            case hi64 => (simp only [List.getElem?_toArray, List.getElem?_cons_succ, List.getElem?_cons_zero]; try rfl)
            case st64 =>
              go_simp
              go_at_call 6
              refine (hW3 _).mono ?_
              rintro e wz ⟨rfl, rfl⟩
              try dsimp only
              refine hK.out _ _ (setS_alloc H0 _) (fun _ => ?rs64)
              clear hK K
              try simp only [Act.put, List.setIfInBounds_toArray, List.set_cons_zero, List.set_cons_succ]
              refine wpAnyH_take (i := 22) (oi := ?oi65) (v := ?v65) ?hi65 (by kernel_rfl) (by kernel_rfl) (by kernel_rfl) (fun _ _ _ h => h) ?hy65 (setS_alloc H0 _) ?rest65
              case hi65 => (simp only [List.getElem?_toArray, List.getElem?_cons_succ, List.getElem?_cons_zero]; try rfl)
              case hy65 => (refine Or.inl ⟨by rfl, ?_⟩; intro w hSw; go_simp; (try with_reducible rfl))
              try simp only [Act.put, List.setIfInBounds_toArray, List.set_cons_zero, List.set_cons_succ]
              refine wpAnyH_ready (rs := [26]) (by kernel_rfl) (by simp) ?_
              refine AllReadyH.cons (o := ?o66) ?hi66 (fun K hK => ?st66) ?mo66
              case hi66 => (simp only [List.getElem?_toArray, List.getElem?_cons_succ, List.getElem?_cons_zero]; try rfl)
              case st66 =>
                go_simp
                go_at_call 6
                refine (hW4 _).mono ?_
                rintro e wz ⟨rfl, rfl⟩
                try dsimp only
                refine hK.out _ _ (setS_alloc H0 _) (fun _ => ?rs66)
                clear hK K
                try simp only [Act.put, List.setIfInBounds_toArray, List.set_cons_zero, List.set_cons_succ]
                refine wpAnyH_take (i := 27) (oi := ?oi67) (v := ?v67) ?hi67 (by kernel_rfl) (by kernel_rfl) (by kernel_rfl) (fun _ _ _ h => h) ?hy67 (setS_alloc H0 _) ?rest67
                case hi67 => (simp only [List.getElem?_toArray, List.getElem?_cons_succ, List.getElem?_cons_zero]; try rfl)
                case hy67 => (refine Or.inl ⟨by rfl, ?_⟩; intro w hSw; go_simp; (try with_reducible rfl))
                try simp only [Act.put, List.setIfInBounds_toArray, List.set_cons_zero, List.set_cons_succ]
                refine wpAnyH_ready (rs := [31]) (by kernel_rfl) (by simp) ?_
                refine AllReadyH.cons (o := ?o68) ?hi68 (fun K hK => ?st68) ?mo68
                case hi68 => (simp only [List.getElem?_toArray, List.getElem?_cons_succ, List.getElem?_cons_zero]; try rfl)
                case st68 =>
                  go_simp
                  go_at_call 6
                  refine (hW5 _).mono ?_
                  rintro e wz ⟨rfl, rfl⟩
                  try dsimp only
                  refine hK.out _ _ (setS_alloc H0 _) (fun _ => ?rs68)
                  clear hK K
                  try simp only [Act.put, List.setIfInBounds_toArray, List.set_cons_zero, List.set_cons_succ]
                  refine wpAnyH_take (i := 32) (oi := ?oi69) (v := ?v69) ?hi69 (by kernel_rfl) (by kernel_rfl) (by kernel_rfl) (fun _ _ _ h => h) ?hy69 (setS_alloc H0 _) ?rest69
                  case hi69 => (simp only [List.getElem?_toArray, List.getElem?_cons_succ, List.getElem?_cons_zero]; try rfl)
                  case hy69 => (refine Or.inl ⟨by rfl, ?_⟩; intro w hSw; go_simp; (try with_reducible rfl))
                  try simp only [Act.put, List.setIfInBounds_toArray, List.set_cons_zero, List.set_cons_succ]
                  refine wpAnyH_ready (rs := [36]) (by kernel_rfl) (by simp) ?_
                  refine AllReadyH.cons (o := ?o70) ?hi70 (fun K hK => ?st70) ?mo70
                  case hi70 => (simp only [List.getElem?_toArray, List.getElem?_cons_succ, List.getElem?_cons_zero]; try rfl)
                  case st70 =>
                    go_simp
                    go_at_call 6
                    refine (hW6 _).mono ?_
                    rintro e wz ⟨rfl, rfl⟩
                    try dsimp only
                    refine hK.out _ _ (setS_alloc H0 _) (fun _ => ?rs70)
                    clear hK K
                    try simp only [Act.put, List.setIfInBounds_toArray, List.set_cons_zero, List.set_cons_succ]
                    refine wpAnyH_take (i := 37) (oi := ?oi71) (v := ?v71) ?hi71 (by kernel_rfl) (by kernel_rfl) (by kernel_rfl) (fun _ _ _ h => h) ?hy71 (setS_alloc H0 _) ?rest71
                    case hi71 => (simp only [List.getElem?_toArray, List.getElem?_cons_succ, List.getElem?_cons_zero]; try rfl)
                    case hy71 => (refine Or.inl ⟨by rfl, ?_⟩; intro w hSw; go_simp; (try with_reducible rfl))
                    try simp only [Act.put, List.setIfInBounds_toArray, List.set_cons_zero, List.set_cons_succ]
                    refine wpAnyH_take (i := 38) (oi := ?oi72) (v := ?v72) ?hi72 (by kernel_rfl) (by kernel_rfl) (by kernel_rfl) (fun _ _ _ h => h) ?hy72 (setS_alloc H0 _) ?rest72
                    case hi72 => (simp only [List.getElem?_toArray, List.getElem?_cons_succ, List.getElem?_cons_zero]; try rfl)
                    case hy72 => (refine Or.inl ⟨by rfl, ?_⟩; intro w hSw; go_simp; (try with_reducible rfl))
                    try simp only [Act.put, List.setIfInBounds_toArray, List.set_cons_zero, List.set_cons_succ]
                    refine wpAnyH_ready (rs := [40]) (by kernel_rfl) (by simp) ?_
                    refine AllReadyH.cons (o := ?o73) ?hi73 (fun K hK => ?st73) ?mo73
                    case hi73 => (simp only [List.getElem?_toArray, List.getElem?_cons_succ, List.getElem?_cons_zero]; try rfl)
                    case st73 =>
                      go_simp
                      refine hK.out _ _ (setS_alloc H0 _) (fun hHeld => ?rs73)
                      clear hK K
                      try simp only [Act.put, List.setIfInBounds_toArray, List.set_cons_zero, List.set_cons_succ]
                      refine wpAnyH_done (by kernel_rfl) ?_ _
                      refine NoPanic.normal ?_
                      go_wp2_with fail
                      go_meet
                      exact Lib.hid ⟨_, by rw [hsd], by rw [hsd]; exact Blk.new wd _ _, HRd.alloc _, hHeld, rfl⟩
                    exact AllReadyH.nil
                  exact AllReadyH.nil
                exact AllReadyH.nil
              exact AllReadyH.nil
            exact AllReadyH.nil
          exact AllReadyH.nil
        refine AllReadyH.cons (o := ?o74) ?hi74 (fun K hK => ?st74) ?mo74
        case hi74 => (simp only [List.getElem?_toArray, List.getElem?_cons_succ, List.getElem?_cons_zero]; try rfl)
        case st74 =>
          go_simp
          refine hK.out _ _ (setS_alloc H0 _) (fun _ => ?rs74)
          clear hK K
          try simp only [Act.put, List.setIfInBounds_toArray, List.set_cons_zero, List.set_cons_succ]
          refine wpAnyH_ready (rs := [16]) (by kernel_rfl) (by simp) ?_
          refine AllReadyH.cons (o := ?o75) ?hi75 (fun K hK => ?st75) ?mo75
          case hi75 => (simp only [List.getElem?_toArray, List.getElem?_cons_succ, List.getElem?_cons_zero]; try rfl)
          case st75 =>
            go_simp
            go_at_call 6
            refine (hW2 _).mono ?_
            rintro e wz ⟨rfl, rfl⟩
            try dsimp only
            refine hK.out _ _ (setS_alloc H0 _) (fun _ => ?rs75)
            clear hK K
            try simp only [Act.put, List.setIfInBounds_toArray, List.set_cons_zero, List.set_cons_succ]
            refine wpAnyH_take (i := 17) (oi := ?oi76) (v := ?v76) ?hi76 (by kernel_rfl) (by kernel_rfl) (by kernel_rfl) (fun _ _ _ h => h) ?hy76 (setS_alloc H0 _) ?rest76
            case hi76 => (simp only [List.getElem?_toArray, List.getElem?_cons_succ, List.getElem?_cons_zero]; try rfl)
            case hy76 => (refine Or.inl ⟨by rfl, ?_⟩; intro w hSw; go_simp; (try with_reducible rfl))
            try simp only [Act.put, List.setIfInBounds_toArray, List.set_cons_zero, List.set_cons_succ]
            refine wpAnyH_ready (rs := [21]) (by kernel_rfl) (by simp) ?_
            refine AllReadyH.cons (o := ?o77) ?hi77 (fun K hK => ?st77) ?mo77
            case hi77 => (simp only [List.getElem?_toArray, List.getElem?_cons_succ, List.getElem?_cons_zero]; try rfl)
            case st77 =>
              go_simp
              go_at_call 6
              refine (hW3 _).mono ?_
              rintro e wz ⟨rfl, rfl⟩
              try dsimp only
              refine hK.out _ _ (setS_alloc H0 _) (fun _ => ?rs77)
              clear hK K
              try simp only [Act.put, List.setIfInBounds_toArray, List.set_cons_zero, List.set_cons_succ]
              refine wpAnyH_take (i := 22) (oi := ?oi78) (v := ?v78) ?hi78 (by kernel_rfl) (by kernel_rfl) (by kernel_rfl) (fun _ _ _ h => h) ?hy78 (setS_alloc H0 _) ?rest78
              case hi78 => (simp only [List.getElem?_toArray, List.getElem?_cons_succ, List.getElem?_cons_zero]; try rfl)
              case hy78 => (refine Or.inl ⟨by rfl, ?_⟩; intro w hSw; go_simp; (try with_reducible rfl))
              try simp only [Act.put, List.setIfInBounds_toArray, List.set_cons_zero, List.set_cons_succ]
              refine wpAnyH_ready (rs := [26]) (by kernel_rfl) (by simp) ?_
              refine AllReadyH.cons (o := ?o79) ?hi79 (fun K hK => ?st79) ?mo79
              case hi79 => (simp only [List.getElem?_toArray, List.getElem?_cons_succ, List.getElem?_cons_zero]; try rfl)
              case st79 =>
                go_simp
                go_at_call 6
                refine (hW4 _).mono ?_
                rintro e wz ⟨rfl, rfl⟩
                try dsimp only
                refine hK.out _ _ (setS_alloc H0 _) (fun _ => ?rs79)
                clear hK K
                try simp only [Act.put, List.setIfInBounds_toArray, List.set_cons_zero, List.set_cons_succ]
                refine wpAnyH_take (i := 27) (oi := ?oi80) (v := ?v80) ?hi80 (by kernel_rfl) (by kernel_rfl) (by kernel_rfl) (fun _ _ _ h => h) ?hy80 (setS_alloc H0 _) ?rest80
                case hi80 => (simp only [List.getElem?_toArray, List.getElem?_cons_succ, List.getElem?_cons_zero]; try rfl)
                case hy80 => (refine Or.inl ⟨by rfl, ?_⟩; intro w hSw; go_simp; (try with_reducible rfl))
                try simp only [Act.put, List.setIfInBounds_toArray, List.set_cons_zero, List.set_cons_succ]
                refine wpAnyH_ready (rs := [31]) (by kernel_rfl) (by simp) ?_
                refine AllReadyH.cons (o := ?o81) ?hi81 (fun K hK => ?st81) ?mo81
                case hi81 => (simp only [List.getElem?_toArray, List.getElem?_cons_succ, List.getElem?_cons_zero]; try rfl)
                case st81 =>
                  go_simp
                  go_at_call 6
                  refine (hW5 _).mono ?_
                  rintro e wz ⟨rfl, rfl⟩
                  try dsimp only
                  refine hK.out _ _ (setS_alloc H0 _) (fun _ => ?rs81)
                  clear hK K
                  try simp only [Act.put, List.setIfInBounds_toArray, List.set_cons_zero, List.set_cons_succ]
                  refine wpAnyH_take (i := 32) (oi := ?oi82) (v := ?v82) ?hi82 (by kernel_rfl) (by kernel_rfl) (by kernel_rfl) (fun _ _ _ h => h) ?hy82 (setS_alloc H0 _) ?rest82
                  case hi82 => (simp only [List.getElem?_toArray, List.getElem?_cons_succ, List.getElem?_cons_zero]; try rfl)
                  case hy82 => (refine Or.inl ⟨by rfl, ?_⟩; intro w hSw; go_simp; (try with_reducible rfl))
                  try simp only [Act.put, List.setIfInBounds_toArray, List.set_cons_zero, List.set_cons_succ]
                  refine wpAnyH_ready (rs := [36]) (by kernel_rfl) (by simp) ?_
                  refine AllReadyH.cons (o := ?o83) ?hi83 (fun K hK => ?st83) ?mo83
                  case hi83 => (simp only [List.getElem?_toArray, List.getElem?_cons_succ, List.getElem?_cons_zero]; try rfl)
                  case st83 =>
                    go_simp
                    go_at_call 6
                    refine (hW6 _).mono ?_
                    rintro e wz ⟨rfl, rfl⟩
                    try dsimp only
                    refine hK.out _ _ (setS_alloc H0 _) (fun _ => ?rs83)
                    clear hK K
                    try simp only [Act.put, List.setIfInBounds_toArray, List.set_cons_zero, List.set_cons_succ]
                    refine wpAnyH_take (i := 37) (oi := ?oi84) (v := ?v84) ?hi84 (by kernel_rfl) (by kernel_rfl) (by kernel_rfl) (fun _ _ _ h => h) ?hy84 (setS_alloc H0 _) ?rest84
                    case hi84 => (simp only [List.getElem?_toArray, List.getElem?_cons_succ, List.getElem?_cons_zero]; try rfl)
                    case hy84 => (refine Or.inl ⟨by rfl, ?_⟩; intro w hSw; go_simp; (try with_reducible rfl))
                    try simp only [Act.put, List.setIfInBounds_toArray, List.set_cons_zero, List.set_cons_succ]
                    refine wpAnyH_take (i := 38) (oi := ?oi85) (v := ?v85) ?hi85 (by kernel_rfl) (by kernel_rfl) (by kernel_rfl) (fun _ _ _ h => h) ?hy85 (setS_alloc H0 _) ?rest85
                    case hi85 => (simp only [List.getElem?_toArray, List.getElem?_cons_succ, List.getElem?_cons_zero]; try rfl)
                    case hy85 => (refine Or.inl ⟨by rfl, ?_⟩; intro w hSw; go_simp; (try with_reducible rfl))
                    try simp only [Act.put, List.setIfInBounds_toArray, List.set_cons_zero, List.set_cons_succ]
                    refine wpAnyH_ready (rs := [40]) (by kernel_rfl) (by simp) ?_
                    refine AllReadyH.cons (o := ?o86) ?hi86 (fun K hK => ?st86) ?mo86
                    case hi86 => (simp only [List.getElem?_toArray, List.getElem?_cons_succ, List.getElem?_cons_zero]; try rfl)
                    case st86 =>
                      go_simp
                      refine hK.out _ _ (setS_alloc H0 _) (fun hHeld => ?rs86)
                      clear hK K
                      try simp only [Act.put, List.setIfInBounds_toArray, List.set_cons_zero, List.set_cons_succ]
                      refine wpAnyH_done (by kernel_rfl) ?_ _
                      refine NoPanic.normal ?_
                      go_wp2_with fail
                      go_meet
                      exact Lib.hid ⟨_, by rw [hsd], by rw [hsd]; exact Blk.new wd _ _, HRd.alloc _, hHeld, rfl⟩
                    exact AllReadyH.nil
                  exact AllReadyH.nil
                exact AllReadyH.nil
              exact AllReadyH.nil
            exact AllReadyH.nil
          exact AllReadyH.nil
        exact AllReadyH.nil
      refine AllReadyH.cons (o := ?o87) ?hi87 (fun K hK => ?st87) ?mo87
      case hi87 => (simp only [List.getElem?_toArray, List.getElem?_cons_succ, List.getElem?_cons_zero]; try rfl)
      case st87 =>
        go_simp
        refine hK.out _ _ (setS_alloc H0 _) (fun _ => ?rs87)
        clear hK K
        try simp only [Act.put, List.setIfInBounds_toArray, List.set_cons_zero, List.set_cons_succ]
        refine wpAnyH_ready (rs := [9]) (by kernel_rfl) (by simp) ?_
        refine AllReadyH.cons (o := ?o88) ?hi88 (fun K hK => ?st88) ?mo88
        case hi88 => (simp only [List.getElem?_toArray, List.getElem?_cons_succ, List.getElem?_cons_zero]; try rfl)
        case st88 =>
          go_simp
          go_at_call 6
          refine (hW1 _).mono ?_
          rintro e wz ⟨rfl, rfl⟩
          try dsimp only
          refine hK.out _ _ (setS_alloc H0 _) (fun _ => ?rs88)
          clear hK K
          try simp only [Act.put, List.setIfInBounds_toArray, List.set_cons_zero, List.set_cons_succ]
          refine wpAnyH_take (i := 10) (oi := ?oi89) (v := ?v89) ?hi89 (by kernel_rfl) (by kernel_rfl) (by kernel_rfl) (fun _ _ _ h => h) ?hy89 (setS_alloc H0 _) ?rest89
          case hi89 => (simp only [List.getElem?_toArray, List.getElem?_cons_succ, List.getElem?_cons_zero]; try rfl)
          case hy89 => (refine Or.inl ⟨by rfl, ?_⟩; intro w hSw; go_simp; (try with_reducible rfl))
          try simp only [Act.put, List.setIfInBounds_toArray, List.set_cons_zero, List.set_cons_succ]
          refine wpAnyH_take (i := 11) (oi := ?oi90) (v := ?v90) ?hi90 (by kernel_rfl) (by kernel_rfl) (by kernel_rfl) (fun _ _ _ h => h) ?hy90 (setS_alloc H0 _) ?rest90
          case hi90 => (simp only [List.getElem?_toArray, List.getElem?_cons_succ, List.getElem?_cons_zero]; try rfl)
          case hy90 => (refine Or.inl ⟨by rfl, ?_⟩; intro w hSw; go_simp; (try with_reducible rfl))
          try simp only [Act.put, List.setIfInBounds_toArray, List.set_cons_zero, List.set_cons_succ]
          refine wpAnyH_take (i := 12) (oi := ?oi91) (v := ?v91) ?hi91 (by kernel_rfl) (by kernel_rfl) (by kernel_rfl) (fun _ _ _ h => h) ?hy91 (setS_alloc H0 _) ?rest91
          case hi91 => (simp only [List.getElem?_toArray, List.getElem?_cons_succ, List.getElem?_cons_zero]; try rfl)
          case hy91 => (refine Or.inl ⟨by rfl, ?_⟩; intro w hSw; go_simp; (try with_reducible rfl))
          try simp only [Act.put, List.setIfInBounds_toArray, List.set_cons_zero, List.set_cons_succ]
          refine wpAnyH_ready (rs := [16]) (by kernel_rfl) (by simp) ?_
          refine AllReadyH.cons (o := ?o92) ?hi92 (fun K hK => ?st92) ?mo92
          case hi92 => (simp only [List.getElem?_toArray, List.getElem?_cons_succ, List.getElem?_cons_zero]; try rfl)
          case st92 =>
            go_simp
            go_at_call 6
            refine (hW2 _).mono ?_
            rintro e wz ⟨rfl, rfl⟩
            try dsimp only
            refine hK.out _ _ (setS_alloc H0 _) (fun _ => ?rs92)
            clear hK K
            try simp only [Act.put, List.setIfInBounds_toArray, List.set_cons_zero, List.set_cons_succ]
            refine wpAnyH_take (i := 17) (oi := ?oi93) (v := ?v93) ?hi93 (by kernel_rfl) (by kernel_rfl) (by kernel_rfl) (fun _ _ _ h => h) ?hy93 (setS_alloc H0 _) ?rest93
            case hi93 => (simp only [List.getElem?_toArray, List.getElem?_cons_succ, List.getElem?_cons_zero]; try rfl)
            case hy93 => (refine Or.inl ⟨by rfl, ?_⟩; intro w hSw; go_simp; (try with_reducible rfl))
            try simp only [Act.put, List.setIfInBounds_toArray, List.set_cons_zero, List.set_cons_succ]
            refine wpAnyH_ready (rs := [21]) (by kernel_rfl) (by simp) ?_
            refine AllReadyH.cons (o := ?o94) ?hi94 (fun K hK => ?st94) ?mo94
            case hi94 => (simp only [List.getElem?_toArray, List.getElem?_cons_succ, List.getElem?_cons_zero]; try rfl)
            case st94 =>
              go_simp
              go_at_call 6
              refine (hW3 _).mono ?_
              rintro e wz ⟨rfl, rfl⟩
              try dsimp only
              refine hK.out _ _ (setS_alloc H0 _) (fun _ => ?rs94)
              clear hK K
              try simp only [Act.put, List.setIfInBounds_toArray, List.set_cons_zero, List.set_cons_succ]
              refine wpAnyH_take (i := 22) (oi := ?oi95) (v := ?v95) ?hi95 (by kernel_rfl) (by kernel_rfl) (by kernel_rfl) (fun _ _ _ h => h) ?hy95 (setS_alloc H0 _) ?rest95
              case hi95 => (simp only [List.getElem?_toArray, List.getElem?_cons_succ, List.getElem?_cons_zero]; try rfl)
              case hy95 => (refine Or.inl ⟨by rfl, ?_⟩; intro w hSw; go_simp; (try with_reducible rfl))
              try simp only [Act.put, List.setIfInBounds_toArray, List.set_cons_zero, List.set_cons_succ]
              refine wpAnyH_ready (rs := [26]) (by kernel_rfl) (by simp) ?_
              refine AllReadyH.cons (o := ?o96) ?hi96 (fun K hK => ?st96) ?mo96
              case hi96 => (simp only [List.getElem?_toArray, List.getElem?_cons_succ, List.getElem?_cons_zero]; try rfl)
              case st96 =>
                go_simp
                go_at_call 6
                refine (hW4 _).mono ?_
                rintro e wz ⟨rfl, rfl⟩
                try dsimp only
                refine hK.out _ _ (setS_alloc H0 _) (fun _ => ?rs96)
                clear hK K
                try simp only [Act.put, List.setIfInBounds_toArray, List.set_cons_zero, List.set_cons_succ]
                refine wpAnyH_take (i := 27) (oi := ?oi97) (v := ?v97) ?hi97 (by kernel_rfl) (by kernel_rfl) (by kernel_rfl) (fun _ _ _ h => h) ?hy97 (setS_alloc H0 _) ?rest97
                case hi97 => (simp only [List.getElem?_toArray, List.getElem?_cons_succ, List.getElem?_cons_zero]; try rfl)
                case hy97 => (refine Or.inl ⟨by rfl, ?_⟩; intro w hSw; go_simp; (try with_reducible rfl))
                try simp only [Act.put, List.setIfInBounds_toArray, List.set_cons_zero, List.set_cons_succ]
                refine wpAnyH_ready (rs := [31]) (by kernel_rfl) (by simp) ?_
                refine AllReadyH.cons (o := ?o98) ?hi98 (fun K hK => ?st98) ?mo98
                case hi98 => (simp only [List.getElem?_toArray, List.getElem?_cons_succ, List.getElem?_cons_zero]; try rfl)
                case st98 =>
                  go_simp
                  go_at_call 6
                  refine (hW5 _).mono ?_
                  rintro e wz ⟨rfl, rfl⟩
                  try dsimp only
                  refine hK.out _ _ (setS_alloc H0 _) (fun _ => ?rs98)
                  clear hK K
                  try simp only [Act.put, List.setIfInBounds_toArray, List.set_cons_zero, List.set_cons_succ]
                  refine wpAnyH_take (i := 32) (oi := ?oi99) (v := ?v99) ?hi99 (by kernel_rfl) (by kernel_rfl) (by kernel_rfl) (fun _ _ _ h => h) ?hy99 (setS_alloc H0 _) ?rest99
                  case hi99 => (simp only [List.getElem?_toArray, List.getElem?_cons_succ, List.getElem?_cons_zero]; try rfl)
                  case hy99 => (refine Or.inl ⟨by rfl, ?_⟩; intro w hSw; go_simp; (try with_reducible rfl))
                  try simp only [Act.put, List.setIfInBounds_toArray, List.set_cons_zero, List.set_cons_succ]
                  refine wpAnyH_ready (rs := [36]) (by kernel_rfl) (by simp) ?_
                  refine AllReadyH.cons (o := ?o100) ?hi100 (fun K hK => ?st100) ?mo100
                  case hi100 => (simp only [List.getElem?_toArray, List.getElem?_cons_succ, List.getElem?_cons_zero]; try rfl)
                  case st100 =>
                    go_simp
                    go_at_call 6
                    refine (hW6 _).mono ?_
                    rintro e wz ⟨rfl, rfl⟩
                    try dsimp only
                    refine hK.out _ _ (setS_alloc H0 _) (fun _ => ?rs100)
                    clear hK K
                    try simp only [Act.put, List.setIfInBounds_toArray, List.set_cons_zero, List.set_cons_succ]
                    refine wpAnyH_take (i := 37) (oi := ?oi101) (v := ?v101) ?hi101 (by kernel_rfl) (by kernel_rfl) (by kernel_rfl) (fun _ _ _ h => h) ?hy101 (setS_alloc H0 _) ?rest101
                    case hi101 => (simp only [List.getElem?_toArray, List.getElem?_cons_succ, List.getElem?_cons_zero]; try rfl)
                    case hy101 => (refine Or.inl ⟨by rfl, ?_⟩; intro w hSw; go_simp; (try with_reducible rfl))
                    try simp only [Act.put, List.setIfInBounds_toArray, List.set_cons_zero, List.set_cons_succ]
                    refine wpAnyH_take (i := 38) (oi := ?oi102) (v := ?v102) ?hi102 (by kernel_rfl) (by kernel_rfl) (by kernel_rfl) (fun _ _ _ h => h) ?hy102 (setS_alloc H0 _) ?rest102
                    case hi102 => (simp only [List.getElem?_toArray, List.getElem?_cons_succ, List.getElem?_cons_zero]; try rfl)
                    case hy102 => (refine Or.inl ⟨by rfl, ?_⟩; intro w hSw; go_simp; (try with_reducible rfl))
                    try simp only [Act.put, List.setIfInBounds_toArray, List.set_cons_zero, List.set_cons_succ]
                    refine wpAnyH_ready (rs := [40]) (by kernel_rfl) (by simp) ?_
                    refine AllReadyH.cons (o := ?o103) ?hi103 (fun K hK => ?st103) ?mo103
                    case hi103 => (simp only [List.getElem?_toArray, List.getElem?_cons_succ, List.getElem?_cons_zero]; try rfl)
                    case st103 =>
                      go_simp
                      refine hK.out _ _ (setS_alloc H0 _) (fun hHeld => ?rs103)
                      clear hK K
                      try simp only [Act.put, List.setIfInBounds_toArray, List.set_cons_zero, List.set_cons_succ]
                      refine wpAnyH_done (by kernel_rfl) ?_ _
                      refine NoPanic.normal ?_
                      go_wp2_with fail
                      go_meet
                      exact Lib.hid ⟨_, by rw [hsd], by rw [hsd]; exact Blk.new wd _ _, HRd.alloc _, hHeld, rfl⟩
                    exact AllReadyH.nil
                  exact AllReadyH.nil
                exact AllReadyH.nil
              exact AllReadyH.nil
            exact AllReadyH.nil
          exact AllReadyH.nil
        exact AllReadyH.nil
      exact AllReadyH.nil
    refine AllReadyH.cons (o := ?o104) ?hi104 (fun K hK => ?st104) ?mo104
    case hi104 => (simp only [List.getElem?_toArray, List.getElem?_cons_succ, List.getElem?_cons_zero]; try rfl)
    case st104 =>
      go_simp
      refine hK.out _ _ (setS_alloc H0 _) (fun _ => ?rs104)
      clear hK K
      try simp only [Act.put, List.setIfInBounds_toArray, List.set_cons_zero, List.set_cons_succ]
      refine wpAnyH_ready (rs := [3]) (by kernel_rfl) (by simp) ?_
      refine AllReadyH.cons (o := ?o105) ?hi105 (fun K hK => ?st105) ?mo105
      case hi105 => (simp only [List.getElem?_toArray, List.getElem?_cons_succ, List.getElem?_cons_zero]; try rfl)
      case st105 =>
        go_simp
        go_at_call 6
        refine (hW0 _).mono ?_
        rintro e wz ⟨rfl, rfl⟩
        try dsimp only
        refine hK.out _ _ (setS_alloc H0 _) (fun _ => ?rs105)
        clear hK K
        try simp only [Act.put, List.setIfInBounds_toArray, List.set_cons_zero, List.set_cons_succ]
        refine wpAnyH_take (i := 4) (oi := ?oi106) (v := ?v106) ?hi106 (by kernel_rfl) (by kernel_rfl) (by kernel_rfl) (fun _ _ _ h => h) ?hy106 (setS_alloc H0 _) ?rest106
        case hi106 => (simp only [List.getElem?_toArray, List.getElem?_cons_succ, List.getElem?_cons_zero]; try rfl)
        case hy106 => (refine Or.inl ⟨by rfl, ?_⟩; intro w hSw; go_simp; (try with_reducible rfl))
        try simp only [Act.put, List.setIfInBounds_toArray, List.set_cons_zero, List.set_cons_succ]
        refine wpAnyH_take (i := 5) (oi := ?oi107) (v := ?v107) ?hi107 (by kernel_rfl) (by kernel_rfl) (by kernel_rfl) (fun _ _ _ h => h) ?hy107 (setS_alloc H0 _) ?rest107
        case hi107 => (simp only [List.getElem?_toArray, List.getElem?_cons_succ, List.getElem?_cons_zero]; try rfl)
        case hy107 => (refine Or.inl ⟨by rfl, ?_⟩; intro w hSw; go_simp; (try with_reducible rfl))
        try simp only [Act.put, List.setIfInBounds_toArray, List.set_cons_zero, List.set_cons_succ]
        refine wpAnyH_ready (rs := [9]) (by kernel_rfl) (by simp) ?_
        refine AllReadyH.cons (o := ?o108) ?hi108 (fun K hK => ?st108) ?mo108
        case hi108 => (simp only [List.getElem?_toArray, List.getElem?_cons_succ, List.getElem?_cons_zero]; try rfl)
        case st108 =>
          go_simp
          go_at_call 6
          refine (hW1 _).mono ?_
          rintro e wz ⟨rfl, rfl⟩
          try dsimp only
          refine hK.out _ _ (setS_alloc H0 _) (fun _ => ?rs108)
          clear hK K
          try simp only [Act.put, List.setIfInBounds_toArray, List.set_cons_zero, List.set_cons_succ]
          refine wpAnyH_take (i := 10) (oi := ?oi109) (v := ?v109) ?hi109 (by kernel_rfl) (by kernel_rfl) (by kernel_rfl) (fun _ _ _ h => h) ?hy109 (setS_alloc H0 _) ?rest109
          case hi109 => (simp only [List.getElem?_toArray, List.getElem?_cons_succ, List.getElem?_cons_zero]; try rfl)
          case hy109 => (refine Or.inl ⟨by rfl, ?_⟩; intro w hSw; go_simp; (try with_reducible rfl))
          try simp only [Act.put, List.setIfInBounds_toArray, List.set_cons_zero, List.set_cons_succ]
          refine wpAnyH_take (i := 11) (oi := ?oi110) (v := ?v110) ?hi110 (by kernel_rfl) (by kernel_rfl) (by kernel_rfl) (fun _ _ _ h => h) ?hy110 (setS_alloc H0 _) ?rest110
          case hi110 => (simp only [List.getElem?_toArray, List.getElem?_cons_succ, List.getElem?_cons_zero]; try rfl)
          case hy110 => (refine Or.inl ⟨by rfl, ?_⟩; intro w hSw; go_simp; (try with_reducible rfl))
          try simp only [Act.put, List.setIfInBounds_toArray, List.set_cons_zero, List.set_cons_succ]
          refine wpAnyH_take (i := 12) (oi := ?oi111) (v := ?v111) ?hi111 (by kernel_rfl) (by kernel_rfl) (by kernel_rfl) (fun _ _ _ h => h) ?hy111 (setS_alloc H0 _) ?rest111
          case hi111 => (simp only [List.getElem?_toArray, List.getElem?_cons_succ, List.getElem?_cons_zero]; try rfl)
          case hy111 => (refine Or.inl ⟨by rfl, ?_⟩; intro w hSw; go_simp; (try with_reducible rfl))
          try simp only [Act.put, List.setIfInBounds_toArray, List.set_cons_zero, List.set_cons_succ]
          refine wpAnyH_ready (rs := [16]) (by kernel_rfl) (by simp) ?_
          refine AllReadyH.cons (o := ?o112) ?hi112 (fun K hK => ?st112) ?mo112
          case hi112 => (simp only [List.getElem?_toArray, List.getElem?_cons_succ, List.getElem?_cons_zero]; try rfl)
          case st112 =>
            go_simp
            go_at_call 6
            refine (hW2 _).mono ?_
            rintro e wz ⟨rfl, rfl⟩
            try dsimp only
            refine hK.out _ _ (setS_alloc H0 _) (fun _ => ?rs112)
            clear hK K
            try simp only [Act.put, List.setIfInBounds_toArray, List.set_cons_zero, List.set_cons_succ]
            refine wpAnyH_take (i := 17) (oi := ?oi113) (v := ?v113) ?hi113 (by kernel_rfl) (by kernel_rfl) (by kernel_rfl) (fun _ _ _ h => h) ?hy113 (setS_alloc H0 _) ?rest113
            case hi113 => (simp only [List.getElem?_toArray, List.getElem?_cons_succ, List.getElem?_cons_zero]; try rfl)
            case hy113 => (refine Or.inl ⟨by rfl, ?_⟩; intro w hSw; go_simp; (try with_reducible rfl))
            try simp only [Act.put, List.setIfInBounds_toArray, List.set_cons_zero, List.set_cons_succ]
            refine wpAnyH_ready (rs := [21]) (by kernel_rfl) (by simp) ?_
            refine AllReadyH.cons (o := ?o114) ?hi114 (fun K hK => ?st114) ?mo114
            case hi114 => (simp only [List.getElem?_toArray, List.getElem?_cons_succ, List.getElem?_cons_zero]; try rfl)
            case st114 =>
              go_simp
              go_at_call 6
              refine (hW3 _).mono ?_
              rintro e wz ⟨rfl, rfl⟩
              try dsimp only
              refine hK.out _ _ (setS_alloc H0 _) (fun _ => ?rs114)
              clear hK K
              try simp only [Act.put, List.setIfInBounds_toArray, List.set_cons_zero, List.set_cons_succ]
              refine wpAnyH_take (i := 22) (oi := ?oi115) (v := ?v115) ?hi115 (by kernel_rfl) (by kernel_rfl) (by kernel_rfl) (fun _ _ _ h => h) ?hy115 (setS_alloc H0 _) ?rest115
              case hi115 => (simp only [List.getElem?_toArray, List.getElem?_cons_succ, List.getElem?_cons_zero]; try rfl)
              case hy115 => (refine Or.inl ⟨by rfl, ?_⟩; intro w hSw; go_simp; (try with_reducible rfl))
              try simp only [Act.put, List.setIfInBounds_toArray, List.set_cons_zero, List.set_cons_succ]
              refine wpAnyH_ready (rs := [26]) (by kernel_rfl) (by simp) ?_
              refine AllReadyH.cons (o := ?o116) ?hi116 (fun K hK => ?st116) ?mo116
              case hi116 => (simp only [List.getElem?_toArray, List.getElem?_cons_succ, List.getElem?_cons_zero]; try rfl)
              case st116 =>
                go_simp
                go_at_call 6
                refine (hW4 _).mono ?_
                rintro e wz ⟨rfl, rfl⟩
                try dsimp only
                refine hK.out _ _ (setS_alloc H0 _) (fun _ => ?rs116)
                clear hK K
                try simp only [Act.put, List.setIfInBounds_toArray, List.set_cons_zero, List.set_cons_succ]
                refine wpAnyH_take (i := 27) (oi := ?oi117) (v := ?v117) ?hi117 (by kernel_rfl) (by kernel_rfl) (by kernel_rfl) (fun _ _ _ h => h) ?hy117 (setS_alloc H0 _) ?rest117
                case hi117 => (simp only [List.getElem?_toArray, List.getElem?_cons_succ, List.getElem?_cons_zero]; try rfl)
                case hy117 => (refine Or.inl ⟨by rfl, ?_⟩; intro w hSw; go_simp; (try with_reducible rfl))
                try simp only [Act.put, List.setIfInBounds_toArray, List.set_cons_zero, List.set_cons_succ]
                refine wpAnyH_ready (rs := [31]) (by kernel_rfl) (by simp) ?_
                refine AllReadyH.cons (o := ?o118) ?hi118 (fun K hK => ?st118) ?mo118
                case hi118 => (simp only [List.getElem?_toArray, List.getElem?_cons_succ, List.getElem?_cons_zero]; try rfl)
                case st118 =>
                  go_simp
                  go_at_call 6
                  refine (hW5 _).mono ?_
                  rintro e wz ⟨rfl, rfl⟩
                  try dsimp only
                  refine hK.out _ _ (setS_alloc H0 _) (fun _ => ?rs118)
                  clear hK K
                  try simp only [Act.put, List.setIfInBounds_toArray, List.set_cons_zero, List.set_cons_succ]
                  refine wpAnyH_take (i := 32) (oi := ?oi119) (v := ?v119) ?hi119 (by kernel_rfl) (by kernel_rfl) (by kernel_rfl) (fun _ _ _ h => h) ?hy119 (setS_alloc H0 _) ?rest119
                  case hi119 => (simp only [List.getElem?_toArray, List.getElem?_cons_succ, List.getElem?_cons_zero]; try rfl)
                  case hy119 => (refine Or.inl ⟨by rfl, ?_⟩; intro w hSw; go_simp; (try with_reducible rfl))
                  try simp only [Act.put, List.setIfInBounds_toArray, List.set_cons_zero, List.set_cons_succ]
                  refine wpAnyH_ready (rs := [36]) (by kernel_rfl) (by simp) ?_
                  refine AllReadyH.cons (o := ?o120) ?hi120 (fun K hK => ?st120) ?mo120
                  case hi120 => (simp only [List.getElem?_toArray, List.getElem?_cons_succ, List.getElem?_cons_zero]; try rfl)
                  case st120 =>
                    go_simp
                    go_at_call 6
                    refine (hW6 _).mono ?_
                    rintro e wz ⟨rfl, rfl⟩
                    try dsimp only
                    refine hK.out _ _ (setS_alloc H0 _) (fun _ => ?rs120)
                    clear hK K
                    try simp only [Act.put, List.setIfInBounds_toArray, List.set_cons_zero, List.set_cons_succ]
                    refine wpAnyH_take (i := 37) (oi := ?oi121) (v := ?v121) ?hi121 (by kernel_rfl) (by kernel_rfl) (by kernel_rfl) (fun _ _ _ h => h) ?hy121 (setS_alloc H0 _) ?rest121
                    case hi121 => (simp only [List.getElem?_toArray, List.getElem?_cons_succ, List.getElem?_cons_zero]; try rfl)
                    case hy121 => (refine Or.inl ⟨by rfl, ?_⟩; intro w hSw; go_simp; (try with_reducible rfl))
                    try simp only [Act.put, List.setIfInBounds_toArray, List.set_cons_zero, List.set_cons_succ]
                    refine wpAnyH_take (i := 38) (oi := ?oi122) (v := ?v122) ?hi122 (by kernel_rfl) (by kernel_rfl) (by kernel_rfl) (fun _ _ _ h => h) ?hy122 (setS_alloc H0 _) ?rest122
                    case hi122 => (simp only [List.getElem?_toArray, List.getElem?_cons_succ, List.getElem?_cons_zero]; try rfl)
                    case hy122 => (refine Or.inl ⟨by rfl, ?_⟩; intro w hSw; go_simp; (try with_reducible rfl))
                    try simp only [Act.put, List.setIfInBounds_toArray, List.set_cons_zero, List.set_cons_succ]
                    refine wpAnyH_ready (rs := [40]) (by kernel_rfl) (by simp) ?_
                    refine AllReadyH.cons (o := ?o123) ?hi123 (fun K hK => ?st123) ?mo123
                    case hi123 => (simp only [List.getElem?_toArray, List.getElem?_cons_succ, List.getElem?_cons_zero]; try rfl)
                    case st123 =>
                      go_simp
                      refine hK.out _ _ (setS_alloc H0 _) (fun hHeld => ?rs123)
                      clear hK K
                      try simp only [Act.put, List.setIfInBounds_toArray, List.set_cons_zero, List.set_cons_succ]
                      refine wpAnyH_done (by kernel_rfl) ?_ _
                      refine NoPanic.normal ?_
                      go_wp2_with fail
                      go_meet
                      exact Lib.hid ⟨_, by rw [hsd], by rw [hsd]; exact Blk.new wd _ _, HRd.alloc _, hHeld, rfl⟩
                    exact AllReadyH.nil
                  exact AllReadyH.nil
                exact AllReadyH.nil
              exact AllReadyH.nil
            exact AllReadyH.nil
          exact AllReadyH.nil
        exact AllReadyH.nil
      exact AllReadyH.nil
    exact AllReadyH.nil
  case rest =>
    obtain ⟨w7, rfl, hF, hR, hS7, e7⟩ := hcut.out
    subst e7
    obtain ⟨-, -, -, -, -, -, -, c7, -, hb7⟩ := hS7
    have hG2 : w2.heap.size = g + 1 + 1 := by rw [HS2.out, HG.out]
    rw [hG2] at hF ⊢
    have e0 : IntKind.i64.wrap (2 + s0 % 12) = 2 + s0 % 12 := by rw [IntKind.wrap_i64]; omega
    have e1 : IntKind.i64.wrap (2 + s1 % 12) = 2 + s1 % 12 := by rw [IntKind.wrap_i64]; omega
    have e2 : IntKind.i64.wrap (1 + s2 % 6) = 1 + s2 % 6 := by rw [IntKind.wrap_i64]; omega
    have e3 : IntKind.i64.wrap (1 + s3 % 6) = 1 + s3 % 6 := by rw [IntKind.wrap_i64]; omega
    have e4 : IntKind.i64.wrap (1 + s4 % 8) = 1 + s4 % 8 := by rw [IntKind.wrap_i64]; omega
    have e5 : IntKind.i64.wrap (1 + s5 % 4) = 1 + s5 % 4 := by rw [IntKind.wrap_i64]; omega
    have e6 : IntKind.i64.wrap (1 + s6 % 9) = 1 + s6 % 9 := by rw [IntKind.wrap_i64]; omega
    rw [e0, e1, e2, e3, e4, e5, e6] at hF
    have k3 : IntKind.i64.wrap (s7.tmod 3) = s7.tmod 3 := by
      have := Int.tmod_lt_of_pos s7 (show (0 : Int) < 3 by decide)
      have := Int.lt_tmod_of_pos s7 (show (0 : Int) < 3 by decide)
      rw [IntKind.wrap_i64]; omega
    have k7 : IntKind.i64.wrap (64 + s7 % 700) = 64 + s7 % 700 := by rw [IntKind.wrap_i64]; omega
    have hw7 := fun wz => hW s7 700 b7 (by decide) wz
    clear hW e0 e1 e2 e3 e4 e5 e6 hcut
    have f0 := hF.cell 0
    have f1 := hF.cell 1
    have f2 := hF.cell 2
    have f3 := hF.cell 3
    have f4 := hF.cell 4
    have f5 := hF.cell 5
    have f6 := hF.cell 6
    have fz := hF.frozen 6
    have r0 := hR.cell 0
    have r1 := hR.cell 1
    have r2 := hR.cell 2
    have r3 := hR.cell 3
    have r4 := hR.cell 4
    have r5 := hR.cell 5
    have r6 := hR.cell 6
    have t0 := hR.frozen 0
    have t1 := hR.frozen 1
    have t2 := hR.frozen 2
    have t3 := hR.frozen 3
    have t4 := hR.frozen 4
    have t5 := hR.frozen 5
    have t6 := hR.frozen 6
    have HB7 := Lib.hid hb7
    have HFh := Lib.hid hF
    have HRh := Lib.hid hR
    clear hF hR hb7 hb2 hS hgr
    by_cases hq : s7.tmod 3 = 2
    · have q0 : quotaI s7 = 64 + s7 % 700 := by unfold quotaI; rw [if_pos hq]
      have HQ := Lib.hid q0
      clear q0
      go_wp2_with fail
      refine (hw7 _).mono ?_
      rintro e wz ⟨rfl, rfl⟩
      go_wp2_with fail
      rw [HQ.out]
      refine bodyPost_ret (ret_cell1 rfl rfl ((((((((HRh.out.far (p := ⟨g + 1 + 1, 6, none⟩) (by simp only; omega) (.int .i64 (64 + s7 % 700))).set_ 0 (.complex .f64 (floatOfInt .f64 (2 + s0 % 12)) (floatOfInt .f64 (2 + s1 % 12)))).set_ 1 (.int .i64 (1 + s2 % 6))).set_ 2 (.int .i64 (1 + s3 % 6))).set_ 3 (.int .i64 (1 + s4 % 8))).set_ 4 (.int .i64 (1 + s5 % 4))).set_ 5 (.int .i64 (1 + s6 % 9))).set_ 6 (.int .i64 (64 + s7 % 700))) Tryz.underlying26 rfl (by kernel_rfl)) rfl ⟨rfl, ?_⟩
      have hge := HG.out
      exact (((((((((HB7.out.setCell (by simp only; omega) _).setCell (by simp only; omega) _).setCell (by simp only; omega) _).setCell (by simp only; omega) _).setCell (by simp only; omega) _).setCell (by simp only; omega) _).setCell (by simp only; omega) _).setCell (by simp only; omega) _))
    · have q0 : quotaI s7 = 4096 := by unfold quotaI; rw [if_neg hq]
      have HQ := Lib.hid q0
      clear q0
      go_wp2_with fail
      rw [HQ.out]
      refine bodyPost_ret (ret_cell1 rfl rfl (((((((HRh.out.set_ 0 (.complex .f64 (floatOfInt .f64 (2 + s0 % 12)) (floatOfInt .f64 (2 + s1 % 12)))).set_ 1 (.int .i64 (1 + s2 % 6))).set_ 2 (.int .i64 (1 + s3 % 6))).set_ 3 (.int .i64 (1 + s4 % 8))).set_ 4 (.int .i64 (1 + s5 % 4))).set_ 5 (.int .i64 (1 + s6 % 9))).set_ 6 (.int .i64 4096)) Tryz.underlying26 rfl (by kernel_rfl)) rfl ⟨rfl, ?_⟩
      have hge := HG.out
      exact (((((((HB7.out.setCell (by simp only; omega) _).setCell (by simp only; omega) _).setCell (by simp only; omega) _).setCell (by simp only; omega) _).setCell (by simp only; omega) _).setCell (by simp only; omega) _).setCell (by simp only; omega) _)
end Go.Proofs.YtbioljbiohdflaaGreatDoor
