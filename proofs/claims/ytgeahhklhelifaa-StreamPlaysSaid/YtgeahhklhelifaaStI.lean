/- A stream of any updates in memory: what is said, said again, acknowledged, told. -/
import Derived.Test.YtgeahhklhelifaaStH
namespace Go.Proofs.Ytgeahhklhelifaa
open Go.ChangeShapes Go.WideShapes Go.ChangeAt Go.RowKit
set_option linter.unusedVariables false
set_option maxRecDepth 100000
section
variable {w w' : World} {B g : Nat} {v : Value} {l : List Int} {ak ak' : Nat} {sd sd' : Bool} {dl du dl' du' : Int}
theorem StM.far (h : StM w B g v l ak sd dl du) {p : Addr} (hp : w.heap.size ≤ p.block) (u : Value) : StM (w.setCell p u) B g v l ak sd dl du := h.keep fun b _ hb => Below.heap_setCell _ _ _ _ (by omega)
theorem StM.far2 (h : StM w B g v l ak sd dl du) {p : Addr} (hg : g ≠ p.block) (hp : ∀ k, v.ownBlock = some k → k ≠ p.block) (u : Value) : StM (w.setCell p u) B g v l ak sd dl du := by
  refine ⟨(Below.heap_setCell _ _ _ _ hg).trans h.blk, ⟨h.row.1, ?_⟩, h.ge⟩
  rcases h.row.2 with h1 | ⟨k, cap, cur, e1, e2, e3, e4⟩
  · exact .inl h1
  · exact .inr ⟨k, cap, cur, e1, e2, (Below.heap_setCell _ _ _ _ (hp k (by rw [e1]; rfl))).trans e3, e4⟩
theorem StM.set (h : StM w B g v l ak sd dl du) (i : Nat) (u : Value) (hb : Blk (w.setCell ⟨g, i, none⟩ u) g 49 #[v, .int .i64 ak', .bool sd', .int .i64 dl', .int .i64 du']) : StM (w.setCell ⟨g, i, none⟩ u) B g v l ak' sd' dl' du' := by
  refine ⟨hb, ⟨h.row.1, ?_⟩, h.ge⟩
  rcases h.row.2 with h1 | ⟨k, cap, cur, e1, e2, e3, e4⟩
  · exact .inl h1
  · refine .inr ⟨k, cap, cur, e1, e2, (Below.heap_setCell _ _ _ _ ?_).trans e3, e4⟩
    rintro rfl
    have := h.blk
    unfold Blk at this
    rw [e3] at this
    injection this with this
    injection this with _ ht
    exact absurd ht (by decide)
theorem StM.cells2 (h : StM w B g v l ak sd dl du) : (∀ o, (w.alloc o).cell? ⟨g, 2, none⟩ = some (.bool sd)) ∧ (∀ o, (w.alloc o).cell? ⟨g, 3, none⟩ = some (.int .i64 dl)) ∧ (∀ o, (w.alloc o).cell? ⟨g, 4, none⟩ = some (.int .i64 du)) ∧ (∀ o, (w.alloc o).frozen? ⟨g, 2, none⟩ = false) ∧ (∀ o, (w.alloc o).frozen? ⟨g, 3, none⟩ = false) ∧ (∀ o, (w.alloc o).frozen? ⟨g, 4, none⟩ = false) ∧ (∀ o, (w.alloc o).cell? ⟨g, 1, none⟩ = some (.int .i64 ak)) ∧ (∀ o, (w.alloc o).frozen? ⟨g, 1, none⟩ = false) :=
  ⟨fun o => (h.alloc o).blk.cell 2, fun o => (h.alloc o).blk.cell 3, fun o => (h.alloc o).blk.cell 4, fun o => (h.alloc o).blk.frozen 2, fun o => (h.alloc o).blk.frozen 3, fun o => (h.alloc o).blk.frozen 4, fun o => (h.alloc o).blk.cell 1, fun o => (h.alloc o).blk.frozen 1⟩
end
set_option maxHeartbeats 4000000 in
theorem Say_end {B g : Nat} {v : Value} {l : List Int} {ak : Nat} {sd : Bool} {dl du : Int} (now first draw : Int) (w : World) (h : StM w B g v l ak sd dl du) (hk : ak = l.length) (hl : l.length ≤ 1000) :
    Calls Try.prog 9 #[.pointer (some ⟨g, 0, none⟩), .int .i64 now, .int .i64 first, .int .i64 draw] w fun e w' => e = .returned (.tuple #[.agg #[.int .i64 0, .int .i64 0], .bool false]) ∧ Below w.heap.size w w' := by
  go_enter Try.func9, Try.ntmps9
  go_wp2_with fail
  refine (Front_none _ (h.alloc _) hk hl).mono ?_
  rintro e w1 ⟨rfl, hb1⟩
  have hr := (Blk.new w 30 #[.int .i64 0, .int .i64 0]).below hb1 (by simp)
  have r0 : ∀ o, (w1.alloc o).cell? ⟨w.heap.size, 0, none⟩ = some (.int .i64 0) := fun o => (hr.alloc o).cell 0
  have r1 : ∀ o, (w1.alloc o).cell? ⟨w.heap.size, 1, none⟩ = some (.int .i64 0) := fun o => (hr.alloc o).cell 1
  have q0 : ∀ o, (w1.alloc o).frozen? ⟨w.heap.size, 0, none⟩ = false := fun o => (hr.alloc o).frozen 0
  have q1 : ∀ o, (w1.alloc o).frozen? ⟨w.heap.size, 1, none⟩ = false := fun o => (hr.alloc o).frozen 1
  go_wp2
  have hsz := hb1.size
  simp at hsz
  refine bodyPost_ret (ret_cell2 rfl rfl (((hr.alloc _).set_ 0 _).set_ 1 _) Try.underlying30 rfl (by kernel_rfl)) rfl ⟨rfl, ?_⟩
  exact (((((Below.refl w.heap.size w).alloc (Nat.le_refl _) _).trans (hb1.mono (by simp))).alloc (by omega) _).setCell (Nat.le_refl _) _).setCell (Nat.le_refl _) _
set_option maxHeartbeats 4000000 in
theorem Say_said {B g : Nat} {v : Value} {l : List Int} {ak : Nat} {dl du s : Int} (now first draw : Int) (w : World) (h : StM w B g v l ak true dl du) (hk : l[ak]? = some s) (hl : l.length ≤ 1000) :
    Calls Try.prog 9 #[.pointer (some ⟨g, 0, none⟩), .int .i64 now, .int .i64 first, .int .i64 draw] w fun e w' => e = .returned (.tuple #[.agg #[.int .i64 0, .int .i64 0], .bool false]) ∧ Below w.heap.size w w' := by
  go_enter Try.func9, Try.ntmps9
  go_wp2_with fail
  refine (Front_some _ (h.alloc _) hk hl).mono ?_
  rintro e w1 ⟨rfl, hb1⟩
  obtain ⟨g2, -⟩ := ((h.alloc _).below hb1 (Nat.le_refl _)).cells2
  have hr := (Blk.new w 30 #[.int .i64 0, .int .i64 0]).below hb1 (by simp)
  have r0 : ∀ o, (w1.alloc o).cell? ⟨w.heap.size, 0, none⟩ = some (.int .i64 0) := fun o => (hr.alloc o).cell 0
  have r1 : ∀ o, (w1.alloc o).cell? ⟨w.heap.size, 1, none⟩ = some (.int .i64 0) := fun o => (hr.alloc o).cell 1
  have q0 : ∀ o, (w1.alloc o).frozen? ⟨w.heap.size, 0, none⟩ = false := fun o => (hr.alloc o).frozen 0
  have q1 : ∀ o, (w1.alloc o).frozen? ⟨w.heap.size, 1, none⟩ = false := fun o => (hr.alloc o).frozen 1
  go_wp2
  have hsz := hb1.size
  simp at hsz
  refine bodyPost_ret (ret_cell2 rfl rfl (((hr.alloc _).set_ 0 _).set_ 1 _) Try.underlying30 rfl (by kernel_rfl)) rfl ⟨rfl, ?_⟩
  exact (((((Below.refl w.heap.size w).alloc (Nat.le_refl _) _).trans (hb1.mono (by simp))).alloc (by omega) _).setCell (Nat.le_refl _) _).setCell (Nat.le_refl _) _
set_option maxHeartbeats 4000000 in
theorem Say_yes {B g : Nat} {v : Value} {l : List Int} {ak : Nat} {dl du s : Int} (now first draw : Int) (w : World) (h : StM w B g v l ak false dl du) (hk : l[ak]? = some s) (hl : l.length ≤ 1000) (hd : draw ≤ 9223372036854775807) :
    Calls Try.prog 9 #[.pointer (some ⟨g, 0, none⟩), .int .i64 now, .int .i64 first, .int .i64 draw] w fun e w' => e = .returned (.tuple #[.agg #[.int .i64 ((ak : Int) + 1), .int .i64 s], .bool true]) ∧ StM w' B g v l ak true first (dueI now first draw) ∧ Below B w w' := by
  have hgl := h.blk.lt
  have hge := h.ge
  go_enter Try.func9, Try.ntmps9
  go_wp2_with fail
  refine (Front_some _ (h.alloc _) hk hl).mono ?_
  rintro e w1 ⟨rfl, hb1⟩
  have h1 := (h.alloc _).below hb1 (Nat.le_refl _)
  obtain ⟨g2, g3, g4, f2, f3, f4, -⟩ := h1.cells2
  have hr := (Blk.new w 30 #[.int .i64 0, .int .i64 0]).below hb1 (by simp)
  have r0 : ∀ o, (w1.alloc o).cell? ⟨w.heap.size, 0, none⟩ = some (.int .i64 0) := fun o => (hr.alloc o).cell 0
  have r1 : ∀ o, (w1.alloc o).cell? ⟨w.heap.size, 1, none⟩ = some (.int .i64 0) := fun o => (hr.alloc o).cell 1
  have q0 : ∀ o, (w1.alloc o).frozen? ⟨w.heap.size, 0, none⟩ = false := fun o => (hr.alloc o).frozen 0
  have q1 : ∀ o, (w1.alloc o).frozen? ⟨w.heap.size, 1, none⟩ = false := fun o => (hr.alloc o).frozen 1
  have hg1 : g ≠ w.heap.size := by omega
  have H := Lib.hid h
  clear h
  go_wp2_with (go_at_call 24; refine (Due_any _ _ _ _ hd).mono ?_; rintro e w' ⟨rfl, rfl⟩)
  have hsz := hb1.size
  simp at hsz
  have h2 := (h1.alloc (.cells #[.int .i64 ((ak : Int) + 1), .int .i64 s] 30))
  have h3 := h2.set (sd' := true) 2 (.bool true) (h2.blk.set_ 2 _)
  have h4 := h3.set (dl' := first) 3 (.int .i64 first) (h3.blk.set_ 3 _)
  have h5 := h4.set (du' := dueI now first draw) 4 (.int .i64 (dueI now first draw)) (h4.blk.set_ 4 _)
  have hu : ∀ k, v.ownBlock = some k → k ≠ w.heap.size := fun k hk => by have := (H.out.row.lt k hk).2; omega
  have h7 := (h5.far2 (p := ⟨w.heap.size, 0, none⟩) hg1 hu (.int .i64 ((ak : Int) + 1))).far2 (p := ⟨w.heap.size, 1, none⟩) hg1 hu (.int .i64 s)
  refine bodyPost_ret (ret_cell2 rfl rfl ((((((hr.alloc _).far (fun e => hg1 e.symm) _).far (fun e => hg1 e.symm) _).far (fun e => hg1 e.symm) _).set_ 0 _).set_ 1 _) Try.underlying30 rfl (by kernel_rfl)) rfl ⟨rfl, h7, ?_⟩
  have b1 := (((Below.refl B w).alloc (by omega) (.cells #[.int .i64 0, .int .i64 0] 30)).trans (hb1.mono (by simp; omega))).alloc (by omega) (.cells #[.int .i64 ((ak : Int) + 1), .int .i64 s] 30)
  repeat (first | exact b1 | refine Below.setCell ?_ (by first | exact hge | (simp; omega)) _)
set_option maxHeartbeats 4000000 in
theorem Again_not {B g : Nat} {v : Value} {l : List Int} {ak : Nat} {sd : Bool} {dl du : Int} (now most draw : Int) (w : World) (h : StM w B g v l ak sd dl du) (hn : sd = false ∨ now < du) :
    Calls Try.prog 10 #[.pointer (some ⟨g, 0, none⟩), .int .i64 now, .int .i64 most, .int .i64 draw] w fun e w' => e = .returned (.tuple #[.agg #[.int .i64 0, .int .i64 0], .bool false]) ∧ Below w.heap.size w w' := by
  obtain ⟨g2, g3, g4, -⟩ := h.cells2
  have hs : sd = false ∨ (sd = true ∧ now < du) := by cases sd <;> simp_all
  clear hn h
  rcases hs with hs | ⟨hs, hn⟩
  all_goals
    subst hs
    go_enter Try.func10, Try.ntmps10
    go_wp2
    refine bodyPost_ret (ret_cell2 rfl rfl (Blk.new w 30 #[.int .i64 0, .int .i64 0]) Try.underlying30 rfl (by kernel_rfl)) rfl ?_
    exact ⟨rfl, by repeat (first | exact Below.refl _ _ | refine Below.drew ?_ | refine below_drewN ?_ _ | refine Below.alloc ?_ (by first | exact Nat.le_refl _ | (simp; done) | (simp; omega)) _ | refine Below.setCell ?_ (by first | exact Nat.le_refl _ | (simp; done) | (simp; omega)) _)⟩
set_option maxHeartbeats 4000000 in
theorem Again_yes {B g : Nat} {v : Value} {l : List Int} {ak : Nat} {dl du s : Int} (now most draw : Int) (w : World) (h : StM w B g v l ak true dl du) (hk : l[ak]? = some s) (hl : l.length ≤ 1000) (hd : draw ≤ 9223372036854775807) (hn : ¬ now < du) :
    Calls Try.prog 10 #[.pointer (some ⟨g, 0, none⟩), .int .i64 now, .int .i64 most, .int .i64 draw] w fun e w' => e = .returned (.tuple #[.agg #[.int .i64 ((ak : Int) + 1), .int .i64 s], .bool true]) ∧ StM w' B g v l ak true (nextI dl most) (dueI now (nextI dl most) draw) ∧ Below B w w' := by
  obtain ⟨g2, g3, g4, f2, f3, f4, -⟩ := h.cells2
  have hgl := h.blk.lt
  have hge := h.ge
  have hg1 : g ≠ w.heap.size := by omega
  have HU : Hid (∀ k, v.ownBlock = some k → k ≠ w.heap.size) := Lib.hid fun k hk => by have := (h.row.lt k hk).2; omega
  have H := Lib.hid h
  have HGL := Lib.hid hgl
  have HGE := Lib.hid hge
  clear h hgl hge
  go_enter Try.func10, Try.ntmps10
  go_wp2_with (first | (go_at_call 25; refine (Next_any _ _ _).mono ?_; rintro e w' ⟨rfl, rfl⟩) | (go_at_call 24; refine (Due_any _ _ _ _ hd).mono ?_; rintro e w' ⟨rfl, rfl⟩))
  have h2 := H.out.alloc (.cells #[.int .i64 0, .int .i64 0] 30)
  have h3 := h2.set (dl' := nextI dl most) 3 (.int .i64 (nextI dl most)) (h2.blk.set_ 3 _)
  have h4 := h3.set (du' := dueI now (nextI dl most) draw) 4 (.int .i64 (dueI now (nextI dl most) draw)) (h3.blk.set_ 4 _)
  have hr2 := ((Blk.new w 30 #[.int .i64 0, .int .i64 0]).far (p := ⟨g, 3, none⟩) (fun e => hg1 e.symm) (.int .i64 (nextI dl most))).far (p := ⟨g, 4, none⟩) (fun e => hg1 e.symm) (.int .i64 (dueI now (nextI dl most) draw))
  refine (Front_some _ h4 hk hl).mono ?_
  rintro e w1 ⟨rfl, hb1⟩
  have h5 := h4.below hb1 (Nat.le_refl _)
  have hr3 := hr2.below hb1 hr2.lt
  have r0 : w1.cell? ⟨w.heap.size, 0, none⟩ = some (.int .i64 0) := hr3.cell 0
  have r1 : w1.cell? ⟨w.heap.size, 1, none⟩ = some (.int .i64 0) := hr3.cell 1
  have q0 : w1.frozen? ⟨w.heap.size, 0, none⟩ = false := hr3.frozen 0
  have q1 : w1.frozen? ⟨w.heap.size, 1, none⟩ = false := hr3.frozen 1
  clear g2 g3 g4 f2 f3 f4
  go_wp2
  have h7 := (h5.far2 (p := ⟨w.heap.size, 0, none⟩) hg1 HU.out (.int .i64 ((ak : Int) + 1))).far2 (p := ⟨w.heap.size, 1, none⟩) hg1 HU.out (.int .i64 s)
  refine bodyPost_ret (ret_cell2 rfl rfl ((hr3.set_ 0 _).set_ 1 _) Try.underlying30 rfl (by kernel_rfl)) rfl ⟨rfl, h7, ?_⟩
  have hge := HGE.out
  have hgl := HGL.out
  have b0 := (((Below.refl B w).alloc (by omega) (.cells #[.int .i64 0, .int .i64 0] 30)).setCell (p := ⟨g, 3, none⟩) hge (.int .i64 (nextI dl most))).setCell (p := ⟨g, 4, none⟩) hge (.int .i64 (dueI now (nextI dl most) draw))
  have b1 := b0.trans (hb1.mono (by have := hr2.lt; omega))
  exact (b1.setCell (by show B ≤ w.heap.size; omega) _).setCell (by show B ≤ w.heap.size; omega) _
set_option maxHeartbeats 4000000 in
theorem Ack_no {B g : Nat} {v : Value} {l : List Int} {ak : Nat} {sd : Bool} {dl du : Int} (n : Int) (w : World) (h : StM w B g v l ak sd dl du) (hk : ak ≤ l.length) (hl : l.length ≤ 1000) (hn : ak = l.length ∨ sd = false ∨ n ≠ (ak : Int) + 1) :
    Calls Try.prog 11 #[.pointer (some ⟨g, 0, none⟩), .int .i64 n] w fun e w' => e = .returned (.int .i64 3) ∧ Below w.heap.size w w' := by
  rcases Nat.lt_or_ge ak l.length with h1 | h1
  · have hs : sd = false ∨ (sd = true ∧ n ≠ (ak : Int) + 1) := by
      rcases hn with h | h | h
      · omega
      · exact .inl h
      · cases sd <;> simp_all
    clear hn
    rcases hs with hs | ⟨hs, hn⟩
    · subst hs
      go_enter Try.func11, Try.ntmps11
      go_wp2_with fail
      refine (Front_some _ h (List.getElem?_eq_getElem h1) hl).mono ?_
      rintro e w1 ⟨rfl, hb1⟩
      obtain ⟨g2, -⟩ := (h.below hb1 (Nat.le_refl _)).cells2
      go_wp2
      go_ret
      exact ⟨rfl, hb1.alloc hb1.size _⟩
    · subst hs
      have hb : (n != (ak : Int) + 1) = true := by simpa using hn
      go_enter Try.func11, Try.ntmps11
      go_wp2_with fail
      refine (Front_some _ h (List.getElem?_eq_getElem h1) hl).mono ?_
      rintro e w1 ⟨rfl, hb1⟩
      obtain ⟨g2, -⟩ := (h.below hb1 (Nat.le_refl _)).cells2
      go_wp2
      go_ret
      exact ⟨rfl, hb1.alloc hb1.size _⟩
  · clear hn
    go_enter Try.func11, Try.ntmps11
    go_wp2_with fail
    refine (Front_none _ h (by omega) hl).mono ?_
    rintro e w1 ⟨rfl, hb1⟩
    go_wp2
    go_ret
    exact ⟨rfl, hb1.alloc hb1.size _⟩
set_option maxHeartbeats 4000000 in
theorem Ack_yes {B g : Nat} {v : Value} {l : List Int} {ak : Nat} {dl du s : Int} (w : World) (h : StM w B g v l ak true dl du) (hk : l[ak]? = some s) (hl : l.length ≤ 1000) :
    Calls Try.prog 11 #[.pointer (some ⟨g, 0, none⟩), .int .i64 ((ak : Int) + 1)] w fun e w' => e = .returned (.int .i64 0) ∧ StM w' B g v l (ak + 1) false dl du ∧ Below B w w' := by
  have hge := h.ge
  have hgl := h.blk.lt
  have hak := (List.getElem?_eq_some_iff.1 hk).1
  go_enter Try.func11, Try.ntmps11
  go_wp2_with fail
  refine (Front_some _ h hk hl).mono ?_
  rintro e w1 ⟨rfl, hb1⟩
  have h1 := h.below hb1 (Nat.le_refl _)
  obtain ⟨g2, -, -, f2, -, -, g1, f1⟩ := h1.cells2
  go_wp2
  go_ret
  have h2 := h1.alloc (.cells #[.int .i64 ((ak : Int) + 1), .int .i64 s] 30)
  have h3 := h2.set (ak' := ak + 1) 1 (.int .i64 ((ak : Int) + 1)) (h2.blk.set_ 1 _)
  have h4 := h3.set (sd' := false) 2 (.bool false) (h3.blk.set_ 2 _)
  have hsz := hb1.size
  exact ⟨rfl, h4, (((hb1.mono (by omega)).alloc (by omega) _).setCell hge _).setCell hge _⟩
set_option maxHeartbeats 4000000 in
theorem Updates_g {B g : Nat} {v : Value} {l : List Int} {ak : Nat} {sd : Bool} {dl du : Int} (w : World) (h : StM w B g v l ak sd dl du) (hl : l.length ≤ 1000) :
    Calls Try.prog 13 #[.pointer (some ⟨g, 0, none⟩)] w fun e w' => ∃ v', e = .returned v' ∧ w'.ownsRow w.heap.size 30 2 v' l.length (updV l 0) ∧ Below w.heap.size w w' := by
  obtain ⟨i0, hi, hz0, hz1, hz2⟩ := info_parts upd_info
  obtain ⟨A, c, rfl, hc, hcm⟩ := h.form
  have h0 : w.cell? ⟨g, 0, none⟩ = some (.slice A l.length c) := h.blk.cell 0
  have hR := Reads.of_own h.row
  have hC : Calls Try.prog 26 #[.slice A l.length c] w fun e w' => ∃ v', e = .returned v' ∧ w'.ownsRow w.heap.size 30 2 v' l.length (updV l 0) ∧ Below w.heap.size w w' := by
    cases A with
    | none =>
      have hl0 : l.length = 0 := by
        rcases Nat.eq_zero_or_pos l.length with e | e
        · exact e
        · obtain ⟨ad, h, _⟩ := hR.2 e; cases h
      have heq : ∀ w1, (binOp .eql 37 (.slice none l.length c) (.slice none 0 0)).run Try.prog w1 = .ok (.bool true) w1 := fun w1 => Lib.run_eql_slice_nil w1 37 30 none l.length c 0 0 Try.underlying37
      have hv := h.row.1
      rw [hl0] at *
      go_enter Try.func26, Try.ntmps26
      go_wp2
      go_ret
      exact ⟨_, rfl, ⟨hv, .inl ⟨rfl, rfl⟩⟩, Below.refl _ _⟩
    | some ad =>
      have heq : ∀ w1, (binOp .eql 37 (.slice (some ad) l.length c) (.slice none 0 0)).run Try.prog w1 = .ok (.bool false) w1 := fun w1 => Lib.run_eql_slice_nil w1 37 30 (some ad) l.length c 0 0 Try.underlying37
      have HR := Lib.hid hR
      have HV := Lib.hid (updV_one l 0)
      go_enter Try.func26, Try.ntmps26
      go_wp2_with (first | (at_builtin; go_must (refine wpList_append_any _ rfl _ _ 37 rfl w.heap.size 30 i0 (.agg #[.int .i64 0, .int .i64 0]) 2 16 Try.underlying37 hi hz0 hz1 hz2 rfl (by decide) _ 0 [] rfl ⟨by simp, .inr ⟨w.heap.size, 0, #[], rfl, Nat.le_refl _, heap_alloc_new w _, Nat.le_refl _, by decide, rfl, rfl⟩⟩ w.heap.size (some ad) l.length c (updV l 0) rfl (HR.out.alloc (Nat.le_refl _) _) HV.out (by simp only [maxLen]; omega) (by omega) (by simp) ?_); intro v1 w1 hown1 hg1 _hne; clear _hne; rw [Nat.zero_add, List.nil_append] at hown1))
      go_ret
      exact ⟨v1, rfl, hown1, ((Below.refl w.heap.size w).alloc (Nat.le_refl _) _).grown hg1 (by simp) (fun k hk => by injection hk with hk; subst hk; exact Nat.le_refl _)⟩
  clear h hR
  go_enter Try.func13, Try.ntmps13
  go_wp2_with (go_at_call 26; refine hC.mono ?_; rintro e w' ⟨v', rfl, ho, hb⟩)
  go_ret
  exact ⟨v', rfl, ho, hb⟩
end Go.Proofs.Ytgeahhklhelifaa
