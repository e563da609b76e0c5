/- Streams' contracts once more: no block but the stream's own is turned. -/
import Derived.Test.YtgeahhklhelifaaRsI
import Derived.Test.YtgeahhklhelifaaStJ
namespace Go.Proofs.Ytgeahhklhelifaa
open Go.ChangeShapes Go.WideShapes Go.ChangeAt Go.RowKit
set_option linter.unusedVariables false
set_option maxRecDepth 100000
/-- No block but g and v's is turned. -/
def Keeps (w w' : World) (g : Nat) (v : Value) : Prop := ∀ b, b < w.heap.size → b ≠ g → v.ownBlock ≠ some b → w'.heap[b]? = w.heap[b]?
/-- Where v2's block lies. -/
def Lies (w : World) (v v2 : Value) : Prop := ∀ k, v2.ownBlock = some k → v.ownBlock = some k ∨ w.heap.size ≤ k
theorem Keeps.of_below {w w' : World} {g : Nat} {v : Value} (h : Below w.heap.size w w') : Keeps w w' g v := fun b hb _ _ => h.block b hb
set_option maxHeartbeats 4000000 in
theorem Say_yesK {B g : Nat} {v : Value} {l : List Int} {ak : Nat} {dl du s : Int} (now first draw : Int) (w : World) (h : StM w B g v l ak false dl du) (hk : l[ak]? = some s) (hl : l.length ≤ 1000) (hd : draw ≤ 9223372036854775807) :
    Calls Try.prog 9 #[.pointer (some ⟨g, 0, none⟩), .int .i64 now, .int .i64 first, .int .i64 draw] w fun e w' => e = .returned (.tuple #[.agg #[.int .i64 ((ak : Int) + 1), .int .i64 s], .bool true]) ∧ StM w' B g v l ak true first (dueI now first draw) ∧ Below B w w' ∧ Keeps w w' g v := by
  have hgl := h.blk.lt
  have hge := h.ge
  go_enter Try.func9, Try.ntmps9
  go_wp2_with fail
  refine (Front_some _ (h.alloc _) hk hl).mono ?_
  rintro e w1 ⟨rfl, hb1⟩
  have h1 := (h.alloc _).below hb1 (Nat.le_refl _)
  obtain ⟨g2, g3, g4, f2, f3, f4, -⟩ := h1.cells2
  have hr := (Blk.new w 30 #[.int .i64 0, .int .i64 0]).below hb1 (by simp)
  have r0 : ∀ o, (w1.alloc o).cell? ⟨w.heap.size, 0, none⟩ = some (.int .i64 0) := fun o => (hr.alloc o).cell 0
  have r1 : ∀ o, (w1.alloc o).cell? ⟨w.heap.size, 1, none⟩ = some (.int .i64 0) := fun o => (hr.alloc o).cell 1
  have q0 : ∀ o, (w1.alloc o).frozen? ⟨w.heap.size, 0, none⟩ = false := fun o => (hr.alloc o).frozen 0
  have q1 : ∀ o, (w1.alloc o).frozen? ⟨w.heap.size, 1, none⟩ = false := fun o => (hr.alloc o).frozen 1
  have hg1 : g ≠ w.heap.size := by omega
  have H := Lib.hid h
  clear h
  go_wp2_with (go_at_call 24; refine (Due_any _ _ _ _ hd).mono ?_; rintro e w' ⟨rfl, rfl⟩)
  have hsz := hb1.size
  simp at hsz
  have h2 := (h1.alloc (.cells #[.int .i64 ((ak : Int) + 1), .int .i64 s] 30))
  have h3 := h2.set (sd' := true) 2 (.bool true) (h2.blk.set_ 2 _)
  have h4 := h3.set (dl' := first) 3 (.int .i64 first) (h3.blk.set_ 3 _)
  have h5 := h4.set (du' := dueI now first draw) 4 (.int .i64 (dueI now first draw)) (h4.blk.set_ 4 _)
  have hu : ∀ k, v.ownBlock = some k → k ≠ w.heap.size := fun k hk => by have := (H.out.row.lt k hk).2; omega
  have h7 := (h5.far2 (p := ⟨w.heap.size, 0, none⟩) hg1 hu (.int .i64 ((ak : Int) + 1))).far2 (p := ⟨w.heap.size, 1, none⟩) hg1 hu (.int .i64 s)
  refine bodyPost_ret (ret_cell2 rfl rfl ((((((hr.alloc _).far (fun e => hg1 e.symm) _).far (fun e => hg1 e.symm) _).far (fun e => hg1 e.symm) _).set_ 0 _).set_ 1 _) Try.underlying30 rfl (by kernel_rfl)) rfl ⟨rfl, h7, ?_, (fun b hb hg hv => by
    repeat (refine (Below.heap_setCell _ _ _ _ (by first | exact hg | (show b ≠ w.heap.size; omega))).trans ?_)
    refine (Below.heap_alloc _ _ _ (by omega)).trans ?_
    exact (hb1.block b (by simp; omega)).trans (Below.heap_alloc w _ b hb))⟩
  have b1 := (((Below.refl B w).alloc (by omega) (.cells #[.int .i64 0, .int .i64 0] 30)).trans (hb1.mono (by simp; omega))).alloc (by omega) (.cells #[.int .i64 ((ak : Int) + 1), .int .i64 s] 30)
  repeat (first | exact b1 | refine Below.setCell ?_ (by first | exact hge | (simp; omega)) _)
set_option maxHeartbeats 4000000 in
theorem Again_yesK {B g : Nat} {v : Value} {l : List Int} {ak : Nat} {dl du s : Int} (now most draw : Int) (w : World) (h : StM w B g v l ak true dl du) (hk : l[ak]? = some s) (hl : l.length ≤ 1000) (hd : draw ≤ 9223372036854775807) (hn : ¬ now < du) :
    Calls Try.prog 10 #[.pointer (some ⟨g, 0, none⟩), .int .i64 now, .int .i64 most, .int .i64 draw] w fun e w' => e = .returned (.tuple #[.agg #[.int .i64 ((ak : Int) + 1), .int .i64 s], .bool true]) ∧ StM w' B g v l ak true (nextI dl most) (dueI now (nextI dl most) draw) ∧ Below B w w' ∧ Keeps w w' g v := by
  obtain ⟨g2, g3, g4, f2, f3, f4, -⟩ := h.cells2
  have hgl := h.blk.lt
  have hge := h.ge
  have hg1 : g ≠ w.heap.size := by omega
  have HU : Hid (∀ k, v.ownBlock = some k → k ≠ w.heap.size) := Lib.hid fun k hk => by have := (h.row.lt k hk).2; omega
  have H := Lib.hid h
  have HGL := Lib.hid hgl
  have HGE := Lib.hid hge
  clear h hgl hge
  go_enter Try.func10, Try.ntmps10
  go_wp2_with (first | (go_at_call 25; refine (Next_any _ _ _).mono ?_; rintro e w' ⟨rfl, rfl⟩) | (go_at_call 24; refine (Due_any _ _ _ _ hd).mono ?_; rintro e w' ⟨rfl, rfl⟩))
  have h2 := H.out.alloc (.cells #[.int .i64 0, .int .i64 0] 30)
  have h3 := h2.set (dl' := nextI dl most) 3 (.int .i64 (nextI dl most)) (h2.blk.set_ 3 _)
  have h4 := h3.set (du' := dueI now (nextI dl most) draw) 4 (.int .i64 (dueI now (nextI dl most) draw)) (h3.blk.set_ 4 _)
  have hr2 := ((Blk.new w 30 #[.int .i64 0, .int .i64 0]).far (p := ⟨g, 3, none⟩) (fun e => hg1 e.symm) (.int .i64 (nextI dl most))).far (p := ⟨g, 4, none⟩) (fun e => hg1 e.symm) (.int .i64 (dueI now (nextI dl most) draw))
  refine (Front_some _ h4 hk hl).mono ?_
  rintro e w1 ⟨rfl, hb1⟩
  have h5 := h4.below hb1 (Nat.le_refl _)
  have hr3 := hr2.below hb1 hr2.lt
  have r0 : w1.cell? ⟨w.heap.size, 0, none⟩ = some (.int .i64 0) := hr3.cell 0
  have r1 : w1.cell? ⟨w.heap.size, 1, none⟩ = some (.int .i64 0) := hr3.cell 1
  have q0 : w1.frozen? ⟨w.heap.size, 0, none⟩ = false := hr3.frozen 0
  have q1 : w1.frozen? ⟨w.heap.size, 1, none⟩ = false := hr3.frozen 1
  clear g2 g3 g4 f2 f3 f4
  go_wp2
  have h7 := (h5.far2 (p := ⟨w.heap.size, 0, none⟩) hg1 HU.out (.int .i64 ((ak : Int) + 1))).far2 (p := ⟨w.heap.size, 1, none⟩) hg1 HU.out (.int .i64 s)
  refine bodyPost_ret (ret_cell2 rfl rfl ((hr3.set_ 0 _).set_ 1 _) Try.underlying30 rfl (by kernel_rfl)) rfl ⟨rfl, h7, ?_, (fun b hb hg hv => by
    refine (Below.heap_setCell _ _ _ _ (by first | exact hg | (show b ≠ w.heap.size; omega))).trans ?_
    refine (Below.heap_setCell _ _ _ _ (by first | exact hg | (show b ≠ w.heap.size; omega))).trans ?_
    refine (hb1.block b (by simp; omega)).trans ?_
    repeat (refine (Below.heap_setCell _ _ _ _ (by first | exact hg | (show b ≠ w.heap.size; omega))).trans ?_)
    exact Below.heap_alloc w _ b hb)⟩
  have hge := HGE.out
  have hgl := HGL.out
  have b0 := (((Below.refl B w).alloc (by omega) (.cells #[.int .i64 0, .int .i64 0] 30)).setCell (p := ⟨g, 3, none⟩) hge (.int .i64 (nextI dl most))).setCell (p := ⟨g, 4, none⟩) hge (.int .i64 (dueI now (nextI dl most) draw))
  have b1 := b0.trans (hb1.mono (by have := hr2.lt; omega))
  exact (b1.setCell (by show B ≤ w.heap.size; omega) _).setCell (by show B ≤ w.heap.size; omega) _
set_option maxHeartbeats 4000000 in
theorem Ack_yesK {B g : Nat} {v : Value} {l : List Int} {ak : Nat} {dl du s : Int} (w : World) (h : StM w B g v l ak true dl du) (hk : l[ak]? = some s) (hl : l.length ≤ 1000) :
    Calls Try.prog 11 #[.pointer (some ⟨g, 0, none⟩), .int .i64 ((ak : Int) + 1)] w fun e w' => e = .returned (.int .i64 0) ∧ StM w' B g v l (ak + 1) false dl du ∧ Below B w w' ∧ Keeps w w' g v := by
  have hge := h.ge
  have hgl := h.blk.lt
  have hak := (List.getElem?_eq_some_iff.1 hk).1
  go_enter Try.func11, Try.ntmps11
  go_wp2_with fail
  refine (Front_some _ h hk hl).mono ?_
  rintro e w1 ⟨rfl, hb1⟩
  have h1 := h.below hb1 (Nat.le_refl _)
  obtain ⟨g2, -, -, f2, -, -, g1, f1⟩ := h1.cells2
  go_wp2
  go_ret
  have h2 := h1.alloc (.cells #[.int .i64 ((ak : Int) + 1), .int .i64 s] 30)
  have h3 := h2.set (ak' := ak + 1) 1 (.int .i64 ((ak : Int) + 1)) (h2.blk.set_ 1 _)
  have h4 := h3.set (sd' := false) 2 (.bool false) (h3.blk.set_ 2 _)
  have hsz := hb1.size
  exact ⟨rfl, h4, (((hb1.mono (by omega)).alloc (by omega) _).setCell hge _).setCell hge _, (fun b hb hg hv => by
    repeat (refine (Below.heap_setCell _ _ _ _ hg).trans ?_)
    refine (Below.heap_alloc _ _ _ (by omega)).trans ?_
    exact hb1.block b hb)⟩
set_option maxHeartbeats 4000000 in
theorem Add_yesK {B g : Nat} {v : Value} {l : List Int} {ak : Nat} {sd : Bool} {dl du : Int} (t : Int) (w : World) (h : StM w B g v l ak sd dl du) (hl : l.length ≤ 1000) (hm : mayB (stOf l) t = true) (ht : -9223372036854775808 ≤ t ∧ t ≤ 9223372036854775807) :
    Calls Try.prog 8 #[.pointer (some ⟨g, 0, none⟩), .int .i64 t] w fun e w' => e = .returned (.tuple #[.agg #[.int .i64 ((l.length : Int) + 1), .int .i64 t], .int .i64 0]) ∧ ∃ v', StM w' B g v' (l ++ [t]) ak sd dl du ∧ Below B w w' ∧ Keeps w w' g v ∧ Lies w v v' := by
  obtain ⟨i0, hi, hz0, hz1, hz2⟩ := info_parts upd_info
  have hS := fun o => State_g (w.alloc o) (h.alloc o) hl
  have hM := fun w1 => May_any (stOf l) t w1
  rw [hm] at hM
  obtain ⟨A, c, rfl, hc, hcm⟩ := h.form
  have hcell : ∀ o k, ((w.alloc o).drewN k).cell? ⟨g, 0, none⟩ = some (.slice A l.length c) := fun o k => ((h.alloc o).drewN k).blk.cell 0
  have hfro : ∀ o k, ((w.alloc o).drewN k).frozen? ⟨g, 0, none⟩ = false := fun o k => ((h.alloc o).drewN k).blk.frozen 0
  have hgl := h.blk.lt
  have HO : Hid (∀ k, (Value.slice A l.length c).ownBlock = some k → k < w.heap.size) := Lib.hid fun k hk => (h.row.lt k hk).2
  have hne : (Value.slice A l.length c).ownBlock ≠ some g := own_blk_ne h.row h.blk (by decide)
  have HR0 := fun kd => ((Blk.new w 30 #[.int .i64 0, .int .i64 0]).drewN kd).alloc (.cells #[.int .i64 ((l.length : Int) + 1), .int .i64 t] 30)
  go_enter Try.func8, Try.ntmps8
  go_wp2_with (first | (go_at_call 7; refine (hS _).mono ?_; rintro e w' ⟨rfl, kd, rfl⟩) | (go_at_call 22; refine (hM _).mono ?_; rintro e w' ⟨rfl, rfl⟩))
  have hW := ((h.alloc (.cells #[.int .i64 0, .int .i64 0] 30)).drewN kd).alloc (.cells #[.int .i64 ((l.length : Int) + 1), .int .i64 t] 30)
  have hU := Blk.new ((w.alloc (.cells #[.int .i64 0, .int .i64 0] 30)).drewN kd) 30 #[.int .i64 ((l.length : Int) + 1), .int .i64 t]
  have hsz : (((w.alloc (.cells #[.int .i64 0, .int .i64 0] 30)).drewN kd).alloc (.cells #[.int .i64 ((l.length : Int) + 1), .int .i64 t] 30)).heap.size = w.heap.size + 2 := by simp
  rw [show ((w.alloc (.cells #[.int .i64 0, .int .i64 0] 30)).drewN kd).heap.size = w.heap.size + 1 by simp] at hU
  have hR := HR0 kd
  have hBg := h.ge
  have hBA : Hid (∀ k, (Value.slice A l.length c).ownBlock = some k → B ≤ k) := Lib.hid fun k hk => (h.row.lt k hk).1
  have hbw : Below B w (((w.alloc (.cells #[.int .i64 0, .int .i64 0] 30)).drewN kd).alloc (.cells #[.int .i64 ((l.length : Int) + 1), .int .i64 t] 30)) := (below_drewN ((Below.refl B w).alloc (by omega) _) kd).alloc (by simp; omega) _
  have hkw : Below w.heap.size w (((w.alloc (.cells #[.int .i64 0, .int .i64 0] 30)).drewN kd).alloc (.cells #[.int .i64 ((l.length : Int) + 1), .int .i64 t] 30)) := (below_drewN ((Below.refl w.heap.size w).alloc (Nat.le_refl _) _) kd).alloc (by simp) _
  clear HR0
  generalize (((w.alloc (.cells #[.int .i64 0, .int .i64 0] 30)).drewN kd).alloc (.cells #[.int .i64 ((l.length : Int) + 1), .int .i64 t] 30)) = W at *
  have u0 : W.cell? ⟨w.heap.size + 1, 0, none⟩ = some (.int .i64 ((l.length : Int) + 1)) := hU.cell 0
  have u1 : W.cell? ⟨w.heap.size + 1, 1, none⟩ = some (.int .i64 t) := hU.cell 1
  have g0 : W.cell? ⟨g, 0, none⟩ = some (.slice A l.length c) := hW.blk.cell 0
  have g0o : ∀ o, (W.alloc o).cell? ⟨g, 0, none⟩ = some (.slice A l.length c) := fun o => (hW.alloc o).blk.cell 0
  have HW := Lib.hid hW
  have HU := Lib.hid hU
  have HRR := Lib.hid hR
  have HBW := Lib.hid hbw
  have HKW := Lib.hid hkw
  have HNE := Lib.hid hne
  clear hcell hfro hS hM h hW hU hR hne hbw hkw
  have HN : Hid (∀ (o : Obj) (W' : World), o = .cells #[.int .i64 ((l.length : Int) + 1), .int .i64 t] 30 → W'.heap = W.heap.push o → ∀ j u, [Value.int .i64 ((l.length : Int) + 1), .int .i64 t][j]? = some u → W'.cell? ((⟨w.heap.size + 2, 0, none⟩ : Addr).add j) = some u) := by
    intro o W' ho hW' j u hu
    subst ho
    have hj : j < 2 := (List.getElem?_eq_some_iff.1 hu).1
    rw [add_plain, Nat.zero_add]
    have hb : Blk W' (w.heap.size + 2) 30 #[.int .i64 ((l.length : Int) + 1), .int .i64 t] := by
      unfold Blk
      rw [hW', ← hsz]
      exact Array.getElem?_push_size
    rw [hb.cell j]
    simpa using hu
  go_region_law (refine step_append_lies _ rfl (.tmp 25) (.tmp 27) 37 rfl B 30 i0 (.agg #[.int .i64 0, .int .i64 0]) 2 16 Try.underlying37 hi hz0 hz1 hz2 rfl (by decide) (.slice A l.length c) l.length (updV l 0) (by simp [Act.eval]) (by first | exact (HW.out.alloc _).row | exact ((HW.out.keep fun _ _ _ => rfl).alloc _).row) ⟨w.heap.size + 2, 0, none⟩ 1 1 [.int .i64 ((l.length : Int) + 1), .int .i64 t] (by simp [Act.eval]) rfl (HN.out _ _ rfl rfl) (by simp [Value.oneCell']) (by decide) (by simp only [maxLen]; omega) (by omega) (by have := HW.out.ge; simp; omega) (w.heap.size + 2 + 1) (by simp; omega) ?_; intro u1 cap1 w1 hown1 hg1 hlies hlt1; have hb1 := ((HW.out.blk.alloc (.cells #[.int .i64 ((l.length : Int) + 1), .int .i64 t] 30)).drew).grown hg1 (fun e => HNE.out e.symm); have hU1 := ((HU.out.alloc (.cells #[.int .i64 ((l.length : Int) + 1), .int .i64 t] 30)).drew).grown hg1 (fun e => absurd (HO.out _ e.symm) (by omega)); have hR1 := ((HRR.out.alloc (.cells #[.int .i64 ((l.length : Int) + 1), .int .i64 t] 30)).drew).grown hg1 (fun e => absurd (HO.out _ e.symm) (by omega)); have q0 : w1.cell? ⟨g, 0, none⟩ = some (.slice A l.length c) := hb1.cell 0; have q1 : w1.frozen? ⟨g, 0, none⟩ = false := hb1.frozen 0; have q2 : w1.cell? ⟨w.heap.size + 1, 0, none⟩ = some (.int .i64 ((l.length : Int) + 1)) := hU1.cell 0; have q3 : w1.cell? ⟨w.heap.size + 1, 1, none⟩ = some (.int .i64 t) := hU1.cell 1; have q4 : w1.cell? ⟨w.heap.size, 0, none⟩ = some (.int .i64 0) := hR1.cell 0; have q5 : w1.cell? ⟨w.heap.size, 1, none⟩ = some (.int .i64 0) := hR1.cell 1; have q6 : w1.frozen? ⟨w.heap.size, 0, none⟩ = false := hR1.frozen 0; have q7 : w1.frozen? ⟨w.heap.size, 1, none⟩ = false := hR1.frozen 1)
  all_goals
    have n1 : g ≠ w.heap.size := by omega
    have n2 : g ≠ w.heap.size + 1 := by omega
    go_wp2
    have hb2 := ((hb1.set_ 0 (.slice (some ⟨u1, 0, none⟩) (l.length + 1) cap1)).far (p := ⟨w.heap.size, 0, none⟩) n1 (.int .i64 ((l.length : Int) + 1))).far (p := ⟨w.heap.size, 1, none⟩) n1 (.int .i64 t)
    have hR2 := ((hR1.far (p := ⟨g, 0, none⟩) (fun e => n1 e.symm) (.slice (some ⟨u1, 0, none⟩) (l.length + 1) cap1)).set_ 0 (.int .i64 ((l.length : Int) + 1))).set_ 1 (.int .i64 t)
    refine bodyPost_ret (ret_cell2 rfl rfl hR2 Try.underlying30 rfl (by kernel_rfl)) rfl ⟨rfl, .slice (some ⟨u1, 0, none⟩) (l.length + 1) cap1, ⟨hb2, ?_, HW.out.ge⟩, ?_, (fun b hb hg hv => by
      repeat (refine (Below.heap_setCell _ _ _ _ (by first | exact hg | (show b ≠ w.heap.size; omega))).trans ?_)
      refine (hg1.block b (by simp; omega) (fun e => hv e.symm)).trans ?_
      refine (Below.heap_alloc _ _ b (by omega)).trans ?_
      exact HKW.out.block b hb), (fun k hk => by
      have hku : u1 = k := by simpa [Value.ownBlock] using hk
      subst hku
      rcases hlies with h | h
      · exact .inl h
      · exact .inr (by omega))⟩
    · have hu1 : u1 ≠ g := fun e => by
        rcases hlies with h | h
        · exact HNE.out (by rw [h, e])
        · omega
      have hu2 : u1 ≠ w.heap.size := fun e => by
        rcases hlies with h | h
        · have := HO.out _ h; omega
        · omega
      rw [show (l ++ [t]).length = l.length + 1 by simp, updV_snoc, show ((0 : Nat) : Int) + (l.length : Int) + 1 = (l.length : Int) + 1 by omega]
      refine ⟨hown1.1, ?_⟩
      rcases hown1.2 with ⟨h, _⟩ | ⟨u, cap, cur, e1, e2, e3, e4⟩
      · cases h
      · injection e1 with e1 _ e1c
        injection e1 with e1
        injection e1 with e1
        subst e1 e1c
        refine .inr ⟨_, _, cur, rfl, e2, ?_, e4⟩
        exact ((Below.heap_setCell _ _ _ _ hu2).trans ((Below.heap_setCell _ _ _ _ hu2).trans (Below.heap_setCell _ _ _ _ hu1))).trans e3
    · have hb3 := ((HBW.out.alloc (by rw [hsz]; omega) (.cells #[.int .i64 ((l.length : Int) + 1), .int .i64 t] 30)).drew).grown hg1 (by simp; omega) (fun k hk => hBA.out k hk)
      exact ((hb3.setCell (by simpa using hBg) _).setCell (by simp; omega) _).setCell (by simp; omega) _
set_option maxHeartbeats 4000000 in
theorem rSay_yesK {B g : Nat} {v : Value} {l : List Int} {ak : Nat} {dl du s : Int} (now first draw : Int) (w : World) (h : RsM w B g v l ak false dl du) (hk : l[ak]? = some s) (hl : l.length ≤ 1000) (hd : draw ≤ 9223372036854775807) :
    Calls Try.prog 17 #[.pointer (some ⟨g, 0, none⟩), .int .i64 now, .int .i64 first, .int .i64 draw] w fun e w' => e = .returned (.tuple #[.agg #[.int .i64 ((ak : Int) + 1), .int .i64 s], .bool true]) ∧ RsM w' B g v l ak true first (dueI now first draw) ∧ Below B w w' ∧ Keeps w w' g v := by
  have hgl := h.blk.lt
  have hge := h.ge
  go_enter Try.func17, Try.ntmps17
  go_wp2_with fail
  refine (rFront_some _ (h.alloc _) hk hl).mono ?_
  rintro e w1 ⟨rfl, hb1⟩
  have h1 := (h.alloc _).below hb1 (Nat.le_refl _)
  obtain ⟨g2, g3, g4, f2, f3, f4, -⟩ := h1.cells2
  have hr := (Blk.new w 30 #[.int .i64 0, .int .i64 0]).below hb1 (by simp)
  have r0 : ∀ o, (w1.alloc o).cell? ⟨w.heap.size, 0, none⟩ = some (.int .i64 0) := fun o => (hr.alloc o).cell 0
  have r1 : ∀ o, (w1.alloc o).cell? ⟨w.heap.size, 1, none⟩ = some (.int .i64 0) := fun o => (hr.alloc o).cell 1
  have q0 : ∀ o, (w1.alloc o).frozen? ⟨w.heap.size, 0, none⟩ = false := fun o => (hr.alloc o).frozen 0
  have q1 : ∀ o, (w1.alloc o).frozen? ⟨w.heap.size, 1, none⟩ = false := fun o => (hr.alloc o).frozen 1
  have hg1 : g ≠ w.heap.size := by omega
  have H := Lib.hid h
  clear h
  go_wp2_with (go_at_call 30; refine (rDue_any _ _ _ _ hd).mono ?_; rintro e w' ⟨rfl, rfl⟩)
  have hsz := hb1.size
  simp at hsz
  have h2 := (h1.alloc (.cells #[.int .i64 ((ak : Int) + 1), .int .i64 s] 30))
  have h3 := h2.set (sd' := true) 2 (.bool true) (h2.blk.set_ 2 _)
  have h4 := h3.set (dl' := first) 3 (.int .i64 first) (h3.blk.set_ 3 _)
  have h5 := h4.set (du' := dueI now first draw) 4 (.int .i64 (dueI now first draw)) (h4.blk.set_ 4 _)
  have hu : ∀ k, v.ownBlock = some k → k ≠ w.heap.size := fun k hk => by have := (H.out.row.lt k hk).2; omega
  have h7 := (h5.far2 (p := ⟨w.heap.size, 0, none⟩) hg1 hu (.int .i64 ((ak : Int) + 1))).far2 (p := ⟨w.heap.size, 1, none⟩) hg1 hu (.int .i64 s)
  refine bodyPost_ret (ret_cell2 rfl rfl ((((((hr.alloc _).far (fun e => hg1 e.symm) _).far (fun e => hg1 e.symm) _).far (fun e => hg1 e.symm) _).set_ 0 _).set_ 1 _) Try.underlying30 rfl (by kernel_rfl)) rfl ⟨rfl, h7, ?_, (fun b hb hg hv => by
    repeat (refine (Below.heap_setCell _ _ _ _ (by first | exact hg | (show b ≠ w.heap.size; omega))).trans ?_)
    refine (Below.heap_alloc _ _ _ (by omega)).trans ?_
    exact (hb1.block b (by simp; omega)).trans (Below.heap_alloc w _ b hb))⟩
  have b1 := (((Below.refl B w).alloc (by omega) (.cells #[.int .i64 0, .int .i64 0] 30)).trans (hb1.mono (by simp; omega))).alloc (by omega) (.cells #[.int .i64 ((ak : Int) + 1), .int .i64 s] 30)
  repeat (first | exact b1 | refine Below.setCell ?_ (by first | exact hge | (simp; omega)) _)
set_option maxHeartbeats 4000000 in
theorem rAgain_yesK {B g : Nat} {v : Value} {l : List Int} {ak : Nat} {dl du s : Int} (now most draw : Int) (w : World) (h : RsM w B g v l ak true dl du) (hk : l[ak]? = some s) (hl : l.length ≤ 1000) (hd : draw ≤ 9223372036854775807) (hn : ¬ now < du) :
    Calls Try.prog 18 #[.pointer (some ⟨g, 0, none⟩), .int .i64 now, .int .i64 most, .int .i64 draw] w fun e w' => e = .returned (.tuple #[.agg #[.int .i64 ((ak : Int) + 1), .int .i64 s], .bool true]) ∧ RsM w' B g v l ak true (nextI dl most) (dueI now (nextI dl most) draw) ∧ Below B w w' ∧ Keeps w w' g v := by
  have hgl := h.blk.lt
  have hge := h.ge
  go_enter Try.func18, Try.ntmps18
  go_wp2_with fail
  refine (rFront_some _ (h.alloc _) hk hl).mono ?_
  rintro e w1 ⟨rfl, hb1⟩
  have h1 := (h.alloc _).below hb1 (Nat.le_refl _)
  obtain ⟨g2, g3, g4, f2, f3, f4, -⟩ := h1.cells2
  have hr := (Blk.new w 30 #[.int .i64 0, .int .i64 0]).below hb1 (by simp)
  have r0 : ∀ o, (w1.alloc o).cell? ⟨w.heap.size, 0, none⟩ = some (.int .i64 0) := fun o => (hr.alloc o).cell 0
  have r1 : ∀ o, (w1.alloc o).cell? ⟨w.heap.size, 1, none⟩ = some (.int .i64 0) := fun o => (hr.alloc o).cell 1
  have q0 : ∀ o, (w1.alloc o).frozen? ⟨w.heap.size, 0, none⟩ = false := fun o => (hr.alloc o).frozen 0
  have q1 : ∀ o, (w1.alloc o).frozen? ⟨w.heap.size, 1, none⟩ = false := fun o => (hr.alloc o).frozen 1
  have hg1 : g ≠ w.heap.size := by omega
  have H := Lib.hid h
  clear h
  go_wp2_with (first | (go_at_call 31; refine (rNext_any _ _ _).mono ?_; rintro e w' ⟨rfl, rfl⟩) | (go_at_call 30; refine (rDue_any _ _ _ _ hd).mono ?_; rintro e w' ⟨rfl, rfl⟩))
  have hsz := hb1.size
  simp at hsz
  have h2 := (h1.alloc (.cells #[.int .i64 ((ak : Int) + 1), .int .i64 s] 30))
  have h3 := h2.set (dl' := nextI dl most) 3 (.int .i64 (nextI dl most)) (h2.blk.set_ 3 _)
  have h4 := h3.set (du' := dueI now (nextI dl most) draw) 4 (.int .i64 (dueI now (nextI dl most) draw)) (h3.blk.set_ 4 _)
  have hu : ∀ k, v.ownBlock = some k → k ≠ w.heap.size := fun k hk => by have := (H.out.row.lt k hk).2; omega
  have h7 := (h4.far2 (p := ⟨w.heap.size, 0, none⟩) hg1 hu (.int .i64 ((ak : Int) + 1))).far2 (p := ⟨w.heap.size, 1, none⟩) hg1 hu (.int .i64 s)
  refine bodyPost_ret (ret_cell2 rfl rfl (((((hr.alloc _).far (fun e => hg1 e.symm) _).far (fun e => hg1 e.symm) _).set_ 0 _).set_ 1 _) Try.underlying30 rfl (by kernel_rfl)) rfl ⟨rfl, h7, ?_, (fun b hb hg hv => by
    repeat (refine (Below.heap_setCell _ _ _ _ (by first | exact hg | (show b ≠ w.heap.size; omega))).trans ?_)
    refine (Below.heap_alloc _ _ _ (by omega)).trans ?_
    exact (hb1.block b (by simp; omega)).trans (Below.heap_alloc w _ b hb))⟩
  have b1 := (((Below.refl B w).alloc (by omega) (.cells #[.int .i64 0, .int .i64 0] 30)).trans (hb1.mono (by simp; omega))).alloc (by omega) (.cells #[.int .i64 ((ak : Int) + 1), .int .i64 s] 30)
  repeat (first | exact b1 | refine Below.setCell ?_ (by first | exact hge | (simp; omega)) _)
set_option maxHeartbeats 4000000 in
theorem rAck_yesK {B g : Nat} {v : Value} {l : List Int} {ak : Nat} {dl du s : Int} (w : World) (h : RsM w B g v l ak true dl du) (hk : l[ak]? = some s) (hl : l.length ≤ 1000) :
    Calls Try.prog 19 #[.pointer (some ⟨g, 0, none⟩), .int .i64 ((ak : Int) + 1)] w fun e w' => e = .returned (.bool true) ∧ RsM w' B g v l (ak + 1) false dl du ∧ Below B w w' ∧ Keeps w w' g v := by
  have hge := h.ge
  have hgl := h.blk.lt
  have hak := (List.getElem?_eq_some_iff.1 hk).1
  go_enter Try.func19, Try.ntmps19
  go_wp2_with fail
  refine (rFront_some _ h hk hl).mono ?_
  rintro e w1 ⟨rfl, hb1⟩
  have h1 := h.below hb1 (Nat.le_refl _)
  obtain ⟨g2, -, -, f2, -, -, g1, f1⟩ := h1.cells2
  go_wp2
  go_ret
  have h2 := h1.alloc (.cells #[.int .i64 ((ak : Int) + 1), .int .i64 s] 30)
  have h3 := h2.set (ak' := ak + 1) 1 (.int .i64 ((ak : Int) + 1)) (h2.blk.set_ 1 _)
  have h4 := h3.set (sd' := false) 2 (.bool false) (h3.blk.set_ 2 _)
  have hsz := hb1.size
  exact ⟨rfl, h4, (((hb1.mono (by omega)).alloc (by omega) _).setCell hge _).setCell hge _, (fun b hb hg hv => by
    repeat (refine (Below.heap_setCell _ _ _ _ hg).trans ?_)
    refine (Below.heap_alloc _ _ _ (by omega)).trans ?_
    exact hb1.block b hb)⟩
set_option maxHeartbeats 4000000 in
theorem rAdd_yesK {B g : Nat} {v : Value} {l : List Int} {ak : Nat} {sd : Bool} {dl du : Int} (t : Int) (w : World) (h : RsM w B g v l ak sd dl du) (hl : l.length ≤ 1000) (hm : mayB (stOf l) t = true) (ht : -9223372036854775808 ≤ t ∧ t ≤ 9223372036854775807) :
    Calls Try.prog 16 #[.pointer (some ⟨g, 0, none⟩), .int .i64 t] w fun e w' => e = .returned (.tuple #[.agg #[.int .i64 ((l.length : Int) + 1), .int .i64 t], .bool true]) ∧ ∃ v', RsM w' B g v' (l ++ [t]) ak sd dl du ∧ Below B w w' ∧ Keeps w w' g v ∧ Lies w v v' := by
  obtain ⟨i0, hi, hz0, hz1, hz2⟩ := info_parts upd_info
  have hS := fun o => rState_g (w.alloc o) (h.alloc o) hl
  have hM := fun w1 => rMay_any (stOf l) t w1
  rw [hm] at hM
  obtain ⟨A, c, rfl, hc, hcm⟩ := h.form
  have hcell : ∀ o k, ((w.alloc o).drewN k).cell? ⟨g, 0, none⟩ = some (.slice A l.length c) := fun o k => ((h.alloc o).drewN k).blk.cell 0
  have hfro : ∀ o k, ((w.alloc o).drewN k).frozen? ⟨g, 0, none⟩ = false := fun o k => ((h.alloc o).drewN k).blk.frozen 0
  have hgl := h.blk.lt
  have HO : Hid (∀ k, (Value.slice A l.length c).ownBlock = some k → k < w.heap.size) := Lib.hid fun k hk => (h.row.lt k hk).2
  have hne : (Value.slice A l.length c).ownBlock ≠ some g := own_blk_ne h.row h.blk (by decide)
  have HR0 := fun kd => ((Blk.new w 30 #[.int .i64 0, .int .i64 0]).drewN kd).alloc (.cells #[.int .i64 ((l.length : Int) + 1), .int .i64 t] 30)
  go_enter Try.func16, Try.ntmps16
  go_wp2_with (first | (go_at_call 28; refine (hS _).mono ?_; rintro e w' ⟨rfl, kd, rfl⟩) | (go_at_call 27; refine (hM _).mono ?_; rintro e w' ⟨rfl, rfl⟩))
  have hW := ((h.alloc (.cells #[.int .i64 0, .int .i64 0] 30)).drewN kd).alloc (.cells #[.int .i64 ((l.length : Int) + 1), .int .i64 t] 30)
  have hU := Blk.new ((w.alloc (.cells #[.int .i64 0, .int .i64 0] 30)).drewN kd) 30 #[.int .i64 ((l.length : Int) + 1), .int .i64 t]
  have hsz : (((w.alloc (.cells #[.int .i64 0, .int .i64 0] 30)).drewN kd).alloc (.cells #[.int .i64 ((l.length : Int) + 1), .int .i64 t] 30)).heap.size = w.heap.size + 2 := by simp
  rw [show ((w.alloc (.cells #[.int .i64 0, .int .i64 0] 30)).drewN kd).heap.size = w.heap.size + 1 by simp] at hU
  have hR := HR0 kd
  have hBg := h.ge
  have hBA : Hid (∀ k, (Value.slice A l.length c).ownBlock = some k → B ≤ k) := Lib.hid fun k hk => (h.row.lt k hk).1
  have hbw : Below B w (((w.alloc (.cells #[.int .i64 0, .int .i64 0] 30)).drewN kd).alloc (.cells #[.int .i64 ((l.length : Int) + 1), .int .i64 t] 30)) := (below_drewN ((Below.refl B w).alloc (by omega) _) kd).alloc (by simp; omega) _
  have hkw : Below w.heap.size w (((w.alloc (.cells #[.int .i64 0, .int .i64 0] 30)).drewN kd).alloc (.cells #[.int .i64 ((l.length : Int) + 1), .int .i64 t] 30)) := (below_drewN ((Below.refl w.heap.size w).alloc (Nat.le_refl _) _) kd).alloc (by simp) _
  clear HR0
  generalize (((w.alloc (.cells #[.int .i64 0, .int .i64 0] 30)).drewN kd).alloc (.cells #[.int .i64 ((l.length : Int) + 1), .int .i64 t] 30)) = W at *
  have u0 : W.cell? ⟨w.heap.size + 1, 0, none⟩ = some (.int .i64 ((l.length : Int) + 1)) := hU.cell 0
  have u1 : W.cell? ⟨w.heap.size + 1, 1, none⟩ = some (.int .i64 t) := hU.cell 1
  have g0 : W.cell? ⟨g, 0, none⟩ = some (.slice A l.length c) := hW.blk.cell 0
  have g0o : ∀ o, (W.alloc o).cell? ⟨g, 0, none⟩ = some (.slice A l.length c) := fun o => (hW.alloc o).blk.cell 0
  have HW := Lib.hid hW
  have HU := Lib.hid hU
  have HRR := Lib.hid hR
  have HBW := Lib.hid hbw
  have HKW := Lib.hid hkw
  have HNE := Lib.hid hne
  clear hcell hfro hS hM h hW hU hR hne hbw hkw
  have HN : Hid (∀ (o : Obj) (W' : World), o = .cells #[.int .i64 ((l.length : Int) + 1), .int .i64 t] 30 → W'.heap = W.heap.push o → ∀ j u, [Value.int .i64 ((l.length : Int) + 1), .int .i64 t][j]? = some u → W'.cell? ((⟨w.heap.size + 2, 0, none⟩ : Addr).add j) = some u) := by
    intro o W' ho hW' j u hu
    subst ho
    have hj : j < 2 := (List.getElem?_eq_some_iff.1 hu).1
    rw [add_plain, Nat.zero_add]
    have hb : Blk W' (w.heap.size + 2) 30 #[.int .i64 ((l.length : Int) + 1), .int .i64 t] := by
      unfold Blk
      rw [hW', ← hsz]
      exact Array.getElem?_push_size
    rw [hb.cell j]
    simpa using hu
  go_region_law (refine step_append_lies _ rfl (.tmp 25) (.tmp 27) 37 rfl B 30 i0 (.agg #[.int .i64 0, .int .i64 0]) 2 16 Try.underlying37 hi hz0 hz1 hz2 rfl (by decide) (.slice A l.length c) l.length (updV l 0) (by simp [Act.eval]) (by first | exact (HW.out.alloc _).row | exact ((HW.out.keep fun _ _ _ => rfl).alloc _).row) ⟨w.heap.size + 2, 0, none⟩ 1 1 [.int .i64 ((l.length : Int) + 1), .int .i64 t] (by simp [Act.eval]) rfl (HN.out _ _ rfl rfl) (by simp [Value.oneCell']) (by decide) (by simp only [maxLen]; omega) (by omega) (by have := HW.out.ge; simp; omega) (w.heap.size + 2 + 1) (by simp; omega) ?_; intro u1 cap1 w1 hown1 hg1 hlies hlt1; have hb1 := ((HW.out.blk.alloc (.cells #[.int .i64 ((l.length : Int) + 1), .int .i64 t] 30)).drew).grown hg1 (fun e => HNE.out e.symm); have hU1 := ((HU.out.alloc (.cells #[.int .i64 ((l.length : Int) + 1), .int .i64 t] 30)).drew).grown hg1 (fun e => absurd (HO.out _ e.symm) (by omega)); have hR1 := ((HRR.out.alloc (.cells #[.int .i64 ((l.length : Int) + 1), .int .i64 t] 30)).drew).grown hg1 (fun e => absurd (HO.out _ e.symm) (by omega)); have q0 : w1.cell? ⟨g, 0, none⟩ = some (.slice A l.length c) := hb1.cell 0; have q1 : w1.frozen? ⟨g, 0, none⟩ = false := hb1.frozen 0; have q2 : w1.cell? ⟨w.heap.size + 1, 0, none⟩ = some (.int .i64 ((l.length : Int) + 1)) := hU1.cell 0; have q3 : w1.cell? ⟨w.heap.size + 1, 1, none⟩ = some (.int .i64 t) := hU1.cell 1; have q4 : w1.cell? ⟨w.heap.size, 0, none⟩ = some (.int .i64 0) := hR1.cell 0; have q5 : w1.cell? ⟨w.heap.size, 1, none⟩ = some (.int .i64 0) := hR1.cell 1; have q6 : w1.frozen? ⟨w.heap.size, 0, none⟩ = false := hR1.frozen 0; have q7 : w1.frozen? ⟨w.heap.size, 1, none⟩ = false := hR1.frozen 1)
  all_goals
    have n1 : g ≠ w.heap.size := by omega
    have n2 : g ≠ w.heap.size + 1 := by omega
    go_wp2
    have hb2 := ((hb1.set_ 0 (.slice (some ⟨u1, 0, none⟩) (l.length + 1) cap1)).far (p := ⟨w.heap.size, 0, none⟩) n1 (.int .i64 ((l.length : Int) + 1))).far (p := ⟨w.heap.size, 1, none⟩) n1 (.int .i64 t)
    have hR2 := ((hR1.far (p := ⟨g, 0, none⟩) (fun e => n1 e.symm) (.slice (some ⟨u1, 0, none⟩) (l.length + 1) cap1)).set_ 0 (.int .i64 ((l.length : Int) + 1))).set_ 1 (.int .i64 t)
    refine bodyPost_ret (ret_cell2 rfl rfl hR2 Try.underlying30 rfl (by kernel_rfl)) rfl ⟨rfl, .slice (some ⟨u1, 0, none⟩) (l.length + 1) cap1, ⟨hb2, ?_, HW.out.ge⟩, ?_, (fun b hb hg hv => by
      repeat (refine (Below.heap_setCell _ _ _ _ (by first | exact hg | (show b ≠ w.heap.size; omega))).trans ?_)
      refine (hg1.block b (by simp; omega) (fun e => hv e.symm)).trans ?_
      refine (Below.heap_alloc _ _ b (by omega)).trans ?_
      exact HKW.out.block b hb), (fun k hk => by
      have hku : u1 = k := by simpa [Value.ownBlock] using hk
      subst hku
      rcases hlies with h | h
      · exact .inl h
      · exact .inr (by omega))⟩
    · have hu1 : u1 ≠ g := fun e => by
        rcases hlies with h | h
        · exact HNE.out (by rw [h, e])
        · omega
      have hu2 : u1 ≠ w.heap.size := fun e => by
        rcases hlies with h | h
        · have := HO.out _ h; omega
        · omega
      rw [show (l ++ [t]).length = l.length + 1 by simp, updV_snoc, show ((0 : Nat) : Int) + (l.length : Int) + 1 = (l.length : Int) + 1 by omega]
      refine ⟨hown1.1, ?_⟩
      rcases hown1.2 with ⟨h, _⟩ | ⟨u, cap, cur, e1, e2, e3, e4⟩
      · cases h
      · injection e1 with e1 _ e1c
        injection e1 with e1
        injection e1 with e1
        subst e1 e1c
        refine .inr ⟨_, _, cur, rfl, e2, ?_, e4⟩
        exact ((Below.heap_setCell _ _ _ _ hu2).trans ((Below.heap_setCell _ _ _ _ hu2).trans (Below.heap_setCell _ _ _ _ hu1))).trans e3
    · have hb3 := ((HBW.out.alloc (by rw [hsz]; omega) (.cells #[.int .i64 ((l.length : Int) + 1), .int .i64 t] 30)).drew).grown hg1 (by simp; omega) (fun k hk => hBA.out k hk)
      exact ((hb3.setCell (by simpa using hBg) _).setCell (by simp; omega) _).setCell (by simp; omega) _
section
variable {w w' : World} {B g B' g' : Nat} {v v' v2 : Value} {l l' : List Int} {ak ak' : Nat} {sd sd' : Bool} {dl du dl' du' : Int}
theorem ne_gg (h : StM w B g v l ak sd dl du) (h' : RsM w B' g' v' l' ak' sd' dl' du') : g ≠ g' := h.blk.ne_ h'.blk (by decide)
theorem RsM.keepK (h : StM w B g v l ak sd dl du) (h' : RsM w B' g' v' l' ak' sd' dl' du') (ap : ∀ k, v.ownBlock = some k → v'.ownBlock ≠ some k) (hk : Keeps w w' g v) : RsM w' B' g' v' l' ak' sd' dl' du' := by
  have n1 := ne_gg h h'
  refine ⟨(hk g' h'.blk.lt (fun e => n1 e.symm) (own_blk_ne h.row h'.blk (by decide))).trans h'.blk, ⟨h'.row.1, ?_⟩, h'.ge⟩
  rcases h'.row.2 with h1 | ⟨u, cap, cur, e1, e2, e3, e4⟩
  · exact .inl h1
  · refine .inr ⟨u, cap, cur, e1, e2, (hk u (Array.getElem?_eq_some_iff.1 e3).1 ?_ ?_).trans e3, e4⟩
    · rintro rfl
      exact own_blk_ne h'.row h.blk (by decide) (by rw [e1]; rfl)
    · intro hv
      exact ap u hv (by rw [e1]; rfl)
theorem StM.keepK (h : StM w B g v l ak sd dl du) (h' : RsM w B' g' v' l' ak' sd' dl' du') (ap : ∀ k, v.ownBlock = some k → v'.ownBlock ≠ some k) (hk : Keeps w w' g' v') : StM w' B g v l ak sd dl du := by
  have n1 := ne_gg h h'
  refine ⟨(hk g h.blk.lt n1 (own_blk_ne h'.row h.blk (by decide))).trans h.blk, ⟨h.row.1, ?_⟩, h.ge⟩
  rcases h.row.2 with h1 | ⟨u, cap, cur, e1, e2, e3, e4⟩
  · exact .inl h1
  · refine .inr ⟨u, cap, cur, e1, e2, (hk u (Array.getElem?_eq_some_iff.1 e3).1 ?_ ?_).trans e3, e4⟩
    · rintro rfl
      exact own_blk_ne h.row h'.blk (by decide) (by rw [e1]; rfl)
    · intro hv
      exact ap u (by rw [e1]; rfl) hv
theorem ap_s (h' : RsM w B' g' v' l' ak' sd' dl' du') (ap : ∀ k, v.ownBlock = some k → v'.ownBlock ≠ some k) (hl : Lies w v v2) : ∀ k, v2.ownBlock = some k → v'.ownBlock ≠ some k := fun k hk e => by
  rcases hl k hk with h1 | h1
  · exact ap k h1 e
  · have := (h'.row.lt k e).2; omega
theorem ap_r (h : StM w B g v l ak sd dl du) (ap : ∀ k, v.ownBlock = some k → v'.ownBlock ≠ some k) (hl : Lies w v' v2) : ∀ k, v.ownBlock = some k → v2.ownBlock ≠ some k := fun k hk e => by
  rcases hl k e with h1 | h1
  · exact ap k hk h1
  · have := (h.row.lt k hk).2; omega
end
end Go.Proofs.Ytgeahhklhelifaa
