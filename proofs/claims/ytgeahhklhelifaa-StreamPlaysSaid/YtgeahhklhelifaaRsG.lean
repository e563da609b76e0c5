/- The plain answer's stream of any updates in memory: contracts of its methods. -/
import Derived.Test.YtgeahhklhelifaaStH
namespace Go.Proofs.Ytgeahhklhelifaa
open Go.ChangeShapes Go.WideShapes Go.ChangeAt Go.RowKit
set_option linter.unusedVariables false
set_option maxRecDepth 100000
structure RsM (w : World) (B g : Nat) (v : Value) (l : List Int) (ak : Nat) (sd : Bool) (dl du : Int) : Prop where
  blk : Blk w g 43 #[v, .int .i64 ak, .bool sd, .int .i64 dl, .int .i64 du]
  row : w.ownsRow B 30 2 v l.length (updV l 0)
  ge : B ≤ g
section
variable {w w' : World} {B g : Nat} {v : Value} {l : List Int} {ak : Nat} {sd : Bool} {dl du : Int}
theorem RsM.keep (h : RsM w B g v l ak sd dl du) (hk : ∀ b, B ≤ b → b < w.heap.size → w'.heap[b]? = w.heap[b]?) : RsM w' B g v l ak sd dl du := by
  refine ⟨(hk g h.ge h.blk.lt).trans h.blk, ⟨h.row.1, ?_⟩, h.ge⟩
  rcases h.row.2 with h1 | ⟨u, cap, cur, e1, e2, e3, e4⟩
  · exact .inl h1
  · exact .inr ⟨u, cap, cur, e1, e2, (hk u e2 (Array.getElem?_eq_some_iff.1 e3).1).trans e3, e4⟩
theorem RsM.alloc (h : RsM w B g v l ak sd dl du) (o : Obj) : RsM (w.alloc o) B g v l ak sd dl du := h.keep fun b _ hb => Below.heap_alloc w o b hb
theorem RsM.drewN (h : RsM w B g v l ak sd dl du) (k : Nat) : RsM (w.drewN k) B g v l ak sd dl du := h.keep fun b _ hb => rfl
theorem RsM.below (h : RsM w B g v l ak sd dl du) {C : Nat} (hb : Below C w w') (hC : w.heap.size ≤ C) : RsM w' B g v l ak sd dl du := h.keep fun b _ hlt => hb.block b (by omega)
theorem RsM.form (h : RsM w B g v l ak sd dl du) : ∃ A c, v = .slice A l.length c ∧ l.length ≤ c ∧ c ≤ maxLen := own_slice h.row
theorem RsM.at_ (h : RsM w B g v l ak sd dl du) {k : Nat} {s : Int} (hk : l[k]? = some s) : ∃ u c, v = .slice (some ⟨u, 0, none⟩) l.length c ∧ l.length ≤ c ∧ u < w.heap.size ∧ u ≠ g ∧ w.cell? ⟨u, k * 2, none⟩ = some (.int .i64 ((k : Int) + 1)) ∧ w.cell? ⟨u, k * 2 + 1, none⟩ = some (.int .i64 s) := by
  have hlt := (List.getElem?_eq_some_iff.1 hk).1
  rcases h.row.2 with ⟨_, h0⟩ | ⟨u, cap, cur, e1, e2, e3, e4, e5, e6, e7⟩
  · omega
  · have hu := (Array.getElem?_eq_some_iff.1 e3).1
    obtain ⟨h1, h2⟩ := updV_at l 0 k s hk
    have key : ∀ j x, (updV l 0)[j]? = some x → w.cell? ⟨u, j, none⟩ = some x := by
      intro j x hx
      rw [← e7, List.getElem?_take] at hx
      split at hx
      · rw [cell_of_row w u j cur _ _ e3]; simpa using hx
      · cases hx
    refine ⟨u, cap, e1, e4, hu, ?_, by simpa using key _ _ h1, key _ _ h2⟩
    rintro rfl
    have := h.blk
    unfold Blk at this
    rw [e3] at this
    injection this with this
    injection this with _ ht
    exact absurd ht (by decide)
end
set_option maxHeartbeats 4000000 in
theorem rState_g {B g : Nat} {v : Value} {l : List Int} {ak : Nat} {sd : Bool} {dl du : Int} (w : World) (h : RsM w B g v l ak sd dl du) (hl : l.length ≤ 1000) :
    Calls Try.prog 28 #[.pointer (some ⟨g, 0, none⟩)] w fun e w' => e = .returned (.int .i64 (stOf l)) ∧ ∃ k, w' = w.drewN k := by
  by_cases h0 : l = []
  · subst h0
    obtain ⟨A, c, rfl, hc, _⟩ := h.form
    have h0 : w.cell? ⟨g, 0, none⟩ = some (.slice A 0 c) := h.blk.cell 0
    go_enter Try.func28, Try.ntmps28
    go_wp2
    go_ret
    exact ⟨rfl, 0, rfl⟩
  · have hp : 0 < l.length := List.length_pos_iff.2 h0
    obtain ⟨n, hn⟩ : ∃ n, l.length = n + 1 := ⟨l.length - 1, by omega⟩
    obtain ⟨u, c, rfl, hc, hu, hne, k1, k2⟩ := h.at_ (k := n) (s := stOf l) (by
      unfold stOf
      rw [List.getLast?_eq_getElem?, show l.length - 1 = n by omega, List.getElem?_eq_getElem (by omega)])
    have h0 : w.cell? ⟨g, 0, none⟩ = some (.slice (some ⟨u, 0, none⟩) (n + 1) c) := by have := h.blk.cell 0; rw [hn] at this; exact this
    rw [hn] at hl hc
    generalize stOf l = s at *
    clear h hn hp
    have hz : ((n : Int) + 1 == 0) = false := by simp; omega
    go_enter Try.func28, Try.ntmps28
    go_wp2
    go_quiet (fail)
    go_wp2
    go_ret
    exact ⟨rfl, _, rfl⟩
set_option maxHeartbeats 4000000 in
theorem rFront_none {B g : Nat} {v : Value} {l : List Int} {ak : Nat} {sd : Bool} {dl du : Int} (w : World) (h : RsM w B g v l ak sd dl du) (hk : ak = l.length) (hl : l.length ≤ 1000) :
    Calls Try.prog 29 #[.pointer (some ⟨g, 0, none⟩)] w fun e w' => e = .returned (.tuple #[.agg #[.int .i64 0, .int .i64 0], .bool false]) ∧ Below w.heap.size w w' := by
  obtain ⟨A, c, rfl, hc, _⟩ := h.form
  have a0 : ∀ o, (w.alloc o).cell? ⟨g, 0, none⟩ = some (.slice A l.length c) := fun o => (h.alloc o).blk.cell 0
  have a1 : ∀ o, (w.alloc o).cell? ⟨g, 1, none⟩ = some (.int .i64 ak) := fun o => (h.alloc o).blk.cell 1
  have hz : (l.length : Int) ≤ (ak : Int) := by omega
  clear h hk
  go_enter Try.func29, Try.ntmps29
  go_wp2
  go_quiet (fail)
  go_wp2
  refine bodyPost_ret (ret_cell2 rfl rfl ((((Blk.new w 30 #[.int .i64 0, .int .i64 0]).drewN _).set_ 0 _).set_ 1 _) Try.underlying30 rfl (by kernel_rfl)) rfl ?_
  exact ⟨rfl, by repeat (first | exact Below.refl _ _ | refine Below.drew ?_ | refine below_drewN ?_ _ | refine Below.alloc ?_ (by first | exact Nat.le_refl _ | (simp; done) | (simp; omega)) _ | refine Below.setCell ?_ (by first | exact Nat.le_refl _ | (simp; done) | (simp; omega)) _)⟩
set_option maxHeartbeats 4000000 in
theorem rFront_some {B g : Nat} {v : Value} {l : List Int} {ak : Nat} {sd : Bool} {dl du : Int} {s : Int} (w : World) (h : RsM w B g v l ak sd dl du) (hk : l[ak]? = some s) (hl : l.length ≤ 1000) :
    Calls Try.prog 29 #[.pointer (some ⟨g, 0, none⟩)] w fun e w' => e = .returned (.tuple #[.agg #[.int .i64 ((ak : Int) + 1), .int .i64 s], .bool true]) ∧ Below w.heap.size w w' := by
  have hlt := (List.getElem?_eq_some_iff.1 hk).1
  obtain ⟨u, c, rfl, hc, hu, hne, k1, k2⟩ := h.at_ hk
  have a0 : ∀ o, (w.alloc o).cell? ⟨g, 0, none⟩ = some (.slice (some ⟨u, 0, none⟩) l.length c) := fun o => (h.alloc o).blk.cell 0
  have a1 : ∀ o, (w.alloc o).cell? ⟨g, 1, none⟩ = some (.int .i64 ak) := fun o => (h.alloc o).blk.cell 1
  have a2 : ∀ o, (w.alloc o).cell? ⟨u, ak * 2, none⟩ = some (.int .i64 ((ak : Int) + 1)) := fun o => (World.cell?_alloc_lt w o _ hu).trans k1
  have a3 : ∀ o, (w.alloc o).cell? ⟨u, ak * 2 + 1, none⟩ = some (.int .i64 s) := fun o => (World.cell?_alloc_lt w o _ hu).trans k2
  have hz : ¬ (l.length : Int) ≤ (ak : Int) := by omega
  have hltI : (ak : Int) < (l.length : Int) := by omega
  generalize l.length = n at *
  clear h hk k1 k2
  go_enter Try.func29, Try.ntmps29
  go_wp2
  go_quiet (fail)
  go_wp2
  go_region
  go_wp2
  refine bodyPost_ret (ret_cell2 rfl rfl ((((Blk.new w 30 #[.int .i64 0, .int .i64 0]).drewN _).set_ 0 _).set_ 1 _) Try.underlying30 rfl (by kernel_rfl)) rfl ?_
  exact ⟨rfl, by repeat (first | exact Below.refl _ _ | refine Below.drew ?_ | refine below_drewN ?_ _ | refine Below.alloc ?_ (by first | exact Nat.le_refl _ | (simp; done) | (simp; omega)) _ | refine Below.setCell ?_ (by first | exact Nat.le_refl _ | (simp; done) | (simp; omega)) _)⟩
theorem rFront_g {B g : Nat} {v : Value} {l : List Int} {ak : Nat} {sd : Bool} {dl du : Int} (w : World) (h : RsM w B g v l ak sd dl du) (hk : ak ≤ l.length) (hl : l.length ≤ 1000) :
    Calls Try.prog 29 #[.pointer (some ⟨g, 0, none⟩)] w fun e w' => e = .returned (frontV l ak) ∧ Below w.heap.size w w' := by
  unfold frontV
  rcases Nat.lt_or_ge ak l.length with h1 | h1
  · rw [List.getElem?_eq_getElem h1]
    exact rFront_some w h (List.getElem?_eq_getElem h1) hl
  · rw [List.getElem?_eq_none h1]
    exact rFront_none w h (by omega) hl
set_option maxHeartbeats 4000000 in
theorem rAdd_no {B g : Nat} {v : Value} {l : List Int} {ak : Nat} {sd : Bool} {dl du : Int} (t : Int) (w : World) (h : RsM w B g v l ak sd dl du) (hl : l.length ≤ 1000) (hm : mayB (stOf l) t = false) :
    Calls Try.prog 16 #[.pointer (some ⟨g, 0, none⟩), .int .i64 t] w fun e w' => e = .returned (.tuple #[.agg #[.int .i64 0, .int .i64 0], .bool false]) ∧ Below w.heap.size w w' := by
  have hS := fun o => rState_g (w.alloc o) (h.alloc o) hl
  have hM := fun w1 => rMay_any (stOf l) t w1
  rw [hm] at hM
  go_enter Try.func16, Try.ntmps16
  go_wp2_with (first | (go_at_call 28; refine (hS _).mono ?_; rintro e w' ⟨rfl, kd, rfl⟩) | (go_at_call 27; refine (hM _).mono ?_; rintro e w' ⟨rfl, rfl⟩))
  refine bodyPost_ret (ret_cell2 rfl rfl ((((Blk.new w 30 #[.int .i64 0, .int .i64 0]).drewN _).set_ 0 _).set_ 1 _) Try.underlying30 rfl (by kernel_rfl)) rfl ?_
  exact ⟨rfl, by repeat (first | exact Below.refl _ _ | refine Below.drew ?_ | refine below_drewN ?_ _ | refine Below.alloc ?_ (by first | exact Nat.le_refl _ | (simp; done) | (simp; omega)) _ | refine Below.setCell ?_ (by first | exact Nat.le_refl _ | (simp; done) | (simp; omega)) _)⟩
set_option maxHeartbeats 4000000 in
theorem rAdd_yes {B g : Nat} {v : Value} {l : List Int} {ak : Nat} {sd : Bool} {dl du : Int} (t : Int) (w : World) (h : RsM w B g v l ak sd dl du) (hl : l.length ≤ 1000) (hm : mayB (stOf l) t = true) (ht : -9223372036854775808 ≤ t ∧ t ≤ 9223372036854775807) :
    Calls Try.prog 16 #[.pointer (some ⟨g, 0, none⟩), .int .i64 t] w fun e w' => e = .returned (.tuple #[.agg #[.int .i64 ((l.length : Int) + 1), .int .i64 t], .bool true]) ∧ ∃ v', RsM w' B g v' (l ++ [t]) ak sd dl du ∧ Below B w w' := by
  obtain ⟨i0, hi, hz0, hz1, hz2⟩ := info_parts upd_info
  have hS := fun o => rState_g (w.alloc o) (h.alloc o) hl
  have hM := fun w1 => rMay_any (stOf l) t w1
  rw [hm] at hM
  obtain ⟨A, c, rfl, hc, hcm⟩ := h.form
  have hcell : ∀ o k, ((w.alloc o).drewN k).cell? ⟨g, 0, none⟩ = some (.slice A l.length c) := fun o k => ((h.alloc o).drewN k).blk.cell 0
  have hfro : ∀ o k, ((w.alloc o).drewN k).frozen? ⟨g, 0, none⟩ = false := fun o k => ((h.alloc o).drewN k).blk.frozen 0
  have hgl := h.blk.lt
  have HO : Hid (∀ k, (Value.slice A l.length c).ownBlock = some k → k < w.heap.size) := Lib.hid fun k hk => (h.row.lt k hk).2
  have hne : (Value.slice A l.length c).ownBlock ≠ some g := own_blk_ne h.row h.blk (by decide)
  have HR0 := fun kd => ((Blk.new w 30 #[.int .i64 0, .int .i64 0]).drewN kd).alloc (.cells #[.int .i64 ((l.length : Int) + 1), .int .i64 t] 30)
  go_enter Try.func16, Try.ntmps16
  go_wp2_with (first | (go_at_call 28; refine (hS _).mono ?_; rintro e w' ⟨rfl, kd, rfl⟩) | (go_at_call 27; refine (hM _).mono ?_; rintro e w' ⟨rfl, rfl⟩))
  have hW := ((h.alloc (.cells #[.int .i64 0, .int .i64 0] 30)).drewN kd).alloc (.cells #[.int .i64 ((l.length : Int) + 1), .int .i64 t] 30)
  have hU := Blk.new ((w.alloc (.cells #[.int .i64 0, .int .i64 0] 30)).drewN kd) 30 #[.int .i64 ((l.length : Int) + 1), .int .i64 t]
  have hsz : (((w.alloc (.cells #[.int .i64 0, .int .i64 0] 30)).drewN kd).alloc (.cells #[.int .i64 ((l.length : Int) + 1), .int .i64 t] 30)).heap.size = w.heap.size + 2 := by simp
  rw [show ((w.alloc (.cells #[.int .i64 0, .int .i64 0] 30)).drewN kd).heap.size = w.heap.size + 1 by simp] at hU
  have hR := HR0 kd
  have hBg := h.ge
  have hBA : Hid (∀ k, (Value.slice A l.length c).ownBlock = some k → B ≤ k) := Lib.hid fun k hk => (h.row.lt k hk).1
  have hbw : Below B w (((w.alloc (.cells #[.int .i64 0, .int .i64 0] 30)).drewN kd).alloc (.cells #[.int .i64 ((l.length : Int) + 1), .int .i64 t] 30)) := (below_drewN ((Below.refl B w).alloc (by omega) _) kd).alloc (by simp; omega) _
  clear HR0
  generalize (((w.alloc (.cells #[.int .i64 0, .int .i64 0] 30)).drewN kd).alloc (.cells #[.int .i64 ((l.length : Int) + 1), .int .i64 t] 30)) = W at *
  have u0 : W.cell? ⟨w.heap.size + 1, 0, none⟩ = some (.int .i64 ((l.length : Int) + 1)) := hU.cell 0
  have u1 : W.cell? ⟨w.heap.size + 1, 1, none⟩ = some (.int .i64 t) := hU.cell 1
  have g0 : W.cell? ⟨g, 0, none⟩ = some (.slice A l.length c) := hW.blk.cell 0
  have g0o : ∀ o, (W.alloc o).cell? ⟨g, 0, none⟩ = some (.slice A l.length c) := fun o => (hW.alloc o).blk.cell 0
  have HW := Lib.hid hW
  have HU := Lib.hid hU
  have HRR := Lib.hid hR
  have HBW := Lib.hid hbw
  have HNE := Lib.hid hne
  clear hcell hfro hS hM h hW hU hR hne hbw
  have HN : Hid (∀ (o : Obj) (W' : World), o = .cells #[.int .i64 ((l.length : Int) + 1), .int .i64 t] 30 → W'.heap = W.heap.push o → ∀ j u, [Value.int .i64 ((l.length : Int) + 1), .int .i64 t][j]? = some u → W'.cell? ((⟨w.heap.size + 2, 0, none⟩ : Addr).add j) = some u) := by
    intro o W' ho hW' j u hu
    subst ho
    have hj : j < 2 := (List.getElem?_eq_some_iff.1 hu).1
    rw [add_plain, Nat.zero_add]
    have hb : Blk W' (w.heap.size + 2) 30 #[.int .i64 ((l.length : Int) + 1), .int .i64 t] := by
      unfold Blk
      rw [hW', ← hsz]
      exact Array.getElem?_push_size
    rw [hb.cell j]
    simpa using hu
  go_region_law (refine step_append_lies _ rfl (.tmp 25) (.tmp 27) 37 rfl B 30 i0 (.agg #[.int .i64 0, .int .i64 0]) 2 16 Try.underlying37 hi hz0 hz1 hz2 rfl (by decide) (.slice A l.length c) l.length (updV l 0) (by simp [Act.eval]) (by first | exact (HW.out.alloc _).row | exact ((HW.out.keep fun _ _ _ => rfl).alloc _).row) ⟨w.heap.size + 2, 0, none⟩ 1 1 [.int .i64 ((l.length : Int) + 1), .int .i64 t] (by simp [Act.eval]) rfl (HN.out _ _ rfl rfl) (by simp [Value.oneCell']) (by decide) (by simp only [maxLen]; omega) (by omega) (by have := HW.out.ge; simp; omega) (w.heap.size + 2 + 1) (by simp; omega) ?_; intro u1 cap1 w1 hown1 hg1 hlies hlt1; have hb1 := ((HW.out.blk.alloc (.cells #[.int .i64 ((l.length : Int) + 1), .int .i64 t] 30)).drew).grown hg1 (fun e => HNE.out e.symm); have hU1 := ((HU.out.alloc (.cells #[.int .i64 ((l.length : Int) + 1), .int .i64 t] 30)).drew).grown hg1 (fun e => absurd (HO.out _ e.symm) (by omega)); have hR1 := ((HRR.out.alloc (.cells #[.int .i64 ((l.length : Int) + 1), .int .i64 t] 30)).drew).grown hg1 (fun e => absurd (HO.out _ e.symm) (by omega)); have q0 : w1.cell? ⟨g, 0, none⟩ = some (.slice A l.length c) := hb1.cell 0; have q1 : w1.frozen? ⟨g, 0, none⟩ = false := hb1.frozen 0; have q2 : w1.cell? ⟨w.heap.size + 1, 0, none⟩ = some (.int .i64 ((l.length : Int) + 1)) := hU1.cell 0; have q3 : w1.cell? ⟨w.heap.size + 1, 1, none⟩ = some (.int .i64 t) := hU1.cell 1; have q4 : w1.cell? ⟨w.heap.size, 0, none⟩ = some (.int .i64 0) := hR1.cell 0; have q5 : w1.cell? ⟨w.heap.size, 1, none⟩ = some (.int .i64 0) := hR1.cell 1; have q6 : w1.frozen? ⟨w.heap.size, 0, none⟩ = false := hR1.frozen 0; have q7 : w1.frozen? ⟨w.heap.size, 1, none⟩ = false := hR1.frozen 1)
  all_goals
    have n1 : g ≠ w.heap.size := by omega
    have n2 : g ≠ w.heap.size + 1 := by omega
    go_wp2
    have hb2 := ((hb1.set_ 0 (.slice (some ⟨u1, 0, none⟩) (l.length + 1) cap1)).far (p := ⟨w.heap.size, 0, none⟩) n1 (.int .i64 ((l.length : Int) + 1))).far (p := ⟨w.heap.size, 1, none⟩) n1 (.int .i64 t)
    have hR2 := ((hR1.far (p := ⟨g, 0, none⟩) (fun e => n1 e.symm) (.slice (some ⟨u1, 0, none⟩) (l.length + 1) cap1)).set_ 0 (.int .i64 ((l.length : Int) + 1))).set_ 1 (.int .i64 t)
    refine bodyPost_ret (ret_cell2 rfl rfl hR2 Try.underlying30 rfl (by kernel_rfl)) rfl ⟨rfl, .slice (some ⟨u1, 0, none⟩) (l.length + 1) cap1, ⟨hb2, ?_, HW.out.ge⟩, ?_⟩
    · have hu1 : u1 ≠ g := fun e => by
        rcases hlies with h | h
        · exact HNE.out (by rw [h, e])
        · omega
      have hu2 : u1 ≠ w.heap.size := fun e => by
        rcases hlies with h | h
        · have := HO.out _ h; omega
        · omega
      rw [show (l ++ [t]).length = l.length + 1 by simp, updV_snoc, show ((0 : Nat) : Int) + (l.length : Int) + 1 = (l.length : Int) + 1 by omega]
      refine ⟨hown1.1, ?_⟩
      rcases hown1.2 with ⟨h, _⟩ | ⟨u, cap, cur, e1, e2, e3, e4⟩
      · cases h
      · injection e1 with e1 _ e1c
        injection e1 with e1
        injection e1 with e1
        subst e1 e1c
        refine .inr ⟨_, _, cur, rfl, e2, ?_, e4⟩
        exact ((Below.heap_setCell _ _ _ _ hu2).trans ((Below.heap_setCell _ _ _ _ hu2).trans (Below.heap_setCell _ _ _ _ hu1))).trans e3
    · have hb3 := ((HBW.out.alloc (by rw [hsz]; omega) (.cells #[.int .i64 ((l.length : Int) + 1), .int .i64 t] 30)).drew).grown hg1 (by simp; omega) (fun k hk => hBA.out k hk)
      exact ((hb3.setCell (by simpa using hBg) _).setCell (by simp; omega) _).setCell (by simp; omega) _
end Go.Proofs.Ytgeahhklhelifaa
