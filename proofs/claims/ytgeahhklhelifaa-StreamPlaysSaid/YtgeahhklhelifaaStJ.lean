/- Streams: clones, what is closed, two lists of updates that are alike. -/
import Derived.Test.YtgeahhklhelifaaRsI
import Derived.Deep.RegionHeld3
import Derived.Deep.CutRange
namespace Go.Proofs.Ytgeahhklhelifaa
open Go.ChangeShapes Go.WideShapes Go.ChangeAt Go.RowKit
set_option linter.unusedVariables false
set_option maxRecDepth 100000
set_option maxHeartbeats 4000000 in
theorem CloneU {B c : Nat} {A : Option Addr} {l : List Int} (w : World) (h : w.ownsRow B 30 2 (.slice A l.length c) l.length (updV l 0)) (hl : l.length ≤ 1000) :
    Calls Try.prog 26 #[.slice A l.length c] w fun e w' => ∃ v', e = .returned v' ∧ w'.ownsRow w.heap.size 30 2 v' l.length (updV l 0) ∧ Below w.heap.size w w' := by
  obtain ⟨i0, hi, hz0, hz1, hz2⟩ := info_parts upd_info
  have hR := Reads.of_own h
  cases A with
  | none =>
    have hl0 : l.length = 0 := by
      rcases Nat.eq_zero_or_pos l.length with e | e
      · exact e
      · obtain ⟨ad, h, _⟩ := hR.2 e; cases h
    have heq : ∀ w1, (binOp .eql 37 (.slice none l.length c) (.slice none 0 0)).run Try.prog w1 = .ok (.bool true) w1 := fun w1 => Lib.run_eql_slice_nil w1 37 30 none l.length c 0 0 Try.underlying37
    have hv := h.1
    rw [hl0] at *
    go_enter Try.func26, Try.ntmps26
    go_wp2
    go_ret
    exact ⟨_, rfl, ⟨hv, .inl ⟨rfl, rfl⟩⟩, Below.refl _ _⟩
  | some ad =>
    have heq : ∀ w1, (binOp .eql 37 (.slice (some ad) l.length c) (.slice none 0 0)).run Try.prog w1 = .ok (.bool false) w1 := fun w1 => Lib.run_eql_slice_nil w1 37 30 (some ad) l.length c 0 0 Try.underlying37
    have HR := Lib.hid hR
    have HV := Lib.hid (updV_one l 0)
    go_enter Try.func26, Try.ntmps26
    go_wp2_with (first | (at_builtin; go_must (refine wpList_append_any _ rfl _ _ 37 rfl w.heap.size 30 i0 (.agg #[.int .i64 0, .int .i64 0]) 2 16 Try.underlying37 hi hz0 hz1 hz2 rfl (by decide) _ 0 [] rfl ⟨by simp, .inr ⟨w.heap.size, 0, #[], rfl, Nat.le_refl _, heap_alloc_new w _, Nat.le_refl _, by decide, rfl, rfl⟩⟩ w.heap.size (some ad) l.length c (updV l 0) rfl (HR.out.alloc (Nat.le_refl _) _) HV.out (by simp only [maxLen]; omega) (by omega) (by simp) ?_); intro v1 w1 hown1 hg1 _hne; clear _hne; rw [Nat.zero_add, List.nil_append] at hown1))
    go_ret
    exact ⟨v1, rfl, hown1, ((Below.refl w.heap.size w).alloc (Nat.le_refl _) _).grown hg1 (by simp) (fun k hk => by injection hk with hk; subst hk; exact Nat.le_refl _)⟩
set_option maxHeartbeats 4000000 in
theorem Said_g {B g : Nat} {v : Value} {l : List Int} {ak : Nat} {sd : Bool} {dl du : Int} (w : World) (h : StM w B g v l ak sd dl du) :
    Calls Try.prog 32 #[.pointer (some ⟨g, 0, none⟩)] w fun e w' => e = .returned (.bool sd) ∧ w = w' := by
  have h2 : w.cell? ⟨g, 2, none⟩ = some (.bool sd) := h.blk.cell 2
  go_enter Try.func32, Try.ntmps32
  go_wp2
  go_ret
  exact ⟨rfl, rfl⟩
set_option maxHeartbeats 4000000 in
theorem rSaid_g {B g : Nat} {v : Value} {l : List Int} {ak : Nat} {sd : Bool} {dl du : Int} (w : World) (h : RsM w B g v l ak sd dl du) (hs : sd = true → ak < l.length) (hl : l.length ≤ 1000) :
    Calls Try.prog 33 #[.pointer (some ⟨g, 0, none⟩)] w fun e w' => e = .returned (.bool sd) ∧ ∃ k, w' = w.drewN k := by
  obtain ⟨A, c, rfl, hc, _⟩ := h.form
  have h0 : w.cell? ⟨g, 0, none⟩ = some (.slice A l.length c) := h.blk.cell 0
  have h1 : w.cell? ⟨g, 1, none⟩ = some (.int .i64 ak) := h.blk.cell 1
  have h2 : w.cell? ⟨g, 2, none⟩ = some (.bool sd) := h.blk.cell 2
  clear h
  by_cases hlt : (ak : Int) < (l.length : Int)
  · have hd : decide (ak < l.length) = true := by simpa using hlt
    generalize l.length = n at *
    cases sd
    all_goals
      go_enter Try.func33, Try.ntmps33
      go_wp2
      go_quiet (fail)
      go_wp2
      go_ret
      exact ⟨rfl, _, rfl⟩
  · have hd : decide (ak < l.length) = false := by simpa using hlt
    have hsf : sd = false := by
      cases sd with
      | false => rfl
      | true => have := hs rfl; omega
    subst hsf
    generalize l.length = n at *
    go_enter Try.func33, Try.ntmps33
    go_wp2
    go_quiet (fail)
    go_wp2
    go_ret
    exact ⟨rfl, _, rfl⟩
set_option maxHeartbeats 4000000 in
theorem Closed_g {B g : Nat} {v : Value} {l : List Int} {ak : Nat} {sd : Bool} {dl du : Int} (w : World) (h : StM w B g v l ak sd dl du) (hk : ak ≤ l.length) (hl : l.length ≤ 1000) :
    Calls Try.prog 35 #[.pointer (some ⟨g, 0, none⟩)] w fun e w' => e = .returned (.bool (overB (stOf l) && (ak == l.length))) ∧ ∃ k, w' = w.drewN k := by
  have hS := State_g w h hl
  have hP := fun k => Pending_g (w.drewN k) (h.drewN k) hk hl
  have hO := fun w1 => Over_any (stOf l) w1
  cases ho : overB (stOf l) with
  | false =>
    rw [ho] at hO
    clear h
    go_enter Try.func35, Try.ntmps35
    go_wp2_with (first | (go_at_call 7; refine hS.mono ?_; rintro e w' ⟨rfl, kd, rfl⟩) | (go_at_call 37; refine (hO _).mono ?_; rintro e w' ⟨rfl, rfl⟩))
    go_ret
    exact ⟨rfl, _, rfl⟩
  | true =>
    rw [ho] at hO
    have he : ((l.length : Int) - (ak : Int) == 0) = (ak == l.length) := by rw [Bool.eq_iff_iff]; simp; omega
    have H := Lib.hid h
    clear h
    generalize (l.length : Int) - (ak : Int) = p at *
    go_enter Try.func35, Try.ntmps35
    go_wp2_with (first | (go_at_call 7; refine hS.mono ?_; rintro e w' ⟨rfl, kd, rfl⟩) | (go_at_call 37; refine (hO _).mono ?_; rintro e w' ⟨rfl, rfl⟩) | (go_at_call 14; refine (hP _).mono ?_; rintro e w' ⟨rfl, kd2, rfl⟩))
    go_ret
    exact ⟨by first | rfl | simp [he], kd + kd2, by first | rfl | rw [World.drewN_drewN]⟩
set_option maxHeartbeats 4000000 in
theorem rClosed_g {B g : Nat} {v : Value} {l : List Int} {ak : Nat} {sd : Bool} {dl du : Int} (w : World) (h : RsM w B g v l ak sd dl du) (hk : ak ≤ l.length) (hl : l.length ≤ 1000) :
    Calls Try.prog 36 #[.pointer (some ⟨g, 0, none⟩)] w fun e w' => e = .returned (.bool (overB (stOf l) && (ak == l.length))) ∧ ∃ k, w' = w.drewN k := by
  have hS := fun k => rState_g (w.drewN k) (h.drewN k) hl
  have hO := fun w1 => rOver_any (stOf l) w1
  obtain ⟨A, c, rfl, hc, _⟩ := h.form
  have h0 : w.cell? ⟨g, 0, none⟩ = some (.slice A l.length c) := h.blk.cell 0
  have h1 : w.cell? ⟨g, 1, none⟩ = some (.int .i64 ak) := h.blk.cell 1
  have he : ((ak : Int) == (l.length : Int)) = (ak == l.length) := by rw [Bool.eq_iff_iff]; simp; omega
  cases ho : overB (stOf l)
  all_goals
    rw [ho] at hO
    clear h
    go_enter Try.func36, Try.ntmps36
    go_wp2
    go_quiet (first | (go_at_call 28; exact (hS _).mono fun e w' h => ⟨h.1, by obtain ⟨k1, e1⟩ := h.2; exact ⟨_, by rw [e1, World.drewN_drewN]⟩⟩) | (go_at_call 40; exact (hO _).mono fun e w' h => ⟨h.1, _, h.2.symm⟩))
    go_wp2
    go_ret
    exact ⟨by first | rfl | simp [he], _, rfl⟩
set_option maxHeartbeats 4000000 in
theorem Clone_g {B g : Nat} {v : Value} {l : List Int} {ak : Nat} {sd : Bool} {dl du : Int} (w : World) (h : StM w B g v l ak sd dl du) (hl : l.length ≤ 1000) :
    Calls Try.prog 20 #[.pointer (some ⟨g, 0, none⟩)] w fun e w' => ∃ g2 v2, e = .returned (.pointer (some ⟨g2, 0, none⟩)) ∧ StM w' w.heap.size g2 v2 l ak sd dl du ∧ Below w.heap.size w w' := by
  obtain ⟨A, c, rfl, hc, _⟩ := h.form
  have h0 : w.cell? ⟨g, 0, none⟩ = some (.slice A l.length c) := h.blk.cell 0
  have h1 : w.cell? ⟨g, 1, none⟩ = some (.int .i64 ak) := h.blk.cell 1
  have h2 : w.cell? ⟨g, 2, none⟩ = some (.bool sd) := h.blk.cell 2
  have h3 : w.cell? ⟨g, 3, none⟩ = some (.int .i64 dl) := h.blk.cell 3
  have h4 : w.cell? ⟨g, 4, none⟩ = some (.int .i64 du) := h.blk.cell 4
  have hgl := h.blk.lt
  have hA0 : ∀ o, (w.alloc o).cell? ⟨g, 0, none⟩ = some (.slice A l.length c) := fun o => (h.alloc o).blk.cell 0
  have hC := fun o => CloneU (w.alloc o) (h.alloc o).row hl
  clear h
  go_enter Try.func20, Try.ntmps20
  go_wp2_with fail
  refine (hC _).mono ?_
  rintro e w1 ⟨v2, rfl, ho, hb⟩
  have hx := (Blk.new w 49 #[.slice A l.length c, .int .i64 ak, .bool sd, .int .i64 dl, .int .i64 du]).below hb (by simp)
  have x0 : w1.cell? ⟨w.heap.size, 0, none⟩ = some (.slice A l.length c) := hx.cell 0
  have xf : w1.frozen? ⟨w.heap.size, 0, none⟩ = false := hx.frozen 0
  obtain ⟨A2, c2, rfl, -, -⟩ := own_slice ho
  go_wp2
  go_ret
  have hne : ∀ k, (Value.slice A2 l.length c2).ownBlock = some k → k ≠ w.heap.size := fun k hk => by have := (ho.lt k hk).1; simp at this; omega
  refine ⟨w.heap.size, .slice A2 l.length c2, rfl, ⟨hx.set_ 0 _, ⟨ho.1, ?_⟩, Nat.le_refl _⟩, ?_⟩
  · rcases ho.2 with h1 | ⟨u, cap, cur, e1, e2, e3, e4⟩
    · exact .inl h1
    · refine .inr ⟨u, cap, cur, e1, by simp at e2; omega, (Below.heap_setCell _ _ _ _ (hne u (by rw [e1]; rfl))).trans e3, e4⟩
  · exact (((Below.refl w.heap.size w).alloc (Nat.le_refl _) _).trans (hb.mono (by simp))).setCell (Nat.le_refl _) _
set_option maxHeartbeats 4000000 in
theorem SameU_eq {B B' n c c' : Nat} {A A' : Option Addr} {l : List Int} (w : World) (hn : l.length = n) (h : w.ownsRow B 30 2 (.slice A n c) n (updV l 0)) (h' : w.ownsRow B' 30 2 (.slice A' n c') n (updV l 0)) (hl : n ≤ 1000) :
    Calls Try.prog 34 #[.slice A n c, .slice A' n c'] w fun e w' => e = .returned (.bool true) ∧ ∃ k, w' = w.drewN k := by
  have form : ∀ {B c : Nat} {A : Option Addr}, w.ownsRow B 30 2 (.slice A n c) n (updV l 0) → 0 < n → ∃ u, A = some ⟨u, 0, none⟩ ∧ ∀ j, j < n * 2 → w.cell? ⟨u, j, none⟩ = (updV l 0)[j]? := fun {B c A} h hp => by
    rcases h.2 with ⟨h1, _⟩ | ⟨u, cap, cur, h1, _⟩
    · injection h1 with h1 h2 h3; omega
    · injection h1 with h1 h2 h3
      subst h1 h3
      exact ⟨u, rfl, fun j hj => h.cellAt j hj⟩
  have F := Lib.hid (And.intro (form h) (form h'))
  clear form h h'
  have HN := Lib.hid hn
  go_enter Try.func34, Try.ntmps34
  go_wp2
  go_loopw [5] (fun i wr => ∃ k m : Nat, k ≤ n ∧ i = .int .i64 k ∧ wr = w.drewN m) (fun i _ => match i with | .int _ z => (n - z).toNat | _ => 0)
  case atStart => exact ⟨0, 0, by omega, rfl, rfl⟩
  case round =>
    obtain ⟨k, m, hk, rfl, rfl⟩ := hrel
    by_cases hlt : k < n
    · obtain ⟨u, rfl, hu⟩ := F.out.1 (by omega)
      obtain ⟨u', rfl, hu'⟩ := F.out.2 (by omega)
      obtain ⟨s, hs⟩ : ∃ s, l[k]? = some s := ⟨l[k]'(by have := HN.out; omega), List.getElem?_eq_getElem _⟩
      obtain ⟨e1, e2⟩ := updV_at l 0 k s hs
      have a0 : (w.drewN m).cell? ⟨u, k * 2, none⟩ = some (.int .i64 (((0 : Nat) : Int) + (k : Int) + 1)) := (hu _ (by omega)).trans e1
      have a1 : (w.drewN m).cell? ⟨u, k * 2 + 1, none⟩ = some (.int .i64 s) := (hu _ (by omega)).trans e2
      have a2 : (w.drewN m).cell? ⟨u', k * 2, none⟩ = some (.int .i64 (((0 : Nat) : Int) + (k : Int) + 1)) := (hu' _ (by omega)).trans e1
      have a3 : (w.drewN m).cell? ⟨u', k * 2 + 1, none⟩ = some (.int .i64 s) := (hu' _ (by omega)).trans e2
      generalize (((0 : Nat) : Int) + (k : Int) + 1) = q at *
      have hki : (k : Int) < (n : Int) := by omega
      clear hu hu' e1 e2
      generalize hwd : w.drewN m = wd at *
      go_wp2
      go_quiet (fail)
      go_wp2
      refine ⟨⟨k + 1, m + nq, by omega, by simp, by rw [← hwd, World.drewN_drewN]⟩, by simp; omega⟩
    · go_wp2
      go_ret
      exact ⟨rfl, _, rfl⟩
end Go.Proofs.Ytgeahhklhelifaa
