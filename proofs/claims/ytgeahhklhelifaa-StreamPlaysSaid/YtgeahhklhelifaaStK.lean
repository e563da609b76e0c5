/- Two streams that are alike, the program's and the plain answer's: what is asked of both. -/
import Derived.Test.YtgeahhklhelifaaStJ
namespace Go.Proofs.Ytgeahhklhelifaa
open Go.ChangeShapes Go.WideShapes Go.ChangeAt Go.RowKit
set_option linter.unusedVariables false
set_option maxRecDepth 100000
theorem i64_small (x : Int) (h0 : 0 ≤ x) (h1 : x ≤ 9223372036854775806) : IntKind.i64.wrap x = x := by
  have hm : x % 2 ^ 64 = x := by omega
  exact (if_neg (show ¬ (true && decide (x % 2 ^ 64 ≥ 2 ^ (64 - 1))) = true by simp; omega)).trans hm
theorem front_form (l : List Int) (ak : Nat) : ∃ x y b, frontV l ak = .tuple #[.agg #[.int .i64 x, .int .i64 y], .bool b] := by
  unfold frontV
  cases l[ak]? with
  | none => exact ⟨_, _, _, rfl⟩
  | some s => exact ⟨_, _, _, rfl⟩
set_option maxHeartbeats 40000000 in
theorem Same_g {B g B' g' : Nat} {v v' : Value} {l : List Int} {ak : Nat} {sd : Bool} {dl du dl' du' : Int} (w : World) (h : StM w B g v l ak sd dl du) (h' : RsM w B' g' v' l ak sd dl' du') (hk : ak ≤ l.length) (hs : sd = true → ak < l.length) (hl : l.length ≤ 1000) :
    Calls Try.prog 21 #[.pointer (some ⟨g, 0, none⟩), .pointer (some ⟨g', 0, none⟩)] w fun e w' => e = .returned (.bool true) ∧ Below w.heap.size w w' := by
  obtain ⟨x, y, b, hf⟩ := front_form l ak
  have hF := Front_g w h hk hl
  have hG := fun {wa : World} (h : RsM wa B' g' v' l ak sd dl' du') => rFront_g wa h hk hl
  rw [hf] at hF hG
  obtain ⟨A', c', rfl, -, -⟩ := h'.form
  have hgl := h.blk.lt
  have hgl' := h'.blk.lt
  go_enter Try.func21, Try.ntmps21
  go_wp2_with fail
  refine hF.mono ?_
  rintro e w1 ⟨rfl, hb1⟩
  have hz1 := hb1.size
  have q1 := (h.below hb1 (Nat.le_refl _)).alloc (.cells #[.int .i64 x, .int .i64 y] 30)
  have q1' := (h'.below hb1 (Nat.le_refl _)).alloc (.cells #[.int .i64 x, .int .i64 y] 30)
  have hu := Blk.new w1 30 #[.int .i64 x, .int .i64 y]
  have hbe := hb1.alloc hz1 (.cells #[.int .i64 x, .int .i64 y] 30)
  clear hF
  go_wp2_with fail
  refine (hG q1').mono ?_
  rintro e w2 ⟨rfl, hb2⟩
  have hz2 := hb2.size
  have q2 := (q1.below hb2 (Nat.le_refl _)).alloc (.cells #[.int .i64 x, .int .i64 y] 30)
  have q2' := (q1'.below hb2 (Nat.le_refl _)).alloc (.cells #[.int .i64 x, .int .i64 y] 30)
  have hu2 := (hu.below hb2 hu.lt).alloc (.cells #[.int .i64 x, .int .i64 y] 30)
  have hv2 := Blk.new w2 30 #[.int .i64 x, .int .i64 y]
  have hbe2 := (hbe.trans (hb2.mono (by simp; omega))).alloc (by simp at hz2; omega) (.cells #[.int .i64 x, .int .i64 y] 30)
  clear hG h h' q1 q1' hu hbe hb1
  go_upto_region 5 with fail
  generalize (w2.alloc (.cells #[.int .i64 x, .int .i64 y] 30)) = W at *
  have keep : ∀ {wa wb : World}, (wa.cell? ⟨w1.heap.size, 0, none⟩ = some (.int .i64 x) ∧ wa.cell? ⟨w1.heap.size, 1, none⟩ = some (.int .i64 y) ∧ wa.cell? ⟨w2.heap.size, 0, none⟩ = some (.int .i64 x) ∧ wa.cell? ⟨w2.heap.size, 1, none⟩ = some (.int .i64 y) ∧ wa.cell? ⟨g', 0, none⟩ = some (.slice A' l.length c') ∧ wa.cell? ⟨g', 1, none⟩ = some (.int .i64 ak) ∧ (StM wa B g v l ak sd dl du ∧ RsM wa B' g' (.slice A' l.length c') l ak sd dl' du' ∧ Below w.heap.size w wa ∧ w1.heap.size < wa.heap.size ∧ w2.heap.size < wa.heap.size)) → Below wa.heap.size wa wb → (wb.cell? ⟨w1.heap.size, 0, none⟩ = some (.int .i64 x) ∧ wb.cell? ⟨w1.heap.size, 1, none⟩ = some (.int .i64 y) ∧ wb.cell? ⟨w2.heap.size, 0, none⟩ = some (.int .i64 x) ∧ wb.cell? ⟨w2.heap.size, 1, none⟩ = some (.int .i64 y) ∧ wb.cell? ⟨g', 0, none⟩ = some (.slice A' l.length c') ∧ wb.cell? ⟨g', 1, none⟩ = some (.int .i64 ak) ∧ (StM wb B g v l ak sd dl du ∧ RsM wb B' g' (.slice A' l.length c') l ak sd dl' du' ∧ Below w.heap.size w wb ∧ w1.heap.size < wb.heap.size ∧ w2.heap.size < wb.heap.size)) := fun h hb => by
    obtain ⟨k1, k2, k3, k4, k5, k6, k7, k8, k9, k10, k11⟩ := h
    have k12 := k8.blk.lt
    exact ⟨(hb.cell k10).trans k1, (hb.cell k10).trans k2, (hb.cell k11).trans k3, (hb.cell k11).trans k4, (hb.cell k12).trans k5, (hb.cell k12).trans k6, k7.below hb (Nat.le_refl _), k8.below hb (Nat.le_refl _), k9.trans (hb.mono k9.size), Nat.lt_of_lt_of_le k10 hb.size, Nat.lt_of_lt_of_le k11 hb.size⟩
  have hS0 : W.cell? ⟨w1.heap.size, 0, none⟩ = some (.int .i64 x) ∧ W.cell? ⟨w1.heap.size, 1, none⟩ = some (.int .i64 y) ∧ W.cell? ⟨w2.heap.size, 0, none⟩ = some (.int .i64 x) ∧ W.cell? ⟨w2.heap.size, 1, none⟩ = some (.int .i64 y) ∧ W.cell? ⟨g', 0, none⟩ = some (.slice A' l.length c') ∧ W.cell? ⟨g', 1, none⟩ = some (.int .i64 ak) ∧ (StM W B g v l ak sd dl du ∧ RsM W B' g' (.slice A' l.length c') l ak sd dl' du' ∧ Below w.heap.size w W ∧ w1.heap.size < W.heap.size ∧ w2.heap.size < W.heap.size) := ⟨hu2.cell 0, hu2.cell 1, hv2.cell 0, hv2.cell 1, q2'.blk.cell 0, q2'.blk.cell 1, q2, q2', hbe2, hu2.lt, hv2.lt⟩
  have hD : ∀ {wa wb : World}, (∃ k, wb = wa.drewN k) → Below wa.heap.size wa wb := fun h => by
    obtain ⟨k, rfl⟩ := h
    exact below_drewN (Below.refl _ _) k
  have hDr : ∀ {wa : World}, Below wa.heap.size wa wa.drew := (Below.refl _ _).drew
  have c1 : ∀ {wa : World} {p1 p2 p3 p4 p5 p6 p7 : Prop}, (p1 ∧ p2 ∧ p3 ∧ p4 ∧ p5 ∧ p6 ∧ (StM wa B g v l ak sd dl du ∧ p7)) → Calls Try.prog 32 #[.pointer (some ⟨g, 0, none⟩)] wa fun e w' => e = .returned (.bool sd) ∧ Below wa.heap.size wa w' := fun h => (Said_g _ h.2.2.2.2.2.2.1).mono fun e w' h => ⟨h.1, by rw [← h.2]; exact Below.refl _ _⟩
  have c2 : ∀ {wa : World} {p1 p2 p3 p4 p5 p6 p7 p8 : Prop}, (p1 ∧ p2 ∧ p3 ∧ p4 ∧ p5 ∧ p6 ∧ (p7 ∧ RsM wa B' g' (.slice A' l.length c') l ak sd dl' du' ∧ p8)) → Calls Try.prog 33 #[.pointer (some ⟨g', 0, none⟩)] wa fun e w' => e = .returned (.bool sd) ∧ Below wa.heap.size wa w' := fun h => (rSaid_g _ h.2.2.2.2.2.2.2.1 hs hl).mono fun e w' h => ⟨h.1, hD h.2⟩
  have c3 : ∀ {wa : World} {p1 p2 p3 p4 p5 p6 p7 : Prop}, (p1 ∧ p2 ∧ p3 ∧ p4 ∧ p5 ∧ p6 ∧ (StM wa B g v l ak sd dl du ∧ p7)) → Calls Try.prog 7 #[.pointer (some ⟨g, 0, none⟩)] wa fun e w' => e = .returned (.int .i64 (stOf l)) ∧ Below wa.heap.size wa w' := fun h => (State_g _ h.2.2.2.2.2.2.1 hl).mono fun e w' h => ⟨h.1, hD h.2⟩
  have c4 : ∀ {wa : World} {p1 p2 p3 p4 p5 p6 p7 p8 : Prop}, (p1 ∧ p2 ∧ p3 ∧ p4 ∧ p5 ∧ p6 ∧ (p7 ∧ RsM wa B' g' (.slice A' l.length c') l ak sd dl' du' ∧ p8)) → Calls Try.prog 28 #[.pointer (some ⟨g', 0, none⟩)] wa fun e w' => e = .returned (.int .i64 (stOf l)) ∧ Below wa.heap.size wa w' := fun h => (rState_g _ h.2.2.2.2.2.2.2.1 hl).mono fun e w' h => ⟨h.1, hD h.2⟩
  have c5 : ∀ {wa : World} {p1 p2 p3 p4 p5 p6 p7 : Prop}, (p1 ∧ p2 ∧ p3 ∧ p4 ∧ p5 ∧ p6 ∧ (StM wa B g v l ak sd dl du ∧ p7)) → Calls Try.prog 14 #[.pointer (some ⟨g, 0, none⟩)] wa fun e w' => e = .returned (.int .i64 ((l.length : Int) - (ak : Int))) ∧ Below wa.heap.size wa w' := fun h => (Pending_g _ h.2.2.2.2.2.2.1 hk hl).mono fun e w' h => ⟨h.1, hD h.2⟩
  have c6 : ∀ {wa : World} {p1 p2 p3 p4 p5 p6 p7 : Prop}, (p1 ∧ p2 ∧ p3 ∧ p4 ∧ p5 ∧ p6 ∧ (StM wa B g v l ak sd dl du ∧ p7)) → Calls Try.prog 12 #[.pointer (some ⟨g, 0, none⟩)] wa fun e w' => e = .returned (.int .i64 ak) ∧ Below wa.heap.size wa w' := fun h => (Acked_g _ h.2.2.2.2.2.2.1).mono fun e w' h => ⟨h.1, by rw [← h.2]; exact Below.refl _ _⟩
  have c7 : ∀ {wa : World} {p1 p2 p3 p4 p5 p6 p7 : Prop}, (p1 ∧ p2 ∧ p3 ∧ p4 ∧ p5 ∧ p6 ∧ (StM wa B g v l ak sd dl du ∧ p7)) → Calls Try.prog 13 #[.pointer (some ⟨g, 0, none⟩)] wa fun e w' => ∃ A c, e = .returned (.slice A l.length c) ∧ w'.ownsRow wa.heap.size 30 2 (.slice A l.length c) l.length (updV l 0) ∧ Below wa.heap.size wa w' := fun h => (Updates_g _ h.2.2.2.2.2.2.1 hl).mono fun e w' h => by
    obtain ⟨v1, h1, h2, h3⟩ := h
    obtain ⟨A, c, rfl, -, -⟩ := own_slice h2
    exact ⟨A, c, h1, h2, h3⟩
  have c8 : ∀ {wa : World} {p1 p2 p3 p4 p5 p6 p7 p8 : Prop} {A : Option Addr} {c B0 : Nat}, (p1 ∧ p2 ∧ p3 ∧ p4 ∧ p5 ∧ p6 ∧ (p7 ∧ RsM wa B' g' (.slice A' l.length c') l ak sd dl' du' ∧ p8)) → wa.ownsRow B0 30 2 (.slice A l.length c) l.length (updV l 0) → Calls Try.prog 34 #[.slice A l.length c, .slice A' l.length c'] wa fun e w' => e = .returned (.bool true) ∧ Below wa.heap.size wa w' := fun h h2 => (SameU_eq _ rfl h2 h.2.2.2.2.2.2.2.1.row hl).mono fun e w' h => ⟨h.1, hD h.2⟩
  have c9 : ∀ {wa : World} {p1 p2 p3 p4 p5 p6 p7 : Prop}, (p1 ∧ p2 ∧ p3 ∧ p4 ∧ p5 ∧ p6 ∧ (StM wa B g v l ak sd dl du ∧ p7)) → Calls Try.prog 35 #[.pointer (some ⟨g, 0, none⟩)] wa fun e w' => e = .returned (.bool (overB (stOf l) && (ak == l.length))) ∧ Below wa.heap.size wa w' := fun h => (Closed_g _ h.2.2.2.2.2.2.1 hk hl).mono fun e w' h => ⟨h.1, hD h.2⟩
  have c10 : ∀ {wa : World} {p1 p2 p3 p4 p5 p6 p7 p8 : Prop}, (p1 ∧ p2 ∧ p3 ∧ p4 ∧ p5 ∧ p6 ∧ (p7 ∧ RsM wa B' g' (.slice A' l.length c') l ak sd dl' du' ∧ p8)) → Calls Try.prog 36 #[.pointer (some ⟨g', 0, none⟩)] wa fun e w' => e = .returned (.bool (overB (stOf l) && (ak == l.length))) ∧ Below wa.heap.size wa w' := fun h => (rClosed_g _ h.2.2.2.2.2.2.2.1 hk hl).mono fun e w' h => ⟨h.1, hD h.2⟩
  generalize hcl : (overB (stOf l) && (ak == l.length)) = cl at *
  have hkl : (ak : Int) ≤ (l.length : Int) := by omega
  have hli : (l.length : Int) ≤ 1000 := by omega
  clear hu2 hv2 q2 q2' hbe2 hf hb2 hcl hs
  generalize hn : l.length = n at *
  have hwr : IntKind.i64.wrap ((n : Int) - (ak : Int)) = (n : Int) - (ak : Int) := i64_small _ (by omega) (by omega)
  have hbq : (((n : Int) - (ak : Int)) == ((n : Int) - (ak : Int))) = true := by simp
  go_region_held3 (fun wa => wa.cell? ⟨w1.heap.size, 0, none⟩ = some (.int .i64 x) ∧ wa.cell? ⟨w1.heap.size, 1, none⟩ = some (.int .i64 y) ∧ wa.cell? ⟨w2.heap.size, 0, none⟩ = some (.int .i64 x) ∧ wa.cell? ⟨w2.heap.size, 1, none⟩ = some (.int .i64 y) ∧ wa.cell? ⟨g', 0, none⟩ = some (.slice A' n c') ∧ wa.cell? ⟨g', 1, none⟩ = some (.int .i64 ak) ∧ (StM wa B g v l ak sd dl du ∧ RsM wa B' g' (.slice A' n c') l ak sd dl' du' ∧ Below w.heap.size w wa ∧ w1.heap.size < wa.heap.size ∧ w2.heap.size < wa.heap.size)) (first | assumption | exact keep (by assumption) (by assumption) | exact keep (by assumption) hDr | exact keep (keep (by assumption) hDr) (by assumption))
    (first
      | (go_at_call 32; refine (c1 (by assumption)).mono ?_; rintro e w' ⟨rfl, hb⟩)
      | (go_at_call 33; refine (c2 (by assumption)).mono ?_; rintro e w' ⟨rfl, hb⟩)
      | (go_at_call 7; refine (c3 (by assumption)).mono ?_; rintro e w' ⟨rfl, hb⟩)
      | (go_at_call 28; refine (c4 (by assumption)).mono ?_; rintro e w' ⟨rfl, hb⟩)
      | (go_at_call 14; refine (c5 (by assumption)).mono ?_; rintro e w' ⟨rfl, hb⟩)
      | (go_at_call 12; refine (c6 (by assumption)).mono ?_; rintro e w' ⟨rfl, hb⟩)
      | (go_at_call 13; refine (c7 (by assumption)).mono ?_; rintro e w' ⟨A5, c5, rfl, ho, hb⟩)
      | (go_at_call 34; refine (c8 (by assumption) (by assumption)).mono ?_; rintro e w' ⟨rfl, hb⟩)
      | (go_at_call 35; refine (c9 (by assumption)).mono ?_; rintro e w' ⟨rfl, hb⟩)
      | (go_at_call 36; refine (c10 (by assumption)).mono ?_; rintro e w' ⟨rfl, hb⟩))
  rename_i hHeld
  go_wp2
  go_ret
  exact ⟨rfl, hHeld.2.2.2.2.2.2.2.2.1⟩
end Go.Proofs.Ytgeahhklhelifaa
