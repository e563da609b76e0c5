/- The contracts of a run's methods, and of the plain answer's. -/
import Derived.Test.YtlldpgjifdfogaaActs
import Derived.Test.YtlldpgjifdfogaaWithin
namespace Go.Proofs.Ytlldpgjifdfogaa
open Go.ChangeShapes Go.WideShapes Go.ChangeAt Go.RowKit
set_option linter.unusedVariables false
/-- A run's state: its phase, whether it is timed, when it is due. -/
abbrev RS := Int × Bool × Int
def beginR (p d : Int) (s : RS) : Int × RS := if p = 1 ∨ p = 4 then (if s.1 = 0 then (0, p, true, d) else (8, s)) else (1, s)
def helloR (s : RS) : Int × RS := if s.1 = 1 ∨ s.1 = 4 ∨ s.1 = 2 then (0, 2, false, 0) else (8, s)
def stopR (d : Int) (s : RS) : Int × RS := if s.1 = 1 ∨ s.1 = 2 ∨ s.1 = 4 then (0, 3, true, d) else (8, s)
def endR (s : RS) : Int × RS := if s.1 = 1 ∨ s.1 = 2 ∨ s.1 = 3 ∨ s.1 = 4 then (0, 5, false, 0) else (8, s)
def lateR (now : Int) (s : RS) : Bool := s.2.1 && decide (s.2.2 ≤ now)
abbrev XS := Int × Int
def beginX (p d : Int) (s : XS) : Int × XS := if p = 1 ∨ p = 4 then (if s.1 = 0 then (0, p, d) else (8, s)) else (1, s)
def helloX (s : XS) : Int × XS := if s.1 = 1 ∨ s.1 = 4 ∨ s.1 = 2 then (0, 2, -1) else (8, s)
def stopX (d : Int) (s : XS) : Int × XS := if s.1 = 1 ∨ s.1 = 4 ∨ s.1 = 2 then (0, 3, d) else (8, s)
def endX (s : XS) : Int × XS := if s.1 = 0 ∨ s.1 = 5 then (8, s) else (0, 5, -1)
def lateX (now : Int) (s : XS) : Bool := decide (s.1 ≠ 0 ∧ s.1 ≠ 2 ∧ s.1 ≠ 5) && decide (s.2 ≤ now)
/-- The program's state and the plain answer's. -/
def RunRel (s : RS) (x : XS) : Prop := s.1 = x.1 ∧ ((s.1 = 0 ∨ s.1 = 2 ∨ s.1 = 5) ∧ s.2.1 = false ∨ (s.1 = 1 ∨ s.1 = 3 ∨ s.1 = 4) ∧ s.2.1 = true ∧ s.2.2 = x.2)
theorem rel_begin {s : RS} {x : XS} (h : RunRel s x) (p d : Int) : (beginR p d s).1 = (beginX p d x).1 ∧ RunRel (beginR p d s).2 (beginX p d x).2 := by
  obtain ⟨ph, ti, du⟩ := s
  obtain ⟨q, at_⟩ := x
  obtain ⟨h1, h2⟩ := h
  simp only at h1 h2
  subst h1
  unfold beginR beginX
  simp only
  split
  · split
    · rename_i hp _
      refine ⟨rfl, rfl, .inr ⟨?_, rfl, rfl⟩⟩
      show p = 1 ∨ p = 3 ∨ p = 4
      omega
    · exact ⟨rfl, rfl, h2⟩
  · exact ⟨rfl, rfl, h2⟩
theorem rel_hello {s : RS} {x : XS} (h : RunRel s x) : (helloR s).1 = (helloX x).1 ∧ RunRel (helloR s).2 (helloX x).2 := by
  obtain ⟨ph, ti, du⟩ := s
  obtain ⟨q, at_⟩ := x
  obtain ⟨h1, h2⟩ := h
  simp only at h1 h2
  subst h1
  unfold helloR helloX
  simp only
  split
  · exact ⟨rfl, rfl, .inl ⟨.inr (.inl rfl), rfl⟩⟩
  · exact ⟨rfl, rfl, h2⟩
theorem rel_stop {s : RS} {x : XS} (h : RunRel s x) (d : Int) : (stopR d s).1 = (stopX d x).1 ∧ RunRel (stopR d s).2 (stopX d x).2 := by
  obtain ⟨ph, ti, du⟩ := s
  obtain ⟨q, at_⟩ := x
  obtain ⟨h1, h2⟩ := h
  simp only at h1 h2
  subst h1
  unfold stopR stopX
  simp only
  by_cases h : ph = 1 ∨ ph = 2 ∨ ph = 4
  · rw [if_pos h, if_pos (by omega)]
    exact ⟨rfl, rfl, .inr ⟨.inr (.inl rfl), rfl, rfl⟩⟩
  · rw [if_neg h, if_neg (by omega)]
    exact ⟨rfl, rfl, h2⟩
theorem rel_end {s : RS} {x : XS} (h : RunRel s x) : (endR s).1 = (endX x).1 ∧ RunRel (endR s).2 (endX x).2 := by
  obtain ⟨ph, ti, du⟩ := s
  obtain ⟨q, at_⟩ := x
  obtain ⟨h1, h2⟩ := h
  simp only at h1 h2
  subst h1
  unfold endR endX
  simp only
  by_cases h : ph = 1 ∨ ph = 2 ∨ ph = 3 ∨ ph = 4
  · rw [if_pos h, if_neg (by omega)]
    exact ⟨rfl, rfl, .inl ⟨.inr (.inr rfl), rfl⟩⟩
  · rw [if_neg h, if_pos (by omega)]
    exact ⟨rfl, rfl, h2⟩
theorem rel_late {s : RS} {x : XS} (h : RunRel s x) (now : Int) : lateX now x = lateR now s := by
  obtain ⟨ph, ti, du⟩ := s
  obtain ⟨q, at_⟩ := x
  obtain ⟨h1, h2⟩ := h
  simp only at h1 h2
  subst h1
  unfold lateR lateX
  simp only
  rcases h2 with ⟨h2, h3⟩ | ⟨h2, h3, h4⟩
  · rw [h3, Bool.false_and, decide_eq_false (by omega), Bool.false_and]
  · rw [h3, h4, decide_eq_true (by omega)]
set_option maxRecDepth 100000

theorem enter_ok (g : Nat) (f e : ByteArray) (n : Int) (ph du : Int) (ti : Bool) (p d : Int) (t : Bool) (w : World) (hb : Blk w g 133 #[.string f, .string e, .int .i64 n, .int .i64 ph, .bool ti, .int .i64 du]) :
    ∀ r : Int × RS, (0, p, t, d) = r → Calls Try.prog 99 #[.pointer (some ⟨g, 0, none⟩), .int .i64 p, .bool t, .int .i64 d] w fun e' w' => e' = .returned (.tuple #[]) ∧ Blk w' g 133 #[.string f, .string e, .int .i64 n, .int .i64 r.2.1, .bool r.2.2.1, .int .i64 r.2.2.2] ∧ w.grownBy w' (some g) := by
  intro r hr
  have h0 : w.cell? ⟨g, 0, none⟩ = some (.string f) := hb.cell 0
  have h1 : w.cell? ⟨g, 1, none⟩ = some (.string e) := hb.cell 1
  have h2 : w.cell? ⟨g, 2, none⟩ = some (.int .i64 n) := hb.cell 2
  have h3 : w.cell? ⟨g, 3, none⟩ = some (.int .i64 ph) := hb.cell 3
  have f3 : w.frozen? ⟨g, 3, none⟩ = false := hb.frozen 3
  have h4 : w.cell? ⟨g, 4, none⟩ = some (.bool ti) := hb.cell 4
  have f4 : w.frozen? ⟨g, 4, none⟩ = false := hb.frozen 4
  have h5 : w.cell? ⟨g, 5, none⟩ = some (.int .i64 du) := hb.cell 5
  have f5 : w.frozen? ⟨g, 5, none⟩ = false := hb.frozen 5
  subst hr
  go_enter Try.func99, Try.ntmps99
  go_wp2
  go_end0
  exact ⟨rfl, ((hb.set_ 3 _).set_ 4 _).set_ 5 _, by repeat (first | exact World.grownBy.refl _ _ | refine only_setCell ?_ (.inl rfl) _ | refine only_drewN ?_ _ | refine only_drew ?_)⟩
theorem begin_ok (g : Nat) (f e : ByteArray) (n : Int) (ph du : Int) (ti : Bool) (p d : Int) (w : World) (hb : Blk w g 133 #[.string f, .string e, .int .i64 n, .int .i64 ph, .bool ti, .int .i64 du]) :
    ∀ r, beginR p d (ph, ti, du) = r → Calls Try.prog 34 #[.pointer (some ⟨g, 0, none⟩), .int .i64 p, .int .i64 d] w fun e' w' => e' = .returned (.int .i64 r.1) ∧ Blk w' g 133 #[.string f, .string e, .int .i64 n, .int .i64 r.2.1, .bool r.2.2.1, .int .i64 r.2.2.2] ∧ w.grownBy w' (some g) := by
  intro r hr
  have h0 : w.cell? ⟨g, 0, none⟩ = some (.string f) := hb.cell 0
  have h1 : w.cell? ⟨g, 1, none⟩ = some (.string e) := hb.cell 1
  have h2 : w.cell? ⟨g, 2, none⟩ = some (.int .i64 n) := hb.cell 2
  have h3 : w.cell? ⟨g, 3, none⟩ = some (.int .i64 ph) := hb.cell 3
  have f3 : w.frozen? ⟨g, 3, none⟩ = false := hb.frozen 3
  have h4 : w.cell? ⟨g, 4, none⟩ = some (.bool ti) := hb.cell 4
  have f4 : w.frozen? ⟨g, 4, none⟩ = false := hb.frozen 4
  have h5 : w.cell? ⟨g, 5, none⟩ = some (.int .i64 du) := hb.cell 5
  have f5 : w.frozen? ⟨g, 5, none⟩ = false := hb.frozen 5
  by_cases hp : p = 1 ∨ p = 4
  · by_cases hz : ph = 0
    · have hs : beginR p d (ph, ti, du) = (0, p, true, d) := by simp only [beginR, if_pos hp, if_pos hz]
      rw [← hr, hs]
      subst hz
      rcases hp with rfl | rfl
      all_goals
        go_enter Try.func34, Try.ntmps34
        go_wp2_with (go_at_call 99; refine (enter_ok g _ _ _ _ _ _ _ _ _ _ hb _ rfl).mono ?_; rintro e' w' ⟨rfl, hb2, hg⟩)
        go_ret
        exact ⟨rfl, hb2, hg⟩
    · have hs : beginR p d (ph, ti, du) = (8, ph, ti, du) := by simp only [beginR, if_pos hp, if_neg hz]
      rw [← hr, hs]
      rcases hp with rfl | rfl
      all_goals
        go_enter Try.func34, Try.ntmps34
        go_wp2
        go_ret
        exact ⟨rfl, hb, World.grownBy.refl _ _⟩
  · have hs : beginR p d (ph, ti, du) = (1, ph, ti, du) := by simp only [beginR, if_neg hp]
    rw [← hr, hs]
    have hp1 : (p != 1) = true := by simp only [bne_iff_ne]; omega
    have hp4 : (p != 4) = true := by simp only [bne_iff_ne]; omega
    go_enter Try.func34, Try.ntmps34
    go_wp2
    go_ret
    exact ⟨rfl, hb, World.grownBy.refl _ _⟩
theorem hello_ok (g : Nat) (f e : ByteArray) (n : Int) (ph du : Int) (ti : Bool) (w : World) (hb : Blk w g 133 #[.string f, .string e, .int .i64 n, .int .i64 ph, .bool ti, .int .i64 du]) :
    ∀ r, helloR (ph, ti, du) = r → Calls Try.prog 36 #[.pointer (some ⟨g, 0, none⟩)] w fun e' w' => e' = .returned (.int .i64 r.1) ∧ Blk w' g 133 #[.string f, .string e, .int .i64 n, .int .i64 r.2.1, .bool r.2.2.1, .int .i64 r.2.2.2] ∧ w.grownBy w' (some g) := by
  intro r hr
  have h0 : w.cell? ⟨g, 0, none⟩ = some (.string f) := hb.cell 0
  have h1 : w.cell? ⟨g, 1, none⟩ = some (.string e) := hb.cell 1
  have h2 : w.cell? ⟨g, 2, none⟩ = some (.int .i64 n) := hb.cell 2
  have h3 : w.cell? ⟨g, 3, none⟩ = some (.int .i64 ph) := hb.cell 3
  have f3 : w.frozen? ⟨g, 3, none⟩ = false := hb.frozen 3
  have h4 : w.cell? ⟨g, 4, none⟩ = some (.bool ti) := hb.cell 4
  have f4 : w.frozen? ⟨g, 4, none⟩ = false := hb.frozen 4
  have h5 : w.cell? ⟨g, 5, none⟩ = some (.int .i64 du) := hb.cell 5
  have f5 : w.frozen? ⟨g, 5, none⟩ = false := hb.frozen 5
  by_cases hp : ph = 1 ∨ ph = 4 ∨ ph = 2
  · have hs : helloR (ph, ti, du) = (0, 2, false, 0) := by simp only [helloR, if_pos hp]
    rw [← hr, hs]
    rcases hp with rfl | rfl | rfl
    all_goals
      go_enter Try.func36, Try.ntmps36
      go_wp2_with (go_at_call 99; refine (enter_ok g _ _ _ _ _ _ _ _ _ _ hb _ rfl).mono ?_; rintro e' w' ⟨rfl, hb2, hg⟩)
      go_ret
      exact ⟨rfl, hb2, hg⟩
  · have hs : helloR (ph, ti, du) = (8, ph, ti, du) := by simp only [helloR, if_neg hp]
    rw [← hr, hs]
    have qe1 : (ph == 1) = false := by simp only [beq_eq_false_iff_ne, ne_eq]; omega
    have qe4 : (ph == 4) = false := by simp only [beq_eq_false_iff_ne, ne_eq]; omega
    have qe2 : (ph == 2) = false := by simp only [beq_eq_false_iff_ne, ne_eq]; omega
    go_enter Try.func36, Try.ntmps36
    go_wp2
    go_ret
    exact ⟨rfl, hb, World.grownBy.refl _ _⟩
theorem stop_ok (g : Nat) (f e : ByteArray) (n : Int) (ph du : Int) (ti : Bool) (d : Int) (w : World) (hb : Blk w g 133 #[.string f, .string e, .int .i64 n, .int .i64 ph, .bool ti, .int .i64 du]) :
    ∀ r, stopR d (ph, ti, du) = r → Calls Try.prog 38 #[.pointer (some ⟨g, 0, none⟩), .int .i64 d] w fun e' w' => e' = .returned (.int .i64 r.1) ∧ Blk w' g 133 #[.string f, .string e, .int .i64 n, .int .i64 r.2.1, .bool r.2.2.1, .int .i64 r.2.2.2] ∧ w.grownBy w' (some g) := by
  intro r hr
  have h0 : w.cell? ⟨g, 0, none⟩ = some (.string f) := hb.cell 0
  have h1 : w.cell? ⟨g, 1, none⟩ = some (.string e) := hb.cell 1
  have h2 : w.cell? ⟨g, 2, none⟩ = some (.int .i64 n) := hb.cell 2
  have h3 : w.cell? ⟨g, 3, none⟩ = some (.int .i64 ph) := hb.cell 3
  have f3 : w.frozen? ⟨g, 3, none⟩ = false := hb.frozen 3
  have h4 : w.cell? ⟨g, 4, none⟩ = some (.bool ti) := hb.cell 4
  have f4 : w.frozen? ⟨g, 4, none⟩ = false := hb.frozen 4
  have h5 : w.cell? ⟨g, 5, none⟩ = some (.int .i64 du) := hb.cell 5
  have f5 : w.frozen? ⟨g, 5, none⟩ = false := hb.frozen 5
  by_cases hp : ph = 1 ∨ ph = 2 ∨ ph = 4
  · have hs : stopR d (ph, ti, du) = (0, 3, true, d) := by simp only [stopR, if_pos hp]
    rw [← hr, hs]
    rcases hp with rfl | rfl | rfl
    all_goals
      go_enter Try.func38, Try.ntmps38
      go_wp2_with (go_at_call 99; refine (enter_ok g _ _ _ _ _ _ _ _ _ _ hb _ rfl).mono ?_; rintro e' w' ⟨rfl, hb2, hg⟩)
      go_ret
      exact ⟨rfl, hb2, hg⟩
  · have hs : stopR d (ph, ti, du) = (8, ph, ti, du) := by simp only [stopR, if_neg hp]
    rw [← hr, hs]
    have qe1 : (ph == 1) = false := by simp only [beq_eq_false_iff_ne, ne_eq]; omega
    have qe2 : (ph == 2) = false := by simp only [beq_eq_false_iff_ne, ne_eq]; omega
    have qe4 : (ph == 4) = false := by simp only [beq_eq_false_iff_ne, ne_eq]; omega
    go_enter Try.func38, Try.ntmps38
    go_wp2
    go_ret
    exact ⟨rfl, hb, World.grownBy.refl _ _⟩
theorem end_ok (g : Nat) (f e : ByteArray) (n : Int) (ph du : Int) (ti : Bool) (w : World) (hb : Blk w g 133 #[.string f, .string e, .int .i64 n, .int .i64 ph, .bool ti, .int .i64 du]) :
    ∀ r, endR (ph, ti, du) = r → Calls Try.prog 40 #[.pointer (some ⟨g, 0, none⟩)] w fun e' w' => e' = .returned (.int .i64 r.1) ∧ Blk w' g 133 #[.string f, .string e, .int .i64 n, .int .i64 r.2.1, .bool r.2.2.1, .int .i64 r.2.2.2] ∧ w.grownBy w' (some g) := by
  intro r hr
  have h0 : w.cell? ⟨g, 0, none⟩ = some (.string f) := hb.cell 0
  have h1 : w.cell? ⟨g, 1, none⟩ = some (.string e) := hb.cell 1
  have h2 : w.cell? ⟨g, 2, none⟩ = some (.int .i64 n) := hb.cell 2
  have h3 : w.cell? ⟨g, 3, none⟩ = some (.int .i64 ph) := hb.cell 3
  have f3 : w.frozen? ⟨g, 3, none⟩ = false := hb.frozen 3
  have h4 : w.cell? ⟨g, 4, none⟩ = some (.bool ti) := hb.cell 4
  have f4 : w.frozen? ⟨g, 4, none⟩ = false := hb.frozen 4
  have h5 : w.cell? ⟨g, 5, none⟩ = some (.int .i64 du) := hb.cell 5
  have f5 : w.frozen? ⟨g, 5, none⟩ = false := hb.frozen 5
  by_cases hp : ph = 1 ∨ ph = 2 ∨ ph = 3 ∨ ph = 4
  · have hs : endR (ph, ti, du) = (0, 5, false, 0) := by simp only [endR, if_pos hp]
    rw [← hr, hs]
    rcases hp with rfl | rfl | rfl | rfl
    all_goals
      go_enter Try.func40, Try.ntmps40
      go_wp2_with (go_at_call 99; refine (enter_ok g _ _ _ _ _ _ _ _ _ _ hb _ rfl).mono ?_; rintro e' w' ⟨rfl, hb2, hg⟩)
      go_ret
      exact ⟨rfl, hb2, hg⟩
  · have hs : endR (ph, ti, du) = (8, ph, ti, du) := by simp only [endR, if_neg hp]
    rw [← hr, hs]
    have qe1 : (ph == 1) = false := by simp only [beq_eq_false_iff_ne, ne_eq]; omega
    have qe2 : (ph == 2) = false := by simp only [beq_eq_false_iff_ne, ne_eq]; omega
    have qe3 : (ph == 3) = false := by simp only [beq_eq_false_iff_ne, ne_eq]; omega
    have qe4 : (ph == 4) = false := by simp only [beq_eq_false_iff_ne, ne_eq]; omega
    go_enter Try.func40, Try.ntmps40
    go_wp2
    go_ret
    exact ⟨rfl, hb, World.grownBy.refl _ _⟩
theorem xhello_ok (g : Nat) (f e : ByteArray) (n : Int) (ph du : Int) (w : World) (hb : Blk w g 63 #[.string f, .string e, .int .i64 n, .int .i64 ph, .int .i64 du]) :
    ∀ r, helloX (ph, du) = r → Calls Try.prog 37 #[.pointer (some ⟨g, 0, none⟩)] w fun e' w' => e' = .returned (.int .i64 r.1) ∧ Blk w' g 63 #[.string f, .string e, .int .i64 n, .int .i64 r.2.1, .int .i64 r.2.2] ∧ w.grownBy w' (some g) := by
  intro r hr
  have h0 : w.cell? ⟨g, 0, none⟩ = some (.string f) := hb.cell 0
  have h1 : w.cell? ⟨g, 1, none⟩ = some (.string e) := hb.cell 1
  have h2 : w.cell? ⟨g, 2, none⟩ = some (.int .i64 n) := hb.cell 2
  have h3 : w.cell? ⟨g, 3, none⟩ = some (.int .i64 ph) := hb.cell 3
  have f3 : w.frozen? ⟨g, 3, none⟩ = false := hb.frozen 3
  have h4 : w.cell? ⟨g, 4, none⟩ = some (.int .i64 du) := hb.cell 4
  have f4 : w.frozen? ⟨g, 4, none⟩ = false := hb.frozen 4
  by_cases hp : ph = 1 ∨ ph = 4 ∨ ph = 2
  · have hs : helloX (ph, du) = (0, 2, -1) := by simp only [helloX, if_pos hp]
    rw [← hr, hs]
    rcases hp with rfl | rfl | rfl
    all_goals
      go_enter Try.func37, Try.ntmps37
      go_wp2
      go_ret
      exact ⟨rfl, (hb.set_ 3 _).set_ 4 _, by repeat (first | exact World.grownBy.refl _ _ | refine only_setCell ?_ (.inl rfl) _ | refine only_drewN ?_ _ | refine only_drew ?_)⟩
  · have hs : helloX (ph, du) = (8, ph, du) := by simp only [helloX, if_neg hp]
    rw [← hr, hs]
    have qn1 : (ph != 1) = true := by simp only [bne_iff_ne, ne_eq]; omega
    have qn4 : (ph != 4) = true := by simp only [bne_iff_ne, ne_eq]; omega
    have qn2 : (ph != 2) = true := by simp only [bne_iff_ne, ne_eq]; omega
    go_enter Try.func37, Try.ntmps37
    go_wp2
    go_ret
    exact ⟨rfl, hb, World.grownBy.refl _ _⟩
theorem xstop_ok (g : Nat) (f e : ByteArray) (n : Int) (ph du : Int) (d : Int) (w : World) (hb : Blk w g 63 #[.string f, .string e, .int .i64 n, .int .i64 ph, .int .i64 du]) :
    ∀ r, stopX d (ph, du) = r → Calls Try.prog 39 #[.pointer (some ⟨g, 0, none⟩), .int .i64 d] w fun e' w' => e' = .returned (.int .i64 r.1) ∧ Blk w' g 63 #[.string f, .string e, .int .i64 n, .int .i64 r.2.1, .int .i64 r.2.2] ∧ w.grownBy w' (some g) := by
  intro r hr
  have h0 : w.cell? ⟨g, 0, none⟩ = some (.string f) := hb.cell 0
  have h1 : w.cell? ⟨g, 1, none⟩ = some (.string e) := hb.cell 1
  have h2 : w.cell? ⟨g, 2, none⟩ = some (.int .i64 n) := hb.cell 2
  have h3 : w.cell? ⟨g, 3, none⟩ = some (.int .i64 ph) := hb.cell 3
  have f3 : w.frozen? ⟨g, 3, none⟩ = false := hb.frozen 3
  have h4 : w.cell? ⟨g, 4, none⟩ = some (.int .i64 du) := hb.cell 4
  have f4 : w.frozen? ⟨g, 4, none⟩ = false := hb.frozen 4
  by_cases hp : ph = 1 ∨ ph = 4 ∨ ph = 2
  · have hs : stopX d (ph, du) = (0, 3, d) := by simp only [stopX, if_pos hp]
    rw [← hr, hs]
    rcases hp with rfl | rfl | rfl
    all_goals
      go_enter Try.func39, Try.ntmps39
      go_wp2
      go_ret
      exact ⟨rfl, (hb.set_ 3 _).set_ 4 _, by repeat (first | exact World.grownBy.refl _ _ | refine only_setCell ?_ (.inl rfl) _ | refine only_drewN ?_ _ | refine only_drew ?_)⟩
  · have hs : stopX d (ph, du) = (8, ph, du) := by simp only [stopX, if_neg hp]
    rw [← hr, hs]
    have qn1 : (ph != 1) = true := by simp only [bne_iff_ne, ne_eq]; omega
    have qn4 : (ph != 4) = true := by simp only [bne_iff_ne, ne_eq]; omega
    have qn2 : (ph != 2) = true := by simp only [bne_iff_ne, ne_eq]; omega
    go_enter Try.func39, Try.ntmps39
    go_wp2
    go_ret
    exact ⟨rfl, hb, World.grownBy.refl _ _⟩
theorem xend_ok (g : Nat) (f e : ByteArray) (n : Int) (ph du : Int) (w : World) (hb : Blk w g 63 #[.string f, .string e, .int .i64 n, .int .i64 ph, .int .i64 du]) :
    ∀ r, endX (ph, du) = r → Calls Try.prog 41 #[.pointer (some ⟨g, 0, none⟩)] w fun e' w' => e' = .returned (.int .i64 r.1) ∧ Blk w' g 63 #[.string f, .string e, .int .i64 n, .int .i64 r.2.1, .int .i64 r.2.2] ∧ w.grownBy w' (some g) := by
  intro r hr
  have h0 : w.cell? ⟨g, 0, none⟩ = some (.string f) := hb.cell 0
  have h1 : w.cell? ⟨g, 1, none⟩ = some (.string e) := hb.cell 1
  have h2 : w.cell? ⟨g, 2, none⟩ = some (.int .i64 n) := hb.cell 2
  have h3 : w.cell? ⟨g, 3, none⟩ = some (.int .i64 ph) := hb.cell 3
  have f3 : w.frozen? ⟨g, 3, none⟩ = false := hb.frozen 3
  have h4 : w.cell? ⟨g, 4, none⟩ = some (.int .i64 du) := hb.cell 4
  have f4 : w.frozen? ⟨g, 4, none⟩ = false := hb.frozen 4
  by_cases hp : ph = 0 ∨ ph = 5
  · have hs : endX (ph, du) = (8, ph, du) := by simp only [endX, if_pos hp]
    rw [← hr, hs]
    rcases hp with rfl | rfl
    all_goals
      go_enter Try.func41, Try.ntmps41
      go_wp2
      go_ret
      exact ⟨rfl, hb, World.grownBy.refl _ _⟩
  · have hs : endX (ph, du) = (0, 5, -1) := by simp only [endX, if_neg hp]
    rw [← hr, hs]
    have qe0 : (ph == 0) = false := by simp only [beq_eq_false_iff_ne, ne_eq]; omega
    have qe5 : (ph == 5) = false := by simp only [beq_eq_false_iff_ne, ne_eq]; omega
    go_enter Try.func41, Try.ntmps41
    go_wp2
    go_ret
    exact ⟨rfl, (hb.set_ 3 _).set_ 4 _, by repeat (first | exact World.grownBy.refl _ _ | refine only_setCell ?_ (.inl rfl) _ | refine only_drewN ?_ _ | refine only_drew ?_)⟩
theorem xbegin_ok (g : Nat) (f e : ByteArray) (n : Int) (ph du : Int) (p d : Int) (w : World) (hb : Blk w g 63 #[.string f, .string e, .int .i64 n, .int .i64 ph, .int .i64 du]) :
    ∀ r, beginX p d (ph, du) = r → Calls Try.prog 35 #[.pointer (some ⟨g, 0, none⟩), .int .i64 p, .int .i64 d] w fun e' w' => e' = .returned (.int .i64 r.1) ∧ Blk w' g 63 #[.string f, .string e, .int .i64 n, .int .i64 r.2.1, .int .i64 r.2.2] ∧ w.grownBy w' (some g) := by
  intro r hr
  have h0 : w.cell? ⟨g, 0, none⟩ = some (.string f) := hb.cell 0
  have h1 : w.cell? ⟨g, 1, none⟩ = some (.string e) := hb.cell 1
  have h2 : w.cell? ⟨g, 2, none⟩ = some (.int .i64 n) := hb.cell 2
  have h3 : w.cell? ⟨g, 3, none⟩ = some (.int .i64 ph) := hb.cell 3
  have f3 : w.frozen? ⟨g, 3, none⟩ = false := hb.frozen 3
  have h4 : w.cell? ⟨g, 4, none⟩ = some (.int .i64 du) := hb.cell 4
  have f4 : w.frozen? ⟨g, 4, none⟩ = false := hb.frozen 4
  by_cases hp : p = 1 ∨ p = 4
  · by_cases hz : ph = 0
    · have hs : beginX p d (ph, du) = (0, p, d) := by simp only [beginX, if_pos hp, if_pos hz]
      rw [← hr, hs]
      subst hz
      rcases hp with rfl | rfl
      all_goals
        go_enter Try.func35, Try.ntmps35
        go_wp2
        go_ret
        exact ⟨rfl, (hb.set_ 3 _).set_ 4 _, by repeat (first | exact World.grownBy.refl _ _ | refine only_setCell ?_ (.inl rfl) _ | refine only_drewN ?_ _ | refine only_drew ?_)⟩
    · have hs : beginX p d (ph, du) = (8, ph, du) := by simp only [beginX, if_pos hp, if_neg hz]
      rw [← hr, hs]
      rcases hp with rfl | rfl
      all_goals
        go_enter Try.func35, Try.ntmps35
        go_wp2
        go_ret
        exact ⟨rfl, hb, World.grownBy.refl _ _⟩
  · have hs : beginX p d (ph, du) = (1, ph, du) := by simp only [beginX, if_neg hp]
    rw [← hr, hs]
    have hp1 : (p != 1) = true := by simp only [bne_iff_ne]; omega
    have hp4 : (p != 4) = true := by simp only [bne_iff_ne]; omega
    go_enter Try.func35, Try.ntmps35
    go_wp2
    go_ret
    exact ⟨rfl, hb, World.grownBy.refl _ _⟩
theorem late_ok (g : Nat) (f e : ByteArray) (n : Int) (ph du : Int) (ti : Bool) (now : Int) (w : World) (hb : Blk w g 133 #[.string f, .string e, .int .i64 n, .int .i64 ph, .bool ti, .int .i64 du]) :
    Calls Try.prog 45 #[.pointer (some ⟨g, 0, none⟩), .int .i64 now] w fun e' w' => e' = .returned (.bool (lateR now (ph, ti, du))) ∧ w = w' := by
  have h0 : w.cell? ⟨g, 0, none⟩ = some (.string f) := hb.cell 0
  have h1 : w.cell? ⟨g, 1, none⟩ = some (.string e) := hb.cell 1
  have h2 : w.cell? ⟨g, 2, none⟩ = some (.int .i64 n) := hb.cell 2
  have h3 : w.cell? ⟨g, 3, none⟩ = some (.int .i64 ph) := hb.cell 3
  have f3 : w.frozen? ⟨g, 3, none⟩ = false := hb.frozen 3
  have h4 : w.cell? ⟨g, 4, none⟩ = some (.bool ti) := hb.cell 4
  have f4 : w.frozen? ⟨g, 4, none⟩ = false := hb.frozen 4
  have h5 : w.cell? ⟨g, 5, none⟩ = some (.int .i64 du) := hb.cell 5
  have f5 : w.frozen? ⟨g, 5, none⟩ = false := hb.frozen 5
  unfold lateR
  cases ti
  all_goals
    go_enter Try.func45, Try.ntmps45
    go_wp2
    go_ret
    exact ⟨by simp, rfl⟩
theorem xlate_ok (g : Nat) (f e : ByteArray) (n : Int) (ph du : Int) (now : Int) (w : World) (hb : Blk w g 63 #[.string f, .string e, .int .i64 n, .int .i64 ph, .int .i64 du]) :
    Calls Try.prog 46 #[.pointer (some ⟨g, 0, none⟩), .int .i64 now] w fun e' w' => e' = .returned (.bool (lateX now (ph, du))) ∧ w = w' := by
  have h0 : w.cell? ⟨g, 0, none⟩ = some (.string f) := hb.cell 0
  have h1 : w.cell? ⟨g, 1, none⟩ = some (.string e) := hb.cell 1
  have h2 : w.cell? ⟨g, 2, none⟩ = some (.int .i64 n) := hb.cell 2
  have h3 : w.cell? ⟨g, 3, none⟩ = some (.int .i64 ph) := hb.cell 3
  have f3 : w.frozen? ⟨g, 3, none⟩ = false := hb.frozen 3
  have h4 : w.cell? ⟨g, 4, none⟩ = some (.int .i64 du) := hb.cell 4
  have f4 : w.frozen? ⟨g, 4, none⟩ = false := hb.frozen 4
  unfold lateX
  by_cases z0 : ph = 0
  · subst z0
    go_enter Try.func46, Try.ntmps46
    go_wp2
    go_ret
    exact ⟨by simp, rfl⟩
  by_cases z2 : ph = 2
  · subst z2
    go_enter Try.func46, Try.ntmps46
    go_wp2
    go_ret
    exact ⟨by simp, rfl⟩
  by_cases z5 : ph = 5
  · subst z5
    go_enter Try.func46, Try.ntmps46
    go_wp2
    go_ret
    exact ⟨by simp, rfl⟩
  have q0 : (ph != 0) = true := by simp only [bne_iff_ne]; omega
  have q2 : (ph != 2) = true := by simp only [bne_iff_ne]; omega
  have q5 : (ph != 5) = true := by simp only [bne_iff_ne]; omega
  go_enter Try.func46, Try.ntmps46
  go_wp2
  go_ret
  exact ⟨by simp [z0, z2, z5], rfl⟩
theorem phase_ok (g : Nat) (f e : ByteArray) (n : Int) (ph du : Int) (ti : Bool) (w : World) (hb : Blk w g 133 #[.string f, .string e, .int .i64 n, .int .i64 ph, .bool ti, .int .i64 du]) :
    Calls Try.prog 44 #[.pointer (some ⟨g, 0, none⟩)] w fun e' w' => e' = .returned (.int .i64 ph) ∧ w = w' := by
  have h0 : w.cell? ⟨g, 0, none⟩ = some (.string f) := hb.cell 0
  have h1 : w.cell? ⟨g, 1, none⟩ = some (.string e) := hb.cell 1
  have h2 : w.cell? ⟨g, 2, none⟩ = some (.int .i64 n) := hb.cell 2
  have h3 : w.cell? ⟨g, 3, none⟩ = some (.int .i64 ph) := hb.cell 3
  have f3 : w.frozen? ⟨g, 3, none⟩ = false := hb.frozen 3
  have h4 : w.cell? ⟨g, 4, none⟩ = some (.bool ti) := hb.cell 4
  have f4 : w.frozen? ⟨g, 4, none⟩ = false := hb.frozen 4
  have h5 : w.cell? ⟨g, 5, none⟩ = some (.int .i64 du) := hb.cell 5
  have f5 : w.frozen? ⟨g, 5, none⟩ = false := hb.frozen 5
  go_enter Try.func44, Try.ntmps44
  go_wp2
  go_ret
  exact ⟨rfl, rfl⟩
theorem who_ok (g : Nat) (f e : ByteArray) (n : Int) (ph du : Int) (ti : Bool) (w : World) (hb : Blk w g 133 #[.string f, .string e, .int .i64 n, .int .i64 ph, .bool ti, .int .i64 du]) :
    Calls Try.prog 43 #[.pointer (some ⟨g, 0, none⟩)] w fun e' w' => e' = .returned (.tuple #[.string f, .string e, .int .i64 n]) ∧ ∃ k, w' = w.drewN k := by
  have h0 : w.cell? ⟨g, 0, none⟩ = some (.string f) := hb.cell 0
  have h1 : w.cell? ⟨g, 1, none⟩ = some (.string e) := hb.cell 1
  have h2 : w.cell? ⟨g, 2, none⟩ = some (.int .i64 n) := hb.cell 2
  have h3 : w.cell? ⟨g, 3, none⟩ = some (.int .i64 ph) := hb.cell 3
  have f3 : w.frozen? ⟨g, 3, none⟩ = false := hb.frozen 3
  have h4 : w.cell? ⟨g, 4, none⟩ = some (.bool ti) := hb.cell 4
  have f4 : w.frozen? ⟨g, 4, none⟩ = false := hb.frozen 4
  have h5 : w.cell? ⟨g, 5, none⟩ = some (.int .i64 du) := hb.cell 5
  have f5 : w.frozen? ⟨g, 5, none⟩ = false := hb.frozen 5
  go_enter Try.func43, Try.ntmps43
  go_wp2
  go_quiet (fail)
  go_wp2
  go_ret3
  exact ⟨rfl, _, rfl⟩
theorem clone_ok (g : Nat) (f e : ByteArray) (n : Int) (ph du : Int) (ti : Bool) (w : World) (hb : Blk w g 133 #[.string f, .string e, .int .i64 n, .int .i64 ph, .bool ti, .int .i64 du]) :
    Calls Try.prog 42 #[.pointer (some ⟨g, 0, none⟩)] w fun e' w' => e' = .returned (.pointer (some ⟨w.heap.size, 0, none⟩)) ∧ Blk w' w.heap.size 133 #[.string f, .string e, .int .i64 n, .int .i64 ph, .bool ti, .int .i64 du] ∧ Below w.heap.size w w' := by
  have h0 : w.cell? ⟨g, 0, none⟩ = some (.string f) := hb.cell 0
  have h1 : w.cell? ⟨g, 1, none⟩ = some (.string e) := hb.cell 1
  have h2 : w.cell? ⟨g, 2, none⟩ = some (.int .i64 n) := hb.cell 2
  have h3 : w.cell? ⟨g, 3, none⟩ = some (.int .i64 ph) := hb.cell 3
  have h4 : w.cell? ⟨g, 4, none⟩ = some (.bool ti) := hb.cell 4
  have h5 : w.cell? ⟨g, 5, none⟩ = some (.int .i64 du) := hb.cell 5
  go_enter Try.func42, Try.ntmps42
  go_wp2
  go_ret
  exact ⟨rfl, Blk.new _ _ _, (Below.refl _ _).alloc (Nat.le_refl _) _⟩
theorem new_ok (f e : ByteArray) (n : Int) (w : World) :
    Calls Try.prog 32 #[.string f, .string e, .int .i64 n] w fun e' w' => e' = .returned (.pointer (some ⟨w.heap.size, 0, none⟩)) ∧ Blk w' w.heap.size 133 #[.string f, .string e, .int .i64 n, .int .i64 0, .bool false, .int .i64 0] ∧ Below w.heap.size w w' ∧ w'.heap.size = w.heap.size + 1 := by
  go_enter Try.func32, Try.ntmps32
  go_wp2
  go_ret
  exact ⟨rfl, Blk.new _ _ _, (Below.refl _ _).alloc (Nat.le_refl _) _, by simp⟩
theorem xnew_ok (f e : ByteArray) (n : Int) (w : World) :
    Calls Try.prog 33 #[.string f, .string e, .int .i64 n] w fun e' w' => e' = .returned (.pointer (some ⟨w.heap.size, 0, none⟩)) ∧ Blk w' w.heap.size 63 #[.string f, .string e, .int .i64 n, .int .i64 0, .int .i64 (-1)] ∧ Below w.heap.size w w' ∧ w'.heap.size = w.heap.size + 1 := by
  go_enter Try.func33, Try.ntmps33
  go_wp2
  go_ret
  exact ⟨rfl, Blk.new _ _ _, (Below.refl _ _).alloc (Nat.le_refl _) _, by simp⟩
end Go.Proofs.Ytlldpgjifdfogaa
