/- Contracts of the functions of package life, and of the plain answers. -/
import Derived.Test.YtgeahhklhelifaaWithin
namespace Go.Proofs.Ytgeahhklhelifaa
open Go.ChangeShapes Go.WideShapes Go.ChangeAt Go.RowKit

def overB (s : Int) : Bool := decide (3 ≤ s) && decide (s ≤ 7)
def mayB (f t : Int) : Bool := if f = 1 then (t == 2) || overB t else if f = 2 then overB t && !(t == 7) else false
theorem over_yes {s : Int} (h : 3 ≤ s) (h' : s ≤ 7) : overB s = true := by simp [overB, h, h']
theorem over_no {s : Int} (h : ¬ (3 ≤ s ∧ s ≤ 7)) : overB s = false := by simp [overB]; omega

set_option maxHeartbeats 400000 in
theorem Over_any (s : Int) (w : World) :
    Calls Try.prog 37 #[.int .i64 s] w fun e w' => e = .returned (.bool (overB s)) ∧ w = w' := by
  by_cases h : 3 ≤ s
  · by_cases h' : s ≤ 7
    · go_enter Try.func37, Try.ntmps37
      go_wp2
      go_ret
      exact ⟨ret_bool (by rw [over_yes h h']), rfl⟩
    · go_enter Try.func37, Try.ntmps37
      go_wp2
      go_ret
      exact ⟨ret_bool (by rw [over_no (by omega)]), rfl⟩
  · go_enter Try.func37, Try.ntmps37
    go_wp2
    go_ret
    exact ⟨ret_bool (by rw [over_no (by omega)]), rfl⟩
set_option maxHeartbeats 400000 in
theorem rOver_any (s : Int) (w : World) :
    Calls Try.prog 40 #[.int .i64 s] w fun e w' => e = .returned (.bool (overB s)) ∧ w = w' := by
  by_cases h : 3 ≤ s
  · by_cases h' : s ≤ 7
    · go_enter Try.func40, Try.ntmps40
      go_wp2
      go_ret
      exact ⟨ret_bool (by rw [over_yes h h']), rfl⟩
    · go_enter Try.func40, Try.ntmps40
      go_wp2
      go_ret
      exact ⟨ret_bool (by rw [over_no (by omega)]), rfl⟩
  · go_enter Try.func40, Try.ntmps40
    go_wp2
    go_ret
    exact ⟨ret_bool (by rw [over_no (by omega)]), rfl⟩
set_option maxHeartbeats 400000 in
theorem May_any (f t : Int) (w : World) :
    Calls Try.prog 22 #[.int .i64 f, .int .i64 t] w fun e w' => e = .returned (.bool (mayB f t)) ∧ w = w' := by
  by_cases h1 : f = 1
  · subst h1
    by_cases h2 : t = 2
    · subst h2
      go_enter Try.func22, Try.ntmps22
      go_wp2_with (go_at_call 37; refine (Over_any _ _).mono ?_; rintro e w' ⟨rfl, rfl⟩)
      go_ret
      exact ⟨rfl, rfl⟩
    · have h3 : mayB 1 t = overB t := by simp [mayB, h2]
      rw [h3]
      have h4 : (t == 2) = false := by simpa using h2
      go_enter Try.func22, Try.ntmps22
      go_wp2_with (go_at_call 37; refine (Over_any _ _).mono ?_; rintro e w' ⟨rfl, rfl⟩)
      go_ret
      exact ⟨rfl, rfl⟩
  · have h1b : (f == 1) = false := by simpa using h1
    by_cases h2 : f = 2
    · subst h2
      by_cases ho : overB t = true
      · have h3 : mayB 2 t = (t != 7) := by simp [mayB, ho, bne]
        rw [h3]
        go_enter Try.func22, Try.ntmps22
        go_wp2_with (go_at_call 37; refine (Over_any _ _).mono ?_; rintro e w' ⟨rfl, rfl⟩)
        go_ret
        exact ⟨rfl, rfl⟩
      · have ho' : overB t = false := by simpa using ho
        have h3 : mayB 2 t = false := by simp [mayB, ho']
        rw [h3]
        clear ho h3
        go_enter Try.func22, Try.ntmps22
        go_wp2_with (go_at_call 37; refine (Over_any _ _).mono ?_; rintro e w' ⟨rfl, rfl⟩)
        go_ret
        exact ⟨rfl, rfl⟩
    · have h2b : (f == 2) = false := by simpa using h2
      have h3 : mayB f t = false := by simp [mayB, h1, h2]
      rw [h3]
      clear h3
      go_enter Try.func22, Try.ntmps22
      go_wp2_with (go_at_call 37; refine (Over_any _ _).mono ?_; rintro e w' ⟨rfl, rfl⟩)
      go_ret
      exact ⟨rfl, rfl⟩
set_option maxHeartbeats 400000 in
theorem rMay_any (f t : Int) (w : World) :
    Calls Try.prog 27 #[.int .i64 f, .int .i64 t] w fun e w' => e = .returned (.bool (mayB f t)) ∧ w = w' := by
  by_cases h1 : f = 1
  · subst h1
    by_cases h2 : t = 2
    · subst h2
      go_enter Try.func27, Try.ntmps27
      go_wp2_with (go_at_call 40; refine (rOver_any _ _).mono ?_; rintro e w' ⟨rfl, rfl⟩)
      go_ret
      exact ⟨rfl, rfl⟩
    · have h3 : mayB 1 t = overB t := by simp [mayB, h2]
      rw [h3]
      have h4 : (t == 2) = false := by simpa using h2
      go_enter Try.func27, Try.ntmps27
      go_wp2_with (go_at_call 40; refine (rOver_any _ _).mono ?_; rintro e w' ⟨rfl, rfl⟩)
      go_ret
      exact ⟨rfl, rfl⟩
  · have h1b : (f == 1) = false := by simpa using h1
    by_cases h2 : f = 2
    · subst h2
      by_cases ho : overB t = true
      · have h3 : mayB 2 t = (t != 7) := by simp [mayB, ho, bne]
        rw [h3]
        go_enter Try.func27, Try.ntmps27
        go_wp2_with (go_at_call 40; refine (rOver_any _ _).mono ?_; rintro e w' ⟨rfl, rfl⟩)
        go_ret
        exact ⟨rfl, rfl⟩
      · have ho' : overB t = false := by simpa using ho
        have h3 : mayB 2 t = false := by simp [mayB, ho']
        rw [h3]
        clear ho h3
        go_enter Try.func27, Try.ntmps27
        go_wp2_with (go_at_call 40; refine (rOver_any _ _).mono ?_; rintro e w' ⟨rfl, rfl⟩)
        go_ret
        exact ⟨rfl, rfl⟩
    · have h2b : (f == 2) = false := by simpa using h2
      have h3 : mayB f t = false := by simp [mayB, h1, h2]
      rw [h3]
      clear h3
      go_enter Try.func27, Try.ntmps27
      go_wp2_with (go_at_call 40; refine (rOver_any _ _).mono ?_; rintro e w' ⟨rfl, rfl⟩)
      go_ret
      exact ⟨rfl, rfl⟩
def nameS (s : Int) : ByteArray :=
  if s = 1 then ⟨#[115, 116, 97, 103, 105, 110, 103]⟩ else if s = 2 then ⟨#[114, 117, 110, 110, 105, 110, 103]⟩ else if s = 3 then ⟨#[102, 105, 110, 105, 115, 104, 101, 100]⟩ else if s = 4 then ⟨#[102, 97, 105, 108, 101, 100]⟩ else if s = 5 then ⟨#[107, 105, 108, 108, 101, 100]⟩ else if s = 6 then ⟨#[108, 111, 115, 116]⟩ else if s = 7 then ⟨#[114, 101, 102, 117, 115, 101, 100]⟩ else ⟨#[]⟩
end Go.Proofs.Ytgeahhklhelifaa
