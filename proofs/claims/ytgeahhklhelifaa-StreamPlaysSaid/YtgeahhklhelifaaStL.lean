/- What is done with both streams: one answer for both, one state behind it. -/
import Derived.Test.YtgeahhklhelifaaStM
namespace Go.Proofs.Ytgeahhklhelifaa
open Go.ChangeShapes Go.WideShapes Go.ChangeAt Go.RowKit
set_option linter.unusedVariables false
set_option maxRecDepth 100000
theorem say_both (l : List Int) (ak : Nat) (sd : Bool) (dl du now first draw : Int) (hk : ak ≤ l.length) (hl : l.length ≤ 1000) (hd : draw ≤ 9223372036854775807) (hs : sd = true → ak < l.length) :
    ∃ (x y : Int) (b sd' : Bool) (dl' du' : Int), (sd' = true → ak < l.length) ∧
      (∀ {w : World} {B g : Nat} {v : Value}, StM w B g v l ak sd dl du → Calls Try.prog 9 #[.pointer (some ⟨g, 0, none⟩), .int .i64 now, .int .i64 first, .int .i64 draw] w fun e w' => e = .returned (.tuple #[.agg #[.int .i64 x, .int .i64 y], .bool b]) ∧ StM w' B g v l ak sd' dl' du' ∧ Below B w w' ∧ Keeps w w' g v) ∧
      (∀ {w : World} {B g : Nat} {v : Value}, RsM w B g v l ak sd dl du → Calls Try.prog 17 #[.pointer (some ⟨g, 0, none⟩), .int .i64 now, .int .i64 first, .int .i64 draw] w fun e w' => e = .returned (.tuple #[.agg #[.int .i64 x, .int .i64 y], .bool b]) ∧ RsM w' B g v l ak sd' dl' du' ∧ Below B w w' ∧ Keeps w w' g v) := by
  rcases Nat.lt_or_ge ak l.length with h1 | h1
  · obtain ⟨s, hq⟩ : ∃ s, l[ak]? = some s := ⟨_, List.getElem?_eq_getElem h1⟩
    cases sd with
    | false =>
      exact ⟨_, _, true, true, first, dueI now first draw, fun _ => h1, fun h => Say_yesK now first draw _ h hq hl hd, fun h => rSay_yesK now first draw _ h hq hl hd⟩
    | true =>
      refine ⟨0, 0, false, true, dl, du, fun _ => h1, fun {w B g v} h => (Say_said now first draw w h hq hl).mono fun e w' h' => ?_, fun {w B g v} h => (rSay_said now first draw w h hq hl).mono fun e w' h' => ?_⟩
      · exact ⟨h'.1, h.below h'.2 (Nat.le_refl _), h'.2.mono (by have := h.ge; have := h.blk.lt; omega), .of_below h'.2⟩
      · exact ⟨h'.1, h.below h'.2 (Nat.le_refl _), h'.2.mono (by have := h.ge; have := h.blk.lt; omega), .of_below h'.2⟩
  · have hak : ak = l.length := by omega
    refine ⟨0, 0, false, sd, dl, du, hs, fun {w B g v} h => (Say_end now first draw w h hak hl).mono fun e w' h' => ?_, fun {w B g v} h => (rSay_end now first draw w h hak hl).mono fun e w' h' => ?_⟩
    · exact ⟨h'.1, h.below h'.2 (Nat.le_refl _), h'.2.mono (by have := h.ge; have := h.blk.lt; omega), .of_below h'.2⟩
    · exact ⟨h'.1, h.below h'.2 (Nat.le_refl _), h'.2.mono (by have := h.ge; have := h.blk.lt; omega), .of_below h'.2⟩
theorem again_both (l : List Int) (ak : Nat) (sd : Bool) (dl du now most draw : Int) (hk : ak ≤ l.length) (hl : l.length ≤ 1000) (hd : draw ≤ 9223372036854775807) (hs : sd = true → ak < l.length) :
    ∃ (x y : Int) (b sd' : Bool) (dl' du' : Int), (sd' = true → ak < l.length) ∧
      (∀ {w : World} {B g : Nat} {v : Value}, StM w B g v l ak sd dl du → Calls Try.prog 10 #[.pointer (some ⟨g, 0, none⟩), .int .i64 now, .int .i64 most, .int .i64 draw] w fun e w' => e = .returned (.tuple #[.agg #[.int .i64 x, .int .i64 y], .bool b]) ∧ StM w' B g v l ak sd' dl' du' ∧ Below B w w' ∧ Keeps w w' g v) ∧
      (∀ {w : World} {B g : Nat} {v : Value}, RsM w B g v l ak sd dl du → Calls Try.prog 18 #[.pointer (some ⟨g, 0, none⟩), .int .i64 now, .int .i64 most, .int .i64 draw] w fun e w' => e = .returned (.tuple #[.agg #[.int .i64 x, .int .i64 y], .bool b]) ∧ RsM w' B g v l ak sd' dl' du' ∧ Below B w w' ∧ Keeps w w' g v) := by
  rcases Nat.lt_or_ge ak l.length with h1 | h1
  · obtain ⟨s, hq⟩ : ∃ s, l[ak]? = some s := ⟨_, List.getElem?_eq_getElem h1⟩
    by_cases hn : sd = false ∨ now < du
    · refine ⟨0, 0, false, sd, dl, du, hs, fun {w B g v} h => (Again_not now most draw w h hn).mono fun e w' h' => ?_, fun {w B g v} h => (rAgain_not now most draw w h hq hl hn).mono fun e w' h' => ?_⟩
      · exact ⟨h'.1, h.below h'.2 (Nat.le_refl _), h'.2.mono (by have := h.ge; have := h.blk.lt; omega), .of_below h'.2⟩
      · exact ⟨h'.1, h.below h'.2 (Nat.le_refl _), h'.2.mono (by have := h.ge; have := h.blk.lt; omega), .of_below h'.2⟩
    · obtain rfl : sd = true := by cases sd <;> simp_all
      have hn2 : ¬ now < du := fun h => hn (.inr h)
      exact ⟨_, _, true, true, nextI dl most, dueI now (nextI dl most) draw, fun _ => h1, fun h => Again_yesK now most draw _ h hq hl hd hn2, fun h => rAgain_yesK now most draw _ h hq hl hd hn2⟩
  · have hak : ak = l.length := by omega
    have hsf : sd = false := by
      cases sd with
      | false => rfl
      | true => have := hs rfl; omega
    refine ⟨0, 0, false, sd, dl, du, hs, fun {w B g v} h => (Again_not now most draw w h (.inl hsf)).mono fun e w' h' => ?_, fun {w B g v} h => (rAgain_end now most draw w h hak hl).mono fun e w' h' => ?_⟩
    · exact ⟨h'.1, h.below h'.2 (Nat.le_refl _), h'.2.mono (by have := h.ge; have := h.blk.lt; omega), .of_below h'.2⟩
    · exact ⟨h'.1, h.below h'.2 (Nat.le_refl _), h'.2.mono (by have := h.ge; have := h.blk.lt; omega), .of_below h'.2⟩
theorem ack_both (l : List Int) (ak : Nat) (sd : Bool) (dl du n : Int) (hk : ak ≤ l.length) (hl : l.length ≤ 1000) (hs : sd = true → ak < l.length) :
    ∃ (e : Int) (b : Bool) (ak' : Nat) (sd' : Bool), (sd' = true → ak' < l.length) ∧ ak' ≤ l.length ∧ (b = true ∧ e = 0 ∨ b = false ∧ e = 3) ∧
      (∀ {w : World} {B g : Nat} {v : Value}, StM w B g v l ak sd dl du → Calls Try.prog 11 #[.pointer (some ⟨g, 0, none⟩), .int .i64 n] w fun r w' => r = .returned (.int .i64 e) ∧ StM w' B g v l ak' sd' dl du ∧ Below B w w' ∧ Keeps w w' g v) ∧
      (∀ {w : World} {B g : Nat} {v : Value}, RsM w B g v l ak sd dl du → Calls Try.prog 19 #[.pointer (some ⟨g, 0, none⟩), .int .i64 n] w fun r w' => r = .returned (.bool b) ∧ RsM w' B g v l ak' sd' dl du ∧ Below B w w' ∧ Keeps w w' g v) := by
  by_cases hn : ak = l.length ∨ sd = false ∨ n ≠ (ak : Int) + 1
  · refine ⟨3, false, ak, sd, hs, hk, .inr ⟨rfl, rfl⟩, fun {w B g v} h => (Ack_no n w h hk hl hn).mono fun e w' h' => ?_, fun {w B g v} h => (rAck_no n w h hk hl hn).mono fun e w' h' => ?_⟩
    · exact ⟨h'.1, h.below h'.2 (Nat.le_refl _), h'.2.mono (by have := h.ge; have := h.blk.lt; omega), .of_below h'.2⟩
    · exact ⟨h'.1, h.below h'.2 (Nat.le_refl _), h'.2.mono (by have := h.ge; have := h.blk.lt; omega), .of_below h'.2⟩
  · have h1 : ak < l.length := by
      rcases Nat.lt_or_ge ak l.length with h | h
      · exact h
      · exact absurd (.inl (by omega)) hn
    obtain rfl : sd = true := by
      cases sd with
      | true => rfl
      | false => exact absurd (.inr (.inl rfl)) hn
    obtain rfl : n = (ak : Int) + 1 := by
      by_cases h : n = (ak : Int) + 1
      · exact h
      · exact absurd (.inr (.inr h)) hn
    obtain ⟨s, hq⟩ : ∃ s, l[ak]? = some s := ⟨_, List.getElem?_eq_getElem h1⟩
    exact ⟨0, true, ak + 1, false, (fun h => by cases h), h1, .inl ⟨rfl, rfl⟩, fun h => Ack_yesK _ h hq hl, fun h => rAck_yesK _ h hq hl⟩
theorem add_both (l : List Int) (ak : Nat) (sd : Bool) (dl du t : Int) (hl : l.length ≤ 1000) (ht : -9223372036854775808 ≤ t ∧ t ≤ 9223372036854775807) :
    ∃ (x y e : Int) (b : Bool) (l' : List Int), (l' = l ∨ mayB (stOf l) t = true ∧ l' = l ++ [t]) ∧ (b = true ∧ e = 0 ∨ b = false ∧ e = 8) ∧
      (∀ {w : World} {B g : Nat} {v : Value}, StM w B g v l ak sd dl du → Calls Try.prog 8 #[.pointer (some ⟨g, 0, none⟩), .int .i64 t] w fun r w' => r = .returned (.tuple #[.agg #[.int .i64 x, .int .i64 y], .int .i64 e]) ∧ ∃ v', StM w' B g v' l' ak sd dl du ∧ Below B w w' ∧ Keeps w w' g v ∧ Lies w v v') ∧
      (∀ {w : World} {B g : Nat} {v : Value}, RsM w B g v l ak sd dl du → Calls Try.prog 16 #[.pointer (some ⟨g, 0, none⟩), .int .i64 t] w fun r w' => r = .returned (.tuple #[.agg #[.int .i64 x, .int .i64 y], .bool b]) ∧ ∃ v', RsM w' B g v' l' ak sd dl du ∧ Below B w w' ∧ Keeps w w' g v ∧ Lies w v v') := by
  cases hm : mayB (stOf l) t with
  | true => exact ⟨_, _, 0, true, l ++ [t], .inr ⟨rfl, rfl⟩, .inl ⟨rfl, rfl⟩, fun h => Add_yesK t _ h hl hm ht, fun h => rAdd_yesK t _ h hl hm ht⟩
  | false =>
    refine ⟨0, 0, 8, false, l, .inl rfl, .inr ⟨rfl, rfl⟩, fun {w B g v} h => (Add_no t w h hl hm).mono fun e w' h' => ?_, fun {w B g v} h => (rAdd_no t w h hl hm).mono fun e w' h' => ?_⟩
    · exact ⟨h'.1, v, h.below h'.2 (Nat.le_refl _), h'.2.mono (by have := h.ge; have := h.blk.lt; omega), .of_below h'.2, fun k hk => .inl hk⟩
    · exact ⟨h'.1, v, h.below h'.2 (Nat.le_refl _), h'.2.mono (by have := h.ge; have := h.blk.lt; omega), .of_below h'.2, fun k hk => .inl hk⟩
end Go.Proofs.Ytgeahhklhelifaa
