/- A scope in which the run jumps to several labels: what holds at every jump, and a measure that every pass from a label lowers. -/
import Derived.Test.YtolignkahfekbaaGreatDoorBase
import Derived.ScopeJumps
import Derived.WalkMore
namespace Go.Proofs.YtolignkahfekbaaGreatDoor
open Go.ChangeShapes Go.WideShapes Go.ChangeAt Go.RowKit

/-- As Q; by a goto to a label of R: J at that label; by any other goto: no way out. -/
def jumpM (R : Nat → Option Code) (J : Nat → Act → World → Prop) (Q : Exit → Act → World → Prop) : Exit → Act → World → Prop
  | .goto l, a, w => (∃ rest, R l = some rest) ∧ J l a w
  | e, a, w => Q e a w

theorem wp_scope_multi {P : Program} {a : Act} {w : World} {Q : Exit → Act → World → Prop} {c : Code} (R : Nat → Option Code) (J : Nat → Act → World → Prop) (μ : Nat → Act → World → Nat)
    (hf : ∀ l rest, R l = some rest → findLabel c l = some rest)
    (first : c.wp P (jumpM R J Q) a w)
    (pass : ∀ l rest a w, R l = some rest → J l a w → rest.wp P (jumpM R (fun l' a' w' => J l' a' w' ∧ μ l' a' w' < μ l a w) Q) a w) : (Code.scope c).wp P Q a w := by
  intro b k cs
  have hg : ∀ l rest, R l = some rest → gotoIn l (.inScope c :: k) = some (.code rest :: .inScope c :: k) := fun l rest h => by simp [gotoIn, hf l rest h]
  have key : ∀ n l rest a w, μ l a w = n → R l = some rest → J l a w → ∃ e a' w', Q e a' w' ∧ Arrives P (lone (b.at a (.code rest :: .inScope c :: k)) cs w) b k cs e a' w' := by
    intro n
    induction n using Nat.strongRecOn with
    | _ n ih =>
      intro l rest a w hn hR hJ
      obtain ⟨e, a₁, w₁, hq, harr⟩ := pass l rest a w hR hJ b (.inScope c :: k) cs
      cases e with
      | normal => exact ⟨.normal, a₁, w₁, hq, Steps.trans harr (.one step_inScope)⟩
      | exit id => exact ⟨.exit id, a₁, w₁, hq, fun k' hk => harr k' (by simp [exitTo, hk])⟩
      | goto l' =>
        obtain ⟨⟨rest', hR'⟩, hJ', hlt⟩ := hq
        obtain ⟨e₂, a₂, w₂, hq₂, harr₂⟩ := ih _ (by omega) l' rest' a₁ w₁ rfl hR' hJ'
        exact ⟨e₂, a₂, w₂, hq₂, .of_steps (harr _ (hg l' rest' hR')) harr₂⟩
      | ret => exact ⟨_, a₁, w₁, hq, harr⟩
      | panic ch => exact ⟨_, a₁, w₁, hq, harr⟩
      | outgrown => exact ⟨_, a₁, w₁, hq, harr⟩
  obtain ⟨e, a₁, w₁, hq, harr⟩ := first b (.inScope c :: k) cs
  cases e with
  | normal => exact ⟨.normal, a₁, w₁, hq, .head step_scope (Steps.trans harr (.one step_inScope))⟩
  | exit id => exact ⟨.exit id, a₁, w₁, hq, fun k' hk => .head step_scope (harr k' (by simp [exitTo, hk]))⟩
  | goto l' =>
    obtain ⟨⟨rest', hR'⟩, hJ'⟩ := hq
    obtain ⟨e₂, a₂, w₂, hq₂, harr₂⟩ := key _ l' rest' a₁ w₁ rfl hR' hJ'
    exact ⟨e₂, a₂, w₂, hq₂, .of_steps (.head step_scope (harr _ (hg l' rest' hR'))) harr₂⟩
  | ret => exact ⟨_, a₁, w₁, hq, .of_steps (.one step_scope) harr⟩
  | panic ch => exact ⟨_, a₁, w₁, hq, .of_steps (.one step_scope) harr⟩
  | outgrown => exact ⟨_, a₁, w₁, hq, .of_steps (.one step_scope) harr⟩
theorem wp_scope_labels {P : Program} {a : Act} {w : World} {Q : Exit → Act → World → Prop} {c : Code} (ls : Nat → Bool) (J : Nat → Act → World → Prop) (μ : Nat → Act → World → Nat)
    (first : c.wp P (jumpM (fun l => if ls l = true then findLabel c l else none) J Q) a w)
    (pass : ∀ l rest a w, ls l = true → findLabel c l = some rest → J l a w → rest.wp P (jumpM (fun l => if ls l = true then findLabel c l else none) (fun l' a' w' => J l' a' w' ∧ μ l' a' w' < μ l a w) Q) a w) : (Code.scope c).wp P Q a w :=
  wp_scope_multi (fun l => if ls l = true then findLabel c l else none) J μ
    (fun l rest h => by
      by_cases hl : ls l = true
      · simpa [hl] using h
      · simp [hl] at h)
    first
    (fun l rest a w h hJ => by
      by_cases hl : ls l = true
      · exact pass l rest a w hl (by simpa [hl] using h) hJ
      · simp [hl] at h)
theorem jumpM_mono {R : Nat → Option Code} {J J' : Nat → Act → World → Prop} {Q : Exit → Act → World → Prop} (h : ∀ l a w, J l a w → J' l a w) : ∀ e a w, jumpM R J Q e a w → jumpM R J' Q e a w := by
  intro e a w q
  cases e with
  | goto l => exact ⟨q.1, h l a w q.2⟩
  | _ => exact q
/-- The same; the first way into the scope may run on into a label: a pass from there is given to it. -/
theorem wp_scope_into {P : Program} {a : Act} {w : World} {Q : Exit → Act → World → Prop} {c : Code} (ls : Nat → Bool) (J : Nat → Act → World → Prop) (μ : Nat → Act → World → Nat)
    (first : (∀ l rest a w, ls l = true → findLabel c l = some rest → J l a w → rest.wp P (jumpM (fun l => if ls l = true then findLabel c l else none) J Q) a w) → c.wp P (jumpM (fun l => if ls l = true then findLabel c l else none) J Q) a w)
    (pass : ∀ l rest a w, ls l = true → findLabel c l = some rest → J l a w → rest.wp P (jumpM (fun l => if ls l = true then findLabel c l else none) (fun l' a' w' => J l' a' w' ∧ μ l' a' w' < μ l a w) Q) a w) : (Code.scope c).wp P Q a w :=
  wp_scope_labels ls J μ (first (fun l rest a w h1 h2 h3 => Go.Code.wp_mono (jumpM_mono (fun _ _ _ q => q.1)) (pass l rest a w h1 h2 h3))) pass
/-- The same; every label's rest is a no-op and then a code: of that code alone, as the way that falls into the label needs it. -/
theorem wp_scope_falls {P : Program} {a : Act} {w : World} {Q : Exit → Act → World → Prop} {c : Code} (ls : Nat → Bool) (J : Nat → Act → World → Prop) (μ : Nat → Act → World → Nat)
    (hs : ∀ l rest, ls l = true → findLabel c l = some rest → ∃ x, rest = Code.seq .skip x)
    (first : (∀ l x a w, ls l = true → findLabel c l = some (Code.seq .skip x) → J l a w → x.wp P (jumpM (fun l => if ls l = true then findLabel c l else none) J Q) a w) → c.wp P (jumpM (fun l => if ls l = true then findLabel c l else none) J Q) a w)
    (pass : ∀ l x a w, ls l = true → findLabel c l = some (Code.seq .skip x) → J l a w → x.wp P (jumpM (fun l => if ls l = true then findLabel c l else none) (fun l' a' w' => J l' a' w' ∧ μ l' a' w' < μ l a w) Q) a w) : (Code.scope c).wp P Q a w :=
  wp_scope_labels ls J μ (first (fun l x a w h1 h2 h3 => Go.Code.wp_mono (jumpM_mono (fun _ _ _ q => q.1)) (pass l x a w h1 h2 h3)))
    (fun l rest a w h1 h2 h3 => by
      obtain ⟨x, rfl⟩ := hs l rest h1 h2
      exact wp_seq (wp_skip (pass l x a w h1 h2 h3)))
end Go.Proofs.YtolignkahfekbaaGreatDoor
