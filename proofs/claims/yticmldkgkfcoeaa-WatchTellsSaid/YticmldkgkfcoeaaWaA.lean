/- One task's updates: a row of numbers and states, taken one by one, and looked at as a whole. -/
import Derived.Below
namespace Go.Proofs.Yticmldkgkfcoeaa.Wa
set_option linter.unusedVariables false
/-- Which states may follow which. -/
def may (s t : Int) : Bool := if s = 1 then t == 2 || decide (3 ≤ t ∧ t ≤ 7) else if s = 2 then decide (3 ≤ t ∧ t ≤ 6) else false
/-- The last state of a row, behind 's'; none: it may not be. -/
def lifeOf : Int → List Int → Option Int
  | s, [] => some s
  | s, t :: l => if may s t then lifeOf t l else none
theorem lifeOf_snoc (s t : Int) (l : List Int) : lifeOf s (l ++ [t]) = (lifeOf s l).bind fun u => if may u t then some t else none := by
  induction l generalizing s with
  | nil => simp [lifeOf]
  | cons a l ih =>
    simp only [List.cons_append, lifeOf]
    split
    · exact ih a
    · rfl
/-- One update more. -/
def follow (sts : List Int) (u : Int × Int) : Option (List Int) :=
  if u.1 = sts.length ∧ 0 < sts.length then (if sts[sts.length - 1]? = some u.2 then some sts else none)
  else if u.1 = sts.length + 1 ∧ (lifeOf 1 (sts ++ [u.2])).isSome then some (sts ++ [u.2]) else none
/-- The numbers, repeats left out. -/
def sent : List Int → List Int → List Int
  | acc, [] => acc
  | acc, n :: l => if acc[acc.length - 1]? = some n then sent acc l else sent (acc ++ [n]) l
theorem sent_snoc (acc l : List Int) (n : Int) : sent acc (l ++ [n]) = if (sent acc l)[(sent acc l).length - 1]? = some n then sent acc l else sent acc l ++ [n] := by
  induction l generalizing acc with
  | nil => rfl
  | cons a l ih =>
    simp only [List.cons_append, sent]
    split
    · exact ih acc
    · exact ih _
theorem sent_pre (acc l : List Int) : ∃ r, sent acc l = acc ++ r := by
  induction l generalizing acc with
  | nil => exact ⟨[], by simp [sent]⟩
  | cons a l ih =>
    simp only [sent]
    split
    · exact ih acc
    · obtain ⟨r, hr⟩ := ih (acc ++ [a])
      exact ⟨a :: r, by rw [hr]; simp⟩
theorem sent_append (acc l m : List Int) : sent acc (l ++ m) = sent (sent acc l) m := by
  induction l generalizing acc with
  | nil => simp [sent]
  | cons a l ih =>
    simp only [List.cons_append, sent]
    split
    · exact ih acc
    · exact ih _
/-- The one state of a number's updates (0: it has none; none: it has two). -/
def unif (n : Int) : Int → List (Int × Int) → Option Int
  | s, [] => some s
  | s, u :: l => if u.1 = n then (if s ≠ 0 ∧ u.2 ≠ s then none else unif n u.2 l) else unif n s l
theorem unif_append (n s : Int) (l m : List (Int × Int)) : unif n s (l ++ m) = (unif n s l).bind fun t => unif n t m := by
  induction l generalizing s with
  | nil => simp [unif]
  | cons a l ih =>
    simp only [List.cons_append, unif]
    split
    · split
      · rfl
      · exact ih _
    · exact ih _
/-- The whole row, as the document looks at it. -/
def look (U : List (Int × Int)) : List Int → Nat → Int → Bool
  | [], _, _ => true
  | n :: l, i, s => if n = i + 1 then (match unif n 0 U with
    | none => false
    | some t => may s t && look U l (i + 1) t) else false
/-- All taken, one by one. -/
def run : Option (List Int) → List (Int × Int) → Option (List Int)
  | o, [] => o
  | none, _ :: _ => none
  | some sts, u :: l => run (follow sts u) l
theorem run_none (l : List (Int × Int)) : run none l = none := by cases l <;> rfl
theorem run_append (o : Option (List Int)) (l m : List (Int × Int)) : run o (l ++ m) = run (run o l) m := by
  induction l generalizing o with
  | nil => rfl
  | cons a l ih =>
    cases o with
    | none => simp [run, run_none]
    | some s => exact ih _
/-- The numbers 1 to n. -/
def upto : Nat → List Int
  | 0 => []
  | n + 1 => upto n ++ [(n : Int) + 1]
theorem upto_len (n : Nat) : (upto n).length = n := by
  induction n with
  | zero => rfl
  | succ n ih => simp [upto, ih]
theorem upto_last (n : Nat) (m : Int) : (upto n)[(upto n).length - 1]? = some m ↔ (0 < n ∧ m = n) := by
  cases n with
  | zero => simp [upto]
  | succ n =>
    rw [upto_len]
    simp only [upto, Nat.add_sub_cancel]
    rw [List.getElem?_append_right (by rw [upto_len]; exact Nat.le_refl _), upto_len, Nat.sub_self]
    simp
    omega
/-- What is so of a row that may be: its numbers are 1 to n; each number has its state; the states may be. -/
structure Good (U : List (Int × Int)) (sts : List Int) : Prop where
  nums : sent [] (U.map (·.1)) = upto sts.length
  one : ∀ (i : Nat) (s : Int), sts[i]? = some s → unif ((i : Int) + 1) 0 U = some s
  oth : ∀ n : Int, (n < 1 ∨ (sts.length : Int) < n) → unif n 0 U = some 0
  life : (lifeOf 1 sts).isSome = true
  nz : ∀ (i : Nat) (s : Int), sts[i]? = some s → s ≠ 0
theorem Good.nil : Good [] [] := ⟨rfl, fun i s h => by simp at h, fun n _ => rfl, rfl, fun i s h => by simp at h⟩
theorem Good.step {U : List (Int × Int)} {sts s2 : List Int} {u : Int × Int} (h : Good U sts) (hu : u.2 ≠ 0) (hf : follow sts u = some s2) : Good (U ++ [u]) s2 := by
  obtain ⟨n, s⟩ := u
  unfold follow at hf
  simp only at hf hu
  split at hf
  · rename_i hc
    split at hf
    · rename_i hs
      injection hf with hf
      subst hf
      refine ⟨?_, fun i t hi => ?_, fun m hm => ?_, h.life, h.nz⟩
      · rw [List.map_append, List.map_cons, List.map_nil, sent_snoc, h.nums, if_pos ((upto_last _ _).2 ⟨hc.2, hc.1⟩)]
      · rw [unif_append, h.one i t hi]
        simp only [Option.bind_some, unif]
        have ht := h.nz i t hi
        by_cases hin : n = (i : Int) + 1
        · have hil : i = sts.length - 1 := by omega
          subst hil
          rw [hs] at hi
          injection hi with hi
          subst hi
          rw [if_pos hin, if_neg (by simp)]
        · rw [if_neg hin]
      · rw [unif_append, h.oth m hm]
        simp only [Option.bind_some, unif]
        rw [if_neg (by omega)]
    · cases hf
  · rename_i hc
    split at hf
    · rename_i hs
      injection hf with hf
      subst hf
      refine ⟨?_, fun i t hi => ?_, fun m hm => ?_, hs.2, fun i t hi => ?_⟩
      · rw [List.map_append, List.map_cons, List.map_nil, sent_snoc, h.nums, if_neg (fun e => hc ⟨((upto_last _ _).1 e).2, ((upto_last _ _).1 e).1⟩), List.length_append]
        show _ = upto (sts.length + 1)
        rw [hs.1]
        rfl
      · rcases Nat.lt_or_ge i sts.length with hl | hl
        · rw [List.getElem?_append_left hl] at hi
          rw [unif_append, h.one i t hi]
          simp only [Option.bind_some, unif]
          rw [if_neg (by omega)]
        · have hil : i = sts.length := by
            have := (List.getElem?_eq_some_iff.1 hi).1
            simp at this
            omega
          subst hil
          simp at hi
          subst hi
          rw [unif_append, h.oth _ (.inr (by omega))]
          simp only [Option.bind_some, unif]
          rw [if_pos hs.1, if_neg (by simp)]
      · rw [unif_append, h.oth m (by simp at hm; omega)]
        simp only [Option.bind_some, unif]
        rw [if_neg (by simp at hm; omega)]
      · rcases Nat.lt_or_ge i sts.length with hl | hl
        · rw [List.getElem?_append_left hl] at hi
          exact h.nz i t hi
        · have hil : i = sts.length := by
            have := (List.getElem?_eq_some_iff.1 hi).1
            simp at this
            omega
          subst hil
          simp at hi
          subst hi
          exact hu
    · cases hf
theorem Good.of_run {U : List (Int × Int)} (hz : ∀ u ∈ U, u.2 ≠ 0) : ∀ {sts : List Int}, run (some []) U = some sts → Good U sts := by
  suffices h : ∀ (V W : List (Int × Int)) (a b : List Int), Good V a → (∀ u ∈ W, u.2 ≠ 0) → run (some a) W = some b → Good (V ++ W) b by
    intro sts hr
    simpa using h [] U [] sts Good.nil hz hr
  intro V W
  induction W generalizing V with
  | nil =>
    intro a b ha _ hr
    simp only [run, Option.some.injEq] at hr
    subst hr
    simpa using ha
  | cons u W ih =>
    intro a b ha hw hr
    simp only [run] at hr
    cases hf : follow a u with
    | none => rw [hf, run_none] at hr; cases hr
    | some c =>
      rw [hf] at hr
      have := ih (V ++ [u]) c b (ha.step (hw u (by simp)) hf) (fun x hx => hw x (by simp [hx])) hr
      simpa using this
theorem upto_get (n i : Nat) (h : i < n) : (upto n)[i]? = some ((i : Int) + 1) := by
  induction n with
  | zero => omega
  | succ n ih =>
    simp only [upto]
    rcases Nat.lt_or_ge i n with hl | hl
    · rw [List.getElem?_append_left (by rw [upto_len]; exact hl)]
      exact ih hl
    · have : i = n := by omega
      subst this
      rw [List.getElem?_append_right (by rw [upto_len]; exact Nat.le_refl _), upto_len, Nat.sub_self]
      rfl
/-- What 'look' asks of a list of numbers, as far as it goes: each is its place, has one state, and that may follow. -/
theorem look_append (U : List (Int × Int)) (l m : List Int) (i : Nat) (s : Int) : look U (l ++ m) i s = true → look U l i s = true := by
  induction l generalizing i s with
  | nil => intro _; rfl
  | cons a l ih =>
    simp only [List.cons_append, look]
    split
    · cases unif a 0 U with
      | none => exact id
      | some t =>
        simp only [Bool.and_eq_true]
        exact fun h => ⟨h.1, ih _ _ h.2⟩
    · exact id
/-- The states of the numbers i + 1 .. : as 'look' finds them. -/
theorem look_upto (U : List (Int × Int)) (sts : List Int) (h : ∀ (i : Nat) (s : Int), sts[i]? = some s → unif ((i : Int) + 1) 0 U = some s) : ∀ (k : Nat) (l : List Int) (s : Int), (∀ (j : Nat) (t : Int), l[j]? = some t → sts[k + j]? = some t) → look U (((List.range l.length).map fun (j : Nat) => ((k + j : Nat) : Int) + 1)) k s = (lifeOf s l).isSome
  | k, [], s, _ => by simp [look, lifeOf]
  | k, t :: l, s, hl => by
    have h0 := h k t (by simpa using hl 0 t rfl)
    rw [List.length_cons, List.range_succ_eq_map, List.map_cons, List.map_map]
    have ih := look_upto U sts h (k + 1) l t (fun j u hj => by
      have := hl (j + 1) u (by simpa using hj)
      rw [show k + 1 + j = k + (j + 1) by omega]
      exact this)
    simp only [look, lifeOf, Nat.add_zero, h0]
    rw [if_pos trivial]
    have e : ((List.range l.length).map ((fun (j : Nat) => ((k + j : Nat) : Int) + 1) ∘ Nat.succ)) = (List.range l.length).map fun (j : Nat) => ((k + 1 + j : Nat) : Int) + 1 := by
      apply List.map_congr_left
      intro j _
      simp only [Function.comp]
      omega
    rw [e, ih]
    cases may s t <;> simp
theorem upto_map (n : Nat) : upto n = (List.range n).map fun (j : Nat) => ((0 + j : Nat) : Int) + 1 := by
  induction n with
  | zero => rfl
  | succ n ih => rw [List.range_succ, List.map_append, ← ih]; simp [upto]
theorem Good.looks {U : List (Int × Int)} {sts : List Int} (h : Good U sts) : look U (sent [] (U.map (·.1))) 0 1 = true := by
  rw [h.nums, upto_map, look_upto U sts h.one 0 sts 1 (fun j t hj => by simpa using hj)]
  exact h.life
theorem look_last (U : List (Int × Int)) (l : List Int) (m : Int) (i : Nat) (s : Int) : look U (l ++ [m]) i s = true → m = ((i + l.length : Nat) : Int) + 1 ∧ ∃ t, unif m 0 U = some t := by
  induction l generalizing i s with
  | nil =>
    simp only [List.nil_append, look]
    split
    · rename_i h
      cases hu : unif m 0 U with
      | none => intro h; cases h
      | some t => exact fun _ => ⟨by simpa using h, t, rfl⟩
    · intro h; cases h
  | cons a l ih =>
    simp only [List.cons_append, look]
    split
    · cases hu : unif a 0 U with
      | none => intro h; cases h
      | some t =>
        simp only [Bool.and_eq_true]
        intro h
        have := ih (i + 1) t h.2
        exact ⟨by rw [this.1, List.length_cons]; omega, this.2⟩
    · intro h; cases h
theorem look_two (U : List (Int × Int)) (l : List Int) (a m : Int) (i : Nat) (s : Int) : look U (l ++ [a, m]) i s = true → ∃ x y, unif a 0 U = some x ∧ unif m 0 U = some y ∧ may x y = true := by
  induction l generalizing i s with
  | nil =>
    simp only [List.nil_append, look]
    split
    · cases hu : unif a 0 U with
      | none => intro h; cases h
      | some x =>
        simp only [Bool.and_eq_true]
        rintro ⟨-, h⟩
        split at h
        · cases hm : unif m 0 U with
          | none => rw [hm] at h; cases h
          | some y =>
            rw [hm] at h
            simp only [Bool.and_true] at h
            exact ⟨x, y, rfl, rfl, h⟩
        · cases h
    · intro h; cases h
  | cons b l ih =>
    simp only [List.cons_append, look]
    split
    · cases hu : unif b 0 U with
      | none => intro h; cases h
      | some t =>
        simp only [Bool.and_eq_true]
        exact fun h => ih _ _ h.2
    · intro h; cases h
theorem unif_keeps (n s : Int) (l : List (Int × Int)) (hs : s ≠ 0) {t : Int} : unif n s l = some t → t = s := by
  induction l with
  | nil => simp only [unif, Option.some.injEq]; exact fun h => h.symm
  | cons a l ih =>
    simp only [unif]
    split
    · split
      · intro h; cases h
      · rename_i h
        have : a.2 = s := by
          by_cases e : a.2 = s
          · exact e
          · exact absurd ⟨hs, e⟩ h
        rw [this]
        exact ih
    · exact ih
theorem lifeOf_last (s : Int) (l : List Int) {u : Int} (hl : l ≠ []) : lifeOf s l = some u → l[l.length - 1]? = some u := by
  induction l generalizing s with
  | nil => exact absurd rfl hl
  | cons a l ih =>
    simp only [lifeOf]
    split
    · intro h
      cases l with
      | nil =>
        simp only [lifeOf, Option.some.injEq] at h
        subst h
        rfl
      | cons b l =>
        have := ih a (by simp) h
        simpa using this
    · intro h; cases h
theorem fails {V W : List (Int × Int)} {u : Int × Int} {sts : List Int} (h : Good V sts) (hu : u.2 ≠ 0) (hf : follow sts u = none) : look (V ++ u :: W) (sent [] ((V ++ u :: W).map (·.1))) 0 1 = false := by
  cases hl : look (V ++ u :: W) (sent [] ((V ++ u :: W).map (·.1))) 0 1 with
  | false => rfl
  | true =>
    exfalso
    obtain ⟨n, s⟩ := u
    rw [List.map_append, sent_append, h.nums, List.map_cons] at hl
    simp only at hu hl
    by_cases hc : n = (sts.length : Int) ∧ 0 < sts.length
    · obtain ⟨r, hr⟩ := sent_pre (upto sts.length) (n :: W.map (·.1))
      rw [hr] at hl
      have h1 := look_append _ _ _ _ _ hl
      obtain ⟨k, hk⟩ : ∃ k, sts.length = k + 1 := ⟨sts.length - 1, by omega⟩
      rw [hk] at h1
      have h2 := (look_last _ (upto k) _ 0 1 h1).2
      obtain ⟨t, ht⟩ := h2
      obtain ⟨x, hx⟩ : ∃ x, sts[k]? = some x := ⟨sts[k]'(by omega), List.getElem?_eq_getElem _⟩
      rw [unif_append, h.one k x hx] at ht
      simp only [Option.bind_some, unif] at ht
      rw [if_pos (by omega)] at ht
      unfold follow at hf
      rw [if_pos hc, hk, Nat.add_sub_cancel, hx] at hf
      split at hf
      · cases hf
      · rename_i hne
        rw [if_pos ⟨h.nz k x hx, fun e => hne (by simpa using e.symm)⟩] at ht
        cases ht
    · have hs : sent (upto sts.length) (n :: W.map (·.1)) = sent (upto sts.length ++ [n]) (W.map (·.1)) := by
        show (if _ then _ else _) = _
        rw [if_neg (fun e => hc ⟨((upto_last _ _).1 e).2, ((upto_last _ _).1 e).1⟩)]
      obtain ⟨r, hr⟩ := sent_pre (upto sts.length ++ [n]) (W.map (·.1))
      rw [hs, hr] at hl
      have h1 := look_append _ _ _ _ _ hl
      obtain ⟨hn, t, ht⟩ := look_last _ _ _ _ _ h1
      rw [upto_len, Nat.zero_add] at hn
      have hv : unif n 0 (V ++ (n, s) :: W) = unif n s W := by
        rw [unif_append, h.oth n (.inr (by omega))]
        simp [unif]
      have hts : t = s := by
        rw [hv] at ht
        exact unif_keeps n s W hu ht
      subst hts
      unfold follow at hf
      rw [if_neg hc] at hf
      have hlife : lifeOf 1 (sts ++ [t]) = none := by
        cases hq : lifeOf 1 (sts ++ [t]) with
        | none => rfl
        | some z =>
          rw [if_pos ⟨hn, by rw [hq]; rfl⟩] at hf
          cases hf
      rw [lifeOf_snoc] at hlife
      obtain ⟨z, hz⟩ := Option.isSome_iff_exists.1 h.life
      rw [hz] at hlife
      simp only [Option.bind_some] at hlife
      have hmay : may z t = false := by
        cases hq : may z t with
        | false => rfl
        | true => rw [hq] at hlife; simp at hlife
      rcases Nat.eq_zero_or_pos sts.length with h0 | hpos
      · have e0 : sts = [] := List.length_eq_zero_iff.1 h0
        subst e0
        simp only [lifeOf, Option.some.injEq] at hz
        subst hz
        simp only [List.length_nil, upto, List.nil_append, look] at h1
        split at h1
        · rw [ht] at h1
          simp only [Bool.and_true] at h1
          rw [hmay] at h1
          cases h1
        · cases h1
      · obtain ⟨k, hk⟩ : ∃ k, sts.length = k + 1 := ⟨sts.length - 1, by omega⟩
        have hzl := lifeOf_last 1 sts (by intro e; rw [e] at hk; simp at hk) hz
        rw [hk, Nat.add_sub_cancel] at hzl
        rw [hk] at h1
        simp only [upto, List.append_assoc, List.cons_append, List.nil_append] at h1
        obtain ⟨x, y, hx, hy, hxy⟩ := look_two _ _ _ _ _ _ h1
        rw [unif_append, h.one k z hzl] at hx
        simp only [Option.bind_some] at hx
        have ex := unif_keeps _ _ _ (h.nz k z hzl) hx
        rw [ht] at hy
        injection hy with hy
        rw [ex, ← hy, hmay] at hxy
        cases hxy
theorem run_splits : ∀ (V W : List (Int × Int)) (a : List Int), Good V a → (∀ u ∈ W, u.2 ≠ 0) → run (some a) W = none → ∃ V' u W' b, V ++ W = V' ++ u :: W' ∧ Good V' b ∧ u.2 ≠ 0 ∧ follow b u = none
  | V, [], a, _, _, h => by simp [run] at h
  | V, u :: W, a, hg, hz, h => by
    cases hf : follow a u with
    | none => exact ⟨V, u, W, a, rfl, hg, hz u (by simp), hf⟩
    | some c =>
      simp only [run, hf] at h
      obtain ⟨V', x, W', b, e, h2⟩ := run_splits (V ++ [u]) W c (hg.step (hz u (by simp)) hf) (fun x hx => hz x (by simp [hx])) h
      exact ⟨V', x, W', b, by rw [← e]; simp, h2⟩
/-- Taken one by one, or looked at as a whole: the same rows may be. -/
theorem run_look (U : List (Int × Int)) (hz : ∀ u ∈ U, u.2 ≠ 0) : (run (some []) U).isSome = look U (sent [] (U.map (·.1))) 0 1 := by
  cases hr : run (some []) U with
  | some sts => exact (Good.of_run hz hr).looks.symm
  | none =>
    obtain ⟨V, u, W, b, e, hg, hu, hf⟩ := run_splits [] U [] Good.nil hz hr
    rw [List.nil_append] at e
    rw [e]
    exact (fails hg hu hf).symm
end Go.Proofs.Yticmldkgkfcoeaa.Wa
