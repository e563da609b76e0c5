/- Plain: what a text of steps comes to; its words. -/
import Derived.Test.YtfbedlhigggggaaCeN
import Derived.Test.YtfbedlhigggggaaFloat2
import Derived.Test.YtfbedlhigggggaaAll
namespace Go.Proofs.Ytfbedlhigggggaa.Sp
open Go Go.Lib Go.Proofs.Ytfbedlhigggggaa
set_option linter.unusedVariables false
/-- An item: its name, and its two numbers. -/
structure Itm where
  t : ByteArray
  a : Int
  b : Int
structure Mg where
  k : Nat
  F : ByteArray
  E : ByteArray
  T : ByteArray
  N : Int
  S : Int
  U : Int
  P : Int
  I : List Itm
structure Stp where
  k : Int
  m : Mg
  n : Int
  f : Int
def nob : ByteArray := ⟨#[]⟩
def mg0 (k : Nat) : Mg := ⟨k, nob, nob, nob, 0, 0, 0, 0, []⟩
/-- The words of the kinds. -/
def kw : Nat → List UInt8
  | 1 => [114, 117, 110]
  | 2 => [107, 105, 108, 108]
  | 3 => [115, 104, 117, 116]
  | 4 => [97, 99, 107]
  | 5 => [97, 115, 107]
  | 6 => [119, 101, 108, 99, 111, 109, 101]
  | 7 => [104, 101, 108, 108, 111]
  | 8 => [114, 101, 112, 111, 114, 116]
  | 9 => [103, 111, 110, 101]
  | _ => []
def kwB (k : Nat) : ByteArray := ⟨(kw k).toArray⟩
def isW (k : Nat) (q : ByteArray) : Bool := kw k == q.data.toList
/-- The kind of a word, from k on. -/
def kindF (q : ByteArray) : Nat → Nat → Nat
  | 0, _ => 0
  | f + 1, k => if isW k q = true then k else kindF q f (k + 1)
def kindS (q : ByteArray) : Nat := kindF q 9 1
theorem kindF_lt (q : ByteArray) : ∀ (f k : Nat), kindF q f k < f + k ∨ kindF q f k = 0
  | 0, k => .inr rfl
  | f + 1, k => by
    unfold kindF
    split
    · left; omega
    · rcases kindF_lt q f (k + 1) with h | h
      · left; omega
      · right; exact h
theorem kindS_le (q : ByteArray) : kindS q ≤ 9 := by
  rcases kindF_lt q 9 1 with h | h <;> unfold kindS <;> omega
theorem kindF_is (q : ByteArray) : ∀ (f k : Nat), kindF q f k ≠ 0 → isW (kindF q f k) q = true
  | 0, k, h => absurd rfl h
  | f + 1, k, h => by
    unfold kindF at h ⊢
    split
    · assumption
    · rename_i hn
      rw [if_neg hn] at h
      exact kindF_is q f (k + 1) h
/-- The fields of a kind. -/
def flds : Nat → List UInt8
  | 1 => [70, 69, 73]
  | 2 => [70, 84]
  | 3 => [70]
  | 4 => [70, 84, 85, 80]
  | 5 => [70, 73]
  | 6 => []
  | 7 => [70, 69, 78]
  | 8 => [70, 69, 78, 84, 83]
  | 9 => [70, 69, 78]
  | _ => [63]
def setM (m : Mg) (c : UInt8) (q : ByteArray) : Option Mg :=
  if c = 70 then some { m with F := q }
  else if c = 69 then some { m with E := q }
  else if c = 84 then some { m with T := q }
  else if (numS q.data.toList).2 = false then none
  else if c = 78 then some { m with N := (numS q.data.toList).1 }
  else if c = 83 then some { m with S := (numS q.data.toList).1 }
  else if c = 85 then some { m with U := (numS q.data.toList).1 }
  else some { m with P := (numS q.data.toList).1 }
def itR : List ByteArray → Option (List Itm)
  | [] => some []
  | a :: b :: c :: r => if (numS b.data.toList).2 = true ∧ (numS c.data.toList).2 = true then (itR r).map (fun l => ⟨a, (numS b.data.toList).1, (numS c.data.toList).1⟩ :: l) else none
  | _ => none
def itA (ws : List ByteArray) : List Itm := ws.map fun q => ⟨q, 0, 0⟩
def itS (k : Nat) (ws : List ByteArray) : Option (List Itm) := if k = 1 then itR ws else some (itA ws)
def fill (k : Nat) : List UInt8 → Mg → List ByteArray → Option Mg
  | [], m, [] => some m
  | [], _, _ :: _ => none
  | c :: fs, m, ws => if c = 73 then (itS k ws).bind fun l => fill k fs { m with I := l } [] else match ws with
    | [] => none
    | q :: r => (setM m c q).bind fun m' => fill k fs m' r
/-- Is it a need? -/
def rgt (i : Itm) : Bool := decide (0 ≤ i.a ∧ i.a ≤ 1000 ∧ 0 ≤ i.b ∧ i.b ≤ 1000 ∧ 0 < i.a + i.b)
def nmB (q : ByteArray) : Bool := rightB q.data.toList
def itOk (k : Nat) (l : List Itm) : Bool := (decide (k = 5) || decide (1 ≤ l.length)) && decide (l.length ≤ 4) && (decide (k = 5) || l.all rgt) && allB (l.map (·.t))
def chkF (m : Mg) (c : UInt8) : Bool :=
  if c = 70 then nmB m.F
  else if c = 69 then nmB m.E
  else if c = 84 then nmB m.T
  else if c = 83 then decide (1 ≤ m.S ∧ m.S ≤ 7)
  else if c = 73 then itOk m.k m.I
  else if c = 78 then decide (1 ≤ m.N ∧ m.N ≤ 2147483647)
  else if c = 85 then decide (1 ≤ m.U ∧ m.U ≤ 2147483647)
  else decide (1 ≤ m.P ∧ m.P ≤ 2147483647)
def chk (m : Mg) : Bool := (flds m.k).all (chkF m)
def msgS (k : Nat) (ws : List ByteArray) : Option Mg := (fill k (flds k) (mg0 k) ws).bind fun m => if chk m = true then some m else none
def numsS : List ByteArray → Option (List Int)
  | [] => some []
  | q :: r => if (numS q.data.toList).2 = true then (numsS r).map ((numS q.data.toList).1 :: ·) else none
def tickL : List UInt8 := [116, 105, 99, 107]
def fuseL : List UInt8 := [102, 117, 115, 101]
def crashL : List UInt8 := [99, 114, 97, 115, 104]
def actS (q : ByteArray) (l : List Int) : Option Stp :=
  match l with
  | [x] => if q.data.toList = tickL then some ⟨2, mg0 0, x, 0⟩ else if q.data.toList = fuseL then some ⟨3, mg0 0, x, 0⟩ else if q.data.toList = crashL then some ⟨4, mg0 0, x, -1⟩ else none
  | [x, y] => if q.data.toList = crashL then some ⟨4, mg0 0, x, y⟩ else none
  | _ => none
def stepS (q : ByteArray) (ws : List ByteArray) : Option Stp :=
  if kindS q ≠ 0 then (msgS (kindS q) ws).map fun m => ⟨1, m, 0, 0⟩ else (numsS ws).bind (actS q)
/-- The words of bytes: g is what was read of the word that goes on. -/
def wrdA : List UInt8 → List UInt8 → List ByteArray
  | g, [] => if g = [] then [] else [⟨g.toArray⟩]
  | g, c :: r => if c = 32 then (if g = [] then wrdA [] r else ⟨g.toArray⟩ :: wrdA [] r) else wrdA (g ++ [c]) r
def wrd (l : List UInt8) : List ByteArray := wrdA [] l
/-- The lines of bytes, the last one too if it is empty. -/
def linF (g : List UInt8) : List UInt8 → List (List UInt8)
  | [] => [g]
  | c :: r => if c = 10 then g :: linF [] r else linF (g ++ [c]) r
def lins (l : List UInt8) : List (List UInt8) := linF [] l
def prsL : List (List UInt8) → Option (List Stp)
  | [] => some []
  | l :: ls => match wrd l with
    | [] => prsL ls
    | q :: ws => (stepS q ws).bind fun x => (prsL ls).map (x :: ·)
def prs (l : List UInt8) : Option (List Stp) := prsL (lins l)
/-! The program's way. -/
theorem ixB_ge (l : List UInt8) : -1 ≤ indexByte l 10 := indexByte_ge l 10
theorem ixB_cons (c : UInt8) (r : List UInt8) : indexByte (c :: r) 10 = if c == 10 then 0 else if indexByte r 10 == -1 then -1 else indexByte r 10 + 1 := rfl
theorem ixB_lt : ∀ (l : List UInt8), indexByte l 10 < (l.length : Int)
  | [] => by decide
  | c :: r => by
    have := ixB_lt r
    have := ixB_ge r
    unfold indexByte
    simp only [List.length_cons, beq_iff_eq]
    split
    · omega
    · split <;> omega
theorem linF_cons (g : List UInt8) (c : UInt8) (r : List UInt8) : linF g (c :: r) = if c = 10 then g :: linF [] r else linF (g ++ [c]) r := rfl
theorem linF_no : ∀ (l g : List UInt8), ¬ 0 ≤ indexByte l 10 → linF g l = [g ++ l]
  | [], g, h => by simp [linF]
  | c :: r, g, h => by
    have := ixB_ge r
    rw [linF_cons]
    by_cases h1 : c = 10
    · subst h1; exact absurd (by simp [indexByte]) h
    · rw [if_neg h1, linF_no r (g ++ [c]) ?_]
      · simp
      · intro h2
        apply h
        unfold indexByte
        rw [if_neg (by simpa using h1)]
        split <;> rename_i h3
        · simp at h3; omega
        · omega
theorem linF_yes : ∀ (l g : List UInt8), 0 ≤ indexByte l 10 → linF g l = (g ++ l.take (indexByte l 10).toNat) :: linF [] (l.drop ((indexByte l 10).toNat + 1))
  | [], g, h => by simp [indexByte] at h
  | c :: r, g, h => by
    rw [linF_cons]
    by_cases h1 : c = 10
    · subst h1
      rw [if_pos rfl]
      simp [indexByte]
    · have h4 : (if indexByte r 10 == -1 then (-1 : Int) else indexByte r 10 + 1) = indexByte (c :: r) 10 := by
        rw [ixB_cons, if_neg (show ¬ (c == 10) = true by simpa using h1)]
      have h5 : 0 ≤ indexByte r 10 ∧ indexByte (c :: r) 10 = indexByte r 10 + 1 := by
        rw [← h4] at h ⊢
        have := ixB_ge r
        split at h
        · omega
        · rename_i h6
          rw [if_neg h6]
          simp at h6
          omega
      rw [if_neg h1, linF_yes r (g ++ [c]) h5.1, h5.2, show (indexByte r 10 + 1).toNat = (indexByte r 10).toNat + 1 by omega]
      simp
theorem prsL_nilline (ls : List (List UInt8)) : prsL ([] :: ls) = prsL ls := by
  unfold prsL
  simp [wrd, wrdA]
  cases ls <;> rfl
theorem wrdA_len : ∀ (l g : List UInt8) (n : Nat), g.length + l.length ≤ n → (wrdA g l).length ≤ l.length + 1 ∧ ∀ q ∈ wrdA g l, q.size ≤ n
  | [], g, n, h => by
    unfold wrdA
    split
    · simp
    · refine ⟨by simp, fun q hq => ?_⟩
      simp at hq
      subst hq
      show g.toArray.size ≤ n
      simpa using h
  | c :: r, g, n, h => by
    simp only [List.length_cons] at h
    unfold wrdA
    split
    · have := wrdA_len r [] n (by simp; omega)
      split
      · exact ⟨by simp; omega, this.2⟩
      · refine ⟨by simp; omega, fun q hq => ?_⟩
        rcases List.mem_cons.1 hq with rfl | hq
        · show g.toArray.size ≤ n
          simp; omega
        · exact this.2 q hq
    · have := wrdA_len r (g ++ [c]) n (by simp; omega)
      exact ⟨by simp; omega, this.2⟩
theorem wrd_len (l : List UInt8) : (wrd l).length ≤ l.length + 1 ∧ ∀ q ∈ wrd l, q.size ≤ l.length := wrdA_len l [] l.length (by simp)
end Go.Proofs.Ytfbedlhigggggaa.Sp
namespace Go.Proofs.Ytfbedlhigggggaa.Sp
open Go Go.Lib Go.Proofs.Ytfbedlhigggggaa
set_option linter.unusedVariables false
/-- Words of bytes as spans: a is where the word that goes on began. -/
def spn : List UInt8 → Nat → Option Nat → List (Nat × Nat)
  | [], p, none => []
  | [], p, some a => [(a, p)]
  | c :: r, p, st => if c = 32 then (match st with
    | some a => (a, p) :: spn r (p + 1) none
    | none => spn r (p + 1) none) else (match st with
    | some a => spn r (p + 1) (some a)
    | none => spn r (p + 1) (some p))
theorem spn_sp (r : List UInt8) (p : Nat) : spn (32 :: r) p none = spn r (p + 1) none := rfl
theorem spn_sp' (r : List UInt8) (p a : Nat) : spn (32 :: r) p (some a) = (a, p) :: spn r (p + 1) none := rfl
theorem spn_no (c : UInt8) (r : List UInt8) (p : Nat) (st : Option Nat) (h : c ≠ 32) : spn (c :: r) p st = spn r (p + 1) (some (st.getD p)) := by
  rcases st with _ | a
  · conv => lhs; unfold spn
    rw [if_neg h]; rfl
  · conv => lhs; unfold spn
    rw [if_neg h]; rfl
theorem decode_cont (s : ByteArray) (pos : Nat) (h : pos < s.size) (ha : 128 ≤ (s[pos]'h).toNat) : ∀ k, 1 ≤ k → k < (Utf8.decode s pos).2 → pos + k < s.size ∧ (s.get! (pos + k)).toNat / 64 = 2 := by
  have hn : ¬ (s[pos]'h).toNat < 128 := by omega
  intro k h1 h2
  simp only [Utf8.decode, get_at s pos h, hn, if_false, Bool.and_eq_true, decide_eq_true_eq, beq_iff_eq] at h2
  repeat' split at h2
  all_goals (first | (exfalso; simp only at h2; omega) | skip)
  all_goals
    simp only at h2
    obtain h3 | h3 | h3 : k = 1 ∨ k = 2 ∨ k = 3 := by omega
    all_goals (subst h3; first | omega | (constructor <;> simp_all))
theorem drop_at (s : ByteArray) (pos : Nat) (h : pos < s.size) : s.data.toList.drop pos = s[pos] :: s.data.toList.drop (pos + 1) := by
  rw [List.drop_eq_getElem_cons (by simpa using h)]; rfl
theorem get_bang (s : ByteArray) (pos : Nat) (h : pos < s.size) : s.get! pos = s[pos] := by
  simp [ByteArray.get!, getElem!_pos, h]; rfl
theorem not_sp {c : UInt8} (h : 128 ≤ c.toNat) : c ≠ 32 := by
  intro e; subst e; exact absurd h (by decide)
theorem spn_run (s : ByteArray) : ∀ (j pos a : Nat), (∀ k, k < j → ∃ h : pos + k < s.size, 128 ≤ (s[pos + k]'h).toNat) → spn (s.data.toList.drop pos) pos (some a) = spn (s.data.toList.drop (pos + j)) (pos + j) (some a)
  | 0, pos, a, h => rfl
  | j + 1, pos, a, h => by
    obtain ⟨h0, h1⟩ := h 0 (by omega)
    rw [drop_at s pos h0, spn_no _ _ _ _ (show (s[pos]'h0) ≠ 32 from not_sp h1)]
    have := spn_run s j (pos + 1) a (fun k hk => by
      obtain ⟨h2, h3⟩ := h (k + 1) (by omega)
      have e : pos + 1 + k = pos + (k + 1) := by omega
      refine ⟨by omega, ?_⟩
      simp only [e]
      exact h3)
    rw [show pos + (j + 1) = pos + 1 + j by omega]
    exact this
theorem high_all (s : ByteArray) (pos : Nat) (h : pos < s.size) (ha : 128 ≤ (s[pos]'h).toNat) : ∀ k, k < (Utf8.decode s pos).2 → ∃ h : pos + k < s.size, 128 ≤ (s[pos + k]'h).toNat := by
  intro k hk
  by_cases h0 : k = 0
  · subst h0; exact ⟨h, ha⟩
  · obtain ⟨h1, h2⟩ := decode_cont s pos h ha k (by omega) hk
    refine ⟨h1, ?_⟩
    rw [get_bang s _ h1] at h2
    omega
theorem spans_eq (s : ByteArray) : ∀ (f pos : Nat) (st : Option Nat) (acc : List (Nat × Nat)), s.size ≤ pos + f → pos ≤ s.size → closeSpans s (spansFromP spB s f pos st acc) = acc ++ spn (s.data.toList.drop pos) pos st
  | 0, pos, st, acc, h1, h2 => by
    obtain rfl : pos = s.size := by omega
    rw [List.drop_eq_nil_of_le (by simp)]
    cases st <;> simp [spansFromP, closeSpans, spn]
  | f + 1, pos, st, acc, h1, h2 => by
    by_cases hlt : pos < s.size
    · conv => lhs; unfold spansFromP
      rw [if_pos hlt]
      by_cases ha : (s[pos]'hlt).toNat < 128
      · rw [decode_ascii s pos hlt ha, drop_at s pos hlt]
        by_cases h32 : s[pos] = 32
        · have e : spB (s[pos]'hlt).toNat = true := by rw [h32]; decide
          simp only [e, if_true]
          rw [h32]
          cases st with
          | none => rw [spn_sp]; exact spans_eq s f _ _ _ (by omega) (by omega)
          | some a => rw [spn_sp']; simp only [spans_eq s f (pos + 1) none (acc ++ [(a, pos)]) (by omega) (by omega)]; simp
        · have e : spB (s[pos]'hlt).toNat = false := by
            unfold spB
            rw [decide_eq_false_iff_not]
            intro h
            apply h32
            apply UInt8.toNat_inj.1
            have : (32 : UInt8).toNat = 32 := rfl
            omega
          simp only [e, Bool.false_eq_true, if_false]
          rw [spn_no _ _ _ _ h32]
          cases st with
          | none => exact spans_eq s f _ _ _ (by omega) (by omega)
          | some a => exact spans_eq s f _ _ _ (by omega) (by omega)
      · have ha' : 128 ≤ (s[pos]'hlt).toNat := by omega
        obtain ⟨hd1, hd2⟩ := decode_high s pos hlt ha'
        have hall := high_all s pos hlt ha'
        obtain ⟨hl, _⟩ := hall ((Utf8.decode s pos).2 - 1) (by omega)
        have e : spB (Utf8.decode s pos).1 = false := by
          unfold spB
          rw [decide_eq_false_iff_not]
          omega
        simp only [e, Bool.false_eq_true, if_false]
        have hr : spn (s.data.toList.drop pos) pos st = spn (s.data.toList.drop (pos + (Utf8.decode s pos).2)) (pos + (Utf8.decode s pos).2) (some (st.getD pos)) := by
          rw [← spn_run s _ pos (st.getD pos) hall, drop_at s pos hlt, spn_no _ _ _ _ (not_sp ha'), spn_no _ _ _ _ (not_sp ha')]
          rfl
        rw [hr]
        cases st with
        | none => exact spans_eq s f _ _ _ (by omega) (by omega)
        | some a => exact spans_eq s f _ _ _ (by omega) (by omega)
    · obtain rfl : pos = s.size := by omega
      rw [List.drop_eq_nil_of_le (by simp), spansFromP_end _ _ _ _ _ _ hlt]
      cases st <;> simp [closeSpans, spn]
theorem ext_mk (s : ByteArray) (a b : Nat) : s.extract a b = ⟨((s.data.toList.take b).drop a).toArray⟩ := by
  have e : (s.extract a b).data.toList = (s.data.toList.take b).drop a := by rw [Lib.extract_data]; simp [List.drop_take]
  rw [← e]
/-- What was read of the word that goes on. -/
def gof (s : ByteArray) (p : Nat) : Option Nat → List UInt8
  | none => []
  | some a => (s.data.toList.take p).drop a
theorem gof_next (s : ByteArray) (p : Nat) (h : p < s.size) (st : Option Nat) (hst : ∀ a, st = some a → a < p) : gof s (p + 1) (some (st.getD p)) = gof s p st ++ [s[p]] := by
  have e : s.data.toList.take (p + 1) = s.data.toList.take p ++ [s[p]] := by rw [List.take_succ_eq_append_getElem (by simpa using h)]; rfl
  cases st with
  | none =>
    simp only [gof, Option.getD]
    rw [e, List.drop_append_of_le_length (by simp; omega), List.drop_eq_nil_of_le (by simp; omega)]
  | some a =>
    have := hst a rfl
    simp only [gof, Option.getD]
    rw [e, List.drop_append_of_le_length (by simp; omega)]
theorem gof_ne (s : ByteArray) (p a : Nat) (h : p ≤ s.size) (ha : a < p) : gof s p (some a) ≠ [] := by
  intro e
  have := congrArg List.length e
  simp [gof] at this
  omega
theorem spn_wrd (s : ByteArray) : ∀ (f p : Nat) (st : Option Nat), p + f = s.size → (∀ a, st = some a → a < p) → (spn (s.data.toList.drop p) p st).map (fun x => s.extract x.1 x.2) = wrdA (gof s p st) (s.data.toList.drop p)
  | 0, p, st, h, hst => by
    rw [List.drop_eq_nil_of_le (by simp; omega)]
    cases st with
    | none => rfl
    | some a =>
      have := gof_ne s p a (by omega) (hst a rfl)
      simp only [spn, wrdA, List.map_cons, List.map_nil, ext_mk, if_neg this]
      rfl
  | f + 1, p, st, h, hst => by
    have hlt : p < s.size := by omega
    rw [drop_at s p hlt]
    by_cases h32 : s[p] = 32
    · rw [h32]
      cases st with
      | none =>
        rw [spn_sp, spn_wrd s f (p + 1) none (by omega) (fun a h => by cases h)]
        rfl
      | some a =>
        have := gof_ne s p a (by omega) (hst a rfl)
        rw [spn_sp', List.map_cons, spn_wrd s f (p + 1) none (by omega) (fun a h => by cases h), ext_mk]
        conv => rhs; unfold wrdA
        rw [if_pos rfl, if_neg this]
        rfl
    · rw [spn_no _ _ _ _ h32, spn_wrd s f (p + 1) _ (by omega) (fun a ha => by
        injection ha with ha
        subst ha
        cases st with
        | none => exact Nat.lt_succ_self _
        | some a => have := hst a rfl; simp; omega), gof_next s p hlt st hst]
      conv => rhs; unfold wrdA
      rw [if_neg h32]
/-- The words that FieldsFunc finds. -/
theorem fields_wrd (s : ByteArray) : goFieldsP spB s = wrd s.data.toList := by
  unfold goFieldsP spansOfP
  rw [spans_eq s s.size 0 none [] (by omega) (by omega), List.nil_append]
  have := spn_wrd s s.size 0 none (by omega) (fun a h => by cases h)
  simpa [gof, wrd] using this
end Go.Proofs.Ytfbedlhigggggaa.Sp
