/- A master, and maps of numbers beside it, by the same keys in the same order. -/
import Derived.Test.YtacmmkpcnpnjoaaMas8
import Derived.Test.YtacmmkpcnpnjoaaMapI
namespace Go.Proofs.Ytacmmkpcnpnjoaa.Mas
open Go Go.RowKit Go.Proofs.Ytacmmkpcnpnjoaa Go.Proofs.Ytacmmkpcnpnjoaa.Crw Go.ChangeShapes Go.WideShapes Go.ChangeAt
set_option linter.unusedVariables false
set_option maxRecDepth 100000
section
variable {w w' : World} {B m mb b : Nat} {V : Nat → Prop} {R R1 : List Tk} {g : Tk → Int} {f t : ByteArray} {o : Option (Nat × Tk)}
abbrev en (g : Tk → Int) (x : Tk) : Value × Value := (tkK x.f x.t, .int .i64 (g x))
def Uq (R : List Tk) : Prop := ∀ (j k : Nat) (x y : Tk), R[j]? = some x → R[k]? = some y → same y.f y.t x = true → j = k
def No (R : List Tk) (f t : ByteArray) : Prop := ∀ (k : Nat) (x : Tk), R[k]? = some x → same f t x = false
theorem zero_int : zeroP Try.prog 3 = some (.int .i64 0) := by kernel_rfl
theorem beq_self (f t : ByteArray) : beq1 (tkK f t) (tkK f t) = true := by rw [beq_key]; simp
theorem en_kv [Toks] : Kv Try.prog 28 (R.map (en g)) := by
  intro p hp
  obtain ⟨x, _, rfl⟩ := List.mem_map.1 hp
  exact ⟨key_fit x.f x.t, VR1.flat rfl⟩
theorem en_no (h : No R f t) : ∀ p ∈ R.map (en g), beq1 (tkK f t) p.1 = false := by
  intro p hp
  obtain ⟨y, hy, rfl⟩ := List.mem_map.1 hp
  obtain ⟨k, hk⟩ := List.getElem?_of_mem hy
  show beq1 (tkK f t) (tkE y).1 = false
  rw [same_beq]
  exact h k y hk
theorem en_fst (hu : Uq R) {j : Nat} {x : Tk} (hj : R[j]? = some x) : ∀ (i : Nat) (p : Value × Value), i < j → (R.map (en g))[i]? = some p → beq1 (tkK x.f x.t) p.1 = false := by
  intro i p hi hp
  rw [List.getElem?_map] at hp
  cases hy : R[i]? with
  | none => rw [hy] at hp; cases hp
  | some y =>
    rw [hy] at hp
    injection hp with hp
    subst hp
    show beq1 (tkK x.f x.t) (tkE y).1 = false
    rw [same_beq]
    cases hh : same x.f x.t y with
    | false => rfl
    | true => exact absurd (hu i j y x hy hj hh) (by omega)
/-- Where a key stands, if it stands there at all. -/
def Has (R : List Tk) (f t : ByteArray) : Option (Nat × Tk) → Prop
  | none => No R f t
  | some (j, x) => R[j]? = some x ∧ x.f = f ∧ x.t = t
theorem has_any (R : List Tk) (f t : ByteArray) : ∃ o, Has R f t o := by
  by_cases h : ∃ (k : Nat) (x : Tk), R[k]? = some x ∧ same f t x = true
  · obtain ⟨k, x, h1, h2⟩ := h
    exact ⟨some (k, x), h1, (same_eq h2).1.symm, (same_eq h2).2.symm⟩
  · refine ⟨none, fun k x hk => ?_⟩
    cases hh : same f t x with
    | false => rfl
    | true => exact absurd ⟨k, x, hk, hh⟩ h
def val (g : Tk → Int) : Option (Nat × Tk) → Int
  | none => 0
  | some (_, x) => g x
def nsOf : Option (Nat × Tk) → List Int
  | none => []
  | some (_, x) => x.ns
abbrev cnt (x : Tk) : Int := x.ns.length
theorem val_cnt : val cnt o = (nsOf o).length := by
  rcases o with _ | ⟨j, x⟩ <;> rfl
theorem look_has (hm : MapAt w b (R.map (en g))) (hu : Uq R) (ho : Has R f t o) : (Instr.lookup 40 (.map (some b)) (tkK f t) false).run Try.prog w = .ok (.int .i64 (val g o)) w := by
  letI : Toks := ⟨fun _ => 0⟩
  rcases o with _ | ⟨j, x⟩
  · have := hm.look_no (P := Try.prog) (k := tkK f t) Try.underlying40 en_kv (key_fit f t) (en_no ho) zero_int false
    simpa [val] using this
  · obtain ⟨hj, rfl, rfl⟩ := ho
    have := hm.look_yes (P := Try.prog) (j := j) (v := .int .i64 (g x)) (k := tkK x.f x.t) Try.underlying40 en_kv (by rw [List.getElem?_map, hj]; rfl) (beq_self _ _) (en_fst hu hj) false
    simpa [val] using this
/-- The entries behind a number that is put in. -/
def putKv (R : List Tk) (g : Tk → Int) (f t : ByteArray) (v : Int) : Option (Nat × Tk) → List (Value × Value)
  | none => R.map (en g) ++ [(tkK f t, .int .i64 v)]
  | some (j, _) => (R.map (en g)).set j (tkK f t, .int .i64 v)
theorem put_has (hm : MapAt w b (R.map (en g))) (hu : Uq R) (ho : Has R f t o) (v : Int) :
    ∃ w', (Instr.mapUpdate 40 (.map (some b)) (tkK f t) (.int .i64 v)).run Try.prog w = .ok () w' ∧ MapAt w' b (putKv R g f t v o) ∧ w.grownBy w' (some b) := by
  letI : Toks := ⟨fun _ => 0⟩
  rcases o with _ | ⟨j, x⟩
  · exact hm.put_no (P := Try.prog) (k := tkK f t) Try.underlying40 en_kv (key_fit f t) (en_no ho) _
  · obtain ⟨hj, rfl, rfl⟩ := ho
    exact hm.put_yes (P := Try.prog) (j := j) (u := .int .i64 (g x)) (k := tkK x.f x.t) Try.underlying40 en_kv (by rw [List.getElem?_map, hj]; rfl) (beq_self _ _) (en_fst hu hj) _
theorem incr_has (hm : MapS w b (R.map (en g))) (hu : Uq R) (ho : Has R f t o) (v : Int) :
    ∃ (st : Int) (w1 w2 : World), (Instr.mapEntry 40 (.map (some b)) (tkK f t)).run Try.prog w = .ok (.tuple #[.int .i64 (val g o), .int .i64 st]) w1 ∧
      (Instr.lookup 40 (.map (some b)) (tkK f t) false).run Try.prog w1 = .ok (.int .i64 (val g o)) w1 ∧
      (Instr.entryStore 40 (.map (some b)) (.int .i64 st) (.int .i64 v)).run Try.prog w1 = .ok () w2 ∧ MapS w2 b (putKv R g f t v o) ∧ w.grownBy w2 (some b) := by
  letI : Toks := ⟨fun _ => 0⟩
  rcases o with _ | ⟨j, x⟩
  · obtain ⟨st, w1, h1, h2, h3⟩ := hm.incr_no (P := Try.prog) (k := tkK f t) Try.underlying40 en_kv (key_fit f t) (beq_self _ _) (en_no ho) zero_int (VR1.flat rfl)
    obtain ⟨w2, h4, h5, h6⟩ := h3 (.int .i64 v)
    exact ⟨st, w1, w2, h1, h2, h4, h5, h6⟩
  · obtain ⟨hj, rfl, rfl⟩ := ho
    obtain ⟨st, w1, h1, h2, h3⟩ := hm.incr_yes (P := Try.prog) (j := j) (u := .int .i64 (g x)) (k := tkK x.f x.t) Try.underlying40 en_kv (by rw [List.getElem?_map, hj]; rfl) (beq_self _ _) (en_fst hu hj)
    obtain ⟨w2, h4, h5, h6⟩ := h3 (.int .i64 v)
    exact ⟨st, w1, w2, h1, h2, h4, h5, h6⟩
theorem look_put (hu : Uq R) (ho : Has R f t o) {v : Int} (hm : MapAt w b (putKv R g f t v o)) : (Instr.lookup 40 (.map (some b)) (tkK f t) false).run Try.prog w = .ok (.int .i64 v) w := by
  letI : Toks := ⟨fun _ => 0⟩
  rcases o with _ | ⟨j, x⟩
  · have := hm.look_yes (P := Try.prog) (j := (R.map (en g)).length) (v := .int .i64 v) (k := tkK f t) Try.underlying40 (fun p hp => by
      rcases List.mem_append.1 hp with hp | hp
      · exact en_kv p hp
      · rw [List.mem_singleton] at hp
        subst hp
        exact ⟨key_fit f t, VR1.flat rfl⟩) (by simp [putKv]) (beq_self _ _) (fun i p hi hp => by
      rw [show putKv R g f t v none = R.map (en g) ++ [(tkK f t, .int .i64 v)] from rfl, List.getElem?_append_left hi] at hp
      exact en_no ho p (List.mem_of_getElem? hp)) false
    simpa using this
  · obtain ⟨hj, rfl, rfl⟩ := ho
    have hjl : j < (R.map (en g)).length := by rw [List.length_map]; exact (List.getElem?_eq_some_iff.1 hj).1
    have := hm.look_yes (P := Try.prog) (j := j) (v := .int .i64 v) (k := tkK x.f x.t) Try.underlying40 (fun p hp => by
      rcases List.mem_or_eq_of_mem_set hp with hp | rfl
      · exact en_kv p hp
      · exact ⟨key_fit _ _, VR1.flat rfl⟩) (by rw [show putKv R g x.f x.t v (some (j, x)) = (R.map (en g)).set j (tkK x.f x.t, .int .i64 v) from rfl, List.getElem?_set_self hjl]) (beq_self _ _) (fun i p hi hp => by
      rw [show putKv R g x.f x.t v (some (j, x)) = (R.map (en g)).set j (tkK x.f x.t, .int .i64 v) from rfl, List.getElem?_set_ne (by omega)] at hp
      exact en_fst hu hj i p hi hp) false
    simpa using this
/-- The first numbers. -/
def seqI (n : Nat) : List Int := (List.range n).map fun (j : Nat) => (j : Int) + 1
theorem seqI_len (n : Nat) : (seqI n).length = n := by simp [seqI]
theorem seqI_succ (n : Nat) : seqI (n + 1) = seqI n ++ [(n : Int) + 1] := by simp [seqI, List.range_succ]
theorem seqI_get {n j : Nat} (h : j < n) : (seqI n)[j]? = some ((j : Int) + 1) := by simp [seqI, h]
/-- What is heard behind one update more. -/
def Nx (R : List Tk) (f t : ByteArray) (s : Int) (R1 : List Tk) : Option (Nat × Tk) → Prop
  | none => ∃ g v', R1 = R ++ [⟨f, t, g, s, v', [1]⟩]
  | some (j, x) => ∃ v', R1 = R.set j { x with st := s, v := v', ns := x.ns ++ [(x.ns.length : Int) + 1] }
theorem nx_st {s : Int} (ho : Has R f t o) (h : Nx R f t s R1 o) : R1.map (en (·.st)) = putKv R (·.st) f t s o := by
  rcases o with _ | ⟨j, x⟩
  · obtain ⟨g, v', rfl⟩ := h
    simp [putKv, en]
  · obtain ⟨hj, rfl, rfl⟩ := ho
    obtain ⟨v', rfl⟩ := h
    simp [putKv, en, List.map_set]
theorem nx_cn {s : Int} (ho : Has R f t o) (h : Nx R f t s R1 o) : R1.map (en cnt) = putKv R cnt f t (val cnt o + 1) o := by
  rcases o with _ | ⟨j, x⟩
  · obtain ⟨g, v', rfl⟩ := h
    simp [putKv, en, val, cnt]
  · obtain ⟨hj, rfl, rfl⟩ := ho
    obtain ⟨v', rfl⟩ := h
    simp [putKv, en, List.map_set, val, cnt]
/-- The numbers of each are the first ones. -/
def Sq (R : List Tk) (i : Nat) : Prop := R.length ≤ i ∧ ∀ (k : Nat) (x : Tk), R[k]? = some x → x.ns = seqI x.ns.length ∧ 1 ≤ x.ns.length ∧ x.ns.length ≤ i
theorem Sq.nx {i : Nat} {s : Int} (h : Sq R i) (ho : Has R f t o) (hn : Nx R f t s R1 o) : Sq R1 (i + 1) := by
  rcases o with _ | ⟨j, x⟩
  · obtain ⟨g, v', rfl⟩ := hn
    refine ⟨by have := h.1; simp; omega, fun k y hy => ?_⟩
    rcases get_push hy with ⟨_, rfl⟩ | ⟨_, hy⟩
    · exact ⟨by simp [seqI], by simp, by simp⟩
    · obtain ⟨h1, h2, h3⟩ := h.2 k y hy
      exact ⟨h1, h2, by omega⟩
  · obtain ⟨hj, rfl, rfl⟩ := ho
    obtain ⟨v', rfl⟩ := hn
    refine ⟨by have := h.1; simp; omega, fun k y hy => ?_⟩
    rw [List.getElem?_set] at hy
    split at hy
    · split at hy
      · injection hy with hy
        subst hy
        obtain ⟨h1, h2, h3⟩ := h.2 j x hj
        refine ⟨?_, by simp, by simp; omega⟩
        simp only [List.length_append, List.length_singleton]
        rw [seqI_succ, ← h1]
      · cases hy
    · obtain ⟨h1, h2, h3⟩ := h.2 k y hy
      exact ⟨h1, h2, by omega⟩
theorem Sq.ns {i : Nat} (h : Sq R i) (ho : Has R f t o) : nsOf o = seqI (nsOf o).length ∧ (nsOf o).length ≤ i := by
  rcases o with _ | ⟨j, x⟩
  · exact ⟨rfl, Nat.zero_le _⟩
  · obtain ⟨hj, rfl, rfl⟩ := ho
    exact ⟨(h.2 j x hj).1, (h.2 j x hj).2.2⟩
theorem State_has (h : MsP w B m mb V R) (ho : Has R f t o) :
    Calls Try.prog 16 #[.pointer (some ⟨m, 0, none⟩), .agg #[.string f, .string t]] w fun e w' => e = .returned (.int .i64 (val (·.st) o)) ∧ Below w.heap.size w w' := by
  rcases o with _ | ⟨j, x⟩
  · exact State_no h ho
  · obtain ⟨hj, rfl, rfl⟩ := ho
    exact State_yes h hj (same_self x)
theorem Heard_has (h : MsP w B m mb V R) (ho : Has R f t o) (hl : (nsOf o).length ≤ 900) :
    Calls Try.prog 17 #[.pointer (some ⟨m, 0, none⟩), .agg #[.string f, .string t]] w fun e w' => ∃ v', e = .returned v' ∧ w'.ownsRow w.heap.size 3 1 v' (nsOf o).length (ints (nsOf o)) ∧ Below w.heap.size w w' := by
  rcases o with _ | ⟨j, x⟩
  · refine (Heard_no h ho).mono ?_
    rintro e w' ⟨rfl, hb⟩
    exact ⟨_, rfl, ⟨by simp [nsOf], .inl ⟨rfl, rfl⟩⟩, hb⟩
  · obtain ⟨hj, rfl, rfl⟩ := ho
    exact Heard_yes h hj (same_self x) (by have : (nsOf (some (j, x))).length = x.ns.length := rfl; omega)
theorem Hear_has {i : Nat} (h : MsP w B m mb V R) (hq : Sq R i) (hi : i ≤ 900) (ho : Has R f t o) {e : ByteArray} (n st ep : Int) :
    Calls Try.prog 14 #[.pointer (some ⟨m, 0, none⟩), .agg (msgC f e t n st (val cnt o + 1) ep)] w fun r w' => ∃ c, r = .returned (.slice (some ⟨c, 0, none⟩) 1 1) ∧ Blk w' c 33 (ackC f t (val cnt o + 1) ep) ∧ Heard w B m mb V (fun R1 => Nx R f t st R1 o) c w' := by
  refine Hear_of h fun w1 h1 _ => ?_
  rcases o with _ | ⟨j, x⟩
  · refine (note_new h1 ho n st _ ep).mono ?_
    rintro r w' ⟨hr, V', R2, ⟨g, v', rfl⟩, h2⟩
    exact ⟨hr, V', _, ⟨g, v', rfl⟩, h2⟩
  · obtain ⟨hj, rfl, rfl⟩ := ho
    obtain ⟨h2, h3, h4⟩ := hq.2 j x hj
    obtain ⟨q, hq⟩ : ∃ q, x.ns.length = q + 1 := ⟨x.ns.length - 1, by omega⟩
    have hlast : x.ns[q]? = some ((q : Int) + 1) := by rw [h2, hq]; exact seqI_get (by omega)
    refine (note_more h1 hj (same_self x) n st (cnt x + 1) ep hq (by omega) hlast (by simp [cnt, hq]; omega)).mono ?_
    rintro r w' ⟨hr, V', R2, ⟨v', rfl⟩, h5⟩
    exact ⟨hr, V', _, ⟨v', rfl⟩, h5⟩
end
end Go.Proofs.Ytacmmkpcnpnjoaa.Mas
