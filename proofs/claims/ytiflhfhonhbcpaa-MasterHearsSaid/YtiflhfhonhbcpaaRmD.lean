/- Both masters hear one message: what is answered, what they are then. -/
import Derived.Test.YtiflhfhonhbcpaaRmB
import Derived.Test.YtiflhfhonhbcpaaRmF
import Derived.Test.YtiflhfhonhbcpaaMas8
import Derived.Deep.RegionHeld3
import Derived.Deep.DeepCutAuto
namespace Go.Proofs.Ytiflhfhonhbcpaa.Mas
open Go Go.RowKit Go.Proofs.Ytiflhfhonhbcpaa Go.Proofs.Ytiflhfhonhbcpaa.Crw Go.ChangeShapes Go.WideShapes Go.ChangeAt
set_option linter.unusedVariables false
set_option maxRecDepth 100000
section
abbrev anC (kk : Int) (f t : ByteArray) (nu ep : Int) : Array Value := #[.int .i64 kk, .string f, .string ⟨#[]⟩, .string t, .int .i64 0, .int .i64 0, .int .i64 nu, .int .i64 ep, .slice none 0 0]
set_option maxHeartbeats 4000000
theorem keepN {w w1 w2 : World} {c c' : Nat} {kk : Int} {f t : ByteArray} {nu ep : Int} (h : w1.cell? ⟨c, 0, none⟩ = some (.int .i64 kk) ∧ w1.cell? ⟨c, 1, none⟩ = some (.string f) ∧ w1.cell? ⟨c, 2, none⟩ = some (.string ⟨#[]⟩) ∧ w1.cell? ⟨c, 3, none⟩ = some (.string t) ∧ w1.cell? ⟨c, 4, none⟩ = some (.int .i64 0) ∧ w1.cell? ⟨c, 5, none⟩ = some (.int .i64 0) ∧ w1.cell? ⟨c, 6, none⟩ = some (.int .i64 nu) ∧ w1.cell? ⟨c, 7, none⟩ = some (.int .i64 ep) ∧ w1.cell? ⟨c, 8, none⟩ = some (.slice none 0 0) ∧ w1.cell? ⟨c', 0, none⟩ = some (.int .i64 kk) ∧ w1.cell? ⟨c', 1, none⟩ = some (.string f) ∧ w1.cell? ⟨c', 2, none⟩ = some (.string ⟨#[]⟩) ∧ w1.cell? ⟨c', 3, none⟩ = some (.string t) ∧ w1.cell? ⟨c', 4, none⟩ = some (.int .i64 0) ∧ w1.cell? ⟨c', 5, none⟩ = some (.int .i64 0) ∧ w1.cell? ⟨c', 6, none⟩ = some (.int .i64 nu) ∧ w1.cell? ⟨c', 7, none⟩ = some (.int .i64 ep) ∧ w1.cell? ⟨c', 8, none⟩ = some (.slice none 0 0) ∧ Below w.heap.size w w1) (hb : Below w1.heap.size w1 w2) : w2.cell? ⟨c, 0, none⟩ = some (.int .i64 kk) ∧ w2.cell? ⟨c, 1, none⟩ = some (.string f) ∧ w2.cell? ⟨c, 2, none⟩ = some (.string ⟨#[]⟩) ∧ w2.cell? ⟨c, 3, none⟩ = some (.string t) ∧ w2.cell? ⟨c, 4, none⟩ = some (.int .i64 0) ∧ w2.cell? ⟨c, 5, none⟩ = some (.int .i64 0) ∧ w2.cell? ⟨c, 6, none⟩ = some (.int .i64 nu) ∧ w2.cell? ⟨c, 7, none⟩ = some (.int .i64 ep) ∧ w2.cell? ⟨c, 8, none⟩ = some (.slice none 0 0) ∧ w2.cell? ⟨c', 0, none⟩ = some (.int .i64 kk) ∧ w2.cell? ⟨c', 1, none⟩ = some (.string f) ∧ w2.cell? ⟨c', 2, none⟩ = some (.string ⟨#[]⟩) ∧ w2.cell? ⟨c', 3, none⟩ = some (.string t) ∧ w2.cell? ⟨c', 4, none⟩ = some (.int .i64 0) ∧ w2.cell? ⟨c', 5, none⟩ = some (.int .i64 0) ∧ w2.cell? ⟨c', 6, none⟩ = some (.int .i64 nu) ∧ w2.cell? ⟨c', 7, none⟩ = some (.int .i64 ep) ∧ w2.cell? ⟨c', 8, none⟩ = some (.slice none 0 0) ∧ Below w.heap.size w w2 := by
  obtain ⟨h0, h1, h2, h3, h4, h5, h6, h7, h8, h9, h10, h11, h12, h13, h14, h15, h16, h17, h18⟩ := h
  exact ⟨cell_keep h0 hb, cell_keep h1 hb, cell_keep h2 hb, cell_keep h3 hb, cell_keep h4 hb, cell_keep h5 hb, cell_keep h6 hb, cell_keep h7 hb, cell_keep h8 hb, cell_keep h9 hb, cell_keep h10 hb, cell_keep h11 hb, cell_keep h12 hb, cell_keep h13 hb, cell_keep h14 hb, cell_keep h15 hb, cell_keep h16 hb, cell_keep h17 hb, h18.trans (hb.mono h18.size)⟩
theorem lastN {w w1 : World} {c c' : Nat} {kk : Int} {f t : ByteArray} {nu ep : Int} (h : w1.cell? ⟨c, 0, none⟩ = some (.int .i64 kk) ∧ w1.cell? ⟨c, 1, none⟩ = some (.string f) ∧ w1.cell? ⟨c, 2, none⟩ = some (.string ⟨#[]⟩) ∧ w1.cell? ⟨c, 3, none⟩ = some (.string t) ∧ w1.cell? ⟨c, 4, none⟩ = some (.int .i64 0) ∧ w1.cell? ⟨c, 5, none⟩ = some (.int .i64 0) ∧ w1.cell? ⟨c, 6, none⟩ = some (.int .i64 nu) ∧ w1.cell? ⟨c, 7, none⟩ = some (.int .i64 ep) ∧ w1.cell? ⟨c, 8, none⟩ = some (.slice none 0 0) ∧ w1.cell? ⟨c', 0, none⟩ = some (.int .i64 kk) ∧ w1.cell? ⟨c', 1, none⟩ = some (.string f) ∧ w1.cell? ⟨c', 2, none⟩ = some (.string ⟨#[]⟩) ∧ w1.cell? ⟨c', 3, none⟩ = some (.string t) ∧ w1.cell? ⟨c', 4, none⟩ = some (.int .i64 0) ∧ w1.cell? ⟨c', 5, none⟩ = some (.int .i64 0) ∧ w1.cell? ⟨c', 6, none⟩ = some (.int .i64 nu) ∧ w1.cell? ⟨c', 7, none⟩ = some (.int .i64 ep) ∧ w1.cell? ⟨c', 8, none⟩ = some (.slice none 0 0) ∧ Below w.heap.size w w1) : Below w.heap.size w w1 := h.2.2.2.2.2.2.2.2.2.2.2.2.2.2.2.2.2.2
set_option maxHeartbeats 4000000 in
theorem Same_an (kk : Int) (f t : ByteArray) (nu ep : Int) (w : World) :
    Calls Try.prog 49 #[.agg (anC kk f t nu ep), .agg (anC kk f t nu ep)] w fun r w' => r = .returned (.bool true) ∧ Below w.heap.size w w' := by
  have h1 : (f.toList == f.toList) = true := by simp
  have h2 : (t.toList == t.toList) = true := by simp
  have hmono : Below w.heap.size w ((w.alloc (.cells (anC kk f t nu ep) 30)).alloc (.cells (anC kk f t nu ep) 30)) := ((Below.refl _ _).alloc (Nat.le_refl _) _).alloc (by simp) _
  go_enter Try.func49, Try.ntmps49
  go_wp2
  go_loopw [72] (fun vi wr => vi = .int .i64 0 ∧ wr = ((w.alloc (.cells (anC kk f t nu ep) 30)).alloc (.cells (anC kk f t nu ep) 30))) (fun _ _ => 0)
  case atStart => exact ⟨rfl, rfl⟩
  case round =>
    obtain ⟨rfl, rfl⟩ := hrel
    go_wp2
    go_ret
    exact ⟨rfl, hmono⟩
set_option maxHeartbeats 4000000 in
theorem Messages_an {c c' : Nat} {kk : Int} {f t : ByteArray} {nu ep : Int} {w : World} (h : Blk w c 30 (anC kk f t nu ep)) (h' : Blk w c' 30 (anC kk f t nu ep)) :
    Calls Try.prog 17 #[.slice (some ⟨c, 0, none⟩) 1 1, .slice (some ⟨c', 0, none⟩) 1 1] w fun r w' => r = .returned (.bool true) ∧ Below w.heap.size w w' := by
  have hS := fun k => Same_an kk f t nu ep (w.drewN k)
  have HH := Lib.hid (And.intro h h')
  clear h h'
  go_enter Try.func17, Try.ntmps17
  go_wp2
  go_loopw [13] (fun vi wr => Hid ((vi = .int .i64 0 ∨ vi = .int .i64 1) ∧ Below w.heap.size w wr ∧ ∃ w7, w7 = wr)) (fun vi _ => 1 - (intOf vi).toNat)
  case atStart => exact Lib.hid ⟨.inl rfl, Below.refl _ _, _, rfl⟩
  case round =>
    obtain ⟨hv, hb, w7, hw⟩ := hrel.out
    subst hw
    clear hrel
    have k1 := HH.out.1.below hb HH.out.1.lt
    have k2 := HH.out.2.below hb HH.out.2.lt
    have a0 : w7.cell? ⟨c, 0, none⟩ = some (.int .i64 kk) := k1.cell 0
    have a1 : w7.cell? ⟨c, 1, none⟩ = some (.string f) := k1.cell 1
    have a2 : w7.cell? ⟨c, 2, none⟩ = some (.string ⟨#[]⟩) := k1.cell 2
    have a3 : w7.cell? ⟨c, 3, none⟩ = some (.string t) := k1.cell 3
    have a4 : w7.cell? ⟨c, 4, none⟩ = some (.int .i64 0) := k1.cell 4
    have a5 : w7.cell? ⟨c, 5, none⟩ = some (.int .i64 0) := k1.cell 5
    have a6 : w7.cell? ⟨c, 6, none⟩ = some (.int .i64 nu) := k1.cell 6
    have a7 : w7.cell? ⟨c, 7, none⟩ = some (.int .i64 ep) := k1.cell 7
    have a8 : w7.cell? ⟨c, 8, none⟩ = some (.slice none 0 0) := k1.cell 8
    have b0 : w7.cell? ⟨c', 0, none⟩ = some (.int .i64 kk) := k2.cell 0
    have b1 : w7.cell? ⟨c', 1, none⟩ = some (.string f) := k2.cell 1
    have b2 : w7.cell? ⟨c', 2, none⟩ = some (.string ⟨#[]⟩) := k2.cell 2
    have b3 : w7.cell? ⟨c', 3, none⟩ = some (.string t) := k2.cell 3
    have b4 : w7.cell? ⟨c', 4, none⟩ = some (.int .i64 0) := k2.cell 4
    have b5 : w7.cell? ⟨c', 5, none⟩ = some (.int .i64 0) := k2.cell 5
    have b6 : w7.cell? ⟨c', 6, none⟩ = some (.int .i64 nu) := k2.cell 6
    have b7 : w7.cell? ⟨c', 7, none⟩ = some (.int .i64 ep) := k2.cell 7
    have b8 : w7.cell? ⟨c', 8, none⟩ = some (.slice none 0 0) := k2.cell 8
    have HB := Lib.hid hb
    clear k1 k2 hb hS
    rcases hv with rfl | rfl
    · go_upto_region 6 with fail
      go_region_held3 (fun wa => wa.cell? ⟨c, 0, none⟩ = some (.int .i64 kk) ∧ wa.cell? ⟨c, 1, none⟩ = some (.string f) ∧ wa.cell? ⟨c, 2, none⟩ = some (.string ⟨#[]⟩) ∧ wa.cell? ⟨c, 3, none⟩ = some (.string t) ∧ wa.cell? ⟨c, 4, none⟩ = some (.int .i64 0) ∧ wa.cell? ⟨c, 5, none⟩ = some (.int .i64 0) ∧ wa.cell? ⟨c, 6, none⟩ = some (.int .i64 nu) ∧ wa.cell? ⟨c, 7, none⟩ = some (.int .i64 ep) ∧ wa.cell? ⟨c, 8, none⟩ = some (.slice none 0 0) ∧ wa.cell? ⟨c', 0, none⟩ = some (.int .i64 kk) ∧ wa.cell? ⟨c', 1, none⟩ = some (.string f) ∧ wa.cell? ⟨c', 2, none⟩ = some (.string ⟨#[]⟩) ∧ wa.cell? ⟨c', 3, none⟩ = some (.string t) ∧ wa.cell? ⟨c', 4, none⟩ = some (.int .i64 0) ∧ wa.cell? ⟨c', 5, none⟩ = some (.int .i64 0) ∧ wa.cell? ⟨c', 6, none⟩ = some (.int .i64 nu) ∧ wa.cell? ⟨c', 7, none⟩ = some (.int .i64 ep) ∧ wa.cell? ⟨c', 8, none⟩ = some (.slice none 0 0) ∧ Below w.heap.size w wa) (first | assumption | (refine ⟨a0, a1, a2, a3, a4, a5, a6, a7, a8, b0, b1, b2, b3, b4, b5, b6, b7, b8, HB.out.drew⟩) | exact keepN (by assumption) (by assumption)) (first | (go_at_call 49; refine (Same_an kk f t nu ep _).mono ?_; rintro r w9 ⟨rfl, hb9⟩))
      all_goals go_wp2_with fail
      all_goals
        refine ⟨?_, by simp [intOf]⟩
        exact Lib.hid ⟨.inr rfl, lastN (by assumption), _, rfl⟩
    · go_wp2
      go_ret
      exact ⟨rfl, HB.out⟩
set_option maxHeartbeats 400000
theorem Messages_nil (w : World) : Calls Try.prog 17 #[.slice none 0 0, .slice none 0 0] w fun r w' => r = .returned (.bool true) ∧ Below w.heap.size w w' := by
  go_enter Try.func17, Try.ntmps17
  go_wp2
  go_loopw [13] (fun vi wr => vi = .int .i64 0 ∧ wr = w) (fun _ _ => 0)
  case atStart => exact ⟨rfl, rfl⟩
  case round =>
    obtain ⟨rfl, rfl⟩ := hrel
    go_wp2
    go_ret
    exact ⟨rfl, Below.refl _ _⟩
/-- An answer: nothing, or one message. -/
def AnsAt (w : World) (v : Value) (X : Option (Int × ByteArray × ByteArray × Int × Int)) : Prop :=
  (X = none ∧ v = .slice none 0 0) ∨ ∃ k f t nu ep c, X = some (k, f, t, nu, ep) ∧ v = .slice (some ⟨c, 0, none⟩) 1 1 ∧ Blk w c 30 (anC k f t nu ep)
theorem AnsAt.vol {w w' : World} {v : Value} {X : Option (Int × ByteArray × ByteArray × Int × Int)} {U : Nat → Prop} (h : AnsAt w v X) (hv : Vol U w w') (hn : ∀ c, v.ownBlock = some c → ¬ U c) : AnsAt w' v X := by
  rcases h with h | ⟨k, f, t, nu, ep, c, h1, rfl, h3⟩
  · exact .inl h
  · exact .inr ⟨k, f, t, nu, ep, c, h1, rfl, blk_vol h3 hv (hn c rfl)⟩
theorem AnsAt.below {w w' : World} {v : Value} {X : Option (Int × ByteArray × ByteArray × Int × Int)} (h : AnsAt w v X) (hb : Below w.heap.size w w') : AnsAt w' v X := h.vol (U := fun _ => False) (Vol.of_below hb) (fun _ _ => id)
theorem Messages_any {w : World} {v v' : Value} {X : Option (Int × ByteArray × ByteArray × Int × Int)} (h : AnsAt w v X) (h' : AnsAt w v' X) :
    Calls Try.prog 17 #[v, v'] w fun r w' => r = .returned (.bool true) ∧ Below w.heap.size w w' := by
  rcases h with ⟨rfl, rfl⟩ | ⟨k, f, t, nu, ep, c, rfl, rfl, h3⟩
  · rcases h' with ⟨-, rfl⟩ | ⟨k, f, t, nu, ep, c, e, -⟩
    · exact Messages_nil w
    · cases e
  · rcases h' with ⟨e, -⟩ | ⟨k', f', t', nu', ep', c', e, rfl, h4⟩
    · cases e
    · injection e with e
      simp only [Prod.mk.injEq] at e
      obtain ⟨rfl, rfl, rfl, rfl, rfl⟩ := e
      exact Messages_an h3 h4
/-- A task as both masters have it. -/
structure Ag where
  f : ByteArray
  t : ByteArray
  st : Int
  ns : List Int
def kR (x : Tk) : Ag := ⟨x.f, x.t, x.st, x.ns⟩
def kL (x : Rk) : Ag := ⟨x.f, x.t, x.st, x.ns⟩
/-- What a message makes of the tasks. -/
def AgSt (T : List Ag) (k : Int) (f t : ByteArray) (st nu : Int) (T1 : List Ag) : Prop :=
  (¬ k = 11 ∧ T1 = T) ∨ (k = 11 ∧ ∃ (j : Nat) (x : Ag), T[j]? = some x ∧ x.f = f ∧ x.t = t ∧ T1 = T.set j ⟨f, t, st, addN x.ns nu⟩) ∨
  (k = 11 ∧ (∀ (j : Nat) (x : Ag), T[j]? = some x → ¬ (x.f = f ∧ x.t = t)) ∧ T1 = T ++ [⟨f, t, st, [nu]⟩])
/-- Tasks that may be: no key twice, each with a number at least, and few. -/
structure AgOk (T : List Ag) (n : Nat) : Prop where
  uq : ∀ (i j : Nat) (x y : Ag), T[i]? = some x → T[j]? = some y → x.f = y.f → x.t = y.t → i = j
  ne : ∀ (i : Nat) (x : Ag), T[i]? = some x → x.ns ≠ [] ∧ x.ns.length ≤ n
  fg : ∀ (i : Nat) (x : Ag), T[i]? = some x → x.f = ⟨#[102]⟩ ∨ x.f = ⟨#[103]⟩
  len : T.length ≤ n
theorem ag_any (T : List Ag) (f t : ByteArray) : (∃ (j : Nat) (x : Ag), T[j]? = some x ∧ x.f = f ∧ x.t = t) ∨ (∀ (j : Nat) (x : Ag), T[j]? = some x → ¬ (x.f = f ∧ x.t = t)) := by
  rcases Classical.em (∃ (j : Nat) (x : Ag), T[j]? = some x ∧ x.f = f ∧ x.t = t) with h | h
  · exact .inl h
  · exact .inr fun j x hx he => h ⟨j, x, hx, he⟩
theorem AgSt.ok {T T1 : List Ag} {k : Int} {f t : ByteArray} {st nu : Int} {n : Nat} (h : AgSt T k f t st nu T1) (hT : AgOk T n) (hf : f = ⟨#[102]⟩ ∨ f = ⟨#[103]⟩) : AgOk T1 (n + 1) := by
  rcases h with ⟨-, rfl⟩ | ⟨-, j, x, hx, rfl, rfl, rfl⟩ | ⟨-, hno, rfl⟩
  · exact ⟨hT.uq, fun i x hx => ⟨(hT.ne i x hx).1, Nat.le_succ_of_le (hT.ne i x hx).2⟩, hT.fg, Nat.le_succ_of_le hT.len⟩
  · have hj := (List.getElem?_eq_some_iff.1 hx).1
    have get : ∀ {i : Nat} {y : Ag}, (T.set j ⟨x.f, x.t, st, addN x.ns nu⟩)[i]? = some y → (i = j ∧ y = ⟨x.f, x.t, st, addN x.ns nu⟩) ∨ (i ≠ j ∧ T[i]? = some y) := fun {i y} h => by
      rw [List.getElem?_set] at h
      by_cases e : j = i
      · subst e
        simp [hj] at h
        exact .inl ⟨rfl, h.symm⟩
      · rw [if_neg e] at h
        exact .inr ⟨fun e2 => e e2.symm, h⟩
    refine ⟨fun i i' y y' hy hy' e1 e2 => ?_, fun i y hy => ?_, fun i y hy => ?_, by simp; have := hT.len; omega⟩
    · rcases get hy with ⟨q1, q2⟩ | ⟨_, q⟩ <;> rcases get hy' with ⟨r1, r2⟩ | ⟨_, r⟩
      · rw [q1, r1]
      · rw [q2] at e1 e2; rw [q1]; exact hT.uq _ _ _ _ hx r e1 e2
      · rw [r2] at e1 e2; rw [r1]; exact hT.uq _ _ _ _ q hx e1 e2
      · exact hT.uq _ _ _ _ q r e1 e2
    · rcases get hy with ⟨rfl, rfl⟩ | ⟨_, hy⟩
      · exact ⟨addN_ne _ _, by have := addN_len x.ns nu; have := (hT.ne _ x hx).2; show (addN x.ns nu).length ≤ _; omega⟩
      · exact ⟨(hT.ne i y hy).1, Nat.le_succ_of_le (hT.ne i y hy).2⟩
    · rcases get hy with ⟨rfl, rfl⟩ | ⟨_, hy⟩
      · exact hf
      · exact hT.fg i y hy
  · have get : ∀ {i : Nat} {y : Ag}, (T ++ [⟨f, t, st, [nu]⟩])[i]? = some y → (i = T.length ∧ y = ⟨f, t, st, [nu]⟩) ∨ (T[i]? = some y) := fun {i y} h => by
      rcases Nat.lt_or_ge i T.length with e | e
      · rw [List.getElem?_append_left e] at h
        exact .inr h
      · rw [List.getElem?_append_right e] at h
        obtain ⟨d, hd⟩ : ∃ d, i = T.length + d := ⟨i - T.length, by omega⟩
        subst hd
        rcases d with _ | d
        · simp at h
          exact .inl ⟨rfl, h.symm⟩
        · simp at h
    refine ⟨fun i i' y y' hy hy' e1 e2 => ?_, fun i y hy => ?_, fun i y hy => ?_, by simp; have := hT.len; omega⟩
    · rcases get hy with ⟨q1, q2⟩ | q <;> rcases get hy' with ⟨r1, r2⟩ | r
      · rw [q1, r1]
      · rw [q2] at e1 e2; exact absurd ⟨e1.symm, e2.symm⟩ (hno _ _ r)
      · rw [r2] at e1 e2; exact absurd ⟨e1, e2⟩ (hno _ _ q)
      · exact hT.uq _ _ _ _ q r e1 e2
    · rcases get hy with ⟨rfl, rfl⟩ | hy
      · exact ⟨by simp, by simp⟩
      · exact ⟨(hT.ne i y hy).1, Nat.le_succ_of_le (hT.ne i y hy).2⟩
    · rcases get hy with ⟨rfl, rfl⟩ | hy
      · exact hf
      · exact hT.fg i y hy
def ansX (k : Int) (f t : ByteArray) (nu ep : Int) : Option (Int × ByteArray × ByteArray × Int × Int) := if k = 10 then some (6, ⟨#[]⟩, ⟨#[]⟩, 0, 0) else if k = 11 then some (4, f, t, nu, ep) else none
/-- What the program's master is behind a message, and its answer. -/
def PHrd (w : World) (B m mb : Nat) (V : Nat → Prop) (X : Option (Int × ByteArray × ByteArray × Int × Int)) (T1 : List Ag) (v : Value) (w' : World) : Prop :=
  AnsAt w' v X ∧ ∃ V1 R1, R1.map kR = T1 ∧ MsP w' B m mb V1 R1 ∧ (∀ b, V b → V1 b) ∧ (∀ b, V1 b → V b ∨ w.heap.size ≤ b) ∧ Vol V w w' ∧ ∀ c, v.ownBlock = some c → w.heap.size ≤ c ∧ ¬ V1 c
theorem mapR_get {R : List Tk} {T : List Ag} (h : R.map kR = T) {j : Nat} {x : Ag} (hx : T[j]? = some x) : ∃ y, R[j]? = some y ∧ kR y = x := by
  rw [← h, List.getElem?_map] at hx
  exact Option.map_eq_some_iff.1 hx
theorem mapL_get {L : List Rk} {T : List Ag} (h : L.map kL = T) {j : Nat} {x : Ag} (hx : T[j]? = some x) : ∃ y, L[j]? = some y ∧ kL y = x := by
  rw [← h, List.getElem?_map] at hx
  exact Option.map_eq_some_iff.1 hx
theorem same_ne {f t : ByteArray} {x : Tk} (h : ¬ (x.f = f ∧ x.t = t)) : same f t x = false := by
  cases hs : same f t x with
  | false => rfl
  | true => obtain ⟨h1, h2⟩ := same_eq hs; exact absurd ⟨h1.symm, h2.symm⟩ h
theorem rsame_eq {f t : ByteArray} {x : Rk} (h : rsame f t x = true) : x.f = f ∧ x.t = t := by
  unfold rsame at h
  simp only [Bool.and_eq_true, beq_iff_eq] at h
  obtain ⟨h1, h2⟩ := h
  obtain ⟨⟨⟨xf⟩⟩, ⟨⟨xt⟩⟩, _, _, _⟩ := x
  obtain ⟨⟨f⟩⟩ := f
  obtain ⟨⟨t⟩⟩ := t
  constructor
  · have h1 : xf = f := by simpa using h1
    rw [h1]
  · have h2 : xt = t := by simpa using h2
    rw [h2]
theorem rsame_ne {f t : ByteArray} {x : Rk} (h : ¬ (x.f = f ∧ x.t = t)) : rsame f t x = false := by
  cases hs : rsame f t x with
  | false => rfl
  | true => exact absurd (rsame_eq hs) h
theorem rsame_self (x : Rk) : rsame x.f x.t x = true := by simp [rsame]
theorem phrd_of {w w' : World} {B m mb : Nat} {V : Nat → Prop} {P : List Tk → Prop} {f t : ByteArray} {nu ep : Int} {T1 : List Ag} {c : Nat} (hb : Blk w' c 30 (ackC f t nu ep)) (h : Heard w B m mb V P c w') (hP : ∀ R1, P R1 → R1.map kR = T1) :
    PHrd w B m mb V (some (4, f, t, nu, ep)) T1 (.slice (some ⟨c, 0, none⟩) 1 1) w' := by
  obtain ⟨hc, V', R1, hR, hM, h1, h2, hv, hn⟩ := h
  refine ⟨.inr ⟨4, f, t, nu, ep, c, rfl, rfl, hb⟩, V', R1, hP R1 hR, hM, h1, h2, hv, ?_⟩
  intro g hg
  injection hg with hg
  subst hg
  exact ⟨hc, hn⟩
theorem PHear {w : World} {B m mb : Nat} {V : Nat → Prop} {R : List Tk} {T T1 : List Ag} {k st nu : Int} {f t : ByteArray} (h : MsP w B m mb V R) (hT : R.map kR = T) (hs : AgSt T k f t st nu T1) (hok : AgOk T 100) (n ep : Int) (e : ByteArray) :
    Calls Try.prog 18 #[.pointer (some ⟨m, 0, none⟩), .agg (msgK k f e t n st nu ep)] w fun r w' => ∃ v, r = .returned v ∧ PHrd w B m mb V (ansX k f t nu ep) T1 v w' := by
  have stay : ∀ {w' : World}, Below w.heap.size w w' → MsP w' B m mb V R ∧ Vol V w w' := fun hb => ⟨h.below hb, Vol.of_below hb⟩
  rcases hs with ⟨hk, rfl⟩ | ⟨rfl, j, x, hx, rfl, rfl, rfl⟩ | ⟨rfl, hno, rfl⟩
  · by_cases hk10 : k = 10
    · subst hk10
      refine (PHear_reg f e t n st nu ep w).mono ?_
      rintro r w' ⟨c, rfl, hb, hc, hbw⟩
      refine ⟨_, rfl, .inr ⟨6, ⟨#[]⟩, ⟨#[]⟩, 0, 0, c, rfl, rfl, hb⟩, V, R, hT, (stay hbw).1, fun _ => id, fun _ => .inl, (stay hbw).2, ?_⟩
      intro g hg
      injection hg with hg
      subst hg
      exact ⟨hc, fun hV => Nat.not_lt.2 hc (h.lt _ hV)⟩
    · refine (PHear_none k (by simpa using hk10) (by simpa using hk) f e t n st nu ep w).mono ?_
      rintro r w' ⟨rfl, hbw⟩
      refine ⟨_, rfl, .inl ⟨by simp [ansX, hk10, hk], rfl⟩, V, R, hT, (stay hbw).1, fun _ => id, fun _ => .inl, (stay hbw).2, ?_⟩
      intro g hg
      simp [Value.ownBlock] at hg
  · obtain ⟨y, hy, rfl⟩ := mapR_get hT hx
    have hlen := hok.ne j _ hx
    have hsm := same_self y
    obtain ⟨q, hq⟩ : ∃ q, y.ns.length = q + 1 := ⟨y.ns.length - 1, by have : 0 < y.ns.length := List.length_pos_iff.2 hlen.1; omega⟩
    have hq2 : q ≤ 1000 := by have : y.ns.length ≤ 100 := hlen.2; omega
    obtain ⟨la, hlast⟩ : ∃ la, y.ns[q]? = some la := ⟨y.ns[q]'(by omega), List.getElem?_eq_getElem _⟩
    have hset : ∀ (z : Tk), kR z = ⟨y.f, y.t, st, addN y.ns nu⟩ → (R.set j z).map kR = T.set j ⟨y.f, y.t, st, addN y.ns nu⟩ := fun z hz => by rw [List.map_set, hz, hT]
    by_cases hla : la = nu
    · refine (Hear_of h (P := fun R1 => R1 = R.set j { y with st := st }) fun w1 h1 _ => note_same h1 hy hsm n st nu ep hq hq2 (by rw [hlast, hla])).mono ?_
      rintro r w' ⟨c, rfl, hb, hH⟩
      exact ⟨_, rfl, phrd_of hb hH (fun R1 hR1 => by rw [hR1]; exact hset _ (by unfold kR addN; rw [hq, Nat.add_sub_cancel, hlast, if_pos (by rw [hla])]))⟩
    · refine (Hear_of h (P := fun R1 => ∃ v', R1 = R.set j { y with st := st, v := v', ns := y.ns ++ [nu] }) fun w1 h1 _ => note_more h1 hy hsm n st nu ep hq hq2 hlast (by simpa using hla)).mono ?_
      rintro r w' ⟨c, rfl, hb, hH⟩
      exact ⟨_, rfl, phrd_of hb hH (fun R1 hR1 => by obtain ⟨v', hR1⟩ := hR1; rw [hR1]; exact hset _ (by unfold kR addN; rw [hq, Nat.add_sub_cancel, hlast, if_neg (by simpa using hla)]))⟩
  · refine (Hear_of h (P := fun R1 => ∃ g v', R1 = R ++ [⟨f, t, g, st, v', [nu]⟩]) fun w1 h1 _ => note_new h1 (fun i x hx => same_ne (hno i (kR x) (by rw [← hT, List.getElem?_map, hx]; rfl))) n st nu ep).mono ?_
    rintro r w' ⟨c, rfl, hb, hH⟩
    exact ⟨_, rfl, phrd_of hb hH (fun R1 hR1 => by obtain ⟨g, v', hR1⟩ := hR1; rw [hR1, List.map_append, hT]; rfl)⟩
/-- What the plain master is behind a message, and its answer. -/
def RHrd (w : World) (B m : Nat) (V : Nat → Prop) (X : Option (Int × ByteArray × ByteArray × Int × Int)) (T1 : List Ag) (v : Value) (w' : World) : Prop :=
  AnsAt w' v X ∧ ∃ V1 a b d L1, L1.map kL = T1 ∧ RmP w' B m V1 a b d L1 ∧ (∀ g, V g → V1 g) ∧ (∀ g, V1 g → V g ∨ w.heap.size ≤ g) ∧ Vol V w w' ∧ ∀ c, v.ownBlock = some c → w.heap.size ≤ c ∧ ¬ V1 c
theorem rhrd_of {w w' : World} {B m : Nat} {V : Nat → Prop} {P : List Rk → Prop} {f t : ByteArray} {nu ep : Int} {T1 : List Ag} {c : Nat} (hb : Blk w' c 30 (ackC f t nu ep)) (h : RHeard w B m V P c w') (hP : ∀ L1, P L1 → L1.map kL = T1) :
    RHrd w B m V (some (4, f, t, nu, ep)) T1 (.slice (some ⟨c, 0, none⟩) 1 1) w' := by
  obtain ⟨hc, V', a, b, d, L1, hR, hM, h1, h2, hv, hn⟩ := h
  refine ⟨.inr ⟨4, f, t, nu, ep, c, rfl, rfl, hb⟩, V', a, b, d, L1, hP L1 hR, hM, h1, h2, hv, ?_⟩
  intro g hg
  injection hg with hg
  subst hg
  exact ⟨hc, hn⟩
theorem RHear {w : World} {B m : Nat} {V : Nat → Prop} {a b d : Value} {L : List Rk} {T T1 : List Ag} {k st nu : Int} {f t : ByteArray} (h : RmP w B m V a b d L) (hT : L.map kL = T) (hs : AgSt T k f t st nu T1) (hok : AgOk T 90) (n ep : Int) (e : ByteArray) :
    Calls Try.prog 19 #[.pointer (some ⟨m, 0, none⟩), .agg (msgK k f e t n st nu ep)] w fun r w' => ∃ v, r = .returned v ∧ RHrd w B m V (ansX k f t nu ep) T1 v w' := by
  have stay : ∀ {w' : World}, Below w.heap.size w w' → RmP w' B m V a b d L ∧ Vol V w w' := fun hb => ⟨h.below hb, Vol.of_below hb⟩
  have hlen : L.length = T.length := by rw [← hT, List.length_map]
  have hns : ∀ (j : Nat) (y : Rk), L[j]? = some y → y.ns ≠ [] := fun j y hy => (hok.ne j (kL y) (by rw [← hT, List.getElem?_map, hy]; rfl)).1
  rcases hs with ⟨hk, rfl⟩ | ⟨rfl, j, x, hx, rfl, rfl, rfl⟩ | ⟨rfl, hno, rfl⟩
  · by_cases hk10 : k = 10
    · subst hk10
      refine (RHear_reg f e t n st nu ep w).mono ?_
      rintro r w' ⟨c, rfl, hb, hc, hbw⟩
      refine ⟨_, rfl, .inr ⟨6, ⟨#[]⟩, ⟨#[]⟩, 0, 0, c, rfl, rfl, hb⟩, V, a, b, d, L, hT, (stay hbw).1, fun _ => id, fun _ => .inl, (stay hbw).2, ?_⟩
      intro g hg
      injection hg with hg
      subst hg
      exact ⟨hc, fun hV => Nat.not_lt.2 hc (h.lt _ hV)⟩
    · refine (RHear_none k (by simpa using hk10) (by simpa using hk) f e t n st nu ep w).mono ?_
      rintro r w' ⟨rfl, hbw⟩
      refine ⟨_, rfl, .inl ⟨by simp [ansX, hk10, hk], rfl⟩, V, a, b, d, L, hT, (stay hbw).1, fun _ => id, fun _ => .inl, (stay hbw).2, ?_⟩
      intro g hg
      simp [Value.ownBlock] at hg
  · obtain ⟨y, hy, rfl⟩ := mapL_get hT hx
    have hu : UpL L L y.f y.t j y := .inl ⟨rfl, rsame_self y, fun i z hz hi => rsame_ne (fun e2 => by
      have := hok.uq i j (kL z) (kL y) (by rw [← hT, List.getElem?_map, hz]; rfl) hx e2.1 e2.2
      omega)⟩
    refine (RHear_old h hy hu ⟨rfl, hns j y hy⟩ (by have := hok.len; omega) (by have := (hok.ne j _ hx).2; have e3 : (kL y).ns = y.ns := rfl; rw [e3] at this; omega) hns e n st nu ep).mono ?_
    rintro r w' ⟨c, rfl, hb, hH⟩
    exact ⟨_, rfl, rhrd_of hb hH (fun L2 hL2 => by obtain ⟨v', hL2⟩ := hL2; rw [hL2, List.map_set, hT]; rfl)⟩
  · have hno' : ∀ (i : Nat) (z : Rk), L[i]? = some z → rsame f t z = false := fun i z hz => rsame_ne (hno i (kL z) (by rw [← hT, List.getElem?_map, hz]; rfl))
    have hx : (L ++ [(⟨f, t, 0, .slice none 0 0, []⟩ : Rk)])[L.length]? = some ⟨f, t, 0, .slice none 0 0, []⟩ := by simp
    refine (RHear_new h hx (.inr ⟨rfl, rfl, rfl, hno'⟩) ⟨rfl, rfl⟩ (by have := hok.len; simp; omega) (by simp) hns e n st nu ep).mono ?_
    rintro r w' ⟨c, rfl, hb, hH⟩
    exact ⟨_, rfl, rhrd_of hb hH (fun L2 hL2 => by
      obtain ⟨v', hL2⟩ := hL2
      have e2 : ∀ (y z : Rk), (L ++ [y]).set L.length z = L ++ [z] := fun y z => by simp
      rw [hL2, e2, List.map_append, hT]
      rfl)⟩
end
end Go.Proofs.Ytiflhfhonhbcpaa.Mas
