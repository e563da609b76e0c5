/- The walk of NameOrder: two keys are less, or more, or one; what is less than a lesser one is less. -/
import Derived.Test.YtkiomhnjfakjbaaName
import Derived.Deep.RegionHeld3
import Derived.Laws.StructEq
namespace Go.Proofs.Ytkiomhnjfakjbaa
open Go.ChangeShapes Go.WideShapes Go.ChangeAt Go.RowKit
def lessB (fa ta fb tb : ByteArray) : Bool := if fa.toList == fb.toList then Op.bytesLess ta.toList tb.toList else Op.bytesLess fa.toList fb.toList
set_option maxHeartbeats 400000 in
theorem Less_any (fa ta fb tb : ByteArray) (w : World) :
    Calls Try.prog 15 #[.agg #[.string fa, .string ta], .agg #[.string fb, .string tb]] w fun e w' => e = .returned (.bool (lessB fa ta fb tb)) ∧ Below w.heap.size w w' := by
  by_cases h : (fa.toList == fb.toList) = true
  · have H : Hid (lessB fa ta fb tb = Op.bytesLess ta.toList tb.toList) := by show _ = _; unfold lessB; rw [if_pos h]
    go_enter Try.func15, Try.ntmps15
    go_wp2
    go_ret
    exact ⟨ret_bool H.out.symm, ((Below.refl _ _).alloc (Nat.le_refl _) _).alloc (by simp) _⟩
  · have h' : (fa.toList == fb.toList) = false := by simpa using h
    have H : Hid (lessB fa ta fb tb = Op.bytesLess fa.toList fb.toList) := by show _ = _; unfold lessB; rw [if_neg h]
    clear h
    go_enter Try.func15, Try.ntmps15
    go_wp2
    go_ret
    exact ⟨ret_bool H.out.symm, ((Below.refl _ _).alloc (Nat.le_refl _) _).alloc (by simp) _⟩
theorem eqKey (a b c d : ByteArray) (w : World) : (Op.equalIn 10000 26 (.agg #[.string a, .string b]) (.agg #[.string c, .string d])).run Try.prog w = .ok (a.toList == c.toList && b.toList == d.toList) w := by
  have u3 := Try.underlying9
  have a3 := Try.isAgg9
  have z3 := Try.sizeOf9
  have hS : Try.prog.underlying 26 = some (.struct (Try.prog.fieldsOf 26)) := by kernel_rfl
  have hp : Try.prog.stoodInHeld 26 = false := by kernel_rfl
  rw [show (10000 : Nat) = 9999 + 1 from rfl, run_equalIn_agg w 9999 26 _ _ hS hp]
  simp only [Program.fieldsOf, Try.underlying26]
  go_simp
  by_cases h1 : a.toList = c.toList <;> by_cases h2 : b.toList = d.toList <;> simp [h1, h2]
theorem eqGuardKey (op : BinOp) (x y : Operand) (xs ys : Array Value) (w : World) : (eqGuard op 26 x y (.agg xs) (.agg ys)).run Try.prog w = .ok () w :=
  run_eqGuard_agg w op 26 x y xs ys (by kernel_rfl)
theorem bytesLess_eq' : ∀ (x y : List UInt8), Op.bytesLess x y = decide (x < y)
  | [], [] => by simp [Op.bytesLess]
  | _ :: _, [] => by simp [Op.bytesLess]
  | [], _ :: _ => by simp [Op.bytesLess]
  | a :: x, b :: y => by
    rw [Op.bytesLess, bytesLess_eq' x y]
    simp only [List.cons_lt_cons_iff]
    by_cases h1 : a < b <;> by_cases h2 : a = b <;> by_cases h3 : x < y <;> simp [h1, h2, h3]
theorem bl_irrefl (x : List UInt8) : Op.bytesLess x x = false := by
  rw [bytesLess_eq']; simp
theorem bl_trans (x y z : List UInt8) (h1 : Op.bytesLess x y = true) (h2 : Op.bytesLess y z = true) : Op.bytesLess x z = true := by
  rw [bytesLess_eq'] at *
  simp only [decide_eq_true_eq] at *
  exact List.lt_trans h1 h2
theorem bl_asymm (x y : List UInt8) (h1 : Op.bytesLess x y = true) : Op.bytesLess y x = false := by
  cases h : Op.bytesLess y x
  · rfl
  · have := bl_trans x y x h1 h; rw [bl_irrefl] at this; cases this
theorem bl_total (x y : List UInt8) (h : x ≠ y) : Op.bytesLess x y = true ∨ Op.bytesLess y x = true := by
  rw [bytesLess_eq', bytesLess_eq']
  simp only [decide_eq_true_eq]
  by_cases h1 : x < y
  · exact Or.inl h1
  · by_cases h2 : y < x
    · exact Or.inr h2
    · exact absurd (List.le_antisymm (by simpa using h2) (by simpa using h1)) h
theorem less_tri (fa ta fb tb : ByteArray) : (lessB fa ta fb tb = true ∧ lessB fb tb fa ta = false ∧ (fa.toList == fb.toList && ta.toList == tb.toList) = false) ∨
    (lessB fa ta fb tb = false ∧ lessB fb tb fa ta = true ∧ (fa.toList == fb.toList && ta.toList == tb.toList) = false) ∨
    (lessB fa ta fb tb = false ∧ lessB fb tb fa ta = false ∧ (fa.toList == fb.toList && ta.toList == tb.toList) = true) := by
  unfold lessB
  by_cases h : fa.toList = fb.toList
  · by_cases h2 : ta.toList = tb.toList
    · right; right; simp [h, h2, bl_irrefl]
    · rcases bl_total _ _ h2 with h3 | h3
      · left; simp [h, h2, h3, bl_asymm _ _ h3]
      · right; left; simp [h, h2, h3, bl_asymm _ _ h3]
  · have h' : ¬ fb.toList = fa.toList := fun e => h e.symm
    rcases bl_total _ _ h with h3 | h3
    · left; simp [h, h', h3, bl_asymm _ _ h3]
    · right; left; simp [h, h', h3, bl_asymm _ _ h3]
theorem less_irr (fa ta : ByteArray) : lessB fa ta fa ta = false := by simp [lessB, bl_irrefl]
theorem less_trans (fa ta fb tb fc tc : ByteArray) (h1 : lessB fa ta fb tb = true) (h2 : lessB fb tb fc tc = true) : lessB fa ta fc tc = true := by
  unfold lessB at *
  by_cases e1 : fa.toList = fb.toList <;> by_cases e2 : fb.toList = fc.toList
  · simp [e1, e2] at *; exact bl_trans _ _ _ h1 h2
  · simp [e1, e2] at *; exact h2
  · have : ¬ fa.toList = fc.toList := fun e => e1 (e.trans e2.symm)
    simp [e1] at h1
    simp [this]
    rw [← e2]; exact h1
  · simp [e1, e2] at h1 h2
    have h3 := bl_trans _ _ _ h1 h2
    have : ¬ fa.toList = fc.toList := fun e => by rw [e, bl_asymm _ _ h2] at h1; cases h1
    simp [this]; exact h3
set_option maxHeartbeats 400000 in
theorem wakes_any (w : World) :
    Calls Try.prog 11 #[] w fun e w' => e = .returned (.bool true) ∧ w = w' := by
  have r1 : rightB [] = false := by decide
  have r2 : rightB [97, 49] = true := by decide
  go_enter Try.func11, Try.ntmps11
  go_wp2_with (go_at_call 10; refine (Right_any _ _ (by decide)).mono ?_; rintro e w' ⟨rfl, rfl⟩)
  go_ret
  exact ⟨rfl, rfl⟩
theorem box3 (w : World) (A B : Obj) (u v : Value) (t : TypeId) : (((w.alloc A).alloc B).alloc (.cells #[u, v] t)).cell? ⟨w.heap.size + 1 + 1, 0, none⟩ = some u ∧ (((w.alloc A).alloc B).alloc (.cells #[u, v] t)).cell? ⟨w.heap.size + 1 + 1, 1, none⟩ = some v := by
  have h := Blk.new ((w.alloc A).alloc B) t #[u, v]
  have e : ((w.alloc A).alloc B).heap.size = w.heap.size + 1 + 1 := by simp
  rw [e] at h
  exact ⟨h.cell 0, h.cell 1⟩
def cnt (l : List Bool) (k : Nat) : Nat := ((l.take k).filter id).length

set_option maxHeartbeats 2000000 in
set_option maxRecDepth 100000 in
theorem Order1 (fa ta fb tb fc tc : ByteArray) (w : World) (l1 l2 l3 : Bool) (h1 : lessB fa ta fb tb = l1) (h2 : lessB fb tb fa ta = l2) (h3 : (fa.toList == fb.toList && ta.toList == tb.toList) = l3) (hc : cnt [l1, l2, l3] 3 = 1)
   (h4 : l1 = false ∨ (l1 = true ∧ lessB fb tb fc tc = false) ∨ (l1 = true ∧ lessB fb tb fc tc = true ∧ lessB fa ta fc tc = true)) :
    Calls Try.prog 5 #[.agg #[.string fa, .string ta], .agg #[.string fb, .string tb], .agg #[.string fc, .string tc]] w fun e w' => e = .returned (.bool true) ∧ Below w.heap.size w w' := by
  have hE := fun w => eqKey fa ta fb tb w
  have hG := fun op x y xs ys w => eqGuardKey op x y xs ys w
  have h5 := less_irr fa ta
  have x1 := fun A B => (box3 w A B (.string fc) (.string tc) 26).1
  have x2 := fun A B => (box3 w A B (.string fc) (.string tc) 26).2
  have Hc := Lib.hid hc
  clear hc
  go_enter Try.func5, Try.ntmps5
  go_wp2_with fail
  go_region_held3 (fun w' => w'.cell? ⟨w.heap.size, 0, none⟩ = some (.string fa) ∧ w'.cell? ⟨w.heap.size, 1, none⟩ = some (.string ta) ∧ w'.cell? ⟨w.heap.size + 1, 0, none⟩ = some (.string fb) ∧ w'.cell? ⟨w.heap.size + 1, 1, none⟩ = some (.string tb) ∧ w'.cell? ⟨w.heap.size + 1 + 1, 0, none⟩ = some (.string fc) ∧ w'.cell? ⟨w.heap.size + 1 + 1, 1, none⟩ = some (.string tc))
    (go_keep)
    (first | (go_at_call 15; refine (Less_any _ _ _ _ _).mono ?_; rintro e w1 ⟨rfl, hb⟩; have hsz := hb.size; have hB : Below w.heap.size w w1 := Below.trans (by repeat (first | assumption | exact Below.refl _ _ | refine Below.drew ?_ | refine Below.alloc ?_ (by first | omega | (simp; done) | (simp; omega)) _)) (hb.mono (by first | omega | (simp; done) | (simp; omega))); have c1 := hb.cell (p := ⟨w.heap.size, 0, none⟩) (by first | omega | (simp; done) | (simp; omega)); have c2 := hb.cell (p := ⟨w.heap.size, 1, none⟩) (by first | omega | (simp; done) | (simp; omega)); have c3 := hb.cell (p := ⟨w.heap.size + 1, 0, none⟩) (by first | omega | (simp; done) | (simp; omega)); have c4 := hb.cell (p := ⟨w.heap.size + 1, 1, none⟩) (by first | omega | (simp; done) | (simp; omega)); have c5 := hb.cell (p := ⟨w.heap.size + 1 + 1, 0, none⟩) (by first | omega | (simp; done) | (simp; omega)); have c6 := hb.cell (p := ⟨w.heap.size + 1 + 1, 1, none⟩) (by first | omega | (simp; done) | (simp; omega)); try simp at hsz; clear hb))
  go_wp2_with fail
  go_loop [7, 21] (fun n i => ∃ k : Nat, k ≤ 3 ∧ i = .int .i64 k ∧ n = .int .i64 (cnt [l1, l2, l3] k)) (fun _ i => 3 - (intOf i).toNat)
  case atStart => exact ⟨0, by omega, rfl, rfl⟩
  case round =>
    obtain ⟨k, hk, rfl, rfl⟩ := hrel
    obtain h | h | h | h : k = 0 ∨ k = 1 ∨ k = 2 ∨ k = 3 := by omega
    · subst h
      clear h1 h2 h3 h4
      cases l1
      all_goals
        go_wp2
        go_round
        case rel => exact ⟨1, by omega, by first | rfl | (simp [wrap64]; done), by first | rfl | (simp [cnt, wrap64]; done)⟩
        case measure => simp [intOf]
    · subst h
      clear h1 h2 h3 h4
      cases l1 <;> cases l2
      all_goals
        go_wp2
        go_round
        case rel => exact ⟨2, by omega, by first | rfl | (simp [wrap64]; done), by first | rfl | (simp [cnt, wrap64]; done)⟩
        case measure => simp [intOf]
    · subst h
      clear h1 h2 h3 h4
      cases l1 <;> cases l2 <;> cases l3
      all_goals
        go_wp2
        go_round
        case rel => exact ⟨3, by omega, by first | rfl | (simp [wrap64]; done), by first | rfl | (simp [cnt, wrap64]; done)⟩
        case measure => simp [intOf]
    · subst h
      rw [Hc.out]
      rcases h4 with h4 | ⟨h4, h6⟩ | ⟨h4, h6, h7⟩
      all_goals
        subst h4
        go_wp2_with (first | (go_at_call 15; refine (Less_any _ _ _ _ _).mono ?_; rintro e w1 ⟨rfl, hb⟩; have hsz := hb.size; have hB : Below w.heap.size w w1 := Below.trans (by repeat (first | assumption | exact Below.refl _ _ | refine Below.drew ?_ | refine Below.alloc ?_ (by first | omega | (simp; done) | (simp; omega)) _)) (hb.mono (by first | omega | (simp; done) | (simp; omega))); have c1 := hb.cell (p := ⟨w.heap.size, 0, none⟩) (by first | omega | (simp; done) | (simp; omega)); have c2 := hb.cell (p := ⟨w.heap.size, 1, none⟩) (by first | omega | (simp; done) | (simp; omega)); have c3 := hb.cell (p := ⟨w.heap.size + 1, 0, none⟩) (by first | omega | (simp; done) | (simp; omega)); have c4 := hb.cell (p := ⟨w.heap.size + 1, 1, none⟩) (by first | omega | (simp; done) | (simp; omega)); have c5 := hb.cell (p := ⟨w.heap.size + 1 + 1, 0, none⟩) (by first | omega | (simp; done) | (simp; omega)); have c6 := hb.cell (p := ⟨w.heap.size + 1 + 1, 1, none⟩) (by first | omega | (simp; done) | (simp; omega)); try simp at hsz; clear hb) | (go_at_call 11; refine (wakes_any _).mono ?_; rintro e w' ⟨rfl, rfl⟩))
        go_ret
        exact ⟨rfl, by repeat (first | assumption | exact Below.refl _ _ | refine Below.drew ?_ | refine Below.alloc ?_ (by first | omega | (simp; done) | (simp; omega)) _)⟩
end Go.Proofs.Ytkiomhnjfakjbaa
namespace Go.Proofs.Ytkiomhnjfakjbaa.nameOrder
theorem walk (f0 t0 : ByteArray) (f1 t1 : ByteArray) (f2 t2 : ByteArray) (w : World) (b0 : f0.size ≤ maxLen ∧ t0.size ≤ maxLen) (b1 : f1.size ≤ maxLen ∧ t1.size ≤ maxLen) (b2 : f2.size ≤ maxLen ∧ t2.size ≤ maxLen) :
    Calls Try.prog 5 #[.agg #[.string f0, .string t0], .agg #[.string f1, .string t1], .agg #[.string f2, .string t2]] w fun e w' => e = .returned (.bool true) ∧ RowKit.Below w.heap.size w w' := by
  rcases less_tri f0 t0 f1 t1 with ⟨h1, h2, h3⟩ | ⟨h1, h2, h3⟩ | ⟨h1, h2, h3⟩
  · refine Order1 f0 t0 f1 t1 f2 t2 w true false false h1 h2 h3 (by decide) ?_
    cases h : lessB f1 t1 f2 t2
    · exact Or.inr (Or.inl ⟨rfl, rfl⟩)
    · exact Or.inr (Or.inr ⟨rfl, rfl, less_trans _ _ _ _ _ _ h1 h⟩)
  · exact Order1 f0 t0 f1 t1 f2 t2 w false true false h1 h2 h3 (by decide) (Or.inl rfl)
  · exact Order1 f0 t0 f1 t1 f2 t2 w false false true h1 h2 h3 (by decide) (Or.inl rfl)
end Go.Proofs.Ytkiomhnjfakjbaa.nameOrder
