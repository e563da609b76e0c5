/- One row left out; one taken off. -/
import Derived.Test.YtlljepgfecodoaaTkG
namespace Go.Proofs.Ytlljepgfecodoaa.Tk
open Go Go.RowKit Go.Proofs.Ytlljepgfecodoaa Go.Proofs.Ytlljepgfecodoaa.Crw Go.ChangeShapes Go.WideShapes Go.ChangeAt
set_option linter.unusedVariables false
set_option maxRecDepth 100000
theorem sub_tab : ((List.range 801).all fun n => FloatKind.f64.format.sub (fw (n + 1)) 4607182418800017408 == some (fw n) && FloatKind.f64.format.sub (fw n) 0 == some (fw n)) = true := by decide +kernel
theorem sub_one {n : Nat} (h : n < 801) : FloatKind.f64.format.sub (fw (n + 1)) 4607182418800017408 = some (fw n) ∧ FloatKind.f64.format.sub (fw n) 0 = some (fw n) := by
  have := List.all_eq_true.1 sub_tab n (List.mem_range.2 h)
  simp only [Bool.and_eq_true, beq_iff_eq] at this
  exact this
theorem filter_erase (q : Tr → Bool) : ∀ (M : List Tr) (k : Nat), k < M.length → (∀ (j : Nat) (x : Tr), M[j]? = some x → q x = decide (j ≠ k)) → M.filter q = M.eraseIdx k
  | [], k, h, _ => by simp at h
  | x :: M, 0, _, hq => by
    have h0 := hq 0 x rfl
    have hr : M.filter q = M := List.filter_eq_self.2 fun y hy => by
      obtain ⟨j, hj⟩ := List.getElem?_of_mem hy
      have := hq (j + 1) y (by simpa using hj)
      simpa using this
    simp [h0, hr]
  | x :: M, k + 1, h, hq => by
    have h0 := hq 0 x rfl
    have ih := filter_erase q M k (by simpa using h) (fun j y hj => by
      have := hq (j + 1) y (by simpa using hj)
      simpa using this)
    simp [h0, ih]
theorem erase_sums : ∀ (M : List Tr) (k : Nat) (x : Tr), M[k]? = some x → sA ((M.eraseIdx k).map nd) + x.p = sA (M.map nd) ∧ sB ((M.eraseIdx k).map nd) + x.q = sB (M.map nd)
  | [], k, x, h => by simp at h
  | y :: M, 0, x, h => by
    simp at h
    subst h
    simp [sA, sB, nd]
    omega
  | y :: M, k + 1, x, h => by
    have ih := erase_sums M k x (by simpa using h)
    simp [sA, sB, nd] at ih ⊢
    omega
section
variable {w wx : World} {i : Nat} {E : List En} {v7 v10 v11 : Value}
theorem sp_rows (E : List En) : sA ((E.map (·.x)).map nd) = sp E ∧ sB ((E.map (·.x)).map nd) = sq E := by
  simp only [sA, sB, sp, sq, List.map_map]
  exact ⟨rfl, rfl⟩
theorem LwP.left (h : LwP w wx i E v7 v10 v11) (hi : i ≤ 8) {k : Nat} (hk : k < i) : (E.map (·.x)).filter (fun x => !overB (if x.t.toList == (nm k).toList then 3 else 1)) = (E.map (·.x)).eraseIdx k := by
  refine filter_erase _ _ _ (by rw [List.length_map, h.len]; exact hk) fun j x hx => ?_
  rw [List.getElem?_map] at hx
  obtain ⟨e, he, rfl⟩ := Option.map_eq_some_iff.1 hx
  have hj : j < i := by have := (List.getElem?_eq_some_iff.1 he).1; rw [h.len] at this; exact this
  have ht := (h.ok j e he).1
  rw [ht, nm_eq j k (by omega) (by omega)]
  by_cases hjk : j = k
  · simp [hjk, overB]
  · simp [hjk, overB]
theorem LwP.every (h : LwP w wx i E v7 v10 v11) : (E.map (·.x)).filter (fun _ => !overB 2) = E.map (·.x) := List.filter_eq_self.2 fun x _ => by simp [overB]
theorem LwP.n0 (h : LwP w wx i E v7 v10 v11) : ∀ x ∈ E.map (·.x), x.n ≠ 0 := fun x hx => by
  obtain ⟨e, he, rfl⟩ := List.mem_map.1 hx
  obtain ⟨k, hk⟩ := List.getElem?_of_mem he
  exact (h.ok k e hk).2.1
end
theorem o_self {n : Nat} (h : n < 2 ^ 53) : (FloatKind.f64.format.order (fw n) (fw n) == some .eq) = true := by
  rw [o_eql (fw_FV h) (fw_FV h)]
  simp
end Go.Proofs.Ytlljepgfecodoaa.Tk
