/- Each operation, abstract and real side by side: new blocks, structs, slices. -/
import Derived.Test.YtfbedlhigggggaaOps
namespace Go.Proofs.Ytfbedlhigggggaa
open Go Go.RowKit
variable [Toks]

section
variable {P : Program} {M : Nat} {ρ : Ren} {h h' : AHeap} {w : World} {T : Tr Value} {a : Act}
theorem newVar_ok (s : Sim M ρ h w) (hM : h.n < M) (e : TypeId) {cells : List Value} {v' : Value} (hv : LR (VR0 ρ) cells v'.cells.toList) :
    ValOk P M ρ h w (anew h e 0 cells.length cells).1 (anew h e 0 cells.length cells).2 (do pure (.pointer (some (← newVar e v')))) := by
  obtain ⟨h1, h2, h3⟩ := anew_ok (P := P) s hM (e := e) (kind := 0) (es := cells.length) (cells := cells) (cs := v'.cells) (by decide) (by decide) (fun k u hu => by simpa using hv.get k u hu) 1 (by have := hv.length; simp at this; omega) w rfl rfl rfl rfl
  refine ⟨_, _, _, ?_, h2, h3, VR.mkptr (Ren.add_new _ _ _)⟩
  simp only [newVar, Sem.run_bind, h1, Result.andThen_ok, Sem.run_pure]
theorem alloc_ok (s : Sim M ρ h w) (hM : h.n < M) {e : TypeId} {z : Value} (hz : zeroP P e = some z) :
    ValOk P M ρ h w (anew h e 0 z.cells.toList.length z.cells.toList).1 (anew h e 0 z.cells.toList.length z.cells.toList).2 (Instr.alloc e true (.tuple #[])) := by
  obtain ⟨h1, h2⟩ := zeroP_ok hz w
  obtain ⟨ρ', v', w', g1, g2⟩ := newVar_ok (P := P) s hM e (cells := z.cells.toList) (v' := z) (LR.refl_of fun u hu => VR0.flat (by simp only [List.all_eq_true] at h2; exact h2 u hu))
  refine ⟨ρ', v', w', ?_, g2⟩
  simp only [Instr.alloc, Sem.run_bind, h1, Result.andThen_ok]
  exact g1
theorem box_ok (s : Sim M ρ h w) (hM : h.n < M) {e : TypeId} {v v' : Value} (hv : VR ρ v v') {cs : List Value} (hc : cellsV v = some cs) :
    ValOk P M ρ h w (anew h e 0 cs.length cs).1 (anew h e 0 cs.length cs).2 (Instr.box e v') := newVar_ok s hM e (cellsV_ok hv hc).1

theorem fold_ok {ρ : Ren} (off : Nat) : ∀ {l l' : List Value}, LR (VR0 ρ) l l' → ∀ (j : Nat) {acc acc' : Array Value}, LR (VR0 ρ) acc.toList acc'.toList →
    LR (VR0 ρ) ((l.zipIdx j).foldl (fun cs (c, k) => cs.setIfInBounds (off + k) c) acc).toList ((l'.zipIdx j).foldl (fun cs (c, k) => cs.setIfInBounds (off + k) c) acc').toList
  | _, _, .nil, _, _, _, h => h
  | _, _, .cons h1 h2, j, acc, acc', h => by
    simp only [List.zipIdx_cons, List.foldl_cons]
    exact fold_ok off h2 (j + 1) (by simpa [Array.toList_setIfInBounds] using h.set h1 (off + j))
theorem fill_ok {ρ : Ren} {place : Nat → Option (Nat × Nat)} : ∀ {ps ps' : List (Nat × Value)}, LR (fun p q => p.1 = q.1 ∧ VR ρ p.2 q.2) ps ps' → noTuples ps = true → ∀ {cs cs' : Array Value}, LR (VR0 ρ) cs.toList cs'.toList →
    ∀ {r : Array Value}, Instr.fill place cs ps = some r → ∃ r', Instr.fill place cs' ps' = some r' ∧ LR (VR0 ρ) r.toList r'.toList
  | _, _, .nil, _, cs, cs', h, r, hr => by
    simp only [Instr.fill, Option.some.injEq] at hr ⊢
    subst hr
    exact ⟨_, rfl, h⟩
  | (i, v) :: ps, (j, v') :: ps', .cons h1 h2, hn, cs, cs', h, r, hr => by
    obtain ⟨rfl, hv⟩ := h1
    simp only at hv
    have hnt : ∀ vs, v ≠ .tuple vs := by
      rintro vs rfl
      simp [noTuples] at hn
    have hn2 : noTuples ps = true := by
      unfold noTuples at hn
      split at hn
      · cases ‹_ :: _ = []›
      · cases hn
      · rename_i e; injection e with _ e; subst e; exact hn
    have hcv := (hv.no_tuple hnt).cells
    have hsz : v'.cells.size = v.cells.size := by simpa using hcv.length
    have hsz2 : cs'.size = cs.size := by simpa using h.length
    simp only [Instr.fill] at hr ⊢
    cases hp : place i with
    | none => rw [hp] at hr; cases hr
    | some q =>
      obtain ⟨off, size⟩ := q
      rw [hp] at hr
      simp only at hr ⊢
      rw [hsz, hsz2]
      split at hr
      · cases hr
      · rename_i hc
        rw [if_neg hc]
        refine fill_ok h2 hn2 ?_ hr
        have e : ∀ (x : Value) (acc : Array Value), x.cells.zipIdx.foldl (fun cs (c, j) => cs.setIfInBounds (off + j) c) acc = (x.cells.toList.zipIdx 0).foldl (fun cs (c, j) => cs.setIfInBounds (off + j) c) acc := by
          intro x acc
          rw [← Array.foldl_toList, Array.toList_zipIdx]
        rw [e, e]
        exact fold_ok (ρ := ρ) off hcv 0 h
theorem build_ok (s : Sim M ρ h w) {t : TypeId} {ps ps' : List (Nat × Value)} (hp : LR (fun p q => p.1 = q.1 ∧ VR ρ p.2 q.2) ps ps') {v : Value} (hv : abuild P t ps = some v) :
    ValOk P M ρ h w v h (Instr.build t ps'.toArray) := by
  unfold abuild at hv
  split at hv
  · rename_i hn
    split at hv
    · rename_i fields z hu hz
      obtain ⟨h1, h2⟩ := zeroP_ok hz w
      split at hv
      · rename_i places hpl
        have h3 := pureRun_ok hpl w
        split at hv
        · rename_i cells hf
          injection hv with hv
          subst hv
          obtain ⟨r', g1, g2⟩ := fill_ok hp hn (cs := z.cells) (cs' := z.cells) (LR.refl_of fun u hu => VR0.flat (by simp only [List.all_eq_true] at h2; exact h2 u hu)) hf
          refine ValOk.quiet s (v' := .agg r') ?_ ⟨r', rfl, g2⟩
          simp only [Instr.build, Sem.run_bind, h1, run_underlying hu, Result.andThen_ok, h3, g1, Sem.run_pure]
        · cases hv
      · cases hv
    · rename_i len e z hu hz
      obtain ⟨h1, h2⟩ := zeroP_ok hz w
      simp only [Option.bind_eq_some_iff] at hv
      obtain ⟨size, hs, hv⟩ := hv
      split at hv
      · rename_i cells hf
        injection hv with hv
        subst hv
        obtain ⟨r', g1, g2⟩ := fill_ok hp hn (cs := z.cells) (cs' := z.cells) (LR.refl_of fun u hu => VR0.flat (by simp only [List.all_eq_true] at h2; exact h2 u hu)) hf
        refine ValOk.quiet s (v' := .agg r') ?_ ⟨r', rfl, g2⟩
        simp only [Instr.build, Sem.run_bind, h1, run_underlying hu, Result.andThen_ok, sizeP_ok hs, g1, Sem.run_pure]
      · cases hv
    · cases hv
  · cases hv
omit [Toks] in
theorem range0 (f : Nat → Value) : (Array.range 0).map f = #[] := by simp
omit [Toks] in
theorem zeros_flat {z : Value} (h : z.cells.toList.all flat0 = true) (i : Nat) : flat0 z.cells[i]! = true := by
  simp only [List.all_eq_true] at h
  rw [getElem!_def]
  cases hi : z.cells[i]? with
  | none => rfl
  | some u => exact h u (by rw [Array.mem_toList_iff]; exact Array.mem_of_getElem? hi)
theorem zeros_LR {ρ : Ren} {z : Value} (h : z.cells.toList.all flat0 = true) (n : Nat) : LR (VR0 ρ) ((Array.range n).map (z.cells[· % z.cells.size]!)).toList ((Array.range n).map (z.cells[· % z.cells.size]!)).toList :=
  LR.refl_of fun u hu => by
    simp only [Array.toList_map, List.mem_map] at hu
    obtain ⟨i, _, rfl⟩ := hu
    exact VR0.flat (zeros_flat h _)
theorem buildSlice_ok (s : Sim M ρ h w) (hM : h.n < M) {t : TypeId} {len : Nat} {ps ps' : List (Nat × Value)} (hp : LR (fun p q => p.1 = q.1 ∧ VR ρ p.2 q.2) ps ps') {v : Value} (hv : abuildSlice P t len ps h = some (v, h')) :
    ValOk P M ρ h w v h' (Instr.buildSlice t len ps'.toArray) := by
  unfold abuildSlice at hv
  split at hv
  · rename_i e hu
    split at hv
    · rename_i sz z hs hz
      obtain ⟨h1, h2⟩ := zeroP_ok hz w
      split at hv
      · cases hv
      · rename_i hc
        simp only [not_or, Bool.not_eq_false] at hc
        obtain ⟨c1, c2, c3⟩ := hc
        split at hv
        · rename_i cells hf
          injection hv with hv
          injection hv with hv1 hv2
          subst hv1 hv2
          obtain ⟨r', g1, g2⟩ := fill_ok hp c3 (zeros_LR h2 (len * sz)) hf
          have hfs : ∀ {place : Nat → Option (Nat × Nat)} {ps : List (Nat × Value)} {cs r : Array Value}, Instr.fill place cs ps = some r → r.size = cs.size := by
            intro place ps
            induction ps with
            | nil => intro cs r hr; simp only [Instr.fill, Option.some.injEq] at hr; rw [hr]
            | cons p ps ih =>
              intro cs r hr
              obtain ⟨i, x⟩ := p
              simp only [Instr.fill] at hr
              split at hr
              · cases hr
              · split at hr
                · cases hr
                · rw [ih hr]
                  have : ∀ (l : List (Value × Nat)) (off : Nat) (acc : Array Value), (l.foldl (fun cs (c, k) => cs.setIfInBounds (off + k) c) acc).size = acc.size := by
                    intro l off
                    induction l with
                    | nil => intro acc; rfl
                    | cons y l ih => intro acc; simp only [List.foldl_cons, ih]; simp
                  rw [← Array.foldl_toList]
                  exact this _ _ _
          have hsz : r'.size = sz * len := by
            rw [hfs g1]; simp [Nat.mul_comm]
          obtain ⟨k1, k2, k3⟩ := anew_ok (P := P) s hM (e := e) (kind := 0) (es := sz) (cells := cells.toList) (cs := r') (by decide) (by decide) (fun k u hu => by simpa using g2.get k u hu) len hsz w rfl rfl rfl rfl
          refine ⟨_, _, _, ?_, k2, k3, Nat.le_refl _, _, 0, len, Ren.add_new _ _ _, rfl, Nat.le_refl _, fun _ => rfl, fun _ => rfl, fun hh => absurd rfl hh⟩
          simp only [Instr.buildSlice, Sem.run_bind, run_underlying hu, Result.andThen_ok, sizeP_ok hs]
          rw [if_neg c1]
          by_cases h0 : len * sz = 0
          · simp only [h0, if_true]
            rw [h0] at g1
            rw [show (Array.range 0).map (z.cells[· % z.cells.size]!) = #[] from range0 _] at g1
            simp only [range0, g1, Sem.run_bind, k1, Result.andThen_ok, Sem.run_pure]
          · simp only [h0, if_false, Sem.run_bind, h1, Result.andThen_ok, Sem.run_pure, g1, k1]
        · cases hv
    · cases hv
  · cases hv
omit [Toks] in
theorem wrap_small (x : Int) (h0 : 0 ≤ x) (h1 : x ≤ 9223372036854775806) : IntKind.i64.wrap x = x := by
  have hm : x % 2 ^ 64 = x := by omega
  exact (if_neg (show ¬ (true && decide (x % 2 ^ 64 ≥ 2 ^ (64 - 1))) = true by simp; omega)).trans hm
omit [Toks] in
theorem get_arr {R : Value → Value → Prop} {l : List Value} {m : Array Value} (h : LR R l m.toList) (k : Nat) (u : Value) (hu : l[k]? = some u) : ∃ u', m[k]? = some u' ∧ R u u' := by
  obtain ⟨u', a1, a2⟩ := h.get k u hu
  exact ⟨u', by rw [← Array.getElem?_toList]; exact a1, a2⟩
theorem makeSlice_ok (s : Sim M ρ h w) (hM : h.n < M) {t : TypeId} {l c l' c' : Value} (hl : VR ρ l l') (hc : VR ρ c c') {v : Value} (hv : amakeSlice P t l c h = some (v, h')) :
    ValOk P M ρ h w v h' (Instr.makeSlice t l' c') := by
  unfold amakeSlice at hv
  split at hv
  · rename_i e k l k' c hu
    obtain rfl := hl.int
    obtain rfl := hc.int
    split at hv
    · rename_i i z hi hz
      obtain ⟨h1, h2⟩ := zeroP_ok hz w
      split at hv
      · rename_i hcond
        obtain ⟨c1, c2, c3, c4, c5⟩ := hcond
        injection hv with hv
        injection hv with hv1 hv2
        subst hv1 hv2
        have hwl : IntKind.i64.wrap l = l := wrap_small l (by omega) (by omega)
        have hwc : IntKind.i64.wrap c = c := wrap_small c (by omega) (by omega)
        have hb0 : 0 ≤ (i.bytes : Int) * c := Int.mul_nonneg (by omega) (by omega)
        have htl : (decide (c < 0) || decide ((i.bytes : Int) * c > 2 ^ 48)) = false := by simp; omega
        have hll : (decide (l < 0)) = false := by simp; omega
        have hlc : (decide (l > c)) = false := by simp; omega
        have hz2 : (zeros : Nat) → zeros = c.toNat * i.size → ((Array.range zeros).map (z.cells[· % z.cells.size]!)).size = i.size * c.toNat := by
          intro zs hzs; simp [hzs, Nat.mul_comm]
        obtain ⟨k1, k2, k3⟩ := anew_ok (P := P) s hM (e := e) (kind := 0) (es := i.size) (cells := ((Array.range (c.toNat * i.size)).map (z.cells[· % z.cells.size]!)).toList) (cs := (Array.range (c.toNat * i.size)).map (z.cells[· % z.cells.size]!)) (by decide) (by decide) (get_arr (zeros_LR h2 (c.toNat * i.size))) c.toNat (hz2 _ rfl) w rfl rfl rfl rfl
        refine ⟨_, _, _, ?_, k2, k3, ?_, _, 0, c.toNat, Ren.add_new _ _ _, rfl, Nat.le_refl _, fun _ => rfl, fun _ => rfl, fun hh => absurd rfl hh⟩
        · simp only [Instr.makeSlice, Sem.run_bind, run_underlying hu, Result.andThen_ok, asInt, asIntOf, Sem.run_pure, typeInfo, run_program, hi, hwl, hwc, htl, hll, hlc, Bool.or_false, Bool.false_or, Bool.false_eq_true, if_false, run_askRoom, sizeOf]
          by_cases h0 : c.toNat * i.size = 0
          · simp only [h0, if_true]
            rw [h0] at k1
            rw [range0] at k1
            simp only [range0, Sem.run_bind, k1, Result.andThen_ok, Sem.run_pure]
          · simp only [h0, if_false, Sem.run_bind, h1, Result.andThen_ok, Sem.run_pure, k1]
        · omega
      · cases hv
    · cases hv
  · cases hv
end
end Go.Proofs.Ytfbedlhigggggaa
