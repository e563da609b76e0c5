/- Each operation, abstract and real side by side: copy, conversions, equality, what needs no memory; all of them. -/
import Derived.Test.YtfbedlhigggggaaAppend
import Derived.Laws.IdiomStrings
import Derived.LaidEql
namespace Go.Proofs.Ytfbedlhigggggaa
open Go Go.RowKit
variable [Toks]

section
variable {P : Program} {M : Nat} {ρ : Ren} {h h' : AHeap} {w : World} {T : Tr Value} {a : Act}
theorem copy_ok (s : Sim M ρ h w) {types : Array TypeId} {ty : TypeId} {x y x' y' : Value} (hx : VR ρ x x') (hy : VR ρ y y') {v : Value} (hv : acopy P types x y h = some (v, h')) :
    ValOk P M ρ h w v h' (Builtin.copy_ types ty #[x', y']) := by
  unfold acopy at hv
  split at hv
  · rename_i t0 base n c h0
    split at hv
    · rename_i e m hu hm
      simp only [Option.bind_eq_some_iff] at hv
      obtain ⟨size, hs, cells, hcells, hv⟩ := hv
      have hlm := lenV_ok (P := P) hy hm w
      obtain ⟨n2, hn2, hnr⟩ := firsts_ok (P := P) s hy hm (Nat.min_le_left m n) hcells
      have e0 : (#[x', y'] : Array Value)[0]? = some x' := rfl
      have e1 : (#[x', y'] : Array Value)[1]? = some y' := rfl
      cases base with
      | none =>
        have ex := VR.eq (v := .slice none n c) rfl hx
        subst ex
        simp only [Option.some.injEq, Prod.mk.injEq] at hv
        obtain ⟨rfl, rfl⟩ := hv
        refine ValOk.quiet s (v' := goInt (Nat.min m n)) ?_ (VR.flat rfl)
        simp only [Builtin.copy_, h0, e0, e1, Sem.run_bind, run_underlying hu, Result.andThen_ok, hlm, sizeP_ok hs, hn2, Sem.run_pure]
      | some ad =>
        obtain ⟨hnc, l, o', c', hl, rfl, g1, g2, g3, g4⟩ := hx.slc
        simp only at hv
        split at hv
        · rename_i hemp
          injection hv with hv
          injection hv with hv1 hv2
          subst hv1 hv2
          have : n2.toList = [] := by have := hnr.length; cases cells <;> simp_all
          refine ValOk.quiet s (v' := goInt (Nat.min m n)) ?_ (VR.flat rfl)
          simp only [Builtin.copy_, h0, e0, e1, Sem.run_bind, run_underlying hu, Result.andThen_ok, hlm, sizeP_ok hs, hn2, Sem.run_pure, this, storeCells]
        · rename_i hemp
          simp only [Option.bind_eq_some_iff, Option.some.injEq, Prod.mk.injEq] at hv
          obtain ⟨h2, hst, rfl, rfl⟩ := hv
          have hn0 : 0 < n := by
            rcases Nat.eq_zero_or_pos n with e | e
            · exfalso
              subst e
              have : Nat.min m 0 = 0 := Nat.min_zero m
              rw [this] at hcells
              unfold firsts at hcells
              split at hcells
              · simp at hcells; subst hcells; simp at hemp
              · simp at hcells; subst hcells; simp at hemp
              · rename_i q
                injection hcells with hcells
                have e2 : (q.extract 0 0).data.toList = [] := by
                  simp
                rw [e2] at hcells
                subst hcells
                simp at hemp
              · cases hcells
            · exact e
          obtain rfl := g2 (by omega)
          obtain ⟨w', k1, k2, k3⟩ := astore_ok (P := P) s hst hl hnr
          refine ⟨ρ, goInt (Nat.min m n), w', ?_, k2, k3, VR.flat rfl⟩
          simp only [Builtin.copy_, h0, e0, e1, Sem.run_bind, run_underlying hu, Result.andThen_ok, hlm, sizeP_ok hs, hn2, Sem.run_pure, k1]
    · cases hv
  · cases hv
omit [Toks] in
theorem bytesOf_ok : ∀ {cs : List Value} {l : List UInt8}, bytesOf cs = some l → l.length = cs.length ∧ ∀ (j : Nat) (b : UInt8), l[j]? = some b → cs[j]? = some (.int .u8 (b.toNat : Int))
  | [], l, hl => by simp only [bytesOf, Option.some.injEq] at hl; subst hl; exact ⟨rfl, fun j b hb => by simp at hb⟩
  | c :: cs, l, hl => by
    unfold bytesOf at hl
    split at hl
    · cases ‹_ :: _ = []›
    · rename_i n r e
      injection e with e1 e2
      subst e1 e2
      split at hl
      · rename_i hb
        simp only [Option.bind_eq_some_iff, Option.some.injEq] at hl
        obtain ⟨l', h1, rfl⟩ := hl
        obtain ⟨g1, g2⟩ := bytesOf_ok h1
        refine ⟨by simp [g1], fun j b hj => ?_⟩
        cases j with
        | zero =>
          simp only [List.getElem?_cons_zero, Option.some.injEq] at hj ⊢
          subst hj
          have : (UInt8.ofNat n.toNat).toNat = n.toNat := by simp; omega
          rw [this]
          congr 1
          omega
        | succ j => simpa using g2 j b (by simpa using hj)
      · cases hl
    · cases hl
theorem convert_ok (s : Sim M ρ h w) (hM : h'.n ≤ M) {src dst : TypeId} {x x' : Value} (hx : VR ρ x x') {v : Value} (hv : aconvert P src dst x h = some (v, h')) : ValOk P M ρ h w v h' (convert src dst x') := by
  unfold aconvert at hv
  split at hv
  · rename_i e ad n c hus hud
    obtain ⟨hnc, l, o', c', hl, rfl, g1, g2, g3, g4⟩ := hx.slc
    split at hv
    · rename_i hue
      split at hv
      · rename_i hn0
        subst hn0
        injection hv with hv
        injection hv with hv1 hv2
        subst hv1 hv2
        refine ValOk.quiet s (v' := .string ⟨#[]⟩) ?_ (VR.flat rfl)
        have := run_convert_bytes_back (P := P) w src dst e ⟨l.b, o', none⟩ c' [] hus hue hud (fun j hj => absurd hj (by simp))
        exact this
      · rename_i hn0
        split at hv
        · rename_i o ho
          simp only [Option.bind_eq_some_iff, Option.some.injEq, Prod.mk.injEq] at hv
          obtain ⟨cs, hcs, bl, hbl, rfl, rfl⟩ := hv
          obtain ⟨t1, t2⟩ := takeN_some hcs
          obtain ⟨b1, b2⟩ := bytesOf_ok hbl
          obtain rfl := g2 (by omega)
          obtain ⟨ho, hk3⟩ := AHeap.cel_get ho
          obtain ⟨cc, fz, f1, f2, _⟩ := (s.ok _ o l ho hl).cells hk3
          refine ValOk.quiet s (v' := .string ⟨bl.toArray⟩) ?_ (VR.flat rfl)
          have := run_convert_bytes_back (P := P) w src dst e ⟨l.b, l.o + ad.off, none⟩ c' bl hus hue hud (fun j hj => by
            have hc := b2 j _ (List.getElem?_eq_getElem hj)
            rw [t2 j (by omega)] at hc
            obtain ⟨u', a1, a2⟩ := f2 _ _ hc
            have := VR0.eq rfl a2
            subst this
            rw [add_at]
            simpa [World.cell?, f1, Nat.add_assoc] using a1)
          rw [b1, t1] at this
          exact this
        · cases hv
    · cases hv
  · rename_i e q hus hud
    obtain rfl := hx.string
    split at hv
    · rename_i hue
      split at hv
      · cases hv
      · rename_i hsz
        injection hv with hv
        injection hv with hv1 hv2
        subst hv1 hv2
        obtain ⟨k, hk1, hk2⟩ := drawn_choose (P := P) (need := q.size) (old := 0) (e := e) (by omega) w
        let cs : Array Value := (q.data.map fun b => Value.int .u8 b.toNat) ++ Array.replicate (k - q.size) (.int .u8 0)
        have hcs : cs.size = k := by
          have : q.data.size = q.size := rfl
          simp only [cs, Array.size_append, Array.size_map, Array.size_replicate, this]; omega
        let w2 : World := { w with drawn := w.drawn + 1, heap := w.heap.push (.cells cs e (k, k + 1)) }
        have hrun : (convert src dst (.string q)).run P w = .ok (.slice (some ⟨w.heap.size, 0, none⟩) q.size k) w2 := by
          simp only [convert, Sem.run_bind, run_underlying hus, run_underlying hud, run_underlying hue, Result.andThen_ok, Conv.stringToBytes, hk2]
          have e1 : (newRow e cs).run P { w with drawn := w.drawn + 1 } = .ok ⟨w.heap.size, 0, none⟩ { w with drawn := w.drawn + 1, heap := w.heap.push (.cells cs e) } := rfl
          have e2 : (markStringish ⟨w.heap.size, 0, none⟩).run P { w with drawn := w.drawn + 1, heap := w.heap.push (.cells cs e) } = .ok () w2 := by
            have e3 : World.shape? { w with drawn := w.drawn + 1, heap := w.heap.push (.cells cs e) } w.heap.size = some (e, k) := by
              simp [World.shape?, hcs]
            simp only [markStringish, shape, freeze, Sem.run_bind, Sem.run, e3, Result.andThen_ok]
            congr 1
            simp only [World.freeze, w2]
            rw [if_neg (by decide)]
            congr 1
            apply Array.ext
            · simp
            · intro j h1 h2
              simp only [Array.getElem_modify, Array.getElem_push]
              by_cases hj : j < w.heap.size
              · have : ¬ w.heap.size = j := by omega
                simp [hj, this]
              · have : w.heap.size = j := by simp at h2; omega
                simp [this]
          show ((newRow e cs).run P { w with drawn := w.drawn + 1 }).andThen _ = _
          rw [e1]
          simp only [Result.andThen_ok, e2, Sem.run_pure]
        have k3 := s.push hM (w' := w2) (cs := cs) (e := e) (fz := (k, k + 1)) (cap := k) ⟨q.data.toList.map fun b => .int .u8 b.toNat, e, 1, 1⟩ rfl rfl (by simp) (by simp [hcs]) (by simp) (fun j hj => by simp; omega) (fun j u hu => by
          refine ⟨u, ?_, ?_⟩
          · have hlt := (List.getElem?_eq_some_iff.1 hu).1
            rw [← Array.getElem?_toList]
            simp only [cs, Array.toList_append, Array.toList_map]
            rw [List.getElem?_append_left hlt]
            exact hu
          · simp only [List.getElem?_map, Option.map_eq_some_iff] at hu
            obtain ⟨b, _, rfl⟩ := hu
            exact VR0.flat rfl)
        have k2 := Ext.push (w' := w2) (ob := .cells cs e (k, k + 1)) (cap := k) s hM ⟨q.data.toList.map fun b => .int .u8 b.toNat, e, 1, 1⟩ (by show (1 : Nat) ≠ 2; decide) rfl rfl rfl rfl
        exact ⟨_, _, _, hrun, k2, k3, Nat.le_refl _, _, 0, k, Ren.add_new _ _ _, rfl, hk1, fun _ => by simp, fun hs => by simp at hs, fun _ _ _ => rfl⟩
    · cases hv
  · cases hv
omit [Toks] in
theorem evs_get : ∀ {xs : List Operand} {vs : List Value}, evs T xs = some vs → ∀ x ∈ xs, ∃ v ∈ vs, ev T x = some v
  | [], _, _, x, hx => by cases hx
  | y :: ys, _, he, x, hx => by
    simp only [evs, Option.bind_eq_some_iff, Option.some.injEq] at he
    obtain ⟨v, h1, l, h2, rfl⟩ := he
    cases hx with
    | head => exact ⟨v, by simp, h1⟩
    | tail _ hx => obtain ⟨u, a1, a2⟩ := evs_get h2 x hx; exact ⟨u, by simp [a1], a2⟩
theorem xpure_ok (s : Sim M ρ h w) (ht : TR ρ T a.tmps) {o : Oper} {v : Value} (hv : xpure P o T h = some (v, h')) : OpOk P M ρ h w v h' (execOp a.eval o) := by
  unfold xpure at hv
  split at hv
  · rename_i hns
    simp only [Option.bind_eq_some_iff] at hv
    obtain ⟨vs, hvs, hv⟩ := hv
    split at hv
    · rename_i hall
      simp only [Option.bind_eq_some_iff] at hv
      obtain ⟨nx, hnx, u, hu, hv⟩ := hv
      split at hv
      · rename_i hfl
        injection hv with hv
        injection hv with hv1 hv2
        subst hv1 hv2
        have hc : execOp a.eval o = execOp (fun x => (ev T x).getD undef) o := by
          refine execOp_congr o (fun cs b e => by rw [e] at hns; cases hns) fun x hx => ?_
          obtain ⟨v, h1, h2⟩ := evs_get hvs x (by simpa using hx)
          rw [h2, Option.getD_some]
          simp only [List.all_eq_true] at hall
          exact VR.eq (hall v h1) (ev_ok ht h2)
        rw [hc]
        have := pureRun_ok hnx w
        cases nx with
        | value q =>
          simp only [nextValue, Option.some.injEq] at hu
          subst hu
          exact ⟨ρ, q, w, .inl this, Ext.refl _ _ _, s, VR.flat hfl⟩
        | _ => simp [nextValue] at hu
      · cases hv
    · cases hv
  · cases hv
end
end Go.Proofs.Ytfbedlhigggggaa
