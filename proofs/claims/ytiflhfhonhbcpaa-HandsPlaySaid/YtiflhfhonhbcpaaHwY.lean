/- Answers compared; keys compared. -/
import Derived.Test.YtiflhfhonhbcpaaHwX
namespace Go.Proofs.Ytiflhfhonhbcpaa.Hw
open Go Go.RowKit Go.Proofs.Ytiflhfhonhbcpaa Go.Proofs.Ytiflhfhonhbcpaa.Crw Go.Proofs.Ytiflhfhonhbcpaa.Vl Go.ChangeShapes Go.WideShapes Go.ChangeAt
set_option linter.unusedVariables false
set_option maxRecDepth 1000000
/-- Cells that stand one behind the other. -/
def CellsAt (w : World) (g o : Nat) (cs : List Value) : Prop := ∀ (k : Nat) (v : Value), cs[k]? = some v → w.cell? ⟨g, o + k, none⟩ = some v
theorem CellsAt.below {w w' : World} {g o : Nat} {cs : List Value} (h : CellsAt w g o cs) (hg : g < w.heap.size) (hb : Below w.heap.size w w') : CellsAt w' g o cs := fun k v hk => (hb.cell (p := ⟨g, o + k, none⟩) hg).trans (h k v hk)
set_option maxHeartbeats 4000000 in
theorem Same_ms (x : Ms) (w : World) :
    Calls Try.prog 49 #[.agg (msA x), .agg (msA x)] w fun r w' => r = .returned (.bool true) ∧ Below w.heap.size w w' := by
  obtain ⟨k, ⟨f, e, n⟩, t, s⟩ := x
  have h1 : (f.toList == f.toList) = true := by simp
  have h2 : (t.toList == t.toList) = true := by simp
  have h3 : (e.toList == e.toList) = true := by simp
  have hmono : Below w.heap.size w ((w.alloc (.cells (msA ⟨k, ⟨f, e, n⟩, t, s⟩) 30)).alloc (.cells (msA ⟨k, ⟨f, e, n⟩, t, s⟩) 30)) := ((Below.refl _ _).alloc (Nat.le_refl _) _).alloc (by simp) _
  go_enter Try.func49, Try.ntmps49
  go_wp2
  go_loopw [72] (fun vi wr => vi = .int .i64 0 ∧ wr = ((w.alloc (.cells (msA ⟨k, ⟨f, e, n⟩, t, s⟩) 30)).alloc (.cells (msA ⟨k, ⟨f, e, n⟩, t, s⟩) 30))) (fun _ _ => 0)
  case atStart => exact ⟨rfl, rfl⟩
  case round =>
    obtain ⟨rfl, rfl⟩ := hrel
    go_wp2
    go_ret
    exact ⟨rfl, hmono⟩
set_option maxHeartbeats 8000000 in
/-- Two answers that are alike. -/
theorem Messages_l {w : World} {B B' : Nat} {u u' : Value} {X : List Ms} (h : Win w B 30 9 u X.length (mssV X)) (h' : Win w B' 30 9 u' X.length (mssV X)) (hl : X.length ≤ 1000) :
    Calls Try.prog 17 #[u, u'] w fun e9 w' => e9 = .returned (.bool true) ∧ Below w.heap.size w w' := by
  obtain ⟨A, c, rfl, hc, -, hA⟩ := h.form
  obtain ⟨A', c', rfl, hc', -, hA'⟩ := h'.form
  obtain ⟨N, hN⟩ : ∃ N, N = X.length := ⟨_, rfl⟩
  rw [← hN] at h h' hl hc hc' ⊢
  have H := Lib.hid h
  have H' := Lib.hid h'
  have HN := Lib.hid hN
  clear h h' hN hA hA'
  go_enter Try.func17, Try.ntmps17
  go_wp2_with fail
  go_loopw [13] (fun vi wr => Hid (∃ j : Nat, vi = .int .i64 j ∧ j ≤ N ∧ Below w.heap.size w wr ∧ ∃ w7, w7 = wr)) (fun vi _ => N - (intOf vi).toNat)
  case atStart => exact Lib.hid ⟨0, rfl, by omega, Below.refl _ _, _, rfl⟩
  case round =>
    obtain ⟨j, rfl, hj, hb, w7, hw7⟩ := hrel.out
    subst hw7
    clear hrel
    have HB := Lib.hid hb
    have h7 := H.out.below hb
    have h7' := H'.out.below hb
    clear hb
    by_cases hlt : (j : Int) < N
    · obtain ⟨x, hx⟩ : ∃ x, X[j]? = some x := ⟨X[j]'(by have := HN.out; omega), List.getElem?_eq_getElem _⟩
      obtain ⟨g, o, c1, hv, -, -⟩ := h7.at (by omega)
      injection hv with hv _ hv2
      subst hv hv2
      obtain ⟨g1, o1, c2, hv, -, -⟩ := h7'.at (by omega)
      injection hv with hv _ hv2
      subst hv hv2
      have get : ∀ {b q cc BB : Nat} (hw : Win w7 BB 30 9 (.slice (some ⟨b, q, none⟩) N cc) N (mssV X)), CellsAt w7 b (q + j * 9) (msC x) := fun {b q cc BB} hw k v hk => by
        have hk9 : k < 9 := (List.getElem?_eq_some_iff.1 hk).1
        have := hw.cell (i := j * 9 + k) (by omega)
        rw [Nat.add_assoc, this, mssV_get X j x hx k hk9]
        exact hk
      have HS := (show CellsAt w7.drew g (o + j * 9) (msC x) ∧ CellsAt w7.drew g1 (o1 + j * 9) (msC x) from ⟨get h7, get h7'⟩)
      have HGL := Lib.hid (show g < w7.drew.heap.size ∧ g1 < w7.drew.heap.size from ⟨(h7.blk_lt rfl).2, (h7'.blk_lt rfl).2⟩)
      clear h7 h7' get hx
      go_upto_region 6 with fail
      refine wp_region_noPanic ?_
      refine wp_region_held_drew (S := fun wa => CellsAt wa g (o + j * 9) (msC x) ∧ CellsAt wa g1 (o1 + j * 9) (msC x)) (by kernel_rfl) HS (fun hHeld => ?_)
      refine wpAnyH_take (i := 0) (oi := ?oim1) (v := ?vm1) ?him1 (by kernel_rfl) (by kernel_rfl) (by kernel_rfl) (fun _ _ _ h => h) ?hym1 HS ?restm1
      case him1 => (simp only [List.getElem?_toArray, List.getElem?_cons_zero]; try rfl)
      case hym1 => (refine Or.inl ⟨by rfl, ?_⟩; intro w hSw; go_simp; (try with_reducible rfl))
      try simp only [Act.put, List.setIfInBounds_toArray, List.set_cons_zero, List.set_cons_succ]
      refine wpAnyH_take (i := 1) (oi := ?oim2) (v := ?vm2) ?him2 (by kernel_rfl) (by kernel_rfl) (by kernel_rfl) (fun _ _ _ h => h) ?hym2 HS ?restm2
      case him2 => (simp only [List.getElem?_toArray, List.getElem?_cons_succ, List.getElem?_cons_zero]; try rfl)
      case hym2 => (refine Or.inl ⟨by rfl, ?_⟩; intro w hSw; go_simp; (try with_reducible rfl))
      try simp only [Act.put, List.setIfInBounds_toArray, List.set_cons_zero, List.set_cons_succ]
      refine wpAnyH_take (i := 2) (oi := ?oim3) (v := ?vm3) ?him3 (by kernel_rfl) (by kernel_rfl) (by kernel_rfl) (fun _ _ _ h => h) ?hym3 HS ?restm3
      case him3 => (simp only [List.getElem?_toArray, List.getElem?_cons_succ, List.getElem?_cons_zero]; try rfl)
      case hym3 => (refine Or.inl ⟨by rfl, ?_⟩; intro w hSw; go_simp; (try with_reducible rfl))
      try simp only [Act.put, List.setIfInBounds_toArray, List.set_cons_zero, List.set_cons_succ]
      refine wpAnyH_take (i := 3) (oi := ?oim4) (v := ?vm4) ?him4 (by kernel_rfl) (by kernel_rfl) (by kernel_rfl) (fun _ _ _ h => h) ?hym4 HS ?restm4
      case him4 => (simp only [List.getElem?_toArray, List.getElem?_cons_succ, List.getElem?_cons_zero]; try rfl)
      case hym4 => (refine Or.inl ⟨by rfl, ?_⟩; intro w hSw; have q := And.intro (show w.cell? ⟨g, o + j * 9, none⟩ = some (.int .i64 x.k) from hSw.1 0 _ rfl) (And.intro (show w.cell? ⟨g, o + j * 9 + 1, none⟩ = some (.string x.r.f) from hSw.1 1 _ rfl) (And.intro (show w.cell? ⟨g, o + j * 9 + 2, none⟩ = some (.string x.r.e) from hSw.1 2 _ rfl) (And.intro (show w.cell? ⟨g, o + j * 9 + 3, none⟩ = some (.string x.t) from hSw.1 3 _ rfl) (And.intro (show w.cell? ⟨g, o + j * 9 + 4, none⟩ = some (.int .i64 x.r.n) from hSw.1 4 _ rfl) (And.intro (show w.cell? ⟨g, o + j * 9 + 5, none⟩ = some (.int .i64 x.s) from hSw.1 5 _ rfl) (And.intro (show w.cell? ⟨g, o + j * 9 + 6, none⟩ = some (.int .i64 0) from hSw.1 6 _ rfl) (And.intro (show w.cell? ⟨g, o + j * 9 + 7, none⟩ = some (.int .i64 0) from hSw.1 7 _ rfl) ((show w.cell? ⟨g, o + j * 9 + 8, none⟩ = some (.slice none 0 0) from hSw.1 8 _ rfl))))))))); go_simp; (try with_reducible rfl))
      try simp only [Act.put, List.setIfInBounds_toArray, List.set_cons_zero, List.set_cons_succ]
      refine wpAnyH_take (i := 4) (oi := ?oim5) (v := ?vm5) ?him5 (by kernel_rfl) (by kernel_rfl) (by kernel_rfl) (fun _ _ _ h => h) ?hym5 HS ?restm5
      case him5 => (simp only [List.getElem?_toArray, List.getElem?_cons_succ, List.getElem?_cons_zero]; try rfl)
      case hym5 => (refine Or.inl ⟨by rfl, ?_⟩; intro w hSw; go_simp; (try with_reducible rfl))
      try simp only [Act.put, List.setIfInBounds_toArray, List.set_cons_zero, List.set_cons_succ]
      refine wpAnyH_take (i := 5) (oi := ?oim6) (v := ?vm6) ?him6 (by kernel_rfl) (by kernel_rfl) (by kernel_rfl) (fun _ _ _ h => h) ?hym6 HS ?restm6
      case him6 => (simp only [List.getElem?_toArray, List.getElem?_cons_succ, List.getElem?_cons_zero]; try rfl)
      case hym6 => (refine Or.inl ⟨by rfl, ?_⟩; intro w hSw; go_simp; (try with_reducible rfl))
      try simp only [Act.put, List.setIfInBounds_toArray, List.set_cons_zero, List.set_cons_succ]
      refine wpAnyH_take (i := 6) (oi := ?oim7) (v := ?vm7) ?him7 (by kernel_rfl) (by kernel_rfl) (by kernel_rfl) (fun _ _ _ h => h) ?hym7 HS ?restm7
      case him7 => (simp only [List.getElem?_toArray, List.getElem?_cons_succ, List.getElem?_cons_zero]; try rfl)
      case hym7 => (refine Or.inl ⟨by rfl, ?_⟩; intro w hSw; go_simp; (try with_reducible rfl))
      try simp only [Act.put, List.setIfInBounds_toArray, List.set_cons_zero, List.set_cons_succ]
      refine wpAnyH_take (i := 7) (oi := ?oim8) (v := ?vm8) ?him8 (by kernel_rfl) (by kernel_rfl) (by kernel_rfl) (fun _ _ _ h => h) ?hym8 HS ?restm8
      case him8 => (simp only [List.getElem?_toArray, List.getElem?_cons_succ, List.getElem?_cons_zero]; try rfl)
      case hym8 => (refine Or.inl ⟨by rfl, ?_⟩; intro w hSw; have q := And.intro (show w.cell? ⟨g1, o1 + j * 9, none⟩ = some (.int .i64 x.k) from hSw.2 0 _ rfl) (And.intro (show w.cell? ⟨g1, o1 + j * 9 + 1, none⟩ = some (.string x.r.f) from hSw.2 1 _ rfl) (And.intro (show w.cell? ⟨g1, o1 + j * 9 + 2, none⟩ = some (.string x.r.e) from hSw.2 2 _ rfl) (And.intro (show w.cell? ⟨g1, o1 + j * 9 + 3, none⟩ = some (.string x.t) from hSw.2 3 _ rfl) (And.intro (show w.cell? ⟨g1, o1 + j * 9 + 4, none⟩ = some (.int .i64 x.r.n) from hSw.2 4 _ rfl) (And.intro (show w.cell? ⟨g1, o1 + j * 9 + 5, none⟩ = some (.int .i64 x.s) from hSw.2 5 _ rfl) (And.intro (show w.cell? ⟨g1, o1 + j * 9 + 6, none⟩ = some (.int .i64 0) from hSw.2 6 _ rfl) (And.intro (show w.cell? ⟨g1, o1 + j * 9 + 7, none⟩ = some (.int .i64 0) from hSw.2 7 _ rfl) ((show w.cell? ⟨g1, o1 + j * 9 + 8, none⟩ = some (.slice none 0 0) from hSw.2 8 _ rfl))))))))); go_simp; (try with_reducible rfl))
      try simp only [Act.put, List.setIfInBounds_toArray, List.set_cons_zero, List.set_cons_succ]
      refine wpAnyH_ready (rs := [8]) (by kernel_rfl) (by simp) ?_
      refine AllReadyH.cons (o := ?oim9) ?him9 (fun K hK => ?stm9) AllReadyH.nil
      case him9 => (simp only [List.getElem?_toArray, List.getElem?_cons_succ, List.getElem?_cons_zero]; try rfl)
      go_simp
      go_at_call 49
      refine (Same_ms x _).mono ?_
      rintro e9 w5 ⟨rfl, hb5⟩
      try dsimp only
      have HS5 := (show CellsAt w5 g (o + j * 9) (msC x) ∧ CellsAt w5 g1 (o1 + j * 9) (msC x) from ⟨HS.1.below HGL.out.1 hb5, HS.2.below HGL.out.2 hb5⟩)
      refine hK.out _ _ HS5 (fun _ => ?rsm9)
      clear hK K
      try simp only [Act.put, List.setIfInBounds_toArray, List.set_cons_zero, List.set_cons_succ]
      refine wpAnyH_take (i := 9) (oi := ?oim10) (v := ?vm10) ?him10 (by kernel_rfl) (by kernel_rfl) (by kernel_rfl) (fun _ _ _ h => h) ?hym10 HS5 ?restm10
      case him10 => (simp only [List.getElem?_toArray, List.getElem?_cons_succ, List.getElem?_cons_zero]; try rfl)
      case hym10 => (refine Or.inl ⟨by rfl, ?_⟩; intro w hSw; go_simp; (try with_reducible rfl))
      try simp only [Act.put, List.setIfInBounds_toArray, List.set_cons_zero, List.set_cons_succ]
      refine wpAnyH_done (by kernel_rfl) ?_ _
      refine NoPanic.normal ?_
      clear HS HS5
      go_wp2_with fail
      refine ⟨?_, by simp [intOf]; omega⟩
      exact Lib.hid ⟨j + 1, by simp, by omega, HB.out.trans ((show Below w7.heap.size w7 w5 from (Below.refl _ _).drew.trans hb5).mono HB.out.size), _, rfl⟩
    · clear h7 h7'
      go_wp2_with fail
      go_ret
      exact ⟨rfl, HB.out⟩
theorem key_neq (w : World) (f t f' t' : ByteArray) : (binOp .neq 46 (.agg #[.string f, .string t]) (.agg #[.string f', .string t'])).run Try.prog w = .ok (.bool (!((f.toList == f'.toList) && (t.toList == t'.toList)))) w := by
  have h := key_eql w f t f' t'
  rw [run_eql_struct] at h
  rw [run_neq_struct]
  cases hh : (Op.equalIn 10000 46 (.agg #[.string f, .string t]) (.agg #[.string f', .string t'])).run Try.prog w with
  | ok b w1 =>
    rw [hh] at h
    simp only [Result.andThen_ok, Result.ok.injEq, Value.bool.injEq] at h ⊢
    exact ⟨by rw [h.1], h.2⟩
  | _ => rw [hh] at h; simp [Result.andThen] at h
set_option maxHeartbeats 8000000 in
theorem SameK {w : World} {B B' : Nat} {u u' : Value} {X : List Ky} (h : Win w B 46 2 u X.length (kysV X)) (h' : Win w B' 46 2 u' X.length (kysV X)) (hl : X.length ≤ 1000) :
    Calls Try.prog 29 #[u, u'] w fun e9 w' => e9 = .returned (.bool true) ∧ Below w.heap.size w w' := by
  obtain ⟨A, c, rfl, hc, -, hA⟩ := h.form
  obtain ⟨A', c', rfl, hc', -, hA'⟩ := h'.form
  obtain ⟨N, hN⟩ : ∃ N, N = X.length := ⟨_, rfl⟩
  rw [← hN] at h h' hl hc hc' ⊢
  have heg : Try.prog.eqGuardType Try.prog.depth 46 = false := by kernel_rfl
  have H := Lib.hid h
  have H' := Lib.hid h'
  have HN := Lib.hid hN
  clear h h' hN hA hA'
  go_enter Try.func29, Try.ntmps29
  go_wp2_with fail
  go_loopw [5] (fun vi wr => Hid (∃ j : Nat, vi = .int .i64 j ∧ j ≤ N ∧ Below w.heap.size w wr ∧ ∃ w7, w7 = wr)) (fun vi _ => N - (intOf vi).toNat)
  case atStart => exact Lib.hid ⟨0, rfl, by omega, Below.refl _ _, _, rfl⟩
  case round =>
    obtain ⟨j, rfl, hj, hb, w7, hw7⟩ := hrel.out
    subst hw7
    clear hrel
    have HB := Lib.hid hb
    have h7 := H.out.below hb
    have h7' := H'.out.below hb
    clear hb
    by_cases hlt : (j : Int) < N
    · obtain ⟨x, hx⟩ : ∃ x, X[j]? = some x := ⟨X[j]'(by have := HN.out; omega), List.getElem?_eq_getElem _⟩
      obtain ⟨g, o, c1, hv, -, -⟩ := h7.at (by omega)
      injection hv with hv _ hv2
      subst hv hv2
      obtain ⟨g1, o1, c2, hv, -, -⟩ := h7'.at (by omega)
      injection hv with hv _ hv2
      subst hv hv2
      have get : ∀ {b q cc BB : Nat} (hw : Win w7 BB 46 2 (.slice (some ⟨b, q, none⟩) N cc) N (kysV X)), CellsAt w7 b (q + j * 2) (kyC x) := fun {b q cc BB} hw k v hk => by
        have hk9 : k < 2 := (List.getElem?_eq_some_iff.1 hk).1
        have := hw.cell (i := j * 2 + k) (by omega)
        rw [Nat.add_assoc, this, kysV_get X j x hx k hk9]
        exact hk
      have HS := (show CellsAt w7.drew g (o + j * 2) (kyC x) ∧ CellsAt w7.drew g1 (o1 + j * 2) (kyC x) from ⟨get h7, get h7'⟩)
      have heq : ∀ wa, (binOp .neq 46 (.agg #[.string x.f, .string x.t]) (.agg #[.string x.f, .string x.t])).run Try.prog wa = .ok (.bool false) wa := fun wa => by rw [key_neq]; simp
      clear h7 h7' get hx
      go_upto_region 6 with fail
      refine wp_region_noPanic ?_
      refine wp_region_held_drew (S := fun wa => CellsAt wa g (o + j * 2) (kyC x) ∧ CellsAt wa g1 (o1 + j * 2) (kyC x)) (by kernel_rfl) HS (fun hHeld => ?_)
      refine wpAnyH_take (i := 0) (oi := ?oik1) (v := ?vk1) ?hik1 (by kernel_rfl) (by kernel_rfl) (by kernel_rfl) (fun _ _ _ h => h) ?hyk1 HS ?restk1
      case hik1 => (simp only [List.getElem?_toArray, List.getElem?_cons_zero]; try rfl)
      case hyk1 => (refine Or.inl ⟨by rfl, ?_⟩; intro w hSw; go_simp; (try with_reducible rfl))
      try simp only [Act.put, List.setIfInBounds_toArray, List.set_cons_zero, List.set_cons_succ]
      refine wpAnyH_take (i := 1) (oi := ?oik2) (v := ?vk2) ?hik2 (by kernel_rfl) (by kernel_rfl) (by kernel_rfl) (fun _ _ _ h => h) ?hyk2 HS ?restk2
      case hik2 => (simp only [List.getElem?_toArray, List.getElem?_cons_succ, List.getElem?_cons_zero]; try rfl)
      case hyk2 => (refine Or.inl ⟨by rfl, ?_⟩; intro w hSw; go_simp; (try with_reducible rfl))
      try simp only [Act.put, List.setIfInBounds_toArray, List.set_cons_zero, List.set_cons_succ]
      refine wpAnyH_take (i := 2) (oi := ?oik3) (v := ?vk3) ?hik3 (by kernel_rfl) (by kernel_rfl) (by kernel_rfl) (fun _ _ _ h => h) ?hyk3 HS ?restk3
      case hik3 => (simp only [List.getElem?_toArray, List.getElem?_cons_succ, List.getElem?_cons_zero]; try rfl)
      case hyk3 => (refine Or.inl ⟨by rfl, ?_⟩; intro w hSw; go_simp; (try with_reducible rfl))
      try simp only [Act.put, List.setIfInBounds_toArray, List.set_cons_zero, List.set_cons_succ]
      refine wpAnyH_take (i := 3) (oi := ?oik4) (v := ?vk4) ?hik4 (by kernel_rfl) (by kernel_rfl) (by kernel_rfl) (fun _ _ _ h => h) ?hyk4 HS ?restk4
      case hik4 => (simp only [List.getElem?_toArray, List.getElem?_cons_succ, List.getElem?_cons_zero]; try rfl)
      case hyk4 => (refine Or.inl ⟨by rfl, ?_⟩; intro w hSw; have q := And.intro (show w.cell? ⟨g, o + j * 2, none⟩ = some (.string x.f) from hSw.1 0 _ rfl) (show w.cell? ⟨g, o + j * 2 + 1, none⟩ = some (.string x.t) from hSw.1 1 _ rfl); go_simp; (try with_reducible rfl))
      try simp only [Act.put, List.setIfInBounds_toArray, List.set_cons_zero, List.set_cons_succ]
      refine wpAnyH_take (i := 4) (oi := ?oik5) (v := ?vk5) ?hik5 (by kernel_rfl) (by kernel_rfl) (by kernel_rfl) (fun _ _ _ h => h) ?hyk5 HS ?restk5
      case hik5 => (simp only [List.getElem?_toArray, List.getElem?_cons_succ, List.getElem?_cons_zero]; try rfl)
      case hyk5 => (refine Or.inl ⟨by rfl, ?_⟩; intro w hSw; go_simp; (try with_reducible rfl))
      try simp only [Act.put, List.setIfInBounds_toArray, List.set_cons_zero, List.set_cons_succ]
      refine wpAnyH_take (i := 5) (oi := ?oik6) (v := ?vk6) ?hik6 (by kernel_rfl) (by kernel_rfl) (by kernel_rfl) (fun _ _ _ h => h) ?hyk6 HS ?restk6
      case hik6 => (simp only [List.getElem?_toArray, List.getElem?_cons_succ, List.getElem?_cons_zero]; try rfl)
      case hyk6 => (refine Or.inl ⟨by rfl, ?_⟩; intro w hSw; go_simp; (try with_reducible rfl))
      try simp only [Act.put, List.setIfInBounds_toArray, List.set_cons_zero, List.set_cons_succ]
      refine wpAnyH_take (i := 6) (oi := ?oik7) (v := ?vk7) ?hik7 (by kernel_rfl) (by kernel_rfl) (by kernel_rfl) (fun _ _ _ h => h) ?hyk7 HS ?restk7
      case hik7 => (simp only [List.getElem?_toArray, List.getElem?_cons_succ, List.getElem?_cons_zero]; try rfl)
      case hyk7 => (refine Or.inl ⟨by rfl, ?_⟩; intro w hSw; go_simp; (try with_reducible rfl))
      try simp only [Act.put, List.setIfInBounds_toArray, List.set_cons_zero, List.set_cons_succ]
      refine wpAnyH_take (i := 7) (oi := ?oik8) (v := ?vk8) ?hik8 (by kernel_rfl) (by kernel_rfl) (by kernel_rfl) (fun _ _ _ h => h) ?hyk8 HS ?restk8
      case hik8 => (simp only [List.getElem?_toArray, List.getElem?_cons_succ, List.getElem?_cons_zero]; try rfl)
      case hyk8 => (refine Or.inl ⟨by rfl, ?_⟩; intro w hSw; have q := And.intro (show w.cell? ⟨g1, o1 + j * 2, none⟩ = some (.string x.f) from hSw.2 0 _ rfl) (show w.cell? ⟨g1, o1 + j * 2 + 1, none⟩ = some (.string x.t) from hSw.2 1 _ rfl); go_simp; (try with_reducible rfl))
      try simp only [Act.put, List.setIfInBounds_toArray, List.set_cons_zero, List.set_cons_succ]
      refine wpAnyH_take (i := 8) (oi := ?oik9) (v := ?vk9) ?hik9 (by kernel_rfl) (by kernel_rfl) (by kernel_rfl) (fun _ _ _ h => h) ?hyk9 HS ?restk9
      case hik9 => (simp only [List.getElem?_toArray, List.getElem?_cons_succ, List.getElem?_cons_zero]; try rfl)
      case hyk9 => (refine Or.inl ⟨by rfl, ?_⟩; intro w hSw; go_simp; (try with_reducible rfl))
      try simp only [Act.put, List.setIfInBounds_toArray, List.set_cons_zero, List.set_cons_succ]
      refine wpAnyH_done (by kernel_rfl) ?_ _
      refine NoPanic.normal ?_
      clear HS
      go_wp2_with fail
      refine ⟨?_, by simp [intOf]; omega⟩
      exact Lib.hid ⟨j + 1, by simp, by omega, HB.out.drew, _, rfl⟩
    · clear h7 h7'
      go_wp2_with fail
      go_ret
      exact ⟨rfl, HB.out⟩
end Go.Proofs.Ytiflhfhonhbcpaa.Hw
