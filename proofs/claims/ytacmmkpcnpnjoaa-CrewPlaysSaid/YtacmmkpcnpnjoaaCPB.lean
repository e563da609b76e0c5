/- The walk of CrewPlays: the Go text returns true, and writes nothing that was there. -/
import Derived.Test.YtacmmkpcnpnjoaaCrewS
import Derived.Test.YtacmmkpcnpnjoaaActs
import Derived.Test.YtacmmkpcnpnjoaaAllSum
import Derived.Deep.CutRange
import Derived.Deep.RegionHeld3
import Derived.Deep.DeepCutAuto
import Derived.Deep.CutBlock
import Derived.Lib.Builder
import Derived.Deep.RegionLaw
import Derived.IntWalk
import Derived.Test.YtacmmkpcnpnjoaaPieceA
namespace Go.Proofs.Ytacmmkpcnpnjoaa.crewPlays
open Go.Proofs.Ytacmmkpcnpnjoaa.Crw Go.Proofs.Ytacmmkpcnpnjoaa.Crp Go.ChangeShapes Go.WideShapes Go.ChangeAt Go.RowKit
set_option linter.unusedVariables false
set_option maxRecDepth 100000
theorem i64_small (x : Int) (h0 : 0 ≤ x) (h1 : x ≤ 9223372036854775806) : IntKind.i64.wrap x = x := IntWalk.i64_in x (by omega)
theorem ptr_same (g : Nat) : ∀ w, (binOp .neq 50 (.pointer (some ⟨g, 0, none⟩)) (.pointer (some ⟨g, 0, none⟩))).run Try.prog w = .ok (.bool false) w := fun w => by
  obtain ⟨j, hj⟩ := Option.isSome_iff_exists.1 (show (Try.prog.info? 124).isSome = true by kernel_rfl)
  exact Lib.run_neq_ptr_same _ _ Try.underlying50 hj
abbrev thV (R : List Rp) : List Value := R.flatMap fun (r : Rp) => [Value.string r.f, Value.string r.e, Value.int .i64 r.n, Value.pointer (some ⟨r.g, 0, none⟩)]
theorem thV_get : ∀ (R : List Rp) (k : Nat) (r : Rp), R[k]? = some r → (thV R)[k * 4]? = some (.string r.f) ∧ (thV R)[k * 4 + 1]? = some (.string r.e) ∧ (thV R)[k * 4 + 2]? = some (.int .i64 r.n) ∧ (thV R)[k * 4 + 3]? = some (.pointer (some ⟨r.g, 0, none⟩))
  | [], k, r, h => by simp at h
  | a :: R, 0, r, h => by
    simp at h
    subst h
    simp [thV]
  | a :: R, k + 1, r, h => by
    have ih := thV_get R k r (by simpa using h)
    have e : thV (a :: R) = [Value.string a.f, Value.string a.e, Value.int .i64 a.n, Value.pointer (some ⟨a.g, 0, none⟩)] ++ thV R := by simp [thV]
    rw [e, show (k + 1) * 4 = 4 + k * 4 by omega, show 4 + k * 4 + 1 = 4 + (k * 4 + 1) by omega, show 4 + k * 4 + 2 = 4 + (k * 4 + 2) by omega, show 4 + k * 4 + 3 = 4 + (k * 4 + 3) by omega]
    generalize thV R = T at ih ⊢
    have key : ∀ n, ([Value.string a.f, Value.string a.e, Value.int .i64 a.n, Value.pointer (some ⟨a.g, 0, none⟩)] ++ T)[4 + n]? = T[n]? := fun n => by rw [List.getElem?_append_right (by simp)]; simp
    rw [key, key, key, key]
    exact ih
/-- How far the look for the executor has come. -/
def AtS (f e : ByteArray) (R : List Rp) (j : Nat) (va : Value) : Prop :=
  (va = .int .i64 (-1) ∧ ∀ (k : Nat) (r : Rp), k < j → R[k]? = some r → hit f e r = false) ∨ ∃ (k : Nat) (s : Rp), k < j ∧ va = .int .i64 k ∧ R[k]? = some s ∧ hit f e s = true
structure ClP (w wr : World) (gc : Nat) (R : List Rp) (v vt : Value) : Prop where
  cr : CrP wr w.heap.size gc v R
  th : wr.ownsRow w.heap.size 68 4 vt R.length (thV R)
  bel : Below w.heap.size w wr
structure Sa (x0 x1 x2 x3 x4 : Int) (wr w' : World) : Prop where
  c1 : w'.cell? ⟨wr.heap.size, 1, none⟩ = some (.int .i64 x1)
  c2 : w'.cell? ⟨wr.heap.size, 2, none⟩ = some (.int .i64 x2)
  c3 : w'.cell? ⟨wr.heap.size, 3, none⟩ = some (.int .i64 x3)
theorem keepSa {x0 x1 x2 x3 x4 : Int} {wr w1 w2 : World} (h : Sa x0 x1 x2 x3 x4 wr w1) (hb : Below w1.heap.size w1 w2) : Sa x0 x1 x2 x3 x4 wr w2 := by
  have hlt : wr.heap.size < w1.heap.size := by
    have := h.c1
    unfold World.cell? at this
    rcases Nat.lt_or_ge wr.heap.size w1.heap.size with h' | h'
    · exact h'
    · rw [Array.getElem?_eq_none h'] at this; cases this
  exact ⟨(hb.cell (p := ⟨wr.heap.size, 1, none⟩) hlt).trans h.c1, (hb.cell (p := ⟨wr.heap.size, 2, none⟩) hlt).trans h.c2, (hb.cell (p := ⟨wr.heap.size, 3, none⟩) hlt).trans h.c3⟩
theorem keepSb {O : Obj} {x1 x2 x3 : Int} {wr w1 w2 : World} (h : w1.cell? ⟨wr.heap.size, 1, none⟩ = some (.int .i64 x1) ∧ w1.cell? ⟨wr.heap.size, 2, none⟩ = some (.int .i64 x2) ∧ w1.cell? ⟨wr.heap.size, 3, none⟩ = some (.int .i64 x3) ∧ Below (wr.heap.size + 1) (wr.alloc O) w1) (hb : Below w1.heap.size w1 w2) : w2.cell? ⟨wr.heap.size, 1, none⟩ = some (.int .i64 x1) ∧ w2.cell? ⟨wr.heap.size, 2, none⟩ = some (.int .i64 x2) ∧ w2.cell? ⟨wr.heap.size, 3, none⟩ = some (.int .i64 x3) ∧ Below (wr.heap.size + 1) (wr.alloc O) w2 := by
  have hs := h.2.2.2.size
  have hlt : wr.heap.size < w1.heap.size := by simp at hs; omega
  exact ⟨(hb.cell (p := ⟨wr.heap.size, 1, none⟩) hlt).trans h.1, (hb.cell (p := ⟨wr.heap.size, 2, none⟩) hlt).trans h.2.1, (hb.cell (p := ⟨wr.heap.size, 3, none⟩) hlt).trans h.2.2.1, h.2.2.2.trans (hb.mono (by omega))⟩
theorem act_cells [Toks] {x0 x1 x2 x3 x4 : Int} (t0 : Toks.A 0 = x0) (t1 : Toks.A 1 = x1) (t2 : Toks.A 2 = x2) (t3 : Toks.A 3 = x3) {k : Nat} {u : Value} (hu : [Value.chan (some 0), .chan (some 1), .chan (some 2), .chan (some 3)][k]? = some u) :
    ∃ u', #[Value.int .i64 x0, .int .i64 x1, .int .i64 x2, .int .i64 x3, .int .i64 x4][k]? = some u' ∧ ∀ ρ, VR0 ρ u u' := by
  match k, hu with
  | 0, hu =>
    injection hu with hu
    subst hu
    exact ⟨_, rfl, fun ρ => (congrArg (Value.int .i64) t0.symm : _)⟩
  | 1, hu =>
    injection hu with hu
    subst hu
    exact ⟨_, rfl, fun ρ => (congrArg (Value.int .i64) t1.symm : _)⟩
  | 2, hu =>
    injection hu with hu
    subst hu
    exact ⟨_, rfl, fun ρ => (congrArg (Value.int .i64) t2.symm : _)⟩
  | 3, hu =>
    injection hu with hu
    subst hu
    exact ⟨_, rfl, fun ρ => (congrArg (Value.int .i64) t3.symm : _)⟩
theorem bnds3 [Toks] {x1 x2 x3 : Int} {v1 v2 v3 : Value} (t1 : Toks.A 1 = x1) (t2 : Toks.A 2 = x2) (t3 : Toks.A 3 = x3) (b1 : -9223372036854775808 ≤ x1 ∧ x1 ≤ 9223372036854775807) (b2 : -9223372036854775808 ≤ x2 ∧ x2 ≤ 9223372036854775807) (b3 : -9223372036854775808 ≤ x3 ∧ x3 ≤ 9223372036854775807) :
    ∀ q ∈ [((1 : Nat), (2 : Int), v1), (2, 3, v2), (3, 3, v3)], -9223372036854775808 ≤ Toks.A q.1 ∧ Toks.A q.1 ≤ 9223372036854775807 := by
  intro q hq
  simp only [List.mem_cons, List.not_mem_nil, or_false] at hq
  rcases hq with rfl | rfl | rfl
  · rw [t1]; exact b1
  · rw [t2]; exact b2
  · rw [t3]; exact b3
theorem rests3 [Toks] {x1 x2 x3 r1 r2 : Int} (t1 : Toks.A 1 = x1) (t2 : Toks.A 2 = x2) (t3 : Toks.A 3 = x3) (t5 : Toks.A 5 = x3 % 3) (h1 : x1 % 2 = r1) (h2 : x2 % 3 = r2) :
    ∀ q ∈ [((1 : Nat), (2 : Int), Value.int .i64 r1), (2, 3, .int .i64 r2), (3, 3, .iface 5 (.iface 0 (.iface 2 (.int .i64 0))))], 1 ≤ q.2.1 ∧ q.2.1 ≤ 9223372036854775807 ∧ ∀ ρ : Ren, VR ρ q.2.2 (.int .i64 (Toks.A q.1 % q.2.1)) := by
  intro q hq
  simp only [List.mem_cons, List.not_mem_nil, or_false] at hq
  rcases hq with rfl | rfl | rfl
  · exact ⟨by show (1 : Int) ≤ 2; decide, by show (2 : Int) ≤ 9223372036854775807; decide, rest_one t1 h1⟩
  · exact ⟨by show (1 : Int) ≤ 3; decide, by show (3 : Int) ≤ 9223372036854775807; decide, rest_one t2 h2⟩
  · exact ⟨by decide, by decide, rest_tok t3 t5 rfl⟩
theorem one_info : (Try.prog.info? 68).map (fun i => (i.zero, i.size, i.bytes)) = some (some (.agg #[.string ⟨#[]⟩, .string ⟨#[]⟩, .int .i64 0, .pointer none]), 4, 48) := by kernel_rfl
theorem hit_both {f e : ByteArray} {r s : Rp} (h1 : hit f e s = true) (h2 : hit f e r = true) : hit s.f s.e r = true := by
  unfold hit at *
  simp only [Bool.and_eq_true, beq_iff_eq] at *
  exact ⟨h2.1.trans h1.1.symm, h2.2.trans h1.2.symm⟩
theorem cells_new (W : World) (xs : List Value) (t : TypeId) : ∀ (j : Nat) (u : Value), xs[j]? = some u → (W.alloc (.cells xs.toArray t)).cell? ((⟨W.heap.size, 0, none⟩ : Addr).add j) = some u := by
  intro j u hu
  have h := (Blk.new W t xs.toArray).cell j
  have e : ((⟨W.heap.size, 0, none⟩ : Addr).add j) = ⟨W.heap.size, j, none⟩ := by
    unfold Addr.add; split <;> simp_all
  rw [e, h]
  simpa using hu
theorem one_cell4 (f e : ByteArray) (n : Int) (a : Option Addr) : ∀ u ∈ [Value.string f, .string e, .int .i64 n, .pointer a], u.oneCell' = true := by
  intro u hu
  simp only [List.mem_cons, List.not_mem_nil, or_false] at hu
  rcases hu with rfl | rfl | rfl | rfl <;> rfl
theorem _root_.Go.Proofs.Ytacmmkpcnpnjoaa.Reads.takeZ {w : World} {B z n m : Nat} {A : Option Addr} {xs : List Value} (h : Reads w B z A n xs) (hm : m ≤ n) : Reads w B z A m (xs.take (m * z)) := by
  have hl := h.1
  have hmz : m * z ≤ n * z := Nat.mul_le_mul_right z hm
  refine ⟨by rw [List.length_take]; omega, fun hp => ?_⟩
  obtain ⟨ad, e, hb, hc⟩ := h.2 (by omega)
  refine ⟨ad, e, hb, fun j u hu => hc j u ?_⟩
  rw [List.getElem?_take] at hu
  split at hu
  · exact hu
  · cases hu
theorem thV_one (R : List Rp) : ∀ u ∈ thV R, u.oneCell' = true := by
  intro u hu
  obtain ⟨r, _, hr⟩ := List.mem_flatMap.1 hu
  exact one_cell4 _ _ _ _ u hr
theorem add_zero_off (u n : Nat) : ((⟨u, 0, none⟩ : Addr).add n) = ⟨u, n, none⟩ := by
  unfold Addr.add; split <;> simp_all
theorem thV_append (R S : List Rp) : thV (R ++ S) = thV R ++ thV S := by simp [thV]
theorem thV_cons (r : Rp) (R : List Rp) : thV (r :: R) = [Value.string r.f, Value.string r.e, Value.int .i64 r.n, Value.pointer (some ⟨r.g, 0, none⟩)] ++ thV R := by simp [thV]
theorem thV_take : ∀ (R : List Rp) (k : Nat), thV (R.take k) = (thV R).take (k * 4)
  | [], k => by simp [thV]
  | r :: R, 0 => by simp [thV]
  | r :: R, k + 1 => by
    rw [List.take_succ_cons, thV_cons, thV_cons, thV_take R k, show (k + 1) * 4 = k * 4 + 4 by omega]
    rfl
theorem thV_drop : ∀ (R : List Rp) (k : Nat), thV (R.drop k) = (thV R).drop (k * 4)
  | [], k => by simp [thV]
  | r :: R, 0 => by simp
  | r :: R, k + 1 => by
    rw [List.drop_succ_cons, thV_cons, thV_drop R k, show (k + 1) * 4 = 4 + k * 4 by omega, List.drop_append]
    simp
theorem late_step (now : Int) (R : List Rp) (j : Nat) (r : Rp) (hr : R[j]? = some r) : (lateP now (R.take (j + 1))).length = (lateP now (R.take j)).length + (if (r.tm && decide (r.du ≤ now)) = true then 1 else 0) := by
  rw [List.take_add_one, hr, Option.toList_some]
  unfold lateP
  rw [List.filter_append, List.length_append]
  cases h : (r.tm && decide (r.du ≤ now)) <;> simp only [List.filter_cons, List.filter_nil, h, if_true, Bool.false_eq_true, if_false, List.length_cons, List.length_nil]
theorem late_len (now : Int) (R : List Rp) : (lateP now R).length ≤ R.length := List.length_filter_le _ _
theorem late_le (now : Int) (R : List Rp) (j : Nat) : (lateP now (R.take j)).length ≤ R.length := Nat.le_trans (late_len now _) (by rw [List.length_take]; exact Nat.min_le_right _ _)
theorem late_at (now : Int) (R : List Rp) (j : Nat) (r : Rp) (hr : R[j]? = some r) : (r.tm && decide (r.du ≤ now)) = true → (lateP now (R.take j)).length < (lateP now R).length ∧ (lateP now R)[(lateP now (R.take j)).length]? = some r := by
  intro h
  have e : lateP now R = lateP now (R.take j) ++ r :: lateP now (R.drop (j + 1)) := by
    have e1 : R = R.take j ++ r :: R.drop (j + 1) := by
      have hlt := (List.getElem?_eq_some_iff.1 hr)
      obtain ⟨h1, h2⟩ := hlt
      rw [← h2, List.getElem_cons_drop, List.take_append_drop]
    unfold lateP
    conv => lhs; rw [e1]
    rw [List.filter_append]
    simp only [List.filter_cons, h, if_true]
  rw [e]
  simp
theorem wkk (w : World) : Calls Try.prog 35 #[] w fun e w' => e = .returned (.bool true) ∧ Below w.heap.size w w' := wakes_35.2.2.2 w
set_option maxHeartbeats 80000000 in
theorem walk (v0 : Value) (a1 : Int) (w : World) (b0 : ActsArg 5 w v0) (b1 : -9223372036854775808 ≤ a1 ∧ a1 ≤ 9223372036854775807) :
    Calls Try.prog 7 #[v0, .int .i64 a1] w fun e w' => e = .returned (.bool true) ∧ Below w.heap.size w w' := by
  obtain ⟨A, nn, cc, rfl, hnc, hcm, hA⟩ := acts_u b0
  clear b0
  have HA := Lib.hid hA
  clear hA
  have m1 := Int.emod_nonneg a1 (show (24 : Int) ≠ 0 by omega)
  have m2 := Int.emod_lt_of_pos a1 (show (0 : Int) < 24 by omega)
  have hNow : ∀ w, Calls Try.prog 12 #[.int .i64 a1, .int .i64 24] w fun e w' => e = .returned (.int .i64 (a1 % 24)) ∧ w = w' := fun w => Within_any a1 24 w (by omega) (by omega) (by omega) (by omega)
  generalize a1 % 24 = now at *
  go_enter Try.func7, Try.ntmps7
  go_wp2_with fail
  refine (CNew_ok _).mono ?_
  rintro e w1 ⟨rfl, hcb, hb1⟩
  have HI : Hid (ClP w w1 w.heap.size [] (.slice none 0 0) (.slice none 0 0)) := Lib.hid ⟨⟨Nat.le_refl _, hcb, ⟨by simp, .inl ⟨rfl, rfl⟩⟩, (fun k r h => by simp at h), (fun k r h => by simp at h), (fun j k r s h => by simp at h), (fun j k r s h => by simp at h), by simp⟩, ⟨by simp, .inl ⟨rfl, rfl⟩⟩, hb1⟩
  clear hcb hb1
  go_wp2_with fail
  go_loopw [6, 7] (fun vt vi wr => Hid (∃ (R : List Rp) (v : Value) (i : Nat), vi = .int .i64 i ∧ i ≤ 24 ∧ R.length ≤ i ∧ ClP w wr w.heap.size R v vt)) (fun _ vi _ => 24 - (intOf vi).toNat)
  case atStart => exact Lib.hid ⟨[], _, 0, rfl, by omega, by simp, HI.out⟩
  case round =>
    obtain ⟨R, v, i, rfl, hi, hRi, hI⟩ := hrel.out
    clear hrel HI
    have HI := Lib.hid hI
    have HR := Lib.hid hRi
    clear hI hRi
    by_cases h1 : (i : Int) < nn
    · by_cases h2 : (i : Int) < 24
      · clear hNow
        obtain ⟨ab, off, xs, rfl, hblt, hxb, hcell⟩ := HA.out i (by omega)
        have hc := hcell _ wr HI.out.bel (Nat.le_refl _)
        have c0 : wr.cell? ⟨ab, off + i * 5, none⟩ = some (.int .i64 (xs 0)) := hc 0 (by omega)
        have c1 : wr.cell? ⟨ab, off + i * 5 + 1, none⟩ = some (.int .i64 (xs 1)) := hc 1 (by omega)
        have c2 : wr.cell? ⟨ab, off + i * 5 + 2, none⟩ = some (.int .i64 (xs 2)) := hc 2 (by omega)
        have c3 : wr.cell? ⟨ab, off + i * 5 + 3, none⟩ = some (.int .i64 (xs 3)) := hc 3 (by omega)
        have c4 : wr.cell? ⟨ab, off + i * 5 + 4, none⟩ = some (.int .i64 (xs 4)) := hc 4 (by omega)
        have b0 := hxb 0 (by omega)
        have b1 := hxb 1 (by omega)
        have b2 := hxb 2 (by omega)
        have b3 := hxb 3 (by omega)
        have b4 := hxb 4 (by omega)
        generalize xs 0 = x0 at *
        generalize xs 1 = x1 at *
        generalize xs 2 = x2 at *
        generalize xs 3 = x3 at *
        generalize xs 4 = x4 at *
        clear hc hcell hxb
        have hW1 : ∀ w, Calls Try.prog 12 #[.int .i64 x1, .int .i64 2] w fun e w' => e = .returned (.int .i64 (x1 % 2)) ∧ w = w' := fun w => Within_any x1 2 w (by omega) (by omega) (by omega) (by omega)
        have hW2 : ∀ w, Calls Try.prog 12 #[.int .i64 x2, .int .i64 3] w fun e w' => e = .returned (.int .i64 (x2 % 3)) ∧ w = w' := fun w => Within_any x2 3 w (by omega) (by omega) (by omega) (by omega)
        have hW3 : ∀ w, Calls Try.prog 12 #[.int .i64 x3, .int .i64 3] w fun e w' => e = .returned (.int .i64 (x3 % 3)) ∧ w = w' := fun w => Within_any x3 3 w (by omega) (by omega) (by omega) (by omega)
        go_upto_region 9 with fail
        obtain ⟨wa, hwa⟩ : ∃ wa, wa = (wr.alloc (Obj.cells #[Value.int IntKind.i64 x0, Value.int IntKind.i64 x1, Value.int IntKind.i64 x2, Value.int IntKind.i64 x3, Value.int IntKind.i64 x4] 66)) := ⟨_, rfl⟩
        rw [← hwa]
        go_cut [9, 10, 11] from 28 to 189 (fun vf ve vn wx => Hid (∃ (f e : ByteArray) (p : Int), vf = .string f ∧ ve = .string e ∧ vn = .int .i64 (1 + p) ∧ 0 ≤ p ∧ p < 3 ∧ Below wa.heap.size wa wx ∧ ∃ w9, w9 = wx))
        case first =>
          have hk1 : x1 % 2 = 0 ∨ x1 % 2 = 1 := by omega
          have hk2 : x2 % 3 = 0 ∨ x2 % 3 = 1 ∨ x2 % 3 = 2 := by omega
          letI : Toks := ⟨fun k => if k = 0 then x0 else if k = 1 then x1 else if k = 2 then x2 else if k = 3 then x3 else if k = 5 then x3 % 3 else 0⟩
          have t0 : Toks.A 0 = x0 := rfl
          have t1 : Toks.A 1 = x1 := rfl
          have t2 : Toks.A 2 = x2 := rfl
          have t3 : Toks.A 3 = x3 := rfl
          have t5 : Toks.A 5 = x3 % 3 := rfl
          have hwb := (Blk.new wr 66 #[Value.int IntKind.i64 x0, Value.int IntKind.i64 x1, Value.int IntKind.i64 x2, Value.int IntKind.i64 x3, Value.int IntKind.i64 x4])
          rw [← hwa] at hwb
          have sim : ∀ M, 1 ≤ M → Sim M _ (h0.push ⟨[.chan (some 0), .chan (some 1), .chan (some 2), .chan (some 3)], 66, 2, 5⟩) wa := fun M hM => sim_ro hwb [.chan (some 0), .chan (some 1), .chan (some 2), .chan (some 3)] 5 (fun k u hu => act_cells t0 t1 t2 t3 hu) M hM
          refine piece_or [42, 43, 44, 45, 46, 47, 48, 49, 50, 51, 52, 53, 54, 55, 56, 57, 9, 10, 11] (fun f w' => (∃ f1 e1 : ByteArray, f 9 = .string f1 ∧ f 10 = .string e1) ∧ f 11 = .int .i64 (1 + x3 % 3) ∧ Below wa.heap.size wa w') ?_ ?_
          · rintro f w' ⟨⟨f1, e1, v9, v10⟩, v11, hb⟩
            simp only [List.foldl_cons, List.foldl_nil, Act.put, List.setIfInBounds_toArray, List.set_cons_zero, List.set_cons_succ, v9, v10, v11]
            go_wp2_with fail
            go_meet
            case rel => exact Lib.hid ⟨_, _, x3 % 3, rfl, rfl, rfl, by omega, by omega, hb, _, rfl⟩
          · intro hq
            rcases hk1 with hk1 | hk1 <;> rcases hk2 with hk2 | hk2 | hk2
            · refine piece_run (okF := ⟨fun _ => true, overW [(1, 2, .int .i64 0), (2, 3, .int .i64 0), (3, 3, .iface 5 (.iface 0 (.iface 2 (.int .i64 0))))], fun _ _ _ => none⟩) (cfgW_ok _ (bnds3 t1 t2 t3 b1 b2 b3) (rests3 t1 t2 t3 t5 hk1 hk2)) mixed 50 (ρ := fun i => if i = 0 then some ⟨wr.heap.size, 1, 0⟩ else none) (h := h0.push ⟨[.chan (some 0), .chan (some 1), .chan (some 2), .chan (some 3)], 66, 2, 5⟩)
                [(8, .pointer (some ⟨0, 0, none⟩))] [(9, .string ⟨#[102]⟩), (10, .string ⟨#[120]⟩), (11, .iface 5 (.iface 0 (.iface 2 (.int .i64 1))))] 228 [42, 43, 44, 45, 46, 47, 48, 49, 50, 51, 52, 53, 54, 55, 56, 57, 9, 10, 11] (fun M hM => sim M (by exact hM)) rfl rfl (fun p hp => by
                  rw [List.mem_singleton] at hp
                  subst hp
                  exact ⟨rfl, ⟨wr.heap.size, 1, 0⟩, rfl, rfl⟩) (by as_aux_lemma => kernel_rfl) (by as_aux_lemma => kernel_rfl) (by as_aux_lemma => kernel_rfl) ?_
              rintro f w' ⟨M, ρ', h', E, -, hv⟩
              exact hq f w' ⟨⟨_, _, VR.eq rfl (hv (9, .string ⟨#[102]⟩) (by simp)), VR.eq rfl (hv (10, .string ⟨#[120]⟩) (by simp))⟩, (hv (11, .iface 5 (.iface 0 (.iface 2 (.int .i64 1)))) (by simp)).1.trans (by rw [t5]; exact congrArg _ (Int.add_comm _ _)), E.ro_below ro_one⟩
            · refine piece_run (okF := ⟨fun _ => true, overW [(1, 2, .int .i64 0), (2, 3, .int .i64 1), (3, 3, .iface 5 (.iface 0 (.iface 2 (.int .i64 0))))], fun _ _ _ => none⟩) (cfgW_ok _ (bnds3 t1 t2 t3 b1 b2 b3) (rests3 t1 t2 t3 t5 hk1 hk2)) mixed 50 (ρ := fun i => if i = 0 then some ⟨wr.heap.size, 1, 0⟩ else none) (h := h0.push ⟨[.chan (some 0), .chan (some 1), .chan (some 2), .chan (some 3)], 66, 2, 5⟩)
                [(8, .pointer (some ⟨0, 0, none⟩))] [(9, .string ⟨#[102]⟩), (10, .string ⟨#[121]⟩), (11, .iface 5 (.iface 0 (.iface 2 (.int .i64 1))))] 228 [42, 43, 44, 45, 46, 47, 48, 49, 50, 51, 52, 53, 54, 55, 56, 57, 9, 10, 11] (fun M hM => sim M (by exact hM)) rfl rfl (fun p hp => by
                  rw [List.mem_singleton] at hp
                  subst hp
                  exact ⟨rfl, ⟨wr.heap.size, 1, 0⟩, rfl, rfl⟩) (by as_aux_lemma => kernel_rfl) (by as_aux_lemma => kernel_rfl) (by as_aux_lemma => kernel_rfl) ?_
              rintro f w' ⟨M, ρ', h', E, -, hv⟩
              exact hq f w' ⟨⟨_, _, VR.eq rfl (hv (9, .string ⟨#[102]⟩) (by simp)), VR.eq rfl (hv (10, .string ⟨#[121]⟩) (by simp))⟩, (hv (11, .iface 5 (.iface 0 (.iface 2 (.int .i64 1)))) (by simp)).1.trans (by rw [t5]; exact congrArg _ (Int.add_comm _ _)), E.ro_below ro_one⟩
            · refine piece_run (okF := ⟨fun _ => true, overW [(1, 2, .int .i64 0), (2, 3, .int .i64 2), (3, 3, .iface 5 (.iface 0 (.iface 2 (.int .i64 0))))], fun _ _ _ => none⟩) (cfgW_ok _ (bnds3 t1 t2 t3 b1 b2 b3) (rests3 t1 t2 t3 t5 hk1 hk2)) mixed 50 (ρ := fun i => if i = 0 then some ⟨wr.heap.size, 1, 0⟩ else none) (h := h0.push ⟨[.chan (some 0), .chan (some 1), .chan (some 2), .chan (some 3)], 66, 2, 5⟩)
                [(8, .pointer (some ⟨0, 0, none⟩))] [(9, .string ⟨#[102]⟩), (10, .string ⟨#[122]⟩), (11, .iface 5 (.iface 0 (.iface 2 (.int .i64 1))))] 228 [42, 43, 44, 45, 46, 47, 48, 49, 50, 51, 52, 53, 54, 55, 56, 57, 9, 10, 11] (fun M hM => sim M (by exact hM)) rfl rfl (fun p hp => by
                  rw [List.mem_singleton] at hp
                  subst hp
                  exact ⟨rfl, ⟨wr.heap.size, 1, 0⟩, rfl, rfl⟩) (by as_aux_lemma => kernel_rfl) (by as_aux_lemma => kernel_rfl) (by as_aux_lemma => kernel_rfl) ?_
              rintro f w' ⟨M, ρ', h', E, -, hv⟩
              exact hq f w' ⟨⟨_, _, VR.eq rfl (hv (9, .string ⟨#[102]⟩) (by simp)), VR.eq rfl (hv (10, .string ⟨#[122]⟩) (by simp))⟩, (hv (11, .iface 5 (.iface 0 (.iface 2 (.int .i64 1)))) (by simp)).1.trans (by rw [t5]; exact congrArg _ (Int.add_comm _ _)), E.ro_below ro_one⟩
            · refine piece_run (okF := ⟨fun _ => true, overW [(1, 2, .int .i64 1), (2, 3, .int .i64 0), (3, 3, .iface 5 (.iface 0 (.iface 2 (.int .i64 0))))], fun _ _ _ => none⟩) (cfgW_ok _ (bnds3 t1 t2 t3 b1 b2 b3) (rests3 t1 t2 t3 t5 hk1 hk2)) mixed 50 (ρ := fun i => if i = 0 then some ⟨wr.heap.size, 1, 0⟩ else none) (h := h0.push ⟨[.chan (some 0), .chan (some 1), .chan (some 2), .chan (some 3)], 66, 2, 5⟩)
                [(8, .pointer (some ⟨0, 0, none⟩))] [(9, .string ⟨#[103]⟩), (10, .string ⟨#[120]⟩), (11, .iface 5 (.iface 0 (.iface 2 (.int .i64 1))))] 228 [42, 43, 44, 45, 46, 47, 48, 49, 50, 51, 52, 53, 54, 55, 56, 57, 9, 10, 11] (fun M hM => sim M (by exact hM)) rfl rfl (fun p hp => by
                  rw [List.mem_singleton] at hp
                  subst hp
                  exact ⟨rfl, ⟨wr.heap.size, 1, 0⟩, rfl, rfl⟩) (by as_aux_lemma => kernel_rfl) (by as_aux_lemma => kernel_rfl) (by as_aux_lemma => kernel_rfl) ?_
              rintro f w' ⟨M, ρ', h', E, -, hv⟩
              exact hq f w' ⟨⟨_, _, VR.eq rfl (hv (9, .string ⟨#[103]⟩) (by simp)), VR.eq rfl (hv (10, .string ⟨#[120]⟩) (by simp))⟩, (hv (11, .iface 5 (.iface 0 (.iface 2 (.int .i64 1)))) (by simp)).1.trans (by rw [t5]; exact congrArg _ (Int.add_comm _ _)), E.ro_below ro_one⟩
            · refine piece_run (okF := ⟨fun _ => true, overW [(1, 2, .int .i64 1), (2, 3, .int .i64 1), (3, 3, .iface 5 (.iface 0 (.iface 2 (.int .i64 0))))], fun _ _ _ => none⟩) (cfgW_ok _ (bnds3 t1 t2 t3 b1 b2 b3) (rests3 t1 t2 t3 t5 hk1 hk2)) mixed 50 (ρ := fun i => if i = 0 then some ⟨wr.heap.size, 1, 0⟩ else none) (h := h0.push ⟨[.chan (some 0), .chan (some 1), .chan (some 2), .chan (some 3)], 66, 2, 5⟩)
                [(8, .pointer (some ⟨0, 0, none⟩))] [(9, .string ⟨#[103]⟩), (10, .string ⟨#[121]⟩), (11, .iface 5 (.iface 0 (.iface 2 (.int .i64 1))))] 228 [42, 43, 44, 45, 46, 47, 48, 49, 50, 51, 52, 53, 54, 55, 56, 57, 9, 10, 11] (fun M hM => sim M (by exact hM)) rfl rfl (fun p hp => by
                  rw [List.mem_singleton] at hp
                  subst hp
                  exact ⟨rfl, ⟨wr.heap.size, 1, 0⟩, rfl, rfl⟩) (by as_aux_lemma => kernel_rfl) (by as_aux_lemma => kernel_rfl) (by as_aux_lemma => kernel_rfl) ?_
              rintro f w' ⟨M, ρ', h', E, -, hv⟩
              exact hq f w' ⟨⟨_, _, VR.eq rfl (hv (9, .string ⟨#[103]⟩) (by simp)), VR.eq rfl (hv (10, .string ⟨#[121]⟩) (by simp))⟩, (hv (11, .iface 5 (.iface 0 (.iface 2 (.int .i64 1)))) (by simp)).1.trans (by rw [t5]; exact congrArg _ (Int.add_comm _ _)), E.ro_below ro_one⟩
            · refine piece_run (okF := ⟨fun _ => true, overW [(1, 2, .int .i64 1), (2, 3, .int .i64 2), (3, 3, .iface 5 (.iface 0 (.iface 2 (.int .i64 0))))], fun _ _ _ => none⟩) (cfgW_ok _ (bnds3 t1 t2 t3 b1 b2 b3) (rests3 t1 t2 t3 t5 hk1 hk2)) mixed 50 (ρ := fun i => if i = 0 then some ⟨wr.heap.size, 1, 0⟩ else none) (h := h0.push ⟨[.chan (some 0), .chan (some 1), .chan (some 2), .chan (some 3)], 66, 2, 5⟩)
                [(8, .pointer (some ⟨0, 0, none⟩))] [(9, .string ⟨#[103]⟩), (10, .string ⟨#[122]⟩), (11, .iface 5 (.iface 0 (.iface 2 (.int .i64 1))))] 228 [42, 43, 44, 45, 46, 47, 48, 49, 50, 51, 52, 53, 54, 55, 56, 57, 9, 10, 11] (fun M hM => sim M (by exact hM)) rfl rfl (fun p hp => by
                  rw [List.mem_singleton] at hp
                  subst hp
                  exact ⟨rfl, ⟨wr.heap.size, 1, 0⟩, rfl, rfl⟩) (by as_aux_lemma => kernel_rfl) (by as_aux_lemma => kernel_rfl) (by as_aux_lemma => kernel_rfl) ?_
              rintro f w' ⟨M, ρ', h', E, -, hv⟩
              exact hq f w' ⟨⟨_, _, VR.eq rfl (hv (9, .string ⟨#[103]⟩) (by simp)), VR.eq rfl (hv (10, .string ⟨#[122]⟩) (by simp))⟩, (hv (11, .iface 5 (.iface 0 (.iface 2 (.int .i64 1)))) (by simp)).1.trans (by rw [t5]; exact congrArg _ (Int.add_comm _ _)), E.ro_below ro_one⟩
        case rest =>
          obtain ⟨f, e, p, rfl, rfl, rfl, hp0, hp1, hbx, w9, hw9⟩ := hcut.out
          subst hw9
          clear hcut hW1 hW2 hW3
          have hwb := (Blk.new wr 66 #[Value.int IntKind.i64 x0, Value.int IntKind.i64 x1, Value.int IntKind.i64 x2, Value.int IntKind.i64 x3, Value.int IntKind.i64 x4])
          rw [← hwa] at hwb
          have hI9 : Hid (ClP w w9 w.heap.size R v u6) := Lib.hid (by
            have h1 : Below wr.heap.size wr w9 := by
              rw [hwa] at hbx
              exact ((Below.refl _ _).alloc (Nat.le_refl _) _).trans (hbx.mono (by simp))
            exact ⟨HI.out.cr.below h1, own_keep HI.out.th h1, HI.out.bel.trans (h1.mono HI.out.bel.size)⟩)
          obtain ⟨At, ct, rfl, hct, -⟩ := own_slice hI9.out.th
          have hRl := HR.out
          obtain ⟨N, hN⟩ : ∃ N, N = R.length := ⟨_, rfl⟩
          rw [← hN] at hRl hct ⊢
          have HN := Lib.hid hN
          clear hN
          go_wp2_with fail
          go_loopw [12, 60] (fun va vi w8 => Hid (∃ j : Nat, vi = .int .i64 j ∧ j ≤ N ∧ AtS f e R j va ∧ Below w9.heap.size w9 w8 ∧ ∃ w7, w7 = w8)) (fun _ vi _ => N - (intOf vi).toNat)
          case atStart => exact Lib.hid ⟨0, rfl, by omega, .inl ⟨rfl, fun k r h => by omega⟩, Below.refl _ _, _, rfl⟩
          case round =>
            obtain ⟨j, rfl, hj, hat, hb8, w8, hw8⟩ := hrel.out
            clear hrel
            subst hw8
            have HAT := Lib.hid hat
            have HB8 := Lib.hid hb8
            clear hat
            by_cases hlt : (j : Int) < N
            · obtain ⟨r, hr⟩ : ∃ r, R[j]? = some r := ⟨R[j]'(by have := HN.out; omega), List.getElem?_eq_getElem _⟩
              obtain ⟨u, rfl⟩ := own_some hI9.out.th (by have := HN.out; omega)
              have ho8 := own_keep hI9.out.th hb8
              obtain ⟨g1, g2, g3, g4⟩ := thV_get R j r hr
              have hN8 := HN.out
              have d0 := (ho8.cellAt (j * 4) (by omega)).trans g1
              have d1 := (ho8.cellAt (j * 4 + 1) (by omega)).trans g2
              have d2 := (ho8.cellAt (j * 4 + 2) (by omega)).trans g3
              have d3 := (ho8.cellAt (j * 4 + 3) (by omega)).trans g4
              have hsame : Hid ((r.f.toList == f.toList) = true → (r.e.toList == e.toList) = true → hit f e r = true) := Lib.hid fun a b => by unfold hit; rw [a, b]; rfl
              have hoth : Hid ((r.f.toList == f.toList) = false ∨ (r.e.toList == e.toList) = false → hit f e r = false) := Lib.hid fun a => by
                unfold hit
                rcases a with a | a
                · rw [a]; rfl
                · rw [a]; simp
              have HR8 := Lib.hid hr
              clear hr g1 g2 g3 g4 hN8 ho8 hb8
              obtain ⟨rf, re, rn, rg, rp, rt, rd⟩ := r
              simp only at d0 d1 d2 d3 hsame hoth
              cases hf : (rf.toList == f.toList) with
              | false =>
                have HH := Lib.hid (hoth.out (.inl hf))
                clear hsame hoth
                go_wp2_with fail
                refine ⟨?_, by simp [intOf]; omega⟩
                refine Lib.hid ⟨j + 1, by simp, by omega, ?_, ?_, _, rfl⟩
                · rcases HAT.out with ⟨a1, a2⟩ | ⟨k, s, a1, a2, a3, a4⟩
                  · refine .inl ⟨a1, fun k r hk hr => ?_⟩
                    rcases Nat.lt_or_ge k j with h | h
                    · exact a2 k r h hr
                    · have : k = j := by omega
                      subst this
                      rw [HR8.out] at hr
                      injection hr with hr
                      subst hr
                      exact HH.out
                  · exact .inr ⟨k, s, by omega, a2, a3, a4⟩
                · exact HB8.out.alloc HB8.out.size _
              | true =>
                cases he : (re.toList == e.toList) with
                | false =>
                  have HH := Lib.hid (hoth.out (.inr he))
                  clear hsame hoth
                  go_wp2_with fail
                  refine ⟨?_, by simp [intOf]; omega⟩
                  refine Lib.hid ⟨j + 1, by simp, by omega, ?_, ?_, _, rfl⟩
                  · rcases HAT.out with ⟨a1, a2⟩ | ⟨k, s, a1, a2, a3, a4⟩
                    · refine .inl ⟨a1, fun k r hk hr => ?_⟩
                      rcases Nat.lt_or_ge k j with h | h
                      · exact a2 k r h hr
                      · have : k = j := by omega
                        subst this
                        rw [HR8.out] at hr
                        injection hr with hr
                        subst hr
                        exact HH.out
                    · exact .inr ⟨k, s, by omega, a2, a3, a4⟩
                  · exact HB8.out.alloc HB8.out.size _
                | true =>
                  have HH := Lib.hid (hsame.out hf he)
                  clear hsame hoth
                  go_wp2_with fail
                  refine ⟨?_, by simp [intOf]; omega⟩
                  refine Lib.hid ⟨j + 1, by simp, by omega, ?_, ?_, _, rfl⟩
                  · exact .inr ⟨j, _, by omega, rfl, HR8.out, HH.out⟩
                  · exact HB8.out.alloc HB8.out.size _
            · have hjN : j = N := by omega
              subst hjN
              have hwb8 := (hwb.below hbx hwb.lt).below HB8.out (hwb.below hbx hwb.lt).lt
              have k0 : w8.cell? ⟨wr.heap.size, 0, none⟩ = some (.int .i64 x0) := hwb8.cell 0
              have k4 : w8.cell? ⟨wr.heap.size, 4, none⟩ = some (.int .i64 x4) := hwb8.cell 4
              have hI8 : Hid (ClP w w8 w.heap.size R v (.slice At R.length ct)) := Lib.hid ⟨hI9.out.cr.below HB8.out, own_keep hI9.out.th HB8.out, hI9.out.bel.trans (HB8.out.mono hI9.out.bel.size)⟩
              have hBa : Hid (Below wa.heap.size wa w8) := Lib.hid (hbx.trans (HB8.out.mono hbx.size))
              clear HI hwb hI9 hbx HB8 hwb8
              have hW0 : ∀ w, Calls Try.prog 12 #[.int .i64 x0, .int .i64 6] w fun e w' => e = .returned (.int .i64 (x0 % 6)) ∧ w = w' := fun w => Within_any x0 6 w (by omega) (by omega) (by omega) (by omega)
              go_upto_block 4 with (go_at_call 12; refine (hW0 _).mono ?_; rintro e w' ⟨rfl, rfl⟩)
              go_cut [6] from 28 to 189 (fun vt wx => Hid (∃ (R' : List Rp) (v' : Value), R'.length ≤ i + 1 ∧ ClP w wx w.heap.size R' v' vt ∧ ∃ w7, w7 = wx))
              case first =>
                have hd1 := Int.emod_nonneg x0 (show (6 : Int) ≠ 0 by omega)
                have hd2 := Int.emod_lt_of_pos x0 (show (0 : Int) < 6 by omega)
                clear hW0
                generalize x0 % 6 = d at *
                obtain ⟨oi, hoi, oz0, oz1, oz2⟩ := info_parts one_info
                go_upto_if 111 with fail
                go_cut [111] from 112 to 114 (fun vb wx => ((d < 3 ∧ vb = .bool true) ∨ (3 ≤ d ∧ vb = .bool false)) ∧ w8 = wx)
                case first =>
                  have hd : d = 0 ∨ d = 1 ∨ d = 2 ∨ 3 ≤ d := by omega
                  rcases hd with rfl | rfl | rfl | hd
                  · go_wp2_with fail
                    go_meet
                    case rel => exact ⟨.inl ⟨by omega, rfl⟩, rfl⟩
                  · go_wp2_with fail
                    go_meet
                    case rel => exact ⟨.inl ⟨by omega, rfl⟩, rfl⟩
                  · go_wp2_with fail
                    go_meet
                    case rel => exact ⟨.inl ⟨by omega, rfl⟩, rfl⟩
                  · have e0 : (d == 0) = false := by simp; omega
                    have e1 : (d == 1) = false := by simp; omega
                    have e2 : (d == 2) = false := by simp; omega
                    go_wp2_with fail
                    go_meet
                    case rel => exact ⟨.inr ⟨hd, rfl⟩, rfl⟩
                case rest =>
                  obtain ⟨hb, rfl⟩ := hcut
                  have hI8 : Hid (ClP w w8 w.heap.size R v (.slice At j ct)) := Lib.hid (by have := hI8.out; rw [← HN.out] at this; exact this)
                  have hB0 : w.heap.size ≤ w8.heap.size := hI8.out.bel.size
                  have HB0 := Lib.hid hB0
                  clear hB0
                  have huniq : Hid (∀ (k : Nat) (s : Rp), R[k]? = some s → hit f e s = true → ∀ (i : Nat) (r : Rp), R[i]? = some r → hit f e r = true → i = k) := Lib.hid fun k s hs hh i r hr hh2 => hI8.out.cr.uniq i k r s hr hs (hit_both hh hh2)
                  rcases hb with ⟨hd, rfl⟩ | ⟨hd, rfl⟩
                  · -- a new run
                    clear hd hd1 hd2
                    go_wp2_with fail
                    refine (RNew_p f e (1 + p) _).mono ?_
                    rintro e0 w10 ⟨rfl, hbr, hb10⟩
                    have hlt10 : wr.heap.size < w8.heap.size := by have := hBa.out.size; rw [hwa] at this; simp at this; omega
                    have k410 : w10.cell? ⟨wr.heap.size, 4, none⟩ = some (.int .i64 x4) := (hb10.cell (p := ⟨wr.heap.size, 4, none⟩) hlt10).trans k4
                    have hB10 : Hid (Below w8.heap.size w8 w10) := Lib.hid hb10
                    obtain ⟨g, hg⟩ : ∃ g, g = w8.heap.size := ⟨_, rfl⟩
                    rw [← hg] at hbr ⊢
                    have hG := Lib.hid hg
                    clear hg hb10 k0 k4
                    have hW20 : ∀ w, Calls Try.prog 12 #[.int .i64 x4, .int .i64 20] w fun e w' => e = .returned (.int .i64 (x4 % 20)) ∧ w = w' := fun w => Within_any x4 20 w (by omega) (by omega) (by omega) (by omega)
                    go_upto_if 124 with fail
                    go_cut [124] from 125 to 129 (fun vr wx => Hid (∃ (ph : Int) (tm : Bool) (du : Int), Blk wx g 124 #[.string f, .string e, .int .i64 (1 + p), .int .i64 ph, .bool tm, .int .i64 du] ∧ Below w8.heap.size w8 wx ∧ ∃ w7, w7 = wx))
                    case first =>
                      go_wp2_with (first | (go_at_call 12; refine (hW20 _).mono ?_; rintro e0 w' ⟨rfl, rfl⟩) | (go_at_call 29; refine (Begin_p _ hbr).mono ?_; rintro e0 w11 ⟨rfl, hb11, hg11⟩))
                      · go_meet
                        case rel => exact Lib.hid ⟨1, true, _, hb11, hB10.out.grown hg11 hB10.out.size (fun k hk => by injection hk with hk; rw [← hk, hG.out]; exact Nat.le_refl _), _, rfl⟩
                      · go_meet
                        case rel => exact Lib.hid ⟨0, false, 0, hbr, hB10.out, _, rfl⟩
                    case rest =>
                      obtain ⟨ph, tm, du, hbr2, hB2, w11, hw11⟩ := hcut.out
                      subst hw11
                      clear hcut hbr k410 hW20 hB10
                      have hI11 : ClP w w11 w.heap.size R v (.slice At j ct) := ⟨hI8.out.cr.below hB2, own_keep hI8.out.th hB2, hI8.out.bel.trans (hB2.mono hI8.out.bel.size)⟩
                      have hth11 : w11.ownsRow w.heap.size 68 4 (.slice At j ct) j (thV R) := by have := hI11.th; rw [← HN.out] at this; exact this
                      rcases HAT.out with ⟨hva, hno⟩ | ⟨k, s, hkN, hva, hRk, hh⟩
                      · subst hva
                        have hAdd := Add_new ⟨f, e, 1 + p, g, ph, tm, du⟩ hI11.cr hbr2 (fun k s hs => hno k s (by have := (List.getElem?_eq_some_iff.1 hs).1; have := HN.out; omega) hs) (by have := HR.out; omega) (by rw [hG.out]; exact HB0.out) (fun k s hs e => by
                          have := (hI8.out.cr.runs k s hs).lt
                          rw [e, hG.out] at this
                          exact absurd this (Nat.lt_irrefl _))
                        have HI11 := Lib.hid hI11
                        have HT11 := Lib.hid hth11
                        clear hI11 hth11 hbr2 hno HAT
                        go_wp2_with fail
                        refine hAdd.mono ?_
                        rintro e0 w12 ⟨rfl, v12, hcr12, hbel12, hsz12, hkeep12⟩
                        have hth12 := hkeep12 _ _ _ _ _ (by decide) (by decide) HT11.out
                        have HC12 := Lib.hid (And.intro hcr12 hbel12)
                        have hsz : Hid (w.heap.size ≤ w12.heap.size) := Lib.hid (Nat.le_trans HI11.out.bel.size hsz12)
                        clear hcr12 hbel12 hkeep12 hAdd hsz12
                        go_wp2_with (at_builtin; refine wpList_append_own _ rfl _ _ 64 rfl w.heap.size 68 oi (.agg #[.string ⟨#[]⟩, .string ⟨#[]⟩, .int .i64 0, .pointer none]) 4 48 Try.underlying64 hoi oz0 oz1 oz2 rfl (by decide) _ _ _ rfl (hth12.alloc _) ⟨w12.heap.size, 0, none⟩ 1 1 [.string f, .string e, .int .i64 (1 + p), .pointer (some ⟨g, 0, none⟩)] rfl rfl (cells_new _ _ _) (one_cell4 _ _ _ _) (by have := HR.out; have := HN.out; simp only [maxLen]; omega) (by have := HR.out; have := HN.out; omega) (by have := hsz.out; simp; omega) ?_; intro v13 w13 hown13 hg13 _)
                        go_meet
                        case rel =>
                          have hth' : w13.ownsRow w.heap.size 68 4 v13 (R ++ [(⟨f, e, 1 + p, g, ph, tm, du⟩ : Rp)]).length (thV (R ++ [(⟨f, e, 1 + p, g, ph, tm, du⟩ : Rp)])) := by
                            have e1 : thV (R ++ [(⟨f, e, 1 + p, g, ph, tm, du⟩ : Rp)]) = thV R ++ [.string f, .string e, .int .i64 (1 + p), .pointer (some ⟨g, 0, none⟩)] := by simp [thV]
                            rw [e1, List.length_append, ← HN.out]
                            exact hown13
                          refine Lib.hid ⟨R ++ [⟨f, e, 1 + p, g, ph, tm, du⟩], v12, by have := HR.out; simp; omega, ⟨?_, hth', ?_⟩, _, rfl⟩
                          · exact (HC12.out.1.below ((Below.refl _ _).alloc (Nat.le_refl _) _)).kept8 hg13 (hth12.alloc _) (by decide) (by decide) (by decide)
                          · exact push_below (HI11.out.bel.trans HC12.out.2) hsz.out hth12 _ hg13
                      · subst hva
                        have hAdd := Add_there ⟨f, e, 1 + p, g, ph, tm, du⟩ hRk hh (huniq.out k s hRk hh) hI11.cr hbr2
                        have HI11 := Lib.hid hI11
                        clear hI11 hth11 hbr2 HAT
                        go_wp2_with (go_at_call 27; refine hAdd.mono ?_; rintro e0 w12 ⟨rfl, m12, rfl⟩)
                        go_meet
                        case rel => exact Lib.hid ⟨R, v, by have := HR.out; omega, ⟨HI11.out.cr.drewN _, own_keep HI11.out.th (below_drewN (Below.refl _ _) _), below_drewN HI11.out.bel _⟩, _, rfl⟩
                  · -- one less, or a question
                    rcases HAT.out with ⟨hva, hno⟩ | ⟨k, s, hkN, hva, hRk, hh⟩
                    · subst hva
                      have hu : ∀ (k : Nat) (r : Rp), R[k]? = some r → hit f e r = false := fun k s hs => hno k s (by have := (List.getElem?_eq_some_iff.1 hs).1; have := HN.out; omega) hs
                      have hDrop := Drop_no hu hI8.out.cr
                      have hFind := fun m => Find_no hu (hI8.out.cr.drewN m)
                      have hExact := fun m => Exact_no (1 + p) hu (hI8.out.cr.drewN m)
                      clear hu hno HAT
                      have hd : d = 3 ∨ 4 ≤ d := by omega
                      rcases hd with rfl | hd
                      · go_wp2_with (go_at_call 34; refine hDrop.mono ?_; rintro e0 w12 ⟨rfl, m12, rfl⟩)
                        go_meet
                        case rel => exact Lib.hid ⟨R, v, by have := HR.out; omega, ⟨hI8.out.cr.drewN _, own_keep hI8.out.th (below_drewN (Below.refl _ _) _), below_drewN hI8.out.bel _⟩, _, rfl⟩
                      · have e3 : (d == 3) = false := by simp; omega
                        go_wp2_with (first | (go_at_call 33; refine (hFind 0).mono ?_; rintro e0 w12 ⟨rfl, m12, rfl⟩) | (go_at_call 28; refine (hExact _).mono ?_; rintro e0 w13 ⟨rfl, m13, rfl⟩))
                        go_meet
                        case rel => exact Lib.hid ⟨R, v, by have := HR.out; omega, ⟨hI8.out.cr.drewN _, own_keep hI8.out.th (below_drewN (Below.refl _ _) _), below_drewN hI8.out.bel _⟩, _, rfl⟩
                    · subst hva
                      have hDrop := Drop_yes hRk hh (huniq.out k s hRk hh) hI8.out.cr
                      have hFind := fun m => Find_yes hRk hh (huniq.out k s hRk hh) (hI8.out.cr.drewN m)
                      have hExact := fun m => Exact_yes (1 + p) hRk hh (huniq.out k s hRk hh) (hI8.out.cr.drewN m)
                      obtain ⟨u, hAt⟩ := own_some (by have := hI8.out.th; rw [← HN.out] at this; exact this) (by omega : 0 < j)
                      subst hAt
                      have hth8 : w8.ownsRow w.heap.size 68 4 (.slice (some ⟨u, 0, none⟩) j ct) j (thV R) := by have := hI8.out.th; rw [← HN.out] at this; exact this
                      obtain ⟨g1, g2, g3, g4⟩ := thV_get R k s hRk
                      have q2 : w8.cell? ⟨u, k * 4 + 2, none⟩ = some (.int .i64 s.n) := (hth8.cellAt (k * 4 + 2) (by omega)).trans g3
                      have q3 : w8.cell? ⟨u, k * 4 + 3, none⟩ = some (.pointer (some ⟨s.g, 0, none⟩)) := (hth8.cellAt (k * 4 + 3) (by omega)).trans g4
                      have HT8 := Lib.hid hth8
                      clear hth8 g1 g2 g3 g4 HAT
                      have hd : d = 3 ∨ 4 ≤ d := by omega
                      rcases hd with rfl | hd
                      · clear hFind hExact q2 q3
                        go_wp2_with (go_at_call 34; refine hDrop.mono ?_; rintro e0 w12 ⟨rfl, v12, hcr12, hbel12, hsz12, hkeep12⟩)
                        have hth12 := hkeep12 _ _ _ _ _ (by decide) (by decide) HT8.out
                        have HC12 := Lib.hid (And.intro hcr12 hbel12)
                        have hsz : Hid (w.heap.size ≤ w12.heap.size) := Lib.hid (Nat.le_trans hI8.out.bel.size hsz12)
                        have hr1 : Hid (Reads w12 w12.heap.size 4 (some ⟨u, 0, none⟩) k ((thV R).take (k * 4))) := Lib.hid ((Reads.of_own hth12).takeZ (by omega))
                        have hr2 : Hid (Reads w12 w12.heap.size 4 (if ct = k + 1 then some ⟨u, 0, none⟩ else some ⟨u, (k + 1) * 4, none⟩) (j - (k + 1)) ((thV R).drop ((k + 1) * 4))) := Lib.hid (by
                          have h := (Reads.of_own hth12).cut (k := k + 1) (cap := ct) (by omega) hct
                          rw [Option.map_some, add_zero_off] at h
                          exact h)
                        clear hcr12 hbel12 hkeep12 hDrop hsz12
                        have z1 : IntKind.i64.wrap ((k : Int) + 1) = (k : Int) + 1 := IntWalk.i64_in _ (by have := HR.out; have := HN.out; omega)
                        have z2 : (0 : Int) ≤ (k : Int) + 1 := by omega
                        have z3 : ((k : Int) + 1).toNat = k + 1 := by omega
                        have z4 : (0 : Int) ≤ (k : Int) := by omega
                        have z5 : (k : Int) ≤ (ct : Int) := by omega
                        have z6 : (k : Int) + 1 ≤ (j : Int) := by omega
                        have z7 : (k : Int) + 1 ≤ (ct : Int) := by omega
                        go_region_law (first | (refine step_append_any _ rfl (.const (.slice none 0 0)) (.tmp 160) 64 rfl w.heap.size 68 oi (.agg #[.string ⟨#[]⟩, .string ⟨#[]⟩, .int .i64 0, .pointer none]) 4 48 Try.underlying64 hoi oz0 oz1 oz2 rfl (by decide) (.slice none 0 0) 0 [] (by simp [Act.eval]) ⟨by simp, .inl ⟨rfl, rfl⟩⟩ w12.heap.size (some ⟨u, 0, none⟩) k ct ((thV R).take (k * 4)) (by first | (simp [Act.eval]; done) | (simp [Act.eval, Act.put]; done)) hr1.out.drew (fun x hx => thV_one R x (List.mem_of_mem_take hx)) (by have := HR.out; have := HN.out; simp only [maxLen]; omega) (by have := HR.out; have := HN.out; omega) (by have := hsz.out; simpa using this) ?_; intro v13 w13 hown13 hg13 _) | (refine step_append_any _ rfl (.tmp 161) (.tmp 165) 64 rfl w.heap.size 68 oi (.agg #[.string ⟨#[]⟩, .string ⟨#[]⟩, .int .i64 0, .pointer none]) 4 48 Try.underlying64 hoi oz0 oz1 oz2 rfl (by decide) v13 (0 + k) ([] ++ (thV R).take (k * 4)) (by first | (simp [Act.eval]; done) | (simp [Act.eval, Act.put]; done)) hown13 w12.heap.size (if ct = k + 1 then some ⟨u, 0, none⟩ else some ⟨u, (k + 1) * 4, none⟩) (j - (k + 1)) (ct - (k + 1)) ((thV R).drop ((k + 1) * 4)) (by first | (simp [Act.eval]; done) | (simp [Act.eval, Act.put]; done)) (hr2.out.drew.grown hg13 (Nat.le_refl _) (fun q hq => by cases hq)) (fun x hx => thV_one R x (List.mem_of_mem_drop hx)) (by have := HR.out; have := HN.out; simp only [maxLen]; omega) (by have := HR.out; have := HN.out; omega) (by have h1 := hsz.out; have h2 := hg13.size; simp at h2; omega) ?_; intro v14 w14 hown14 hg14 _))
                        all_goals go_wp2_with fail
                        all_goals
                          go_meet
                          case rel =>
                            have hk' : k < R.length := (List.getElem?_eq_some_iff.1 hRk).1
                            have e1 : thV (R.eraseIdx k) = [] ++ (thV R).take (k * 4) ++ (thV R).drop ((k + 1) * 4) := by rw [List.eraseIdx_eq_take_drop_succ, thV_append, thV_take, thV_drop, List.nil_append]
                            have hth' : w14.ownsRow w.heap.size 68 4 v14 (R.eraseIdx k).length (thV (R.eraseIdx k)) := by
                              rw [e1, List.length_eraseIdx_of_lt hk', ← HN.out, show j - 1 = 0 + k + (j - (k + 1)) by omega]
                              exact hown14
                            have hB13 : Below w12.heap.size w12 w13 := ⟨hg13.os, hg13.tape, hg13.output, hg13.size, fun q hq => hg13.block q hq (by simp [Value.ownBlock])⟩
                            refine Lib.hid ⟨R.eraseIdx k, v12, by rw [List.length_eraseIdx_of_lt hk']; have := HR.out; omega, ⟨?_, hth', ?_⟩, _, rfl⟩
                            · exact (HC12.out.1.below hB13).kept8 hg14 hown13 (by decide) (by decide) (by decide)
                            · exact ((hI8.out.bel.trans HC12.out.2).trans (hB13.mono hsz.out)).grown hg14 (by have h1 := hsz.out; have h2 := hB13.size; omega) (fun q hq => (hown13.lt q hq).1)
                      · have e3 : (d == 3) = false := by simp; omega
                        clear hDrop
                        have hneq := ptr_same s.g
                        by_cases hsn : s.n = 1 + p
                        · rw [if_pos hsn] at hExact
                          have es : (s.n == 1 + p) = true := by simpa using hsn
                          have HS := Lib.hid hsn
                          clear hsn
                          go_wp2_with (first | (go_at_call 33; refine (hFind 0).mono ?_; rintro e0 w12 ⟨rfl, m12, rfl⟩) | (go_at_call 28; refine (hExact _).mono ?_; rintro e0 w13 ⟨rfl, m13, rfl⟩))
                          go_meet
                          case rel => exact Lib.hid ⟨R, v, by have := HR.out; omega, ⟨hI8.out.cr.drewN _, own_keep hI8.out.th (below_drewN (Below.refl _ _) _), below_drewN hI8.out.bel _⟩, _, rfl⟩
                        · rw [if_neg hsn] at hExact
                          have es : (s.n == 1 + p) = false := by simpa using hsn
                          have HS := Lib.hid hsn
                          clear hsn
                          go_wp2_with (first | (go_at_call 33; refine (hFind 0).mono ?_; rintro e0 w12 ⟨rfl, m12, rfl⟩) | (go_at_call 28; refine (hExact _).mono ?_; rintro e0 w13 ⟨rfl, m13, rfl⟩))
                          go_meet
                          case rel => exact Lib.hid ⟨R, v, by have := HR.out; omega, ⟨hI8.out.cr.drewN _, own_keep hI8.out.th (below_drewN (Below.refl _ _) _), below_drewN hI8.out.bel _⟩, _, rfl⟩
              case rest =>
                obtain ⟨R', v', hR', hI', w7, hw7⟩ := hcut.out
                clear hcut
                subst hw7
                clear hI8 hBa HAT k0 k4 HN HR hW0 hwa hct hRl hnc HA
                have hAll := All_p hI'.cr
                obtain ⟨A5, c5, rfl, hc5, -⟩ := own_slice hI'.th
                have hl24 := hI'.cr.len
                have HI' := Lib.hid hI'
                clear hI'
                obtain ⟨M, hM⟩ : ∃ M, M = R'.length := ⟨_, rfl⟩
                rw [← hM] at hAll hR' hc5 hl24 ⊢
                have HM := Lib.hid hM
                clear hM
                go_wp2_with fail
                refine hAll.mono ?_
                rintro e w10 ⟨v10, rfl, ho10, hb10⟩
                obtain ⟨A10, c10, rfl, hc10, -⟩ := own_slice ho10
                have HO := Lib.hid (And.intro ho10 (And.intro hb10 (own_keep HI'.out.th hb10)))
                clear ho10 hb10 hAll
                go_wp2_with fail
                go_loopw [176] (fun vi wr => Hid (∃ j m : Nat, vi = .int .i64 j ∧ j ≤ M ∧ wr = w10.drewN m)) (fun vi _ => M - (intOf vi).toNat)
                case atStart => exact Lib.hid ⟨0, 0, rfl, by omega, rfl⟩
                case round =>
                  obtain ⟨j, m, rfl, hj, rfl⟩ := hrel.out
                  clear hrel
                  by_cases hlt : (j : Int) < M
                  · have hM8 := HM.out
                    obtain ⟨r, hr⟩ : ∃ r, R'[j]? = some r := ⟨R'[j]'(by omega), List.getElem?_eq_getElem _⟩
                    obtain ⟨u5, rfl⟩ := own_some HO.out.2.2 (by omega)
                    obtain ⟨u10, rfl⟩ := own_some HO.out.1 (by omega)
                    have key : ((⟨u10, 0, none⟩ : Addr).add j) = ⟨u10, j, none⟩ := by unfold Addr.add; split <;> simp_all
                    have d5 := HO.out.1.cells rfl j (.pointer (some ⟨r.g, 0, none⟩)) (by rw [List.getElem?_map, hr]; rfl)
                    rw [key] at d5
                    have d5 : (w10.drewN m).cell? ⟨u10, j, none⟩ = some (.pointer (some ⟨r.g, 0, none⟩)) := d5
                    have d3 : (w10.drewN m).cell? ⟨u5, j * 4 + 3, none⟩ = some (.pointer (some ⟨r.g, 0, none⟩)) := (HO.out.2.2.cellAt (j * 4 + 3) (by omega)).trans (thV_get R' j r hr).2.2.2
                    have hneq := ptr_same r.g
                    generalize r.g = rg at *
                    clear hM8 key hr
                    generalize hwd : w10.drewN m = wd at d5 d3 ⊢
                    have HWD := Lib.hid hwd
                    clear hwd
                    go_wp2_with fail
                    have z0 : (0 : Int) ≤ (j : Int) := by omega
                    have z1 : decide ((j : Int) < (M : Int)) = true := by simpa using hlt
                    have z2 : j < M := by omega
                    go_quiet (fail)
                    go_wp2_with fail
                    refine ⟨?_, by simp [intOf]; omega⟩
                    exact Lib.hid ⟨j + 1, _, by simp, by omega, by rw [← HWD.out, World.drewN_drewN]⟩
                  · go_wp2_with fail
                    refine ⟨?_, by simp [intOf]; omega⟩
                    refine Lib.hid ⟨R', v', i + 1, by simp, by omega, by rw [← HM.out]; omega, ?_⟩
                    have e1 := HI'.out
                    rw [← HM.out] at e1
                    exact ⟨(e1.cr.below HO.out.2.1).drewN _, own_keep (own_keep e1.th HO.out.2.1) (below_drewN (Below.refl _ _) _), below_drewN (e1.bel.trans (HO.out.2.1.mono e1.bel.size)) _⟩
      · as_aux_lemma =>
          skip
          obtain ⟨At, ct, rfl, hct, -⟩ := own_slice HI.out.th
          have hRl := HR.out
          obtain ⟨N, hN⟩ : ∃ N, N = R.length := ⟨_, rfl⟩
          rw [← hN] at hRl hct ⊢
          have HN := Lib.hid hN
          clear hN HA hnc hcm
          have hLate := CLate_p now HI.out.cr
          go_wp2_with (go_at_call 12; refine (hNow _).mono ?_; rintro e w' ⟨rfl, rfl⟩)
          refine hLate.mono ?_
          rintro e w2 ⟨v2, rfl, ho2, hb2⟩
          obtain ⟨A2, c2, rfl, hc2, -⟩ := own_slice ho2
          obtain ⟨K, hK⟩ : ∃ K, K = (lateP now R).length := ⟨_, rfl⟩
          rw [← hK] at hc2 ho2 ⊢
          have HK := Lib.hid hK
          have HO := Lib.hid (And.intro ho2 (And.intro hb2 (own_keep HI.out.th hb2)))
          have HC := Lib.hid (HI.out.cr.below hb2)
          have HE := Lib.hid (HI.out.bel.trans (hb2.mono HI.out.bel.size))
          clear hK ho2 hb2 hLate HI hNow
          go_wp2_with fail
          go_loopw [22, 197] (fun vk vi wx => Hid (∃ j kk : Nat, vi = .int .i64 j ∧ j ≤ N ∧ vk = .int .i64 kk ∧ kk = (lateP now (R.take j)).length ∧ Below w2.heap.size w2 wx ∧ ∃ w7, w7 = wx)) (fun _ vi _ => N - (intOf vi).toNat)
          case atStart => exact Lib.hid ⟨0, 0, rfl, by omega, rfl, by simp [lateP], Below.refl _ _, _, rfl⟩
          case round =>
            obtain ⟨j, kk, rfl, hj, rfl, hkk, hbx, wx, hwx⟩ := hrel.out
            clear hrel
            subst hwx
            have HX := Lib.hid hbx
            have HKK := Lib.hid hkk
            clear hbx hkk
            by_cases hlt : (j : Int) < N
            · have hN8 := HN.out
              obtain ⟨r, hr⟩ : ∃ r, R[j]? = some r := ⟨R[j]'(by omega), List.getElem?_eq_getElem _⟩
              obtain ⟨u5, rfl⟩ := own_some HO.out.2.2 (by omega)
              have ho8 := own_keep HO.out.2.2 HX.out
              obtain ⟨g1, g2, g3, g4⟩ := thV_get R j r hr
              have d0 := (ho8.cellAt (j * 4) (by omega)).trans g1
              have d1 := (ho8.cellAt (j * 4 + 1) (by omega)).trans g2
              have d2 := (ho8.cellAt (j * 4 + 2) (by omega)).trans g3
              have d3 := (ho8.cellAt (j * 4 + 3) (by omega)).trans g4
              have hlate := late_step now R j r hr
              have hat := late_at now R j r hr
              rw [← HKK.out] at hlate hat
              rw [← HK.out] at hat
              have HLS := Lib.hid hlate
              have HLA := Lib.hid hat
              have hrun : ∀ o, Calls Try.prog 37 #[.pointer (some ⟨r.g, 0, none⟩), .int .i64 now] (wx.alloc o) fun e w' => e = .returned (.bool (r.tm && decide (r.du ≤ now))) ∧ wx.alloc o = w' := fun o => RLate_p now (((HC.out.below HX.out).below ((Below.refl _ _).alloc (Nat.le_refl _) o)).runs j r hr)
              have hkn : kk ≤ 24 := by have h1 := HKK.out; have h2 := late_le now R j; have h3 := HN.out; have h4 := HR.out; omega
              clear hN8 ho8 g1 g2 g3 g4 hlate hat
              obtain ⟨rf, re, rn, rg, rp, rt, rd⟩ := r
              simp only at d0 d1 d2 d3 hrun HLS HLA
              have hneq := ptr_same rg
              cases hb : (rt && decide (rd ≤ now)) with
              | false =>
                rw [hb] at hrun HLS
                clear hneq HLA
                go_wp2_with (go_at_call 37; refine (hrun _).mono ?_; rintro e w' ⟨rfl, rfl⟩)
                refine ⟨?_, by simp [intOf]; omega⟩
                exact Lib.hid ⟨j + 1, kk, by simp, by omega, rfl, by rw [HLS.out]; simp, HX.out.alloc HX.out.size _, _, rfl⟩
              | true =>
                rw [hb] at hrun HLS HLA
                have hlt2 := (HLA.out rfl).1
                obtain ⟨u10, rfl⟩ := own_some HO.out.1 (by omega)
                have key : ((⟨u10, 0, none⟩ : Addr).add kk) = ⟨u10, kk, none⟩ := by unfold Addr.add; split <;> simp_all
                have d5 := (own_keep HO.out.1 HX.out).cells rfl kk (.pointer (some ⟨rg, 0, none⟩)) (by rw [List.getElem?_map, (HLA.out rfl).2]; rfl)
                rw [key] at d5
                clear key
                have HT2 := Lib.hid hlt2
                clear hlt2 HLA
                go_upto_region 62 with (go_at_call 37; refine (hrun _).mono ?_; rintro e w' ⟨rfl, rfl⟩)
                obtain ⟨wz, hwz⟩ : ∃ wz, wz = (wx.alloc (Obj.cells #[Value.string rf, Value.string re, Value.int IntKind.i64 rn, Value.pointer (some ⟨rg, 0, none⟩)] 68)) := ⟨_, rfl⟩
                rw [← hwz]
                have hbz := Blk.new wx 68 #[Value.string rf, Value.string re, Value.int IntKind.i64 rn, Value.pointer (some ⟨rg, 0, none⟩)]
                rw [← hwz] at hbz
                have q3 : wz.cell? ⟨wx.heap.size, 3, none⟩ = some (.pointer (some ⟨rg, 0, none⟩)) := hbz.cell 3
                have q5 : wz.cell? ⟨u10, kk, none⟩ = some (.pointer (some ⟨rg, 0, none⟩)) := by
                  rw [hwz]
                  exact (World.cell?_alloc_lt wx _ ⟨u10, kk, none⟩ (Nat.lt_of_lt_of_le (HO.out.1.lt u10 rfl).2 HX.out.size)).trans d5
                have hBz : Hid (Below w2.heap.size w2 wz) := Lib.hid (by rw [hwz]; exact HX.out.alloc HX.out.size _)
                have HWZ := Lib.hid hwz
                clear hwz hbz d0 d1 d2 d3 d5 hrun
                have z0 : (0 : Int) ≤ (kk : Int) := by omega
                have z1 : decide ((K : Int) ≤ (kk : Int)) = false := by have := HT2.out; simp; omega
                have z2 : kk < K := HT2.out
                have z3 : decide (K ≤ kk) = false := by have := HT2.out; simp; omega
                go_quiet (fail)
                go_wp2_with fail
                refine ⟨?_, by simp [intOf]; omega⟩
                exact Lib.hid ⟨j + 1, kk + 1, by simp, by omega, by simp, by rw [HLS.out]; simp, by first | exact hBz.out | exact below_drewN hBz.out _, _, rfl⟩
            · have hjN : j = N := by omega
              subst hjN
              have hend : kk = K := by rw [HKK.out, HK.out, HN.out, List.take_length]
              subst hend
              clear HN
              go_wp2_with (first | (go_at_call 35; refine (wkk _).mono ?_; rintro e w9 ⟨rfl, hb9⟩))
              go_ret
              exact ⟨rfl, (HE.out.trans (HX.out.mono HE.out.size)).trans (hb9.mono (Nat.le_trans HE.out.size HX.out.size))⟩
    · as_aux_lemma =>
        skip
        obtain ⟨At, ct, rfl, hct, -⟩ := own_slice HI.out.th
        have hRl := HR.out
        obtain ⟨N, hN⟩ : ∃ N, N = R.length := ⟨_, rfl⟩
        rw [← hN] at hRl hct ⊢
        have HN := Lib.hid hN
        clear hN HA hnc hcm
        have hLate := CLate_p now HI.out.cr
        go_wp2_with (go_at_call 12; refine (hNow _).mono ?_; rintro e w' ⟨rfl, rfl⟩)
        refine hLate.mono ?_
        rintro e w2 ⟨v2, rfl, ho2, hb2⟩
        obtain ⟨A2, c2, rfl, hc2, -⟩ := own_slice ho2
        obtain ⟨K, hK⟩ : ∃ K, K = (lateP now R).length := ⟨_, rfl⟩
        rw [← hK] at hc2 ho2 ⊢
        have HK := Lib.hid hK
        have HO := Lib.hid (And.intro ho2 (And.intro hb2 (own_keep HI.out.th hb2)))
        have HC := Lib.hid (HI.out.cr.below hb2)
        have HE := Lib.hid (HI.out.bel.trans (hb2.mono HI.out.bel.size))
        clear hK ho2 hb2 hLate HI hNow
        go_wp2_with fail
        go_loopw [22, 197] (fun vk vi wx => Hid (∃ j kk : Nat, vi = .int .i64 j ∧ j ≤ N ∧ vk = .int .i64 kk ∧ kk = (lateP now (R.take j)).length ∧ Below w2.heap.size w2 wx ∧ ∃ w7, w7 = wx)) (fun _ vi _ => N - (intOf vi).toNat)
        case atStart => exact Lib.hid ⟨0, 0, rfl, by omega, rfl, by simp [lateP], Below.refl _ _, _, rfl⟩
        case round =>
          obtain ⟨j, kk, rfl, hj, rfl, hkk, hbx, wx, hwx⟩ := hrel.out
          clear hrel
          subst hwx
          have HX := Lib.hid hbx
          have HKK := Lib.hid hkk
          clear hbx hkk
          by_cases hlt : (j : Int) < N
          · have hN8 := HN.out
            obtain ⟨r, hr⟩ : ∃ r, R[j]? = some r := ⟨R[j]'(by omega), List.getElem?_eq_getElem _⟩
            obtain ⟨u5, rfl⟩ := own_some HO.out.2.2 (by omega)
            have ho8 := own_keep HO.out.2.2 HX.out
            obtain ⟨g1, g2, g3, g4⟩ := thV_get R j r hr
            have d0 := (ho8.cellAt (j * 4) (by omega)).trans g1
            have d1 := (ho8.cellAt (j * 4 + 1) (by omega)).trans g2
            have d2 := (ho8.cellAt (j * 4 + 2) (by omega)).trans g3
            have d3 := (ho8.cellAt (j * 4 + 3) (by omega)).trans g4
            have hlate := late_step now R j r hr
            have hat := late_at now R j r hr
            rw [← HKK.out] at hlate hat
            rw [← HK.out] at hat
            have HLS := Lib.hid hlate
            have HLA := Lib.hid hat
            have hrun : ∀ o, Calls Try.prog 37 #[.pointer (some ⟨r.g, 0, none⟩), .int .i64 now] (wx.alloc o) fun e w' => e = .returned (.bool (r.tm && decide (r.du ≤ now))) ∧ wx.alloc o = w' := fun o => RLate_p now (((HC.out.below HX.out).below ((Below.refl _ _).alloc (Nat.le_refl _) o)).runs j r hr)
            have hkn : kk ≤ 24 := by have h1 := HKK.out; have h2 := late_le now R j; have h3 := HN.out; have h4 := HR.out; omega
            clear hN8 ho8 g1 g2 g3 g4 hlate hat
            obtain ⟨rf, re, rn, rg, rp, rt, rd⟩ := r
            simp only at d0 d1 d2 d3 hrun HLS HLA
            have hneq := ptr_same rg
            cases hb : (rt && decide (rd ≤ now)) with
            | false =>
              rw [hb] at hrun HLS
              clear hneq HLA
              go_wp2_with (go_at_call 37; refine (hrun _).mono ?_; rintro e w' ⟨rfl, rfl⟩)
              refine ⟨?_, by simp [intOf]; omega⟩
              exact Lib.hid ⟨j + 1, kk, by simp, by omega, rfl, by rw [HLS.out]; simp, HX.out.alloc HX.out.size _, _, rfl⟩
            | true =>
              rw [hb] at hrun HLS HLA
              have hlt2 := (HLA.out rfl).1
              obtain ⟨u10, rfl⟩ := own_some HO.out.1 (by omega)
              have key : ((⟨u10, 0, none⟩ : Addr).add kk) = ⟨u10, kk, none⟩ := by unfold Addr.add; split <;> simp_all
              have d5 := (own_keep HO.out.1 HX.out).cells rfl kk (.pointer (some ⟨rg, 0, none⟩)) (by rw [List.getElem?_map, (HLA.out rfl).2]; rfl)
              rw [key] at d5
              clear key
              have HT2 := Lib.hid hlt2
              clear hlt2 HLA
              go_upto_region 62 with (go_at_call 37; refine (hrun _).mono ?_; rintro e w' ⟨rfl, rfl⟩)
              obtain ⟨wz, hwz⟩ : ∃ wz, wz = (wx.alloc (Obj.cells #[Value.string rf, Value.string re, Value.int IntKind.i64 rn, Value.pointer (some ⟨rg, 0, none⟩)] 68)) := ⟨_, rfl⟩
              rw [← hwz]
              have hbz := Blk.new wx 68 #[Value.string rf, Value.string re, Value.int IntKind.i64 rn, Value.pointer (some ⟨rg, 0, none⟩)]
              rw [← hwz] at hbz
              have q3 : wz.cell? ⟨wx.heap.size, 3, none⟩ = some (.pointer (some ⟨rg, 0, none⟩)) := hbz.cell 3
              have q5 : wz.cell? ⟨u10, kk, none⟩ = some (.pointer (some ⟨rg, 0, none⟩)) := by
                rw [hwz]
                exact (World.cell?_alloc_lt wx _ ⟨u10, kk, none⟩ (Nat.lt_of_lt_of_le (HO.out.1.lt u10 rfl).2 HX.out.size)).trans d5
              have hBz : Hid (Below w2.heap.size w2 wz) := Lib.hid (by rw [hwz]; exact HX.out.alloc HX.out.size _)
              have HWZ := Lib.hid hwz
              clear hwz hbz d0 d1 d2 d3 d5 hrun
              have z0 : (0 : Int) ≤ (kk : Int) := by omega
              have z1 : decide ((K : Int) ≤ (kk : Int)) = false := by have := HT2.out; simp; omega
              have z2 : kk < K := HT2.out
              have z3 : decide (K ≤ kk) = false := by have := HT2.out; simp; omega
              go_quiet (fail)
              go_wp2_with fail
              refine ⟨?_, by simp [intOf]; omega⟩
              exact Lib.hid ⟨j + 1, kk + 1, by simp, by omega, by simp, by rw [HLS.out]; simp, by first | exact hBz.out | exact below_drewN hBz.out _, _, rfl⟩
          · have hjN : j = N := by omega
            subst hjN
            have hend : kk = K := by rw [HKK.out, HK.out, HN.out, List.take_length]
            subst hend
            clear HN
            go_wp2_with (first | (go_at_call 35; refine (wkk _).mono ?_; rintro e w9 ⟨rfl, hb9⟩))
            go_ret
            exact ⟨rfl, (HE.out.trans (HX.out.mono HE.out.size)).trans (hb9.mono (Nat.le_trans HE.out.size HX.out.size))⟩
  
end Go.Proofs.Ytacmmkpcnpnjoaa.crewPlays
