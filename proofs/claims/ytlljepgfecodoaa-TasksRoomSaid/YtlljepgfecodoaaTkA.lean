/- Rows of tasks: what is kept of them. -/
import Derived.Test.YtlljepgfecodoaaCrewM
import Derived.Test.YtlljepgfecodoaaFloat2
import Derived.Test.YtlljepgfecodoaaWithin
import Derived.Deep.CutRange
import Derived.Deep.RegionHeld3
import Derived.Deep.DeepCutAuto
import Derived.Deep.CutBlock
import Derived.Lib.Builder
namespace Go.Proofs.Ytlljepgfecodoaa.Tk
open Go Go.RowKit Go.Proofs.Ytlljepgfecodoaa Go.Proofs.Ytlljepgfecodoaa.Crw Go.ChangeShapes Go.WideShapes Go.ChangeAt
set_option linter.unusedVariables false
set_option maxRecDepth 100000
/-- A row: its task's name, its run, its need (two whole numbers). -/
structure Tr where
  t : ByteArray
  n : Int
  p : Nat
  q : Nat
abbrev cz (p q : Nat) : Value := .complex .f64 (fw p) (fw q)
abbrev rw5 (x : Tr) : List Value := [.string ⟨#[102]⟩, .string x.t, .string ⟨#[120]⟩, .int .i64 x.n, cz x.p x.q]
abbrev rwV (L : List Tr) : List Value := L.flatMap rw5
theorem rwV_len (L : List Tr) : (rwV L).length = L.length * 5 := by
  induction L with
  | nil => rfl
  | cons x L ih => simp only [rwV, List.flatMap_cons, List.length_append, List.length_cons, List.length_nil] at ih ⊢; omega
theorem rwV_get (L : List Tr) (k : Nat) (x : Tr) (h : L[k]? = some x) (j : Nat) (hj : j < 5) : (rwV L)[k * 5 + j]? = (rw5 x)[j]? := by
  induction L generalizing k with
  | nil => simp at h
  | cons y L ih =>
    rcases k with _ | k
    · simp at h
      subst h
      rw [Nat.zero_mul, Nat.zero_add]
      show (rw5 y ++ rwV L)[j]? = _
      rw [List.getElem?_append_left (by show j < 5; exact hj)]
    · show (rw5 y ++ rwV L)[(k + 1) * 5 + j]? = _
      rw [List.getElem?_append_right (by show 5 ≤ _; omega)]
      have : (k + 1) * 5 + j - (rw5 y).length = k * 5 + j := by show (k + 1) * 5 + j - 5 = _; omega
      rw [this]
      exact ih k (by simpa using h)
theorem filter_take {L : List Tr} {k : Nat} {x : Tr} (h : L[k]? = some x) (q : Tr → Bool) : (L.take (k + 1)).filter q = (L.take k).filter q ++ (if q x then [x] else []) := by
  rw [List.take_add_one, h, List.filter_append]
  congr 1
  cases hq : q x <;> simp [hq]
theorem own_down {w : World} {b0 b1 n z : Nat} {e : TypeId} {v : Value} {xs : List Value} (h : w.ownsRow b0 e z v n xs) (hb : b1 ≤ b0) : w.ownsRow b1 e z v n xs := by
  refine ⟨h.1, ?_⟩
  rcases h.2 with h1 | ⟨g, cap, cur, h1, h2, h3⟩
  · exact .inl h1
  · exact .inr ⟨g, cap, cur, h1, Nat.le_trans hb h2, h3⟩
theorem reads_newN (W : World) (xs : List Value) (t : TypeId) {n s : Nat} (hs : xs.length = n * s) : Reads (W.alloc (.cells xs.toArray t)) (W.alloc (.cells xs.toArray t)).heap.size s (some ⟨W.heap.size, 0, none⟩) n xs := by
  refine ⟨hs, fun _ => ⟨_, rfl, by simp, fun j u hu => ?_⟩⟩
  have h := (Blk.new W t xs.toArray).cell j
  have e : ((⟨W.heap.size, 0, none⟩ : Addr).add j) = ⟨W.heap.size, j, none⟩ := by
    unfold Addr.add; split <;> simp_all
  rw [e, h]
  simpa using hu
theorem row_info : (Try.prog.info? 49).map (fun i => (i.zero, i.size, i.bytes)) = some (some (.agg #[.string ⟨#[]⟩, .string ⟨#[]⟩, .string ⟨#[]⟩, .int .i64 0, .complex .f64 0 0]), 5, 72) := by kernel_rfl
attribute [local go_sem] run_store_complex
set_option maxHeartbeats 8000000 in
theorem filter_any (A : Option Addr) (n c B : Nat) (L : List Tr) (q : Tr → Bool) (cap : Value) (w : World) (hB : B ≤ w.heap.size) (hr : w.ownsRow B 49 5 (.slice A n c) n (rwV L)) (hn : n ≤ 100)
    (hk : ∀ (wa : World) (x : Tr), Below w.heap.size w wa → x ∈ L → Calls Try.prog 19 #[.agg (rw5 x).toArray, cap] wa fun e w' => e = .returned (.bool (q x)) ∧ Below wa.heap.size wa w') :
    Calls Try.prog 18 #[.slice A n c, .func (.func 19) #[] #[cap]] w fun e w' => ∃ v, e = .returned v ∧ w'.ownsRow w.heap.size 49 5 v (L.filter q).length (rwV (L.filter q)) ∧ Below w.heap.size w w' := by
  have hl : L.length = n := by have := hr.1; rw [rwV_len] at this; omega
  have HL := Lib.hid hl
  have HR := Lib.hid hr
  have HK := Lib.hid hk
  clear hk hr hl
  go_enter Try.func18, Try.ntmps18
  go_wp2_with fail
  go_loopw [5, 10] (fun v5 v10 wx => Hid (∃ (k : Nat), v10 = .int .i64 k ∧ k ≤ n ∧ wx.ownsRow w.heap.size 49 5 v5 ((L.take k).filter q).length (rwV ((L.take k).filter q)) ∧ Below w.heap.size w wx ∧ ∃ w7, w7 = wx)) (fun _ v10 _ => n - (intOf v10).toNat)
  case atStart => exact Lib.hid ⟨0, rfl, by omega, ⟨by simp, .inl ⟨rfl, rfl⟩⟩, Below.refl _ _, _, rfl⟩
  case round =>
    obtain ⟨k, rfl, hk, ho, hb, w7, hw7⟩ := hrel.out
    subst hw7
    clear hrel
    have hO := Lib.hid ho
    have HB7 := Lib.hid hb
    obtain ⟨Ao, co, rfl, hco, -⟩ := own_slice ho
    have hr7 := own_keep HR.out hb
    clear ho hb
    by_cases hlt : (k : Int) < n
    · obtain ⟨x, hx⟩ : ∃ x, L[k]? = some x := ⟨L[k]'(by have := HL.out; omega), List.getElem?_eq_getElem _⟩
      obtain ⟨u, rfl⟩ := own_some hr7 (by omega)
      have cc : ∀ j, j < 5 → w7.cell? ⟨u, k * 5 + j, none⟩ = (rw5 x)[j]? := fun j hj => (hr7.cellAt (k * 5 + j) (by omega)).trans (rwV_get L k x hx j hj)
      have q0 : w7.cell? ⟨u, k * 5, none⟩ = some (.string ⟨#[102]⟩) := cc 0 (by omega)
      have q1 : w7.cell? ⟨u, k * 5 + 1, none⟩ = some (.string x.t) := cc 1 (by omega)
      have q2 : w7.cell? ⟨u, k * 5 + 2, none⟩ = some (.string ⟨#[120]⟩) := cc 2 (by omega)
      have q3 : w7.cell? ⟨u, k * 5 + 3, none⟩ = some (.int .i64 x.n) := cc 3 (by omega)
      have q4 : w7.cell? ⟨u, k * 5 + 4, none⟩ = some (.complex .f64 (fw x.p) (fw x.q)) := cc 4 (by omega)
      have hk0 : (0 : Int) ≤ (k : Int) := by omega
      have hmem : x ∈ L := List.mem_of_getElem? hx
      have HX := Lib.hid hx
      clear cc hr7 hx
      go_upto_region 5 with fail
      obtain ⟨g, hg⟩ : ∃ g, g = w7.heap.size := ⟨_, rfl⟩
      obtain ⟨w8, hw8⟩ : ∃ w8, w8 = w7.alloc (.cells #[.string ⟨#[102]⟩, .string x.t, .string ⟨#[120]⟩, .int .i64 x.n, .complex .f64 (fw x.p) (fw x.q)] 49) := ⟨_, rfl⟩
      rw [← hw8, ← hg]
      have hbx : Blk w8 g 49 #[.string ⟨#[102]⟩, .string x.t, .string ⟨#[120]⟩, .int .i64 x.n, .complex .f64 (fw x.p) (fw x.q)] := by rw [hw8, hg]; exact Blk.new _ _ _
      have hb8 : Below w7.heap.size w7 w8 := by rw [hw8]; exact (Below.refl _ _).alloc (Nat.le_refl _) _
      have hB8 := HB7.out.trans (hb8.mono HB7.out.size)
      have hC := HK.out w8 x hB8 hmem
      have b0 := hbx.cell 0
      have b1 := hbx.cell 1
      have b2 := hbx.cell 2
      have b3 := hbx.cell 3
      have b4 := hbx.cell 4
      have HBX := Lib.hid hbx
      have HB8 := Lib.hid (And.intro hb8 hB8)
      clear hw8 hg hbx hb8 hB8 q0 q1 q2 q3 q4
      go_wp2_with fail
      refine hC.mono ?_
      rintro e w9 ⟨rfl, hb9⟩
      have hB9 := HB8.out.2.trans (hb9.mono HB8.out.2.size)
      have ho9 := own_keep (own_keep hO.out HB8.out.1) hb9
      have hx9 := HBX.out.below hb9 HBX.out.lt
      have c0 := hx9.cell 0
      have c1 := hx9.cell 1
      have c2 := hx9.cell 2
      have c3 := hx9.cell 3
      have c4 := hx9.cell 4
      have hft := filter_take HX.out q
      have HO9 := Lib.hid ho9
      have HB9 := Lib.hid hB9
      have HF := Lib.hid hft
      clear hC b0 b1 b2 b3 b4 hb9 ho9 hB9 hx9 hft
      cases hq : q x with
      | false =>
        go_wp2_with fail
        refine ⟨?_, by simp [intOf]; omega⟩
        refine Lib.hid ⟨k + 1, by simp, by omega, ?_, HB9.out, _, rfl⟩
        rw [HF.out, hq]
        simpa using HO9.out
      | true =>
        obtain ⟨i0, hi, hz0, hz1, hz2⟩ := info_parts row_info
        have hm : ((L.take k).filter q).length ≤ 100 := Nat.le_trans (List.length_filter_le _ _) (by rw [List.length_take]; omega)
        obtain ⟨m, em⟩ : ∃ m, m = ((L.take k).filter q).length := ⟨_, rfl⟩
        rw [← em] at hm
        have ho9 : w9.ownsRow w.heap.size 49 5 (.slice Ao m co) m (rwV ((L.take k).filter q)) := by rw [em]; exact HO9.out
        have HO := Lib.hid ho9
        have HM := Lib.hid em
        rw [← em]
        clear ho9 em
        go_wp2_with (at_builtin; refine wpList_append_any _ rfl _ _ 32 rfl w.heap.size 49 i0 (.agg #[.string ⟨#[]⟩, .string ⟨#[]⟩, .string ⟨#[]⟩, .int .i64 0, .complex .f64 0 0]) 5 72 Try.underlying32 hi hz0 hz1 hz2 rfl (by decide) _ m (rwV ((L.take k).filter q)) rfl (HO.out.alloc _) _ (some ⟨w9.heap.size, 0, none⟩) 1 1 (rw5 x) rfl (reads_newN w9 (rw5 x) 49 rfl) (by simp [Value.oneCell']) (by simp only [maxLen]; omega) (by omega) (by have := HB9.out.size; simp; omega) ?_; intro v4 w4 hown4 hg4 hn4; obtain ⟨A4, c4', rfl, -, -⟩ := own_slice hown4)
        have hpb := push_below HB9.out HB9.out.size HO.out _ hg4
        refine ⟨?_, by simp [intOf]; omega⟩
        refine Lib.hid ⟨k + 1, by simp, by omega, ?_, hpb, _, rfl⟩
        rw [HF.out, hq, if_pos rfl]
        have e1 : rwV ((L.take k).filter q ++ [x]) = rwV ((L.take k).filter q) ++ rw5 x := by simp [rwV]
        rw [e1, List.length_append, ← HM.out]
        exact hown4
    · go_wp2_with fail
      go_ret
      have e : L.take k = L := List.take_of_length_le (by have := HL.out; omega)
      have ho := hO.out
      rw [e] at ho
      have hv : ((L.take k).filter q).length = (L.filter q).length := by rw [e]
      exact ⟨_, rfl, by rw [hv]; exact ho, HB7.out⟩
/-- Which rows are open: those of a run, whose state is not over. -/
def overB (s : Int) : Bool := decide (3 ≤ s ∧ s ≤ 7)
theorem Over_any (s : Int) (w : World) : Calls Try.prog 20 #[.int .i64 s] w fun e w' => e = .returned (.bool (overB s)) ∧ w = w' := by
  unfold overB
  by_cases h1 : 3 ≤ s
  all_goals by_cases h2 : s ≤ 7
  all_goals
    go_enter Try.func20, Try.ntmps20
    go_wp2
    go_ret
    exact ⟨by simp [*], rfl⟩
end Go.Proofs.Ytlljepgfecodoaa.Tk
