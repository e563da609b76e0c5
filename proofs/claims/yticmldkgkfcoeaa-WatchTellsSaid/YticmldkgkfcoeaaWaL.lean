/- Launches: the program's map. -/
import Derived.Test.YticmldkgkfcoeaaWaK
namespace Go.Proofs.Yticmldkgkfcoeaa.Wa
open Go Go.RowKit Go.Proofs.Yticmldkgkfcoeaa Go.Proofs.Yticmldkgkfcoeaa.Crw Go.ChangeShapes Go.WideShapes Go.ChangeAt
set_option linter.unusedVariables false
set_option maxRecDepth 100000
attribute [local go_sem] run_store_complex
/-- What a launch looks like. -/
structure LaX (w : World) (x : Sd) : Prop where
  shape : x.kd = 14 → x.F = ⟨#[102]⟩ ∧ x.E = ⟨#[120]⟩ ∧ x.T = ⟨#[]⟩ ∧ x.st = 0 ∧ x.nu = 0 ∧ x.ep = 0 ∧ x.A = some ⟨x.ig, 0, none⟩ ∧ x.ni = 1 ∧ x.ci = 1
  blk : x.kd = 14 → Blk w x.ig 43 (itC x.it)
theorem LaX.below {w w' : World} {x : Sd} (h : LaX w x) (hb : Below w.heap.size w w') : LaX w' x := ⟨h.shape, fun hk => (h.blk hk).below hb (h.blk hk).lt⟩
/-- May both be said? -/
def lk (x y : Sd) : Bool := !(x.kd == 14 && y.kd == 14 && x.it.toList == y.it.toList) || x.nn == y.nn
def okL (L : List Sd) : Bool := L.all fun x => L.all fun y => lk x y
theorem blk_map {w w' : World} {g b : Nat} {ty : TypeId} {cs : Array Value} {kvs : List (Value × Value)} (h : Blk w g ty cs) (hg : w.grownBy w' (some b)) (hm : MapAt w b kvs) : Blk w' g ty cs := blk_grown h hg (fun e => by
  injection e with e
  subst e
  obtain ⟨es, ck, h1, _⟩ := hm
  have h2 : w.heap[b]? = some (.cells cs ty) := h
  rw [h1] at h2
  cases h2)
theorem LaX.grown {w w' : World} {x : Sd} {b : Nat} {kvs : List (Value × Value)} (h : LaX w x) (hg : w.grownBy w' (some b)) (hm : MapAt w b kvs) : LaX w' x := ⟨h.shape, fun hk => blk_map (h.blk hk) hg hm⟩
theorem okL_fail {L : List Sd} {x y : Sd} (hx : x ∈ L) (hy : y ∈ L) (h : lk x y = false) : okL L = false := by
  unfold okL
  rw [List.all_eq_false]
  refine ⟨x, hx, ?_⟩
  intro h2
  rw [List.all_eq_true] at h2
  rw [h2 y hy] at h
  cases h
abbrev laE (x : Sd) : Value × Value := (enK ⟨#[102]⟩ x.it, .agg (laC x.nn x.ig))
structure LaP (w : World) (B b : Nat) (E : List Sd) : Prop where
  mp : MapAt w b (E.map laE)
  ge : B ≤ b
  uniq : ∀ (j k : Nat) (x y : Sd), E[j]? = some x → E[k]? = some y → y.it = x.it → j = k
section
variable {w w' : World} {B b : Nat} {E : List Sd}
theorem LaP.below (h : LaP w B b E) (hb : Below w.heap.size w w') : LaP w' B b E := ⟨h.mp.keep (hb.block _ h.mp.lt), h.ge, h.uniq⟩
theorem kv_la [Toks] (n : Int) (g : Nat) : VR1 idR (.agg (laC n g)) (.agg (laC n g)) := by
  refine ⟨_, rfl, ?_⟩
  refine .cons ⟨rfl, rfl⟩ (.cons ⟨rfl, rfl⟩ (.cons ⟨rfl, rfl⟩ (.cons ⟨rfl, rfl⟩ (.cons ⟨rfl, rfl⟩ (.cons ⟨rfl, rfl⟩ (.cons ⟨rfl, rfl⟩ (.cons ⟨rfl, rfl⟩ (.cons ?_ .nil))))))))
  exact ⟨Nat.le_refl _, ⟨g, 0, 0⟩, 0, 1, rfl, rfl, Nat.le_refl _, fun _ => rfl, fun _ => rfl, fun h => absurd rfl h⟩
theorem LaP.kv [Toks] (h : LaP w B b E) : Kv Try.prog 30 (E.map laE) := by
  intro p hp
  obtain ⟨x, hx, rfl⟩ := List.mem_map.1 hp
  exact ⟨key_fit _ _, kv_la _ _⟩
theorem zero_msg : zeroP Try.prog 40 = some (.agg #[.int .i64 0, .string ⟨#[]⟩, .string ⟨#[]⟩, .string ⟨#[]⟩, .int .i64 0, .int .i64 0, .int .i64 0, .int .i64 0, .slice none 0 0]) := by kernel_rfl
theorem laE_fst {x : Sd} (h : LaP w B b E) {j : Nat} (hj : E[j]? = some x) : ∀ (m : Nat) (p : Value × Value), m < j → (E.map laE)[m]? = some p → beq1 (enK ⟨#[102]⟩ x.it) p.1 = false := fun i p hi hp => by
  rw [List.getElem?_map] at hp
  cases hy : E[i]? with
  | none => rw [hy] at hp; cases hp
  | some y =>
    rw [hy] at hp
    injection hp with hp
    subst hp
    cases hh : beq1 (enK ⟨#[102]⟩ x.it) (enK ⟨#[102]⟩ y.it) with
    | false => rfl
    | true => exact absurd (h.uniq j i x y hj hy (beqK_eq hh).2.symm) (by omega)
theorem laE_no {t : ByteArray} (hs : ∀ (k : Nat) (x : Sd), E[k]? = some x → ¬ x.it = t) : ∀ p ∈ E.map laE, beq1 (enK ⟨#[102]⟩ t) p.1 = false := fun p hp => by
  obtain ⟨y, hy, rfl⟩ := List.mem_map.1 hp
  obtain ⟨k, hk⟩ := List.getElem?_of_mem hy
  cases hh : beq1 (enK ⟨#[102]⟩ t) (enK ⟨#[102]⟩ y.it) with
  | false => rfl
  | true => exact absurd (beqK_eq hh).2.symm (hs k y hk)
theorem LaP.look_yes (h : LaP w B b E) {j : Nat} {x : Sd} (hj : E[j]? = some x) :
    (Instr.lookup 51 (.map (some b)) (enK ⟨#[102]⟩ x.it) true).run Try.prog w = .ok (.tuple #[.agg (laC x.nn x.ig), .bool true]) w := by
  letI : Toks := ⟨fun _ => 0⟩
  have := h.mp.look_yes (P := Try.prog) (j := j) (v := .agg (laC x.nn x.ig)) (k := enK ⟨#[102]⟩ x.it) Try.underlying51 h.kv (by rw [List.getElem?_map, hj]; rfl) (beqK_self _ _) (laE_fst h hj) true
  simpa using this
theorem LaP.look_no (h : LaP w B b E) {t : ByteArray} (hs : ∀ (k : Nat) (x : Sd), E[k]? = some x → ¬ x.it = t) :
    (Instr.lookup 51 (.map (some b)) (enK ⟨#[102]⟩ t) true).run Try.prog w = .ok (.tuple #[.agg #[.int .i64 0, .string ⟨#[]⟩, .string ⟨#[]⟩, .string ⟨#[]⟩, .int .i64 0, .int .i64 0, .int .i64 0, .int .i64 0, .slice none 0 0], .bool false]) w := by
  letI : Toks := ⟨fun _ => 0⟩
  have := h.mp.look_no (P := Try.prog) (k := enK ⟨#[102]⟩ t) Try.underlying51 h.kv (key_fit _ t) (laE_no hs) zero_msg true
  simpa using this
theorem LaP.put_yes (h : LaP w B b E) {j : Nat} {e x : Sd} (hj : E[j]? = some e) (hx : e.it = x.it) :
    ∃ w2, (Instr.mapUpdate 51 (.map (some b)) (enK ⟨#[102]⟩ x.it) (.agg (laC x.nn x.ig))).run Try.prog w = .ok () w2 ∧ LaP w2 B b (E.set j x) ∧ w.grownBy w2 (some b) := by
  letI : Toks := ⟨fun _ => 0⟩
  obtain ⟨w2, h1, h2, h3⟩ := h.mp.put_yes (P := Try.prog) (j := j) (u := .agg (laC e.nn e.ig)) (k := enK ⟨#[102]⟩ e.it) Try.underlying51 h.kv (by rw [List.getElem?_map, hj]; rfl) (beqK_self _ _) (laE_fst h hj) (.agg (laC x.nn x.ig))
  rw [hx] at h1 h2
  have hjl := (List.getElem?_eq_some_iff.1 hj).1
  have get : ∀ (k : Nat) (y : Sd), (E.set j x)[k]? = some y → (k = j ∧ y = x) ∨ (k ≠ j ∧ E[k]? = some y) := by
    intro k y hy
    by_cases e : j = k
    · subst e
      rw [List.getElem?_set_self hjl] at hy
      exact .inl ⟨rfl, by injection hy with hy; exact hy.symm⟩
    · rw [List.getElem?_set_ne e] at hy
      exact .inr ⟨fun e2 => e e2.symm, hy⟩
  refine ⟨w2, h1, ⟨by rw [List.map_set]; exact h2, h.ge, ?_⟩, h3⟩
  intro i k y z hy hz h5
  rcases get i y hy with ⟨e1, e2⟩ | ⟨hki, hyi⟩
  · rcases get k z hz with ⟨e3, e4⟩ | ⟨hk, hzz⟩
    · rw [e1, e3]
    · subst e2
      rw [e1]
      exact h.uniq j k e z hj hzz (by rw [h5, hx])
  · rcases get k z hz with ⟨e3, e4⟩ | ⟨hk, hz⟩
    · subst e4
      rw [e3]
      exact h.uniq i j y e hyi hj (by rw [hx, h5])
    · exact h.uniq i k y z hyi hz h5
theorem LaP.put_no (h : LaP w B b E) {x : Sd} (hs : ∀ (k : Nat) (e : Sd), E[k]? = some e → ¬ e.it = x.it) :
    ∃ w2, (Instr.mapUpdate 51 (.map (some b)) (enK ⟨#[102]⟩ x.it) (.agg (laC x.nn x.ig))).run Try.prog w = .ok () w2 ∧ LaP w2 B b (E ++ [x]) ∧ w.grownBy w2 (some b) := by
  letI : Toks := ⟨fun _ => 0⟩
  obtain ⟨w2, h1, h2, h3⟩ := h.mp.put_no (P := Try.prog) (k := enK ⟨#[102]⟩ x.it) Try.underlying51 h.kv (key_fit _ _) (laE_no hs) (.agg (laC x.nn x.ig))
  have get : ∀ (k : Nat) (y : Sd), (E ++ [x])[k]? = some y → (k = E.length ∧ y = x) ∨ (E[k]? = some y) := by
    intro k y hy
    rcases Nat.lt_trichotomy k E.length with hl | rfl | hl
    · rw [List.getElem?_append_left hl] at hy
      exact .inr hy
    · rw [List.getElem?_append_right (Nat.le_refl _), Nat.sub_self] at hy
      exact .inl ⟨rfl, by simpa using hy.symm⟩
    · rw [List.getElem?_eq_none (by simp; omega)] at hy
      cases hy
  refine ⟨w2, h1, ⟨by rw [List.map_append]; exact h2, h.ge, ?_⟩, h3⟩
  intro i k y z hy hz h5
  rcases get i y hy with ⟨e1, e2⟩ | hyi
  · rcases get k z hz with ⟨e3, e4⟩ | hzz
    · rw [e1, e3]
    · subst e2
      exact absurd h5 (hs k z hzz)
  · rcases get k z hz with ⟨e3, e4⟩ | hz
    · subst e4
      exact absurd h5.symm (hs i y hyi)
    · exact h.uniq i k y z hyi hz h5
end
/-- What the map holds when k messages were taken. -/
structure InvL (E L : List Sd) (k : Nat) : Prop where
  inn : ∀ (i : Nat) (e : Sd), E[i]? = some e → e.kd = 14 ∧ e ∈ L
  all : ∀ (j : Nat) (x : Sd), j < k → L[j]? = some x → x.kd = 14 → ∃ (i : Nat) (e : Sd), E[i]? = some e ∧ e.it = x.it ∧ e.nn = x.nn
theorem InvL.zero (L : List Sd) : InvL [] L 0 := ⟨fun i e h => by simp at h, fun j x h => by omega⟩
theorem InvL.skip {E L : List Sd} {k : Nat} {x : Sd} (h : InvL E L k) (hx : L[k]? = some x) (hk : ¬ x.kd = 14) : InvL E L (k + 1) := ⟨h.inn, fun j y hj hy hk2 => by
  rcases Nat.lt_or_ge j k with hl | hl
  · exact h.all j y hl hy hk2
  · have : j = k := by omega
    subst this
    rw [hx] at hy
    injection hy with hy
    subst hy
    exact absurd hk2 hk⟩
theorem InvL.set {E L : List Sd} {k j : Nat} {x e : Sd} (h : InvL E L k) (hx : L[k]? = some x) (hk : x.kd = 14) (hj : E[j]? = some e) (hi : e.it = x.it) (hn : e.nn = x.nn) : InvL (E.set j x) L (k + 1) := by
  have hjl := (List.getElem?_eq_some_iff.1 hj).1
  refine ⟨fun i y hy => ?_, fun i y hi2 hy hk2 => ?_⟩
  · by_cases ei : j = i
    · subst ei
      rw [List.getElem?_set_self hjl] at hy
      injection hy with hy
      subst hy
      exact ⟨hk, List.mem_of_getElem? hx⟩
    · rw [List.getElem?_set_ne ei] at hy
      exact h.inn i y hy
  · rcases Nat.lt_or_ge i k with hl | hl
    · obtain ⟨m, e2, h1, h2, h3⟩ := h.all i y hl hy hk2
      by_cases em : j = m
      · subst em
        rw [hj] at h1
        injection h1 with h1
        subst h1
        exact ⟨j, x, List.getElem?_set_self hjl, by rw [← hi, h2], by rw [← hn, h3]⟩
      · exact ⟨m, e2, by rw [List.getElem?_set_ne em]; exact h1, h2, h3⟩
    · have : i = k := by omega
      subst this
      rw [hx] at hy
      injection hy with hy
      subst hy
      exact ⟨j, x, List.getElem?_set_self hjl, rfl, rfl⟩
theorem InvL.push {E L : List Sd} {k : Nat} {x : Sd} (h : InvL E L k) (hx : L[k]? = some x) (hk : x.kd = 14) : InvL (E ++ [x]) L (k + 1) := by
  refine ⟨fun i y hy => ?_, fun i y hi2 hy hk2 => ?_⟩
  · rcases Nat.lt_trichotomy i E.length with hl | rfl | hl
    · rw [List.getElem?_append_left hl] at hy
      exact h.inn i y hy
    · rw [List.getElem?_append_right (Nat.le_refl _), Nat.sub_self] at hy
      have : x = y := by simpa using hy
      subst this
      exact ⟨hk, List.mem_of_getElem? hx⟩
    · rw [List.getElem?_eq_none (by simp; omega)] at hy
      cases hy
  · rcases Nat.lt_or_ge i k with hl | hl
    · obtain ⟨m, e2, h1, h2, h3⟩ := h.all i y hl hy hk2
      exact ⟨m, e2, by rw [List.getElem?_append_left (List.getElem?_eq_some_iff.1 h1).1]; exact h1, h2, h3⟩
    · have : i = k := by omega
      subst this
      rw [hx] at hy
      injection hy with hy
      subst hy
      exact ⟨E.length, x, by rw [List.getElem?_append_right (Nat.le_refl _), Nat.sub_self]; rfl, rfl, rfl⟩
theorem InvL.ends {w : World} {B b : Nat} {E L : List Sd} (h : InvL E L L.length) (hu : LaP w B b E) : okL L = true := by
  unfold okL
  rw [List.all_eq_true]
  intro x hx
  rw [List.all_eq_true]
  intro y hy
  unfold lk
  by_cases h1 : x.kd = 14
  · by_cases h2 : y.kd = 14
    · cases h3 : (x.it.toList == y.it.toList) with
      | false => simp
      | true =>
        obtain ⟨i, hi⟩ := List.getElem?_of_mem hx
        obtain ⟨j, hj⟩ := List.getElem?_of_mem hy
        obtain ⟨a, e, ha, h4, h5⟩ := h.all i x (List.getElem?_eq_some_iff.1 hi).1 hi h1
        obtain ⟨c, d, hc, h6, h7⟩ := h.all j y (List.getElem?_eq_some_iff.1 hj).1 hj h2
        have hac := hu.uniq a c e d ha hc (by rw [h6, h4]; exact (byt_inj h3).symm)
        subst hac
        rw [ha] at hc
        injection hc with hc
        subst hc
        rw [← h5, ← h7]
        simp
    · simp [h2]
  · simp [h1]
set_option maxHeartbeats 16000000 in
theorem Launches_p (v : Value) (n B : Nat) (L : List Sd) (w : World) (hr : w.ownsRow B 45 11 v n (sdV L)) (hn : n ≤ 400) (hX : ∀ (j : Nat) (x : Sd), L[j]? = some x → LaX w x) :
    Calls Try.prog 11 #[v] w fun e w' => e = .returned (.bool (okL L)) ∧ Below w.heap.size w w' := by
  obtain ⟨A, c, rfl, hc, -⟩ := own_slice hr
  have hl : L.length = n := by have := hr.1; rw [sdV_len] at this; omega
  obtain ⟨W, hW⟩ : ∃ W, W = w.alloc (.map #[] 0) := ⟨_, rfl⟩
  have hb : Below w.heap.size w W := by rw [hW]; exact (Below.refl _ _).alloc (Nat.le_refl _) _
  have hs : LaP W w.heap.size w.heap.size [] := by rw [hW]; exact ⟨MapAt.made w, Nat.le_refl _, fun j k x y h => by simp at h⟩
  have HR := Lib.hid hr
  have HB := Lib.hid hb
  have HS0 := Lib.hid hs
  have HW := Lib.hid hW
  have HL := Lib.hid hl
  have HX0 := Lib.hid hX
  have hmk : ∀ w1, (Instr.makeMap 51 none).run Try.prog w1 = .ok (.map (some w1.heap.size)) (w1.alloc (.map #[] 0)) := fun w1 => run_makeMap_plain w1 _
  clear hr hb hs hW hl hX
  go_enter Try.func11, Try.ntmps11
  go_upto_region 2 with fail
  rw [← HW.out]
  clear hmk
  go_wp2_with fail
  go_loopw [15] (fun v12 wx => Hid (∃ (k : Nat) (E : List Sd), v12 = .int .i64 k ∧ k ≤ n ∧ LaP wx w.heap.size w.heap.size E ∧ InvL E L k ∧ Below w.heap.size w wx ∧ ∃ w7, w7 = wx)) (fun v12 _ => n - (intOf v12).toNat)
  case atStart => exact Lib.hid ⟨0, [], rfl, by omega, HS0.out, InvL.zero L, HB.out, _, rfl⟩
  case round =>
    obtain ⟨k, E, rfl, hk, hs, hi, hb, w7, hw7⟩ := hrel.out
    subst hw7
    clear hrel
    have hS := Lib.hid hs
    have HI := Lib.hid hi
    have HB7 := Lib.hid hb
    have hXs := Lib.hid (fun (j : Nat) (y : Sd) (hy : L[j]? = some y) => (HX0.out j y hy).below hb)
    have hr7 := own_keep HR.out hb
    clear hs hi hb
    by_cases hlt : (k : Int) < n
    · obtain ⟨x, hx⟩ : ∃ x, L[k]? = some x := ⟨L[k]'(by have := HL.out; omega), List.getElem?_eq_getElem _⟩
      obtain ⟨u, rfl⟩ := own_some hr7 (by omega)
      have cc : ∀ j, j < 11 → w7.cell? ⟨u, k * 11 + j, none⟩ = (sd11 x)[j]? := fun j hj => (hr7.cellAt (k * 11 + j) (by omega)).trans (sdV_get L k x hx j hj)
      have q0 : w7.cell? ⟨u, k * 11, none⟩ = some (.int .i64 x.kd) := cc 0 (by omega)
      have q1 : w7.cell? ⟨u, k * 11 + 1, none⟩ = some (.string x.F) := cc 1 (by omega)
      have q2 : w7.cell? ⟨u, k * 11 + 2, none⟩ = some (.string x.E) := cc 2 (by omega)
      have q3 : w7.cell? ⟨u, k * 11 + 3, none⟩ = some (.string x.T) := cc 3 (by omega)
      have q4 : w7.cell? ⟨u, k * 11 + 4, none⟩ = some (.int .i64 x.nn) := cc 4 (by omega)
      have q5 : w7.cell? ⟨u, k * 11 + 5, none⟩ = some (.int .i64 x.st) := cc 5 (by omega)
      have q6 : w7.cell? ⟨u, k * 11 + 6, none⟩ = some (.int .i64 x.nu) := cc 6 (by omega)
      have q7 : w7.cell? ⟨u, k * 11 + 7, none⟩ = some (.int .i64 x.ep) := cc 7 (by omega)
      have q8 : w7.cell? ⟨u, k * 11 + 8, none⟩ = some (.slice x.A x.ni x.ci) := cc 8 (by omega)
      have q9 : w7.cell? ⟨u, k * 11 + 9, none⟩ = some (.int .i64 x.me) := cc 9 (by omega)
      have q10 : w7.cell? ⟨u, k * 11 + 10, none⟩ = some (.int .i64 x.at_) := cc 10 (by omega)
      have hk0 : (0 : Int) ≤ (k : Int) := by omega
      have HX := Lib.hid hx
      clear cc hr7 hx
      go_upto_region 5 with fail
      obtain ⟨w6, hw6⟩ : ∃ w6, w6 = w7.alloc (.cells #[.int .i64 x.kd, .string x.F, .string x.E, .string x.T, .int .i64 x.nn, .int .i64 x.st, .int .i64 x.nu, .int .i64 x.ep, .slice x.A x.ni x.ci, .int .i64 x.me, .int .i64 x.at_] 45) := ⟨_, rfl⟩
      obtain ⟨g6, hg6⟩ : ∃ g, g = w7.heap.size := ⟨_, rfl⟩
      rw [← hw6, ← hg6]
      have hbx : Blk w6 g6 45 #[.int .i64 x.kd, .string x.F, .string x.E, .string x.T, .int .i64 x.nn, .int .i64 x.st, .int .i64 x.nu, .int .i64 x.ep, .slice x.A x.ni x.ci, .int .i64 x.me, .int .i64 x.at_] := by rw [hw6, hg6]; exact Blk.new _ _ _
      have hb6 : Below w7.heap.size w7 w6 := by rw [hw6]; exact (Below.refl _ _).alloc (Nat.le_refl _) _
      have b0 := hbx.cell 0
      have b1 := hbx.cell 1
      have b2 := hbx.cell 2
      have b3 := hbx.cell 3
      have b4 := hbx.cell 4
      have b5 := hbx.cell 5
      have b6 := hbx.cell 6
      have b7 := hbx.cell 7
      have b8 := hbx.cell 8
      clear q0 q1 q2 q3 q4 q5 q6 q7 q8 q9 q10 hw6 hg6 hbx
      go_upto_region 6 with fail
      obtain ⟨w8, hw8⟩ : ∃ w8, w8 = w6.alloc (.cells #[.int .i64 x.kd, .string x.F, .string x.E, .string x.T, .int .i64 x.nn, .int .i64 x.st, .int .i64 x.nu, .int .i64 x.ep, .slice x.A x.ni x.ci] 40) := ⟨_, rfl⟩
      obtain ⟨g8, hg8⟩ : ∃ g, g = w6.heap.size := ⟨_, rfl⟩
      rw [← hw8, ← hg8]
      have hbm : Blk w8 g8 40 #[.int .i64 x.kd, .string x.F, .string x.E, .string x.T, .int .i64 x.nn, .int .i64 x.st, .int .i64 x.nu, .int .i64 x.ep, .slice x.A x.ni x.ci] := by rw [hw8, hg8]; exact Blk.new _ _ _
      have hb8 : Below w7.heap.size w7 w8 := by rw [hw8]; exact hb6.alloc (by have := hb6.size; omega) _
      have HB8 := Lib.hid (HB7.out.trans (hb8.mono HB7.out.size))
      have hS8 := hS.out.below hb8
      have hX8 := fun (j : Nat) (y : Sd) (hy : L[j]? = some y) => (hXs.out j y hy).below hb8
      have m0 := hbm.cell 0
      have m1 := hbm.cell 1
      have hM8 := hbm
      clear b0 b1 b2 b3 b4 b5 b6 b7 b8 hw8 hg8 hbm hb6 hb8
      by_cases h1 : x.kd = 14
      · obtain ⟨e1, e2, e3, e4, e5, e6, e7, e8, e9⟩ := (hX8 k x HX.out).shape h1
        have hIb := (hX8 k x HX.out).blk h1
        rw [h1, e1, e2, e3, e4, e5, e6, e7, e8, e9] at hM8
        rw [h1] at m0
        rw [e1] at m1
        have m8 := hM8.cell 8
        have HM8 := Lib.hid hM8
        have HIB := Lib.hid hIb
        have HS8 := Lib.hid hS8
        have HX8 := Lib.hid hX8
        have H14 := Lib.hid h1
        clear e1 e2 e3 e4 e5 e6 e7 e8 e9 hM8 hIb hS8 hX8 h1
        go_wp2_with fail
        clear m0 m1 m8
        go_loopw [27] (fun v27 wx => Hid (∃ (i : Nat) (E' : List Sd), v27 = .int .i64 i ∧ i ≤ 1 ∧ LaP wx w.heap.size w.heap.size E' ∧ (i = 0 → InvL E' L k) ∧ (i = 1 → InvL E' L (k + 1)) ∧ Below w.heap.size w wx ∧ Blk wx g8 40 (laC x.nn x.ig) ∧ (∀ (j : Nat) (y : Sd), L[j]? = some y → LaX wx y) ∧ ∃ w7, w7 = wx)) (fun v27 _ => 1 - (intOf v27).toNat)
        case atStart => exact Lib.hid ⟨0, E, rfl, by omega, HS8.out, fun _ => HI.out, fun h => by omega, HB8.out, HM8.out, HX8.out, _, rfl⟩
        case round =>
          obtain ⟨i, E, rfl, hi, hs, hin, hi1, hb, hm, hx9, w9, hw9⟩ := hrel.out
          subst hw9
          clear hrel
          by_cases hlt2 : (i : Int) < (1 : Nat)
          · obtain rfl : i = 0 := by omega
            have hin := hin rfl
            have hIb := (hx9 k x HX.out).blk H14.out
            have q0 : w9.cell? ⟨x.ig, 0, none⟩ = some (.string x.it) := hIb.cell 0
            have q1 : w9.cell? ⟨x.ig, 1, none⟩ = some one_ := hIb.cell 1
            have HS9 := Lib.hid hs
            have HI9 := Lib.hid hin
            have HB9 := Lib.hid hb
            have HM9 := Lib.hid hm
            have HX9 := Lib.hid hx9
            clear hs hin hi1 hb hm hx9 hIb hlt2 hi
            go_upto_region 10 with fail
            obtain ⟨w10, hw10⟩ : ∃ w6, w6 = w9.alloc (.cells #[.string x.it, one_] 43) := ⟨_, rfl⟩
            obtain ⟨g10, hg10⟩ : ∃ g, g = w9.heap.size := ⟨_, rfl⟩
            rw [← hw10, ← hg10]
            have hbi : Blk w10 g10 43 #[.string x.it, one_] := by rw [hw10, hg10]; exact Blk.new _ _ _
            have hb10 : Below w9.heap.size w9 w10 := by rw [hw10]; exact (Below.refl _ _).alloc (Nat.le_refl _) _
            have i0 : w10.cell? ⟨g10, 0, none⟩ = some (.string x.it) := hbi.cell 0
            have n1 : w10.cell? ⟨g8, 1, none⟩ = some (.string ⟨#[102]⟩) := (HM9.out.below hb10 HM9.out.lt).cell 1
            have HB10 := Lib.hid hb10
            clear q0 q1 hw10 hg10 hbi hb10
            go_upto_region 11 with fail
            obtain ⟨w11, hw11⟩ : ∃ w6, w6 = w10.alloc (.cells #[.string ⟨#[102]⟩, .string x.it] 30) := ⟨_, rfl⟩
            obtain ⟨gk, hgk⟩ : ∃ g, g = w10.heap.size := ⟨_, rfl⟩
            rw [← hw11, ← hgk]
            have hbk : Blk w11 gk 30 #[.string ⟨#[102]⟩, .string x.it] := by rw [hw11, hgk]; exact Blk.new _ _ _
            have hb11 : Below w9.heap.size w9 w11 := by rw [hw11]; exact HB10.out.alloc HB10.out.size _
            have j0 : w11.cell? ⟨gk, 0, none⟩ = some (.string ⟨#[102]⟩) := hbk.cell 0
            have j1 : w11.cell? ⟨gk, 1, none⟩ = some (.string x.it) := hbk.cell 1
            have HK11 := Lib.hid hbk
            have HB11 := Lib.hid hb11
            have HS11 := Lib.hid (HS9.out.below hb11)
            clear i0 n1 hw11 hgk hbk hb11
            by_cases hE : ∃ (j : Nat) (e : Sd), E[j]? = some e ∧ e.it = x.it
            · obtain ⟨j, e, hj, hit⟩ := hE
              have hlk := HS11.out.look_yes hj
              rw [hit] at hlk
              have HJ := Lib.hid hj
              have HIT := Lib.hid hit
              clear hj hit
              go_upto_region 12 with fail
              clear hlk j0 j1
              obtain ⟨w12, hw12⟩ : ∃ w6, w6 = w11.alloc (.cells (laC e.nn e.ig) 40) := ⟨_, rfl⟩
              obtain ⟨gx, hgx⟩ : ∃ g, g = w11.heap.size := ⟨_, rfl⟩
              rw [← hw12, ← hgx]
              have hbx : Blk w12 gx 40 (laC e.nn e.ig) := by rw [hw12, hgx]; exact Blk.new _ _ _
              have hb12 : Below w9.heap.size w9 w12 := by rw [hw12]; exact HB11.out.alloc HB11.out.size _
              have hbo : Below w11.heap.size w11 w12 := by rw [hw12]; exact (Below.refl _ _).alloc (Nat.le_refl _) _
              have hm12 := HM9.out.below hb12 HM9.out.lt
              have hel := HI9.out.inn j e HJ.out
              obtain ⟨je, hje⟩ := List.getElem?_of_mem hel.2
              have hSm := SameP e.nn x.nn e.ig x.ig e.it x.it w12 (((HX9.out je e hje).below hb12).blk hel.1) (((HX9.out k x HX.out).below hb12).blk H14.out)
              have p0 := hbx.cell 0
              have p1 := hbx.cell 1
              have p2 := hbx.cell 2
              have p3 := hbx.cell 3
              have p4 := hbx.cell 4
              have p5 := hbx.cell 5
              have p6 := hbx.cell 6
              have p7 := hbx.cell 7
              have p8 := hbx.cell 8
              have r0 := hm12.cell 0
              have r1 := hm12.cell 1
              have r2 := hm12.cell 2
              have r3 := hm12.cell 3
              have r4 := hm12.cell 4
              have r5 := hm12.cell 5
              have r6 := hm12.cell 6
              have r7 := hm12.cell 7
              have r8 := hm12.cell 8
              have HS12 := Lib.hid (HS9.out.below hb12)
              have HB12 := Lib.hid (HB9.out.trans (hb12.mono HB9.out.size))
              have HBX := Lib.hid hb12
              have HM12 := Lib.hid hm12
              have HK12 := Lib.hid (HK11.out.below hbo HK11.out.lt)
              have HEL := Lib.hid hel
              clear hbx hb12 hbo hm12 hel hje hw12 hgx
              have hii : (e.it.toList == x.it.toList) = true := by rw [HIT.out]; simp
              rw [hii, Bool.and_true] at hSm
              cases hnn : (e.nn == x.nn) with
              | true =>
                rw [hnn] at hSm
                have hne : e.nn = x.nn := by simpa using hnn
                have HNE := Lib.hid hne
                clear hne hnn hii
                go_upto_region 14 with (go_at_call 16; refine hSm.mono ?_; rintro e' w13 ⟨rfl, hb13⟩; clear hSm)
                clear p0 p1 p2 p3 p4 p5 p6 p7 p8 r0 r1 r2 r3 r4 r5 r6 r7 r8
                obtain ⟨w14, hu, hs14, hg14⟩ := (HS12.out.below hb13).put_yes HJ.out HIT.out
                have hk13 := HK12.out.below hb13 HK12.out.lt
                have hm13 := HM12.out.below hb13 HM12.out.lt
                have j0 := hk13.cell 0
                have j1 := hk13.cell 1
                have r0 := hm13.cell 0
                have r1 := hm13.cell 1
                have r2 := hm13.cell 2
                have r3 := hm13.cell 3
                have r4 := hm13.cell 4
                have r5 := hm13.cell 5
                have r6 := hm13.cell 6
                have r7 := hm13.cell 7
                have r8 := hm13.cell 8
                have HB13 := Lib.hid (HB12.out.trans (hb13.mono HB12.out.size))
                have HX13 := Lib.hid (fun (j : Nat) (y : Sd) (hy : L[j]? = some y) => ((HX9.out j y hy).below HBX.out).below hb13)
                have HM13 := Lib.hid hm13
                have HS14 := Lib.hid hs14
                have HG14 := Lib.hid hg14
                have HMP := Lib.hid (HS12.out.below hb13).mp
                have HGE := Lib.hid HS12.out.ge
                clear hk13 hm13 hb13 hs14 hg14
                go_wp2_with fail
                refine ⟨?_, by simp [intOf]⟩
                refine Lib.hid ⟨1, E.set j x, by simp, by omega, HS14.out, fun h => by omega, fun _ => HI9.out.set HX.out H14.out HJ.out HIT.out HNE.out, HB13.out.grown HG14.out HB13.out.size (fun k hk => by injection hk with hk; rw [← hk]; exact HGE.out), blk_map HM13.out HG14.out HMP.out, fun j y hy => (HX13.out j y hy).grown HG14.out HMP.out, _, rfl⟩
              | false =>
                rw [hnn] at hSm
                have hfl : okL L = false := okL_fail HEL.out.2 (List.mem_of_getElem? HX.out) (by unfold lk; rw [HEL.out.1, H14.out, hii, hnn]; rfl)
                have HF := Lib.hid hfl
                clear hfl hnn hii
                go_wp2_with (go_at_call 16; refine hSm.mono ?_; rintro e' w13 ⟨rfl, hb13⟩; clear hSm)
                go_ret
                exact ⟨by rw [HF.out]; rfl, HB12.out.trans (hb13.mono HB12.out.size)⟩
            · have hno : ∀ (j : Nat) (e : Sd), E[j]? = some e → ¬ e.it = x.it := fun j e hj hh => hE ⟨j, e, hj, hh⟩
              have hlk := HS11.out.look_no hno
              have HNO := Lib.hid hno
              clear hno hE
              go_upto_region 14 with fail
              clear hlk j0 j1
              obtain ⟨w12, hw12⟩ : ∃ w6, w6 = w11.alloc (.cells #[.int .i64 0, .string ⟨#[]⟩, .string ⟨#[]⟩, .string ⟨#[]⟩, .int .i64 0, .int .i64 0, .int .i64 0, .int .i64 0, .slice none 0 0] 40) := ⟨_, rfl⟩
              rw [← hw12]
              have hb12 : Below w9.heap.size w9 w12 := by rw [hw12]; exact HB11.out.alloc HB11.out.size _
              have hbo : Below w11.heap.size w11 w12 := by rw [hw12]; exact (Below.refl _ _).alloc (Nat.le_refl _) _
              have hm13 := HM9.out.below hb12 HM9.out.lt
              have hk13 := HK11.out.below hbo HK11.out.lt
              obtain ⟨w14, hu, hs14, hg14⟩ := (HS9.out.below hb12).put_no HNO.out
              have j0 := hk13.cell 0
              have j1 := hk13.cell 1
              have r0 := hm13.cell 0
              have r1 := hm13.cell 1
              have r2 := hm13.cell 2
              have r3 := hm13.cell 3
              have r4 := hm13.cell 4
              have r5 := hm13.cell 5
              have r6 := hm13.cell 6
              have r7 := hm13.cell 7
              have r8 := hm13.cell 8
              have HB13 := Lib.hid (HB9.out.trans (hb12.mono HB9.out.size))
              have HX13 := Lib.hid (fun (j : Nat) (y : Sd) (hy : L[j]? = some y) => (HX9.out j y hy).below hb12)
              have HM13 := Lib.hid hm13
              have HS14 := Lib.hid hs14
              have HG14 := Lib.hid hg14
              have HMP := Lib.hid (HS9.out.below hb12).mp
              have HGE := Lib.hid HS9.out.ge
              clear hk13 hm13 hb12 hbo hs14 hg14 hw12
              go_wp2_with fail
              refine ⟨?_, by simp [intOf]⟩
              refine Lib.hid ⟨1, E ++ [x], by simp, by omega, HS14.out, fun h => by omega, fun _ => HI9.out.push HX.out H14.out, HB13.out.grown HG14.out HB13.out.size (fun k hk => by injection hk with hk; rw [← hk]; exact HGE.out), blk_map HM13.out HG14.out HMP.out, fun j y hy => (HX13.out j y hy).grown HG14.out HMP.out, _, rfl⟩
          · obtain rfl : i = 1 := by omega
            have HS9 := Lib.hid hs
            have HI9 := Lib.hid (hi1 rfl)
            have HB9 := Lib.hid hb
            clear hs hin hi1 hb hm hx9 hi
            go_wp2_with fail
            refine ⟨?_, by simp [intOf]; omega⟩
            exact Lib.hid ⟨k + 1, E, by simp, by omega, HS9.out, HI9.out, HB9.out, _, rfl⟩
      · have h1b : (x.kd == 14) = false := by simpa using h1
        have HS8 := Lib.hid hS8
        clear hS8 hX8 hM8
        go_wp2_with fail
        refine ⟨?_, by simp [intOf]; omega⟩
        exact Lib.hid ⟨k + 1, E, by simp, by omega, HS8.out, HI.out.skip HX.out h1, HB8.out, _, rfl⟩
    · go_wp2_with fail
      go_ret
      have e : k = L.length := by have := HL.out; omega
      have hi := HI.out
      rw [e] at hi
      exact ⟨by rw [hi.ends hS.out]; rfl, HB7.out⟩
end Go.Proofs.Yticmldkgkfcoeaa.Wa
