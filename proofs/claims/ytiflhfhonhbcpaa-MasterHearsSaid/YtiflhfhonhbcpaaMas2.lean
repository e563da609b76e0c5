/- The master's State and Heard. -/
import Derived.Test.YtiflhfhonhbcpaaMas
namespace Go.Proofs.Ytiflhfhonhbcpaa.Mas
open Go Go.RowKit Go.Proofs.Ytiflhfhonhbcpaa Go.Proofs.Ytiflhfhonhbcpaa.Crw Go.ChangeShapes Go.WideShapes Go.ChangeAt
set_option linter.unusedVariables false
set_option maxRecDepth 100000
section
variable {w w' : World} {B m mb : Nat} {V : Nat → Prop} {R : List Tk}
theorem own_down {b0 b1 n z : Nat} {e : TypeId} {v : Value} {xs : List Value} (h : w.ownsRow b0 e z v n xs) (hb : b1 ≤ b0) : w.ownsRow b1 e z v n xs := by
  refine ⟨h.1, ?_⟩
  rcases h.2 with h1 | ⟨g, cap, cur, h1, h2, h3⟩
  · exact .inl h1
  · exact .inr ⟨g, cap, cur, h1, Nat.le_trans hb h2, h3⟩
theorem zero_ptr : zeroP Try.prog 104 = some (.pointer none) := by kernel_rfl
theorem key_fit (f t : ByteArray) : keyFit Try.prog 46 (tkK f t) = true := by kernel_rfl
theorem look_yes (h : MsP w B m mb V R) {j : Nat} {x : Tk} (hj : R[j]? = some x) {f t : ByteArray} (hs : same f t x = true) :
    (Instr.lookup 99 (.map (some mb)) (tkK f t) true).run Try.prog w = .ok (.tuple #[.pointer (some ⟨x.g, 0, none⟩), .bool true]) w := by
  letI : Toks := ⟨fun _ => 0⟩
  obtain ⟨rfl, rfl⟩ := same_eq hs
  have := h.mp.look_yes (P := Try.prog) (j := j) (v := .pointer (some ⟨x.g, 0, none⟩)) (k := tkK x.f x.t) Try.underlying99 h.kv (by rw [List.getElem?_map, hj]; rfl) (by rw [beq_key]; simp) (fun i p hi hp => by
    rw [List.getElem?_map] at hp
    cases hy : R[i]? with
    | none => rw [hy] at hp; cases hp
    | some y =>
      rw [hy] at hp
      injection hp with hp
      subst hp
      rw [same_beq]
      cases hh : same x.f x.t y with
      | false => rfl
      | true => exact absurd (h.uniq i j y x hy hj hh) (by omega)) true
  simpa using this
theorem look_no (h : MsP w B m mb V R) {f t : ByteArray} (hs : ∀ (k : Nat) (x : Tk), R[k]? = some x → same f t x = false) :
    (Instr.lookup 99 (.map (some mb)) (tkK f t) true).run Try.prog w = .ok (.tuple #[.pointer none, .bool false]) w := by
  letI : Toks := ⟨fun _ => 0⟩
  have := h.mp.look_no (P := Try.prog) (k := tkK f t) Try.underlying99 h.kv (key_fit f t) (fun p hp => by
    obtain ⟨y, hy, rfl⟩ := List.mem_map.1 hp
    obtain ⟨k, hk⟩ := List.getElem?_of_mem hy
    rw [same_beq]
    exact hs k y hk) zero_ptr true
  simpa using this
set_option maxHeartbeats 4000000 in
theorem State_yes (h : MsP w B m mb V R) {j : Nat} {x : Tk} (hj : R[j]? = some x) {f t : ByteArray} (hs : same f t x = true) :
    Calls Try.prog 20 #[.pointer (some ⟨m, 0, none⟩), .agg #[.string f, .string t]] w fun e w' => e = .returned (.int .i64 x.st) ∧ Below w.heap.size w w' := by
  obtain ⟨W, hW⟩ : ∃ W, W = w.alloc (.cells #[.string f, .string t] 46) := ⟨_, rfl⟩
  have hb : Below w.heap.size w W := by rw [hW]; exact (Below.refl _ _).alloc (Nat.le_refl _) _
  have hM := h.below hb
  have hk := Blk.new w 46 #[.string f, .string t]
  rw [← hW] at hk
  have q0 : W.cell? ⟨w.heap.size, 0, none⟩ = some (.string f) := hk.cell 0
  have q1 : W.cell? ⟨w.heap.size, 1, none⟩ = some (.string t) := hk.cell 1
  have qm : W.cell? ⟨m, 0, none⟩ = some (.map (some mb)) := hM.blk.cell 0
  have qx : W.cell? ⟨x.g, 0, none⟩ = some (.int .i64 x.st) := (hM.tks j x hj).cell 0
  have hlk := fun n => look_yes (hM.drewN n) hj hs
  have HW := Lib.hid hW
  have HB := Lib.hid hb
  clear hM hk hW hb h hj hs
  go_enter Try.func20, Try.ntmps20
  go_wp2_with fail
  rw [← HW.out]
  go_quiet (fail)
  go_wp2_with fail
  go_ret
  exact ⟨rfl, below_drewN HB.out _⟩
set_option maxHeartbeats 4000000 in
theorem State_no (h : MsP w B m mb V R) {f t : ByteArray} (hs : ∀ (k : Nat) (x : Tk), R[k]? = some x → same f t x = false) :
    Calls Try.prog 20 #[.pointer (some ⟨m, 0, none⟩), .agg #[.string f, .string t]] w fun e w' => e = .returned (.int .i64 0) ∧ Below w.heap.size w w' := by
  obtain ⟨W, hW⟩ : ∃ W, W = w.alloc (.cells #[.string f, .string t] 46) := ⟨_, rfl⟩
  have hb : Below w.heap.size w W := by rw [hW]; exact (Below.refl _ _).alloc (Nat.le_refl _) _
  have hM := h.below hb
  have hk := Blk.new w 46 #[.string f, .string t]
  rw [← hW] at hk
  have q0 : W.cell? ⟨w.heap.size, 0, none⟩ = some (.string f) := hk.cell 0
  have q1 : W.cell? ⟨w.heap.size, 1, none⟩ = some (.string t) := hk.cell 1
  have qm : W.cell? ⟨m, 0, none⟩ = some (.map (some mb)) := hM.blk.cell 0
  have hlk := fun n => look_no (hM.drewN n) hs
  have HW := Lib.hid hW
  have HB := Lib.hid hb
  clear hM hk hW hb h hs
  go_enter Try.func20, Try.ntmps20
  go_wp2_with fail
  rw [← HW.out]
  go_quiet (fail)
  go_wp2_with fail
  go_ret
  exact ⟨rfl, below_drewN HB.out _⟩
theorem int_infoM : (Try.prog.info? 3).map (fun i => (i.zero, i.size, i.bytes)) = some (some (.int .i64 0), 1, 8) := by kernel_rfl
theorem ints_one (l : List Int) : ∀ u ∈ ints l, u.oneCell' = true := by
  intro u hu
  obtain ⟨x, _, rfl⟩ := List.mem_map.1 hu
  rfl
set_option maxHeartbeats 4000000 in
theorem CloneI {B c : Nat} {A : Option Addr} {l : List Int} (w : World) (h : w.ownsRow B 3 1 (.slice A l.length c) l.length (ints l)) (hl : l.length ≤ 1000) :
    Calls Try.prog 52 #[.slice A l.length c] w fun e w' => ∃ v', e = .returned v' ∧ w'.ownsRow w.heap.size 3 1 v' l.length (ints l) ∧ Below w.heap.size w w' := by
  obtain ⟨i0, hi, hz0, hz1, hz2⟩ := info_parts int_infoM
  have hR := Reads.of_own h
  cases A with
  | none =>
    have hl0 : l.length = 0 := by
      rcases Nat.eq_zero_or_pos l.length with e | e
      · exact e
      · obtain ⟨ad, h, _⟩ := hR.2 e; cases h
    have heq : ∀ w1, (binOp .eql 22 (.slice none l.length c) (.slice none 0 0)).run Try.prog w1 = .ok (.bool true) w1 := fun w1 => Lib.run_eql_slice_nil w1 22 3 none l.length c 0 0 Try.underlying22
    have hv := h.1
    rw [hl0] at *
    go_enter Try.func52, Try.ntmps52
    go_wp2
    go_ret
    exact ⟨_, rfl, ⟨hv, .inl ⟨rfl, rfl⟩⟩, Below.refl _ _⟩
  | some ad =>
    have heq : ∀ w1, (binOp .eql 22 (.slice (some ad) l.length c) (.slice none 0 0)).run Try.prog w1 = .ok (.bool false) w1 := fun w1 => Lib.run_eql_slice_nil w1 22 3 (some ad) l.length c 0 0 Try.underlying22
    have HR := Lib.hid hR
    have HV := Lib.hid (ints_one l)
    clear h hR
    go_enter Try.func52, Try.ntmps52
    go_wp2_with (first | (at_builtin; go_must (refine wpList_append_any _ rfl _ _ 22 rfl w.heap.size 3 i0 (.int .i64 0) 1 8 Try.underlying22 hi hz0 hz1 hz2 rfl (by decide) _ 0 [] rfl ⟨by simp, .inr ⟨w.heap.size, 0, #[], rfl, Nat.le_refl _, heap_alloc_new w _, Nat.le_refl _, by decide, rfl, rfl⟩⟩ w.heap.size (some ad) l.length c (ints l) rfl (HR.out.alloc (Nat.le_refl _) _) HV.out (by simp only [maxLen]; omega) (by omega) (by simp) ?_); intro v1 w1 hown1 hg1 _hne; clear _hne; rw [Nat.zero_add, List.nil_append] at hown1))
    go_ret
    exact ⟨v1, rfl, hown1, ((Below.refl w.heap.size w).alloc (Nat.le_refl _) _).grown hg1 (by simp) (fun k hk => by injection hk with hk; subst hk; exact Nat.le_refl _)⟩
set_option maxHeartbeats 4000000 in
theorem Heard_yes (h : MsP w B m mb V R) {j : Nat} {x : Tk} (hj : R[j]? = some x) {f t : ByteArray} (hs : same f t x = true) (hl : x.ns.length ≤ 1000) :
    Calls Try.prog 22 #[.pointer (some ⟨m, 0, none⟩), .agg #[.string f, .string t]] w fun e w' => ∃ v', e = .returned v' ∧ w'.ownsRow w.heap.size 3 1 v' x.ns.length (ints x.ns) ∧ Below w.heap.size w w' := by
  obtain ⟨W, hW⟩ : ∃ W, W = w.alloc (.cells #[.string f, .string t] 46) := ⟨_, rfl⟩
  have hb : Below w.heap.size w W := by rw [hW]; exact (Below.refl _ _).alloc (Nat.le_refl _) _
  have hM := h.below hb
  have hk := Blk.new w 46 #[.string f, .string t]
  rw [← hW] at hk
  have q0 : W.cell? ⟨w.heap.size, 0, none⟩ = some (.string f) := hk.cell 0
  have q1 : W.cell? ⟨w.heap.size, 1, none⟩ = some (.string t) := hk.cell 1
  have qm : W.cell? ⟨m, 0, none⟩ = some (.map (some mb)) := hM.blk.cell 0
  obtain ⟨A, c, hv, hc, -⟩ := own_slice (hM.rows j x hj)
  have qx : W.cell? ⟨x.g, 1, none⟩ = some (.slice A x.ns.length c) := by rw [← hv]; exact (hM.tks j x hj).cell 1
  have hro := hM.rows j x hj
  rw [hv] at hro
  have hC := fun n => CloneI (W.drewN n) hro hl
  have hlk := fun n => look_yes (hM.drewN n) hj hs
  have HW := Lib.hid hW
  have HB := Lib.hid hb
  clear hM hk hW hb h hj hs hro hl hc hv
  go_enter Try.func22, Try.ntmps22
  go_wp2_with fail
  rw [← HW.out]
  go_quiet (fail)
  go_wp2_with (go_at_call 52; refine (hC _).mono ?_; rintro e w5 ⟨v5, rfl, ho5, hb5⟩)
  go_ret
  exact ⟨_, rfl, own_down ho5 HB.out.size, (below_drewN HB.out _).trans (hb5.mono HB.out.size)⟩
set_option maxHeartbeats 4000000 in
theorem Heard_no (h : MsP w B m mb V R) {f t : ByteArray} (hs : ∀ (k : Nat) (x : Tk), R[k]? = some x → same f t x = false) :
    Calls Try.prog 22 #[.pointer (some ⟨m, 0, none⟩), .agg #[.string f, .string t]] w fun e w' => e = .returned (.slice none 0 0) ∧ Below w.heap.size w w' := by
  obtain ⟨W, hW⟩ : ∃ W, W = w.alloc (.cells #[.string f, .string t] 46) := ⟨_, rfl⟩
  have hb : Below w.heap.size w W := by rw [hW]; exact (Below.refl _ _).alloc (Nat.le_refl _) _
  have hM := h.below hb
  have hk := Blk.new w 46 #[.string f, .string t]
  rw [← hW] at hk
  have q0 : W.cell? ⟨w.heap.size, 0, none⟩ = some (.string f) := hk.cell 0
  have q1 : W.cell? ⟨w.heap.size, 1, none⟩ = some (.string t) := hk.cell 1
  have qm : W.cell? ⟨m, 0, none⟩ = some (.map (some mb)) := hM.blk.cell 0
  have hlk := fun n => look_no (hM.drewN n) hs
  have HW := Lib.hid hW
  have HB := Lib.hid hb
  clear hM hk hW hb h hs
  go_enter Try.func22, Try.ntmps22
  go_wp2_with fail
  rw [← HW.out]
  go_quiet (fail)
  go_wp2_with fail
  go_ret
  exact ⟨rfl, below_drewN HB.out _⟩
end
end Go.Proofs.Ytiflhfhonhbcpaa.Mas
