/- The hands: what they hold, run by run (all runs of framework f, executor x). -/
import Derived.Test.YtiflhfhonhbcpaaMas2
import Derived.Test.YtiflhfhonhbcpaaMas3
namespace Go.Proofs.Ytiflhfhonhbcpaa.Han
open Go Go.RowKit Go.Proofs.Ytiflhfhonhbcpaa Go.Proofs.Ytiflhfhonhbcpaa.Crw Go.Proofs.Ytiflhfhonhbcpaa.Mas Go.ChangeShapes Go.WideShapes Go.ChangeAt
set_option linter.unusedVariables false
set_option maxRecDepth 100000
abbrev rF : ByteArray := ⟨#[102]⟩
abbrev rE : ByteArray := ⟨#[120]⟩
abbrev rk (n : Int) : Value := .agg #[.string rF, .string rE, .int .i64 n]
structure Pr where
  g : Nat
  n : Int
abbrev ptr (p : Pr) : Value := .pointer (some ⟨p.g, 0, none⟩)
abbrev exE (p : Pr) : Value × Value := (rk p.n, ptr p)
abbrev sdE (n : Int) : Value × Value := (rk n, .agg #[])
abbrev prC (n : Int) : Array Value := #[.string rF, .string rE, .int .i64 n, .slice none 0 0]
theorem beq_rk (n n' : Int) : beq1 (rk n) (rk n') = decide (n = n') := by
  show (true && (true && (beq0 (.int .i64 n) (.int .i64 n') && true))) = _
  simp only [Bool.true_and, Bool.and_true]
  rfl
theorem rk_fit (n : Int) : keyFit Try.prog 90 (rk n) = true := by kernel_rfl
/-- The hands. -/
structure HnP (w : World) (B h xb sb kb : Nat) (V : Nat → Prop) (R : List Pr) (S : List Int) (v : Value) : Prop where
  blk : Blk w h 88 #[v, .map (some xb), .map (some sb), .slice none 0 0, .map (some kb)]
  ex : MapAt w xb (R.map exE)
  sd : MapAt w sb (S.map sdE)
  prs : ∀ (k : Nat) (p : Pr), R[k]? = some p → Blk w p.g 98 (prC p.n)
  row : w.ownsRow B 94 1 v R.length (R.map ptr)
  sub : ∀ (k : Nat) (p : Pr), R[k]? = some p → p.n ∈ S
  uniq : ∀ (j k : Nat) (p q : Pr), R[j]? = some p → R[k]? = some q → p.n = q.n → j = k
  apart : ∀ (j k : Nat) (p q : Pr), R[j]? = some p → R[k]? = some q → p.g = q.g → j = k
  ne : xb ≠ sb
  vm : V h ∧ V xb ∧ V sb
  vp : ∀ (k : Nat) (p : Pr), R[k]? = some p → V p.g
  vr : ∀ b, v.ownBlock = some b → V b
  lt : ∀ b, V b → b < w.heap.size
  ge : ∀ b, V b → B ≤ b
section
variable {w w' : World} {B h xb sb kb : Nat} {V U : Nat → Prop} {R : List Pr} {S : List Int} {v : Value}
theorem HnP.below (H : HnP w B h xb sb kb V R S v) (hb : Below w.heap.size w w') : HnP w' B h xb sb kb V R S v :=
  ⟨H.blk.below hb H.blk.lt, H.ex.keep (hb.block _ H.ex.lt), H.sd.keep (hb.block _ H.sd.lt), fun k p hp => (H.prs k p hp).below hb (H.prs k p hp).lt, own_keep H.row hb, H.sub, H.uniq, H.apart, H.ne, H.vm, H.vp, H.vr, fun b e => Nat.lt_of_lt_of_le (H.lt b e) hb.size, H.ge⟩
theorem sd_kv [Toks] : Kv Try.prog 90 (S.map sdE) := by
  intro p hp
  obtain ⟨n, _, rfl⟩ := List.mem_map.1 hp
  exact ⟨rk_fit n, VR1.flat rfl⟩
theorem ex_kv [Toks] : Kv Try.prog 90 (R.map exE) := by
  intro p hp
  obtain ⟨x, _, rfl⟩ := List.mem_map.1 hp
  exact ⟨rk_fit x.n, rfl, ⟨x.g, 0, 0⟩, rfl, rfl⟩
theorem zero_unit : zeroP Try.prog 130 = some (.agg #[]) := by kernel_rfl
theorem zero_prp : zeroP Try.prog 94 = some (.pointer none) := by kernel_rfl
theorem sd_no (hm : MapAt w sb (S.map sdE)) {n : Int} (hn : n ∉ S) : (Instr.lookup 84 (.map (some sb)) (rk n) true).run Try.prog w = .ok (.tuple #[.agg #[], .bool false]) w := by
  letI : Toks := ⟨fun _ => 0⟩
  have := hm.look_no (P := Try.prog) (k := rk n) Try.underlying84 sd_kv (rk_fit n) (fun p hp => by
    obtain ⟨m, hm, rfl⟩ := List.mem_map.1 hp
    rw [beq_rk]
    exact decide_eq_false (fun e => hn (e ▸ hm))) zero_unit true
  simpa using this
theorem first_of {S : List Int} {n : Int} (hn : n ∈ S) : ∃ j : Nat, S[j]? = some n ∧ ∀ (m : Nat) (x : Int), m < j → S[m]? = some x → n ≠ x := by
  induction S with
  | nil => simp at hn
  | cons a r ih =>
    by_cases e : n = a
    · exact ⟨0, by simp [e], fun m x hm => by omega⟩
    · obtain ⟨j, h1, h2⟩ := ih (by simpa [e] using hn)
      refine ⟨j + 1, by simpa using h1, fun m x hm hx => ?_⟩
      cases m with
      | zero =>
        simp only [List.getElem?_cons_zero, Option.some.injEq] at hx
        rw [← hx]
        exact e
      | succ m => exact h2 m x (by omega) (by simpa using hx)
theorem sd_yes (hm : MapAt w sb (S.map sdE)) {n : Int} (hn : n ∈ S) : (Instr.lookup 84 (.map (some sb)) (rk n) true).run Try.prog w = .ok (.tuple #[.agg #[], .bool true]) w := by
  letI : Toks := ⟨fun _ => 0⟩
  obtain ⟨j, h1, h2⟩ := first_of hn
  have := hm.look_yes (P := Try.prog) (j := j) (v := .agg #[]) (k := rk n) Try.underlying84 sd_kv (by rw [List.getElem?_map, h1]; rfl) (by rw [beq_rk]; simp) (fun m p hm hp => by
    rw [List.getElem?_map] at hp
    cases hx : S[m]? with
    | none => rw [hx] at hp; cases hp
    | some x =>
      rw [hx] at hp
      injection hp with hp
      subst hp
      rw [beq_rk]
      exact decide_eq_false (h2 m x hm hx)) true
  simpa using this
theorem sd_put (hm : MapAt w sb (S.map sdE)) {n : Int} (hn : n ∉ S) : ∃ w', (Instr.mapUpdate 84 (.map (some sb)) (rk n) (.agg #[])).run Try.prog w = .ok () w' ∧ MapAt w' sb ((S ++ [n]).map sdE) ∧ w.grownBy w' (some sb) := by
  letI : Toks := ⟨fun _ => 0⟩
  obtain ⟨w', h1, h2, h3⟩ := hm.put_no (P := Try.prog) (k := rk n) Try.underlying84 sd_kv (rk_fit n) (fun p hp => by
    obtain ⟨m, hm, rfl⟩ := List.mem_map.1 hp
    rw [beq_rk]
    exact decide_eq_false (fun e => hn (e ▸ hm))) (.agg #[])
  exact ⟨w', h1, by simpa using h2, h3⟩
theorem ex_put (hm : MapAt w xb (R.map exE)) {n : Int} (hn : ∀ (k : Nat) (p : Pr), R[k]? = some p → p.n ≠ n) (g : Nat) : ∃ w', (Instr.mapUpdate 83 (.map (some xb)) (rk n) (.pointer (some ⟨g, 0, none⟩))).run Try.prog w = .ok () w' ∧ MapAt w' xb ((R ++ [Pr.mk g n]).map exE) ∧ w.grownBy w' (some xb) := by
  letI : Toks := ⟨fun _ => 0⟩
  obtain ⟨w', h1, h2, h3⟩ := hm.put_no (P := Try.prog) (k := rk n) Try.underlying83 ex_kv (rk_fit n) (fun p hp => by
    obtain ⟨x, hx, rfl⟩ := List.mem_map.1 hp
    obtain ⟨k, hk⟩ := List.getElem?_of_mem hx
    rw [beq_rk]
    exact decide_eq_false (fun e => hn k x hk e.symm)) (.pointer (some ⟨g, 0, none⟩))
  exact ⟨w', h1, by simpa using h2, h3⟩
theorem ex_yes (hm : MapAt w xb (R.map exE)) (hu : ∀ (j k : Nat) (p q : Pr), R[j]? = some p → R[k]? = some q → p.n = q.n → j = k) {j : Nat} {p : Pr} (hj : R[j]? = some p) : (Instr.lookup 83 (.map (some xb)) (rk p.n) true).run Try.prog w = .ok (.tuple #[ptr p, .bool true]) w := by
  letI : Toks := ⟨fun _ => 0⟩
  have := hm.look_yes (P := Try.prog) (j := j) (v := ptr p) (k := rk p.n) Try.underlying83 ex_kv (by rw [List.getElem?_map, hj]; rfl) (by rw [beq_rk]; simp) (fun m q hm hq => by
    rw [List.getElem?_map] at hq
    cases hx : R[m]? with
    | none => rw [hx] at hq; cases hq
    | some x =>
      rw [hx] at hq
      injection hq with hq
      subst hq
      rw [beq_rk]
      exact decide_eq_false (fun e => absurd (hu j m p x hj hx e) (by omega))) true
  simpa using this
theorem results_cell1 {fn : Func} {p : Tmp} {ty : TypeId} (h : fn.results = #[.cell p ty]) (tmps : Array Value) (P : Program) (w : World) :
    (results fn tmps).run P w = ((asAddr (tmps.getD p undef)).run P w).andThen fun a w₁ => (loadVar ty a).run P w₁ := by
  simp only [results, h]
  simp [Sem.run_bind, Result.andThen]
theorem ret_cell1 {P : Program} {fn : Func} {p : Tmp} {ty : TypeId} {tmps : Array Value} {w : World} {g : Nat} {t : TypeId} {cs : Array Value} {d : TypeDesc} (h : fn.results = #[.cell p ty]) (ht : tmps.getD p undef = .pointer (some ⟨g, 0, none⟩)) (hb : Blk w g t cs)
    (hu : P.underlying ty = some d) (hd : (match d with | .struct _ | .array _ _ => true | _ => false) = true) (hi : (P.info? ty).map (·.size) = some cs.size) : (results fn tmps).run P w = .ok (.agg cs) w := by
  rw [results_cell1 h, ht]
  simp only [asAddr, Sem.run_pure, Result.andThen_ok]
  exact Go.run_loadVar_row w g t ty cs _ d hb hu hd hi
/-- A message about a run. -/
abbrev abC (k n : Int) : Array Value := #[.int .i64 k, .string rF, .string rE, .string ⟨#[]⟩, .int .i64 n, .int .i64 0, .int .i64 0, .int .i64 0, .slice none 0 0]
set_option maxHeartbeats 4000000 in
theorem About (k n : Int) (w : World) : Calls Try.prog 48 #[rk n, .int .i64 k] w fun r w' => r = .returned (.agg (abC k n)) ∧ Below w.heap.size w w' := by
  go_enter Try.func48, Try.ntmps48
  go_wp2
  have hb := Blk.new (w.alloc (Obj.cells #[.string rF, .string rE, .int .i64 n] 90)) 30 (abC k n)
  refine bodyPost_ret (ret_cell1 rfl rfl (by simpa using hb) Try.underlying30 rfl (by kernel_rfl)) rfl ⟨rfl, ((Below.refl _ _).alloc (Nat.le_refl _) _).alloc (by simp) _⟩
end
end Go.Proofs.Ytiflhfhonhbcpaa.Han
