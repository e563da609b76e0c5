/- A bin in memory: beside others; equal rows. -/
import Derived.Test.YtiflhfhonhbcpaaBinO
import Derived.Laws.StructEq
import Derived.Deep.QuietTactic
import Derived.BigQuiet
namespace Go.Proofs.Ytiflhfhonhbcpaa.Bin
open Go Go.RowKit Go.Proofs.Ytiflhfhonhbcpaa Go.Proofs.Ytiflhfhonhbcpaa.Crw Go.Proofs.Ytiflhfhonhbcpaa.Mas Go.ChangeShapes Go.WideShapes Go.ChangeAt
set_option linter.unusedVariables false
set_option maxRecDepth 100000
/-- A bin, and what has become of the world. -/
structure BnI (w wr : World) (b : Nat) (v : Value) (L : List Bx) : Prop where
  bn : BnP wr w.heap.size b v L
  bel : Below w.heap.size w wr
section
variable {w wr w' : World} {B b c : Nat} {v vc : Value} {L M : List Bx} {f e : ByteArray} {n s : Int}
theorem BnI.below (h : BnI w wr b v L) (hb : Below wr.heap.size wr w') : BnI w w' b v L := ⟨h.bn.below hb, h.bel.trans (hb.mono h.bel.size)⟩
theorem BnI.voln {v' : Value} (h : BnI w wr b v L) (hv : Vol (OwnB b v) wr w') (hn : BnP w' w.heap.size b v' M) : BnI w w' b v' M := by
  refine ⟨hn, ⟨hv.os.trans h.bel.os, hv.tape.trans h.bel.tape, hv.output.trans h.bel.output, Nat.le_trans h.bel.size hv.size, fun q hq => ?_⟩⟩
  refine (hv.block q (Nat.lt_of_lt_of_le hq h.bel.size) (fun e => ?_)).trans (h.bel.block q hq)
  rcases e with e | e
  · have := h.bn.ge; omega
  · have := (h.bn.row.lt q e).1; omega
/-- What is done to another bin, of younger memory, leaves this one. -/
theorem BnP.other {Bc : Nat} (h : BnP wr B b v L) (hb : b < Bc) (hv : ∀ q, v.ownBlock = some q → q < Bc) (hc : BnP wr Bc c vc M) (vol : Vol (OwnB c vc) wr w') : BnP w' B b v L := by
  refine h.vol vol (fun e => ?_) (fun q hq e => ?_)
  · rcases e with e | e
    · have := hc.ge; omega
    · have := (hc.row.lt b e).1; omega
  · have h1 := hv q hq
    rcases e with e | e
    · have := hc.ge; omega
    · have := (hc.row.lt q e).1; omega
theorem BnI.other {Bc : Nat} (h : BnI w wr b v L) (hb : b < Bc) (hv : ∀ q, v.ownBlock = some q → q < Bc) (hBc : w.heap.size ≤ Bc) (hc : BnP wr Bc c vc M) (vol : Vol (OwnB c vc) wr w') : BnI w w' b v L := by
  refine ⟨h.bn.other hb hv hc vol, ⟨vol.os.trans h.bel.os, vol.tape.trans h.bel.tape, vol.output.trans h.bel.output, Nat.le_trans h.bel.size vol.size, fun q hq => ?_⟩⟩
  refine (vol.block q (Nat.lt_of_lt_of_le hq h.bel.size) (fun e => ?_)).trans (h.bel.block q hq)
  rcases e with e | e
  · have := hc.ge; omega
  · have := (hc.row.lt q e).1; omega
theorem BnI.lt (h : BnI w wr b v L) : b < wr.heap.size ∧ ∀ q, v.ownBlock = some q → q < wr.heap.size := ⟨h.bn.blk.lt, fun q e => (h.bn.row.lt q e).2⟩
theorem Add_newI (h : BnI w wr b v L) (hf : ∀ (j : Nat) (y : Bx), L[j]? = some y → hit f e n y = false) (hl : L.length < 100) :
    Calls Try.prog 32 #[.pointer (some ⟨b, 0, none⟩), .string f, .string e, .int .i64 n, .int .i64 s] wr fun r w' => r = .returned (.bool true) ∧ ∃ v', BnI w w' b v' (insB ⟨f, e, n, s⟩ L) :=
  (Add_new h.bn hf hl).mono fun r w' ⟨h1, v', h2, h3, h4⟩ => ⟨h1, v', h.voln h3 h2⟩
theorem Take_yesI (h : BnI w wr b v L) {k : Nat} {x : Bx} (hk : L[k]? = some x) (hx : hit f e n x = true) (hf : ∀ (j : Nat) (y : Bx), L[j]? = some y → j < k → hit f e n y = false) :
    Calls Try.prog 35 #[.pointer (some ⟨b, 0, none⟩), .string f, .string e, .int .i64 n] wr fun r w' => r = .returned (.bool true) ∧ ∃ v', BnI w w' b v' (L.eraseIdx k) :=
  (Take_yes h.bn hk hx hf).mono fun r w' ⟨h1, v', h2, h3, h4⟩ => ⟨h1, v', h.voln h3 h2⟩
theorem hit_all {L : List Bx} (h : ∀ y ∈ L, hit f e n y = false) : ∀ (j : Nat) (y : Bx), L[j]? = some y → hit f e n y = false := fun j y hj => h y (List.mem_of_getElem? hj)
theorem insB_end {x y : Bx} {L : List Bx} {m : Nat} (hl : L.length = m + 1) (hy : L[m]? = some y) (hs : ¬ x.s < y.s) : insB x L = L ++ [x] := by
  unfold insB
  rw [hl, atS_ge hy hs, List.take_of_length_le (by omega), List.drop_of_length_le (by omega)]
set_option maxHeartbeats 8000000 in
/-- Equal rows are the same. -/
theorem Same_box {B1 B2 N c c' : Nat} {A A' : Option Addr} (h : w.ownsRow B1 70 4 (.slice A N c) N (bxV L)) (h' : w.ownsRow B2 70 4 (.slice A' N c') N (bxV L)) (hl : L.length = N) (hN : N ≤ 100) :
    Calls Try.prog 43 #[.slice A N c, .slice A' N c'] w fun r w' => r = .returned (.bool true) ∧ ∃ m, w' = w.drewN m := by
  have HR := Lib.hid h
  have HR' := Lib.hid h'
  have HL := Lib.hid hl
  have nN : ((N : Int) != (N : Int)) = false := by simp
  clear h h' hl
  go_enter Try.func43, Try.ntmps43
  go_wp2_with fail
  clear nN
  go_loopw [5] (fun i wr => Hid (∃ j m : Nat, i = .int .i64 j ∧ j ≤ N ∧ wr = w.drewN m)) (fun i _ => N - (intOf i).toNat)
  case atStart => exact Lib.hid ⟨0, 0, rfl, by omega, rfl⟩
  case round =>
    obtain ⟨j, m, rfl, hj, rfl⟩ := hrel.out
    clear hrel
    by_cases hlt : (j : Int) < (N : Int)
    · obtain ⟨u, rfl⟩ := own_some HR.out (by omega)
      obtain ⟨u', rfl⟩ := own_some HR'.out (by omega)
      obtain ⟨y, hy⟩ : ∃ y, L[j]? = some y := ⟨L[j]'(by have := HL.out; omega), List.getElem?_eq_getElem _⟩
      have cc : ∀ k, k < 4 → (w.drewN m).cell? ⟨u, j * 4 + k, none⟩ = (bxC y)[k]? := fun k hm => (HR.out.cellAt (j * 4 + k) (by omega)).trans (bxV_get L j y hy k hm)
      have cc' : ∀ k, k < 4 → (w.drewN m).cell? ⟨u', j * 4 + k, none⟩ = (bxC y)[k]? := fun k hm => (HR'.out.cellAt (j * 4 + k) (by omega)).trans (bxV_get L j y hy k hm)
      obtain ⟨wd, hwd⟩ : ∃ wd, wd = w.drewN m := ⟨_, rfl⟩
      rw [← hwd] at cc cc' ⊢
      have HWD := Lib.hid hwd
      clear hwd
      have c0 : wd.cell? ⟨u, j * 4, none⟩ = some (.string y.f) := cc 0 (by omega)
      have c1 : wd.cell? ⟨u, j * 4 + 1, none⟩ = some (.string y.e) := cc 1 (by omega)
      have c2 : wd.cell? ⟨u, j * 4 + 2, none⟩ = some (.int .i64 y.n) := cc 2 (by omega)
      have c3 : wd.cell? ⟨u, j * 4 + 3, none⟩ = some (.int .i64 y.s) := cc 3 (by omega)
      have d0 : wd.cell? ⟨u', j * 4, none⟩ = some (.string y.f) := cc' 0 (by omega)
      have d1 : wd.cell? ⟨u', j * 4 + 1, none⟩ = some (.string y.e) := cc' 1 (by omega)
      have d2 : wd.cell? ⟨u', j * 4 + 2, none⟩ = some (.int .i64 y.n) := cc' 2 (by omega)
      have d3 : wd.cell? ⟨u', j * 4 + 3, none⟩ = some (.int .i64 y.s) := cc' 3 (by omega)
      have z1 : (0 : Int) ≤ (j : Int) := by omega
      obtain ⟨yf, ye, yn, ys⟩ := y
      simp only at c0 c1 c2 c3 d0 d1 d2 d3
      clear cc cc' hy
      go_upto_region 6 with fail
      go_quiet (fail)
      clear c0 c1 c2 c3 d0 d1 d2 d3
      go_wp2_with fail
      refine ⟨?_, by simp [intOf]; omega⟩
      exact Lib.hid ⟨j + 1, m + nq, by simp, by omega, by rw [HWD.out]; simp [World.drewN, Nat.add_assoc]⟩
    · go_wp2_with fail
      go_ret
      exact ⟨rfl, _, rfl⟩
end
end Go.Proofs.Ytiflhfhonhbcpaa.Bin
