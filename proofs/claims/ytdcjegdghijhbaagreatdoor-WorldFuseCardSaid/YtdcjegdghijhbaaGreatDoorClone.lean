/- The contract of (*disk.Disk).Clone, where the disk has one file that is not empty. -/
import Derived.Test.YtdcjegdghijhbaaGreatDoorPrefix
import Derived.Sort.KeysCollected
import Derived.WideMake
import Derived.Lib.SliceRun
namespace Go.Proofs.YtdcjegdghijhbaaGreatDoor
open Go.ChangeShapes Go.WideShapes Go.ChangeAt Go.RowKit
set_option linter.unusedVariables false
theorem byte_infoC : (Tryz.prog.info? 5).map (fun i => (i.zero, i.size, i.bytes)) = some (some (.int .u8 0), 1, 1) := by kernel_rfl
set_option maxRecDepth 100000 in
set_option maxHeartbeats 1000000 in
theorem ClB_any (ad : Addr) (n c : Nat) (xs : List Value) (w : World) (hn : 0 < n) (hl : xs.length = n) (h1 : ∀ u ∈ xs, u.oneCell' = true) (hc : ∀ j u, xs[j]? = some u → w.cell? (ad.add j) = some u) (hlt : ad.block < w.heap.size) (hn2 : n ≤ 1048576) :
    Calls Tryz.prog 76 #[.slice (some ad) n c] w fun e w' => ∃ v, e = .returned v ∧ w'.ownsRow w.heap.size 5 1 v n xs ∧ Below w.heap.size w w' := by
  obtain ⟨i0, hi, hz0, hz1, hz2⟩ := info_parts byte_infoC
  have heq : ∀ w1, (binOp .eql 132 (.slice (some ad) n c) (.slice none 0 0)).run Tryz.prog w1 = .ok (.bool false) w1 := fun w1 => Lib.run_eql_slice_nil w1 132 5 (some ad) n c 0 0 Tryz.underlying132
  go_enter Tryz.func76, Tryz.ntmps76
  go_wp2_with (first | (at_builtin; go_must (refine wpList_append_own _ rfl _ _ 132 rfl w.heap.size 5 i0 (.int .u8 0) 1 1 Tryz.underlying132 hi hz0 hz1 hz2 rfl (by decide) _ 0 [] rfl ⟨by simp, .inr ⟨w.heap.size, 0, #[], rfl, Nat.le_refl _, heap_alloc_new w _, Nat.le_refl _, by decide, rfl, rfl⟩⟩ ad n c xs rfl (by omega) (fun j u hu => by rw [World.cell?_alloc_lt w _ _ (by rw [block_of_add]; exact hlt)]; exact hc j u hu) h1 (by simp only [maxLen]; omega) (by omega) (by simp) ?_); intro v1 w1 hown1 hg1 _hne; clear _hne; rw [Nat.zero_add, List.nil_append] at hown1))
  go_ret
  exact ⟨v1, rfl, hown1, ((Below.refl w.heap.size w).alloc (Nat.le_refl _) _).grown hg1 (by simp) (fun k hk => by injection hk with hk; subst hk; exact Nat.le_refl _)⟩
def ClPost (w : World) (q u lf sy : Int) (fu de fi : Bool) (s : ByteArray) (n : Nat) (xs : List Value) (w' : World) : Prop :=
  ∃ v gf, w.heap.size + 2 < gf ∧ Blk w' w.heap.size 90 #[.int .i64 q, .int .i64 u, .map (some (w.heap.size + 1)), .bool fu, .int .i64 lf, .bool de] ∧ w'.heap[w.heap.size + 1]? = some (.map #[⟨.string s, .pointer (some ⟨gf, 0, none⟩), 0⟩] 1) ∧
      Blk w' gf 134 #[v, .int .i64 sy, .bool fi] ∧ w'.ownsRow (gf + 1) 5 1 v n xs
def ClInv (w : World) (mb ck bn fb fo : Nat) (q u lf sy : Int) (fu de fi : Bool) (s : ByteArray) (n : Nat) (xs : List Value) (wr : World) : Prop :=
  (iterSeen wr (w.heap.size + 2) mb ck #[] ∧ Below w.heap.size w wr ∧ wr.heap.size = w.heap.size + 3 ∧ Blk wr w.heap.size 90 #[.int .i64 q, .int .i64 u, .map (some (w.heap.size + 1)), .bool fu, .int .i64 lf, .bool de] ∧ wr.heap[w.heap.size + 1]? = some (.map #[] 0)) ∨
  (iterSeen wr (w.heap.size + 2) mb ck #[bn] ∧ Below w.heap.size w wr ∧ ClPost w q u lf sy fu de fi s n xs wr)
def itLeft (w : World) (ri : Nat) : Nat :=
  match w.heap[ri]? with
  | some (.mapIter _ _ seen _) => 1 - seen.size
  | _ => 0
set_option maxRecDepth 100000 in
set_option maxHeartbeats 2000000 in
theorem Clone_one (db off mb ck bn fb fo n c : Nat) (q u lf sy : Int) (fu de fi : Bool) (s : ByteArray) (ad : Addr) (xs : List Value) (w : World)
    (c0 : w.cell? ⟨db, off, none⟩ = some (.int .i64 q)) (c1 : w.cell? ⟨db, off + 1, none⟩ = some (.int .i64 u)) (c2 : w.cell? ⟨db, off + 2, none⟩ = some (.map (some mb))) (c3 : w.cell? ⟨db, off + 3, none⟩ = some (.bool fu)) (c4 : w.cell? ⟨db, off + 4, none⟩ = some (.int .i64 lf)) (c5 : w.cell? ⟨db, off + 5, none⟩ = some (.bool de))
    (hm : w.heap[mb]? = some (.map #[⟨.string s, .pointer (some ⟨fb, fo, none⟩), bn⟩] ck)) (hb : bn < ck)
    (f0 : w.cell? ⟨fb, fo, none⟩ = some (.slice (some ad) n c)) (f1 : w.cell? ⟨fb, fo + 1, none⟩ = some (.int .i64 sy)) (f2 : w.cell? ⟨fb, fo + 2, none⟩ = some (.bool fi))
    (hn : 0 < n) (hl : xs.length = n) (h1 : ∀ u ∈ xs, u.oneCell' = true) (hc : ∀ j u, xs[j]? = some u → w.cell? (ad.add j) = some u) (hlt : ad.block < w.heap.size) (hn2 : n ≤ 1048576) :
    Calls Tryz.prog 39 #[.pointer (some ⟨db, off, none⟩)] w fun e w' => e = .returned (.pointer (some ⟨w.heap.size, 0, none⟩)) ∧ Below w.heap.size w w' ∧ ClPost w q u lf sy fu de fi s n xs w' := by
  have hmb : mb < w.heap.size := (Array.getElem?_eq_some_iff.1 hm).1
  have hfb : fb < w.heap.size := by
    rcases Nat.lt_or_ge fb w.heap.size with h | h
    · exact h
    · simp [World.cell?, Array.getElem?_eq_none h] at f0
  have hdb : db < w.heap.size := by
    rcases Nat.lt_or_ge db w.heap.size with h | h
    · exact h
    · simp [World.cell?, Array.getElem?_eq_none h] at c0
  have hmk : ∀ w1, (Instr.makeMap 88 none).run Tryz.prog w1 = .ok (.map (some w1.heap.size)) (w1.alloc (.map #[] 0)) := fun w1 => run_makeMap_plain w1 _
  have hrange : ∀ w1, w1.heap[mb]? = some (.map #[⟨.string s, .pointer (some ⟨fb, fo, none⟩), bn⟩] ck) → (Instr.range 88 (.map (some mb))).run Tryz.prog w1 = .ok (.pointer (some ⟨w1.heap.size, 0, none⟩)) (w1.alloc (.mapIter (some mb) ck #[] ck)) := by
    intro w1 hm1
    have hgm : (getObj mb).run Tryz.prog w1 = .ok (.map #[⟨.string s, .pointer (some ⟨fb, fo, none⟩), bn⟩] ck) w1 := by simp only [getObj, Sem.run, hm1]
    simp only [Instr.range, Sem.run_bind, run_underlying Tryz.underlying88, Result.andThen_ok, hgm, newObj, Sem.run, Sem.run_pure]
    rfl
  have hb2 : Below w.heap.size w ((w.alloc (.cells #[.int .i64 q, .int .i64 u, .map (some (w.heap.size + 1)), .bool fu, .int .i64 lf, .bool de] 90)).alloc (.map #[] 0)) := Below.alloc (Below.alloc (Below.refl _ _) (Nat.le_refl _) _) (by simp) _
  have hr1 := hrange _ ((hb2.block mb hmb).trans hm)
  clear hrange
  go_enter Tryz.func39, Tryz.ntmps39
  go_wp2
  clear hr1 c0 c1 c2 c3 c4 c5
  go_loopw [] (fun wr => Hid (ClInv w mb ck bn fb fo q u lf sy fu de fi s n xs wr)) (fun wr => itLeft wr (w.heap.size + 2))
  case atStart =>
    have z1 : (w.alloc (.cells #[.int .i64 q, .int .i64 u, .map (some (w.heap.size + 1)), .bool fu, .int .i64 lf, .bool de] 90)).heap.size = w.heap.size + 1 := by simp
    have z2 : ((w.alloc (.cells #[.int .i64 q, .int .i64 u, .map (some (w.heap.size + 1)), .bool fu, .int .i64 lf, .bool de] 90)).alloc (.map #[] 0)).heap.size = w.heap.size + 2 := by simp
    have n1 := heap_alloc_new (w.alloc (.cells #[.int .i64 q, .int .i64 u, .map (some (w.heap.size + 1)), .bool fu, .int .i64 lf, .bool de] 90)) (.map #[] 0)
    have n2 := heap_alloc_new ((w.alloc (.cells #[.int .i64 q, .int .i64 u, .map (some (w.heap.size + 1)), .bool fu, .int .i64 lf, .bool de] 90)).alloc (.map #[] 0)) (.mapIter (some mb) ck #[] ck)
    rw [z1] at n1
    rw [z2] at n2
    exact Lib.hid (.inl ⟨n2, hb2.alloc (by rw [z2]; omega) _, by simp, ((Blk.new w _ _).alloc _).alloc _, (Below.heap_alloc _ _ _ (by rw [z2]; omega)).trans n1⟩)
  case round =>
    have HC := Lib.hid hc
    have HO := Lib.hid h1
    have HM := Lib.hid hm
    have F0 := Lib.hid f0
    have F1 := Lib.hid f1
    have F2 := Lib.hid f2
    clear hc h1 hm f0 f1 f2 hb2
    have hne : w.heap.size + 2 ≠ mb := by omega
    have hbs : ∀ e ∈ (#[⟨.string s, .pointer (some ⟨fb, fo, none⟩), bn⟩] : Array MapEntry).toList, e.born < ck := by intro e he; simp at he; subst he; exact hb
    have hns : ((#[⟨.string s, .pointer (some ⟨fb, fo, none⟩), bn⟩] : Array MapEntry).toList.map (·.born)).Nodup := by simp
    rcases hrel.out with ⟨hit, hbel, hsz, hB, hM0⟩ | ⟨hit, hbel, hP⟩
    · have hmr := (hbel.block mb hmb).trans HM.out
      have H1 := Lib.hid hbel
      have H2 := Lib.hid hB
      have H3 := Lib.hid hM0
      clear hbel hB hM0 hrel
      go_wp2_with (refine wpList_next_map rfl _ rfl rfl hit hmr hbs hns hne ?_ ?_)
      · intro hd
        exact absurd (hd ⟨.string s, .pointer (some ⟨fb, fo, none⟩), bn⟩ (by simp)) (by simp)
      · intro e w2 hh hen
        obtain ⟨he, hs, hit2, hm2, hg2, hsz2⟩ := hh
        simp at he
        subst he
        have B2 : Below w.heap.size w w2 := H1.out.grown hg2 (by omega) (fun j hj => by cases hj; omega)
        have e0 := (B2.cell (p := ⟨fb, fo, none⟩) hfb).trans F0.out
        have e1 := (B2.cell (p := ⟨fb, fo + 1, none⟩) hfb).trans F1.out
        have e2 := (B2.cell (p := ⟨fb, fo + 2, none⟩) hfb).trans F2.out
        have hfb2 : fb < w2.heap.size := by omega
        have e3 : ∀ o, (w2.alloc o).cell? ⟨fb, fo, none⟩ = some (.slice (some ad) n c) := fun o => (World.cell?_alloc_lt w2 o _ hfb2).trans e0
        have HIT := Lib.hid hit
        have HIT2 := Lib.hid hit2
        have HD2 : Hid (Blk w2 w.heap.size 90 #[.int .i64 q, .int .i64 u, .map (some (w.heap.size + 1)), .bool fu, .int .i64 lf, .bool de]) := H2.out.grown hg2 (by intro h; injection h with h; omega)
        have HM2 : Hid (w2.heap[w.heap.size + 1]? = some (.map #[] 0)) := (hg2.block _ (by omega) (by intro h; injection h with h; omega)).trans H3.out
        have HB2 := Lib.hid B2
        have z2 : w2.heap.size = w.heap.size + 3 := by omega
        clear hit hit2 hmr hbs hns hs B2 hm2 hg2 H1 H2 H3
        go_wp2_with (go_at_call 76; refine (ClB_any ad n c xs _ hn hl HO.out (fun j u hu => ((World.cell?_alloc_lt w2 _ _ (by rw [block_of_add]; omega)).trans (HB2.out.cell (by rw [block_of_add]; exact hlt))).trans (HC.out j u hu)) (by simp; omega) hn2).mono ?_; rintro e w3 ⟨v1, rfl, hown, hb3⟩; obtain ⟨A1, c1, rfl, hc1, hcm⟩ := own_slice hown; rw [show (w2.alloc (.cells #[.slice (some ad) n c, .int .i64 sy, .bool fi] 134)).heap.size = w.heap.size + 4 by simp; omega] at hown hb3; have hF3 : Blk w3 (w.heap.size + 3) 134 #[.slice (some ad) n c, .int .i64 sy, .bool fi] := (by have h := (Blk.new w2 134 #[.slice (some ad) n c, .int .i64 sy, .bool fi]).below hb3 (by omega); rwa [z2] at h); have hD3 : Blk w3 w.heap.size 90 #[.int .i64 q, .int .i64 u, .map (some (w.heap.size + 1)), .bool fu, .int .i64 lf, .bool de] := (HD2.out.alloc _).below hb3 (by omega); have hM3 : w3.heap[w.heap.size + 1]? = some (.map #[] 0) := (hb3.block _ (by omega)).trans ((Below.heap_alloc _ _ _ (by omega)).trans HM2.out); have k0 : w3.cell? ⟨w.heap.size + 3, 0, none⟩ = some (.slice (some ad) n c) := hF3.cell 0; have k1 : w3.frozen? ⟨w.heap.size + 3, 0, none⟩ = false := hF3.frozen 0; have k2 : (w3.setCell ⟨w.heap.size + 3, 0, none⟩ (.slice A1 n c1)).cell? ⟨w.heap.size, 2, none⟩ = some (.map (some (w.heap.size + 1))) := (World.cell?_setCell_other w3 _ _ _ (by intro h; injection h with h; omega)).trans (hD3.cell 2); have k3 := run_mapUpdate_first (P := Tryz.prog) (w3.setCell ⟨w.heap.size + 3, 0, none⟩ (.slice A1 n c1)) 88 9 130 (w.heap.size + 1) 0 s (.pointer (some ⟨w.heap.size + 3, 0, none⟩)) Tryz.underlying88 Tryz.underlying9 ((Below.heap_setCell _ _ _ _ (by simp)).trans hM3))
        have hk : ∀ k, k ≠ w.heap.size + 1 → k ≠ w.heap.size + 3 → ((w3.setCell ⟨w.heap.size + 3, 0, none⟩ (.slice A1 n c1)).heap.setIfInBounds (w.heap.size + 1) (.map #[⟨.string s, .pointer (some ⟨w.heap.size + 3, 0, none⟩), 0⟩] 1))[k]? = w3.heap[k]? := fun k h1 h3 =>
          (Array.getElem?_setIfInBounds_ne (fun e => h1 e.symm)).trans (Below.heap_setCell w3 _ _ k h3)
        have hold : ∀ k, k < w.heap.size + 3 → w3.heap[k]? = w2.heap[k]? := fun k h => (hb3.block k (by omega)).trans (Below.heap_alloc _ _ _ (by omega))
        have hsz6 : w.heap.size + 4 ≤ w3.heap.size := by have := hb3.size; simpa [z2] using this
        have hit6 : w3.heap[w.heap.size + 2]? = some (.mapIter (some mb) ck #[bn] ck) := (hold _ (by omega)).trans (by simpa [iterSeen] using HIT2.out)
        refine ⟨Lib.hid (.inr ⟨(hk _ (by omega) (by omega)).trans hit6, ⟨hb3.os.trans HB2.out.os, hb3.tape.trans HB2.out.tape, hb3.output.trans HB2.out.output, by simp [World.setCell]; omega, fun k h => (hk k (by omega) (by omega)).trans ((hold k (by omega)).trans (HB2.out.block k h))⟩, .slice A1 n c1, w.heap.size + 3, by omega, (hk _ (by omega) (by omega)).trans hD3, ?_, ?_, ?_⟩), ?_⟩
        · have : w.heap.size + 1 < (w3.setCell ⟨w.heap.size + 3, 0, none⟩ (.slice A1 n c1)).heap.size := by simp [World.setCell]; omega
          rw [Array.getElem?_setIfInBounds_self_of_lt this]
        · have h := hF3.set_ 0 (.slice A1 n c1)
          exact (Array.getElem?_setIfInBounds_ne (by omega)).trans h
        · rcases hown.2 with ⟨_, h0⟩ | ⟨g, cap, cur, hv, hbase, hbk, h2⟩
          · omega
          · exact ⟨hown.1, .inr ⟨g, cap, cur, hv, by omega, (hk _ (by omega) (by omega)).trans hbk, h2⟩⟩
        · unfold itLeft
          rw [show wr.heap[w.heap.size + 2]? = _ from HIT.out]
          simp only
          rw [(hk _ (by omega) (by omega)).trans hit6]
          simp
    · have hmr := (hbel.block mb hmb).trans HM.out
      go_wp2_with (refine wpList_next_map rfl _ rfl rfl hit hmr hbs hns hne ?_ ?_)
      · intro hd
        go_wp2
        go_ret
        exact ⟨rfl, hbel, hP⟩
      · intro e w2 hh hen
        have h1 := hh.mem
        have h2 := hh.unseen
        simp at h1
        subst h1
        simp at h2
end Go.Proofs.YtdcjegdghijhbaaGreatDoor
