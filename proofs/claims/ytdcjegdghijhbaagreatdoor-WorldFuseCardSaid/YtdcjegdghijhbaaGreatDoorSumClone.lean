/- (*disk.Disk).Clone in abstract memory, where the disk has one file that is not empty: what the summary says is what the call comes to. -/
import Derived.Test.YtdcjegdghijhbaaGreatDoorClone
import Derived.Test.YtdcjegdghijhbaaGreatDoorRun
namespace Go.Proofs.YtdcjegdghijhbaaGreatDoor
open Go Go.RowKit
set_option linter.unusedVariables false
def byteA : Value → Bool
  | .int .u8 _ => true
  | .iface _ (.iface _ (.iface _ (.int .u8 _))) => true
  | _ => false
def summClone : XCall := fun f args h =>
  match args with
  | [.pointer (some a)] => if Nat.beq f 39 then (h.cel a.block).bind fun o =>
      match o.cells[a.off]?, o.cells[a.off + 1]?, o.cells[a.off + 2]?, o.cells[a.off + 3]?, o.cells[a.off + 4]?, o.cells[a.off + 5]? with
      | some (.int .i64 q), some (.int .i64 u), some (.map (some r)), some (.bool fu), some (.int .i64 lf), some (.bool de) => (h.get r).bind fun m => if m.kind = 3 then
          (match m.cells with
          | [.tuple ⟨[.string s, .pointer (some fa)]⟩] => (h.cel fa.block).bind fun fo => match fo.cells[fa.off]?, fo.cells[fa.off + 1]?, fo.cells[fa.off + 2]? with
            | some (.slice (some ba) (n + 1) c), some (.int .i64 sy), some (.bool fi) => (h.cel ba.block).bind fun bo => (takeN bo.cells ba.off (n + 1)).bind fun xs => if xs.all byteA = true ∧ n ≤ 1000000 then
                some (.pointer (some ⟨h.n + 3, 0, none⟩), (((h.push ⟨xs, 5, 0, 1⟩).push ⟨[.slice (some ⟨h.n, 0, some opened⟩) (n + 1) (n + 1), .int .i64 sy, .bool fi], 134, 0, 3⟩).push ⟨[.tuple #[.string s, .pointer (some ⟨h.n + 1, 0, none⟩)]], 0, 3, 0⟩).push ⟨[.int .i64 q, .int .i64 u, .map (some (h.n + 2)), .bool fu, .int .i64 lf, .bool de], 90, 0, 6⟩)
              else none
            | _, _, _ => none
          | _ => none)
        else none
      | _, _, _, _, _, _ => none
    else none
  | _ => none
theorem clone_fn : ∃ fn, Tryz.prog.funcs[39]? = some fn ∧ fn.body.isNone = false ∧ (fn.name == "runtime.NumGoroutine") = false := ⟨_, Tryz.func39, rfl, by decide +kernel⟩
section
variable [Toks]
variable {M : Nat} {ρ ρ1 : Ren} {h h1 : AHeap} {w w' : World}
/-- A new name for a block that has none. -/
theorem Sim.pushLive (s : Sim M ρ h w) (hM : h.n < M) (o : AObj) {g cap : Nat} (hfree : ∀ i l, ρ i = some l → l.b ≠ g) (hlt : g < w.heap.size)
    (hnew : Held (ρ.add h.n ⟨g, cap, 0⟩) o ⟨g, cap, 0⟩ w) : Sim M (ρ.add h.n ⟨g, cap, 0⟩) (h.push o) w := by
  have hle := s.le_add hM ⟨g, cap, 0⟩
  refine ⟨fun j o' l' hj hl' => ?_, fun j1 j2 o1 o2 l1 l2 g1 g2 g3 g4 g5 => ?_, fun j l' hj => ?_, fun j hj => ?_, hM⟩
  · rw [AHeap.get_push] at hj
    split at hj
    · rename_i e
      subst e
      injection hj with hj
      subst hj
      rw [Ren.add_new] at hl'
      cases hl'
      exact hnew
    · rename_i e
      have hl2 : ρ j = some l' := by simpa [Ren.add, e] using hl'
      exact (s.ok j o' l' hj hl2).move hle rfl
  · rw [AHeap.get_push] at g1 g2
    by_cases e1 : j1 = h.n <;> by_cases e2 : j2 = h.n
    · exact .inl (by rw [e1, e2])
    · exfalso
      subst e1
      rw [Ren.add_new] at g3
      cases g3
      have : ρ j2 = some l2 := by simpa [Ren.add, e2] using g4
      exact hfree _ _ this g5.symm
    · exfalso
      subst e2
      rw [Ren.add_new] at g4
      cases g4
      have : ρ j1 = some l1 := by simpa [Ren.add, e1] using g3
      exact hfree _ _ this g5
    · rw [if_neg e1] at g1
      rw [if_neg e2] at g2
      exact s.inj j1 j2 o1 o2 l1 l2 g1 g2 (by simpa [Ren.add, e1] using g3) (by simpa [Ren.add, e2] using g4) g5
  · simp only [AHeap.push]
    by_cases e : j = h.n
    · subst e
      rw [Ren.add_new] at hj
      cases hj
      exact ⟨.inl (by omega), hlt⟩
    · have := s.dom j l' (by simpa [Ren.add, e] using hj)
      omega
  · simp only [AHeap.push] at hj
    rw [AHeap.get_push, if_neg (by omega)]
    exact s.fresh j (by omega)
theorem Ext.pushLive (s1 : Sim M ρ1 h1 w') (a : Ext ρ ρ1 h h1 w w') (hM : h1.n < M) (o : AObj) (hk : o.kind ≠ 2) {g cap : Nat} (hge : w.heap.size ≤ g) : Ext ρ (ρ1.add h1.n ⟨g, cap, 0⟩) h (h1.push o) w w' where
  sub := fun i l hi => s1.le_add hM _ i l (a.sub i l hi)
  new := fun i l e1 e2 => by
    by_cases e : i = h1.n
    · subst e
      rw [Ren.add_new] at e1
      cases e1
      exact ⟨a.n_le, Nat.lt_succ_self _, .inl hge⟩
    · have e3 : ρ1 i = some l := by simpa [Ren.add, e] using e1
      obtain ⟨x, y, z⟩ := a.new i l e3 e2
      exact ⟨x, Nat.lt_succ_of_lt y, z⟩
  alive := fun i o' hi ho => by
    have := a.n_le
    rw [AHeap.get_push, if_neg (by omega)] at ho
    exact a.alive i o' hi ho
  out := fun i hi hn => by
    have := a.n_le
    rw [AHeap.get_push, if_neg (by omega)]
    exact a.out i hi hn
  n_le := Nat.le_succ_of_le a.n_le
  size := a.size
  os := a.os
  tape := a.tape
  output := a.output
  frame := a.frame
  ro := fun i o' hi hk2 => by
    obtain ⟨x, y⟩ := a.ro i o' hi hk2
    refine ⟨?_, y⟩
    rw [AHeap.get_push]
    split
    · rename_i e; subst e; rw [s1.fresh _ (Nat.le_refl _)] at x; cases x
    · exact x
  old2 := fun i o' l hi hl hk2 => by
    rw [AHeap.get_push] at hi
    split at hi
    · cases hi; exact absurd hk2 hk
    · rename_i e
      exact a.old2 i o' l hi (by simpa [Ren.add, e] using hl) hk2
end
theorem byteA_ok [Toks] {ρ : Ren} {x y : Value} (h : byteA x = true) (hv : VR0 ρ x y) : ∃ z, y = .int .u8 z := by
  unfold byteA at h
  split at h
  · exact ⟨_, VR0.eq rfl hv⟩
  · have hv : VR00 ρ (.iface _ (.iface _ (.iface _ (.int .u8 _)))) y := hv
    exact ⟨_, hv.1⟩
  · cases h
theorem summClone_mono : CallMono summClone := by
  intro f args h v h' hv
  unfold summClone at hv
  repeat' (split at hv)
  all_goals first
    | cases hv
    | (simp only [Option.bind_eq_some_iff] at hv
       obtain ⟨o, _, hv⟩ := hv
       repeat' (split at hv)
       all_goals first
         | cases hv
         | (simp only [Option.bind_eq_some_iff] at hv
            obtain ⟨m, _, hv⟩ := hv
            repeat' (split at hv)
            all_goals first
              | cases hv
              | (simp only [Option.bind_eq_some_iff] at hv
                 obtain ⟨fo, _, hv⟩ := hv
                 repeat' (split at hv)
                 all_goals first
                   | cases hv
                   | (simp only [Option.bind_eq_some_iff] at hv
                      obtain ⟨bo, _, xs, _, hv⟩ := hv
                      split at hv
                      · injection hv with hv
                        injection hv with _ hv2
                        subst hv2
                        simp only [AHeap.push]
                        omega
                      · cases hv))))
theorem held_cells [Toks] {M : Nat} {ρ : Ren} {h : AHeap} {w : World} (s : Sim M ρ h w) {i : Nat} {o : AObj} {l : Loc} (ho : h.cel i = some o) (hl : ρ i = some l) : l.b < w.heap.size ∧ ∀ (k : Nat) (u : Value), o.cells[k]? = some u → ∃ u', w.cell? ⟨l.b, l.o + k, none⟩ = some u' ∧ VR0 ρ u u' := by
  obtain ⟨ho, ho3⟩ := AHeap.cel_get ho
  obtain ⟨cs, fz, c1, c2, _⟩ := (s.ok i o l ho hl).cells ho3
  refine ⟨(Array.getElem?_eq_some_iff.1 c1).1, fun k u hu => ?_⟩
  obtain ⟨u', a, b⟩ := c2 k u hu
  exact ⟨u', by simp [World.cell?, c1, a], b⟩
theorem held_flat [Toks] {M : Nat} {ρ : Ren} {h : AHeap} {w : World} (s : Sim M ρ h w) {i : Nat} {o : AObj} {l : Loc} (ho : h.cel i = some o) (hl : ρ i = some l) {k : Nat} {u : Value} (hu : o.cells[k]? = some u) (hf : flat0 u = true) : w.cell? ⟨l.b, l.o + k, none⟩ = some u := by
  obtain ⟨u', a, b⟩ := (held_cells s ho hl).2 k u hu
  rw [a, VR0.eq hf b]
theorem summClone_ok [Toks] : CallOk Tryz.prog summClone := by
  intro M ρ h w f args args' v h' s hM ha hv
  unfold summClone at hv
  split at hv
  case h_2 => cases hv
  rename_i a
  split at hv
  case isFalse => cases hv
  rename_i hc
  have hc := Nat.eq_of_beq_eq_true hc
  subst hc
  simp only [Option.bind_eq_some_iff] at hv
  obtain ⟨o, ho, hv⟩ := hv
  split at hv
  case h_2 => cases hv
  rename_i q u r fu lf de g0 g1 g2 g3 g4 g5
  simp only [Option.bind_eq_some_iff] at hv
  obtain ⟨m, hm, hv⟩ := hv
  split at hv
  case isFalse => cases hv
  rename_i hk3
  split at hv
  case h_2 => cases hv
  rename_i sk fa hmc
  simp only [Option.bind_eq_some_iff] at hv
  obtain ⟨fo, hfo, hv⟩ := hv
  split at hv
  case h_2 => cases hv
  rename_i ba n c sy fi p0 p1 p2
  simp only [Option.bind_eq_some_iff] at hv
  obtain ⟨bo, hbo, xs, hxs, hv⟩ := hv
  split at hv
  case isFalse => cases hv
  rename_i hbn
  obtain ⟨hby, hn⟩ := hbn
  injection hv with hv
  injection hv with hv1 hv2
  subst hv1 hv2
  obtain ⟨fn, f1, f2, f3⟩ := clone_fn
  refine ⟨fn, f1, f2, f3, ?_⟩
  obtain ⟨arr⟩ := args'
  cases ha with
  | cons a1 ha =>
    cases ha
    obtain ⟨_, l, hl, rfl⟩ := a1.ptr
    -- the disk's cells
    have c0 := held_flat s ho hl g0 rfl
    have c1 := held_flat s ho hl g1 rfl
    have c3 := held_flat s ho hl g3 rfl
    have c4 := held_flat s ho hl g4 rfl
    have c5 := held_flat s ho hl g5 rfl
    obtain ⟨u2, c2, r2⟩ := (held_cells s ho hl).2 _ _ g2
    obtain ⟨l2, hl2, rfl⟩ := r2
    -- the map
    obtain ⟨es, ck, m1, m2, m3, m4⟩ := (s.ok _ m l2 hm hl2).map hk3
    rw [hmc] at m2
    obtain ⟨es⟩ := es
    cases m2 with
    | cons e1 m2 =>
      rename_i e es'
      cases m2
      obtain ⟨ka, va, heq, k1, k2⟩ := e1
      simp only [Value.tuple.injEq, Array.mk.injEq, List.cons.injEq, and_true] at heq
      obtain ⟨rfl, rfl⟩ := heq
      obtain ⟨ekey, eval, eborn⟩ := e
      have ek : ekey = .string sk := VR1.eq rfl k1
      subst ek
      obtain ⟨_, l3, hl3, rfl⟩ := (show VR00 ρ (.pointer (some fa)) eval from k2)
      -- the file
      obtain ⟨v0, q0, r0⟩ := (held_cells s hfo hl3).2 _ _ p0
      obtain ⟨hnc, l4, o', c', hl4, rfl, hcc, hoff, _, _⟩ := (show VR00 ρ (.slice (some ba) (n + 1) c) v0 from r0)
      have hoff := hoff (by omega)
      subst hoff
      have q1 := held_flat s hfo hl3 p1 rfl
      have q2 := held_flat s hfo hl3 p2 rfl
      -- its bytes
      obtain ⟨t1, t2⟩ := takeN_some hxs
      obtain ⟨hb4, hcells⟩ := held_cells s hbo hl4
      have hex : ∀ k, k < n + 1 → ∃ z, w.cell? ⟨l4.b, l4.o + ba.off + k, none⟩ = some (.int .u8 z) ∧ ∀ x, xs[k]? = some x → VR0 ρ x (.int .u8 z) := by
        intro k hk
        obtain ⟨u', g1, g2⟩ := hcells (ba.off + k) _ ((t2 k hk).symm.trans (List.getElem?_eq_getElem (by omega)))
        obtain ⟨z, rfl⟩ := byteA_ok (List.all_eq_true.1 hby _ (List.getElem_mem _)) g2
        refine ⟨z, by rw [Nat.add_assoc]; exact g1, fun x hx => ?_⟩
        rw [List.getElem?_eq_getElem (by omega)] at hx
        injection hx with hx
        rw [← hx]
        exact g2
      obtain ⟨ys, hys⟩ : ∃ ys : List Value, ys = (List.range (n + 1)).map fun k => (w.cell? ⟨l4.b, l4.o + ba.off + k, none⟩).getD undef := ⟨_, rfl⟩
      have hy : ∀ k, k < n + 1 → ∃ z, ys[k]? = some (.int .u8 z) ∧ w.cell? ⟨l4.b, l4.o + ba.off + k, none⟩ = some (.int .u8 z) ∧ ∀ x, xs[k]? = some x → VR0 ρ x (.int .u8 z) := by
        intro k hk
        obtain ⟨z, z1, z2⟩ := hex k hk
        exact ⟨z, by rw [hys, List.getElem?_map, List.getElem?_range hk, Option.map_some, z1]; rfl, z1, z2⟩
      have hyl : ys.length = n + 1 := by rw [hys]; simp
      have hyk : ∀ j u, ys[j]? = some u → ∃ z, u = .int .u8 z ∧ w.cell? ⟨l4.b, l4.o + ba.off + j, none⟩ = some (.int .u8 z) := by
        intro j u hu
        obtain ⟨z, z1, z2, _⟩ := hy j (by have := (List.getElem?_eq_some_iff.1 hu).1; omega)
        rw [z1] at hu
        injection hu with hu
        exact ⟨z, hu.symm, z2⟩
      refine (Clone_one l.b (l.o + a.off) l2.b ck eborn l3.b (l3.o + fa.off) (n + 1) c' q u lf sy fu de fi sk ⟨l4.b, l4.o + ba.off, none⟩ ys w c0 c1 c2 c3 c4 c5 m1 (m4 ⟨.string sk, .pointer (some ⟨l3.b, l3.o + fa.off, none⟩), eborn⟩ (by simp)) q0 q1 q2 (by omega) hyl
        (fun u hu => by obtain ⟨j, hj⟩ := List.mem_iff_getElem?.1 hu; obtain ⟨z, rfl, _⟩ := hyk j u hj; rfl)
        (fun j u hu => by obtain ⟨z, rfl, h⟩ := hyk j u hu; rw [add_at]; exact h) hb4 (by omega)).mono ?_
      rintro e w' ⟨rfl, hb, vv, gf, hgf, hD, hMp, hF, hown⟩
      have hM4 : h.n + 4 ≤ M := hM
      rcases hown.2 with ⟨_, h0⟩ | ⟨gb, cap, cur, rfl, gbase, gblk, h1', h2', h3', h4'⟩
      · omega
      have hgb : gb < w'.heap.size := (Array.getElem?_eq_some_iff.1 gblk).1
      have hgfl : gf < w'.heap.size := hF.lt
      have hgm : w.heap.size + 1 < w'.heap.size := (Array.getElem?_eq_some_iff.1 hMp).1
      have dom0 : ∀ i lx, ρ i = some lx → lx.b < w.heap.size := fun i lx hi => (s.dom i lx hi).2
      -- the bytes' name
      have n1 : Held (ρ.add h.n ⟨gb, cap, 0⟩) ⟨xs, 5, 0, 1⟩ ⟨gb, cap, 0⟩ w' := by
        refine Held.ofCells (by show (0 : Nat) < 3; decide) ⟨cur, (0, 0), gblk, fun k x hx => ?_, fun _ k _ => by simp, fun _ => rfl, fun _ => ⟨by simp only; omega, rfl⟩⟩
        have hk : k < n + 1 := by have := (List.getElem?_eq_some_iff.1 hx).1; simp only at this; omega
        obtain ⟨z, z1, _, z3⟩ := hy k hk
        have e1 : (cur.toList.take ((n + 1) * 1))[k]? = some (.int .u8 z) := by rw [h4']; exact z1
        rw [List.getElem?_take] at e1
        split at e1
        · exact ⟨_, by simpa using e1, (z3 x hx).mono (s.le_add (by omega) _)⟩
        · cases e1
      have s1 := s.pushAt (by omega) ⟨xs, 5, 0, 1⟩ (g := gb) (cap := cap) (by omega) hgb hb.block hb.size n1
      have x1 := Ext.pushAt s (by omega) ⟨xs, 5, 0, 1⟩ (by show (0 : Nat) ≠ 2; decide) (g := gb) (cap := cap) (by omega) hb.block hb.size hb.os hb.tape hb.output
      have dom1 : ∀ i lx, (ρ.add h.n ⟨gb, cap, 0⟩) i = some lx → lx.b < w.heap.size ∨ lx.b = gb := by
        intro i lx hi
        by_cases e : i = h.n
        · subst e; rw [Ren.add_new] at hi; cases hi; exact .inr rfl
        · exact .inl (dom0 i lx (by simpa [Ren.add, e] using hi))
      have m1n : (h.push ⟨xs, 5, 0, 1⟩).n = h.n + 1 := rfl
      generalize (h.push ⟨xs, 5, 0, 1⟩) = hp1 at s1 x1 m1n ⊢
      have nb : (ρ.add h.n ⟨gb, cap, 0⟩) h.n = some ⟨gb, cap, 0⟩ := Ren.add_new _ _ _
      generalize (ρ.add h.n ⟨gb, cap, 0⟩) = ρ1 at s1 x1 dom1 nb
      clear n1
      -- the file's
      have n2 : Held (ρ1.add hp1.n ⟨gf, 1, 0⟩) ⟨[.slice (some ⟨h.n, 0, some opened⟩) (n + 1) (n + 1), .int .i64 sy, .bool fi], 134, 0, 3⟩ ⟨gf, 1, 0⟩ w' := by
        refine Held.ofCells (by show (0 : Nat) < 3; decide) ⟨_, (0, 0), hF, fun k x hx => ?_, fun _ k _ => by simp, fun _ => rfl, fun _ => ⟨rfl, rfl⟩⟩
        simp only at hx ⊢
        have hk : k = 0 ∨ k = 1 ∨ k = 2 := by have := (List.getElem?_eq_some_iff.1 hx).1; simp at this; omega
        rcases hk with rfl | rfl | rfl
        · simp only [List.getElem?_cons_zero, Option.some.injEq] at hx
          subst hx
          refine ⟨_, rfl, ?_⟩
          show VR00 _ (.slice (some ⟨h.n, 0, some opened⟩) (n + 1) (n + 1)) (.slice (some ⟨gb, 0, none⟩) (n + 1) cap)
          exact ⟨Nat.le_refl _, ⟨gb, cap, 0⟩, 0, cap, s1.le_add (by omega) _ _ _ nb, rfl, h1', fun _ => by simp, fun hs => by simp at hs, fun _ _ _ => rfl⟩
        · simp at hx
          subst hx
          exact ⟨_, rfl, VR0.flat rfl⟩
        · simp at hx
          subst hx
          exact ⟨_, rfl, VR0.flat rfl⟩
      have s2 := s1.pushLive (by omega) ⟨[.slice (some ⟨h.n, 0, some opened⟩) (n + 1) (n + 1), .int .i64 sy, .bool fi], 134, 0, 3⟩ (g := gf) (cap := 1) (fun i lx hi => by have := dom1 i lx hi; omega) hgfl n2
      have x2 := Ext.pushLive s1 x1 (by omega) ⟨[.slice (some ⟨h.n, 0, some opened⟩) (n + 1) (n + 1), .int .i64 sy, .bool fi], 134, 0, 3⟩ (by show (0 : Nat) ≠ 2; decide) (g := gf) (cap := 1) (by omega)
      have dom2 : ∀ i lx, (ρ1.add hp1.n ⟨gf, 1, 0⟩) i = some lx → lx.b < w.heap.size ∨ gf ≤ lx.b := by
        intro i lx hi
        by_cases e : i = hp1.n
        · subst e; rw [Ren.add_new] at hi; cases hi; exact .inr (Nat.le_refl _)
        · have := dom1 i lx (by simpa [Ren.add, e] using hi); omega
      have m2n : (hp1.push ⟨[.slice (some ⟨h.n, 0, some opened⟩) (n + 1) (n + 1), .int .i64 sy, .bool fi], 134, 0, 3⟩).n = h.n + 2 := by show hp1.n + 1 = _; omega
      generalize (hp1.push ⟨[.slice (some ⟨h.n, 0, some opened⟩) (n + 1) (n + 1), .int .i64 sy, .bool fi], 134, 0, 3⟩) = hp2 at s2 x2 m2n ⊢
      have nf : (ρ1.add hp1.n ⟨gf, 1, 0⟩) (h.n + 1) = some ⟨gf, 1, 0⟩ := by rw [← m1n]; exact Ren.add_new _ _ _
      generalize (ρ1.add hp1.n ⟨gf, 1, 0⟩) = ρ2 at s2 x2 dom2 nf
      clear n2 s1 x1 dom1 nb
      -- the map's
      have n3 : Held (ρ2.add hp2.n ⟨w.heap.size + 1, 0, 0⟩) ⟨[.tuple #[.string sk, .pointer (some ⟨h.n + 1, 0, none⟩)]], 0, 3, 0⟩ ⟨w.heap.size + 1, 0, 0⟩ w' := by
        refine ⟨fun hk => absurd hk (by show ¬ (3 : Nat) < 3; decide), fun _ => ⟨_, 1, hMp, .cons ⟨_, _, rfl, VR1.flat rfl, ?_⟩ .nil, by simp, by simp⟩, fun hk => absurd hk (by show ¬ (3 : Nat) = 4; decide)⟩
        show VR00 _ (.pointer (some ⟨h.n + 1, 0, none⟩)) (.pointer (some ⟨gf, 0, none⟩))
        exact ⟨rfl, ⟨gf, 1, 0⟩, s2.le_add (by omega) _ _ _ nf, by simp⟩
      have s3 := s2.pushLive (by omega) ⟨[.tuple #[.string sk, .pointer (some ⟨h.n + 1, 0, none⟩)]], 0, 3, 0⟩ (g := w.heap.size + 1) (cap := 0) (fun i lx hi => by have := dom2 i lx hi; omega) hgm n3
      have x3 := Ext.pushLive s2 x2 (by omega) ⟨[.tuple #[.string sk, .pointer (some ⟨h.n + 1, 0, none⟩)]], 0, 3, 0⟩ (by show (3 : Nat) ≠ 2; decide) (g := w.heap.size + 1) (cap := 0) (by omega)
      have dom3 : ∀ i lx, (ρ2.add hp2.n ⟨w.heap.size + 1, 0, 0⟩) i = some lx → lx.b ≠ w.heap.size := by
        intro i lx hi
        by_cases e : i = hp2.n
        · subst e; rw [Ren.add_new] at hi; cases hi; simp
        · have := dom2 i lx (by simpa [Ren.add, e] using hi); omega
      have m3n : (hp2.push ⟨[.tuple #[.string sk, .pointer (some ⟨h.n + 1, 0, none⟩)]], 0, 3, 0⟩).n = h.n + 3 := by show hp2.n + 1 = _; omega
      generalize (hp2.push ⟨[.tuple #[.string sk, .pointer (some ⟨h.n + 1, 0, none⟩)]], 0, 3, 0⟩) = hp3 at s3 x3 m3n ⊢
      have nm : (ρ2.add hp2.n ⟨w.heap.size + 1, 0, 0⟩) (h.n + 2) = some ⟨w.heap.size + 1, 0, 0⟩ := by rw [← m2n]; exact Ren.add_new _ _ _
      generalize (ρ2.add hp2.n ⟨w.heap.size + 1, 0, 0⟩) = ρ3 at s3 x3 dom3 nm
      clear n3 s2 x2 dom2 nf
      -- the disk's
      have n4 : Held (ρ3.add hp3.n ⟨w.heap.size, 1, 0⟩) ⟨[.int .i64 q, .int .i64 u, .map (some (h.n + 2)), .bool fu, .int .i64 lf, .bool de], 90, 0, 6⟩ ⟨w.heap.size, 1, 0⟩ w' := by
        refine Held.ofCells (by show (0 : Nat) < 3; decide) ⟨_, (0, 0), hD, fun k x hx => ?_, fun _ k _ => by simp, fun _ => rfl, fun _ => ⟨rfl, rfl⟩⟩
        simp only at hx ⊢
        have hk : k = 0 ∨ k = 1 ∨ k = 2 ∨ k = 3 ∨ k = 4 ∨ k = 5 := by have := (List.getElem?_eq_some_iff.1 hx).1; simp at this; omega
        rcases hk with rfl | rfl | rfl | rfl | rfl | rfl
        case inr.inr.inl =>
          simp at hx
          subst hx
          refine ⟨_, rfl, ?_⟩
          show VR00 _ (.map (some (h.n + 2))) (.map (some (w.heap.size + 1)))
          exact ⟨⟨w.heap.size + 1, 0, 0⟩, s3.le_add (by omega) _ _ _ nm, rfl⟩
        all_goals
          simp at hx
          subst hx
          exact ⟨_, rfl, VR0.flat rfl⟩
      have s4 := s3.pushLive (by omega) ⟨[.int .i64 q, .int .i64 u, .map (some (h.n + 2)), .bool fu, .int .i64 lf, .bool de], 90, 0, 6⟩ (g := w.heap.size) (cap := 1) (fun i lx hi => dom3 i lx hi) (by omega) n4
      have x4 := Ext.pushLive s3 x3 (by omega) ⟨[.int .i64 q, .int .i64 u, .map (some (h.n + 2)), .bool fu, .int .i64 lf, .bool de], 90, 0, 6⟩ (by show (0 : Nat) ≠ 2; decide) (g := w.heap.size) (cap := 1) (Nat.le_refl _)
      refine ⟨_, _, rfl, x4, s4, ?_⟩
      show VR00 _ (.pointer (some ⟨h.n + 3, 0, none⟩)) (.pointer (some ⟨w.heap.size, 0, none⟩))
      exact ⟨rfl, ⟨w.heap.size, 1, 0⟩, by rw [← m3n]; exact Ren.add_new _ _ _, by simp⟩
end Go.Proofs.YtdcjegdghijhbaaGreatDoor
