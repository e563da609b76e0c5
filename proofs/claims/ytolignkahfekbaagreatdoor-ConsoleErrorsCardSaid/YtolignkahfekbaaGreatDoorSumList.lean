/- (*disk.Disk).List in abstract memory: what the summary says is what the call comes to. -/
import Derived.Test.YtolignkahfekbaaGreatDoorList
import Derived.Test.YtolignkahfekbaaGreatDoorRun
import Derived.Test.YtolignkahfekbaaGreatDoorShelf
namespace Go.Proofs.YtolignkahfekbaaGreatDoor
open Go Go.RowKit

theorem bytesLe_iff : ∀ (x y : List UInt8), bytesLe x y = decide (x ≤ y)
  | [], y => by simp [bytesLe]
  | a :: x, [] => by simp [bytesLe]
  | a :: x, b :: y => by
    rw [bytesLe, bytesLe_iff x y]
    have e : (a :: x ≤ b :: y) ↔ (a < b ∨ a = b ∧ x ≤ y) := List.cons_le_cons_iff
    by_cases h1 : a.toNat < b.toNat
    · rw [if_pos h1]
      have : a < b := UInt8.lt_iff_toNat_lt.2 h1
      exact (decide_eq_true (e.2 (.inl this))).symm
    · rw [if_neg h1]
      have n1 : ¬ a < b := fun h => h1 (UInt8.lt_iff_toNat_lt.1 h)
      by_cases h2 : b.toNat < a.toNat
      · rw [if_pos h2]
        refine (decide_eq_false fun h => ?_).symm
        rcases e.1 h with h | ⟨h, _⟩
        · exact n1 h
        · subst h; exact absurd h2 (Nat.lt_irrefl _)
      · rw [if_neg h2]
        have hab : a = b := UInt8.toNat_inj.1 (by omega)
        by_cases h3 : x ≤ y
        · rw [decide_eq_true h3, decide_eq_true (e.2 (.inr ⟨hab, h3⟩))]
        · rw [decide_eq_false h3]
          refine (decide_eq_false fun h => ?_).symm
          rcases e.1 h with h | ⟨_, h⟩
          · exact n1 h
          · exact h3 h
theorem insB_perm (x : List UInt8) : ∀ l, (insB x l).Perm (x :: l)
  | [] => .refl _
  | y :: r => by
    unfold insB
    split
    · exact .refl _
    · exact ((insB_perm x r).cons y).trans (.swap x y r)
theorem sortB_perm : ∀ l, (sortB l).Perm l
  | [] => .refl _
  | x :: r => (insB_perm x (sortB r)).trans ((sortB_perm r).cons x)
theorem le_total_l (x y : List UInt8) : x ≤ y ∨ y ≤ x := List.le_total x y
theorem le_trans_l {x y z : List UInt8} (h1 : x ≤ y) (h2 : y ≤ z) : x ≤ z := List.le_trans h1 h2
theorem insB_sorted (x : List UInt8) : ∀ l : List (List UInt8), l.Pairwise (· ≤ ·) → (insB x l).Pairwise (· ≤ ·)
  | [], _ => by simp [insB]
  | y :: r, h => by
    obtain ⟨h1, h2⟩ := List.pairwise_cons.1 h
    unfold insB
    split
    · rename_i hb
      rw [bytesLe_iff] at hb
      have hb := of_decide_eq_true hb
      refine List.pairwise_cons.2 ⟨fun q hq => ?_, h⟩
      rcases List.mem_cons.1 hq with rfl | hq
      · exact hb
      · exact le_trans_l hb (h1 q hq)
    · rename_i hb
      rw [bytesLe_iff] at hb
      have hyx : y ≤ x := by
        rcases le_total_l x y with h' | h'
        · exact absurd (decide_eq_true h') hb
        · exact h'
      refine List.pairwise_cons.2 ⟨fun q hq => ?_, insB_sorted x r h2⟩
      rcases List.mem_cons.1 ((insB_perm x r).mem_iff.1 hq) with rfl | hq
      · exact hyx
      · exact h1 q hq
theorem sortB_sorted : ∀ l, (sortB l).Pairwise (· ≤ ·)
  | [] => .nil
  | x :: r => insB_sorted x _ (sortB_sorted r)
theorem sortB_eq (l : List (List UInt8)) : (l.mergeSort fun x y => decide (x ≤ y)) = sortB l := by
  rw [mergeSort_of_perm (sortB_perm l).symm]
  exact List.mergeSort_of_pairwise ((sortB_sorted l).imp fun h => decide_eq_true h)
variable [Toks]
omit [Toks] in
theorem startsB_keys (pre : List UInt8) : ∀ es : List MapEntry, keysOf es pre = (es.map keyB).filter (startsB pre)
  | [] => rfl
  | e :: es => by
    have ih := startsB_keys pre es
    unfold keysOf at ih ⊢
    rw [List.map_cons, List.filter_cons, List.filter_cons]
    split
    · rw [List.map_cons, ih]
    · exact ih
theorem keysB_ok {ρ : Ren} : ∀ {l : List Value} {es : List MapEntry} {ks : List (List UInt8)}, LR (EntR ρ) l es → keysB l = some ks → es.map keyB = ks ∧ ∀ e ∈ es, ∃ s, e.key = .string s
  | _, _, ks, .nil, h => by
    simp only [keysB, Option.some.injEq] at h
    subst h
    exact ⟨rfl, fun e he => nomatch he⟩
  | _, _, ks, .cons (b := e) h1 h2, h => by
    obtain ⟨a, b, rfl, k1, _⟩ := h1
    unfold keysB at h
    split at h
    · cases ‹_ :: _ = []›
    · rename_i k v r heq
      injection heq with e1 e2
      simp only [Value.tuple.injEq, Array.mk.injEq, List.cons.injEq, and_true] at e1
      obtain ⟨rfl, rfl⟩ := e1
      subst e2
      simp only [Option.bind_eq_some_iff, Option.some.injEq] at h
      obtain ⟨l, hl, rfl⟩ := h
      obtain ⟨i1, i2⟩ := keysB_ok h2 hl
      have ek : e.key = .string k := VR1.eq rfl k1
      refine ⟨by rw [List.map_cons, i1]; simp [keyB, ek], fun x hx => ?_⟩
      rcases List.mem_cons.1 hx with rfl | hx
      · exact ⟨_, ek⟩
      · exact i2 x hx
    · cases h
omit [Toks] in
theorem sort_str : SortStr := fun blk off cap ss w hH hblk hsz => Go.Proofs.Tryz.slices_Sort_string blk off cap ss w hH hblk hsz
omit [Toks] in
theorem list_fn : ∃ fn, Tryz.prog.funcs[103]? = some fn ∧ fn.body.isNone = false ∧ (fn.name == "runtime.NumGoroutine") = false := ⟨_, Tryz.func103, rfl, by decide +kernel⟩
theorem summList_ok (hnil : ∀ w, Calls Tryz.prog 158 #[.slice none 0 0] w fun e w' => e = .returned (.tuple #[]) ∧ Below w.heap.size w w') : CallOk Tryz.prog (summList 103 2 9) := by
  intro M ρ h w f args args' v h' s hM ha hv
  unfold summList at hv
  split at hv
  · rename_i a pre
    split at hv
    · rename_i hc
      obtain ⟨rfl, hsp⟩ := hc
      simp only [Option.bind_eq_some_iff] at hv
      obtain ⟨o, ho, hv⟩ := hv
      split at hv
      · rename_i r hr
        simp only [Option.bind_eq_some_iff] at hv
        obtain ⟨m, hm, hv⟩ := hv
        split at hv
        · rename_i hk3
          simp only [Option.bind_eq_some_iff] at hv
          obtain ⟨ks, hks, hv⟩ := hv
          obtain ⟨fn, f1, f2, f3⟩ := list_fn
          refine ⟨fn, f1, f2, f3, ?_⟩
          obtain ⟨arr⟩ := args'
          cases ha with
          | cons p1 ha =>
            cases ha with
            | cons p2 ha =>
              cases ha
              obtain ⟨_, l, hl, rfl⟩ := p1.ptr
              obtain rfl := p2.string
              obtain ⟨ho, ho3⟩ := AHeap.cel_get ho
              obtain ⟨cs, fz, c1, c2, _⟩ := (s.ok _ o l ho hl).cells ho3
              obtain ⟨u, hu, hur⟩ := c2 _ _ hr
              obtain ⟨l2, hl2, rfl⟩ := hur
              obtain ⟨es, ck, m1, m2, m3, m4⟩ := (s.ok _ m l2 hm hl2).map hk3.1
              have hcell : w.cell? ⟨l.b, l.o + a.off + 2, none⟩ = some (.map (some l2.b)) := by simp [World.cell?, c1, Nat.add_assoc, hu]
              obtain ⟨k1, k2⟩ := keysB_ok m2 hks
              have hlen : es.size ≤ 1048576 := by have := m2.length; rw [Array.length_toList] at this; omega
              refine (List_any sort_str hnil l.b (l.o + a.off) l2.b ck es pre w hcell m1 m4 m3 k2 hlen).mono ?_
              rintro e w' ⟨v', rfl, hb, hown, hemp⟩
              rw [startsB_keys, k1, sortB_eq] at hown
              rw [startsB_keys, k1] at hemp
              have hlk : (sortB (ks.filter (startsB pre.data.toList))).length = (ks.filter (startsB pre.data.toList)).length := (sortB_perm _).length_eq
              split at hv
              · rename_i hie
                simp only [Option.some.injEq, Prod.mk.injEq] at hv
                obtain ⟨rfl, rfl⟩ := hv
                have hnl : ks.filter (startsB pre.data.toList) = [] := by
                  rw [List.isEmpty_iff] at hie
                  rw [hie] at hlk
                  exact List.eq_nil_of_length_eq_zero hlk.symm
                have := hemp hnl
                subst this
                exact ⟨ρ, .slice none 0 0, rfl, Ext.below s hb.block hb.size hb.os hb.tape hb.output, s.below hb.block hb.size, VR.flat rfl⟩
              · rename_i hie
                simp only [Option.some.injEq, Prod.mk.injEq] at hv
                obtain ⟨rfl, rfl⟩ := hv
                rcases hown.2 with ⟨hn, h0⟩ | ⟨g, cap, cur, rfl, g1, g2, g3, g4, g5, g6⟩
                · exfalso
                  apply hie
                  rw [List.isEmpty_iff]
                  exact List.eq_nil_of_length_eq_zero (by omega)
                · have hlt : g < w'.heap.size := (Array.getElem?_eq_some_iff.1 g2).1
                  have hnew : Held (ρ.add h.n ⟨g, cap, 0⟩) ⟨(sortB (ks.filter (startsB pre.data.toList))).map fun b => .string ⟨b.toArray⟩, 9, 0, 1⟩ ⟨g, cap, 0⟩ w' := by
                    refine Held.ofCells (by show (0 : Nat) < 3; decide) ⟨cur, (0, 0), g2, fun k u hu => ?_, fun _ k _ => by simp, fun _ => rfl, fun _ => ⟨by simp only; omega, rfl⟩⟩
                    simp only at hu
                    have hk := (List.getElem?_eq_some_iff.1 hu).1
                    have e1 : (cur.toList.take ((ks.filter (startsB pre.data.toList)).length * 1))[k]? = some u := by rw [g6]; exact hu
                    rw [List.getElem?_take] at e1
                    split at e1
                    · refine ⟨u, by simpa using e1, ?_⟩
                      rw [List.getElem?_map, Option.map_eq_some_iff] at hu
                      obtain ⟨b, _, rfl⟩ := hu
                      exact VR0.flat rfl
                    · cases e1
                  have hMn : h.n < M := by simp only [AHeap.push] at hM; omega
                  refine ⟨ρ.add h.n ⟨g, cap, 0⟩, _, rfl, Ext.pushAt s hMn _ (by show (0 : Nat) ≠ 2; decide) (by omega) hb.block hb.size hb.os hb.tape hb.output, s.pushAt hMn _ (by omega) hlt hb.block hb.size hnew, ?_⟩
                  show VR _ (.slice (some ⟨h.n, 0, some opened⟩) _ _) (.slice (some ⟨g, 0, none⟩) _ cap)
                  refine ⟨Nat.le_refl _, ⟨g, cap, 0⟩, 0, cap, Ren.add_new _ _ _, by rw [hlk], by rw [hlk]; exact g3, fun _ => by simp, fun hs => by simp at hs, fun _ _ _ => rfl⟩
        · cases hv
      · cases hv
    · cases hv
  · cases hv
omit [Toks] in
theorem summList_mono : CallMono (summList 103 2 9) := by
  intro f args h v h' hv
  unfold summList at hv
  split at hv
  · split at hv
    · simp only [Option.bind_eq_some_iff] at hv
      obtain ⟨o, _, hv⟩ := hv
      split at hv
      · simp only [Option.bind_eq_some_iff] at hv
        obtain ⟨m, _, hv⟩ := hv
        split at hv
        · simp only [Option.bind_eq_some_iff] at hv
          obtain ⟨ks, _, hv⟩ := hv
          split at hv <;> (simp only [Option.some.injEq, Prod.mk.injEq] at hv; rw [← hv.2])
          · exact Nat.le_refl _
          · exact Nat.le_succ _
        · cases hv
      · cases hv
    · cases hv
  · cases hv
end Go.Proofs.YtolignkahfekbaaGreatDoor
