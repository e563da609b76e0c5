/- Windows, processes, the hands in memory; messages. -/
import Derived.Test.YtiflhfhonhbcpaaVol
import Derived.Deep.Upon
import Derived.Deep.MidRow
namespace Go.Proofs.Ytiflhfhonhbcpaa.Hw
open Go Go.RowKit Go.Proofs.Ytiflhfhonhbcpaa Go.Proofs.Ytiflhfhonhbcpaa.Crw Go.Proofs.Ytiflhfhonhbcpaa.Vl Go.ChangeShapes Go.WideShapes Go.ChangeAt
set_option linter.unusedVariables false
set_option maxRecDepth 100000
/-- The slice v has n elements, xs their cells, wherever in its block they lie. -/
def Win (w : World) (B : Nat) (e : TypeId) (z : Nat) (v : Value) (n : Nat) (xs : List Value) : Prop :=
  xs.length = n * z ∧ ∃ A c, v = .slice A n c ∧ n ≤ c ∧ c ≤ maxLen ∧ (0 < c → A ≠ none) ∧ ∀ a, A = some a → ∃ g o cur, a = ⟨g, o, none⟩ ∧ B ≤ g ∧ w.heap[g]? = some (.cells cur e (0, 0)) ∧ o + c * z ≤ cur.size ∧ (cur.toList.drop o).take (n * z) = xs
section
variable {w w' : World} {B z n : Nat} {e : TypeId} {v : Value} {xs : List Value} {U : Nat → Prop}
theorem Win.nil (w : World) (B : Nat) (e : TypeId) (z : Nat) : Win w B e z (.slice none 0 0) 0 [] :=
  ⟨by simp, none, 0, rfl, Nat.le_refl _, by decide, fun h => absurd h (Nat.lt_irrefl _), fun b h => by cases h⟩
theorem Win.of_own (h : w.ownsRow B e z v n xs) : Win w B e z v n xs := by
  rcases h.2 with ⟨rfl, rfl⟩ | ⟨g, cap, cur, rfl, h2, h3, h4, h5, h6, h7⟩
  · have : xs = [] := List.eq_nil_of_length_eq_zero (by simpa using h.1)
    subst this
    exact Win.nil w B e z
  · refine ⟨h.1, _, cap, rfl, h4, h5, fun _ => by simp, fun b hb => ?_⟩
    injection hb with hb
    exact ⟨g, 0, cur, hb.symm, h2, h3, by omega, by simpa using h7⟩
theorem Win.vol (h : Win w B e z v n xs) (hv : Vol U w w') (hn : ∀ b, v.ownBlock = some b → ¬ U b) : Win w' B e z v n xs := by
  obtain ⟨h1, A, c, rfl, h3, h4, h5, h6⟩ := h
  refine ⟨h1, A, c, rfl, h3, h4, h5, fun b hb => ?_⟩
  obtain ⟨g, o, cur, rfl, k2, k3, k4, k5⟩ := h6 b hb
  subst hb
  exact ⟨g, o, cur, rfl, k2, (hv.block g (Array.getElem?_eq_some_iff.1 k3).1 (hn g rfl)).trans k3, k4, k5⟩
theorem Win.below (h : Win w B e z v n xs) (hb : Below w.heap.size w w') : Win w' B e z v n xs := h.vol (U := fun _ => False) (Vol.of_below hb) (fun _ _ => id)
theorem Win.alloc (h : Win w B e z v n xs) (o : Obj) : Win (w.alloc o) B e z v n xs := h.below ((Below.refl _ _).alloc (Nat.le_refl _) _)
theorem Win.reads {A : Option Addr} {c : Nat} (h : Win w B e z (.slice A n c) n xs) : Reads w w.heap.size z A n xs := by
  obtain ⟨h1, A', c', e1, h3, h4, h5, h6⟩ := h
  injection e1 with e1 _ e2
  subst e1 e2
  refine ⟨h1, fun hn => ?_⟩
  rcases A with _ | a
  · exact absurd rfl (h5 (by omega))
  obtain ⟨g, o, cur, rfl, k2, k3, k4, k5⟩ := h6 a rfl
  refine ⟨_, rfl, (Array.getElem?_eq_some_iff.1 k3).1, fun j u hu => ?_⟩
  rw [← k5, List.getElem?_take] at hu
  split at hu
  · rw [List.getElem?_drop] at hu
    have e2 : ((⟨g, o, none⟩ : Addr).add j) = ⟨g, o + j, none⟩ := Addr.add_lit ..
    rw [e2, (show Blk w g e cur from k3).cell]
    simpa using hu
  · cases hu
/-- What a window at an address is. -/
theorem Win.open_ {a : Addr} {c : Nat} (h : Win w B e z (.slice (some a) n c) n xs) : ∃ g o cur, a = ⟨g, o, none⟩ ∧ B ≤ g ∧ Blk w g e cur ∧ o + c * z ≤ cur.size ∧ (cur.toList.drop o).take (n * z) = xs := by
  obtain ⟨h1, A', c', e1, h3, h4, h5, h6⟩ := h
  injection e1 with e1 _ e2
  subst e1 e2
  exact h6 a rfl
theorem Win.form (h : Win w B e z v n xs) : ∃ A c, v = .slice A n c ∧ n ≤ c ∧ c ≤ maxLen ∧ (0 < c → A ≠ none) := by
  obtain ⟨h1, A, c, e1, h3, h4, h5, _⟩ := h
  exact ⟨A, c, e1, h3, h4, h5⟩
theorem Win.at (h : Win w B e z v n xs) (hn : 0 < n) : ∃ g o c, v = .slice (some ⟨g, o, none⟩) n c ∧ n ≤ c ∧ c ≤ maxLen := by
  obtain ⟨A, c, rfl, h3, h4, h5⟩ := h.form
  rcases A with _ | a
  · exact absurd rfl (h5 (by omega))
  obtain ⟨g, o, cur, rfl, _⟩ := h.open_
  exact ⟨g, o, c, rfl, h3, h4⟩
theorem Win.own (h : Win w B e z v n xs) {b : Nat} (hb : v.ownBlock = some b) : B ≤ b ∧ ∃ cur, Blk w b e cur := by
  obtain ⟨A, c, rfl, h3, h4, h5⟩ := h.form
  rcases A with _ | a
  · simp [Value.ownBlock] at hb
  obtain ⟨g, o, cur, rfl, k2, k3, _⟩ := h.open_
  simp only [Value.ownBlock, Option.some.injEq] at hb
  subst hb
  exact ⟨k2, cur, k3⟩
theorem Win.blk_lt (h : Win w B e z v n xs) {b : Nat} (hb : v.ownBlock = some b) : B ≤ b ∧ b < w.heap.size := by
  obtain ⟨h1, cur, h2⟩ := h.own hb
  exact ⟨h1, h2.lt⟩
theorem Win.cell {g o c : Nat} (h : Win w B e z (.slice (some ⟨g, o, none⟩) n c) n xs) {i : Nat} (hi : i < n * z) : w.cell? ⟨g, o + i, none⟩ = xs[i]? := by
  obtain ⟨g', o', cur, e1, k2, k3, k4, k5⟩ := h.open_
  injection e1 with e1 e2
  subst e1 e2
  rw [k3.cell, ← k5, List.getElem?_take, if_pos hi, List.getElem?_drop]
  simp
theorem Win.frozen {g o c : Nat} (h : Win w B e z (.slice (some ⟨g, o, none⟩) n c) n xs) (i : Nat) : w.frozen? ⟨g, i, none⟩ = false := by
  obtain ⟨g', o', cur, e1, k2, k3, k4, k5⟩ := h.open_
  injection e1 with e1 e2
  subst e1
  exact k3.frozen i
theorem Win.set {g o c : Nat} (h : Win w B e z (.slice (some ⟨g, o, none⟩) n c) n xs) {i : Nat} (hi : i < n * z) (u : Value) : Win (w.setCell ⟨g, o + i, none⟩ u) B e z (.slice (some ⟨g, o, none⟩) n c) n (xs.set i u) := by
  have h0 := h
  obtain ⟨h1, A, c', e1, h3, h4, h5, h6⟩ := h
  injection e1 with _ _ e1
  subst e1
  obtain ⟨g', o', cur, e1, k2, k3, k4, k5⟩ := h0.open_
  injection e1 with e1 e2
  subst e1 e2
  have hcz : n * z ≤ c * z := Nat.mul_le_mul_right _ h3
  refine ⟨by simpa using h1, _, c, rfl, h3, h4, fun _ => by simp, fun b hb => ?_⟩
  injection hb with hb
  refine ⟨g, o, _, hb.symm, k2, k3.set_ (o + i) u, by simpa using k4, ?_⟩
  rw [← k5]
  apply List.ext_getElem?
  intro j
  simp only [List.getElem?_take, List.getElem?_drop, List.getElem?_set, Array.toList_setIfInBounds, List.length_take, List.length_drop, Array.length_toList]
  by_cases hj : j < n * z
  · by_cases hij : i = j
    · subst hij
      rw [if_pos hj, if_pos rfl, if_pos rfl, if_pos (by omega), if_pos (by omega)]
    · rw [if_pos hj, if_neg (by omega), if_neg hij, if_pos hj]
  · rw [if_neg hj, if_neg (by omega : ¬ i = j), if_neg hj]
theorem Win.tail {g o c : Nat} (h : Win w B e z (.slice (some ⟨g, o, none⟩) n c) n xs) (hn : 0 < n) {A : Option Addr} (hA : A = if c = 1 then some ⟨g, o, none⟩ else some ⟨g, o + z, none⟩) : Win w B e z (.slice A (n - 1) (c - 1)) (n - 1) (xs.drop z) := by
  have h0 := h
  obtain ⟨h1, A', c', e1, h3, h4, h5, h6⟩ := h
  injection e1 with _ _ e1
  subst e1
  obtain ⟨g', o', cur, e1, k2, k3, k4, k5⟩ := h0.open_
  injection e1 with e1 e2
  subst e1 e2
  obtain ⟨m, rfl⟩ : ∃ m, n = m + 1 := ⟨n - 1, by omega⟩
  obtain ⟨d, rfl⟩ : ∃ d, c = d + 1 := ⟨c - 1, by omega⟩
  simp only [Nat.add_mul, Nat.one_mul] at h1 k4 k5
  refine ⟨by simp [h1], A, _, rfl, by omega, by omega, fun hd => by rw [hA]; split <;> simp, fun b hb => ?_⟩
  rw [hA] at hb
  by_cases hd : d + 1 = 1
  · rw [if_pos hd] at hb
    injection hb with hb
    refine ⟨g, o, cur, hb.symm, k2, k3, by simp; omega, ?_⟩
    have hm : m = 0 := by omega
    have hd0 : d = 0 := by omega
    subst hm
    have hx0 : xs.drop z = [] := List.eq_nil_of_length_eq_zero (by simp [h1])
    rw [hx0]
    simp
  · rw [if_neg hd] at hb
    injection hb with hb
    refine ⟨g, o + z, cur, hb.symm, k2, k3, by simp; omega, ?_⟩
    rw [← k5, Nat.add_sub_cancel, List.drop_take, List.drop_drop, Nat.add_sub_cancel]
theorem Win.down {B' : Nat} (h : Win w B e z v n xs) (hb : B' ≤ B) : Win w B' e z v n xs := by
  obtain ⟨h1, A, c, e1, h3, h4, h5, h6⟩ := h
  refine ⟨h1, A, c, e1, h3, h4, h5, fun a ha => ?_⟩
  obtain ⟨g, o, cur, k1, k2, k3⟩ := h6 a ha
  exact ⟨g, o, cur, k1, Nat.le_trans hb k2, k3⟩
theorem Win.blk_ne {g : Nat} {t : TypeId} {cs : Array Value} (h : Win w B e z v n xs) (hg : Blk w g t cs) (hne : e ≠ t) : v.ownBlock ≠ some g := by
  intro he
  obtain ⟨_, cur, h2⟩ := h.own he
  exact h2.ne_ hg hne rfl
theorem Win.own_ne {B' z' n' : Nat} {e' : TypeId} {v' : Value} {xs' : List Value} (h : Win w B e z v n xs) (h' : w.ownsRow B' e' z' v' n' xs') (hne : e ≠ e') {b : Nat} (hb : v.ownBlock = some b) : v'.ownBlock ≠ some b := by
  obtain ⟨_, cur, h2⟩ := h.own hb
  exact own_blk_ne h' h2 (fun e => hne e.symm)
theorem Win.map_ne {b : Nat} {kvs : List (Value × Value)} (h : Win w B e z v n xs) (hm : MapAt w b kvs) : v.ownBlock ≠ some b := by
  intro he
  obtain ⟨_, cur, h2⟩ := h.own he
  exact blk_map_ne h2 hm rfl
end
section
variable {P : Program} (w : World)
theorem run_append_win (base : Nat) (t ty e : TypeId) (i : TypeInfo) (z : Value) (size bytes : Nat) (ht : P.underlying t = some (.slice e)) (hi : P.info? e = some i) (hz : i.zero = some z)
    (hsize : i.size = size) (hby : i.bytes = bytes) (hzs : z.cells.size = size)
    (v : Value) (n : Nat) (xs : List Value) (hown : Win w base e size v n xs)
    (ad : Addr) (m c : Nat) (news : List Value) (hnl : news.length = m * size) (hcells : ∀ j u, news[j]? = some u → w.cell? (ad.add j) = some u) (h1 : ∀ u ∈ news, u.oneCell' = true)
    (hm : 0 < m) (h63 : n + m ≤ maxLen) (hbytes : (n + m) * bytes ≤ 140737488355328) (hbase : base ≤ w.heap.size) :
    ∃ v' w', (Builtin.append_ #[t, t] ty #[v, .slice (some ad) m c]).run P w = .ok v' w' ∧ Win w' base e size v' (n + m) (xs ++ news) ∧ w.grownBy w' v.ownBlock ∧
      (v'.ownBlock = v.ownBlock ∨ v'.ownBlock = some w.heap.size) := by
  subst hsize hby
  have h0 := hown
  obtain ⟨hxl, A, sc, rfl, h3, h4, h5, h6⟩ := hown
  have hs : Src P i.size t (.slice (some ad) m c) m news w := Src.ofSlice w ht ad m c news hnl hcells h1
  by_cases hfit : n + m ≤ sc
  · rcases A with _ | a
    · exact absurd rfl (h5 (by omega))
    obtain ⟨g, o, cur, rfl, k2, k3, k4, k5⟩ := h6 a rfl
    have hb : Blk w g e cur := k3
    have hle : (n + m) * i.size ≤ sc * i.size := Nat.mul_le_mul_right _ hfit
    rw [Nat.add_mul] at hle
    have hin : o + n * i.size + news.length ≤ cur.size := by omega
    have hsm : ∀ j, j < news.length → (w.cell? ⟨g, o + n * i.size + j, none⟩).isSome = true := fun j hj => by
      rw [hb.cell, Array.getElem?_eq_getElem (by omega)]
      rfl
    have hrun := run_append_room_src (P := P) w t t ty e i ht hi g o n sc _ m news hs hfit hsm (fun j _ => hb.frozen _)
    have hrow := setCells_row (P := P) w g (o + n * i.size) e news cur k3 hin h1
    refine ⟨_, _, hrun, ?_, ?_, .inl rfl⟩
    · rw [hrow]
      refine ⟨by simp [hxl, hnl, Nat.add_mul], _, sc, rfl, hfit, h4, fun _ => by simp, fun b hb2 => ?_⟩
      injection hb2 with hb2
      refine ⟨g, o, _, hb2.symm, k2, setRow_heap w g cur _ _ _ k3, ?_, ?_⟩
      · simp
        omega
      · rw [← k5]
        simp only [List.append_assoc]
        have hln : (cur.toList.take (o + n * i.size)).length = o + n * i.size := by rw [List.length_take]; simp; omega
        rw [List.drop_append_of_le_length (by omega), List.drop_take, Nat.add_sub_cancel_left]
        have hl2 : (List.take (n * i.size) (cur.toList.drop o)).length = n * i.size := by rw [List.length_take, List.length_drop]; simp; omega
        rw [Nat.add_mul]
        rw [← List.append_assoc, List.take_append_of_le_length (by simp only [List.length_append, hl2, hnl]; omega)]
        exact List.take_of_length_le (by simp only [List.length_append, hl2, hnl]; omega)
    · rw [hrow]
      exact grown_setRow w g _
  · have hold : (Builtin.firstCells i.size n (.slice A n sc)).run P w.drew = .ok xs.toArray w.drew := by
      rcases A with _ | a
      · have hn0 : n = 0 := by
          rcases Nat.eq_zero_or_pos sc with h | h
          · omega
          · exact absurd rfl (h5 h)
        subst hn0
        have : xs = [] := List.eq_nil_of_length_eq_zero (by simpa using hxl)
        subst this
        exact run_firstCells_none w.drew i.size 0 0 sc
      · refine run_firstCells_some w.drew i.size n a n sc xs hxl (fun j u hu => ?_)
        have hr := h0.reads
        rcases Nat.eq_zero_or_pos n with hn | hn
        · subst hn
          have : xs = [] := List.eq_nil_of_length_eq_zero (by simpa using hxl)
          subst this
          simp at hu
        · obtain ⟨a', e1, _, hc⟩ := hr.2 hn
          injection e1 with e1
          subst e1
          exact hc j u hu
    have hg : sc < n + m := by omega
    have hsmall : n + m ≤ 9223372036854775807 := by simp only [maxLen] at h63; omega
    have hrun := run_append_grow_src (P := P) w t t ty e i z ht hi hz A n sc xs hold _ m news hs hg (by omega) (growslice_fits hg hbytes)
    have hge := grownCap_ge w (n + m) sc e
    have hcm := grownCap_le_maxLen w (n + m) sc e h63
    have hL : (xs ++ news).length = (n + m) * i.size := by rw [List.length_append, hxl, hnl, Nat.add_mul]
    have hn1 : (w.drew.alloc (.cells ((xs ++ news).toArray ++ Builtin.zeroCells z.cells (grownCap w (n + m) sc e - (n + m))) e)).heap[w.heap.size]? = some (.cells ((xs ++ news).toArray ++ Builtin.zeroCells z.cells (grownCap w (n + m) sc e - (n + m))) e (0, 0)) := heap_alloc_new w.drew _
    refine ⟨_, _, hrun, ⟨hL, _, _, rfl, by omega, hcm, fun _ => by simp, fun b hb2 => ?_⟩, ?_, .inr rfl⟩
    · injection hb2 with hb2
      refine ⟨w.heap.size, 0, _, hb2.symm, hbase, hn1, ?_, ?_⟩
      · rw [Array.size_append, List.size_toArray, hL, size_zeroCells, hzs, ← Nat.add_mul, Nat.zero_add]
        exact Nat.mul_le_mul_right _ (by omega)
      · simp only [List.drop_zero, Array.toList_append]
        rw [List.take_append_of_le_length (by simp only [hL]; omega), List.take_of_length_le (by simp only [hL]; omega)]
    · exact ⟨rfl, rfl, rfl, by simp, fun k hk _ => Below.heap_alloc w.drew _ k hk⟩
theorem wp_append_win {o : Oper} {a : Act} {K : Act → World → Prop} {Q : Exit → Act → World → Prop} (s x : Operand) (t : TypeId)
    (ho : o.op = .call { callee := .builtin .append, args := #[s, x], argTypes := #[t, t] })
    (base : Nat) (e : TypeId) (i : TypeInfo) (z : Value) (size bytes : Nat) (ht : P.underlying t = some (.slice e)) (hi : P.info? e = some i) (hz : i.zero = some z)
    (hsize : i.size = size) (hby : i.bytes = bytes) (hzs : z.cells.size = size)
    (v : Value) (n : Nat) (xs : List Value) (hs : a.eval s = v) (hown : Win w base e size v n xs)
    (ad : Addr) (m c : Nat) (news : List Value) (hx : a.eval x = .slice (some ad) m c) (hnl : news.length = m * size) (hcells : ∀ j u, news[j]? = some u → w.cell? (ad.add j) = some u) (h1 : ∀ u ∈ news, u.oneCell' = true)
    (hm : 0 < m) (h63 : n + m ≤ maxLen) (hbytes : (n + m) * bytes ≤ 140737488355328) (hbase : base ≤ w.heap.size)
    (h : ∀ v' w', Win w' base e size v' (n + m) (xs ++ news) → w.grownBy w' v.ownBlock → (v'.ownBlock = v.ownBlock ∨ v'.ownBlock = some w.heap.size) → K (a.put o.dst v') w') : o.wp P a w K Q := by
  obtain ⟨v', w', hrun, h2, h3, h4⟩ := run_append_win (P := P) w base t o.type e i z size bytes ht hi hz hsize hby hzs v n xs hown ad m c news hnl hcells h1 hm h63 hbytes hbase
  unfold Oper.wp execOp
  simp only [ho, resolve, invoke, builtin, Sem.run_bind, Sem.run_pure, Result.andThen_ok, List.map_toArray, List.map_cons, List.map_nil, hs, hx, hrun]
  exact h v' w' h2 h3 h4
theorem wpList_append_win {ops : Array Oper} {rest : List Oper} {o : Oper} {a : Act} {Q : Exit → Act → World → Prop} (hgd : o.guard = none) (s x : Operand) (t : TypeId)
    (ho : o.op = .call { callee := .builtin .append, args := #[s, x], argTypes := #[t, t] })
    (base : Nat) (e : TypeId) (i : TypeInfo) (z : Value) (size bytes : Nat) (ht : P.underlying t = some (.slice e)) (hi : P.info? e = some i) (hz : i.zero = some z)
    (hsize : i.size = size) (hby : i.bytes = bytes) (hzs : z.cells.size = size)
    (v : Value) (n : Nat) (xs : List Value) (hs : a.eval s = v) (hown : Win w base e size v n xs)
    (ad : Addr) (m c : Nat) (news : List Value) (hx : a.eval x = .slice (some ad) m c) (hnl : news.length = m * size) (hcells : ∀ j u, news[j]? = some u → w.cell? (ad.add j) = some u) (h1 : ∀ u ∈ news, u.oneCell' = true)
    (hm : 0 < m) (h63 : n + m ≤ maxLen) (hbytes : (n + m) * bytes ≤ 140737488355328) (hbase : base ≤ w.heap.size)
    (h : ∀ v' w', Win w' base e size v' (n + m) (xs ++ news) → w.grownBy w' v.ownBlock → (v'.ownBlock = v.ownBlock ∨ v'.ownBlock = some w.heap.size) → wpList P ops Q rest (a.put o.dst v') w') : wpList P ops Q (o :: rest) a w :=
  wpList_plain hgd fun _ hK => wp_append_win w s x t ho base e i z size bytes ht hi hz hsize hby hzs v n xs hs hown ad m c news hx hnl hcells h1 hm h63 hbytes hbase fun v' w' h2 h3 h4 => hK _ _ (h v' w' h2 h3 h4)
end
end Go.Proofs.Ytiflhfhonhbcpaa.Hw
namespace Go.Proofs.Ytiflhfhonhbcpaa.Hw
open Go Go.RowKit Go.Proofs.Ytiflhfhonhbcpaa Go.Proofs.Ytiflhfhonhbcpaa.Crw Go.Proofs.Ytiflhfhonhbcpaa.Vl Go.ChangeShapes Go.WideShapes Go.ChangeAt
set_option linter.unusedVariables false
set_option maxRecDepth 100000
/-- A run's name. -/
structure Pm where
  f : ByteArray
  e : ByteArray
  n : Int
/-- A task of a process. -/
structure Tq where
  t : ByteArray
  b : Bool
abbrev tqC (x : Tq) : List Value := [.string x.t, .bool x.b]
abbrev tqV (l : List Tq) : List Value := l.flatMap tqC
theorem tqV_len (L : List Tq) : (tqV L).length = L.length * 2 := by
  induction L with
  | nil => rfl
  | cons a r ih => rw [show tqV (a :: r) = tqC a ++ tqV r by simp [tqV]]; simp [ih]; omega
theorem tqV_get (L : List Tq) (k : Nat) (x : Tq) (h : L[k]? = some x) (j : Nat) (hj : j < 2) : (tqV L)[k * 2 + j]? = (tqC x)[j]? := by
  induction L generalizing k with
  | nil => simp at h
  | cons a r ih =>
    have e : tqV (a :: r) = tqC a ++ tqV r := by simp [tqV]
    cases k with
    | zero =>
      simp only [List.getElem?_cons_zero, Option.some.injEq] at h
      subst h
      rw [e, Nat.zero_mul, Nat.zero_add, List.getElem?_append_left (by simpa using hj)]
    | succ k =>
      have e2 : (k + 1) * 2 + j = 2 + (k * 2 + j) := by omega
      rw [e, e2, List.getElem?_append_right (by simp), show (tqC a).length = 2 by rfl, Nat.add_sub_cancel_left]
      exact ih k (by simpa using h)
theorem tqV_append (L M : List Tq) : tqV (L ++ M) = tqV L ++ tqV M := by simp [tqV]
theorem tqV_take (L : List Tq) (k : Nat) : (tqV L).take (k * 2) = tqV (L.take k) := by
  induction L generalizing k with
  | nil => simp
  | cons a r ih =>
    have e : tqV (a :: r) = tqC a ++ tqV r := by simp [tqV]
    cases k with
    | zero => simp
    | succ k =>
      rw [e, show (k + 1) * 2 = 2 + k * 2 by omega, List.take_succ_cons, show tqV (a :: r.take k) = tqC a ++ tqV (r.take k) by simp [tqV], ← ih k]
      rw [show 2 = (tqC a).length by rfl, List.take_length_add_append]
theorem tqV_drop (L : List Tq) (k : Nat) : (tqV L).drop (k * 2) = tqV (L.drop k) := by
  induction L generalizing k with
  | nil => simp
  | cons a r ih =>
    have e : tqV (a :: r) = tqC a ++ tqV r := by simp [tqV]
    cases k with
    | zero => simp
    | succ k =>
      rw [e, show (k + 1) * 2 = 2 + k * 2 by omega, List.drop_succ_cons, ← ih k]
      rw [show 2 = (tqC a).length by rfl, List.drop_length_add_append]
theorem tqV_one (L : List Tq) : ∀ u ∈ tqV L, u.oneCell' = true := by
  intro u hu
  obtain ⟨r, _, hr⟩ := List.mem_flatMap.1 hu
  simp only [tqC, List.mem_cons, List.not_mem_nil, or_false] at hr
  rcases hr with rfl | rfl <;> rfl
/-- A process in memory. -/
structure Pr where
  g : Nat
  r : Pm
  lv : Bool
  tv : Value
  ts : List Tq
structure Ps (w : World) (B : Nat) (pt tt : TypeId) (cs : Pr → Array Value) (V : Nat → Prop) (R : List Pr) : Prop where
  prs : ∀ (k : Nat) (p : Pr), R[k]? = some p → Blk w p.g pt (cs p)
  tks : ∀ (k : Nat) (p : Pr), R[k]? = some p → Win w B tt 2 p.tv p.ts.length (tqV p.ts)
  uniq : ∀ (j k : Nat) (p q : Pr), R[j]? = some p → R[k]? = some q → p.r = q.r → j = k
  apart : ∀ (j k : Nat) (p q : Pr), R[j]? = some p → R[k]? = some q → p.g = q.g → j = k
  apT : ∀ (j k : Nat) (p q : Pr), R[j]? = some p → R[k]? = some q → j ≠ k → ∀ b, p.tv.ownBlock = some b → q.tv.ownBlock ≠ some b
  vp : ∀ (k : Nat) (p : Pr), R[k]? = some p → V p.g ∧ ∀ b, p.tv.ownBlock = some b → V b
  ty : pt ≠ tt
section
variable {w w' : World} {B : Nat} {pt tt : TypeId} {cs : Pr → Array Value} {V U : Nat → Prop} {R : List Pr}
theorem Ps.vol (H : Ps w B pt tt cs V R) (hv : Vol U w w') (hd : ∀ (k : Nat) (p : Pr), R[k]? = some p → ¬ U p.g ∧ ∀ b, p.tv.ownBlock = some b → ¬ U b) : Ps w' B pt tt cs V R :=
  ⟨fun k p hp => blk_vol (H.prs k p hp) hv (hd k p hp).1, fun k p hp => (H.tks k p hp).vol hv (hd k p hp).2, H.uniq, H.apart, H.apT, H.vp, H.ty⟩
theorem Ps.mono {V' : Nat → Prop} (H : Ps w B pt tt cs V R) (hv : ∀ b, V b → V' b) : Ps w B pt tt cs V' R :=
  ⟨H.prs, H.tks, H.uniq, H.apart, H.apT, fun k p hp => ⟨hv _ (H.vp k p hp).1, fun b hb => hv b ((H.vp k p hp).2 b hb)⟩, H.ty⟩
theorem get_set {R : List Pr} {j k : Nat} {x y : Pr} (h : (R.set j x)[k]? = some y) : (k = j ∧ y = x) ∨ (k ≠ j ∧ R[k]? = some y) := by
  rw [List.getElem?_set] at h
  by_cases e : j = k
  · subst e
    rw [if_pos rfl] at h
    split at h
    · injection h with h
      exact .inl ⟨rfl, h.symm⟩
    · cases h
  · rw [if_neg e] at h
    exact .inr ⟨fun e2 => e e2.symm, h⟩
theorem get_push {R : List Pr} {k : Nat} {x y : Pr} (h : (R ++ [x])[k]? = some y) : (k = R.length ∧ y = x) ∨ (k < R.length ∧ R[k]? = some y) := by
  rcases Nat.lt_or_ge k R.length with e | e
  · rw [List.getElem?_append_left e] at h
    exact .inr ⟨e, h⟩
  · rw [List.getElem?_append_right e] at h
    have : k - R.length = 0 := by
      have := (List.getElem?_eq_some_iff.1 h).1
      simp at this; omega
    rw [this] at h
    simp only [List.getElem?_cons_zero, Option.some.injEq] at h
    exact .inl ⟨by omega, h.symm⟩
theorem get_erase {R : List Pr} {j k : Nat} {p : Pr} (h : (R.eraseIdx j)[k]? = some p) : ∃ k', R[k']? = some p ∧ k' ≠ j ∧ ((k < j ∧ k' = k) ∨ (j ≤ k ∧ k' = k + 1)) := by
  rw [List.getElem?_eraseIdx] at h
  split at h
  · exact ⟨k, h, by omega, .inl ⟨by omega, rfl⟩⟩
  · exact ⟨k + 1, h, by omega, .inr ⟨by omega, rfl⟩⟩
/-- One process is turned: its block, its tasks. -/
theorem Ps.turn (H : Ps w B pt tt cs V R) {j : Nat} {p p' : Pr} (hj : R[j]? = some p) (hr : p'.r = p.r) (hg : p'.g = p.g) (hvol : Vol (fun b => b = p.g ∨ p.tv.ownBlock = some b) w w') (hb : Blk w' p.g pt (cs p')) (ht : Win w' B tt 2 p'.tv p'.ts.length (tqV p'.ts))
    (hv : ∀ b, p'.tv.ownBlock = some b → p.tv.ownBlock = some b ∨ w.heap.size ≤ b) (hlt : ∀ b, V b → b < w.heap.size) : Ps w' B pt tt cs (fun b => V b ∨ (w.heap.size ≤ b ∧ p'.tv.ownBlock = some b)) (R.set j p') := by
  have old : ∀ (k : Nat) (q : Pr), k ≠ j → R[k]? = some q → ¬ (q.g = p.g ∨ p.tv.ownBlock = some q.g) ∧ ∀ b, q.tv.ownBlock = some b → ¬ (b = p.g ∨ p.tv.ownBlock = some b) := fun k q hk hq => by
    refine ⟨fun e => ?_, fun b hb e => ?_⟩
    · rcases e with e | e
      · exact hk (H.apart k j q p hq hj e)
      · exact (H.tks j p hj).blk_ne (H.prs k q hq) H.ty.symm e
    · rcases e with e | e
      · exact (H.tks k q hq).blk_ne (H.prs j p hj) H.ty.symm (by rw [hb, e])
      · exact H.apT k j q p hq hj hk b hb e
  refine ⟨fun k q hq => ?_, fun k q hq => ?_, fun i k x y hx hy e => ?_, fun i k x y hx hy e => ?_, fun i k x y hx hy hik b hb2 => ?_, fun k q hq => ?_, H.ty⟩
  · rcases get_set hq with ⟨rfl, rfl⟩ | ⟨hk, hq⟩
    · rw [hg]; exact hb
    · exact blk_vol (H.prs k q hq) hvol (old k q hk hq).1
  · rcases get_set hq with ⟨rfl, rfl⟩ | ⟨hk, hq⟩
    · exact ht
    · exact (H.tks k q hq).vol hvol (old k q hk hq).2
  · rcases get_set hx with ⟨e1, rfl⟩ | ⟨hi, kx⟩ <;> rcases get_set hy with ⟨e2, rfl⟩ | ⟨hk, ky⟩
    · omega
    · rw [e1]; exact H.uniq j k p y hj ky (by rw [← e, hr])
    · rw [e2]; exact H.uniq i j x p kx hj (by rw [e, hr])
    · exact H.uniq i k x y kx ky e
  · rcases get_set hx with ⟨e1, rfl⟩ | ⟨hi, kx⟩ <;> rcases get_set hy with ⟨e2, rfl⟩ | ⟨hk, ky⟩
    · omega
    · rw [e1]; exact H.apart j k p y hj ky (by rw [← e, hg])
    · rw [e2]; exact H.apart i j x p kx hj (by rw [e, hg])
    · exact H.apart i k x y kx ky e
  · rcases get_set hx with ⟨e1, rfl⟩ | ⟨hi, kx⟩ <;> rcases get_set hy with ⟨e2, rfl⟩ | ⟨hk, ky⟩
    · omega
    · rcases hv b hb2 with e | e
      · exact H.apT j k p y hj ky (fun e3 => hk e3.symm) b e
      · intro e3
        have := hlt b ((H.vp k y ky).2 b e3)
        omega
    · intro e3
      rcases hv b e3 with e | e
      · exact H.apT i j x p kx hj hi b hb2 e
      · have := hlt b ((H.vp i x kx).2 b hb2)
        omega
    · exact H.apT i k x y kx ky hik b hb2
  · rcases get_set hq with ⟨e1, rfl⟩ | ⟨hk, hq⟩
    · refine ⟨.inl (by rw [hg]; exact (H.vp j p hj).1), fun b hb2 => ?_⟩
      rcases hv b hb2 with e | e
      · exact .inl ((H.vp j p hj).2 b e)
      · exact .inr ⟨e, hb2⟩
    · exact ⟨.inl (H.vp k q hq).1, fun b hb2 => .inl ((H.vp k q hq).2 b hb2)⟩
/-- One process more, with no tasks. -/
theorem Ps.push (H : Ps w B pt tt cs V R) (p : Pr) (hn : ∀ (k : Nat) (q : Pr), R[k]? = some q → q.r ≠ p.r) (hvol : Vol U w w') (hd : ∀ (k : Nat) (q : Pr), R[k]? = some q → ¬ U q.g ∧ ∀ b, q.tv.ownBlock = some b → ¬ U b) (hb : Blk w' p.g pt (cs p)) (ht : p.tv = .slice none 0 0) (hts : p.ts = []) (hge : w.heap.size ≤ p.g) (hlt : ∀ b, V b → b < w.heap.size) : Ps w' B pt tt cs (fun b => V b ∨ b = p.g) (R ++ [p]) := by
  have hno : ∀ b, p.tv.ownBlock ≠ some b := fun b => by rw [ht]; simp [Value.ownBlock]
  refine ⟨fun k q hq => ?_, fun k q hq => ?_, fun i k x y hx hy e => ?_, fun i k x y hx hy e => ?_, fun i k x y hx hy hik b hb2 => ?_, fun k q hq => ?_, H.ty⟩
  · rcases get_push hq with ⟨_, rfl⟩ | ⟨_, hq⟩
    · exact hb
    · exact blk_vol (H.prs k q hq) hvol (hd k q hq).1
  · rcases get_push hq with ⟨_, rfl⟩ | ⟨_, hq⟩
    · rw [ht, hts]
      exact Win.nil _ _ _ _
    · exact (H.tks k q hq).vol hvol (hd k q hq).2
  · rcases get_push hx with ⟨e1, rfl⟩ | ⟨hi, kx⟩ <;> rcases get_push hy with ⟨e2, rfl⟩ | ⟨hk, ky⟩
    · omega
    · exact absurd e.symm (hn k y ky)
    · exact absurd e (hn i x kx)
    · exact H.uniq i k x y kx ky e
  · rcases get_push hx with ⟨e1, rfl⟩ | ⟨hi, kx⟩ <;> rcases get_push hy with ⟨e2, rfl⟩ | ⟨hk, ky⟩
    · omega
    · have := hlt _ (H.vp k y ky).1; omega
    · have := hlt _ (H.vp i x kx).1; omega
    · exact H.apart i k x y kx ky e
  · rcases get_push hx with ⟨e1, rfl⟩ | ⟨hi, kx⟩ <;> rcases get_push hy with ⟨e2, rfl⟩ | ⟨hk, ky⟩
    · omega
    · exact absurd hb2 (hno b)
    · exact hno b
    · exact H.apT i k x y kx ky hik b hb2
  · rcases get_push hq with ⟨_, rfl⟩ | ⟨_, hq⟩
    · exact ⟨.inr rfl, fun b hb2 => absurd hb2 (hno b)⟩
    · exact ⟨.inl (H.vp k q hq).1, fun b hb2 => .inl ((H.vp k q hq).2 b hb2)⟩
theorem Ps.erase (H : Ps w B pt tt cs V R) (j : Nat) : Ps w B pt tt cs V (R.eraseIdx j) := by
  refine ⟨fun k q hq => ?_, fun k q hq => ?_, fun i k x y hx hy e => ?_, fun i k x y hx hy e => ?_, fun i k x y hx hy hik b hb2 => ?_, fun k q hq => ?_, H.ty⟩
  · obtain ⟨k', hk, _⟩ := get_erase hq
    exact H.prs k' q hk
  · obtain ⟨k', hk, _⟩ := get_erase hq
    exact H.tks k' q hk
  · obtain ⟨i', hi, _, h1⟩ := get_erase hx
    obtain ⟨k', hk, _, h2⟩ := get_erase hy
    have := H.uniq i' k' x y hi hk e
    omega
  · obtain ⟨i', hi, _, h1⟩ := get_erase hx
    obtain ⟨k', hk, _, h2⟩ := get_erase hy
    have := H.apart i' k' x y hi hk e
    omega
  · obtain ⟨i', hi, _, h1⟩ := get_erase hx
    obtain ⟨k', hk, _, h2⟩ := get_erase hy
    exact H.apT i' k' x y hi hk (by omega) b hb2
  · obtain ⟨k', hk, _⟩ := get_erase hq
    exact H.vp k' q hk
end
end Go.Proofs.Ytiflhfhonhbcpaa.Hw
namespace Go.Proofs.Ytiflhfhonhbcpaa.Hw
open Go Go.RowKit Go.Proofs.Ytiflhfhonhbcpaa Go.Proofs.Ytiflhfhonhbcpaa.Crw Go.Proofs.Ytiflhfhonhbcpaa.Vl Go.ChangeShapes Go.WideShapes Go.ChangeAt
set_option linter.unusedVariables false
set_option maxRecDepth 100000
theorem set_self {α : Type} {l : List α} {j : Nat} {x : α} (h : l[j]? = some x) : l.set j x = l := by
  apply List.ext_getElem?
  intro i
  rw [List.getElem?_set]
  by_cases e : j = i
  · subst e
    rw [if_pos rfl, if_pos (List.getElem?_eq_some_iff.1 h).1, h]
  · rw [if_neg e]
abbrev rkV (r : Pm) : Value := .agg #[.string r.f, .string r.e, .int .i64 r.n]
abbrev rkC (r : Pm) : Array Value := #[.string r.f, .string r.e, .int .i64 r.n]
abbrev ptr (p : Pr) : Value := .pointer (some ⟨p.g, 0, none⟩)
abbrev exE (p : Pr) : Value × Value := (rkV p.r, ptr p)
abbrev sdE (r : Pm) : Value × Value := (rkV r, .agg #[])
/-- A key. -/
structure Ky where
  f : ByteArray
  t : ByteArray
abbrev kyC (k : Ky) : List Value := [.string k.f, .string k.t]
abbrev kyV (k : Ky) : Value := .agg #[.string k.f, .string k.t]
abbrev knE (k : Ky) : Value × Value := (kyV k, .agg #[])
abbrev kysV (K : List Ky) : List Value := K.flatMap kyC
abbrev prC (p : Pr) : Array Value := #[.string p.r.f, .string p.r.e, .int .i64 p.r.n, p.tv]
theorem ba_eq {a b : ByteArray} (h : a.data.toList = b.data.toList) : a = b := by
  obtain ⟨⟨a⟩⟩ := a
  obtain ⟨⟨b⟩⟩ := b
  simp only at h
  rw [h]
theorem beq_rk (r r' : Pm) : beq1 (rkV r) (rkV r') = (decide (r.f.data.toList = r'.f.data.toList) && (decide (r.e.data.toList = r'.e.data.toList) && (decide (r.n = r'.n) && true))) := rfl
theorem beq_rk_self (r : Pm) : beq1 (rkV r) (rkV r) = true := by rw [beq_rk]; simp
theorem beq_rk_ne {r r' : Pm} (h : r ≠ r') : beq1 (rkV r) (rkV r') = false := by
  rw [beq_rk]
  cases hh : (decide (r.f.data.toList = r'.f.data.toList) && (decide (r.e.data.toList = r'.e.data.toList) && (decide (r.n = r'.n) && true)))
  · rfl
  · simp only [Bool.and_eq_true, decide_eq_true_eq, Bool.and_true] at hh
    obtain ⟨h1, h2, h3⟩ := hh
    refine absurd ?_ h
    obtain ⟨f, e, n⟩ := r
    obtain ⟨f', e', n'⟩ := r'
    have h1 := ba_eq h1
    have h2 := ba_eq h2
    simp only at h1 h2 h3
    rw [h1, h2, h3]
theorem beq_ky (k k' : Ky) : beq1 (kyV k) (kyV k') = (decide (k.f.data.toList = k'.f.data.toList) && (decide (k.t.data.toList = k'.t.data.toList) && true)) := rfl
theorem beq_ky_self (k : Ky) : beq1 (kyV k) (kyV k) = true := by rw [beq_ky]; simp
theorem beq_ky_ne {k k' : Ky} (h : k ≠ k') : beq1 (kyV k) (kyV k') = false := by
  rw [beq_ky]
  cases hh : (decide (k.f.data.toList = k'.f.data.toList) && (decide (k.t.data.toList = k'.t.data.toList) && true))
  · rfl
  · simp only [Bool.and_eq_true, decide_eq_true_eq, Bool.and_true] at hh
    obtain ⟨h1, h2⟩ := hh
    refine absurd ?_ h
    obtain ⟨f, e⟩ := k
    obtain ⟨f', e'⟩ := k'
    have h1 := ba_eq h1
    have h2 := ba_eq h2
    simp only at h1 h2
    rw [h1, h2]
theorem rk_fit (r : Pm) : keyFit Try.prog 90 (rkV r) = true := by
  obtain ⟨f, e, n⟩ := r
  kernel_rfl
theorem ky_fit (k : Ky) : keyFit Try.prog 46 (kyV k) = true := by
  obtain ⟨f, t⟩ := k
  kernel_rfl
structure HqP (w : World) (B h xb sb kb : Nat) (V : Nat → Prop) (R : List Pr) (S : List Pm) (K : List Ky) (v lv : Value) : Prop where
  blk : Blk w h 88 #[v, .map (some xb), .map (some sb), lv, .map (some kb)]
  ex : MapAt w xb (R.map exE)
  sd : MapAt w sb (S.map sdE)
  kn : MapAt w kb (K.map knE)
  row : w.ownsRow B 94 1 v R.length (R.map ptr)
  keys : w.ownsRow B 46 2 lv K.length (kysV K)
  ps : Ps w B 98 110 prC V R
  sub : ∀ (k : Nat) (p : Pr), R[k]? = some p → p.r ∈ S
  live : ∀ (k : Nat) (p : Pr), R[k]? = some p → p.lv = true
  ne : xb ≠ sb ∧ xb ≠ kb ∧ sb ≠ kb
  vm : V h ∧ V xb ∧ V sb ∧ V kb
  vr : ∀ b, v.ownBlock = some b → V b
  vk : ∀ b, lv.ownBlock = some b → V b
  lt : ∀ b, V b → b < w.heap.size
  ge : ∀ b, V b → B ≤ b
section
variable {w w' : World} {B : Nat} {pt tt : TypeId} {cs : Pr → Array Value} {V U : Nat → Prop} {R : List Pr}
theorem Ps.far_blk (H : Ps w B pt tt cs V R) {b : Nat} {t : TypeId} {c : Array Value} (hb : Blk w b t c) (h1 : pt ≠ t) (h2 : tt ≠ t) {k : Nat} {p : Pr} (hp : R[k]? = some p) : p.g ≠ b ∧ p.tv.ownBlock ≠ some b :=
  ⟨(H.prs k p hp).ne_ hb h1, (H.tks k p hp).blk_ne hb h2⟩
theorem Ps.far_map (H : Ps w B pt tt cs V R) {b : Nat} {kvs : List (Value × Value)} (hb : MapAt w b kvs) {k : Nat} {p : Pr} (hp : R[k]? = some p) : p.g ≠ b ∧ p.tv.ownBlock ≠ some b :=
  ⟨blk_map_ne (H.prs k p hp) hb, (H.tks k p hp).map_ne hb⟩
theorem Ps.far_own (H : Ps w B pt tt cs V R) {B' z n : Nat} {e : TypeId} {v : Value} {xs : List Value} (ho : w.ownsRow B' e z v n xs) (h1 : pt ≠ e) (h2 : tt ≠ e) {b : Nat} (hb : v.ownBlock = some b) {k : Nat} {p : Pr} (hp : R[k]? = some p) : p.g ≠ b ∧ p.tv.ownBlock ≠ some b :=
  ⟨fun e2 => own_blk_ne ho (H.prs k p hp) h1.symm (by rw [hb, e2]), fun e2 => (H.tks k p hp).own_ne ho h2 e2 hb⟩
theorem own_own {B B' z z' n n' : Nat} {e e' : TypeId} {v v' : Value} {xs xs' : List Value} (h : w.ownsRow B e z v n xs) (h' : w.ownsRow B' e' z' v' n' xs') (hne : e ≠ e') {b : Nat} (hb : v.ownBlock = some b) : v'.ownBlock ≠ some b := by
  rcases h.2 with ⟨rfl, _⟩ | ⟨g, cap, cur, rfl, _, hg, _⟩
  · simp [Value.ownBlock] at hb
  · simp only [Value.ownBlock, Option.some.injEq] at hb
    subst hb
    exact own_blk_ne h' (show Blk w g e cur from hg) (fun e2 => hne e2.symm)
end
theorem nPT : (98 : TypeId) ≠ 110 := by decide
theorem nPH : (98 : TypeId) ≠ 88 := by decide
theorem nTH : (110 : TypeId) ≠ 88 := by decide
theorem nPp : (98 : TypeId) ≠ 94 := by decide
theorem nTp : (110 : TypeId) ≠ 94 := by decide
theorem nPK : (98 : TypeId) ≠ 46 := by decide
theorem nTK : (110 : TypeId) ≠ 46 := by decide
theorem npH : (94 : TypeId) ≠ 88 := by decide
theorem nKH : (46 : TypeId) ≠ 88 := by decide
theorem npK : (94 : TypeId) ≠ 46 := by decide
section
variable {w w' : World} {B h xb sb kb : Nat} {V U : Nat → Prop} {R : List Pr} {S : List Pm} {K : List Ky} {v lv : Value}
theorem HqP.vol (H : HqP w B h xb sb kb V R S K v lv) (hv : Vol U w w') (hd : ∀ b, V b → ¬ U b) : HqP w' B h xb sb kb V R S K v lv :=
  ⟨blk_vol H.blk hv (hd _ H.vm.1), H.ex.keep (hv.block _ H.ex.lt (hd _ H.vm.2.1)), H.sd.keep (hv.block _ H.sd.lt (hd _ H.vm.2.2.1)), H.kn.keep (hv.block _ H.kn.lt (hd _ H.vm.2.2.2)), own_vol H.row hv (fun b e => hd b (H.vr b e)), own_vol H.keys hv (fun b e => hd b (H.vk b e)), H.ps.vol hv (fun k p hp => ⟨hd _ (H.ps.vp k p hp).1, fun b e => hd b ((H.ps.vp k p hp).2 b e)⟩), H.sub, H.live, H.ne, H.vm, H.vr, H.vk, fun b e => Nat.lt_of_lt_of_le (H.lt b e) hv.size, H.ge⟩
theorem HqP.below (H : HqP w B h xb sb kb V R S K v lv) (hb : Below w.heap.size w w') : HqP w' B h xb sb kb V R S K v lv := H.vol (U := fun _ => False) (Vol.of_below hb) (fun _ _ => id)
theorem HqP.Bw (H : HqP w B h xb sb kb V R S K v lv) : B ≤ w.heap.size := Nat.le_trans (H.ge h H.vm.1) (Nat.le_of_lt H.blk.lt)
theorem HqP.turn (H : HqP w B h xb sb kb V R S K v lv) {j : Nat} {p p' : Pr} (hj : R[j]? = some p) (hr : p'.r = p.r) (hg : p'.g = p.g) (hl : p'.lv = p.lv) (hvol : Vol (fun b => b = p.g ∨ p.tv.ownBlock = some b) w w') (hb : Blk w' p.g 98 (prC p')) (ht : Win w' B 110 2 p'.tv p'.ts.length (tqV p'.ts))
    (hv : ∀ b, p'.tv.ownBlock = some b → p.tv.ownBlock = some b ∨ w.heap.size ≤ b) : HqP w' B h xb sb kb (fun b => V b ∨ (w.heap.size ≤ b ∧ p'.tv.ownBlock = some b)) (R.set j p') S K v lv := by
  have fb : ∀ {b : Nat}, p.g ≠ b ∧ p.tv.ownBlock ≠ some b → ¬ (b = p.g ∨ p.tv.ownBlock = some b) := fun h e => e.elim (fun e => h.1 e.symm) h.2
  have hp' : ptr p' = ptr p := by simp [ptr, hg]
  have hme : (R.set j p').map exE = R.map exE := by
    rw [List.map_set, show exE p' = exE p by simp [exE, hr, hp']]
    exact set_self (by rw [List.getElem?_map, hj]; rfl)
  have hmp : (R.set j p').map ptr = R.map ptr := by
    rw [List.map_set, hp']
    exact set_self (by rw [List.getElem?_map, hj]; rfl)
  refine ⟨blk_vol H.blk hvol (fb (H.ps.far_blk H.blk nPH nTH hj)), ?_, H.sd.keep (hvol.block _ H.sd.lt (fb (H.ps.far_map H.sd hj))), H.kn.keep (hvol.block _ H.kn.lt (fb (H.ps.far_map H.kn hj))), ?_, own_vol H.keys hvol (fun b e => fb (H.ps.far_own H.keys nPK nTK e hj)), H.ps.turn hj hr hg hvol hb ht hv H.lt, fun k q hq => ?_, fun k q hq => ?_, H.ne, ⟨.inl H.vm.1, .inl H.vm.2.1, .inl H.vm.2.2.1, .inl H.vm.2.2.2⟩, fun b e => .inl (H.vr b e), fun b e => .inl (H.vk b e), fun b e => ?_, fun b e => ?_⟩
  · rw [hme]; exact H.ex.keep (hvol.block _ H.ex.lt (fb (H.ps.far_map H.ex hj)))
  · rw [hmp, List.length_set]; exact own_vol H.row hvol (fun b e => fb (H.ps.far_own H.row nPp nTp e hj))
  · rcases get_set hq with ⟨_, rfl⟩ | ⟨_, hq⟩
    · rw [hr]; exact H.sub j p hj
    · exact H.sub k q hq
  · rcases get_set hq with ⟨_, rfl⟩ | ⟨_, hq⟩
    · rw [hl]; exact H.live j p hj
    · exact H.live k q hq
  · rcases e with e | ⟨_, e⟩
    · exact Nat.lt_of_lt_of_le (H.lt b e) hvol.size
    · exact (ht.blk_lt e).2
  · rcases e with e | ⟨_, e⟩
    · exact H.ge b e
    · exact (ht.blk_lt e).1
theorem HqP.push {v' : Value} (H : HqP w B h xb sb kb V R S K v lv) (p : Pr) (hn : p.r ∉ S) (hvol : Vol (fun b => b = h ∨ b = xb ∨ b = sb ∨ v.ownBlock = some b) w w') (hblk : Blk w' h 88 #[v', .map (some xb), .map (some sb), lv, .map (some kb)])
    (hex : MapAt w' xb ((R ++ [p]).map exE)) (hsd : MapAt w' sb ((S ++ [p.r]).map sdE)) (hp : Blk w' p.g 98 (prC p)) (hrow : w'.ownsRow B 94 1 v' (R ++ [p]).length ((R ++ [p]).map ptr)) (hge : w.heap.size ≤ p.g) (ht : p.tv = .slice none 0 0) (hts : p.ts = []) (hl : p.lv = true)
    (hv : ∀ b, v'.ownBlock = some b → v.ownBlock = some b ∨ w.heap.size ≤ b) : HqP w' B h xb sb kb (fun b => (V b ∨ b = p.g) ∨ (w.heap.size ≤ b ∧ v'.ownBlock = some b)) (R ++ [p]) (S ++ [p.r]) K v' lv := by
  have hd : ∀ (k : Nat) (q : Pr), R[k]? = some q → ¬ (q.g = h ∨ q.g = xb ∨ q.g = sb ∨ v.ownBlock = some q.g) ∧ ∀ b, q.tv.ownBlock = some b → ¬ (b = h ∨ b = xb ∨ b = sb ∨ v.ownBlock = some b) := fun k q hq => by
    have f1 := H.ps.far_blk H.blk nPH nTH hq
    have f2 := H.ps.far_map H.ex hq
    have f3 := H.ps.far_map H.sd hq
    refine ⟨fun e => ?_, fun b hb e => ?_⟩
    · rcases e with e | e | e | e
      · exact f1.1 e
      · exact f2.1 e
      · exact f3.1 e
      · exact (H.ps.far_own H.row nPp nTp e hq).1 rfl
    · rcases e with e | e | e | e
      · exact f1.2 (by rw [hb, e])
      · exact f2.2 (by rw [hb, e])
      · exact f3.2 (by rw [hb, e])
      · exact (H.ps.far_own H.row nPp nTp e hq).2 hb
  have hq := H.ps.push p (fun k q hq e => hn (by rw [← e]; exact H.sub k q hq)) hvol hd hp ht hts hge H.lt
  have nk : ¬ (kb = h ∨ kb = xb ∨ kb = sb ∨ v.ownBlock = some kb) := fun e => by
    rcases e with e | e | e | e
    · exact blk_map_ne H.blk H.kn e.symm
    · exact H.ne.2.1 e.symm
    · exact H.ne.2.2 e.symm
    · exact own_map_ne H.row H.kn e
  have nl : ∀ b, lv.ownBlock = some b → ¬ (b = h ∨ b = xb ∨ b = sb ∨ v.ownBlock = some b) := fun b hb e => by
    rcases e with e | e | e | e
    · exact own_blk_ne H.keys H.blk nKH (by rw [hb, e])
    · exact own_map_ne H.keys H.ex (by rw [hb, e])
    · exact own_map_ne H.keys H.sd (by rw [hb, e])
    · exact own_own H.row H.keys npK e hb
  refine ⟨hblk, hex, hsd, H.kn.keep (hvol.block _ H.kn.lt nk), hrow, own_vol H.keys hvol nl, hq.mono (fun b e => .inl e), fun k y hy => ?_, fun k y hy => ?_, H.ne, ⟨.inl (.inl H.vm.1), .inl (.inl H.vm.2.1), .inl (.inl H.vm.2.2.1), .inl (.inl H.vm.2.2.2)⟩, fun b e => ?_, fun b e => .inl (.inl (H.vk b e)), fun b e => ?_, fun b e => ?_⟩
  · rcases get_push hy with ⟨_, rfl⟩ | ⟨_, hy⟩
    · simp
    · exact List.mem_append_left _ (H.sub k y hy)
  · rcases get_push hy with ⟨_, rfl⟩ | ⟨_, hy⟩
    · exact hl
    · exact H.live k y hy
  · rcases hv b e with e2 | e2
    · exact .inl (.inl (H.vr b e2))
    · exact .inr ⟨e2, e⟩
  · rcases e with (e | e) | ⟨_, e⟩
    · exact Nat.lt_of_lt_of_le (H.lt b e) hvol.size
    · rw [e]; exact hp.lt
    · exact (Win.of_own hrow).blk_lt e |>.2
  · rcases e with (e | e) | ⟨_, e⟩
    · exact H.ge b e
    · rw [e]; exact Nat.le_trans H.Bw hge
    · exact (Win.of_own hrow).blk_lt e |>.1
theorem HqP.erase {v' : Value} (H : HqP w B h xb sb kb V R S K v lv) (j : Nat) (hvol : Vol (fun b => b = h ∨ b = xb ∨ v.ownBlock = some b) w w') (hblk : Blk w' h 88 #[v', .map (some xb), .map (some sb), lv, .map (some kb)])
    (hex : MapAt w' xb ((R.eraseIdx j).map exE)) (hrow : w'.ownsRow B 94 1 v' (R.eraseIdx j).length ((R.eraseIdx j).map ptr)) (hv : ∀ b, v'.ownBlock = some b → v.ownBlock = some b) : HqP w' B h xb sb kb V (R.eraseIdx j) S K v' lv := by
  have hd : ∀ (k : Nat) (q : Pr), R[k]? = some q → ¬ (q.g = h ∨ q.g = xb ∨ v.ownBlock = some q.g) ∧ ∀ b, q.tv.ownBlock = some b → ¬ (b = h ∨ b = xb ∨ v.ownBlock = some b) := fun k q hq => by
    have f1 := H.ps.far_blk H.blk nPH nTH hq
    have f2 := H.ps.far_map H.ex hq
    refine ⟨fun e => ?_, fun b hb e => ?_⟩
    · rcases e with e | e | e
      · exact f1.1 e
      · exact f2.1 e
      · exact (H.ps.far_own H.row nPp nTp e hq).1 rfl
    · rcases e with e | e | e
      · exact f1.2 (by rw [hb, e])
      · exact f2.2 (by rw [hb, e])
      · exact (H.ps.far_own H.row nPp nTp e hq).2 hb
  have nm : ∀ {b : Nat} {kvs : List (Value × Value)}, MapAt w b kvs → xb ≠ b → ¬ (b = h ∨ b = xb ∨ v.ownBlock = some b) := fun hm hne e => by
    rcases e with e | e | e
    · exact blk_map_ne H.blk hm e.symm
    · exact hne e.symm
    · exact own_map_ne H.row hm e
  have nl : ∀ b, lv.ownBlock = some b → ¬ (b = h ∨ b = xb ∨ v.ownBlock = some b) := fun b hb e => by
    rcases e with e | e | e
    · exact own_blk_ne H.keys H.blk nKH (by rw [hb, e])
    · exact own_map_ne H.keys H.ex (by rw [hb, e])
    · exact own_own H.row H.keys npK e hb
  refine ⟨hblk, hex, H.sd.keep (hvol.block _ H.sd.lt (nm H.sd H.ne.1)), H.kn.keep (hvol.block _ H.kn.lt (nm H.kn H.ne.2.1)), hrow, own_vol H.keys hvol nl, (H.ps.vol hvol hd).erase j, fun k y hy => ?_, fun k y hy => ?_, H.ne, H.vm, fun b e => H.vr b (hv b e), H.vk, fun b e => Nat.lt_of_lt_of_le (H.lt b e) hvol.size, H.ge⟩
  · obtain ⟨k', hk, _⟩ := get_erase hy
    exact H.sub k' y hk
  · obtain ⟨k', hk, _⟩ := get_erase hy
    exact H.live k' y hk
/-- One key more. -/
theorem HqP.know {lv' : Value} (H : HqP w B h xb sb kb V R S K v lv) (x : Ky) (hvol : Vol (fun b => b = h ∨ b = kb ∨ lv.ownBlock = some b) w w') (hblk : Blk w' h 88 #[v, .map (some xb), .map (some sb), lv', .map (some kb)])
    (hkn : MapAt w' kb ((K ++ [x]).map knE)) (hkeys : w'.ownsRow B 46 2 lv' (K ++ [x]).length (kysV (K ++ [x]))) (hv : ∀ b, lv'.ownBlock = some b → lv.ownBlock = some b ∨ w.heap.size ≤ b) : HqP w' B h xb sb kb (fun b => V b ∨ (w.heap.size ≤ b ∧ lv'.ownBlock = some b)) R S (K ++ [x]) v lv' := by
  have hd : ∀ (k : Nat) (q : Pr), R[k]? = some q → ¬ (q.g = h ∨ q.g = kb ∨ lv.ownBlock = some q.g) ∧ ∀ b, q.tv.ownBlock = some b → ¬ (b = h ∨ b = kb ∨ lv.ownBlock = some b) := fun k q hq => by
    have f1 := H.ps.far_blk H.blk nPH nTH hq
    have f2 := H.ps.far_map H.kn hq
    refine ⟨fun e => ?_, fun b hb e => ?_⟩
    · rcases e with e | e | e
      · exact f1.1 e
      · exact f2.1 e
      · exact (H.ps.far_own H.keys nPK nTK e hq).1 rfl
    · rcases e with e | e | e
      · exact f1.2 (by rw [hb, e])
      · exact f2.2 (by rw [hb, e])
      · exact (H.ps.far_own H.keys nPK nTK e hq).2 hb
  have nm : ∀ {b : Nat} {kvs : List (Value × Value)}, MapAt w b kvs → b ≠ kb → ¬ (b = h ∨ b = kb ∨ lv.ownBlock = some b) := fun hm hne e => by
    rcases e with e | e | e
    · exact blk_map_ne H.blk hm e.symm
    · exact hne e
    · exact own_map_ne H.keys hm e
  have nl : ∀ b, v.ownBlock = some b → ¬ (b = h ∨ b = kb ∨ lv.ownBlock = some b) := fun b hb e => by
    rcases e with e | e | e
    · exact own_blk_ne H.row H.blk npH (by rw [hb, e])
    · exact own_map_ne H.row H.kn (by rw [hb, e])
    · exact own_own H.row H.keys npK hb e
  refine ⟨hblk, H.ex.keep (hvol.block _ H.ex.lt (nm H.ex H.ne.2.1)), H.sd.keep (hvol.block _ H.sd.lt (nm H.sd H.ne.2.2)), hkn, own_vol H.row hvol nl, hkeys, (H.ps.vol hvol hd).mono (fun b => .inl), H.sub, H.live, H.ne, ⟨.inl H.vm.1, .inl H.vm.2.1, .inl H.vm.2.2.1, .inl H.vm.2.2.2⟩, fun b e => .inl (H.vr b e), fun b e => ?_, fun b e => ?_, fun b e => ?_⟩
  · rcases hv b e with e2 | e2
    · exact .inl (H.vk b e2)
    · exact .inr ⟨e2, e⟩
  · rcases e with e | ⟨_, e⟩
    · exact Nat.lt_of_lt_of_le (H.lt b e) hvol.size
    · exact (Win.of_own hkeys).blk_lt e |>.2
  · rcases e with e | ⟨_, e⟩
    · exact H.ge b e
    · exact (Win.of_own hkeys).blk_lt e |>.1
end
end Go.Proofs.Ytiflhfhonhbcpaa.Hw
namespace Go.Proofs.Ytiflhfhonhbcpaa.Hw
open Go Go.RowKit Go.Proofs.Ytiflhfhonhbcpaa Go.Proofs.Ytiflhfhonhbcpaa.Crw Go.Proofs.Ytiflhfhonhbcpaa.Vl Go.ChangeShapes Go.WideShapes Go.ChangeAt
set_option linter.unusedVariables false
set_option maxRecDepth 100000
theorem below_setCells {wd : World} {gk : Nat} (hg : wd.heap.size ≤ gk) : ∀ (l : List Value) (o : Nat) (w : World), Below wd.heap.size wd w → Below wd.heap.size wd (w.setCells gk o l)
  | [], o, w, h => h
  | v :: l, o, w, h => below_setCells hg l (o + 1) _ (h.setCell (show wd.heap.size ≤ (⟨gk, o, none⟩ : Addr).block from hg) v)
theorem blk_setAll {gk : Nat} {T : TypeId} : ∀ (l zs pre : List Value) (w : World), Blk w gk T (pre ++ zs).toArray → zs.length = l.length → Blk (w.setCells gk pre.length l) gk T (pre ++ l).toArray
  | [], [], pre, w, h, _ => h
  | [], _ :: _, _, _, _, e => by simp at e
  | _ :: _, [], _, _, _, e => by simp at e
  | v :: l, z :: zs, pre, w, h, e => by
    have h1 := h.set_ pre.length v
    have e1 : (pre ++ z :: zs).toArray.setIfInBounds pre.length v = (pre ++ [v] ++ zs).toArray := by simp
    have h2 : Blk (w.setCell ⟨gk, pre.length, none⟩ v) gk T (pre ++ [v] ++ zs).toArray := e1 ▸ h1
    have h3 := blk_setAll l zs (pre ++ [v]) _ h2 (by simpa using e)
    simpa [World.setCells] using h3
/-- A struct goes into its own block. -/
theorem storeG {ops : Array Oper} {op : Oper} {a : Act} {w : World} {K : Act → World → Prop} {Q : Exit → Act → World → Prop} {E : Prop} {x y : Operand} {gk : Nat} {cs zs : Array Value} (T : TypeId) (hT : (Try.prog.info? T).map (·.size) = some cs.size) (ho : op.op = .store T x y) (hg : op.guard = none)
    (hx : a.eval x = .pointer (some ⟨gk, 0, none⟩)) (hy : a.eval y = .agg cs) (h1 : cs.all (·.oneCell') = true) (hz : Blk w gk T zs) (hzs : zs.size = cs.size)
    (h : ∀ w', (∀ wd : World, wd.heap.size ≤ gk → Below wd.heap.size wd w → Below wd.heap.size wd w') → (∀ b, b < w.heap.size → b ≠ gk → w'.heap[b]? = w.heap[b]?) → Blk w' gk T cs → K (a.put op.dst undef) w') :
    if Region.wanted op (yielded ops a.tmps) = true then Oper.wp Try.prog op a w K Q else E := by
  rw [if_pos (by simp [Region.wanted, hg])]
  refine wp_store_mid T x y ho gk 0 cs hx hy (fun j hj => ?_) hT h1 ?_
  · have hj9 : j < zs.size := by rw [hzs]; exact hj
    have hc := hz.cell j
    rw [Array.getElem?_eq_getElem hj9] at hc
    rw [Nat.zero_add]
    exact ⟨by rw [hc]; rfl, hz.frozen j⟩
  · refine h _ (fun wd hwd hb => below_setCells hwd _ _ _ hb) (fun b hb hne => World.heap_setCells_other w gk 0 _ hb hne) ?_
    have h2 := blk_setAll cs.toList zs.toList [] w (by simpa using hz) (by simpa using hzs)
    simpa using h2
def Mark (p : Prop) : Prop := p
theorem Mark.intro {p : Prop} (h : p) : Mark p := h
theorem wpList_storeG {ops : Array Oper} {rest : List Oper} {op : Oper} {a : Act} {w : World} {Q : Exit → Act → World → Prop} {x y : Operand} {gk : Nat} {cs zs : Array Value} (T : TypeId) (hT : (Try.prog.info? T).map (·.size) = some cs.size) (ho : op.op = .store T x y) (hg : op.guard = none)
    (hx : a.eval x = .pointer (some ⟨gk, 0, none⟩)) (hy : a.eval y = .agg cs) (h1 : cs.all (·.oneCell') = true) (hz : Blk w gk T zs) (hzs : zs.size = cs.size)
    (h : ∀ w', (∀ wd : World, wd.heap.size ≤ gk → Below wd.heap.size wd w → Below wd.heap.size wd w') → (∀ b, b < w.heap.size → b ≠ gk → w'.heap[b]? = w.heap[b]?) → Blk w' gk T cs → Mark (wpList Try.prog ops Q rest (a.put op.dst undef) w')) : wpList Try.prog ops Q (op :: rest) a w :=
  wpList_step fun K hK => storeG T hT ho hg hx hy h1 hz hzs fun w' h2 h3 h4 => hK _ _ (h w' h2 h3 h4)
end Go.Proofs.Ytiflhfhonhbcpaa.Hw
namespace Go.Proofs.Ytiflhfhonhbcpaa.Hw
open Go Go.RowKit Go.Proofs.Ytiflhfhonhbcpaa Go.Proofs.Ytiflhfhonhbcpaa.Crw Go.Proofs.Ytiflhfhonhbcpaa.Vl Go.ChangeShapes Go.WideShapes Go.ChangeAt
set_option linter.unusedVariables false
set_option maxRecDepth 100000
section
variable {w w' : World} {B h xb sb kb : Nat} {V U : Nat → Prop} {R : List Pr} {S : List Pm} {K : List Ky} {v lv : Value}
theorem sd_kv [Toks] : Kv Try.prog 90 (S.map sdE) := by
  intro p hp
  obtain ⟨n, _, rfl⟩ := List.mem_map.1 hp
  exact ⟨rk_fit n, VR1.flat rfl⟩
theorem kn_kv [Toks] : Kv Try.prog 46 (K.map knE) := by
  intro p hp
  obtain ⟨n, _, rfl⟩ := List.mem_map.1 hp
  exact ⟨ky_fit n, VR1.flat rfl⟩
theorem ex_kv [Toks] : Kv Try.prog 90 (R.map exE) := by
  intro p hp
  obtain ⟨x, _, rfl⟩ := List.mem_map.1 hp
  exact ⟨rk_fit x.r, rfl, ⟨x.g, 0, 0⟩, rfl, rfl⟩
theorem zero_unit : zeroP Try.prog 130 = some (.agg #[]) := by kernel_rfl
theorem zero_prp : zeroP Try.prog 94 = some (.pointer none) := by kernel_rfl
theorem first_of {α : Type} {S : List α} {n : α} (hn : n ∈ S) : ∃ j : Nat, S[j]? = some n ∧ ∀ (m : Nat) (x : α), m < j → S[m]? = some x → n ≠ x := by
  induction S with
  | nil => simp at hn
  | cons a r ih =>
    rcases Classical.em (n = a) with e | e
    · exact ⟨0, by simp [e], fun m x hm => by omega⟩
    · obtain ⟨j, h1, h2⟩ := ih (by simpa [e] using hn)
      refine ⟨j + 1, by simpa using h1, fun m x hm hx => ?_⟩
      cases m with
      | zero =>
        simp only [List.getElem?_cons_zero, Option.some.injEq] at hx
        rw [← hx]
        exact e
      | succ m => exact h2 m x (by omega) (by simpa using hx)
theorem sd_no (hm : MapAt w sb (S.map sdE)) {r : Pm} (hn : r ∉ S) : (Instr.lookup 84 (.map (some sb)) (rkV r) true).run Try.prog w = .ok (.tuple #[.agg #[], .bool false]) w := by
  letI : Toks := ⟨fun _ => 0⟩
  have := hm.look_no (P := Try.prog) (k := rkV r) Try.underlying84 sd_kv (rk_fit r) (fun p hp => by
    obtain ⟨m, hm, rfl⟩ := List.mem_map.1 hp
    exact beq_rk_ne (fun e => hn (e ▸ hm))) zero_unit true
  simpa using this
theorem sd_yes (hm : MapAt w sb (S.map sdE)) {r : Pm} (hn : r ∈ S) : (Instr.lookup 84 (.map (some sb)) (rkV r) true).run Try.prog w = .ok (.tuple #[.agg #[], .bool true]) w := by
  letI : Toks := ⟨fun _ => 0⟩
  obtain ⟨j, h1, h2⟩ := first_of hn
  have := hm.look_yes (P := Try.prog) (j := j) (v := .agg #[]) (k := rkV r) Try.underlying84 sd_kv (by rw [List.getElem?_map, h1]; rfl) (beq_rk_self r) (fun m p hm hp => by
    rw [List.getElem?_map] at hp
    cases hx : S[m]? with
    | none => rw [hx] at hp; cases hp
    | some x =>
      rw [hx] at hp
      injection hp with hp
      subst hp
      exact beq_rk_ne (h2 m x hm hx)) true
  simpa using this
theorem kn_no (hm : MapAt w kb (K.map knE)) {k : Ky} (hn : k ∉ K) : (Instr.lookup 85 (.map (some kb)) (kyV k) true).run Try.prog w = .ok (.tuple #[.agg #[], .bool false]) w := by
  letI : Toks := ⟨fun _ => 0⟩
  have := hm.look_no (P := Try.prog) (k := kyV k) Try.underlying85 kn_kv (ky_fit k) (fun p hp => by
    obtain ⟨m, hm, rfl⟩ := List.mem_map.1 hp
    exact beq_ky_ne (fun e => hn (e ▸ hm))) zero_unit true
  simpa using this
theorem kn_yes (hm : MapAt w kb (K.map knE)) {k : Ky} (hn : k ∈ K) : (Instr.lookup 85 (.map (some kb)) (kyV k) true).run Try.prog w = .ok (.tuple #[.agg #[], .bool true]) w := by
  letI : Toks := ⟨fun _ => 0⟩
  obtain ⟨j, h1, h2⟩ := first_of hn
  have := hm.look_yes (P := Try.prog) (j := j) (v := .agg #[]) (k := kyV k) Try.underlying85 kn_kv (by rw [List.getElem?_map, h1]; rfl) (beq_ky_self k) (fun m p hm hp => by
    rw [List.getElem?_map] at hp
    cases hx : K[m]? with
    | none => rw [hx] at hp; cases hp
    | some x =>
      rw [hx] at hp
      injection hp with hp
      subst hp
      exact beq_ky_ne (h2 m x hm hx)) true
  simpa using this
theorem ex_no (hm : MapAt w xb (R.map exE)) {r : Pm} (hn : ∀ (k : Nat) (p : Pr), R[k]? = some p → p.r ≠ r) : (Instr.lookup 83 (.map (some xb)) (rkV r) true).run Try.prog w = .ok (.tuple #[.pointer none, .bool false]) w := by
  letI : Toks := ⟨fun _ => 0⟩
  have := hm.look_no (P := Try.prog) (k := rkV r) Try.underlying83 ex_kv (rk_fit r) (fun p hp => by
    obtain ⟨x, hx, rfl⟩ := List.mem_map.1 hp
    obtain ⟨k, hk⟩ := List.getElem?_of_mem hx
    exact beq_rk_ne (fun e => hn k x hk e.symm)) zero_prp true
  simpa using this
theorem ex_yes (hm : MapAt w xb (R.map exE)) (hu : ∀ (j k : Nat) (p q : Pr), R[j]? = some p → R[k]? = some q → p.r = q.r → j = k) {j : Nat} {p : Pr} (hj : R[j]? = some p) {r : Pm} (hr : p.r = r) : (Instr.lookup 83 (.map (some xb)) (rkV r) true).run Try.prog w = .ok (.tuple #[ptr p, .bool true]) w := by
  subst hr
  letI : Toks := ⟨fun _ => 0⟩
  have := hm.look_yes (P := Try.prog) (j := j) (v := ptr p) (k := rkV p.r) Try.underlying83 ex_kv (by rw [List.getElem?_map, hj]; rfl) (beq_rk_self p.r) (fun m q hm hq => by
    rw [List.getElem?_map] at hq
    cases hx : R[m]? with
    | none => rw [hx] at hq; cases hq
    | some x =>
      rw [hx] at hq
      injection hq with hq
      subst hq
      exact beq_rk_ne (fun e => absurd (hu j m p x hj hx e) (by omega))) true
  simpa using this
theorem sd_put (hm : MapAt w sb (S.map sdE)) {r : Pm} (hn : r ∉ S) : ∃ w', (Instr.mapUpdate 84 (.map (some sb)) (rkV r) (.agg #[])).run Try.prog w = .ok () w' ∧ MapAt w' sb ((S ++ [r]).map sdE) ∧ w.grownBy w' (some sb) := by
  letI : Toks := ⟨fun _ => 0⟩
  obtain ⟨w', h1, h2, h3⟩ := hm.put_no (P := Try.prog) (k := rkV r) Try.underlying84 sd_kv (rk_fit r) (fun p hp => by
    obtain ⟨m, hm, rfl⟩ := List.mem_map.1 hp
    exact beq_rk_ne (fun e => hn (e ▸ hm))) (.agg #[])
  exact ⟨w', h1, by simpa using h2, h3⟩
theorem kn_put (hm : MapAt w kb (K.map knE)) {k : Ky} (hn : k ∉ K) : ∃ w', (Instr.mapUpdate 85 (.map (some kb)) (kyV k) (.agg #[])).run Try.prog w = .ok () w' ∧ MapAt w' kb ((K ++ [k]).map knE) ∧ w.grownBy w' (some kb) := by
  letI : Toks := ⟨fun _ => 0⟩
  obtain ⟨w', h1, h2, h3⟩ := hm.put_no (P := Try.prog) (k := kyV k) Try.underlying85 kn_kv (ky_fit k) (fun p hp => by
    obtain ⟨m, hm, rfl⟩ := List.mem_map.1 hp
    exact beq_ky_ne (fun e => hn (e ▸ hm))) (.agg #[])
  exact ⟨w', h1, by simpa using h2, h3⟩
theorem ex_put (hm : MapAt w xb (R.map exE)) {r : Pm} (hn : ∀ (k : Nat) (p : Pr), R[k]? = some p → p.r ≠ r) (q : Pr) (hq : q.r = r) : ∃ w', (Instr.mapUpdate 83 (.map (some xb)) (rkV r) (.pointer (some ⟨q.g, 0, none⟩))).run Try.prog w = .ok () w' ∧ MapAt w' xb ((R ++ [q]).map exE) ∧ w.grownBy w' (some xb) := by
  subst hq
  letI : Toks := ⟨fun _ => 0⟩
  obtain ⟨w', h1, h2, h3⟩ := hm.put_no (P := Try.prog) (k := rkV q.r) Try.underlying83 ex_kv (rk_fit q.r) (fun p hp => by
    obtain ⟨x, hx, rfl⟩ := List.mem_map.1 hp
    obtain ⟨k, hk⟩ := List.getElem?_of_mem hx
    exact beq_rk_ne (fun e => hn k x hk e.symm)) (.pointer (some ⟨q.g, 0, none⟩))
  exact ⟨w', h1, by simpa using h2, h3⟩
theorem ex_del (hm : MapAt w xb (R.map exE)) (hu : ∀ (j k : Nat) (p q : Pr), R[j]? = some p → R[k]? = some q → p.r = q.r → j = k) {j : Nat} {p : Pr} (hj : R[j]? = some p) {r : Pm} (hr : p.r = r) (ty : TypeId) :
    ∃ w', (Builtin.delete_ #[83, 90] ty #[.map (some xb), rkV r]).run Try.prog w = .ok (.tuple #[]) w' ∧ MapAt w' xb ((R.eraseIdx j).map exE) ∧ w.grownBy w' (some xb) := by
  subst hr
  letI : Toks := ⟨fun _ => 0⟩
  obtain ⟨w', h1, h2, h3⟩ := hm.del_yes (P := Try.prog) (j := j) (u := ptr p) (k := rkV p.r) Try.underlying83 ex_kv (by rw [List.getElem?_map, hj]; rfl) (beq_rk_self p.r) (fun m q hm hq => by
    rw [List.getElem?_map] at hq
    cases hx : R[m]? with
    | none => rw [hx] at hq; cases hq
    | some x =>
      rw [hx] at hq
      injection hq with hq
      subst hq
      exact beq_rk_ne (fun e => absurd (hu j m p x hj hx e) (by omega))) ty
  exact ⟨w', h1, by rw [show (R.eraseIdx j).map exE = (R.map exE).eraseIdx j by rw [List.eraseIdx_eq_take_drop_succ, List.eraseIdx_eq_take_drop_succ, List.map_append, List.map_take, List.map_drop]]; exact h2, h3⟩
theorem results_cell1 {fn : Func} {p : Tmp} {ty : TypeId} (h : fn.results = #[.cell p ty]) (tmps : Array Value) (P : Program) (w : World) :
    (results fn tmps).run P w = ((asAddr (tmps.getD p undef)).run P w).andThen fun a w₁ => (loadVar ty a).run P w₁ := by
  simp only [results, h]
  simp [Sem.run_bind, Result.andThen]
theorem ret_cell1 {P : Program} {fn : Func} {p : Tmp} {ty : TypeId} {tmps : Array Value} {w : World} {g : Nat} {t : TypeId} {cs : Array Value} {d : TypeDesc} (h : fn.results = #[.cell p ty]) (ht : tmps.getD p undef = .pointer (some ⟨g, 0, none⟩)) (hb : Blk w g t cs)
    (hu : P.underlying ty = some d) (hd : (match d with | .struct _ | .array _ _ => true | _ => false) = true) (hi : (P.info? ty).map (·.size) = some cs.size) : (results fn tmps).run P w = .ok (.agg cs) w := by
  rw [results_cell1 h, ht]
  simp only [asAddr, Sem.run_pure, Result.andThen_ok]
  exact Go.run_loadVar_row w g t ty cs _ d hb hu hd hi
/-- A message that is answered. -/
structure Ms where
  k : Int
  r : Pm
  t : ByteArray
  s : Int
abbrev msA (x : Ms) : Array Value := #[.int .i64 x.k, .string x.r.f, .string x.r.e, .string x.t, .int .i64 x.r.n, .int .i64 x.s, .int .i64 0, .int .i64 0, .slice none 0 0]
abbrev msC (x : Ms) : List Value := [.int .i64 x.k, .string x.r.f, .string x.r.e, .string x.t, .int .i64 x.r.n, .int .i64 x.s, .int .i64 0, .int .i64 0, .slice none 0 0]
abbrev mssV (L : List Ms) : List Value := L.flatMap msC
abbrev noB : ByteArray := ⟨#[]⟩
theorem mssV_len (L : List Ms) : (mssV L).length = L.length * 9 := by
  induction L with
  | nil => rfl
  | cons a r ih => rw [show mssV (a :: r) = msC a ++ mssV r by simp [mssV]]; simp [ih]; omega
theorem mssV_get (L : List Ms) (k : Nat) (x : Ms) (h : L[k]? = some x) (j : Nat) (hj : j < 9) : (mssV L)[k * 9 + j]? = (msC x)[j]? := by
  induction L generalizing k with
  | nil => simp at h
  | cons a r ih =>
    have e : mssV (a :: r) = msC a ++ mssV r := by simp [mssV]
    cases k with
    | zero =>
      simp only [List.getElem?_cons_zero, Option.some.injEq] at h
      subst h
      rw [e, Nat.zero_mul, Nat.zero_add, List.getElem?_append_left (by simpa using hj)]
    | succ k =>
      have e2 : (k + 1) * 9 + j = 9 + (k * 9 + j) := by omega
      rw [e, e2, List.getElem?_append_right (by simp), show (msC a).length = 9 by rfl, Nat.add_sub_cancel_left]
      exact ih k (by simpa using h)
theorem mssV_one (L : List Ms) : ∀ u ∈ mssV L, u.oneCell' = true := by
  intro u hu
  obtain ⟨r, _, hr⟩ := List.mem_flatMap.1 hu
  simp only [msC, List.mem_cons, List.not_mem_nil, or_false] at hr
  rcases hr with rfl | rfl | rfl | rfl | rfl | rfl | rfl | rfl | rfl <;> rfl
theorem msC_one (x : Ms) : ∀ u ∈ msC x, u.oneCell' = true := by
  intro u hr
  simp only [msC, List.mem_cons, List.not_mem_nil, or_false] at hr
  rcases hr with rfl | rfl | rfl | rfl | rfl | rfl | rfl | rfl | rfl <;> rfl
set_option maxHeartbeats 4000000 in
theorem About (k : Int) (r : Pm) (w : World) : Calls Try.prog 48 #[rkV r, .int .i64 k] w fun e w' => e = .returned (.agg (msA ⟨k, r, noB, 0⟩)) ∧ Below w.heap.size w w' := by
  obtain ⟨f, e, n⟩ := r
  go_enter Try.func48, Try.ntmps48
  go_wp2
  have hb := Blk.new (w.alloc (Obj.cells #[.string f, .string e, .int .i64 n] 90)) 30 (msA ⟨k, ⟨f, e, n⟩, noB, 0⟩)
  refine bodyPost_ret (ret_cell1 rfl rfl (by simpa using hb) Try.underlying30 rfl (by kernel_rfl)) rfl ⟨rfl, ((Below.refl _ _).alloc (Nat.le_refl _) _).alloc (by simp) _⟩
set_option maxHeartbeats 4000000 in
theorem Report (r : Pm) (t : ByteArray) (s : Int) (w : World) : Calls Try.prog 53 #[rkV r, .string t, .int .i64 s] w fun e w' => e = .returned (.agg (msA ⟨8, r, t, s⟩)) ∧ Below w.heap.size w w' := by
  have hA := fun wa => About 8 r wa
  obtain ⟨f, e, n⟩ := r
  obtain ⟨W, hW⟩ : ∃ W, W = (w.alloc (.cells #[.string f, .string e, .int .i64 n] 90)).alloc (.cells (msA ⟨0, ⟨noB, noB, 0⟩, noB, 0⟩) 30) := ⟨_, rfl⟩
  obtain ⟨G, hG⟩ : ∃ G, G = w.heap.size + 1 := ⟨_, rfl⟩
  have hb : Below w.heap.size w W := by rw [hW]; exact ((Below.refl _ _).alloc (Nat.le_refl _) _).alloc (by simp) _
  have hz : Blk W G 30 (msA ⟨0, ⟨noB, noB, 0⟩, noB, 0⟩) := by
    rw [hW, hG]
    have := Blk.new (w.alloc (.cells #[.string f, .string e, .int .i64 n] 90)) 30 (msA ⟨0, ⟨noB, noB, 0⟩, noB, 0⟩)
    simpa using this
  have hr : Blk W w.heap.size 90 #[.string f, .string e, .int .i64 n] := by
    rw [hW]
    exact (Blk.new w 90 #[.string f, .string e, .int .i64 n]).alloc _
  have r0 : W.cell? ⟨w.heap.size, 0, none⟩ = some (.string f) := hr.cell 0
  have r1 : W.cell? ⟨w.heap.size, 1, none⟩ = some (.string e) := hr.cell 1
  have r2 : W.cell? ⟨w.heap.size, 2, none⟩ = some (.int .i64 n) := hr.cell 2
  have HW := Lib.hid (And.intro hW hG)
  have HB := Lib.hid hb
  have HZ := Lib.hid hz
  clear hW hG hb hz hr
  go_enter Try.func53, Try.ntmps53
  go_upto_region 1 with fail
  rw [← HW.out.1, ← HW.out.2]
  go_upto_region 4 with (go_at_call 48; refine (hA _).mono ?_; rintro r wA ⟨rfl, hbA⟩)
  have HB2 := Lib.hid (HB.out.trans (hbA.mono HB.out.size))
  have HZ2 := Lib.hid (HZ.out.below hbA HZ.out.lt)
  have hgW := Lib.hid HZ2.out.lt
  repeat (first | (refine wpList_storeG 30 (cs := msA ⟨8, ⟨f, e, n⟩, t, s⟩) (by kernel_rfl) rfl rfl rfl rfl (by simp [Value.oneCell', msA]) (HZ2.out.alloc _) rfl ?_; intro w4 hbe hot hk4) | go_step)
  refine Mark.intro ?_
  have HB4 := Lib.hid (hbe w (by rw [HW.out.2]; omega) (HB2.out.alloc HB2.out.size _))
  have HK4 := Lib.hid hk4
  clear hbe hot hk4
  go_wp2_with fail
  refine bodyPost_ret (ret_cell1 rfl rfl HK4.out Try.underlying30 rfl (by kernel_rfl)) rfl ⟨rfl, HB4.out⟩
end
end Go.Proofs.Ytiflhfhonhbcpaa.Hw
