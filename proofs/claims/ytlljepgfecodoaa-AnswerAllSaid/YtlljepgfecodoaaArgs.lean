/- Arguments that stand in memory: bytes. What the statement's frame tells of them, as abstract memory that is only read. -/
import Derived.Test.YtlljepgfecodoaaDenFun
import Derived.Test.YtlljepgfecodoaaCfg
import Derived.Deep.Slices
namespace Go.Proofs.Ytlljepgfecodoaa
open Go Go.RowKit Go.ChangeShapes Go.WideShapes Go.ChangeAt

/-- A slice of bytes that is handed in. -/
def ByteArg (w : World) (v : Value) : Prop :=
  v = .slice none 0 0 ∨ ∃ (b off n c : Nat) (cs : Array Value) (el : TypeId) (fz : Nat × Nat) (xs : List Int), v = .slice (some ⟨b, off, none⟩) n c ∧ n ≤ c ∧ w.heap[b]? = some (.cells cs el fz) ∧ xs.length = n ∧
    ∀ k x, xs[k]? = some x → cs[off + k]? = some (.int .u8 x) ∧ 0 ≤ x ∧ x ≤ 255
theorem bytes_of {H : Type} {enc : TypeId × Value → H} {P : Program} {w : World} {held : Bool} {r : Reach} {b0 : Nat} {t e : TypeId} {v : Value} {d : DataW H} {ps : List MemPlace} (ht : P.underlying t = some (.slice e)) (he : P.underlying e = some (.int .u8)) (hc : P.cellsOf e = 1)
    (hval : Value.okWide P w r b0 t v) (h : DataW.Trod enc P w 0 (fun _ => true) held t v d ps) : ByteArg w v := by
  obtain ⟨A, n, c, rfl⟩ := okWide_slice ht hval
  obtain ⟨fuel, hf⟩ := h
  rcases open_ints ht he hc hf with ⟨hcs, _⟩ | ⟨x, l, c', zs, hcs, _, hl, hm, hz, _, hcell, hwz⟩
  · simp [Value.cells] at hcs
    obtain ⟨rfl, rfl, rfl⟩ := hcs
    exact .inl rfl
  · simp [Value.cells] at hcs
    obtain ⟨rfl, rfl, rfl⟩ := hcs
    have hz' : zs.length = c := by simpa using hz
    have hok : Cell.ok P w r b0 t (.slice (some x) n c) := by
      have hv := hval
      unfold Value.okWide at hv
      rw [ht] at hv
      simp only at hv
      unfold Cell.okWide at hv
      rw [ht] at hv
      exact hv
    unfold Cell.ok at hok
    rw [ht] at hok
    obtain ⟨_, _, _, hsp, row, cells, hsh, _⟩ := hok
    obtain ⟨xb, xo, xs⟩ := x
    simp only at hsp hsh
    subst hsp
    have hheap : ∃ cs el fz, w.heap[xb]? = some (.cells cs el fz) := by
      unfold World.shape? at hsh
      split at hsh
      · exact ⟨_, _, _, ‹_›⟩
      · cases hsh
    obtain ⟨cs, el, fz, hw⟩ := hheap
    refine .inr ⟨xb, xo, n, c, cs, el, fz, zs.take n, rfl, hl, hw, by simp; omega, fun k y hy => ?_⟩
    rw [List.getElem?_take] at hy
    split at hy
    · rename_i hk
      have hlt : k < zs.length := by omega
      have h1 := hcell k hlt
      have e1 : ((⟨xb, xo, none⟩ : Addr).add k) = ⟨xb, xo + k, none⟩ := add_at _ _ _
      rw [e1] at h1
      have e2 : zs.getD k 0 = y := by rw [List.getD_eq_getElem?_getD, hy]; rfl
      rw [e2] at h1
      have h2 := hwz y (List.mem_of_getElem? hy)
      refine ⟨by simpa [World.cell?, hw] using h1, ?_⟩
      exact bounds_u8 h2
    · cases hy
/-- Abstract memory of arguments alone. -/
def heapOf (l : List AObj) : AHeap := l.foldl AHeap.push h0
theorem heapOf_get (l : List AObj) : (heapOf l).n = l.length ∧ ∀ i, (heapOf l).get i = l[i]? := by
  have key : ∀ (l : List AObj) (h : AHeap) (p : List AObj), h.n = p.length → (∀ i, h.get i = p[i]?) → (l.foldl AHeap.push h).n = (p ++ l).length ∧ ∀ i, (l.foldl AHeap.push h).get i = (p ++ l)[i]? := by
    intro l
    induction l with
    | nil => intro h p h1 h2; simpa using ⟨h1, h2⟩
    | cons o l ih =>
      intro h p h1 h2
      have := ih (h.push o) (p ++ [o]) (by simp [AHeap.push, h1]) (fun i => by
        rw [AHeap.get_push, h2, h1]
        by_cases e : i = p.length
        · subst e; simp
        · rw [if_neg e]
          rcases Nat.lt_or_ge i p.length with hl | hl
          · rw [List.getElem?_append_left hl]
          · rw [List.getElem?_eq_none hl, List.getElem?_eq_none (by simp; omega)])
      simpa using this
  have := key l h0 [] rfl (fun i => by rw [AHeap.get_ge h0 i (Nat.zero_le _)]; rfl)
  simpa [heapOf] using this
variable [Toks]
/-- A name's place, the object, and that memory holds it. -/
def ArgsHeld (obs : List (AObj × Loc)) (w : World) : Prop := ∀ q ∈ obs, q.1.kind = 2 ∧ CellHeld (fun _ => none) q.1 q.2 w
theorem sim_args {obs : List (AObj × Loc)} {w : World} (h : ArgsHeld obs w) (M : Nat) (hM : obs.length ≤ M) : Sim M (fun i => (obs[i]?).map (·.2)) (heapOf (obs.map (·.1))) w := by
  obtain ⟨h1, h2⟩ := heapOf_get (obs.map (·.1))
  have get : ∀ i o l, (heapOf (obs.map (·.1))).get i = some o → (obs[i]?).map (·.2) = some l → (o, l) ∈ obs := by
    intro i o l g1 g2
    rw [h2, List.getElem?_map] at g1
    cases hq : obs[i]? with
    | none => rw [hq] at g2; cases g2
    | some q =>
      rw [hq] at g1 g2
      cases g1; cases g2
      exact List.mem_of_getElem? hq
  refine ⟨fun i o l g1 g2 => ?_, fun i j o o' l l' g1 g2 g3 g4 _ => .inr ⟨(h _ (get i o l g1 g3)).1, (h _ (get j o' l' g2 g4)).1⟩, fun i l g => ?_, fun i hi => AHeap.get_ge _ i hi, by rw [h1]; simpa using hM⟩
  · obtain ⟨k1, cs, fz, k2, k3, k4⟩ := h _ (get i o l g1 g2)
    refine Held.ofCells (by simp only at k1; omega) ⟨cs, fz, k2, fun k u hu => ?_, k4⟩
    obtain ⟨u', a, b⟩ := k3 k u hu
    exact ⟨u', a, b.mono fun _ _ e => (by cases e)⟩
  · cases hq : obs[i]? with
    | none => rw [hq] at g; cases g
    | some q =>
      have hi : i < obs.length := (List.getElem?_eq_some_iff.1 hq).1
      rw [hq] at g
      cases g
      obtain ⟨_, cs, fz, k2, _⟩ := h q (List.mem_of_getElem? hq)
      exact ⟨.inl (by rw [h1]; simpa using hi), (Array.getElem?_eq_some_iff.1 k2).1⟩
section
variable {P : Program}
/-- A statement that the plain terms find true, its arguments in memory. -/
theorem top_args {l : List (Nat × G)} (a : AllG P l) {okF : Cfg} (hok : CfgOk P okF) (hm : P.follows .mixedOrders = true) (m n : Nat) {f : FuncId} {obs : List (AObj × Loc)} {args : List Value} {args' : Array Value} (W : World) (hob : ArgsHeld obs W) (ha : LR (VR fun i => (obs[i]?).map (·.2)) args args'.toList)
    (h : yes (gcall (mkTab l) (deep P okF m) n f args (heapOf (obs.map (·.1)))) = true) : Calls P f args' W fun e w' => e = .returned (.bool true) ∧ Below W.heap.size W w' := by
  unfold yes at h
  split at h
  · rename_i h' hx
    have hg := gcall_ok a (deep_ok hok hm m).1 (deep_ok hok hm m).2 n
    have hle := hg.2 f args _ _ _ hx
    have hn := (heapOf_get (obs.map (·.1))).1
    obtain ⟨fn, _, _, _, g⟩ := hg.1 h'.n _ _ W f args args' (.bool true) h' (sim_args hob h'.n (by rw [hn] at hle; simpa using hle)) (Nat.le_refl _) ha hx
    refine g.mono fun e w' ⟨ρ', v', e1, E, _, hv⟩ => ?_
    rw [hv.bool] at e1
    refine ⟨e1, E.os, E.tape, E.output, E.size, fun k hk => E.frame k hk fun i l o h1 h2 h3 _ => h3 ?_⟩
    have h4 := (heapOf_get (obs.map (·.1))).2 i
    rw [h4, List.getElem?_map] at h2
    cases hq : obs[i]? with
    | none => rw [hq] at h2; cases h2
    | some q => rw [hq] at h2; cases h2; exact (hob q (List.mem_of_getElem? hq)).1
  · cases h
end
/-- The i-th byte of the j-th argument, as it is not known. -/
def byteTok (j i : Nat) : Value := .iface (10000 * (j + 1) + i) (.iface 0 (.iface 255 (.int .u8 0)))
def byteToks (j : Nat) : Nat → Nat → List Value
  | 0, _ => []
  | n + 1, i => byteTok j i :: byteToks j n (i + 1)
omit [Toks] in
theorem byteToks_get (j : Nat) : ∀ (n i k : Nat), (byteToks j n i)[k]? = if k < n then some (byteTok j (i + k)) else none
  | 0, _, _ => by simp [byteToks]
  | n + 1, i, 0 => by simp [byteToks]
  | n + 1, i, k + 1 => by
    simp only [byteToks, List.getElem?_cons_succ]
    rw [byteToks_get j n (i + 1) k, show i + 1 + k = i + (k + 1) by omega]
    by_cases h : k < n
    · rw [if_pos h, if_pos (by omega)]
    · rw [if_neg h, if_neg (by omega)]
omit [Toks] in
theorem byteToks_length (j : Nat) : ∀ (n i : Nat), (byteToks j n i).length = n
  | 0, _ => rfl
  | n + 1, i => by simp [byteToks, byteToks_length j n (i + 1)]
/-- An argument's object: up to L bytes that are not known, what is behind them as it is. -/
theorem bytes_held {w : World} {b off j L : Nat} {cs : Array Value} {el : TypeId} {fz : Nat × Nat} {xs : List Int} (hL : L ≤ 9000) (hj : j < 50) (hw : w.heap[b]? = some (.cells cs el fz)) (hx : ∀ k x, xs[k]? = some x → cs[off + k]? = some (.int .u8 x) ∧ 0 ≤ x ∧ x ≤ 255)
    (hT : ∀ k, k < L → Toks.B (10000 * (j + 1) + k) = xs.getD k 0) (hn : L ≤ xs.length) :
    CellHeld (fun _ => none) ⟨byteToks j L 0 ++ (xs.drop L).map (.int .u8), el, 2, 1⟩ ⟨b, 0, off⟩ w := by
  refine ⟨cs, fz, hw, fun k u hu => ?_, fun h => absurd rfl h, fun h => absurd h (by show ¬ (2 : Nat) = 0; decide), fun h => absurd rfl h⟩
  simp only at hu ⊢
  rcases Nat.lt_or_ge k L with hk | hk
  · rw [List.getElem?_append_left (by rw [byteToks_length]; exact hk), byteToks_get, if_pos hk] at hu
    cases hu
    have hkl : k < xs.length := by omega
    obtain ⟨h1, h2, h3⟩ := hx k _ (List.getElem?_eq_getElem hkl)
    refine ⟨_, h1, ?_⟩
    have e : Toks.A (10000 * (j + 1) + (0 + k)) = xs[k] := by
      rw [Nat.zero_add, Toks.A_low (by omega), hT k hk, List.getD_eq_getElem?_getD, List.getElem?_eq_getElem hkl]
      rfl
    show Value.int .u8 xs[k] = .int .u8 (Toks.A (10000 * (j + 1) + (0 + k)) + 0) ∧ ((0 : Nat) : Int) ≤ Toks.A (10000 * (j + 1) + (0 + k)) ∧ Toks.A (10000 * (j + 1) + (0 + k)) ≤ ((255 : Nat) : Int)
    rw [e, Int.add_zero]
    exact ⟨rfl, h2, h3⟩
  · rw [List.getElem?_append_right (by rw [byteToks_length]; exact hk), byteToks_length, List.getElem?_map, Option.map_eq_some_iff] at hu
    obtain ⟨x, hx1, rfl⟩ := hu
    rw [List.getElem?_drop, show L + (k - L) = k by omega] at hx1
    obtain ⟨h1, _, _⟩ := hx k x hx1
    exact ⟨_, h1, VR0.flat rfl⟩
omit [Toks] in
/-- An argument of bytes, its numbers told first. -/
theorem bytes_xs {w : World} {v : Value} (h : ByteArg w v) : ∃ xs : List Int, v = .slice none 0 0 ∨ ∃ (b off n c : Nat) (cs : Array Value) (el : TypeId) (fz : Nat × Nat), v = .slice (some ⟨b, off, none⟩) n c ∧ n ≤ c ∧ w.heap[b]? = some (.cells cs el fz) ∧ xs.length = n ∧
    ∀ k x, xs[k]? = some x → cs[off + k]? = some (.int .u8 x) ∧ 0 ≤ x ∧ x ≤ 255 := by
  rcases h with h | ⟨b, off, n, c, cs, el, fz, xs, h⟩
  · exact ⟨[], .inl h⟩
  · exact ⟨xs, .inr ⟨b, off, n, c, cs, el, fz, h⟩⟩
theorem bytes_rel {ρ : Ren} {i b off n c : Nat} (hn : n ≤ c) (h : ρ i = some ⟨b, 0, off⟩) : VR ρ (.slice (some ⟨i, 0, none⟩) n c) (.slice (some ⟨b, off, none⟩) n c) :=
  ⟨hn, _, off, c, h, rfl, Nat.le_refl _, fun _ => by simp, fun _ => rfl, fun h => absurd rfl h⟩

/-! Numbers. -/
def IntsArg (w : World) (v : Value) : Prop :=
  v = .slice none 0 0 ∨ ∃ (b off n c : Nat) (cs : Array Value) (el : TypeId) (fz : Nat × Nat) (xs : List Int), v = .slice (some ⟨b, off, none⟩) n c ∧ n ≤ c ∧ w.heap[b]? = some (.cells cs el fz) ∧ xs.length = n ∧
    ∀ k x, xs[k]? = some x → cs[off + k]? = some (.int .i64 x) ∧ -9223372036854775808 ≤ x ∧ x ≤ 9223372036854775807
omit [Toks] in
theorem intsArg_of {H : Type} {enc : TypeId × Value → H} {P : Program} {w : World} {held : Bool} {r : Reach} {b0 : Nat} {t e : TypeId} {v : Value} {d : DataW H} {ps : List MemPlace} (ht : P.underlying t = some (.slice e)) (he : P.underlying e = some (.int .i64)) (hc : P.cellsOf e = 1)
    (hval : Value.okWide P w r b0 t v) (h : DataW.Trod enc P w 0 (fun _ => true) held t v d ps) : IntsArg w v := by
  obtain ⟨A, n, c, rfl⟩ := okWide_slice ht hval
  obtain ⟨fuel, hf⟩ := h
  rcases open_ints ht he hc hf with ⟨hcs, _⟩ | ⟨x, l, c', zs, hcs, _, hl, hm, hz, _, hcell, hwz⟩
  · simp [Value.cells] at hcs
    obtain ⟨rfl, rfl, rfl⟩ := hcs
    exact .inl rfl
  · simp [Value.cells] at hcs
    obtain ⟨rfl, rfl, rfl⟩ := hcs
    have hz' : zs.length = c := by simpa using hz
    have hok : Cell.ok P w r b0 t (.slice (some x) n c) := by
      have hv := hval
      unfold Value.okWide at hv
      rw [ht] at hv
      simp only at hv
      unfold Cell.okWide at hv
      rw [ht] at hv
      exact hv
    unfold Cell.ok at hok
    rw [ht] at hok
    obtain ⟨_, _, _, hsp, row, cells, hsh, _⟩ := hok
    obtain ⟨xb, xo, xs⟩ := x
    simp only at hsp hsh
    subst hsp
    have hheap : ∃ cs el fz, w.heap[xb]? = some (.cells cs el fz) := by
      unfold World.shape? at hsh
      split at hsh
      · exact ⟨_, _, _, ‹_›⟩
      · cases hsh
    obtain ⟨cs, el, fz, hw⟩ := hheap
    refine .inr ⟨xb, xo, n, c, cs, el, fz, zs.take n, rfl, hl, hw, by simp; omega, fun k y hy => ?_⟩
    rw [List.getElem?_take] at hy
    split at hy
    · rename_i hk
      have hlt : k < zs.length := by omega
      have h1 := hcell k hlt
      have e1 : ((⟨xb, xo, none⟩ : Addr).add k) = ⟨xb, xo + k, none⟩ := add_at _ _ _
      rw [e1] at h1
      have e2 : zs.getD k 0 = y := by rw [List.getD_eq_getElem?_getD, hy]; rfl
      rw [e2] at h1
      have h2 := hwz y (List.mem_of_getElem? hy)
      exact ⟨by simpa [World.cell?, hw] using h1, bounds_i64 h2⟩
    · cases hy
omit [Toks] in
/-- An argument of numbers, the numbers told first; where there is none, it is 0. -/
theorem ints_xs {w : World} {v : Value} (h : IntsArg w v) : ∃ xs : List Int, (∀ k, -9223372036854775808 ≤ xs.getD k 0 ∧ xs.getD k 0 ≤ 9223372036854775807) ∧ (v = .slice none 0 0 ∨ ∃ (b off n c : Nat) (cs : Array Value) (el : TypeId) (fz : Nat × Nat), v = .slice (some ⟨b, off, none⟩) n c ∧ n ≤ c ∧ w.heap[b]? = some (.cells cs el fz) ∧ xs.length = n ∧
    ∀ k x, xs[k]? = some x → cs[off + k]? = some (.int .i64 x) ∧ -9223372036854775808 ≤ x ∧ x ≤ 9223372036854775807) := by
  rcases h with h | ⟨b, off, n, c, cs, el, fz, xs, h⟩
  · exact ⟨[], fun k => by simp, .inl h⟩
  · refine ⟨xs, fun k => ?_, .inr ⟨b, off, n, c, cs, el, fz, h⟩⟩
    rw [List.getD_eq_getElem?_getD]
    cases hk : xs[k]? with
    | none => simp
    | some x => exact (h.2.2.2.2 k x hk).2
def intTok (j i : Nat) : Value := .chan (some (500000 + 10000 * j + i))
def intToks (j : Nat) : Nat → Nat → List Value
  | 0, _ => []
  | n + 1, i => intTok j i :: intToks j n (i + 1)
omit [Toks] in
theorem intToks_get (j : Nat) : ∀ (n i k : Nat), (intToks j n i)[k]? = if k < n then some (intTok j (i + k)) else none
  | 0, _, _ => by simp [intToks]
  | n + 1, i, 0 => by simp [intToks]
  | n + 1, i, k + 1 => by
    simp only [intToks, List.getElem?_cons_succ]
    rw [intToks_get j n (i + 1) k, show i + 1 + k = i + (k + 1) by omega]
    by_cases h : k < n
    · rw [if_pos h, if_pos (by omega)]
    · rw [if_neg h, if_neg (by omega)]
omit [Toks] in
theorem intToks_length (j : Nat) : ∀ (n i : Nat), (intToks j n i).length = n
  | 0, _ => rfl
  | n + 1, i => by simp [intToks, intToks_length j n (i + 1)]
theorem ints_held {w : World} {b off j L : Nat} {cs : Array Value} {el : TypeId} {fz : Nat × Nat} {xs : List Int} (hL : L ≤ 9000) (hj : j < 40) (hw : w.heap[b]? = some (.cells cs el fz)) (hx : ∀ k x, xs[k]? = some x → cs[off + k]? = some (.int .i64 x) ∧ -9223372036854775808 ≤ x ∧ x ≤ 9223372036854775807)
    (hT : ∀ k, k < L → Toks.B (500000 + 10000 * j + k) = xs.getD k 0) (hn : L ≤ xs.length) :
    CellHeld (fun _ => none) ⟨intToks j L 0 ++ (xs.drop L).map (.int .i64), el, 2, 1⟩ ⟨b, 0, off⟩ w := by
  refine ⟨cs, fz, hw, fun k u hu => ?_, fun h => absurd rfl h, fun h => absurd h (by show ¬ (2 : Nat) = 0; decide), fun h => absurd rfl h⟩
  simp only at hu ⊢
  rcases Nat.lt_or_ge k L with hk | hk
  · rw [List.getElem?_append_left (by rw [intToks_length]; exact hk), intToks_get, if_pos hk] at hu
    cases hu
    have hkl : k < xs.length := by omega
    obtain ⟨h1, h2, h3⟩ := hx k _ (List.getElem?_eq_getElem hkl)
    refine ⟨_, h1, ?_⟩
    have e : Toks.A (500000 + 10000 * j + (0 + k)) = xs[k] := by
      rw [Nat.zero_add, Toks.A_low (by omega), hT k hk, List.getD_eq_getElem?_getD, List.getElem?_eq_getElem hkl]
      rfl
    show Value.int .i64 xs[k] = .int .i64 (Toks.A (500000 + 10000 * j + (0 + k)))
    rw [e]
  · rw [List.getElem?_append_right (by rw [intToks_length]; exact hk), intToks_length, List.getElem?_map, Option.map_eq_some_iff] at hu
    obtain ⟨x, hx1, rfl⟩ := hu
    rw [List.getElem?_drop, show L + (k - L) = k by omega] at hx1
    obtain ⟨h1, _, _⟩ := hx k x hx1
    exact ⟨_, h1, VR0.flat rfl⟩
end Go.Proofs.Ytlljepgfecodoaa
