/- The law's own lists. -/
import Derived.Test.YtlljepgfecodoaaTkF
namespace Go.Proofs.Ytlljepgfecodoaa.Tk
open Go Go.RowKit Go.Proofs.Ytlljepgfecodoaa Go.Proofs.Ytlljepgfecodoaa.Crw Go.ChangeShapes Go.WideShapes Go.ChangeAt
set_option linter.unusedVariables false
set_option maxRecDepth 100000
theorem ints_atI {w : World} {B n k : Nat} {q : IntKind} {A : Option Addr} {xs : List Int} (hr : Reads w B 1 A n (xs.map (Value.int q))) (hk : k < n) : ∃ ad x, A = some ad ∧ xs[k]? = some x ∧ w.cell? (ad.add k) = some (.int q x) := by
  obtain ⟨ad, u, rfl, _, hx, hc⟩ := hr.at_ hk
  simp only [List.getElem?_map, Option.map_eq_some_iff] at hx
  obtain ⟨x, h1, h2⟩ := hx
  exact ⟨ad, x, rfl, h1, by rw [hc, h2]⟩
set_option maxRecDepth 100000 in
theorem int_infoK : (Try.prog.info? 3).map (fun i => (i.zero, i.size, i.bytes)) = some (some (.int .i64 0), 1, 8) := by kernel_rfl
theorem entry_info : (Try.prog.info? 31).map (fun i => (i.zero, i.size, i.bytes)) = some (some (.agg #[.string ⟨#[]⟩, .string ⟨#[]⟩, .int .i64 0, .slice none 0 0]), 4, 64) := by kernel_rfl
theorem own_blk_neT {w : World} {B g z n : Nat} {e ty : TypeId} {v : Value} {xs : List Value} {cs : Array Value} (h : w.ownsRow B e z v n xs) (hb : Blk w g ty cs) (hne : e ≠ ty) : v.ownBlock ≠ some g := by
  rcases h.2 with ⟨rfl, -⟩ | ⟨g1, c1, cur, rfl, -, hh, -⟩
  · simp [Value.ownBlock]
  · intro e2
    simp only [Value.ownBlock, Option.some.injEq] at e2
    subst e2
    unfold Blk at hb
    rw [hh] at hb
    injection hb with hb
    injection hb with _ h2
    exact hne h2
theorem own_neT {w : World} {B B' z z' n n' : Nat} {e e' : TypeId} {v v' : Value} {xs xs' : List Value} (h : w.ownsRow B e z v n xs) (h' : w.ownsRow B' e' z' v' n' xs') (hne : e ≠ e') : v.ownBlock = none ∨ v.ownBlock ≠ v'.ownBlock := by
  rcases h.2 with ⟨rfl, -⟩ | ⟨g1, c1, cur, rfl, -, hh, -⟩
  · exact .inl rfl
  · right
    rcases h'.2 with ⟨rfl, -⟩ | ⟨g2, c2, cur2, rfl, -, hh2, -⟩
    · simp [Value.ownBlock]
    · intro e2
      simp only [Value.ownBlock, Option.some.injEq] at e2
      subst e2
      rw [hh] at hh2
      injection hh2 with hb
      injection hb with _ h2
      exact hne h2
theorem ap_sym {u v : Option Nat} (h : u = none ∨ u ≠ v) : v = none ∨ v ≠ u := by
  rcases h with h | h
  · subst h
    cases v with
    | none => exact .inl rfl
    | some k => exact .inr (by simp)
  · exact .inr fun e => h e.symm
abbrev pV (E : List En) : List Value := E.map fun e => .int .i64 (e.x.p : Int)
abbrev qV (E : List En) : List Value := E.map fun e => .int .i64 (e.x.q : Int)
structure LwP (w wx : World) (i : Nat) (E : List En) (v7 v10 v11 : Value) : Prop where
  l : wx.ownsRow w.heap.size 31 4 v7 i (enV E)
  ka : wx.ownsRow w.heap.size 3 1 v10 i (pV E)
  kb : wx.ownsRow w.heap.size 3 1 v11 i (qV E)
  ap : v10.ownBlock = none ∨ v10.ownBlock ≠ v11.ownBlock
  len : E.length = i
  it : ∀ (k : Nat) (e : En), E[k]? = some e → Blk wx e.g 28 (itC e.x)
  ok : ∀ (k : Nat) (e : En), E[k]? = some e → e.x.t = nm k ∧ e.x.n ≠ 0 ∧ e.x.p ≤ 99 ∧ 1 ≤ e.x.q ∧ e.x.q ≤ 100
  bel : Below w.heap.size w wx
section
variable {w wx wy : World} {i : Nat} {E : List En} {v7 v10 v11 : Value}
theorem LwP.below (h : LwP w wx i E v7 v10 v11) (hb : Below wx.heap.size wx wy) : LwP w wy i E v7 v10 v11 :=
  ⟨own_keep h.l hb, own_keep h.ka hb, own_keep h.kb hb, h.ap, h.len, fun k e he => (h.it k e he).below hb (h.it k e he).lt, h.ok, h.bel.trans (hb.mono h.bel.size)⟩
def sp (E : List En) : Nat := (E.map fun e => e.x.p).sum
def sq (E : List En) : Nat := (E.map fun e => e.x.q).sum
theorem sp_push (E : List En) (e : En) : sp (E ++ [e]) = sp E + e.x.p := by simp [sp]
theorem sq_push (E : List En) (e : En) : sq (E ++ [e]) = sq E + e.x.q := by simp [sq]
theorem sum_le (l : List Nat) (m : Nat) (h : ∀ x ∈ l, x ≤ m) : l.sum ≤ l.length * m := by
  induction l with
  | nil => simp
  | cons x l ih =>
    have h1 := h x (by simp)
    have h2 := ih (fun y hy => h y (by simp [hy]))
    simp only [List.sum_cons, List.length_cons, Nat.add_mul]
    omega
theorem LwP.sums (h : LwP w wx i E v7 v10 v11) : sp E ≤ i * 99 ∧ sq E ≤ i * 100 := by
  have hl := h.len
  constructor
  · have := sum_le (E.map fun e => e.x.p) 99 (fun x hx => by
      obtain ⟨e, he, rfl⟩ := List.mem_map.1 hx
      obtain ⟨k, hk⟩ := List.getElem?_of_mem he
      exact (h.ok k e hk).2.2.1)
    rw [List.length_map, hl] at this
    exact this
  · have := sum_le (E.map fun e => e.x.q) 100 (fun x hx => by
      obtain ⟨e, he, rfl⟩ := List.mem_map.1 hx
      obtain ⟨k, hk⟩ := List.getElem?_of_mem he
      exact (h.ok k e hk).2.2.2.2)
    rw [List.length_map, hl] at this
    exact this
/-- Behind both lists of numbers have grown. -/
structure LwQ (w wx : World) (i : Nat) (E : List En) (v7 v10 v11 : Value) (pa qb : Value) : Prop where
  l : wx.ownsRow w.heap.size 31 4 v7 i (enV E)
  ka : wx.ownsRow w.heap.size 3 1 v10 (i + 1) (pV E ++ [pa])
  kb : wx.ownsRow w.heap.size 3 1 v11 (i + 1) (qV E ++ [qb])
  ap : v10.ownBlock = none ∨ v10.ownBlock ≠ v11.ownBlock
  len : E.length = i
  it : ∀ (k : Nat) (e : En), E[k]? = some e → Blk wx e.g 28 (itC e.x)
  ok : ∀ (k : Nat) (e : En), E[k]? = some e → e.x.t = nm k ∧ e.x.n ≠ 0 ∧ e.x.p ≤ 99 ∧ 1 ≤ e.x.q ∧ e.x.q ≤ 100
  bel : Below w.heap.size w wx
theorem nEI : (31 : TypeId) ≠ 3 := by decide
theorem nIT : (3 : TypeId) ≠ 28 := by decide
theorem nET : (31 : TypeId) ≠ 28 := by decide
theorem own_ltT {w : World} {B : Nat} {e : TypeId} {z n : Nat} {v : Value} {xs : List Value} (h : w.ownsRow B e z v n xs) {g : Nat} (hg : v.ownBlock = some g) : g < w.heap.size := by
  rcases h.2 with ⟨rfl, -⟩ | ⟨g1, c1, cur, rfl, -, hh, -⟩
  · simp [Value.ownBlock] at hg
  · simp only [Value.ownBlock, Option.some.injEq] at hg
    subst hg
    exact (Array.getElem?_eq_some_iff.1 hh).1
theorem LwP.two {w4 w5 : World} {oa ob : Obj} {va vb pa qb : Value} (h : LwP w wx i E v7 v10 v11) (ha : w4.ownsRow w.heap.size 3 1 va (i + 1) (pV E ++ [pa])) (hga : (wx.alloc oa).grownBy w4 v10.ownBlock) (hna : va.ownBlock = v10.ownBlock ∨ va.ownBlock = some (wx.alloc oa).heap.size)
    (hb : w5.ownsRow w.heap.size 3 1 vb (i + 1) (qV E ++ [qb])) (hgb : (w4.alloc ob).grownBy w5 v11.ownBlock) (hnb : vb.ownBlock = v11.ownBlock ∨ vb.ownBlock = some (w4.alloc ob).heap.size) : LwQ w w5 i E v7 va vb pa qb := by
  have sz1 : wx.heap.size + 1 ≤ w4.heap.size := by have := hga.size; simpa using this
  have kb4 : w4.ownsRow w.heap.size 3 1 v11 i (qV E) := (h.kb.alloc oa).kept hga (ap_sym h.ap)
  have l4 : w4.ownsRow w.heap.size 31 4 v7 i (enV E) := (h.l.alloc oa).kept hga (own_neT h.l h.ka nEI)
  have l5 : w5.ownsRow w.heap.size 31 4 v7 i (enV E) := (l4.alloc ob).kept hgb (own_neT l4 kb4 nEI)
  have lt11 : ∀ g, v11.ownBlock = some g → g < wx.heap.size := fun g e => own_ltT h.kb e
  have apa : va.ownBlock = none ∨ va.ownBlock ≠ v11.ownBlock := by
    rcases hna with e | e
    · rw [e]; exact h.ap
    · right
      rw [e]
      intro e2
      have := lt11 _ e2.symm
      simp at this
      omega
  have ka5 : w5.ownsRow w.heap.size 3 1 va (i + 1) (pV E ++ [pa]) := (ha.alloc ob).kept hgb apa
  have apab : va.ownBlock = none ∨ va.ownBlock ≠ vb.ownBlock := by
    rcases hnb with e | e
    · rw [e]; exact apa
    · right
      rw [e]
      intro e2
      have := own_ltT ha e2
      simp at this
      omega
  have b4 := push_below h.bel h.bel.size h.ka oa hga
  refine ⟨l5, ka5, hb, apab, h.len, fun k e he => ?_, h.ok, push_below b4 b4.size kb4 ob hgb⟩
  have k4 := ((h.it k e he).alloc oa).grown hga (fun e2 => own_blk_neT (h.ka.alloc oa) ((h.it k e he).alloc oa) nIT e2.symm)
  exact (k4.alloc ob).grown hgb (fun e2 => own_blk_neT (kb4.alloc ob) (k4.alloc ob) nIT e2.symm)
theorem LwQ.ent {w5 w8 : World} {va vb v8 : Value} {e : En} {oe : Obj} (h : LwQ w w5 i E v7 va vb (.int .i64 (e.x.p : Int)) (.int .i64 (e.x.q : Int))) (hl : w8.ownsRow w.heap.size 31 4 v8 (i + 1) (enV E ++ en4 e)) (hg : ((w5.alloc (.cells (itC e.x) 28)).alloc oe).grownBy w8 v7.ownBlock)
    (he : e.g = w5.heap.size) (hok : e.x.t = nm i ∧ e.x.n ≠ 0 ∧ e.x.p ≤ 99 ∧ 1 ≤ e.x.q ∧ e.x.q ≤ 100) : LwP w w8 (i + 1) (E ++ [e]) v8 va vb := by
  have l6 := (h.l.alloc (.cells (itC e.x) 28)).alloc oe
  have ka6 := (h.ka.alloc (.cells (itC e.x) 28)).alloc oe
  have kb6 := (h.kb.alloc (.cells (itC e.x) 28)).alloc oe
  have b6 : Below w.heap.size w (w5.alloc (.cells (itC e.x) 28)) := h.bel.alloc h.bel.size _
  have i6 : ∀ (k : Nat) (y : En), E[k]? = some y → Blk w8 y.g 28 (itC y.x) := fun k y hy =>
    (((h.it k y hy).alloc (.cells (itC e.x) 28)).alloc oe).grown hg (fun e2 => own_blk_neT l6 (((h.it k y hy).alloc (.cells (itC e.x) 28)).alloc oe) nET e2.symm)
  have n6 : Blk ((w5.alloc (.cells (itC e.x) 28)).alloc oe) e.g 28 (itC e.x) := by rw [he]; exact (Blk.new w5 _ _).alloc oe
  have n8 := n6.grown hg (fun e2 => own_blk_neT l6 n6 nET e2.symm)
  have get : ∀ {k : Nat} {y : En}, (E ++ [e])[k]? = some y → (k = i ∧ y = e) ∨ E[k]? = some y := fun {k y} hy => by
    rcases Nat.lt_or_ge k E.length with hk | hk
    · rw [List.getElem?_append_left hk] at hy
      exact .inr hy
    · rw [List.getElem?_append_right hk] at hy
      obtain ⟨d, hd⟩ : ∃ d, k = E.length + d := ⟨k - E.length, by omega⟩
      subst hd
      rcases d with _ | d
      · simp at hy
        exact .inl ⟨by rw [Nat.add_zero]; exact h.len, hy.symm⟩
      · simp at hy
  refine ⟨?_, ?_, ?_, h.ap, by simp [h.len], fun k y hy => ?_, fun k y hy => ?_, push_below b6 b6.size (h.l.alloc _) oe hg⟩
  · have e1 : enV (E ++ [e]) = enV E ++ en4 e := by simp [enV]
    rw [e1]; exact hl
  · have e1 : pV (E ++ [e]) = pV E ++ [.int .i64 (e.x.p : Int)] := by simp [pV]
    rw [e1]; exact ka6.kept hg (own_neT ka6 l6 nEI.symm)
  · have e1 : qV (E ++ [e]) = qV E ++ [.int .i64 (e.x.q : Int)] := by simp [qV]
    rw [e1]; exact kb6.kept hg (own_neT kb6 l6 nEI.symm)
  · rcases get hy with ⟨rfl, rfl⟩ | hy
    · exact n8
    · exact i6 k y hy
  · rcases get hy with ⟨rfl, rfl⟩ | hy
    · exact hok
    · exact h.ok k y hy
end
end Go.Proofs.Ytlljepgfecodoaa.Tk
