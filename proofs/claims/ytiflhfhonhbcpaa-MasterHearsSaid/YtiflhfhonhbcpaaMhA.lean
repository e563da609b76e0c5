/- Both masters in one state; what a round's message is made of. -/
import Derived.Test.YtiflhfhonhbcpaaRmD
import Derived.Test.YtiflhfhonhbcpaaSameInt
import Derived.Deep.MidRow
namespace Go.Proofs.Ytiflhfhonhbcpaa.Mas
open Go Go.RowKit Go.Proofs.Ytiflhfhonhbcpaa Go.Proofs.Ytiflhfhonhbcpaa.Crw Go.ChangeShapes Go.WideShapes Go.ChangeAt
set_option linter.unusedVariables false
/-- The worlds of the region that makes a message: the numbers that are read stand as they stood. -/
structure MhS (wd : World) (a1 a2 a3 : Addr) (x y z : Int) (wa : World) : Prop where
  k1 : wd.cell? a1 = some (.int .i64 x)
  k2 : wd.cell? a2 = some (.int .i64 y)
  k3 : wd.cell? a3 = some (.int .i64 z)
  be : Below wd.heap.size wd wa
section
variable {wd wa wb : World} {a1 a2 a3 : Addr} {x y z : Int}
theorem MhS.c1 (h : MhS wd a1 a2 a3 x y z wa) : wa.cell? a1 = some (.int .i64 x) := (h.be.cell (p := a1) (World.block_lt_of_cell? _ _ h.k1)).trans h.k1
theorem MhS.c2 (h : MhS wd a1 a2 a3 x y z wa) : wa.cell? a2 = some (.int .i64 y) := (h.be.cell (p := a2) (World.block_lt_of_cell? _ _ h.k2)).trans h.k2
theorem MhS.c3 (h : MhS wd a1 a2 a3 x y z wa) : wa.cell? a3 = some (.int .i64 z) := (h.be.cell (p := a3) (World.block_lt_of_cell? _ _ h.k3)).trans h.k3
theorem MhS.below (h : MhS wd a1 a2 a3 x y z wa) (hb : Below wa.heap.size wa wb) : MhS wd a1 a2 a3 x y z wb := ⟨h.k1, h.k2, h.k3, h.be.trans (hb.mono h.be.size)⟩
theorem MhS.far (h : MhS wd a1 a2 a3 x y z wa) {g : Nat} (hg : wd.heap.size ≤ g) (k : Nat) (v : Value) : MhS wd a1 a2 a3 x y z (wa.setCell ⟨g, k, none⟩ v) := ⟨h.k1, h.k2, h.k3, h.be.setCell hg v⟩
end
/-- Both masters in one state. -/
structure JoP (w wr : World) (m mb r : Nat) (V U : Nat → Prop) (R : List Tk) (a b d : Value) (L : List Rk) (T : List Ag) (i : Nat) : Prop where
  ms : MsP wr w.heap.size m mb V R
  rm : RmP wr w.heap.size r U a b d L
  eR : R.map kR = T
  eL : L.map kL = T
  ap : ∀ g, V g → ¬ U g
  ok : AgOk T i
  bel : Below w.heap.size w wr
section
variable {w wr w2 : World} {m mb r : Nat} {V U : Nat → Prop} {R : List Tk} {a b d : Value} {L : List Rk} {T T1 : List Ag} {i : Nat}
theorem JoP.below (h : JoP w wr m mb r V U R a b d L T i) (hb : Below wr.heap.size wr w2) : JoP w w2 m mb r V U R a b d L T i :=
  ⟨h.ms.below hb, h.rm.below hb, h.eR, h.eL, h.ap, h.ok, h.bel.trans (hb.mono h.bel.size)⟩
theorem AgOk.mono {n n' : Nat} (h : AgOk T n) (hn : n ≤ n') : AgOk T n' := ⟨h.uq, fun i x hx => ⟨(h.ne i x hx).1, Nat.le_trans (h.ne i x hx).2 hn⟩, h.fg, Nat.le_trans h.len hn⟩
theorem rmP_new {w1 : World} {B : Nat} (hB : B ≤ w1.heap.size) : RmP (w1.alloc (.cells #[.slice none 0 0, .slice none 0 0, .slice none 0 0] 41)) B w1.heap.size (fun g => g = w1.heap.size) (.slice none 0 0) (.slice none 0 0) (.slice none 0 0) [] := by
  refine ⟨Blk.new _ _ _, ⟨by simp, .inl ⟨rfl, rfl⟩⟩, ⟨by simp, .inl ⟨rfl, rfl⟩⟩, ⟨by simp, .inl ⟨rfl, rfl⟩⟩, fun k x h => by simp at h, fun k j x y h => by simp at h, fun k x h => by simp at h, rfl, fun g h => by simp [Value.ownBlock] at h, fun g h => by simp [Value.ownBlock] at h, fun g h => by simp [Value.ownBlock] at h, fun k x h => by simp at h, fun g h => by rw [h]; simp, fun g h => by rw [h]; exact hB, by simp⟩
theorem bel_vol2 {w1 : World} {Z : Nat → Prop} (h : Below w.heap.size w w1) (hv : Vol Z w1 w2) (hZ : ∀ g, Z g → w.heap.size ≤ g) : Below w.heap.size w w2 :=
  ⟨hv.os.trans h.os, hv.tape.trans h.tape, hv.output.trans h.output, Nat.le_trans h.size hv.size, fun g hg => (hv.block g (Nat.lt_of_lt_of_le hg h.size) (fun e => by have := hZ g e; omega)).trans (h.block g hg)⟩
/-- Both have heard. -/
theorem JoP.heard {w5 w6 : World} {X : Option (Int × ByteArray × ByteArray × Int × Int)} {v v' : Value} {K st nu : Int} {f t : ByteArray} (h : JoP w wr m mb r V U R a b d L T i) (hs : AgSt T K f t st nu T1) (hf : f = ⟨#[102]⟩ ∨ f = ⟨#[103]⟩)
    (h5 : PHrd wr w.heap.size m mb V X T1 v w5) (h6 : RHrd w5 w.heap.size r U X T1 v' w6) :
    AnsAt w6 v X ∧ AnsAt w6 v' X ∧ ∃ V1 U1 R1 a1 b1 d1 L1, JoP w w6 m mb r V1 U1 R1 a1 b1 d1 L1 T1 (i + 1) := by
  obtain ⟨ha, V1, R1, eR1, hM, h1, h2, hv, hc⟩ := h5
  obtain ⟨ha', U1, a1, b1, d1, L1, eL1, hR, k1, k2, kv, kc⟩ := h6
  have dis : ∀ g, V1 g → ¬ U g := fun g hg hu => by
    rcases h2 g hg with e | e
    · exact h.ap g e hu
    · have := h.rm.lt g hu; omega
  refine ⟨ha.vol kv (fun c hc2 hu => ?_), ha', V1, U1, R1, a1, b1, d1, L1, hM.vol kv (fun g hg => dis g hg), hR, eR1, eL1, fun g hg hu => ?_, hs.ok h.ok hf, ?_⟩
  · have := h.rm.lt c hu
    have := (hc c hc2).1
    omega
  · rcases k2 g hu with e | e
    · exact dis g hg e
    · have := hM.lt g hg; omega
  · exact bel_vol2 (bel_vol2 h.bel hv (fun g hg => h.ms.ge g hg)) kv (fun g hg => h.rm.ge g hg)
theorem JoP.rm5 {w5 : World} {X : Option (Int × ByteArray × ByteArray × Int × Int)} {v : Value} (h : JoP w wr m mb r V U R a b d L T i) (h5 : PHrd wr w.heap.size m mb V X T1 v w5) : RmP w5 w.heap.size r U a b d L := by
  obtain ⟨ha, V1, R1, eR1, hM, h1, h2, hv, hc⟩ := h5
  exact h.rm.vol hv (fun g hg hV => h.ap g hV hg)
theorem ag_step (T : List Ag) (k : Int) (f t : ByteArray) (st nu : Int) : ∃ T1, AgSt T k f t st nu T1 := by
  by_cases hk : k = 11
  · rcases ag_any T f t with ⟨j, x, hx, h1, h2⟩ | h
    · exact ⟨_, .inr (.inl ⟨hk, j, x, hx, h1, h2, rfl⟩)⟩
    · exact ⟨_, .inr (.inr ⟨hk, h, rfl⟩)⟩
  · exact ⟨_, .inl ⟨hk, rfl⟩⟩
abbrev msg9 (wa : World) (gk : Nat) (K : Int) (G t : ByteArray) (n st nu ep : Int) : Prop := wa.cell? ⟨gk, 0, none⟩ = some (.int .i64 K) ∧ wa.cell? ⟨gk, 1, none⟩ = some (.string G) ∧ wa.cell? ⟨gk, 2, none⟩ = some (.string ⟨#[]⟩) ∧ wa.cell? ⟨gk, 3, none⟩ = some (.string t) ∧ wa.cell? ⟨gk, 4, none⟩ = some (.int .i64 n) ∧ wa.cell? ⟨gk, 5, none⟩ = some (.int .i64 st) ∧ wa.cell? ⟨gk, 6, none⟩ = some (.int .i64 nu) ∧ wa.cell? ⟨gk, 7, none⟩ = some (.int .i64 ep) ∧ wa.cell? ⟨gk, 8, none⟩ = some (.slice none 0 0)
theorem msg9_of {wa : World} {gk : Nat} {K n st nu ep : Int} {G t : ByteArray} (h : Blk wa gk 30 (msgK K G ⟨#[]⟩ t n st nu ep)) : msg9 wa gk K G t n st nu ep := ⟨h.cell 0, h.cell 1, h.cell 2, h.cell 3, h.cell 4, h.cell 5, h.cell 6, h.cell 7, h.cell 8⟩
theorem none_R (h : JoP w wr m mb r V U R a b d L T i) (t : ByteArray) (k : Nat) (x : Tk) (hx : R[k]? = some x) : same ⟨#[110, 111, 110, 101]⟩ t x = false := by
  refine same_ne fun e => ?_
  have hq := h.ok.fg k (kR x) (by rw [← h.eR, List.getElem?_map, hx]; rfl)
  have e2 : (kR x).f = ⟨#[110, 111, 110, 101]⟩ := e.1
  rw [e2] at hq
  rcases hq with hq | hq <;> exact absurd hq (by decide)
theorem JoP.at_ (h : JoP w wr m mb r V U R a b d L T i) {k : Nat} (hk : k < L.length) : ∃ x y, L[k]? = some x ∧ R[k]? = some y ∧ y.f = x.f ∧ y.t = x.t ∧ y.st = x.st ∧ y.ns = x.ns ∧ y.ns.length ≤ i := by
  obtain ⟨x, hx⟩ : ∃ x, L[k]? = some x := ⟨L[k], List.getElem?_eq_getElem hk⟩
  have hT : T[k]? = some (kL x) := by rw [← h.eL, List.getElem?_map, hx]; rfl
  obtain ⟨y, hy, e⟩ := mapR_get h.eR hT
  have e1 : y.f = x.f := congrArg Ag.f e
  have e2 : y.t = x.t := congrArg Ag.t e
  have e3 : y.st = x.st := congrArg Ag.st e
  have e4 : y.ns = x.ns := congrArg Ag.ns e
  exact ⟨x, y, hx, hy, e1, e2, e3, e4, by rw [e4]; exact (h.ok.ne k _ hT).2⟩
end
theorem built_msg (F T : ByteArray) (st nu ep : Int) : Try.prog.built 30 [(0, .int .i64 11), (1, .string F), (3, .string T), (6, .int .i64 nu), (7, .int .i64 ep), (5, .int .i64 st)] = some #[.int .i64 11, .string F, .string ⟨#[]⟩, .string T, .int .i64 0, .int .i64 st, .int .i64 nu, .int .i64 ep, .slice none 0 0] := by kernel_rfl
theorem msg_size (k : Int) (f e t : ByteArray) (n st nu ep : Int) : (Try.prog.info? 30).map (·.size) = some (msgK k f e t n st nu ep).size := by
  have h : (Try.prog.info? 30).map (·.size) = some 9 := by kernel_rfl
  rw [h]
  rfl
theorem nine (zs : Array Value) (h : zs.size = 9) : ∃ z0 z1 z2 z3 z4 z5 z6 z7 z8, zs = #[z0, z1, z2, z3, z4, z5, z6, z7, z8] := by
  obtain ⟨l⟩ := zs
  simp only [List.size_toArray] at h
  match l, h with
  | [z0, z1, z2, z3, z4, z5, z6, z7, z8], _ => exact ⟨z0, z1, z2, z3, z4, z5, z6, z7, z8, rfl⟩
theorem setCells9 (w : World) (g : Nat) (v0 v1 v2 v3 v4 v5 v6 v7 v8 : Value) : w.setCells g 0 (#[v0, v1, v2, v3, v4, v5, v6, v7, v8] : Array Value).toList = ((((((((w.setCell ⟨g, 0, none⟩ v0).setCell ⟨g, 1, none⟩ v1).setCell ⟨g, 2, none⟩ v2).setCell ⟨g, 3, none⟩ v3).setCell ⟨g, 4, none⟩ v4).setCell ⟨g, 5, none⟩ v5).setCell ⟨g, 6, none⟩ v6).setCell ⟨g, 7, none⟩ v7).setCell ⟨g, 8, none⟩ v8 := rfl
/-- A message goes into its own new block. -/
theorem store_msg {ops : Array Oper} {op : Oper} {a : Act} {w : World} {K : Act → World → Prop} {Q : Exit → Act → World → Prop} {E : Prop} {x y : Operand} {gk : Nat} {k : Int} {f e t : ByteArray} {n st nu ep : Int} {zs : Array Value} (ho : op.op = .store 30 x y) (hg : op.guard = none)
    (hx : a.eval x = .pointer (some ⟨gk, 0, none⟩)) (hy : a.eval y = .agg (msgK k f e t n st nu ep)) (hz : Blk w gk 30 zs) (hzs : zs.size = 9)
    (h : ∀ w', Blk w' gk 30 (msgK k f e t n st nu ep) → (∀ wd : World, wd.heap.size ≤ gk → Below wd.heap.size wd w → Below wd.heap.size wd w') → (∀ (g : Nat) (ty : TypeId) (cs : Array Value), g ≠ gk → Blk w g ty cs → Blk w' g ty cs) → K (a.put op.dst undef) w') :
    if Region.wanted op (yielded ops a.tmps) = true then Oper.wp Try.prog op a w K Q else E := by
  rw [if_pos (by simp [Region.wanted, hg])]
  refine wp_store_mid 30 x y ho gk 0 (msgK k f e t n st nu ep) hx hy (fun j hj => ?_) (msg_size k f e t n st nu ep) (by simp [Value.oneCell']) ?_
  · have hj9 : j < zs.size := by rw [hzs]; exact hj
    have hc := hz.cell j
    rw [Array.getElem?_eq_getElem hj9] at hc
    rw [Nat.zero_add]
    exact ⟨by rw [hc]; rfl, hz.frozen j⟩
  · rw [setCells9]
    refine h _ ?_ (fun wd hwd hb => ?_) (fun g ty cs hne hb => ?_)
    · obtain ⟨z0, z1, z2, z3, z4, z5, z6, z7, z8, rfl⟩ := nine zs hzs
      have b0 := hz
      have b1 : Blk _ gk 30 #[.int .i64 k, z1, z2, z3, z4, z5, z6, z7, z8] := b0.set_ 0 (.int .i64 k)
      have b2 : Blk _ gk 30 #[.int .i64 k, .string f, z2, z3, z4, z5, z6, z7, z8] := b1.set_ 1 (.string f)
      have b3 : Blk _ gk 30 #[.int .i64 k, .string f, .string e, z3, z4, z5, z6, z7, z8] := b2.set_ 2 (.string e)
      have b4 : Blk _ gk 30 #[.int .i64 k, .string f, .string e, .string t, z4, z5, z6, z7, z8] := b3.set_ 3 (.string t)
      have b5 : Blk _ gk 30 #[.int .i64 k, .string f, .string e, .string t, .int .i64 n, z5, z6, z7, z8] := b4.set_ 4 (.int .i64 n)
      have b6 : Blk _ gk 30 #[.int .i64 k, .string f, .string e, .string t, .int .i64 n, .int .i64 st, z6, z7, z8] := b5.set_ 5 (.int .i64 st)
      have b7 : Blk _ gk 30 #[.int .i64 k, .string f, .string e, .string t, .int .i64 n, .int .i64 st, .int .i64 nu, z7, z8] := b6.set_ 6 (.int .i64 nu)
      have b8 : Blk _ gk 30 #[.int .i64 k, .string f, .string e, .string t, .int .i64 n, .int .i64 st, .int .i64 nu, .int .i64 ep, z8] := b7.set_ 7 (.int .i64 ep)
      have b9 : Blk _ gk 30 #[.int .i64 k, .string f, .string e, .string t, .int .i64 n, .int .i64 st, .int .i64 nu, .int .i64 ep, .slice none 0 0] := b8.set_ 8 (.slice none 0 0)
      exact b9
    · have b0 := hb
      have b1 := b0.setCell (show wd.heap.size ≤ (⟨gk, 0, none⟩ : Addr).block from hwd) (.int .i64 k)
      have b2 := b1.setCell (show wd.heap.size ≤ (⟨gk, 1, none⟩ : Addr).block from hwd) (.string f)
      have b3 := b2.setCell (show wd.heap.size ≤ (⟨gk, 2, none⟩ : Addr).block from hwd) (.string e)
      have b4 := b3.setCell (show wd.heap.size ≤ (⟨gk, 3, none⟩ : Addr).block from hwd) (.string t)
      have b5 := b4.setCell (show wd.heap.size ≤ (⟨gk, 4, none⟩ : Addr).block from hwd) (.int .i64 n)
      have b6 := b5.setCell (show wd.heap.size ≤ (⟨gk, 5, none⟩ : Addr).block from hwd) (.int .i64 st)
      have b7 := b6.setCell (show wd.heap.size ≤ (⟨gk, 6, none⟩ : Addr).block from hwd) (.int .i64 nu)
      have b8 := b7.setCell (show wd.heap.size ≤ (⟨gk, 7, none⟩ : Addr).block from hwd) (.int .i64 ep)
      have b9 := b8.setCell (show wd.heap.size ≤ (⟨gk, 8, none⟩ : Addr).block from hwd) (.slice none 0 0)
      exact b9
    · have b0 := hb
      have b1 := b0.far (p := ⟨gk, 0, none⟩) hne (.int .i64 k)
      have b2 := b1.far (p := ⟨gk, 1, none⟩) hne (.string f)
      have b3 := b2.far (p := ⟨gk, 2, none⟩) hne (.string e)
      have b4 := b3.far (p := ⟨gk, 3, none⟩) hne (.string t)
      have b5 := b4.far (p := ⟨gk, 4, none⟩) hne (.int .i64 n)
      have b6 := b5.far (p := ⟨gk, 5, none⟩) hne (.int .i64 st)
      have b7 := b6.far (p := ⟨gk, 6, none⟩) hne (.int .i64 nu)
      have b8 := b7.far (p := ⟨gk, 7, none⟩) hne (.int .i64 ep)
      have b9 := b8.far (p := ⟨gk, 8, none⟩) hne (.slice none 0 0)
      exact b9
section
variable {w wr w2 : World} {m mb r : Nat} {V U : Nat → Prop} {R : List Tk} {a b d : Value} {L : List Rk} {T T1 : List Ag} {i : Nat}
theorem msg5 {w5 : World} {B : Nat} {X : Option (Int × ByteArray × ByteArray × Int × Int)} {v : Value} {gk : Nat} {ty : TypeId} {cs : Array Value} (h5 : PHrd wr B m mb V X T1 v w5) (hk : Blk wr gk ty cs) (hg : ¬ V gk) : Blk w5 gk ty cs := by
  obtain ⟨ha, V1, R1, eR1, hM, h1, h2, hv, hc⟩ := h5
  exact blk_vol hk hv hg
theorem msg6 {w6 : World} {B : Nat} {X : Option (Int × ByteArray × ByteArray × Int × Int)} {v : Value} {gk : Nat} {ty : TypeId} {cs : Array Value} (h6 : RHrd wr B r U X T1 v w6) (hk : Blk wr gk ty cs) (hg : ¬ U gk) : Blk w6 gk ty cs := by
  obtain ⟨ha, U1, a1, b1, d1, L1, eL1, hR, k1, k2, kv, kc⟩ := h6
  exact blk_vol hk kv hg
end
end Go.Proofs.Ytiflhfhonhbcpaa.Mas
