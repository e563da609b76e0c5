/- The plain master on its way to one task more: its three rows, itself, the message. -/
import Derived.Test.YtiflhfhonhbcpaaRmT
import Derived.Test.YtiflhfhonhbcpaaHeldL
namespace Go.Proofs.Ytiflhfhonhbcpaa.Mas
open Go Go.RowKit Go.Proofs.Ytiflhfhonhbcpaa Go.Proofs.Ytiflhfhonhbcpaa.Crw Go.ChangeShapes Go.WideShapes Go.ChangeAt
set_option linter.unusedVariables false
structure PuS (w9 W : World) (B m gk : Nat) (msg : Array Value) (a b c x y z ka kb kc : Value) (na nb nc : Nat) (xa xb xc : List Value) : Prop where
  sz : w9.heap.size ≤ W.heap.size
  hK : W.ownsRow B 46 2 ka na xa
  hS : W.ownsRow B 3 1 kb nb xb
  hH : W.ownsRow B 22 1 kc nc xc
  blk : Blk W m 41 #[x, y, z]
  msg_ : Blk W gk 30 msg
  vol : Vol (fun g => g = m ∨ a.ownBlock = some g ∨ b.ownBlock = some g ∨ c.ownBlock = some g) w9 W
  oa : ∀ g, ka.ownBlock = some g → a.ownBlock = some g ∨ w9.heap.size ≤ g
  ob : ∀ g, kb.ownBlock = some g → b.ownBlock = some g ∨ w9.heap.size ≤ g
  oc : ∀ g, kc.ownBlock = some g → c.ownBlock = some g ∨ w9.heap.size ≤ g
/-- What was made on the way: one cell row, read by an append. -/
def TmpF (w9 W : World) (t : Nat) (ty : TypeId) (cs : Array Value) : Prop := w9.heap.size ≤ t ∧ Blk W t ty cs
theorem own_lt {w : World} {B : Nat} {e : TypeId} {z n : Nat} {v : Value} {xs : List Value} (h : w.ownsRow B e z v n xs) {g : Nat} (hg : v.ownBlock = some g) : g < w.heap.size := by
  rcases h.2 with ⟨rfl, -⟩ | ⟨g1, c1, cur, rfl, -, hh, -⟩
  · simp [Value.ownBlock] at hg
  · simp only [Value.ownBlock, Option.some.injEq] at hg
    subst hg
    exact (Array.getElem?_eq_some_iff.1 hh).1
section
variable {w9 W W' : World} {B m gk t : Nat} {ty : TypeId} {cs msg : Array Value} {a b c x y z ka kb kc u : Value} {na nb nc : Nat} {xa xb xc news : List Value}
theorem TmpF.alloc (h : TmpF w9 W t ty cs) (o : Obj) : TmpF w9 (W.alloc o) t ty cs := ⟨h.1, h.2.alloc o⟩
theorem TmpF.grown {row : Option Nat} (h : TmpF w9 W t ty cs) (hg : W.grownBy W' row) (hr : ∀ g, row = some g → g < w9.heap.size) : TmpF w9 W' t ty cs :=
  ⟨h.1, h.2.grown hg (fun e => by have := hr t e.symm; have := h.1; omega)⟩
theorem TmpF.new (hs : w9.heap.size ≤ W.heap.size) (ty : TypeId) (cs : Array Value) : TmpF w9 (W.alloc (.cells cs ty)) W.heap.size ty cs := ⟨hs, Blk.new W ty cs⟩
theorem TmpF.reads {xs : List Value} (h : TmpF w9 W t ty xs.toArray) {n s : Nat} (hs : xs.length = n * s) : Reads W W.heap.size s (some ⟨t, 0, none⟩) n xs := by
  refine ⟨hs, fun _ => ⟨_, rfl, h.2.lt, fun j u hu => ?_⟩⟩
  have h := h.2.cell j
  rw [List.getElem?_toArray] at h
  have e : ((⟨t, 0, none⟩ : Addr).add j) = ⟨t, j, none⟩ := by
    unfold Addr.add; split <;> simp_all
  rw [e]
  exact h.trans hu
theorem PuS.alloc (h : PuS w9 W B m gk msg a b c x y z ka kb kc na nb nc xa xb xc) (o : Obj) : PuS w9 (W.alloc o) B m gk msg a b c x y z ka kb kc na nb nc xa xb xc :=
  ⟨Nat.le_trans h.sz (by simp), h.hK.alloc _, h.hS.alloc _, h.hH.alloc _, h.blk.alloc o, h.msg_.alloc o, h.vol.alloc o, h.oa, h.ob, h.oc⟩
theorem nKS : (46 : TypeId) ≠ 3 := by decide
theorem nKH : (46 : TypeId) ≠ 22 := by decide
theorem nSH : (3 : TypeId) ≠ 22 := by decide
theorem nKm : (46 : TypeId) ≠ 41 := by decide
theorem nSm : (3 : TypeId) ≠ 41 := by decide
theorem nHm : (22 : TypeId) ≠ 41 := by decide
theorem nKk : (46 : TypeId) ≠ 30 := by decide
theorem nSk : (3 : TypeId) ≠ 30 := by decide
theorem nHk : (22 : TypeId) ≠ 30 := by decide
theorem nmk : (41 : TypeId) ≠ 30 := by decide
theorem kept_ne {e e' : TypeId} {z z' n n' B' : Nat} {v v' : Value} {xs xs' : List Value} (h : W.ownsRow B e z v n xs) (h' : W.ownsRow B' e' z' v' n' xs') (hne : e ≠ e') (hg : W.grownBy W' v'.ownBlock) : W'.ownsRow B e z v n xs :=
  by
  cases hv : v.ownBlock with
  | none => exact h.kept hg (.inl hv)
  | some g => exact h.kept hg (.inr (fun e2 => own_ne h h' hne hv (by rw [← e2]; exact hv)))
theorem blk_neG {e : TypeId} {zz n : Nat} {v : Value} {xs : List Value} (h : W.ownsRow B e zz v n xs) (hb : Blk W t ty cs) (hne : e ≠ ty) (hg : W.grownBy W' v.ownBlock) : Blk W' t ty cs :=
  hb.grown hg (fun e2 => own_blk_ne2 h hb hne e2.symm rfl)
theorem vol_grow {Z : Nat → Prop} {v o : Value} (h : Vol Z w9 W) (hg : W.grownBy W' v.ownBlock) (hz : ∀ g, o.ownBlock = some g → Z g) (ho : ∀ g, v.ownBlock = some g → o.ownBlock = some g ∨ w9.heap.size ≤ g) : Vol Z w9 W' :=
  h.grown hg (fun g e => (ho g e).imp (hz g) id)
theorem ow_grow {v v' o : Value} (hs : w9.heap.size ≤ W.heap.size) (ho : ∀ g, v.ownBlock = some g → o.ownBlock = some g ∨ w9.heap.size ≤ g) (hn : v'.ownBlock = v.ownBlock ∨ v'.ownBlock = some W.heap.size) : ∀ g, v'.ownBlock = some g → o.ownBlock = some g ∨ w9.heap.size ≤ g := fun g e => by
  rcases hn with e2 | e2
  · exact ho g (e2 ▸ e)
  · rw [e2] at e
    injection e with e
    exact .inr (e ▸ hs)
theorem PuS.appK (h : PuS w9 W B m gk msg a b c x y z ka kb kc na nb nc xa xb xc) (ho : W'.ownsRow B 46 2 u (na + 1) (xa ++ news)) (hg : W.grownBy W' ka.ownBlock) (hn : u.ownBlock = ka.ownBlock ∨ u.ownBlock = some W.heap.size) :
    PuS w9 W' B m gk msg a b c x y z u kb kc (na + 1) nb nc (xa ++ news) xb xc :=
  ⟨Nat.le_trans h.sz hg.size, ho, kept_ne h.hS h.hK nKS.symm hg, kept_ne h.hH h.hK nKH.symm hg, blk_neG h.hK h.blk nKm hg, blk_neG h.hK h.msg_ nKk hg, vol_grow h.vol hg (fun g e => .inr (.inl e)) h.oa, ow_grow h.sz h.oa hn, h.ob, h.oc⟩
theorem PuS.appS (h : PuS w9 W B m gk msg a b c x y z ka kb kc na nb nc xa xb xc) (ho : W'.ownsRow B 3 1 u (nb + 1) (xb ++ news)) (hg : W.grownBy W' kb.ownBlock) (hn : u.ownBlock = kb.ownBlock ∨ u.ownBlock = some W.heap.size) :
    PuS w9 W' B m gk msg a b c x y z ka u kc na (nb + 1) nc xa (xb ++ news) xc :=
  ⟨Nat.le_trans h.sz hg.size, kept_ne h.hK h.hS nKS hg, ho, kept_ne h.hH h.hS nSH.symm hg, blk_neG h.hS h.blk nSm hg, blk_neG h.hS h.msg_ nSk hg, vol_grow h.vol hg (fun g e => .inr (.inr (.inl e))) h.ob, h.oa, ow_grow h.sz h.ob hn, h.oc⟩
theorem PuS.appH (h : PuS w9 W B m gk msg a b c x y z ka kb kc na nb nc xa xb xc) (ho : W'.ownsRow B 22 1 u (nc + 1) (xc ++ news)) (hg : W.grownBy W' kc.ownBlock) (hn : u.ownBlock = kc.ownBlock ∨ u.ownBlock = some W.heap.size) :
    PuS w9 W' B m gk msg a b c x y z ka kb u na nb (nc + 1) xa xb (xc ++ news) :=
  ⟨Nat.le_trans h.sz hg.size, kept_ne h.hK h.hH nKH hg, kept_ne h.hS h.hH nSH hg, ho, blk_neG h.hH h.blk nHm hg, blk_neG h.hH h.msg_ nHk hg, vol_grow h.vol hg (fun g e => .inr (.inr (.inr e))) h.oc, h.oa, h.ob, ow_grow h.sz h.oc hn⟩
theorem far_own {e : TypeId} {zz n : Nat} {v : Value} {xs : List Value} (h : W.ownsRow B e zz v n xs) (hb : Blk W m ty cs) (hne : e ≠ ty) (i : Nat) (u : Value) : (W.setCell ⟨m, i, none⟩ u).ownsRow B e zz v n xs :=
  own_vol h (Vol.setCell (V := fun g => g = m) (a := ⟨m, i, none⟩) (Vol.refl W) (.inl rfl) u) (fun g hg e2 => own_blk_ne2 h hb hne hg e2)
theorem PuS.set (h : PuS w9 W B m gk msg a b c x y z ka kb kc na nb nc xa xb xc) (i : Nat) {x' y' z' : Value} (hc : (#[x, y, z] : Array Value).setIfInBounds i u = #[x', y', z']) :
    PuS w9 (W.setCell ⟨m, i, none⟩ u) B m gk msg a b c x' y' z' ka kb kc na nb nc xa xb xc :=
  ⟨Nat.le_trans h.sz (by simp [World.setCell]), far_own h.hK h.blk nKm i u, far_own h.hS h.blk nSm i u, far_own h.hH h.blk nHm i u, by have := h.blk.set_ i u; rw [hc] at this; exact this, h.msg_.far (p := ⟨m, i, none⟩) (fun e => (h.msg_.ne_ h.blk nmk.symm) e) u, h.vol.setCell (.inl (.inl rfl)) u, h.oa, h.ob, h.oc⟩
abbrev puS0 (gk : Nat) (f t : ByteArray) (w : World) : Prop := w.cell? ⟨gk, 1, none⟩ = some (.string f) ∧ w.cell? ⟨gk, 3, none⟩ = some (.string t)
abbrev puW (m : Nat) (a b c : Value) : List (Nat × (World → Prop)) := [(28, fun w => w.cell? ⟨m, 0, none⟩ = some a), (31, fun w => w.cell? ⟨m, 1, none⟩ = some b), (34, fun w => w.cell? ⟨m, 2, none⟩ = some c)]
theorem PuS.held {f t' : ByteArray} (h : PuS w9 W B m gk msg a b c x y z ka kb kc na nb nc xa xb xc) {l : Array Bool} (h1 : W.cell? ⟨gk, 1, none⟩ = some (.string f)) (h3 : W.cell? ⟨gk, 3, none⟩ = some (.string t'))
    (h28 : l.getD 28 true = true ∨ x = a) (h31 : l.getD 31 true = true ∨ y = b) (h34 : l.getD 34 true = true ∨ z = c) : heldL (puS0 gk f t') (puW m a b c) l W := by
  refine ⟨⟨h1, h3⟩, fun p hp hl => ?_⟩
  simp only [puW, List.mem_cons, List.not_mem_nil, or_false] at hp
  rcases hp with rfl | rfl | rfl
  · rcases h28 with e | rfl
    · rw [e] at hl; cases hl
    · exact h.blk.cell 0
  · rcases h31 with e | rfl
    · rw [e] at hl; cases hl
    · exact h.blk.cell 1
  · rcases h34 with e | rfl
    · rw [e] at hl; cases hl
    · exact h.blk.cell 2
theorem PuS.fin {w : World} {V : Nat → Prop} {L : List Rk} {N : Nat} {f t' : ByteArray} (h : PuS w9 W B m gk msg a b c x y z x y z (N + 1) (N + 1) (N + 1) (rkV L ++ [.string f, .string t']) (rsV L ++ [.int .i64 0]) (rhV L ++ [.slice none 0 0]))
    (hM : RmP w9 B m V a b c L) (hl : L.length < 100) (hN : N = L.length) (hv : Vol V w w9) : RMid w B m V (L ++ [⟨f, t', 0, .slice none 0 0, []⟩]) W := by
  subst hN
  have e1 : rkV (L ++ [rkN f t']) = rkV L ++ [.string f, .string t'] := by simp [rkV, rkN]
  have e2 : rsV (L ++ [rkN f t']) = rsV L ++ [.int .i64 0] := by simp [rsV, rkN]
  have e3 : rhV (L ++ [rkN f t']) = rhV L ++ [.slice none 0 0] := by simp [rhV, rkN]
  have hT := hM.push (f := f) (t := t') hl h.vol h.blk (by rw [e1]; exact h.hK) (by rw [e2]; exact h.hS) (by rw [e3]; exact h.hH) h.oa h.ob h.oc
  have hs := hv.size
  refine ⟨_, x, y, z, hT, fun g hg => .inl hg, fun g hg => hg.imp id (fun e => Nat.le_trans hs e.1), hv.trans h.vol ?_⟩
  rintro g (rfl | e | e | e)
  · exact .inl hM.vm
  · exact .inl (hM.va g e)
  · exact .inl (hM.vb g e)
  · exact .inl (hM.vc g e)
theorem key_infoM : (Try.prog.info? 46).map (fun i => (i.zero, i.size, i.bytes)) = some (some (.agg #[.string ⟨#[]⟩, .string ⟨#[]⟩]), 2, 32) := by kernel_rfl
theorem row_infoM : (Try.prog.info? 22).map (fun i => (i.zero, i.size, i.bytes)) = some (some (.slice none 0 0), 1, 24) := by kernel_rfl
end
end Go.Proofs.Ytiflhfhonhbcpaa.Mas
