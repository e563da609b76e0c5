/- PlA PlB PlC PlD PlE PlF PlG PlH PlI PlJ PlK PlL PlM: merged texts. -/
import Derived.Test.YtplmfmcogbdpjaaDk9
import Derived.Test.YtplmfmcogbdpjaaRowZ
import Derived.Test.YtplmfmcogbdpjaaDk7
import Derived.Test.YtplmfmcogbdpjaaSameByte
import Derived.StillTailTactics
namespace Go.Proofs.Ytplmfmcogbdpjaa.Dk
open Go Go.RowKit Go.Proofs.Ytplmfmcogbdpjaa Go.Proofs.Ytplmfmcogbdpjaa.Crw Go.Proofs.Ytplmfmcogbdpjaa.Vl Go.ChangeShapes Go.WideShapes Go.ChangeAt
set_option linter.unusedVariables false
set_option maxRecDepth 100000
/-- A file of the plain disk. -/
structure Pf where
  p : ByteArray
  A : Option Addr
  c : Nat
  bs : List Int
  sy : Int
  fi : Bool
/-- The plain disk's numbers. -/
structure Ps where
  q : Int
  de : Bool
  ar : Bool
  n : Int
abbrev Pf.v (x : Pf) : Value := .slice x.A x.bs.length x.c
abbrev pfC (x : Pf) : List Value := [.string x.p, x.v, .int .i64 x.sy, .bool x.fi]
abbrev pfV (G : List Pf) : List Value := (G.map pfC).flatten
abbrev psC (s : Ps) (v : Value) : Array Value := #[v, .int .i64 s.q, .bool s.de, .bool s.ar, .int .i64 s.n]
/-- Bytes that nobody writes any more. -/
def ByP (w : World) (Z : Nat → Prop) (x : Pf) : Prop :=
  x.bs.length ≤ x.c ∧ x.c ≤ maxLen ∧ (0 < x.bs.length → ∃ g cur, x.A = some ⟨g, 0, none⟩ ∧ Z g ∧ w.heap[g]? = some (.cells cur 5 (0, 0)) ∧ cur.toList.take x.bs.length = bsV x.bs)
structure RfP (w : World) (B r : Nat) (Z : Nat → Prop) (v : Value) (s : Ps) (G : List Pf) : Prop where
  blk : Blk w r 97 (psC s v)
  row : w.ownsRow B 99 4 v G.length (pfV G)
  byt : ∀ (k : Nat) (x : Pf), G[k]? = some x → ByP w Z x
  zr : Z r ∧ ∀ b, v.ownBlock = some b → Z b
  lt : ∀ b, Z b → b < w.heap.size
  ge : ∀ b, Z b → B ≤ b
theorem pfV_len (G : List Pf) : (pfV G).length = G.length * 4 := by
  induction G with
  | nil => rfl
  | cons x G ih => simp only [pfV, List.map_cons, List.flatten_cons, List.length_append, List.length_cons] at ih ⊢; rw [ih]; simp; omega
theorem pfV_get {G : List Pf} {k j : Nat} {x : Pf} (h : G[k]? = some x) (hj : j < 4) : (pfV G)[k * 4 + j]? = (pfC x)[j]? := by
  induction G generalizing k with
  | nil => simp at h
  | cons y G ih =>
    simp only [pfV, List.map_cons, List.flatten_cons]
    cases k with
    | zero =>
      simp at h
      subst h
      rw [Nat.zero_mul, Nat.zero_add, List.getElem?_append_left (by simp; omega)]
    | succ k =>
      rw [List.getElem?_append_right (by simp; omega)]
      have e : (k + 1) * 4 + j - (pfC y).length = k * 4 + j := by simp; omega
      rw [e]
      exact ih (by simpa using h)
section
variable {w w' : World} {B r : Nat} {U Z : Nat → Prop} {v : Value} {s : Ps} {G : List Pf} {p : ByteArray} {x : Pf}
theorem ByP.keep (h : ByP w Z x) (hk : ∀ g cur, Z g → w.heap[g]? = some (.cells cur 5 (0, 0)) → w'.heap[g]? = w.heap[g]?) : ByP w' Z x :=
  ⟨h.1, h.2.1, fun hp => by obtain ⟨g, cur, h1, h2, h3, h4⟩ := h.2.2 hp; exact ⟨g, cur, h1, h2, (hk g cur h2 h3).trans h3, h4⟩⟩
theorem ByP.reads (h : ByP w Z x) : Reads w w.heap.size 1 x.A x.bs.length (bsV x.bs) := by
  refine ⟨by simp [bsV], fun hp => ?_⟩
  obtain ⟨g, cur, h1, -, h3, h4⟩ := h.2.2 hp
  refine ⟨_, h1, (Array.getElem?_eq_some_iff.1 h3).1, fun j u hj => ?_⟩
  have e6 : ((⟨g, 0, none⟩ : Addr).add j) = ⟨g, j, none⟩ := by unfold Addr.add; split <;> simp_all
  have hB : Blk w g 5 cur := h3
  rw [e6, hB.cell j]
  rw [← h4, List.getElem?_take] at hj
  split at hj
  · rw [← Array.getElem?_toList]
    exact hj
  · cases hj
theorem RfP.below (h : RfP w B r Z v s G) (hb : Below w.heap.size w w') : RfP w' B r Z v s G :=
  ⟨h.blk.below hb h.blk.lt, own_keep h.row hb, fun k x hx => (h.byt k x hx).keep fun g cur _ hc => hb.block g (Array.getElem?_eq_some_iff.1 hc).1, h.zr, fun b hv => Nat.lt_of_lt_of_le (h.lt b hv) hb.size, h.ge⟩
theorem RfP.vol (h : RfP w B r Z v s G) (hv : Vol U w w') (hd : ∀ b, Z b → ¬ U b) : RfP w' B r Z v s G :=
  ⟨blk_vol h.blk hv (hd _ h.zr.1), own_vol h.row hv (fun b hb => hd b (h.zr.2 b hb)), fun k x hx => (h.byt k x hx).keep fun g cur hz hc => hv.block g (Array.getElem?_eq_some_iff.1 hc).1 (hd g hz), h.zr, fun b hb => Nat.lt_of_lt_of_le (h.lt b hb) hv.size, h.ge⟩
/-- The files' row. -/
theorem RfP.shape (h : RfP w B r Z v s G) : ∃ A c, v = .slice A G.length c ∧ G.length ≤ c ∧ c ≤ maxLen := own_slice h.row
theorem RfP.cells {A : Option Addr} {n c : Nat} (h : RfP w B r Z (.slice A n c) s G) {k : Nat} {x : Pf} (hk : G[k]? = some x) : ∃ g, A = some ⟨g, 0, none⟩ ∧ Z g ∧ w.cell? ⟨g, k * 4, none⟩ = some (.string x.p) ∧ w.cell? ⟨g, k * 4 + 1, none⟩ = some x.v ∧ w.cell? ⟨g, k * 4 + 2, none⟩ = some (.int .i64 x.sy) ∧ w.cell? ⟨g, k * 4 + 3, none⟩ = some (.bool x.fi) := by
  have hkl : k < G.length := (List.getElem?_eq_some_iff.1 hk).1
  have hrow := h.row
  obtain ⟨A', c', e, -, -⟩ := own_slice hrow
  injection e with e1 e2 e3
  subst e1 e2 e3
  obtain ⟨g, rfl⟩ := own_some hrow (by omega)
  have hc : ∀ j, j < 4 → w.cell? ⟨g, k * 4 + j, none⟩ = (pfC x)[j]? := fun j hj => by
    rw [hrow.cellAt (k * 4 + j) (by omega), pfV_get hk hj]
  exact ⟨g, rfl, h.zr.2 g rfl, hc 0 (by omega), hc 1 (by omega), hc 2 (by omega), hc 3 (by omega)⟩
/-- Where a path is. -/
def isAt (p : ByteArray) (x : Pf) : Bool := decide (x.p.data.toList = p.data.toList)
set_option maxHeartbeats 4000000 in
theorem At_yes (h : RfP w B r Z v s G) {j : Nat} {x : Pf} (hj : G[j]? = some x) (hx : x.p = p) (hno : ∀ (i : Nat) (y : Pf), i < j → G[i]? = some y → (y.p.toList == p.toList) = false) (hG : G.length ≤ 1000) :
    Calls Try.prog 74 #[.pointer (some ⟨r, 0, none⟩), .string p] w fun e w' => e = .returned (.int .i64 j) ∧ Below w.heap.size w w' := by
  obtain ⟨A, c, rfl, -, -⟩ := h.shape
  have c0 : w.cell? ⟨r, 0, none⟩ = some (.slice A G.length c) := h.blk.cell 0
  have HR := Lib.hid h
  have HJ := Lib.hid hj
  have HNo := Lib.hid hno
  have hjl : j < G.length := (List.getElem?_eq_some_iff.1 hj).1
  obtain ⟨n, hn⟩ : ∃ n, n = G.length := ⟨_, rfl⟩
  rw [← hn] at c0 HR hjl hG
  have HN := Lib.hid hn
  clear h hj hno hn
  go_enter Try.func74, Try.ntmps74
  go_wp2_with fail
  go_loopw [11] (fun vi wr => ∃ i : Nat, i ≤ j ∧ vi = .int .i64 i ∧ wr = w) (fun vi _ => n - (intOf vi).toNat)
  case atStart => exact ⟨0, Nat.zero_le _, rfl, rfl⟩
  case round =>
    obtain ⟨i, hi, rfl, rfl⟩ := hrel
    have hin : (i : Int) < (n : Int) := by omega
    by_cases hij : i = j
    · subst hij
      obtain ⟨g, rfl, -, k0, -⟩ := HR.out.cells HJ.out
      rw [hx] at k0
      have e2 : (p.toList == p.toList) = true := by simp
      go_wp2_with fail
      go_ret
      exact ⟨rfl, Below.refl _ _⟩
    · obtain ⟨y, hy⟩ : ∃ y, G[i]? = some y := ⟨_, List.getElem?_eq_getElem (by have := HN.out; omega)⟩
      obtain ⟨g, rfl, -, k0, -⟩ := HR.out.cells hy
      have e2 := HNo.out i y (by omega) hy
      clear hy
      go_wp2_with fail
      go_roundw
      case rel => exact ⟨i + 1, by omega, by go_num, trivial⟩
      case measure => simp [intOf]; omega
set_option maxHeartbeats 4000000 in
theorem At_no (h : RfP w B r Z v s G) (hno : ∀ (i : Nat) (y : Pf), G[i]? = some y → (y.p.toList == p.toList) = false) (hG : G.length ≤ 1000) :
    Calls Try.prog 74 #[.pointer (some ⟨r, 0, none⟩), .string p] w fun e w' => e = .returned (.int .i64 (-1)) ∧ Below w.heap.size w w' := by
  obtain ⟨A, c, rfl, -, -⟩ := h.shape
  have c0 : w.cell? ⟨r, 0, none⟩ = some (.slice A G.length c) := h.blk.cell 0
  have HR := Lib.hid h
  have HNo := Lib.hid hno
  obtain ⟨n, hn⟩ : ∃ n, n = G.length := ⟨_, rfl⟩
  rw [← hn] at c0 HR hG
  have HN := Lib.hid hn
  clear h hno hn
  go_enter Try.func74, Try.ntmps74
  go_wp2_with fail
  go_loopw [11] (fun vi wr => ∃ i : Nat, i ≤ n ∧ vi = .int .i64 i ∧ wr = w) (fun vi _ => n - (intOf vi).toNat)
  case atStart => exact ⟨0, Nat.zero_le _, rfl, rfl⟩
  case round =>
    obtain ⟨i, hi, rfl, rfl⟩ := hrel
    by_cases hin0 : i < n
    · have hin : (i : Int) < (n : Int) := by omega
      obtain ⟨y, hy⟩ : ∃ y, G[i]? = some y := ⟨_, List.getElem?_eq_getElem (by have := HN.out; omega)⟩
      obtain ⟨g, rfl, -, k0, -⟩ := HR.out.cells hy
      have e2 := HNo.out i y hy
      clear hy
      go_wp2_with fail
      go_roundw
      case rel => exact ⟨i + 1, by omega, by go_num, trivial⟩
      case measure => simp [intOf]; omega
    · have hin : ¬ (i : Int) < (n : Int) := by omega
      go_wp2_with fail
      go_ret
      exact ⟨rfl, Below.refl _ _⟩
end
end Go.Proofs.Ytplmfmcogbdpjaa.Dk
namespace Go.Proofs.Ytplmfmcogbdpjaa.Dk
open Go Go.RowKit Go.Proofs.Ytplmfmcogbdpjaa Go.Proofs.Ytplmfmcogbdpjaa.Crw Go.Proofs.Ytplmfmcogbdpjaa.Vl Go.ChangeShapes Go.WideShapes Go.ChangeAt
set_option linter.unusedVariables false
set_option maxRecDepth 100000
def totP (G : List Pf) : Nat := (G.map fun x => x.bs.length).sum
theorem totP_snoc (G : List Pf) (x : Pf) : totP (G ++ [x]) = totP G + x.bs.length := by simp [totP]
theorem totP_take_succ {G : List Pf} {k : Nat} {x : Pf} (h : G[k]? = some x) : totP (G.take (k + 1)) = totP (G.take k) + x.bs.length := by
  rw [List.take_add_one, h]
  simp [totP]
theorem totP_take_le (G : List Pf) (k : Nat) : totP (G.take k) ≤ totP G := by
  conv => rhs; rw [← List.take_append_drop k G]
  simp only [totP, List.map_append, List.sum_append]
  omega
section
variable {w w' : World} {B r : Nat} {U Z : Nat → Prop} {v : Value} {s : Ps} {G : List Pf} {p : ByteArray} {x : Pf}
set_option maxHeartbeats 4000000 in
theorem Used_p (h : RfP w B r Z v s G) (hG : G.length ≤ 1000) (hT : totP G ≤ 1000000) :
    Calls Try.prog 72 #[.pointer (some ⟨r, 0, none⟩)] w fun e w' => e = .returned (.int .i64 (totP G : Nat)) ∧ Below w.heap.size w w' := by
  obtain ⟨A, c, rfl, -, -⟩ := h.shape
  have c0 : w.cell? ⟨r, 0, none⟩ = some (.slice A G.length c) := h.blk.cell 0
  have HR := Lib.hid h
  obtain ⟨n, hn⟩ : ∃ n, n = G.length := ⟨_, rfl⟩
  rw [← hn] at c0 HR hG
  have HN := Lib.hid hn
  clear h hn
  go_enter Try.func72, Try.ntmps72
  go_wp2_with fail
  go_loopw [3, 11] (fun vt vi wr => Hid (∃ i : Nat, i ≤ n ∧ vi = .int .i64 i ∧ vt = .int .i64 (totP (G.take i) : Nat) ∧ Below w.heap.size w wr ∧ ∃ w7, w7 = wr)) (fun _ vi _ => n - (intOf vi).toNat)
  case atStart => exact Lib.hid ⟨0, Nat.zero_le _, rfl, rfl, Below.refl _ _, _, rfl⟩
  case round =>
    obtain ⟨i, hi, rfl, rfl, hbel, wr, hwr⟩ := hrel.out
    subst hwr
    have HB := Lib.hid hbel
    clear hrel hbel
    obtain ⟨t, ht⟩ : ∃ t, t = totP (G.take i) := ⟨_, rfl⟩
    have htb : t ≤ 1000000 := by have := totP_take_le G i; omega
    have HT := Lib.hid ht
    rw [← ht]
    clear ht
    by_cases hin0 : i < n
    · have hin : (i : Int) < (n : Int) := by omega
      obtain ⟨y, hy⟩ : ∃ y, G[i]? = some y := ⟨_, List.getElem?_eq_getElem (by have := HN.out; omega)⟩
      obtain ⟨g, rfl, -, k0, k1, k2, k3⟩ := (HR.out.below HB.out).cells hy
      have hyt : Hid (totP (G.take (i + 1)) = t + y.bs.length) := Lib.hid (by rw [totP_take_succ hy, HT.out])
      have hyb : y.bs.length ≤ 1000000 := by have := totP_take_le G (i + 1); have := hyt.out; omega
      clear hy
      go_wp2_with fail
      go_roundw
      case rel =>
        exact Lib.hid ⟨i + 1, by omega, by go_num, by rw [hyt.out]; go_num, HB.out.alloc HB.out.size _, _, rfl⟩
      case measure => simp [intOf]; omega
    · have hin : ¬ (i : Int) < (n : Int) := by omega
      have htn : Hid (t = totP G) := Lib.hid (by rw [HT.out, List.take_of_length_le (by have := HN.out; omega)])
      go_wp2_with fail
      go_ret
      exact ⟨by first | rfl | (rw [htn.out]; rfl), HB.out⟩
/-- What stopping makes of the numbers; whether it stops. -/
def stopS (s s2 : Ps) (b : Bool) : Prop := (s.ar = true ∧ s.n = 0 ∧ s2 = { s with de := true } ∧ b = true) ∨ ((s.ar = false ∨ s.n ≠ 0) ∧ s2 = { s with n := s.n - 1 } ∧ b = false)
set_option maxHeartbeats 4000000 in
theorem Stops_p (h : RfP w B r Z v s G) {s2 : Ps} {b : Bool} (hs : stopS s s2 b) (hn : -1000000 ≤ s.n ∧ s.n ≤ 1000000) :
    Calls Try.prog 73 #[.pointer (some ⟨r, 0, none⟩)] w fun e w' => e = .returned (.bool b) ∧ RfP w' B r Z v s2 G ∧ Vol Z w w' := by
  obtain ⟨sq, sd, sa, sn⟩ := s
  have c2 : w.cell? ⟨r, 2, none⟩ = some (.bool sd) := h.blk.cell 2
  have c3 : w.cell? ⟨r, 3, none⟩ = some (.bool sa) := h.blk.cell 3
  have c4 : w.cell? ⟨r, 4, none⟩ = some (.int .i64 sn) := h.blk.cell 4
  have f2 : w.frozen? ⟨r, 2, none⟩ = false := h.blk.frozen 2
  have f4 : w.frozen? ⟨r, 4, none⟩ = false := h.blk.frozen 4
  have HR := Lib.hid h
  have hset : ∀ (i : Nat) (u : Value) (s2 : Ps), Hid ((psC ⟨sq, sd, sa, sn⟩ v).setIfInBounds i u = psC s2 v → RfP (w.setCell ⟨r, i, none⟩ u) B r Z v s2 G ∧ Vol Z w (w.setCell ⟨r, i, none⟩ u)) := fun i u s2 => Lib.hid (fun e => by
    have hv : Vol (fun b => b = r) w (w.setCell ⟨r, i, none⟩ u) := Vol.setCell (V := fun b => b = r) (a := ⟨r, i, none⟩) (Vol.refl w) (.inl rfl) _
    have h := HR.out
    refine ⟨⟨by have := h.blk.set_ i u; rw [e] at this; exact this, own_vol h.row hv (fun b hb e => own_blk_ne h.row h.blk (by decide) (by rw [hb, e])), fun k x hx => (h.byt k x hx).keep fun g cur hz hc => hv.block g (Array.getElem?_eq_some_iff.1 hc).1 (fun e => ?_), h.zr, fun b hb => Nat.lt_of_lt_of_le (h.lt b hb) hv.size, h.ge⟩, hv.mono (fun b e => by rw [e]; exact h.zr.1)⟩
    rw [e] at hc
    have h1 := h.blk
    unfold Blk at h1
    rw [h1] at hc
    injection hc with hc
    injection hc with _ hc
    exact absurd hc (by decide))
  clear h
  rcases hs with ⟨h1, h2, rfl, rfl⟩ | ⟨h1, rfl, rfl⟩
  · simp only at h1 h2
    subst h1
    subst h2
    clear hn
    go_enter Try.func73, Try.ntmps73
    go_wp2_with fail
    go_ret
    exact ⟨rfl, (hset 2 (.bool true) _).out rfl⟩
  · simp only at h1 hn
    cases sa with
    | false =>
      clear h1
      go_enter Try.func73, Try.ntmps73
      go_wp2_with fail
      go_ret
      exact ⟨rfl, (hset 4 (.int .i64 (sn - 1)) _).out rfl⟩
    | true =>
      have hne : sn ≠ 0 := h1.elim (fun e => by cases e) id
      have hz : (sn == 0) = false := by simpa using hne
      clear h1
      go_enter Try.func73, Try.ntmps73
      go_wp2_with fail
      go_ret
      exact ⟨rfl, (hset 4 (.int .i64 (sn - 1)) _).out rfl⟩
end
end Go.Proofs.Ytplmfmcogbdpjaa.Dk
namespace Go.Proofs.Ytplmfmcogbdpjaa.Dk
open Go Go.RowKit Go.Proofs.Ytplmfmcogbdpjaa Go.Proofs.Ytplmfmcogbdpjaa.Crw Go.Proofs.Ytplmfmcogbdpjaa.Vl Go.ChangeShapes Go.WideShapes Go.ChangeAt
set_option linter.unusedVariables false
set_option maxRecDepth 100000
section
variable {w w' : World} {B r : Nat} {U Z : Nat → Prop} {v : Value} {s : Ps} {G : List Pf} {p : ByteArray} {x : Pf}
set_option maxHeartbeats 4000000 in
theorem Begin_dead {A : Option Addr} {n c : Nat} (h : RfP w B r Z v s G) (hd : s.de = true) :
    Calls Try.prog 76 #[.pointer (some ⟨r, 0, none⟩), .slice A n c] w fun e w' => e = .returned (.int .i64 7) ∧ Below w.heap.size w w' := by
  have c2 : w.cell? ⟨r, 2, none⟩ = some (.bool s.de) := h.blk.cell 2
  rw [hd] at c2
  clear h hd
  go_enter Try.func76, Try.ntmps76
  go_wp2_with fail
  go_ret
  exact ⟨rfl, Below.refl _ _⟩
set_option maxHeartbeats 4000000 in
theorem Begin_arg {g c : Nat} (h : RfP w B r Z v s G) (hd : s.de = false) (hg : Blk w g 9 #[.string p]) (hp : p.toList.isEmpty = true) :
    Calls Try.prog 76 #[.pointer (some ⟨r, 0, none⟩), .slice (some ⟨g, 0, none⟩) 1 c] w fun e w' => e = .returned (.int .i64 1) ∧ Below w.heap.size w w' := by
  have c2 : w.cell? ⟨r, 2, none⟩ = some (.bool s.de) := h.blk.cell 2
  have k0 : w.cell? ⟨g, 0, none⟩ = some (.string p) := hg.cell 0
  rw [hd] at c2
  clear h hd hg
  go_enter Try.func76, Try.ntmps76
  go_wp2_with fail
  go_loopw [13] (fun vi wr => vi = .int .i64 0 ∧ wr = w) (fun _ _ => 0)
  case atStart => exact ⟨rfl, rfl⟩
  case round =>
    obtain ⟨rfl, rfl⟩ := hrel
    go_wp2_with fail
    go_ret
    exact ⟨rfl, Below.refl _ _⟩
set_option maxHeartbeats 4000000 in
theorem Begin_none {g c : Nat} (h : RfP w B r Z v s G) (hd : s.de = false) (hg : Blk w g 9 #[.string p]) (hp : p.toList.isEmpty = false) (hno : ∀ (i : Nat) (y : Pf), G[i]? = some y → (y.p.toList == p.toList) = false) (hG : G.length ≤ 1000) :
    Calls Try.prog 76 #[.pointer (some ⟨r, 0, none⟩), .slice (some ⟨g, 0, none⟩) 1 c] w fun e w' => e = .returned (.int .i64 3) ∧ Below w.heap.size w w' := by
  have c2 : w.cell? ⟨r, 2, none⟩ = some (.bool s.de) := h.blk.cell 2
  have k0 : w.cell? ⟨g, 0, none⟩ = some (.string p) := hg.cell 0
  have HA := Lib.hid (At_no h hno hG)
  rw [hd] at c2
  clear h hd hg
  go_enter Try.func76, Try.ntmps76
  go_wp2_with fail
  go_loopw [13] (fun vi wr => (vi = .int .i64 0 ∨ vi = .int .i64 1) ∧ wr = w) (fun vi _ => 1 - (intOf vi).toNat)
  case atStart => exact ⟨.inl rfl, rfl⟩
  case round =>
    obtain ⟨rfl | rfl, rfl⟩ := hrel
    · go_wp2_with fail
      go_roundw
      case rel => exact ⟨.inr (by go_num), trivial⟩
      case measure => simp [intOf]
    · go_wp2_with fail
      refine HA.out.mono ?_
      rintro e w1 ⟨rfl, hb⟩
      go_wp2_with fail
      go_ret
      exact ⟨rfl, hb⟩
set_option maxHeartbeats 4000000 in
theorem Begin_ok {g c : Nat} (h : RfP w B r Z v s G) (hd : s.de = false) (hg : Blk w g 9 #[.string p]) (hp : p.toList.isEmpty = false) {j : Nat} {x : Pf} (hj : G[j]? = some x) (hx : x.p = p) (hno : ∀ (i : Nat) (y : Pf), i < j → G[i]? = some y → (y.p.toList == p.toList) = false) (hG : G.length ≤ 1000) :
    Calls Try.prog 76 #[.pointer (some ⟨r, 0, none⟩), .slice (some ⟨g, 0, none⟩) 1 c] w fun e w' => e = .returned (.int .i64 0) ∧ Below w.heap.size w w' := by
  have c2 : w.cell? ⟨r, 2, none⟩ = some (.bool s.de) := h.blk.cell 2
  have k0 : w.cell? ⟨g, 0, none⟩ = some (.string p) := hg.cell 0
  have HA := Lib.hid (At_yes h hj hx hno hG)
  rw [hd] at c2
  clear h hd hg
  go_enter Try.func76, Try.ntmps76
  go_wp2_with fail
  go_loopw [13] (fun vi wr => (vi = .int .i64 0 ∨ vi = .int .i64 1) ∧ wr = w) (fun vi _ => 1 - (intOf vi).toNat)
  case atStart => exact ⟨.inl rfl, rfl⟩
  case round =>
    obtain ⟨rfl | rfl, rfl⟩ := hrel
    · go_wp2_with fail
      go_roundw
      case rel => exact ⟨.inr (by go_num), trivial⟩
      case measure => simp [intOf]
    · go_wp2_with fail
      refine HA.out.mono ?_
      rintro e w1 ⟨rfl, hb⟩
      go_wp2_with fail
      go_ret
      exact ⟨rfl, hb⟩
end
end Go.Proofs.Ytplmfmcogbdpjaa.Dk
namespace Go.Proofs.Ytplmfmcogbdpjaa.Dk
open Go Go.RowKit Go.Proofs.Ytplmfmcogbdpjaa Go.Proofs.Ytplmfmcogbdpjaa.Crw Go.Proofs.Ytplmfmcogbdpjaa.Vl Go.ChangeShapes Go.WideShapes Go.ChangeAt
set_option linter.unusedVariables false
set_option maxRecDepth 100000
abbrev fiZ : Value := .agg #[.string ⟨#[]⟩, .slice none 0 0, .int .i64 0, .bool false]
theorem file_infoP : (Try.prog.info? 99).map (fun i => (i.zero, i.size, i.bytes)) = some (some fiZ, 4, 56) := by kernel_rfl
theorem pfC_one (x : Pf) : ∀ u ∈ pfC x, u.oneCell' = true := by
  intro u hu
  simp at hu
  rcases hu with rfl | rfl | rfl | rfl <;> rfl
theorem pfV_snoc (L : List Pf) (x : Pf) : pfV L ++ pfC x = pfV (L ++ [x]) := by simp [pfV]
def eqF (f x : Pf) : Bool := x.p.toList == f.p.toList
def gtF (f x : Pf) : Bool := !Op.bytesLess x.p.toList f.p.toList
/-- The files with one put in its place. -/
def putF (f : Pf) : List Pf → Bool → List Pf
  | [], done => if done then [] else [f]
  | x :: G, done => if eqF f x = true then putF f G done else if done = false ∧ gtF f x = true then f :: x :: putF f G true else x :: putF f G done
theorem putF_mem {f y : Pf} : ∀ {G : List Pf} {done : Bool}, y ∈ putF f G done → y ∈ G ∨ y = f
  | [], done, h => by
    unfold putF at h
    split at h
    · simp at h
    · simp at h; exact .inr h
  | x :: G, done, h => by
    unfold putF at h
    split at h
    · rcases putF_mem h with h | h
      · exact .inl (by simp [h])
      · exact .inr h
    · split at h
      · rcases List.mem_cons.1 h with h | h
        · exact .inr h
        · rcases List.mem_cons.1 h with h | h
          · exact .inl (by simp [h])
          · rcases putF_mem h with h | h
            · exact .inl (by simp [h])
            · exact .inr h
      · rcases List.mem_cons.1 h with h | h
        · exact .inl (by simp [h])
        · rcases putF_mem h with h | h
          · exact .inl (by simp [h])
          · exact .inr h
section
variable {w w' : World} {B r : Nat} {U Z Zf : Nat → Prop} {v : Value} {s : Ps} {G : List Pf} {p : ByteArray} {x f : Pf}
def PutI (w : World) (G : List Pf) (f : Pf) (n i : Nat) (vo vd vi : Value) (wr : World) : Prop :=
  ∃ (L : List Pf) (done : Bool), i ≤ n ∧ vi = .int .i64 i ∧ vd = .bool done ∧ wr.ownsRow w.heap.size 99 4 vo L.length (pfV L) ∧ L.length ≤ i + (if done = true then 1 else 0) ∧ L ++ putF f (G.drop i) done = putF f G false ∧ Below w.heap.size w wr ∧ ∃ w7, w7 = wr
set_option maxHeartbeats 8000000 in
theorem Put_p (h : RfP w B r Z v s G) (hG : G.length ≤ 1000) (hf : ByP w (fun b => Z b ∨ Zf b) f) (hZf : ∀ b, Zf b → b < w.heap.size ∧ B ≤ b) (hB : B ≤ w.heap.size) :
    Calls Try.prog 75 #[.pointer (some ⟨r, 0, none⟩), .agg #[.string f.p, f.v, .int .i64 f.sy, .bool f.fi]] w fun e w' => (∃ u, e = .returned u) ∧ ∃ Z' v', RfP w' B r Z' v' s (putF f G false) ∧ Vol Z w w' ∧ (∀ b, Z' b → Z b ∨ Zf b ∨ w.heap.size ≤ b) := by
  obtain ⟨i0, hinf, hz0, hz1, hz2⟩ := info_parts file_infoP
  obtain ⟨A, c, rfl, -, -⟩ := h.shape
  have c0 : w.cell? ⟨r, 0, none⟩ = some (.slice A G.length c) := h.blk.cell 0
  have HR := Lib.hid h
  obtain ⟨n, hn⟩ : ∃ n, n = G.length := ⟨_, rfl⟩
  rw [← hn] at c0 HR hG
  have HN := Lib.hid hn
  have hrl := h.blk.lt
  obtain ⟨fp, fA, fc, fb, fs, ff⟩ := f
  have HF := Lib.hid (And.intro hf hZf)
  clear h hn hf hZf
  go_enter Try.func75, Try.ntmps75
  go_upto_block 0 with fail
  obtain ⟨b, hb⟩ : ∃ b, b = w.heap.size := ⟨_, rfl⟩
  obtain ⟨w0, hw0⟩ : ∃ w0, w0 = w.alloc (.cells (pfC ⟨fp, fA, fc, fb, fs, ff⟩).toArray 99) := ⟨_, rfl⟩
  have hbx : Blk w0 b 99 (pfC ⟨fp, fA, fc, fb, fs, ff⟩).toArray := by rw [hw0, hb]; exact Blk.new _ _ _
  have hbel0 : Below w.heap.size w w0 := by rw [hw0]; exact (Below.refl _ _).alloc (Nat.le_refl _) _
  rw [← hb]
  have e0 : w.alloc (Obj.cells #[.string fp, .slice fA fb.length fc, .int .i64 fs, .bool ff] 99) = w0 := hw0.symm
  rw [e0]
  have HBX := Lib.hid hbx
  have HBel0 := Lib.hid hbel0
  have hbge : Hid (w.heap.size ≤ b) := Lib.hid (by rw [hb]; exact Nat.le_refl _)
  clear hw0 hb hbx hbel0 e0
  have HI0 := Lib.hid (show PutI w0 G ⟨fp, fA, fc, fb, fs, ff⟩ n 0 (.slice none 0 0) (.bool false) (.int .i64 0) w0 from ⟨[], false, Nat.zero_le _, rfl, rfl, ⟨by simp, .inl ⟨rfl, rfl⟩⟩, Nat.zero_le _, rfl, Below.refl _ _, _, rfl⟩)
  go_cut [4, 5] from 14 to 39 (fun vo vd wx => Hid (∃ (L : List Pf) (done : Bool), vd = .bool done ∧ wx.ownsRow w0.heap.size 99 4 vo L.length (pfV L) ∧ L.length ≤ n + 1 ∧ L ++ putF ⟨fp, fA, fc, fb, fs, ff⟩ [] done = putF ⟨fp, fA, fc, fb, fs, ff⟩ G false ∧ Below w0.heap.size w0 wx ∧ ∃ w7, w7 = wx))
  case first =>
    go_wp2_with fail
    go_loopw [4, 5, 13] (fun vo vd vi wr => Hid (∃ i, PutI w0 G ⟨fp, fA, fc, fb, fs, ff⟩ n i vo vd vi wr)) (fun _ _ vi _ => n - (intOf vi).toNat)
    case atStart => exact Lib.hid ⟨0, HI0.out⟩
    case round =>
      obtain ⟨i, L, done, hi, rfl, rfl, hown, hL, hput, hbel, wr, hwr⟩ := hrel.out
      subst hwr
      obtain ⟨Ao, co, rfl, -, -⟩ := own_slice hown
      have HO := Lib.hid hown
      have HP := Lib.hid hput
      have HBe := Lib.hid hbel
      have hL2 : L.length ≤ i + 1 := by split at hL <;> omega
      clear hrel hown hput hbel
      have hRr := (HR.out.below HBel0.out).below HBe.out
      have hbr := HBX.out.below HBe.out HBX.out.lt
      by_cases hin0 : i < n
      · have hin : (i : Int) < (n : Int) := by omega
        obtain ⟨x, hx⟩ : ∃ x, G[i]? = some x := ⟨_, List.getElem?_eq_getElem (by have := HN.out; omega)⟩
        obtain ⟨g, rfl, -, k0, k1, k2, k3⟩ := hRr.cells hx
        obtain ⟨xp, xA, xc, xb, xs, xf⟩ := x
        have hd : Hid (G.drop i = ⟨xp, xA, xc, xb, xs, xf⟩ :: G.drop (i + 1)) := Lib.hid (by
          rw [List.drop_eq_getElem_cons (by have := HN.out; omega)]
          rw [List.getElem?_eq_getElem (by have := HN.out; omega)] at hx
          injection hx with hx
          rw [hx])
        obtain ⟨wx, hwx⟩ : ∃ wx, wx = wr.alloc (.cells (pfC ⟨xp, xA, xc, xb, xs, xf⟩).toArray 99) := ⟨_, rfl⟩
        obtain ⟨bx, hbx⟩ : ∃ bx, bx = wr.heap.size := ⟨_, rfl⟩
        have hbxB : Blk wx bx 99 (pfC ⟨xp, xA, xc, xb, xs, xf⟩).toArray := by rw [hwx, hbx]; exact Blk.new _ _ _
        have hbw : Below wr.heap.size wr wx := by rw [hwx]; exact (Below.refl _ _).alloc (Nat.le_refl _) _
        have hbr2 := hbr.below hbw hbr.lt
        have e0 : wr.alloc (Obj.cells #[.string xp, .slice xA xb.length xc, .int .i64 xs, .bool xf] 99) = wx := hwx.symm
        have b0 : wx.cell? ⟨b, 0, none⟩ = some (.string fp) := hbr2.cell 0
        have b1 : wx.cell? ⟨b, 1, none⟩ = some (.slice fA fb.length fc) := hbr2.cell 1
        have b2 : wx.cell? ⟨b, 2, none⟩ = some (.int .i64 fs) := hbr2.cell 2
        have b3 : wx.cell? ⟨b, 3, none⟩ = some (.bool ff) := hbr2.cell 3
        have d0 : wx.cell? ⟨bx, 0, none⟩ = some (.string xp) := hbxB.cell 0
        have d1 : wx.cell? ⟨bx, 1, none⟩ = some (.slice xA xb.length xc) := hbxB.cell 1
        have d2 : wx.cell? ⟨bx, 2, none⟩ = some (.int .i64 xs) := hbxB.cell 2
        have d3 : wx.cell? ⟨bx, 3, none⟩ = some (.bool xf) := hbxB.cell 3
        have HBXC := Lib.hid hbxB
        have hbxl : Hid (∀ k, Value.ownBlock (.slice Ao L.length co) = some k → k ≠ bx) := Lib.hid (fun k hk => by have := (HO.out.lt k hk).2; omega)
        have HBW := Lib.hid hbw
        have HE0 := Lib.hid e0
        have HBXX := Lib.hid hbx
        clear hRr hbr hx hbxB hbw hbr2 hwx e0 hbx
        go_upto_region 6 with fail
        rw [HE0.out, ← HBXX.out]
        clear k0 k1 k2 k3
        cases he : eqF ⟨fp, fA, fc, fb, fs, ff⟩ ⟨xp, xA, xc, xb, xs, xf⟩ with
        | true =>
          have he2 : (xp.toList == fp.toList) = true := he
          have HE := Lib.hid he
          clear he
          go_wp2_with fail
          go_roundw
          case rel =>
            refine Lib.hid ⟨i + 1, L, done, by omega, by go_num, rfl, own_keep HO.out HBW.out, by (split at hL <;> omega), ?_, HBe.out.trans (HBW.out.mono HBe.out.size), _, rfl⟩
            rw [← HP.out, hd.out]
            conv => rhs; unfold putF
            rw [if_pos HE.out]
          case measure => simp [intOf]; omega
        | false =>
          have he2 : (xp.toList == fp.toList) = false := he
          have HE := Lib.hid he
          clear he
          cases done with
          | true =>
            have hlx := HBe.out.size
            have hlw := HBW.out.size
            go_wp2_with (at_builtin; refine wpList_append_any _ rfl _ _ 95 rfl w0.heap.size 99 i0 fiZ 4 56 Try.underlying95 hinf hz0 hz1 hz2 rfl (by decide) (.slice Ao L.length co) L.length (pfV L) rfl ((own_keep HO.out HBW.out).alloc _) (wx.alloc (.cells (pfC ⟨xp, xA, xc, xb, xs, xf⟩).toArray 99)).heap.size (some ⟨wx.heap.size, 0, none⟩) 1 1 (pfC ⟨xp, xA, xc, xb, xs, xf⟩) rfl (reads_blk (Blk.new wx _ _) rfl) (pfC_one _) (by simp only [maxLen]; omega) (by omega) (by have h1 := HBe.out.size; have h2 := HBW.out.size; simp; omega) ?_; intro v1 w1 hown hg _hne; clear _hne; have HO1 := Lib.hid hown; have HG1 := Lib.hid hg; clear hown hg)
            go_roundw
            case rel =>
              have hb1 : Below w0.heap.size w0 w1 := ((HBe.out.trans (HBW.out.mono hlx)).alloc (by omega) _).grown HG1.out (by simp; omega) (fun k hk => (HO.out.lt k hk).1)
              refine Lib.hid ⟨i + 1, L ++ [⟨xp, xA, xc, xb, xs, xf⟩], true, by omega, by go_num, rfl, by rw [List.length_append, ← pfV_snoc]; exact HO1.out, by rw [List.length_append]; simp at hL ⊢; omega, ?_, hb1, _, rfl⟩
              rw [← HP.out, hd.out]
              conv => rhs; unfold putF
              rw [if_neg (by rw [HE.out]; decide), if_neg (by simp)]
              simp
            case measure => simp [intOf]; omega
          | false =>
            cases hgt : gtF ⟨fp, fA, fc, fb, fs, ff⟩ ⟨xp, xA, xc, xb, xs, xf⟩ with
            | true =>
              have hgt2 : Op.bytesLess xp.toList fp.toList = false := by have h : (!Op.bytesLess xp.toList fp.toList) = true := hgt; simpa using h
              have HGT := Lib.hid hgt
              have hlx := HBe.out.size
              have hlw := HBW.out.size
              clear hgt
              go_wp2_with (first | (at_builtin; refine wpList_append_any _ rfl _ _ 95 rfl w0.heap.size 99 i0 fiZ 4 56 Try.underlying95 hinf hz0 hz1 hz2 rfl (by decide) (.slice A1 (L.length + 1) c1) (L.length + 1) (pfV L ++ pfC ⟨fp, fA, fc, fb, fs, ff⟩) rfl (HO1.out.alloc _) (w1.alloc (.cells (pfC ⟨xp, xA, xc, xb, xs, xf⟩).toArray 99)).heap.size (some ⟨w1.heap.size, 0, none⟩) 1 1 (pfC ⟨xp, xA, xc, xb, xs, xf⟩) rfl (reads_blk (Blk.new w1 _ _) rfl) (pfC_one _) (by simp only [maxLen]; omega) (by omega) (by have h1 := HBe.out.size; have h2 := HBW.out.size; have h3 := HG1.out.size; simp at h3 ⊢; omega) ?_; intro v2 w2 hown hg _hne; clear _hne; have HO2 := Lib.hid hown; have HG2 := Lib.hid hg; clear hown hg) | (at_builtin; refine wpList_append_any _ rfl _ _ 95 rfl w0.heap.size 99 i0 fiZ 4 56 Try.underlying95 hinf hz0 hz1 hz2 rfl (by decide) (.slice Ao L.length co) L.length (pfV L) rfl ((own_keep HO.out HBW.out).alloc _) (wx.alloc (.cells (pfC ⟨fp, fA, fc, fb, fs, ff⟩).toArray 99)).heap.size (some ⟨wx.heap.size, 0, none⟩) 1 1 (pfC ⟨fp, fA, fc, fb, fs, ff⟩) rfl (reads_blk (Blk.new wx _ _) rfl) (pfC_one _) (by simp only [maxLen]; omega) (by omega) (by have h1 := HBe.out.size; have h2 := HBW.out.size; simp; omega) ?_; intro v1 w1 hown hg _hne; clear _hne; have HO1 := Lib.hid hown; have HG1 := Lib.hid hg; obtain ⟨A1, c1, rfl, -, -⟩ := own_slice hown; have hbx1 := blk_vol HBXC.out (((Vol.refl wx).alloc _).grown (V := fun b => Value.ownBlock (.slice Ao L.length co) = some b) hg (fun b hb => .inl hb)) (fun e => hbxl.out bx e rfl); have m0 : w1.cell? ⟨bx, 0, none⟩ = some (.string xp) := hbx1.cell 0; have m1 : w1.cell? ⟨bx, 1, none⟩ = some (.slice xA xb.length xc) := hbx1.cell 1; have m2 : w1.cell? ⟨bx, 2, none⟩ = some (.int .i64 xs) := hbx1.cell 2; have m3 : w1.cell? ⟨bx, 3, none⟩ = some (.bool xf) := hbx1.cell 3; clear hbx1 hown hg))
              go_roundw
              case rel =>
                have hb1 : Below w0.heap.size w0 w1 := ((HBe.out.trans (HBW.out.mono hlx)).alloc (by omega) _).grown HG1.out (by simp; omega) (fun k hk => (HO.out.lt k hk).1)
                have hb2 : Below w0.heap.size w0 w2 := (hb1.alloc hb1.size _).grown HG2.out (by have := hb1.size; simp; omega) (fun k hk => (HO1.out.lt k hk).1)
                refine Lib.hid ⟨i + 1, L ++ [⟨fp, fA, fc, fb, fs, ff⟩] ++ [⟨xp, xA, xc, xb, xs, xf⟩], true, by omega, by go_num, rfl, ?_, ?_, ?_, hb2, _, rfl⟩
                · have h := HO2.out
                  rw [pfV_snoc, pfV_snoc] at h
                  simpa using h
                · rw [List.length_append, List.length_append]; simp at hL ⊢; omega
                · rw [← HP.out, hd.out]
                  conv => rhs; unfold putF
                  rw [if_neg (by rw [HE.out]; decide), if_pos ⟨rfl, HGT.out⟩]
                  simp
              case measure => simp [intOf]; omega
            | false =>
              have hgt2 : Op.bytesLess xp.toList fp.toList = true := by have h : (!Op.bytesLess xp.toList fp.toList) = false := hgt; simpa using h
              have HGT := Lib.hid hgt
              have hlx := HBe.out.size
              have hlw := HBW.out.size
              clear hgt
              go_wp2_with (at_builtin; refine wpList_append_any _ rfl _ _ 95 rfl w0.heap.size 99 i0 fiZ 4 56 Try.underlying95 hinf hz0 hz1 hz2 rfl (by decide) (.slice Ao L.length co) L.length (pfV L) rfl ((own_keep HO.out HBW.out).alloc _) (wx.alloc (.cells (pfC ⟨xp, xA, xc, xb, xs, xf⟩).toArray 99)).heap.size (some ⟨wx.heap.size, 0, none⟩) 1 1 (pfC ⟨xp, xA, xc, xb, xs, xf⟩) rfl (reads_blk (Blk.new wx _ _) rfl) (pfC_one _) (by simp only [maxLen]; omega) (by omega) (by have h1 := HBe.out.size; have h2 := HBW.out.size; simp; omega) ?_; intro v1 w1 hown hg _hne; clear _hne; have HO1 := Lib.hid hown; have HG1 := Lib.hid hg; clear hown hg)
              go_roundw
              case rel =>
                have hb1 : Below w0.heap.size w0 w1 := ((HBe.out.trans (HBW.out.mono hlx)).alloc (by omega) _).grown HG1.out (by simp; omega) (fun k hk => (HO.out.lt k hk).1)
                refine Lib.hid ⟨i + 1, L ++ [⟨xp, xA, xc, xb, xs, xf⟩], false, by omega, by go_num, rfl, by rw [List.length_append, ← pfV_snoc]; exact HO1.out, by rw [List.length_append]; simp at hL ⊢; omega, ?_, hb1, _, rfl⟩
                rw [← HP.out, hd.out]
                conv => rhs; unfold putF
                rw [if_neg (by rw [HE.out]; decide), if_neg (by rw [HGT.out]; simp)]
                simp
              case measure => simp [intOf]; omega
      · have hin : ¬ (i : Int) < (n : Int) := by omega
        go_wp2_with fail
        go_meet
        have hie : i = n := by omega
        exact Lib.hid ⟨L, done, rfl, HO.out, by omega, by rw [← HP.out, List.drop_of_length_le (by have := HN.out; omega)], HBe.out, _, rfl⟩
  case rest =>
    obtain ⟨L, done, rfl, hown, hL, hput, hbel, wr, hwr⟩ := hcut.out
    subst hwr
    obtain ⟨Ao, co, hvo, -, -⟩ := own_slice hown
    subst hvo
    have HO := Lib.hid hown
    have HBe := Lib.hid hbel
    have HP := Lib.hid hput
    clear hcut hown hput hbel HI0
    have hbr := HBX.out.below HBe.out HBX.out.lt
    have b0 : wr.cell? ⟨b, 0, none⟩ = some (.string fp) := hbr.cell 0
    have b1 : wr.cell? ⟨b, 1, none⟩ = some (.slice fA fb.length fc) := hbr.cell 1
    have b2 : wr.cell? ⟨b, 2, none⟩ = some (.int .i64 fs) := hbr.cell 2
    have b3 : wr.cell? ⟨b, 3, none⟩ = some (.bool ff) := hbr.cell 3
    have hbw : Below w.heap.size w wr := HBel0.out.trans (HBe.out.mono HBel0.out.size)
    have HBW := Lib.hid hbw
    have hlw0 := HBel0.out.size
    have hlwr := HBe.out.size
    clear hbr hbw
    have hstore : ∀ (wf : World) (A2 : Option Addr) (c2 : Nat) (L2 : List Pf), Hid (wf.ownsRow w0.heap.size 99 4 (.slice A2 L2.length c2) L2.length (pfV L2) → L2 = putF ⟨fp, fA, fc, fb, fs, ff⟩ G false → Below w.heap.size w wf → wf.cell? ⟨r, 0, none⟩ = some (.slice A n c) ∧ wf.frozen? ⟨r, 0, none⟩ = false ∧ ∃ Z' v', RfP (wf.setCell ⟨r, 0, none⟩ (.slice A2 L2.length c2)) B r Z' v' s (putF ⟨fp, fA, fc, fb, fs, ff⟩ G false) ∧ Vol Z w (wf.setCell ⟨r, 0, none⟩ (.slice A2 L2.length c2)) ∧ (∀ b, Z' b → Z b ∨ Zf b ∨ w.heap.size ≤ b)) := fun wf A2 c2 L2 => Lib.hid (fun ho hL2 hb => by
      have hRf := HR.out.below hb
      refine ⟨hRf.blk.cell 0, hRf.blk.frozen 0, fun b => (Z b ∨ Zf b) ∨ Value.ownBlock (.slice A2 L2.length c2) = some b, .slice A2 L2.length c2, ?_, ?_, fun b hb => ?_⟩
      · have hv : Vol (fun b => b = r) wf (wf.setCell ⟨r, 0, none⟩ (.slice A2 L2.length c2)) := Vol.setCell (V := fun b => b = r) (a := ⟨r, 0, none⟩) (Vol.refl wf) (.inl rfl) _
        have hz1 := hb.size
        refine ⟨hRf.blk.set_ 0 _, ?_, fun k y hy => ?_, ⟨.inl (.inl hRf.zr.1), fun b hb => .inr hb⟩, fun b hb => ?_, fun b hb => ?_⟩
        · rw [← hL2]
          exact own_down (own_vol ho hv (fun b hb e => own_blk_ne ho hRf.blk (by decide) (by rw [hb, e]))) (by omega)
        · have key : ByP wf (fun b => (Z b ∨ Zf b) ∨ Value.ownBlock (.slice A2 L2.length c2) = some b) y := by
            rcases putF_mem (List.mem_of_getElem? hy) with h | h
            · obtain ⟨k', hk'⟩ := List.getElem?_of_mem h
              have := hRf.byt k' y hk'
              exact ⟨this.1, this.2.1, fun hp => by obtain ⟨g, cur, e1, e2, e3⟩ := this.2.2 hp; exact ⟨g, cur, e1, .inl (.inl e2), e3⟩⟩
            · subst h
              have := HF.out.1
              exact ⟨this.1, this.2.1, fun hp => by obtain ⟨g, cur, e1, e2, e3, e4⟩ := this.2.2 hp; exact ⟨g, cur, e1, .inl e2, (hb.block g (Array.getElem?_eq_some_iff.1 e3).1).trans e3, e4⟩⟩
          refine key.keep fun g cur _ hc => hv.block g (Array.getElem?_eq_some_iff.1 hc).1 (fun e => ?_)
          rw [e] at hc
          have h1 := hRf.blk
          unfold Blk at h1
          rw [h1] at hc
          injection hc with hc
          injection hc with _ hc
          exact absurd hc (by decide)
        · refine Nat.lt_of_lt_of_le ?_ hv.size
          rcases hb with (hb | hb) | hb
          · exact hRf.lt b hb
          · have := (HF.out.2 b hb).1
            omega
          · exact (ho.lt b hb).2
        · rcases hb with (hb | hb) | hb
          · exact hRf.ge b hb
          · exact (HF.out.2 b hb).2
          · have := (ho.lt b hb).1
            omega
      · exact ((Vol.of_below hb).setCell (.inl HR.out.zr.1) _)
      · rcases hb with (hb | hb) | hb
        · exact .inl hb
        · exact .inr (.inl hb)
        · have := (ho.lt b hb).1
          right; right; omega)
    cases done with
    | true =>
      have hLe : L = putF ⟨fp, fA, fc, fb, fs, ff⟩ G false := by rw [← HP.out]; simp [putF]
      obtain ⟨s0, s1, s2⟩ := (hstore wr Ao co L).out HO.out hLe HBW.out
      have HS2 := Lib.hid s2
      clear s2 hLe
      go_wp2_with fail
      go_end0
      exact ⟨⟨_, rfl⟩, HS2.out⟩
    | false =>
      have hLe : L ++ [⟨fp, fA, fc, fb, fs, ff⟩] = putF ⟨fp, fA, fc, fb, fs, ff⟩ G false := by rw [← HP.out]; simp [putF]
      have HLe := Lib.hid hLe
      clear hLe
      go_wp2_with (at_builtin; refine wpList_append_any _ rfl _ _ 95 rfl w0.heap.size 99 i0 fiZ 4 56 Try.underlying95 hinf hz0 hz1 hz2 rfl (by decide) (.slice Ao L.length co) L.length (pfV L) rfl (HO.out.alloc _) (wr.alloc (.cells (pfC ⟨fp, fA, fc, fb, fs, ff⟩).toArray 99)).heap.size (some ⟨wr.heap.size, 0, none⟩) 1 1 (pfC ⟨fp, fA, fc, fb, fs, ff⟩) rfl (reads_blk (Blk.new wr _ _) rfl) (pfC_one _) (by simp only [maxLen]; omega) (by omega) (by simp; omega) ?_; intro v1 w1 hown hg _hne; clear _hne; have HO1 := Lib.hid hown; have HG1 := Lib.hid hg; obtain ⟨A1, c1, rfl, -, -⟩ := own_slice hown; have hwf := (hstore w1 A1 c1 (L ++ [⟨fp, fA, fc, fb, fs, ff⟩])).out (by rw [List.length_append, ← pfV_snoc]; exact hown) HLe.out (((HBW.out.alloc HBW.out.size _).grown hg (by simp; have := HBW.out.size; omega) (fun k hk => by have := (HO.out.lt k hk).1; omega))); obtain ⟨s0, s1, s2⟩ := hwf; rw [show (L ++ [(⟨fp, fA, fc, fb, fs, ff⟩ : Pf)]).length = L.length + 1 by simp] at s2; have HS2 := Lib.hid s2; clear s2 hown hg)
      go_end0
      exact ⟨⟨_, rfl⟩, HS2.out⟩
end
end Go.Proofs.Ytplmfmcogbdpjaa.Dk
namespace Go.Proofs.Ytplmfmcogbdpjaa.Dk
open Go Go.RowKit Go.Proofs.Ytplmfmcogbdpjaa Go.Proofs.Ytplmfmcogbdpjaa.Crw Go.Proofs.Ytplmfmcogbdpjaa.Vl Go.ChangeShapes Go.WideShapes Go.ChangeAt
set_option linter.unusedVariables false
set_option maxRecDepth 100000
abbrev RfS (w0 : World) (B r : Nat) (Z : Nat → Prop) (v : Value) (s : Ps) (G : List Pf) (wa : World) : Prop :=
  wa.cell? ⟨r, 1, none⟩ = some (.int .i64 s.q) ∧ RfP wa B r Z v s G ∧ Below w0.heap.size w0 wa
section
variable {w w' : World} {B r : Nat} {U Z Zf : Nat → Prop} {v : Value} {s s2 : Ps} {G : List Pf} {p : ByteArray} {x f : Pf}
theorem rf_keep {w0 wa wb : World} (k : RfS w0 B r Z v s G wa) (hb : Below wa.heap.size wa wb) : RfS w0 B r Z v s G wb :=
  ⟨(k.2.1.below hb).blk.cell 1, k.2.1.below hb, k.2.2.trans (hb.mono k.2.2.size)⟩
theorem rf_drew {w0 wa : World} (k : RfS w0 B r Z v s G wa) : RfS w0 B r Z v s G wa.drew := rf_keep k (Below.refl _ _).drew
theorem own_byP {lo : Nat} {A : Option Addr} {n c : Nat} {bs : List Int} (h : w.ownsRow lo 5 1 (.slice A n c) n (bsV bs)) (p : ByteArray) (sy : Int) (fi : Bool) : bs.length = n ∧ ByP w (fun b => Value.ownBlock (.slice A n c) = some b) ⟨p, A, c, bs, sy, fi⟩ := by
  have hl : bs.length = n := by have := h.1; simpa [bsV] using this
  refine ⟨hl, ?_⟩
  rcases h.2 with ⟨e, h0⟩ | ⟨g, cap, cur, e, -, h1, h2, h3, h4, h5⟩
  · injection e with e1 e2 e3
    subst e1 e2 e3
    exact ⟨by simp only; omega, by simp [maxLen], fun hp => by simp only at hp; omega⟩
  · injection e with e1 e2 e3
    subst e1 e3
    refine ⟨by simp only; omega, h3, fun hp => ⟨g, cur, rfl, rfl, h1, ?_⟩⟩
    simp only
    rw [hl]
    simpa using h5
set_option maxHeartbeats 4000000 in
theorem RApp_dead {A : Option Addr} {n c : Nat} (h : RfP w B r Z v s G) (hd : s.de = true) :
    Calls Try.prog 49 #[.pointer (some ⟨r, 0, none⟩), .string p, .slice A n c] w fun e w' => e = .returned (.int .i64 7) ∧ Below w.heap.size w w' := by
  have c1 : w.cell? ⟨r, 1, none⟩ = some (.int .i64 s.q) := h.blk.cell 1
  have c2 : w.cell? ⟨r, 2, none⟩ = some (.bool s.de) := h.blk.cell 2
  rw [hd] at c2
  clear h hd c1
  go_enter Try.func49, Try.ntmps49
  go_wp2_with fail
  go_ret
  exact ⟨rfl, Below.refl _ _⟩
set_option maxHeartbeats 4000000 in
theorem RApp_arg {A : Option Addr} {n c : Nat} (h : RfP w B r Z v s G) (hd : s.de = false) (hp : p.toList.isEmpty = true) :
    Calls Try.prog 49 #[.pointer (some ⟨r, 0, none⟩), .string p, .slice A n c] w fun e w' => e = .returned (.int .i64 1) ∧ Below w.heap.size w w' := by
  have c1 : w.cell? ⟨r, 1, none⟩ = some (.int .i64 s.q) := h.blk.cell 1
  have c2 : w.cell? ⟨r, 2, none⟩ = some (.bool s.de) := h.blk.cell 2
  rw [hd] at c2
  clear h hd c1
  go_enter Try.func49, Try.ntmps49
  go_wp2_with fail
  go_ret
  exact ⟨rfl, Below.refl _ _⟩
set_option maxHeartbeats 8000000 in
theorem RApp_full {A : Option Addr} {n c : Nat} (h : RfP w B r Z v s G) (hd : s.de = false) (hp : p.toList.isEmpty = false) (hG : G.length ≤ 1000) (hT : totP G ≤ 1000000) (hq : 0 ≤ s.q ∧ s.q ≤ 65536) (hn : s.q - (totP G : Nat) < (n : Int)) :
    Calls Try.prog 49 #[.pointer (some ⟨r, 0, none⟩), .string p, .slice A n c] w fun e w' => e = .returned (.int .i64 6) ∧ Below w.heap.size w w' := by
  have c1 : w.cell? ⟨r, 1, none⟩ = some (.int .i64 s.q) := h.blk.cell 1
  have c2 : w.cell? ⟨r, 2, none⟩ = some (.bool s.de) := h.blk.cell 2
  have hS0 : RfS w B r Z v s G w := ⟨c1, h, Below.refl _ _⟩
  have hUs := fun {wa : World} (k : RfS w B r Z v s G wa) => Used_p k.2.1 hG hT
  have hge : ∀ b, Z b → b < w.heap.size := h.lt
  rw [hd] at c2
  obtain ⟨T, hTT⟩ : ∃ T, T = totP G := ⟨_, rfl⟩
  rw [← hTT] at hT hn
  simp only [← hTT] at hUs
  have hw : IntKind.i64.wrap (s.q - (T : Int)) = s.q - (T : Int) := by rw [IntKind.wrap_i64]; omega
  have HTT := Lib.hid hTT
  have HGE := Lib.hid hge
  clear hTT hge
  clear h hd
  go_enter Try.func49, Try.ntmps49
  go_upto_region 5 with fail
  go_region_held3 (fun wa => wa.cell? ⟨r, 1, none⟩ = some (.int .i64 s.q) ∧ (RfP wa B r Z v s G ∧ Below w.heap.size w wa)) (first | assumption | exact rf_keep (by assumption) (by assumption) | exact rf_keep (rf_drew (by assumption)) (by assumption) | exact rf_drew (by assumption)) (first | (go_at_call 72; refine (hUs (by first | assumption | exact rf_drew (by assumption))).mono ?_; rintro e wz ⟨rfl, hbz⟩))
  all_goals
    rename_i hHeld
    go_wp2_with fail
    go_ret
    exact ⟨rfl, hHeld.2.2⟩
set_option maxHeartbeats 8000000 in
theorem RApp_stop {A : Option Addr} {n c : Nat} (h : RfP w B r Z v s G) (hd : s.de = false) (hp : p.toList.isEmpty = false) (hG : G.length ≤ 1000) (hT : totP G ≤ 1000000) (hq : 0 ≤ s.q ∧ s.q ≤ 65536) (hn : (n : Int) ≤ s.q - (totP G : Nat)) (hs : stopS s s2 true) (hN : -1000000 ≤ s.n ∧ s.n ≤ 1000000) :
    Calls Try.prog 49 #[.pointer (some ⟨r, 0, none⟩), .string p, .slice A n c] w fun e w' => e = .returned (.int .i64 7) ∧ RfP w' B r Z v s2 G ∧ Vol Z w w' := by
  have c1 : w.cell? ⟨r, 1, none⟩ = some (.int .i64 s.q) := h.blk.cell 1
  have c2 : w.cell? ⟨r, 2, none⟩ = some (.bool s.de) := h.blk.cell 2
  have hS0 : RfS w B r Z v s G w := ⟨c1, h, Below.refl _ _⟩
  have hUs := fun {wa : World} (k : RfS w B r Z v s G wa) => Used_p k.2.1 hG hT
  have hge : ∀ b, Z b → b < w.heap.size := h.lt
  rw [hd] at c2
  obtain ⟨T, hTT⟩ : ∃ T, T = totP G := ⟨_, rfl⟩
  rw [← hTT] at hT hn
  simp only [← hTT] at hUs
  have hw : IntKind.i64.wrap (s.q - (T : Int)) = s.q - (T : Int) := by rw [IntKind.wrap_i64]; omega
  have HTT := Lib.hid hTT
  have HGE := Lib.hid hge
  clear hTT hge
  have hnn : ¬ s.q - (T : Int) < (n : Int) := by omega
  have HS := Lib.hid hs
  clear h hd hs hn
  go_enter Try.func49, Try.ntmps49
  go_upto_region 5 with fail
  go_region_held3 (fun wa => wa.cell? ⟨r, 1, none⟩ = some (.int .i64 s.q) ∧ (RfP wa B r Z v s G ∧ Below w.heap.size w wa)) (first | assumption | exact rf_keep (by assumption) (by assumption) | exact rf_keep (rf_drew (by assumption)) (by assumption) | exact rf_drew (by assumption)) (first | (go_at_call 72; refine (hUs (by first | assumption | exact rf_drew (by assumption))).mono ?_; rintro e wz ⟨rfl, hbz⟩))
  all_goals
    rename_i hHeld
    have HHe := Lib.hid hHeld
    clear hHeld
    go_wp2_with fail
    refine (Stops_p HHe.out.2.1 HS.out hN).mono ?_
    rintro e w2 ⟨rfl, hR2, hV2⟩
    go_wp2_with fail
    go_ret
    exact ⟨rfl, hR2, (Vol.of_below HHe.out.2.2).trans hV2 fun b hb => .inl hb⟩
end
end Go.Proofs.Ytplmfmcogbdpjaa.Dk
namespace Go.Proofs.Ytplmfmcogbdpjaa.Dk
open Go Go.RowKit Go.Proofs.Ytplmfmcogbdpjaa Go.Proofs.Ytplmfmcogbdpjaa.Crw Go.Proofs.Ytplmfmcogbdpjaa.Vl Go.ChangeShapes Go.WideShapes Go.ChangeAt
set_option linter.unusedVariables false
set_option maxRecDepth 100000
section
variable {w w' : World} {B r : Nat} {U Z Zf : Nat → Prop} {v : Value} {s s2 : Ps} {G : List Pf} {p : ByteArray} {x f : Pf}
theorem reads_belP {w1 w2 : World} {z n B : Nat} {A : Option Addr} {xs : List Value} (h : Reads w1 B z A n xs) (hB : B ≤ w1.heap.size) (hb : Below w1.heap.size w1 w2) : Reads w2 B z A n xs := reads_vol (U := fun _ => False) h hB (Vol.of_below hb) (fun _ _ h => h)
theorem reads_belP2 {w0 w1 w2 : World} {z n B : Nat} {A : Option Addr} {xs : List Value} (h : Reads w1 B z A n xs) (hB : B ≤ w0.heap.size) (h01 : w0.heap.size ≤ w1.heap.size) (hb : Below w1.heap.size w1 w2) : Reads w2 B z A n xs := reads_vol (U := fun _ => False) h (Nat.le_trans hB h01) (Vol.of_below hb) (fun _ _ h => h)
theorem bel_volP {w w1 w2 : World} {U : Nat → Prop} (h : Below w.heap.size w w1) (hv : Vol U w1 w2) (hU : ∀ b, U b → w.heap.size ≤ b) : Below w.heap.size w w2 :=
  ⟨hv.os.trans h.os, hv.tape.trans h.tape, hv.output.trans h.output, Nat.le_trans h.size hv.size, fun b hb => (hv.block b (Nat.lt_of_lt_of_le hb h.size) (fun e => by have := hU b e; omega)).trans (h.block b hb)⟩
def RAppPost (w : World) (B r : Nat) (Z : Nat → Prop) (s2 : Ps) (G : List Pf) (p : ByteArray) (bs : List Int) (sy : Int) (fi : Bool) (w' : World) : Prop :=
  ∃ Z' v' A' c', RfP w' B r Z' v' s2 (putF ⟨p, A', c', bs, sy, fi⟩ G false) ∧ Vol Z w w' ∧ ∀ b, Z' b → Z b ∨ w.heap.size ≤ b
set_option maxHeartbeats 16000000 in
theorem RApp_new {A : Option Addr} {n c B' : Nat} {bs : List Int} (h : RfP w B r Z v s G) (hd : s.de = false) (hp : p.toList.isEmpty = false) (hG : G.length ≤ 1000) (hT : totP G ≤ 1000000) (hq : 0 ≤ s.q ∧ s.q ≤ 65536) (hn : (n : Int) ≤ s.q - (totP G : Nat)) (hs : stopS s s2 false) (hN : -1000000 ≤ s.n ∧ s.n ≤ 1000000) (hno : ∀ (i : Nat) (y : Pf), G[i]? = some y → (y.p.toList == p.toList) = false)
    (hr : Reads w B' 1 A n (bsV bs)) (hB' : B' ≤ w.heap.size) (hA : ∀ ad, A = some ad → ¬ Z ad.block) (hB : B ≤ w.heap.size) :
    Calls Try.prog 49 #[.pointer (some ⟨r, 0, none⟩), .string p, .slice A n c] w fun e w' => e = .returned (.int .i64 0) ∧ RAppPost w B r Z s2 G p bs 0 false w' := by
  obtain ⟨i0, hinf, hz0, hz1, hz2⟩ := info_parts byte_infoD
  have hbl : bs.length = n := by have := hr.1; simpa [bsV] using this
  subst hbl
  have c1 : w.cell? ⟨r, 1, none⟩ = some (.int .i64 s.q) := h.blk.cell 1
  have c2 : w.cell? ⟨r, 2, none⟩ = some (.bool s.de) := h.blk.cell 2
  have HAt := Lib.hid (fun (wz : World) (k : RfP wz B r Z v s2 G) => At_no k hno hG)
  have hS0 : RfS w B r Z v s G w := ⟨c1, h, Below.refl _ _⟩
  have hUs := fun {wa : World} (k : RfS w B r Z v s G wa) => Used_p k.2.1 hG hT
  have hge : ∀ b, Z b → b < w.heap.size := h.lt
  rw [hd] at c2
  obtain ⟨T, hTT⟩ : ∃ T, T = totP G := ⟨_, rfl⟩
  rw [← hTT] at hT hn
  simp only [← hTT] at hUs
  have hw : IntKind.i64.wrap (s.q - (T : Int)) = s.q - (T : Int) := by rw [IntKind.wrap_i64]; omega
  have HTT := Lib.hid hTT
  have HGE := Lib.hid hge
  clear hTT hge
  have hnn : ¬ s.q - (T : Int) < (bs.length : Int) := by omega
  have hn6 : bs.length ≤ 65536 := by omega
  have HS := Lib.hid hs
  have HRd := Lib.hid (And.intro hr hA)
  have hq2 : s2.q = s.q := by rcases hs with ⟨_, _, rfl, _⟩ | ⟨_, rfl, _⟩ <;> rfl
  clear h hd hs hn hr hA hno
  go_enter Try.func49, Try.ntmps49
  go_upto_region 5 with fail
  go_region_held3 (fun wa => wa.cell? ⟨r, 1, none⟩ = some (.int .i64 s.q) ∧ (RfP wa B r Z v s G ∧ Below w.heap.size w wa)) (first | assumption | exact rf_keep (by assumption) (by assumption) | exact rf_keep (rf_drew (by assumption)) (by assumption) | exact rf_drew (by assumption)) (first | (go_at_call 72; refine (hUs (by first | assumption | exact rf_drew (by assumption))).mono ?_; rintro e wz ⟨rfl, hbz⟩))
  all_goals
    rename_i hHeld
    have HHe := Lib.hid hHeld
    clear hHeld
    go_wp2_with fail
    refine (Stops_p HHe.out.2.1 HS.out hN).mono ?_
    rintro e w2 ⟨rfl, hR2, hV2⟩
    have HR2 := Lib.hid hR2
    have HV2 := Lib.hid ((Vol.of_below HHe.out.2.2).trans hV2 fun b hb => .inl hb)
    clear hR2 hV2
    go_upto_region 10 with fail
    obtain ⟨w3, hw3⟩ : ∃ w3, w3 = w2.alloc (.cells #[.string p, .slice none 0 0, .int .i64 0, .bool false] 99) := ⟨_, rfl⟩
    obtain ⟨bf, hbf⟩ : ∃ bf, bf = w2.heap.size := ⟨_, rfl⟩
    have HBf := Lib.hid (show Blk w3 bf 99 #[.string p, .slice none 0 0, .int .i64 0, .bool false] by rw [hw3, hbf]; exact Blk.new _ _ _)
    have HB3 := Lib.hid (show Below w2.heap.size w2 w3 by rw [hw3]; exact (Below.refl _ _).alloc (Nat.le_refl _) _)
    have e0 : w2.alloc (.cells #[.string p, .slice none 0 0, .int .i64 0, .bool false] 99) = w3 := hw3.symm
    rw [e0, ← hbf]
    have HBFE := Lib.hid hbf
    clear hw3 e0 hbf
    go_wp2_with fail
    refine (HAt.out w3 (HR2.out.below HB3.out)).mono ?_
    rintro e w4 ⟨rfl, hb4⟩
    have HB4 := Lib.hid hb4
    have hbf4 := HBf.out.below hb4 HBf.out.lt
    clear hb4
    have d0 : w4.cell? ⟨bf, 0, none⟩ = some (.string p) := hbf4.cell 0
    have d1 : w4.cell? ⟨bf, 1, none⟩ = some (.slice none 0 0) := hbf4.cell 1
    have d2 : w4.cell? ⟨bf, 2, none⟩ = some (.int .i64 0) := hbf4.cell 2
    have d3 : w4.cell? ⟨bf, 3, none⟩ = some (.bool false) := hbf4.cell 3
    have f1 : w4.frozen? ⟨bf, 1, none⟩ = false := hbf4.frozen 1
    have hb24 := HB3.out.trans (HB4.out.mono HB3.out.size)
    have hr4 : Reads w4 B' 1 A bs.length (bsV bs) := reads_belP2 (reads_vol HRd.out.1 hB' HV2.out HRd.out.2) hB' HV2.out.size hb24
    have HR4 := Lib.hid hr4
    have HLe := Lib.hid (Nat.le_trans HV2.out.size hb24.size)
    have HB24 := Lib.hid hb24
    have HBF4 := Lib.hid hbf4
    clear hr4 hbf4 hb24
    go_upto_region 13 with fail
    have HXR := Lib.hid (show Reads w4 w4.heap.size 1 none 0 (bsV ([] : List Int)) from ⟨by simp, fun h => absurd h (by omega)⟩)
    go_wp2_with (first | (at_builtin; refine wpList_append_any _ rfl _ _ 28 rfl w4.heap.size 5 i0 (.int .u8 0) 1 1 Try.underlying28 hinf hz0 hz1 hz2 rfl (by decide) (.slice A5 0 c5) 0 (bsV ([] : List Int)) rfl HO5.out B' A bs.length c (bsV bs) rfl (reads_belP HR4.out (Nat.le_trans hB' HLe.out) HB5.out) (bsV_one _) (by simp only [maxLen]; omega) (by omega) HB5.out.size ?_; intro v6 w6 hown hg _hne; clear _hne; obtain ⟨A6, c6, rfl, -, -⟩ := own_slice hown; have HO6 := Lib.hid hown; have hb46 := HB5.out.grown hg HB5.out.size (fun b hb => (HO5.out.lt b hb).1); have HB46 := Lib.hid hb46; have hbf6 := HBF4.out.below hb46 HBF4.out.lt; have q0 : w6.cell? ⟨bf, 0, none⟩ = some (.string p) := hbf6.cell 0; have q1 : w6.cell? ⟨bf, 1, none⟩ = some (.slice none 0 0) := hbf6.cell 1; have q2 : w6.cell? ⟨bf, 2, none⟩ = some (.int .i64 0) := hbf6.cell 2; have q3 : w6.cell? ⟨bf, 3, none⟩ = some (.bool false) := hbf6.cell 3; have qf : w6.frozen? ⟨bf, 1, none⟩ = false := hbf6.frozen 1; clear hb46 hbf6 hown hg) | (at_builtin; refine wpList_append_any _ rfl _ _ 28 rfl w4.heap.size 5 i0 (.int .u8 0) 1 1 Try.underlying28 hinf hz0 hz1 hz2 rfl (by decide) (.slice none 0 0) 0 [] rfl ⟨by simp, .inl ⟨rfl, rfl⟩⟩ w4.heap.size none 0 0 (bsV ([] : List Int)) rfl HXR.out (bsV_one _) (by simp only [maxLen]; omega) (by omega) (Nat.le_refl _) ?_; intro v5 w5 hown hg _hne; clear _hne; simp only [Nat.zero_add, List.nil_append] at hown; obtain ⟨A5, c5, rfl, -, -⟩ := own_slice hown; have HO5 := Lib.hid hown; have HB5 := Lib.hid ((Below.refl w4.heap.size w4).grown hg (Nat.le_refl _) (fun b hb => by cases hb)); clear hown hg))
    obtain ⟨wg, hwg⟩ : ∃ wg, wg = w6.setCell ⟨bf, 1, none⟩ (.slice A6 (bs.length) c6) := ⟨_, rfl⟩
    rw [← hwg]
    have hvg : Vol (fun b => b = bf) w6 wg := by rw [hwg]; exact Vol.setCell (V := fun b => b = bf) (a := ⟨bf, 1, none⟩) (Vol.refl w6) (.inl rfl) _
    have hlen : (bs).length = bs.length := by simp
    have ho6 : w6.ownsRow w4.heap.size 5 1 (.slice A6 (bs.length) c6) (bs.length) (bsV (bs)) := by
      have h := HO6.out
      simpa [bsV] using h
    have hb26 : Below w2.heap.size w2 w6 := HB24.out.trans (HB46.out.mono HB24.out.size)
    have hb2g : Below w2.heap.size w2 wg := bel_volP hb26 hvg (fun b e => by rw [e, HBFE.out]; exact Nat.le_refl _)
    have hog : wg.ownsRow w4.heap.size 5 1 (.slice A6 (bs.length) c6) (bs.length) (bsV (bs)) := own_vol ho6 hvg (fun b hb e => by
      have h1 := (ho6.lt b hb).1
      have h2 := HBF4.out.lt
      omega)
    obtain ⟨-, hby⟩ := own_byP hog p (0) false
    have hPut := Put_p (w := wg) (Zf := fun b => Value.ownBlock (.slice A6 (bs.length) c6) = some b) (HR2.out.below hb2g) hG (f := ⟨p, A6, c6, bs, 0, false⟩) ⟨hby.1, hby.2.1, fun hp => by obtain ⟨g, cur, e1, e2, e3⟩ := hby.2.2 hp; exact ⟨g, cur, e1, .inr e2, e3⟩⟩ (fun b hb => ⟨(hog.lt b hb).2, by have h1 := (hog.lt b hb).1; have h2 := HLe.out; omega⟩) (by have h1 := hb2g.size; have h2 := HV2.out.size; omega)
    have hP2 := Lib.hid hPut
    have HF := Lib.hid (And.intro hb2g (And.intro hog HV2.out))
    clear hPut hby hog ho6 hvg hb26 hb2g hwg
    try simp only [Pf.v] at hP2
    clear hlen
    refine hP2.out.mono ?_
    rintro e wz ⟨⟨u, rfl⟩, Z', v', hRz, hVz, hZz⟩
    have HZ := Lib.hid (And.intro hRz (And.intro hVz hZz))
    clear hRz hVz hZz hP2
    go_wp2_with fail
    go_ret
    obtain ⟨hRz, hVz, hZz⟩ := HZ.out
    obtain ⟨hb2g, hog, hV2⟩ := HF.out
    refine ⟨rfl, Z', v', A6, c6, hRz, (hV2.below hb2g).trans hVz fun b hb => .inl hb, fun b hb => ?_⟩
    rcases hZz b hb with h | h | h
    · exact .inl h
    · right
      have h1 := (hog.lt b h).1
      have h2 := HLe.out
      have h3 := HB24.out.size
      have h4 := hV2.size
      omega
    · right
      have h1 := hb2g.size
      have h2 := hV2.size
      omega
end
end Go.Proofs.Ytplmfmcogbdpjaa.Dk
namespace Go.Proofs.Ytplmfmcogbdpjaa.Dk
open Go Go.RowKit Go.Proofs.Ytplmfmcogbdpjaa Go.Proofs.Ytplmfmcogbdpjaa.Crw Go.Proofs.Ytplmfmcogbdpjaa.Vl Go.ChangeShapes Go.WideShapes Go.ChangeAt
set_option linter.unusedVariables false
set_option maxRecDepth 100000
section
variable {w w' : World} {B r : Nat} {U Z Zf : Nat → Prop} {v : Value} {s s2 : Ps} {G : List Pf} {p : ByteArray} {x f : Pf}
set_option maxHeartbeats 16000000 in
theorem RApp_old {A : Option Addr} {n c B' : Nat} {bs : List Int} (h : RfP w B r Z v s G) (hd : s.de = false) (hp : p.toList.isEmpty = false) (hG : G.length ≤ 1000) (hT : totP G ≤ 1000000) (hq : 0 ≤ s.q ∧ s.q ≤ 65536) (hn : (n : Int) ≤ s.q - (totP G : Nat)) (hs : stopS s s2 false) (hN : -1000000 ≤ s.n ∧ s.n ≤ 1000000) {j : Nat} {x : Pf} (hj : G[j]? = some x) (hx : x.p = p) (hno : ∀ (i : Nat) (y : Pf), i < j → G[i]? = some y → (y.p.toList == p.toList) = false) (hxl : x.bs.length ≤ 1000000)
    (hr : Reads w B' 1 A n (bsV bs)) (hB' : B' ≤ w.heap.size) (hA : ∀ ad, A = some ad → ¬ Z ad.block) (hB : B ≤ w.heap.size) :
    Calls Try.prog 49 #[.pointer (some ⟨r, 0, none⟩), .string p, .slice A n c] w fun e w' => e = .returned (.int .i64 0) ∧ RAppPost w B r Z s2 G p (x.bs ++ bs) x.sy x.fi w' := by
  obtain ⟨i0, hinf, hz0, hz1, hz2⟩ := info_parts byte_infoD
  have hbl : bs.length = n := by have := hr.1; simpa [bsV] using this
  subst hbl
  obtain ⟨Av, cv, rfl, -, -⟩ := h.shape
  have HJ := Lib.hid hj
  have c1 : w.cell? ⟨r, 1, none⟩ = some (.int .i64 s.q) := h.blk.cell 1
  have c2 : w.cell? ⟨r, 2, none⟩ = some (.bool s.de) := h.blk.cell 2
  have HAt := Lib.hid (fun (wz : World) (k : RfP wz B r Z (.slice Av G.length cv) s2 G) => At_yes k hj hx hno hG)
  have hS0 : RfS w B r Z (.slice Av G.length cv) s G w := ⟨c1, h, Below.refl _ _⟩
  have hUs := fun {wa : World} (k : RfS w B r Z (.slice Av G.length cv) s G wa) => Used_p k.2.1 hG hT
  have hge : ∀ b, Z b → b < w.heap.size := h.lt
  rw [hd] at c2
  obtain ⟨T, hTT⟩ : ∃ T, T = totP G := ⟨_, rfl⟩
  rw [← hTT] at hT hn
  simp only [← hTT] at hUs
  have hw : IntKind.i64.wrap (s.q - (T : Int)) = s.q - (T : Int) := by rw [IntKind.wrap_i64]; omega
  have HTT := Lib.hid hTT
  have HGE := Lib.hid hge
  clear hTT hge
  have hnn : ¬ s.q - (T : Int) < (bs.length : Int) := by omega
  have hn6 : bs.length ≤ 65536 := by omega
  have HS := Lib.hid hs
  have HRd := Lib.hid (And.intro hr hA)
  have hq2 : s2.q = s.q := by rcases hs with ⟨_, _, rfl, _⟩ | ⟨_, rfl, _⟩ <;> rfl
  clear h hd hs hn hr hA hno hj
  go_enter Try.func49, Try.ntmps49
  go_upto_region 5 with fail
  go_region_held3 (fun wa => wa.cell? ⟨r, 1, none⟩ = some (.int .i64 s.q) ∧ (RfP wa B r Z (.slice Av G.length cv) s G ∧ Below w.heap.size w wa)) (first | assumption | exact rf_keep (by assumption) (by assumption) | exact rf_keep (rf_drew (by assumption)) (by assumption) | exact rf_drew (by assumption)) (first | (go_at_call 72; refine (hUs (by first | assumption | exact rf_drew (by assumption))).mono ?_; rintro e wz ⟨rfl, hbz⟩))
  all_goals
    rename_i hHeld
    have HHe := Lib.hid hHeld
    clear hHeld
    go_wp2_with fail
    refine (Stops_p HHe.out.2.1 HS.out hN).mono ?_
    rintro e w2 ⟨rfl, hR2, hV2⟩
    have HR2 := Lib.hid hR2
    have HV2 := Lib.hid ((Vol.of_below HHe.out.2.2).trans hV2 fun b hb => .inl hb)
    clear hR2 hV2
    go_upto_region 10 with fail
    obtain ⟨w3, hw3⟩ : ∃ w3, w3 = w2.alloc (.cells #[.string p, .slice none 0 0, .int .i64 0, .bool false] 99) := ⟨_, rfl⟩
    obtain ⟨bf, hbf⟩ : ∃ bf, bf = w2.heap.size := ⟨_, rfl⟩
    have HBf := Lib.hid (show Blk w3 bf 99 #[.string p, .slice none 0 0, .int .i64 0, .bool false] by rw [hw3, hbf]; exact Blk.new _ _ _)
    have HB3 := Lib.hid (show Below w2.heap.size w2 w3 by rw [hw3]; exact (Below.refl _ _).alloc (Nat.le_refl _) _)
    have e0 : w2.alloc (.cells #[.string p, .slice none 0 0, .int .i64 0, .bool false] 99) = w3 := hw3.symm
    rw [e0, ← hbf]
    have HBFE := Lib.hid hbf
    clear hw3 e0 hbf
    go_wp2_with fail
    refine (HAt.out w3 (HR2.out.below HB3.out)).mono ?_
    rintro e w4 ⟨rfl, hb4⟩
    have HB4 := Lib.hid hb4
    have hbf4 := HBf.out.below hb4 HBf.out.lt
    clear hb4
    have hb24 := HB3.out.trans (HB4.out.mono HB3.out.size)
    have hr4 : Reads w4 B' 1 A bs.length (bsV bs) := reads_belP2 (reads_vol HRd.out.1 hB' HV2.out HRd.out.2) hB' HV2.out.size hb24
    have hR4 := HR2.out.below hb24
    have c0 : w4.cell? ⟨r, 0, none⟩ = some (.slice Av G.length cv) := hR4.blk.cell 0
    obtain ⟨gg, rfl, -, k0, k1, k2, k3⟩ := hR4.cells HJ.out
    obtain ⟨xp, xA, xc, xb, xs, xf⟩ := x
    have d0 : w4.cell? ⟨bf, 0, none⟩ = some (.string p) := hbf4.cell 0
    have d1 : w4.cell? ⟨bf, 1, none⟩ = some (.slice none 0 0) := hbf4.cell 1
    have d2 : w4.cell? ⟨bf, 2, none⟩ = some (.int .i64 0) := hbf4.cell 2
    have d3 : w4.cell? ⟨bf, 3, none⟩ = some (.bool false) := hbf4.cell 3
    have f0 : w4.frozen? ⟨bf, 0, none⟩ = false := hbf4.frozen 0
    have f1 : w4.frozen? ⟨bf, 1, none⟩ = false := hbf4.frozen 1
    have f2 : w4.frozen? ⟨bf, 2, none⟩ = false := hbf4.frozen 2
    have f3 : w4.frozen? ⟨bf, 3, none⟩ = false := hbf4.frozen 3
    have HR4 := Lib.hid hr4
    have HLe := Lib.hid (Nat.le_trans HV2.out.size hb24.size)
    have HB24 := Lib.hid hb24
    have HBF4 := Lib.hid hbf4
    have HRR4 := Lib.hid hR4
    have j0 : (0 : Int) ≤ (j : Int) := by omega
    have jG : (j : Int) < (G.length : Int) := by have := (List.getElem?_eq_some_iff.1 HJ.out).1; omega
    clear hr4 hbf4 hb24 hR4
    go_upto_region 13 with fail
    obtain ⟨wq, hwq⟩ : ∃ wq, wq = (((w4.setCell ⟨bf, 0, none⟩ (.string p)).setCell ⟨bf, 1, none⟩ (.slice xA xb.length xc)).setCell ⟨bf, 2, none⟩ (.int .i64 xs)).setCell ⟨bf, 3, none⟩ (.bool xf) := ⟨_, rfl⟩
    have hbfq : Blk wq bf 99 #[.string p, .slice xA xb.length xc, .int .i64 xs, .bool xf] := by
      rw [hwq]
      exact (((HBF4.out.set_ 0 (.string p)).set_ 1 (.slice xA xb.length xc)).set_ 2 (.int .i64 xs)).set_ 3 (.bool xf)
    have hvq : Vol (fun b => b = bf) w4 wq := by
      rw [hwq]
      exact ((((Vol.refl w4).setCell (V := fun b => b = bf) (a := ⟨bf, 0, none⟩) (.inl rfl) _).setCell (a := ⟨bf, 1, none⟩) (.inl rfl) _).setCell (a := ⟨bf, 2, none⟩) (.inl rfl) _).setCell (a := ⟨bf, 3, none⟩) (.inl rfl) _
    have ewq := hwq.symm
    rw [ewq]
    have hRq := HRR4.out.vol hvq (fun b hb e => by have h1 := HR2.out.lt b hb; have h2 := HBFE.out; omega)
    have hb2q : Below w2.heap.size w2 wq := bel_volP HB24.out hvq (fun b e => by rw [e, HBFE.out]; exact Nat.le_refl _)
    have HB2q := Lib.hid hb2q
    have HBFq := Lib.hid hbfq
    have HRq := Lib.hid (show Reads wq B' 1 A bs.length (bsV bs) from by
      rcases Nat.eq_zero_or_pos bs.length with hz | hz
      · rw [hz]
        exact ⟨by simp [bsV, hz], fun h => absurd h (by omega)⟩
      · refine reads_vol HR4.out (Nat.le_trans hB' HLe.out) hvq (fun ad e eb => ?_)
        obtain ⟨ad2, e2, h2, -⟩ := HR4.out.2 hz
        rw [e] at e2
        injection e2 with e2
        subst e2
        have h3 := HBFE.out
        have h4 := HV2.out.size
        omega)
    have HLq := Lib.hid (Nat.le_trans HLe.out hvq.size)
    have HXR := Lib.hid (show Reads wq wq.heap.size 1 xA xb.length (bsV xb) from (hRq.byt j _ HJ.out).reads)
    have hxl2 : xb.length ≤ 1000000 := hxl
    clear d0 d1 d2 d3 f0 f1 f2 f3 hx hS0 hUs hq2 hw c1 c2 j0 jG
    have d0 : wq.cell? ⟨bf, 0, none⟩ = some (.string p) := hbfq.cell 0
    have d1 : wq.cell? ⟨bf, 1, none⟩ = some (.slice xA xb.length xc) := hbfq.cell 1
    have d2 : wq.cell? ⟨bf, 2, none⟩ = some (.int .i64 xs) := hbfq.cell 2
    have d3 : wq.cell? ⟨bf, 3, none⟩ = some (.bool xf) := hbfq.cell 3
    have f1 : wq.frozen? ⟨bf, 1, none⟩ = false := hbfq.frozen 1
    clear hwq ewq hbfq hvq hRq hb2q hxl k0 k1 k2 k3 c0
    go_wp2_with (first | (at_builtin; refine wpList_append_any _ rfl _ _ 28 rfl wq.heap.size 5 i0 (.int .u8 0) 1 1 Try.underlying28 hinf hz0 hz1 hz2 rfl (by decide) (.slice A5 xb.length c5) xb.length (bsV (xb)) rfl HO5.out B' A bs.length c (bsV bs) rfl (reads_belP HRq.out (Nat.le_trans hB' HLq.out) HB5.out) (bsV_one _) (by simp only [maxLen]; omega) (by omega) HB5.out.size ?_; intro v6 w6 hown hg _hne; clear _hne; obtain ⟨A6, c6, rfl, -, -⟩ := own_slice hown; have HO6 := Lib.hid hown; have hb46 := HB5.out.grown hg HB5.out.size (fun b hb => (HO5.out.lt b hb).1); have HB46 := Lib.hid hb46; have hbf6 := HBFq.out.below hb46 HBFq.out.lt; have q0 : w6.cell? ⟨bf, 0, none⟩ = some (.string p) := hbf6.cell 0; have q1 : w6.cell? ⟨bf, 1, none⟩ = some (.slice xA xb.length xc) := hbf6.cell 1; have q2 : w6.cell? ⟨bf, 2, none⟩ = some (.int .i64 xs) := hbf6.cell 2; have q3 : w6.cell? ⟨bf, 3, none⟩ = some (.bool xf) := hbf6.cell 3; have qf : w6.frozen? ⟨bf, 1, none⟩ = false := hbf6.frozen 1; clear hb46 hbf6 hown hg) | (at_builtin; refine wpList_append_any _ rfl _ _ 28 rfl wq.heap.size 5 i0 (.int .u8 0) 1 1 Try.underlying28 hinf hz0 hz1 hz2 rfl (by decide) (.slice none 0 0) 0 [] rfl ⟨by simp, .inl ⟨rfl, rfl⟩⟩ wq.heap.size xA xb.length xc (bsV (xb)) rfl HXR.out (bsV_one _) (by simp only [maxLen]; omega) (by omega) (Nat.le_refl _) ?_; intro v5 w5 hown hg _hne; clear _hne; simp only [Nat.zero_add, List.nil_append] at hown; obtain ⟨A5, c5, rfl, -, -⟩ := own_slice hown; have HO5 := Lib.hid hown; have HB5 := Lib.hid ((Below.refl wq.heap.size wq).grown hg (Nat.le_refl _) (fun b hb => by cases hb)); clear hown hg))
    obtain ⟨wg, hwg⟩ : ∃ wg, wg = w6.setCell ⟨bf, 1, none⟩ (.slice A6 (xb.length + bs.length) c6) := ⟨_, rfl⟩
    rw [← hwg]
    have hvg : Vol (fun b => b = bf) w6 wg := by rw [hwg]; exact Vol.setCell (V := fun b => b = bf) (a := ⟨bf, 1, none⟩) (Vol.refl w6) (.inl rfl) _
    have hlen : (xb ++ bs).length = xb.length + bs.length := by simp
    have ho6 : w6.ownsRow wq.heap.size 5 1 (.slice A6 (xb.length + bs.length) c6) (xb.length + bs.length) (bsV (xb ++ bs)) := by
      have h := HO6.out
      rw [bsV_app] at h
      exact h
    have hb26 : Below w2.heap.size w2 w6 := HB2q.out.trans (HB46.out.mono HB2q.out.size)
    have hb2g : Below w2.heap.size w2 wg := bel_volP hb26 hvg (fun b e => by rw [e, HBFE.out]; exact Nat.le_refl _)
    have hog : wg.ownsRow wq.heap.size 5 1 (.slice A6 (xb.length + bs.length) c6) (xb.length + bs.length) (bsV (xb ++ bs)) := own_vol ho6 hvg (fun b hb e => by
      have h1 := (ho6.lt b hb).1
      have h2 := HBFq.out.lt
      omega)
    obtain ⟨-, hby⟩ := own_byP hog p (xs) xf
    have hPut := Put_p (w := wg) (Zf := fun b => Value.ownBlock (.slice A6 (xb.length + bs.length) c6) = some b) (HR2.out.below hb2g) hG (f := ⟨p, A6, c6, xb ++ bs, xs, xf⟩) ⟨hby.1, hby.2.1, fun hp => by obtain ⟨g, cur, e1, e2, e3⟩ := hby.2.2 hp; exact ⟨g, cur, e1, .inr e2, e3⟩⟩ (fun b hb => ⟨(hog.lt b hb).2, by have h1 := (hog.lt b hb).1; have h2 := HLq.out; omega⟩) (by have h1 := hb2g.size; have h2 := HV2.out.size; omega)
    have hP2 := Lib.hid hPut
    have HF := Lib.hid (And.intro hb2g (And.intro hog HV2.out))
    clear hPut hby hog ho6 hvg hb26 hb2g hwg
    try simp only [Pf.v, List.length_append] at hP2
    clear hlen
    refine hP2.out.mono ?_
    rintro e wz ⟨⟨u, rfl⟩, Z', v', hRz, hVz, hZz⟩
    have HZ := Lib.hid (And.intro hRz (And.intro hVz hZz))
    clear hRz hVz hZz hP2
    go_wp2_with fail
    go_ret
    obtain ⟨hRz, hVz, hZz⟩ := HZ.out
    obtain ⟨hb2g, hog, hV2⟩ := HF.out
    refine ⟨rfl, Z', v', A6, c6, hRz, (hV2.below hb2g).trans hVz fun b hb => .inl hb, fun b hb => ?_⟩
    rcases hZz b hb with h | h | h
    · exact .inl h
    · right
      have h1 := (hog.lt b h).1
      have h2 := HLq.out
      have h3 := HB2q.out.size
      have h4 := hV2.size
      omega
    · right
      have h1 := hb2g.size
      have h2 := hV2.size
      omega
end
end Go.Proofs.Ytplmfmcogbdpjaa.Dk
namespace Go.Proofs.Ytplmfmcogbdpjaa.Dk
open Go Go.RowKit Go.Proofs.Ytplmfmcogbdpjaa Go.Proofs.Ytplmfmcogbdpjaa.Crw Go.Proofs.Ytplmfmcogbdpjaa.Vl Go.ChangeShapes Go.WideShapes Go.ChangeAt
set_option linter.unusedVariables false
set_option maxRecDepth 100000
theorem own_cellP {w : World} {B g n c i : Nat} {e : TypeId} {xs : List Value} {u : Value} (h : w.ownsRow B e 4 (.slice (some ⟨g, 0, none⟩) n c) n xs) : (w.setCell ⟨g, i, none⟩ u).ownsRow B e 4 (.slice (some ⟨g, 0, none⟩) n c) n (xs.set i u) := by
  rcases h.2 with ⟨e1, -⟩ | ⟨g', cap', cur, e1, hbg, hh, hn, hm, hc1, hc2⟩
  · cases e1
  · injection e1 with e1 e2 e3
    injection e1 with e1
    injection e1 with e1 e4 e5
    subst e1 e3
    have hB : Blk w g e cur := hh
    have hB2 := hB.set_ i u
    refine ⟨by rw [List.length_set]; exact h.1, .inr ⟨g, c, _, rfl, hbg, hB2, hn, hm, by simpa using hc1, ?_⟩⟩
    rw [Array.toList_setIfInBounds, List.take_set, hc2]
theorem pfV_set : ∀ {G : List Pf} {j : Nat} {x y : Pf}, G[j]? = some x → y.p = x.p → pfV (G.set j y) = (((pfV G).set (j * 4 + 1) y.v).set (j * 4 + 2) (.int .i64 y.sy)).set (j * 4 + 3) (.bool y.fi)
  | [], j, x, y, h, _ => by simp at h
  | z :: G, 0, x, y, h, hp => by
    simp at h
    subst h
    simp [pfV, hp]
  | z :: G, j + 1, x, y, h, hp => by
    have ih := pfV_set (G := G) (j := j) (x := x) (y := y) (by simpa using h) hp
    have e1 : (j + 1) * 4 + 1 = (pfC z).length + (j * 4 + 1) := by simp; omega
    have e2 : (j + 1) * 4 + 2 = (pfC z).length + (j * 4 + 2) := by simp; omega
    have e3 : (j + 1) * 4 + 3 = (pfC z).length + (j * 4 + 3) := by simp; omega
    have hs : ∀ (l m : List Value) (i : Nat) (u : Value), (l ++ m).set (l.length + i) u = l ++ m.set i u := fun l m i u => by
      rw [List.set_append_right _ _ (by omega)]
      congr 2
      omega
    simp only [List.set_cons_succ, pfV, List.map_cons, List.flatten_cons] at ih ⊢
    rw [ih, e1, e2, e3, hs, hs, hs]
section
variable {w w' : World} {B r : Nat} {U Z Zf : Nat → Prop} {v : Value} {s s2 : Ps} {G : List Pf} {p : ByteArray} {x f : Pf}
/-- A file of the row is written over. -/
theorem RfP.turn {g n c j : Nat} {x y : Pf} (h : RfP w B r Z (.slice (some ⟨g, 0, none⟩) n c) s G) (hj : G[j]? = some x) (hp : y.p = x.p) (hn : G.length = n) (hrow : w'.ownsRow B 99 4 (.slice (some ⟨g, 0, none⟩) n c) n ((((pfV G).set (j * 4 + 1) y.v).set (j * 4 + 2) (.int .i64 y.sy)).set (j * 4 + 3) (.bool y.fi))) (hvol : Vol (fun b => b = g) w w') (hy : ByP w Z y) :
    RfP w' B r Z (.slice (some ⟨g, 0, none⟩) n c) s (G.set j y) ∧ Vol Z w w' := by
  have hrow0 := h.row
  have hne : ∀ b cur, w.heap[b]? = some (.cells cur 5 (0, 0)) → b ≠ g := fun b cur hb e => by
    subst e
    rcases hrow0.2 with ⟨e1, -⟩ | ⟨g', cap', cur', e1, -, hh, -⟩
    · cases e1
    · injection e1 with e1
      injection e1 with e1
      injection e1 with e1
      subst e1
      rw [hh] at hb
      injection hb with hb
      injection hb with _ hb
      exact absurd hb (by decide)
  refine ⟨⟨blk_vol h.blk hvol (fun e => own_blk_ne h.row h.blk (by decide) (by rw [e]; rfl)), by rw [List.length_set, hn, pfV_set hj hp]; exact hrow, fun k z hz => ?_, h.zr, fun b hb => Nat.lt_of_lt_of_le (h.lt b hb) hvol.size, h.ge⟩, hvol.mono (fun b e => by rw [e]; exact h.zr.2 g rfl)⟩
  have key : ByP w Z z := by
    rw [List.getElem?_set] at hz
    split at hz
    · split at hz
      · injection hz with hz
        subst hz
        exact hy
      · cases hz
    · exact h.byt k z hz
  exact key.keep fun g' cur _ hc => hvol.block g' (Array.getElem?_eq_some_iff.1 hc).1 (hne g' cur hc)
end
end Go.Proofs.Ytplmfmcogbdpjaa.Dk
namespace Go.Proofs.Ytplmfmcogbdpjaa.Dk
open Go Go.RowKit Go.Proofs.Ytplmfmcogbdpjaa Go.Proofs.Ytplmfmcogbdpjaa.Crw Go.Proofs.Ytplmfmcogbdpjaa.Vl Go.ChangeShapes Go.WideShapes Go.ChangeAt
set_option linter.unusedVariables false
set_option maxRecDepth 100000
abbrev RfT (w0 : World) (B r : Nat) (Z : Nat → Prop) (v : Value) (s : Ps) (G : List Pf) (wa : World) : Prop :=
  wa.cell? ⟨r, 0, none⟩ = some v ∧ (RfP wa B r Z v s G ∧ Below w0.heap.size w0 wa)
section
variable {w w' : World} {B r : Nat} {U Z Zf : Nat → Prop} {v : Value} {s s2 : Ps} {G : List Pf} {p : ByteArray} {x f : Pf}
theorem rt_keep {w0 wa wb : World} (k : RfT w0 B r Z v s G wa) (hb : Below wa.heap.size wa wb) : RfT w0 B r Z v s G wb :=
  ⟨(k.2.1.below hb).blk.cell 0, k.2.1.below hb, k.2.2.trans (hb.mono k.2.2.size)⟩
theorem rt_drew {w0 wa : World} (k : RfT w0 B r Z v s G wa) : RfT w0 B r Z v s G wa.drew := rt_keep k (Below.refl _ _).drew
set_option maxHeartbeats 4000000 in
theorem RSync_dead  (h : RfP w B r Z v s G) (hd : s.de = true) :
    Calls Try.prog 52 #[.pointer (some ⟨r, 0, none⟩), .string p] w fun e w' => e = .returned (.int .i64 7) ∧ Below w.heap.size w w' := by
  have HB := Lib.hid (fun (g : Nat) (wz : World) (hb : Below w.heap.size w wz) (hg : Blk wz g 9 #[.string p]) => Begin_dead (A := some ⟨g, 0, none⟩) (n := 1) (c := 1) (h.below hb) hd)
  have HG := Lib.hid (show Blk (w.alloc (.cells #[.string p] 9)) w.heap.size 9 #[.string p] from Blk.new _ _ _)
  have hA : Below w.heap.size w (w.alloc (.cells #[.string p] 9)) := (Below.refl _ _).alloc (Nat.le_refl _) _
  clear h
  go_enter Try.func52, Try.ntmps52
  go_wp2_with fail
  refine (HB.out _ _ hA HG.out).mono ?_
  rintro e w1 ⟨rfl, hb⟩
  go_wp2_with fail
  go_ret
  exact ⟨rfl, hA.trans (hb.mono hA.size)⟩
set_option maxHeartbeats 4000000 in
theorem RSync_arg  (h : RfP w B r Z v s G) (hd : s.de = false) (hp : p.toList.isEmpty = true) :
    Calls Try.prog 52 #[.pointer (some ⟨r, 0, none⟩), .string p] w fun e w' => e = .returned (.int .i64 1) ∧ Below w.heap.size w w' := by
  have HB := Lib.hid (fun (g : Nat) (wz : World) (hb : Below w.heap.size w wz) (hg : Blk wz g 9 #[.string p]) => Begin_arg (c := 1) (h.below hb) hd hg hp)
  have HG := Lib.hid (show Blk (w.alloc (.cells #[.string p] 9)) w.heap.size 9 #[.string p] from Blk.new _ _ _)
  have hA : Below w.heap.size w (w.alloc (.cells #[.string p] 9)) := (Below.refl _ _).alloc (Nat.le_refl _) _
  clear h
  go_enter Try.func52, Try.ntmps52
  go_wp2_with fail
  refine (HB.out _ _ hA HG.out).mono ?_
  rintro e w1 ⟨rfl, hb⟩
  go_wp2_with fail
  go_ret
  exact ⟨rfl, hA.trans (hb.mono hA.size)⟩
set_option maxHeartbeats 4000000 in
theorem RSync_none  (h : RfP w B r Z v s G) (hd : s.de = false) (hp : p.toList.isEmpty = false) (hno : ∀ (i : Nat) (y : Pf), G[i]? = some y → (y.p.toList == p.toList) = false) (hG : G.length ≤ 1000) :
    Calls Try.prog 52 #[.pointer (some ⟨r, 0, none⟩), .string p] w fun e w' => e = .returned (.int .i64 3) ∧ Below w.heap.size w w' := by
  have HB := Lib.hid (fun (g : Nat) (wz : World) (hb : Below w.heap.size w wz) (hg : Blk wz g 9 #[.string p]) => Begin_none (c := 1) (h.below hb) hd hg hp hno hG)
  have HG := Lib.hid (show Blk (w.alloc (.cells #[.string p] 9)) w.heap.size 9 #[.string p] from Blk.new _ _ _)
  have hA : Below w.heap.size w (w.alloc (.cells #[.string p] 9)) := (Below.refl _ _).alloc (Nat.le_refl _) _
  clear h
  go_enter Try.func52, Try.ntmps52
  go_wp2_with fail
  refine (HB.out _ _ hA HG.out).mono ?_
  rintro e w1 ⟨rfl, hb⟩
  go_wp2_with fail
  go_ret
  exact ⟨rfl, hA.trans (hb.mono hA.size)⟩
set_option maxHeartbeats 4000000 in
theorem RCut_dead {n : Int} (h : RfP w B r Z v s G) (hd : s.de = true) :
    Calls Try.prog 54 #[.pointer (some ⟨r, 0, none⟩), .string p, .int .i64 n] w fun e w' => e = .returned (.int .i64 7) ∧ Below w.heap.size w w' := by
  have HB := Lib.hid (fun (g : Nat) (wz : World) (hb : Below w.heap.size w wz) (hg : Blk wz g 9 #[.string p]) => Begin_dead (A := some ⟨g, 0, none⟩) (n := 1) (c := 1) (h.below hb) hd)
  have HG := Lib.hid (show Blk (w.alloc (.cells #[.string p] 9)) w.heap.size 9 #[.string p] from Blk.new _ _ _)
  have hA : Below w.heap.size w (w.alloc (.cells #[.string p] 9)) := (Below.refl _ _).alloc (Nat.le_refl _) _
  clear h
  go_enter Try.func54, Try.ntmps54
  go_wp2_with fail
  refine (HB.out _ _ hA HG.out).mono ?_
  rintro e w1 ⟨rfl, hb⟩
  go_wp2_with fail
  go_ret
  exact ⟨rfl, hA.trans (hb.mono hA.size)⟩
set_option maxHeartbeats 4000000 in
theorem RCut_arg {n : Int} (h : RfP w B r Z v s G) (hd : s.de = false) (hp : p.toList.isEmpty = true) :
    Calls Try.prog 54 #[.pointer (some ⟨r, 0, none⟩), .string p, .int .i64 n] w fun e w' => e = .returned (.int .i64 1) ∧ Below w.heap.size w w' := by
  have HB := Lib.hid (fun (g : Nat) (wz : World) (hb : Below w.heap.size w wz) (hg : Blk wz g 9 #[.string p]) => Begin_arg (c := 1) (h.below hb) hd hg hp)
  have HG := Lib.hid (show Blk (w.alloc (.cells #[.string p] 9)) w.heap.size 9 #[.string p] from Blk.new _ _ _)
  have hA : Below w.heap.size w (w.alloc (.cells #[.string p] 9)) := (Below.refl _ _).alloc (Nat.le_refl _) _
  clear h
  go_enter Try.func54, Try.ntmps54
  go_wp2_with fail
  refine (HB.out _ _ hA HG.out).mono ?_
  rintro e w1 ⟨rfl, hb⟩
  go_wp2_with fail
  go_ret
  exact ⟨rfl, hA.trans (hb.mono hA.size)⟩
set_option maxHeartbeats 4000000 in
theorem RCut_none {n : Int} (h : RfP w B r Z v s G) (hd : s.de = false) (hp : p.toList.isEmpty = false) (hno : ∀ (i : Nat) (y : Pf), G[i]? = some y → (y.p.toList == p.toList) = false) (hG : G.length ≤ 1000) :
    Calls Try.prog 54 #[.pointer (some ⟨r, 0, none⟩), .string p, .int .i64 n] w fun e w' => e = .returned (.int .i64 3) ∧ Below w.heap.size w w' := by
  have HB := Lib.hid (fun (g : Nat) (wz : World) (hb : Below w.heap.size w wz) (hg : Blk wz g 9 #[.string p]) => Begin_none (c := 1) (h.below hb) hd hg hp hno hG)
  have HG := Lib.hid (show Blk (w.alloc (.cells #[.string p] 9)) w.heap.size 9 #[.string p] from Blk.new _ _ _)
  have hA : Below w.heap.size w (w.alloc (.cells #[.string p] 9)) := (Below.refl _ _).alloc (Nat.le_refl _) _
  clear h
  go_enter Try.func54, Try.ntmps54
  go_wp2_with fail
  refine (HB.out _ _ hA HG.out).mono ?_
  rintro e w1 ⟨rfl, hb⟩
  go_wp2_with fail
  go_ret
  exact ⟨rfl, hA.trans (hb.mono hA.size)⟩
set_option maxHeartbeats 4000000 in
theorem RSync_stop (h : RfP w B r Z v s G) (hd : s.de = false) (hp : p.toList.isEmpty = false) {j : Nat} {x : Pf} (hj : G[j]? = some x) (hx : x.p = p) (hno : ∀ (i : Nat) (y : Pf), i < j → G[i]? = some y → (y.p.toList == p.toList) = false) (hG : G.length ≤ 1000) (hN : -1000000 ≤ s.n ∧ s.n ≤ 1000000) (hs : stopS s s2 true) :
    Calls Try.prog 52 #[.pointer (some ⟨r, 0, none⟩), .string p] w fun e w' => e = .returned (.int .i64 7) ∧ RfP w' B r Z v s2 G ∧ Vol Z w w' := by
  have HB := Lib.hid (fun (g : Nat) (wz : World) (hb : Below w.heap.size w wz) (hg : Blk wz g 9 #[.string p]) => Begin_ok (c := 1) (h.below hb) hd hg hp hj hx hno hG)
  have HG := Lib.hid (show Blk (w.alloc (.cells #[.string p] 9)) w.heap.size 9 #[.string p] from Blk.new _ _ _)
  have hA : Below w.heap.size w (w.alloc (.cells #[.string p] 9)) := (Below.refl _ _).alloc (Nat.le_refl _) _
  have HH := Lib.hid (And.intro h hs)
  clear h hs hj hno hx
  go_enter Try.func52, Try.ntmps52
  go_wp2_with fail
  refine (HB.out _ _ hA HG.out).mono ?_
  rintro e w1 ⟨rfl, hb⟩
  have hb1 : Below w.heap.size w w1 := hA.trans (hb.mono hA.size)
  have HB1 := Lib.hid hb1
  clear hb hb1
  go_wp2_with fail
  refine (Stops_p (HH.out.1.below HB1.out) HH.out.2 hN).mono ?_
  rintro e w2 ⟨rfl, hR2, hV2⟩
  go_wp2_with fail
  go_ret
  exact ⟨rfl, hR2, (Vol.of_below HB1.out).trans hV2 fun b hb => .inl hb⟩
set_option maxHeartbeats 8000000 in
theorem RSync_ok (h : RfP w B r Z v s G) (hd : s.de = false) (hp : p.toList.isEmpty = false) {j : Nat} {x : Pf} (hj : G[j]? = some x) (hx : x.p = p) (hno : ∀ (i : Nat) (y : Pf), i < j → G[i]? = some y → (y.p.toList == p.toList) = false) (hG : G.length ≤ 1000) (hN : -1000000 ≤ s.n ∧ s.n ≤ 1000000) (hs : stopS s s2 false) (hxl : x.bs.length ≤ 1000000) :
    Calls Try.prog 52 #[.pointer (some ⟨r, 0, none⟩), .string p] w fun e w' => e = .returned (.int .i64 0) ∧ RfP w' B r Z v s2 (G.set j { x with sy := x.bs.length, fi := true }) ∧ Vol Z w w' := by
  have HB := Lib.hid (fun (g : Nat) (wz : World) (hb : Below w.heap.size w wz) (hg : Blk wz g 9 #[.string p]) => Begin_ok (c := 1) (h.below hb) hd hg hp hj hx hno hG)
  have HG := Lib.hid (show Blk (w.alloc (.cells #[.string p] 9)) w.heap.size 9 #[.string p] from Blk.new _ _ _)
  have hA : Below w.heap.size w (w.alloc (.cells #[.string p] 9)) := (Below.refl _ _).alloc (Nat.le_refl _) _
  obtain ⟨Av, cv, rfl, -, -⟩ := h.shape
  obtain ⟨gg, rfl, -⟩ := h.cells hj
  have HH := Lib.hid (And.intro h hs)
  have hAt := fun {wa w0 : World} (k : RfT w0 B r Z (.slice (some ⟨gg, 0, none⟩) G.length cv) s2 G wa) => At_yes k.2.1 hj hx hno hG
  have HJ := Lib.hid hj
  have hjG := (List.getElem?_eq_some_iff.1 hj).1
  have jG : (j : Int) < (G.length : Int) := by omega
  have j0 : (0 : Int) ≤ (j : Int) := by omega
  clear h hs hj hno
  go_enter Try.func52, Try.ntmps52
  go_wp2_with fail
  refine (HB.out _ _ hA HG.out).mono ?_
  rintro e w1 ⟨rfl, hb⟩
  have hb1 : Below w.heap.size w w1 := hA.trans (hb.mono hA.size)
  have HB1 := Lib.hid hb1
  clear hb hb1
  go_wp2_with fail
  refine (Stops_p (HH.out.1.below HB1.out) HH.out.2 hN).mono ?_
  rintro e w2 ⟨rfl, hR2, hV2⟩
  have HV2 := Lib.hid ((Vol.of_below HB1.out).trans hV2 fun b hb => .inl hb)
  have hS0 : RfT w2 B r Z (.slice (some ⟨gg, 0, none⟩) G.length cv) s2 G w2 := ⟨hR2.blk.cell 0, hR2, Below.refl _ _⟩
  clear hR2 hV2
  go_upto_region 6 with fail
  go_region_held3 (fun wa => wa.cell? ⟨r, 0, none⟩ = some (.slice (some ⟨gg, 0, none⟩) G.length cv) ∧ (RfP wa B r Z (.slice (some ⟨gg, 0, none⟩) G.length cv) s2 G ∧ Below w2.heap.size w2 wa)) (first | assumption | exact rt_keep (by assumption) (by assumption) | exact rt_keep (rt_drew (by assumption)) (by assumption) | exact rt_drew (by assumption)) (first | (go_at_call 74; refine (hAt (by first | assumption | exact rt_drew (by assumption))).mono ?_; rintro e wz ⟨rfl, hbz⟩))
  all_goals
    rename_i hHeld
    have hc := hHeld.2.1.cells HJ.out
    obtain ⟨g2, e2, -, k0, k1, k2, k3⟩ := hc
    injection e2 with e2
    injection e2 with e2
    subst e2
    have fz : ∀ i, wz.frozen? ⟨gg, i, none⟩ = false := fun i => hHeld.2.1.row.frozenAt i
    have f1 := fz (j * 4 + 1)
    have f2 := fz (j * 4 + 2)
    have f3 := fz (j * 4 + 3)
    have HHe := Lib.hid hHeld
    clear hHeld fz hAt hS0 k0
    go_wp2_with fail
    go_ret
    have hR := HHe.out.2.1
    have hv : Vol (fun b => b = gg) wz ((wz.setCell ⟨gg, j * 4 + 2, none⟩ (.int .i64 (x.bs.length : Nat))).setCell ⟨gg, j * 4 + 3, none⟩ (.bool true)) := ((Vol.refl wz).setCell (V := fun b => b = gg) (a := ⟨gg, j * 4 + 2, none⟩) (.inl rfl) _).setCell (a := ⟨gg, j * 4 + 3, none⟩) (.inl rfl) _
    have hrow := own_cellP (i := j * 4 + 3) (u := .bool true) (own_cellP (i := j * 4 + 2) (u := .int .i64 (x.bs.length : Nat)) hR.row)
    have hset : (pfV G).set (j * 4 + 1) x.v = pfV G := by
      have h1 := pfV_get (j := 1) HJ.out (by omega)
      exact List.ext_getElem? fun i => by
        rw [List.getElem?_set]
        split
        · rename_i e
          subst e
          have h2 : j * 4 + 1 < (pfV G).length := (List.getElem?_eq_some_iff.1 h1).1
          rw [if_pos h2, h1]
          rfl
        · rfl
    have hT := hR.turn (y := { x with sy := x.bs.length, fi := true }) HJ.out rfl rfl (by rw [show ({ x with sy := (x.bs.length : Int), fi := true } : Pf).v = x.v from rfl, hset]; exact hrow) hv (hR.byt j x HJ.out)
    exact ⟨rfl, by first | exact hT.1 | simpa only [hx] using hT.1, (HV2.out.below HHe.out.2.2).trans hT.2 fun b hb => .inl hb⟩
set_option maxHeartbeats 8000000 in
theorem RCut_bad {n : Int} (h : RfP w B r Z v s G) (hd : s.de = false) (hp : p.toList.isEmpty = false) {j : Nat} {x : Pf} (hj : G[j]? = some x) (hx : x.p = p) (hno : ∀ (i : Nat) (y : Pf), i < j → G[i]? = some y → (y.p.toList == p.toList) = false) (hG : G.length ≤ 1000) (hN : -1000000 ≤ s.n ∧ s.n ≤ 1000000) (hn : n < 0 ∨ (x.bs.length : Int) < n) (hxl : x.bs.length ≤ 1000000) :
    Calls Try.prog 54 #[.pointer (some ⟨r, 0, none⟩), .string p, .int .i64 n] w fun e w' => e = .returned (.int .i64 1) ∧ Below w.heap.size w w' := by
  have HB := Lib.hid (fun (g : Nat) (wz : World) (hb : Below w.heap.size w wz) (hg : Blk wz g 9 #[.string p]) => Begin_ok (c := 1) (h.below hb) hd hg hp hj hx hno hG)
  have HG := Lib.hid (show Blk (w.alloc (.cells #[.string p] 9)) w.heap.size 9 #[.string p] from Blk.new _ _ _)
  have hA : Below w.heap.size w (w.alloc (.cells #[.string p] 9)) := (Below.refl _ _).alloc (Nat.le_refl _) _
  obtain ⟨Av, cv, rfl, -, -⟩ := h.shape
  obtain ⟨gg, rfl, -⟩ := h.cells hj
  have HH := Lib.hid (And.intro h True.intro)
  have hAt := fun {wa w0 : World} (k : RfT w0 B r Z (.slice (some ⟨gg, 0, none⟩) G.length cv) s G wa) => At_yes k.2.1 hj hx hno hG
  have HJ := Lib.hid hj
  have hjG := (List.getElem?_eq_some_iff.1 hj).1
  have jG : (j : Int) < (G.length : Int) := by omega
  have j0 : (0 : Int) ≤ (j : Int) := by omega
  clear h hj hno
  go_enter Try.func54, Try.ntmps54
  go_wp2_with fail
  refine (HB.out _ _ hA HG.out).mono ?_
  rintro e w1 ⟨rfl, hb⟩
  have hb1 : Below w.heap.size w w1 := hA.trans (hb.mono hA.size)
  have HB1 := Lib.hid hb1
  clear hb hb1
  have hR1 := HH.out.1.below HB1.out
  have hS0 : RfT w1 B r Z (.slice (some ⟨gg, 0, none⟩) G.length cv) s G w1 := ⟨hR1.blk.cell 0, hR1, Below.refl _ _⟩
  clear hR1
  rcases hn with hn | hn
  · go_upto_region 4 with fail
    go_region_held3 (fun wa => wa.cell? ⟨r, 0, none⟩ = some (.slice (some ⟨gg, 0, none⟩) G.length cv) ∧ (RfP wa B r Z (.slice (some ⟨gg, 0, none⟩) G.length cv) s G ∧ Below w1.heap.size w1 wa)) (first | assumption | exact rt_keep (by assumption) (by assumption) | exact rt_keep (rt_drew (by assumption)) (by assumption) | exact rt_drew (by assumption)) (first | (go_at_call 74; refine (hAt (by first | assumption | exact rt_drew (by assumption))).mono ?_; rintro e wz ⟨rfl, hbz⟩))
    all_goals
      rename_i hHeld
      have hc := hHeld.2.1.cells HJ.out
      obtain ⟨g2, e2, -, k0, k1, k2, k3⟩ := hc
      injection e2 with e2
      injection e2 with e2
      subst e2
      have fz : ∀ i, wz.frozen? ⟨gg, i, none⟩ = false := fun i => hHeld.2.1.row.frozenAt i
      have f1 := fz (j * 4 + 1)
      have f2 := fz (j * 4 + 2)
      have f3 := fz (j * 4 + 3)
      have HHe := Lib.hid hHeld
      clear hHeld fz hAt hS0 k0
      go_wp2_with fail
      go_ret
      exact ⟨rfl, HB1.out.trans (HHe.out.2.2.mono HB1.out.size)⟩
  · have hn0 : ¬ n < 0 := by omega
    go_upto_region 4 with fail
    go_region_held3 (fun wa => wa.cell? ⟨r, 0, none⟩ = some (.slice (some ⟨gg, 0, none⟩) G.length cv) ∧ (RfP wa B r Z (.slice (some ⟨gg, 0, none⟩) G.length cv) s G ∧ Below w1.heap.size w1 wa)) (first | assumption | exact rt_keep (by assumption) (by assumption) | exact rt_keep (rt_drew (by assumption)) (by assumption) | exact rt_drew (by assumption)) (first | (go_at_call 74; refine (hAt (by first | assumption | exact rt_drew (by assumption))).mono ?_; rintro e wz ⟨rfl, hbz⟩))
    all_goals
      rename_i hHeld
      have hc := hHeld.2.1.cells HJ.out
      obtain ⟨g2, e2, -, k0, k1, k2, k3⟩ := hc
      injection e2 with e2
      injection e2 with e2
      subst e2
      have fz : ∀ i, wz.frozen? ⟨gg, i, none⟩ = false := fun i => hHeld.2.1.row.frozenAt i
      have f1 := fz (j * 4 + 1)
      have f2 := fz (j * 4 + 2)
      have f3 := fz (j * 4 + 3)
      have HHe := Lib.hid hHeld
      clear hHeld fz hAt hS0 k0
      go_wp2_with fail
      go_ret
      exact ⟨rfl, HB1.out.trans (HHe.out.2.2.mono HB1.out.size)⟩
set_option maxHeartbeats 8000000 in
theorem RCut_stop {n : Nat} (h : RfP w B r Z v s G) (hd : s.de = false) (hp : p.toList.isEmpty = false) {j : Nat} {x : Pf} (hj : G[j]? = some x) (hx : x.p = p) (hno : ∀ (i : Nat) (y : Pf), i < j → G[i]? = some y → (y.p.toList == p.toList) = false) (hG : G.length ≤ 1000) (hN : -1000000 ≤ s.n ∧ s.n ≤ 1000000) (hs : stopS s s2 true) (hn : n ≤ x.bs.length) (hxl : x.bs.length ≤ 1000000) :
    Calls Try.prog 54 #[.pointer (some ⟨r, 0, none⟩), .string p, .int .i64 (n : Int)] w fun e w' => e = .returned (.int .i64 7) ∧ RfP w' B r Z v s2 G ∧ Vol Z w w' := by
  have HB := Lib.hid (fun (g : Nat) (wz : World) (hb : Below w.heap.size w wz) (hg : Blk wz g 9 #[.string p]) => Begin_ok (c := 1) (h.below hb) hd hg hp hj hx hno hG)
  have HG := Lib.hid (show Blk (w.alloc (.cells #[.string p] 9)) w.heap.size 9 #[.string p] from Blk.new _ _ _)
  have hA : Below w.heap.size w (w.alloc (.cells #[.string p] 9)) := (Below.refl _ _).alloc (Nat.le_refl _) _
  obtain ⟨Av, cv, rfl, -, -⟩ := h.shape
  obtain ⟨gg, rfl, -⟩ := h.cells hj
  have HH := Lib.hid (And.intro h hs)
  have hAt := fun {wa w0 : World} (k : RfT w0 B r Z (.slice (some ⟨gg, 0, none⟩) G.length cv) s G wa) => At_yes k.2.1 hj hx hno hG
  have HJ := Lib.hid hj
  have hjG := (List.getElem?_eq_some_iff.1 hj).1
  have jG : (j : Int) < (G.length : Int) := by omega
  have j0 : (0 : Int) ≤ (j : Int) := by omega
  clear h hs hj hno
  go_enter Try.func54, Try.ntmps54
  go_wp2_with fail
  refine (HB.out _ _ hA HG.out).mono ?_
  rintro e w1 ⟨rfl, hb⟩
  have hb1 : Below w.heap.size w w1 := hA.trans (hb.mono hA.size)
  have HB1 := Lib.hid hb1
  clear hb hb1
  have hn0 : ¬ (n : Int) < 0 := by omega
  have hn1 : ¬ (x.bs.length : Int) < (n : Int) := by omega
  have hR1 := HH.out.1.below HB1.out
  have hS0 : RfT w1 B r Z (.slice (some ⟨gg, 0, none⟩) G.length cv) s G w1 := ⟨hR1.blk.cell 0, hR1, Below.refl _ _⟩
  clear hR1
  go_upto_region 4 with fail
  go_region_held3 (fun wa => wa.cell? ⟨r, 0, none⟩ = some (.slice (some ⟨gg, 0, none⟩) G.length cv) ∧ (RfP wa B r Z (.slice (some ⟨gg, 0, none⟩) G.length cv) s G ∧ Below w1.heap.size w1 wa)) (first | assumption | exact rt_keep (by assumption) (by assumption) | exact rt_keep (rt_drew (by assumption)) (by assumption) | exact rt_drew (by assumption)) (first | (go_at_call 74; refine (hAt (by first | assumption | exact rt_drew (by assumption))).mono ?_; rintro e wz ⟨rfl, hbz⟩))
  all_goals
    rename_i hHeld
    have hc := hHeld.2.1.cells HJ.out
    obtain ⟨g2, e2, -, k0, k1, k2, k3⟩ := hc
    injection e2 with e2
    injection e2 with e2
    subst e2
    have fz : ∀ i, wz.frozen? ⟨gg, i, none⟩ = false := fun i => hHeld.2.1.row.frozenAt i
    have f1 := fz (j * 4 + 1)
    have f2 := fz (j * 4 + 2)
    have f3 := fz (j * 4 + 3)
    have HHe := Lib.hid hHeld
    clear hHeld fz hAt hS0 k0
    go_wp2_with fail
    refine (Stops_p HHe.out.2.1 HH.out.2 hN).mono ?_
    rintro e w3 ⟨rfl, hR3, hV3⟩
    have HE := Lib.hid (And.intro hR3 hV3)
    clear hR3 hV3
    go_wp2_with fail
    go_ret
    exact ⟨rfl, HE.out.1, (Vol.of_below (HB1.out.trans (HHe.out.2.2.mono HB1.out.size))).trans HE.out.2 fun b hb => .inl hb⟩
set_option maxHeartbeats 8000000 in
theorem RCut_ok {n : Nat} (h : RfP w B r Z v s G) (hd : s.de = false) (hp : p.toList.isEmpty = false) {j : Nat} {x : Pf} (hj : G[j]? = some x) (hx : x.p = p) (hno : ∀ (i : Nat) (y : Pf), i < j → G[i]? = some y → (y.p.toList == p.toList) = false) (hG : G.length ≤ 1000) (hN : -1000000 ≤ s.n ∧ s.n ≤ 1000000) (hs : stopS s s2 false) (hn : n ≤ x.bs.length) (hxl : x.bs.length ≤ 1000000) :
    Calls Try.prog 54 #[.pointer (some ⟨r, 0, none⟩), .string p, .int .i64 (n : Int)] w fun e w' => e = .returned (.int .i64 0) ∧ (∃ y : Pf, RfP w' B r Z v s2 (G.set j y) ∧ y.p = p ∧ y.bs = x.bs.take n ∧ y.sy = n ∧ y.fi = true) ∧ Vol Z w w' := by
  have HB := Lib.hid (fun (g : Nat) (wz : World) (hb : Below w.heap.size w wz) (hg : Blk wz g 9 #[.string p]) => Begin_ok (c := 1) (h.below hb) hd hg hp hj hx hno hG)
  have HG := Lib.hid (show Blk (w.alloc (.cells #[.string p] 9)) w.heap.size 9 #[.string p] from Blk.new _ _ _)
  have hA : Below w.heap.size w (w.alloc (.cells #[.string p] 9)) := (Below.refl _ _).alloc (Nat.le_refl _) _
  obtain ⟨Av, cv, rfl, -, -⟩ := h.shape
  obtain ⟨gg, rfl, -⟩ := h.cells hj
  have HH := Lib.hid (And.intro h hs)
  have hAt := fun {wa w0 : World} (k : RfT w0 B r Z (.slice (some ⟨gg, 0, none⟩) G.length cv) s G wa) => At_yes k.2.1 hj hx hno hG
  have HJ := Lib.hid hj
  have hjG := (List.getElem?_eq_some_iff.1 hj).1
  have jG : (j : Int) < (G.length : Int) := by omega
  have j0 : (0 : Int) ≤ (j : Int) := by omega
  clear h hs hj hno
  go_enter Try.func54, Try.ntmps54
  go_wp2_with fail
  refine (HB.out _ _ hA HG.out).mono ?_
  rintro e w1 ⟨rfl, hb⟩
  have hb1 : Below w.heap.size w w1 := hA.trans (hb.mono hA.size)
  have HB1 := Lib.hid hb1
  clear hb hb1
  have hn0 : ¬ (n : Int) < 0 := by omega
  have hn1 : ¬ (x.bs.length : Int) < (n : Int) := by omega
  have hR1 := HH.out.1.below HB1.out
  have hS0 : RfT w1 B r Z (.slice (some ⟨gg, 0, none⟩) G.length cv) s G w1 := ⟨hR1.blk.cell 0, hR1, Below.refl _ _⟩
  clear hR1
  go_upto_region 4 with fail
  go_region_held3 (fun wa => wa.cell? ⟨r, 0, none⟩ = some (.slice (some ⟨gg, 0, none⟩) G.length cv) ∧ (RfP wa B r Z (.slice (some ⟨gg, 0, none⟩) G.length cv) s G ∧ Below w1.heap.size w1 wa)) (first | assumption | exact rt_keep (by assumption) (by assumption) | exact rt_keep (rt_drew (by assumption)) (by assumption) | exact rt_drew (by assumption)) (first | (go_at_call 74; refine (hAt (by first | assumption | exact rt_drew (by assumption))).mono ?_; rintro e wz ⟨rfl, hbz⟩))
  all_goals
    rename_i hHeld
    have hc := hHeld.2.1.cells HJ.out
    obtain ⟨g2, e2, -, k0, k1, k2, k3⟩ := hc
    injection e2 with e2
    injection e2 with e2
    subst e2
    have fz : ∀ i, wz.frozen? ⟨gg, i, none⟩ = false := fun i => hHeld.2.1.row.frozenAt i
    have f1 := fz (j * 4 + 1)
    have f2 := fz (j * 4 + 2)
    have f3 := fz (j * 4 + 3)
    have HHe := Lib.hid hHeld
    clear hHeld fz hAt hS0 k0
    go_wp2_with fail
    refine (Stops_p HHe.out.2.1 HH.out.2 hN).mono ?_
    rintro e w3 ⟨rfl, hR3, hV3⟩
    have HE := Lib.hid (And.intro hR3 hV3)
    obtain ⟨g3, e3, -, k0, k1, k2, k3⟩ := hR3.cells HJ.out
    injection e3 with e3
    injection e3 with e3
    subst e3
    have fz : ∀ i, w3.frozen? ⟨gg, i, none⟩ = false := fun i => hR3.row.frozenAt i
    have f1 := fz (j * 4 + 1)
    have f2 := fz (j * 4 + 2)
    have f3 := fz (j * 4 + 3)
    have hby := hR3.byt j x HJ.out
    have hnc : n ≤ x.c := Nat.le_trans hn hby.1
    have hnci : (n : Int) ≤ (x.c : Int) := by omega
    have HBY := Lib.hid hby
    clear hR3 hV3 fz hby k0
    go_wp2_with fail
    go_ret
    have hR := HE.out.1
    have hl : (x.bs.take n).length = n := by rw [List.length_take]; omega
    have hv : Vol (fun b => b = gg) w3 (((w3.setCell ⟨gg, j * 4 + 1, none⟩ (.slice x.A n n)).setCell ⟨gg, j * 4 + 2, none⟩ (.int .i64 (n : Nat))).setCell ⟨gg, j * 4 + 3, none⟩ (.bool true)) := (((Vol.refl w3).setCell (V := fun b => b = gg) (a := ⟨gg, j * 4 + 1, none⟩) (.inl rfl) _).setCell (a := ⟨gg, j * 4 + 2, none⟩) (.inl rfl) _).setCell (a := ⟨gg, j * 4 + 3, none⟩) (.inl rfl) _
    have hrow := own_cellP (i := j * 4 + 3) (u := .bool true) (own_cellP (i := j * 4 + 2) (u := .int .i64 (n : Nat)) (own_cellP (i := j * 4 + 1) (u := .slice x.A n n) hR.row))
    have hbyy : ByP w3 Z ⟨x.p, x.A, n, x.bs.take n, n, true⟩ := by
      obtain ⟨h1, h2, h3⟩ := HBY.out
      refine ⟨by simp only; omega, by simp only; unfold maxLen at h2 ⊢; omega, fun hp => ?_⟩
      simp only [hl] at hp ⊢
      obtain ⟨g, cur, e1, e2, e4, e5⟩ := h3 (by omega)
      refine ⟨g, cur, e1, e2, e4, ?_⟩
      have h6 := congrArg (List.take n) e5
      rw [List.take_take, Nat.min_eq_left hn] at h6
      rw [h6, bsV, bsV, List.map_take]
    have hT := hR.turn (y := ⟨x.p, x.A, n, x.bs.take n, n, true⟩) HJ.out rfl rfl (by rw [show (⟨x.p, x.A, n, x.bs.take n, n, true⟩ : Pf).v = .slice x.A n n by unfold Pf.v; rw [hl]]; exact hrow) hv hbyy
    exact ⟨rfl, ⟨_, hT.1, hx, rfl, rfl, rfl⟩, ((Vol.of_below (HB1.out.trans (HHe.out.2.2.mono HB1.out.size))).trans HE.out.2 fun b hb => .inl hb).trans hT.2 fun b hb => .inl hb⟩
end
end Go.Proofs.Ytplmfmcogbdpjaa.Dk
namespace Go.Proofs.Ytplmfmcogbdpjaa.Dk
open Go Go.RowKit Go.Proofs.Ytplmfmcogbdpjaa Go.Proofs.Ytplmfmcogbdpjaa.Crw Go.Proofs.Ytplmfmcogbdpjaa.Vl Go.ChangeShapes Go.WideShapes Go.ChangeAt
set_option linter.unusedVariables false
set_option maxRecDepth 100000
abbrev Pf.sh (x : Pf) : Sh := ⟨x.p, x.bs, x.sy, x.fi⟩
/-- What a crash that keeps K leaves of a file of the plain disk. -/
def crR (K : Nat) (y : Sh) : Option Sh := if y.n K = 0 ∧ y.fi = false then none else some ⟨y.p, y.bs.take (y.n K), y.n K, true⟩
def CrJ (w : World) (B r : Nat) (Z : Nat → Prop) (s : Ps) (G : List Pf) (v : Value) (n K i : Nat) (vo vi : Value) (wr : World) : Prop :=
  ∃ (L : List Pf), i ≤ n ∧ vi = .int .i64 i ∧ wr.ownsRow w.heap.size 99 4 vo L.length (pfV L) ∧ L.length ≤ i ∧ L.map Pf.sh = ((G.take i).map Pf.sh).filterMap (crR K) ∧ (∀ (k : Nat) (x : Pf), L[k]? = some x → ByP wr (fun b => w.heap.size ≤ b ∧ b < wr.heap.size) x) ∧ Below w.heap.size w wr ∧ ∃ w7, w7 = wr
section
variable {w w' : World} {B r : Nat} {U Z Zf : Nat → Prop} {v : Value} {s s2 : Ps} {G : List Pf} {p : ByteArray} {x f : Pf}
set_option maxHeartbeats 16000000 in
theorem RCrash (h : RfP w B r Z v s G) (hG : G.length ≤ 1000) (hok : ∀ y ∈ G, 0 ≤ y.sy ∧ y.sy ≤ y.bs.length ∧ y.bs.length ≤ 1000000) (a : Int) (K : Nat) (hK : max a 0 = (K : Int)) (hKb : K ≤ 1000000) (hB : B ≤ w.heap.size) :
    Calls Try.prog 50 #[.pointer (some ⟨r, 0, none⟩), .int .i64 a] w fun e w' => (∃ u, e = .returned u) ∧ ∃ Z' v' G', RfP w' B r Z' v' { s with de := false, ar := false } G' ∧ G'.map Pf.sh = (G.map Pf.sh).filterMap (crR K) ∧ Vol Z w w' ∧ (∀ b, Z' b → Z b ∨ w.heap.size ≤ b) := by
  obtain ⟨i0, hinf, hz0, hz1, hz2⟩ := info_parts file_infoP
  obtain ⟨i1, hinf1, hy0, hy1, hy2⟩ := info_parts byte_infoD
  obtain ⟨A, c, rfl, -, -⟩ := h.shape
  have c0 : w.cell? ⟨r, 0, none⟩ = some (.slice A G.length c) := h.blk.cell 0
  have HR := Lib.hid h
  have HOk := Lib.hid hok
  obtain ⟨n, hn⟩ : ∃ n, n = G.length := ⟨_, rfl⟩
  rw [← hn] at c0 HR hG
  have HN := Lib.hid hn
  have HI0 := Lib.hid (show CrJ w B r Z s G (.slice A n c) n K 0 (.slice none 0 0) (.int .i64 0) w from ⟨[], Nat.zero_le _, rfl, ⟨by simp, .inl ⟨rfl, rfl⟩⟩, Nat.zero_le _, rfl, fun k x hx => by simp at hx, Below.refl _ _, _, rfl⟩)
  clear h hn hok
  go_enter Try.func50, Try.ntmps50
  go_wp2_with fail
  go_loopw [4, 13] (fun vo vi wr => Hid (∃ i, CrJ w B r Z s G (.slice A n c) n K i vo vi wr)) (fun _ vi _ => n - (intOf vi).toNat)
  case atStart => exact Lib.hid ⟨0, HI0.out⟩
  case round =>
    obtain ⟨i, L, hi, rfl, hown, hL, hsh, hby, hbel, wr, hwr⟩ := hrel.out
    subst hwr
    obtain ⟨Ao, co, rfl, -, -⟩ := own_slice hown
    have HO := Lib.hid hown
    have HSh := Lib.hid hsh
    have HBy := Lib.hid hby
    have HBe := Lib.hid hbel
    clear hrel hown hsh hby hbel HI0
    by_cases hin0 : i < n
    · have hin : (i : Int) < (n : Int) := by omega
      obtain ⟨x, hx⟩ : ∃ x, G[i]? = some x := ⟨_, List.getElem?_eq_getElem (by have := HN.out; omega)⟩
      have hRr := HR.out.below HBe.out
      obtain ⟨g, rfl, -, k0, k1, k2, k3⟩ := hRr.cells hx
      have hxb := hRr.byt i x hx
      obtain ⟨hs0, hs1, hs2⟩ := HOk.out x (List.mem_of_getElem? hx)
      have HX := Lib.hid hx
      obtain ⟨xp, xA, xc, xb, xs, xf⟩ := x
      simp only at hs0 hs1 hs2 hxb
      obtain ⟨m, hm⟩ : ∃ m, m = Sh.n K ⟨xp, xb, xs, xf⟩ := ⟨_, rfl⟩
      have hm1 : xs + min (K : Int) ((xb.length : Int) - xs) = (m : Int) := by rw [hm]; unfold Sh.n; simp only; omega
      have hml : m ≤ xb.length := by rw [hm]; unfold Sh.n; simp only; omega
      have hmc : m ≤ xc := Nat.le_trans hml hxb.1
      have hmci : (m : Int) ≤ (xc : Int) := by omega
      obtain ⟨wx, hwx⟩ : ∃ wx, wx = wr.alloc (.cells (pfC ⟨xp, xA, xc, xb, xs, xf⟩).toArray 99) := ⟨_, rfl⟩
      obtain ⟨bx, hbx⟩ : ∃ bx, bx = wr.heap.size := ⟨_, rfl⟩
      have hbxB : Blk wx bx 99 #[.string xp, .slice xA xb.length xc, .int .i64 xs, .bool xf] := by rw [hwx, hbx]; exact Blk.new _ _ _
      have hbw : Below wr.heap.size wr wx := by rw [hwx]; exact (Below.refl _ _).alloc (Nat.le_refl _) _
      have hrd : Reads wx wr.heap.size 1 xA m (bsV (xb.take m)) := by
        have h1 := reads_take (reads_belP hxb.reads (Nat.le_refl _) hbw) hml
        simpa [bsV, List.map_take] using h1
      have e0 : wr.alloc (Obj.cells #[.string xp, .slice xA xb.length xc, .int .i64 xs, .bool xf] 99) = wx := hwx.symm
      have d0 : wx.cell? ⟨bx, 0, none⟩ = some (.string xp) := hbxB.cell 0
      have d1 : wx.cell? ⟨bx, 1, none⟩ = some (.slice xA xb.length xc) := hbxB.cell 1
      have d2 : wx.cell? ⟨bx, 2, none⟩ = some (.int .i64 xs) := hbxB.cell 2
      have d3 : wx.cell? ⟨bx, 3, none⟩ = some (.bool xf) := hbxB.cell 3
      have HBXC := Lib.hid hbxB
      have HBW := Lib.hid hbw
      have HRD := Lib.hid hrd
      have HE0 := Lib.hid e0
      have HBXX := Lib.hid hbx
      have HM := Lib.hid hm
      have hlx := HBe.out.size
      have hlw := HBW.out.size
      clear hRr hxb hx hbxB hbw hwx e0 hbx hrd hm
      go_upto_region 4 with fail
      rw [HE0.out, ← HBXX.out]
      clear k0 k1 k2 k3 HE0
      go_upto_region 6 with (at_builtin; refine wpList_append_any _ rfl _ _ 28 rfl wx.heap.size 5 i1 (.int .u8 0) 1 1 Try.underlying28 hinf1 hy0 hy1 hy2 rfl (by decide) (.slice none 0 0) 0 [] rfl ⟨by simp, .inl ⟨rfl, rfl⟩⟩ wr.heap.size xA m xc (bsV (xb.take m)) (by first | rfl | (simp [Act.eval]; done)) HRD.out (bsV_one _) (by simp only [maxLen]; omega) (by omega) (Nat.le_refl _) ?_; intro v5 w5 hown hg _hne; clear _hne; simp only [Nat.zero_add, List.nil_append] at hown; obtain ⟨A5, c5, rfl, -, -⟩ := own_slice hown; have HO5 := Lib.hid hown; have hb5 := (Below.refl wx.heap.size wx).grown hg (Nat.le_refl _) (fun b hb => by cases hb); have HB5 := Lib.hid hb5; have hbx5 := HBXC.out.below hb5 HBXC.out.lt; have q1 : w5.cell? ⟨bx, 1, none⟩ = some (.slice xA xb.length xc) := hbx5.cell 1; have qf : w5.frozen? ⟨bx, 1, none⟩ = false := hbx5.frozen 1; clear hb5 hbx5 hown hg)
      obtain ⟨wy, hwy⟩ : ∃ wy, wy = w5.setCell ⟨bx, 1, none⟩ (.slice A5 m c5) := ⟨_, rfl⟩
      have hvy : Vol (fun b => b = bx) w5 wy := by rw [hwy]; exact Vol.setCell (V := fun b => b = bx) (a := ⟨bx, 1, none⟩) (Vol.refl w5) (.inl rfl) _
      have hbxy : Blk wy bx 99 #[.string xp, .slice A5 m c5, .int .i64 xs, .bool xf] := by
        rw [hwy]
        exact (HBXC.out.below HB5.out HBXC.out.lt).set_ 1 (.slice A5 m c5)
      have ewy := hwy.symm
      rw [ewy]
      have hbry : Below wr.heap.size wr wy := bel_volP (HBW.out.trans (HB5.out.mono hlw)) hvy (fun b e => by rw [e, HBXX.out]; exact Nat.le_refl _)
      have HBry := Lib.hid hbry
      have HO5y := Lib.hid (own_vol HO5.out hvy (fun b hb e => by have h1 := (HO5.out.lt b hb).1; have h2 := HBXC.out.lt; omega))
      have HBxy := Lib.hid hbxy
      have y0 : wy.cell? ⟨bx, 0, none⟩ = some (.string xp) := hbxy.cell 0
      have y1 : wy.cell? ⟨bx, 1, none⟩ = some (.slice A5 m c5) := hbxy.cell 1
      have y2 : wy.cell? ⟨bx, 2, none⟩ = some (.int .i64 xs) := hbxy.cell 2
      have y3 : wy.cell? ⟨bx, 3, none⟩ = some (.bool xf) := hbxy.cell 3
      have g2 : wy.frozen? ⟨bx, 2, none⟩ = false := hbxy.frozen 2
      have g3 : wy.frozen? ⟨bx, 3, none⟩ = false := hbxy.frozen 3
      clear d0 d1 d2 d3 q1 qf hvy hbxy ewy hwy hbry hm1
      have hsucc : Hid (∀ o, crR K ⟨xp, xb, xs, xf⟩ = o → ((G.take (i + 1)).map Pf.sh).filterMap (crR K) = L.map Pf.sh ++ o.toList) := Lib.hid (fun o ho => by
        rw [HSh.out, List.take_add_one, HX.out, List.map_append, List.filterMap_append]
        simp only [Option.toList_some, List.map_cons, List.map_nil, List.filterMap_cons, List.filterMap_nil, ho]
        cases o <;> rfl)
      by_cases hdrop : m = 0 ∧ xf = false
      · obtain ⟨hm0, rfl⟩ := hdrop
        have hmz : ((m : Int) == 0) = true := by simp; omega
        have hcr : crR K ⟨xp, xb, xs, false⟩ = none := by unfold crR; rw [if_pos ⟨by rw [← HM.out]; exact hm0, rfl⟩]
        have HCr := Lib.hid hcr
        clear hm0 hcr
        go_wp2_with fail
        go_roundw
        case rel =>
          have hs := hsucc.out none HCr.out
          refine Lib.hid ⟨i + 1, L, by omega, by go_num, own_keep HO.out HBry.out, by omega, by rw [hs]; simp, fun k x hx => ?_, HBe.out.trans (HBry.out.mono hlx), _, rfl⟩
          have h1 := HBy.out k x hx
          have h2 := HBry.out.size
          refine ⟨h1.1, h1.2.1, fun hp => ?_⟩
          obtain ⟨g', cur, e1, e2, e3, e4⟩ := h1.2.2 hp
          exact ⟨g', cur, e1, ⟨e2.1, by omega⟩, (HBry.out.block g' (Array.getElem?_eq_some_iff.1 e3).1).trans e3, e4⟩
        case measure => simp [intOf]; omega
      · have hcr : crR K ⟨xp, xb, xs, xf⟩ = some ⟨xp, xb.take m, m, true⟩ := by unfold crR; rw [← HM.out, if_neg hdrop]
        have HCr := Lib.hid hcr
        clear hcr
        have hway : (((m : Int) == 0) = false) ∨ (((m : Int) == 0) = true ∧ xf = true) := by
          rcases Nat.eq_zero_or_pos m with h | h
          · right
            refine ⟨by simp; omega, ?_⟩
            cases xf with
            | true => rfl
            | false => exact absurd ⟨h, rfl⟩ hdrop
          · left; simp; omega
        clear hdrop
        obtain ⟨wv, hwv⟩ : ∃ wv, wv = (wy.setCell ⟨bx, 2, none⟩ (.int .i64 (m : Nat))).setCell ⟨bx, 3, none⟩ (.bool true) := ⟨_, rfl⟩
        have hvv : Vol (fun b => b = bx) wy wv := by rw [hwv]; exact ((Vol.refl wy).setCell (V := fun b => b = bx) (a := ⟨bx, 2, none⟩) (.inl rfl) _).setCell (a := ⟨bx, 3, none⟩) (.inl rfl) _
        have hbxv : Blk wv bx 99 #[.string xp, .slice A5 m c5, .int .i64 (m : Nat), .bool true] := by
          rw [hwv]
          exact (HBxy.out.set_ 2 (.int .i64 (m : Nat))).set_ 3 (.bool true)
        have v0 : wv.cell? ⟨bx, 0, none⟩ = some (.string xp) := hbxv.cell 0
        have v1 : wv.cell? ⟨bx, 1, none⟩ = some (.slice A5 m c5) := hbxv.cell 1
        have v2 : wv.cell? ⟨bx, 2, none⟩ = some (.int .i64 (m : Nat)) := hbxv.cell 2
        have v3 : wv.cell? ⟨bx, 3, none⟩ = some (.bool true) := hbxv.cell 3
        have hbrv : Below wr.heap.size wr wv := bel_volP HBry.out hvv (fun b e => by rw [e, HBXX.out]; exact Nat.le_refl _)
        have HBrv := Lib.hid hbrv
        have HO5v := Lib.hid (own_vol HO5y.out hvv (fun b hb e => by have h1 := (HO5y.out.lt b hb).1; have h2 := HBXC.out.lt; omega))
        have hlv := hbrv.size
        have HWV := Lib.hid hwv.symm
        clear hwv hvv hbxv hbrv
        rcases hway with h0 | ⟨h0, rfl⟩
        all_goals
          go_upto_region 8 with fail
          rw [HWV.out]
          clear y0 y1 y2 y3 g2 g3
          go_wp2_with (at_builtin; refine wpList_append_any _ rfl _ _ 95 rfl w.heap.size 99 i0 fiZ 4 56 Try.underlying95 hinf hz0 hz1 hz2 rfl (by decide) (.slice Ao L.length co) L.length (pfV L) rfl ((own_keep HO.out HBrv.out).alloc _) (wv.alloc (.cells #[.string xp, .slice A5 m c5, .int .i64 (m : Nat), .bool true] 99)).heap.size (some ⟨wv.heap.size, 0, none⟩) 1 1 [.string xp, .slice A5 m c5, .int .i64 (m : Nat), .bool true] rfl (reads_blk (Blk.new wv _ _) rfl) (by intro u hu; simp at hu; rcases hu with rfl | rfl | rfl | rfl <;> rfl) (by simp only [maxLen]; omega) (by omega) (by simp; omega) ?_; intro v1 w1 hown hg _hne; clear _hne; have HO1 := Lib.hid hown; have HG1 := Lib.hid hg; clear hown hg)
          go_roundw
          case rel =>
            have hs := hsucc.out _ HCr.out
            have hl5 : (xb.take m).length = m := by rw [List.length_take]; omega
            have hbrv := HBe.out.trans (HBrv.out.mono hlx)
            have hb1 : Below w.heap.size w w1 := (hbrv.alloc hbrv.size _).grown HG1.out (by simp; have := hbrv.size; omega) (fun k hk => (HO.out.lt k hk).1)
            have hv1 : Vol (fun b => Value.ownBlock (.slice Ao L.length co) = some b) wv w1 := ((Vol.refl wv).alloc _).grown HG1.out (fun b hb => .inl hb)
            have hz1' := hv1.size
            have hrow0 := own_keep HO.out HBrv.out
            refine Lib.hid ⟨i + 1, L ++ [⟨xp, A5, c5, xb.take m, m, true⟩], by omega, by go_num, ?_, by rw [List.length_append]; simp; omega, by rw [hs]; simp, fun k x hx => ?_, hb1, _, rfl⟩
            · rw [List.length_append, ← pfV_snoc]
              have h := HO1.out
              have e : pfC ⟨xp, A5, c5, xb.take m, m, true⟩ = [.string xp, .slice A5 m c5, .int .i64 (m : Nat), .bool true] := by simp only [pfC, Pf.v, hl5]
              rw [e]
              exact h
            · have key : ByP wv (fun b => w.heap.size ≤ b ∧ b < w1.heap.size) x := by
                by_cases hk : k < L.length
                · rw [List.getElem?_append_left hk] at hx
                  have h1 := HBy.out k x hx
                  refine ⟨h1.1, h1.2.1, fun hp => ?_⟩
                  obtain ⟨g', cur, e1, e2, e3, e4⟩ := h1.2.2 hp
                  exact ⟨g', cur, e1, ⟨e2.1, by omega⟩, (HBrv.out.block g' (Array.getElem?_eq_some_iff.1 e3).1).trans e3, e4⟩
                · rw [List.getElem?_append_right (by omega)] at hx
                  have hk0 : k - L.length = 0 := by
                    have := (List.getElem?_eq_some_iff.1 hx).1
                    simp at this
                    exact this
                  rw [hk0] at hx
                  simp at hx
                  subst hx
                  obtain ⟨-, h1⟩ := own_byP (bs := xb.take m) HO5v.out xp m true
                  refine ⟨h1.1, h1.2.1, fun hp => ?_⟩
                  obtain ⟨g', cur, e1, e2, e3, e4⟩ := h1.2.2 hp
                  exact ⟨g', cur, e1, ⟨by have h3 := (HO5v.out.lt g' e2).1; omega, by have h3 := (HO5v.out.lt g' e2).2; omega⟩, e3, e4⟩
              refine key.keep fun g' cur _ hc => hv1.block g' (Array.getElem?_eq_some_iff.1 hc).1 (fun e => ?_)
              rcases hrow0.2 with ⟨e1, -⟩ | ⟨g3, cap3, cur3, e1, -, hh, -⟩
              · rw [e1] at e; cases e
              · rw [e1] at e
                injection e with e
                simp only at e
                subst e
                rw [hh] at hc
                injection hc with hc
                injection hc with _ hc
                exact absurd hc (by decide)
          case measure => simp [intOf]; omega
    · have hin : ¬ (i : Int) < (n : Int) := by omega
      have hRf := HR.out.below HBe.out
      have r0 : wr.cell? ⟨r, 0, none⟩ = some (.slice A n c) := hRf.blk.cell 0
      have r2 : wr.cell? ⟨r, 2, none⟩ = some (.bool s.de) := hRf.blk.cell 2
      have r3 : wr.cell? ⟨r, 3, none⟩ = some (.bool s.ar) := hRf.blk.cell 3
      have z0 : wr.frozen? ⟨r, 0, none⟩ = false := hRf.blk.frozen 0
      have z2 : wr.frozen? ⟨r, 2, none⟩ = false := hRf.blk.frozen 2
      have z3 : wr.frozen? ⟨r, 3, none⟩ = false := hRf.blk.frozen 3
      have hrlt := hRf.blk.lt
      have HRf := Lib.hid hRf
      clear hRf
      go_wp2_with fail
      go_end0
      have hv : Vol (fun b => b = r) wr (((wr.setCell ⟨r, 0, none⟩ (.slice Ao L.length co)).setCell ⟨r, 2, none⟩ (.bool false)).setCell ⟨r, 3, none⟩ (.bool false)) := (((Vol.refl wr).setCell (V := fun b => b = r) (a := ⟨r, 0, none⟩) (.inl rfl) _).setCell (a := ⟨r, 2, none⟩) (.inl rfl) _).setCell (a := ⟨r, 3, none⟩) (.inl rfl) _
      have hz1 := HBe.out.size
      refine ⟨⟨_, rfl⟩, fun b => Z b ∨ (w.heap.size ≤ b ∧ b < wr.heap.size), .slice Ao L.length co, L, ⟨((HRf.out.blk.set_ 0 _).set_ 2 _).set_ 3 _, ?_, fun k x hx => ?_, ⟨.inl HRf.out.zr.1, fun b hb => .inr (HO.out.lt b hb)⟩, fun b hb => ?_, fun b hb => ?_⟩, ?_, (Vol.of_below HBe.out).trans (hv.mono (fun b e => by rw [e]; exact HRf.out.zr.1)) fun b hb => .inl hb, fun b hb => hb.elim .inl (fun h => .inr h.1)⟩
      · exact own_down (own_vol HO.out hv (fun b hb e => own_blk_ne HO.out HRf.out.blk (by decide) (by rw [hb, e]))) hB
      · have h1 := HBy.out k x hx
        refine ByP.keep (w := wr) ⟨h1.1, h1.2.1, fun hp => by obtain ⟨g', cur, e1, e2, e3⟩ := h1.2.2 hp; exact ⟨g', cur, e1, .inr e2, e3⟩⟩ fun g' cur _ hc => hv.block g' (Array.getElem?_eq_some_iff.1 hc).1 (fun e => ?_)
        rw [e] at hc
        have h1 := HRf.out.blk
        unfold Blk at h1
        rw [h1] at hc
        injection hc with hc
        injection hc with _ hc
        exact absurd hc (by decide)
      · refine Nat.lt_of_lt_of_le ?_ hv.size
        exact hb.elim (HRf.out.lt b) (·.2)
      · exact hb.elim (HRf.out.ge b) (fun h => by omega)
      · rw [HSh.out, List.take_of_length_le (by have := HN.out; omega)]
        first | done | rw [List.filterMap_map]
end
end Go.Proofs.Ytplmfmcogbdpjaa.Dk
namespace Go.Proofs.Ytplmfmcogbdpjaa.Dk
open Go Go.RowKit Go.Proofs.Ytplmfmcogbdpjaa Go.Proofs.Ytplmfmcogbdpjaa.Crw Go.Proofs.Ytplmfmcogbdpjaa.Vl Go.ChangeShapes Go.WideShapes Go.ChangeAt
set_option linter.unusedVariables false
set_option maxRecDepth 100000
section
variable {w w' : World} {B r : Nat} {U Z Zf : Nat → Prop} {v : Value} {s s2 : Ps} {G : List Pf} {p : ByteArray} {x f : Pf}
set_option maxHeartbeats 4000000 in
theorem RRead_no (h : RfP w B r Z v s G) (hno : ∀ (i : Nat) (y : Pf), G[i]? = some y → (y.p.toList == p.toList) = false) (hG : G.length ≤ 1000) :
    Calls Try.prog 58 #[.pointer (some ⟨r, 0, none⟩), .string p] w fun e w' => e = .returned (.tuple #[.slice none 0 0, .bool false]) ∧ Below w.heap.size w w' := by
  have HA := Lib.hid (At_no h hno hG)
  clear h hno
  go_enter Try.func58, Try.ntmps58
  go_wp2_with fail
  refine HA.out.mono ?_
  rintro e w1 ⟨rfl, hb⟩
  go_wp2_with fail
  go_ret2
  exact ⟨rfl, hb⟩
set_option maxHeartbeats 4000000 in
theorem RRead_yes (h : RfP w B r Z v s G) {j : Nat} {x : Pf} (hj : G[j]? = some x) (hx : x.p = p) (hno : ∀ (i : Nat) (y : Pf), i < j → G[i]? = some y → (y.p.toList == p.toList) = false) (hG : G.length ≤ 1000) :
    Calls Try.prog 58 #[.pointer (some ⟨r, 0, none⟩), .string p] w fun e w' => e = .returned (.tuple #[x.v, .bool true]) ∧ Below w.heap.size w w' := by
  have HA := Lib.hid (At_yes h hj hx hno hG)
  obtain ⟨Av, cv, rfl, -, -⟩ := h.shape
  have HR := Lib.hid h
  have HJ := Lib.hid hj
  have jG : (j : Int) < (G.length : Int) := by have := (List.getElem?_eq_some_iff.1 hj).1; omega
  have j0 : ¬ (j : Int) < 0 := by omega
  clear h hno hx hj
  go_enter Try.func58, Try.ntmps58
  go_wp2_with fail
  refine HA.out.mono ?_
  rintro e w1 ⟨rfl, hb⟩
  have hR1 := HR.out.below hb
  have c0 : w1.cell? ⟨r, 0, none⟩ = some (.slice Av G.length cv) := hR1.blk.cell 0
  obtain ⟨g, rfl, -, k0, k1, -⟩ := hR1.cells HJ.out
  have HB := Lib.hid hb
  clear hb hR1 k0
  go_wp2_with fail
  go_ret2
  exact ⟨rfl, HB.out⟩
set_option maxHeartbeats 4000000 in
theorem RFuse (h : RfP w B r Z v s G) (a : Int) (K : Nat) (hK : max a 0 = (K : Int)) :
    Calls Try.prog 48 #[.pointer (some ⟨r, 0, none⟩), .int .i64 a] w fun e w' => (∃ u, e = .returned u) ∧ RfP w' B r Z v { s with ar := true, n := K } G ∧ Vol Z w w' := by
  have c3 : w.cell? ⟨r, 3, none⟩ = some (.bool s.ar) := h.blk.cell 3
  have c4 : w.cell? ⟨r, 4, none⟩ = some (.int .i64 s.n) := h.blk.cell 4
  have f3 : w.frozen? ⟨r, 3, none⟩ = false := h.blk.frozen 3
  have f4 : w.frozen? ⟨r, 4, none⟩ = false := h.blk.frozen 4
  have HR := Lib.hid h
  clear h
  go_enter Try.func48, Try.ntmps48
  go_wp2_with fail
  go_end0
  have hv : Vol (fun b => b = r) w ((w.setCell ⟨r, 3, none⟩ (.bool true)).setCell ⟨r, 4, none⟩ (.int .i64 (K : Nat))) := ((Vol.refl w).setCell (V := fun b => b = r) (a := ⟨r, 3, none⟩) (.inl rfl) _).setCell (a := ⟨r, 4, none⟩) (.inl rfl) _
  have hR := HR.out
  refine ⟨⟨_, rfl⟩, ⟨(hR.blk.set_ 3 _).set_ 4 _, own_vol hR.row hv (fun b hb e => own_blk_ne hR.row hR.blk (by decide) (by rw [hb, e])), fun k x hx => (hR.byt k x hx).keep fun g cur hz hc => hv.block g (Array.getElem?_eq_some_iff.1 hc).1 (fun e => ?_), hR.zr, fun b hb => Nat.lt_of_lt_of_le (hR.lt b hb) hv.size, hR.ge⟩, hv.mono (fun b e => by rw [e]; exact hR.zr.1)⟩
  rw [e] at hc
  have h1 := hR.blk
  unfold Blk at h1
  rw [h1] at hc
  injection hc with hc
  injection hc with _ hc
  exact absurd hc (by decide)
set_option maxHeartbeats 4000000 in
theorem RNew (a m q : Int) (h1 : max a 0 = m) (h2 : min m 65536 = q) (w : World) :
    Calls Try.prog 45 #[.int .i64 a] w fun e w' => ∃ r Z, e = .returned (.pointer (some ⟨r, 0, none⟩)) ∧ RfP w' w.heap.size r Z (.slice none 0 0) ⟨q, false, false, 0⟩ [] ∧ Below w.heap.size w w' := by
  go_enter Try.func45, Try.ntmps45
  go_wp2_with fail
  go_ret
  refine ⟨w.heap.size, fun b => b = w.heap.size, rfl, ⟨Blk.new _ _ _, ⟨by simp, .inl ⟨rfl, rfl⟩⟩, fun k x hx => by simp at hx, ⟨rfl, fun b hb => by simp [Value.ownBlock] at hb⟩, fun b hb => by rw [hb]; simp, fun b hb => by omega⟩, (Below.refl _ _).alloc (Nat.le_refl _) _⟩
end
end Go.Proofs.Ytplmfmcogbdpjaa.Dk
namespace Go.Proofs.Ytplmfmcogbdpjaa.Dk
open Go Go.RowKit Go.Proofs.Ytplmfmcogbdpjaa Go.Proofs.Ytplmfmcogbdpjaa.Crw Go.Proofs.Ytplmfmcogbdpjaa.Vl Go.ChangeShapes Go.WideShapes Go.ChangeAt
set_option linter.unusedVariables false
set_option maxRecDepth 100000
abbrev nmV (G : List Pf) : List Value := G.map fun x => .string x.p
theorem str_infoP : (Try.prog.info? 9).map (fun i => (i.zero, i.size, i.bytes)) = some (some (.string ⟨#[]⟩), 1, 16) := by kernel_rfl
section
variable {w w' : World} {B r : Nat} {U Z Zf : Nat → Prop} {v : Value} {s s2 : Ps} {G : List Pf} {p : ByteArray} {x f : Pf}
set_option maxHeartbeats 8000000 in
theorem RList (h : RfP w B r Z v s G) (hG : G.length ≤ 1000) (hP : ∀ y ∈ G, y.p.size ≤ 1000) :
    Calls Try.prog 57 #[.pointer (some ⟨r, 0, none⟩), .string ⟨#[]⟩] w fun e w' => ∃ v', e = .returned v' ∧ w'.ownsRow w.heap.size 9 1 v' G.length (nmV G) ∧ Below w.heap.size w w' := by
  obtain ⟨i0, hinf, hz0, hz1, hz2⟩ := info_parts str_infoP
  obtain ⟨A, c, rfl, -, -⟩ := h.shape
  have c0 : w.cell? ⟨r, 0, none⟩ = some (.slice A G.length c) := h.blk.cell 0
  have HR := Lib.hid h
  have HP := Lib.hid hP
  obtain ⟨n, hn⟩ : ∃ n, n = G.length := ⟨_, rfl⟩
  rw [← hn] at c0 HR hG
  have HN := Lib.hid hn
  clear h hn hP
  go_enter Try.func57, Try.ntmps57
  go_wp2_with fail
  go_loopw [5, 13] (fun vo vi wr => Hid (∃ i : Nat, i ≤ n ∧ vi = .int .i64 i ∧ wr.ownsRow w.heap.size 9 1 vo i (nmV (G.take i)) ∧ Below w.heap.size w wr ∧ ∃ w7, w7 = wr)) (fun _ vi _ => n - (intOf vi).toNat)
  case atStart => exact Lib.hid ⟨0, Nat.zero_le _, rfl, ⟨by simp, .inl ⟨rfl, rfl⟩⟩, Below.refl _ _, _, rfl⟩
  case round =>
    obtain ⟨i, hi, rfl, hown, hbel, wr, hwr⟩ := hrel.out
    subst hwr
    obtain ⟨Ao, co, rfl, -, -⟩ := own_slice hown
    have HO := Lib.hid hown
    have HBe := Lib.hid hbel
    clear hrel hown hbel
    by_cases hin0 : i < n
    · have hin : (i : Int) < (n : Int) := by omega
      obtain ⟨x, hx⟩ : ∃ x, G[i]? = some x := ⟨_, List.getElem?_eq_getElem (by have := HN.out; omega)⟩
      obtain ⟨g, rfl, -, k0, k1, k2, k3⟩ := (HR.out.below HBe.out).cells hx
      have hxs := HP.out x (List.mem_of_getElem? hx)
      have HX := Lib.hid hx
      obtain ⟨xp, xA, xc, xb, xs, xf⟩ := x
      simp only at hxs
      obtain ⟨wx, hwx⟩ : ∃ wx, wx = wr.alloc (.cells (pfC ⟨xp, xA, xc, xb, xs, xf⟩).toArray 99) := ⟨_, rfl⟩
      obtain ⟨bx, hbx⟩ : ∃ bx, bx = wr.heap.size := ⟨_, rfl⟩
      have hbxB : Blk wx bx 99 #[.string xp, .slice xA xb.length xc, .int .i64 xs, .bool xf] := by rw [hwx, hbx]; exact Blk.new _ _ _
      have hbw : Below wr.heap.size wr wx := by rw [hwx]; exact (Below.refl _ _).alloc (Nat.le_refl _) _
      have e0 : wr.alloc (Obj.cells #[.string xp, .slice xA xb.length xc, .int .i64 xs, .bool xf] 99) = wx := hwx.symm
      have d0 : wx.cell? ⟨bx, 0, none⟩ = some (.string xp) := hbxB.cell 0
      have HBW := Lib.hid hbw
      have HE0 := Lib.hid e0
      have HBXX := Lib.hid hbx
      have hlx := HBe.out.size
      have hlw := HBW.out.size
      clear hx hbxB hbw hwx e0 hbx
      go_upto_region 5 with fail
      rw [HE0.out, ← HBXX.out]
      clear k0 k1 k2 k3 HE0
      go_wp2_with (at_builtin; refine wpList_append_any _ rfl _ _ 33 rfl w.heap.size 9 i0 (.string ⟨#[]⟩) 1 16 Try.underlying33 hinf hz0 hz1 hz2 rfl (by decide) (.slice Ao i co) i (nmV (G.take i)) rfl ((own_keep HO.out HBW.out).alloc _) (wx.alloc (.cells #[.string xp] 9)).heap.size (some ⟨wx.heap.size, 0, none⟩) 1 1 [.string xp] rfl (reads_one wx (.string xp) 9) (by simp [Value.oneCell']) (by simp only [maxLen]; omega) (by omega) (by simp; omega) ?_; intro v1 w1 hown hg _hne; clear _hne; have HO1 := Lib.hid hown; have HG1 := Lib.hid hg; clear hown hg)
      have hb1 : Below w.heap.size w w1 := ((HBe.out.trans (HBW.out.mono hlx)).alloc (by omega) _).grown HG1.out (by simp; omega) (fun k hk => (HO.out.lt k hk).1)
      refine ⟨Lib.hid ⟨i + 1, by omega, by go_num, ?_, hb1, _, rfl⟩, by simp [intOf]; omega⟩
      have e : nmV (G.take (i + 1)) = nmV (G.take i) ++ [.string xp] := by rw [nmV, List.take_add_one, HX.out]; simp
      rw [e]
      exact HO1.out
    · have hin : ¬ (i : Int) < (n : Int) := by omega
      have hie : i = n := by omega
      go_wp2_with fail
      go_ret
      subst hie
      refine ⟨_, rfl, ?_, HBe.out⟩
      have h := HO.out
      rw [List.take_of_length_le (by have := HN.out; omega)] at h
      rw [← HN.out]
      exact h
end
end Go.Proofs.Ytplmfmcogbdpjaa.Dk
namespace Go.Proofs.Ytplmfmcogbdpjaa.Dk
open Go Go.RowKit Go.Proofs.Ytplmfmcogbdpjaa Go.Proofs.Ytplmfmcogbdpjaa.Crw Go.Proofs.Ytplmfmcogbdpjaa.Vl Go.ChangeShapes Go.WideShapes Go.ChangeAt
set_option linter.unusedVariables false
set_option maxRecDepth 100000
abbrev strV (l : List ByteArray) : List Value := l.map Value.string
section
variable {w w' : World} {B B' r d mb : Nat} {U V Z Zf : Nat → Prop} {v : Value} {s : Ds} {sp s2 : Ps} {F : List Fi} {G : List Pf} {p : ByteArray} {x f : Pf}
set_option maxHeartbeats 4000000 in
theorem SameS_eq {A A' : Option Addr} {n c c' : Nat} {l : List ByteArray} (h : Reads w B 1 A n (strV l)) (h' : Reads w B' 1 A' n (strV l)) (hB : B ≤ w.heap.size) (hB' : B' ≤ w.heap.size) (hn : n ≤ 1000) :
    Calls Try.prog 21 #[.slice A n c, .slice A' n c'] w fun e w' => e = .returned (.bool true) ∧ Below w.heap.size w w' := by
  have hl : l.length = n := by have := h.1; simpa using this
  have HL := Lib.hid hl
  have H1 := Lib.hid h
  have H2 := Lib.hid h'
  clear h h' hl
  go_enter Try.func21, Try.ntmps21
  go_wp2_with fail
  go_loopw [5] (fun i wr => ∃ k : Nat, k ≤ n ∧ i = .int .i64 k ∧ Below w.heap.size w wr) (fun i _ => n - (intOf i).toNat)
  case atStart => exact ⟨0, Nat.zero_le _, rfl, Below.refl _ _⟩
  case round =>
    obtain ⟨k, hk, rfl, hbel⟩ := hrel
    by_cases hlt : k < n
    · obtain ⟨ad, u, rfl, -, hu, hc⟩ := (reads_belP H1.out hB hbel).at_ hlt
      obtain ⟨ad', u', rfl, -, hu', hc'⟩ := (reads_belP H2.out hB' hbel).at_ hlt
      rw [hu] at hu'
      injection hu' with hu'
      subst hu'
      obtain ⟨q, hq⟩ : ∃ q, u = .string q := by
        rw [List.getElem?_map] at hu
        cases hx : l[k]? with
        | none => rw [hx] at hu; cases hu
        | some q => rw [hx] at hu; injection hu with hu; exact ⟨q, hu.symm⟩
      subst hq
      have k1 : (k : Int) < (n : Int) := by omega
      have e2 : (q.toList == q.toList) = true := by simp
      clear hu
      go_wp2
      go_quiet (fail)
      go_wp2
      go_roundw
      case rel => exact ⟨k + 1, by omega, by go_num, below_drewN hbel _⟩
      case measure => simp [intOf]; omega
    · have k1 : ¬ (k : Int) < (n : Int) := by omega
      go_wp2
      go_ret
      exact ⟨rfl, hbel⟩
abbrev SmS (w0 : World) (Bd Br d mb r : Nat) (V Z : Nat → Prop) (v : Value) (s : Ds) (sp : Ps) (F : List Fi) (G : List Pf) (wa : World) : Prop :=
  wa.cell? ⟨r, 1, none⟩ = some (.int .i64 sp.q) ∧ wa.cell? ⟨r, 2, none⟩ = some (.bool sp.de) ∧ (DkP wa Bd d mb V s F ∧ RfP wa Br r Z v sp G ∧ Below w0.heap.size w0 wa)
theorem sm_keep {w0 wa wb : World} {Bd Br : Nat} (k : SmS w0 Bd Br d mb r V Z v s sp F G wa) (hb : Below wa.heap.size wa wb) : SmS w0 Bd Br d mb r V Z v s sp F G wb :=
  ⟨(k.2.2.2.1.below hb).blk.cell 1, (k.2.2.2.1.below hb).blk.cell 2, k.2.2.1.below hb, k.2.2.2.1.below hb, k.2.2.2.2.trans (hb.mono k.2.2.2.2.size)⟩
theorem sm_drew {w0 wa : World} {Bd Br : Nat} (k : SmS w0 Bd Br d mb r V Z v s sp F G wa) : SmS w0 Bd Br d mb r V Z v s sp F G wa.drew := sm_keep k (Below.refl _ _).drew
/-- Both hold at most one file, which is the same. -/
def One2 (F : List Fi) (G : List Pf) : Prop := (F = [] ∧ G = []) ∨ ∃ x y, F = [x] ∧ G = [y] ∧ x.p = y.p ∧ x.bs = y.bs ∧ x.bs.length ≤ 65536
theorem one2_names {F : List Fi} {G : List Pf} (h : One2 F G) {l : List (List UInt8)} (hl : l.Perm ((F.map Fi.sh).map Sh.ky)) : l.map encStr = strV (G.map (·.p)) := by
  rcases h with ⟨rfl, rfl⟩ | ⟨x, y, rfl, rfl, hp, -⟩
  · have : l = [] := by simpa using hl
    subst this
    rfl
  · have : l = [x.p.data.toList] := by simpa using hl
    subst this
    rw [hp]
    rfl
set_option maxHeartbeats 64000000 in
theorem Same_log {Bd Br : Nat} (hD : DkP w Bd d mb V s F) (hR : RfP w Br r Z v sp G) (h2 : One2 F G) (hde : s.de = sp.de) (hu : s.u = (totP G : Nat)) (hq : s.q = sp.q) (hqb : 0 ≤ s.q ∧ s.q ≤ 65536) (hub : totP G ≤ 65536) (hps : ∀ y ∈ G, y.p.size ≤ 1000) :
    Calls Try.prog 51 #[.pointer (some ⟨d, 0, none⟩), .pointer (some ⟨r, 0, none⟩)] w fun e w' => e = .returned (.bool true) ∧ Below w.heap.size w w' := by
  have hG1 : G.length ≤ 1 := by rcases h2 with ⟨-, rfl⟩ | ⟨x, y, -, rfl, -⟩ <;> simp
  have hF1 : F.length ≤ 1 := by rcases h2 with ⟨rfl, -⟩ | ⟨x, y, rfl, -⟩ <;> simp
  obtain ⟨T, hT⟩ : ∃ T, T = totP G := ⟨_, rfl⟩
  have hS0 : SmS w Bd Br d mb r V Z v s sp F G w := ⟨hR.blk.cell 1, hR.blk.cell 2, hD, hR, Below.refl _ _⟩
  have hDe := fun {wa : World} (k : SmS w Bd Br d mb r V Z v s sp F G wa) => Dead_ k.2.2.1.blk
  have hUs := fun {wa : World} (k : SmS w Bd Br d mb r V Z v s sp F G wa) => Used_ k.2.2.1.blk
  have hRo := fun {wa : World} (k : SmS w Bd Br d mb r V Z v s sp F G wa) => Room_ k.2.2.1.blk hqb (by rw [hu]; omega)
  have hUp := fun {wa : World} (k : SmS w Bd Br d mb r V Z v s sp F G wa) => Used_p k.2.2.2.1 (by omega) (by omega)
  have hL1 : ∀ {wa : World}, SmS w Bd Br d mb r V Z v s sp F G wa → Calls Try.prog 22 #[.pointer (some ⟨d, 0, none⟩), .string ⟨#[]⟩] wa fun e w' => ∃ A c, e = .returned (.slice A G.length c) ∧ w'.ownsRow wa.heap.size 9 1 (.slice A G.length c) G.length (strV (G.map (·.p))) ∧ Below wa.heap.size wa w' := fun {wa} k => by
    obtain ⟨l, hl, hLi⟩ := List_all k.2.2.1 (by omega)
    have hn := one2_names h2 hl
    have hln : l.length = G.length := by have := congrArg List.length hn; simpa using this
    refine hLi.mono ?_
    rintro e wz ⟨vl, rfl, hb, ho⟩
    rw [hn, hln] at ho
    obtain ⟨A, c, rfl, -, -⟩ := own_slice ho
    exact ⟨A, c, rfl, own_down ho (by omega), hb⟩
  have hL2 : ∀ {wa : World}, SmS w Bd Br d mb r V Z v s sp F G wa → Calls Try.prog 57 #[.pointer (some ⟨r, 0, none⟩), .string ⟨#[]⟩] wa fun e w' => ∃ A c, e = .returned (.slice A G.length c) ∧ w'.ownsRow wa.heap.size 9 1 (.slice A G.length c) G.length (strV (G.map (·.p))) ∧ Below wa.heap.size wa w' := fun {wa} k => by
    refine (RList k.2.2.2.1 (by omega) hps).mono ?_
    rintro e wz ⟨vl, rfl, ho, hb⟩
    obtain ⟨A, c, rfl, -, -⟩ := own_slice ho
    have e1 : nmV G = strV (G.map (·.p)) := by simp [nmV, strV]
    rw [e1] at ho
    exact ⟨A, c, rfl, ho, hb⟩
  simp only [hde] at hDe
  simp only [hu, ← hT] at hUs
  simp only [hq, hu, ← hT] at hRo
  simp only [← hT] at hUp
  have hqb2 : 0 ≤ sp.q ∧ sp.q ≤ 65536 := by rw [← hq]; exact hqb
  have hTb : T ≤ 65536 := by rw [hT]; exact hub
  have hw : IntKind.i64.wrap (sp.q - (T : Int)) = sp.q - (T : Int) := by rw [IntKind.wrap_i64]; omega
  have hne1 : (sp.de != sp.de) = false := by simp
  have hne2 : ((T : Int) != (T : Int)) = false := by simp
  have hne3 : ((sp.q - (T : Int)) != (sp.q - (T : Int))) = false := by simp
  have H2 := Lib.hid h2
  have HD := Lib.hid (And.intro hD hR)
  clear hD hR h2 hu hq hqb hub hps hT hde hF1
  go_enter Try.func51, Try.ntmps51
  go_upto_region 1 with fail
  go_region_held3 (fun wa => wa.cell? ⟨r, 1, none⟩ = some (.int .i64 sp.q) ∧ wa.cell? ⟨r, 2, none⟩ = some (.bool sp.de) ∧ (DkP wa Bd d mb V s F ∧ RfP wa Br r Z v sp G ∧ Below w.heap.size w wa)) (first | assumption | exact sm_keep (by assumption) (by assumption) | exact sm_keep (sm_drew (by assumption)) (by assumption) | exact sm_drew (by assumption)) (first | (go_at_call 30; refine (hDe (by first | assumption | exact sm_drew (by assumption))).mono ?_; rintro e wd ⟨rfl, hbd⟩) | (go_at_call 18; refine (hUs (by first | assumption | exact sm_drew (by assumption))).mono ?_; rintro e wu ⟨rfl, hbu⟩) | (go_at_call 72; refine (hUp (by first | assumption | exact sm_drew (by assumption))).mono ?_; rintro e wp ⟨rfl, hbp⟩) | (go_at_call 15; refine (hRo (by first | assumption | exact sm_drew (by assumption))).mono ?_; rintro e wr ⟨rfl, hbr⟩) | (go_at_call 22; refine (hL1 (by first | assumption | exact sm_drew (by assumption))).mono ?_; rintro e wl1 ⟨A1, c1, rfl, hol1, hbl1⟩) | (go_at_call 57; refine (hL2 (by first | assumption | exact sm_drew (by assumption))).mono ?_; rintro e wl2 ⟨A2, c2, rfl, hol2, hbl2⟩; have hol3 := own_keep hol1 hbl2) | (go_at_call 21; refine (SameS_eq (own_reads hol3) (own_reads hol2) (Nat.le_refl _) (Nat.le_refl _) (by omega)).mono ?_; rintro e ws ⟨rfl, hbs⟩))
  all_goals
    rename_i hHeld
    obtain ⟨-, -, hD1, hR1, hb1⟩ := hHeld
    obtain ⟨Av, cv, hv, -, -⟩ := hR1.shape
    subst hv
    have r0 := hR1.blk.cell 0
    have HDR := Lib.hid (And.intro hD1 (And.intro hR1 hb1))
    clear hD1 hR1 hb1 hDe hUs hRo hUp hL1 hL2 hS0 HD
    rcases H2.out with ⟨rfl, rfl⟩ | ⟨x, y, rfl, rfl, hxp, hxb, hxl⟩
    · go_wp2_with fail
      go_loopw [52] (fun vi wr => vi = .int .i64 0 ∧ Below w.heap.size w wr) (fun _ _ => 0)
      case atStart => exact ⟨rfl, HDR.out.2.2⟩
      case round =>
        obtain ⟨rfl, hb⟩ := hrel
        go_wp2_with fail
        go_ret
        exact ⟨rfl, hb⟩
    · obtain ⟨yp, yA, yc, yb, ys, yf⟩ := y
      simp only at hxp hxb
      have hc := HDR.out.2.1.cells (k := 0) rfl
      obtain ⟨g, rfl, -⟩ := hc
      simp only [List.length_singleton] at r0 ⊢
      have HXP := Lib.hid (And.intro hxp (And.intro hxb hxl))
      clear hxp hxb hxl hG1
      go_wp2_with fail
      go_loopw [52] (fun vi wr => Hid ((vi = .int .i64 0 ∨ vi = .int .i64 1) ∧ DkP wr Bd d mb V s [x] ∧ RfP wr Br r Z (.slice (some ⟨g, 0, none⟩) 1 cv) sp [⟨yp, yA, yc, yb, ys, yf⟩] ∧ Below w.heap.size w wr ∧ ∃ w7, w7 = wr)) (fun vi _ => 1 - (intOf vi).toNat)
      case atStart => exact Lib.hid ⟨.inl rfl, HDR.out.1, HDR.out.2.1, HDR.out.2.2, _, rfl⟩
      case round =>
        obtain ⟨hvi, hD, hR, hb, wq, hwq⟩ := hrel.out
        subst hwq
        have HDq := Lib.hid (And.intro hD (And.intro hR hb))
        clear hrel hD hR hb HDR r0
        rcases hvi with rfl | rfl
        · obtain ⟨g', e', -, k0, k1, k2, k3⟩ := HDq.out.2.1.cells (k := 0) rfl
          injection e' with e'
          injection e' with e'
          subst e'
          simp only [Nat.zero_mul, Nat.zero_add] at k0 k1 k2 k3
          obtain ⟨wx, hwx⟩ : ∃ wx, wx = wq.alloc (.cells (pfC ⟨yp, yA, yc, yb, ys, yf⟩).toArray 99) := ⟨_, rfl⟩
          obtain ⟨bx, hbx⟩ : ∃ bx, bx = wq.heap.size := ⟨_, rfl⟩
          have hbxB : Blk wx bx 99 #[.string yp, .slice yA yb.length yc, .int .i64 ys, .bool yf] := by rw [hwx, hbx]; exact Blk.new _ _ _
          have hbw : Below wq.heap.size wq wx := by rw [hwx]; exact (Below.refl _ _).alloc (Nat.le_refl _) _
          have e0 : wq.alloc (Obj.cells #[.string yp, .slice yA yb.length yc, .int .i64 ys, .bool yf] 99) = wx := hwx.symm
          have d0 : wx.cell? ⟨bx, 0, none⟩ = some (.string yp) := hbxB.cell 0
          have HBX := Lib.hid hbxB
          have HBW := Lib.hid hbw
          have HE0 := Lib.hid e0
          have HBXX := Lib.hid hbx
          have HRd := Lib.hid (Read_yes (HDq.out.1.below hbw) (p := yp) (j := 0) rfl HXP.out.1 HXP.out.2.2)
          clear hbxB hbw e0 hbx hwx
          go_upto_region 6 with fail
          rw [HE0.out, ← HBXX.out]
          clear k0 k1 k2 k3 HE0
          go_wp2_with fail
          refine HRd.out.mono ?_
          rintro e wv ⟨v', rfl, hov, hbv⟩
          rw [HXP.out.2.1] at hov
          obtain ⟨A', c', rfl, -, -⟩ := own_slice hov
          have hbl : yb.length ≤ 65536 := by rw [← HXP.out.2.1]; exact HXP.out.2.2
          have d1 : wv.cell? ⟨bx, 1, none⟩ = some (.slice yA yb.length yc) := (HBX.out.below hbv HBX.out.lt).cell 1
          have hbq := HBW.out.trans (hbv.mono HBW.out.size)
          have hry := ((HDq.out.2.1.below hbq).byt 0 _ rfl).reads
          have HSm := Lib.hid (SameByte_int A' yA yb.length c' yb.length yc yb yb _ _ wv (Nat.le_refl _) (Nat.le_refl _) (own_reads hov) hry (by omega) (by omega))
          have HBq := Lib.hid hbq
          clear hov hbv hbq hry d0 HRd
          go_wp2_with fail
          refine HSm.out.mono ?_
          rintro e wy ⟨hr, hby⟩
          have hr2 : e = .returned (.bool true) := by rw [hr]; simp
          clear hr d1
          subst hr2
          have HBy := Lib.hid (show Below wq.heap.size wq wy from HBq.out.trans (hby.mono HBq.out.size))
          clear hby HSm
          go_wp2_with fail
          go_roundw
          case rel => exact Lib.hid ⟨.inr (by go_num), HDq.out.1.below HBy.out, HDq.out.2.1.below HBy.out, HDq.out.2.2.trans (HBy.out.mono HDq.out.2.2.size), _, rfl⟩
          case measure => simp [intOf]
        · go_wp2_with fail
          go_ret
          exact ⟨rfl, HDq.out.2.2⟩
end
end Go.Proofs.Ytplmfmcogbdpjaa.Dk
