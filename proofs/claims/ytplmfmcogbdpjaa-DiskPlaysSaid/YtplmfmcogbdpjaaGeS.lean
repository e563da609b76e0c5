/- GeA GeB GeC GeD GeE GeF GeG GeH GeI GeJ GeK GeL GeM GeP GeQ: merged texts. -/
import Derived.Test.YtplmfmcogbdpjaaPlN
import Derived.Test.YtplmfmcogbdpjaaRecM
import Derived.Test.YtplmfmcogbdpjaaTwM
import Derived.Test.YtplmfmcogbdpjaaSumList
import Derived.Test.YtplmfmcogbdpjaaAllSum
import Derived.Test.YtplmfmcogbdpjaaList
import Derived.Test.YtplmfmcogbdpjaaLendR
import Derived.Test.YtplmfmcogbdpjaaRecV
namespace Go.Proofs.Ytplmfmcogbdpjaa.Dk
open Go Go.RowKit Go.Proofs.Ytplmfmcogbdpjaa Go.Proofs.Ytplmfmcogbdpjaa.Crw Go.Proofs.Ytplmfmcogbdpjaa.Vl Go.ChangeShapes Go.WideShapes Go.ChangeAt
set_option linter.unusedVariables false
set_option maxRecDepth 100000
abbrev by_ (p : ByteArray) : List UInt8 := p.data.toList
abbrev nmS (y : Sh) : Sh := ⟨y.p, y.bs, y.sy, y.fi || decide (0 < y.sy)⟩
abbrev nmF (x : Fi) : Sh := nmS x.sh
abbrev nmG (x : Pf) : Sh := nmS x.sh
theorem bles_eq : ∀ (x y : List UInt8), Op.bytesLess x y = decide (x < y)
  | [], [] => by simp [Op.bytesLess]
  | _ :: _, [] => by simp [Op.bytesLess]
  | [], _ :: _ => by simp [Op.bytesLess]
  | a :: x, b :: y => by
    rw [Op.bytesLess, bles_eq x y]
    simp only [List.cons_lt_cons_iff]
    by_cases h1 : a < b <;> by_cases h2 : a = b <;> by_cases h3 : x < y <;> simp [h1, h2, h3]
/-- Rising, no two alike. -/
def Srt (Y : List Sh) : Prop := (Y.map Sh.ky).Pairwise (· < ·)
/-- All but those of a path. -/
def wo (p : List UInt8) (Y : List Sh) : List Sh := Y.filter fun y => decide (y.ky ≠ p)
def fnd (p : List UInt8) (Y : List Sh) : Option Sh := Y.find? fun y => decide (y.ky = p)
/-- A file in its place. -/
def putS (f : Sh) : List Sh → List Sh
  | [] => [f]
  | x :: Y => if x.ky = f.ky then putS f Y else if f.ky < x.ky then f :: x :: wo f.ky Y else x :: putS f Y
theorem wo_eq {p : List UInt8} {x : Sh} {Y : List Sh} (h : x.ky = p) : wo p (x :: Y) = wo p Y := by
  unfold wo
  rw [List.filter_cons, if_neg (by rw [decide_eq_true_eq]; exact fun e => e h)]
theorem wo_ne {p : List UInt8} {x : Sh} {Y : List Sh} (h : x.ky ≠ p) : wo p (x :: Y) = x :: wo p Y := by
  unfold wo
  rw [List.filter_cons, if_pos (by rw [decide_eq_true_eq]; exact h)]
theorem Srt.tail {x : Sh} {Y : List Sh} (h : Srt (x :: Y)) : Srt Y := (List.pairwise_cons.1 h).2
theorem Srt.head {x : Sh} {Y : List Sh} (h : Srt (x :: Y)) : ∀ y ∈ Y, x.ky < y.ky := fun y hy => (List.pairwise_cons.1 h).1 _ (List.mem_map.2 ⟨y, hy, rfl⟩)
theorem Srt.sub {X Y : List Sh} (h : Srt Y) (hs : X.Sublist Y) : Srt X := List.Pairwise.sublist (hs.map _) h
theorem Srt.wo {Y : List Sh} (h : Srt Y) (p : List UInt8) : Srt (wo p Y) := h.sub List.filter_sublist
theorem Srt.nodup {Y : List Sh} (h : Srt Y) : (Y.map Sh.ky).Nodup := h.imp fun {a b} hab e => by subst e; exact List.lt_irrefl _ hab
theorem lt_tot {a b : List UInt8} (h : a ≠ b) (h2 : ¬ a < b) : b < a := by
  by_cases h3 : b < a
  · exact h3
  · exact absurd (List.le_antisymm (by simpa using h3) (by simpa using h2)) h
theorem mem_wo {p : List UInt8} {Y : List Sh} {y : Sh} : y ∈ wo p Y ↔ y ∈ Y ∧ y.ky ≠ p := by simp [wo]
theorem putS_mem {f y : Sh} : ∀ {Y : List Sh}, y ∈ putS f Y → y ∈ Y ∨ y = f
  | [], h => by simp [putS] at h; exact .inr h
  | x :: Y, h => by
    unfold putS at h
    split at h
    · rcases putS_mem h with h | h
      · exact .inl (by simp [h])
      · exact .inr h
    · split at h
      · rcases List.mem_cons.1 h with h | h
        · exact .inr h
        · rcases List.mem_cons.1 h with h | h
          · exact .inl (by simp [h])
          · exact .inl (by simp [(mem_wo.1 h).1])
      · rcases List.mem_cons.1 h with h | h
        · exact .inl (by simp [h])
        · rcases putS_mem h with h | h
          · exact .inl (by simp [h])
          · exact .inr h
theorem putS_srt {f : Sh} : ∀ {Y : List Sh}, Srt Y → Srt (putS f Y)
  | [], _ => by simp [putS, Srt]
  | x :: Y, h => by
    unfold putS
    split
    · exact putS_srt h.tail
    · rename_i hne
      split
      · rename_i hlt
        refine List.pairwise_cons.2 ⟨fun a ha => ?_, List.pairwise_cons.2 ⟨fun a ha => ?_, h.tail.wo _⟩⟩
        · rcases List.mem_cons.1 ha with rfl | ha
          · exact hlt
          · obtain ⟨y, hy, rfl⟩ := List.mem_map.1 ha
            exact List.lt_trans hlt (h.head y (mem_wo.1 hy).1)
        · obtain ⟨y, hy, rfl⟩ := List.mem_map.1 ha
          exact h.head y (mem_wo.1 hy).1
      · rename_i hlt
        refine List.pairwise_cons.2 ⟨fun a ha => ?_, putS_srt h.tail⟩
        obtain ⟨y, hy, rfl⟩ := List.mem_map.1 ha
        rcases putS_mem hy with hy | rfl
        · exact h.head y hy
        · exact lt_tot (fun e => hne e.symm) hlt
theorem putS_perm {f : Sh} : ∀ {Y : List Sh}, (putS f Y).Perm (f :: wo f.ky Y)
  | [] => by simp [putS, wo]
  | x :: Y => by
    unfold putS
    split
    · rename_i he
      have : wo f.ky (x :: Y) = wo f.ky Y := wo_eq he
      rw [this]
      exact putS_perm
    · rename_i hne
      have hw : wo f.ky (x :: Y) = x :: wo f.ky Y := wo_ne hne
      rw [hw]
      split
      · exact List.Perm.refl _
      · exact (putS_perm.cons x).trans (List.Perm.swap _ _ _)
theorem fnd_none {p : List UInt8} {Y : List Sh} (h : fnd p Y = none) : ∀ y ∈ Y, y.ky ≠ p := fun y hy => by
  have := List.find?_eq_none.1 h y hy
  simpa using this
theorem fnd_some {p : List UInt8} {Y : List Sh} {y : Sh} (h : fnd p Y = some y) : y ∈ Y ∧ y.ky = p :=
  ⟨List.mem_of_find?_eq_some h, by simpa using List.find?_some h⟩
theorem wo_id {p : List UInt8} {Y : List Sh} (h : ∀ y ∈ Y, y.ky ≠ p) : wo p Y = Y := List.filter_eq_self.2 fun y hy => by simpa using h y hy
theorem wo_perm {p : List UInt8} {X Y : List Sh} (h : X.Perm Y) : (wo p X).Perm (wo p Y) := h.filter _
theorem fnd_mem {p : List UInt8} {Y : List Sh} (hn : (Y.map Sh.ky).Nodup) {y : Sh} (hy : y ∈ Y) (hp : y.ky = p) : fnd p Y = some y := by
  induction Y with
  | nil => cases hy
  | cons x Y ih =>
    rw [List.map_cons, List.nodup_cons] at hn
    unfold fnd
    rw [List.find?_cons]
    rcases List.mem_cons.1 hy with rfl | hy
    · simp [hp]
    · have hne : x.ky ≠ p := fun e => hn.1 (List.mem_map.2 ⟨y, hy, by rw [hp, e]⟩)
      rw [decide_eq_false hne]
      exact ih hn.2 hy
theorem total_perm {X Y : List Sh} (h : X.Perm Y) : total X = total Y := (h.map _).sum_nat
/-- The files that are there but that one. -/
theorem total_wo {p : List UInt8} : ∀ {Y : List Sh}, (Y.map Sh.ky).Nodup → total Y = total (wo p Y) + (match fnd p Y with | some y => y.bs.length | none => 0)
  | [], _ => rfl
  | x :: Y, hn => by
    rw [List.map_cons, List.nodup_cons] at hn
    have ih := total_wo (p := p) hn.2
    by_cases hx : x.ky = p
    · have hall : ∀ y ∈ Y, y.ky ≠ p := fun y hy e => hn.1 (List.mem_map.2 ⟨y, hy, by rw [e, hx]⟩)
      have h1 : wo p (x :: Y) = Y := by
        unfold wo
        rw [List.filter_cons, if_neg (by simp [hx])]
        exact wo_id hall
      have h2 : fnd p (x :: Y) = some x := by simp [fnd, hx]
      rw [h1, h2, total_cons]
      simp only
      omega
    · have h1 : wo p (x :: Y) = x :: wo p Y := wo_ne hx
      have h2 : fnd p (x :: Y) = fnd p Y := by simp [fnd, hx]
      rw [h1, h2, total_cons, total_cons, ih]
      omega
theorem total_put {f : Sh} {Y : List Sh} (h : Srt Y) : total (putS f Y) = f.bs.length + total (wo f.ky Y) := by
  rw [total_perm putS_perm, total_cons]
theorem wo_len (p : List UInt8) (Y : List Sh) : (wo p Y).length ≤ Y.length := List.length_filter_le _ _
theorem put_len (f : Sh) (Y : List Sh) : (putS f Y).length ≤ Y.length + 1 := by
  rw [putS_perm.length_eq, List.length_cons]
  have := wo_len f.ky Y
  omega
/-! The disk's own list, in any order. -/
theorem set_wo {p : List UInt8} : ∀ {X : List Sh} {j : Nat} {x f : Sh}, (X.map Sh.ky).Nodup → X[j]? = some x → x.ky = p → (X.set j f).Perm (f :: wo p X)
  | [], j, x, f, _, hj, _ => by simp at hj
  | a :: X, 0, x, f, hn, hj, hx => by
    simp at hj
    subst hj
    rw [List.map_cons, List.nodup_cons] at hn
    have hall : ∀ y ∈ X, y.ky ≠ p := fun y hy e => hn.1 (List.mem_map.2 ⟨y, hy, by rw [e, hx]⟩)
    have : wo p (a :: X) = X := by
      rw [wo_eq hx]
      exact wo_id hall
    rw [this]
    exact List.Perm.refl _
  | a :: X, j + 1, x, f, hn, hj, hx => by
    rw [List.map_cons, List.nodup_cons] at hn
    have hne : a.ky ≠ p := fun e => hn.1 (List.mem_map.2 ⟨x, List.mem_of_getElem? (by simpa using hj), by rw [e, hx]⟩)
    have : wo p (a :: X) = a :: wo p X := wo_ne hne
    rw [this, List.set_cons_succ]
    exact ((set_wo hn.2 (by simpa using hj) hx).cons a).trans (List.Perm.swap _ _ _)
theorem erase_wo {p : List UInt8} : ∀ {X : List Sh} {j : Nat} {x : Sh}, (X.map Sh.ky).Nodup → X[j]? = some x → x.ky = p → X.eraseIdx j = wo p X
  | [], j, x, _, hj, _ => by simp at hj
  | a :: X, 0, x, hn, hj, hx => by
    simp at hj
    subst hj
    rw [List.map_cons, List.nodup_cons] at hn
    have hall : ∀ y ∈ X, y.ky ≠ p := fun y hy e => hn.1 (List.mem_map.2 ⟨y, hy, by rw [e, hx]⟩)
    rw [wo_eq hx]
    exact (wo_id hall).symm
  | a :: X, j + 1, x, hn, hj, hx => by
    rw [List.map_cons, List.nodup_cons] at hn
    have hne : a.ky ≠ p := fun e => hn.1 (List.mem_map.2 ⟨x, List.mem_of_getElem? (by simpa using hj), by rw [e, hx]⟩)
    have : wo p (a :: X) = a :: wo p X := wo_ne hne
    rw [this, List.eraseIdx_cons_succ, erase_wo hn.2 (by simpa using hj) hx]
theorem set_put {p : List UInt8} : ∀ {X : List Sh} {j : Nat} {x f : Sh}, Srt X → X[j]? = some x → x.ky = p → f.ky = p → X.set j f = putS f X
  | [], j, x, f, _, hj, _, _ => by simp at hj
  | a :: X, 0, x, f, hs, hj, hx, hf => by
    simp at hj
    subst hj
    have hput : ∀ {X : List Sh}, (∀ y ∈ X, f.ky < y.ky) → putS f X = f :: X := fun {X} h => by
      cases X with
      | nil => rfl
      | cons b X =>
        unfold putS
        have hb := h b (by simp)
        rw [if_neg (fun e => by rw [e] at hb; exact List.lt_irrefl _ hb), if_pos hb]
        congr 2
        refine wo_id fun y hy e => ?_
        have := h y (by simp [hy])
        rw [e] at this
        exact List.lt_irrefl _ this
    unfold putS
    rw [if_pos (by rw [hx, hf]), hput (fun y hy => by rw [hf, ← hx]; exact hs.head y hy)]
    rfl
  | a :: X, j + 1, x, f, hs, hj, hx, hf => by
    have hax : a.ky < x.ky := hs.head x (List.mem_of_getElem? (by simpa using hj))
    rw [hx, ← hf] at hax
    unfold putS
    rw [if_neg (fun e => by rw [e] at hax; exact List.lt_irrefl _ hax), if_neg (fun h => List.lt_irrefl _ (List.lt_trans h hax)), List.set_cons_succ, set_put hs.tail (by simpa using hj) hx hf]
/-! Sorted names. -/
theorem srt_uniq : ∀ {X Y : List (List UInt8)}, X.Pairwise (· < ·) → Y.Pairwise (· ≤ ·) → X.Perm Y → X = Y
  | [], Y, _, _, h => by rw [List.nil_perm.1 h]
  | a :: X, [], _, _, h => by cases (List.perm_nil.1 h)
  | a :: X, b :: Y, hx, hy, h => by
    have hx' := List.pairwise_cons.1 hx
    have hy' := List.pairwise_cons.1 hy
    have hab : a = b := by
      have h1 : b ∈ a :: X := h.mem_iff.2 (by simp)
      have h2 : a ∈ b :: Y := h.mem_iff.1 (by simp)
      rcases List.mem_cons.1 h1 with e | h1
      · exact e.symm
      · rcases List.mem_cons.1 h2 with e | h2
        · exact e
        · exact absurd (hx'.1 b h1) (hy'.1 a h2)
    subst hab
    rw [srt_uniq hx'.2 hy'.2 ((List.perm_cons a).1 h)]
end Go.Proofs.Ytplmfmcogbdpjaa.Dk
namespace Go.Proofs.Ytplmfmcogbdpjaa.Dk
open Go Go.RowKit Go.Proofs.Ytplmfmcogbdpjaa Go.Proofs.Ytplmfmcogbdpjaa.Crw Go.Proofs.Ytplmfmcogbdpjaa.Vl Go.ChangeShapes Go.WideShapes Go.ChangeAt
set_option linter.unusedVariables false
set_option maxRecDepth 100000
/-- A disk, plainly. -/
structure Ab where
  q : Int
  de : Bool
  fz : Option Nat
  Y : List Sh
def Ab.dead (a : Ab) : Ab := { a with de := true }
/-- One more act is done; the files are then Y. -/
def Ab.did (a : Ab) (Y : List Sh) : Ab := { a with fz := a.fz.map (· - 1), Y := Y }
def grow (p : ByteArray) (bs : List Int) (Y : List Sh) : Sh := match fnd (by_ p) Y with
  | none => ⟨p, bs, 0, false⟩
  | some y => ⟨p, y.bs ++ bs, y.sy, y.fi⟩
def abBurn (a : Ab) (Y : List Sh) : Int × Ab := if a.fz = some 0 then (7, a.dead) else (0, a.did Y)
def abAppend (p : ByteArray) (bs : List Int) (a : Ab) : Int × Ab :=
  if a.de = true then (7, a) else if by_ p = [] then (1, a) else if a.q - (total a.Y : Nat) < (bs.length : Nat) then (6, a) else abBurn a (putS (grow p bs a.Y) a.Y)
def abFind (p : ByteArray) (a : Ab) (k : Sh → Int × Ab) : Int × Ab :=
  if a.de = true then (7, a) else if by_ p = [] then (1, a) else match fnd (by_ p) a.Y with
    | none => (3, a)
    | some y => k y
def abSync (p : ByteArray) (a : Ab) : Int × Ab := abFind p a fun y => abBurn a (putS ⟨p, y.bs, (y.bs.length : Nat), true⟩ a.Y)
def abRemove (p : ByteArray) (a : Ab) : Int × Ab := abFind p a fun y => abBurn a (wo (by_ p) a.Y)
def abCut (p : ByteArray) (n : Int) (a : Ab) : Int × Ab := abFind p a fun y => if n < 0 ∨ (y.bs.length : Int) < n then (1, a) else abBurn a (putS ⟨p, y.bs.take n.toNat, n, true⟩ a.Y)
def abRename (p q : ByteArray) (a : Ab) : Int × Ab :=
  if a.de = true then (7, a) else if by_ p = [] ∨ by_ q = [] then (1, a) else match fnd (by_ p) a.Y with
    | none => (3, a)
    | some y => abBurn a (putS ⟨q, y.bs, (y.bs.length : Nat), true⟩ (wo (by_ p) a.Y))
/-- What may be said of a state behind k acts. -/
structure Good (a : Ab) (k : Nat) : Prop where
  q : 0 ≤ a.q ∧ a.q ≤ 65536
  tot : ((total a.Y : Nat) : Int) ≤ a.q
  srt : Srt a.Y
  len : a.Y.length ≤ k
  nm : ∀ y ∈ a.Y, y.p.size ≤ 1000 ∧ 0 ≤ y.sy ∧ y.sy ≤ y.bs.length
  fz : ∀ m, a.fz = some m → m ≤ 1000
theorem Good.mono {a : Ab} {k k' : Nat} (h : Good a k) (hk : k ≤ k') : Good a k' := ⟨h.q, h.tot, h.srt, Nat.le_trans h.len hk, h.nm, h.fz⟩
theorem Good.burn {a : Ab} {k : Nat} {Y : List Sh} (h : Good a k) (h1 : ((total Y : Nat) : Int) ≤ a.q) (h2 : Srt Y) (h3 : Y.length ≤ k + 1) (h4 : ∀ y ∈ Y, y.p.size ≤ 1000 ∧ 0 ≤ y.sy ∧ y.sy ≤ y.bs.length) : Good (abBurn a Y).2 (k + 1) := by
  unfold abBurn
  split
  · exact ⟨h.q, h.tot, h.srt, Nat.le_succ_of_le h.len, h.nm, h.fz⟩
  · refine ⟨h.q, h1, h2, h3, h4, fun m hm => ?_⟩
    simp only [Ab.did] at hm
    cases hf : a.fz with
    | none => rw [hf] at hm; cases hm
    | some m' =>
      rw [hf] at hm
      simp at hm
      have := h.fz m' hf
      omega
theorem sh_le {y : Sh} {Y : List Sh} (h : y ∈ Y) : y.bs.length ≤ total Y := by
  induction Y with
  | nil => cases h
  | cons a Y ih =>
    rw [total_cons]
    rcases List.mem_cons.1 h with rfl | h
    · omega
    · have := ih h; omega
theorem wo_tot (p : List UInt8) {Y : List Sh} (h : Srt Y) : total (wo p Y) ≤ total Y := by have := total_wo (p := p) h.nodup; omega
/-- The disk is in a state. -/
structure AbD (s : Ds) (F : List Fi) (a : Ab) : Prop where
  q : s.q = a.q
  de : s.de = a.de
  fu : s.fu = a.fz.isSome
  lf : ∀ m, a.fz = some m → s.lf = (m : Nat)
  u : s.u = (total a.Y : Nat)
  pm : (F.map nmF).Perm a.Y
def DkA (w : World) (B d : Nat) (V : Nat → Prop) (a : Ab) : Prop := ∃ mb s F, DkP w B d mb V s F ∧ AbD s F a
section
variable {w w' w1 : World} {B d mb k : Nat} {U V V' : Nat → Prop} {s s2 : Ds} {F F' : List Fi} {a a' : Ab} {p q : ByteArray}
theorem DkA.below (h : DkA w B d V a) (hb : Below w.heap.size w w') : DkA w' B d V a := by
  obtain ⟨mb, s, F, h1, h2⟩ := h
  exact ⟨mb, s, F, h1.below hb, h2⟩
theorem DkA.vol (h : DkA w B d V a) (hv : Vol U w w') (hd : ∀ b, V b → ¬ U b) : DkA w' B d V a := by
  obtain ⟨mb, s, F, h1, h2⟩ := h
  exact ⟨mb, s, F, h1.vol hv hd, h2⟩
theorem DkA.lt (h : DkA w B d V a) : ∀ b, V b → b < w.heap.size := by obtain ⟨mb, s, F, h1, h2⟩ := h; exact h1.lt
theorem DkA.ge (h : DkA w B d V a) : ∀ b, V b → B ≤ b := by obtain ⟨mb, s, F, h1, h2⟩ := h; exact h1.ge
theorem pne {p : ByteArray} (h : by_ p ≠ []) : p.toList.isEmpty = false := by rw [Lib.toList_data]; cases hp : p.data.toList with | nil => exact absurd hp h | cons a l => rfl
theorem pnil {p : ByteArray} (h : by_ p = []) : p.toList.isEmpty = true := by rw [Lib.toList_data, show p.data.toList = [] from h]; rfl

theorem AbD.no_ (h : AbD s F a) (hn : fnd (by_ p) a.Y = Option.none) : ∀ (k : Nat) (x : Fi), F[k]? = Option.some x → hitP p x = false := fun k x hx => by
  have h1 := fnd_none hn (nmF x) (h.pm.mem_iff.1 (List.mem_map.2 ⟨x, List.mem_of_getElem? hx, rfl⟩))
  unfold hitP
  exact decide_eq_false fun e => h1 e.symm
theorem ba_eq {x y : ByteArray} (h : x.data.toList = y.data.toList) : x = y := by
  obtain ⟨⟨a⟩⟩ := x
  obtain ⟨⟨b⟩⟩ := y
  simp only at h
  rw [h]
theorem AbD.yes_ (h : AbD s F a) {y : Sh} (hn : fnd (by_ p) a.Y = Option.some y) : ∃ (j : Nat) (x : Fi), F[j]? = Option.some x ∧ x.p = p ∧ nmF x = y ∧ x.bs = y.bs := by
  obtain ⟨h1, h2⟩ := fnd_some hn
  obtain ⟨x, hx, e⟩ := List.mem_map.1 (h.pm.mem_iff.2 h1)
  obtain ⟨j, hj⟩ := List.getElem?_of_mem hx
  exact ⟨j, x, hj, ba_eq (by rw [← e] at h2; exact h2), e, by rw [← e]⟩
theorem AbD.burn (h : AbD s F a) (hf : ∀ m, a.fz = some m → m ≤ 1000) : (a.fz = some 0 ∧ ∃ s2, burnS s s2 7 ∧ AbD s2 F a.dead) ∨ (a.fz ≠ some 0 ∧ ∃ s2, burnS s s2 0 ∧ s2.u = s.u ∧ s2.q = s.q ∧ s2.de = s.de ∧ ∀ (u : Int) (F' : List Fi) (Y : List Sh), u = (total Y : Nat) → (F'.map nmF).Perm Y → AbD { s2 with u := u } F' (a.did Y)) := by
  obtain ⟨e1, e2, e3, e4, e5, e6⟩ := h
  cases hz : a.fz with
  | none =>
    rw [hz] at e3
    exact .inr ⟨by simp, s, .inl ⟨e3, rfl, rfl⟩, rfl, rfl, rfl, fun u F' Y hu hp => ⟨e1, e2, by simp [Ab.did, hz, e3], (fun m hm => by simp [Ab.did, hz] at hm), hu, hp⟩⟩
  | some m =>
    rw [hz] at e3
    cases m with
    | zero => exact .inl ⟨rfl, _, .inr (.inr ⟨e3, by rw [e4 0 hz]; rfl, rfl, rfl⟩), ⟨e1, rfl, by simp [Ab.dead, hz, e3], (fun m hm => e4 m hm), e5, e6⟩⟩
    | succ m => exact .inr ⟨by simp, _, .inr (.inl ⟨e3, m, by rw [e4 _ hz]; simp, by have := hf _ hz; omega, rfl, rfl⟩), rfl, rfl, rfl, fun u F' Y hu hp => ⟨e1, e2, by simp [Ab.did, hz, e3], (fun m' hm => by simp [Ab.did, hz] at hm; subst hm; rfl), hu, hp⟩⟩
/-- What an act of the disk leaves. -/
def PsD (w : World) (B d : Nat) (V : Nat → Prop) (t : Int × Ab) (e : Ending) (w' : World) : Prop :=
  e = .returned (.int .i64 t.1) ∧ ∃ V', DkA w' B d V' t.2 ∧ Vol V w w' ∧ ∀ b, V' b → V b ∨ w.heap.size ≤ b
theorem psD_keep {t : Int} (H : DkA w B d V a) {e : Ending} (he : e = .returned (.int .i64 t)) (hb : Below w.heap.size w w') : PsD w B d V (t, a) e w' := ⟨he, V, H.below hb, Vol.of_below hb, fun b e => .inl e⟩
set_option maxHeartbeats 4000000 in
theorem Index1e {g : Nat} (hb : Blk w g 9 #[.string p]) (hp : p.toList.isEmpty = true) :
    Calls Try.prog 84 #[.slice (some ⟨g, 0, none⟩) 1 1, .string ⟨#[]⟩] w fun r w' => r = .returned (.int .i64 0) ∧ Below w.heap.size w w' := by
  have c1 : w.cell? ⟨g, 0, none⟩ = some (.string p) := hb.cell 0
  clear hb
  go_enter Try.func84, Try.ntmps84
  go_wp2_with fail
  go_loopw [8] (fun i wr => i = .int .i64 0 ∧ wr = w) (fun i _ => 2 - (intOf i).toNat)
  case atStart => exact ⟨rfl, rfl⟩
  case round =>
    obtain ⟨rfl, rfl⟩ := hrel
    go_wp2_with fail
    go_ret
    exact ⟨rfl, Below.refl _ _⟩
set_option maxHeartbeats 4000000 in
theorem Index2e {g : Nat} (hb : Blk w g 9 #[.string p, .string q]) (hp : p.toList.isEmpty = true ∨ (p.toList.isEmpty = false ∧ q.toList.isEmpty = true)) :
    Calls Try.prog 84 #[.slice (some ⟨g, 0, none⟩) 2 2, .string ⟨#[]⟩] w fun r w' => (r = .returned (.int .i64 0) ∨ r = .returned (.int .i64 1)) ∧ Below w.heap.size w w' := by
  have c1 : w.cell? ⟨g, 0, none⟩ = some (.string p) := hb.cell 0
  have c2 : w.cell? ⟨g, 1, none⟩ = some (.string q) := hb.cell 1
  clear hb
  go_enter Try.func84, Try.ntmps84
  go_wp2_with fail
  go_loopw [8] (fun i wr => (i = .int .i64 0 ∨ (i = .int .i64 1 ∧ p.toList.isEmpty = false)) ∧ wr = w) (fun i _ => 2 - (intOf i).toNat)
  case atStart => exact ⟨.inl rfl, rfl⟩
  case round =>
    obtain ⟨rfl | ⟨rfl, h0⟩, rfl⟩ := hrel
    · rcases hp with hp | ⟨hp, hq⟩
      · go_wp2_with fail
        go_ret
        exact ⟨.inl rfl, Below.refl _ _⟩
      · go_wp2_with fail
        go_roundw
        case rel => exact ⟨.inr ⟨by go_num, hp⟩, trivial⟩
        case measure => simp [intOf]
    · rcases hp with hp | ⟨hp, hq⟩
      · rw [h0] at hp; cases hp
      · go_wp2_with fail
        go_ret
        exact ⟨.inr rfl, Below.refl _ _⟩
set_option maxHeartbeats 4000000 in
theorem refuse1e {g : Nat} (hd : Blk w d 80 (dsC s mb)) (hs : s.de = false) (hb : Blk w g 9 #[.string p]) (hp : p.toList.isEmpty = true) :
    Calls Try.prog 61 #[.pointer (some ⟨d, 0, none⟩), .slice (some ⟨g, 0, none⟩) 1 1] w fun r w' => r = .returned (.int .i64 1) ∧ Below w.heap.size w w' := by
  have c5 : w.cell? ⟨d, 5, none⟩ = some (.bool false) := by rw [← hs]; exact hd.cell 5
  have hI := Index1e hb hp
  have hC : Calls Try.prog 79 #[.slice (some ⟨g, 0, none⟩) 1 1, .string ⟨#[]⟩] w fun r w' => r = .returned (.bool true) ∧ Below w.heap.size w w' := by
    clear hd hb c5
    go_enter Try.func79, Try.ntmps79
    go_wp2_with fail
    refine hI.mono ?_
    rintro r w1 ⟨rfl, b1⟩
    go_wp2_with fail
    go_ret
    exact ⟨rfl, b1⟩
  clear hd hb hI
  go_enter Try.func61, Try.ntmps61
  go_wp2_with fail
  refine hC.mono ?_
  rintro r w1 ⟨rfl, b1⟩
  go_wp2_with fail
  go_ret
  exact ⟨rfl, b1⟩
set_option maxHeartbeats 4000000 in
theorem refuse2e {g : Nat} (hd : Blk w d 80 (dsC s mb)) (hs : s.de = false) (hb : Blk w g 9 #[.string p, .string q]) (hp : p.toList.isEmpty = true ∨ (p.toList.isEmpty = false ∧ q.toList.isEmpty = true)) :
    Calls Try.prog 61 #[.pointer (some ⟨d, 0, none⟩), .slice (some ⟨g, 0, none⟩) 2 2] w fun r w' => r = .returned (.int .i64 1) ∧ Below w.heap.size w w' := by
  have c5 : w.cell? ⟨d, 5, none⟩ = some (.bool false) := by rw [← hs]; exact hd.cell 5
  have hI := Index2e hb hp
  have hC : Calls Try.prog 79 #[.slice (some ⟨g, 0, none⟩) 2 2, .string ⟨#[]⟩] w fun r w' => r = .returned (.bool true) ∧ Below w.heap.size w w' := by
    clear hd hb c5 hp
    go_enter Try.func79, Try.ntmps79
    go_wp2_with fail
    refine hI.mono ?_
    rintro r w1 ⟨hr, b1⟩
    rcases hr with rfl | rfl
    all_goals
      go_wp2_with fail
      go_ret
      exact ⟨rfl, b1⟩
  clear hd hb hI hp
  go_enter Try.func61, Try.ntmps61
  go_wp2_with fail
  refine hC.mono ?_
  rintro r w1 ⟨rfl, b1⟩
  go_wp2_with fail
  go_ret
  exact ⟨rfl, b1⟩
set_option maxHeartbeats 4000000 in
theorem find_arg (H : DkP w B d mb V s F) (hp : p.toList.isEmpty = true) (hs : s.de = false) :
    Calls Try.prog 63 #[.pointer (some ⟨d, 0, none⟩), .string p] w fun r w' => r = .returned (.tuple #[.pointer none, .int .i64 1]) ∧ Below w.heap.size w w' := by
  obtain ⟨W, hW⟩ : ∃ W, W = w.alloc (.cells #[.string p] 9) := ⟨_, rfl⟩
  have hbW : Below w.heap.size w W := by rw [hW]; exact (Below.refl _ _).alloc (Nat.le_refl _) _
  have hkW : Blk W w.heap.size 9 #[.string p] := by rw [hW]; exact Blk.new _ _ _
  have H1 := H.below hbW
  have hRf := refuse1e H1.blk hs hkW hp
  have HW := Lib.hid hW
  have HB := Lib.hid hbW
  clear hW H H1 hbW hkW
  go_enter Try.func63, Try.ntmps63
  go_wp2_with fail
  rw [← HW.out]
  refine hRf.mono ?_
  rintro r w1 ⟨rfl, b1⟩
  clear hRf
  go_wp2_with fail
  go_ret2
  exact ⟨rfl, HB.out.trans (b1.mono HB.out.size)⟩
set_option maxHeartbeats 4000000 in
theorem Append_arg {A : Option Addr} {n c : Nat} (H : DkP w B d mb V s F) (hp : p.toList.isEmpty = true) (hs : s.de = false) :
    Calls Try.prog 16 #[.pointer (some ⟨d, 0, none⟩), .string p, .slice A n c] w fun r w' => r = .returned (.int .i64 1) ∧ Below w.heap.size w w' := by
  obtain ⟨W, hW⟩ : ∃ W, W = w.alloc (.cells #[.string p] 9) := ⟨_, rfl⟩
  have hbW : Below w.heap.size w W := by rw [hW]; exact (Below.refl _ _).alloc (Nat.le_refl _) _
  have hkW : Blk W w.heap.size 9 #[.string p] := by rw [hW]; exact Blk.new _ _ _
  have H1 := H.below hbW
  have hRf := refuse1e H1.blk hs hkW hp
  have HW := Lib.hid hW
  have HB := Lib.hid hbW
  clear hW H H1 hbW hkW
  go_enter Try.func16, Try.ntmps16
  go_wp2_with fail
  rw [← HW.out]
  refine hRf.mono ?_
  rintro r w1 ⟨rfl, b1⟩
  clear hRf
  go_wp2_with fail
  go_ret
  exact ⟨rfl, HB.out.trans (b1.mono HB.out.size)⟩
/-- An act on a file that can't be found. -/
def errE (t : Int) : Prop := t = 7 ∨ t = 1 ∨ t = 3
set_option maxHeartbeats 4000000 in
theorem Sync_err {t : Int} (ht : errE t) (hF : Calls Try.prog 63 #[.pointer (some ⟨d, 0, none⟩), .string p] w fun r w' => r = .returned (.tuple #[.pointer none, .int .i64 t]) ∧ Below w.heap.size w w') :
    Calls Try.prog 25 #[.pointer (some ⟨d, 0, none⟩), .string p] w fun r w' => r = .returned (.int .i64 t) ∧ Below w.heap.size w w' := by
  have hne : (t != 0) = true := by rcases ht with rfl | rfl | rfl <;> rfl
  clear ht
  go_enter Try.func25, Try.ntmps25
  go_wp2_with fail
  refine hF.mono ?_
  rintro r w1 ⟨rfl, b1⟩
  clear hF
  go_wp2_with fail
  go_ret
  exact ⟨rfl, b1⟩
set_option maxHeartbeats 4000000 in
theorem Cut_err {t n : Int} (ht : errE t) (hF : Calls Try.prog 63 #[.pointer (some ⟨d, 0, none⟩), .string p] w fun r w' => r = .returned (.tuple #[.pointer none, .int .i64 t]) ∧ Below w.heap.size w w') :
    Calls Try.prog 17 #[.pointer (some ⟨d, 0, none⟩), .string p, .int .i64 n] w fun r w' => r = .returned (.int .i64 t) ∧ Below w.heap.size w w' := by
  have hne : (t != 0) = true := by rcases ht with rfl | rfl | rfl <;> rfl
  clear ht
  go_enter Try.func17, Try.ntmps17
  go_wp2_with fail
  refine hF.mono ?_
  rintro r w1 ⟨rfl, b1⟩
  clear hF
  go_wp2_with fail
  go_ret
  exact ⟨rfl, b1⟩
set_option maxHeartbeats 4000000 in
theorem Remove_err {t : Int} (ht : errE t) (hF : Calls Try.prog 63 #[.pointer (some ⟨d, 0, none⟩), .string p] w fun r w' => r = .returned (.tuple #[.pointer none, .int .i64 t]) ∧ Below w.heap.size w w') :
    Calls Try.prog 20 #[.pointer (some ⟨d, 0, none⟩), .string p] w fun r w' => r = .returned (.int .i64 t) ∧ Below w.heap.size w w' := by
  have hne : (t != 0) = true := by rcases ht with rfl | rfl | rfl <;> rfl
  clear ht
  go_enter Try.func20, Try.ntmps20
  go_wp2_with fail
  refine hF.mono ?_
  rintro r w1 ⟨rfl, b1⟩
  clear hF
  go_wp2_with fail
  go_ret
  exact ⟨rfl, b1⟩
set_option maxHeartbeats 4000000 in
theorem Rename_dead {q : ByteArray} (H : DkP w B d mb V s F) (hs : s.de = true) :
    Calls Try.prog 19 #[.pointer (some ⟨d, 0, none⟩), .string p, .string q] w fun r w' => r = .returned (.int .i64 7) ∧ Below w.heap.size w w' := by
  obtain ⟨W, hW⟩ : ∃ W, W = w.alloc (.cells #[.string p, .string q] 9) := ⟨_, rfl⟩
  have hbW : Below w.heap.size w W := by rw [hW]; exact (Below.refl _ _).alloc (Nat.le_refl _) _
  have H1 := H.below hbW
  have hRf := refuse_dead (A := some ⟨w.heap.size, 0, none⟩) (n := 2) (c := 2) H1.blk hs
  have HW := Lib.hid hW
  have HB := Lib.hid hbW
  clear hW H H1 hbW
  go_enter Try.func19, Try.ntmps19
  go_wp2_with fail
  rw [← HW.out]
  refine hRf.mono ?_
  rintro r w1 ⟨rfl, b1⟩
  clear hRf
  go_wp2_with fail
  go_ret
  exact ⟨rfl, HB.out.trans (b1.mono HB.out.size)⟩
set_option maxHeartbeats 4000000 in
theorem Rename_arg {q : ByteArray} (H : DkP w B d mb V s F) (hs : s.de = false) (hp : p.toList.isEmpty = true ∨ (p.toList.isEmpty = false ∧ q.toList.isEmpty = true)) :
    Calls Try.prog 19 #[.pointer (some ⟨d, 0, none⟩), .string p, .string q] w fun r w' => r = .returned (.int .i64 1) ∧ Below w.heap.size w w' := by
  obtain ⟨W, hW⟩ : ∃ W, W = w.alloc (.cells #[.string p, .string q] 9) := ⟨_, rfl⟩
  have hbW : Below w.heap.size w W := by rw [hW]; exact (Below.refl _ _).alloc (Nat.le_refl _) _
  have hkW : Blk W w.heap.size 9 #[.string p, .string q] := by rw [hW]; exact Blk.new _ _ _
  have H1 := H.below hbW
  have hRf := refuse2e H1.blk hs hkW hp
  have HW := Lib.hid hW
  have HB := Lib.hid hbW
  clear hW H H1 hbW hkW hp
  go_enter Try.func19, Try.ntmps19
  go_wp2_with fail
  rw [← HW.out]
  refine hRf.mono ?_
  rintro r w1 ⟨rfl, b1⟩
  clear hRf
  go_wp2_with fail
  go_ret
  exact ⟨rfl, HB.out.trans (b1.mono HB.out.size)⟩
set_option maxHeartbeats 4000000 in
theorem Rename_none {q : ByteArray} (H : DkP w B d mb V s F) (hs : s.de = false) (hp : p.toList.isEmpty = false) (hq : q.toList.isEmpty = false) (hno : ∀ (k : Nat) (x : Fi), F[k]? = some x → hitP p x = false) :
    Calls Try.prog 19 #[.pointer (some ⟨d, 0, none⟩), .string p, .string q] w fun r w' => r = .returned (.int .i64 3) ∧ Below w.heap.size w w' := by
  obtain ⟨W, hW⟩ : ∃ W, W = w.alloc (.cells #[.string p, .string q] 9) := ⟨_, rfl⟩
  have hbW : Below w.heap.size w W := by rw [hW]; exact (Below.refl _ _).alloc (Nat.le_refl _) _
  have hkW : Blk W w.heap.size 9 #[.string p, .string q] := by rw [hW]; exact Blk.new _ _ _
  have H1 := H.below hbW
  have hRf := refuse2 H1.blk hs hkW hp hq
  have HW := Lib.hid hW
  have HB := Lib.hid hbW
  have HH := Lib.hid H1
  have HN := Lib.hid hno
  clear hW H H1 hbW hkW hno
  go_enter Try.func19, Try.ntmps19
  go_wp2_with fail
  rw [← HW.out]
  refine hRf.mono ?_
  rintro r w1 ⟨rfl, b1⟩
  have hF := find_no (HH.out.below b1) HN.out hp hs
  clear hRf
  go_wp2_with fail
  refine hF.mono ?_
  rintro r w2 ⟨rfl, b2⟩
  clear hF
  go_wp2_with fail
  go_ret
  exact ⟨rfl, (HB.out.trans (b1.mono HB.out.size)).trans (b2.mono (Nat.le_trans HB.out.size b1.size))⟩
end
end Go.Proofs.Ytplmfmcogbdpjaa.Dk
namespace Go.Proofs.Ytplmfmcogbdpjaa.Dk
open Go Go.RowKit Go.Proofs.Ytplmfmcogbdpjaa Go.Proofs.Ytplmfmcogbdpjaa.Crw Go.Proofs.Ytplmfmcogbdpjaa.Vl Go.ChangeShapes Go.WideShapes Go.ChangeAt
set_option linter.unusedVariables false
set_option maxRecDepth 100000
section
variable {w w' w1 : World} {B d mb k : Nat} {U V V' : Nat → Prop} {s s2 : Ds} {F F' : List Fi} {a a' : Ab} {p q : ByteArray} {Y : List Sh}
theorem pm_nodup (pm : (F.map nmF).Perm Y) (hs : Srt Y) : ((F.map nmF).map Sh.ky).Nodup := (pm.map Sh.ky).nodup_iff.2 hs.nodup
theorem map_get {j : Nat} {x : Fi} (hj : F[j]? = some x) : (F.map nmF)[j]? = some (nmF x) := by rw [List.getElem?_map, hj]; rfl
theorem perm_set (pm : (F.map nmF).Perm Y) (hs : Srt Y) {j : Nat} {x x' : Fi} (hj : F[j]? = some x) (hx : x'.p = x.p) : ((F.set j x').map nmF).Perm (putS (nmF x') Y) := by
  rw [List.map_set]
  refine (set_wo (p := by_ x.p) (pm_nodup pm hs) (map_get hj) rfl).trans ?_
  have e : by_ x.p = (nmF x').ky := by show by_ x.p = by_ x'.p; rw [hx]
  rw [e]
  exact ((wo_perm pm).cons _).trans putS_perm.symm
theorem perm_new (pm : (F.map nmF).Perm Y) {x : Fi} (hn : fnd (by_ x.p) Y = none) : ((F ++ [x]).map nmF).Perm (putS (nmF x) Y) := by
  rw [List.map_append]
  refine List.perm_append_comm.trans ?_
  refine List.Perm.trans ?_ putS_perm.symm
  rw [show wo (nmF x).ky Y = Y from wo_id (fnd_none hn)]
  exact pm.cons _
theorem perm_erase (pm : (F.map nmF).Perm Y) (hs : Srt Y) {j : Nat} {x : Fi} (hj : F[j]? = some x) : ((F.eraseIdx j).map nmF).Perm (wo (by_ x.p) Y) := by
  rw [show (F.eraseIdx j).map nmF = (F.map nmF).eraseIdx j by rw [List.eraseIdx_eq_take_drop_succ, List.eraseIdx_eq_take_drop_succ, List.map_append, List.map_take, List.map_drop]]
  rw [erase_wo (p := by_ x.p) (pm_nodup pm hs) (map_get hj) rfl]
  exact wo_perm pm
theorem DkP.bl {j : Nat} {x : Fi} (g : Good a k) (ab : AbD s F a) (hj : F[j]? = some x) : x.bs.length ≤ 65536 := by
  have h1 := sh_le (ab.pm.mem_iff.1 (List.mem_map.2 ⟨x, List.mem_of_getElem? hj, rfl⟩))
  have h2 := g.tot
  have h3 := g.q
  simp only at h1
  omega
theorem tot_put {f y : Sh} (hs : Srt Y) (hf : fnd f.ky Y = some y) : total (putS f Y) + y.bs.length = total Y + f.bs.length := by
  have h1 := total_wo (p := f.ky) hs.nodup
  rw [hf] at h1
  simp only at h1
  rw [total_put hs]
  omega
theorem tot_new {f : Sh} (hs : Srt Y) (hf : fnd f.ky Y = none) : total (putS f Y) = total Y + f.bs.length := by
  rw [total_put hs, wo_id (fnd_none hf)]
  omega
theorem tot_wo {p : List UInt8} {y : Sh} (hs : Srt Y) (hf : fnd p Y = some y) : total (wo p Y) + y.bs.length = total Y := by
  have h1 := total_wo (p := p) hs.nodup
  rw [hf] at h1
  simp only at h1
  omega
set_option maxHeartbeats 4000000 in
theorem D_Append {A : Option Addr} {n c B' : Nat} {bs : List Int} (H : DkA w B d V a) (g : Good a k) (hr : Reads w B' 1 A n (bsV bs)) (hB' : B' ≤ w.heap.size) (hA : ∀ ad, A = some ad → ¬ V ad.block) :
    Calls Try.prog 16 #[.pointer (some ⟨d, 0, none⟩), .string p, .slice A n c] w (PsD w B d V (abAppend p bs a)) := by
  obtain ⟨mb, s, F, h, ab⟩ := H
  have hlen : bs.length = n := by have := hr.1; simpa [bsV] using this
  have hq : 0 ≤ s.q ∧ s.q ≤ 65536 := by rw [ab.q]; exact g.q
  have hu : 0 ≤ s.u ∧ s.u ≤ 65536 := by rw [ab.u]; have := g.tot; have := g.q; omega
  unfold abAppend
  by_cases hd : a.de = true
  · rw [if_pos hd]
    exact (Append_dead h (by rw [ab.de]; exact hd)).mono fun e w1 ⟨he, hb⟩ => psD_keep ⟨mb, s, F, h, ab⟩ he hb
  rw [if_neg hd]
  have hde : s.de = false := by rw [ab.de]; simpa using hd
  by_cases hp : by_ p = []
  · rw [if_pos hp]
    exact (Append_arg h (pnil hp) hde).mono fun e w1 ⟨he, hb⟩ => psD_keep ⟨mb, s, F, h, ab⟩ he hb
  rw [if_neg hp]
  have hpe := pne hp
  by_cases hfull : a.q - (total a.Y : Nat) < (bs.length : Nat)
  · rw [if_pos hfull]
    exact (Append_full h hpe hde hq hu (by rw [ab.q, ab.u, ← hlen]; exact hfull)).mono fun e w1 ⟨he, hb⟩ => psD_keep ⟨mb, s, F, h, ab⟩ he hb
  rw [if_neg hfull]
  have hfit : (n : Int) ≤ s.q - s.u := by rw [ab.q, ab.u, ← hlen]; omega
  unfold abBurn
  rcases ab.burn g.fz with ⟨hz, s2, hbs, ab2⟩ | ⟨hz, s2, hbs, hsu, hsq, hsd, hab⟩
  · rw [if_pos hz]
    exact (Append_dies h hpe hde hbs hq hu hfit).mono fun e w1 ⟨he, hD, hv⟩ => ⟨he, V, ⟨mb, s2, F, hD, ab2⟩, hv, fun b e => .inl e⟩
  · rw [if_neg hz]
    cases hf : fnd (by_ p) a.Y with
    | none =>
      refine (Append_newF h (ab.no_ hf) hpe hde hbs hsu hq hu hr hB' hA hfit).mono ?_
      rintro e w1 ⟨he, V', g', v, hD, hv, hV⟩
      have eg : grow p bs a.Y = nmF ⟨p, g', v, bs, 0, false⟩ := by simp [grow, hf]
      refine ⟨he, V', ⟨mb, _, _, hD, hab _ _ _ ?_ ?_⟩, hv, hV⟩
      · rw [hsu, ab.u, eg, tot_new g.srt hf]
        simp only
        omega
      · rw [eg]
        exact perm_new ab.pm hf
    | some y =>
      obtain ⟨j, x, hj, hxp, hxy, hxb⟩ := ab.yes_ hf
      refine (Append_oldF h hj hxp hpe hde hbs hsu hq hu (DkP.bl g ab hj) hr hB' hA hfit).mono ?_
      rintro e w1 ⟨he, V', v, hD, hv, hV⟩
      have eg : grow p bs a.Y = nmF { x with v := v, bs := x.bs ++ bs } := by simp only [grow, hf]; rw [← hxy, ← hxp]
      refine ⟨he, V', ⟨mb, _, _, hD, hab _ _ _ ?_ ?_⟩, hv, hV⟩
      · have h1 := tot_put (f := grow p bs a.Y) (y := y) g.srt (by rw [show (grow p bs a.Y).ky = by_ p by rw [eg, ← hxp]]; exact hf)
        have h2 : (grow p bs a.Y).bs.length = y.bs.length + n := by rw [eg]; simp only [List.length_append, hxb, hlen]
        rw [hsu, ab.u]
        omega
      · rw [eg]
        exact perm_set ab.pm g.srt hj rfl
set_option maxHeartbeats 4000000 in
theorem Cut_bad {n : Int} (H : DkP w B d mb V s F) {j : Nat} {x : Fi} (hj : F[j]? = some x) (hxp : x.p = p) (hp : p.toList.isEmpty = false) (hs : s.de = false) (hn : n < 0 ∨ (x.bs.length : Int) < n) :
    Calls Try.prog 17 #[.pointer (some ⟨d, 0, none⟩), .string p, .int .i64 n] w fun r w' => r = .returned (.int .i64 1) ∧ Below w.heap.size w w' := by
  have hF := find_yes H hj hxp hp hs
  obtain ⟨A1, c1, hxv, -, -⟩ := own_slice (H.rows j x hj)
  obtain ⟨L, hL⟩ : ∃ L, L = x.bs.length := ⟨_, rfl⟩
  obtain ⟨g, hg⟩ : ∃ g, g = x.g := ⟨_, rfl⟩
  rw [← hL] at hxv hn
  rw [← hg] at hF
  have HJ := Lib.hid hj
  have HH := Lib.hid H
  have HX := Lib.hid hxv
  have HG := Lib.hid hg
  clear hj H hxv hg hL
  go_enter Try.func17, Try.ntmps17
  go_wp2_with fail
  refine hF.mono ?_
  rintro r w1 ⟨rfl, b1⟩
  have H2 := HH.out.below b1
  have x0 : w1.cell? ⟨g, 0, none⟩ = some (.slice A1 L c1) := by rw [← HX.out, HG.out]; exact (H2.fls j x HJ.out).cell 0
  clear H2 hF
  by_cases hneg : n < 0
  · go_wp2_with fail
    go_ret
    exact ⟨rfl, b1⟩
  · have hgt : (L : Int) < n := by omega
    clear hn
    go_wp2_with fail
    go_ret
    exact ⟨rfl, b1⟩
set_option maxHeartbeats 4000000 in
theorem Remove_F (H : DkP w B d mb V s F) {j : Nat} {x : Fi} (hj : F[j]? = some x) (hxp : x.p = p) (hp : p.toList.isEmpty = false) (hs : s.de = false) (hbs : burnS s s2 0) (hxl : x.bs.length ≤ 65536) (hu : 0 ≤ s2.u ∧ s2.u ≤ 65536) :
    Calls Try.prog 20 #[.pointer (some ⟨d, 0, none⟩), .string p] w fun r w' => r = .returned (.int .i64 0) ∧ DkP w' B d mb V { s2 with u := s2.u - (x.bs.length : Int) } (F.eraseIdx j) ∧ Vol V w w' := by
  have hF := find_yes H hj hxp hp hs
  have HJ := Lib.hid hj
  have HH := Lib.hid H
  clear hj H
  go_enter Try.func20, Try.ntmps20
  go_wp2_with fail
  refine hF.mono ?_
  rintro r w1 ⟨rfl, b1⟩
  have hBu := burn_all (HH.out.below b1) hbs
  clear hF
  go_wp2_with fail
  refine hBu.mono ?_
  rintro r w3 ⟨rfl, H4, v3⟩
  have hCu := remove_yes H4 HJ.out hxp hxl hu
  have V3 := Lib.hid v3
  clear H4 hBu v3
  go_wp2_with fail
  refine hCu.mono ?_
  rintro r w4 ⟨⟨u, rfl⟩, H5, v5⟩
  clear hCu
  go_wp2_with fail
  go_ret
  exact ⟨rfl, H5, ((Vol.of_below b1).trans V3.out (fun b e => .inl e)).trans v5 (fun b e => .inl e)⟩
set_option maxHeartbeats 4000000 in
theorem Remove_dies (H : DkP w B d mb V s F) {j : Nat} {x : Fi} (hj : F[j]? = some x) (hxp : x.p = p) (hp : p.toList.isEmpty = false) (hs : s.de = false) (hbs : burnS s s2 7) :
    Calls Try.prog 20 #[.pointer (some ⟨d, 0, none⟩), .string p] w fun r w' => r = .returned (.int .i64 7) ∧ DkP w' B d mb V s2 F ∧ Vol V w w' := by
  have hF := find_yes H hj hxp hp hs
  have HH := Lib.hid H
  clear hj H
  go_enter Try.func20, Try.ntmps20
  go_wp2_with fail
  refine hF.mono ?_
  rintro r w1 ⟨rfl, b1⟩
  have hBu := burn_all (HH.out.below b1) hbs
  clear hF
  go_wp2_with fail
  refine hBu.mono ?_
  rintro r w3 ⟨rfl, H4, v3⟩
  clear hBu
  go_wp2_with fail
  go_ret
  exact ⟨rfl, H4, (Vol.of_below b1).trans v3 (fun b e => .inl e)⟩
set_option maxHeartbeats 4000000 in
theorem Rename_same (H : DkP w B d mb V s F) {j : Nat} {x : Fi} (hj : F[j]? = some x) (hxp : x.p = p) (hp : p.toList.isEmpty = false) (hs : s.de = false) (hbs : burnS s s2 0) :
    Calls Try.prog 19 #[.pointer (some ⟨d, 0, none⟩), .string p, .string p] w fun r w' => r = .returned (.int .i64 0) ∧ DkP w' B d mb V s2 (F.set j { x with sy := x.bs.length, fi := true }) ∧ Vol V w w' := by
  obtain ⟨W, hW⟩ : ∃ W, W = w.alloc (.cells #[.string p, .string p] 9) := ⟨_, rfl⟩
  have hbW : Below w.heap.size w W := by rw [hW]; exact (Below.refl _ _).alloc (Nat.le_refl _) _
  have hkW : Blk W w.heap.size 9 #[.string p, .string p] := by rw [hW]; exact Blk.new _ _ _
  have H1 := H.below hbW
  have hRf := refuse2 H1.blk hs hkW hp hp
  obtain ⟨A1, c1, hxv, -, -⟩ := own_slice (H.rows j x hj)
  obtain ⟨g, hg⟩ : ∃ g, g = x.g := ⟨_, rfl⟩
  have HW := Lib.hid hW
  have HJ := Lib.hid hj
  have HP := Lib.hid hxp
  have HX := Lib.hid hxv
  have HG := Lib.hid hg
  have HH := Lib.hid H1
  have HB := Lib.hid hbW
  have hpp : (p.toList == p.toList) = true := by simp
  clear hW hj H H1 hbW hkW hxp hxv hg
  go_enter Try.func19, Try.ntmps19
  go_wp2_with fail
  rw [← HW.out]
  refine hRf.mono ?_
  rintro r w1 ⟨rfl, b1⟩
  have H2 := HH.out.below b1
  have hF := find_yes H2 HJ.out HP.out hp hs
  rw [← HG.out] at hF
  have H2' := Lib.hid H2
  clear H2 hRf
  go_wp2_with fail
  refine hF.mono ?_
  rintro r w2 ⟨rfl, b2⟩
  have hBu := burn_all (H2'.out.below b2) hbs
  clear hF
  go_wp2_with fail
  refine hBu.mono ?_
  rintro r w3 ⟨rfl, H4, b3⟩
  have hSe := settle_ (H4.fls j x HJ.out) A1 _ c1 HX.out
  rw [← HG.out] at hSe
  have H4' := Lib.hid H4
  have V3 := Lib.hid b3
  clear H4 hBu b3
  go_wp2_with fail
  refine hSe.mono ?_
  rintro r w4 ⟨⟨u4, rfl⟩, hb4, hv4⟩
  clear hSe
  have H5 := Lib.hid (show DkP w4 B d mb V s2 (F.set j { x with sy := x.bs.length, fi := true }) ∧ Vol V w3 w4 from H4'.out.settled HJ.out (by rw [← HG.out]; exact hb4) (by rw [← HG.out]; exact hv4))
  clear hb4 hv4
  go_wp2_with fail
  go_ret
  exact ⟨rfl, H5.out.1, (((Vol.of_below ((HB.out.trans (b1.mono HB.out.size)).trans (b2.mono (Nat.le_trans HB.out.size b1.size)))).trans V3.out (fun b e => .inl e))).trans H5.out.2 (fun b e => .inl e)⟩
set_option maxHeartbeats 4000000 in
theorem D_Sync (H : DkA w B d V a) (g : Good a k) :
    Calls Try.prog 25 #[.pointer (some ⟨d, 0, none⟩), .string p] w (PsD w B d V (abSync p a)) := by
  obtain ⟨mb, s, F, h, ab⟩ := H
  have hu : 0 ≤ s.u ∧ s.u ≤ 65536 := by rw [ab.u]; have := g.tot; have := g.q; omega
  unfold abSync abFind
  by_cases hd : a.de = true
  · rw [if_pos hd]
    exact (Sync_err (.inl rfl) (find_dead h (by rw [ab.de]; exact hd))).mono fun e w1 ⟨he, hb⟩ => psD_keep ⟨mb, s, F, h, ab⟩ he hb
  rw [if_neg hd]
  have hde : s.de = false := by rw [ab.de]; simpa using hd
  by_cases hp : by_ p = []
  · rw [if_pos hp]
    exact (Sync_err (.inr (.inl rfl)) (find_arg h (pnil hp) hde)).mono fun e w1 ⟨he, hb⟩ => psD_keep ⟨mb, s, F, h, ab⟩ he hb
  rw [if_neg hp]
  have hpe := pne hp
  cases hf : fnd (by_ p) a.Y with
  | none => exact (Sync_err (.inr (.inr rfl)) (find_no h (ab.no_ hf) hpe hde)).mono fun e w1 ⟨he, hb⟩ => psD_keep ⟨mb, s, F, h, ab⟩ he hb
  | some y =>
    obtain ⟨j, x, hj, hxp, hxy, hxb⟩ := ab.yes_ hf
    have hxl := DkP.bl g ab hj
    have hyl := sh_le (fnd_some hf).1
    have hgt := g.tot
    have hgq := g.q
    simp only
    unfold abBurn
    rcases ab.burn g.fz with ⟨hz, s2, hbs, ab2⟩ | ⟨hz, s2, hbs, hsu, hsq, hsd, hab⟩
    · rw [if_pos hz]
      exact (Sync_dies h hj hxp hpe hde hbs).mono fun e w1 ⟨he, hD, hv⟩ => ⟨he, V, ⟨mb, s2, F, hD, ab2⟩, hv, fun b e => .inl e⟩
    · rw [if_neg hz]
      refine (Sync_yesF h hj hxp hpe hde hbs).mono ?_
      rintro e w1 ⟨he, hD, hv⟩
      have eg : (⟨p, y.bs, (y.bs.length : Nat), true⟩ : Sh) = nmF { x with sy := x.bs.length, fi := true } := by rw [← hxp, ← hxb]; simp
      refine ⟨he, V, ⟨mb, s2, _, hD, ?_⟩, hv, fun b e => .inl e⟩
      have h2 := hab s2.u (F.set j { x with sy := x.bs.length, fi := true }) (putS ⟨p, y.bs, (y.bs.length : Nat), true⟩ a.Y) ?_ ?_
      · exact h2
      · have h1 := tot_put (f := ⟨p, y.bs, (y.bs.length : Nat), true⟩) (y := y) g.srt hf
        rw [hsu, ab.u]
        simp only at h1
        omega
      · rw [eg]
        exact perm_set ab.pm g.srt hj rfl
set_option maxHeartbeats 4000000 in
theorem D_Remove (H : DkA w B d V a) (g : Good a k) :
    Calls Try.prog 20 #[.pointer (some ⟨d, 0, none⟩), .string p] w (PsD w B d V (abRemove p a)) := by
  obtain ⟨mb, s, F, h, ab⟩ := H
  have hu : 0 ≤ s.u ∧ s.u ≤ 65536 := by rw [ab.u]; have := g.tot; have := g.q; omega
  unfold abRemove abFind
  by_cases hd : a.de = true
  · rw [if_pos hd]
    exact (Remove_err (.inl rfl) (find_dead h (by rw [ab.de]; exact hd))).mono fun e w1 ⟨he, hb⟩ => psD_keep ⟨mb, s, F, h, ab⟩ he hb
  rw [if_neg hd]
  have hde : s.de = false := by rw [ab.de]; simpa using hd
  by_cases hp : by_ p = []
  · rw [if_pos hp]
    exact (Remove_err (.inr (.inl rfl)) (find_arg h (pnil hp) hde)).mono fun e w1 ⟨he, hb⟩ => psD_keep ⟨mb, s, F, h, ab⟩ he hb
  rw [if_neg hp]
  have hpe := pne hp
  cases hf : fnd (by_ p) a.Y with
  | none => exact (Remove_err (.inr (.inr rfl)) (find_no h (ab.no_ hf) hpe hde)).mono fun e w1 ⟨he, hb⟩ => psD_keep ⟨mb, s, F, h, ab⟩ he hb
  | some y =>
    obtain ⟨j, x, hj, hxp, hxy, hxb⟩ := ab.yes_ hf
    have hxl := DkP.bl g ab hj
    have hyl := sh_le (fnd_some hf).1
    have hgt := g.tot
    have hgq := g.q
    simp only
    unfold abBurn
    rcases ab.burn g.fz with ⟨hz, s2, hbs, ab2⟩ | ⟨hz, s2, hbs, hsu, hsq, hsd, hab⟩
    · rw [if_pos hz]
      exact (Remove_dies h hj hxp hpe hde hbs).mono fun e w1 ⟨he, hD, hv⟩ => ⟨he, V, ⟨mb, s2, F, hD, ab2⟩, hv, fun b e => .inl e⟩
    · rw [if_neg hz]
      refine (Remove_F h hj hxp hpe hde hbs hxl (by rw [hsu]; exact hu)).mono ?_
      rintro e w1 ⟨he, hD, hv⟩
      refine ⟨he, V, ⟨mb, _, _, hD, hab _ _ _ ?_ ?_⟩, hv, fun b e => .inl e⟩
      · have h1 := tot_wo g.srt hf
        rw [hsu, ab.u, hxb]
        omega
      · rw [← hxp]
        exact perm_erase ab.pm g.srt hj
set_option maxHeartbeats 4000000 in
theorem D_Cut {n : Int} (H : DkA w B d V a) (g : Good a k) :
    Calls Try.prog 17 #[.pointer (some ⟨d, 0, none⟩), .string p, .int .i64 n] w (PsD w B d V (abCut p n a)) := by
  obtain ⟨mb, s, F, h, ab⟩ := H
  have hu : 0 ≤ s.u ∧ s.u ≤ 65536 := by rw [ab.u]; have := g.tot; have := g.q; omega
  unfold abCut abFind
  by_cases hd : a.de = true
  · rw [if_pos hd]
    exact (Cut_err (.inl rfl) (find_dead h (by rw [ab.de]; exact hd))).mono fun e w1 ⟨he, hb⟩ => psD_keep ⟨mb, s, F, h, ab⟩ he hb
  rw [if_neg hd]
  have hde : s.de = false := by rw [ab.de]; simpa using hd
  by_cases hp : by_ p = []
  · rw [if_pos hp]
    exact (Cut_err (.inr (.inl rfl)) (find_arg h (pnil hp) hde)).mono fun e w1 ⟨he, hb⟩ => psD_keep ⟨mb, s, F, h, ab⟩ he hb
  rw [if_neg hp]
  have hpe := pne hp
  cases hf : fnd (by_ p) a.Y with
  | none => exact (Cut_err (.inr (.inr rfl)) (find_no h (ab.no_ hf) hpe hde)).mono fun e w1 ⟨he, hb⟩ => psD_keep ⟨mb, s, F, h, ab⟩ he hb
  | some y =>
    obtain ⟨j, x, hj, hxp, hxy, hxb⟩ := ab.yes_ hf
    have hxl := DkP.bl g ab hj
    have hyl := sh_le (fnd_some hf).1
    have hgt := g.tot
    have hgq := g.q
    simp only
    by_cases hbad : n < 0 ∨ (y.bs.length : Int) < n
    · rw [if_pos hbad]
      exact (Cut_bad h hj hxp hpe hde (by rw [hxb]; exact hbad)).mono fun e w1 ⟨he, hb⟩ => psD_keep ⟨mb, s, F, h, ab⟩ he hb
    rw [if_neg hbad]
    obtain ⟨m, rfl⟩ : ∃ m : Nat, n = (m : Int) := ⟨n.toNat, by omega⟩
    have hml : m ≤ x.bs.length := by rw [hxb]; omega
    rw [Int.toNat_natCast]
    unfold abBurn
    rcases ab.burn g.fz with ⟨hz, s2, hbs, ab2⟩ | ⟨hz, s2, hbs, hsu, hsq, hsd, hab⟩
    · rw [if_pos hz]
      exact (Cut_dies h hj hxp hpe hde hbs hml hxl hu).mono fun e w1 ⟨he, hD, hv⟩ => ⟨he, V, ⟨mb, s2, F, hD, ab2⟩, hv, fun b e => .inl e⟩
    · rw [if_neg hz]
      refine (Cut_F h hj hxp hpe hde hbs hml hxl (by rw [hsu]; exact hu)).mono ?_
      rintro e w1 ⟨he, v, hD, hv⟩
      have eg : (⟨p, y.bs.take m, (m : Nat), true⟩ : Sh) = nmF { x with v := v, bs := x.bs.take m, sy := m, fi := true } := by rw [← hxp, ← hxb]; simp
      refine ⟨he, V, ⟨mb, _, _, hD, hab _ _ _ ?_ ?_⟩, hv, fun b e => .inl e⟩
      · have h1 := tot_put (f := ⟨p, y.bs.take m, (m : Nat), true⟩) (y := y) g.srt hf
        have h2 : (y.bs.take m).length = m := by rw [List.length_take]; rw [hxb] at hml; omega
        rw [hsu, ab.u, hxb]
        simp only [h2] at h1
        omega
      · rw [eg]
        exact perm_set ab.pm g.srt hj rfl
end
end Go.Proofs.Ytplmfmcogbdpjaa.Dk
namespace Go.Proofs.Ytplmfmcogbdpjaa.Dk
open Go Go.RowKit Go.Proofs.Ytplmfmcogbdpjaa Go.Proofs.Ytplmfmcogbdpjaa.Crw Go.Proofs.Ytplmfmcogbdpjaa.Vl Go.ChangeShapes Go.WideShapes Go.ChangeAt
set_option linter.unusedVariables false
set_option maxRecDepth 100000
def abFuse (n : Nat) (a : Ab) : Ab := { a with fz := some n }
def abCrash (K : Nat) (a : Ab) : Ab := { a with de := false, fz := none, Y := a.Y.filterMap (crR K) }
section
variable {w w' w1 : World} {B d mb k : Nat} {U V V' : Nat → Prop} {s s2 : Ds} {F F' : List Fi} {a a' : Ab} {p q : ByteArray} {Y : List Sh}
theorem fnd_wo {p q : List UInt8} (h : q ≠ p) : ∀ {Y : List Sh}, fnd q (wo p Y) = fnd q Y
  | [] => rfl
  | x :: Y => by
    by_cases hx : x.ky = p
    · rw [wo_eq hx, fnd_wo h]
      unfold fnd
      rw [List.find?_cons, decide_eq_false (fun e => h (by rw [← e, hx]))]
    · rw [wo_ne hx]
      have ih := fnd_wo h (Y := Y)
      unfold fnd at ih ⊢
      rw [List.find?_cons, List.find?_cons, ih]
theorem wo_comm (p q : List UInt8) (Y : List Sh) : wo p (wo q Y) = wo q (wo p Y) := by
  unfold wo
  rw [List.filter_filter, List.filter_filter]
  congr 1
  funext y
  exact Bool.and_comm _ _
theorem wo_wo (p : List UInt8) (Y : List Sh) : wo p (wo p Y) = wo p Y := wo_id fun y hy => (mem_wo.1 hy).2
theorem map_erase (F : List Fi) (j : Nat) : (F.eraseIdx j).map nmF = (F.map nmF).eraseIdx j := by rw [List.eraseIdx_eq_take_drop_succ, List.eraseIdx_eq_take_drop_succ, List.map_append, List.map_take, List.map_drop]
theorem get_erase_of {j i : Nat} {x : Fi} (hj : F[j]? = some x) (h : j ≠ i) : ∃ i' : Nat, (F.eraseIdx i)[i']? = some x := by
  rcases Nat.lt_or_ge j i with h1 | h1
  · exact ⟨j, by rw [List.getElem?_eraseIdx, if_pos h1]; exact hj⟩
  · exact ⟨j - 1, by rw [List.getElem?_eraseIdx, if_neg (by omega), show j - 1 + 1 = j by omega]; exact hj⟩
set_option maxHeartbeats 4000000 in
theorem D_Rename (H : DkA w B d V a) (g : Good a k) :
    Calls Try.prog 19 #[.pointer (some ⟨d, 0, none⟩), .string p, .string q] w (PsD w B d V (abRename p q a)) := by
  obtain ⟨mb, s, F, h, ab⟩ := H
  have hu : 0 ≤ s.u ∧ s.u ≤ 65536 := by rw [ab.u]; have := g.tot; have := g.q; omega
  unfold abRename
  by_cases hd : a.de = true
  · rw [if_pos hd]
    exact (Rename_dead h (by rw [ab.de]; exact hd)).mono fun e w1 ⟨he, hb⟩ => psD_keep ⟨mb, s, F, h, ab⟩ he hb
  rw [if_neg hd]
  have hde : s.de = false := by rw [ab.de]; simpa using hd
  by_cases hpq : by_ p = [] ∨ by_ q = []
  · rw [if_pos hpq]
    have hpq' : p.toList.isEmpty = true ∨ (p.toList.isEmpty = false ∧ q.toList.isEmpty = true) := by
      by_cases hp : by_ p = []
      · exact .inl (pnil hp)
      · exact .inr ⟨pne hp, pnil (hpq.resolve_left hp)⟩
    exact (Rename_arg h hde hpq').mono fun e w1 ⟨he, hb⟩ => psD_keep ⟨mb, s, F, h, ab⟩ he hb
  rw [if_neg hpq]
  have hpe := pne (fun e => hpq (.inl e))
  have hqe := pne (fun e => hpq (.inr e))
  cases hf : fnd (by_ p) a.Y with
  | none => exact (Rename_none h hde hpe hqe (ab.no_ hf)).mono fun e w1 ⟨he, hb⟩ => psD_keep ⟨mb, s, F, h, ab⟩ he hb
  | some y =>
    obtain ⟨j, x, hj, hxp, hxy, hxb⟩ := ab.yes_ hf
    have hxl := DkP.bl g ab hj
    have hgt := g.tot
    have hgq := g.q
    simp only
    unfold abBurn
    rcases ab.burn g.fz with ⟨hz, s2, hbs, ab2⟩ | ⟨hz, s2, hbs, hsu, hsq, hsd, hab⟩
    · rw [if_pos hz]
      exact (Rename_dies h hj hxp hpe hqe hde hbs).mono fun e w1 ⟨he, hD, hv⟩ => ⟨he, V, ⟨mb, s2, F, hD, ab2⟩, hv, fun b e => .inl e⟩
    · rw [if_neg hz]
      obtain ⟨x1, hx1⟩ : ∃ x1 : Fi, x1 = { x with sy := x.bs.length, fi := true } := ⟨_, rfl⟩
      have e1 : nmF x1 = ⟨p, y.bs, (y.bs.length : Nat), true⟩ := by rw [hx1, ← hxp, ← hxb]; simp
      have hP1 : ((F.set j x1).map nmF).Perm (nmF x1 :: wo (by_ p) a.Y) := by
        have h1 := perm_set ab.pm g.srt hj (x' := x1) (by rw [hx1])
        have h2 := h1.trans putS_perm
        rw [show (nmF x1).ky = by_ p by rw [e1]] at h2
        exact h2
      by_cases hqp : by_ q = by_ p
      · have hqq := ba_eq hqp
        subst hqq
        refine (Rename_same h hj hxp hpe hde hbs).mono ?_
        rintro e w1 ⟨he, hD, hv⟩
        rw [← hx1] at hD
        have h2 := hab s2.u (F.set j x1) (putS ⟨q, y.bs, (y.bs.length : Nat), true⟩ (wo (by_ q) a.Y)) ?_ ?_
        · exact ⟨he, V, ⟨mb, s2, _, hD, h2⟩, hv, fun b e => .inl e⟩
        · have e3 : total (putS ⟨q, y.bs, (y.bs.length : Nat), true⟩ (wo (by_ q) a.Y)) = y.bs.length + total (wo (by_ q) a.Y) := by
            rw [total_put (g.srt.wo _)]
            show _ + total (wo (by_ q) (wo (by_ q) a.Y)) = _
            rw [wo_wo]
          rw [e3, hsu, ab.u]
          have := tot_wo g.srt hf
          omega
        · refine hP1.trans ?_
          refine List.Perm.trans ?_ putS_perm.symm
          show (nmF x1 :: wo (by_ q) a.Y).Perm (_ :: wo (by_ q) (wo (by_ q) a.Y))
          rw [wo_wo, e1]
      · have hpq2 : (p.toList == q.toList) = false := by
          rw [Lib.toList_data, Lib.toList_data]
          exact beq_false_of_ne fun e => hqp e.symm
        have hn0 : ((F.set j x1).map nmF |>.map Sh.ky).Nodup := by
          refine (hP1.map Sh.ky).nodup_iff.2 ?_
          rw [List.map_cons, List.nodup_cons]
          refine ⟨fun hm => ?_, (g.srt.wo _).nodup⟩
          obtain ⟨z, hz1, hz2⟩ := List.mem_map.1 hm
          exact (mem_wo.1 hz1).2 (by rw [hz2, e1])
        have hjl := (List.getElem?_eq_some_iff.1 hj).1
        have hj1 : (F.set j x1)[j]? = some x1 := by rw [List.getElem?_set, if_pos rfl, if_pos hjl]
        have hfq : fnd (by_ q) ((F.set j x1).map nmF) = fnd (by_ q) a.Y := by
          cases hc : fnd (by_ q) a.Y with
          | none =>
            cases hd2 : fnd (by_ q) ((F.set j x1).map nmF) with
            | none => rfl
            | some z =>
              obtain ⟨z1, z2⟩ := fnd_some hd2
              rcases List.mem_cons.1 (hP1.mem_iff.1 z1) with e | e
              · rw [e, e1] at z2; exact absurd z2.symm hqp
              · exact absurd z2 (fnd_none hc z (mem_wo.1 e).1)
          | some z =>
            obtain ⟨z1, z2⟩ := fnd_some hc
            refine fnd_mem hn0 (hP1.mem_iff.2 (List.mem_cons_of_mem _ (mem_wo.2 ⟨z1, fun e => hqp (by rw [← z2, e])⟩))) z2
        have fin : ∀ {t i : Nat} {G : List Fi}, G.map nmF = wo (by_ q) ((F.set j x1).map nmF) → G[i]? = some x1 → s2.u - (t : Int) = (y.bs.length + total (wo (by_ q) (wo (by_ p) a.Y)) : Nat) →
            AbD { s2 with u := s2.u - t } (G.eraseIdx i ++ [{ x1 with p := q }]) (a.did (putS ⟨q, y.bs, (y.bs.length : Nat), true⟩ (wo (by_ p) a.Y))) := by
          intro t i G hG hi ht
          refine hab _ _ _ ?_ ?_
          · rw [total_put (g.srt.wo _), ht]
          · rw [List.map_append, map_erase, hG]
            have hi2 : (wo (by_ q) ((F.set j x1).map nmF))[i]? = some (nmF x1) := by rw [← hG, List.getElem?_map, hi]; rfl
            have hn1 : ((wo (by_ q) ((F.set j x1).map nmF)).map Sh.ky).Nodup := hn0.sublist (List.filter_sublist.map _)
            rw [erase_wo (p := by_ p) hn1 hi2 (by rw [e1])]
            refine List.perm_append_comm.trans ?_
            have e2 : nmF { x1 with p := q } = ⟨q, y.bs, (y.bs.length : Nat), true⟩ := by
              have := e1
              simp only [Sh.mk.injEq] at this
              obtain ⟨-, h2, h3, h4⟩ := this
              show (⟨q, x1.bs, x1.sy, x1.fi || decide (0 < x1.sy)⟩ : Sh) = _
              rw [h4, h2, h3]
            rw [List.map_singleton, e2]
            refine List.Perm.trans ?_ putS_perm.symm
            refine List.Perm.cons _ ?_
            show (wo (by_ p) (wo (by_ q) ((F.set j x1).map nmF))).Perm (wo (by_ q) (wo (by_ p) a.Y))
            refine (wo_perm (wo_perm hP1)).trans ?_
            rw [wo_ne (by rw [e1]; exact fun e => hqp e.symm), wo_eq (by rw [e1]), wo_comm (by_ p) (by_ q), wo_wo]
        have hw1 := tot_wo g.srt hf
        cases hc : fnd (by_ q) a.Y with
        | none =>
          rw [hc] at hfq
          have hnoq : ∀ (k : Nat) (z : Fi), (F.set j x1)[k]? = some z → hitP q z = false := fun k z hz => by
            have h1 := fnd_none hfq (nmF z) (List.mem_map.2 ⟨z, List.mem_of_getElem? hz, rfl⟩)
            exact decide_eq_false fun e => h1 e.symm
          have hR := Rename_F (t := 0) (G := F.set j x1) (i := j) (q := q) h hj hxp hpe hqe hpq2 hde hbs (by rw [← hx1]; exact hj1) (by
            intro wa hwa
            rw [← hx1] at hwa ⊢
            refine (remove_no hwa hnoq).mono ?_
            rintro e wb ⟨⟨u, rfl⟩, hb⟩
            exact ⟨⟨u, rfl⟩, by simpa using hwa.below hb, Vol.of_below hb, hnoq⟩)
          rw [show ({ x with sy := x.bs.length, fi := true, p := q } : Fi) = { x1 with p := q } by rw [hx1]] at hR
          refine hR.mono ?_
          rintro e w1 ⟨he, hD, hv⟩
          refine ⟨he, V, ⟨mb, _, _, hD, fin (wo_id (fnd_none hfq)).symm hj1 ?_⟩, hv, fun b e => .inl e⟩
          have h3 : wo (by_ q) (wo (by_ p) a.Y) = wo (by_ p) a.Y := wo_id fun z hz => fnd_none hc z (mem_wo.1 hz).1
          rw [hsu, ab.u, h3]
          omega
        | some z =>
          rw [hc] at hfq
          obtain ⟨z1, z2⟩ := fnd_some hfq
          obtain ⟨xz, hxz, ez⟩ := List.mem_map.1 z1
          obtain ⟨i0, hi0⟩ := List.getElem?_of_mem hxz
          have hxzp : xz.p = q := ba_eq (by rw [← ez] at z2; exact z2)
          have hji : j ≠ i0 := fun e => by
            subst e
            rw [hj1] at hi0
            injection hi0 with hi0
            rw [← hi0] at hxzp
            have : x1.p = p := by rw [hx1]; exact hxp
            exact hqp (by rw [← hxzp, this])
          obtain ⟨i1, hi1⟩ := get_erase_of hj1 hji
          have hzl := sh_le (fnd_some hc).1
          have hzb : xz.bs.length = z.bs.length := by rw [← ez]
          have hG : ((F.set j x1).eraseIdx i0).map nmF = wo (by_ q) ((F.set j x1).map nmF) := by
            rw [map_erase]
            exact erase_wo hn0 (by rw [List.getElem?_map, hi0]; rfl) (show by_ xz.p = by_ q by rw [hxzp])
          have hR := Rename_F (t := xz.bs.length) (G := (F.set j x1).eraseIdx i0) (i := i1) (q := q) h hj hxp hpe hqe hpq2 hde hbs (by rw [← hx1]; exact hi1) (by
            intro wa hwa
            rw [← hx1] at hwa ⊢
            refine (remove_yes hwa hi0 hxzp (by omega) (by rw [hsu]; exact hu)).mono ?_
            rintro e wb ⟨⟨u, rfl⟩, hD, hv⟩
            refine ⟨⟨u, rfl⟩, hD, hv, fun k z' hz' => ?_⟩
            have hm : nmF z' ∈ wo (by_ q) ((F.set j x1).map nmF) := by rw [← hG]; exact List.mem_map.2 ⟨z', List.mem_of_getElem? hz', rfl⟩
            exact decide_eq_false fun e => (mem_wo.1 hm).2 e.symm)
          rw [show ({ x with sy := x.bs.length, fi := true, p := q } : Fi) = { x1 with p := q } by rw [hx1]] at hR
          refine hR.mono ?_
          rintro e w1 ⟨he, hD, hv⟩
          refine ⟨he, V, ⟨mb, _, _, hD, fin hG hi1 ?_⟩, hv, fun b e => .inl e⟩
          have h3 := tot_wo (g.srt.wo (by_ p)) (by rw [fnd_wo hqp]; exact hc)
          rw [hsu, ab.u, hzb]
          omega
theorem D_Fuse (H : DkA w B d V a) (x : Int) (n : Nat) (hx : max x 0 = (n : Int)) :
    Calls Try.prog 41 #[.pointer (some ⟨d, 0, none⟩), .int .i64 x] w fun e w' => (∃ u, e = .returned u) ∧ DkA w' B d V (abFuse n a) ∧ Vol V w w' := by
  obtain ⟨mb, s, F, h, ab⟩ := H
  refine (Fuse_g h x n hx).mono ?_
  rintro e w1 ⟨he, hD, hv⟩
  exact ⟨he, ⟨mb, _, _, hD, ⟨ab.q, ab.de, rfl, fun m hm => by injection hm with hm; rw [← hm], ab.u, ab.pm⟩⟩, hv⟩
theorem cr_nm (K : Nat) (y : Sh) (hs : 0 ≤ y.sy) : (Sh.cr K y).map nmS = crR K (nmS y) := by
  have e1 : (nmS y).n K = y.n K := rfl
  unfold Sh.cr crR
  rw [e1]
  by_cases h : y.n K = 0 ∧ y.fi = false
  · have h0 : y.sy = 0 := by have := h.1; unfold Sh.n at this; omega
    have h2 : y.n K = 0 ∧ (nmS y).fi = false := ⟨h.1, by show (y.fi || decide (0 < y.sy)) = false; rw [h.2, h0]; rfl⟩
    rw [if_pos h, if_pos h2]
    rfl
  · have h2 : ¬ (y.n K = 0 ∧ (nmS y).fi = false) := fun e => h ⟨e.1, by
      have := e.2
      simp only [Bool.or_eq_false_iff] at this
      exact this.1⟩
    rw [if_neg h, if_neg h2]
    show some (nmS ⟨y.p, y.bs.take (y.n K), y.n K, y.fi⟩) = _
    congr 1
    show (⟨y.p, y.bs.take (y.n K), ((y.n K : Nat) : Int), y.fi || decide ((0 : Int) < (y.n K : Nat))⟩ : Sh) = _
    have : (y.fi || decide ((0 : Int) < (y.n K : Nat))) = true := by
      rcases Nat.eq_zero_or_pos (y.n K) with e | e
      · have : y.fi = true := by cases hfi : y.fi with
          | true => rfl
          | false => exact absurd ⟨e, hfi⟩ h
        rw [this]; rfl
      · rw [Bool.or_eq_true, decide_eq_true_eq]; right; omega
    rw [this]
theorem cr_list (K : Nat) : ∀ (Y : List Sh), (∀ y ∈ Y, 0 ≤ y.sy) → (Y.filterMap (Sh.cr K)).map nmS = (Y.map nmS).filterMap (crR K)
  | [], _ => rfl
  | y :: Y, h => by
    have h1 := cr_nm K y (h y (by simp))
    have ih := cr_list K Y fun z hz => h z (by simp [hz])
    rw [List.map_cons, List.filterMap_cons, List.filterMap_cons, ← h1]
    cases hc : Sh.cr K y with
    | none => exact ih
    | some z => simp only [Option.map_some, List.map_cons, ih]
set_option maxHeartbeats 4000000 in
theorem D_Crash (H : DkA w B d V a) (g : Good a k) (hk : k ≤ 1000) (x : Int) (K : Nat) (hx : max x 0 = (K : Int)) (hK : K ≤ 65536) :
    Calls Try.prog 27 #[.pointer (some ⟨d, 0, none⟩), .int .i64 x] w fun e w' => (∃ u, e = .returned u) ∧ DkA w' B d V (abCrash K a) ∧ Vol V w w' := by
  obtain ⟨mb, s, F, h, ab⟩ := H
  have hmap : (F.map Fi.sh).map nmS = F.map nmF := by rw [List.map_map]; rfl
  have htot : total (F.map Fi.sh) = total a.Y := by
    rw [← total_perm ab.pm]
    unfold total
    rw [List.map_map, List.map_map]
    rfl
  have hlen : F.length = a.Y.length := by have := ab.pm.length_eq; rwa [List.length_map] at this
  have hok : ∀ y ∈ F.map Fi.sh, 0 ≤ y.sy ∧ y.sy ≤ y.bs.length ∧ y.bs.length ≤ 65536 := fun y hy => by
    obtain ⟨z, hz, rfl⟩ := List.mem_map.1 hy
    have hm := ab.pm.mem_iff.1 (List.mem_map.2 ⟨z, hz, rfl⟩)
    have h1 := g.nm _ hm
    have h2 := sh_le hm
    have h3 := g.tot
    have h4 := g.q
    simp only at h1 h2
    exact ⟨h1.2.1, h1.2.2, by simp only; omega⟩
  refine (Crash_g h (by have := g.len; omega) hok (by rw [ab.u, htot]) (by rw [htot]; have := g.tot; have := g.q; omega) x K hx hK).mono ?_
  rintro e w1 ⟨he, F', hD, hF', ht, hv⟩
  have hmap' : (F'.map Fi.sh).map nmS = F'.map nmF := by rw [List.map_map]; rfl
  have hpm : (F'.map nmF).Perm (a.Y.filterMap (crR K)) := by
    rw [← hmap', hF', cr_list K _ (fun y hy => (hok y hy).1), hmap]
    exact ab.pm.filterMap _
  have htot' : total (F'.map Fi.sh) = total (a.Y.filterMap (crR K)) := by
    rw [← total_perm hpm]
    unfold total
    rw [List.map_map, List.map_map]
    rfl
  exact ⟨he, ⟨mb, _, F', hD, ⟨ab.q, rfl, rfl, (fun m hm => by cases hm), by show ((total (F'.map Fi.sh) : Nat) : Int) = _; rw [htot']; rfl, hpm⟩⟩, hv⟩
end
end Go.Proofs.Ytplmfmcogbdpjaa.Dk
namespace Go.Proofs.Ytplmfmcogbdpjaa.Dk
open Go Go.RowKit Go.Proofs.Ytplmfmcogbdpjaa Go.Proofs.Ytplmfmcogbdpjaa.Crw Go.Proofs.Ytplmfmcogbdpjaa.Vl Go.ChangeShapes Go.WideShapes Go.ChangeAt
set_option linter.unusedVariables false
set_option maxRecDepth 100000
def dropF (p : ByteArray) (G : List Pf) : List Pf := G.filter fun x => !(x.p.toList == p.toList)
theorem beq_ky (x : Pf) (p : ByteArray) : (x.p.toList == p.toList) = decide ((nmG x).ky = by_ p) := by
  rw [Lib.toList_data, Lib.toList_data]
  by_cases h : x.p.data.toList = p.data.toList
  · rw [decide_eq_true (show (nmG x).ky = by_ p from h), h]; simp
  · rw [decide_eq_false (show ¬ (nmG x).ky = by_ p from h)]; exact beq_false_of_ne h
theorem putF_true (f : Pf) : ∀ (G : List Pf), (putF f G true).map nmG = wo (by_ f.p) (G.map nmG)
  | [] => by simp [putF, wo]
  | x :: G => by
    unfold putF
    have e : eqF f x = decide ((nmG x).ky = by_ f.p) := beq_ky x f.p
    rw [e, List.map_cons]
    by_cases h : (nmG x).ky = by_ f.p
    · rw [decide_eq_true h, if_pos rfl, wo_eq h]
      exact putF_true f G
    · rw [decide_eq_false h, if_neg (by simp), if_neg (by simp), wo_ne h, List.map_cons, putF_true f G]
theorem putF_put (f : Pf) : ∀ (G : List Pf), (putF f G false).map nmG = putS (nmG f) (G.map nmG)
  | [] => by simp [putF, putS]
  | x :: G => by
    unfold putF
    have e : eqF f x = decide ((nmG x).ky = by_ f.p) := beq_ky x f.p
    have e2 : gtF f x = !decide ((nmG x).ky < (nmG f).ky) := by
      unfold gtF
      rw [bles_eq, Lib.toList_data, Lib.toList_data]
    rw [e, e2, List.map_cons]
    unfold putS
    by_cases h : (nmG x).ky = by_ f.p
    · rw [decide_eq_true h, if_pos rfl, if_pos h]
      exact putF_put f G
    · rw [decide_eq_false h, if_neg (by simp), if_neg h]
      by_cases h2 : (nmG x).ky < (nmG f).ky
      · rw [decide_eq_true h2, if_neg (by simp), if_neg (fun h3 => List.lt_irrefl _ (List.lt_trans h2 h3)), List.map_cons, putF_put f G]
      · rw [decide_eq_false h2, if_pos ⟨rfl, rfl⟩, if_pos (lt_tot h h2), List.map_cons, List.map_cons, putF_true f G]
theorem dropF_wo (p : ByteArray) : ∀ (G : List Pf), (dropF p G).map nmG = wo (by_ p) (G.map nmG)
  | [] => rfl
  | x :: G => by
    unfold dropF
    rw [List.filter_cons, beq_ky x p, List.map_cons]
    have ih := dropF_wo p G
    unfold dropF at ih
    by_cases h : (nmG x).ky = by_ p
    · rw [decide_eq_true h, if_neg (by simp), wo_eq h]
      exact ih
    · rw [decide_eq_false h, if_pos (by simp), wo_ne h, List.map_cons, ih]
theorem dropF_mem {p : ByteArray} {G : List Pf} {y : Pf} (h : y ∈ dropF p G) : y ∈ G := (List.mem_filter.1 h).1
theorem dropF_take_succ {p : ByteArray} {G : List Pf} {i : Nat} {x : Pf} (h : G[i]? = some x) : dropF p (G.take (i + 1)) = dropF p (G.take i) ++ (if (x.p.toList == p.toList) = true then [] else [x]) := by
  rw [List.take_add_one, h]
  unfold dropF
  rw [List.filter_append]
  congr 1
  simp only [Option.toList_some, List.filter_cons, List.filter_nil]
  cases (x.p.toList == p.toList) <;> simp
section
variable {w w' : World} {B r : Nat} {U Z Zf : Nat → Prop} {v : Value} {s s2 : Ps} {G : List Pf} {p q : ByteArray} {x f : Pf}
def DropI (w : World) (G : List Pf) (p : ByteArray) (n i : Nat) (vo vi : Value) (wr : World) : Prop :=
  ∃ (L : List Pf), i ≤ n ∧ vi = .int .i64 i ∧ wr.ownsRow w.heap.size 99 4 vo L.length (pfV L) ∧ L.length ≤ i ∧ L = dropF p (G.take i) ∧ Below w.heap.size w wr ∧ ∃ w7, w7 = wr
set_option maxHeartbeats 8000000 in
theorem Drop_p (h : RfP w B r Z v s G) (hG : G.length ≤ 1000) (hB : B ≤ w.heap.size) :
    Calls Try.prog 77 #[.pointer (some ⟨r, 0, none⟩), .string p] w fun e w' => (∃ u, e = .returned u) ∧ ∃ Z' v', RfP w' B r Z' v' s (dropF p G) ∧ Vol Z w w' ∧ (∀ b, Z' b → Z b ∨ w.heap.size ≤ b) ∧ ∀ y, ByP w Z y → ByP w' Z' y := by
  obtain ⟨i0, hinf, hz0, hz1, hz2⟩ := info_parts file_infoP
  obtain ⟨A, c, rfl, -, -⟩ := h.shape
  have c0 : w.cell? ⟨r, 0, none⟩ = some (.slice A G.length c) := h.blk.cell 0
  have HR := Lib.hid h
  obtain ⟨n, hn⟩ : ∃ n, n = G.length := ⟨_, rfl⟩
  rw [← hn] at c0 HR hG
  have HN := Lib.hid hn
  have hrl := h.blk.lt
  clear h hn
  go_enter Try.func77, Try.ntmps77
  go_upto_block 0 with fail
  have HI0 := Lib.hid (show DropI w G p n 0 (.slice none 0 0) (.int .i64 0) w from ⟨[], Nat.zero_le _, rfl, ⟨by simp, .inl ⟨rfl, rfl⟩⟩, Nat.zero_le _, rfl, Below.refl _ _, _, rfl⟩)
  go_cut [4] from 11 to 24 (fun vo wx => Hid (∃ (L : List Pf), wx.ownsRow w.heap.size 99 4 vo L.length (pfV L) ∧ L = dropF p G ∧ Below w.heap.size w wx ∧ ∃ w7, w7 = wx))
  case first =>
    go_wp2_with fail
    go_loopw [4, 12] (fun vo vi wr => Hid (∃ i, DropI w G p n i vo vi wr)) (fun _ vi _ => n - (intOf vi).toNat)
    case atStart => exact Lib.hid ⟨0, HI0.out⟩
    case round =>
      obtain ⟨i, L, hi, rfl, hown, hL, hput, hbel, wr, hwr⟩ := hrel.out
      subst hwr
      obtain ⟨Ao, co, rfl, -, -⟩ := own_slice hown
      have HO := Lib.hid hown
      have HP := Lib.hid hput
      have HBe := Lib.hid hbel
      clear hrel hown hput hbel
      have hRr := HR.out.below HBe.out
      by_cases hin0 : i < n
      · have hin : (i : Int) < (n : Int) := by omega
        obtain ⟨x, hx⟩ : ∃ x, G[i]? = some x := ⟨_, List.getElem?_eq_getElem (by have := HN.out; omega)⟩
        obtain ⟨g, rfl, -, k0, k1, k2, k3⟩ := hRr.cells hx
        have hd := Lib.hid (dropF_take_succ (p := p) hx)
        obtain ⟨xp, xA, xc, xb, xs, xf⟩ := x
        obtain ⟨wx, hwx⟩ : ∃ wx, wx = wr.alloc (.cells (pfC ⟨xp, xA, xc, xb, xs, xf⟩).toArray 99) := ⟨_, rfl⟩
        obtain ⟨bx, hbx⟩ : ∃ bx, bx = wr.heap.size := ⟨_, rfl⟩
        have hbxB : Blk wx bx 99 (pfC ⟨xp, xA, xc, xb, xs, xf⟩).toArray := by rw [hwx, hbx]; exact Blk.new _ _ _
        have hbw : Below wr.heap.size wr wx := by rw [hwx]; exact (Below.refl _ _).alloc (Nat.le_refl _) _
        have e0 : wr.alloc (Obj.cells #[.string xp, .slice xA xb.length xc, .int .i64 xs, .bool xf] 99) = wx := hwx.symm
        have d0 : wx.cell? ⟨bx, 0, none⟩ = some (.string xp) := hbxB.cell 0
        have d1 : wx.cell? ⟨bx, 1, none⟩ = some (.slice xA xb.length xc) := hbxB.cell 1
        have d2 : wx.cell? ⟨bx, 2, none⟩ = some (.int .i64 xs) := hbxB.cell 2
        have d3 : wx.cell? ⟨bx, 3, none⟩ = some (.bool xf) := hbxB.cell 3
        have HBXC := Lib.hid hbxB
        have HBW := Lib.hid hbw
        have HE0 := Lib.hid e0
        have HBXX := Lib.hid hbx
        clear hRr hx hbxB hbw hwx e0 hbx
        go_upto_region 4 with fail
        rw [HE0.out, ← HBXX.out]
        clear k0 k1 k2 k3
        have hlx := HBe.out.size
        have hlw := HBW.out.size
        cases he : (xp.toList == p.toList) with
        | true =>
          have he2 : (xp.toList == p.toList) = true := he
          have HE := Lib.hid he
          clear he
          go_wp2_with fail
          go_roundw
          case rel =>
            refine Lib.hid ⟨i + 1, L, by omega, by go_num, own_keep HO.out HBW.out, by omega, ?_, HBe.out.trans (HBW.out.mono HBe.out.size), _, rfl⟩
            rw [hd.out, HP.out, if_pos HE.out, List.append_nil]
          case measure => simp [intOf]; omega
        | false =>
          have he2 : (xp.toList == p.toList) = false := he
          have HE := Lib.hid he
          clear he
          go_wp2_with (at_builtin; refine wpList_append_any _ rfl _ _ 95 rfl w.heap.size 99 i0 fiZ 4 56 Try.underlying95 hinf hz0 hz1 hz2 rfl (by decide) (.slice Ao L.length co) L.length (pfV L) rfl ((own_keep HO.out HBW.out).alloc _) (wx.alloc (.cells (pfC ⟨xp, xA, xc, xb, xs, xf⟩).toArray 99)).heap.size (some ⟨wx.heap.size, 0, none⟩) 1 1 (pfC ⟨xp, xA, xc, xb, xs, xf⟩) rfl (reads_blk (Blk.new wx _ _) rfl) (pfC_one _) (by simp only [maxLen]; omega) (by omega) (by simp; omega) ?_; intro v1 w1 hown hg _hne; clear _hne; have HO1 := Lib.hid hown; have HG1 := Lib.hid hg; clear hown hg)
          go_roundw
          case rel =>
            have hb1 : Below w.heap.size w w1 := ((HBe.out.trans (HBW.out.mono hlx)).alloc (by omega) _).grown HG1.out (by simp; omega) (fun k hk => (HO.out.lt k hk).1)
            refine Lib.hid ⟨i + 1, L ++ [⟨xp, xA, xc, xb, xs, xf⟩], by omega, by go_num, by rw [List.length_append, ← pfV_snoc]; exact HO1.out, by rw [List.length_append]; simp; omega, ?_, hb1, _, rfl⟩
            rw [hd.out, HP.out, if_neg (by rw [HE.out]; decide)]
          case measure => simp [intOf]; omega
      · have hin : ¬ (i : Int) < (n : Int) := by omega
        go_wp2_with fail
        go_meet
        have hie : i = n := by omega
        exact Lib.hid ⟨L, HO.out, by rw [HP.out, List.take_of_length_le (by have := HN.out; omega)], HBe.out, _, rfl⟩
  case rest =>
    obtain ⟨L, hown, hput, hbel, wr, hwr⟩ := hcut.out
    subst hwr
    obtain ⟨Ao, co, hvo, -, -⟩ := own_slice hown
    subst hvo
    have HO := Lib.hid hown
    have HBW := Lib.hid hbel
    have HP := Lib.hid hput
    clear hcut hown hput hbel HI0
    have hRf := HR.out.below HBW.out
    have hst : Hid (∃ Z' v', RfP (wr.setCell ⟨r, 0, none⟩ (.slice Ao L.length co)) B r Z' v' s (dropF p G) ∧ Vol Z w (wr.setCell ⟨r, 0, none⟩ (.slice Ao L.length co)) ∧ (∀ b, Z' b → Z b ∨ w.heap.size ≤ b) ∧ ∀ y, ByP w Z y → ByP (wr.setCell ⟨r, 0, none⟩ (.slice Ao L.length co)) Z' y) := Lib.hid (by
      have ho := HO.out
      have hL2 := HP.out
      have hb := HBW.out
      have hv : Vol (fun b => b = r) wr (wr.setCell ⟨r, 0, none⟩ (.slice Ao L.length co)) := Vol.setCell (V := fun b => b = r) (a := ⟨r, 0, none⟩) (Vol.refl wr) (.inl rfl) _
      have key : ∀ y, ByP wr Z y → ByP (wr.setCell ⟨r, 0, none⟩ (.slice Ao L.length co)) (fun b => Z b ∨ Value.ownBlock (.slice Ao L.length co) = some b) y := fun y hy => by
        have k1 : ByP wr (fun b => Z b ∨ Value.ownBlock (.slice Ao L.length co) = some b) y := ⟨hy.1, hy.2.1, fun hp => by obtain ⟨g, cur, e1, e2, e3⟩ := hy.2.2 hp; exact ⟨g, cur, e1, .inl e2, e3⟩⟩
        refine k1.keep fun g cur _ hc => hv.block g (Array.getElem?_eq_some_iff.1 hc).1 (fun e => ?_)
        rw [e] at hc
        have h1 := hRf.blk
        unfold Blk at h1
        rw [h1] at hc
        injection hc with hc
        injection hc with _ hc
        exact absurd hc (by decide)
      refine ⟨fun b => Z b ∨ Value.ownBlock (.slice Ao L.length co) = some b, .slice Ao L.length co, ?_, ?_, fun b hb => ?_, fun y hy => key y (hy.keep fun g cur hg hc => hb.block g (Array.getElem?_eq_some_iff.1 hc).1)⟩
      · have hz1 := hb.size
        refine ⟨hRf.blk.set_ 0 _, ?_, fun k y hy => ?_, ⟨.inl hRf.zr.1, fun b hb => .inr hb⟩, fun b hb => ?_, fun b hb => ?_⟩
        · rw [← hL2]
          exact own_down (own_vol ho hv (fun b hb e => own_blk_ne ho hRf.blk (by decide) (by rw [hb, e]))) (by omega)
        · obtain ⟨k', hk'⟩ := List.getElem?_of_mem (dropF_mem (List.mem_of_getElem? hy))
          exact key y (hRf.byt k' y hk')
        · refine Nat.lt_of_lt_of_le ?_ hv.size
          rcases hb with hb | hb
          · exact hRf.lt b hb
          · exact (ho.lt b hb).2
        · rcases hb with hb | hb
          · exact hRf.ge b hb
          · have := (ho.lt b hb).1
            omega
      · exact ((Vol.of_below hb).setCell (.inl HR.out.zr.1) _)
      · rcases hb with hb | hb
        · exact .inl hb
        · have := (ho.lt b hb).1
          right; omega)
    have s0 : wr.cell? ⟨r, 0, none⟩ = some (.slice A n c) := hRf.blk.cell 0
    have s1 : wr.frozen? ⟨r, 0, none⟩ = false := hRf.blk.frozen 0
    clear hRf
    go_wp2_with fail
    go_end0
    exact ⟨⟨_, rfl⟩, hst.out⟩
set_option maxHeartbeats 4000000 in
theorem RRem_dead  (h : RfP w B r Z v s G) (hd : s.de = true) :
    Calls Try.prog 55 #[.pointer (some ⟨r, 0, none⟩), .string p] w fun e w' => e = .returned (.int .i64 7) ∧ Below w.heap.size w w' := by
  have HB := Lib.hid (fun (g : Nat) (wz : World) (hb : Below w.heap.size w wz) (hg : Blk wz g 9 #[.string p]) => Begin_dead (A := some ⟨g, 0, none⟩) (n := 1) (c := 1) (h.below hb) hd)
  have HG := Lib.hid (show Blk (w.alloc (.cells #[.string p] 9)) w.heap.size 9 #[.string p] from Blk.new _ _ _)
  have hA : Below w.heap.size w (w.alloc (.cells #[.string p] 9)) := (Below.refl _ _).alloc (Nat.le_refl _) _
  clear h
  go_enter Try.func55, Try.ntmps55
  go_wp2_with fail
  refine (HB.out _ _ hA HG.out).mono ?_
  rintro e w1 ⟨rfl, hb⟩
  go_wp2_with fail
  go_ret
  exact ⟨rfl, hA.trans (hb.mono hA.size)⟩
set_option maxHeartbeats 4000000 in
theorem RRem_arg  (h : RfP w B r Z v s G) (hd : s.de = false) (hp : p.toList.isEmpty = true) :
    Calls Try.prog 55 #[.pointer (some ⟨r, 0, none⟩), .string p] w fun e w' => e = .returned (.int .i64 1) ∧ Below w.heap.size w w' := by
  have HB := Lib.hid (fun (g : Nat) (wz : World) (hb : Below w.heap.size w wz) (hg : Blk wz g 9 #[.string p]) => Begin_arg (c := 1) (h.below hb) hd hg hp)
  have HG := Lib.hid (show Blk (w.alloc (.cells #[.string p] 9)) w.heap.size 9 #[.string p] from Blk.new _ _ _)
  have hA : Below w.heap.size w (w.alloc (.cells #[.string p] 9)) := (Below.refl _ _).alloc (Nat.le_refl _) _
  clear h
  go_enter Try.func55, Try.ntmps55
  go_wp2_with fail
  refine (HB.out _ _ hA HG.out).mono ?_
  rintro e w1 ⟨rfl, hb⟩
  go_wp2_with fail
  go_ret
  exact ⟨rfl, hA.trans (hb.mono hA.size)⟩
set_option maxHeartbeats 4000000 in
theorem RRem_none  (h : RfP w B r Z v s G) (hd : s.de = false) (hp : p.toList.isEmpty = false) (hno : ∀ (i : Nat) (y : Pf), G[i]? = some y → (y.p.toList == p.toList) = false) (hG : G.length ≤ 1000) :
    Calls Try.prog 55 #[.pointer (some ⟨r, 0, none⟩), .string p] w fun e w' => e = .returned (.int .i64 3) ∧ Below w.heap.size w w' := by
  have HB := Lib.hid (fun (g : Nat) (wz : World) (hb : Below w.heap.size w wz) (hg : Blk wz g 9 #[.string p]) => Begin_none (c := 1) (h.below hb) hd hg hp hno hG)
  have HG := Lib.hid (show Blk (w.alloc (.cells #[.string p] 9)) w.heap.size 9 #[.string p] from Blk.new _ _ _)
  have hA : Below w.heap.size w (w.alloc (.cells #[.string p] 9)) := (Below.refl _ _).alloc (Nat.le_refl _) _
  clear h
  go_enter Try.func55, Try.ntmps55
  go_wp2_with fail
  refine (HB.out _ _ hA HG.out).mono ?_
  rintro e w1 ⟨rfl, hb⟩
  go_wp2_with fail
  go_ret
  exact ⟨rfl, hA.trans (hb.mono hA.size)⟩
set_option maxHeartbeats 4000000 in
theorem RRem_stop (h : RfP w B r Z v s G) (hd : s.de = false) (hp : p.toList.isEmpty = false) {j : Nat} {x : Pf} (hj : G[j]? = some x) (hx : x.p = p) (hno : ∀ (i : Nat) (y : Pf), i < j → G[i]? = some y → (y.p.toList == p.toList) = false) (hG : G.length ≤ 1000) (hN : -1000000 ≤ s.n ∧ s.n ≤ 1000000) (hs : stopS s s2 true) :
    Calls Try.prog 55 #[.pointer (some ⟨r, 0, none⟩), .string p] w fun e w' => e = .returned (.int .i64 7) ∧ RfP w' B r Z v s2 G ∧ Vol Z w w' := by
  have HB := Lib.hid (fun (g : Nat) (wz : World) (hb : Below w.heap.size w wz) (hg : Blk wz g 9 #[.string p]) => Begin_ok (c := 1) (h.below hb) hd hg hp hj hx hno hG)
  have HG := Lib.hid (show Blk (w.alloc (.cells #[.string p] 9)) w.heap.size 9 #[.string p] from Blk.new _ _ _)
  have hA : Below w.heap.size w (w.alloc (.cells #[.string p] 9)) := (Below.refl _ _).alloc (Nat.le_refl _) _
  have HH := Lib.hid (And.intro h hs)
  clear h hs hj hno hx
  go_enter Try.func55, Try.ntmps55
  go_wp2_with fail
  refine (HB.out _ _ hA HG.out).mono ?_
  rintro e w1 ⟨rfl, hb⟩
  have hb1 : Below w.heap.size w w1 := hA.trans (hb.mono hA.size)
  have HB1 := Lib.hid hb1
  clear hb hb1
  go_wp2_with fail
  refine (Stops_p (HH.out.1.below HB1.out) HH.out.2 hN).mono ?_
  rintro e w2 ⟨rfl, hR2, hV2⟩
  go_wp2_with fail
  go_ret
  exact ⟨rfl, hR2, (Vol.of_below HB1.out).trans hV2 fun b hb => .inl hb⟩
set_option maxHeartbeats 4000000 in
theorem RRem_ok (h : RfP w B r Z v s G) (hd : s.de = false) (hp : p.toList.isEmpty = false) {j : Nat} {x : Pf} (hj : G[j]? = some x) (hx : x.p = p) (hno : ∀ (i : Nat) (y : Pf), i < j → G[i]? = some y → (y.p.toList == p.toList) = false) (hG : G.length ≤ 1000) (hN : -1000000 ≤ s.n ∧ s.n ≤ 1000000) (hs : stopS s s2 false) (hB : B ≤ w.heap.size) :
    Calls Try.prog 55 #[.pointer (some ⟨r, 0, none⟩), .string p] w fun e w' => e = .returned (.int .i64 0) ∧ ∃ Z' v', RfP w' B r Z' v' s2 (dropF p G) ∧ Vol Z w w' ∧ ∀ b, Z' b → Z b ∨ w.heap.size ≤ b := by
  have HB := Lib.hid (fun (g : Nat) (wz : World) (hb : Below w.heap.size w wz) (hg : Blk wz g 9 #[.string p]) => Begin_ok (c := 1) (h.below hb) hd hg hp hj hx hno hG)
  have HG := Lib.hid (show Blk (w.alloc (.cells #[.string p] 9)) w.heap.size 9 #[.string p] from Blk.new _ _ _)
  have hA : Below w.heap.size w (w.alloc (.cells #[.string p] 9)) := (Below.refl _ _).alloc (Nat.le_refl _) _
  have HH := Lib.hid (And.intro h hs)
  clear h hs hj hno hx
  go_enter Try.func55, Try.ntmps55
  go_wp2_with fail
  refine (HB.out _ _ hA HG.out).mono ?_
  rintro e w1 ⟨rfl, hb⟩
  have hb1 : Below w.heap.size w w1 := hA.trans (hb.mono hA.size)
  have HB1 := Lib.hid hb1
  clear hb hb1
  go_wp2_with fail
  refine (Stops_p (HH.out.1.below HB1.out) HH.out.2 hN).mono ?_
  rintro e w2 ⟨rfl, hR2, hV2⟩
  go_wp2_with fail
  refine (Drop_p (w := w2) (p := p) hR2 hG (by have h1 := HB1.out.size; have h2 := hV2.size; omega)).mono ?_
  rintro e w3 ⟨⟨u, rfl⟩, Z', v', hR3, hV3, hZ3, -⟩
  have HV := Lib.hid (And.intro hV2 (And.intro hV3 hZ3))
  clear hV2 hV3 hZ3
  go_wp2_with fail
  go_ret
  refine ⟨rfl, Z', v', hR3, ((Vol.of_below HB1.out).trans HV.out.1 fun b hb => .inl hb).trans HV.out.2.1 fun b hb => .inl hb, fun b hb => ?_⟩
  rcases HV.out.2.2 b hb with h | h
  · exact .inl h
  · have h1 := HB1.out.size
    have h2 := HV.out.1.size
    right; omega
set_option maxHeartbeats 4000000 in
theorem Begin2_arg {g c : Nat} (h : RfP w B r Z v s G) (hd : s.de = false) (hg : Blk w g 9 #[.string p, .string q]) (hp : p.toList.isEmpty = true ∨ (p.toList.isEmpty = false ∧ q.toList.isEmpty = true)) :
    Calls Try.prog 76 #[.pointer (some ⟨r, 0, none⟩), .slice (some ⟨g, 0, none⟩) 2 c] w fun e w' => e = .returned (.int .i64 1) ∧ Below w.heap.size w w' := by
  have c2 : w.cell? ⟨r, 2, none⟩ = some (.bool s.de) := h.blk.cell 2
  have k0 : w.cell? ⟨g, 0, none⟩ = some (.string p) := hg.cell 0
  have k1 : w.cell? ⟨g, 1, none⟩ = some (.string q) := hg.cell 1
  rw [hd] at c2
  clear h hd hg
  go_enter Try.func76, Try.ntmps76
  go_wp2_with fail
  go_loopw [13] (fun vi wr => (vi = .int .i64 0 ∨ (vi = .int .i64 1 ∧ p.toList.isEmpty = false)) ∧ wr = w) (fun vi _ => 2 - (intOf vi).toNat)
  case atStart => exact ⟨.inl rfl, rfl⟩
  case round =>
    obtain ⟨rfl | ⟨rfl, h0⟩, rfl⟩ := hrel
    · rcases hp with hp | ⟨hp, hq⟩
      · go_wp2_with fail
        go_ret
        exact ⟨rfl, Below.refl _ _⟩
      · go_wp2_with fail
        go_roundw
        case rel => exact ⟨.inr ⟨by go_num, hp⟩, trivial⟩
        case measure => simp [intOf]
    · rcases hp with hp | ⟨hp, hq⟩
      · rw [h0] at hp; cases hp
      · go_wp2_with fail
        go_ret
        exact ⟨rfl, Below.refl _ _⟩
set_option maxHeartbeats 4000000 in
theorem Begin2_go {g c : Nat} {t k : Int} (ht : (k = -1 ∧ t = 3) ∨ (0 ≤ k ∧ t = 0)) (h : RfP w B r Z v s G) (hd : s.de = false) (hg : Blk w g 9 #[.string p, .string q]) (hp : p.toList.isEmpty = false) (hq : q.toList.isEmpty = false)
    (HA : Calls Try.prog 74 #[.pointer (some ⟨r, 0, none⟩), .string p] w fun e w' => e = .returned (.int .i64 k) ∧ Below w.heap.size w w') :
    Calls Try.prog 76 #[.pointer (some ⟨r, 0, none⟩), .slice (some ⟨g, 0, none⟩) 2 c] w fun e w' => e = .returned (.int .i64 t) ∧ Below w.heap.size w w' := by
  have c2 : w.cell? ⟨r, 2, none⟩ = some (.bool s.de) := h.blk.cell 2
  have k0 : w.cell? ⟨g, 0, none⟩ = some (.string p) := hg.cell 0
  have k1 : w.cell? ⟨g, 1, none⟩ = some (.string q) := hg.cell 1
  rw [hd] at c2
  clear h hd hg
  go_enter Try.func76, Try.ntmps76
  go_wp2_with fail
  go_loopw [13] (fun vi wr => (vi = .int .i64 0 ∨ vi = .int .i64 1 ∨ vi = .int .i64 2) ∧ wr = w) (fun vi _ => 2 - (intOf vi).toNat)
  case atStart => exact ⟨.inl rfl, rfl⟩
  case round =>
    obtain ⟨rfl | rfl | rfl, rfl⟩ := hrel
    · go_wp2_with fail
      go_roundw
      case rel => exact ⟨.inr (.inl (by go_num)), trivial⟩
      case measure => simp [intOf]
    · go_wp2_with fail
      go_roundw
      case rel => exact ⟨.inr (.inr (by go_num)), trivial⟩
      case measure => simp [intOf]
    · rcases ht with ⟨rfl, rfl⟩ | ⟨hk, rfl⟩
      · go_wp2_with fail
        refine HA.mono ?_
        rintro e w1 ⟨rfl, hb⟩
        go_wp2_with fail
        go_ret
        exact ⟨rfl, hb⟩
      · have hk2 : ¬ k < 0 := by omega
        clear hk
        go_wp2_with fail
        refine HA.mono ?_
        rintro e w1 ⟨rfl, hb⟩
        go_wp2_with fail
        go_ret
        exact ⟨rfl, hb⟩
end
end Go.Proofs.Ytplmfmcogbdpjaa.Dk
namespace Go.Proofs.Ytplmfmcogbdpjaa.Dk
open Go Go.RowKit Go.Proofs.Ytplmfmcogbdpjaa Go.Proofs.Ytplmfmcogbdpjaa.Crw Go.Proofs.Ytplmfmcogbdpjaa.Vl Go.ChangeShapes Go.WideShapes Go.ChangeAt
set_option linter.unusedVariables false
set_option maxRecDepth 100000
section
variable {w w' : World} {B r : Nat} {U Z Zf : Nat → Prop} {v : Value} {s s2 : Ps} {G : List Pf} {p q : ByteArray} {x f : Pf}
set_option maxHeartbeats 4000000 in
theorem RRen_dead (h : RfP w B r Z v s G) (hd : s.de = true) :
    Calls Try.prog 53 #[.pointer (some ⟨r, 0, none⟩), .string p, .string q] w fun e w' => e = .returned (.int .i64 7) ∧ Below w.heap.size w w' := by
  have HB := Lib.hid (fun (g : Nat) (wz : World) (hb : Below w.heap.size w wz) (hg : Blk wz g 9 #[.string p, .string q]) => Begin_dead (A := some ⟨g, 0, none⟩) (n := 2) (c := 2) (h.below hb) hd)
  have HG := Lib.hid (show Blk (w.alloc (.cells #[.string p, .string q] 9)) w.heap.size 9 #[.string p, .string q] from Blk.new _ _ _)
  have hA : Below w.heap.size w (w.alloc (.cells #[.string p, .string q] 9)) := (Below.refl _ _).alloc (Nat.le_refl _) _
  clear h
  go_enter Try.func53, Try.ntmps53
  go_wp2_with fail
  refine (HB.out _ _ hA HG.out).mono ?_
  rintro e w1 ⟨rfl, hb⟩
  go_wp2_with fail
  go_ret
  exact ⟨rfl, hA.trans (hb.mono hA.size)⟩
set_option maxHeartbeats 4000000 in
theorem RRen_arg (h : RfP w B r Z v s G) (hd : s.de = false) (hp : p.toList.isEmpty = true ∨ (p.toList.isEmpty = false ∧ q.toList.isEmpty = true)) :
    Calls Try.prog 53 #[.pointer (some ⟨r, 0, none⟩), .string p, .string q] w fun e w' => e = .returned (.int .i64 1) ∧ Below w.heap.size w w' := by
  have HB := Lib.hid (fun (g : Nat) (wz : World) (hb : Below w.heap.size w wz) (hg : Blk wz g 9 #[.string p, .string q]) => Begin2_arg (c := 2) (h.below hb) hd hg hp)
  have HG := Lib.hid (show Blk (w.alloc (.cells #[.string p, .string q] 9)) w.heap.size 9 #[.string p, .string q] from Blk.new _ _ _)
  have hA : Below w.heap.size w (w.alloc (.cells #[.string p, .string q] 9)) := (Below.refl _ _).alloc (Nat.le_refl _) _
  clear h hp
  go_enter Try.func53, Try.ntmps53
  go_wp2_with fail
  refine (HB.out _ _ hA HG.out).mono ?_
  rintro e w1 ⟨rfl, hb⟩
  go_wp2_with fail
  go_ret
  exact ⟨rfl, hA.trans (hb.mono hA.size)⟩
set_option maxHeartbeats 4000000 in
theorem RRen_none (h : RfP w B r Z v s G) (hd : s.de = false) (hp : p.toList.isEmpty = false) (hq : q.toList.isEmpty = false) (hno : ∀ (i : Nat) (y : Pf), G[i]? = some y → (y.p.toList == p.toList) = false) (hG : G.length ≤ 1000) :
    Calls Try.prog 53 #[.pointer (some ⟨r, 0, none⟩), .string p, .string q] w fun e w' => e = .returned (.int .i64 3) ∧ Below w.heap.size w w' := by
  have HB := Lib.hid (fun (g : Nat) (wz : World) (hb : Below w.heap.size w wz) (hg : Blk wz g 9 #[.string p, .string q]) => Begin2_go (c := 2) (.inl ⟨rfl, rfl⟩) (h.below hb) hd hg hp hq (At_no (h.below hb) hno hG))
  have HG := Lib.hid (show Blk (w.alloc (.cells #[.string p, .string q] 9)) w.heap.size 9 #[.string p, .string q] from Blk.new _ _ _)
  have hA : Below w.heap.size w (w.alloc (.cells #[.string p, .string q] 9)) := (Below.refl _ _).alloc (Nat.le_refl _) _
  clear h
  go_enter Try.func53, Try.ntmps53
  go_wp2_with fail
  refine (HB.out _ _ hA HG.out).mono ?_
  rintro e w1 ⟨rfl, hb⟩
  go_wp2_with fail
  go_ret
  exact ⟨rfl, hA.trans (hb.mono hA.size)⟩
set_option maxHeartbeats 4000000 in
theorem RRen_stop (h : RfP w B r Z v s G) (hd : s.de = false) (hp : p.toList.isEmpty = false) (hq : q.toList.isEmpty = false) {j : Nat} {x : Pf} (hj : G[j]? = some x) (hx : x.p = p) (hno : ∀ (i : Nat) (y : Pf), i < j → G[i]? = some y → (y.p.toList == p.toList) = false) (hG : G.length ≤ 1000) (hN : -1000000 ≤ s.n ∧ s.n ≤ 1000000) (hs : stopS s s2 true) :
    Calls Try.prog 53 #[.pointer (some ⟨r, 0, none⟩), .string p, .string q] w fun e w' => e = .returned (.int .i64 7) ∧ RfP w' B r Z v s2 G ∧ Vol Z w w' := by
  have HB := Lib.hid (fun (g : Nat) (wz : World) (hb : Below w.heap.size w wz) (hg : Blk wz g 9 #[.string p, .string q]) => Begin2_go (c := 2) (.inr ⟨by omega, rfl⟩) (h.below hb) hd hg hp hq (At_yes (h.below hb) hj hx hno hG))
  have HG := Lib.hid (show Blk (w.alloc (.cells #[.string p, .string q] 9)) w.heap.size 9 #[.string p, .string q] from Blk.new _ _ _)
  have hA : Below w.heap.size w (w.alloc (.cells #[.string p, .string q] 9)) := (Below.refl _ _).alloc (Nat.le_refl _) _
  have HH := Lib.hid (And.intro h hs)
  clear h hs hj hno hx
  go_enter Try.func53, Try.ntmps53
  go_wp2_with fail
  refine (HB.out _ _ hA HG.out).mono ?_
  rintro e w1 ⟨rfl, hb⟩
  have hb1 : Below w.heap.size w w1 := hA.trans (hb.mono hA.size)
  have HB1 := Lib.hid hb1
  clear hb hb1
  go_wp2_with fail
  refine (Stops_p (HH.out.1.below HB1.out) HH.out.2 hN).mono ?_
  rintro e w2 ⟨rfl, hR2, hV2⟩
  go_wp2_with fail
  go_ret
  exact ⟨rfl, hR2, (Vol.of_below HB1.out).trans hV2 fun b hb => .inl hb⟩
theorem zk {X wz : World} {b : Nat} {t : TypeId} {cs : Array Value} (hb : Below X.heap.size X wz) (hk : Blk X b t cs) : Blk wz b t cs := hk.below hb hk.lt
theorem bel_alloc {a b : World} (h : Below a.heap.size a b) (o : Obj) : Below a.heap.size a (b.alloc o) := h.alloc h.size o
theorem bel_thru {a b c : World} (h : Below a.heap.size a b) (h2 : Below b.heap.size b c) : Below a.heap.size a c := h.trans (h2.mono h.size)
theorem bel_set {a b : World} (h : Below a.heap.size a b) {x : Addr} (hx : a.heap.size ≤ x.block) (v : Value) : Below a.heap.size a (b.setCell x v) := bel_volP h (Vol.setCell (V := fun k => k = x.block) (Vol.refl b) (.inl rfl) v) (fun k e => by rw [e]; exact hx)
theorem fin_a {a wz : World} (h : Below a.heap.size a wz) (x : Pf) : Hid (∃ (bx : Nat) (w7 : World), Value.pointer (some ⟨wz.heap.size, 0, none⟩) = Value.pointer (some ⟨bx, 0, none⟩) ∧ a.heap.size ≤ bx ∧ Below a.heap.size a (wz.alloc (.cells #[.string x.p, x.v, .int .i64 x.sy, .bool x.fi] 99)) ∧ Blk (wz.alloc (.cells #[.string x.p, x.v, .int .i64 x.sy, .bool x.fi] 99)) bx 99 (pfC x).toArray ∧ w7 = wz.alloc (.cells #[.string x.p, x.v, .int .i64 x.sy, .bool x.fi] 99)) :=
  Lib.hid ⟨_, _, rfl, h.size, bel_alloc h _, Blk.new _ _ _, rfl⟩
theorem fin_b {a wz : World} (h : Below a.heap.size a wz) {b : Nat} (hb : a.heap.size ≤ b) {u0 u1 u2 u3 : Value} (hk : Blk wz b 99 #[u0, u1, u2, u3]) (x : Pf) : Hid (∃ (bx : Nat) (w7 : World), Value.pointer (some ⟨b, 0, none⟩) = Value.pointer (some ⟨bx, 0, none⟩) ∧ a.heap.size ≤ bx ∧ Below a.heap.size a ((((wz.setCell ⟨b, 0, none⟩ (.string x.p)).setCell ⟨b, 1, none⟩ x.v).setCell ⟨b, 2, none⟩ (.int .i64 x.sy)).setCell ⟨b, 3, none⟩ (.bool x.fi)) ∧ Blk ((((wz.setCell ⟨b, 0, none⟩ (.string x.p)).setCell ⟨b, 1, none⟩ x.v).setCell ⟨b, 2, none⟩ (.int .i64 x.sy)).setCell ⟨b, 3, none⟩ (.bool x.fi)) bx 99 (pfC x).toArray ∧ w7 = (((wz.setCell ⟨b, 0, none⟩ (.string x.p)).setCell ⟨b, 1, none⟩ x.v).setCell ⟨b, 2, none⟩ (.int .i64 x.sy)).setCell ⟨b, 3, none⟩ (.bool x.fi)) :=
  Lib.hid ⟨_, _, rfl, hb, bel_set (bel_set (bel_set (bel_set h hb _) hb _) hb _) hb _, (((hk.set_ 0 _).set_ 1 _).set_ 2 _).set_ 3 _, rfl⟩
abbrev RfU (w0 : World) (B r gg j : Nat) (x : Pf) (Z : Nat → Prop) (v : Value) (s : Ps) (G : List Pf) (wa : World) : Prop :=
  wa.cell? ⟨r, 0, none⟩ = some v ∧ wa.cell? ⟨gg, j * 4, none⟩ = some (.string x.p) ∧ wa.cell? ⟨gg, j * 4 + 1, none⟩ = some x.v ∧ wa.cell? ⟨gg, j * 4 + 2, none⟩ = some (.int .i64 x.sy) ∧ wa.cell? ⟨gg, j * 4 + 3, none⟩ = some (.bool x.fi) ∧ (RfP wa B r Z v s G ∧ Below w0.heap.size w0 wa)
theorem ru_mk {w0 wa : World} {gg n c j : Nat} (hR : RfP wa B r Z (.slice (some ⟨gg, 0, none⟩) n c) s G) (hb : Below w0.heap.size w0 wa) (hj : G[j]? = some x) : RfU w0 B r gg j x Z (.slice (some ⟨gg, 0, none⟩) n c) s G wa := by
  obtain ⟨g2, e2, -, k0, k1, k2, k3⟩ := hR.cells hj
  injection e2 with e2
  injection e2 with e2
  subst e2
  exact ⟨hR.blk.cell 0, k0, k1, k2, k3, hR, hb⟩
set_option maxHeartbeats 8000000 in
theorem RRen_ok (h : RfP w B r Z v s G) (hd : s.de = false) (hp : p.toList.isEmpty = false) (hq : q.toList.isEmpty = false) {j : Nat} {x : Pf} (hj : G[j]? = some x) (hx : x.p = p) (hno : ∀ (i : Nat) (y : Pf), i < j → G[i]? = some y → (y.p.toList == p.toList) = false) (hG : G.length ≤ 1000) (hN : -1000000 ≤ s.n ∧ s.n ≤ 1000000) (hs : stopS s s2 false) (hxl : x.bs.length ≤ 1000000) (hB : B ≤ w.heap.size) :
    Calls Try.prog 53 #[.pointer (some ⟨r, 0, none⟩), .string p, .string q] w fun e w' => e = .returned (.int .i64 0) ∧ ∃ Z' v', RfP w' B r Z' v' s2 (putF { x with p := q, sy := x.bs.length, fi := true } (dropF p G) false) ∧ Vol Z w w' ∧ ∀ b, Z' b → Z b ∨ w.heap.size ≤ b := by
  have HB := Lib.hid (fun (g : Nat) (wz : World) (hb : Below w.heap.size w wz) (hg : Blk wz g 9 #[.string p, .string q]) => Begin2_go (c := 2) (.inr ⟨by omega, rfl⟩) (h.below hb) hd hg hp hq (At_yes (h.below hb) hj hx hno hG))
  have HG := Lib.hid (show Blk (w.alloc (.cells #[.string p, .string q] 9)) w.heap.size 9 #[.string p, .string q] from Blk.new _ _ _)
  have hA : Below w.heap.size w (w.alloc (.cells #[.string p, .string q] 9)) := (Below.refl _ _).alloc (Nat.le_refl _) _
  obtain ⟨Av, cv, rfl, -, -⟩ := h.shape
  obtain ⟨gg, rfl, -⟩ := h.cells hj
  have HH := Lib.hid (And.intro h hs)
  have hAt := fun {wa : World} (k : RfP wa B r Z (.slice (some ⟨gg, 0, none⟩) G.length cv) s2 G) => At_yes k hj hx hno hG
  have HJ := Lib.hid hj
  have hjG := (List.getElem?_eq_some_iff.1 hj).1
  have jG : (j : Int) < (G.length : Int) := by omega
  have j0 : (0 : Int) ≤ (j : Int) := by omega
  clear h hs hj hno
  go_enter Try.func53, Try.ntmps53
  go_wp2_with fail
  refine (HB.out _ _ hA HG.out).mono ?_
  rintro e w1 ⟨rfl, hb⟩
  have hb1 : Below w.heap.size w w1 := hA.trans (hb.mono hA.size)
  have HB1 := Lib.hid hb1
  clear hb hb1
  go_wp2_with fail
  refine (Stops_p (HH.out.1.below HB1.out) HH.out.2 hN).mono ?_
  rintro e w2 ⟨rfl, hR2, hV2⟩
  have HV2 := Lib.hid ((Vol.of_below HB1.out).trans hV2 fun b hb => .inl hb)
  have HR2 := Lib.hid hR2
  clear hR2 hV2
  go_upto_region 6 with fail
  obtain ⟨xp, xA, xc, xb, xs, xf⟩ := x
  simp only at hx
  subst hx
  go_cut [8] from 19 to 28 (fun v8 wx => Hid (∃ bx w7, v8 = .pointer (some ⟨bx, 0, none⟩) ∧ w2.heap.size ≤ bx ∧ Below w2.heap.size w2 wx ∧ Blk wx bx 99 (pfC ⟨xp, xA, xc, xb, xs, xf⟩).toArray ∧ w7 = wx))
  case first =>
    have hS0 : RfU w2 B r gg j ⟨xp, xA, xc, xb, xs, xf⟩ Z (.slice (some ⟨gg, 0, none⟩) G.length cv) s2 G w2 := ru_mk HR2.out (Below.refl _ _) HJ.out
    have hK : ∀ {wa : World}, Below w2.heap.size w2 wa → RfU w2 B r gg j ⟨xp, xA, xc, xb, xs, xf⟩ Z (.slice (some ⟨gg, 0, none⟩) G.length cv) s2 G wa := fun {wa} hb => ru_mk (HR2.out.below hb) hb HJ.out
    have r0 : w2.cell? ⟨r, 0, none⟩ = some (.slice (some ⟨gg, 0, none⟩) G.length cv) := hS0.1
    have hrl : r < w2.heap.size := HR2.out.blk.lt
    have hgl : gg < w2.heap.size := HR2.out.lt gg (HR2.out.zr.2 gg rfl)
    go_region_with (go_at_call 74; refine (hAt (wa := _) (HR2.out.below (by repeat (first | exact Below.refl _ _ | refine Below.drew ?_ | refine bel_alloc ?_ _)))).mono ?_; rintro e wz ⟨rfl, hbz⟩; obtain ⟨t0, t1, t2, t3, t4, t5, t6⟩ := hK (wa := wz) (by refine bel_thru ?_ hbz; repeat (first | exact Below.refl _ _ | refine Below.drew ?_ | refine bel_alloc ?_ _)); have hgz : gg < wz.heap.size := Nat.lt_of_lt_of_le hgl t6.size; have hrz : r < wz.heap.size := Nat.lt_of_lt_of_le hrl t6.size; try (have hk : Blk wz w2.heap.size 99 #[.string ⟨#[]⟩, .slice none 0 0, .int .i64 0, .bool false] := zk hbz (Blk.new w2 99 #[.string ⟨#[]⟩, .slice none 0 0, .int .i64 0, .bool false]); have z0 := hk.cell 0; have z1 := hk.cell 1; have z2 := hk.cell 2; have z3 := hk.cell 3; have y0 := hk.frozen 0; have y1 := hk.frozen 1; have y2 := hk.frozen 2; have y3 := hk.frozen 3))
    all_goals
      clear hS0 hK
      go_wp2_with fail
      go_meet
      first | exact fin_a t6 ⟨xp, xA, xc, xb, xs, xf⟩ | exact fin_b t6 (Nat.le_refl _) hk ⟨xp, xA, xc, xb, xs, xf⟩ | exact fin_a t6.drew ⟨xp, xA, xc, xb, xs, xf⟩
  case rest =>
    obtain ⟨bx, w5, rfl, hbx, hb5, hB5, e5⟩ := hcut.out
    subst e5
    have HB5 := Lib.hid hb5
    have HR5 := Lib.hid (HR2.out.below hb5)
    have HK5 := Lib.hid hB5
    have hs5 := hb5.size
    have hsV := HV2.out.size
    have hbl5 := hB5.lt
    clear hcut hb5 hB5
    go_wp2_with fail
    refine (Drop_p (w := w5) (p := xp) HR5.out hG (by omega)).mono ?_
    rintro e w6 ⟨⟨u, rfl⟩, Z6, v6, hR6, hV6, hZ6, hY6⟩
    have hxz : ∀ b, Z b → b < w2.heap.size := HR2.out.lt
    have hK6 := blk_vol HK5.out hV6 (fun e => by have := hxz _ e; omega)
    have hby := hY6 _ (HR5.out.byt j _ HJ.out)
    have HD := Lib.hid (And.intro hR6 (And.intro hV6 (And.intro hZ6 hby)))
    have hs6 := hV6.size
    clear hR6 hV6 hY6 hby
    have d0 : w6.cell? ⟨bx, 0, none⟩ = some (.string xp) := hK6.cell 0
    have d1 : w6.cell? ⟨bx, 1, none⟩ = some (.slice xA xb.length xc) := hK6.cell 1
    have d2 : w6.cell? ⟨bx, 2, none⟩ = some (.int .i64 xs) := hK6.cell 2
    have d3 : w6.cell? ⟨bx, 3, none⟩ = some (.bool xf) := hK6.cell 3
    have f0 : w6.frozen? ⟨bx, 0, none⟩ = false := hK6.frozen 0
    have f2 : w6.frozen? ⟨bx, 2, none⟩ = false := hK6.frozen 2
    have f3 : w6.frozen? ⟨bx, 3, none⟩ = false := hK6.frozen 3
    have HK6 := Lib.hid hK6
    clear hK6
    go_upto_region 9 with fail
    obtain ⟨wq, hwq⟩ : ∃ wq, wq = ((w6.setCell ⟨bx, 0, none⟩ (.string q)).setCell ⟨bx, 2, none⟩ (.int .i64 (xb.length : Nat))).setCell ⟨bx, 3, none⟩ (.bool true) := ⟨_, rfl⟩
    have hkq : Blk wq bx 99 #[.string q, .slice xA xb.length xc, .int .i64 (xb.length : Nat), .bool true] := by
      rw [hwq]
      exact ((HK6.out.set_ 0 (.string q)).set_ 2 (.int .i64 (xb.length : Nat))).set_ 3 (.bool true)
    have hvq : Vol (fun b => b = bx) w6 wq := by
      rw [hwq]
      exact (((Vol.refl w6).setCell (V := fun b => b = bx) (a := ⟨bx, 0, none⟩) (.inl rfl) _).setCell (a := ⟨bx, 2, none⟩) (.inl rfl) _).setCell (a := ⟨bx, 3, none⟩) (.inl rfl) _
    have hnz : ∀ b, Z6 b → ¬ b = bx := fun b hb e => by
      rcases hZ6 b hb with h | h
      · have := hxz b h; omega
      · omega
    have hRq := HD.out.1.vol hvq hnz
    have hbyq : ByP wq (fun b => Z6 b ∨ False) ⟨q, xA, xc, xb, (xb.length : Nat), true⟩ := by
      have h0 := HD.out.2.2.2.keep (w' := wq) fun g cur hg hc => hvq.block g (Array.getElem?_eq_some_iff.1 hc).1 (hnz g hg)
      exact ⟨h0.1, h0.2.1, fun hp => by obtain ⟨g, cur, e1, e2, e3⟩ := h0.2.2 hp; exact ⟨g, cur, e1, .inl e2, e3⟩⟩
    have ewq := hwq.symm
    rw [ewq]
    have q0 : wq.cell? ⟨bx, 0, none⟩ = some (.string q) := hkq.cell 0
    have q1 : wq.cell? ⟨bx, 1, none⟩ = some (.slice xA xb.length xc) := hkq.cell 1
    have q2 : wq.cell? ⟨bx, 2, none⟩ = some (.int .i64 (xb.length : Nat)) := hkq.cell 2
    have q3 : wq.cell? ⟨bx, 3, none⟩ = some (.bool true) := hkq.cell 3
    have hsq := hvq.size
    have hGd : (dropF xp G).length ≤ 1000 := Nat.le_trans (List.length_filter_le _ _) hG
    have HP := Lib.hid (Put_p (w := wq) (Zf := fun _ => False) hRq hGd (f := ⟨q, xA, xc, xb, (xb.length : Nat), true⟩) hbyq (fun b hb => hb.elim) (by omega))
    have HVQ := Lib.hid (And.intro hvq hZ6)
    clear hkq hvq hRq hbyq ewq hwq d0 d1 d2 d3 f0 f2 f3 hnz hZ6
    go_wp2_with fail
    refine HP.out.mono ?_
    rintro e wz ⟨⟨u, rfl⟩, Z', v', hRz, hVz, hZz⟩
    have HZ := Lib.hid (And.intro hRz (And.intro hVz hZz))
    clear hRz hVz hZz HP
    go_wp2_with fail
    go_ret
    obtain ⟨hRz, hVz, hZz⟩ := HZ.out
    have hv5 : Vol Z w w5 := HV2.out.below HB5.out
    have hv6 : Vol Z w w6 := hv5.trans HD.out.2.1 fun b hb => .inl hb
    have hvq2 : Vol Z w wq := hv6.trans HVQ.out.1 fun b hb => .inr (by rw [hb]; omega)
    refine ⟨rfl, Z', ⟨v', hRz⟩, hvq2.trans hVz fun b hb => ?_, fun b hb => ?_⟩
    · rcases HVQ.out.2 b hb with h | h
      · exact .inl h
      · right; omega
    · rcases hZz b hb with h | h | h
      · rcases HVQ.out.2 b h with h | h
        · exact .inl h
        · right; omega
      · exact h.elim
      · right; omega
end
end Go.Proofs.Ytplmfmcogbdpjaa.Dk
namespace Go.Proofs.Ytplmfmcogbdpjaa.Dk
open Go Go.RowKit Go.Proofs.Ytplmfmcogbdpjaa Go.Proofs.Ytplmfmcogbdpjaa.Crw Go.Proofs.Ytplmfmcogbdpjaa.Vl Go.ChangeShapes Go.WideShapes Go.ChangeAt
set_option linter.unusedVariables false
set_option maxRecDepth 100000
/-- The plain disk is in a state, k acts behind its beginning. -/
structure AbR (s : Ps) (G : List Pf) (a : Ab) (k : Nat) : Prop where
  q : s.q = a.q
  de : s.de = a.de
  ar : s.ar = a.fz.isSome
  n : ∀ m, a.fz = some m → s.n = (m : Nat)
  nb : -(k : Int) ≤ s.n ∧ s.n ≤ 1000
  eq : G.map nmG = a.Y
def RkA (w : World) (B r : Nat) (Z : Nat → Prop) (k : Nat) (a : Ab) : Prop := ∃ v s G, RfP w B r Z v s G ∧ AbR s G a k
section
variable {w w' w1 : World} {B r k : Nat} {U Z Z' : Nat → Prop} {s s2 : Ps} {G G' : List Pf} {a a' : Ab} {p q : ByteArray} {Y : List Sh} {v : Value}
theorem RkA.below (h : RkA w B r Z k a) (hb : Below w.heap.size w w') : RkA w' B r Z k a := by
  obtain ⟨v, s, G, h1, h2⟩ := h
  exact ⟨v, s, G, h1.below hb, h2⟩
theorem RkA.vol (h : RkA w B r Z k a) (hv : Vol U w w') (hd : ∀ b, Z b → ¬ U b) : RkA w' B r Z k a := by
  obtain ⟨v, s, G, h1, h2⟩ := h
  exact ⟨v, s, G, h1.vol hv hd, h2⟩
theorem RkA.lt (h : RkA w B r Z k a) : ∀ b, Z b → b < w.heap.size := by obtain ⟨v, s, G, h1, h2⟩ := h; exact h1.lt
theorem RkA.ge (h : RkA w B r Z k a) : ∀ b, Z b → B ≤ b := by obtain ⟨v, s, G, h1, h2⟩ := h; exact h1.ge
theorem AbR.mono {k' : Nat} (h : AbR s G a k) (hk : k ≤ k') : AbR s G a k' := ⟨h.q, h.de, h.ar, h.n, by have := h.nb; omega, h.eq⟩
theorem RkA.mono {k' : Nat} (h : RkA w B r Z k a) (hk : k ≤ k') : RkA w B r Z k' a := by
  obtain ⟨v, s, G, h1, h2⟩ := h
  exact ⟨v, s, G, h1, h2.mono hk⟩
theorem AbR.no_ (h : AbR s G a k) (hn : fnd (by_ p) a.Y = Option.none) : ∀ (i : Nat) (y : Pf), G[i]? = Option.some y → (y.p.toList == p.toList) = false := fun i y hy => by
  rw [beq_ky, decide_eq_false]
  refine fnd_none hn (nmG y) ?_
  rw [← h.eq]
  exact List.mem_map.2 ⟨y, List.mem_of_getElem? hy, rfl⟩
theorem AbR.yes_ (h : AbR s G a k) (hs : Srt a.Y) {y : Sh} (hn : fnd (by_ p) a.Y = Option.some y) : ∃ (j : Nat) (x : Pf), G[j]? = Option.some x ∧ x.p = p ∧ nmG x = y ∧ x.bs = y.bs ∧ ∀ (i : Nat) (z : Pf), i < j → G[i]? = some z → (z.p.toList == p.toList) = false := by
  obtain ⟨h1, h2⟩ := fnd_some hn
  rw [← h.eq] at h1
  obtain ⟨x, hx, e⟩ := List.mem_map.1 h1
  obtain ⟨j, hj⟩ := List.getElem?_of_mem hx
  refine ⟨j, x, hj, ba_eq (by rw [← e] at h2; exact h2), e, by rw [← e], fun i z hij hz => ?_⟩
  rw [beq_ky]
  refine decide_eq_false fun e2 => ?_
  have hnd := hs.nodup
  rw [← h.eq, List.map_map] at hnd
  have hil := (List.getElem?_eq_some_iff.1 hz).1
  have hjl := (List.getElem?_eq_some_iff.1 hj).1
  have h3 : (G.map (Sh.ky ∘ nmG))[i]? = (G.map (Sh.ky ∘ nmG))[j]? := by
    rw [List.getElem?_map, List.getElem?_map, hz, hj]
    show some (nmG z).ky = some (nmG x).ky
    rw [e2, e, h2]
  have h4 := (List.getElem?_inj (by rw [List.length_map]; exact hil) hnd).1 h3
  omega
theorem AbR.len (h : AbR s G a k) {k' : Nat} (g : Good a k') : G.length ≤ k' := by have := congrArg List.length h.eq; rw [List.length_map] at this; rw [this]; exact g.len
theorem AbR.tot (h : AbR s G a k) : totP G = total a.Y := by
  rw [← h.eq]
  unfold totP total
  rw [List.map_map]
  rfl
theorem AbR.bl (h : AbR s G a k) {k' : Nat} (g : Good a k') {j : Nat} {x : Pf} (hj : G[j]? = some x) : x.bs.length ≤ 65536 := by
  have h1 := sh_le (y := nmG x) (Y := a.Y) (by rw [← h.eq]; exact List.mem_map.2 ⟨x, List.mem_of_getElem? hj, rfl⟩)
  have h2 := g.tot
  have h3 := g.q
  simp only at h1
  omega
theorem AbR.stop (h : AbR s G a k) : (a.fz = some 0 ∧ ∃ s2, stopS s s2 true ∧ AbR s2 G a.dead (k + 1)) ∨ (a.fz ≠ some 0 ∧ ∃ s2, stopS s s2 false ∧ s2.q = s.q ∧ s2.de = s.de ∧ ∀ (G' : List Pf) (Y : List Sh), G'.map nmG = Y → AbR s2 G' (a.did Y) (k + 1)) := by
  obtain ⟨e1, e2, e3, e4, e5, e6⟩ := h
  cases hz : a.fz with
  | none =>
    rw [hz] at e3
    exact .inr ⟨by simp, _, .inr ⟨.inl e3, rfl, rfl⟩, rfl, rfl, fun G' Y hp => ⟨e1, e2, by simp [Ab.did, hz, e3], (fun m hm => by simp [Ab.did, hz] at hm), by simp only; omega, hp⟩⟩
  | some m =>
    rw [hz] at e3
    cases m with
    | zero => exact .inl ⟨rfl, _, .inl ⟨e3, by rw [e4 0 hz]; rfl, rfl, rfl⟩, ⟨e1, rfl, by simp [Ab.dead, hz, e3], (fun m hm => e4 m hm), by simp only; omega, e6⟩⟩
    | succ m =>
      have h4 := e4 _ hz
      exact .inr ⟨by simp, _, .inr ⟨.inr (by omega), rfl, rfl⟩, rfl, rfl, fun G' Y hp => ⟨e1, e2, by simp [Ab.did, hz, e3], (fun m' hm => by simp [Ab.did, hz] at hm; subst hm; simp only; omega), by simp only; omega, hp⟩⟩
/-- What an act of the plain disk leaves. -/
def PsR (w : World) (B r : Nat) (Z : Nat → Prop) (k : Nat) (t : Int × Ab) (e : Ending) (w' : World) : Prop :=
  e = .returned (.int .i64 t.1) ∧ ∃ Z', RkA w' B r Z' (k + 1) t.2 ∧ Vol Z w w' ∧ ∀ b, Z' b → Z b ∨ w.heap.size ≤ b
theorem psR_keep {t : Int} (H : RkA w B r Z k a) {e : Ending} (he : e = .returned (.int .i64 t)) (hb : Below w.heap.size w w') : PsR w B r Z k (t, a) e w' := ⟨he, Z, (H.below hb).mono (Nat.le_succ _), Vol.of_below hb, fun b e => .inl e⟩
set_option maxHeartbeats 4000000 in
theorem R_Append {A : Option Addr} {n c B' : Nat} {bs : List Int} (H : RkA w B r Z k a) (g : Good a k) (hk : k ≤ 1000) (hB : B ≤ w.heap.size) (hr : Reads w B' 1 A n (bsV bs)) (hB' : B' ≤ w.heap.size) (hA : ∀ ad, A = some ad → ¬ Z ad.block) :
    Calls Try.prog 49 #[.pointer (some ⟨r, 0, none⟩), .string p, .slice A n c] w (PsR w B r Z k (abAppend p bs a)) := by
  obtain ⟨v, s, G, h, ab⟩ := H
  have hlen : bs.length = n := by have := hr.1; simpa [bsV] using this
  have hq : 0 ≤ s.q ∧ s.q ≤ 65536 := by rw [ab.q]; exact g.q
  have hG : G.length ≤ 1000 := Nat.le_trans (ab.len g) hk
  have hT : totP G ≤ 1000000 := by rw [ab.tot]; have := g.tot; have := g.q; omega
  have hN : -1000000 ≤ s.n ∧ s.n ≤ 1000000 := by have := ab.nb; omega
  unfold abAppend
  by_cases hd : a.de = true
  · rw [if_pos hd]
    exact (RApp_dead h (by rw [ab.de]; exact hd)).mono fun e w1 ⟨he, hb⟩ => psR_keep ⟨v, s, G, h, ab⟩ he hb
  rw [if_neg hd]
  have hde : s.de = false := by rw [ab.de]; simpa using hd
  by_cases hp : by_ p = []
  · rw [if_pos hp]
    exact (RApp_arg h hde (pnil hp)).mono fun e w1 ⟨he, hb⟩ => psR_keep ⟨v, s, G, h, ab⟩ he hb
  rw [if_neg hp]
  have hpe := pne hp
  by_cases hfull : a.q - (total a.Y : Nat) < (bs.length : Nat)
  · rw [if_pos hfull]
    exact (RApp_full h hde hpe hG hT hq (by rw [ab.q, ab.tot, ← hlen]; exact hfull)).mono fun e w1 ⟨he, hb⟩ => psR_keep ⟨v, s, G, h, ab⟩ he hb
  rw [if_neg hfull]
  have hfit : (n : Int) ≤ s.q - (totP G : Nat) := by rw [ab.q, ab.tot, ← hlen]; omega
  unfold abBurn
  rcases ab.stop with ⟨hz, s2, hbs, ab2⟩ | ⟨hz, s2, hbs, hsq, hsd, hab⟩
  · rw [if_pos hz]
    exact (RApp_stop h hde hpe hG hT hq hfit hbs hN).mono fun e w1 ⟨he, hD, hv⟩ => ⟨he, Z, ⟨v, s2, G, hD, ab2⟩, hv, fun b e => .inl e⟩
  · rw [if_neg hz]
    cases hf : fnd (by_ p) a.Y with
    | none =>
      refine (RApp_new h hde hpe hG hT hq hfit hbs hN (ab.no_ hf) hr hB' hA hB).mono ?_
      rintro e w1 ⟨he, Z', v', A', c', hR, hv, hZ⟩
      refine ⟨he, Z', ⟨v', s2, _, hR, hab _ _ ?_⟩, hv, hZ⟩
      rw [putF_put, ab.eq]
      congr 1
      simp [grow, hf]
    | some y =>
      obtain ⟨j, x, hj, hxp, hxy, hxb, hno⟩ := ab.yes_ g.srt hf
      refine (RApp_old h hde hpe hG hT hq hfit hbs hN hj hxp hno (by have := ab.bl g hj; omega) hr hB' hA hB).mono ?_
      rintro e w1 ⟨he, Z', v', A', c', hR, hv, hZ⟩
      refine ⟨he, Z', ⟨v', s2, _, hR, hab _ _ ?_⟩, hv, hZ⟩
      rw [putF_put, ab.eq]
      congr 1
      simp only [grow, hf]
      rw [← hxy]
set_option maxHeartbeats 4000000 in
theorem R_Sync (H : RkA w B r Z k a) (g : Good a k) (hk : k ≤ 1000) :
    Calls Try.prog 52 #[.pointer (some ⟨r, 0, none⟩), .string p] w (PsR w B r Z k (abSync p a)) := by
  obtain ⟨v, s, G, h, ab⟩ := H
  have hG : G.length ≤ 1000 := Nat.le_trans (ab.len g) hk
  have hN : -1000000 ≤ s.n ∧ s.n ≤ 1000000 := by have := ab.nb; omega
  unfold abSync abFind
  by_cases hd : a.de = true
  · rw [if_pos hd]
    exact (RSync_dead h (by rw [ab.de]; exact hd)).mono fun e w1 ⟨he, hb⟩ => psR_keep ⟨v, s, G, h, ab⟩ he hb
  rw [if_neg hd]
  have hde : s.de = false := by rw [ab.de]; simpa using hd
  by_cases hp : by_ p = []
  · rw [if_pos hp]
    exact (RSync_arg h hde (pnil hp)).mono fun e w1 ⟨he, hb⟩ => psR_keep ⟨v, s, G, h, ab⟩ he hb
  rw [if_neg hp]
  have hpe := pne hp
  cases hf : fnd (by_ p) a.Y with
  | none => exact (RSync_none h hde hpe (ab.no_ hf) hG).mono fun e w1 ⟨he, hb⟩ => psR_keep ⟨v, s, G, h, ab⟩ he hb
  | some y =>
    obtain ⟨j, x, hj, hxp, hxy, hxb, hno⟩ := ab.yes_ g.srt hf
    simp only
    unfold abBurn
    rcases ab.stop with ⟨hz, s2, hbs, ab2⟩ | ⟨hz, s2, hbs, hsq, hsd, hab⟩
    · rw [if_pos hz]
      exact (RSync_stop h hde hpe hj hxp hno hG hN hbs).mono fun e w1 ⟨he, hD, hv⟩ => ⟨he, Z, ⟨v, s2, G, hD, ab2⟩, hv, fun b e => .inl e⟩
    · rw [if_neg hz]
      refine (RSync_ok h hde hpe hj hxp hno hG hN hbs (by have := ab.bl g hj; omega)).mono ?_
      rintro e w1 ⟨he, hR, hv⟩
      refine ⟨he, Z, ⟨v, s2, _, hR, hab _ _ ?_⟩, hv, fun b e => .inl e⟩
      have eg : (⟨p, y.bs, (y.bs.length : Nat), true⟩ : Sh) = nmG { x with sy := x.bs.length, fi := true } := by rw [← hxp, ← hxb]; simp
      rw [List.map_set, ab.eq, eg]
      have hj2 : a.Y[j]? = some (nmG x) := by rw [← ab.eq, List.getElem?_map, hj]; rfl
      exact set_put (p := by_ p) g.srt hj2 (by rw [← hxp]) (by rw [← hxp])
set_option maxHeartbeats 4000000 in
theorem R_Cut {n : Int} (H : RkA w B r Z k a) (g : Good a k) (hk : k ≤ 1000) :
    Calls Try.prog 54 #[.pointer (some ⟨r, 0, none⟩), .string p, .int .i64 n] w (PsR w B r Z k (abCut p n a)) := by
  obtain ⟨v, s, G, h, ab⟩ := H
  have hG : G.length ≤ 1000 := Nat.le_trans (ab.len g) hk
  have hN : -1000000 ≤ s.n ∧ s.n ≤ 1000000 := by have := ab.nb; omega
  unfold abCut abFind
  by_cases hd : a.de = true
  · rw [if_pos hd]
    exact (RCut_dead h (by rw [ab.de]; exact hd)).mono fun e w1 ⟨he, hb⟩ => psR_keep ⟨v, s, G, h, ab⟩ he hb
  rw [if_neg hd]
  have hde : s.de = false := by rw [ab.de]; simpa using hd
  by_cases hp : by_ p = []
  · rw [if_pos hp]
    exact (RCut_arg h hde (pnil hp)).mono fun e w1 ⟨he, hb⟩ => psR_keep ⟨v, s, G, h, ab⟩ he hb
  rw [if_neg hp]
  have hpe := pne hp
  cases hf : fnd (by_ p) a.Y with
  | none => exact (RCut_none h hde hpe (ab.no_ hf) hG).mono fun e w1 ⟨he, hb⟩ => psR_keep ⟨v, s, G, h, ab⟩ he hb
  | some y =>
    obtain ⟨j, x, hj, hxp, hxy, hxb, hno⟩ := ab.yes_ g.srt hf
    have hxl : x.bs.length ≤ 1000000 := by have := ab.bl g hj; omega
    simp only
    by_cases hbad : n < 0 ∨ (y.bs.length : Int) < n
    · rw [if_pos hbad]
      exact (RCut_bad h hde hpe hj hxp hno hG hN (by rw [hxb]; exact hbad) hxl).mono fun e w1 ⟨he, hb⟩ => psR_keep ⟨v, s, G, h, ab⟩ he hb
    rw [if_neg hbad]
    obtain ⟨m, rfl⟩ : ∃ m : Nat, n = (m : Int) := ⟨n.toNat, by omega⟩
    have hml : m ≤ x.bs.length := by rw [hxb]; omega
    rw [Int.toNat_natCast]
    unfold abBurn
    rcases ab.stop with ⟨hz, s2, hbs, ab2⟩ | ⟨hz, s2, hbs, hsq, hsd, hab⟩
    · rw [if_pos hz]
      exact (RCut_stop h hde hpe hj hxp hno hG hN hbs hml hxl).mono fun e w1 ⟨he, hD, hv⟩ => ⟨he, Z, ⟨v, s2, G, hD, ab2⟩, hv, fun b e => .inl e⟩
    · rw [if_neg hz]
      refine (RCut_ok h hde hpe hj hxp hno hG hN hbs hml hxl).mono ?_
      rintro e w1 ⟨he, ⟨x', hR, e1, e2, e3, e4⟩, hv⟩
      refine ⟨he, Z, ⟨v, s2, _, hR, hab _ _ ?_⟩, hv, fun b e => .inl e⟩
      have eg : (⟨p, y.bs.take m, (m : Nat), true⟩ : Sh) = nmG x' := by
        show _ = (⟨x'.p, x'.bs, x'.sy, x'.fi || decide (0 < x'.sy)⟩ : Sh)
        rw [e1, e2, e3, e4, hxb]; simp
      rw [List.map_set, ab.eq, eg]
      have hj2 : a.Y[j]? = some (nmG x) := by rw [← ab.eq, List.getElem?_map, hj]; rfl
      exact set_put (p := by_ p) g.srt hj2 (by rw [← hxp]) (by rw [← e1])
set_option maxHeartbeats 4000000 in
theorem R_Remove (H : RkA w B r Z k a) (g : Good a k) (hk : k ≤ 1000) (hB : B ≤ w.heap.size) :
    Calls Try.prog 55 #[.pointer (some ⟨r, 0, none⟩), .string p] w (PsR w B r Z k (abRemove p a)) := by
  obtain ⟨v, s, G, h, ab⟩ := H
  have hG : G.length ≤ 1000 := Nat.le_trans (ab.len g) hk
  have hN : -1000000 ≤ s.n ∧ s.n ≤ 1000000 := by have := ab.nb; omega
  unfold abRemove abFind
  by_cases hd : a.de = true
  · rw [if_pos hd]
    exact (RRem_dead h (by rw [ab.de]; exact hd)).mono fun e w1 ⟨he, hb⟩ => psR_keep ⟨v, s, G, h, ab⟩ he hb
  rw [if_neg hd]
  have hde : s.de = false := by rw [ab.de]; simpa using hd
  by_cases hp : by_ p = []
  · rw [if_pos hp]
    exact (RRem_arg h hde (pnil hp)).mono fun e w1 ⟨he, hb⟩ => psR_keep ⟨v, s, G, h, ab⟩ he hb
  rw [if_neg hp]
  have hpe := pne hp
  cases hf : fnd (by_ p) a.Y with
  | none => exact (RRem_none h hde hpe (ab.no_ hf) hG).mono fun e w1 ⟨he, hb⟩ => psR_keep ⟨v, s, G, h, ab⟩ he hb
  | some y =>
    obtain ⟨j, x, hj, hxp, hxy, hxb, hno⟩ := ab.yes_ g.srt hf
    simp only
    unfold abBurn
    rcases ab.stop with ⟨hz, s2, hbs, ab2⟩ | ⟨hz, s2, hbs, hsq, hsd, hab⟩
    · rw [if_pos hz]
      exact (RRem_stop h hde hpe hj hxp hno hG hN hbs).mono fun e w1 ⟨he, hD, hv⟩ => ⟨he, Z, ⟨v, s2, G, hD, ab2⟩, hv, fun b e => .inl e⟩
    · rw [if_neg hz]
      refine (RRem_ok h hde hpe hj hxp hno hG hN hbs hB).mono ?_
      rintro e w1 ⟨he, Z', v', hR, hv, hZ⟩
      refine ⟨he, Z', ⟨v', s2, _, hR, hab _ _ ?_⟩, hv, hZ⟩
      rw [dropF_wo, ab.eq]
set_option maxHeartbeats 4000000 in
theorem R_Rename (H : RkA w B r Z k a) (g : Good a k) (hk : k ≤ 1000) (hB : B ≤ w.heap.size) :
    Calls Try.prog 53 #[.pointer (some ⟨r, 0, none⟩), .string p, .string q] w (PsR w B r Z k (abRename p q a)) := by
  obtain ⟨v, s, G, h, ab⟩ := H
  have hG : G.length ≤ 1000 := Nat.le_trans (ab.len g) hk
  have hN : -1000000 ≤ s.n ∧ s.n ≤ 1000000 := by have := ab.nb; omega
  unfold abRename
  by_cases hd : a.de = true
  · rw [if_pos hd]
    exact (RRen_dead h (by rw [ab.de]; exact hd)).mono fun e w1 ⟨he, hb⟩ => psR_keep ⟨v, s, G, h, ab⟩ he hb
  rw [if_neg hd]
  have hde : s.de = false := by rw [ab.de]; simpa using hd
  by_cases hpq : by_ p = [] ∨ by_ q = []
  · rw [if_pos hpq]
    have hpq' : p.toList.isEmpty = true ∨ (p.toList.isEmpty = false ∧ q.toList.isEmpty = true) := by
      by_cases hp : by_ p = []
      · exact .inl (pnil hp)
      · exact .inr ⟨pne hp, pnil (hpq.resolve_left hp)⟩
    exact (RRen_arg h hde hpq').mono fun e w1 ⟨he, hb⟩ => psR_keep ⟨v, s, G, h, ab⟩ he hb
  rw [if_neg hpq]
  have hpe := pne (fun e => hpq (.inl e))
  have hqe := pne (fun e => hpq (.inr e))
  cases hf : fnd (by_ p) a.Y with
  | none => exact (RRen_none h hde hpe hqe (ab.no_ hf) hG).mono fun e w1 ⟨he, hb⟩ => psR_keep ⟨v, s, G, h, ab⟩ he hb
  | some y =>
    obtain ⟨j, x, hj, hxp, hxy, hxb, hno⟩ := ab.yes_ g.srt hf
    simp only
    unfold abBurn
    rcases ab.stop with ⟨hz, s2, hbs, ab2⟩ | ⟨hz, s2, hbs, hsq, hsd, hab⟩
    · rw [if_pos hz]
      exact (RRen_stop h hde hpe hqe hj hxp hno hG hN hbs).mono fun e w1 ⟨he, hD, hv⟩ => ⟨he, Z, ⟨v, s2, G, hD, ab2⟩, hv, fun b e => .inl e⟩
    · rw [if_neg hz]
      refine (RRen_ok h hde hpe hqe hj hxp hno hG hN hbs (by have := ab.bl g hj; omega) hB).mono ?_
      rintro e w1 ⟨he, Z', v', hR, hv, hZ⟩
      refine ⟨he, Z', ⟨v', s2, _, hR, hab _ _ ?_⟩, hv, hZ⟩
      rw [putF_put, dropF_wo, ab.eq]
      congr 1
      show (⟨q, x.bs, (x.bs.length : Nat), true || decide ((0 : Int) < (x.bs.length : Nat))⟩ : Sh) = _
      rw [hxb]
      simp
theorem R_Fuse (H : RkA w B r Z k a) (x : Int) (n : Nat) (hx : max x 0 = (n : Int)) (hn : n ≤ 1000) :
    Calls Try.prog 48 #[.pointer (some ⟨r, 0, none⟩), .int .i64 x] w fun e w' => (∃ u, e = .returned u) ∧ RkA w' B r Z k (abFuse n a) ∧ Vol Z w w' := by
  obtain ⟨v, s, G, h, ab⟩ := H
  refine (RFuse h x n hx).mono ?_
  rintro e w1 ⟨he, hR, hv⟩
  exact ⟨he, ⟨v, _, G, hR, ⟨ab.q, ab.de, rfl, fun m hm => by injection hm with hm; rw [← hm], by simp only; omega, ab.eq⟩⟩, hv⟩
set_option maxHeartbeats 4000000 in
theorem R_Crash (H : RkA w B r Z k a) (g : Good a k) (hk : k ≤ 1000) (hB : B ≤ w.heap.size) (x : Int) (K : Nat) (hx : max x 0 = (K : Int)) (hK : K ≤ 65536) :
    Calls Try.prog 50 #[.pointer (some ⟨r, 0, none⟩), .int .i64 x] w fun e w' => (∃ u, e = .returned u) ∧ ∃ Z', RkA w' B r Z' k (abCrash K a) ∧ Vol Z w w' ∧ ∀ b, Z' b → Z b ∨ w.heap.size ≤ b := by
  obtain ⟨v, s, G, h, ab⟩ := H
  have hG : G.length ≤ 1000 := Nat.le_trans (ab.len g) hk
  have hmap : (G.map Pf.sh).map nmS = G.map nmG := by rw [List.map_map]; rfl
  have hok : ∀ y ∈ G, 0 ≤ y.sy ∧ y.sy ≤ y.bs.length ∧ y.bs.length ≤ 1000000 := fun y hy => by
    have hm : nmG y ∈ a.Y := by rw [← ab.eq]; exact List.mem_map.2 ⟨y, hy, rfl⟩
    have h1 := g.nm _ hm
    have h2 := sh_le hm
    have h3 := g.tot
    have h4 := g.q
    simp only at h1 h2
    exact ⟨h1.2.1, h1.2.2, by omega⟩
  refine (RCrash h hG hok x K hx (by omega) hB).mono ?_
  rintro e w1 ⟨he, Z', v', G', hR, hG', hv, hZ⟩
  refine ⟨he, Z', ⟨v', _, G', hR, ⟨ab.q, rfl, rfl, (fun m hm => by cases hm), ab.nb, ?_⟩⟩, hv, hZ⟩
  have hmap' : (G'.map Pf.sh).map nmS = G'.map nmG := by rw [List.map_map]; rfl
  have key : ∀ (X : List Sh), (∀ y ∈ X, 0 ≤ y.sy) → (X.filterMap (crR K)).map nmS = (X.map nmS).filterMap (crR K) := fun X hX => by
    induction X with
    | nil => rfl
    | cons y X ih =>
      have ih := ih fun z hz => hX z (by simp [hz])
      have h0 := hX y (by simp)
      have hc : (crR K y).map nmS = crR K (nmS y) := by
        have e1 : (nmS y).n K = y.n K := rfl
        unfold crR
        rw [e1]
        by_cases h1 : y.n K = 0 ∧ y.fi = false
        · have h2 : y.n K = 0 ∧ (nmS y).fi = false := ⟨h1.1, by
            show (y.fi || decide (0 < y.sy)) = false
            have : y.sy = 0 := by have := h1.1; unfold Sh.n at this; omega
            rw [h1.2, this]; rfl⟩
          rw [if_pos h1, if_pos h2]
          rfl
        · have h2 : ¬ (y.n K = 0 ∧ (nmS y).fi = false) := fun e => h1 ⟨e.1, by
            have := e.2
            simp only [Bool.or_eq_false_iff] at this
            exact this.1⟩
          rw [if_neg h1, if_neg h2]
          simp
      rw [List.map_cons, List.filterMap_cons, List.filterMap_cons, ← hc]
      cases hcc : crR K y with
      | none => exact ih
      | some z => simp only [Option.map_some, List.map_cons, ih]
  rw [← hmap', hG', key _ (fun y hy => by obtain ⟨z, hz, rfl⟩ := List.mem_map.1 hy; exact (hok z hz).1), hmap, ab.eq]
  rfl
end
end Go.Proofs.Ytplmfmcogbdpjaa.Dk
namespace Go.Proofs.Ytplmfmcogbdpjaa.Dk
open Go Go.RowKit Go.Proofs.Ytplmfmcogbdpjaa Go.Proofs.Ytplmfmcogbdpjaa.Crw Go.Proofs.Ytplmfmcogbdpjaa.Vl Go.ChangeShapes Go.WideShapes Go.ChangeAt
set_option linter.unusedVariables false
set_option maxRecDepth 100000
def lsP (pre : ByteArray) (Y : List Sh) : List ByteArray := (Y.filter fun y => startsB (by_ pre) y.ky).map (·.p)
theorem lsP_cons (pre : ByteArray) (y : Sh) (Y : List Sh) : lsP pre (y :: Y) = (if startsB (by_ pre) y.ky = true then [y.p] else []) ++ lsP pre Y := by
  unfold lsP
  rw [List.filter_cons]
  split <;> simp
theorem lsP_len (pre : ByteArray) (Y : List Sh) : (lsP pre Y).length ≤ Y.length := by
  unfold lsP
  rw [List.length_map]
  exact List.length_filter_le _ _
theorem lsP_mem {pre : ByteArray} {Y : List Sh} {p : ByteArray} (h : p ∈ lsP pre Y) : ∃ y ∈ Y, y.p = p := by
  obtain ⟨y, hy, e⟩ := List.mem_map.1 h
  exact ⟨y, (List.mem_filter.1 hy).1, e⟩
theorem lsP_nil (Y : List Sh) : lsP ⟨#[]⟩ Y = Y.map (·.p) := by
  unfold lsP
  congr 1
  exact List.filter_eq_self.2 fun y _ => rfl
section
variable {w w' w1 : World} {B d mb r k : Nat} {U V V' Z Z' : Nat → Prop} {s : Ds} {sp : Ps} {F : List Fi} {G : List Pf} {a a' : Ab} {p q pre : ByteArray} {Y : List Sh} {v : Value}
set_option maxHeartbeats 4000000 in
theorem D_List (H : DkA w B d V a) (g : Good a k) (hk : k ≤ 1000) :
    Calls Try.prog 22 #[.pointer (some ⟨d, 0, none⟩), .string pre] w fun e w' => ∃ A c, e = .returned (.slice A (lsP pre a.Y).length c) ∧ w'.ownsRow w.heap.size 9 1 (.slice A (lsP pre a.Y).length c) (lsP pre a.Y).length (strV (lsP pre a.Y)) ∧ Below w.heap.size w w' := by
  obtain ⟨mb, s, F, H, ab⟩ := H
  obtain ⟨es, ck, hm, hkv, hbo, hnd⟩ := H.mpB
  have hc2 : w.cell? ⟨d, 0 + 2, none⟩ = some (.map (some mb)) := H.blk.cell 2
  have hkey : es.toList.map keyB = (F.map Fi.sh).map Sh.ky := by
    have h1 := congrArg (fun l => l.map (fun q : Value × Value => match q.1 with | .string s => s.data.toList | _ => [])) hkv
    simp only [List.map_map] at h1
    rw [List.map_map]
    refine Eq.trans ?_ (h1.trans ?_)
    · apply List.map_congr_left
      intro e he
      simp only [Function.comp]
      cases hh : e.key <;> simp [keyB, hh]
    · rfl
  have hks : ∀ e ∈ es.toList, ∃ s, e.key = .string s := by
    intro e he
    have h1 : (e.key, e.val) ∈ F.map fiE := by rw [← hkv]; exact List.mem_map.2 ⟨e, he, rfl⟩
    obtain ⟨x, _, hx⟩ := List.mem_map.1 h1
    injection hx with hx1 hx2
    exact ⟨x.p, hx1.symm⟩
  have hsz : es.size ≤ 1048576 := by
    have h1 := congrArg List.length hkv
    have h2 := ab.pm.length_eq
    have h3 := g.len
    simp at h1 h2
    omega
  have hK : keysOf es.toList (by_ pre) = (es.toList.map keyB).filter (startsB (by_ pre)) := by
    unfold keysOf
    rw [List.filter_map]
    rfl
  have hl : ((keysOf es.toList (by_ pre)).mergeSort fun x y => decide (x ≤ y)) = (lsP pre a.Y).map (fun x => x.data.toList) := by
    have e1 : (lsP pre a.Y).map (fun x => x.data.toList) = (a.Y.map Sh.ky).filter (startsB (by_ pre)) := by
      unfold lsP
      rw [List.filter_map, List.map_map]
      rfl
    rw [e1]
    refine (srt_uniq ?_ ?_ ?_).symm
    · exact g.srt.sublist List.filter_sublist
    · rw [sortB_eq]
      exact sortB_sorted _
    · refine List.Perm.trans ?_ (List.mergeSort_perm _ _).symm
      rw [hK, hkey]
      refine List.Perm.filter _ ?_
      have h2 := (ab.pm.map Sh.ky).symm
      rw [List.map_map] at h2
      rw [List.map_map]
      exact h2
  have h := List_any sort_str sort_nil_any d 0 mb ck es pre w hc2 hm hbo hnd hks hsz
  refine h.mono ?_
  rintro e w1 ⟨v, rfl, hb, ho, -⟩
  have hl2 : ((keysOf es.toList (by_ pre)).mergeSort fun x y => decide (x ≤ y)).map encStr = strV (lsP pre a.Y) := by
    rw [hl, List.map_map]
    refine List.map_congr_left fun x _ => ?_
    show encStr x.data.toList = Value.string x
    unfold encStr
    congr 1
  have hn : (keysOf es.toList (by_ pre)).length = (lsP pre a.Y).length := by
    have h2 := congrArg List.length hl
    rw [List.length_mergeSort, List.length_map] at h2
    exact h2
  rw [hl2, hn] at ho
  obtain ⟨A, c, rfl, -, -⟩ := own_slice ho
  exact ⟨A, c, rfl, own_down ho (by omega), hb⟩
set_option maxHeartbeats 8000000 in
theorem RListP (h : RfP w B r Z v sp G) (hG : G.length ≤ 1000) (hP : ∀ y ∈ G, y.p.size ≤ 1000) (hpre : pre.size ≤ 1000) :
    Calls Try.prog 57 #[.pointer (some ⟨r, 0, none⟩), .string pre] w fun e w' => ∃ v', e = .returned v' ∧ w'.ownsRow w.heap.size 9 1 v' (lsP pre (G.map nmG)).length (strV (lsP pre (G.map nmG))) ∧ Below w.heap.size w w' := by
  obtain ⟨i0, hinf, hz0, hz1, hz2⟩ := info_parts str_infoP
  obtain ⟨A, c, rfl, -, -⟩ := h.shape
  have c0 : w.cell? ⟨r, 0, none⟩ = some (.slice A G.length c) := h.blk.cell 0
  have HR := Lib.hid h
  have HP := Lib.hid hP
  obtain ⟨n, hn⟩ : ∃ n, n = G.length := ⟨_, rfl⟩
  rw [← hn] at c0 HR hG
  have HN := Lib.hid hn
  clear h hn hP
  go_enter Try.func57, Try.ntmps57
  go_wp2_with fail
  go_loopw [5, 13] (fun vo vi wr => Hid (∃ (i : Nat) (L : List ByteArray), i ≤ n ∧ vi = .int .i64 i ∧ wr.ownsRow w.heap.size 9 1 vo L.length (strV L) ∧ L = lsP pre ((G.take i).map nmG) ∧ Below w.heap.size w wr ∧ ∃ w7, w7 = wr)) (fun _ vi _ => n - (intOf vi).toNat)
  case atStart => exact Lib.hid ⟨0, [], Nat.zero_le _, rfl, ⟨by simp, .inl ⟨rfl, rfl⟩⟩, rfl, Below.refl _ _, _, rfl⟩
  case round =>
    obtain ⟨i, L, hi, rfl, hown, hL, hbel, wr, hwr⟩ := hrel.out
    subst hwr
    obtain ⟨Ao, co, rfl, -, -⟩ := own_slice hown
    have HO := Lib.hid hown
    have HBe := Lib.hid hbel
    have HL := Lib.hid hL
    have hLn : L.length ≤ i := by rw [hL]; refine Nat.le_trans (lsP_len _ _) ?_; rw [List.length_map, List.length_take]; omega
    clear hrel hown hbel hL
    by_cases hin0 : i < n
    · have hin : (i : Int) < (n : Int) := by omega
      obtain ⟨x, hx⟩ : ∃ x, G[i]? = some x := ⟨_, List.getElem?_eq_getElem (by have := HN.out; omega)⟩
      obtain ⟨g, rfl, -, k0, k1, k2, k3⟩ := (HR.out.below HBe.out).cells hx
      have hxs := HP.out x (List.mem_of_getElem? hx)
      have hstep : lsP pre ((G.take (i + 1)).map nmG) = lsP pre ((G.take i).map nmG) ++ (if startsB (by_ pre) (by_ x.p) = true then [x.p] else []) := by
        rw [List.take_add_one, hx]
        unfold lsP
        simp only [Option.toList_some, List.map_append, List.map_cons, List.map_nil, List.filter_append, List.filter_cons, List.filter_nil]
        by_cases hst : startsB (by_ pre) (by_ x.p) = true
        · rw [if_pos hst, if_pos hst]; rfl
        · rw [if_neg hst, if_neg hst]; rfl
      have HX := Lib.hid hstep
      obtain ⟨xp, xA, xc, xb, xs, xf⟩ := x
      simp only at hxs
      obtain ⟨wx, hwx⟩ : ∃ wx, wx = wr.alloc (.cells (pfC ⟨xp, xA, xc, xb, xs, xf⟩).toArray 99) := ⟨_, rfl⟩
      obtain ⟨bx, hbx⟩ : ∃ bx, bx = wr.heap.size := ⟨_, rfl⟩
      have hbxB : Blk wx bx 99 #[.string xp, .slice xA xb.length xc, .int .i64 xs, .bool xf] := by rw [hwx, hbx]; exact Blk.new _ _ _
      have hbw : Below wr.heap.size wr wx := by rw [hwx]; exact (Below.refl _ _).alloc (Nat.le_refl _) _
      have e0 : wr.alloc (Obj.cells #[.string xp, .slice xA xb.length xc, .int .i64 xs, .bool xf] 99) = wx := hwx.symm
      have d0 : wx.cell? ⟨bx, 0, none⟩ = some (.string xp) := hbxB.cell 0
      have HBW := Lib.hid hbw
      have HE0 := Lib.hid e0
      have HBXX := Lib.hid hbx
      have hlx := HBe.out.size
      have hlw := HBW.out.size
      clear hx hbxB hbw hwx e0 hbx hstep
      go_upto_region 5 with fail
      rw [HE0.out, ← HBXX.out]
      clear k0 k1 k2 k3 HE0
      have hst := startsB_take (by_ pre) (by_ xp)
      have hss1 : (by_ pre).length = pre.size := by simp [by_]
      have hss2 : (by_ xp).length = xp.size := by simp [by_]
      rw [hss1, hss2] at hst
      have skip : startsB (by_ pre) (by_ xp) = false → Hid (∃ (i_1 : Nat) (L_1 : List ByteArray), i_1 ≤ n ∧ Value.int .i64 ((i : Int) + 1) = .int .i64 i_1 ∧ wx.ownsRow w.heap.size 9 1 (.slice Ao L.length co) L_1.length (strV L_1) ∧ L_1 = lsP pre ((G.take i_1).map nmG) ∧ Below w.heap.size w wx ∧ ∃ w7, w7 = wx) := fun h => Lib.hid ⟨i + 1, L, by omega, by go_num, own_keep HO.out HBW.out, by rw [HX.out, h, HL.out]; simp, HBe.out.trans (HBW.out.mono HBe.out.size), _, rfl⟩
      by_cases hlen : pre.size ≤ xp.size
      · have h1 : (pre.size : Int) ≤ (xp.size : Int) := by omega
        have e1 : ((xp.extract 0 pre.size).toList == pre.toList) = startsB (by_ pre) (by_ xp) := by
          rw [hst, ByteArray.toList_eq, ByteArray.toList_eq]
          have h2 : (xp.extract 0 pre.size).data.toList = (by_ xp).take pre.size := by simp [by_]
          rw [h2, decide_eq_true hlen, Bool.true_and]
          by_cases e : (by_ xp).take pre.size = by_ pre
          · rw [decide_eq_true e]; exact beq_iff_eq.2 e
          · rw [decide_eq_false e]; exact beq_eq_false_iff_ne.2 e
        cases hb : startsB (by_ pre) (by_ xp) with
        | true =>
          rw [hb] at e1
          have HX2 := Lib.hid (show lsP pre ((G.take (i + 1)).map nmG) = L ++ [xp] by rw [HX.out, hb, HL.out]; rfl)
          clear hst skip hb
          go_wp2_with (at_builtin; refine wpList_append_any _ rfl _ _ 33 rfl w.heap.size 9 i0 (.string ⟨#[]⟩) 1 16 Try.underlying33 hinf hz0 hz1 hz2 rfl (by decide) (.slice Ao L.length co) L.length (strV L) rfl ((own_keep HO.out HBW.out).alloc _) (wx.alloc (.cells #[.string xp] 9)).heap.size (some ⟨wx.heap.size, 0, none⟩) 1 1 [.string xp] rfl (reads_one wx (.string xp) 9) (by simp [Value.oneCell']) (by simp only [maxLen]; omega) (by omega) (by simp; omega) ?_; intro v1 w1 hown hg _hne; clear _hne; have HO1 := Lib.hid hown; have HG1 := Lib.hid hg; clear hown hg)
          have hb1 : Below w.heap.size w w1 := ((HBe.out.trans (HBW.out.mono hlx)).alloc (by omega) _).grown HG1.out (by simp; omega) (fun k hk => (HO.out.lt k hk).1)
          refine ⟨Lib.hid ⟨i + 1, L ++ [xp], by omega, by go_num, ?_, by rw [HX2.out], hb1, _, rfl⟩, by simp [intOf]; omega⟩
          have h := HO1.out
          simp only [List.length_append, List.length_singleton, strV, List.map_append, List.map_cons, List.map_nil]
          exact h
        | false =>
          rw [hb] at e1
          have hs := skip hb
          clear hst skip hb
          go_wp2_with fail
          exact ⟨hs, by simp [intOf]; omega⟩
      · have h1 : ¬ (pre.size : Int) ≤ (xp.size : Int) := by omega
        have hs := skip (by rw [hst, decide_eq_false hlen, Bool.false_and])
        clear hst skip
        go_wp2_with fail
        exact ⟨hs, by simp [intOf]; omega⟩
    · have hin : ¬ (i : Int) < (n : Int) := by omega
      have hie : i = n := by omega
      go_wp2_with fail
      go_ret
      subst hie
      refine ⟨_, rfl, ?_, HBe.out⟩
      have h := HO.out
      have h2 := HL.out
      rw [List.take_of_length_le (by have := HN.out; omega)] at h2
      rw [h2] at h
      rw [h2]
      exact h
theorem R_List (H : RkA w B r Z k a) (g : Good a k) (hk : k ≤ 1000) (hpre : pre.size ≤ 1000) :
    Calls Try.prog 57 #[.pointer (some ⟨r, 0, none⟩), .string pre] w fun e w' => ∃ A c, e = .returned (.slice A (lsP pre a.Y).length c) ∧ w'.ownsRow w.heap.size 9 1 (.slice A (lsP pre a.Y).length c) (lsP pre a.Y).length (strV (lsP pre a.Y)) ∧ Below w.heap.size w w' := by
  obtain ⟨v, s, G, h, ab⟩ := H
  refine (RListP h (Nat.le_trans (ab.len g) hk) (fun y hy => (g.nm (nmG y) (by rw [← ab.eq]; exact List.mem_map.2 ⟨y, hy, rfl⟩)).1) hpre).mono ?_
  rintro e w1 ⟨v', rfl, ho, hb⟩
  rw [ab.eq] at ho
  obtain ⟨A, c, rfl, -, -⟩ := own_slice ho
  exact ⟨A, c, rfl, ho, hb⟩
end
end Go.Proofs.Ytplmfmcogbdpjaa.Dk
namespace Go.Proofs.Ytplmfmcogbdpjaa.Dk
open Go Go.RowKit Go.Proofs.Ytplmfmcogbdpjaa Go.Proofs.Ytplmfmcogbdpjaa.Crw Go.Proofs.Ytplmfmcogbdpjaa.Vl Go.ChangeShapes Go.WideShapes Go.ChangeAt
set_option linter.unusedVariables false
set_option maxRecDepth 100000
section
variable {w w' w1 : World} {Bd Br B d mb r k : Nat} {U V V' Z Z' : Nat → Prop} {s : Ds} {sp : Ps} {F : List Fi} {G : List Pf} {a a' : Ab} {p q pre : ByteArray} {Y : List Sh} {v : Value}
set_option maxHeartbeats 64000000 in
theorem Same_ab (HD0 : DkA w Bd d V a) (HR0 : RkA w Br r Z k a) (g : Good a k) (hk : k ≤ 1000) :
    Calls Try.prog 51 #[.pointer (some ⟨d, 0, none⟩), .pointer (some ⟨r, 0, none⟩)] w fun e w' => e = .returned (.bool true) ∧ Below w.heap.size w w' := by
  have HD0' := HD0
  have HR0' := HR0
  obtain ⟨mb, s, F, hD, ab⟩ := HD0
  obtain ⟨v, sp, G, hR, ar⟩ := HR0
  have hqb : 0 ≤ s.q ∧ s.q ≤ 65536 := by rw [ab.q]; exact g.q
  have hub : total a.Y ≤ 65536 := by have := g.tot; have := g.q; omega
  have hG1 : G.length ≤ 1000 := Nat.le_trans (ar.len g) hk
  have hde : s.de = sp.de := by rw [ab.de, ar.de]
  have hq : s.q = sp.q := by rw [ab.q, ar.q]
  have hu : s.u = (totP G : Nat) := by rw [ab.u, ar.tot]
  have hub2 : totP G ≤ 65536 := by rw [ar.tot]; exact hub
  obtain ⟨T, hT⟩ : ∃ T, T = totP G := ⟨_, rfl⟩
  have hS0 : SmS w Bd Br d mb r V Z v s sp F G w := ⟨hR.blk.cell 1, hR.blk.cell 2, hD, hR, Below.refl _ _⟩
  have hDe := fun {wa : World} (k : SmS w Bd Br d mb r V Z v s sp F G wa) => Dead_ k.2.2.1.blk
  have hUs := fun {wa : World} (k : SmS w Bd Br d mb r V Z v s sp F G wa) => Used_ k.2.2.1.blk
  have hRo := fun {wa : World} (k : SmS w Bd Br d mb r V Z v s sp F G wa) => Room_ k.2.2.1.blk hqb (by rw [hu]; omega)
  have hUp := fun {wa : World} (k : SmS w Bd Br d mb r V Z v s sp F G wa) => Used_p k.2.2.2.1 (by omega) (by omega)
  obtain ⟨N, hN⟩ : ∃ N, N = (lsP ⟨#[]⟩ a.Y).length := ⟨_, rfl⟩
  have hNb : N ≤ 1000 := by rw [hN]; exact Nat.le_trans (lsP_len _ _) (Nat.le_trans g.len hk)
  have hL1 : ∀ {wa : World}, SmS w Bd Br d mb r V Z v s sp F G wa → Calls Try.prog 22 #[.pointer (some ⟨d, 0, none⟩), .string ⟨#[]⟩] wa fun e w' => ∃ A c, e = .returned (.slice A N c) ∧ w'.ownsRow wa.heap.size 9 1 (.slice A N c) N (strV (lsP ⟨#[]⟩ a.Y)) ∧ Below wa.heap.size wa w' := fun {wa} k => by
    rw [hN]
    exact D_List (HD0'.below k.2.2.2.2) g hk
  have hL2 : ∀ {wa : World}, SmS w Bd Br d mb r V Z v s sp F G wa → Calls Try.prog 57 #[.pointer (some ⟨r, 0, none⟩), .string ⟨#[]⟩] wa fun e w' => ∃ A c, e = .returned (.slice A N c) ∧ w'.ownsRow wa.heap.size 9 1 (.slice A N c) N (strV (lsP ⟨#[]⟩ a.Y)) ∧ Below wa.heap.size wa w' := fun {wa} k => by
    rw [hN]
    exact R_List (HR0'.below k.2.2.2.2) g hk (by decide)
  simp only [hde] at hDe
  simp only [hu, ← hT] at hUs
  simp only [hq, hu, ← hT] at hRo
  simp only [← hT] at hUp
  have hqb2 : 0 ≤ sp.q ∧ sp.q ≤ 65536 := by rw [← hq]; exact hqb
  have hTb : T ≤ 65536 := by rw [hT]; exact hub2
  have hw : IntKind.i64.wrap (sp.q - (T : Int)) = sp.q - (T : Int) := by rw [IntKind.wrap_i64]; omega
  have hne1 : (sp.de != sp.de) = false := by simp
  have hne2 : ((T : Int) != (T : Int)) = false := by simp
  have hne3 : ((sp.q - (T : Int)) != (sp.q - (T : Int))) = false := by simp
  have HA := Lib.hid (And.intro ab (And.intro ar g))
  clear hD hR hu hq hqb hub hub2 hT hde hN HD0' HR0' ab ar g
  go_enter Try.func51, Try.ntmps51
  go_upto_region 1 with fail
  go_region_held3 (fun wa => wa.cell? ⟨r, 1, none⟩ = some (.int .i64 sp.q) ∧ wa.cell? ⟨r, 2, none⟩ = some (.bool sp.de) ∧ (DkP wa Bd d mb V s F ∧ RfP wa Br r Z v sp G ∧ Below w.heap.size w wa)) (first | assumption | exact sm_keep (by assumption) (by assumption) | exact sm_keep (sm_drew (by assumption)) (by assumption) | exact sm_drew (by assumption)) (first | (go_at_call 30; refine (hDe (by first | assumption | exact sm_drew (by assumption))).mono ?_; rintro e wd ⟨rfl, hbd⟩) | (go_at_call 18; refine (hUs (by first | assumption | exact sm_drew (by assumption))).mono ?_; rintro e wu ⟨rfl, hbu⟩) | (go_at_call 72; refine (hUp (by first | assumption | exact sm_drew (by assumption))).mono ?_; rintro e wp ⟨rfl, hbp⟩) | (go_at_call 15; refine (hRo (by first | assumption | exact sm_drew (by assumption))).mono ?_; rintro e wr ⟨rfl, hbr⟩) | (go_at_call 22; refine (hL1 (by first | assumption | exact sm_drew (by assumption))).mono ?_; rintro e wl1 ⟨A1, c1, rfl, hol1, hbl1⟩) | (go_at_call 57; refine (hL2 (by first | assumption | exact sm_drew (by assumption))).mono ?_; rintro e wl2 ⟨A2, c2, rfl, hol2, hbl2⟩; have hol3 := own_keep hol1 hbl2) | (go_at_call 21; refine (SameS_eq (own_reads hol3) (own_reads hol2) (Nat.le_refl _) (Nat.le_refl _) hNb).mono ?_; rintro e ws ⟨rfl, hbs⟩))
  all_goals
    rename_i hHeld
    obtain ⟨-, -, hD1, hR1, hb1⟩ := hHeld
    obtain ⟨Av, cv, hv, -, -⟩ := hR1.shape
    subst hv
    have r0 := hR1.blk.cell 0
    obtain ⟨n, hn⟩ : ∃ n, n = G.length := ⟨_, rfl⟩
    rw [← hn] at r0 hR1 hG1
    have HN := Lib.hid hn
    have HDR := Lib.hid (And.intro hD1 (And.intro hR1 hb1))
    clear hD1 hR1 hb1 hDe hUs hRo hUp hL1 hL2 hS0 hn
    go_wp2_with fail
    go_loopw [52] (fun vi wr => Hid (∃ i : Nat, i ≤ n ∧ vi = .int .i64 i ∧ DkP wr Bd d mb V s F ∧ RfP wr Br r Z (.slice Av n cv) sp G ∧ Below w.heap.size w wr ∧ ∃ w7, w7 = wr)) (fun vi _ => n - (intOf vi).toNat)
    case atStart => exact Lib.hid ⟨0, Nat.zero_le _, rfl, HDR.out.1, HDR.out.2.1, HDR.out.2.2, _, rfl⟩
    case round =>
      obtain ⟨i, hi, rfl, hD, hR, hb, wq, hwq⟩ := hrel.out
      subst hwq
      have HDq := Lib.hid (And.intro hD (And.intro hR hb))
      clear hrel hD hR hb HDR r0
      by_cases hin0 : i < n
      · have hin : (i : Int) < (n : Int) := by omega
        obtain ⟨y, hy⟩ : ∃ y, G[i]? = some y := ⟨_, List.getElem?_eq_getElem (by have := HN.out; omega)⟩
        have HY := Lib.hid hy
        obtain ⟨g', rfl, -, k0, k1, k2, k3⟩ := HDq.out.2.1.cells hy
        have hyY : nmG y ∈ a.Y := by rw [← HA.out.2.1.eq]; exact List.mem_map.2 ⟨y, List.mem_of_getElem? hy, rfl⟩
        have hfnd := fnd_mem (p := by_ y.p) HA.out.2.2.srt.nodup hyY rfl
        obtain ⟨j, x, hj, hxp, hxy, hxb⟩ := HA.out.1.yes_ hfnd
        have hxl := DkP.bl HA.out.2.2 HA.out.1 hj
        obtain ⟨yp, yA, yc, yb, ys, yf⟩ := y
        simp only at hxp hxb
        have HXP := Lib.hid (And.intro hj (And.intro hxp (And.intro hxb hxl)))
        obtain ⟨wx, hwx⟩ : ∃ wx, wx = wq.alloc (.cells (pfC ⟨yp, yA, yc, yb, ys, yf⟩).toArray 99) := ⟨_, rfl⟩
        obtain ⟨bx, hbx⟩ : ∃ bx, bx = wq.heap.size := ⟨_, rfl⟩
        have hbxB : Blk wx bx 99 #[.string yp, .slice yA yb.length yc, .int .i64 ys, .bool yf] := by rw [hwx, hbx]; exact Blk.new _ _ _
        have hbw : Below wq.heap.size wq wx := by rw [hwx]; exact (Below.refl _ _).alloc (Nat.le_refl _) _
        have e0 : wq.alloc (Obj.cells #[.string yp, .slice yA yb.length yc, .int .i64 ys, .bool yf] 99) = wx := hwx.symm
        have d0 : wx.cell? ⟨bx, 0, none⟩ = some (.string yp) := hbxB.cell 0
        have HBX := Lib.hid hbxB
        have HBW := Lib.hid hbw
        have HE0 := Lib.hid e0
        have HBXX := Lib.hid hbx
        have HRd := Lib.hid (Read_yes (HDq.out.1.below hbw) (p := yp) hj hxp hxl)
        clear hbxB hbw e0 hbx hwx hy hyY hfnd hj hxp hxy hxb hxl
        go_upto_region 6 with fail
        rw [HE0.out, ← HBXX.out]
        clear k0 k1 k2 k3 HE0
        go_wp2_with fail
        refine HRd.out.mono ?_
        rintro e wv ⟨v', rfl, hov, hbv⟩
        rw [HXP.out.2.2.1] at hov
        obtain ⟨A', c', rfl, -, -⟩ := own_slice hov
        have hbl : yb.length ≤ 65536 := by rw [← HXP.out.2.2.1]; exact HXP.out.2.2.2
        have d1 : wv.cell? ⟨bx, 1, none⟩ = some (.slice yA yb.length yc) := (HBX.out.below hbv HBX.out.lt).cell 1
        have hbq := HBW.out.trans (hbv.mono HBW.out.size)
        have hry := ((HDq.out.2.1.below hbq).byt i _ HY.out).reads
        have HSm := Lib.hid (SameByte_int A' yA yb.length c' yb.length yc yb yb _ _ wv (Nat.le_refl _) (Nat.le_refl _) (own_reads hov) hry (by omega) (by omega))
        have HBq := Lib.hid hbq
        clear hov hbv hbq hry d0 HRd
        go_wp2_with fail
        refine HSm.out.mono ?_
        rintro e wy ⟨hr, hby⟩
        have hr2 : e = .returned (.bool true) := by rw [hr]; simp
        clear hr d1
        subst hr2
        have HBy := Lib.hid (show Below wq.heap.size wq wy from HBq.out.trans (hby.mono HBq.out.size))
        clear hby HSm
        go_wp2_with fail
        go_roundw
        case rel => exact Lib.hid ⟨i + 1, by omega, by go_num, HDq.out.1.below HBy.out, HDq.out.2.1.below HBy.out, HDq.out.2.2.trans (HBy.out.mono HDq.out.2.2.size), _, rfl⟩
        case measure => simp [intOf]; omega
      · have hin : ¬ (i : Int) < (n : Int) := by omega
        go_wp2_with fail
        go_ret
        exact ⟨rfl, HDq.out.2.2⟩
end
end Go.Proofs.Ytplmfmcogbdpjaa.Dk
namespace Go.Proofs.Ytplmfmcogbdpjaa.Dk
open Go Go.RowKit Go.Proofs.Ytplmfmcogbdpjaa Go.Proofs.Ytplmfmcogbdpjaa.Crw Go.Proofs.Ytplmfmcogbdpjaa.Vl Go.ChangeShapes Go.WideShapes Go.ChangeAt
set_option linter.unusedVariables false
set_option maxRecDepth 100000
/-- Names of files, and their acts. -/
def PN (P : ByteArray → Prop) (a : Ab) : Prop := ∀ y ∈ a.Y, P y.p
section
variable {a : Ab} {k : Nat} {p q : ByteArray} {bs : List Int} {Y : List Sh} {P : ByteArray → Prop}
theorem PN.burn (h : PN P a) (hY : ∀ y ∈ Y, P y.p) : PN P (abBurn a Y).2 := by
  unfold abBurn
  split
  · exact h
  · exact hY
theorem PN.put {f : Sh} (h : ∀ y ∈ Y, P y.p) (hf : P f.p) : ∀ y ∈ putS f Y, P y.p := fun y hy => by
  rcases putS_mem hy with e | e
  · exact h y e
  · rw [e]; exact hf
theorem PN.wo_ {p : List UInt8} (h : ∀ y ∈ Y, P y.p) : ∀ y ∈ wo p Y, P y.p := fun y hy => h y (mem_wo.1 hy).1
theorem grow_p (p : ByteArray) (bs : List Int) (Y : List Sh) : (grow p bs Y).p = p := by unfold grow; split <;> rfl
theorem PN.append (h : PN P a) (hp : P p) : PN P (abAppend p bs a).2 := by
  unfold abAppend
  split
  · exact h
  · split
    · exact h
    · split
      · exact h
      · exact h.burn (PN.put h (by rw [grow_p]; exact hp))
theorem PN.find {f : Sh → Int × Ab} (h : PN P a) (hf : ∀ y, fnd (by_ p) a.Y = some y → PN P (f y).2) : PN P (abFind p a f).2 := by
  unfold abFind
  split
  · exact h
  · split
    · exact h
    · cases hc : fnd (by_ p) a.Y with
      | none => exact h
      | some y => exact hf y hc
theorem PN.sync (h : PN P a) (hp : P p) : PN P (abSync p a).2 := h.find fun y _ => h.burn (PN.put h hp)
theorem PN.remove (h : PN P a) : PN P (abRemove p a).2 := h.find fun y _ => h.burn (PN.wo_ h)
theorem PN.rename (h : PN P a) (hq : P q) : PN P (abRename p q a).2 := by
  unfold abRename
  split
  · exact h
  · split
    · exact h
    · cases hc : fnd (by_ p) a.Y with
      | none => exact h
      | some y => exact h.burn (PN.put (PN.wo_ h) hq)
theorem PN.crash (h : PN P a) (K : Nat) : PN P (abCrash K a) := fun y hy => by
  obtain ⟨z, hz, e⟩ := List.mem_filterMap.1 hy
  unfold crR at e
  split at e
  · cases e
  · injection e with e
    rw [← e]
    exact h z hz
/-! Good states. -/
theorem grow_ky (p : ByteArray) (bs : List Int) (Y : List Sh) : (grow p bs Y).ky = by_ p := by unfold grow; split <;> rfl
theorem wo_sub {p : List UInt8} {y : Sh} (h : y ∈ wo p Y) : y ∈ Y := (mem_wo.1 h).1
theorem Good.append (g : Good a k) (hp : p.size ≤ 1000) : Good (abAppend p bs a).2 (k + 1) := by
  unfold abAppend
  split
  · exact g.mono (Nat.le_succ _)
  · split
    · exact g.mono (Nat.le_succ _)
    · split
      · exact g.mono (Nat.le_succ _)
      · rename_i h1 h2 h3
        refine g.burn ?_ (putS_srt g.srt) (Nat.le_trans (put_len _ _) (Nat.succ_le_succ g.len)) ?_
        · cases hf : fnd (by_ p) a.Y with
          | none =>
            rw [tot_new g.srt (by rw [grow_ky]; exact hf)]
            have : (grow p bs a.Y).bs.length = bs.length := by simp [grow, hf]
            omega
          | some y =>
            have h4 := tot_put (f := grow p bs a.Y) (y := y) g.srt (by rw [grow_ky]; exact hf)
            have : (grow p bs a.Y).bs.length = y.bs.length + bs.length := by simp [grow, hf]
            omega
        · intro y hy
          rcases putS_mem hy with e | e
          · exact g.nm y e
          · subst e
            cases hf : fnd (by_ p) a.Y with
            | none => simp only [grow, hf]; exact ⟨hp, Int.le_refl _, by omega⟩
            | some y =>
              have := g.nm y (fnd_some hf).1
              simp only [grow, hf, List.length_append]
              exact ⟨hp, this.2.1, by omega⟩
theorem Good.find {f : Sh → Int × Ab} (g : Good a k) (hf : ∀ y, fnd (by_ p) a.Y = some y → Good (f y).2 (k + 1)) : Good (abFind p a f).2 (k + 1) := by
  unfold abFind
  split
  · exact g.mono (Nat.le_succ _)
  · split
    · exact g.mono (Nat.le_succ _)
    · cases hc : fnd (by_ p) a.Y with
      | none => exact g.mono (Nat.le_succ _)
      | some y => exact hf y hc
theorem Good.sync (g : Good a k) (hp : p.size ≤ 1000) : Good (abSync p a).2 (k + 1) := g.find fun y hy => by
  refine g.burn ?_ (putS_srt g.srt) (Nat.le_trans (put_len _ _) (Nat.succ_le_succ g.len)) ?_
  · have h1 := tot_put (f := ⟨p, y.bs, (y.bs.length : Nat), true⟩) (y := y) g.srt hy
    have h2 := g.tot
    simp only at h1
    omega
  · intro z hz
    rcases putS_mem hz with e | e
    · exact g.nm z e
    · subst e; exact ⟨hp, by simp only; omega, Int.le_refl _⟩
theorem Good.cut {n : Int} (g : Good a k) (hp : p.size ≤ 1000) : Good (abCut p n a).2 (k + 1) := g.find fun y hy => by
  split
  · exact g.mono (Nat.le_succ _)
  · rename_i hn
    refine g.burn ?_ (putS_srt g.srt) (Nat.le_trans (put_len _ _) (Nat.succ_le_succ g.len)) ?_
    · have h1 := tot_put (f := ⟨p, y.bs.take n.toNat, n, true⟩) (y := y) g.srt hy
      have h2 := g.tot
      have h3 : (y.bs.take n.toNat).length ≤ y.bs.length := by rw [List.length_take]; omega
      simp only at h1
      omega
    · intro z hz
      rcases putS_mem hz with e | e
      · exact g.nm z e
      · subst e; exact ⟨hp, by simp only; omega, by simp only [List.length_take]; omega⟩
theorem Good.remove (g : Good a k) : Good (abRemove p a).2 (k + 1) := g.find fun y hy => by
  refine g.burn ?_ (g.srt.wo _) (Nat.le_trans (wo_len _ _) (Nat.le_succ_of_le g.len)) ?_
  · have := wo_tot (by_ p) g.srt
    have := g.tot
    omega
  · exact fun z hz => g.nm z (wo_sub hz)
theorem Good.rename (g : Good a k) (hq : q.size ≤ 1000) : Good (abRename p q a).2 (k + 1) := by
  unfold abRename
  split
  · exact g.mono (Nat.le_succ _)
  · split
    · exact g.mono (Nat.le_succ _)
    · cases hc : fnd (by_ p) a.Y with
      | none => exact g.mono (Nat.le_succ _)
      | some y =>
        simp only
        refine g.burn ?_ (putS_srt (g.srt.wo _)) (Nat.le_trans (put_len _ _) (Nat.succ_le_succ (Nat.le_trans (wo_len _ _) g.len))) ?_
        · rw [total_put (g.srt.wo _)]
          have h1 := tot_wo g.srt hc
          have h2 := wo_tot (by_ q) (g.srt.wo (by_ p))
          have h3 := g.tot
          have h4 : (wo (Sh.ky ⟨q, y.bs, (y.bs.length : Nat), true⟩) (wo (by_ p) a.Y)) = wo (by_ q) (wo (by_ p) a.Y) := rfl
          rw [h4]
          simp only
          omega
        · intro z hz
          rcases putS_mem hz with e | e
          · exact g.nm z (wo_sub e)
          · subst e; exact ⟨hq, by simp only; omega, Int.le_refl _⟩
theorem Good.fuse (g : Good a k) {n : Nat} (hn : n ≤ 1000) : Good (abFuse n a) k := ⟨g.q, g.tot, g.srt, g.len, g.nm, fun m hm => by injection hm with hm; omega⟩
theorem crR_sub {K : Nat} : ∀ {Y : List Sh}, (∀ y ∈ Y, 0 ≤ y.sy ∧ y.sy ≤ y.bs.length) → ((Y.filterMap (crR K)).map Sh.ky).Sublist (Y.map Sh.ky) ∧ total (Y.filterMap (crR K)) ≤ total Y
  | [], _ => ⟨List.Sublist.refl _, Nat.le_refl _⟩
  | y :: Y, h => by
    obtain ⟨h1, h2⟩ := crR_sub (K := K) (Y := Y) fun z hz => h z (List.mem_cons_of_mem _ hz)
    rw [List.filterMap_cons]
    cases hc : crR K y with
    | none => exact ⟨h1.cons _, by rw [total_cons]; simp only; omega⟩
    | some z =>
      unfold crR at hc
      split at hc
      · cases hc
      · injection hc with hc
        subst hc
        simp only [List.map_cons]
        refine ⟨h1.cons_cons _, ?_⟩
        rw [total_cons, total_cons]
        simp only [List.length_take]
        omega
theorem Good.crash (g : Good a k) (K : Nat) : Good (abCrash K a) k := by
  obtain ⟨h1, h2⟩ := crR_sub (K := K) fun y hy => (g.nm y hy).2
  refine ⟨g.q, by show ((total (a.Y.filterMap (crR K)) : Nat) : Int) ≤ a.q; have := g.tot; omega, g.srt.sublist h1, Nat.le_trans (List.length_filterMap_le _ _) g.len, fun y hy => ?_, fun m hm => by cases hm⟩
  obtain ⟨z, hz, e⟩ := List.mem_filterMap.1 hy
  have h3 := g.nm z hz
  unfold crR at e
  split at e
  · cases e
  · injection e with e
    subst e
    refine ⟨h3.1, by simp only; omega, ?_⟩
    simp only [List.length_take]
    unfold Sh.n
    omega
end
/-! Both; X: blocks that are not theirs. -/
def Ta (w : World) (B : Nat) (X : Nat → Prop) (d r k : Nat) (a : Ab) : Prop := ∃ V Z, DkA w B d V a ∧ RkA w B r Z k a ∧ (∀ b, V b → ¬ Z b) ∧ Good a k ∧ ∀ b, V b ∨ Z b → ¬ X b
section
variable {w w' w1 : World} {B d r k k' kk : Nat} {X X' : Nat → Prop} {V V' Z Z' : Nat → Prop} {a a' : Ab} {f1 f2 : FuncId} {x1 x2 : Array Value} {t : Int × Ab} {A : Option Addr} {n c : Nat} {xs : List Int} {p q : ByteArray}
theorem Ta.below (h : Ta w B X d r k a) (hb : Below w.heap.size w w') : Ta w' B X d r k a := by
  obtain ⟨V, Z, h1, h2, h3⟩ := h
  exact ⟨V, Z, h1.below hb, h2.below hb, h3⟩
theorem Ta.vol (h : Ta w B X d r k a) (hv : Vol X w w') : Ta w' B X d r k a := by
  obtain ⟨V, Z, h1, h2, h3, h4, h5⟩ := h
  exact ⟨V, Z, h1.vol hv fun b hb => h5 b (.inl hb), h2.vol hv fun b hb => h5 b (.inr hb), h3, h4, h5⟩
theorem Ta.mono (h : Ta w B X d r k a) (hk : k ≤ k') (hX : ∀ b, X' b → X b) : Ta w B X' d r k' a := by
  obtain ⟨V, Z, h1, h2, h3, h4, h5⟩ := h
  exact ⟨V, Z, h1, h2.mono hk, h3, h4.mono hk, fun b hb hx => h5 b hb (hX b hx)⟩
/-- What is not made yet is not theirs. -/
theorem Ta.more (h : Ta w B X d r k a) : Ta w B (fun b => X b ∨ w.heap.size ≤ b) d r k a := by
  obtain ⟨V, Z, h1, h2, h3, h4, h5⟩ := h
  refine ⟨V, Z, h1, h2, h3, h4, fun b hb hx => ?_⟩
  rcases hx with hx | hx
  · exact h5 b hb hx
  · rcases hb with hb | hb
    · have := h1.lt b hb; omega
    · have := h2.lt b hb; omega
theorem Ta.good (h : Ta w B X d r k a) : Good a k := by obtain ⟨V, Z, h1, h2, h3, h4, h5⟩ := h; exact h4
theorem ta_mk (h1 : DkA w B d V a) (h2 : RkA w B r Z k a) (h3 : ∀ b, V b → ¬ Z b) (h5 : ∀ b, V b ∨ Z b → ¬ X b) (hv : Vol V w w1) (k1 : DkA w1 B d V' a') (hV : ∀ b, V' b → V b ∨ w.heap.size ≤ b) (hz : Vol Z w1 w') (k2 : RkA w' B r Z' k' a') (hZ : ∀ b, Z' b → Z b ∨ w1.heap.size ≤ b) (hg : Good a' k') : Ta w' B (fun b => X b ∧ b < w.heap.size) d r k' a' := by
  have hd : ∀ b, V' b → ¬ Z b := fun b hb hzb => by
    rcases hV b hb with e | e
    · exact h3 b e hzb
    · have := h2.lt b hzb; omega
  have hs := hv.size
  refine ⟨V', Z', k1.vol hz hd, k2, fun b hb hzb => ?_, hg, fun b hb hx => ?_⟩
  · rcases hZ b hzb with e | e
    · exact hd b hb e
    · have := k1.lt b hb; omega
  · rcases hb with e | e
    · rcases hV b e with e | e
      · exact h5 b (.inl e) hx.1
      · omega
    · rcases hZ b e with e | e
      · exact h5 b (.inr e) hx.1
      · omega
/-- What is left of an act of both. -/
def TaPost (w : World) (B : Nat) (X : Nat → Prop) (d r k : Nat) (t : Int × Ab) (f2 : FuncId) (x2 : Array Value) (e : Ending) (w1 : World) : Prop :=
  e = .returned (.int .i64 t.1) ∧ Vol (fun b => ¬ X b) w w1 ∧ Calls Try.prog f2 x2 w1 fun e w2 => e = .returned (.int .i64 t.1) ∧ Vol (fun b => ¬ X b) w1 w2 ∧ Ta w2 B (fun b => X b ∧ b < w.heap.size) d r k t.2
theorem ta_step (h1 : DkA w B d V a) (h2 : RkA w B r Z k a) (h3 : ∀ b, V b → ¬ Z b) (h5 : ∀ b, V b ∨ Z b → ¬ X b) (hk : kk + 1 ≤ k') (hg : Good t.2 k')
    (c1 : Calls Try.prog f1 x1 w (PsD w B d V t)) (c2 : ∀ w1, Vol V w w1 → RkA w1 B r Z k a → Calls Try.prog f2 x2 w1 (PsR w1 B r Z kk t)) :
    Calls Try.prog f1 x1 w (TaPost w B X d r k' t f2 x2) := by
  refine c1.mono ?_
  rintro e w1 ⟨rfl, V', k1, hv, hV⟩
  refine ⟨rfl, hv.mono fun b hb => h5 b (.inl hb), ?_⟩
  refine (c2 w1 hv (h2.vol hv (fun b hz hb => h3 b hb hz))).mono ?_
  rintro e w2 ⟨rfl, Z', k2, hz, hZ⟩
  exact ⟨rfl, hz.mono fun b hb => h5 b (.inr hb), ta_mk h1 h2 h3 h5 hv k1 hV hz (k2.mono hk) hZ hg⟩
theorem ta_fuse (H : Ta w B X d r k a) (x : Int) (n : Nat) (hx : max x 0 = (n : Int)) (hn : n ≤ 1000) :
    Calls Try.prog 41 #[.pointer (some ⟨d, 0, none⟩), .int .i64 x] w fun e w1 => (∃ u, e = .returned u) ∧ Vol (fun b => ¬ X b) w w1 ∧
      Calls Try.prog 48 #[.pointer (some ⟨r, 0, none⟩), .int .i64 x] w1 fun e w2 => (∃ u, e = .returned u) ∧ Vol (fun b => ¬ X b) w1 w2 ∧ Ta w2 B (fun b => X b ∧ b < w.heap.size) d r k (abFuse n a) := by
  obtain ⟨V, Z, h1, h2, h3, h4, h5⟩ := H
  refine (D_Fuse h1 x n hx).mono ?_
  rintro e w1 ⟨he, k1, hv⟩
  refine ⟨he, hv.mono fun b hb => h5 b (.inl hb), ?_⟩
  have r1 := h2.vol hv (fun b hz hb => h3 b hb hz)
  refine (R_Fuse r1 x n hx hn).mono ?_
  rintro e w2 ⟨he, k2, hz⟩
  exact ⟨he, hz.mono fun b hb => h5 b (.inr hb), ta_mk h1 h2 h3 h5 hv k1 (fun b hb => .inl hb) hz k2 (fun b hb => .inl hb) (h4.fuse hn)⟩
theorem ta_crash (H : Ta w B X d r k a) (hB : B ≤ w.heap.size) (hk : k ≤ 1000) (x : Int) (n : Nat) (hx : max x 0 = (n : Int)) (hn : n ≤ 65536) :
    Calls Try.prog 27 #[.pointer (some ⟨d, 0, none⟩), .int .i64 x] w fun e w1 => (∃ u, e = .returned u) ∧ Vol (fun b => ¬ X b) w w1 ∧
      Calls Try.prog 50 #[.pointer (some ⟨r, 0, none⟩), .int .i64 x] w1 fun e w2 => (∃ u, e = .returned u) ∧ Vol (fun b => ¬ X b) w1 w2 ∧ Ta w2 B (fun b => X b ∧ b < w.heap.size) d r k (abCrash n a) := by
  obtain ⟨V, Z, h1, h2, h3, h4, h5⟩ := H
  refine (D_Crash h1 h4 hk x n hx hn).mono ?_
  rintro e w1 ⟨he, k1, hv⟩
  refine ⟨he, hv.mono fun b hb => h5 b (.inl hb), ?_⟩
  have r1 := h2.vol hv (fun b hz hb => h3 b hb hz)
  refine (R_Crash r1 h4 hk (Nat.le_trans hB hv.size) x n hx hn).mono ?_
  rintro e w2 ⟨he, Z', k2, hz, hZ⟩
  exact ⟨he, hz.mono fun b hb => h5 b (.inr hb), ta_mk h1 h2 h3 h5 hv k1 (fun b hb => .inl hb) hz k2 hZ (h4.crash n)⟩
theorem ta_append (H : Ta w B X d r k a) (hB : B ≤ w.heap.size) (hk : k ≤ 1000) (hp : p.size ≤ 1000) {lo : Nat} (ho : w.ownsRow lo 5 1 (.slice A n c) n (bsV xs)) (hlo : ∀ b, lo ≤ b → X b) :
    Calls Try.prog 16 #[.pointer (some ⟨d, 0, none⟩), .string p, .slice A n c] w (TaPost w B X d r (k + 1) (abAppend p xs a) 49 #[.pointer (some ⟨r, 0, none⟩), .string p, .slice A n c]) := by
  obtain ⟨V, Z, h1, h2, h3, h4, h5⟩ := H
  have hr := own_reads ho
  have hA : ∀ ad, A = some ad → X ad.block := fun ad e => by subst e; exact hlo _ (ho.lt ad.block rfl).1
  have hAV : ∀ ad, A = some ad → ¬ V ad.block := fun ad e hv => h5 _ (.inl hv) (hA ad e)
  have hAZ : ∀ ad, A = some ad → ¬ Z ad.block := fun ad e hv => h5 _ (.inr hv) (hA ad e)
  exact ta_step h1 h2 h3 h5 (Nat.le_refl _) (h4.append hp) (D_Append h1 h4 hr (Nat.le_refl _) hAV) fun w1 hv hR => R_Append hR h4 hk (Nat.le_trans hB hv.size) (reads_vol hr (Nat.le_refl _) hv hAV) hv.size hAZ
theorem ta_same (H : Ta w B X d r k a) (hk : k ≤ 1000) :
    Calls Try.prog 51 #[.pointer (some ⟨d, 0, none⟩), .pointer (some ⟨r, 0, none⟩)] w fun e w' => e = .returned (.bool true) ∧ Below w.heap.size w w' := by
  obtain ⟨V, Z, h1, h2, h3, h4, h5⟩ := H
  exact Same_ab h1 h2 h4 hk
theorem ta_read (H : Ta w B X d r k a) (hk : k ≤ 1000) :
    Calls Try.prog 58 #[.pointer (some ⟨r, 0, none⟩), .string p] w fun e w' => ∃ v b, e = .returned (.tuple #[v, .bool b]) ∧ Below w.heap.size w w' := by
  obtain ⟨V, Z, h1, ⟨v, s, G, h, ab⟩, h3, h4, h5⟩ := H
  have hG : G.length ≤ 1000 := Nat.le_trans (ab.len h4) hk
  cases hf : fnd (by_ p) a.Y with
  | none => exact (RRead_no h (ab.no_ hf) hG).mono fun e w1 ⟨he, hb⟩ => ⟨_, _, he, hb⟩
  | some y =>
    obtain ⟨j, x, hj, hxp, hxy, hxb, hno⟩ := ab.yes_ h4.srt hf
    exact (RRead_yes h hj hxp hno hG).mono fun e w1 ⟨he, hb⟩ => ⟨_, _, he, hb⟩
def ab0 (q : Int) : Ab := ⟨q, false, none, []⟩
theorem ta_new (x m q : Int) (hm : max x 0 = m) (hq : min m 65536 = q) (w : World) :
    Calls Try.prog 14 #[.int .i64 x] w fun e w1 => ∃ d, e = .returned (.pointer (some ⟨d, 0, none⟩)) ∧ Below w.heap.size w w1 ∧
      Calls Try.prog 45 #[.int .i64 x] w1 fun e w2 => ∃ r, e = .returned (.pointer (some ⟨r, 0, none⟩)) ∧ Below w.heap.size w1 w2 ∧ Ta w2 w.heap.size (fun b => b < w.heap.size) d r 0 (ab0 q) := by
  refine (New_g x m q hm hq w).mono ?_
  rintro e w1 ⟨d, mb, V, rfl, hD, hb1⟩
  refine ⟨d, rfl, hb1, ?_⟩
  refine (RNew x m q hm hq w1).mono ?_
  rintro e w2 ⟨r, Z, rfl, hR, hb2⟩
  refine ⟨r, rfl, hb2.mono hb1.size, V, Z, ⟨mb, _, _, hD.below hb2, ⟨rfl, rfl, rfl, (fun m hm => by cases hm), rfl, List.Perm.refl _⟩⟩, ⟨_, _, _, ⟨hR.blk, ⟨by simp, .inl ⟨rfl, rfl⟩⟩, hR.byt, hR.zr, hR.lt, fun b hb => Nat.le_trans hb1.size (hR.ge b hb)⟩, ⟨rfl, rfl, rfl, (fun m hm => by cases hm), by simp, rfl⟩⟩, fun b hb hz => ?_, ⟨by simp only [ab0]; omega, by simp [ab0, total]; omega, by simp [ab0, Srt], Nat.le_refl _, fun y hy => by simp [ab0] at hy, fun m hm => by cases hm⟩, fun b hb hx => ?_⟩
  · have h1 := hD.lt b hb
    have h2 := hR.ge b hz
    omega
  · rcases hb with e | e
    · have := hD.ge b e; omega
    · have h1 := hR.ge b e
      have h2 := hb1.size
      omega
end
end Go.Proofs.Ytplmfmcogbdpjaa.Dk
namespace Go.Proofs.Ytplmfmcogbdpjaa.Dk
open Go Go.RowKit Go.Proofs.Ytplmfmcogbdpjaa Go.Proofs.Ytplmfmcogbdpjaa.Crw Go.Proofs.Ytplmfmcogbdpjaa.Vl Go.ChangeShapes Go.WideShapes Go.ChangeAt
set_option linter.unusedVariables false
set_option maxRecDepth 100000
def abWrite (t p : ByteArray) (bs : List Int) (a : Ab) : Int × Ab :=
  if (abAppend t bs a).1 = 0 then (if (abSync t (abAppend t bs a).2).1 = 0 then abRename t p (abSync t (abAppend t bs a).2).2 else abSync t (abAppend t bs a).2) else abAppend t bs a
section
variable {w w' w1 : World} {B d r k : Nat} {V V' Z Z' : Nat → Prop} {a a' : Ab} {p t : ByteArray} {bs : List Int} {P : ByteArray → Prop}
theorem Good.write (g : Good a k) (ht : t.size ≤ 1000) (hp : p.size ≤ 1000) : Good (abWrite t p bs a).2 (k + 3) := by
  unfold abWrite
  have h1 := g.append (bs := bs) ht
  have h2 := h1.sync ht
  split
  · split
    · exact h2.rename hp
    · exact h2.mono (by omega)
  · exact h1.mono (by omega)
theorem PN.write (h : PN P a) (ht : P t) (hp : P p) : PN P (abWrite t p bs a).2 := by
  unfold abWrite
  have h1 := h.append (bs := bs) ht
  have h2 := h1.sync ht
  split
  · split
    · exact h2.rename hp
    · exact h2
  · exact h1
set_option maxHeartbeats 4000000 in
theorem D_Write {A : Option Addr} {n c B' : Nat} (H : DkA w B d V a) (g : Good a k) (ht : t.size ≤ 1000) (hr : Reads w B' 1 A n (bsV bs)) (hB' : B' ≤ w.heap.size) (hA : ∀ ad, A = some ad → ¬ V ad.block)
    (hT : ∀ w, Calls Try.prog 70 #[.string p] w fun e w' => e = .returned (.string t) ∧ Below w.heap.size w w') :
    Calls Try.prog 42 #[.pointer (some ⟨d, 0, none⟩), .string p, .slice A n c] w (PsD w B d V (abWrite t p bs a)) := by
  have hAp := fun (w1 : World) (hb : Below w.heap.size w w1) => D_Append (p := t) (c := c) (H.below hb) g (reads_belP hr hB' hb) (Nat.le_trans hB' hb.size) hA
  have g1 := g.append (bs := bs) ht
  have hSy := fun (w1 : World) (V1 : Nat → Prop) (h : DkA w1 B d V1 (abAppend t bs a).2) => D_Sync (p := t) h g1
  have hRe := fun (w1 : World) (V1 : Nat → Prop) (h : DkA w1 B d V1 (abSync t (abAppend t bs a).2).2) => D_Rename (p := t) (q := p) h (g1.sync ht)
  unfold abWrite
  generalize abAppend t bs a = x1 at *
  obtain ⟨e1, a1⟩ := x1
  simp only at *
  generalize abSync t a1 = x2 at *
  obtain ⟨e2, a2⟩ := x2
  simp only at *
  generalize abRename t p a2 = x3 at *
  obtain ⟨e3, a3⟩ := x3
  clear hr H g g1 hA
  by_cases h1 : e1 = 0
  · have hn1 : (e1 != 0) = false := by simp [h1]
    rw [if_pos h1]
    by_cases h2 : e2 = 0
    · have hn2 : (e2 != 0) = false := by simp [h2]
      rw [if_pos h2]
      clear h1 h2
      go_enter Try.func42, Try.ntmps42
      go_wp2_with fail
      refine (hT _).mono ?_
      rintro e w1 ⟨rfl, hb1⟩
      have hAp1 := hAp w1 hb1
      have HB1 := Lib.hid hb1
      clear hb1 hT hAp
      go_wp2_with fail
      refine hAp1.mono ?_
      rintro e w2 ⟨rfl, V2, hD2, hv2, hV2⟩
      have H2 := Lib.hid (And.intro hv2 hV2)
      simp only at *
      clear hv2 hV2 hAp1
      have hSy1 := hSy w2 V2 hD2
      clear hSy hD2
      go_wp2_with fail
      refine hSy1.mono ?_
      rintro e w3 ⟨rfl, V3, hD3, hv3, hV3⟩
      have H3 := Lib.hid (And.intro hv3 hV3)
      simp only at *
      clear hv3 hV3 hSy1
      have hRe1 := hRe w3 V3 hD3
      clear hRe hD3
      go_wp2_with fail
      refine hRe1.mono ?_
      rintro e w4 ⟨rfl, V4, hD4, hv4, hV4⟩
      have H4 := Lib.hid (And.intro hv4 hV4)
      have HD4 := Lib.hid hD4
      clear hD4 hv4 hV4 hRe1
      go_wp2_with fail
      go_ret
      have hs1 := HB1.out.size
      have k2 := H2.out.1.size
      have k3 := H3.out.1.size
      refine ⟨rfl, V4, HD4.out, (((Vol.of_below HB1.out).trans H2.out.1 fun b hb => .inl hb).trans H3.out.1 fun b hb => ?_).trans H4.out.1 fun b hb => ?_, fun b hb => ?_⟩
      · rcases H2.out.2 b hb with h | h
        · exact .inl h
        · right; omega
      · rcases H3.out.2 b hb with h | h
        · rcases H2.out.2 b h with h | h
          · exact .inl h
          · right; omega
        · right; omega
      · rcases H4.out.2 b hb with h | h
        · rcases H3.out.2 b h with h | h
          · rcases H2.out.2 b h with h | h
            · exact .inl h
            · right; omega
          · right; omega
        · right; omega
    · have hn2 : (e2 != 0) = true := by simp [h2]
      rw [if_neg h2]
      clear h1 h2
      go_enter Try.func42, Try.ntmps42
      go_wp2_with fail
      refine (hT _).mono ?_
      rintro e w1 ⟨rfl, hb1⟩
      have hAp1 := hAp w1 hb1
      have HB1 := Lib.hid hb1
      clear hb1 hT hAp
      go_wp2_with fail
      refine hAp1.mono ?_
      rintro e w2 ⟨rfl, V2, hD2, hv2, hV2⟩
      have H2 := Lib.hid (And.intro hv2 hV2)
      simp only at *
      clear hv2 hV2 hAp1
      have hSy1 := hSy w2 V2 hD2
      clear hSy hD2 hRe
      go_wp2_with fail
      refine hSy1.mono ?_
      rintro e w3 ⟨rfl, V3, hD3, hv3, hV3⟩
      have H3 := Lib.hid (And.intro hv3 hV3)
      have HD3 := Lib.hid hD3
      clear hD3 hv3 hV3 hSy1
      go_wp2_with fail
      go_ret
      have hs1 := HB1.out.size
      have k2 := H2.out.1.size
      refine ⟨rfl, V3, HD3.out, ((Vol.of_below HB1.out).trans H2.out.1 fun b hb => .inl hb).trans H3.out.1 fun b hb => ?_, fun b hb => ?_⟩
      · rcases H2.out.2 b hb with h | h
        · exact .inl h
        · right; omega
      · rcases H3.out.2 b hb with h | h
        · rcases H2.out.2 b h with h | h
          · exact .inl h
          · right; omega
        · right; omega
  · have hn1 : (e1 != 0) = true := by simp [h1]
    rw [if_neg h1]
    clear h1
    go_enter Try.func42, Try.ntmps42
    go_wp2_with fail
    refine (hT _).mono ?_
    rintro e w1 ⟨rfl, hb1⟩
    have hAp1 := hAp w1 hb1
    have HB1 := Lib.hid hb1
    clear hb1 hT hAp
    clear hSy hRe
    go_wp2_with fail
    refine hAp1.mono ?_
    rintro e w2 ⟨rfl, V2, hD2, hv2, hV2⟩
    have H2 := Lib.hid (And.intro hv2 hV2)
    have HD2 := Lib.hid hD2
    clear hD2 hv2 hV2 hAp1
    go_wp2_with fail
    go_ret
    refine ⟨rfl, V2, HD2.out, (Vol.of_below HB1.out).trans H2.out.1 fun b hb => .inl hb, fun b hb => ?_⟩
    have hs1 := HB1.out.size
    rcases H2.out.2 b hb with h | h
    · exact .inl h
    · right; omega
set_option maxHeartbeats 4000000 in
theorem R_Write {A : Option Addr} {n c B' : Nat} (H : RkA w B r Z k a) (g : Good a k) (hk : k + 3 ≤ 1000) (hB : B ≤ w.heap.size) (hps : p.size ≤ 1000) (ht : t.size ≤ 1000) (hr : Reads w B' 1 A n (bsV bs)) (hB' : B' ≤ w.heap.size) (hA : ∀ ad, A = some ad → ¬ Z ad.block)
    (hT : p ++ ⟨#[126]⟩ = t) :
    Calls Try.prog 59 #[.pointer (some ⟨r, 0, none⟩), .string p, .slice A n c] w (PsR w B r Z (k + 2) (abWrite t p bs a)) := by
  have hAp := fun (w1 : World) (hb : Below w.heap.size w w1) => R_Append (p := t) (c := c) (H.below hb) g (by omega) (Nat.le_trans hB hb.size) (reads_belP hr hB' hb) (Nat.le_trans hB' hb.size) hA
  have g1 := g.append (bs := bs) ht
  have hSy := fun (w1 : World) (V1 : Nat → Prop) (h : RkA w1 B r V1 (k + 1) (abAppend t bs a).2) => R_Sync (p := t) h g1 (by omega)
  have hRe := fun (w1 : World) (V1 : Nat → Prop) (hB : B ≤ w1.heap.size) (h : RkA w1 B r V1 (k + 1 + 1) (abSync t (abAppend t bs a).2).2) => R_Rename (p := t) (q := p) h (g1.sync ht) (by omega) hB
  unfold abWrite
  generalize abAppend t bs a = x1 at *
  obtain ⟨e1, a1⟩ := x1
  simp only at *
  generalize abSync t a1 = x2 at *
  obtain ⟨e2, a2⟩ := x2
  simp only at *
  generalize abRename t p a2 = x3 at *
  obtain ⟨e3, a3⟩ := x3
  clear hr H g g1 hA
  subst hT
  by_cases h1 : e1 = 0
  · have hn1 : (e1 != 0) = false := by simp [h1]
    rw [if_pos h1]
    by_cases h2 : e2 = 0
    · have hn2 : (e2 != 0) = false := by simp [h2]
      rw [if_pos h2]
      clear h1 h2
      go_enter Try.func59, Try.ntmps59
      have hAp1 := hAp w (Below.refl _ _)
      have HB1 := Lib.hid (Below.refl w.heap.size w)
      clear hAp
      go_wp2_with fail
      refine hAp1.mono ?_
      rintro e w2 ⟨rfl, V2, hD2, hv2, hV2⟩
      have H2 := Lib.hid (And.intro hv2 hV2)
      simp only at *
      clear hv2 hV2 hAp1
      have hSy1 := hSy w2 V2 hD2
      clear hSy hD2
      go_wp2_with fail
      refine hSy1.mono ?_
      rintro e w3 ⟨rfl, V3, hD3, hv3, hV3⟩
      have H3 := Lib.hid (And.intro hv3 hV3)
      simp only at *
      clear hv3 hV3 hSy1
      have hBz : B ≤ w3.heap.size := by have h1 := H2.out.1.size; have h2 := H3.out.1.size; have h3 := HB1.out.size; omega
      have hRe1 := hRe w3 V3 hBz hD3
      clear hRe hD3
      go_wp2_with fail
      refine hRe1.mono ?_
      rintro e w4 ⟨rfl, V4, hD4, hv4, hV4⟩
      have H4 := Lib.hid (And.intro hv4 hV4)
      have HD4 := Lib.hid hD4
      clear hD4 hv4 hV4 hRe1
      go_wp2_with fail
      go_ret
      have hs1 := HB1.out.size
      have k2 := H2.out.1.size
      have k3 := H3.out.1.size
      refine ⟨rfl, V4, HD4.out, (((Vol.of_below HB1.out).trans H2.out.1 fun b hb => .inl hb).trans H3.out.1 fun b hb => ?_).trans H4.out.1 fun b hb => ?_, fun b hb => ?_⟩
      · rcases H2.out.2 b hb with h | h
        · exact .inl h
        · right; omega
      · rcases H3.out.2 b hb with h | h
        · rcases H2.out.2 b h with h | h
          · exact .inl h
          · right; omega
        · right; omega
      · rcases H4.out.2 b hb with h | h
        · rcases H3.out.2 b h with h | h
          · rcases H2.out.2 b h with h | h
            · exact .inl h
            · right; omega
          · right; omega
        · right; omega
    · have hn2 : (e2 != 0) = true := by simp [h2]
      rw [if_neg h2]
      clear h1 h2
      go_enter Try.func59, Try.ntmps59
      have hAp1 := hAp w (Below.refl _ _)
      have HB1 := Lib.hid (Below.refl w.heap.size w)
      clear hAp
      go_wp2_with fail
      refine hAp1.mono ?_
      rintro e w2 ⟨rfl, V2, hD2, hv2, hV2⟩
      have H2 := Lib.hid (And.intro hv2 hV2)
      simp only at *
      clear hv2 hV2 hAp1
      have hSy1 := hSy w2 V2 hD2
      clear hSy hD2 hRe
      go_wp2_with fail
      refine hSy1.mono ?_
      rintro e w3 ⟨rfl, V3, hD3, hv3, hV3⟩
      have H3 := Lib.hid (And.intro hv3 hV3)
      have HD3 := Lib.hid hD3
      clear hD3 hv3 hV3 hSy1
      go_wp2_with fail
      go_ret
      have hs1 := HB1.out.size
      have k2 := H2.out.1.size
      refine ⟨rfl, V3, HD3.out.mono (by omega), ((Vol.of_below HB1.out).trans H2.out.1 fun b hb => .inl hb).trans H3.out.1 fun b hb => ?_, fun b hb => ?_⟩
      · rcases H2.out.2 b hb with h | h
        · exact .inl h
        · right; omega
      · rcases H3.out.2 b hb with h | h
        · rcases H2.out.2 b h with h | h
          · exact .inl h
          · right; omega
        · right; omega
  · have hn1 : (e1 != 0) = true := by simp [h1]
    rw [if_neg h1]
    clear h1
    go_enter Try.func59, Try.ntmps59
    have hAp1 := hAp w (Below.refl _ _)
    have HB1 := Lib.hid (Below.refl w.heap.size w)
    clear hAp
    clear hSy hRe
    go_wp2_with fail
    refine hAp1.mono ?_
    rintro e w2 ⟨rfl, V2, hD2, hv2, hV2⟩
    have H2 := Lib.hid (And.intro hv2 hV2)
    have HD2 := Lib.hid hD2
    clear hD2 hv2 hV2 hAp1
    go_wp2_with fail
    go_ret
    refine ⟨rfl, V2, HD2.out.mono (by omega), (Vol.of_below HB1.out).trans H2.out.1 fun b hb => .inl hb, fun b hb => ?_⟩
    have hs1 := HB1.out.size
    rcases H2.out.2 b hb with h | h
    · exact .inl h
    · right; omega
end
end Go.Proofs.Ytplmfmcogbdpjaa.Dk
namespace Go.Proofs.Ytplmfmcogbdpjaa.Dk
open Go Go.RowKit Go.Proofs.Ytplmfmcogbdpjaa Go.Proofs.Ytplmfmcogbdpjaa.Crw Go.Proofs.Ytplmfmcogbdpjaa.Vl Go.ChangeShapes Go.WideShapes Go.ChangeAt
set_option linter.unusedVariables false
set_option maxRecDepth 100000
def abClean (T : ByteArray → Bool) : List ByteArray → Ab → Int × Ab
  | [], a => (0, a)
  | p :: l, a => if T p = true then (if (abRemove p a).1 = 0 then abClean T l (abRemove p a).2 else abRemove p a) else abClean T l a
theorem Good.clean {T : ByteArray → Bool} : ∀ {l : List ByteArray} {a : Ab} {k : Nat}, Good a k → Good (abClean T l a).2 (k + l.length)
  | [], a, k, g => g
  | p :: l, a, k, g => by
    unfold abClean
    have h1 := g.remove (p := p)
    split
    · split
      · exact (Good.clean h1).mono (by simp; omega)
      · exact h1.mono (by simp)
    · exact (Good.clean g).mono (by simp)
theorem PN.clean {P : ByteArray → Prop} {T : ByteArray → Bool} : ∀ {l : List ByteArray} {a : Ab}, PN P a → PN P (abClean T l a).2
  | [], a, h => h
  | p :: l, a, h => by
    unfold abClean
    have h1 := h.remove (p := p)
    split
    · split
      · exact PN.clean h1
      · exact h1
    · exact PN.clean h
section
variable {w w' w1 : World} {B d r k : Nat} {V V' Z Z' : Nat → Prop} {a a' : Ab} {p t : ByteArray} {bs : List Int} {P : ByteArray → Prop} {T : ByteArray → Bool}
set_option maxHeartbeats 8000000 in
theorem D_Clean (H : DkA w B d V a) (g : Good a k) (hk : k + k ≤ 999) (hB : B ≤ w.heap.size) (hP : PN P a)
    (hT : ∀ p, P p → ∀ w, Calls Try.prog 71 #[.string p] w fun e w' => e = .returned (.bool (T p)) ∧ Below w.heap.size w w') :
    Calls Try.prog 43 #[.pointer (some ⟨d, 0, none⟩)] w (PsD w B d V (abClean T (lsP ⟨#[]⟩ a.Y) a)) := by
  have hLi := D_List (pre := ⟨#[]⟩) H g (by omega)
  obtain ⟨L, hL⟩ : ∃ L, L = lsP ⟨#[]⟩ a.Y := ⟨_, rfl⟩
  have hLP : ∀ p ∈ L, P p := fun p hp => by rw [hL] at hp; obtain ⟨y, hy, e⟩ := lsP_mem hp; rw [← e]; exact hP y hy
  have hLk : L.length ≤ k := by rw [hL]; exact Nat.le_trans (lsP_len _ _) g.len
  rw [← hL] at hLi ⊢
  obtain ⟨n, hn⟩ : ∃ n, n = L.length := ⟨_, rfl⟩
  obtain ⟨t, ht⟩ : ∃ t, t = abClean T L a := ⟨_, rfl⟩
  rw [← ht]
  rw [← hn] at hLi hLk 
  have HN := Lib.hid hn
  have HT := Lib.hid ht
  have HLP := Lib.hid hLP
  have HH := Lib.hid H
  have HG := Lib.hid g
  have HTc := Lib.hid hT
  have hlt := H.lt
  have HLT := Lib.hid hlt
  clear H g hP hT hL hLP hn ht hlt
  go_enter Try.func43, Try.ntmps43
  go_upto_region 2 with (go_at_call 22; refine hLi.mono ?_; rintro e w1 ⟨A, c, rfl, ho, hb1⟩)
  have HO := Lib.hid ho
  have HB1 := Lib.hid hb1
  have hst0 : Hid (∃ (i : Nat) (a' : Ab) (V' : Nat → Prop), i ≤ n ∧ Value.int .i64 (0 : Int) = .int .i64 i ∧ abClean T (L.drop i) a' = t ∧ DkA w1 B d V' a' ∧ Good a' (k + i) ∧ Vol V w w1 ∧ (∀ b, V' b → V b ∨ w1.heap.size ≤ b) ∧ Reads w1 w1.heap.size 1 A n (strV L) ∧ w1.heap.size ≤ w1.heap.size ∧ ∃ w7, w7 = w1) :=
    Lib.hid ⟨0, a, V, Nat.zero_le _, rfl, HT.out.symm, HH.out.below hb1, HG.out, Vol.of_below hb1, fun b hb => .inl hb, own_reads ho, Nat.le_refl _, _, rfl⟩
  clear ho hb1 hLi
  go_loopw [9] (fun vi wr => Hid (∃ (i : Nat) (a' : Ab) (V' : Nat → Prop), i ≤ n ∧ vi = .int .i64 i ∧ abClean T (L.drop i) a' = t ∧ DkA wr B d V' a' ∧ Good a' (k + i) ∧ Vol V w wr ∧ (∀ b, V' b → V b ∨ w1.heap.size ≤ b) ∧ Reads wr w1.heap.size 1 A n (strV L) ∧ w1.heap.size ≤ wr.heap.size ∧ ∃ w7, w7 = wr)) (fun vi _ => n - (intOf vi).toNat)
  case atStart => exact hst0
  case round =>
    obtain ⟨i, a', V', hi, rfl, hcl, hD, hg, hv, hV, hrd, hsz, wr, hwr⟩ := hrel.out
    subst hwr
    clear hrel hst0
    by_cases hin0 : i < n
    · have hin : (i : Int) < (n : Int) := by omega
      have hiL : i < L.length := by rw [← HN.out]; exact hin0
      obtain ⟨q, hq⟩ : ∃ q, L[i]? = some q := ⟨_, List.getElem?_eq_getElem hiL⟩
      have hqP := HLP.out q (List.mem_of_getElem? hq)
      have hdr : L.drop i = q :: L.drop (i + 1) := by
        rw [List.drop_eq_getElem_cons hiL]
        rw [List.getElem?_eq_getElem hiL] at hq
        injection hq with hq
        rw [hq]
      rw [hdr] at hcl
      obtain ⟨ad, u, hA, hadb, hu1, hc1⟩ := hrd.at_ hin0
      subst hA
      rw [List.getElem?_map, hq] at hu1
      injection hu1 with hu1
      subst hu1
      have hnV : ¬ V' ad.block := fun h => by
        have h1 := (HO.out.lt ad.block rfl)
        rcases hV _ h with h2 | h2
        · have := HLT.out _ h2; omega
        · omega
      have hIs := HTc.out q hqP wr
      have HD := Lib.hid (And.intro hD (And.intro hg (And.intro hv (And.intro hV hrd))))
      have HNV := Lib.hid hnV
      unfold abClean at hcl
      clear hdr hD hg hv hV hrd hnV hq hqP
      go_wp2_with fail
      refine hIs.mono ?_
      rintro e w2 ⟨rfl, hb2⟩
      have HB2 := Lib.hid hb2
      have hs2 := hb2.size
      clear hb2 hIs
      cases hTq : T q with
      | false =>
        rw [if_neg (by rw [hTq]; decide)] at hcl
        have HCL := Lib.hid hcl
        clear hcl hTq
        go_wp2_with fail
        go_roundw
        case rel => exact Lib.hid ⟨i + 1, a', V', by omega, by go_num, HCL.out, HD.out.1.below HB2.out, HD.out.2.1.mono (by omega), HD.out.2.2.1.below HB2.out, HD.out.2.2.2.1, reads_belP HD.out.2.2.2.2 hsz HB2.out, Nat.le_trans hsz hs2, _, rfl⟩
        case measure => simp [intOf]; omega
      | true =>
        rw [if_pos hTq] at hcl
        have hRe := D_Remove (p := q) (HD.out.1.below HB2.out) HD.out.2.1
        have hgr := HD.out.2.1.remove (p := q)
        generalize abRemove q a' = x at *
        obtain ⟨e1, a1⟩ := x
        simp only at hcl hgr
        by_cases he1 : e1 = 0
        · have hn1 : (e1 != 0) = false := by simp [he1]
          rw [if_pos he1] at hcl
          have HCL := Lib.hid (And.intro hcl hgr)
          clear hcl hTq hgr he1
          go_wp2_with fail
          refine hRe.mono ?_
          rintro e w3 ⟨rfl, V3, hD3, hv3, hV3⟩
          simp only at *
          have H3 := Lib.hid (And.intro hD3 (And.intro hv3 hV3))
          clear hD3 hv3 hV3 hRe
          go_wp2_with fail
          have hs3 := H3.out.2.1.size
          go_roundw
          case rel =>
            refine Lib.hid ⟨i + 1, a1, V3, by omega, by go_num, HCL.out.1, H3.out.1, HCL.out.2.mono (by omega), (HD.out.2.2.1.below HB2.out).trans H3.out.2.1 fun b hb => ?_, fun b hb => ?_, reads_vol (reads_belP HD.out.2.2.2.2 hsz HB2.out) (Nat.le_trans hsz hs2) H3.out.2.1 (fun ad' e' => by injection e' with e'; subst e'; exact HNV.out), by omega, _, rfl⟩
            · rcases HD.out.2.2.2.1 b hb with h | h
              · exact .inl h
              · right; have := HB1.out.size; omega
            · rcases H3.out.2.2 b hb with h | h
              · exact HD.out.2.2.2.1 b h
              · right; omega
          case measure => simp [intOf]; omega
        · have hn1 : (e1 != 0) = true := by simp [he1]
          rw [if_neg he1] at hcl
          have HCL := Lib.hid (And.intro hcl hgr)
          clear hcl hTq hgr he1
          go_wp2_with fail
          refine hRe.mono ?_
          rintro e w3 ⟨rfl, V3, hD3, hv3, hV3⟩
          simp only at *
          have H3 := Lib.hid (And.intro hD3 (And.intro hv3 hV3))
          clear hD3 hv3 hV3 hRe
          go_wp2_with fail
          go_ret
          have hs3 := H3.out.2.1.size
          have hs1 := HB1.out.size
          rw [← HCL.out.1]
          refine ⟨rfl, V3, H3.out.1, (HD.out.2.2.1.below HB2.out).trans H3.out.2.1 fun b hb => ?_, fun b hb => ?_⟩
          · rcases HD.out.2.2.2.1 b hb with h | h
            · exact .inl h
            · right; omega
          · rcases H3.out.2.2 b hb with h | h
            · rcases HD.out.2.2.2.1 b h with h | h
              · exact .inl h
              · right; omega
            · right; omega
    · have hin : ¬ (i : Int) < (n : Int) := by omega
      have hie : i = n := by omega
      rw [hie, HN.out, List.drop_length] at hcl
      have HD := Lib.hid (And.intro hD (And.intro hv (And.intro hV hcl)))
      clear hD hv hV hcl hrd
      go_wp2_with fail
      go_ret
      have hs1 := HB1.out.size
      rw [← HD.out.2.2.2]
      unfold abClean
      refine ⟨rfl, V', HD.out.1, HD.out.2.1, fun b hb => ?_⟩
      rcases HD.out.2.2.1 b hb with h | h
      · exact .inl h
      · right; omega
set_option maxHeartbeats 8000000 in
theorem R_Clean (H : RkA w B r Z k a) (g : Good a k) (hk : k + k ≤ 999) (hB : B ≤ w.heap.size) (hP : PN P a)
    (hT : ∀ p, P p → ∀ w, Calls Try.prog 78 #[.string p] w fun e w' => e = .returned (.bool (T p)) ∧ Below w.heap.size w w') :
    Calls Try.prog 60 #[.pointer (some ⟨r, 0, none⟩)] w (PsR w B r Z (k + (lsP ⟨#[]⟩ a.Y).length) (abClean T (lsP ⟨#[]⟩ a.Y) a)) := by
  have hLi := R_List (pre := ⟨#[]⟩) H g (by omega) (by decide)
  obtain ⟨L, hL⟩ : ∃ L, L = lsP ⟨#[]⟩ a.Y := ⟨_, rfl⟩
  have hLP : ∀ p ∈ L, P p := fun p hp => by rw [hL] at hp; obtain ⟨y, hy, e⟩ := lsP_mem hp; rw [← e]; exact hP y hy
  have hLk : L.length ≤ k := by rw [hL]; exact Nat.le_trans (lsP_len _ _) g.len
  rw [← hL] at hLi ⊢
  obtain ⟨n, hn⟩ : ∃ n, n = L.length := ⟨_, rfl⟩
  obtain ⟨t, ht⟩ : ∃ t, t = abClean T L a := ⟨_, rfl⟩
  rw [← ht]
  rw [← hn] at hLi hLk ⊢
  have HN := Lib.hid hn
  have HT := Lib.hid ht
  have HLP := Lib.hid hLP
  have HH := Lib.hid H
  have HG := Lib.hid g
  have HTc := Lib.hid hT
  have hlt := H.lt
  have HLT := Lib.hid hlt
  clear H g hP hT hL hLP hn ht hlt
  go_enter Try.func60, Try.ntmps60
  go_upto_region 2 with (go_at_call 57; refine hLi.mono ?_; rintro e w1 ⟨A, c, rfl, ho, hb1⟩)
  have HO := Lib.hid ho
  have HB1 := Lib.hid hb1
  have hst0 : Hid (∃ (i : Nat) (a' : Ab) (V' : Nat → Prop), i ≤ n ∧ Value.int .i64 (0 : Int) = .int .i64 i ∧ abClean T (L.drop i) a' = t ∧ RkA w1 B r V' (k + i) a' ∧ Good a' (k + i) ∧ Vol Z w w1 ∧ (∀ b, V' b → Z b ∨ w1.heap.size ≤ b) ∧ Reads w1 w1.heap.size 1 A n (strV L) ∧ w1.heap.size ≤ w1.heap.size ∧ ∃ w7, w7 = w1) :=
    Lib.hid ⟨0, a, Z, Nat.zero_le _, rfl, HT.out.symm, HH.out.below hb1, HG.out, Vol.of_below hb1, fun b hb => .inl hb, own_reads ho, Nat.le_refl _, _, rfl⟩
  clear ho hb1 hLi
  go_loopw [9] (fun vi wr => Hid (∃ (i : Nat) (a' : Ab) (V' : Nat → Prop), i ≤ n ∧ vi = .int .i64 i ∧ abClean T (L.drop i) a' = t ∧ RkA wr B r V' (k + i) a' ∧ Good a' (k + i) ∧ Vol Z w wr ∧ (∀ b, V' b → Z b ∨ w1.heap.size ≤ b) ∧ Reads wr w1.heap.size 1 A n (strV L) ∧ w1.heap.size ≤ wr.heap.size ∧ ∃ w7, w7 = wr)) (fun vi _ => n - (intOf vi).toNat)
  case atStart => exact hst0
  case round =>
    obtain ⟨i, a', V', hi, rfl, hcl, hD, hg, hv, hV, hrd, hsz, wr, hwr⟩ := hrel.out
    subst hwr
    clear hrel hst0
    by_cases hin0 : i < n
    · have hin : (i : Int) < (n : Int) := by omega
      have hiL : i < L.length := by rw [← HN.out]; exact hin0
      obtain ⟨q, hq⟩ : ∃ q, L[i]? = some q := ⟨_, List.getElem?_eq_getElem hiL⟩
      have hqP := HLP.out q (List.mem_of_getElem? hq)
      have hdr : L.drop i = q :: L.drop (i + 1) := by
        rw [List.drop_eq_getElem_cons hiL]
        rw [List.getElem?_eq_getElem hiL] at hq
        injection hq with hq
        rw [hq]
      rw [hdr] at hcl
      obtain ⟨ad, u, hA, hadb, hu1, hc1⟩ := hrd.at_ hin0
      subst hA
      rw [List.getElem?_map, hq] at hu1
      injection hu1 with hu1
      subst hu1
      have hnV : ¬ V' ad.block := fun h => by
        have h1 := (HO.out.lt ad.block rfl)
        rcases hV _ h with h2 | h2
        · have := HLT.out _ h2; omega
        · omega
      have hIs := HTc.out q hqP wr
      have HD := Lib.hid (And.intro hD (And.intro hg (And.intro hv (And.intro hV hrd))))
      have HNV := Lib.hid hnV
      unfold abClean at hcl
      clear hdr hD hg hv hV hrd hnV hq hqP
      go_wp2_with fail
      refine hIs.mono ?_
      rintro e w2 ⟨rfl, hb2⟩
      have HB2 := Lib.hid hb2
      have hs2 := hb2.size
      clear hb2 hIs
      cases hTq : T q with
      | false =>
        rw [if_neg (by rw [hTq]; decide)] at hcl
        have HCL := Lib.hid hcl
        clear hcl hTq
        go_wp2_with fail
        go_roundw
        case rel => exact Lib.hid ⟨i + 1, a', V', by omega, by go_num, HCL.out, (HD.out.1.below HB2.out).mono (by omega), HD.out.2.1.mono (by omega), HD.out.2.2.1.below HB2.out, HD.out.2.2.2.1, reads_belP HD.out.2.2.2.2 hsz HB2.out, Nat.le_trans hsz hs2, _, rfl⟩
        case measure => simp [intOf]; omega
      | true =>
        rw [if_pos hTq] at hcl
        have hRe := R_Remove (p := q) (HD.out.1.below HB2.out) HD.out.2.1 (by omega) (by have := HB1.out.size; omega)
        have hgr := HD.out.2.1.remove (p := q)
        generalize abRemove q a' = x at *
        obtain ⟨e1, a1⟩ := x
        simp only at hcl hgr
        by_cases he1 : e1 = 0
        · have hn1 : (e1 != 0) = false := by simp [he1]
          rw [if_pos he1] at hcl
          have HCL := Lib.hid (And.intro hcl hgr)
          clear hcl hTq hgr he1
          go_wp2_with fail
          refine hRe.mono ?_
          rintro e w3 ⟨rfl, V3, hD3, hv3, hV3⟩
          simp only at *
          have H3 := Lib.hid (And.intro hD3 (And.intro hv3 hV3))
          clear hD3 hv3 hV3 hRe
          go_wp2_with fail
          have hs3 := H3.out.2.1.size
          go_roundw
          case rel =>
            refine Lib.hid ⟨i + 1, a1, V3, by omega, by go_num, HCL.out.1, H3.out.1, HCL.out.2.mono (by omega), (HD.out.2.2.1.below HB2.out).trans H3.out.2.1 fun b hb => ?_, fun b hb => ?_, reads_vol (reads_belP HD.out.2.2.2.2 hsz HB2.out) (Nat.le_trans hsz hs2) H3.out.2.1 (fun ad' e' => by injection e' with e'; subst e'; exact HNV.out), by omega, _, rfl⟩
            · rcases HD.out.2.2.2.1 b hb with h | h
              · exact .inl h
              · right; have := HB1.out.size; omega
            · rcases H3.out.2.2 b hb with h | h
              · exact HD.out.2.2.2.1 b h
              · right; omega
          case measure => simp [intOf]; omega
        · have hn1 : (e1 != 0) = true := by simp [he1]
          rw [if_neg he1] at hcl
          have HCL := Lib.hid (And.intro hcl hgr)
          clear hcl hTq hgr he1
          go_wp2_with fail
          refine hRe.mono ?_
          rintro e w3 ⟨rfl, V3, hD3, hv3, hV3⟩
          simp only at *
          have H3 := Lib.hid (And.intro hD3 (And.intro hv3 hV3))
          clear hD3 hv3 hV3 hRe
          go_wp2_with fail
          go_ret
          have hs3 := H3.out.2.1.size
          have hs1 := HB1.out.size
          rw [← HCL.out.1]
          refine ⟨rfl, V3, H3.out.1.mono (by omega), (HD.out.2.2.1.below HB2.out).trans H3.out.2.1 fun b hb => ?_, fun b hb => ?_⟩
          · rcases HD.out.2.2.2.1 b hb with h | h
            · exact .inl h
            · right; omega
          · rcases H3.out.2.2 b hb with h | h
            · rcases HD.out.2.2.2.1 b h with h | h
              · exact .inl h
              · right; omega
            · right; omega
    · have hin : ¬ (i : Int) < (n : Int) := by omega
      have hie : i = n := by omega
      rw [hie, HN.out, List.drop_length] at hcl
      have HD := Lib.hid (And.intro hD (And.intro hv (And.intro hV hcl)))
      clear hD hv hV hcl hrd
      go_wp2_with fail
      go_ret
      have hs1 := HB1.out.size
      rw [← HD.out.2.2.2]
      unfold abClean
      refine ⟨rfl, V', HD.out.1.mono (by omega), HD.out.2.1, fun b hb => ?_⟩
      rcases HD.out.2.2.1 b hb with h | h
      · exact .inl h
      · right; omega
end
end Go.Proofs.Ytplmfmcogbdpjaa.Dk
namespace Go.Proofs.Ytplmfmcogbdpjaa
open Go Go.RowKit
set_option maxRecDepth 1000000 in
theorem kn_t0 : Known Try.prog (70, [.string ⟨#[97]⟩], .string ⟨#[97, 126]⟩) :=
  known_of (okF := ⟨fun _ => true, fun _ _ => none, fun _ _ _ => none⟩) (n := 2000) (letI : Toks := ⟨fun _ => 0⟩; ⟨(fun _ _ _ h => nomatch h), CallOk.none, CallMono.none⟩) mixed (by kernel_rfl) rfl rfl (by kernel_rfl)
set_option maxRecDepth 1000000 in
theorem kn_a0 : Known Try.prog (71, [.string ⟨#[97]⟩], .bool false) :=
  known_of (okF := ⟨fun _ => true, fun _ _ => none, fun _ _ _ => none⟩) (n := 2000) (letI : Toks := ⟨fun _ => 0⟩; ⟨(fun _ _ _ h => nomatch h), CallOk.none, CallMono.none⟩) mixed (by kernel_rfl) rfl rfl (by kernel_rfl)
set_option maxRecDepth 1000000 in
theorem kn_b0 : Known Try.prog (71, [.string ⟨#[97, 126]⟩], .bool true) :=
  known_of (okF := ⟨fun _ => true, fun _ _ => none, fun _ _ _ => none⟩) (n := 2000) (letI : Toks := ⟨fun _ => 0⟩; ⟨(fun _ _ _ h => nomatch h), CallOk.none, CallMono.none⟩) mixed (by kernel_rfl) rfl rfl (by kernel_rfl)
set_option maxRecDepth 1000000 in
theorem kn_c0 : Known Try.prog (78, [.string ⟨#[97]⟩], .bool false) :=
  known_of (okF := ⟨fun _ => true, fun _ _ => none, fun _ _ _ => none⟩) (n := 2000) (letI : Toks := ⟨fun _ => 0⟩; ⟨(fun _ _ _ h => nomatch h), CallOk.none, CallMono.none⟩) mixed (by kernel_rfl) rfl rfl (by kernel_rfl)
set_option maxRecDepth 1000000 in
theorem kn_d0 : Known Try.prog (78, [.string ⟨#[97, 126]⟩], .bool true) :=
  known_of (okF := ⟨fun _ => true, fun _ _ => none, fun _ _ _ => none⟩) (n := 2000) (letI : Toks := ⟨fun _ => 0⟩; ⟨(fun _ _ _ h => nomatch h), CallOk.none, CallMono.none⟩) mixed (by kernel_rfl) rfl rfl (by kernel_rfl)
set_option maxRecDepth 1000000 in
theorem kn_t1 : Known Try.prog (70, [.string ⟨#[98, 47, 99]⟩], .string ⟨#[98, 47, 99, 126]⟩) :=
  known_of (okF := ⟨fun _ => true, fun _ _ => none, fun _ _ _ => none⟩) (n := 2000) (letI : Toks := ⟨fun _ => 0⟩; ⟨(fun _ _ _ h => nomatch h), CallOk.none, CallMono.none⟩) mixed (by kernel_rfl) rfl rfl (by kernel_rfl)
set_option maxRecDepth 1000000 in
theorem kn_a1 : Known Try.prog (71, [.string ⟨#[98, 47, 99]⟩], .bool false) :=
  known_of (okF := ⟨fun _ => true, fun _ _ => none, fun _ _ _ => none⟩) (n := 2000) (letI : Toks := ⟨fun _ => 0⟩; ⟨(fun _ _ _ h => nomatch h), CallOk.none, CallMono.none⟩) mixed (by kernel_rfl) rfl rfl (by kernel_rfl)
set_option maxRecDepth 1000000 in
theorem kn_b1 : Known Try.prog (71, [.string ⟨#[98, 47, 99, 126]⟩], .bool true) :=
  known_of (okF := ⟨fun _ => true, fun _ _ => none, fun _ _ _ => none⟩) (n := 2000) (letI : Toks := ⟨fun _ => 0⟩; ⟨(fun _ _ _ h => nomatch h), CallOk.none, CallMono.none⟩) mixed (by kernel_rfl) rfl rfl (by kernel_rfl)
set_option maxRecDepth 1000000 in
theorem kn_c1 : Known Try.prog (78, [.string ⟨#[98, 47, 99]⟩], .bool false) :=
  known_of (okF := ⟨fun _ => true, fun _ _ => none, fun _ _ _ => none⟩) (n := 2000) (letI : Toks := ⟨fun _ => 0⟩; ⟨(fun _ _ _ h => nomatch h), CallOk.none, CallMono.none⟩) mixed (by kernel_rfl) rfl rfl (by kernel_rfl)
set_option maxRecDepth 1000000 in
theorem kn_d1 : Known Try.prog (78, [.string ⟨#[98, 47, 99, 126]⟩], .bool true) :=
  known_of (okF := ⟨fun _ => true, fun _ _ => none, fun _ _ _ => none⟩) (n := 2000) (letI : Toks := ⟨fun _ => 0⟩; ⟨(fun _ _ _ h => nomatch h), CallOk.none, CallMono.none⟩) mixed (by kernel_rfl) rfl rfl (by kernel_rfl)
set_option maxRecDepth 1000000 in
theorem kn_t2 : Known Try.prog (70, [.string ⟨#[101, 112, 111, 99, 104]⟩], .string ⟨#[101, 112, 111, 99, 104, 126]⟩) :=
  known_of (okF := ⟨fun _ => true, fun _ _ => none, fun _ _ _ => none⟩) (n := 2000) (letI : Toks := ⟨fun _ => 0⟩; ⟨(fun _ _ _ h => nomatch h), CallOk.none, CallMono.none⟩) mixed (by kernel_rfl) rfl rfl (by kernel_rfl)
set_option maxRecDepth 1000000 in
theorem kn_a2 : Known Try.prog (71, [.string ⟨#[101, 112, 111, 99, 104]⟩], .bool false) :=
  known_of (okF := ⟨fun _ => true, fun _ _ => none, fun _ _ _ => none⟩) (n := 2000) (letI : Toks := ⟨fun _ => 0⟩; ⟨(fun _ _ _ h => nomatch h), CallOk.none, CallMono.none⟩) mixed (by kernel_rfl) rfl rfl (by kernel_rfl)
set_option maxRecDepth 1000000 in
theorem kn_b2 : Known Try.prog (71, [.string ⟨#[101, 112, 111, 99, 104, 126]⟩], .bool true) :=
  known_of (okF := ⟨fun _ => true, fun _ _ => none, fun _ _ _ => none⟩) (n := 2000) (letI : Toks := ⟨fun _ => 0⟩; ⟨(fun _ _ _ h => nomatch h), CallOk.none, CallMono.none⟩) mixed (by kernel_rfl) rfl rfl (by kernel_rfl)
set_option maxRecDepth 1000000 in
theorem kn_c2 : Known Try.prog (78, [.string ⟨#[101, 112, 111, 99, 104]⟩], .bool false) :=
  known_of (okF := ⟨fun _ => true, fun _ _ => none, fun _ _ _ => none⟩) (n := 2000) (letI : Toks := ⟨fun _ => 0⟩; ⟨(fun _ _ _ h => nomatch h), CallOk.none, CallMono.none⟩) mixed (by kernel_rfl) rfl rfl (by kernel_rfl)
set_option maxRecDepth 1000000 in
theorem kn_d2 : Known Try.prog (78, [.string ⟨#[101, 112, 111, 99, 104, 126]⟩], .bool true) :=
  known_of (okF := ⟨fun _ => true, fun _ _ => none, fun _ _ _ => none⟩) (n := 2000) (letI : Toks := ⟨fun _ => 0⟩; ⟨(fun _ _ _ h => nomatch h), CallOk.none, CallMono.none⟩) mixed (by kernel_rfl) rfl rfl (by kernel_rfl)
end Go.Proofs.Ytplmfmcogbdpjaa
namespace Go.Proofs.Ytplmfmcogbdpjaa.Dk
open Go Go.RowKit Go.Proofs.Ytplmfmcogbdpjaa Go.Proofs.Ytplmfmcogbdpjaa.Crw Go.Proofs.Ytplmfmcogbdpjaa.Vl Go.ChangeShapes Go.WideShapes Go.ChangeAt
set_option linter.unusedVariables false
set_option maxRecDepth 100000
def nm3 : List ByteArray := [⟨#[97]⟩, ⟨#[98, 47, 99]⟩, ⟨#[101, 112, 111, 99, 104]⟩]
abbrev tl : ByteArray := ⟨#[126]⟩
def P6 (p : ByteArray) : Prop := p ∈ nm3 ∨ ∃ q ∈ nm3, p = q ++ tl
def isT (p : ByteArray) : Bool := p.data.back? == some 126
theorem Temp_3 {p : ByteArray} (hp : p ∈ nm3) (w : World) : Calls Try.prog 70 #[.string p] w fun e w' => e = .returned (.string (p ++ tl)) ∧ Below w.heap.size w w' := by
  simp only [nm3, List.mem_cons, List.not_mem_nil, or_false] at hp
  rcases hp with rfl | rfl | rfl
  · exact kn_t0.2.2.2 w
  · exact kn_t1.2.2.2 w
  · exact kn_t2.2.2.2 w
theorem IsTemp_6 (p : ByteArray) (hp : P6 p) (w : World) : Calls Try.prog 71 #[.string p] w fun e w' => e = .returned (.bool (isT p)) ∧ Below w.heap.size w w' := by
  rcases hp with hp | ⟨q, hp, rfl⟩ <;> simp only [nm3, List.mem_cons, List.not_mem_nil, or_false] at hp
  · rcases hp with rfl | rfl | rfl
    · exact kn_a0.2.2.2 w
    · exact kn_a1.2.2.2 w
    · exact kn_a2.2.2.2 w
  · rcases hp with rfl | rfl | rfl
    · exact kn_b0.2.2.2 w
    · exact kn_b1.2.2.2 w
    · exact kn_b2.2.2.2 w
theorem rIsTemp_6 (p : ByteArray) (hp : P6 p) (w : World) : Calls Try.prog 78 #[.string p] w fun e w' => e = .returned (.bool (isT p)) ∧ Below w.heap.size w w' := by
  rcases hp with hp | ⟨q, hp, rfl⟩ <;> simp only [nm3, List.mem_cons, List.not_mem_nil, or_false] at hp
  · rcases hp with rfl | rfl | rfl
    · exact kn_c0.2.2.2 w
    · exact kn_c1.2.2.2 w
    · exact kn_c2.2.2.2 w
  · rcases hp with rfl | rfl | rfl
    · exact kn_d0.2.2.2 w
    · exact kn_d1.2.2.2 w
    · exact kn_d2.2.2.2 w
theorem nm3_size {p : ByteArray} (hp : p ∈ nm3) : p.size ≤ 5 ∧ (p ++ tl).size ≤ 6 := by
  simp only [nm3, List.mem_cons, List.not_mem_nil, or_false] at hp
  rcases hp with rfl | rfl | rfl <;> decide
section
variable {w w' w1 : World} {B d r k : Nat} {X : Nat → Prop} {a : Ab} {A : Option Addr} {n c : Nat} {xs : List Int} {p : ByteArray}
theorem ta_write (H : Ta w B X d r k a) (hB : B ≤ w.heap.size) (hk : k + 3 ≤ 1000) (hp : p ∈ nm3) {lo : Nat} (ho : w.ownsRow lo 5 1 (.slice A n c) n (bsV xs)) (hlo : ∀ b, lo ≤ b → X b) :
    Calls Try.prog 42 #[.pointer (some ⟨d, 0, none⟩), .string p, .slice A n c] w (TaPost w B X d r (k + 3) (abWrite (p ++ tl) p xs a) 59 #[.pointer (some ⟨r, 0, none⟩), .string p, .slice A n c]) := by
  obtain ⟨V, Z, h1, h2, h3, h4, h5⟩ := H
  have hr := own_reads ho
  have hA : ∀ ad, A = some ad → X ad.block := fun ad e => by subst e; exact hlo _ (ho.lt ad.block rfl).1
  have hAV : ∀ ad, A = some ad → ¬ V ad.block := fun ad e hv => h5 _ (.inl hv) (hA ad e)
  have hAZ : ∀ ad, A = some ad → ¬ Z ad.block := fun ad e hv => h5 _ (.inr hv) (hA ad e)
  have hz := nm3_size hp
  exact ta_step h1 h2 h3 h5 (Nat.le_refl _) (h4.write (by omega) (by omega)) (D_Write h1 h4 (by omega) hr (Nat.le_refl _) hAV (Temp_3 hp)) fun w1 hv hR => R_Write hR h4 hk (Nat.le_trans hB hv.size) (by omega) (by omega) (reads_vol hr (Nat.le_refl _) hv hAV) hv.size hAZ rfl
theorem ta_clean (H : Ta w B X d r k a) (hB : B ≤ w.heap.size) (hk : k + k ≤ 999) (hP : PN P6 a) :
    Calls Try.prog 43 #[.pointer (some ⟨d, 0, none⟩)] w (TaPost w B X d r (k + a.Y.length + 1) (abClean isT (lsP ⟨#[]⟩ a.Y) a) 60 #[.pointer (some ⟨r, 0, none⟩)]) := by
  obtain ⟨V, Z, h1, h2, h3, h4, h5⟩ := H
  have hl : (lsP ⟨#[]⟩ a.Y).length = a.Y.length := by rw [lsP_nil, List.length_map]
  exact ta_step h1 h2 h3 h5 (by rw [← hl]; exact Nat.le_refl _) (h4.clean.mono (by rw [hl]; omega)) (D_Clean h1 h4 hk hB hP IsTemp_6) fun w1 hv hR => R_Clean hR h4 hk (Nat.le_trans hB hv.size) hP rIsTemp_6
end
end Go.Proofs.Ytplmfmcogbdpjaa.Dk
namespace Go.Proofs.Ytplmfmcogbdpjaa.Dk
open Go Go.RowKit Go.Proofs.Ytplmfmcogbdpjaa Go.Proofs.Ytplmfmcogbdpjaa.Crw Go.Proofs.Ytplmfmcogbdpjaa.Vl Go.ChangeShapes Go.WideShapes Go.ChangeAt
set_option linter.unusedVariables false
set_option maxRecDepth 100000
/-- What has been visited: pairs of entry and file. -/
def Vis (es : List MapEntry) (F F' : List Fi) (seen : Array Nat) : Prop :=
  ∃ P : List (MapEntry × Fi), seen.toList = P.map (·.1.born) ∧ (P.map (·.1.born)).Nodup ∧ (∀ q ∈ P, q ∈ es.zip F) ∧ F'.map Fi.sh = P.map (·.2.sh)
theorem pair_inj {es : List MapEntry} {F : List Fi} (hn : (es.map (·.born)).Nodup) {a b : MapEntry × Fi} (ha : a ∈ es.zip F) (hb : b ∈ es.zip F) (h : a.1.born = b.1.born) : a = b := by
  obtain ⟨i, hi⟩ := List.getElem?_of_mem ha
  obtain ⟨j, hj⟩ := List.getElem?_of_mem hb
  rw [List.getElem?_zip_eq_some] at hi hj
  have hil := (List.getElem?_eq_some_iff.1 hi.1).1
  have h1 : (es.map (·.born))[i]? = (es.map (·.born))[j]? := by rw [List.getElem?_map, List.getElem?_map, hi.1, hj.1]; simp [h]
  have h2 := (List.getElem?_inj (by rw [List.length_map]; exact hil) hn).1 h1
  subst h2
  have e1 := hi.1.symm.trans hj.1
  have e2 := hi.2.symm.trans hj.2
  injection e1 with e1
  injection e2 with e2
  exact Prod.ext e1 e2
theorem Vis.perm {es : List MapEntry} {F F' : List Fi} {seen : Array Nat} (h : Vis es F F' seen) (hn : (es.map (·.born)).Nodup) (hl : es.length = F.length) (hall : ∀ e ∈ es, seen.contains e.born = true) : (F'.map Fi.sh).Perm (F.map Fi.sh) := by
  obtain ⟨P, h1, h2, h3, h4⟩ := h
  rw [h4]
  have e1 : F.map Fi.sh = (es.zip F).map (·.2.sh) := by
    have e2 : (es.zip F).map Prod.snd = F := List.map_snd_zip (by omega)
    conv => lhs; rw [← e2, List.map_map]
    rfl
  rw [e1]
  refine List.Perm.map _ ?_
  have np : P.Nodup := List.Pairwise.of_map (S := (· ≠ ·)) (fun q : MapEntry × Fi => q.1.born) (fun a b hne e => hne (by rw [e])) h2
  have nz : (es.zip F).Nodup := by
    have e2 : (es.zip F).map Prod.fst = es := List.map_fst_zip (by omega)
    have : ((es.zip F).map fun q => q.1.born).Nodup := by
      rw [← e2, List.map_map] at hn
      exact hn
    exact List.Pairwise.of_map (S := (· ≠ ·)) (fun q : MapEntry × Fi => q.1.born) (fun a b hne e => hne (by rw [e])) this
  refine (List.perm_ext_iff_of_nodup np nz).2 fun q => ⟨h3 q, fun hq => ?_⟩
  have hm : q.1 ∈ es := by
    obtain ⟨i, hi⟩ := List.getElem?_of_mem hq
    rw [List.getElem?_zip_eq_some] at hi
    exact List.mem_of_getElem? hi.1
  have h5 := hall q.1 hm
  have h6 : q.1.born ∈ seen.toList := by simpa using h5
  rw [h1] at h6
  obtain ⟨q', hq', e⟩ := List.mem_map.1 h6
  rw [← pair_inj hn (h3 q' hq') hq e]
  exact hq'
section
variable {w w' w1 : World} {B d mb : Nat} {U V V' : Nat → Prop} {s : Ds} {F F' : List Fi} {p : ByteArray}
def ClI (w : World) (mb ck ri c m : Nat) (es : Array MapEntry) (s : Ds) (F : List Fi) (wr : World) : Prop :=
  ∃ (seen : Array Nat) (V' : Nat → Prop) (F' : List Fi), iterSeen wr ri mb ck seen ∧ Vis es.toList F F' seen ∧ DkP wr w.heap.size c m V' s F' ∧ (∀ b, V' b → b ≠ ri) ∧ Below w.heap.size w wr ∧ ri < wr.heap.size
set_option maxHeartbeats 16000000 in
theorem Clone_all (H : DkP w B d mb V s F) (hok : ∀ x ∈ F, x.bs.length ≤ 65536) :
    Calls Try.prog 56 #[.pointer (some ⟨d, 0, none⟩)] w fun e w' => ∃ c m V' F', e = .returned (.pointer (some ⟨c, 0, none⟩)) ∧ DkP w' w.heap.size c m V' s F' ∧ (F'.map Fi.sh).Perm (F.map Fi.sh) ∧ Below w.heap.size w w' := by
  obtain ⟨es, ck, hm, hkv, hbo, hnd⟩ := H.mpB
  obtain ⟨q, u, fu, lf, de⟩ := s
  have c0 : w.cell? ⟨d, 0, none⟩ = some (.int .i64 q) := H.blk.cell 0
  have c1 : w.cell? ⟨d, 1, none⟩ = some (.int .i64 u) := H.blk.cell 1
  have c2 : w.cell? ⟨d, 2, none⟩ = some (.map (some mb)) := H.blk.cell 2
  have c3 : w.cell? ⟨d, 3, none⟩ = some (.bool fu) := H.blk.cell 3
  have c4 : w.cell? ⟨d, 4, none⟩ = some (.int .i64 lf) := H.blk.cell 4
  have c5 : w.cell? ⟨d, 5, none⟩ = some (.bool de) := H.blk.cell 5
  have hmb : mb < w.heap.size := (Array.getElem?_eq_some_iff.1 hm).1
  have hdb : d < w.heap.size := H.blk.lt
  have hmk : ∀ w1, (Instr.makeMap 78 none).run Try.prog w1 = .ok (.map (some w1.heap.size)) (w1.alloc (.map #[] 0)) := fun w1 => run_makeMap_plain w1 _
  have hrange : ∀ w1, w1.heap[mb]? = some (.map es ck) → (Instr.range 78 (.map (some mb))).run Try.prog w1 = .ok (.pointer (some ⟨w1.heap.size, 0, none⟩)) (w1.alloc (.mapIter (some mb) ck #[] ck)) := by
    intro w1 hm1
    have hgm : (getObj mb).run Try.prog w1 = .ok (.map es ck) w1 := by simp only [getObj, Sem.run, hm1]
    simp only [Instr.range, Sem.run_bind, run_underlying Try.underlying78, Result.andThen_ok, hgm, newObj, Sem.run, Sem.run_pure]
    rfl
  have hb2 : Below w.heap.size w ((w.alloc (.cells #[.int .i64 q, .int .i64 u, .map (some (w.heap.size + 1)), .bool fu, .int .i64 lf, .bool de] 80)).alloc (.map #[] 0)) := Below.alloc (Below.alloc (Below.refl _ _) (Nat.le_refl _) _) (by simp) _
  have hr1 := hrange _ ((hb2.block mb hmb).trans hm)
  clear hrange
  have hll : es.toList.length = F.length := by have h1 := congrArg List.length hkv; simpa using h1
  have HH := Lib.hid H
  have HM := Lib.hid (And.intro hm (And.intro hkv (And.intro hbo (And.intro hnd (And.intro hll hok)))))
  clear H hm hkv hbo hnd hll hok
  go_enter Try.func56, Try.ntmps56
  go_wp2
  clear hr1 c0 c1 c2 c3 c4 c5
  go_loopw [] (fun wr => Hid (ClI w mb ck (w.heap.size + 2) w.heap.size (w.heap.size + 1) es ⟨q, u, fu, lf, de⟩ F wr ∧ ∃ w7, w7 = wr)) (fun wr => leftN es.toList wr (w.heap.size + 2))
  case atStart =>
    have z1 : (w.alloc (.cells #[.int .i64 q, .int .i64 u, .map (some (w.heap.size + 1)), .bool fu, .int .i64 lf, .bool de] 80)).heap.size = w.heap.size + 1 := by simp
    have z2 : ((w.alloc (.cells #[.int .i64 q, .int .i64 u, .map (some (w.heap.size + 1)), .bool fu, .int .i64 lf, .bool de] 80)).alloc (.map #[] 0)).heap.size = w.heap.size + 2 := by simp
    have n1 := MapB.made (w.alloc (.cells #[.int .i64 q, .int .i64 u, .map (some (w.heap.size + 1)), .bool fu, .int .i64 lf, .bool de] 80))
    have n2 := heap_alloc_new ((w.alloc (.cells #[.int .i64 q, .int .i64 u, .map (some (w.heap.size + 1)), .bool fu, .int .i64 lf, .bool de] 80)).alloc (.map #[] 0)) (.mapIter (some mb) ck #[] ck)
    rw [z1] at n1
    rw [z2] at n2
    refine Lib.hid ⟨⟨#[], fun b => b = w.heap.size ∨ b = w.heap.size + 1, [], n2, ⟨[], rfl, List.Pairwise.nil, fun q hq => by simp at hq, rfl⟩, ⟨((Blk.new w _ _).alloc _).alloc _, n1.keep (Below.heap_alloc _ _ _ (by rw [z2]; omega)), fun k x hx => by simp at hx, fun k x hx => by simp at hx, fun j k x y hx => by simp at hx, fun j k x y hx => by simp at hx, fun j k x y hx => by simp at hx, ⟨.inl rfl, .inr rfl⟩, fun k x hx => by simp at hx, fun b hb => ?_, fun b hb => by omega⟩, fun b hb => by omega, hb2.alloc (by rw [z2]; omega) _, by simp⟩, _, rfl⟩
    simp
    omega
  case round =>
    obtain ⟨⟨seen, V', F', hit, hV, hD, hri, hbel, hrl⟩, wr, hwr⟩ := hrel.out
    subst hwr
    have hne : w.heap.size + 2 ≠ mb := by omega
    have hmr := (hbel.block mb hmb).trans HM.out.1
    have H1 := Lib.hid (And.intro hV (And.intro hD (And.intro hri (And.intro hbel (And.intro hrl hit)))))
    clear hrel hV hD hri hbel hrl hb2
    go_wp2_with (refine wpList_next_map rfl _ rfl rfl hit hmr HM.out.2.2.1 HM.out.2.2.2.1 hne ?_ ?_)
    · intro hd
      go_wp2_with fail
      go_ret
      exact ⟨_, _, _, _, rfl, H1.out.2.1, H1.out.1.perm HM.out.2.2.2.1 HM.out.2.2.2.2.1 hd, H1.out.2.2.2.1⟩
    · intro e w2 hh hen
      have HC := Lib.hid hh
      obtain ⟨he, hs, hit2, hm2, hg2, hsz2⟩ := hh
      have K1 := Lib.hid (left_less (es := es.toList) hit hit2 he hs)
      obtain ⟨j, hj⟩ := List.getElem?_of_mem he
      have hjF : j < F.length := by rw [← HM.out.2.2.2.2.1]; exact (List.getElem?_eq_some_iff.1 hj).1
      obtain ⟨x, hx⟩ : ∃ x, F[j]? = some x := ⟨_, List.getElem?_eq_getElem hjF⟩
      have hex : (e.key, e.val) = fiE x := by
        have h1 := congrArg (fun l => l[j]?) HM.out.2.1
        simp only [List.getElem?_map, hj, hx, Option.map_some] at h1
        injection h1
      injection hex with hk hv
      rw [hk, hv] at hen ⊢
      have hbw2 : Below wr.heap.size wr w2 ∨ True := .inr trivial
      have hv2 : Vol (fun b => b = w.heap.size + 2) wr w2 := (Vol.refl wr).grown hg2 (fun k hk => .inl (by injection hk with hk; exact hk.symm))
      have hD2 := H1.out.2.1.vol hv2 (fun b hb e => H1.out.2.2.1 b hb e)
      have hbel2 : Below w.heap.size w w2 := H1.out.2.2.2.1.trans ⟨hv2.os, hv2.tape, hv2.output, hv2.size, fun b hb => hv2.block b (Nat.lt_of_lt_of_le hb H1.out.2.2.2.1.size) (by omega)⟩
      have hHw := HH.out.below hbel2
      have hfx := hHw.fls j x hx
      have hrx := hHw.rows j x hx
      have hbl := HM.out.2.2.2.2.2 x (List.mem_of_getElem? hx)
      have hno : ∀ (k : Nat) (y : Fi), F'[k]? = some y → hitP x.p y = false := fun k y hy => by
        obtain ⟨P, p1, p2, p3, p4⟩ := H1.out.1
        have h1 : y.sh ∈ P.map (·.2.sh) := by rw [← p4]; exact List.mem_map.2 ⟨y, List.mem_of_getElem? hy, rfl⟩
        obtain ⟨q, hq, eq⟩ := List.mem_map.1 h1
        obtain ⟨i, hi⟩ := List.getElem?_of_mem (p3 q hq)
        rw [List.getElem?_zip_eq_some] at hi
        refine decide_eq_false fun e3 => ?_
        have e4 : q.2.p = y.p := congrArg Sh.p eq
        have hij : i = j := HH.out.uniq i j q.2 x hi.2 hx (by unfold hitP; rw [decide_eq_true_eq, e4]; exact e3)
        subst hij
        have e5 := hi.1.symm.trans hj
        injection e5 with e5
        have h6 : e.born ∈ seen.toList := by rw [p1]; exact List.mem_map.2 ⟨q, hq, by rw [e5]⟩
        have h7 : seen.contains e.born = true := by simpa using h6
        rw [hs] at h7
        cases h7
      have hvis : Hid (∀ (y : Fi), y.sh = x.sh → Vis es.toList F (F' ++ [y]) (seen.push e.born)) := Lib.hid fun y hy => by
        obtain ⟨P, p1, p2, p3, p4⟩ := H1.out.1
        refine ⟨P ++ [(e, x)], by simp [p1], ?_, fun q hq => ?_, by simp [p4, hy]⟩
        · rw [List.map_append, List.nodup_append]
          refine ⟨p2, by simp, fun a ha b hb => ?_⟩
          simp only [List.map_cons, List.map_nil, List.mem_singleton] at hb
          subst hb
          intro e2
          subst e2
          rw [← p1] at ha
          have : seen.contains e.born = true := by simpa using ha
          rw [hs] at this
          cases this
        · rcases List.mem_append.1 hq with h | h
          · exact p3 q h
          · simp only [List.mem_singleton] at h
            subst h
            exact List.mem_of_getElem? (i := j) (by rw [List.getElem?_zip_eq_some]; exact ⟨hj, hx⟩)
      have hit2' := Lib.hid hit2
      obtain ⟨Ax, cx, hxv, -, -⟩ := own_slice hrx
      obtain ⟨xp, xg, xv, xb, xs, xf⟩ := x
      simp only at hxv
      subst hxv
      have k0 : w2.cell? ⟨xg, 0, none⟩ = some (.slice Ax xb.length cx) := hfx.cell 0
      have k1 : w2.cell? ⟨xg, 1, none⟩ = some (.int .i64 xs) := hfx.cell 1
      have k2 : w2.cell? ⟨xg, 2, none⟩ = some (.bool xf) := hfx.cell 2
      obtain ⟨w3, hw3⟩ : ∃ w3, w3 = w2.alloc (.cells #[.slice Ax xb.length cx, .int .i64 xs, .bool xf] 86) := ⟨_, rfl⟩
      obtain ⟨g, hg⟩ : ∃ g, g = w2.heap.size := ⟨_, rfl⟩
      have hb3 : Below w2.heap.size w2 w3 := by rw [hw3]; exact (Below.refl _ _).alloc (Nat.le_refl _) _
      have hk3 : Blk w3 g 86 #[.slice Ax xb.length cx, .int .i64 xs, .bool xf] := by rw [hw3, hg]; exact Blk.new _ _ _
      have y0 : w3.cell? ⟨xg, 0, none⟩ = some (.slice Ax xb.length cx) := (hfx.below hb3 hfx.lt).cell 0
      have hCl := CloneB (own_keep hrx hb3) (by simp only at hbl ⊢; omega)
      have HD2 := Lib.hid (And.intro hD2 (And.intro hbel2 (And.intro hno (And.intro hb3 hk3))))
      have HG := Lib.hid hg
      have HE := Lib.hid hw3.symm
      clear hD2 hbel2 hno hb3 hk3 hfx hrx hHw hv2 hbw2 hk hv hs hit2 hm2 hg2 hsz2 he hj hx hjF hw3 hit hmr hg
      go_upto_region 7 with fail
      rw [HE.out, ← HG.out]
      clear k0 k1 k2 hen
      go_upto_region 8 with (go_at_call 69; refine hCl.mono ?_; rintro e' w4 ⟨v', rfl, ho4, hb4⟩; obtain ⟨A', c', rfl, -, -⟩ := own_slice ho4; have hk4 := HD2.out.2.2.2.2.below hb4 HD2.out.2.2.2.2.lt; have z0 : w4.cell? ⟨g, 0, none⟩ = some (.slice Ax xb.length cx) := hk4.cell 0; have zf : w4.frozen? ⟨g, 0, none⟩ = false := hk4.frozen 0; have HK4 := Lib.hid (And.intro hk4 (And.intro ho4 hb4)); clear hk4 ho4 hb4)
      obtain ⟨w5, hw5⟩ : ∃ w5, w5 = w4.setCell ⟨g, 0, none⟩ (.slice A' xb.length c') := ⟨_, rfl⟩
      rw [← hw5]
      have hk5 : Blk w5 g 86 #[.slice A' xb.length c', .int .i64 xs, .bool xf] := by rw [hw5]; exact HK4.out.1.set_ 0 _
      have hv5 : Vol (fun b => b = g) w4 w5 := by rw [hw5]; exact Vol.setCell (V := fun b => b = g) (a := ⟨g, 0, none⟩) (Vol.refl w4) (.inl rfl) _
      have hs3 := HD2.out.2.2.2.1.size
      have hs4 := HK4.out.2.2.size
      have hs5 := hv5.size
      have hb25 : Below w2.heap.size w2 w5 := bel_volP (HD2.out.2.2.2.1.trans (HK4.out.2.2.mono hs3)) hv5 (fun b e => by rw [e, HG.out]; exact Nat.le_refl _)
      have hD5 := HD2.out.1.below hb25
      have ho5 : w5.ownsRow w3.heap.size 5 1 (.slice A' xb.length c') xb.length (bsV xb) := own_vol HK4.out.2.1 hv5 (fun b hb e => by have h1 := (HK4.out.2.1.lt b hb).1; have h2 := HD2.out.2.2.2.2.lt; omega)
      have m2 : w5.cell? ⟨w.heap.size, 2, none⟩ = some (.map (some (w.heap.size + 1))) := hD5.blk.cell 2
      obtain ⟨w6, e6, hmp, hg6⟩ := fput_no hD5 HD2.out.2.2.1 g
      have HF := Lib.hid (And.intro hb25 (And.intro hD5 (And.intro ho5 (And.intro hk5 (And.intro hmp hg6)))))
      clear hb25 hD5 ho5 hk5 hmp hg6 hw5 hv5 z0 zf y0 hCl
      go_wp2_with fail
      obtain ⟨hb25, hD5, ho5, hk5, hmp, hg6⟩ := HF.out
      have hv6 : Vol (fun b => b = w.heap.size + 1) w5 w6 := (Vol.refl w5).grown hg6 (fun k hk => .inl (by injection hk with hk; exact hk.symm))
      have hs6 := hv6.size
      have hgl := hk5.lt
      have hgm : g ≠ w.heap.size + 1 := fun e => by have h1 := HD2.out.1.lt _ HD2.out.1.vm.2; have h2 := HG.out; omega
      have hk6 := blk_vol hk5 hv6 hgm
      have hd6 := blk_vol hD5.blk hv6 (by omega)
      have hwr := HD2.out.2.1.size
      have ho6 := own_vol ho5 hv6 (fun b hb e => by have h1 := (ho5.lt b hb).1; have h2 := HD2.out.1.lt _ HD2.out.1.vm.2; omega)
      have hri2 : w.heap.size + 2 < w2.heap.size := by have := HC.out.size; have := H1.out.2.2.2.2.1; omega
      have hD2' : DkP w2 w.heap.size w.heap.size (w.heap.size + 1) V' ⟨q, u, fu, lf, de⟩ F' := HD2.out.1
      have hv26 : Vol (fun b => b = w.heap.size ∨ b = w.heap.size + 1) w2 w6 := (Vol.of_below hb25).trans hv6 (fun b e => .inl (.inr e))
      have hP := hD2'.push (s' := ⟨q, u, fu, lf, de⟩) ⟨xp, g, .slice A' xb.length c', xb, xs, xf⟩ HD2.out.2.2.1 hv26 hd6 (by simpa using hmp) (by rw [HG.out]; exact Nat.le_refl _) hk6 (own_down ho6 (by omega)) (fun b hb => by have h1 := (ho5.lt b hb).1; omega)
      have hvs := hvis.out ⟨xp, g, .slice A' xb.length c', xb, xs, xf⟩ rfl
      have hitE : w6.heap[w.heap.size + 2]? = w2.heap[w.heap.size + 2]? := hv26.block _ hri2 (by omega)
      refine ⟨Lib.hid ⟨⟨seen.push e.born, _, _, ?_, hvs, hP, fun b hb => ?_, ?_, ?_⟩, _, rfl⟩, ?_⟩
      · show w6.heap[_]? = _
        rw [hitE]
        exact hit2'.out
      · rcases hb with hb | ⟨hb, -⟩
        · exact H1.out.2.2.1 b hb
        · omega
      · exact HD2.out.2.1.trans ⟨hv26.os, hv26.tape, hv26.output, hv26.size, fun b hb => hv26.block b (by omega) (by omega)⟩
      · omega
      · have : leftN es.toList w6 (w.heap.size + 2) = leftN es.toList w2 (w.heap.size + 2) := by unfold leftN; rw [hitE]
        rw [this]
        exact K1.out
end
end Go.Proofs.Ytplmfmcogbdpjaa.Dk
namespace Go.Proofs.Ytplmfmcogbdpjaa.Dk
open Go Go.RowKit Go.Proofs.Ytplmfmcogbdpjaa Go.Proofs.Ytplmfmcogbdpjaa.Crw Go.Proofs.Ytplmfmcogbdpjaa.Vl Go.ChangeShapes Go.WideShapes Go.ChangeAt
set_option linter.unusedVariables false
set_option maxRecDepth 100000
section
variable {w w' w1 : World} {B d r k : Nat} {X : Nat → Prop} {a : Ab} {A A2 : Option Addr} {n c c2 : Nat} {xs : List Int} {p q : ByteArray}
theorem ta_append2 (H : Ta w B X d r k a) (hB : B ≤ w.heap.size) (hk : k ≤ 1000) (hp : p.size ≤ 1000) (hr : Reads w w.heap.size 1 A n (bsV xs)) (hA : ∀ ad, A = some ad → X ad.block) (hr2 : Reads w w.heap.size 1 A2 n (bsV xs)) (hA2 : ∀ ad, A2 = some ad → X ad.block) :
    Calls Try.prog 16 #[.pointer (some ⟨d, 0, none⟩), .string p, .slice A n c] w (TaPost w B X d r (k + 1) (abAppend p xs a) 49 #[.pointer (some ⟨r, 0, none⟩), .string p, .slice A2 n c2]) := by
  obtain ⟨V, Z, h1, h2, h3, h4, h5⟩ := H
  have hAV : ∀ ad, A = some ad → ¬ V ad.block := fun ad e hv => h5 _ (.inl hv) (hA ad e)
  have hAV2 : ∀ ad, A2 = some ad → ¬ V ad.block := fun ad e hv => h5 _ (.inl hv) (hA2 ad e)
  have hAZ2 : ∀ ad, A2 = some ad → ¬ Z ad.block := fun ad e hv => h5 _ (.inr hv) (hA2 ad e)
  exact ta_step h1 h2 h3 h5 (Nat.le_refl _) (h4.append hp) (D_Append h1 h4 hr (Nat.le_refl _) hAV) fun w1 hv hR => R_Append hR h4 hk (Nat.le_trans hB hv.size) (reads_vol hr2 (Nat.le_refl _) hv hAV2) hv.size hAZ2
theorem ta_sync (H : Ta w B X d r k a) (hk : k ≤ 1000) (hp : p.size ≤ 1000) :
    Calls Try.prog 25 #[.pointer (some ⟨d, 0, none⟩), .string p] w (TaPost w B X d r (k + 1) (abSync p a) 52 #[.pointer (some ⟨r, 0, none⟩), .string p]) := by
  obtain ⟨V, Z, h1, h2, h3, h4, h5⟩ := H
  exact ta_step h1 h2 h3 h5 (Nat.le_refl _) (h4.sync hp) (D_Sync h1 h4) fun w1 hv hR => R_Sync hR h4 hk
theorem ta_cut {n : Int} (H : Ta w B X d r k a) (hk : k ≤ 1000) (hp : p.size ≤ 1000) :
    Calls Try.prog 17 #[.pointer (some ⟨d, 0, none⟩), .string p, .int .i64 n] w (TaPost w B X d r (k + 1) (abCut p n a) 54 #[.pointer (some ⟨r, 0, none⟩), .string p, .int .i64 n]) := by
  obtain ⟨V, Z, h1, h2, h3, h4, h5⟩ := H
  exact ta_step h1 h2 h3 h5 (Nat.le_refl _) (h4.cut hp) (D_Cut h1 h4) fun w1 hv hR => R_Cut hR h4 hk
theorem ta_remove (H : Ta w B X d r k a) (hB : B ≤ w.heap.size) (hk : k ≤ 1000) :
    Calls Try.prog 20 #[.pointer (some ⟨d, 0, none⟩), .string p] w (TaPost w B X d r (k + 1) (abRemove p a) 55 #[.pointer (some ⟨r, 0, none⟩), .string p]) := by
  obtain ⟨V, Z, h1, h2, h3, h4, h5⟩ := H
  exact ta_step h1 h2 h3 h5 (Nat.le_refl _) h4.remove (D_Remove h1 h4) fun w1 hv hR => R_Remove hR h4 hk (Nat.le_trans hB hv.size)
theorem ta_rename (H : Ta w B X d r k a) (hB : B ≤ w.heap.size) (hk : k ≤ 1000) (hq : q.size ≤ 1000) :
    Calls Try.prog 19 #[.pointer (some ⟨d, 0, none⟩), .string p, .string q] w (TaPost w B X d r (k + 1) (abRename p q a) 53 #[.pointer (some ⟨r, 0, none⟩), .string p, .string q]) := by
  obtain ⟨V, Z, h1, h2, h3, h4, h5⟩ := H
  exact ta_step h1 h2 h3 h5 (Nat.le_refl _) (h4.rename hq) (D_Rename h1 h4) fun w1 hv hR => R_Rename hR h4 hk (Nat.le_trans hB hv.size)
theorem ta_list (H : Ta w B X d r k a) (hk : k ≤ 1000) :
    Calls Try.prog 22 #[.pointer (some ⟨d, 0, none⟩), .string p] w fun e w' => ∃ A c, e = .returned (.slice A (lsP p a.Y).length c) ∧ w'.ownsRow w.heap.size 9 1 (.slice A (lsP p a.Y).length c) (lsP p a.Y).length (strV (lsP p a.Y)) ∧ Below w.heap.size w w' := by
  obtain ⟨V, Z, h1, h2, h3, h4, h5⟩ := H
  exact D_List h1 h4 hk
theorem ta_rlist (H : Ta w B X d r k a) (hk : k ≤ 1000) (hp : p.size ≤ 1000) :
    Calls Try.prog 57 #[.pointer (some ⟨r, 0, none⟩), .string p] w fun e w' => ∃ A c, e = .returned (.slice A (lsP p a.Y).length c) ∧ w'.ownsRow w.heap.size 9 1 (.slice A (lsP p a.Y).length c) (lsP p a.Y).length (strV (lsP p a.Y)) ∧ Below w.heap.size w w' := by
  obtain ⟨V, Z, h1, h2, h3, h4, h5⟩ := H
  exact R_List h2 h4 hk hp
/-- A clone, all of it made behind lo. -/
def ClD (w : World) (lo c k : Nat) : Prop := ∃ V a, DkA w lo c V a ∧ Good a k
theorem ClD.below {lo : Nat} (h : ClD w lo c k) (hb : Below w.heap.size w w') : ClD w' lo c k := by
  obtain ⟨V, a, h1, h2⟩ := h
  exact ⟨V, a, h1.below hb, h2⟩
theorem ta_clone (H : Ta w B X d r k a) :
    Calls Try.prog 56 #[.pointer (some ⟨d, 0, none⟩)] w fun e w' => ∃ c, e = .returned (.pointer (some ⟨c, 0, none⟩)) ∧ ClD w' w.heap.size c k ∧ Below w.heap.size w w' := by
  obtain ⟨V, Z, ⟨mb, s, F, h1, ab⟩, h2, h3, h4, h5⟩ := H
  refine (Clone_all h1 fun x hx => ?_).mono ?_
  · obtain ⟨j, hj⟩ := List.getElem?_of_mem hx
    exact DkP.bl h4 ab hj
  · rintro e w1 ⟨c, m, V', F', rfl, hD, hp, hb⟩
    refine ⟨c, rfl, ⟨V', a, ⟨m, s, F', hD, ⟨ab.q, ab.de, ab.fu, ab.lf, ab.u, ?_⟩⟩, h4⟩, hb⟩
    refine List.Perm.trans ?_ ab.pm
    have h6 := hp.map nmS
    rw [List.map_map, List.map_map] at h6
    exact h6
theorem cl_append9 {lo : Nat} (H : ClD w lo c k) (hlo : lo ≤ w.heap.size) :
    Calls Try.prog 16 #[.pointer (some ⟨c, 0, none⟩), .string ⟨#[97]⟩, .slice (some ⟨w.heap.size, 0, none⟩) 1 1] (w.alloc (.cells #[.int .u8 9] 5)) fun e w' => (∃ u, e = .returned u) ∧ ClD w' lo c (k + 1) ∧ Below lo w w' := by
  obtain ⟨V, a, h1, h2⟩ := H
  have hb : Below w.heap.size w (w.alloc (.cells #[.int .u8 9] 5)) := (Below.refl _ _).alloc (Nat.le_refl _) _
  refine (D_Append (bs := [9]) (h1.below hb) h2 (reads_one w (.int .u8 9) 5) (Nat.le_refl _) fun ad e hv => ?_).mono ?_
  · injection e with e
    subst e
    have := h1.lt _ hv
    exact absurd this (Nat.lt_irrefl _)
  · rintro e w1 ⟨rfl, V', k1, hv, hV⟩
    exact ⟨⟨_, rfl⟩, ⟨V', _, k1, h2.append (by decide)⟩, (hb.mono hlo).trans (vol_bel hv h1.ge (Nat.le_trans hlo hb.size))⟩
theorem cl_crash {lo : Nat} (H : ClD w lo c k) (hlo : lo ≤ w.heap.size) (hk : k ≤ 1000) :
    Calls Try.prog 27 #[.pointer (some ⟨c, 0, none⟩), .int .i64 0] w fun e w' => (∃ u, e = .returned u) ∧ Below lo w w' := by
  obtain ⟨V, a, h1, h2⟩ := H
  refine (D_Crash h1 h2 hk 0 0 rfl (by omega)).mono ?_
  rintro e w1 ⟨he, k1, hv⟩
  exact ⟨he, vol_bel hv h1.ge hlo⟩
end
end Go.Proofs.Ytplmfmcogbdpjaa.Dk
