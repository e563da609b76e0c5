/- A disk's files behind a crash: lists alone. -/
import Derived.Test.YtplmfmcogbdpjaaDk6
import Derived.Test.YtplmfmcogbdpjaaSumList
import Derived.Test.YtplmfmcogbdpjaaAllSum
namespace Go.Proofs.Ytplmfmcogbdpjaa.Dk
open Go Go.RowKit Go.Proofs.Ytplmfmcogbdpjaa Go.Proofs.Ytplmfmcogbdpjaa.Crw Go.Proofs.Ytplmfmcogbdpjaa.Vl Go.ChangeShapes Go.WideShapes Go.ChangeAt
set_option linter.unusedVariables false
set_option maxRecDepth 100000
/-- A file without its place. -/
structure Sh where
  p : ByteArray
  bs : List Int
  sy : Int
  fi : Bool
abbrev Fi.sh (x : Fi) : Sh := ⟨x.p, x.bs, x.sy, x.fi⟩
abbrev Sh.ky (y : Sh) : List UInt8 := y.p.data.toList
/-- How long it is behind a crash that keeps so much. -/
def Sh.n (K : Nat) (y : Sh) : Nat := y.sy.toNat + min K (y.bs.length - y.sy.toNat)
def Sh.cr (K : Nat) (y : Sh) : Option Sh := if y.n K = 0 ∧ y.fi = false then none else some ⟨y.p, y.bs.take (y.n K), y.n K, y.fi⟩
def fK (K : Nat) (done : List (List UInt8)) (y : Sh) : Option Sh := if y.ky ∈ done then y.cr K else some y
def total (Y : List Sh) : Nat := (Y.map fun y => y.bs.length).sum
theorem fm_congr {α β : Type} {f g : α → Option β} {l : List α} (h : ∀ x ∈ l, f x = g x) : l.filterMap f = l.filterMap g := by
  induction l with
  | nil => rfl
  | cons a r ih => rw [List.filterMap_cons, List.filterMap_cons, h a (by simp), ih (fun x hx => h x (by simp [hx]))]
theorem total_app (Y Z : List Sh) : total (Y ++ Z) = total Y + total Z := by simp [total]
theorem total_cons (y : Sh) (Z : List Sh) : total (y :: Z) = y.bs.length + total Z := by simp [total]
theorem fK_nil (K : Nat) (Y : List Sh) : Y.filterMap (fK K []) = Y := by
  have : fK K [] = some := by funext y; simp [fK]
  rw [this, List.filterMap_some]
theorem fK_all (K : Nat) (l : List (List UInt8)) (Y : List Sh) (h : ∀ y ∈ Y, y.ky ∈ l) : Y.filterMap (fK K l) = Y.filterMap (Sh.cr K) := by
  refine fm_congr ?_
  intro y hy
  rw [fK, if_pos (h y hy)]
theorem fK_step (K : Nat) (Y : List Sh) (hu : (Y.map Sh.ky).Nodup) (l : List (List UInt8)) (hl : l.Perm (Y.map Sh.ky)) (k : Nat) (nm : List UInt8) (hk : l[k]? = some nm) :
    ∃ A1 y A2, y.ky = nm ∧ y ∈ Y ∧ Y.filterMap (fK K (l.take k)) = A1 ++ y :: A2 ∧ Y.filterMap (fK K (l.take (k + 1))) = A1 ++ ((y.cr K).toList ++ A2) := by
  have hln : l.Nodup := hl.nodup_iff.2 hu
  have hmem : nm ∈ Y.map Sh.ky := hl.mem_iff.1 (List.mem_of_getElem? hk)
  obtain ⟨y, hy, hyn⟩ := List.mem_map.1 hmem
  obtain ⟨Y1, Y2, rfl⟩ := List.append_of_mem hy
  rw [List.map_append, List.map_cons, List.nodup_append] at hu
  obtain ⟨-, h2, h3⟩ := hu
  rw [List.nodup_cons] at h2
  have ne1 : ∀ z ∈ Y1, z.ky ≠ nm := fun z hz e => h3 z.ky (List.mem_map.2 ⟨z, hz, rfl⟩) y.ky (by simp) (e.trans hyn.symm)
  have ne2 : ∀ z ∈ Y2, z.ky ≠ nm := fun z hz e => h2.1 (by rw [hyn, ← e]; exact List.mem_map.2 ⟨z, hz, rfl⟩)
  have htk : l.take (k + 1) = l.take k ++ [nm] := by rw [List.take_add_one, hk]; rfl
  have hno : nm ∉ l.take k := by
    intro h
    obtain ⟨i, hi⟩ := List.getElem?_of_mem h
    have hik : i < k := by
      have h0 := (List.getElem?_eq_some_iff.1 hi).1
      rw [List.length_take] at h0
      omega
    rw [List.getElem?_take_of_lt hik] at hi
    have := (List.getElem?_inj (List.getElem?_eq_some_iff.1 hi).1 hln).1 (hi.trans hk.symm)
    omega
  have same : ∀ z : Sh, z.ky ≠ nm → fK K (l.take (k + 1)) z = fK K (l.take k) z := by
    intro z hz
    unfold fK
    have : (z.ky ∈ l.take (k + 1)) ↔ (z.ky ∈ l.take k) := by
      rw [htk, List.mem_append, List.mem_singleton]
      exact ⟨fun h => h.elim id (fun e => absurd e hz), .inl⟩
    by_cases h : z.ky ∈ l.take k
    · rw [if_pos h, if_pos (this.2 h)]
    · rw [if_neg h, if_neg (fun e => h (this.1 e))]
  refine ⟨Y1.filterMap (fK K (l.take k)), y, Y2.filterMap (fK K (l.take k)), hyn, by simp, ?_, ?_⟩
  · rw [List.filterMap_append, List.filterMap_cons]
    have : fK K (l.take k) y = some y := by rw [fK, if_neg (by rw [hyn]; exact hno)]
    rw [this]
  · rw [List.filterMap_append, List.filterMap_cons]
    have e1 : Y1.filterMap (fK K (l.take (k + 1))) = Y1.filterMap (fK K (l.take k)) := fm_congr (fun z hz => same z (ne1 z hz))
    have e2 : Y2.filterMap (fK K (l.take (k + 1))) = Y2.filterMap (fK K (l.take k)) := fm_congr (fun z hz => same z (ne2 z hz))
    have e3 : fK K (l.take (k + 1)) y = y.cr K := by rw [fK, if_pos (by rw [htk, hyn]; simp)]
    rw [e1, e2, e3]
    cases y.cr K <;> rfl
theorem map_split {F : List Fi} {A1 A2 : List Sh} {y : Sh} (h : F.map Fi.sh = A1 ++ y :: A2) : ∃ G1 x G2, F = G1 ++ x :: G2 ∧ G1.map Fi.sh = A1 ∧ x.sh = y ∧ G2.map Fi.sh = A2 := by
  obtain ⟨G1, R, e, h1, h2⟩ := List.map_eq_append_iff.1 h
  obtain ⟨x, G2, e2, h3, h4⟩ := List.map_eq_cons_iff.1 h2
  exact ⟨G1, x, G2, by rw [e, e2], h1, h3, h4⟩
section
variable {w w' : World} {B d mb : Nat} {U V : Nat → Prop} {s s' : Ds} {F : List Fi} {p : ByteArray}
theorem DkP.nodup (H : DkP w B d mb V s F) : ((F.map Fi.sh).map Sh.ky).Nodup := by
  rw [List.nodup_iff_pairwise_ne, List.pairwise_iff_getElem]
  intro i j hi hj hij e
  simp only [List.length_map] at hi hj
  simp only [List.getElem_map] at e
  have := H.uniq i j F[i] F[j] (List.getElem?_eq_getElem hi) (List.getElem?_eq_getElem hj) (by unfold hitP; simpa using e.symm)
  omega
/-- The names, rising. -/
theorem List_all (H : DkP w B d mb V s F) (hF : F.length ≤ 1048576) :
    ∃ l : List (List UInt8), l.Perm ((F.map Fi.sh).map Sh.ky) ∧ Calls Try.prog 22 #[.pointer (some ⟨d, 0, none⟩), .string ⟨#[]⟩] w fun r w' => ∃ v, r = .returned v ∧ Below w.heap.size w w' ∧ w'.ownsRow (w.heap.size + 1) 9 1 v l.length (l.map encStr) := by
  obtain ⟨es, ck, hm, hkv, hbo, hnd⟩ := H.mpB
  have hc2 : w.cell? ⟨d, 0 + 2, none⟩ = some (.map (some mb)) := H.blk.cell 2
  have hkey : es.toList.map keyB = (F.map Fi.sh).map Sh.ky := by
    have h1 := congrArg (fun l => l.map (fun q : Value × Value => match q.1 with | .string s => s.data.toList | _ => [])) hkv
    simp only [List.map_map] at h1
    rw [List.map_map]
    refine Eq.trans ?_ (h1.trans ?_)
    · apply List.map_congr_left
      intro e he
      simp only [Function.comp]
      cases hh : e.key <;> simp [keyB, hh]
    · rfl
  have hall : keysOf es.toList [] = es.toList.map keyB := by
    unfold keysOf
    congr 1
    apply List.filter_eq_self.2
    intro e he
    rfl
  have hsz : es.size ≤ 1048576 := by
    have h1 := congrArg List.length hkv
    simp at h1
    omega
  have hks : ∀ e ∈ es.toList, ∃ s, e.key = .string s := by
    intro e he
    have h1 : (e.key, e.val) ∈ F.map fiE := by rw [← hkv]; exact List.mem_map.2 ⟨e, he, rfl⟩
    obtain ⟨x, _, hx⟩ := List.mem_map.1 h1
    injection hx with hx1 hx2
    exact ⟨x.p, hx1.symm⟩
  refine ⟨(keysOf es.toList []).mergeSort fun x y => decide (x ≤ y), ?_, ?_⟩
  · rw [← hkey, ← hall]
    exact List.mergeSort_perm _ _
  · have h := List_any sort_str sort_nil_any d 0 mb ck es ⟨#[]⟩ w hc2 hm hbo hnd hks hsz
    refine h.mono ?_
    rintro r w1 ⟨v, rfl, hb, ho, -⟩
    refine ⟨v, rfl, hb, ?_⟩
    rw [List.length_mergeSort]
    exact ho
end
end Go.Proofs.Ytplmfmcogbdpjaa.Dk
