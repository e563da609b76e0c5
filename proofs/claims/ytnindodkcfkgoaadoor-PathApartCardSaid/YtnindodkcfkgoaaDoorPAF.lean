/- The walk of PathApart: the Go text returns true, and writes nothing that was there. -/
import Derived.Test.YtnindodkcfkgoaaDoorPath3
namespace Go.Proofs.YtnindodkcfkgoaaDoor.pathApart
open Go.ChangeShapes Go.WideShapes Go.ChangeAt Go.RowKit
set_option linter.unusedVariables false
def nml : List ByteArray := [⟨#[97]⟩, ⟨#[98]⟩, ⟨#[97, 98]⟩, ⟨#[97, 49]⟩, ⟨#[103, 111, 110, 101]⟩, ⟨#[98, 111, 120]⟩, ⟨#[48, 49]⟩, ⟨#[108, 111, 103]⟩]
def nmA (p : Nat) : ByteArray := nml.getD p ⟨#[]⟩
def strs (p q n : Nat) : List ByteArray := [⟨#[101, 112, 111, 99, 104]⟩, admS (1 + (n : Int)), logS (nmA p) (nmA q), runS ⟨#[103, 111, 110, 101, 47]⟩ (nmA p) (nmA q) (1 + (n : Int)), runS ⟨#[98, 111, 120, 47]⟩ (nmA p) (nmA q) (1 + (n : Int))]
def okS (l : List ByteArray) : Bool := (List.range 5).all fun k => match l[k]? with
  | some s => !s.data.toList.isEmpty && !isT s && decide (s.size ≤ 100) && (List.range k).all fun j => match l[j]? with
    | some s' => !(s'.data.toList == s.data.toList)
    | none => false
  | none => false
set_option maxRecDepth 1000000 in
theorem all_ok : ((List.range 8).all fun p => (List.range 8).all fun q => (List.range 24).all fun n => okS (strs p q n)) = true := by decide +kernel
/-- What two names make, and a slash between them. -/
def core (p q : Nat) : List UInt8 := (nmA p).data.toList ++ 47 :: (nmA q).data.toList
set_option maxRecDepth 1000000 in
theorem core_ok : ((List.range 8).all fun p => (List.range 8).all fun q => (List.range 8).all fun r => (List.range 8).all fun t => (core r t == core p q) == ((nmA p).data.toList == (nmA r).data.toList && (nmA q).data.toList == (nmA t).data.toList)) = true := by decide +kernel
theorem nm_ok : ((List.range 8).all fun p => nm (nmA p)) = true := by decide +kernel
theorem tw_ok : ((List.range 24).all fun n => (List.range 24).all fun m => ((twS (1 + m)).data.toList == (twS (1 + n)).data.toList) == (n == m)) = true := by decide +kernel
theorem lt_ok : ((List.range 24).all fun n => (List.range 24).all fun m => Op.bytesLess (admS (1 + (n : Int))).data.toList (admS (1 + (m : Int))).data.toList == decide (n < m)) = true := by decide +kernel
theorem adm_ok : ((List.range 24).all fun n => (List.range 24).all fun m => ((admS (1 + (m : Int))).data.toList == (admS (1 + (n : Int))).data.toList) == (n == m)) = true := by decide +kernel
theorem str_ok {p q n : Nat} (hp : p < 8) (hq : q < 8) (hn : n < 24) : okS (strs p q n) = true := by
  have h := all_ok
  simp only [List.all_eq_true, List.mem_range] at h
  exact h p hp q hq n hn
theorem nm_yes {p : Nat} (hp : p < 8) : nm (nmA p) = true := by
  have h := nm_ok
  simp only [List.all_eq_true, List.mem_range] at h
  exact h p hp
theorem core_eq {p q r t : Nat} (hp : p < 8) (hq : q < 8) (hr : r < 8) (ht : t < 8) : (core r t == core p q) = ((nmA p).toList == (nmA r).toList && (nmA q).toList == (nmA t).toList) := by
  have h := core_ok
  simp only [List.all_eq_true, List.mem_range] at h
  have h1 := h p hp q hq r hr t ht
  rw [ByteArray.toList_eq, ByteArray.toList_eq, ByteArray.toList_eq, ByteArray.toList_eq]
  exact beq_iff_eq.1 h1
theorem log_list {p q : Nat} (hp : p < 8) (hq : q < 8) : (logS (nmA p) (nmA q)).data.toList = [108, 111, 103, 47] ++ core p q := by
  unfold logS core
  rw [nm_yes hp, nm_yes hq]
  simp only [Bool.and_self, if_true, ByteArray.data_append, Array.toList_append, List.append_assoc]
  rfl
theorem run_list (hd : ByteArray) {p q n : Nat} (hp : p < 8) (hq : q < 8) (hn : n < 24) : (runS hd (nmA p) (nmA q) (1 + (n : Int))).data.toList = hd.data.toList ++ (core p q ++ (47 :: (twS (1 + n)).data.toList)) := by
  have hi : inR (1 + (n : Int)) = true := by unfold inR; simp; omega
  have ht : (1 + (n : Int)).toNat = 1 + n := by omega
  unfold runS core
  rw [nm_yes hp, nm_yes hq, hi, ht]
  simp only [Bool.and_self, if_true, ByteArray.data_append, Array.toList_append, List.append_assoc, List.cons_append]
  rfl
theorem log_eq {p q r t : Nat} (hp : p < 8) (hq : q < 8) (hr : r < 8) (ht : t < 8) : ((logS (nmA r) (nmA t)).toList == (logS (nmA p) (nmA q)).toList) = ((nmA p).toList == (nmA r).toList && (nmA q).toList == (nmA t).toList) := by
  rw [← core_eq hp hq hr ht, ByteArray.toList_eq, ByteArray.toList_eq, log_list hr ht, log_list hp hq, Bool.eq_iff_iff]
  simp only [beq_iff_eq, List.append_cancel_left_eq]
theorem run_eq (hd : ByteArray) {p q r t n m : Nat} (hp : p < 8) (hq : q < 8) (hr : r < 8) (ht : t < 8) (hn : n < 24) (hm : m < 24) : ((runS hd (nmA r) (nmA t) (1 + (m : Int))).toList == (runS hd (nmA p) (nmA q) (1 + (n : Int))).toList) = (((nmA p).toList == (nmA r).toList && (nmA q).toList == (nmA t).toList) && (n == m)) := by
  have h := tw_ok
  simp only [List.all_eq_true, List.mem_range] at h
  have h1 := beq_iff_eq.1 (h n hn m hm)
  rw [← core_eq hp hq hr ht, ← h1, ByteArray.toList_eq, ByteArray.toList_eq, run_list hd hr ht hm, run_list hd hp hq hn, Bool.eq_iff_iff]
  simp only [beq_iff_eq, List.append_cancel_left_eq, Bool.and_eq_true]
  constructor
  · intro e
    have e2 := List.append_inj' e (by rfl)
    exact ⟨e2.1, by injection e2.2⟩
  · rintro ⟨e1, e2⟩
    rw [e1, e2]
theorem adm_eq {n m : Nat} (hn : n < 24) (hm : m < 24) : ((admS (1 + (m : Int))).toList == (admS (1 + (n : Int))).toList) = (n == m) := by
  have h := adm_ok
  simp only [List.all_eq_true, List.mem_range] at h
  rw [ByteArray.toList_eq, ByteArray.toList_eq]
  exact beq_iff_eq.1 (h n hn m hm)
theorem adm_lt {n m : Nat} (hn : n < 24) (hm : m < 24) : Op.bytesLess (admS (1 + (n : Int))).toList (admS (1 + (m : Int))).toList = decide (n < m) := by
  have h := lt_ok
  simp only [List.all_eq_true, List.mem_range] at h
  rw [ByteArray.toList_eq, ByteArray.toList_eq]
  exact beq_iff_eq.1 (h n hn m hm)
theorem good {l : List ByteArray} (h : okS l = true) {w : World} {b : Nat} (hc : ∀ k s, l[k]? = some s → w.cell? ⟨b, k, none⟩ = some (.string s)) : ∀ k, k < 5 → ∃ s, w.cell? ⟨b, k, none⟩ = some (.string s) ∧ s.toList.isEmpty = false ∧ isT s = false ∧ s.size ≤ 100 ∧ ∀ j, j < k → ∃ s', w.cell? ⟨b, j, none⟩ = some (.string s') ∧ (s'.toList == s.toList) = false := by
  intro k hk
  unfold okS at h
  simp only [List.all_eq_true, List.mem_range] at h
  have h1 := h k hk
  split at h1
  · rename_i s hs
    simp only [Bool.and_eq_true, Bool.not_eq_true', decide_eq_true_eq, List.all_eq_true, List.mem_range] at h1
    obtain ⟨⟨⟨e1, e2⟩, e3⟩, e4⟩ := h1
    refine ⟨s, hc k s hs, by rw [ByteArray.toList_eq]; exact e1, e2, e3, fun j hj => ?_⟩
    have h2 := e4 j hj
    split at h2
    · rename_i s' hs'
      refine ⟨s', hc j s' hs', ?_⟩
      rw [ByteArray.toList_eq, ByteArray.toList_eq]
      simpa using h2
    · cases h2
  · cases h1
theorem cells_new (w : World) (t : TypeId) (l : List ByteArray) (k : Nat) (s : ByteArray) (h : l[k]? = some s) : (w.alloc (.cells (l.map Value.string).toArray t)).cell? ⟨w.heap.size, k, none⟩ = some (.string s) := by
  have hk : k < (l.map Value.string).length := by have := (List.getElem?_eq_some_iff.1 h).1; simpa using this
  have e0 : ((⟨w.heap.size, 0, none⟩ : Addr).add k) = ⟨w.heap.size, k, none⟩ := by rw [add_at, Nat.zero_add]
  obtain ⟨ad, u, h1, _, h2, h3⟩ := (reads_new w (l.map Value.string) t).at_ (k := k) hk
  injection h1 with h1
  subst h1
  rw [← e0, h3]
  rw [List.getElem?_map, h] at h2
  exact h2.symm ▸ rfl

end Go.Proofs.YtnindodkcfkgoaaDoor.pathApart
