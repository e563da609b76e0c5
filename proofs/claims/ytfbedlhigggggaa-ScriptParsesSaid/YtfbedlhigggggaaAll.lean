/- The contract of name.All: names all right, no two alike. -/
import Derived.Test.YtfbedlhigggggaaName
import Derived.Maps.OwnSet
namespace Go.Proofs.Ytfbedlhigggggaa
open Go.ChangeShapes Go.WideShapes Go.ChangeAt Go.RowKit Go.Maps

/-- The i-th name is right, and none ahead of it is the same. -/
def okAt (xs : List ByteArray) (i : Nat) : Bool := rightB (xs.getD i ByteArray.empty).data.toList && !((xs.take i).any fun s => decide (s.data.toList = (xs.getD i ByteArray.empty).data.toList))
def allB (xs : List ByteArray) : Bool := (List.range xs.length).all (okAt xs)
theorem allB_no {xs : List ByteArray} {k : Nat} (hk : k < xs.length) (h : okAt xs k = false) : allB xs = false := by
  unfold allB
  rw [List.all_eq_false]
  exact ⟨k, List.mem_range.2 hk, by simp [h]⟩
theorem allB_yes {xs : List ByteArray} (h : ∀ i, i < xs.length → okAt xs i = true) : allB xs = true := by
  unfold allB
  rw [List.all_eq_true]
  exact fun i hi => h i (List.mem_range.1 hi)

def nkeys (xs : List ByteArray) (k : Nat) : List Lit := (xs.take k).map fun s => .string s.data.toList
def nset {H : Type} (xs : List ByteArray) (k : Nat) : DataW H := setOf (.agg []) (nkeys xs k)
theorem nset_zero {H : Type} (xs : List ByteArray) : nset (H := H) xs 0 = .map [] := by simp [nset, nkeys, setOf]
theorem nset_succ {H : Type} (xs : List ByteArray) (k : Nat) (s : ByteArray) (hk : xs[k]? = some s) : nset (H := H) xs (k + 1) = (nset xs k).put (.string s.data.toList) (.agg []) := by
  unfold nset
  rw [show nkeys xs (k + 1) = nkeys xs k ++ [.string s.data.toList] from by unfold nkeys; rw [List.take_add_one, List.map_append, hk]; rfl, setOf_snoc]
theorem nset_has {H : Type} (xs : List ByteArray) (k : Nat) (s : ByteArray) : Maps.has (nset (H := H) xs k) (.string s.data.toList) = (xs.take k).any fun t => decide (t.data.toList = s.data.toList) := by
  unfold nset
  rw [has_setOf _ _ _ (fun y hy => by obtain ⟨_, _, rfl⟩ := List.mem_map.1 hy; trivial)]
  unfold nkeys
  rw [List.any_map]
  congr 1
  funext t
  rw [Bool.eq_iff_iff]
  simp [Lit.sameKey]
theorem law_str : Keyed Try.prog 9 := string_keyed Try.underlying9
theorem zero_unit (w : World) : (zeroValue 102).run Try.prog w = .ok (.agg #[]) w := by kernel_rfl

set_option maxRecDepth 100000 in
set_option maxHeartbeats 1000000 in
theorem All_any (A : Option Addr) (n c : Nat) (xs : List ByteArray) (w : World) (hr : Reads w w.heap.size 1 A n (xs.map Value.string)) (hn : n ≤ 9223372036854775807) (hsz : ∀ s ∈ xs, s.size ≤ maxLen) :
    Calls Try.prog 62 #[.slice A n c] w fun e w' => e = .returned (.bool (allB xs)) ∧ Below w.heap.size w w' := by
  have hlen : xs.length = n := by have := hr.1; simpa using this
  have hmm := @run_makeMap Try.prog
  have HL := Lib.hid hlen
  clear hlen
  go_enter Try.func62, Try.ntmps62
  go_wp2
  go_loopw [11] (fun i wr => ∃ k : Nat, k ≤ n ∧ i = .int .i64 k ∧ wr.ownsMap Try.prog 9 (unitElem (H := Unit)) w.heap.size k (nset (H := Unit) xs k) ∧ Below w.heap.size w wr ∧ Hid (∀ i, i < k → okAt xs i = true))
    (fun i _ => n - (intOf i).toNat)
  case atStart => exact ⟨0, Nat.zero_le _, rfl, by rw [nset_zero]; exact World.ownsMap_made _ _ _ _, (Below.refl _ _).alloc (Nat.le_refl _) _, fun i hi => absurd hi (by omega)⟩
  case round =>
    obtain ⟨k, hk, rfl, hown, hbel, Hall⟩ := hrel
    by_cases hlt : k < n
    · obtain ⟨ad, u, rfl, _, hx, hc⟩ := (hr.below hbel).at_ hlt
      obtain ⟨s, hx1, rfl⟩ : ∃ s, xs[k]? = some s ∧ u = .string s := by
        simp only [List.getElem?_map, Option.map_eq_some_iff] at hx
        obtain ⟨x, h1, h2⟩ := hx
        exact ⟨x, h1, h2.symm⟩
      have hss := hsz s (List.mem_of_getElem? hx1)
      have hkey : keyOf Try.prog 9 (.string s) = some (.string s.data.toList) := WideMaps.keyOf_string_mk Try.underlying9 hss
      have hok : okAt xs k = (rightB s.data.toList && !(Maps.has (nset (H := Unit) xs k) (.string s.data.toList))) := by
        rw [nset_has]; unfold okAt; rw [List.getD, hx1]; rfl
      have Hok := Lib.hid hok
      have Hset := Lib.hid (nset_succ (H := Unit) xs k s hx1)
      clear hok hx1 hx
      have hbs := hbel.size
      by_cases hh : Maps.has (nset (H := Unit) xs k) (.string s.data.toList) = true
      · have Hno : Hid (allB xs = false) := allB_no (by rw [HL.out]; exact hlt) (by rw [Hok.out, hh]; simp)
        go_wp2_with (first | (at_lookup; refine wpList_lookup_own_unit _ rfl _ _ 101 rfl 9 102 law_str Try.underlying101 (zero_unit _) w.heap.size k _ rfl hown _ _ rfl hkey ?_))
        go_ret
        exact ⟨ret_bool Hno.out.symm, by repeat (first | assumption | refine Below.alloc ?_ (by first | omega | (simp; omega)) _ | refine Below.setCell ?_ (by simp; omega) _)⟩
      · have hh' : Maps.has (nset (H := Unit) xs k) (.string s.data.toList) = false := by simpa using hh
        clear hh
        by_cases hp : rightB s.data.toList = true
        · have Hyes : Hid (okAt xs k = true) := by show _ = _; rw [Hok.out, hh', hp]; rfl
          go_wp2_with (first | (at_lookup; refine wpList_lookup_own_unit _ rfl _ _ 101 rfl 9 102 law_str Try.underlying101 (zero_unit _) w.heap.size k _ rfl hown _ _ rfl hkey ?_) | (go_at_call 55; refine (Right_any _ _ hss).mono ?_; rintro e w' ⟨rfl, rfl⟩) | (at_mapUpdate; refine wpList_mapUpdate_own _ rfl _ _ _ 101 rfl 9 102 law_str Try.underlying101 (unitElem (H := Unit)) w.heap.size k _ rfl (hown.alloc _) (by unfold maxLen; omega) _ _ _ rfl rfl hkey _ [] unitElem_mk ?_; intro w1 hown1 hgrow1))
          have hbel1 : Below w.heap.size w w1 := (hbel.alloc hbs _).grown hgrow1 (by simp; omega) (fun j hj => by cases hj; exact Nat.le_refl _)
          go_roundw
          case rel => exact ⟨k + 1, by omega, by go_num, by rw [Hset.out]; exact hown1, hbel1, fun i hi => by rcases Nat.lt_succ_iff_lt_or_eq.1 hi with h | h; exact Hall.out i h; subst h; exact Hyes.out⟩
          case measure => simp [intOf]; omega
        · have hp' : rightB s.data.toList = false := by simpa using hp
          have Hno : Hid (allB xs = false) := allB_no (by rw [HL.out]; exact hlt) (by rw [Hok.out, hp']; rfl)
          clear hp
          go_wp2_with (first | (at_lookup; refine wpList_lookup_own_unit _ rfl _ _ 101 rfl 9 102 law_str Try.underlying101 (zero_unit _) w.heap.size k _ rfl hown _ _ rfl hkey ?_) | (go_at_call 55; refine (Right_any _ _ hss).mono ?_; rintro e w' ⟨rfl, rfl⟩))
          go_ret
          exact ⟨ret_bool Hno.out.symm, by repeat (first | assumption | refine Below.alloc ?_ (by first | omega | (simp; omega)) _ | refine Below.setCell ?_ (by simp; omega) _)⟩
    · have Hyes : Hid (allB xs = true) := allB_yes (fun i hi => Hall.out i (by rw [HL.out] at hi; omega))
      go_wp2
      go_ret
      exact ⟨ret_bool Hyes.out.symm, hbel⟩
end Go.Proofs.Ytfbedlhigggggaa
