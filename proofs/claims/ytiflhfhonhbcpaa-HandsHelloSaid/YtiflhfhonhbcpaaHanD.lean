/- slices.Delete of one process. -/
import Derived.Test.YtiflhfhonhbcpaaHan4
import Derived.Shelf.RegionOpenPlain
import Derived.WalkKit
import Derived.Deep.LoopGhost
import Derived.Deep.RegionLaw
import Derived.Lib.Walk
import Derived.Sort.WalkB12
import Derived.Lib.SliceRun
import Derived.Lib.SlicesDelete
import Derived.Lib.OwnBridge
namespace Go.Proofs.Ytiflhfhonhbcpaa.Han
open Go.Proofs.Ytiflhfhonhbcpaa Go.Proofs.Ytiflhfhonhbcpaa.Crw Go.Proofs.Ytiflhfhonhbcpaa.Mas Go.ChangeShapes Go.WideShapes Go.ChangeAt Go.RowKit Go.Lib Go.Sort
set_option linter.unusedVariables false
set_option maxRecDepth 1000000
abbrev encP : Option Addr → Value := Value.pointer
set_option maxHeartbeats 4000000 in
theorem Delete_arr (blk off cap i : Nat) (d : Array (Option Addr)) (w : World) (hH : Holds encP w blk off d) (hcap : d.size ≤ cap) (hm : cap ≤ 9223372036854775807) (hj : i + 1 ≤ d.size) :
    Calls Try.prog 68 #[.slice (some ⟨blk, off, none⟩) d.size cap, .int .i64 i, .int .i64 ((i : Int) + 1)] w fun e w' => e = .returned (.slice (some ⟨blk, off, none⟩) (d.size - 1) cap) ∧ ∃ q, w' = putRow encP (Sort.ahead w q) blk off (d.toList.take i ++ d.toList.drop (i + 1) ++ List.replicate 1 none).toArray := by
  have mixed : Try.prog.follows .mixedOrders = true := by kernel_rfl
  obtain ⟨i0, hi0, hz0, hz1, hz2⟩ := info_parts prp_info
  have t22 := Try.underlying86
  have v23 : ∀ w, (zeroValue 94).run Try.prog w = .ok (.pointer none) w := fun w => rfl
  obtain ⟨j, hjd⟩ : ∃ j, j = i + 1 := ⟨_, rfl⟩
  rw [← hjd] at hj ⊢
  rw [show (i : Int) + 1 = (j : Int) by omega]
  have hlt : i < j := by omega
  obtain ⟨news, hnews⟩ : ∃ news, news = (d.toList.drop j).map encP := ⟨_, rfl⟩
  have hlen : news.length = d.size - j := by rw [hnews]; simp
  have hget : ∀ t, t < d.size - j → news[t]? = some (encP d[j + t]!) := by
    intro t ht
    rw [hnews, List.getElem?_map, List.getElem?_drop, Array.getElem?_toList, getElem!_pos d (j + t) (by omega), Array.getElem?_eq_getElem (by omega)]
    rfl
  obtain ⟨A, hA, hsrc⟩ : ∃ A : Addr, (if cap = j then some (⟨blk, off, none⟩ : Addr) else some ⟨blk, off + j, none⟩) = some A ∧ Hid (∀ t u, news[t]? = some u → w.drew.cell? (A.add t) = some u) := by
    by_cases h : cap = j
    · refine ⟨⟨blk, off, none⟩, by simp [h], Lib.hid fun t u hu => ?_⟩
      have h0 : news.length = 0 := by rw [hlen]; omega
      rw [List.length_eq_zero_iff.1 h0] at hu
      simp at hu
    · refine ⟨⟨blk, off + j, none⟩, by simp [h], Lib.hid fun t u hu => ?_⟩
      have ht : t < d.size - j := by
        have := (List.getElem?_eq_some_iff.1 hu).1
        rwa [hlen] at this
      rw [hget t ht] at hu
      rw [Addr.add_lit, show off + j + t = off + (j + t) by omega]
      exact (hH (j + t) (by omega)).1.trans hu
  have s1 : Hid (news.length = (d.size - j) * 1) := Lib.hid (by rw [Nat.mul_one]; exact hlen)
  have s2 : Hid (∀ u ∈ news, u.oneCell' = true) := Lib.hid (by
    intro u hu
    rw [hnews] at hu
    obtain ⟨x, _, rfl⟩ := List.mem_map.1 hu
    rfl)
  have s3 : Hid (∀ t, t < news.length → (w.drew.cell? ⟨blk, off + i * 1 + t, none⟩).isSome = true ∧ w.drew.frozen? ⟨blk, off + i * 1 + t, none⟩ = false) := Lib.hid (by
    intro t ht
    rw [hlen] at ht
    rw [Nat.mul_one, Nat.add_assoc]
    exact ⟨by show (w.cell? _).isSome = true; rw [(hH (i + t) (by omega)).1]; rfl, (hH (i + t) (by omega)).2⟩)
  obtain ⟨W1, hW1⟩ : ∃ W1, W1 = w.drew.setCells blk (off + i * 1) news := ⟨_, rfl⟩
  have hW1' : W1 = putRow encP (Sort.ahead w 1) blk off (lay d i (d.toList.drop j)) := by
    rw [hW1, hnews, Nat.mul_one, ← putRow_setCells encP (Sort.ahead w 1) blk off _ d i (by simp; omega), putRow_self encP (Sort.ahead w 1) blk off d (holds_ahead encP w 1 blk off d hH)]
    rfl
  have hH1 : Holds encP W1 blk off (lay d i (d.toList.drop j)) := by rw [hW1']; exact holds_putRow encP _ blk off d _ (holds_ahead encP w 1 blk off d hH) (lay_size _ _ _)
  have hcl : ∀ ty, (Builtin.clear_ #[86] ty #[.slice (some ⟨blk, off + (i + (d.size - j)), none⟩) (d.size - (i + (d.size - j))) (cap - (i + (d.size - j)))]).run Try.prog W1 = .ok (.tuple #[]) (W1.setCells blk (off + (i + (d.size - j))) (List.replicate (d.size - (i + (d.size - j))) (encP none))) :=
    fun ty => Lib.run_clear_slice W1 _ _ ty _ t22 v23 rfl rfl blk (off + (i + (d.size - j))) _ _ (by omega) (fun t ht => by rw [show off + (i + (d.size - j)) + t = off + (i + (d.size - j) + t) by omega, (hH1 _ (by rw [lay_size]; omega)).1]; rfl) (fun t ht => by rw [show off + (i + (d.size - j)) + t = off + (i + (d.size - j) + t) by omega]; exact (hH1 _ (by rw [lay_size]; omega)).2)
  have X : Hid (W1 = putRow encP (Sort.ahead w 1) blk off (lay d i (d.toList.drop j))) := Lib.hid hW1'
  have hW : Hid (W1 = w.drew.setCells blk (off + i * 1) news) := Lib.hid hW1
  have hic : i ≤ cap := by omega
  have hjc : j ≤ cap := by omega
  have HD := Lib.hid hjd
  clear hW1 hW1' hH1 hH hget hnews hlen hjd
  go_enter Try.func68, Try.ntmps68
  go_wp2_with fail
  go_region_law_o (refine step_append_room rfl (.tmp 22) (.tmp 25) 86 rfl 94 i0 1 t22 hi0 hz1 blk off i cap (by simp [Act.eval, Act.put]) A (d.size - j) (cap - j) news (by simp [Act.eval, Act.put]) s1.out hsrc.out s2.out (by omega) s3.out ?_; rw [← hW.out])
  go_wp2
  go_ret
  have hjd := HD.out
  refine ⟨by rw [show d.size - 1 = i + (d.size - j) by omega]; rfl, 1, ?_⟩
  have hda := delete_arr d i j none (by omega) hj
  rw [show j - i = 1 by omega] at hda
  rw [← hda, ← putRow_setCells encP _ blk off _ _ (i + (d.size - j)) (by rw [lay_size]; simp; omega), ← X.out, List.map_replicate, show d.size - (i + (d.size - j)) = 1 by omega]
theorem grown_put {w : World} {g n : Nat} (d : Array (Option Addr)) : w.grownBy (putRow encP (Sort.ahead w n) g 0 d) (some g) := by
  refine ⟨rfl, rfl, rfl, by simp [putRow, mapBlock, Sort.ahead], fun k hk hne => ?_⟩
  have : g ≠ k := fun e => hne (by rw [e])
  simp [putRow, mapBlock, Sort.ahead, Array.getElem?_modify, this]
abbrev adr (R : List Pr) : List (Option Addr) := R.map fun (r : Pr) => some (⟨r.g, 0, none⟩ : Addr)
theorem adr_ptrs (R : List Pr) : (adr R).map encP = (R.map ptr) := by simp [adr]
/-- One pointer less in an own row. -/
theorem Delete_p {B u c k : Nat} {R : List Pr} (w : World) (h : w.ownsRow B 94 1 (.slice (some ⟨u, 0, none⟩) R.length c) R.length ((R.map ptr))) (hk : k < R.length) :
    Calls Try.prog 68 #[.slice (some ⟨u, 0, none⟩) R.length c, .int .i64 k, .int .i64 ((k : Int) + 1)] w fun e w' => e = .returned (.slice (some ⟨u, 0, none⟩) (R.length - 1) c) ∧ w'.ownsRow B 94 1 (.slice (some ⟨u, 0, none⟩) (R.length - 1) c) (R.length - 1) (((R.eraseIdx k).map ptr)) ∧ w.grownBy w' (some u) := by
  have h' := h
  rw [← adr_ptrs] at h'
  obtain ⟨g, cap, e1, hb, hg, hn, hm, hl, hH⟩ := Lib.holds_of_ownsRow h' (by intro e; injection e with e _ _; cases e)
  injection e1 with e1 _ e3
  injection e1 with e1
  injection e1 with e1
  subst e1
  subst e3
  have hd := Delete_arr u 0 c k (adr R).toArray w hH (by simpa using hn) (by unfold maxLen at hm; omega) (by simp; omega)
  rw [show (adr R).toArray.size = R.length by simp] at hd
  refine hd.mono ?_
  rintro e w' ⟨rfl, q, rfl⟩
  refine ⟨rfl, ?_, grown_put _⟩
  have h2 := Lib.ownsRow_putRow (q := q) (k := R.length - 1) (ys := (adr R).take k ++ (adr R).drop (k + 1) ++ List.replicate 1 none) h' (by simp; omega) (by omega)
  have e : (((adr R).take k ++ (adr R).drop (k + 1) ++ List.replicate 1 none).take (R.length - 1)).map encP = ((R.eraseIdx k).map ptr) := by
    rw [List.take_left' (by simp; omega), List.eraseIdx_eq_take_drop_succ, ← List.map_take, ← List.map_drop, ← List.map_append, adr_ptrs]
  rw [e] at h2
  exact h2
end Go.Proofs.Ytiflhfhonhbcpaa.Han
