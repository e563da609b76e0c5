/- The contract of (*disk.Disk).List: the names that begin so, rising, in a row of the call's own. -/
import Derived.Test.YtolignkahfekbaaGreatDoorPrefix
import Derived.Shelf.Sort.Plain
import Derived.Sort.OwnSorted
import Derived.Sort.KeysCollected
namespace Go.Proofs.YtolignkahfekbaaGreatDoor
open Go.ChangeShapes Go.WideShapes Go.ChangeAt Go.RowKit
theorem str_info : (Tryz.prog.info? 9).map (fun i => (i.zero, i.size, i.bytes)) = some (some (.string ⟨#[]⟩), 1, 16) := by kernel_rfl
def keyB (e : MapEntry) : List UInt8 :=
  match e.key with
  | .string s => s.data.toList
  | _ => []
def keysOf (es : List MapEntry) (pre : List UInt8) : List (List UInt8) := (es.filter fun e => startsB pre (keyB e)).map keyB
def Coll (es : List MapEntry) (pre : List UInt8) (seen : Array Nat) (ss : List (List UInt8)) : Prop :=
  ∃ vis : List MapEntry, seen.toList = vis.map (·.born) ∧ (vis.map (·.born)).Nodup ∧ (∀ e ∈ vis, e ∈ es) ∧ ss = keysOf vis pre
def leftN (es : List MapEntry) (w : World) (ri : Nat) : Nat :=
  match w.heap[ri]? with
  | some (.mapIter _ _ seen _) => (es.filter fun e => !seen.contains e.born).length
  | _ => 0
theorem keysOf_snoc (es : List MapEntry) (e : MapEntry) (pre : List UInt8) : keysOf (es ++ [e]) pre = keysOf es pre ++ (if startsB pre (keyB e) then [keyB e] else []) := by
  unfold keysOf
  rw [List.filter_append, List.map_append]
  by_cases h : startsB pre (keyB e) = true <;> simp [h]
theorem keysOf_len (es : List MapEntry) (pre : List UInt8) : (keysOf es pre).length ≤ es.length := by
  unfold keysOf
  rw [List.length_map]
  exact List.length_filter_le _ _
theorem nodup_of {l : List MapEntry} (h : (l.map (·.born)).Nodup) : l.Nodup := List.Pairwise.of_map (S := (· ≠ ·)) (fun e : MapEntry => e.born) (fun a b hne e => hne (by rw [e])) h
theorem Coll.len {es : List MapEntry} {pre : List UInt8} {seen : Array Nat} {ss : List (List UInt8)} (h : Coll es pre seen ss) (_hn : (es.map (·.born)).Nodup) : ss.length ≤ es.length := by
  obtain ⟨vis, h1, h2, h3, rfl⟩ := h
  refine Nat.le_trans (keysOf_len _ _) ?_
  have : (vis.map (·.born)).length ≤ (es.map (·.born)).length := h2.length_le_of_subset fun x hx => by
    obtain ⟨e, he, rfl⟩ := List.mem_map.1 hx
    exact List.mem_map.2 ⟨e, h3 e he, rfl⟩
  simpa using this
theorem Coll.step {es : List MapEntry} {pre : List UInt8} {seen : Array Nat} {ss : List (List UInt8)} (h : Coll es pre seen ss) {e : MapEntry} (he : e ∈ es) (hs : seen.contains e.born = false) :
    Coll es pre (seen.push e.born) (ss ++ (if startsB pre (keyB e) then [keyB e] else [])) := by
  obtain ⟨vis, h1, h2, h3, rfl⟩ := h
  refine ⟨vis ++ [e], by simp [h1], ?_, fun x hx => ?_, (keysOf_snoc _ _ _).symm⟩
  · rw [List.map_append, List.nodup_append]
    refine ⟨h2, by simp, fun a ha b hb => ?_⟩
    simp only [List.map_cons, List.map_nil, List.mem_singleton] at hb
    subst hb
    intro e2
    subst e2
    rw [← h1] at ha
    have : seen.contains e.born = true := by simpa using ha
    rw [this] at hs
    cases hs
  · rcases List.mem_append.1 hx with hx | hx
    · exact h3 x hx
    · simp only [List.mem_singleton] at hx; subst hx; exact he
theorem born_inj {es : List MapEntry} (hn : (es.map (·.born)).Nodup) {a b : MapEntry} (ha : a ∈ es) (hb : b ∈ es) (h : a.born = b.born) : a = b := by
  induction es with
  | nil => cases ha
  | cons x es ih =>
    simp only [List.map_cons, List.nodup_cons] at hn
    rcases List.mem_cons.1 ha with rfl | ha2 <;> rcases List.mem_cons.1 hb with rfl | hb2
    · rfl
    · exact absurd (List.mem_map.2 ⟨b, hb2, h.symm⟩) hn.1
    · exact absurd (List.mem_map.2 ⟨a, ha2, h⟩) hn.1
    · exact ih hn.2 ha2 hb2
theorem Coll.perm {es : List MapEntry} {pre : List UInt8} {seen : Array Nat} {ss : List (List UInt8)} (h : Coll es pre seen ss) (hn : (es.map (·.born)).Nodup) (hd : ∀ e ∈ es, seen.contains e.born = true) : ss.Perm (keysOf es pre) := by
  obtain ⟨vis, h1, h2, h3, rfl⟩ := h
  have hp : vis.Perm es := by
    refine (List.perm_ext_iff_of_nodup (nodup_of h2) (nodup_of hn)).2 fun e => ⟨h3 e, fun he => ?_⟩
    have := hd e he
    have hm : e.born ∈ vis.map (·.born) := by rw [← h1]; simpa using this
    obtain ⟨x, hx, hb⟩ := List.mem_map.1 hm
    rwa [← born_inj hn (h3 x hx) he hb]
  exact (hp.filter _).map _
theorem left_less {es : List MapEntry} {w w' : World} {ri mb ck : Nat} {seen : Array Nat} {e : MapEntry} (h1 : iterSeen w ri mb ck seen) (h2 : iterSeen w' ri mb ck (seen.push e.born)) (he : e ∈ es) (hs : seen.contains e.born = false) : leftN es w' ri < leftN es w ri := by
  unfold leftN
  rw [show w.heap[ri]? = _ from h1, show w'.heap[ri]? = _ from h2]
  simp only
  have key : ∀ l : List MapEntry, (l.filter fun x => !(seen.push e.born).contains x.born).length ≤ (l.filter fun x => !seen.contains x.born).length ∧ (e ∈ l → (l.filter fun x => !(seen.push e.born).contains x.born).length < (l.filter fun x => !seen.contains x.born).length) := by
    intro l
    induction l with
    | nil => exact ⟨Nat.le_refl _, fun h => by cases h⟩
    | cons a l ih =>
      have hc : (seen.push e.born).contains a.born = (seen.contains a.born || (a.born == e.born)) := by
        rw [Bool.eq_iff_iff]
        simp
      simp only [List.filter_cons, hc]
      cases h1 : seen.contains a.born with
      | true =>
        simp only [Bool.true_or, Bool.not_true, Bool.false_eq_true, if_false]
        refine ⟨ih.1, fun hm => ?_⟩
        rcases List.mem_cons.1 hm with rfl | hm
        · rw [h1] at hs; cases hs
        · exact ih.2 hm
      | false =>
        cases h2 : (a.born == e.born) with
        | true =>
          simp only [Bool.false_or, Bool.not_true, Bool.false_eq_true, if_false, Bool.not_false, if_true, List.length_cons]
          exact ⟨Nat.le_succ_of_le ih.1, fun _ => Nat.lt_succ_of_le ih.1⟩
        | false =>
          simp only [Bool.or_false, Bool.not_false, if_true, List.length_cons]
          refine ⟨Nat.succ_le_succ ih.1, fun hm => ?_⟩
          rcases List.mem_cons.1 hm with rfl | hm
          · simp at h2
          · exact Nat.succ_lt_succ (ih.2 hm)
  exact (key es).2 he

def SortStr : Prop := ∀ (blk off cap : Nat) (ss : List (List UInt8)) (w : World), Go.Sort.Holds encStr w blk off ss.toArray → blk < w.heap.size → ss.length < 4611686018427387904 →
    Calls Tryz.prog 158 #[.slice (some ⟨blk, off, none⟩) ss.length cap] w fun e w' =>
      e = .returned (.tuple #[]) ∧ ∃ n os, w' = Go.Sort.grow (Go.Sort.putRow encStr (Go.Sort.ahead w n) blk off (ss.mergeSort fun x y => decide (x ≤ y)).toArray) os
set_option maxRecDepth 100000 in
set_option maxHeartbeats 1000000 in
theorem List_any (hsort : SortStr) (hnil : ∀ w, Calls Tryz.prog 158 #[.slice none 0 0] w fun e w' => e = .returned (.tuple #[]) ∧ Below w.heap.size w w')
    (db off mb ck : Nat) (es : Array MapEntry) (pre : ByteArray) (w : World) (hf : w.cell? ⟨db, off + 2, none⟩ = some (.map (some mb))) (hm : w.heap[mb]? = some (.map es ck))
    (hb : ∀ e ∈ es.toList, e.born < ck) (hn : (es.toList.map (·.born)).Nodup) (hk : ∀ e ∈ es.toList, ∃ s, e.key = .string s) (hlen : es.size ≤ 1048576) :
    Calls Tryz.prog 103 #[.pointer (some ⟨db, off, none⟩), .string pre] w fun e w' => ∃ v, e = .returned v ∧ Below w.heap.size w w' ∧
      w'.ownsRow (w.heap.size + 1) 9 1 v (keysOf es.toList pre.data.toList).length (((keysOf es.toList pre.data.toList).mergeSort fun x y => decide (x ≤ y)).map encStr) ∧ (keysOf es.toList pre.data.toList = [] → v = .slice none 0 0) := by
  obtain ⟨i0, hi, hz0, hz1, hz2⟩ := info_parts str_info
  have hmb : mb < w.heap.size := (Array.getElem?_eq_some_iff.1 hm).1
  have hgm : (getObj mb).run Tryz.prog w = .ok (.map es ck) w := by simp only [getObj, Sem.run, hm]
  have hrange : ∀ t k e, Tryz.prog.underlying t = some (.map k e) → (Instr.range t (.map (some mb))).run Tryz.prog w = .ok (.pointer (some ⟨w.heap.size, 0, none⟩)) (w.alloc (.mapIter (some mb) ck #[] ck)) := by
    intro t k e ht
    simp only [Instr.range, Sem.run_bind, run_underlying ht, Result.andThen_ok, hgm, newObj, Sem.run, Sem.run_pure]
    rfl
  have hr1 := hrange 124 _ _ rfl
  clear hrange
  go_enter Tryz.func103, Tryz.ntmps103
  go_wp2
  clear hr1 hgm hf
  have hne : w.heap.size ≠ mb := by omega
  have HB := Lib.hid hb
  have HN := Lib.hid hn
  have HK := Lib.hid hk
  have HE := Lib.hid hlen
  have HM := Lib.hid hm
  clear hlen hb hn hk hm
  go_loopw [5] (fun v wr => Hid (∃ (seen : Array Nat) (ss : List (List UInt8)), wr.heap[mb]? = some (.map es ck) ∧ iterSeen wr w.heap.size mb ck seen ∧ Coll es.toList pre.data.toList seen ss ∧
      wr.ownsRow (w.heap.size + 1) 9 1 v ss.length (ss.map encStr) ∧ Below w.heap.size w wr ∧ w.heap.size + 1 ≤ wr.heap.size ∧ (ss = [] → v = .slice none 0 0))) (fun _ wr => leftN es.toList wr w.heap.size)
  case atStart =>
    refine Lib.hid ⟨#[], [], ?_, ?_, ⟨[], rfl, List.Pairwise.nil, (fun e he => nomatch he), rfl⟩, ⟨rfl, .inl ⟨rfl, rfl⟩⟩, (Below.refl _ _).alloc (Nat.le_refl _) _, ?_, fun _ => rfl⟩
    · show (w.heap.push _)[mb]? = _; rw [Array.getElem?_push, if_neg (by omega)]; exact HM.out
    · show (w.heap.push _)[w.heap.size]? = _; exact Array.getElem?_push_size
    · show w.heap.size + 1 ≤ (w.heap.push _).size; rw [Array.size_push]; exact Nat.le_refl _
  case round =>
    obtain ⟨seen, ss, hm1, hit, hC, hown, hbel, hsz, hemp⟩ := hrel.out
    have HL : Hid (ss.length ≤ 1048576) := by
      have h1 := hC.len HN.out
      have h2 := HE.out
      rw [Array.length_toList] at h1
      exact Nat.le_trans h1 h2
    have H1 := Lib.hid hm1
    have H2 := Lib.hid hit
    have H3 := Lib.hid hC
    have H4 := Lib.hid hown
    have H5 := Lib.hid hbel
    have H6 := Lib.hid hsz
    have H7 := Lib.hid hemp
    clear hm1 hit hC hown hbel hsz hemp hrel
    go_wp2_with (refine wpList_next_map rfl _ rfl rfl H2.out H1.out HB.out HN.out hne ?_ ?_)
    · intro hdone
      have hperm := Lib.hid (H3.out.perm HN.out hdone)
      have hms : Hid ((ss.mergeSort fun x y => decide (x ≤ y)) = ((keysOf es.toList pre.data.toList).mergeSort fun x y => decide (x ≤ y))) := mergeSort_of_perm hperm.out
      rcases H4.out.2 with ⟨hnl, h0⟩ | ⟨g, cap, cur, hv, hbase, hbk, h1, h2, h3, h4⟩
      · subst hnl
        have H0 := Lib.hid h0
        clear h0
        go_wp2_with (go_at_call 158; refine (hnil _).mono ?_; rintro e w' ⟨rfl, hbn⟩; have B0 := Lib.hid hbn; clear hbn)
        go_ret
        have hss : ss = [] := List.eq_nil_of_length_eq_zero H0.out
        have hk0 : keysOf es.toList pre.data.toList = [] := by have := hperm.out; rw [hss] at this; exact List.nil_perm.1 this
        refine ⟨_, rfl, ⟨B0.out.os.trans H5.out.os, B0.out.tape.trans H5.out.tape, B0.out.output.trans H5.out.output, Nat.le_trans H5.out.size B0.out.size, fun k hk => (B0.out.block k (by have := H6.out; omega)).trans (H5.out.block k hk)⟩, ?_, fun _ => rfl⟩
        rw [hk0]
        exact ⟨by simp, .inl ⟨rfl, rfl⟩⟩
      · subst hv
        have hH := Lib.hid (holds_of_block hbk (by simpa using h4))
        have hgl := Lib.hid ((Array.getElem?_eq_some_iff.1 hbk).1)
        have G1 := Lib.hid hbase
        have G2 := Lib.hid hbk
        have G3 := Lib.hid h1
        have G4 := Lib.hid h2
        have G5 := Lib.hid h3
        clear hbase hbk h1 h2 h3 h4
        go_wp2_with (go_at_call 158; refine (hsort g 0 cap ss wr hH.out hgl.out (by have := HL.out; omega)).mono ?_; rintro e w' ⟨rfl, nn, os, rfl⟩)
        go_ret
        refine ⟨_, rfl, H5.out.grown (grownBy_sorted _) (by have := H6.out; omega) (fun j hj => by cases hj; have := G1.out; omega), ?_, fun hk0 => by
          have := hperm.out
          rw [hk0] at this
          exact H7.out (List.perm_nil.1 this)⟩
        have hlen2 : (keysOf es.toList pre.data.toList).length = ss.length := hperm.out.length_eq.symm
        rw [hlen2, ← hms.out]
        exact ownsRow_sorted (by simp) G1.out G2.out G3.out G4.out G5.out
    · intro e w2 hh hen
      obtain ⟨he, hs, hit2, hm2, hg2, hsz2⟩ := hh
      obtain ⟨s, hks⟩ := HK.out e he
      have K1 := Lib.hid (left_less (es := es.toList) H2.out hit2 he hs)
      have hC2 := H3.out.step he hs
      have hkb : keyB e = s.data.toList := by simp only [keyB, hks]
      rw [hkb] at hC2
      rw [hks] at hen ⊢
      have hown2 := H4.out.kept hg2 (Or.inr fun e => by have := (H4.out.lt _ e).1; omega)
      have hbel2 : Below w.heap.size w w2 := H5.out.grown hg2 (by have := H6.out; omega) (fun j hj => by cases hj; exact Nat.le_refl _)
      have K2 := Lib.hid hit2
      have K3 := Lib.hid hm2
      have K4 := Lib.hid hown2
      have K5 := Lib.hid hbel2
      have K6 : Hid (w.heap.size + 1 ≤ w2.heap.size) := by show _ ≤ _; rw [hsz2]; exact H6.out
      clear hsz2 hit2 hm2 hown2 hbel2 hg2 he hs hkb hks
      cases hp : startsB pre.data.toList s.data.toList with
      | false =>
        rw [hp, if_neg (by decide), List.append_nil] at hC2
        have K7 := Lib.hid hC2
        clear hC2
        go_wp2_with (go_at_call 157; refine (HasPrefix_any _ _ _).mono ?_; rintro e' w' ⟨rfl, rfl⟩; rw [hp])
        go_roundw
        case rel => exact Lib.hid ⟨_, ss, K3.out, K2.out, K7.out, K4.out, K5.out, K6.out, H7.out⟩
        case measure => exact K1.out
      | true =>
        rw [hp, if_pos rfl] at hC2
        have K7 := Lib.hid hC2
        clear hC2
        go_wp2_with (first | (go_at_call 157; refine (HasPrefix_any _ _ _).mono ?_; rintro e' w' ⟨rfl, rfl⟩; rw [hp]) | (at_builtin; go_must (refine wpList_append_own _ rfl _ _ 31 rfl (w.heap.size + 1) 9 i0 (.string ⟨#[]⟩) 1 16 Tryz.underlying31 hi hz0 hz1 hz2 rfl (by decide) _ _ _ rfl (K4.out.alloc _) ⟨w2.heap.size, 0, none⟩ 1 1 [.string s] rfl rfl (cell_one_new _ _ _) (one_cell_str _) (by have := HL.out; simp only [maxLen]; omega) (by have := HL.out; omega) (by have := K6.out; show _ ≤ (w2.heap.push _).size; rw [Array.size_push]; omega) ?_); intro v1 w3 hown3 hg3 _hne; have K8 := Lib.hid hown3; have K9 := Lib.hid hg3; clear hown3 hg3 _hne))
        go_roundw
        case rel =>
          have hA : ∀ k, k < w.heap.size + 1 → w3.heap[k]? = w2.heap[k]? := by
            intro k hk
            have h6 := K6.out
            rw [K9.out.block k (by show k < (w2.heap.push _).size; rw [Array.size_push]; omega) (fun e => by have := (K4.out.lt k e.symm).1; omega)]
            show (w2.heap.push _)[k]? = _
            rw [Array.getElem?_push, if_neg (by omega)]
          have hsz3 : w.heap.size + 1 ≤ w3.heap.size := by
            have h6 := K6.out
            have := K9.out.size
            have e2 : (w2.alloc (.cells #[.string s] 9)).heap.size = w2.heap.size + 1 := by show (w2.heap.push _).size = _; rw [Array.size_push]
            rw [e2] at this
            omega
          refine Lib.hid ⟨_, ss ++ [s.data.toList], by rw [hA _ (by omega)]; exact K3.out, by show w3.heap[_]? = _; rw [hA _ (by omega)]; exact K2.out, K7.out, ?_, ?_, hsz3, fun h => absurd h (by simp)⟩
          · have := K8.out
            rw [List.length_append, List.map_append]
            simpa [encStr] using this
          · exact (K5.out.alloc (by have := K6.out; omega) _).grown K9.out (by have := K6.out; show _ ≤ (w2.heap.push _).size; rw [Array.size_push]; omega) (fun k hk => by have := (K4.out.lt k hk).1; omega)
        case measure =>
          have hA : w3.heap[w.heap.size]? = w2.heap[w.heap.size]? := by
            have h6 := K6.out
            rw [K9.out.block _ (by show _ < (w2.heap.push _).size; rw [Array.size_push]; omega) (fun e => by have := (K4.out.lt _ e.symm).1; omega)]
            show (w2.heap.push _)[_]? = _
            rw [Array.getElem?_push, if_neg (by omega)]
          have : leftN es.toList w3 w.heap.size = leftN es.toList w2 w.heap.size := by unfold leftN; rw [hA]
          rw [this]
          exact K1.out
end Go.Proofs.YtolignkahfekbaaGreatDoor
