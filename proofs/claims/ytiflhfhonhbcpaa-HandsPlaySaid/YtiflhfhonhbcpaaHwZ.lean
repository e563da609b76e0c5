/- Both hands in one state. -/
import Derived.Test.YtiflhfhonhbcpaaHwY
import Derived.Test.YtiflhfhonhbcpaaHwHC
import Derived.Test.YtiflhfhonhbcpaaHeldL
namespace Go.Proofs.Ytiflhfhonhbcpaa.Hw
open Go Go.RowKit Go.Proofs.Ytiflhfhonhbcpaa Go.Proofs.Ytiflhfhonhbcpaa.Crw Go.Proofs.Ytiflhfhonhbcpaa.Vl Go.ChangeShapes Go.WideShapes Go.ChangeAt
set_option linter.unusedVariables false
set_option maxRecDepth 1000000
section
variable {w w' wr w2 w5 w6 : World} {B h hp hr : Nat} {V U : Nat → Prop} {A A1 : List Aq} {K K1 : List Ky} {X : List Ms} {i : Nat} {u u' : Value}
theorem hel_len (A : List Aq) : (A.flatMap helQ).length = (A.filter (·.lv)).length := by
  induction A with
  | nil => rfl
  | cons a l ih =>
    rw [List.flatMap_cons, List.length_append, ih, List.filter_cons]
    cases h : a.lv
    · simp [helQ, h]
    · simp [helQ, h]; omega
theorem PStep (H : PAt w B h V A K) (hs : Sm 100 A K) : Calls Try.prog 24 #[.pointer (some ⟨h, 0, none⟩)] w fun e9 w' => ∃ u, e9 = .returned u ∧ PHrd w B h V (A.map stepQ) K (A.flatMap ansQ) u w' := by
  obtain ⟨xb, sb, kb, R, S, v, lv, H, h1, h2⟩ := H
  have hRl : R.length ≤ 100 := by
    have := congrArg List.length h1
    rw [List.length_map] at this
    have h3 := List.length_filter_le (·.lv) A
    have := hs.1
    omega
  refine (Step_n H hRl).mono ?_
  rintro e9 w2 ⟨u, rfl, R', q1, q2, ⟨N, q3, q4, q5⟩, q6⟩
  have hlen : R.length = (R.map aq).length := by rw [List.length_map]
  rw [hlen, List.take_length, List.drop_length, List.append_nil, h1, ← step_filter] at q2
  rw [hlen, List.take_length, h1, ans_filter] at q3 q5
  refine ⟨u, rfl, V, ⟨xb, sb, kb, R', S, v, lv, q1, q2, ?_⟩, fun _ => id, fun _ => .inl, q6, Win.of_own (by rw [← q3]; exact q5), fun c hc hV => ?_⟩
  · rw [h2, List.map_map]
    apply List.map_congr_left
    intro p _
    exact (stepQ_r p).symm
  · have := (q5.lt c hc).1
    have := H.lt c hV
    omega
theorem PHello (H : PAt w B h V A K) (hs : Sm 100 A K) : Calls Try.prog 12 #[.pointer (some ⟨h, 0, none⟩)] w fun e9 w' => ∃ u, e9 = .returned u ∧ PHrd w B h V A K (A.flatMap helQ) u w' := by
  have HP := H
  obtain ⟨xb, sb, kb, R, S, v, lv, H, h1, h2⟩ := H
  have hRl : R.length ≤ 100 := by
    have := congrArg List.length h1
    rw [List.length_map] at this
    have h3 := List.length_filter_le (·.lv) A
    have := hs.1
    omega
  refine (Hello_n H hRl).mono ?_
  rintro e9 w2 ⟨u, rfl, q1, q2⟩
  rw [h1, hel_filter] at q1
  refine ⟨u, rfl, V, HP.below q2, fun _ => id, fun _ => .inl, Vol.of_below q2, Win.of_own q1, fun c hc hV => ?_⟩
  have := (q1.lt c hc).1
  have := H.lt c hV
  omega
theorem PLive (H : PAt w B h V A K) : Calls Try.prog 13 #[.pointer (some ⟨h, 0, none⟩)] w fun e9 w' => e9 = .returned (.int .i64 (A.flatMap helQ).length) ∧ w' = w := by
  obtain ⟨xb, sb, kb, R, S, v, lv, H, h1, h2⟩ := H
  refine (Live_n H).mono ?_
  rintro e9 w2 ⟨rfl, rfl⟩
  refine ⟨?_, rfl⟩
  have := congrArg List.length h1
  rw [List.length_map] at this
  rw [hel_len, this]
theorem PLaunched (H : PAt w B h V A K) (hs : Sm 100 A K) : Calls Try.prog 30 #[.pointer (some ⟨h, 0, none⟩)] w fun e9 w' => ∃ u, e9 = .returned u ∧ Win w' w.heap.size 46 2 u K.length (kysV K) ∧ Below w.heap.size w w' := by
  obtain ⟨xb, sb, kb, R, S, v, lv, H, h1, h2⟩ := H
  refine (Launched_n H (by have := hs.2.2; omega)).mono ?_
  rintro e9 w2 ⟨u, rfl, q1, q2⟩
  exact ⟨u, rfl, Win.of_own q1, q2⟩
theorem RStep (H : RAt w B h V A K) (hs : Sm 100 A K) : Calls Try.prog 25 #[.pointer (some ⟨h, 0, none⟩)] w fun e9 w' => ∃ u, e9 = .returned u ∧ RHrd w B h V (A.map stepQ) K (A.flatMap ansQ) u w' := by
  obtain ⟨L, v, lv, H, rfl⟩ := H
  have hL : L.length ≤ 100 := by have := hs.1; rwa [List.length_map] at this
  refine (R_Step H hL).mono ?_
  rintro e9 w2 ⟨u, rfl, R', q1, q2, ⟨N, q3, q4, q5⟩, q6⟩
  have hlen : L.length = (L.map aq).length := by rw [List.length_map]
  rw [hlen, List.take_length, List.drop_length, List.append_nil] at q2
  rw [hlen, List.take_length] at q3 q5
  refine ⟨u, rfl, V, ⟨R', v, lv, q1, q2⟩, fun _ => id, fun _ => .inl, q6, Win.of_own (by rw [← q3]; exact q5), fun c hc hV => ?_⟩
  have := (q5.lt c hc).1
  have := H.lt c hV
  omega
theorem RHello (H : RAt w B h V A K) (hs : Sm 100 A K) : Calls Try.prog 26 #[.pointer (some ⟨h, 0, none⟩)] w fun e9 w' => ∃ u, e9 = .returned u ∧ RHrd w B h V A K (A.flatMap helQ) u w' := by
  have HR := H
  obtain ⟨L, v, lv, H, rfl⟩ := H
  have hL : L.length ≤ 100 := by have := hs.1; rwa [List.length_map] at this
  refine (R_Hello H hL rfl).mono ?_
  rintro e9 w2 ⟨u, rfl, q1, q2⟩
  refine ⟨u, rfl, V, HR.below q2, fun _ => id, fun _ => .inl, Vol.of_below q2, Win.of_own q1, fun c hc hV => ?_⟩
  have := (q1.lt c hc).1
  have := H.lt c hV
  omega
theorem RLive (H : RAt w B h V A K) (hs : Sm 100 A K) : Calls Try.prog 28 #[.pointer (some ⟨h, 0, none⟩)] w fun e9 w' => e9 = .returned (.int .i64 (A.flatMap helQ).length) ∧ Below w.heap.size w w' := by
  obtain ⟨L, v, lv, H, rfl⟩ := H
  have hL : L.length ≤ 100 := by have := hs.1; rwa [List.length_map] at this
  exact R_Live H hL rfl
theorem RAt.keys (H : RAt w B h V A K) : ∃ A0 c0, w.cell? ⟨h, 1, none⟩ = some (.slice A0 K.length c0) ∧ Win w B 46 2 (.slice A0 K.length c0) K.length (kysV K) ∧ h < w.heap.size := by
  obtain ⟨L, v, lv, H, rfl⟩ := H
  obtain ⟨A0, c0, rfl, hc0, -⟩ := own_slice H.keys
  exact ⟨A0, c0, H.blk.cell 1, Win.of_own H.keys, H.blk.lt⟩
theorem PAt.ge (H : PAt w B h V A K) : ∀ b, V b → B ≤ b := by
  obtain ⟨xb, sb, kb, R, S, v, lv, H, h1, h2⟩ := H
  exact H.ge
/-- Both hands in one state. -/
structure JhP (w wr : World) (hp hr : Nat) (V U : Nat → Prop) (A : List Aq) (K : List Ky) (i : Nat) : Prop where
  pm : PAt wr w.heap.size hp V A K
  rm : RAt wr w.heap.size hr U A K
  ap : ∀ g, V g → ¬ U g
  ok : Sm i A K
  bel : Below w.heap.size w wr
theorem Sm.mono {n m : Nat} (h : Sm n A K) (hnm : n ≤ m) : Sm m A K := ⟨Nat.le_trans h.1 hnm, fun p hp => Nat.le_trans (h.2.1 p hp) hnm, Nat.le_trans h.2.2 hnm⟩
theorem JhP.below (h : JhP w wr hp hr V U A K i) (hb : Below wr.heap.size wr w2) : JhP w w2 hp hr V U A K i :=
  ⟨h.pm.below hb, h.rm.below hb, h.ap, h.ok, h.bel.trans (hb.mono h.bel.size)⟩
theorem Sm.upd {r : Pm} {f : Aq → Aq} (h : Sm i A K) (hf : ∀ p, (f p).ts.length ≤ p.ts.length + 1) : Sm (i + 1) (upd A r f) K := by
  refine ⟨by unfold Hw.upd; rw [List.length_map]; exact Nat.le_succ_of_le h.1, fun p hp => ?_, Nat.le_succ_of_le h.2.2⟩
  unfold Hw.upd at hp
  obtain ⟨q, hq, rfl⟩ := List.mem_map.1 hp
  have := h.2.1 q hq
  split
  · have := hf q; omega
  · omega
theorem HearR.sm {k : Int} {r : Pm} {t : ByteArray} (hR : HearR k r t A K A1 K1 X) (h : Sm i A K) : Sm (i + 1) A1 K1 ∧ X.length ≤ 1 := by
  have hm := h.mono (Nat.le_succ i)
  cases hR with
  | startOld => exact ⟨hm, by simp⟩
  | startNew =>
    refine ⟨⟨by simp; exact h.1, fun p hp => ?_, hm.2.2⟩, by simp⟩
    rcases List.mem_append.1 hp with hp | hp
    · exact hm.2.1 p hp
    · rw [List.mem_singleton.1 hp]; simp
  | none => exact ⟨hm, by simp⟩
  | launchOld => exact ⟨hm, by simp⟩
  | launchNew =>
    have h2 := h.upd (r := r) (f := give t) (fun p => by simp [give])
    exact ⟨⟨h2.1, h2.2.1, by simp; exact h.2.2⟩, by simp⟩
  | endNo => exact ⟨hm, by simp⟩
  | endYes ts j => exact ⟨h.upd (fun p => by simp only [drop]; have := List.length_eraseIdx_le p.ts j; omega), by simp⟩
  | stop => exact ⟨h.upd (fun p => by simp [kill]), by simp⟩
  | other => exact ⟨hm, by simp⟩
theorem step_sm (h : Sm i A K) : Sm i (A.map stepQ) K := by
  refine ⟨by rw [List.length_map]; exact h.1, fun p hp => ?_, h.2.2⟩
  obtain ⟨q, hq, rfl⟩ := List.mem_map.1 hp
  have h1 := h.2.1 q hq
  unfold stepQ
  split
  · split
    · exact h1
    · rename_i x r e
      rw [e] at h1
      simp only [List.length_cons] at h1
      split
      · show r.length ≤ i; omega
      · show r.length + 1 ≤ i; omega
  · exact h1
theorem ans_len (A : List Aq) : (A.flatMap ansQ).length ≤ A.length := by
  induction A with
  | nil => simp
  | cons a l ih =>
    rw [List.flatMap_cons, List.length_append, List.length_cons]
    have : (ansQ a).length ≤ 1 := by
      unfold ansQ
      split
      · split <;> simp
      · simp
    omega
theorem hel_len2 (A : List Aq) : (A.flatMap helQ).length ≤ A.length := by
  rw [hel_len]; exact List.length_filter_le _ _
theorem bel_vol2 {w1 : World} {Z : Nat → Prop} (h : Below w.heap.size w w1) (hv : Vol Z w1 w2) (hZ : ∀ g, Z g → w.heap.size ≤ g) : Below w.heap.size w w2 := bel_vol h hv hZ
/-- The plain hands behind the program's act. -/
theorem JhP.rm5 (h : JhP w wr hp hr V U A K i) (h5 : PHrd wr w.heap.size hp V A1 K1 X u w5) : RAt w5 w.heap.size hr U A K := by
  obtain ⟨V1, hM, h1, h2, hv, hw, hc⟩ := h5
  exact h.rm.vol hv (fun g hg hV => h.ap g hV hg)
/-- Both have acted. -/
theorem JhP.acted {n : Nat} (h : JhP w wr hp hr V U A K i) (hn : Sm n A1 K1) (h5 : PHrd wr w.heap.size hp V A1 K1 X u w5) (h6 : RHrd w5 w.heap.size hr U A1 K1 X u' w6) :
    Win w6 wr.heap.size 30 9 u X.length (mssV X) ∧ Win w6 w5.heap.size 30 9 u' X.length (mssV X) ∧ ∃ V1 U1, JhP w w6 hp hr V1 U1 A1 K1 n ∧ (∀ b, V1 b → V b ∨ wr.heap.size ≤ b) ∧ (∀ b, U1 b → U b ∨ wr.heap.size ≤ b) ∧ wr.heap.size ≤ w6.heap.size ∧ (∀ b, b < wr.heap.size → ¬ V b → ¬ U b → w6.heap[b]? = wr.heap[b]?) := by
  obtain ⟨V1, hM, h1, h2, hv, hw, hc⟩ := h5
  obtain ⟨U1, hR, k1, k2, kv, kw, kc⟩ := h6
  have dis : ∀ g, V1 g → ¬ U g := fun g hg hu => by
    rcases h2 g hg with e | e
    · exact h.ap g e hu
    · have := h.rm.lt g hu; omega
  have hs := hv.size
  refine ⟨hw.vol kv (fun c hc2 hu => ?_), kw, V1, U1, ⟨hM.vol kv dis, hR, fun g hg hu => ?_, hn, ?_⟩, h2, fun b e => (k2 b e).imp id (fun e => by omega), Nat.le_trans hs kv.size, fun b hb n1 n2 => (kv.block b (Nat.lt_of_lt_of_le hb hs) n2).trans (hv.block b hb n1)⟩
  · have := h.rm.lt c hu
    have := (hw.blk_lt hc2).1
    omega
  · rcases k2 g hu with e | e
    · exact dis g hg e
    · have := hM.lt g hg; omega
  · exact bel_vol2 (bel_vol2 h.bel hv (fun g hg => h.pm.ge g hg)) kv (fun g hg => h.rm.ge g hg)
theorem R_new (w : World) (B : Nat) (hB : B ≤ w.heap.size) : RAt (w.alloc (.cells #[.slice none 0 0, .slice none 0 0] 54)) B w.heap.size (fun g => g = w.heap.size) [] [] := by
  refine ⟨[], .slice none 0 0, .slice none 0 0, ⟨Blk.new _ _ _, ⟨by simp, .inl ⟨rfl, rfl⟩⟩, ⟨by simp, .inl ⟨rfl, rfl⟩⟩, ⟨fun k p h => by simp at h, fun k p h => by simp at h, fun j k p q h => by simp at h, fun j k p q h => by simp at h, fun j k p q h => by simp at h, fun k p h => by simp at h, mPT⟩, rfl, fun b h => by simp [Value.ownBlock] at h, fun b h => by simp [Value.ownBlock] at h, fun b h => by rw [h]; simp, fun b h => by rw [h]; exact hB⟩, rfl⟩
theorem P_new (w : World) : Calls Try.prog 9 #[] w fun e9 w' => ∃ h V, e9 = .returned (.pointer (some ⟨h, 0, none⟩)) ∧ PAt w' w.heap.size h V [] [] ∧ Below w.heap.size w w' := by
  refine (New_h w).mono ?_
  rintro e9 w2 ⟨h, xb, sb, kb, V, rfl, H, hb⟩
  exact ⟨h, V, rfl, ⟨xb, sb, kb, [], [], _, _, H, rfl, rfl⟩, hb⟩
end
/-- A task's name is one of eight. -/
def taskB (r : Int) : ByteArray := if r = 0 then ⟨#[97]⟩ else if r = 1 then ⟨#[98]⟩ else if r = 2 then ⟨#[99]⟩ else if r = 3 then ⟨#[100]⟩ else if r = 4 then ⟨#[101]⟩ else if r = 5 then ⟨#[104]⟩ else if r = 6 then ⟨#[105]⟩ else ⟨#[106]⟩
set_option maxHeartbeats 4000000 in
theorem Task_any (x : Int) (hx : -9223372036854775808 ≤ x ∧ x ≤ 9223372036854775807) (w : World) :
    Calls Try.prog 16 #[.int .i64 x] w fun r w' => r = .returned (.string (taskB (x % 8))) ∧ Below w.heap.size w w' := by
  have h1 := Int.emod_nonneg x (show (8 : Int) ≠ 0 by omega)
  have h2 := Int.emod_lt_of_pos x (show (0 : Int) < 8 by omega)
  have hW : ∀ w, Calls Try.prog 10 #[.int .i64 x, .int .i64 8] w fun e w' => e = .returned (.int .i64 (x % 8)) ∧ w = w' := fun w => Within_any x 8 w (by omega) (by omega) (by omega) (by omega)
  generalize x % 8 = r at *
  have hr : r = 0 ∨ r = 1 ∨ r = 2 ∨ r = 3 ∨ r = 4 ∨ r = 5 ∨ r = 6 ∨ r = 7 := by omega
  clear hx h1 h2
  rcases hr with rfl | rfl | rfl | rfl | rfl | rfl | rfl | rfl
  all_goals
    go_enter Try.func16, Try.ntmps16
    go_wp2_with (go_at_call 10; refine (hW _).mono ?_; rintro e w' ⟨rfl, rfl⟩)
    go_ret
    exact ⟨rfl, (Below.refl _ _).alloc (Nat.le_refl _) _⟩
theorem built_mg (f e : ByteArray) (n : Int) : Try.prog.built 30 [(1, .string f), (2, .string e), (4, .int .i64 n)] = some #[.int .i64 0, .string f, .string e, .string ⟨#[]⟩, .int .i64 n, .int .i64 0, .int .i64 0, .int .i64 0, .slice none 0 0] := by kernel_rfl
/-- What is read of an argument stands as it stood. -/
structure WhS (wd : World) (a1 : Addr) (x : Int) (wa : World) : Prop where
  k1 : wd.cell? a1 = some (.int .i64 x)
  be : Below wd.heap.size wd wa
theorem WhS.c1 {wd wa : World} {a1 : Addr} {x : Int} (h : WhS wd a1 x wa) : wa.cell? a1 = some (.int .i64 x) := (h.be.cell (p := a1) (World.block_lt_of_cell? _ _ h.k1)).trans h.k1
theorem WhS.below {wd wa wb : World} {a1 : Addr} {x : Int} (h : WhS wd a1 x wa) (hb : Below wa.heap.size wa wb) : WhS wd a1 x wb := ⟨h.k1, h.be.trans (hb.mono h.be.size)⟩
end Go.Proofs.Ytiflhfhonhbcpaa.Hw
