/- A stream of any updates in memory: contracts of its methods that turn nothing. -/
import Derived.Test.YtgeahhklhelifaaBackoff
import Derived.Test.YtgeahhklhelifaaLife
import Derived.Laws.ResultCell
import Derived.Lib.SliceRun
namespace Go.Proofs.Ytgeahhklhelifaa
open Go.ChangeShapes Go.WideShapes Go.ChangeAt Go.RowKit
set_option linter.unusedVariables false
def updV : List Int → Nat → List Value
  | [], _ => []
  | s :: r, i => .int .i64 ((i : Int) + 1) :: .int .i64 s :: updV r (i + 1)
theorem updV_len : ∀ (l : List Int) (i : Nat), (updV l i).length = l.length * 2
  | [], _ => rfl
  | _ :: r, i => by simp only [updV, List.length_cons, updV_len r (i + 1)]; omega
theorem updV_snoc (s : Int) : ∀ (l : List Int) (i : Nat), updV (l ++ [s]) i = updV l i ++ [.int .i64 ((i : Int) + (l.length : Int) + 1), .int .i64 s]
  | [], i => by simp [updV]
  | a :: r, i => by
    simp only [List.cons_append, updV, updV_snoc s r (i + 1), List.length_cons]
    have e : ((i + 1 : Nat) : Int) + (r.length : Int) + 1 = (i : Int) + ((r.length + 1 : Nat) : Int) + 1 := by omega
    rw [e]
theorem updV_at : ∀ (l : List Int) (i k : Nat) (s : Int), l[k]? = some s → (updV l i)[k * 2]? = some (.int .i64 ((i : Int) + (k : Int) + 1)) ∧ (updV l i)[k * 2 + 1]? = some (.int .i64 s)
  | [], _, _, _, h => by simp at h
  | a :: r, i, 0, s, h => by
    simp only [List.getElem?_cons_zero, Option.some.injEq] at h
    subst h
    simp [updV]
  | a :: r, i, k + 1, s, h => by
    obtain ⟨h1, h2⟩ := updV_at r (i + 1) k s (by simpa using h)
    rw [show (k + 1) * 2 = k * 2 + 1 + 1 by omega]
    simp only [updV, List.getElem?_cons_succ]
    refine ⟨?_, h2⟩
    rw [h1]
    congr 2
    omega
theorem updV_one (l : List Int) (i : Nat) : ∀ u ∈ updV l i, u.oneCell' = true := by
  induction l generalizing i with
  | nil => intro u hu; cases hu
  | cons a r ih =>
    intro u hu
    simp only [updV, List.mem_cons] at hu
    rcases hu with rfl | rfl | hu
    · rfl
    · rfl
    · exact ih _ u hu
/-- The state that the last update tells. -/
def stOf (l : List Int) : Int := match l.getLast? with
  | some s => s
  | none => 1
structure StM (w : World) (B g : Nat) (v : Value) (l : List Int) (ak : Nat) (sd : Bool) (dl du : Int) : Prop where
  blk : Blk w g 49 #[v, .int .i64 ak, .bool sd, .int .i64 dl, .int .i64 du]
  row : w.ownsRow B 30 2 v l.length (updV l 0)
  ge : B ≤ g
section
variable {w w' : World} {B g : Nat} {v : Value} {l : List Int} {ak : Nat} {sd : Bool} {dl du : Int}
theorem StM.keep (h : StM w B g v l ak sd dl du) (hk : ∀ b, B ≤ b → b < w.heap.size → w'.heap[b]? = w.heap[b]?) : StM w' B g v l ak sd dl du := by
  refine ⟨(hk g h.ge h.blk.lt).trans h.blk, ⟨h.row.1, ?_⟩, h.ge⟩
  rcases h.row.2 with h1 | ⟨u, cap, cur, e1, e2, e3, e4⟩
  · exact .inl h1
  · exact .inr ⟨u, cap, cur, e1, e2, (hk u e2 (Array.getElem?_eq_some_iff.1 e3).1).trans e3, e4⟩
theorem StM.alloc (h : StM w B g v l ak sd dl du) (o : Obj) : StM (w.alloc o) B g v l ak sd dl du := h.keep fun b _ hb => Below.heap_alloc w o b hb
theorem StM.drewN (h : StM w B g v l ak sd dl du) (k : Nat) : StM (w.drewN k) B g v l ak sd dl du := h.keep fun b _ hb => rfl
theorem StM.below (h : StM w B g v l ak sd dl du) {C : Nat} (hb : Below C w w') (hC : w.heap.size ≤ C) : StM w' B g v l ak sd dl du := h.keep fun b _ hlt => hb.block b (by omega)
theorem StM.form (h : StM w B g v l ak sd dl du) : ∃ A c, v = .slice A l.length c ∧ l.length ≤ c ∧ c ≤ maxLen := own_slice h.row
theorem StM.at_ (h : StM w B g v l ak sd dl du) {k : Nat} {s : Int} (hk : l[k]? = some s) : ∃ u c, v = .slice (some ⟨u, 0, none⟩) l.length c ∧ l.length ≤ c ∧ u < w.heap.size ∧ u ≠ g ∧ w.cell? ⟨u, k * 2, none⟩ = some (.int .i64 ((k : Int) + 1)) ∧ w.cell? ⟨u, k * 2 + 1, none⟩ = some (.int .i64 s) := by
  have hlt := (List.getElem?_eq_some_iff.1 hk).1
  rcases h.row.2 with ⟨_, h0⟩ | ⟨u, cap, cur, e1, e2, e3, e4, e5, e6, e7⟩
  · omega
  · have hu := (Array.getElem?_eq_some_iff.1 e3).1
    obtain ⟨h1, h2⟩ := updV_at l 0 k s hk
    have key : ∀ j x, (updV l 0)[j]? = some x → w.cell? ⟨u, j, none⟩ = some x := by
      intro j x hx
      rw [← e7, List.getElem?_take] at hx
      split at hx
      · rw [cell_of_row w u j cur _ _ e3]; simpa using hx
      · cases hx
    refine ⟨u, cap, e1, e4, hu, ?_, by simpa using key _ _ h1, key _ _ h2⟩
    rintro rfl
    have := h.blk
    unfold Blk at this
    rw [e3] at this
    injection this with this
    injection this with _ ht
    exact absurd ht (by decide)
end
theorem ret_cell2 {P : Program} {fn : Func} {p u : Tmp} {ty : TypeId} {tmps : Array Value} {w : World} {g : Nat} {t : TypeId} {cs : Array Value} {d : TypeDesc} (h : fn.results = #[.cell p ty, .tmp u]) (ht : tmps.getD p undef = .pointer (some ⟨g, 0, none⟩)) (hb : Blk w g t cs)
    (hu : P.underlying ty = some d) (hd : (match d with | .struct _ | .array _ _ => true | _ => false) = true) (hi : (P.info? ty).map (·.size) = some cs.size) : (results fn tmps).run P w = .ok (.tuple #[.agg cs, tmps.getD u undef]) w := by
  rw [results_cell_tmp h, ht]
  simp only [asAddr, Sem.run_pure, Result.andThen_ok]
  rw [Go.run_loadVar_row w g t ty cs _ d hb hu hd hi]
  rfl
set_option maxRecDepth 100000
set_option maxHeartbeats 4000000 in
theorem Pending_g {B g : Nat} {v : Value} {l : List Int} {ak : Nat} {sd : Bool} {dl du : Int} (w : World) (h : StM w B g v l ak sd dl du) (hk : ak ≤ l.length) (hl : l.length ≤ 1000) :
    Calls Try.prog 14 #[.pointer (some ⟨g, 0, none⟩)] w fun e w' => e = .returned (.int .i64 ((l.length : Int) - (ak : Int))) ∧ ∃ k, w' = w.drewN k := by
  obtain ⟨A, c, rfl, hc, _⟩ := h.form
  have h0 := h.blk.cell 0
  have h1 := h.blk.cell 1
  simp at h0 h1
  go_enter Try.func14, Try.ntmps14
  go_wp2
  go_quiet (fail)
  go_wp2
  go_ret
  exact ⟨rfl, _, rfl⟩
set_option maxHeartbeats 4000000 in
theorem Acked_g {B g : Nat} {v : Value} {l : List Int} {ak : Nat} {sd : Bool} {dl du : Int} (w : World) (h : StM w B g v l ak sd dl du) :
    Calls Try.prog 12 #[.pointer (some ⟨g, 0, none⟩)] w fun e w' => e = .returned (.int .i64 ak) ∧ w = w' := by
  have h1 : w.cell? ⟨g, 1, none⟩ = some (.int .i64 ak) := h.blk.cell 1
  go_enter Try.func12, Try.ntmps12
  go_wp2
  go_ret
  exact ⟨rfl, rfl⟩
set_option maxHeartbeats 4000000 in
theorem State_g {B g : Nat} {v : Value} {l : List Int} {ak : Nat} {sd : Bool} {dl du : Int} (w : World) (h : StM w B g v l ak sd dl du) (hl : l.length ≤ 1000) :
    Calls Try.prog 7 #[.pointer (some ⟨g, 0, none⟩)] w fun e w' => e = .returned (.int .i64 (stOf l)) ∧ ∃ k, w' = w.drewN k := by
  by_cases h0 : l = []
  · subst h0
    obtain ⟨A, c, rfl, hc, _⟩ := h.form
    have h0 : w.cell? ⟨g, 0, none⟩ = some (.slice A 0 c) := h.blk.cell 0
    go_enter Try.func7, Try.ntmps7
    go_wp2
    go_ret
    exact ⟨rfl, 0, rfl⟩
  · have hp : 0 < l.length := List.length_pos_iff.2 h0
    obtain ⟨n, hn⟩ : ∃ n, l.length = n + 1 := ⟨l.length - 1, by omega⟩
    obtain ⟨u, c, rfl, hc, hu, hne, k1, k2⟩ := h.at_ (k := n) (s := stOf l) (by
      unfold stOf
      rw [List.getLast?_eq_getElem?, show l.length - 1 = n by omega, List.getElem?_eq_getElem (by omega)])
    have h0 : w.cell? ⟨g, 0, none⟩ = some (.slice (some ⟨u, 0, none⟩) (n + 1) c) := by have := h.blk.cell 0; rw [hn] at this; exact this
    rw [hn] at hl hc
    generalize stOf l = s at *
    clear h hn hp
    have hz : ((n : Int) + 1 == 0) = false := by simp; omega
    go_enter Try.func7, Try.ntmps7
    go_wp2
    go_quiet (fail)
    go_wp2
    go_ret
    exact ⟨rfl, _, rfl⟩
/-- What Front tells. -/
def frontV (l : List Int) (ak : Nat) : Value := match l[ak]? with
  | some s => .tuple #[.agg #[.int .i64 ((ak : Int) + 1), .int .i64 s], .bool true]
  | none => .tuple #[.agg #[.int .i64 0, .int .i64 0], .bool false]
set_option maxHeartbeats 4000000 in
theorem Front_none {B g : Nat} {v : Value} {l : List Int} {ak : Nat} {sd : Bool} {dl du : Int} (w : World) (h : StM w B g v l ak sd dl du) (hk : ak = l.length) (hl : l.length ≤ 1000) :
    Calls Try.prog 23 #[.pointer (some ⟨g, 0, none⟩)] w fun e w' => e = .returned (.tuple #[.agg #[.int .i64 0, .int .i64 0], .bool false]) ∧ Below w.heap.size w w' := by
  have hP := fun o => Pending_g (w.alloc o) (h.alloc o) (by omega) hl
  rw [hk, Int.sub_self] at hP
  go_enter Try.func23, Try.ntmps23
  go_wp2_with (go_at_call 14; refine (hP _).mono ?_; rintro e w' ⟨rfl, kd, rfl⟩)
  refine bodyPost_ret (ret_cell2 rfl rfl ((((Blk.new w 30 #[.int .i64 0, .int .i64 0]).drewN _).set_ 0 _).set_ 1 _) Try.underlying30 rfl (by kernel_rfl)) rfl ?_
  exact ⟨rfl, by repeat (first | exact Below.refl _ _ | refine Below.drew ?_ | refine below_drewN ?_ _ | refine Below.alloc ?_ (by first | exact Nat.le_refl _ | (simp; done) | (simp; omega)) _ | refine Below.setCell ?_ (by first | exact Nat.le_refl _ | (simp; done) | (simp; omega)) _)⟩
set_option maxHeartbeats 4000000 in
theorem Front_some {B g : Nat} {v : Value} {l : List Int} {ak : Nat} {sd : Bool} {dl du : Int} {s : Int} (w : World) (h : StM w B g v l ak sd dl du) (hk : l[ak]? = some s) (hl : l.length ≤ 1000) :
    Calls Try.prog 23 #[.pointer (some ⟨g, 0, none⟩)] w fun e w' => e = .returned (.tuple #[.agg #[.int .i64 ((ak : Int) + 1), .int .i64 s], .bool true]) ∧ Below w.heap.size w w' := by
  have hlt := (List.getElem?_eq_some_iff.1 hk).1
  have hP := fun o => Pending_g (w.alloc o) (h.alloc o) (by omega) hl
  obtain ⟨u, c, rfl, hc, hu, hne, k1, k2⟩ := h.at_ hk
  have a0 : ∀ o, (w.alloc o).cell? ⟨g, 0, none⟩ = some (.slice (some ⟨u, 0, none⟩) l.length c) := fun o => (h.alloc o).blk.cell 0
  have a1 : ∀ o, (w.alloc o).cell? ⟨g, 1, none⟩ = some (.int .i64 ak) := fun o => (h.alloc o).blk.cell 1
  have a2 : ∀ o, (w.alloc o).cell? ⟨u, ak * 2, none⟩ = some (.int .i64 ((ak : Int) + 1)) := fun o => (World.cell?_alloc_lt w o _ hu).trans k1
  have a3 : ∀ o, (w.alloc o).cell? ⟨u, ak * 2 + 1, none⟩ = some (.int .i64 s) := fun o => (World.cell?_alloc_lt w o _ hu).trans k2
  have hz : ((l.length : Int) - (ak : Int) == 0) = false := by simp; omega
  have hltI : (ak : Int) < (l.length : Int) := by omega
  generalize l.length = n at *
  clear h hk k1 k2
  go_enter Try.func23, Try.ntmps23
  go_wp2_with (go_at_call 14; refine (hP _).mono ?_; rintro e w' ⟨rfl, kd, rfl⟩)
  go_region
  go_wp2
  refine bodyPost_ret (ret_cell2 rfl rfl ((((Blk.new w 30 #[.int .i64 0, .int .i64 0]).drewN _).set_ 0 _).set_ 1 _) Try.underlying30 rfl (by kernel_rfl)) rfl ?_
  exact ⟨rfl, by repeat (first | exact Below.refl _ _ | refine Below.drew ?_ | refine below_drewN ?_ _ | refine Below.alloc ?_ (by first | exact Nat.le_refl _ | (simp; done) | (simp; omega)) _ | refine Below.setCell ?_ (by first | exact Nat.le_refl _ | (simp; done) | (simp; omega)) _)⟩
theorem Front_g {B g : Nat} {v : Value} {l : List Int} {ak : Nat} {sd : Bool} {dl du : Int} (w : World) (h : StM w B g v l ak sd dl du) (hk : ak ≤ l.length) (hl : l.length ≤ 1000) :
    Calls Try.prog 23 #[.pointer (some ⟨g, 0, none⟩)] w fun e w' => e = .returned (frontV l ak) ∧ Below w.heap.size w w' := by
  unfold frontV
  rcases Nat.lt_or_ge ak l.length with h1 | h1
  · rw [List.getElem?_eq_getElem h1]
    exact Front_some w h (List.getElem?_eq_getElem h1) hl
  · rw [List.getElem?_eq_none h1]
    exact Front_none w h (by omega) hl
end Go.Proofs.Ytgeahhklhelifaa
