/- The plain hands hear a message. -/
import Derived.Test.YtiflhfhonhbcpaaHwU
namespace Go.Proofs.Ytiflhfhonhbcpaa.Hw
open Go Go.RowKit Go.Proofs.Ytiflhfhonhbcpaa Go.Proofs.Ytiflhfhonhbcpaa.Crw Go.Proofs.Ytiflhfhonhbcpaa.Vl Go.ChangeShapes Go.WideShapes Go.ChangeAt
set_option linter.unusedVariables false
set_option maxRecDepth 1000000
section
variable {w w' : World} {B h : Nat} {V U : Nat → Prop} {A : List Aq} {K : List Ky}
/-- The plain hands over plain lists. -/
def RAt (w : World) (B h : Nat) (V : Nat → Prop) (A : List Aq) (K : List Ky) : Prop := ∃ L v lv, RqP w B h V L K v lv ∧ L.map aq = A
def RHrd (w : World) (B h : Nat) (V : Nat → Prop) (A : List Aq) (K : List Ky) (X : List Ms) (u : Value) (w' : World) : Prop :=
  ∃ V', RAt w' B h V' A K ∧ (∀ b, V b → V' b) ∧ (∀ b, V' b → V b ∨ w.heap.size ≤ b) ∧ Vol V w w' ∧ Win w' w.heap.size 30 9 u X.length (mssV X) ∧ ∀ c, u.ownBlock = some c → ¬ V' c
theorem RAt.vol (H : RAt w B h V A K) (hv : Vol U w w') (hd : ∀ b, V b → ¬ U b) : RAt w' B h V A K := by
  obtain ⟨L, v, lv, H, h1⟩ := H
  exact ⟨L, v, lv, H.vol hv hd, h1⟩
theorem RAt.below (H : RAt w B h V A K) (hb : Below w.heap.size w w') : RAt w' B h V A K := H.vol (U := fun _ => False) (Vol.of_below hb) (fun _ _ => id)
theorem RAt.lt (H : RAt w B h V A K) : ∀ b, V b → b < w.heap.size := by
  obtain ⟨L, v, lv, H, h1⟩ := H
  exact H.lt
theorem RAt.ge (H : RAt w B h V A K) : ∀ b, V b → B ≤ b := by
  obtain ⟨L, v, lv, H, h1⟩ := H
  exact H.ge
theorem RAt.ok (H : RAt w B h V A K) : AOk A := by
  obtain ⟨L, v, lv, H, rfl⟩ := H
  intro i j p q hp hq e
  rw [List.getElem?_map] at hp hq
  obtain ⟨p', hp', rfl⟩ := Option.map_eq_some_iff.1 hp
  obtain ⟨q', hq', rfl⟩ := Option.map_eq_some_iff.1 hq
  exact H.ps.uniq i j p' q' hp' hq' e
theorem RHrd.none (H : RAt w B h V A K) (hb : Below w.heap.size w w') : RHrd w B h V A K [] (.slice none 0 0) w' :=
  ⟨V, H.below hb, fun _ => id, fun _ => .inl, Vol.of_below hb, Win.nil _ _ _ _, fun c hc => by simp [Value.ownBlock] at hc⟩
theorem live_at {L : List Pr} {r : Pm} {ts : List Tq} (hm : (⟨r, true, ts⟩ : Aq) ∈ L.map aq) : ∃ (j : Nat) (p : Pr), L[j]? = some p ∧ p.lv = true ∧ p.r = r ∧ p.ts = ts := by
  obtain ⟨p, hp, e⟩ := List.mem_map.1 hm
  obtain ⟨j, hj⟩ := List.getElem?_of_mem hp
  simp only [aq, Aq.mk.injEq] at e
  exact ⟨j, p, hj, e.2.1, e.1, e.2.2⟩
theorem dead_at {L : List Pr} {r : Pm} (hn : ∀ p ∈ L.map aq, p.lv = true → p.r ≠ r) : ∀ (j : Nat) (p : Pr), L[j]? = some p → p.lv = true → p.r ≠ r :=
  fun j p hp hl => hn (aq p) (List.mem_map.2 ⟨p, List.mem_of_getElem? hp, rfl⟩) hl
set_option maxHeartbeats 4000000 in
/-- The plain hands hear a message. -/
theorem RHear {A1 : List Aq} {K1 : List Ky} {X : List Ms} {k : Int} {r : Pm} {t tm : ByteArray} {its : Value} (ht : k = 15 → tm = t) (hR : HearR k r t A K A1 K1 X) (H : RAt w B h V A K) (hs : Sm 100 A K) (hi : k = 14 → ∃ gi, its = .slice (some ⟨gi, 0, none⟩) 1 1 ∧ Blk w gi 57 #[.string t, one_]) :
    Calls Try.prog 27 #[.pointer (some ⟨h, 0, none⟩), .agg (mgA k r tm its)] w fun e9 w' => ∃ u, e9 = .returned u ∧ RHrd w B h V A1 K1 X u w' := by
  have HR := H
  obtain ⟨L, v, lv, H, rfl⟩ := H
  have hL : L.length ≤ 100 := by have := hs.1; rwa [List.length_map] at this
  have hfi : ∀ {r : Pm} {p : Pr} {j : Nat}, L[j]? = some p → p.r = r → ∀ (i : Nat) (q : Pr), L[i]? = some q → q.r = p.r → i = j := fun hj _ i q hq e => H.ps.uniq i _ q _ hq hj e
  cases hR with
  | startOld hk hm =>
    subst hk
    refine (R_start H hL r tm its).mono ?_
    rintro e9 w2 (⟨-, rfl, hb⟩ | ⟨hn, -⟩)
    · exact ⟨_, rfl, RHrd.none HR hb⟩
    · obtain ⟨p, hp, e⟩ := hm
      obtain ⟨q, hq, rfl⟩ := List.mem_map.1 hp
      obtain ⟨j, hj⟩ := List.getElem?_of_mem hq
      exact absurd e (hn j q hj)
  | startNew hk hn =>
    subst hk
    refine (R_start H hL r tm its).mono ?_
    rintro e9 w2 (⟨⟨j, p, hj, e⟩, -⟩ | ⟨-, c, V', v', p, rfl, q1, q2, q3, q4, q5, q6, q7, q8, q9, q10⟩)
    · exact absurd e (hn (aq p) (List.mem_map.2 ⟨p, List.mem_of_getElem? hj, rfl⟩))
    · refine ⟨_, rfl, V', ⟨_, v', lv, q7, ?_⟩, q8, q9, q10, win_one q1 q2, fun c' e => ?_⟩
      · rw [List.map_append]
        simp [aq, q4, q5, q6]
      · injection e with e; rw [← e]; exact q3
  | none hk hn =>
    refine (R_none H hL (k := k) (by omega) (dead_at hn) tm its).mono ?_
    rintro e9 w2 ⟨rfl, hb⟩
    exact ⟨_, rfl, RHrd.none HR hb⟩
  | launchOld ts hk hm hkn =>
    subst hk
    obtain ⟨gi, rfl, hgi⟩ := hi rfl
    obtain ⟨j, p, hj, hlv, hp, hts⟩ := live_at hm
    refine (R_launch H hL tm hgi hj hlv hp (by rw [hts]; exact hs.2.1 _ hm) hs.2.2).mono ?_
    rintro e9 w2 ⟨rfl, hq⟩
    rcases hq with ⟨-, hb⟩ | ⟨hno, -⟩
    · exact ⟨_, rfl, RHrd.none HR hb⟩
    · exact absurd hkn hno
  | launchNew ts hk hm hkn =>
    subst hk
    obtain ⟨gi, rfl, hgi⟩ := hi rfl
    obtain ⟨j, p, hj, hlv, hp, hts⟩ := live_at hm
    refine (R_launch H hL tm hgi hj hlv hp (by rw [hts]; exact hs.2.1 _ hm) hs.2.2).mono ?_
    rintro e9 w2 ⟨rfl, hq⟩
    rcases hq with ⟨hy, -⟩ | ⟨-, V', tv, lv', q1, q2, q3, q4⟩
    · exact absurd hy hkn
    · refine ⟨_, rfl, V', ⟨_, v, lv', q1, ?_⟩, q2, q3, q4, Win.nil _ _ _ _, fun c hc => by simp [Value.ownBlock] at hc⟩
      rw [upd_set (f := give t) hj (hfi hj hp) rfl, hp]
  | endNo ts hk hm hno =>
    subst hk
    obtain rfl := ht rfl
    obtain ⟨j, p, hj, hlv, hp, hts⟩ := live_at hm
    refine (R_end H hL tm its hj hlv hp (by rw [hts]; exact hs.2.1 _ hm)).mono ?_
    rintro e9 w2 hq
    rcases hq with ⟨-, rfl, hb⟩ | ⟨i, c, V', tv, ⟨x, q1, q2, -⟩, -⟩
    · exact ⟨_, rfl, RHrd.none HR hb⟩
    · exact absurd q2 (hno i x (by rw [← hts]; exact q1))
  | endYes ts i hk hm hf =>
    subst hk
    obtain rfl := ht rfl
    obtain ⟨j, p, hj, hlv, hp, hts⟩ := live_at hm
    refine (R_end H hL tm its hj hlv hp (by rw [hts]; exact hs.2.1 _ hm)).mono ?_
    rintro e9 w2 hq
    obtain ⟨x, f1, f2, f3⟩ := hf
    rcases hq with ⟨hno, -⟩ | ⟨i', c, V', tv, ⟨x', q1, q2, q3⟩, rfl, g1, g2, g3, g4, g5, g6, g7⟩
    · exact absurd f2 (hno i x (by rw [hts]; exact f1))
    · rw [hts] at q1 q3
      have hii : i' = i := by
        rcases Nat.lt_trichotomy i' i with e | e | e
        · exact absurd q2 (f3 i' x' e q1)
        · exact e
        · exact absurd f2 (q3 i x e f1)
      subst hii
      refine ⟨_, rfl, V', ⟨_, v, lv, g4, ?_⟩, g5, g6, g7, win_one (by rw [← hp]; exact g1) g2, fun c' e => ?_⟩
      · rw [upd_set (f := drop i') hj (hfi hj hp) rfl, hp]
      · injection e with e; rw [← e]; exact g3
  | stop ts hk hm =>
    obtain ⟨j, p, hj, hlv, hp, hts⟩ := live_at hm
    have fin : ∀ {e9 : Ending} {w2 : World}, RStopP w B h V L K v lv j p e9 w2 → ∃ u, e9 = .returned u ∧ RHrd w B h V (upd (L.map aq) r kill) K [⟨9, r, noB, 0⟩] u w2 := by
      rintro e9 w2 ⟨c, rfl, q1, q2, q3, q4, q5⟩
      refine ⟨_, rfl, V, ⟨_, v, lv, q4, ?_⟩, fun _ => id, fun _ => .inl, q5, win_one (by rw [← hp]; exact q1) q2, fun c' e => ?_⟩
      · rw [upd_set (f := kill) hj (hfi hj hp) rfl, hp]
      · injection e with e; rw [← e]; exact q3
    rcases hk with rfl | rfl
    · exact (R_stop16 H hL tm its hj hlv hp).mono fun _ _ => fin
    · exact (R_stop17 H hL tm its hj hlv hp).mono fun _ _ => fin
  | other h13 h14 h15 h16 h17 =>
    rcases Classical.em (∃ (j : Nat) (p : Pr), L[j]? = some p ∧ p.lv = true ∧ p.r = r) with ⟨j, p, hj, hlv, hp⟩ | hno
    · refine (R_other H hL h13 h14 h15 h16 h17 tm its hj hlv hp).mono ?_
      rintro e9 w2 ⟨rfl, hb⟩
      exact ⟨_, rfl, RHrd.none HR hb⟩
    · refine (R_none H hL (k := k) h13 (fun j p hj hl e => hno ⟨j, p, hj, hl, e⟩) tm its).mono ?_
      rintro e9 w2 ⟨rfl, hb⟩
      exact ⟨_, rfl, RHrd.none HR hb⟩
end
end Go.Proofs.Ytiflhfhonhbcpaa.Hw
