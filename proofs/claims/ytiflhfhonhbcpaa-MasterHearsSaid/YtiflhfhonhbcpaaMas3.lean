/- What becomes of the master when one of its tasks turns, or comes. -/
import Derived.Test.YtiflhfhonhbcpaaMas2
namespace Go.Proofs.Ytiflhfhonhbcpaa.Mas
open Go Go.RowKit Go.Proofs.Ytiflhfhonhbcpaa Go.Proofs.Ytiflhfhonhbcpaa.Crw Go.ChangeShapes Go.WideShapes Go.ChangeAt
set_option linter.unusedVariables false
set_option maxRecDepth 100000
section
variable {w w' : World} {B m mb : Nat} {V U : Nat → Prop} {R : List Tk}
theorem own_vol {e : TypeId} {z n : Nat} {v : Value} {xs : List Value} (h : w.ownsRow B e z v n xs) (hv : Vol U w w') (hn : ∀ b, v.ownBlock = some b → ¬ U b) : w'.ownsRow B e z v n xs := by
  refine ⟨h.1, ?_⟩
  rcases h.2 with h1 | ⟨g, cap, cur, h1, h2, h3, h4⟩
  · exact .inl h1
  · subst h1
    have hlt := (Array.getElem?_eq_some_iff.1 h3).1
    exact .inr ⟨g, cap, cur, rfl, h2, (hv.block g hlt (hn g rfl)).trans h3, h4⟩
theorem own_map_ne {e : TypeId} {z n b : Nat} {v : Value} {xs : List Value} {kvs : List (Value × Value)} (h : w.ownsRow B e z v n xs) (hm : MapAt w b kvs) : v.ownBlock ≠ some b := by
  obtain ⟨es, ck, hb, _⟩ := hm
  rcases h.2 with ⟨rfl, _⟩ | ⟨g, cap, cur, rfl, _, h3, _⟩
  · simp [Value.ownBlock]
  · intro he
    have : g = b := by simpa [Value.ownBlock] using he
    subst this
    rw [h3] at hb
    cases hb
theorem blk_map_ne {g b : Nat} {t : TypeId} {cs : Array Value} {kvs : List (Value × Value)} (h : Blk w g t cs) (hm : MapAt w b kvs) : g ≠ b := by
  rintro rfl
  obtain ⟨es, ck, hb, _⟩ := hm
  have h' : w.heap[g]? = some (.cells cs t (0, 0)) := h
  rw [h'] at hb
  cases hb
theorem blk_vol {g : Nat} {t : TypeId} {cs : Array Value} (h : Blk w g t cs) (hv : Vol U w w') (hn : ¬ U g) : Blk w' g t cs := (hv.block g h.lt hn).trans h
theorem blk_ne {g g' : Nat} {t t' : TypeId} {cs cs' : Array Value} (h : Blk w g t cs) (h' : Blk w g' t' cs') (hne : t ≠ t') : g ≠ g' := by
  rintro rfl
  have h1 : w.heap[g]? = some (.cells cs t (0, 0)) := h
  have h2 : w.heap[g]? = some (.cells cs' t' (0, 0)) := h'
  rw [h1] at h2
  injection h2 with h2
  injection h2 with _ h2 _
  exact hne h2
theorem get_set {R : List Tk} {j k : Nat} {x y : Tk} (h : (R.set j x)[k]? = some y) : (k = j ∧ y = x) ∨ (k ≠ j ∧ R[k]? = some y) := by
  rw [List.getElem?_set] at h
  by_cases e : j = k
  · subst e
    rw [if_pos rfl] at h
    split at h
    · injection h with h; exact .inl ⟨rfl, h.symm⟩
    · cases h
  · rw [if_neg e] at h
    exact .inr ⟨fun e' => e e'.symm, h⟩
/-- A task has turned. -/
theorem MsP.turn (h : MsP w B m mb V R) {j : Nat} {x x' : Tk} (hj : R[j]? = some x) (hf : x'.f = x.f) (ht : x'.t = x.t) (hg : x'.g = x.g) (hvol : Vol (fun b => b = x.g ∨ x.v.ownBlock = some b) w w')
    (hblk : Blk w' x.g 107 #[.int .i64 x'.st, x'.v]) (hrow : w'.ownsRow B 3 1 x'.v x'.ns.length (ints x'.ns)) (hv : ∀ b, x'.v.ownBlock = some b → x.v.ownBlock = some b ∨ w.heap.size ≤ b) :
    MsP w' B m mb (fun b => V b ∨ (w.heap.size ≤ b ∧ x'.v.ownBlock = some b)) (R.set j x') := by
  have hx := h.tks j x hj
  have hr := h.rows j x hj
  have hjl := (List.getElem?_eq_some_iff.1 hj).1
  have hmp : (R.set j x').map tkE = R.map tkE := by
    rw [List.map_set, show tkE x' = tkE x by simp [tkE, hf, ht, hg]]
    apply List.ext_getElem?
    intro i
    rw [List.getElem?_set]
    split
    · rename_i e
      subst e
      rw [if_pos (by simpa using hjl), List.getElem?_map, hj]
      rfl
    · rfl
  refine ⟨blk_vol h.blk hvol ?_, ?_, fun k y hy => ?_, fun k y hy => ?_, fun i k y z hy hz e => ?_, fun i k y z hy hz e => ?_, fun i k y z hy hz e => ?_, ⟨.inl h.vm.1, .inl h.vm.2⟩, fun k y hy => ?_, fun b hb => ?_, fun b hb => ?_⟩
  · rintro (e | e)
    · exact blk_ne h.blk hx (by decide) e
    · exact own_blk_ne hr h.blk (by decide) e
  · rw [hmp]
    refine h.mp.keep (hvol.block _ h.mp.lt ?_)
    rintro (e | e)
    · exact blk_map_ne hx h.mp e.symm
    · exact own_map_ne hr h.mp e
  · rcases get_set hy with ⟨_, rfl⟩ | ⟨hne, hy⟩
    · rw [hg]; exact hblk
    · refine blk_vol (h.tks k y hy) hvol ?_
      rintro (e | e)
      · exact hne (h.apart k j y x hy hj e)
      · exact own_blk_ne hr (h.tks k y hy) (by decide) e
  · rcases get_set hy with ⟨_, rfl⟩ | ⟨hne, hy⟩
    · exact hrow
    · refine own_vol (h.rows k y hy) hvol ?_
      rintro b hb (e | e)
      · subst e
        exact own_blk_ne (h.rows k y hy) hx (by decide) hb
      · rcases h.apartV k j y x hy hj hne with h1 | h1
        · rw [h1] at hb; cases hb
        · exact h1 (by rw [hb, e])
  · have key : ∀ (i : Nat) (y : Tk), (R.set j x')[i]? = some y → ∃ y0, R[i]? = some y0 ∧ y.f = y0.f ∧ y.t = y0.t := fun i y hy => by
      rcases get_set hy with ⟨rfl, rfl⟩ | ⟨_, hy⟩
      · exact ⟨x, hj, hf, ht⟩
      · exact ⟨y, hy, rfl, rfl⟩
    obtain ⟨y0, hy0, e1, e2⟩ := key i y hy
    obtain ⟨z0, hz0, e3, e4⟩ := key k z hz
    refine h.uniq i k y0 z0 hy0 hz0 ?_
    unfold same at e ⊢
    rw [← e1, ← e2, ← e3, ← e4]
    exact e
  · have key : ∀ (i : Nat) (y : Tk), (R.set j x')[i]? = some y → ∃ y0, R[i]? = some y0 ∧ y.g = y0.g := fun i y hy => by
      rcases get_set hy with ⟨rfl, rfl⟩ | ⟨_, hy⟩
      · exact ⟨x, hj, hg⟩
      · exact ⟨y, hy, rfl⟩
    obtain ⟨y0, hy0, e1⟩ := key i y hy
    obtain ⟨z0, hz0, e3⟩ := key k z hz
    exact h.apart i k y0 z0 hy0 hz0 (by rw [← e1, ← e3, e])
  · rcases get_set hy with ⟨rfl, rfl⟩ | ⟨hne, hy'⟩
    · rcases get_set hz with ⟨rfl, _⟩ | ⟨hne2, hz⟩
      · exact absurd rfl e
      · cases hb : y.v.ownBlock with
        | none => exact .inl rfl
        | some b =>
          refine .inr fun e2 => ?_
          rcases hv b hb with h1 | h1
          · rcases h.apartV i k x z hj hz e with h2 | h2
            · rw [h2] at h1; cases h1
            · exact h2 (h1.trans e2)
          · have := h.lt b ((h.vx k z hz).2 b e2.symm)
            omega
    · rcases get_set hz with ⟨rfl, rfl⟩ | ⟨hne2, hz⟩
      · cases hb : y.v.ownBlock with
        | none => exact .inl rfl
        | some b =>
          refine .inr fun e2 => ?_
          rcases hv b e2.symm with h1 | h1
          · rcases h.apartV i k y x hy' hj e with h2 | h2
            · rw [h2] at hb; cases hb
            · exact h2 (hb.trans h1.symm)
          · have := h.lt b ((h.vx i y hy').2 b hb)
            omega
      · exact h.apartV i k y z hy' hz e
  · rcases get_set hy with ⟨_, rfl⟩ | ⟨hne, hy⟩
    · refine ⟨.inl (by rw [hg]; exact (h.vx j x hj).1), fun b hb => ?_⟩
      rcases hv b hb with h1 | h1
      · exact .inl ((h.vx j x hj).2 b h1)
      · exact .inr ⟨h1, hb⟩
    · exact ⟨.inl (h.vx k y hy).1, fun b hb => .inl ((h.vx k y hy).2 b hb)⟩
  · rcases hb with hb | ⟨_, hb⟩
    · exact Nat.lt_of_lt_of_le (h.lt b hb) hvol.size
    · exact (hrow.lt b hb).2
  · rcases hb with hb | ⟨_, hb⟩
    · exact h.ge b hb
    · exact (hrow.lt b hb).1
theorem same_sym {x y : Tk} (h : same y.f y.t x = true) : same x.f x.t y = true := by
  unfold same at *
  simp only [Bool.and_eq_true, decide_eq_true_eq] at *
  exact ⟨h.1.symm, h.2.symm⟩
theorem get_push {R : List Tk} {k : Nat} {x y : Tk} (h : (R ++ [x])[k]? = some y) : (k = R.length ∧ y = x) ∨ (k < R.length ∧ R[k]? = some y) := by
  rcases Nat.lt_or_ge k R.length with e | e
  · rw [List.getElem?_append_left e] at h
    exact .inr ⟨e, h⟩
  · rw [List.getElem?_append_right e] at h
    have : k - R.length = 0 := by
      have := (List.getElem?_eq_some_iff.1 h).1
      simp at this
      omega
    rw [this] at h
    injection h with h
    exact .inl ⟨by omega, h.symm⟩
/-- A task has come. -/
theorem MsP.push (h : MsP w B m mb V R) (x' : Tk) (hno : ∀ (k : Nat) (x : Tk), R[k]? = some x → same x'.f x'.t x = false) (hvol : Vol (fun b => b = mb) w w') (hmp : MapAt w' mb ((R ++ [x']).map tkE)) (hge : w.heap.size ≤ x'.g)
    (hblk : Blk w' x'.g 107 #[.int .i64 x'.st, x'.v]) (hrow : w'.ownsRow B 3 1 x'.v x'.ns.length (ints x'.ns)) (hv : ∀ b, x'.v.ownBlock = some b → w.heap.size ≤ b) :
    MsP w' B m mb (fun b => V b ∨ (w.heap.size ≤ b ∧ (b = x'.g ∨ x'.v.ownBlock = some b))) (R ++ [x']) := by
  have hBw : B ≤ w.heap.size := Nat.le_trans (h.ge m h.vm.1) (Nat.le_of_lt h.blk.lt)
  refine ⟨blk_vol h.blk hvol (blk_map_ne h.blk h.mp), hmp, fun k y hy => ?_, fun k y hy => ?_, fun i k y z hy hz e => ?_, fun i k y z hy hz e => ?_, fun i k y z hy hz e => ?_, ⟨.inl h.vm.1, .inl h.vm.2⟩, fun k y hy => ?_, fun b hb => ?_, fun b hb => ?_⟩
  · rcases get_push hy with ⟨_, rfl⟩ | ⟨_, hy⟩
    · exact hblk
    · exact blk_vol (h.tks k y hy) hvol (blk_map_ne (h.tks k y hy) h.mp)
  · rcases get_push hy with ⟨_, rfl⟩ | ⟨_, hy⟩
    · exact hrow
    · exact own_vol (h.rows k y hy) hvol (fun b hb e => own_map_ne (h.rows k y hy) h.mp (by rw [hb, e]))
  · rcases get_push hy with ⟨e1, e2⟩ | ⟨_, hy'⟩
    · rcases get_push hz with ⟨e3, _⟩ | ⟨_, hz'⟩
      · omega
      · rw [e2] at e
        have := hno k z hz'
        rw [same_sym e] at this
        cases this
    · rcases get_push hz with ⟨_, e3⟩ | ⟨_, hz'⟩
      · rw [e3] at e
        rw [hno i y hy'] at e
        cases e
      · exact h.uniq i k y z hy' hz' e
  · rcases get_push hy with ⟨e1, e2⟩ | ⟨_, hy'⟩
    · rcases get_push hz with ⟨e3, _⟩ | ⟨_, hz'⟩
      · omega
      · have := (h.tks k z hz').lt
        rw [← e, e2] at this
        omega
    · rcases get_push hz with ⟨_, e3⟩ | ⟨_, hz'⟩
      · have := (h.tks i y hy').lt
        rw [e, e3] at this
        omega
      · exact h.apart i k y z hy' hz' e
  · rcases get_push hy with ⟨e1, e2⟩ | ⟨_, hy'⟩
    · rcases get_push hz with ⟨e3, _⟩ | ⟨_, hz'⟩
      · omega
      · cases hb : y.v.ownBlock with
        | none => exact .inl rfl
        | some b =>
          refine .inr fun e5 => ?_
          have h1 := hv b (by rw [← e2]; exact hb)
          have h2 := h.lt b ((h.vx k z hz').2 b e5.symm)
          omega
    · rcases get_push hz with ⟨_, e3⟩ | ⟨_, hz'⟩
      · cases hb : y.v.ownBlock with
        | none => exact .inl rfl
        | some b =>
          refine .inr fun e5 => ?_
          have h1 := hv b (by rw [← e3]; exact e5.symm)
          have h2 := h.lt b ((h.vx i y hy').2 b hb)
          omega
      · exact h.apartV i k y z hy' hz' e
  · rcases get_push hy with ⟨_, rfl⟩ | ⟨_, hy'⟩
    · exact ⟨.inr ⟨hge, .inl rfl⟩, fun b hb => .inr ⟨hv b hb, .inr hb⟩⟩
    · exact ⟨.inl (h.vx k y hy').1, fun b hb => .inl ((h.vx k y hy').2 b hb)⟩
  · rcases hb with hb | ⟨_, rfl | hb⟩
    · exact Nat.lt_of_lt_of_le (h.lt b hb) hvol.size
    · exact hblk.lt
    · exact (hrow.lt b hb).2
  · rcases hb with hb | ⟨h1, _⟩
    · exact h.ge b hb
    · omega
end
end Go.Proofs.Ytiflhfhonhbcpaa.Mas
