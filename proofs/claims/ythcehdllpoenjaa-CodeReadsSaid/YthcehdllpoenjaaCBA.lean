/- What the walk of CodeBack wants. -/
import Derived.Test.YthcehdllpoenjaaRdS
import Derived.Deep.CutRange
import Derived.Deep.DeepCutAuto
import Derived.Deep.CutBlock
import Derived.Deep.RegionHeld3
namespace Go.Proofs.Ythcehdllpoenjaa
open Go.ChangeShapes Go.WideShapes Go.ChangeAt Go.RowKit
set_option linter.unusedVariables false
theorem own_own_ne {w : World} {B B' : Nat} {e e' : TypeId} {z z' n n' : Nat} {v v' : Value} {xs xs' : List Value} (h : w.ownsRow B e z v n xs) (h' : w.ownsRow B' e' z' v' n' xs') (hne : e ≠ e') : v.ownBlock = none ∨ v.ownBlock ≠ v'.ownBlock := by
  rcases h.2 with ⟨rfl, _⟩ | ⟨g, cap, cur, rfl, _, hg, _⟩
  · exact .inl rfl
  · refine .inr ?_
    rcases h'.2 with ⟨rfl, _⟩ | ⟨g', cap', cur', rfl, _, hg', _⟩
    · simp [Value.ownBlock]
    · intro he
      have : g = g' := by simpa [Value.ownBlock] using he
      subst this
      exact Blk.ne_ (show Blk w g e cur from hg) (show Blk w g e' cur' from hg') hne rfl
theorem own_keep {w w' : World} {B : Nat} {e : TypeId} {z n : Nat} {v : Value} {xs : List Value} (h : w.ownsRow B e z v n xs) (hb : Below w.heap.size w w') : w'.ownsRow B e z v n xs := h.kept (only_of_below hb none) (Classical.em _)
theorem int_info : (Try.prog.info? 3).map (fun i => (i.zero, i.size, i.bytes)) = some (some (.int .i64 0), 1, 8) := by kernel_rfl
theorem str_info : (Try.prog.info? 9).map (fun i => (i.zero, i.size, i.bytes)) = some (some (.string ⟨#[]⟩), 1, 16) := by kernel_rfl
theorem numL_cases (n : Nat) (h : n < 34359738368) : ((numL n).length = 1 ∧ n < 128) ∨ ((numL n).length = 2 ∧ 128 ≤ n ∧ n < 16384) ∨ ((numL n).length = 3 ∧ 16384 ≤ n ∧ n < 2097152) ∨ ((numL n).length = 4 ∧ 2097152 ≤ n ∧ n < 268435456) ∨ ((numL n).length = 5 ∧ 268435456 ≤ n) := by
  unfold numL
  by_cases h1 : n < 128
  · left; rw [numF_small _ _ h1]; exact ⟨rfl, h1⟩
  right
  by_cases h2 : n < 16384
  · left; simp only [numF, if_neg h1, if_pos (show n / 128 < 128 by omega)]; exact ⟨rfl, by omega, h2⟩
  right
  by_cases h3 : n < 2097152
  · left; simp only [numF, if_neg h1, if_neg (show ¬ n / 128 < 128 by omega), if_pos (show n / 128 / 128 < 128 by omega)]; exact ⟨rfl, by omega, h3⟩
  right
  by_cases h4 : n < 268435456
  · left; simp only [numF, if_neg h1, if_neg (show ¬ n / 128 < 128 by omega), if_neg (show ¬ n / 128 / 128 < 128 by omega), if_pos (show n / 128 / 128 / 128 < 128 by omega)]; exact ⟨rfl, by omega, h4⟩
  right
  simp only [numF, if_neg h1, if_neg (show ¬ n / 128 < 128 by omega), if_neg (show ¬ n / 128 / 128 < 128 by omega), if_neg (show ¬ n / 128 / 128 / 128 < 128 by omega), if_pos (show n / 128 / 128 / 128 / 128 < 128 by omega)]
  exact ⟨rfl, by omega⟩
/-- What was written: numbers and texts, one behind the other. -/
def encQ : List (Nat × ByteArray) → List UInt8
  | [] => []
  | q :: r => (numL q.1 ++ textL q.2) ++ encQ r
theorem encQ_app : ∀ (l r : List (Nat × ByteArray)), encQ (l ++ r) = encQ l ++ encQ r
  | [], r => rfl
  | q :: l, r => by simp [encQ, encQ_app l r]
def OkQ (Q : List (Nat × ByteArray)) : Prop := ∀ q ∈ Q, q.1 < 34359738368 ∧ q.2.size ≤ 60
theorem numL_len (n : Nat) : 1 ≤ (numL n).length ∧ (numL n).length ≤ 6 := numF_len 5 n
theorem textL_len2 (s : ByteArray) (h : s.size ≤ 60) : (textL s).length ≤ 66 ∧ 1 ≤ (textL s).length := by
  unfold textL
  rw [if_pos (by omega)]
  have := numL_len s.size
  simp only [List.length_append, Array.length_toList, ByteArray.size_data]
  omega
theorem encQ_len : ∀ (Q : List (Nat × ByteArray)), OkQ Q → (encQ Q).length ≤ 72 * Q.length
  | [], _ => by simp [encQ]
  | q :: r, h => by
    have h1 := h q (by simp)
    have h2 := encQ_len r (fun x hx => h x (by simp [hx]))
    have h3 := numL_len q.1
    have h4 := textL_len2 q.2 h1.2
    simp only [encQ, List.length_append, List.length_cons]
    omega
theorem OkQ.snoc {Q : List (Nat × ByteArray)} (h : OkQ Q) {n : Nat} {s : ByteArray} (hn : n < 34359738368) (hs : s.size ≤ 60) : OkQ (Q ++ [(n, s)]) := by
  intro q hq
  rcases List.mem_append.1 hq with hq | hq
  · exact h q hq
  · simp at hq; subst hq; exact ⟨hn, hs⟩
theorem encQ_pos : ∀ (Q : List (Nat × ByteArray)), Q ≠ [] → 0 < (encQ Q).length
  | [], h => absurd rfl h
  | q :: r, _ => by have := numL_len q.1; simp only [encQ, List.length_append]; omega
/-- Where the i-th stands. -/
def posQ (Q : List (Nat × ByteArray)) (i : Nat) : Nat := (encQ (Q.take i)).length
theorem posQ_zero (Q : List (Nat × ByteArray)) : posQ Q 0 = 0 := rfl
theorem posQ_all (Q : List (Nat × ByteArray)) : posQ Q Q.length = (encQ Q).length := by unfold posQ; rw [List.take_length]
theorem encQ_at (Q : List (Nat × ByteArray)) (i : Nat) (q : Nat × ByteArray) (h : Q[i]? = some q) : (encQ Q).drop (posQ Q i) = numL q.1 ++ (textL q.2 ++ encQ (Q.drop (i + 1))) := by
  obtain ⟨hi, hq⟩ := List.getElem?_eq_some_iff.1 h
  have e : Q = Q.take i ++ (q :: Q.drop (i + 1)) := by
    rw [← hq, ← List.drop_eq_getElem_cons hi, List.take_append_drop]
  unfold posQ
  conv => lhs; rw [e, encQ_app]
  rw [List.take_left' (by rw [List.length_take]; omega), List.drop_left, encQ, List.append_assoc]
theorem posQ_succ (Q : List (Nat × ByteArray)) (i : Nat) (q : Nat × ByteArray) (h : Q[i]? = some q) : posQ Q (i + 1) = posQ Q i + (numL q.1).length + (textL q.2).length := by
  obtain ⟨hi, hq⟩ := List.getElem?_eq_some_iff.1 h
  unfold posQ
  rw [List.take_add_one, h, encQ_app]
  simp only [Option.toList_some, encQ, List.append_nil, List.length_append]
  omega
theorem readQ (Q : List (Nat × ByteArray)) (hQ : OkQ Q) (i : Nat) (q : Nat × ByteArray) (h : Q[i]? = some q) :
    ∃ p1, rdNum (encQ Q) (posQ Q i) false = ((q.1 : Int), p1, false) ∧ rdText (encQ Q) p1 false = (q.2.data.toList, posQ Q (i + 1), false) := by
  have hm := hQ q (List.mem_of_getElem? h)
  have h1 := encQ_at Q i q h
  refine ⟨posQ Q i + (numL q.1).length, rdNum_num _ _ _ _ hm.1 h1, ?_⟩
  have h2 : (encQ Q).drop (posQ Q i + (numL q.1).length) = (numL q.2.size ++ q.2.data.toList) ++ encQ (Q.drop (i + 1)) := by
    rw [← List.drop_drop, h1, List.drop_left]
    unfold textL
    rw [if_pos (by omega)]
  rw [rdText_text _ _ q.2 _ (by omega) h2, posQ_succ Q i q h]
  unfold textL
  rw [if_pos (by omega)]
  simp only [List.length_append, Array.length_toList, ByteArray.size_data]
  congr 2
  omega
theorem cb_ob {w : World} {B : Nat} {v : Value} {Q : List (Nat × ByteArray)} {n L T : Nat} {s : ByteArray} (h : w.ownsRow B 5 1 v ((encQ Q).length + L + T) (bytesV (encQ Q) ++ bytesV (numL n) ++ bytesV (textL s))) (hL : (numL n).length = L) (hT : (textL s).length = T) :
    w.ownsRow B 5 1 v (encQ (Q ++ [(n, s)])).length (bytesV (encQ (Q ++ [(n, s)]))) := by
  have e : encQ (Q ++ [(n, s)]) = encQ Q ++ numL n ++ textL s := by rw [encQ_app]; simp [encQ, List.append_assoc]
  have e2 : bytesV (encQ Q ++ numL n ++ textL s) = bytesV (encQ Q) ++ bytesV (numL n) ++ bytesV (textL s) := by simp [bytesV]
  rw [e, e2]
  subst hL hT
  rwa [show (encQ Q ++ numL n ++ textL s).length = (encQ Q).length + (numL n).length + (textL s).length by simp; omega]
theorem RdS.drew {w : World} {B g : Nat} {l : List UInt8} {p : Nat} {b : Bool} (h : RdS w B g l p b) : RdS w.drew B g l p b := h.grow (only_drew (World.grownBy.refl w none))
theorem RdS.blk {w : World} {B g : Nat} {l : List UInt8} {p : Nat} {b : Bool} (h : RdS w B g l p b) : ∃ cs, Blk w g 47 cs := by
  obtain ⟨A, cp, hb, -⟩ := h.ex
  exact ⟨_, hb⟩
theorem own_rds {w w' : World} {B B' g p : Nat} {e : TypeId} {z n : Nat} {v : Value} {xs : List Value} {l : List UInt8} {b : Bool} (h : w.ownsRow B e z v n xs) (hR : RdS w B' g l p b) (hne : e ≠ 47) (hg : w.grownBy w' (some g)) : w'.ownsRow B e z v n xs := by
  obtain ⟨cs, hb⟩ := hR.blk
  exact h.kept hg (.inr (own_blk_ne h hb hne))
section
variable {w : World} {B g : Nat} {l : List UInt8} {p : Nat} {b : Bool}
theorem RdS.DoneT (h : RdS w B g l l.length false) :
    Calls Try.prog 18 #[.pointer (some ⟨g, 0, none⟩)] w fun e w' => e = .returned (.bool true) ∧ ∃ m, w' = w.drewN m := by
  have := h.Done
  simpa using this
theorem RdS.DoneF (h : RdS w B g l p true) :
    Calls Try.prog 18 #[.pointer (some ⟨g, 0, none⟩)] w fun e w' => e = .returned (.bool false) ∧ ∃ m, w' = w.drewN m := by
  have := h.Done
  simpa using this
theorem RdS.NumEnd (h : RdS w B g l l.length false) :
    Calls Try.prog 14 #[.pointer (some ⟨g, 0, none⟩)] w fun e w' => e = .returned (.int .i64 0) ∧ RdS w' B g l l.length true ∧ w.grownBy w' (some g) := by
  have := h.Number
  rwa [rdNum_end] at this
theorem RdS.TextBad (h : RdS w B g l p true) :
    Calls Try.prog 16 #[.pointer (some ⟨g, 0, none⟩)] w fun e w' => e = .returned (.string ⟨#[]⟩) ∧ RdS w' B g l p true ∧ w.grownBy w' (some g) := by
  have := h.Text
  rwa [rdText_bad] at this
theorem RdS.NumQ {Q : List (Nat × ByteArray)} {k p1 : Nat} {q : Nat × ByteArray} (h : RdS w B g (encQ Q) (posQ Q k) false) (h1 : rdNum (encQ Q) (posQ Q k) false = ((q.1 : Int), p1, false)) :
    Calls Try.prog 14 #[.pointer (some ⟨g, 0, none⟩)] w fun e w' => e = .returned (.int .i64 (q.1 : Int)) ∧ RdS w' B g (encQ Q) p1 false ∧ w.grownBy w' (some g) := by
  have := h.Number
  rwa [h1] at this
theorem RdS.TextQ {Q : List (Nat × ByteArray)} {k p1 : Nat} {q : Nat × ByteArray} (h : RdS w B g (encQ Q) p1 false) (h1 : rdText (encQ Q) p1 false = (q.2.data.toList, posQ Q (k + 1), false)) :
    Calls Try.prog 16 #[.pointer (some ⟨g, 0, none⟩)] w fun e w' => e = .returned (.string q.2) ∧ RdS w' B g (encQ Q) (posQ Q (k + 1)) false ∧ w.grownBy w' (some g) := by
  have := h.Text
  rw [h1] at this
  have e : (⟨q.2.data.toList.toArray⟩ : ByteArray) = q.2 := by simp
  rwa [e] at this
end
theorem own_some {w : World} {B : Nat} {e : TypeId} {z n c : Nat} {A : Option Addr} {xs : List Value} (h : w.ownsRow B e z (.slice A n c) n xs) (hn : 0 < n) : ∃ g, A = some ⟨g, 0, none⟩ := by
  rcases h.2 with ⟨h1, _⟩ | ⟨g, cap, cur, h1, _⟩
  · injection h1 with h1 h2 h3
    omega
  · injection h1 with h1 h2 h3
    exact ⟨g, h1⟩
theorem New_t (A : Option Addr) (n cp C : Nat) (l : List UInt8) (w : World) (hl : l.length = n) (hr : Reads w C 1 A n (bytesV l)) (hn : n ≤ 1048576) :
    Calls Try.prog 12 #[.slice A n cp] w fun e w' => ∃ g, e = .returned (.pointer (some ⟨g, 0, none⟩)) ∧ RdS w' w.heap.size g l 0 false ∧ Below w.heap.size w w' := by
  subst hl
  exact New_s A cp C l w hr (by omega)
theorem stepTake (Q : List (Nat × ByteArray)) (hQ : OkQ Q) (m k : Nat) (q : Nat × ByteArray) (hq : Q[k]? = some q) (p : Nat) (b : Bool) (h : b = false → p = posQ Q k) (hp : p ≤ ((encQ Q).take m).length)
    (h2 : (rdText ((encQ Q).take m) (rdNum ((encQ Q).take m) p b).2.1 (rdNum ((encQ Q).take m) p b).2.2).2.2 = false) :
    (rdText ((encQ Q).take m) (rdNum ((encQ Q).take m) p b).2.1 (rdNum ((encQ Q).take m) p b).2.2).2.1 = posQ Q (k + 1) := by
  obtain ⟨p1, e1, e2⟩ := readQ Q hQ k q hq
  have hbd := rdNum_bd ((encQ Q).take m) p b hp
  have hb1 : (rdNum ((encQ Q).take m) p b).2.2 = false := by
    cases h9 : (rdNum ((encQ Q).take m) p b).2.2 with
    | false => rfl
    | true => rw [h9, rdText_bad] at h2; cases h2
  have hb : b = false := by
    cases b with
    | false => rfl
    | true => rw [rdNum_bad] at hb1; cases hb1
  subst hb
  have hpe := h rfl
  subst hpe
  have e3 := rdNum_take _ m _ false hp hb1
  rw [hb1] at h2 ⊢
  have e4 := rdText_take _ m _ false hbd.2.2.2.1 h2
  rw [e4.1, e3, e1]
  show (rdText (encQ Q) p1 false).2.1 = _
  rw [e2]
end Go.Proofs.Ythcehdllpoenjaa
