/- A master of one task. -/
import Derived.Test.YtiflhfhonhbcpaaMas7
import Derived.Test.YtiflhfhonhbcpaaSameInt
namespace Go.Proofs.Ytiflhfhonhbcpaa.Mas
open Go Go.RowKit Go.Proofs.Ytiflhfhonhbcpaa Go.Proofs.Ytiflhfhonhbcpaa.Crw Go.ChangeShapes Go.WideShapes Go.ChangeAt
set_option linter.unusedVariables false
set_option maxRecDepth 100000
section
variable {w w' : World} {B m mb : Nat} {V U : Nat → Prop} {R : List Tk}
theorem MsP.vol (h : MsP w B m mb V R) (hv : Vol U w w') (hd : ∀ b, V b → ¬ U b) : MsP w' B m mb V R :=
  ⟨blk_vol h.blk hv (hd _ h.vm.1), h.mp.keep (hv.block _ h.mp.lt (hd _ h.vm.2)), fun k x hx => blk_vol (h.tks k x hx) hv (hd _ (h.vx k x hx).1), fun k x hx => own_vol (h.rows k x hx) hv (fun b hb => hd b ((h.vx k x hx).2 b hb)), h.uniq, h.apart, h.apartV, h.vm, h.vx, fun b hb => Nat.lt_of_lt_of_le (h.lt b hb) hv.size, h.ge⟩
/-- One number more, if it is not the last one. -/
def addN (ns : List Int) (nu : Int) : List Int := if ns[ns.length - 1]? = some nu then ns else ns ++ [nu]
theorem addN_nil (nu : Int) : addN [] nu = [nu] := by simp [addN]
theorem addN_len (ns : List Int) (nu : Int) : (addN ns nu).length ≤ ns.length + 1 := by
  unfold addN
  split
  · omega
  · simp
theorem addN_ne (ns : List Int) (nu : Int) : addN ns nu ≠ [] := by
  unfold addN
  split
  · rename_i h
    intro e
    rw [e] at h
    simp at h
  · simp
def OneR (F T : ByteArray) (ns : List Int) (R : List Tk) : Prop := (R = [] ∧ ns = []) ∨ ∃ x, R = [x] ∧ x.f = F ∧ x.t = T ∧ x.ns = ns ∧ ns ≠ []
theorem HearOne (h : MsP w B m mb V R) {F T e : ByteArray} {ns : List Int} (hR : OneR F T ns R) (hl : ns.length ≤ 900) (n st nu ep : Int) :
    Calls Try.prog 18 #[.pointer (some ⟨m, 0, none⟩), .agg (msgC F e T n st nu ep)] w fun r w' => ∃ c, r = .returned (.slice (some ⟨c, 0, none⟩) 1 1) ∧ Blk w' c 30 (ackC F T nu ep) ∧ Heard w B m mb V (fun R1 => ∃ x, R1 = [x] ∧ x.f = F ∧ x.t = T ∧ x.st = st ∧ x.ns = addN ns nu) c w' := by
  refine Hear_of h fun w1 h1 _ => ?_
  rcases hR with ⟨rfl, rfl⟩ | ⟨x, rfl, hf, ht, hn, hne⟩
  · refine (note_new h1 (fun k x hx => by simp at hx) n st nu ep).mono ?_
    rintro r w' ⟨hr, V', R1, ⟨g, v', rfl⟩, h2⟩
    exact ⟨hr, V', _, ⟨_, rfl, rfl, rfl, rfl, by rw [addN_nil]⟩, h2⟩
  · have hs : same F T x = true := by rw [← hf, ← ht]; exact same_self x
    obtain ⟨q, hq⟩ : ∃ q, ns.length = q + 1 := ⟨ns.length - 1, by have : 0 < ns.length := List.length_pos_iff.2 hne; omega⟩
    have hlast : ns[q]? = some (ns[q]'(by omega)) := List.getElem?_eq_getElem _
    generalize ns[q]'(by omega) = la at hlast
    by_cases hla : la = nu
    · refine (note_same h1 (j := 0) (q := q) (x := x) rfl hs n st nu ep (by rw [hn, hq]) (by omega) (by rw [hn, hlast, hla])).mono ?_
      rintro r w' ⟨hr, V', R1, hR1, h2⟩
      subst hR1
      exact ⟨hr, V', _, ⟨{ x with st := st }, rfl, hf, ht, rfl, by show x.ns = _; rw [hn]; unfold addN; rw [hq, Nat.add_sub_cancel, hlast, if_pos (by rw [hla])]⟩, h2⟩
    · refine (note_more h1 (j := 0) (q := q) (x := x) rfl hs n st nu ep (by rw [hn, hq]) (by omega) (la := la) (by rw [hn, hlast]) (by simpa using hla)).mono ?_
      rintro r w' ⟨hr, V', R1, ⟨v', hR1⟩, h2⟩
      subst hR1
      exact ⟨hr, V', _, ⟨{ x with st := st, v := v', ns := x.ns ++ [nu] }, rfl, hf, ht, rfl, by show x.ns ++ [nu] = _; rw [hn]; unfold addN; rw [hq, Nat.add_sub_cancel, hlast, if_neg (by simpa using hla)]⟩, h2⟩
theorem HeardOne (h : MsP w B m mb V R) {F T : ByteArray} {ns : List Int} (hR : OneR F T ns R) (hl : ns.length ≤ 900) :
    Calls Try.prog 22 #[.pointer (some ⟨m, 0, none⟩), .agg #[.string F, .string T]] w fun e w' => ∃ v', e = .returned v' ∧ w'.ownsRow w.heap.size 3 1 v' ns.length (ints ns) ∧ Below w.heap.size w w' := by
  rcases hR with ⟨rfl, rfl⟩ | ⟨x, rfl, hf, ht, hn, hne⟩
  · refine (Heard_no h (fun k x hx => by simp at hx)).mono ?_
    rintro e w' ⟨rfl, hb⟩
    exact ⟨_, rfl, ⟨by simp, .inl ⟨rfl, rfl⟩⟩, hb⟩
  · have hs : same F T x = true := by rw [← hf, ← ht]; exact same_self x
    have := Heard_yes h (j := 0) (x := x) rfl hs (by rw [hn]; omega)
    rw [hn] at this
    exact this
theorem HeardNone (h : MsP w B m mb V R) {F G T : ByteArray} {ns : List Int} (hR : OneR F T ns R) (hG : decide (G.data.toList = F.data.toList) = false) :
    Calls Try.prog 22 #[.pointer (some ⟨m, 0, none⟩), .agg #[.string G, .string T]] w fun e w' => e = .returned (.slice none 0 0) ∧ Below w.heap.size w w' := by
  refine Heard_no h fun k x hx => ?_
  rcases hR with ⟨rfl, rfl⟩ | ⟨y, rfl, hf, ht, hn, hne⟩
  · simp at hx
  · have hxy : x = y := by
      cases k with
      | zero => simpa using hx.symm
      | succ k => simp at hx
    subst hxy
    unfold same
    rw [hf, hG]
    rfl
theorem SameI_eq {A A' : Option Addr} {n c c' B B' : Nat} {l : List Int} (w : World) (h : w.ownsRow B 3 1 (.slice A n c) n (ints l)) (h' : w.ownsRow B' 3 1 (.slice A' n c') n (ints l)) (hn : n ≤ 900) :
    Calls Try.prog 21 #[.slice A n c, .slice A' n c'] w fun e w' => e = .returned (.bool true) ∧ Below w.heap.size w w' := by
  have := SameI A A' n c n c' l l w.heap.size w.heap.size w (Nat.le_refl _) (Nat.le_refl _) (Reads.of_own h) (Reads.of_own h') (by omega) (by omega)
  rw [decide_eq_true rfl] at this
  exact this
end
end Go.Proofs.Ytiflhfhonhbcpaa.Mas
