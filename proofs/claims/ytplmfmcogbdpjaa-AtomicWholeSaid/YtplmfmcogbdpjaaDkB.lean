/- A disk: a file under another name. -/
import Derived.Test.YtplmfmcogbdpjaaDkA
namespace Go.Proofs.Ytplmfmcogbdpjaa.Dk
open Go Go.RowKit Go.Proofs.Ytplmfmcogbdpjaa Go.Proofs.Ytplmfmcogbdpjaa.Crw Go.Proofs.Ytplmfmcogbdpjaa.Vl Go.ChangeShapes Go.WideShapes Go.ChangeAt
set_option linter.unusedVariables false
set_option maxRecDepth 100000
section
variable {w w' : World} {B d mb : Nat} {U V : Nat → Prop} {s s' : Ds} {F : List Fi} {p q : ByteArray}
/-- A file goes by another name. -/
theorem DkP.move (h : DkP w B d mb V s F) {j : Nat} {x : Fi} (hj : F[j]? = some x) (hno : ∀ (k : Nat) (y : Fi), F[k]? = some y → k ≠ j → hitP q y = false) (hvol : Vol (fun b => b = d ∨ b = mb) w w') (hdb : Blk w' d 80 (dsC s' mb)) (hmp : MapB w' mb ((F.eraseIdx j ++ [{ x with p := q }]).map fiE)) :
    DkP w' B d mb V s' (F.eraseIdx j ++ [{ x with p := q }]) := by
  have get : ∀ {k : Nat} {y : Fi}, (F.eraseIdx j ++ [{ x with p := q }])[k]? = some y → (k = (F.eraseIdx j).length ∧ y = { x with p := q }) ∨ (k < (F.eraseIdx j).length ∧ ∃ k', F[k']? = some y ∧ k' ≠ j ∧ ((k < j ∧ k' = k) ∨ (j ≤ k ∧ k' = k + 1))) := fun {k y} hk => by
    rcases fget_push hk with h1 | ⟨h1, h2⟩
    · exact .inl h1
    · exact .inr ⟨h1, fget_erase h2⟩
  refine ⟨hdb, hmp, fun k y hy => ?_, fun k y hy => ?_, fun i k y z hy hz e => ?_, fun i k y z hy hz e => ?_, fun i k y z hy hz e => ?_, h.vm, fun k y hy => ?_, fun b hb => Nat.lt_of_lt_of_le (h.lt b hb) hvol.size, h.ge⟩
  · have key : ∀ (k' : Nat) (z : Fi), F[k']? = some z → Blk w' z.g 86 (fiC z) := fun k' z hz => blk_vol (h.fls k' z hz) hvol (by
      rintro (e | e)
      · exact blk_ne (h.fls k' z hz) h.blk (by decide) e
      · exact blk_map_ne (h.fls k' z hz) h.mp e)
    rcases get hy with ⟨_, rfl⟩ | ⟨_, k', hk, _⟩
    · exact key j x hj
    · exact key k' y hk
  · have key : ∀ (k' : Nat) (z : Fi), F[k']? = some z → w'.ownsRow B 5 1 z.v z.bs.length (bsV z.bs) := fun k' z hz => own_vol (h.rows k' z hz) hvol (by
      rintro b hb (e | e)
      · subst e
        exact own_blk_ne (h.rows k' z hz) h.blk (by decide) hb
      · exact own_map_ne (h.rows k' z hz) h.mp (by rw [hb, e]))
    rcases get hy with ⟨_, rfl⟩ | ⟨_, k', hk, _⟩
    · exact key j x hj
    · exact key k' y hk
  · rcases get hy with ⟨e1, rfl⟩ | ⟨l1, i', hi, ni, o1⟩
    · rcases get hz with ⟨e2, _⟩ | ⟨l2, k', hk, nk, o2⟩
      · omega
      · have h1 := hno k' z hk nk
        rw [hitP_sym e] at h1
        cases h1
    · rcases get hz with ⟨e2, rfl⟩ | ⟨l2, k', hk, nk, o2⟩
      · have h1 := hno i' y hi ni
        rw [show hitP q y = true from e] at h1
        cases h1
      · have := h.uniq i' k' y z hi hk e
        omega
  · rcases get hy with ⟨e1, rfl⟩ | ⟨l1, i', hi, ni, o1⟩
    · rcases get hz with ⟨e2, _⟩ | ⟨l2, k', hk, nk, o2⟩
      · omega
      · exact absurd (h.apart j k' x z hj hk e).symm nk
    · rcases get hz with ⟨e2, rfl⟩ | ⟨l2, k', hk, nk, o2⟩
      · exact absurd (h.apart i' j y x hi hj e) ni
      · have := h.apart i' k' y z hi hk e
        omega
  · rcases get hy with ⟨e1, rfl⟩ | ⟨l1, i', hi, ni, o1⟩
    · rcases get hz with ⟨e2, _⟩ | ⟨l2, k', hk, nk, o2⟩
      · omega
      · exact h.apartV j k' x z hj hk (fun e => nk e.symm)
    · rcases get hz with ⟨e2, rfl⟩ | ⟨l2, k', hk, nk, o2⟩
      · exact h.apartV i' j y x hi hj ni
      · exact h.apartV i' k' y z hi hk (by omega)
  · rcases get hy with ⟨_, rfl⟩ | ⟨_, k', hk, _⟩
    · exact h.vx j x hj
    · exact h.vx k' y hk
end
end Go.Proofs.Ytplmfmcogbdpjaa.Dk
