/-
  For every input, the statement PlayKills returns true and leaves its arguments as they were. No conditions.
-/
import Derived.Test.YtokggoojpjhloaaGreatDoorPKW0
import Derived.Test.YtokggoojpjhloaaGreatDoorPKW1
import Derived.Test.YtokggoojpjhloaaGreatDoorPKW2
import Derived.Test.YtokggoojpjhloaaGreatDoorPKW3
import Derived.Test.YtokggoojpjhloaaGreatDoorPKW4
import Derived.Test.YtokggoojpjhloaaGreatDoorPKW5
import Derived.Test.YtokggoojpjhloaaGreatDoorPKW6
import Derived.Test.YtokggoojpjhloaaGreatDoorPKW7
import Derived.Test.YtokggoojpjhloaaGreatDoorRows
import Derived.ProofKit
import Derived.SevenTiedAt
import Derived.LaidMore
import Derived.LaidHandle
import Derived.Stop.Joined
import Derived.Test.YtokggoojpjhloaaGreatDoorCards
import Derived.Test.YtokggoojpjhloaaGreatDoorTie
namespace Go.Proofs.YtokggoojpjhloaaGreatDoor.playKills
open Go Go.ChangeShapes Go.WideShapes Go.ChangeAt Go.RowKit
set_option maxRecDepth 1000000
theorem clo : Tryz.prog.closure 4 = [4, 17, 16, 6, 26, 49, 82, 132, 192, 247, 248, 283, 285, 286, 284, 27, 28, 50, 83, 57, 97, 155, 98, 157, 223, 224, 156, 214, 220, 272, 215, 267, 216, 268, 269, 217, 270, 271, 291, 218, 219, 221, 222, 133, 193, 249, 94, 151, 212, 93, 150, 152, 59, 84, 135, 134, 194, 136, 137, 138, 139, 140, 195, 196, 250, 197, 251, 198, 85, 141, 199, 200, 252, 287, 294, 300, 301, 305, 306, 302, 303, 307, 308, 309, 310, 142, 201, 202, 203, 253, 205, 257, 206, 204, 100, 254, 288, 295, 304, 255, 61, 102, 101, 158, 103, 160, 159, 225, 161, 226, 227, 162, 289, 296, 256, 86, 143, 208, 260, 207, 258, 259, 58, 209, 210, 153, 48, 170, 80, 261, 110, 176, 81, 177, 245, 246, 241, 51, 52, 44, 75, 129, 35, 74, 53, 79, 131, 54, 87, 145, 149, 144, 88, 146, 92, 147, 184, 211, 262, 263, 290, 297, 89, 90, 148, 91, 77, 130, 55, 56, 24, 95, 96, 154, 178, 213, 265, 264, 266, 179, 37, 38, 18, 11, 33, 60, 99, 14, 36, 65, 111, 66, 67, 112, 113, 114, 180, 63, 109, 108, 68, 115, 116, 181, 69, 118, 117, 182, 119, 183, 120, 121, 185, 32, 64, 40, 70, 122, 39, 10, 31, 62, 104, 163, 76, 78, 164, 165, 228, 274, 273, 166, 167, 168, 229, 275, 230, 276, 105, 169, 106, 107, 171, 231, 243, 233, 279, 278, 232, 277, 234, 280, 292, 298, 299, 293, 235, 236, 237, 281, 172, 173, 238, 282, 174, 239, 240, 175, 242, 244, 12, 34, 41, 71, 123, 72, 124, 125, 126, 187, 186, 188, 127, 190, 189, 191, 19, 20, 21, 13, 22, 42, 43, 73, 128, 45, 46, 47, 23, 25] := by kernel_rfl
theorem inp : Tryz.prog.inPlace 4 = ["math.archTrunc", "math.Float64bits", "math.Float64frombits", "slices.overlaps[hostler/bin.Box]"] := by unfold Program.inPlace; rw [clo]; kernel_rfl
theorem unf : Tryz.prog.unfollowed 4 = true := by unfold Program.unfollowed; rw [clo]; kernel_rfl
theorem rcs : Tryz.prog.recurses 4 = true := by unfold Program.recurses; rw [unf]; rfl
theorem vars : Tryz.prog.varsNamed 4 = ["internal/strconv.uint64pow10", "math/bits.deBruijn32tab", "math/bits.deBruijn64tab"] := by unfold Program.varsNamed; rw [clo]; kernel_rfl
theorem goesNot : Tryz.prog.goes 4 = false := by unfold Program.goes; rw [clo, unf]; kernel_rfl
theorem closed : joinedFacts Tryz.prog 4 Tryz.f4 Rows.playKillsSpec Rows.playKillsRow = true := by unfold joinedFacts; rw [inp, unf, rcs, vars]; kernel_rfl
theorem named : Tryz.prog.funcNamed "hostler/hostlerlaw24.PlayKills" = some 4 := by kernel_rfl
theorem goesIt : false = Rows.playKillsRow.goesBy Tryz.pinned.checked.prog := by
  have h : Rows.playKillsRow.goesBy Tryz.pinned.checked.prog = ((Tryz.prog.funcNamed "hostler/hostlerlaw24.PlayKills").any Tryz.prog.goes || false) := rfl
  rw [h, named, Option.any_some, goesNot]
  rfl
end Go.Proofs.YtokggoojpjhloaaGreatDoor.playKills
namespace Go.Proofs.YtokggoojpjhloaaGreatDoor.playKills
open Go Go.ChangeShapes Go.WideShapes Go.ChangeAt Go.RowKit
set_option maxRecDepth 1000000
set_option linter.unusedVariables false
theorem walk (v0 : Value) (a1 : Bool) (w : World) (b0 : BoolsArg w v0) :
    Calls Tryz.prog 4 #[v0, .bool a1] w fun e w' => e = .returned (.bool true) ∧ Below w.heap.size w w' := by
  letI : Toks := ⟨fun _ => 0⟩
  have hcfg : CfgOk Tryz.prog cfg := ⟨overW_ok [] (fun _ hq => nomatch hq) (fun _ hq => nomatch hq), summAll2_ok, summAll2_mono⟩
  have fin : ∀ (u : Value) (e : Bool) (obs : List (AObj × Loc)), at_ u e (heapOf (obs.map (·.1))) = true → ArgsHeld obs w → e = a1 → VR (fun i => (obs[i]?).map (·.2)) u v0 →
      Calls Tryz.prog 4 #[v0, .bool a1] w fun e w' => e = .returned (.bool true) ∧ Below w.heap.size w w' := by
    intro u e obs hc hob he hr
    subst he
    exact top_args tabAll2_ok hcfg mixed 3000 60 w hob (.cons hr (.cons (VR.flat rfl) .nil)) hc
  rcases b0 with rfl | ⟨b, off, n, c, cs, el, fz, xs, rfl, hnc, hw, hlen, hx⟩
  · cases a1
    · exact fin _ _ [] nil_0 (fun q hq => nomatch hq) rfl (VR.flat rfl)
    · exact fin _ _ [] nil_1 (fun q hq => nomatch hq) rfl (VR.flat rfl)
  · match xs, hlen, hx with
    | [], hlen, hx =>
      obtain rfl : n = 0 := by simpa using hlen.symm
      cases a1
      · exact fin _ _ [(⟨_, el, 2, 1⟩, ⟨b, c, off⟩)] (c_0 el) (bools_held hw hx (r := []) (by simp)) rfl (bools_rel hnc)
      · exact fin _ _ [(⟨_, el, 2, 1⟩, ⟨b, c, off⟩)] (c_1 el) (bools_held hw hx (r := []) (by simp)) rfl (bools_rel hnc)
    | [x0], hlen, hx =>
      obtain rfl : n = 1 := by simp at hlen; omega
      cases x0
      · cases a1
        · exact fin _ _ [(⟨_, el, 2, 1⟩, ⟨b, c, off⟩)] (c0_0 el) (bools_held hw hx (r := []) (by simp)) rfl (bools_rel hnc)
        · exact fin _ _ [(⟨_, el, 2, 1⟩, ⟨b, c, off⟩)] (c0_1 el) (bools_held hw hx (r := []) (by simp)) rfl (bools_rel hnc)
      · cases a1
        · exact fin _ _ [(⟨_, el, 2, 1⟩, ⟨b, c, off⟩)] (c1_0 el) (bools_held hw hx (r := []) (by simp)) rfl (bools_rel hnc)
        · exact fin _ _ [(⟨_, el, 2, 1⟩, ⟨b, c, off⟩)] (c1_1 el) (bools_held hw hx (r := []) (by simp)) rfl (bools_rel hnc)
    | [x0, x1], hlen, hx =>
      obtain rfl : n = 2 := by simp at hlen; omega
      cases x0
      · cases x1
        · cases a1
          · exact fin _ _ [(⟨_, el, 2, 1⟩, ⟨b, c, off⟩)] (c00_0 el) (bools_held hw hx (r := []) (by simp)) rfl (bools_rel hnc)
          · exact fin _ _ [(⟨_, el, 2, 1⟩, ⟨b, c, off⟩)] (c00_1 el) (bools_held hw hx (r := []) (by simp)) rfl (bools_rel hnc)
        · cases a1
          · exact fin _ _ [(⟨_, el, 2, 1⟩, ⟨b, c, off⟩)] (c01_0 el) (bools_held hw hx (r := []) (by simp)) rfl (bools_rel hnc)
          · exact fin _ _ [(⟨_, el, 2, 1⟩, ⟨b, c, off⟩)] (c01_1 el) (bools_held hw hx (r := []) (by simp)) rfl (bools_rel hnc)
      · cases x1
        · cases a1
          · exact fin _ _ [(⟨_, el, 2, 1⟩, ⟨b, c, off⟩)] (c10_0 el) (bools_held hw hx (r := []) (by simp)) rfl (bools_rel hnc)
          · exact fin _ _ [(⟨_, el, 2, 1⟩, ⟨b, c, off⟩)] (c10_1 el) (bools_held hw hx (r := []) (by simp)) rfl (bools_rel hnc)
        · cases a1
          · exact fin _ _ [(⟨_, el, 2, 1⟩, ⟨b, c, off⟩)] (c11_0 el) (bools_held hw hx (r := []) (by simp)) rfl (bools_rel hnc)
          · exact fin _ _ [(⟨_, el, 2, 1⟩, ⟨b, c, off⟩)] (c11_1 el) (bools_held hw hx (r := []) (by simp)) rfl (bools_rel hnc)
    | [x0, x1, x2], hlen, hx =>
      obtain rfl : n = 3 := by simp at hlen; omega
      cases x0
      · cases x1
        · cases x2
          · cases a1
            · exact fin _ _ [(⟨_, el, 2, 1⟩, ⟨b, c, off⟩)] (c000_0 el) (bools_held hw hx (r := []) (by simp)) rfl (bools_rel hnc)
            · exact fin _ _ [(⟨_, el, 2, 1⟩, ⟨b, c, off⟩)] (c000_1 el) (bools_held hw hx (r := []) (by simp)) rfl (bools_rel hnc)
          · cases a1
            · exact fin _ _ [(⟨_, el, 2, 1⟩, ⟨b, c, off⟩)] (c001_0 el) (bools_held hw hx (r := []) (by simp)) rfl (bools_rel hnc)
            · exact fin _ _ [(⟨_, el, 2, 1⟩, ⟨b, c, off⟩)] (c001_1 el) (bools_held hw hx (r := []) (by simp)) rfl (bools_rel hnc)
        · cases x2
          · cases a1
            · exact fin _ _ [(⟨_, el, 2, 1⟩, ⟨b, c, off⟩)] (c010_0 el) (bools_held hw hx (r := []) (by simp)) rfl (bools_rel hnc)
            · exact fin _ _ [(⟨_, el, 2, 1⟩, ⟨b, c, off⟩)] (c010_1 el) (bools_held hw hx (r := []) (by simp)) rfl (bools_rel hnc)
          · cases a1
            · exact fin _ _ [(⟨_, el, 2, 1⟩, ⟨b, c, off⟩)] (c011_0 el) (bools_held hw hx (r := []) (by simp)) rfl (bools_rel hnc)
            · exact fin _ _ [(⟨_, el, 2, 1⟩, ⟨b, c, off⟩)] (c011_1 el) (bools_held hw hx (r := []) (by simp)) rfl (bools_rel hnc)
      · cases x1
        · cases x2
          · cases a1
            · exact fin _ _ [(⟨_, el, 2, 1⟩, ⟨b, c, off⟩)] (c100_0 el) (bools_held hw hx (r := []) (by simp)) rfl (bools_rel hnc)
            · exact fin _ _ [(⟨_, el, 2, 1⟩, ⟨b, c, off⟩)] (c100_1 el) (bools_held hw hx (r := []) (by simp)) rfl (bools_rel hnc)
          · cases a1
            · exact fin _ _ [(⟨_, el, 2, 1⟩, ⟨b, c, off⟩)] (c101_0 el) (bools_held hw hx (r := []) (by simp)) rfl (bools_rel hnc)
            · exact fin _ _ [(⟨_, el, 2, 1⟩, ⟨b, c, off⟩)] (c101_1 el) (bools_held hw hx (r := []) (by simp)) rfl (bools_rel hnc)
        · cases x2
          · cases a1
            · exact fin _ _ [(⟨_, el, 2, 1⟩, ⟨b, c, off⟩)] (c110_0 el) (bools_held hw hx (r := []) (by simp)) rfl (bools_rel hnc)
            · exact fin _ _ [(⟨_, el, 2, 1⟩, ⟨b, c, off⟩)] (c110_1 el) (bools_held hw hx (r := []) (by simp)) rfl (bools_rel hnc)
          · cases a1
            · exact fin _ _ [(⟨_, el, 2, 1⟩, ⟨b, c, off⟩)] (c111_0 el) (bools_held hw hx (r := []) (by simp)) rfl (bools_rel hnc)
            · exact fin _ _ [(⟨_, el, 2, 1⟩, ⟨b, c, off⟩)] (c111_1 el) (bools_held hw hx (r := []) (by simp)) rfl (bools_rel hnc)
    | x0 :: x1 :: x2 :: x3 :: r, hlen, hx =>
      obtain rfl : n = (r.length + 4) := by simp at hlen; omega
      cases x0
      · cases x1
        · cases x2
          · cases x3
            · cases a1
              · exact fin _ _ [(⟨_, el, 2, 1⟩, ⟨b, c, off⟩)] (c0000_0 el r.length) (bools_held hw hx (r := r) (by simp)) rfl (bools_rel hnc)
              · exact fin _ _ [(⟨_, el, 2, 1⟩, ⟨b, c, off⟩)] (c0000_1 el r.length) (bools_held hw hx (r := r) (by simp)) rfl (bools_rel hnc)
            · cases a1
              · exact fin _ _ [(⟨_, el, 2, 1⟩, ⟨b, c, off⟩)] (c0001_0 el r.length) (bools_held hw hx (r := r) (by simp)) rfl (bools_rel hnc)
              · exact fin _ _ [(⟨_, el, 2, 1⟩, ⟨b, c, off⟩)] (c0001_1 el r.length) (bools_held hw hx (r := r) (by simp)) rfl (bools_rel hnc)
          · cases x3
            · cases a1
              · exact fin _ _ [(⟨_, el, 2, 1⟩, ⟨b, c, off⟩)] (c0010_0 el r.length) (bools_held hw hx (r := r) (by simp)) rfl (bools_rel hnc)
              · exact fin _ _ [(⟨_, el, 2, 1⟩, ⟨b, c, off⟩)] (c0010_1 el r.length) (bools_held hw hx (r := r) (by simp)) rfl (bools_rel hnc)
            · cases a1
              · exact fin _ _ [(⟨_, el, 2, 1⟩, ⟨b, c, off⟩)] (c0011_0 el r.length) (bools_held hw hx (r := r) (by simp)) rfl (bools_rel hnc)
              · exact fin _ _ [(⟨_, el, 2, 1⟩, ⟨b, c, off⟩)] (c0011_1 el r.length) (bools_held hw hx (r := r) (by simp)) rfl (bools_rel hnc)
        · cases x2
          · cases x3
            · cases a1
              · exact fin _ _ [(⟨_, el, 2, 1⟩, ⟨b, c, off⟩)] (c0100_0 el r.length) (bools_held hw hx (r := r) (by simp)) rfl (bools_rel hnc)
              · exact fin _ _ [(⟨_, el, 2, 1⟩, ⟨b, c, off⟩)] (c0100_1 el r.length) (bools_held hw hx (r := r) (by simp)) rfl (bools_rel hnc)
            · cases a1
              · exact fin _ _ [(⟨_, el, 2, 1⟩, ⟨b, c, off⟩)] (c0101_0 el r.length) (bools_held hw hx (r := r) (by simp)) rfl (bools_rel hnc)
              · exact fin _ _ [(⟨_, el, 2, 1⟩, ⟨b, c, off⟩)] (c0101_1 el r.length) (bools_held hw hx (r := r) (by simp)) rfl (bools_rel hnc)
          · cases x3
            · cases a1
              · exact fin _ _ [(⟨_, el, 2, 1⟩, ⟨b, c, off⟩)] (c0110_0 el r.length) (bools_held hw hx (r := r) (by simp)) rfl (bools_rel hnc)
              · exact fin _ _ [(⟨_, el, 2, 1⟩, ⟨b, c, off⟩)] (c0110_1 el r.length) (bools_held hw hx (r := r) (by simp)) rfl (bools_rel hnc)
            · cases a1
              · exact fin _ _ [(⟨_, el, 2, 1⟩, ⟨b, c, off⟩)] (c0111_0 el r.length) (bools_held hw hx (r := r) (by simp)) rfl (bools_rel hnc)
              · exact fin _ _ [(⟨_, el, 2, 1⟩, ⟨b, c, off⟩)] (c0111_1 el r.length) (bools_held hw hx (r := r) (by simp)) rfl (bools_rel hnc)
      · cases x1
        · cases x2
          · cases x3
            · cases a1
              · exact fin _ _ [(⟨_, el, 2, 1⟩, ⟨b, c, off⟩)] (c1000_0 el r.length) (bools_held hw hx (r := r) (by simp)) rfl (bools_rel hnc)
              · exact fin _ _ [(⟨_, el, 2, 1⟩, ⟨b, c, off⟩)] (c1000_1 el r.length) (bools_held hw hx (r := r) (by simp)) rfl (bools_rel hnc)
            · cases a1
              · exact fin _ _ [(⟨_, el, 2, 1⟩, ⟨b, c, off⟩)] (c1001_0 el r.length) (bools_held hw hx (r := r) (by simp)) rfl (bools_rel hnc)
              · exact fin _ _ [(⟨_, el, 2, 1⟩, ⟨b, c, off⟩)] (c1001_1 el r.length) (bools_held hw hx (r := r) (by simp)) rfl (bools_rel hnc)
          · cases x3
            · cases a1
              · exact fin _ _ [(⟨_, el, 2, 1⟩, ⟨b, c, off⟩)] (c1010_0 el r.length) (bools_held hw hx (r := r) (by simp)) rfl (bools_rel hnc)
              · exact fin _ _ [(⟨_, el, 2, 1⟩, ⟨b, c, off⟩)] (c1010_1 el r.length) (bools_held hw hx (r := r) (by simp)) rfl (bools_rel hnc)
            · cases a1
              · exact fin _ _ [(⟨_, el, 2, 1⟩, ⟨b, c, off⟩)] (c1011_0 el r.length) (bools_held hw hx (r := r) (by simp)) rfl (bools_rel hnc)
              · exact fin _ _ [(⟨_, el, 2, 1⟩, ⟨b, c, off⟩)] (c1011_1 el r.length) (bools_held hw hx (r := r) (by simp)) rfl (bools_rel hnc)
        · cases x2
          · cases x3
            · cases a1
              · exact fin _ _ [(⟨_, el, 2, 1⟩, ⟨b, c, off⟩)] (c1100_0 el r.length) (bools_held hw hx (r := r) (by simp)) rfl (bools_rel hnc)
              · exact fin _ _ [(⟨_, el, 2, 1⟩, ⟨b, c, off⟩)] (c1100_1 el r.length) (bools_held hw hx (r := r) (by simp)) rfl (bools_rel hnc)
            · cases a1
              · exact fin _ _ [(⟨_, el, 2, 1⟩, ⟨b, c, off⟩)] (c1101_0 el r.length) (bools_held hw hx (r := r) (by simp)) rfl (bools_rel hnc)
              · exact fin _ _ [(⟨_, el, 2, 1⟩, ⟨b, c, off⟩)] (c1101_1 el r.length) (bools_held hw hx (r := r) (by simp)) rfl (bools_rel hnc)
          · cases x3
            · cases a1
              · exact fin _ _ [(⟨_, el, 2, 1⟩, ⟨b, c, off⟩)] (c1110_0 el r.length) (bools_held hw hx (r := r) (by simp)) rfl (bools_rel hnc)
              · exact fin _ _ [(⟨_, el, 2, 1⟩, ⟨b, c, off⟩)] (c1110_1 el r.length) (bools_held hw hx (r := r) (by simp)) rfl (bools_rel hnc)
            · cases a1
              · exact fin _ _ [(⟨_, el, 2, 1⟩, ⟨b, c, off⟩)] (c1111_0 el r.length) (bools_held hw hx (r := r) (by simp)) rfl (bools_rel hnc)
              · exact fin _ _ [(⟨_, el, 2, 1⟩, ⟨b, c, off⟩)] (c1111_1 el r.length) (bools_held hw hx (r := r) (by simp)) rfl (bools_rel hnc)
end Go.Proofs.YtokggoojpjhloaaGreatDoor.playKills
namespace Go.Proofs.YtokggoojpjhloaaGreatDoor.playKills
open Go.ChangeShapes Go.WideShapes Go.ChangeAt Go.RowKit
set_option linter.unusedVariables false

theorem own : ownKnob Tryz.prog.godebug = none := by kernel_rfl
theorem laidOut : laidOutB Tryz.prog = true := by kernel_rfl

def lvars : List (String × DataW Unit) := [("math/bits.deBruijn32tab", Rows.laid_math_bits_deBruijn32tab), ("math/bits.deBruijn64tab", Rows.laid_math_bits_deBruijn64tab), ("internal/strconv.uint64pow10", Rows.laid_internal_strconv_uint64pow10)]
/-- The door's own heap meets the condition. -/
theorem door_met (os : Os) (args : Array Value) : laidMetH Tryz.prog lvars ((World.doorLaid Tryz.prog 4000 os).forCall (fun _ _ => 0) ⟨#[], args, []⟩).memory :=
  laidMetH_of_parts3 (fuel := 8) (laidMet_of_run' 8 (by kernel_rfl) (by kernel_rfl)) (by kernel_rfl) (by kernel_rfl)
set_option maxRecDepth 100000 in
theorem lifted (os : Os) (started : os.Started) (H : Type) (enc : TypeId × Value → H) :
    ReturnsInHanded {} Tryz.checked os 4 .any (fun w args => (Rows.playKillsSpec.pre enc Tryz.prog Tryz.f4 [] false w args ∧ laidMetH Tryz.prog lvars w) ∧ sizedMet enc Tryz.prog Tryz.f4 (OpenSpec.ofChange Rows.playKillsSpec) false w args)
      (Rows.playKillsSpec.post enc Tryz.prog Tryz.f4 false true false false) := by
  refine returnsInHanded_of_change_and (C := Tryz.checked) (X := fun w _ => laidMetH Tryz.prog lvars w) (fun _ _ _ hh h => h.of_heap hh) own started (by kernel_rfl) Tryz.func4
    (ChangeSpec.witness_shaped (enc := enc) (C := Tryz.checked) (os := os) (X := fun w _ => laidMetH Tryz.prog lvars w) false (World.doorLaid Tryz.prog 4000 os) #[.slice none 0 0, .bool false] 8 rfl (World.shaped_of_RefB (by kernel_rfl) (by kernel_rfl)) (by kernel_rfl) (by kernel_rfl) (by kernel_rfl) (door_met os _)) ?_
  intro W base args ds gs before hval0 hW _ _ hL _
  have hval : ∀ (j : Nat) t v, Tryz.f4.params[j]? = some t → args[j]? = some v → Value.okWide Tryz.prog W .any base t v := hval0
  have hW' := hW
  obtain ⟨p, q, hA0, hV, rfl, hfz, hnd⟩ := hW
  have hA : DataW.TrodAll enc Tryz.prog W 0 (fun _ => true) true Tryz.f4.params.toList args.toList ds p := hA0
  rw [Tryz.params4] at hA hval
  obtain ⟨v0, vs0, d0, ds0, p0, q0, hargs, rfl, rfl, h0, r0⟩ := trodAll_cons hA
  obtain ⟨v1, vs1, d1, ds1, p1, q1, rfl, rfl, rfl, h1, r1⟩ := trodAll_cons r0
  obtain ⟨rfl, rfl, rfl⟩ := trodAll_nil r1
  obtain rfl : args = #[v0, v1] := by cases args; simp_all
  obtain ⟨rfl, rfl⟩ := trodVars_none hV
  have k0 := h0
  have lt0 : ∀ x ∈ p0, x.block < W.heap.size := by obtain ⟨m, hm⟩ := k0; exact DataW.trod_lt m _ _ _ hm
  have w0 := bools_of Tryz.underlying48 Tryz.underlying4 (by kernel_rfl) (hval 0 48 v0 rfl rfl) k0
  have k1 := h1
  have lt1 : ∀ x ∈ p1, x.block < W.heap.size := by obtain ⟨m, hm⟩ := k1; exact DataW.trod_lt m _ _ _ hm
  obtain ⟨a1, rfl⟩ := bool_of Tryz.underlying4 (hval 1 4 v1 rfl rfl) k1
  clear hA0 hval0
  refine (walk v0 a1 W w0).mono fun e W' ⟨he, bel⟩ => ?_
  subst he
  exact ⟨_, rfl, _, _, _, [], _, [], hW', trodAll_mk1 (shut_bool Tryz.underlying4 _), (trodAll_cons_mk (Below.trod laidOut (by kernel_rfl) (of_decide_eq_true (by kernel_rfl)) k0 bel lt0) (trodAll_cons_mk (Below.trod laidOut (by kernel_rfl) (of_decide_eq_true (by kernel_rfl)) k1 bel lt1) trodAll_mk0)), rfl, bel.frame _, fun h => by cases h⟩

theorem over : Rows.playKillsRow.holds Tryz.pinned (OpenSpec.ofChange Rows.playKillsSpec) :=
  OpenClaim.holds_of_wide 4 Tryz.f4 rfl rfl rfl rfl rfl rfl rfl ⟨rfl, rfl, rfl, rfl, rfl⟩ rfl rfl rfl rfl rfl named Tryz.func4 closed
    (of_decide_eq_true (by kernel_rfl)) (by unfold Func.isWrapper; first | (rw [if_pos (by decide +kernel)]; kernel_rfl) | (rw [if_neg (by decide +kernel)]; exact ⟨rfl, rfl⟩))
    (fun os started H enc _ => lifted os started H enc)

/-- The statement's card: the row, tied to the program's text. -/
theorem proved : Rows.PlayKillsCardSaid :=
  Claim7.holds_tied_plain_at .later [] [.data, .data, .data] true (true, "8e8a67cfbe70820a3e6a7bd880d42527b59b8a7dd39b64beb6810937e30fe3fa") false
    over (fun _ h => by cases h) (by kernel_rfl) (fun _ h => by cases h) playKills_row_tie rfl ⟨rfl, rfl⟩ (by kernel_rfl) rfl
    (fun f fn hf hfn => by
      obtain rfl : f = 4 := Option.some.inj (named.symm.trans hf) |>.symm
      obtain rfl : fn = Tryz.f4 := (Option.some.inj (Tryz.func4.symm.trans hfn)).symm
      exact ⟨by kernel_rfl, fun j t ht => by
        rw [Tryz.params4] at ht
        have hm : t ∈ [48, 4] := by simpa using Array.mem_of_getElem? ht
        have hall : ([48, 4].all fun u => !Tryz.prog.wantsStandIn u) = true := by kernel_rfl
        exact (show Tryz.prog.wantsStandIn t = false by simpa using List.all_eq_true.1 hall t hm)⟩)
    goesIt
#print axioms proved
end Go.Proofs.YtokggoojpjhloaaGreatDoor.playKills
