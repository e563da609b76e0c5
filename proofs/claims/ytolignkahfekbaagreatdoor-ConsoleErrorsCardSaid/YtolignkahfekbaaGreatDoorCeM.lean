/- ConsoleErrors: the memory of its console, and what is known of its calls. -/
import Derived.Test.YtolignkahfekbaaGreatDoorAllSum
import Derived.Test.YtolignkahfekbaaGreatDoorPlA
import Derived.Test.YtolignkahfekbaaGreatDoorRootK
namespace Go.Proofs.YtolignkahfekbaaGreatDoor.consoleErrors
open Go Go.RowKit Lit
set_option linter.unusedVariables false
noncomputable def cfg : Cfg := ⟨fun _ => true, fun _ _ => none, summAll⟩
noncomputable def cc : XCall := gcall (mkTab tabAll) (deep Tryz.prog cfg 3000) 60
abbrev sn (k : Nat) (l r : Tr Nat) : Tr Nat := .node (some k) l r
abbrev sl (k : Nat) : Tr Nat := .node (some k) .nil .nil
abbrev se : Tr Nat := .nil
noncomputable def o0 : Option AObj := lH 0 3 0 [lD [lS [101,112,111,99,104],lP 4]]
noncomputable def o1 : Option AObj := lH 126 0 6 [lI 4000,lI 1,lM 0,lF,lI 0,lF]
noncomputable def o2 : Option AObj := lH 0 3 0 []
noncomputable def o3 : Option AObj := lH 176 0 5 [lP 1,lI 1,.slice none 0 0,lM 2,lF]
noncomputable def o4 : Option AObj := lH 278 0 3 [lO 5 0 1 1,lI 1,lT]
noncomputable def o5 : Option AObj := lH 5 0 1 [lB 1]
noncomputable def o6 : Option AObj := lH 0 3 0 []
noncomputable def o7 : Option AObj := lH 180 0 1 [.slice none 0 0]
noncomputable def o8 : Option AObj := lH 182 0 1 [.slice none 0 0]
noncomputable def o9 : Option AObj := lH 136 0 14 [lC 4621819117588971520 4621819117588971520,lI 4,lI 3,lI 5,lI 2,lI 8,lI 4000,lP 1,lP 3,lM 6,lP 7,lP 8,lI 0,lF]
noncomputable def o10 : Option AObj := lH 79 0 11 [lC 4621819117588971520 4621819117588971520,lI 4,lI 3,lI 5,lI 2,lI 8,lI 4000,lP 1,lP 9,.slice none 0 0,lF]
noncomputable def o11 : Option AObj := lH 0 3 0 []
noncomputable def o12 : Option AObj := lH 82 0 1 [lM 11]
noncomputable def o13 : Option AObj := lH 0 3 0 []
noncomputable def o14 : Option AObj := lH 0 3 0 []
noncomputable def o15 : Option AObj := lH 0 3 0 []
noncomputable def o16 : Option AObj := lH 89 0 5 [.slice none 0 0,lM 13,lM 14,.slice none 0 0,lM 15]
noncomputable def o17 : Option AObj := lH 56 0 4 [lP 10,lP 12,lP 16,lI 0]
noncomputable def o18 : Option AObj := lH 40 0 1 [lP 17]
/-- The console and all that it leads to. -/
noncomputable def M : AHeap := ⟨19, (tn o0 (tn o1 (tn o3 (tn o7 (tl o15) te) (tl o11)) (tn o5 (tn o9 (tl o17) te) (tl o13))) (tn o2 (tn o4 (tn o8 (tl o16) te) (tl o12)) (tn o6 (tn o10 (tl o18) te) (tl o14))))⟩
def cfgL : List Value := [lC 4621819117588971520 4621819117588971520,lI 4,lI 3,lI 5,lI 2,lI 8,lI 4000]
abbrev lineF : FuncId := 8
abbrev sameF : FuncId := 7
noncomputable def rv (r : Option (Value × AHeap)) : Value := match r with
  | some r => r.1
  | none => .bool false
noncomputable def rh (r : Option (Value × AHeap)) : AHeap := match r with
  | some r => r.2
  | none => h0
theorem r_eq {r : Option (Value × AHeap)} {v : Value} (h : r.map (·.1) = some v) : r = some (v, rh r) := by
  cases r with
  | none => cases h
  | some r =>
    simp only [Option.map_some, Option.some.injEq] at h
    rw [← h]
    rfl
/-- What a line answers is the list of y alone, and the memory is what it was. -/
noncomputable def okS (y : ByteArray) (v : Value) (h : AHeap) : Bool := match cc sameF [v, lL h.n 0 1 1] (h.push ⟨[.string y], 9, 0, 1⟩) with
  | some q => bAnd (eqV2 q.1 lT) (sameR [lP 18] M 19 .nil [lP 18] q.2)
  | none => false
noncomputable def okX (x y : ByteArray) : Bool := match cc lineF [lP 18, .string x] M with
  | some r => okS y r.1 r.2
  | none => false
noncomputable def okN (x : ByteArray) : Bool := match cc lineF [lP 18, .string x] M with
  | some r => bAnd (eqV2 r.1 (.slice none 0 0)) (sameR [lP 18] M 19 .nil [lP 18] r.2)
  | none => false
def err2 : ByteArray := ⟨#[101, 114, 114, 111, 114, 32, 50]⟩
/-- A call that answers a pointer to object p, or a number, and leaves the memory. -/
noncomputable def okC (f : FuncId) (args : List Value) (v : Value) : Bool := match cc f args M with
  | some r => bAnd (eqV2 r.1 v) (sameR [lP 18, v] M 19 .nil [lP 18, r.1] r.2)
  | none => false
noncomputable def rP : Option (Value × AHeap) := cc 5 [] h0
noncomputable def rN : Option (Value × AHeap) := cc 4 [lA cfgL] (rh rP)
set_option maxRecDepth 1000000
theorem rP_v : rP.map (·.1) = some (lA cfgL) := by kernel_rfl
theorem rN_v : rN.map (·.1) = some (lD [lP 33,lI 0]) := by kernel_rfl
theorem rN_s : sameR [lP 18,lI 0] M 0 (sn 6 (sn 7 (sn 12 (sn 22 (sl 30) se) (sl 26)) (sn 17 (sn 24 (sl 32) se) (sl 28))) (sn 11 (sn 16 (sn 23 (sl 31) se) (sl 27)) (sn 21 (sn 25 (sl 33) se) (sl 29)))) [lP 33,lI 0] (rh rN) = true := by kernel_rfl
theorem kM : kindsOk M = true := by kernel_rfl
def linesC : List ByteArray := [⟨#[114, 111, 117, 110, 100]⟩, ⟨#[114, 111, 117, 110, 100, 32, 120]⟩, ⟨#[114, 111, 117, 110, 100, 32, 45, 49]⟩, ⟨#[114, 111, 117, 110, 100, 32, 49, 32, 50]⟩, ⟨#[115, 116, 97, 116, 101, 32, 102]⟩, ⟨#[115, 116, 97, 116, 101, 32, 102, 32, 97, 32, 98]⟩, ⟨#[112, 104, 97, 115, 101]⟩, ⟨#[117, 115, 101, 100, 32, 48]⟩, ⟨#[115, 97, 105, 100, 32, 115, 97, 105, 100]⟩, ⟨#[114, 111, 119, 115, 32, 49]⟩, ⟨#[98, 111, 120, 101, 115, 32, 49]⟩, ⟨#[115, 101, 110, 116, 32, 102]⟩, ⟨#[113, 117, 105, 101, 116, 32, 49]⟩, ⟨#[115, 111, 117, 110, 100, 32, 120]⟩, ⟨#[116, 105, 99, 107]⟩, ⟨#[116, 105, 99, 107, 32, 120]⟩, ⟨#[116, 105, 99, 107, 32, 48, 49]⟩, ⟨#[102, 117, 115, 101]⟩, ⟨#[99, 114, 97, 115, 104]⟩, ⟨#[99, 114, 97, 115, 104, 32, 49, 32, 50, 32, 51]⟩, ⟨#[114, 117, 110, 32, 102, 32, 120]⟩, ⟨#[114, 117, 110, 32, 102, 32, 120, 32, 97, 32, 49]⟩, ⟨#[114, 117, 110, 32, 102, 32, 120, 32, 97, 32, 48, 32, 48]⟩, ⟨#[114, 117, 110, 32, 102, 32, 120, 32, 97, 32, 49, 32, 49, 48, 48, 49]⟩, ⟨#[114, 117, 110, 32, 102, 32, 120, 32, 97, 32, 49, 32, 49, 32, 97, 32, 50, 32, 50]⟩, ⟨#[107, 105, 108, 108, 32, 102]⟩, ⟨#[107, 105, 108, 108, 32, 70, 32, 97]⟩, ⟨#[115, 104, 117, 116]⟩, ⟨#[97, 99, 107, 32, 102, 32, 97, 32, 48, 32, 49]⟩, ⟨#[97, 115, 107]⟩, ⟨#[97, 115, 107, 32, 102, 32, 97, 32, 97]⟩, ⟨#[119, 101, 108, 99, 111, 109, 101, 32, 49]⟩, ⟨#[104, 101, 108, 108, 111, 32, 102, 32, 120, 32, 48]⟩, ⟨#[114, 101, 112, 111, 114, 116, 32, 102, 32, 120, 32, 49, 32, 97, 32, 56]⟩, ⟨#[103, 111, 110, 101, 32, 102, 32, 120]⟩, ⟨#[84, 105, 99, 107, 32, 49]⟩]
theorem ok_lines : linesC.all (fun x => okX x err2) = true := by kernel_rfl
theorem ok_nil : okN ⟨#[]⟩ = true ∧ okN ⟨#[32, 32, 32]⟩ = true := ⟨by kernel_rfl, by kernel_rfl⟩
theorem ok_a0 : okX ⟨#[115, 97, 105, 100]⟩ ⟨#[48]⟩ = true := by kernel_rfl
theorem ok_a1 : okX ⟨#[32, 32, 114, 111, 119, 115, 32]⟩ ⟨#[48]⟩ = true := by kernel_rfl
theorem ok_a2 : okX ⟨#[115, 116, 97, 116, 101, 32, 102, 32, 97]⟩ ⟨#[110, 111, 110, 101]⟩ = true := by kernel_rfl
theorem ok_a3 : okX ⟨#[112, 104, 97, 115, 101, 32, 102, 32, 120]⟩ ⟨#[48, 32, 48]⟩ = true := by kernel_rfl
theorem ok_a4 : okX ⟨#[115, 101, 110, 116, 32, 102, 32, 97]⟩ ⟨#[110, 111, 110, 101]⟩ = true := by kernel_rfl
theorem ok_a5 : okX ⟨#[113, 117, 105, 101, 116]⟩ ⟨#[110, 111]⟩ = true := by kernel_rfl
theorem ok_what : okS err2 (lL 19 0 1 1) (M.push ⟨[.string err2], 9, 0, 1⟩) = true := by kernel_rfl
theorem ok_world : okC 22 [lP 17] (lP 10) = true := by kernel_rfl
theorem ok_agent : okC 24 [lP 10] (lP 9) = true := by kernel_rfl
theorem ok_res : okC 23 [lI 2] (.string err2) = true := by kernel_rfl
end Go.Proofs.YtolignkahfekbaaGreatDoor.consoleErrors
