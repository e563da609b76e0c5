/- The walk of AgentFull, in stages. -/
import Derived.Test.YtffaicfhcljacaaGreatDoorAFW0
import Derived.Test.YtffaicfhcljacaaGreatDoorAFW1
import Derived.Test.YtffaicfhcljacaaGreatDoorAFW2
import Derived.Test.YtffaicfhcljacaaGreatDoorAFW3
import Derived.Test.YtffaicfhcljacaaGreatDoorAFW4
import Derived.Test.YtffaicfhcljacaaGreatDoorAFW5
import Derived.Test.YtffaicfhcljacaaGreatDoorAFW6
import Derived.Test.YtffaicfhcljacaaGreatDoorAFW7
namespace Go.Proofs.YtffaicfhcljacaaGreatDoor.agentFull
open Go Go.ChangeShapes Go.WideShapes Go.ChangeAt Go.RowKit Lit
set_option maxRecDepth 1000000
set_option linter.unusedVariables false
theorem k1 : kindsOk m1 = true := by kernel_rfl
theorem k3 : kindsOk (nrwH 100 13 399 m1) = true := by kernel_rfl
theorem k6 : kindsOk m6 = true := by kernel_rfl
theorem k8 : kindsOk (nrwH 100 92 399 m6) = true := by kernel_rfl
theorem k11 : kindsOk m11 = true := by kernel_rfl
theorem k13 : kindsOk (nrwH 100 171 399 m11) = true := by kernel_rfl
theorem k16 : kindsOk m16 = true := by kernel_rfl
theorem k18 : kindsOk (nrwH 100 250 399 m16) = true := by kernel_rfl
theorem k21 : kindsOk m21 = true := by kernel_rfl
theorem k24 : kindsOk m24 = true := by kernel_rfl
theorem k27 : kindsOk m27 = true := by kernel_rfl
theorem k30 : kindsOk m30 = true := by kernel_rfl
theorem k33 : kindsOk m33 = true := by kernel_rfl
theorem k36 : kindsOk m36 = true := by kernel_rfl
theorem k39 : kindsOk m39 = true := by kernel_rfl
theorem k42 : kindsOk m42 = true := by kernel_rfl
theorem k56 : kindsOk m56 = true := by kernel_rfl
theorem k61 : kindsOk m61 = true := by kernel_rfl
theorem k64 : kindsOk m64 = true := by kernel_rfl
theorem k67 : kindsOk m67 = true := by kernel_rfl
theorem k70 : kindsOk m70 = true := by kernel_rfl
theorem k78 : kindsOk m78 = true := by kernel_rfl
theorem k83 : kindsOk m83 = true := by kernel_rfl
theorem k86 : kindsOk m86 = true := by kernel_rfl
theorem k89 : kindsOk m89 = true := by kernel_rfl
theorem k92 : kindsOk m92 = true := by kernel_rfl
theorem k100 : kindsOk m100 = true := by kernel_rfl
theorem k103 : kindsOk m103 = true := by kernel_rfl
theorem k106 : kindsOk m106 = true := by kernel_rfl
theorem k109 : kindsOk m109 = true := by kernel_rfl

/-- What is known of the numbers. -/
def bds [Toks] : List (Nat × Nat × Nat) → Prop
  | [] => True
  | (t, lo, hi) :: r => (((lo : Nat) : Int) ≤ Toks.A t ∧ Toks.A t ≤ ((hi : Nat) : Int)) ∧ bds r
/-- From here on all is well. -/
def K (l : List (Nat × Nat × Nat)) (f : List Value) (m : AHeap) (p : Pt) : Prop := ∀ [Toks] (W : World), CallOk Tryz.prog cc ∧ CallMono cc → bds l → ∀ a w, Stg 153 W (argsTr f 0 .nil) m a w → wpAt Tryz.prog fn bd W p a w
theorem st {l : List (Nat × Nat × Nat)} {n : Nat} {p p2 : Pt} {f l2 : List Value} {m h2 : AHeap} {k0 : Nat} {s : Tr Nat} (hx : G n p f m (Z p2 l2 h2 k0 s) = true) (H : K l l2 h2 p2) : K l f m p := fun W hc hb a w h => stage hc mixed hx (H W hc hb) a w h
theorem la {l : List (Nat × Nat × Nat)} {n : Nat} {p : Pt} {f : List Value} {m : AHeap} (hx : G n p f m E = true) : K l f m p := fun W hc hb a w h => stage_last hc mixed hx a w h
theorem sp {l l1 l2 : List (Nat × Nat × Nat)} {p : Pt} {f : List Value} {m : AHeap} {t lo mid hi : Nat} (hk : kindsOk m = true) (e1 : ∀ [Toks], bds l → ((lo : Nat) : Int) ≤ Toks.A t ∧ Toks.A t ≤ ((hi : Nat) : Int)) (e2 : ∀ [Toks], bds l → Toks.A t ≤ ((mid : Nat) : Int) → bds l1) (e3 : ∀ [Toks], bds l → (((mid + 1 : Nat)) : Int) ≤ Toks.A t → bds l2)
    (h1 : K l1 (f.map (nrw2 t lo mid)) (nrwH t lo mid m) p) (h2 : K l2 (f.map (nrw2 t (mid + 1) hi)) (nrwH t (mid + 1) hi m) p) : K l f m p := fun W hc hb a w h =>
  if hh : Toks.A t ≤ ((mid : Nat) : Int) then h1 W hc (e2 hb hh) a w (h.narrow hk (e1 hb).1 hh)
  else h2 W hc (e3 hb (by omega)) a w (h.narrow hk (by omega) (e1 hb).2)
theorem n111 : K [(100,88,91)] (f109.map (nrw2 100 88 91)) (nrwH 100 88 91 m109) (.lp 9) := la s111
theorem n110 : K [(100,73,87)] (f109.map (nrw2 100 73 87)) (nrwH 100 73 87 m109) (.lp 9) := la s110
theorem n109 : K [(100,73,91)] f109 m109 (.lp 9) := sp (mid := 87) k109 (by exact fun b => b.1) (by exact fun b h => ⟨⟨b.1.1, h⟩, b.2⟩) (by exact fun b h => ⟨⟨h, b.1.2⟩, b.2⟩) n110 n111
theorem n108 : K [(100,73,91)] (f106.map (nrw2 100 73 91)) (nrwH 100 73 91 m106) (.lp 9) := st s108 n109
theorem n107 : K [(100,58,72)] (f106.map (nrw2 100 58 72)) (nrwH 100 58 72 m106) (.lp 9) := la s107
theorem n106 : K [(100,58,91)] f106 m106 (.lp 9) := sp (mid := 72) k106 (by exact fun b => b.1) (by exact fun b h => ⟨⟨b.1.1, h⟩, b.2⟩) (by exact fun b h => ⟨⟨h, b.1.2⟩, b.2⟩) n107 n108
theorem n105 : K [(100,58,91)] (f103.map (nrw2 100 58 91)) (nrwH 100 58 91 m103) (.lp 9) := st s105 n106
theorem n104 : K [(100,43,57)] (f103.map (nrw2 100 43 57)) (nrwH 100 43 57 m103) (.lp 9) := la s104
theorem n103 : K [(100,43,91)] f103 m103 (.lp 9) := sp (mid := 57) k103 (by exact fun b => b.1) (by exact fun b h => ⟨⟨b.1.1, h⟩, b.2⟩) (by exact fun b h => ⟨⟨h, b.1.2⟩, b.2⟩) n104 n105
theorem n102 : K [(100,43,91)] (f100.map (nrw2 100 43 91)) (nrwH 100 43 91 m100) (.lp 9) := st s102 n103
theorem n101 : K [(100,28,42)] (f100.map (nrw2 100 28 42)) (nrwH 100 28 42 m100) (.lp 9) := la s101
theorem n100 : K [(100,28,91)] f100 m100 (.lp 9) := sp (mid := 42) k100 (by exact fun b => b.1) (by exact fun b h => ⟨⟨b.1.1, h⟩, b.2⟩) (by exact fun b h => ⟨⟨h, b.1.2⟩, b.2⟩) n101 n102
theorem n99 : K [(100,92,106)] f99 m99 (.lp 9) := la s99
theorem n98 : K [(100,122,136)] f98 m98 (.sp 13) := la s98
theorem n97 : K [(100,137,151)] f97 m97 (.sp 13) := la s97
theorem n96 : K [(100,152,166)] f96 m96 (.sp 12) := la s96
theorem n95 : K [(100,167,170)] f95 m95 (.lp 9) := la s95
theorem n94 : K [(100,167,170)] (f92.map (nrw2 100 167 170)) (nrwH 100 167 170 m92) (.lp 9) := st s94 n95
theorem n93 : K [(100,152,166)] (f92.map (nrw2 100 152 166)) (nrwH 100 152 166 m92) (.lp 9) := st s93 n96
theorem n92 : K [(100,152,170)] f92 m92 (.lp 9) := sp (mid := 166) k92 (by exact fun b => b.1) (by exact fun b h => ⟨⟨b.1.1, h⟩, b.2⟩) (by exact fun b h => ⟨⟨h, b.1.2⟩, b.2⟩) n93 n94
theorem n91 : K [(100,152,170)] (f89.map (nrw2 100 152 170)) (nrwH 100 152 170 m89) (.lp 9) := st s91 n92
theorem n90 : K [(100,137,151)] (f89.map (nrw2 100 137 151)) (nrwH 100 137 151 m89) (.lp 9) := st s90 n97
theorem n89 : K [(100,137,170)] f89 m89 (.lp 9) := sp (mid := 151) k89 (by exact fun b => b.1) (by exact fun b h => ⟨⟨b.1.1, h⟩, b.2⟩) (by exact fun b h => ⟨⟨h, b.1.2⟩, b.2⟩) n90 n91
theorem n88 : K [(100,137,170)] (f86.map (nrw2 100 137 170)) (nrwH 100 137 170 m86) (.lp 9) := st s88 n89
theorem n87 : K [(100,122,136)] (f86.map (nrw2 100 122 136)) (nrwH 100 122 136 m86) (.lp 9) := st s87 n98
theorem n86 : K [(100,122,170)] f86 m86 (.lp 9) := sp (mid := 136) k86 (by exact fun b => b.1) (by exact fun b h => ⟨⟨b.1.1, h⟩, b.2⟩) (by exact fun b h => ⟨⟨h, b.1.2⟩, b.2⟩) n87 n88
theorem n85 : K [(100,122,170)] (f83.map (nrw2 100 122 170)) (nrwH 100 122 170 m83) (.lp 9) := st s85 n86
theorem n84 : K [(100,107,121)] (f83.map (nrw2 100 107 121)) (nrwH 100 107 121 m83) (.lp 9) := la s84
theorem n83 : K [(100,107,170)] f83 m83 (.lp 9) := sp (mid := 121) k83 (by exact fun b => b.1) (by exact fun b h => ⟨⟨b.1.1, h⟩, b.2⟩) (by exact fun b h => ⟨⟨h, b.1.2⟩, b.2⟩) n84 n85
theorem n82 : K [(100,171,181)] f82 m82 (.sp 13) := la s82
theorem n81 : K [(100,182,185)] f81 m81 (.sp 12) := la s81
theorem n80 : K [(100,182,185)] (f78.map (nrw2 100 182 185)) (nrwH 100 182 185 m78) (.lp 9) := st s80 n81
theorem n79 : K [(100,171,181)] (f78.map (nrw2 100 171 181)) (nrwH 100 171 181 m78) (.lp 9) := st s79 n82
theorem n78 : K [(100,171,185)] f78 m78 (.lp 9) := sp (mid := 181) k78 (by exact fun b => b.1) (by exact fun b h => ⟨⟨b.1.1, h⟩, b.2⟩) (by exact fun b h => ⟨⟨h, b.1.2⟩, b.2⟩) n79 n80
theorem n77 : K [(100,186,200)] f77 m77 (.lp 9) := la s77
theorem n76 : K [(100,201,215)] f76 m76 (.lp 9) := la s76
theorem n75 : K [(100,216,230)] f75 m75 (.lp 9) := la s75
theorem n74 : K [(100,231,245)] f74 m74 (.lp 9) := la s74
theorem n73 : K [(100,246,249)] f73 m73 (.lp 9) := la s73
theorem n72 : K [(100,246,249)] (f70.map (nrw2 100 246 249)) (nrwH 100 246 249 m70) (.lp 9) := st s72 n73
theorem n71 : K [(100,231,245)] (f70.map (nrw2 100 231 245)) (nrwH 100 231 245 m70) (.lp 9) := st s71 n74
theorem n70 : K [(100,231,249)] f70 m70 (.lp 9) := sp (mid := 245) k70 (by exact fun b => b.1) (by exact fun b h => ⟨⟨b.1.1, h⟩, b.2⟩) (by exact fun b h => ⟨⟨h, b.1.2⟩, b.2⟩) n71 n72
theorem n69 : K [(100,231,249)] (f67.map (nrw2 100 231 249)) (nrwH 100 231 249 m67) (.lp 9) := st s69 n70
theorem n68 : K [(100,216,230)] (f67.map (nrw2 100 216 230)) (nrwH 100 216 230 m67) (.lp 9) := st s68 n75
theorem n67 : K [(100,216,249)] f67 m67 (.lp 9) := sp (mid := 230) k67 (by exact fun b => b.1) (by exact fun b h => ⟨⟨b.1.1, h⟩, b.2⟩) (by exact fun b h => ⟨⟨h, b.1.2⟩, b.2⟩) n68 n69
theorem n66 : K [(100,216,249)] (f64.map (nrw2 100 216 249)) (nrwH 100 216 249 m64) (.lp 9) := st s66 n67
theorem n65 : K [(100,201,215)] (f64.map (nrw2 100 201 215)) (nrwH 100 201 215 m64) (.lp 9) := st s65 n76
theorem n64 : K [(100,201,249)] f64 m64 (.lp 9) := sp (mid := 215) k64 (by exact fun b => b.1) (by exact fun b h => ⟨⟨b.1.1, h⟩, b.2⟩) (by exact fun b h => ⟨⟨h, b.1.2⟩, b.2⟩) n65 n66
theorem n63 : K [(100,201,249)] (f61.map (nrw2 100 201 249)) (nrwH 100 201 249 m61) (.lp 9) := st s63 n64
theorem n62 : K [(100,186,200)] (f61.map (nrw2 100 186 200)) (nrwH 100 186 200 m61) (.lp 9) := st s62 n77
theorem n61 : K [(100,186,249)] f61 m61 (.lp 9) := sp (mid := 200) k61 (by exact fun b => b.1) (by exact fun b h => ⟨⟨b.1.1, h⟩, b.2⟩) (by exact fun b h => ⟨⟨h, b.1.2⟩, b.2⟩) n62 n63
theorem n60 : K [(100,250,260)] f60 m60 (.lp 9) := la s60
theorem n59 : K [(100,261,264)] f59 m59 (.lp 9) := la s59
theorem n58 : K [(100,261,264)] (f56.map (nrw2 100 261 264)) (nrwH 100 261 264 m56) (.lp 9) := st s58 n59
theorem n57 : K [(100,250,260)] (f56.map (nrw2 100 250 260)) (nrwH 100 250 260 m56) (.lp 9) := st s57 n60
theorem n56 : K [(100,250,264)] f56 m56 (.lp 9) := sp (mid := 260) k56 (by exact fun b => b.1) (by exact fun b h => ⟨⟨b.1.1, h⟩, b.2⟩) (by exact fun b h => ⟨⟨h, b.1.2⟩, b.2⟩) n57 n58
theorem n55 : K [(100,265,279)] f55 m55 (.lp 9) := la s55
theorem n54 : K [(100,280,294)] f54 m54 (.lp 9) := la s54
theorem n53 : K [(100,295,309)] f53 m53 (.lp 9) := la s53
theorem n52 : K [(100,310,324)] f52 m52 (.lp 9) := la s52
theorem n51 : K [(100,325,339)] f51 m51 (.lp 9) := la s51
theorem n50 : K [(100,340,354)] f50 m50 (.lp 9) := la s50
theorem n49 : K [(100,355,369)] f49 m49 (.sp 13) := la s49
theorem n48 : K [(100,355,369)] f48 m48 (.lp 9) := st s48 n49
theorem n47 : K [(100,370,384)] f47 m47 (.lp 9) := la s47
theorem n46 : K [(100,385,399)] f46 m46 (.sp 12) := la s46
theorem n45 : K [(100,385,399)] f45 m45 (.lp 9) := st s45 n46
theorem n44 : K [(100,385,399)] (f42.map (nrw2 100 385 399)) (nrwH 100 385 399 m42) (.lp 9) := st s44 n45
theorem n43 : K [(100,370,384)] (f42.map (nrw2 100 370 384)) (nrwH 100 370 384 m42) (.lp 9) := st s43 n47
theorem n42 : K [(100,370,399)] f42 m42 (.lp 9) := sp (mid := 384) k42 (by exact fun b => b.1) (by exact fun b h => ⟨⟨b.1.1, h⟩, b.2⟩) (by exact fun b h => ⟨⟨h, b.1.2⟩, b.2⟩) n43 n44
theorem n41 : K [(100,370,399)] (f39.map (nrw2 100 370 399)) (nrwH 100 370 399 m39) (.lp 9) := st s41 n42
theorem n40 : K [(100,355,369)] (f39.map (nrw2 100 355 369)) (nrwH 100 355 369 m39) (.lp 9) := st s40 n48
theorem n39 : K [(100,355,399)] f39 m39 (.lp 9) := sp (mid := 369) k39 (by exact fun b => b.1) (by exact fun b h => ⟨⟨b.1.1, h⟩, b.2⟩) (by exact fun b h => ⟨⟨h, b.1.2⟩, b.2⟩) n40 n41
theorem n38 : K [(100,355,399)] (f36.map (nrw2 100 355 399)) (nrwH 100 355 399 m36) (.lp 9) := st s38 n39
theorem n37 : K [(100,340,354)] (f36.map (nrw2 100 340 354)) (nrwH 100 340 354 m36) (.lp 9) := st s37 n50
theorem n36 : K [(100,340,399)] f36 m36 (.lp 9) := sp (mid := 354) k36 (by exact fun b => b.1) (by exact fun b h => ⟨⟨b.1.1, h⟩, b.2⟩) (by exact fun b h => ⟨⟨h, b.1.2⟩, b.2⟩) n37 n38
theorem n35 : K [(100,340,399)] (f33.map (nrw2 100 340 399)) (nrwH 100 340 399 m33) (.lp 9) := st s35 n36
theorem n34 : K [(100,325,339)] (f33.map (nrw2 100 325 339)) (nrwH 100 325 339 m33) (.lp 9) := st s34 n51
theorem n33 : K [(100,325,399)] f33 m33 (.lp 9) := sp (mid := 339) k33 (by exact fun b => b.1) (by exact fun b h => ⟨⟨b.1.1, h⟩, b.2⟩) (by exact fun b h => ⟨⟨h, b.1.2⟩, b.2⟩) n34 n35
theorem n32 : K [(100,325,399)] (f30.map (nrw2 100 325 399)) (nrwH 100 325 399 m30) (.lp 9) := st s32 n33
theorem n31 : K [(100,310,324)] (f30.map (nrw2 100 310 324)) (nrwH 100 310 324 m30) (.lp 9) := st s31 n52
theorem n30 : K [(100,310,399)] f30 m30 (.lp 9) := sp (mid := 324) k30 (by exact fun b => b.1) (by exact fun b h => ⟨⟨b.1.1, h⟩, b.2⟩) (by exact fun b h => ⟨⟨h, b.1.2⟩, b.2⟩) n31 n32
theorem n29 : K [(100,310,399)] (f27.map (nrw2 100 310 399)) (nrwH 100 310 399 m27) (.lp 9) := st s29 n30
theorem n28 : K [(100,295,309)] (f27.map (nrw2 100 295 309)) (nrwH 100 295 309 m27) (.lp 9) := st s28 n53
theorem n27 : K [(100,295,399)] f27 m27 (.lp 9) := sp (mid := 309) k27 (by exact fun b => b.1) (by exact fun b h => ⟨⟨b.1.1, h⟩, b.2⟩) (by exact fun b h => ⟨⟨h, b.1.2⟩, b.2⟩) n28 n29
theorem n26 : K [(100,295,399)] (f24.map (nrw2 100 295 399)) (nrwH 100 295 399 m24) (.lp 9) := st s26 n27
theorem n25 : K [(100,280,294)] (f24.map (nrw2 100 280 294)) (nrwH 100 280 294 m24) (.lp 9) := st s25 n54
theorem n24 : K [(100,280,399)] f24 m24 (.lp 9) := sp (mid := 294) k24 (by exact fun b => b.1) (by exact fun b h => ⟨⟨b.1.1, h⟩, b.2⟩) (by exact fun b h => ⟨⟨h, b.1.2⟩, b.2⟩) n25 n26
theorem n23 : K [(100,280,399)] (f21.map (nrw2 100 280 399)) (nrwH 100 280 399 m21) (.lp 9) := st s23 n24
theorem n22 : K [(100,265,279)] (f21.map (nrw2 100 265 279)) (nrwH 100 265 279 m21) (.lp 9) := st s22 n55
theorem n21 : K [(100,265,399)] f21 m21 (.lp 9) := sp (mid := 279) k21 (by exact fun b => b.1) (by exact fun b h => ⟨⟨b.1.1, h⟩, b.2⟩) (by exact fun b h => ⟨⟨h, b.1.2⟩, b.2⟩) n22 n23
theorem n20 : K [(100,265,399)] ((f16.map (nrw2 100 250 399)).map (nrw2 100 265 399)) (nrwH 100 265 399 (nrwH 100 250 399 m16)) (.lp 9) := st s20 n21
theorem n19 : K [(100,250,264)] ((f16.map (nrw2 100 250 399)).map (nrw2 100 250 264)) (nrwH 100 250 264 (nrwH 100 250 399 m16)) (.lp 9) := st s19 n56
theorem n18 : K [(100,250,399)] (f16.map (nrw2 100 250 399)) (nrwH 100 250 399 m16) (.lp 9) := sp (mid := 264) k18 (by exact fun b => b.1) (by exact fun b h => ⟨⟨b.1.1, h⟩, b.2⟩) (by exact fun b h => ⟨⟨h, b.1.2⟩, b.2⟩) n19 n20
theorem n17 : K [(100,186,249)] (f16.map (nrw2 100 186 249)) (nrwH 100 186 249 m16) (.lp 9) := st s17 n61
theorem n16 : K [(100,186,399)] f16 m16 (.lp 9) := sp (mid := 249) k16 (by exact fun b => b.1) (by exact fun b h => ⟨⟨b.1.1, h⟩, b.2⟩) (by exact fun b h => ⟨⟨h, b.1.2⟩, b.2⟩) n17 n18
theorem n15 : K [(100,186,399)] ((f11.map (nrw2 100 171 399)).map (nrw2 100 186 399)) (nrwH 100 186 399 (nrwH 100 171 399 m11)) (.lp 9) := st s15 n16
theorem n14 : K [(100,171,185)] ((f11.map (nrw2 100 171 399)).map (nrw2 100 171 185)) (nrwH 100 171 185 (nrwH 100 171 399 m11)) (.lp 9) := st s14 n78
theorem n13 : K [(100,171,399)] (f11.map (nrw2 100 171 399)) (nrwH 100 171 399 m11) (.lp 9) := sp (mid := 185) k13 (by exact fun b => b.1) (by exact fun b h => ⟨⟨b.1.1, h⟩, b.2⟩) (by exact fun b h => ⟨⟨h, b.1.2⟩, b.2⟩) n14 n15
theorem n12 : K [(100,107,170)] (f11.map (nrw2 100 107 170)) (nrwH 100 107 170 m11) (.lp 9) := st s12 n83
theorem n11 : K [(100,107,399)] f11 m11 (.lp 9) := sp (mid := 170) k11 (by exact fun b => b.1) (by exact fun b h => ⟨⟨b.1.1, h⟩, b.2⟩) (by exact fun b h => ⟨⟨h, b.1.2⟩, b.2⟩) n12 n13
theorem n10 : K [(100,107,399)] ((f6.map (nrw2 100 92 399)).map (nrw2 100 107 399)) (nrwH 100 107 399 (nrwH 100 92 399 m6)) (.lp 9) := st s10 n11
theorem n9 : K [(100,92,106)] ((f6.map (nrw2 100 92 399)).map (nrw2 100 92 106)) (nrwH 100 92 106 (nrwH 100 92 399 m6)) (.lp 9) := st s9 n99
theorem n8 : K [(100,92,399)] (f6.map (nrw2 100 92 399)) (nrwH 100 92 399 m6) (.lp 9) := sp (mid := 106) k8 (by exact fun b => b.1) (by exact fun b h => ⟨⟨b.1.1, h⟩, b.2⟩) (by exact fun b h => ⟨⟨h, b.1.2⟩, b.2⟩) n9 n10
theorem n7 : K [(100,28,91)] (f6.map (nrw2 100 28 91)) (nrwH 100 28 91 m6) (.lp 9) := st s7 n100
theorem n6 : K [(100,28,399)] f6 m6 (.lp 9) := sp (mid := 91) k6 (by exact fun b => b.1) (by exact fun b h => ⟨⟨b.1.1, h⟩, b.2⟩) (by exact fun b h => ⟨⟨h, b.1.2⟩, b.2⟩) n7 n8
theorem n5 : K [(100,28,399)] ((f1.map (nrw2 100 13 399)).map (nrw2 100 28 399)) (nrwH 100 28 399 (nrwH 100 13 399 m1)) (.lp 9) := st s5 n6
theorem n4 : K [(100,13,27)] ((f1.map (nrw2 100 13 399)).map (nrw2 100 13 27)) (nrwH 100 13 27 (nrwH 100 13 399 m1)) (.lp 9) := la s4
theorem n3 : K [(100,13,399)] (f1.map (nrw2 100 13 399)) (nrwH 100 13 399 m1) (.lp 9) := sp (mid := 27) k3 (by exact fun b => b.1) (by exact fun b h => ⟨⟨b.1.1, h⟩, b.2⟩) (by exact fun b h => ⟨⟨h, b.1.2⟩, b.2⟩) n4 n5
theorem n2 : K [(100,0,12)] (f1.map (nrw2 100 0 12)) (nrwH 100 0 12 m1) (.lp 9) := la s2
theorem n1 : K [(100,0,399)] f1 m1 (.lp 9) := sp (mid := 12) k1 (by exact fun b => b.1) (by exact fun b h => ⟨⟨b.1.1, h⟩, b.2⟩) (by exact fun b h => ⟨⟨h, b.1.2⟩, b.2⟩) n2 n3
theorem n0 : K [(100,0,399)] [.chan (some 0)] h0 (.sp 0) := st s0 n1
theorem walk (a0 : Int) (w : World) (b0 : -9223372036854775808 ≤ a0 ∧ a0 ≤ 9223372036854775807) :
    Calls Tryz.prog 4 #[.int .i64 a0] w fun e w' => e = .returned (.bool true) ∧ Below w.heap.size w w' := by
  letI : Toks := ⟨fun k => if k = 0 then a0 else if k = 100 then a0 % 400 else 0⟩
  obtain ⟨c0, g0, e0⟩ := cover_get (t := 100) (n := 400) (l := [(0, 399)]) (by kernel_rfl) (a := a0) (by decide) rfl
  simp only [List.mem_cons, List.not_mem_nil, or_false] at g0
  subst g0
  have hok : ∀ q ∈ ents, (-9223372036854775808 ≤ Toks.A q.1 ∧ Toks.A q.1 ≤ 9223372036854775807) ∧ 1 ≤ (q.2.1 : Int) ∧ (q.2.1 : Int) ≤ 9223372036854775807 ∧ ∀ ρ : Ren, VR ρ (caseV q.2.2.1 (q.2.2.2.1, q.2.2.2.2)) (.int .i64 (Toks.A q.1 % (q.2.1 : Int))) := by
    intro q hq
    unfold ents at hq
    simp only [List.mem_cons, List.not_mem_nil, or_false] at hq
    subst hq
    exact ⟨b0, (by show (1 : Int) ≤ 400; decide), (by show (400 : Int) ≤ 9223372036854775807; decide), e0⟩
  have hcfg : CfgOk Tryz.prog cfg := by
    refine ⟨overW_ok (tabOf ents) (fun q hq => ?_) fun q hq => ?_, summAll_ok, summAll_mono⟩
    · obtain ⟨x, hx, rfl⟩ := List.mem_map.1 hq
      exact (hok x hx).1
    · obtain ⟨x, hx, rfl⟩ := List.mem_map.1 hq
      exact (hok x hx).2
  have h100 : ((0 : Nat) : Int) ≤ Toks.A 100 ∧ Toks.A 100 ≤ ((399 : Nat) : Int) := (e0 fun _ => none).2
  have hc := gcall_ok tabAll_ok (deep_ok hcfg mixed 3000).1 (deep_ok hcfg mixed 3000).2 60
  exact top_stage (fn := fn) (body := bd) rfl rfl rfl w (args := [.chan (some 0)]) (.cons (rfl) .nil) (nt := 153) (by decide) (n0 w hc ⟨h100, trivial⟩)
end Go.Proofs.YtffaicfhcljacaaGreatDoor.agentFull
