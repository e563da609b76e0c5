/- The walk of KeepEpochs, in stages. -/
import Derived.Test.YtffaicfhcljacaaGreatDoorKEW0
import Derived.Test.YtffaicfhcljacaaGreatDoorKEW1
import Derived.Test.YtffaicfhcljacaaGreatDoorKEW2
import Derived.Test.YtffaicfhcljacaaGreatDoorKEW3
import Derived.Test.YtffaicfhcljacaaGreatDoorKEW4
import Derived.Test.YtffaicfhcljacaaGreatDoorKEW5
import Derived.Test.YtffaicfhcljacaaGreatDoorKEW6
import Derived.Test.YtffaicfhcljacaaGreatDoorKEW7
namespace Go.Proofs.YtffaicfhcljacaaGreatDoor.keepEpochs
open Go Go.ChangeShapes Go.WideShapes Go.ChangeAt Go.RowKit Lit
set_option maxRecDepth 1000000
set_option linter.unusedVariables false
theorem k1 : kindsOk m1 = true := by kernel_rfl
theorem k4 : kindsOk m4 = true := by kernel_rfl
theorem k7 : kindsOk m7 = true := by kernel_rfl
theorem k10 : kindsOk m10 = true := by kernel_rfl
theorem k13 : kindsOk m13 = true := by kernel_rfl
theorem k16 : kindsOk m16 = true := by kernel_rfl
theorem k19 : kindsOk m19 = true := by kernel_rfl
theorem k22 : kindsOk m22 = true := by kernel_rfl
theorem k25 : kindsOk m25 = true := by kernel_rfl
theorem k28 : kindsOk m28 = true := by kernel_rfl
theorem k31 : kindsOk m31 = true := by kernel_rfl
theorem k34 : kindsOk m34 = true := by kernel_rfl
theorem k37 : kindsOk m37 = true := by kernel_rfl
theorem k40 : kindsOk m40 = true := by kernel_rfl
theorem k43 : kindsOk m43 = true := by kernel_rfl
theorem k46 : kindsOk m46 = true := by kernel_rfl
theorem k49 : kindsOk m49 = true := by kernel_rfl
theorem k52 : kindsOk m52 = true := by kernel_rfl
theorem k55 : kindsOk m55 = true := by kernel_rfl
theorem k58 : kindsOk m58 = true := by kernel_rfl
theorem k61 : kindsOk m61 = true := by kernel_rfl
theorem k64 : kindsOk m64 = true := by kernel_rfl
theorem k67 : kindsOk m67 = true := by kernel_rfl
theorem k70 : kindsOk m70 = true := by kernel_rfl
theorem k73 : kindsOk m73 = true := by kernel_rfl
theorem k76 : kindsOk m76 = true := by kernel_rfl
theorem k79 : kindsOk m79 = true := by kernel_rfl
theorem k82 : kindsOk m82 = true := by kernel_rfl
theorem k85 : kindsOk m85 = true := by kernel_rfl
theorem k88 : kindsOk m88 = true := by kernel_rfl
theorem k91 : kindsOk m91 = true := by kernel_rfl
theorem k94 : kindsOk m94 = true := by kernel_rfl
theorem k97 : kindsOk m97 = true := by kernel_rfl
theorem k100 : kindsOk m100 = true := by kernel_rfl
theorem k103 : kindsOk m103 = true := by kernel_rfl
theorem k106 : kindsOk m106 = true := by kernel_rfl
theorem k109 : kindsOk m109 = true := by kernel_rfl
theorem k112 : kindsOk m112 = true := by kernel_rfl
theorem k115 : kindsOk m115 = true := by kernel_rfl
theorem k118 : kindsOk m118 = true := by kernel_rfl
theorem k121 : kindsOk m121 = true := by kernel_rfl
theorem k124 : kindsOk m124 = true := by kernel_rfl
theorem k127 : kindsOk m127 = true := by kernel_rfl
theorem k130 : kindsOk m130 = true := by kernel_rfl
theorem k133 : kindsOk m133 = true := by kernel_rfl
theorem k136 : kindsOk m136 = true := by kernel_rfl
theorem k139 : kindsOk m139 = true := by kernel_rfl
theorem k142 : kindsOk m142 = true := by kernel_rfl
theorem k145 : kindsOk m145 = true := by kernel_rfl
theorem k148 : kindsOk m148 = true := by kernel_rfl
theorem k151 : kindsOk m151 = true := by kernel_rfl
theorem k154 : kindsOk m154 = true := by kernel_rfl
theorem k157 : kindsOk m157 = true := by kernel_rfl
theorem k160 : kindsOk m160 = true := by kernel_rfl
theorem k163 : kindsOk m163 = true := by kernel_rfl
theorem k166 : kindsOk m166 = true := by kernel_rfl
theorem k169 : kindsOk m169 = true := by kernel_rfl
theorem k172 : kindsOk m172 = true := by kernel_rfl
theorem k175 : kindsOk m175 = true := by kernel_rfl
theorem k178 : kindsOk m178 = true := by kernel_rfl
theorem k181 : kindsOk m181 = true := by kernel_rfl
theorem k184 : kindsOk m184 = true := by kernel_rfl
theorem k187 : kindsOk m187 = true := by kernel_rfl
theorem k190 : kindsOk m190 = true := by kernel_rfl
theorem k193 : kindsOk m193 = true := by kernel_rfl
theorem k196 : kindsOk m196 = true := by kernel_rfl
theorem k199 : kindsOk m199 = true := by kernel_rfl
theorem k202 : kindsOk m202 = true := by kernel_rfl
theorem k205 : kindsOk m205 = true := by kernel_rfl
theorem k208 : kindsOk m208 = true := by kernel_rfl
theorem k211 : kindsOk m211 = true := by kernel_rfl
theorem k214 : kindsOk m214 = true := by kernel_rfl
theorem k217 : kindsOk m217 = true := by kernel_rfl
theorem k220 : kindsOk m220 = true := by kernel_rfl
theorem k223 : kindsOk m223 = true := by kernel_rfl
theorem k226 : kindsOk m226 = true := by kernel_rfl
theorem k229 : kindsOk m229 = true := by kernel_rfl
theorem k232 : kindsOk m232 = true := by kernel_rfl
theorem k235 : kindsOk m235 = true := by kernel_rfl
theorem k238 : kindsOk m238 = true := by kernel_rfl
theorem k241 : kindsOk m241 = true := by kernel_rfl
theorem k244 : kindsOk m244 = true := by kernel_rfl
theorem k247 : kindsOk m247 = true := by kernel_rfl
theorem k250 : kindsOk m250 = true := by kernel_rfl
theorem k253 : kindsOk m253 = true := by kernel_rfl
theorem k256 : kindsOk m256 = true := by kernel_rfl
theorem k259 : kindsOk m259 = true := by kernel_rfl
theorem k262 : kindsOk m262 = true := by kernel_rfl
theorem k265 : kindsOk m265 = true := by kernel_rfl
theorem k268 : kindsOk m268 = true := by kernel_rfl
theorem k271 : kindsOk m271 = true := by kernel_rfl
theorem k274 : kindsOk m274 = true := by kernel_rfl
theorem k277 : kindsOk m277 = true := by kernel_rfl
theorem k280 : kindsOk m280 = true := by kernel_rfl
theorem k283 : kindsOk m283 = true := by kernel_rfl
theorem k286 : kindsOk m286 = true := by kernel_rfl
theorem k289 : kindsOk m289 = true := by kernel_rfl
theorem k292 : kindsOk m292 = true := by kernel_rfl
theorem k295 : kindsOk m295 = true := by kernel_rfl
theorem k298 : kindsOk m298 = true := by kernel_rfl
theorem k301 : kindsOk m301 = true := by kernel_rfl
theorem k304 : kindsOk m304 = true := by kernel_rfl
theorem k307 : kindsOk m307 = true := by kernel_rfl
theorem k310 : kindsOk m310 = true := by kernel_rfl
theorem k313 : kindsOk m313 = true := by kernel_rfl
theorem k316 : kindsOk m316 = true := by kernel_rfl
theorem k319 : kindsOk m319 = true := by kernel_rfl
theorem k322 : kindsOk m322 = true := by kernel_rfl
theorem k325 : kindsOk m325 = true := by kernel_rfl
theorem k328 : kindsOk m328 = true := by kernel_rfl
theorem k331 : kindsOk m331 = true := by kernel_rfl
theorem k334 : kindsOk m334 = true := by kernel_rfl
theorem k337 : kindsOk m337 = true := by kernel_rfl
theorem k340 : kindsOk m340 = true := by kernel_rfl
theorem k343 : kindsOk m343 = true := by kernel_rfl
theorem k346 : kindsOk m346 = true := by kernel_rfl
theorem k349 : kindsOk m349 = true := by kernel_rfl
theorem k352 : kindsOk m352 = true := by kernel_rfl
theorem k355 : kindsOk m355 = true := by kernel_rfl
theorem k358 : kindsOk m358 = true := by kernel_rfl
theorem k361 : kindsOk m361 = true := by kernel_rfl
theorem k364 : kindsOk m364 = true := by kernel_rfl
theorem k367 : kindsOk m367 = true := by kernel_rfl
theorem k370 : kindsOk m370 = true := by kernel_rfl
theorem k373 : kindsOk m373 = true := by kernel_rfl
theorem k376 : kindsOk m376 = true := by kernel_rfl
theorem k379 : kindsOk m379 = true := by kernel_rfl
theorem k382 : kindsOk m382 = true := by kernel_rfl
theorem k385 : kindsOk m385 = true := by kernel_rfl
theorem k388 : kindsOk m388 = true := by kernel_rfl
theorem k391 : kindsOk m391 = true := by kernel_rfl
theorem k394 : kindsOk m394 = true := by kernel_rfl
theorem k397 : kindsOk m397 = true := by kernel_rfl
theorem k400 : kindsOk m400 = true := by kernel_rfl
theorem k403 : kindsOk m403 = true := by kernel_rfl
theorem k406 : kindsOk m406 = true := by kernel_rfl
theorem k409 : kindsOk m409 = true := by kernel_rfl
theorem k412 : kindsOk m412 = true := by kernel_rfl
theorem k415 : kindsOk m415 = true := by kernel_rfl
theorem k418 : kindsOk m418 = true := by kernel_rfl
theorem k421 : kindsOk m421 = true := by kernel_rfl
theorem k424 : kindsOk m424 = true := by kernel_rfl
theorem k427 : kindsOk m427 = true := by kernel_rfl
theorem k430 : kindsOk m430 = true := by kernel_rfl
theorem k433 : kindsOk m433 = true := by kernel_rfl
theorem k436 : kindsOk m436 = true := by kernel_rfl
theorem k439 : kindsOk m439 = true := by kernel_rfl
theorem k442 : kindsOk m442 = true := by kernel_rfl
theorem k445 : kindsOk m445 = true := by kernel_rfl

/-- What is known of the numbers. -/
def bds [Toks] : List (Nat × Nat × Nat) → Prop
  | [] => True
  | (t, lo, hi) :: r => (((lo : Nat) : Int) ≤ Toks.A t ∧ Toks.A t ≤ ((hi : Nat) : Int)) ∧ bds r
/-- From here on all is well. -/
def K (l : List (Nat × Nat × Nat)) (f : List Value) (m : AHeap) (p : Pt) : Prop := ∀ [Toks] (W : World), CallOk Tryz.prog cc ∧ CallMono cc → bds l → ∀ a w, Stg 108 W (argsTr f 0 .nil) m a w → wpAt Tryz.prog fn bd W p a w
theorem st {l : List (Nat × Nat × Nat)} {n : Nat} {p p2 : Pt} {f l2 : List Value} {m h2 : AHeap} {k0 : Nat} {s : Tr Nat} (hx : G n p f m (Z p2 l2 h2 k0 s) = true) (H : K l l2 h2 p2) : K l f m p := fun W hc hb a w h => stage hc mixed hx (H W hc hb) a w h
theorem la {l : List (Nat × Nat × Nat)} {n : Nat} {p : Pt} {f : List Value} {m : AHeap} (hx : G n p f m E = true) : K l f m p := fun W hc hb a w h => stage_last hc mixed hx a w h
theorem sp {l l1 l2 : List (Nat × Nat × Nat)} {p : Pt} {f : List Value} {m : AHeap} {t lo mid hi : Nat} (hk : kindsOk m = true) (e1 : ∀ [Toks], bds l → ((lo : Nat) : Int) ≤ Toks.A t ∧ Toks.A t ≤ ((hi : Nat) : Int)) (e2 : ∀ [Toks], bds l → Toks.A t ≤ ((mid : Nat) : Int) → bds l1) (e3 : ∀ [Toks], bds l → (((mid + 1 : Nat)) : Int) ≤ Toks.A t → bds l2)
    (h1 : K l1 (f.map (nrw2 t lo mid)) (nrwH t lo mid m) p) (h2 : K l2 (f.map (nrw2 t (mid + 1) hi)) (nrwH t (mid + 1) hi m) p) : K l f m p := fun W hc hb a w h =>
  if hh : Toks.A t ≤ ((mid : Nat) : Int) then h1 W hc (e2 hb hh) a w (h.narrow hk (e1 hb).1 hh)
  else h2 W hc (e3 hb (by omega)) a w (h.narrow hk (by omega) (e1 hb).2)
theorem n447 : K [(100,149,149), (101,0,4)] (f445.map (nrw2 100 149 149)) (nrwH 100 149 149 m445) (.lp 6) := la s447
theorem n446 : K [(100,148,148), (101,0,4)] (f445.map (nrw2 100 148 148)) (nrwH 100 148 148 m445) (.lp 6) := la s446
theorem n445 : K [(100,148,149), (101,0,4)] f445 m445 (.lp 6) := sp (mid := 148) k445 (by exact fun b => b.1) (by exact fun b h => ⟨⟨b.1.1, h⟩, b.2⟩) (by exact fun b h => ⟨⟨h, b.1.2⟩, b.2⟩) n446 n447
theorem n444 : K [(100,148,149), (101,0,4)] (f442.map (nrw2 100 148 149)) (nrwH 100 148 149 m442) (.lp 6) := st s444 n445
theorem n443 : K [(100,147,147), (101,0,4)] (f442.map (nrw2 100 147 147)) (nrwH 100 147 147 m442) (.lp 6) := la s443
theorem n442 : K [(100,147,149), (101,0,4)] f442 m442 (.lp 6) := sp (mid := 147) k442 (by exact fun b => b.1) (by exact fun b h => ⟨⟨b.1.1, h⟩, b.2⟩) (by exact fun b h => ⟨⟨h, b.1.2⟩, b.2⟩) n443 n444
theorem n441 : K [(100,147,149), (101,0,4)] (f439.map (nrw2 100 147 149)) (nrwH 100 147 149 m439) (.lp 6) := st s441 n442
theorem n440 : K [(100,146,146), (101,0,4)] (f439.map (nrw2 100 146 146)) (nrwH 100 146 146 m439) (.lp 6) := la s440
theorem n439 : K [(100,146,149), (101,0,4)] f439 m439 (.lp 6) := sp (mid := 146) k439 (by exact fun b => b.1) (by exact fun b h => ⟨⟨b.1.1, h⟩, b.2⟩) (by exact fun b h => ⟨⟨h, b.1.2⟩, b.2⟩) n440 n441
theorem n438 : K [(100,146,149), (101,0,4)] (f436.map (nrw2 100 146 149)) (nrwH 100 146 149 m436) (.lp 6) := st s438 n439
theorem n437 : K [(100,145,145), (101,0,4)] (f436.map (nrw2 100 145 145)) (nrwH 100 145 145 m436) (.lp 6) := la s437
theorem n436 : K [(100,145,149), (101,0,4)] f436 m436 (.lp 6) := sp (mid := 145) k436 (by exact fun b => b.1) (by exact fun b h => ⟨⟨b.1.1, h⟩, b.2⟩) (by exact fun b h => ⟨⟨h, b.1.2⟩, b.2⟩) n437 n438
theorem n435 : K [(100,145,149), (101,0,4)] (f433.map (nrw2 100 145 149)) (nrwH 100 145 149 m433) (.lp 6) := st s435 n436
theorem n434 : K [(100,144,144), (101,0,4)] (f433.map (nrw2 100 144 144)) (nrwH 100 144 144 m433) (.lp 6) := la s434
theorem n433 : K [(100,144,149), (101,0,4)] f433 m433 (.lp 6) := sp (mid := 144) k433 (by exact fun b => b.1) (by exact fun b h => ⟨⟨b.1.1, h⟩, b.2⟩) (by exact fun b h => ⟨⟨h, b.1.2⟩, b.2⟩) n434 n435
theorem n432 : K [(100,144,149), (101,0,4)] (f430.map (nrw2 100 144 149)) (nrwH 100 144 149 m430) (.lp 6) := st s432 n433
theorem n431 : K [(100,143,143), (101,0,4)] (f430.map (nrw2 100 143 143)) (nrwH 100 143 143 m430) (.lp 6) := la s431
theorem n430 : K [(100,143,149), (101,0,4)] f430 m430 (.lp 6) := sp (mid := 143) k430 (by exact fun b => b.1) (by exact fun b h => ⟨⟨b.1.1, h⟩, b.2⟩) (by exact fun b h => ⟨⟨h, b.1.2⟩, b.2⟩) n431 n432
theorem n429 : K [(100,143,149), (101,0,4)] (f427.map (nrw2 100 143 149)) (nrwH 100 143 149 m427) (.lp 6) := st s429 n430
theorem n428 : K [(100,142,142), (101,0,4)] (f427.map (nrw2 100 142 142)) (nrwH 100 142 142 m427) (.lp 6) := la s428
theorem n427 : K [(100,142,149), (101,0,4)] f427 m427 (.lp 6) := sp (mid := 142) k427 (by exact fun b => b.1) (by exact fun b h => ⟨⟨b.1.1, h⟩, b.2⟩) (by exact fun b h => ⟨⟨h, b.1.2⟩, b.2⟩) n428 n429
theorem n426 : K [(100,142,149), (101,0,4)] (f424.map (nrw2 100 142 149)) (nrwH 100 142 149 m424) (.lp 6) := st s426 n427
theorem n425 : K [(100,141,141), (101,0,4)] (f424.map (nrw2 100 141 141)) (nrwH 100 141 141 m424) (.lp 6) := la s425
theorem n424 : K [(100,141,149), (101,0,4)] f424 m424 (.lp 6) := sp (mid := 141) k424 (by exact fun b => b.1) (by exact fun b h => ⟨⟨b.1.1, h⟩, b.2⟩) (by exact fun b h => ⟨⟨h, b.1.2⟩, b.2⟩) n425 n426
theorem n423 : K [(100,141,149), (101,0,4)] (f421.map (nrw2 100 141 149)) (nrwH 100 141 149 m421) (.lp 6) := st s423 n424
theorem n422 : K [(100,140,140), (101,0,4)] (f421.map (nrw2 100 140 140)) (nrwH 100 140 140 m421) (.lp 6) := la s422
theorem n421 : K [(100,140,149), (101,0,4)] f421 m421 (.lp 6) := sp (mid := 140) k421 (by exact fun b => b.1) (by exact fun b h => ⟨⟨b.1.1, h⟩, b.2⟩) (by exact fun b h => ⟨⟨h, b.1.2⟩, b.2⟩) n422 n423
theorem n420 : K [(100,140,149), (101,0,4)] (f418.map (nrw2 100 140 149)) (nrwH 100 140 149 m418) (.lp 6) := st s420 n421
theorem n419 : K [(100,139,139), (101,0,4)] (f418.map (nrw2 100 139 139)) (nrwH 100 139 139 m418) (.lp 6) := la s419
theorem n418 : K [(100,139,149), (101,0,4)] f418 m418 (.lp 6) := sp (mid := 139) k418 (by exact fun b => b.1) (by exact fun b h => ⟨⟨b.1.1, h⟩, b.2⟩) (by exact fun b h => ⟨⟨h, b.1.2⟩, b.2⟩) n419 n420
theorem n417 : K [(100,139,149), (101,0,4)] (f415.map (nrw2 100 139 149)) (nrwH 100 139 149 m415) (.lp 6) := st s417 n418
theorem n416 : K [(100,138,138), (101,0,4)] (f415.map (nrw2 100 138 138)) (nrwH 100 138 138 m415) (.lp 6) := la s416
theorem n415 : K [(100,138,149), (101,0,4)] f415 m415 (.lp 6) := sp (mid := 138) k415 (by exact fun b => b.1) (by exact fun b h => ⟨⟨b.1.1, h⟩, b.2⟩) (by exact fun b h => ⟨⟨h, b.1.2⟩, b.2⟩) n416 n417
theorem n414 : K [(100,138,149), (101,0,4)] (f412.map (nrw2 100 138 149)) (nrwH 100 138 149 m412) (.lp 6) := st s414 n415
theorem n413 : K [(100,137,137), (101,0,4)] (f412.map (nrw2 100 137 137)) (nrwH 100 137 137 m412) (.lp 6) := la s413
theorem n412 : K [(100,137,149), (101,0,4)] f412 m412 (.lp 6) := sp (mid := 137) k412 (by exact fun b => b.1) (by exact fun b h => ⟨⟨b.1.1, h⟩, b.2⟩) (by exact fun b h => ⟨⟨h, b.1.2⟩, b.2⟩) n413 n414
theorem n411 : K [(100,137,149), (101,0,4)] (f409.map (nrw2 100 137 149)) (nrwH 100 137 149 m409) (.lp 6) := st s411 n412
theorem n410 : K [(100,136,136), (101,0,4)] (f409.map (nrw2 100 136 136)) (nrwH 100 136 136 m409) (.lp 6) := la s410
theorem n409 : K [(100,136,149), (101,0,4)] f409 m409 (.lp 6) := sp (mid := 136) k409 (by exact fun b => b.1) (by exact fun b h => ⟨⟨b.1.1, h⟩, b.2⟩) (by exact fun b h => ⟨⟨h, b.1.2⟩, b.2⟩) n410 n411
theorem n408 : K [(100,136,149), (101,0,4)] (f406.map (nrw2 100 136 149)) (nrwH 100 136 149 m406) (.lp 6) := st s408 n409
theorem n407 : K [(100,135,135), (101,0,4)] (f406.map (nrw2 100 135 135)) (nrwH 100 135 135 m406) (.lp 6) := la s407
theorem n406 : K [(100,135,149), (101,0,4)] f406 m406 (.lp 6) := sp (mid := 135) k406 (by exact fun b => b.1) (by exact fun b h => ⟨⟨b.1.1, h⟩, b.2⟩) (by exact fun b h => ⟨⟨h, b.1.2⟩, b.2⟩) n407 n408
theorem n405 : K [(100,135,149), (101,0,4)] (f403.map (nrw2 100 135 149)) (nrwH 100 135 149 m403) (.lp 6) := st s405 n406
theorem n404 : K [(100,134,134), (101,0,4)] (f403.map (nrw2 100 134 134)) (nrwH 100 134 134 m403) (.lp 6) := la s404
theorem n403 : K [(100,134,149), (101,0,4)] f403 m403 (.lp 6) := sp (mid := 134) k403 (by exact fun b => b.1) (by exact fun b h => ⟨⟨b.1.1, h⟩, b.2⟩) (by exact fun b h => ⟨⟨h, b.1.2⟩, b.2⟩) n404 n405
theorem n402 : K [(100,134,149), (101,0,4)] (f400.map (nrw2 100 134 149)) (nrwH 100 134 149 m400) (.lp 6) := st s402 n403
theorem n401 : K [(100,133,133), (101,0,4)] (f400.map (nrw2 100 133 133)) (nrwH 100 133 133 m400) (.lp 6) := la s401
theorem n400 : K [(100,133,149), (101,0,4)] f400 m400 (.lp 6) := sp (mid := 133) k400 (by exact fun b => b.1) (by exact fun b h => ⟨⟨b.1.1, h⟩, b.2⟩) (by exact fun b h => ⟨⟨h, b.1.2⟩, b.2⟩) n401 n402
theorem n399 : K [(100,133,149), (101,0,4)] (f397.map (nrw2 100 133 149)) (nrwH 100 133 149 m397) (.lp 6) := st s399 n400
theorem n398 : K [(100,132,132), (101,0,4)] (f397.map (nrw2 100 132 132)) (nrwH 100 132 132 m397) (.lp 6) := la s398
theorem n397 : K [(100,132,149), (101,0,4)] f397 m397 (.lp 6) := sp (mid := 132) k397 (by exact fun b => b.1) (by exact fun b h => ⟨⟨b.1.1, h⟩, b.2⟩) (by exact fun b h => ⟨⟨h, b.1.2⟩, b.2⟩) n398 n399
theorem n396 : K [(100,132,149), (101,0,4)] (f394.map (nrw2 100 132 149)) (nrwH 100 132 149 m394) (.lp 6) := st s396 n397
theorem n395 : K [(100,131,131), (101,0,4)] (f394.map (nrw2 100 131 131)) (nrwH 100 131 131 m394) (.lp 6) := la s395
theorem n394 : K [(100,131,149), (101,0,4)] f394 m394 (.lp 6) := sp (mid := 131) k394 (by exact fun b => b.1) (by exact fun b h => ⟨⟨b.1.1, h⟩, b.2⟩) (by exact fun b h => ⟨⟨h, b.1.2⟩, b.2⟩) n395 n396
theorem n393 : K [(100,131,149), (101,0,4)] (f391.map (nrw2 100 131 149)) (nrwH 100 131 149 m391) (.lp 6) := st s393 n394
theorem n392 : K [(100,130,130), (101,0,4)] (f391.map (nrw2 100 130 130)) (nrwH 100 130 130 m391) (.lp 6) := la s392
theorem n391 : K [(100,130,149), (101,0,4)] f391 m391 (.lp 6) := sp (mid := 130) k391 (by exact fun b => b.1) (by exact fun b h => ⟨⟨b.1.1, h⟩, b.2⟩) (by exact fun b h => ⟨⟨h, b.1.2⟩, b.2⟩) n392 n393
theorem n390 : K [(100,130,149), (101,0,4)] (f388.map (nrw2 100 130 149)) (nrwH 100 130 149 m388) (.lp 6) := st s390 n391
theorem n389 : K [(100,129,129), (101,0,4)] (f388.map (nrw2 100 129 129)) (nrwH 100 129 129 m388) (.lp 6) := la s389
theorem n388 : K [(100,129,149), (101,0,4)] f388 m388 (.lp 6) := sp (mid := 129) k388 (by exact fun b => b.1) (by exact fun b h => ⟨⟨b.1.1, h⟩, b.2⟩) (by exact fun b h => ⟨⟨h, b.1.2⟩, b.2⟩) n389 n390
theorem n387 : K [(100,129,149), (101,0,4)] (f385.map (nrw2 100 129 149)) (nrwH 100 129 149 m385) (.lp 6) := st s387 n388
theorem n386 : K [(100,128,128), (101,0,4)] (f385.map (nrw2 100 128 128)) (nrwH 100 128 128 m385) (.lp 6) := la s386
theorem n385 : K [(100,128,149), (101,0,4)] f385 m385 (.lp 6) := sp (mid := 128) k385 (by exact fun b => b.1) (by exact fun b h => ⟨⟨b.1.1, h⟩, b.2⟩) (by exact fun b h => ⟨⟨h, b.1.2⟩, b.2⟩) n386 n387
theorem n384 : K [(100,128,149), (101,0,4)] (f382.map (nrw2 100 128 149)) (nrwH 100 128 149 m382) (.lp 6) := st s384 n385
theorem n383 : K [(100,127,127), (101,0,4)] (f382.map (nrw2 100 127 127)) (nrwH 100 127 127 m382) (.lp 6) := la s383
theorem n382 : K [(100,127,149), (101,0,4)] f382 m382 (.lp 6) := sp (mid := 127) k382 (by exact fun b => b.1) (by exact fun b h => ⟨⟨b.1.1, h⟩, b.2⟩) (by exact fun b h => ⟨⟨h, b.1.2⟩, b.2⟩) n383 n384
theorem n381 : K [(100,127,149), (101,0,4)] (f379.map (nrw2 100 127 149)) (nrwH 100 127 149 m379) (.lp 6) := st s381 n382
theorem n380 : K [(100,126,126), (101,0,4)] (f379.map (nrw2 100 126 126)) (nrwH 100 126 126 m379) (.lp 6) := la s380
theorem n379 : K [(100,126,149), (101,0,4)] f379 m379 (.lp 6) := sp (mid := 126) k379 (by exact fun b => b.1) (by exact fun b h => ⟨⟨b.1.1, h⟩, b.2⟩) (by exact fun b h => ⟨⟨h, b.1.2⟩, b.2⟩) n380 n381
theorem n378 : K [(100,126,149), (101,0,4)] (f376.map (nrw2 100 126 149)) (nrwH 100 126 149 m376) (.lp 6) := st s378 n379
theorem n377 : K [(100,125,125), (101,0,4)] (f376.map (nrw2 100 125 125)) (nrwH 100 125 125 m376) (.lp 6) := la s377
theorem n376 : K [(100,125,149), (101,0,4)] f376 m376 (.lp 6) := sp (mid := 125) k376 (by exact fun b => b.1) (by exact fun b h => ⟨⟨b.1.1, h⟩, b.2⟩) (by exact fun b h => ⟨⟨h, b.1.2⟩, b.2⟩) n377 n378
theorem n375 : K [(100,125,149), (101,0,4)] (f373.map (nrw2 100 125 149)) (nrwH 100 125 149 m373) (.lp 6) := st s375 n376
theorem n374 : K [(100,124,124), (101,0,4)] (f373.map (nrw2 100 124 124)) (nrwH 100 124 124 m373) (.lp 6) := la s374
theorem n373 : K [(100,124,149), (101,0,4)] f373 m373 (.lp 6) := sp (mid := 124) k373 (by exact fun b => b.1) (by exact fun b h => ⟨⟨b.1.1, h⟩, b.2⟩) (by exact fun b h => ⟨⟨h, b.1.2⟩, b.2⟩) n374 n375
theorem n372 : K [(100,124,149), (101,0,4)] (f370.map (nrw2 100 124 149)) (nrwH 100 124 149 m370) (.lp 6) := st s372 n373
theorem n371 : K [(100,123,123), (101,0,4)] (f370.map (nrw2 100 123 123)) (nrwH 100 123 123 m370) (.lp 6) := la s371
theorem n370 : K [(100,123,149), (101,0,4)] f370 m370 (.lp 6) := sp (mid := 123) k370 (by exact fun b => b.1) (by exact fun b h => ⟨⟨b.1.1, h⟩, b.2⟩) (by exact fun b h => ⟨⟨h, b.1.2⟩, b.2⟩) n371 n372
theorem n369 : K [(100,123,149), (101,0,4)] (f367.map (nrw2 100 123 149)) (nrwH 100 123 149 m367) (.lp 6) := st s369 n370
theorem n368 : K [(100,122,122), (101,0,4)] (f367.map (nrw2 100 122 122)) (nrwH 100 122 122 m367) (.lp 6) := la s368
theorem n367 : K [(100,122,149), (101,0,4)] f367 m367 (.lp 6) := sp (mid := 122) k367 (by exact fun b => b.1) (by exact fun b h => ⟨⟨b.1.1, h⟩, b.2⟩) (by exact fun b h => ⟨⟨h, b.1.2⟩, b.2⟩) n368 n369
theorem n366 : K [(100,122,149), (101,0,4)] (f364.map (nrw2 100 122 149)) (nrwH 100 122 149 m364) (.lp 6) := st s366 n367
theorem n365 : K [(100,121,121), (101,0,4)] (f364.map (nrw2 100 121 121)) (nrwH 100 121 121 m364) (.lp 6) := la s365
theorem n364 : K [(100,121,149), (101,0,4)] f364 m364 (.lp 6) := sp (mid := 121) k364 (by exact fun b => b.1) (by exact fun b h => ⟨⟨b.1.1, h⟩, b.2⟩) (by exact fun b h => ⟨⟨h, b.1.2⟩, b.2⟩) n365 n366
theorem n363 : K [(100,121,149), (101,0,4)] (f361.map (nrw2 100 121 149)) (nrwH 100 121 149 m361) (.lp 6) := st s363 n364
theorem n362 : K [(100,120,120), (101,0,4)] (f361.map (nrw2 100 120 120)) (nrwH 100 120 120 m361) (.lp 6) := la s362
theorem n361 : K [(100,120,149), (101,0,4)] f361 m361 (.lp 6) := sp (mid := 120) k361 (by exact fun b => b.1) (by exact fun b h => ⟨⟨b.1.1, h⟩, b.2⟩) (by exact fun b h => ⟨⟨h, b.1.2⟩, b.2⟩) n362 n363
theorem n360 : K [(100,120,149), (101,0,4)] (f358.map (nrw2 100 120 149)) (nrwH 100 120 149 m358) (.lp 6) := st s360 n361
theorem n359 : K [(100,119,119), (101,0,4)] (f358.map (nrw2 100 119 119)) (nrwH 100 119 119 m358) (.lp 6) := la s359
theorem n358 : K [(100,119,149), (101,0,4)] f358 m358 (.lp 6) := sp (mid := 119) k358 (by exact fun b => b.1) (by exact fun b h => ⟨⟨b.1.1, h⟩, b.2⟩) (by exact fun b h => ⟨⟨h, b.1.2⟩, b.2⟩) n359 n360
theorem n357 : K [(100,119,149), (101,0,4)] (f355.map (nrw2 100 119 149)) (nrwH 100 119 149 m355) (.lp 6) := st s357 n358
theorem n356 : K [(100,118,118), (101,0,4)] (f355.map (nrw2 100 118 118)) (nrwH 100 118 118 m355) (.lp 6) := la s356
theorem n355 : K [(100,118,149), (101,0,4)] f355 m355 (.lp 6) := sp (mid := 118) k355 (by exact fun b => b.1) (by exact fun b h => ⟨⟨b.1.1, h⟩, b.2⟩) (by exact fun b h => ⟨⟨h, b.1.2⟩, b.2⟩) n356 n357
theorem n354 : K [(100,118,149), (101,0,4)] (f352.map (nrw2 100 118 149)) (nrwH 100 118 149 m352) (.lp 6) := st s354 n355
theorem n353 : K [(100,117,117), (101,0,4)] (f352.map (nrw2 100 117 117)) (nrwH 100 117 117 m352) (.lp 6) := la s353
theorem n352 : K [(100,117,149), (101,0,4)] f352 m352 (.lp 6) := sp (mid := 117) k352 (by exact fun b => b.1) (by exact fun b h => ⟨⟨b.1.1, h⟩, b.2⟩) (by exact fun b h => ⟨⟨h, b.1.2⟩, b.2⟩) n353 n354
theorem n351 : K [(100,117,149), (101,0,4)] (f349.map (nrw2 100 117 149)) (nrwH 100 117 149 m349) (.lp 6) := st s351 n352
theorem n350 : K [(100,116,116), (101,0,4)] (f349.map (nrw2 100 116 116)) (nrwH 100 116 116 m349) (.lp 6) := la s350
theorem n349 : K [(100,116,149), (101,0,4)] f349 m349 (.lp 6) := sp (mid := 116) k349 (by exact fun b => b.1) (by exact fun b h => ⟨⟨b.1.1, h⟩, b.2⟩) (by exact fun b h => ⟨⟨h, b.1.2⟩, b.2⟩) n350 n351
theorem n348 : K [(100,116,149), (101,0,4)] (f346.map (nrw2 100 116 149)) (nrwH 100 116 149 m346) (.lp 6) := st s348 n349
theorem n347 : K [(100,115,115), (101,0,4)] (f346.map (nrw2 100 115 115)) (nrwH 100 115 115 m346) (.lp 6) := la s347
theorem n346 : K [(100,115,149), (101,0,4)] f346 m346 (.lp 6) := sp (mid := 115) k346 (by exact fun b => b.1) (by exact fun b h => ⟨⟨b.1.1, h⟩, b.2⟩) (by exact fun b h => ⟨⟨h, b.1.2⟩, b.2⟩) n347 n348
theorem n345 : K [(100,115,149), (101,0,4)] (f343.map (nrw2 100 115 149)) (nrwH 100 115 149 m343) (.lp 6) := st s345 n346
theorem n344 : K [(100,114,114), (101,0,4)] (f343.map (nrw2 100 114 114)) (nrwH 100 114 114 m343) (.lp 6) := la s344
theorem n343 : K [(100,114,149), (101,0,4)] f343 m343 (.lp 6) := sp (mid := 114) k343 (by exact fun b => b.1) (by exact fun b h => ⟨⟨b.1.1, h⟩, b.2⟩) (by exact fun b h => ⟨⟨h, b.1.2⟩, b.2⟩) n344 n345
theorem n342 : K [(100,114,149), (101,0,4)] (f340.map (nrw2 100 114 149)) (nrwH 100 114 149 m340) (.lp 6) := st s342 n343
theorem n341 : K [(100,113,113), (101,0,4)] (f340.map (nrw2 100 113 113)) (nrwH 100 113 113 m340) (.lp 6) := la s341
theorem n340 : K [(100,113,149), (101,0,4)] f340 m340 (.lp 6) := sp (mid := 113) k340 (by exact fun b => b.1) (by exact fun b h => ⟨⟨b.1.1, h⟩, b.2⟩) (by exact fun b h => ⟨⟨h, b.1.2⟩, b.2⟩) n341 n342
theorem n339 : K [(100,113,149), (101,0,4)] (f337.map (nrw2 100 113 149)) (nrwH 100 113 149 m337) (.lp 6) := st s339 n340
theorem n338 : K [(100,112,112), (101,0,4)] (f337.map (nrw2 100 112 112)) (nrwH 100 112 112 m337) (.lp 6) := la s338
theorem n337 : K [(100,112,149), (101,0,4)] f337 m337 (.lp 6) := sp (mid := 112) k337 (by exact fun b => b.1) (by exact fun b h => ⟨⟨b.1.1, h⟩, b.2⟩) (by exact fun b h => ⟨⟨h, b.1.2⟩, b.2⟩) n338 n339
theorem n336 : K [(100,112,149), (101,0,4)] (f334.map (nrw2 100 112 149)) (nrwH 100 112 149 m334) (.lp 6) := st s336 n337
theorem n335 : K [(100,111,111), (101,0,4)] (f334.map (nrw2 100 111 111)) (nrwH 100 111 111 m334) (.lp 6) := la s335
theorem n334 : K [(100,111,149), (101,0,4)] f334 m334 (.lp 6) := sp (mid := 111) k334 (by exact fun b => b.1) (by exact fun b h => ⟨⟨b.1.1, h⟩, b.2⟩) (by exact fun b h => ⟨⟨h, b.1.2⟩, b.2⟩) n335 n336
theorem n333 : K [(100,111,149), (101,0,4)] (f331.map (nrw2 100 111 149)) (nrwH 100 111 149 m331) (.lp 6) := st s333 n334
theorem n332 : K [(100,110,110), (101,0,4)] (f331.map (nrw2 100 110 110)) (nrwH 100 110 110 m331) (.lp 6) := la s332
theorem n331 : K [(100,110,149), (101,0,4)] f331 m331 (.lp 6) := sp (mid := 110) k331 (by exact fun b => b.1) (by exact fun b h => ⟨⟨b.1.1, h⟩, b.2⟩) (by exact fun b h => ⟨⟨h, b.1.2⟩, b.2⟩) n332 n333
theorem n330 : K [(100,110,149), (101,0,4)] (f328.map (nrw2 100 110 149)) (nrwH 100 110 149 m328) (.lp 6) := st s330 n331
theorem n329 : K [(100,109,109), (101,0,4)] (f328.map (nrw2 100 109 109)) (nrwH 100 109 109 m328) (.lp 6) := la s329
theorem n328 : K [(100,109,149), (101,0,4)] f328 m328 (.lp 6) := sp (mid := 109) k328 (by exact fun b => b.1) (by exact fun b h => ⟨⟨b.1.1, h⟩, b.2⟩) (by exact fun b h => ⟨⟨h, b.1.2⟩, b.2⟩) n329 n330
theorem n327 : K [(100,109,149), (101,0,4)] (f325.map (nrw2 100 109 149)) (nrwH 100 109 149 m325) (.lp 6) := st s327 n328
theorem n326 : K [(100,108,108), (101,0,4)] (f325.map (nrw2 100 108 108)) (nrwH 100 108 108 m325) (.lp 6) := la s326
theorem n325 : K [(100,108,149), (101,0,4)] f325 m325 (.lp 6) := sp (mid := 108) k325 (by exact fun b => b.1) (by exact fun b h => ⟨⟨b.1.1, h⟩, b.2⟩) (by exact fun b h => ⟨⟨h, b.1.2⟩, b.2⟩) n326 n327
theorem n324 : K [(100,108,149), (101,0,4)] (f322.map (nrw2 100 108 149)) (nrwH 100 108 149 m322) (.lp 6) := st s324 n325
theorem n323 : K [(100,107,107), (101,0,4)] (f322.map (nrw2 100 107 107)) (nrwH 100 107 107 m322) (.lp 6) := la s323
theorem n322 : K [(100,107,149), (101,0,4)] f322 m322 (.lp 6) := sp (mid := 107) k322 (by exact fun b => b.1) (by exact fun b h => ⟨⟨b.1.1, h⟩, b.2⟩) (by exact fun b h => ⟨⟨h, b.1.2⟩, b.2⟩) n323 n324
theorem n321 : K [(100,107,149), (101,0,4)] (f319.map (nrw2 100 107 149)) (nrwH 100 107 149 m319) (.lp 6) := st s321 n322
theorem n320 : K [(100,106,106), (101,0,4)] (f319.map (nrw2 100 106 106)) (nrwH 100 106 106 m319) (.lp 6) := la s320
theorem n319 : K [(100,106,149), (101,0,4)] f319 m319 (.lp 6) := sp (mid := 106) k319 (by exact fun b => b.1) (by exact fun b h => ⟨⟨b.1.1, h⟩, b.2⟩) (by exact fun b h => ⟨⟨h, b.1.2⟩, b.2⟩) n320 n321
theorem n318 : K [(100,106,149), (101,0,4)] (f316.map (nrw2 100 106 149)) (nrwH 100 106 149 m316) (.lp 6) := st s318 n319
theorem n317 : K [(100,105,105), (101,0,4)] (f316.map (nrw2 100 105 105)) (nrwH 100 105 105 m316) (.lp 6) := la s317
theorem n316 : K [(100,105,149), (101,0,4)] f316 m316 (.lp 6) := sp (mid := 105) k316 (by exact fun b => b.1) (by exact fun b h => ⟨⟨b.1.1, h⟩, b.2⟩) (by exact fun b h => ⟨⟨h, b.1.2⟩, b.2⟩) n317 n318
theorem n315 : K [(100,105,149), (101,0,4)] (f313.map (nrw2 100 105 149)) (nrwH 100 105 149 m313) (.lp 6) := st s315 n316
theorem n314 : K [(100,104,104), (101,0,4)] (f313.map (nrw2 100 104 104)) (nrwH 100 104 104 m313) (.lp 6) := la s314
theorem n313 : K [(100,104,149), (101,0,4)] f313 m313 (.lp 6) := sp (mid := 104) k313 (by exact fun b => b.1) (by exact fun b h => ⟨⟨b.1.1, h⟩, b.2⟩) (by exact fun b h => ⟨⟨h, b.1.2⟩, b.2⟩) n314 n315
theorem n312 : K [(100,104,149), (101,0,4)] (f310.map (nrw2 100 104 149)) (nrwH 100 104 149 m310) (.lp 6) := st s312 n313
theorem n311 : K [(100,103,103), (101,0,4)] (f310.map (nrw2 100 103 103)) (nrwH 100 103 103 m310) (.lp 6) := la s311
theorem n310 : K [(100,103,149), (101,0,4)] f310 m310 (.lp 6) := sp (mid := 103) k310 (by exact fun b => b.1) (by exact fun b h => ⟨⟨b.1.1, h⟩, b.2⟩) (by exact fun b h => ⟨⟨h, b.1.2⟩, b.2⟩) n311 n312
theorem n309 : K [(100,103,149), (101,0,4)] (f307.map (nrw2 100 103 149)) (nrwH 100 103 149 m307) (.lp 6) := st s309 n310
theorem n308 : K [(100,102,102), (101,0,4)] (f307.map (nrw2 100 102 102)) (nrwH 100 102 102 m307) (.lp 6) := la s308
theorem n307 : K [(100,102,149), (101,0,4)] f307 m307 (.lp 6) := sp (mid := 102) k307 (by exact fun b => b.1) (by exact fun b h => ⟨⟨b.1.1, h⟩, b.2⟩) (by exact fun b h => ⟨⟨h, b.1.2⟩, b.2⟩) n308 n309
theorem n306 : K [(100,102,149), (101,0,4)] (f304.map (nrw2 100 102 149)) (nrwH 100 102 149 m304) (.lp 6) := st s306 n307
theorem n305 : K [(100,101,101), (101,0,4)] (f304.map (nrw2 100 101 101)) (nrwH 100 101 101 m304) (.lp 6) := la s305
theorem n304 : K [(100,101,149), (101,0,4)] f304 m304 (.lp 6) := sp (mid := 101) k304 (by exact fun b => b.1) (by exact fun b h => ⟨⟨b.1.1, h⟩, b.2⟩) (by exact fun b h => ⟨⟨h, b.1.2⟩, b.2⟩) n305 n306
theorem n303 : K [(100,101,149), (101,0,4)] (f301.map (nrw2 100 101 149)) (nrwH 100 101 149 m301) (.lp 6) := st s303 n304
theorem n302 : K [(100,100,100), (101,0,4)] (f301.map (nrw2 100 100 100)) (nrwH 100 100 100 m301) (.lp 6) := la s302
theorem n301 : K [(100,100,149), (101,0,4)] f301 m301 (.lp 6) := sp (mid := 100) k301 (by exact fun b => b.1) (by exact fun b h => ⟨⟨b.1.1, h⟩, b.2⟩) (by exact fun b h => ⟨⟨h, b.1.2⟩, b.2⟩) n302 n303
theorem n300 : K [(100,100,149), (101,0,4)] (f298.map (nrw2 100 100 149)) (nrwH 100 100 149 m298) (.lp 6) := st s300 n301
theorem n299 : K [(100,99,99), (101,0,4)] (f298.map (nrw2 100 99 99)) (nrwH 100 99 99 m298) (.lp 6) := la s299
theorem n298 : K [(100,99,149), (101,0,4)] f298 m298 (.lp 6) := sp (mid := 99) k298 (by exact fun b => b.1) (by exact fun b h => ⟨⟨b.1.1, h⟩, b.2⟩) (by exact fun b h => ⟨⟨h, b.1.2⟩, b.2⟩) n299 n300
theorem n297 : K [(100,99,149), (101,0,4)] (f295.map (nrw2 100 99 149)) (nrwH 100 99 149 m295) (.lp 6) := st s297 n298
theorem n296 : K [(100,98,98), (101,0,4)] (f295.map (nrw2 100 98 98)) (nrwH 100 98 98 m295) (.lp 6) := la s296
theorem n295 : K [(100,98,149), (101,0,4)] f295 m295 (.lp 6) := sp (mid := 98) k295 (by exact fun b => b.1) (by exact fun b h => ⟨⟨b.1.1, h⟩, b.2⟩) (by exact fun b h => ⟨⟨h, b.1.2⟩, b.2⟩) n296 n297
theorem n294 : K [(100,98,149), (101,0,4)] (f292.map (nrw2 100 98 149)) (nrwH 100 98 149 m292) (.lp 6) := st s294 n295
theorem n293 : K [(100,97,97), (101,0,4)] (f292.map (nrw2 100 97 97)) (nrwH 100 97 97 m292) (.lp 6) := la s293
theorem n292 : K [(100,97,149), (101,0,4)] f292 m292 (.lp 6) := sp (mid := 97) k292 (by exact fun b => b.1) (by exact fun b h => ⟨⟨b.1.1, h⟩, b.2⟩) (by exact fun b h => ⟨⟨h, b.1.2⟩, b.2⟩) n293 n294
theorem n291 : K [(100,97,149), (101,0,4)] (f289.map (nrw2 100 97 149)) (nrwH 100 97 149 m289) (.lp 6) := st s291 n292
theorem n290 : K [(100,96,96), (101,0,4)] (f289.map (nrw2 100 96 96)) (nrwH 100 96 96 m289) (.lp 6) := la s290
theorem n289 : K [(100,96,149), (101,0,4)] f289 m289 (.lp 6) := sp (mid := 96) k289 (by exact fun b => b.1) (by exact fun b h => ⟨⟨b.1.1, h⟩, b.2⟩) (by exact fun b h => ⟨⟨h, b.1.2⟩, b.2⟩) n290 n291
theorem n288 : K [(100,96,149), (101,0,4)] (f286.map (nrw2 100 96 149)) (nrwH 100 96 149 m286) (.lp 6) := st s288 n289
theorem n287 : K [(100,95,95), (101,0,4)] (f286.map (nrw2 100 95 95)) (nrwH 100 95 95 m286) (.lp 6) := la s287
theorem n286 : K [(100,95,149), (101,0,4)] f286 m286 (.lp 6) := sp (mid := 95) k286 (by exact fun b => b.1) (by exact fun b h => ⟨⟨b.1.1, h⟩, b.2⟩) (by exact fun b h => ⟨⟨h, b.1.2⟩, b.2⟩) n287 n288
theorem n285 : K [(100,95,149), (101,0,4)] (f283.map (nrw2 100 95 149)) (nrwH 100 95 149 m283) (.lp 6) := st s285 n286
theorem n284 : K [(100,94,94), (101,0,4)] (f283.map (nrw2 100 94 94)) (nrwH 100 94 94 m283) (.lp 6) := la s284
theorem n283 : K [(100,94,149), (101,0,4)] f283 m283 (.lp 6) := sp (mid := 94) k283 (by exact fun b => b.1) (by exact fun b h => ⟨⟨b.1.1, h⟩, b.2⟩) (by exact fun b h => ⟨⟨h, b.1.2⟩, b.2⟩) n284 n285
theorem n282 : K [(100,94,149), (101,0,4)] (f280.map (nrw2 100 94 149)) (nrwH 100 94 149 m280) (.lp 6) := st s282 n283
theorem n281 : K [(100,93,93), (101,0,4)] (f280.map (nrw2 100 93 93)) (nrwH 100 93 93 m280) (.lp 6) := la s281
theorem n280 : K [(100,93,149), (101,0,4)] f280 m280 (.lp 6) := sp (mid := 93) k280 (by exact fun b => b.1) (by exact fun b h => ⟨⟨b.1.1, h⟩, b.2⟩) (by exact fun b h => ⟨⟨h, b.1.2⟩, b.2⟩) n281 n282
theorem n279 : K [(100,93,149), (101,0,4)] (f277.map (nrw2 100 93 149)) (nrwH 100 93 149 m277) (.lp 6) := st s279 n280
theorem n278 : K [(100,92,92), (101,0,4)] (f277.map (nrw2 100 92 92)) (nrwH 100 92 92 m277) (.lp 6) := la s278
theorem n277 : K [(100,92,149), (101,0,4)] f277 m277 (.lp 6) := sp (mid := 92) k277 (by exact fun b => b.1) (by exact fun b h => ⟨⟨b.1.1, h⟩, b.2⟩) (by exact fun b h => ⟨⟨h, b.1.2⟩, b.2⟩) n278 n279
theorem n276 : K [(100,92,149), (101,0,4)] (f274.map (nrw2 100 92 149)) (nrwH 100 92 149 m274) (.lp 6) := st s276 n277
theorem n275 : K [(100,91,91), (101,0,4)] (f274.map (nrw2 100 91 91)) (nrwH 100 91 91 m274) (.lp 6) := la s275
theorem n274 : K [(100,91,149), (101,0,4)] f274 m274 (.lp 6) := sp (mid := 91) k274 (by exact fun b => b.1) (by exact fun b h => ⟨⟨b.1.1, h⟩, b.2⟩) (by exact fun b h => ⟨⟨h, b.1.2⟩, b.2⟩) n275 n276
theorem n273 : K [(100,91,149), (101,0,4)] (f271.map (nrw2 100 91 149)) (nrwH 100 91 149 m271) (.lp 6) := st s273 n274
theorem n272 : K [(100,90,90), (101,0,4)] (f271.map (nrw2 100 90 90)) (nrwH 100 90 90 m271) (.lp 6) := la s272
theorem n271 : K [(100,90,149), (101,0,4)] f271 m271 (.lp 6) := sp (mid := 90) k271 (by exact fun b => b.1) (by exact fun b h => ⟨⟨b.1.1, h⟩, b.2⟩) (by exact fun b h => ⟨⟨h, b.1.2⟩, b.2⟩) n272 n273
theorem n270 : K [(100,90,149), (101,0,4)] (f268.map (nrw2 100 90 149)) (nrwH 100 90 149 m268) (.lp 6) := st s270 n271
theorem n269 : K [(100,89,89), (101,0,4)] (f268.map (nrw2 100 89 89)) (nrwH 100 89 89 m268) (.lp 6) := la s269
theorem n268 : K [(100,89,149), (101,0,4)] f268 m268 (.lp 6) := sp (mid := 89) k268 (by exact fun b => b.1) (by exact fun b h => ⟨⟨b.1.1, h⟩, b.2⟩) (by exact fun b h => ⟨⟨h, b.1.2⟩, b.2⟩) n269 n270
theorem n267 : K [(100,89,149), (101,0,4)] (f265.map (nrw2 100 89 149)) (nrwH 100 89 149 m265) (.lp 6) := st s267 n268
theorem n266 : K [(100,88,88), (101,0,4)] (f265.map (nrw2 100 88 88)) (nrwH 100 88 88 m265) (.lp 6) := la s266
theorem n265 : K [(100,88,149), (101,0,4)] f265 m265 (.lp 6) := sp (mid := 88) k265 (by exact fun b => b.1) (by exact fun b h => ⟨⟨b.1.1, h⟩, b.2⟩) (by exact fun b h => ⟨⟨h, b.1.2⟩, b.2⟩) n266 n267
theorem n264 : K [(100,88,149), (101,0,4)] (f262.map (nrw2 100 88 149)) (nrwH 100 88 149 m262) (.lp 6) := st s264 n265
theorem n263 : K [(100,87,87), (101,0,4)] (f262.map (nrw2 100 87 87)) (nrwH 100 87 87 m262) (.lp 6) := la s263
theorem n262 : K [(100,87,149), (101,0,4)] f262 m262 (.lp 6) := sp (mid := 87) k262 (by exact fun b => b.1) (by exact fun b h => ⟨⟨b.1.1, h⟩, b.2⟩) (by exact fun b h => ⟨⟨h, b.1.2⟩, b.2⟩) n263 n264
theorem n261 : K [(100,87,149), (101,0,4)] (f259.map (nrw2 100 87 149)) (nrwH 100 87 149 m259) (.lp 6) := st s261 n262
theorem n260 : K [(100,86,86), (101,0,4)] (f259.map (nrw2 100 86 86)) (nrwH 100 86 86 m259) (.lp 6) := la s260
theorem n259 : K [(100,86,149), (101,0,4)] f259 m259 (.lp 6) := sp (mid := 86) k259 (by exact fun b => b.1) (by exact fun b h => ⟨⟨b.1.1, h⟩, b.2⟩) (by exact fun b h => ⟨⟨h, b.1.2⟩, b.2⟩) n260 n261
theorem n258 : K [(100,86,149), (101,0,4)] (f256.map (nrw2 100 86 149)) (nrwH 100 86 149 m256) (.lp 6) := st s258 n259
theorem n257 : K [(100,85,85), (101,0,4)] (f256.map (nrw2 100 85 85)) (nrwH 100 85 85 m256) (.lp 6) := la s257
theorem n256 : K [(100,85,149), (101,0,4)] f256 m256 (.lp 6) := sp (mid := 85) k256 (by exact fun b => b.1) (by exact fun b h => ⟨⟨b.1.1, h⟩, b.2⟩) (by exact fun b h => ⟨⟨h, b.1.2⟩, b.2⟩) n257 n258
theorem n255 : K [(100,85,149), (101,0,4)] (f253.map (nrw2 100 85 149)) (nrwH 100 85 149 m253) (.lp 6) := st s255 n256
theorem n254 : K [(100,84,84), (101,0,4)] (f253.map (nrw2 100 84 84)) (nrwH 100 84 84 m253) (.lp 6) := la s254
theorem n253 : K [(100,84,149), (101,0,4)] f253 m253 (.lp 6) := sp (mid := 84) k253 (by exact fun b => b.1) (by exact fun b h => ⟨⟨b.1.1, h⟩, b.2⟩) (by exact fun b h => ⟨⟨h, b.1.2⟩, b.2⟩) n254 n255
theorem n252 : K [(100,84,149), (101,0,4)] (f250.map (nrw2 100 84 149)) (nrwH 100 84 149 m250) (.lp 6) := st s252 n253
theorem n251 : K [(100,83,83), (101,0,4)] (f250.map (nrw2 100 83 83)) (nrwH 100 83 83 m250) (.lp 6) := la s251
theorem n250 : K [(100,83,149), (101,0,4)] f250 m250 (.lp 6) := sp (mid := 83) k250 (by exact fun b => b.1) (by exact fun b h => ⟨⟨b.1.1, h⟩, b.2⟩) (by exact fun b h => ⟨⟨h, b.1.2⟩, b.2⟩) n251 n252
theorem n249 : K [(100,83,149), (101,0,4)] (f247.map (nrw2 100 83 149)) (nrwH 100 83 149 m247) (.lp 6) := st s249 n250
theorem n248 : K [(100,82,82), (101,0,4)] (f247.map (nrw2 100 82 82)) (nrwH 100 82 82 m247) (.lp 6) := la s248
theorem n247 : K [(100,82,149), (101,0,4)] f247 m247 (.lp 6) := sp (mid := 82) k247 (by exact fun b => b.1) (by exact fun b h => ⟨⟨b.1.1, h⟩, b.2⟩) (by exact fun b h => ⟨⟨h, b.1.2⟩, b.2⟩) n248 n249
theorem n246 : K [(100,82,149), (101,0,4)] (f244.map (nrw2 100 82 149)) (nrwH 100 82 149 m244) (.lp 6) := st s246 n247
theorem n245 : K [(100,81,81), (101,0,4)] (f244.map (nrw2 100 81 81)) (nrwH 100 81 81 m244) (.lp 6) := la s245
theorem n244 : K [(100,81,149), (101,0,4)] f244 m244 (.lp 6) := sp (mid := 81) k244 (by exact fun b => b.1) (by exact fun b h => ⟨⟨b.1.1, h⟩, b.2⟩) (by exact fun b h => ⟨⟨h, b.1.2⟩, b.2⟩) n245 n246
theorem n243 : K [(100,81,149), (101,0,4)] (f241.map (nrw2 100 81 149)) (nrwH 100 81 149 m241) (.lp 6) := st s243 n244
theorem n242 : K [(100,80,80), (101,0,4)] (f241.map (nrw2 100 80 80)) (nrwH 100 80 80 m241) (.lp 6) := la s242
theorem n241 : K [(100,80,149), (101,0,4)] f241 m241 (.lp 6) := sp (mid := 80) k241 (by exact fun b => b.1) (by exact fun b h => ⟨⟨b.1.1, h⟩, b.2⟩) (by exact fun b h => ⟨⟨h, b.1.2⟩, b.2⟩) n242 n243
theorem n240 : K [(100,80,149), (101,0,4)] (f238.map (nrw2 100 80 149)) (nrwH 100 80 149 m238) (.lp 6) := st s240 n241
theorem n239 : K [(100,79,79), (101,0,4)] (f238.map (nrw2 100 79 79)) (nrwH 100 79 79 m238) (.lp 6) := la s239
theorem n238 : K [(100,79,149), (101,0,4)] f238 m238 (.lp 6) := sp (mid := 79) k238 (by exact fun b => b.1) (by exact fun b h => ⟨⟨b.1.1, h⟩, b.2⟩) (by exact fun b h => ⟨⟨h, b.1.2⟩, b.2⟩) n239 n240
theorem n237 : K [(100,79,149), (101,0,4)] (f235.map (nrw2 100 79 149)) (nrwH 100 79 149 m235) (.lp 6) := st s237 n238
theorem n236 : K [(100,78,78), (101,0,4)] (f235.map (nrw2 100 78 78)) (nrwH 100 78 78 m235) (.lp 6) := la s236
theorem n235 : K [(100,78,149), (101,0,4)] f235 m235 (.lp 6) := sp (mid := 78) k235 (by exact fun b => b.1) (by exact fun b h => ⟨⟨b.1.1, h⟩, b.2⟩) (by exact fun b h => ⟨⟨h, b.1.2⟩, b.2⟩) n236 n237
theorem n234 : K [(100,78,149), (101,0,4)] (f232.map (nrw2 100 78 149)) (nrwH 100 78 149 m232) (.lp 6) := st s234 n235
theorem n233 : K [(100,77,77), (101,0,4)] (f232.map (nrw2 100 77 77)) (nrwH 100 77 77 m232) (.lp 6) := la s233
theorem n232 : K [(100,77,149), (101,0,4)] f232 m232 (.lp 6) := sp (mid := 77) k232 (by exact fun b => b.1) (by exact fun b h => ⟨⟨b.1.1, h⟩, b.2⟩) (by exact fun b h => ⟨⟨h, b.1.2⟩, b.2⟩) n233 n234
theorem n231 : K [(100,77,149), (101,0,4)] (f229.map (nrw2 100 77 149)) (nrwH 100 77 149 m229) (.lp 6) := st s231 n232
theorem n230 : K [(100,76,76), (101,0,4)] (f229.map (nrw2 100 76 76)) (nrwH 100 76 76 m229) (.lp 6) := la s230
theorem n229 : K [(100,76,149), (101,0,4)] f229 m229 (.lp 6) := sp (mid := 76) k229 (by exact fun b => b.1) (by exact fun b h => ⟨⟨b.1.1, h⟩, b.2⟩) (by exact fun b h => ⟨⟨h, b.1.2⟩, b.2⟩) n230 n231
theorem n228 : K [(100,76,149), (101,0,4)] (f226.map (nrw2 100 76 149)) (nrwH 100 76 149 m226) (.lp 6) := st s228 n229
theorem n227 : K [(100,75,75), (101,0,4)] (f226.map (nrw2 100 75 75)) (nrwH 100 75 75 m226) (.lp 6) := la s227
theorem n226 : K [(100,75,149), (101,0,4)] f226 m226 (.lp 6) := sp (mid := 75) k226 (by exact fun b => b.1) (by exact fun b h => ⟨⟨b.1.1, h⟩, b.2⟩) (by exact fun b h => ⟨⟨h, b.1.2⟩, b.2⟩) n227 n228
theorem n225 : K [(100,75,149), (101,0,4)] (f223.map (nrw2 100 75 149)) (nrwH 100 75 149 m223) (.lp 6) := st s225 n226
theorem n224 : K [(100,74,74), (101,0,4)] (f223.map (nrw2 100 74 74)) (nrwH 100 74 74 m223) (.lp 6) := la s224
theorem n223 : K [(100,74,149), (101,0,4)] f223 m223 (.lp 6) := sp (mid := 74) k223 (by exact fun b => b.1) (by exact fun b h => ⟨⟨b.1.1, h⟩, b.2⟩) (by exact fun b h => ⟨⟨h, b.1.2⟩, b.2⟩) n224 n225
theorem n222 : K [(100,74,149), (101,0,4)] (f220.map (nrw2 100 74 149)) (nrwH 100 74 149 m220) (.lp 6) := st s222 n223
theorem n221 : K [(100,73,73), (101,0,4)] (f220.map (nrw2 100 73 73)) (nrwH 100 73 73 m220) (.lp 6) := la s221
theorem n220 : K [(100,73,149), (101,0,4)] f220 m220 (.lp 6) := sp (mid := 73) k220 (by exact fun b => b.1) (by exact fun b h => ⟨⟨b.1.1, h⟩, b.2⟩) (by exact fun b h => ⟨⟨h, b.1.2⟩, b.2⟩) n221 n222
theorem n219 : K [(100,73,149), (101,0,4)] (f217.map (nrw2 100 73 149)) (nrwH 100 73 149 m217) (.lp 6) := st s219 n220
theorem n218 : K [(100,72,72), (101,0,4)] (f217.map (nrw2 100 72 72)) (nrwH 100 72 72 m217) (.lp 6) := la s218
theorem n217 : K [(100,72,149), (101,0,4)] f217 m217 (.lp 6) := sp (mid := 72) k217 (by exact fun b => b.1) (by exact fun b h => ⟨⟨b.1.1, h⟩, b.2⟩) (by exact fun b h => ⟨⟨h, b.1.2⟩, b.2⟩) n218 n219
theorem n216 : K [(100,72,149), (101,0,4)] (f214.map (nrw2 100 72 149)) (nrwH 100 72 149 m214) (.lp 6) := st s216 n217
theorem n215 : K [(100,71,71), (101,0,4)] (f214.map (nrw2 100 71 71)) (nrwH 100 71 71 m214) (.lp 6) := la s215
theorem n214 : K [(100,71,149), (101,0,4)] f214 m214 (.lp 6) := sp (mid := 71) k214 (by exact fun b => b.1) (by exact fun b h => ⟨⟨b.1.1, h⟩, b.2⟩) (by exact fun b h => ⟨⟨h, b.1.2⟩, b.2⟩) n215 n216
theorem n213 : K [(100,71,149), (101,0,4)] (f211.map (nrw2 100 71 149)) (nrwH 100 71 149 m211) (.lp 6) := st s213 n214
theorem n212 : K [(100,70,70), (101,0,4)] (f211.map (nrw2 100 70 70)) (nrwH 100 70 70 m211) (.lp 6) := la s212
theorem n211 : K [(100,70,149), (101,0,4)] f211 m211 (.lp 6) := sp (mid := 70) k211 (by exact fun b => b.1) (by exact fun b h => ⟨⟨b.1.1, h⟩, b.2⟩) (by exact fun b h => ⟨⟨h, b.1.2⟩, b.2⟩) n212 n213
theorem n210 : K [(100,70,149), (101,0,4)] (f208.map (nrw2 100 70 149)) (nrwH 100 70 149 m208) (.lp 6) := st s210 n211
theorem n209 : K [(100,69,69), (101,0,4)] (f208.map (nrw2 100 69 69)) (nrwH 100 69 69 m208) (.lp 6) := la s209
theorem n208 : K [(100,69,149), (101,0,4)] f208 m208 (.lp 6) := sp (mid := 69) k208 (by exact fun b => b.1) (by exact fun b h => ⟨⟨b.1.1, h⟩, b.2⟩) (by exact fun b h => ⟨⟨h, b.1.2⟩, b.2⟩) n209 n210
theorem n207 : K [(100,69,149), (101,0,4)] (f205.map (nrw2 100 69 149)) (nrwH 100 69 149 m205) (.lp 6) := st s207 n208
theorem n206 : K [(100,68,68), (101,0,4)] (f205.map (nrw2 100 68 68)) (nrwH 100 68 68 m205) (.lp 6) := la s206
theorem n205 : K [(100,68,149), (101,0,4)] f205 m205 (.lp 6) := sp (mid := 68) k205 (by exact fun b => b.1) (by exact fun b h => ⟨⟨b.1.1, h⟩, b.2⟩) (by exact fun b h => ⟨⟨h, b.1.2⟩, b.2⟩) n206 n207
theorem n204 : K [(100,68,149), (101,0,4)] (f202.map (nrw2 100 68 149)) (nrwH 100 68 149 m202) (.lp 6) := st s204 n205
theorem n203 : K [(100,67,67), (101,0,4)] (f202.map (nrw2 100 67 67)) (nrwH 100 67 67 m202) (.lp 6) := la s203
theorem n202 : K [(100,67,149), (101,0,4)] f202 m202 (.lp 6) := sp (mid := 67) k202 (by exact fun b => b.1) (by exact fun b h => ⟨⟨b.1.1, h⟩, b.2⟩) (by exact fun b h => ⟨⟨h, b.1.2⟩, b.2⟩) n203 n204
theorem n201 : K [(100,67,149), (101,0,4)] (f199.map (nrw2 100 67 149)) (nrwH 100 67 149 m199) (.lp 6) := st s201 n202
theorem n200 : K [(100,66,66), (101,0,4)] (f199.map (nrw2 100 66 66)) (nrwH 100 66 66 m199) (.lp 6) := la s200
theorem n199 : K [(100,66,149), (101,0,4)] f199 m199 (.lp 6) := sp (mid := 66) k199 (by exact fun b => b.1) (by exact fun b h => ⟨⟨b.1.1, h⟩, b.2⟩) (by exact fun b h => ⟨⟨h, b.1.2⟩, b.2⟩) n200 n201
theorem n198 : K [(100,66,149), (101,0,4)] (f196.map (nrw2 100 66 149)) (nrwH 100 66 149 m196) (.lp 6) := st s198 n199
theorem n197 : K [(100,65,65), (101,0,4)] (f196.map (nrw2 100 65 65)) (nrwH 100 65 65 m196) (.lp 6) := la s197
theorem n196 : K [(100,65,149), (101,0,4)] f196 m196 (.lp 6) := sp (mid := 65) k196 (by exact fun b => b.1) (by exact fun b h => ⟨⟨b.1.1, h⟩, b.2⟩) (by exact fun b h => ⟨⟨h, b.1.2⟩, b.2⟩) n197 n198
theorem n195 : K [(100,65,149), (101,0,4)] (f193.map (nrw2 100 65 149)) (nrwH 100 65 149 m193) (.lp 6) := st s195 n196
theorem n194 : K [(100,64,64), (101,0,4)] (f193.map (nrw2 100 64 64)) (nrwH 100 64 64 m193) (.lp 6) := la s194
theorem n193 : K [(100,64,149), (101,0,4)] f193 m193 (.lp 6) := sp (mid := 64) k193 (by exact fun b => b.1) (by exact fun b h => ⟨⟨b.1.1, h⟩, b.2⟩) (by exact fun b h => ⟨⟨h, b.1.2⟩, b.2⟩) n194 n195
theorem n192 : K [(100,64,149), (101,0,4)] (f190.map (nrw2 100 64 149)) (nrwH 100 64 149 m190) (.lp 6) := st s192 n193
theorem n191 : K [(100,63,63), (101,0,4)] (f190.map (nrw2 100 63 63)) (nrwH 100 63 63 m190) (.lp 6) := la s191
theorem n190 : K [(100,63,149), (101,0,4)] f190 m190 (.lp 6) := sp (mid := 63) k190 (by exact fun b => b.1) (by exact fun b h => ⟨⟨b.1.1, h⟩, b.2⟩) (by exact fun b h => ⟨⟨h, b.1.2⟩, b.2⟩) n191 n192
theorem n189 : K [(100,63,149), (101,0,4)] (f187.map (nrw2 100 63 149)) (nrwH 100 63 149 m187) (.lp 6) := st s189 n190
theorem n188 : K [(100,62,62), (101,0,4)] (f187.map (nrw2 100 62 62)) (nrwH 100 62 62 m187) (.lp 6) := la s188
theorem n187 : K [(100,62,149), (101,0,4)] f187 m187 (.lp 6) := sp (mid := 62) k187 (by exact fun b => b.1) (by exact fun b h => ⟨⟨b.1.1, h⟩, b.2⟩) (by exact fun b h => ⟨⟨h, b.1.2⟩, b.2⟩) n188 n189
theorem n186 : K [(100,62,149), (101,0,4)] (f184.map (nrw2 100 62 149)) (nrwH 100 62 149 m184) (.lp 6) := st s186 n187
theorem n185 : K [(100,61,61), (101,0,4)] (f184.map (nrw2 100 61 61)) (nrwH 100 61 61 m184) (.lp 6) := la s185
theorem n184 : K [(100,61,149), (101,0,4)] f184 m184 (.lp 6) := sp (mid := 61) k184 (by exact fun b => b.1) (by exact fun b h => ⟨⟨b.1.1, h⟩, b.2⟩) (by exact fun b h => ⟨⟨h, b.1.2⟩, b.2⟩) n185 n186
theorem n183 : K [(100,61,149), (101,0,4)] (f181.map (nrw2 100 61 149)) (nrwH 100 61 149 m181) (.lp 6) := st s183 n184
theorem n182 : K [(100,60,60), (101,0,4)] (f181.map (nrw2 100 60 60)) (nrwH 100 60 60 m181) (.lp 6) := la s182
theorem n181 : K [(100,60,149), (101,0,4)] f181 m181 (.lp 6) := sp (mid := 60) k181 (by exact fun b => b.1) (by exact fun b h => ⟨⟨b.1.1, h⟩, b.2⟩) (by exact fun b h => ⟨⟨h, b.1.2⟩, b.2⟩) n182 n183
theorem n180 : K [(100,60,149), (101,0,4)] (f178.map (nrw2 100 60 149)) (nrwH 100 60 149 m178) (.lp 6) := st s180 n181
theorem n179 : K [(100,59,59), (101,0,4)] (f178.map (nrw2 100 59 59)) (nrwH 100 59 59 m178) (.lp 6) := la s179
theorem n178 : K [(100,59,149), (101,0,4)] f178 m178 (.lp 6) := sp (mid := 59) k178 (by exact fun b => b.1) (by exact fun b h => ⟨⟨b.1.1, h⟩, b.2⟩) (by exact fun b h => ⟨⟨h, b.1.2⟩, b.2⟩) n179 n180
theorem n177 : K [(100,59,149), (101,0,4)] (f175.map (nrw2 100 59 149)) (nrwH 100 59 149 m175) (.lp 6) := st s177 n178
theorem n176 : K [(100,58,58), (101,0,4)] (f175.map (nrw2 100 58 58)) (nrwH 100 58 58 m175) (.lp 6) := la s176
theorem n175 : K [(100,58,149), (101,0,4)] f175 m175 (.lp 6) := sp (mid := 58) k175 (by exact fun b => b.1) (by exact fun b h => ⟨⟨b.1.1, h⟩, b.2⟩) (by exact fun b h => ⟨⟨h, b.1.2⟩, b.2⟩) n176 n177
theorem n174 : K [(100,58,149), (101,0,4)] (f172.map (nrw2 100 58 149)) (nrwH 100 58 149 m172) (.lp 6) := st s174 n175
theorem n173 : K [(100,57,57), (101,0,4)] (f172.map (nrw2 100 57 57)) (nrwH 100 57 57 m172) (.lp 6) := la s173
theorem n172 : K [(100,57,149), (101,0,4)] f172 m172 (.lp 6) := sp (mid := 57) k172 (by exact fun b => b.1) (by exact fun b h => ⟨⟨b.1.1, h⟩, b.2⟩) (by exact fun b h => ⟨⟨h, b.1.2⟩, b.2⟩) n173 n174
theorem n171 : K [(100,57,149), (101,0,4)] (f169.map (nrw2 100 57 149)) (nrwH 100 57 149 m169) (.lp 6) := st s171 n172
theorem n170 : K [(100,56,56), (101,0,4)] (f169.map (nrw2 100 56 56)) (nrwH 100 56 56 m169) (.lp 6) := la s170
theorem n169 : K [(100,56,149), (101,0,4)] f169 m169 (.lp 6) := sp (mid := 56) k169 (by exact fun b => b.1) (by exact fun b h => ⟨⟨b.1.1, h⟩, b.2⟩) (by exact fun b h => ⟨⟨h, b.1.2⟩, b.2⟩) n170 n171
theorem n168 : K [(100,56,149), (101,0,4)] (f166.map (nrw2 100 56 149)) (nrwH 100 56 149 m166) (.lp 6) := st s168 n169
theorem n167 : K [(100,55,55), (101,0,4)] (f166.map (nrw2 100 55 55)) (nrwH 100 55 55 m166) (.lp 6) := la s167
theorem n166 : K [(100,55,149), (101,0,4)] f166 m166 (.lp 6) := sp (mid := 55) k166 (by exact fun b => b.1) (by exact fun b h => ⟨⟨b.1.1, h⟩, b.2⟩) (by exact fun b h => ⟨⟨h, b.1.2⟩, b.2⟩) n167 n168
theorem n165 : K [(100,55,149), (101,0,4)] (f163.map (nrw2 100 55 149)) (nrwH 100 55 149 m163) (.lp 6) := st s165 n166
theorem n164 : K [(100,54,54), (101,0,4)] (f163.map (nrw2 100 54 54)) (nrwH 100 54 54 m163) (.lp 6) := la s164
theorem n163 : K [(100,54,149), (101,0,4)] f163 m163 (.lp 6) := sp (mid := 54) k163 (by exact fun b => b.1) (by exact fun b h => ⟨⟨b.1.1, h⟩, b.2⟩) (by exact fun b h => ⟨⟨h, b.1.2⟩, b.2⟩) n164 n165
theorem n162 : K [(100,54,149), (101,0,4)] (f160.map (nrw2 100 54 149)) (nrwH 100 54 149 m160) (.lp 6) := st s162 n163
theorem n161 : K [(100,53,53), (101,0,4)] (f160.map (nrw2 100 53 53)) (nrwH 100 53 53 m160) (.lp 6) := la s161
theorem n160 : K [(100,53,149), (101,0,4)] f160 m160 (.lp 6) := sp (mid := 53) k160 (by exact fun b => b.1) (by exact fun b h => ⟨⟨b.1.1, h⟩, b.2⟩) (by exact fun b h => ⟨⟨h, b.1.2⟩, b.2⟩) n161 n162
theorem n159 : K [(100,53,149), (101,0,4)] (f157.map (nrw2 100 53 149)) (nrwH 100 53 149 m157) (.lp 6) := st s159 n160
theorem n158 : K [(100,52,52), (101,0,4)] (f157.map (nrw2 100 52 52)) (nrwH 100 52 52 m157) (.lp 6) := la s158
theorem n157 : K [(100,52,149), (101,0,4)] f157 m157 (.lp 6) := sp (mid := 52) k157 (by exact fun b => b.1) (by exact fun b h => ⟨⟨b.1.1, h⟩, b.2⟩) (by exact fun b h => ⟨⟨h, b.1.2⟩, b.2⟩) n158 n159
theorem n156 : K [(100,52,149), (101,0,4)] (f154.map (nrw2 100 52 149)) (nrwH 100 52 149 m154) (.lp 6) := st s156 n157
theorem n155 : K [(100,51,51), (101,0,4)] (f154.map (nrw2 100 51 51)) (nrwH 100 51 51 m154) (.lp 6) := la s155
theorem n154 : K [(100,51,149), (101,0,4)] f154 m154 (.lp 6) := sp (mid := 51) k154 (by exact fun b => b.1) (by exact fun b h => ⟨⟨b.1.1, h⟩, b.2⟩) (by exact fun b h => ⟨⟨h, b.1.2⟩, b.2⟩) n155 n156
theorem n153 : K [(100,51,149), (101,0,4)] (f151.map (nrw2 100 51 149)) (nrwH 100 51 149 m151) (.lp 6) := st s153 n154
theorem n152 : K [(100,50,50), (101,0,4)] (f151.map (nrw2 100 50 50)) (nrwH 100 50 50 m151) (.lp 6) := la s152
theorem n151 : K [(100,50,149), (101,0,4)] f151 m151 (.lp 6) := sp (mid := 50) k151 (by exact fun b => b.1) (by exact fun b h => ⟨⟨b.1.1, h⟩, b.2⟩) (by exact fun b h => ⟨⟨h, b.1.2⟩, b.2⟩) n152 n153
theorem n150 : K [(100,50,149), (101,0,4)] (f148.map (nrw2 100 50 149)) (nrwH 100 50 149 m148) (.lp 6) := st s150 n151
theorem n149 : K [(100,49,49), (101,0,4)] (f148.map (nrw2 100 49 49)) (nrwH 100 49 49 m148) (.lp 6) := la s149
theorem n148 : K [(100,49,149), (101,0,4)] f148 m148 (.lp 6) := sp (mid := 49) k148 (by exact fun b => b.1) (by exact fun b h => ⟨⟨b.1.1, h⟩, b.2⟩) (by exact fun b h => ⟨⟨h, b.1.2⟩, b.2⟩) n149 n150
theorem n147 : K [(100,49,149), (101,0,4)] (f145.map (nrw2 100 49 149)) (nrwH 100 49 149 m145) (.lp 6) := st s147 n148
theorem n146 : K [(100,48,48), (101,0,4)] (f145.map (nrw2 100 48 48)) (nrwH 100 48 48 m145) (.lp 6) := la s146
theorem n145 : K [(100,48,149), (101,0,4)] f145 m145 (.lp 6) := sp (mid := 48) k145 (by exact fun b => b.1) (by exact fun b h => ⟨⟨b.1.1, h⟩, b.2⟩) (by exact fun b h => ⟨⟨h, b.1.2⟩, b.2⟩) n146 n147
theorem n144 : K [(100,48,149), (101,0,4)] (f142.map (nrw2 100 48 149)) (nrwH 100 48 149 m142) (.lp 6) := st s144 n145
theorem n143 : K [(100,47,47), (101,0,4)] (f142.map (nrw2 100 47 47)) (nrwH 100 47 47 m142) (.lp 6) := la s143
theorem n142 : K [(100,47,149), (101,0,4)] f142 m142 (.lp 6) := sp (mid := 47) k142 (by exact fun b => b.1) (by exact fun b h => ⟨⟨b.1.1, h⟩, b.2⟩) (by exact fun b h => ⟨⟨h, b.1.2⟩, b.2⟩) n143 n144
theorem n141 : K [(100,47,149), (101,0,4)] (f139.map (nrw2 100 47 149)) (nrwH 100 47 149 m139) (.lp 6) := st s141 n142
theorem n140 : K [(100,46,46), (101,0,4)] (f139.map (nrw2 100 46 46)) (nrwH 100 46 46 m139) (.lp 6) := la s140
theorem n139 : K [(100,46,149), (101,0,4)] f139 m139 (.lp 6) := sp (mid := 46) k139 (by exact fun b => b.1) (by exact fun b h => ⟨⟨b.1.1, h⟩, b.2⟩) (by exact fun b h => ⟨⟨h, b.1.2⟩, b.2⟩) n140 n141
theorem n138 : K [(100,46,149), (101,0,4)] (f136.map (nrw2 100 46 149)) (nrwH 100 46 149 m136) (.lp 6) := st s138 n139
theorem n137 : K [(100,45,45), (101,0,4)] (f136.map (nrw2 100 45 45)) (nrwH 100 45 45 m136) (.lp 6) := la s137
theorem n136 : K [(100,45,149), (101,0,4)] f136 m136 (.lp 6) := sp (mid := 45) k136 (by exact fun b => b.1) (by exact fun b h => ⟨⟨b.1.1, h⟩, b.2⟩) (by exact fun b h => ⟨⟨h, b.1.2⟩, b.2⟩) n137 n138
theorem n135 : K [(100,45,149), (101,0,4)] (f133.map (nrw2 100 45 149)) (nrwH 100 45 149 m133) (.lp 6) := st s135 n136
theorem n134 : K [(100,44,44), (101,0,4)] (f133.map (nrw2 100 44 44)) (nrwH 100 44 44 m133) (.lp 6) := la s134
theorem n133 : K [(100,44,149), (101,0,4)] f133 m133 (.lp 6) := sp (mid := 44) k133 (by exact fun b => b.1) (by exact fun b h => ⟨⟨b.1.1, h⟩, b.2⟩) (by exact fun b h => ⟨⟨h, b.1.2⟩, b.2⟩) n134 n135
theorem n132 : K [(100,44,149), (101,0,4)] (f130.map (nrw2 100 44 149)) (nrwH 100 44 149 m130) (.lp 6) := st s132 n133
theorem n131 : K [(100,43,43), (101,0,4)] (f130.map (nrw2 100 43 43)) (nrwH 100 43 43 m130) (.lp 6) := la s131
theorem n130 : K [(100,43,149), (101,0,4)] f130 m130 (.lp 6) := sp (mid := 43) k130 (by exact fun b => b.1) (by exact fun b h => ⟨⟨b.1.1, h⟩, b.2⟩) (by exact fun b h => ⟨⟨h, b.1.2⟩, b.2⟩) n131 n132
theorem n129 : K [(100,43,149), (101,0,4)] (f127.map (nrw2 100 43 149)) (nrwH 100 43 149 m127) (.lp 6) := st s129 n130
theorem n128 : K [(100,42,42), (101,0,4)] (f127.map (nrw2 100 42 42)) (nrwH 100 42 42 m127) (.lp 6) := la s128
theorem n127 : K [(100,42,149), (101,0,4)] f127 m127 (.lp 6) := sp (mid := 42) k127 (by exact fun b => b.1) (by exact fun b h => ⟨⟨b.1.1, h⟩, b.2⟩) (by exact fun b h => ⟨⟨h, b.1.2⟩, b.2⟩) n128 n129
theorem n126 : K [(100,42,149), (101,0,4)] (f124.map (nrw2 100 42 149)) (nrwH 100 42 149 m124) (.lp 6) := st s126 n127
theorem n125 : K [(100,41,41), (101,0,4)] (f124.map (nrw2 100 41 41)) (nrwH 100 41 41 m124) (.lp 6) := la s125
theorem n124 : K [(100,41,149), (101,0,4)] f124 m124 (.lp 6) := sp (mid := 41) k124 (by exact fun b => b.1) (by exact fun b h => ⟨⟨b.1.1, h⟩, b.2⟩) (by exact fun b h => ⟨⟨h, b.1.2⟩, b.2⟩) n125 n126
theorem n123 : K [(100,41,149), (101,0,4)] (f121.map (nrw2 100 41 149)) (nrwH 100 41 149 m121) (.lp 6) := st s123 n124
theorem n122 : K [(100,40,40), (101,0,4)] (f121.map (nrw2 100 40 40)) (nrwH 100 40 40 m121) (.lp 6) := la s122
theorem n121 : K [(100,40,149), (101,0,4)] f121 m121 (.lp 6) := sp (mid := 40) k121 (by exact fun b => b.1) (by exact fun b h => ⟨⟨b.1.1, h⟩, b.2⟩) (by exact fun b h => ⟨⟨h, b.1.2⟩, b.2⟩) n122 n123
theorem n120 : K [(100,40,149), (101,0,4)] (f118.map (nrw2 100 40 149)) (nrwH 100 40 149 m118) (.lp 6) := st s120 n121
theorem n119 : K [(100,39,39), (101,0,4)] (f118.map (nrw2 100 39 39)) (nrwH 100 39 39 m118) (.lp 6) := la s119
theorem n118 : K [(100,39,149), (101,0,4)] f118 m118 (.lp 6) := sp (mid := 39) k118 (by exact fun b => b.1) (by exact fun b h => ⟨⟨b.1.1, h⟩, b.2⟩) (by exact fun b h => ⟨⟨h, b.1.2⟩, b.2⟩) n119 n120
theorem n117 : K [(100,39,149), (101,0,4)] (f115.map (nrw2 100 39 149)) (nrwH 100 39 149 m115) (.lp 6) := st s117 n118
theorem n116 : K [(100,38,38), (101,0,4)] (f115.map (nrw2 100 38 38)) (nrwH 100 38 38 m115) (.lp 6) := la s116
theorem n115 : K [(100,38,149), (101,0,4)] f115 m115 (.lp 6) := sp (mid := 38) k115 (by exact fun b => b.1) (by exact fun b h => ⟨⟨b.1.1, h⟩, b.2⟩) (by exact fun b h => ⟨⟨h, b.1.2⟩, b.2⟩) n116 n117
theorem n114 : K [(100,38,149), (101,0,4)] (f112.map (nrw2 100 38 149)) (nrwH 100 38 149 m112) (.lp 6) := st s114 n115
theorem n113 : K [(100,37,37), (101,0,4)] (f112.map (nrw2 100 37 37)) (nrwH 100 37 37 m112) (.lp 6) := la s113
theorem n112 : K [(100,37,149), (101,0,4)] f112 m112 (.lp 6) := sp (mid := 37) k112 (by exact fun b => b.1) (by exact fun b h => ⟨⟨b.1.1, h⟩, b.2⟩) (by exact fun b h => ⟨⟨h, b.1.2⟩, b.2⟩) n113 n114
theorem n111 : K [(100,37,149), (101,0,4)] (f109.map (nrw2 100 37 149)) (nrwH 100 37 149 m109) (.lp 6) := st s111 n112
theorem n110 : K [(100,36,36), (101,0,4)] (f109.map (nrw2 100 36 36)) (nrwH 100 36 36 m109) (.lp 6) := la s110
theorem n109 : K [(100,36,149), (101,0,4)] f109 m109 (.lp 6) := sp (mid := 36) k109 (by exact fun b => b.1) (by exact fun b h => ⟨⟨b.1.1, h⟩, b.2⟩) (by exact fun b h => ⟨⟨h, b.1.2⟩, b.2⟩) n110 n111
theorem n108 : K [(100,36,149), (101,0,4)] (f106.map (nrw2 100 36 149)) (nrwH 100 36 149 m106) (.lp 6) := st s108 n109
theorem n107 : K [(100,35,35), (101,0,4)] (f106.map (nrw2 100 35 35)) (nrwH 100 35 35 m106) (.lp 6) := la s107
theorem n106 : K [(100,35,149), (101,0,4)] f106 m106 (.lp 6) := sp (mid := 35) k106 (by exact fun b => b.1) (by exact fun b h => ⟨⟨b.1.1, h⟩, b.2⟩) (by exact fun b h => ⟨⟨h, b.1.2⟩, b.2⟩) n107 n108
theorem n105 : K [(100,35,149), (101,0,4)] (f103.map (nrw2 100 35 149)) (nrwH 100 35 149 m103) (.lp 6) := st s105 n106
theorem n104 : K [(100,34,34), (101,0,4)] (f103.map (nrw2 100 34 34)) (nrwH 100 34 34 m103) (.lp 6) := la s104
theorem n103 : K [(100,34,149), (101,0,4)] f103 m103 (.lp 6) := sp (mid := 34) k103 (by exact fun b => b.1) (by exact fun b h => ⟨⟨b.1.1, h⟩, b.2⟩) (by exact fun b h => ⟨⟨h, b.1.2⟩, b.2⟩) n104 n105
theorem n102 : K [(100,34,149), (101,0,4)] (f100.map (nrw2 100 34 149)) (nrwH 100 34 149 m100) (.lp 6) := st s102 n103
theorem n101 : K [(100,33,33), (101,0,4)] (f100.map (nrw2 100 33 33)) (nrwH 100 33 33 m100) (.lp 6) := la s101
theorem n100 : K [(100,33,149), (101,0,4)] f100 m100 (.lp 6) := sp (mid := 33) k100 (by exact fun b => b.1) (by exact fun b h => ⟨⟨b.1.1, h⟩, b.2⟩) (by exact fun b h => ⟨⟨h, b.1.2⟩, b.2⟩) n101 n102
theorem n99 : K [(100,33,149), (101,0,4)] (f97.map (nrw2 100 33 149)) (nrwH 100 33 149 m97) (.lp 6) := st s99 n100
theorem n98 : K [(100,32,32), (101,0,4)] (f97.map (nrw2 100 32 32)) (nrwH 100 32 32 m97) (.lp 6) := la s98
theorem n97 : K [(100,32,149), (101,0,4)] f97 m97 (.lp 6) := sp (mid := 32) k97 (by exact fun b => b.1) (by exact fun b h => ⟨⟨b.1.1, h⟩, b.2⟩) (by exact fun b h => ⟨⟨h, b.1.2⟩, b.2⟩) n98 n99
theorem n96 : K [(100,32,149), (101,0,4)] (f94.map (nrw2 100 32 149)) (nrwH 100 32 149 m94) (.lp 6) := st s96 n97
theorem n95 : K [(100,31,31), (101,0,4)] (f94.map (nrw2 100 31 31)) (nrwH 100 31 31 m94) (.lp 6) := la s95
theorem n94 : K [(100,31,149), (101,0,4)] f94 m94 (.lp 6) := sp (mid := 31) k94 (by exact fun b => b.1) (by exact fun b h => ⟨⟨b.1.1, h⟩, b.2⟩) (by exact fun b h => ⟨⟨h, b.1.2⟩, b.2⟩) n95 n96
theorem n93 : K [(100,31,149), (101,0,4)] (f91.map (nrw2 100 31 149)) (nrwH 100 31 149 m91) (.lp 6) := st s93 n94
theorem n92 : K [(100,30,30), (101,0,4)] (f91.map (nrw2 100 30 30)) (nrwH 100 30 30 m91) (.lp 6) := la s92
theorem n91 : K [(100,30,149), (101,0,4)] f91 m91 (.lp 6) := sp (mid := 30) k91 (by exact fun b => b.1) (by exact fun b h => ⟨⟨b.1.1, h⟩, b.2⟩) (by exact fun b h => ⟨⟨h, b.1.2⟩, b.2⟩) n92 n93
theorem n90 : K [(100,30,149), (101,0,4)] (f88.map (nrw2 100 30 149)) (nrwH 100 30 149 m88) (.lp 6) := st s90 n91
theorem n89 : K [(100,29,29), (101,0,4)] (f88.map (nrw2 100 29 29)) (nrwH 100 29 29 m88) (.lp 6) := la s89
theorem n88 : K [(100,29,149), (101,0,4)] f88 m88 (.lp 6) := sp (mid := 29) k88 (by exact fun b => b.1) (by exact fun b h => ⟨⟨b.1.1, h⟩, b.2⟩) (by exact fun b h => ⟨⟨h, b.1.2⟩, b.2⟩) n89 n90
theorem n87 : K [(100,29,149), (101,0,4)] (f85.map (nrw2 100 29 149)) (nrwH 100 29 149 m85) (.lp 6) := st s87 n88
theorem n86 : K [(100,28,28), (101,0,4)] (f85.map (nrw2 100 28 28)) (nrwH 100 28 28 m85) (.lp 6) := la s86
theorem n85 : K [(100,28,149), (101,0,4)] f85 m85 (.lp 6) := sp (mid := 28) k85 (by exact fun b => b.1) (by exact fun b h => ⟨⟨b.1.1, h⟩, b.2⟩) (by exact fun b h => ⟨⟨h, b.1.2⟩, b.2⟩) n86 n87
theorem n84 : K [(100,28,149), (101,0,4)] (f82.map (nrw2 100 28 149)) (nrwH 100 28 149 m82) (.lp 6) := st s84 n85
theorem n83 : K [(100,27,27), (101,0,4)] (f82.map (nrw2 100 27 27)) (nrwH 100 27 27 m82) (.lp 6) := la s83
theorem n82 : K [(100,27,149), (101,0,4)] f82 m82 (.lp 6) := sp (mid := 27) k82 (by exact fun b => b.1) (by exact fun b h => ⟨⟨b.1.1, h⟩, b.2⟩) (by exact fun b h => ⟨⟨h, b.1.2⟩, b.2⟩) n83 n84
theorem n81 : K [(100,27,149), (101,0,4)] (f79.map (nrw2 100 27 149)) (nrwH 100 27 149 m79) (.lp 6) := st s81 n82
theorem n80 : K [(100,26,26), (101,0,4)] (f79.map (nrw2 100 26 26)) (nrwH 100 26 26 m79) (.lp 6) := la s80
theorem n79 : K [(100,26,149), (101,0,4)] f79 m79 (.lp 6) := sp (mid := 26) k79 (by exact fun b => b.1) (by exact fun b h => ⟨⟨b.1.1, h⟩, b.2⟩) (by exact fun b h => ⟨⟨h, b.1.2⟩, b.2⟩) n80 n81
theorem n78 : K [(100,26,149), (101,0,4)] (f76.map (nrw2 100 26 149)) (nrwH 100 26 149 m76) (.lp 6) := st s78 n79
theorem n77 : K [(100,25,25), (101,0,4)] (f76.map (nrw2 100 25 25)) (nrwH 100 25 25 m76) (.lp 6) := la s77
theorem n76 : K [(100,25,149), (101,0,4)] f76 m76 (.lp 6) := sp (mid := 25) k76 (by exact fun b => b.1) (by exact fun b h => ⟨⟨b.1.1, h⟩, b.2⟩) (by exact fun b h => ⟨⟨h, b.1.2⟩, b.2⟩) n77 n78
theorem n75 : K [(100,25,149), (101,0,4)] (f73.map (nrw2 100 25 149)) (nrwH 100 25 149 m73) (.lp 6) := st s75 n76
theorem n74 : K [(100,24,24), (101,0,4)] (f73.map (nrw2 100 24 24)) (nrwH 100 24 24 m73) (.lp 6) := la s74
theorem n73 : K [(100,24,149), (101,0,4)] f73 m73 (.lp 6) := sp (mid := 24) k73 (by exact fun b => b.1) (by exact fun b h => ⟨⟨b.1.1, h⟩, b.2⟩) (by exact fun b h => ⟨⟨h, b.1.2⟩, b.2⟩) n74 n75
theorem n72 : K [(100,24,149), (101,0,4)] (f70.map (nrw2 100 24 149)) (nrwH 100 24 149 m70) (.lp 6) := st s72 n73
theorem n71 : K [(100,23,23), (101,0,4)] (f70.map (nrw2 100 23 23)) (nrwH 100 23 23 m70) (.lp 6) := la s71
theorem n70 : K [(100,23,149), (101,0,4)] f70 m70 (.lp 6) := sp (mid := 23) k70 (by exact fun b => b.1) (by exact fun b h => ⟨⟨b.1.1, h⟩, b.2⟩) (by exact fun b h => ⟨⟨h, b.1.2⟩, b.2⟩) n71 n72
theorem n69 : K [(100,23,149), (101,0,4)] (f67.map (nrw2 100 23 149)) (nrwH 100 23 149 m67) (.lp 6) := st s69 n70
theorem n68 : K [(100,22,22), (101,0,4)] (f67.map (nrw2 100 22 22)) (nrwH 100 22 22 m67) (.lp 6) := la s68
theorem n67 : K [(100,22,149), (101,0,4)] f67 m67 (.lp 6) := sp (mid := 22) k67 (by exact fun b => b.1) (by exact fun b h => ⟨⟨b.1.1, h⟩, b.2⟩) (by exact fun b h => ⟨⟨h, b.1.2⟩, b.2⟩) n68 n69
theorem n66 : K [(100,22,149), (101,0,4)] (f64.map (nrw2 100 22 149)) (nrwH 100 22 149 m64) (.lp 6) := st s66 n67
theorem n65 : K [(100,21,21), (101,0,4)] (f64.map (nrw2 100 21 21)) (nrwH 100 21 21 m64) (.lp 6) := la s65
theorem n64 : K [(100,21,149), (101,0,4)] f64 m64 (.lp 6) := sp (mid := 21) k64 (by exact fun b => b.1) (by exact fun b h => ⟨⟨b.1.1, h⟩, b.2⟩) (by exact fun b h => ⟨⟨h, b.1.2⟩, b.2⟩) n65 n66
theorem n63 : K [(100,21,149), (101,0,4)] (f61.map (nrw2 100 21 149)) (nrwH 100 21 149 m61) (.lp 6) := st s63 n64
theorem n62 : K [(100,20,20), (101,0,4)] (f61.map (nrw2 100 20 20)) (nrwH 100 20 20 m61) (.lp 6) := la s62
theorem n61 : K [(100,20,149), (101,0,4)] f61 m61 (.lp 6) := sp (mid := 20) k61 (by exact fun b => b.1) (by exact fun b h => ⟨⟨b.1.1, h⟩, b.2⟩) (by exact fun b h => ⟨⟨h, b.1.2⟩, b.2⟩) n62 n63
theorem n60 : K [(100,20,149), (101,0,4)] (f58.map (nrw2 100 20 149)) (nrwH 100 20 149 m58) (.lp 6) := st s60 n61
theorem n59 : K [(100,19,19), (101,0,4)] (f58.map (nrw2 100 19 19)) (nrwH 100 19 19 m58) (.lp 6) := la s59
theorem n58 : K [(100,19,149), (101,0,4)] f58 m58 (.lp 6) := sp (mid := 19) k58 (by exact fun b => b.1) (by exact fun b h => ⟨⟨b.1.1, h⟩, b.2⟩) (by exact fun b h => ⟨⟨h, b.1.2⟩, b.2⟩) n59 n60
theorem n57 : K [(100,19,149), (101,0,4)] (f55.map (nrw2 100 19 149)) (nrwH 100 19 149 m55) (.lp 6) := st s57 n58
theorem n56 : K [(100,18,18), (101,0,4)] (f55.map (nrw2 100 18 18)) (nrwH 100 18 18 m55) (.lp 6) := la s56
theorem n55 : K [(100,18,149), (101,0,4)] f55 m55 (.lp 6) := sp (mid := 18) k55 (by exact fun b => b.1) (by exact fun b h => ⟨⟨b.1.1, h⟩, b.2⟩) (by exact fun b h => ⟨⟨h, b.1.2⟩, b.2⟩) n56 n57
theorem n54 : K [(100,18,149), (101,0,4)] (f52.map (nrw2 100 18 149)) (nrwH 100 18 149 m52) (.lp 6) := st s54 n55
theorem n53 : K [(100,17,17), (101,0,4)] (f52.map (nrw2 100 17 17)) (nrwH 100 17 17 m52) (.lp 6) := la s53
theorem n52 : K [(100,17,149), (101,0,4)] f52 m52 (.lp 6) := sp (mid := 17) k52 (by exact fun b => b.1) (by exact fun b h => ⟨⟨b.1.1, h⟩, b.2⟩) (by exact fun b h => ⟨⟨h, b.1.2⟩, b.2⟩) n53 n54
theorem n51 : K [(100,17,149), (101,0,4)] (f49.map (nrw2 100 17 149)) (nrwH 100 17 149 m49) (.lp 6) := st s51 n52
theorem n50 : K [(100,16,16), (101,0,4)] (f49.map (nrw2 100 16 16)) (nrwH 100 16 16 m49) (.lp 6) := la s50
theorem n49 : K [(100,16,149), (101,0,4)] f49 m49 (.lp 6) := sp (mid := 16) k49 (by exact fun b => b.1) (by exact fun b h => ⟨⟨b.1.1, h⟩, b.2⟩) (by exact fun b h => ⟨⟨h, b.1.2⟩, b.2⟩) n50 n51
theorem n48 : K [(100,16,149), (101,0,4)] (f46.map (nrw2 100 16 149)) (nrwH 100 16 149 m46) (.lp 6) := st s48 n49
theorem n47 : K [(100,15,15), (101,0,4)] (f46.map (nrw2 100 15 15)) (nrwH 100 15 15 m46) (.lp 6) := la s47
theorem n46 : K [(100,15,149), (101,0,4)] f46 m46 (.lp 6) := sp (mid := 15) k46 (by exact fun b => b.1) (by exact fun b h => ⟨⟨b.1.1, h⟩, b.2⟩) (by exact fun b h => ⟨⟨h, b.1.2⟩, b.2⟩) n47 n48
theorem n45 : K [(100,15,149), (101,0,4)] (f43.map (nrw2 100 15 149)) (nrwH 100 15 149 m43) (.lp 6) := st s45 n46
theorem n44 : K [(100,14,14), (101,0,4)] (f43.map (nrw2 100 14 14)) (nrwH 100 14 14 m43) (.lp 6) := la s44
theorem n43 : K [(100,14,149), (101,0,4)] f43 m43 (.lp 6) := sp (mid := 14) k43 (by exact fun b => b.1) (by exact fun b h => ⟨⟨b.1.1, h⟩, b.2⟩) (by exact fun b h => ⟨⟨h, b.1.2⟩, b.2⟩) n44 n45
theorem n42 : K [(100,14,149), (101,0,4)] (f40.map (nrw2 100 14 149)) (nrwH 100 14 149 m40) (.lp 6) := st s42 n43
theorem n41 : K [(100,13,13), (101,0,4)] (f40.map (nrw2 100 13 13)) (nrwH 100 13 13 m40) (.lp 6) := la s41
theorem n40 : K [(100,13,149), (101,0,4)] f40 m40 (.lp 6) := sp (mid := 13) k40 (by exact fun b => b.1) (by exact fun b h => ⟨⟨b.1.1, h⟩, b.2⟩) (by exact fun b h => ⟨⟨h, b.1.2⟩, b.2⟩) n41 n42
theorem n39 : K [(100,13,149), (101,0,4)] (f37.map (nrw2 100 13 149)) (nrwH 100 13 149 m37) (.lp 6) := st s39 n40
theorem n38 : K [(100,12,12), (101,0,4)] (f37.map (nrw2 100 12 12)) (nrwH 100 12 12 m37) (.lp 6) := la s38
theorem n37 : K [(100,12,149), (101,0,4)] f37 m37 (.lp 6) := sp (mid := 12) k37 (by exact fun b => b.1) (by exact fun b h => ⟨⟨b.1.1, h⟩, b.2⟩) (by exact fun b h => ⟨⟨h, b.1.2⟩, b.2⟩) n38 n39
theorem n36 : K [(100,12,149), (101,0,4)] (f34.map (nrw2 100 12 149)) (nrwH 100 12 149 m34) (.lp 6) := st s36 n37
theorem n35 : K [(100,11,11), (101,0,4)] (f34.map (nrw2 100 11 11)) (nrwH 100 11 11 m34) (.lp 6) := la s35
theorem n34 : K [(100,11,149), (101,0,4)] f34 m34 (.lp 6) := sp (mid := 11) k34 (by exact fun b => b.1) (by exact fun b h => ⟨⟨b.1.1, h⟩, b.2⟩) (by exact fun b h => ⟨⟨h, b.1.2⟩, b.2⟩) n35 n36
theorem n33 : K [(100,11,149), (101,0,4)] (f31.map (nrw2 100 11 149)) (nrwH 100 11 149 m31) (.lp 6) := st s33 n34
theorem n32 : K [(100,10,10), (101,0,4)] (f31.map (nrw2 100 10 10)) (nrwH 100 10 10 m31) (.lp 6) := la s32
theorem n31 : K [(100,10,149), (101,0,4)] f31 m31 (.lp 6) := sp (mid := 10) k31 (by exact fun b => b.1) (by exact fun b h => ⟨⟨b.1.1, h⟩, b.2⟩) (by exact fun b h => ⟨⟨h, b.1.2⟩, b.2⟩) n32 n33
theorem n30 : K [(100,10,149), (101,0,4)] (f28.map (nrw2 100 10 149)) (nrwH 100 10 149 m28) (.lp 6) := st s30 n31
theorem n29 : K [(100,9,9), (101,0,4)] (f28.map (nrw2 100 9 9)) (nrwH 100 9 9 m28) (.lp 6) := la s29
theorem n28 : K [(100,9,149), (101,0,4)] f28 m28 (.lp 6) := sp (mid := 9) k28 (by exact fun b => b.1) (by exact fun b h => ⟨⟨b.1.1, h⟩, b.2⟩) (by exact fun b h => ⟨⟨h, b.1.2⟩, b.2⟩) n29 n30
theorem n27 : K [(100,9,149), (101,0,4)] (f25.map (nrw2 100 9 149)) (nrwH 100 9 149 m25) (.lp 6) := st s27 n28
theorem n26 : K [(100,8,8), (101,0,4)] (f25.map (nrw2 100 8 8)) (nrwH 100 8 8 m25) (.lp 6) := la s26
theorem n25 : K [(100,8,149), (101,0,4)] f25 m25 (.lp 6) := sp (mid := 8) k25 (by exact fun b => b.1) (by exact fun b h => ⟨⟨b.1.1, h⟩, b.2⟩) (by exact fun b h => ⟨⟨h, b.1.2⟩, b.2⟩) n26 n27
theorem n24 : K [(100,8,149), (101,0,4)] (f22.map (nrw2 100 8 149)) (nrwH 100 8 149 m22) (.lp 6) := st s24 n25
theorem n23 : K [(100,7,7), (101,0,4)] (f22.map (nrw2 100 7 7)) (nrwH 100 7 7 m22) (.lp 6) := la s23
theorem n22 : K [(100,7,149), (101,0,4)] f22 m22 (.lp 6) := sp (mid := 7) k22 (by exact fun b => b.1) (by exact fun b h => ⟨⟨b.1.1, h⟩, b.2⟩) (by exact fun b h => ⟨⟨h, b.1.2⟩, b.2⟩) n23 n24
theorem n21 : K [(100,7,149), (101,0,4)] (f19.map (nrw2 100 7 149)) (nrwH 100 7 149 m19) (.lp 6) := st s21 n22
theorem n20 : K [(100,6,6), (101,0,4)] (f19.map (nrw2 100 6 6)) (nrwH 100 6 6 m19) (.lp 6) := la s20
theorem n19 : K [(100,6,149), (101,0,4)] f19 m19 (.lp 6) := sp (mid := 6) k19 (by exact fun b => b.1) (by exact fun b h => ⟨⟨b.1.1, h⟩, b.2⟩) (by exact fun b h => ⟨⟨h, b.1.2⟩, b.2⟩) n20 n21
theorem n18 : K [(100,6,149), (101,0,4)] (f16.map (nrw2 100 6 149)) (nrwH 100 6 149 m16) (.lp 6) := st s18 n19
theorem n17 : K [(100,5,5), (101,0,4)] (f16.map (nrw2 100 5 5)) (nrwH 100 5 5 m16) (.lp 6) := la s17
theorem n16 : K [(100,5,149), (101,0,4)] f16 m16 (.lp 6) := sp (mid := 5) k16 (by exact fun b => b.1) (by exact fun b h => ⟨⟨b.1.1, h⟩, b.2⟩) (by exact fun b h => ⟨⟨h, b.1.2⟩, b.2⟩) n17 n18
theorem n15 : K [(100,5,149), (101,0,4)] (f13.map (nrw2 100 5 149)) (nrwH 100 5 149 m13) (.lp 6) := st s15 n16
theorem n14 : K [(100,4,4), (101,0,4)] (f13.map (nrw2 100 4 4)) (nrwH 100 4 4 m13) (.lp 6) := la s14
theorem n13 : K [(100,4,149), (101,0,4)] f13 m13 (.lp 6) := sp (mid := 4) k13 (by exact fun b => b.1) (by exact fun b h => ⟨⟨b.1.1, h⟩, b.2⟩) (by exact fun b h => ⟨⟨h, b.1.2⟩, b.2⟩) n14 n15
theorem n12 : K [(100,4,149), (101,0,4)] (f10.map (nrw2 100 4 149)) (nrwH 100 4 149 m10) (.lp 6) := st s12 n13
theorem n11 : K [(100,3,3), (101,0,4)] (f10.map (nrw2 100 3 3)) (nrwH 100 3 3 m10) (.lp 6) := la s11
theorem n10 : K [(100,3,149), (101,0,4)] f10 m10 (.lp 6) := sp (mid := 3) k10 (by exact fun b => b.1) (by exact fun b h => ⟨⟨b.1.1, h⟩, b.2⟩) (by exact fun b h => ⟨⟨h, b.1.2⟩, b.2⟩) n11 n12
theorem n9 : K [(100,3,149), (101,0,4)] (f7.map (nrw2 100 3 149)) (nrwH 100 3 149 m7) (.lp 6) := st s9 n10
theorem n8 : K [(100,2,2), (101,0,4)] (f7.map (nrw2 100 2 2)) (nrwH 100 2 2 m7) (.lp 6) := la s8
theorem n7 : K [(100,2,149), (101,0,4)] f7 m7 (.lp 6) := sp (mid := 2) k7 (by exact fun b => b.1) (by exact fun b h => ⟨⟨b.1.1, h⟩, b.2⟩) (by exact fun b h => ⟨⟨h, b.1.2⟩, b.2⟩) n8 n9
theorem n6 : K [(100,2,149), (101,0,4)] (f4.map (nrw2 100 2 149)) (nrwH 100 2 149 m4) (.lp 6) := st s6 n7
theorem n5 : K [(100,1,1), (101,0,4)] (f4.map (nrw2 100 1 1)) (nrwH 100 1 1 m4) (.lp 6) := la s5
theorem n4 : K [(100,1,149), (101,0,4)] f4 m4 (.lp 6) := sp (mid := 1) k4 (by exact fun b => b.1) (by exact fun b h => ⟨⟨b.1.1, h⟩, b.2⟩) (by exact fun b h => ⟨⟨h, b.1.2⟩, b.2⟩) n5 n6
theorem n3 : K [(100,1,149), (101,0,4)] (f1.map (nrw2 100 1 149)) (nrwH 100 1 149 m1) (.lp 6) := st s3 n4
theorem n2 : K [(100,0,0), (101,0,4)] (f1.map (nrw2 100 0 0)) (nrwH 100 0 0 m1) (.lp 6) := la s2
theorem n1 : K [(100,0,149), (101,0,4)] f1 m1 (.lp 6) := sp (mid := 0) k1 (by exact fun b => b.1) (by exact fun b h => ⟨⟨b.1.1, h⟩, b.2⟩) (by exact fun b h => ⟨⟨h, b.1.2⟩, b.2⟩) n2 n3
theorem n0 : K [(100,0,149), (101,0,4)] [.chan (some 0), .chan (some 1)] h0 (.sp 0) := st s0 n1
theorem walk (a0 : Int) (a1 : Int) (w : World) (b0 : -9223372036854775808 ≤ a0 ∧ a0 ≤ 9223372036854775807) (b1 : -9223372036854775808 ≤ a1 ∧ a1 ≤ 9223372036854775807) :
    Calls Tryz.prog 3 #[.int .i64 a0, .int .i64 a1] w fun e w' => e = .returned (.bool true) ∧ Below w.heap.size w w' := by
  letI : Toks := ⟨fun k => if k = 0 then a0 else if k = 1 then a1 else if k = 100 then a0 % 150 else if k = 101 then a1 % 5 else 0⟩
  obtain ⟨c0, g0, e0⟩ := cover_get (t := 100) (n := 150) (l := [(0, 149)]) (by kernel_rfl) (a := a0) (by decide) rfl
  simp only [List.mem_cons, List.not_mem_nil, or_false] at g0
  subst g0
  obtain ⟨c1, g1, e1⟩ := cover_get (t := 101) (n := 5) (l := [(0, 4)]) (by kernel_rfl) (a := a1) (by decide) rfl
  simp only [List.mem_cons, List.not_mem_nil, or_false] at g1
  subst g1
  have hok : ∀ q ∈ ents, (-9223372036854775808 ≤ Toks.A q.1 ∧ Toks.A q.1 ≤ 9223372036854775807) ∧ 1 ≤ (q.2.1 : Int) ∧ (q.2.1 : Int) ≤ 9223372036854775807 ∧ ∀ ρ : Ren, VR ρ (caseV q.2.2.1 (q.2.2.2.1, q.2.2.2.2)) (.int .i64 (Toks.A q.1 % (q.2.1 : Int))) := by
    intro q hq
    unfold ents at hq
    simp only [List.mem_cons, List.not_mem_nil, or_false] at hq
    rcases hq with rfl | rfl
    · exact ⟨b0, (by show (1 : Int) ≤ 150; decide), (by show (150 : Int) ≤ 9223372036854775807; decide), e0⟩
    · exact ⟨b1, (by show (1 : Int) ≤ 5; decide), (by show (5 : Int) ≤ 9223372036854775807; decide), e1⟩
  have hcfg : CfgOk Tryz.prog cfg := by
    refine ⟨overW_ok (tabOf ents) (fun q hq => ?_) fun q hq => ?_, summAll_ok, summAll_mono⟩
    · obtain ⟨x, hx, rfl⟩ := List.mem_map.1 hq
      exact (hok x hx).1
    · obtain ⟨x, hx, rfl⟩ := List.mem_map.1 hq
      exact (hok x hx).2
  have h100 : ((0 : Nat) : Int) ≤ Toks.A 100 ∧ Toks.A 100 ≤ ((149 : Nat) : Int) := (e0 fun _ => none).2
  have h101 : ((0 : Nat) : Int) ≤ Toks.A 101 ∧ Toks.A 101 ≤ ((4 : Nat) : Int) := (e1 fun _ => none).2
  have hc := gcall_ok tabAll_ok (deep_ok hcfg mixed 3000).1 (deep_ok hcfg mixed 3000).2 60
  exact top_stage (fn := fn) (body := bd) rfl rfl rfl w (args := [.chan (some 0), .chan (some 1)]) (.cons (rfl) (.cons (rfl) .nil)) (nt := 108) (by decide) (n0 w hc ⟨h100, ⟨h101, trivial⟩⟩)
end Go.Proofs.YtffaicfhcljacaaGreatDoor.keepEpochs
