/- Stages of KeepEpochs. -/
import Derived.Test.YtffaicfhcljacaaGreatDoorKEWD
namespace Go.Proofs.YtffaicfhcljacaaGreatDoor.keepEpochs
open Go Lit
set_option maxRecDepth 1000000
theorem s420 : G 1 (.lp 6) (f418.map (nrw2 100 140 149)) (nrwH 100 140 149 m418) (Z (.lp 6) f421 m421 14 (sn 105 (sn 106 (sn 118 (sl 238) (sl 251)) (sn 219 (sl 247) se)) (sn 117 (sn 158 (sl 244) (sl 253)) (sn 226 (sl 249) se)))) = true := by kernel_rfl
theorem s422 : G 3 (.lp 6) (f421.map (nrw2 100 140 140)) (nrwH 100 140 140 m421) E = true := by kernel_rfl
theorem s423 : G 1 (.lp 6) (f421.map (nrw2 100 141 149)) (nrwH 100 141 149 m421) (Z (.lp 6) f424 m424 29 (sn 39 (sn 40 (sn 141 (sl 169) se) (sn 160 (sl 173) se)) (sn 80 (sn 148 (sl 171) se) (sn 166 (sl 175) se)))) = true := by kernel_rfl
theorem s425 : G 3 (.lp 6) (f424.map (nrw2 100 141 141)) (nrwH 100 141 141 m424) E = true := by kernel_rfl
theorem s426 : G 1 (.lp 6) (f424.map (nrw2 100 142 149)) (nrwH 100 142 149 m424) (Z (.lp 6) f427 m427 40 (sn 41 (sn 42 (sn 54 (sl 174) (sl 187)) (sn 155 (sl 183) se)) (sn 53 (sn 94 (sl 180) (sl 189)) (sn 162 (sl 185) se)))) = true := by kernel_rfl
theorem s428 : G 3 (.lp 6) (f427.map (nrw2 100 142 142)) (nrwH 100 142 142 m427) E = true := by kernel_rfl
theorem s429 : G 1 (.lp 6) (f427.map (nrw2 100 143 149)) (nrwH 100 143 149 m427) (Z (.lp 6) f430 m430 55 (sn 65 (sn 66 (sn 167 (sl 195) se) (sn 186 (sl 199) se)) (sn 106 (sn 174 (sl 197) se) (sn 192 (sl 201) se)))) = true := by kernel_rfl
theorem s431 : G 3 (.lp 6) (f430.map (nrw2 100 143 143)) (nrwH 100 143 143 m430) E = true := by kernel_rfl
theorem s432 : G 1 (.lp 6) (f430.map (nrw2 100 144 149)) (nrwH 100 144 149 m430) (Z (.lp 6) f433 m433 68 (sn 78 (sn 79 (sn 180 (sl 208) se) (sn 199 (sl 212) se)) (sn 119 (sn 187 (sl 210) se) (sn 205 (sl 214) se)))) = true := by kernel_rfl
theorem s434 : G 3 (.lp 6) (f433.map (nrw2 100 144 144)) (nrwH 100 144 144 m433) E = true := by kernel_rfl
theorem s435 : G 1 (.lp 6) (f433.map (nrw2 100 145 149)) (nrwH 100 145 149 m433) (Z (.lp 6) f436 m436 79 (sn 80 (sn 81 (sn 93 (sl 213) (sl 226)) (sn 194 (sl 222) se)) (sn 92 (sn 133 (sl 219) (sl 228)) (sn 201 (sl 224) se)))) = true := by kernel_rfl
theorem s437 : G 3 (.lp 6) (f436.map (nrw2 100 145 145)) (nrwH 100 145 145 m436) E = true := by kernel_rfl
theorem s438 : G 1 (.lp 6) (f436.map (nrw2 100 146 149)) (nrwH 100 146 149 m436) (Z (.lp 6) f439 m439 94 (sn 104 (sn 105 (sn 206 (sl 234) se) (sn 225 (sl 238) se)) (sn 145 (sn 213 (sl 236) se) (sn 231 (sl 240) se)))) = true := by kernel_rfl
theorem s440 : G 3 (.lp 6) (f439.map (nrw2 100 146 146)) (nrwH 100 146 146 m439) E = true := by kernel_rfl
theorem s441 : G 1 (.lp 6) (f439.map (nrw2 100 147 149)) (nrwH 100 147 149 m439) (Z (.lp 6) f442 m442 14 (sn 105 (sn 106 (sn 118 (sl 238) (sl 251)) (sn 219 (sl 247) se)) (sn 117 (sn 158 (sl 244) (sl 253)) (sn 226 (sl 249) se)))) = true := by kernel_rfl
theorem s443 : G 3 (.lp 6) (f442.map (nrw2 100 147 147)) (nrwH 100 147 147 m442) E = true := by kernel_rfl
theorem s444 : G 1 (.lp 6) (f442.map (nrw2 100 148 149)) (nrwH 100 148 149 m442) (Z (.lp 6) f445 m445 27 (sn 28 (sn 29 (sn 41 (sl 161) (sl 174)) (sn 142 (sl 170) se)) (sn 40 (sn 81 (sl 167) (sl 176)) (sn 149 (sl 172) se)))) = true := by kernel_rfl
theorem s446 : G 3 (.lp 6) (f445.map (nrw2 100 148 148)) (nrwH 100 148 148 m445) E = true := by kernel_rfl
theorem s447 : G 4 (.lp 6) (f445.map (nrw2 100 149 149)) (nrwH 100 149 149 m445) E = true := by kernel_rfl
end Go.Proofs.YtffaicfhcljacaaGreatDoor.keepEpochs
