/- Stages of KeepEpochs. -/
import Derived.Test.YtffaicfhcljacaaGreatDoorKEWD
namespace Go.Proofs.YtffaicfhcljacaaGreatDoor.keepEpochs
open Go Lit
set_option maxRecDepth 1000000
theorem s60 : G 1 (.lp 6) (f58.map (nrw2 100 20 149)) (nrwH 100 20 149 m58) (Z (.lp 6) f61 m61 94 (sn 102 (sn 103 (sn 204 (sl 232) se) (sn 223 (sl 236) se)) (sn 143 (sn 211 (sl 234) se) (sn 229 (sl 238) se)))) = true := by kernel_rfl
theorem s62 : G 3 (.lp 6) (f61.map (nrw2 100 20 20)) (nrwH 100 20 20 m61) E = true := by kernel_rfl
theorem s63 : G 1 (.lp 6) (f61.map (nrw2 100 21 149)) (nrwH 100 21 149 m61) (Z (.lp 6) f64 m64 14 (sn 105 (sn 106 (sn 116 (sl 236) (sl 249)) (sn 217 (sl 245) se)) (sn 115 (sn 156 (sl 242) (sl 251)) (sn 224 (sl 247) se)))) = true := by kernel_rfl
theorem s65 : G 3 (.lp 6) (f64.map (nrw2 100 21 21)) (nrwH 100 21 21 m64) E = true := by kernel_rfl
theorem s66 : G 1 (.lp 6) (f64.map (nrw2 100 22 149)) (nrwH 100 22 149 m64) (Z (.lp 6) f67 m67 27 (sn 28 (sn 29 (sn 39 (sl 159) (sl 172)) (sn 140 (sl 168) se)) (sn 38 (sn 79 (sl 165) (sl 174)) (sn 147 (sl 170) se)))) = true := by kernel_rfl
theorem s68 : G 3 (.lp 6) (f67.map (nrw2 100 22 22)) (nrwH 100 22 22 m67) E = true := by kernel_rfl
theorem s69 : G 1 (.lp 6) (f67.map (nrw2 100 23 149)) (nrwH 100 23 149 m67) (Z (.lp 6) f70 m70 42 (sn 50 (sn 51 (sn 152 (sl 180) se) (sn 171 (sl 184) se)) (sn 91 (sn 159 (sl 182) se) (sn 177 (sl 186) se)))) = true := by kernel_rfl
theorem s71 : G 3 (.lp 6) (f70.map (nrw2 100 23 23)) (nrwH 100 23 23 m70) E = true := by kernel_rfl
theorem s72 : G 1 (.lp 6) (f70.map (nrw2 100 24 149)) (nrwH 100 24 149 m70) (Z (.lp 6) f73 m73 55 (sn 63 (sn 64 (sn 165 (sl 193) se) (sn 184 (sl 197) se)) (sn 104 (sn 172 (sl 195) se) (sn 190 (sl 199) se)))) = true := by kernel_rfl
theorem s74 : G 3 (.lp 6) (f73.map (nrw2 100 24 24)) (nrwH 100 24 24 m73) E = true := by kernel_rfl
theorem s75 : G 1 (.lp 6) (f73.map (nrw2 100 25 149)) (nrwH 100 25 149 m73) (Z (.lp 6) f76 m76 66 (sn 67 (sn 68 (sn 78 (sl 198) (sl 211)) (sn 179 (sl 207) se)) (sn 77 (sn 118 (sl 204) (sl 213)) (sn 186 (sl 209) se)))) = true := by kernel_rfl
theorem s77 : G 3 (.lp 6) (f76.map (nrw2 100 25 25)) (nrwH 100 25 25 m76) E = true := by kernel_rfl
theorem s78 : G 1 (.lp 6) (f76.map (nrw2 100 26 149)) (nrwH 100 26 149 m76) (Z (.lp 6) f79 m79 81 (sn 89 (sn 90 (sn 191 (sl 219) se) (sn 210 (sl 223) se)) (sn 130 (sn 198 (sl 221) se) (sn 216 (sl 225) se)))) = true := by kernel_rfl
theorem s80 : G 3 (.lp 6) (f79.map (nrw2 100 26 26)) (nrwH 100 26 26 m79) E = true := by kernel_rfl
theorem s81 : G 1 (.lp 6) (f79.map (nrw2 100 27 149)) (nrwH 100 27 149 m79) (Z (.lp 6) f82 m82 94 (sn 102 (sn 103 (sn 204 (sl 232) se) (sn 223 (sl 236) se)) (sn 143 (sn 211 (sl 234) se) (sn 229 (sl 238) se)))) = true := by kernel_rfl
theorem s83 : G 3 (.lp 6) (f82.map (nrw2 100 27 27)) (nrwH 100 27 27 m82) E = true := by kernel_rfl
theorem s84 : G 1 (.lp 6) (f82.map (nrw2 100 28 149)) (nrwH 100 28 149 m82) (Z (.lp 6) f85 m85 14 (sn 106 (sn 107 (sn 117 (sl 237) (sl 250)) (sn 218 (sl 246) se)) (sn 116 (sn 157 (sl 243) (sl 252)) (sn 225 (sl 248) se)))) = true := by kernel_rfl
theorem s86 : G 3 (.lp 6) (f85.map (nrw2 100 28 28)) (nrwH 100 28 28 m85) E = true := by kernel_rfl
theorem s87 : G 1 (.lp 6) (f85.map (nrw2 100 29 149)) (nrwH 100 29 149 m85) (Z (.lp 6) f88 m88 29 (sn 37 (sn 38 (sn 139 (sl 167) se) (sn 158 (sl 171) se)) (sn 78 (sn 146 (sl 169) se) (sn 164 (sl 173) se)))) = true := by kernel_rfl
theorem s89 : G 3 (.lp 6) (f88.map (nrw2 100 29 29)) (nrwH 100 29 29 m88) E = true := by kernel_rfl
theorem s90 : G 1 (.lp 6) (f88.map (nrw2 100 30 149)) (nrwH 100 30 149 m88) (Z (.lp 6) f91 m91 42 (sn 50 (sn 51 (sn 152 (sl 180) se) (sn 171 (sl 184) se)) (sn 91 (sn 159 (sl 182) se) (sn 177 (sl 186) se)))) = true := by kernel_rfl
theorem s92 : G 3 (.lp 6) (f91.map (nrw2 100 30 30)) (nrwH 100 30 30 m91) E = true := by kernel_rfl
theorem s93 : G 1 (.lp 6) (f91.map (nrw2 100 31 149)) (nrwH 100 31 149 m91) (Z (.lp 6) f94 m94 53 (sn 54 (sn 55 (sn 65 (sl 185) (sl 198)) (sn 166 (sl 194) se)) (sn 64 (sn 105 (sl 191) (sl 200)) (sn 173 (sl 196) se)))) = true := by kernel_rfl
theorem s95 : G 3 (.lp 6) (f94.map (nrw2 100 31 31)) (nrwH 100 31 31 m94) E = true := by kernel_rfl
theorem s96 : G 1 (.lp 6) (f94.map (nrw2 100 32 149)) (nrwH 100 32 149 m94) (Z (.lp 6) f97 m97 68 (sn 76 (sn 77 (sn 178 (sl 206) se) (sn 197 (sl 210) se)) (sn 117 (sn 185 (sl 208) se) (sn 203 (sl 212) se)))) = true := by kernel_rfl
theorem s98 : G 3 (.lp 6) (f97.map (nrw2 100 32 32)) (nrwH 100 32 32 m97) E = true := by kernel_rfl
theorem s99 : G 1 (.lp 6) (f97.map (nrw2 100 33 149)) (nrwH 100 33 149 m97) (Z (.lp 6) f100 m100 81 (sn 89 (sn 90 (sn 191 (sl 219) se) (sn 210 (sl 223) se)) (sn 130 (sn 198 (sl 221) se) (sn 216 (sl 225) se)))) = true := by kernel_rfl
theorem s101 : G 3 (.lp 6) (f100.map (nrw2 100 33 33)) (nrwH 100 33 33 m100) E = true := by kernel_rfl
theorem s102 : G 1 (.lp 6) (f100.map (nrw2 100 34 149)) (nrwH 100 34 149 m100) (Z (.lp 6) f103 m103 92 (sn 93 (sn 94 (sn 104 (sl 224) (sl 237)) (sn 205 (sl 233) se)) (sn 103 (sn 144 (sl 230) (sl 239)) (sn 212 (sl 235) se)))) = true := by kernel_rfl
theorem s104 : G 3 (.lp 6) (f103.map (nrw2 100 34 34)) (nrwH 100 34 34 m103) E = true := by kernel_rfl
theorem s105 : G 1 (.lp 6) (f103.map (nrw2 100 35 149)) (nrwH 100 35 149 m103) (Z (.lp 6) f106 m106 14 (sn 105 (sn 106 (sn 116 (sl 236) (sl 249)) (sn 217 (sl 245) se)) (sn 115 (sn 156 (sl 242) (sl 251)) (sn 224 (sl 247) se)))) = true := by kernel_rfl
theorem s107 : G 3 (.lp 6) (f106.map (nrw2 100 35 35)) (nrwH 100 35 35 m106) E = true := by kernel_rfl
theorem s108 : G 1 (.lp 6) (f106.map (nrw2 100 36 149)) (nrwH 100 36 149 m106) (Z (.lp 6) f109 m109 29 (sn 37 (sn 38 (sn 139 (sl 167) se) (sn 158 (sl 171) se)) (sn 78 (sn 146 (sl 169) se) (sn 164 (sl 173) se)))) = true := by kernel_rfl
theorem s110 : G 3 (.lp 6) (f109.map (nrw2 100 36 36)) (nrwH 100 36 36 m109) E = true := by kernel_rfl
theorem s111 : G 1 (.lp 6) (f109.map (nrw2 100 37 149)) (nrwH 100 37 149 m109) (Z (.lp 6) f112 m112 40 (sn 41 (sn 42 (sn 52 (sl 172) (sl 185)) (sn 153 (sl 181) se)) (sn 51 (sn 92 (sl 178) (sl 187)) (sn 160 (sl 183) se)))) = true := by kernel_rfl
theorem s113 : G 3 (.lp 6) (f112.map (nrw2 100 37 37)) (nrwH 100 37 37 m112) E = true := by kernel_rfl
theorem s114 : G 1 (.lp 6) (f112.map (nrw2 100 38 149)) (nrwH 100 38 149 m112) (Z (.lp 6) f115 m115 55 (sn 63 (sn 64 (sn 165 (sl 193) se) (sn 184 (sl 197) se)) (sn 104 (sn 172 (sl 195) se) (sn 190 (sl 199) se)))) = true := by kernel_rfl
theorem s116 : G 3 (.lp 6) (f115.map (nrw2 100 38 38)) (nrwH 100 38 38 m115) E = true := by kernel_rfl
theorem s117 : G 1 (.lp 6) (f115.map (nrw2 100 39 149)) (nrwH 100 39 149 m115) (Z (.lp 6) f118 m118 68 (sn 76 (sn 77 (sn 178 (sl 206) se) (sn 197 (sl 210) se)) (sn 117 (sn 185 (sl 208) se) (sn 203 (sl 212) se)))) = true := by kernel_rfl
theorem s119 : G 3 (.lp 6) (f118.map (nrw2 100 39 39)) (nrwH 100 39 39 m118) E = true := by kernel_rfl
end Go.Proofs.YtffaicfhcljacaaGreatDoor.keepEpochs
