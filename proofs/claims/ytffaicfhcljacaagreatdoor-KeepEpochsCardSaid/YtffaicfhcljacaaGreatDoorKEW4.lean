/- Stages of KeepEpochs. -/
import Derived.Test.YtffaicfhcljacaaGreatDoorKEWD
namespace Go.Proofs.YtffaicfhcljacaaGreatDoor.keepEpochs
open Go Lit
set_option maxRecDepth 1000000
theorem s240 : G 1 (.lp 6) (f238.map (nrw2 100 80 149)) (nrwH 100 80 149 m238) (Z (.lp 6) f241 m241 55 (sn 63 (sn 64 (sn 165 (sl 193) se) (sn 184 (sl 197) se)) (sn 104 (sn 172 (sl 195) se) (sn 190 (sl 199) se)))) = true := by kernel_rfl
theorem s242 : G 3 (.lp 6) (f241.map (nrw2 100 80 80)) (nrwH 100 80 80 m241) E = true := by kernel_rfl
theorem s243 : G 1 (.lp 6) (f241.map (nrw2 100 81 149)) (nrwH 100 81 149 m241) (Z (.lp 6) f244 m244 68 (sn 76 (sn 77 (sn 178 (sl 206) se) (sn 197 (sl 210) se)) (sn 117 (sn 185 (sl 208) se) (sn 203 (sl 212) se)))) = true := by kernel_rfl
theorem s245 : G 3 (.lp 6) (f244.map (nrw2 100 81 81)) (nrwH 100 81 81 m244) E = true := by kernel_rfl
theorem s246 : G 1 (.lp 6) (f244.map (nrw2 100 82 149)) (nrwH 100 82 149 m244) (Z (.lp 6) f247 m247 79 (sn 80 (sn 81 (sn 91 (sl 211) (sl 224)) (sn 192 (sl 220) se)) (sn 90 (sn 131 (sl 217) (sl 226)) (sn 199 (sl 222) se)))) = true := by kernel_rfl
theorem s248 : G 3 (.lp 6) (f247.map (nrw2 100 82 82)) (nrwH 100 82 82 m247) E = true := by kernel_rfl
theorem s249 : G 1 (.lp 6) (f247.map (nrw2 100 83 149)) (nrwH 100 83 149 m247) (Z (.lp 6) f250 m250 94 (sn 102 (sn 103 (sn 204 (sl 232) se) (sn 223 (sl 236) se)) (sn 143 (sn 211 (sl 234) se) (sn 229 (sl 238) se)))) = true := by kernel_rfl
theorem s251 : G 3 (.lp 6) (f250.map (nrw2 100 83 83)) (nrwH 100 83 83 m250) E = true := by kernel_rfl
theorem s252 : G 1 (.lp 6) (f250.map (nrw2 100 84 149)) (nrwH 100 84 149 m250) (Z (.lp 6) f253 m253 14 (sn 105 (sn 106 (sn 116 (sl 236) (sl 249)) (sn 217 (sl 245) se)) (sn 115 (sn 156 (sl 242) (sl 251)) (sn 224 (sl 247) se)))) = true := by kernel_rfl
theorem s254 : G 3 (.lp 6) (f253.map (nrw2 100 84 84)) (nrwH 100 84 84 m253) E = true := by kernel_rfl
theorem s255 : G 1 (.lp 6) (f253.map (nrw2 100 85 149)) (nrwH 100 85 149 m253) (Z (.lp 6) f256 m256 27 (sn 28 (sn 29 (sn 39 (sl 159) (sl 172)) (sn 140 (sl 168) se)) (sn 38 (sn 79 (sl 165) (sl 174)) (sn 147 (sl 170) se)))) = true := by kernel_rfl
theorem s257 : G 3 (.lp 6) (f256.map (nrw2 100 85 85)) (nrwH 100 85 85 m256) E = true := by kernel_rfl
theorem s258 : G 1 (.lp 6) (f256.map (nrw2 100 86 149)) (nrwH 100 86 149 m256) (Z (.lp 6) f259 m259 42 (sn 50 (sn 51 (sn 152 (sl 180) se) (sn 171 (sl 184) se)) (sn 91 (sn 159 (sl 182) se) (sn 177 (sl 186) se)))) = true := by kernel_rfl
theorem s260 : G 3 (.lp 6) (f259.map (nrw2 100 86 86)) (nrwH 100 86 86 m259) E = true := by kernel_rfl
theorem s261 : G 1 (.lp 6) (f259.map (nrw2 100 87 149)) (nrwH 100 87 149 m259) (Z (.lp 6) f262 m262 55 (sn 63 (sn 64 (sn 165 (sl 193) se) (sn 184 (sl 197) se)) (sn 104 (sn 172 (sl 195) se) (sn 190 (sl 199) se)))) = true := by kernel_rfl
theorem s263 : G 3 (.lp 6) (f262.map (nrw2 100 87 87)) (nrwH 100 87 87 m262) E = true := by kernel_rfl
theorem s264 : G 1 (.lp 6) (f262.map (nrw2 100 88 149)) (nrwH 100 88 149 m262) (Z (.lp 6) f265 m265 66 (sn 67 (sn 68 (sn 78 (sl 198) (sl 211)) (sn 179 (sl 207) se)) (sn 77 (sn 118 (sl 204) (sl 213)) (sn 186 (sl 209) se)))) = true := by kernel_rfl
theorem s266 : G 3 (.lp 6) (f265.map (nrw2 100 88 88)) (nrwH 100 88 88 m265) E = true := by kernel_rfl
theorem s267 : G 1 (.lp 6) (f265.map (nrw2 100 89 149)) (nrwH 100 89 149 m265) (Z (.lp 6) f268 m268 81 (sn 89 (sn 90 (sn 191 (sl 219) se) (sn 210 (sl 223) se)) (sn 130 (sn 198 (sl 221) se) (sn 216 (sl 225) se)))) = true := by kernel_rfl
theorem s269 : G 3 (.lp 6) (f268.map (nrw2 100 89 89)) (nrwH 100 89 89 m268) E = true := by kernel_rfl
theorem s270 : G 1 (.lp 6) (f268.map (nrw2 100 90 149)) (nrwH 100 90 149 m268) (Z (.lp 6) f271 m271 94 (sn 102 (sn 103 (sn 204 (sl 232) se) (sn 223 (sl 236) se)) (sn 143 (sn 211 (sl 234) se) (sn 229 (sl 238) se)))) = true := by kernel_rfl
theorem s272 : G 3 (.lp 6) (f271.map (nrw2 100 90 90)) (nrwH 100 90 90 m271) E = true := by kernel_rfl
theorem s273 : G 1 (.lp 6) (f271.map (nrw2 100 91 149)) (nrwH 100 91 149 m271) (Z (.lp 6) f274 m274 14 (sn 106 (sn 107 (sn 117 (sl 237) (sl 250)) (sn 218 (sl 246) se)) (sn 116 (sn 157 (sl 243) (sl 252)) (sn 225 (sl 248) se)))) = true := by kernel_rfl
theorem s275 : G 3 (.lp 6) (f274.map (nrw2 100 91 91)) (nrwH 100 91 91 m274) E = true := by kernel_rfl
theorem s276 : G 1 (.lp 6) (f274.map (nrw2 100 92 149)) (nrwH 100 92 149 m274) (Z (.lp 6) f277 m277 29 (sn 37 (sn 38 (sn 139 (sl 167) se) (sn 158 (sl 171) se)) (sn 78 (sn 146 (sl 169) se) (sn 164 (sl 173) se)))) = true := by kernel_rfl
theorem s278 : G 3 (.lp 6) (f277.map (nrw2 100 92 92)) (nrwH 100 92 92 m277) E = true := by kernel_rfl
theorem s279 : G 1 (.lp 6) (f277.map (nrw2 100 93 149)) (nrwH 100 93 149 m277) (Z (.lp 6) f280 m280 42 (sn 50 (sn 51 (sn 152 (sl 180) se) (sn 171 (sl 184) se)) (sn 91 (sn 159 (sl 182) se) (sn 177 (sl 186) se)))) = true := by kernel_rfl
theorem s281 : G 3 (.lp 6) (f280.map (nrw2 100 93 93)) (nrwH 100 93 93 m280) E = true := by kernel_rfl
theorem s282 : G 1 (.lp 6) (f280.map (nrw2 100 94 149)) (nrwH 100 94 149 m280) (Z (.lp 6) f283 m283 53 (sn 54 (sn 55 (sn 65 (sl 185) (sl 198)) (sn 166 (sl 194) se)) (sn 64 (sn 105 (sl 191) (sl 200)) (sn 173 (sl 196) se)))) = true := by kernel_rfl
theorem s284 : G 3 (.lp 6) (f283.map (nrw2 100 94 94)) (nrwH 100 94 94 m283) E = true := by kernel_rfl
theorem s285 : G 1 (.lp 6) (f283.map (nrw2 100 95 149)) (nrwH 100 95 149 m283) (Z (.lp 6) f286 m286 68 (sn 76 (sn 77 (sn 178 (sl 206) se) (sn 197 (sl 210) se)) (sn 117 (sn 185 (sl 208) se) (sn 203 (sl 212) se)))) = true := by kernel_rfl
theorem s287 : G 3 (.lp 6) (f286.map (nrw2 100 95 95)) (nrwH 100 95 95 m286) E = true := by kernel_rfl
theorem s288 : G 1 (.lp 6) (f286.map (nrw2 100 96 149)) (nrwH 100 96 149 m286) (Z (.lp 6) f289 m289 81 (sn 89 (sn 90 (sn 191 (sl 219) se) (sn 210 (sl 223) se)) (sn 130 (sn 198 (sl 221) se) (sn 216 (sl 225) se)))) = true := by kernel_rfl
theorem s290 : G 3 (.lp 6) (f289.map (nrw2 100 96 96)) (nrwH 100 96 96 m289) E = true := by kernel_rfl
theorem s291 : G 1 (.lp 6) (f289.map (nrw2 100 97 149)) (nrwH 100 97 149 m289) (Z (.lp 6) f292 m292 92 (sn 93 (sn 94 (sn 104 (sl 224) (sl 237)) (sn 205 (sl 233) se)) (sn 103 (sn 144 (sl 230) (sl 239)) (sn 212 (sl 235) se)))) = true := by kernel_rfl
theorem s293 : G 3 (.lp 6) (f292.map (nrw2 100 97 97)) (nrwH 100 97 97 m292) E = true := by kernel_rfl
theorem s294 : G 1 (.lp 6) (f292.map (nrw2 100 98 149)) (nrwH 100 98 149 m292) (Z (.lp 6) f295 m295 14 (sn 105 (sn 106 (sn 116 (sl 236) (sl 249)) (sn 217 (sl 245) se)) (sn 115 (sn 156 (sl 242) (sl 251)) (sn 224 (sl 247) se)))) = true := by kernel_rfl
theorem s296 : G 3 (.lp 6) (f295.map (nrw2 100 98 98)) (nrwH 100 98 98 m295) E = true := by kernel_rfl
theorem s297 : G 1 (.lp 6) (f295.map (nrw2 100 99 149)) (nrwH 100 99 149 m295) (Z (.lp 6) f298 m298 29 (sn 37 (sn 38 (sn 139 (sl 167) se) (sn 158 (sl 171) se)) (sn 78 (sn 146 (sl 169) se) (sn 164 (sl 173) se)))) = true := by kernel_rfl
theorem s299 : G 3 (.lp 6) (f298.map (nrw2 100 99 99)) (nrwH 100 99 99 m298) E = true := by kernel_rfl
end Go.Proofs.YtffaicfhcljacaaGreatDoor.keepEpochs
