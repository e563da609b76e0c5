/- Stages of KeepEpochs. -/
import Derived.Test.YtffaicfhcljacaaGreatDoorKEWD
namespace Go.Proofs.YtffaicfhcljacaaGreatDoor.keepEpochs
open Go Lit
set_option maxRecDepth 1000000
theorem s300 : G 1 (.lp 6) (f298.map (nrw2 100 100 149)) (nrwH 100 100 149 m298) (Z (.lp 6) f301 m301 40 (sn 41 (sn 42 (sn 52 (sl 172) (sl 185)) (sn 153 (sl 181) se)) (sn 51 (sn 92 (sl 178) (sl 187)) (sn 160 (sl 183) se)))) = true := by kernel_rfl
theorem s302 : G 3 (.lp 6) (f301.map (nrw2 100 100 100)) (nrwH 100 100 100 m301) E = true := by kernel_rfl
theorem s303 : G 1 (.lp 6) (f301.map (nrw2 100 101 149)) (nrwH 100 101 149 m301) (Z (.lp 6) f304 m304 55 (sn 63 (sn 64 (sn 165 (sl 193) se) (sn 184 (sl 197) se)) (sn 104 (sn 172 (sl 195) se) (sn 190 (sl 199) se)))) = true := by kernel_rfl
theorem s305 : G 3 (.lp 6) (f304.map (nrw2 100 101 101)) (nrwH 100 101 101 m304) E = true := by kernel_rfl
theorem s306 : G 1 (.lp 6) (f304.map (nrw2 100 102 149)) (nrwH 100 102 149 m304) (Z (.lp 6) f307 m307 68 (sn 76 (sn 77 (sn 178 (sl 206) se) (sn 197 (sl 210) se)) (sn 117 (sn 185 (sl 208) se) (sn 203 (sl 212) se)))) = true := by kernel_rfl
theorem s308 : G 3 (.lp 6) (f307.map (nrw2 100 102 102)) (nrwH 100 102 102 m307) E = true := by kernel_rfl
theorem s309 : G 1 (.lp 6) (f307.map (nrw2 100 103 149)) (nrwH 100 103 149 m307) (Z (.lp 6) f310 m310 79 (sn 80 (sn 81 (sn 91 (sl 211) (sl 224)) (sn 192 (sl 220) se)) (sn 90 (sn 131 (sl 217) (sl 226)) (sn 199 (sl 222) se)))) = true := by kernel_rfl
theorem s311 : G 3 (.lp 6) (f310.map (nrw2 100 103 103)) (nrwH 100 103 103 m310) E = true := by kernel_rfl
theorem s312 : G 1 (.lp 6) (f310.map (nrw2 100 104 149)) (nrwH 100 104 149 m310) (Z (.lp 6) f313 m313 94 (sn 102 (sn 103 (sn 204 (sl 232) se) (sn 223 (sl 236) se)) (sn 143 (sn 211 (sl 234) se) (sn 229 (sl 238) se)))) = true := by kernel_rfl
theorem s314 : G 3 (.lp 6) (f313.map (nrw2 100 104 104)) (nrwH 100 104 104 m313) E = true := by kernel_rfl
theorem s315 : G 1 (.lp 6) (f313.map (nrw2 100 105 149)) (nrwH 100 105 149 m313) (Z (.lp 6) f316 m316 14 (sn 105 (sn 106 (sn 116 (sl 236) (sl 249)) (sn 217 (sl 245) se)) (sn 115 (sn 156 (sl 242) (sl 251)) (sn 224 (sl 247) se)))) = true := by kernel_rfl
theorem s317 : G 3 (.lp 6) (f316.map (nrw2 100 105 105)) (nrwH 100 105 105 m316) E = true := by kernel_rfl
theorem s318 : G 1 (.lp 6) (f316.map (nrw2 100 106 149)) (nrwH 100 106 149 m316) (Z (.lp 6) f319 m319 27 (sn 28 (sn 29 (sn 39 (sl 159) (sl 172)) (sn 140 (sl 168) se)) (sn 38 (sn 79 (sl 165) (sl 174)) (sn 147 (sl 170) se)))) = true := by kernel_rfl
theorem s320 : G 3 (.lp 6) (f319.map (nrw2 100 106 106)) (nrwH 100 106 106 m319) E = true := by kernel_rfl
theorem s321 : G 1 (.lp 6) (f319.map (nrw2 100 107 149)) (nrwH 100 107 149 m319) (Z (.lp 6) f322 m322 42 (sn 50 (sn 51 (sn 152 (sl 180) se) (sn 171 (sl 184) se)) (sn 91 (sn 159 (sl 182) se) (sn 177 (sl 186) se)))) = true := by kernel_rfl
theorem s323 : G 3 (.lp 6) (f322.map (nrw2 100 107 107)) (nrwH 100 107 107 m322) E = true := by kernel_rfl
theorem s324 : G 1 (.lp 6) (f322.map (nrw2 100 108 149)) (nrwH 100 108 149 m322) (Z (.lp 6) f325 m325 55 (sn 63 (sn 64 (sn 165 (sl 193) se) (sn 184 (sl 197) se)) (sn 104 (sn 172 (sl 195) se) (sn 190 (sl 199) se)))) = true := by kernel_rfl
theorem s326 : G 3 (.lp 6) (f325.map (nrw2 100 108 108)) (nrwH 100 108 108 m325) E = true := by kernel_rfl
theorem s327 : G 1 (.lp 6) (f325.map (nrw2 100 109 149)) (nrwH 100 109 149 m325) (Z (.lp 6) f328 m328 66 (sn 67 (sn 68 (sn 78 (sl 198) (sl 211)) (sn 179 (sl 207) se)) (sn 77 (sn 118 (sl 204) (sl 213)) (sn 186 (sl 209) se)))) = true := by kernel_rfl
theorem s329 : G 3 (.lp 6) (f328.map (nrw2 100 109 109)) (nrwH 100 109 109 m328) E = true := by kernel_rfl
theorem s330 : G 1 (.lp 6) (f328.map (nrw2 100 110 149)) (nrwH 100 110 149 m328) (Z (.lp 6) f331 m331 81 (sn 89 (sn 90 (sn 191 (sl 219) se) (sn 210 (sl 223) se)) (sn 130 (sn 198 (sl 221) se) (sn 216 (sl 225) se)))) = true := by kernel_rfl
theorem s332 : G 3 (.lp 6) (f331.map (nrw2 100 110 110)) (nrwH 100 110 110 m331) E = true := by kernel_rfl
theorem s333 : G 1 (.lp 6) (f331.map (nrw2 100 111 149)) (nrwH 100 111 149 m331) (Z (.lp 6) f334 m334 94 (sn 102 (sn 103 (sn 204 (sl 232) se) (sn 223 (sl 236) se)) (sn 143 (sn 211 (sl 234) se) (sn 229 (sl 238) se)))) = true := by kernel_rfl
theorem s335 : G 3 (.lp 6) (f334.map (nrw2 100 111 111)) (nrwH 100 111 111 m334) E = true := by kernel_rfl
theorem s336 : G 1 (.lp 6) (f334.map (nrw2 100 112 149)) (nrwH 100 112 149 m334) (Z (.lp 6) f337 m337 14 (sn 106 (sn 107 (sn 117 (sl 237) (sl 250)) (sn 218 (sl 246) se)) (sn 116 (sn 157 (sl 243) (sl 252)) (sn 225 (sl 248) se)))) = true := by kernel_rfl
theorem s338 : G 3 (.lp 6) (f337.map (nrw2 100 112 112)) (nrwH 100 112 112 m337) E = true := by kernel_rfl
theorem s339 : G 1 (.lp 6) (f337.map (nrw2 100 113 149)) (nrwH 100 113 149 m337) (Z (.lp 6) f340 m340 29 (sn 37 (sn 38 (sn 139 (sl 167) se) (sn 158 (sl 171) se)) (sn 78 (sn 146 (sl 169) se) (sn 164 (sl 173) se)))) = true := by kernel_rfl
theorem s341 : G 3 (.lp 6) (f340.map (nrw2 100 113 113)) (nrwH 100 113 113 m340) E = true := by kernel_rfl
theorem s342 : G 1 (.lp 6) (f340.map (nrw2 100 114 149)) (nrwH 100 114 149 m340) (Z (.lp 6) f343 m343 42 (sn 50 (sn 51 (sn 152 (sl 180) se) (sn 171 (sl 184) se)) (sn 91 (sn 159 (sl 182) se) (sn 177 (sl 186) se)))) = true := by kernel_rfl
theorem s344 : G 3 (.lp 6) (f343.map (nrw2 100 114 114)) (nrwH 100 114 114 m343) E = true := by kernel_rfl
theorem s345 : G 1 (.lp 6) (f343.map (nrw2 100 115 149)) (nrwH 100 115 149 m343) (Z (.lp 6) f346 m346 53 (sn 54 (sn 55 (sn 65 (sl 185) (sl 198)) (sn 166 (sl 194) se)) (sn 64 (sn 105 (sl 191) (sl 200)) (sn 173 (sl 196) se)))) = true := by kernel_rfl
theorem s347 : G 3 (.lp 6) (f346.map (nrw2 100 115 115)) (nrwH 100 115 115 m346) E = true := by kernel_rfl
theorem s348 : G 1 (.lp 6) (f346.map (nrw2 100 116 149)) (nrwH 100 116 149 m346) (Z (.lp 6) f349 m349 68 (sn 76 (sn 77 (sn 178 (sl 206) se) (sn 197 (sl 210) se)) (sn 117 (sn 185 (sl 208) se) (sn 203 (sl 212) se)))) = true := by kernel_rfl
theorem s350 : G 3 (.lp 6) (f349.map (nrw2 100 116 116)) (nrwH 100 116 116 m349) E = true := by kernel_rfl
theorem s351 : G 1 (.lp 6) (f349.map (nrw2 100 117 149)) (nrwH 100 117 149 m349) (Z (.lp 6) f352 m352 81 (sn 89 (sn 90 (sn 191 (sl 219) se) (sn 210 (sl 223) se)) (sn 130 (sn 198 (sl 221) se) (sn 216 (sl 225) se)))) = true := by kernel_rfl
theorem s353 : G 3 (.lp 6) (f352.map (nrw2 100 117 117)) (nrwH 100 117 117 m352) E = true := by kernel_rfl
theorem s354 : G 1 (.lp 6) (f352.map (nrw2 100 118 149)) (nrwH 100 118 149 m352) (Z (.lp 6) f355 m355 92 (sn 93 (sn 94 (sn 104 (sl 224) (sl 237)) (sn 205 (sl 233) se)) (sn 103 (sn 144 (sl 230) (sl 239)) (sn 212 (sl 235) se)))) = true := by kernel_rfl
theorem s356 : G 3 (.lp 6) (f355.map (nrw2 100 118 118)) (nrwH 100 118 118 m355) E = true := by kernel_rfl
theorem s357 : G 1 (.lp 6) (f355.map (nrw2 100 119 149)) (nrwH 100 119 149 m355) (Z (.lp 6) f358 m358 14 (sn 105 (sn 106 (sn 116 (sl 236) (sl 249)) (sn 217 (sl 245) se)) (sn 115 (sn 156 (sl 242) (sl 251)) (sn 224 (sl 247) se)))) = true := by kernel_rfl
theorem s359 : G 3 (.lp 6) (f358.map (nrw2 100 119 119)) (nrwH 100 119 119 m358) E = true := by kernel_rfl
end Go.Proofs.YtffaicfhcljacaaGreatDoor.keepEpochs
