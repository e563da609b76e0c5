/- Stages of KeepEpochs. -/
import Derived.Test.YtffaicfhcljacaaGreatDoorKEWD
namespace Go.Proofs.YtffaicfhcljacaaGreatDoor.keepEpochs
open Go Lit
set_option maxRecDepth 1000000
theorem s0 : G 8 (.sp 0) [.chan (some 0), .chan (some 1)] h0 (Z (.lp 6) f1 m1 4 (sn 13 (sn 119 (sn 125 (sn 161 (sl 281) se) (sn 170 (sl 309) se)) (sn 130 (sn 167 (sl 300) se) (sn 180 (sl 313) se))) (sn 120 (sn 127 (sn 162 (sl 288) se) (sn 179 (sl 311) se)) (sn 133 (sn 169 (sl 306) se) (sn 220 (sl 315) se))))) = true := by kernel_rfl
theorem s2 : G 3 (.lp 6) (f1.map (nrw2 100 0 0)) (nrwH 100 0 0 m1) E = true := by kernel_rfl
theorem s3 : G 1 (.lp 6) (f1.map (nrw2 100 1 149)) (nrwH 100 1 149 m1) (Z (.lp 6) f4 m4 27 (sn 28 (sn 29 (sn 39 (sl 159) (sl 172)) (sn 140 (sl 168) se)) (sn 38 (sn 79 (sl 165) (sl 174)) (sn 147 (sl 170) se)))) = true := by kernel_rfl
theorem s5 : G 3 (.lp 6) (f4.map (nrw2 100 1 1)) (nrwH 100 1 1 m4) E = true := by kernel_rfl
theorem s6 : G 1 (.lp 6) (f4.map (nrw2 100 2 149)) (nrwH 100 2 149 m4) (Z (.lp 6) f7 m7 42 (sn 50 (sn 51 (sn 152 (sl 180) se) (sn 171 (sl 184) se)) (sn 91 (sn 159 (sl 182) se) (sn 177 (sl 186) se)))) = true := by kernel_rfl
theorem s8 : G 3 (.lp 6) (f7.map (nrw2 100 2 2)) (nrwH 100 2 2 m7) E = true := by kernel_rfl
theorem s9 : G 1 (.lp 6) (f7.map (nrw2 100 3 149)) (nrwH 100 3 149 m7) (Z (.lp 6) f10 m10 55 (sn 63 (sn 64 (sn 165 (sl 193) se) (sn 184 (sl 197) se)) (sn 104 (sn 172 (sl 195) se) (sn 190 (sl 199) se)))) = true := by kernel_rfl
theorem s11 : G 3 (.lp 6) (f10.map (nrw2 100 3 3)) (nrwH 100 3 3 m10) E = true := by kernel_rfl
theorem s12 : G 1 (.lp 6) (f10.map (nrw2 100 4 149)) (nrwH 100 4 149 m10) (Z (.lp 6) f13 m13 66 (sn 67 (sn 68 (sn 78 (sl 198) (sl 211)) (sn 179 (sl 207) se)) (sn 77 (sn 118 (sl 204) (sl 213)) (sn 186 (sl 209) se)))) = true := by kernel_rfl
theorem s14 : G 3 (.lp 6) (f13.map (nrw2 100 4 4)) (nrwH 100 4 4 m13) E = true := by kernel_rfl
theorem s15 : G 1 (.lp 6) (f13.map (nrw2 100 5 149)) (nrwH 100 5 149 m13) (Z (.lp 6) f16 m16 81 (sn 89 (sn 90 (sn 191 (sl 219) se) (sn 210 (sl 223) se)) (sn 130 (sn 198 (sl 221) se) (sn 216 (sl 225) se)))) = true := by kernel_rfl
theorem s17 : G 3 (.lp 6) (f16.map (nrw2 100 5 5)) (nrwH 100 5 5 m16) E = true := by kernel_rfl
theorem s18 : G 1 (.lp 6) (f16.map (nrw2 100 6 149)) (nrwH 100 6 149 m16) (Z (.lp 6) f19 m19 94 (sn 102 (sn 103 (sn 204 (sl 232) se) (sn 223 (sl 236) se)) (sn 143 (sn 211 (sl 234) se) (sn 229 (sl 238) se)))) = true := by kernel_rfl
theorem s20 : G 3 (.lp 6) (f19.map (nrw2 100 6 6)) (nrwH 100 6 6 m19) E = true := by kernel_rfl
theorem s21 : G 1 (.lp 6) (f19.map (nrw2 100 7 149)) (nrwH 100 7 149 m19) (Z (.lp 6) f22 m22 14 (sn 106 (sn 107 (sn 117 (sl 237) (sl 250)) (sn 218 (sl 246) se)) (sn 116 (sn 157 (sl 243) (sl 252)) (sn 225 (sl 248) se)))) = true := by kernel_rfl
theorem s23 : G 3 (.lp 6) (f22.map (nrw2 100 7 7)) (nrwH 100 7 7 m22) E = true := by kernel_rfl
theorem s24 : G 1 (.lp 6) (f22.map (nrw2 100 8 149)) (nrwH 100 8 149 m22) (Z (.lp 6) f25 m25 29 (sn 37 (sn 38 (sn 139 (sl 167) se) (sn 158 (sl 171) se)) (sn 78 (sn 146 (sl 169) se) (sn 164 (sl 173) se)))) = true := by kernel_rfl
theorem s26 : G 3 (.lp 6) (f25.map (nrw2 100 8 8)) (nrwH 100 8 8 m25) E = true := by kernel_rfl
theorem s27 : G 1 (.lp 6) (f25.map (nrw2 100 9 149)) (nrwH 100 9 149 m25) (Z (.lp 6) f28 m28 42 (sn 50 (sn 51 (sn 152 (sl 180) se) (sn 171 (sl 184) se)) (sn 91 (sn 159 (sl 182) se) (sn 177 (sl 186) se)))) = true := by kernel_rfl
theorem s29 : G 3 (.lp 6) (f28.map (nrw2 100 9 9)) (nrwH 100 9 9 m28) E = true := by kernel_rfl
theorem s30 : G 1 (.lp 6) (f28.map (nrw2 100 10 149)) (nrwH 100 10 149 m28) (Z (.lp 6) f31 m31 53 (sn 54 (sn 55 (sn 65 (sl 185) (sl 198)) (sn 166 (sl 194) se)) (sn 64 (sn 105 (sl 191) (sl 200)) (sn 173 (sl 196) se)))) = true := by kernel_rfl
theorem s32 : G 3 (.lp 6) (f31.map (nrw2 100 10 10)) (nrwH 100 10 10 m31) E = true := by kernel_rfl
theorem s33 : G 1 (.lp 6) (f31.map (nrw2 100 11 149)) (nrwH 100 11 149 m31) (Z (.lp 6) f34 m34 68 (sn 76 (sn 77 (sn 178 (sl 206) se) (sn 197 (sl 210) se)) (sn 117 (sn 185 (sl 208) se) (sn 203 (sl 212) se)))) = true := by kernel_rfl
theorem s35 : G 3 (.lp 6) (f34.map (nrw2 100 11 11)) (nrwH 100 11 11 m34) E = true := by kernel_rfl
theorem s36 : G 1 (.lp 6) (f34.map (nrw2 100 12 149)) (nrwH 100 12 149 m34) (Z (.lp 6) f37 m37 81 (sn 89 (sn 90 (sn 191 (sl 219) se) (sn 210 (sl 223) se)) (sn 130 (sn 198 (sl 221) se) (sn 216 (sl 225) se)))) = true := by kernel_rfl
theorem s38 : G 3 (.lp 6) (f37.map (nrw2 100 12 12)) (nrwH 100 12 12 m37) E = true := by kernel_rfl
theorem s39 : G 1 (.lp 6) (f37.map (nrw2 100 13 149)) (nrwH 100 13 149 m37) (Z (.lp 6) f40 m40 92 (sn 93 (sn 94 (sn 104 (sl 224) (sl 237)) (sn 205 (sl 233) se)) (sn 103 (sn 144 (sl 230) (sl 239)) (sn 212 (sl 235) se)))) = true := by kernel_rfl
theorem s41 : G 3 (.lp 6) (f40.map (nrw2 100 13 13)) (nrwH 100 13 13 m40) E = true := by kernel_rfl
theorem s42 : G 1 (.lp 6) (f40.map (nrw2 100 14 149)) (nrwH 100 14 149 m40) (Z (.lp 6) f43 m43 14 (sn 105 (sn 106 (sn 116 (sl 236) (sl 249)) (sn 217 (sl 245) se)) (sn 115 (sn 156 (sl 242) (sl 251)) (sn 224 (sl 247) se)))) = true := by kernel_rfl
theorem s44 : G 3 (.lp 6) (f43.map (nrw2 100 14 14)) (nrwH 100 14 14 m43) E = true := by kernel_rfl
theorem s45 : G 1 (.lp 6) (f43.map (nrw2 100 15 149)) (nrwH 100 15 149 m43) (Z (.lp 6) f46 m46 29 (sn 37 (sn 38 (sn 139 (sl 167) se) (sn 158 (sl 171) se)) (sn 78 (sn 146 (sl 169) se) (sn 164 (sl 173) se)))) = true := by kernel_rfl
theorem s47 : G 3 (.lp 6) (f46.map (nrw2 100 15 15)) (nrwH 100 15 15 m46) E = true := by kernel_rfl
theorem s48 : G 1 (.lp 6) (f46.map (nrw2 100 16 149)) (nrwH 100 16 149 m46) (Z (.lp 6) f49 m49 40 (sn 41 (sn 42 (sn 52 (sl 172) (sl 185)) (sn 153 (sl 181) se)) (sn 51 (sn 92 (sl 178) (sl 187)) (sn 160 (sl 183) se)))) = true := by kernel_rfl
theorem s50 : G 3 (.lp 6) (f49.map (nrw2 100 16 16)) (nrwH 100 16 16 m49) E = true := by kernel_rfl
theorem s51 : G 1 (.lp 6) (f49.map (nrw2 100 17 149)) (nrwH 100 17 149 m49) (Z (.lp 6) f52 m52 55 (sn 63 (sn 64 (sn 165 (sl 193) se) (sn 184 (sl 197) se)) (sn 104 (sn 172 (sl 195) se) (sn 190 (sl 199) se)))) = true := by kernel_rfl
theorem s53 : G 3 (.lp 6) (f52.map (nrw2 100 17 17)) (nrwH 100 17 17 m52) E = true := by kernel_rfl
theorem s54 : G 1 (.lp 6) (f52.map (nrw2 100 18 149)) (nrwH 100 18 149 m52) (Z (.lp 6) f55 m55 68 (sn 76 (sn 77 (sn 178 (sl 206) se) (sn 197 (sl 210) se)) (sn 117 (sn 185 (sl 208) se) (sn 203 (sl 212) se)))) = true := by kernel_rfl
theorem s56 : G 3 (.lp 6) (f55.map (nrw2 100 18 18)) (nrwH 100 18 18 m55) E = true := by kernel_rfl
theorem s57 : G 1 (.lp 6) (f55.map (nrw2 100 19 149)) (nrwH 100 19 149 m55) (Z (.lp 6) f58 m58 79 (sn 80 (sn 81 (sn 91 (sl 211) (sl 224)) (sn 192 (sl 220) se)) (sn 90 (sn 131 (sl 217) (sl 226)) (sn 199 (sl 222) se)))) = true := by kernel_rfl
theorem s59 : G 3 (.lp 6) (f58.map (nrw2 100 19 19)) (nrwH 100 19 19 m58) E = true := by kernel_rfl
end Go.Proofs.YtffaicfhcljacaaGreatDoor.keepEpochs
