/- Stages of KeepEpochs. -/
import Derived.Test.YtffaicfhcljacaaGreatDoorKEWD
namespace Go.Proofs.YtffaicfhcljacaaGreatDoor.keepEpochs
open Go Lit
set_option maxRecDepth 1000000
theorem s120 : G 1 (.lp 6) (f118.map (nrw2 100 40 149)) (nrwH 100 40 149 m118) (Z (.lp 6) f121 m121 79 (sn 80 (sn 81 (sn 91 (sl 211) (sl 224)) (sn 192 (sl 220) se)) (sn 90 (sn 131 (sl 217) (sl 226)) (sn 199 (sl 222) se)))) = true := by kernel_rfl
theorem s122 : G 3 (.lp 6) (f121.map (nrw2 100 40 40)) (nrwH 100 40 40 m121) E = true := by kernel_rfl
theorem s123 : G 1 (.lp 6) (f121.map (nrw2 100 41 149)) (nrwH 100 41 149 m121) (Z (.lp 6) f124 m124 94 (sn 102 (sn 103 (sn 204 (sl 232) se) (sn 223 (sl 236) se)) (sn 143 (sn 211 (sl 234) se) (sn 229 (sl 238) se)))) = true := by kernel_rfl
theorem s125 : G 3 (.lp 6) (f124.map (nrw2 100 41 41)) (nrwH 100 41 41 m124) E = true := by kernel_rfl
theorem s126 : G 1 (.lp 6) (f124.map (nrw2 100 42 149)) (nrwH 100 42 149 m124) (Z (.lp 6) f127 m127 14 (sn 105 (sn 106 (sn 116 (sl 236) (sl 249)) (sn 217 (sl 245) se)) (sn 115 (sn 156 (sl 242) (sl 251)) (sn 224 (sl 247) se)))) = true := by kernel_rfl
theorem s128 : G 3 (.lp 6) (f127.map (nrw2 100 42 42)) (nrwH 100 42 42 m127) E = true := by kernel_rfl
theorem s129 : G 1 (.lp 6) (f127.map (nrw2 100 43 149)) (nrwH 100 43 149 m127) (Z (.lp 6) f130 m130 27 (sn 28 (sn 29 (sn 39 (sl 159) (sl 172)) (sn 140 (sl 168) se)) (sn 38 (sn 79 (sl 165) (sl 174)) (sn 147 (sl 170) se)))) = true := by kernel_rfl
theorem s131 : G 3 (.lp 6) (f130.map (nrw2 100 43 43)) (nrwH 100 43 43 m130) E = true := by kernel_rfl
theorem s132 : G 1 (.lp 6) (f130.map (nrw2 100 44 149)) (nrwH 100 44 149 m130) (Z (.lp 6) f133 m133 42 (sn 50 (sn 51 (sn 152 (sl 180) se) (sn 171 (sl 184) se)) (sn 91 (sn 159 (sl 182) se) (sn 177 (sl 186) se)))) = true := by kernel_rfl
theorem s134 : G 3 (.lp 6) (f133.map (nrw2 100 44 44)) (nrwH 100 44 44 m133) E = true := by kernel_rfl
theorem s135 : G 1 (.lp 6) (f133.map (nrw2 100 45 149)) (nrwH 100 45 149 m133) (Z (.lp 6) f136 m136 55 (sn 63 (sn 64 (sn 165 (sl 193) se) (sn 184 (sl 197) se)) (sn 104 (sn 172 (sl 195) se) (sn 190 (sl 199) se)))) = true := by kernel_rfl
theorem s137 : G 3 (.lp 6) (f136.map (nrw2 100 45 45)) (nrwH 100 45 45 m136) E = true := by kernel_rfl
theorem s138 : G 1 (.lp 6) (f136.map (nrw2 100 46 149)) (nrwH 100 46 149 m136) (Z (.lp 6) f139 m139 66 (sn 67 (sn 68 (sn 78 (sl 198) (sl 211)) (sn 179 (sl 207) se)) (sn 77 (sn 118 (sl 204) (sl 213)) (sn 186 (sl 209) se)))) = true := by kernel_rfl
theorem s140 : G 3 (.lp 6) (f139.map (nrw2 100 46 46)) (nrwH 100 46 46 m139) E = true := by kernel_rfl
theorem s141 : G 1 (.lp 6) (f139.map (nrw2 100 47 149)) (nrwH 100 47 149 m139) (Z (.lp 6) f142 m142 81 (sn 89 (sn 90 (sn 191 (sl 219) se) (sn 210 (sl 223) se)) (sn 130 (sn 198 (sl 221) se) (sn 216 (sl 225) se)))) = true := by kernel_rfl
theorem s143 : G 3 (.lp 6) (f142.map (nrw2 100 47 47)) (nrwH 100 47 47 m142) E = true := by kernel_rfl
theorem s144 : G 1 (.lp 6) (f142.map (nrw2 100 48 149)) (nrwH 100 48 149 m142) (Z (.lp 6) f145 m145 94 (sn 102 (sn 103 (sn 204 (sl 232) se) (sn 223 (sl 236) se)) (sn 143 (sn 211 (sl 234) se) (sn 229 (sl 238) se)))) = true := by kernel_rfl
theorem s146 : G 3 (.lp 6) (f145.map (nrw2 100 48 48)) (nrwH 100 48 48 m145) E = true := by kernel_rfl
theorem s147 : G 1 (.lp 6) (f145.map (nrw2 100 49 149)) (nrwH 100 49 149 m145) (Z (.lp 6) f148 m148 14 (sn 106 (sn 107 (sn 117 (sl 237) (sl 250)) (sn 218 (sl 246) se)) (sn 116 (sn 157 (sl 243) (sl 252)) (sn 225 (sl 248) se)))) = true := by kernel_rfl
theorem s149 : G 3 (.lp 6) (f148.map (nrw2 100 49 49)) (nrwH 100 49 49 m148) E = true := by kernel_rfl
theorem s150 : G 1 (.lp 6) (f148.map (nrw2 100 50 149)) (nrwH 100 50 149 m148) (Z (.lp 6) f151 m151 29 (sn 37 (sn 38 (sn 139 (sl 167) se) (sn 158 (sl 171) se)) (sn 78 (sn 146 (sl 169) se) (sn 164 (sl 173) se)))) = true := by kernel_rfl
theorem s152 : G 3 (.lp 6) (f151.map (nrw2 100 50 50)) (nrwH 100 50 50 m151) E = true := by kernel_rfl
theorem s153 : G 1 (.lp 6) (f151.map (nrw2 100 51 149)) (nrwH 100 51 149 m151) (Z (.lp 6) f154 m154 42 (sn 50 (sn 51 (sn 152 (sl 180) se) (sn 171 (sl 184) se)) (sn 91 (sn 159 (sl 182) se) (sn 177 (sl 186) se)))) = true := by kernel_rfl
theorem s155 : G 3 (.lp 6) (f154.map (nrw2 100 51 51)) (nrwH 100 51 51 m154) E = true := by kernel_rfl
theorem s156 : G 1 (.lp 6) (f154.map (nrw2 100 52 149)) (nrwH 100 52 149 m154) (Z (.lp 6) f157 m157 53 (sn 54 (sn 55 (sn 65 (sl 185) (sl 198)) (sn 166 (sl 194) se)) (sn 64 (sn 105 (sl 191) (sl 200)) (sn 173 (sl 196) se)))) = true := by kernel_rfl
theorem s158 : G 3 (.lp 6) (f157.map (nrw2 100 52 52)) (nrwH 100 52 52 m157) E = true := by kernel_rfl
theorem s159 : G 1 (.lp 6) (f157.map (nrw2 100 53 149)) (nrwH 100 53 149 m157) (Z (.lp 6) f160 m160 68 (sn 76 (sn 77 (sn 178 (sl 206) se) (sn 197 (sl 210) se)) (sn 117 (sn 185 (sl 208) se) (sn 203 (sl 212) se)))) = true := by kernel_rfl
theorem s161 : G 3 (.lp 6) (f160.map (nrw2 100 53 53)) (nrwH 100 53 53 m160) E = true := by kernel_rfl
theorem s162 : G 1 (.lp 6) (f160.map (nrw2 100 54 149)) (nrwH 100 54 149 m160) (Z (.lp 6) f163 m163 81 (sn 89 (sn 90 (sn 191 (sl 219) se) (sn 210 (sl 223) se)) (sn 130 (sn 198 (sl 221) se) (sn 216 (sl 225) se)))) = true := by kernel_rfl
theorem s164 : G 3 (.lp 6) (f163.map (nrw2 100 54 54)) (nrwH 100 54 54 m163) E = true := by kernel_rfl
theorem s165 : G 1 (.lp 6) (f163.map (nrw2 100 55 149)) (nrwH 100 55 149 m163) (Z (.lp 6) f166 m166 92 (sn 93 (sn 94 (sn 104 (sl 224) (sl 237)) (sn 205 (sl 233) se)) (sn 103 (sn 144 (sl 230) (sl 239)) (sn 212 (sl 235) se)))) = true := by kernel_rfl
theorem s167 : G 3 (.lp 6) (f166.map (nrw2 100 55 55)) (nrwH 100 55 55 m166) E = true := by kernel_rfl
theorem s168 : G 1 (.lp 6) (f166.map (nrw2 100 56 149)) (nrwH 100 56 149 m166) (Z (.lp 6) f169 m169 14 (sn 105 (sn 106 (sn 116 (sl 236) (sl 249)) (sn 217 (sl 245) se)) (sn 115 (sn 156 (sl 242) (sl 251)) (sn 224 (sl 247) se)))) = true := by kernel_rfl
theorem s170 : G 3 (.lp 6) (f169.map (nrw2 100 56 56)) (nrwH 100 56 56 m169) E = true := by kernel_rfl
theorem s171 : G 1 (.lp 6) (f169.map (nrw2 100 57 149)) (nrwH 100 57 149 m169) (Z (.lp 6) f172 m172 29 (sn 37 (sn 38 (sn 139 (sl 167) se) (sn 158 (sl 171) se)) (sn 78 (sn 146 (sl 169) se) (sn 164 (sl 173) se)))) = true := by kernel_rfl
theorem s173 : G 3 (.lp 6) (f172.map (nrw2 100 57 57)) (nrwH 100 57 57 m172) E = true := by kernel_rfl
theorem s174 : G 1 (.lp 6) (f172.map (nrw2 100 58 149)) (nrwH 100 58 149 m172) (Z (.lp 6) f175 m175 40 (sn 41 (sn 42 (sn 52 (sl 172) (sl 185)) (sn 153 (sl 181) se)) (sn 51 (sn 92 (sl 178) (sl 187)) (sn 160 (sl 183) se)))) = true := by kernel_rfl
theorem s176 : G 3 (.lp 6) (f175.map (nrw2 100 58 58)) (nrwH 100 58 58 m175) E = true := by kernel_rfl
theorem s177 : G 1 (.lp 6) (f175.map (nrw2 100 59 149)) (nrwH 100 59 149 m175) (Z (.lp 6) f178 m178 55 (sn 63 (sn 64 (sn 165 (sl 193) se) (sn 184 (sl 197) se)) (sn 104 (sn 172 (sl 195) se) (sn 190 (sl 199) se)))) = true := by kernel_rfl
theorem s179 : G 3 (.lp 6) (f178.map (nrw2 100 59 59)) (nrwH 100 59 59 m178) E = true := by kernel_rfl
end Go.Proofs.YtffaicfhcljacaaGreatDoor.keepEpochs
