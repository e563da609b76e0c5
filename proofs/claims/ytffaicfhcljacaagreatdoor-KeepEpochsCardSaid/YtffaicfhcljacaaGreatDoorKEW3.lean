/- Stages of KeepEpochs. -/
import Derived.Test.YtffaicfhcljacaaGreatDoorKEWD
namespace Go.Proofs.YtffaicfhcljacaaGreatDoor.keepEpochs
open Go Lit
set_option maxRecDepth 1000000
theorem s180 : G 1 (.lp 6) (f178.map (nrw2 100 60 149)) (nrwH 100 60 149 m178) (Z (.lp 6) f181 m181 68 (sn 76 (sn 77 (sn 178 (sl 206) se) (sn 197 (sl 210) se)) (sn 117 (sn 185 (sl 208) se) (sn 203 (sl 212) se)))) = true := by kernel_rfl
theorem s182 : G 3 (.lp 6) (f181.map (nrw2 100 60 60)) (nrwH 100 60 60 m181) E = true := by kernel_rfl
theorem s183 : G 1 (.lp 6) (f181.map (nrw2 100 61 149)) (nrwH 100 61 149 m181) (Z (.lp 6) f184 m184 79 (sn 80 (sn 81 (sn 91 (sl 211) (sl 224)) (sn 192 (sl 220) se)) (sn 90 (sn 131 (sl 217) (sl 226)) (sn 199 (sl 222) se)))) = true := by kernel_rfl
theorem s185 : G 3 (.lp 6) (f184.map (nrw2 100 61 61)) (nrwH 100 61 61 m184) E = true := by kernel_rfl
theorem s186 : G 1 (.lp 6) (f184.map (nrw2 100 62 149)) (nrwH 100 62 149 m184) (Z (.lp 6) f187 m187 94 (sn 102 (sn 103 (sn 204 (sl 232) se) (sn 223 (sl 236) se)) (sn 143 (sn 211 (sl 234) se) (sn 229 (sl 238) se)))) = true := by kernel_rfl
theorem s188 : G 3 (.lp 6) (f187.map (nrw2 100 62 62)) (nrwH 100 62 62 m187) E = true := by kernel_rfl
theorem s189 : G 1 (.lp 6) (f187.map (nrw2 100 63 149)) (nrwH 100 63 149 m187) (Z (.lp 6) f190 m190 14 (sn 105 (sn 106 (sn 116 (sl 236) (sl 249)) (sn 217 (sl 245) se)) (sn 115 (sn 156 (sl 242) (sl 251)) (sn 224 (sl 247) se)))) = true := by kernel_rfl
theorem s191 : G 3 (.lp 6) (f190.map (nrw2 100 63 63)) (nrwH 100 63 63 m190) E = true := by kernel_rfl
theorem s192 : G 1 (.lp 6) (f190.map (nrw2 100 64 149)) (nrwH 100 64 149 m190) (Z (.lp 6) f193 m193 27 (sn 28 (sn 29 (sn 39 (sl 159) (sl 172)) (sn 140 (sl 168) se)) (sn 38 (sn 79 (sl 165) (sl 174)) (sn 147 (sl 170) se)))) = true := by kernel_rfl
theorem s194 : G 3 (.lp 6) (f193.map (nrw2 100 64 64)) (nrwH 100 64 64 m193) E = true := by kernel_rfl
theorem s195 : G 1 (.lp 6) (f193.map (nrw2 100 65 149)) (nrwH 100 65 149 m193) (Z (.lp 6) f196 m196 42 (sn 50 (sn 51 (sn 152 (sl 180) se) (sn 171 (sl 184) se)) (sn 91 (sn 159 (sl 182) se) (sn 177 (sl 186) se)))) = true := by kernel_rfl
theorem s197 : G 3 (.lp 6) (f196.map (nrw2 100 65 65)) (nrwH 100 65 65 m196) E = true := by kernel_rfl
theorem s198 : G 1 (.lp 6) (f196.map (nrw2 100 66 149)) (nrwH 100 66 149 m196) (Z (.lp 6) f199 m199 55 (sn 63 (sn 64 (sn 165 (sl 193) se) (sn 184 (sl 197) se)) (sn 104 (sn 172 (sl 195) se) (sn 190 (sl 199) se)))) = true := by kernel_rfl
theorem s200 : G 3 (.lp 6) (f199.map (nrw2 100 66 66)) (nrwH 100 66 66 m199) E = true := by kernel_rfl
theorem s201 : G 1 (.lp 6) (f199.map (nrw2 100 67 149)) (nrwH 100 67 149 m199) (Z (.lp 6) f202 m202 66 (sn 67 (sn 68 (sn 78 (sl 198) (sl 211)) (sn 179 (sl 207) se)) (sn 77 (sn 118 (sl 204) (sl 213)) (sn 186 (sl 209) se)))) = true := by kernel_rfl
theorem s203 : G 3 (.lp 6) (f202.map (nrw2 100 67 67)) (nrwH 100 67 67 m202) E = true := by kernel_rfl
theorem s204 : G 1 (.lp 6) (f202.map (nrw2 100 68 149)) (nrwH 100 68 149 m202) (Z (.lp 6) f205 m205 81 (sn 89 (sn 90 (sn 191 (sl 219) se) (sn 210 (sl 223) se)) (sn 130 (sn 198 (sl 221) se) (sn 216 (sl 225) se)))) = true := by kernel_rfl
theorem s206 : G 3 (.lp 6) (f205.map (nrw2 100 68 68)) (nrwH 100 68 68 m205) E = true := by kernel_rfl
theorem s207 : G 1 (.lp 6) (f205.map (nrw2 100 69 149)) (nrwH 100 69 149 m205) (Z (.lp 6) f208 m208 94 (sn 102 (sn 103 (sn 204 (sl 232) se) (sn 223 (sl 236) se)) (sn 143 (sn 211 (sl 234) se) (sn 229 (sl 238) se)))) = true := by kernel_rfl
theorem s209 : G 3 (.lp 6) (f208.map (nrw2 100 69 69)) (nrwH 100 69 69 m208) E = true := by kernel_rfl
theorem s210 : G 1 (.lp 6) (f208.map (nrw2 100 70 149)) (nrwH 100 70 149 m208) (Z (.lp 6) f211 m211 14 (sn 106 (sn 107 (sn 117 (sl 237) (sl 250)) (sn 218 (sl 246) se)) (sn 116 (sn 157 (sl 243) (sl 252)) (sn 225 (sl 248) se)))) = true := by kernel_rfl
theorem s212 : G 3 (.lp 6) (f211.map (nrw2 100 70 70)) (nrwH 100 70 70 m211) E = true := by kernel_rfl
theorem s213 : G 1 (.lp 6) (f211.map (nrw2 100 71 149)) (nrwH 100 71 149 m211) (Z (.lp 6) f214 m214 29 (sn 37 (sn 38 (sn 139 (sl 167) se) (sn 158 (sl 171) se)) (sn 78 (sn 146 (sl 169) se) (sn 164 (sl 173) se)))) = true := by kernel_rfl
theorem s215 : G 3 (.lp 6) (f214.map (nrw2 100 71 71)) (nrwH 100 71 71 m214) E = true := by kernel_rfl
theorem s216 : G 1 (.lp 6) (f214.map (nrw2 100 72 149)) (nrwH 100 72 149 m214) (Z (.lp 6) f217 m217 42 (sn 50 (sn 51 (sn 152 (sl 180) se) (sn 171 (sl 184) se)) (sn 91 (sn 159 (sl 182) se) (sn 177 (sl 186) se)))) = true := by kernel_rfl
theorem s218 : G 3 (.lp 6) (f217.map (nrw2 100 72 72)) (nrwH 100 72 72 m217) E = true := by kernel_rfl
theorem s219 : G 1 (.lp 6) (f217.map (nrw2 100 73 149)) (nrwH 100 73 149 m217) (Z (.lp 6) f220 m220 53 (sn 54 (sn 55 (sn 65 (sl 185) (sl 198)) (sn 166 (sl 194) se)) (sn 64 (sn 105 (sl 191) (sl 200)) (sn 173 (sl 196) se)))) = true := by kernel_rfl
theorem s221 : G 3 (.lp 6) (f220.map (nrw2 100 73 73)) (nrwH 100 73 73 m220) E = true := by kernel_rfl
theorem s222 : G 1 (.lp 6) (f220.map (nrw2 100 74 149)) (nrwH 100 74 149 m220) (Z (.lp 6) f223 m223 68 (sn 76 (sn 77 (sn 178 (sl 206) se) (sn 197 (sl 210) se)) (sn 117 (sn 185 (sl 208) se) (sn 203 (sl 212) se)))) = true := by kernel_rfl
theorem s224 : G 3 (.lp 6) (f223.map (nrw2 100 74 74)) (nrwH 100 74 74 m223) E = true := by kernel_rfl
theorem s225 : G 1 (.lp 6) (f223.map (nrw2 100 75 149)) (nrwH 100 75 149 m223) (Z (.lp 6) f226 m226 81 (sn 89 (sn 90 (sn 191 (sl 219) se) (sn 210 (sl 223) se)) (sn 130 (sn 198 (sl 221) se) (sn 216 (sl 225) se)))) = true := by kernel_rfl
theorem s227 : G 3 (.lp 6) (f226.map (nrw2 100 75 75)) (nrwH 100 75 75 m226) E = true := by kernel_rfl
theorem s228 : G 1 (.lp 6) (f226.map (nrw2 100 76 149)) (nrwH 100 76 149 m226) (Z (.lp 6) f229 m229 92 (sn 93 (sn 94 (sn 104 (sl 224) (sl 237)) (sn 205 (sl 233) se)) (sn 103 (sn 144 (sl 230) (sl 239)) (sn 212 (sl 235) se)))) = true := by kernel_rfl
theorem s230 : G 3 (.lp 6) (f229.map (nrw2 100 76 76)) (nrwH 100 76 76 m229) E = true := by kernel_rfl
theorem s231 : G 1 (.lp 6) (f229.map (nrw2 100 77 149)) (nrwH 100 77 149 m229) (Z (.lp 6) f232 m232 14 (sn 105 (sn 106 (sn 116 (sl 236) (sl 249)) (sn 217 (sl 245) se)) (sn 115 (sn 156 (sl 242) (sl 251)) (sn 224 (sl 247) se)))) = true := by kernel_rfl
theorem s233 : G 3 (.lp 6) (f232.map (nrw2 100 77 77)) (nrwH 100 77 77 m232) E = true := by kernel_rfl
theorem s234 : G 1 (.lp 6) (f232.map (nrw2 100 78 149)) (nrwH 100 78 149 m232) (Z (.lp 6) f235 m235 29 (sn 37 (sn 38 (sn 139 (sl 167) se) (sn 158 (sl 171) se)) (sn 78 (sn 146 (sl 169) se) (sn 164 (sl 173) se)))) = true := by kernel_rfl
theorem s236 : G 3 (.lp 6) (f235.map (nrw2 100 78 78)) (nrwH 100 78 78 m235) E = true := by kernel_rfl
theorem s237 : G 1 (.lp 6) (f235.map (nrw2 100 79 149)) (nrwH 100 79 149 m235) (Z (.lp 6) f238 m238 40 (sn 41 (sn 42 (sn 52 (sl 172) (sl 185)) (sn 153 (sl 181) se)) (sn 51 (sn 92 (sl 178) (sl 187)) (sn 160 (sl 183) se)))) = true := by kernel_rfl
theorem s239 : G 3 (.lp 6) (f238.map (nrw2 100 79 79)) (nrwH 100 79 79 m238) E = true := by kernel_rfl
end Go.Proofs.YtffaicfhcljacaaGreatDoor.keepEpochs
