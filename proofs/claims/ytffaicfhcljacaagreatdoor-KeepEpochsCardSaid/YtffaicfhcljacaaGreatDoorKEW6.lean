/- Stages of KeepEpochs. -/
import Derived.Test.YtffaicfhcljacaaGreatDoorKEWD
namespace Go.Proofs.YtffaicfhcljacaaGreatDoor.keepEpochs
open Go Lit
set_option maxRecDepth 1000000
theorem s360 : G 1 (.lp 6) (f358.map (nrw2 100 120 149)) (nrwH 100 120 149 m358) (Z (.lp 6) f361 m361 29 (sn 37 (sn 38 (sn 139 (sl 167) se) (sn 158 (sl 171) se)) (sn 78 (sn 146 (sl 169) se) (sn 164 (sl 173) se)))) = true := by kernel_rfl
theorem s362 : G 3 (.lp 6) (f361.map (nrw2 100 120 120)) (nrwH 100 120 120 m361) E = true := by kernel_rfl
theorem s363 : G 1 (.lp 6) (f361.map (nrw2 100 121 149)) (nrwH 100 121 149 m361) (Z (.lp 6) f364 m364 40 (sn 41 (sn 42 (sn 52 (sl 172) (sl 185)) (sn 153 (sl 181) se)) (sn 51 (sn 92 (sl 178) (sl 187)) (sn 160 (sl 183) se)))) = true := by kernel_rfl
theorem s365 : G 3 (.lp 6) (f364.map (nrw2 100 121 121)) (nrwH 100 121 121 m364) E = true := by kernel_rfl
theorem s366 : G 1 (.lp 6) (f364.map (nrw2 100 122 149)) (nrwH 100 122 149 m364) (Z (.lp 6) f367 m367 55 (sn 63 (sn 64 (sn 165 (sl 193) se) (sn 184 (sl 197) se)) (sn 104 (sn 172 (sl 195) se) (sn 190 (sl 199) se)))) = true := by kernel_rfl
theorem s368 : G 3 (.lp 6) (f367.map (nrw2 100 122 122)) (nrwH 100 122 122 m367) E = true := by kernel_rfl
theorem s369 : G 1 (.lp 6) (f367.map (nrw2 100 123 149)) (nrwH 100 123 149 m367) (Z (.lp 6) f370 m370 68 (sn 76 (sn 77 (sn 178 (sl 206) se) (sn 197 (sl 210) se)) (sn 117 (sn 185 (sl 208) se) (sn 203 (sl 212) se)))) = true := by kernel_rfl
theorem s371 : G 3 (.lp 6) (f370.map (nrw2 100 123 123)) (nrwH 100 123 123 m370) E = true := by kernel_rfl
theorem s372 : G 1 (.lp 6) (f370.map (nrw2 100 124 149)) (nrwH 100 124 149 m370) (Z (.lp 6) f373 m373 79 (sn 80 (sn 81 (sn 91 (sl 211) (sl 224)) (sn 192 (sl 220) se)) (sn 90 (sn 131 (sl 217) (sl 226)) (sn 199 (sl 222) se)))) = true := by kernel_rfl
theorem s374 : G 3 (.lp 6) (f373.map (nrw2 100 124 124)) (nrwH 100 124 124 m373) E = true := by kernel_rfl
theorem s375 : G 1 (.lp 6) (f373.map (nrw2 100 125 149)) (nrwH 100 125 149 m373) (Z (.lp 6) f376 m376 94 (sn 102 (sn 103 (sn 204 (sl 232) se) (sn 223 (sl 236) se)) (sn 143 (sn 211 (sl 234) se) (sn 229 (sl 238) se)))) = true := by kernel_rfl
theorem s377 : G 3 (.lp 6) (f376.map (nrw2 100 125 125)) (nrwH 100 125 125 m376) E = true := by kernel_rfl
theorem s378 : G 1 (.lp 6) (f376.map (nrw2 100 126 149)) (nrwH 100 126 149 m376) (Z (.lp 6) f379 m379 14 (sn 105 (sn 106 (sn 118 (sl 238) (sl 251)) (sn 219 (sl 247) se)) (sn 117 (sn 158 (sl 244) (sl 253)) (sn 226 (sl 249) se)))) = true := by kernel_rfl
theorem s380 : G 3 (.lp 6) (f379.map (nrw2 100 126 126)) (nrwH 100 126 126 m379) E = true := by kernel_rfl
theorem s381 : G 1 (.lp 6) (f379.map (nrw2 100 127 149)) (nrwH 100 127 149 m379) (Z (.lp 6) f382 m382 27 (sn 28 (sn 29 (sn 41 (sl 161) (sl 174)) (sn 142 (sl 170) se)) (sn 40 (sn 81 (sl 167) (sl 176)) (sn 149 (sl 172) se)))) = true := by kernel_rfl
theorem s383 : G 3 (.lp 6) (f382.map (nrw2 100 127 127)) (nrwH 100 127 127 m382) E = true := by kernel_rfl
theorem s384 : G 1 (.lp 6) (f382.map (nrw2 100 128 149)) (nrwH 100 128 149 m382) (Z (.lp 6) f385 m385 42 (sn 52 (sn 53 (sn 154 (sl 182) se) (sn 173 (sl 186) se)) (sn 93 (sn 161 (sl 184) se) (sn 179 (sl 188) se)))) = true := by kernel_rfl
theorem s386 : G 3 (.lp 6) (f385.map (nrw2 100 128 128)) (nrwH 100 128 128 m385) E = true := by kernel_rfl
theorem s387 : G 1 (.lp 6) (f385.map (nrw2 100 129 149)) (nrwH 100 129 149 m385) (Z (.lp 6) f388 m388 55 (sn 65 (sn 66 (sn 167 (sl 195) se) (sn 186 (sl 199) se)) (sn 106 (sn 174 (sl 197) se) (sn 192 (sl 201) se)))) = true := by kernel_rfl
theorem s389 : G 3 (.lp 6) (f388.map (nrw2 100 129 129)) (nrwH 100 129 129 m388) E = true := by kernel_rfl
theorem s390 : G 1 (.lp 6) (f388.map (nrw2 100 130 149)) (nrwH 100 130 149 m388) (Z (.lp 6) f391 m391 66 (sn 67 (sn 68 (sn 80 (sl 200) (sl 213)) (sn 181 (sl 209) se)) (sn 79 (sn 120 (sl 206) (sl 215)) (sn 188 (sl 211) se)))) = true := by kernel_rfl
theorem s392 : G 3 (.lp 6) (f391.map (nrw2 100 130 130)) (nrwH 100 130 130 m391) E = true := by kernel_rfl
theorem s393 : G 1 (.lp 6) (f391.map (nrw2 100 131 149)) (nrwH 100 131 149 m391) (Z (.lp 6) f394 m394 81 (sn 91 (sn 92 (sn 193 (sl 221) se) (sn 212 (sl 225) se)) (sn 132 (sn 200 (sl 223) se) (sn 218 (sl 227) se)))) = true := by kernel_rfl
theorem s395 : G 3 (.lp 6) (f394.map (nrw2 100 131 131)) (nrwH 100 131 131 m394) E = true := by kernel_rfl
theorem s396 : G 1 (.lp 6) (f394.map (nrw2 100 132 149)) (nrwH 100 132 149 m394) (Z (.lp 6) f397 m397 94 (sn 104 (sn 105 (sn 206 (sl 234) se) (sn 225 (sl 238) se)) (sn 145 (sn 213 (sl 236) se) (sn 231 (sl 240) se)))) = true := by kernel_rfl
theorem s398 : G 3 (.lp 6) (f397.map (nrw2 100 132 132)) (nrwH 100 132 132 m397) E = true := by kernel_rfl
theorem s399 : G 1 (.lp 6) (f397.map (nrw2 100 133 149)) (nrwH 100 133 149 m397) (Z (.lp 6) f400 m400 14 (sn 106 (sn 107 (sn 119 (sl 239) (sl 252)) (sn 220 (sl 248) se)) (sn 118 (sn 159 (sl 245) (sl 254)) (sn 227 (sl 250) se)))) = true := by kernel_rfl
theorem s401 : G 3 (.lp 6) (f400.map (nrw2 100 133 133)) (nrwH 100 133 133 m400) E = true := by kernel_rfl
theorem s402 : G 1 (.lp 6) (f400.map (nrw2 100 134 149)) (nrwH 100 134 149 m400) (Z (.lp 6) f403 m403 29 (sn 39 (sn 40 (sn 141 (sl 169) se) (sn 160 (sl 173) se)) (sn 80 (sn 148 (sl 171) se) (sn 166 (sl 175) se)))) = true := by kernel_rfl
theorem s404 : G 3 (.lp 6) (f403.map (nrw2 100 134 134)) (nrwH 100 134 134 m403) E = true := by kernel_rfl
theorem s405 : G 1 (.lp 6) (f403.map (nrw2 100 135 149)) (nrwH 100 135 149 m403) (Z (.lp 6) f406 m406 42 (sn 52 (sn 53 (sn 154 (sl 182) se) (sn 173 (sl 186) se)) (sn 93 (sn 161 (sl 184) se) (sn 179 (sl 188) se)))) = true := by kernel_rfl
theorem s407 : G 3 (.lp 6) (f406.map (nrw2 100 135 135)) (nrwH 100 135 135 m406) E = true := by kernel_rfl
theorem s408 : G 1 (.lp 6) (f406.map (nrw2 100 136 149)) (nrwH 100 136 149 m406) (Z (.lp 6) f409 m409 53 (sn 54 (sn 55 (sn 67 (sl 187) (sl 200)) (sn 168 (sl 196) se)) (sn 66 (sn 107 (sl 193) (sl 202)) (sn 175 (sl 198) se)))) = true := by kernel_rfl
theorem s410 : G 3 (.lp 6) (f409.map (nrw2 100 136 136)) (nrwH 100 136 136 m409) E = true := by kernel_rfl
theorem s411 : G 1 (.lp 6) (f409.map (nrw2 100 137 149)) (nrwH 100 137 149 m409) (Z (.lp 6) f412 m412 68 (sn 78 (sn 79 (sn 180 (sl 208) se) (sn 199 (sl 212) se)) (sn 119 (sn 187 (sl 210) se) (sn 205 (sl 214) se)))) = true := by kernel_rfl
theorem s413 : G 3 (.lp 6) (f412.map (nrw2 100 137 137)) (nrwH 100 137 137 m412) E = true := by kernel_rfl
theorem s414 : G 1 (.lp 6) (f412.map (nrw2 100 138 149)) (nrwH 100 138 149 m412) (Z (.lp 6) f415 m415 81 (sn 91 (sn 92 (sn 193 (sl 221) se) (sn 212 (sl 225) se)) (sn 132 (sn 200 (sl 223) se) (sn 218 (sl 227) se)))) = true := by kernel_rfl
theorem s416 : G 3 (.lp 6) (f415.map (nrw2 100 138 138)) (nrwH 100 138 138 m415) E = true := by kernel_rfl
theorem s417 : G 1 (.lp 6) (f415.map (nrw2 100 139 149)) (nrwH 100 139 149 m415) (Z (.lp 6) f418 m418 92 (sn 93 (sn 94 (sn 106 (sl 226) (sl 239)) (sn 207 (sl 235) se)) (sn 105 (sn 146 (sl 232) (sl 241)) (sn 214 (sl 237) se)))) = true := by kernel_rfl
theorem s419 : G 3 (.lp 6) (f418.map (nrw2 100 139 139)) (nrwH 100 139 139 m418) E = true := by kernel_rfl
end Go.Proofs.YtffaicfhcljacaaGreatDoor.keepEpochs
