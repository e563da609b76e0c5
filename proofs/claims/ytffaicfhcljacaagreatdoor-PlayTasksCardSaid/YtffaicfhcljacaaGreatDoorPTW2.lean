/- Stages of PlayTasks. -/
import Derived.Test.YtffaicfhcljacaaGreatDoorPTWD
namespace Go.Proofs.YtffaicfhcljacaaGreatDoor.playTasks
open Go Lit
set_option maxRecDepth 1000000
theorem s12 : G 1 (.lp 7) (f10.map (nrw2 100 4 7)) (nrwH 100 4 7 m10) (Z (.lp 7) f13 m13 51 (sn 52 (sn 254 (sl 260) (sl 265)) (sn 255 (sl 262) (sl 269)))) = true := by kernel_rfl
theorem s14 : G 12 (.lp 7) (f13.map (nrw2 100 4 4)) (nrwH 100 4 4 m13) (Z (.lp 9) f29 m29 58 (sn 231 (sn 233 (sn 324 (sn 622 (sn 2333 (sl 6013) se) (sl 4436)) (sn 1640 (sl 3258) (sl 5121))) (sn 340 (sn 927 (sn 3042 (sl 6085) se) (sl 4649)) (sn 1859 (sl 3731) (sl 5822)))) (sn 316 (sn 332 (sn 624 (sn 2557 (sl 6032) se) (sl 4441)) (sn 1645 (sl 3311) (sl 5339))) (sn 348 (sn 1154 (sl 3047) (sl 4702)) (sn 1912 (sl 3952) (sl 5827)))))) = true := by kernel_rfl
theorem s15 : G 1 (.lp 7) (f13.map (nrw2 100 5 7)) (nrwH 100 5 7 m13) (Z (.lp 7) f16 m16 58 (sn 59 (sn 279 (sl 285) (sl 290)) (sn 280 (sl 287) (sl 294)))) = true := by kernel_rfl
theorem s17 : G 11 (.lp 7) (f16.map (nrw2 100 5 5)) (nrwH 100 5 5 m16) (Z (.lp 9) f27 m27 65 (sn 269 (sn 271 (sn 372 (sn 404 (sn 2203 (sl 6120) se) (sl 4549)) (sn 1343 (sl 3504) (sl 5401))) (sn 388 (sn 732 (sn 2950 (sl 6142) se) (sl 5102)) (sn 1898 (sl 3806) (sl 5890)))) (sn 364 (sn 380 (sn 730 (sn 2688 (sl 6140) se) (sl 5097)) (sn 1893 (sl 3753) (sl 5884))) (sn 396 (sn 1078 (sn 3499 (sl 6195) se) (sl 5348)) (sn 2150 (sl 4290) (sl 5895)))))) = true := by kernel_rfl
end Go.Proofs.YtffaicfhcljacaaGreatDoor.playTasks
