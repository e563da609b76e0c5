/- Stages of AgentFull. -/
import Derived.Test.YtffaicfhcljacaaGreatDoorAFWD
namespace Go.Proofs.YtffaicfhcljacaaGreatDoor.agentFull
open Go Lit
set_option maxRecDepth 1000000
theorem s19 : G 6 (.lp 9) ((f16.map (nrw2 100 250 399)).map (nrw2 100 250 264)) (nrwH 100 250 264 (nrwH 100 250 399 m16)) (Z (.lp 9) f56 m56 73 (sn 928 (sn 929 (sn 939 (sn 1574 (sn 2333 (sl 3887) se) (sl 3521)) (sn 1588 (sn 2350 (sl 3899) se) (sl 3530))) (sn 946 (sn 1580 (sn 2343 (sl 3892) se) (sl 3523)) (sn 1596 (sn 3158 (sl 4226) se) (sl 3881)))) (sn 934 (sn 942 (sn 1575 (sn 2338 (sl 3889) se) (sl 3522)) (sn 1592 (sn 2354 (sl 3903) se) (sl 3531))) (sn 950 (sn 1585 (sn 2346 (sl 3895) se) (sl 3524)) (sn 2332 (sl 3367) (sl 3882)))))) = true := by kernel_rfl
theorem s20 : G 1 (.lp 9) ((f16.map (nrw2 100 250 399)).map (nrw2 100 265 399)) (nrwH 100 265 399 (nrwH 100 250 399 m16)) (Z (.lp 9) f21 m21 73 (sn 101 (sn 180 (sn 182 (sn 340 (sl 469) se) (sn 457 (sl 478) se)) (sn 189 (sn 451 (sl 474) se) (sl 462))) (sn 181 (sn 183 (sn 341 (sl 473) se) (sn 459 (sl 666) se)) (sn 190 (sn 452 (sl 476) se) (sl 465))))) = true := by kernel_rfl
theorem s22 : G 13 (.lp 9) (f21.map (nrw2 100 265 279)) (nrwH 100 265 279 m21) (Z (.lp 9) f55 m55 94 (sn 7031 (sn 7135 (sn 7137 (sl 7465) se) (sl 7144)) (sn 7136 (sl 7138) (sl 7145)))) = true := by kernel_rfl
theorem s23 : G 1 (.lp 9) (f21.map (nrw2 100 280 399)) (nrwH 100 280 399 m21) (Z (.lp 9) f24 m24 94 (sn 131 (sn 235 (sn 237 (sn 529 (sl 784) se) (sl 540)) (sn 244 (sl 535) (sl 547))) (sn 236 (sn 238 (sl 530) (sl 543)) (sn 245 (sl 537) (sl 551))))) = true := by kernel_rfl
theorem s25 : G 11 (.lp 9) (f24.map (nrw2 100 280 294)) (nrwH 100 280 294 m24) (Z (.lp 9) f54 m54 110 (sn 6916 (sn 7045 (sn 7047 (sl 7417) se) (sl 7054)) (sn 7046 (sl 7048) (sl 7055)))) = true := by kernel_rfl
theorem s26 : G 1 (.lp 9) (f24.map (nrw2 100 295 399)) (nrwH 100 295 399 m24) (Z (.lp 9) f27 m27 110 (sn 156 (sn 285 (sn 287 (sn 612 (sl 912) se) (sl 623)) (sn 294 (sl 618) (sl 630))) (sn 286 (sn 288 (sl 613) (sl 626)) (sn 295 (sl 620) (sl 634))))) = true := by kernel_rfl
theorem s28 : G 10 (.lp 9) (f27.map (nrw2 100 295 309)) (nrwH 100 295 309 m27) (Z (.lp 9) f53 m53 126 (sn 7174 (sn 7328 (sn 7330 (sl 7742) se) (sl 7337)) (sn 7329 (sl 7331) (sl 7338)))) = true := by kernel_rfl
theorem s29 : G 1 (.lp 9) (f27.map (nrw2 100 310 399)) (nrwH 100 310 399 m27) (Z (.lp 9) f30 m30 126 (sn 181 (sn 335 (sn 337 (sn 695 (sl 1040) se) (sl 706)) (sn 344 (sl 701) (sl 713))) (sn 336 (sn 338 (sl 696) (sl 709)) (sn 345 (sl 703) (sl 717))))) = true := by kernel_rfl
theorem s31 : G 8 (.lp 9) (f30.map (nrw2 100 310 324)) (nrwH 100 310 324 m30) (Z (.lp 9) f52 m52 142 (sn 6352 (sn 6531 (sn 6533 (sl 6987) se) (sl 6540)) (sn 6532 (sl 6534) (sl 6541)))) = true := by kernel_rfl
theorem s32 : G 1 (.lp 9) (f30.map (nrw2 100 325 399)) (nrwH 100 325 399 m30) (Z (.lp 9) f33 m33 142 (sn 206 (sn 385 (sn 387 (sn 778 (sl 1168) se) (sl 789)) (sn 394 (sl 784) (sl 796))) (sn 386 (sn 388 (sl 779) (sl 792)) (sn 395 (sl 786) (sl 800))))) = true := by kernel_rfl
theorem s34 : G 8 (.lp 9) (f33.map (nrw2 100 325 339)) (nrwH 100 325 339 m33) (Z (.lp 9) f51 m51 158 (sn 7084 (sn 7288 (sn 7290 (sl 7786) se) (sl 7297)) (sn 7289 (sl 7291) (sl 7298)))) = true := by kernel_rfl
end Go.Proofs.YtffaicfhcljacaaGreatDoor.agentFull
