/- Stages of AgentFull. -/
import Derived.Test.YtffaicfhcljacaaGreatDoorAFWD
namespace Go.Proofs.YtffaicfhcljacaaGreatDoor.agentFull
open Go Lit
set_option maxRecDepth 1000000
theorem s62 : G 16 (.lp 9) (f61.map (nrw2 100 186 200)) (nrwH 100 186 200 m61) (Z (.lp 9) f77 m77 81 (sn 6916 (sn 6995 (sn 6997 (sl 7182) se) (sl 7004)) (sn 6996 (sl 6998) (sl 7005)))) = true := by kernel_rfl
theorem s63 : G 1 (.lp 9) (f61.map (nrw2 100 201 249)) (nrwH 100 201 249 m61) (Z (.lp 9) f64 m64 81 (sn 109 (sn 188 (sn 190 (sn 449 (sl 659) se) (sl 460)) (sn 197 (sl 455) (sl 467))) (sn 189 (sn 191 (sl 450) (sl 463)) (sn 198 (sl 457) (sl 471))))) = true := by kernel_rfl
theorem s65 : G 13 (.lp 9) (f64.map (nrw2 100 201 215)) (nrwH 100 201 215 m64) (Z (.lp 9) f76 m76 97 (sn 6734 (sn 6838 (sn 6840 (sl 7168) se) (sl 6847)) (sn 6839 (sl 6841) (sl 6848)))) = true := by kernel_rfl
theorem s66 : G 1 (.lp 9) (f64.map (nrw2 100 216 249)) (nrwH 100 216 249 m64) (Z (.lp 9) f67 m67 97 (sn 134 (sn 238 (sn 240 (sn 532 (sl 787) se) (sl 543)) (sn 247 (sl 538) (sl 550))) (sn 239 (sn 241 (sl 533) (sl 546)) (sn 248 (sl 540) (sl 554))))) = true := by kernel_rfl
theorem s68 : G 11 (.lp 9) (f67.map (nrw2 100 216 230)) (nrwH 100 216 230 m67) (Z (.lp 9) f75 m75 113 (sn 6622 (sn 6751 (sn 6753 (sl 7123) se) (sl 6760)) (sn 6752 (sl 6754) (sl 6761)))) = true := by kernel_rfl
theorem s69 : G 2 (.lp 9) (f67.map (nrw2 100 231 249)) (nrwH 100 231 249 m67) (Z (.lp 9) f70 m70 113 (sn 615 (sn 616 (sn 623 (sn 637 (sl 1135) se) (sl 1126)) (sn 629 (sl 971) (sl 1128))) (sn 621 (sn 626 (sn 915 (sl 1441) se) (sl 1127)) (sn 633 (sl 1125) (sl 1134))))) = true := by kernel_rfl
theorem s71 : G 10 (.lp 9) (f70.map (nrw2 100 231 245)) (nrwH 100 231 245 m70) (Z (.lp 9) f74 m74 130 (sn 6982 (sn 7136 (sn 7138 (sl 7550) se) (sl 7145)) (sn 7137 (sl 7139) (sl 7146)))) = true := by kernel_rfl
theorem s72 : G 9 (.lp 9) (f70.map (nrw2 100 246 249)) (nrwH 100 246 249 m70) (Z (.lp 9) f73 m73 130 (sn 699 (sn 700 (sn 707 (sn 721 (sl 7250) se) (sl 7241)) (sn 713 (sl 7061) (sl 7243))) (sn 705 (sn 710 (sn 1044 (sl 7696) se) (sl 7242)) (sn 717 (sl 7240) (sl 7249))))) = true := by kernel_rfl
theorem s73 : G 8 (.lp 9) f73 m73 E = true := by kernel_rfl
theorem s74 : G 7 (.lp 9) f74 m74 E = true := by kernel_rfl
theorem s75 : G 8 (.lp 9) f75 m75 E = true := by kernel_rfl
end Go.Proofs.YtffaicfhcljacaaGreatDoor.agentFull
