import Derived.Test.YtcpopagikbjimaaGreatDoorRows
import Derived.Test.YtcpopagikbjimaaGreatDoorG13
import Derived.LaidMore
namespace Go.Proofs.YtcpopagikbjimaaGreatDoor
open Go.RowKit
abbrev laid1 : List (String × DataW Unit) := [("math/bits.deBruijn64tab", Rows.laid_math_bits_deBruijn64tab)]
theorem gTab : Tryz.prog.globalNamed "math/bits.deBruijn64tab" = some 0 := by kernel_rfl
theorem Qig : (Tryz.prog.globals[0]?).map (·.type) = some 142 := by kernel_rfl
theorem QkN : Tryz.prog.cellsOf 5 = 1 := by kernel_rfl
theorem Qih : Tryz.prog.cellsOf 142 = 64 := by kernel_rfl
theorem Qii : (Rows.laid_math_bits_deBruijn64tab : DataW Unit) = Lib.tabData .u8 (Lib.deBruijn64tab.map fun n : Nat => (n : Int)) := by kernel_rfl
theorem QeL {W : World} (h : laidMetH Tryz.prog laid1 W) : Tab W := by
  rw [MakeChecks.laidMetH_plain _ _ _ (by kernel_rfl)] at h;unfold laid1 at h;rw [Qii] at h;have hT := Lib.tabIs_of_head gTab Qig Tryz.underlying142 Tryz.underlying5 QkN Qih h;intro j hj
  have hl : (Lib.deBruijn64tab.map fun n : Nat => (n : Int)).length = 64 := by rw [List.length_map]; decide
  have hc := hT.cell gTab j (by omega);rw [hc]
  have e : (Lib.deBruijn64tab.map fun n : Nat => (n : Int)).getD j 0 = ((Lib.deBruijn64tab.getD j 0 : Nat) : Int) := by
    rw [List.getD_eq_getElem?_getD, List.getD_eq_getElem?_getD, List.getElem?_map]
    cases Lib.deBruijn64tab[j]? <;> rfl
  rw [e]
theorem Qij (os : Os) (args : Array Value) : laidMetH Tryz.prog laid1 ((World.doorLaid Tryz.prog 400 os).forCall (fun _ _ => 0) ⟨#[], args, []⟩).memory :=
  laidMetH_of_parts3 (fuel := 8) (laidMet_of_run' 8 (by kernel_rfl) (by kernel_rfl)) (by kernel_rfl) (by kernel_rfl)
end Go.Proofs.YtcpopagikbjimaaGreatDoor
