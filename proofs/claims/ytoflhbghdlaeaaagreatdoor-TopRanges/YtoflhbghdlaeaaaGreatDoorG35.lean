import Derived.Test.YtoflhbghdlaeaaaGreatDoorRows
import Derived.Test.YtoflhbghdlaeaaaGreatDoorG32
import Derived.LaidMore
namespace Go.Proofs.YtoflhbghdlaeaaaGreatDoor
open Go.RowKit _root_.Go.Proofs.Tryz
abbrev laid1 : List (String × DataW Unit) := [("math/bits.deBruijn64tab", Rows.laid_math_bits_deBruijn64tab)]
theorem gTab : prog.globalNamed "math/bits.deBruijn64tab" = some 0 := by kernel_rfl
theorem Fk : (prog.globals[0]?).map (·.type) = some 117 := by kernel_rfl
theorem EO : prog.cellsOf 5 = 1 := by kernel_rfl
theorem qN : prog.cellsOf 117 = 64 := by kernel_rfl
theorem yZ : (Rows.laid_math_bits_deBruijn64tab : DataW Unit) = Lib.tabData .u8 (Lib.deBruijn64tab.map λn : Nat => (n : Int)) := by kernel_rfl
theorem Ej {W : World} (h : laidMetH prog laid1 W) : Tab W := by
 rw[MakeChecks.laidMetH_plain _ _ _ (by kernel_rfl)] at h;unfold laid1 at h;rw[yZ] at h;have hT := Lib.tabIs_of_head gTab Fk underlying117 underlying5 EO qN h;intro j hj
 have hl : (Lib.deBruijn64tab.map λn : Nat => (n : Int)).length = 64 := by rw[List.length_map]; decide
 have hc := hT.cell gTab j (by omega);rw[hc]
 have e : (Lib.deBruijn64tab.map λn : Nat => (n : Int)).getD j 0 = ((Lib.deBruijn64tab.getD j 0 : Nat) : Int) := by
  rw[Qd, Qd, List.getElem?_map]
  cases Lib.deBruijn64tab[j]? <;> rfl
 rw[e]
theorem Ct (os : Os) (args : Array Value) : laidMetH prog laid1 ((World.doorLaid prog 400 os).forCall (λ_ _ => 0) ⟨#[], args, []⟩).memory :=
 laidMetH_of_parts3 (fuel := 8) (laidMet_of_run' 8 (by kernel_rfl) (by kernel_rfl)) (by kernel_rfl) (by kernel_rfl)
end Go.Proofs.YtoflhbghdlaeaaaGreatDoor
