import Derived.Test.YtnhapmboienipaaGreatDoorRows
import Derived.Test.YtnhapmboienipaaGreatDoorY34
import Derived.ProofKit
import Derived.LaidMore
import Derived.Lib.LaidTab
namespace Go.Proofs.YtnhapmboienipaaGreatDoor
open Go.RowKit _root_.Go.Proofs.Tryz
abbrev laid1 : List (String × DataW Unit):=[("math/bits.deBruijn64tab",Rows.laid_math_bits_deBruijn64tab)]
theorem gTab : prog.globalNamed "math/bits.deBruijn64tab" = some 0:=by kernel_rfl
theorem Qpi:(prog.globals[0]?).map (·.type)=some 145:=by kernel_rfl
theorem Qt9:prog.cellsOf 5=1:=by kernel_rfl
theorem Qpj:prog.cellsOf 145=64:=by kernel_rfl
theorem Qpk:(Rows.laid_math_bits_deBruijn64tab:DataW Unit)=Lib.tabData .u8 (Lib.deBruijn64tab.map fun n:Nat=>(n:Int)):=by kernel_rfl
theorem Qia {W:World} (h:laidMetH prog laid1 W):Tab W:=by
 rw [MakeChecks.laidMetH_plain _ _ _ (by kernel_rfl)] at h;unfold laid1 at h;rw [Qpk] at h;have hT:=Lib.tabIs_of_head gTab Qpi underlying145 underlying5 Qt9 Qpj h;intro j hj
 have hl:(Lib.deBruijn64tab.map fun n:Nat=>(n:Int)).length=64:=by rw [List.length_map];decide
 have hc:=hT.cell gTab j (by omega);rw [hc]
 have e:(Lib.deBruijn64tab.map fun n:Nat=>(n:Int)).getD j 0=((Lib.deBruijn64tab.getD j 0:Nat):Int):=by
  rw [Yad,Yad,List.getElem?_map]
  cases Lib.deBruijn64tab[j]? <;> rfl
 rw [e]
theorem Qpl (os:Os) (args:Array Value):laidMetH prog laid1 ((World.doorLaid prog 400 os).forCall (fun _ _=>0) ⟨#[],args,[]⟩).memory :=
 laidMetH_of_parts3 (fuel:=8) (laidMet_of_run' 8 (by kernel_rfl) (by kernel_rfl)) (by kernel_rfl) (by kernel_rfl)
end Go.Proofs.YtnhapmboienipaaGreatDoor
