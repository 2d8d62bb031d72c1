/- Single steps of a region that draws: a load, a store, a slice of one entry. -/
import Derived.Test.YtiolgenaefillaaGreatJe
import Derived.Deep.RegionHeld3
import Derived.Deep.RegionLaw
namespace Go.Proofs.YtiolgenaefillaaGreat
open Go.RowKit
theorem wp_ld107 {o : Oper} {a : Act} {W : World} {K : Act → World → Prop} {Q : Exit → Act → World → Prop} {b i : Nat} {u : Value} (ho : o.op = .load 24 (.tmp 106)) (h0 : a.eval (.tmp 106) = .pointer (some ⟨b, i, none⟩)) (hc : W.cell? ⟨b, i, none⟩ = some u)
    (h : K (a.put o.dst u) W) : Oper.wp Tryz.prog o a W K Q := by
  obtain ⟨dst, op, ty, pos, af, gd⟩ := o
  simp only at ho
  subst ho
  simp only [Act.eval] at h0
  have e0 : a.tmps[106]?.getD undef = .pointer (some ⟨b, i, none⟩) := by simpa using h0
  unfold Oper.wp
  go_simp
  exact h
theorem wp_st119 {o : Oper} {a : Act} {W : World} {K : Act → World → Prop} {Q : Exit → Act → World → Prop} {b i n c : Nat} {ao : Option Addr} {u : Value} (ho : o.op = .store 24 (.tmp 119) (.tmp 118)) (hd : o.dst = none) (h0 : a.eval (.tmp 119) = .pointer (some ⟨b, i, none⟩)) (h1 : a.eval (.tmp 118) = .slice ao n c)
    (hc : W.cell? ⟨b, i, none⟩ = some u) (hf : W.frozen? ⟨b, i, none⟩ = false)
    (h : K a (W.setCell ⟨b, i, none⟩ (.slice ao n c))) : Oper.wp Tryz.prog o a W K Q := by
  obtain ⟨dst, op, ty, pos, af, gd⟩ := o
  simp only at ho hd
  subst ho hd
  simp only [Act.eval] at h0 h1
  have e0 : a.tmps[119]?.getD undef = .pointer (some ⟨b, i, none⟩) := by simpa using h0
  have e1 : a.tmps[118]?.getD undef = .slice ao n c := by simpa using h1
  unfold Oper.wp
  go_simp
  exact h
theorem wp_lit117 {o : Oper} {a : Act} {W : World} {K : Act → World → Prop} {Q : Exit → Act → World → Prop} {s : ByteArray} {y : Int} (ho : o.op = .buildSlice 24 1 #[(0, Operand.tmp 116)]) (h0 : a.eval (.tmp 116) = .agg #[.string s, .int .i64 y])
    (h : K (a.put o.dst (.slice (some ⟨W.heap.size, 0, none⟩) 1 1)) (W.alloc (.cells #[.string s, .int .i64 y] 41))) : Oper.wp Tryz.prog o a W K Q := by
  obtain ⟨dst, op, ty, pos, af, gd⟩ := o
  simp only at ho
  subst ho
  simp only [Act.eval] at h0
  have e0 : a.tmps[116]?.getD undef = .agg #[.string s, .int .i64 y] := by simpa using h0
  unfold Oper.wp
  go_simp
  exact h
end Go.Proofs.YtiolgenaefillaaGreat
