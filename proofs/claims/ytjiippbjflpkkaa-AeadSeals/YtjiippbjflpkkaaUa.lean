/- Arrays of limbs as values and in memory. -/
import Derived.Test.YtjiippbjflpkkaaAp0
import Derived.Test.YtjiippbjflpkkaaPl
namespace Go.Proofs.Ytjiippbjflpkkaa
open Go.RowKit

/-- limbs as cells -/
def ul (s : List Nat) : List Value := s.map fun x => Value.int .u64 ((x : Nat) : Int)
theorem ul_len (s : List Nat) : (ul s).length = s.length := List.length_map ..
theorem ul_at (s : List Nat) (j : Nat) (h : j < s.length) : (ul s)[j]? = some (.int .u64 ((s.getD j 0 : Nat) : Int)) := by
  simp [ul, List.getD_eq_getElem?_getD, List.getElem?_eq_getElem h]
theorem ul_one (s : List Nat) : ∀ v ∈ ul s, v.oneCell' = true := by
  intro u hu; simp [ul] at hu; obtain ⟨x, _, rfl⟩ := hu; rfl
theorem ul_all (s : List Nat) : (ul s).toArray.all (·.oneCell') = true := all_oneCell_toArray (ul_one s)
theorem ul_app (s t : List Nat) : ul (s ++ t) = ul s ++ ul t := List.map_append ..
theorem ul_set (s : List Nat) (i x : Nat) : (ul s).set i (.int .u64 ((x : Nat) : Int)) = ul (s.set i x) := by
  simp [ul, List.map_set]
theorem bl_all1 (s : List Int) : (bl s).toArray.all (·.oneCell') = true := all_oneCell_toArray (bl_one s)
theorem bl_set1 (s : List Int) (i : Nat) (x : Int) : (bl s).set i (.int .u8 x) = bl (s.set i x) := by simp [bl, List.map_set]
theorem Try.size34 : (Try.prog.info? 47).map (·.size) = some 5 := by kernel_rfl
theorem Try.size53 : (Try.prog.info? 77).map (·.size) = some 10 := by kernel_rfl
theorem Try.agg32 (w : World) : (isAgg 39).run Try.prog w = .ok false w := by kernel_rfl
theorem Try.one32 : (Try.prog.info? 39).map (·.size) = some 1 := by kernel_rfl
def z5 : List Value := ul (List.replicate 5 0)
def z10 : List Value := ul (List.replicate 10 0)
theorem Try.zero34 : (Try.prog.info? 47).map (fun i => (i.zero, i.size)) = some (some (.agg z5.toArray), 5) := by kernel_rfl
theorem Try.zero53 : (Try.prog.info? 77).map (fun i => (i.zero, i.size)) = some (some (.agg z10.toArray), 10) := by kernel_rfl
theorem z5_len : z5.length = 5 := rfl
theorem z10_len : z10.length = 10 := rfl
theorem ul_size (s : List Nat) (h : s.length = 5) : (Try.prog.info? 47).map (·.size) = some (ul s).toArray.size := by simp [ul_len, h, Try.size34]
theorem ix_u5 (s : List Nat) (hs : s.length = 5) (j : Nat) (hj : j < 5) (w : World) : (Instr.index 47 (.agg (ul s).toArray) (.int .i64 j)).run Try.prog w = .ok (.int .u64 ((s.getD j 0 : Nat) : Int)) w :=
  run_index_cell 47 39 5 (ul s) j _ Try.underlying47 Try.agg32 Try.one32 hj (ul_at s j (by omega)) w
theorem results_c1 {P : Program} {fn : Func} {p u : Tmp} {ty : TypeId} (h : fn.results = #[.cell p ty, .tmp u]) (tmps : Array Value) (w : World) (g : Nat) (t : TypeId) (cs : Array Value) (fr : Nat × Nat) (d : TypeDesc)
    (hp : tmps.getD p undef = .pointer (some ⟨g, 0, none⟩)) (hg : w.heap[g]? = some (.cells cs t fr))
    (hu : P.underlying ty = some d) (hd : (match d with | .struct _ | .array _ _ => true | _ => false) = true) (hi : (P.info? ty).map (·.size) = some cs.size) :
    (results fn tmps).run P w = .ok (.tuple #[.agg cs, tmps.getD u undef]) w := by
  have hp' : tmps[p]?.getD undef = .pointer (some ⟨g, 0, none⟩) := by simpa using hp
  simp [results, h, hp', asAddr, run_loadVar_row w g t ty cs fr d hg hu hd hi]
theorem wrap64 (n : Nat) (h : n < 18446744073709551616) : IntKind.u64.wrap (n : Int) = (n : Int) := by rw [IntKind.wrap_u64]; omega
theorem and26 (v : Nat) (h : v < 18446744073709551616) : bits .and .u64 (v : Int) 67108863 = ((v % 67108864 : Nat) : Int) := by
  rw [show (67108863 : Int) = ((67108863 : Nat) : Int) from rfl, u64_and_nat _ _ h (by decide), show (67108863 : Nat) = 2 ^ 26 - 1 from rfl, Nat.and_two_pow_sub_one_eq_mod]
theorem set_here (w : World) (G i : Nat) (t : TypeId) (cs : List Value) (h : Blk w G t cs) (hi : i < cs.length) (v : Value) : (w.setCell ⟨G, i, none⟩ v).cell? ⟨G, i, none⟩ = some v := by
  rw [(h.set i v).cell, List.getElem?_set_self (by simpa using hi)]
end Go.Proofs.Ytjiippbjflpkkaa
