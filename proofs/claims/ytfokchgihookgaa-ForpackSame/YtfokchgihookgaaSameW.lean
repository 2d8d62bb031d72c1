/- The walk of the statement on as many of one number as one likes. -/
import Derived.Test.YtfokchgihookgaaFAwake
import Derived.Test.YtfokchgihookgaaVRef
namespace Go.Proofs.Ytfokchgihookgaa
open Go.RowKit

theorem Try.infoU64s : (Try.prog.info? 35).map (fun i => (i.zero, i.size, i.bytes)) = some (some (.int .u64 0), 1, 8) := by kernel_rfl

set_option maxHeartbeats 800000 in
set_option maxRecDepth 100000 in
theorem sames_any (x n : Int) (w : World) (x0 : 0 ≤ x) (x1 : x ≤ 18446744073709551615) :
    Calls Try.prog 8 #[.int .u64 x, .int .i64 n] w fun e w' => e = .returned (.bool true) ∧ Only (fun _ => False) w w' := by
  have AW := hideIt (awake_any w)
  have hlow := i64_low n 10 (by omega)
  rw [show ((2 ^ 10 - 1 : Nat) : Int) = 1023 from rfl, show ((2 ^ 10 : Nat) : Int) = 1024 from rfl] at hlow
  obtain ⟨m, hm⟩ : ∃ m : Nat, (m : Int) = n % 1024 := ⟨(n % 1024).toNat, by omega⟩
  have hm1 : m < 1024 := by omega
  rw [← hm] at hlow
  obtain ⟨i0, hi, hz0, hz1, hz2⟩ := info_parts Try.infoU64s
  clear hm
  go_enter Try.func8, Try.ntmps8
  go_wp2_with fail
  refine AW.out.mono ?_
  rintro e w1 ⟨rfl, on1⟩
  have O1 := hideIt on1
  clear AW on1
  go_wp2
  go_loopw [6, 7] (fun o i wr => ∃ k : Nat, k ≤ m + 1 ∧ i = .int .i64 k ∧ wr.ownsRow w1.heap.size 35 1 o k ((List.replicate k x).map (Value.int .u64)) ∧ Below w1.heap.size w1 wr) (fun _ i _ => m + 1 - (intOf i).toNat)
  case atStart => exact ⟨0, Nat.zero_le _, rfl, World.ownsRow_nil _ _ _ _, Below.refl _ _⟩
  case round =>
    obtain ⟨k, hk, rfl, hown, hbel⟩ := hrel
    by_cases hlt : k < m + 1
    · have dlt : decide ((k : Int) < 1 + (m : Int)) = true := by simp; omega
      have hsz := hbel.size
      go_wp2_with (at_builtin; refine wpList_append_lies _ rfl _ _ _ rfl w1.heap.size 35 i0 (.int .u64 0) 1 8 Try.underlying22 hi hz0 hz1 hz2 rfl (by omega) _ k ((List.replicate k x).map (Value.int .u64)) rfl (hown.alloc _) ⟨wr.heap.size, 0, none⟩ 1 1 [.int .u64 x] rfl rfl ?c1 ?c2 (by omega) ?c3 ?c4 ?c5 (wr.heap.size + 1) (by simp) ?_)
      case c1 => exact cell_one_new _ _ _
      case c2 => intro u hu; simp at hu; subst hu; rfl
      case c3 => unfold maxLen; omega
      case c4 => omega
      case c5 => simp; omega
      intro g cap1 w2 hown2 hgrow hat hg1
      have hb2 : Hid (Below w1.heap.size w1 w2) := (hbel.alloc hbel.size _).grown hgrow (by simp; omega) (fun q hq => (hown.lt q hq).1)
      have OWN2 : Hid (w2.ownsRow w1.heap.size 35 1 (.slice (some ⟨g, 0, none⟩) (k + 1) cap1) (k + 1) ((List.replicate (k + 1) x).map (Value.int .u64))) := by
        simp only [Hid]
        rw [List.replicate_succ', List.map_append]; simpa using hown2
      clear hown hown2 hgrow hat hbel
      go_wp2
      go_roundw
      case rel => exact ⟨k + 1, by omega, by simp, OWN2.out, hb2.out⟩
      case measure => simp [intOf]; omega
    · obtain rfl : k = m + 1 := by omega
      have dlt : decide (((m + 1 : Nat) : Int) < 1 + (m : Int)) = false := by simp; omega
      have own' : wr.ownsRow w1.heap.size 35 1 u6 (List.replicate (m + 1) x).length ((List.replicate (m + 1) x).map (Value.int .u64)) := by rw [List.length_replicate]; exact hown
      have PA := pack_bs u6 (List.replicate (m + 1) x) wr (Bs.of_own own') (fun y hy => by rw [List.eq_of_mem_replicate hy]; exact ⟨x0, x1⟩) (by rw [List.length_replicate]; omega)
      rw [pk_rep] at PA
      have PA := hideIt PA
      have OW := hideIt (O1.out.same (only_of_below hbel))
      obtain ⟨f6, c6, e6⟩ := (Bs.of_own own').len
      rw [List.length_replicate] at e6
      subst e6
      clear hown hbel own'
      go_wp2_with fail
      refine PA.out.mono ?_
      rintro e w2 ⟨v2, rfl, own2, on2⟩
      have O2 := hideIt (OW.out.same on2)
      have RS := rsize_any x w2 x0 x1
      have HG10 := hideIt (gs_le10 (v := x.toNat) (by omega))
      obtain ⟨g, cp, e2, _⟩ := own2.form (by rw [List.length_append]; simp)
      subst e2
      have hln : (gs x.toNat ++ [(0 : Int)]).length = (gs x.toNat).length + 1 := by simp
      have cl : w2.cell? ⟨g, (gs x.toNat).length, none⟩ = some (.int .u8 0) := by
        rw [own2.cellAt _ (by rw [hln]; omega)]; simp
      rw [hln]
      obtain ⟨L, hL⟩ : ∃ L, L = (gs x.toNat).length := ⟨_, rfl⟩
      rw [← hL] at RS HG10 cl ⊢
      have RS := hideIt RS
      have HCL := hideIt cl
      have hL10 := HG10.out
      have z0 : (((L + 1 : Nat) : Int) == (L : Int) + 1) = true := by simp
      clear PA own2 on2 hln hL cl
      go_wp2_with fail
      refine RS.out.mono ?_
      rintro e w3 ⟨rfl, on3⟩
      have cl := (on3.low (Nat.le_refl _)).cell (p := ⟨g, L, none⟩) (World.block_lt_of_cell? w2 _ HCL.out)
      rw [HCL.out] at cl
      have O3 := hideIt (O2.out.same on3)
      clear RS on3 HCL
      go_wp2
      go_ret
      exact ⟨rfl, O3.out⟩
end Go.Proofs.Ytfokchgihookgaa
