/- The walk of the statement on a list that is cut off: some numbers. -/
import Derived.Test.YtlfioabaingfbaaFirstW
namespace Go.Proofs.Ytlfioabaingfbaa
open Go.RowKit

set_option maxHeartbeats 1600000 in
set_option maxRecDepth 100000 in
theorem first_pos (v : Value) (xs : List Int) (m : Nat) (q : Int) (c : Nat) (w : World) (hm : m ≤ 3) (hlow : bits .and .i64 q 1023 = (c : Int)) (hb : Bs .i64 w v xs) (hg : ∀ x ∈ xs, G64 x) (hlong : xs.length ≤ 1000) (hcn : c ≤ xs.length) (hx : ¬ xs.length = 0) :
    Calls Try.prog 6 #[v, .int .i64 m, .int .i64 q] w fun e w' => e = .returned (.bool true) ∧ Only (fun _ => False) w w' := by
  have AW := hideIt (awake_any w)
  have h1 : decide ((1000 : Int) < xs.length) = false := decide_eq_false (by omega)
  have t1 : decide ((m : Int) < 0) = false := decide_eq_false (by omega)
  have t2 : decide (3 < (m : Int)) = false := decide_eq_false (by omega)
  have HL : Hid (xs.length ≤ 1000000) := (by omega : xs.length ≤ 1000000)
  have HLC : Hid ((xs.take c).length ≤ 1000000) := by rw [List.length_take]; exact (by omega : min c xs.length ≤ 1000000)
  have HLD : Hid ((D m xs).length = xs.length) := D_length m xs
  have HLS : Hid ((S m xs).length = xs.length) := S_length m xs
  have HFD := hideIt (D_first m xs hg)
  have HFS := hideIt (S_first m xs hg)
  have HB := hideIt hb
  obtain ⟨bl, off, cap, hv, hcap, hcl⟩ := hb.begin (by omega)
  have HCL := hideIt hcl
  obtain ⟨n, hn⟩ : ∃ n, n = xs.length := ⟨_, rfl⟩
  rw [← hn] at hv h1 hlong hcn hcap HLD HLS hx
  obtain ⟨ao, hao⟩ : ∃ ao : Option Addr, ao = some ⟨bl, off, none⟩ := ⟨_, rfl⟩
  rw [← hao] at hv
  subst hv
  have HAO := hideIt hao
  have tc : decide ((n : Int) < (c : Int)) = false := decide_eq_false (by omega)
  have tz : ((n : Int) == 0) = false := by rw [beq_eq_false_iff_ne]; omega
  have tn : ((n : Int) != (n : Int)) = false := by simp
  have s1 : (0 : Int) ≤ (c : Int) := by omega
  have s2 : (c : Int) ≤ (cap : Int) := by omega
  have s0 : (0 : Int) < (n : Int) := by omega
  obtain ⟨x, hxx⟩ : ∃ x, x = xs.getD 0 0 := ⟨_, rfl⟩
  rw [← hxx] at HCL HFD HFS
  clear hb hg hn hcl hxx hao
  go_enter Try.func6, Try.ntmps6
  go_wp2_with fail
  refine AW.out.mono ?_
  rintro e w1 ⟨rfl, on1⟩
  have A := hideIt (diff_bs (.slice ao n cap) xs m w1 (HB.out.past on1) HL.out hm)
  have O1 := hideIt on1
  clear on1 AW
  go_wp2_with fail
  refine A.out.mono ?_
  rintro e w2 ⟨v2, rfl, b2, _, on2⟩
  have O2 := hideIt (O1.out.same on2)
  have B2 := hideIt b2
  have A3 := hideIt (diff_bs (.slice ao c cap) (xs.take c) m w2 ((HB.out.past O2.out).head hcn) HLC.out hm)
  clear on2 b2 A
  go_wp2_with fail
  refine A3.out.mono ?_
  rintro e w3 ⟨v3, rfl, b3, _, on3⟩
  have O3 := hideIt (O2.out.same on3)
  have B3 := hideIt (And.intro (B2.out.past on3) b3)
  have A4 := hideIt (sum_bs (.slice ao n cap) xs m w3 (HB.out.past O3.out) HL.out hm)
  clear on3 b3 A3 B2
  go_wp2_with fail
  refine A4.out.mono ?_
  rintro e w4 ⟨v4, rfl, b4, _, on4⟩
  have O4 := hideIt (O3.out.same on4)
  have B4 := hideIt (And.intro (B3.out.1.past on4) (And.intro (B3.out.2.past on4) b4))
  have A5 := hideIt (sum_bs (.slice ao c cap) (xs.take c) m w4 ((HB.out.past O4.out).head hcn) HLC.out hm)
  clear on4 b4 A4 B3
  go_wp2_with fail
  refine A5.out.mono ?_
  rintro e w5 ⟨v5, rfl, b5, _, on5⟩
  have O5 := hideIt (O4.out.same on5)
  have ba := B4.out.1.past on5
  have bb := B4.out.2.1.past on5
  have bd := B4.out.2.2.past on5
  rw [← D_take] at bb
  rw [← S_take] at b5
  clear on5 A5 B4
  obtain ⟨b2, off2, cap2, hv2, hcap2, hca⟩ := ba.begin (by rw [HLD.out]; omega)
  obtain ⟨b4, off4, cap4, hv4, hcap4, hcd⟩ := bd.begin (by rw [HLS.out]; omega)
  rw [HFD.out] at hca
  rw [HFS.out] at hcd
  rw [HLD.out] at hv2 hcap2
  rw [HLS.out] at hv4 hcap4
  subst hv2 hv4
  have e1 := HAO.out
  subst e1
  have hcl : w5.cell? ⟨bl, off, none⟩ = some (.int .i64 x) := by
    rw [World.cell?_of_block (O5.out.block bl (World.block_lt_of_cell? w _ HCL.out) (fun f => f))]; exact HCL.out
  have s3 : (c : Int) ≤ (cap2 : Int) := by omega
  have s4 : (c : Int) ≤ (cap4 : Int) := by omega
  have SA := hideIt (And.intro (ba.head hcn) bb)
  have SB := hideIt (And.intro (bd.head hcn) b5)
  have HLT : Hid (((D m xs).take c).length ≤ 140737488355328 ∧ ((S m xs).take c).length ≤ 140737488355328) := ⟨by rw [List.length_take]; omega, by rw [List.length_take]; omega⟩
  have tx : (x == x) = true := by simp
  clear ba bb bd b5 HAO HB O1 O2 O3 O4 HCL
  go_wp2
  go_quiet (first | (go_at_call 13; exact Calls.quiet_of (lsame4_q (.slice (some ⟨b2, off2, none⟩) c cap2) v3 ((D m xs).take c) _ (SA.out.1.past ((Only.refl _ _).drewN _)) (SA.out.2.past ((Only.refl _ _).drewN _)) HLT.out.1)) | (go_at_call 13; exact Calls.quiet_of (lsame4_q (.slice (some ⟨b4, off4, none⟩) c cap4) v5 ((S m xs).take c) _ (SB.out.1.past ((Only.refl _ _).drewN _)) (SB.out.2.past ((Only.refl _ _).drewN _)) HLT.out.2)))
  go_wp2
  go_ret
  exact ⟨rfl, O5.out.drewN nq⟩
end Go.Proofs.Ytlfioabaingfbaa
