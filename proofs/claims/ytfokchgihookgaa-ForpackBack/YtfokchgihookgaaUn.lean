/- Package forpack's Unpack. -/
import Derived.Test.YtfokchgihookgaaRe
import Derived.Test.YtfokchgihookgaaEq
namespace Go.Proofs.Ytfokchgihookgaa
open Go.RowKit

theorem freads_bs {w : World} {R : Nat} {v : Value} {ys : List Int} (h : CurAt 82 w R v ys) (n : Nat) (hn : n ≤ 65536) :
    Calls Try.prog 26 #[.pointer (some ⟨R, 0, none⟩), .int .i64 n] w fun e w' => ∃ v', e = .returned (.tuple #[v', .int .i64 (rdl ys n).1]) ∧ w'.ownsRow w.heap.size 35 1 v' (rdl ys n).2.length ((rdl ys n).2.map (Value.int .u64)) ∧ Only (fun k => k = R) w w' := by
  rcases parse ys h.rng with ⟨c, hr, hc⟩ | ⟨a, ha, rfl⟩ | ⟨a, y, r, ha, rfl⟩
  · rw [rdl_err n hr (by omega)]
    exact (read_err h n hr hc).mono fun e w' ⟨h1, h2⟩ => ⟨_, h1, World.ownsRow_nil _ _ _ _, h2⟩
  · rw [rdl_none a n ha]
    exact (read_none h n ha).mono fun e w' ⟨h1, h2⟩ => ⟨_, h1, World.ownsRow_nil _ _ _ _, h2⟩
  · exact read_at h ha hn

set_option maxHeartbeats 400000 in
set_option maxRecDepth 100000 in
theorem unpack_arg (v : Value) (n : Int) (w : World) (h : n < 0 ∨ 65536 < n) :
    Calls Try.prog 13 #[v, .int .i64 n] w fun e w' => e = .returned (.tuple #[.slice none 0 0, .int .i64 1]) ∧ w = w' := by
  by_cases h0 : n < 0
  · have d0 : decide (n < 0) = true := decide_eq_true h0
    clear h
    go_enter Try.func13, Try.ntmps13
    go_wp2
    go_ret2
    exact ⟨rfl, rfl⟩
  · have h8 : 65536 < n := by omega
    have d0 : decide (n < 0) = false := decide_eq_false h0
    have d1 : decide (65536 < n) = true := decide_eq_true h8
    clear h
    go_enter Try.func13, Try.ntmps13
    go_wp2
    go_ret2
    exact ⟨rfl, rfl⟩

set_option maxHeartbeats 1000000 in
set_option maxRecDepth 100000 in
theorem unpack_nat (v : Value) (ys : List Int) (n : Nat) (w : World) (h : Bs .u8 w v ys) (hr : ∀ y ∈ ys, 0 ≤ y ∧ y ≤ 255) (hl : ys.length ≤ 1000000000000) (hn : n ≤ 65536) :
    Calls Try.prog 13 #[v, .int .i64 n] w fun e w' => ∃ v', e = .returned (.tuple #[v', .int .i64 (UN ys n).1]) ∧ w'.ownsRow w.heap.size 35 1 v' (UN ys n).2.length ((UN ys n).2.map (Value.int .u64)) ∧ Only (fun _ => False) w w' := by
  have A := hideIt (new_bs v ys w h hr hl)
  have HB := hideIt h
  have HR := hideIt hr
  obtain ⟨ao, cap, rfl⟩ := h.len
  have d0 : decide ((n : Int) < 0) = false := by simp
  have d1 : decide (65536 < (n : Int)) = false := decide_eq_false (by omega)
  obtain ⟨m, hm⟩ : ∃ m, m = ys.length := ⟨_, rfl⟩
  rw [← hm] at A HB ⊢
  clear h hr hl hm
  have hun : UN ys n = if (rdl ys n).1 ≠ 0 then ((rdl ys n).1, []) else if PK (rdl ys n).2 = ys then (0, (rdl ys n).2) else (3, []) := by
    unfold UN; rw [if_neg (by omega), Int.toNat_natCast]
  have HRU := rdl_u64 ys n
  have HRL : (rdl ys n).1 = 0 → (rdl ys n).2.length = n := fun h0 => rdl_len (b := ys) (n := n) (l := (rdl ys n).2) (by rw [← h0])
  have FR : Hid (∀ (w : World) (R : Nat) (v : Value), CurAt 82 w R v ys → Calls Try.prog 26 #[.pointer (some ⟨R, 0, none⟩), .int .i64 n] w fun e w' => ∃ v', e = .returned (.tuple #[v', .int .i64 (rdl ys n).1]) ∧ w'.ownsRow w.heap.size 35 1 v' (rdl ys n).2.length ((rdl ys n).2.map (Value.int .u64)) ∧ Only (fun k => k = R) w w') :=
    fun w R v h => freads_bs h n hn
  rw [hun]
  clear hun
  generalize rdl ys n = p at *
  obtain ⟨c, l⟩ := p
  simp only at HRU HRL FR ⊢
  by_cases he : c ≠ 0
  · rw [if_pos he]
    have d2 : (c != 0) = true := by simpa using he
    clear HRL he
    go_enter Try.func13, Try.ntmps13
    go_wp2_with fail
    refine A.out.mono ?_
    rintro e w1 ⟨R, v1, rfl, c1, o1, g1, g2, g3⟩
    have B := hideIt (FR.out w1 R v1 c1)
    have O1 := hideIt o1
    have G1 := hideIt g1
    clear A c1 o1 g1 g2 g3
    go_wp2_with fail
    refine B.out.mono ?_
    rintro e w2 ⟨v2, rfl, own2, o2⟩
    have O2 := hideIt (O1.out.trans o2 (fun i hi e => by have := G1.out; omega))
    obtain ⟨a2, c2, e2⟩ := (Bs.of_own own2).len
    subst e2
    clear B own2 o2
    go_wp2
    go_ret2
    exact ⟨_, rfl, World.ownsRow_nil _ _ _ _, O2.out⟩
  · obtain rfl : c = 0 := Decidable.of_not_not he
    rw [if_neg he]
    have hlen := hideIt (HRL rfl)
    clear he HRL
    by_cases hs : PK l = ys
    · rw [if_pos hs]
      have HS := hideIt hs
      clear hs
      go_enter Try.func13, Try.ntmps13
      go_wp2_with fail
      refine A.out.mono ?_
      rintro e w1 ⟨R, v1, rfl, c1, o1, g1, g2, g3⟩
      have B := hideIt (FR.out w1 R v1 c1)
      have O1 := hideIt o1
      have G1 := hideIt g1
      clear A c1 o1 g1 g2 g3
      go_wp2_with fail
      refine B.out.mono ?_
      rintro e w2 ⟨v2, rfl, own2, o2⟩
      have O2 := hideIt (O1.out.trans o2 (fun i hi e => by have := G1.out; omega))
      have C := hideIt (pack_bs v2 l w2 (Bs.of_own own2) HRU (by have := hlen.out; omega))
      have OWN2 := hideIt own2
      have S1 := hideIt O1.out.size
      obtain ⟨a2, c2, e2⟩ := (Bs.of_own own2).len
      subst e2
      clear B own2 o2
      go_wp2_with fail
      refine C.out.mono ?_
      rintro e w3 ⟨v3, rfl, own3, o3⟩
      have O3 := hideIt (O2.out.trans o3 (fun _ _ f => f))
      have D := equal_bs v3 (.slice ao m cap) (PK l) ys w3 (Bs.of_own own3) (HB.out.keep O3.out (fun _ _ f => f)) (PK_rng HRU) HR.out
      rw [decide_eq_true HS.out] at D
      have D := hideIt D
      have OWN3 := hideIt (o3.own OWN2.out (fun _ _ f => f))
      obtain ⟨a3, c3, e3⟩ := (Bs.of_own own3).len
      subst e3
      clear C own3 o3
      go_wp2_with fail
      refine D.out.mono ?_
      rintro e w4 ⟨rfl, rfl⟩
      clear D
      go_wp2
      go_ret2
      exact ⟨_, rfl, own_low OWN3.out S1.out, O3.out⟩
    · rw [if_neg hs]
      have HS := hideIt hs
      clear hs
      go_enter Try.func13, Try.ntmps13
      go_wp2_with fail
      refine A.out.mono ?_
      rintro e w1 ⟨R, v1, rfl, c1, o1, g1, g2, g3⟩
      have B := hideIt (FR.out w1 R v1 c1)
      have O1 := hideIt o1
      have G1 := hideIt g1
      clear A c1 o1 g1 g2 g3
      go_wp2_with fail
      refine B.out.mono ?_
      rintro e w2 ⟨v2, rfl, own2, o2⟩
      have O2 := hideIt (O1.out.trans o2 (fun i hi e => by have := G1.out; omega))
      have C := hideIt (pack_bs v2 l w2 (Bs.of_own own2) HRU (by have := hlen.out; omega))
      have OWN2 := hideIt own2
      have S1 := hideIt O1.out.size
      obtain ⟨a2, c2, e2⟩ := (Bs.of_own own2).len
      subst e2
      clear B own2 o2
      go_wp2_with fail
      refine C.out.mono ?_
      rintro e w3 ⟨v3, rfl, own3, o3⟩
      have O3 := hideIt (O2.out.trans o3 (fun _ _ f => f))
      have D := equal_bs v3 (.slice ao m cap) (PK l) ys w3 (Bs.of_own own3) (HB.out.keep O3.out (fun _ _ f => f)) (PK_rng HRU) HR.out
      rw [decide_eq_false HS.out] at D
      have D := hideIt D
      have OWN3 := hideIt (o3.own OWN2.out (fun _ _ f => f))
      obtain ⟨a3, c3, e3⟩ := (Bs.of_own own3).len
      subst e3
      clear C own3 o3
      go_wp2_with fail
      refine D.out.mono ?_
      rintro e w4 ⟨rfl, rfl⟩
      clear D
      go_wp2
      go_ret2
      exact ⟨_, rfl, World.ownsRow_nil _ _ _ _, O3.out⟩

theorem unpack_bs (v : Value) (ys : List Int) (n : Int) (w : World) (h : Bs .u8 w v ys) (hr : ∀ y ∈ ys, 0 ≤ y ∧ y ≤ 255) (hl : ys.length ≤ 1000000000000) :
    Calls Try.prog 13 #[v, .int .i64 n] w fun e w' => ∃ v', e = .returned (.tuple #[v', .int .i64 (UN ys n).1]) ∧ w'.ownsRow w.heap.size 35 1 v' (UN ys n).2.length ((UN ys n).2.map (Value.int .u64)) ∧ Only (fun _ => False) w w' := by
  by_cases hn : n < 0 ∨ 65536 < n
  · have e : UN ys n = (1, []) := by unfold UN; rw [if_pos hn]
    rw [e]
    exact (unpack_arg v n w hn).mono fun e w' ⟨h1, h2⟩ => ⟨_, h1, World.ownsRow_nil _ _ _ _, by rw [← h2]; exact Only.refl _ _⟩
  · obtain ⟨m, rfl⟩ := Int.eq_ofNat_of_zero_le (show 0 ≤ n by omega)
    exact unpack_nat v ys m w h hr hl (by omega)
end Go.Proofs.Ytfokchgihookgaa
