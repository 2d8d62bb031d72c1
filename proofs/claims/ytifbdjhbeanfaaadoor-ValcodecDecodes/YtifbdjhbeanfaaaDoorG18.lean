/- Several texts in one: Rd11b. -/
import Derived.Test.YtifbdjhbeanfaaaDoorG17
import Derived.Test.YtifbdjhbeanfaaaDoorG11
import Derived.Deep.RegionHeld3

/- The document's answer for layer 11: read of any tag; Decode. -/
namespace Go.Proofs.YtifbdjhbeanfaaaDoor
open Go.RowKit

theorem addr_add (b off k : Nat) : (⟨b, off, none⟩ : Addr).add k = ⟨b, off + k, none⟩ := by unfold Addr.add; split <;> simp_all
set_option maxHeartbeats 800000 in
set_option maxRecDepth 100000 in
theorem rvread_2 (v : Value) (ys : List Int) (n : Nat) (w : World) (h : Bs .u8 w v ys) (nc : NoCap v) (hr : ∀ y ∈ ys, 0 ≤ y ∧ y ≤ 255) (hl : ys.length ≤ 1000) (hn : n ≤ 10000) :
    Calls Tryd.prog 32 #[v, .int .i64 n, .int .i64 2] w fun e w' => ∃ u, e = .returned (.tuple #[u, .int .i64 (DEC10 ys n).2]) ∧ w'.ownsRow w.heap.size 38 1 u (DEC10 ys n).1.length ((DEC10 ys n).1.map (Value.int .u64)) ∧ Only (fun _ => False) w w' := by
  have B := hideIt (rdecode10_all v ys n w h nc hr hl (.inl (by omega)))
  obtain ⟨ao, cap, rfl⟩ := h.len
  generalize DEC10 ys n = X at *
  obtain ⟨X1, X2⟩ := X
  simp only at B ⊢
  clear h nc hr hl hn
  go_enter Tryd.func32, Tryd.ntmps32
  go_wp2_with fail
  refine B.out.mono ?_
  rintro e w2 ⟨u, rfl, own2, o2⟩
  have F := hideIt (And.intro own2 o2)
  clear B own2 o2
  go_wp2
  go_ret2
  exact ⟨u, rfl, F.out.1, F.out.2⟩
set_option maxHeartbeats 800000 in
set_option maxRecDepth 100000 in
theorem rvread_3 (v : Value) (ys : List Int) (n : Nat) (w : World) (h : Bs .u8 w v ys) (hr : ∀ y ∈ ys, 0 ≤ y ∧ y ≤ 255) (hl : ys.length ≤ 1000) :
    Calls Tryd.prog 32 #[v, .int .i64 n, .int .i64 3] w fun e w' => ∃ u, e = .returned (.tuple #[u, .int .i64 (DEC9 ys n).2]) ∧ w'.ownsRow w.heap.size 38 1 u (DEC9 ys n).1.length ((DEC9 ys n).1.map (Value.int .u64)) ∧ Only (fun _ => False) w w' := by
  have B := hideIt (rdecode9_all v ys n w h hr hl)
  obtain ⟨ao, cap, rfl⟩ := h.len
  generalize DEC9 ys n = X at *
  obtain ⟨X1, X2⟩ := X
  simp only at B ⊢
  clear h hr hl
  go_enter Tryd.func32, Tryd.ntmps32
  go_wp2_with fail
  refine B.out.mono ?_
  rintro e w2 ⟨u, rfl, own2, o2⟩
  have F := hideIt (And.intro own2 o2)
  clear B own2 o2
  go_wp2
  go_ret2
  exact ⟨u, rfl, F.out.1, F.out.2⟩
/-- WHAT A WAY's BYTES ARE, by definition. -/
theorem rvread_any (v : Value) (ys : List Int) (n t : Nat) (w : World) (h : Bs .u8 w v ys) (nc : NoCap v) (hr : ∀ y ∈ ys, 0 ≤ y ∧ y ≤ 255) (hl : ys.length ≤ 1000) (hn : n ≤ 10000) (ht : t ≤ 3) :
    Calls Tryd.prog 32 #[v, .int .i64 n, .int .i64 t] w fun e w' => ∃ u, e = .returned (.tuple #[u, .int .i64 (R11 ys n t).2]) ∧ w'.ownsRow w.heap.size 38 1 u (R11 ys n t).1.length ((R11 ys n t).1.map (Value.int .u64)) ∧ Only (fun _ => False) w w' := by
  rcases tag_cases ht with rfl | rfl | rfl | rfl
  · exact rvread_0 v ys n w h nc hr (by omega) (by omega)
  · exact rvread_1 v ys n w h nc hr (by omega) (by omega)
  · exact rvread_2 v ys n w h nc hr hl hn
  · exact rvread_3 v ys n w h hr hl

set_option maxHeartbeats 400000 in
set_option maxRecDepth 100000 in
theorem rdecode11_arg (v : Value) (n : Int) (w : World) (h : n < 0 ∨ 65536 < n) : Calls Tryd.prog 16 #[v, .int .i64 n] w fun e w' => e = .returned (.tuple #[.slice none 0 0, .int .i64 1]) ∧ w = w' := by
  by_cases h0 : n < 0
  · have d0 : decide (n < 0) = true := decide_eq_true h0
    clear h h0
    go_enter Tryd.func16, Tryd.ntmps16
    go_wp2
    go_ret2
    exact ⟨rfl, rfl⟩
  · have d0 : decide (n < 0) = false := decide_eq_false h0
    have d1 : decide (65536 < n) = true := decide_eq_true (by omega)
    clear h h0
    go_enter Tryd.func16, Tryd.ntmps16
    go_wp2
    go_ret2
    exact ⟨rfl, rfl⟩
set_option maxHeartbeats 400000 in
set_option maxRecDepth 100000 in
theorem rdecode11_none (v : Value) (n : Nat) (w : World) (h : Bs .u8 w v []) (hn : n ≤ 65536) : Calls Tryd.prog 16 #[v, .int .i64 n] w fun e w' => e = .returned (.tuple #[.slice none 0 0, .int .i64 2]) ∧ w = w' := by
  have d0 : decide ((n : Int) < 0) = false := by simp
  have d1 : decide (65536 < (n : Int)) = false := by simp; omega
  obtain ⟨ao, cap, rfl⟩ := h.len
  clear h hn
  go_enter Tryd.func16, Tryd.ntmps16
  go_wp2
  go_ret2
  exact ⟨rfl, rfl⟩
set_option maxHeartbeats 400000 in
set_option maxRecDepth 100000 in
theorem rdecode11_tag (v : Value) (b : List Int) (n : Nat) (w : World) (h : Bs .u8 w v b) (hn : n ≤ 65536) (hne : b ≠ []) (h3 : 3 < b.getD 0 0) : Calls Tryd.prog 16 #[v, .int .i64 n] w fun e w' => e = .returned (.tuple #[.slice none 0 0, .int .i64 3]) ∧ w = w' := by
  have d0 : decide ((n : Int) < 0) = false := by simp
  have d1 : decide (65536 < (n : Int)) = false := by simp; omega
  have hp := List.length_pos_iff.2 hne
  obtain ⟨bb, off, cap, rfl, cell0⟩ := h.at 0 hp
  rw [Nat.add_zero] at cell0
  generalize b.getD 0 0 = x at *
  have d3 : decide (3 < x) = true := decide_eq_true h3
  have d4 : ((b.length : Int) == 0) = false := by rw [beq_eq_false_iff_ne]; omega
  have hN : (0 : Int) < (b.length : Int) := by omega
  generalize b.length = N at *
  clear h hn h3 hne
  go_enter Tryd.func16, Tryd.ntmps16
  go_wp2
  go_ret2
  exact ⟨rfl, rfl⟩
set_option maxHeartbeats 3200000 in
set_option maxRecDepth 100000 in
theorem rdecode11_bs (v : Value) (b : List Int) (n : Nat) (w : World) (h : Bs .u8 w v b) (hr : ∀ y ∈ b, 0 ≤ y ∧ y ≤ 255) (hl : b.length ≤ 1000) (hn : n ≤ 10000) (hne : b ≠ []) (h3 : b.getD 0 0 ≤ 3) :
    Calls Tryd.prog 16 #[v, .int .i64 n] w fun e w' => ∃ u, e = .returned (.tuple #[u, .int .i64 (DEC11 b n).2]) ∧ w'.ownsRow w.heap.size 38 1 u (DEC11 b n).1.length ((DEC11 b n).1.map (Value.int .u64)) ∧ Only (fun _ => False) w w' := by
  obtain ⟨D, hD⟩ : ∃ D, D = DEC11 b n := ⟨_, rfl⟩
  rw [← hD]
  unfold DEC11 at hD
  rw [if_neg (by omega), if_neg hne, if_neg (by omega), Int.toNat_natCast] at hD
  have d0 : decide ((n : Int) < 0) = false := by simp
  have d1 : decide (65536 < (n : Int)) = false := by simp; omega
  have hp := List.length_pos_iff.2 hne
  have HB := hideIt h
  obtain ⟨bb, off, cap, ev, cell0⟩ := h.at 0 hp
  subst ev
  rw [Nat.add_zero] at cell0
  have hb0 := (hr _ (head_mem hne)).1
  obtain ⟨t, ht⟩ : ∃ t, t = (b.getD 0 0).toNat := ⟨_, rfl⟩
  have hx : b.getD 0 0 = (t : Int) := by omega
  rw [← ht] at hD
  rw [hx] at cell0
  have ht3 : t ≤ 3 := by omega
  have d3 : decide (3 < (t : Int)) = false := decide_eq_false (by omega)
  have d3' : decide (3 < t) = false := decide_eq_false (by omega)
  have t255 : (t : Int) ≤ 255 := by omega
  have hwt : IntKind.i64.wrap (t : Int) = (t : Int) := by rw [IntKind.wrap_i64]; omega
  obtain ⟨r, hrr⟩ : ∃ r, r = b.drop 1 := ⟨_, rfl⟩
  rw [← hrr] at hD
  have hrng : ∀ y ∈ r, 0 ≤ y ∧ y ≤ 255 := fun y hy => hr y (List.mem_of_mem_drop (by rw [← hrr]; exact hy))
  have hrl : r.length + 1 = b.length := by rw [hrr, List.length_drop]; omega
  have hcapN : b.length ≤ cap := by
    obtain ⟨ao', cap', e2, hc, _⟩ := h
    simp at e2
    omega
  have HRT1 : Hid (cap = 1 → Bs .u8 w (.slice (some ⟨bb, off, none⟩) 0 0) r) := fun hc => by
    have e1 : b.length = 1 := by omega
    have := h
    rw [hc, e1] at this
    have := this.cut0 (n := 1) (by omega)
    rw [hrr]
    simpa using this
  have HRT2 : Hid (Bs .u8 w (.slice (some ⟨bb, off + 1, none⟩) (b.length - 1) (cap - 1)) r) := by
    simp only [Hid]
    have := h.cut (n := 1) (by omega)
    rw [hrr]
    simpa [addr_add] using this
  have RA : Hid (∀ u : Value, Bs .u8 w u r → NoCap u → Calls Tryd.prog 32 #[u, .int .i64 n, .int .i64 t] w.drew fun e w' => ∃ u, e = .returned (.tuple #[u, .int .i64 (R11 r n t).2]) ∧ w'.ownsRow w.heap.size 38 1 u (R11 r n t).1.length ((R11 r n t).1.map (Value.int .u64)) ∧ Only (fun _ => False) w w') :=
    fun u hu hc => (rvread_any u r n t w.drew (hu.past (Only.refl (fun _ => False) w).drew) hc hrng (by omega) hn ht3).mono fun e w' ⟨z, h1, h2, h3⟩ => ⟨z, h1, h2, (Only.refl (fun _ => False) w).drew.same h3⟩
  have CK : Hid (∀ W, Only (fun _ => False) w W → W.cell? ⟨bb, off, none⟩ = some (Value.int .u8 t)) := fun W o => by
    rw [← cell0]; exact World.cell?_of_block (o.block bb (World.block_lt_of_cell? w _ cell0) (fun f => f))
  have HOK : Hid ((R11 r n t).2 = 0 → U64 (R11 r n t).1 ∧ (R11 r n t).1.length = n) := fun h0 => R11_ok hrng h0
  have HRR := hideIt hr
  have HD := hideIt hD
  have HL := hideIt hl
  obtain ⟨N, hN⟩ : ∃ N, N = b.length := ⟨_, rfl⟩
  rw [← hN] at HB HRT2 hcapN hp
  rw [← hN]
  have d4 : ((N : Int) == 0) = false := by rw [beq_eq_false_iff_ne]; omega
  have j0 : (1 : Int) ≤ (N : Int) := by omega
  have j1 : (1 : Int) ≤ (cap : Int) := by omega
  have j2 : (0 : Int) < (N : Int) := by omega
  generalize R11 r n t = R at *
  obtain ⟨l, c⟩ := R
  simp only at RA HOK HD
  clear h hr hl hD hx ht hb0 h3 hne hrr hrng hrl hN
  by_cases hcc : cap = 1
  · subst hcc
    obtain rfl : N = 1 := by omega
    have RD := hideIt (RA.out _ (HRT1.out rfl) (NoCap.some _ _ _))
    clear RA HRT1 HRT2
    by_cases hc : c = 0
    · subst hc
      obtain ⟨hu, hln⟩ := HOK.out rfl
      have HU := hideIt hu
      have HLN := hideIt hln
      have HD2 : Hid (D = if (ENC11 l).1 = b then (l, 0) else ([], 3)) := by simp only [Hid]; rw [HD.out, if_neg (by simp)]
      have EN := hideIt (fun (u : Value) (w2 : World) (hb : Bs .u64 w2 u l) => rencode11_all u l w2 hb hu (.inl (by omega)))
      have ELN : Hid ((ENC11 l).1.length ≤ 140737488355328) := by have := (ENC11_len (l := l) (by omega)).1; simp only [Hid]; omega
      have HER := hideIt (ENC11_rng l)
      clear hu hln HD HOK
      generalize (ENC11 l).2 = EC at *
      generalize (ENC11 l).1 = E at *
      go_enter Tryd.func16, Tryd.ntmps16
      go_wp2_with fail
      go_region_held3 (fun W => W.cell? ⟨bb, off, none⟩ = some (Value.int .u8 t)) (go_keep) (first | (go_at_call 32; refine RD.out.mono ?_; rintro e w2 ⟨u2, rfl, own2, o2⟩; have hc2 := CK.out w2 o2))
      have B2 := hideIt (Bs.of_own own2)
      have OW2 := hideIt own2
      have O2 := hideIt o2
      have EN2 := hideIt (EN.out u2 w2 B2.out)
      obtain ⟨a6, c6, e6⟩ := B2.out.len
      subst e6
      obtain ⟨q, hq⟩ : ∃ q, q = l.length := ⟨_, rfl⟩
      rw [← hq] at EN2 ⊢
      have HQ := hideIt hq
      clear RD own2 o2 EN hq
      go_wp2_with fail
      refine EN2.out.mono ?_
      rintro e w3 ⟨v3, rfl, own3, o3⟩
      have O3 := hideIt (O2.out.same o3)
      have OW3 := hideIt (o3.own OW2.out (fun _ _ f => f))
      have SM := hideIt (same_any v3 _ E b w3 (Bs.of_own own3) (HB.out.past O3.out) ELN.out)
      obtain ⟨a7, c7, e7⟩ := (Bs.of_own own3).len
      subst e7
      obtain ⟨q2, hq2⟩ : ∃ q2, q2 = E.length := ⟨_, rfl⟩
      rw [← hq2] at SM ⊢
      clear EN2 own3 o3 hq2
      by_cases he : E = b
      · rw [decide_eq_true he] at SM
        have hD := HD2.out
        rw [if_pos he] at hD
        have HD3 := hideIt hD
        clear he hD HD2
        go_wp2_with fail
        refine SM.out.mono ?_
        rintro e w4 ⟨rfl, o4⟩
        have O4 := hideIt (O3.out.same o4)
        have OW4 := hideIt (o4.own OW3.out (fun _ _ f => f))
        clear SM o4
        go_wp2
        go_ret2
        have hD := HD3.out
        subst hD
        exact ⟨_, rfl, by have := OW4.out; rw [HQ.out]; exact this, O4.out⟩
      · rw [decide_eq_false he] at SM
        have hD := HD2.out
        rw [if_neg he] at hD
        have HD3 := hideIt hD
        clear he hD HD2
        go_wp2_with fail
        refine SM.out.mono ?_
        rintro e w4 ⟨rfl, o4⟩
        have O4 := hideIt (O3.out.same o4)
        clear SM o4
        go_wp2
        go_ret2
        have hD := HD3.out
        subst hD
        exact ⟨_, rfl, World.ownsRow_nil _ _ _ _, O4.out⟩
    · have dc : (c != 0) = true := bne_iff_ne.2 hc
      have HD2 : Hid (D = ([], c)) := by simp only [Hid]; rw [HD.out, if_pos hc]
      clear HD HOK hc
      go_enter Tryd.func16, Tryd.ntmps16
      go_wp2_with fail
      go_region_held3 (fun W => W.cell? ⟨bb, off, none⟩ = some (Value.int .u8 t)) (go_keep) (first | (go_at_call 32; refine RD.out.mono ?_; rintro e w2 ⟨u2, rfl, own2, o2⟩; have hc2 := CK.out w2 o2))
      have O2 := hideIt o2
      obtain ⟨a6, c6, e6⟩ := (Bs.of_own own2).len
      subst e6
      clear RD own2 o2
      go_wp2
      go_ret2
      have hD := HD2.out
      subst hD
      exact ⟨_, rfl, World.ownsRow_nil _ _ _ _, O2.out⟩
  · have RD := hideIt (RA.out _ HRT2.out (NoCap.some _ _ _))
    clear RA HRT1 HRT2
    by_cases hc : c = 0
    · subst hc
      obtain ⟨hu, hln⟩ := HOK.out rfl
      have HU := hideIt hu
      have HLN := hideIt hln
      have HD2 : Hid (D = if (ENC11 l).1 = b then (l, 0) else ([], 3)) := by simp only [Hid]; rw [HD.out, if_neg (by simp)]
      have EN := hideIt (fun (u : Value) (w2 : World) (hb : Bs .u64 w2 u l) => rencode11_all u l w2 hb hu (.inl (by omega)))
      have ELN : Hid ((ENC11 l).1.length ≤ 140737488355328) := by have := (ENC11_len (l := l) (by omega)).1; simp only [Hid]; omega
      have HER := hideIt (ENC11_rng l)
      clear hu hln HD HOK
      generalize (ENC11 l).2 = EC at *
      generalize (ENC11 l).1 = E at *
      go_enter Tryd.func16, Tryd.ntmps16
      go_wp2_with fail
      go_region_held3 (fun W => W.cell? ⟨bb, off, none⟩ = some (Value.int .u8 t)) (go_keep) (first | (go_at_call 32; refine RD.out.mono ?_; rintro e w2 ⟨u2, rfl, own2, o2⟩; have hc2 := CK.out w2 o2))
      have B2 := hideIt (Bs.of_own own2)
      have OW2 := hideIt own2
      have O2 := hideIt o2
      have EN2 := hideIt (EN.out u2 w2 B2.out)
      obtain ⟨a6, c6, e6⟩ := B2.out.len
      subst e6
      obtain ⟨q, hq⟩ : ∃ q, q = l.length := ⟨_, rfl⟩
      rw [← hq] at EN2 ⊢
      have HQ := hideIt hq
      clear RD own2 o2 EN hq
      go_wp2_with fail
      refine EN2.out.mono ?_
      rintro e w3 ⟨v3, rfl, own3, o3⟩
      have O3 := hideIt (O2.out.same o3)
      have OW3 := hideIt (o3.own OW2.out (fun _ _ f => f))
      have SM := hideIt (same_any v3 _ E b w3 (Bs.of_own own3) (HB.out.past O3.out) ELN.out)
      obtain ⟨a7, c7, e7⟩ := (Bs.of_own own3).len
      subst e7
      obtain ⟨q2, hq2⟩ : ∃ q2, q2 = E.length := ⟨_, rfl⟩
      rw [← hq2] at SM ⊢
      clear EN2 own3 o3 hq2
      by_cases he : E = b
      · rw [decide_eq_true he] at SM
        have hD := HD2.out
        rw [if_pos he] at hD
        have HD3 := hideIt hD
        clear he hD HD2
        go_wp2_with fail
        refine SM.out.mono ?_
        rintro e w4 ⟨rfl, o4⟩
        have O4 := hideIt (O3.out.same o4)
        have OW4 := hideIt (o4.own OW3.out (fun _ _ f => f))
        clear SM o4
        go_wp2
        go_ret2
        have hD := HD3.out
        subst hD
        exact ⟨_, rfl, by have := OW4.out; rw [HQ.out]; exact this, O4.out⟩
      · rw [decide_eq_false he] at SM
        have hD := HD2.out
        rw [if_neg he] at hD
        have HD3 := hideIt hD
        clear he hD HD2
        go_wp2_with fail
        refine SM.out.mono ?_
        rintro e w4 ⟨rfl, o4⟩
        have O4 := hideIt (O3.out.same o4)
        clear SM o4
        go_wp2
        go_ret2
        have hD := HD3.out
        subst hD
        exact ⟨_, rfl, World.ownsRow_nil _ _ _ _, O4.out⟩
    · have dc : (c != 0) = true := bne_iff_ne.2 hc
      have HD2 : Hid (D = ([], c)) := by simp only [Hid]; rw [HD.out, if_pos hc]
      clear HD HOK hc
      go_enter Tryd.func16, Tryd.ntmps16
      go_wp2_with fail
      go_region_held3 (fun W => W.cell? ⟨bb, off, none⟩ = some (Value.int .u8 t)) (go_keep) (first | (go_at_call 32; refine RD.out.mono ?_; rintro e w2 ⟨u2, rfl, own2, o2⟩; have hc2 := CK.out w2 o2))
      have O2 := hideIt o2
      obtain ⟨a6, c6, e6⟩ := (Bs.of_own own2).len
      subst e6
      clear RD own2 o2
      go_wp2
      go_ret2
      have hD := HD2.out
      subst hD
      exact ⟨_, rfl, World.ownsRow_nil _ _ _ _, O2.out⟩
/-- WHICH PATTERNS BYTES ARE, by definition, whatever comes in. -/
theorem rdecode11_all (v : Value) (b : List Int) (n : Int) (w : World) (h : Bs .u8 w v b) (hr : ∀ y ∈ b, 0 ≤ y ∧ y ≤ 255) (hl : b.length ≤ 1000) (hn : n ≤ 10000 ∨ 65536 < n) :
    Calls Tryd.prog 16 #[v, .int .i64 n] w fun e w' => ∃ u, e = .returned (.tuple #[u, .int .i64 (DEC11 b n).2]) ∧ w'.ownsRow w.heap.size 38 1 u (DEC11 b n).1.length ((DEC11 b n).1.map (Value.int .u64)) ∧ Only (fun _ => False) w w' := by
  by_cases hg : n < 0 ∨ 65536 < n
  · have e : DEC11 b n = ([], 1) := if_pos hg
    rw [e]
    refine (rdecode11_arg v n w hg).mono ?_
    rintro e w' ⟨rfl, rfl⟩
    exact ⟨_, rfl, World.ownsRow_nil _ _ _ _, Only.refl _ _⟩
  · obtain ⟨N, rfl⟩ := Int.eq_ofNat_of_zero_le (show 0 ≤ n by omega)
    by_cases hne : b = []
    · subst hne
      have e : DEC11 [] N = ([], 2) := by unfold DEC11; rw [if_neg hg, if_pos rfl]
      rw [e]
      refine (rdecode11_none v N w h (by omega)).mono ?_
      rintro e w' ⟨rfl, rfl⟩
      exact ⟨_, rfl, World.ownsRow_nil _ _ _ _, Only.refl _ _⟩
    · by_cases h3 : 3 < b.getD 0 0
      · have e : DEC11 b N = ([], 3) := by unfold DEC11; rw [if_neg hg, if_neg hne, if_pos h3]
        rw [e]
        refine (rdecode11_tag v b N w h (by omega) hne h3).mono ?_
        rintro e w' ⟨rfl, rfl⟩
        exact ⟨_, rfl, World.ownsRow_nil _ _ _ _, Only.refl _ _⟩
      · exact rdecode11_bs v b N w h hr hl (by omega) hne (by omega)
end Go.Proofs.YtifbdjhbeanfaaaDoor
