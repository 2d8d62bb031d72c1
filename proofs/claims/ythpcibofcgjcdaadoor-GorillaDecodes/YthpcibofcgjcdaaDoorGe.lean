/- Package gorilla's Encode. -/
import Derived.Test.YthpcibofcgjcdaaDoorGw2
import Derived.Laws.Bits64
namespace Go.Proofs.YthpcibofcgjcdaaDoor
open Go.RowKit

/-! the window and the last pattern behind a list -/
def gW : Nat → Option (Nat × Nat) → List Int → Option (Nat × Nat)
  | _, wn, [] => wn
  | p, wn, y :: t => gW y.toNat (gx (p ^^^ y.toNat) wn).2 t
def gL : Nat → List Int → Nat
  | p, [] => p
  | _, y :: t => gL y.toNat t
theorem gE_snoc (l : List Int) (y : Int) : ∀ (p : Nat) (wn : Option (Nat × Nat)), gE p wn (l ++ [y]) = gE p wn l ++ (gx (gL p l ^^^ y.toNat) (gW p wn l)).1 ∧ gW p wn (l ++ [y]) = (gx (gL p l ^^^ y.toNat) (gW p wn l)).2 := by
  induction l with
  | nil => intro p wn; simp [gE, gW, gL]
  | cons z t ih =>
    intro p wn
    obtain ⟨h1, h2⟩ := ih z.toNat (gx (p ^^^ z.toNat) wn).2
    constructor
    · rw [List.cons_append, gE, h1, gE, gL, gW, List.append_assoc]
    · rw [List.cons_append, gW, h2, gL, gW]
theorem take_one (t : List Int) (k : Nat) (h : k < t.length) : t.take (k + 1) = t.take k ++ [t.getD k 0] := by
  rw [List.take_add_one, List.getD_eq_getElem?_getD, List.getElem?_eq_getElem h]; rfl
theorem gL_take (t : List Int) : ∀ (x0 : Int) (k : Nat), k ≤ t.length → gL x0.toNat (t.take k) = ((x0 :: t).getD k 0).toNat := by
  induction t with
  | nil =>
    intro x0 k hk
    obtain rfl : k = 0 := by simpa using hk
    rfl
  | cons y t ih =>
    intro x0 k hk
    cases k with
    | zero => rfl
    | succ k =>
      rw [List.take_succ_cons, gL, ih y k (by simpa using hk)]
      rfl
theorem gE_step (x0 : Int) (t : List Int) (k : Nat) (h : k < t.length) :
    gE x0.toNat none (t.take (k + 1)) = gE x0.toNat none (t.take k) ++ (gx (((x0 :: t).getD k 0).toNat ^^^ (t.getD k 0).toNat) (gW x0.toNat none (t.take k))).1 ∧
    gW x0.toNat none (t.take (k + 1)) = (gx (((x0 :: t).getD k 0).toNat ^^^ (t.getD k 0).toNat) (gW x0.toNat none (t.take k))).2 := by
  rw [take_one t k h, ← gL_take t x0 k (by omega)]
  exact gE_snoc _ _ _ _
theorem xor_i {x y : Int} (x0 : 0 ≤ x) (x1 : x ≤ 18446744073709551615) (y0 : 0 ≤ y) (y1 : y ≤ 18446744073709551615) : bits .xor .u64 y x = ((x.toNat ^^^ y.toNat : Nat) : Int) := by
  have := bits_xor_u64_nat y.toNat x.toNat (by omega) (by omega)
  rw [Int.toNat_of_nonneg x0, Int.toNat_of_nonneg y0] at this
  rw [this, Nat.xor_comm]

theorem cell_in {w : World} {b i : Nat} {v : Value} (h : w.cell? ⟨b, i, none⟩ = some v) : b < w.heap.size := by
  rcases Nat.lt_or_ge b w.heap.size with e | e
  · exact e
  · have e2 : w.heap[b]? = none := Array.getElem?_eq_none e
    simp [World.cell?, e2] at h
/-- Encode under way: the writer, and the window in its block K -/
structure Es (w : World) (K : Nat) (wr : World) (vw : Value) (l : List Bool) (wn : Option (Nat × Nat)) (a d : Nat) : Prop where
  be : Below w.heap.size w wr
  wt : WrAt 39 5 wr (w.heap.size + 1) w.heap.size vw l
  nb : ∀ q, vw.ownBlock = some q → q ≠ K
  gt : w.heap.size < K
  box : wr.heap[K]? = some (.cells #[.int .i64 a, .int .i64 d] 42 (0, 0))
  wi : W2 wn a d
theorem Es.lt {w : World} {K : Nat} {wr : World} {vw : Value} {l : List Bool} {wn : Option (Nat × Nat)} {a d : Nat} (h : Es w K wr vw l wn a d) : K < wr.heap.size := by
  rcases Nat.lt_or_ge K wr.heap.size with e | e
  · exact e
  · have := h.box
    rw [Array.getElem?_eq_none e] at this
    cases this
theorem Es.drew {w : World} {K : Nat} {wr : World} {vw : Value} {l : List Bool} {wn : Option (Nat × Nat)} {a d : Nat} (h : Es w K wr vw l wn a d) : Es w K wr.drew vw l wn a d :=
  ⟨h.be.drew, h.wt.keep ((Only.refl (fun _ => False) wr).drew) (fun f => f) (fun _ _ f => f), h.nb, h.gt, h.box, h.wi⟩
theorem Es.off {w : World} {K : Nat} {wr : World} {vw : Value} {l : List Bool} {wn : Option (Nat × Nat)} {a d : Nat} (h : Es w K wr vw l wn a d) (f : Foot w.heap.size vw K) : False := by
  rcases f with e | e
  · have := h.gt; omega
  · exact h.nb _ e rfl
theorem Es.next {w : World} {K : Nat} {wr w2 : World} {vw v2 : Value} {l l2 : List Bool} {wn wn2 : Option (Nat × Nat)} {a d a2 d2 : Nat} (h : Es w K wr vw l wn a d)
    (h2 : WrAt 39 5 w2 (w.heap.size + 1) w.heap.size v2 l2) (o : Only (Foot w.heap.size vw) wr w2) (s : Stays wr vw v2) (hw : W2 wn2 a2 d2) :
    Es w K ((w2.setCell ⟨K, 0, none⟩ (.int .i64 a2)).setCell ⟨K, 1, none⟩ (.int .i64 d2)) v2 l2 wn2 a2 d2 := by
  have hnb : ∀ q, v2.ownBlock = some q → q ≠ K := fun q hq => by
    rcases s with e | e
    · rw [e] at hq; exact h.nb q hq
    · have := e q hq; have := h.lt; omega
  have hbox := o.heap h.box (fun f => by
    rcases f with e | e
    · have := h.gt; omega
    · exact h.nb _ e rfl)
  have hg := h.gt
  refine ⟨?_, h2.keep (setCell2_only (S := fun k => k = K) _ _ rfl) (fun f => by omega) (fun k hk f => hnb k hk f), hnb, h.gt, setCell2_heap _ _ hbox, hw⟩
  exact (h.be.trans (o.below (B := w.heap.size) h.be.size (h.wt.foot_ge (Nat.le_refl _)))).trans ((setCell2_only (S := fun k => k = K) (.int .i64 a2) (.int .i64 d2) rfl).below (B := w.heap.size) (Nat.le_trans h.be.size o.size) (fun k e => by omega))

set_option maxHeartbeats 400000 in
theorem encode9_long (v : Value) (xs : List Int) (w : World) (h : Bs .u64 w v xs) (hl : 65536 < xs.length) :
    Calls Tryd.prog 10 #[v] w fun e w' => e = .returned (.tuple #[.slice none 0 0, .int .i64 4]) ∧ w = w' := by
  obtain ⟨ao, cap, rfl⟩ := h.len
  clear h
  have d0 : decide (65536 < (xs.length : Int)) = true := by simp; omega
  generalize xs.length = m at *
  clear hl
  go_enter Tryd.func10, Tryd.ntmps10
  go_wp2
  go_ret2
  exact ⟨rfl, rfl⟩
set_option maxHeartbeats 400000 in
theorem encode9_nil (v : Value) (w : World) (h : Bs .u64 w v []) :
    Calls Tryd.prog 10 #[v] w fun e w' => e = .returned (.tuple #[.slice none 0 0, .int .i64 0]) ∧ w = w' := by
  obtain ⟨ao, cap, rfl⟩ := h.len
  clear h
  go_enter Tryd.func10, Tryd.ntmps10
  go_wp2
  go_ret2
  exact ⟨rfl, rfl⟩
set_option maxHeartbeats 4000000 in
set_option maxRecDepth 100000 in
theorem encode9_cons (v : Value) (x0 : Int) (t : List Int) (w : World) (h : Bs .u64 w v (x0 :: t)) (hu : U64 (x0 :: t)) (hl : (x0 :: t).length ≤ 65536) (hT : Tab w) :
    Calls Tryd.prog 10 #[v] w fun e w' => ∃ v', e = .returned (.tuple #[v', .int .i64 0]) ∧ w'.ownsRow w.heap.size 5 1 v' (bytesI (GB (x0 :: t))).length ((bytesI (GB (x0 :: t))).map (Value.int .u8)) ∧ Only (fun _ => False) w w' := by
  obtain ⟨b, off, cap, rfl, c0⟩ := h.at 0 (by simp)
  have HB := hideIt h
  have HU := hideIt hu
  obtain ⟨u0, u1⟩ := hu x0 List.mem_cons_self
  simp only [List.getD_cons_zero, Nat.add_zero] at c0
  have hbw := cell_in c0
  obtain ⟨m, hm⟩ : ∃ m, m = t.length := ⟨_, rfl⟩
  have HM := hideIt hm
  have hlen : (x0 :: t).length = m + 1 := by rw [hm]; rfl
  rw [hlen] at HB hl
  rw [hlen]
  have hcap : m + 1 ≤ cap := by
    obtain ⟨ao, cap', e, hc, _⟩ := h
    simp only [Value.slice.injEq] at e
    omega
  obtain ⟨n, hn⟩ : ∃ n, n = m + 1 := ⟨_, rfl⟩
  rw [← hn] at HB hl hcap
  rw [← hn]
  have n0 : 0 < n := by omega
  have HN := hideIt hn
  obtain ⟨G, hG⟩ : ∃ G, G = bytesI (GB (x0 :: t)) := ⟨_, rfl⟩
  rw [← hG]
  have HG := hideIt hG
  have d0 : decide (65536 < (n : Int)) = false := by simp; omega
  have d1 : ((n : Int) == 0) = false := by rw [beq_eq_false_iff_ne]; omega
  have x64 : (wid x0.toNat : Int) ≤ 64 := by have := wid_le64 x0.toNat (by omega); omega
  have W0 := hideIt (WrAt.new (T := 39) (E := 5) w)
  have P0 := hideIt (put_wr W0.out x0 64 (by omega) (by omega) u0 u1 x64 (by simp))
  have HB0 : Hid (Below w.heap.size w (w.alloc (.cells #[.slice none 0 0, .int .i64 0] 39))) := (Below.refl _ _).alloc (Nat.le_refl _) _
  clear h hu hm hlen hG hn
  go_enter Tryd.func10, Tryd.ntmps10
  go_wp2_with fail
  refine P0.out.mono ?_
  rintro e w1 ⟨rfl, v1, h1, o1, s1⟩
  have hb64 : ([] : List Bool) ++ bitsOf x0.toNat (Int.toNat 64) = bitsOf x0.toNat 64 ++ gE x0.toNat none (t.take 0) := by simp [gE]
  rw [hb64] at h1
  have B1 := hideIt (HB0.out.trans (o1.below (B := w.heap.size) HB0.out.size (W0.out.foot_ge (Nat.le_refl _))))
  have S1 : Hid (Es w w1.heap.size (w1.alloc (.cells #[.int .i64 0, .int .i64 0] 42)) v1 (bitsOf x0.toNat 64 ++ gE x0.toNat none (t.take 0)) (gW x0.toNat none (t.take 0)) 0 0) :=
    ⟨B1.out.alloc B1.out.size _, h1.keep ((Only.refl (fun _ => False) w1).alloc _) (fun f => f) (fun _ _ f => f), fun q hq => by have := (h1.own.lt q hq).2; omega, h1.lt_size, heap_alloc_last _ _, W2.none⟩
  have hKw : Hid (w.heap.size < w1.heap.size) := h1.lt_size
  clear h1 o1 s1 P0 W0 HB0 hb64
  have e1 : n - 1 = m := by have := HN.out; omega
  have HV : Hid (∀ k, k < m → w.cell? ⟨b, off + 1 + k, none⟩ = some (.int .u64 (t.getD k 0)) ∧ w.cell? ⟨b, off + k, none⟩ = some (.int .u64 ((x0 :: t).getD k 0))) := by
    intro k hk
    obtain ⟨ao, cap', e, _, hc0⟩ := HB.out
    obtain ⟨b', off', rfl, hc⟩ := hc0 (List.cons_ne_nil _ _)
    clear hc0
    simp only [Value.slice.injEq, Option.some.injEq, Addr.mk.injEq, and_true] at e
    obtain ⟨⟨rfl, rfl⟩, _, rfl⟩ := e
    have hm := HM.out
    have := hc (k + 1) (by simp; omega)
    rw [List.getD_cons_succ] at this
    refine ⟨?_, hc k (by simp; omega)⟩
    rw [show off + 1 + k = off + (k + 1) by omega]
    exact this
  clear B1 c0
  go_wp2
  case inl =>
    obtain rfl : m = 0 := by have := HN.out; omega
    go_loopw [22] (fun i wr => ∃ k : Nat, k ≤ 0 ∧ i = .int .i64 k ∧ ∃ vw a d, Es w w1.heap.size wr vw (bitsOf x0.toNat 64 ++ gE x0.toNat none (t.take k)) (gW x0.toNat none (t.take k)) a d) (fun i _ => 0 - (intOf i).toNat)
    case atStart => exact ⟨0, Nat.zero_le _, rfl, v1, 0, 0, S1.out⟩
    case round =>
      clear S1
      obtain ⟨k, hk, rfl, vw, a, d, hes⟩ := hrel
      obtain rfl : k = 0 := by omega
      have hkm : (0 : Nat) = 0 := rfl
      have HE := hideIt hes
      have hlq : (bitsOf x0.toNat 64 ++ gE x0.toNat none (t.take 0)).length ≤ 1000000000000 := by
        have := (gE_len (t.take 0) x0.toNat none).1
        rw [List.length_append, bitsOf_length]
        rw [List.length_take] at this
        omega
      have BY := hideIt (bytes_wr hes.wt hlq)
      have hbits : Hid (bytesI (bitsOf x0.toNat 64 ++ gE x0.toNat none (t.take 0)) = G) := by
        simp only [Hid]; rw [HG.out, hkm, HM.out, List.take_length]; rfl
      rw [hbits.out] at BY
      clear hes hlq
      go_wp2_with fail
      refine BY.out.mono ?_
      rintro e w4 ⟨v4, rfl, own4, on4⟩
      have OW := hideIt (own_low own4 HE.out.be.size)
      have ON := hideIt ((only_of_below HE.out.be).same on4)
      clear BY own4 on4
      go_wp2
      go_ret2
      exact ⟨v4, rfl, OW.out, ON.out⟩
  case inr =>
    go_loopw [22] (fun i wr => ∃ k : Nat, k ≤ m ∧ i = .int .i64 k ∧ ∃ vw a d, Es w w1.heap.size wr vw (bitsOf x0.toNat 64 ++ gE x0.toNat none (t.take k)) (gW x0.toNat none (t.take k)) a d) (fun i _ => m - (intOf i).toNat)
    case atStart => exact ⟨0, Nat.zero_le _, rfl, v1, 0, 0, S1.out⟩
    case round =>
      clear S1
      obtain ⟨k, hk, rfl, vw, a, d, hes⟩ := hrel
      by_cases hlt : k < m
      · obtain ⟨q1, q2⟩ := HV.out k hlt
        have c1 := (hes.be.cell (p := ⟨b, off + 1 + k, none⟩) hbw).trans q1
        have c2 := (hes.be.drew.cell (p := ⟨b, off + k, none⟩) hbw).trans q2
        have HE := hideIt hes.drew
        obtain ⟨b0, b1, _, _⟩ := two_cells hes.drew.box
        obtain ⟨s1, s2⟩ := gE_step x0 t k (by rw [← HM.out]; exact hlt)
        have G1 := hideIt s1
        have G2 := hideIt s2
        have hmem : ∀ j, j < (x0 :: t).length → 0 ≤ (x0 :: t).getD j 0 ∧ (x0 :: t).getD j 0 ≤ 18446744073709551615 := fun j hj => HU.out _ (by rw [List.getD_eq_getElem?_getD, List.getElem?_eq_getElem hj]; simp)
        have hmt := HM.out
        obtain ⟨p0, p1⟩ := hmem k (by simp; omega)
        obtain ⟨y0, y1⟩ := hmem (k + 1) (by simp; omega)
        rw [List.getD_cons_succ] at y0 y1
        have hlq : (bitsOf x0.toNat 64 ++ gE x0.toNat none (t.take k)).length ≤ 100000000 := by
          have := (gE_len (t.take k) x0.toNat none).1
          rw [List.length_append, bitsOf_length]
          rw [List.length_take] at this
          omega
        have HT := hideIt (hT.below hes.be.drew hT.pos)
        have hxx := xor_i p0 p1 y0 y1
        have hxl := xor_lt (a := ((x0 :: t).getD k 0).toNat) (b := (t.getD k 0).toNat) (by omega) (by omega)
        generalize (x0 :: t).getD k 0 = p at *
        generalize t.getD k 0 = y at *
        have WR := hideIt (write_any HE.out.wt (p.toNat ^^^ y.toNat) _ a d HE.out.wi hlq hxl HT.out hT.pos)
        rw [← hxx] at WR
        have WL := hideIt HE.out.wi.le
        clear hmem hmt s1 s2 hlq hxx hxl hes q1 q2
        have dlt : decide ((k : Int) < (m : Int)) = true := by simp; omega
        have i0 : (k : Int) < (n : Int) := by have := HN.out; omega
        go_wp2
        go_region_with ((go_at_call 17; refine WR.out.mono ?_; rintro e w2 ⟨a2, d2, rfl, wi2, v2, h2, o2, s2⟩; have E2 := hideIt (HE.out.next h2 o2 s2 wi2); have g2 := two_cells (o2.heap HE.out.box (fun f => HE.out.off f)); obtain ⟨_, _, _, _⟩ := g2))
        all_goals
          have hL : Hid (bitsOf x0.toNat 64 ++ gE x0.toNat none (t.take k) ++ (gx (p.toNat ^^^ y.toNat) (gW x0.toNat none (t.take k))).1 = bitsOf x0.toNat 64 ++ gE x0.toNat none (t.take (k + 1))) := by
            simp only [Hid]; rw [G1.out, List.append_assoc]
          rw [hL.out, ← G2.out] at E2
          clear WR wi2 h2 o2 s2
          go_wp2
          go_roundw
          case rel => exact ⟨k + 1, by omega, by simp, v2, a2, d2, E2.out⟩
          case measure => simp [intOf]; omega
      · obtain rfl : k = m := by omega
        have hkm : k = k := rfl
        have dlt : decide ((k : Int) < (k : Int)) = false := by simp
        have HE := hideIt hes
        have hlq : (bitsOf x0.toNat 64 ++ gE x0.toNat none (t.take k)).length ≤ 1000000000000 := by
          have := (gE_len (t.take k) x0.toNat none).1
          rw [List.length_append, bitsOf_length]
          rw [List.length_take] at this
          omega
        have BY := hideIt (bytes_wr hes.wt hlq)
        have hbits : Hid (bytesI (bitsOf x0.toNat 64 ++ gE x0.toNat none (t.take k)) = G) := by
          simp only [Hid]; rw [HG.out, hkm, HM.out, List.take_length]; rfl
        rw [hbits.out] at BY
        clear hes hlq
        go_wp2_with fail
        refine BY.out.mono ?_
        rintro e w4 ⟨v4, rfl, own4, on4⟩
        have OW := hideIt (own_low own4 HE.out.be.size)
        have ON := hideIt ((only_of_below HE.out.be).same on4)
        clear BY own4 on4
        go_wp2
        go_ret2
        exact ⟨v4, rfl, OW.out, ON.out⟩
/-- Encode of any list -/
theorem encode9_all (v : Value) (xs : List Int) (w : World) (h : Bs .u64 w v xs) (hu : U64 xs) (hT : Tab w) :
    Calls Tryd.prog 10 #[v] w fun e w' => ∃ v', e = .returned (.tuple #[v', .int .i64 (ENC9 xs).2]) ∧ w'.ownsRow w.heap.size 5 1 v' (ENC9 xs).1.length ((ENC9 xs).1.map (Value.int .u8)) ∧ Only (fun _ => False) w w' := by
  by_cases hl : 65536 < xs.length
  · have e : ENC9 xs = ([], 4) := if_pos hl
    rw [e]
    refine (encode9_long v xs w h hl).mono ?_
    rintro e w' ⟨rfl, rfl⟩
    exact ⟨_, rfl, World.ownsRow_nil _ _ _ _, Only.refl _ _⟩
  · rw [ENC9_of (by omega)]
    cases xs with
    | nil =>
      refine (encode9_nil v w h).mono ?_
      rintro e w' ⟨rfl, rfl⟩
      exact ⟨_, rfl, World.ownsRow_nil _ _ _ _, Only.refl _ _⟩
    | cons x0 t => exact encode9_cons v x0 t w h hu (by omega) hT
end Go.Proofs.YthpcibofcgjcdaaDoor
