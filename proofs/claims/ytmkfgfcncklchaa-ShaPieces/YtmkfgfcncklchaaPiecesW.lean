/- However bytes are cut: the walk. -/
import Derived.Test.YtmkfgfcncklchaaSumsW
import Derived.Test.YtmkfgfcncklchaaRws
namespace Go.Proofs.Ytmkfgfcncklchaa
open Go.RowKit

/-- the first j rows, one behind the other -/
def cat (ls : List (List Int)) (j : Nat) : List Int := (ls.take j).flatten
theorem cat_next (ls : List (List Int)) (j : Nat) (h : j < ls.length) : cat ls (j + 1) = cat ls j ++ ls.getD j [] := by
  unfold cat
  rw [List.take_add_one, List.getElem?_eq_getElem h, List.getD_eq_getElem?_getD, List.getElem?_eq_getElem h, List.flatten_append]
  simp
theorem row_u8 {ls : List (List Int)} (h : ∀ l ∈ ls, ∀ y ∈ l, 0 ≤ y ∧ y ≤ 255) (j : Nat) : U8 (ls.getD j []) := by
  rw [List.getD_eq_getElem?_getD]
  by_cases hj : j < ls.length
  · rw [List.getElem?_eq_getElem hj]; exact h _ (List.getElem_mem hj)
  · rw [List.getElem?_eq_none (by omega)]; intro y hy; cases hy
theorem cat_u8 {ls : List (List Int)} (h : ∀ l ∈ ls, ∀ y ∈ l, 0 ≤ y ∧ y ≤ 255) (j : Nat) : U8 (cat ls j) := by
  intro y hy
  obtain ⟨l, hl, hy⟩ := List.mem_flatten.1 hy
  exact h l (List.mem_of_mem_take hl) y hy
theorem Rws.row {w w' : World} {ao : Option Addr} {m cap : Nat} {ls : List (List Int)} (h : Rws w (.slice ao m cap) ls) (o : Only (fun _ => False) w w') (j : Nat) (hj : j < ls.length) :
    ∃ b off ao' cap', ao = some ⟨b, off, none⟩ ∧ w'.cell? ⟨b, off + j, none⟩ = some (.slice ao' (ls.getD j []).length cap') ∧ Bs .u8 w' (.slice ao' (ls.getD j []).length cap') (ls.getD j []) ∧ NoCap (.slice ao' (ls.getD j []).length cap') ∧ (ls.getD j [] ≠ [] → ∀ k, (Value.slice ao' (ls.getD j []).length cap').ownBlock = some k → k < w.heap.size) := by
  obtain ⟨b, off, ao', cap', e, h1, h2, h3⟩ := h.at j hj
  refine ⟨b, off, ao', cap', e, ?_, h2.past o, h3, fun hne k hk => h2.blk_lt hne k hk⟩
  rw [World.cell?_of_block (o.block b (World.block_lt_of_cell? w _ h1) (fun f => f))]
  exact h1

set_option maxHeartbeats 3200000 in
set_option maxRecDepth 100000 in
theorem pieces_walk (v : Value) (ls : List (List Int)) (w : World) (hb : Rws w v ls) (h8 : ∀ l ∈ ls, ∀ y ∈ l, 0 ≤ y ∧ y ≤ 255) :
    Calls Try.prog 4 #[v] w fun e w' => e = .returned (.bool true) ∧ Below w.heap.size w w' := by
  obtain ⟨ao, cap, rfl⟩ := hb.len
  have A := hideIt (awake_any w)
  by_cases hl : 40 < ls.length
  · have d0 : decide ((40 : Int) < (ls.length : Int)) = true := decide_eq_true (by omega)
    clear hb h8
    generalize ls.length = n at *
    go_enter Try.func4, Try.ntmps4
    go_wp2_with fail
    refine A.out.mono ?_
    rintro e w1 ⟨rfl, o1⟩
    have O1 := hideIt o1
    clear o1 A
    go_wp2
    go_ret
    exact ⟨rfl, O1.out.low (Nat.le_refl _)⟩
  · have d0 : decide ((40 : Int) < (ls.length : Int)) = false := decide_eq_false (by omega)
    obtain ⟨i0, hi, hz0, hz1, hz2⟩ := info_parts Try.infoU8
    have hzv := (zero_of_info (P := Try.prog) Try.zero33).1
    obtain ⟨Z, hZ⟩ : ∃ Z, Z = zH := ⟨_, rfl⟩
    rw [← hZ] at hzv
    have HZ := hideIt hZ
    have H8 := hideIt h8
    obtain ⟨L, hL⟩ : ∃ L, L = ls.length := ⟨_, rfl⟩
    rw [← hL] at d0 hb ⊢
    have hL40 : L ≤ 40 := by omega
    have HB := hideIt (And.intro hb hL)
    clear hb h8 hl hZ hL
    go_enter Try.func4, Try.ntmps4
    go_wp2_with fail
    refine A.out.mono ?_
    rintro e w1 ⟨rfl, o1⟩
    have oX : Only (fun _ => False) w1 (w1.alloc (.cells Z.toArray 33)) := (Only.refl _ _).alloc _
    have hN : Hs (w1.alloc (.cells Z.toArray 33)) w1.heap.size [] := Hs.zero (by rw [← HZ.out]; exact Blk.new w1 33 Z)
    have hsX : w1.heap.size < (w1.alloc (.cells Z.toArray 33)).heap.size := by rw [size_alloc]; omega
    have HX := hideIt (And.intro hN (And.intro (o1.same oX) hsX))
    obtain ⟨NX, hNX⟩ : ∃ NX, NX = w1.heap.size := ⟨_, rfl⟩
    have HNX : Hid (w.heap.size ≤ NX) := by have := o1.size; show _ ≤ _; omega
    rw [← hNX] at HX
    have HNE := hideIt hNX
    clear o1 oX hN hsX A hNX
    go_wp2
    rw [← HNE.out]
    clear HNE hzv
    go_loopw [5, 6] (fun o i wr => ∃ j : Nat, j ≤ L ∧ i = .int .i64 j ∧ Hs wr NX (cat ls j) ∧ wr.ownsRow (NX + 1) 5 1 o (cat ls j).length ((cat ls j).map (Value.int .u8)) ∧ (cat ls j).length ≤ 300 * j ∧ NX + 1 ≤ wr.heap.size ∧ Only (fun _ => False) w wr) (fun _ i _ => L - (intOf i).toNat)
    case atStart => exact ⟨0, Nat.zero_le _, rfl, HX.out.1, World.ownsRow_nil _ _ _ _, Nat.le_refl _, HX.out.2.2, HX.out.2.1⟩
    case round =>
      obtain ⟨j, hj, rfl, hs, hown, hcl, hsz, hon⟩ := hrel
      clear HX
      obtain ⟨ao1, cap1, rfl⟩ := own_form hown
      by_cases hlt : j < L
      · obtain ⟨b, off, ao2, cap2, rfl, hcell, hbr, hnc, hlow⟩ := HB.out.1.row hon j (by rw [← HB.out.2]; exact hlt)
        have hcn := cat_next ls j (by rw [← HB.out.2]; exact hlt)
        have hr8 := row_u8 H8.out j
        obtain ⟨R, hR⟩ : ∃ R, R = ls.getD j [] := ⟨_, rfl⟩
        rw [← hR] at hcell hbr hnc hlow hcn hr8
        have hbb : b < w.heap.size := by
          have h1 := HB.out.1.at j (by rw [← HB.out.2]; exact hlt)
          obtain ⟨b', off', _, _, e, h2, _⟩ := h1
          simp at e
          obtain ⟨rfl, rfl⟩ := e
          exact World.block_lt_of_cell? _ _ h2
        obtain ⟨m, hm⟩ : ∃ m, m = R.length := ⟨_, rfl⟩
        rw [← hm] at hcell hbr hnc hlow
        have j0 : (0 : Int) ≤ (j : Int) := by omega
        have j1 : (j : Int) < (L : Int) := by omega
        by_cases h300 : 300 < m
        · have d1 : decide ((300 : Int) < (m : Int)) = true := decide_eq_true (by omega)
          have E := hideIt hon
          clear hs hown hcl hon hbr hnc hlow hcn hr8 hR hm
          go_wp2
          go_ret
          exact ⟨rfl, E.out.low (Nat.le_refl _)⟩
        · have d1 : decide ((300 : Int) < (m : Int)) = false := decide_eq_false (by omega)
          obtain ⟨C, hC⟩ : ∃ C, C = cat ls j := ⟨_, rfl⟩
          obtain ⟨C2, hC2⟩ : ∃ C2, C2 = cat ls (j + 1) := ⟨_, rfl⟩
          have hC8 : U8 C2 := by rw [hC2]; exact cat_u8 H8.out _
          rw [← hC, ← hC2] at hcn
          rw [← hC] at hs hown hcl ⊢
          have hC2l : C2.length = C.length + m := by rw [hcn, List.length_append, hm]
          have W1 := hideIt (write_hs NX C R (.slice ao2 m cap2) wr hs hbr hr8 (fun hne k hk e => by have := hlow hne k hk; have := HNX.out; omega) (by rw [← hm]; omega))
          rw [← hcn, ← hm] at W1
          have NEQ : Hid (R ≠ [] → ∀ k, (Value.slice ao2 m cap2).ownBlock = some k → k ≠ NX) := fun hne k hk e => by have := hlow hne k hk; have := HNX.out; omega
          have KE := hideIt (And.intro hown (And.intro hbr (And.intro hnc hon)))
          have KC := hideIt (And.intro hcell hbb)
          have KL := hideIt (And.intro hm (And.intro hC2l (And.intro hcn hC2)))
          obtain ⟨cl, hcl'⟩ : ∃ cl, cl = C.length := ⟨_, rfl⟩
          have HCL := hideIt hcl'
          rw [← hcl'] at hcl ⊢
          clear hs hown hbr hnc hlow hcn hr8 hR hon hm hC hC2 hC2l hbb hcl'
          go_wp2_with fail
          refine W1.out.mono ?_
          rintro e w3 ⟨rfl, hs3, on3⟩
          obtain ⟨hown, hbr, hnc, hon⟩ := KE.out
          have c3 : w3.cell? ⟨b, off + j, none⟩ = some (.slice ao2 m cap2) := by
            rw [World.cell?_of_block (on3.block b (World.block_lt_of_cell? wr _ KC.out.1) (fun e => by have := KC.out.2; have := HNX.out; omega))]
            exact KC.out.1
          have own3 := on3.own hown (fun k hk e => by have := (hown.lt k hk).1; omega)
          have b3 : Bs .u8 w3 (.slice ao2 m cap2) R := hbr.keepN on3 (fun hne k hk e => by
            exact NEQ.out hne k hk e)
          have O3 : Only (fun _ => False) w w3 := hon.trans on3 (fun i hi e => by have := HNX.out; omega)
          have hsz3 : NX + 1 ≤ w3.heap.size := by have := on3.size; omega
          have HS3 : Hid (Hs w3 NX C2) := Or.inl hs3
          have OWN3 : Hid (w3.ownsRow (NX + 1) 5 1 (.slice ao1 cl cap1) cl (C.map (Value.int .u8))) := by rw [HCL.out]; exact own3
          have B3 := hideIt (And.intro b3 hnc)
          have RL : Hid (R.length = m) := KL.out.1.symm
          have HO3 := hideIt O3
          have KC3 := hideIt (And.intro c3 KC.out.2)
          clear hs3 on3 hown hbr hnc hon own3 b3 O3 W1 KE KC NEQ
          go_wp2_with (at_builtin; refine wpList_append_bs _ rfl _ _ 22 rfl (NX + 1) 5 i0 (.int .u8 0) 1 Try.underlying22 hi hz0 hz1 hz2 rfl (.slice ao1 cl cap1) cl (C.map (Value.int .u8)) rfl OWN3.out .u8 (.slice ao2 m cap2) R rfl B3.out.1 B3.out.2 (by rw [RL.out]; unfold maxLen; omega) (by rw [RL.out]; omega) hsz3 ?_)
          intro v4 w4 hown4 hgrow4 hnil4 hob4
          have on4 : Only (fun k => NX + 1 ≤ k) w3 w4 := ⟨hgrow4.os, hgrow4.tape, hgrow4.output, hgrow4.size, fun k hk hs => hgrow4.block k hk (fun e => hs ((OWN3.out.lt k e.symm).1))⟩
          have hq : C2.length = cl + m := by rw [KL.out.2.1, HCL.out]
          have own4 : w4.ownsRow (NX + 1) 5 1 v4 C2.length (C2.map (Value.int .u8)) := by
            rw [hq]
            have := hown4
            rw [RL.out, ← List.map_append, ← KL.out.2.2.1] at this
            exact this
          have HS4 := hideIt (HS3.out.keep on4 (fun e => by omega))
          have c4 : w4.cell? ⟨b, off + j, none⟩ = some (.slice ao2 m cap2) := by
            rw [World.cell?_of_block (on4.block b (World.block_lt_of_cell? w3 _ KC3.out.1) (fun e => by have := KC3.out.2; have := HNX.out; omega))]
            exact KC3.out.1
          have O4 := hideIt (HO3.out.trans on4 (fun i hi e => by have := HNX.out; omega))
          have hsz4 : NX + 1 ≤ w4.heap.size := by have := on4.size; omega
          have LN := hideIt (len_hs NX C2 w4 HS4.out)
          obtain ⟨ao4, cap4, e4⟩ := own_form own4
          subst e4
          have HQ := hideIt hq
          obtain ⟨q, hq'⟩ : ∃ q, q = C2.length := ⟨_, rfl⟩
          rw [← hq'] at LN own4 ⊢
          have OWN4 := hideIt own4
          have HQ2 := hideIt hq'
          have t1 : ((m : Int) != (m : Int)) = false := by simp
          have t2 : ((q : Int) != (q : Int)) = false := by simp
          have hq3 : q ≤ 300 * j + 300 := by omega
          clear hown4 hgrow4 hnil4 hob4 on4 hq own4 HS3 OWN3 B3 HO3 KC3 c3 hq'
          go_wp2_with fail
          refine LN.out.mono ?_
          rintro e w4' ⟨rfl, rfl⟩
          clear LN
          have DONE : Hid (∀ w9, Only (fun _ => False) w4 w9 → Hs w9 NX (cat ls (j + 1)) ∧ w9.ownsRow (NX + 1) 5 1 (.slice ao4 q cap4) (cat ls (j + 1)).length ((cat ls (j + 1)).map (Value.int .u8)) ∧ (cat ls (j + 1)).length ≤ 300 * (j + 1) ∧ NX + 1 ≤ w9.heap.size ∧ Only (fun _ => False) w w9) := fun w9 o => by
            rw [← KL.out.2.2.2, ← HQ2.out]
            exact ⟨HS4.out.past o, o.own OWN4.out (fun _ _ f => f), by omega, by have := o.size; omega, O4.out.same o⟩
          by_cases h3 : j % 3 = 1
          · have t3 : ((j : Int) % 3 == 1) = true := by rw [beq_iff_eq]; omega
            have S1 := hideIt (hsum_hs NX C2 w4 HS4.out (by rw [← HQ2.out]; omega))
            go_wp2_with fail
            refine S1.out.mono ?_
            rintro e w5 ⟨v5, rfl, own5, o5⟩
            obtain ⟨b5, g5, c5, rfl, _⟩ := sum_form own5
            have B5 := hideIt b5
            have O5 := hideIt o5
            have all5 : Bs .u8 w5 (.slice ao4 q cap4) C2 := Bs.of_own (by rw [← HQ2.out]; exact o5.own OWN4.out (fun _ _ f => f))
            have S2 := hideIt (sum_bs (.slice ao4 q cap4) C2 w5 all5 hC8 (by rw [← HQ2.out]; omega))
            clear S1 o5 own5 b5 all5
            go_wp2_with fail
            refine S2.out.mono ?_
            rintro e w6 ⟨v6, rfl, own6, o6⟩
            obtain ⟨b6, g6, c6, rfl, _⟩ := sum_form own6
            have O6 := hideIt (O5.out.same o6)
            have S3 := hideIt (lsame_eq _ _ (SHA C2) w6 (B5.out.past o6) b6 (sha32 _))
            clear S2 o6 own6 b6 B5
            go_wp2_with fail
            refine S3.out.mono ?_
            rintro e w7 ⟨rfl, o7⟩
            have D7 := hideIt (DONE.out w7 (O6.out.same o7))
            clear S3 o7 O5 O6 c4
            go_wp2
            go_roundw
            case rel => exact ⟨j + 1, hlt, by go_num, D7.out⟩
            case measure => simp [intOf]; omega
          · have t3 : ((j : Int) % 3 == 1) = false := by rw [beq_eq_false_iff_ne]; omega
            have D7 := hideIt (DONE.out w4 (Only.refl _ _))
            clear c4
            go_wp2
            go_roundw
            case rel => exact ⟨j + 1, hlt, by go_num, D7.out⟩
            case measure => simp [intOf]; omega
      · obtain rfl : j = L := by omega
        obtain ⟨C, hC⟩ : ∃ C, C = cat ls j := ⟨_, rfl⟩
        have hC8 : U8 C := by rw [hC]; exact cat_u8 H8.out _
        rw [← hC] at hs hown hcl ⊢
        have HS0 := hideIt hs
        have O0 := hideIt hon
        have HOW := hideIt hown
        obtain ⟨q, hq⟩ : ∃ q, q = C.length := ⟨_, rfl⟩
        have HQ := hideIt hq
        rw [← hq] at hcl ⊢
        have S1 := hideIt (hsum_hs NX C wr hs (by rw [← hq]; omega))
        clear hs hown hon hC hq hlt
        go_wp2_with fail
        refine S1.out.mono ?_
        rintro e w5 ⟨v5, rfl, own5, o5⟩
        obtain ⟨b5, g5, c5, rfl, _⟩ := sum_form own5
        have B5 := hideIt b5
        have O5 := hideIt o5
        have all5 : Bs .u8 w5 (.slice ao1 q cap1) C := by rw [HQ.out]; exact Bs.of_own (o5.own HOW.out (fun _ _ f => f))
        have S2 := hideIt (sum_bs (.slice ao1 q cap1) C w5 all5 hC8 (by rw [← HQ.out]; omega))
        clear S1 o5 own5 b5 all5
        go_wp2_with fail
        refine S2.out.mono ?_
        rintro e w6 ⟨v6, rfl, own6, o6⟩
        obtain ⟨b6, g6, c6, rfl, _⟩ := sum_form own6
        have O6 := hideIt (O5.out.same o6)
        have S3 := hideIt (lsame_eq _ _ (SHA C) w6 (B5.out.past o6) b6 (sha32 _))
        clear S2 o6 own6 b6 B5 O5
        go_wp2_with fail
        refine S3.out.mono ?_
        rintro e w7 ⟨rfl, o7⟩
        have O7 := hideIt (O6.out.same o7)
        have S4 := hideIt (hsum_hs NX C w7 (HS0.out.past O7.out) (by rw [← HQ.out]; omega))
        clear S3 o7 O6
        go_wp2_with fail
        refine S4.out.mono ?_
        rintro e w8 ⟨v8, rfl, own8, o8⟩
        obtain ⟨b8, g8, c8, rfl, _⟩ := sum_form own8
        have B8 := hideIt b8
        have O8 := hideIt (O7.out.same o8)
        have ow8 := O8.out.own HOW.out (fun _ _ f => f)
        have all8 : Bs .u8 w8 (.slice ao1 q cap1) C := by rw [HQ.out]; exact Bs.of_own ow8
        have S5 := hideIt (rsum_bs (.slice ao1 q cap1) C w8 all8 (by have := NoCap.of_own ow8; rw [← HQ.out] at this; exact this) hC8 (by rw [← HQ.out]; omega))
        clear S4 o8 own8 b8 all8 ow8 O7
        go_wp2_with fail
        refine S5.out.mono ?_
        rintro e w9 ⟨v9, rfl, own9, o9⟩
        obtain ⟨b9, g9, c9, rfl, _⟩ := sum_form own9
        have O9 := hideIt (O8.out.same o9)
        have S6 := hideIt (lsame_eq _ _ (SHA C) w9 (B8.out.past o9) b9 (sha32 _))
        clear S5 o9 own9 b9 B8 O8
        go_wp2_with fail
        refine S6.out.mono ?_
        rintro e w10 ⟨rfl, o10⟩
        have O10 := hideIt (O0.out.same (O9.out.same o10))
        clear S6 o10 O9
        go_wp2
        go_ret
        exact ⟨rfl, O10.out.low (Nat.le_refl _)⟩
end Go.Proofs.Ytmkfgfcncklchaa
