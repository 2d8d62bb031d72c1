/- A sum that is none; what was told is not changed: the walk. -/
import Derived.Test.YtmkfgfcncklchaaAw
import Derived.Test.YtmkfgfcncklchaaRc
namespace Go.Proofs.Ytmkfgfcncklchaa
open Go.RowKit

/-- .. where it is asked for behind an 'and' or an 'or' -/
theorem wpList_append_bsW {P : Program} (w : World) {ops : Array Oper} {rest : List Oper} {o : Oper} {a : Act} {Q : Exit → Act → World → Prop} (hw : Region.wanted o (yielded ops a.tmps) = true) (s x : Operand) (t : TypeId)
    (ho : o.op = .call { callee := .builtin .append, args := #[s, x], argTypes := #[t, t] })
    (base : Nat) (e : TypeId) (i : TypeInfo) (z : Value) (bytes : Nat) (ht : P.underlying t = some (.slice e)) (hi : P.info? e = some i) (hz : i.zero = some z)
    (hsize : i.size = 1) (hby : i.bytes = bytes) (hzs : z.cells.size = 1)
    (v : Value) (n : Nat) (xs : List Value) (hs : a.eval s = v) (hown : w.ownsRow base e 1 v n xs)
    (k : IntKind) (u : Value) (ys : List Int) (hx : a.eval x = u) (hb : Bs k w u ys) (hnc : NoCap u)
    (h63 : n + ys.length ≤ maxLen) (hbytes : (n + ys.length) * bytes ≤ 140737488355328) (hbase : base ≤ w.heap.size)
    (h : ∀ v' w', w'.ownsRow base e 1 v' (n + ys.length) (xs ++ ys.map (Value.int k)) → w.grownBy w' v.ownBlock → wpList P ops Q rest (a.put o.dst v') w') :
    wpList P ops Q (o :: rest) a w := by
  refine wpList_step fun K hK => ?_
  rw [if_pos hw]
  exact wp_append_bs s x t ho base e i z bytes ht hi hz hsize hby hzs v n xs hs hown k u ys hx hb hnc h63 hbytes hbase (fun v' w' h1 h2 => hK _ _ (h v' w' h1 h2))


theorem sha32n (b : List Int) : (SHA b).length ≤ 140737488355328 := by rw [SHA_len]; decide
theorem own_froz {w : World} {lo : Nat} {E : TypeId} {g n cap : Nat} {xs : List Value} (h : w.ownsRow lo E 1 (.slice (some ⟨g, 0, none⟩) n cap) n xs) (j : Nat) : w.frozen? ⟨g, j, none⟩ = false := by
  rcases h.2 with ⟨e, _⟩ | ⟨g', cap', cur, e, _, hg, _⟩
  · cases e
  · cases e; exact frozen_of_row w g j _ E hg
set_option maxHeartbeats 1600000 in
set_option maxRecDepth 100000 in
theorem none_walk (v : Value) (xs : List Int) (w : World) (hb : Bs .u8 w v xs) (nc : NoCap v) (h8 : U8 xs) :
    Calls Try.prog 7 #[v] w fun e w' => e = .returned (.bool true) ∧ Below w.heap.size w w' := by
  obtain ⟨ao, cap, rfl⟩ := hb.len
  have A := hideIt (awake_any w)
  by_cases hl : 300 < xs.length
  · have d0 : decide ((300 : Int) < (xs.length : Int)) = true := decide_eq_true (by omega)
    clear hb nc h8
    generalize xs.length = n at *
    go_enter Try.func7, Try.ntmps7
    go_wp2_with fail
    refine A.out.mono ?_
    rintro e w1 ⟨rfl, o1⟩
    have O1 := hideIt o1
    clear o1 A
    go_wp2
    go_ret
    exact ⟨rfl, O1.out.low (Nat.le_refl _)⟩
  · have d0 : decide ((300 : Int) < (xs.length : Int)) = false := decide_eq_false (by omega)
    obtain ⟨i0, hi, hz0, hz1, hz2⟩ := info_parts Try.infoU8
    have hzv := (zero_of_info (P := Try.prog) Try.zero33).1
    obtain ⟨Z, hZ⟩ : ∃ Z, Z = zH := ⟨_, rfl⟩
    rw [← hZ] at hzv
    have HZ := hideIt hZ
    have HB := hideIt (And.intro hb (And.intro nc h8))
    have HL : Hid (xs.length ≤ 300) := (by omega : xs.length ≤ 300)
    have L1 : Hid ((xs ++ [1]).length ≤ 301) := by show _ ≤ _; rw [List.length_append]; have := HL.out; simp; omega
    have U1 : Hid (U8 (xs ++ [1])) := h8.app (fun y hy => by simp at hy; omega)
    obtain ⟨n, hn⟩ : ∃ n, n = xs.length := ⟨_, rfl⟩
    rw [← hn] at d0 HB ⊢
    have HN := hideIt hn
    clear hb nc h8 hl hZ hn
    go_enter Try.func7, Try.ntmps7
    go_wp2_with fail
    refine A.out.mono ?_
    rintro e w1 ⟨rfl, o1⟩
    have O1 := hideIt o1
    have WN := hideIt (write_nil (.slice ao n cap) xs w1 (HB.out.1.past o1))
    clear o1 A
    go_wp2_with fail
    refine WN.out.mono ?_
    rintro e w1' ⟨rfl, rfl⟩
    have oX : Only (fun _ => False) w1 (w1.alloc (.cells Z.toArray 33)) := (Only.refl _ _).alloc _
    have hN : Hs (w1.alloc (.cells Z.toArray 33)) w1.heap.size [] := Hs.zero (by rw [← HZ.out]; exact Blk.new w1 33 Z)
    have bW := HB.out.1.past O1.out
    have W1 := hideIt (write_hs w1.heap.size [] xs (.slice ao n cap) _ hN (bW.past oX) HB.out.2.2 (fun hne j hj e => by have := bW.blk_lt hne j hj; omega) (by have := HL.out; simp; omega))
    have OX := hideIt oX
    clear WN oX hN bW
    go_wp2_with fail
    refine W1.out.mono ?_
    rintro e w2 ⟨rfl, hs2, on2⟩
    rw [List.nil_append] at hs2
    have hN2 : w1.heap.size < w2.heap.size := (Hs.lt (.inl hs2))
    have O2 := hideIt (O1.out.trans ((OX.out.mono (T := fun k => k = w1.heap.size) (fun _ _ f => f.elim)).trans on2 (fun _ _ e => e)) (fun i hi e => by have := O1.out.size; omega))
    have H2 := hideIt hs2
    have S1 := hideIt (hsum_hs w1.heap.size xs w2 (.inl hs2) (Nat.le_trans HL.out (by decide)))
    obtain ⟨NX, hNX⟩ : ∃ NX, NX = w1.heap.size := ⟨_, rfl⟩
    have HNX : Hid (w.heap.size ≤ NX ∧ NX < w2.heap.size) := by have := O1.out.size; exact ⟨by omega, by omega⟩
    rw [← hNX] at H2 S1 ⊢
    clear W1 on2 hs2 OX hN2 O1 hNX
    go_wp2_with fail
    refine S1.out.mono ?_
    rintro e w3 ⟨v3, rfl, own3, o3⟩
    obtain ⟨b3, g3, c3, rfl, l3⟩ := sum_form own3
    have O3 := hideIt (O2.out.same o3)
    have H3 := hideIt (Hs.past (.inl H2.out) o3)
    have OW3 := hideIt own3
    have G3 : Hid (NX < g3 ∧ g3 < w3.heap.size ∧ w.heap.size ≤ g3) := by
      have h1 := HNX.out
      have h2 := (own3.lt g3 rfl).2
      exact ⟨by omega, h2, by omega⟩
    have oL : Only (fun _ => False) w3 (w3.alloc (.cells #[.int .u8 1] 5)) := (Only.refl _ _).alloc _
    have W2 := hideIt (write_hs NX xs [1] (.slice (some ⟨w3.heap.size, 0, none⟩) 1 1) (w3.alloc (.cells #[.int .u8 1] 5)) (H3.out.past oL) (Bs.litN .u8 w3 5 [1] _ _ rfl rfl) (fun y hy => by simp at hy; omega) (fun _ j hj e => by
      simp [Value.ownBlock] at hj
      have := G3.out
      omega) (by have := HL.out; simp; omega))
    have OL := hideIt oL
    clear S1 o3 own3 b3 l3 oL H2 O2
    go_wp2_with fail
    refine W2.out.mono ?_
    rintro e w4 ⟨rfl, hs4, on4⟩
    have o34 : Only (fun k => k = NX) w3 w4 := (OL.out.mono (T := fun k => k = NX) (fun _ _ f => f.elim)).trans on4 (fun _ _ e => e)
    have O4 := hideIt (O3.out.trans o34 (fun i hi e => by have := HNX.out; omega))
    have H4 : Hid (Hs w4 NX (xs ++ [1])) := Or.inl hs4
    have OW4 := hideIt (o34.own OW3.out (fun k hk e => by simp [Value.ownBlock] at hk; have := G3.out; omega))
    have S2 := hideIt (hsum_hs NX (xs ++ [1]) w4 (.inl hs4) (Nat.le_trans L1.out (by decide)))
    have Z4 : Hid (w3.heap.size ≤ w4.heap.size) := o34.size
    clear W2 hs4 on4 o34 OL O3 OW3 H3
    go_wp2_with fail
    refine S2.out.mono ?_
    rintro e w5 ⟨v5, rfl, own5, o5⟩
    obtain ⟨b5, g5, c5, rfl, l5⟩ := sum_form own5
    have O5 := hideIt (O4.out.same o5)
    have H5 := hideIt (H4.out.past o5)
    have OW5 := hideIt (o5.own OW4.out (fun _ _ f => f))
    have B5 := hideIt b5
    have G5 : Hid (g3 < g5 ∧ w.heap.size ≤ g5) := by
      have h1 := G3.out
      have h2 := Z4.out
      exact ⟨by omega, by omega⟩
    have S3 := hideIt (sum_bs (.slice ao n cap) xs w5 (HB.out.1.past O5.out) HB.out.2.2 (Nat.le_trans HL.out (by decide)))
    clear S2 o5 own5 b5 l5 H4 O4 OW4
    go_wp2_with fail
    refine S3.out.mono ?_
    rintro e w6 ⟨v6, rfl, own6, o6⟩
    obtain ⟨b6, g6, c6, rfl, l6⟩ := sum_form own6
    have O6 := hideIt (O5.out.same o6)
    have H6 := hideIt (H5.out.past o6)
    have OW6 := hideIt (o6.own OW5.out (fun _ _ f => f))
    have B6 := hideIt (B5.out.past o6)
    have one6 := (sum_form OW6.out).1
    have SM := hideIt (lsame_eq _ _ (SHA xs) w6 one6 b6 (sha32n _))
    clear S3 o6 own6 b6 l6 H5 O5 OW5 B5 one6
    go_wp2_with fail
    refine SM.out.mono ?_
    rintro e w7 ⟨rfl, o7⟩
    have O7 := hideIt (O6.out.same o7)
    have H7 := hideIt (H6.out.past o7)
    have OW7 := o7.own OW6.out (fun _ _ f => f)
    have B7 := hideIt (B6.out.past o7)
    have c0 := sum_at (sum_form OW7).1 0 (by decide)
    have f0 := own_froz OW7 0
    obtain ⟨y, hy⟩ : ∃ y, y = (SHA xs).getD 0 0 := ⟨_, rfl⟩
    rw [← hy] at c0
    have hc3 : 32 ≤ c3 := by obtain ⟨_, _, e, h, _⟩ := (sum_form OW7).1; simp at e; obtain ⟨_, _, rfl⟩ := e; rw [SHA_len] at h; exact h
    clear hy SM o7 H6 O6 OW6 B6 OW7
    obtain ⟨y2, hy2⟩ : ∃ y2, bits .xor .u8 y 255 = y2 := ⟨_, rfl⟩
    have on8 : Only (fun k => k = g3) w7 (w7.setCell ⟨g3, 0, none⟩ (.int .u8 y2)) := (Only.refl (fun k => k = g3) w7).setCell (p := ⟨g3, 0, none⟩) (fun _ => rfl) _
    have O8 := hideIt (O7.out.trans on8 (fun i hi e => by have := G3.out; omega))
    have H8 := hideIt (H7.out.keep on8 (fun e => by have := G3.out; omega))
    have B8 := hideIt (B7.out.keep on8 (fun b hb e => by simp [Value.ownBlock] at hb; have := G5.out; omega))
    have LN := hideIt (len_nil (w7.setCell ⟨g3, 0, none⟩ (.int .u8 y2)))
    have S4 := hideIt (hsum_nil (w7.setCell ⟨g3, 0, none⟩ (.int .u8 y2)))
    obtain ⟨w8, hw8⟩ : ∃ w8, w8 = w7.setCell ⟨g3, 0, none⟩ (.int .u8 y2) := ⟨_, rfl⟩
    have HW8 := hideIt hw8
    rw [← hw8] at O8 H8 B8
    clear on8 O7 H7 B7 hw8
    go_wp2_with fail
    refine LN.out.mono ?_
    rintro e w8' ⟨rfl, rfl⟩
    go_wp2_with fail
    refine S4.out.mono ?_
    rintro e w9 ⟨v9, rfl, own9, o9⟩
    obtain ⟨b9, g9, c9, rfl, l9⟩ := sum_form own9
    rw [← HW8.out] at o9
    have O9 := hideIt (O8.out.same o9)
    have H9 := hideIt (H8.out.past o9)
    have B9 := hideIt (B8.out.past o9)
    have T9 := hideIt b9
    have S5 := hideIt (sum_bs (.slice none 0 0) [] w9 (Bs.nil _ _) (by intro y hy; cases hy) (by decide))
    clear LN S4 o9 own9 b9 l9 O8 H8 B8 HW8 c0 f0 hy2
    go_wp2_with fail
    refine S5.out.mono ?_
    rintro e w10 ⟨v10, rfl, own10, o10⟩
    obtain ⟨b10, g10, c10, rfl, l10⟩ := sum_form own10
    have O10 := hideIt (O9.out.same o10)
    have H10 := hideIt (H9.out.past o10)
    have B10 := hideIt (B9.out.past o10)
    have S6 := hideIt (lsame_eq _ _ (SHA []) w10 (T9.out.past o10) b10 (sha32n _))
    clear S5 o10 own10 b10 l10 O9 H9 B9 T9
    go_wp2_with fail
    refine S6.out.mono ?_
    rintro e w11 ⟨rfl, o11⟩
    have O11 := hideIt (O10.out.same o11)
    have H11 := hideIt (H10.out.past o11)
    have B11 := hideIt (B10.out.past o11)
    clear S6 o11 O10 H10 B10
    have ho := World.ownsRow_made (base := w11.heap.size) (e := 5) (size := 1) w11 #[] 0 (Nat.le_refl _) (by unfold maxLen; omega) rfl
    have HA := hideIt (And.intro (HB.out.1.past (O11.out.alloc (.cells #[] 5))) HB.out.2.1)
    go_wp2_with (first
      | (at_builtin; refine wpList_append_bsW _ rfl _ _ 22 rfl w11.heap.size 5 i0 (.int .u8 0) 1 Try.underlying22 hi hz0 hz1 hz2 rfl (.slice (some ⟨w11.heap.size, 0, none⟩) 0 0) 0 [] rfl ho .u8 (.slice ao n cap) xs rfl HA.out.1 HA.out.2 (by have := HL.out; simp [maxLen]; omega) (by have := HL.out; omega) (by simp) ?_; intro v12 w12 hown12 hgrow12)
      | (at_builtin; refine wpList_append_bsW _ rfl _ _ 22 rfl w11.heap.size 5 i0 (.int .u8 0) 1 Try.underlying22 hi hz0 hz1 hz2 rfl v12 (0 + xs.length) _ rfl (hown12.alloc _) .u8 _ [1] rfl (Bs.litN .u8 w12 5 [1] _ _ rfl rfl) (NoCap.some _ _ _) (by have := HL.out; simp [maxLen]; omega) (by have := HL.out; simp; omega) (by have := hgrow12.size; simp at this ⊢; omega) ?_; intro v13 w13 hown13 hgrow13))
    have o12 : Only (fun _ => False) w11 w12 := ((Only.refl _ _).alloc _).grown hgrow12 (fun k hk e => by simp [Value.ownBlock] at e; omega)
    have o13 : Only (fun _ => False) w11 w13 := (o12.alloc _).grown hgrow13 (fun k hk e => by have := hown12.lt k e; omega)
    have b13 : Bs .u8 w13 v13 (xs ++ [1]) := Bs.of_own (by
      have := hown13
      rw [Nat.zero_add, List.nil_append, ← List.map_append] at this
      rw [List.length_append]; exact this)
    have O13 := hideIt (O11.out.same o13)
    have H13 := hideIt (H11.out.past o13)
    have B13 := hideIt (B11.out.past o13)
    have S7 := hideIt (sum_bs v13 (xs ++ [1]) w13 b13 U1.out (Nat.le_trans L1.out (by decide)))
    obtain ⟨ao13, cap13, e13⟩ := b13.len
    subst e13
    clear ho HA hown12 hgrow12 hown13 hgrow13 o12 o13 b13 O11 H11 B11
    go_wp2_with fail
    refine S7.out.mono ?_
    rintro e w14 ⟨v14, rfl, own14, o14⟩
    obtain ⟨b14, g14, c14, rfl, l14⟩ := sum_form own14
    have O14 := hideIt (O13.out.same o14)
    have H14 := hideIt (H13.out.past o14)
    have B14 := hideIt (B13.out.past o14)
    have S8 := hideIt (lsame_eq _ _ (SHA (xs ++ [1])) w14 B14.out b14 (sha32n _))
    clear S7 o14 own14 b14 l14 O13 H13 B13
    go_wp2_with fail
    refine S8.out.mono ?_
    rintro e w15 ⟨rfl, o15⟩
    have O15 := hideIt (O14.out.same o15)
    have H15 := hideIt (H14.out.past o15)
    have B15 := hideIt (B14.out.past o15)
    have S9 := hideIt (hsum_hs NX (xs ++ [1]) w15 H15.out (Nat.le_trans L1.out (by decide)))
    clear S8 o15 O14 H14 B14
    go_wp2_with fail
    refine S9.out.mono ?_
    rintro e w16 ⟨v16, rfl, own16, o16⟩
    obtain ⟨b16, g16, c16, rfl, l16⟩ := sum_form own16
    have O16 := hideIt (O15.out.same o16)
    have S10 := hideIt (lsame_eq _ _ (SHA (xs ++ [1])) w16 b16 (B15.out.past o16) (sha32n _))
    clear S9 o16 own16 b16 l16 O15 H15 B15
    go_wp2_with fail
    refine S10.out.mono ?_
    rintro e w17 ⟨rfl, o17⟩
    have O17 := hideIt (O16.out.same o17)
    clear S10 o17 O16
    go_wp2
    go_ret
    exact ⟨rfl, O17.out.low (Nat.le_refl _)⟩
end Go.Proofs.Ytmkfgfcncklchaa
