/- tagOf: a settled number in 16 bytes. -/
import Derived.Test.YtjiippbjflpkkaaSe
namespace Go.Proofs.Ytjiippbjflpkkaa
open Go.RowKit

theorem leB_snoc (n x : Nat) : leB (n + 1) x = leB n x ++ [((x / 256 ^ n % 256 : Nat) : Int)] := by
  induction n generalizing x with
  | zero => simp [leB]
  | succ n ih =>
    show ((x % 256 : Nat) : Int) :: leB (n + 1) (x / 256) = ((x % 256 : Nat) : Int) :: leB n (x / 256) ++ _
    rw [ih, Nat.div_div_eq_div_mul, Nat.pow_succ, Nat.mul_comm (256 ^ n) 256]; rfl
theorem or_top (a y m : Nat) (ha : a < 2 ^ m) : a ||| y * 2 ^ m = a + y * 2 ^ m := by
  have := Nat.two_pow_add_eq_or_of_lt ha y
  rw [Nat.or_comm, Nat.mul_comm y, ← this, Nat.add_comm]
theorem pow26 (n k h : Nat) (e : 26 * n = 8 * k + h) : 67108864 ^ n = 256 ^ k * 2 ^ h := by
  rw [show (67108864 : Nat) = 2 ^ 26 from rfl, show (256 : Nat) = 2 ^ 8 from rfl, ← Nat.pow_mul, ← Nat.pow_mul, ← Nat.pow_add, e]
theorem tag_or (s : List Nat) (hs : s.length = 5) (hb : LB 67108864 s) (n k h : Nat) (hn : n < 5) (e : 26 * n = 8 * k + h) :
    LV (s.take n) / 256 ^ k < 2 ^ h ∧ LV (s.take n) / 256 ^ k + s.getD n 0 * 2 ^ h = LV (s.take (n + 1)) / 256 ^ k := by
  have h1 := LV_lt (s.take n) (hb.take (by decide) n)
  rw [List.length_take, Nat.min_eq_left (by omega), pow26 n k h e] at h1
  have h2 := LV_next s n (by omega)
  rw [pow26 n k h e] at h2
  have hp : 0 < 256 ^ k := Nat.pow_pos (by decide)
  refine ⟨Nat.div_lt_of_lt_mul h1, ?_⟩
  rw [h2, Nat.mul_assoc, Nat.add_mul_div_left _ _ hp, Nat.mul_comm (2 ^ h)]
theorem tag_byte (s : List Nat) (m j : Nat) (hm : m ≤ s.length) (e : 8 * (j + 1) ≤ 26 * m) : LV (s.take m) / 256 ^ j % 256 = LV s / 256 ^ j % 256 := by
  have h := LV_app (s.take m) (s.drop m)
  rw [List.take_append_drop, List.length_take, Nat.min_eq_left hm, pow26 m j (26 * m - 8 * j) (by omega)] at h
  have hp : 0 < 256 ^ j := Nat.pow_pos (by decide)
  rw [h, Nat.mul_assoc, Nat.add_mul_div_left _ _ hp, show 26 * m - 8 * j = (26 * m - 8 * j - 8) + 8 by omega, Nat.pow_add, show (2 : Nat) ^ 8 = 256 from rfl, Nat.mul_comm _ 256, Nat.mul_assoc, Nat.add_mul_mod_self_left]
theorem tag_shr (x j : Nat) : x / 256 ^ j / 256 = x / 256 ^ (j + 1) := by rw [Nat.div_div_eq_div_mul, Nat.pow_succ]
theorem bl_snoc (n x : Nat) : bl (leB (n + 1) x) = bl (leB n x) ++ [.int .u8 ((x / 256 ^ n % 256 : Nat) : Int)] := by
  rw [leB_snoc]; simp [bl]
set_option maxHeartbeats 1600000 in
set_option maxRecDepth 100000 in
theorem ptagOf_any (s : List Nat) (hs : s.length = 5) (hb : LB 67108864 s) (w : World) :
    Calls Try.prog 39 #[.agg (ul s).toArray] w fun e w' => ∃ v, e = .returned v ∧ w'.ownsRow w.heap.size 5 1 v 16 (bl (leB 16 (LV s))) ∧ Only (fun _ => False) w w' := by
  obtain ⟨i0, hi, hz0, hz1, hz2⟩ := info_parts Try.infoU8
  have XA := hideIt (ix_u5 s hs)
  have HSZ := hideIt (ul_size s hs)
  obtain ⟨B, hB⟩ : ∃ B, B = ul s := ⟨_, rfl⟩
  rw [← hB] at XA HSZ ⊢
  have HS := hideIt (And.intro hs hb)
  have hmk : ∀ w, (Instr.makeSlice 22 (.int .i64 0) (.int .i64 16)).run Try.prog w = .ok (.slice (some ⟨w.heap.size, 0, none⟩) 0 16) (w.alloc (.cells (bl (List.replicate 16 0)).toArray 5)) := fun _ => by kernel_rfl
  obtain ⟨Y, hY⟩ : ∃ Y, Y = bl (List.replicate 16 0) := ⟨_, rfl⟩
  have hYl : Y.toArray.size = 16 := by rw [hY]; simp [bl_len]
  rw [← hY] at hmk
  have START : Hid (((w.alloc (.cells B.toArray 47)).alloc (.cells Y.toArray 5)).ownsRow w.heap.size 5 1 (.slice (some ⟨w.heap.size + 1, 0, none⟩) 0 16) 0 [] ∧ Only (fun _ => False) w ((w.alloc (.cells B.toArray 47)).alloc (.cells Y.toArray 5))) := by
    have h := World.ownsRow_made (base := w.heap.size) (e := 5) (size := 1) (w.alloc (.cells B.toArray 47)) Y.toArray 16 (by rw [size_alloc]; omega) (by unfold maxLen; omega) (by rw [hYl])
    rw [size_alloc] at h
    exact ⟨h, ((Only.refl _ _).alloc _).alloc _⟩
  have HB1 : Hid (Blk ((w.alloc (.cells B.toArray 47)).alloc (.cells Y.toArray 5)) w.heap.size 47 B) := (Blk.new w 47 B).alloc _
  clear hB hs hb hY hYl
  go_enter Try.func39, Try.ntmps39
  go_wp2_with (first | (refine wpList_load_row rfl 47 (.tmp 1) rfl w.heap.size rfl 47 B.toArray (0, 0) _ HB1.out Try.underlying47 rfl HSZ.out ?_))
  obtain ⟨W0, hW0⟩ : ∃ W0, W0 = (w.alloc (.cells B.toArray 47)).alloc (.cells Y.toArray 5) := ⟨_, rfl⟩
  rw [← hW0] at START ⊢
  clear hW0 HB1
  go_loopw [3, 4, 5, 10] (fun o h b i wr => ∃ n : Nat, n ≤ 5 ∧ i = .int .i64 n ∧ b = .int .i64 (26 * n % 8 : Nat) ∧ h = .int .u64 (LV (s.take n) / 256 ^ (26 * n / 8) : Nat) ∧ wr.ownsRow w.heap.size 5 1 o (26 * n / 8) (bl (leB (26 * n / 8) (LV s))) ∧ Only (fun _ => False) w wr) (fun _ _ _ i _ => 5 - (intOf i).toNat)
  case atStart => exact ⟨0, by omega, rfl, rfl, by simp [LV], START.out⟩
  case round =>
    obtain ⟨n, hn, rfl, rfl, rfl, hown, hon⟩ := hrel
    clear START
    by_cases hlt : n < 5
    · have hix := XA.out n hlt
      have hx := HS.out.2 n
      obtain ⟨k, hk⟩ : ∃ k, k = 26 * n / 8 := ⟨_, rfl⟩
      obtain ⟨h, hh⟩ : ∃ h, h = 26 * n % 8 := ⟨_, rfl⟩
      have he : 26 * n = 8 * k + h := by omega
      have hto := tag_or s HS.out.1 HS.out.2 n k h hlt he
      have hm : n + 1 ≤ s.length := by rw [HS.out.1]; exact hlt
      rw [← hk] at hown ⊢
      rw [← hh]
      obtain ⟨x, hxx⟩ : ∃ x, x = s.getD n 0 := ⟨_, rfl⟩
      rw [← hxx] at hix hx hto
      obtain ⟨T, hT⟩ : ∃ T, T = LV (s.take (n + 1)) := ⟨_, rfl⟩
      have HT : Hid (T = LV (s.take (n + 1)) ∧ ∀ j, 8 * (j + 1) ≤ 26 * (n + 1) → T / 256 ^ j % 256 = LV s / 256 ^ j % 256) := ⟨hT, fun j hj => by rw [hT]; exact tag_byte s (n + 1) j hm hj⟩
      rw [← hT] at hto
      obtain ⟨q, hq⟩ : ∃ q, q = LV (s.take n) / 256 ^ k := ⟨_, rfl⟩
      rw [← hq] at hto ⊢
      have hh7 : h ≤ 7 := by omega
      have hpw : 2 ^ h ≤ 2 ^ 7 := Nat.pow_le_pow_right (by decide) hh7
      obtain ⟨t, ht⟩ : ∃ t, t = x * 2 ^ h := ⟨_, rfl⟩
      have htl : t ≤ 67108864 * 128 := by rw [ht]; exact Nat.mul_le_mul (by omega) hpw
      have hti : (x : Int) * 2 ^ h = (t : Int) := by rw [ht]; simp
      have s1 : IntKind.u64.wrap ((x : Int) * 2 ^ h) = (t : Int) := by rw [hti, wrap64 t (by omega)]
      have s2 : ((x : Int) * 2 ^ h) % 18446744073709551616 = (t : Int) := by rw [hti]; omega
      obtain ⟨p, hp⟩ : ∃ p, p = T / 256 ^ k := ⟨_, rfl⟩
      have hor : bits .or .u64 (q : Int) (t : Int) = (p : Int) := by
        rw [u64_or_nat _ _ (by omega) (by omega), ht, or_top _ _ _ hto.1, hp, hto.2]
      have hr6 : (h : Int) ≤ 64 := by omega
      have HP := hideIt (And.intro hp (And.intro hk he))
      have HO := hideIt (And.intro hown hon)
      have i1 : (n : Int) < 5 := by omega
      have hsum : IntKind.i64.wrap ((h : Int) + 26) = ((h + 26 : Nat) : Int) := by rw [IntKind.wrap_i64]; omega
      clear hx hxx hto hT hq hpw ht htl hti hp hown hon hk hh he hm
      go_wp2
      go_loopw [3, 4, 5] (fun o hd b wr => ∃ j d : Nat, 8 * j + d = 26 * (n + 1) ∧ b = .int .i64 (d : Nat) ∧ hd = .int .u64 (T / 256 ^ j : Nat) ∧ wr.ownsRow w.heap.size 5 1 o j (bl (leB j (LV s))) ∧ Only (fun _ => False) w wr) (fun _ _ b _ => (intOf b).toNat)
      case atStart =>
        have h3 := HP.out.2.2
        exact ⟨k, h + 26, by omega, by rfl, by rw [HP.out.1], HO.out⟩
      case round =>
        obtain ⟨j, d, hjd, rfl, rfl, hown, hon⟩ := hrel
        clear HO hix s1 s2 hor hsum
        by_cases hd8 : 8 ≤ d
        · have hby := HT.out.2 j (by omega)
          have hsh := tag_shr T j
          have hbs := bl_snoc j (LV s)
          rw [← hby] at hbs
          have hjj : j ≤ 16 := by omega
          obtain ⟨y, hy⟩ : ∃ y, y = T / 256 ^ j := ⟨_, rfl⟩
          rw [← hy] at hsh hbs ⊢
          have HE := hideIt (And.intro hbs hsh)
          have i2 : (8 : Int) ≤ (d : Int) := by omega
          have hsub : IntKind.i64.wrap ((d : Int) - 8) = ((d - 8 : Nat) : Int) := by rw [IntKind.wrap_i64]; omega
          have hsz := hon.size
          clear hby hsh hbs hy
          go_wp2_with (at_builtin; refine wpList_append_lies _ rfl _ _ _ rfl w.heap.size 5 i0 (.int .u8 0) 1 1 Try.underlying22 hi hz0 hz1 hz2 rfl (by omega) _ j (bl (leB j (LV s))) rfl (hown.alloc _) ⟨wr.heap.size, 0, none⟩ 1 1 [.int .u8 ((y : Int) % 256)] rfl rfl ?c1 ?c2 (by omega) ?c3 ?c4 ?c5 (wr.heap.size + 1) (by simp) ?_)
          case c1 => exact cell_one_new _ _ _
          case c2 => intro u hu; simp at hu; subst hu; rfl
          case c3 => unfold maxLen; omega
          case c4 => omega
          case c5 => simp; omega
          intro g cap1 w1 hown1 hgrow hat hg1
          have N1 : Hid (w1.ownsRow w.heap.size 5 1 (.slice (some ⟨g, 0, none⟩) (j + 1) cap1) (j + 1) (bl (leB (j + 1) (LV s))) ∧ Only (fun _ => False) w w1) := by
            refine ⟨?_, (hon.alloc _).grown hgrow (fun q hq e => by have := (hown.lt q e).1; omega)⟩
            rw [HE.out.1]
            exact hown1
          clear hown hown1 hgrow hat hon
          go_wp2
          go_roundw
          case rel => exact ⟨j + 1, d - 8, by omega, by go_num, by rw [← HE.out.2]; go_num, N1.out⟩
          case measure => simp [intOf]; omega
        · have hkj : 26 * (n + 1) / 8 = j ∧ 26 * (n + 1) % 8 = d := by omega
          have N2 : Hid (wr.ownsRow w.heap.size 5 1 u3 (26 * (n + 1) / 8) (bl (leB (26 * (n + 1) / 8) (LV s))) ∧ Only (fun _ => False) w wr) := by
            rw [hkj.1]; exact ⟨hown, hon⟩
          have HKJ := hideIt hkj
          have i2 : ¬ (8 : Int) ≤ (d : Int) := by omega
          clear hown hon hkj
          go_wp2
          go_roundw
          case rel => exact ⟨n + 1, by omega, by go_num, by rw [HKJ.out.2], by rw [HKJ.out.1, HT.out.1], N2.out⟩
          case measure => simp [intOf]; omega
    · obtain rfl : n = 5 := by omega
      have F1 := hideIt (And.intro hown hon)
      clear hown hon
      go_wp2
      go_ret
      exact ⟨_, rfl, F1.out⟩
end Go.Proofs.Ytjiippbjflpkkaa
