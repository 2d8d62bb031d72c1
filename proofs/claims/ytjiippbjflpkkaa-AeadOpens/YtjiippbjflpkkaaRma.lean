/- The document's own answer: MAC. -/
import Derived.Test.YtjiippbjflpkkaaRcl
import Derived.Test.YtjiippbjflpkkaaRre
import Derived.Test.YtjiippbjflpkkaaMc
import Derived.Deep.Cut
namespace Go.Proofs.Ytjiippbjflpkkaa
open Go.RowKit

/-- the first i digits, noughts behind the last -/
def dgs (A : List Int) (i : Nat) : List Int := (List.range i).map fun j => A.getD j 0
theorem dgs_len (A : List Int) (i : Nat) : (dgs A i).length = i := by simp [dgs]
theorem dgs_next (A : List Int) (i : Nat) : dgs A (i + 1) = dgs A i ++ [A.getD i 0] := by simp [dgs, List.range_succ]
theorem dgs_u8 (A : List Int) (h : U8 A) (i : Nat) : U8 (dgs A i) := fun y hy => by
  obtain ⟨j, _, rfl⟩ := List.mem_map.1 hy
  exact h.at j
theorem dgs_nv (A : List Int) (i : Nat) : nv (dgs A i) = nv (A.take i) := by
  induction i with
  | zero => rfl
  | succ i ih => rw [dgs_next, nv_snoc, dgs_len, ih, nv_next]
theorem dgs_leB (A : List Int) (h : U8 A) : dgs A 16 = leB 16 (nv A) := by
  refine nv_inj (dgs_u8 A h 16) (leB_u8 _ _) (by rw [dgs_len, leB_len]) ?_
  rw [dgs_nv, nv_leB]
  have h1 := nv_lt (A.take 16) (h.take 16)
  have h2 : 256 ^ (A.take 16).length ≤ 256 ^ 16 := Nat.pow_le_pow_right (by decide) (by rw [List.length_take]; omega)
  by_cases h3 : 16 ≤ A.length
  · rw [nv_split A 16 h3, Nat.add_mul_mod_self_left, Nat.mod_eq_of_lt (by omega)]
  · rw [List.take_of_length_le (by omega)] at h1 h2 ⊢
    rw [Nat.mod_eq_of_lt (by omega)]
theorem piece_of (xs : List Int) (k q : Nat) (hq : q = min 16 (xs.length - 16 * k)) : nv ((xs.drop (16 * k)).take q ++ [1]) = piece xs k := by
  have hl : ((xs.drop (16 * k)).take q).length = q := by rw [List.length_take, List.length_drop]; omega
  have h1 : (xs.drop (16 * k)).take q = (xs.drop (16 * k)).take 16 := by
    by_cases h : (xs.drop (16 * k)).length ≤ 16
    · rw [List.take_of_length_le (by rw [List.length_drop] at *; omega), List.take_of_length_le h]
    · rw [List.length_drop] at h
      rw [show q = 16 by omega]
  rw [nv_snoc, hl, h1, piece, hq]
  simp
set_option maxHeartbeats 1600000 in
set_option maxRecDepth 100000 in
theorem rmac_ok (vk vb : Value) (key xs : List Int) (hk : key.length = 32) (k8 : U8 key) (x8 : U8 xs) (hl : xs.length ≤ 100000) (w : World) (bk : Bs .u8 w vk key) (bb : Bs .u8 w vb xs) :
    Calls Try.prog 26 #[vk, vb] w fun e w' => ∃ v, e = .returned (.tuple #[v, .int .i64 0]) ∧ w'.ownsRow w.heap.size 5 1 v 16 (bl (TAG key xs)) ∧ Only (fun _ => False) w w' := by
  obtain ⟨i0, hi, hz0, hz1, hz2⟩ := info_parts Try.infoI
  obtain ⟨j0, hj, y0, y1, y2⟩ := info_parts Try.infoU8
  have CL := hideIt (rclamped_any vk key hk k8 w bk)
  obtain ⟨ao, kc, rfl⟩ := bk.len
  have hkc : 32 ≤ kc := by
    obtain ⟨_, _, e, h, _⟩ := bk
    simp at e
    omega
  obtain ⟨bo, bc, rfl⟩ := bb.len
  have hbc : xs.length ≤ bc := by
    obtain ⟨_, _, e, h, _⟩ := bb
    simp at e
    omega
  have HBB := hideIt bb
  rw [hk] at bk CL ⊢
  have hd16 : (key.drop 16).length = 16 := by rw [List.length_drop, hk]
  have NS := hideIt (fun (W : World) (o : Only (fun _ => False) w W) => rnumber_any _ (key.drop 16) (by rw [hd16]; decide) (k8.drop 16) W ((bk.cut (n := 16) (by decide)).past o))
  rw [hd16] at NS
  have HK : Hid (U8 (clampD key) ∧ (clampD key).length = 16 ∧ U8 (key.drop 16) ∧ (key.drop 16).length = 16 ∧ U8 xs ∧ TAG key xs = leB 16 (pacc (nv (clampD key)) xs ((xs.length + 15) / 16) + nv (key.drop 16))) := ⟨clampD_u8 key k8, clampD_len key, k8.drop 16, hd16, x8, rfl⟩
  obtain ⟨TG, hTG⟩ : ∃ TG, TG = TAG key xs := ⟨_, rfl⟩
  rw [← hTG] at HK ⊢
  obtain ⟨R, hR⟩ : ∃ R, R = clampD key := ⟨_, rfl⟩
  rw [← hR] at CL HK
  obtain ⟨n, hn⟩ : ∃ n, n = xs.length := ⟨_, rfl⟩
  have HN := hideIt hn
  rw [← hn] at hl hbc HBB HK ⊢
  have m1 : ¬ (kc : Int) = 16 := by omega
  have m2 : (32 : Int) ≤ (kc : Int) := by omega
  have m3 : (16 : Int) ≤ (kc : Int) := by omega
  have m4 : ¬ kc = 16 := by omega
  clear bk bb k8 x8 hd16 hTG hR hn hk
  go_enter Try.func26, Try.ntmps26
  go_wp2_with fail
  refine CL.out.mono ?_
  rintro e w1 ⟨vr, rfl, own1, o1⟩
  have HR1 : Hid (Bs .i64 w1 vr R ∧ Only (fun _ => False) w w1) := ⟨Bs.of_il (lo := w.heap.size) (by rw [HK.out.2.1]; exact own1), o1⟩
  clear own1 o1 CL
  go_wp2
  go_loopw [7, 8] (fun o i wr => ∃ (k : Nat) (A : List Int), 16 * k ≤ n + 15 ∧ i = .int .i64 (16 * k : Nat) ∧ Bs .i64 wr o A ∧ U8 A ∧ A.length ≤ 17 ∧ nv A = pacc (nv R) xs k ∧ Only (fun _ => False) w1 wr) (fun _ i _ => n + 16 - (intOf i).toNat)
  case atStart => exact ⟨0, [], by omega, rfl, Bs.nil _ _, (fun y hy => by cases hy), by simp, rfl, Only.refl _ _⟩
  case round =>
    obtain ⟨k, A, hk, rfl, hbA, a8, al, anv, hon⟩ := hrel
    obtain ⟨p, hp⟩ : ∃ p, p = 16 * k := ⟨_, rfl⟩
    rw [← hp]
    by_cases hlt : p < n
    · obtain ⟨q, hq⟩ : ∃ q, q = min 16 (n - p) := ⟨_, rfl⟩
      have hbx := (HBB.out.past (HR1.out.2.same hon)).cut (n := p) (by omega)
      have hbq := hbx.head (n := q) (by omega)
      have hql : ((xs.drop p).take q).length = q := by rw [List.length_take, List.length_drop, ← HN.out]; omega
      have NU := hideIt (rnumber_any _ ((xs.drop p).take q) (by rw [hql]; omega) ((HK.out.2.2.2.2.1.drop p).take q) wr hbq)
      rw [hql] at NU
      have hpc : nv ((xs.drop p).take q ++ [1]) = piece xs k := by rw [hp]; exact piece_of xs k q (by rw [← HN.out, ← hp]; exact hq)
      have HA := hideIt (And.intro hbA (And.intro a8 (And.intro al (And.intro anv (And.intro hpc (And.intro hql hon))))))
      obtain ⟨PX, hPX⟩ : ∃ PX, PX = (xs.drop p).take q := ⟨_, rfl⟩
      have HP8 : Hid (U8 PX) := by rw [hPX]; exact (HK.out.2.2.2.2.1.drop p).take q
      rw [← hPX] at NU HA
      -- PARTS
      have f1 : (p : Int) < (n : Int) := by omega
      obtain ⟨s16, hs16⟩ : ∃ s16, s16 = p + 16 := ⟨_, rfl⟩
      have f2 : (p : Int) + 16 = (s16 : Int) := by omega
      have f2b : (s16 : Int) ≤ 200000 := by omega
      have f3 : (0 : Int) ≤ (p : Int) := by omega
      have f7 : ¬ bc = p := by omega
      have f8 : ¬ (bc : Int) = (p : Int) := by omega
      have f9 : p ≤ n ∧ p ≤ 100000 ∧ q ≤ 16 := by omega
      have HQ := hideIt (And.intro hp (And.intro hq hPX))
      clear hbA a8 al anv hon hbx hbq hql hpc hPX
      rcases Nat.lt_or_ge n s16 with hm | hm
      · have g2 : (n : Int) < (s16 : Int) := by omega
        have g6 : n - p = q := by omega
        have g7 : (p : Int) ≤ (n : Int) := by omega
        have g8 : (n : Int) ≤ (bc : Int) := by omega
        clear hp hq hs16
        go_wp2_with fail
        refine NU.out.mono ?_
        rintro e w2 ⟨v2, rfl, own2, o2⟩
        have hsz2 := o2.size
        have hq16 := f9.2.2
        go_upto_region 10 with (at_builtin; refine wpList_append_lies _ rfl _ _ _ rfl wr.heap.size 3 i0 (.int .i64 0) 1 8 Try.underlying61 hi hz0 hz1 hz2 rfl (by omega) _ q (il PX) rfl (own2.alloc _) ⟨w2.heap.size, 0, none⟩ 1 1 [.int .i64 1] rfl rfl (cell_one_new _ _ _) (fun u hu => by simp at hu; subst hu; rfl) (by omega) (by unfold maxLen; omega) (by omega) (by simp; omega) (w2.heap.size + 1) (by simp) ?_; intro g cap1 w3 hown1 hgrow hat hg1)
        have K3 : Hid (Bs .i64 w3 (.slice (some ⟨g, 0, none⟩) (q + 1) cap1) (PX ++ [1]) ∧ Only (fun _ => False) wr w3 ∧ U8 (PX ++ [1]) ∧ (PX ++ [1]).length ≤ 17) := by
          have hl1 : (PX ++ [1]).length = q + 1 := by rw [List.length_append, HA.out.2.2.2.2.2.1]; rfl
          refine ⟨Bs.of_il (lo := wr.heap.size) ?_, (o2.alloc _).grown hgrow (fun q hq e => by have := (own2.lt q e).1; omega), HP8.out.snoc _ (by decide), by omega⟩
          rw [hl1, il_app]
          exact hown1
        have AD := hideIt (radd_any u7 _ A (PX ++ [1]) (by have := HA.out.2.2.1; omega) (by have := K3.out.2.2.2; omega) HA.out.2.1 K3.out.2.2.1 w3 (HA.out.1.past K3.out.2.1) K3.out.1)
        clear own2 o2 hown1 hgrow hat NU hsz2
        go_wp2_with fail
        refine AD.out.mono ?_
        rintro e w4 ⟨v4, rfl, S4, own4, s48, s4n, s4l, o4⟩
        have O4 := hideIt (K3.out.2.1.same o4)
        have S4L : Hid (S4.length ≤ 18 ∧ nv S4 = pacc (nv R) xs k + piece xs k) := ⟨by have := K3.out.2.2.2; have := HA.out.2.2.1; omega, by rw [s4n, HA.out.2.2.2.1, HA.out.2.2.2.2.1]⟩
        have MU := hideIt (rmul_any v4 vr S4 R (by have := S4L.out.1; omega) (by rw [HK.out.2.1]; decide) s48 HK.out.1 w4 (Bs.of_il own4) (HR1.out.1.past (HA.out.2.2.2.2.2.2.same O4.out)))
        rw [HK.out.2.1] at MU
        clear own4 s48 s4n s4l o4 AD K3
        go_wp2_with fail
        refine MU.out.mono ?_
        rintro e w5 ⟨v5, rfl, S5, own5, s58, s5n, s5l, o5⟩
        have O5 := hideIt (O4.out.same o5)
        have S5L : Hid (nv S5 % PP = pacc (nv R) xs (k + 1)) := by
          show _ = _
          rw [s5n, S4L.out.2]; rfl
        have RE := hideIt (rrest_any v5 S5 (by have := S4L.out.1; omega) s58 w5 (Bs.of_il own5))
        rw [S5L.out] at RE
        clear own5 s58 s5n s5l o5 MU O4
        go_wp2_with fail
        refine RE.out.mono ?_
        rintro e w6 ⟨v6, rfl, S6, b6, s68, s6n, s6l, o6⟩
        have N6 : Hid (Bs .i64 w6 v6 S6 ∧ U8 S6 ∧ S6.length ≤ 17 ∧ nv S6 = pacc (nv R) xs (k + 1) ∧ Only (fun _ => False) w1 w6) := ⟨b6, s68, s6l, s6n, HA.out.2.2.2.2.2.2.same (O5.out.same o6)⟩
        clear b6 s68 s6n s6l o6 RE O5
        go_wp2
        go_roundw
        case rel =>
          have hp := HQ.out.1
          exact ⟨k + 1, S6, by omega, by go_num, N6.out⟩
        case measure => simp [intOf]; omega
      · have g1 : ¬ n < s16 := by omega
        have g2 : ¬ (n : Int) < (s16 : Int) := by omega
        have g6 : s16 - p = q := by omega
        have g7 : (p : Int) ≤ (s16 : Int) := by omega
        have g8 : (s16 : Int) ≤ (bc : Int) := by omega
        have g9 : p < s16 := by omega
        clear hp hq hs16
        go_wp2_with fail
        refine NU.out.mono ?_
        rintro e w2 ⟨v2, rfl, own2, o2⟩
        have hsz2 := o2.size
        have hq16 := f9.2.2
        go_upto_region 10 with (at_builtin; refine wpList_append_lies _ rfl _ _ _ rfl wr.heap.size 3 i0 (.int .i64 0) 1 8 Try.underlying61 hi hz0 hz1 hz2 rfl (by omega) _ q (il PX) rfl (own2.alloc _) ⟨w2.heap.size, 0, none⟩ 1 1 [.int .i64 1] rfl rfl (cell_one_new _ _ _) (fun u hu => by simp at hu; subst hu; rfl) (by omega) (by unfold maxLen; omega) (by omega) (by simp; omega) (w2.heap.size + 1) (by simp) ?_; intro g cap1 w3 hown1 hgrow hat hg1)
        have K3 : Hid (Bs .i64 w3 (.slice (some ⟨g, 0, none⟩) (q + 1) cap1) (PX ++ [1]) ∧ Only (fun _ => False) wr w3 ∧ U8 (PX ++ [1]) ∧ (PX ++ [1]).length ≤ 17) := by
          have hl1 : (PX ++ [1]).length = q + 1 := by rw [List.length_append, HA.out.2.2.2.2.2.1]; rfl
          refine ⟨Bs.of_il (lo := wr.heap.size) ?_, (o2.alloc _).grown hgrow (fun q hq e => by have := (own2.lt q e).1; omega), HP8.out.snoc _ (by decide), by omega⟩
          rw [hl1, il_app]
          exact hown1
        have AD := hideIt (radd_any u7 _ A (PX ++ [1]) (by have := HA.out.2.2.1; omega) (by have := K3.out.2.2.2; omega) HA.out.2.1 K3.out.2.2.1 w3 (HA.out.1.past K3.out.2.1) K3.out.1)
        clear own2 o2 hown1 hgrow hat NU hsz2
        go_wp2_with fail
        refine AD.out.mono ?_
        rintro e w4 ⟨v4, rfl, S4, own4, s48, s4n, s4l, o4⟩
        have O4 := hideIt (K3.out.2.1.same o4)
        have S4L : Hid (S4.length ≤ 18 ∧ nv S4 = pacc (nv R) xs k + piece xs k) := ⟨by have := K3.out.2.2.2; have := HA.out.2.2.1; omega, by rw [s4n, HA.out.2.2.2.1, HA.out.2.2.2.2.1]⟩
        have MU := hideIt (rmul_any v4 vr S4 R (by have := S4L.out.1; omega) (by rw [HK.out.2.1]; decide) s48 HK.out.1 w4 (Bs.of_il own4) (HR1.out.1.past (HA.out.2.2.2.2.2.2.same O4.out)))
        rw [HK.out.2.1] at MU
        clear own4 s48 s4n s4l o4 AD K3
        go_wp2_with fail
        refine MU.out.mono ?_
        rintro e w5 ⟨v5, rfl, S5, own5, s58, s5n, s5l, o5⟩
        have O5 := hideIt (O4.out.same o5)
        have S5L : Hid (nv S5 % PP = pacc (nv R) xs (k + 1)) := by
          show _ = _
          rw [s5n, S4L.out.2]; rfl
        have RE := hideIt (rrest_any v5 S5 (by have := S4L.out.1; omega) s58 w5 (Bs.of_il own5))
        rw [S5L.out] at RE
        clear own5 s58 s5n s5l o5 MU O4
        go_wp2_with fail
        refine RE.out.mono ?_
        rintro e w6 ⟨v6, rfl, S6, b6, s68, s6n, s6l, o6⟩
        have N6 : Hid (Bs .i64 w6 v6 S6 ∧ U8 S6 ∧ S6.length ≤ 17 ∧ nv S6 = pacc (nv R) xs (k + 1) ∧ Only (fun _ => False) w1 w6) := ⟨b6, s68, s6l, s6n, HA.out.2.2.2.2.2.2.same (O5.out.same o6)⟩
        clear b6 s68 s6n s6l o6 RE O5
        go_wp2
        go_roundw
        case rel =>
          have hp := HQ.out.1
          exact ⟨k + 1, S6, by omega, by go_num, N6.out⟩
        case measure => simp [intOf]; omega
    · have hkk : k = (n + 15) / 16 := by omega
      have j1 : ¬ (p : Int) < (n : Int) := by omega
      have O1 := hideIt (HR1.out.2.same hon)
      have N2 := hideIt (NS.out wr (HR1.out.2.same hon))
      have HA := hideIt (And.intro hbA (And.intro a8 (And.intro al anv)))
      have HKK := hideIt hkk
      clear hbA a8 al anv hon hkk hp
      go_wp2_with fail
      refine N2.out.mono ?_
      rintro e w2 ⟨v2, rfl, own2, o2⟩
      have b2 : Bs .i64 w2 v2 (key.drop 16) := Bs.of_il (lo := wr.heap.size) (by rw [HK.out.2.2.2.1]; exact own2)
      have AD := hideIt (radd_any u7 v2 A (key.drop 16) (by have := HA.out.2.2.1; omega) (by rw [HK.out.2.2.2.1]; decide) HA.out.2.1 HK.out.2.2.1 w2 (HA.out.1.past o2) b2)
      have O2 := hideIt (O1.out.same o2)
      clear own2 o2 b2 N2
      go_wp2_with fail
      refine AD.out.mono ?_
      rintro e w3 ⟨v3, rfl, S3, own3, s38, s3n, s3l, o3⟩
      have O3 := hideIt (O2.out.same o3)
      have S3L : Hid (dgs S3 16 = TG ∧ U8 S3 ∧ S3.length ≤ 18 ∧ Bs .i64 w3 v3 S3) := by
        refine ⟨?_, s38, ?_, Bs.of_il own3⟩
        · rw [dgs_leB S3 s38, s3n, HA.out.2.2.2, HKK.out, HK.out.2.2.2.2.2]
        · have h1 := HA.out.2.2.1
          have h2 := HK.out.2.2.2.1
          omega
      obtain ⟨so, sc, rfl⟩ := own_form own3
      obtain ⟨m, hm⟩ : ∃ m, m = S3.length := ⟨_, rfl⟩
      have HM := hideIt hm
      rw [← hm] at S3L ⊢
      clear own3 s38 s3n s3l o3 AD O2 O1 hm
      go_wp2
      go_loopw [11, 12] (fun o i wr => ∃ n : Nat, n ≤ 16 ∧ i = .int .i64 n ∧ wr.ownsRow w3.heap.size 5 1 o n (bl (dgs S3 n)) ∧ Only (fun _ => False) w3 wr) (fun _ i _ => 16 - (intOf i).toNat)
      case atStart => exact ⟨0, by omega, rfl, World.ownsRow_nil .., Only.refl _ _⟩
      case round =>
        obtain ⟨n, hn, rfl, hown, hon⟩ := hrel
        have hsz := hon.size
        by_cases hlt : n < 16
        · have hsn := dgs_next S3 n
          have hy8 := S3L.out.2.1.at n
          have i1 : (n : Int) < 16 := by omega
          by_cases hlm : n < m
          · obtain ⟨b, off, cap', e, hc⟩ := (S3L.out.2.2.2.past hon).at n (by have := HM.out; omega)
            simp at e
            obtain ⟨rfl, -, rfl⟩ := e
            obtain ⟨y, hy⟩ : ∃ y, y = S3.getD n 0 := ⟨_, rfl⟩
            rw [← hy] at hsn hc hy8
            have HSN := hideIt hsn
            have i2 : (n : Int) < (m : Int) := by omega
            have e1 : y % 256 = y := by omega
            have e2 : IntKind.u8.wrap y = y := by rw [IntKind.wrap_u8']; omega
            clear hy hsn
            go_wp2_with (at_builtin; refine wpList_append_lies _ rfl _ _ _ rfl w3.heap.size 5 j0 (.int .u8 0) 1 1 Try.underlying22 hj y0 y1 y2 rfl (by omega) _ n (bl (dgs S3 n)) rfl (hown.alloc _) ⟨wr.heap.size, 0, none⟩ 1 1 [.int .u8 y] rfl rfl (cell_one_new _ _ _) (fun u hu => by simp at hu; subst hu; rfl) (by omega) (by unfold maxLen; omega) (by omega) (by simp; omega) (wr.heap.size + 1) (by simp) ?_)
            intro g cap1 w6 hown1 hgrow hat hg1
            have N1 : Hid (w6.ownsRow w3.heap.size 5 1 (.slice (some ⟨g, 0, none⟩) (n + 1) cap1) (n + 1) (bl (dgs S3 (n + 1))) ∧ Only (fun _ => False) w3 w6) := by
              refine ⟨?_, (hon.alloc _).grown hgrow (fun q hq e => by have := (hown.lt q e).1; omega)⟩
              rw [HSN.out]
              unfold bl
              rw [List.map_append]
              exact hown1
            clear hown hown1 hgrow hat hon hc
            go_wp2
            go_roundw
            case rel => exact ⟨n + 1, by omega, by go_num, N1.out⟩
            case measure => simp [intOf]; omega
          · rw [getD_none S3 n (by have := HM.out; omega)] at hsn
            have HSN := hideIt hsn
            have i2 : ¬ (n : Int) < (m : Int) := by omega
            clear hsn hy8
            go_wp2_with (at_builtin; refine wpList_append_lies _ rfl _ _ _ rfl w3.heap.size 5 j0 (.int .u8 0) 1 1 Try.underlying22 hj y0 y1 y2 rfl (by omega) _ n (bl (dgs S3 n)) rfl (hown.alloc _) ⟨wr.heap.size, 0, none⟩ 1 1 [.int .u8 0] rfl rfl (cell_one_new _ _ _) (fun u hu => by simp at hu; subst hu; rfl) (by omega) (by unfold maxLen; omega) (by omega) (by simp; omega) (wr.heap.size + 1) (by simp) ?_)
            intro g cap1 w6 hown1 hgrow hat hg1
            have N1 : Hid (w6.ownsRow w3.heap.size 5 1 (.slice (some ⟨g, 0, none⟩) (n + 1) cap1) (n + 1) (bl (dgs S3 (n + 1))) ∧ Only (fun _ => False) w3 w6) := by
              refine ⟨?_, (hon.alloc _).grown hgrow (fun q hq e => by have := (hown.lt q e).1; omega)⟩
              rw [HSN.out]
              unfold bl
              rw [List.map_append]
              exact hown1
            clear hown hown1 hgrow hat hon
            go_wp2
            go_roundw
            case rel => exact ⟨n + 1, by omega, by go_num, N1.out⟩
            case measure => simp [intOf]; omega
        · obtain rfl : n = 16 := by omega
          have F1 : Hid (wr.ownsRow w.heap.size 5 1 u11 16 (bl TG) ∧ Only (fun _ => False) w wr) := by
            rw [S3L.out.1] at hown
            exact ⟨own_low hown O3.out.size, O3.out.same hon⟩
          clear hown hon
          go_wp2
          go_ret2
          exact ⟨_, rfl, F1.out⟩
set_option maxHeartbeats 400000 in
set_option maxRecDepth 100000 in
theorem rmac_any (vk vb : Value) (key xs : List Int) (k8 : U8 key) (x8 : U8 xs) (hl : xs.length ≤ 100000) (w : World) (bk : Bs .u8 w vk key) (bb : Bs .u8 w vb xs) :
    Calls Try.prog 26 #[vk, vb] w fun e w' => ∃ v, e = .returned (.tuple #[v, .int .i64 (ME key)]) ∧ Bs .u8 w' v (MT key xs) ∧ NoCap v ∧ Only (fun _ => False) w w' := by
  by_cases hk : key.length = 32
  · have e1 : ME key = 0 := if_pos hk
    have e2 : MT key xs = TAG key xs := if_pos hk
    rw [e1, e2]
    refine (rmac_ok vk vb key xs hk k8 x8 hl w bk bb).mono ?_
    rintro e w' ⟨v, h1, h2, h3⟩
    exact ⟨v, h1, Bs.of_own (k := .u8) (E := 5) (lo := w.heap.size) (by rw [TAG_len]; exact h2), NoCap.of_own h2, h3⟩
  · have e1 : ME key = 1 := if_neg hk
    have e2 : MT key xs = [] := if_neg hk
    rw [e1, e2]
    obtain ⟨ao, kc, rfl⟩ := bk.len
    obtain ⟨n, hn⟩ : ∃ n, n = key.length := ⟨_, rfl⟩
    rw [← hn] at hk ⊢
    have h3 : ((n : Int) != 32) = true := by simp; omega
    clear bk bb hn e1 e2 k8 x8 hl
    go_enter Try.func26, Try.ntmps26
    go_wp2
    go_ret2
    exact ⟨_, rfl, Bs.nil _ _, NoCap.nil, Only.refl _ _⟩
end Go.Proofs.Ytjiippbjflpkkaa
