/- No two purposes and no two names have the same text: the walk. -/
import Derived.Test.YtbcfpiahhippaaaAw18
import Derived.Test.YtbcfpiahhippaaaAs18
import Derived.Laws.Strings
namespace Go.Proofs.Ytbcfpiahhippaaa
open Go.RowKit

theorem text_facts (W : World) (p : Int) (t : ByteArray) (c : Nat) (hc : t.size ≤ c) :
    (((W.alloc (.cells #[.int .u8 p, .int .u8 (t.size : Int)] 5)).alloc (bytesObj t c)).alloc (.cells #[.int .u8 1] 5)).drew.heap[W.heap.size + 1]? = some (bytesObj t c) ∧ t.size ≤ c ∧
    (((W.alloc (.cells #[.int .u8 p, .int .u8 (t.size : Int)] 5)).alloc (bytesObj t c)).alloc (.cells #[.int .u8 1] 5)).drew.cell? ⟨W.heap.size + 2, 0, none⟩ = some (.int .u8 1) ∧
    (((W.alloc (.cells #[.int .u8 p, .int .u8 (t.size : Int)] 5)).alloc (bytesObj t c)).alloc (.cells #[.int .u8 1] 5)).drew.ownsRow W.heap.size 5 1 (.slice (some ⟨W.heap.size, 0, none⟩) 2 2) 2 (bl [p, (t.size : Int)]) ∧
    Only (fun _ => False) W (((W.alloc (.cells #[.int .u8 p, .int .u8 (t.size : Int)] 5)).alloc (bytesObj t c)).alloc (.cells #[.int .u8 1] 5)).drew := by
  have o1 : Only (fun _ => False) (W.alloc (.cells #[.int .u8 p, .int .u8 (t.size : Int)] 5)) (((W.alloc (.cells #[.int .u8 p, .int .u8 (t.size : Int)] 5)).alloc (bytesObj t c)).alloc (.cells #[.int .u8 1] 5)).drew := (((Only.refl _ _).alloc _).alloc _).drew
  refine ⟨heap_drew_at (heap_alloc_old (heap_at_new (by simp))), hc, ?_, ?_, ?_⟩
  · have h : (((W.alloc (.cells #[.int .u8 p, .int .u8 (t.size : Int)] 5)).alloc (bytesObj t c)).alloc (.cells #[.int .u8 1] 5)).drew.heap[W.heap.size + 2]? = some (.cells #[.int .u8 1] 5) := heap_drew_at (heap_at_new (by simp))
    unfold World.cell?
    simp only
    rw [h]; rfl
  · exact o1.own (own_of_blk (n := 2) (Blk.new W 5 (bl [p, (t.size : Int)])) (Nat.le_refl _) (by unfold maxLen; omega) rfl) (fun _ _ f => f)
  · exact (((((Only.refl _ _).alloc _).alloc _).alloc _).drew)
theorem text_done {W w3 w4 : World} {p : Int} {t : ByteArray} {v : Value} (ht : t.size ≤ 64) (own3 : w3.ownsRow W.heap.size 5 1 (.slice (some ⟨W.heap.size, 0, none⟩) 2 2) 2 (bl [p, (t.size : Int)])) (h : w4.ownsRow W.heap.size 5 1 v (2 + ((sb t).length + 1)) (bl [p, (t.size : Int)] ++ ((sb t).map (Value.int .u8) ++ [.int .u8 1]))) (hg : w3.grownBy w4 (Value.slice (some ⟨W.heap.size, 0, none⟩) 2 2).ownBlock) (o : Only (fun _ => False) W w3) :
    Bs .u8 w4 v (KTX p (sb t) ++ [1]) ∧ Only (fun _ => False) W w4 := by
  refine ⟨?_, o.grown hg (fun j hj e => by have := (own3.lt j e).1; omega)⟩
  have e : KTX p (sb t) ++ [1] = [p, (t.size : Int)] ++ (sb t ++ [1]) := by
    rw [KTX_small p (sb t) (by rw [sb_len]; omega), sb_len]; rfl
  rw [e]
  refine Bs.of_own (k := .u8) (E := 5) (lo := W.heap.size) ?_
  rw [List.length_append, List.map_append, List.map_append, List.length_append]
  exact h
theorem str_ne {a b : ByteArray} (h : a ≠ b) : ¬ a.toList = b.toList := fun e => h (by rw [ByteArray.toList_eq, ByteArray.toList_eq] at e; exact ByteArray.ext (Array.ext' e))
set_option maxHeartbeats 4000000 in
set_option maxRecDepth 100000 in
theorem apart_main (vk : Value) (key : List Int) (p q : Int) (a b : ByteArray) (hk : key.length = 32) (ha : a.size ≤ 64) (hb : b.size ≤ 64) (k8 : U8 key) (hp : 0 ≤ p ∧ p ≤ 255) (hq : 0 ≤ q ∧ q ≤ 255) (w : World) (bk : Bs .u8 w vk key) :
    Calls Try.prog 5 #[vk, .int .u8 p, .string a, .int .u8 q, .string b] w fun e w' => e = .returned (.bool true) ∧ Below w.heap.size w w' := by
  obtain ⟨i0, hi, hz0, hz1, hz2⟩ := info_parts Try.infoU8
  have A := hideIt (awake_any w)
  have P := hideIt (fun (W : World) (o : Only (fun _ => False) w W) => derive_ok vk key p a hk k8 hp ha W (bk.past o))
  have R := hideIt (fun (W : World) (o : Only (fun _ => False) w W) => derive_ok vk key q b hk k8 hq hb W (bk.past o))
  have HK := hideIt (And.intro bk (And.intro hk k8))
  have HP := hideIt (And.intro hp hq)
  obtain ⟨ko, kc, rfl, -⟩ := bk.formN hk
  have d1 : decide ((64 : Int) < (a.size : Int)) = false := decide_eq_false (by omega)
  have d2 : decide (64 < a.size) = false := decide_eq_false (by omega)
  have d3 : decide ((64 : Int) < (b.size : Int)) = false := decide_eq_false (by omega)
  have d4 : decide (64 < b.size) = false := decide_eq_false (by omega)
  have e1 : (a.size : Int) % 256 = (a.size : Int) := by omega
  have e2 : (b.size : Int) % 256 = (b.size : Int) := by omega
  have e3 : IntKind.u8.wrap (a.size : Int) = (a.size : Int) := by rw [IntKind.wrap_u8]; omega
  have e4 : IntKind.u8.wrap (b.size : Int) = (b.size : Int) := by rw [IntKind.wrap_u8]; omega
  clear bk k8 hp hq hk
  go_enter Try.func5, Try.ntmps5
  go_wp2_with fail
  refine A.out.mono ?_
  rintro e w0 ⟨rfl, o0⟩
  have O0 := hideIt o0
  clear o0 A
  go_wp2_with fail
  refine (P.out w0 O0.out).mono ?_
  rintro e w1 ⟨v1, rfl, own1, o1⟩
  have B1 : Hid (Bs .u8 w1 v1 (KDV key p (sb a))) := Bs.of_own (k := .u8) (E := 5) (lo := w0.heap.size) (by rw [KDV_len]; exact own1)
  have O1 := hideIt (O0.out.same o1)
  clear own1 o1 P
  go_wp2_with fail
  refine (R.out w1 O1.out).mono ?_
  rintro e w2 ⟨v2, rfl, own2, o2⟩
  have B2 : Hid (Bs .u8 w2 v1 (KDV key p (sb a)) ∧ Bs .u8 w2 v2 (KDV key q (sb b))) := ⟨B1.out.past o2, Bs.of_own (k := .u8) (E := 5) (lo := w1.heap.size) (by rw [KDV_len]; exact own2)⟩
  have O2 := hideIt (O1.out.same o2)
  clear own2 o2 R B1
  have hg3 := grownCap_ge (w2.alloc (.cells #[.int .u8 p, .int .u8 (a.size : Int)] 5)) a.size 0 5
  obtain ⟨c3, hc3⟩ : ∃ c, grownCap (w2.alloc (.cells #[.int .u8 p, .int .u8 (a.size : Int)] 5)) a.size 0 5 = c := ⟨_, rfl⟩
  rw [hc3] at hg3
  have hcv3 : ∀ W, W = w2.alloc (.cells #[.int .u8 p, .int .u8 (a.size : Int)] 5) → (convert 9 22 (.string a)).run Try.prog W = .ok (.slice (some ⟨w2.heap.size + 1, 0, none⟩) a.size c3) (W.alloc (bytesObj a c3)).drew := fun W e => by
    subst e
    rw [conv_bytes a, hc3, size_alloc]; rfl
  have hcw3 := hcv3 _ rfl
  have T3 := hideIt (text_facts w2 p a c3 hg3)
  clear hg3 hcv3 hc3
  go_wp2_with (at_builtin; refine (wpList_append_str _ rfl (.tmp 59) (.tmp 60) rfl a (w2.heap.size + 1) c3 (w2.heap.size + 2) 1 T3.out.1 T3.out.2.1 rfl T3.out.2.2.1 rfl (by omega) ?_))
  intro v3 w3 b3 nc3 o3
  have OW3 := hideIt (o3.own T3.out.2.2.2.1 (fun k e h => by simp [Value.ownBlock] at e; omega))
  have B3 := hideIt (And.intro b3 nc3)
  have O3 : Hid (Only (fun _ => False) w2 w3) := T3.out.2.2.2.2.trans o3 (fun k hk e => by omega)
  have hle3 := O3.out.size
  have HN3 : Hid ((sb a ++ [1]).length ≤ 65) := by
    show _ ≤ _
    rw [List.length_append, sb_len]; simp only [List.length_cons, List.length_nil]; omega
  clear b3 nc3 o3 T3 hcw3
  go_wp2_with (at_builtin; refine (wpList_append_bs _ rfl (.tmp 57) (.tmp 61) 22 rfl w2.heap.size 5 i0 (.int .u8 0) 1 Try.underlying22 hi hz0 hz1 hz2 rfl (.slice (some ⟨w2.heap.size, 0, none⟩) 2 2) 2 (bl [p, (a.size : Int)]) rfl OW3.out .u8 v3 (sb a ++ [1]) rfl B3.out.1 B3.out.2 (by have := HN3.out; unfold maxLen; omega) (by have := HN3.out; omega) hle3 ?_))
  intro u3 x3 hown3 hgrow3 hnil3 hob3
  have BT3 : Hid (Bs .u8 x3 u3 (KTX p (sb a) ++ [1]) ∧ Only (fun _ => False) w2 x3) := text_done (by omega) OW3.out hown3 hgrow3 O3.out
  clear hown3 hgrow3 hnil3 hob3 OW3 B3 O3 hle3 HN3
  have hg4 := grownCap_ge (x3.alloc (.cells #[.int .u8 q, .int .u8 (b.size : Int)] 5)) b.size 0 5
  obtain ⟨c4, hc4⟩ : ∃ c, grownCap (x3.alloc (.cells #[.int .u8 q, .int .u8 (b.size : Int)] 5)) b.size 0 5 = c := ⟨_, rfl⟩
  rw [hc4] at hg4
  have hcv4 : ∀ W, W = x3.alloc (.cells #[.int .u8 q, .int .u8 (b.size : Int)] 5) → (convert 9 22 (.string b)).run Try.prog W = .ok (.slice (some ⟨x3.heap.size + 1, 0, none⟩) b.size c4) (W.alloc (bytesObj b c4)).drew := fun W e => by
    subst e
    rw [conv_bytes b, hc4, size_alloc]; rfl
  have hcw4 := hcv4 _ rfl
  have T4 := hideIt (text_facts x3 q b c4 hg4)
  clear hg4 hcv4 hc4
  go_wp2_with (at_builtin; refine (wpList_append_str _ rfl (.tmp 69) (.tmp 70) rfl b (x3.heap.size + 1) c4 (x3.heap.size + 2) 1 T4.out.1 T4.out.2.1 rfl T4.out.2.2.1 rfl (by omega) ?_))
  intro v4 w4 b4 nc4 o4
  have OW4 := hideIt (o4.own T4.out.2.2.2.1 (fun k e h => by simp [Value.ownBlock] at e; omega))
  have B4 := hideIt (And.intro b4 nc4)
  have O4 : Hid (Only (fun _ => False) x3 w4) := T4.out.2.2.2.2.trans o4 (fun k hk e => by omega)
  have hle4 := O4.out.size
  have HN4 : Hid ((sb b ++ [1]).length ≤ 65) := by
    show _ ≤ _
    rw [List.length_append, sb_len]; simp only [List.length_cons, List.length_nil]; omega
  clear b4 nc4 o4 T4 hcw4
  go_wp2_with (at_builtin; refine (wpList_append_bs _ rfl (.tmp 67) (.tmp 71) 22 rfl x3.heap.size 5 i0 (.int .u8 0) 1 Try.underlying22 hi hz0 hz1 hz2 rfl (.slice (some ⟨x3.heap.size, 0, none⟩) 2 2) 2 (bl [q, (b.size : Int)]) rfl OW4.out .u8 v4 (sb b ++ [1]) rfl B4.out.1 B4.out.2 (by have := HN4.out; unfold maxLen; omega) (by have := HN4.out; omega) hle4 ?_))
  intro u4 x4 hown4 hgrow4 hnil4 hob4
  have BT4 : Hid (Bs .u8 x4 u4 (KTX q (sb b) ++ [1]) ∧ Only (fun _ => False) x3 x4) := text_done (by omega) OW4.out hown4 hgrow4 O4.out
  clear hown4 hgrow4 hnil4 hob4 OW4 B4 O4 hle4 HN4
  obtain ⟨X, hX⟩ : ∃ X, X = KTX p (sb a) ++ [1] := ⟨_, rfl⟩
  obtain ⟨Y, hY⟩ : ∃ Y, Y = KTX q (sb b) ++ [1] := ⟨_, rfl⟩
  rw [← hX] at BT3
  rw [← hY] at BT4
  have hXY : X = Y ↔ p = q ∧ a = b := by
    rw [hX, hY, KTX_one_inj (by rw [sb_len]; omega) (by rw [sb_len]; omega)]
    exact ⟨fun h => ⟨h.1, sb_inj h.2⟩, fun h => ⟨h.1, by rw [h.2]⟩⟩
  have lX : X.length ≤ 100 := by
    rw [hX, List.length_append, KTX_len _ _ (by rw [sb_len]; omega), sb_len]; simp only [List.length_cons, List.length_nil]; omega
  have lY : Y.length ≤ 100 := by
    rw [hY, List.length_append, KTX_len _ _ (by rw [sb_len]; omega), sb_len]; simp only [List.length_cons, List.length_nil]; omega
  have uX : U8 X := by rw [hX]; exact (KTX_u8 HP.out.1 (sb_range a)).app (by intro y hy; simp at hy; omega)
  have uY : U8 Y := by rw [hY]; exact (KTX_u8 HP.out.2 (sb_range b)).app (by intro y hy; simp at hy; omega)
  have S1 := hideIt (lsame_any u3 u4 X Y x4 (BT3.out.1.past BT4.out.2) BT4.out.1 (by omega))
  have k1 : KDV key p (sb a) = MACL key X := by rw [hX]; exact KDV_one _ _ _
  have k2 : KDV key q (sb b) = MACL key Y := by rw [hY]; exact KDV_one _ _ _
  rw [k1, k2] at B2
  have O4 := hideIt (O2.out.same (BT3.out.2.same BT4.out.2))
  have GX : Hid (Bs .u8 x4 u3 X ∧ X.length ≤ 100 ∧ U8 X ∧ X.length ≤ 100 ∧ Bs .u8 x4 v1 (MACL key X)) := ⟨BT3.out.1.past BT4.out.2, lX, uX, lX, B2.out.1.past (BT3.out.2.same BT4.out.2)⟩
  have GY : Hid (Bs .u8 x4 u4 Y ∧ U8 Y ∧ Y.length ≤ 100 ∧ Bs .u8 x4 v2 (MACL key Y)) := ⟨BT4.out.1, uY, lY, B2.out.2.past (BT3.out.2.same BT4.out.2)⟩
  have HXY := hideIt hXY
  obtain ⟨D, hD⟩ : ∃ D, D = decide (X = Y) := ⟨_, rfl⟩
  rw [← hD] at S1
  have HD := hideIt hD
  clear BT3 BT4 hX hY hXY lX lY uX uY k1 k2 B2 O2 O1 O0 hD ha hb e1 e2 e3 e4 d1 d2 d3 d4 HP hi hz0 hz1 hz2
  go_wp2_with fail
  refine S1.out.mono ?_
  rintro e w5 ⟨rfl, o5⟩
  have KB := hideIt (And.intro (HK.out.1.past (O4.out.same o5)) (O4.out.same o5))
  have FX : Hid (Bs .u8 w5 u3 X ∧ X.length ≤ 100 ∧ U8 X ∧ X.length ≤ 100 ∧ Bs .u8 w5 v1 (MACL key X)) := ⟨GX.out.1.past o5, GX.out.2.1, GX.out.2.2.1, GX.out.2.1, GX.out.2.2.2.2.past o5⟩
  have FY : Hid (Bs .u8 w5 u4 Y ∧ U8 Y ∧ Y.length ≤ 100 ∧ Bs .u8 w5 v2 (MACL key Y)) := ⟨GY.out.1.past o5, GY.out.2.1, GY.out.2.2.1, GY.out.2.2.2.past o5⟩
  clear S1 o5 O4 GX GY
  by_cases hpq : p = q
  · by_cases hab : a = b
    · have hd : D = true := by rw [HD.out]; exact decide_eq_true (HXY.out.2 ⟨hpq, hab⟩)
      subst hd
      subst hpq
      subst hab
      clear HD HXY
      have M1 := hideIt (mac_bs (.slice ko 32 kc) u3 key X w5 KB.out.1 HK.out.2.2 (by rw [HK.out.2.1]; decide) FX.out.1 FX.out.2.2.1 (by have := FX.out.2.2.2.1; omega))
      go_wp2_with fail
      refine M1.out.mono ?_
      rintro e w6 ⟨v6, rfl, own6, o6⟩
      have S2 := hideIt (lsame_eq v1 v6 (MACL key X) w6 (FX.out.2.2.2.2.past o6) (Bs.of_own (k := .u8) (E := 5) (lo := w5.heap.size) (by rw [MACL_len]; exact own6)) (by rw [MACL_len]; decide))
      have O6 := hideIt o6
      clear own6 o6 M1
      go_wp2_with fail
      refine S2.out.mono ?_
      rintro e w7 ⟨rfl, o7⟩
      have O7 := hideIt (O6.out.same o7)
      clear o7 S2 O6
      have M2 := hideIt (mac_bs (.slice ko 32 kc) u4 key Y w7 (KB.out.1.past O7.out) HK.out.2.2 (by rw [HK.out.2.1]; decide) (FY.out.1.past O7.out) FY.out.2.1 (by have := FY.out.2.2.1; omega))
      go_wp2_with fail
      refine M2.out.mono ?_
      rintro e w8 ⟨v8, rfl, own8, o8⟩
      have S3 := hideIt (lsame_eq v2 v8 (MACL key Y) w8 (FY.out.2.2.2.past (O7.out.same o8)) (Bs.of_own (k := .u8) (E := 5) (lo := w7.heap.size) (by rw [MACL_len]; exact own8)) (by rw [MACL_len]; decide))
      have O8 := hideIt (O7.out.same o8)
      clear own8 o8 M2 O7
      go_wp2_with fail
      refine S3.out.mono ?_
      rintro e w9 ⟨rfl, o9⟩
      have O9 := hideIt (KB.out.2.same (O8.out.same o9))
      clear o9 S3 O8
      go_wp2
      go_ret
      exact ⟨rfl, O9.out.low (Nat.le_refl _)⟩
    · have hd : D = false := by rw [HD.out]; exact decide_eq_false (fun e => hab (HXY.out.1 e).2)
      have hs := str_ne hab
      have hs3 : (a.toList == b.toList) = false := by rw [beq_eq_false_iff_ne]; exact hs
      subst hd
      subst hpq
      clear HD HXY hab
      have M1 := hideIt (mac_bs (.slice ko 32 kc) u3 key X w5 KB.out.1 HK.out.2.2 (by rw [HK.out.2.1]; decide) FX.out.1 FX.out.2.2.1 (by have := FX.out.2.2.2.1; omega))
      go_wp2_with fail
      refine M1.out.mono ?_
      rintro e w6 ⟨v6, rfl, own6, o6⟩
      have S2 := hideIt (lsame_eq v1 v6 (MACL key X) w6 (FX.out.2.2.2.2.past o6) (Bs.of_own (k := .u8) (E := 5) (lo := w5.heap.size) (by rw [MACL_len]; exact own6)) (by rw [MACL_len]; decide))
      have O6 := hideIt o6
      clear own6 o6 M1
      go_wp2_with fail
      refine S2.out.mono ?_
      rintro e w7 ⟨rfl, o7⟩
      have O7 := hideIt (O6.out.same o7)
      clear o7 S2 O6
      have M2 := hideIt (mac_bs (.slice ko 32 kc) u4 key Y w7 (KB.out.1.past O7.out) HK.out.2.2 (by rw [HK.out.2.1]; decide) (FY.out.1.past O7.out) FY.out.2.1 (by have := FY.out.2.2.1; omega))
      go_wp2_with fail
      refine M2.out.mono ?_
      rintro e w8 ⟨v8, rfl, own8, o8⟩
      have S3 := hideIt (lsame_eq v2 v8 (MACL key Y) w8 (FY.out.2.2.2.past (O7.out.same o8)) (Bs.of_own (k := .u8) (E := 5) (lo := w7.heap.size) (by rw [MACL_len]; exact own8)) (by rw [MACL_len]; decide))
      have O8 := hideIt (O7.out.same o8)
      clear own8 o8 M2 O7
      go_wp2_with fail
      refine S3.out.mono ?_
      rintro e w9 ⟨rfl, o9⟩
      have O9 := hideIt (KB.out.2.same (O8.out.same o9))
      clear o9 S3 O8
      go_wp2
      go_ret
      exact ⟨rfl, O9.out.low (Nat.le_refl _)⟩
  · have hd : D = false := by rw [HD.out]; exact decide_eq_false (fun e => hpq (HXY.out.1 e).1)
    have hs : decide (p = q) = false := decide_eq_false hpq
    subst hd
    clear HD HXY
    have M1 := hideIt (mac_bs (.slice ko 32 kc) u3 key X w5 KB.out.1 HK.out.2.2 (by rw [HK.out.2.1]; decide) FX.out.1 FX.out.2.2.1 (by have := FX.out.2.2.2.1; omega))
    go_wp2_with fail
    refine M1.out.mono ?_
    rintro e w6 ⟨v6, rfl, own6, o6⟩
    have S2 := hideIt (lsame_eq v1 v6 (MACL key X) w6 (FX.out.2.2.2.2.past o6) (Bs.of_own (k := .u8) (E := 5) (lo := w5.heap.size) (by rw [MACL_len]; exact own6)) (by rw [MACL_len]; decide))
    have O6 := hideIt o6
    clear own6 o6 M1
    go_wp2_with fail
    refine S2.out.mono ?_
    rintro e w7 ⟨rfl, o7⟩
    have O7 := hideIt (O6.out.same o7)
    clear o7 S2 O6
    have M2 := hideIt (mac_bs (.slice ko 32 kc) u4 key Y w7 (KB.out.1.past O7.out) HK.out.2.2 (by rw [HK.out.2.1]; decide) (FY.out.1.past O7.out) FY.out.2.1 (by have := FY.out.2.2.1; omega))
    go_wp2_with fail
    refine M2.out.mono ?_
    rintro e w8 ⟨v8, rfl, own8, o8⟩
    have S3 := hideIt (lsame_eq v2 v8 (MACL key Y) w8 (FY.out.2.2.2.past (O7.out.same o8)) (Bs.of_own (k := .u8) (E := 5) (lo := w7.heap.size) (by rw [MACL_len]; exact own8)) (by rw [MACL_len]; decide))
    have O8 := hideIt (O7.out.same o8)
    clear own8 o8 M2 O7
    go_wp2_with fail
    refine S3.out.mono ?_
    rintro e w9 ⟨rfl, o9⟩
    have O9 := hideIt (KB.out.2.same (O8.out.same o9))
    clear o9 S3 O8
    go_wp2
    go_ret
    exact ⟨rfl, O9.out.low (Nat.le_refl _)⟩
set_option maxHeartbeats 1600000 in
set_option maxRecDepth 100000 in
theorem apart_walk (vk : Value) (key : List Int) (p q : Int) (a b : ByteArray) (k8 : U8 key) (hp : 0 ≤ p ∧ p ≤ 255) (hq : 0 ≤ q ∧ q ≤ 255) (w : World) (bk : Bs .u8 w vk key) :
    Calls Try.prog 5 #[vk, .int .u8 p, .string a, .int .u8 q, .string b] w fun e w' => e = .returned (.bool true) ∧ Below w.heap.size w w' := by
  by_cases hk : key.length = 32
  · by_cases ha : a.size ≤ 64
    · by_cases hb : b.size ≤ 64
      · exact apart_main vk key p q a b hk ha hb k8 hp hq w bk
      · have A := hideIt (awake_any w)
        obtain ⟨ko, kc, rfl, -⟩ := bk.formN hk
        have d1 : decide ((64 : Int) < (a.size : Int)) = false := decide_eq_false (by omega)
        have d2 : decide (64 < a.size) = false := decide_eq_false (by omega)
        have d3 : decide ((64 : Int) < (b.size : Int)) = true := decide_eq_true (by omega)
        have d4 : decide (64 < b.size) = true := decide_eq_true (by omega)
        clear bk k8 hp hq hk
        go_enter Try.func5, Try.ntmps5
        go_wp2_with fail
        refine A.out.mono ?_
        rintro e w0 ⟨rfl, o0⟩
        have O0 := hideIt o0
        clear o0 A
        go_wp2
        go_ret
        exact ⟨rfl, O0.out.low (Nat.le_refl _)⟩
    · have A := hideIt (awake_any w)
      obtain ⟨ko, kc, rfl, -⟩ := bk.formN hk
      have d1 : decide ((64 : Int) < (a.size : Int)) = true := decide_eq_true (by omega)
      have d2 : decide (64 < a.size) = true := decide_eq_true (by omega)
      clear bk k8 hp hq hk
      go_enter Try.func5, Try.ntmps5
      go_wp2_with fail
      refine A.out.mono ?_
      rintro e w0 ⟨rfl, o0⟩
      have O0 := hideIt o0
      clear o0 A
      go_wp2
      go_ret
      exact ⟨rfl, O0.out.low (Nat.le_refl _)⟩
  · have A := hideIt (awake_any w)
    obtain ⟨ko, kc, rfl⟩ := bk.len
    obtain ⟨m, hm⟩ : ∃ m, m = key.length := ⟨_, rfl⟩
    rw [← hm] at hk ⊢
    have d1 : ((m : Int) != 32) = true := by simp; omega
    clear bk k8 hp hq hk hm
    go_enter Try.func5, Try.ntmps5
    go_wp2_with fail
    refine A.out.mono ?_
    rintro e w0 ⟨rfl, o0⟩
    have O0 := hideIt o0
    clear o0 A
    go_wp2
    go_ret
    exact ⟨rfl, O0.out.low (Nat.le_refl _)⟩
end Go.Proofs.Ytbcfpiahhippaaa
