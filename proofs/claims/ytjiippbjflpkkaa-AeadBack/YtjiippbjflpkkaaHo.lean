/- Keys and nonces; how many blocks; bytes held against a block; Block. -/
import Derived.Test.YtjiippbjflpkkaaBk
import Derived.Test.YtjiippbjflpkkaaFw
namespace Go.Proofs.Ytjiippbjflpkkaa
open Go.RowKit

/-- a key and a nonce -/
abbrev KN (key nonce : List Int) : Prop := key.length = 32 ∧ nonce.length = 12

set_option maxHeartbeats 400000 in
set_option maxRecDepth 100000 in
theorem are_any (ao bo : Option Addr) (kl kc nl nc : Nat) (w : World) : Calls Try.prog 28 #[.slice ao kl kc, .slice bo nl nc] w fun e w' => e = .returned (.bool (decide (kl = 32 ∧ nl = 12))) ∧ w = w' := by
  by_cases h1 : kl = 32
  · subst h1
    by_cases h2 : nl = 12
    · subst h2
      go_enter Try.func28, Try.ntmps28
      go_wp2
      go_ret
      exact ⟨rfl, rfl⟩
    · have e1 : ((nl : Int) == 12) = false := by rw [beq_eq_false_iff_ne]; omega
      have e2 : decide (32 = 32 ∧ nl = 12) = false := decide_eq_false (fun h => h2 h.2)
      rw [e2]
      go_enter Try.func28, Try.ntmps28
      go_wp2
      go_ret
      exact ⟨rfl, rfl⟩
  · have e1 : ((kl : Int) == 32) = false := by rw [beq_eq_false_iff_ne]; omega
    have e2 : decide (kl = 32 ∧ nl = 12) = false := decide_eq_false (fun h => h1 h.1)
    rw [e2]
    go_enter Try.func28, Try.ntmps28
    go_wp2
    go_ret
    exact ⟨rfl, rfl⟩
set_option maxHeartbeats 400000 in
set_option maxRecDepth 100000 in
theorem blocksFor_any (n : Nat) (hn : n ≤ 1000000000000) (w : World) : Calls Try.prog 29 #[.int .i64 n] w fun e w' => e = .returned (.int .u64 (((n + 63) / 64 : Nat) : Int)) ∧ w = w' := by
  have h1 : IntKind.u64.wrap (n : Int) = (n : Int) := by simp [IntKind.wrap, IntKind.bits, IntKind.signed]; omega
  have h2 : IntKind.u64.wrap ((n : Int) + 64) = ((n + 64 : Nat) : Int) := by simp [IntKind.wrap, IntKind.bits, IntKind.signed]; omega
  have h3 : IntKind.u64.wrap (((n + 64 : Nat) : Int) - 1) = ((n + 63 : Nat) : Int) := by simp [IntKind.wrap, IntKind.bits, IntKind.signed]; omega
  go_enter Try.func29, Try.ntmps29
  go_wp2
  go_ret
  refine ⟨ret_int ?_, rfl⟩
  omega
theorem xorL_next (M K : List Int) (j : Nat) (h1 : j < M.length) (h2 : j < K.length) : xorL (M.take (j + 1)) (K.take (j + 1)) = xorL (M.take j) (K.take j) ++ [(((M.getD j 0).toNat ^^^ (K.getD j 0).toNat : Nat) : Int)] := by
  unfold xorL
  rw [List.take_add_one, List.take_add_one, List.getElem?_eq_getElem h1, List.getElem?_eq_getElem h2, List.zipWith_append (by rw [List.length_take, List.length_take]; omega), List.getD_eq_getElem?_getD, List.getD_eq_getElem?_getD, List.getElem?_eq_getElem h1, List.getElem?_eq_getElem h2]
  rfl
theorem hold_next (P A M : List Int) (j : Nat) (x : Int) (hA : A.length = j) (hj : j < M.length) : (P ++ (A ++ M.drop j)).set (P.length + j) x = P ++ ((A ++ [x]) ++ M.drop (j + 1)) := by
  have e : M.drop j = M[j] :: M.drop (j + 1) := List.drop_eq_getElem_cons hj
  rw [List.set_append_right _ _ (by omega), Nat.add_sub_cancel_left, List.set_append_right _ _ (by omega), hA, Nat.sub_self, e, List.set_cons_zero]
  simp
theorem hold_at (P A M : List Int) (j : Nat) (hA : A.length = j) : (P ++ (A ++ M.drop j)).getD (P.length + j) 0 = M.getD j 0 := by
  rw [List.getD_eq_getElem?_getD, List.getElem?_append_right (by omega), Nat.add_sub_cancel_left, List.getElem?_append_right (by omega), hA, Nat.sub_self, List.getElem?_drop, Nat.add_zero, ← List.getD_eq_getElem?_getD]
theorem xor_u8 (y z : Int) (hy : 0 ≤ y ∧ y ≤ 255) (hz : 0 ≤ z ∧ z ≤ 255) : bits .xor .u8 y z = ((y.toNat ^^^ z.toNat : Nat) : Int) := by
  obtain ⟨a, rfl⟩ := Int.eq_ofNat_of_zero_le hy.1
  obtain ⟨b, rfl⟩ := Int.eq_ofNat_of_zero_le hz.1
  exact u8_xor_nat a b (by omega) (by omega)
set_option maxHeartbeats 800000 in
set_option maxRecDepth 100000 in
theorem hold_le (g off m cap : Nat) (P M ks : List Int) (hP : P.length = off) (hM : M.length = m) (hk : ks.length = 64) (hm : m ≤ 64) (m8 : U8 M) (k8 : U8 ks) (w : World) (hB : Blk w g 5 (bl (P ++ M))) :
    Calls Try.prog 32 #[.slice (some ⟨g, off, none⟩) m cap, .agg (bl ks).toArray] w fun e w' => e = .returned (.int .i64 (m : Nat)) ∧ Blk w' g 5 (bl (P ++ (xorL (M.take m) (ks.take m) ++ M.drop m))) ∧ Only (fun k => k = g) w w' := by
  have hlt := hB.lt
  have H0 := hideIt hB
  have HM := hideIt (And.intro hP (And.intro hM (And.intro hk (And.intro m8 k8))))
  obtain ⟨K, hK⟩ : ∃ K, K = bl ks := ⟨_, rfl⟩
  rw [← hK]
  have HK := hideIt hK
  have hmm : ¬ (64 : Int) < m := by omega
  clear hB hP hM hk m8 k8 hK
  go_enter Try.func32, Try.ntmps32
  go_wp2
  have S0 : Hid (Blk (w.alloc (.cells K.toArray 43)) g 5 (bl (P ++ (xorL (M.take 0) (ks.take 0) ++ M.drop 0))) ∧ Blk (w.alloc (.cells K.toArray 43)) w.heap.size 43 K ∧ Only (fun k => k = g) w (w.alloc (.cells K.toArray 43))) :=
    ⟨H0.out.alloc _, Blk.new w 43 K, (Only.refl _ _).alloc _⟩
  obtain ⟨N, hN⟩ : ∃ N, N = w.heap.size := ⟨_, rfl⟩
  have HN : Hid (w.heap.size ≤ N ∧ g ≠ N) := ⟨by omega, by omega⟩
  obtain ⟨W0, hW0⟩ : ∃ W0, W0 = w.alloc (.cells K.toArray 43) := ⟨_, rfl⟩
  rw [← hN, ← hW0] at S0
  rw [← hN, ← hW0]
  clear hN hW0 hlt
  go_loopw [11] (fun i wr => ∃ j : Nat, j ≤ m ∧ i = .int .i64 j ∧ Blk wr g 5 (bl (P ++ (xorL (M.take j) (ks.take j) ++ M.drop j))) ∧ Blk wr N 43 K ∧ Only (fun k => k = g) w wr) (fun i _ => m - (intOf i).toNat)
  case atStart => exact ⟨0, by omega, rfl, S0.out⟩
  case round =>
    obtain ⟨j, hj, rfl, k1, k2, k3⟩ := hrel
    clear S0
    by_cases hlj : j < m
    · have hjm : j < M.length := by rw [HM.out.2.1]; omega
      have hxl : (xorL (M.take j) (ks.take j)).length = j := by
        rw [xorL_len, List.length_take, List.length_take, HM.out.2.2.1]; omega
      have hc1 : wr.cell? ⟨g, off + j, none⟩ = some (.int .u8 (M.getD j 0)) := by
        rw [k1.cell, bl_at _ _ (by rw [List.length_append, List.length_append, hxl, List.length_drop, HM.out.1]; omega), ← HM.out.1, hold_at P _ M j hxl]
      have hc2 : wr.cell? ⟨N, j, none⟩ = some (.int .u8 (ks.getD j 0)) := by
        rw [k2.cell, HK.out, bl_at _ _ (by rw [HM.out.2.2.1]; omega)]
      have hf := k1.froz (off + j)
      have hx := xor_u8 _ _ (HM.out.2.2.2.1.at j) (HM.out.2.2.2.2.at j)
      have hxn := xorL_next M ks j hjm (by rw [HM.out.2.2.1]; omega)
      obtain ⟨x, hxx⟩ : ∃ x, x = (((M.getD j 0).toNat ^^^ (ks.getD j 0).toNat : Nat) : Int) := ⟨_, rfl⟩
      rw [← hxx] at hx hxn
      obtain ⟨y, hy⟩ : ∃ y, y = M.getD j 0 := ⟨_, rfl⟩
      obtain ⟨z, hz⟩ : ∃ z, z = ks.getD j 0 := ⟨_, rfl⟩
      rw [← hy] at hc1 hx
      rw [← hz] at hc2 hx
      have oc := ((Only.refl (fun k => k = g) wr).drew).setCell (p := ⟨g, off + j, none⟩) (fun _ => rfl) (.int .u8 x)
      have N1 : Hid (Blk (wr.drew.setCell ⟨g, off + j, none⟩ (.int .u8 x)) g 5 (bl (P ++ (xorL (M.take (j + 1)) (ks.take (j + 1)) ++ M.drop (j + 1)))) ∧ Blk (wr.drew.setCell ⟨g, off + j, none⟩ (.int .u8 x)) N 43 K ∧ Only (fun k => k = g) w (wr.drew.setCell ⟨g, off + j, none⟩ (.int .u8 x))) := by
        refine ⟨?_, k2.keep oc (fun e => HN.out.2 e.symm), k3.trans oc (fun i _ e => e)⟩
        have h := k1.drew.set (off + j) (.int .u8 x)
        rw [bl_set, ← HM.out.1, hold_next P _ M j x hxl hjm, ← hxn] at h
        rw [← HM.out.1]
        exact h
      have i1 : (j : Int) < m := by omega
      have i2 : (j : Int) < 64 := by omega
      have i3 : (j : Int) < m := by omega
      have hgN : ¬ g = N := HN.out.2
      clear hxx hy hz oc hxn k1 k2 k3 hxl hjm
      go_wp2_with fail
      go_region
      all_goals go_wp2
      all_goals go_roundw
      case rel => exact ⟨j + 1, by omega, by go_num, N1.out⟩
      case measure => simp [intOf]; omega
    · obtain rfl : j = m := by omega
      have F1 := hideIt (And.intro k1 k3)
      clear k1 k2 k3
      go_wp2
      go_ret
      exact ⟨rfl, F1.out⟩
set_option maxHeartbeats 800000 in
set_option maxRecDepth 100000 in
theorem hold_gt (g off m cap : Nat) (P M ks : List Int) (hP : P.length = off) (hM : M.length = m) (hk : ks.length = 64) (hm : 64 < m) (m8 : U8 M) (k8 : U8 ks) (w : World) (hB : Blk w g 5 (bl (P ++ M))) :
    Calls Try.prog 32 #[.slice (some ⟨g, off, none⟩) m cap, .agg (bl ks).toArray] w fun e w' => e = .returned (.int .i64 (64 : Nat)) ∧ Blk w' g 5 (bl (P ++ (xorL (M.take 64) (ks.take 64) ++ M.drop 64))) ∧ Only (fun k => k = g) w w' := by
  have hlt := hB.lt
  have H0 := hideIt hB
  have HM := hideIt (And.intro hP (And.intro hM (And.intro hk (And.intro m8 k8))))
  obtain ⟨K, hK⟩ : ∃ K, K = bl ks := ⟨_, rfl⟩
  rw [← hK]
  have HK := hideIt hK
  have hmm : (64 : Int) < m := by omega
  clear hB hP hM hk m8 k8 hK
  go_enter Try.func32, Try.ntmps32
  go_wp2
  have S0 : Hid (Blk (w.alloc (.cells K.toArray 43)) g 5 (bl (P ++ (xorL (M.take 0) (ks.take 0) ++ M.drop 0))) ∧ Blk (w.alloc (.cells K.toArray 43)) w.heap.size 43 K ∧ Only (fun k => k = g) w (w.alloc (.cells K.toArray 43))) :=
    ⟨H0.out.alloc _, Blk.new w 43 K, (Only.refl _ _).alloc _⟩
  obtain ⟨N, hN⟩ : ∃ N, N = w.heap.size := ⟨_, rfl⟩
  have HN : Hid (w.heap.size ≤ N ∧ g ≠ N) := ⟨by omega, by omega⟩
  obtain ⟨W0, hW0⟩ : ∃ W0, W0 = w.alloc (.cells K.toArray 43) := ⟨_, rfl⟩
  rw [← hN, ← hW0] at S0
  rw [← hN, ← hW0]
  clear hN hW0 hlt
  go_loopw [11] (fun i wr => ∃ j : Nat, j ≤ 64 ∧ i = .int .i64 j ∧ Blk wr g 5 (bl (P ++ (xorL (M.take j) (ks.take j) ++ M.drop j))) ∧ Blk wr N 43 K ∧ Only (fun k => k = g) w wr) (fun i _ => 64 - (intOf i).toNat)
  case atStart => exact ⟨0, by omega, rfl, S0.out⟩
  case round =>
    obtain ⟨j, hj, rfl, k1, k2, k3⟩ := hrel
    clear S0
    by_cases hlj : j < 64
    · have hjm : j < M.length := by rw [HM.out.2.1]; omega
      have hxl : (xorL (M.take j) (ks.take j)).length = j := by
        rw [xorL_len, List.length_take, List.length_take, HM.out.2.2.1]; omega
      have hc1 : wr.cell? ⟨g, off + j, none⟩ = some (.int .u8 (M.getD j 0)) := by
        rw [k1.cell, bl_at _ _ (by rw [List.length_append, List.length_append, hxl, List.length_drop, HM.out.1]; omega), ← HM.out.1, hold_at P _ M j hxl]
      have hc2 : wr.cell? ⟨N, j, none⟩ = some (.int .u8 (ks.getD j 0)) := by
        rw [k2.cell, HK.out, bl_at _ _ (by rw [HM.out.2.2.1]; omega)]
      have hf := k1.froz (off + j)
      have hx := xor_u8 _ _ (HM.out.2.2.2.1.at j) (HM.out.2.2.2.2.at j)
      have hxn := xorL_next M ks j hjm (by rw [HM.out.2.2.1]; omega)
      obtain ⟨x, hxx⟩ : ∃ x, x = (((M.getD j 0).toNat ^^^ (ks.getD j 0).toNat : Nat) : Int) := ⟨_, rfl⟩
      rw [← hxx] at hx hxn
      obtain ⟨y, hy⟩ : ∃ y, y = M.getD j 0 := ⟨_, rfl⟩
      obtain ⟨z, hz⟩ : ∃ z, z = ks.getD j 0 := ⟨_, rfl⟩
      rw [← hy] at hc1 hx
      rw [← hz] at hc2 hx
      have oc := ((Only.refl (fun k => k = g) wr).drew).setCell (p := ⟨g, off + j, none⟩) (fun _ => rfl) (.int .u8 x)
      have N1 : Hid (Blk (wr.drew.setCell ⟨g, off + j, none⟩ (.int .u8 x)) g 5 (bl (P ++ (xorL (M.take (j + 1)) (ks.take (j + 1)) ++ M.drop (j + 1)))) ∧ Blk (wr.drew.setCell ⟨g, off + j, none⟩ (.int .u8 x)) N 43 K ∧ Only (fun k => k = g) w (wr.drew.setCell ⟨g, off + j, none⟩ (.int .u8 x))) := by
        refine ⟨?_, k2.keep oc (fun e => HN.out.2 e.symm), k3.trans oc (fun i _ e => e)⟩
        have h := k1.drew.set (off + j) (.int .u8 x)
        rw [bl_set, ← HM.out.1, hold_next P _ M j x hxl hjm, ← hxn] at h
        rw [← HM.out.1]
        exact h
      have i1 : (j : Int) < 64 := by omega
      have i2 : (j : Int) < 64 := by omega
      have i3 : (j : Int) < m := by omega
      have hgN : ¬ g = N := HN.out.2
      clear hxx hy hz oc hxn k1 k2 k3 hxl hjm
      go_wp2_with fail
      go_region
      all_goals go_wp2
      all_goals go_roundw
      case rel => exact ⟨j + 1, by omega, by go_num, N1.out⟩
      case measure => simp [intOf]; omega
    · obtain rfl : j = 64 := by omega
      have F1 := hideIt (And.intro k1 k3)
      clear k1 k2 k3
      go_wp2
      go_ret
      exact ⟨rfl, F1.out⟩
theorem hold_any (g off m cap r : Nat) (P M ks : List Int) (hP : P.length = off) (hM : M.length = m) (hk : ks.length = 64) (hr : r = min m 64) (m8 : U8 M) (k8 : U8 ks) (w : World) (hB : Blk w g 5 (bl (P ++ M))) :
    Calls Try.prog 32 #[.slice (some ⟨g, off, none⟩) m cap, .agg (bl ks).toArray] w fun e w' => e = .returned (.int .i64 (r : Nat)) ∧ Blk w' g 5 (bl (P ++ (xorL (M.take r) (ks.take r) ++ M.drop r))) ∧ Only (fun k => k = g) w w' := by
  by_cases h : m ≤ 64
  · obtain rfl : r = m := by omega
    exact hold_le g off r cap P M ks hP hM hk h m8 k8 w hB
  · obtain rfl : r = 64 := by omega
    exact hold_gt g off m cap P M ks hP hM hk (by omega) m8 k8 w hB
/-- the answer of Block: bytes and what went wrong -/
def BLt (key : List Int) (ctr : Nat) (nonce : List Int) : List Int := if KN key nonce then BLK key ctr nonce else []
def BLe (key nonce : List Int) : Int := if KN key nonce then 0 else 1
theorem Bs.of_bl {w : World} {g : Nat} {E : TypeId} {s : List Int} (h : Blk w g E (bl s)) (n : Nat) (hn : s.length = n) : Bs .u8 w (.slice (some ⟨g, 0, none⟩) n n) s := by
  refine ⟨_, n, by rw [hn], by rw [hn]; exact Nat.le_refl _, fun _ => ⟨g, 0, rfl, fun j hj => ?_⟩⟩
  rw [Nat.zero_add, h.cell, bl_at s j hj]
set_option maxHeartbeats 800000 in
set_option maxRecDepth 100000 in
theorem block_any (vk vn : Value) (key nonce : List Int) (ctr : Nat) (hc : ctr < 4294967296) (k8 : U8 key) (n8 : U8 nonce) (w : World) (bk : Bs .u8 w vk key) (bn : Bs .u8 w vn nonce) :
    Calls Try.prog 27 #[vk, .int .u32 ctr, vn] w fun e w' => ∃ v, e = .returned (.tuple #[v, .int .i64 (BLe key nonce)]) ∧ Bs .u8 w' v (BLt key ctr nonce) ∧ NoCap v ∧ Only (fun _ => False) w w' := by
  obtain ⟨ao, kc, rfl⟩ := bk.len
  obtain ⟨bo, nc, rfl⟩ := bn.len
  have A := hideIt (are_any ao bo key.length kc nonce.length nc w)
  by_cases h : KN key nonce
  · have e1 : decide (key.length = 32 ∧ nonce.length = 12) = true := decide_eq_true h
    rw [e1] at A
    have EB : BLe key nonce = 0 := if_pos h
    have EL : BLt key ctr nonce = BLK key ctr nonce := if_pos h
    rw [EB, EL]
    have HL := hideIt (BLK_len key ctr nonce)
    have F := hideIt (firstWords_any _ _ key nonce ctr h.1 h.2 k8 n8 w bk bn)
    have O : Hid (∀ W : World, Calls Try.prog 31 #[.agg (wl (ccF key ctr nonce)).toArray] W fun e w' => e = .returned (.agg (bl (BLK key ctr nonce)).toArray) ∧ Only (fun _ => False) W w') :=
      fun W => blockOf_any (ccF key ctr nonce) (ccF_len _ _ _) (ccF_w32 key k8 ctr hc nonce n8) W
    have hzv := (zero_of_info (P := Try.prog) Try.zero42).1
    obtain ⟨Z, hZ⟩ : ∃ Z, Z = zB := ⟨_, rfl⟩
    rw [← hZ] at hzv
    obtain ⟨L, hL⟩ : ∃ L, L = BLK key ctr nonce := ⟨_, rfl⟩
    rw [← hL] at HL O ⊢
    obtain ⟨FW, hFW⟩ : ∃ FW, FW = wl (ccF key ctr nonce) := ⟨_, rfl⟩
    rw [← hFW] at F O
    obtain ⟨D, hD⟩ : ∃ D, D = bl L := ⟨_, rfl⟩
    rw [← hD] at O
    have HZ1 : Hid ((Try.prog.info? 43).map (·.size) = some D.toArray.size ∧ Z.toArray.size = D.toArray.size ∧ D.toArray.all (·.oneCell') = true) := by
      refine ⟨?_, ?_, ?_⟩
      · rw [Try.size42, hD]; simp [bl_len, HL.out]
      · rw [hD, hZ]; simp [bl_len, HL.out, zB_len]
      · rw [hD]; exact bl_all _
    have HD := hideIt hD
    clear hL hFW hZ hD bk bn k8 n8 h e1 EB EL hc
    go_enter Try.func27, Try.ntmps27
    go_wp2_with fail
    refine A.out.mono ?_
    rintro e w1 ⟨rfl, rfl⟩
    go_wp2_with fail
    refine F.out.mono ?_
    rintro e w2 ⟨rfl, o2⟩
    go_wp2_with fail
    refine (O.out w2).mono ?_
    rintro e w3 ⟨rfl, o3⟩
    have O3 := hideIt (o2.same o3)
    clear o2 o3 A F O
    go_wp2_with (first | (refine wpList_store_row rfl 43 (.tmp 8) (.tmp 17) rfl w3.heap.size D.toArray rfl rfl 43 Z.toArray (Blk.new w3 43 Z) HZ1.out.1 HZ1.out.2.1 HZ1.out.2.2 ?_))
    go_ret2
    have hb : Blk ((w3.alloc (.cells Z.toArray 43)).setRow w3.heap.size D.toArray) w3.heap.size 43 D := (Blk.new w3 43 Z).row D
    refine ⟨_, rfl, ?_, NoCap.some _ _ _, ?_⟩
    · rw [HD.out] at hb ⊢
      exact Bs.of_bl hb 64 HL.out
    · exact (O3.out.alloc _).setRow (fun h => absurd h (by have := O3.out.size; omega)) _
  · have e1 : decide (key.length = 32 ∧ nonce.length = 12) = false := decide_eq_false h
    rw [e1] at A
    have EB : BLe key nonce = 1 := if_neg h
    have EL : BLt key ctr nonce = [] := if_neg h
    rw [EB, EL]
    clear bk bn k8 n8 h e1 EB EL hc
    go_enter Try.func27, Try.ntmps27
    go_wp2_with fail
    refine A.out.mono ?_
    rintro e w1 ⟨rfl, rfl⟩
    go_wp2
    go_ret2
    exact ⟨_, rfl, Bs.nil _ _, NoCap.nil, Only.refl _ _⟩
end Go.Proofs.Ytjiippbjflpkkaa
