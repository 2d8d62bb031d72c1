/- Stream. -/
import Derived.Test.YtjiippbjflpkkaaHo
import Derived.Laws.CopyOwn
namespace Go.Proofs.Ytjiippbjflpkkaa
open Go.RowKit

/-- the answer of Stream: bytes and what went wrong -/
def SRt (key : List Int) (ctr : Nat) (nonce xs : List Int) : List Int := if KN key nonce then (if fitsC ctr xs.length then STR key ctr nonce xs else []) else []
def SRe (key : List Int) (ctr : Nat) (nonce : List Int) (n : Nat) : Int := if KN key nonce then (if fitsC ctr n then 0 else 4) else 1

theorem mk_blk (w : World) (n : Nat) (hn : n ≤ 1000000000000) : ∃ wm, (Instr.makeSlice 22 (.int .i64 (n : Int)) (.int .i64 (n : Int))).run Try.prog w = .ok (.slice (some ⟨w.heap.size, 0, none⟩) n n) wm ∧ Blk wm w.heap.size 5 (bl (List.replicate n 0)) ∧ Only (fun _ => False) w wm := by
  obtain ⟨i0, hi, hz0, hz1, hz2⟩ := info_parts Try.infoU8
  obtain ⟨wm, hmk, hown, hgr⟩ := run_make_full (P := Try.prog) w w.heap.size 22 5 i0 (.int .u8 0) 1 Try.underlying22 hi hz0 hz1 .i64 .i64 n (by rw [hz2]; omega) (by unfold maxLen; omega) (Nat.le_refl _)
  refine ⟨wm, hmk, ?_, (Only.refl _ _).grown hgr (fun k _ e => by cases e)⟩
  rcases hown.2 with ⟨h', _⟩ | ⟨g', cap', cur, h', _, hg, _, _, hcs, ht⟩
  · simp at h'
  · simp only [Value.slice.injEq, Option.some.injEq, Addr.mk.injEq, and_true, true_and] at h'
    obtain ⟨rfl, rfl⟩ := h'
    have e1 : cur = (bl (List.replicate n 0)).toArray := by
      apply Array.toList_inj.1
      rw [List.take_of_length_le (by simp; omega)] at ht
      rw [ht, Nat.mul_one, show (Value.int .u8 0).cells = #[.int .u8 0] from rfl, toList_madeCells_one]
      simp [bl]
    rw [e1] at hg
    exact hg
theorem splice_all (L cs : List Value) (h : L.length = cs.length) : splice L 0 cs = cs := by
  simp [splice, h]
theorem STR_step (key : List Int) (ctr : Nat) (nonce xs : List Int) (k r : Nat) (hk : 64 * k < xs.length) (hr : r = min (xs.length - 64 * k) 64) :
    (STR key ctr nonce xs).take (64 * k + r) = (STR key ctr nonce xs).take (64 * k) ++ xorL ((xs.drop (64 * k)).take r) ((BLK key (ctr + k) nonce).take r) := by
  have hB := BLK_len key (ctr + k) nonce
  have hS := STR_len key ctr nonce xs
  have hx : (xorL ((xs.drop (64 * k)).take r) ((BLK key (ctr + k) nonce).take r)).length = r := by
    rw [xorL_len, List.length_take, List.length_take, List.length_drop, hB]; omega
  refine eq_of_at (by rw [List.length_append, hx, List.length_take, List.length_take, hS]; omega) (fun i hi => ?_)
  rw [List.length_take, hS] at hi
  have e1 : ((STR key ctr nonce xs).take (64 * k + r)).getD i 0 = (STR key ctr nonce xs).getD i 0 := by
    rw [List.getD_eq_getElem?_getD, List.getD_eq_getElem?_getD, List.getElem?_take_of_lt (by omega)]
  rw [e1]
  by_cases h : i < 64 * k
  · rw [List.getD_eq_getElem?_getD, List.getD_eq_getElem?_getD, List.getElem?_append_left (by rw [List.length_take, hS]; omega), List.getElem?_take_of_lt h]
  · have e2 : ((STR key ctr nonce xs).take (64 * k) ++ xorL ((xs.drop (64 * k)).take r) ((BLK key (ctr + k) nonce).take r)).getD i 0 = (xorL ((xs.drop (64 * k)).take r) ((BLK key (ctr + k) nonce).take r)).getD (i - 64 * k) 0 := by
      rw [List.getD_eq_getElem?_getD, List.getD_eq_getElem?_getD, List.getElem?_append_right (by rw [List.length_take, hS]; omega), List.length_take, hS, Nat.min_eq_left (by omega)]
    rw [e2, STR_at _ _ _ _ i (by omega)]
    unfold xorL ksb
    rw [List.getD_eq_getElem?_getD (l := List.zipWith _ _ _), List.getElem?_eq_getElem (by unfold xorL at hx; rw [hx]; omega), List.getElem_zipWith]
    simp only [List.getElem_take, List.getElem_drop, Option.getD_some]
    rw [show i / 64 = k by omega, show i % 64 = i - 64 * k by omega, List.getD_eq_getElem?_getD, List.getD_eq_getElem?_getD, List.getElem?_eq_getElem (by omega), List.getElem?_eq_getElem (by omega)]
    simp only [Option.getD_some, show 64 * k + (i - 64 * k) = i by omega]
theorem ccF_ctr (key : List Int) (c : Nat) (nonce : List Int) : (ccF key c nonce).getD 12 0 = c := by
  unfold ccF
  rw [List.getD_eq_getElem?_getD, List.append_assoc, List.getElem?_append_right (by simp [ccW, ldW_len])]
  simp [ccW, ldW_len]
theorem ccF_set (key : List Int) (c d : Nat) (nonce : List Int) : (ccF key c nonce).set 12 d = ccF key d nonce := by
  unfold ccF
  have hl : (ccW ++ ldW key 8).length = 12 := by simp [ccW, ldW_len]
  rw [List.append_assoc (ccW ++ ldW key 8), List.set_append_right _ _ (by omega), hl]
  simp
theorem ctr_next (c k : Nat) : IntKind.u32.wrap (((c + k) % 4294967296 : Nat) + 1 : Int) = (((c + (k + 1)) % 4294967296 : Nat) : Int) := by
  rw [IntKind.wrap_u32']; omega
theorem copy_blk (wm : World) (G n bc : Nat) (co : Option Addr) (xs : List Int) (hn : xs.length = n) (hb : Blk wm G 5 (bl (List.replicate n 0))) (hs : 0 < n → ∃ ad, co = some ad ∧ ∀ j v, (bl xs)[j]? = some v → wm.cell? (ad.add j) = some v) :
    ∃ w2, (Builtin.copy_ #[22, 22] 3 #[.slice (some ⟨G, 0, none⟩) n n, .slice co n bc]).run Try.prog wm = .ok (.int .i64 (n : Int)) w2 ∧ Blk w2 G 5 (bl xs) ∧ Only (fun k => k = G) wm w2 := by
  by_cases h0 : n = 0
  · subst h0
    have hx : xs = [] := List.eq_nil_of_length_eq_zero hn
    subst hx
    exact ⟨wm, run_copy_none (P := Try.prog) wm 22 22 3 5 _ _ 0 0 0 bc Try.underlying22 Try.one5 rfl, hb, Only.refl _ _⟩
  · obtain ⟨ad, rfl, hsrc⟩ := hs (by omega)
    have hl : (bl xs).length = n := by rw [bl_len, hn]
    have hrun := run_copy_row (P := Try.prog) wm 22 22 3 5 G 0 n n ad n bc (bl (List.replicate n 0)).toArray 5 (bl xs) Try.underlying22 Try.one5 hb (by rw [hl]; exact (Nat.min_self n).symm) hsrc (by simp [bl_len, hn]) (bl_one xs)
    have e : (bl (List.replicate n 0)).toArray.toList.take 0 ++ bl xs ++ (bl (List.replicate n 0)).toArray.toList.drop (0 + (bl xs).length) = bl xs := by
      rw [List.take_zero, List.nil_append, List.drop_of_length_le (by simp [bl_len, hn]), List.append_nil]
    rw [e, hl] at hrun
    exact ⟨_, hrun, hb.row (bl xs), (Only.refl (fun k => k = G) wm).setRow (fun _ => rfl) _⟩
/-- how long a slice is -/
def slen : Value → Nat
  | .slice _ n _ => n
  | _ => 0
set_option maxHeartbeats 1600000 in
set_option maxRecDepth 100000 in
/-- Stream, its answer a row of its own -/
theorem stream_own (vk vn vb : Value) (key nonce xs : List Int) (ctr : Nat) (hc : ctr < 4294967296) (k8 : U8 key) (n8 : U8 nonce) (x8 : U8 xs) (hl : xs.length ≤ 1000000000000) (w : World) (bk : Bs .u8 w vk key) (bn : Bs .u8 w vn nonce) (bb : Bs .u8 w vb xs) :
    Calls Try.prog 17 #[vk, .int .u32 ctr, vn, vb] w fun e w' => ∃ v, e = .returned (.tuple #[v, .int .i64 (SRe key ctr nonce xs.length)]) ∧ w'.ownsRow w.heap.size 5 1 v (SRt key ctr nonce xs).length (bl (SRt key ctr nonce xs)) ∧ Only (fun _ => False) w w' := by
  have BKN := hideIt (And.intro bk bn)
  obtain ⟨ao, kc, rfl⟩ := bk.len
  obtain ⟨bo, nc, rfl⟩ := bn.len
  obtain ⟨co, bc, rfl⟩ := bb.len
  have A := hideIt (are_any ao bo key.length kc nonce.length nc w)
  by_cases h : KN key nonce
  · have e1 : decide (key.length = 32 ∧ nonce.length = 12) = true := decide_eq_true h
    rw [e1] at A
    have BF := hideIt (blocksFor_any xs.length hl w)
    obtain ⟨q, hq⟩ : ∃ q, q = (xs.length + 63) / 64 := ⟨_, rfl⟩
    rw [← hq] at BF
    have hsub : IntKind.u64.wrap (4294967296 - (ctr : Int)) = ((4294967296 - ctr : Nat) : Int) := by simp [IntKind.wrap, IntKind.bits, IntKind.signed]; omega
    have hcv : IntKind.u64.wrap (ctr : Int) = (ctr : Int) := by simp [IntKind.wrap, IntKind.bits, IntKind.signed]; omega
    by_cases hf : fitsC ctr xs.length
    · have EB : SRe key ctr nonce xs.length = 0 := by unfold SRe; rw [if_pos h, if_pos hf]
      have EL : SRt key ctr nonce xs = STR key ctr nonce xs := by unfold SRt; rw [if_pos h, if_pos hf]
      obtain ⟨S, hS⟩ : ∃ S, S = STR key ctr nonce xs := ⟨_, rfl⟩
      rw [EB, EL, ← hS]
      have HS := hideIt hS
      clear hS
      have hgt : ¬ (((4294967296 - ctr : Nat) : Int) < (q : Int)) := by unfold fitsC at hf; omega
      obtain ⟨n, hn⟩ : ∃ n, n = xs.length := ⟨_, rfl⟩
      have hl2 : n ≤ 1000000000000 := by rw [hn]; exact hl
      obtain ⟨wm, hmk, hbm, hom⟩ := mk_blk w n hl2
      have HX := hideIt (And.intro hn (And.intro x8 (And.intro bb (And.intro hf (And.intro k8 n8)))))
      rw [← hn] at BF ⊢
      obtain ⟨G, hG⟩ : ∃ G, G = w.heap.size := ⟨_, rfl⟩
      rw [← hG] at hmk hbm
      have HCP : Hid (∀ j v, (bl xs)[j]? = some v → ∃ ad, co = some ad ∧ wm.cell? (ad.add j) = some v) := fun j v hv => by
        have hb := bb.past hom
        have hj : j < xs.length := by have := (List.getElem?_eq_some_iff.1 hv).1; rwa [bl_len] at this
        obtain ⟨b, off, cap, e, hcell⟩ := hb.at j hj
        simp at e
        obtain ⟨rfl, _⟩ := e
        rw [bl_at xs j hj] at hv
        cases hv
        exact ⟨_, rfl, by rw [Addr.add_mid]; exact hcell⟩
      have HP : Hid (0 < (bl xs).length → ∃ ad, co = some ad ∧ ∀ j v, (bl xs)[j]? = some v → wm.cell? (ad.add j) = some v) := fun hp => by
        obtain ⟨ad, rfl, _⟩ := HCP.out 0 (bl xs)[0] (List.getElem?_eq_getElem hp)
        refine ⟨ad, rfl, fun j v hv => ?_⟩
        obtain ⟨ad', e, hcell⟩ := HCP.out j v hv
        cases e
        exact hcell
      obtain ⟨w2, hcp, hb2, ho2⟩ := copy_blk wm G n bc co xs hn.symm hbm (fun hp => HP.out (by rw [bl_len, ← hn]; exact hp))
      have O2 : Hid (Only (fun _ => False) w w2) := hom.trans ho2 (fun i hi e => by omega)
      have B2 := hideIt hb2
      have HGG : Hid (w.heap.size ≤ G ∧ w.heap.size = G) := ⟨by omega, hG.symm⟩
      have F := hideIt (fun (W : World) (hw : Only (fun _ => False) w W) => firstWords_any _ _ key nonce ctr h.1 h.2 k8 n8 W (BKN.out.1.past hw) (BKN.out.2.past hw))
      have OB : Hid (∀ (W : World) (c : Nat), c < 4294967296 → Calls Try.prog 31 #[.agg (wl (ccF key c nonce)).toArray] W fun e w' => e = .returned (.agg (bl (BLK key c nonce)).toArray) ∧ Only (fun _ => False) W w') :=
        fun W c hc' => blockOf_any (ccF key c nonce) (ccF_len _ _ _) (ccF_w32 key k8 c hc' nonce n8) W
      have hzv := (zero_of_info (P := Try.prog) Try.zero42).1
      have hzw := (zero_of_info (P := Try.prog) Try.zero44).1
      obtain ⟨Z, hZ⟩ : ∃ Z, Z = zB := ⟨_, rfl⟩
      rw [← hZ] at hzv
      obtain ⟨Y, hY⟩ : ∃ Y, Y = zW := ⟨_, rfl⟩
      rw [← hY] at hzw
      have HZ := hideIt (And.intro hZ hY)
      have HZ1 : Hid (∀ c, (Try.prog.info? 43).map (·.size) = some (bl (BLK key c nonce)).toArray.size ∧ Z.toArray.size = (bl (BLK key c nonce)).toArray.size ∧ (bl (BLK key c nonce)).toArray.all (·.oneCell') = true) := by
        intro c
        refine ⟨?_, ?_, ?_⟩
        · rw [Try.size42]; simp [bl_len, BLK_len]
        · rw [hZ]; simp [bl_len, BLK_len, zB_len]
        · exact bl_all _
      have HY1 : Hid (∀ c, (Try.prog.info? 41).map (·.size) = some (wl (ccF key c nonce)).toArray.size ∧ Y.toArray.size = (wl (ccF key c nonce)).toArray.size ∧ (wl (ccF key c nonce)).toArray.all (·.oneCell') = true) := by
        intro c
        refine ⟨?_, ?_, ?_⟩
        · rw [Try.size44]; simp [wl_len, ccF_len]
        · rw [hY]; simp [wl_len, ccF_len, zW_len]
        · exact wl_all _
      have HKN := hideIt h
      clear bk bn bb k8 n8 x8 h e1 EB EL hf hn hl hbm hZ hY hq HCP hG HP hb2 ho2 hom
      go_enter Try.func17, Try.ntmps17
      go_wp2_with fail
      refine A.out.mono ?_
      rintro e w1 ⟨rfl, rfl⟩
      go_wp2_with fail
      refine BF.out.mono ?_
      rintro e w1 ⟨rfl, rfl⟩
      go_wp2_with fail
      refine (F.out w2 O2.out).mono ?_
      rintro e w3 ⟨rfl, o3⟩
      have O3 := hideIt (O2.out.same o3)
      have B3 := hideIt (B2.out.past o3)
      clear o3 A BF F O2 B2 hmk hcp hsub hcv
      go_wp2_with (first | (refine wpList_store_row rfl 41 (.tmp 11) (.tmp 34) rfl w3.heap.size (wl (ccF key ctr nonce)).toArray rfl rfl 41 Y.toArray (Blk.new w3 41 Y) (HY1.out ctr).1 (HY1.out ctr).2.1 (HY1.out ctr).2.2 ?_))
      obtain ⟨FB, hFB⟩ : ∃ FB, FB = w3.heap.size := ⟨_, rfl⟩
      have K4 : Hid (Blk ((w3.alloc (.cells Y.toArray 41)).setRow w3.heap.size (wl (ccF key ctr nonce)).toArray) w3.heap.size 41 (wl (ccF key ((ctr + 0) % 4294967296) nonce)) ∧ Blk ((w3.alloc (.cells Y.toArray 41)).setRow w3.heap.size (wl (ccF key ctr nonce)).toArray) G 5 (bl (S.take (min n (64 * 0)) ++ xs.drop (min n (64 * 0)))) ∧ Only (fun _ => False) w ((w3.alloc (.cells Y.toArray 41)).setRow w3.heap.size (wl (ccF key ctr nonce)).toArray)) := by
        have hg := B3.out.lt
        refine ⟨?_, ?_, (O3.out.alloc _).setRow (fun h => absurd h (by have := O3.out.size; omega)) _⟩
        · rw [Nat.add_zero, Nat.mod_eq_of_lt hc]
          exact (Blk.new w3 41 Y).row _
        · rw [Nat.mul_zero, Nat.min_zero, List.take_zero, List.drop_zero, List.nil_append]
          exact (B3.out.alloc _).keep ((Only.refl (fun k => k = w3.heap.size) _).setRow (fun _ => rfl) _) (by omega)
      have HFG : Hid (w.heap.size ≤ FB ∧ G ≠ FB) := by
        have := B3.out.lt
        have := O3.out.size
        exact ⟨by omega, by omega⟩
      rw [← hFB] at K4 ⊢
      obtain ⟨W4, hW4⟩ : ∃ W4, W4 = (w3.alloc (.cells Y.toArray 41)).setRow FB (wl (ccF key ctr nonce)).toArray := ⟨_, rfl⟩
      rw [← hW4] at K4 ⊢
      obtain ⟨CF, hCF⟩ : ∃ CF, CF = wl (ccF key ctr nonce) := ⟨_, rfl⟩
      rw [← hCF]
      clear hW4 hFB hCF O3 B3 hzw
      go_loopw [12] (fun o wr => ∃ (k : Nat) (ro : Option Addr) (cap : Nat), o = .slice ro (n - min n (64 * k)) cap ∧ (64 * k < n → ro = some ⟨G, 64 * k, none⟩ ∧ cap = n - 64 * k) ∧ Blk wr FB 41 (wl (ccF key ((ctr + k) % 4294967296) nonce)) ∧ Blk wr G 5 (bl (S.take (min n (64 * k)) ++ xs.drop (min n (64 * k)))) ∧ Only (fun _ => False) w wr) (fun o _ => slen o)
      case atStart => exact ⟨0, some ⟨G, 0, none⟩, n, by rw [Nat.mul_zero, Nat.min_zero, Nat.sub_zero], fun _ => ⟨rfl, rfl⟩, K4.out⟩
      case round =>
        obtain ⟨k, ro, cap, rfl, hro, k1, k2, k3⟩ := hrel
        clear K4
        by_cases hlt : 64 * k < n
        · obtain ⟨rfl, rfl⟩ := hro hlt
          have hmin : min n (64 * k) = 64 * k := by omega
          rw [hmin] at k2 ⊢
          have hcl : ctr + k < 4294967296 := by
            have h1 := HX.out.2.2.2.1
            have h2 := HX.out.1
            unfold fitsC at h1; omega
          rw [Nat.mod_eq_of_lt hcl] at k1
          obtain ⟨m, hm⟩ : ∃ m, m = n - 64 * k := ⟨_, rfl⟩
          rw [← hm]
          obtain ⟨r, hr⟩ : ∃ r, r = min m 64 := ⟨_, rfl⟩
          have hm0 : (0 : Int) < (m : Int) := by omega
          have HK := hideIt (And.intro k1 (And.intro k2 k3))
          have HMR := hideIt (And.intro hm hr)
          have hr1 : (r : Int) ≤ (m : Int) := by omega
          have hr2 : (0 : Int) ≤ (r : Int) := by omega
          clear hro k1 k2 k3 hmin hm hr
          go_wp2_with (first | (refine wpList_load_row rfl 41 (.tmp 11) rfl FB rfl 41 (wl (ccF key (ctr + k) nonce)).toArray (0, 0) _ HK.out.1 Try.underlying41 rfl (HY1.out (ctr + k)).1 ?_))
          refine (OB.out wr (ctr + k) hcl).mono ?_
          rintro e w5 ⟨rfl, o5⟩
          go_wp2_with (first | (refine wpList_store_row rfl 43 (.tmp 13) (.tmp 40) rfl w5.heap.size (bl (BLK key (ctr + k) nonce)).toArray rfl rfl 43 Z.toArray (Blk.new w5 43 Z) (HZ1.out (ctr + k)).1 (HZ1.out (ctr + k)).2.1 (HZ1.out (ctr + k)).2.2 ?_) | (refine wpList_load_row rfl 43 (.tmp 13) rfl w5.heap.size rfl 43 (bl (BLK key (ctr + k) nonce)).toArray (0, 0) _ ((Blk.new w5 43 Z).row _) Try.underlying43 rfl (HZ1.out (ctr + k)).1 ?_))
          obtain ⟨W6, hW6⟩ : ∃ W6, W6 = (w5.alloc (.cells Z.toArray 43)).setRow w5.heap.size (bl (BLK key (ctr + k) nonce)).toArray := ⟨_, rfl⟩
          have K6 : Hid (Blk W6 FB 41 (wl (ccF key (ctr + k) nonce)) ∧ Blk W6 G 5 (bl (S.take (64 * k) ++ xs.drop (64 * k))) ∧ Only (fun _ => False) w W6) := by
            have o6 : Only (fun _ => False) w5 W6 := by
              rw [hW6]
              exact ((Only.refl _ _).alloc _).setRow (fun h => absurd h (Nat.lt_irrefl _)) _
            have o56 := o5.same o6
            exact ⟨HK.out.1.past o56, HK.out.2.1.past o56, HK.out.2.2.same o56⟩
          rw [← hW6]
          obtain ⟨KS, hKS⟩ : ∃ KS, KS = BLK key (ctr + k) nonce := ⟨_, rfl⟩
          have HKS := hideIt hKS
          rw [← hKS]
          clear hW6 o5 HK hKS
          refine (hold_any G (64 * k) m m r (S.take (64 * k)) (xs.drop (64 * k)) KS (by rw [List.length_take, HS.out, STR_len, ← HX.out.1]; omega) (by rw [List.length_drop, ← HX.out.1, HMR.out.1]) (by rw [HKS.out, BLK_len]) HMR.out.2 (HX.out.2.1.drop _) (by rw [HKS.out]; exact BLK_u8 _ _ _) W6 K6.out.2.1).mono ?_
          rintro e w7 ⟨rfl, b7, o7⟩
          have hmr := HMR.out
          have E7 : min n (64 * (k + 1)) = 64 * k + r := by omega
          have K7 : Hid (Blk w7 FB 41 (wl (ccF key (ctr + k) nonce)) ∧ Blk w7 G 5 (bl (S.take (min n (64 * (k + 1))) ++ xs.drop (min n (64 * (k + 1))))) ∧ Only (fun _ => False) w w7) := by
            refine ⟨K6.out.1.keep o7 (fun e => HFG.out.2 e.symm), ?_, K6.out.2.2.trans o7 (fun i hi e => by have := HGG.out.1; omega)⟩
            rw [E7, HS.out, STR_step key ctr nonce xs k r (by rw [← HX.out.1]; exact hlt) (by rw [← HX.out.1, ← hmr.1]; exact hmr.2), ← HS.out, ← HKS.out, List.append_assoc, ← List.drop_drop]
            exact b7
          have hcc : w7.cell? ⟨FB, 12, none⟩ = some (.int .u32 ((ctr + k : Nat) : Int)) := by
            rw [K7.out.1.cell, wl_at _ _ (by rw [ccF_len]; decide), ccF_ctr]
          have hfz := K7.out.1.froz 12
          have hnx := ctr_next ctr k
          rw [Nat.mod_eq_of_lt hcl] at hnx
          obtain ⟨cn, hcn⟩ : ∃ cn, cn = (ctr + (k + 1)) % 4294967296 := ⟨_, rfl⟩
          rw [← hcn] at hnx
          have K8 : Hid (Blk (w7.setCell ⟨FB, 12, none⟩ (.int .u32 (cn : Int))) FB 41 (wl (ccF key ((ctr + (k + 1)) % 4294967296) nonce)) ∧ Blk (w7.setCell ⟨FB, 12, none⟩ (.int .u32 (cn : Int))) G 5 (bl (S.take (min n (64 * (k + 1))) ++ xs.drop (min n (64 * (k + 1))))) ∧ Only (fun _ => False) w (w7.setCell ⟨FB, 12, none⟩ (.int .u32 (cn : Int)))) := by
            have oc := (Only.refl (fun k => k = FB) w7).setCell (p := ⟨FB, 12, none⟩) (fun _ => rfl) (.int .u32 (cn : Int))
            refine ⟨?_, K7.out.2.1.keep oc HFG.out.2, K7.out.2.2.trans oc (fun i hi e => by have := HFG.out.1; omega)⟩
            have h := K7.out.1.set 12 (.int .u32 (cn : Int))
            rw [wl_set, ccF_set] at h
            rw [← hcn]
            exact h
          obtain ⟨cc, hcc2⟩ : ∃ cc, cc = ctr + k := ⟨_, rfl⟩
          rw [← hcc2] at hcc hnx
          by_cases hlast : m = r
          · have E8 : Hid (n - min n (64 * (k + 1)) = 0 ∧ ¬ 64 * (k + 1) < n ∧ 0 < m) := ⟨by omega, by omega, by omega⟩
            have hlast2 : m - r = 0 := by omega
            clear K6 K7 b7 o7 hmr E7 hcn hcc2
            go_wp2
            go_roundw
            case rel => exact ⟨k + 1, _, _, by rw [E8.out.1], fun h => absurd h E8.out.2.1, K8.out⟩
            case measure =>
              have := E8.out.2.2
              simp only [slen]
              omega
          · have E8 : Hid (n - min n (64 * (k + 1)) = m - r ∧ 64 * (k + 1) = 64 * k + r ∧ n - 64 * (k + 1) = m - r ∧ 0 < m ∧ 0 < r) := ⟨by omega, by omega, by omega, by omega, by omega⟩
            clear K6 K7 b7 o7 hmr E7 hcn hcc2
            go_wp2
            go_roundw
            case rel => exact ⟨k + 1, _, _, by rw [E8.out.1], fun h => ⟨by rw [E8.out.2.1], by rw [E8.out.2.2.1]⟩, K8.out⟩
            case measure =>
              have := E8.out.2.2.2
              simp only [slen]
              omega
        · have hmin : min n (64 * k) = n := by omega
          rw [hmin] at k2 ⊢
          have F1 : Hid (wr.ownsRow w.heap.size 5 1 (.slice (some ⟨G, 0, none⟩) n n) S.length (bl S)) := by
            have h := k2
            have hlS : S.length = n := by rw [HS.out, STR_len, ← HX.out.1]
            rw [List.take_of_length_le (by rw [HS.out, STR_len, ← HX.out.1]; exact Nat.le_refl _), List.drop_of_length_le (by rw [← HX.out.1]; exact Nat.le_refl _), List.append_nil] at h
            show World.ownsRow _ _ _ _ _ _ _
            rw [hlS]
            exact own_of_blk h HGG.out.1 (by unfold maxLen; omega) (by rw [bl_len, hlS])
          have F2 := hideIt k3
          rw [Nat.sub_self]
          clear hro k1 k2 k3 hmin
          go_wp2
          go_ret2
          exact ⟨_, rfl, F1.out, F2.out⟩
    · have EB : SRe key ctr nonce xs.length = 4 := by unfold SRe; rw [if_pos h, if_neg hf]
      have EL : SRt key ctr nonce xs = [] := by unfold SRt; rw [if_pos h, if_neg hf]
      rw [EB, EL]
      have hgt : ((4294967296 - ctr : Nat) : Int) < (q : Int) := by unfold fitsC at hf; omega
      obtain ⟨n, hn⟩ : ∃ n, n = xs.length := ⟨_, rfl⟩
      rw [← hn] at BF ⊢
      clear bk bn bb k8 n8 x8 h e1 EB EL hf hn hl hq BKN
      go_enter Try.func17, Try.ntmps17
      go_wp2_with fail
      refine A.out.mono ?_
      rintro e w1 ⟨rfl, rfl⟩
      go_wp2_with fail
      refine BF.out.mono ?_
      rintro e w1 ⟨rfl, rfl⟩
      go_wp2
      go_ret2
      exact ⟨_, rfl, World.ownsRow_nil .., Only.refl _ _⟩
  · have e1 : decide (key.length = 32 ∧ nonce.length = 12) = false := decide_eq_false h
    rw [e1] at A
    have EB : SRe key ctr nonce xs.length = 1 := if_neg h
    have EL : SRt key ctr nonce xs = [] := if_neg h
    rw [EB, EL]
    clear bk bn bb k8 n8 x8 h e1 EB EL hl BKN
    go_enter Try.func17, Try.ntmps17
    go_wp2_with fail
    refine A.out.mono ?_
    rintro e w1 ⟨rfl, rfl⟩
    go_wp2
    go_ret2
    exact ⟨_, rfl, World.ownsRow_nil .., Only.refl _ _⟩
theorem stream_any (vk vn vb : Value) (key nonce xs : List Int) (ctr : Nat) (hc : ctr < 4294967296) (k8 : U8 key) (n8 : U8 nonce) (x8 : U8 xs) (hl : xs.length ≤ 1000000000000) (w : World) (bk : Bs .u8 w vk key) (bn : Bs .u8 w vn nonce) (bb : Bs .u8 w vb xs) :
    Calls Try.prog 17 #[vk, .int .u32 ctr, vn, vb] w fun e w' => ∃ v, e = .returned (.tuple #[v, .int .i64 (SRe key ctr nonce xs.length)]) ∧ Bs .u8 w' v (SRt key ctr nonce xs) ∧ NoCap v ∧ Only (fun _ => False) w w' := by
  refine (stream_own vk vn vb key nonce xs ctr hc k8 n8 x8 hl w bk bn bb).mono ?_
  rintro e w' ⟨v, h1, h2, h3⟩
  exact ⟨v, h1, Bs.of_own (k := .u8) (E := 5) (lo := w.heap.size) h2, NoCap.of_own h2, h3⟩
end Go.Proofs.Ytjiippbjflpkkaa
