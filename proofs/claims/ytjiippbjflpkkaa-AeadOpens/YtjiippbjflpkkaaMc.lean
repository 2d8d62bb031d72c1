/- MAC of any key and any bytes. -/
import Derived.Test.YtjiippbjflpkkaaMx
import Derived.Test.YtjiippbjflpkkaaSl
import Derived.Deep.Cut
namespace Go.Proofs.Ytjiippbjflpkkaa
open Go.RowKit
theorem blk_new_of {W5 W : World} (_o : Only (fun _ => False) W5 W) : Blk (W.alloc (.cells z5.toArray 47)) W.heap.size 47 z5 := Blk.new W 47 z5
set_option maxHeartbeats 1600000 in
set_option maxRecDepth 100000 in
theorem mac_ok (vk vb : Value) (key xs : List Int) (hk : key.length = 32) (k8 : U8 key) (x8 : U8 xs) (hl : xs.length ≤ 1000000000000) (w : World) (bk : Bs .u8 w vk key) (bb : Bs .u8 w vb xs) :
    Calls Try.prog 18 #[vk, vb] w fun e w' => ∃ v, e = .returned (.tuple #[v, .int .i64 0]) ∧ w'.ownsRow w.heap.size 5 1 v 16 (bl (TAG key xs)) ∧ Only (fun _ => False) w w' := by
  have hzv := (zero_of_info (P := Try.prog) Try.zero34).1
  obtain ⟨Z, hZ⟩ : ∃ Z, Z = z5 := ⟨_, rfl⟩
  rw [← hZ] at hzv
  have HZ := hideIt hZ
  obtain ⟨ao, kc, rfl⟩ := bk.len
  rw [hk] at bk ⊢
  have hkc : 32 ≤ kc := by
    obtain ⟨_, _, e, h, _⟩ := bk
    simp at e
    omega
  have ht16 : (key.take 16).length = 16 := by rw [List.length_take, hk]; rfl
  have hd16 : (key.drop 16).length = 16 := by rw [List.length_drop, hk]
  have MU := hideIt (multiplier_any _ (key.take 16) ht16 (k8.take 16) w (bk.head (n := 16) (by decide)))
  have NU := hideIt (fun (W : World) (o : Only (fun _ => False) w W) => numberOf_any _ (key.drop 16) (by rw [hd16]; decide) (k8.drop 16) W ((bk.cut (n := 16) (by decide)).past o))
  obtain ⟨r, hr⟩ : ∃ r, r = nmb (c2 (key.take 16) 3) := ⟨_, rfl⟩
  obtain ⟨s, hs⟩ : ∃ s, s = nmb (key.drop 16) := ⟨_, rfl⟩
  have hrl : r.length = 5 ∧ LB 67108864 r := by rw [hr]; exact ⟨nmb_len _, nmb_lb _⟩
  have hsl : s.length = 5 ∧ LB 67108864 s := by rw [hs]; exact ⟨nmb_len _, nmb_lb _⟩
  have HTG := tag_limbs key xs hk k8 x8
  rw [← hr] at MU HTG
  rw [← hs] at NU HTG
  have GA := hideIt (fun (W : World) (o : Only (fun _ => False) w W) => gathered_any vb xs hl x8 r hrl.1 hrl.2 W (bb.past o))
  obtain ⟨g, hg⟩ : ∃ g, g = gth r xs ((xs.length + 15) / 16) := ⟨_, rfl⟩
  have hgl : g.length = 5 ∧ LB 67108864 g := by rw [hg]; exact ⟨gth_len _ _ _, gth_lb _ _ hrl.2 _⟩
  rw [← hg] at GA HTG
  have LE := hideIt (fun (W : World) => leastOf_any g hgl.1 hgl.2 W)
  have lp := pls_lb (C := 9223372036854775808) (lst_lb g) hsl.2 (by decide)
  have PL := hideIt (fun (W : World) => plus_any (lst g) s (lst_len g hgl.1) hsl.1 ((lst_lb g).mono (by decide)) (hsl.2.mono (by decide)) W)
  have SE := hideIt (fun (W : World) => settled_any (pls (lst g) s) (pls_len _ _) lp W)
  have TA := hideIt (fun (W : World) => ptagOf_any (sdg (pls (lst g) s) 0) (by rw [sdg_len, pls_len]) (sdg_lb _ _) W)
  rw [HTG] at TA
  have HD : Hid ((Try.prog.info? 47).map (·.size) = some (ul r).toArray.size ∧ Z.toArray.size = (ul r).toArray.size ∧ (ul r).toArray.all (·.oneCell') = true ∧ (Try.prog.info? 47).map (·.size) = some (ul s).toArray.size ∧ Z.toArray.size = (ul s).toArray.size ∧ (ul s).toArray.all (·.oneCell') = true) := by
    rw [hZ]
    exact ⟨ul_size _ hrl.1, by simp [ul_len, hrl.1, z5_len], ul_all _, ul_size _ hsl.1, by simp [ul_len, hsl.1, z5_len], ul_all _⟩
  obtain ⟨RR, hRR⟩ : ∃ RR, RR = ul r := ⟨_, rfl⟩
  obtain ⟨SS, hSS⟩ : ∃ SS, SS = ul s := ⟨_, rfl⟩
  rw [← hRR, ← hSS] at HD
  rw [← hRR] at MU GA
  rw [← hSS] at NU PL
  have i1 : ¬ (kc : Int) = 16 := by omega
  have i2 : (32 : Int) ≤ (kc : Int) := by omega
  have i3 : (16 : Int) ≤ (kc : Int) := by omega
  have i4 : ¬ kc = 16 := by omega
  obtain ⟨TT, hTTdef⟩ : ∃ TT, TT = ul (sdg (pls (lst g) s) 0) := ⟨_, rfl⟩
  have TL : Hid ((sdg (pls (lst g) s) 0).length = 5) := by
    show _ = _
    rw [sdg_len, pls_len]
  obtain ⟨GG, hGG⟩ : ∃ GG, GG = ul g := ⟨_, rfl⟩
  obtain ⟨LG, hLG⟩ : ∃ LG, LG = ul (lst g) := ⟨_, rfl⟩
  obtain ⟨PG, hPG⟩ : ∃ PG, PG = ul (pls (lst g) s) := ⟨_, rfl⟩
  obtain ⟨tc, htc⟩ : ∃ tc, tc = scy (pls (lst g) s) 0 := ⟨_, rfl⟩
  rw [← hGG] at GA LE
  rw [← hLG] at LE PL
  rw [← hPG] at PL SE
  rw [← hTTdef, ← htc] at SE
  rw [← hTTdef] at TA
  clear hGG hLG hPG htc
  have HL : Hid (RR.length = 5 ∧ SS.length = 5) := by rw [hRR, hSS, ul_len, ul_len]; exact ⟨hrl.1, hsl.1⟩
  clear ht16 hd16 hr hs HTG hg hgl lp hRR hSS hrl hsl hZ
  go_enter Try.func18, Try.ntmps18
  go_wp2_with fail
  refine MU.out.mono ?_
  rintro e w1 ⟨rfl, o1⟩
  have W2o : Hid (Only (fun _ => False) w ((w1.alloc (.cells Z.toArray 47)).setRow w1.heap.size RR.toArray)) := o1.same (((Only.refl _ _).alloc _).setRow (fun h => absurd h (Nat.lt_irrefl _)) _)
  have B2 : Hid (Blk ((w1.alloc (.cells Z.toArray 47)).setRow w1.heap.size RR.toArray) w1.heap.size 47 RR) := (Blk.new w1 47 Z).row RR
  go_wp2_with (first | (refine wpList_store_row rfl 47 (.tmp 6) (.tmp 15) rfl w1.heap.size RR.toArray rfl rfl 47 Z.toArray (Blk.new w1 47 Z) HD.out.1 HD.out.2.1 HD.out.2.2.1 ?_))
  obtain ⟨RB, hRB⟩ : ∃ RB, RB = w1.heap.size := ⟨_, rfl⟩
  rw [← hRB] at W2o B2 ⊢
  obtain ⟨W2, hW2⟩ : ∃ W2, W2 = (w1.alloc (.cells Z.toArray 47)).setRow RB RR.toArray := ⟨_, rfl⟩
  rw [← hW2] at W2o B2 ⊢
  clear hW2 hRB MU o1
  refine (NU.out W2 W2o.out).mono ?_
  rintro e w3 ⟨rfl, o3⟩
  have o4 : Only (fun _ => False) W2 ((w3.alloc (.cells Z.toArray 47)).setRow w3.heap.size SS.toArray) := o3.same (((Only.refl _ _).alloc _).setRow (fun h => absurd h (Nat.lt_irrefl _)) _)
  have K5 : Hid (Blk ((w3.alloc (.cells Z.toArray 47)).setRow w3.heap.size SS.toArray) RB 47 RR ∧ Blk ((w3.alloc (.cells Z.toArray 47)).setRow w3.heap.size SS.toArray) w3.heap.size 47 SS ∧ Only (fun _ => False) w ((w3.alloc (.cells Z.toArray 47)).setRow w3.heap.size SS.toArray)) := ⟨B2.out.past o4, (Blk.new w3 47 Z).row SS, W2o.out.same o4⟩
  go_wp2_with (first | (refine wpList_store_row rfl 47 (.tmp 7) (.tmp 18) rfl w3.heap.size SS.toArray rfl rfl 47 Z.toArray (Blk.new w3 47 Z) HD.out.2.2.2.1 HD.out.2.2.2.2.1 HD.out.2.2.2.2.2 ?_))
  obtain ⟨SB, hSB⟩ : ∃ SB, SB = w3.heap.size := ⟨_, rfl⟩
  rw [← hSB] at K5 ⊢
  obtain ⟨W5, hW5⟩ : ∃ W5, W5 = (w3.alloc (.cells Z.toArray 47)).setRow SB SS.toArray := ⟨_, rfl⟩
  rw [← hW5] at K5 ⊢
  clear hW5 hSB NU o3 o4 B2 W2o
  -- BYHAND
  have HTT : Hid (0 + TT.toArray.size ≤ z5.length ∧ (Try.prog.info? 47).map (·.size) = some TT.toArray.size ∧ TT.toArray.all (·.oneCell') = true ∧ TT.length = 5) := by
    rw [hTTdef]; refine ⟨?_, ul_size _ TL.out, ul_all _, by rw [ul_len]; exact TL.out⟩
    rw [List.size_toArray, ul_len, TL.out]; decide
  have FIN : Hid (∀ W N, Only (fun _ => False) W5 W → Blk W N 47 z5 → W5.heap.size ≤ N → Blk (W.setCells N 0 TT.toArray.toList) N 47 TT ∧ Only (fun _ => False) W5 (W.setCells N 0 TT.toArray.toList)) := fun W N o b hN => by
    refine ⟨?_, Only.setCells (S := fun _ => False) (fun h => absurd h (by omega)) _ 0 W o⟩
    exact b.setAll (by rw [HTT.out.2.2.2]; rfl)
  have rR : Hid (∀ W, Only (fun _ => False) W5 W → W.rangeAt RB 0 RR) := fun W o => by
    have := Blk.range (a := []) (b := RR) (c := []) (w := W) (g := RB) (t := 47) (by simpa using K5.out.1.past o)
    simpa using this
  have rS : Hid (∀ W, Only (fun _ => False) W5 W → W.rangeAt SB 0 SS) := fun W o => by
    have := Blk.range (a := []) (b := SS) (c := []) (w := W) (g := SB) (t := 47) (by simpa using K5.out.2.1.past o)
    simpa using this
  have iR : Hid ((Try.prog.info? 47).map (·.size) = some RR.length ∧ (Try.prog.info? 47).map (·.size) = some SS.length) := by rw [HL.out.1, HL.out.2]; exact ⟨Try.size34, Try.size34⟩
  have O5 := hideIt K5.out.2.2
  have GS : Hid (∀ W, Only (fun _ => False) W5 W → Calls Try.prog 38 #[vb, .agg RR.toArray] W fun e w' => e = .returned (.agg GG.toArray) ∧ (Only (fun _ => False) W5 w' ∧ Only (fun _ => False) W w')) := fun W o => (GA.out W (O5.out.same o)).mono fun _ w' (h : _ ∧ _) => ⟨h.1, o.same h.2, h.2⟩
  have LS : Hid (∀ W, Only (fun _ => False) W5 W → Calls Try.prog 37 #[.agg GG.toArray] W fun e w' => e = .returned (.agg LG.toArray) ∧ (Only (fun _ => False) W5 w' ∧ Only (fun _ => False) W w')) := fun W o => (LE.out W).mono fun _ w' (h : _ ∧ _) => ⟨h.1, o.same h.2, h.2⟩
  have PS : Hid (∀ W, Only (fun _ => False) W5 W → Calls Try.prog 36 #[.agg LG.toArray, .agg SS.toArray] W fun e w' => e = .returned (.agg PG.toArray) ∧ (Only (fun _ => False) W5 w' ∧ Only (fun _ => False) W w')) := fun W o => (PL.out W).mono fun _ w' (h : _ ∧ _) => ⟨h.1, o.same h.2, h.2⟩
  have SS2 : Hid (∀ W, Only (fun _ => False) W5 W → Calls Try.prog 35 #[.agg PG.toArray] W fun e w' => e = .returned (.tuple #[.agg TT.toArray, .int .u64 (tc : Nat)]) ∧ (Only (fun _ => False) W5 w' ∧ Only (fun _ => False) W w')) := fun W o => (SE.out W).mono fun _ w' (h : _ ∧ _) => ⟨h.1, o.same h.2, h.2⟩
  clear GA LE PL SE hTTdef
  simp only [Act.put]
  go_cut [8] from 10 (fun p W => ∃ N, p = .pointer (some ⟨N, 0, none⟩) ∧ Blk W N 47 TT ∧ Only (fun _ => False) W5 W)
  case first =>
    refine wp_region_held_drew (S := fun W => Only (fun _ => False) W5 W) (by kernel_rfl) (Only.refl _ _).drew (fun hH0 => ?_)
    try simp only [Act.put, List.setIfInBounds_toArray, List.set_cons_zero, List.set_cons_succ]
    refine wpAnyH_take (i := 0) (oi := { dst := some 20, op := Op.move (Operand.tmp 1), type := 22, pos := "poly.go:27", after := #[], guard := none }) (v := ?tv1) rfl (by kernel_rfl) (by kernel_rfl) (by kernel_rfl) (fun _ _ _ h => h) (Or.inl ⟨by rfl, ?th1⟩) hH0 ?tr1
    case th1 => (intro w hSw; go_simp; try with_reducible rfl)
    try simp only [Act.put, List.setIfInBounds_toArray, List.set_cons_zero, List.set_cons_succ]
    refine wpAnyH_take (i := 1) (oi := { dst := some 21, op := Op.load 47 (Operand.tmp 6), type := 47, pos := "poly.go:27", after := #[], guard := none }) (v := .agg RR.toArray) rfl (by kernel_rfl) (by kernel_rfl) (by kernel_rfl) (fun _ _ _ h => h) (yieldsIf_load_mid (by rfl) 47 (.tmp 6) rfl RB 0 rfl RR _ (fun W h => rR.out W h) Try.underlying47 rfl iR.out.1) hH0 ?_
    try simp only [Act.put, List.setIfInBounds_toArray, List.set_cons_zero, List.set_cons_succ]
    refine wpAnyH_take (i := 4) (oi := { dst := some 24, op := Op.load 47 (Operand.tmp 7), type := 47, pos := "poly.go:27", after := #[], guard := none }) (v := .agg SS.toArray) rfl (by kernel_rfl) (by kernel_rfl) (by kernel_rfl) (fun _ _ _ h => h) (yieldsIf_load_mid (by rfl) 47 (.tmp 7) rfl SB 0 rfl SS _ (fun W h => rS.out W h) Try.underlying47 rfl iR.out.2) hH0 ?_
    try simp only [Act.put, List.setIfInBounds_toArray, List.set_cons_zero, List.set_cons_succ]
    refine wpAnyH_ready (rs := [2, 10]) (by kernel_rfl) (by simp) ?_
    refine (AllReadyH.cons (o := { dst := some 22, op := Op.call { callee := Callee.value (Operand.func 38), args := #[Operand.tmp 20, Operand.tmp 21], argTypes := #[22, 47] }, type := 47, pos := "poly.go:27", after := #[{ on := 0, ground := Ground.data }, { on := 1, ground := Ground.data }], guard := none }) rfl (fun K hK => ?_) (AllReadyH.cons (o := { dst := some 8, op := Op.alloc 47, type := 0, pos := "poly.go:27", after := #[], guard := none }) rfl (fun K hK => ?_) AllReadyH.nil))
    · rw [if_pos (by rfl)]
      refine wp_calls 38 #[.tmp 20, .tmp 21] #[22, 47] rfl enter18 #[vb, .agg RR.toArray] (.agg GG.toArray) (by kernel_rfl) (GS.out _ hH0) ?_
      rintro w6 ⟨o6, p6⟩
      refine hK.out _ _ o6 (fun _ => ?_)
      clear hK K
      try simp only [Act.put, List.setIfInBounds_toArray, List.set_cons_zero, List.set_cons_succ]
      refine wpAnyH_ready (rs := [3, 10]) (by kernel_rfl) (by simp) ?_
      refine (AllReadyH.cons (o := { dst := some 23, op := Op.call { callee := Callee.value (Operand.func 37), args := #[Operand.tmp 22], argTypes := #[47] }, type := 47, pos := "poly.go:27", after := #[{ on := 2, ground := Ground.data }, { on := 2, ground := Ground.chain }], guard := none }) rfl (fun K hK => ?_) (AllReadyH.cons (o := { dst := some 8, op := Op.alloc 47, type := 0, pos := "poly.go:27", after := #[], guard := none }) rfl (fun K hK => ?_) AllReadyH.nil))
      · rw [if_pos (by rfl)]
        refine wp_calls 37 #[.tmp 22] #[47] rfl enter17 #[.agg GG.toArray] (.agg LG.toArray) (by kernel_rfl) (LS.out _ o6) ?_
        rintro w7 ⟨o7, p7⟩
        refine hK.out _ _ o7 (fun _ => ?_)
        clear hK K
        try simp only [Act.put, List.setIfInBounds_toArray, List.set_cons_zero, List.set_cons_succ]
        refine wpAnyH_ready (rs := [5, 10]) (by kernel_rfl) (by simp) ?_
        refine (AllReadyH.cons (o := { dst := some 25, op := Op.call { callee := Callee.value (Operand.func 36), args := #[Operand.tmp 23, Operand.tmp 24], argTypes := #[47, 47] }, type := 47, pos := "poly.go:27", after := #[{ on := 3, ground := Ground.data }, { on := 4, ground := Ground.data }, { on := 3, ground := Ground.chain }], guard := none }) rfl (fun K hK => ?_) (AllReadyH.cons (o := { dst := some 8, op := Op.alloc 47, type := 0, pos := "poly.go:27", after := #[], guard := none }) rfl (fun K hK => ?_) AllReadyH.nil))
        · rw [if_pos (by rfl)]
          refine wp_calls 36 #[.tmp 23, .tmp 24] #[47, 47] rfl enter16 #[.agg LG.toArray, .agg SS.toArray] (.agg PG.toArray) (by kernel_rfl) (PS.out _ o7) ?_
          rintro w8 ⟨o8, p8⟩
          refine hK.out _ _ o8 (fun _ => ?_)
          clear hK K
          try simp only [Act.put, List.setIfInBounds_toArray, List.set_cons_zero, List.set_cons_succ]
          refine wpAnyH_ready (rs := [6, 10]) (by kernel_rfl) (by simp) ?_
          refine (AllReadyH.cons (o := { dst := some 26, op := Op.call { callee := Callee.value (Operand.func 35), args := #[Operand.tmp 25], argTypes := #[47] }, type := 49, pos := "poly.go:27", after := #[{ on := 5, ground := Ground.data }, { on := 5, ground := Ground.chain }], guard := none }) rfl (fun K hK => ?_) (AllReadyH.cons (o := { dst := some 8, op := Op.alloc 47, type := 0, pos := "poly.go:27", after := #[], guard := none }) rfl (fun K hK => ?_) AllReadyH.nil))
          · rw [if_pos (by rfl)]
            refine wp_calls 35 #[.tmp 25] #[47] rfl enter15 #[.agg PG.toArray] (.tuple #[.agg TT.toArray, .int .u64 (tc : Nat)]) (by kernel_rfl) (SS2.out _ o8) ?_
            rintro w9 ⟨o9, p9⟩
            refine hK.out _ _ o9 (fun _ => ?_)
            clear hK K
            try simp only [Act.put, List.setIfInBounds_toArray, List.set_cons_zero, List.set_cons_succ]
            refine wpAnyH_take (i := 7) (oi := { dst := some 19, op := Op.move (Operand.tmp 26), type := 49, pos := "poly.go:27", after := #[{ on := 6, ground := Ground.data }], guard := none }) (v := ?tv2) rfl (by kernel_rfl) (by kernel_rfl) (by kernel_rfl) (fun _ _ _ h => h) (Or.inl ⟨by rfl, ?th2⟩) o9 ?tr2
            case th2 => (intro w hSw; go_simp; try with_reducible rfl)
            try simp only [Act.put, List.setIfInBounds_toArray, List.set_cons_zero, List.set_cons_succ]
            refine wpAnyH_take (i := 8) (oi := { dst := some 27, op := Op.extract (Operand.tmp 19) 0, type := 47, pos := "poly.go:27", after := #[{ on := 7, ground := Ground.data }], guard := none }) (v := ?tv3) rfl (by kernel_rfl) (by kernel_rfl) (by kernel_rfl) (fun _ _ _ h => h) (Or.inl ⟨by rfl, ?th3⟩) o9 ?tr3
            case th3 => (intro w hSw; go_simp; try with_reducible rfl)
            try simp only [Act.put, List.setIfInBounds_toArray, List.set_cons_zero, List.set_cons_succ]
            refine wpAnyH_take (i := 9) (oi := { dst := some 28, op := Op.extract (Operand.tmp 19) 1, type := 39, pos := "poly.go:27", after := #[{ on := 7, ground := Ground.data }, { on := 11, ground := Ground.gcOnly Departure.lateStores }], guard := none }) (v := ?tv4) rfl (by kernel_rfl) (by kernel_rfl) (by kernel_rfl) (fun _ _ _ h => h) (Or.inl ⟨by rfl, ?th4⟩) o9 ?tr4
            case th4 => (intro w hSw; go_simp; try with_reducible rfl)
            try simp only [Act.put, List.setIfInBounds_toArray, List.set_cons_zero, List.set_cons_succ]
            refine wpAnyH_ready (rs := [10]) (by kernel_rfl) (by simp) ?_
            refine (AllReadyH.cons (o := { dst := some 8, op := Op.alloc 47, type := 0, pos := "poly.go:27", after := #[], guard := none }) rfl (fun K hK => ?_) AllReadyH.nil)
            · rw [if_pos (by rfl)]
              refine wp_alloc34 rfl ?_
              have a10 := o9.alloc (.cells z5.toArray 47)
              refine hK.out _ _ a10 (fun _ => ?_)
              clear hK K
              try simp only [Act.put, List.setIfInBounds_toArray, List.set_cons_zero, List.set_cons_succ]
              have bA := blk_new_of o9
              have bAN := o9.size
              refine wpAnyH_ready (rs := [11]) (by kernel_rfl) (by simp) ?_
              refine AllReadyH.cons (o := { dst := none, op := Op.store 47 (Operand.tmp 8) (Operand.tmp 27), type := 0, pos := "poly.go:27", after := #[{ on := 10, ground := Ground.data }, { on := 8, ground := Ground.data }, { on := 6, ground := Ground.chain }, { on := 0, ground := Ground.phase }, { on := 1, ground := Ground.phase }, { on := 2, ground := Ground.phase }, { on := 3, ground := Ground.phase }, { on := 4, ground := Ground.phase }, { on := 5, ground := Ground.phase }, { on := 6, ground := Ground.phase }, { on := 7, ground := Ground.phase }, { on := 8, ground := Ground.phase }, { on := 9, ground := Ground.textOnly Departure.lateStores }, { on := 10, ground := Ground.phase }], guard := none }) rfl (fun K hK => ?_) AllReadyH.nil
              rw [if_pos (by rfl)]
              refine wp_store_mid 47 (.tmp 8) (.tmp 27) rfl _ 0 TT.toArray rfl rfl (bA.there 0 _ HTT.out.1) HTT.out.2.1 HTT.out.2.2.1 ?_
              have FN := FIN.out _ _ a10 bA (by have h0 := bAN; exact h0)
              refine hK.out _ _ FN.2 (fun hH => ?_)
              clear hK K
              simp only [Act.put]
              refine wpAnyH_take (i := 12) (oi := { dst := some 9, op := Op.assign (Operand.tmp 28), type := 39, pos := "poly.go:27", after := #[{ on := 9, ground := Ground.data }, { on := 11, ground := Ground.chain }, { on := 0, ground := Ground.phase }, { on := 1, ground := Ground.phase }, { on := 2, ground := Ground.phase }, { on := 3, ground := Ground.phase }, { on := 4, ground := Ground.phase }, { on := 5, ground := Ground.phase }, { on := 6, ground := Ground.phase }, { on := 7, ground := Ground.phase }, { on := 8, ground := Ground.phase }, { on := 9, ground := Ground.phase }, { on := 10, ground := Ground.phase }, { on := 11, ground := Ground.phase }], guard := none }) (v := ?tv5) rfl (by kernel_rfl) (by kernel_rfl) (by kernel_rfl) (fun _ _ _ h => h) (Or.inl ⟨by rfl, ?th5⟩) hH ?tr5
              case th5 => (intro w hSw; go_simp; try with_reducible rfl)
              try simp only [Act.put, List.setIfInBounds_toArray, List.set_cons_zero, List.set_cons_succ]
              refine wpAnyH_done (by kernel_rfl) ?_ _
              go_wp2
              go_meet
              case rel => exact ⟨_, rfl, FN.1, FN.2⟩
          · rw [if_pos (by rfl)]
            refine wp_alloc34 rfl ?_
            have a10 := o8.alloc (.cells z5.toArray 47)
            refine hK.out _ _ a10 (fun _ => ?_)
            clear hK K
            try simp only [Act.put, List.setIfInBounds_toArray, List.set_cons_zero, List.set_cons_succ]
            have bA := blk_new_of o8
            have bAN := o8.size
            refine wpAnyH_ready (rs := [6]) (by kernel_rfl) (by simp) ?_
            refine (AllReadyH.cons (o := { dst := some 26, op := Op.call { callee := Callee.value (Operand.func 35), args := #[Operand.tmp 25], argTypes := #[47] }, type := 49, pos := "poly.go:27", after := #[{ on := 5, ground := Ground.data }, { on := 5, ground := Ground.chain }], guard := none }) rfl (fun K hK => ?_) AllReadyH.nil)
            · rw [if_pos (by rfl)]
              refine wp_calls 35 #[.tmp 25] #[47] rfl enter15 #[.agg PG.toArray] (.tuple #[.agg TT.toArray, .int .u64 (tc : Nat)]) (by kernel_rfl) (SS2.out _ a10) ?_
              rintro w9 ⟨o9, p9⟩
              refine hK.out _ _ o9 (fun _ => ?_)
              clear hK K
              try simp only [Act.put, List.setIfInBounds_toArray, List.set_cons_zero, List.set_cons_succ]
              have b9 := bA.past p9
              have b9N := bAN
              refine wpAnyH_take (i := 7) (oi := { dst := some 19, op := Op.move (Operand.tmp 26), type := 49, pos := "poly.go:27", after := #[{ on := 6, ground := Ground.data }], guard := none }) (v := ?tv6) rfl (by kernel_rfl) (by kernel_rfl) (by kernel_rfl) (fun _ _ _ h => h) (Or.inl ⟨by rfl, ?th6⟩) o9 ?tr6
              case th6 => (intro w hSw; go_simp; try with_reducible rfl)
              try simp only [Act.put, List.setIfInBounds_toArray, List.set_cons_zero, List.set_cons_succ]
              refine wpAnyH_take (i := 8) (oi := { dst := some 27, op := Op.extract (Operand.tmp 19) 0, type := 47, pos := "poly.go:27", after := #[{ on := 7, ground := Ground.data }], guard := none }) (v := ?tv7) rfl (by kernel_rfl) (by kernel_rfl) (by kernel_rfl) (fun _ _ _ h => h) (Or.inl ⟨by rfl, ?th7⟩) o9 ?tr7
              case th7 => (intro w hSw; go_simp; try with_reducible rfl)
              try simp only [Act.put, List.setIfInBounds_toArray, List.set_cons_zero, List.set_cons_succ]
              refine wpAnyH_take (i := 9) (oi := { dst := some 28, op := Op.extract (Operand.tmp 19) 1, type := 39, pos := "poly.go:27", after := #[{ on := 7, ground := Ground.data }, { on := 11, ground := Ground.gcOnly Departure.lateStores }], guard := none }) (v := ?tv8) rfl (by kernel_rfl) (by kernel_rfl) (by kernel_rfl) (fun _ _ _ h => h) (Or.inl ⟨by rfl, ?th8⟩) o9 ?tr8
              case th8 => (intro w hSw; go_simp; try with_reducible rfl)
              try simp only [Act.put, List.setIfInBounds_toArray, List.set_cons_zero, List.set_cons_succ]
              refine wpAnyH_ready (rs := [11]) (by kernel_rfl) (by simp) ?_
              refine AllReadyH.cons (o := { dst := none, op := Op.store 47 (Operand.tmp 8) (Operand.tmp 27), type := 0, pos := "poly.go:27", after := #[{ on := 10, ground := Ground.data }, { on := 8, ground := Ground.data }, { on := 6, ground := Ground.chain }, { on := 0, ground := Ground.phase }, { on := 1, ground := Ground.phase }, { on := 2, ground := Ground.phase }, { on := 3, ground := Ground.phase }, { on := 4, ground := Ground.phase }, { on := 5, ground := Ground.phase }, { on := 6, ground := Ground.phase }, { on := 7, ground := Ground.phase }, { on := 8, ground := Ground.phase }, { on := 9, ground := Ground.textOnly Departure.lateStores }, { on := 10, ground := Ground.phase }], guard := none }) rfl (fun K hK => ?_) AllReadyH.nil
              rw [if_pos (by rfl)]
              refine wp_store_mid 47 (.tmp 8) (.tmp 27) rfl _ 0 TT.toArray rfl rfl (b9.there 0 _ HTT.out.1) HTT.out.2.1 HTT.out.2.2.1 ?_
              have FN := FIN.out _ _ o9 b9 (by have h0 := b9N; exact h0)
              refine hK.out _ _ FN.2 (fun hH => ?_)
              clear hK K
              simp only [Act.put]
              refine wpAnyH_take (i := 12) (oi := { dst := some 9, op := Op.assign (Operand.tmp 28), type := 39, pos := "poly.go:27", after := #[{ on := 9, ground := Ground.data }, { on := 11, ground := Ground.chain }, { on := 0, ground := Ground.phase }, { on := 1, ground := Ground.phase }, { on := 2, ground := Ground.phase }, { on := 3, ground := Ground.phase }, { on := 4, ground := Ground.phase }, { on := 5, ground := Ground.phase }, { on := 6, ground := Ground.phase }, { on := 7, ground := Ground.phase }, { on := 8, ground := Ground.phase }, { on := 9, ground := Ground.phase }, { on := 10, ground := Ground.phase }, { on := 11, ground := Ground.phase }], guard := none }) (v := ?tv9) rfl (by kernel_rfl) (by kernel_rfl) (by kernel_rfl) (fun _ _ _ h => h) (Or.inl ⟨by rfl, ?th9⟩) hH ?tr9
              case th9 => (intro w hSw; go_simp; try with_reducible rfl)
              try simp only [Act.put, List.setIfInBounds_toArray, List.set_cons_zero, List.set_cons_succ]
              refine wpAnyH_done (by kernel_rfl) ?_ _
              go_wp2
              go_meet
              case rel => exact ⟨_, rfl, FN.1, FN.2⟩
        · rw [if_pos (by rfl)]
          refine wp_alloc34 rfl ?_
          have a10 := o7.alloc (.cells z5.toArray 47)
          refine hK.out _ _ a10 (fun _ => ?_)
          clear hK K
          try simp only [Act.put, List.setIfInBounds_toArray, List.set_cons_zero, List.set_cons_succ]
          have bA := blk_new_of o7
          have bAN := o7.size
          refine wpAnyH_ready (rs := [5]) (by kernel_rfl) (by simp) ?_
          refine (AllReadyH.cons (o := { dst := some 25, op := Op.call { callee := Callee.value (Operand.func 36), args := #[Operand.tmp 23, Operand.tmp 24], argTypes := #[47, 47] }, type := 47, pos := "poly.go:27", after := #[{ on := 3, ground := Ground.data }, { on := 4, ground := Ground.data }, { on := 3, ground := Ground.chain }], guard := none }) rfl (fun K hK => ?_) AllReadyH.nil)
          · rw [if_pos (by rfl)]
            refine wp_calls 36 #[.tmp 23, .tmp 24] #[47, 47] rfl enter16 #[.agg LG.toArray, .agg SS.toArray] (.agg PG.toArray) (by kernel_rfl) (PS.out _ a10) ?_
            rintro w8 ⟨o8, p8⟩
            refine hK.out _ _ o8 (fun _ => ?_)
            clear hK K
            try simp only [Act.put, List.setIfInBounds_toArray, List.set_cons_zero, List.set_cons_succ]
            have b8 := bA.past p8
            have b8N := bAN
            refine wpAnyH_ready (rs := [6]) (by kernel_rfl) (by simp) ?_
            refine (AllReadyH.cons (o := { dst := some 26, op := Op.call { callee := Callee.value (Operand.func 35), args := #[Operand.tmp 25], argTypes := #[47] }, type := 49, pos := "poly.go:27", after := #[{ on := 5, ground := Ground.data }, { on := 5, ground := Ground.chain }], guard := none }) rfl (fun K hK => ?_) AllReadyH.nil)
            · rw [if_pos (by rfl)]
              refine wp_calls 35 #[.tmp 25] #[47] rfl enter15 #[.agg PG.toArray] (.tuple #[.agg TT.toArray, .int .u64 (tc : Nat)]) (by kernel_rfl) (SS2.out _ o8) ?_
              rintro w9 ⟨o9, p9⟩
              refine hK.out _ _ o9 (fun _ => ?_)
              clear hK K
              try simp only [Act.put, List.setIfInBounds_toArray, List.set_cons_zero, List.set_cons_succ]
              have b9 := b8.past p9
              have b9N := b8N
              refine wpAnyH_take (i := 7) (oi := { dst := some 19, op := Op.move (Operand.tmp 26), type := 49, pos := "poly.go:27", after := #[{ on := 6, ground := Ground.data }], guard := none }) (v := ?tv10) rfl (by kernel_rfl) (by kernel_rfl) (by kernel_rfl) (fun _ _ _ h => h) (Or.inl ⟨by rfl, ?th10⟩) o9 ?tr10
              case th10 => (intro w hSw; go_simp; try with_reducible rfl)
              try simp only [Act.put, List.setIfInBounds_toArray, List.set_cons_zero, List.set_cons_succ]
              refine wpAnyH_take (i := 8) (oi := { dst := some 27, op := Op.extract (Operand.tmp 19) 0, type := 47, pos := "poly.go:27", after := #[{ on := 7, ground := Ground.data }], guard := none }) (v := ?tv11) rfl (by kernel_rfl) (by kernel_rfl) (by kernel_rfl) (fun _ _ _ h => h) (Or.inl ⟨by rfl, ?th11⟩) o9 ?tr11
              case th11 => (intro w hSw; go_simp; try with_reducible rfl)
              try simp only [Act.put, List.setIfInBounds_toArray, List.set_cons_zero, List.set_cons_succ]
              refine wpAnyH_take (i := 9) (oi := { dst := some 28, op := Op.extract (Operand.tmp 19) 1, type := 39, pos := "poly.go:27", after := #[{ on := 7, ground := Ground.data }, { on := 11, ground := Ground.gcOnly Departure.lateStores }], guard := none }) (v := ?tv12) rfl (by kernel_rfl) (by kernel_rfl) (by kernel_rfl) (fun _ _ _ h => h) (Or.inl ⟨by rfl, ?th12⟩) o9 ?tr12
              case th12 => (intro w hSw; go_simp; try with_reducible rfl)
              try simp only [Act.put, List.setIfInBounds_toArray, List.set_cons_zero, List.set_cons_succ]
              refine wpAnyH_ready (rs := [11]) (by kernel_rfl) (by simp) ?_
              refine AllReadyH.cons (o := { dst := none, op := Op.store 47 (Operand.tmp 8) (Operand.tmp 27), type := 0, pos := "poly.go:27", after := #[{ on := 10, ground := Ground.data }, { on := 8, ground := Ground.data }, { on := 6, ground := Ground.chain }, { on := 0, ground := Ground.phase }, { on := 1, ground := Ground.phase }, { on := 2, ground := Ground.phase }, { on := 3, ground := Ground.phase }, { on := 4, ground := Ground.phase }, { on := 5, ground := Ground.phase }, { on := 6, ground := Ground.phase }, { on := 7, ground := Ground.phase }, { on := 8, ground := Ground.phase }, { on := 9, ground := Ground.textOnly Departure.lateStores }, { on := 10, ground := Ground.phase }], guard := none }) rfl (fun K hK => ?_) AllReadyH.nil
              rw [if_pos (by rfl)]
              refine wp_store_mid 47 (.tmp 8) (.tmp 27) rfl _ 0 TT.toArray rfl rfl (b9.there 0 _ HTT.out.1) HTT.out.2.1 HTT.out.2.2.1 ?_
              have FN := FIN.out _ _ o9 b9 (by have h0 := b9N; exact h0)
              refine hK.out _ _ FN.2 (fun hH => ?_)
              clear hK K
              simp only [Act.put]
              refine wpAnyH_take (i := 12) (oi := { dst := some 9, op := Op.assign (Operand.tmp 28), type := 39, pos := "poly.go:27", after := #[{ on := 9, ground := Ground.data }, { on := 11, ground := Ground.chain }, { on := 0, ground := Ground.phase }, { on := 1, ground := Ground.phase }, { on := 2, ground := Ground.phase }, { on := 3, ground := Ground.phase }, { on := 4, ground := Ground.phase }, { on := 5, ground := Ground.phase }, { on := 6, ground := Ground.phase }, { on := 7, ground := Ground.phase }, { on := 8, ground := Ground.phase }, { on := 9, ground := Ground.phase }, { on := 10, ground := Ground.phase }, { on := 11, ground := Ground.phase }], guard := none }) (v := ?tv13) rfl (by kernel_rfl) (by kernel_rfl) (by kernel_rfl) (fun _ _ _ h => h) (Or.inl ⟨by rfl, ?th13⟩) hH ?tr13
              case th13 => (intro w hSw; go_simp; try with_reducible rfl)
              try simp only [Act.put, List.setIfInBounds_toArray, List.set_cons_zero, List.set_cons_succ]
              refine wpAnyH_done (by kernel_rfl) ?_ _
              go_wp2
              go_meet
              case rel => exact ⟨_, rfl, FN.1, FN.2⟩
      · rw [if_pos (by rfl)]
        refine wp_alloc34 rfl ?_
        have a10 := o6.alloc (.cells z5.toArray 47)
        refine hK.out _ _ a10 (fun _ => ?_)
        clear hK K
        try simp only [Act.put, List.setIfInBounds_toArray, List.set_cons_zero, List.set_cons_succ]
        have bA := blk_new_of o6
        have bAN := o6.size
        refine wpAnyH_ready (rs := [3]) (by kernel_rfl) (by simp) ?_
        refine (AllReadyH.cons (o := { dst := some 23, op := Op.call { callee := Callee.value (Operand.func 37), args := #[Operand.tmp 22], argTypes := #[47] }, type := 47, pos := "poly.go:27", after := #[{ on := 2, ground := Ground.data }, { on := 2, ground := Ground.chain }], guard := none }) rfl (fun K hK => ?_) AllReadyH.nil)
        · rw [if_pos (by rfl)]
          refine wp_calls 37 #[.tmp 22] #[47] rfl enter17 #[.agg GG.toArray] (.agg LG.toArray) (by kernel_rfl) (LS.out _ a10) ?_
          rintro w7 ⟨o7, p7⟩
          refine hK.out _ _ o7 (fun _ => ?_)
          clear hK K
          try simp only [Act.put, List.setIfInBounds_toArray, List.set_cons_zero, List.set_cons_succ]
          have b7 := bA.past p7
          have b7N := bAN
          refine wpAnyH_ready (rs := [5]) (by kernel_rfl) (by simp) ?_
          refine (AllReadyH.cons (o := { dst := some 25, op := Op.call { callee := Callee.value (Operand.func 36), args := #[Operand.tmp 23, Operand.tmp 24], argTypes := #[47, 47] }, type := 47, pos := "poly.go:27", after := #[{ on := 3, ground := Ground.data }, { on := 4, ground := Ground.data }, { on := 3, ground := Ground.chain }], guard := none }) rfl (fun K hK => ?_) AllReadyH.nil)
          · rw [if_pos (by rfl)]
            refine wp_calls 36 #[.tmp 23, .tmp 24] #[47, 47] rfl enter16 #[.agg LG.toArray, .agg SS.toArray] (.agg PG.toArray) (by kernel_rfl) (PS.out _ o7) ?_
            rintro w8 ⟨o8, p8⟩
            refine hK.out _ _ o8 (fun _ => ?_)
            clear hK K
            try simp only [Act.put, List.setIfInBounds_toArray, List.set_cons_zero, List.set_cons_succ]
            have b8 := b7.past p8
            have b8N := b7N
            refine wpAnyH_ready (rs := [6]) (by kernel_rfl) (by simp) ?_
            refine (AllReadyH.cons (o := { dst := some 26, op := Op.call { callee := Callee.value (Operand.func 35), args := #[Operand.tmp 25], argTypes := #[47] }, type := 49, pos := "poly.go:27", after := #[{ on := 5, ground := Ground.data }, { on := 5, ground := Ground.chain }], guard := none }) rfl (fun K hK => ?_) AllReadyH.nil)
            · rw [if_pos (by rfl)]
              refine wp_calls 35 #[.tmp 25] #[47] rfl enter15 #[.agg PG.toArray] (.tuple #[.agg TT.toArray, .int .u64 (tc : Nat)]) (by kernel_rfl) (SS2.out _ o8) ?_
              rintro w9 ⟨o9, p9⟩
              refine hK.out _ _ o9 (fun _ => ?_)
              clear hK K
              try simp only [Act.put, List.setIfInBounds_toArray, List.set_cons_zero, List.set_cons_succ]
              have b9 := b8.past p9
              have b9N := b8N
              refine wpAnyH_take (i := 7) (oi := { dst := some 19, op := Op.move (Operand.tmp 26), type := 49, pos := "poly.go:27", after := #[{ on := 6, ground := Ground.data }], guard := none }) (v := ?tv14) rfl (by kernel_rfl) (by kernel_rfl) (by kernel_rfl) (fun _ _ _ h => h) (Or.inl ⟨by rfl, ?th14⟩) o9 ?tr14
              case th14 => (intro w hSw; go_simp; try with_reducible rfl)
              try simp only [Act.put, List.setIfInBounds_toArray, List.set_cons_zero, List.set_cons_succ]
              refine wpAnyH_take (i := 8) (oi := { dst := some 27, op := Op.extract (Operand.tmp 19) 0, type := 47, pos := "poly.go:27", after := #[{ on := 7, ground := Ground.data }], guard := none }) (v := ?tv15) rfl (by kernel_rfl) (by kernel_rfl) (by kernel_rfl) (fun _ _ _ h => h) (Or.inl ⟨by rfl, ?th15⟩) o9 ?tr15
              case th15 => (intro w hSw; go_simp; try with_reducible rfl)
              try simp only [Act.put, List.setIfInBounds_toArray, List.set_cons_zero, List.set_cons_succ]
              refine wpAnyH_take (i := 9) (oi := { dst := some 28, op := Op.extract (Operand.tmp 19) 1, type := 39, pos := "poly.go:27", after := #[{ on := 7, ground := Ground.data }, { on := 11, ground := Ground.gcOnly Departure.lateStores }], guard := none }) (v := ?tv16) rfl (by kernel_rfl) (by kernel_rfl) (by kernel_rfl) (fun _ _ _ h => h) (Or.inl ⟨by rfl, ?th16⟩) o9 ?tr16
              case th16 => (intro w hSw; go_simp; try with_reducible rfl)
              try simp only [Act.put, List.setIfInBounds_toArray, List.set_cons_zero, List.set_cons_succ]
              refine wpAnyH_ready (rs := [11]) (by kernel_rfl) (by simp) ?_
              refine AllReadyH.cons (o := { dst := none, op := Op.store 47 (Operand.tmp 8) (Operand.tmp 27), type := 0, pos := "poly.go:27", after := #[{ on := 10, ground := Ground.data }, { on := 8, ground := Ground.data }, { on := 6, ground := Ground.chain }, { on := 0, ground := Ground.phase }, { on := 1, ground := Ground.phase }, { on := 2, ground := Ground.phase }, { on := 3, ground := Ground.phase }, { on := 4, ground := Ground.phase }, { on := 5, ground := Ground.phase }, { on := 6, ground := Ground.phase }, { on := 7, ground := Ground.phase }, { on := 8, ground := Ground.phase }, { on := 9, ground := Ground.textOnly Departure.lateStores }, { on := 10, ground := Ground.phase }], guard := none }) rfl (fun K hK => ?_) AllReadyH.nil
              rw [if_pos (by rfl)]
              refine wp_store_mid 47 (.tmp 8) (.tmp 27) rfl _ 0 TT.toArray rfl rfl (b9.there 0 _ HTT.out.1) HTT.out.2.1 HTT.out.2.2.1 ?_
              have FN := FIN.out _ _ o9 b9 (by have h0 := b9N; exact h0)
              refine hK.out _ _ FN.2 (fun hH => ?_)
              clear hK K
              simp only [Act.put]
              refine wpAnyH_take (i := 12) (oi := { dst := some 9, op := Op.assign (Operand.tmp 28), type := 39, pos := "poly.go:27", after := #[{ on := 9, ground := Ground.data }, { on := 11, ground := Ground.chain }, { on := 0, ground := Ground.phase }, { on := 1, ground := Ground.phase }, { on := 2, ground := Ground.phase }, { on := 3, ground := Ground.phase }, { on := 4, ground := Ground.phase }, { on := 5, ground := Ground.phase }, { on := 6, ground := Ground.phase }, { on := 7, ground := Ground.phase }, { on := 8, ground := Ground.phase }, { on := 9, ground := Ground.phase }, { on := 10, ground := Ground.phase }, { on := 11, ground := Ground.phase }], guard := none }) (v := ?tv17) rfl (by kernel_rfl) (by kernel_rfl) (by kernel_rfl) (fun _ _ _ h => h) (Or.inl ⟨by rfl, ?th17⟩) hH ?tr17
              case th17 => (intro w hSw; go_simp; try with_reducible rfl)
              try simp only [Act.put, List.setIfInBounds_toArray, List.set_cons_zero, List.set_cons_succ]
              refine wpAnyH_done (by kernel_rfl) ?_ _
              go_wp2
              go_meet
              case rel => exact ⟨_, rfl, FN.1, FN.2⟩
    · rw [if_pos (by rfl)]
      refine wp_alloc34 rfl ?_
      have a10 := hH0.alloc (.cells z5.toArray 47)
      refine hK.out _ _ a10 (fun _ => ?_)
      clear hK K
      try simp only [Act.put, List.setIfInBounds_toArray, List.set_cons_zero, List.set_cons_succ]
      have bA := blk_new_of hH0
      have bAN := hH0.size
      refine wpAnyH_ready (rs := [2]) (by kernel_rfl) (by simp) ?_
      refine (AllReadyH.cons (o := { dst := some 22, op := Op.call { callee := Callee.value (Operand.func 38), args := #[Operand.tmp 20, Operand.tmp 21], argTypes := #[22, 47] }, type := 47, pos := "poly.go:27", after := #[{ on := 0, ground := Ground.data }, { on := 1, ground := Ground.data }], guard := none }) rfl (fun K hK => ?_) AllReadyH.nil)
      · rw [if_pos (by rfl)]
        refine wp_calls 38 #[.tmp 20, .tmp 21] #[22, 47] rfl enter18 #[vb, .agg RR.toArray] (.agg GG.toArray) (by kernel_rfl) (GS.out _ a10) ?_
        rintro w6 ⟨o6, p6⟩
        refine hK.out _ _ o6 (fun _ => ?_)
        clear hK K
        try simp only [Act.put, List.setIfInBounds_toArray, List.set_cons_zero, List.set_cons_succ]
        have b6 := bA.past p6
        have b6N := bAN
        refine wpAnyH_ready (rs := [3]) (by kernel_rfl) (by simp) ?_
        refine (AllReadyH.cons (o := { dst := some 23, op := Op.call { callee := Callee.value (Operand.func 37), args := #[Operand.tmp 22], argTypes := #[47] }, type := 47, pos := "poly.go:27", after := #[{ on := 2, ground := Ground.data }, { on := 2, ground := Ground.chain }], guard := none }) rfl (fun K hK => ?_) AllReadyH.nil)
        · rw [if_pos (by rfl)]
          refine wp_calls 37 #[.tmp 22] #[47] rfl enter17 #[.agg GG.toArray] (.agg LG.toArray) (by kernel_rfl) (LS.out _ o6) ?_
          rintro w7 ⟨o7, p7⟩
          refine hK.out _ _ o7 (fun _ => ?_)
          clear hK K
          try simp only [Act.put, List.setIfInBounds_toArray, List.set_cons_zero, List.set_cons_succ]
          have b7 := b6.past p7
          have b7N := b6N
          refine wpAnyH_ready (rs := [5]) (by kernel_rfl) (by simp) ?_
          refine (AllReadyH.cons (o := { dst := some 25, op := Op.call { callee := Callee.value (Operand.func 36), args := #[Operand.tmp 23, Operand.tmp 24], argTypes := #[47, 47] }, type := 47, pos := "poly.go:27", after := #[{ on := 3, ground := Ground.data }, { on := 4, ground := Ground.data }, { on := 3, ground := Ground.chain }], guard := none }) rfl (fun K hK => ?_) AllReadyH.nil)
          · rw [if_pos (by rfl)]
            refine wp_calls 36 #[.tmp 23, .tmp 24] #[47, 47] rfl enter16 #[.agg LG.toArray, .agg SS.toArray] (.agg PG.toArray) (by kernel_rfl) (PS.out _ o7) ?_
            rintro w8 ⟨o8, p8⟩
            refine hK.out _ _ o8 (fun _ => ?_)
            clear hK K
            try simp only [Act.put, List.setIfInBounds_toArray, List.set_cons_zero, List.set_cons_succ]
            have b8 := b7.past p8
            have b8N := b7N
            refine wpAnyH_ready (rs := [6]) (by kernel_rfl) (by simp) ?_
            refine (AllReadyH.cons (o := { dst := some 26, op := Op.call { callee := Callee.value (Operand.func 35), args := #[Operand.tmp 25], argTypes := #[47] }, type := 49, pos := "poly.go:27", after := #[{ on := 5, ground := Ground.data }, { on := 5, ground := Ground.chain }], guard := none }) rfl (fun K hK => ?_) AllReadyH.nil)
            · rw [if_pos (by rfl)]
              refine wp_calls 35 #[.tmp 25] #[47] rfl enter15 #[.agg PG.toArray] (.tuple #[.agg TT.toArray, .int .u64 (tc : Nat)]) (by kernel_rfl) (SS2.out _ o8) ?_
              rintro w9 ⟨o9, p9⟩
              refine hK.out _ _ o9 (fun _ => ?_)
              clear hK K
              try simp only [Act.put, List.setIfInBounds_toArray, List.set_cons_zero, List.set_cons_succ]
              have b9 := b8.past p9
              have b9N := b8N
              refine wpAnyH_take (i := 7) (oi := { dst := some 19, op := Op.move (Operand.tmp 26), type := 49, pos := "poly.go:27", after := #[{ on := 6, ground := Ground.data }], guard := none }) (v := ?tv18) rfl (by kernel_rfl) (by kernel_rfl) (by kernel_rfl) (fun _ _ _ h => h) (Or.inl ⟨by rfl, ?th18⟩) o9 ?tr18
              case th18 => (intro w hSw; go_simp; try with_reducible rfl)
              try simp only [Act.put, List.setIfInBounds_toArray, List.set_cons_zero, List.set_cons_succ]
              refine wpAnyH_take (i := 8) (oi := { dst := some 27, op := Op.extract (Operand.tmp 19) 0, type := 47, pos := "poly.go:27", after := #[{ on := 7, ground := Ground.data }], guard := none }) (v := ?tv19) rfl (by kernel_rfl) (by kernel_rfl) (by kernel_rfl) (fun _ _ _ h => h) (Or.inl ⟨by rfl, ?th19⟩) o9 ?tr19
              case th19 => (intro w hSw; go_simp; try with_reducible rfl)
              try simp only [Act.put, List.setIfInBounds_toArray, List.set_cons_zero, List.set_cons_succ]
              refine wpAnyH_take (i := 9) (oi := { dst := some 28, op := Op.extract (Operand.tmp 19) 1, type := 39, pos := "poly.go:27", after := #[{ on := 7, ground := Ground.data }, { on := 11, ground := Ground.gcOnly Departure.lateStores }], guard := none }) (v := ?tv20) rfl (by kernel_rfl) (by kernel_rfl) (by kernel_rfl) (fun _ _ _ h => h) (Or.inl ⟨by rfl, ?th20⟩) o9 ?tr20
              case th20 => (intro w hSw; go_simp; try with_reducible rfl)
              try simp only [Act.put, List.setIfInBounds_toArray, List.set_cons_zero, List.set_cons_succ]
              refine wpAnyH_ready (rs := [11]) (by kernel_rfl) (by simp) ?_
              refine AllReadyH.cons (o := { dst := none, op := Op.store 47 (Operand.tmp 8) (Operand.tmp 27), type := 0, pos := "poly.go:27", after := #[{ on := 10, ground := Ground.data }, { on := 8, ground := Ground.data }, { on := 6, ground := Ground.chain }, { on := 0, ground := Ground.phase }, { on := 1, ground := Ground.phase }, { on := 2, ground := Ground.phase }, { on := 3, ground := Ground.phase }, { on := 4, ground := Ground.phase }, { on := 5, ground := Ground.phase }, { on := 6, ground := Ground.phase }, { on := 7, ground := Ground.phase }, { on := 8, ground := Ground.phase }, { on := 9, ground := Ground.textOnly Departure.lateStores }, { on := 10, ground := Ground.phase }], guard := none }) rfl (fun K hK => ?_) AllReadyH.nil
              rw [if_pos (by rfl)]
              refine wp_store_mid 47 (.tmp 8) (.tmp 27) rfl _ 0 TT.toArray rfl rfl (b9.there 0 _ HTT.out.1) HTT.out.2.1 HTT.out.2.2.1 ?_
              have FN := FIN.out _ _ o9 b9 (by have h0 := b9N; exact h0)
              refine hK.out _ _ FN.2 (fun hH => ?_)
              clear hK K
              simp only [Act.put]
              refine wpAnyH_take (i := 12) (oi := { dst := some 9, op := Op.assign (Operand.tmp 28), type := 39, pos := "poly.go:27", after := #[{ on := 9, ground := Ground.data }, { on := 11, ground := Ground.chain }, { on := 0, ground := Ground.phase }, { on := 1, ground := Ground.phase }, { on := 2, ground := Ground.phase }, { on := 3, ground := Ground.phase }, { on := 4, ground := Ground.phase }, { on := 5, ground := Ground.phase }, { on := 6, ground := Ground.phase }, { on := 7, ground := Ground.phase }, { on := 8, ground := Ground.phase }, { on := 9, ground := Ground.phase }, { on := 10, ground := Ground.phase }, { on := 11, ground := Ground.phase }], guard := none }) (v := ?tv21) rfl (by kernel_rfl) (by kernel_rfl) (by kernel_rfl) (fun _ _ _ h => h) (Or.inl ⟨by rfl, ?th21⟩) hH ?tr21
              case th21 => (intro w hSw; go_simp; try with_reducible rfl)
              try simp only [Act.put, List.setIfInBounds_toArray, List.set_cons_zero, List.set_cons_succ]
              refine wpAnyH_done (by kernel_rfl) ?_ _
              go_wp2
              go_meet
              case rel => exact ⟨_, rfl, FN.1, FN.2⟩
  case rest =>
    obtain ⟨N, rfl, hb, ho⟩ := hcut
    have B9 := hideIt hb
    have O9 := hideIt (O5.out.same ho)
    clear hb ho
    go_wp2_with (first | (refine wpList_load_row rfl 47 (.tmp 8) rfl N rfl 47 TT.toArray (0, 0) _ B9.out Try.underlying47 rfl HTT.out.2.1 ?_))
    refine (TA.out wc).mono ?_
    rintro e w9 ⟨v, rfl, own9, o9⟩
    have F1 : Hid (w9.ownsRow w.heap.size 5 1 v 16 (bl (TAG key xs)) ∧ Only (fun _ => False) w w9) := ⟨own_low own9 O9.out.size, O9.out.same o9⟩
    clear own9 o9 TA
    go_wp2
    go_ret2
    exact ⟨_, rfl, F1.out⟩
/-- the answer of MAC: bytes and what went wrong -/
def MT (key xs : List Int) : List Int := if key.length = 32 then TAG key xs else []
def ME (key : List Int) : Int := if key.length = 32 then 0 else 1
theorem MT_u8 (key xs : List Int) : U8 (MT key xs) := by
  unfold MT
  split
  · exact TAG_u8 _ _
  · intro y hy; cases hy
set_option maxHeartbeats 400000 in
set_option maxRecDepth 100000 in
theorem mac_any (vk vb : Value) (key xs : List Int) (k8 : U8 key) (x8 : U8 xs) (hl : xs.length ≤ 1000000000000) (w : World) (bk : Bs .u8 w vk key) (bb : Bs .u8 w vb xs) :
    Calls Try.prog 18 #[vk, vb] w fun e w' => ∃ v, e = .returned (.tuple #[v, .int .i64 (ME key)]) ∧ Bs .u8 w' v (MT key xs) ∧ NoCap v ∧ Only (fun _ => False) w w' := by
  by_cases hk : key.length = 32
  · have e1 : ME key = 0 := if_pos hk
    have e2 : MT key xs = TAG key xs := if_pos hk
    rw [e1, e2]
    refine (mac_ok vk vb key xs hk k8 x8 hl w bk bb).mono ?_
    rintro e w' ⟨v, h1, h2, h3⟩
    exact ⟨v, h1, Bs.of_own (k := .u8) (E := 5) (lo := w.heap.size) (by rw [TAG_len]; exact h2), NoCap.of_own h2, h3⟩
  · have e1 : ME key = 1 := if_neg hk
    have e2 : MT key xs = [] := if_neg hk
    rw [e1, e2]
    obtain ⟨ao, kc, rfl⟩ := bk.len
    obtain ⟨n, hn⟩ : ∃ n, n = key.length := ⟨_, rfl⟩
    rw [← hn] at hk ⊢
    have h3 : ((n : Int) != 32) = true := by simp; omega
    clear bk bb hn e1 e2 k8 x8 hl
    go_enter Try.func18, Try.ntmps18
    go_wp2
    go_ret2
    exact ⟨_, rfl, Bs.nil _ _, NoCap.nil, Only.refl _ _⟩
end Go.Proofs.Ytjiippbjflpkkaa
