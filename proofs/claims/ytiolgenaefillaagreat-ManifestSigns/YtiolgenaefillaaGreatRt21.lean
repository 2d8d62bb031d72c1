/- The document's manifest: tenants. -/
import Derived.Test.YtiolgenaefillaaGreatRy21
import Derived.Deep.RegionHeld3
import Derived.Deep.RegionLaw
import Derived.Deep.Cut
import Derived.Test.YtiolgenaefillaaGreatVsa
namespace Go.Proofs.YtiolgenaefillaaGreat
open Go.RowKit

/-- the texts of the first k entries -/
def TNK (E : List (List Int × Int)) (k : Nat) : List (List Int) := TEN ((E.take k).map Prod.fst)
theorem TNK_zero (E : List (List Int × Int)) : TNK E 0 = [] := by simp [TNK, TEN]
theorem TNK_all (E : List (List Int × Int)) : TNK E E.length = TEN (E.map Prod.fst) := by rw [TNK, List.take_length]
theorem TNK_succ (E : List (List Int × Int)) (k : Nat) (h : k < E.length) : TNK E (k + 1) = insT (E.getD k ([], 0)).1 (TNK E k) := by
  rw [TNK, take_snocT E k ([], 0) h, List.map_append, TNK, ← TEN_snoc]; rfl
theorem Tryz.infoTx : (Tryz.prog.info? 9).map (fun i => (i.zero, i.size, i.bytes)) = some (some (.string ⟨#[]⟩), 1, 16) := by kernel_rfl
theorem tcells_one (T : List (List Int)) : ∀ y ∈ tcells T, y.oneCell' = true := fun y hy => by
  obtain ⟨x, _, rfl⟩ := List.mem_map.1 hy
  rfl
/-- append of texts onto a row of the call's own, in a region that draws -/
theorem wp_ts {o : Oper} {a : Act} {K : Act → World → Prop} {Q : Exit → Act → World → Prop} {W wr : World} {v u : Value} {n : Nat} {xs ys : List Value} (s x : Operand)
    (ho : o.op = .call { callee := .builtin .append, args := #[s, x], argTypes := #[44, 44] }) (hs : a.eval s = v) (hx : a.eval x = u)
    (hown : W.ownsRow wr.heap.size 9 1 v n xs) (hb : VS W u ys) (hn : n + ys.length ≤ 1000) (hO : Only (fun _ => False) wr W)
    (h : ∀ v' w4, w4.ownsRow wr.heap.size 9 1 v' (n + ys.length) (xs ++ ys) → Only (fun _ => False) wr w4 → (∀ M cs, some M ≠ v.ownBlock → Blk W M 9 cs → Blk w4 M 9 cs) → K (a.put o.dst v') w4) :
    Oper.wp Tryz.prog o a W K Q := by
  obtain ⟨i0, hi, hz0, hz1, hz2⟩ := info_parts Tryz.infoTx
  refine wp_append_vs s x 44 ho wr.heap.size 9 i0 (.string ⟨#[]⟩) 16 Tryz.underlying44 hi hz0 hz1 hz2 rfl v n xs hs hown u ys hx hb (by unfold maxLen; omega) (by omega) hO.size ?_
  intro v' w4 hown' hgr
  refine h v' w4 hown' (hO.grown hgr (fun k hk e => by have := (hown.lt k e).1; omega)) (fun M cs hM hM2 => ?_)
  unfold Blk at *
  rw [← hM2]
  exact hgr.block M (Array.getElem?_eq_some_iff.1 hM2).1 hM
theorem wp_lit0 {o : Oper} {a : Act} {W : World} {K : Act → World → Prop} {Q : Exit → Act → World → Prop} (ho : o.op = .buildSlice 44 0 #[])
    (h : K (a.put o.dst (.slice (some ⟨W.heap.size, 0, none⟩) 0 0)) (W.alloc (.cells #[] 9))) : Oper.wp Tryz.prog o a W K Q := by
  obtain ⟨dst, op, ty, pos, af, gd⟩ := o
  simp only at ho
  subst ho
  go_simp
  exact h
theorem wp_lit1 {o : Oper} {a : Act} {W : World} {s : ByteArray} {K : Act → World → Prop} {Q : Exit → Act → World → Prop} (ho : o.op = .buildSlice 44 1 #[(0, Operand.tmp 55)]) (h0 : a.eval (.tmp 55) = .string s)
    (h : K (a.put o.dst (.slice (some ⟨W.heap.size, 0, none⟩) 1 1)) (W.alloc (.cells #[.string s] 9))) : Oper.wp Tryz.prog o a W K Q := by
  obtain ⟨dst, op, ty, pos, af, gd⟩ := o
  simp only at ho
  subst ho
  simp only [Act.eval] at h0
  have e0 : a.tmps[55]?.getD undef = .string s := by simpa using h0
  unfold Oper.wp
  simp [execOp, e0, go_sem]
  exact h
theorem Blk.keepO {w w' : World} {M : Nat} {E : TypeId} {cs : List Value} (h : Blk w M E cs) (o : Only (fun _ => False) w w') : Blk w' M E cs := o.heap h (fun f => f)
theorem blk_ne {W : World} {N M : Nat} {E : TypeId} {y : Value} (h : Blk W N E []) (k : Blk W M E [y]) {m c : Nat} : some M ≠ (Value.slice (some ⟨N, 0, none⟩) m c).ownBlock := fun e => by
  simp [Value.ownBlock] at e
  subst e
  unfold Blk at h k
  rw [h] at k
  simp at k
set_option maxHeartbeats 4000000 in
set_option maxRecDepth 100000 in
theorem rtenants_any (v : Value) (E : List (List Int × Int)) (w : World) (h : Ens w v E) (hu : EU8 E) (hl : E.length ≤ 100) :
    Calls Tryz.prog 28 #[v] w fun e w' => ∃ u, e = .returned u ∧ Sts w' u (TEN (E.map Prod.fst)) ∧ Only (fun _ => False) w w' := by
  obtain ⟨ao, cap, rfl⟩ := h.len
  have HB := hideIt h
  have HU := hideIt hu
  obtain ⟨n, hn⟩ : ∃ n, n = E.length := ⟨_, rfl⟩
  have HN := hideIt hn
  rw [← hn] at HB hl
  rw [← hn]
  have R0 := hideIt (Only.refl (fun _ => False) w)
  clear h hu hn
  go_enter Tryz.func28, Tryz.ntmps28
  go_wp2
  go_loopw [3, 4] (fun u i wr => ∃ q : Nat, q ≤ n ∧ i = .int .i64 q ∧ wr.ownsRow w.heap.size 9 1 u (TNK E q).length (tcells (TNK E q)) ∧ Only (fun _ => False) w wr) (fun _ i _ => n - (intOf i).toNat)
  case atStart =>
    refine ⟨0, Nat.zero_le _, rfl, ?_, R0.out⟩
    rw [TNK_zero]
    exact ⟨rfl, .inl ⟨rfl, rfl⟩⟩
  case round =>
    clear R0
    obtain ⟨q, hq, rfl, own, on⟩ := hrel
    obtain ⟨WB, hWB⟩ : ∃ WB, WB = wr := ⟨_, rfl⟩
    subst hWB
    obtain ⟨au, cu, rfl⟩ := own_slice own
    by_cases hlt : q < n
    · have hlt' : q < E.length := by rw [← HN.out]; exact hlt
      obtain ⟨b, off, cap', e, hc0, hc1⟩ := (HB.out.past on).at q hlt'
      simp only [Value.slice.injEq] at e
      obtain ⟨rfl, hmx, rfl⟩ := e
      clear hmx hc1
      have hxu : U8 (E.getD q ([], 0)).1 := HU.out _ (eget_mem hlt')
      have SC := hideIt (TNK_succ E q hlt')
      have hTl : (TNK E q).length ≤ q := by
        have := TEN_len ((E.take q).map Prod.fst)
        rw [List.length_map, List.length_take] at this
        exact Nat.le_trans this (Nat.min_le_left _ _)
      have hTU : ∀ y ∈ TNK E q, U8 y := fun y hy => by
        obtain ⟨e, he, rfl⟩ := List.mem_map.1 ((mem_TEN _ _).1 hy)
        exact HU.out e (List.mem_of_mem_take he)
      have HTU := hideIt hTU
      obtain ⟨x, hx⟩ : ∃ x, x = (E.getD q ([], 0)).1 := ⟨_, rfl⟩
      rw [← hx] at hc0 SC hxu
      obtain ⟨T, hT⟩ : ∃ T, T = TNK E q := ⟨_, rfl⟩
      rw [← hT] at own SC hTl HTU
      rw [← hT]
      have HS := hideIt (Sts.of_own own)
      have OWN := hideIt own
      have ON := hideIt on
      obtain ⟨t, ht⟩ : ∃ t, t = T.length := ⟨_, rfl⟩
      have HTL := hideIt ht
      rw [← ht] at HS OWN hTl
      rw [← ht]
      have i0 : (0 : Int) ≤ (q : Int) := by omega
      have i1 : (q : Int) < (n : Int) := by omega
      have HXU := hideIt hxu
      have HC : Hid (∀ W, Only (fun _ => False) WB W → W.cell? ⟨b, off + q * 2, none⟩ = some (.string (strOfNums x))) := fun W o => by
        obtain ⟨b3, off3, cap3, e, he0, _⟩ := (HB.out.past (on.same o)).at q hlt'
        simp only [Value.slice.injEq, Option.some.injEq, Addr.mk.injEq] at e
        obtain ⟨⟨rfl, rfl, -⟩, -, rfl⟩ := e
        rw [hx]; exact he0
      clear hx hT ht own on hlt' hTU hxu hc0
      go_wp2
      have R1 := hideIt (Only.refl (fun _ => False) WB)
      go_loopw [5] (fun i w2 => ∃ k : Nat, k ≤ t ∧ i = .int .i64 k ∧ (∀ j, j < k → lexB (T.getD j []) x = true) ∧ Only (fun _ => False) WB w2) (fun i _ => t - (intOf i).toNat)
      case atStart => exact ⟨0, Nat.zero_le _, rfl, fun j hj => by omega, R1.out⟩
      case round =>
        clear R1
        obtain ⟨k, hk, rfl, hall, o2⟩ := hrel
        have HALL := hideIt hall
        have O2 := hideIt o2
        by_cases hkt : k < t
        · have hkt' : k < T.length := by rw [← HTL.out]; exact hkt
          obtain ⟨b2, off2, cap2, e, hd0⟩ := (HS.out.past o2).at k hkt'
          simp only [Value.slice.injEq] at e
          obtain ⟨rfl, hmx, rfl⟩ := e
          clear hmx
          have hyu := HTU.out _ (eget_mem (d := []) hkt')
          obtain ⟨y, hy⟩ : ∃ y, y = T.getD k [] := ⟨_, rfl⟩
          rw [← hy] at hd0 hyu
          have HY := hideIt hy
          have hls := less_nums hyu HXU.out
          have heq := eq_nums hyu HXU.out
          have j0 : (0 : Int) ≤ (k : Int) := by omega
          have j1 : (k : Int) < (t : Int) := by omega
          have hc0' := HC.out _ o2
          clear hy hyu hkt' hall o2
          by_cases hyx : lexB y x = true
          · rw [hyx] at hls
            have HF := hideIt hyx
            clear hyx heq
            go_wp2_with fail
            go_quiet (fail)
            have NX := hideIt (fun q => O2.out.drewN q)
            clear O2
            go_wp2
            go_roundw
            case rel =>
              refine ⟨k + 1, by omega, by go_num, fun j hj => ?_, NX.out _⟩
              rcases Nat.lt_succ_iff_lt_or_eq.1 hj with z | rfl
              · exact HALL.out j z
              · rw [← HY.out]; exact HF.out
            case measure => simp [intOf]; omega
          · rw [Bool.not_eq_true] at hyx
            rw [hyx] at hls
            have HF := hideIt hyx
            clear hyx
            by_cases hye : y = x
            · rw [decide_eq_true hye] at heq
              have HYE := hideIt hye
              clear hye
              go_wp2_with fail
              go_quiet (fail)
              have O3 := hideIt (O2.out.drewN nq)
              go_wp2_with fail
              go_quiet (fail)
              have O4 := hideIt (O3.out.drewN nq)
              have NX := hideIt (fun p => ON.out.same (O2.out.drewN p))
              have OX := hideIt (O4.out.own OWN.out (fun _ _ f => f))
              have HI : Hid (insT x T = T) := by
                simp only [Hid]
                rw [insT_at x T k (by rw [← HTL.out]; exact hk) HALL.out (fun _ => by rw [← HY.out]; exact HF.out), if_pos ⟨by rw [← HTL.out]; exact hkt, by rw [← HY.out]; exact HYE.out⟩]
              clear ON O2 O3 O4 OWN
              go_wp2
              go_roundw
              case rel =>
                refine ⟨q + 1, by omega, by go_num, ?_, ?_⟩
                · rw [SC.out, HI.out, ← HTL.out]
                  exact OX.out
                · exact NX.out _
              case measure => simp [intOf]; omega
            · rw [decide_eq_false hye] at heq
              have HYE := hideIt hye
              clear hye
              go_wp2_with fail
              go_quiet (fail)
              obtain ⟨W3, hW3⟩ : ∃ W3, W3 = wr.drewN nq := ⟨_, rfl⟩
              have O3 := hideIt (O2.out.drewN nq)
              rw [← hW3] at O3
              rw [← hW3]
              have hd3 : W3.cell? ⟨b2, off2 + k, none⟩ = some (.string (strOfNums y)) := by rw [hW3]; exact hd0
              have hc3 : W3.cell? ⟨b, off + q * 2, none⟩ = some (.string (strOfNums x)) := by rw [hW3]; exact hc0'
              clear hW3 hd0 hc0'
              go_wp2_with fail
              go_quiet (fail)
              obtain ⟨WC, hWC⟩ : ∃ WC, WC = W3.drewN nq := ⟨_, rfl⟩
              have OCR := hideIt (O3.out.drewN nq)
              rw [← hWC] at OCR
              rw [← hWC]
              clear hWC
              go_wp2_with fail
              have HNO : Hid (k < T.length → lexB (T.getD k []) x = false) := fun _ => by rw [← HY.out]; exact HF.out
              have HNE : Hid (¬ (k < T.length ∧ T.getD k [] = x)) := fun h => HYE.out (by rw [HY.out]; exact h.2)
              have HI : Hid (insT x T = T.take k ++ x :: T.drop k) := by
                simp only [Hid]
                rw [insT_at x T k (by rw [← HTL.out]; exact hk) HALL.out HNO.out, if_neg HNE.out]
              have jc : (k : Int) ≤ (cu : Int) := by have := own_le OWN.out; omega
              have j5 : (t : Int) ≤ (cu : Int) := by have := own_le OWN.out; omega
              have j8 : t ≤ cu := by have := own_le OWN.out; omega
              have hcu : ¬ cu = k := by have := own_le OWN.out; omega
              clear HY HYE HF hls heq hd3 hc3
              obtain ⟨VL, VH, VH2⟩ := vs_cut (OCR.out.own OWN.out (fun _ _ f => f)) (tcells_one T) k (by omega)
              rw [← List.map_take] at VL
              rw [← List.map_drop] at VH VH2
              have hON := ON.out.same OCR.out
              have HONS := hideIt (And.intro hON.size hON)
              have VHI : Hid (∀ W, Only (fun _ => False) WC W → VS W (.slice (some ⟨b2, off2 + k, none⟩) (t - k) (cu - k)) (tcells (T.drop k))) := fun W o => by have := VH.past o; rw [Option.map_some, Go.WideShapes.add_plain] at this; exact this
              have VLO : Hid (∀ W, Only (fun _ => False) WC W → VS W (.slice (some ⟨b2, off2, none⟩) k cu) (tcells (T.take k))) := fun W o => VL.past o
              clear VL VH VH2 OWN HALL hON
              have KC : Hid (∀ W, Only (fun _ => False) WC W → (W.cell? ⟨b, off + q * 2, none⟩ = some (.string (strOfNums x)) ∧ Only (fun _ => False) WC W)) := fun W o => ⟨HC.out W (OCR.out.same o), o⟩
              have KA : Hid (∀ W o, (W.cell? ⟨b, off + q * 2, none⟩ = some (.string (strOfNums x)) ∧ Only (fun _ => False) WC W) → ((W.alloc o).cell? ⟨b, off + q * 2, none⟩ = some (.string (strOfNums x)) ∧ Only (fun _ => False) WC (W.alloc o))) := fun W o h => KC.out _ (h.2.alloc o)
              have KD := hideIt (KC.out WC.drew (Only.refl _ _).drew)
              have ht1000 : t ≤ 1000 := by omega
              have j4 : (k : Int) ≤ (t : Int) := by omega
              have j6 : (0 : Int) ≤ (k : Int) := by omega
              have j7 : k ≤ cu := by omega
              have HTK : Hid ((tcells (T.take k)).length = k) := by simp only [Hid]; rw [List.length_map, List.length_take, Nat.min_eq_left (by rw [← HTL.out]; exact hk)]
              have HDK : Hid ((tcells (T.drop k)).length = t - k) := by simp only [Hid]; rw [List.length_map, List.length_drop, ← HTL.out]
              clear HC OCR ON HS HB HXU HTU O2 O3 HNO HNE
              refine wp_region_held_drew (S := fun W => W.cell? ⟨b, off + q * 2, none⟩ = some (.string (strOfNums x)) ∧ Only (fun _ => False) WC W) (by kernel_rfl) KD.out (fun hH0 => ?_)
              try simp only [Act.put, List.setIfInBounds_toArray, List.set_cons_zero, List.set_cons_succ]
              have c00 : Only (fun _ => False) WC WC.drew := (Only.refl _ _).drew
              refine wpAnyH_take (i := 1) (oi := { dst := some 47, op := Op.move (Operand.tmp 3), type := 44, pos := "ref.go:24", after := #[], guard := none }) (v := ?tvq1) rfl (by kernel_rfl) (by kernel_rfl) (by kernel_rfl) (fun _ _ _ h => h) (Or.inl ⟨by rfl, ?thq1⟩) hH0 ?trq1
              case thq1 => (intro w hSw; (try dsimp only at hSw); go_simp; try with_reducible rfl)
              try simp only [Act.put, List.setIfInBounds_toArray, List.set_cons_zero, List.set_cons_succ]
              refine wpAnyH_take (i := 2) (oi := { dst := some 48, op := Op.move (Operand.tmp 5), type := 3, pos := "ref.go:24", after := #[], guard := none }) (v := ?tvq2) rfl (by kernel_rfl) (by kernel_rfl) (by kernel_rfl) (fun _ _ _ h => h) (Or.inl ⟨by rfl, ?thq2⟩) hH0 ?trq2
              case thq2 => (intro w hSw; (try dsimp only at hSw); go_simp; try with_reducible rfl)
              try simp only [Act.put, List.setIfInBounds_toArray, List.set_cons_zero, List.set_cons_succ]
              refine wpAnyH_take (i := 3) (oi := { dst := some 49, op := Op.slice 44 (Operand.tmp 47) none (some (Operand.tmp 48)) none, type := 44, pos := "ref.go:24", after := #[{ on := 1, ground := Ground.data }, { on := 2, ground := Ground.data }], guard := none }) (v := ?tvq3) rfl (by kernel_rfl) (by kernel_rfl) (by kernel_rfl) (fun _ _ _ h => h) (Or.inl ⟨by rfl, ?thq3⟩) hH0 ?trq3
              case thq3 => (intro w hSw; (try dsimp only at hSw); go_simp; try with_reducible rfl)
              try simp only [Act.put, List.setIfInBounds_toArray, List.set_cons_zero, List.set_cons_succ]
              refine wpAnyH_take (i := 5) (oi := { dst := some 51, op := Op.move (Operand.tmp 0), type := 24, pos := "ref.go:24", after := #[], guard := none }) (v := ?tvq4) rfl (by kernel_rfl) (by kernel_rfl) (by kernel_rfl) (fun _ _ _ h => h) (Or.inl ⟨by rfl, ?thq4⟩) hH0 ?trq4
              case thq4 => (intro w hSw; (try dsimp only at hSw); go_simp; try with_reducible rfl)
              try simp only [Act.put, List.setIfInBounds_toArray, List.set_cons_zero, List.set_cons_succ]
              refine wpAnyH_take (i := 6) (oi := { dst := some 52, op := Op.move (Operand.tmp 4), type := 3, pos := "ref.go:24", after := #[], guard := none }) (v := ?tvq5) rfl (by kernel_rfl) (by kernel_rfl) (by kernel_rfl) (fun _ _ _ h => h) (Or.inl ⟨by rfl, ?thq5⟩) hH0 ?trq5
              case thq5 => (intro w hSw; (try dsimp only at hSw); go_simp; try with_reducible rfl)
              try simp only [Act.put, List.setIfInBounds_toArray, List.set_cons_zero, List.set_cons_succ]
              refine wpAnyH_take (i := 7) (oi := { dst := some 53, op := Op.indexAddr 24 (Operand.tmp 51) (Operand.tmp 52), type := 0, pos := "ref.go:24", after := #[{ on := 5, ground := Ground.data }, { on := 6, ground := Ground.data }], guard := none }) (v := ?tvq6) rfl (by kernel_rfl) (by kernel_rfl) (by kernel_rfl) (fun _ _ _ h => h) (Or.inl ⟨by rfl, ?thq6⟩) hH0 ?trq6
              case thq6 => (intro w hSw; (try dsimp only at hSw); go_simp; try with_reducible rfl)
              try simp only [Act.put, List.setIfInBounds_toArray, List.set_cons_zero, List.set_cons_succ]
              refine wpAnyH_take (i := 8) (oi := { dst := some 54, op := Op.fieldAddr 41 (Operand.tmp 53) 0, type := 0, pos := "ref.go:24", after := #[{ on := 7, ground := Ground.data }], guard := none }) (v := ?tvq7) rfl (by kernel_rfl) (by kernel_rfl) (by kernel_rfl) (fun _ _ _ h => h) (Or.inl ⟨by rfl, ?thq7⟩) hH0 ?trq7
              case thq7 => (intro w hSw; (try dsimp only at hSw); go_simp; try with_reducible rfl)
              try simp only [Act.put, List.setIfInBounds_toArray, List.set_cons_zero, List.set_cons_succ]
              refine wpAnyH_take (i := 9) (oi := { dst := some 55, op := Op.load 9 (Operand.tmp 54), type := 9, pos := "ref.go:24", after := #[{ on := 8, ground := Ground.data }], guard := none }) (v := ?tvq8) rfl (by kernel_rfl) (by kernel_rfl) (by kernel_rfl) (fun _ _ _ h => h) (Or.inl ⟨by rfl, ?thq8⟩) hH0 ?trq8
              case thq8 => (intro w hSw; (try dsimp only at hSw); go_simp; try with_reducible rfl)
              try simp only [Act.put, List.setIfInBounds_toArray, List.set_cons_zero, List.set_cons_succ]
              refine wpAnyH_take (i := 12) (oi := { dst := some 58, op := Op.move (Operand.tmp 3), type := 44, pos := "ref.go:24", after := #[], guard := none }) (v := ?tvq9) rfl (by kernel_rfl) (by kernel_rfl) (by kernel_rfl) (fun _ _ _ h => h) (Or.inl ⟨by rfl, ?thq9⟩) hH0 ?trq9
              case thq9 => (intro w hSw; (try dsimp only at hSw); go_simp; try with_reducible rfl)
              try simp only [Act.put, List.setIfInBounds_toArray, List.set_cons_zero, List.set_cons_succ]
              refine wpAnyH_take (i := 13) (oi := { dst := some 59, op := Op.move (Operand.tmp 5), type := 3, pos := "ref.go:24", after := #[], guard := none }) (v := ?tvq10) rfl (by kernel_rfl) (by kernel_rfl) (by kernel_rfl) (fun _ _ _ h => h) (Or.inl ⟨by rfl, ?thq10⟩) hH0 ?trq10
              case thq10 => (intro w hSw; (try dsimp only at hSw); go_simp; try with_reducible rfl)
              try simp only [Act.put, List.setIfInBounds_toArray, List.set_cons_zero, List.set_cons_succ]
              refine wpAnyH_take (i := 14) (oi := { dst := some 60, op := Op.slice 44 (Operand.tmp 58) (some (Operand.tmp 59)) none none, type := 44, pos := "ref.go:24", after := #[{ on := 12, ground := Ground.data }, { on := 13, ground := Ground.data }], guard := none }) (v := ?tvq11) rfl (by kernel_rfl) (by kernel_rfl) (by kernel_rfl) (fun _ _ _ h => h) (Or.inl ⟨by rfl, ?thq11⟩) hH0 ?trq11
              case thq11 => (intro w hSw; (try dsimp only at hSw); go_simp; try with_reducible rfl)
              try simp only [Act.put, List.setIfInBounds_toArray, List.set_cons_zero, List.set_cons_succ]
              refine wpAnyH_ready (rs := [0, 10]) (by kernel_rfl) (by simp) ?_
              refine (AllReadyH.cons (o := { dst := some 46, op := Op.buildSlice 44 0 #[], type := 44, pos := "ref.go:24", after := #[], guard := none }) rfl (fun K hK => ?_) (AllReadyH.cons (o := { dst := some 56, op := Op.buildSlice 44 1 #[(0, Operand.tmp 55)], type := 44, pos := "ref.go:24", after := #[{ on := 9, ground := Ground.data }], guard := none }) rfl (fun K hK => ?_) AllReadyH.nil))
              · rw [if_pos (by rfl)]
                refine wp_lit0 rfl ?_
                have cq12 := Only.alloc c00 (.cells #[] 9)
                refine hK.out _ _ (KC.out _ cq12) (fun hhq15 => ?_)
                clear hK K
                try simp only [Act.put, List.setIfInBounds_toArray, List.set_cons_zero, List.set_cons_succ]
                have hq13 := Blk.new WC.drew 9 []
                have gq14 := Only.size c00
                refine wpAnyH_ready (rs := [4, 10]) (by kernel_rfl) (by simp) ?_
                refine (AllReadyH.cons (o := { dst := some 50, op := Op.call { callee := Callee.builtin Builtin.append, args := #[Operand.tmp 46, Operand.tmp 49], argTypes := #[44, 44] }, type := 44, pos := "ref.go:24", after := #[{ on := 0, ground := Ground.data }, { on := 3, ground := Ground.data }], guard := none }) rfl (fun K hK => ?_) (AllReadyH.cons (o := { dst := some 56, op := Op.buildSlice 44 1 #[(0, Operand.tmp 55)], type := 44, pos := "ref.go:24", after := #[{ on := 9, ground := Ground.data }], guard := none }) rfl (fun K hK => ?_) AllReadyH.nil))
                · rw [if_pos (by rfl)]
                  refine wp_ts (.tmp 46) (.tmp 49) rfl rfl rfl (own_blk0 hq13 gq14) (VLO.out _ cq12) (by rw [HTK.out]; omega) cq12 ?_
                  intro vq16 wq17 owq18 onq19 kpq20
                  refine hK.out _ _ (KC.out _ onq19) (fun hhq21 => ?_)
                  clear hK K
                  try simp only [Act.put, List.setIfInBounds_toArray, List.set_cons_zero, List.set_cons_succ]
                  refine wpAnyH_ready (rs := [10]) (by kernel_rfl) (by simp) ?_
                  refine (AllReadyH.cons (o := { dst := some 56, op := Op.buildSlice 44 1 #[(0, Operand.tmp 55)], type := 44, pos := "ref.go:24", after := #[{ on := 9, ground := Ground.data }], guard := none }) rfl (fun K hK => ?_) AllReadyH.nil)
                  · rw [if_pos (by rfl)]
                    refine wp_lit1 rfl rfl ?_
                    have cq22 := Only.alloc onq19 (.cells #[.string (strOfNums x)] 9)
                    refine hK.out _ _ (KC.out _ cq22) (fun hhq25 => ?_)
                    clear hK K
                    try simp only [Act.put, List.setIfInBounds_toArray, List.set_cons_zero, List.set_cons_succ]
                    have hq23 := Blk.new wq17 9 [.string (strOfNums x)]
                    have oq24 := World.ownsRow.alloc owq18 (.cells #[.string (strOfNums x)] 9)
                    refine wpAnyH_ready (rs := [11]) (by kernel_rfl) (by simp) ?_
                    refine (AllReadyH.cons (o := { dst := some 57, op := Op.call { callee := Callee.builtin Builtin.append, args := #[Operand.tmp 50, Operand.tmp 56], argTypes := #[44, 44] }, type := 44, pos := "ref.go:24", after := #[{ on := 4, ground := Ground.data }, { on := 10, ground := Ground.data }, { on := 4, ground := Ground.chain }], guard := none }) rfl (fun K hK => ?_) AllReadyH.nil)
                    rw [if_pos (by rfl)]
                    refine wp_ts (ys := [.string (strOfNums x)]) (.tmp 50) (.tmp 56) rfl rfl rfl oq24 (VS.blk1 hq23 rfl) (by rw [HTK.out]; simp; omega) cq22 ?_
                    intro vq26 wq27 owq28 onq29 kpq30
                    refine hK.out _ _ (KC.out _ onq29) (fun hhq31 => ?_)
                    clear hK K
                    try simp only [Act.put, List.setIfInBounds_toArray, List.set_cons_zero, List.set_cons_succ]
                    refine wpAnyH_ready (rs := [15]) (by kernel_rfl) (by simp) ?_
                    refine (AllReadyH.cons (o := { dst := some 61, op := Op.call { callee := Callee.builtin Builtin.append, args := #[Operand.tmp 57, Operand.tmp 60], argTypes := #[44, 44] }, type := 44, pos := "ref.go:24", after := #[{ on := 11, ground := Ground.data }, { on := 14, ground := Ground.data }, { on := 11, ground := Ground.chain }], guard := none }) rfl (fun K hK => ?_) AllReadyH.nil)
                    rw [if_pos (by rfl)]
                    refine wp_ts (.tmp 57) (.tmp 60) rfl rfl rfl owq28 (VHI.out _ onq29) (by rw [HTK.out, HDK.out]; simp; omega) onq29 ?_
                    intro vq32 wq33 owq34 onq35 kpq36
                    refine hK.out _ _ (KC.out _ onq35) (fun hhq37 => ?_)
                    clear hK K
                    try simp only [Act.put, List.setIfInBounds_toArray, List.set_cons_zero, List.set_cons_succ]
                    refine wpAnyH_take (i := 16) (oi := { dst := some 3, op := Op.assign (Operand.tmp 61), type := 44, pos := "ref.go:24", after := #[{ on := 15, ground := Ground.data }, { on := 15, ground := Ground.chain }, { on := 0, ground := Ground.phase }, { on := 1, ground := Ground.phase }, { on := 2, ground := Ground.phase }, { on := 3, ground := Ground.phase }, { on := 4, ground := Ground.phase }, { on := 5, ground := Ground.phase }, { on := 6, ground := Ground.phase }, { on := 7, ground := Ground.phase }, { on := 8, ground := Ground.phase }, { on := 9, ground := Ground.phase }, { on := 10, ground := Ground.phase }, { on := 11, ground := Ground.phase }, { on := 12, ground := Ground.phase }, { on := 13, ground := Ground.phase }, { on := 14, ground := Ground.phase }, { on := 15, ground := Ground.phase }], guard := none }) (v := ?tvq38) rfl (by kernel_rfl) (by kernel_rfl) (by kernel_rfl) (fun _ _ _ h => h) (Or.inl ⟨by rfl, ?thq38⟩) hhq37 ?trq38
                    case thq38 => (intro w hSw; (try dsimp only at hSw); go_simp; try with_reducible rfl)
                    try simp only [Act.put, List.setIfInBounds_toArray, List.set_cons_zero, List.set_cons_succ]
                    refine wpAnyH_done (by kernel_rfl) ?_ _
                    have F3 := hideIt (And.intro owq34 onq35)
                    clear owq28 onq29 kpq30 owq34 onq35 kpq36 hhq31 hhq37 oq24 hq23 KA KC KD VLO VHI
                    go_wp2
                    go_roundw
                    case rel =>
                      refine ⟨q + 1, by omega, by go_num, ?_, HONS.out.2.same F3.out.2⟩
                      rw [SC.out, HI.out]
                      have e1 : tcells (T.take k ++ x :: T.drop k) = ([] ++ tcells (T.take k)) ++ [.string (strOfNums x)] ++ tcells (T.drop k) := by simp [tcells]
                      have e2 : (T.take k ++ x :: T.drop k).length = 0 + (tcells (T.take k)).length + [Value.string (strOfNums x)].length + (tcells (T.drop k)).length := by simp [tcells]; omega
                      rw [e1, e2]
                      exact own_low F3.out.1 HONS.out.1
                    case measure => simp [intOf]; omega
                · rw [if_pos (by rfl)]
                  refine wp_lit1 rfl rfl ?_
                  have cq39 := Only.alloc cq12 (.cells #[.string (strOfNums x)] 9)
                  refine hK.out _ _ (KC.out _ cq39) (fun hhq42 => ?_)
                  clear hK K
                  try simp only [Act.put, List.setIfInBounds_toArray, List.set_cons_zero, List.set_cons_succ]
                  have hq40 := Blk.new (World.alloc WC.drew (.cells #[] 9)) 9 [.string (strOfNums x)]
                  have hq41 := Blk.keepO hq13 ((Only.refl (fun _ => False) (World.alloc WC.drew (.cells #[] 9))).alloc (.cells #[.string (strOfNums x)] 9))
                  refine wpAnyH_ready (rs := [4]) (by kernel_rfl) (by simp) ?_
                  refine (AllReadyH.cons (o := { dst := some 50, op := Op.call { callee := Callee.builtin Builtin.append, args := #[Operand.tmp 46, Operand.tmp 49], argTypes := #[44, 44] }, type := 44, pos := "ref.go:24", after := #[{ on := 0, ground := Ground.data }, { on := 3, ground := Ground.data }], guard := none }) rfl (fun K hK => ?_) AllReadyH.nil)
                  · rw [if_pos (by rfl)]
                    refine wp_ts (.tmp 46) (.tmp 49) rfl rfl rfl (own_blk0 hq41 gq14) (VLO.out _ cq39) (by rw [HTK.out]; omega) cq39 ?_
                    intro vq43 wq44 owq45 onq46 kpq47
                    refine hK.out _ _ (KC.out _ onq46) (fun hhq49 => ?_)
                    clear hK K
                    try simp only [Act.put, List.setIfInBounds_toArray, List.set_cons_zero, List.set_cons_succ]
                    have hq48 := kpq47 _ _ (blk_ne hq41 hq40) hq40
                    refine wpAnyH_ready (rs := [11]) (by kernel_rfl) (by simp) ?_
                    refine (AllReadyH.cons (o := { dst := some 57, op := Op.call { callee := Callee.builtin Builtin.append, args := #[Operand.tmp 50, Operand.tmp 56], argTypes := #[44, 44] }, type := 44, pos := "ref.go:24", after := #[{ on := 4, ground := Ground.data }, { on := 10, ground := Ground.data }, { on := 4, ground := Ground.chain }], guard := none }) rfl (fun K hK => ?_) AllReadyH.nil)
                    rw [if_pos (by rfl)]
                    refine wp_ts (ys := [.string (strOfNums x)]) (.tmp 50) (.tmp 56) rfl rfl rfl owq45 (VS.blk1 hq48 rfl) (by rw [HTK.out]; simp; omega) onq46 ?_
                    intro vq50 wq51 owq52 onq53 kpq54
                    refine hK.out _ _ (KC.out _ onq53) (fun hhq55 => ?_)
                    clear hK K
                    try simp only [Act.put, List.setIfInBounds_toArray, List.set_cons_zero, List.set_cons_succ]
                    refine wpAnyH_ready (rs := [15]) (by kernel_rfl) (by simp) ?_
                    refine (AllReadyH.cons (o := { dst := some 61, op := Op.call { callee := Callee.builtin Builtin.append, args := #[Operand.tmp 57, Operand.tmp 60], argTypes := #[44, 44] }, type := 44, pos := "ref.go:24", after := #[{ on := 11, ground := Ground.data }, { on := 14, ground := Ground.data }, { on := 11, ground := Ground.chain }], guard := none }) rfl (fun K hK => ?_) AllReadyH.nil)
                    rw [if_pos (by rfl)]
                    refine wp_ts (.tmp 57) (.tmp 60) rfl rfl rfl owq52 (VHI.out _ onq53) (by rw [HTK.out, HDK.out]; simp; omega) onq53 ?_
                    intro vq56 wq57 owq58 onq59 kpq60
                    refine hK.out _ _ (KC.out _ onq59) (fun hhq61 => ?_)
                    clear hK K
                    try simp only [Act.put, List.setIfInBounds_toArray, List.set_cons_zero, List.set_cons_succ]
                    refine wpAnyH_take (i := 16) (oi := { dst := some 3, op := Op.assign (Operand.tmp 61), type := 44, pos := "ref.go:24", after := #[{ on := 15, ground := Ground.data }, { on := 15, ground := Ground.chain }, { on := 0, ground := Ground.phase }, { on := 1, ground := Ground.phase }, { on := 2, ground := Ground.phase }, { on := 3, ground := Ground.phase }, { on := 4, ground := Ground.phase }, { on := 5, ground := Ground.phase }, { on := 6, ground := Ground.phase }, { on := 7, ground := Ground.phase }, { on := 8, ground := Ground.phase }, { on := 9, ground := Ground.phase }, { on := 10, ground := Ground.phase }, { on := 11, ground := Ground.phase }, { on := 12, ground := Ground.phase }, { on := 13, ground := Ground.phase }, { on := 14, ground := Ground.phase }, { on := 15, ground := Ground.phase }], guard := none }) (v := ?tvq62) rfl (by kernel_rfl) (by kernel_rfl) (by kernel_rfl) (fun _ _ _ h => h) (Or.inl ⟨by rfl, ?thq62⟩) hhq61 ?trq62
                    case thq62 => (intro w hSw; (try dsimp only at hSw); go_simp; try with_reducible rfl)
                    try simp only [Act.put, List.setIfInBounds_toArray, List.set_cons_zero, List.set_cons_succ]
                    refine wpAnyH_done (by kernel_rfl) ?_ _
                    have F3 := hideIt (And.intro owq58 onq59)
                    clear owq52 onq53 kpq54 owq58 onq59 kpq60 hhq55 hhq61 owq45 hq48 KA KC KD VLO VHI
                    go_wp2
                    go_roundw
                    case rel =>
                      refine ⟨q + 1, by omega, by go_num, ?_, HONS.out.2.same F3.out.2⟩
                      rw [SC.out, HI.out]
                      have e1 : tcells (T.take k ++ x :: T.drop k) = ([] ++ tcells (T.take k)) ++ [.string (strOfNums x)] ++ tcells (T.drop k) := by simp [tcells]
                      have e2 : (T.take k ++ x :: T.drop k).length = 0 + (tcells (T.take k)).length + [Value.string (strOfNums x)].length + (tcells (T.drop k)).length := by simp [tcells]; omega
                      rw [e1, e2]
                      exact own_low F3.out.1 HONS.out.1
                    case measure => simp [intOf]; omega
              · rw [if_pos (by rfl)]
                refine wp_lit1 rfl rfl ?_
                have cq63 := Only.alloc c00 (.cells #[.string (strOfNums x)] 9)
                refine hK.out _ _ (KC.out _ cq63) (fun hhq65 => ?_)
                clear hK K
                try simp only [Act.put, List.setIfInBounds_toArray, List.set_cons_zero, List.set_cons_succ]
                have hq64 := Blk.new WC.drew 9 [.string (strOfNums x)]
                refine wpAnyH_ready (rs := [0]) (by kernel_rfl) (by simp) ?_
                refine (AllReadyH.cons (o := { dst := some 46, op := Op.buildSlice 44 0 #[], type := 44, pos := "ref.go:24", after := #[], guard := none }) rfl (fun K hK => ?_) AllReadyH.nil)
                · rw [if_pos (by rfl)]
                  refine wp_lit0 rfl ?_
                  have cq66 := Only.alloc cq63 (.cells #[] 9)
                  refine hK.out _ _ (KC.out _ cq66) (fun hhq70 => ?_)
                  clear hK K
                  try simp only [Act.put, List.setIfInBounds_toArray, List.set_cons_zero, List.set_cons_succ]
                  have hq67 := Blk.new (World.alloc WC.drew (.cells #[.string (strOfNums x)] 9)) 9 []
                  have gq68 := Only.size cq63
                  have hq69 := Blk.keepO hq64 ((Only.refl (fun _ => False) (World.alloc WC.drew (.cells #[.string (strOfNums x)] 9))).alloc (.cells #[] 9))
                  refine wpAnyH_ready (rs := [4]) (by kernel_rfl) (by simp) ?_
                  refine (AllReadyH.cons (o := { dst := some 50, op := Op.call { callee := Callee.builtin Builtin.append, args := #[Operand.tmp 46, Operand.tmp 49], argTypes := #[44, 44] }, type := 44, pos := "ref.go:24", after := #[{ on := 0, ground := Ground.data }, { on := 3, ground := Ground.data }], guard := none }) rfl (fun K hK => ?_) AllReadyH.nil)
                  · rw [if_pos (by rfl)]
                    refine wp_ts (.tmp 46) (.tmp 49) rfl rfl rfl (own_blk0 hq67 gq68) (VLO.out _ cq66) (by rw [HTK.out]; omega) cq66 ?_
                    intro vq71 wq72 owq73 onq74 kpq75
                    refine hK.out _ _ (KC.out _ onq74) (fun hhq77 => ?_)
                    clear hK K
                    try simp only [Act.put, List.setIfInBounds_toArray, List.set_cons_zero, List.set_cons_succ]
                    have hq76 := kpq75 _ _ (blk_ne hq67 hq69) hq69
                    refine wpAnyH_ready (rs := [11]) (by kernel_rfl) (by simp) ?_
                    refine (AllReadyH.cons (o := { dst := some 57, op := Op.call { callee := Callee.builtin Builtin.append, args := #[Operand.tmp 50, Operand.tmp 56], argTypes := #[44, 44] }, type := 44, pos := "ref.go:24", after := #[{ on := 4, ground := Ground.data }, { on := 10, ground := Ground.data }, { on := 4, ground := Ground.chain }], guard := none }) rfl (fun K hK => ?_) AllReadyH.nil)
                    rw [if_pos (by rfl)]
                    refine wp_ts (ys := [.string (strOfNums x)]) (.tmp 50) (.tmp 56) rfl rfl rfl owq73 (VS.blk1 hq76 rfl) (by rw [HTK.out]; simp; omega) onq74 ?_
                    intro vq78 wq79 owq80 onq81 kpq82
                    refine hK.out _ _ (KC.out _ onq81) (fun hhq83 => ?_)
                    clear hK K
                    try simp only [Act.put, List.setIfInBounds_toArray, List.set_cons_zero, List.set_cons_succ]
                    refine wpAnyH_ready (rs := [15]) (by kernel_rfl) (by simp) ?_
                    refine (AllReadyH.cons (o := { dst := some 61, op := Op.call { callee := Callee.builtin Builtin.append, args := #[Operand.tmp 57, Operand.tmp 60], argTypes := #[44, 44] }, type := 44, pos := "ref.go:24", after := #[{ on := 11, ground := Ground.data }, { on := 14, ground := Ground.data }, { on := 11, ground := Ground.chain }], guard := none }) rfl (fun K hK => ?_) AllReadyH.nil)
                    rw [if_pos (by rfl)]
                    refine wp_ts (.tmp 57) (.tmp 60) rfl rfl rfl owq80 (VHI.out _ onq81) (by rw [HTK.out, HDK.out]; simp; omega) onq81 ?_
                    intro vq84 wq85 owq86 onq87 kpq88
                    refine hK.out _ _ (KC.out _ onq87) (fun hhq89 => ?_)
                    clear hK K
                    try simp only [Act.put, List.setIfInBounds_toArray, List.set_cons_zero, List.set_cons_succ]
                    refine wpAnyH_take (i := 16) (oi := { dst := some 3, op := Op.assign (Operand.tmp 61), type := 44, pos := "ref.go:24", after := #[{ on := 15, ground := Ground.data }, { on := 15, ground := Ground.chain }, { on := 0, ground := Ground.phase }, { on := 1, ground := Ground.phase }, { on := 2, ground := Ground.phase }, { on := 3, ground := Ground.phase }, { on := 4, ground := Ground.phase }, { on := 5, ground := Ground.phase }, { on := 6, ground := Ground.phase }, { on := 7, ground := Ground.phase }, { on := 8, ground := Ground.phase }, { on := 9, ground := Ground.phase }, { on := 10, ground := Ground.phase }, { on := 11, ground := Ground.phase }, { on := 12, ground := Ground.phase }, { on := 13, ground := Ground.phase }, { on := 14, ground := Ground.phase }, { on := 15, ground := Ground.phase }], guard := none }) (v := ?tvq90) rfl (by kernel_rfl) (by kernel_rfl) (by kernel_rfl) (fun _ _ _ h => h) (Or.inl ⟨by rfl, ?thq90⟩) hhq89 ?trq90
                    case thq90 => (intro w hSw; (try dsimp only at hSw); go_simp; try with_reducible rfl)
                    try simp only [Act.put, List.setIfInBounds_toArray, List.set_cons_zero, List.set_cons_succ]
                    refine wpAnyH_done (by kernel_rfl) ?_ _
                    have F3 := hideIt (And.intro owq86 onq87)
                    clear owq80 onq81 kpq82 owq86 onq87 kpq88 hhq83 hhq89 owq73 hq76 KA KC KD VLO VHI
                    go_wp2
                    go_roundw
                    case rel =>
                      refine ⟨q + 1, by omega, by go_num, ?_, HONS.out.2.same F3.out.2⟩
                      rw [SC.out, HI.out]
                      have e1 : tcells (T.take k ++ x :: T.drop k) = ([] ++ tcells (T.take k)) ++ [.string (strOfNums x)] ++ tcells (T.drop k) := by simp [tcells]
                      have e2 : (T.take k ++ x :: T.drop k).length = 0 + (tcells (T.take k)).length + [Value.string (strOfNums x)].length + (tcells (T.drop k)).length := by simp [tcells]; omega
                      rw [e1, e2]
                      exact own_low F3.out.1 HONS.out.1
                    case measure => simp [intOf]; omega
        · have hke : k = t := by omega
          have d1 : decide ((k : Int) < (t : Int)) = false := by rw [decide_eq_false_iff_not]; omega
          have d2 : decide (k < t) = false := by rw [decide_eq_false_iff_not]; omega
          have HKE := hideIt hke
          clear hke hall o2
          go_wp2_with fail
          go_quiet (fail)
          obtain ⟨W3, hW3⟩ : ∃ W3, W3 = wr.drewN nq := ⟨_, rfl⟩
          have O3 := hideIt (O2.out.drewN nq)
          rw [← hW3] at O3
          rw [← hW3]
          clear hW3
          go_wp2_with fail
          go_quiet (fail)
          obtain ⟨WC, hWC⟩ : ∃ WC, WC = W3.drewN nq := ⟨_, rfl⟩
          have OCR := hideIt (O3.out.drewN nq)
          rw [← hWC] at OCR
          rw [← hWC]
          clear hWC
          go_wp2_with fail
          have HNO : Hid (k < T.length → lexB (T.getD k []) x = false) := fun h => absurd h (by rw [← HTL.out, HKE.out]; exact Nat.lt_irrefl _)
          have HNE : Hid (¬ (k < T.length ∧ T.getD k [] = x)) := fun h => absurd h.1 (by rw [← HTL.out, HKE.out]; exact Nat.lt_irrefl _)
          clear d1 d2
          have HI : Hid (insT x T = T.take k ++ x :: T.drop k) := by
            simp only [Hid]
            rw [insT_at x T k (by rw [← HTL.out]; exact hk) HALL.out HNO.out, if_neg HNE.out]
          have jc : (k : Int) ≤ (cu : Int) := by have := own_le OWN.out; omega
          have j5 : (t : Int) ≤ (cu : Int) := by have := own_le OWN.out; omega
          have j8 : t ≤ cu := by have := own_le OWN.out; omega
          by_cases hcu : cu = k
          · obtain rfl : k = t := HKE.out
            obtain rfl : k = cu := hcu.symm
            obtain ⟨VL, VH, VH2⟩ := vs_cut (OCR.out.own OWN.out (fun _ _ f => f)) (tcells_one T) k (by omega)
            rw [← List.map_take] at VL
            rw [← List.map_drop] at VH VH2
            have hON := ON.out.same OCR.out
            have HONS := hideIt (And.intro hON.size hON)
            have VHI : Hid (∀ W, Only (fun _ => False) WC W → VS W (.slice au 0 0) (tcells (T.drop k))) := fun W o => (VH2 rfl).past o
            have VLO : Hid (∀ W, Only (fun _ => False) WC W → VS W (.slice au k k) (tcells (T.take k))) := fun W o => VL.past o
            clear VL VH VH2 OWN HALL hON
            have KC : Hid (∀ W, Only (fun _ => False) WC W → (W.cell? ⟨b, off + q * 2, none⟩ = some (.string (strOfNums x)) ∧ Only (fun _ => False) WC W)) := fun W o => ⟨HC.out W (OCR.out.same o), o⟩
            have KA : Hid (∀ W o, (W.cell? ⟨b, off + q * 2, none⟩ = some (.string (strOfNums x)) ∧ Only (fun _ => False) WC W) → ((W.alloc o).cell? ⟨b, off + q * 2, none⟩ = some (.string (strOfNums x)) ∧ Only (fun _ => False) WC (W.alloc o))) := fun W o h => KC.out _ (h.2.alloc o)
            have KD := hideIt (KC.out WC.drew (Only.refl _ _).drew)
            have ht1000 : k ≤ 1000 := by omega
            have j4 : (k : Int) ≤ (k : Int) := by omega
            have j6 : (0 : Int) ≤ (k : Int) := by omega
            have j7 : k ≤ k := by omega
            have HTK : Hid ((tcells (T.take k)).length = k) := by simp only [Hid]; rw [List.length_map, List.length_take, Nat.min_eq_left (by rw [← HTL.out]; exact hk)]
            have HDK : Hid ((tcells (T.drop k)).length = k - k) := by simp only [Hid]; rw [List.length_map, List.length_drop, ← HTL.out]
            clear HC OCR ON HS HB HXU HTU O2 O3 HNO HNE
            refine wp_region_held_drew (S := fun W => W.cell? ⟨b, off + q * 2, none⟩ = some (.string (strOfNums x)) ∧ Only (fun _ => False) WC W) (by kernel_rfl) KD.out (fun hH0 => ?_)
            try simp only [Act.put, List.setIfInBounds_toArray, List.set_cons_zero, List.set_cons_succ]
            have c00 : Only (fun _ => False) WC WC.drew := (Only.refl _ _).drew
            refine wpAnyH_take (i := 1) (oi := { dst := some 47, op := Op.move (Operand.tmp 3), type := 44, pos := "ref.go:24", after := #[], guard := none }) (v := ?tvq91) rfl (by kernel_rfl) (by kernel_rfl) (by kernel_rfl) (fun _ _ _ h => h) (Or.inl ⟨by rfl, ?thq91⟩) hH0 ?trq91
            case thq91 => (intro w hSw; (try dsimp only at hSw); go_simp; try with_reducible rfl)
            try simp only [Act.put, List.setIfInBounds_toArray, List.set_cons_zero, List.set_cons_succ]
            refine wpAnyH_take (i := 2) (oi := { dst := some 48, op := Op.move (Operand.tmp 5), type := 3, pos := "ref.go:24", after := #[], guard := none }) (v := ?tvq92) rfl (by kernel_rfl) (by kernel_rfl) (by kernel_rfl) (fun _ _ _ h => h) (Or.inl ⟨by rfl, ?thq92⟩) hH0 ?trq92
            case thq92 => (intro w hSw; (try dsimp only at hSw); go_simp; try with_reducible rfl)
            try simp only [Act.put, List.setIfInBounds_toArray, List.set_cons_zero, List.set_cons_succ]
            refine wpAnyH_take (i := 3) (oi := { dst := some 49, op := Op.slice 44 (Operand.tmp 47) none (some (Operand.tmp 48)) none, type := 44, pos := "ref.go:24", after := #[{ on := 1, ground := Ground.data }, { on := 2, ground := Ground.data }], guard := none }) (v := ?tvq93) rfl (by kernel_rfl) (by kernel_rfl) (by kernel_rfl) (fun _ _ _ h => h) (Or.inl ⟨by rfl, ?thq93⟩) hH0 ?trq93
            case thq93 => (intro w hSw; (try dsimp only at hSw); go_simp; try with_reducible rfl)
            try simp only [Act.put, List.setIfInBounds_toArray, List.set_cons_zero, List.set_cons_succ]
            refine wpAnyH_take (i := 5) (oi := { dst := some 51, op := Op.move (Operand.tmp 0), type := 24, pos := "ref.go:24", after := #[], guard := none }) (v := ?tvq94) rfl (by kernel_rfl) (by kernel_rfl) (by kernel_rfl) (fun _ _ _ h => h) (Or.inl ⟨by rfl, ?thq94⟩) hH0 ?trq94
            case thq94 => (intro w hSw; (try dsimp only at hSw); go_simp; try with_reducible rfl)
            try simp only [Act.put, List.setIfInBounds_toArray, List.set_cons_zero, List.set_cons_succ]
            refine wpAnyH_take (i := 6) (oi := { dst := some 52, op := Op.move (Operand.tmp 4), type := 3, pos := "ref.go:24", after := #[], guard := none }) (v := ?tvq95) rfl (by kernel_rfl) (by kernel_rfl) (by kernel_rfl) (fun _ _ _ h => h) (Or.inl ⟨by rfl, ?thq95⟩) hH0 ?trq95
            case thq95 => (intro w hSw; (try dsimp only at hSw); go_simp; try with_reducible rfl)
            try simp only [Act.put, List.setIfInBounds_toArray, List.set_cons_zero, List.set_cons_succ]
            refine wpAnyH_take (i := 7) (oi := { dst := some 53, op := Op.indexAddr 24 (Operand.tmp 51) (Operand.tmp 52), type := 0, pos := "ref.go:24", after := #[{ on := 5, ground := Ground.data }, { on := 6, ground := Ground.data }], guard := none }) (v := ?tvq96) rfl (by kernel_rfl) (by kernel_rfl) (by kernel_rfl) (fun _ _ _ h => h) (Or.inl ⟨by rfl, ?thq96⟩) hH0 ?trq96
            case thq96 => (intro w hSw; (try dsimp only at hSw); go_simp; try with_reducible rfl)
            try simp only [Act.put, List.setIfInBounds_toArray, List.set_cons_zero, List.set_cons_succ]
            refine wpAnyH_take (i := 8) (oi := { dst := some 54, op := Op.fieldAddr 41 (Operand.tmp 53) 0, type := 0, pos := "ref.go:24", after := #[{ on := 7, ground := Ground.data }], guard := none }) (v := ?tvq97) rfl (by kernel_rfl) (by kernel_rfl) (by kernel_rfl) (fun _ _ _ h => h) (Or.inl ⟨by rfl, ?thq97⟩) hH0 ?trq97
            case thq97 => (intro w hSw; (try dsimp only at hSw); go_simp; try with_reducible rfl)
            try simp only [Act.put, List.setIfInBounds_toArray, List.set_cons_zero, List.set_cons_succ]
            refine wpAnyH_take (i := 9) (oi := { dst := some 55, op := Op.load 9 (Operand.tmp 54), type := 9, pos := "ref.go:24", after := #[{ on := 8, ground := Ground.data }], guard := none }) (v := ?tvq98) rfl (by kernel_rfl) (by kernel_rfl) (by kernel_rfl) (fun _ _ _ h => h) (Or.inl ⟨by rfl, ?thq98⟩) hH0 ?trq98
            case thq98 => (intro w hSw; (try dsimp only at hSw); go_simp; try with_reducible rfl)
            try simp only [Act.put, List.setIfInBounds_toArray, List.set_cons_zero, List.set_cons_succ]
            refine wpAnyH_take (i := 12) (oi := { dst := some 58, op := Op.move (Operand.tmp 3), type := 44, pos := "ref.go:24", after := #[], guard := none }) (v := ?tvq99) rfl (by kernel_rfl) (by kernel_rfl) (by kernel_rfl) (fun _ _ _ h => h) (Or.inl ⟨by rfl, ?thq99⟩) hH0 ?trq99
            case thq99 => (intro w hSw; (try dsimp only at hSw); go_simp; try with_reducible rfl)
            try simp only [Act.put, List.setIfInBounds_toArray, List.set_cons_zero, List.set_cons_succ]
            refine wpAnyH_take (i := 13) (oi := { dst := some 59, op := Op.move (Operand.tmp 5), type := 3, pos := "ref.go:24", after := #[], guard := none }) (v := ?tvq100) rfl (by kernel_rfl) (by kernel_rfl) (by kernel_rfl) (fun _ _ _ h => h) (Or.inl ⟨by rfl, ?thq100⟩) hH0 ?trq100
            case thq100 => (intro w hSw; (try dsimp only at hSw); go_simp; try with_reducible rfl)
            try simp only [Act.put, List.setIfInBounds_toArray, List.set_cons_zero, List.set_cons_succ]
            refine wpAnyH_take (i := 14) (oi := { dst := some 60, op := Op.slice 44 (Operand.tmp 58) (some (Operand.tmp 59)) none none, type := 44, pos := "ref.go:24", after := #[{ on := 12, ground := Ground.data }, { on := 13, ground := Ground.data }], guard := none }) (v := ?tvq101) rfl (by kernel_rfl) (by kernel_rfl) (by kernel_rfl) (fun _ _ _ h => h) (Or.inl ⟨by rfl, ?thq101⟩) hH0 ?trq101
            case thq101 => (intro w hSw; (try dsimp only at hSw); go_simp; try with_reducible rfl)
            try simp only [Act.put, List.setIfInBounds_toArray, List.set_cons_zero, List.set_cons_succ]
            refine wpAnyH_ready (rs := [0, 10]) (by kernel_rfl) (by simp) ?_
            refine (AllReadyH.cons (o := { dst := some 46, op := Op.buildSlice 44 0 #[], type := 44, pos := "ref.go:24", after := #[], guard := none }) rfl (fun K hK => ?_) (AllReadyH.cons (o := { dst := some 56, op := Op.buildSlice 44 1 #[(0, Operand.tmp 55)], type := 44, pos := "ref.go:24", after := #[{ on := 9, ground := Ground.data }], guard := none }) rfl (fun K hK => ?_) AllReadyH.nil))
            · rw [if_pos (by rfl)]
              refine wp_lit0 rfl ?_
              have cq102 := Only.alloc c00 (.cells #[] 9)
              refine hK.out _ _ (KC.out _ cq102) (fun hhq105 => ?_)
              clear hK K
              try simp only [Act.put, List.setIfInBounds_toArray, List.set_cons_zero, List.set_cons_succ]
              have hq103 := Blk.new WC.drew 9 []
              have gq104 := Only.size c00
              refine wpAnyH_ready (rs := [4, 10]) (by kernel_rfl) (by simp) ?_
              refine (AllReadyH.cons (o := { dst := some 50, op := Op.call { callee := Callee.builtin Builtin.append, args := #[Operand.tmp 46, Operand.tmp 49], argTypes := #[44, 44] }, type := 44, pos := "ref.go:24", after := #[{ on := 0, ground := Ground.data }, { on := 3, ground := Ground.data }], guard := none }) rfl (fun K hK => ?_) (AllReadyH.cons (o := { dst := some 56, op := Op.buildSlice 44 1 #[(0, Operand.tmp 55)], type := 44, pos := "ref.go:24", after := #[{ on := 9, ground := Ground.data }], guard := none }) rfl (fun K hK => ?_) AllReadyH.nil))
              · rw [if_pos (by rfl)]
                refine wp_ts (.tmp 46) (.tmp 49) rfl rfl rfl (own_blk0 hq103 gq104) (VLO.out _ cq102) (by rw [HTK.out]; omega) cq102 ?_
                intro vq106 wq107 owq108 onq109 kpq110
                refine hK.out _ _ (KC.out _ onq109) (fun hhq111 => ?_)
                clear hK K
                try simp only [Act.put, List.setIfInBounds_toArray, List.set_cons_zero, List.set_cons_succ]
                refine wpAnyH_ready (rs := [10]) (by kernel_rfl) (by simp) ?_
                refine (AllReadyH.cons (o := { dst := some 56, op := Op.buildSlice 44 1 #[(0, Operand.tmp 55)], type := 44, pos := "ref.go:24", after := #[{ on := 9, ground := Ground.data }], guard := none }) rfl (fun K hK => ?_) AllReadyH.nil)
                · rw [if_pos (by rfl)]
                  refine wp_lit1 rfl rfl ?_
                  have cq112 := Only.alloc onq109 (.cells #[.string (strOfNums x)] 9)
                  refine hK.out _ _ (KC.out _ cq112) (fun hhq115 => ?_)
                  clear hK K
                  try simp only [Act.put, List.setIfInBounds_toArray, List.set_cons_zero, List.set_cons_succ]
                  have hq113 := Blk.new wq107 9 [.string (strOfNums x)]
                  have oq114 := World.ownsRow.alloc owq108 (.cells #[.string (strOfNums x)] 9)
                  refine wpAnyH_ready (rs := [11]) (by kernel_rfl) (by simp) ?_
                  refine (AllReadyH.cons (o := { dst := some 57, op := Op.call { callee := Callee.builtin Builtin.append, args := #[Operand.tmp 50, Operand.tmp 56], argTypes := #[44, 44] }, type := 44, pos := "ref.go:24", after := #[{ on := 4, ground := Ground.data }, { on := 10, ground := Ground.data }, { on := 4, ground := Ground.chain }], guard := none }) rfl (fun K hK => ?_) AllReadyH.nil)
                  rw [if_pos (by rfl)]
                  refine wp_ts (ys := [.string (strOfNums x)]) (.tmp 50) (.tmp 56) rfl rfl rfl oq114 (VS.blk1 hq113 rfl) (by rw [HTK.out]; simp; omega) cq112 ?_
                  intro vq116 wq117 owq118 onq119 kpq120
                  refine hK.out _ _ (KC.out _ onq119) (fun hhq121 => ?_)
                  clear hK K
                  try simp only [Act.put, List.setIfInBounds_toArray, List.set_cons_zero, List.set_cons_succ]
                  refine wpAnyH_ready (rs := [15]) (by kernel_rfl) (by simp) ?_
                  refine (AllReadyH.cons (o := { dst := some 61, op := Op.call { callee := Callee.builtin Builtin.append, args := #[Operand.tmp 57, Operand.tmp 60], argTypes := #[44, 44] }, type := 44, pos := "ref.go:24", after := #[{ on := 11, ground := Ground.data }, { on := 14, ground := Ground.data }, { on := 11, ground := Ground.chain }], guard := none }) rfl (fun K hK => ?_) AllReadyH.nil)
                  rw [if_pos (by rfl)]
                  refine wp_ts (.tmp 57) (.tmp 60) rfl rfl rfl owq118 (VHI.out _ onq119) (by rw [HTK.out, HDK.out]; simp; omega) onq119 ?_
                  intro vq122 wq123 owq124 onq125 kpq126
                  refine hK.out _ _ (KC.out _ onq125) (fun hhq127 => ?_)
                  clear hK K
                  try simp only [Act.put, List.setIfInBounds_toArray, List.set_cons_zero, List.set_cons_succ]
                  refine wpAnyH_take (i := 16) (oi := { dst := some 3, op := Op.assign (Operand.tmp 61), type := 44, pos := "ref.go:24", after := #[{ on := 15, ground := Ground.data }, { on := 15, ground := Ground.chain }, { on := 0, ground := Ground.phase }, { on := 1, ground := Ground.phase }, { on := 2, ground := Ground.phase }, { on := 3, ground := Ground.phase }, { on := 4, ground := Ground.phase }, { on := 5, ground := Ground.phase }, { on := 6, ground := Ground.phase }, { on := 7, ground := Ground.phase }, { on := 8, ground := Ground.phase }, { on := 9, ground := Ground.phase }, { on := 10, ground := Ground.phase }, { on := 11, ground := Ground.phase }, { on := 12, ground := Ground.phase }, { on := 13, ground := Ground.phase }, { on := 14, ground := Ground.phase }, { on := 15, ground := Ground.phase }], guard := none }) (v := ?tvq128) rfl (by kernel_rfl) (by kernel_rfl) (by kernel_rfl) (fun _ _ _ h => h) (Or.inl ⟨by rfl, ?thq128⟩) hhq127 ?trq128
                  case thq128 => (intro w hSw; (try dsimp only at hSw); go_simp; try with_reducible rfl)
                  try simp only [Act.put, List.setIfInBounds_toArray, List.set_cons_zero, List.set_cons_succ]
                  refine wpAnyH_done (by kernel_rfl) ?_ _
                  have F3 := hideIt (And.intro owq124 onq125)
                  clear owq118 onq119 kpq120 owq124 onq125 kpq126 hhq121 hhq127 oq114 hq113 KA KC KD VLO VHI
                  go_wp2
                  go_roundw
                  case rel =>
                    refine ⟨q + 1, by omega, by go_num, ?_, HONS.out.2.same F3.out.2⟩
                    rw [SC.out, HI.out]
                    have e1 : tcells (T.take k ++ x :: T.drop k) = ([] ++ tcells (T.take k)) ++ [.string (strOfNums x)] ++ tcells (T.drop k) := by simp [tcells]
                    have e2 : (T.take k ++ x :: T.drop k).length = 0 + (tcells (T.take k)).length + [Value.string (strOfNums x)].length + (tcells (T.drop k)).length := by simp [tcells]; omega
                    rw [e1, e2]
                    exact own_low F3.out.1 HONS.out.1
                  case measure => simp [intOf]; omega
              · rw [if_pos (by rfl)]
                refine wp_lit1 rfl rfl ?_
                have cq129 := Only.alloc cq102 (.cells #[.string (strOfNums x)] 9)
                refine hK.out _ _ (KC.out _ cq129) (fun hhq132 => ?_)
                clear hK K
                try simp only [Act.put, List.setIfInBounds_toArray, List.set_cons_zero, List.set_cons_succ]
                have hq130 := Blk.new (World.alloc WC.drew (.cells #[] 9)) 9 [.string (strOfNums x)]
                have hq131 := Blk.keepO hq103 ((Only.refl (fun _ => False) (World.alloc WC.drew (.cells #[] 9))).alloc (.cells #[.string (strOfNums x)] 9))
                refine wpAnyH_ready (rs := [4]) (by kernel_rfl) (by simp) ?_
                refine (AllReadyH.cons (o := { dst := some 50, op := Op.call { callee := Callee.builtin Builtin.append, args := #[Operand.tmp 46, Operand.tmp 49], argTypes := #[44, 44] }, type := 44, pos := "ref.go:24", after := #[{ on := 0, ground := Ground.data }, { on := 3, ground := Ground.data }], guard := none }) rfl (fun K hK => ?_) AllReadyH.nil)
                · rw [if_pos (by rfl)]
                  refine wp_ts (.tmp 46) (.tmp 49) rfl rfl rfl (own_blk0 hq131 gq104) (VLO.out _ cq129) (by rw [HTK.out]; omega) cq129 ?_
                  intro vq133 wq134 owq135 onq136 kpq137
                  refine hK.out _ _ (KC.out _ onq136) (fun hhq139 => ?_)
                  clear hK K
                  try simp only [Act.put, List.setIfInBounds_toArray, List.set_cons_zero, List.set_cons_succ]
                  have hq138 := kpq137 _ _ (blk_ne hq131 hq130) hq130
                  refine wpAnyH_ready (rs := [11]) (by kernel_rfl) (by simp) ?_
                  refine (AllReadyH.cons (o := { dst := some 57, op := Op.call { callee := Callee.builtin Builtin.append, args := #[Operand.tmp 50, Operand.tmp 56], argTypes := #[44, 44] }, type := 44, pos := "ref.go:24", after := #[{ on := 4, ground := Ground.data }, { on := 10, ground := Ground.data }, { on := 4, ground := Ground.chain }], guard := none }) rfl (fun K hK => ?_) AllReadyH.nil)
                  rw [if_pos (by rfl)]
                  refine wp_ts (ys := [.string (strOfNums x)]) (.tmp 50) (.tmp 56) rfl rfl rfl owq135 (VS.blk1 hq138 rfl) (by rw [HTK.out]; simp; omega) onq136 ?_
                  intro vq140 wq141 owq142 onq143 kpq144
                  refine hK.out _ _ (KC.out _ onq143) (fun hhq145 => ?_)
                  clear hK K
                  try simp only [Act.put, List.setIfInBounds_toArray, List.set_cons_zero, List.set_cons_succ]
                  refine wpAnyH_ready (rs := [15]) (by kernel_rfl) (by simp) ?_
                  refine (AllReadyH.cons (o := { dst := some 61, op := Op.call { callee := Callee.builtin Builtin.append, args := #[Operand.tmp 57, Operand.tmp 60], argTypes := #[44, 44] }, type := 44, pos := "ref.go:24", after := #[{ on := 11, ground := Ground.data }, { on := 14, ground := Ground.data }, { on := 11, ground := Ground.chain }], guard := none }) rfl (fun K hK => ?_) AllReadyH.nil)
                  rw [if_pos (by rfl)]
                  refine wp_ts (.tmp 57) (.tmp 60) rfl rfl rfl owq142 (VHI.out _ onq143) (by rw [HTK.out, HDK.out]; simp; omega) onq143 ?_
                  intro vq146 wq147 owq148 onq149 kpq150
                  refine hK.out _ _ (KC.out _ onq149) (fun hhq151 => ?_)
                  clear hK K
                  try simp only [Act.put, List.setIfInBounds_toArray, List.set_cons_zero, List.set_cons_succ]
                  refine wpAnyH_take (i := 16) (oi := { dst := some 3, op := Op.assign (Operand.tmp 61), type := 44, pos := "ref.go:24", after := #[{ on := 15, ground := Ground.data }, { on := 15, ground := Ground.chain }, { on := 0, ground := Ground.phase }, { on := 1, ground := Ground.phase }, { on := 2, ground := Ground.phase }, { on := 3, ground := Ground.phase }, { on := 4, ground := Ground.phase }, { on := 5, ground := Ground.phase }, { on := 6, ground := Ground.phase }, { on := 7, ground := Ground.phase }, { on := 8, ground := Ground.phase }, { on := 9, ground := Ground.phase }, { on := 10, ground := Ground.phase }, { on := 11, ground := Ground.phase }, { on := 12, ground := Ground.phase }, { on := 13, ground := Ground.phase }, { on := 14, ground := Ground.phase }, { on := 15, ground := Ground.phase }], guard := none }) (v := ?tvq152) rfl (by kernel_rfl) (by kernel_rfl) (by kernel_rfl) (fun _ _ _ h => h) (Or.inl ⟨by rfl, ?thq152⟩) hhq151 ?trq152
                  case thq152 => (intro w hSw; (try dsimp only at hSw); go_simp; try with_reducible rfl)
                  try simp only [Act.put, List.setIfInBounds_toArray, List.set_cons_zero, List.set_cons_succ]
                  refine wpAnyH_done (by kernel_rfl) ?_ _
                  have F3 := hideIt (And.intro owq148 onq149)
                  clear owq142 onq143 kpq144 owq148 onq149 kpq150 hhq145 hhq151 owq135 hq138 KA KC KD VLO VHI
                  go_wp2
                  go_roundw
                  case rel =>
                    refine ⟨q + 1, by omega, by go_num, ?_, HONS.out.2.same F3.out.2⟩
                    rw [SC.out, HI.out]
                    have e1 : tcells (T.take k ++ x :: T.drop k) = ([] ++ tcells (T.take k)) ++ [.string (strOfNums x)] ++ tcells (T.drop k) := by simp [tcells]
                    have e2 : (T.take k ++ x :: T.drop k).length = 0 + (tcells (T.take k)).length + [Value.string (strOfNums x)].length + (tcells (T.drop k)).length := by simp [tcells]; omega
                    rw [e1, e2]
                    exact own_low F3.out.1 HONS.out.1
                  case measure => simp [intOf]; omega
            · rw [if_pos (by rfl)]
              refine wp_lit1 rfl rfl ?_
              have cq153 := Only.alloc c00 (.cells #[.string (strOfNums x)] 9)
              refine hK.out _ _ (KC.out _ cq153) (fun hhq155 => ?_)
              clear hK K
              try simp only [Act.put, List.setIfInBounds_toArray, List.set_cons_zero, List.set_cons_succ]
              have hq154 := Blk.new WC.drew 9 [.string (strOfNums x)]
              refine wpAnyH_ready (rs := [0]) (by kernel_rfl) (by simp) ?_
              refine (AllReadyH.cons (o := { dst := some 46, op := Op.buildSlice 44 0 #[], type := 44, pos := "ref.go:24", after := #[], guard := none }) rfl (fun K hK => ?_) AllReadyH.nil)
              · rw [if_pos (by rfl)]
                refine wp_lit0 rfl ?_
                have cq156 := Only.alloc cq153 (.cells #[] 9)
                refine hK.out _ _ (KC.out _ cq156) (fun hhq160 => ?_)
                clear hK K
                try simp only [Act.put, List.setIfInBounds_toArray, List.set_cons_zero, List.set_cons_succ]
                have hq157 := Blk.new (World.alloc WC.drew (.cells #[.string (strOfNums x)] 9)) 9 []
                have gq158 := Only.size cq153
                have hq159 := Blk.keepO hq154 ((Only.refl (fun _ => False) (World.alloc WC.drew (.cells #[.string (strOfNums x)] 9))).alloc (.cells #[] 9))
                refine wpAnyH_ready (rs := [4]) (by kernel_rfl) (by simp) ?_
                refine (AllReadyH.cons (o := { dst := some 50, op := Op.call { callee := Callee.builtin Builtin.append, args := #[Operand.tmp 46, Operand.tmp 49], argTypes := #[44, 44] }, type := 44, pos := "ref.go:24", after := #[{ on := 0, ground := Ground.data }, { on := 3, ground := Ground.data }], guard := none }) rfl (fun K hK => ?_) AllReadyH.nil)
                · rw [if_pos (by rfl)]
                  refine wp_ts (.tmp 46) (.tmp 49) rfl rfl rfl (own_blk0 hq157 gq158) (VLO.out _ cq156) (by rw [HTK.out]; omega) cq156 ?_
                  intro vq161 wq162 owq163 onq164 kpq165
                  refine hK.out _ _ (KC.out _ onq164) (fun hhq167 => ?_)
                  clear hK K
                  try simp only [Act.put, List.setIfInBounds_toArray, List.set_cons_zero, List.set_cons_succ]
                  have hq166 := kpq165 _ _ (blk_ne hq157 hq159) hq159
                  refine wpAnyH_ready (rs := [11]) (by kernel_rfl) (by simp) ?_
                  refine (AllReadyH.cons (o := { dst := some 57, op := Op.call { callee := Callee.builtin Builtin.append, args := #[Operand.tmp 50, Operand.tmp 56], argTypes := #[44, 44] }, type := 44, pos := "ref.go:24", after := #[{ on := 4, ground := Ground.data }, { on := 10, ground := Ground.data }, { on := 4, ground := Ground.chain }], guard := none }) rfl (fun K hK => ?_) AllReadyH.nil)
                  rw [if_pos (by rfl)]
                  refine wp_ts (ys := [.string (strOfNums x)]) (.tmp 50) (.tmp 56) rfl rfl rfl owq163 (VS.blk1 hq166 rfl) (by rw [HTK.out]; simp; omega) onq164 ?_
                  intro vq168 wq169 owq170 onq171 kpq172
                  refine hK.out _ _ (KC.out _ onq171) (fun hhq173 => ?_)
                  clear hK K
                  try simp only [Act.put, List.setIfInBounds_toArray, List.set_cons_zero, List.set_cons_succ]
                  refine wpAnyH_ready (rs := [15]) (by kernel_rfl) (by simp) ?_
                  refine (AllReadyH.cons (o := { dst := some 61, op := Op.call { callee := Callee.builtin Builtin.append, args := #[Operand.tmp 57, Operand.tmp 60], argTypes := #[44, 44] }, type := 44, pos := "ref.go:24", after := #[{ on := 11, ground := Ground.data }, { on := 14, ground := Ground.data }, { on := 11, ground := Ground.chain }], guard := none }) rfl (fun K hK => ?_) AllReadyH.nil)
                  rw [if_pos (by rfl)]
                  refine wp_ts (.tmp 57) (.tmp 60) rfl rfl rfl owq170 (VHI.out _ onq171) (by rw [HTK.out, HDK.out]; simp; omega) onq171 ?_
                  intro vq174 wq175 owq176 onq177 kpq178
                  refine hK.out _ _ (KC.out _ onq177) (fun hhq179 => ?_)
                  clear hK K
                  try simp only [Act.put, List.setIfInBounds_toArray, List.set_cons_zero, List.set_cons_succ]
                  refine wpAnyH_take (i := 16) (oi := { dst := some 3, op := Op.assign (Operand.tmp 61), type := 44, pos := "ref.go:24", after := #[{ on := 15, ground := Ground.data }, { on := 15, ground := Ground.chain }, { on := 0, ground := Ground.phase }, { on := 1, ground := Ground.phase }, { on := 2, ground := Ground.phase }, { on := 3, ground := Ground.phase }, { on := 4, ground := Ground.phase }, { on := 5, ground := Ground.phase }, { on := 6, ground := Ground.phase }, { on := 7, ground := Ground.phase }, { on := 8, ground := Ground.phase }, { on := 9, ground := Ground.phase }, { on := 10, ground := Ground.phase }, { on := 11, ground := Ground.phase }, { on := 12, ground := Ground.phase }, { on := 13, ground := Ground.phase }, { on := 14, ground := Ground.phase }, { on := 15, ground := Ground.phase }], guard := none }) (v := ?tvq180) rfl (by kernel_rfl) (by kernel_rfl) (by kernel_rfl) (fun _ _ _ h => h) (Or.inl ⟨by rfl, ?thq180⟩) hhq179 ?trq180
                  case thq180 => (intro w hSw; (try dsimp only at hSw); go_simp; try with_reducible rfl)
                  try simp only [Act.put, List.setIfInBounds_toArray, List.set_cons_zero, List.set_cons_succ]
                  refine wpAnyH_done (by kernel_rfl) ?_ _
                  have F3 := hideIt (And.intro owq176 onq177)
                  clear owq170 onq171 kpq172 owq176 onq177 kpq178 hhq173 hhq179 owq163 hq166 KA KC KD VLO VHI
                  go_wp2
                  go_roundw
                  case rel =>
                    refine ⟨q + 1, by omega, by go_num, ?_, HONS.out.2.same F3.out.2⟩
                    rw [SC.out, HI.out]
                    have e1 : tcells (T.take k ++ x :: T.drop k) = ([] ++ tcells (T.take k)) ++ [.string (strOfNums x)] ++ tcells (T.drop k) := by simp [tcells]
                    have e2 : (T.take k ++ x :: T.drop k).length = 0 + (tcells (T.take k)).length + [Value.string (strOfNums x)].length + (tcells (T.drop k)).length := by simp [tcells]; omega
                    rw [e1, e2]
                    exact own_low F3.out.1 HONS.out.1
                  case measure => simp [intOf]; omega
          · obtain ⟨VL, VH, VH2⟩ := vs_cut (OCR.out.own OWN.out (fun _ _ f => f)) (tcells_one T) k (by omega)
            rw [← List.map_take] at VL
            rw [← List.map_drop] at VH VH2
            have hON := ON.out.same OCR.out
            have HONS := hideIt (And.intro hON.size hON)
            have VHI : Hid (∀ W, Only (fun _ => False) WC W → VS W (.slice (au.map fun x => x.add k) (t - k) (cu - k)) (tcells (T.drop k))) := fun W o => VH.past o
            have VLO : Hid (∀ W, Only (fun _ => False) WC W → VS W (.slice au k cu) (tcells (T.take k))) := fun W o => VL.past o
            clear VL VH VH2 OWN HALL hON
            have KC : Hid (∀ W, Only (fun _ => False) WC W → (W.cell? ⟨b, off + q * 2, none⟩ = some (.string (strOfNums x)) ∧ Only (fun _ => False) WC W)) := fun W o => ⟨HC.out W (OCR.out.same o), o⟩
            have KA : Hid (∀ W o, (W.cell? ⟨b, off + q * 2, none⟩ = some (.string (strOfNums x)) ∧ Only (fun _ => False) WC W) → ((W.alloc o).cell? ⟨b, off + q * 2, none⟩ = some (.string (strOfNums x)) ∧ Only (fun _ => False) WC (W.alloc o))) := fun W o h => KC.out _ (h.2.alloc o)
            have KD := hideIt (KC.out WC.drew (Only.refl _ _).drew)
            have ht1000 : t ≤ 1000 := by omega
            have j4 : (k : Int) ≤ (t : Int) := by omega
            have j6 : (0 : Int) ≤ (k : Int) := by omega
            have j7 : k ≤ cu := by omega
            have HTK : Hid ((tcells (T.take k)).length = k) := by simp only [Hid]; rw [List.length_map, List.length_take, Nat.min_eq_left (by rw [← HTL.out]; exact hk)]
            have HDK : Hid ((tcells (T.drop k)).length = t - k) := by simp only [Hid]; rw [List.length_map, List.length_drop, ← HTL.out]
            clear HC OCR ON HS HB HXU HTU O2 O3 HNO HNE
            refine wp_region_held_drew (S := fun W => W.cell? ⟨b, off + q * 2, none⟩ = some (.string (strOfNums x)) ∧ Only (fun _ => False) WC W) (by kernel_rfl) KD.out (fun hH0 => ?_)
            try simp only [Act.put, List.setIfInBounds_toArray, List.set_cons_zero, List.set_cons_succ]
            have c00 : Only (fun _ => False) WC WC.drew := (Only.refl _ _).drew
            refine wpAnyH_take (i := 1) (oi := { dst := some 47, op := Op.move (Operand.tmp 3), type := 44, pos := "ref.go:24", after := #[], guard := none }) (v := ?tvq181) rfl (by kernel_rfl) (by kernel_rfl) (by kernel_rfl) (fun _ _ _ h => h) (Or.inl ⟨by rfl, ?thq181⟩) hH0 ?trq181
            case thq181 => (intro w hSw; (try dsimp only at hSw); go_simp; try with_reducible rfl)
            try simp only [Act.put, List.setIfInBounds_toArray, List.set_cons_zero, List.set_cons_succ]
            refine wpAnyH_take (i := 2) (oi := { dst := some 48, op := Op.move (Operand.tmp 5), type := 3, pos := "ref.go:24", after := #[], guard := none }) (v := ?tvq182) rfl (by kernel_rfl) (by kernel_rfl) (by kernel_rfl) (fun _ _ _ h => h) (Or.inl ⟨by rfl, ?thq182⟩) hH0 ?trq182
            case thq182 => (intro w hSw; (try dsimp only at hSw); go_simp; try with_reducible rfl)
            try simp only [Act.put, List.setIfInBounds_toArray, List.set_cons_zero, List.set_cons_succ]
            refine wpAnyH_take (i := 3) (oi := { dst := some 49, op := Op.slice 44 (Operand.tmp 47) none (some (Operand.tmp 48)) none, type := 44, pos := "ref.go:24", after := #[{ on := 1, ground := Ground.data }, { on := 2, ground := Ground.data }], guard := none }) (v := ?tvq183) rfl (by kernel_rfl) (by kernel_rfl) (by kernel_rfl) (fun _ _ _ h => h) (Or.inl ⟨by rfl, ?thq183⟩) hH0 ?trq183
            case thq183 => (intro w hSw; (try dsimp only at hSw); go_simp; try with_reducible rfl)
            try simp only [Act.put, List.setIfInBounds_toArray, List.set_cons_zero, List.set_cons_succ]
            refine wpAnyH_take (i := 5) (oi := { dst := some 51, op := Op.move (Operand.tmp 0), type := 24, pos := "ref.go:24", after := #[], guard := none }) (v := ?tvq184) rfl (by kernel_rfl) (by kernel_rfl) (by kernel_rfl) (fun _ _ _ h => h) (Or.inl ⟨by rfl, ?thq184⟩) hH0 ?trq184
            case thq184 => (intro w hSw; (try dsimp only at hSw); go_simp; try with_reducible rfl)
            try simp only [Act.put, List.setIfInBounds_toArray, List.set_cons_zero, List.set_cons_succ]
            refine wpAnyH_take (i := 6) (oi := { dst := some 52, op := Op.move (Operand.tmp 4), type := 3, pos := "ref.go:24", after := #[], guard := none }) (v := ?tvq185) rfl (by kernel_rfl) (by kernel_rfl) (by kernel_rfl) (fun _ _ _ h => h) (Or.inl ⟨by rfl, ?thq185⟩) hH0 ?trq185
            case thq185 => (intro w hSw; (try dsimp only at hSw); go_simp; try with_reducible rfl)
            try simp only [Act.put, List.setIfInBounds_toArray, List.set_cons_zero, List.set_cons_succ]
            refine wpAnyH_take (i := 7) (oi := { dst := some 53, op := Op.indexAddr 24 (Operand.tmp 51) (Operand.tmp 52), type := 0, pos := "ref.go:24", after := #[{ on := 5, ground := Ground.data }, { on := 6, ground := Ground.data }], guard := none }) (v := ?tvq186) rfl (by kernel_rfl) (by kernel_rfl) (by kernel_rfl) (fun _ _ _ h => h) (Or.inl ⟨by rfl, ?thq186⟩) hH0 ?trq186
            case thq186 => (intro w hSw; (try dsimp only at hSw); go_simp; try with_reducible rfl)
            try simp only [Act.put, List.setIfInBounds_toArray, List.set_cons_zero, List.set_cons_succ]
            refine wpAnyH_take (i := 8) (oi := { dst := some 54, op := Op.fieldAddr 41 (Operand.tmp 53) 0, type := 0, pos := "ref.go:24", after := #[{ on := 7, ground := Ground.data }], guard := none }) (v := ?tvq187) rfl (by kernel_rfl) (by kernel_rfl) (by kernel_rfl) (fun _ _ _ h => h) (Or.inl ⟨by rfl, ?thq187⟩) hH0 ?trq187
            case thq187 => (intro w hSw; (try dsimp only at hSw); go_simp; try with_reducible rfl)
            try simp only [Act.put, List.setIfInBounds_toArray, List.set_cons_zero, List.set_cons_succ]
            refine wpAnyH_take (i := 9) (oi := { dst := some 55, op := Op.load 9 (Operand.tmp 54), type := 9, pos := "ref.go:24", after := #[{ on := 8, ground := Ground.data }], guard := none }) (v := ?tvq188) rfl (by kernel_rfl) (by kernel_rfl) (by kernel_rfl) (fun _ _ _ h => h) (Or.inl ⟨by rfl, ?thq188⟩) hH0 ?trq188
            case thq188 => (intro w hSw; (try dsimp only at hSw); go_simp; try with_reducible rfl)
            try simp only [Act.put, List.setIfInBounds_toArray, List.set_cons_zero, List.set_cons_succ]
            refine wpAnyH_take (i := 12) (oi := { dst := some 58, op := Op.move (Operand.tmp 3), type := 44, pos := "ref.go:24", after := #[], guard := none }) (v := ?tvq189) rfl (by kernel_rfl) (by kernel_rfl) (by kernel_rfl) (fun _ _ _ h => h) (Or.inl ⟨by rfl, ?thq189⟩) hH0 ?trq189
            case thq189 => (intro w hSw; (try dsimp only at hSw); go_simp; try with_reducible rfl)
            try simp only [Act.put, List.setIfInBounds_toArray, List.set_cons_zero, List.set_cons_succ]
            refine wpAnyH_take (i := 13) (oi := { dst := some 59, op := Op.move (Operand.tmp 5), type := 3, pos := "ref.go:24", after := #[], guard := none }) (v := ?tvq190) rfl (by kernel_rfl) (by kernel_rfl) (by kernel_rfl) (fun _ _ _ h => h) (Or.inl ⟨by rfl, ?thq190⟩) hH0 ?trq190
            case thq190 => (intro w hSw; (try dsimp only at hSw); go_simp; try with_reducible rfl)
            try simp only [Act.put, List.setIfInBounds_toArray, List.set_cons_zero, List.set_cons_succ]
            refine wpAnyH_take (i := 14) (oi := { dst := some 60, op := Op.slice 44 (Operand.tmp 58) (some (Operand.tmp 59)) none none, type := 44, pos := "ref.go:24", after := #[{ on := 12, ground := Ground.data }, { on := 13, ground := Ground.data }], guard := none }) (v := ?tvq191) rfl (by kernel_rfl) (by kernel_rfl) (by kernel_rfl) (fun _ _ _ h => h) (Or.inl ⟨by rfl, ?thq191⟩) hH0 ?trq191
            case thq191 => (intro w hSw; (try dsimp only at hSw); go_simp; try with_reducible rfl)
            try simp only [Act.put, List.setIfInBounds_toArray, List.set_cons_zero, List.set_cons_succ]
            refine wpAnyH_ready (rs := [0, 10]) (by kernel_rfl) (by simp) ?_
            refine (AllReadyH.cons (o := { dst := some 46, op := Op.buildSlice 44 0 #[], type := 44, pos := "ref.go:24", after := #[], guard := none }) rfl (fun K hK => ?_) (AllReadyH.cons (o := { dst := some 56, op := Op.buildSlice 44 1 #[(0, Operand.tmp 55)], type := 44, pos := "ref.go:24", after := #[{ on := 9, ground := Ground.data }], guard := none }) rfl (fun K hK => ?_) AllReadyH.nil))
            · rw [if_pos (by rfl)]
              refine wp_lit0 rfl ?_
              have cq192 := Only.alloc c00 (.cells #[] 9)
              refine hK.out _ _ (KC.out _ cq192) (fun hhq195 => ?_)
              clear hK K
              try simp only [Act.put, List.setIfInBounds_toArray, List.set_cons_zero, List.set_cons_succ]
              have hq193 := Blk.new WC.drew 9 []
              have gq194 := Only.size c00
              refine wpAnyH_ready (rs := [4, 10]) (by kernel_rfl) (by simp) ?_
              refine (AllReadyH.cons (o := { dst := some 50, op := Op.call { callee := Callee.builtin Builtin.append, args := #[Operand.tmp 46, Operand.tmp 49], argTypes := #[44, 44] }, type := 44, pos := "ref.go:24", after := #[{ on := 0, ground := Ground.data }, { on := 3, ground := Ground.data }], guard := none }) rfl (fun K hK => ?_) (AllReadyH.cons (o := { dst := some 56, op := Op.buildSlice 44 1 #[(0, Operand.tmp 55)], type := 44, pos := "ref.go:24", after := #[{ on := 9, ground := Ground.data }], guard := none }) rfl (fun K hK => ?_) AllReadyH.nil))
              · rw [if_pos (by rfl)]
                refine wp_ts (.tmp 46) (.tmp 49) rfl rfl rfl (own_blk0 hq193 gq194) (VLO.out _ cq192) (by rw [HTK.out]; omega) cq192 ?_
                intro vq196 wq197 owq198 onq199 kpq200
                refine hK.out _ _ (KC.out _ onq199) (fun hhq201 => ?_)
                clear hK K
                try simp only [Act.put, List.setIfInBounds_toArray, List.set_cons_zero, List.set_cons_succ]
                refine wpAnyH_ready (rs := [10]) (by kernel_rfl) (by simp) ?_
                refine (AllReadyH.cons (o := { dst := some 56, op := Op.buildSlice 44 1 #[(0, Operand.tmp 55)], type := 44, pos := "ref.go:24", after := #[{ on := 9, ground := Ground.data }], guard := none }) rfl (fun K hK => ?_) AllReadyH.nil)
                · rw [if_pos (by rfl)]
                  refine wp_lit1 rfl rfl ?_
                  have cq202 := Only.alloc onq199 (.cells #[.string (strOfNums x)] 9)
                  refine hK.out _ _ (KC.out _ cq202) (fun hhq205 => ?_)
                  clear hK K
                  try simp only [Act.put, List.setIfInBounds_toArray, List.set_cons_zero, List.set_cons_succ]
                  have hq203 := Blk.new wq197 9 [.string (strOfNums x)]
                  have oq204 := World.ownsRow.alloc owq198 (.cells #[.string (strOfNums x)] 9)
                  refine wpAnyH_ready (rs := [11]) (by kernel_rfl) (by simp) ?_
                  refine (AllReadyH.cons (o := { dst := some 57, op := Op.call { callee := Callee.builtin Builtin.append, args := #[Operand.tmp 50, Operand.tmp 56], argTypes := #[44, 44] }, type := 44, pos := "ref.go:24", after := #[{ on := 4, ground := Ground.data }, { on := 10, ground := Ground.data }, { on := 4, ground := Ground.chain }], guard := none }) rfl (fun K hK => ?_) AllReadyH.nil)
                  rw [if_pos (by rfl)]
                  refine wp_ts (ys := [.string (strOfNums x)]) (.tmp 50) (.tmp 56) rfl rfl rfl oq204 (VS.blk1 hq203 rfl) (by rw [HTK.out]; simp; omega) cq202 ?_
                  intro vq206 wq207 owq208 onq209 kpq210
                  refine hK.out _ _ (KC.out _ onq209) (fun hhq211 => ?_)
                  clear hK K
                  try simp only [Act.put, List.setIfInBounds_toArray, List.set_cons_zero, List.set_cons_succ]
                  refine wpAnyH_ready (rs := [15]) (by kernel_rfl) (by simp) ?_
                  refine (AllReadyH.cons (o := { dst := some 61, op := Op.call { callee := Callee.builtin Builtin.append, args := #[Operand.tmp 57, Operand.tmp 60], argTypes := #[44, 44] }, type := 44, pos := "ref.go:24", after := #[{ on := 11, ground := Ground.data }, { on := 14, ground := Ground.data }, { on := 11, ground := Ground.chain }], guard := none }) rfl (fun K hK => ?_) AllReadyH.nil)
                  rw [if_pos (by rfl)]
                  refine wp_ts (.tmp 57) (.tmp 60) rfl rfl rfl owq208 (VHI.out _ onq209) (by rw [HTK.out, HDK.out]; simp; omega) onq209 ?_
                  intro vq212 wq213 owq214 onq215 kpq216
                  refine hK.out _ _ (KC.out _ onq215) (fun hhq217 => ?_)
                  clear hK K
                  try simp only [Act.put, List.setIfInBounds_toArray, List.set_cons_zero, List.set_cons_succ]
                  refine wpAnyH_take (i := 16) (oi := { dst := some 3, op := Op.assign (Operand.tmp 61), type := 44, pos := "ref.go:24", after := #[{ on := 15, ground := Ground.data }, { on := 15, ground := Ground.chain }, { on := 0, ground := Ground.phase }, { on := 1, ground := Ground.phase }, { on := 2, ground := Ground.phase }, { on := 3, ground := Ground.phase }, { on := 4, ground := Ground.phase }, { on := 5, ground := Ground.phase }, { on := 6, ground := Ground.phase }, { on := 7, ground := Ground.phase }, { on := 8, ground := Ground.phase }, { on := 9, ground := Ground.phase }, { on := 10, ground := Ground.phase }, { on := 11, ground := Ground.phase }, { on := 12, ground := Ground.phase }, { on := 13, ground := Ground.phase }, { on := 14, ground := Ground.phase }, { on := 15, ground := Ground.phase }], guard := none }) (v := ?tvq218) rfl (by kernel_rfl) (by kernel_rfl) (by kernel_rfl) (fun _ _ _ h => h) (Or.inl ⟨by rfl, ?thq218⟩) hhq217 ?trq218
                  case thq218 => (intro w hSw; (try dsimp only at hSw); go_simp; try with_reducible rfl)
                  try simp only [Act.put, List.setIfInBounds_toArray, List.set_cons_zero, List.set_cons_succ]
                  refine wpAnyH_done (by kernel_rfl) ?_ _
                  have F3 := hideIt (And.intro owq214 onq215)
                  clear owq208 onq209 kpq210 owq214 onq215 kpq216 hhq211 hhq217 oq204 hq203 KA KC KD VLO VHI
                  go_wp2
                  go_roundw
                  case rel =>
                    refine ⟨q + 1, by omega, by go_num, ?_, HONS.out.2.same F3.out.2⟩
                    rw [SC.out, HI.out]
                    have e1 : tcells (T.take k ++ x :: T.drop k) = ([] ++ tcells (T.take k)) ++ [.string (strOfNums x)] ++ tcells (T.drop k) := by simp [tcells]
                    have e2 : (T.take k ++ x :: T.drop k).length = 0 + (tcells (T.take k)).length + [Value.string (strOfNums x)].length + (tcells (T.drop k)).length := by simp [tcells]; omega
                    rw [e1, e2]
                    exact own_low F3.out.1 HONS.out.1
                  case measure => simp [intOf]; omega
              · rw [if_pos (by rfl)]
                refine wp_lit1 rfl rfl ?_
                have cq219 := Only.alloc cq192 (.cells #[.string (strOfNums x)] 9)
                refine hK.out _ _ (KC.out _ cq219) (fun hhq222 => ?_)
                clear hK K
                try simp only [Act.put, List.setIfInBounds_toArray, List.set_cons_zero, List.set_cons_succ]
                have hq220 := Blk.new (World.alloc WC.drew (.cells #[] 9)) 9 [.string (strOfNums x)]
                have hq221 := Blk.keepO hq193 ((Only.refl (fun _ => False) (World.alloc WC.drew (.cells #[] 9))).alloc (.cells #[.string (strOfNums x)] 9))
                refine wpAnyH_ready (rs := [4]) (by kernel_rfl) (by simp) ?_
                refine (AllReadyH.cons (o := { dst := some 50, op := Op.call { callee := Callee.builtin Builtin.append, args := #[Operand.tmp 46, Operand.tmp 49], argTypes := #[44, 44] }, type := 44, pos := "ref.go:24", after := #[{ on := 0, ground := Ground.data }, { on := 3, ground := Ground.data }], guard := none }) rfl (fun K hK => ?_) AllReadyH.nil)
                · rw [if_pos (by rfl)]
                  refine wp_ts (.tmp 46) (.tmp 49) rfl rfl rfl (own_blk0 hq221 gq194) (VLO.out _ cq219) (by rw [HTK.out]; omega) cq219 ?_
                  intro vq223 wq224 owq225 onq226 kpq227
                  refine hK.out _ _ (KC.out _ onq226) (fun hhq229 => ?_)
                  clear hK K
                  try simp only [Act.put, List.setIfInBounds_toArray, List.set_cons_zero, List.set_cons_succ]
                  have hq228 := kpq227 _ _ (blk_ne hq221 hq220) hq220
                  refine wpAnyH_ready (rs := [11]) (by kernel_rfl) (by simp) ?_
                  refine (AllReadyH.cons (o := { dst := some 57, op := Op.call { callee := Callee.builtin Builtin.append, args := #[Operand.tmp 50, Operand.tmp 56], argTypes := #[44, 44] }, type := 44, pos := "ref.go:24", after := #[{ on := 4, ground := Ground.data }, { on := 10, ground := Ground.data }, { on := 4, ground := Ground.chain }], guard := none }) rfl (fun K hK => ?_) AllReadyH.nil)
                  rw [if_pos (by rfl)]
                  refine wp_ts (ys := [.string (strOfNums x)]) (.tmp 50) (.tmp 56) rfl rfl rfl owq225 (VS.blk1 hq228 rfl) (by rw [HTK.out]; simp; omega) onq226 ?_
                  intro vq230 wq231 owq232 onq233 kpq234
                  refine hK.out _ _ (KC.out _ onq233) (fun hhq235 => ?_)
                  clear hK K
                  try simp only [Act.put, List.setIfInBounds_toArray, List.set_cons_zero, List.set_cons_succ]
                  refine wpAnyH_ready (rs := [15]) (by kernel_rfl) (by simp) ?_
                  refine (AllReadyH.cons (o := { dst := some 61, op := Op.call { callee := Callee.builtin Builtin.append, args := #[Operand.tmp 57, Operand.tmp 60], argTypes := #[44, 44] }, type := 44, pos := "ref.go:24", after := #[{ on := 11, ground := Ground.data }, { on := 14, ground := Ground.data }, { on := 11, ground := Ground.chain }], guard := none }) rfl (fun K hK => ?_) AllReadyH.nil)
                  rw [if_pos (by rfl)]
                  refine wp_ts (.tmp 57) (.tmp 60) rfl rfl rfl owq232 (VHI.out _ onq233) (by rw [HTK.out, HDK.out]; simp; omega) onq233 ?_
                  intro vq236 wq237 owq238 onq239 kpq240
                  refine hK.out _ _ (KC.out _ onq239) (fun hhq241 => ?_)
                  clear hK K
                  try simp only [Act.put, List.setIfInBounds_toArray, List.set_cons_zero, List.set_cons_succ]
                  refine wpAnyH_take (i := 16) (oi := { dst := some 3, op := Op.assign (Operand.tmp 61), type := 44, pos := "ref.go:24", after := #[{ on := 15, ground := Ground.data }, { on := 15, ground := Ground.chain }, { on := 0, ground := Ground.phase }, { on := 1, ground := Ground.phase }, { on := 2, ground := Ground.phase }, { on := 3, ground := Ground.phase }, { on := 4, ground := Ground.phase }, { on := 5, ground := Ground.phase }, { on := 6, ground := Ground.phase }, { on := 7, ground := Ground.phase }, { on := 8, ground := Ground.phase }, { on := 9, ground := Ground.phase }, { on := 10, ground := Ground.phase }, { on := 11, ground := Ground.phase }, { on := 12, ground := Ground.phase }, { on := 13, ground := Ground.phase }, { on := 14, ground := Ground.phase }, { on := 15, ground := Ground.phase }], guard := none }) (v := ?tvq242) rfl (by kernel_rfl) (by kernel_rfl) (by kernel_rfl) (fun _ _ _ h => h) (Or.inl ⟨by rfl, ?thq242⟩) hhq241 ?trq242
                  case thq242 => (intro w hSw; (try dsimp only at hSw); go_simp; try with_reducible rfl)
                  try simp only [Act.put, List.setIfInBounds_toArray, List.set_cons_zero, List.set_cons_succ]
                  refine wpAnyH_done (by kernel_rfl) ?_ _
                  have F3 := hideIt (And.intro owq238 onq239)
                  clear owq232 onq233 kpq234 owq238 onq239 kpq240 hhq235 hhq241 owq225 hq228 KA KC KD VLO VHI
                  go_wp2
                  go_roundw
                  case rel =>
                    refine ⟨q + 1, by omega, by go_num, ?_, HONS.out.2.same F3.out.2⟩
                    rw [SC.out, HI.out]
                    have e1 : tcells (T.take k ++ x :: T.drop k) = ([] ++ tcells (T.take k)) ++ [.string (strOfNums x)] ++ tcells (T.drop k) := by simp [tcells]
                    have e2 : (T.take k ++ x :: T.drop k).length = 0 + (tcells (T.take k)).length + [Value.string (strOfNums x)].length + (tcells (T.drop k)).length := by simp [tcells]; omega
                    rw [e1, e2]
                    exact own_low F3.out.1 HONS.out.1
                  case measure => simp [intOf]; omega
            · rw [if_pos (by rfl)]
              refine wp_lit1 rfl rfl ?_
              have cq243 := Only.alloc c00 (.cells #[.string (strOfNums x)] 9)
              refine hK.out _ _ (KC.out _ cq243) (fun hhq245 => ?_)
              clear hK K
              try simp only [Act.put, List.setIfInBounds_toArray, List.set_cons_zero, List.set_cons_succ]
              have hq244 := Blk.new WC.drew 9 [.string (strOfNums x)]
              refine wpAnyH_ready (rs := [0]) (by kernel_rfl) (by simp) ?_
              refine (AllReadyH.cons (o := { dst := some 46, op := Op.buildSlice 44 0 #[], type := 44, pos := "ref.go:24", after := #[], guard := none }) rfl (fun K hK => ?_) AllReadyH.nil)
              · rw [if_pos (by rfl)]
                refine wp_lit0 rfl ?_
                have cq246 := Only.alloc cq243 (.cells #[] 9)
                refine hK.out _ _ (KC.out _ cq246) (fun hhq250 => ?_)
                clear hK K
                try simp only [Act.put, List.setIfInBounds_toArray, List.set_cons_zero, List.set_cons_succ]
                have hq247 := Blk.new (World.alloc WC.drew (.cells #[.string (strOfNums x)] 9)) 9 []
                have gq248 := Only.size cq243
                have hq249 := Blk.keepO hq244 ((Only.refl (fun _ => False) (World.alloc WC.drew (.cells #[.string (strOfNums x)] 9))).alloc (.cells #[] 9))
                refine wpAnyH_ready (rs := [4]) (by kernel_rfl) (by simp) ?_
                refine (AllReadyH.cons (o := { dst := some 50, op := Op.call { callee := Callee.builtin Builtin.append, args := #[Operand.tmp 46, Operand.tmp 49], argTypes := #[44, 44] }, type := 44, pos := "ref.go:24", after := #[{ on := 0, ground := Ground.data }, { on := 3, ground := Ground.data }], guard := none }) rfl (fun K hK => ?_) AllReadyH.nil)
                · rw [if_pos (by rfl)]
                  refine wp_ts (.tmp 46) (.tmp 49) rfl rfl rfl (own_blk0 hq247 gq248) (VLO.out _ cq246) (by rw [HTK.out]; omega) cq246 ?_
                  intro vq251 wq252 owq253 onq254 kpq255
                  refine hK.out _ _ (KC.out _ onq254) (fun hhq257 => ?_)
                  clear hK K
                  try simp only [Act.put, List.setIfInBounds_toArray, List.set_cons_zero, List.set_cons_succ]
                  have hq256 := kpq255 _ _ (blk_ne hq247 hq249) hq249
                  refine wpAnyH_ready (rs := [11]) (by kernel_rfl) (by simp) ?_
                  refine (AllReadyH.cons (o := { dst := some 57, op := Op.call { callee := Callee.builtin Builtin.append, args := #[Operand.tmp 50, Operand.tmp 56], argTypes := #[44, 44] }, type := 44, pos := "ref.go:24", after := #[{ on := 4, ground := Ground.data }, { on := 10, ground := Ground.data }, { on := 4, ground := Ground.chain }], guard := none }) rfl (fun K hK => ?_) AllReadyH.nil)
                  rw [if_pos (by rfl)]
                  refine wp_ts (ys := [.string (strOfNums x)]) (.tmp 50) (.tmp 56) rfl rfl rfl owq253 (VS.blk1 hq256 rfl) (by rw [HTK.out]; simp; omega) onq254 ?_
                  intro vq258 wq259 owq260 onq261 kpq262
                  refine hK.out _ _ (KC.out _ onq261) (fun hhq263 => ?_)
                  clear hK K
                  try simp only [Act.put, List.setIfInBounds_toArray, List.set_cons_zero, List.set_cons_succ]
                  refine wpAnyH_ready (rs := [15]) (by kernel_rfl) (by simp) ?_
                  refine (AllReadyH.cons (o := { dst := some 61, op := Op.call { callee := Callee.builtin Builtin.append, args := #[Operand.tmp 57, Operand.tmp 60], argTypes := #[44, 44] }, type := 44, pos := "ref.go:24", after := #[{ on := 11, ground := Ground.data }, { on := 14, ground := Ground.data }, { on := 11, ground := Ground.chain }], guard := none }) rfl (fun K hK => ?_) AllReadyH.nil)
                  rw [if_pos (by rfl)]
                  refine wp_ts (.tmp 57) (.tmp 60) rfl rfl rfl owq260 (VHI.out _ onq261) (by rw [HTK.out, HDK.out]; simp; omega) onq261 ?_
                  intro vq264 wq265 owq266 onq267 kpq268
                  refine hK.out _ _ (KC.out _ onq267) (fun hhq269 => ?_)
                  clear hK K
                  try simp only [Act.put, List.setIfInBounds_toArray, List.set_cons_zero, List.set_cons_succ]
                  refine wpAnyH_take (i := 16) (oi := { dst := some 3, op := Op.assign (Operand.tmp 61), type := 44, pos := "ref.go:24", after := #[{ on := 15, ground := Ground.data }, { on := 15, ground := Ground.chain }, { on := 0, ground := Ground.phase }, { on := 1, ground := Ground.phase }, { on := 2, ground := Ground.phase }, { on := 3, ground := Ground.phase }, { on := 4, ground := Ground.phase }, { on := 5, ground := Ground.phase }, { on := 6, ground := Ground.phase }, { on := 7, ground := Ground.phase }, { on := 8, ground := Ground.phase }, { on := 9, ground := Ground.phase }, { on := 10, ground := Ground.phase }, { on := 11, ground := Ground.phase }, { on := 12, ground := Ground.phase }, { on := 13, ground := Ground.phase }, { on := 14, ground := Ground.phase }, { on := 15, ground := Ground.phase }], guard := none }) (v := ?tvq270) rfl (by kernel_rfl) (by kernel_rfl) (by kernel_rfl) (fun _ _ _ h => h) (Or.inl ⟨by rfl, ?thq270⟩) hhq269 ?trq270
                  case thq270 => (intro w hSw; (try dsimp only at hSw); go_simp; try with_reducible rfl)
                  try simp only [Act.put, List.setIfInBounds_toArray, List.set_cons_zero, List.set_cons_succ]
                  refine wpAnyH_done (by kernel_rfl) ?_ _
                  have F3 := hideIt (And.intro owq266 onq267)
                  clear owq260 onq261 kpq262 owq266 onq267 kpq268 hhq263 hhq269 owq253 hq256 KA KC KD VLO VHI
                  go_wp2
                  go_roundw
                  case rel =>
                    refine ⟨q + 1, by omega, by go_num, ?_, HONS.out.2.same F3.out.2⟩
                    rw [SC.out, HI.out]
                    have e1 : tcells (T.take k ++ x :: T.drop k) = ([] ++ tcells (T.take k)) ++ [.string (strOfNums x)] ++ tcells (T.drop k) := by simp [tcells]
                    have e2 : (T.take k ++ x :: T.drop k).length = 0 + (tcells (T.take k)).length + [Value.string (strOfNums x)].length + (tcells (T.drop k)).length := by simp [tcells]; omega
                    rw [e1, e2]
                    exact own_low F3.out.1 HONS.out.1
                  case measure => simp [intOf]; omega
    · obtain rfl : q = n := by omega
      have F := hideIt (And.intro (Sts.of_own own) on)
      clear own on HB
      go_wp2
      go_ret
      refine ⟨_, rfl, ?_, F.out.2⟩
      rw [← TNK_all, ← HN.out]
      exact F.out.1
end Go.Proofs.YtiolgenaefillaaGreat
