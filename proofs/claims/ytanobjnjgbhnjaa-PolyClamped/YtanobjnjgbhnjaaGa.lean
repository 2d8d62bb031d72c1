/- gathered: a behind all pieces. -/
import Derived.Test.YtanobjnjgbhnjaaTi
import Derived.Test.YtanobjnjgbhnjaaMu
import Derived.Deep.RegionWith
namespace Go.Proofs.Ytanobjnjgbhnjaa
open Go.RowKit

def z17 : List Value := bl (List.replicate 17 0)
theorem Try.zero50 : (Try.prog.info? 50).map (fun i => (i.zero, i.size)) = some (some (.agg z17.toArray), 17) := by kernel_rfl
/-- a row is loaded -/
theorem load_blk {w : World} {g : Nat} {t : TypeId} {cs : List Value} (h : Blk w g t cs) (ty : TypeId) (d : TypeDesc) (hu : Try.prog.underlying ty = some d) (hd : d.isRow = true) (hi : (Try.prog.info? ty).map (·.size) = some cs.length) :
    (Instr.loadAt ty (.pointer (some ⟨g, 0, none⟩))).run Try.prog w = .ok (.agg cs.toArray) w := by
  refine run_loadAt_mid w g 0 ty cs d ?_ hu hd hi
  have := Blk.range (a := []) (b := cs) (c := []) (w := w) (g := g) (t := t) (by simpa using h)
  simpa using this
theorem store_blk {w : World} {g : Nat} {t : TypeId} {cs vs : List Value} (h : Blk w g t cs) (ty : TypeId) (hi : (Try.prog.info? ty).map (·.size) = some vs.length) (hl : cs.length = vs.length) (h1 : ∀ v ∈ vs, v.oneCell' = true) :
    (Instr.storeAt ty (.pointer (some ⟨g, 0, none⟩)) (.agg vs.toArray)).run Try.prog w = .ok () (w.setCells g 0 vs) := by
  have := run_storeAt_mid (P := Try.prog) w g 0 ty vs.toArray (h.there 0 _ (by simp; omega)) (by simpa using hi) (all_oneCell_toArray h1)
  simpa using this
theorem Blk.setAll {w : World} {g : Nat} {t : TypeId} {cs vs : List Value} (h : Blk w g t cs) (hl : vs.length = cs.length) : Blk (w.setCells g 0 vs) g t vs := by
  have := set_mid [] cs [] vs hl w g t (by simpa using h)
  simpa using this
theorem pby_laid (xs : List Int) (k q : Nat) (hq : q = min 16 (xs.drop (16 * k)).length) : ((xs.drop (16 * k)).take q ++ List.replicate (17 - q) 0).set q 1 = pby xs k := by
  have hl : ((xs.drop (16 * k)).take q).length = q := by rw [List.length_take]; omega
  have e : 17 - q = (16 - q) + 1 := by omega
  rw [List.set_append_right _ _ (by omega), hl, Nat.sub_self, e, List.replicate_succ, List.set_cons_zero, pby]
  have h1 : (xs.drop (16 * k)).take q = (xs.drop (16 * k)).take 16 := by
    by_cases h : (xs.drop (16 * k)).length ≤ 16
    · rw [List.take_of_length_le (by omega), List.take_of_length_le h]
    · rw [show q = 16 by omega]
  rw [h1, List.append_assoc]
  congr 2
  rw [List.length_drop] at hq
  rw [hq]
  rfl
/-- five limbs, one by one -/
theorem five_cells {w : World} {g : Nat} {t : TypeId} {s : List Nat} (h : Blk w g t (ul s)) (hs : s.length = 5) (j : Nat) (hj : j < 5) : w.cell? ⟨g, j, none⟩ = some (.int .u64 ((s.getD j 0 : Nat) : Int)) := by
  rw [h.cell, ul_at _ _ (by omega)]
theorem ul_five (s : List Nat) (hs : s.length = 5) : (ul s).toArray = #[.int .u64 ((s.getD 0 0 : Nat) : Int), .int .u64 ((s.getD 1 0 : Nat) : Int), .int .u64 ((s.getD 2 0 : Nat) : Int), .int .u64 ((s.getD 3 0 : Nat) : Int), .int .u64 ((s.getD 4 0 : Nat) : Int)] := by
  have e := congrArg (fun s => (ul s).toArray) (five_form s hs)
  exact e
/-- how long a slice is -/
def slen : Value → Nat
  | .slice _ n _ => n
  | _ => 0
set_option maxHeartbeats 1600000 in
set_option maxRecDepth 100000 in
theorem gathered_any (v : Value) (xs : List Int) (hl : xs.length ≤ 1000000000000) (h8 : U8 xs) (r : List Nat) (hr : r.length = 5) (lr : LB 67108864 r) (w : World) (hb : Bs .u8 w v xs) :
    Calls Try.prog 18 #[v, .agg (ul r).toArray] w fun e w' => e = .returned (.agg (ul (gth r xs ((xs.length + 15) / 16))).toArray) ∧ Only (fun _ => False) w w' := by
  have hzv := (zero_of_info (P := Try.prog) Try.zero34).1
  have hzw := (zero_of_info (P := Try.prog) Try.zero50).1
  obtain ⟨Z, hZ⟩ : ∃ Z, Z = z5 := ⟨_, rfl⟩
  rw [← hZ] at hzv
  obtain ⟨Y, hY⟩ : ∃ Y, Y = z17 := ⟨_, rfl⟩
  rw [← hY] at hzw
  obtain ⟨D, hD⟩ : ∃ D, D = ul (gth r xs ((xs.length + 15) / 16)) := ⟨_, rfl⟩
  have HZ1 : Hid ((Try.prog.info? 34).map (·.size) = some D.toArray.size ∧ Z.toArray.size = D.toArray.size ∧ D.toArray.all (·.oneCell') = true) := by
    rw [hD, hZ]
    exact ⟨ul_size _ (gth_len _ _ _), by simp [ul_len, gth_len, z5_len], ul_all _⟩
  rw [← hD]
  have HD := hideIt (And.intro hD (And.intro hZ hY))
  have HX := hideIt (And.intro h8 (And.intro hr lr))
  obtain ⟨B, hB⟩ : ∃ B, B = ul r := ⟨_, rfl⟩
  have HB : Hid (B = ul r ∧ B.length = 5) := ⟨hB, by rw [hB, ul_len, hr]⟩
  rw [← hB]
  have K0 : Hid (Blk (((w.alloc (.cells B.toArray 34)).alloc (.cells Z.toArray 34)).alloc (.cells Z.toArray 34)) w.heap.size 34 B ∧ Blk (((w.alloc (.cells B.toArray 34)).alloc (.cells Z.toArray 34)).alloc (.cells Z.toArray 34)) (w.heap.size + 1) 34 Z ∧ Blk (((w.alloc (.cells B.toArray 34)).alloc (.cells Z.toArray 34)).alloc (.cells Z.toArray 34)) (w.heap.size + 1 + 1) 34 (ul (gth r xs 0)) ∧ Only (fun _ => False) w (((w.alloc (.cells B.toArray 34)).alloc (.cells Z.toArray 34)).alloc (.cells Z.toArray 34))) := by
    refine ⟨((Blk.new w 34 B).alloc _).alloc _, ?_, ?_, (((Only.refl _ _).alloc _).alloc _).alloc _⟩
    · have := (Blk.new (w.alloc (.cells B.toArray 34)) 34 Z).alloc (.cells Z.toArray 34)
      rw [size_alloc] at this
      exact this
    · have := Blk.new ((w.alloc (.cells B.toArray 34)).alloc (.cells Z.toArray 34)) 34 Z
      rw [size_alloc, size_alloc] at this
      rw [HD.out.2.1] at this ⊢
      exact this
  have B0 := hideIt hb
  obtain ⟨n, hn⟩ : ∃ n, n = xs.length := ⟨_, rfl⟩
  have HN := hideIt hn
  rw [← hn] at hl
  clear hZ hY hD hB hb hr lr h8 hn
  go_enter Try.func18, Try.ntmps18
  go_wp2
  obtain ⟨A, hA⟩ : ∃ A, A = w.heap.size + 1 + 1 := ⟨_, rfl⟩
  rw [← hA] at K0 ⊢
  obtain ⟨R, hR⟩ : ∃ R, R = w.heap.size + 1 := ⟨_, rfl⟩
  rw [← hR] at K0 ⊢
  obtain ⟨H, hH⟩ : ∃ H, H = w.heap.size := ⟨_, rfl⟩
  have HG : Hid (w.heap.size ≤ A ∧ w.heap.size ≤ R ∧ R ≠ A ∧ H ≠ A) := ⟨by omega, by omega, by omega, by omega⟩
  rw [← hH] at K0 ⊢
  obtain ⟨W0, hW0⟩ : ∃ W0, W0 = ((w.alloc (.cells B.toArray 34)).alloc (.cells Z.toArray 34)).alloc (.cells Z.toArray 34) := ⟨_, rfl⟩
  rw [← hW0] at K0 ⊢
  clear hA hR hH hW0 hzv
  go_loopw [6] (fun o wr => ∃ k : Nat, Bs .u8 w o (xs.drop (16 * k)) ∧ 16 * k ≤ n + 15 ∧ Blk wr H 34 B ∧ Blk wr R 34 Z ∧ Blk wr A 34 (ul (gth r xs k)) ∧ Only (fun _ => False) w wr) (fun o _ => slen o)
  case atStart => exact ⟨0, B0.out, by omega, K0.out⟩
  case round =>
    obtain ⟨k, hbw, hk, k1, k2, k3, k4⟩ := hrel
    clear K0 B0
    obtain ⟨ao, cap, rfl⟩ := hbw.len
    have hbs := hbw.past k4
    have hlen : (xs.drop (16 * k)).length = n - 16 * k := by rw [List.length_drop, HN.out]
    have hcp : (xs.drop (16 * k)).length ≤ cap := by
      obtain ⟨_, _, e, h, _⟩ := hbs
      cases e; exact h
    by_cases hlt : 16 * k < n
    · obtain ⟨q, hq⟩ : ∃ q, q = min 16 (xs.drop (16 * k)).length := ⟨_, rfl⟩
      obtain ⟨W1, hW1⟩ : ∃ W1, W1 = wr.alloc (.cells Y.toArray 50) := ⟨_, rfl⟩
      have hP1 : Blk W1 wr.heap.size 50 (bl (List.replicate 17 0)) := by
        have := Blk.new wr 50 Y
        rw [hW1]; rw [HD.out.2.2] at this ⊢; exact this
      have hO1 : Only (fun _ => False) wr W1 := by rw [hW1]; exact (Only.refl _ _).alloc _
      obtain ⟨w3, hcpy, hB3, hO3⟩ := copy_into 50 17 17 _ (xs.drop (16 * k)) W1 wr.heap.size 16 q hP1 (hbs.past hO1) hq (by decide)
      have hq16 : q ≤ 16 ∧ 0 < q ∧ q ≤ n - 16 * k := by omega
      have hl17 : ((xs.drop (16 * k)).take q ++ List.replicate (17 - q) 0).length = 17 := by
        rw [List.length_append, List.length_take, List.length_replicate]; omega
      have hc3 : w3.cell? ⟨wr.heap.size, q, none⟩ = some (.int .u8 (((xs.drop (16 * k)).take q ++ List.replicate (17 - q) 0).getD q 0)) := by
        rw [hB3.cell, bl_at _ _ (by rw [hl17]; omega)]
      have hf3 := hB3.froz q
      obtain ⟨z, hz⟩ : ∃ z, z = ((xs.drop (16 * k)).take q ++ List.replicate (17 - q) 0).getD q 0 := ⟨_, rfl⟩
      rw [← hz] at hc3
      have hlow : Only (fun _ => False) wr w3 := hO1.trans hO3 (fun i hi e => by omega)
      obtain ⟨W4, hW4⟩ : ∃ W4, W4 = w3.setCell ⟨wr.heap.size, q, none⟩ (.int .u8 1) := ⟨_, rfl⟩
      have hP4 : Blk W4 wr.heap.size 50 (bl (pby xs k)) := by
        have h := hB3.set q (.int .u8 1)
        rw [bl_set, pby_laid xs k q hq] at h
        rw [hW4]; exact h
      have hO4 : Only (fun _ => False) wr W4 := by
        rw [hW4]
        exact hlow.setCell (p := ⟨wr.heap.size, q, none⟩) (fun h => absurd h (Nat.lt_irrefl _)) _
      have hbs4 := hbs.past hO4
      have K4 : Hid (Blk W4 H 34 B ∧ Blk W4 R 34 Z ∧ Blk W4 A 34 (ul (gth r xs k)) ∧ Only (fun _ => False) w W4) := ⟨k1.past hO4, k2.past hO4, k3.past hO4, k4.same hO4⟩
      have oD : Only (fun _ => False) W4 W4.drew := (Only.refl _ _).drew
      have NU := hideIt (fun (W : World) (o : Only (fun _ => False) W4 W) => (numberOf_any _ (pby xs k) (by rw [pby_len]; decide) (pby_u8 xs HX.out.1 k) W (Bs.of_bl (hP4.past o) 17 (pby_len _ _))).mono (fun _ w' (h : _ ∧ _) => And.intro h.1 (o.same h.2)))
      have lg := gth_lb r xs HX.out.2.2 k
      have lp := pls_lb (C := 134217728) lg (nmb_lb (pby xs k)) (by decide)
      have PL := hideIt (fun (W : World) (o : Only (fun _ => False) W4 W) => (plus_any (gth r xs k) (nmb (pby xs k)) (gth_len _ _ _) (nmb_len _) (lg.mono (by decide)) ((nmb_lb _).mono (by decide)) W).mono (fun _ w' (h : _ ∧ _) => And.intro h.1 (o.same h.2)))
      have TI := hideIt (fun (W : World) (o : Only (fun _ => False) W4 W) => (times_any (pls (gth r xs k) (nmb (pby xs k))) r (pls_len _ _) HX.out.2.1 lp HX.out.2.2 W).mono (fun _ w' (h : _ ∧ _) => And.intro h.1 (o.same h.2)))
      have eN : tms (pls (gth r xs k) (nmb (pby xs k))) r = gth r xs (k + 1) := rfl
      rw [eN, ul_five _ (gth_len r xs (k + 1)), ul_five r HX.out.2.1] at TI
      rw [ul_five _ (gth_len r xs k)] at PL
      have K5 : Hid (∀ W, Only (fun _ => False) W4 W → Blk W A 34 (ul (gth r xs k)) ∧ Blk W H 34 (ul r)) := fun W o => ⟨K4.out.2.2.1.past o, by rw [← HB.out.1]; exact K4.out.1.past o⟩
      obtain ⟨x0, hx0⟩ : ∃ z, z = (gth r xs k).getD 0 0 := ⟨_, rfl⟩
      obtain ⟨x1, hx1⟩ : ∃ z, z = (gth r xs k).getD 1 0 := ⟨_, rfl⟩
      obtain ⟨x2, hx2⟩ : ∃ z, z = (gth r xs k).getD 2 0 := ⟨_, rfl⟩
      obtain ⟨x3, hx3⟩ : ∃ z, z = (gth r xs k).getD 3 0 := ⟨_, rfl⟩
      obtain ⟨x4, hx4⟩ : ∃ z, z = (gth r xs k).getD 4 0 := ⟨_, rfl⟩
      have cx0 : ∀ W, Only (fun _ => False) W4 W → W.cell? ⟨A, 0, none⟩ = some (.int .u64 (x0 : Int)) := fun W o => by rw [hx0]; exact five_cells (K5.out W o).1 (gth_len _ _ _) 0 (by decide)
      have cx1 : ∀ W, Only (fun _ => False) W4 W → W.cell? ⟨A, 1, none⟩ = some (.int .u64 (x1 : Int)) := fun W o => by rw [hx1]; exact five_cells (K5.out W o).1 (gth_len _ _ _) 1 (by decide)
      have cx2 : ∀ W, Only (fun _ => False) W4 W → W.cell? ⟨A, 2, none⟩ = some (.int .u64 (x2 : Int)) := fun W o => by rw [hx2]; exact five_cells (K5.out W o).1 (gth_len _ _ _) 2 (by decide)
      have cx3 : ∀ W, Only (fun _ => False) W4 W → W.cell? ⟨A, 3, none⟩ = some (.int .u64 (x3 : Int)) := fun W o => by rw [hx3]; exact five_cells (K5.out W o).1 (gth_len _ _ _) 3 (by decide)
      have cx4 : ∀ W, Only (fun _ => False) W4 W → W.cell? ⟨A, 4, none⟩ = some (.int .u64 (x4 : Int)) := fun W o => by rw [hx4]; exact five_cells (K5.out W o).1 (gth_len _ _ _) 4 (by decide)
      obtain ⟨y0, hy0⟩ : ∃ z, z = (r).getD 0 0 := ⟨_, rfl⟩
      obtain ⟨y1, hy1⟩ : ∃ z, z = (r).getD 1 0 := ⟨_, rfl⟩
      obtain ⟨y2, hy2⟩ : ∃ z, z = (r).getD 2 0 := ⟨_, rfl⟩
      obtain ⟨y3, hy3⟩ : ∃ z, z = (r).getD 3 0 := ⟨_, rfl⟩
      obtain ⟨y4, hy4⟩ : ∃ z, z = (r).getD 4 0 := ⟨_, rfl⟩
      have cy0 : ∀ W, Only (fun _ => False) W4 W → W.cell? ⟨H, 0, none⟩ = some (.int .u64 (y0 : Int)) := fun W o => by rw [hy0]; exact five_cells (K5.out W o).2 (HX.out.2.1) 0 (by decide)
      have cy1 : ∀ W, Only (fun _ => False) W4 W → W.cell? ⟨H, 1, none⟩ = some (.int .u64 (y1 : Int)) := fun W o => by rw [hy1]; exact five_cells (K5.out W o).2 (HX.out.2.1) 1 (by decide)
      have cy2 : ∀ W, Only (fun _ => False) W4 W → W.cell? ⟨H, 2, none⟩ = some (.int .u64 (y2 : Int)) := fun W o => by rw [hy2]; exact five_cells (K5.out W o).2 (HX.out.2.1) 2 (by decide)
      have cy3 : ∀ W, Only (fun _ => False) W4 W → W.cell? ⟨H, 3, none⟩ = some (.int .u64 (y3 : Int)) := fun W o => by rw [hy3]; exact five_cells (K5.out W o).2 (HX.out.2.1) 3 (by decide)
      have cy4 : ∀ W, Only (fun _ => False) W4 W → W.cell? ⟨H, 4, none⟩ = some (.int .u64 (y4 : Int)) := fun W o => by rw [hy4]; exact five_cells (K5.out W o).2 (HX.out.2.1) 4 (by decide)
      rw [← hx0, ← hx1, ← hx2, ← hx3, ← hx4] at PL
      rw [← hy0, ← hy1, ← hy2, ← hy3, ← hy4] at TI
      obtain ⟨z0, hz0⟩ : ∃ z, z = (gth r xs (k + 1)).getD 0 0 := ⟨_, rfl⟩
      obtain ⟨z1, hz1⟩ : ∃ z, z = (gth r xs (k + 1)).getD 1 0 := ⟨_, rfl⟩
      obtain ⟨z2, hz2⟩ : ∃ z, z = (gth r xs (k + 1)).getD 2 0 := ⟨_, rfl⟩
      obtain ⟨z3, hz3⟩ : ∃ z, z = (gth r xs (k + 1)).getD 3 0 := ⟨_, rfl⟩
      obtain ⟨z4, hz4⟩ : ∃ z, z = (gth r xs (k + 1)).getD 4 0 := ⟨_, rfl⟩
      rw [← hz0, ← hz1, ← hz2, ← hz3, ← hz4] at TI
      have fz0 : ∀ W, Only (fun _ => False) W4 W → W.frozen? ⟨A, 0, none⟩ = false := fun W o => (K5.out W o).1.froz 0
      have fz1 : ∀ W, Only (fun _ => False) W4 W → W.frozen? ⟨A, 1, none⟩ = false := fun W o => (K5.out W o).1.froz 1
      have fz2 : ∀ W, Only (fun _ => False) W4 W → W.frozen? ⟨A, 2, none⟩ = false := fun W o => (K5.out W o).1.froz 2
      have fz3 : ∀ W, Only (fun _ => False) W4 W → W.frozen? ⟨A, 3, none⟩ = false := fun W o => (K5.out W o).1.froz 3
      have fz4 : ∀ W, Only (fun _ => False) W4 W → W.frozen? ⟨A, 4, none⟩ = false := fun W o => (K5.out W o).1.froz 4
      have FIN : Hid (∀ W, Only (fun _ => False) W4 W → Blk (((((W.setCell ⟨A, 0, none⟩ (.int .u64 (z0 : Int))).setCell ⟨A, 1, none⟩ (.int .u64 (z1 : Int))).setCell ⟨A, 2, none⟩ (.int .u64 (z2 : Int))).setCell ⟨A, 3, none⟩ (.int .u64 (z3 : Int))).setCell ⟨A, 4, none⟩ (.int .u64 (z4 : Int))) H 34 B ∧ Blk (((((W.setCell ⟨A, 0, none⟩ (.int .u64 (z0 : Int))).setCell ⟨A, 1, none⟩ (.int .u64 (z1 : Int))).setCell ⟨A, 2, none⟩ (.int .u64 (z2 : Int))).setCell ⟨A, 3, none⟩ (.int .u64 (z3 : Int))).setCell ⟨A, 4, none⟩ (.int .u64 (z4 : Int))) R 34 Z ∧ Blk (((((W.setCell ⟨A, 0, none⟩ (.int .u64 (z0 : Int))).setCell ⟨A, 1, none⟩ (.int .u64 (z1 : Int))).setCell ⟨A, 2, none⟩ (.int .u64 (z2 : Int))).setCell ⟨A, 3, none⟩ (.int .u64 (z3 : Int))).setCell ⟨A, 4, none⟩ (.int .u64 (z4 : Int))) A 34 (ul (gth r xs (k + 1))) ∧ Only (fun _ => False) w (((((W.setCell ⟨A, 0, none⟩ (.int .u64 (z0 : Int))).setCell ⟨A, 1, none⟩ (.int .u64 (z1 : Int))).setCell ⟨A, 2, none⟩ (.int .u64 (z2 : Int))).setCell ⟨A, 3, none⟩ (.int .u64 (z3 : Int))).setCell ⟨A, 4, none⟩ (.int .u64 (z4 : Int)))) := fun W o => by
        have e : (((((W.setCell ⟨A, 0, none⟩ (.int .u64 (z0 : Int))).setCell ⟨A, 1, none⟩ (.int .u64 (z1 : Int))).setCell ⟨A, 2, none⟩ (.int .u64 (z2 : Int))).setCell ⟨A, 3, none⟩ (.int .u64 (z3 : Int))).setCell ⟨A, 4, none⟩ (.int .u64 (z4 : Int))) = W.setCells A 0 (ul (gth r xs (k + 1))) := by
          have e2 : ul (gth r xs (k + 1)) = [.int .u64 (z0 : Int), .int .u64 (z1 : Int), .int .u64 (z2 : Int), .int .u64 (z3 : Int), .int .u64 (z4 : Int)] := by
            rw [hz0, hz1, hz2, hz3, hz4]
            exact congrArg ul (five_form _ (gth_len r xs (k + 1)))
          rw [e2]; rfl
        rw [e]
        have oc : Only (fun k => k = A) W (W.setCells A 0 (ul (gth r xs (k + 1)))) := Only.setCells (S := fun k => k = A) (fun _ => rfl) _ 0 W (Only.refl _ _)
        refine ⟨(K4.out.1.past o).keep oc HG.out.2.2.2, (K4.out.2.1.past o).keep oc HG.out.2.2.1, ?_, (K4.out.2.2.2.same o).trans oc (fun i hi e => by have := HG.out.1; omega)⟩
        exact (K4.out.2.2.1.past o).setAll (by rw [ul_len, ul_len, gth_len, gth_len])
      have oR : Only (fun _ => False) W4 W4 := Only.refl _ _
      obtain ⟨PP', hPP⟩ : ∃ PP', PP' = (ul (pls (gth r xs k) (nmb (pby xs k)))).toArray := ⟨_, rfl⟩
      obtain ⟨MM, hMM⟩ : ∃ MM, MM = (ul (nmb (pby xs k))).toArray := ⟨_, rfl⟩
      rw [← hPP] at PL TI
      rw [← hMM] at NU PL
      rw [hW1] at hcpy
      obtain ⟨m, hm⟩ : ∃ m, m = (xs.drop (16 * k)).length := ⟨_, rfl⟩
      have HM := hideIt (And.intro hm (And.intro hq hlen))
      rw [← hm] at hcp hcpy hbw ⊢
      have HBW := hideIt hbw
      have i0 : (0 : Int) < (m : Int) := by omega
      have i1 : (q : Int) < 17 := by omega
      have i2 : (0 : Int) ≤ (q : Int) := by omega
      have i3 : (q : Int) ≤ (m : Int) := by omega
      have i4 : (m : Int) ≤ (cap : Int) := by omega
      have HQ := hideIt hq16
      clear hW1 hP1 hO1 hB3 hO3 hl17 hz hlow hP4 hO4 hbs4 lg lp eN hPP hMM k1 k2 k3 k4 hbs hbw hq hlen hm hq16 K4 K5 hx0 hx1 hx2 hx3 hx4 hy0 hy1 hy2 hy3 hy4 hz0 hz1 hz2 hz3 hz4
      go_wp2_with fail
      rw [← hW4]
      clear hW4 hc3 hf3 hcpy
      go_region_with (first | (go_at_call 14; refine (NU.out _ (by assumption)).mono ?_; rintro e w5 ⟨rfl, o5⟩) | (go_at_call 16; refine (PL.out _ (by assumption)).mono ?_; rintro e w6 ⟨rfl, o6⟩) | (go_at_call 26; refine (TI.out _ (by assumption)).mono ?_; rintro e w7 ⟨rfl, o7⟩))
      all_goals (
        have fin := hideIt (FIN.out w7 o7)
        clear cx0 cx1 cx2 cx3 cx4 cy0 cy1 cy2 cy3 cy4 fz0 fz1 fz2 fz3 fz4 FIN TI PL NU
        obtain ⟨W9, hW9⟩ : ∃ W9, W9 = (((((w7.setCell ⟨A, 0, none⟩ (.int .u64 (z0 : Int))).setCell ⟨A, 1, none⟩ (.int .u64 (z1 : Int))).setCell ⟨A, 2, none⟩ (.int .u64 (z2 : Int))).setCell ⟨A, 3, none⟩ (.int .u64 (z3 : Int))).setCell ⟨A, 4, none⟩ (.int .u64 (z4 : Int))) := ⟨_, rfl⟩
        rw [← hW9] at fin ⊢
        clear hW9
        by_cases hcq : cap = q
        · subst hcq
          have hmq : m = cap := by omega
          subst hmq
          have C := hideIt (HBW.out.cut0 (n := m) (Nat.le_refl _))
          rw [List.drop_drop, Nat.sub_self] at C
          have E8 : Hid (xs.drop (16 * k + m) = xs.drop (16 * (k + 1)) ∧ 16 * (k + 1) ≤ n + 15 ∧ 0 < m) := by
            have h1 := HM.out
            have h2 := HQ.out
            refine ⟨?_, by omega, by omega⟩
            rw [List.drop_of_length_le (by have := HN.out; omega), List.drop_of_length_le (by have := HN.out; omega)]
          rw [E8.out.1] at C
          go_wp2
          go_roundw
          case rel => exact ⟨k + 1, C.out, E8.out.2.1, fin.out⟩
          case measure =>
            have := E8.out.2.2
            simp only [slen]
            omega
        · have C := hideIt (HBW.out.cut (n := q) (by omega))
          rw [List.drop_drop] at C
          have E8 : Hid (xs.drop (16 * k + q) = xs.drop (16 * (k + 1)) ∧ 16 * (k + 1) ≤ n + 15 ∧ 0 < m ∧ 0 < q) := by
            have h1 := HM.out
            have h2 := HQ.out
            refine ⟨?_, by omega, by omega, by omega⟩
            by_cases h16 : q = 16
            · rw [h16, show 16 * k + 16 = 16 * (k + 1) by omega]
            · rw [List.drop_of_length_le (by have := HN.out; omega), List.drop_of_length_le (by have := HN.out; omega)]
          rw [E8.out.1] at C
          have i5 : ¬ (cap : Int) = (q : Int) := by omega
          go_wp2
          go_roundw
          case rel => exact ⟨k + 1, C.out, E8.out.2.1, fin.out⟩
          case measure =>
            have := E8.out.2.2
            simp only [slen]
            omega)
    · have hm0 : (xs.drop (16 * k)).length = 0 := by omega
      rw [hm0]
      have hkk : k = (n + 15) / 16 := by omega
      have S2 : Hid (Blk wr A 34 D) := by
        have h := k3
        rw [hkk, HN.out, ← HD.out.1] at h
        exact h
      have R2 := hideIt k2
      have O2 := hideIt k4
      clear k1 k2 k3 k4 hkk hlen hcp hbs hbw hm0
      go_wp2_with (first | (refine wpList_load_row rfl 34 (.tmp 5) rfl A rfl 34 D.toArray (0, 0) _ S2.out Try.underlying34 rfl HZ1.out.1 ?_) | (refine wpList_store_row rfl 34 (.tmp 4) (.tmp 27) rfl R D.toArray rfl rfl 34 Z.toArray R2.out HZ1.out.1 HZ1.out.2.1 HZ1.out.2.2 ?_))
      refine bodyPost_ret (v := .agg D.toArray) (results_cell_row rfl _ _ R 34 D.toArray (0, 0) _ rfl (R2.out.row D) Try.underlying34 rfl HZ1.out.1) rfl ⟨rfl, ?_⟩
      exact O2.out.setRow (fun h => absurd h (by have := HG.out.2.1; omega)) _
end Go.Proofs.Ytanobjnjgbhnjaa
