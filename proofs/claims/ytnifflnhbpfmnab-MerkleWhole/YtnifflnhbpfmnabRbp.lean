/- The walk over leaves and a proof. -/
import Derived.Test.YtnifflnhbpfmnabMu20
import Derived.Test.YtnifflnhbpfmnabWm
import Derived.Deep.RegionHeld3
namespace Go.Proofs.Ytnifflnhbpfmnab
open Go.RowKit

theorem cell_keep {w w' : World} {q : Addr} {u : Value} (h : w.cell? q = some u) {S : Nat → Prop} (o : Only S w w') (hs : ¬ S q.block) : w'.cell? q = some u := by
  rw [← h]
  exact World.cell?_of_block (o.block _ (World.block_lt_of_cell? w _ h) hs)
theorem WK.keep {w w' : World} {b0 b1 b2 b3 b4 b5 i j : Nat} {fa fb fc fp : Value} (h : WK w b0 b1 b2 b3 b4 b5 i j fa fb fc fp) {T : Nat} (o : Only (fun k => k = T) w w') (h0 : b0 ≠ T) (h1 : b1 ≠ T) (h2 : b2 ≠ T) (h3 : b3 ≠ T) (h4 : b4 ≠ T) (h5 : b5 ≠ T) : WK w' b0 b1 b2 b3 b4 b5 i j fa fb fc fp :=
  ⟨cell_keep h.c0 o h0, cell_keep h.c1 o h1, cell_keep h.c2 o h2, cell_keep h.c3 o h3, cell_keep h.c4 o h4, cell_keep h.c5 o h5⟩
/-- bytes do not lie in a number's cell -/
theorem Bs.off_num {w : World} {T : Nat} {a : Int} {v : Value} {xs : List Int} (hB : Blk w T 3 [.int .i64 a]) (hb : Bs .u8 w v xs) (hx : xs ≠ []) : ∀ b, v.ownBlock = some b → ¬ b = T := by
  obtain ⟨ao, cap, rfl, hc, hr⟩ := hb
  obtain ⟨b, off, rfl, hcell⟩ := hr hx
  intro k hk e
  simp [Value.ownBlock] at hk
  subst hk
  subst e
  have h0 := hcell 0 (List.length_pos_iff.2 hx)
  rw [hB.cell] at h0
  cases off with
  | zero => simp at h0
  | succ m => simp at h0
theorem RL.off_num {w : World} {T : Nat} {a : Int} {b off n cap : Nat} {ls : List (List Int)} (hB : Blk w T 3 [.int .i64 a]) (hb : RL w (.slice (some ⟨b, off, none⟩) n cap) ls) (h0 : 0 < ls.length) : b ≠ T := by
  rintro rfl
  obtain ⟨u, h1, h2, _⟩ := hb.at 0 h0
  obtain ⟨ao, c, rfl⟩ := h2.len
  rw [hB.cell] at h1
  cases off with
  | zero => simp at h1
  | succ m => simp at h1

set_option maxHeartbeats 800000 in
set_option maxRecDepth 100000 in
theorem reb1 (cl ci i lo hi : Nat) (v : Value) (x : List (List Int)) (w : World) (h8 : R8 x) (hx : x.length ≤ 1000000000) (hr : RL w v x) (h1 : i ≤ lo) (hlt : lo < hi) (h2 : hi ≤ i + x.length) (hh : hi ≤ 1000000000)
    (c0 : w.cell? ⟨cl, 0, none⟩ = some v) (c1 : w.cell? ⟨ci, 0, none⟩ = some (.int .i64 i)) :
    Calls Try.prog 14 #[.int .i64 lo, .int .i64 hi, .pointer (some ⟨cl, 0, none⟩), .pointer (some ⟨ci, 0, none⟩)] w fun e w' => ∃ v', e = .returned v' ∧ w'.ownsRow w.heap.size 5 1 v' (TOP (PRT x (lo - i) (hi - i))).length (bl (TOP (PRT x (lo - i) (hi - i)))) ∧ Only (fun _ => False) w w' := by
  obtain ⟨n, hn⟩ : ∃ n, x.length = n := ⟨_, rfl⟩
  obtain ⟨b, off, cap, rfl, hcap⟩ := hr.form hn (by omega)
  obtain ⟨p, hp⟩ : ∃ p, p = lo - i := ⟨_, rfl⟩
  obtain ⟨q, hq⟩ : ∃ q, q = hi - i := ⟨_, rfl⟩
  rw [← hp, ← hq]
  have hl := PRT_len x p q (by omega)
  have A := hideIt (top_any (q - p) (PRT x p q) _ w (by omega) (by omega) (by omega) (fun l hl => h8 l (List.mem_of_mem_drop (List.mem_of_mem_take hl))) (hr.part p q (by omega) (by omega)))
  obtain ⟨Y, hY⟩ : ∃ Y, Y = TOP (PRT x p q) := ⟨_, rfl⟩
  rw [← hY] at A ⊢
  have e1 : (lo : Int) - (i : Int) = (p : Int) := by omega
  have e2 : (hi : Int) - (i : Int) = (q : Int) := by omega
  have a0 : (0 : Int) ≤ (p : Int) := by omega
  have a1 : (p : Int) ≤ (q : Int) := by omega
  have a2 : (q : Int) ≤ (cap : Int) := by omega
  have a3 : ¬ cap = p := by omega
  have hpb : (p : Int) ≤ 1000000000 := by omega
  have hqb : (q : Int) ≤ 1000000000 := by omega
  clear h8 hx hr h1 hlt h2 hn hcap hp hq hl hY hh
  go_enter Try.func14, Try.ntmps14
  go_wp2_with fail
  refine A.out.mono ?_
  rintro e w4 ⟨v4, rfl, own4, on4⟩
  have F1 := hideIt own4
  have F2 := hideIt on4
  obtain ⟨ao4, cap4, e4⟩ := own_form own4
  subst e4
  clear own4 on4 A
  go_wp2
  go_ret
  exact ⟨_, rfl, F1.out, F2.out⟩

set_option maxHeartbeats 800000 in
set_option maxRecDepth 100000 in
theorem reb2 (T cp a : Nat) (lo hi : Int) (v : Value) (p : List (List Int)) (w : World) (hr : RL w v p) (ha : a < p.length) (hl : a ≤ 1000000000) (hT : Blk w T 3 [.int .i64 (a : Int)]) (hne : cp ≠ T)
    (c0 : w.cell? ⟨cp, 0, none⟩ = some v) :
    Calls Try.prog 16 #[.int .i64 lo, .int .i64 hi, .pointer (some ⟨T, 0, none⟩), .pointer (some ⟨cp, 0, none⟩)] w fun e w' => ∃ v', e = .returned v' ∧ Bs .u8 w' v' (p.getD a []) ∧ NoCap v' ∧ Blk w' T 3 [.int .i64 ((a + 1 : Nat) : Int)] ∧ Only (fun k => k = T) w w' := by
  obtain ⟨n, hn⟩ : ∃ n, p.length = n := ⟨_, rfl⟩
  obtain ⟨b, off, cap, rfl, hcap⟩ := hr.form hn (by omega)
  obtain ⟨u, hu, hbu, nu⟩ := hr.at a ha
  have hbT := hr.off_num hT (by omega)
  have oS : Only (fun k => k = T) w (w.setCell ⟨T, 0, none⟩ (.int .i64 ((a + 1 : Nat) : Int))) := Only.setCell (S := fun k => k = T) (p := ⟨T, 0, none⟩) (Only.refl _ _) (fun _ => rfl) _
  have hB' := hT.set 0 (.int .i64 ((a + 1 : Nat) : Int))
  have hc := hT.cell 0
  have hf := hT.froz 0
  have F1 := hideIt (And.intro (hbu.keepE oS (fun hx => Bs.off_num hT hbu hx)) (And.intro nu (And.intro hB' oS)))
  have k0 := cell_keep c0 oS hne
  have k1 := cell_keep hu oS hbT
  have k2 := hB'.cell 0
  obtain ⟨ao, cu, rfl⟩ := hbu.len
  obtain ⟨m, hm⟩ : ∃ m, m = (p.getD a []).length := ⟨_, rfl⟩
  obtain ⟨a', ha'⟩ : ∃ a', a' = a + 1 := ⟨_, rfl⟩
  rw [← hm] at F1 k1
  rw [← ha'] at F1 k0 k1 k2 ⊢
  have e1 : (a : Int) + 1 = (a' : Int) := by omega
  have e2 : (a' : Int) - 1 = (a : Int) := by omega
  have i0 : (0 : Int) ≤ (a : Int) := by omega
  have i1 : (a : Int) < (n : Int) := by omega
  have hab : (a' : Int) ≤ 1000000001 := by omega
  simp only [List.getElem?_cons_zero] at hc
  simp only [List.set_cons_zero, List.getElem?_cons_zero] at k2
  clear hr ha hn hcap hbu nu hbT oS hB' hm ha' hu hT c0 hl
  go_enter Try.func16, Try.ntmps16
  go_wp2
  go_ret
  exact ⟨_, rfl, F1.out⟩

set_option maxHeartbeats 1600000 in
set_option maxRecDepth 100000 in
theorem rbp (b0 b1 b2 b3 b4 b5 i j cl ci T cp : Nat) (vx vp : Value) (x p : List (List Int)) (w0 : World) (x8 : R8 x) (p8 : R8 p) (hx : x.length ≤ 1000000000) (hpl : p.length ≤ 1000000000) (hx0 : 0 < x.length) (hj : j = i + x.length - 1) (rx : RL w0 vx x) (rp : RL w0 vp p)
    (hcl : w0.cell? ⟨cl, 0, none⟩ = some vx) (hci : w0.cell? ⟨ci, 0, none⟩ = some (.int .i64 i)) (hcp : w0.cell? ⟨cp, 0, none⟩ = some vp) (hT : w0.heap.size ≤ T) (n0 : b0 ≠ T) (n1 : b1 ≠ T) (n2 : b2 ≠ T) (n3 : b3 ≠ T) (n4 : b4 ≠ T) (n5 : b5 ≠ T) :
    ∀ (k lo hi a : Nat) (w : World), lo < hi → hi - lo ≤ k → hi ≤ 1000000000 → a + MNY (k + 1) lo hi i j ≤ p.length → Only (fun _ => False) w0 w → Blk w T 3 [.int .i64 (a : Int)] →
    WK w b0 b1 b2 b3 b4 b5 i j (.func (.func 14) #[] #[.pointer (some ⟨cl, 0, none⟩), .pointer (some ⟨ci, 0, none⟩)]) (.func (.func 16) #[] #[.pointer (some ⟨T, 0, none⟩), .pointer (some ⟨cp, 0, none⟩)]) (.func (.func 11) #[] #[]) (.func (.func 34) #[] #[.pointer (some ⟨b0, 0, none⟩), .pointer (some ⟨b1, 0, none⟩), .pointer (some ⟨b2, 0, none⟩), .pointer (some ⟨b3, 0, none⟩), .pointer (some ⟨b4, 0, none⟩), .pointer (some ⟨b5, 0, none⟩)]) →
    Calls Try.prog 34 #[.int .i64 lo, .int .i64 hi, .pointer (some ⟨b0, 0, none⟩), .pointer (some ⟨b1, 0, none⟩), .pointer (some ⟨b2, 0, none⟩), .pointer (some ⟨b3, 0, none⟩), .pointer (some ⟨b4, 0, none⟩), .pointer (some ⟨b5, 0, none⟩)] w
      fun e w' => ∃ v, e = .returned v ∧ Bs .u8 w' v (MAD (k + 1) lo hi i x (p.drop a)).1 ∧ NoCap v ∧ Blk w' T 3 [.int .i64 ((a + MNY (k + 1) lo hi i j : Nat) : Int)] ∧ Only (fun k => k = T) w w' := by
  intro k
  induction k with
  | zero => intro lo hi a w h1 h2; omega
  | succ k ih =>
    intro lo hi a w hlt hk hh ham ho hbT hw
    have HW := hideIt hw
    obtain ⟨c0, c1, c2, c3, c4, c5⟩ := hw
    obtain ⟨x0, hxx⟩ : ∃ x, x = hi - 1 := ⟨_, rfl⟩
    have ex : (hi : Int) - 1 = (x0 : Int) := by omega
    by_cases hA : i ≤ lo ∧ hi ≤ j + 1
    · skip
      have e : MNY (k + 1 + 1) lo hi i j = 0 := by rw [MNY, if_pos hA]
      rw [e, MAD_among hlt (by omega) hA.1 (by omega)]
      have A := hideIt (reb1 cl ci i lo hi vx x w x8 hx (rx.past ho) hA.1 hlt (by omega) hh (cell_past hcl ho) (cell_past hci ho))
      obtain ⟨Y, hY⟩ : ∃ Y, Y = TOP (PRT x (lo - i) (hi - i)) := ⟨_, rfl⟩
      rw [← hY] at A
      simp only
      rw [← hY]
      have HB := hideIt hbT
      have d1 : decide (i ≤ lo) = true := decide_eq_true (by omega)
      have d1' : decide ((i : Int) ≤ (lo : Int)) = true := decide_eq_true (by omega)
      have d2 : decide (x0 ≤ j) = true := decide_eq_true (by omega)
      have d2' : decide ((x0 : Int) ≤ (j : Int)) = true := decide_eq_true (by omega)
      have hxb : (x0 : Int) ≤ 1000000000 := by omega
      have hlb : (lo : Int) ≤ 1000000000 := by omega
      have hhb : (hi : Int) ≤ 1000000000 := by omega
      clear ih hlt hk hh hxx hA HW e ham ho hbT x8 p8 hx hpl hx0 hj rx rp hcl hci hcp hT n0 n1 n2 n3 n4 n5 hY
      go_enter Try.func34, Try.ntmps34
      go_wp2_with fail
      refine A.out.mono ?_
      rintro e w1 ⟨v1, rfl, own1, o1⟩
      have F : Hid (Bs .u8 w1 v1 Y ∧ NoCap v1 ∧ Blk w1 T 3 [.int .i64 ((a + 0 : Nat) : Int)] ∧ Only (fun k => k = T) w w1) := ⟨own_bs own1, NoCap.of_own own1, HB.out.past o1, o1.mono (fun _ _ f => f.elim)⟩
      obtain ⟨ao1, cap1, e1⟩ := own_form own1
      subst e1
      clear A o1 own1 HB
      go_wp2
      go_ret
      exact ⟨_, rfl, F.out⟩
    · by_cases hB : j < lo ∨ hi ≤ i
      · by_cases hB1 : hi ≤ i
        · skip
          have e : MNY (k + 1 + 1) lo hi i j = 1 := by rw [MNY, if_neg hA, if_pos hB]
          have e' : (MAD (k + 1 + 1) lo hi i x (p.drop a)).1 = p.getD a [] := by rw [MAD, if_pos (by omega)]; exact drop_head p a
          rw [e, e']
          rw [e] at ham
          have A := hideIt (reb2 T cp a lo hi vp p w (rp.past ho) (by omega) (by omega) hbT (fun h => by have : cp < w0.heap.size := World.block_lt_of_cell? w0 _ hcp; omega) (cell_past hcp ho))
          obtain ⟨Y, hY⟩ : ∃ Y, Y = p.getD a [] := ⟨_, rfl⟩
          rw [← hY] at A ⊢
          have d1 : decide (i ≤ lo) = false := decide_eq_false (by omega)
          have d1' : decide ((i : Int) ≤ (lo : Int)) = false := decide_eq_false (by omega)
          have d3 : decide (x0 < i) = true := decide_eq_true (by omega)
          have d3' : decide ((x0 : Int) < (i : Int)) = true := decide_eq_true (by omega)
          have hxb : (x0 : Int) ≤ 1000000000 := by omega
          have hlb : (lo : Int) ≤ 1000000000 := by omega
          have hhb : (hi : Int) ≤ 1000000000 := by omega
          clear ih hlt hk hh hxx hA HW e ham ho hbT x8 p8 hx hpl hx0 hj rx rp hcl hci hcp hT n0 n1 n2 n3 n4 n5 e' hB hB1 hY
          go_enter Try.func34, Try.ntmps34
          go_wp2_with fail
          refine A.out.mono ?_
          rintro e w1 ⟨v1, rfl, r1⟩
          have F := hideIt r1
          obtain ⟨ao1, cap1, e1⟩ := r1.1.len
          subst e1
          clear A r1
          go_wp2
          go_ret
          exact ⟨_, rfl, F.out⟩
        · skip
          have e : MNY (k + 1 + 1) lo hi i j = 1 := by rw [MNY, if_neg hA, if_pos hB]
          have e' : (MAD (k + 1 + 1) lo hi i x (p.drop a)).1 = p.getD a [] := by rw [MAD, if_pos (by omega)]; exact drop_head p a
          rw [e, e']
          rw [e] at ham
          have A := hideIt (reb2 T cp a lo hi vp p w (rp.past ho) (by omega) (by omega) hbT (fun h => by have : cp < w0.heap.size := World.block_lt_of_cell? w0 _ hcp; omega) (cell_past hcp ho))
          obtain ⟨Y, hY⟩ : ∃ Y, Y = p.getD a [] := ⟨_, rfl⟩
          rw [← hY] at A ⊢
          have d1 : decide (i ≤ lo) = true := decide_eq_true (by omega)
          have d1' : decide ((i : Int) ≤ (lo : Int)) = true := decide_eq_true (by omega)
          have d2 : decide (x0 ≤ j) = false := decide_eq_false (by omega)
          have d2' : decide ((x0 : Int) ≤ (j : Int)) = false := decide_eq_false (by omega)
          have d3 : decide (x0 < i) = false := decide_eq_false (by omega)
          have d3' : decide ((x0 : Int) < (i : Int)) = false := decide_eq_false (by omega)
          have d4 : decide (j < lo) = true := decide_eq_true (by omega)
          have d4' : decide ((j : Int) < (lo : Int)) = true := decide_eq_true (by omega)
          have hxb : (x0 : Int) ≤ 1000000000 := by omega
          have hlb : (lo : Int) ≤ 1000000000 := by omega
          have hhb : (hi : Int) ≤ 1000000000 := by omega
          clear ih hlt hk hh hxx hA HW e ham ho hbT x8 p8 hx hpl hx0 hj rx rp hcl hci hcp hT n0 n1 n2 n3 n4 n5 e' hB hB1 hY
          go_enter Try.func34, Try.ntmps34
          go_wp2_with fail
          refine A.out.mono ?_
          rintro e w1 ⟨v1, rfl, r1⟩
          have F := hideIt r1
          obtain ⟨ao1, cap1, e1⟩ := r1.1.len
          subst e1
          clear A r1
          go_wp2
          go_ret
          exact ⟨_, rfl, F.out⟩
      · have h3 := part_two hlt hA hB
        by_cases hC : i ≤ lo
        · skip
          obtain ⟨n, hn⟩ : ∃ n, n = hi - lo := ⟨_, rfl⟩
          obtain ⟨q, hq⟩ : ∃ q, q = HALF n := ⟨_, rfl⟩
          have q1 := HALF_pos n
          have q2 := HALF_lt (n := n) (by omega)
          rw [← hq] at q1 q2
          obtain ⟨m, hm⟩ : ∃ m, m = lo + q := ⟨_, rfl⟩
          have es : (hi : Int) - (lo : Int) = (n : Int) := by omega
          have em : (lo : Int) + (q : Int) = (m : Int) := by omega
          have AL := hideIt (fun (W : World) => mleft_any n (by omega) (by omega) W)
          rw [← hq] at AL
          have e : MNY (k + 1 + 1) lo hi i j = MNY (k + 1) lo m i j + MNY (k + 1) m hi i j := by rw [MNY, if_neg hA, if_neg hB, hm, hq, hn]
          have u1 := MAD_used (f := k + 1) (lo := lo) (hi := m) (i := i) (x := x) (p := p) a hx0 (by omega) (by omega)
          rw [← hj] at u1
          have e' : (MAD (k + 1 + 1) lo hi i x (p.drop a)).1 = NODE (MAD (k + 1) lo m i x (p.drop a)).1 (MAD (k + 1) m hi i x (p.drop (a + MNY (k + 1) lo m i j))).1 := by
            rw [MAD, if_neg (by omega), if_neg (by omega), ← hn, ← hq, ← hm, u1]
          rw [e, e']
          rw [e] at ham
          have g1 := MAD_r8 (k + 1) lo m i x (p.drop a) x8 (p8.drop _)
          have g2 := MAD_r8 (k + 1) m hi i x (p.drop (a + MNY (k + 1) lo m i j)) x8 (p8.drop _)
          have T1 := hideIt (fun (W : World) (o : Only (fun k => k = T) w W) (b : Blk W T 3 [.int .i64 (a : Int)]) => ih lo m a W (by omega) (by omega) (by omega) (by omega) (ho.trans o (fun i hi e => by omega)) b (HW.out.keep o n0 n1 n2 n3 n4 n5))
          have T2 := hideIt (fun (W : World) (o : Only (fun k => k = T) w W) (b : Blk W T 3 [.int .i64 ((a + MNY (k + 1) lo m i j : Nat) : Int)]) => ih m hi (a + MNY (k + 1) lo m i j) W (by omega) (by omega) (by omega) (by omega) (ho.trans o (fun i hi e => by omega)) b (HW.out.keep o n0 n1 n2 n3 n4 n5))
          have T3 := hideIt (fun (vl vr : Value) (W : World) (hb : Bs .u8 W vl (MAD (k + 1) lo m i x (p.drop a)).1) (hr : Bs .u8 W vr (MAD (k + 1) m hi i x (p.drop (a + MNY (k + 1) lo m i j))).1) => node_any vl vr _ _ W hb hr g1.1 g2.1 g1.2 g2.2)
          rw [← Nat.add_assoc]
          obtain ⟨Y, hY⟩ : ∃ Y, Y = (MAD (k + 1) lo m i x (p.drop a)).1 := ⟨_, rfl⟩
          obtain ⟨Z, hZ⟩ : ∃ Z, Z = (MAD (k + 1) m hi i x (p.drop (a + MNY (k + 1) lo m i j))).1 := ⟨_, rfl⟩
          obtain ⟨a1, ha1⟩ : ∃ a1, a1 = a + MNY (k + 1) lo m i j := ⟨_, rfl⟩
          obtain ⟨a2, ha2⟩ : ∃ a2, a2 = a1 + MNY (k + 1) m hi i j := ⟨_, rfl⟩
          rw [← ha1] at hZ T2 T3
          rw [← hY, ← hZ] at T3
          rw [← hY, ← ha1] at T1
          rw [← hZ, ← ha2] at T2
          rw [← hY, ← ha1, ← hZ, ← ha2]
          have hqb : (q : Int) ≤ 1000000000 := by omega
          have hmb : (m : Int) ≤ 1000000000 := by omega
          have hnb : (n : Int) ≤ 1000000000 := by omega
          have HB := hideIt hbT
          have N4 := hideIt n4
          have N5 := hideIt n5
          have d1 : decide (i ≤ lo) = true := decide_eq_true (by omega)
          have d1' : decide ((i : Int) ≤ (lo : Int)) = true := decide_eq_true (by omega)
          have d2 : decide (x0 ≤ j) = false := decide_eq_false (by omega)
          have d2' : decide ((x0 : Int) ≤ (j : Int)) = false := decide_eq_false (by omega)
          have d3 : decide (x0 < i) = false := decide_eq_false (by omega)
          have d3' : decide ((x0 : Int) < (i : Int)) = false := decide_eq_false (by omega)
          have d4 : decide (j < lo) = false := decide_eq_false (by omega)
          have d4' : decide ((j : Int) < (lo : Int)) = false := decide_eq_false (by omega)
          have hxb : (x0 : Int) ≤ 1000000000 := by omega
          have hlb : (lo : Int) ≤ 1000000000 := by omega
          have hhb : (hi : Int) ≤ 1000000000 := by omega
          clear ih hlt hk hh hxx hA HW e ham ho hbT x8 p8 hx hpl hx0 hj rx rp hcl hci hcp hT n0 n1 n2 n3 n4 n5 e' hB hC h3 hn hq hm hY hZ ha1 ha2 u1 g1 g2 q1 q2
          go_enter Try.func34, Try.ntmps34
          go_wp2_with fail
          refine (AL.out _).mono ?_
          rintro e w1 ⟨rfl, rfl⟩
          clear AL
          go_wp2_with fail
          go_region_held3 (fun W => W.cell? ⟨b4, 0, none⟩ = some (.func (.func 11) #[] #[]) ∧ W.cell? ⟨b5, 0, none⟩ = some (.func (.func 34) #[] #[.pointer (some ⟨b0, 0, none⟩), .pointer (some ⟨b1, 0, none⟩), .pointer (some ⟨b2, 0, none⟩), .pointer (some ⟨b3, 0, none⟩), .pointer (some ⟨b4, 0, none⟩), .pointer (some ⟨b5, 0, none⟩)])) (go_keep) (first | (go_at_call 34; refine (T1.out _ ((Only.refl _ _).drew) HB.out.drew).mono ?_; rintro e w1 ⟨v1, rfl, r1, r2, r3, o1⟩; have O1 := hideIt (((Only.refl (fun k => k = T) w).drew).trans o1 (fun _ _ f => f)); have k4 := cell_keep c4 O1.out N4.out; have k5 := cell_keep c5 O1.out N5.out; have B1 := hideIt r1; have K1 := hideIt r3; obtain ⟨ao1, cap1, e1⟩ := r1.len; subst e1; clear o1 T1 r1 r2 r3 HB) | (go_at_call 34; refine (T2.out _ O1.out K1.out).mono ?_; rintro e w2 ⟨v2, rfl, r1, r2, r3, o2⟩; have O2 := hideIt (O1.out.trans o2 (fun _ _ f => f)); have k4' := cell_keep c4 O2.out N4.out; have k5' := cell_keep c5 O2.out N5.out; have B2 := hideIt r1; have K2 := hideIt r3; have B1' := hideIt (B1.out.keepE o2 (fun hx => Bs.off_num K1.out B1.out hx)); obtain ⟨ao2, cap2, e2⟩ := r1.len; subst e2; clear o2 T2 r1 r2 r3 B1 K1) | (go_at_call 11; refine (T3.out _ _ _ B1'.out B2.out).mono ?_; rintro e w3 ⟨v3, rfl, own3, o3⟩; have F : Hid (Bs .u8 w3 v3 (NODE Y Z) ∧ NoCap v3 ∧ Blk w3 T 3 [.int .i64 (a2 : Int)] ∧ Only (fun k => k = T) w w3) := ⟨own_bs own3, NoCap.of_own own3, K2.out.past o3, O2.out.trans o3 (fun _ _ f => f.elim)⟩; obtain ⟨ao3, cap3, e3⟩ := own_form own3; subst e3; have k6 := cell_past k4' o3; have k7 := cell_past k5' o3; clear T3 own3 o3))
          go_wp2
          go_ret
          exact ⟨_, rfl, F.out⟩
        · skip
          obtain ⟨n, hn⟩ : ∃ n, n = hi - lo := ⟨_, rfl⟩
          obtain ⟨q, hq⟩ : ∃ q, q = HALF n := ⟨_, rfl⟩
          have q1 := HALF_pos n
          have q2 := HALF_lt (n := n) (by omega)
          rw [← hq] at q1 q2
          obtain ⟨m, hm⟩ : ∃ m, m = lo + q := ⟨_, rfl⟩
          have es : (hi : Int) - (lo : Int) = (n : Int) := by omega
          have em : (lo : Int) + (q : Int) = (m : Int) := by omega
          have AL := hideIt (fun (W : World) => mleft_any n (by omega) (by omega) W)
          rw [← hq] at AL
          have e : MNY (k + 1 + 1) lo hi i j = MNY (k + 1) lo m i j + MNY (k + 1) m hi i j := by rw [MNY, if_neg hA, if_neg hB, hm, hq, hn]
          have u1 := MAD_used (f := k + 1) (lo := lo) (hi := m) (i := i) (x := x) (p := p) a hx0 (by omega) (by omega)
          rw [← hj] at u1
          have e' : (MAD (k + 1 + 1) lo hi i x (p.drop a)).1 = NODE (MAD (k + 1) lo m i x (p.drop a)).1 (MAD (k + 1) m hi i x (p.drop (a + MNY (k + 1) lo m i j))).1 := by
            rw [MAD, if_neg (by omega), if_neg (by omega), ← hn, ← hq, ← hm, u1]
          rw [e, e']
          rw [e] at ham
          have g1 := MAD_r8 (k + 1) lo m i x (p.drop a) x8 (p8.drop _)
          have g2 := MAD_r8 (k + 1) m hi i x (p.drop (a + MNY (k + 1) lo m i j)) x8 (p8.drop _)
          have T1 := hideIt (fun (W : World) (o : Only (fun k => k = T) w W) (b : Blk W T 3 [.int .i64 (a : Int)]) => ih lo m a W (by omega) (by omega) (by omega) (by omega) (ho.trans o (fun i hi e => by omega)) b (HW.out.keep o n0 n1 n2 n3 n4 n5))
          have T2 := hideIt (fun (W : World) (o : Only (fun k => k = T) w W) (b : Blk W T 3 [.int .i64 ((a + MNY (k + 1) lo m i j : Nat) : Int)]) => ih m hi (a + MNY (k + 1) lo m i j) W (by omega) (by omega) (by omega) (by omega) (ho.trans o (fun i hi e => by omega)) b (HW.out.keep o n0 n1 n2 n3 n4 n5))
          have T3 := hideIt (fun (vl vr : Value) (W : World) (hb : Bs .u8 W vl (MAD (k + 1) lo m i x (p.drop a)).1) (hr : Bs .u8 W vr (MAD (k + 1) m hi i x (p.drop (a + MNY (k + 1) lo m i j))).1) => node_any vl vr _ _ W hb hr g1.1 g2.1 g1.2 g2.2)
          rw [← Nat.add_assoc]
          obtain ⟨Y, hY⟩ : ∃ Y, Y = (MAD (k + 1) lo m i x (p.drop a)).1 := ⟨_, rfl⟩
          obtain ⟨Z, hZ⟩ : ∃ Z, Z = (MAD (k + 1) m hi i x (p.drop (a + MNY (k + 1) lo m i j))).1 := ⟨_, rfl⟩
          obtain ⟨a1, ha1⟩ : ∃ a1, a1 = a + MNY (k + 1) lo m i j := ⟨_, rfl⟩
          obtain ⟨a2, ha2⟩ : ∃ a2, a2 = a1 + MNY (k + 1) m hi i j := ⟨_, rfl⟩
          rw [← ha1] at hZ T2 T3
          rw [← hY, ← hZ] at T3
          rw [← hY, ← ha1] at T1
          rw [← hZ, ← ha2] at T2
          rw [← hY, ← ha1, ← hZ, ← ha2]
          have hqb : (q : Int) ≤ 1000000000 := by omega
          have hmb : (m : Int) ≤ 1000000000 := by omega
          have hnb : (n : Int) ≤ 1000000000 := by omega
          have HB := hideIt hbT
          have N4 := hideIt n4
          have N5 := hideIt n5
          have d1 : decide (i ≤ lo) = false := decide_eq_false (by omega)
          have d1' : decide ((i : Int) ≤ (lo : Int)) = false := decide_eq_false (by omega)
          have d3 : decide (x0 < i) = false := decide_eq_false (by omega)
          have d3' : decide ((x0 : Int) < (i : Int)) = false := decide_eq_false (by omega)
          have d4 : decide (j < lo) = false := decide_eq_false (by omega)
          have d4' : decide ((j : Int) < (lo : Int)) = false := decide_eq_false (by omega)
          have hxb : (x0 : Int) ≤ 1000000000 := by omega
          have hlb : (lo : Int) ≤ 1000000000 := by omega
          have hhb : (hi : Int) ≤ 1000000000 := by omega
          clear ih hlt hk hh hxx hA HW e ham ho hbT x8 p8 hx hpl hx0 hj rx rp hcl hci hcp hT n0 n1 n2 n3 n4 n5 e' hB hC h3 hn hq hm hY hZ ha1 ha2 u1 g1 g2 q1 q2
          go_enter Try.func34, Try.ntmps34
          go_wp2_with fail
          refine (AL.out _).mono ?_
          rintro e w1 ⟨rfl, rfl⟩
          clear AL
          go_wp2_with fail
          go_region_held3 (fun W => W.cell? ⟨b4, 0, none⟩ = some (.func (.func 11) #[] #[]) ∧ W.cell? ⟨b5, 0, none⟩ = some (.func (.func 34) #[] #[.pointer (some ⟨b0, 0, none⟩), .pointer (some ⟨b1, 0, none⟩), .pointer (some ⟨b2, 0, none⟩), .pointer (some ⟨b3, 0, none⟩), .pointer (some ⟨b4, 0, none⟩), .pointer (some ⟨b5, 0, none⟩)])) (go_keep) (first | (go_at_call 34; refine (T1.out _ ((Only.refl _ _).drew) HB.out.drew).mono ?_; rintro e w1 ⟨v1, rfl, r1, r2, r3, o1⟩; have O1 := hideIt (((Only.refl (fun k => k = T) w).drew).trans o1 (fun _ _ f => f)); have k4 := cell_keep c4 O1.out N4.out; have k5 := cell_keep c5 O1.out N5.out; have B1 := hideIt r1; have K1 := hideIt r3; obtain ⟨ao1, cap1, e1⟩ := r1.len; subst e1; clear o1 T1 r1 r2 r3 HB) | (go_at_call 34; refine (T2.out _ O1.out K1.out).mono ?_; rintro e w2 ⟨v2, rfl, r1, r2, r3, o2⟩; have O2 := hideIt (O1.out.trans o2 (fun _ _ f => f)); have k4' := cell_keep c4 O2.out N4.out; have k5' := cell_keep c5 O2.out N5.out; have B2 := hideIt r1; have K2 := hideIt r3; have B1' := hideIt (B1.out.keepE o2 (fun hx => Bs.off_num K1.out B1.out hx)); obtain ⟨ao2, cap2, e2⟩ := r1.len; subst e2; clear o2 T2 r1 r2 r3 B1 K1) | (go_at_call 11; refine (T3.out _ _ _ B1'.out B2.out).mono ?_; rintro e w3 ⟨v3, rfl, own3, o3⟩; have F : Hid (Bs .u8 w3 v3 (NODE Y Z) ∧ NoCap v3 ∧ Blk w3 T 3 [.int .i64 (a2 : Int)] ∧ Only (fun k => k = T) w w3) := ⟨own_bs own3, NoCap.of_own own3, K2.out.past o3, O2.out.trans o3 (fun _ _ f => f.elim)⟩; obtain ⟨ao3, cap3, e3⟩ := own_form own3; subst e3; have k6 := cell_past k4' o3; have k7 := cell_past k5' o3; clear T3 own3 o3))
          go_wp2
          go_ret
          exact ⟨_, rfl, F.out⟩
end Go.Proofs.Ytnifflnhbpfmnab
