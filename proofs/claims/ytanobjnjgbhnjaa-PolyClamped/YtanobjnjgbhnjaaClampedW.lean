/- The statement PolyClamped: the walk. -/
import Derived.Test.YtanobjnjgbhnjaaZo
namespace Go.Proofs.Ytanobjnjgbhnjaa
open Go.RowKit

theorem own_setB {w : World} {lo g n cap : Nat} {s : List Int} (h : w.ownsRow lo 5 1 (.slice (some ⟨g, 0, none⟩) n cap) n (bl s)) (i : Nat) (x : Int) : (w.setCell ⟨g, i, none⟩ (.int .u8 x)).ownsRow lo 5 1 (.slice (some ⟨g, 0, none⟩) n cap) n (bl (s.set i x)) := by
  have := (h.stored i (.int .u8 x)).1
  rwa [bl_set] at this
theorem own_cellB {w : World} {lo g n cap : Nat} {s : List Int} (h : w.ownsRow lo 5 1 (.slice (some ⟨g, 0, none⟩) n cap) n (bl s)) (hs : s.length = n) (i : Nat) (hi : i < n) : w.cell? ⟨g, i, none⟩ = some (.int .u8 (s.getD i 0)) := by
  have hb : Bs .u8 w (.slice (some ⟨g, 0, none⟩) n cap) s := Bs.of_own (k := .u8) (E := 5) (lo := lo) (by rw [hs]; exact h)
  obtain ⟨b, off, c, e, hc⟩ := hb.at i (by omega)
  simp at e
  obtain ⟨⟨rfl, rfl⟩, _⟩ := e
  rwa [Nat.zero_add] at hc
theorem turn_bits (x : Int) (b k : Nat) (hx : 0 ≤ x ∧ x ≤ 255) (hb : b ≤ 255) (hk : k ≤ 255) : bits .and .u8 (b : Int) (k : Int) = ((b &&& k : Nat) : Int) ∧ bits .xor .u8 x ((b &&& k : Nat) : Int) = ((x.toNat ^^^ (b &&& k) : Nat) : Int) := by
  have h1 : b &&& k ≤ 255 := Nat.le_trans Nat.and_le_right hk
  obtain ⟨n, rfl⟩ := Int.eq_ofNat_of_zero_le hx.1
  refine ⟨u8_and_nat b k (by omega) (by omega), ?_⟩
  rw [show ((n : Nat) : Int).toNat = n from rfl]
  exact u8_xor_nat n (b &&& k) (by omega) (by omega)
set_option maxHeartbeats 3200000 in
set_option maxRecDepth 100000 in
theorem clamped_walk (vr vs vb : Value) (r s xs : List Int) (t : Nat) (t8 : t ≤ 255) (r8 : U8 r) (s8 : U8 s) (x8 : U8 xs) (w : World) (br : Bs .u8 w vr r) (bs : Bs .u8 w vs s) (bb : Bs .u8 w vb xs) (nr : NoCap vr) (ns : NoCap vs) :
    Calls Try.prog 5 #[vr, vs, vb, .int .u8 t] w fun e w' => e = .returned (.bool true) ∧ Below w.heap.size w w' := by
  have A := hideIt (awake_any w)
  obtain ⟨ro, rc, rfl⟩ := br.len
  obtain ⟨so, sc, rfl⟩ := bs.len
  obtain ⟨bo, bc, rfl⟩ := bb.len
  obtain ⟨p, hp⟩ : ∃ p, p = r.length := ⟨_, rfl⟩
  obtain ⟨q, hq⟩ : ∃ q, q = s.length := ⟨_, rfl⟩
  obtain ⟨n, hn⟩ : ∃ n, n = xs.length := ⟨_, rfl⟩
  rw [← hp] at br nr ⊢
  rw [← hq] at bs ns ⊢
  rw [← hn] at bb ⊢
  by_cases h1 : p = 16
  · by_cases h2 : q = 16
    · by_cases h3 : 600 < n
      · have d1 : ((p : Int) != 16) = false := by simp; omega
        have d2 : ((q : Int) != 16) = false := by simp; omega
        have d3 : (600 : Int) < (n : Int) := by omega
        clear br bs bb nr ns r8 s8 x8 hp hq hn
        go_enter Try.func5, Try.ntmps5
        go_wp2_with fail
        refine A.out.mono ?_
        rintro e w1 ⟨rfl, o1⟩
        have O1 := hideIt o1
        clear o1 A
        go_wp2
        go_ret
        exact ⟨rfl, O1.out.low (Nat.le_refl _)⟩
      · subst h1
        subst h2
        have HR := hideIt (And.intro br (And.intro nr (And.intro r8 hp.symm)))
        have HS := hideIt (And.intro bs (And.intro ns (And.intro s8 hq.symm)))
        obtain ⟨m, hm⟩ : ∃ m, m = n := ⟨_, rfl⟩
        rw [← hm] at bb hn h3 ⊢
        have HX := hideIt (And.intro bb (And.intro x8 (And.intro hn (show m ≤ 600 by omega))))
        have HT8 := hideIt t8
        obtain ⟨j0, hj, y0, y1, y2⟩ := info_parts Try.infoU8
        have d3 : ¬ (600 : Int) < (m : Int) := by omega
        have MO : Hid (ME (r ++ s) = 0 ∧ ME (t2 r t 3 ++ s) = 0 ∧ (∀ m, MT (r ++ s) m = TAG (r ++ s) m) ∧ (∀ m, MT (t2 r t 3 ++ s) m = TAG (t2 r t 3 ++ s) m)) := by
          have l1 : (r ++ s).length = 32 := by rw [List.length_append, ← hp, ← hq]
          have l2 : (t2 r t 3 ++ s).length = 32 := by rw [List.length_append, t2_len, ← hp, ← hq]
          exact ⟨if_pos l1, if_pos l2, fun _ => if_pos l1, fun _ => if_pos l2⟩
        clear br bs bb nr ns r8 s8 x8 hp hq hn hm t8
        go_enter Try.func5, Try.ntmps5
        go_wp2_with fail
        refine A.out.mono ?_
        rintro e w0 ⟨rfl, o0⟩
        have O0 := hideIt o0
        have BR0 := hideIt (fun (W : World) (o : Only (fun _ => False) w0 W) => HR.out.1.past (O0.out.same o))
        clear o0 A
        go_wp2_with (first | (at_builtin; refine wpList_append_bs _ rfl _ _ 22 rfl w0.heap.size 5 j0 (.int .u8 0) 1 Try.underlying22 hj y0 y1 y2 rfl (.slice (some ⟨w0.heap.size, 0, none⟩) 0 0) 0 (bl []) rfl (made0 w0) .u8 (.slice ro 16 rc) r rfl (BR0.out _ ((Only.refl _ _).alloc _)) HR.out.2.1 (by rw [HR.out.2.2.2]; unfold maxLen; omega) (by rw [HR.out.2.2.2]; omega) (by rw [size_alloc]; omega) ?_; intro v1 w1 own1 gr1 hnilx hobx; clear hnilx hobx))
        have own1c := own_two (a := []) (b := r) (n := 0) (m := 16) rfl HR.out.2.2.2 (by have h := own1; rw [HR.out.2.2.2] at h; exact h)
        have o1 : Only (fun _ => False) w0 w1 := grown_only gr1
        obtain ⟨g, cap, rfl, hg⟩ := own_someB own1c.1 (by decide)
        have L11 : Hid (w1.ownsRow w0.heap.size 5 1 (.slice (some ⟨g, 0, none⟩) 16 cap) 16 (bl (t1 r t 0)) ∧ Only (fun _ => False) w0 w1) := ⟨own1c.1, o1⟩
        have HG := hideIt hg
        clear own1 gr1 own1c o1 hg BR0
        go_loopw [11] (fun i wr => ∃ n : Nat, n ≤ 4 ∧ i = .int .i64 (4 * n + 3 : Nat) ∧ wr.ownsRow w0.heap.size 5 1 (.slice (some ⟨g, 0, none⟩) 16 cap) 16 (bl (t1 r t n)) ∧ Only (fun _ => False) w0 wr) (fun i _ => 20 - (intOf i).toNat)
        case atStart => exact ⟨0, by omega, rfl, L11.out⟩
        case round =>
          obtain ⟨n, hn, rfl, k1, k2⟩ := hrel
          clear L11
          obtain ⟨p, hp⟩ : ∃ p, p = 4 * n + 3 := ⟨_, rfl⟩
          rw [← hp]
          by_cases hlt : n < 4
          · have hu := t1_u8 r HR.out.2.2.1 t n
            have hc := own_cellB k1 (by rw [t1_len, HR.out.2.2.2]) p (by omega)
            have hf := k1.frozenAt p
            have hx8 := hu.at p
            have hsn : (t1 r t n).set (4 * n + 3) ((((t1 r t n).getD (4 * n + 3) 0).toNat ^^^ (t &&& 240) : Nat) : Int) = t1 r t (n + 1) := rfl
            rw [← hp] at hsn
            obtain ⟨x, hx⟩ : ∃ x, x = (t1 r t n).getD p 0 := ⟨_, rfl⟩
            rw [← hx] at hc hsn hx8
            obtain ⟨e1, e2⟩ := turn_bits x t 240 hx8 HT8.out (by decide)
            obtain ⟨z, hz⟩ : ∃ z, z = t &&& 240 := ⟨_, rfl⟩
            obtain ⟨y, hy⟩ : ∃ y, y = x.toNat ^^^ z := ⟨_, rfl⟩
            rw [← hz] at e1 e2 hsn
            rw [← hy] at e2 hsn
            have e1' : bits .and .u8 (t : Int) 240 = (z : Int) := e1
            have N1 : Hid ((wr.setCell ⟨g, p, none⟩ (.int .u8 (y : Int))).ownsRow w0.heap.size 5 1 (.slice (some ⟨g, 0, none⟩) 16 cap) 16 (bl (t1 r t (n + 1))) ∧ Only (fun _ => False) w0 (wr.setCell ⟨g, p, none⟩ (.int .u8 (y : Int)))) := by
              refine ⟨?_, k2.setCell (p := ⟨g, p, none⟩) (fun hlt => absurd hlt (by have := HG.out; simp; omega)) _⟩
              rw [← hsn]
              exact own_setB k1 p (y : Int)
            have i1 : (p : Int) < 16 := by omega
            have HP := hideIt hp
            clear k1 k2 hu hsn hx hp hy hz e1
            go_wp2
            go_roundw
            case rel =>
              have hp := HP.out
              exact ⟨n + 1, by omega, by go_num, N1.out⟩
            case measure => simp [intOf]; omega
          · obtain rfl : n = 4 := by omega
            have i1 : ¬ (p : Int) < 16 := by omega
            have L12 : Hid (wr.ownsRow w0.heap.size 5 1 (.slice (some ⟨g, 0, none⟩) 16 cap) 16 (bl (t2 r t 0)) ∧ Only (fun _ => False) w0 wr) := ⟨k1, k2⟩
            clear k1 k2 hp
            go_wp2
            go_loopw [12] (fun i wr => ∃ n : Nat, n ≤ 3 ∧ i = .int .i64 (4 * n + 4 : Nat) ∧ wr.ownsRow w0.heap.size 5 1 (.slice (some ⟨g, 0, none⟩) 16 cap) 16 (bl (t2 r t n)) ∧ Only (fun _ => False) w0 wr) (fun i _ => 20 - (intOf i).toNat)
            case atStart => exact ⟨0, by omega, rfl, L12.out⟩
            case round =>
              obtain ⟨n, hn, rfl, k1, k2⟩ := hrel
              clear L12
              obtain ⟨p, hp⟩ : ∃ p, p = 4 * n + 4 := ⟨_, rfl⟩
              rw [← hp]
              by_cases hlt : n < 3
              · have hu := t2_u8 r HR.out.2.2.1 t n
                have hc := own_cellB k1 (by rw [t2_len, HR.out.2.2.2]) p (by omega)
                have hf := k1.frozenAt p
                have hx8 := hu.at p
                have hsn : (t2 r t n).set (4 * n + 4) ((((t2 r t n).getD (4 * n + 4) 0).toNat ^^^ (t &&& 3) : Nat) : Int) = t2 r t (n + 1) := rfl
                rw [← hp] at hsn
                obtain ⟨x, hx⟩ : ∃ x, x = (t2 r t n).getD p 0 := ⟨_, rfl⟩
                rw [← hx] at hc hsn hx8
                obtain ⟨e1, e2⟩ := turn_bits x t 3 hx8 HT8.out (by decide)
                obtain ⟨z, hz⟩ : ∃ z, z = t &&& 3 := ⟨_, rfl⟩
                obtain ⟨y, hy⟩ : ∃ y, y = x.toNat ^^^ z := ⟨_, rfl⟩
                rw [← hz] at e1 e2 hsn
                rw [← hy] at e2 hsn
                have e1' : bits .and .u8 (t : Int) 3 = (z : Int) := e1
                have N1 : Hid ((wr.setCell ⟨g, p, none⟩ (.int .u8 (y : Int))).ownsRow w0.heap.size 5 1 (.slice (some ⟨g, 0, none⟩) 16 cap) 16 (bl (t2 r t (n + 1))) ∧ Only (fun _ => False) w0 (wr.setCell ⟨g, p, none⟩ (.int .u8 (y : Int)))) := by
                  refine ⟨?_, k2.setCell (p := ⟨g, p, none⟩) (fun hlt => absurd hlt (by have := HG.out; simp; omega)) _⟩
                  rw [← hsn]
                  exact own_setB k1 p (y : Int)
                have i1 : (p : Int) < 16 := by omega
                have HP := hideIt hp
                clear k1 k2 hu hsn hx hp hy hz e1
                go_wp2
                go_roundw
                case rel =>
                  have hp := HP.out
                  exact ⟨n + 1, by omega, by go_num, N1.out⟩
                case measure => simp [intOf]; omega
              · obtain rfl : n = 3 := by omega
                have i1 : ¬ (p : Int) < 16 := by omega
                have HOW := hideIt (And.intro k1 k2)
                have OX := hideIt (O0.out.same k2)
                have BR1 := hideIt (fun (W : World) (o : Only (fun _ => False) wr W) => HR.out.1.past (OX.out.same o))
                have BS1 := hideIt (fun (W : World) (o : Only (fun _ => False) wr W) => HS.out.1.past (OX.out.same o))
                clear k1 k2 hp
                obtain ⟨W1, hW1⟩ : ∃ W1, W1 = wr := ⟨_, rfl⟩
                rw [← hW1] at HOW OX BR1 BS1 ⊢
                clear hW1
                go_wp2_with (first | (at_builtin; refine wpList_append_bs _ rfl _ _ 22 rfl W1.heap.size 5 j0 (.int .u8 0) 1 Try.underlying22 hj y0 y1 y2 rfl (.slice (some ⟨W1.heap.size, 0, none⟩) 0 0) 0 (bl []) rfl (made0 W1) .u8 (.slice ro 16 rc) r rfl (BR1.out _ ((Only.refl _ _).alloc _)) HR.out.2.1 (by rw [HR.out.2.2.2]; unfold maxLen; omega) (by rw [HR.out.2.2.2]; omega) (by rw [size_alloc]; omega) ?_; intro v2a w2a own2a gr2a hnilx hobx; clear hnilx hobx) | (at_builtin; (have own2b := own_two (a := []) rfl HR.out.2.2.2 (by have h := own2a; rw [HR.out.2.2.2] at h; exact h)); refine wpList_append_bs _ rfl _ _ 22 rfl W1.heap.size 5 j0 (.int .u8 0) 1 Try.underlying22 hj y0 y1 y2 rfl v2a 16 (bl r) rfl own2b.1 .u8 (.slice so 16 sc) s rfl (BS1.out _ (grown_only gr2a)) HS.out.2.1 (by rw [HS.out.2.2.2]; unfold maxLen; omega) (by rw [HS.out.2.2.2]; omega) (grown_only gr2a).size ?_; intro v2 w2 own2 gr2 hnilx hobx; clear hnilx hobx))
                have own2c := own_two (a := r) (b := s) HR.out.2.2.2 HS.out.2.2.2 (by have h := own2; rw [HS.out.2.2.2] at h; exact h)
                have o2 : Only (fun _ => False) W1 w2 := grown_own (grown_only gr2a) own2b.1 (Nat.le_refl _) gr2
                have P1 := hideIt (mac_ok v2 (.slice bo m bc) (r ++ s) xs (by rw [List.length_append, HR.out.2.2.2, HS.out.2.2.2]) (HR.out.2.2.1.app HS.out.2.2.1) HX.out.2.1 (by have := HX.out.2.2; omega) w2 own2c.2 (HX.out.1.past (OX.out.same o2)))
                have O2 := hideIt (OX.out.same o2)
                have HOW2 := hideIt (And.intro (o2.own HOW.out.1 (fun _ _ f => f)) (HOW.out.2.same o2))
                clear own2a gr2a own2b own2 gr2 own2c o2 BR1 BS1 HOW OX
                refine P1.out.mono ?_
                rintro e w3 ⟨v3, rfl, own3, o3⟩
                have B3 : Hid (Bs .u8 w3 v3 (TAG (r ++ s) xs) ∧ ∀ b, v3.ownBlock = some b → ¬ b = g) := by
                  refine ⟨Bs.of_own (k := .u8) (E := 5) (lo := w2.heap.size) (by rw [TAG_len]; exact own3), fun b hb e => ?_⟩
                  have h1 := (own3.lt b hb).1
                  have h2 := (HOW2.out.1.lt g rfl).2
                  omega
                have O3 := hideIt (O2.out.same o3)
                have HOW3 := hideIt (And.intro (o3.own HOW2.out.1 (fun _ _ f => f)) (HOW2.out.2.same o3))
                have BS3 := hideIt (HS.out.1.past O3.out)
                have hsz3 := HOW3.out.2.size
                clear own3 o3 P1 O2 HOW2
                go_wp2_with (at_builtin; refine wpList_append_bs _ rfl _ _ 22 rfl w0.heap.size 5 j0 (.int .u8 0) 1 Try.underlying22 hj y0 y1 y2 rfl (.slice (some ⟨g, 0, none⟩) 16 cap) 16 (bl (t2 r t 3)) rfl HOW3.out.1 .u8 (.slice so 16 sc) s rfl BS3.out HS.out.2.1 (by rw [HS.out.2.2.2]; unfold maxLen; omega) (by rw [HS.out.2.2.2]; omega) hsz3 ?_; intro v4 w4 own4 gr4 hnilx hobx; clear hnilx hobx)
                have own4c := own_two (a := t2 r t 3) (b := s) (n := 16) (m := 16) (by rw [t2_len, HR.out.2.2.2]) HS.out.2.2.2 (by have h := own4; rw [HS.out.2.2.2] at h; exact h)
                have o4 : Only (fun _ => False) w w4 := O3.out.grown gr4 (fun k hk e => by have := (HOW3.out.1.lt k e).1; have := O0.out.size; omega)
                have P2 := hideIt (mac_any v4 (.slice bo m bc) (t2 r t 3 ++ s) xs ((t2_u8 r HR.out.2.2.1 t 3).app HS.out.2.2.1) HX.out.2.1 (by have := HX.out.2.2; omega) w4 own4c.2 (HX.out.1.past o4))
                rw [MO.out.2.1, MO.out.2.2.2, turned_tag r s xs HR.out.2.2.1 HR.out.2.2.2 t] at P2
                have O4 := hideIt o4
                have og : Only (fun k => k = g) w3 w4 := (Only.refl _ _).grown gr4 (fun k hk e => by simp [Value.ownBlock] at e; omega)
                have B4 := hideIt (B3.out.1.keep og (fun b hb e => B3.out.2 b hb e))
                clear own4 gr4 own4c o4 og B3 HOW3 BS3 hsz3 O3
                go_wp2_with fail
                refine P2.out.mono ?_
                rintro e w5 ⟨v5, rfl, b5, nc5, o5⟩
                have O5 := hideIt (O4.out.same o5)
                have S1 := hideIt (lsame_eq v3 v5 (TAG (r ++ s) xs) w5 (B4.out.past o5) b5 (by rw [TAG_len]; decide))
                clear b5 nc5 o5 P2 B4 O4
                go_wp2_with fail
                refine S1.out.mono ?_
                rintro e w6 ⟨rfl, o6⟩
                have O6 := hideIt (O5.out.same o6)
                clear o6 S1
                go_wp2
                go_ret
                exact ⟨rfl, O6.out.low (Nat.le_refl _)⟩
    · have d1 : ((p : Int) != 16) = false := by simp; omega
      have d2 : ((q : Int) != 16) = true := by simp; omega
      clear br bs bb nr ns r8 s8 x8 hp hq hn
      go_enter Try.func5, Try.ntmps5
      go_wp2_with fail
      refine A.out.mono ?_
      rintro e w1 ⟨rfl, o1⟩
      have O1 := hideIt o1
      clear o1 A
      go_wp2
      go_ret
      exact ⟨rfl, O1.out.low (Nat.le_refl _)⟩
  · have d1 : ((p : Int) != 16) = true := by simp; omega
    clear br bs bb nr ns r8 s8 x8 hp hq hn
    go_enter Try.func5, Try.ntmps5
    go_wp2_with fail
    refine A.out.mono ?_
    rintro e w1 ⟨rfl, o1⟩
    have O1 := hideIt o1
    clear o1 A
    go_wp2
    go_ret
    exact ⟨rfl, O1.out.low (Nat.le_refl _)⟩
theorem clamped_walkI (vr vs vb : Value) (r s xs : List Int) (c : Int) (hc : 0 ≤ c ∧ c ≤ 255) (r8 : U8 r) (s8 : U8 s) (x8 : U8 xs) (w : World) (br : Bs .u8 w vr r) (bs : Bs .u8 w vs s) (bb : Bs .u8 w vb xs) (nr : NoCap vr) (ns : NoCap vs) :
    Calls Try.prog 5 #[vr, vs, vb, .int .u8 c] w fun e w' => e = .returned (.bool true) ∧ Below w.heap.size w w' := by
  obtain ⟨n, rfl⟩ := Int.eq_ofNat_of_zero_le hc.1
  exact clamped_walk vr vs vb r s xs n (by omega) r8 s8 x8 w br bs bb nr ns
end Go.Proofs.Ytanobjnjgbhnjaa
