/- Several texts in one: Gd3, Vr11, Vd, Same, Same2, SameU, Aw11. -/
import Derived.Test.YtifbdjhbeanfaaaDoorG10
import Derived.Test.YtifbdjhbeanfaaaDoorG9
import Derived.Test.YtifbdjhbeanfaaaDoorG7
import Derived.Test.YtifbdjhbeanfaaaDoorProg
import Derived.Test.YtifbdjhbeanfaaaDoorG1

/- Package gorilla's Decode. -/
namespace Go.Proofs.YtifbdjhbeanfaaaDoor
open Go.RowKit

theorem readAll_all {w : World} {R : Nat} {v : Value} {ys : List Int} (h : RdAt 122 w R v ys 0) (hv : ∀ k, v.ownBlock = some k → k < w.heap.size) (N : Nat) (hN2 : N ≤ 65536) :
    Calls Tryd.prog 78 #[.pointer (some ⟨R, 0, none⟩), .int .i64 N] w fun e w' => ∃ u, e = .returned (.tuple #[u, .int .i64 (gRd (allBits ys) N).2]) ∧
      w'.ownsRow w.heap.size 38 1 u (gRd (allBits ys) N).1.length ((gRd (allBits ys) N).1.map (Value.int .u64)) ∧ Only (fun k => k = R) w w' := by
  by_cases h0 : N = 0
  · subst h0
    have e : gRd (allBits ys) 0 = ([], 0) := by unfold gRd; rw [if_pos rfl]
    rw [e]
    refine (readAll_nil R).mono ?_
    rintro e w' ⟨rfl, rfl⟩
    exact ⟨_, rfl, World.ownsRow_nil _ _ _ _, Only.refl _ _⟩
  · by_cases hs : (allBits ys).length < 64
    · have e : gRd (allBits ys) N = ([], 2) := by unfold gRd; rw [if_neg h0, if_pos hs]
      rw [e]
      refine (readAll_cut h N (by omega) hs).mono ?_
      rintro e w' ⟨rfl, o⟩
      exact ⟨_, rfl, World.ownsRow_nil _ _ _ _, o⟩
    · exact readAll_any h hv N (by omega) hN2 (by omega)
set_option maxHeartbeats 400000 in
theorem decode9_arg (v : Value) (n : Int) (w : World) (h : n < 0 ∨ 65536 < n) :
    Calls Tryd.prog 58 #[v, .int .i64 n] w fun e w' => e = .returned (.tuple #[.slice none 0 0, .int .i64 1]) ∧ w = w' := by
  by_cases h0 : n < 0
  · have d0 : decide (n < 0) = true := decide_eq_true h0
    clear h
    go_enter Tryd.func58, Tryd.ntmps58
    go_wp2
    go_ret2
    exact ⟨rfl, rfl⟩
  · have d0 : decide (n < 0) = false := decide_eq_false h0
    have d1 : decide (65536 < n) = true := decide_eq_true (by omega)
    clear h
    go_enter Tryd.func58, Tryd.ntmps58
    go_wp2
    go_ret2
    exact ⟨rfl, rfl⟩
set_option maxHeartbeats 1000000 in
theorem decode9_bs (v : Value) (ys : List Int) (N : Nat) (w : World) (h : Bs .u8 w v ys) (hr : ∀ y ∈ ys, 0 ≤ y ∧ y ≤ 255) (hl : ys.length ≤ 1000000000) (hN : N ≤ 65536) (hT : Tab w) :
    Calls Tryd.prog 58 #[v, .int .i64 N] w fun e w' => ∃ u, e = .returned (.tuple #[u, .int .i64 (DEC9 ys N).2]) ∧ w'.ownsRow w.heap.size 38 1 u (DEC9 ys N).1.length ((DEC9 ys N).1.map (Value.int .u64)) ∧ Only (fun _ => False) w w' := by
  obtain ⟨D, hD⟩ : ∃ D, D = DEC9 ys N := ⟨_, rfl⟩
  rw [← hD]
  unfold DEC9 at hD
  rw [if_neg (by omega), Int.toNat_natCast] at hD
  have d0 : decide ((N : Int) < 0) = false := by simp
  have d1 : decide (65536 < (N : Int)) = false := by simp; omega
  have HD := hideIt hD
  have HB := hideIt h
  have HR := hideIt hr
  have NR := hideIt (newReader_bs v ys w h hr (by omega))
  clear h hr hD
  go_enter Tryd.func58, Tryd.ntmps58
  go_wp2_with fail
  refine NR.out.mono ?_
  rintro e w1 ⟨R, v1, rfl, r1, o1, g1, g2, g3⟩
  have RA := hideIt (readAll_all r1 (fun k hk => (g3 k hk).2) N hN)
  have O1 := hideIt o1
  have S1 := o1.size
  clear NR r1 o1 g3
  go_wp2_with fail
  refine RA.out.mono ?_
  rintro e w2 ⟨u, rfl, own2, o2⟩
  have B2 := hideIt ((O1.out.low (Nat.le_refl _)).trans (o2.below (B := w.heap.size) S1 (fun k e => by omega)))
  have OW2 := hideIt (own_low own2 S1)
  clear RA o2 O1
  by_cases hb : (gRd (allBits ys) N).2 ≠ 0
  · have HD2 : Hid (D = ([], (gRd (allBits ys) N).2)) := by simp only [Hid]; rw [HD.out, if_pos hb]
    have dc : ((gRd (allBits ys) N).2 != 0) = true := by simpa using hb
    obtain ⟨c, hc⟩ : ∃ c, c = (gRd (allBits ys) N).2 := ⟨_, rfl⟩
    rw [← hc] at HD2 dc ⊢
    clear HD hb hc own2
    go_wp2
    go_ret2
    have hD := HD2.out
    subst hD
    exact ⟨_, rfl, World.ownsRow_nil _ _ _ _, only_of_below B2.out⟩
  · have hok := gRd_ok (l := allBits ys) (n := N) (by simpa using hb)
    have hz : (gRd (allBits ys) N).2 = 0 := by simpa using hb
    rw [hz]
    obtain ⟨L, hL⟩ : ∃ L, L = (gRd (allBits ys) N).1 := ⟨_, rfl⟩
    have HD2 : Hid (D = if (ENC9 L).1 = ys then (L, 0) else ([], 3)) := by simp only [Hid]; rw [HD.out, if_neg hb, ← hL]
    rw [← hL] at hok OW2
    have EN := hideIt (encode9_all u L w2 (Bs.of_own OW2.out) hok.1 (hT.below B2.out hT.pos))
    clear HD hb hz hL own2 hok
    obtain ⟨a6, c6, e6⟩ := (Bs.of_own OW2.out).len
    subst e6
    obtain ⟨m, hm⟩ : ∃ m, m = L.length := ⟨_, rfl⟩
    rw [← hm] at EN ⊢
    have HM := hideIt hm
    clear hm
    go_wp2_with fail
    refine EN.out.mono ?_
    rintro e w3 ⟨v3, rfl, own3, o3⟩
    have EQ := hideIt (equal_bs v3 v (ENC9 L).1 ys w3 (Bs.of_own own3) ((HB.out.later B2.out).past o3) (ENC9_rng L) HR.out)
    have O3 := hideIt ((only_of_below B2.out).same o3)
    have OW3 := hideIt (o3.own OW2.out (fun _ _ f => f))
    obtain ⟨a7, c7, e7⟩ := (Bs.of_own own3).len
    subst e7
    clear EN own3 o3 OW2
    generalize (ENC9 L).1 = E at *
    by_cases he : E = ys
    · rw [decide_eq_true he] at EQ
      have hD := HD2.out
      rw [if_pos he] at hD
      clear HD2 he
      have HD3 := hideIt hD
      clear hD
      obtain ⟨m2, hm2⟩ : ∃ m2, m2 = E.length := ⟨_, rfl⟩
      rw [← hm2] at EQ ⊢
      clear hm2
      go_wp2_with fail
      refine EQ.out.mono ?_
      rintro e w4 ⟨rfl, rfl⟩
      clear EQ
      go_wp2
      go_ret2
      have hD := HD3.out
      subst hD
      exact ⟨_, rfl, by have := OW3.out; rw [HM.out]; exact this, O3.out⟩
    · rw [decide_eq_false he] at EQ
      have hD := HD2.out
      rw [if_neg he] at hD
      clear HD2 he
      have HD3 := hideIt hD
      clear hD
      obtain ⟨m2, hm2⟩ : ∃ m2, m2 = E.length := ⟨_, rfl⟩
      rw [← hm2] at EQ ⊢
      clear hm2
      go_wp2_with fail
      refine EQ.out.mono ?_
      rintro e w4 ⟨rfl, rfl⟩
      clear EQ
      go_wp2
      go_ret2
      have hD := HD3.out
      subst hD
      exact ⟨_, rfl, World.ownsRow_nil _ _ _ _, O3.out⟩
theorem decode9_all (v : Value) (ys : List Int) (n : Int) (w : World) (h : Bs .u8 w v ys) (hr : ∀ y ∈ ys, 0 ≤ y ∧ y ≤ 255) (hl : ys.length ≤ 1000000000) (hT : Tab w) :
    Calls Tryd.prog 58 #[v, .int .i64 n] w fun e w' => ∃ u, e = .returned (.tuple #[u, .int .i64 (DEC9 ys n).2]) ∧ w'.ownsRow w.heap.size 38 1 u (DEC9 ys n).1.length ((DEC9 ys n).1.map (Value.int .u64)) ∧ Only (fun _ => False) w w' := by
  by_cases hn : n < 0 ∨ 65536 < n
  · have e : DEC9 ys n = ([], 1) := if_pos hn
    rw [e]
    refine (decode9_arg v n w hn).mono ?_
    rintro e w' ⟨rfl, rfl⟩
    exact ⟨_, rfl, World.ownsRow_nil _ _ _ _, Only.refl _ _⟩
  · obtain ⟨N, rfl⟩ := Int.eq_ofNat_of_zero_le (show 0 ≤ n by omega)
    exact decode9_bs v ys N w h hr hl (by omega) hT
end Go.Proofs.YtifbdjhbeanfaaaDoor

/- Package valcodec: what is read of a cursor, way by way. -/
namespace Go.Proofs.YtifbdjhbeanfaaaDoor
open Go.RowKit

theorem sFixed_8short {ys : List Int} (h : ys.length < 8) : sFixed 8 ys = (0, 0, 2) := by
  unfold sFixed
  rw [if_neg (by omega), if_pos (by omega)]
theorem sFixed_8ok {ys : List Int} (h : 8 ≤ ys.length) : sFixed 8 ys = ((num (ys.take 8) : Int), 8, 0) := by
  unfold sFixed
  rw [if_neg (by omega), if_neg (by omega)]
  rfl
/-- what is read, a byte that is left not looked at -/
def rF11 (ys : List Int) (n : Nat) : List Int × Int := if ys.length < 8 * n then ([], 2) else (rd8 n ys, 0)
def RD11 (ys : List Int) (n tag : Nat) : List Int × Int :=
  if tag = 2 then DEC10 ys n else if tag = 3 then DEC9 ys n else
  if tag = 1 then (if ys.length < 8 then ([], 2) else (List.replicate n ((num (ys.take 8) : Nat) : Int), 0)) else rF11 ys n
theorem RD11_0 (ys : List Int) (n : Nat) : RD11 ys n 0 = rF11 ys n := rfl
theorem RD11_1 (ys : List Int) (n : Nat) : RD11 ys n 1 = if ys.length < 8 then ([], 2) else (List.replicate n ((num (ys.take 8) : Nat) : Int), 0) := rfl
theorem RD11_2 (ys : List Int) (n : Nat) : RD11 ys n 2 = DEC10 ys n := rfl
theorem RD11_3 (ys : List Int) (n : Nat) : RD11 ys n 3 = DEC9 ys n := rfl
theorem num8_u64 {ys : List Int} (hr : ∀ y ∈ ys, 0 ≤ y ∧ y ≤ 255) : (num (ys.take 8) : Int) ≤ 18446744073709551615 := by
  have h1 := num_lt (ys.take 8) (fun y hy => hr y (List.mem_of_mem_take hy))
  have h2 : (256 : Nat) ^ (ys.take 8).length ≤ 256 ^ 8 := Nat.pow_le_pow_right (by omega) (by rw [List.length_take]; omega)
  have h3 : (256 : Nat) ^ 8 = 18446744073709551616 := by decide
  omega
theorem RD11_u64 {ys : List Int} {n t : Nat} (hr : ∀ y ∈ ys, 0 ≤ y ∧ y ≤ 255) (ht : t ≤ 3) : U64 (RD11 ys n t).1 := by
  have nl : U64 [] := fun x hx => by simp at hx
  rcases tag_cases ht with rfl | rfl | rfl | rfl
  · rw [RD11_0]; unfold rF11
    by_cases c : ys.length < 8 * n
    · rw [if_pos c]; exact nl
    · rw [if_neg c]; exact rd8_u64 n ys hr
  · rw [RD11_1]
    by_cases c : ys.length < 8
    · rw [if_pos c]; exact nl
    · rw [if_neg c]
      intro x hx
      rw [List.eq_of_mem_replicate hx]
      have := num8_u64 hr
      omega
  · rw [RD11_2]
    by_cases c : (DEC10 ys n).2 = 0
    · exact (DEC10_ok hr c).2.2.2.1
    · rw [DEC10_err c]; exact nl
  · rw [RD11_3]
    by_cases c : (DEC9 ys n).2 = 0
    · exact (DEC9_ok c).2.2.2.1
    · rw [DEC9_err c]; exact nl
theorem R11_0 (ys : List Int) (n : Nat) : R11 ys n 0 = if ys.length < 8 * n then ([], 2) else if 8 * n < ys.length then ([], 3) else (rd8 n ys, 0) := rfl
theorem R11_1 (ys : List Int) (n : Nat) : R11 ys n 1 = if ys.length < 8 then ([], 2) else if 8 < ys.length then ([], 3) else (List.replicate n ((num (ys.take 8) : Nat) : Int), 0) := rfl
theorem R11_RD {ys : List Int} {n t : Nat} (hn : n ≤ 65536) (ht : t ≤ 3) : R11 ys n t = RD11 ys n t ∨ (R11 ys n t = ([], 3) ∧ (RD11 ys n t).2 = 0 ∧ (ENC11 (RD11 ys n t).1).1.length < ys.length + 1) := by
  rcases tag_cases ht with rfl | rfl | rfl | rfl
  · rw [RD11_0, R11_0, rF11]
    by_cases c : ys.length < 8 * n
    · rw [if_pos c, if_pos c]; exact .inl rfl
    · rw [if_neg c, if_neg c]
      by_cases c2 : 8 * n < ys.length
      · rw [if_pos c2]
        have hl := (ENC11_len (l := rd8 n ys) (by rw [rd8_len]; exact hn)).1
        rw [rd8_len] at hl
        exact .inr ⟨rfl, rfl, by simp only; omega⟩
      · rw [if_neg c2]; exact .inl rfl
  · rw [RD11_1, R11_1]
    by_cases c : ys.length < 8
    · rw [if_pos c, if_pos c]; exact .inl rfl
    · rw [if_neg c, if_neg c]
      by_cases c2 : 8 < ys.length
      · rw [if_pos c2]
        generalize ((num (ys.take 8) : Nat) : Int) = v
        refine .inr ⟨rfl, rfl, ?_⟩
        simp only
        rcases n with _ | n
        · have hl := (ENC11_len (l := List.replicate 0 v) (by simp)).1
          simp only [List.length_replicate] at hl
          omega
        · have hl := ENC11_rep v n (by omega)
          omega
      · rw [if_neg c2]; exact .inl rfl
  · exact .inl rfl
  · exact .inl rfl
/-- a byte that is left is found by holding it against what Encode writes -/
theorem DEC11_RD {b : List Int} {n : Nat} (hn : n ≤ 65536) (hne : b ≠ []) (h3 : b.getD 0 0 ≤ 3) :
    DEC11 b n = if (RD11 (b.drop 1) n (b.getD 0 0).toNat).2 ≠ 0 then ([], (RD11 (b.drop 1) n (b.getD 0 0).toNat).2) else
      if (ENC11 (RD11 (b.drop 1) n (b.getD 0 0).toNat).1).1 = b then ((RD11 (b.drop 1) n (b.getD 0 0).toNat).1, 0) else ([], 3) := by
  unfold DEC11
  rw [if_neg (by omega), if_neg hne, if_neg (by omega), Int.toNat_natCast]
  have hlb : (b.drop 1).length + 1 = b.length := by
    have := List.length_pos_iff.2 hne
    rw [List.length_drop]; omega
  rcases R11_RD (ys := b.drop 1) hn (show (b.getD 0 0).toNat ≤ 3 by omega) with e | ⟨e1, e2, e3⟩
  · rw [e]
  · rw [hlb] at e3
    have hx : ¬ (ENC11 (RD11 (b.drop 1) n (b.getD 0 0).toNat).1).1 = b := fun e => by rw [e] at e3; omega
    rw [e1, if_pos (show (([], 3) : List Int × Int).2 ≠ 0 by decide), if_neg (fun c => c e2), if_neg hx]

set_option maxHeartbeats 800000 in
set_option maxRecDepth 100000 in
/-- SO MANY OF EIGHT BYTES EACH. -/
theorem vreadFixed_cur {w : World} {R : Nat} {v : Value} {ys : List Int} (h : CurAt 81 w R v ys) (hvb : ∀ k, v.ownBlock = some k → k < w.heap.size) (n : Nat) (hn : n ≤ 65536) :
    Calls Tryd.prog 59 #[.pointer (some ⟨R, 0, none⟩), .int .i64 n] w fun e w' => ∃ u, e = .returned (.tuple #[u, .int .i64 (rF11 ys n).2]) ∧ w'.ownsRow w.heap.size 38 1 u (rF11 ys n).1.length ((rF11 ys n).1.map (Value.int .u64)) ∧ Only (fun k => k = R) w w' := by
  obtain ⟨i0, hi, hz0, hz1, hz2⟩ := info_parts Tryd.infoU64
  have hR : R < w.heap.size := (Array.getElem?_eq_some_iff.1 h.cell).1
  have HC := hideIt h
  have HVB := hideIt hvb
  clear h hvb
  go_enter Tryd.func59, Tryd.ntmps59
  go_wp2
  go_loopw [6, 10] (fun s i wr => ∃ (k : Nat) (v' : Value), k ≤ n ∧ i = .int .i64 k ∧ wr.ownsRow w.heap.size 38 1 s k ((rd8 k ys).map (Value.int .u64)) ∧ CurAt 81 wr R v' (ys.drop (8 * k)) ∧ v'.ownBlock = v.ownBlock ∧ 8 * k ≤ ys.length ∧ Only (fun k => k = R) w wr) (fun _ i _ => n - (intOf i).toNat)
  case atStart => exact ⟨0, v, Nat.zero_le _, rfl, World.ownsRow_nil _ _ _ _, HC.out, rfl, by omega, Only.refl _ _⟩
  case round =>
    obtain ⟨k, v', hk, rfl, hown, hcur, hob, h8, hon⟩ := hrel
    have HOWN := hideIt hown
    have HON := hideIt hon
    have HOB := hideIt hob
    by_cases hlt : k < n
    · have dlt : decide ((k : Int) < (n : Int)) = true := by simp; omega
      have FX := hideIt (fixed_cur hcur 8)
      by_cases hs : (ys.drop (8 * k)).length < 8
      · rw [sFixed_8short hs] at FX
        have HR : Hid (rF11 ys n = ([], 2)) := by
          simp only [Hid]; unfold rF11
          rw [List.length_drop] at hs
          rw [if_pos (by omega)]
        clear hown hcur hob hon hs HC
        go_wp2_with fail
        refine FX.out.mono ?_
        rintro e w2 ⟨rfl, v2, _, _, o2⟩
        have O2 := hideIt (HON.out.trans o2 (fun _ _ e => e))
        clear FX o2 HOWN
        go_wp2
        go_ret2
        rw [HR.out]
        exact ⟨_, rfl, World.ownsRow_nil _ _ _ _, O2.out⟩
      · rw [sFixed_8ok (by omega)] at FX
        have h9 : 8 * (k + 1) ≤ ys.length := by rw [List.length_drop] at hs; omega
        have HST : Hid ((rd8 (k + 1) ys).map (Value.int .u64) = (rd8 k ys).map (Value.int .u64) ++ [.int .u64 ((num ((ys.drop (8 * k)).take 8) : Nat) : Int)]) := by
          simp only [Hid]; rw [rd8_snoc, List.map_append]; rfl
        have HDR : Hid ((ys.drop (8 * k)).drop 8 = ys.drop (8 * (k + 1))) := by
          simp only [Hid]; rw [List.drop_drop, Nat.mul_add]
        rw [HDR.out] at FX
        generalize ((num ((ys.drop (8 * k)).take 8) : Nat) : Int) = x at *
        clear hown hcur hob hon hs HC HDR
        go_wp2_with fail
        refine FX.out.mono ?_
        rintro e w2 ⟨rfl, v2, cur2, ob2, o2⟩
        have O2 := hideIt (HON.out.trans o2 (fun _ _ e => e))
        have own2 := o2.own HOWN.out (fun q hq e => by have := (HOWN.out.lt q hq).1; omega)
        have CUR2 := hideIt cur2
        have OB2 := hideIt (ob2.trans HOB.out)
        have hsz := O2.out.size
        clear FX o2 HOWN HON HOB cur2 ob2
        go_wp2_with (at_builtin; refine wpList_append_lies _ rfl _ _ _ rfl w.heap.size 38 i0 (.int .u64 0) 1 8 Tryd.underlying22 hi hz0 hz1 hz2 rfl (by omega) _ k _ rfl (own2.alloc _) ⟨w2.heap.size, 0, none⟩ 1 1 [.int .u64 x] rfl rfl ?c1 ?c2 (by omega) ?c3 ?c4 ?c5 (w2.heap.size + 1) (by simp) ?_)
        case c1 => exact cell_one_new _ _ _
        case c2 => intro u hu; simp at hu; subst hu; rfl
        case c3 => unfold maxLen; omega
        case c4 => omega
        case c5 => simp; omega
        intro gg cap1 w3 hown1 hgrow hat hg1
        have o3 := hideIt (((Only.refl (fun q => w.heap.size ≤ q) w2).alloc _).grown hgrow (fun p _ hp => (own2.lt p hp).1))
        have own3 : Hid (w3.ownsRow w.heap.size 38 1 (.slice (some ⟨gg, 0, none⟩) (k + 1) cap1) (k + 1) ((rd8 (k + 1) ys).map (Value.int .u64))) := by
          simp only [Hid]
          rw [HST.out]; exact hown1
        clear own2 hown1 hgrow hat
        go_wp2
        go_roundw
        case rel =>
          refine ⟨k + 1, v2, by omega, by go_num, own3.out, CUR2.out.keep o3.out (by omega) (fun q hq e => ?_), OB2.out, h9, O2.out.trans o3.out (fun q hq e => absurd e (by omega))⟩
          rw [OB2.out] at hq
          have := HVB.out q hq
          omega
        case measure => simp [intOf]; omega
    · obtain rfl : k = n := by omega
      have dlt : decide ((k : Int) < (k : Int)) = false := by simp
      have HR : Hid (rF11 ys k = (rd8 k ys, 0)) := by
        simp only [Hid]; unfold rF11
        rw [if_neg (by omega)]
      clear hown hcur hob hon HC
      go_wp2
      go_ret2
      rw [HR.out]
      refine ⟨_, rfl, ?_, HON.out⟩
      rw [rd8_len]
      exact HOWN.out

theorem sBytes_all (ys : List Int) : sBytes ys.length ys = (ys, ys.length, 0) := by
  unfold sBytes
  rw [if_neg (by omega), if_neg (by omega)]
  simp
set_option maxHeartbeats 400000 in
set_option maxRecDepth 100000 in
/-- WHAT IS LEFT. -/
theorem vrest_cur {w : World} {R : Nat} {v : Value} {ys : List Int} (h : CurAt 81 w R v ys) :
    Calls Tryd.prog 57 #[.pointer (some ⟨R, 0, none⟩)] w fun e w' => ∃ u, e = .returned u ∧ Bs .u8 w' u ys ∧ Only (fun k => k = R) w w' := by
  have L := hideIt (Left_cur h)
  have B := bytes_cur h ys.length
  rw [sBytes_all] at B
  have B := hideIt B
  clear h
  go_enter Tryd.func57, Tryd.ntmps57
  go_wp2_with fail
  refine L.out.mono ?_
  rintro e w1 ⟨rfl, rfl⟩
  clear L
  go_wp2_with fail
  refine B.out.mono ?_
  rintro e w2 ⟨u, rfl, bs, _, _, v2, _, _, o2⟩
  have F := hideIt (And.intro bs o2)
  obtain ⟨f1, c1, e1⟩ := bs.len
  subst e1
  clear B bs o2
  go_wp2
  go_ret
  exact ⟨_, rfl, F.out⟩
end Go.Proofs.YtifbdjhbeanfaaaDoor

/- Package valcodec: read; Decode. -/
namespace Go.Proofs.YtifbdjhbeanfaaaDoor
open Go.RowKit

set_option maxHeartbeats 800000 in
set_option maxRecDepth 100000 in
theorem vread_0 {w : World} {R : Nat} {v : Value} {ys : List Int} (h : CurAt 81 w R v ys) (hvb : ∀ k, v.ownBlock = some k → k < w.heap.size) (n : Nat) (hn : n ≤ 65536) :
    Calls Tryd.prog 30 #[.pointer (some ⟨R, 0, none⟩), .int .i64 n, .int .i64 0] w fun e w' => ∃ u, e = .returned (.tuple #[u, .int .i64 (rF11 ys n).2]) ∧ w'.ownsRow w.heap.size 38 1 u (rF11 ys n).1.length ((rF11 ys n).1.map (Value.int .u64)) ∧ Only (fun k => k = R) w w' := by
  have A := hideIt (vreadFixed_cur h hvb n hn)
  clear h hvb hn
  generalize rF11 ys n = X at *
  obtain ⟨X1, X2⟩ := X
  simp only at A ⊢
  go_enter Tryd.func30, Tryd.ntmps30
  go_wp2_with fail
  refine A.out.mono ?_
  rintro e w1 ⟨u, rfl, own1, o1⟩
  have F := hideIt (And.intro own1 o1)
  clear A own1 o1
  go_wp2
  go_ret2
  exact ⟨u, rfl, F.out.1, F.out.2⟩
set_option maxHeartbeats 800000 in
set_option maxRecDepth 100000 in
theorem vread_1 {w : World} {R : Nat} {v : Value} {ys : List Int} (h : CurAt 81 w R v ys) (n : Nat) (hn : n ≤ 65536) :
    Calls Tryd.prog 30 #[.pointer (some ⟨R, 0, none⟩), .int .i64 n, .int .i64 1] w fun e w' => ∃ u, e = .returned (.tuple #[u, .int .i64 (RD11 ys n 1).2]) ∧ w'.ownsRow w.heap.size 38 1 u (RD11 ys n 1).1.length ((RD11 ys n 1).1.map (Value.int .u64)) ∧ Only (fun k => k = R) w w' := by
  have FX := hideIt (fixed_cur h 8)
  rw [RD11_1]
  by_cases hs : ys.length < 8
  · rw [sFixed_8short hs] at FX
    rw [if_pos hs]
    clear h hs
    go_enter Tryd.func30, Tryd.ntmps30
    go_wp2_with fail
    refine FX.out.mono ?_
    rintro e w1 ⟨rfl, v2, _, _, o1⟩
    have O1 := hideIt o1
    clear FX o1
    go_wp2
    go_ret2
    exact ⟨_, rfl, World.ownsRow_nil _ _ _ _, O1.out⟩
  · rw [sFixed_8ok (by omega)] at FX
    rw [if_neg hs]
    generalize ((num (ys.take 8) : Nat) : Int) = x at *
    clear h hs
    obtain ⟨G, hG⟩ : ∃ G, G = List.replicate n x := ⟨_, rfl⟩
    rw [← hG]
    have HG := hideIt hG
    clear hG
    go_enter Tryd.func30, Tryd.ntmps30
    go_wp2_with fail
    refine FX.out.mono ?_
    rintro e w1 ⟨rfl, v2, _, _, o1⟩
    have O1 := hideIt o1
    have RP := hideIt (repeat_one w1.heap.size x n (w1.alloc (.cells #[.int .u64 x] 38)) (Boxed.new w1 38 (.int .u64 x)).cell hn)
    clear FX o1
    go_wp2_with fail
    refine RP.out.mono ?_
    rintro e w2 ⟨u, rfl, own2, o2⟩
    have F : Hid (w2.ownsRow w.heap.size 38 1 u G.length (G.map (Value.int .u64)) ∧ Only (fun k => k = R) w w2) := by
      simp only [Hid]
      rw [HG.out, List.length_replicate]
      have hsz := O1.out.size
      exact ⟨own_low own2 (by simp; omega), O1.out.trans (T := fun _ => False) (((Only.refl _ w1).alloc _).same o2) (fun _ _ f => f.elim)⟩
    clear RP own2 o2 O1
    go_wp2
    go_ret2
    exact ⟨u, rfl, F.out.1, F.out.2⟩
set_option maxHeartbeats 800000 in
set_option maxRecDepth 100000 in
theorem vread_2 {w : World} {R : Nat} {v : Value} {ys : List Int} (h : CurAt 81 w R v ys) (hl : ys.length ≤ 1000000000) (n : Nat) :
    Calls Tryd.prog 30 #[.pointer (some ⟨R, 0, none⟩), .int .i64 n, .int .i64 2] w fun e w' => ∃ u, e = .returned (.tuple #[u, .int .i64 (DEC10 ys n).2]) ∧ w'.ownsRow w.heap.size 38 1 u (DEC10 ys n).1.length ((DEC10 ys n).1.map (Value.int .u64)) ∧ Only (fun k => k = R) w w' := by
  have HR := hideIt h.rng
  have A := hideIt (vrest_cur h)
  obtain ⟨X, hX⟩ : ∃ X, X = DEC10 ys n := ⟨_, rfl⟩
  rw [← hX]
  obtain ⟨X1, X2⟩ := X
  have HX := hideIt hX
  clear h hX
  go_enter Tryd.func30, Tryd.ntmps30
  go_wp2_with fail
  refine A.out.mono ?_
  rintro e w1 ⟨u1, rfl, b1, o1⟩
  have B := hideIt (decode10_all u1 ys n w1 b1 HR.out hl)
  have O1 := hideIt o1
  obtain ⟨f1, c1, e1⟩ := b1.len
  subst e1
  clear A b1 o1
  rw [← HX.out] at B
  simp only at B
  obtain ⟨q, hq⟩ : ∃ q, q = ys.length := ⟨_, rfl⟩
  rw [← hq] at B ⊢
  clear hq hl
  go_wp2_with fail
  refine B.out.mono ?_
  rintro e w2 ⟨u, rfl, own2, o2⟩
  have F := hideIt (And.intro (own_low own2 O1.out.size) (O1.out.trans (T := fun _ => False) o2 (fun _ _ f => f.elim)))
  clear B own2 o2 O1
  go_wp2
  go_ret2
  exact ⟨u, rfl, F.out.1, F.out.2⟩
set_option maxHeartbeats 800000 in
set_option maxRecDepth 100000 in
theorem vread_3 {w : World} {R : Nat} {v : Value} {ys : List Int} (h : CurAt 81 w R v ys) (hl : ys.length ≤ 1000000000) (hT : Tab w) (hR0 : 0 < R) (n : Nat) :
    Calls Tryd.prog 30 #[.pointer (some ⟨R, 0, none⟩), .int .i64 n, .int .i64 3] w fun e w' => ∃ u, e = .returned (.tuple #[u, .int .i64 (DEC9 ys n).2]) ∧ w'.ownsRow w.heap.size 38 1 u (DEC9 ys n).1.length ((DEC9 ys n).1.map (Value.int .u64)) ∧ Only (fun k => k = R) w w' := by
  have HR := hideIt h.rng
  have A := hideIt (vrest_cur h)
  have HT := hideIt hT
  obtain ⟨X, hX⟩ : ∃ X, X = DEC9 ys n := ⟨_, rfl⟩
  rw [← hX]
  obtain ⟨X1, X2⟩ := X
  have HX := hideIt hX
  clear h hT hX
  go_enter Tryd.func30, Tryd.ntmps30
  go_wp2_with fail
  refine A.out.mono ?_
  rintro e w1 ⟨u1, rfl, b1, o1⟩
  have B := hideIt (decode9_all u1 ys n w1 b1 HR.out hl (HT.out.keep o1 (by omega)))
  have O1 := hideIt o1
  obtain ⟨f1, c1, e1⟩ := b1.len
  subst e1
  clear A b1 o1
  rw [← HX.out] at B
  simp only at B
  obtain ⟨q, hq⟩ : ∃ q, q = ys.length := ⟨_, rfl⟩
  rw [← hq] at B ⊢
  clear hq hl
  go_wp2_with fail
  refine B.out.mono ?_
  rintro e w2 ⟨u, rfl, own2, o2⟩
  have F := hideIt (And.intro (own_low own2 O1.out.size) (O1.out.trans (T := fun _ => False) o2 (fun _ _ f => f.elim)))
  clear B own2 o2 O1
  go_wp2
  go_ret2
  exact ⟨u, rfl, F.out.1, F.out.2⟩
/-- WHAT A WAY's BYTES ARE. -/
theorem vread_cur {w : World} {R : Nat} {v : Value} {ys : List Int} (h : CurAt 81 w R v ys) (hvb : ∀ k, v.ownBlock = some k → k < w.heap.size) (hl : ys.length ≤ 1000000000) (hT : Tab w) (hR0 : 0 < R) (n t : Nat) (hn : n ≤ 65536) (ht : t ≤ 3) :
    Calls Tryd.prog 30 #[.pointer (some ⟨R, 0, none⟩), .int .i64 n, .int .i64 t] w fun e w' => ∃ u, e = .returned (.tuple #[u, .int .i64 (RD11 ys n t).2]) ∧ w'.ownsRow w.heap.size 38 1 u (RD11 ys n t).1.length ((RD11 ys n t).1.map (Value.int .u64)) ∧ Only (fun k => k = R) w w' := by
  rcases tag_cases ht with rfl | rfl | rfl | rfl
  · exact vread_0 h hvb n hn
  · exact vread_1 h n hn
  · exact vread_2 h hl n
  · exact vread_3 h hl hT hR0 n

set_option maxHeartbeats 400000 in
set_option maxRecDepth 100000 in
theorem decode11_arg (v : Value) (n : Int) (w : World) (h : n < 0 ∨ 65536 < n) : Calls Tryd.prog 15 #[v, .int .i64 n] w fun e w' => e = .returned (.tuple #[.slice none 0 0, .int .i64 1]) ∧ w = w' := by
  by_cases h0 : n < 0
  · have d0 : decide (n < 0) = true := decide_eq_true h0
    clear h h0
    go_enter Tryd.func15, Tryd.ntmps15
    go_wp2
    go_ret2
    exact ⟨rfl, rfl⟩
  · have d0 : decide (n < 0) = false := decide_eq_false h0
    have d1 : decide (65536 < n) = true := decide_eq_true (by omega)
    clear h h0
    go_enter Tryd.func15, Tryd.ntmps15
    go_wp2
    go_ret2
    exact ⟨rfl, rfl⟩
theorem sByte_nil : sByte [] = (0, 0, 2) := rfl
theorem sByte_ok {b : List Int} (h : b ≠ []) : sByte b = (b.getD 0 0, 1, 0) := by
  unfold sByte
  rw [if_neg (by have := List.length_pos_iff.2 h; omega)]

set_option maxHeartbeats 800000 in
set_option maxRecDepth 100000 in
theorem decode11_none (v : Value) (n : Nat) (w : World) (h : Bs .u8 w v []) (hn : n ≤ 65536) : Calls Tryd.prog 15 #[v, .int .i64 n] w fun e w' => e = .returned (.tuple #[.slice none 0 0, .int .i64 2]) ∧ Only (fun _ => False) w w' := by
  have d0 : decide ((n : Int) < 0) = false := by simp
  have d1 : decide (65536 < (n : Int)) = false := by simp; omega
  have NR := hideIt (new_bs v [] w h (by simp) (by simp))
  clear h hn
  go_enter Tryd.func15, Tryd.ntmps15
  go_wp2_with fail
  refine NR.out.mono ?_
  rintro e w1 ⟨R, v1, rfl, r1, o1, g1, g2, g3⟩
  have B := byte_cur r1
  rw [sByte_nil] at B
  have B := hideIt B
  have O1 := hideIt o1
  clear NR r1 o1 g3
  go_wp2_with fail
  refine B.out.mono ?_
  rintro e w2 ⟨rfl, v2, _, _, o2⟩
  have O2 := hideIt (O1.out.trans o2 (fun k hk e => by omega))
  clear B O1 o2
  go_wp2
  go_ret2
  exact ⟨rfl, O2.out⟩
set_option maxHeartbeats 800000 in
set_option maxRecDepth 100000 in
theorem decode11_tag (v : Value) (b : List Int) (n : Nat) (w : World) (h : Bs .u8 w v b) (hr : ∀ y ∈ b, 0 ≤ y ∧ y ≤ 255) (hl : b.length ≤ 1000000000) (hn : n ≤ 65536) (hne : b ≠ []) (h3 : 3 < b.getD 0 0) : Calls Tryd.prog 15 #[v, .int .i64 n] w fun e w' => e = .returned (.tuple #[.slice none 0 0, .int .i64 3]) ∧ Only (fun _ => False) w w' := by
  have d0 : decide ((n : Int) < 0) = false := by simp
  have d1 : decide (65536 < (n : Int)) = false := by simp; omega
  have NR := hideIt (new_bs v b w h hr (by omega))
  have HS := hideIt (sByte_ok hne)
  obtain ⟨x, hx⟩ : ∃ x, x = b.getD 0 0 := ⟨_, rfl⟩
  rw [← hx] at HS h3
  have hb : x ≤ 255 := by rw [hx]; exact (hr _ (head_mem hne)).2
  clear h hn hr hx
  go_enter Tryd.func15, Tryd.ntmps15
  go_wp2_with fail
  refine NR.out.mono ?_
  rintro e w1 ⟨R, v1, rfl, r1, o1, g1, g2, g3⟩
  have B := byte_cur r1
  rw [HS.out] at B
  have B := hideIt B
  have O1 := hideIt o1
  clear NR r1 o1 g3
  go_wp2_with fail
  refine B.out.mono ?_
  rintro e w2 ⟨rfl, v2, _, _, o2⟩
  have O2 := hideIt (O1.out.trans o2 (fun k hk e => by omega))
  have T := hideIt (vtag_no x w2 (.inr h3))
  clear B O1 o2
  go_wp2_with fail
  refine T.out.mono ?_
  rintro e w3 ⟨rfl, rfl⟩
  clear T
  go_wp2
  go_ret2
  exact ⟨rfl, O2.out⟩
set_option maxHeartbeats 1600000 in
set_option maxRecDepth 100000 in
theorem decode11_bs (v : Value) (b : List Int) (n : Nat) (w : World) (h : Bs .u8 w v b) (hr : ∀ y ∈ b, 0 ≤ y ∧ y ≤ 255) (hl : b.length ≤ 1000000000) (hT : Tab w) (hn : n ≤ 65536) (hne : b ≠ []) (h3 : b.getD 0 0 ≤ 3) :
    Calls Tryd.prog 15 #[v, .int .i64 n] w fun e w' => ∃ u, e = .returned (.tuple #[u, .int .i64 (DEC11 b n).2]) ∧ w'.ownsRow w.heap.size 38 1 u (DEC11 b n).1.length ((DEC11 b n).1.map (Value.int .u64)) ∧ Only (fun _ => False) w w' := by
  obtain ⟨D, hD⟩ : ∃ D, D = DEC11 b n := ⟨_, rfl⟩
  rw [← hD]
  rw [DEC11_RD hn hne h3] at hD
  have d0 : decide ((n : Int) < 0) = false := by simp
  have d1 : decide (65536 < (n : Int)) = false := by simp; omega
  have NR := hideIt (new_bs v b w h hr (by omega))
  have HS := hideIt (sByte_ok hne)
  have hb0 := (hr _ (head_mem hne)).1
  obtain ⟨t, ht⟩ : ∃ t, t = (b.getD 0 0).toNat := ⟨_, rfl⟩
  have hx : b.getD 0 0 = (t : Int) := by omega
  rw [← ht] at hD
  rw [hx] at HS
  have ht3 : t ≤ 3 := by omega
  have HL := hideIt hl
  have HT := hideIt hT
  have HB := hideIt h
  have HR := hideIt hr
  have HU := hideIt (RD11_u64 (ys := b.drop 1) (n := n) (fun y hy => hr y (List.mem_of_mem_drop hy)) ht3)
  have HD := hideIt hD
  have hw0 := hT.pos
  clear h hr hl hT hD hx ht hb0 h3 hne
  go_enter Tryd.func15, Tryd.ntmps15
  go_wp2_with fail
  refine NR.out.mono ?_
  rintro e w1 ⟨R, v1, rfl, r1, o1, g1, g2, g3⟩
  have BY := byte_cur r1
  rw [HS.out] at BY
  have BY := hideIt BY
  have O1 := hideIt o1
  have G3 := hideIt g3
  clear NR r1 o1 g3 HS
  go_wp2_with fail
  refine BY.out.mono ?_
  rintro e w2 ⟨rfl, v2, r2, ob2, o2⟩
  have O2 := hideIt (O1.out.trans o2 (fun k hk e => by omega))
  have S2 := O2.out.size
  have hs12 := o2.size
  have TG := hideIt (vtag_yes (t : Int) w2 (by omega) (by omega))
  have RA := hideIt (vread_cur r2 (fun k hk => by rw [ob2] at hk; have := (G3.out k hk).2; omega) (by have := HL.out; rw [List.length_drop]; omega) (HT.out.past O2.out) (by omega) n t hn ht3)
  clear BY O1 o2 r2 ob2 G3
  go_wp2_with fail
  refine TG.out.mono ?_
  rintro e w3 ⟨rfl, rfl⟩
  clear TG
  go_wp2_with fail
  refine RA.out.mono ?_
  rintro e w4 ⟨u, rfl, own4, o4⟩
  have B4 := hideIt ((O2.out.low (Nat.le_refl _)).trans (o4.below (B := w.heap.size) S2 (fun k e => by omega)))
  have OW4 := hideIt (own_low own4 S2)
  clear RA o4 O2 own4
  by_cases hb : (RD11 (b.drop 1) n t).2 ≠ 0
  · have HD2 : Hid (D = ([], (RD11 (b.drop 1) n t).2)) := by simp only [Hid]; rw [HD.out, if_pos hb]
    have dc : ((RD11 (b.drop 1) n t).2 != 0) = true := by simpa using hb
    obtain ⟨c, hc⟩ : ∃ c, c = (RD11 (b.drop 1) n t).2 := ⟨_, rfl⟩
    rw [← hc] at HD2 dc ⊢
    clear HD hb hc
    go_wp2
    go_ret2
    have hD := HD2.out
    subst hD
    exact ⟨_, rfl, World.ownsRow_nil _ _ _ _, only_of_below B4.out⟩
  · have hz : (RD11 (b.drop 1) n t).2 = 0 := by simpa using hb
    rw [hz]
    obtain ⟨L, hL⟩ : ∃ L, L = (RD11 (b.drop 1) n t).1 := ⟨_, rfl⟩
    have HD2 : Hid (D = if (ENC11 L).1 = b then (L, 0) else ([], 3)) := by simp only [Hid]; rw [HD.out, if_neg hb, ← hL]
    rw [← hL] at OW4 HU
    have EN := hideIt (encode11_all u L w4 (Bs.of_own OW4.out) HU.out (HT.out.below B4.out hw0))
    clear HD hb hz hL
    obtain ⟨a6, c6, e6⟩ := (Bs.of_own OW4.out).len
    subst e6
    obtain ⟨m, hm⟩ : ∃ m, m = L.length := ⟨_, rfl⟩
    rw [← hm] at EN ⊢
    have HM := hideIt hm
    clear hm
    go_wp2_with fail
    refine EN.out.mono ?_
    rintro e w5 ⟨v3, rfl, own3, o3⟩
    have EQ := hideIt (equal_bs v3 v (ENC11 L).1 b w5 (Bs.of_own own3) ((HB.out.later B4.out).past o3) (ENC11_rng L) HR.out)
    have O3 := hideIt ((only_of_below B4.out).same o3)
    have OW3 := hideIt (o3.own OW4.out (fun _ _ f => f))
    obtain ⟨a7, c7, e7⟩ := (Bs.of_own own3).len
    subst e7
    clear EN own3 o3 OW4
    generalize (ENC11 L).2 = EC at *
    generalize (ENC11 L).1 = E at *
    by_cases he : E = b
    · rw [decide_eq_true he] at EQ
      have hD := HD2.out
      rw [if_pos he] at hD
      clear HD2 he
      have HD3 := hideIt hD
      clear hD
      obtain ⟨m2, hm2⟩ : ∃ m2, m2 = E.length := ⟨_, rfl⟩
      rw [← hm2] at EQ ⊢
      clear hm2
      go_wp2_with fail
      refine EQ.out.mono ?_
      rintro e w6 ⟨rfl, rfl⟩
      clear EQ
      go_wp2
      go_ret2
      have hD := HD3.out
      subst hD
      exact ⟨_, rfl, by have := OW3.out; rw [HM.out]; exact this, O3.out⟩
    · rw [decide_eq_false he] at EQ
      have hD := HD2.out
      rw [if_neg he] at hD
      clear HD2 he
      have HD3 := hideIt hD
      clear hD
      obtain ⟨m2, hm2⟩ : ∃ m2, m2 = E.length := ⟨_, rfl⟩
      rw [← hm2] at EQ ⊢
      clear hm2
      go_wp2_with fail
      refine EQ.out.mono ?_
      rintro e w6 ⟨rfl, rfl⟩
      clear EQ
      go_wp2
      go_ret2
      have hD := HD3.out
      subst hD
      exact ⟨_, rfl, World.ownsRow_nil _ _ _ _, O3.out⟩
/-- WHICH PATTERNS BYTES ARE, whatever comes in. -/
theorem decode11_all (v : Value) (b : List Int) (n : Int) (w : World) (h : Bs .u8 w v b) (hr : ∀ y ∈ b, 0 ≤ y ∧ y ≤ 255) (hl : b.length ≤ 1000000000) (hT : Tab w) :
    Calls Tryd.prog 15 #[v, .int .i64 n] w fun e w' => ∃ u, e = .returned (.tuple #[u, .int .i64 (DEC11 b n).2]) ∧ w'.ownsRow w.heap.size 38 1 u (DEC11 b n).1.length ((DEC11 b n).1.map (Value.int .u64)) ∧ Only (fun _ => False) w w' := by
  by_cases hn : n < 0 ∨ 65536 < n
  · have e : DEC11 b n = ([], 1) := if_pos hn
    rw [e]
    refine (decode11_arg v n w hn).mono ?_
    rintro e w' ⟨rfl, rfl⟩
    exact ⟨_, rfl, World.ownsRow_nil _ _ _ _, Only.refl _ _⟩
  · obtain ⟨N, rfl⟩ := Int.eq_ofNat_of_zero_le (show 0 ≤ n by omega)
    by_cases hne : b = []
    · subst hne
      have e : DEC11 [] N = ([], 2) := by unfold DEC11; rw [if_neg hn, if_pos rfl]
      rw [e]
      refine (decode11_none v N w h (by omega)).mono ?_
      rintro e w' ⟨rfl, o⟩
      exact ⟨_, rfl, World.ownsRow_nil _ _ _ _, o⟩
    · by_cases h3 : 3 < b.getD 0 0
      · have e : DEC11 b N = ([], 3) := by unfold DEC11; rw [if_neg hn, if_neg hne, if_pos h3]
        rw [e]
        refine (decode11_tag v b N w h hr hl (by omega) hne h3).mono ?_
        rintro e w' ⟨rfl, o⟩
        exact ⟨_, rfl, World.ownsRow_nil _ _ _ _, o⟩
      · exact decode11_bs v b N w h hr hl hT (by omega) hne (by omega)
end Go.Proofs.YtifbdjhbeanfaaaDoor

/- Contract of the reference's Same: equal bytes are the same. -/
namespace Go.Proofs.YtifbdjhbeanfaaaDoor
open Go.RowKit

set_option maxHeartbeats 400000 in
set_option maxRecDepth 100000 in
/-- EQUAL BYTES ARE THE SAME. -/
theorem same_eq (va vb : Value) (xs : List Int) (w : World) (ha : Bs .u8 w va xs) (hb : Bs .u8 w vb xs) (hl : xs.length ≤ 140737488355328) :
    Calls Tryd.prog 12 #[va, vb] w fun e w' => e = .returned (.bool true) ∧ Only (fun _ => False) w w' := by
  obtain ⟨aoa, ca, rfl, hca, hra⟩ := ha
  obtain ⟨aob, cb, rfl, hcb, hrb⟩ := hb
  have hbn : ((xs.length : Int) != (xs.length : Int)) = false := by simp
  by_cases hx : xs = []
  · subst hx
    clear hra hrb
    simp only [List.length_nil]
    go_enter Tryd.func12, Tryd.ntmps12
    go_wp2
    go_loop [5] (fun i => i = .int .i64 0) (fun _ => 0)
    case atStart => rfl
    case round =>
      subst hrel
      go_wp2
      go_ret
      exact ⟨rfl, Only.refl _ _⟩
  · obtain ⟨ba, oa, rfl, hcella⟩ := hra hx
    obtain ⟨bb, ob, rfl, hcellb⟩ := hrb hx
    clear hra hrb hx
    obtain ⟨n, hn⟩ : ∃ n, n = xs.length := ⟨_, rfl⟩
    rw [← hn] at hbn hca hcb hcella hcellb hl ⊢
    have HA : Hid (∀ j, j < n → w.cell? ⟨ba, oa + j, none⟩ = some (.int .u8 (xs.getD j 0))) := hcella
    have HB : Hid (∀ j, j < n → w.cell? ⟨bb, ob + j, none⟩ = some (.int .u8 (xs.getD j 0))) := hcellb
    clear hcella hcellb hn
    go_enter Tryd.func12, Tryd.ntmps12
    go_wp2
    go_loopw [5] (fun i wr => ∃ k : Nat, k ≤ n ∧ i = .int .i64 k ∧ Only (fun _ => False) w wr) (fun i _ => n - (intOf i).toNat)
    case atStart => exact ⟨0, Nat.zero_le _, rfl, Only.refl _ _⟩
    case round =>
      obtain ⟨k, hk, rfl, hon⟩ := hrel
      by_cases hlt : k < n
      · obtain ⟨y, hy⟩ : ∃ y, y = xs.getD k 0 := ⟨_, rfl⟩
        have h1 : wr.cell? ⟨ba, oa + k, none⟩ = some (.int .u8 y) := by
          have := HA.out k hlt
          rw [World.cell?_of_block (hon.block ba (World.block_lt_of_cell? w _ this) (fun f => f)), hy]; exact this
        have h2 : wr.cell? ⟨bb, ob + k, none⟩ = some (.int .u8 y) := by
          have := HB.out k hlt
          rw [World.cell?_of_block (hon.block bb (World.block_lt_of_cell? w _ this) (fun f => f)), hy]; exact this
        have i0 : (0 : Int) ≤ (k : Int) := by omega
        have i1 : (k : Int) < (n : Int) := by omega
        have hy1 : (y != y) = false := by simp
        clear hy
        go_wp2
        go_quiet (fail)
        go_wp2
        go_roundw
        case rel => exact ⟨k + 1, by omega, by go_num, hon.drewN nq⟩
        case measure => simp [intOf]; omega
      · go_wp2
        go_ret
        exact ⟨rfl, hon⟩
end Go.Proofs.YtifbdjhbeanfaaaDoor

/- The reference's Same of any two slices of bytes: whether they are the same; nothing is written. -/
namespace Go.Proofs.YtifbdjhbeanfaaaDoor
open Go.RowKit

set_option maxHeartbeats 400000 in
set_option maxRecDepth 100000 in
theorem same_len (va vb : Value) (xs ys : List Int) (w : World) (ha : Bs .u8 w va xs) (hb : Bs .u8 w vb ys) (h : xs.length ≠ ys.length) :
    Calls Tryd.prog 12 #[va, vb] w fun e w' => e = .returned (.bool false) ∧ Only (fun _ => False) w w' := by
  obtain ⟨aoa, ca, rfl⟩ := ha.len
  obtain ⟨aob, cb, rfl⟩ := hb.len
  have hbn : ((xs.length : Int) != (ys.length : Int)) = true := by simp; omega
  clear ha hb h
  generalize xs.length = n at *
  generalize ys.length = m at *
  go_enter Tryd.func12, Tryd.ntmps12
  go_wp2
  go_ret
  exact ⟨rfl, Only.refl _ _⟩

set_option maxHeartbeats 400000 in
set_option maxRecDepth 100000 in
/-- as many, and one differs -/
theorem same_ne (va vb : Value) (xs ys : List Int) (w : World) (ha : Bs .u8 w va xs) (hb : Bs .u8 w vb ys) (hlen : ys.length = xs.length) (hl : xs.length ≤ 140737488355328) (hne : xs ≠ ys) :
    Calls Tryd.prog 12 #[va, vb] w fun e w' => e = .returned (.bool false) ∧ Only (fun _ => False) w w' := by
  obtain ⟨aoa, ca, rfl, hca, hra⟩ := ha
  obtain ⟨aob, cb, rfl, hcb, hrb⟩ := hb
  have hx : xs ≠ [] := by
    intro h0; subst h0
    exact hne (List.eq_nil_of_length_eq_zero hlen).symm
  have hy : ys ≠ [] := by
    intro h0; subst h0
    exact hx (List.eq_nil_of_length_eq_zero hlen.symm)
  obtain ⟨ba, oa, rfl, hcella⟩ := hra hx
  obtain ⟨bb, ob, rfl, hcellb⟩ := hrb hy
  have HD : Hid (¬ ∀ j, j < xs.length → xs.getD j 0 = ys.getD j 0) := by
    intro h
    apply hne
    apply List.ext_getElem hlen.symm
    intro i h1 h2
    have := h i h1
    rw [List.getD_eq_getElem?_getD, List.getD_eq_getElem?_getD, List.getElem?_eq_getElem h1, List.getElem?_eq_getElem h2] at this
    exact this
  rw [hlen] at hcb hcellb ⊢
  have hbn : ((xs.length : Int) != (xs.length : Int)) = false := by simp
  clear hra hrb hx hy hne hlen
  obtain ⟨n, hn⟩ : ∃ n, n = xs.length := ⟨_, rfl⟩
  rw [← hn] at hbn hca hcb hcella hcellb hl HD ⊢
  have HA : Hid (∀ j, j < n → w.cell? ⟨ba, oa + j, none⟩ = some (.int .u8 (xs.getD j 0))) := hcella
  have HB : Hid (∀ j, j < n → w.cell? ⟨bb, ob + j, none⟩ = some (.int .u8 (ys.getD j 0))) := hcellb
  clear hcella hcellb hn
  go_enter Tryd.func12, Tryd.ntmps12
  go_wp2
  go_loopw [5] (fun i wr => ∃ k : Nat, k ≤ n ∧ i = .int .i64 k ∧ Only (fun _ => False) w wr ∧ ∀ j, j < k → xs.getD j 0 = ys.getD j 0) (fun i _ => n - (intOf i).toNat)
  case atStart => exact ⟨0, Nat.zero_le _, rfl, Only.refl _ _, fun j hj => absurd hj (by omega)⟩
  case round =>
    obtain ⟨k, hk, rfl, hon, hall⟩ := hrel
    have HALL := hideIt hall
    clear hall
    by_cases hlt : k < n
    · obtain ⟨y, hy⟩ : ∃ y, y = xs.getD k 0 := ⟨_, rfl⟩
      obtain ⟨z, hz⟩ : ∃ z, z = ys.getD k 0 := ⟨_, rfl⟩
      have h1 : wr.cell? ⟨ba, oa + k, none⟩ = some (.int .u8 y) := by
        have := HA.out k hlt
        rw [World.cell?_of_block (hon.block ba (World.block_lt_of_cell? w _ this) (fun f => f)), hy]; exact this
      have h2 : wr.cell? ⟨bb, ob + k, none⟩ = some (.int .u8 z) := by
        have := HB.out k hlt
        rw [World.cell?_of_block (hon.block bb (World.block_lt_of_cell? w _ this) (fun f => f)), hz]; exact this
      have i0 : (0 : Int) ≤ (k : Int) := by omega
      have i1 : (k : Int) < (n : Int) := by omega
      by_cases hyz : y = z
      · have HE := hideIt (show xs.getD k 0 = ys.getD k 0 by rw [← hy, ← hz]; exact hyz)
        subst hyz
        have hy1 : (y != y) = false := by simp
        clear hy hz
        go_wp2
        go_quiet (fail)
        go_wp2
        go_roundw
        case rel => exact ⟨k + 1, by omega, by go_num, hon.drewN nq, fun j hj => by
          rcases Nat.lt_or_ge j k with h | h
          · exact HALL.out j h
          · rw [show j = k by omega]; exact HE.out⟩
        case measure => simp [intOf]; omega
      · have hy1 : (y != z) = true := by simpa using hyz
        clear hy hz hyz
        go_wp2
        go_quiet (fail)
        go_wp2
        go_ret
        exact ⟨rfl, hon.drewN nq⟩
    · exact absurd (fun j hj => HALL.out j (by omega)) HD.out

theorem same_any (va vb : Value) (xs ys : List Int) (w : World) (ha : Bs .u8 w va xs) (hb : Bs .u8 w vb ys) (hl : xs.length ≤ 140737488355328) :
    Calls Tryd.prog 12 #[va, vb] w fun e w' => e = .returned (.bool (decide (xs = ys))) ∧ Only (fun _ => False) w w' := by
  by_cases h : xs = ys
  · subst h
    rw [decide_eq_true rfl]
    exact same_eq va vb xs w ha hb hl
  · rw [decide_eq_false h]
    by_cases hlen : ys.length = xs.length
    · exact same_ne va vb xs ys w ha hb hlen hl h
    · exact same_len va vb xs ys w ha hb (fun e => hlen e.symm)
end Go.Proofs.YtifbdjhbeanfaaaDoor

/- Contract of the reference's Same: equal lists of numbers are the same. -/
namespace Go.Proofs.YtifbdjhbeanfaaaDoor
open Go.RowKit

set_option maxHeartbeats 400000 in
set_option maxRecDepth 100000 in
/-- EQUAL NUMBERS ARE THE SAME: nothing is written. -/
theorem usame_q (va vb : Value) (xs : List Int) (w : World) (ha : Bs .u64 w va xs) (hb : Bs .u64 w vb xs) (hl : xs.length ≤ 140737488355328) :
    Calls Tryd.prog 33 #[va, vb] w fun e w' => e = .returned (.bool true) ∧ ∃ m, w' = w.drewN m := by
  obtain ⟨aoa, ca, rfl, hca, hra⟩ := ha
  obtain ⟨aob, cb, rfl, hcb, hrb⟩ := hb
  have hbn : ((xs.length : Int) != (xs.length : Int)) = false := by simp
  by_cases hx : xs = []
  · subst hx
    clear hra hrb
    simp only [List.length_nil]
    go_enter Tryd.func33, Tryd.ntmps33
    go_wp2
    go_loop [5] (fun i => i = .int .i64 0) (fun _ => 0)
    case atStart => rfl
    case round =>
      subst hrel
      go_wp2
      go_ret
      exact ⟨rfl, 0, rfl⟩
  · obtain ⟨ba, oa, rfl, hcella⟩ := hra hx
    obtain ⟨bb, ob, rfl, hcellb⟩ := hrb hx
    clear hra hrb hx
    obtain ⟨n, hn⟩ : ∃ n, n = xs.length := ⟨_, rfl⟩
    rw [← hn] at hbn hca hcb hcella hcellb hl ⊢
    have HA : Hid (∀ j, j < n → w.cell? ⟨ba, oa + j, none⟩ = some (.int .u64 (xs.getD j 0))) := hcella
    have HB : Hid (∀ j, j < n → w.cell? ⟨bb, ob + j, none⟩ = some (.int .u64 (xs.getD j 0))) := hcellb
    clear hcella hcellb hn
    go_enter Tryd.func33, Tryd.ntmps33
    go_wp2
    go_loopw [5] (fun i wr => ∃ k : Nat, k ≤ n ∧ i = .int .i64 k ∧ ∃ m, wr = w.drewN m) (fun i _ => n - (intOf i).toNat)
    case atStart => exact ⟨0, Nat.zero_le _, rfl, 0, rfl⟩
    case round =>
      obtain ⟨k, hk, rfl, md, hmd⟩ := hrel
      have hon : Only (fun _ => False) w wr := by rw [hmd]; exact (Only.refl _ _).drewN md
      have HMD := hideIt hmd
      clear hmd
      by_cases hlt : k < n
      · obtain ⟨y, hy⟩ : ∃ y, y = xs.getD k 0 := ⟨_, rfl⟩
        have h1 : wr.cell? ⟨ba, oa + k, none⟩ = some (.int .u64 y) := by
          have := HA.out k hlt
          rw [World.cell?_of_block (hon.block ba (World.block_lt_of_cell? w _ this) (fun f => f)), hy]; exact this
        have h2 : wr.cell? ⟨bb, ob + k, none⟩ = some (.int .u64 y) := by
          have := HB.out k hlt
          rw [World.cell?_of_block (hon.block bb (World.block_lt_of_cell? w _ this) (fun f => f)), hy]; exact this
        have i0 : (0 : Int) ≤ (k : Int) := by omega
        have i1 : (k : Int) < (n : Int) := by omega
        have hy1 : (y != y) = false := by simp
        clear hy
        go_wp2
        go_quiet (fail)
        go_wp2
        go_roundw
        case rel => exact ⟨k + 1, by omega, by go_num, md + nq, by rw [HMD.out, World.drewN_drewN]⟩
        case measure => simp [intOf]; omega
      · go_wp2
        go_ret
        exact ⟨rfl, md, HMD.out⟩
theorem usame_eq (va vb : Value) (xs : List Int) (w : World) (ha : Bs .u64 w va xs) (hb : Bs .u64 w vb xs) (hl : xs.length ≤ 140737488355328) :
    Calls Tryd.prog 33 #[va, vb] w fun e w' => e = .returned (.bool true) ∧ Only (fun _ => False) w w' := by
  refine (usame_q va vb xs w ha hb hl).mono ?_
  rintro e w' ⟨rfl, m, rfl⟩
  exact ⟨rfl, (Only.refl _ _).drewN m⟩

end Go.Proofs.YtifbdjhbeanfaaaDoor

/- The document's example, and the statements' 'same'. -/
namespace Go.Proofs.YtifbdjhbeanfaaaDoor
open Go.RowKit

set_option maxHeartbeats 400000 in
set_option maxRecDepth 100000 in
theorem lsame11_q (va vb : Value) (xs : List Int) (w : World) (ha : Bs .u64 w va xs) (hb : Bs .u64 w vb xs) (hl : xs.length ≤ 140737488355328) :
    Calls Tryd.prog 17 #[va, vb] w fun e w' => e = .returned (.bool true) ∧ ∃ m, w' = w.drewN m := by
  have A := hideIt (usame_q va vb xs w ha hb hl)
  clear ha hb
  go_enter Tryd.func17, Tryd.ntmps17
  go_wp2_with fail
  refine A.out.mono ?_
  rintro e w1 ⟨rfl, m, hm⟩
  have H := hideIt hm
  clear hm A
  go_wp2
  go_ret
  exact ⟨rfl, m, H.out⟩
theorem lsame11 (va vb : Value) (xs : List Int) (w : World) (ha : Bs .u64 w va xs) (hb : Bs .u64 w vb xs) (hl : xs.length ≤ 140737488355328) :
    Calls Tryd.prog 17 #[va, vb] w fun e w' => e = .returned (.bool true) ∧ Only (fun _ => False) w w' := by
  refine (lsame11_q va vb xs w ha hb hl).mono ?_
  rintro e w' ⟨rfl, m, rfl⟩
  exact ⟨rfl, (Only.refl _ _).drewN m⟩
set_option maxHeartbeats 800000 in
set_option maxRecDepth 100000 in
theorem awake_any (w : World) (hT : Tab w) :
    Calls Tryd.prog 9 #[] w fun e w' => e = .returned (.bool true) ∧ Only (fun _ => False) w w' := by
  obtain ⟨wl, hwl⟩ : ∃ wl, wl = w.alloc (.cells #[.int .u8 1, .int .u8 0, .int .u8 0, .int .u8 0, .int .u8 0, .int .u8 0, .int .u8 0, .int .u8 0, .int .u8 5] 5) := ⟨_, rfl⟩
  have OL : Hid (Only (fun _ => False) w wl) := by rw [hwl]; exact (Only.refl _ w).alloc _
  have BL : Hid (Bs .u8 wl (.slice (some ⟨w.heap.size, 0, none⟩) 9 9) [1, 0, 0, 0, 0, 0, 0, 0, 5]) := by rw [hwl]; exact Bs.litN .u8 w 5 [1, 0, 0, 0, 0, 0, 0, 0, 5] _ _ rfl rfl
  have HTL := hideIt (hT.past OL.out)
  have hsl : wl.heap.size = w.heap.size + 1 := by rw [hwl]; simp
  have A := encode11_all (.slice (some ⟨wl.heap.size, 0, none⟩) 3 3) [5, 5, 5] (wl.alloc (.cells #[.int .u64 5, .int .u64 5, .int .u64 5] 38)) (Bs.litN .u64 wl 38 [5, 5, 5] _ _ rfl rfl) u64_ex11 (HTL.out.past ((Only.refl (fun _ => False) wl).alloc _))
  rw [ENC11_ex] at A
  rw [hsl, hwl] at A
  have A' := hideIt A
  have HW := hideIt hwl
  clear A hwl hsl
  go_enter Tryd.func9, Tryd.ntmps9
  go_wp2_with fail
  refine A'.out.mono ?_
  rintro e w1 ⟨v1, rfl, own1, o1⟩
  have OL1 : Hid (Only (fun _ => False) wl w1) := by
    simp only [Hid]; rw [HW.out]; exact ((Only.refl (fun _ => False) _).alloc _).same o1
  have O1 := hideIt (OL.out.same OL1.out)
  have B1 := hideIt (Bs.of_own own1)
  have B := decode11_all (.slice (some ⟨w.heap.size, 0, none⟩) 9 9) [1, 0, 0, 0, 0, 0, 0, 0, 5] 3 w1 (BL.out.past OL1.out) (by intro x hx; simp at hx; omega) (by decide) (hT.past O1.out)
  rw [DEC11_ex] at B
  have B' := hideIt B
  obtain ⟨f1, c1, e1⟩ := B1.out.len
  subst e1
  clear A' own1 o1 B hT
  go_wp2_with fail
  refine B'.out.mono ?_
  rintro e w2 ⟨v2, rfl, own2, o2⟩
  have O2 := hideIt (O1.out.same o2)
  have B2 := hideIt (Bs.of_own own2)
  have SM := hideIt (same_eq _ (.slice (some ⟨w.heap.size, 0, none⟩) 9 9) [1, 0, 0, 0, 0, 0, 0, 0, 5] w2 (B1.out.past o2) (BL.out.past (OL1.out.same o2)) (by decide))
  obtain ⟨f2, c2, e2⟩ := B2.out.len
  subst e2
  clear B' own2 o2
  go_wp2_with fail
  refine SM.out.mono ?_
  rintro e w3 ⟨rfl, o3⟩
  have O3 := hideIt (O2.out.same o3)
  have SU := hideIt (lsame11 _ (.slice (some ⟨w3.heap.size, 0, none⟩) 3 3) [5, 5, 5] (w3.alloc (.cells #[.int .u64 5, .int .u64 5, .int .u64 5] 38)) ((B2.out.past o3).later ((Below.refl _ _).alloc (Nat.le_refl _) _)) (Bs.litN .u64 w3 38 [5, 5, 5] _ _ rfl rfl) (by decide))
  clear SM o3
  go_wp2_with fail
  refine SU.out.mono ?_
  rintro e w4 ⟨rfl, o4⟩
  have O4 := hideIt ((O3.out.alloc (.cells #[.int .u64 5, .int .u64 5, .int .u64 5] 38)).same o4)
  clear SU o4
  go_wp2
  go_ret
  exact ⟨rfl, O4.out⟩
end Go.Proofs.YtifbdjhbeanfaaaDoor
