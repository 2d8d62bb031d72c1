/- The sum of 64 bytes and of parts behind them. -/
import Derived.Test.YtbcfpiahhippaaaSu
import Derived.Test.YtbcfpiahhippaaaHm
namespace Go.Proofs.Ytbcfpiahhippaaa
open Go.RowKit

/-- the first k parts, one behind the other -/
def pcat (ls : Nat → List Int) : Nat → List Int
  | 0 => []
  | k + 1 => pcat ls k ++ ls k
theorem pcat_le (ls : Nat → List Int) (k n : Nat) (h : k ≤ n) : (pcat ls k).length ≤ (pcat ls n).length := by
  induction n with
  | zero => obtain rfl : k = 0 := by omega
            exact Nat.le_refl _
  | succ n ih =>
    by_cases e : k = n + 1
    · subst e; exact Nat.le_refl _
    · have := ih (by omega)
      rw [pcat, List.length_append]; omega
/-- parts in memory -/
def Ps (w : World) (p n : Nat) (ls : Nat → List Int) : Prop := ∀ i, i < n → ∃ u, w.cell? ⟨p, i, none⟩ = some u ∧ Bs .u8 w u (ls i) ∧ U8 (ls i)
theorem cell_past {w w' : World} {q : Addr} {u : Value} (h : w.cell? q = some u) (o : Only (fun _ => False) w w') : w'.cell? q = some u := by
  rw [← h]
  exact World.cell?_of_block (o.block _ (World.block_lt_of_cell? w _ h) (fun f => f))
theorem Ps.past {w w' : World} {p n : Nat} {ls : Nat → List Int} (h : Ps w p n ls) (o : Only (fun _ => False) w w') : Ps w' p n ls := fun i hi => by
  obtain ⟨u, h1, h2, h3⟩ := h i hi
  exact ⟨u, cell_past h1 o, h2.past o, h3⟩
theorem Blk.bs {w : World} {g : Nat} {t : TypeId} {xs : List Int} (h : Blk w g t (bl xs)) (n : Nat) (hn : xs.length = n) : Bs .u8 w (.slice (some ⟨g, 0, none⟩) n n) xs := by
  subst hn
  refine ⟨_, _, rfl, Nat.le_refl _, fun _ => ⟨g, 0, rfl, fun j hj => ?_⟩⟩
  rw [Nat.zero_add, h.cell, bl_at _ _ hj]

set_option maxHeartbeats 800000 in
set_option maxRecDepth 100000 in
theorem sumBehind_any (f : List Int) (hf : f.length = 64) (h8 : U8 f) (p n : Nat) (ls : Nat → List Int) (w : World) (hp : Ps w p n ls) (hl : (pcat ls n).length ≤ 10000000000) (hn : n ≤ 1000) :
    Calls Try.prog 38 #[.agg (bl f).toArray, .slice (some ⟨p, 0, none⟩) n n] w fun e w' => ∃ v, e = .returned v ∧ w'.ownsRow w.heap.size 5 1 v 32 ((SHA (f ++ pcat ls n)).map (Value.int .u8)) ∧ Only (fun _ => False) w w' := by
  have hzv := (zero_of_info (P := Try.prog) Try.zero33).1
  obtain ⟨Z, hZ⟩ : ∃ Z, Z = zH := ⟨_, rfl⟩
  rw [← hZ] at hzv
  obtain ⟨W1, hW1⟩ : ∃ W1, W1 = (w.alloc (.cells (bl f).toArray 50)).alloc (.cells Z.toArray 63) := ⟨_, rfl⟩
  have hN1 : Blk W1 w.heap.size 50 (bl f) := by rw [hW1]; exact (Blk.new w 50 (bl f)).alloc _
  have hN2 : Blk W1 (w.heap.size + 1) 63 zH := by
    have := Blk.new (w.alloc (.cells (bl f).toArray 50)) 63 Z
    rw [size_alloc] at this; rw [hW1, ← hZ]; exact this
  have hO1 : Only (fun _ => False) w W1 := by rw [hW1]; exact ((Only.refl _ _).alloc _).alloc _
  have WC := hideIt (write_hs (w.heap.size + 1) [] f (.slice (some ⟨w.heap.size, 0, none⟩) 64 64) W1 (Hs.zero hN2) (hN1.bs 64 hf) h8 (fun _ k hk e => by simp [Value.ownBlock] at hk; omega) (by rw [hf]; decide))
  rw [hf] at WC
  have HO1 := hideIt hO1
  have HW1 := hideIt hW1
  have HP := hideIt hp
  have HF := hideIt hf
  obtain ⟨B, hB⟩ : ∃ B, B = bl f := ⟨_, rfl⟩
  rw [← hB] at HW1 ⊢
  obtain ⟨G, hG⟩ : ∃ G, G = w.heap.size + 1 := ⟨_, rfl⟩
  have HG := hideIt hG
  clear hZ hW1 hN1 hN2 hO1 hp hf h8 hB hG
  go_enter Try.func38, Try.ntmps38
  go_wp2_with fail
  rw [← HW1.out]
  refine WC.out.mono ?_
  rintro e w3 ⟨rfl, hs3, on3⟩
  rw [List.nil_append] at hs3
  have S0 : Hid (Hs w3 G (f ++ pcat ls 0)) := by
    show _
    rw [show f ++ pcat ls 0 = f from List.append_nil f, HG.out]; exact .inl hs3
  have O0 := hideIt (HO1.out.trans on3 (fun i hi e => by omega))
  rw [← HG.out]
  clear hs3 on3 WC HW1 HO1 hzv
  go_wp2
  go_loopw [12] (fun i wr => ∃ j : Nat, j ≤ n ∧ i = .int .i64 j ∧ Hid (Hs wr G (f ++ pcat ls j)) ∧ Hid (Only (fun _ => False) w wr)) (fun i _ => n - (intOf i).toNat)
  case atStart => exact ⟨0, by omega, rfl, S0, O0⟩
  case round =>
    obtain ⟨j, hj, rfl, hS, hO⟩ := hrel
    clear S0 O0
    by_cases hlt : j < n
    · obtain ⟨u, hu, hbu, hu8⟩ := HP.out j hlt
      have hc : wr.cell? ⟨p, j, none⟩ = some u := cell_past hu hO.out
      have hle := pcat_le ls (j + 1) n (by omega)
      have A := hideIt (write_hs G (f ++ pcat ls j) (ls j) u wr hS.out (hbu.past hO.out) hu8 (fun hx k hk e => by have := hbu.blk_lt hx k hk; have := HG.out; omega) (by rw [pcat, List.length_append] at hle; rw [List.length_append, HF.out]; omega))
      have dlt : decide ((j : Int) < (n : Int)) = true := decide_eq_true (by omega)
      have dlt' : decide (j < n) = true := decide_eq_true hlt
      have i0 : (0 : Int) ≤ (j : Int) := by omega
      have i1 : (j : Int) < (n : Int) := by omega
      clear hu hbu hu8 hS hle
      go_wp2_with fail
      refine A.out.mono ?_
      rintro e w4 ⟨rfl, hs4, on4⟩
      have N1 : Hid (Hs w4 G (f ++ pcat ls (j + 1))) := by
        show _
        rw [pcat, ← List.append_assoc]; exact .inl hs4
      have N2 := hideIt (hO.out.trans on4 (fun i hi e => by have := HG.out; omega))
      clear hs4 on4 A hO hc
      go_wp2
      go_roundw
      case rel => exact ⟨j + 1, by omega, by go_num, N1, N2⟩
      case measure => simp [intOf]; omega
    · obtain rfl : j = n := by omega
      have A := hideIt (hsum_hs G (f ++ pcat ls j) wr hS.out (by rw [List.length_append, HF.out]; omega))
      have dlt : decide ((j : Int) < (j : Int)) = false := decide_eq_false (by omega)
      clear hS
      go_wp2_with fail
      refine A.out.mono ?_
      rintro e w4 ⟨v4, rfl, own4, on4⟩
      have F1 := hideIt (own_low own4 hO.out.size)
      have F2 := hideIt (hO.out.same on4)
      obtain ⟨ao4, cap4, e4⟩ := (Bs.of_own (k := .u8) (xs := SHA (f ++ pcat ls j)) (by rw [SHA_len]; exact own4)).len
      subst e4
      clear own4 on4 A
      go_wp2
      go_ret
      exact ⟨_, rfl, F1.out, F2.out⟩
end Go.Proofs.Ytbcfpiahhippaaa
