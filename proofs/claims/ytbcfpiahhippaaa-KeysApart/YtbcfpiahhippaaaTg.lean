/- A tag: what any key and any parts come to. -/
import Derived.Test.YtbcfpiahhippaaaFu
import Derived.Test.YtbcfpiahhippaaaMk
import Derived.Test.YtbcfpiahhippaaaSb
namespace Go.Proofs.Ytbcfpiahhippaaa
open Go.RowKit

theorem Ps.one {w : World} {u : Value} {xs : List Int} (h : Bs .u8 w u xs) (h8 : U8 xs) : Ps (w.alloc (.cells #[u] 22)) w.heap.size 1 (fun _ => xs) := fun i hi => by
  obtain rfl : i = 0 := by omega
  refine ⟨u, ?_, h.past ((Only.refl _ _).alloc _), h8⟩
  have := (Blk.new w 22 [u]).cell 0
  rw [this]; rfl
theorem pcat_one (xs : List Int) : pcat (fun _ => xs) 1 = xs := List.nil_append _

set_option maxHeartbeats 800000 in
set_option maxRecDepth 100000 in
theorem tagOf_any (v : Value) (key : List Int) (p n : Nat) (ls : Nat → List Int) (w : World) (hb : Bs .u8 w v key) (h8 : U8 key) (hk : key.length ≤ 10000000000) (hp : Ps w p n ls) (hl : (pcat ls n).length ≤ 10000000000) (hn : n ≤ 1000) :
    Calls Try.prog 29 #[v, .slice (some ⟨p, 0, none⟩) n n] w fun e w' => ∃ u, e = .returned u ∧ w'.ownsRow w.heap.size 5 1 u 32 ((MACL key (pcat ls n)).map (Value.int .u8)) ∧ Only (fun _ => False) w w' := by
  have A := hideIt (filled_any v key w hb h8 (by omega))
  have hzv := (zero_of_info (P := Try.prog) Try.zero42h).1
  obtain ⟨Z, hZ⟩ : ∃ Z, Z = z64 := ⟨_, rfl⟩
  rw [← hZ] at hzv
  obtain ⟨k, hkk⟩ : ∃ k, k = pad64 key := ⟨_, rfl⟩
  have hkl : k.length = 64 := by rw [hkk, pad64_len]
  have hk8 : U8 k := by rw [hkk]; exact pad64_u8 h8
  have hM : MACL key (pcat ls n) = SHA (xorB 92 k ++ SHA (xorB 54 k ++ pcat ls n)) := by rw [hkk]; rfl
  rw [hM]
  rw [← hkk] at A
  have HX : Hid (∀ x W, x < 256 → Calls Try.prog 39 #[.agg (bl k).toArray, .int .u8 ((x : Nat) : Int)] W fun e w' => e = .returned (.agg (bl (xorB x k)).toArray) ∧ Only (fun _ => False) W w') := fun x W hx => marked_any k hkl hk8 x hx W
  have HL : Hid (∀ x, (xorB x k).length = 64) := fun x => by rw [xorB_len, hkl]
  have H8 : Hid (∀ x, x < 256 → U8 (xorB x k)) := fun x hx => xorB_u8 x hx hk8
  obtain ⟨C, hC⟩ : ∃ C, C = bl k := ⟨_, rfl⟩
  have hCl : C.length = 64 := by rw [hC, bl_len, hkl]
  have HSZ : Hid ((Try.prog.info? 50).map (·.size) = some C.toArray.size) := by
    show _ = _
    rw [List.size_toArray, hCl]; exact Try.size31
  have HZ2 : Hid (Z.toArray.size = C.toArray.size) := by
    show _ = _
    rw [List.size_toArray, List.size_toArray, hCl, hZ]; simp [z64, bl_len]
  have HA : Hid (C.toArray.all (·.oneCell') = true) := by
    show _ = _
    rw [hC]; exact all_oneCell_toArray (bl_one _)
  rw [← hC] at A HX
  have HP := hideIt (And.intro hp hl)
  clear hZ hkk hkl hk8 hM hC hCl hb h8 hp hl
  go_enter Try.func29, Try.ntmps29
  go_wp2_with fail
  refine A.out.mono ?_
  rintro e w1 ⟨rfl, on1⟩
  obtain ⟨G, hG⟩ : ∃ G, G = w1.heap.size := ⟨_, rfl⟩
  obtain ⟨W2, hW2⟩ : ∃ W2, W2 = (w1.alloc (.cells Z.toArray 50)).setRow w1.heap.size C.toArray := ⟨_, rfl⟩
  have HN := hideIt (Blk.new w1 50 Z)
  have hB2 : Blk W2 G 50 C := by rw [hW2, hG]; exact (Blk.new w1 50 Z).row C
  have hO2 : Only (fun _ => False) w W2 := by rw [hW2]; exact (on1.alloc _).setRow (fun h => absurd h (by have := on1.size; omega)) _
  have M1 := hideIt (HX.out 54 W2 (by decide))
  have HB2 := hideIt hB2
  have HO2 := hideIt hO2
  have HW2 := hideIt hW2.symm
  have HG := hideIt hG.symm
  have HB2' : Hid (Blk ((w1.alloc (.cells Z.toArray 50)).setRow w1.heap.size C.toArray) w1.heap.size 50 C) := (Blk.new w1 50 Z).row C
  clear A on1 hB2 hO2 hW2 hG
  go_wp2_with (first | (refine wpList_store_row rfl 50 (.tmp 5) (.tmp 8) rfl w1.heap.size C.toArray rfl rfl 50 Z.toArray HN.out HSZ.out HZ2.out HA.out ?_) | (refine wpList_load_row rfl 50 (.tmp 5) rfl w1.heap.size rfl 50 C.toArray (0, 0) _ HB2'.out Try.underlying50 rfl HSZ.out ?_))
  rw [HW2.out, HG.out]
  refine M1.out.mono ?_
  rintro e w3 ⟨rfl, on3⟩
  have O3 := hideIt (HO2.out.same on3)
  have HB3 := hideIt (HB2.out.past on3)
  have S1 := hideIt (sumBehind_any (xorB 54 k) (HL.out 54) (H8.out 54 (by decide)) p n ls w3 (HP.out.1.past O3.out) HP.out.2 hn)
  clear M1 on3 HB2 HO2 HW2 HG HB2' HN hzv
  go_wp2_with fail
  refine S1.out.mono ?_
  rintro e w4 ⟨v4, rfl, own4, on4⟩
  have O4 := hideIt (O3.out.same on4)
  have HB4 := hideIt (HB3.out.past on4)
  have b4 : Bs .u8 w4 v4 (SHA (xorB 54 k ++ pcat ls n)) := Bs.of_own (by rw [SHA_len]; exact own4)
  have h48 : U8 (SHA (xorB 54 k ++ pcat ls n)) := SHA_range _
  have h4l : (SHA (xorB 54 k ++ pcat ls n)).length = 32 := SHA_len _
  obtain ⟨I, hI⟩ : ∃ I, I = SHA (xorB 54 k ++ pcat ls n) := ⟨_, rfl⟩
  rw [← hI] at b4 h48 h4l
  have HI := hideIt hI
  have M2 := hideIt (HX.out 92 w4 (by decide))
  have HB := hideIt (And.intro b4 (And.intro h48 h4l))
  obtain ⟨ao4, cap4, e4⟩ := b4.len
  rw [h4l] at e4
  subst e4
  clear S1 own4 on4 b4 h48 h4l O3 HB3 hI
  go_wp2_with (refine wpList_load_row rfl 50 (.tmp 5) rfl G rfl 50 C.toArray (0, 0) _ HB4.out Try.underlying50 rfl HSZ.out ?_)
  refine M2.out.mono ?_
  rintro e w5 ⟨rfl, on5⟩
  have O5 : Only (fun _ => False) w (w5.alloc (.cells #[.slice ao4 32 cap4] 22)) := (O4.out.same on5).alloc _
  have S2 := hideIt (sumBehind_any (xorB 92 k) (HL.out 92) (H8.out 92 (by decide)) w5.heap.size 1 (fun _ => I) (w5.alloc (.cells #[.slice ao4 32 cap4] 22)) (Ps.one (HB.out.1.past on5) HB.out.2.1) (by rw [pcat_one, HB.out.2.2]; decide) (by decide))
  rw [pcat_one] at S2
  have HO5 := hideIt O5
  clear M2 on5 O5 O4 HB4 HB
  go_wp2_with fail
  refine S2.out.mono ?_
  rintro e w6 ⟨v6, rfl, own6, on6⟩
  have F1 := hideIt (own_low own6 HO5.out.size)
  have F2 := hideIt (HO5.out.same on6)
  obtain ⟨ao6, cap6, e6⟩ := (Bs.of_own (k := .u8) (xs := SHA (xorB 92 k ++ I)) (by rw [SHA_len]; exact own6)).len
  subst e6
  clear own6 on6 S2 HO5
  go_wp2
  go_ret
  exact ⟨_, rfl, by rw [← HI.out]; exact F1.out, F2.out⟩

set_option maxHeartbeats 800000 in
set_option maxRecDepth 100000 in
theorem mac_bs (v u : Value) (key b : List Int) (w : World) (hb : Bs .u8 w v key) (h8 : U8 key) (hk : key.length ≤ 10000000000) (hu : Bs .u8 w u b) (hu8 : U8 b) (hl : b.length ≤ 10000000000) :
    Calls Try.prog 19 #[v, u] w fun e w' => ∃ r, e = .returned r ∧ w'.ownsRow w.heap.size 5 1 r 32 ((MACL key b).map (Value.int .u8)) ∧ Only (fun _ => False) w w' := by
  have hO1 : Only (fun _ => False) w (w.alloc (.cells #[u] 22)) := (Only.refl _ _).alloc _
  have A := hideIt (tagOf_any v key w.heap.size 1 (fun _ => b) (w.alloc (.cells #[u] 22)) (hb.past hO1) h8 hk (Ps.one hu hu8) (by rw [pcat_one]; exact hl) (by decide))
  rw [pcat_one] at A
  have HO1 := hideIt hO1
  obtain ⟨aou, capu, rfl⟩ := hu.len
  obtain ⟨m, hm⟩ : ∃ m, m = b.length := ⟨_, rfl⟩
  rw [← hm] at A HO1 ⊢
  clear hO1 hb h8 hk hu hu8 hl hm
  go_enter Try.func19, Try.ntmps19
  go_wp2_with fail
  refine A.out.mono ?_
  rintro e w6 ⟨v6, rfl, own6, on6⟩
  have F1 := hideIt (own_low own6 HO1.out.size)
  have F2 := hideIt (HO1.out.same on6)
  obtain ⟨ao6, cap6, e6⟩ := (Bs.of_own (k := .u8) (xs := MACL key b) (by rw [MACL_len]; exact own6)).len
  subst e6
  clear own6 on6 A HO1
  go_wp2
  go_ret
  exact ⟨_, rfl, F1.out, F2.out⟩
end Go.Proofs.Ytbcfpiahhippaaa
