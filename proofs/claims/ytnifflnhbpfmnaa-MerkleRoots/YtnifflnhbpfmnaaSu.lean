/- Sum and Len. -/
import Derived.Test.YtnifflnhbpfmnaaWr
namespace Go.Proofs.Ytnifflnhbpfmnaa
open Go.RowKit

def zH : List Value := hc (List.replicate 8 0) (List.replicate 64 0) 0
theorem Try.zero33 : (Try.prog.info? 61).map (fun i => (i.zero, i.size)) = some (some (.agg zH.toArray), 73) := by kernel_rfl
theorem zero_u8 : U8 (List.replicate 64 0) := fun y hy => by
  rw [List.mem_replicate] at hy; obtain ⟨_, rfl⟩ := hy; decide
theorem Hs.zero {w : World} {g : Nat} (h : Blk w g 61 zH) : Hs w g [] := .inr ⟨rfl, _, _, h, rfl, rfl, zero_u8⟩
theorem Hs.blk {w : World} {g : Nat} {all : List Int} (h : Hs w g all) : ∃ cs, Blk w g 61 cs ∧ cs.length = 73 ∧ cs[72]? = some (.int .i64 (all.length : Int)) ∧ (∀ v ∈ cs, v.oneCell' = true) ∧ ∀ w' g', Blk w' g' 61 cs → Hs w' g' all := by
  have one : ∀ (st : List Nat) (pc : List Int) (n : Nat), ∀ v ∈ hc st pc n, v.oneCell' = true := fun st pc n v hv => by
    simp only [hc, List.mem_append, List.mem_singleton] at hv
    rcases hv with (h | h) | rfl
    · exact wl_one _ v h
    · exact bl_one _ v h
    · rfl
  rcases h with ⟨st, pc, h1, h2⟩ | ⟨rfl, st, pc, h1, h2, h3, h4⟩
  · exact ⟨_, h1, hc_len h2.sl h2.pl _, hc_n h2.sl h2.pl _, one _ _ _, fun w' g' h => .inl ⟨st, pc, h, h2⟩⟩
  · exact ⟨_, h1, hc_len h2 h3 _, hc_n h2 h3 _, one _ _ _, fun w' g' h => .inr ⟨rfl, st, pc, h, h2, h3, h4⟩⟩

/-- what a Hash that has been ended comes to -/
theorem sha_of {st : List Nat} {pc all : List Int} (h : HP st pc (all ++ endS all.length)) : st.flatMap be4 = SHA all := by
  unfold SHA
  rw [padS_end, ← h.st]
theorem own_nes {w : World} {lo : Nat} {E : TypeId} {v : Value} {n : Nat} {xs : List Value} (h : w.ownsRow lo E 1 v n xs) {g : Nat} (hg : g < lo) : ∀ k, v.ownBlock = some k → k ≠ g := fun k hk e => by
  have := (h.lt k hk).1; omega

set_option maxHeartbeats 800000 in
set_option maxRecDepth 100000 in
theorem hsum_hs (g : Nat) (all : List Int) (w : World) (h : Hs w g all) (hl : all.length ≤ 100000000000) :
    Calls Try.prog 47 #[.pointer (some ⟨g, 0, none⟩)] w fun e w' => ∃ v, e = .returned v ∧ w'.ownsRow w.heap.size 5 1 v 32 ((SHA all).map (Value.int .u8)) ∧ Only (fun _ => False) w w' := by
  obtain ⟨cs, h1, h2, h3, h4, h5⟩ := h.blk
  have hzv := (zero_of_info (P := Try.prog) Try.zero33).1
  obtain ⟨Z, hZ⟩ : ∃ Z, Z = zH := ⟨_, rfl⟩
  rw [← hZ] at hzv
  have HZ : Hid (Z.toArray.size = cs.toArray.size) := by
    show _ = _
    rw [hZ, List.size_toArray, List.size_toArray, h2]; rfl
  have HS : Hid ((Try.prog.info? 61).map (·.size) = some cs.toArray.size) := by
    show _ = _
    rw [List.size_toArray, h2]; exact Try.size33
  have HA := hideIt (all_oneCell_toArray h4)
  have HB := hideIt (h1.alloc (.cells Z.toArray 61))
  have hlt := h1.lt
  have hN1 : Blk ((w.alloc (.cells Z.toArray 61)).setRow w.heap.size cs.toArray) w.heap.size 61 cs := (Blk.new w 61 Z).row cs
  have hO1 : Only (fun _ => False) w ((w.alloc (.cells Z.toArray 61)).setRow w.heap.size cs.toArray) := ((Only.refl _ _).alloc _).setRow (fun f => absurd f (Nat.lt_irrefl _)) _
  obtain ⟨W1, hW1⟩ : ∃ W1, W1 = (w.alloc (.cells Z.toArray 61)).setRow w.heap.size cs.toArray := ⟨_, rfl⟩
  rw [← hW1] at hN1 hO1
  have HW1 := hideIt hW1
  have HH := hideIt (h5 _ _ hN1)
  have HO := hideIt hO1
  have hc : W1.cell? ⟨w.heap.size, 72, none⟩ = some (.int .i64 (all.length : Int)) := by rw [hN1.cell, h3]
  rw [hW1] at hc
  clear h h1 h2 h3 h4 h5 hZ hW1 hN1 hO1
  go_enter Try.func47, Try.ntmps47
  go_wp2_with (first | (refine wpList_load_row rfl 61 (.tmp 7) rfl g rfl 61 cs.toArray (0, 0) _ HB.out Try.underlying61 rfl HS.out ?_) | (refine wpList_store_row rfl 61 (.tmp 3) (.tmp 8) rfl w.heap.size cs.toArray rfl rfl 61 Z.toArray (Blk.new w 61 Z) HS.out HZ.out HA.out ?_))
  rw [← HW1.out]
  clear hc
  refine (ending_any all.length (by omega) W1).mono ?_
  rintro e w2 ⟨v2, rfl, own2, on2⟩
  have hgs : w.heap.size < W1.heap.size := HH.out.lt
  have hsz1 := HO.out.size
  have b2 : Bs .u8 w2 v2 (endS all.length) := Bs.of_own (by rw [endS_len]; exact own2)
  have WC := hideIt (write_hs w.heap.size all (endS all.length) v2 w2 (HH.out.past on2) b2 (endS_range _) (fun _ => own_nes own2 hgs) (by rw [endS_len]; have := zpad_lt all.length; omega))
  have O2 := hideIt (HO.out.same on2)
  have HG2 : Hid (w.heap.size < w2.heap.size) := by have := on2.size; show _ < _; omega
  obtain ⟨ao2, cap2, e2⟩ := b2.len
  subst e2
  clear own2 b2 on2 hgs HW1 HH HB hzv HZ HS HA
  go_wp2_with fail
  refine WC.out.mono ?_
  rintro e w3 ⟨rfl, ⟨st, pc, hb3, hp3⟩, on3⟩
  have O3 : Only (fun _ => False) w w3 := O2.out.trans on3 (fun i hi e => by omega)
  have hb4 : Blk w3 w.heap.size 61 ([] ++ wl st ++ (bl pc ++ [.int .i64 (((all ++ endS all.length).length : Nat) : Int)])) := by
    unfold hc at hb3
    rw [List.nil_append, ← List.append_assoc]; exact hb3
  have R0 : Hid (w3.rangeAt w.heap.size 0 (wl st)) := hb4.range
  have SZ : Hid ((Try.prog.info? 58).map (·.size) = some (wl st).length) := by
    show _ = _
    rw [wl_len, hp3.sl]; exact Try.size30
  have BC := hideIt (bytesOf_any st hp3.sl w3)
  rw [sha_of hp3] at BC
  have HO3 := hideIt O3
  clear hb3 hb4 on3 O3 hp3 O2 WC
  go_wp2_with (refine wpList_load_mid rfl 58 (.tmp 13) rfl w.heap.size 0 rfl (wl st) _ R0.out Try.underlying58 rfl SZ.out ?_)
  refine BC.out.mono ?_
  rintro e w4 ⟨v4, rfl, own4, on4⟩
  have F1 := hideIt (own_low own4 HO3.out.size)
  have F2 := hideIt (HO3.out.same on4)
  obtain ⟨ao4, cap4, e4⟩ := (Bs.of_own (k := .u8) (xs := SHA all) (by rw [SHA_len]; exact own4)).len
  subst e4
  clear own4 on4 BC
  go_wp2
  go_ret
  exact ⟨_, rfl, F1.out, F2.out⟩

set_option maxHeartbeats 800000 in
set_option maxRecDepth 100000 in
theorem hsum_nil (w : World) :
    Calls Try.prog 47 #[.pointer none] w fun e w' => ∃ v, e = .returned v ∧ w'.ownsRow w.heap.size 5 1 v 32 ((SHA []).map (Value.int .u8)) ∧ Only (fun _ => False) w w' := by
  obtain ⟨all, hall⟩ : ∃ all : List Int, all = [] := ⟨_, rfl⟩
  rw [← hall]
  have hl : all.length ≤ 100000000000 := by rw [hall]; simp
  have hzv := (zero_of_info (P := Try.prog) Try.zero33).1
  obtain ⟨Z, hZ⟩ : ∃ Z, Z = zH := ⟨_, rfl⟩
  rw [← hZ] at hzv
  have hN1 : Blk (w.alloc (.cells Z.toArray 61)) w.heap.size 61 Z := Blk.new w 61 Z
  have hO1 : Only (fun _ => False) w (w.alloc (.cells Z.toArray 61)) := (Only.refl _ _).alloc _
  obtain ⟨W1, hW1⟩ : ∃ W1, W1 = w.alloc (.cells Z.toArray 61) := ⟨_, rfl⟩
  rw [← hW1] at hN1 hO1
  have HW1 := hideIt hW1
  have HH : Hid (Hs W1 w.heap.size all) := by
    show _
    rw [hall]
    exact Hs.zero (by rw [← hZ]; exact hN1)
  have HO := hideIt hO1
  have hc : W1.cell? ⟨w.heap.size, 72, none⟩ = some (.int .i64 (all.length : Int)) := by rw [hN1.cell, hZ, hall]; rfl
  rw [hW1] at hc
  clear hZ hW1 hN1 hO1 hall
  go_enter Try.func47, Try.ntmps47
  go_wp2_with fail
  rw [← HW1.out]
  clear hc
  refine (ending_any all.length (by omega) W1).mono ?_
  rintro e w2 ⟨v2, rfl, own2, on2⟩
  have hgs : w.heap.size < W1.heap.size := HH.out.lt
  have hsz1 := HO.out.size
  have b2 : Bs .u8 w2 v2 (endS all.length) := Bs.of_own (by rw [endS_len]; exact own2)
  have WC := hideIt (write_hs w.heap.size all (endS all.length) v2 w2 (HH.out.past on2) b2 (endS_range _) (fun _ => own_nes own2 hgs) (by rw [endS_len]; have := zpad_lt all.length; omega))
  have O2 := hideIt (HO.out.same on2)
  have HG2 : Hid (w.heap.size < w2.heap.size) := by have := on2.size; show _ < _; omega
  obtain ⟨ao2, cap2, e2⟩ := b2.len
  subst e2
  clear own2 b2 on2 hgs HW1 HH hzv
  go_wp2_with fail
  refine WC.out.mono ?_
  rintro e w3 ⟨rfl, ⟨st, pc, hb3, hp3⟩, on3⟩
  have O3 : Only (fun _ => False) w w3 := O2.out.trans on3 (fun i hi e => by omega)
  have hb4 : Blk w3 w.heap.size 61 ([] ++ wl st ++ (bl pc ++ [.int .i64 (((all ++ endS all.length).length : Nat) : Int)])) := by
    unfold hc at hb3
    rw [List.nil_append, ← List.append_assoc]; exact hb3
  have R0 : Hid (w3.rangeAt w.heap.size 0 (wl st)) := hb4.range
  have SZ : Hid ((Try.prog.info? 58).map (·.size) = some (wl st).length) := by
    show _ = _
    rw [wl_len, hp3.sl]; exact Try.size30
  have BC := hideIt (bytesOf_any st hp3.sl w3)
  rw [sha_of hp3] at BC
  have HO3 := hideIt O3
  clear hb3 hb4 on3 O3 hp3 O2 WC
  go_wp2_with (refine wpList_load_mid rfl 58 (.tmp 13) rfl w.heap.size 0 rfl (wl st) _ R0.out Try.underlying58 rfl SZ.out ?_)
  refine BC.out.mono ?_
  rintro e w4 ⟨v4, rfl, own4, on4⟩
  have F1 := hideIt (own_low own4 HO3.out.size)
  have F2 := hideIt (HO3.out.same on4)
  obtain ⟨ao4, cap4, e4⟩ := (Bs.of_own (k := .u8) (xs := SHA all) (by rw [SHA_len]; exact own4)).len
  subst e4
  clear own4 on4 BC
  go_wp2
  go_ret
  exact ⟨_, rfl, F1.out, F2.out⟩

set_option maxHeartbeats 800000 in
set_option maxRecDepth 100000 in
/-- THE SUM OF BYTES -/
theorem ssum_bs (v : Value) (xs : List Int) (w : World) (hb : Bs .u8 w v xs) (h8 : U8 xs) (hl : xs.length ≤ 100000000000) :
    Calls Try.prog 33 #[v] w fun e w' => ∃ v', e = .returned v' ∧ w'.ownsRow w.heap.size 5 1 v' 32 ((SHA xs).map (Value.int .u8)) ∧ Only (fun _ => False) w w' := by
  have hzv := (zero_of_info (P := Try.prog) Try.zero33).1
  obtain ⟨Z, hZ⟩ : ∃ Z, Z = zH := ⟨_, rfl⟩
  rw [← hZ] at hzv
  have hN1 : Blk (w.alloc (.cells Z.toArray 61)) w.heap.size 61 Z := Blk.new w 61 Z
  have hO1 : Only (fun _ => False) w (w.alloc (.cells Z.toArray 61)) := (Only.refl _ _).alloc _
  have WC := hideIt (write_hs w.heap.size [] xs v (w.alloc (.cells Z.toArray 61)) (Hs.zero (by rw [← hZ]; exact hN1)) (hb.past hO1) h8 (fun hx k hk e => by have := hb.blk_lt hx k hk; omega) (by simpa using Nat.le_trans hl (by decide)))
  have HO := hideIt hO1
  clear hZ hN1 hO1 hb h8
  go_enter Try.func33, Try.ntmps33
  go_wp2_with fail
  refine WC.out.mono ?_
  rintro e w3 ⟨rfl, hs3, on3⟩
  rw [List.nil_append] at hs3
  have HO3 := hideIt (HO.out.trans on3 (fun i hi e => by omega))
  have BC := hideIt (hsum_hs w.heap.size xs w3 (.inl hs3) hl)
  clear hs3 on3 WC HO
  go_wp2_with fail
  refine BC.out.mono ?_
  rintro e w4 ⟨v4, rfl, own4, on4⟩
  have F1 := hideIt (own_low own4 HO3.out.size)
  have F2 := hideIt (HO3.out.same on4)
  obtain ⟨ao4, cap4, e4⟩ := (Bs.of_own (k := .u8) (xs := SHA xs) (by rw [SHA_len]; exact own4)).len
  subst e4
  clear own4 on4 BC
  go_wp2
  go_ret
  exact ⟨_, rfl, F1.out, F2.out⟩
end Go.Proofs.Ytnifflnhbpfmnaa
