/- The statements' own: same; a text that is sealed is opened. -/
import Derived.Test.YtjiippbjflpkkaaOp17
import Derived.Test.YtjiippbjflpkkaaSame2
import Derived.Test.YtjiippbjflpkkaaSameB
import Derived.Lib.SlBytesConst
import Derived.Deep.RegionHeld3
namespace Go.Proofs.Ytjiippbjflpkkaa
open Go.RowKit

set_option maxHeartbeats 400000 in
set_option maxRecDepth 100000 in
theorem lsame_eq (va vb : Value) (xs : List Int) (w : World) (ha : Bs .u8 w va xs) (hb : Bs .u8 w vb xs) (hl : xs.length ≤ 140737488355328) :
    Calls Try.prog 12 #[va, vb] w fun e w' => e = .returned (.bool true) ∧ Only (fun _ => False) w w' := by
  have A := hideIt (bsame_eq va vb xs w ha hb hl)
  clear ha hb
  go_enter Try.func12, Try.ntmps12
  go_wp2_with fail
  refine A.out.mono ?_
  rintro e w1 ⟨rfl, o1⟩
  have H := hideIt o1
  clear o1 A
  go_wp2
  go_ret
  exact ⟨rfl, H.out⟩
set_option maxHeartbeats 400000 in
set_option maxRecDepth 100000 in
theorem lsame_any (va vb : Value) (xs ys : List Int) (w : World) (ha : Bs .u8 w va xs) (hb : Bs .u8 w vb ys) (hl : xs.length ≤ 140737488355328) :
    Calls Try.prog 12 #[va, vb] w fun e w' => e = .returned (.bool (decide (xs = ys))) ∧ Only (fun _ => False) w w' := by
  have A := hideIt (same_any va vb xs ys w ha hb hl)
  obtain ⟨d, hd⟩ : ∃ d, d = decide (xs = ys) := ⟨_, rfl⟩
  rw [← hd] at A ⊢
  clear ha hb hd
  go_enter Try.func12, Try.ntmps12
  go_wp2_with fail
  refine A.out.mono ?_
  rintro e w1 ⟨rfl, o1⟩
  have H := hideIt o1
  clear o1 A
  go_wp2
  go_ret
  exact ⟨rfl, H.out⟩
theorem Bs.litF (k : IntKind) (w : World) (E : TypeId) (fr : Nat × Nat) (xs : List Int) (N n : Nat) (hN : w.heap.size = N) (hn : xs.length = n) : Bs k (w.alloc (.cells (xs.map (Value.int k)).toArray E fr)) (.slice (some ⟨N, 0, none⟩) n n) xs := by
  subst hN hn
  refine ⟨_, _, rfl, Nat.le_refl _, fun _ => ⟨w.heap.size, 0, rfl, fun j hj => ?_⟩⟩
  unfold World.cell?
  simp only [heap_alloc_new]
  simp [List.getElem?_eq_getElem hj]
def Y32 : List Value := bl (List.replicate 32 0)
theorem mk32 (w : World) : (Instr.makeSlice 22 (.int .i64 32) (.int .i64 32)).run Try.prog w = .ok (.slice (some ⟨w.heap.size, 0, none⟩) 32 32) (w.alloc (.cells Y32.toArray 5)) := by kernel_rfl
def K0 : List Int := List.replicate 32 0
def N0 : List Int := List.replicate 12 0
def P3 : List Int := [97, 98, 99]
theorem K0_8 : U8 K0 := by intro y hy; have := List.eq_of_mem_replicate hy; omega
theorem N0_8 : U8 N0 := by intro y hy; have := List.eq_of_mem_replicate hy; omega
theorem P3_8 : U8 P3 := by intro y hy; simp [P3] at hy; omega
theorem U8.none : U8 [] := by intro y hy; cases hy
theorem KN0 : KN K0 N0 := by decide
theorem OP_ok {key nonce ad p : List Int} (h : KN key nonce) (h8 : U8 p) : OPe key nonce ad (ASL key nonce ad p) = 0 ∧ OPt key nonce ad (ASL key nonce ad p) = p := by
  have h16 : 16 ≤ (ASL key nonce ad p).length := by rw [ASL_len]; omega
  have hok := aead_ok key nonce ad p
  refine ⟨?_, ?_⟩
  · unfold OPe; rw [if_pos h, if_pos h16, if_pos hok]
  · unfold OPt; rw [if_pos h, if_pos h16, if_pos hok, aead_back key nonce ad p h8]
set_option maxHeartbeats 1600000 in
set_option maxRecDepth 100000 in
theorem awake_any (w : World) : Calls Try.prog 9 #[] w fun e w' => e = .returned (.bool true) ∧ Only (fun _ => False) w w' := by
  have hmk := mk32
  obtain ⟨Y, hY⟩ : ∃ Y, Y = Y32 := ⟨_, rfl⟩
  have kc := fun (w : World) (C : Array Value) (n c : Nat) => Lib.run_convert_bytes_const (P := Try.prog) w 22 5 C n c Try.underlying22 Try.underlying5
  have kc2 : ∀ (w : World) (o : Obj) (C : Array Value) (n c : Nat), (convert 22 22 (.slice (some ⟨w.heap.size + 1, 0, none⟩) n c)).run Try.prog ((w.alloc o).alloc (.cells C 5)) = .ok (.slice (some ⟨w.heap.size + 1, 0, none⟩) n c) ((w.alloc o).alloc (.cells C 5 (C.size, C.size + 1))) := fun w o C n c => by
    have := Lib.run_convert_bytes_const (P := Try.prog) (w.alloc o) 22 5 C n c Try.underlying22 Try.underlying5
    rw [size_alloc] at this; exact this
  have hbk : Bs .u8 (w.alloc (.cells Y.toArray 5)) (.slice (some ⟨w.heap.size, 0, none⟩) 32 32) K0 := by rw [hY]; exact Bs.of_bl (s := K0) (Blk.new w 5 Y32) 32 rfl
  have hbn : Bs .u8 (w.alloc (.cells Y.toArray 5)) (.slice (some ⟨w.heap.size, 0, none⟩) 12 32) N0 := hbk.head (n := 12) (by decide)
  rw [← hY] at hmk
  have oY : Only (fun _ => False) w (w.alloc (.cells Y.toArray 5)) := (Only.refl _ _).alloc _
  have o2 : Only (fun _ => False) (w.alloc (.cells Y.toArray 5)) ((w.alloc (.cells Y.toArray 5)).alloc (.cells #[.int .u8 97, .int .u8 98, .int .u8 99] 5 (3, 4))) := (Only.refl _ _).alloc _
  have bp : Bs .u8 ((w.alloc (.cells Y.toArray 5)).alloc (.cells #[.int .u8 97, .int .u8 98, .int .u8 99] 5 (3, 4))) (.slice (some ⟨w.heap.size + 1, 0, none⟩) 3 3) P3 := Bs.litF .u8 (w.alloc (.cells Y.toArray 5)) 5 (3, 4) P3 _ _ (size_alloc _ _) rfl
  have S := hideIt (seal_ok (.slice (some ⟨w.heap.size, 0, none⟩) 32 32) (.slice (some ⟨w.heap.size, 0, none⟩) 12 32) (.slice none 0 0) (.slice (some ⟨w.heap.size + 1, 0, none⟩) 3 3) K0 N0 [] P3 KN0 K0_8 N0_8 U8.none P3_8 (by decide) (by decide) _ (hbk.past o2) (hbn.past o2) (Bs.nil _ _) NoCap.nil bp)
  rw [show P3.length + 16 = 19 from rfl] at S
  have HK : Hid (∀ W, Only (fun _ => False) ((w.alloc (.cells Y.toArray 5)).alloc (.cells #[.int .u8 97, .int .u8 98, .int .u8 99] 5 (3, 4))) W → Bs .u8 W (.slice (some ⟨w.heap.size, 0, none⟩) 32 32) K0 ∧ Bs .u8 W (.slice (some ⟨w.heap.size, 0, none⟩) 12 32) N0 ∧ Only (fun _ => False) w W) := fun W o => ⟨hbk.past (o2.same o), hbn.past (o2.same o), oY.same (o2.same o)⟩
  have HL : Hid ((ASL K0 N0 [] P3).length = 19 ∧ U8 (ASL K0 N0 [] P3)) := ⟨by rw [ASL_len]; rfl, ASL_u8 _ _ _ _ P3_8⟩
  have HO := hideIt (OP_ok (ad := []) KN0 P3_8)
  obtain ⟨A, hA⟩ : ∃ A, A = ASL K0 N0 [] P3 := ⟨_, rfl⟩
  rw [← hA] at S HL HO
  clear hY hA hbk hbn oY o2 bp
  go_enter Try.func9, Try.ntmps9
  go_wp2_with fail
  refine S.out.mono ?_
  rintro e w1 ⟨v1, rfl, own1, o1⟩
  obtain ⟨ao, cap, rfl⟩ := own_form own1
  have b1 : Bs .u8 w1 (.slice ao 19 cap) A := Bs.of_own (k := .u8) (E := 5) (lo := _) (by rw [HL.out.1]; exact own1)
  have hcap : 19 ≤ cap := b1.room
  have HK1 := HK.out w1 o1
  have O := hideIt (open_any (.slice (some ⟨w.heap.size, 0, none⟩) 32 32) (.slice (some ⟨w.heap.size, 0, none⟩) 12 32) (.slice none 0 0) (.slice ao 19 cap) K0 N0 [] A K0_8 N0_8 U8.none HL.out.2 (by decide) (by rw [HL.out.1]; decide) w1 HK1.1 HK1.2.1 (Bs.nil _ _) NoCap.nil b1 (NoCap.of_own own1))
  rw [HO.out.1, HO.out.2] at O
  have O1 := hideIt HK1.2.2
  have HK2 : Hid (∀ W, Only (fun _ => False) w1 W → Bs .u8 W (.slice (some ⟨w.heap.size, 0, none⟩) 32 32) K0 ∧ Bs .u8 W (.slice (some ⟨w.heap.size, 0, none⟩) 12 32) N0) := fun W o => ⟨HK1.1.past o, HK1.2.1.past o⟩
  have hc15 : (15 : Int) ≤ (cap : Int) := by omega
  clear own1 o1 b1 HK1 S HK hcap
  go_wp2_with fail
  refine O.out.mono ?_
  rintro e w2 ⟨v2, rfl, own2, o2⟩
  have B2 : Hid (Bs .u8 w2 v2 P3) := Bs.of_own (k := .u8) (E := 5) own2
  have O2 := hideIt (O1.out.same o2)
  have OS := hideIt (fun (W : World) (o : Only (fun _ => False) w2 W) => open_short (.slice (some ⟨w.heap.size, 0, none⟩) 32 32) (.slice (some ⟨w.heap.size, 0, none⟩) 12 32) (.slice none 0 0) ao 15 cap (by decide) K0 N0 KN0 K0_8 N0_8 W (HK2.out W (o2.same o)).1 (HK2.out W (o2.same o)).2)
  clear own2 o2 O O1 HK2
  go_wp2_with fail
  go_region_held3 (fun _ => True) (trivial) (first | (go_at_call 13; refine (OS.out _ ((Only.refl _ _).drew)).mono ?_; rintro e w3 ⟨rfl, o3⟩; have O3 := hideIt (((Only.refl (fun _ => False) w2).drew).same o3); clear o3))
  have bl3 : Bs .u8 (w3.alloc (.cells #[.int .u8 97, .int .u8 98, .int .u8 99] 5 (3, 4))) (.slice (some ⟨w3.heap.size, 0, none⟩) 3 3) P3 := Bs.litF .u8 w3 5 (3, 4) P3 _ _ rfl rfl
  have oL : Only (fun _ => False) w3 (w3.alloc (.cells #[.int .u8 97, .int .u8 98, .int .u8 99] 5 (3, 4))) := (Only.refl _ _).alloc _
  have SA := hideIt (lsame_eq v2 _ P3 _ (B2.out.past (O3.out.same oL)) bl3 (by decide))
  have O4 := hideIt (O2.out.same (O3.out.same oL))
  clear OS bl3 oL B2 O2 O3 hmk kc2
  go_wp2_with fail
  refine SA.out.mono ?_
  rintro e w4 ⟨rfl, o4⟩
  have F := hideIt (O4.out.same o4)
  clear o4 SA O4 kc
  go_wp2
  go_ret
  exact ⟨rfl, F.out⟩
end Go.Proofs.Ytjiippbjflpkkaa
