/- The document's example, and the statements' 'same'. -/
import Derived.Test.YtjljpdniofiaaaaCk
import Derived.Test.YtjljpdniofiaaaaSame2
import Derived.Test.YtjljpdniofiaaaaSameB
import Derived.Lib.SlBytesConst
namespace Go.Proofs.Ytjljpdniofiaaaa
open Go.RowKit

set_option maxHeartbeats 400000 in
set_option maxRecDepth 100000 in
theorem lsame_q (va vb : Value) (xs : List Int) (w : World) (ha : Bs .u8 w va xs) (hb : Bs .u8 w vb xs) (hl : xs.length ≤ 140737488355328) :
    Calls Try.prog 10 #[va, vb] w fun e w' => e = .returned (.bool true) ∧ ∃ m, w' = w.drewN m := by
  have A := hideIt (bsame_q va vb xs w ha hb hl)
  clear ha hb
  go_enter Try.func10, Try.ntmps10
  go_wp2_with fail
  refine A.out.mono ?_
  rintro e w1 ⟨rfl, m, hm⟩
  have H := hideIt hm
  clear hm A
  go_wp2
  go_ret
  exact ⟨rfl, m, H.out⟩
theorem lsame_eq (va vb : Value) (xs : List Int) (w : World) (ha : Bs .u8 w va xs) (hb : Bs .u8 w vb xs) (hl : xs.length ≤ 140737488355328) :
    Calls Try.prog 10 #[va, vb] w fun e w' => e = .returned (.bool true) ∧ Only (fun _ => False) w w' := by
  refine (lsame_q va vb xs w ha hb hl).mono ?_
  rintro e w' ⟨rfl, m, rfl⟩
  exact ⟨rfl, (Only.refl _ _).drewN m⟩
set_option maxHeartbeats 400000 in
set_option maxRecDepth 100000 in
theorem lsame_any (va vb : Value) (xs ys : List Int) (w : World) (ha : Bs .u8 w va xs) (hb : Bs .u8 w vb ys) (hl : xs.length ≤ 140737488355328) :
    Calls Try.prog 10 #[va, vb] w fun e w' => e = .returned (.bool (decide (xs = ys))) ∧ Only (fun _ => False) w w' := by
  have A := hideIt (same_any va vb xs ys w ha hb hl)
  obtain ⟨d, hd⟩ : ∃ d, d = decide (xs = ys) := ⟨_, rfl⟩
  rw [← hd] at A ⊢
  clear ha hb hd
  go_enter Try.func10, Try.ntmps10
  go_wp2_with fail
  refine A.out.mono ?_
  rintro e w1 ⟨rfl, o1⟩
  have H := hideIt o1
  clear o1 A
  go_wp2
  go_ret
  exact ⟨rfl, H.out⟩
theorem Bs.litF (k : IntKind) (w : World) (E : TypeId) (fr : Nat × Nat) (xs : List Int) (N n : Nat) (hN : w.heap.size = N) (hn : xs.length = n) : Bs k (w.alloc (.cells (xs.map (Value.int k)).toArray E fr)) (.slice (some ⟨N, 0, none⟩) n n) xs := by
  subst hN hn
  refine ⟨_, _, rfl, Nat.le_refl _, fun _ => ⟨w.heap.size, 0, rfl, fun j hj => ?_⟩⟩
  unfold World.cell?
  simp only [heap_alloc_new]
  simp [List.getElem?_eq_getElem hj]

def exK : List Int := [74, 101, 102, 101]
def exB : List Int := [119, 104, 97, 116, 32, 100, 111, 32, 121, 97, 32, 119, 97, 110, 116, 32, 102, 111, 114, 32, 110, 111, 116, 104, 105, 110, 103, 63]
theorem exK_8 : U8 exK := by intro y hy; simp [exK] at hy; omega
theorem exB_8 : U8 exB := by intro y hy; simp [exB] at hy; omega
theorem ex_at (j : Nat) (hj : j < 4) : (MACL exK exB).getD j 0 = ([91, 220, 193, 70] : List Int).getD j 0 := by
  rw [← MAC_ex, List.getD_eq_getElem?_getD, List.getD_eq_getElem?_getD, List.getElem?_take_of_lt hj]; rfl
def cJ : Array Value := #[.int .u8 74, .int .u8 101, .int .u8 102, .int .u8 101]
def cW : Array Value := #[.int .u8 119, .int .u8 104, .int .u8 97, .int .u8 116, .int .u8 32, .int .u8 100, .int .u8 111, .int .u8 32, .int .u8 121, .int .u8 97, .int .u8 32, .int .u8 119, .int .u8 97, .int .u8 110, .int .u8 116, .int .u8 32, .int .u8 102, .int .u8 111, .int .u8 114, .int .u8 32, .int .u8 110, .int .u8 111, .int .u8 116, .int .u8 104, .int .u8 105, .int .u8 110, .int .u8 103, .int .u8 63]
/-- the example's two texts, laid behind one another -/
theorem ex_two (w : World) : Bs .u8 ((w.alloc (.cells #[.int .u8 74, .int .u8 101, .int .u8 102, .int .u8 101] 5 (4, 5))).alloc (.cells #[.int .u8 119, .int .u8 104, .int .u8 97, .int .u8 116, .int .u8 32, .int .u8 100, .int .u8 111, .int .u8 32, .int .u8 121, .int .u8 97, .int .u8 32, .int .u8 119, .int .u8 97, .int .u8 110, .int .u8 116, .int .u8 32, .int .u8 102, .int .u8 111, .int .u8 114, .int .u8 32, .int .u8 110, .int .u8 111, .int .u8 116, .int .u8 104, .int .u8 105, .int .u8 110, .int .u8 103, .int .u8 63] 5 (28, 29))) (.slice (some ⟨w.heap.size, 0, none⟩) 4 4) exK ∧ Bs .u8 ((w.alloc (.cells #[.int .u8 74, .int .u8 101, .int .u8 102, .int .u8 101] 5 (4, 5))).alloc (.cells #[.int .u8 119, .int .u8 104, .int .u8 97, .int .u8 116, .int .u8 32, .int .u8 100, .int .u8 111, .int .u8 32, .int .u8 121, .int .u8 97, .int .u8 32, .int .u8 119, .int .u8 97, .int .u8 110, .int .u8 116, .int .u8 32, .int .u8 102, .int .u8 111, .int .u8 114, .int .u8 32, .int .u8 110, .int .u8 111, .int .u8 116, .int .u8 104, .int .u8 105, .int .u8 110, .int .u8 103, .int .u8 63] 5 (28, 29))) (.slice (some ⟨w.heap.size + 1, 0, none⟩) 28 28) exB := by
  constructor
  · exact (Bs.litF .u8 w 5 (4, 5) exK _ _ rfl rfl).past ((Only.refl _ _).alloc _)
  · exact Bs.litF .u8 (w.alloc (.cells #[.int .u8 74, .int .u8 101, .int .u8 102, .int .u8 101] 5 (4, 5))) 5 (28, 29) exB _ _ (size_alloc _ _) rfl
set_option maxHeartbeats 1600000 in
set_option maxRecDepth 100000 in
theorem awake_any (w : World) : Calls Try.prog 9 #[] w fun e w' => e = .returned (.bool true) ∧ Only (fun _ => False) w w' := by
  have kc := fun (w : World) (C : Array Value) (n c : Nat) => Lib.run_convert_bytes_const (P := Try.prog) w 22 5 C n c Try.underlying22 Try.underlying5
  have kc2 : ∀ (w : World) (o : Obj) (C : Array Value) (n c : Nat), (convert 22 22 (.slice (some ⟨w.heap.size + 1, 0, none⟩) n c)).run Try.prog ((w.alloc o).alloc (.cells C 5)) = .ok (.slice (some ⟨w.heap.size + 1, 0, none⟩) n c) ((w.alloc o).alloc (.cells C 5 (C.size, C.size + 1))) := fun w o C n c => by
    have := Lib.run_convert_bytes_const (P := Try.prog) (w.alloc o) 22 5 C n c Try.underlying22 Try.underlying5
    rw [size_alloc] at this; exact this
  have A := hideIt (mac_bs (.slice (some ⟨w.heap.size, 0, none⟩) 4 4) (.slice (some ⟨w.heap.size + 1, 0, none⟩) 28 28) exK exB ((w.alloc (.cells #[.int .u8 74, .int .u8 101, .int .u8 102, .int .u8 101] 5 (4, 5))).alloc (.cells #[.int .u8 119, .int .u8 104, .int .u8 97, .int .u8 116, .int .u8 32, .int .u8 100, .int .u8 111, .int .u8 32, .int .u8 121, .int .u8 97, .int .u8 32, .int .u8 119, .int .u8 97, .int .u8 110, .int .u8 116, .int .u8 32, .int .u8 102, .int .u8 111, .int .u8 114, .int .u8 32, .int .u8 110, .int .u8 111, .int .u8 116, .int .u8 104, .int .u8 105, .int .u8 110, .int .u8 103, .int .u8 63] 5 (28, 29))) (ex_two w).1 exK_8 (by decide) (ex_two w).2 exB_8 (by decide))
  go_enter Try.func9, Try.ntmps9
  go_wp2_with fail
  refine A.out.mono ?_
  rintro e w1 ⟨v1, rfl, own1, on1⟩
  have O1 : Only (fun _ => False) w w1 := (((Only.refl _ _).alloc _).alloc _).same on1
  obtain ⟨b1, g1, c1, rfl, _⟩ := mac_form own1
  have d0 := mac_at b1 0 (by decide)
  have d1 := mac_at b1 1 (by decide)
  have d2 := mac_at b1 2 (by decide)
  have d3 := mac_at b1 3 (by decide)
  rw [ex_at _ (by decide)] at d0 d1 d2 d3
  simp only [List.getD_cons_zero, List.getD_cons_succ] at d0 d1 d2 d3
  have hc1 : 32 ≤ c1 := by obtain ⟨_, _, e, h, _⟩ := b1; simp at e; obtain ⟨_, _, rfl⟩ := e; rw [MACL_len] at h; exact h
  have O2 : Only (fun _ => False) w1 ((w1.alloc (.cells #[.int .u8 74, .int .u8 101, .int .u8 102, .int .u8 101] 5 (4, 5))).alloc (.cells #[.int .u8 119, .int .u8 104, .int .u8 97, .int .u8 116, .int .u8 32, .int .u8 100, .int .u8 111, .int .u8 32, .int .u8 121, .int .u8 97, .int .u8 32, .int .u8 119, .int .u8 97, .int .u8 110, .int .u8 116, .int .u8 32, .int .u8 102, .int .u8 111, .int .u8 114, .int .u8 32, .int .u8 110, .int .u8 111, .int .u8 116, .int .u8 104, .int .u8 105, .int .u8 110, .int .u8 103, .int .u8 63] 5 (28, 29))) := ((Only.refl _ _).alloc _).alloc _
  have C := hideIt (check_bs (.slice (some ⟨w1.heap.size, 0, none⟩) 4 4) (.slice (some ⟨w1.heap.size + 1, 0, none⟩) 28 28) (.slice (some ⟨g1, 0, none⟩) 32 c1) exK exB (MACL exK exB) ((w1.alloc (.cells #[.int .u8 74, .int .u8 101, .int .u8 102, .int .u8 101] 5 (4, 5))).alloc (.cells #[.int .u8 119, .int .u8 104, .int .u8 97, .int .u8 116, .int .u8 32, .int .u8 100, .int .u8 111, .int .u8 32, .int .u8 121, .int .u8 97, .int .u8 32, .int .u8 119, .int .u8 97, .int .u8 110, .int .u8 116, .int .u8 32, .int .u8 102, .int .u8 111, .int .u8 114, .int .u8 32, .int .u8 110, .int .u8 111, .int .u8 116, .int .u8 104, .int .u8 105, .int .u8 110, .int .u8 103, .int .u8 63] 5 (28, 29))) (ex_two w1).1 exK_8 (by decide) (ex_two w1).2 exB_8 (by decide) (b1.past O2) (MACL_u8 _ _))
  rw [decide_eq_true (rfl : MACL exK exB = MACL exK exB)] at C
  have HO := hideIt (O1.same O2)
  clear A own1 on1 O1 O2 b1
  go_wp2_with fail
  refine C.out.mono ?_
  rintro e w2 ⟨rfl, on2⟩
  have F := hideIt (HO.out.same on2)
  clear C on2 HO kc kc2
  go_wp2
  go_ret
  exact ⟨rfl, F.out⟩
end Go.Proofs.Ytjljpdniofiaaaa
