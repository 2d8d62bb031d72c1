/- The walk of BitsNone: it answers true, and nothing that was there is turned. -/
import Derived.Test.YtngikldljpildaaAwake
namespace Go.Proofs.Ytngikldljpildaa
open Go.RowKit

set_option maxHeartbeats 400000 in
set_option maxRecDepth 100000 in
theorem get_nil (width : Int) (w : World) : Calls Try.prog 20 #[.pointer none, .int .i64 width] w fun e w' => e = .returned (.tuple #[.int .u64 0, .int .i64 1]) ∧ w = w' := by
  go_enter Try.func20, Try.ntmps20
  go_wp2
  go_ret2
  exact ⟨rfl, rfl⟩
set_option maxHeartbeats 400000 in
set_option maxRecDepth 100000 in
theorem left_nil (w : World) : Calls Try.prog 22 #[.pointer none] w fun e w' => e = .returned (.int .i64 0) ∧ w = w' := by
  go_enter Try.func22, Try.ntmps22
  go_wp2
  go_ret
  exact ⟨rfl, rfl⟩
set_option maxHeartbeats 400000 in
set_option maxRecDepth 100000 in
theorem end_nil (w : World) : Calls Try.prog 23 #[.pointer none] w fun e w' => e = .returned (.int .i64 1) ∧ w = w' := by
  go_enter Try.func23, Try.ntmps23
  go_wp2
  go_ret
  exact ⟨rfl, rfl⟩

theorem none_b1 : bytesI ([] ++ bitsOf (3 : Int).toNat (2 : Int).toNat) = [192] := by decide +kernel
theorem none_b2 : bytesI ([] ++ bitsOf (3 : Int).toNat (2 : Int).toNat ++ bitsOf (1 : Int).toNat (1 : Int).toNat) = [224] := by decide +kernel
theorem none_w3 : (wid (3 : Int).toNat : Int) ≤ 2 := by decide +kernel
theorem none_w1 : (wid (1 : Int).toNat : Int) ≤ 1 := by decide +kernel

set_option maxHeartbeats 800000 in
set_option maxRecDepth 100000 in
theorem none_walk (x width : Int) (w : World) :
    Calls Try.prog 7 #[.int .u64 x, .int .i64 width] w fun e w' => e = .returned (.bool true) ∧ Below w.heap.size w w' := by
  go_enter Try.func7, Try.ntmps7
  go_wp2_with fail
  refine (awake_any _).mono ?_
  rintro e w0 ⟨rfl, ho0⟩
  go_wp2_with fail
  refine (get_nil _ _).mono ?_
  rintro e wz ⟨rfl, rfl⟩
  go_wp2_with fail
  refine (put_wr (WrAt.new w0) 3 2 (by omega) (by omega) (by omega) (by omega) none_w3 (by simp)).mono ?_
  rintro e w1 ⟨rfl, v1, hw1, ho1, hs1⟩
  go_wp2_with fail
  refine (bytes_wr hw1 (by simp [bitsOf_length])).mono ?_
  rintro e w2 ⟨a, rfl, howna, ho2⟩
  rw [none_b1] at howna
  obtain ⟨g, cap, rfl, hg, hcell, hfr, hcap⟩ := own_one howna
  have hglt := (howna.lt g rfl).2
  have hw2 := hw1.keep ho2 (fun f => f) (fun _ _ f => f)
  go_wp2_with fail
  refine (put_wr hw2 1 1 (by omega) (by omega) (by omega) (by omega) none_w1 (by simp [bitsOf_length])).mono ?_
  rintro e w3 ⟨rfl, v3, hw3, ho3, hs3⟩
  have hgn : ¬ Foot w0.heap.size v1 g := by
    intro hf
    rcases hf with hf | hf
    · have := hw1.lt; have := hw1.le; omega
    · have := (hw1.own.lt g hf).2; omega
  have hblk := ho3.block g hglt hgn
  have hcell3 : w3.cell? ⟨g, 0, none⟩ = some (.int .u8 192) := by rw [World.cell?_of_block (a := ⟨g, 0, none⟩) hblk]; exact hcell
  have hfr3 : w3.frozen? ⟨g, 0, none⟩ = false := by rw [World.frozen?_of_block (a := ⟨g, 0, none⟩) hblk]; exact hfr
  have hg3 : ¬ Foot w0.heap.size v3 g := fun hf => hgn (foot_stays hs3 g hglt hf)
  have o4 : Only (fun k => k = g) w3 (w3.setCell ⟨g, 0, none⟩ (.int .u8 0)) := Only.setCell (S := fun k => k = g) (p := ⟨g, 0, none⟩) (Only.refl _ _) (fun _ => rfl) _
  have hw4 := hw3.keep o4 (fun e => hg3 (.inl e.symm)) (fun k hk e => hg3 (.inr (by rw [← e]; exact hk)))
  have B4 : Hid (Below w.heap.size w (w3.setCell ⟨g, 0, none⟩ (.int .u8 0))) := by
    have b0 : Below w.heap.size w w0 := ho0.low (Nat.le_refl _)
    have b0' := b0.alloc b0.size (.cells #[.slice none 0 0, .int .i64 0] 27)
    have b1 := b0'.trans (ho1.below b0'.size ((WrAt.new (T := 27) (E := 5) w0).foot_ge b0.size))
    have b2 := b1.trans (ho2.low b1.size)
    have b3 := b2.trans (ho3.below b2.size (hw2.foot_ge b0.size))
    exact b3.trans (o4.below b3.size (fun k e => by have := b1.size; omega))
  have W4 := hideIt hw4
  clear hw1 hw2 hw3 ho1 ho2 ho3 hs1 hs3 o4 hw4 hblk hcell hfr howna ho0
  go_wp2_with fail
  refine (bytes_wr W4.out (by simp [bitsOf_length])).mono ?_
  rintro e w5 ⟨b, rfl, hownb, ho5⟩
  rw [none_b2] at hownb
  obtain ⟨g5, cap5, rfl, hg5, hcell5, hfr5, hcap5⟩ := own_one hownb
  have B5 : Hid (Below w.heap.size w w5) := B4.out.trans (ho5.low B4.out.size)
  clear hownb ho5 W4 B4
  go_wp2_with (first | (go_at_call 11; refine (put_nil _ _ _).mono ?_; rintro e wz ⟨rfl, rfl⟩) | (go_at_call 14; refine (len_nil _).mono ?_; rintro e wz ⟨rfl, rfl⟩) | (go_at_call 16; refine (bytes_nil _).mono ?_; rintro e wz ⟨rfl, rfl⟩) | (go_at_call 22; refine (left_nil _).mono ?_; rintro e wz ⟨rfl, rfl⟩) | (go_at_call 23; refine (end_nil _).mono ?_; rintro e wz ⟨rfl, rfl⟩))
  go_ret
  exact ⟨rfl, B5.out⟩
end Go.Proofs.Ytngikldljpildaa
