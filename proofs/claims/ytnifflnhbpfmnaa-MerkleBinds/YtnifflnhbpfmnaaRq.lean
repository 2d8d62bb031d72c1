/- The document's own answers: the root, how many are told, the walk. -/
import Derived.Test.YtnifflnhbpfmnaaRr
import Derived.Test.YtnifflnhbpfmnaaMu20
import Derived.Test.YtnifflnhbpfmnaaXb
namespace Go.Proofs.Ytnifflnhbpfmnaa
open Go.RowKit

/-- bytes, and few -/
def R5 (ls : List (List Int)) : Prop := ∀ l ∈ ls, U8 l ∧ l.length ≤ 100000
theorem R5.r8 {ls : List (List Int)} (h : R5 ls) : R8 ls := fun l hl => ⟨(h l hl).1, by have := (h l hl).2; omega⟩
theorem R5.take {ls : List (List Int)} (h : R5 ls) (n : Nat) : R5 (ls.take n) := fun l hl => h l (List.mem_of_mem_take hl)
theorem R5.drop {ls : List (List Int)} (h : R5 ls) (n : Nat) : R5 (ls.drop n) := fun l hl => h l (List.mem_of_mem_drop hl)
theorem R5.at {ls : List (List Int)} (h : R5 ls) (j : Nat) : U8 (ls.getD j []) ∧ (ls.getD j []).length ≤ 100000 := by
  rw [List.getD_eq_getElem?_getD]
  cases hj : ls[j]? with
  | none => exact ⟨fun y hy => by simp at hy, by simp⟩
  | some l => exact h l (List.mem_of_getElem? hj)
theorem TOPF_r5 : ∀ (f : Nat) (l : List (List Int)), R5 l → U8 (TOPF f l) ∧ (TOPF f l).length ≤ 100000
  | 0, l, h => by
    unfold TOPF
    rw [head_at]
    exact h.at 0
  | f + 1, l, h => by
    unfold TOPF
    split
    · exact ⟨SHA_u8 _, by rw [SHA_len]; decide⟩
    · split
      · rw [head_at]
        exact h.at 0
      · exact ⟨SHA_u8 _, by rw [NODE_len]; decide⟩
theorem TOP_r5 {l : List (List Int)} (h : R5 l) : U8 (TOP l) ∧ (TOP l).length ≤ 100000 := TOPF_r5 _ l h
theorem MAD_r5 : ∀ (f lo hi i : Nat) (x p : List (List Int)), R5 x → R5 p → U8 (MAD f lo hi i x p).1 ∧ (MAD f lo hi i x p).1.length ≤ 100000
  | 0, _, _, _, _, _, _, _ => ⟨fun y hy => by simp [MAD] at hy, by simp [MAD]⟩
  | f + 1, lo, hi, i, x, p, hx, hp => by
    unfold MAD
    split
    · simp only; rw [head_at]; exact hp.at 0
    · split
      · exact hx.at _
      · exact ⟨SHA_u8 _, by rw [NODE_len]; decide⟩

set_option maxHeartbeats 1600000 in
set_option maxRecDepth 100000 in
theorem rroot_any : ∀ (k : Nat) (ls : List (List Int)) (v : Value) (w : World), ls.length ≤ k → ls.length ≤ 1000000 → R5 ls → RL w v ls →
    Calls Try.prog 17 #[v] w fun e w' => ∃ v', e = .returned v' ∧ w'.ownsRow w.heap.size 5 1 v' (TOP ls).length (bl (TOP ls)) ∧ Only (fun _ => False) w w' := by
  have nought : ∀ (ls : List (List Int)) (v : Value) (w : World), ls.length = 0 → RL w v ls → Calls Try.prog 17 #[v] w fun e w' => ∃ v', e = .returned v' ∧ w'.ownsRow w.heap.size 5 1 v' (TOP ls).length (bl (TOP ls)) ∧ Only (fun _ => False) w w' := by
    intro ls v w h0 hr
    have A := hideIt (rsum_bs (.slice none 0 0) [] w (Bs.nil _ _) NoCap.nil (fun y hy => by simp at hy) (by simp))
    obtain ⟨ao, cap, e, _⟩ := hr.len
    subst e
    have e : ls = [] := List.eq_nil_of_length_eq_zero h0
    subst e
    rw [TOP_none, SHA_len]
    clear hr h0
    go_enter Try.func17, Try.ntmps17
    go_wp2_with fail
    refine A.out.mono ?_
    rintro e w4 ⟨v4, rfl, own4, on4⟩
    have F1 := hideIt own4
    have F2 := hideIt on4
    obtain ⟨ao4, cap4, e4⟩ := own_form own4
    subst e4
    clear own4 on4 A
    go_wp2
    go_ret
    exact ⟨_, rfl, F1.out, F2.out⟩
  intro k
  induction k with
  | zero => intro ls v w h1 h2 h3 hr; exact nought ls v w (by omega) hr
  | succ k ih =>
    intro ls v w hk hl h5 hr
    by_cases h0 : ls.length = 0
    · exact nought ls v w h0 hr
    clear nought
    obtain ⟨n, hn⟩ : ∃ n, ls.length = n := ⟨_, rfl⟩
    obtain ⟨b, off, cap, rfl, hcap⟩ := hr.form hn (by omega)
    have d0 : ((n : Int) == 0) = false := by rw [beq_eq_false_iff_ne]; omega
    by_cases h1 : n = 1
    · obtain ⟨i0, hi, hz0, hz1, hz2⟩ := info_parts Try.infoU8
      obtain ⟨u, hu, hbu, nu⟩ := hr.at 0 (by omega)
      rw [Nat.add_zero] at hu
      have oA : Only (fun _ => False) w (w.alloc (.cells #[] 5)) := (Only.refl _ _).alloc _
      have OW := hideIt (xb_made0 w)
      have hx5 := (h5.at 0).2
      rw [TOP_one (by omega), head_at]
      obtain ⟨x, hx⟩ : ∃ x, x = ls.getD 0 [] := ⟨_, rfl⟩
      rw [← hx] at hbu hx5 ⊢
      have B := hideIt (And.intro (hbu.past oA) nu)
      have hu' := cell_past hu oA
      have O := hideIt oA
      have b1 : Hid (0 + x.length ≤ maxLen) := by show _ ≤ _; unfold maxLen; omega
      have b2 : Hid ((0 + x.length) * 1 ≤ 140737488355328) := by show _ ≤ _; omega
      have Z : Hid (w.heap.size ≤ (w.alloc (.cells #[] 5)).heap.size) := oA.size
      obtain ⟨ao, cu, rfl⟩ := hbu.len
      obtain ⟨m, hm⟩ : ∃ m, m = x.length := ⟨_, rfl⟩
      rw [← hm] at B hu hu'
      subst h1
      clear ih hk h0 hl h5 hr hn hbu nu hx hm hx5 oA d0
      go_enter Try.func17, Try.ntmps17
      go_wp2_with (at_builtin; refine wpList_append_bs _ rfl _ _ 22 rfl w.heap.size 5 i0 (.int .u8 0) 1 Try.underlying22 hi hz0 hz1 hz2 rfl (.slice (some ⟨w.heap.size, 0, none⟩) 0 0) 0 (bl []) rfl OW.out .u8 _ x rfl B.out.1 B.out.2 b1.out b2.out Z.out ?_)
      intro v1 w1 own1 g1 _ _
      have F : Hid (w1.ownsRow w.heap.size 5 1 v1 x.length (bl x) ∧ Only (fun _ => False) w w1) := ⟨own1, O.out.grown g1 (fun k hk e => by simp [Value.ownBlock] at e; omega)⟩
      obtain ⟨ao1, cap1, e1⟩ := own_form own1
      subst e1
      clear own1 g1 B OW b1 b2 Z O
      go_wp2
      go_ret
      exact ⟨_, rfl, F.out⟩
    · obtain ⟨q, hq⟩ : ∃ q, q = HALF n := ⟨_, rfl⟩
      have q1 := HALF_pos n
      have q2 := HALF_lt (n := n) (by omega)
      rw [← hq] at q1 q2
      obtain ⟨L, hL⟩ : ∃ L, L = ls.take q := ⟨_, rfl⟩
      obtain ⟨R, hR⟩ : ∃ R, R = ls.drop q := ⟨_, rfl⟩
      have hLl : L.length = q := by rw [hL, List.length_take]; omega
      have hRl : R.length = n - q := by rw [hR, List.length_drop]; omega
      have L8 : R5 L := by rw [hL]; exact h5.take _
      have R8' : R5 R := by rw [hR]; exact h5.drop _
      have rL : RL w (.slice (some ⟨b, off, none⟩) q cap) L := by rw [hL]; exact hr.head q (by omega)
      have rR : RL w (.slice (some ⟨b, off + q, none⟩) (n - q) (cap - q)) R := by rw [hR]; exact hr.tail q (by omega)
      rw [TOP_two (by omega), hn, ← hq, ← hL, ← hR, NODE_len]
      have AL := hideIt (rhalf_any n (by omega) w)
      rw [← hq] at AL
      have T1 := hideIt (fun (W : World) (o : Only (fun _ => False) w W) => ih L _ W (by omega) (by omega) L8 (rL.past o))
      have T2 := hideIt (fun (W : World) (o : Only (fun _ => False) w W) => ih R _ W (by omega) (by omega) R8' (rR.past o))
      have NC := hideIt (fun (vl vr : Value) (W : World) (hb : Bs .u8 W vl (TOP L) ∧ NoCap vl) (hr : Bs .u8 W vr (TOP R) ∧ NoCap vr) => rnode20_any vl vr (TOP L) (TOP R) W hb.1 hb.2 hr.1 hr.2 (TOP_r5 L8).1 (TOP_r5 R8').1 (TOP_r5 L8).2 (TOP_r5 R8').2)
      have d1 : ((n : Int) == 1) = false := by rw [beq_eq_false_iff_ne]; omega
      have c1 : (q : Int) ≤ (cap : Int) := by omega
      have c2 : (q : Int) ≤ (n : Int) := by omega
      have c0 : (0 : Int) ≤ (q : Int) := by omega
      have c3 : ¬ cap = q := by omega
      clear ih hk h0 hl h5 hr hn hLl hRl L8 R8' rL rR hL hR hq h1
      go_enter Try.func17, Try.ntmps17
      go_wp2_with fail
      refine AL.out.mono ?_
      rintro e w1 ⟨rfl, rfl⟩
      clear AL
      go_wp2_with fail
      go_region_held3 (fun _ => True) (trivial) (first | (go_at_call 17; refine (T1.out _ ((Only.refl _ _).drew)).mono ?_; rintro e w1 ⟨v1, rfl, own1, o1⟩; have O1 := hideIt (((Only.refl (fun _ => False) w).drew).same o1); have B1 := hideIt (And.intro (own_bs own1) (NoCap.of_own own1)); clear own1 o1 T1) | (go_at_call 17; refine (T2.out _ O1.out).mono ?_; rintro e w2 ⟨v2, rfl, own2, o2⟩; have O2 := hideIt (O1.out.same o2); have B2 := hideIt (And.intro (own_bs own2) (NoCap.of_own own2)); have B1' := hideIt (And.intro (B1.out.1.past o2) B1.out.2); clear own2 o2 T2) | (go_at_call 15; refine (NC.out _ _ _ B1'.out B2.out).mono ?_; rintro e w3 ⟨v3, rfl, own3, o3⟩; have F1 := hideIt (own_low own3 O2.out.size); have F2 := hideIt (O2.out.same o3); obtain ⟨ao3, cap3, e3⟩ := own_form own3; subst e3; clear own3 o3 NC))
      go_wp2
      go_ret
      exact ⟨_, rfl, F1.out, F2.out⟩
end Go.Proofs.Ytnifflnhbpfmnaa
