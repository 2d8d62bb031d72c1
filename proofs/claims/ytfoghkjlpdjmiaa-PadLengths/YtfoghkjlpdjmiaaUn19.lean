/- Package pad: Unpad. -/
import Derived.Test.YtfoghkjlpdjmiaaPa19
import Derived.Test.YtfoghkjlpdjmiaaEq
namespace Go.Proofs.Ytfoghkjlpdjmiaa
open Go.RowKit

theorem POK_fits {ys : List Int} (h : POK ys) : PNM ys + 4 ≤ ys.length ∧ PNM ys = (PUN ys).length := by
  have h1 := PADL_num (PUN ys) h.1
  have h2 := PADL_len (PUN ys) h.1
  have h3 := PLN_ge (PUN ys).length h.1
  rw [h.2] at h1 h2
  omega
theorem PNM_lt {ys : List Int} (h : ∀ y ∈ ys, 0 ≤ y ∧ y ≤ 255) : PNM ys < 4294967296 := by
  have h1 := num_lt (ys.take 4) (fun y hy => h y (List.mem_of_mem_take hy))
  have h2 : (ys.take 4).length ≤ 4 := by rw [List.length_take]; omega
  have h3 : 256 ^ (ys.take 4).length ≤ 256 ^ 4 := Nat.pow_le_pow_right (by decide) h2
  have h4 : (256 : Nat) ^ 4 = 4294967296 := by decide
  unfold PNM
  omega

set_option maxRecDepth 100000 in
set_option maxHeartbeats 1000000 in
theorem pread_cur {w : World} {R : Nat} {v : Value} {ys : List Int} (h : CurAt 53 w R v ys) :
    Calls Try.prog 22 #[.pointer (some ⟨R, 0, none⟩)] w fun e w' => ∃ r c, e = .returned (.tuple #[r, .int .i64 c]) ∧ Only (fun k => k = R) w w' ∧ ((c ≠ 0 ∧ ¬ PNM ys + 4 ≤ ys.length) ∨ (c = 0 ∧ PNM ys + 4 ≤ ys.length ∧ Bs .u8 w' r (PUN ys) ∧ NoCap r ∧ (∀ k, r.ownBlock = some k → w.heap.size ≤ k))) := by
  have A := hideIt (fixed_cur h 4)
  have hr := h.rng
  by_cases h4 : (ys.length : Int) < 4
  · have e1 : sFixed 4 ys = (0, 0, 2) := by
      simp only [sFixed]
      rw [if_neg (by omega), if_pos h4]
    rw [e1] at A
    have HN : Hid (¬ PNM ys + 4 ≤ ys.length) := by show ¬ _; omega
    clear h hr h4
    go_enter Try.func22, Try.ntmps22
    go_wp2_with fail
    refine A.out.mono ?_
    rintro e w1 ⟨rfl, v2, _, _, o1⟩
    have O1 := hideIt o1
    clear o1 A
    go_wp2
    go_ret2
    exact ⟨_, _, rfl, O1.out, .inl ⟨by decide, HN.out⟩⟩
  · have e1 : sFixed 4 ys = ((num (ys.take 4) : Int), 4, 0) := by
      simp only [sFixed]
      rw [if_neg (by omega), if_neg h4]; rfl
    rw [e1] at A
    have hlt := PNM_lt hr
    obtain ⟨n, hn⟩ : ∃ n, n = PNM ys := ⟨_, rfl⟩
    have hn' : num (ys.take 4) = n := hn.symm
    rw [hn'] at A
    rw [← hn] at hlt
    have HN := hideIt hn
    have H4 := hideIt h4
    clear h hr h4 e1 hn hn'
    go_enter Try.func22, Try.ntmps22
    go_wp2_with fail
    refine A.out.mono ?_
    rintro e w1 ⟨rfl, v2, c1, _, o1⟩
    have B := hideIt (bytes_cur c1 (n : Int))
    have O1 := hideIt o1
    obtain ⟨X, k, c, hs⟩ : ∃ X k c, sBytes (n : Int) (ys.drop 4) = (X, k, c) := ⟨_, _, _, rfl⟩
    rw [hs] at B
    have HC : Hid ((c ≠ 0 ∧ ¬ PNM ys + 4 ≤ ys.length) ∨ (c = 0 ∧ PNM ys + 4 ≤ ys.length ∧ X = PUN ys)) := by
      have h4 := H4.out
      have hd : (ys.drop 4).length = ys.length - 4 := List.length_drop
      rw [← HN.out]
      simp only [sBytes] at hs
      rw [if_neg (by omega)] at hs
      by_cases hl : ((ys.drop 4).length : Int) < (n : Int)
      · rw [if_pos hl] at hs
        cases hs
        exact .inl ⟨by decide, by omega⟩
      · rw [if_neg hl] at hs
        cases hs
        refine .inr ⟨rfl, by omega, ?_⟩
        unfold PUN
        rw [← HN.out]; rfl
    clear A c1 o1 hs
    go_wp2_with fail
    refine B.out.mono ?_
    rintro e w2 ⟨r, rfl, b2, nc2, l2, v3, _, _, o2⟩
    have FIN : Hid (Only (fun k => k = R) w w2 ∧ ((c ≠ 0 ∧ ¬ PNM ys + 4 ≤ ys.length) ∨ (c = 0 ∧ PNM ys + 4 ≤ ys.length ∧ Bs .u8 w2 r (PUN ys) ∧ NoCap r ∧ (∀ k, r.ownBlock = some k → w.heap.size ≤ k)))) := by
      refine ⟨O1.out.trans o2 (fun _ _ e => e), ?_⟩
      rcases HC.out with h | ⟨h1, h2, h3⟩
      · exact .inl h
      · refine .inr ⟨h1, h2, by rw [← h3]; exact b2, nc2, fun k hk => ?_⟩
        have h1 := l2 k hk
        have h2 := O1.out.size
        omega
    clear B b2 nc2 l2 o2 HC
    go_wp2
    go_ret2
    exact ⟨_, _, rfl, FIN.out⟩

set_option maxRecDepth 100000 in
set_option maxHeartbeats 1000000 in
/-- THE BYTES THAT A BUCKET HOLDS, whatever comes in. -/
theorem unpad_any (v : Value) (ys : List Int) (w : World) (h : Bs .u8 w v ys) (h8 : U8 ys) (hl : ys.length ≤ 1000000000000) :
    Calls Try.prog 16 #[v] w fun e w' => ∃ r, e = .returned (.tuple #[r, .int .i64 (PUe ys)]) ∧ Bs .u8 w' r (PUt ys) ∧ NoCap r ∧ (∀ k, r.ownBlock = some k → w.heap.size ≤ k) ∧ Only (fun _ => False) w w' := by
  have HB := hideIt h
  have H8 := hideIt h8
  have A := hideIt (new_bs v ys w h h8 hl)
  obtain ⟨ao, cap, rfl⟩ := h.len
  obtain ⟨m, hm⟩ : ∃ m, m = ys.length := ⟨_, rfl⟩
  rw [← hm] at HB A ⊢
  clear h h8 hl hm
  go_enter Try.func16, Try.ntmps16
  go_wp2_with fail
  refine A.out.mono ?_
  rintro e w1 ⟨R, v1, rfl, c1, o1, hR1, hR2, _⟩
  have B := hideIt (pread_cur c1)
  have O1 := hideIt (And.intro o1 hR1)
  clear A c1 o1 hR1 hR2
  go_wp2_with fail
  refine B.out.mono ?_
  rintro e w2 ⟨r, c, rfl, o2, hc⟩
  have o02 : Only (fun _ => False) w w2 := O1.out.1.trans o2 (fun k hk e => by have := O1.out.2; omega)
  have O2 := hideIt o02
  have hs2 := o02.size
  have hs1 := O1.out.1.size
  rcases hc with ⟨hc, hn⟩ | ⟨rfl, hn, b2, nc2, l2⟩
  · have e1 : ¬ POK ys := fun k => hn (POK_fits k).1
    have HE : Hid (PUe ys = 3 ∧ PUt ys = []) := ⟨if_neg e1, if_neg e1⟩
    have d1 : (c != 0) = true := by simpa using hc
    clear B o2 hc hn e1 o02 hs2 hs1 O1
    go_wp2
    go_ret2
    rw [HE.out.1, HE.out.2]
    exact ⟨_, rfl, Bs.nil _ _, NoCap.nil, own_nil _, O2.out⟩
  · obtain ⟨ra, rc, er⟩ := b2.len
    obtain ⟨D, hD⟩ : ∃ D, D = PUN ys := ⟨_, rfl⟩
    rw [← hD] at b2 er
    subst er
    have C := hideIt (pad_any _ D w2 b2)
    have HR := hideIt (And.intro b2 (And.intro nc2 (fun k hk => Nat.le_trans hs1 (l2 k hk))))
    have HD := hideIt hD
    clear B o2 hn o02 b2 nc2 l2 hD hs1 O1
    go_wp2_with fail
    refine C.out.mono ?_
    rintro e w3 ⟨r3, rfl, own3, o3⟩
    by_cases hf : D.length ≤ 4194300
    · have e1 : PDt D = PADL D := if_pos hf
      have e2 : PDe D = 0 := if_pos hf
      rw [e1] at own3
      have b3 : Bs .u8 w3 r3 (PADL D) := Bs.of_own own3
      have D8 : U8 D := by rw [HD.out]; exact PUN_u8 H8.out
      have E := hideIt (equal_bs r3 (.slice ao m cap) (PADL D) ys w3 b3 (HB.out.past (O2.out.same o3)) (PADL_u8 D8) H8.out)
      have FR := hideIt (And.intro (HR.out.1.past o3) (O2.out.same o3))
      rw [e2]
      by_cases heq : PADL D = ys
      · have HE : Hid (PUe ys = 0 ∧ PUt ys = D) := by
          have : POK ys := by rw [← heq]; exact POK_pad D hf
          refine ⟨if_pos this, ?_⟩
          rw [HD.out]; exact if_pos this
        rw [decide_eq_true heq] at E
        clear own3 o3 b3 D8 e1 e2 heq hf C
        go_wp2_with fail
        refine E.out.mono ?_
        rintro e w4 ⟨rfl, rfl⟩
        clear E
        go_wp2
        go_ret2
        rw [HE.out.1, HE.out.2]
        exact ⟨_, rfl, FR.out.1, HR.out.2.1, HR.out.2.2, FR.out.2⟩
      · have HE : Hid (PUe ys = 3 ∧ PUt ys = []) := by
          have : ¬ POK ys := fun k => heq (by rw [HD.out]; exact k.2)
          exact ⟨if_neg this, if_neg this⟩
        rw [decide_eq_false heq] at E
        clear own3 o3 b3 D8 e1 e2 heq hf C
        go_wp2_with fail
        refine E.out.mono ?_
        rintro e w4 ⟨rfl, rfl⟩
        clear E
        go_wp2
        go_ret2
        rw [HE.out.1, HE.out.2]
        exact ⟨_, rfl, Bs.nil _ _, NoCap.nil, own_nil _, FR.out.2⟩
    · have e2 : PDe D = 4 := if_neg hf
      have HE : Hid (PUe ys = 3 ∧ PUt ys = []) := by
        have : ¬ POK ys := fun k => hf (by rw [HD.out]; exact k.1)
        exact ⟨if_neg this, if_neg this⟩
      have FR := hideIt (O2.out.same o3)
      rw [e2]
      clear own3 o3 e2 hf C
      go_wp2
      go_ret2
      rw [HE.out.1, HE.out.2]
      exact ⟨_, rfl, Bs.nil _ _, NoCap.nil, own_nil _, FR.out⟩
end Go.Proofs.Ytfoghkjlpdjmiaa
