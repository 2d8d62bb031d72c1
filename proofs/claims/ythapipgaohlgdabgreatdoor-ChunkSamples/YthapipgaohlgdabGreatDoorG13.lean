/- Several texts in one: CloneI, De2, Iw, Iw2. -/
import Derived.Test.YthapipgaohlgdabGreatDoorProg
import Derived.Test.YthapipgaohlgdabGreatDoorG1
import Derived.WalkSpells
import Derived.BigRegion
import Derived.Test.YthapipgaohlgdabGreatDoorG12
import Derived.Test.YthapipgaohlgdabGreatDoorG10
import Derived.Test.YthapipgaohlgdabGreatDoorG7

/- Contract of slices.Clone of ints: new memory, the same ints. -/
namespace Go.Proofs.YthapipgaohlgdabGreatDoor
open Go.RowKit

theorem Tryz.infoCI : (Tryz.prog.info? 3).map (fun i => (i.zero, i.size, i.bytes)) = some (some (.int .i64 0), 1, 8) := by kernel_rfl
set_option maxHeartbeats 400000 in
set_option maxRecDepth 100000 in
theorem iclone_nil (c : Nat) (w : World) : Calls Tryz.prog 59 #[.slice none 0 c] w fun e w' => e = .returned (.slice none 0 0) ∧ w = w' := by
  have hnil : ∀ W, (binOp .eql 38 (.slice none 0 c) (.slice none 0 0)).run Tryz.prog W = .ok (.bool true) W := fun W => by
    rw [Lib.run_eql_slice_nil W 38 3 none 0 c 0 0 Tryz.underlying38]; rfl
  go_enter Tryz.func59, Tryz.ntmps59
  go_wp2
  go_ret
  exact ⟨rfl, rfl⟩

set_option maxHeartbeats 400000 in
set_option maxRecDepth 100000 in
theorem iclone_some (ad : Addr) (m c : Nat) (news : List Value) (w : World) (hl : news.length = m) (hnews : ∀ j u, news[j]? = some u → w.cell? (ad.add j) = some u) (h1 : ∀ u ∈ news, u.oneCell' = true) (hm : m ≤ 1000000) :
    Calls Tryz.prog 59 #[.slice (some ad) m c] w fun e w' => ∃ v', e = .returned v' ∧ w'.ownsRow w.heap.size 3 1 v' m news ∧ Only (fun _ => False) w w' ∧ v' ≠ .slice none 0 0 := by
  obtain ⟨i0, hi, hz0, hz1, hz2⟩ := info_parts Tryz.infoCI
  have hnil : ∀ W, (binOp .eql 38 (.slice (some ad) m c) (.slice none 0 0)).run Tryz.prog W = .ok (.bool false) W := fun W => by
    rw [Lib.run_eql_slice_nil W 38 3 (some ad) m c 0 0 Tryz.underlying38]; rfl
  have ho := World.ownsRow_made (base := w.heap.size) (e := 3) (size := 1) w #[] 0 (Nat.le_refl _) (by unfold maxLen; omega) rfl
  have HN : Hid (∀ j u, news[j]? = some u → w.cell? (ad.add j) = some u) := hnews
  clear hnews
  go_enter Tryz.func59, Tryz.ntmps59
  go_wp2_with (at_builtin; refine wpList_append_own_at _ rfl _ _ _ rfl w.heap.size 3 i0 (.int .i64 0) 1 8 Tryz.underlying38 hi hz0 hz1 hz2 rfl (by omega) (.slice (some ⟨w.heap.size, 0, none⟩) 0 0) 0 [] rfl ho ad m c news rfl ?c0 ?c1 h1 ?c3 ?c4 ?c5 ?_)
  case c0 => omega
  case c1 =>
    intro j u hu
    have h0 := HN.out j u hu
    rw [World.cell?_of_block (Below.heap_alloc w _ _ (World.block_lt_of_cell? w _ h0))]; exact h0
  case c3 => unfold maxLen; omega
  case c4 => omega
  case c5 => simp
  intro v' w1 hown1 hgrow hnn hat
  have FIN : Hid (w1.ownsRow w.heap.size 3 1 v' m news ∧ Only (fun _ => False) w w1 ∧ v' ≠ .slice none 0 0) := by
    refine ⟨by simpa using hown1, ((Only.refl _ _).alloc _).grown hgrow (fun k hk e => ?_), hnn⟩
    simp [Value.ownBlock] at e
    omega
  clear hown1 hgrow hnn hat ho
  go_wp2
  go_ret
  exact ⟨v', rfl, FIN.out⟩

/-- A COPY of a slice of ints: new memory, the same ints. -/
theorem iclone_bs (v : Value) (xs : List Int) (w : World) (h : Bs .i64 w v xs) (hm : xs.length ≤ 1000000) :
    Calls Tryz.prog 59 #[v] w fun e w' => ∃ v', e = .returned v' ∧ w'.ownsRow w.heap.size 3 1 v' xs.length (xs.map (Value.int .i64)) ∧ Only (fun _ => False) w w' := by
  obtain ⟨ao, cap, rfl, hc, hr⟩ := h
  cases ao with
  | none =>
    have hx : xs = [] := by
      cases xs with
      | nil => rfl
      | cons a t => obtain ⟨b, off, h, _⟩ := hr (by simp); cases h
    subst hx
    refine (iclone_nil cap w).mono ?_
    rintro e w' ⟨rfl, rfl⟩
    exact ⟨_, rfl, World.ownsRow_nil _ _ _ _, Only.refl _ _⟩
  | some ad =>
    refine (iclone_some ad xs.length cap (xs.map (Value.int .i64)) w (by simp) ?_ (oneCell_ints _ _) hm).mono ?_
    · intro j u hu
      have hj : j < xs.length := by
        have := (List.getElem?_eq_some_iff.1 hu).1
        simpa using this
      obtain ⟨b, off, hb, hcell⟩ := hr (by intro h; subst h; simp at hj)
      cases hb
      have hadd : (⟨b, off, none⟩ : Addr).add j = ⟨b, off + j, none⟩ := by unfold Addr.add; split <;> simp_all
      rw [hadd, hcell j hj]
      rw [← hu]
      simp [List.getElem?_eq_getElem hj]
    · rintro e w' ⟨v', rfl, h1, h2, _⟩
      exact ⟨v', rfl, h1, h2⟩

end Go.Proofs.YthapipgaohlgdabGreatDoor

/- Contracts of package delta: Diff and Sum. -/
namespace Go.Proofs.YthapipgaohlgdabGreatDoor
open Go.RowKit

theorem own_at_lt {w : World} {lo : Nat} {E : TypeId} {size : Nat} {v : Value} {n : Nat} {xs : List Value} (h : w.ownsRow lo E size v n xs) {b : Nat} (hb : v.ownBlock = some b) : lo ≤ b ∧ b < w.heap.size := by
  rcases h.2 with ⟨rfl, _⟩ | ⟨g, cap, cur, rfl, hg, hh, _⟩
  · simp [Value.ownBlock] at hb
  · simp [Value.ownBlock] at hb
    subst hb
    exact ⟨hg, (Array.getElem?_eq_some_iff.1 hh).1⟩

set_option maxHeartbeats 400000 in
set_option maxRecDepth 100000 in
theorem maybe_in (k : Nat) (w : World) (hk : k ≤ 3) : Calls Tryz.prog 58 #[.int .i64 k] w fun e w' => e = .returned (.bool true) ∧ w = w' := by
  have h1 : decide ((0 : Int) ≤ k) = true := decide_eq_true (by omega)
  have h2 : decide ((k : Int) ≤ 3) = true := decide_eq_true (by omega)
  go_enter Tryz.func58, Tryz.ntmps58
  go_wp2
  go_ret
  exact ⟨rfl, rfl⟩
set_option maxHeartbeats 400000 in
set_option maxRecDepth 100000 in
theorem maybe_out (k : Int) (w : World) (hk : k < 0 ∨ 3 < k) : Calls Tryz.prog 58 #[.int .i64 k] w fun e w' => e = .returned (.bool false) ∧ w = w' := by
  by_cases h0 : 0 ≤ k
  · have h1 : decide (0 ≤ k) = true := decide_eq_true h0
    have h2 : decide (k ≤ 3) = false := decide_eq_false (by omega)
    clear hk
    go_enter Tryz.func58, Tryz.ntmps58
    go_wp2
    go_ret
    exact ⟨rfl, rfl⟩
  · have h1 : decide (0 ≤ k) = false := decide_eq_false h0
    clear hk
    go_enter Tryz.func58, Tryz.ntmps58
    go_wp2
    go_ret
    exact ⟨rfl, rfl⟩

theorem zero_new (w : World) : (w.alloc (.cells #[.int .i64 0] 3)).cell? ⟨w.heap.size, 0, none⟩ = some (.int .i64 0) ∧
    (w.alloc (.cells #[.int .i64 0] 3)).frozen? ⟨w.heap.size, 0, none⟩ = false ∧ Only (fun _ => False) w (w.alloc (.cells #[.int .i64 0] 3)) :=
  ⟨by rw [World.cell?_alloc_at _ _ _ _ rfl]; rfl, World.frozen?_alloc_at _ _ _ _ rfl, (Only.refl _ _).alloc _⟩

set_option maxHeartbeats 400000 in
set_option maxRecDepth 100000 in
theorem differences_any (w : World) : Calls Tryz.prog 61 #[] w fun e w' => e = .returned (.func (.func 80) #[] #[.pointer (some ⟨w.heap.size, 0, none⟩)]) ∧
    w'.cell? ⟨w.heap.size, 0, none⟩ = some (.int .i64 0) ∧ w'.frozen? ⟨w.heap.size, 0, none⟩ = false ∧ Only (fun _ => False) w w' := by
  have hmf : ∀ (fn : Fn) (first cap : Array Value) (w : World), (Instr.makeFunc fn first cap).run Tryz.prog w = .ok (.func fn first cap) w := fun _ _ _ _ => rfl
  have H := hideIt (zero_new w)
  go_enter Tryz.func61, Tryz.ntmps61
  go_wp2
  go_ret
  exact ⟨rfl, H.out⟩
set_option maxHeartbeats 400000 in
set_option maxRecDepth 100000 in
theorem sums_any (w : World) : Calls Tryz.prog 98 #[] w fun e w' => e = .returned (.func (.func 119) #[] #[.pointer (some ⟨w.heap.size, 0, none⟩)]) ∧
    w'.cell? ⟨w.heap.size, 0, none⟩ = some (.int .i64 0) ∧ w'.frozen? ⟨w.heap.size, 0, none⟩ = false ∧ Only (fun _ => False) w w' := by
  have hmf : ∀ (fn : Fn) (first cap : Array Value) (w : World), (Instr.makeFunc fn first cap).run Tryz.prog w = .ok (.func fn first cap) w := fun _ _ _ _ => rfl
  have H := hideIt (zero_new w)
  go_enter Tryz.func98, Tryz.ntmps98
  go_wp2
  go_ret
  exact ⟨rfl, H.out⟩

set_option maxHeartbeats 800000 in
set_option maxRecDepth 100000 in
/-- DIFF of numbers by k, 0 to 3: new memory. -/
theorem diff_in (v : Value) (xs : List Int) (k : Nat) (w : World) (hb : Bs .i64 w v xs) (hl : xs.length ≤ 1000000) (hk : k ≤ 3) :
    Calls Tryz.prog 40 #[v, .int .i64 k] w fun e w' => ∃ v', e = .returned (.tuple #[v', .int .i64 0]) ∧ w'.ownsRow w.heap.size 3 1 v' xs.length ((D k xs).map (Value.int .i64)) ∧ Only (fun _ => False) w w' := by
  have A0 := hideIt (maybe_in k w hk)
  have A1 := hideIt (iclone_bs v xs w hb hl)
  obtain ⟨n, hn⟩ : ∃ n, n = xs.length := ⟨_, rfl⟩
  rw [← hn] at hl A1 ⊢
  obtain ⟨N, hN⟩ : ∃ N, N = w.heap.size := ⟨_, rfl⟩
  rw [← hN] at A1 ⊢
  have HN := hideIt (And.intro hn hN)
  clear hn hN hb
  go_enter Tryz.func40, Tryz.ntmps40
  go_wp2_with fail
  refine A0.out.mono ?_
  rintro e w1 ⟨rfl, rfl⟩
  clear A0
  go_wp2_with fail
  refine A1.out.mono ?_
  rintro e w1 ⟨v', rfl, own1, on1⟩
  have H1 := hideIt (And.intro own1 on1)
  clear A1 own1 on1
  go_wp2
  go_loopw [14] (fun i wr => ∃ j : Nat, j ≤ k ∧ i = .int .i64 j ∧ wr.ownsRow N 3 1 v' n ((D j xs).map (Value.int .i64)) ∧ Only (fun _ => False) w wr) (fun i _ => k - (intOf i).toNat)
  case atStart => exact ⟨0, Nat.zero_le _, rfl, H1.out⟩
  case round =>
    obtain ⟨j, hj, rfl, hown, hon⟩ := hrel
    clear H1
    by_cases hlt : j < k
    · have H := hideIt (And.intro hown hon)
      clear hown hon
      have A2 := hideIt (differences_any wr)
      go_wp2_with fail
      refine A2.out.mono ?_
      rintro e w2 ⟨rfl, hc, hf, on2⟩
      have hown2 := on2.own H.out.1 (fun _ _ f => f)
      have hln : (D j xs).length = n := by rw [D_length]; exact HN.out.1.symm
      have A3 := hideIt (rep_d N wr.heap.size j n 0 v' (D j xs) w2 hln hown2 hc hf (fun b hb => Nat.ne_of_lt (own_at_lt H.out.1 hb).2) hl (by omega))
      have H2 := hideIt (And.intro on2 hown2)
      clear A2 hc hf on2 hown2
      go_wp2_with fail
      refine A3.out.mono ?_
      rintro e w3 ⟨rfl, hown3, on3⟩
      have H3 := hideIt (And.intro hown3 on3)
      clear A3 hown3 on3
      go_wp2
      go_roundw
      case rel =>
        refine ⟨j + 1, by omega, by go_num, H3.out.1, ?_⟩
        have o2 := H.out.2.trans H2.out.1 (fun _ _ f => f)
        refine o2.trans H3.out.2 (fun i hi h => ?_)
        rcases h with h | h
        · have := (own_at_lt H.out.1 h).1
          have := HN.out.2
          omega
        · have := H.out.2.size
          omega
      case measure => simp [intOf]; omega
    · have e1 : j = k := by omega
      subst e1
      have H := hideIt (And.intro hown hon)
      clear hown hon
      go_wp2
      go_ret2
      exact ⟨_, rfl, H.out⟩

set_option maxHeartbeats 800000 in
set_option maxRecDepth 100000 in
/-- SUM of numbers by k, 0 to 3: new memory. -/
theorem sum_in (v : Value) (xs : List Int) (k : Nat) (w : World) (hb : Bs .i64 w v xs) (hl : xs.length ≤ 1000000) (hk : k ≤ 3) :
    Calls Tryz.prog 72 #[v, .int .i64 k] w fun e w' => ∃ v', e = .returned (.tuple #[v', .int .i64 0]) ∧ w'.ownsRow w.heap.size 3 1 v' xs.length ((S k xs).map (Value.int .i64)) ∧ Only (fun _ => False) w w' := by
  have A0 := hideIt (maybe_in k w hk)
  have A1 := hideIt (iclone_bs v xs w hb hl)
  obtain ⟨n, hn⟩ : ∃ n, n = xs.length := ⟨_, rfl⟩
  rw [← hn] at hl A1 ⊢
  obtain ⟨N, hN⟩ : ∃ N, N = w.heap.size := ⟨_, rfl⟩
  rw [← hN] at A1 ⊢
  have HN := hideIt (And.intro hn hN)
  clear hn hN hb
  go_enter Tryz.func72, Tryz.ntmps72
  go_wp2_with fail
  refine A0.out.mono ?_
  rintro e w1 ⟨rfl, rfl⟩
  clear A0
  go_wp2_with fail
  refine A1.out.mono ?_
  rintro e w1 ⟨v', rfl, own1, on1⟩
  have H1 := hideIt (And.intro own1 on1)
  clear A1 own1 on1
  go_wp2
  go_loopw [14] (fun i wr => ∃ j : Nat, j ≤ k ∧ i = .int .i64 j ∧ ∃ ys, ys.length = n ∧ S (k - j) ys = S k xs ∧ wr.ownsRow N 3 1 v' n (ys.map (Value.int .i64)) ∧ Only (fun _ => False) w wr) (fun i _ => k - (intOf i).toNat)
  case atStart => exact ⟨0, Nat.zero_le _, rfl, xs, HN.out.1.symm, rfl, H1.out⟩
  case round =>
    obtain ⟨j, hj, rfl, ys, hyl, hys, hown, hon⟩ := hrel
    have HY := hideIt (And.intro hyl hys)
    clear hyl hys
    clear H1
    by_cases hlt : j < k
    · have H := hideIt (And.intro hown hon)
      clear hown hon
      have A2 := hideIt (sums_any wr)
      have it : ((k : Int) - 1 - j) = ((k - 1 - j : Nat) : Int) := by omega
      go_wp2_with fail
      refine A2.out.mono ?_
      rintro e w2 ⟨rfl, hc, hf, on2⟩
      have hown2 := on2.own H.out.1 (fun _ _ f => f)
      have A3 := hideIt (rep_s N wr.heap.size (k - 1 - j) n 0 v' ys w2 HY.out.1 hown2 hc hf (fun b hb => Nat.ne_of_lt (own_at_lt H.out.1 hb).2) hl (by omega))
      have H2 := hideIt (And.intro on2 hown2)
      clear A2 hc hf on2 hown2
      go_wp2_with fail
      refine A3.out.mono ?_
      rintro e w3 ⟨rfl, hown3, on3⟩
      have H3 := hideIt (And.intro hown3 on3)
      clear A3 hown3 on3
      go_wp2
      go_roundw
      case rel =>
        refine ⟨j + 1, by omega, by go_num, _, ?_, ?_, H3.out.1, ?_⟩
        · exact (bh_length (sm_length 0) (k - 1 - j) ys).trans HY.out.1
        · rw [← HY.out.2, show k - j = (k - (j + 1)) + 1 by omega, S, show k - 1 - j = k - (j + 1) by omega]; rfl
        have o2 := H.out.2.trans H2.out.1 (fun _ _ f => f)
        refine o2.trans H3.out.2 (fun i hi h => ?_)
        rcases h with h | h
        · have := (own_at_lt H.out.1 h).1
          have := HN.out.2
          omega
        · have := H.out.2.size
          omega
      case measure => simp [intOf]; omega
    · have e1 : j = k := by omega
      subst e1
      have e2 : ys = S j xs := by have := HY.out.2; rw [Nat.sub_self] at this; exact this
      subst e2
      have H := hideIt (And.intro hown hon)
      clear hown hon
      go_wp2
      go_ret2
      exact ⟨_, rfl, H.out⟩

set_option maxHeartbeats 400000 in
set_option maxRecDepth 100000 in
theorem diff_out (v : Value) (k : Int) (w : World) (hk : k < 0 ∨ 3 < k) : Calls Tryz.prog 40 #[v, .int .i64 k] w fun e w' => e = .returned (.tuple #[.slice none 0 0, .int .i64 1]) ∧ w = w' := by
  have A0 := hideIt (maybe_out k w hk)
  clear hk
  go_enter Tryz.func40, Tryz.ntmps40
  go_wp2_with fail
  refine A0.out.mono ?_
  rintro e w1 ⟨rfl, rfl⟩
  go_wp2
  go_ret2
  exact ⟨rfl, rfl⟩

set_option maxHeartbeats 400000 in
set_option maxRecDepth 100000 in
theorem sum_out (v : Value) (k : Int) (w : World) (hk : k < 0 ∨ 3 < k) : Calls Tryz.prog 72 #[v, .int .i64 k] w fun e w' => e = .returned (.tuple #[.slice none 0 0, .int .i64 1]) ∧ w = w' := by
  have A0 := hideIt (maybe_out k w hk)
  clear hk
  go_enter Tryz.func72, Tryz.ntmps72
  go_wp2_with fail
  refine A0.out.mono ?_
  rintro e w1 ⟨rfl, rfl⟩
  go_wp2
  go_ret2
  exact ⟨rfl, rfl⟩

theorem int_nat {k : Int} (h0 : 0 ≤ k) (h3 : k ≤ 3) : ∃ m : Nat, m ≤ 3 ∧ k = m := ⟨k.toNat, by omega, by omega⟩
/-- what Diff by k makes: a slice that reads so -/
theorem diff_bs (v : Value) (xs : List Int) (k : Nat) (w : World) (hb : Bs .i64 w v xs) (hl : xs.length ≤ 1000000) (hk : k ≤ 3) :
    Calls Tryz.prog 40 #[v, .int .i64 k] w fun e w' => ∃ v', e = .returned (.tuple #[v', .int .i64 0]) ∧ Bs .i64 w' v' (D k xs) ∧ NoCap v' ∧ Only (fun _ => False) w w' := by
  refine (diff_in v xs k w hb hl hk).mono ?_
  rintro e w' ⟨v', rfl, hown, hon⟩
  rw [← D_length k xs] at hown
  exact ⟨v', rfl, Bs.of_own hown, NoCap.of_own hown, hon⟩
theorem sum_bs (v : Value) (xs : List Int) (k : Nat) (w : World) (hb : Bs .i64 w v xs) (hl : xs.length ≤ 1000000) (hk : k ≤ 3) :
    Calls Tryz.prog 72 #[v, .int .i64 k] w fun e w' => ∃ v', e = .returned (.tuple #[v', .int .i64 0]) ∧ Bs .i64 w' v' (S k xs) ∧ NoCap v' ∧ Only (fun _ => False) w w' := by
  refine (sum_in v xs k w hb hl hk).mono ?_
  rintro e w' ⟨v', rfl, hown, hon⟩
  rw [← S_length k xs] at hown
  exact ⟨v', rfl, Bs.of_own hown, NoCap.of_own hown, hon⟩

end Go.Proofs.YthapipgaohlgdabGreatDoor

/- Package intcodec: the parts of a way: tags, eight bytes each, Zigs, varints. -/
namespace Go.Proofs.YthapipgaohlgdabGreatDoor
open Go.RowKit

set_option maxHeartbeats 400000 in
set_option maxRecDepth 100000 in
theorem istag_yes (t : Int) (w : World) (h0 : 0 ≤ t) (h1 : t ≤ 4) : Calls Tryz.prog 38 #[.int .i64 t] w fun e w' => e = .returned (.bool true) ∧ w = w' := by
  have d0 : decide (0 ≤ t) = true := decide_eq_true h0
  have d1 : decide (t < 5) = true := decide_eq_true (by omega)
  clear h0 h1
  go_enter Tryz.func38, Tryz.ntmps38
  go_wp2
  go_ret
  exact ⟨rfl, rfl⟩
set_option maxHeartbeats 400000 in
set_option maxRecDepth 100000 in
theorem istag_no (t : Int) (w : World) (h : t < 0 ∨ 4 < t) : Calls Tryz.prog 38 #[.int .i64 t] w fun e w' => e = .returned (.bool false) ∧ w = w' := by
  by_cases h0 : t < 0
  · have d0 : decide (0 ≤ t) = false := decide_eq_false (by omega)
    clear h0 h
    go_enter Tryz.func38, Tryz.ntmps38
    go_wp2
    go_ret
    exact ⟨rfl, rfl⟩
  · have d0 : decide (0 ≤ t) = true := decide_eq_true (by omega)
    have d1 : decide (t < 5) = false := decide_eq_false (by omega)
    clear h0 h
    go_enter Tryz.func38, Tryz.ntmps38
    go_wp2
    go_ret
    exact ⟨rfl, rfl⟩

set_option maxHeartbeats 400000 in
set_option maxRecDepth 100000 in
theorem times_one (w : World) : Calls Tryz.prog 41 #[.int .i64 1] w fun e w' => e = .returned (.int .i64 1) ∧ w = w' := by
  go_enter Tryz.func41, Tryz.ntmps41
  go_wp2
  go_ret
  exact ⟨rfl, rfl⟩
set_option maxHeartbeats 400000 in
set_option maxRecDepth 100000 in
theorem times_two (w : World) : Calls Tryz.prog 41 #[.int .i64 2] w fun e w' => e = .returned (.int .i64 1) ∧ w = w' := by
  go_enter Tryz.func41, Tryz.ntmps41
  go_wp2
  go_ret
  exact ⟨rfl, rfl⟩
set_option maxHeartbeats 400000 in
set_option maxRecDepth 100000 in
theorem times_three (w : World) : Calls Tryz.prog 41 #[.int .i64 3] w fun e w' => e = .returned (.int .i64 2) ∧ w = w' := by
  go_enter Tryz.func41, Tryz.ntmps41
  go_wp2
  go_ret
  exact ⟨rfl, rfl⟩
set_option maxHeartbeats 400000 in
set_option maxRecDepth 100000 in
theorem times_four (w : World) : Calls Tryz.prog 41 #[.int .i64 4] w fun e w' => e = .returned (.int .i64 2) ∧ w = w' := by
  go_enter Tryz.func41, Tryz.ntmps41
  go_wp2
  go_ret
  exact ⟨rfl, rfl⟩
theorem times_any (t : Nat) (w : World) (h0 : 1 ≤ t) (h1 : t ≤ 4) : Calls Tryz.prog 41 #[.int .i64 t] w fun e w' => e = .returned (.int .i64 (tms t)) ∧ w = w' := by
  rcases t with _ | _ | _ | _ | _ | t
  · omega
  · exact times_one w
  · exact times_two w
  · exact times_three w
  · exact times_four w
  · omega

theorem fx_take (l : List Int) (k : Nat) (h : k < l.length) : fx (l.take (k + 1)) = fx (l.take k) ++ fixL (u64o (l.getD k 0)) 8 := by
  rw [take_snoc l k h, fx_snoc]

set_option maxHeartbeats 400000 in
set_option maxRecDepth 100000 in
/-- INTS in eight bytes each: new memory. -/
theorem fixed_any (v : Value) (l : List Int) (w : World) (h : Bs .i64 w v l) (hl : l.length ≤ 65536) :
    Calls Tryz.prog 39 #[v] w fun e w' => ∃ u, e = .returned u ∧ w'.ownsRow w.heap.size 5 1 u (fx l).length ((fx l).map (Value.int .u8)) ∧ Only (fun _ => False) w w' := by
  obtain ⟨i0, hi, hz0, hz1, hz2⟩ := info_parts Tryz.infoU8
  have HB := hideIt h
  obtain ⟨ao, cap, rfl⟩ := h.len
  obtain ⟨n, hn⟩ : ∃ n, n = l.length := ⟨_, rfl⟩
  rw [← hn] at hl HB
  rw [← hn]
  have HN := hideIt hn
  clear h hn
  go_enter Tryz.func39, Tryz.ntmps39
  go_wp2
  go_loopw [3, 8] (fun s i wr => ∃ k : Nat, k ≤ n ∧ i = .int .i64 k ∧ wr.ownsRow w.heap.size 5 1 s (fx (l.take k)).length ((fx (l.take k)).map (Value.int .u8)) ∧ Only (fun _ => False) w wr) (fun _ i _ => n - (intOf i).toNat)
  case atStart => exact ⟨0, Nat.zero_le _, rfl, World.ownsRow_nil _ _ _ _, Only.refl _ _⟩
  case round =>
    obtain ⟨k, hk, rfl, hown, hon⟩ := hrel
    have HOWN := hideIt hown
    have HON := hideIt hon
    by_cases hlt : k < n
    · have dlt : decide ((k : Int) < (n : Int)) = true := by simp; omega
      obtain ⟨b, off, cap', e1, hc0⟩ := (HB.out.past hon).at k (by rw [← HN.out]; exact hlt)
      have ea : ao = some ⟨b, off, none⟩ := by simp at e1; exact e1.1
      subst ea
      clear e1
      have HST := hideIt (fx_take l k (by rw [← HN.out]; exact hlt))
      have HFL : Hid ((fx (l.take k)).length ≤ 8 * n) := by
        simp only [Hid]; rw [fx_length, List.length_take]; omega
      obtain ⟨f1, hf1⟩ : ∃ f1, f1 = fx (l.take (k + 1)) := ⟨_, rfl⟩
      rw [← hf1] at HST
      have HF1 := hideIt hf1
      clear hf1
      generalize fx (l.take k) = f0 at *
      generalize l.getD k 0 = x at *
      clear hown hon HB
      go_wp2_with fail
      refine (fix_any _ 8 wr (by omega)).mono ?_
      rintro e w4 ⟨u, rfl, own4, o4⟩
      rw [IntKind.wrap_u64] at own4
      have ow := o4.own HOWN.out (fun _ _ f => f)
      have hb4 := Bs.of_own own4
      have NC4 := hideIt (NoCap.of_own own4)
      have HB4 := hideIt hb4
      have hs4 : w.heap.size ≤ w4.heap.size := Nat.le_trans HON.out.size o4.size
      have O4 := hideIt (HON.out.trans o4 (fun _ _ f => f))
      obtain ⟨a4, c4, e4⟩ := hb4.len
      subst e4
      clear o4 own4 HON HOWN hb4
      rw [fixL_len] at HB4 NC4
      go_wp2_with (at_builtin; refine wpList_append_bs _ rfl _ _ _ rfl w.heap.size 5 i0 (.int .u8 0) 1 Tryz.underlying29 hi hz0 hz1 hz2 rfl _ _ _ rfl ow .u8 _ (fixL (x % 18446744073709551616) 8) rfl HB4.out NC4.out ?c3 ?c4 hs4 ?_)
      case c3 => have := HFL.out; rw [fixL_len]; unfold maxLen; omega
      case c4 => have := HFL.out; rw [fixL_len]; omega
      intro v6 w6 own6 hgrow6 _ _
      have OWN6 : Hid (w6.ownsRow w.heap.size 5 1 v6 f1.length (f1.map (Value.int .u8))) := by
        simp only [Hid]; rw [HST.out, List.length_append, List.map_append]; exact own6
      have O6 := hideIt (O4.out.grown hgrow6 (fun k hk e => absurd (ow.lt k e).1 (by omega)))
      clear ow own6 hgrow6
      go_wp2
      go_roundw
      case rel => exact ⟨k + 1, by omega, by go_num, by rw [← HF1.out]; exact OWN6.out, O6.out⟩
      case measure => simp [intOf]; omega
    · obtain rfl : k = n := by omega
      have dlt : decide ((k : Int) < (k : Int)) = false := by simp
      rw [HN.out, List.take_length] at HOWN
      clear hown hon
      go_wp2
      go_ret
      exact ⟨_, rfl, HOWN.out, HON.out⟩

/-- the first k Zigs, and 0 for the others -/
def zpart (l : List Int) (n k : Nat) : List Int := zsn (l.take k) ++ List.replicate (n - k) 0
theorem zpart_len (l : List Int) (k : Nat) (hk : k ≤ l.length) : (zpart l l.length k).length = l.length := by
  simp only [zpart, List.length_append, zsn_length, List.length_take, List.length_replicate]; omega
theorem zpart_zero (l : List Int) (n : Nat) : (zpart l n 0).map (Value.int .u64) = (madeCells #[Value.int .u64 0] (n * 1)).toList := by
  apply List.ext_getElem?
  intro i
  by_cases h : i < n
  · simp [zpart, zsn, madeCells, h, Nat.mod_one]
  · simp [zpart, zsn, madeCells, h]
theorem zpart_all (l : List Int) : zpart l l.length l.length = zsn l := by simp [zpart]
theorem zpart_step (l : List Int) (k : Nat) (h : k < l.length) : (zpart l l.length k).set k (zig (l.getD k 0)) = zpart l l.length (k + 1) := by
  unfold zpart
  have hlen : (zsn (l.take k)).length = k := by rw [zsn_length, List.length_take]; omega
  rw [show l.length - k = (l.length - (k + 1)) + 1 by omega, List.replicate_succ, List.set_append_right _ _ (by omega), hlen, Nat.sub_self, List.set_cons_zero, take_snoc l k h]
  simp [zsn]

set_option maxHeartbeats 400000 in
set_option maxRecDepth 100000 in
/-- ZIGS: new memory. -/
theorem zigs_any (v : Value) (l : List Int) (w : World) (h : Bs .i64 w v l) (hg : I64s l) (hl : l.length ≤ 65536) :
    Calls Tryz.prog 43 #[v] w fun e w' => ∃ u, e = .returned u ∧ w'.ownsRow w.heap.size 26 1 u (zsn l).length ((zsn l).map (Value.int .u64)) ∧ Only (fun _ => False) w w' := by
  obtain ⟨i0, hi, hz0, hz1, hz2⟩ := info_parts Tryz.infoU64
  have HB := hideIt h
  have HG := hideIt hg
  obtain ⟨ao, cap, rfl⟩ := h.len
  obtain ⟨n, hn⟩ : ∃ n, n = l.length := ⟨_, rfl⟩
  rw [← hn] at hl HB
  rw [← hn]
  have HN := hideIt hn
  obtain ⟨wm, hmk, hown0, hgr⟩ := run_make_full (P := Tryz.prog) w w.heap.size 39 26 i0 (.int .u64 0) 1 Tryz.underlying39 hi hz0 hz1 .i64 .i64 n (by rw [hz2]; omega) (by unfold maxLen; omega) (Nat.le_refl _)
  have START : Hid (wm.ownsRow w.heap.size 26 1 (.slice (some ⟨w.heap.size, 0, none⟩) n n) n ((zpart l n 0).map (Value.int .u64)) ∧ Only (fun _ => False) w wm) := by
    rw [show (Value.int .u64 0).cells = #[Value.int .u64 0] from rfl] at hown0
    rw [zpart_zero]
    exact ⟨hown0, (Only.refl _ _).grown hgr (fun _ _ e => by cases e)⟩
  clear hown0 hgr
  obtain ⟨N, hN⟩ : ∃ N, N = w.heap.size := ⟨_, rfl⟩
  rw [← hN] at hmk START
  rw [← hN]
  have HNN := hideIt hN
  clear h hn hN hg
  go_enter Tryz.func43, Tryz.ntmps43
  go_wp2
  go_loopw [11] (fun i wr => ∃ k : Nat, k ≤ n ∧ i = .int .i64 k ∧ wr.ownsRow N 26 1 (.slice (some ⟨N, 0, none⟩) n n) n ((zpart l n k).map (Value.int .u64)) ∧ Only (fun _ => False) w wr) (fun i _ => n - (intOf i).toNat)
  case atStart => exact ⟨0, Nat.zero_le _, rfl, START.out.1, START.out.2⟩
  case round =>
    obtain ⟨k, hk, rfl, hown, hon⟩ := hrel
    clear START hmk
    have HOWN := hideIt hown
    have HON := hideIt hon
    by_cases hlt : k < n
    · have dlt : decide ((k : Int) < (n : Int)) = true := by simp; omega
      have hkl : k < l.length := by rw [← HN.out]; exact hlt
      obtain ⟨b, off, cap', e1, hc0⟩ := (HB.out.past hon).at k hkl
      have ea : ao = some ⟨b, off, none⟩ := by simp at e1; exact e1.1
      subst ea
      clear e1
      have hx := HG.out (l.getD k 0) (getD_mem0 l k hkl)
      have hcell : ∃ y, wr.cell? ⟨N, k, none⟩ = some (.int .u64 y) := by
        have hz := zpart_len l k (by omega)
        rw [← HN.out] at hz
        refine ⟨(zpart l n k).getD k 0, ?_⟩
        rw [hown.cellAt k (by omega), List.getElem?_map, List.getElem?_eq_getElem (by rw [hz]; omega), List.getD_eq_getElem?_getD, List.getElem?_eq_getElem (by rw [hz]; omega)]
        rfl
      obtain ⟨y, hy⟩ := hcell
      have hfr : wr.frozen? ⟨N, k, none⟩ = false := hown.frozenAt _
      have hstep : Hid (((zpart l n k).map (Value.int .u64)).set k (.int .u64 (zig (l.getD k 0))) = (zpart l n (k + 1)).map (Value.int .u64)) := by
        simp only [Hid]; rw [← List.map_set, HN.out, zpart_step l k hkl]
      generalize l.getD k 0 = x at *
      clear hown hon HB HG hkl
      go_wp2_with fail
      refine (zig_any x wr hx.1 hx.2).mono ?_
      rintro e w1 ⟨rfl, rfl⟩
      go_wp2
      go_roundw
      case rel =>
        refine ⟨k + 1, by omega, by go_num, ?_, ?_⟩
        · have h1 := (HOWN.out.stored k (.int .u64 (zig x))).1
          rw [hstep.out] at h1
          exact h1
        · refine HON.out.setCell (fun hb => ?_) _
          have := HNN.out
          simp only at hb
          omega
      case measure => simp [intOf]; omega
    · obtain rfl : k = n := by omega
      have dlt : decide ((k : Int) < (k : Int)) = false := by simp
      have F : Hid (wr.ownsRow N 26 1 (.slice (some ⟨N, 0, none⟩) k k) (zsn l).length ((zsn l).map (Value.int .u64))) := by
        have h1 := HOWN.out
        have hk' := HN.out
        simp only [Hid]
        rw [zsn_length, ← hk']
        rw [show zpart l k k = zsn l by rw [hk']; exact zpart_all l] at h1
        exact h1
      clear hown hon
      go_wp2
      go_ret
      exact ⟨_, rfl, F.out, HON.out⟩

set_option maxHeartbeats 400000 in
set_option maxRecDepth 100000 in
/-- VARINTS, one behind the other: new memory. -/
theorem varints_any (v : Value) (l : List Int) (w : World) (h : Bs .u64 w v l) (hu : U64 l) (hl : l.length ≤ 65536) :
    Calls Tryz.prog 65 #[v] w fun e w' => ∃ u, e = .returned u ∧ w'.ownsRow w.heap.size 5 1 u (allG l).length ((allG l).map (Value.int .u8)) ∧ Only (fun _ => False) w w' := by
  obtain ⟨i0, hi, hz0, hz1, hz2⟩ := info_parts Tryz.infoU8
  have HB := hideIt h
  have HU := hideIt hu
  obtain ⟨ao, cap, rfl⟩ := h.len
  obtain ⟨n, hn⟩ : ∃ n, n = l.length := ⟨_, rfl⟩
  rw [← hn] at hl HB
  rw [← hn]
  have HN := hideIt hn
  clear h hn hu
  go_enter Tryz.func65, Tryz.ntmps65
  go_wp2
  go_loopw [3, 8] (fun s i wr => ∃ k : Nat, k ≤ n ∧ i = .int .i64 k ∧ wr.ownsRow w.heap.size 5 1 s (allG (l.take k)).length ((allG (l.take k)).map (Value.int .u8)) ∧ Only (fun _ => False) w wr) (fun _ i _ => n - (intOf i).toNat)
  case atStart => exact ⟨0, Nat.zero_le _, rfl, World.ownsRow_nil _ _ _ _, Only.refl _ _⟩
  case round =>
    obtain ⟨k, hk, rfl, hown, hon⟩ := hrel
    have HOWN := hideIt hown
    have HON := hideIt hon
    by_cases hlt : k < n
    · have dlt : decide ((k : Int) < (n : Int)) = true := by simp; omega
      have hkl : k < l.length := by rw [← HN.out]; exact hlt
      obtain ⟨b, off, cap', e1, hc0⟩ := (HB.out.past hon).at k hkl
      have ea : ao = some ⟨b, off, none⟩ := by simp at e1; exact e1.1
      subst ea
      clear e1
      have hx := HU.out (l.getD k 0) (getD_mem0 l k hkl)
      have HST := hideIt (allG_take l k hkl)
      have HFL : Hid ((allG (l.take k)).length ≤ 10 * n) := by
        simp only [Hid]; rw [HN.out]; exact allG_le l k HU.out
      have HG10 := hideIt (gs_le10 (v := (l.getD k 0).toNat) (by omega))
      obtain ⟨f1, hf1⟩ : ∃ f1, f1 = allG (l.take (k + 1)) := ⟨_, rfl⟩
      rw [← hf1] at HST
      have HF1 := hideIt hf1
      clear hf1
      generalize allG (l.take k) = f0 at *
      generalize l.getD k 0 = x at *
      clear hown hon HB hkl
      go_wp2_with fail
      refine (append_any (.slice none 0 0) [] x wr (Bs.nil _ _) NoCap.nil (by simp) hx.1 hx.2).mono ?_
      rintro e w4 ⟨u, rfl, own4, o4⟩
      rw [List.nil_append] at own4
      have ow := o4.own HOWN.out (fun _ _ f => f)
      have hb4 := Bs.of_own own4
      have NC4 := hideIt (NoCap.of_own own4)
      have HB4 := hideIt hb4
      have hs4 : w.heap.size ≤ w4.heap.size := Nat.le_trans HON.out.size o4.size
      have O4 := hideIt (HON.out.trans o4 (fun _ _ f => f))
      obtain ⟨a4, c4, e4⟩ := hb4.len
      subst e4
      clear o4 own4 HON HOWN hb4
      generalize gs x.toNat = g at *
      go_wp2_with (at_builtin; refine wpList_append_bs _ rfl _ _ _ rfl w.heap.size 5 i0 (.int .u8 0) 1 Tryz.underlying29 hi hz0 hz1 hz2 rfl _ _ _ rfl ow .u8 _ g rfl HB4.out NC4.out ?c3 ?c4 hs4 ?_)
      case c3 => have := HFL.out; have := HG10.out; unfold maxLen; omega
      case c4 => have := HFL.out; have := HG10.out; omega
      intro v6 w6 own6 hgrow6 _ _
      have OWN6 : Hid (w6.ownsRow w.heap.size 5 1 v6 f1.length (f1.map (Value.int .u8))) := by
        simp only [Hid]; rw [HST.out, List.length_append, List.map_append]; exact own6
      have O6 := hideIt (O4.out.grown hgrow6 (fun k hk e => absurd (ow.lt k e).1 (by omega)))
      clear ow own6 hgrow6
      go_wp2
      go_roundw
      case rel => exact ⟨k + 1, by omega, by go_num, by rw [← HF1.out]; exact OWN6.out, O6.out⟩
      case measure => simp [intOf]; omega
    · obtain rfl : k = n := by omega
      have dlt : decide ((k : Int) < (k : Int)) = false := by simp
      rw [HN.out, List.take_length] at HOWN
      clear hown hon
      go_wp2
      go_ret
      exact ⟨_, rfl, HOWN.out, HON.out⟩
end Go.Proofs.YthapipgaohlgdabGreatDoor

/- Package intcodec: Way, and Encode. -/
namespace Go.Proofs.YthapipgaohlgdabGreatDoor
open Go.RowKit

theorem zsn_drop (l : List Int) (k : Nat) : zsn (l.drop k) = (zsn l).drop k := by simp [zsn, List.map_drop]
theorem zsn_first {l : List Int} (h : 0 < l.length) : (zsn l).getD 0 0 = zig (l.getD 0 0) := by
  cases l with
  | nil => simp at h
  | cons a t => rfl
theorem WOTH_len {z : List Int} (hu : U64 z) (hl : z.length ≤ 65536) (t : Nat) : (WOTH z t).1.length ≤ 10000000 := by
  unfold WOTH
  by_cases h2 : t = 2
  · rw [if_pos h2]
    have h1 := PK_length z
    have h3 : z.length * wd z ≤ 65536 * 64 := Nat.mul_le_mul hl (wd_le hu)
    have h4 := gs_le10 (v := (lo z).toNat) (by have := lohi hu; omega)
    simp only; omega
  · rw [if_neg h2]
    by_cases h3 : t = 3
    · rw [if_pos h3]
      have := ENC_len (xs := z) (fun x hx => (hu x hx).1)
      omega
    · rw [if_neg h3]
      by_cases h4 : t = 4
      · rw [if_pos h4]
        have := runE_len z hu (by omega)
        simp only; omega
      · rw [if_neg h4]
        have := allG_len z hu
        simp only; omega

set_option maxHeartbeats 400000 in
set_option maxRecDepth 100000 in
theorem woth_two (v : Value) (z : List Int) (w : World) (h : Bs .u64 w v z) (hu : U64 z) (hl : z.length ≤ 65536) :
    Calls Tryz.prog 42 #[v, .int .i64 2] w fun e w' => ∃ u, e = .returned (.tuple #[u, .int .i64 (WOTH z 2).2]) ∧ w'.ownsRow w.heap.size 5 1 u (WOTH z 2).1.length ((WOTH z 2).1.map (Value.int .u8)) ∧ Only (fun _ => False) w w' := by
  have A := hideIt (pack_bs v z w h hu hl)
  obtain ⟨ao, cap, rfl⟩ := h.len
  clear h hu hl
  go_enter Tryz.func42, Tryz.ntmps42
  go_wp2_with fail
  refine A.out.mono ?_
  rintro e w1 ⟨u, rfl, own1, o1⟩
  have F := hideIt (And.intro own1 o1)
  obtain ⟨f1, c1, e1⟩ := (Bs.of_own own1).len
  subst e1
  clear A own1 o1
  go_wp2
  try rw [Exit.noGoto_ret]
  go_ret2
  exact ⟨_, rfl, F.out.1, F.out.2⟩
set_option maxHeartbeats 400000 in
set_option maxRecDepth 100000 in
theorem woth_three (v : Value) (z : List Int) (w : World) (h : Bs .u64 w v z) (hu : U64 z) (_hl : z.length ≤ 65536) :
    Calls Tryz.prog 42 #[v, .int .i64 3] w fun e w' => ∃ u, e = .returned (.tuple #[u, .int .i64 (WOTH z 3).2]) ∧ w'.ownsRow w.heap.size 5 1 u (WOTH z 3).1.length ((WOTH z 3).1.map (Value.int .u8)) ∧ Only (fun _ => False) w w' := by
  have A := hideIt (encode_all v z w h hu)
  obtain ⟨ao, cap, rfl⟩ := h.len
  clear h hu _hl
  go_enter Tryz.func42, Tryz.ntmps42
  go_wp2_with fail
  refine A.out.mono ?_
  rintro e w1 ⟨u, rfl, own1, o1⟩
  have F := hideIt (And.intro own1 o1)
  obtain ⟨f1, c1, e1⟩ := (Bs.of_own own1).len
  subst e1
  clear A own1 o1
  go_wp2
  try rw [Exit.noGoto_ret]
  go_ret2
  exact ⟨_, rfl, F.out.1, F.out.2⟩
set_option maxHeartbeats 400000 in
set_option maxRecDepth 100000 in
theorem woth_four (v : Value) (z : List Int) (w : World) (h : Bs .u64 w v z) (hu : U64 z) (hl : z.length ≤ 65536) :
    Calls Tryz.prog 42 #[v, .int .i64 4] w fun e w' => ∃ u, e = .returned (.tuple #[u, .int .i64 (WOTH z 4).2]) ∧ w'.ownsRow w.heap.size 5 1 u (WOTH z 4).1.length ((WOTH z 4).1.map (Value.int .u8)) ∧ Only (fun _ => False) w w' := by
  have A := hideIt (run_encode_bs v z w h hu hl)
  obtain ⟨ao, cap, rfl⟩ := h.len
  clear h hu hl
  go_enter Tryz.func42, Tryz.ntmps42
  go_wp2_with fail
  refine A.out.mono ?_
  rintro e w1 ⟨u, rfl, own1, o1⟩
  have F := hideIt (And.intro own1 o1)
  obtain ⟨f1, c1, e1⟩ := (Bs.of_own own1).len
  subst e1
  clear A own1 o1
  go_wp2
  try rw [Exit.noGoto_ret]
  go_ret2
  exact ⟨_, rfl, F.out.1, F.out.2⟩
set_option maxHeartbeats 400000 in
set_option maxRecDepth 100000 in
theorem woth_one (v : Value) (z : List Int) (w : World) (h : Bs .u64 w v z) (hu : U64 z) (hl : z.length ≤ 65536) :
    Calls Tryz.prog 42 #[v, .int .i64 1] w fun e w' => ∃ u, e = .returned (.tuple #[u, .int .i64 0]) ∧ w'.ownsRow w.heap.size 5 1 u (allG z).length ((allG z).map (Value.int .u8)) ∧ Only (fun _ => False) w w' := by
  have A := hideIt (varints_any v z w h hu hl)
  obtain ⟨ao, cap, rfl⟩ := h.len
  clear h hu hl
  go_enter Tryz.func42, Tryz.ntmps42
  go_wp2_with fail
  refine A.out.mono ?_
  rintro e w1 ⟨u, rfl, own1, o1⟩
  have F := hideIt (And.intro own1 o1)
  obtain ⟨f1, c1, e1⟩ := (Bs.of_own own1).len
  subst e1
  clear A own1 o1
  go_wp2
  try rw [Exit.noGoto_ret]
  go_ret2
  exact ⟨_, rfl, F.out.1, F.out.2⟩
theorem woth_any (v : Value) (z : List Int) (t : Nat) (w : World) (h : Bs .u64 w v z) (hu : U64 z) (hl : z.length ≤ 65536) (h1 : 1 ≤ t) (h4 : t ≤ 4) :
    Calls Tryz.prog 42 #[v, .int .i64 t] w fun e w' => ∃ u, e = .returned (.tuple #[u, .int .i64 (WOTH z t).2]) ∧ w'.ownsRow w.heap.size 5 1 u (WOTH z t).1.length ((WOTH z t).1.map (Value.int .u8)) ∧ Only (fun _ => False) w w' := by
  rcases t with _ | _ | _ | _ | _ | t
  · omega
  · exact woth_one v z w h hu hl
  · exact woth_two v z w h hu hl
  · exact woth_three v z w h hu hl
  · exact woth_four v z w h hu hl
  · omega

set_option maxHeartbeats 400000 in
set_option maxRecDepth 100000 in
theorem way_arg (v : Value) (tag : Int) (w : World) (ht : tag < 0 ∨ 4 < tag) :
    Calls Tryz.prog 19 #[v, .int .i64 tag] w fun e w' => e = .returned (.tuple #[.slice none 0 0, .int .i64 1]) ∧ w = w' := by
  have A := hideIt (istag_no tag w ht)
  clear ht
  go_enter Tryz.func19, Tryz.ntmps19
  go_wp2_with fail
  refine A.out.mono ?_
  rintro e w1 ⟨rfl, rfl⟩
  go_wp2
  try rw [Exit.noGoto_ret]
  go_ret2
  exact ⟨rfl, rfl⟩
set_option maxHeartbeats 400000 in
set_option maxRecDepth 100000 in
theorem way_long (v : Value) (l : List Int) (t : Nat) (w : World) (h : Bs .i64 w v l) (hl : 65536 < l.length) (ht : t ≤ 4) :
    Calls Tryz.prog 19 #[v, .int .i64 t] w fun e w' => e = .returned (.tuple #[.slice none 0 0, .int .i64 4]) ∧ w = w' := by
  have A := hideIt (istag_yes t w (by omega) (by omega))
  obtain ⟨ao, cap, rfl⟩ := h.len
  have d0 : decide ((65536 : Int) < l.length) = true := decide_eq_true (by omega)
  clear h hl ht
  generalize l.length = n at *
  go_enter Tryz.func19, Tryz.ntmps19
  go_wp2_with fail
  refine A.out.mono ?_
  rintro e w1 ⟨rfl, rfl⟩
  go_wp2
  try rw [Exit.noGoto_ret]
  go_ret2
  exact ⟨rfl, rfl⟩
set_option maxHeartbeats 400000 in
set_option maxRecDepth 100000 in
theorem way_nil (v : Value) (t : Nat) (w : World) (h : Bs .i64 w v []) (ht : t ≤ 4) :
    Calls Tryz.prog 19 #[v, .int .i64 t] w fun e w' => e = .returned (.tuple #[.slice none 0 0, .int .i64 0]) ∧ w = w' := by
  have A := hideIt (istag_yes t w (by omega) (by omega))
  obtain ⟨ao, cap, e0⟩ := h.len
  rw [List.length_nil] at e0
  subst e0
  clear h ht
  go_enter Tryz.func19, Tryz.ntmps19
  go_wp2_with fail
  refine A.out.mono ?_
  rintro e w1 ⟨rfl, rfl⟩
  go_wp2
  try rw [Exit.noGoto_ret]
  go_ret2
  exact ⟨rfl, rfl⟩
set_option maxHeartbeats 400000 in
set_option maxRecDepth 100000 in
theorem way_zero (v : Value) (l : List Int) (w : World) (h : Bs .i64 w v l) (hl : l.length ≤ 65536) (hp : 0 < l.length) :
    Calls Tryz.prog 19 #[v, .int .i64 0] w fun e w' => ∃ u, e = .returned (.tuple #[u, .int .i64 0]) ∧ w'.ownsRow w.heap.size 5 1 u (fx l).length ((fx l).map (Value.int .u8)) ∧ Only (fun _ => False) w w' := by
  have A := hideIt (istag_yes 0 w (by omega) (by omega))
  have B := hideIt (fixed_any v l w h hl)
  obtain ⟨ao, cap, rfl⟩ := h.len
  have d0 : decide ((65536 : Int) < l.length) = false := decide_eq_false (by omega)
  have d1 : ((l.length : Int) == 0) = false := by rw [beq_eq_false_iff_ne]; omega
  clear h hl hp
  generalize l.length = n at *
  go_enter Tryz.func19, Tryz.ntmps19
  go_wp2_with fail
  refine A.out.mono ?_
  rintro e w1 ⟨rfl, rfl⟩
  go_wp2_with fail
  refine B.out.mono ?_
  rintro e w1 ⟨u, rfl, own1, o1⟩
  have F := hideIt (And.intro own1 o1)
  obtain ⟨f1, c1, e1⟩ := (Bs.of_own own1).len
  subst e1
  clear A B own1 o1
  go_wp2
  try rw [Exit.noGoto_ret]
  go_ret2
  exact ⟨_, rfl, F.out.1, F.out.2⟩

set_option maxHeartbeats 1600000 in
set_option maxRecDepth 100000 in
/-- ONE WAY of the other four. -/
theorem way_other (v : Value) (l : List Int) (t : Nat) (w : World) (h : Bs .i64 w v l) (hg : I64s l) (hl : l.length ≤ 65536) (hp : 0 < l.length) (h1 : 1 ≤ t) (h4 : t ≤ 4) :
    Calls Tryz.prog 19 #[v, .int .i64 t] w fun e w' => ∃ u, e = .returned (.tuple #[u, .int .i64 (WAY l t).2]) ∧ w'.ownsRow w.heap.size 5 1 u (WAY l t).1.length ((WAY l t).1.map (Value.int .u8)) ∧ Only (fun _ => False) w w' := by
  have A := hideIt (istag_yes t w (by omega) (by omega))
  have TM := hideIt (times_any t w h1 h4)
  have DF := hideIt (diff_in v l (tms t) w h (by omega) (tms_le t))
  have HDL := hideIt (D_length (tms t) l)
  have HDG := hideIt (D_i64 hg (tms t))
  have WO : Hid (∀ (u : Value) (w2 : World), Bs .u64 w2 u ((zsn (D (tms t) l)).drop 1) → Calls Tryz.prog 42 #[u, .int .i64 t] w2 fun e w' => ∃ u', e = .returned (.tuple #[u', .int .i64 (WOTH ((zsn (D (tms t) l)).drop 1) t).2]) ∧ w'.ownsRow w2.heap.size 5 1 u' (WOTH ((zsn (D (tms t) l)).drop 1) t).1.length ((WOTH ((zsn (D (tms t) l)).drop 1) t).1.map (Value.int .u8)) ∧ Only (fun _ => False) w2 w') :=
    fun u w2 hb => woth_any u _ t w2 hb ((zD_u64 hg _).drop 1) (by rw [List.length_drop, zD_length]; omega) h1 h4
  have HWL := hideIt (WOTH_len (z := (zsn (D (tms t) l)).drop 1) ((zD_u64 hg _).drop 1) (by rw [List.length_drop, zD_length]; omega) t)
  have HWAY : Hid (WAY l t = if (WOTH ((zsn (D (tms t) l)).drop 1) t).2 ≠ 0 then ([], (WOTH ((zsn (D (tms t) l)).drop 1) t).2) else (gs (zig ((D (tms t) l).getD 0 0)).toNat ++ (WOTH ((zsn (D (tms t) l)).drop 1) t).1, 0)) := by
    simp only [Hid]
    unfold WAY
    rw [if_neg (List.length_pos_iff.1 hp), if_neg (by omega), zsn_first (by rw [D_length]; exact hp)]
  obtain ⟨ao, cap, rfl⟩ := h.len
  have d0 : decide ((65536 : Int) < l.length) = false := decide_eq_false (by omega)
  have d1 : ((l.length : Int) == 0) = false := by rw [beq_eq_false_iff_ne]; omega
  have d2 : ((t : Int) == 0) = false := by rw [beq_eq_false_iff_ne]; omega
  obtain ⟨n, hn⟩ : ∃ n, n = l.length := ⟨_, rfl⟩
  rw [← hn] at hl hp d0 d1 DF HDL
  rw [← hn]
  clear h hg hn
  obtain ⟨z1, hz1⟩ : ∃ z1, z1 = (zsn (D (tms t) l)).drop 1 := ⟨_, rfl⟩
  rw [← hz1] at WO HWL HWAY
  have HZ1 := hideIt hz1
  clear hz1
  generalize hWO : WOTH z1 t = W at *
  clear hWO
  obtain ⟨W1, c⟩ := W
  simp only at WO HWL HWAY
  generalize WAY l t = Wl at *
  generalize hDD : D (tms t) l = d at *
  clear hDD
  generalize tms t = k at *
  go_enter Tryz.func19, Tryz.ntmps19
  go_wp2_with fail
  refine A.out.mono ?_
  rintro e w1 ⟨rfl, rfl⟩
  clear A
  go_wp2_with fail
  refine TM.out.mono ?_
  rintro e w1 ⟨rfl, rfl⟩
  clear TM
  go_wp2_with fail
  refine DF.out.mono ?_
  rintro e w1 ⟨v1, rfl, own1, o1⟩
  clear DF
  have OWN1 := hideIt own1
  have hb1 : Bs .i64 w1 v1 d := Bs.of_own (by rw [HDL.out]; exact own1)
  have HB1 := hideIt hb1
  obtain ⟨a1, cap1, e1⟩ := hb1.len
  rw [HDL.out] at e1
  subst e1
  have hc1 : n ≤ cap1 := by
    obtain ⟨ao', cap', e2, hc, _⟩ := hb1
    rw [HDL.out] at hc
    simp at e2
    omega
  have HO1 := hideIt o1
  clear own1 o1 hb1
  have j0 : (1 : Int) ≤ (n : Int) := by omega
  have j1 : (1 : Int) ≤ (cap1 : Int) := by omega
  by_cases hcc : cap1 = 1
  · subst hcc
    obtain rfl : n = 1 := by omega
    have hb2 : Bs .i64 w1 (.slice a1 0 0) (d.drop 1) := by have := HB1.out.cut0 (n := 1) (by omega); simpa using this
    have ZG := hideIt (zigs_any _ (d.drop 1) w1 hb2 (fun x hx => HDG.out x (List.mem_of_mem_drop hx)) (by rw [List.length_drop, HDL.out]; omega))
    rw [zsn_drop, ← HZ1.out] at ZG
    clear hb2
    go_wp2_with fail
    refine ZG.out.mono ?_
    rintro e w2 ⟨v2, rfl, own2, o2⟩
    clear ZG
    have W2 := hideIt (WO.out v2 w2 (Bs.of_own own2))
    have O12 := hideIt o2
    have OWN2 := hideIt (o2.own OWN1.out (fun _ _ f => f))
    obtain ⟨f2, c2, e2⟩ := (Bs.of_own own2).len
    subst e2
    clear own2 o2
    go_wp2_with fail
    refine W2.out.mono ?_
    rintro e w3 ⟨v3, rfl, own3, o3⟩
    clear W2
    have O13 := hideIt (O12.out.same o3)
    have HO3 := hideIt (HO1.out.same O13.out)
    have OWN3 := hideIt (o3.own OWN2.out (fun _ _ f => f))
    have HB3 := hideIt (Bs.of_own own3)
    have NC3 := hideIt (NoCap.of_own own3)
    obtain ⟨f3, c3, e3⟩ := (Bs.of_own own3).len
    subst e3
    clear own3 o3
    by_cases hc : c = 0
    · subst hc
      have hx := HDG.out (d.getD 0 0) (getD_mem0 d 0 (by rw [HDL.out]; omega))
      have hx2 := zig_bounds _ hx.1 hx.2
      obtain ⟨b, off, cap', e4, cell0⟩ := (HB1.out.past O13.out).at 0 (by rw [HDL.out]; omega)
      have ea : a1 = some ⟨b, off, none⟩ := by simp at e4; exact e4.1
      subst ea
      clear e4
      rw [Nat.add_zero] at cell0
      rw [if_neg (by simp)] at HWAY
      obtain ⟨x, hxd⟩ : ∃ x, x = d.getD 0 0 := ⟨_, rfl⟩
      rw [← hxd] at cell0 hx hx2 HWAY
      have ZA := hideIt (zig_any x w3 hx.1 hx.2)
      have AA := hideIt (append_any (.slice none 0 0) [] (zig x) w3 (Bs.nil _ _) NoCap.nil (by simp) hx2.1 hx2.2)
      have H10 := hideIt (gs_le10 (v := (zig x).toNat) (by omega))
      have HGP := hideIt (gs_pos (zig x).toNat)
      clear hxd hx hx2
      go_wp2_with fail
      refine ZA.out.mono ?_
      rintro e w3' ⟨rfl, rfl⟩
      clear ZA
      go_wp2_with fail
      refine AA.out.mono ?_
      rintro e w4 ⟨v4, rfl, own4, o4⟩
      clear AA
      rw [List.nil_append] at own4
      have hbl : Below w4.heap.size w4 (w4.alloc (.cells #[v4, .slice f3 W1.length c3] 29)) := (Below.refl _ _).alloc (Nat.le_refl _) _
      have CC := hideIt (concat_two w4.heap.size v4 _ (gs (zig x).toNat) W1 (w4.alloc (.cells #[v4, .slice f3 W1.length c3] 29)) (by go_cell) (by go_cell) ((Bs.of_own own4).later hbl) ((HB3.out.past o4).later hbl) (NoCap.of_own own4) NC3.out (by have := HGP.out; omega) (by have := H10.out; have := HWL.out; omega))
      have O4 := hideIt ((HO3.out.same o4).alloc (.cells #[v4, .slice f3 W1.length c3] 29))
      obtain ⟨f4, c4, e4⟩ := (Bs.of_own own4).len
      subst e4
      clear own4 o4 hbl
      generalize gs (zig x).toNat = g at *
      go_wp2_with fail
      refine CC.out.mono ?_
      rintro e w5 ⟨v5, rfl, own5, o5⟩
      clear CC
      obtain ⟨gw, hgw⟩ : ∃ gw, gw = g ++ W1 := ⟨_, rfl⟩
      rw [← hgw] at own5 HWAY
      have eW := HWAY.out
      subst eW
      have F := hideIt (And.intro (own_low own5 O4.out.size) (O4.out.same o5))
      clear hgw HWAY
      obtain ⟨f5, c5, e5⟩ := (Bs.of_own own5).len
      subst e5
      clear own5 o5
      go_wp2
      try rw [Exit.noGoto_ret]
      go_ret2
      exact ⟨_, rfl, F.out.1, F.out.2⟩
    · have dc : (c != 0) = true := by simp; exact hc
      rw [if_pos hc] at HWAY
      have eW := HWAY.out
      subst eW
      clear HWAY
      go_wp2
      try rw [Exit.noGoto_ret]
      go_ret2
      exact ⟨_, rfl, World.ownsRow_nil _ _ _ _, HO3.out⟩
  · have hcx : ¬ ((cap1 : Int) - 1 = 0) := by omega
    have hb2 : Bs .i64 w1 (.slice (a1.map (fun x => x.add 1)) (n - 1) (cap1 - 1)) (d.drop 1) := by have := HB1.out.cut (n := 1) (by omega); simpa using this
    have ZG := hideIt (zigs_any _ (d.drop 1) w1 hb2 (fun x hx => HDG.out x (List.mem_of_mem_drop hx)) (by rw [List.length_drop, HDL.out]; omega))
    rw [zsn_drop, ← HZ1.out] at ZG
    clear hb2
    go_wp2_with fail
    refine ZG.out.mono ?_
    rintro e w2 ⟨v2, rfl, own2, o2⟩
    clear ZG
    have W2 := hideIt (WO.out v2 w2 (Bs.of_own own2))
    have O12 := hideIt o2
    have OWN2 := hideIt (o2.own OWN1.out (fun _ _ f => f))
    obtain ⟨f2, c2, e2⟩ := (Bs.of_own own2).len
    subst e2
    clear own2 o2
    go_wp2_with fail
    refine W2.out.mono ?_
    rintro e w3 ⟨v3, rfl, own3, o3⟩
    clear W2
    have O13 := hideIt (O12.out.same o3)
    have HO3 := hideIt (HO1.out.same O13.out)
    have OWN3 := hideIt (o3.own OWN2.out (fun _ _ f => f))
    have HB3 := hideIt (Bs.of_own own3)
    have NC3 := hideIt (NoCap.of_own own3)
    obtain ⟨f3, c3, e3⟩ := (Bs.of_own own3).len
    subst e3
    clear own3 o3
    by_cases hc : c = 0
    · subst hc
      have hx := HDG.out (d.getD 0 0) (getD_mem0 d 0 (by rw [HDL.out]; omega))
      have hx2 := zig_bounds _ hx.1 hx.2
      obtain ⟨b, off, cap', e4, cell0⟩ := (HB1.out.past O13.out).at 0 (by rw [HDL.out]; omega)
      have ea : a1 = some ⟨b, off, none⟩ := by simp at e4; exact e4.1
      subst ea
      clear e4
      rw [Nat.add_zero] at cell0
      rw [if_neg (by simp)] at HWAY
      obtain ⟨x, hxd⟩ : ∃ x, x = d.getD 0 0 := ⟨_, rfl⟩
      rw [← hxd] at cell0 hx hx2 HWAY
      have ZA := hideIt (zig_any x w3 hx.1 hx.2)
      have AA := hideIt (append_any (.slice none 0 0) [] (zig x) w3 (Bs.nil _ _) NoCap.nil (by simp) hx2.1 hx2.2)
      have H10 := hideIt (gs_le10 (v := (zig x).toNat) (by omega))
      have HGP := hideIt (gs_pos (zig x).toNat)
      clear hxd hx hx2
      go_wp2_with fail
      refine ZA.out.mono ?_
      rintro e w3' ⟨rfl, rfl⟩
      clear ZA
      go_wp2_with fail
      refine AA.out.mono ?_
      rintro e w4 ⟨v4, rfl, own4, o4⟩
      clear AA
      rw [List.nil_append] at own4
      have hbl : Below w4.heap.size w4 (w4.alloc (.cells #[v4, .slice f3 W1.length c3] 29)) := (Below.refl _ _).alloc (Nat.le_refl _) _
      have CC := hideIt (concat_two w4.heap.size v4 _ (gs (zig x).toNat) W1 (w4.alloc (.cells #[v4, .slice f3 W1.length c3] 29)) (by go_cell) (by go_cell) ((Bs.of_own own4).later hbl) ((HB3.out.past o4).later hbl) (NoCap.of_own own4) NC3.out (by have := HGP.out; omega) (by have := H10.out; have := HWL.out; omega))
      have O4 := hideIt ((HO3.out.same o4).alloc (.cells #[v4, .slice f3 W1.length c3] 29))
      obtain ⟨f4, c4, e4⟩ := (Bs.of_own own4).len
      subst e4
      clear own4 o4 hbl
      generalize gs (zig x).toNat = g at *
      go_wp2_with fail
      refine CC.out.mono ?_
      rintro e w5 ⟨v5, rfl, own5, o5⟩
      clear CC
      obtain ⟨gw, hgw⟩ : ∃ gw, gw = g ++ W1 := ⟨_, rfl⟩
      rw [← hgw] at own5 HWAY
      have eW := HWAY.out
      subst eW
      have F := hideIt (And.intro (own_low own5 O4.out.size) (O4.out.same o5))
      clear hgw HWAY
      obtain ⟨f5, c5, e5⟩ := (Bs.of_own own5).len
      subst e5
      clear own5 o5
      go_wp2
      try rw [Exit.noGoto_ret]
      go_ret2
      exact ⟨_, rfl, F.out.1, F.out.2⟩
    · have dc : (c != 0) = true := by simp; exact hc
      rw [if_pos hc] at HWAY
      have eW := HWAY.out
      subst eW
      clear HWAY
      go_wp2
      try rw [Exit.noGoto_ret]
      go_ret2
      exact ⟨_, rfl, World.ownsRow_nil _ _ _ _, HO3.out⟩
end Go.Proofs.YthapipgaohlgdabGreatDoor
