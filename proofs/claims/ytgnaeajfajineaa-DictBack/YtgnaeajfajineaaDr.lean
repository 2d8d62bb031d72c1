/- Package dict: readDictionary. -/
import Derived.Test.YtgnaeajfajineaaDf
import Derived.Test.YtgnaeajfajineaaDk2
import Derived.Test.YtgnaeajfajineaaCu2
namespace Go.Proofs.Ytgnaeajfajineaa
open Go.RowKit Go.Maps

theorem lt_of_heap {w : World} {k : Nat} {o : Obj} (h : w.heap[k]? = some o) : k < w.heap.size := (Array.getElem?_eq_some_iff.1 h).1

set_option maxHeartbeats 400000 in
theorem rdict_err {w : World} {R : Nat} {v : Value} {ys : List Int} (h : CurAt 79 w R v ys) (N : Nat) {a : Int} {k : Nat} {c : Int} (hs : sVarint ys = (a, k, c)) (hc : c ≠ 0) :
    Calls Try.prog 42 #[.pointer (some ⟨R, 0, none⟩), .int .i64 N] w fun e w' => e = .returned (.tuple #[.slice none 0 0, .int .i64 c]) ∧ Only (fun k => k = R) w w' := by
  have VC := hideIt (varint_cur h)
  rw [hs] at VC
  have dc : (c != 0) = true := by simpa using hc
  clear h hs hc
  go_enter Try.func42, Try.ntmps42
  go_wp2_with fail
  refine VC.out.mono ?_
  rintro e w1 ⟨rfl, v2, _, _, o2⟩
  have O2 := hideIt o2
  clear o2 VC
  go_wp2
  go_ret2
  exact ⟨rfl, O2.out⟩

set_option maxHeartbeats 400000 in
theorem rdict_many {w : World} {R : Nat} {v : Value} {ys : List Int} (h : CurAt 79 w R v ys) (N : Nat) {a k : Nat} (hs : sVarint ys = ((a : Int), k, 0)) (hN : N ≤ 65536) (hc : N < a) :
    Calls Try.prog 42 #[.pointer (some ⟨R, 0, none⟩), .int .i64 N] w fun e w' => e = .returned (.tuple #[.slice none 0 0, .int .i64 3]) ∧ Only (fun k => k = R) w w' := by
  have VC := hideIt (varint_cur h)
  rw [hs] at VC
  have dc : decide ((N : Int) < (a : Int)) = true := by simp; omega
  have dn : N < a := hc
  clear h hs hc
  go_enter Try.func42, Try.ntmps42
  go_wp2_with fail
  refine VC.out.mono ?_
  rintro e w1 ⟨rfl, v2, _, _, o2⟩
  have O2 := hideIt o2
  clear o2 VC
  go_wp2
  go_ret2
  exact ⟨rfl, O2.out⟩

set_option maxHeartbeats 1000000 in
set_option maxRecDepth 100000 in
theorem rdict_bs {w : World} {R : Nat} {v : Value} {ys : List Int} (h : CurAt 79 w R v ys) (hv : ∀ k, v.ownBlock = some k → k < w.heap.size) (N : Nat) {a q : Nat} (hs : sVarint ys = ((a : Int), q, 0)) (hN : N ≤ 65536) (hc : a ≤ N) (rest : List Int) (hrest : rest = ys.drop q) :
    Calls Try.prog 42 #[.pointer (some ⟨R, 0, none⟩), .int .i64 N] w fun e w' =>
      (Hid (rest.length < 8 * a) ∧ e = .returned (.tuple #[.slice none 0 0, .int .i64 2]) ∧ Only (fun k => k = R) w w') ∨
      (Hid (8 * a ≤ rest.length) ∧ ∃ u v2, e = .returned (.tuple #[u, .int .i64 0]) ∧ w'.ownsRow w.heap.size 35 1 u a ((rd8 a rest).map (Value.int .u64)) ∧ CurAt 79 w' R v2 (rest.drop (8 * a)) ∧ v2.ownBlock = v.ownBlock ∧ Only (fun k => k = R) w w') := by
  obtain ⟨i0, hi, hz0, hz1, hz2⟩ := info_parts Try.infoU64
  have VC := hideIt (varint_cur h)
  rw [hs] at VC
  simp only at VC
  rw [← hrest] at VC
  have HR := hideIt (lt_of_heap h.cell)
  have HV := hideIt hv
  have dc : decide ((N : Int) < (a : Int)) = false := by simp; omega
  have dn : decide (N < a) = false := decide_eq_false (by omega)
  clear h hs hrest hv
  go_enter Try.func42, Try.ntmps42
  go_wp2_with fail
  refine VC.out.mono ?_
  rintro e w1 ⟨rfl, v1, cu1, ob1, o1⟩
  have C1 : Hid (CurAt 79 w1 R v1 (rest.drop (8 * 0))) := cu1
  have OB1 := hideIt ob1
  have O1 := hideIt o1
  clear cu1 ob1 o1 VC
  go_wp2
  go_loopw [8, 24] (fun s i wr => ∃ j : Nat, j ≤ a ∧ i = .int .u64 j ∧ Hid (8 * j ≤ rest.length) ∧ wr.ownsRow w.heap.size 35 1 s j ((rd8 j rest).map (Value.int .u64)) ∧ ∃ v2, CurAt 79 wr R v2 (rest.drop (8 * j)) ∧ v2.ownBlock = v.ownBlock ∧ Only (fun k => k = R) w wr) (fun _ i _ => a - (intOf i).toNat)
  case atStart => exact ⟨0, Nat.zero_le _, rfl, by simp [Hid], World.ownsRow_nil _ _ _ _, v1, C1.out, OB1.out, O1.out⟩
  case round =>
    clear C1 OB1 O1
    obtain ⟨j, hj, rfl, HJ, hown, v2, hcur, hob, hon⟩ := hrel
    by_cases hlt : j < a
    · have dlt : decide ((j : Int) < (a : Int)) = true := by simp; omega
      have FC := hideIt (fixed_cur hcur 8)
      have HOB := hideIt hob
      have HON := hideIt hon
      have HOWN := hideIt hown
      by_cases h8 : rest.length < 8 * j + 8
      · have e1 : sFixed 8 (rest.drop (8 * j)) = (0, 0, 2) := by
          unfold sFixed; rw [if_neg (by omega), if_pos (by rw [List.length_drop]; omega)]
        rw [e1] at FC
        have HS : Hid (rest.length < 8 * a) := (by omega : rest.length < 8 * a)
        clear e1 h8 hcur hob hon hown
        go_wp2_with fail
        refine FC.out.mono ?_
        rintro e w4 ⟨rfl, v4, _, _, o4⟩
        have O4 := hideIt (HON.out.trans o4 (fun _ _ f => f))
        clear o4 FC
        go_wp2
        go_ret2
        exact .inl ⟨HS, rfl, O4.out⟩
      · have e1 : sFixed 8 (rest.drop (8 * j)) = (((num ((rest.drop (8 * j)).take 8) : Nat) : Int), 8, 0) := by
          unfold sFixed; rw [if_neg (by omega), if_neg (by rw [List.length_drop]; omega)]; rfl
        rw [e1] at FC
        simp only [List.drop_drop] at FC
        have HJ2 : Hid (8 * (j + 1) ≤ rest.length) := (by omega : 8 * (j + 1) ≤ rest.length)
        have HST := hideIt (rd8_snoc j rest)
        have hxl : num ((rest.drop (8 * j)).take 8) < 18446744073709551616 := by
          have h1 := num_lt ((rest.drop (8 * j)).take 8) (fun y hy => hcur.rng y (List.mem_of_mem_take hy))
          have h2 : (256 : Nat) ^ ((rest.drop (8 * j)).take 8).length ≤ 256 ^ 8 := Nat.pow_le_pow_right (by omega) (by rw [List.length_take]; omega)
          have h3 : (256 : Nat) ^ 8 = 18446744073709551616 := by decide
          omega
        rw [show 8 * j + 8 = 8 * (j + 1) by omega] at FC
        generalize num ((rest.drop (8 * j)).take 8) = x at *
        obtain ⟨d, hd⟩ : ∃ d, d = rd8 j rest := ⟨_, rfl⟩
        have hdl : d.length = j := by rw [hd, rd8_len]
        rw [← hd] at HOWN HST
        obtain ⟨a6, c6, e6⟩ : ∃ a6 c6, u8 = .slice a6 j c6 := by
          have := (Bs.of_own (k := .u64) (xs := d) (by rw [hdl]; exact HOWN.out)).len
          rw [hdl] at this; exact this
        subst e6
        clear e1 h8 hcur hob hon hown hd hdl
        go_wp2_with fail
        refine FC.out.mono ?_
        rintro e w4 ⟨rfl, v4, cu4, ob4, o4⟩
        have hrow := o4.own HOWN.out (fun k hk f => by have := (HOWN.out.lt k hk).1; have := HR.out; omega)
        have C4 := hideIt cu4
        have OB4 := hideIt (ob4.trans HOB.out)
        have O4 := hideIt (HON.out.trans o4 (fun _ _ f => f))
        clear FC cu4 ob4 o4 HOWN HON HOB
        have s4 : w.heap.size ≤ w4.heap.size := O4.out.size
        go_wp2_with (at_builtin; refine wpList_append_own _ rfl _ _ 22 rfl w.heap.size 35 i0 (.int .u64 0) 1 8 Try.underlying22 hi hz0 hz1 hz2 rfl (by decide) _ j _ rfl (hrow.alloc _) ⟨w4.heap.size, 0, none⟩ 1 1 [.int .u64 (x : Int)] rfl rfl (cell_one_new _ _ _) (ints_oneCell .u64 [(x : Int)]) (by unfold maxLen; omega) (by omega) (by simp; omega) ?_; intro v' w6 hown' hgrow2 hnil2)
        have OW6 : Hid (w6.ownsRow w.heap.size 35 1 v' (j + 1) ((rd8 (j + 1) rest).map (Value.int .u64))) := by
          simp only [Hid]; rw [HST.out, List.map_append]; exact hown'
        have ONA : Only (fun k => k = R) w4 (w4.alloc (.cells #[.int .u64 (x : Int)] 35)) := (Only.refl _ _).alloc _
        have ON6 : Only (fun k => (Value.slice a6 j c6).ownBlock = some k) w4 w6 := ((Only.refl _ w4).alloc _).grown hgrow2 (fun k hk e => e)
        have O6 := hideIt (O4.out.trans ON6 (fun i hi f => absurd (hrow.lt i f).1 (by omega)))
        have C6 := hideIt (C4.out.keep ON6 (fun f => by have := (hrow.lt R f).1; have := HR.out; omega) (fun k hk f => by
          rw [OB4.out] at hk
          have := HV.out k hk; have := (hrow.lt k f).1; omega))
        clear hown' hgrow2 hnil2 hrow ONA ON6 C4 O4
        go_wp2
        go_roundw
        case rel => exact ⟨j + 1, by omega, by go_num, HJ2, OW6.out, v4, C6.out, OB4.out, O6.out⟩
        case measure => simp [intOf]; omega
    · obtain rfl : j = a := by omega
      have dlt : decide ((j : Int) < (j : Int)) = false := by simp
      have HOB := hideIt hob
      have HON := hideIt hon
      have HOWN := hideIt hown
      have HC := hideIt hcur
      clear hown hcur hob hon
      go_wp2
      go_ret2
      exact .inr ⟨HJ, _, v2, rfl, HOWN.out, HC.out, HOB.out, HON.out⟩
end Go.Proofs.Ytgnaeajfajineaa
