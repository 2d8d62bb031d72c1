/- Package hmac: the pieces, gone through by an iterator. -/
import Derived.Test.YtbcfpiahhippaaaCk
import Derived.Test.YtbcfpiahhippaaaRbk
import Derived.Test.YtbcfpiahhippaaaRb
namespace Go.Proofs.Ytbcfpiahhippaaa
open Go.RowKit Go.Shelf
attribute [local go_sem] Oper.semAt_some

theorem tpc_u8' (key info : List Int) (j : Nat) : U8 (tpc key info j) := by
  cases j with
  | zero => intro y hy; cases hy
  | succ j => exact MACL_u8 _ _
theorem tpc_le' (key info : List Int) (j : Nat) : (tpc key info j).length ≤ 32 := by
  cases j with
  | zero => exact Nat.zero_le _
  | succ j => exact Nat.le_of_eq (tpc_len _ _ _)
/-- three parts, laid in a row -/
def three (a b c : List Int) (i : Nat) : List Int := if i = 0 then a else if i = 1 then b else c
theorem pcat_three (a b c : List Int) : pcat (three a b c) 3 = a ++ b ++ c := by
  show ((([] ++ a) ++ b) ++ c : List Int) = _
  rw [List.nil_append]
theorem Ps.three {w : World} {p u q : Value} {a b c : List Int} (ha : Bs .u8 w p a) (hb : Bs .u8 w u b) (hc : Bs .u8 w q c) (a8 : U8 a) (b8 : U8 b) (c8 : U8 c) (G : Nat) (hG : w.heap.size = G) :
    Ps (w.alloc (.cells #[p, u, q] 22)) G 3 (three a b c) := fun i hi => by
  subst hG
  have o : Only (fun _ => False) w (w.alloc (.cells #[p, u, q] 22)) := (Only.refl _ _).alloc _
  have hB := Blk.new w 22 [p, u, q]
  rcases (show i = 0 ∨ i = 1 ∨ i = 2 by omega) with rfl | rfl | rfl
  · exact ⟨p, hB.cell 0, ha.past o, a8⟩
  · exact ⟨u, hB.cell 1, hb.past o, b8⟩
  · exact ⟨q, hB.cell 2, hc.past o, c8⟩

set_option maxHeartbeats 1000000 in
theorem pieces_in (n : Nat) (a : Option Addr) (len cap : Nat) (b : Option Addr) (len' cap' : Nat) (w : World) :
    CallsIn Fence.wide n Try.prog 30 #[.slice a len cap, .slice b len' cap'] w fun e w' => e = .returned (.func (.func 40) #[] #[.pointer (some ⟨w.heap.size, 0, none⟩), .pointer (some ⟨w.heap.size + 1, 0, none⟩)]) ∧ w' = (w.alloc (.cells #[.slice a len cap] 22)).alloc (.cells #[.slice b len' cap'] 22) := by
  refine callsIn_of_wp Try.func30 rfl trivial ?_ rfl
  simp only [Try.ntmps30, List.size_toArray, List.length_cons, List.length_nil, Nat.reduceAdd, Nat.reduceSub, Array.replicate_succ, Array.replicate_zero, List.push_toArray, List.append_toArray, List.nil_append, List.cons_append]
  gi_wp2
  go_ret
  exact ⟨rfl, rfl⟩

set_option maxRecDepth 100000 in
set_option maxHeartbeats 2000000 in
/-- THE ITERATOR: T(1), T(2) and so on. -/
theorem pieces1_in (n L Bk Bi B0 : Nat) (v : Value) (ua : Option Addr) (ul uc : Nat) (key info : List Int) (h8 : U8 key) (hk : key.length ≤ 10000000000) (hu8 : U8 info) (hl : info.length ≤ 1000000000) (J Jx : Nat → World → Prop)
    (hJ : ∀ s A, J s A → Boxed A Bk 22 v ∧ Boxed A Bi 22 (.slice ua ul uc) ∧ Bs .u8 A v key ∧ Bs .u8 A (.slice ua ul uc) info)
    (hJo : ∀ s A B, J s A → Only (fun _ => False) A B → J s B)
    (hY : ∀ (s : Nat) g c A, s < 255 → J s A → Bs .u8 A (.slice (some ⟨g, 0, none⟩) 32 c) (tpc key info (s + 1)) → B0 + 2 ≤ g → YieldAt Fence.wide (n - 1) Try.prog L #[.slice (some ⟨g, 0, none⟩) 32 c] A fun e B =>
      (e = .returned (.bool true) ∧ J (s + 1) B ∧ Only (fun k => k < B0 ∨ k = B0 + 1) A B) ∨ (e = .returned (.bool false) ∧ Jx (s + 1) B))
    (W : World) (h0 : J 0 W) (hW : B0 + 2 ≤ W.heap.size) :
    CallsIn Fence.wide n Try.prog 40 #[.func (.yield L) #[] #[], .pointer (some ⟨Bk, 0, none⟩), .pointer (some ⟨Bi, 0, none⟩)] W fun e B => (∃ v, e = .returned v) ∧ (J 255 B ∨ ∃ s, Jx s B) := by
  have HJ := hideIt hJ
  have HJo := hideIt hJo
  have HY := hideIt hY
  have H0 := hideIt h0
  have HW := hideIt hW
  have HK := hideIt (And.intro h8 (And.intro hk (And.intro hu8 hl)))
  clear hJ hJo hY h0 hW h8 hk hu8 hl
  refine callsIn_of_wp Try.func40 rfl trivial ?_ rfl
  simp only [Try.ntmps40, List.size_toArray, List.length_cons, List.length_nil, Nat.reduceAdd, Nat.reduceSub, Array.replicate_succ, Array.replicate_zero, List.push_toArray, List.append_toArray, List.nil_append, List.cons_append]
  gi_wp2
  gi_loopw [4, 6] (fun p i wr => ∃ t : Nat, t ≤ 255 ∧ i = .int .i64 t ∧ Hid (J t wr) ∧ Hid (Bs .u8 wr p (tpc key info t)) ∧ Hid (∀ k, p.ownBlock = some k → B0 + 2 ≤ k) ∧ Hid (B0 + 2 ≤ wr.heap.size)) (fun _ i _ => 255 - (intOf i).toNat)
  case atStart => exact ⟨0, by omega, rfl, H0, Bs.nil _ _, (fun k h => by cases h), HW⟩
  case round =>
    obtain ⟨t, ht, rfl, HT, HP, HQ, HS⟩ := hrel
    by_cases hlt : t < 255
    · have dlt : decide ((t : Int) < 255) = true := decide_eq_true (by omega)
      obtain ⟨hbk, hbi, hbv, hbu⟩ := HJ.out t wr HT.out
      have hc1 := hbk.cell
      have hc2 := hbi.cell
      obtain ⟨b, hb⟩ : ∃ b : Int, b = (t : Int) + 1 := ⟨_, rfl⟩
      have hbb : b = (((t + 1) % 256 : Nat) : Int) := by omega
      obtain ⟨pa, pc, ep⟩ := HP.out.len
      obtain ⟨m, hm⟩ : ∃ m, m = (tpc key info t).length := ⟨_, rfl⟩
      rw [← hm] at ep
      subst ep
      have o1 : Only (fun _ => False) wr (wr.alloc (.cells #[.int .u8 b] 5)) := (Only.refl _ _).alloc _
      have o2 : Only (fun _ => False) wr ((wr.alloc (.cells #[.int .u8 b] 5)).alloc (.cells #[.slice pa m pc, .slice ua ul uc, .slice (some ⟨wr.heap.size, 0, none⟩) 1 1] 22)) := o1.alloc _
      have hps := Ps.three (HP.out.past o1) (hbu.past o1) (Bs.litN .u8 wr 5 [b] _ _ rfl rfl) (tpc_u8' _ _ _) HK.out.2.2.1 (fun y hy => by rw [List.mem_singleton] at hy; subst hy; omega) (wr.heap.size + 1) (size_alloc _ _)
      have A := hideIt (tagOf_any v key (wr.heap.size + 1) 3 (three (tpc key info t) info [b]) ((wr.alloc (.cells #[.int .u8 b] 5)).alloc (.cells #[.slice pa m pc, .slice ua ul uc, .slice (some ⟨wr.heap.size, 0, none⟩) 1 1] 22)) (hbv.past o2) HK.out.1 HK.out.2.1 hps (by
        have h1 := tpc_le' key info t
        have h2 := HK.out.2.2.2
        rw [pcat_three, List.length_append, List.length_append]; simp only [List.length_singleton]; omega) (by decide))
      have hM : MACL key (pcat (three (tpc key info t) info [b]) 3) = tpc key info (t + 1) := by rw [pcat_three, hbb]; rfl
      rw [hM, hb] at A
      have O2 := hideIt o2
      rw [hb] at O2
      clear hbk hbi hbv hbu hb hbb hm o1 o2 hps hM
      gi_wp2_with fail
      refine ⟨trivial, (fun h => by cases h), (callsIn_wide.2 A.out).mono ?_⟩
      rintro e w2 ⟨r, rfl, own2, on2⟩
      have hsz := O2.out.size
      have hs2 := on2.size
      have hS := HS.out
      have b2 : Bs .u8 w2 r (tpc key info (t + 1)) := Bs.of_own (by rw [tpc_len]; exact own2)
      have lt2 := fun k hk => (own2.lt k hk)
      obtain ⟨ra, rc, er⟩ := own_form own2
      subst er
      obtain ⟨g, hg⟩ : ∃ g, ra = some ⟨g, 0, none⟩ := by
        rcases own2.2 with ⟨_, h0⟩ | ⟨g, cap, cur, hv, _⟩
        · cases h0
        · simp at hv; exact ⟨g, hv.1⟩
      subst hg
      have hgB := lt2 g rfl
      obtain ⟨fn, tmps, assign, body, hy, hR⟩ := HY.out t g rc w2 hlt (HJo.out _ _ _ HT.out (O2.out.same on2)) b2 (by omega)
      have HR := hideIt hR
      have H2 := hideIt (And.intro b2 (show B0 + 2 ≤ g by omega))
      have HS2 : Hid (B0 + 2 ≤ w2.heap.size) := by show _ ≤ _; omega
      clear own2 on2 A hR b2 lt2 hsz hs2 hS hgB hc1 hc2 HT HP HQ HS O2
      gi_wp2
      refine ⟨(fun h => by cases h), HR.out.mono ?_⟩
      rintro e w3 (⟨rfl, hJ3, o3⟩ | ⟨rfl, hJ3⟩)
      · have H3 := hideIt hJ3
        have N2 := hideIt (H2.out.1.keep o3 (fun k hk => by
          have h2 := H2.out.2
          simp [Value.ownBlock] at hk
          omega))
        have N3 : Hid (∀ k, (Value.slice (some ⟨g, 0, none⟩) 32 rc).ownBlock = some k → B0 + 2 ≤ k) := fun k hk => by
          have h2 := H2.out.2
          simp [Value.ownBlock] at hk
          omega
        have N4 : Hid (B0 + 2 ≤ w3.heap.size) := by
          have h1 := HS2.out
          have h2 := o3.size
          show _ ≤ _
          omega
        clear HR hJ3 o3
        gi_wp2
        go_roundw
        case rel => exact ⟨t + 1, by omega, by go_num, H3, N2, N3, N4⟩
        case measure => simp [intOf]; omega
      · have H3 := hideIt hJ3
        clear HR hJ3
        gi_wp2
        refine bodyPost_ret (results_none rfl _ _ _) rfl ?_
        exact ⟨⟨_, rfl⟩, .inr ⟨_, H3.out⟩⟩
    · obtain rfl : t = 255 := by omega
      gi_wp2
      go_end0
      exact ⟨⟨_, rfl⟩, .inl HT.out⟩
end Go.Proofs.Ytbcfpiahhippaaa
