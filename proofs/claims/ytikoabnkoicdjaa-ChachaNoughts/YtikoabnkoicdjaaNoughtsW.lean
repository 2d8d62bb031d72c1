/- The statement ChachaNoughts: the walk. -/
import Derived.Test.YtikoabnkoicdjaaTt
import Derived.Test.YtikoabnkoicdjaaAp0
namespace Go.Proofs.Ytikoabnkoicdjaa
open Go.RowKit

set_option maxHeartbeats 1600000 in
set_option maxRecDepth 100000 in
theorem noughts_walk (vk vn : Value) (key nonce : List Int) (ctr : Nat) (cut : Int) (hc : ctr < 4294967296) (k8 : U8 key) (n8 : U8 nonce) (w : World) (bk : Bs .u8 w vk key) (bn : Bs .u8 w vn nonce) :
    Calls Try.prog 8 #[vk, .int .u32 ctr, vn, .int .i64 cut] w fun e w' => e = .returned (.bool true) ∧ Below w.heap.size w w' := by
  have A := hideIt (awake_any w)
  have hm0 := i64_low cut 8 (by decide)
  rw [show ((2 ^ 8 - 1 : Nat) : Int) = 255 from rfl, show ((2 ^ 8 : Nat) : Int) = 256 from rfl] at hm0
  obtain ⟨m, hm⟩ : ∃ m : Nat, (m : Int) = cut % 256 := ⟨(cut % 256).toNat, by omega⟩
  rw [← hm] at hm0
  have hm1 : m ≤ 255 := by omega
  obtain ⟨wm, hmk, hbm, hom⟩ := mk_blk w m (by omega)
  have hz : Bs .u8 wm (.slice (some ⟨w.heap.size, 0, none⟩) m m) (List.replicate m 0) := Bs.of_bl hbm m (List.length_replicate ..)
  have z8 : U8 (List.replicate m (0 : Int)) := fun y hy => by have := (List.mem_replicate.1 hy).2; omega
  by_cases hok : KN key nonce ∧ fitsC ctr m
  · have P1 := hideIt (stream_ok hok.1 (List.length_replicate ..) hok.2 hc k8 n8 z8 (by omega) wm (bk.past hom) (bn.past hom) hz)
    have HB := hideIt (And.intro bk bn)
    have HU := hideIt (And.intro k8 n8)
    have HN := hideIt (And.intro hok hc)
    have OM := hideIt hom
    obtain ⟨j0, hj, y0, y1, y2⟩ := info_parts Try.infoU8
    clear bk bn k8 n8 hc hok hm hbm hom hz z8
    go_enter Try.func8, Try.ntmps8
    go_wp2_with fail
    refine A.out.mono ?_
    rintro e w1 ⟨rfl, rfl⟩
    go_wp2_with fail
    refine P1.out.mono ?_
    rintro e w1 ⟨v1, rfl, b1, nc1, o1⟩
    have hl1 : (STR key ctr nonce (List.replicate m 0)).length = m := by rw [STR_len, List.length_replicate]
    obtain ⟨ao1, cap1, rfl⟩ := b1.form hl1
    have B1 := hideIt b1
    have O1 := hideIt (OM.out.same o1)
    clear b1 nc1 o1 A P1 hl1 OM hmk
    go_wp2
    go_loopw [13, 14] (fun o i wr => ∃ j : Nat, j ≤ (m + 63) / 64 ∧ i = .int .u32 j ∧ wr.ownsRow w1.heap.size 5 1 o (64 * j) (bl (blks key ctr nonce j)) ∧ Only (fun _ => False) w1 wr) (fun _ i _ => 10 - (intOf i).toNat)
    case atStart => exact ⟨0, by omega, rfl, World.ownsRow_nil _ _ _ _, Only.refl _ _⟩
    case round =>
      obtain ⟨j, hj4, rfl, hown, hon⟩ := hrel
      obtain ⟨ao2, cap2, rfl⟩ := own_form hown
      by_cases hlt : 64 * j < m
      · have hcl : ctr + j < 4294967296 := by
          have h1 := HN.out.1.2
          unfold fitsC at h1; omega
        have hw1 : IntKind.u32.wrap ((ctr : Int) + (j : Int)) = ((ctr + j : Nat) : Int) := by rw [IntKind.wrap_u32']; omega
        have OW := O1.out.same hon
        have P2 := hideIt (block_any vk vn key nonce (ctr + j) hcl HU.out.1 HU.out.2 wr (HB.out.1.past OW) (HB.out.2.past OW))
        rw [show BLe key nonce = 0 from if_pos HN.out.1.1, show BLt key (ctr + j) nonce = BLK key (ctr + j) nonce from if_pos HN.out.1.1] at P2
        obtain ⟨c, hcc⟩ : ∃ c, c = ctr + j := ⟨_, rfl⟩
        rw [← hcc] at P2 hw1
        have HOWN := hideIt hown
        have HON := hideIt hon
        have HC := hideIt hcc
        have i1 : ((64 * j : Nat) : Int) < (m : Int) := by omega
        have hnx : IntKind.u32.wrap ((j : Int) + 1) = ((j + 1 : Nat) : Int) := by rw [IntKind.wrap_u32']; omega
        clear hown hon OW hcc hcl
        go_wp2_with fail
        refine P2.out.mono ?_
        rintro e w2 ⟨v2, rfl, b2, nc2, o2⟩
        obtain ⟨ao3, cap3, rfl⟩ := b2.form (BLK_len key c nonce)
        have B2 := hideIt (And.intro b2 (And.intro nc2 (BLK_len key c nonce)))
        have OW2 : Hid (w2.ownsRow w1.heap.size 5 1 (.slice ao2 (64 * j) cap2) (64 * j) (bl (blks key ctr nonce j))) := o2.own HOWN.out (fun _ _ f => f)
        have HON2 := hideIt (HON.out.same o2)
        have hs2 : w1.heap.size ≤ w2.heap.size := HON2.out.size
        clear b2 nc2 o2 P2 HOWN HON
        go_wp2_with (at_builtin; refine wpList_append_bs _ rfl _ _ 28 rfl w1.heap.size 5 j0 (.int .u8 0) 1 Try.underlying28 hj y0 y1 y2 rfl (.slice ao2 (64 * j) cap2) (64 * j) (bl (blks key ctr nonce j)) rfl OW2.out .u8 (.slice ao3 64 cap3) (BLK key c nonce) rfl B2.out.1 B2.out.2.1 (by rw [B2.out.2.2]; unfold maxLen; omega) (by rw [B2.out.2.2]; omega) hs2 ?_; intro v4 w4 own4 gr4 hnilx hobx; clear hnilx hobx)
        have N1 : Hid (w4.ownsRow w1.heap.size 5 1 v4 (64 * (j + 1)) (bl (blks key ctr nonce (j + 1))) ∧ Only (fun _ => False) w1 w4) := by
          refine ⟨?_, HON2.out.grown gr4 (fun k hk e => by have := (OW2.out.lt k e).1; omega)⟩
          have h := own4
          rw [B2.out.2.2] at h
          rw [show blks key ctr nonce (j + 1) = blks key ctr nonce j ++ BLK key (ctr + j) nonce from rfl, ← HC.out, show bl (blks key ctr nonce j ++ BLK key c nonce) = bl (blks key ctr nonce j) ++ bl (BLK key c nonce) from List.map_append ..]
          exact h
        clear own4 gr4 B2 OW2 HON2
        go_wp2
        go_roundw
        case rel => exact ⟨j + 1, by omega, by go_num, N1.out.1, N1.out.2⟩
        case measure => simp [intOf]; omega
      · have hmj : m ≤ 64 * j := by omega
        have hbs : Bs .u8 wr (.slice ao2 (64 * j) cap2) (blks key ctr nonce j) := Bs.of_own (k := .u8) (E := 5) (lo := w1.heap.size) (by rw [blks_len]; exact hown)
        have hcap : 64 * j ≤ cap2 := by obtain ⟨_, _, e, h, _⟩ := hbs; simp at e; obtain ⟨_, e2, e3⟩ := e; rw [blks_len] at h; omega
        have S1 := hideIt (lsame_eq _ _ _ wr (B1.out.past hon) (by rw [STR_zeros key ctr nonce m j hmj]; exact hbs.head hmj) (by rw [STR_len, List.length_replicate]; omega))
        have F1 := hideIt (O1.out.same hon)
        have i1 : ¬ ((64 * j : Nat) : Int) < (m : Int) := by omega
        have i2 : (m : Int) ≤ (cap2 : Int) := by omega
        have i3 : (0 : Int) ≤ (m : Int) := by omega
        have q1 : ((m : Int) == (m : Int)) = true := by simp
        clear hown hon hbs
        go_wp2_with fail
        refine S1.out.mono ?_
        rintro e w3 ⟨rfl, o3⟩
        have F2 := hideIt (F1.out.same o3)
        clear o3 S1
        go_wp2
        go_ret
        exact ⟨rfl, F2.out.low (Nat.le_refl _)⟩
  · have P1 := hideIt (stream_no (List.length_replicate ..) hok hc k8 n8 z8 (by omega) wm (bk.past hom) (bn.past hom) hz)
    have OM := hideIt hom
    clear bk bn k8 n8 hc hok hm hbm hom hz z8
    go_enter Try.func8, Try.ntmps8
    go_wp2_with fail
    refine A.out.mono ?_
    rintro e w1 ⟨rfl, rfl⟩
    go_wp2_with fail
    refine P1.out.mono ?_
    rintro e w1 ⟨ao1, cap1, E, rfl, hE, o1⟩
    have O1 := hideIt (OM.out.same o1)
    clear o1 P1 A
    go_wp2
    go_ret
    exact ⟨rfl, O1.out.low (Nat.le_refl _)⟩
theorem noughts_walkI (vk vn : Value) (key nonce : List Int) (c : Int) (cut : Int) (hc : 0 ≤ c ∧ c ≤ 4294967295) (k8 : U8 key) (n8 : U8 nonce) (w : World) (bk : Bs .u8 w vk key) (bn : Bs .u8 w vn nonce) :
    Calls Try.prog 8 #[vk, .int .u32 c, vn, .int .i64 cut] w fun e w' => e = .returned (.bool true) ∧ Below w.heap.size w w' := by
  obtain ⟨n, rfl⟩ := Int.eq_ofNat_of_zero_le hc.1
  exact noughts_walk vk vn key nonce n cut (by omega) k8 n8 w bk bn
end Go.Proofs.Ytikoabnkoicdjaa
