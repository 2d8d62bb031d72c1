/- The document's own answer: modulo p. -/
import Derived.Test.YtjiippbjflpkkaaRmu
import Derived.Test.YtjiippbjflpkkaaRls
import Derived.Deep.RegionHeld3
import Derived.Deep.CutRange
namespace Go.Proofs.Ytjiippbjflpkkaa
open Go.RowKit

/-- the number that a slice's digits are -/
def nvOf (w : World) : Value → Nat
  | .slice (some ⟨b, off, none⟩) n _ => nv ((List.range n).map fun j => match w.cell? ⟨b, off + j, none⟩ with | some (.int _ x) => x | _ => 0)
  | _ => 0
theorem nvOf_bs {w : World} {v : Value} {L : List Int} (h : Bs .i64 w v L) : nvOf w v = nv L := by
  obtain ⟨ao, cap, rfl, hc, hr⟩ := h
  by_cases h0 : L = []
  · subst h0
    rcases ao with _ | ⟨b, off, _ | r⟩ <;> rfl
  · obtain ⟨b, off, rfl, hcell⟩ := hr h0
    simp only [nvOf]
    congr 1
    apply List.ext_getElem
    · simp
    · intro i h1 h2
      simp only [List.getElem_map, List.getElem_range]
      rw [hcell i h2]
      simp [List.getD_eq_getElem?_getD, List.getElem?_eq_getElem h2]
/-- what lies above 2^130, digit by digit -/
structure Hi (L : List Int) (j : Nat) (H : List Int) : Prop where
  len : H.length = j
  u8 : U8 H
  sum : 4 * nv H + (L.getD 16 0).toNat % 4 = nv ((L.drop 16).take j) + 256 ^ j * ((L.getD (16 + j) 0).toNat % 4)
theorem Hi.zero (L : List Int) : Hi L 0 [] := ⟨rfl, (fun y hy => by cases hy), by simp [nv]⟩
theorem hi_step (P A B N x y : Nat) (h : 4 * N + A = B + P * (x % 4)) : 4 * (N + P * (x / 4 + 64 * (y % 4))) + A = B + P * x + P * 256 * (y % 4) := by
  have e : 4 * (x / 4 + 64 * (y % 4)) + x % 4 = x + 256 * (y % 4) := by omega
  generalize x / 4 + 64 * (y % 4) = u at *
  have h2 : P * (4 * u + x % 4) = P * (x + 256 * (y % 4)) := by rw [e]
  rw [Nat.mul_add, Nat.mul_add P x, Nat.mul_left_comm P 4 u, ← Nat.mul_assoc P 256] at h2
  rw [Nat.mul_add]
  omega
theorem Hi.next {L : List Int} {j : Nat} {H : List Int} (h : Hi L j H) (x y : Nat) (hx : L.getD (16 + j) 0 = (x : Int)) (hy : L.getD (16 + (j + 1)) 0 = (y : Int)) (x8 : x ≤ 255) :
    Hi L (j + 1) (H ++ [((x / 4 + 64 * (y % 4) : Nat) : Int)]) := by
  refine ⟨by rw [List.length_append, h.len]; rfl, h.u8.snoc _ (by omega), ?_⟩
  have h1 := h.sum
  rw [hx, Int.toNat_natCast] at h1
  have e : (L.drop 16).getD j 0 = L.getD (16 + j) 0 := by simp [List.getD_eq_getElem?_getD, List.getElem?_drop]
  rw [nv_snoc, h.len, nv_next, e, hx, hy, Int.toNat_natCast, Int.toNat_natCast, Int.toNat_natCast, Nat.pow_succ]
  exact hi_step _ _ _ _ x y h1
theorem Hi.done {L : List Int} {j : Nat} {H : List Int} (h : Hi L j H) (hj : L.length ≤ 16 + j) : 4 * nv H + (L.getD 16 0).toNat % 4 = nv (L.drop 16) := by
  have h1 := h.sum
  rw [List.take_of_length_le (by rw [List.length_drop]; omega), getD_none L (16 + j) (by omega)] at h1
  simpa using h1
theorem pow16 : (256 : Nat) ^ 16 * 4 = 2 ^ 130 := by decide +kernel
theorem low_high {L : List Int} {j r : Nat} {H : List Int} (h : Hi L j H) (hj : L.length ≤ 16 + j) (hl : 16 < L.length) (hr : (L.getD 16 0).toNat % 4 = r) :
    nv L = nv (L.take 16 ++ [(r : Int)]) + 2 ^ 130 * nv H := by
  have h1 := h.done hj
  have h2 := nv_split L 16 (by omega)
  rw [nv_snoc, List.length_take, Nat.min_eq_left (by omega), Int.toNat_natCast, h2, ← h1, hr, ← pow16, Nat.mul_add]
  rw [← Nat.mul_assoc]
  omega
theorem high_pos {L : List Int} {j : Nat} {H : List Int} (h : Hi L j H) (hj : L.length ≤ 16 + j) (l8 : U8 L) (lt : Trimd L) (hl : 17 < L.length ∨ L.length = 17 ∧ 4 ≤ (L.getD 16 0).toNat) : 0 < nv H := by
  have h1 := h.done hj
  have h2 := nv_drop L 16 (by omega)
  rcases hl with hl | hl
  · have h3 := nv_top L lt l8 (L.length - 1) (by omega)
    have h4 := nv_split L 17 (by omega)
    have h5 := nv_lt (L.take 17) (l8.take 17)
    rw [List.length_take, Nat.min_eq_left (by omega)] at h5
    have h6 : 256 ^ 17 ≤ 256 ^ (L.length - 1) := Nat.pow_le_pow_right (by decide) (by omega)
    have h7 : 0 < nv (L.drop 17) := by
      rcases Nat.eq_zero_or_pos (nv (L.drop 17)) with h0 | h0
      · rw [h0] at h4; omega
      · exact h0
    rw [show 16 + 1 = 17 from rfl] at h2
    omega
  · omega
theorem small_lt {L : List Int} (l8 : U8 L) (h : L.length < 17 ∨ L.length = 17 ∧ (L.getD 16 0).toNat < 4) : nv L < 2 ^ 130 := by
  rw [← pow16]
  rcases h with h | h
  · have h1 := nv_lt L l8
    have h2 : 256 ^ L.length ≤ 256 ^ 16 := Nat.pow_le_pow_right (by decide) (by omega)
    omega
  · have h1 := nv_split L 16 (by omega)
    have h2 := nv_drop L 16 (by omega)
    rw [nv_past L (16 + 1) (by omega)] at h2
    have h3 := nv_lt (L.take 16) (l8.take 16)
    rw [List.length_take, Nat.min_eq_left (by omega)] at h3
    have h4 : 256 ^ 16 * nv (L.drop 16) ≤ 256 ^ 16 * 3 := Nat.mul_le_mul_left _ (by omega)
    omega
theorem big_len {L : List Int} (l8 : U8 L) (h : ¬ nv L < PP) : 17 ≤ L.length := by
  rcases Nat.lt_or_ge L.length 17 with h1 | h1
  · exfalso
    have h2 := nv_lt L l8
    have h3 : 256 ^ L.length ≤ 256 ^ 16 := Nat.pow_le_pow_right (by decide) (by omega)
    have h4 : (256 : Nat) ^ 16 < PP := by decide +kernel
    omega
  · exact h1
/-- append([]int{}, a[:16]...), as one step of the region -/
theorem app_low {ops : Array Oper} {o : Oper} {a : Act} {K : Act → World → Prop} {Q : Exit → Act → World → Prop} {E : Prop} {W wr : World} {x : Value} {ys : List Int} (hgd : o.guard = none)
    (ho : o.op = .call { callee := .builtin .append, args := #[.tmp 23, .tmp 25], argTypes := #[61, 61] }) (N : Nat) (hs : a.eval (.tmp 23) = .slice (some ⟨N, 0, none⟩) 0 0) (hx : a.eval (.tmp 25) = x)
    (hy : ys.length = 16) (hb : Bs .i64 wr x ys) (hnc : NoCap x) (hN : wr.heap.size ≤ N) (hB : Blk W N 3 []) (hO : Only (fun _ => False) wr W)
    (h : ∀ v' w4, w4.ownsRow wr.heap.size 3 1 v' 16 (il ys) → W.grownBy w4 (some N) → Only (fun _ => False) wr w4 → (∀ M cs, M ≠ N → Blk W M 3 cs → Blk w4 M 3 cs) → K (a.put o.dst v') w4) :
    if Region.wanted o (yielded ops a.tmps) = true then Oper.wp Try.prog o a W K Q else E := by
  obtain ⟨i0, hi, hz0, hz1, hz2⟩ := info_parts Try.infoI
  refine step_append_bs hgd (.tmp 23) (.tmp 25) 61 ho wr.heap.size 3 i0 (.int .i64 0) 8 Try.underlying61 hi hz0 hz1 hz2 rfl (.slice (some ⟨N, 0, none⟩) 0 0) 0 [] hs (own_blk hB hN (by unfold maxLen; omega) rfl) .i64 x ys hx (hb.past hO) hnc (by rw [hy]; unfold maxLen; omega) (by rw [hy]; omega) hO.size ?_
  intro v' w4 hown hgr
  rw [hy, Nat.zero_add, List.nil_append] at hown
  refine h v' w4 hown hgr (hO.grown hgr (fun k hk e => by simp [Value.ownBlock] at e; omega)) (fun M cs hM hM2 => ?_)
  unfold Blk at *
  rw [← hM2]
  exact hgr.block M (Array.getElem?_eq_some_iff.1 hM2).1 (fun e => hM (by simp [Value.ownBlock] at e; omega))
/-- .. and a digit behind it -/
theorem app_top {ops : Array Oper} {o : Oper} {a : Act} {K : Act → World → Prop} {Q : Exit → Act → World → Prop} {E : Prop} {W wr : World} {v : Value} {ys : List Int} {r : Int} (hgd : o.guard = none)
    (ho : o.op = .call { callee := .builtin .append, args := #[.tmp 26, .tmp 31], argTypes := #[61, 61] }) (M : Nat) (hs : a.eval (.tmp 26) = v) (hx : a.eval (.tmp 31) = .slice (some ⟨M, 0, none⟩) 1 1)
    (hown : W.ownsRow wr.heap.size 3 1 v 16 (il ys)) (hB : Blk W M 3 [.int .i64 r]) (hO : Only (fun _ => False) wr W)
    (h : ∀ v' w4, w4.ownsRow wr.heap.size 3 1 v' 17 (il (ys ++ [r])) → W.grownBy w4 v.ownBlock → Only (fun _ => False) wr w4 → K (a.put o.dst v') w4) :
    if Region.wanted o (yielded ops a.tmps) = true then Oper.wp Try.prog o a W K Q else E := by
  obtain ⟨i0, hi, hz0, hz1, hz2⟩ := info_parts Try.infoI
  have hb : Bs .i64 W (.slice (some ⟨M, 0, none⟩) 1 1) [r] := by
    refine ⟨_, 1, rfl, Nat.le_refl _, fun _ => ⟨M, 0, rfl, fun j hj => ?_⟩⟩
    have hj0 : j = 0 := by simpa using hj
    subst hj0
    rw [hB.cell]; rfl
  refine step_append_bs hgd (.tmp 26) (.tmp 31) 61 ho wr.heap.size 3 i0 (.int .i64 0) 8 Try.underlying61 hi hz0 hz1 hz2 rfl v 16 (il ys) hs hown .i64 _ [r] hx hb (NoCap.some _ _ _) (by simp [maxLen]) (by simp) hO.size ?_
  intro v' w4 hown' hgr
  refine h v' w4 ?_ hgr (hO.grown hgr (fun k hk e => by have := (hown.lt k e).1; omega))
  rw [il_app]
  exact hown'
set_option maxHeartbeats 3200000 in
set_option maxRecDepth 100000 in
theorem rrest_any (va : Value) (a : List Int) (la : a.length ≤ 500) (a8 : U8 a) (w : World) (ba : Bs .i64 w va a) :
    Calls Try.prog 46 #[va] w fun e w' => ∃ v, e = .returned v ∧ ∃ L, Bs .i64 w' v L ∧ U8 L ∧ nv L = nv a % PP ∧ L.length ≤ 17 ∧ Only (fun _ => False) w w' := by
  obtain ⟨i0, hi, hz0, hz1, hz2⟩ := info_parts Try.infoI
  obtain ⟨aao, ac, rfl⟩ := ba.len
  have TR0 := hideIt (rtrim_any aao ac a (by omega) w ba)
  have START : Hid (∀ k, k ≤ a.length → nv (a.take k) = nv a → Bs .i64 w (.slice aao k ac) (a.take k) ∧ U8 (a.take k) ∧ nv (a.take k) % PP = nv a % PP ∧ (a.take k).length ≤ 500) := fun k hk h =>
    ⟨ba.head hk, a8.take k, by rw [h], by rw [List.length_take]; omega⟩
  obtain ⟨p, hp⟩ : ∃ p, p = a.length := ⟨_, rfl⟩
  rw [← hp] at TR0 START la ⊢
  obtain ⟨T, hT⟩ : ∃ T, T = nv a % PP := ⟨_, rfl⟩
  rw [← hT] at START ⊢
  clear ba a8 hp hT
  go_enter Try.func46, Try.ntmps46
  go_wp2_with fail
  refine TR0.out.mono ?_
  rintro e w1 ⟨k, rfl, hk, hk2, hk3, rfl⟩
  have S0 : Hid (∃ L, Bs .i64 w (.slice aao k ac) L ∧ U8 L ∧ Trimd L ∧ nv L % PP = T ∧ L.length ≤ 500 ∧ Only (fun _ => False) w w) := by
    obtain ⟨h1, h2, h3, h4⟩ := START.out k hk hk2
    exact ⟨_, h1, h2, hk3, h3, h4, Only.refl _ _⟩
  clear TR0 START hk hk2 hk3
  go_wp2
  go_loopw [0] (fun o wr => ∃ L, Bs .i64 wr o L ∧ U8 L ∧ Trimd L ∧ nv L % PP = T ∧ L.length ≤ 500 ∧ Only (fun _ => False) w wr) (fun o wr => nvOf wr o)
  case atStart => exact S0.out
  case round =>
    obtain ⟨L, hbs, l8, lt, hmod, hll, hon⟩ := hrel
    clear S0
    have hnv0 := nvOf_bs hbs
    obtain ⟨ao, cap, rfl⟩ := hbs.len
    have hcap : L.length ≤ cap := by
      obtain ⟨_, _, e, h, _⟩ := hbs
      simp at e
      omega
    have BODY : Hid (17 < L.length ∨ L.length = 17 ∧ 4 ≤ (L.getD 16 0).toNat → ∀ (Hl : List Int) (j r : Nat), Hi L j Hl → L.length = 16 + j → (L.getD 16 0).toNat % 4 = r →
        (nv (L.take 16 ++ [(r : Int)]) + nv Hl * 5) % PP = T ∧ nv (L.take 16 ++ [(r : Int)]) + nv Hl * 5 < nvOf wr (.slice ao L.length cap) ∧ U8 (L.take 16 ++ [(r : Int)]) ∧ (L.take 16 ++ [(r : Int)]).length = 17) := fun hc Hl j r hh hj hr => by
      have h1 := low_high hh (by omega) (by omega) hr
      have h2 := high_pos hh (by omega) l8 lt hc
      refine ⟨?_, ?_, (l8.take 16).snoc _ (by omega), by rw [List.length_append, List.length_take, Nat.min_eq_left (by omega)]; rfl⟩
      · rw [Nat.mul_comm, fold_mod, ← h1, hmod]
      · rw [hnv0, h1]
        omega
    by_cases hgo : 17 < L.length ∨ L.length = 17 ∧ 4 ≤ (L.getD 16 0).toNat
    · obtain ⟨m, hm⟩ : ∃ m, m = L.length := ⟨_, rfl⟩
      obtain ⟨b, off, cap', e, hc16⟩ := hbs.at 16 (by omega)
      simp at e
      obtain ⟨rfl, -, rfl⟩ := e
      have HB2 := hideIt (BODY.out hgo)
      have HBS := hideIt hbs
      have H8 := hideIt l8
      obtain ⟨x, hx⟩ := Int.eq_ofNat_of_zero_le (l8.at 16).1
      have x8 := (l8.at 16).2
      rw [hx] at hc16 x8
      obtain ⟨r, hr⟩ : ∃ r, r = x % 4 := ⟨_, rfl⟩
      have HR : Hid ((L.getD 16 0).toNat % 4 = r) := by
        show _ = _
        rw [hx, hr]; rfl
      have e1 : (x : Int).tmod 4 = (r : Int) := by rw [Int.tmod_eq_emod_of_nonneg (by omega)]; omega
      have e2 : (x : Int) % 4 = (r : Int) := by omega
      have hL16 : (L.take 16).length = 16 := by rw [List.length_take, Nat.min_eq_left (by omega)]
      have AL := hideIt (And.intro hL16 (hbs.head (n := 16) (by omega)))
      have HM := hideIt hm
      rw [← hm] at hcap hgo HB2 HBS ⊢
      rw [hx, Int.toNat_natCast] at hgo
      have hgx : 17 < m ∨ m = 17 ∧ 4 ≤ x := hgo
      rw [← hm] at hll
      have OW := hideIt hon
      have j2 : (16 : Int) ≤ (cap : Int) := by omega
      have j3 : (16 : Int) < (m : Int) := by omega
      have hS0 : wr.cell? ⟨b, off + 16, none⟩ = some (.int .i64 (x : Int)) ∧ Only (fun _ => False) wr wr := ⟨hc16, Only.refl _ _⟩
      have KC : Hid (∀ W W1, (W.cell? ⟨b, off + 16, none⟩ = some (.int .i64 (x : Int)) ∧ Only (fun _ => False) wr W) → Only (fun _ => False) wr W1 → (W1.cell? ⟨b, off + 16, none⟩ = some (.int .i64 (x : Int)) ∧ Only (fun _ => False) wr W1)) := fun W W1 h o => by
        refine ⟨?_, o⟩
        rw [World.cell?_of_block (o.block b (World.block_lt_of_cell? wr _ hS0.1) (fun f => f))]; exact hS0.1
      have KA : Hid (∀ W o, (W.cell? ⟨b, off + 16, none⟩ = some (.int .i64 (x : Int)) ∧ Only (fun _ => False) wr W) → ((W.alloc o).cell? ⟨b, off + 16, none⟩ = some (.int .i64 (x : Int)) ∧ Only (fun _ => False) wr (W.alloc o))) := fun W o h => KC.out W _ h (h.2.alloc o)
      have KD : Hid (wr.drew.cell? ⟨b, off + 16, none⟩ = some (.int .i64 (x : Int)) ∧ Only (fun _ => False) wr wr.drew) := KC.out wr _ hS0 (Only.refl _ _).drew
      clear hx hr hL16 hbs l8 lt hmod hon hnv0 BODY hgo hm hc16
      rcases hgx with hg1 | ⟨hg1, hg2⟩
      · have j1 : (17 : Int) < (m : Int) := by omega
        go_wp2_with fail
        go_cut [3] from 9 to 67 (fun o W => Bs .i64 W o (L.take 16 ++ [(r : Int)]) ∧ Only (fun _ => False) wr W)
        case first =>
          go_region_held3 (fun W => W.cell? ⟨b, off + 16, none⟩ = some (.int .i64 (x : Int)) ∧ Only (fun _ => False) wr W) (first | exact KA.out _ _ (by assumption) | exact KC.out _ _ (by assumption) (by assumption) | assumption | exact KD.out) (first | (refine app_low (wr := wr) (ys := L.take 16) rfl rfl _ rfl rfl AL.out.1 AL.out.2 (NoCap.some _ _ _) (by first | exact Nat.le_refl _ | (simp; done) | omega) (by first | exact Blk.new _ 3 [] | exact (Blk.new _ 3 []).alloc _ | (have h := Blk.new (World.alloc wr.drew (.cells #[.int .i64 (r : Int)] 3)) 3 []; rw [size_alloc] at h; exact h)) (by first | assumption | (apply And.right; assumption)) ?_; intro v' w4 hown' hgrow' hon' hkp') | (refine app_top (wr := wr) (ys := L.take 16) (r := (r : Int)) rfl rfl _ rfl rfl (by first | exact hown' | exact hown'.alloc _) (by first | exact Blk.new _ 3 _ | (refine hkp' _ _ (by omega) ?_; first | exact (Blk.new _ 3 _).alloc _ | (have h := Blk.new (World.alloc wr.drew (.cells #[] 3)) 3 [.int .i64 (r : Int)]; rw [size_alloc] at h; exact h))) (by first | assumption | (apply And.right; assumption)) ?_; intro v2 w5 hown2 hgrow2 hon2))
          all_goals (
            go_wp2
            go_meet
            case rel =>
              refine ⟨Bs.of_il (lo := wr.heap.size) ?_, hon2⟩
              have h : (L.take 16 ++ [(r : Int)]).length = 17 := by rw [List.length_append, AL.out.1]; rfl
              rw [h]
              exact hown2)
        case rest =>
          obtain ⟨hcb, hon2⟩ := hcut
          have HL5 : Hid (Bs .i64 wc (.slice (some ⟨b, off, none⟩) m cap) L ∧ Bs .i64 wc u3 (L.take 16 ++ [(r : Int)]) ∧ Only (fun _ => False) w wc) := ⟨HBS.out.past hon2, hcb, OW.out.same hon2⟩
          clear hcb hon2 KA KC KD hS0 HBS OW
          go_wp2
          go_loopw [4, 5] (fun h i wr => ∃ (j : Nat) (H : List Int), 16 + j ≤ m ∧ i = .int .i64 (16 + j : Nat) ∧ Hi L j H ∧ wr.ownsRow wc.heap.size 3 1 h j (il H) ∧ Only (fun _ => False) wc wr) (fun _ i _ => m - (intOf i).toNat)
          case atStart => exact ⟨0, [], by omega, rfl, Hi.zero L, World.ownsRow_nil .., Only.refl _ _⟩
          case round =>
            obtain ⟨j, H, hjm, rfl, hhi, hown, hon⟩ := hrel
            have HHI := hideIt hhi
            have hsz := hon.size
            clear hhi
            obtain ⟨n, hn⟩ : ∃ n, n = 16 + j := ⟨_, rfl⟩
            rw [← hn]
            by_cases hlt : n < m
            · obtain ⟨b1, off1, cap1', e, hca⟩ := (HL5.out.1.past hon).at n (by have := HM.out; omega)
              simp at e
              obtain ⟨⟨rfl, rfl⟩, -, rfl⟩ := e
              obtain ⟨x1, hx1⟩ := Int.eq_ofNat_of_zero_le (H8.out.at n).1
              have x18 := (H8.out.at n).2
              rw [hx1] at hca x18
              have i1 : (n : Int) < (m : Int) := by omega
              obtain ⟨q1, hq1⟩ : ∃ q1, q1 = x1 / 4 := ⟨_, rfl⟩
              have f1 : (x1 : Int).tdiv 4 = (q1 : Int) := by rw [Int.tdiv_eq_ediv_of_nonneg (by omega)]; omega
              have f2 : (x1 : Int) / 4 = (q1 : Int) := by omega
              by_cases hlt2 : n + 1 < m
              · obtain ⟨b2, off2, cap2', e, hcb⟩ := (HL5.out.1.past hon).at (n + 1) (by have := HM.out; omega)
                simp at e
                obtain ⟨⟨rfl, rfl⟩, -, rfl⟩ := e
                obtain ⟨y1, hy1⟩ := Int.eq_ofNat_of_zero_le (H8.out.at (n + 1)).1
                have y18 := (H8.out.at (n + 1)).2
                rw [hy1] at hcb y18
                have NX := HHI.out.next x1 y1 (by rw [← hn]; exact hx1) (by rw [show 16 + (j + 1) = n + 1 by omega]; exact hy1) (by omega)
                obtain ⟨s1, hs1⟩ : ∃ s1, s1 = y1 % 4 := ⟨_, rfl⟩
                obtain ⟨t1, ht1⟩ : ∃ t1, t1 = s1 * 64 := ⟨_, rfl⟩
                obtain ⟨d, hd⟩ : ∃ d, d = q1 + t1 := ⟨_, rfl⟩
                have ed : x1 / 4 + 64 * (y1 % 4) = d := by omega
                rw [ed] at NX
                have f3 : (y1 : Int).tmod 4 = (s1 : Int) := by rw [Int.tmod_eq_emod_of_nonneg (by omega)]; omega
                have f4 : (y1 : Int) % 4 = (s1 : Int) := by omega
                have f5 : (s1 : Int) * 64 = (t1 : Int) := by omega
                have f6 : (q1 : Int) + (t1 : Int) = (d : Int) := by omega
                have g1 : (s1 : Int) ≤ 3 := by omega
                have g2 : (t1 : Int) ≤ 192 := by omega
                have g3 : (q1 : Int) ≤ 63 := by omega
                have g4 : (d : Int) ≤ 255 := by omega
                have i2 : (n : Int) + 1 < (m : Int) := by omega
                have HNX := hideIt NX
                have hn5 : n ≤ 500 := by omega
                have hj5 : j ≤ 500 := by omega
                have HN := hideIt hn
                clear hx1 hy1 NX hq1 hs1 ht1 hd ed hn
                go_wp2_with (at_builtin; refine wpList_append_lies _ rfl _ _ _ rfl wc.heap.size 3 i0 (.int .i64 0) 1 8 Try.underlying61 hi hz0 hz1 hz2 rfl (by omega) _ j (il H) rfl (hown.alloc _) ⟨wr.heap.size, 0, none⟩ 1 1 [.int .i64 (d : Int)] rfl rfl (cell_one_new _ _ _) (fun u hu => by simp at hu; subst hu; rfl) (by omega) (by unfold maxLen; omega) (by omega) (by simp; omega) (wr.heap.size + 1) (by simp) ?_)
                intro g cap1 w6 hown1 hgrow hat hg1'
                have N1 : Hid (w6.ownsRow wc.heap.size 3 1 (.slice (some ⟨g, 0, none⟩) (j + 1) cap1) (j + 1) (il (H ++ [(d : Int)])) ∧ Only (fun _ => False) wc w6) := by
                  refine ⟨?_, (hon.alloc _).grown hgrow (fun q hq e => by have := (hown.lt q e).1; omega)⟩
                  rw [il_app]
                  exact hown1
                clear hown hown1 hgrow hat hon hca hcb
                go_wp2
                go_roundw
                case rel =>
                  have hn := HN.out
                  exact ⟨j + 1, _, by omega, by go_num, HNX.out, N1.out⟩
                case measure => simp [intOf]; omega
              · have hy1 : L.getD (16 + (j + 1)) 0 = ((0 : Nat) : Int) := by rw [getD_none L _ (by have := HM.out; omega)]; rfl
                have NX := HHI.out.next x1 0 (by rw [← hn]; exact hx1) hy1 (by omega)
                have ed : x1 / 4 + 64 * (0 % 4) = q1 := by omega
                rw [ed] at NX
                have g3 : (q1 : Int) ≤ 63 := by omega
                have i2 : ¬ (n : Int) + 1 < (m : Int) := by omega
                have HNX := hideIt NX
                have hn5 : n ≤ 500 := by omega
                have hj5 : j ≤ 500 := by omega
                have HN := hideIt hn
                clear hx1 hy1 NX hq1 ed hn
                go_wp2_with (at_builtin; refine wpList_append_lies _ rfl _ _ _ rfl wc.heap.size 3 i0 (.int .i64 0) 1 8 Try.underlying61 hi hz0 hz1 hz2 rfl (by omega) _ j (il H) rfl (hown.alloc _) ⟨wr.heap.size, 0, none⟩ 1 1 [.int .i64 (q1 : Int)] rfl rfl (cell_one_new _ _ _) (fun u hu => by simp at hu; subst hu; rfl) (by omega) (by unfold maxLen; omega) (by omega) (by simp; omega) (wr.heap.size + 1) (by simp) ?_)
                intro g cap1 w6 hown1 hgrow hat hg1'
                have N1 : Hid (w6.ownsRow wc.heap.size 3 1 (.slice (some ⟨g, 0, none⟩) (j + 1) cap1) (j + 1) (il (H ++ [(q1 : Int)])) ∧ Only (fun _ => False) wc w6) := by
                  refine ⟨?_, (hon.alloc _).grown hgrow (fun q hq e => by have := (hown.lt q e).1; omega)⟩
                  rw [il_app]
                  exact hown1
                clear hown hown1 hgrow hat hon hca
                go_wp2
                go_roundw
                case rel =>
                  have hn := HN.out
                  exact ⟨j + 1, _, by omega, by go_num, HNX.out, N1.out⟩
                case measure => simp [intOf]; omega
            · have hnm : m = 16 + j := by omega
              obtain ⟨f1, f2, f3, f4⟩ := HB2.out H j r HHI.out hnm HR.out
              have FX := hideIt (And.intro f1 (And.intro f2 (And.intro f3 f4)))
              have hHl := HHI.out.len
              have bH : Bs .i64 wr u4 H := Bs.of_il (by rw [hHl]; exact hown)
              have bH2 : Bs .i64 (wr.alloc (.cells #[.int .i64 5] 3)) u4 H := bH.past ((Only.refl _ _).alloc _)
              have b5 := Bs.litN .i64 wr 3 [5] _ 1 rfl rfl
              have MU := hideIt (rmul_any u4 _ H [5] (by omega) (by decide) HHI.out.u8 (by intro y hy; simp at hy; omega) _ bH2 b5)
              rw [show nv [5] = 5 from rfl] at MU
              have O5 := hideIt (hon.alloc (.cells #[.int .i64 5] 3))
              have i1 : ¬ (n : Int) < (m : Int) := by omega
              have HJ := hideIt (And.intro hnm hHl)
              clear hown hon f1 f2 f3 f4 hHl bH bH2 b5 hnm hn
              go_wp2_with fail
              refine MU.out.mono ?_
              rintro e w7 ⟨v7, rfl, M, ownM, m8, mnv, mlen, o7⟩
              have hjm2 := HJ.out
              have AD := hideIt (radd_any u3 v7 (L.take 16 ++ [(r : Int)]) M (by rw [FX.out.2.2.2]; decide) (by rw [mlen, hjm2.2]; simp; omega) FX.out.2.2.1 m8 w7 (HL5.out.2.1.past (O5.out.same o7)) (Bs.of_il ownM))
              have O7 := hideIt (O5.out.same o7)
              have ML : Hid (nv M = nv H * 5 ∧ M.length ≤ 490) := ⟨mnv, by rw [mlen, hjm2.2]; simp; omega⟩
              clear ownM m8 mnv mlen o7 O5 MU hjm2
              go_wp2_with fail
              refine AD.out.mono ?_
              rintro e w8 ⟨v8, rfl, A, ownA, a8', anv, alen, o8⟩
              have hA5 : A.length ≤ 500 := by
                have h1 := ML.out.2
                have h2 := FX.out.2.2.2
                omega
              have bA := Bs.of_il ownA
              obtain ⟨ao8, cap8, rfl⟩ := own_form ownA
              have TR := hideIt (rtrim_any ao8 cap8 A (by omega) w8 bA)
              have N8 : Hid (∀ k, k ≤ A.length → nv (A.take k) = nv A → Trimd (A.take k) → (Bs .i64 w8 (.slice ao8 k cap8) (A.take k) ∧ U8 (A.take k) ∧ Trimd (A.take k) ∧ nv (A.take k) % PP = T ∧ (A.take k).length ≤ 500 ∧ Only (fun _ => False) w w8) ∧ nvOf w8 (.slice ao8 k cap8) = nv (L.take 16 ++ [(r : Int)]) + nv H * 5) := fun k hk h ht => by
                have hb := bA.head hk
                refine ⟨⟨hb, a8'.take k, ht, ?_, by rw [List.length_take]; omega, HL5.out.2.2.same (O7.out.same o8)⟩, ?_⟩
                · rw [h, anv, ML.out.1, FX.out.1]
                · rw [nvOf_bs hb, h, anv, ML.out.1]
              obtain ⟨l8', hl8'⟩ : ∃ l8', l8' = A.length := ⟨_, rfl⟩
              rw [← hl8'] at TR N8 ⊢
              clear ownA a8' anv alen o8 hA5 bA hl8' AD
              go_wp2_with fail
              refine TR.out.mono ?_
              rintro e w9 ⟨k9, rfl, hk9, hk2, hk3, rfl⟩
              have N9 := hideIt (N8.out k9 hk9 hk2 hk3)
              clear hk9 hk2 hk3 N8 TR
              go_wp2
              go_roundw
              case rel => exact ⟨_, N9.out.1⟩
              case measure =>
                rw [N9.out.2]
                exact FX.out.2.1
      · have j1 : ¬ (17 : Int) < (m : Int) := by omega
        have j4 : ((m : Int) == 17) = true := by rw [beq_iff_eq]; omega
        have j5 : (4 : Int) ≤ (x : Int) := by omega
        have j6 : ¬ 17 < m := by omega
        go_wp2_with fail
        go_cut [3] from 9 to 67 (fun o W => Bs .i64 W o (L.take 16 ++ [(r : Int)]) ∧ Only (fun _ => False) wr W)
        case first =>
          go_region_held3 (fun W => W.cell? ⟨b, off + 16, none⟩ = some (.int .i64 (x : Int)) ∧ Only (fun _ => False) wr W) (first | exact KA.out _ _ (by assumption) | exact KC.out _ _ (by assumption) (by assumption) | assumption | exact KD.out) (first | (refine app_low (wr := wr) (ys := L.take 16) rfl rfl _ rfl rfl AL.out.1 AL.out.2 (NoCap.some _ _ _) (by first | exact Nat.le_refl _ | (simp; done) | omega) (by first | exact Blk.new _ 3 [] | exact (Blk.new _ 3 []).alloc _ | (have h := Blk.new (World.alloc wr.drew (.cells #[.int .i64 (r : Int)] 3)) 3 []; rw [size_alloc] at h; exact h)) (by first | assumption | (apply And.right; assumption)) ?_; intro v' w4 hown' hgrow' hon' hkp') | (refine app_top (wr := wr) (ys := L.take 16) (r := (r : Int)) rfl rfl _ rfl rfl (by first | exact hown' | exact hown'.alloc _) (by first | exact Blk.new _ 3 _ | (refine hkp' _ _ (by omega) ?_; first | exact (Blk.new _ 3 _).alloc _ | (have h := Blk.new (World.alloc wr.drew (.cells #[] 3)) 3 [.int .i64 (r : Int)]; rw [size_alloc] at h; exact h))) (by first | assumption | (apply And.right; assumption)) ?_; intro v2 w5 hown2 hgrow2 hon2))
          all_goals (
            go_wp2
            go_meet
            case rel =>
              refine ⟨Bs.of_il (lo := wr.heap.size) ?_, hon2⟩
              have h : (L.take 16 ++ [(r : Int)]).length = 17 := by rw [List.length_append, AL.out.1]; rfl
              rw [h]
              exact hown2)
        case rest =>
          obtain ⟨hcb, hon2⟩ := hcut
          have HL5 : Hid (Bs .i64 wc (.slice (some ⟨b, off, none⟩) m cap) L ∧ Bs .i64 wc u3 (L.take 16 ++ [(r : Int)]) ∧ Only (fun _ => False) w wc) := ⟨HBS.out.past hon2, hcb, OW.out.same hon2⟩
          clear hcb hon2 KA KC KD hS0 HBS OW
          go_wp2
          go_loopw [4, 5] (fun h i wr => ∃ (j : Nat) (H : List Int), 16 + j ≤ m ∧ i = .int .i64 (16 + j : Nat) ∧ Hi L j H ∧ wr.ownsRow wc.heap.size 3 1 h j (il H) ∧ Only (fun _ => False) wc wr) (fun _ i _ => m - (intOf i).toNat)
          case atStart => exact ⟨0, [], by omega, rfl, Hi.zero L, World.ownsRow_nil .., Only.refl _ _⟩
          case round =>
            obtain ⟨j, H, hjm, rfl, hhi, hown, hon⟩ := hrel
            have HHI := hideIt hhi
            have hsz := hon.size
            clear hhi
            obtain ⟨n, hn⟩ : ∃ n, n = 16 + j := ⟨_, rfl⟩
            rw [← hn]
            by_cases hlt : n < m
            · obtain ⟨b1, off1, cap1', e, hca⟩ := (HL5.out.1.past hon).at n (by have := HM.out; omega)
              simp at e
              obtain ⟨⟨rfl, rfl⟩, -, rfl⟩ := e
              obtain ⟨x1, hx1⟩ := Int.eq_ofNat_of_zero_le (H8.out.at n).1
              have x18 := (H8.out.at n).2
              rw [hx1] at hca x18
              have i1 : (n : Int) < (m : Int) := by omega
              obtain ⟨q1, hq1⟩ : ∃ q1, q1 = x1 / 4 := ⟨_, rfl⟩
              have f1 : (x1 : Int).tdiv 4 = (q1 : Int) := by rw [Int.tdiv_eq_ediv_of_nonneg (by omega)]; omega
              have f2 : (x1 : Int) / 4 = (q1 : Int) := by omega
              by_cases hlt2 : n + 1 < m
              · exfalso; omega
              · have hy1 : L.getD (16 + (j + 1)) 0 = ((0 : Nat) : Int) := by rw [getD_none L _ (by have := HM.out; omega)]; rfl
                have NX := HHI.out.next x1 0 (by rw [← hn]; exact hx1) hy1 (by omega)
                have ed : x1 / 4 + 64 * (0 % 4) = q1 := by omega
                rw [ed] at NX
                have g3 : (q1 : Int) ≤ 63 := by omega
                have i2 : ¬ (n : Int) + 1 < (m : Int) := by omega
                have HNX := hideIt NX
                have hn5 : n ≤ 500 := by omega
                have hj5 : j ≤ 500 := by omega
                have HN := hideIt hn
                clear hx1 hy1 NX hq1 ed hn
                go_wp2_with (at_builtin; refine wpList_append_lies _ rfl _ _ _ rfl wc.heap.size 3 i0 (.int .i64 0) 1 8 Try.underlying61 hi hz0 hz1 hz2 rfl (by omega) _ j (il H) rfl (hown.alloc _) ⟨wr.heap.size, 0, none⟩ 1 1 [.int .i64 (q1 : Int)] rfl rfl (cell_one_new _ _ _) (fun u hu => by simp at hu; subst hu; rfl) (by omega) (by unfold maxLen; omega) (by omega) (by simp; omega) (wr.heap.size + 1) (by simp) ?_)
                intro g cap1 w6 hown1 hgrow hat hg1'
                have N1 : Hid (w6.ownsRow wc.heap.size 3 1 (.slice (some ⟨g, 0, none⟩) (j + 1) cap1) (j + 1) (il (H ++ [(q1 : Int)])) ∧ Only (fun _ => False) wc w6) := by
                  refine ⟨?_, (hon.alloc _).grown hgrow (fun q hq e => by have := (hown.lt q e).1; omega)⟩
                  rw [il_app]
                  exact hown1
                clear hown hown1 hgrow hat hon hca
                go_wp2
                go_roundw
                case rel =>
                  have hn := HN.out
                  exact ⟨j + 1, _, by omega, by go_num, HNX.out, N1.out⟩
                case measure => simp [intOf]; omega
            · have hnm : m = 16 + j := by omega
              obtain ⟨f1, f2, f3, f4⟩ := HB2.out H j r HHI.out hnm HR.out
              have FX := hideIt (And.intro f1 (And.intro f2 (And.intro f3 f4)))
              have hHl := HHI.out.len
              have bH : Bs .i64 wr u4 H := Bs.of_il (by rw [hHl]; exact hown)
              have bH2 : Bs .i64 (wr.alloc (.cells #[.int .i64 5] 3)) u4 H := bH.past ((Only.refl _ _).alloc _)
              have b5 := Bs.litN .i64 wr 3 [5] _ 1 rfl rfl
              have MU := hideIt (rmul_any u4 _ H [5] (by omega) (by decide) HHI.out.u8 (by intro y hy; simp at hy; omega) _ bH2 b5)
              rw [show nv [5] = 5 from rfl] at MU
              have O5 := hideIt (hon.alloc (.cells #[.int .i64 5] 3))
              have i1 : ¬ (n : Int) < (m : Int) := by omega
              have HJ := hideIt (And.intro hnm hHl)
              clear hown hon f1 f2 f3 f4 hHl bH bH2 b5 hnm hn
              go_wp2_with fail
              refine MU.out.mono ?_
              rintro e w7 ⟨v7, rfl, M, ownM, m8, mnv, mlen, o7⟩
              have hjm2 := HJ.out
              have AD := hideIt (radd_any u3 v7 (L.take 16 ++ [(r : Int)]) M (by rw [FX.out.2.2.2]; decide) (by rw [mlen, hjm2.2]; simp; omega) FX.out.2.2.1 m8 w7 (HL5.out.2.1.past (O5.out.same o7)) (Bs.of_il ownM))
              have O7 := hideIt (O5.out.same o7)
              have ML : Hid (nv M = nv H * 5 ∧ M.length ≤ 490) := ⟨mnv, by rw [mlen, hjm2.2]; simp; omega⟩
              clear ownM m8 mnv mlen o7 O5 MU hjm2
              go_wp2_with fail
              refine AD.out.mono ?_
              rintro e w8 ⟨v8, rfl, A, ownA, a8', anv, alen, o8⟩
              have hA5 : A.length ≤ 500 := by
                have h1 := ML.out.2
                have h2 := FX.out.2.2.2
                omega
              have bA := Bs.of_il ownA
              obtain ⟨ao8, cap8, rfl⟩ := own_form ownA
              have TR := hideIt (rtrim_any ao8 cap8 A (by omega) w8 bA)
              have N8 : Hid (∀ k, k ≤ A.length → nv (A.take k) = nv A → Trimd (A.take k) → (Bs .i64 w8 (.slice ao8 k cap8) (A.take k) ∧ U8 (A.take k) ∧ Trimd (A.take k) ∧ nv (A.take k) % PP = T ∧ (A.take k).length ≤ 500 ∧ Only (fun _ => False) w w8) ∧ nvOf w8 (.slice ao8 k cap8) = nv (L.take 16 ++ [(r : Int)]) + nv H * 5) := fun k hk h ht => by
                have hb := bA.head hk
                refine ⟨⟨hb, a8'.take k, ht, ?_, by rw [List.length_take]; omega, HL5.out.2.2.same (O7.out.same o8)⟩, ?_⟩
                · rw [h, anv, ML.out.1, FX.out.1]
                · rw [nvOf_bs hb, h, anv, ML.out.1]
              obtain ⟨l8', hl8'⟩ : ∃ l8', l8' = A.length := ⟨_, rfl⟩
              rw [← hl8'] at TR N8 ⊢
              clear ownA a8' anv alen o8 hA5 bA hl8' AD
              go_wp2_with fail
              refine TR.out.mono ?_
              rintro e w9 ⟨k9, rfl, hk9, hk2, hk3, rfl⟩
              have N9 := hideIt (N8.out k9 hk9 hk2 hk3)
              clear hk9 hk2 hk3 N8 TR
              go_wp2
              go_roundw
              case rel => exact ⟨_, N9.out.1⟩
              case measure =>
                rw [N9.out.2]
                exact FX.out.2.1
    · obtain ⟨m, hm⟩ : ∃ m, m = L.length := ⟨_, rfl⟩
      have hlt := small_lt l8 (by omega)
      have hml : m ≤ 17 := by omega
      have h16 : m = 17 → ∃ b off x, ao = some ⟨b, off, none⟩ ∧ wr.cell? ⟨b, off + 16, none⟩ = some (.int .i64 (x : Int)) ∧ (x : Int) < 4 := fun h => by
        obtain ⟨b, off, cap', e, hc16⟩ := hbs.at 16 (by omega)
        simp at e
        have h8 := l8.at 16
        exact ⟨b, off, L.getD 16 0, e.1, hc16, by omega⟩
      have LM := hideIt (last_mod (nv L) hlt)
      rw [hmod] at LM
      have PR := hideIt (rprime_any)
      have LS := hideIt (fun W v (h : Only (fun _ => False) wr W) (hb : Bs .i64 W v primeD) => rless_any _ v L primeD (by omega) l8 primeD_u8 lt primeD_trim W (hbs.past h) hb)
      rw [primeD_nv] at LS
      have SB := hideIt (fun W v (h : Only (fun _ => False) wr W) (hn : ¬ nv L < PP) (hb : Bs .i64 W v primeD) => rsub_any _ v L primeD (by omega) (big_len l8 hn) l8 primeD_u8 (by rw [primeD_nv]; omega) W (hbs.past h) hb)
      rw [primeD_nv] at SB
      have F0 : Hid (∀ W, Only (fun _ => False) wr W → Bs .i64 W (.slice ao m cap) L ∧ U8 L ∧ L.length ≤ 17 ∧ Only (fun _ => False) w W) := fun W h => ⟨by rw [hm]; exact hbs.past h, l8, by omega, hon.same h⟩
      have EXIT : Hid (∀ W, Only (fun _ => False) wr W → True) := fun _ _ => trivial
      rw [← hm] at LS SB ⊢
      have HML := hideIt (And.intro hm hml)
      clear hbs l8 lt hmod hon hnv0 BODY hlt hm hll hcap hgo
      have i1 : ¬ (17 : Int) < (m : Int) := by omega
      rcases Nat.lt_or_ge m 17 with hm17 | hm17
      · have i2 : ((m : Int) == 17) = false := by rw [beq_eq_false_iff_ne]; omega
        clear h16
        go_wp2_with fail
        refine (PR.out wr).mono ?_
        rintro e w2 ⟨v2, rfl, own2, o2⟩
        have hb2 := Bs.of_il (xs := primeD) own2
        have O2 := hideIt o2
        have L2 := hideIt (LS.out w2 v2 o2 hb2)
        clear own2 o2 hb2
        go_wp2_with fail
        refine L2.out.mono ?_
        rintro e w3 ⟨rfl, o3⟩
        have O3 := hideIt (O2.out.same o3)
        clear o3 L2 LS O2
        by_cases hP : nv L < PP
        · have hd : decide (nv L < PP) = true := decide_eq_true hP
          have F1 := hideIt (F0.out w3 O3.out)
          have hT : nv L = T := by
            have := LM.out
            rw [if_pos hP] at this
            exact this.symm
          have HT := hideIt hT
          rw [hd]
          clear hP hd hT SB F0
          go_wp2
          go_ret
          exact ⟨_, rfl, L, F1.out.1, F1.out.2.1, HT.out, F1.out.2.2.1, F1.out.2.2.2⟩
        · have hd : decide (nv L < PP) = false := decide_eq_false hP
          have hT : nv L - PP = T := by
            have := LM.out
            rw [if_neg hP] at this
            exact this.symm
          have HT := hideIt hT
          have SB2 := hideIt (fun W v h => SB.out W v h hP)
          rw [hd]
          clear hP hd hT SB LM
          go_wp2_with fail
          refine (PR.out w3).mono ?_
          rintro e w4 ⟨v4, rfl, own4, o4⟩
          have hb4 := Bs.of_il (xs := primeD) own4
          have O4 := hideIt (O3.out.same o4)
          have S4 := hideIt (SB2.out w4 v4 (O3.out.same o4) hb4)
          clear own4 o4 hb4 SB2
          go_wp2_with fail
          refine S4.out.mono ?_
          rintro e w5 ⟨v5, rfl, D, bD, d8, dnv, dlen, o5⟩
          have F1 : Hid (Bs .i64 w5 v5 D ∧ U8 D ∧ nv D = T ∧ D.length ≤ 17 ∧ Only (fun _ => False) w w5) := ⟨bD, d8, by rw [dnv, HT.out], by have := HML.out; omega, (F0.out _ (O4.out.same o5)).2.2.2⟩
          clear bD d8 dnv dlen o5 S4 F0
          go_wp2
          go_ret
          exact ⟨_, rfl, D, F1.out⟩
      · obtain rfl : m = 17 := by omega
        obtain ⟨b, off, x, rfl, hc16, hx4⟩ := h16 rfl
        have i3 : ¬ (4 : Int) ≤ x := by omega
        go_wp2_with fail
        refine (PR.out wr).mono ?_
        rintro e w2 ⟨v2, rfl, own2, o2⟩
        have hb2 := Bs.of_il (xs := primeD) own2
        have O2 := hideIt o2
        have L2 := hideIt (LS.out w2 v2 o2 hb2)
        clear own2 o2 hb2
        go_wp2_with fail
        refine L2.out.mono ?_
        rintro e w3 ⟨rfl, o3⟩
        have O3 := hideIt (O2.out.same o3)
        clear o3 L2 LS O2
        by_cases hP : nv L < PP
        · have hd : decide (nv L < PP) = true := decide_eq_true hP
          have F1 := hideIt (F0.out w3 O3.out)
          have hT : nv L = T := by
            have := LM.out
            rw [if_pos hP] at this
            exact this.symm
          have HT := hideIt hT
          rw [hd]
          clear hP hd hT SB F0
          go_wp2
          go_ret
          exact ⟨_, rfl, L, F1.out.1, F1.out.2.1, HT.out, F1.out.2.2.1, F1.out.2.2.2⟩
        · have hd : decide (nv L < PP) = false := decide_eq_false hP
          have hT : nv L - PP = T := by
            have := LM.out
            rw [if_neg hP] at this
            exact this.symm
          have HT := hideIt hT
          have SB2 := hideIt (fun W v h => SB.out W v h hP)
          rw [hd]
          clear hP hd hT SB LM
          go_wp2_with fail
          refine (PR.out w3).mono ?_
          rintro e w4 ⟨v4, rfl, own4, o4⟩
          have hb4 := Bs.of_il (xs := primeD) own4
          have O4 := hideIt (O3.out.same o4)
          have S4 := hideIt (SB2.out w4 v4 (O3.out.same o4) hb4)
          clear own4 o4 hb4 SB2
          go_wp2_with fail
          refine S4.out.mono ?_
          rintro e w5 ⟨v5, rfl, D, bD, d8, dnv, dlen, o5⟩
          have F1 : Hid (Bs .i64 w5 v5 D ∧ U8 D ∧ nv D = T ∧ D.length ≤ 17 ∧ Only (fun _ => False) w w5) := ⟨bD, d8, by rw [dnv, HT.out], by have := HML.out; omega, (F0.out _ (O4.out.same o5)).2.2.2⟩
          clear bD d8 dnv dlen o5 S4 F0
          go_wp2
          go_ret
          exact ⟨_, rfl, D, F1.out⟩
end Go.Proofs.Ytjiippbjflpkkaa
