/- The document's own answer: Stream. -/
import Derived.Test.YtjiippbjflpkkaaRb15
import Derived.Test.YtjiippbjflpkkaaSt
namespace Go.Proofs.Ytjiippbjflpkkaa
open Go.RowKit

/-- append, as one step of a region that draws; and where the row lies then -/
theorem step_append_bsO {P : Program} {w : World} {ops : Array Oper} {o : Oper} {a : Act} {K : Act → World → Prop} {Q : Exit → Act → World → Prop} {E : Prop} (hgd : o.guard = none) (s x : Operand) (t : TypeId)
    (ho : o.op = .call { callee := .builtin .append, args := #[s, x], argTypes := #[t, t] })
    (base : Nat) (e : TypeId) (i : TypeInfo) (z : Value) (bytes : Nat) (ht : P.underlying t = some (.slice e)) (hi : P.info? e = some i) (hz : i.zero = some z)
    (hsize : i.size = 1) (hby : i.bytes = bytes) (hzs : z.cells.size = 1)
    (v : Value) (n : Nat) (xs : List Value) (hs : a.eval s = v) (hown : w.ownsRow base e 1 v n xs)
    (k : IntKind) (ad : Addr) (cap : Nat) (ys : List Int) (hx : a.eval x = .slice (some ad) ys.length cap) (hb : Bs k w (.slice (some ad) ys.length cap) ys)
    (h63 : n + ys.length ≤ maxLen) (hbytes : (n + ys.length) * bytes ≤ 140737488355328) (hbase : base ≤ w.heap.size)
    (h : ∀ v' w', w'.ownsRow base e 1 v' (n + ys.length) (xs ++ ys.map (Value.int k)) → w.grownBy w' v.ownBlock → (v'.ownBlock = v.ownBlock ∨ v'.ownBlock = some w.heap.size) → K (a.put o.dst v') w') :
    if Region.wanted o (yielded ops a.tmps) = true then Oper.wp P o a w K Q else E := by
  have hw : Region.wanted o (yielded ops a.tmps) = true := by simp [Region.wanted, hgd]
  rw [if_pos hw]
  obtain ⟨v', w', hrun, r1, r2, _, r3⟩ := run_append_own_at (P := P) w base t o.type e i z 1 bytes ht hi hz hsize hby hzs (by omega) v n xs hown ad ys.length cap (ys.map (Value.int k)) (by simp) hb.news (oneCell_ints _ _) h63 hbytes hbase
  unfold Oper.wp
  simp [execOp, ho, resolve, invoke, builtin, hs, hx, hrun, Result.andThen]
  exact h v' w' r1 r2 r3
/-- how many bytes stand when the place i is come to -/
def upto (n i : Nat) : Nat := min n (64 * ((i + 63) / 64))
theorem STR_next (key : List Int) (ctr : Nat) (nonce xs : List Int) (i j : Nat) (hi : i % 64 = 0) (hj : j < 64) (h : i + j < xs.length) :
    (STR key ctr nonce xs).take (i + (j + 1)) = (STR key ctr nonce xs).take (i + j) ++ [(((xs.getD (i + j) 0).toNat ^^^ ((BLK key (ctr + i / 64) nonce).getD j 0).toNat : Nat) : Int)] := by
  have hS := STR_len key ctr nonce xs
  have e := STR_at key ctr nonce xs (i + j) h
  unfold ksb at e
  rw [show (i + j) / 64 = i / 64 by omega, show (i + j) % 64 = j by omega] at e
  rw [← Nat.add_assoc, List.take_add_one, ← e, List.getD_eq_getElem?_getD, List.getElem?_eq_getElem (by omega)]
  rfl
set_option maxHeartbeats 1600000 in
set_option maxRecDepth 100000 in
/-- .. its answer a row of its own -/
theorem rstream_own (vk vn vb : Value) (key nonce xs : List Int) (ctr : Nat) (hc : ctr < 4294967296) (k8 : U8 key) (n8 : U8 nonce) (x8 : U8 xs) (hl : xs.length ≤ 1000000) (w : World) (bk : Bs .u8 w vk key) (bn : Bs .u8 w vn nonce) (bb : Bs .u8 w vb xs) :
    Calls Try.prog 20 #[vk, .int .u32 ctr, vn, vb] w fun e w' => ∃ v, e = .returned (.tuple #[v, .int .i64 (SRe key ctr nonce xs.length)]) ∧ w'.ownsRow w.heap.size 5 1 v (SRt key ctr nonce xs).length (bl (SRt key ctr nonce xs)) ∧ Only (fun _ => False) w w' := by
  have BKN := hideIt (And.intro bk bn)
  have BB := hideIt bb
  obtain ⟨ao, kc, rfl⟩ := bk.len
  obtain ⟨bo, nc, rfl⟩ := bn.len
  obtain ⟨co, bc, rfl⟩ := bb.len
  by_cases h : KN key nonce
  · obtain ⟨j0, hj, y0, y1, y2⟩ := info_parts Try.infoU8
    have BLK0 : BLe key nonce = 0 := if_pos h
    have BLK1 : ∀ c, BLt key c nonce = BLK key c nonce := fun c => if_pos h
    have SE1 : SRe key ctr nonce xs.length = if fitsC ctr xs.length then 0 else 4 := if_pos h
    have SE2 : SRt key ctr nonce xs = if fitsC ctr xs.length then STR key ctr nonce xs else [] := if_pos h
    obtain ⟨EE, hEE⟩ : ∃ EE, EE = SRe key ctr nonce xs.length := ⟨_, rfl⟩
    obtain ⟨LL, hLL⟩ : ∃ LL, LL = SRt key ctr nonce xs := ⟨_, rfl⟩
    rw [← hEE, ← hLL]
    rw [SE1] at hEE
    rw [SE2] at hLL
    obtain ⟨h1, h2⟩ := h
    obtain ⟨S, hS⟩ : ∃ S, S = STR key ctr nonce xs := ⟨_, rfl⟩
    obtain ⟨n, hn⟩ : ∃ n, n = xs.length := ⟨_, rfl⟩
    rw [← hn] at hEE hLL
    rw [← hS] at hLL
    rw [← hn, h1, h2]
    have HEL := hideIt (And.intro hEE hLL)
    clear hEE hLL
    rw [h1, h2] at BKN
    rw [← hn] at BB
    have hnl : n ≤ 1000000 := by omega
    have HX := hideIt (And.intro hS (And.intro hn x8))
    have RB := hideIt (fun (W : World) (o : Only (fun _ => False) w W) (c : Nat) (hc' : c < 4294967296) => rblock_fresh _ _ key nonce c hc' k8 n8 W (BKN.out.1.past o) (BKN.out.2.past o))
    simp only [BLK0, BLK1] at RB
    have hcv : IntKind.u64.wrap (ctr : Int) = (ctr : Int) := by simp [IntKind.wrap, IntKind.bits, IntKind.signed]; omega
    clear bk bn bb k8 n8 x8 h1 h2 hS hn hl BLK0 BLK1 SE1 SE2
    go_enter Try.func20, Try.ntmps20
    go_wp2
    go_loopw [10, 12] (fun o i wr => ∃ k : Nat, k ≤ n ∧ i = .int .i64 k ∧ (k = 0 ∨ ctr + (k - 1) / 64 < 4294967296) ∧ wr.ownsRow w.heap.size 5 1 o (upto n k) (bl (S.take (upto n k))) ∧ Only (fun _ => False) w wr) (fun _ i _ => n - (intOf i).toNat)
    case atStart => exact ⟨0, by omega, rfl, Or.inl rfl, by rw [show upto n 0 = 0 by simp [upto], List.take_zero]; exact World.ownsRow_nil _ _ _ _, Only.refl _ _⟩
    case round =>
      obtain ⟨i, hi, rfl, hf, hown, hon⟩ := hrel
      obtain ⟨ao1, cap1, rfl⟩ := own_form hown
      by_cases hlt : i < n
      · obtain ⟨q, hq⟩ : ∃ q, q = i / 64 := ⟨_, rfl⟩
        have e1 : (i : Int).tdiv 64 = (q : Int) := by rw [Int.tdiv_eq_ediv_of_nonneg (by omega)]; omega
        have e2 : (i : Int) / 64 = (q : Int) := by omega
        have e3 : IntKind.u64.wrap (q : Int) = (q : Int) := by simp [IntKind.wrap, IntKind.bits, IntKind.signed]; omega
        have e4 : IntKind.u64.wrap ((ctr : Int) + (q : Int)) = ((ctr + q : Nat) : Int) := by simp [IntKind.wrap, IntKind.bits, IntKind.signed]; omega
        have i1 : (i : Int) < (n : Int) := by omega
        obtain ⟨c, hcc⟩ : ∃ c, c = ctr + q := ⟨_, rfl⟩
        rw [← hcc] at e4
        by_cases hlong : 4294967295 < c
        · have NF : Hid (¬ fitsC ctr n) := by
            show ¬ _
            unfold fitsC
            omega
          have g1 : (4294967295 : Int) < (c : Int) := by omega
          have HON := hideIt hon
          have EL : EE = 4 ∧ LL = [] := ⟨by rw [HEL.out.1, if_neg NF.out], by rw [HEL.out.2, if_neg NF.out]⟩
          obtain ⟨rfl, rfl⟩ := EL
          clear hown hon hq hcc hf
          go_wp2
          go_ret2
          exact ⟨_, rfl, World.ownsRow_nil .., HON.out⟩
        · have g1 : ¬ ((4294967295 : Int) < (c : Int)) := by omega
          have HF : Hid (i + 1 = 0 ∨ ctr + (i + 1 - 1) / 64 < 4294967296) := Or.inr (by rw [Nat.add_sub_cancel]; omega)
          by_cases hr : i % 64 = 0
          · have e5 : (i : Int).tmod 64 = 0 := by rw [Int.tmod_eq_emod_of_nonneg (by omega)]; omega
            have e6 : (i : Int) % 64 = 0 := by omega
            have e7 : IntKind.u32.wrap (c : Int) = (c : Int) := by rw [IntKind.wrap_u32']; omega
            have hup : upto n i = i := by unfold upto; omega
            rw [hup] at hown ⊢
            have HOWN := hideIt hown
            have HON := hideIt hon
            have HQ := hideIt (And.intro hq (And.intro hcc hr))
            have hcl : c < 4294967296 := by omega
            clear hown hon hq hcc hf hup hr hlong
            go_wp2_with fail
            refine (RB.out wr HON.out c hcl).mono ?_
            rintro e w1 ⟨vv, rfl, bv, nv, o1, fv⟩
            obtain ⟨gk, ok, ck, hvv, _⟩ := bv.at 0 (by rw [BLK_len]; decide)
            rw [BLK_len] at hvv
            subst hvv
            have K1 : Hid (w1.ownsRow w.heap.size 5 1 (.slice ao1 i cap1) (i + 0) (bl (S.take (i + 0))) ∧ (∀ k, (Value.slice ao1 i cap1).ownBlock = some k → k ≠ gk) ∧ Bs .u8 w1 (.slice (some ⟨gk, ok, none⟩) 64 ck) (BLK key c nonce) ∧ Only (fun _ => False) w w1 ∧ gk < w1.heap.size) := by
              refine ⟨o1.own HOWN.out (fun _ _ f => f), fun k hk e => ?_, bv, HON.out.same o1, ?_⟩
              · have h1 := (HOWN.out.lt k hk).2
                have h2 := fv gk rfl
                omega
              · exact bv.blk_lt (ne_of_len (n := 63) (BLK_len _ _ _)) gk rfl
            obtain ⟨KB, hKB⟩ : ∃ KB, KB = BLK key c nonce := ⟨_, rfl⟩
            rw [← hKB] at K1
            have HKB := hideIt hKB
            clear bv nv o1 fv HOWN HON hKB
            go_wp2
            go_loopw [10, 15] (fun o jj wr => ∃ j : Nat, j ≤ 64 ∧ i + j ≤ n ∧ jj = .int .i64 j ∧ wr.ownsRow w.heap.size 5 1 o (i + j) (bl (S.take (i + j))) ∧ (∀ k, o.ownBlock = some k → k ≠ gk) ∧ Bs .u8 wr (.slice (some ⟨gk, ok, none⟩) 64 ck) KB ∧ Only (fun _ => False) w wr ∧ gk < wr.heap.size) (fun _ jj _ => 64 - (intOf jj).toNat)
            case atStart => exact ⟨0, by omega, by omega, rfl, K1.out⟩
            case round =>
              obtain ⟨j, hj64, hjn, rfl, k1, k2, k3, k4, k5⟩ := hrel
              clear K1
              obtain ⟨ao2, cap2, rfl⟩ := own_form k1
              have wij : IntKind.i64.wrap ((i : Int) + (j : Int)) = ((i + j : Nat) : Int) := by rw [IntKind.wrap_i64]; omega
              by_cases hgo : j < 64 ∧ i + j < n
              · obtain ⟨hj1, hj2⟩ := hgo
                have bb2 := BB.out.past k4
                obtain ⟨gb, ob, cb, hcb, cb1⟩ := bb2.at (i + j) (by rw [← HX.out.2.1]; exact hj2)
                have eco : co = some ⟨gb, ob, none⟩ := by simp at hcb; exact hcb.1
                subst eco
                have hgb : gb < w.heap.size := by
                  have := BB.out.blk_lt (fun e => by have h1 := HX.out.2.1; rw [e] at h1; simp at h1; omega) gb rfl
                  exact this
                obtain ⟨gk2, ok2, ck2, hck, ck1⟩ := k3.at j (by rw [HKB.out, BLK_len]; exact hj1)
                simp at hck
                obtain ⟨⟨rfl, rfl⟩, -, rfl⟩ := hck
                have hx := xor_u8 _ _ (HX.out.2.2.at (i + j)) (show 0 ≤ KB.getD j 0 ∧ KB.getD j 0 ≤ 255 by rw [HKB.out]; exact (BLK_u8 _ _ _).at j)
                have hsn := STR_next key ctr nonce xs i j HQ.out.2.2 hj1 (by rw [← HX.out.2.1]; exact hj2)
                rw [← HX.out.1, ← HQ.out.1, ← HQ.out.2.1, ← HKB.out] at hsn
                obtain ⟨x, hxx⟩ : ∃ x, x = (((xs.getD (i + j) 0).toNat ^^^ (KB.getD j 0).toNat : Nat) : Int) := ⟨_, rfl⟩
                rw [← hxx] at hx hsn
                obtain ⟨y, hy⟩ : ∃ y, y = xs.getD (i + j) 0 := ⟨_, rfl⟩
                obtain ⟨z, hz⟩ : ∃ z, z = KB.getD j 0 := ⟨_, rfl⟩
                rw [← hy] at cb1 hx
                rw [← hz] at ck1 hx
                obtain ⟨m, hm⟩ : ∃ m, m = i + j := ⟨_, rfl⟩
                rw [← hm] at wij cb1 k1 ⊢
                have m1 : (m : Int) < (n : Int) := by omega
                have m0 : (0 : Int) ≤ (m : Int) := by omega
                have gij : (i : Int) + (j : Int) = (m : Int) := by omega
                have wm : IntKind.i64.wrap (m : Int) = (m : Int) := by rw [IntKind.wrap_i64]; omega
                have j1 : (j : Int) < 64 := by omega
                have HSN : Hid (bl (S.take (i + (j + 1))) = bl (S.take m) ++ [x].map (Value.int .u8)) := by
                  show _ = _
                  rw [hsn, hm]; exact List.map_append ..
                have BL := hideIt (Bs.litN .u8 wr 5 [x] _ 1 rfl rfl)
                have OWA := hideIt (k1.alloc (.cells #[.int .u8 x] 5))
                have NB1 : (Value.slice ao2 m cap2).ownBlock ≠ some gb := fun e => by have := (k1.lt gb e).1; omega
                have NB2 : (Value.slice ao2 m cap2).ownBlock ≠ some gk := fun e => k2 gk (by rw [hm] at e; exact e) rfl
                have KA : Hid (∀ W W4 : World, (W.cell? ⟨gb, ob + m, none⟩ = some (Value.int .u8 y) ∧ W.cell? ⟨gk, ok + j, none⟩ = some (Value.int .u8 z)) → W.grownBy W4 (Value.slice ao2 m cap2).ownBlock → (W4.cell? ⟨gb, ob + m, none⟩ = some (Value.int .u8 y) ∧ W4.cell? ⟨gk, ok + j, none⟩ = some (Value.int .u8 z))) := fun W W4 ⟨q0, q1⟩ hg => ⟨grown_cell hg NB1 q0, grown_cell hg NB2 q1⟩
                have hle : w.heap.size ≤ wr.heap.size := k4.size
                have HK := hideIt (And.intro k1 (And.intro k2 (And.intro k3 (And.intro k4 k5))))
                have HM := hideIt hm
                clear hy hz hm hxx hsn k1 k2 k3 k4 k5 bb2 hcb NB1 NB2
                go_wp2
                go_region_held3 (fun W => W.cell? ⟨gb, ob + m, none⟩ = some (Value.int .u8 y) ∧ W.cell? ⟨gk, ok + j, none⟩ = some (Value.int .u8 z)) (first | go_keep | exact KA.out _ _ (by assumption) hgrow') (first | (refine step_append_bsO rfl (.tmp 65) (.tmp 77) 22 rfl w.heap.size 5 j0 (.int .u8 0) 1 Try.underlying22 hj y0 y1 y2 rfl _ m (bl (S.take m)) rfl OWA.out .u8 _ 1 [x] rfl BL.out (by simp [maxLen]; omega) (by simp; omega) (by simp; omega) ?_; intro v' w4 hown' hgrow' hob'))
                have o4 : Only (fun k => (Value.slice ao2 m cap2).ownBlock = some k) wr w4 := ((((Only.refl _ _).alloc _).drew).grown hgrow' (fun k hk e => e))
                have N1 : Hid (w4.ownsRow w.heap.size 5 1 v' (i + (j + 1)) (bl (S.take (i + (j + 1)))) ∧ (∀ k, v'.ownBlock = some k → k ≠ gk) ∧ Bs .u8 w4 (.slice (some ⟨gk, ok, none⟩) 64 ck) KB ∧ Only (fun _ => False) w w4 ∧ gk < w4.heap.size) := by
                  refine ⟨?_, fun k hk e => ?_, HK.out.2.2.1.keep o4 (fun b hb e => ?_), HK.out.2.2.2.1.trans o4 (fun k hk e => ?_), Nat.lt_of_lt_of_le HK.out.2.2.2.2 o4.size⟩
                  · rw [HSN.out, show i + (j + 1) = m + 1 by rw [HM.out]; omega]
                    exact hown'
                  · rcases hob' with h1 | h1
                    · rw [h1] at hk
                      exact HK.out.2.1 k (by rw [HM.out] at hk; exact hk) e
                    · rw [h1] at hk
                      have h2 := HK.out.2.2.2.2
                      have h3 : (wr.alloc (.cells #[.int .u8 x] 5)).drew.heap.size = wr.heap.size + 1 := size_alloc _ _
                      have h4 := Option.some.inj hk
                      omega
                  · have h1 : b = gk := by simp [Value.ownBlock] at hb; omega
                    exact HK.out.2.1 b (by rw [HM.out] at e; exact e) h1
                  · have := (HK.out.1.lt k e).1
                    omega
                clear hown' hgrow' hob' KA BL OWA HK HSN o4
                go_simp
                go_wp2
                go_roundw
                case rel => exact ⟨j + 1, by omega, by have := HM.out; omega, by go_num, N1.out⟩
                case measure => simp [intOf]; omega
              · have hij : upto n (i + 1) = i + j := by
                  have h1 := HQ.out.2.2
                  unfold upto; omega
                have N2 : Hid (wr.ownsRow w.heap.size 5 1 (.slice ao2 (i + j) cap2) (upto n (i + 1)) (bl (S.take (upto n (i + 1)))) ∧ Only (fun _ => False) w wr) := by
                  rw [hij]; exact ⟨k1, k4⟩
                have h64 : j < 64 → ¬ (((i + j : Nat) : Int) < (n : Int)) := by omega
                clear k1 k2 k3 k4 k5 hij
                by_cases hj1 : j < 64
                · have j1 : (j : Int) < 64 := by omega
                  have j2 := h64 hj1
                  clear h64 hgo
                  go_wp2
                  go_roundw
                  case rel => exact ⟨i + 1, by omega, by go_num, HF.out, N2.out.1, N2.out.2⟩
                  case measure => simp [intOf]; omega
                · have j1 : ¬ (j : Int) < 64 := by omega
                  clear h64 hgo
                  go_wp2
                  go_roundw
                  case rel => exact ⟨i + 1, by omega, by go_num, HF.out, N2.out.1, N2.out.2⟩
                  case measure => simp [intOf]; omega
          · have e5 : ((i : Int).tmod 64 == 0) = false := by rw [Int.tmod_eq_emod_of_nonneg (by omega), beq_eq_false_iff_ne]; omega
            have e6 : ((i : Int) % 64 == 0) = false := by rw [beq_eq_false_iff_ne]; omega
            have e7 : ¬ (i : Int) % 64 = 0 := by omega
            have hup : upto n (i + 1) = upto n i := by unfold upto; omega
            have N1 : Hid (wr.ownsRow w.heap.size 5 1 (.slice ao1 (upto n i) cap1) (upto n (i + 1)) (bl (S.take (upto n (i + 1)))) ∧ Only (fun _ => False) w wr) := by
              rw [hup]; exact ⟨hown, hon⟩
            clear hown hon hq hcc hf hup hr hlong
            go_wp2
            go_roundw
            case rel => exact ⟨i + 1, by omega, by go_num, HF.out, N1.out.1, N1.out.2⟩
            case measure => simp [intOf]; omega
      · obtain rfl : i = n := by omega
        have hup : upto i i = i := by unfold upto; omega
        have FF : Hid (fitsC ctr i) := by
          show fitsC ctr i
          unfold fitsC
          rcases hf with rfl | hf <;> omega
        rw [hup] at hown ⊢
        have hSl : (S.take i) = S := List.take_of_length_le (by rw [HX.out.1, STR_len, ← HX.out.2.1]; exact Nat.le_refl _)
        rw [hSl] at hown
        have F1 : Hid (wr.ownsRow w.heap.size 5 1 (.slice ao1 i cap1) S.length (bl S) ∧ Only (fun _ => False) w wr) := by
          refine ⟨?_, hon⟩
          rw [show S.length = i by rw [HX.out.1, STR_len, ← HX.out.2.1]]
          exact hown
        have EL : EE = 0 ∧ LL = S := ⟨by rw [HEL.out.1, if_pos FF.out], by rw [HEL.out.2, if_pos FF.out]⟩
        have EL2 := hideIt EL.2
        obtain ⟨rfl, _⟩ := EL
        clear hown hon hf hup hSl
        go_wp2
        go_ret2
        exact ⟨_, rfl, by rw [EL2.out]; exact F1.out.1, F1.out.2⟩
  · have SE1 : SRe key ctr nonce xs.length = 1 := if_neg h
    have SE2 : SRt key ctr nonce xs = [] := if_neg h
    rw [SE1, SE2]
    obtain ⟨kl, hkl⟩ : ∃ kl, kl = key.length := ⟨_, rfl⟩
    obtain ⟨nl, hnl⟩ : ∃ nl, nl = nonce.length := ⟨_, rfl⟩
    have hne : ¬ (kl = 32 ∧ nl = 12) := by rw [hkl, hnl]; exact h
    rw [← hkl, ← hnl]
    clear bk bn bb k8 n8 x8 SE1 SE2 hc h BKN BB hkl hnl hl
    by_cases h1 : kl = 32
    · have h2 : ((nl : Int) != 12) = true := by simp; omega
      have h3 : ((kl : Int) != 32) = false := by simp; omega
      subst h1
      clear hne
      go_enter Try.func20, Try.ntmps20
      go_wp2
      go_ret2
      exact ⟨_, rfl, World.ownsRow_nil .., Only.refl _ _⟩
    · have h3 : ((kl : Int) != 32) = true := by simp; omega
      clear hne
      go_enter Try.func20, Try.ntmps20
      go_wp2
      go_ret2
      exact ⟨_, rfl, World.ownsRow_nil .., Only.refl _ _⟩
theorem rstream_any (vk vn vb : Value) (key nonce xs : List Int) (ctr : Nat) (hc : ctr < 4294967296) (k8 : U8 key) (n8 : U8 nonce) (x8 : U8 xs) (hl : xs.length ≤ 1000000) (w : World) (bk : Bs .u8 w vk key) (bn : Bs .u8 w vn nonce) (bb : Bs .u8 w vb xs) :
    Calls Try.prog 20 #[vk, .int .u32 ctr, vn, vb] w fun e w' => ∃ v, e = .returned (.tuple #[v, .int .i64 (SRe key ctr nonce xs.length)]) ∧ Bs .u8 w' v (SRt key ctr nonce xs) ∧ NoCap v ∧ Only (fun _ => False) w w' := by
  refine (rstream_own vk vn vb key nonce xs ctr hc k8 n8 x8 hl w bk bn bb).mono ?_
  rintro e w' ⟨v, h1, h2, h3⟩
  exact ⟨v, h1, Bs.of_own (k := .u8) (E := 5) (lo := w.heap.size) h2, NoCap.of_own h2, h3⟩
end Go.Proofs.Ytjiippbjflpkkaa
