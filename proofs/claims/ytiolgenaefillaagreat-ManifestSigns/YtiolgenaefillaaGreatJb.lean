/- Package manifest: readTenants. -/
import Derived.Test.YtiolgenaefillaaGreatJa
import Derived.Test.YtiolgenaefillaaGreatG9
import Derived.Test.YtiolgenaefillaaGreatG8
import Derived.Test.YtiolgenaefillaaGreatMb
import Derived.Maps.AppendAt
namespace Go.Proofs.YtiolgenaefillaaGreat
open Go.RowKit

/-- what was read ahead of it -/
def pre {α : Type} (p : List α) (r : Except Int (List α × List Int)) : Except Int (List α × List Int) := match r with
  | .error e => .error e
  | .ok (l, t) => .ok (p ++ l, t)
theorem pre_nil {α : Type} (r : Except Int (List α × List Int)) : pre [] r = r := by cases r <;> rfl
theorem pre_pre {α : Type} (p q : List α) (r : Except Int (List α × List Int)) : pre p (pre q r) = pre (p ++ q) r := by
  cases r with
  | error e => rfl
  | ok x => simp [pre]
theorem rep_err {σ α : Type} {r : σ → RDG α} {nx : σ → α → σ} {n : Nat} {s : σ} {ys : List Int} {e : Int} (h : r s ys = .error e) : rdRep r nx (n + 1) s ys = .error e := by
  simp only [rdRep, h]
theorem rep_ok {σ α : Type} {r : σ → RDG α} {nx : σ → α → σ} {n : Nat} {s : σ} {ys t : List Int} {x : α} (h : r s ys = .ok (x, t)) : rdRep r nx (n + 1) s ys = pre [x] (rdRep r nx n (nx s x) t) := by
  simp only [rdRep, h]
  cases rdRep r nx n (nx s x) t with
  | error e => rfl
  | ok y => rfl
theorem rdK_err {n : Nat} {ys : List Int} {c : Int} (h : sBlock n ys = ([], 0, c)) (hc : c ≠ 0) : rdK n ys = .error c := by unfold rdK; rw [h, if_neg hc]
theorem rdK_ok {n : Nat} {ys b : List Int} {k : Nat} (h : sBlock n ys = (b, k, 0)) : rdK n ys = .ok (b, ys.drop k) := by unfold rdK; rw [h, if_pos rfl]
theorem behind_none (x : List Int) : behind [] x = true := rfl
theorem behind_at {T : List (List Int)} {x : List Int} (h : 0 < T.length) : behind T x = lexB (T.getD (T.length - 1) []) x := by
  unfold behind
  rw [List.getLast?_eq_getElem?, List.getElem?_eq_getElem (by omega), List.getD_eq_getElem?_getD, List.getElem?_eq_getElem (by omega)]
  rfl
theorem less_nums {x y : List Int} (hx : U8 x) (hy : U8 y) : Op.bytesLess (strOfNums x).toList (strOfNums y).toList = lexB x y := by rw [less_sb, sb_of hx, sb_of hy]
theorem str_one (s : ByteArray) : ∀ u ∈ [Value.string s], u.oneCell' = true := by intro u hu; rw [List.mem_singleton] at hu; subst hu; rfl
set_option maxRecDepth 100000 in
theorem Tryz.infoStr : (Tryz.prog.info? 9).map (fun i => (i.zero, i.size, i.bytes)) = some (some (.string ⟨#[]⟩), 1, 16) := by kernel_rfl
/-- the tenants under way -/
structure TRd (w wr : World) (R : Nat) (v u : Value) (D : Except Int (List (List Int) × List Int)) (n k : Nat) (T : List (List Int)) (ys : List Int) (v2 : Value) : Prop where
  len : T.length = k
  all : ∀ x ∈ T, U8 x ∧ x.length ≤ 64
  eq : D = pre T (rdTns (n - k) T ys)
  cur : CurAt 94 wr R v2 ys
  ob : v2.ownBlock = v.ownBlock
  row : wr.ownsRow w.heap.size 9 1 u k (tcells T)
  on : Only (fun j => j = R) w wr
theorem TRd.err {w wr : World} {R : Nat} {v u : Value} {D : Except Int (List (List Int) × List Int)} {n k : Nat} {T : List (List Int)} {ys : List Int} {v2 : Value} (h : TRd w wr R v u D n k T ys v2) (hk : k < n) {c : Int} (hc : rdTn T ys = .error c) : D = .error c := by
  rw [h.eq, show n - k = (n - k - 1) + 1 by omega, rdTns, rep_err hc]
  rfl
theorem TRd.go {w wr : World} {R : Nat} {v u : Value} {D : Except Int (List (List Int) × List Int)} {n k : Nat} {T : List (List Int)} {ys : List Int} {v2 : Value} (h : TRd w wr R v u D n k T ys v2) (hk : k < n) {x t : List Int} (hc : rdTn T ys = .ok (x, t)) : D = pre (T ++ [x]) (rdTns (n - (k + 1)) (T ++ [x]) t) := by
  rw [h.eq, show n - k = (n - (k + 1)) + 1 by omega, rdTns, rep_ok hc, pre_pre]
  rfl
set_option maxHeartbeats 2000000 in
set_option maxRecDepth 100000 in
theorem readTenants_any {w : World} {R : Nat} {v : Value} {ys : List Int} (h : CurAt 94 w R v ys) (hR : R < w.heap.size) (hvb : ∀ j, v.ownBlock = some j → j < w.heap.size) :
    Calls Tryz.prog 61 #[.pointer (some ⟨R, 0, none⟩)] w (RDE w R v (rdDir ys) fun d e w' => ∃ u, e = .returned u ∧ w'.ownsRow w.heap.size 9 1 u d.2.length (tcells d.2) ∧ d.2.length ≤ 1048576 ∧ ∀ x ∈ d.2, U8 x ∧ x.length ≤ 64) := by
  obtain ⟨i0, hi, hz0, hz1, hz2⟩ := info_parts Tryz.infoStr
  have A := hideIt (readCount_any h)
  have HV := hideIt hvb
  obtain ⟨K, hK⟩ : ∃ K, K = RDE w R v (rdDir ys) fun d e w' => ∃ u, e = .returned u ∧ w'.ownsRow w.heap.size 9 1 u d.2.length (tcells d.2) ∧ d.2.length ≤ 1048576 ∧ ∀ x ∈ d.2, U8 x ∧ x.length ≤ 64 := ⟨_, rfl⟩
  rw [← hK]
  have HK := hideIt hK
  clear h hvb hK
  go_enter Tryz.func61, Tryz.ntmps61
  go_wp2_with fail
  refine A.out.mono ?_
  rintro e w0 ⟨o0, ⟨c, hc0, hr, rfl⟩ | ⟨n, ys0, hr, ⟨rfl, hn⟩, v0, c0, ob0⟩⟩
  · have HF := hideIt (And.intro o0 (then_err (r2 := fun n => rdTns n []) hr))
    clear o0 A hr
    unfold pan
    go_wp2
    refine ⟨rfl, ?_⟩
    rw [HK.out]
    exact ⟨HF.out.1, .inl ⟨c, hc0, HF.out.2, rfl⟩⟩
  · have HMany := hideIt hr
    obtain ⟨D, hD⟩ : ∃ D, D = rdTns n [] ys0 := ⟨_, rfl⟩
    have HD := hideIt hD
    have F0 : Hid (TRd w w0 R v (.slice none 0 0) D n 0 [] ys0 v0) := ⟨rfl, by simp, by rw [pre_nil, hD]; rfl, c0, ob0, World.ownsRow_nil _ _ _ _, o0⟩
    clear o0 A hr c0 ob0 hD
    go_wp2
    go_loopw [3, 8] (fun u i wr => ∃ k : Nat, k ≤ n ∧ i = .int .i64 k ∧ ∃ T zs v2, TRd w wr R v u D n k T zs v2) (fun _ i _ => n - (intOf i).toNat)
    case atStart => exact ⟨0, Nat.zero_le _, rfl, _, _, _, F0.out⟩
    case round =>
      clear F0
      obtain ⟨k, hk, rfl, T, zs, v2, ht⟩ := hrel
      have HT := hideIt ht
      by_cases hlt : k < n
      · have i1 : (k : Int) < (n : Int) := by omega
        have B := hideIt (block_cur ht.cur 64 (by decide))
        have hrng := ht.cur.rng
        clear ht
        rcases sBlk_cases (n := 64) hrng (by decide) (by decide) with ⟨c, hs, hc⟩ | ⟨x, q, hs, hxl, _, _, hsplit, _⟩
        · have hc0 : c ≠ 0 := by omega
          have HE := hideIt (HT.out.err hlt (need_err (rdK_err (n := 64) hs hc0)))
          rw [hs] at B
          clear hs hc hrng
          go_wp2_with fail
          refine B.out.mono ?_
          rintro e w1 ⟨v1, rfl, _, _, _, v3, _, _, o1⟩
          have O1 := hideIt (HT.out.on.trans o1 (fun i _ e => e))
          clear B o1
          go_wp2_with fail
          refine (musts_no v1 c w1 hc0).mono ?_
          rintro e w' ⟨rfl, rfl⟩
          unfold pan
          go_wp2
          refine ⟨rfl, ?_⟩
          rw [HK.out]
          exact ⟨O1.out, .inl ⟨c, hc0, then_no HMany.out (HD.out.symm.trans HE.out), rfl⟩⟩
        · rw [hs] at B
          have hx8 : U8 x := fun y hy => hrng y (by rw [hsplit]; unfold blk; simp [hy])
          have HX8 := hideIt hx8
          have HKx := hideIt (rdK_ok (n := 64) hs)
          clear hs hrng hsplit
          go_wp2_with fail
          refine B.out.mono ?_
          rintro e w1 ⟨v1, rfl, b1, _, _, v3, c3, ob3, o1⟩
          have hcv := string_of w1 v1 x b1
          have O1 := hideIt (HT.out.on.trans o1 (fun i _ e => e))
          have own1 := o1.own HT.out.row (fun j hj e => by have := (HT.out.row.lt j hj).1; omega)
          have CC := hideIt (And.intro c3 (ob3.trans HT.out.ob))
          have hsz1 := O1.out.size
          clear B o1 b1 c3 ob3
          go_wp2_with fail
          refine (musts_ok v1 w1).mono ?_
          rintro e w' ⟨rfl, rfl⟩
          have hTl := HT.out.len
          obtain ⟨P, hP⟩ : ∃ P, P = behind T x := ⟨_, rfl⟩
          have fin : P = false → Hid (K (.panicked [{ v := .iface 29 (.int .i64 3), recovered := false }]) w1) := fun hf => by
            simp only [Hid]
            rw [HK.out]
            exact ⟨O1.out, .inl ⟨3, by decide, then_no HMany.out (HD.out.symm.trans (HT.out.err hlt (need_no HKx.out (by rw [← hP]; exact hf)))), rfl⟩⟩
          have nxt : P = true → Hid (∀ u' w', w'.ownsRow w.heap.size 9 1 u' (k + 1) (tcells T ++ [.string (strOfNums x)]) → (w1.alloc (.cells #[.string (strOfNums x)] 9)).grownBy w' u3.ownBlock → TRd w w' R v u' D n (k + 1) (T ++ [x]) (zs.drop q) v3) := fun hf => by
            intro u' w' hrow hg
            have og : Only (fun j => u3.ownBlock = some j) w1 w' := ((Only.refl _ w1).alloc _).grown hg (fun j _ e => e)
            refine ⟨by simp [hTl], fun y hy => ?_, HT.out.go hlt (need_ok HKx.out (by rw [← hP]; exact hf)), CC.out.1.keep og (fun e => by have := (own1.lt R e).1; omega) (fun j hj e => ?_), CC.out.2, by rw [tcells, List.map_append]; exact hrow, O1.out.trans og (fun i hi e => by have := (own1.lt i e).1; omega)⟩
            · rcases List.mem_append.1 hy with h1 | h1
              · exact HT.out.all y h1
              · rw [List.mem_singleton] at h1; subst h1; exact ⟨HX8.out, by omega⟩
            · rw [CC.out.2] at hj
              have := HV.out j hj
              have := (own1.lt j e).1
              omega
          by_cases hk0 : k = 0
          · subst hk0
            have hT0 : T = [] := List.eq_nil_of_length_eq_zero hTl
            have NX := nxt (by rw [hP, hT0]; rfl)
            clear fin nxt hP hT0 CC HT
            go_wp2_with (first
              | (go_at_call 58; refine (mustHold_ok 3 w1).mono ?_; rintro e w' ⟨rfl, rfl⟩)
              | (at_builtin; refine wpList_append_own _ rfl _ _ 44 rfl w.heap.size 9 i0 (.string ⟨#[]⟩) 1 16 Tryz.underlying44 hi hz0 hz1 hz2 rfl (by decide) _ 0 _ rfl (own1.alloc _) ⟨w1.heap.size, 0, none⟩ 1 1 [.string (strOfNums x)] rfl rfl (cell_one_new _ _ _) (str_one _) (by unfold maxLen; omega) (by omega) (by simp; omega) ?_; intro v' w2 hown' hgrow2 _)
              | fail)
            go_roundw
            case rel => exact ⟨1, by omega, by go_num, _, _, _, NX.out _ _ hown' hgrow2⟩
            case measure => simp [intOf]; omega
          · have d0 : ((k : Int) == 0) = false := by rw [beq_eq_false_iff_ne]; omega
            have hTk : T.length = k := hTl
            obtain ⟨b, off, cap, eu, hcl⟩ := (Sts.of_own (w := w1) (v := u3) (T := T) (by rw [hTk]; exact own1)).at (k - 1) (by omega)
            rw [hTk] at eu
            have hle : Op.bytesLess (strOfNums (T.getD (k - 1) [])).toList (strOfNums x).toList = P := by
              rw [less_nums (HT.out.all _ (eget_mem (by omega))).1 HX8.out, hP, behind_at (by omega), hTk]
            generalize T.getD (k - 1) [] = y at *
            subst eu
            have hw1 : IntKind.i64.wrap ((k : Int) - 1) = ((k - 1 : Nat) : Int) := by rw [IntKind.wrap_i64]; omega
            have q0 : (0 : Int) ≤ ((k - 1 : Nat) : Int) := by omega
            have q1 : ((k - 1 : Nat) : Int) < (k : Int) := by omega
            cases hPP : P with
            | false =>
              have FN := fin hPP
              rw [hPP] at hle
              clear fin nxt CC HT
              go_wp2_with (first
                | (go_at_call 58; refine (mustHold_no 3 w1).mono ?_; rintro e w' ⟨rfl, rfl⟩; unfold pan)
                | fail)
              exact ⟨rfl, FN.out⟩
            | true =>
              have NX := nxt hPP
              rw [hPP] at hle
              clear fin nxt CC HT
              go_wp2_with (first
                | (go_at_call 58; refine (mustHold_ok 3 w1).mono ?_; rintro e w' ⟨rfl, rfl⟩)
                | (at_builtin; refine wpList_append_own _ rfl _ _ 44 rfl w.heap.size 9 i0 (.string ⟨#[]⟩) 1 16 Tryz.underlying44 hi hz0 hz1 hz2 rfl (by decide) _ k _ rfl (own1.alloc _) ⟨w1.heap.size, 0, none⟩ 1 1 [.string (strOfNums x)] rfl rfl (cell_one_new _ _ _) (str_one _) (by unfold maxLen; omega) (by omega) (by simp; omega) ?_; intro v' w2 hown' hgrow2 _)
                | fail)
              go_roundw
              case rel => exact ⟨k + 1, by omega, by go_num, _, _, _, NX.out _ _ hown' hgrow2⟩
              case measure => simp [intOf]; omega
      · obtain rfl : k = n := by omega
        have hKK := HK.out
        clear ht HK
        subst hKK
        go_wp2
        go_ret
        have e1 : D = .ok (T, zs) := by
          rw [HT.out.eq, Nat.sub_self]
          simp [rdTns, rdRep, pre]
        refine ⟨HT.out.on, .inr ⟨(k, T), zs, then_ok HMany.out (HD.out.symm.trans e1), ⟨_, rfl, ?_, ?_, HT.out.all⟩, v2, HT.out.cur, HT.out.ob⟩⟩
        · have := HT.out.row
          rw [← HT.out.len] at this
          exact this
        · have := HT.out.len
          simp only; omega
end Go.Proofs.YtiolgenaefillaaGreat
