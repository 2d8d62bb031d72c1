/- Package manifest: readEntries. -/
import Derived.Test.YtiolgenaefillaaGreatJb
namespace Go.Proofs.YtiolgenaefillaaGreat
open Go.RowKit

theorem rdB_nil : rdB 1 [] = .error 2 := rfl
theorem rdB_cons (y : Int) (t : List Int) : rdB 1 (y :: t) = .ok ([y], t) := by simp [rdB]
theorem en_err {L : Nat} {ys : List Int} {c : Int} (h : sVarint ys = (0, 0, c)) (hc : c ≠ 0) : rdEn L ys = .error c := then_err (need_err (rdV_err h hc))
theorem en_place {L : Nat} {ys : List Int} {a k : Nat} (h : sVarint ys = ((a : Int), k, 0)) (ha : L ≤ a) : rdEn L ys = .error 3 := then_err (need_no (rdV_ok h) (decide_eq_false (by omega)))
theorem en_short {L : Nat} {ys : List Int} {a k : Nat} (h : sVarint ys = ((a : Int), k, 0)) (ha : a < L) (hd : ys.drop k = []) : rdEn L ys = .error 2 := by
  have h1 := rdV_ok h
  rw [hd] at h1
  exact then_no (need_ok h1 (decide_eq_true ha)) (need_err rdB_nil)
theorem en_bucket {L : Nat} {ys t : List Int} {a k : Nat} {y : Int} (h : sVarint ys = ((a : Int), k, 0)) (ha : a < L) (hd : ys.drop k = y :: t) (hy : 8 < y) : rdEn L ys = .error 3 := by
  have h1 := rdV_ok h
  rw [hd] at h1
  exact then_no (need_ok h1 (decide_eq_true ha)) (need_no (rdB_cons y t) (decide_eq_false (by simp; omega)))
theorem en_ok {L : Nat} {ys t : List Int} {a k : Nat} {y : Int} (h : sVarint ys = ((a : Int), k, 0)) (ha : a < L) (hd : ys.drop k = y :: t) (hy : y ≤ 8) : rdEn L ys = .ok ((a, [y]), t) := by
  have h1 := rdV_ok h
  rw [hd] at h1
  exact then_ok (need_ok h1 (decide_eq_true ha)) (need_ok (rdB_cons y t) (decide_eq_true (by simpa using hy)))
theorem sByte_nil : sByte [] = (0, 0, 2) := rfl
theorem sByte_cons (y : Int) (t : List Int) : sByte (y :: t) = (y, 1, 0) := rfl
/-- the entry that was read -/
def EOF (T : List (List Int)) (t : Nat × List Int) : List Int × Int := (T.getD t.1 [], t.2.getD 0 0)
set_option maxRecDepth 100000 in
theorem Tryz.infoEn : (Tryz.prog.info? 41).map (fun i => (i.zero, i.size, i.bytes)) = some (some (.agg #[.string ⟨#[]⟩, .int .i64 0]), 2, 24) := by kernel_rfl
theorem cell_two_new (w : World) (x y : Value) (t : TypeId) : ∀ j u, [x, y][j]? = some u → (w.alloc (.cells #[x, y] t)).cell? ((⟨w.heap.size, 0, none⟩ : Addr).add j) = some u := by
  intro j u h
  have hb := heap_alloc_new w (.cells #[x, y] t)
  rw [Go.WideShapes.add_plain, Nat.zero_add, ← h]
  unfold World.cell?
  simp only
  rw [hb]
  match j with
  | 0 => rfl
  | 1 => rfl
  | j + 2 => simp
theorem en_one (s : ByteArray) (y : Int) : ∀ u ∈ [Value.string s, .int .i64 y], u.oneCell' = true := by
  intro u hu
  simp only [List.mem_cons, List.not_mem_nil, or_false] at hu
  rcases hu with rfl | rfl <;> rfl
/-- the entries under way -/
structure ERd (w wr : World) (R : Nat) (v u : Value) (D : Except Int (List (Nat × List Int) × List Int)) (T : List (List Int)) (n k : Nat) (ts : List (Nat × List Int)) (ys : List Int) (v2 : Value) : Prop where
  len : ts.length = k
  all : ∀ t ∈ ts, t.1 < T.length
  eq : D = pre ts (rdEns T.length (n - k) ys)
  cur : CurAt 94 wr R v2 ys
  ob : v2.ownBlock = v.ownBlock
  row : wr.ownsRow w.heap.size 41 2 u k (ecells (ts.map (EOF T)))
  on : Only (fun j => j = R) w wr
theorem ERd.err {w wr : World} {R : Nat} {v u : Value} {D : Except Int (List (Nat × List Int) × List Int)} {T : List (List Int)} {n k : Nat} {ts : List (Nat × List Int)} {ys : List Int} {v2 : Value} (h : ERd w wr R v u D T n k ts ys v2) (hk : k < n) {c : Int} (hc : rdEn T.length ys = .error c) : D = .error c := by
  rw [h.eq, show n - k = (n - k - 1) + 1 by omega, rdEns, rep_err (r := fun _ : Unit => rdEn T.length) (s := ()) hc]
  rfl
theorem ERd.go {w wr : World} {R : Nat} {v u : Value} {D : Except Int (List (Nat × List Int) × List Int)} {T : List (List Int)} {n k : Nat} {ts : List (Nat × List Int)} {ys : List Int} {v2 : Value} (h : ERd w wr R v u D T n k ts ys v2) (hk : k < n) {x : Nat × List Int} {t : List Int} (hc : rdEn T.length ys = .ok (x, t)) : D = pre (ts ++ [x]) (rdEns T.length (n - (k + 1)) t) := by
  rw [h.eq, show n - k = (n - (k + 1)) + 1 by omega, rdEns, rep_ok (r := fun _ : Unit => rdEn T.length) (s := ()) hc, pre_pre]
  rfl
set_option maxHeartbeats 2000000 in
set_option maxRecDepth 100000 in
theorem readEntries_any {w : World} {R : Nat} {v vt : Value} {ys : List Int} {T : List (List Int)} (h : CurAt 94 w R v ys) (hR : R < w.heap.size) (hvb : ∀ j, v.ownBlock = some j → j < w.heap.size) (hst : Sts w vt T) (hvt : ∀ j, vt.ownBlock = some j → j ≠ R) (hTl : T.length ≤ 1048576) :
    Calls Tryz.prog 62 #[.pointer (some ⟨R, 0, none⟩), vt] w (RDE w R v (rdAll T.length ys) fun d e w' => ∃ u, e = .returned u ∧ w'.ownsRow w.heap.size 41 2 u d.2.length (ecells (d.2.map (EOF T))) ∧ d.2.length ≤ 1048576 ∧ ∀ t ∈ d.2, t.1 < T.length) := by
  obtain ⟨i0, hi, hz0, hz1, hz2⟩ := info_parts Tryz.infoEn
  have A := hideIt (readCount_any h)
  have HV := hideIt hvb
  have HVT := hideIt hvt
  have HST := hideIt hst
  obtain ⟨at1, ct1, et1⟩ := hst.len
  subst et1
  obtain ⟨K, hK⟩ : ∃ K, K = RDE w R v (rdAll T.length ys) fun d e w' => ∃ u, e = .returned u ∧ w'.ownsRow w.heap.size 41 2 u d.2.length (ecells (d.2.map (EOF T))) ∧ d.2.length ≤ 1048576 ∧ ∀ t ∈ d.2, t.1 < T.length := ⟨_, rfl⟩
  rw [← hK]
  have HK := hideIt hK
  obtain ⟨L, hL⟩ : ∃ L, L = T.length := ⟨_, rfl⟩
  have HL := hideIt hL
  rw [← hL] at HST HVT hTl
  rw [← hL]
  have hwL : IntKind.u64.wrap (L : Int) = L := by rw [IntKind.wrap_u64]; omega
  clear h hvb hK hst hvt hL
  go_enter Tryz.func62, Tryz.ntmps62
  go_wp2_with fail
  refine A.out.mono ?_
  rintro e w0 ⟨o0, ⟨c, hc0, hr, rfl⟩ | ⟨n, ys0, hr, ⟨rfl, hn⟩, v0, c0, ob0⟩⟩
  · have HF := hideIt (And.intro o0 (then_err (r2 := fun n => rdEns T.length n) hr))
    clear o0 A hr
    unfold pan
    go_wp2
    refine ⟨rfl, ?_⟩
    rw [HK.out]
    exact ⟨HF.out.1, .inl ⟨c, hc0, HF.out.2, rfl⟩⟩
  · have HMany := hideIt hr
    obtain ⟨D, hD⟩ : ∃ D, D = rdEns T.length n ys0 := ⟨_, rfl⟩
    have HD := hideIt hD
    have F0 : Hid (ERd w w0 R v (.slice none 0 0) D T n 0 [] ys0 v0) := ⟨rfl, by simp, by rw [pre_nil, hD]; rfl, c0, ob0, World.ownsRow_nil _ _ _ _, o0⟩
    clear o0 A hr c0 ob0 hD
    go_wp2
    go_loopw [5, 10] (fun u i wr => ∃ k : Nat, k ≤ n ∧ i = .int .i64 k ∧ ∃ ts zs v2, ERd w wr R v u D T n k ts zs v2) (fun _ i _ => n - (intOf i).toNat)
    case atStart => exact ⟨0, Nat.zero_le _, rfl, _, _, _, F0.out⟩
    case round =>
      clear F0
      obtain ⟨k, hk, rfl, ts, zs, v2, ht⟩ := hrel
      have HT := hideIt ht
      by_cases hlt : k < n
      · have i1 : (k : Int) < (n : Int) := by omega
        have B := hideIt (varint_cur ht.cur)
        have hrng := ht.cur.rng
        have bad : Hid (∀ c w', c ≠ 0 → rdEn T.length zs = .error c → Only (fun j => j = R) wr w' → K (.panicked [{ v := .iface 29 (.int .i64 c), recovered := false }]) w') := by
          intro c w' hc he ho
          rw [HK.out]
          exact ⟨HT.out.on.trans ho (fun i _ e => e), .inl ⟨c, hc, then_no HMany.out (HD.out.symm.trans (HT.out.err hlt he)), rfl⟩⟩
        clear ht
        rcases sVarint_cases hrng with ⟨c, hs, hc⟩ | ⟨a, q, hs, _, _, ha64, _⟩
        · have hc0 : c ≠ 0 := by omega
          have HE := hideIt (en_err (L := T.length) hs hc0)
          rw [hs] at B
          clear hs hc hrng
          go_wp2_with fail
          refine B.out.mono ?_
          rintro e w1 ⟨rfl, v3, _, _, o1⟩
          have FN := hideIt (bad.out c w1 hc0 HE.out o1)
          clear B o1
          go_wp2_with fail
          refine (mustu_no _ c w1 hc0).mono ?_
          rintro e w' ⟨rfl, rfl⟩
          unfold pan
          go_wp2
          exact ⟨rfl, FN.out⟩
        · have HS := hideIt hs
          rw [hs] at B
          clear hs
          by_cases haL : a < L
          · have d1 : decide ((a : Int) < (L : Int)) = true := by simp; omega
            have d2 : decide (a < L) = true := by simp; omega
            have q0 : (0 : Int) ≤ (a : Int) := by omega
            have q1 : (a : Int) < (L : Int) := by omega
            go_wp2_with fail
            refine B.out.mono ?_
            rintro e w1 ⟨rfl, v3, c3, ob3, o1⟩
            have O1 := hideIt o1
            have BY := hideIt (byte_cur c3)
            have OB3 := hideIt ob3
            clear B o1 c3 ob3
            go_wp2_with fail
            refine (mustu_ok _ w1).mono ?_
            rintro e w' ⟨rfl, rfl⟩
            go_wp2_with fail
            refine (mustHold_ok 3 w1).mono ?_
            rintro e w' ⟨rfl, rfl⟩
            have hdr : ∀ y ∈ zs.drop q, 0 ≤ y ∧ y ≤ 255 := fun y hy => hrng y (List.mem_of_mem_drop hy)
            rcases hdd : zs.drop q with _ | ⟨y, t⟩
            · rw [hdd, sByte_nil] at BY
              have HE := hideIt (en_short (L := T.length) HS.out (by rw [← HL.out]; exact haL) hdd)
              clear hdd hdr hrng
              go_wp2_with fail
              refine BY.out.mono ?_
              rintro e w2 ⟨rfl, v4, _, _, o2⟩
              have FN := hideIt (bad.out 2 w2 (by decide) HE.out (O1.out.trans o2 (fun i _ e => e)))
              clear BY o2
              go_wp2_with fail
              refine (musty_no _ 2 w2 (by decide)).mono ?_
              rintro e w' ⟨rfl, rfl⟩
              unfold pan
              go_wp2
              exact ⟨rfl, FN.out⟩
            · have hy := hdr y (by rw [hdd]; exact List.mem_cons_self)
              rw [hdd, sByte_cons] at BY
              have HDD := hideIt hdd
              have hwy : IntKind.i64.wrap y = y := by rw [IntKind.wrap_i64]; omega
              clear hdd hdr hrng
              go_wp2_with fail
              refine BY.out.mono ?_
              rintro e w2 ⟨rfl, v4, c4, ob4, o2⟩
              have O2 := hideIt (O1.out.trans o2 (fun i _ e => e))
              have CC := hideIt (And.intro c4 (ob4.trans (OB3.out.trans HT.out.ob)))
              clear BY o2 c4 ob4
              go_wp2_with fail
              refine (musty_ok _ w2).mono ?_
              rintro e w' ⟨rfl, rfl⟩
              go_wp2_with fail
              refine (isBucket_any y w2).mono ?_
              rintro e w3 ⟨rfl, o3⟩
              have O3 := hideIt (O2.out.trans o3 (fun i _ f => f.elim))
              have C3 := hideIt (And.intro (CC.out.1.keep o3 (fun f => f) (fun _ _ f => f)) CC.out.2)
              clear o3 CC O2
              by_cases hy8 : y ≤ 8
              · have eb : okB y = true := decide_eq_true ⟨by omega, hy8⟩
                rw [eb]
                have own3 := O3.out.own HT.out.row (fun j hj e => by have := (HT.out.row.lt j hj).1; omega)
                obtain ⟨b, off, cap, eu, hcl⟩ := ((HST.out.keep HT.out.on (fun j hj e => HVT.out j hj e)).keep O3.out (fun j hj e => HVT.out j hj e)).at a (by rw [← HL.out]; exact haL)
                rw [← HL.out] at eu
                simp only [Value.slice.injEq] at eu
                obtain ⟨rfl, _, rfl⟩ := eu
                have OW := hideIt (HT.out.on.trans O3.out (fun i _ e => e))
                have hsz3 := OW.out.size
                have NX : Hid (∀ u' w', w'.ownsRow w.heap.size 41 2 u' (k + 1) (ecells (ts.map (EOF T)) ++ [.string (strOfNums (T.getD a [])), .int .i64 y]) → (w3.alloc (.cells #[.string (strOfNums (T.getD a [])), .int .i64 y] 41)).grownBy w' u5.ownBlock → ERd w w' R v u' D T n (k + 1) (ts ++ [(a, [y])]) t v4) := by
                  intro u' w' hrow hg
                  have og : Only (fun j => u5.ownBlock = some j) w3 w' := ((Only.refl _ w3).alloc _).grown hg (fun j _ e => e)
                  refine ⟨by simp [HT.out.len], fun z hz => ?_, HT.out.go hlt (en_ok HS.out (by rw [← HL.out]; exact haL) HDD.out hy8), ?_, C3.out.2, by rw [List.map_append, List.map_cons, List.map_nil, ecells_snoc]; exact hrow, OW.out.trans og (fun i hi e => by have := (own3.lt i e).1; omega)⟩
                  · rcases List.mem_append.1 hz with h1 | h1
                    · exact HT.out.all z h1
                    · rw [List.mem_singleton] at h1; subst h1; simp only; rw [← HL.out]; exact haL
                  · have c5 := C3.out.1
                    rw [List.drop_succ_cons, List.drop_zero] at c5
                    refine c5.keep og (fun e => by have := (own3.lt R e).1; omega) (fun j hj e => ?_)
                    rw [C3.out.2] at hj
                    have := HV.out j hj
                    have := (own3.lt j e).1
                    omega
                generalize T.getD a [] = x at *
                clear bad C3 HT HVT
                go_wp2_with (first
                  | (go_at_call 58; refine (mustHold_ok 3 w3).mono ?_; rintro e w' ⟨rfl, rfl⟩)
                  | (at_builtin; refine wpList_append_own _ rfl _ _ 24 rfl w.heap.size 41 i0 (.agg #[.string ⟨#[]⟩, .int .i64 0]) 2 24 Tryz.underlying24 hi hz0 hz1 hz2 rfl (by decide) _ k _ rfl (own3.alloc _) ⟨w3.heap.size, 0, none⟩ 1 1 [.string (strOfNums x), .int .i64 y] rfl rfl (cell_two_new _ _ _ _) (en_one _ _) (by unfold maxLen; omega) (by omega) (by simp; omega) ?_; intro v' w4 hown' hgrow' _)
                  | fail)
                go_roundw
                case rel => exact ⟨k + 1, by omega, by go_num, _, _, _, NX.out _ _ hown' hgrow'⟩
                case measure => simp [intOf]; omega
              · have eb : okB y = false := decide_eq_false (by omega)
                rw [eb]
                have FN := hideIt (bad.out 3 w3 (by decide) (en_bucket HS.out (by rw [← HL.out]; exact haL) HDD.out (by omega)) O3.out)
                clear bad C3 HT
                go_wp2_with fail
                refine (mustHold_no 3 w3).mono ?_
                rintro e w' ⟨rfl, rfl⟩
                unfold pan
                go_wp2
                exact ⟨rfl, FN.out⟩
          · have d1 : decide ((a : Int) < (L : Int)) = false := by simp; omega
            have d2 : decide (a < L) = false := by simp; omega
            have HE := hideIt (en_place HS.out (by rw [← HL.out]; omega : T.length ≤ a))
            go_wp2_with fail
            refine B.out.mono ?_
            rintro e w1 ⟨rfl, v3, _, _, o1⟩
            have FN := hideIt (bad.out 3 w1 (by decide) HE.out o1)
            clear B o1
            go_wp2_with fail
            refine (mustu_ok _ w1).mono ?_
            rintro e w' ⟨rfl, rfl⟩
            go_wp2_with fail
            refine (mustHold_no 3 w1).mono ?_
            rintro e w' ⟨rfl, rfl⟩
            unfold pan
            go_wp2
            exact ⟨rfl, FN.out⟩
      · obtain rfl : k = n := by omega
        have hKK := HK.out
        clear ht HK
        subst hKK
        go_wp2
        go_ret
        have e1 : D = .ok (ts, zs) := by
          rw [HT.out.eq, Nat.sub_self]
          simp [rdEns, rdRep, pre]
        refine ⟨HT.out.on, .inr ⟨(k, ts), zs, then_ok HMany.out (HD.out.symm.trans e1), ⟨_, rfl, ?_, ?_, HT.out.all⟩, v2, HT.out.cur, HT.out.ob⟩⟩
        · have := HT.out.row
          rw [← HT.out.len] at this
          exact this
        · have := HT.out.len
          simp only; omega
end Go.Proofs.YtiolgenaefillaaGreat
