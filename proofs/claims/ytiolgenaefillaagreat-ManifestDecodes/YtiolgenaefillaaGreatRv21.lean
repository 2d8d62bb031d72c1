/- The document's manifest: its directory is read. -/
import Derived.Test.YtiolgenaefillaaGreatRu21
import Derived.Test.YtiolgenaefillaaGreatJb
import Derived.Test.YtiolgenaefillaaGreatRy21
import Derived.Deep.RegionHeld3
import Derived.Deep.RegionWith
namespace Go.Proofs.YtiolgenaefillaaGreat
open Go.RowKit

theorem u8_drop {s : List Int} (h : U8 s) (k : Nat) : U8 (s.drop k) := fun y hy => h y (List.mem_of_mem_drop hy)
/-- so far: what was had, and what is left -/
def DLr (D : Except Int (List (List Int) × List Int)) (n L : Nat) (T : List (List Int)) (s : List Int × Int) : Prop :=
  (s.2 = 0 ∧ T.length ≤ n ∧ n ≤ 1048576 ∧ T.length + s.1.length ≤ L ∧ D = pre T (rdTns (n - T.length) T s.1)) ∨ (s.2 ≠ 0 ∧ T.length ≤ L + 1 ∧ D = .error s.2)
/-- what the directory is, and what is left -/
def DIRQ (s : List Int × Int) (T : List (List Int)) (s' : List Int × Int) : Prop :=
  (s.2 ≠ 0 → s' = s) ∧ (s.2 = 0 → (s'.2 = 0 ∧ ∃ n, rdDir s.1 = .ok ((n, T), s'.1)) ∨ (s'.2 ≠ 0 ∧ rdDir s.1 = .error s'.2))
theorem rN_err {ok : Bool} {c : Int} {s : List Int × Int} (h : s.2 ≠ 0) : rN ok c s = s := by unfold rN; rw [if_neg (fun z => h z.1)]
theorem rN_ok {c : Int} {s : List Int × Int} : rN true c s = s := by unfold rN; rw [if_neg (fun z => by cases z.2)]
theorem rN_no {c : Int} {s : List Int × Int} (h : s.2 = 0) : rN false c s = (s.1, c) := by unfold rN; rw [if_pos ⟨h, rfl⟩]
theorem rV_nat {s : List Int × Int} (h8 : U8 s.1) : ∃ n : Nat, (rV s).1 = (n : Int) ∧ n < 18446744073709551616 := by
  unfold rV
  split
  · rcases sVarint_cases h8 with ⟨c, h, _⟩ | ⟨a, k, h, _, _, ha, _⟩
    · exact ⟨0, by rw [h]; rfl, by decide⟩
    · exact ⟨a, by rw [h], ha⟩
  · exact ⟨0, rfl, by decide⟩
theorem dir_start (s : List Int × Int) (h8 : U8 s.1) (n : Nat) (hn : (rV s).1 = (n : Int)) :
    ∃ D, DLr D n s.1.length [] (rN (decide ((n : Int) ≤ 1048576)) 4 (rV s).2) ∧ U8 (rN (decide ((n : Int) ≤ 1048576)) 4 (rV s).2).1 ∧ (rN (decide ((n : Int) ≤ 1048576)) 4 (rV s).2).1.length ≤ s.1.length ∧
      ∀ T s', (s'.2 = 0 ∧ D = .ok (T, s'.1)) ∨ (s'.2 ≠ 0 ∧ D = .error s'.2) → ((rN (decide ((n : Int) ≤ 1048576)) 4 (rV s).2).2 ≠ 0 → s' = rN (decide ((n : Int) ≤ 1048576)) 4 (rV s).2) → DIRQ s T s' := by
  by_cases he : s.2 = 0
  · have eR : rV s = ((sVarint s.1).1, (s.1.drop (sVarint s.1).2.1, (sVarint s.1).2.2)) := if_pos he
    rcases sVarint_cases h8 with ⟨c, h, hc⟩ | ⟨a, k, h, h1, h2, ha, _⟩
    · have hc0 : c ≠ 0 := by omega
      rw [eR, h] at hn ⊢
      have hq := rN_err (ok := decide ((n : Int) ≤ 1048576)) (c := 4) (s := (s.1.drop 0, c)) hc0
      simp only at hq ⊢
      rw [hq]
      refine ⟨.error c, .inr ⟨hc0, Nat.zero_le _, rfl⟩, u8_drop h8 _, by simp, fun T s' hs hk => ⟨fun z => absurd he z, fun _ => .inr ?_⟩⟩
      rw [hk hc0]
      exact ⟨hc0, then_err (need_err (rdV_err h hc0))⟩
    · rw [eR, h] at hn ⊢
      simp only at hn ⊢
      obtain rfl : a = n := by omega
      by_cases hm : a ≤ 1048576
      · have hd : decide ((a : Int) ≤ 1048576) = true := by rw [decide_eq_true_eq]; omega
        rw [hd, rN_ok]
        have hmy : rdMany s.1 = .ok (a, s.1.drop k) := need_ok (rdV_ok h) (decide_eq_true hm)
        refine ⟨rdTns a [] (s.1.drop k), .inl ⟨rfl, Nat.zero_le _, hm, by simp, by rw [pre_nil]; rfl⟩, u8_drop h8 _, by simp, fun T s' hs hk => ⟨fun z => absurd he z, fun _ => ?_⟩⟩
        rcases hs with ⟨e1, e2⟩ | ⟨e1, e2⟩
        · exact .inl ⟨e1, a, then_ok hmy e2⟩
        · exact .inr ⟨e1, then_no hmy e2⟩
      · have hd : decide ((a : Int) ≤ 1048576) = false := by rw [decide_eq_false_iff_not]; omega
        rw [hd, rN_no rfl]
        have h40 : (4 : Int) ≠ 0 := by decide
        refine ⟨.error 4, .inr ⟨h40, Nat.zero_le _, rfl⟩, u8_drop h8 _, by simp, fun T s' hs hk => ⟨fun z => absurd he z, fun _ => .inr ?_⟩⟩
        rw [hk h40]
        exact ⟨h40, then_err (need_no (rdV_ok h) (decide_eq_false hm))⟩
  · have eR : rV s = (0, s) := if_neg he
    rw [eR] at hn ⊢
    rw [rN_err he]
    exact ⟨.error s.2, .inr ⟨he, Nat.zero_le _, rfl⟩, h8, Nat.le_refl _, fun T s' hs hk => ⟨fun _ => hk he, fun z => absurd z he⟩⟩
theorem dl_step {D : Except Int (List (List Int) × List Int)} {n L : Nat} {T : List (List Int)} {s : List Int × Int} (h : DLr D n L T s) (he : s.2 = 0) (hlt : T.length < n) (h8 : U8 s.1) {a : List Int} {k : Nat} {c : Int} (hs : sBlock 64 s.1 = (a, k, c)) :
    DLr D n L (T ++ [a]) (rN (behind T a) 3 (s.1.drop k, c)) ∧ U8 a ∧ a.length ≤ 64 := by
  rcases h with ⟨_, h1, h2, h3, h4⟩ | ⟨h1, _⟩
  · obtain ⟨m, hm⟩ : ∃ m, n - T.length = m + 1 := ⟨n - T.length - 1, by omega⟩
    rw [hm] at h4
    rcases sBlk_cases (n := 64) h8 (by decide) (by decide) with ⟨c', h, hc⟩ | ⟨b, k', h, hl, hk, hk1, hsp, _⟩
    · rw [h] at hs
      cases hs
      have hc0 : c ≠ 0 := by omega
      rw [rN_err hc0]
      refine ⟨.inr ⟨hc0, by simp; omega, ?_⟩, fun y hy => (by cases hy), by simp⟩
      rw [h4]
      unfold rdTns
      rw [rep_err (r := rdTn) (s := T) (need_err (rdK_err (n := 64) h hc0))]; rfl
    · rw [h] at hs
      cases hs
      have hx8 : U8 a := fun y hy => h8 y (by rw [hsp]; unfold blk; simp [hy])
      refine ⟨?_, hx8, by omega⟩
      cases hb : behind T a with
      | true =>
        rw [rN_ok]
        refine .inl ⟨rfl, by simp; omega, h2, by simp; omega, ?_⟩
        rw [h4]
        unfold rdTns
        rw [rep_ok (r := rdTn) (s := T) (need_ok (rdK_ok (n := 64) h) hb), pre_pre]
        have : n - (T ++ [a]).length = m := by simp; omega
        rw [this]
      | false =>
        rw [rN_no rfl]
        have h30 : (3 : Int) ≠ 0 := by decide
        refine .inr ⟨h30, by simp; omega, ?_⟩
        rw [h4]
        unfold rdTns
        rw [rep_err (r := rdTn) (s := T) (need_no (rdK_ok (n := 64) h) hb)]; rfl
  · exact absurd he h1
theorem wp_callsR {o : Oper} {a : Act} {W : World} {K : Act → World → Prop} {Q : Exit → Act → World → Prop} (n : Nat) (xs : Array Operand) (ts : Array TypeId)
    (ho : o.op = .call { callee := .value (.func n), args := xs, argTypes := ts }) (hf : ∀ vs W, (callFunc n vs).run Tryz.prog W = .ok (.enter n vs) W) (vs : Array Value) (hx : xs.map a.eval = vs) {r : Value} {R : World → Prop}
    (hc : Calls Tryz.prog n vs W fun e w' => e = .returned r ∧ R w') (h : ∀ w', R w' → K (a.put o.dst r) w') : Oper.wp Tryz.prog o a W K Q := by
  subst hx
  unfold Oper.wp
  have e : a.eval (Operand.func n) = .func (.func n) #[] #[] := rfl
  have hf2 := hf (xs.map a.eval) W
  simp [execOp, ho, resolve, invoke, e, Oper.upon, Deferred.ofValue, hf2]
  refine Calls.mono hc ?_
  rintro e w' ⟨rfl, hR⟩
  exact h w' hR
theorem enterNeed (vs : Array Value) (W : World) : (callFunc 37 vs).run Tryz.prog W = .ok (.enter 37 vs) W := by kernel_rfl
set_option maxHeartbeats 4000000 in
set_option maxRecDepth 100000 in
theorem rd_dir (g B : Nat) (s : List Int × Int) (w : World) (h : RDR w g B s) (h8 : U8 s.1) (hl : s.1.length ≤ 1000) (hBw : B ≤ w.heap.size) :
    Calls Tryz.prog 38 #[.pointer (some ⟨g, 0, none⟩)] w fun e w' => ∃ u T s', e = .returned u ∧ w'.ownsRow w.heap.size 9 1 u T.length (tcells T) ∧ T.length ≤ 1001 ∧ (∀ x ∈ T, U8 x ∧ x.length ≤ 64) ∧ RDR w' g B s' ∧ U8 s'.1 ∧ s'.1.length ≤ 1000 ∧ DIRQ s T s' ∧ Only (fun k => k = g) w w' := by
  obtain ⟨i0, hi, hz0, hz1, hz2⟩ := info_parts Tryz.infoStr
  have hg := h.lt
  have A := hideIt (rd_varint g B s w h h8)
  obtain ⟨n, hn, hn64⟩ := rV_nat h8
  obtain ⟨D, hD, hs8, hsl, hfin⟩ := dir_start s h8 n hn
  rw [hn] at A
  have FIN := hideIt hfin
  have B := hideIt (fun W (hr : RDR W g B (rV s).2) => rd_need g B _ (decide ((n : Int) ≤ 1048576)) 4 W hr)
  obtain ⟨s1, hs1⟩ : ∃ s1, s1 = (rV s).2 := ⟨_, rfl⟩
  rw [← hs1] at A B FIN hD hs8 hsl
  obtain ⟨s2, hs2⟩ : ∃ s2, s2 = rN (decide ((n : Int) ≤ 1048576)) 4 s1 := ⟨_, rfl⟩
  rw [← hs2] at B FIN hD hs8 hsl
  obtain ⟨L, hL⟩ : ∃ L, L = s.1.length := ⟨_, rfl⟩
  rw [← hL] at hD hl hsl
  have P0 := hideIt (And.intro hD (And.intro hs8 hsl))
  clear h h8 hn hfin hs1 hs2 hL hD hs8 hsl
  go_enter Tryz.func38, Tryz.ntmps38
  go_wp2_with fail
  refine A.out.mono ?_
  rintro e w1 ⟨rfl, r1, o1⟩
  have C := hideIt (B.out w1 r1)
  have O1 := hideIt o1
  clear A B r1 o1
  go_wp2_with fail
  refine C.out.mono ?_
  rintro e w2 ⟨rfl, r2, o2⟩
  have F0 : Hid (RDR w2 g B s2 ∧ Only (fun k => k = g) w w2) := ⟨r2, O1.out.trans o2 (fun i _ e => e)⟩
  clear C r2 o2 O1
  go_wp2
  go_loopw [4, 5] (fun u i wr => ∃ T sc, i = .int .u64 (T.length : Nat) ∧ wr.ownsRow w.heap.size 9 1 u T.length (tcells T) ∧ (∀ x ∈ T, U8 x ∧ x.length ≤ 64) ∧ RDR wr g B sc ∧ U8 sc.1 ∧ sc.1.length ≤ 1000 ∧ DLr D n L T sc ∧ (s2.2 ≠ 0 → sc = s2) ∧ Only (fun k => k = g) w wr) (fun _ i _ => n - (intOf i).toNat)
  case atStart => exact ⟨[], s2, rfl, World.ownsRow_nil _ _ _ _, fun x hx => (by cases hx), F0.out.1, P0.out.2.1, Nat.le_trans P0.out.2.2 hl, P0.out.1, fun _ => rfl, F0.out.2⟩
  case round =>
    clear F0 P0
    obtain ⟨T, sc, rfl, own, hall, hr, h8, hcl, hdl, hst, on⟩ := hrel
    obtain ⟨au, cu, rfl⟩ := own_slice own
    obtain ⟨ao, cap, hB, hb, nc, hj⟩ := hr
    have c0 := hB.cell 0
    have c1 := hB.cell 1
    simp only [List.getElem?_cons_zero, List.getElem?_cons_succ] at c0 c1
    by_cases hlt : T.length < n
    · have d1 : decide (((T.length : Nat) : Int) < (n : Int)) = true := by rw [decide_eq_true_eq]; omega
      have d2 : decide (T.length < n) = true := by rw [decide_eq_true_eq]; exact hlt
      by_cases he : sc.2 = 0
      · obtain ⟨a, k, c, hs⟩ : ∃ a k c, sBlock 64 sc.1 = (a, k, c) := ⟨_, _, _, rfl⟩
        obtain ⟨NX, ha8, hal⟩ := dl_step hdl he hlt h8 hs
        have BK := hideIt (rblock_ob ao sc.1.length cap sc.1 wr hb nc h8 (by omega) 64 (by decide) hs)
        rw [he] at c1 hB
        have hT1 : T.length ≤ 1000 := by
          rcases hdl with ⟨_, _, _, z, _⟩ | ⟨z, _⟩
          · omega
          · exact absurd he z
        obtain ⟨P, hP⟩ : ∃ P, P = behind T a := ⟨_, rfl⟩
        rw [← hP] at NX
        have hlen : (rN P 3 (sc.1.drop k, c)).1.length ≤ 1000 := by simp [rN]; omega
        have h8' : U8 (rN P 3 (sc.1.drop k, c)).1 := u8_drop h8 k
        have NXT : Hid (∀ u' w', w'.ownsRow w.heap.size 9 1 u' (T.length + 1) (tcells T ++ [.string (strOfNums a)]) → RDR w' g B (rN P 3 (sc.1.drop k, c)) → Only (fun k => k = g) w w' → (∃ T' sc', T'.length = T.length + 1 ∧ w'.ownsRow w.heap.size 9 1 u' T'.length (tcells T') ∧ (∀ x ∈ T', U8 x ∧ x.length ≤ 64) ∧ RDR w' g B sc' ∧ U8 sc'.1 ∧ sc'.1.length ≤ 1000 ∧ DLr D n L T' sc' ∧ (s2.2 ≠ 0 → sc' = s2) ∧ Only (fun k => k = g) w w')) := fun u' w' z1 z2 z3 => by
          refine ⟨T ++ [a], _, by simp, by simpa [tcells] using z1, fun x hx => ?_, z2, h8', hlen, NX, fun z => ?_, z3⟩
          · rcases List.mem_append.1 hx with q | q
            · exact hall x q
            · rw [List.mem_singleton] at q; subst q; exact ⟨ha8, hal⟩
          · exact absurd (hst z ▸ he) z
        have R2 : Hid (∀ W ao' m' cap', Blk W g 64 [.slice ao' m' cap', .int .i64 c] → Bs .u8 W (.slice ao' m' cap') (sc.1.drop k) → NoCap (.slice ao' m' cap') → (Value.slice ao' m' cap').ownBlock = (Value.slice ao sc.1.length cap).ownBlock → RDR W g B (sc.1.drop k, c)) := fun W ao' m' cap' z1 z2 z3 z4 => by
          have := z2.length
          subst this
          exact ⟨ao', cap', z1, z2, z3, fun hz j e => hj (fun z => hz (by simp only; rw [z]; exact List.drop_nil)) j (by rw [← z4]; exact e)⟩
        have HBr := hideIt hB
        have OWN := hideIt own
        have ON := hideIt on
        have HALL := hideIt hall
        have HA8 := hideIt ha8
        obtain ⟨S', hS'⟩ : ∃ S', S' = (sc.1.drop k, c) := ⟨_, rfl⟩
        rw [← hS'] at NXT R2
        have HBL : Hid (0 < T.length → Op.bytesLess (strOfNums (T.getD (T.length - 1) [])).toList (strOfNums a).toList = P) := fun z => by
          rw [less_nums (hall _ (eget_mem (by omega))).1 ha8, hP, behind_at z]
        have HP0 : Hid (T.length = 0 → P = true) := fun z => by
          rw [hP, List.eq_nil_of_length_eq_zero z]; rfl
        obtain ⟨t0, ht0⟩ : ∃ t0, t0 = sc.1 := ⟨_, rfl⟩
        rw [← ht0] at BK c0 HBr R2
        obtain ⟨m, hm⟩ : ∃ m, m = t0.length := ⟨_, rfl⟩
        rw [← hm] at BK c0 HBr R2
        obtain ⟨t, ht⟩ : ∃ t, t = T.length := ⟨_, rfl⟩
        have HTL := hideIt ht
        rw [← ht] at OWN NXT HBL HP0 d1 d2 hlt hT1
        rw [← ht]
        have j64 : IntKind.u64.wrap ((t : Int) + 1) = ((t + 1 : Nat) : Int) := by rw [IntKind.wrap_u64]; omega
        clear own hall hB hb nc hj h8 hcl hdl hst on he hs NX ha8 hal hlen h8' ht0 hm ht hS' hP
        go_wp2_with fail
        refine BK.out.mono ?_
        rintro e w1 ⟨v1, ao', m', cap', rfl, b1, b2, n1, o1, ob⟩
        have K1 := HBr.out.past o1
        have c0' := K1.cell 0
        have c1' := K1.cell 1
        have f0 := K1.froz 0
        have f1 := K1.froz 1
        simp only [List.getElem?_cons_zero, List.getElem?_cons_succ] at c0' c1'
        have H1 := hideIt (And.intro b1 (And.intro b2 (And.intro n1 (And.intro o1 (And.intro K1 ob)))))
        clear BK c0 c1 b1 b2 n1 o1 K1 ob HBr
        go_wp2_with fail
        obtain ⟨w2, hw2⟩ : ∃ w2, w2 = (w1.setCell ⟨g, 0, none⟩ (.slice ao' m' cap')).setCell ⟨g, 1, none⟩ (.int .i64 c) := ⟨_, rfl⟩
        rw [← hw2]
        obtain ⟨b1, b2, n1, o1, K1, ob⟩ := H1.out
        have os : Only (fun k => k = g) w1 w2 := by
          rw [hw2]; exact ((Only.refl (fun k => k = g) _).setCell (p := ⟨g, 0, none⟩) (fun _ => rfl) _).setCell (p := ⟨g, 1, none⟩) (fun _ => rfl) _
        have r2 := R2.out w2 ao' m' cap' (by rw [hw2]; exact (K1.set 0 (.slice ao' m' cap')).set 1 (.int .i64 c)) (b2.offB K1 (rd_kind _ _ _ _) os) n1 ob
        have B2 := hideIt (b1.offB K1 (rd_kind _ _ _ _) os)
        have own2 := os.own (o1.own OWN.out (fun _ _ f => f)) (fun j hj e => by have := (OWN.out.lt j hj).1; omega)
        have O2 := hideIt ((ON.out.trans o1 (fun i _ f => f.elim)).trans os (fun i _ e => e))
        have NBLK0 : ∃ ao'' cap'', Blk w2 g 64 [.slice ao'' S'.1.length cap'', .int .i64 S'.2] := ⟨r2.choose, r2.choose_spec.choose, r2.choose_spec.choose_spec.1⟩
        obtain ⟨ax, cx, hKx⟩ := NBLK0
        have KX := hideIt hKx
        have N := hideIt (rd_need g B S' P 3 w2.drew (r2.past (Only.refl _ _).drew))
        have OWN2 := hideIt own2
        clear hKx b1 b2 n1 o1 K1 ob os r2 own2 hw2 H1 R2 OWN ON c0' c1' f0 f1
        have REST : Hid (∀ w3, RDR w3 g B (rN P 3 S') → Only (fun k => k = g) w2.drew w3 → (w3.ownsRow w.heap.size 9 1 (.slice au t cu) t (tcells T) ∧ Bs .u8 w3 v1 a ∧ Only (fun k => k = g) w w3 ∧ w.heap.size ≤ w3.heap.size)) := fun w3 z1 z2 => by
          have ow := z2.own (OWN2.out.drew) (fun j hj e => by have := (OWN2.out.lt j hj).1; omega)
          have oo := O2.out.trans ((Only.refl (fun k => k = g) w2).drew.trans z2 (fun i _ e => e)) (fun i _ e => e)
          exact ⟨ow, (B2.out.past (Only.refl _ _).drew).offB KX.out.drew (rd_kind _ _ _ _) z2, oo, oo.size⟩
        by_cases ht0 : t = 0
        · have e0 : ((t : Int) == 0) = true := by rw [ht0]; rfl
          obtain rfl : P = true := HP0.out ht0
          refine wp_region_held_drew (S := fun _ => True) (by kernel_rfl) trivial (fun hH0 => ?_)
          try simp only [Act.put, List.setIfInBounds_toArray, List.set_cons_zero, List.set_cons_succ]
          refine wpAnyH_take (i := 0) (oi := { dst := some 44, op := Op.move (Operand.tmp 0), type := 62, pos := "ref.go:125", after := #[], guard := none }) (v := ?tvz0) rfl (by kernel_rfl) (by kernel_rfl) (by kernel_rfl) (fun _ _ _ h => h) (Or.inl ⟨by rfl, ?thz0⟩) hH0 ?trz0
          case thz0 => (intro w hSw; go_simp; try with_reducible rfl)
          try simp only [Act.put, List.setIfInBounds_toArray, List.set_cons_zero, List.set_cons_succ]
          refine wpAnyH_take (i := 1) (oi := { dst := some 45, op := Op.move (Operand.tmp 4), type := 44, pos := "ref.go:125", after := #[], guard := none }) (v := ?tvz1) rfl (by kernel_rfl) (by kernel_rfl) (by kernel_rfl) (fun _ _ _ h => h) (Or.inl ⟨by rfl, ?thz1⟩) hH0 ?trz1
          case thz1 => (intro w hSw; go_simp; try with_reducible rfl)
          try simp only [Act.put, List.setIfInBounds_toArray, List.set_cons_zero, List.set_cons_succ]
          refine wpAnyH_take (i := 2) (oi := { dst := some 46, op := Op.call { callee := Callee.builtin Builtin.len, args := #[Operand.tmp 45], argTypes := #[44] }, type := 3, pos := "ref.go:125", after := #[{ on := 1, ground := Ground.data }], guard := none }) (v := ?tvz2) rfl (by kernel_rfl) (by kernel_rfl) (by kernel_rfl) (fun _ _ _ h => h) (Or.inl ⟨by rfl, ?thz2⟩) hH0 ?trz2
          case thz2 => (intro w hSw; go_simp; try with_reducible rfl)
          try simp only [Act.put, List.setIfInBounds_toArray, List.set_cons_zero, List.set_cons_succ]
          refine wpAnyH_take (i := 3) (oi := { dst := some 47, op := Op.binOp BinOp.eql 3 (Operand.tmp 46) (Operand.const (Value.int IntKind.i64 0)) 3, type := 4, pos := "ref.go:125", after := #[{ on := 2, ground := Ground.data }], guard := none }) (v := ?tvz3) rfl (by kernel_rfl) (by kernel_rfl) (by kernel_rfl) (fun _ _ _ h => h) (Or.inl ⟨by rfl, ?thz3⟩) hH0 ?trz3
          case thz3 => (intro w hSw; go_simp; try with_reducible rfl)
          try simp only [Act.put, List.setIfInBounds_toArray, List.set_cons_zero, List.set_cons_succ]
          refine wpAnyH_take (i := 4) (oi := { dst := some 48, op := Op.move (Operand.tmp 47), type := 4, pos := "ref.go:125", after := #[{ on := 3, ground := Ground.data }], guard := none }) (v := ?tvz4) rfl (by kernel_rfl) (by kernel_rfl) (by kernel_rfl) (fun _ _ _ h => h) (Or.inl ⟨by rfl, ?thz4⟩) hH0 ?trz4
          case thz4 => (intro w hSw; go_simp; try with_reducible rfl)
          try simp only [Act.put, List.setIfInBounds_toArray, List.set_cons_zero, List.set_cons_succ]
          refine wpAnyH_take (i := 5) (oi := { dst := some 49, op := Op.move (Operand.tmp 4), type := 44, pos := "ref.go:125", after := #[{ on := 4, ground := Ground.guard }], guard := some (4, false) }) (v := undef) rfl (by kernel_rfl) (by kernel_rfl) (by kernel_rfl) (fun _ _ _ h => h) (Or.inr ⟨by rfl, rfl⟩) hH0 ?trz5
          try simp only [Act.put, List.setIfInBounds_toArray, List.set_cons_zero, List.set_cons_succ]
          refine wpAnyH_take (i := 6) (oi := { dst := some 50, op := Op.move (Operand.tmp 4), type := 44, pos := "ref.go:125", after := #[{ on := 4, ground := Ground.guard }], guard := some (4, false) }) (v := undef) rfl (by kernel_rfl) (by kernel_rfl) (by kernel_rfl) (fun _ _ _ h => h) (Or.inr ⟨by rfl, rfl⟩) hH0 ?trz6
          try simp only [Act.put, List.setIfInBounds_toArray, List.set_cons_zero, List.set_cons_succ]
          refine wpAnyH_take (i := 7) (oi := { dst := some 51, op := Op.call { callee := Callee.builtin Builtin.len, args := #[Operand.tmp 50], argTypes := #[44] }, type := 3, pos := "ref.go:125", after := #[{ on := 6, ground := Ground.data }, { on := 4, ground := Ground.guard }], guard := some (4, false) }) (v := undef) rfl (by kernel_rfl) (by kernel_rfl) (by kernel_rfl) (fun _ _ _ h => h) (Or.inr ⟨by rfl, rfl⟩) hH0 ?trz7
          try simp only [Act.put, List.setIfInBounds_toArray, List.set_cons_zero, List.set_cons_succ]
          refine wpAnyH_take (i := 8) (oi := { dst := some 52, op := Op.binOp BinOp.sub 3 (Operand.tmp 51) (Operand.const (Value.int IntKind.i64 1)) 3, type := 3, pos := "ref.go:125", after := #[{ on := 7, ground := Ground.data }, { on := 4, ground := Ground.guard }], guard := some (4, false) }) (v := undef) rfl (by kernel_rfl) (by kernel_rfl) (by kernel_rfl) (fun _ _ _ h => h) (Or.inr ⟨by rfl, rfl⟩) hH0 ?trz8
          try simp only [Act.put, List.setIfInBounds_toArray, List.set_cons_zero, List.set_cons_succ]
          refine wpAnyH_take (i := 9) (oi := { dst := some 53, op := Op.indexAddr 44 (Operand.tmp 49) (Operand.tmp 52), type := 0, pos := "ref.go:125", after := #[{ on := 5, ground := Ground.data }, { on := 8, ground := Ground.data }, { on := 4, ground := Ground.guard }], guard := some (4, false) }) (v := undef) rfl (by kernel_rfl) (by kernel_rfl) (by kernel_rfl) (fun _ _ _ h => h) (Or.inr ⟨by rfl, rfl⟩) hH0 ?trz9
          try simp only [Act.put, List.setIfInBounds_toArray, List.set_cons_zero, List.set_cons_succ]
          refine wpAnyH_take (i := 10) (oi := { dst := some 54, op := Op.load 9 (Operand.tmp 53), type := 9, pos := "ref.go:125", after := #[{ on := 9, ground := Ground.data }, { on := 4, ground := Ground.guard }], guard := some (4, false) }) (v := undef) rfl (by kernel_rfl) (by kernel_rfl) (by kernel_rfl) (fun _ _ _ h => h) (Or.inr ⟨by rfl, rfl⟩) hH0 ?trz10
          try simp only [Act.put, List.setIfInBounds_toArray, List.set_cons_zero, List.set_cons_succ]
          refine wpAnyH_take (i := 11) (oi := { dst := some 55, op := Op.move (Operand.tmp 6), type := 23, pos := "ref.go:125", after := #[{ on := 4, ground := Ground.guard }], guard := some (4, false) }) (v := undef) rfl (by kernel_rfl) (by kernel_rfl) (by kernel_rfl) (fun _ _ _ h => h) (Or.inr ⟨by rfl, rfl⟩) hH0 ?trz11
          try simp only [Act.put, List.setIfInBounds_toArray, List.set_cons_zero, List.set_cons_succ]
          refine wpAnyH_take (i := 12) (oi := { dst := some 56, op := Op.convert 23 9 (Operand.tmp 55), type := 9, pos := "ref.go:125", after := #[{ on := 11, ground := Ground.data }, { on := 4, ground := Ground.guard }], guard := some (4, false) }) (v := undef) rfl (by kernel_rfl) (by kernel_rfl) (by kernel_rfl) (fun _ _ _ h => h) (Or.inr ⟨by rfl, rfl⟩) hH0 ?trz12
          try simp only [Act.put, List.setIfInBounds_toArray, List.set_cons_zero, List.set_cons_succ]
          refine wpAnyH_take (i := 13) (oi := { dst := some 57, op := Op.binOp BinOp.lss 9 (Operand.tmp 54) (Operand.tmp 56) 9, type := 4, pos := "ref.go:125", after := #[{ on := 10, ground := Ground.data }, { on := 12, ground := Ground.data }, { on := 4, ground := Ground.guard }], guard := some (4, false) }) (v := undef) rfl (by kernel_rfl) (by kernel_rfl) (by kernel_rfl) (fun _ _ _ h => h) (Or.inr ⟨by rfl, rfl⟩) hH0 ?trz13
          try simp only [Act.put, List.setIfInBounds_toArray, List.set_cons_zero, List.set_cons_succ]
          refine wpAnyH_take (i := 14) (oi := { dst := some 58, op := Op.pick (Operand.tmp 48) (Operand.const (Value.bool true)) (Operand.tmp 57), type := 4, pos := "ref.go:125", after := #[{ on := 4, ground := Ground.data }, { on := 13, ground := Ground.data }], guard := none }) (v := ?tvz14) rfl (by kernel_rfl) (by kernel_rfl) (by kernel_rfl) (fun _ _ _ h => h) (Or.inl ⟨by rfl, ?thz14⟩) hH0 ?trz14
          case thz14 => (intro w hSw; go_simp; try with_reducible rfl)
          try simp only [Act.put, List.setIfInBounds_toArray, List.set_cons_zero, List.set_cons_succ]
          refine wpAnyH_ready (rs := [15]) (by kernel_rfl) (by simp) ?_
          refine (AllReadyH.cons (o := { dst := some 59, op := Op.call { callee := Callee.value (Operand.func 37), args := #[Operand.tmp 44, Operand.tmp 58, Operand.const (Value.int IntKind.i64 3)], argTypes := #[62, 4, 29] }, type := 0, pos := "ref.go:125", after := #[{ on := 0, ground := Ground.data }, { on := 14, ground := Ground.data }, { on := 4, ground := Ground.chain }], guard := none }) rfl (fun K hK => ?_) AllReadyH.nil)
          rw [if_pos (by rfl)]
          refine wp_callsR 37 #[.tmp 44, .tmp 58, .const (Value.int IntKind.i64 3)] #[62, 4, 29] rfl enterNeed #[.pointer (some ⟨g, 0, none⟩), .bool true, .int .i64 3] (by kernel_rfl) N.out ?_
          rintro w3 ⟨r3, o3⟩
          refine hK.out _ _ trivial (fun hh15 => ?_)
          clear hK K
          try simp only [Act.put, List.setIfInBounds_toArray, List.set_cons_zero, List.set_cons_succ]
          refine wpAnyH_done (by kernel_rfl) ?_ _
          obtain ⟨own3, b3, on3, sz3⟩ := REST.out w3 r3 o3
          have hcv3 := string_of w3 v1 a b3
          have R3 := hideIt r3
          have ON3 := hideIt on3
          clear r3 o3 b3 on3 REST N B2 O2 OWN2
          go_wp2_with (first
            | (at_builtin; refine wpList_append_own _ rfl _ _ 44 rfl w.heap.size 9 i0 (.string ⟨#[]⟩) 1 16 Tryz.underlying44 hi hz0 hz1 hz2 rfl (by decide) _ t _ rfl (own3.alloc _) ⟨w3.heap.size, 0, none⟩ 1 1 [.string (strOfNums a)] rfl rfl (cell_one_new _ _ _) (str_one _) (by unfold maxLen; omega) (by omega) (by simp; omega) ?_; intro v' w4 hown' hgrow' _)
            | fail)
          have og : Only (fun j => (Value.slice au t cu).ownBlock = some j) w3 w4 := ((Only.refl _ w3).alloc _).grown hgrow' (fun j _ e => e)
          have NN := hideIt (NXT.out v' w4 hown' (R3.out.keepB og (fun e => by have := (own3.lt _ e).1; omega) (fun j hj e => by have := (own3.lt _ e).1; omega)) (ON3.out.trans og (fun i hi e => by have := (own3.lt _ e).1; omega)))
          clear hown' hgrow' og own3 R3 ON3 hcv3
          go_roundw
          case rel =>
            obtain ⟨T', sc', e1, F⟩ := NN.out
            exact ⟨T', sc', by rw [e1]; go_num, F⟩
          case measure => simp [intOf]; omega
        · have e0 : ((t : Int) == 0) = false := by rw [beq_eq_false_iff_ne]; omega
          obtain ⟨b5, off5, cap5, e5, hc5⟩ := (Sts.of_own (w := w2) (v := .slice au t cu) (T := T) (by rw [← HTL.out]; exact OWN2.out)).at (t - 1) (by rw [← HTL.out]; omega)
          rw [← HTL.out] at e5
          have hle := HBL.out (by omega)
          rw [HTL.out] at hle
          rw [← HTL.out] at hle
          simp only [Value.slice.injEq] at e5
          obtain ⟨rfl, -, rfl⟩ := e5
          obtain ⟨y, hy⟩ : ∃ y, y = T.getD (t - 1) [] := ⟨_, rfl⟩
          rw [← hy] at hle hc5
          have hw1 : IntKind.i64.wrap ((t : Int) - 1) = ((t - 1 : Nat) : Int) := by rw [IntKind.wrap_i64]; omega
          have q0 : (0 : Int) ≤ ((t - 1 : Nat) : Int) := by omega
          have q1 : ((t - 1 : Nat) : Int) < (t : Int) := by omega
          have hcv := string_of w2.drew v1 a (B2.out.past (Only.refl _ _).drew)
          have hcv2 := string_of w2 v1 a B2.out
          have KEEP : Hid (∀ w3, RDR w3 g B (rN P 3 S') → Only (fun k => k = g) w2.drew w3 → (w3.cell? ⟨b5, off5 + (t - 1), none⟩ = some (.string (strOfNums y)) ∧ (convert 23 9 v1).run Tryz.prog w3 = .ok (.string (strOfNums a)) w3)) := fun w3 z1 z2 => by
            obtain ⟨ow, bb, _, _⟩ := REST.out w3 z1 z2
            obtain ⟨b6, off6, cap6, e6, hc6⟩ := (Sts.of_own (w := w3) (T := T) (by rw [← HTL.out]; exact ow)).at (t - 1) (by rw [← HTL.out]; omega)
            simp only [Value.slice.injEq, Option.some.injEq, Addr.mk.injEq] at e6
            obtain ⟨⟨rfl, rfl, -⟩, -, -⟩ := e6
            rw [← hy] at hc6
            exact ⟨hc6, string_of w3 v1 a bb⟩
          clear hy
          go_region_held3 (fun W => W.cell? ⟨b5, off5 + (t - 1), none⟩ = some (.string (strOfNums y)) ∧ (convert 23 9 v1).run Tryz.prog W = .ok (.string (strOfNums a)) W) (first | exact ⟨hc5, hcv⟩ | assumption | exact KEEP.out _ r3 o3) ((go_at_call 37; refine N.out.mono ?_; rintro e w3 ⟨rfl, r3, o3⟩))
          obtain ⟨own3, b3, on3, sz3⟩ := REST.out w3 r3 o3
          have hcv3 := string_of w3 v1 a b3
          have R3 := hideIt r3
          have ON3 := hideIt on3
          clear r3 o3 b3 on3 REST N B2 O2 OWN2
          go_wp2_with (first
            | (at_builtin; refine wpList_append_own _ rfl _ _ 44 rfl w.heap.size 9 i0 (.string ⟨#[]⟩) 1 16 Tryz.underlying44 hi hz0 hz1 hz2 rfl (by decide) _ t _ rfl (own3.alloc _) ⟨w3.heap.size, 0, none⟩ 1 1 [.string (strOfNums a)] rfl rfl (cell_one_new _ _ _) (str_one _) (by unfold maxLen; omega) (by omega) (by simp; omega) ?_; intro v' w4 hown' hgrow' _)
            | fail)
          have og : Only (fun j => (Value.slice (some ⟨b5, off5, none⟩) t cu).ownBlock = some j) w3 w4 := ((Only.refl _ w3).alloc _).grown hgrow' (fun j _ e => e)
          have NN := hideIt (NXT.out v' w4 hown' (R3.out.keepB og (fun e => by have := (own3.lt _ e).1; omega) (fun j hj e => by have := (own3.lt _ e).1; omega)) (ON3.out.trans og (fun i hi e => by have := (own3.lt _ e).1; omega)))
          clear hown' hgrow' og own3 R3 ON3 hcv3
          go_roundw
          case rel =>
            obtain ⟨T', sc', e1, F⟩ := NN.out
            exact ⟨T', sc', by rw [e1]; go_num, F⟩
          case measure => simp [intOf]; omega
      · have d3 : (sc.2 == 0) = false := by simpa using he
        have RES : Hid (∃ T' s', wr.ownsRow w.heap.size 9 1 (Value.slice au T.length cu) T'.length (tcells T') ∧ T'.length ≤ 1001 ∧ (∀ x ∈ T', U8 x ∧ x.length ≤ 64) ∧ RDR wr g B s' ∧ U8 s'.1 ∧ s'.1.length ≤ 1000 ∧ DIRQ s T' s' ∧ Only (fun k => k = g) w wr) := by
          rcases hdl with ⟨z, _⟩ | ⟨z, z1, z2⟩
          · exact absurd z he
          · exact ⟨T, sc, own, by omega, hall, ⟨ao, cap, hB, hb, nc, hj⟩, h8, hcl, FIN.out T sc (.inr ⟨z, z2⟩) hst, on⟩
        obtain ⟨e0, he0⟩ : ∃ e0, e0 = sc.2 := ⟨_, rfl⟩
        rw [← he0] at d3 c1
        obtain ⟨t, ht⟩ : ∃ t, t = T.length := ⟨_, rfl⟩
        rw [← ht] at d1 d2 hlt RES
        rw [← ht]
        clear own hall hB hb nc hj h8 hcl hdl hst on he he0 c0 ht
        go_wp2
        go_ret
        obtain ⟨T', s', F⟩ := RES.out
        exact ⟨_, T', s', rfl, F⟩
    · have d1 : decide (((T.length : Nat) : Int) < (n : Int)) = false := by rw [decide_eq_false_iff_not]; omega
      have d2 : decide (T.length < n) = false := by rw [decide_eq_false_iff_not]; exact hlt
      have RES : Hid (∃ T' s', wr.ownsRow w.heap.size 9 1 (Value.slice au T.length cu) T'.length (tcells T') ∧ T'.length ≤ 1001 ∧ (∀ x ∈ T', U8 x ∧ x.length ≤ 64) ∧ RDR wr g B s' ∧ U8 s'.1 ∧ s'.1.length ≤ 1000 ∧ DIRQ s T' s' ∧ Only (fun k => k = g) w wr) := by
        rcases hdl with ⟨z, z1, z2, z3, z4⟩ | ⟨z, z1, z2⟩
        · refine ⟨T, sc, own, by omega, hall, ⟨ao, cap, hB, hb, nc, hj⟩, h8, hcl, FIN.out T sc (.inl ⟨z, ?_⟩) hst, on⟩
          rw [z4, show n - T.length = 0 by omega]
          simp [pre, rdTns, rdRep]
        · exact ⟨T, sc, own, by omega, hall, ⟨ao, cap, hB, hb, nc, hj⟩, h8, hcl, FIN.out T sc (.inr ⟨z, z2⟩) hst, on⟩
      obtain ⟨t, ht⟩ : ∃ t, t = T.length := ⟨_, rfl⟩
      rw [← ht] at d1 d2 hlt RES
      rw [← ht]
      clear own hall hB hb nc hj h8 hcl hdl hst on c0 c1 ht
      go_wp2
      go_ret
      obtain ⟨T', s', F⟩ := RES.out
      exact ⟨_, T', s', rfl, F⟩
end Go.Proofs.YtiolgenaefillaaGreat
