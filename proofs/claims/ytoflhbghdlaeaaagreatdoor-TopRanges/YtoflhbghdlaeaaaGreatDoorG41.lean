import Derived.Test.YtoflhbghdlaeaaaGreatDoorG40
namespace Go.Proofs.YtoflhbghdlaeaaaGreatDoor
set_option maxHeartbeats 8000000
set_option maxRecDepth 100000
open Go.RowKit _root_.Go.Proofs.Tryz
theorem Fh (vk vl : Value) (m : LI) (l : List Qk) (r n v : Nat) (w : World) (bm : Bs .u8 w vk m) (m8 : U8 m) (hm : m.length = 32) (hc : Chs w vl l) (hv : v < 18446744073709551615) (hl : l.length <= 17) (hn : n <= 64) (h : ∀ j, j < l.length -> COK r j n (l.getD j Qz)) (hT : Tab w) :
 Calls prog 5 #[vk, .agg #[.int .u64 0, NIL], .int .u64 v, vl] w λe w' => ∃ Z sg M ls a k ar cr, ARX Z sg M ls ∧ ls.length = l.length ∧ Z.length <= 1000000000 ∧ e = .returned (.tuple #[.slice a Z.length k, .agg #[.int .u64 v, .slice ar 32 cr], .int .i64 0]) ∧ Bs .u8 w' (.slice a Z.length k) Z ∧ Bs .u8 w' (.slice ar 32 cr) (QM ls) ∧ N0 w w' := by
 have h0 := vC (m := m) (v := v) (l := l) hm hv hl hn h
 have h1 : Uy m (0, []) v l = (v, QM (Q8 m v l l.length)) := by unfold Uy; rw[if_pos h0]
 have h3 := kM hl hn h
 have h2 : ∀ c ∈ l, CG c := λc hc => (h3 c hc).1
 have s8 : U8 ((0, []) : Yx).2 := λy hy => by cases hy
 refine (Rp vk NIL vl m [] 0 v l w bm m8 (Bs.nil _ _) NoCap.nil (λy hy => by cases hy) hc h3 (by omega) (by omega) hT).mono ?_;rintro e w' ⟨u, ru, rfl, bu⟩;have h4 := bu.r;rw[h1] at h4 ⊢;have h5 := Bs.of_own (k := .u8) (E := 5) bu.t;obtain⟨a, k, rfl⟩ := Qm bu.t;obtain⟨ar, cr, rfl⟩ := h4.len;have h6 := Su (m := m) (s := (0, [])) (v := v) (l := l) (by omega) s8 h2 (by omega) h0;have h7 := Jq (m := m) (s := (0, [])) (v := v) (l := l) (by omega) s8 h2 (by omega) h0;refine⟨_, _, _, _, a, k, ar, cr, ⟨Tx (by omega) s8 h2 (by omega) h0, (AR_u8 (by omega) s8 h2 h0).2, by rw[VQ]; omega, by rw[h6.1]; omega, XO, X7 h2 _⟩, VQ _ _ _ _, h6.2, ?_, h5, ?_, bu.o⟩
 · rw[h0, UM]
 · rw[UM] at h4; exact h4
theorem wT (va vb : Value) (xs : LI) (w : World) (ha : Bs .u8 w va xs) (hb : Bs .u8 w vb xs) (hl : xs.length <= 140737488355328) :
 Calls prog 12 #[va, vb] w λe w' => e = .returned (.bool true) ∧ N0 w w' := by
 have S := Qa (AN va vb xs w ha hb hl);obtain⟨aa, ca, rfl⟩ := ha.len;obtain⟨ab, cb, rfl⟩ := hb.len;clear ha hb hl;go_enter func12, ntmps12;go_wp2_with fail;refine S.o.mono ?_;rintro e w1 ⟨rfl, o⟩;have O := Qa o;clear S o;go_wp2;go_ret;exact⟨rfl, O.o⟩
def LVS (w : World) (N : Nat) (v : Value) (n : Nat) (ls : List (LI)) : Prop := ∃ vs, LO w vs ls ∧ w.ownsRow N 23 1 v n vs
theorem LVS.snoc {w0 wr w4 w6 : World} {N lo n : Nat} {lv v4 v' : Value} {vs : List Value} {ls : List (LI)} {x : LI} (hN : N = w0.heap.size) (h1 : LO wr vs ls) (h2 : wr.ownsRow N 23 1 lv n vs) (o0 : N0 w0 wr) (o4 : N0 wr w4) (own4 : w4.ownsRow lo 5 1 v4 32 (bl (LEAF x)))
 (own : w6.ownsRow N 23 1 v' (n + 1) (vs ++ [v4])) (g : (w4.alloc (.cells #[v4] 23)).grownBy w6 lv.ownBlock) : LVS w6 N v' (n + 1) (ls ++ [LEAF x]) ∧ N0 w0 w6 := by
 have o5 : N0 w4 (w4.alloc (.cells #[v4] 23)) := (Only.refl _ _).alloc _;have ow := (o4.same o5).own h2 (λ_ _ f => f);have l5 := h1.past (o4.same o5)
 have k5 : (w4.alloc (.cells #[v4] 23)).ownsRow lo 5 1 v4 (LEAF x).length (bl (LEAF x)) := by rw[Ky]; exact o5.own own4 (λ_ _ f => f)
 exact⟨⟨_, (l5.grown ow g).app ((LO.one k5).grown ow g), own⟩, (o0.same (o4.same o5)).grown g (λq hq e => by have := (ow.lt q e).1; omega)⟩
theorem Gy {L : List (LI)} {j : Nat} (h : j < L.length) : (L.map LEAF).take (j + 1) = (L.map LEAF).take j ++ [LEAF (L.getD j [])] := by
 rw[List.take_add_one, List.getElem?_map, Qg h, Qd, Qg h]
 rfl
theorem Cl (s a b : Int) (w : World) (hT : Tab w) :
 Calls prog 3 #[.int .i64 s, .int .i64 a, .int .i64 b] w λe w' => e = .returned (.bool true) ∧ N0 w w' := by
 obtain⟨i0, hi, ky, bp, be⟩ := info_parts Tryz.infoRows;have A := Qa (SH w hT);have KA := Qa (λW => GJ s W);have k8 := RQ s;have k7 := Pg s;obtain⟨K, hK⟩ : ∃ K, K = KG s := ⟨_, rfl⟩;rw[<- hK] at k8 k7;simp only[<- hK] at KA;obtain⟨sd, b1⟩ : ∃ sd, sd = s % 1024 := ⟨_, rfl⟩;obtain⟨r, hr⟩ : ∃ r : Nat, (r : Int) = sd % 2 := ⟨(sd % 2).toNat, by omega⟩;obtain⟨na, kw⟩ : ∃ q : Nat, (q : Int) = a % 16 := ⟨(a % 16).toNat, by omega⟩;obtain⟨nb, bc⟩ : ∃ q : Nat, (q : Int) = b % 65536 := ⟨(b % 65536).toNat, by omega⟩
 have and1 : bits .and .i64 s 1023 = sd := by rw[b1]; exact Xb s 10 (by decide)
 have and2 : bits .and .i64 a 15 = (na : Int) := by rw[kw]; exact Xb a 4 (by decide)
 have and3 : bits .and .i64 b 65535 = (nb : Int) := by rw[bc]; exact Xb b 16 (by decide)
 obtain⟨k, hk⟩ : ∃ k : Nat, k = 2 + na := ⟨_, rfl⟩;obtain⟨k1, bj⟩ : ∃ k1 : Nat, k1 = 1 + na := ⟨_, rfl⟩;obtain⟨c, hc⟩ : ∃ c : Nat, c = nb % k1 := ⟨_, rfl⟩
 have ku : c < k1 := by rw[hc]; exact Nat.mod_lt _ (by omega)
 obtain⟨c1, bx⟩ : ∃ c1 : Nat, c1 = c + 1 := ⟨_, rfl⟩
 have n1 : (2 : Int) + (na : Int) = (k : Int) := by omega
 have n2 : (k : Int) - 1 = (k1 : Int) := by omega
 have n3 : ((nb : Int)).tmod (k1 : Int) = (c : Int) := by rw[hc, Int.tmod_eq_emod_of_nonneg (by omega)]; rfl
 have n4 : (c : Int) + 1 = (c1 : Int) := by omega
 have n5 : ((k1 : Int) == 0) = false := by rw[beq_eq_false_iff_ne]; omega
 have n6 : ¬ (k1 : Int) = 0 := by omega
 have n7 : ¬ k1 = 0 := by omega
 have kb : k <= 17 := by omega
 have CX := Qa (λW => AY k 1 r sd W hr kb (by decide) (by omega) (by omega));simp only[show ((1 : Nat) : Int) = 1 from rfl] at CX;have BD := Qa (λ(W : World) (vk vl : Value) (l : List Qk) (h2 : l.length = k) (h : ∀ j, j < k -> COK r j 1 (l.getD j Qz)) (o : N0 w W) (bk : Bs .u8 W vk K) (hc : Chs W vl l) => Fh vk vl K l r 1 1 W bk k8 k7 hc (by decide) (by omega) (by decide) (by rw[h2]; exact h) (hT.past o));simp only[show ((1 : Nat) : Int) = 1 from rfl] at BD;have HT := Qa (And.intro hT (And.intro k7 (And.intro hk (And.intro bj (And.intro ku bx)))))
 have cb : c <= 16 := by omega
 have cb1 : c1 <= 16 := by omega
 have kb1 : k1 <= 16 := by omega
 have nab : na <= 15 := by omega
 have nbb : nb <= 65535 := by omega
 clear hK k8 b1 hr kw bc hT k7 hk bj hc ku bx;go_enter func3, ntmps3;go_wp2_with fail;refine A.o.mono ?_;rintro e w1 ⟨rfl, o1⟩;have O1 := Qa o1;clear A o1;go_wp2_with fail;refine (KA.o w1).mono ?_;rintro e w2 ⟨rfl, b5, o2⟩;have O2 := Qa (O1.o.same o2);have B2 := Qa (b5.bs 32 HT.o.2.1);clear o2 b5 O1 KA;go_wp2_with fail;refine (CX.o w2).mono ?_;rintro e w3 ⟨vx, x, rfl, hq, hx, cx, o3⟩;have b3 := Qa (BD.o w3 _ _ x hq hx (O2.o.same o3) (B2.o.past o3) cx);obtain⟨ax, kx, rfl, _⟩ := cx.len;rw[hq] at b3 ⊢;have O3 := Qa (And.intro (O2.o.same o3) hq);clear cx hq hx o3 CX O2 B2 BD;go_wp2_with fail;refine b3.o.mono ?_;rintro e w4 ⟨Z, sg, M, ls, a4, k4, a5, k5, hA, k0, hZ, rfl, bz, br, o4⟩;obtain⟨W5, ki⟩ : ∃ W, W = w4.alloc (.cells #[.int .u64 1, .slice a5 32 k5] 26) := ⟨_, rfl⟩
 have o5 : N0 w4 W5 := by rw[ki]; exact (Only.refl _ _).alloc _
 have g5 := Qa (show W5.heap[w4.heap.size]? = some (.cells #[.int .u64 1, .slice a5 32 k5] 26 (0, 0)) by rw[ki]; exact heap_alloc_new _ _);obtain⟨d2, bd⟩ : ∃ d, c1 + d = k1 := ⟨k1 - c1, by have := HT.o.2.2.2.2; omega⟩
 have hg : 0 + c < ls.length := by have := HT.o.2.2; omega
 have hf : c1 + d2 < ls.length := by have := HT.o.2.2; omega
 obtain⟨Y1, ht⟩ : ∃ Y, Y = U2 sg ls 0 c := ⟨_, rfl⟩;obtain⟨Y2, k3⟩ : ∃ Y, Y = U2 sg ls c1 d2 := ⟨_, rfl⟩;obtain⟨L1, hs⟩ : ∃ L, L = UZ ls 0 c := ⟨_, rfl⟩;obtain⟨L2, hv⟩ : ∃ L, L = UZ ls c1 d2 := ⟨_, rfl⟩;obtain⟨P1, hw⟩ : ∃ P, P = YQ ls 0 c := ⟨_, rfl⟩;obtain⟨P2, k6⟩ : ∃ P, P = YQ ls c1 d2 := ⟨_, rfl⟩;have E1 := Qa (λ(W : World) (o : N0 W5 W) => TE hA 0 c hg (.slice a4 Z.length k4) W (bz.past (o5.same o)) (by omega));have E2 := Qa (λ(W : World) (o : N0 W5 W) => TE hA c1 d2 hf (.slice a4 Z.length k4) W (bz.past (o5.same o)) (by omega));simp only[Nat.zero_add, show ((0 : Nat) : Int) = 0 from rfl, <- ht] at E1;simp only[bd, <- k3] at E2;have G1 := hA.rng hg;have G2 := hA.rng hf;rw[<- ht, <- hs, <- hw] at G1;rw[<- k3, <- hv, <- k6] at G2;have l1 := hA.len hg;have l2 := hA.len hf;rw[<- ht] at l1;rw[<- k3] at l2;have R1 := Qa (λ(W : World) (v : Value) (h : Bs .u8 W v Y1) => Hz G1 v W h (by omega));have R2 := Qa (λ(W : World) (v : Value) (h : Bs .u8 W v Y2) => Hz G2 v W h (by omega));simp only[show ((0 : Nat) : Int) = 0 from rfl] at R1;have t1 := Pf (ls := ls) (i := 0) (d := c) (by have := hA.few; omega) hg;have t2 := Pf (ls := ls) (i := c1) (d := d2) (by have := hA.few; omega) hf;rw[<- hs, <- hw, k0, show ((0 : Nat) : Int) = 0 from rfl] at t1;rw[<- hv, <- k6, k0] at t2
 have ho : L1 ++ L2 = ls := by
  rw[hs, hv];unfold UZ;rw[List.drop_zero, show c1 = c + 1 from HT.o.2.2.2.2.2, List.take_of_length_le (i := d2 + 1) (by rw[Qo]; have := HT.o.2.2; omega), List.take_append_drop]
 have L8 : R8 L1 ∧ R8 L2 := ⟨λx hx => hA.r8 x (by rw[<- ho]; exact List.mem_append_left _ hx), λx hx => hA.r8 x (by rw[<- ho]; exact List.mem_append_right _ hx)⟩;have P8 : R8 P1 ∧ R8 P2 := ⟨λx hx => ⟨by rw[hw] at hx; exact JN ls 0 c x hx, by rw[G1.sum x hx]; decide⟩, λx hx => ⟨by rw[k6] at hx; exact JN ls c1 d2 x hx, by rw[G2.sum x hx]; decide⟩⟩
 have ln : L1.length <= 1000 ∧ L2.length <= 1000 ∧ P1.length <= 64 ∧ P2.length <= 64 := by
  have := congrArg List.length ho;rw[Qc] at this;have := hA.few;exact⟨by omega, by omega, G1.few, G2.few⟩
 have V1 := Qa (λ(W : World) (vr vx vp : Value) (hr : Bs .u8 W vr (QM ls)) (rx : RL W vx L1) (rp : RL W vp P1) => RY vr (QM ls) k 0 vx vp L1 P1 (KJ ls) L8.1 P8.1 (by omega) (by omega) W hr rx rp);have V2 := Qa (λ(W : World) (vr vx vp : Value) (hr : Bs .u8 W vr (QM ls)) (rx : RL W vx L2) (rp : RL W vp P2) => RY vr (QM ls) k c1 vx vp L2 P2 (KJ ls) L8.2 P8.2 (by omega) (by omega) W hr rx rp);rw[t1] at V1;rw[t2] at V2;have HL := Qa (And.intro ho (And.intro k0 (And.intro L8 (And.intro ln hA.few))));have H5 := Qa (And.intro (br.past o5) (O3.o.1.same (o4.same o5)));clear hA k0 hZ bz br o4 o5 hg hf ht k3 hs hv hw k6 G1 G2 l1 l2 t1 t2 ho L8 P8 ln bd b3 O3;subst ki;have kt := Qa (E1.o _ (Only.refl _ _));clear E1;go_wp2_with fail;refine kt.o.mono ?_;rintro e w6 ⟨a6, c6, rfl, b6, o6⟩;have bt := Qa (E2.o _ o6);have g6 := Qa (o6.heap g5.o (λf => f));have H6 := Qa (And.intro b6 (And.intro (H5.o.1.past o6) (H5.o.2.same o6)));clear kt E2 b6 o6 g5 H5;go_wp2_with fail;refine bt.o.mono ?_;rintro e w7 ⟨a7, c7, rfl, b7, o7⟩;have g7 := Qa (o7.heap g6.o (λf => f));have b4 := Qa (R1.o w7 _ (H6.o.1.past o7));have H7 := Qa (And.intro b7 (And.intro (H6.o.2.1.past o7) (H6.o.2.2.same o7)));clear bt b7 o7 g6 H6 R1;go_wp2_with fail;refine b4.o.mono ?_;rintro e w8 ⟨ap, np, cp, ae, ne, ce, ar, nr, cr, ay, cy, aq, cq, rfl, rg⟩;obtain⟨q1, hq1⟩ : ∃ q : Value × Value × Value × Value, q = (.int .u64 M.ver, .slice ap np cp, .slice ae ne ce, .slice ar nr cr) := ⟨_, rfl⟩;obtain⟨m1, km⟩ : ∃ q, q = L1.length := ⟨_, rfl⟩;obtain⟨m2, kg⟩ : ∃ q, q = L2.length := ⟨_, rfl⟩;obtain⟨p1, kl⟩ : ∃ q, q = P1.length := ⟨_, rfl⟩;obtain⟨p2, kk⟩ : ∃ q, q = P2.length := ⟨_, rfl⟩;simp only[<- kg, <- kk] at R2;rw[<- km, <- kl] at rg ⊢;have HM := Qa (And.intro km (And.intro kg (And.intro kl kk)));obtain⟨W9, hz⟩ : ∃ W, W = w8.alloc (.cells #[.int .u64 M.ver, .slice ap np cp, .slice ae ne ce, .slice ar nr cr, .int .i64 0, .slice ay m1 cy, .slice aq p1 cq] 40) := ⟨_, rfl⟩
 have o9 : N0 w8 W9 := by rw[hz]; exact (Only.refl _ _).alloc _
 have g9 := Qa (show W9.heap[w8.heap.size]? = some (.cells #[.int .u64 M.ver, .slice ap np cp, .slice ae ne ce, .slice ar nr cr, .int .i64 0, .slice ay m1 cy, .slice aq p1 cq] 40 (0, 0)) by rw[hz]; exact heap_alloc_new _ _);have k9 := Qa (o9.heap (rg.only.heap g7.o (λf => f)) (λf => f));have H9 := Qa (And.intro ((H7.o.2.1.past rg.only).past o9) (And.intro (H7.o.2.2.same (rg.only.same o9)) (And.intro (rg.rs.past o9) (rg.rp.past o9))));have b0 := Qa (R2.o W9 _ ((H7.o.1.past rg.only).past o9));have kq := Qa hz;clear rg o9 b4 R2 H7 g7 km kg kl kk hq1 hz;go_wp2_with fail;rw[<- kq.o];refine b0.o.mono ?_;rintro e k2 ⟨bm, kp, bf, bv, bw, bu, b9, bb, kr, kh, kn, bi, kz, rfl, rg⟩;obtain⟨WB, ke⟩ : ∃ W, W = k2.alloc (.cells #[.int .u64 M.ver, .slice bm kp bf, .slice bv bw bu, .slice b9 bb kr, .int .i64 c1, .slice kh m2 kn, .slice bi p2 kz] 40) := ⟨_, rfl⟩
 have oB : N0 k2 WB := by rw[ke]; exact (Only.refl _ _).alloc _
 have gB := show WB.heap[k2.heap.size]? = some (.cells #[.int .u64 M.ver, .slice bm kp bf, .slice bv bw bu, .slice b9 bb kr, .int .i64 c1, .slice kh m2 kn, .slice bi p2 kz] 40 (0, 0)) by rw[ke]; exact heap_alloc_new _ _
 have kj := oB.heap (rg.only.heap g9.o (λf => f)) (λf => f);have ka := oB.heap (rg.only.heap k9.o (λf => f)) (λf => f);have HB := Qa (And.intro ((H9.o.1.past rg.only).past oB) (And.intro (H9.o.2.1.same (rg.only.same oB)) (And.intro ((H9.o.2.2.1.past rg.only).past oB) (And.intro ((H9.o.2.2.2.past rg.only).past oB) (And.intro (rg.rs.past oB) (rg.rp.past oB))))));have GB := Qa (And.intro ka (And.intro kj gB));obtain⟨s0, s1, _, _⟩ := QE ka;obtain⟨⟨x0, x1, x2, x3, x4, x5, x6⟩, _⟩ := WP kj;obtain⟨⟨y0, y1, y2, y3, y4, y5, y6⟩, _⟩ := WP gB;have ba := Qa (V1.o WB _ _ _ HB.o.1 HB.o.2.2.1 HB.o.2.2.2.1);clear rg oB gB kj ka g9 k9 H9 b0 V1 kq;subst ke;go_wp2_with fail;refine ba.o.mono ?_;rintro e w11 ⟨rfl, h9⟩;have h8 := h9.heap GB.o.1 (λf => f);have ha := h9.heap GB.o.2.1 (λf => f);have h7 := h9.heap GB.o.2.2 (λf => f);clear s0 s1 x0 x1 x2 x3 x4 x5 x6 y0 y1 y2 y3 y4 y5 y6;obtain⟨B1, ks⟩ : ∃ B, B = w8.heap.size := ⟨_, rfl⟩;obtain⟨B2, b2⟩ : ∃ B, B = k2.heap.size := ⟨_, rfl⟩;obtain⟨B0, bg⟩ : ∃ B, B = w4.heap.size := ⟨_, rfl⟩;rw[<- ks] at ha ⊢;rw[<- b2] at h7 ⊢;rw[<- bg] at h8 ⊢;obtain⟨s0, s1, _, _⟩ := QE h8;obtain⟨⟨x0, x1, x2, x3, x4, x5, x6⟩, _⟩ := WP ha;obtain⟨⟨y0, y1, y2, y3, y4, y5, y6⟩, _⟩ := WP h7;have HD := Qa (And.intro (HB.o.1.past h9) (And.intro (HB.o.2.1.same h9) (And.intro (HB.o.2.2.1.past h9) (And.intro (HB.o.2.2.2.2.1.past h9) (HB.o.2.2.2.2.2.past h9)))));have GD := Qa (And.intro h8 (And.intro ha h7));have kv := Qa (V2.o w11 _ _ _ HD.o.1 HD.o.2.2.2.1 HD.o.2.2.2.2);clear h8 ha h7 bg ks b2 h9 HB GB ba V2;go_wp2_with fail;refine kv.o.mono ?_;rintro e he ⟨rfl, hb⟩;have hn := hb.heap GD.o.1 (λf => f);have hl := hb.heap GD.o.2.1 (λf => f);have hm := hb.heap GD.o.2.2 (λf => f);clear s0 s1 x0 x1 x2 x3 x4 x5 x6 y0 y1 y2 y3 y4 y5 y6;have HF := Qa (And.intro (HD.o.1.past hb) (And.intro (HD.o.2.1.same hb) (And.intro (HD.o.2.2.1.past hb) (HD.o.2.2.2.1.past hb))));have GF := Qa (And.intro hn (And.intro hl hm));clear hn hl hm hb HD GD kv;go_wp2;obtain⟨N, hN⟩ : ∃ N, N = he.heap.size := ⟨_, rfl⟩;have HN := Qa hN;have S1 : Hid (LVS he N (.slice none 0 0) 0 ((L1.map LEAF).take 0) ∧ N0 he he) := ⟨⟨[], LO.nil _, World.ownsRow_nil _ _ _ _⟩, Only.refl _ _⟩;clear hN
 go_loopw [21, 22] (λlv i wr => ∃ j : Nat, j <= m1 ∧ i = .int .i64 j ∧ Hid (LVS wr N lv j ((L1.map LEAF).take j) ∧ N0 he wr)) (λ_ i _ => m1 - (intOf i).toNat)
 case atStart => exact⟨0, Nat.zero_le _, rfl, S1⟩
 case round =>
  obtain⟨j, hj, rfl, hS⟩ := hrel;clear S1;obtain⟨⟨x0, x1, x2, x3, x4, x5, x6⟩, _⟩ := WP (hS.o.2.heap GF.o.2.1 (λf => f))
  by_cases hlt : j < m1
  · have kc : decide ((j : Int) < (m1 : Int)) = true := Qe (by omega)
    have kd : decide (j < m1) = true := Qe hlt;have h6 : L1.length = m1 := HM.o.1.symm;have h5 := HF.o.2.2.1.past hS.o.2;obtain⟨bq, off, hd, ea, _⟩ := h5.form h6 (by omega)
    obtain⟨rfl, rfl⟩ : ay = some ⟨bq, off, none⟩ ∧ cy = hd := by simpa using ea
    obtain⟨u, hu, hp, kf⟩ := h5.at j (by rw[h6]; exact hlt);have A := Qa (Zm u (L1.getD j []) wr hp (HL.o.2.2.1.1.at j).1 (by have := (HL.o.2.2.1.1.at j).2; omega));obtain⟨vs, lo, ow⟩ := hS.o.1;have hbl := ow.lt
    have i1 : (0 : Int) <= (j : Int) := by omega
    have i2 : (j : Int) < (m1 : Int) := by omega
    have FZ := Qa (And.intro lo (And.intro ow (And.intro hS.o.2 (Gy (L := L1) (j := j) (by rw[h6]; exact hlt)))))
    have hmb : m1 <= 1000 := by have := HL.o.2.2.2.1; omega
    clear h5 hp kf ea hS lo ow h6;go_wp2_with fail;refine A.o.mono ?_;rintro e w4 ⟨v4, rfl, h0, o4⟩;obtain⟨a1, q1, rfl⟩ := Qm h0;have hV : VS (w4.alloc (.cells #[.slice a1 32 q1] 23)) (.slice (some ⟨w4.heap.size, 0, none⟩) 1 1) [.slice a1 32 q1] := VS.of_own (lo := w4.heap.size) (n := 1) (e := 23) (VN w4 23 [.slice a1 32 q1] (Nat.le_refl _) (show 1 <= maxLen by unfold maxLen; decide)) (λy hy => by simp at hy; subst hy; rfl);have HV := Qa (And.intro hV (And.intro ((o4.alloc (.cells #[.slice a1 32 q1] 23)).own FZ.o.2.1 (λ_ _ f => f)) (And.intro h0 o4)))
    have bs : Hid (N <= (w4.alloc (.cells #[.slice a1 32 q1] 23)).heap.size) := by
     show _ <= _
     have h1 := FZ.o.2.2.1.size;have h2 := (o4.alloc (.cells #[.slice a1 32 q1] 23)).size;have h3 := HN.o;omega
    have hh : j + 1 <= maxLen := by unfold maxLen; omega
    clear h0 o4 hV A;go_wp2_with (at_builtin; refine Kd _ rfl _ _ 38 rfl N 23 i0 NIL 24 underlying38 hi ky bp be rfl _ j vs rfl HV.o.2.1 _ [.slice a1 32 q1] rfl HV.o.1 hh (by simp only[Qi, List.length_nil]; omega) bs.o ?_);intro v' w6 own6 g6;have F := Qa (LVS.snoc HN.o FZ.o.1 FZ.o.2.1 FZ.o.2.2.1 HV.o.2.2.2 HV.o.2.2.1 own6 g6);obtain⟨a6, c6', rfl⟩ := Qm own6;clear own6 g6 HV bs hh;go_wp2
    go_roundw
    case rel => exact⟨j + 1, by omega, by go_num, by rw[FZ.o.2.2.2]; exact F.o⟩
    case measure => simp[intOf]; omega
  · obtain rfl : m1 = j := by omega
    have kc : decide ((m1 : Int) < (m1 : Int)) = false := Qb (by omega)
    have S2 : Hid (LVS wr N u21 (m1 + 0) (L1.map LEAF ++ (L2.map LEAF).take 0) ∧ N0 he wr) := by
     have h := hS.o
     have e : (L1.map LEAF).take m1 = L1.map LEAF := by rw[List.take_of_length_le (by rw[List.length_map, <- HM.o.1]; exact Nat.le_refl _)]
     rw[e] at h;rw[List.take_zero, List.append_nil, Nat.add_zero];exact h
    clear hS;go_wp2
    go_loopw [21, 23] (λlv i wr => ∃ j : Nat, j <= m2 ∧ i = .int .i64 j ∧ Hid (LVS wr N lv (m1 + j) (L1.map LEAF ++ (L2.map LEAF).take j) ∧ N0 he wr)) (λ_ i _ => m2 - (intOf i).toNat)
    case atStart => exact⟨0, Nat.zero_le _, rfl, S2⟩
    case round =>
     obtain⟨j, hj, rfl, hS⟩ := hrel;clear S2;obtain⟨⟨x0, x1, x2, x3, x4, x5, x6⟩, _⟩ := WP (hS.o.2.heap GF.o.2.2 (λf => f))
     by_cases hlt : j < m2
     · have kc : decide ((j : Int) < (m2 : Int)) = true := Qe (by omega)
       have kd : decide (j < m2) = true := Qe hlt;have h6 : L2.length = m2 := HM.o.2.1.symm;have h5 := HF.o.2.2.2.past hS.o.2;obtain⟨bq, off, hd, ea, _⟩ := h5.form h6 (by omega)
       obtain⟨rfl, rfl⟩ : kh = some ⟨bq, off, none⟩ ∧ kn = hd := by simpa using ea
       obtain⟨u, hu, hp, kf⟩ := h5.at j (by rw[h6]; exact hlt);have A := Qa (Zm u (L2.getD j []) wr hp (HL.o.2.2.1.2.at j).1 (by have := (HL.o.2.2.1.2.at j).2; omega));obtain⟨vs, lo, ow⟩ := hS.o.1;have hbl := ow.lt
       have i1 : (0 : Int) <= (j : Int) := by omega
       have i2 : (j : Int) < (m2 : Int) := by omega
       have FZ := Qa (And.intro lo (And.intro ow (And.intro hS.o.2 (Gy (L := L2) (j := j) (by rw[h6]; exact hlt)))))
       have hmb : m2 <= 1000 := by have := HL.o.2.2.2.1; omega
       have hma : m1 <= 1000 := by have := HL.o.2.2.2.1; have := HM.o; omega
       clear h5 hp kf ea hS lo ow h6;go_wp2_with fail;refine A.o.mono ?_;rintro e w4 ⟨v4, rfl, h0, o4⟩;obtain⟨a1, q1, rfl⟩ := Qm h0;have hV : VS (w4.alloc (.cells #[.slice a1 32 q1] 23)) (.slice (some ⟨w4.heap.size, 0, none⟩) 1 1) [.slice a1 32 q1] := VS.of_own (lo := w4.heap.size) (n := 1) (e := 23) (VN w4 23 [.slice a1 32 q1] (Nat.le_refl _) (show 1 <= maxLen by unfold maxLen; decide)) (λy hy => by simp at hy; subst hy; rfl);have HV := Qa (And.intro hV (And.intro ((o4.alloc (.cells #[.slice a1 32 q1] 23)).own FZ.o.2.1 (λ_ _ f => f)) (And.intro h0 o4)))
       have bs : Hid (N <= (w4.alloc (.cells #[.slice a1 32 q1] 23)).heap.size) := by
        show _ <= _
        have h1 := FZ.o.2.2.1.size;have h2 := (o4.alloc (.cells #[.slice a1 32 q1] 23)).size;have h3 := HN.o;omega
       have hh : m1 + j + 1 <= maxLen := by unfold maxLen; omega
       clear h0 o4 hV A;go_wp2_with (at_builtin; refine Kd _ rfl _ _ 38 rfl N 23 i0 NIL 24 underlying38 hi ky bp be rfl _ (m1 + j) vs rfl HV.o.2.1 _ [.slice a1 32 q1] rfl HV.o.1 hh (by simp only[Qi, List.length_nil]; omega) bs.o ?_);intro v' w6 own6 g6;have F := Qa (LVS.snoc HN.o FZ.o.1 FZ.o.2.1 FZ.o.2.2.1 HV.o.2.2.2 HV.o.2.2.1 own6 g6);obtain⟨a6, c6', rfl⟩ := Qm own6;clear own6 g6 HV bs hh;go_wp2
       go_roundw
       case rel => exact⟨j + 1, by omega, by go_num, by rw[FZ.o.2.2.2, <- List.append_assoc]; exact F.o⟩
       case measure => simp[intOf]; omega
     · obtain rfl : m2 = j := by omega
       have kc : decide ((m2 : Int) < (m2 : Int)) = false := Qb (by omega);obtain⟨vs, lo, ow⟩ := hS.o.1
       have e : L1.map LEAF ++ (L2.map LEAF).take m2 = ls.map LEAF := by rw[List.take_of_length_le (by rw[List.length_map, <- HM.o.2.1]; exact Nat.le_refl _), <- List.map_append, HL.o.1]
       have hk : m1 + m2 = k := by
        have h1 := congrArg List.length HL.o.1;rw[Qc] at h1;have h2 := HL.o.2.1;have h3 := HM.o;omega
       rw[e] at lo;rw[hk] at ow;obtain⟨a7, c7, rfl⟩ := Qm ow
       have bo : vs.length = k := by have := ow.1; omega
       have h5 := (lo.rl (by rw[bo]; exact ow)).1;have RT := Qa (λ(W : World) (o : N0 wr W) => GY (ls.map LEAF) (.slice a7 k c7) W (by rw[List.length_map, HL.o.2.1]; omega) (KE ls) (h5.past o));have TS := Qa (λ(W : World) (v : Value) (h : Bs .u8 W v (QB (ls.map LEAF))) (o : N0 wr W) => wT v (.slice a5 32 k5) (QM ls) W h (HF.o.1.past (hS.o.2.same o)) (by rw[UM]; decide));have KS := Qa (λ(W : World) (o : N0 wr W) => (QE ((hS.o.2.same o).heap GF.o.1 (λf => f))).2.1);have FO := Qa (HF.o.2.1.same hS.o.2);have CR : Hid (N0 wr wr.drew) := (Only.refl _ _).drew
       have dk : ((k : Int) == (k : Int)) = true := by simp
       clear hS lo ow h5 e bo;go_wp2_with fail
       go_region_held3 (λW => W.cell? ⟨B0, 1, none⟩ = some (.slice a5 32 k5)) (first | assumption | exact KS.o _ CR.o) (first
        | (go_at_call 13; refine (RT.o _ CR.o).mono ?_; rintro e w13 ⟨v13, rfl, h4, ko⟩; have CR := Qa (CR.o.same ko); have B13 := Qa (Bs.of_own (k := .u8) (E := 5) h4); (obtain⟨a13, c13, rfl⟩ := Qm h4); clear h4 ko RT)
        | (go_at_call 12; refine (TS.o _ _ B13.o CR.o).mono ?_; rintro e w14 ⟨rfl, bn⟩; have CR := Qa (CR.o.same bn); clear bn TS))
       all_goals
        go_wp2;go_ret;exact⟨rfl, FO.o.same CR.o⟩
theorem Cv (s a b : Int) (w : World) (hT : Tab w) : Calls prog 3 #[.int .i64 s, .int .i64 a, .int .i64 b] w λe w' => e = .returned (.bool true) ∧ Below w.heap.size w w' := FU (Cl s a b w hT)
end Go.Proofs.YtoflhbghdlaeaaaGreatDoor
