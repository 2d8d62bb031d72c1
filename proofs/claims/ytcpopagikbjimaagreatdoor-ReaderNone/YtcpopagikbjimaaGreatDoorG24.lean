import Derived.Test.YtcpopagikbjimaaGreatDoorG23
namespace Go.Proofs.YtcpopagikbjimaaGreatDoor
set_option maxHeartbeats 4000000
set_option maxRecDepth 100000
open Go.RowKit
theorem Qbn (p : Int) (a : Option Addr) (n c : Nat) (w : World) : Calls Tryz.prog 28 #[.agg #[.int .u64 p,.slice a n c]] w fun e w' => e = .returned (.bool (decide (0 < n))) ∧ Only (fun _ => False) w w':=by
 have d : decide ((0 : Int) < (n : Int)) = decide (0 < n):=by simp
 go_enter Tryz.func28,Tryz.ntmps28;go_wp2;go_ret;exact ⟨rfl,(Only.refl _ _).alloc _⟩
theorem QeY (p : Int) (w : World) : Calls Tryz.prog 14 #[.agg #[.int .u64 p,.slice none 0 0]] w fun e w' => e = .returned (.bool true) ∧ Only (fun _ => False) w w':=by
 have A:=Qaa (Qbn p none 0 0 (w.alloc (.cells #[.int .u64 p,.slice none 0 0] 28)));rw [show decide (0 < 0) = false from rfl] at A;go_enter Tryz.func14,Tryz.ntmps14;go_wp2_with fail;refine A.out.mono ?_;rintro e w1 ⟨rfl,o1⟩;have F:=Qaa (((Only.refl (fun _ => False) w).alloc (.cells #[.int .u64 p,.slice none 0 0] 28)).same o1);clear A o1;go_wp2;go_ret;exact ⟨rfl,F.out⟩
theorem Qdw (v : Value) (xs : List Int) (w : World) (hb : Bs .u8 w v xs) (hl : xs.length ≤ 1000000) : Calls Tryz.prog 15 #[v] w fun e w' => e = .returned (.slice (some ⟨w.heap.size,0,none⟩) xs.length xs.length) ∧ Blk w' w.heap.size 5 (bl xs) ∧ Only (fun _ => False) w w':=by
 obtain ⟨wm,hmk,hbk,om⟩:=QhD w xs.length (by omega);have hb2:=hb.past om;obtain ⟨co,bc,rfl⟩:=hb.len
 have hs : 0 < xs.length → ∃ ad,co = some ad ∧ ∀ j v,(bl xs)[j]? = some v → wm.cell? (ad.add j) = some v:=fun h0 => by
  obtain ⟨b,off,cap,e,_⟩:=hb2.at 0 h0;refine ⟨⟨b,off,none⟩,by cases e;rfl,fun j v hv => ?_⟩
  have hj : j < xs.length:=by have:=(List.getElem?_eq_some_iff.1 hv).1;rwa [Qah] at this
  obtain ⟨b2,off2,cap2,e2,hc2⟩:=hb2.at j hj
  cases e;cases e2
  rw [bl_at _ _ hj] at hv
  cases hv
  rw [Go.WideShapes.add_plain];exact hc2
 obtain ⟨w2,hcp,hb3,o3⟩:=Qi1 wm w.heap.size xs.length bc co xs rfl hbk hs;obtain ⟨N,hN⟩ : ∃ N,N = w.heap.size:=⟨_,rfl⟩;obtain ⟨n,hn⟩ : ∃ n,n = xs.length:=⟨_,rfl⟩;rw [← hN,← hn] at hmk hcp;rw [← hN] at hb3 o3;rw [← hN,← hn];have F:=Qaa (And.intro hb3 (om.trans o3 (fun k hk e => by omega)));clear hb hb2 hs hb3 o3 om hbk hN hn;go_enter Tryz.func15,Tryz.ntmps15;go_wp2;go_ret;exact ⟨rfl,F.out⟩
theorem QeZ (p : Int) (w : World) : Calls Tryz.prog 16 #[.agg #[.int .u64 p,.slice none 0 0]] w fun e w' => e = .returned (.agg #[.int .u64 0,.slice none 0 0]) ∧ Only (fun _ => False) w w':=by
 have A:=Qaa (fun W => Qbn p none 0 0 W);simp only [show decide (0 < 0) = false from rfl] at A;obtain ⟨N,hN⟩ : ∃ N,N = w.heap.size + 1:=⟨_,rfl⟩;go_enter Tryz.func16,Tryz.ntmps16;go_wp2_with fail;rw [← hN];refine (A.out _).mono ?_;rintro e w1 ⟨rfl,o1⟩;have g1 : w1.heap[N]? = some (.cells #[.int .u64 0,.slice none 0 0] 28 (0,0)):=o1.heap (by rw [hN];exact Qak (by simp)) (fun f => f);obtain ⟨c0,c1,f0,f1⟩:=Qas g1;have HG:=Qaa g1;have F:=Qaa ((((Only.refl (fun _ => False) w).alloc (.cells #[.int .u64 p,.slice none 0 0] 28)).alloc (.cells #[.int .u64 0,.slice none 0 0] 28)).same o1)
 have hsz : Hid (w.heap.size ≤ N):=by show _ ≤ _;omega
 clear A o1 g1 hN;go_wp2;refine bodyPost_ret (results_cell_row rfl _ _ N 28 _ (0,0) _ rfl (QaG _ _ HG.out) Tryz.underlying28 rfl Tryz.sizeStt) rfl ⟨rfl,(F.out.setCell (p:=⟨N,0,none⟩) (fun h => absurd h (by have:=hsz.out;simp only;omega)) _).setCell (p:=⟨N,1,none⟩) (fun h => absurd h (by have:=hsz.out;simp only;omega)) _⟩
theorem Qc5 (p : Nat) (v : Value) (xs : List Int) (w : World) (hb : Bs .u8 w v xs) (hl : xs.length = 32) : Calls Tryz.prog 16 #[.agg #[.int .u64 p,v]] w fun e w' => ∃ u,e = .returned (.agg #[.int .u64 p,.slice (some ⟨u,0,none⟩) 32 32]) ∧ Blk w' u 5 (bl xs) ∧ w.heap.size ≤ u ∧ Only (fun _ => False) w w':=by
 obtain ⟨a,c,rfl⟩:=hb.len;have A:=Qaa (fun W => Qbn p a xs.length c W);simp only [hl,show decide (0 < 32) = true from rfl] at A;have OB:=Qaa (fun (W : World) (o : Only (fun _ => False) w W) => Qdw _ xs W (hb.past o) (by omega));rw [hl];simp only [hl] at OB;obtain ⟨N,hN⟩ : ∃ N,N = w.heap.size + 1:=⟨_,rfl⟩;obtain ⟨M,hM⟩ : ∃ M,M = w.heap.size:=⟨_,rfl⟩;clear hb hl;go_enter Tryz.func16,Tryz.ntmps16;go_wp2_with fail;rw [← hN,← hM];refine (A.out _).mono ?_;rintro e w1 ⟨rfl,o1⟩;have g1 : w1.heap[N]? = some (.cells #[.int .u64 0,.slice none 0 0] 28 (0,0)):=o1.heap (by rw [hN];exact Qak (by simp)) (fun f => f);have g0 : w1.heap[M]? = some (.cells #[.int .u64 p,.slice a 32 c] 28 (0,0)):=o1.heap (by rw [hM];exact Qaf (heap_alloc_new _ _)) (fun f => f);have o01:=(((Only.refl (fun _ => False) w).alloc (.cells #[.int .u64 p,.slice a 32 c] 28)).alloc (.cells #[.int .u64 0,.slice none 0 0] 28)).same o1;obtain ⟨c0,c1,_,_⟩:=Qas g0;have B:=Qaa (OB.out w1 o01);have H:=Qaa (And.intro g0 (And.intro g1 (And.intro o01 (And.intro hN hM))));clear A o1 g0 g1 o01 OB hN hM;go_wp2_with fail;refine B.out.mono ?_;rintro e w2 ⟨rfl,hb2,o2⟩;have g0:=o2.heap H.out.1 (fun f => f);have g1:=o2.heap H.out.2.1 (fun f => f);obtain ⟨c0,c1,f0,f1⟩:=Qas g0;obtain ⟨d0,d1,e0,e1⟩:=Qas g1;obtain ⟨U,hU⟩ : ∃ U,U = w1.heap.size:=⟨_,rfl⟩;rw [← hU] at hb2 ⊢;have hz:=H.out.2.2.1.size;have hN:=H.out.2.2.2.1;have hM:=H.out.2.2.2.2
 have hNM : ¬ N = M:=by omega
 have hMN : ¬ M = N:=by omega
 have g2:=heap_setCell_same w2 M 1 _ _ (.slice (some ⟨U,0,none⟩) 32 32) g0
 have hUN : N < U:=by have:=(Array.getElem?_eq_some_iff.1 H.out.2.1).1;omega
 have P:=Qaa (And.intro hb2 (And.intro (H.out.2.2.1.same o2) (And.intro g1 (And.intro hN (And.intro hM (And.intro hUN (show w.heap.size ≤ U by omega)))))));clear hb2 o2 g0 g1 g2 hz hN hM hU H B hUN;go_wp2
 have oA : Only (fun k => k = M ∨ k = N) w2 (((w2.setCell ⟨M,1,none⟩ (.slice (some ⟨U,0,none⟩) 32 32)).setCell ⟨N,0,none⟩ (.int .u64 p)).setCell ⟨N,1,none⟩ (.slice (some ⟨U,0,none⟩) 32 32)) :=
  (((Only.refl (fun k => k = M ∨ k = N) w2).setCell (p:=⟨M,1,none⟩) (fun _ => .inl rfl) _).setCell (p:=⟨N,0,none⟩) (fun _ => .inr rfl) _).setCell (p:=⟨N,1,none⟩) (fun _ => .inr rfl) _
 obtain ⟨q1,q2,q3,q4,q5,q6,q7⟩:=P.out;have gN : (w2.setCell ⟨M,1,none⟩ (.slice (some ⟨U,0,none⟩) 32 32)).heap[N]? = some (.cells #[.int .u64 0,.slice none 0 0] 28 (0,0)):=((Only.refl (fun k => k = M) w2).setCell (p:=⟨M,1,none⟩) (fun _ => rfl) _).heap q3 (fun e => hNM e);refine bodyPost_ret (results_cell_row rfl _ _ N 28 _ (0,0) _ rfl (QaG _ _ gN) Tryz.underlying28 rfl Tryz.sizeStt) rfl ⟨U,rfl,q1.keep oA (fun e => by omega),q7,q2.trans oA (fun k hk e => by omega)⟩
def RDN (w : World) (RB : Nat) (key : List Int) (ver : Nat) (root : List Int) (tk rf : Int) : Prop:=∃ (kb : Nat) (vr : Value),
 w.heap[RB]? = some (.cells #[.slice (some ⟨kb,0,none⟩) 32 32,.int .u64 ver,vr,.int .i64 tk,.int .i64 rf] 30 (0,0)) ∧ Blk w kb 5 (bl key) ∧ Bs .u8 w vr root
theorem RDN.past {w w' : World} {RB ver : Nat} {key root : List Int} {tk rf : Int} (h : RDN w RB key ver root tk rf) (o : Only (fun _ => False) w w') : RDN w' RB key ver root tk rf:=by
 obtain ⟨kb,vr,h1,h2,h3⟩:=h;exact ⟨kb,vr,o.heap h1 (fun f => f),h2.past o,h3.past o⟩
theorem QcM {w : World} {g : Nat} {a b c d e : Value} {t : TypeId} (h : w.heap[g]? = some (.cells #[a,b,c,d,e] t (0,0))) : (w.cell? ⟨g,0,none⟩ = some a ∧ w.cell? ⟨g,1,none⟩ = some b ∧ w.cell? ⟨g,2,none⟩ = some c ∧ w.cell? ⟨g,3,none⟩ = some d ∧ w.cell? ⟨g,4,none⟩ = some e) ∧ ∀ j,w.frozen? ⟨g,j,none⟩ = false:=by
 refine ⟨⟨?_,?_,?_,?_,?_⟩,fun j => frozen_of_row w g j _ t h⟩ <;> (rw [cell_of_row w g _ _ t _ h];rfl)
theorem Qdv {w : World} {RB ver : Nat} {key root : List Int} {tk rf : Int} (h : RDN w RB key ver root tk rf) : Calls Tryz.prog 12 #[.pointer (some ⟨RB,0,none⟩)] w fun e w' => e = .returned (.bool true) ∧ w = w':=by
 obtain ⟨kb,vr,h1,h2,h3⟩:=h;obtain ⟨⟨c0,_,_,_,_⟩,_⟩:=QcM h1;clear h1 h2 h3;go_enter Tryz.func12,Tryz.ntmps12;go_wp2;go_ret;exact ⟨rfl,rfl⟩
theorem QiJ (v : Value) (m : List Int) (w : World) (bm : Bs .u8 w v m) (hm : m.length = 32) : Calls Tryz.prog 8 #[v,.agg #[.int .u64 0,.slice none 0 0]] w fun e w' => ∃ RB,e = .returned (.tuple #[.pointer (some ⟨RB,0,none⟩),.int .i64 0]) ∧ RDN w' RB m 0 [] 0 0 ∧ w.heap.size ≤ RB ∧ Only (fun _ => False) w w':=by
 obtain ⟨a,c,rfl⟩:=bm.len;have R:=Qaa (fun W => QeY 0 W);have OS:=Qaa (fun W => QeZ 0 W);have OB:=Qaa (fun (W : World) (o : Only (fun _ => False) w W) => Qdw _ m W (bm.past o) (by omega));rw [hm];simp only [hm] at OB;clear bm hm;obtain ⟨M,hM⟩ : ∃ M,M = w.heap.size:=⟨_,rfl⟩;go_enter Tryz.func8,Tryz.ntmps8;go_wp2_with fail;rw [← hM];refine (R.out _).mono ?_;rintro e w1 ⟨rfl,o1⟩;have g0 : w1.heap[M]? = some (.cells #[.int .u64 0,.slice none 0 0] 28 (0,0)):=o1.heap (by rw [hM];exact heap_alloc_new _ _) (fun f => f);obtain ⟨c0,c1,_,_⟩:=Qas g0;have O1:=Qaa (((Only.refl (fun _ => False) w).alloc (.cells #[.int .u64 0,.slice none 0 0] 28)).same o1);have G0:=Qaa g0;clear R o1 g0 hM;go_wp2_with fail;have KS:=Qaa (fun (W : World) (o : Only (fun _ => False) w1 W) => (show W.cell? ⟨M,0,none⟩ = some (.int .u64 0) ∧ W.cell? ⟨M,1,none⟩ = some (.slice none 0 0) from have h:=Qas (o.heap G0.out (fun f => f));⟨h.1,h.2.1⟩));have CR : Hid (Only (fun _ => False) w1 w1.drew):=(Only.refl _ _).drew
 go_region_held3 (fun W' => W'.cell? ⟨M,0,none⟩ = some (.int .u64 0) ∧ W'.cell? ⟨M,1,none⟩ = some (.slice none 0 0))
  (first | assumption | exact KS.out _ CR.out | exact KS.out _ (CR.out.alloc _))
  (first | (go_at_call 15;refine (OB.out _ (O1.out.same CR.out)).mono ?_;rintro e w4 ⟨rfl,hb4,o4⟩;have CR:=Qaa (CR.out.same o4);have KB:=Qaa hb4;clear hb4 o4) | (go_at_call 16;refine (OS.out _).mono ?_;rintro e w5 ⟨rfl,o5⟩;have CR:=Qaa (CR.out.same o5);(first | have KB:=Qaa (KB.out.past o5) | skip);clear o5))
 all_goals
  go_wp2;go_ret2;exact ⟨_,rfl,⟨_,_,heap_alloc_new _ _,KB.out.past ((Only.refl _ _).alloc _),Bs.nil _ _⟩,by have:=(O1.out.same CR.out).size;simpa using this,O1.out.same (CR.out.alloc _)⟩
theorem Qha {w : World} {RB ver : Nat} {key root : List Int} {tk rf : Int} (h : RDN w RB key ver root tk rf) (hr : root.length = 32) : Calls Tryz.prog 9 #[.pointer (some ⟨RB,0,none⟩)] w fun e w' => ∃ u,e = .returned (.agg #[.int .u64 ver,.slice (some ⟨u,0,none⟩) 32 32]) ∧ Blk w' u 5 (bl root) ∧ w.heap.size ≤ u ∧ Only (fun _ => False) w w':=by
 have MA:=Qaa (fun (W : World) (o : Only (fun _ => False) w W) => Qdv (h.past o));obtain ⟨kb,vr,h1,h2,h3⟩:=h;obtain ⟨a,c,rfl⟩:=h3.len;have OS:=Qaa (fun (W : World) (o : Only (fun _ => False) w W) => Qc5 ver _ root W (h3.past o) hr);rw [hr] at h1;simp only [hr] at OS;obtain ⟨N,hN⟩ : ∃ N,N = w.heap.size:=⟨_,rfl⟩;obtain ⟨W1,hW1⟩ : ∃ W,W = w.alloc (.cells #[.int .u64 0,.slice none 0 0] 28):=⟨_,rfl⟩
 have o1 : Only (fun _ => False) w W1:=by rw [hW1];exact (Only.refl _ _).alloc _
 have g1 : W1.heap[N]? = some (.cells #[.int .u64 0,.slice none 0 0] 28 (0,0)):=by rw [hW1,hN];exact heap_alloc_new _ _
 obtain ⟨⟨_,c1,c2,_,_⟩,_⟩:=QcM (o1.heap h1 (fun f => f));have MA1:=Qaa (MA.out W1 o1);have OS1:=Qaa (OS.out W1 o1);have H:=Qaa (And.intro o1 (And.intro g1 hN));have HW:=Qaa hW1;clear MA OS h1 h2 h3 hr o1 g1 hW1;go_enter Tryz.func9,Tryz.ntmps9;go_wp2_with fail;rw [← HW.out,← hN];clear hN HW;refine MA1.out.mono ?_;rintro e w2 ⟨rfl,rfl⟩;clear MA1;go_wp2_with fail;refine OS1.out.mono ?_;rintro e w3 ⟨u,rfl,hb,hu,o3⟩;have g3:=o3.heap H.out.2.1 (fun f => f);obtain ⟨d0,d1,e0,e1⟩:=Qas g3;have P:=Qaa (And.intro hb (And.intro (H.out.1.same o3) (And.intro g3 (And.intro hu H.out.2.2))))
 have hNu : N < u:=by have:=(Array.getElem?_eq_some_iff.1 H.out.2.1).1;omega
 clear OS1 hb hu o3 g3 H;go_wp2;obtain ⟨q1,q2,q3,q4,q5⟩:=P.out;have oA : Only (fun k => k = N) w3 ((w3.setCell ⟨N,0,none⟩ (.int .u64 ver)).setCell ⟨N,1,none⟩ (.slice (some ⟨u,0,none⟩) 32 32)):=((Only.refl (fun k => k = N) w3).setCell (p:=⟨N,0,none⟩) (fun _ => rfl) _).setCell (p:=⟨N,1,none⟩) (fun _ => rfl) _;refine bodyPost_ret (results_cell_row rfl _ _ N 28 _ (0,0) _ rfl (QaG _ _ q3) Tryz.underlying28 rfl Tryz.sizeStt) rfl ⟨u,rfl,q1.keep oA (fun e => by omega),by omega,q2.trans oA (fun k hk e => by omega)⟩
theorem RDN.keepL {w : World} {RB kb u ver N : Nat} {key root : List Int} {tk rf : Int} (h1 : w.heap[RB]? = some (.cells #[.slice (some ⟨kb,0,none⟩) 32 32,.int .u64 ver,.slice (some ⟨u,0,none⟩) 32 32,.int .i64 tk,.int .i64 rf] 30 (0,0))) (h2 : Blk w kb 5 (bl key)) (h3 : Blk w u 5 (bl root)) (hr : root.length = 32) (n1 : N ≤ RB) (n2 : N ≤ kb) (n3 : N ≤ u) :
  RDN w RB key ver root tk rf ∧ ∀ W,Only (fun k => k < N) w W → RDN W RB key ver root tk rf:=by
 have G : ∀ W,Only (fun k => k < N) w W → RDN W RB key ver root tk rf:=fun W o => ⟨kb,_,o.heap h1 (by omega),h2.keep o (by omega),(h3.keep o (by omega)).bs 32 hr⟩
 exact ⟨G w (Only.refl _ _),G⟩
theorem QeV (p : Int) (a : Option Addr) (c : Nat) (w : World) : Calls Tryz.prog 14 #[.agg #[.int .u64 p,.slice a 32 c]] w fun e w' => e = .returned (.bool true) ∧ Only (fun _ => False) w w':=by
 have g0:=heap_alloc_new w (.cells #[.int .u64 p,.slice a 32 c] 28);have A:=Qaa (Qbn p a 32 c (w.alloc (.cells #[.int .u64 p,.slice a 32 c] 28)));rw [show decide (0 < 32) = true from rfl] at A;go_enter Tryz.func14,Tryz.ntmps14;go_wp2_with fail;refine A.out.mono ?_;rintro e w1 ⟨rfl,o1⟩;obtain ⟨c0,c1,_,_⟩:=Qas (o1.heap g0 (fun f => f));have F:=Qaa (((Only.refl (fun _ => False) w).alloc (.cells #[.int .u64 p,.slice a 32 c] 28)).same o1);clear A o1 g0;go_wp2;go_ret;exact ⟨rfl,F.out⟩
theorem Qhb (v v2 : Value) (m r : List Int) (p : Nat) (w : World) (bm : Bs .u8 w v m) (hm : m.length = 32) (br : Bs .u8 w v2 r) (hr : r.length = 32) : Calls Tryz.prog 8 #[v,.agg #[.int .u64 p,v2]] w fun e w' => ∃ RB,e = .returned (.tuple #[.pointer (some ⟨RB,0,none⟩),.int .i64 0]) ∧ RDN w' RB m p r 0 0 ∧ w.heap.size ≤ RB ∧ Only (fun _ => False) w w' ∧ ∀ W,Only (fun k => k < w.heap.size) w' W → RDN W RB m p r 0 0:=by
 obtain ⟨a,c,rfl⟩:=bm.len;obtain ⟨ar,cr,rfl⟩:=br.len;have R:=Qaa (fun W => QeV p ar cr W);have OS:=Qaa (fun (W : World) (o : Only (fun _ => False) w W) => Qc5 p _ r W (br.past o) hr);have OB:=Qaa (fun (W : World) (o : Only (fun _ => False) w W) => Qdw _ m W (bm.past o) (by omega));rw [hm,hr];simp only [hm] at OB;simp only [hr] at OS;have hr0:=hr;clear bm hm br hr;obtain ⟨M,hM⟩ : ∃ M,M = w.heap.size:=⟨_,rfl⟩;go_enter Tryz.func8,Tryz.ntmps8;go_wp2_with fail;rw [← hM];refine (R.out _).mono ?_;rintro e w1 ⟨rfl,o1⟩;have g0 : w1.heap[M]? = some (.cells #[.int .u64 p,.slice ar 32 cr] 28 (0,0)):=o1.heap (by rw [hM];exact heap_alloc_new _ _) (fun f => f);obtain ⟨c0,c1,_,_⟩:=Qas g0;have O1:=Qaa (((Only.refl (fun _ => False) w).alloc (.cells #[.int .u64 p,.slice ar 32 cr] 28)).same o1);have G0:=Qaa g0;clear R o1 g0 hM;go_wp2_with fail;have KS:=Qaa (fun (W : World) (o : Only (fun _ => False) w1 W) => (show W.cell? ⟨M,0,none⟩ = some (.int .u64 p) ∧ W.cell? ⟨M,1,none⟩ = some (.slice ar 32 cr) from have h:=Qas (o.heap G0.out (fun f => f));⟨h.1,h.2.1⟩));have CR : Hid (Only (fun _ => False) w1 w1.drew):=(Only.refl _ _).drew
 go_region_held3 (fun W' => W'.cell? ⟨M,0,none⟩ = some (.int .u64 p) ∧ W'.cell? ⟨M,1,none⟩ = some (.slice ar 32 cr))
  (first | assumption | exact KS.out _ CR.out | exact KS.out _ (CR.out.alloc _))
  (first | (go_at_call 15;refine (OB.out _ (O1.out.same CR.out)).mono ?_;rintro e w4 ⟨rfl,hb4,o4⟩;have KL:=Qaa ((O1.out.same CR.out).size);have CR:=Qaa (CR.out.same o4);have KB:=Qaa hb4;(first | have SB:=Qaa (SB.out.past o4) | skip);clear hb4 o4) | (go_at_call 16;refine (OS.out _ (O1.out.same CR.out)).mono ?_;rintro e w5 ⟨u5,rfl,hb5,hu5,o5⟩;have SL:=Qaa (Nat.le_trans (O1.out.same CR.out).size hu5);have CR:=Qaa (CR.out.same o5);have SB:=Qaa hb5;(first | have KB:=Qaa (KB.out.past o5) | skip);clear o5 hb5 hu5))
 all_goals
  go_wp2;go_ret2;have hsz:=(O1.out.same CR.out).size;obtain ⟨hA,hB⟩:=RDN.keepL (N:=w.heap.size) (heap_alloc_new _ _) (KB.out.past ((Only.refl _ _).alloc _)) (SB.out.past ((Only.refl _ _).alloc _)) hr0 (by simpa using hsz) KL.out SL.out;exact ⟨_,rfl,hA,by simpa using hsz,O1.out.same (CR.out.alloc _),hB⟩
theorem QeW {w : World} {RB ver : Nat} {key root : List Int} {tk rf : Int} (h : RDN w RB key ver root tk rf) : Calls Tryz.prog 7 #[.pointer (some ⟨RB,0,none⟩)] w fun e w' => e = .returned (.tuple #[.int .i64 tk,.int .i64 rf]) ∧ Only (fun _ => False) w w':=by
 have MA:=Qaa (Qdv h);obtain ⟨kb,vr,h1,h2,h3⟩:=h;obtain ⟨⟨c0,c1,c2,c3,c4⟩,_⟩:=QcM h1;clear h1 h2 h3;go_enter Tryz.func7,Tryz.ntmps7;go_wp2_with fail;refine MA.out.mono ?_;rintro e w1 ⟨rfl,rfl⟩;clear MA;go_wp2_with fail;go_quiet (fail);go_wp2;go_ret2;exact ⟨rfl,by first | exact Only.refl _ _ | exact (Only.refl _ _).drewN _⟩
def UNM (p : Value) (w : World) : Prop:=∀ W,Only (fun _ => False) w W → Calls Tryz.prog 12 #[p] W fun e w' => e = .returned (.bool false) ∧ W = w'
theorem UNM.past {p : Value} {w w' : World} (h : UNM p w) (o : Only (fun _ => False) w w') : UNM p w':=fun W o2 => h W (o.same o2)
theorem QeX (w : World) : UNM (.pointer none) w:=by
 intro W _;go_enter Tryz.func12,Tryz.ntmps12;go_wp2;go_ret;exact ⟨rfl,rfl⟩
theorem Qhc {w : World} {RB : Nat} {a b c d : Value} (h : w.heap[RB]? = some (.cells #[.slice none 0 0,a,b,c,d] 30 (0,0))) : UNM (.pointer (some ⟨RB,0,none⟩)) w:=by
 intro W o;obtain ⟨⟨c0,_,_,_,_⟩,_⟩:=QcM (o.heap h (fun f => f));clear h o;go_enter Tryz.func12,Tryz.ntmps12;go_wp2;go_ret;exact ⟨rfl,rfl⟩
theorem Qjw (p vb : Value) (w : World) (h : UNM p w) : Calls Tryz.prog 6 #[p,vb] w fun e w' => e = .returned (.tuple #[.slice none 0 0,.int .i64 1]) ∧ Only (fun _ => False) w w':=by
 have MA:=Qaa (h w (Only.refl _ _));clear h;go_enter Tryz.func6,Tryz.ntmps6;go_wp2_with fail;refine MA.out.mono ?_;rintro e w1 ⟨rfl,rfl⟩;clear MA;go_wp2;go_ret2;exact ⟨rfl,by first | exact Only.refl _ _ | exact (Only.refl _ _).drew⟩
theorem Qhd (p : Value) (w : World) (h : UNM p w) : Calls Tryz.prog 7 #[p] w fun e w' => e = .returned (.tuple #[.int .i64 0,.int .i64 0]) ∧ Only (fun _ => False) w w':=by
 have MA:=Qaa (h w (Only.refl _ _));clear h;go_enter Tryz.func7,Tryz.ntmps7;go_wp2_with fail;refine MA.out.mono ?_;rintro e w1 ⟨rfl,rfl⟩;clear MA;go_wp2;go_ret2;exact ⟨rfl,by first | exact Only.refl _ _ | exact (Only.refl _ _).drew⟩
theorem Qjx (p : Value) (w : World) (h : UNM p w) : Calls Tryz.prog 9 #[p] w fun e w' => e = .returned (.agg #[.int .u64 0,.slice none 0 0]) ∧ Only (fun _ => False) w w':=by
 obtain ⟨N,hN⟩ : ∃ N,N = w.heap.size:=⟨_,rfl⟩;obtain ⟨W1,hW1⟩ : ∃ W,W = w.alloc (.cells #[.int .u64 0,.slice none 0 0] 28):=⟨_,rfl⟩
 have o1 : Only (fun _ => False) w W1:=by rw [hW1];exact (Only.refl _ _).alloc _
 have g1 : W1.heap[N]? = some (.cells #[.int .u64 0,.slice none 0 0] 28 (0,0)):=by rw [hW1,hN];exact heap_alloc_new _ _
 have MA:=Qaa (h W1 o1);obtain ⟨d0,d1,e0,e1⟩:=Qas g1;have oA : Only (fun k => k = N) W1 ((W1.setCell ⟨N,0,none⟩ (.int .u64 0)).setCell ⟨N,1,none⟩ (.slice none 0 0)):=((Only.refl (fun k => k = N) W1).setCell (p:=⟨N,0,none⟩) (fun _ => rfl) _).setCell (p:=⟨N,1,none⟩) (fun _ => rfl) _;have P:=Qaa (And.intro (QaG (.int .u64 0) (.slice none 0 0) g1) (o1.trans oA (fun k hk e => by omega)));have HW:=Qaa hW1;clear h o1 g1 oA hW1;go_enter Tryz.func9,Tryz.ntmps9;go_wp2_with fail;rw [← HW.out,← hN];clear hN HW;refine MA.out.mono ?_;rintro e w1 ⟨rfl,rfl⟩;clear MA;go_wp2;refine bodyPost_ret (results_cell_row rfl _ _ N 28 _ (0,0) _ rfl P.out.1 Tryz.underlying28 rfl Tryz.sizeStt) rfl ⟨rfl,P.out.2⟩
def part (a q : Nat) (l : List Bool) (n k : Nat) : List Int:=nums a q l k ++ List.replicate (n - k) 0
section
open Go.Maps
def RB (many n : Nat) (rest : List Int) : List Int × Int :=
 if rest.length < 8 * many then ([],2) else
 if (Qdb (rest.drop (8 * many))).length < n * wP many then ([],2) else
 if ∃ p ∈ rdP (wP many) n (Qdb (rest.drop (8 * many))),many ≤ p then ([],3) else
 ((rdP (wP many) n (Qdb (rest.drop (8 * many)))).map (fun p => (rd8 many rest).getD p 0),0)
end
theorem QaF {w w' : World} {q : Addr} {u : Value} (h : w.cell? q = some u) {S : Nat → Prop} (o : Only S w w') (hs : ¬ S q.block) : w'.cell? q = some u:=by
 rw [← h];exact World.cell?_of_block (o.block _ (World.block_lt_of_cell? w _ h) hs)
structure OffB (w : World) (B : Nat) : Prop where
 u8 : ∀ j x,w.cell? ⟨B,j,none⟩ ≠ some (.int .u8 x)
 st : ∀ j t,w.cell? ⟨B,j,none⟩ ≠ some (.string t)
 sm : ∀ j x y,w.cell? ⟨B,j,none⟩ = some (.int .i64 x) → w.cell? ⟨B,j + 1,none⟩ ≠ some (.int .u64 y)
theorem OffB.rd {w : World} {B kb ver rn cr : Nat} {ar : Option Addr} {tk rf : Int} {t : TypeId} (hh : w.heap[B]? = some (.cells #[.slice (some ⟨kb,0,none⟩) 32 32,.int .u64 ver,.slice ar rn cr,.int .i64 tk,.int .i64 rf] t (0,0))) : OffB w B:=by
 refine ⟨fun j x hc => ?_,fun j x hc => ?_,fun j x y hc hd => ?_⟩
 ·rw [cell_of_row w B j _ _ _ hh] at hc
  rcases j with _ | _ | _ | _ | _ | j <;> simp at hc
 ·rw [cell_of_row w B j _ _ _ hh] at hc
  rcases j with _ | _ | _ | _ | _ | j <;> simp at hc
 ·rw [cell_of_row w B _ _ _ _ hh] at hc hd
  rcases j with _ | _ | _ | _ | _ | j <;> simp at hc hd
theorem OffB.stt {w : World} {B : Nat} {x : Int} {a : Option Addr} {n c : Nat} {t : TypeId} (hh : w.heap[B]? = some (.cells #[.int .u64 x,.slice a n c] t (0,0))) : OffB w B:=by
 refine ⟨fun j x hc => ?_,fun j x hc => ?_,fun j x y hc hd => ?_⟩
 ·rw [cell_of_row w B j _ _ _ hh] at hc
  rcases j with _ | _ | j <;> simp at hc
 ·rw [cell_of_row w B j _ _ _ hh] at hc
  rcases j with _ | _ | j <;> simp at hc
 ·rw [cell_of_row w B _ _ _ _ hh] at hc hd
  rcases j with _ | _ | j <;> simp at hc hd
theorem Bs.offN {w w' : World} {B : Nat} (h : OffB w B) (o : Only (fun k => k = B) w w') {v : Value} {xs : List Int} (hb : Bs .u8 w v xs) : Bs .u8 w' v xs:=by
 obtain ⟨ao,cap,e,hc,hr⟩:=hb;refine ⟨ao,cap,e,hc,fun hx => ?_⟩;obtain ⟨b,off,e2,hcell⟩:=hr hx;refine ⟨b,off,e2,fun j hj => QaF (hcell j hj) o (fun (eb : b = B) => ?_)⟩;have:=hcell j hj;rw [eb] at this;exact h.u8 _ _ this
theorem Chs.offN {w w' : World} {B : Nat} (h : OffB w B) (o : Only (fun k => k = B) w w') {v : Value} {l : List CHK} (hb : Chs w v l) : Chs w' v l:=by
 obtain ⟨ao,cap,e,hc,hr⟩:=hb;refine ⟨ao,cap,e,hc,fun hx => ?_⟩;obtain ⟨b,off,e2,hcell⟩:=hr hx;refine ⟨b,off,e2,fun j hj => ?_⟩;obtain ⟨u,c0,c1,ao,cap,e,hc,hr⟩:=hcell j hj
 have hb : ¬ b = B:=fun eb => by
  rw [eb] at c0;exact h.st _ _ c0
 refine ⟨u,QaF c0 o hb,QaF c1 o hb,ao,cap,e,hc,fun hx => ?_⟩;obtain ⟨b,off,e2,hcell⟩:=hr hx;refine ⟨b,off,e2,fun j hj => ?_⟩;obtain ⟨c0,c1⟩:=hcell j hj
 have hb : ¬ b = B:=fun eb => by
  rw [eb] at c0 c1;exact h.sm _ _ _ c0 c1
 exact ⟨QaF c0 o hb,QaF c1 o hb⟩
theorem Qkc {X : World} {RB : Nat} {a b c d e : Value} {t : TypeId} (T : Value) (h : X.heap[RB]? = some (.cells #[a,b,c,d,e] t (0,0))) : (X.setCell ⟨RB,4,none⟩ T).heap[RB]? = some (.cells #[a,b,c,d,T] t (0,0)):=by
 have:=heap_setCell_same X RB 4 _ _ T h
 simpa using this
theorem QkY {X : World} {RB : Nat} {a b c d e : Value} {t : TypeId} (T Q U : Value) (h : X.heap[RB]? = some (.cells #[a,b,c,d,e] t (0,0))) : (((X.setCell ⟨RB,3,none⟩ T).setCell ⟨RB,1,none⟩ Q).setCell ⟨RB,2,none⟩ U).heap[RB]? = some (.cells #[a,Q,U,T,e] t (0,0)):=by
 have h1 : (X.setCell ⟨RB,3,none⟩ T).heap[RB]? = some (.cells #[a,b,c,T,e] t (0,0)):=by have:=heap_setCell_same X RB 3 _ _ T h;simpa using this
 have h2 : ((X.setCell ⟨RB,3,none⟩ T).setCell ⟨RB,1,none⟩ Q).heap[RB]? = some (.cells #[a,Q,c,T,e] t (0,0)):=by have:=heap_setCell_same _ RB 1 _ _ Q h1;simpa using this
 have:=heap_setCell_same _ RB 2 _ _ U h2
 simpa using this
theorem Qc6 {w : World} {RB ver : Nat} {key root : List Int} {tk rf : Int} (h : RDN w RB key ver root tk rf) (vb : Value) (l : List CHK) (v2 : Nat) (R2 : List Int) (E : Int)
  (OPN : ∀ (W : World) (vm vt : Value),Only (fun _ => False) w W → Bs .u8 W vm key → Bs .u8 W vt root → Calls Tryz.prog 13 #[vm,.agg #[.int .u64 ver,vt],vb] W fun e w' => ∃ ac nc cc q av nv cv,e = .returned (.tuple #[.slice ac nc cc,.agg #[.int .u64 q,.slice av nv cv],.int .i64 E]) ∧ (E = 0 → q = (v2 : Int) ∧ Chs w' (.slice ac nc cc) l ∧ Bs .u8 w' (.slice av nv cv) R2) ∧ Only (fun _ => False) W w') (hk : key.length = 32) :
  Calls Tryz.prog 6 #[.pointer (some ⟨RB,0,none⟩),vb] w fun e w' => ∃ a n c,e = .returned (.tuple #[.slice a n c,.int .i64 E]) ∧ (E = 0 → Chs w' (.slice a n c) l ∧ RDN w' RB key v2 R2 (RowKit.wrap64 (tk + 1)) rf) ∧ (E ≠ 0 → n = 0 ∧ RDN w' RB key ver root tk (RowKit.wrap64 (rf + 1))) ∧ Only (fun k => k = RB) w w':=by
 have MA:=Qaa (Qdv h);obtain ⟨kb,vr,h1,h2,h3⟩:=h;obtain ⟨ar,cr,rfl⟩:=h3.len;obtain ⟨rn,hrn⟩ : ∃ n,n = root.length:=⟨_,rfl⟩;have OP:=Qaa (fun (W : World) (o : Only (fun _ => False) w W) => OPN W _ _ o ((h2.past o).bs 32 hk) (h3.past o));rw [← hrn] at h1 h3 OP;have H:=Qaa (And.intro h1 (And.intro h2 h3));obtain ⟨⟨c0,c1,c2,c3,c4⟩,fz⟩:=QcM h1;have hRB:=(Array.getElem?_eq_some_iff.1 h1).1;have KS:=Qaa (fun (W : World) (o : Only (fun _ => False) w W) => (show W.cell? ⟨RB,0,none⟩ = some (.slice (some ⟨kb,0,none⟩) 32 32) ∧ W.cell? ⟨RB,1,none⟩ = some (.int .u64 ver) ∧ W.cell? ⟨RB,2,none⟩ = some (.slice ar rn cr) from have h:=(QcM (o.heap h1 (fun f => f))).1;⟨h.1,h.2.1,h.2.2.1⟩));have CR : Hid (Only (fun _ => False) w w.drew):=(Only.refl _ _).drew;clear OPN h1 h2 h3 hk hrn c3 c4 fz;go_enter Tryz.func6,Tryz.ntmps6;go_wp2_with fail;refine MA.out.mono ?_;rintro e w1 ⟨rfl,rfl⟩;clear MA;go_wp2_with fail
 go_region_held3 (fun W' => W'.cell? ⟨RB,0,none⟩ = some (.slice (some ⟨kb,0,none⟩) 32 32) ∧ W'.cell? ⟨RB,1,none⟩ = some (.int .u64 ver) ∧ W'.cell? ⟨RB,2,none⟩ = some (.slice ar rn cr))
  (first | assumption | exact KS.out _ CR.out | exact KS.out _ (CR.out.alloc _) | exact (show _ ∧ _ ∧ _ from ⟨QaF (QaF (KS.out _ CR.out).1 ((Only.refl (fun k => k = w.heap.size) _).setCell (p:=⟨_,0,none⟩) (fun _ => rfl) _) (by simp only;omega)) ((Only.refl (fun k => k = w.heap.size) _).setCell (p:=⟨_,1,none⟩) (fun _ => rfl) _) (by simp only;omega),QaF (QaF (KS.out _ CR.out).2.1 ((Only.refl (fun k => k = w.heap.size) _).setCell (p:=⟨_,0,none⟩) (fun _ => rfl) _) (by simp only;omega)) ((Only.refl (fun k => k = w.heap.size) _).setCell (p:=⟨_,1,none⟩) (fun _ => rfl) _) (by simp only;omega),QaF (QaF (KS.out _ CR.out).2.2 ((Only.refl (fun k => k = w.heap.size) _).setCell (p:=⟨_,0,none⟩) (fun _ => rfl) _) (by simp only;omega)) ((Only.refl (fun k => k = w.heap.size) _).setCell (p:=⟨_,1,none⟩) (fun _ => rfl) _) (by simp only;omega)⟩))
  (first | (go_at_call 13;refine (OP.out _ (by first | exact CR.out | exact CR.out.alloc _)).mono ?_;rintro e w5 ⟨ac,nc,cc,q,av,nv,cv,rfl,hE,o5⟩;(first | (have g5 : w5.heap[w.heap.size]? = some (.cells #[.int .u64 0,.slice none 0 0] 28 (0,0)):=o5.heap (heap_alloc_new w.drew _) (fun f => f);have G5:=Qaa g5;obtain ⟨_,_,_,_⟩:=Qas g5;have CR:=Qaa ((CR.out.alloc _).same o5)) | have CR:=Qaa (CR.out.same o5));have HE:=Qaa hE;clear hE o5 OP))
 all_goals
  first
  | (obtain ⟨X,b,hX,hb,hCX,hgB,hEX⟩ : ∃ X b,X = (w5.setCell ⟨w.heap.size,0,none⟩ (.int .u64 q)).setCell ⟨w.heap.size,1,none⟩ (.slice av nv cv) ∧ b = w.heap.size ∧ Only (fun _ => False) w X ∧ X.heap[b]? = some (.cells #[.int .u64 q,.slice av nv cv] 28 (0,0)) ∧ (E = 0 → q = (v2 : Int) ∧ Chs X (.slice ac nc cc) l ∧ Bs .u8 X (.slice av nv cv) R2):=(by
    have oo : Only (fun k => k = w.heap.size) w5 ((w5.setCell ⟨w.heap.size,0,none⟩ (.int .u64 q)).setCell ⟨w.heap.size,1,none⟩ (.slice av nv cv)):=((Only.refl (fun k => k = w.heap.size) w5).setCell (p:=⟨w.heap.size,0,none⟩) (fun _ => rfl) _).setCell (p:=⟨w.heap.size,1,none⟩) (fun _ => rfl) _
    exact ⟨_,_,rfl,rfl,CR.out.trans oo (fun k hk e => by omega),QaG _ _ G5.out,fun e => ⟨(HE.out e).1,(HE.out e).2.1.offN (OffB.stt G5.out) oo,(HE.out e).2.2.offN (OffB.stt G5.out) oo⟩⟩);rw [← hX,← hb];have hbR : ¬ b = RB:=(by omega))
  | (obtain ⟨X,b,hX,hb,hCX,hgB,hEX⟩ : ∃ X b,X = w5.alloc (.cells #[.int .u64 q,.slice av nv cv] 28) ∧ b = w5.heap.size ∧ Only (fun _ => False) w X ∧ X.heap[b]? = some (.cells #[.int .u64 q,.slice av nv cv] 28 (0,0)) ∧ (E = 0 → q = (v2 : Int) ∧ Chs X (.slice ac nc cc) l ∧ Bs .u8 X (.slice av nv cv) R2):=(by
    have oo:=(Only.refl (fun _ => False) w5).alloc (.cells #[.int .u64 q,.slice av nv cv] 28)
    exact ⟨_,_,rfl,rfl,CR.out.same oo,heap_alloc_new _ _,fun e => ⟨(HE.out e).1,(HE.out e).2.1.past oo,(HE.out e).2.2.past oo⟩⟩);rw [← hX,← hb];have hbR : ¬ b = RB:=(by have:=CR.out.size;omega))
  have gR:=hCX.heap H.out.1 (fun f => f);obtain ⟨⟨r0,r1,r2,r3,r4⟩,rz⟩:=QcM gR;have z1:=rz 1;have z2:=rz 2;have z3:=rz 3;have z4:=rz 4;obtain ⟨d0,d1,_,_⟩:=Qas hgB;have P:=Qaa (And.intro gR (And.intro hCX (And.intro hEX (And.intro (H.out.2.1.past hCX) (H.out.2.2.past hCX)))));clear gR hCX hgB hEX hX hb KS HE CR H rz
  have hkR : ¬ kb = RB:=fun e => by
   have q1:=P.out.2.2.2.1;rw [e] at q1;have q2 : X.heap[RB]? = _:=q1;rw [P.out.1] at q2;simp at q2
  by_cases hE : E = 0
  case' pos =>
   have dE : (E != 0) = false:=by rw [hE];rfl
   have hE2:=Qaa hE;clear hE;go_wp2;go_ret2;have oR:=(((Only.refl (fun k => k = RB) X).setCell (p:=⟨RB,3,none⟩) (fun _ => rfl) (.int .i64 (RowKit.wrap64 (tk + 1)))).setCell (p:=⟨RB,1,none⟩) (fun _ => rfl) (.int .u64 q)).setCell (p:=⟨RB,2,none⟩) (fun _ => rfl) (.slice av nv cv);obtain ⟨hq,hch,hbs⟩:=P.out.2.2.1 hE2.out;subst hq;exact ⟨ac,nc,cc,by rw [hE2.out];rfl,fun _ => ⟨hch.offN (OffB.rd P.out.1) oR,kb,_,QkY _ _ _ P.out.1,P.out.2.2.2.1.keep oR hkR,hbs.offN (OffB.rd P.out.1) oR⟩,fun h => absurd hE2.out h,(P.out.2.1.mono (fun _ _ f => f.elim)).trans oR (fun _ _ e => e)⟩
  case' neg =>
   have dE : (E != 0) = true:=by simpa using hE
   have hE2:=Qaa hE;clear hE;go_wp2;go_ret2;have oR:=(Only.refl (fun k => k = RB) X).setCell (p:=⟨RB,4,none⟩) (fun _ => rfl) (.int .i64 (RowKit.wrap64 (rf + 1)));exact ⟨none,0,0,rfl,fun h => absurd h hE2.out,fun _ => ⟨rfl,kb,_,Qkc _ P.out.1,P.out.2.2.2.1.keep oR hkR,P.out.2.2.2.2.offN (OffB.rd P.out.1) oR⟩,(P.out.2.1.mono (fun _ _ f => f.elim)).trans oR (fun _ _ e => e)⟩
end Go.Proofs.YtcpopagikbjimaaGreatDoor
