import Derived.Test.YtcpopagikbjimaaGreatDoorG17
import Derived.Test.YtcpopagikbjimaaGreatDoorG25
namespace Go.Proofs.YtcpopagikbjimaaGreatDoor
set_option maxHeartbeats 4000000
set_option maxRecDepth 100000
open Go.RowKit
theorem Qhf (w : World) : Calls Tryz.prog 61 #[.slice none 0 0] w fun e w' => ∃ v',e = .returned v' ∧ w'.ownsRow w.heap.size 5 1 v' 32 (bl (SHA [])) ∧ Only (fun _ => False) w w':=by
 have A:=Qaa (Qdx (.slice none 0 0) [] w (Bs.nil _ _) NoCap.nil (fun y hy => by simp at hy) (by simp));go_enter Tryz.func61,Tryz.ntmps61;go_wp2_with fail;refine A.out.mono ?_;rintro e w4 ⟨v4,rfl,own4,on4⟩;have F:=Qaa (And.intro own4 on4);obtain ⟨ao4,cap4,rfl⟩:=Qad own4;clear own4 on4 A;go_wp2;go_ret;exact ⟨_,rfl,F.out⟩
theorem Qe0 (w : World) : Calls Tryz.prog 32 #[.slice none 0 0] w fun e w' => ∃ v',e = .returned v' ∧ w'.ownsRow w.heap.size 5 1 v' 32 (bl (SHA [])) ∧ Only (fun _ => False) w w':=by
 have A:=Qaa (Qhf w);go_enter Tryz.func32,Tryz.ntmps32;go_wp2
 go_loopw [3,4] (fun s i wr => s = .slice none 0 0 ∧ i = .int .i64 0 ∧ wr = w) (fun _ _ _ => 0)
 case atStart => exact ⟨rfl,rfl,rfl⟩
 case round =>
  obtain ⟨rfl,rfl,rfl⟩:=hrel;go_wp2_with fail;refine A.out.mono ?_;rintro e w4 ⟨v4,rfl,own4,on4⟩;have F:=Qaa (And.intro own4 on4);obtain ⟨ao4,cap4,rfl⟩:=Qad own4;clear own4 on4 A;go_wp2;go_ret;exact ⟨_,rfl,F.out⟩
theorem Qed (a : Option Addr) (c : Nat) (w : World) : RTN [] (.slice a 0 c) w:=by
 unfold RTN;go_enter Tryz.func96,Tryz.ntmps96;go_wp2
 go_loopw [3,4] (fun s i wr => s = .slice none 0 0 ∧ i = .int .i64 0 ∧ wr = w) (fun _ _ _ => 0)
 case atStart => exact ⟨rfl,rfl,rfl⟩
 case round =>
  obtain ⟨rfl,rfl,rfl⟩:=hrel;go_wp2;go_ret;exact ⟨_,rfl,⟨none,0,rfl,Nat.le_refl _,fun z => absurd rfl z⟩,Only.refl _ _⟩
theorem QiL {m : MAN} (h : MGD m) (h0 : m.es = []) : (MENC m).length ≤ 100:=by
 obtain ⟨g1,g2,g3,g4,g5⟩:=h;unfold MENC
 have : MTN m = []:=by unfold MTN;rw [h0];rfl
 rw [this,h0];simp only [List.length_append,Qa7,g2.1,g3.1,MHD,List.length_cons,List.length_nil,List.map_nil,List.flatten_nil]
 decide
theorem Qhg (vk x vp ve vr : Value) (k : List Int) (m : MAN) (w : World) (hb : Bs .u8 w vk k) (hk8 : U8 k) (nk : NoCap vk) (h : Mf w x m vp ve vr) (hk : Mok m) (np : NoCap vp) (nr : NoCap vr) (he0 : m.es = []) (her : MEr m = 0) (h32 : k.length = 32) :
  Calls Tryz.prog 33 #[vk,x] w fun e w' => ∃ u,e = .returned (.tuple #[u,.int .i64 0]) ∧ w'.ownsRow w.heap.size 5 1 u (MENC m ++ MACL (MKY k) (MENC m)).length ((MENC m ++ MACL (MKY k) (MENC m)).map (Value.int .u8)) ∧ Only (fun _ => False) w w':=by
 have hf:=h.form;obtain ⟨ap,pc,ep⟩:=h.prev.len;obtain ⟨ae,ec,ee⟩:=h.es.len;obtain ⟨ar,rc,er⟩:=h.root.len;obtain ⟨ak,kc,ek⟩:=hb.len;subst ep ee er hf ek;have oa : Only (fun _ => False) w (w.alloc (.cells #[.int .u64 m.ver,.slice ap m.prev.length pc,.slice ae m.es.length ec,.slice ar m.root.length rc] 44)):=(Only.refl _ _).alloc _;have G0:=Qaa (heap_alloc_new w (.cells #[.int .u64 m.ver,.slice ap m.prev.length pc,.slice ae m.es.length ec,.slice ar m.root.length rc] 44));have A:=Qaa (QcS _ k hk8 nk _ (hb.past oa));have OA:=Qaa oa;rw [Qjm h32] at A;have HKL:=Qaa (QgE h32);have HK8:=Qaa (Qjl k)
 have EN : Hid (∀ W,Only (fun _ => False) w W → Calls Tryz.prog 63 #[.agg #[.int .u64 m.ver,.slice ap m.prev.length pc,.slice ae m.es.length ec,.slice ar m.root.length rc]] W fun e w' => ∃ u,e = .returned (.tuple #[u,.int .i64 0]) ∧ w'.ownsRow W.heap.size 5 1 u (MENC m).length ((MENC m).map (Value.int .u8)) ∧ Only (fun _ => False) W w'):=by
  intro W o
  exact Qeo _ _ _ _ m W (h.past o) hk np nr (by rw [he0];simp) her (fun W' _ => by
   have e1 : MTN m = []:=by unfold MTN;rw [he0];rfl
   have e2 : m.es.length = 0:=by rw [he0];rfl
   rw [e1,e2]
   exact Qed _ _ _)
 have hG:=(QgT hk).1 her;have hle:=QiL hG he0;have h8:=QgV hG;obtain ⟨E,hE⟩ : ∃ E,E = MENC m:=⟨_,rfl⟩;rw [← hE] at EN hle h8;rw [← hE];clear h hb hk np nr nk oa h32 her he0 hG hE;go_enter Tryz.func33,Tryz.ntmps33;go_wp2_with fail;refine A.out.mono ?_;rintro e w1 ⟨v1,rfl,bk1,o1⟩;have G1:=o1.heap G0.out (fun f => f);have hld:=Qag G1;obtain ⟨⟨c0,c1,c2,c3⟩,_⟩:=Qaq G1;have B:=Qaa (EN.out w1 (OA.out.same o1));have O1:=Qaa (OA.out.same o1);have W1S:=Qaa O1.out.size;have BK:=Qaa (show Bs .u8 w1 v1 (MKY k) from bk1);clear A bk1 o1 EN G0 OA G1;go_wp2_with fail;refine B.out.mono ?_;rintro e w2 ⟨u,rfl,own2,o2⟩;have O2:=Qaa (O1.out.same o2);have s2:=o2.size;have D:=Qaa (Qhe v1 u (MKY k) E w2 (BK.out.past o2) (BK.out.nocap (fun z => by have:=HKL.out;rw [z] at this;cases this)) HK8.out (by rw [HKL.out];decide) (Bs.of_own own2) (NoCap.of_own own2) h8 (by omega));obtain ⟨au,cu,eu⟩:=(Bs.of_own own2).len;have OW2:=Qaa own2;clear B o2 O1 own2 BK c0 c1 c2 c3 hld;subst eu;go_wp2_with fail;refine D.out.mono ?_;rintro e w3 ⟨r,rfl,own3,o3⟩;have hml:=Qa8 (MKY k) E;have b3:=Bs.of_own (k:=.u8) (xs:=MACL (MKY k) E) (by rw [hml];exact own3);have n3:=NoCap.of_own own3;have own2':=o3.own OW2.out (fun _ _ f => f);have s3:=O2.out.size;have s4:=o3.size;have O3:=Qaa (O2.out.same o3);obtain ⟨i0,hi,hz0,hz1,hz2⟩:=info_parts Tryz.infoU8;clear D own3 OW2
 go_wp2_with (first
  | (at_builtin;refine Qac _ rfl _ _ 22 rfl w1.heap.size 5 i0 (.int .u8 0) 1 Tryz.underlying22 hi hz0 hz1 hz2 rfl _ E.length _ rfl own2' .u8 r (MACL (MKY k) E) rfl b3 n3 (by rw [hml];unfold maxLen;omega) (by rw [hml];omega) (by omega) ?_;intro v4 w4 own4 gr4 _ _)
  | fail)
 have F:=Qaa (And.intro (Qal own4 W1S.out) (O3.out.grown gr4 (fun j hj e => by have:=(own2'.lt j e).1;have:=W1S.out;omega)));rw [← List.length_append,← List.map_append] at F;clear own4 gr4 own2' b3 n3;go_ret2;exact ⟨_,rfl,F.out⟩
def EAM (v : Nat) : MAN:=⟨v,List.replicate 32 0,[],SHA []⟩
def EAG (m : List Int) (v : Nat) : List Int:=MENC (EAM v) ++ MACL (MKY m) (MENC (EAM v))
def EAT (m : List Int) (v : Nat) : List Int:=blk (EAG m v)
theorem Qjg : U8 (List.replicate 32 0):=fun y hy => by rw [List.eq_of_mem_replicate hy];decide
theorem Qbi {v : Nat} (hv : v < 18446744073709551615) : MGD (EAM v) :=
 ⟨hv,⟨List.length_replicate,Qjg⟩,⟨Qan _,QaR _⟩,Nat.zero_le _,fun e he => by cases he⟩
theorem QeB {v : Nat} (hv : v < 18446744073709551615) : (MENC (EAM v)).length ≤ 10000:=QfL (Qbi hv) (Nat.zero_le _)
theorem Qgu {v : Nat} (m : List Int) : (EAG m v).length = (MENC (EAM v)).length + 32:=by unfold EAG;rw [List.length_append,Qa8]
theorem QkJ {v : Nat} (m : List Int) (hv : v < 18446744073709551615) : U8 (EAG m v):=U8.app (QgV (Qbi hv)) (Qcy _ _)
theorem Qjh {v : Nat} (m : List Int) (hv : v < 18446744073709551615) : U8 (EAT m v):=Qcw _ (QkJ m hv)
theorem Qgv {v : Nat} (m : List Int) (hv : v < 18446744073709551615) : (EAT m v).length ≤ 1000000:=by
 have h1:=QeB hv;have h2:=Qgu (v:=v) m;have h3:=Qcv (EAG m v) (by omega);unfold EAT;omega
theorem QdM {v : Nat} (m : List Int) (hv : v < 18446744073709551615) : SPX (EAT m v) = .ok (EAM v,EAG m v,[]):=by
 have h:=QhN (m:=EAM v) (tg:=MACL (MKY m) (MENC (EAM v))) (ls:=[]) (Qbi hv) (Qa8 _ _) (by have:=QeB hv;omega) rfl (fun j hj => absurd hj (Nat.not_lt_zero _));rw [List.flatten_nil,List.append_nil] at h;exact h
theorem QdN {v : Nat} {m : List Int} (hv : v < 18446744073709551615) (hm : m.length = 32) : MCe m (EAG m v) = 0:=by
 have hL:=Qgu (v:=v) m;unfold MCe;rw [if_pos hm,if_neg (by omega),hL,Nat.add_sub_cancel]
 have e1 : (EAG m v).take (MENC (EAM v)).length = MENC (EAM v):=by unfold EAG;exact List.take_left
 have e2 : (EAG m v).drop (MENC (EAM v)).length = MACL (MKY m) (MENC (EAM v)):=by unfold EAG;exact List.drop_left
 rw [e1,e2,if_pos rfl];exact (QiC (Qbi hv)).2
theorem Qh2 {v p : Nat} {m r : List Int} (hv : v < 18446744073709551615) (hm : m.length = 32) (h : r.length = 0 ∨ p < v) : TRe m (p,r) (EAM v) (EAG m v) = 0:=by
 unfold TRe;rw [if_pos (QdN hv hm)]
 split
 ·rfl
 ·rename_i h0
  have h0' : ¬ r.length = 0:=h0;rw [if_neg (show ¬ (EAM v).ver < p from (by show ¬ v < p;omega)),if_neg];rintro ⟨e1,_⟩;have : v = p:=e1;omega
theorem QjJ {v p : Nat} {m r : List Int} (hv : v < 18446744073709551615) (hm : m.length = 32) (hr : r.length = 32) (h : v < p) : TRe m (p,r) (EAM v) (EAG m v) = 6:=by
 unfold TRe;rw [if_pos (QdN hv hm),if_neg (by show ¬ r.length = 0;omega),if_pos (show (EAM v).ver < p from h)]
theorem QdO {w : World} {RB p v : Nat} {m r : List Int} {tk rf : Int} (h : RDN w RB m p r tk rf) (m8 : U8 m) (hm : m.length = 32) (r8 : U8 r) (hr : r.length = 0 ∨ r.length = 32 ∧ p < v) (hv : v < 18446744073709551615) (vb : Value) (hb : Bs .u8 w vb (EAT m v)) :
  Calls Tryz.prog 6 #[.pointer (some ⟨RB,0,none⟩),vb] w fun e w' => ∃ a n c,e = .returned (.tuple #[.slice a n c,.int .i64 0]) ∧ RDN w' RB m v (SHA []) (RowKit.wrap64 (tk + 1)) rf ∧ Only (fun k => k = RB) w w':=by
 refine (Qc6 h vb [] v (SHA []) 0 (fun W vm vt o bm bt => (QhO vm vt vb m r _ _ p (EAM v) [] [] W bm m8 bt r8 (hb.past o) (Qjh m hv) (by have:=Qgv m hv;omega) hm (hr.imp_right (·.1)) (QdM m hv) (fun x hx => by cases hx) (Nat.zero_le _) rfl (Qh2 hv hm (hr.imp_right (·.2))) (QcR vm (EAM v) W)).mono ?_) hm).mono ?_
 ·rintro e w' ⟨c,rv,rfl,h1,h2,_,h4⟩
  obtain ⟨ac,cc,rfl,_⟩:=h1.len;obtain ⟨av,cv,rfl⟩:=h2.len;exact ⟨_,_,_,_,_,_,_,rfl,fun _ => ⟨rfl,h1,h2⟩,h4⟩
 ·rintro e w' ⟨a,n,c,rfl,h1,_,h3⟩
  exact ⟨a,n,c,rfl,(h1 rfl).2,h3⟩
theorem QeC {w : World} {RB p v : Nat} {m r : List Int} {tk rf : Int} (h : RDN w RB m p r tk rf) (m8 : U8 m) (hm : m.length = 32) (r8 : U8 r) (hr : r.length = 32) (hp : v < p) (hv : v < 18446744073709551615) (vb : Value) (hb : Bs .u8 w vb (EAT m v)) :
  Calls Tryz.prog 6 #[.pointer (some ⟨RB,0,none⟩),vb] w fun e w' => ∃ a n c,e = .returned (.tuple #[.slice a n c,.int .i64 6]) ∧ RDN w' RB m p r tk (RowKit.wrap64 (rf + 1)) ∧ Only (fun k => k = RB) w w':=by
 refine (Qc6 h vb [] v [] 6 (fun W vm vt o bm bt => (QhQ vm vt vb m r _ _ p (EAM v) [] W bm m8 bt r8 (hb.past o) (Qjh m hv) (by have:=Qgv m hv;omega) hm (.inr hr) (QdM m hv) (QjJ hv hm hr hp) (by decide)).mono ?_) hm).mono ?_
 ·rintro e w' ⟨rfl,h4⟩
  exact ⟨_,_,_,_,_,_,_,rfl,fun e => absurd e (by decide),h4⟩
 ·rintro e w' ⟨a,n,c,rfl,_,h1,h3⟩
  exact ⟨a,n,c,rfl,(h1 (by decide)).2,h3⟩
theorem Qf3 (w : World) : Calls Tryz.prog 29 #[.agg #[.int .u64 0,.slice none 0 0]] w fun e w' => e = .returned (.bool true) ∧ Only (fun _ => False) w w':=by
 go_enter Tryz.func29,Tryz.ntmps29;go_wp2;go_ret;exact ⟨rfl,(Only.refl _ _).alloc _⟩
theorem Qf4 (vk : Value) (m : List Int) (v : Nat) (w : World) (bm : Bs .u8 w vk m) (nk : NoCap vk) (m8 : U8 m) (hm : m.length = 32) (hv : v < 18446744073709551615) :
  Calls Tryz.prog 17 #[vk,.agg #[.int .u64 0,.slice none 0 0],.int .u64 v,.slice none 0 0] w fun e w' => ∃ u ver a n c,e = .returned (.tuple #[u,.agg #[.int .u64 ver,.slice a n c],.int .i64 0]) ∧ Bs .u8 w' u (EAT m v) ∧ NoCap u ∧ Only (fun _ => False) w w':=by
 obtain ⟨ak,ck,rfl⟩:=bm.len;rw [hm];rw [hm] at bm nk;obtain ⟨R,hR⟩ : ∃ R,R = w.heap.size:=⟨_,rfl⟩;obtain ⟨W0,hW0⟩ : ∃ W0,W0 = ((w.alloc (.cells #[.int .u64 0,.slice none 0 0] 28)).alloc (.cells #[.int .u64 0,.slice none 0 0] 28)).alloc (.cells #[.int .u64 0,.slice none 0 0] 28):=⟨_,rfl⟩
 have o0 : Only (fun _ => False) w W0:=by rw [hW0];exact (((Only.refl _ _).alloc _).alloc _).alloc _
 have K0 : Hid (W0.heap[R]? = some (.cells #[.int .u64 0,.slice none 0 0] 28 (0,0)) ∧ W0.heap[R + 1]? = some (.cells #[.int .u64 0,.slice none 0 0] 28 (0,0))):=by
  show _ ∧ _
  rw [hW0,hR];exact ⟨Qaf (Qaf (heap_alloc_new _ _)),Qaf (Qak (by simp))⟩
 have HW:=Qaa (And.intro hW0 (And.intro o0 hR));have RI:=Qaa (Qf3 W0);have d1 : (((32 : Nat) : Int) != 32) = false:=rfl
 have d2 : ((v : Int) == 18446744073709551615) = false:=by rw [beq_eq_false_iff_ne];omega
 obtain ⟨⟨p0,p1,_,_⟩,_⟩:=And.intro (Qas K0.out.1) trivial;have lp:=Qcm K0.out.1;clear hW0 o0 hR;go_enter Tryz.func17,Tryz.ntmps17;go_wp2_with fail;rw [← HW.out.1,← HW.out.2.2];refine RI.out.mono ?_;rintro e w1 ⟨rfl,o1⟩;clear p0 p1 lp RI;obtain ⟨⟨p0,p1,_,_⟩,_⟩:=And.intro (Qas (o1.heap K0.out.1 (fun f => f))) trivial;obtain ⟨M,hM⟩ : ∃ M,M = w1.heap.size:=⟨_,rfl⟩;obtain ⟨W2,hW2⟩ : ∃ W,W = w1.alloc (.cells #[.int .u64 v,.slice none 0 0,.slice none 0 0,.slice none 0 0] 44):=⟨_,rfl⟩
 have o2 : Only (fun _ => False) w1 W2:=by rw [hW2];exact (Only.refl _ _).alloc _
 have gM2 : W2.heap[M]? = some (.cells #[.int .u64 v,.slice none 0 0,.slice none 0 0,.slice none 0 0] 44 (0,0)):=by rw [hW2,hM];exact heap_alloc_new _ _
 have hP : W2.heap.size = M + 1:=by rw [hW2,hM];simp
 obtain ⟨⟨x0,x1,_,_⟩,_⟩:=And.intro (Qas ((o1.same o2).heap K0.out.1 (fun f => f))) trivial;obtain ⟨wm,hmk,hbk,om⟩:=QhD W2 32 (by decide);rw [hP] at hmk hbk;rw [show ((32 : Nat) : Int) = 32 from rfl] at hmk;have gMm:=om.heap gM2 (fun f => f);obtain ⟨⟨m0,m1,m2,m3⟩,n0,n1,n2,n3⟩:=Qaq gMm;obtain ⟨S,hS⟩ : ∃ S,S = Value.slice (some ⟨M + 1,0,none⟩) 32 32:=⟨_,rfl⟩;obtain ⟨W3,hW3⟩ : ∃ W,W = wm.setCell ⟨M,1,none⟩ (.slice (some ⟨M + 1,0,none⟩) 32 32):=⟨_,rfl⟩
 have o3 : Only (fun k => k = M) wm W3:=by rw [hW3];exact (Only.refl (fun k => k = M) wm).setCell (p:=⟨M,1,none⟩) (fun _ => rfl) _
 have gM3 : W3.heap[M]? = some (.cells #[.int .u64 v,.slice (some ⟨M + 1,0,none⟩) 32 32,.slice none 0 0,.slice none 0 0] 44 (0,0)):=by
  rw [hW3];have:=heap_setCell_same wm M 1 _ _ (.slice (some ⟨M + 1,0,none⟩) 32 32) gMm;simpa using this
 have bz:=(hbk.keep o3 (fun e => by omega)).bs 32 List.length_replicate
 have hMR : R + 1 < M:=by
  have h1:=(Array.getElem?_eq_some_iff.1 (o1.heap K0.out.2 (fun f => f))).1;rw [hM];exact h1
 have o13 : Only (fun k => k = M) w1 W3:=((o2.same om).mono (fun _ _ f => f.elim)).trans o3 (fun _ _ e => e);have o03 : Only (fun _ => False) W0 W3:=o1.trans o13 (fun i hi e => by have:=o1.size;omega);have RO:=Qaa (Qe0 W3);have H3:=Qaa (And.intro o03 (And.intro gM3 (And.intro bz hMR)));have HW3:=Qaa hW3;have HO1:=Qaa o1;clear o1 gM2 gMm bz o3 o13 o03 gM3 hbk om hS S hMR hW3;subst hM hW2;clear o2 hP;go_wp2;obtain ⟨M,hM⟩ : ∃ M,M = w1.heap.size:=⟨_,rfl⟩;rw [← hM] at H3 HW3;rw [← hM,← HW3.out];have HM:=Qaa hM;clear hmk m0 m1 m2 m3 n0 n1 n2 n3 p0 p1 x0 x1 hM HW3
 go_loopw [13,14] (fun s i wr => s = .slice none 0 0 ∧ i = .int .i64 0 ∧ wr = W3) (fun _ _ _ => 0)
 case atStart => exact ⟨rfl,rfl,rfl⟩
 case round =>
  obtain ⟨rfl,rfl,rfl⟩:=hrel;go_wp2_with fail;refine RO.out.mono ?_;rintro e w4 ⟨u,rfl,own4,o4⟩;obtain ⟨au,cu,rfl⟩:=Qad own4;have gM4:=o4.heap H3.out.2.1 (fun f => f);obtain ⟨⟨m0,m1,m2,m3⟩,n0,n1,n2,n3⟩:=Qaq gM4;obtain ⟨W5,hW5⟩ : ∃ W,W = w4.setCell ⟨M,3,none⟩ (.slice au 32 cu):=⟨_,rfl⟩
  have o5 : Only (fun k => k = M) w4 W5:=by rw [hW5];exact (Only.refl (fun k => k = M) w4).setCell (p:=⟨M,3,none⟩) (fun _ => rfl) _
  have gM5 : W5.heap[M]? = some (.cells #[.int .u64 v,.slice (some ⟨M + 1,0,none⟩) 32 32,.slice none 0 0,.slice au 32 cu] 44 (0,0)):=by
   rw [hW5];have:=heap_setCell_same w4 M 3 _ _ (.slice au 32 cu) gM4;simpa using this
  have hld:=Qag gM5;obtain ⟨⟨y0,y1,y2,y3⟩,_⟩:=Qaq gM5
  have hWM : wr.heap.size ≤ W5.heap.size:=by have:=o4.size;have:=o5.size;omega
  have oW5 : Only (fun _ => False) W0 W5:=(H3.out.1.same o4).trans o5 (fun i hi e => by
   have:=H3.out.2.2.2;have:=(Array.getElem?_eq_some_iff.1 H3.out.2.1).1;have:=H3.out.1.size;subst e;have h0:=HM.out;have:=HO1.out.size
   omega)
  have MF : Mf W5 (.agg #[.int .u64 v,.slice (some ⟨M + 1,0,none⟩) 32 32,.slice none 0 0,.slice au 32 cu]) (EAM v) (.slice (some ⟨M + 1,0,none⟩) 32 32) (.slice none 0 0) (.slice au 32 cu):=by
   refine ⟨rfl,(H3.out.2.2.1.past o4).keep o5 (fun j hj e => ?_),⟨none,0,rfl,Nat.le_refl _,fun z => absurd rfl z⟩,?_⟩
   ·simp [Value.ownBlock] at hj;omega
   ·have hb : Bs .u8 w4 (.slice au 32 cu) (SHA []):=Bs.of_own (k:=.u8) (lo:=wr.heap.size) (E:=5) (by rw [Qan];exact own4)
    exact hb.keep o5 (fun j hj e => by
     have:=(own4.lt j hj).1;have:=(Array.getElem?_eq_some_iff.1 H3.out.2.1).1
     omega)
  have SG:=Qaa (Qhg (.slice ak 32 ck) _ _ _ _ m (EAM v) W5 ((bm.past HW.out.2.1).past oW5) m8 nk MF (Qbi hv).ok (NoCap.some _ _ _) (NoCap.of_own own4) rfl ((QgT (Qbi hv).ok).2 (Qbi hv)) hm);have H5:=Qaa (And.intro oW5 (And.intro gM5 H3.out.2.2.2));have HW5:=Qaa hW5;clear own4 o4 gM4 o5 gM5 hWM oW5 MF RO H3 hW5 bm nk hm m8;go_wp2_with fail;rw [← HW5.out];refine SG.out.mono ?_;rintro e w6 ⟨s,rfl,own6,o6⟩
  have hsl : (MENC (EAM v) ++ MACL (MKY m) (MENC (EAM v))).length ≤ 1000000:=by have:=QeB hv;rw [List.length_append,Qa8];omega
  have BL:=Qaa (Qbu s (EAG m v) w6 (Bs.of_own own6) (NoCap.of_own own6) hsl);obtain ⟨a6,c6,rfl⟩:=Qad own6;obtain ⟨sl,hsl2⟩ : ∃ n,n = (MENC (EAM v) ++ MACL (MKY m) (MENC (EAM v))).length:=⟨_,rfl⟩;rw [← hsl2] at BL ⊢;have H6:=Qaa (And.intro (H5.out.1.same o6) (And.intro (o6.heap H5.out.2.1 (fun f => f)) H5.out.2.2));clear SG own6 o6 hsl hsl2 HW5 H5 m0 m1 m2 m3 n0 n1 n2 n3 y0 y1 y2 y3 hld;go_wp2_with fail;refine BL.out.mono ?_;rintro e w7 ⟨r,rfl,own7,o7⟩;obtain ⟨ar,cr,rfl⟩:=Qad own7;have gM7:=o7.heap H6.out.2.1 (fun f => f);obtain ⟨⟨m0,m1,m2,m3⟩,n0,n1,n2,n3⟩:=Qaq gM7;have o07:=H6.out.1.same o7;have gR7:=o07.heap K0.out.2 (fun f => f);obtain ⟨q0,q1,z0,z1⟩:=Qas gR7;have P2:=put2 gR7 (.int .u64 v) (.slice au 32 cu);obtain ⟨rl,hrl⟩ : ∃ n,n = (blk (EAG m v)).length:=⟨_,rfl⟩;have F:=Qaa (And.intro (Qcm (show ((((w7.setCell ⟨R + 1,0,none⟩ (.int .u64 v)).setCell ⟨R + 1,1,none⟩ (.slice au 32 cu)).drew).heap[R + 1]? = _) from P2.1)) (And.intro (show Bs .u8 _ _ (EAT m v) from ((show Bs .u8 w7 _ (EAT m v) from Bs.of_own (k:=.u8) own7).offB (g:=R + 1) (T:=28) (cs:=[.int .u64 0,.slice none 0 0]) gR7 (fun y hy x => by simp at hy;rcases hy with rfl | rfl <;> simp) P2.2.drew)) (And.intro (NoCap.of_own own7) ((HW.out.2.1.same o07).trans P2.2.drew (fun i hi e => by have:=HW.out.2.2;omega)))));rw [← hrl] at F ⊢;clear BL own7 o7 o07 gM7 gR7 P2 H6 hrl;go_wp2
  go_loopw [21,22] (fun o i wr => o = .slice ar rl cr ∧ i = .int .i64 0 ∧ wr = w7) (fun _ _ _ => 0)
  case atStart => exact ⟨rfl,rfl,rfl⟩
  case round =>
   obtain ⟨rfl,rfl,rfl⟩:=hrel;go_wp2_with fail;go_region;go_wp2;exact bodyPost_ret (Qbs rfl _ _ rfl rfl rfl F.out.1) rfl ⟨_,_,_,_,_,rfl,F.out.2⟩
theorem Qg2 (vb : Value) (b : List Int) (w : World) (hb : Bs .u8 w vb b) (nb : NoCap vb) (h8 : U8 b) :
  Calls Tryz.prog 5 #[vb] w fun e w' => ∃ t,e = .returned (.bool t) ∧ Only (fun _ => False) w w':=by
 have A:=Qaa (Qeg vb b w hb nb h8);obtain ⟨ao,cap,rfl⟩:=hb.len;obtain ⟨n,hn⟩ : ∃ n,n = b.length:=⟨_,rfl⟩;rw [← hn] at A ⊢;clear hb nb h8 hn;go_enter Tryz.func5,Tryz.ntmps5;go_wp2_with fail;refine A.out.mono ?_;rintro e w1 ⟨ver,a1,n1,c1,a2,n2,c2,a3,n3,c3,u,l,c,rfl,o1⟩;obtain ⟨⟨y0,y1,y2,y3⟩,_⟩:=Qaq (heap_alloc_new w1 (.cells #[.int .u64 ver,.slice a1 n1 c1,.slice a2 n2 c2,.slice a3 n3 c3] 44));have F:=Qaa (o1.alloc (.cells #[.int .u64 ver,.slice a1 n1 c1,.slice a2 n2 c2,.slice a3 n3 c3] 44));clear A o1
 by_cases h1 : (n : Int) ≤ 4000
 ·have d1 : decide ((n : Int) ≤ 4000) = true:=decide_eq_true h1
  by_cases h2 : c = 0
  ·have d2 : (c != 0) = false:=by rw [h2];rfl
   obtain ⟨t,ht⟩ : ∃ t,t = decide ((n2 : Int) ≤ 12):=⟨_,rfl⟩;have d3:=ht.symm;clear h1 h2 ht
   cases t <;> (go_wp2;go_ret;exact ⟨_,rfl,F.out⟩)
  ·have d2 : (c != 0) = true:=by simpa using h2
   clear h1 h2;go_wp2;go_ret;exact ⟨_,rfl,F.out⟩
 ·have d1 : decide ((n : Int) ≤ 4000) = false:=decide_eq_false h1
  clear h1;go_wp2;go_ret;exact ⟨_,rfl,F.out⟩
theorem Qd7 (vk : Value) (m : List Int) (v : Nat) (w : World) (bm : Bs .u8 w vk m) (nk : NoCap vk) (m8 : U8 m) (hm : m.length = 32) (hv : v < 18446744073709551615) :
  Calls Tryz.prog 10 #[vk,.int .u64 v,.slice none 0 0] w fun e w' => ∃ u,e = .returned u ∧ Bs .u8 w' u (EAT m v) ∧ NoCap u ∧ Only (fun _ => False) w w':=by
 have A:=Qaa (Qf4 vk m v w bm nk m8 hm hv);obtain ⟨ak,ck,rfl⟩:=bm.len;rw [hm] at A ⊢;clear bm nk m8 hm hv;go_enter Tryz.func10,Tryz.ntmps10;go_wp2_with fail;refine A.out.mono ?_;rintro e w1 ⟨u,ver,a,n,c,rfl,bu,nu,o1⟩;obtain ⟨au,cu,rfl⟩:=bu.len;obtain ⟨k,hk⟩ : ∃ k,k = (EAT m v).length:=⟨_,rfl⟩;have oo:=(Only.refl (fun _ => False) w1).alloc (.cells #[.int .u64 ver,.slice a n c] 28);have F:=Qaa (And.intro (bu.past oo) (And.intro nu (o1.same oo)));rw [← hk] at F ⊢;clear A bu nu o1 oo hk;go_wp2;go_ret;exact ⟨_,rfl,F.out⟩
theorem Qg3 (w : World) : Calls Tryz.prog 4 #[] w fun e w' => e = .returned (.bool true) ∧ Only (fun _ => False) w w':=by
 obtain ⟨wm,hmk,hbk,om⟩:=QhD w 32 (by decide);rw [show ((32 : Nat) : Int) = 32 from rfl] at hmk;have hN:=hbk.lt;have bz:=hbk.bs 32 List.length_replicate;have NW:=Qaa (QiJ _ _ wm bz List.length_replicate);obtain ⟨m,hm⟩ : ∃ m : List Int,m = List.replicate 32 0:=⟨_,rfl⟩
 have m8 : U8 m:=by rw [hm];exact Qjg
 have ml : m.length = 32:=by rw [hm];exact List.length_replicate
 rw [← hm] at bz NW;obtain ⟨H,hH⟩ : ∃ H,H = w.heap.size:=⟨_,rfl⟩;rw [← hH] at hmk bz hN NW;have BL:=Qaa (fun (W : World) (v : Nat) (hv : v < 18446744073709551615) (hb : Bs .u8 W (.slice (some ⟨H,0,none⟩) 32 32) m) => Qd7 _ m v W hb (NoCap.some _ _ _) m8 ml hv);have O0:=Qaa (And.intro om (And.intro bz hN));have M:=Qaa (And.intro m8 ml);clear hbk om bz hN hm hH m8 ml;go_enter Tryz.func4,Tryz.ntmps4;go_wp2_with fail;refine NW.out.mono ?_;rintro e w1 ⟨RB,rfl,r1,hRB,o1⟩;have B1:=Qaa (BL.out w1 3 (by decide) (O0.out.2.1.past o1));have H1:=Qaa (And.intro r1 (And.intro (O0.out.1.same o1) (And.intro (O0.out.2.1.past o1) (show H < RB by have:=O0.out.2.2;omega))));have HS:=Qaa (show w.heap.size ≤ RB from Nat.le_trans O0.out.1.size hRB);clear NW r1 hRB o1 hmk O0;go_wp2_with fail;refine B1.out.mono ?_;rintro e w2 ⟨u2,rfl,b2,n2,o2⟩;obtain ⟨k,hk⟩ : ∃ k,k = (EAT m 3).length:=⟨_,rfl⟩;have A2:=Qaa (QdO (H1.out.1.past o2) M.out.1 M.out.2 (fun y hy => by cases hy) (.inl rfl) (by decide) u2 b2);obtain ⟨a2,c2,rfl⟩:=b2.len;have H2:=Qaa (And.intro (H1.out.2.1.same o2) (And.intro (H1.out.2.2.1.past o2) H1.out.2.2.2));rw [← hk] at A2 ⊢;clear B1 b2 n2 o2 H1 hk;go_wp2_with fail;refine A2.out.mono ?_;rintro e w3 ⟨a3,n3,c3,rfl,r3,o3⟩;have bk3 : Bs .u8 w3 (.slice (some ⟨H,0,none⟩) 32 32) m:=H2.out.2.1.keep o3 (fun j hj e => by simp [Value.ownBlock] at hj;have:=H2.out.2.2;omega);have on3 : Only (fun k => k = RB) w w3:=(H2.out.1.mono (fun _ _ f => f.elim)).trans o3 (fun _ _ e => e);have B3:=Qaa (BL.out w3 2 (by decide) bk3);have H3:=Qaa (And.intro r3 (And.intro on3 (And.intro bk3 H2.out.2.2)));clear A2 r3 o3 bk3 on3 H2 BL;go_wp2_with fail;refine B3.out.mono ?_;rintro e w4 ⟨u4,rfl,b4,n4,o4⟩;obtain ⟨k,hk⟩ : ∃ k,k = (EAT m 2).length:=⟨_,rfl⟩;have A4:=Qaa (QeC (H3.out.1.past o4) M.out.1 M.out.2 (QaR _) (Qan _) (by decide) (by decide) u4 b4);obtain ⟨a4,c4,rfl⟩:=b4.len;have H4:=Qaa (H3.out.2.1.trans (T:=fun _ => False) o4 (fun _ _ f => f.elim));rw [← hk] at A4 ⊢;clear B3 b4 n4 o4 H3 hk;go_wp2_with fail;refine A4.out.mono ?_;rintro e w5 ⟨a5,n5,c5,rfl,r5,o5⟩;have C5:=Qaa (QeW r5);have H5:=Qaa (And.intro r5 (H4.out.trans o5 (fun _ _ e => e)));rw [show RowKit.wrap64 ((0 : Int) + 1) = 1 by decide +kernel] at C5;clear A4 r5 o5 H4;go_wp2_with fail;refine C5.out.mono ?_;rintro e w6 ⟨rfl,o6⟩;have S6:=Qaa (Qha (H5.out.1.past o6) (Qan _));have H6:=Qaa (H5.out.2.trans (T:=fun _ => False) o6 (fun _ _ f => f.elim));rw [show ((3 : Nat) : Int) = 3 from rfl] at S6;clear C5 o6 H5;go_wp2_with fail;refine S6.out.mono ?_;rintro e w7 ⟨u7,rfl,_,_,o7⟩;have F:=Qaa ((H6.out.trans (T:=fun _ => False) o7 (fun _ _ f => f.elim)).mono (T:=fun _ => False) (fun i hi e => by have:=HS.out;omega));clear S6 o7 H6
 have fd : ∀ W : World,(Instr.field 28 (.agg #[.int .u64 3,.slice (some ⟨u7,0,none⟩) 32 32]) 0).run Tryz.prog W = .ok (.int .u64 3) W:=fun _ => by kernel_rfl
 go_wp2;go_ret;exact ⟨rfl,F.out⟩
theorem QhR {f : Nat} {args : Array Value} {w : World} (h : Calls Tryz.prog f args w fun e w' => e = .returned (.bool true) ∧ Only (fun _ => False) w w') : Calls Tryz.prog f args w fun e w' => e = .returned (.bool true) ∧ Below w.heap.size w w':=by
 refine h.mono ?_;rintro e w' ⟨rfl,o⟩;exact ⟨rfl,o.low (Nat.le_refl _)⟩
theorem Qjc (W : World) : (W.alloc (.cells #[] 5)).ownsRow W.heap.size 5 1 (.slice (some ⟨W.heap.size,0,none⟩) 0 0) 0 (bl []):=World.ownsRow_made (base:=W.heap.size) (e:=5) (size:=1) W #[] 0 (Nat.le_refl _) (by unfold maxLen;omega) rfl
theorem Qg1 (vk vb : Value) (m b : List Int) (w : World) (bm : Bs .u8 w vk m) (nk : NoCap vk) (m8 : U8 m) (hb : Bs .u8 w vb b) (nb : NoCap vb) (b8 : U8 b) :
    Calls Tryz.prog 3 #[vk, vb] w fun e w' => e = .returned (.bool true) ∧ Only (fun _ => False) w w' := by
  obtain ⟨i0, hi, hz0, hz1, hz2⟩ := info_parts Tryz.infoU8;obtain ⟨ak, ck, rfl⟩ := bm.len;obtain ⟨ab, cb, rfl⟩ := hb.len;have AW := Qaa (Qg3 w)
  by_cases hm : m.length = 32
  case neg =>
    have d1 : ((m.length : Int) != 32) = true := by rw [bne_iff_ne]; omega
    obtain ⟨n, hn⟩ : ∃ n, n = m.length := ⟨_, rfl⟩;rw [← hn] at d1 ⊢;clear bm nk m8 hb nb b8 hm hn;go_enter Tryz.func3, Tryz.ntmps3;go_wp2_with fail;refine AW.out.mono ?_;rintro e w1 ⟨rfl, o1⟩;have F := Qaa o1;clear AW o1;go_wp2;go_ret;exact ⟨rfl, F.out⟩
  case pos =>
  have SM := Qaa (fun W (o : Only (fun _ => False) w W) => Qg2 _ b W (hb.past o) nb b8);have d1 : (((32 : Nat) : Int) != 32) = false := rfl;obtain ⟨bk, off, cap, ek, hc⟩ := bm.at 0 (by omega)
  obtain rfl : ak = some ⟨bk, off, none⟩ := by simp at ek; exact ek.1
  clear ek;rw [Nat.add_zero] at hc;have hx0 : 0 ≤ m.getD 0 0 ∧ m.getD 0 0 ≤ 255 := m8 _ (Qat (d := 0) (by omega));obtain ⟨x, hx⟩ : ∃ x, x = m.getD 0 0 := ⟨_, rfl⟩;rw [← hx] at hc hx0;rw [hm];rw [hm] at bm nk;obtain ⟨n, hn⟩ : ∃ n, n = b.length := ⟨_, rfl⟩;rw [← hn] at SM ⊢;have HK := Qaa (And.intro bm (And.intro nk (And.intro m8 (And.intro hm hc))));clear bm nk m8 hb nb b8 hm hc hn;go_enter Tryz.func3, Tryz.ntmps3;go_wp2_with fail;refine AW.out.mono ?_;rintro e w1 ⟨rfl, o1⟩;have S1 := Qaa (SM.out w1 o1);have O1 := Qaa o1;clear AW o1 SM;go_wp2_with fail;refine S1.out.mono ?_;rintro e w2 ⟨t, rfl, o2⟩;have O2 := Qaa (O1.out.same o2);clear S1 o2 O1
  cases t
  · go_wp2
    go_ret;exact ⟨rfl, O2.out⟩
  obtain ⟨W3, hW3⟩ : ∃ W, W = w2.alloc (.cells #[.slice none 0 0, .int .u64 0, .slice none 0 0, .int .i64 0, .int .i64 0] 30) := ⟨_, rfl⟩
  have o3 : Only (fun _ => False) w2 W3 := by rw [hW3]; exact (Only.refl _ _).alloc _
  have UE := Qaa (Qhc (show W3.heap[w2.heap.size]? = some (.cells #[.slice none 0 0, .int .u64 0, .slice none 0 0, .int .i64 0, .int .i64 0] 30 (0, 0)) by rw [hW3]; exact heap_alloc_new _ _));obtain ⟨E, hE⟩ : ∃ E, E = w2.heap.size := ⟨_, rfl⟩;have HE := Qaa hE;rw [← hE] at UE;have A3 := Qaa (Qjw (.pointer none) (.slice ab n cb) W3 (QeX W3));have O3 := Qaa (O2.out.same o3);have H3 := Qaa hW3;clear hE o3 O2 hW3;go_wp2_with fail;rw [← HE.out, ← H3.out];refine A3.out.mono ?_;rintro e w4 ⟨rfl, o4⟩;have U4 := Qaa (UE.out.past o4);have A4 := Qaa (Qjw _ (.slice ab n cb) w4 U4.out);have O4 := Qaa (O3.out.same o4);clear A3 o4 O3 H3 UE;go_wp2_with fail;refine A4.out.mono ?_;rintro e w5 ⟨rfl, o5⟩;have U5 := Qaa (U4.out.past o5);have A5 := Qaa (Qhd _ w5 (QeX w5));have O5 := Qaa (O4.out.same o5);clear A4 o5 O4 U4;go_wp2_with fail;refine A5.out.mono ?_;rintro e w6 ⟨rfl, o6⟩;have U6 := Qaa (U5.out.past o6);have A6 := Qaa (Qhd _ w6 U6.out);have O6 := Qaa (O5.out.same o6);clear A5 o6 O5 U5;go_wp2_with fail;refine A6.out.mono ?_;rintro e w7 ⟨rfl, o7⟩;have U7 := Qaa (U6.out.past o7);have O7 := Qaa (O6.out.same o7);have oA : Only (fun _ => False) w7 (w7.alloc (.cells #[] 5)) := (Only.refl _ _).alloc _;have OW := Qaa (Qjc w7);have B7 := Qaa (And.intro ((HK.out.1.past O7.out).past oA) HK.out.2.1)
  have b1 : Hid (0 + m.length ≤ maxLen) := by show _ ≤ _; have := HK.out.2.2.2.1; unfold maxLen; omega
  have b2 : Hid ((0 + m.length) * 1 ≤ 140737488355328) := by show _ ≤ _; have := HK.out.2.2.2.1; omega
  have Z : Hid (w7.heap.size ≤ (w7.alloc (.cells #[] 5)).heap.size) := oA.size;have O := Qaa oA;clear A6 o7 O6 U6 oA;go_wp2_with (first | (at_builtin; refine Qac _ rfl _ _ 22 rfl w7.heap.size 5 i0 (.int .u8 0) 1 Tryz.underlying22 hi hz0 hz1 hz2 rfl (.slice (some ⟨w7.heap.size, 0, none⟩) 0 0) 0 (bl []) rfl OW.out .u8 _ m rfl B7.out.1 B7.out.2 b1.out b2.out Z.out ?_) | fail);intro v8 w8 own8 g8 _ _;have own8' : w8.ownsRow w7.heap.size 5 1 v8 m.length (bl m) := own8;have o8 : Only (fun _ => False) w7 w8 := O.out.grown g8 (fun k hk e => by simp [Value.ownBlock] at e; omega);have b8 : Bs .u8 w8 v8 m := Bs.of_own (k := .u8) own8';clear own8 g8 B7 OW b1 b2 Z O
  rcases own8'.2 with ⟨_, h'⟩ | ⟨K, cap8, cur, h', hK, hg, _⟩
  · exfalso; have := HK.out.2.2.2.1; omega
  subst h';have hK8 := (Array.getElem?_eq_some_iff.1 hg).1;rw [HK.out.2.2.2.1] at b8 ⊢
  have hc8 : w8.cell? ⟨K, 0, none⟩ = some (.int .u8 x) := by
    obtain ⟨b', off', cap', e', hc'⟩ := b8.at 0 (by have := HK.out.2.2.2.1; omega);simp only [Value.slice.injEq, Option.some.injEq, Addr.mk.injEq] at e';obtain ⟨⟨rfl, rfl, -⟩, -, -⟩ := e';rw [hx]; exact hc'
  have NW := Qaa (Qhb _ _ m m 9 w8 b8 HK.out.2.2.2.1 b8 HK.out.2.2.2.1);rw [show ((9 : Nat) : Int) = 9 from rfl] at NW;have K8 := Qaa (And.intro hg (And.intro hK8 (And.intro hc8 (And.intro hK o8))));have B := Qaa (And.intro O7.out (And.intro U7.out hx));clear own8' o8 b8 hg hK8 hc8 hK O7 U7 hx;go_wp2_with fail;refine NW.out.mono ?_;rintro e w9 ⟨RB, rfl, r9, hRB, o9, keep9⟩;have ST := Qaa (fun (W : World) (h : RDN W RB m 9 m 0 0) => Qha h HK.out.2.2.2.1);rw [show ((9 : Nat) : Int) = 9 from rfl] at ST;have H9 := Qaa (And.intro r9 (And.intro o9 (And.intro keep9 hRB)));clear NW r9 hRB o9 keep9;go_wp2_with fail;refine (ST.out w9 H9.out.1).mono ?_;rintro e w10 ⟨u, rfl, _, _, o10⟩
  have fd : ∀ W : World, (Instr.field 28 (.agg #[.int .u64 9, .slice (some ⟨u, 0, none⟩) 32 32]) 1).run Tryz.prog W = .ok (.slice (some ⟨u, 0, none⟩) 32 32) W := fun _ => by kernel_rfl
  have hg10 := (H9.out.2.1.same o10).heap K8.out.1 (fun f => f);have hc10 : w10.cell? ⟨K, 0, none⟩ = some (.int .u8 x) := Qar K8.out.2.2.1 (H9.out.2.1.same o10);have hf10 : w10.frozen? ⟨K, 0, none⟩ = false := frozen_of_row w10 K 0 _ _ hg10;have O10 := Qaa o10;clear o10 hg10;go_wp2_with fail;obtain ⟨W11, hW11⟩ : ∃ W, W = w10.setCell ⟨K, 0, none⟩ (.int .u8 (bits BinOp.xor IntKind.u8 x 1)) := ⟨_, rfl⟩
  have o11 : Only (fun k => k = K) w10 W11 := by rw [hW11]; exact (Only.refl (fun k => k = K) w10).setCell (p := ⟨K, 0, none⟩) (fun _ => rfl) _
  rw [← hW11];have r11 : RDN W11 RB m 9 m 0 0 := H9.out.2.2.1 W11 ((O10.out.mono (T := fun k => k < w8.heap.size) (fun _ _ f => f.elim)).trans o11 (fun i _ e => by have := K8.out.2.1; omega));have p11 : Only (fun _ => False) w7 W11 := (K8.out.2.2.2.2.same (H9.out.2.1.same O10.out)).trans o11 (fun i hi e => by have := K8.out.2.2.2.1; omega);have S11 := Qaa (ST.out W11 r11);have hRB7 : w7.heap.size ≤ RB := Nat.le_trans K8.out.2.2.2.2.size H9.out.2.2.2;have H11 := Qaa (And.intro r11 (And.intro p11 hRB7));clear hc10 hf10 hW11 o11 r11 p11 H9 K8 O10 fd hRB7;refine S11.out.mono ?_;rintro e w12 ⟨u12, rfl, hb12, hu12, o12⟩;obtain ⟨W13, hW13⟩ : ∃ W, W = w12.alloc (.cells #[.int .u64 9, .slice (some ⟨u12, 0, none⟩) 32 32] 28) := ⟨_, rfl⟩
  have o13 : Only (fun _ => False) w12 W13 := by rw [hW13]; exact (Only.refl _ _).alloc _
  obtain ⟨⟨s0, s1, _, _⟩, _⟩ := And.intro (Qas (show W13.heap[w12.heap.size]? = some (.cells #[.int .u64 9, .slice (some ⟨u12, 0, none⟩) 32 32] 28 (0, 0)) by rw [hW13]; exact heap_alloc_new _ _)) trivial;have hb13 := hb12.past o13
  have hu0 : W13.cell? ⟨u12, 0, none⟩ = some (.int .u8 x) := by
    rw [hb13.cell, B.out.2.2, bl_at _ _ (by have := HK.out.2.2.2.1; omega)]
  have hf0 : W13.frozen? ⟨u12, 0, none⟩ = false := hb13.froz 0;have p13 := (H11.out.2.1.same o12).same o13;have hm0 : W13.cell? ⟨bk, off, none⟩ = some (.int .u8 x) := Qar HK.out.2.2.2.2 (B.out.1.same p13);have H13 := Qaa (And.intro p13 (And.intro (o12.same o13) hu12));clear hb12 hu12 o12 o13 hb13 p13 S11;have HW13 := Qaa hW13;subst hW13;go_wp2_with fail
  have dx : (x != x) = false := by simp
  go_quiet (fail);go_wp2_with fail;go_region;go_wp2_with fail;obtain ⟨W14, hW14⟩ : ∃ W, W = ((w12.alloc (.cells #[.int .u64 9, .slice (some ⟨u12, 0, none⟩) 32 32] 28)).drewN (nq + 1)).setCell ⟨u12, 0, none⟩ (.int .u8 (bits BinOp.xor IntKind.u8 x 1)) := ⟨_, rfl⟩
  have o14 : Only (fun k => k = u12) (w12.alloc (.cells #[.int .u64 9, .slice (some ⟨u12, 0, none⟩) 32 32] 28)) W14 := by rw [hW14]; exact ((Only.refl (fun k => k = u12) _).drewN _).setCell (p := ⟨u12, 0, none⟩) (fun _ => rfl) _
  rw [← hW14];have r14 : RDN W14 RB m 9 m 0 0 := H11.out.1.past (H13.out.2.1.trans o14 (fun i hi e => by have := H13.out.2.2; omega));have p14 : Only (fun _ => False) w7 W14 := H13.out.1.trans o14 (fun i hi e => by have := H13.out.2.2; have := H11.out.2.1.size; omega);have S14 := Qaa (ST.out W14 r14)
  have hRB14 : RB < W14.heap.size := by obtain ⟨_, _, h1, _⟩ := r14; exact (Array.getElem?_eq_some_iff.1 h1).1
  have H14 := Qaa (And.intro r14 (And.intro p14 (And.intro hRB14 H11.out.2.2)));clear s0 s1 hu0 hf0 hm0 hW14 o14 r14 p14 hRB14 H13 H11 ST dx HW13;refine S14.out.mono ?_;rintro e w15 ⟨u15, rfl, hb15, hu15, o15⟩;obtain ⟨T, hT⟩ : ∃ T, T = w15.heap.size := ⟨_, rfl⟩;obtain ⟨W16, hW16⟩ : ∃ W, W = w15.alloc (.cells #[.int .u64 9, .slice (some ⟨u15, 0, none⟩) 32 32] 28) := ⟨_, rfl⟩
  have o16 : Only (fun _ => False) w15 W16 := by rw [hW16]; exact (Only.refl _ _).alloc _
  have gT : W16.heap[T]? = some (.cells #[.int .u64 9, .slice (some ⟨u15, 0, none⟩) 32 32] 28 (0, 0)) := by rw [hW16, hT]; exact heap_alloc_new _ _
  have p16 := (H14.out.2.1.same o15).same o16;have BT := Qaa (Qd7 _ m 10 W16 (HK.out.1.past (B.out.1.same p16)) HK.out.2.1 HK.out.2.2.1 HK.out.2.2.2.1 (by decide));rw [show ((10 : Nat) : Int) = 10 from rfl] at BT;have H16 := Qaa (And.intro p16 (And.intro ((H14.out.1.past o15).past o16) (And.intro gT (And.intro (hb15.past o16) (And.intro (show RB < u15 by have := H14.out.2.2.1; omega) (And.intro (show RB < T by have := H14.out.2.2.1; have := o15.size; omega) H14.out.2.2.2))))));have HT := Qaa hT;have HW16 := Qaa hW16;clear hb15 hu15 o15 o16 gT p16 S14 H14 hT hW16;go_wp2_with fail;rw [← HT.out, ← HW16.out];refine BT.out.mono ?_;rintro e w17 ⟨v17, rfl, b17, n17, o17⟩;have OF := Qaa (QdO (H16.out.2.1.past o17) HK.out.2.2.1 HK.out.2.2.2.1 HK.out.2.2.1 (.inr ⟨HK.out.2.2.2.1, by decide⟩) (by decide) v17 b17);obtain ⟨a17, c17, rfl⟩ := b17.len;obtain ⟨k17, hk17⟩ : ∃ k, k = (EAT m 10).length := ⟨_, rfl⟩;rw [← hk17] at OF ⊢;have O17 := Qaa o17;clear b17 n17 o17 hk17 BT;go_wp2_with fail;refine OF.out.mono ?_;rintro e w18 ⟨a18, n18, c18, rfl, _, o18⟩;have oR : Only (fun k => k = RB) W16 w18 := (O17.out.mono (fun _ _ f => f.elim)).trans o18 (fun _ _ e => e);have p18 : Only (fun _ => False) w7 w18 := H16.out.1.trans oR (fun i hi e => by have := H16.out.2.2.2.2.2.2; omega);have gT18 := oR.heap H16.out.2.2.1 (fun e => by have := H16.out.2.2.2.2.2.1; omega);obtain ⟨⟨_, t1, _, _⟩, _⟩ := And.intro (Qas gT18) trivial;have bu18 := H16.out.2.2.2.1.keep oR (fun e => by have := H16.out.2.2.2.2.1; omega)
  have u18 : w18.cell? ⟨u15, 0, none⟩ = some (.int .u8 x) := by
    rw [bu18.cell, B.out.2.2, bl_at _ _ (by have := HK.out.2.2.2.1; omega)]
  have m18 : w18.cell? ⟨bk, off, none⟩ = some (.int .u8 x) := Qar HK.out.2.2.2.2 (B.out.1.same p18);have KS := Qaa (fun (W : World) (o : Only (fun _ => False) w18 W) => (show W.cell? ⟨T, 1, none⟩ = some (.slice (some ⟨u15, 0, none⟩) 32 32) ∧ W.cell? ⟨u15, 0, none⟩ = some (.int .u8 x) ∧ W.cell? ⟨bk, off, none⟩ = some (.int .u8 x) from ⟨Qar t1 o, Qar u18 o, Qar m18 o⟩));have N1 := Qaa (fun (W : World) => Qjx (.pointer none) W (QeX W));have N2 := Qaa (fun (W : World) (o : Only (fun _ => False) w18 W) => Qjx (.pointer (some ⟨E, 0, none⟩)) W (B.out.2.1.past (p18.same o)));have P := Qaa (B.out.1.same p18)
  have fd : ∀ W : World, (Instr.field 28 (.agg #[.int .u64 0, .slice none 0 0]) 1).run Tryz.prog W = .ok (.slice none 0 0) W := fun _ => by kernel_rfl
  have CR : Hid (Only (fun _ => False) w18 w18.drew) := (Only.refl _ _).drew
  have dx : (x == x) = true := by simp
  clear o18 oR p18 gT18 t1 bu18 u18 m18 OF O17 H16 HT HW16 B HK HE;go_wp2_with fail
  go_region_held3 (fun W => W.cell? ⟨T, 1, none⟩ = some (.slice (some ⟨u15, 0, none⟩) 32 32) ∧ W.cell? ⟨u15, 0, none⟩ = some (.int .u8 x) ∧ W.cell? ⟨bk, off, none⟩ = some (.int .u8 x))
    (first | assumption | exact KS.out _ CR.out)
    (first | (go_at_call 9; refine (N1.out _).mono ?_; rintro e w19 ⟨rfl, o19⟩; have CR := Qaa (CR.out.same o19); clear o19 N1) | (go_at_call 9; refine (N2.out _ CR.out).mono ?_; rintro e w20 ⟨rfl, o20⟩; have CR := Qaa (CR.out.same o20); clear o20 N2))
  all_goals
    go_wp2;go_ret;exact ⟨rfl, P.out.same CR.out⟩
theorem QiE (vk vb : Value) (m b : List Int) (w : World) (bm : Bs .u8 w vk m) (nk : NoCap vk) (m8 : U8 m) (hb : Bs .u8 w vb b) (nb : NoCap vb) (b8 : U8 b) :
    Calls Tryz.prog 3 #[vk, vb] w fun e w' => e = .returned (.bool true) ∧ Below w.heap.size w w' := QhR (Qg1 vk vb m b w bm nk m8 hb nb b8)
end Go.Proofs.YtcpopagikbjimaaGreatDoor
