import Derived.Test.YtcpopagikbjimaaGreatDoorG22
namespace Go.Proofs.YtcpopagikbjimaaGreatDoor
set_option maxHeartbeats 4000000
set_option maxRecDepth 100000
open Go.RowKit
def TRe (k : List Int) (s : STT) (m : MAN) (sg : List Int) : Int :=
 if MCe k sg = 0 then (if s.2.length = 0 then 0 else if m.ver < s.1 then 6 else if m.ver = s.1 ∧ m.root ≠ s.2 then 7 else 0) else 5
theorem QdE (vk vt x vp ve vr vs : Value) (k r sg : List Int) (p : Nat) (m : MAN) (w : World) (bk : Bs .u8 w vk k) (k8 : U8 k) (bt : Bs .u8 w vt r) (r8 : U8 r) (hm : Mf w x m vp ve vr) (m8 : U8 m.root) (bs : Bs .u8 w vs sg) (s8 : U8 sg) (hl : sg.length ≤ 10000000000) :
  Calls Tryz.prog 24 #[vk,.agg #[.int .u64 p,vt],x,vs] w fun e w' => e = .returned (.int .i64 (TRe k (p,r) m sg)) ∧ Only (fun _ => False) w w':=by
 have hf:=hm.form;obtain ⟨ap,cp,ep⟩:=hm.prev.len;obtain ⟨ae,ce,ee⟩:=hm.es.len;obtain ⟨ar,cr,er⟩:=hm.root.len;obtain ⟨at',ct,et⟩:=bt.len;subst ep ee er hf et;obtain ⟨w0,hw0⟩ : ∃ w0,w0 = (w.alloc (.cells #[.int .u64 p,.slice at' r.length ct] 28)).alloc (.cells #[.int .u64 m.ver,.slice ap m.prev.length cp,.slice ae m.es.length ce,.slice ar m.root.length cr] 44):=⟨_,rfl⟩
 have o0 : Only (fun _ => False) w w0:=by rw [hw0];exact ((Only.refl _ _).alloc _).alloc _
 have gP : w0.heap[w.heap.size]? = some (.cells #[.int .u64 p,.slice at' r.length ct] 28 (0,0)):=by rw [hw0];exact Qaf (heap_alloc_new _ _)
 have gM : w0.heap[w.heap.size + 1]? = some (.cells #[.int .u64 m.ver,.slice ap m.prev.length cp,.slice ae m.es.length ce,.slice ar m.root.length cr] 44 (0,0)):=by rw [hw0];exact Qak (by simp)
 have CK:=Qaa (QgF vk vs k sg w0 (bk.past o0) k8 (bs.past o0) s8 hl);have TS:=Qaa (fun W => QcU (.int .u64 p) at' r.length ct W);have EQ:=Qaa (fun (W : World) (o : Only (fun _ => False) w W) => Qfg (.slice ar m.root.length cr) (.slice at' r.length ct) m.root r W (hm.root.past o) (bt.past o) m8 r8);have HW:=Qaa (And.intro hw0 (And.intro o0 (And.intro gP gM)));obtain ⟨e,he⟩ : ∃ e,e = MCe k sg:=⟨_,rfl⟩
 have hT : TRe k (p,r) m sg = if e = 0 then (if r.length = 0 then 0 else if m.ver < p then 6 else if m.ver = p ∧ m.root ≠ r then 7 else 0) else 5:=by rw [he];rfl
 rw [hT];rw [← he] at CK;obtain ⟨n,hn⟩ : ∃ n,n = r.length:=⟨_,rfl⟩;obtain ⟨q,hq⟩ : ∃ q,q = m.root.length:=⟨_,rfl⟩;rw [← hn] at HW TS EQ ⊢;rw [← hq] at HW EQ ⊢;clear bk k8 bt r8 hm m8 bs s8 hl hw0 o0 gP gM he hT hn hq
 by_cases h1 : e = 0
 ·subst h1
  rw [if_pos rfl]
  by_cases h2 : n = 0
  ·subst h2
   rw [if_pos rfl];simp only [show decide (0 < 0) = false from rfl] at TS;go_enter Tryz.func24,Tryz.ntmps24;go_wp2_with fail;rw [← HW.out.1];refine CK.out.mono ?_;rintro e w1 ⟨x1,vp1,ve1,vr1,rfl,mn,o1⟩;have hf:=mn.mf.form;obtain ⟨ap1,cp1,ep⟩:=mn.mf.prev.len;obtain ⟨ae1,ce1,ee⟩:=mn.mf.es.len;obtain ⟨ar1,cr1,er⟩:=mn.mf.root.len;subst ep ee er hf;obtain ⟨W2,hW2⟩ : ∃ W,W = w1.alloc (.cells #[.int .u64 (MCv k sg).ver,.slice ap1 (MCv k sg).prev.length cp1,.slice ae1 (MCv k sg).es.length ce1,.slice ar1 (MCv k sg).root.length cr1] 44):=⟨_,rfl⟩
   have o2 : Only (fun _ => False) w0 W2:=by rw [hW2];exact o1.alloc _
   obtain ⟨c0,c1,_,_⟩:=Qas (o2.heap HW.out.2.2.1 (fun f => f));have TS1:=Qaa (TS.out W2);have O2:=Qaa (HW.out.2.1.same o2);clear mn o1 o2 TS CK EQ;subst hW2;go_wp2_with fail;refine TS1.out.mono ?_;rintro e w3 ⟨rfl,o3⟩;have F:=Qaa (O2.out.same o3);clear TS1 o3 O2;go_wp2;go_ret;exact ⟨rfl,F.out⟩
  ·rw [if_neg h2]
   simp only [decide_eq_true (by omega : 0 < n)] at TS;obtain ⟨t,ht⟩ : ∃ t,t = decide (m.root = r):=⟨_,rfl⟩;simp only [← ht] at EQ;have d1 : decide ((m.ver : Int) < (p : Int)) = decide (m.ver < p):=decide_eq_decide.2 (by omega)
   have d2 : ((m.ver : Int) == (p : Int)) = decide (m.ver = p):=by
    by_cases h : m.ver = p
    ·rw [decide_eq_true h,h];simp
    ·rw [decide_eq_false h,beq_eq_false_iff_ne];omega
   obtain ⟨a,ha⟩ : ∃ a,a = decide (m.ver < p):=⟨_,rfl⟩;obtain ⟨b,hb⟩ : ∃ b,b = decide (m.ver = p):=⟨_,rfl⟩
   have hR : (if m.ver < p then (6 : Int) else if m.ver = p ∧ m.root ≠ r then 7 else 0) = if a = true then 6 else if b = true ∧ t = false then 7 else 0:=by rw [ha,hb,ht];simp
   rw [hR]
   have hab : ¬ (a = true ∧ b = true):=by rw [ha,hb];simp;omega
   have ha':=ha.symm;rw [← ha] at d1;rw [← hb] at d2;clear ha hb ht hR h2
   have W1 : Hid (∀ (v : Int),(if a = true then 6 else if b = true ∧ t = false then 7 else 0) = v → Calls Tryz.prog 24 #[vk,.agg #[.int .u64 p,.slice at' n ct],.agg #[.int .u64 m.ver,.slice ap m.prev.length cp,.slice ae m.es.length ce,.slice ar q cr],vs] w fun e w' => e = .returned (.int .i64 v) ∧ Only (fun _ => False) w w'):=by
    intro v hv
    cases ha2 : a <;> cases hb2 : b <;> cases ht2 : t
    all_goals (subst ha2 hb2 ht2)
    all_goals (first | (exact absurd ⟨rfl,rfl⟩ hab) | skip)
    all_goals (simp at hv)
    all_goals (
     subst hv;clear hab;go_enter Tryz.func24,Tryz.ntmps24;go_wp2_with fail;rw [← HW.out.1];refine CK.out.mono ?_;rintro e w1 ⟨x1,vp1,ve1,vr1,rfl,mn,o1⟩;have hf:=mn.mf.form;obtain ⟨ap1,cp1,ep⟩:=mn.mf.prev.len;obtain ⟨ae1,ce1,ee⟩:=mn.mf.es.len;obtain ⟨ar1,cr1,er⟩:=mn.mf.root.len;subst ep ee er hf;obtain ⟨W2,hW2⟩ : ∃ W,W = w1.alloc (.cells #[.int .u64 (MCv k sg).ver,.slice ap1 (MCv k sg).prev.length cp1,.slice ae1 (MCv k sg).es.length ce1,.slice ar1 (MCv k sg).root.length cr1] 44):=⟨_,rfl⟩
     have o2 : Only (fun _ => False) w0 W2:=by rw [hW2];exact o1.alloc _
     obtain ⟨c0,c1,_,_⟩:=Qas (o2.heap HW.out.2.2.1 (fun f => f));have TS1:=Qaa (TS.out W2);have O2:=Qaa (And.intro (HW.out.2.1.same o2) o2);clear mn o1 o2 TS CK;subst hW2;go_wp2_with fail;refine TS1.out.mono ?_;rintro e w3 ⟨rfl,o3⟩;clear c0 c1;obtain ⟨c0,c1,_,_⟩:=Qas ((O2.out.2.same o3).heap HW.out.2.2.1 (fun f => f));obtain ⟨⟨m0,m1,m2,m3⟩,_⟩:=Qaq ((O2.out.2.same o3).heap HW.out.2.2.2 (fun f => f));have EQ1:=Qaa (EQ.out w3 (O2.out.1.same o3));have F:=Qaa (O2.out.1.same o3);clear TS1 o3 O2 EQ;go_wp2_with (first | (go_at_call 25;refine EQ1.out.mono ?_;rintro e w4 ⟨rfl,rfl⟩))
     all_goals (
      go_ret
      exact ⟨rfl,F.out⟩))
   exact W1.out _ rfl
 ·rw [if_neg h1]
  have hne : (e != 0) = true:=by simpa using h1
  clear h1 TS EQ;go_enter Tryz.func24,Tryz.ntmps24;go_wp2_with fail;rw [← HW.out.1];refine CK.out.mono ?_;rintro e w1 ⟨x1,vp1,ve1,vr1,rfl,mn,o1⟩;have hf:=mn.mf.form;obtain ⟨ap1,cp1,ep⟩:=mn.mf.prev.len;obtain ⟨ae1,ce1,ee⟩:=mn.mf.es.len;obtain ⟨ar1,cr1,er⟩:=mn.mf.root.len;subst ep ee er hf;have F:=Qaa (HW.out.2.1.same (o1.alloc (.cells #[.int .u64 (MCv k sg).ver,.slice ap1 (MCv k sg).prev.length cp1,.slice ae1 (MCv k sg).es.length ce1,.slice ar1 (MCv k sg).root.length cr1] 44)));clear mn o1 CK;go_wp2;go_ret;exact ⟨rfl,F.out⟩
def UAc (vk : Value) (m : MAN) (ls : List (List Int)) (cs : List CHK) (w : World) : Prop :=
 ∀ (W : World) (x vp ve vr a : Value) (vs : List Value) (lo : Nat),Only (fun _ => False) w W → Mf W x m vp ve vr → LO W vs ls → W.ownsRow lo 22 1 a ls.length vs →
  Calls Tryz.prog 27 #[vk,x,a] W fun e w' => ∃ c,e = .returned (.tuple #[c,.int .i64 0]) ∧ (∀ (W' : World) (R : Nat),R < W.heap.size → Only (fun k => k = R) w' W' → Chs W' c cs) ∧ Only (fun _ => False) W w'
theorem Qe9 {b sg : List Int} {m : MAN} {ls : List (List Int)} (h8 : U8 b) (h : SPX b = .ok (m,sg,ls)) : MGD m ∧ U8 sg ∧ sg.length ≤ 268435456:=by
 obtain ⟨k,hs,h32,hm,hcut⟩:=Qjd h;have hsg:=Qcq h8 hs;refine ⟨(QcL (hsg.take _) hm).1,hsg,?_⟩;unfold Qae at hs;rw [if_neg (by omega)] at hs
 split at hs
 ·simp only [Prod.mk.injEq] at hs;rw [← hs.1];simp
 ·split at hs
  ·simp only [Prod.mk.injEq] at hs;omega
  ·split at hs
   ·simp only [Prod.mk.injEq] at hs;omega
   ·simp only [Prod.mk.injEq] at hs;rw [← hs.1,List.length_take];omega
theorem QhO (vk vt vb : Value) (k r b sg : List Int) (p : Nat) (m : MAN) (ls : List (List Int)) (cs : List CHK) (w : World) (bk : Bs .u8 w vk k) (k8 : U8 k) (bt : Bs .u8 w vt r) (r8 : U8 r) (hb : Bs .u8 w vb b) (b8 : U8 b) (hl : b.length ≤ 1000000000000)
  (h32 : k.length = 32) (hr : r.length = 0 ∨ r.length = 32) (hx : SPX b = .ok (m,sg,ls)) (l8 : R8 ls) (hll : ls.length ≤ 1048576) (hroot : RTF ls = m.root) (hT : TRe k (p,r) m sg = 0) (hU : UAc vk m ls cs w) :
  Calls Tryz.prog 13 #[vk,.agg #[.int .u64 p,vt],vb] w fun e w' => ∃ c rv,e = .returned (.tuple #[c,.agg #[.int .u64 m.ver,rv],.int .i64 0]) ∧ Chs w' c cs ∧ Bs .u8 w' rv m.root ∧ NoCap rv ∧ Only (fun _ => False) w w':=by
 obtain ⟨hG,hs8,hsl⟩:=Qe9 b8 hx;obtain ⟨ak,ck,ek⟩:=bk.len;obtain ⟨at',ct,et⟩:=bt.len;subst ek et;obtain ⟨w0,hw0⟩ : ∃ w0,w0 = (w.alloc (.cells #[.int .u64 p,.slice at' r.length ct] 28)).alloc (.cells #[.int .u64 0,.slice none 0 0] 28):=⟨_,rfl⟩
 have o0 : Only (fun _ => False) w w0:=by rw [hw0];exact ((Only.refl _ _).alloc _).alloc _
 have gP : Hid (w0.heap[w.heap.size]? = some (.cells #[.int .u64 p,.slice at' r.length ct] 28 (0,0))):=by show _ = _;rw [hw0];exact Qaf (heap_alloc_new _ _)
 have gR : Hid (w0.heap[w.heap.size + 1]? = some (.cells #[.int .u64 0,.slice none 0 0] 28 (0,0))):=by show _ = _;rw [hw0];exact Qak (by simp)
 obtain ⟨p0,p1,_,_⟩:=Qas gP.out;have RI:=Qaa (QdC (.int .u64 p) at' r.length ct w0);rw [decide_eq_true hr] at RI;have SP:=Qaa (fun W (o : Only (fun _ => False) w W) => Qe7 vb b W (hb.past o) b8 hl hx);have TR:=Qaa (fun (W : World) (o : Only (fun _ => False) w W) (x vp ve vr vs : Value) (hm : Mf W x m vp ve vr) (hv : Bs .u8 W vs sg) => QdE (.slice ak k.length ck) (.slice at' r.length ct) x vp ve vr vs k r sg p m W (bk.past o) k8 (bt.past o) r8 hm hG.2.2.1.2 hv hs8 (by omega));simp only [hT] at TR;have RT:=Qaa (fun (W : World) (x : Value) (h : RL W x ls) => QfK x ls W h l8 (by omega));have EQ:=Qaa (fun (W : World) (x y : Value) (h1 : Bs .u8 W x (RTF ls)) (h2 : Bs .u8 W y m.root) => Qfg x y (RTF ls) m.root W h1 h2 (QkB ls) hG.2.2.1.2);simp only [decide_eq_true hroot] at EQ;have UA:=Qaa hU;have HW:=Qaa (And.intro hw0 o0)
 have hsz : Hid (w0.heap.size = w.heap.size + 2):=by show _ = _;rw [hw0];simp
 have d1 : ((k.length : Int) != 32) = false:=by rw [h32];rfl
 obtain ⟨M,hM⟩ : ∃ M,M = k.length:=⟨_,rfl⟩;obtain ⟨n,hn⟩ : ∃ n,n = r.length:=⟨_,rfl⟩;rw [← hM] at d1 TR UA ⊢;rw [← hn] at RI TR gP HW p1 ⊢;have HL:=Qaa (And.intro hll (And.intro (Qgf ls) hroot));clear bk k8 bt r8 hb b8 hl h32 hr hx l8 hll hroot hT hU hG hs8 hsl hw0 o0 hM hn;go_enter Tryz.func13,Tryz.ntmps13;go_wp2_with fail;rw [← HW.out.1];refine RI.out.mono ?_;rintro e w1 ⟨rfl,o1⟩;have SP1:=Qaa (SP.out w1 (HW.out.2.same o1));have O1:=Qaa o1;clear RI SP o1 p0 p1;go_wp2_with fail;refine SP1.out.mono ?_;rintro e w2 ⟨x,vp,ve,vr,u,a,rfl,sw⟩;have hf:=sw.mn.mf.form;obtain ⟨ap,cp,ep⟩:=sw.mn.mf.prev.len;obtain ⟨ae,ce,ee⟩:=sw.mn.mf.es.len;obtain ⟨ar,cr,er⟩:=sw.mn.mf.root.len;subst ep ee er hf;obtain ⟨vs,lo,own⟩:=sw.ls;obtain ⟨aa,ca,ea⟩:=Qad own;subst ea;obtain ⟨W3,hW3⟩ : ∃ W,W = w2.alloc (.cells #[.int .u64 m.ver,.slice ap m.prev.length cp,.slice ae m.es.length ce,.slice ar m.root.length cr] 44):=⟨_,rfl⟩
 have o3 : Only (fun _ => False) w2 W3:=by rw [hW3];exact (Only.refl _ _).alloc _
 have o03 : Only (fun _ => False) w0 W3:=(O1.out.same sw.o).same o3
 have gM:=show W3.heap[w2.heap.size]? = some (.cells #[.int .u64 m.ver,.slice ap m.prev.length cp,.slice ae m.es.length ce,.slice ar m.root.length cr] 44 (0,0)) by rw [hW3];exact heap_alloc_new _ _
 have hld:=Qag gM;obtain ⟨⟨y0,y1,y2,y3⟩,_⟩:=Qaq gM;obtain ⟨p0,p1,_,_⟩:=Qas (o03.heap gP.out (fun f => f));have TR3:=Qaa (TR.out W3 (HW.out.2.same o03) _ (.slice ap m.prev.length cp) (.slice ae m.es.length ce) (.slice ar m.root.length cr) u (sw.mn.mf.past o3) (sw.sg.past o3));have H3:=Qaa (And.intro o03 (And.intro gM (And.intro (sw.mn.mf.past o3) (And.intro (lo.past o3) (And.intro (o3.own own (fun _ _ f => f)) sw.mn.nr)))));clear sw lo own o3 o03 gM TR SP1 O1;subst hW3;go_wp2_with fail;refine TR3.out.mono ?_;rintro e w4 ⟨rfl,o4⟩;have gM4:=o4.heap H3.out.2.1 (fun f => f);clear y0 y1 y2 y3 hld p0 p1;obtain ⟨⟨y0,y1,y2,y3⟩,_⟩:=Qaq gM4;have H4:=Qaa (And.intro (H3.out.1.same o4) (And.intro gM4 (And.intro (H3.out.2.2.1.past o4) (And.intro (H3.out.2.2.2.1.past o4) (And.intro (o4.own H3.out.2.2.2.2.1 (fun _ _ f => f)) H3.out.2.2.2.2.2)))));have RL4:=Qaa (fun (W : World) (o : Only (fun _ => False) w4 W) => ((H4.out.2.2.2.1.past o).rl (lo:=w1.heap.size) (by rw [H4.out.2.2.2.1.1];exact o.own H4.out.2.2.2.2.1 (fun _ _ f => f))).1);have MR4:=Qaa (fun (W : World) (o : Only (fun _ => False) w4 W) => H4.out.2.2.1.root.past o);have RT4:=Qaa (fun (W : World) (o : Only (fun _ => False) w4 W) => RT.out W _ (RL4.out W o));clear o4 gM4 TR3 H3 RT RL4;go_wp2_with fail
 go_region_held3 (fun W => W.cell? ⟨w2.heap.size,3,none⟩ = some (.slice ar m.root.length cr)) (go_keep)
  (first
   | (go_at_call 26;refine (RT4.out _ ((Only.refl _ _).drew)).mono ?_;rintro e w5 ⟨u5,rfl,own5,o5⟩;have O5:=Qaa (((Only.refl (fun _ => False) w4).drew).same o5);have k3:=Qar y3 O5.out;obtain ⟨a5,c5,rfl⟩:=Qad own5;have B5:=Qaa (show Bs .u8 w5 (.slice a5 32 c5) (RTF ls) from Bs.of_own (k:=.u8) (E:=5) (lo:=w4.drew.heap.size) (by rw [HL.out.2.1];exact own5));clear own5 o5 y0 y1 y2 y3 RT4)
   | (go_at_call 25;refine (EQ.out w5 _ _ B5.out (MR4.out w5 O5.out)).mono ?_;rintro e w6 ⟨rfl,rfl⟩;clear B5 EQ)
   | fail)
 have gM5:=O5.out.heap H4.out.2.1 (fun f => f);have hld:=Qag gM5;clear k3;obtain ⟨⟨y0,y1,y2,y3⟩,_⟩:=Qaq gM5;have UA5:=Qaa (UA.out w5 _ (.slice ap m.prev.length cp) (.slice ae m.es.length ce) (.slice ar m.root.length cr) (.slice aa ls.length ca) vs w1.heap.size (HW.out.2.same (H4.out.1.same O5.out)) (H4.out.2.2.1.past O5.out) (H4.out.2.2.2.1.past O5.out) (O5.out.own H4.out.2.2.2.2.1 (fun _ _ f => f)));have H5:=Qaa (And.intro (H4.out.1.same O5.out) (And.intro gM5 (And.intro (MR4.out w5 O5.out) H4.out.2.2.2.2.2)));clear gM5 H4 O5 MR4 UA;go_wp2_with fail;refine UA5.out.mono ?_;rintro e w7 ⟨c,rfl,hch,o7⟩;have o07:=H5.out.1.same o7
 have hRs : w.heap.size + 1 < w5.heap.size:=by have:=hsz.out;have:=H5.out.1.size;omega
 obtain ⟨ac,lc,cc,rfl⟩ : ∃ a n c',c = .slice a n c':=by
  obtain ⟨a,c',e,_⟩:=(hch w7 (w.heap.size + 1) hRs (Only.refl _ _)).len;exact ⟨_,_,_,e⟩
 have gM7:=o7.heap H5.out.2.1 (fun f => f);clear hld y0 y1 y2 y3;obtain ⟨⟨y0,y1,y2,y3⟩,_⟩:=Qaq gM7;have gR7:=o07.heap gR.out (fun f => f);obtain ⟨q0,q1,z0,z1⟩:=Qas gR7;have P2:=put2 gR7 (.int .u64 m.ver) (.slice ar m.root.length cr)
 have hne : ¬ w2.heap.size = w.heap.size + 1:=by
  intro e;rw [e] at gM7;rw [gM7] at gR7;simp at gR7
 have F:=Qaa (And.intro (Qcm (show ((((w7.setCell ⟨w.heap.size + 1,0,none⟩ (.int .u64 m.ver)).setCell ⟨w.heap.size + 1,1,none⟩ (.slice ar m.root.length cr)).drew).heap[w.heap.size + 1]? = _) from P2.1)) (And.intro (hch _ _ hRs P2.2.drew) (And.intro (((H5.out.2.2.1.past o7).offB (g:=w.heap.size + 1) (T:=28) (cs:=[.int .u64 0,.slice none 0 0]) gR7 (fun y hy x => by simp at hy;rcases hy with rfl | rfl <;> simp) P2.2.drew)) (And.intro H5.out.2.2.2 ((HW.out.2.same o07).trans P2.2.drew (fun i hi e => by omega))))));clear hch o7 o07 UA5 gM7 gR7 P2 H5 hRs;go_wp2;go_region;go_wp2;exact bodyPost_ret (Qbs rfl _ _ rfl rfl rfl F.out.1) rfl ⟨_,_,rfl,F.out.2⟩
theorem QhQ (vk vt vb : Value) (k r b sg : List Int) (p : Nat) (m : MAN) (ls : List (List Int)) (w : World) (bk : Bs .u8 w vk k) (k8 : U8 k) (bt : Bs .u8 w vt r) (r8 : U8 r) (hb : Bs .u8 w vb b) (b8 : U8 b) (hl : b.length ≤ 1000000000000)
  (h32 : k.length = 32) (hr : r.length = 0 ∨ r.length = 32) (hx : SPX b = .ok (m,sg,ls)) {c : Int} (hT : TRe k (p,r) m sg = c) (hc : c ≠ 0) :
  Calls Tryz.prog 13 #[vk,.agg #[.int .u64 p,vt],vb] w fun e w' => e = .returned (.tuple #[NIL,.agg #[.int .u64 0,NIL],.int .i64 c]) ∧ Only (fun _ => False) w w':=by
 obtain ⟨hG,hs8,hsl⟩:=Qe9 b8 hx;obtain ⟨ak,ck,ek⟩:=bk.len;obtain ⟨at',ct,et⟩:=bt.len;subst ek et;obtain ⟨w0,hw0⟩ : ∃ w0,w0 = (w.alloc (.cells #[.int .u64 p,.slice at' r.length ct] 28)).alloc (.cells #[.int .u64 0,.slice none 0 0] 28):=⟨_,rfl⟩
 have o0 : Only (fun _ => False) w w0:=by rw [hw0];exact ((Only.refl _ _).alloc _).alloc _
 have gP : Hid (w0.heap[w.heap.size]? = some (.cells #[.int .u64 p,.slice at' r.length ct] 28 (0,0))):=by show _ = _;rw [hw0];exact Qaf (heap_alloc_new _ _)
 have gR : Hid (w0.heap[w.heap.size + 1]? = some (.cells #[.int .u64 0,.slice none 0 0] 28 (0,0))):=by show _ = _;rw [hw0];exact Qak (by simp)
 obtain ⟨p0,p1,_,_⟩:=Qas gP.out;have RI:=Qaa (QdC (.int .u64 p) at' r.length ct w0);rw [decide_eq_true hr] at RI;have SP:=Qaa (fun W (o : Only (fun _ => False) w W) => Qe7 vb b W (hb.past o) b8 hl hx);have TR:=Qaa (fun (W : World) (o : Only (fun _ => False) w W) (x vp ve vr vs : Value) (hm : Mf W x m vp ve vr) (hv : Bs .u8 W vs sg) => QdE (.slice ak k.length ck) (.slice at' r.length ct) x vp ve vr vs k r sg p m W (bk.past o) k8 (bt.past o) r8 hm hG.2.2.1.2 hv hs8 (by omega));simp only [hT] at TR
 have hne : (c != 0) = true:=by simpa using hc
 have HW:=Qaa (And.intro hw0 o0)
 have hsz : Hid (w0.heap.size = w.heap.size + 2):=by show _ = _;rw [hw0];simp
 have d1 : ((k.length : Int) != 32) = false:=by rw [h32];rfl
 obtain ⟨M,hM⟩ : ∃ M,M = k.length:=⟨_,rfl⟩;obtain ⟨n,hn⟩ : ∃ n,n = r.length:=⟨_,rfl⟩;rw [← hM] at d1 TR ⊢;rw [← hn] at RI TR gP HW p1 ⊢;clear bk k8 bt r8 hb b8 hl h32 hr hx hT hc hG hs8 hsl hw0 o0 hM hn;go_enter Tryz.func13,Tryz.ntmps13;go_wp2_with fail;rw [← HW.out.1];refine RI.out.mono ?_;rintro e w1 ⟨rfl,o1⟩;have SP1:=Qaa (SP.out w1 (HW.out.2.same o1));have O1:=Qaa o1;clear RI SP o1 p0 p1;go_wp2_with fail;refine SP1.out.mono ?_;rintro e w2 ⟨x,vp,ve,vr,u,a,rfl,sw⟩;have hf:=sw.mn.mf.form;obtain ⟨ap,cp,ep⟩:=sw.mn.mf.prev.len;obtain ⟨ae,ce,ee⟩:=sw.mn.mf.es.len;obtain ⟨ar,cr,er⟩:=sw.mn.mf.root.len;subst ep ee er hf;obtain ⟨vs,lo,own⟩:=sw.ls;obtain ⟨aa,ca,ea⟩:=Qad own;subst ea;obtain ⟨W3,hW3⟩ : ∃ W,W = w2.alloc (.cells #[.int .u64 m.ver,.slice ap m.prev.length cp,.slice ae m.es.length ce,.slice ar m.root.length cr] 44):=⟨_,rfl⟩
 have o3 : Only (fun _ => False) w2 W3:=by rw [hW3];exact (Only.refl _ _).alloc _
 have o03 : Only (fun _ => False) w0 W3:=(O1.out.same sw.o).same o3
 have gM:=show W3.heap[w2.heap.size]? = some (.cells #[.int .u64 m.ver,.slice ap m.prev.length cp,.slice ae m.es.length ce,.slice ar m.root.length cr] 44 (0,0)) by rw [hW3];exact heap_alloc_new _ _
 have hld:=Qag gM;obtain ⟨⟨y0,y1,y2,y3⟩,_⟩:=Qaq gM;obtain ⟨p0,p1,_,_⟩:=Qas (o03.heap gP.out (fun f => f));have TR3:=Qaa (TR.out W3 (HW.out.2.same o03) _ (.slice ap m.prev.length cp) (.slice ae m.es.length ce) (.slice ar m.root.length cr) u (sw.mn.mf.past o3) (sw.sg.past o3));have H3:=Qaa (And.intro o03 (And.intro gM (And.intro (sw.mn.mf.past o3) (And.intro (lo.past o3) (And.intro (o3.own own (fun _ _ f => f)) sw.mn.nr)))));clear sw lo own o3 o03 gM TR SP1 O1;subst hW3;go_wp2_with fail;refine TR3.out.mono ?_;rintro e w4 ⟨rfl,o4⟩;have o07:=H3.out.1.same o4;have gR7:=o07.heap gR.out (fun f => f);obtain ⟨q0,q1,z0,z1⟩:=Qas gR7;have P2:=put2 gR7 (.int .u64 0) (.slice none 0 0);have F:=Qaa (And.intro (Qcm P2.1) ((HW.out.2.same o07).trans P2.2 (fun i hi e => by omega)));clear o4 TR3 H3 o07 gR7 P2 y0 y1 y2 y3 hld p0 p1;go_wp2;exact bodyPost_ret (Qbs rfl _ _ rfl rfl rfl F.out.1) rfl ⟨rfl,F.out.2⟩
theorem Tryz.infoCk : (Tryz.prog.info? 69).map (fun i => (i.zero,i.size,i.bytes)) = some (some (.agg #[.string ⟨#[]⟩,.slice none 0 0]),2,40):=by kernel_rfl
theorem QcR (vk : Value) (m : MAN) (w : World) : UAc vk m [] [] w:=by
 intro W x vp ve vr a vs lo _ hm hL own;have hf:=hm.form;obtain ⟨ap,cp,ep⟩:=hm.prev.len;obtain ⟨ae,ce,ee⟩:=hm.es.len;obtain ⟨ar,cr,er⟩:=hm.root.len;obtain ⟨aa,ca,ea⟩:=Qad own;subst ep ee er hf ea;obtain ⟨W0,hW0⟩ : ∃ W0,W0 = W.alloc (.cells #[.int .u64 m.ver,.slice ap m.prev.length cp,.slice ae m.es.length ce,.slice ar m.root.length cr] 44):=⟨_,rfl⟩;obtain ⟨i0,hi,hz0,hz1,hz2⟩:=info_parts Tryz.infoCk;obtain ⟨wm,hmk,hown,hgr⟩:=run_make_full (P:=Tryz.prog) W0 W0.heap.size 31 69 i0 (.agg #[.string ⟨#[]⟩,.slice none 0 0]) 2 Tryz.underlying31 hi hz0 hz1 .i64 .i64 0 (by rw [hz2];omega) (by unfold maxLen;omega) (Nat.le_refl _)
 have F:=Qaa (show Only (fun _ => False) W wm from by
  have h0 : Only (fun _ => False) W W0:=by rw [hW0];exact (Only.refl _ _).alloc _
  exact h0.grown hgr (fun k _ e => by cases e))
 rw [show ((0 : Nat) : Int) = 0 from rfl] at hmk;clear hm hL own hown hgr;subst hW0;go_enter Tryz.func27,Tryz.ntmps27;go_wp2
 go_loopw [18] (fun i wr => i = .int .i64 0 ∧ wr = wm) (fun i _ => 0)
 case atStart => exact ⟨rfl,rfl⟩
 case round =>
  obtain ⟨rfl,rfl⟩:=hrel;go_wp2;go_ret2;exact ⟨_,rfl,fun W' R _ _ => ⟨_,_,rfl,Nat.le_refl _,fun h => absurd rfl h⟩,F.out⟩
end Go.Proofs.YtcpopagikbjimaaGreatDoor
