import Derived.Test.YtnhapmboienipaaGreatDoorY40
import Derived.Deep.RegionHeld3
import Derived.Test.YtnhapmboienipaaGreatDoorY31
import Derived.Test.YtnhapmboienipaaGreatDoorY32
import Derived.Test.YtnhapmboienipaaGreatDoorY14
namespace Go.Proofs.YtnhapmboienipaaGreatDoor
set_option maxHeartbeats 4000000
set_option maxRecDepth 100000
open Go.RowKit _root_.Go.Proofs.Tryz
def UAc (vk:Value) (m:MAN) (ls:List (List Int)) (cs:List CHK) (w:World):Prop :=
 ∀(W:World) (x vp ve vr a:Value) (vs:List Value) (lo:Nat),Only (fun _=>False) w W→Mf W x m vp ve vr→LO W vs ls→W.ownsRow lo 22 1 a ls.length vs →
  Calls prog 29 #[vk,x,a] W fun e w'=>∃c,e=.returned (.tuple #[c,.int .i64 0])∧(∀(W':World) (R:Nat),R<W.heap.size→Only (fun k=>k=R) w' W'→Chs W' c cs)∧Only (fun _=>False) W w'
theorem QiP {b sg:List Int} {m:MAN} {ls:List (List Int)} (h8:U8 b) (h:SPX b=.ok (m,sg,ls)):MGD m∧U8 sg∧sg.length≤268435456:=by
 obtain ⟨k,hs,h32,hm,hcut⟩:=Qqy h;have hsg:=Qge h8 hs;refine ⟨(QgZ (hsg.take _) hm).1,hsg,?_⟩;unfold Qam at hs;rw [if_neg (by omega)] at hs
 split at hs
 ·simp only [Prod.mk.injEq] at hs;rw [←hs.1];simp
 ·split at hs
  ·simp only [Prod.mk.injEq] at hs;omega
  ·split at hs
   ·simp only [Prod.mk.injEq] at hs;omega
   ·simp only [Prod.mk.injEq] at hs;rw [←hs.1,Yag];omega
theorem Qn7 (vk vt vb:Value) (k r b sg:List Int) (p:Nat) (m:MAN) (ls:List (List Int)) (cs:List CHK) (w:World) (bk:Bs .u8 w vk k) (k8:U8 k) (bt:Bs .u8 w vt r) (r8:U8 r) (hb:Bs .u8 w vb b) (b8:U8 b) (hl:b.length≤1000000000000)
  (h32:k.length=32) (hr:r.length=0∨r.length=32) (hx:SPX b=.ok (m,sg,ls)) (l8:R8 ls) (hll:ls.length≤1048576) (hroot:RTF ls=m.root) (hT:TRe k (p,r) m sg=0) (hU:UAc vk m ls cs w) :
  Calls prog 10 #[vk,.agg #[.int .u64 p,vt],vb] w fun e w'=>∃c rv,e=.returned (.tuple #[c,.agg #[.int .u64 m.ver,rv],.int .i64 0])∧Chs w' c cs∧Bs .u8 w' rv m.root∧NoCap rv∧Only (fun _=>False) w w':=by
 obtain ⟨hG,hs8,hsl⟩:=QiP b8 hx;obtain ⟨ak,ck,ek⟩:=bk.len;obtain ⟨at',ct,et⟩:=bt.len;subst ek et;obtain ⟨w0,hw0⟩:∃w0,w0=(w.alloc (.cells #[.int .u64 p,.slice at' r.length ct] 25)).alloc (.cells #[.int .u64 0,.slice none 0 0] 25):=⟨_,rfl⟩
 have o0:Only (fun _=>False) w w0:=by rw [hw0];exact ((Only.refl _ _).alloc _).alloc _
 have gP:Hid (w0.heap[w.heap.size]? = some (.cells #[.int .u64 p,.slice at' r.length ct] 25 (0,0))):=by show _=_;rw [hw0];exact Qaq (heap_alloc_new _ _)
 have gR:Hid (w0.heap[w.heap.size+1]? = some (.cells #[.int .u64 0,.slice none 0 0] 25 (0,0))):=by show _=_;rw [hw0];exact Qas (by simp)
 obtain ⟨p0,p1,_,_⟩:=Qar gP.out;have RI:=Qaa (Qd8 (.int .u64 p) at' r.length ct w0);rw [Yaj hr] at RI;have SP:=Qaa (fun W (o:Only (fun _=>False) w W)=>Qft vb b W (hb.past o) b8 hl hx);have TR:=Qaa (fun (W:World) (o:Only (fun _=>False) w W) (x vp ve vr vs:Value) (hm:Mf W x m vp ve vr) (hv:Bs .u8 W vs sg)=>Qgf (.slice ak k.length ck) (.slice at' r.length ct) x vp ve vr vs k r sg p m W (bk.past o) k8 (bt.past o) r8 hm hG.2.2.1.2 hv hs8 (by omega));simp only [hT] at TR;have RT:=Qaa (fun (W:World) (x:Value) (h:RL W x ls)=>Qe2 x ls W h l8 (by omega));have EQ:=Qaa (fun (W:World) (x y:Value) (h1:Bs .u8 W x (RTF ls)) (h2:Bs .u8 W y m.root)=>Qi7 x y (RTF ls) m.root W h1 h2 (QiJ ls) hG.2.2.1.2);simp only [Yaj hroot] at EQ;have UA:=Qaa hU;have HW:=Qaa (And.intro hw0 o0)
 have hsz:Hid (w0.heap.size=w.heap.size+2):=by show _=_;rw [hw0];simp
 have d1:((k.length:Int) != 32)=false:=by rw [h32];rfl
 obtain ⟨M,hM⟩:∃M,M=k.length:=⟨_,rfl⟩;obtain ⟨n,hn⟩:∃n,n=r.length:=⟨_,rfl⟩;rw [←hM] at d1 TR UA ⊢;rw [←hn] at RI TR gP HW p1 ⊢;have HL:=Qaa (And.intro hll (And.intro (Qbd ls) hroot));clear bk k8 bt r8 hb b8 hl h32 hr hx l8 hll hroot hT hU hG hs8 hsl hw0 o0 hM hn;go_enter func10,ntmps10;go_wp2_with fail;rw [←HW.out.1];refine RI.out.mono ?_;rintro e w1 ⟨rfl,o1⟩;have SP1:=Qaa (SP.out w1 (HW.out.2.same o1));have O1:=Qaa o1;clear RI SP o1 p0 p1;go_wp2_with fail;refine SP1.out.mono ?_;rintro e w2 ⟨x,vp,ve,vr,u,a,rfl,sw⟩;have hf:=sw.mn.mf.form;obtain ⟨ap,cp,ep⟩:=sw.mn.mf.prev.len;obtain ⟨ae,ce,ee⟩:=sw.mn.mf.es.len;obtain ⟨ar,cr,er⟩:=sw.mn.mf.root.len;subst ep ee er hf;obtain ⟨vs,lo,own⟩:=sw.ls;obtain ⟨aa,ca,ea⟩:=Qad own;subst ea;obtain ⟨W3,hW3⟩:∃W,W=w2.alloc (.cells #[.int .u64 m.ver,.slice ap m.prev.length cp,.slice ae m.es.length ce,.slice ar m.root.length cr] 42):=⟨_,rfl⟩
 have o3:Only (fun _=>False) w2 W3:=by rw [hW3];exact (Only.refl _ _).alloc _
 have o03:Only (fun _=>False) w0 W3:=(O1.out.same sw.o).same o3
 have gM:=show W3.heap[w2.heap.size]? = some (.cells #[.int .u64 m.ver,.slice ap m.prev.length cp,.slice ae m.es.length ce,.slice ar m.root.length cr] 42 (0,0)) by rw [hW3];exact heap_alloc_new _ _
 have hld:=QaA gM;obtain ⟨⟨y0,y1,y2,y3⟩,_⟩:=QaQ gM;obtain ⟨p0,p1,_,_⟩:=Qar (o03.heap gP.out (fun f=>f));have TR3:=Qaa (TR.out W3 (HW.out.2.same o03) _ (.slice ap m.prev.length cp) (.slice ae m.es.length ce) (.slice ar m.root.length cr) u (sw.mn.mf.past o3) (sw.sg.past o3));have H3:=Qaa (And.intro o03 (And.intro gM (And.intro (sw.mn.mf.past o3) (And.intro (lo.past o3) (And.intro (o3.own own (fun _ _ f=>f)) sw.mn.nr)))));clear sw lo own o3 o03 gM TR SP1 O1;subst hW3;go_wp2_with fail;refine TR3.out.mono ?_;rintro e w4 ⟨rfl,o4⟩;have gM4:=o4.heap H3.out.2.1 (fun f=>f);clear y0 y1 y2 y3 hld p0 p1;obtain ⟨⟨y0,y1,y2,y3⟩,_⟩:=QaQ gM4;have H4:=Qaa (And.intro (H3.out.1.same o4) (And.intro gM4 (And.intro (H3.out.2.2.1.past o4) (And.intro (H3.out.2.2.2.1.past o4) (And.intro (o4.own H3.out.2.2.2.2.1 (fun _ _ f=>f)) H3.out.2.2.2.2.2)))));have RL4:=Qaa (fun (W:World) (o:Only (fun _=>False) w4 W)=>((H4.out.2.2.2.1.past o).rl (lo:=w1.heap.size) (by rw [H4.out.2.2.2.1.1];exact o.own H4.out.2.2.2.2.1 (fun _ _ f=>f))).1);have MR4:=Qaa (fun (W:World) (o:Only (fun _=>False) w4 W)=>H4.out.2.2.1.root.past o);have RT4:=Qaa (fun (W:World) (o:Only (fun _=>False) w4 W)=>RT.out W _ (RL4.out W o));clear o4 gM4 TR3 H3 RT RL4;go_wp2_with fail
 go_region_held3 (fun W=>W.cell? ⟨w2.heap.size,3,none⟩=some (.slice ar m.root.length cr)) (go_keep)
  (first
   | (go_at_call 20;refine (RT4.out _ ((Only.refl _ _).drew)).mono ?_;rintro e w5 ⟨u5,rfl,own5,o5⟩;have O5:=Qaa (((Only.refl (fun _=>False) w4).drew).same o5);have k3:=QaY y3 O5.out;obtain ⟨a5,c5,rfl⟩:=Qad own5;have B5:=Qaa (show Bs .u8 w5 (.slice a5 32 c5) (RTF ls) from Bs.of_own (k:=.u8) (E:=5) (lo:=w4.drew.heap.size) (by rw [HL.out.2.1];exact own5));clear own5 o5 y0 y1 y2 y3 RT4)
   | (go_at_call 28;refine (EQ.out w5 _ _ B5.out (MR4.out w5 O5.out)).mono ?_;rintro e w6 ⟨rfl,rfl⟩;clear B5 EQ)
   | fail)
 have gM5:=O5.out.heap H4.out.2.1 (fun f=>f);have hld:=QaA gM5;clear k3;obtain ⟨⟨y0,y1,y2,y3⟩,_⟩:=QaQ gM5;have UA5:=Qaa (UA.out w5 _ (.slice ap m.prev.length cp) (.slice ae m.es.length ce) (.slice ar m.root.length cr) (.slice aa ls.length ca) vs w1.heap.size (HW.out.2.same (H4.out.1.same O5.out)) (H4.out.2.2.1.past O5.out) (H4.out.2.2.2.1.past O5.out) (O5.out.own H4.out.2.2.2.2.1 (fun _ _ f=>f)));have H5:=Qaa (And.intro (H4.out.1.same O5.out) (And.intro gM5 (And.intro (MR4.out w5 O5.out) H4.out.2.2.2.2.2)));clear gM5 H4 O5 MR4 UA;go_wp2_with fail;refine UA5.out.mono ?_;rintro e w7 ⟨c,rfl,hch,o7⟩;have o07:=H5.out.1.same o7
 have hRs:w.heap.size+1<w5.heap.size:=by have:=hsz.out;have:=H5.out.1.size;omega
 obtain ⟨ac,lc,cc,rfl⟩:∃a n c',c=.slice a n c':=by
  obtain ⟨a,c',e,_⟩:=(hch w7 (w.heap.size+1) hRs (Only.refl _ _)).len;exact ⟨_,_,_,e⟩
 have gM7:=o7.heap H5.out.2.1 (fun f=>f);clear hld y0 y1 y2 y3;obtain ⟨⟨y0,y1,y2,y3⟩,_⟩:=QaQ gM7;have gR7:=o07.heap gR.out (fun f=>f);obtain ⟨q0,q1,z0,z1⟩:=Qar gR7;have P2:=put2 gR7 (.int .u64 m.ver) (.slice ar m.root.length cr)
 have hne:¬w2.heap.size=w.heap.size+1:=by
  intro e;rw [e] at gM7;rw [gM7] at gR7;simp at gR7
 have F:=Qaa (And.intro (Qcu (show ((((w7.setCell ⟨w.heap.size+1,0,none⟩ (.int .u64 m.ver)).setCell ⟨w.heap.size+1,1,none⟩ (.slice ar m.root.length cr)).drew).heap[w.heap.size+1]? = _) from P2.1)) (And.intro (hch _ _ hRs P2.2.drew) (And.intro (((H5.out.2.2.1.past o7).offB (g:=w.heap.size+1) (T:=25) (cs:=[.int .u64 0,.slice none 0 0]) gR7 (fun y hy x=>by simp at hy;rcases hy with rfl | rfl <;> simp) P2.2.drew)) (And.intro H5.out.2.2.2 ((HW.out.2.same o07).trans P2.2.drew (fun i hi e=>by omega))))));clear hch o7 o07 UA5 gM7 gR7 P2 H5 hRs;go_wp2;go_region;go_wp2;exact bodyPost_ret (Qbi rfl _ _ rfl rfl rfl F.out.1) rfl ⟨_,_,rfl,F.out.2⟩
theorem Qoa (vk vt vb:Value) (k r b sg:List Int) (p:Nat) (m:MAN) (ls:List (List Int)) (w:World) (bk:Bs .u8 w vk k) (k8:U8 k) (bt:Bs .u8 w vt r) (r8:U8 r) (hb:Bs .u8 w vb b) (b8:U8 b) (hl:b.length≤1000000000000)
  (h32:k.length=32) (hr:r.length=0∨r.length=32) (hx:SPX b=.ok (m,sg,ls)) {c:Int} (hT:TRe k (p,r) m sg=c) (hc:c≠0) :
  Calls prog 10 #[vk,.agg #[.int .u64 p,vt],vb] w fun e w'=>e=.returned (.tuple #[NIL,.agg #[.int .u64 0,NIL],.int .i64 c])∧Only (fun _=>False) w w':=by
 obtain ⟨hG,hs8,hsl⟩:=QiP b8 hx;obtain ⟨ak,ck,ek⟩:=bk.len;obtain ⟨at',ct,et⟩:=bt.len;subst ek et;obtain ⟨w0,hw0⟩:∃w0,w0=(w.alloc (.cells #[.int .u64 p,.slice at' r.length ct] 25)).alloc (.cells #[.int .u64 0,.slice none 0 0] 25):=⟨_,rfl⟩
 have o0:Only (fun _=>False) w w0:=by rw [hw0];exact ((Only.refl _ _).alloc _).alloc _
 have gP:Hid (w0.heap[w.heap.size]? = some (.cells #[.int .u64 p,.slice at' r.length ct] 25 (0,0))):=by show _=_;rw [hw0];exact Qaq (heap_alloc_new _ _)
 have gR:Hid (w0.heap[w.heap.size+1]? = some (.cells #[.int .u64 0,.slice none 0 0] 25 (0,0))):=by show _=_;rw [hw0];exact Qas (by simp)
 obtain ⟨p0,p1,_,_⟩:=Qar gP.out;have RI:=Qaa (Qd8 (.int .u64 p) at' r.length ct w0);rw [Yaj hr] at RI;have SP:=Qaa (fun W (o:Only (fun _=>False) w W)=>Qft vb b W (hb.past o) b8 hl hx);have TR:=Qaa (fun (W:World) (o:Only (fun _=>False) w W) (x vp ve vr vs:Value) (hm:Mf W x m vp ve vr) (hv:Bs .u8 W vs sg)=>Qgf (.slice ak k.length ck) (.slice at' r.length ct) x vp ve vr vs k r sg p m W (bk.past o) k8 (bt.past o) r8 hm hG.2.2.1.2 hv hs8 (by omega));simp only [hT] at TR
 have hne:(c != 0)=true:=by simpa using hc
 have HW:=Qaa (And.intro hw0 o0)
 have hsz:Hid (w0.heap.size=w.heap.size+2):=by show _=_;rw [hw0];simp
 have d1:((k.length:Int) != 32)=false:=by rw [h32];rfl
 obtain ⟨M,hM⟩:∃M,M=k.length:=⟨_,rfl⟩;obtain ⟨n,hn⟩:∃n,n=r.length:=⟨_,rfl⟩;rw [←hM] at d1 TR ⊢;rw [←hn] at RI TR gP HW p1 ⊢;clear bk k8 bt r8 hb b8 hl h32 hr hx hT hc hG hs8 hsl hw0 o0 hM hn;go_enter func10,ntmps10;go_wp2_with fail;rw [←HW.out.1];refine RI.out.mono ?_;rintro e w1 ⟨rfl,o1⟩;have SP1:=Qaa (SP.out w1 (HW.out.2.same o1));have O1:=Qaa o1;clear RI SP o1 p0 p1;go_wp2_with fail;refine SP1.out.mono ?_;rintro e w2 ⟨x,vp,ve,vr,u,a,rfl,sw⟩;have hf:=sw.mn.mf.form;obtain ⟨ap,cp,ep⟩:=sw.mn.mf.prev.len;obtain ⟨ae,ce,ee⟩:=sw.mn.mf.es.len;obtain ⟨ar,cr,er⟩:=sw.mn.mf.root.len;subst ep ee er hf;obtain ⟨vs,lo,own⟩:=sw.ls;obtain ⟨aa,ca,ea⟩:=Qad own;subst ea;obtain ⟨W3,hW3⟩:∃W,W=w2.alloc (.cells #[.int .u64 m.ver,.slice ap m.prev.length cp,.slice ae m.es.length ce,.slice ar m.root.length cr] 42):=⟨_,rfl⟩
 have o3:Only (fun _=>False) w2 W3:=by rw [hW3];exact (Only.refl _ _).alloc _
 have o03:Only (fun _=>False) w0 W3:=(O1.out.same sw.o).same o3
 have gM:=show W3.heap[w2.heap.size]? = some (.cells #[.int .u64 m.ver,.slice ap m.prev.length cp,.slice ae m.es.length ce,.slice ar m.root.length cr] 42 (0,0)) by rw [hW3];exact heap_alloc_new _ _
 have hld:=QaA gM;obtain ⟨⟨y0,y1,y2,y3⟩,_⟩:=QaQ gM;obtain ⟨p0,p1,_,_⟩:=Qar (o03.heap gP.out (fun f=>f));have TR3:=Qaa (TR.out W3 (HW.out.2.same o03) _ (.slice ap m.prev.length cp) (.slice ae m.es.length ce) (.slice ar m.root.length cr) u (sw.mn.mf.past o3) (sw.sg.past o3));have H3:=Qaa (And.intro o03 (And.intro gM (And.intro (sw.mn.mf.past o3) (And.intro (lo.past o3) (And.intro (o3.own own (fun _ _ f=>f)) sw.mn.nr)))));clear sw lo own o3 o03 gM TR SP1 O1;subst hW3;go_wp2_with fail;refine TR3.out.mono ?_;rintro e w4 ⟨rfl,o4⟩;have o07:=H3.out.1.same o4;have gR7:=o07.heap gR.out (fun f=>f);obtain ⟨q0,q1,z0,z1⟩:=Qar gR7;have P2:=put2 gR7 (.int .u64 0) (.slice none 0 0);have F:=Qaa (And.intro (Qcu P2.1) ((HW.out.2.same o07).trans P2.2 (fun i hi e=>by omega)));clear o4 TR3 H3 o07 gR7 P2 y0 y1 y2 y3 hld p0 p1;go_wp2;exact bodyPost_ret (Qbi rfl _ _ rfl rfl rfl F.out.1) rfl ⟨rfl,F.out.2⟩
theorem Tryz.infoCk:(prog.info? 50).map (fun i=>(i.zero,i.size,i.bytes))=some (some (.agg #[.string ⟨#[]⟩,.slice none 0 0]),2,40):=by kernel_rfl
theorem QeW (vk:Value) (m:MAN) (w:World):UAc vk m [] [] w:=by
 intro W x vp ve vr a vs lo _ hm hL own;have hf:=hm.form;obtain ⟨ap,cp,ep⟩:=hm.prev.len;obtain ⟨ae,ce,ee⟩:=hm.es.len;obtain ⟨ar,cr,er⟩:=hm.root.len;obtain ⟨aa,ca,ea⟩:=Qad own;subst ep ee er hf ea;obtain ⟨W0,hW0⟩:∃W0,W0=W.alloc (.cells #[.int .u64 m.ver,.slice ap m.prev.length cp,.slice ae m.es.length ce,.slice ar m.root.length cr] 42):=⟨_,rfl⟩;obtain ⟨i0,hi,hz0,hz1,hz2⟩:=info_parts Tryz.infoCk;obtain ⟨wm,hmk,hown,hgr⟩:=run_make_full (P:=prog) W0 W0.heap.size 26 50 i0 (.agg #[.string ⟨#[]⟩,.slice none 0 0]) 2 underlying26 hi hz0 hz1 .i64 .i64 0 (by rw [hz2];omega) (by unfold maxLen;omega) (Nat.le_refl _)
 have F:=Qaa (show Only (fun _=>False) W wm from by
  have h0:Only (fun _=>False) W W0:=by rw [hW0];exact (Only.refl _ _).alloc _
  exact h0.grown hgr (fun k _ e=>by cases e))
 rw [show ((0:Nat):Int)=0 from rfl] at hmk;clear hm hL own hown hgr;subst hW0;go_enter func29,ntmps29;go_wp2
 go_loopw [18] (fun i wr=>i=.int .i64 0∧wr=wm) (fun i _=>0)
 case atStart=>exact ⟨rfl,rfl⟩
 case round =>
  obtain ⟨rfl,rfl⟩:=hrel;go_wp2;go_ret2;exact ⟨_,rfl,fun W' R _ _=>⟨_,_,rfl,Nat.le_refl _,fun h=>absurd rfl h⟩,F.out⟩
theorem Qob {m:List Int} {v:Nat} {l:List CHK} (h:SAe m 0 l=0) {j:Nat} (hj:j<l.length):((SAt m v l l.length).getD j []).length=(SZV ((SAn m l l.length).getD j ([],0)).2).toNat+16:=by
 have hc:=Qhv l 0 h j hj;rw [Nat.zero_add] at hc;have hs:=(Qqu hc).2;rw [Qqt m v l hj,Qtr m l hj,Qhu hs]
 show _=(SZV (SEb _ _ _)).toNat+16
 unfold SEb;rw [if_pos hs,QqW]
 rfl
theorem QiS {m:List Int} {s:STT} {v:Nat} {l:List CHK} (hv:v<18446744073709551616) (s8:U8 s.2) (hl:∀c∈l,CG c) (h100:l.length≤100) (h:ARe m s v l=0):(MENC (ARm m s.2 v l)).length≤10000 :=
 Qe3 (Qc2 hv s8 hl h) (by show (SAn m l l.length).length≤100;rw [Qd7];exact h100)
theorem QiT {m:List Int} {s:STT} {v:Nat} {l:List CHK} (hv:v<18446744073709551616) (s8:U8 s.2) (hl:∀c∈l,CG c) (h100:l.length≤100) (h:ARe m s v l=0):SPX (ARt m s v l)=.ok (ARm m s.2 v l,ARg m s v l,SAt m v l l.length):=by
 have hsm:=QiS hv s8 hl h100 h;unfold ARt;rw [if_pos h];refine Qn2 (Qc2 hv s8 hl h) (QaN _ _) (by omega) ?_ ?_
 ·show (SAn m l l.length).length=_;rw [Qd7,Qd6]
 ·intro j hj
  have hj':j<l.length:=by have:(ARm m s.2 v l).es.length=l.length:=Qd7 _ _ _;omega
  exact Qob (QiI h).2 hj'
theorem QiU {m:List Int} {s:STT} {v:Nat} {l:List CHK} (hv:v<18446744073709551616) (s8:U8 s.2) (hl:∀c∈l,CG c) (h:ARe m s v l=0):MCe m (ARg m s v l)=0:=by
 have hL:(ARg m s v l).length=(MENC (ARm m s.2 v l)).length+32:=by unfold ARg;rw [Yae,QaN]
 unfold MCe;rw [if_pos (QiH (QiI h).1).1,if_neg (by omega),hL,Nat.add_sub_cancel]
 have e1:(ARg m s v l).take (MENC (ARm m s.2 v l)).length=MENC (ARm m s.2 v l):=by unfold ARg;exact List.take_left
 have e2:(ARg m s v l).drop (MENC (ARm m s.2 v l)).length=MACL (MKY m) (MENC (ARm m s.2 v l)):=by unfold ARg;exact List.drop_left
 rw [e1,e2,if_pos rfl];exact (QpB (Qc2 hv s8 hl h)).2
theorem AR_u8 {m:List Int} {s:STT} {v:Nat} {l:List CHK} (hv:v<18446744073709551616) (s8:U8 s.2) (hl:∀c∈l,CG c) (h:ARe m s v l=0):U8 (ARg m s v l)∧U8 (ARt m s v l):=by
 have hg:U8 (ARg m s v l):=by unfold ARg;exact U8.app (QmK (Qc2 hv s8 hl h)) (Qeh _ _)
 refine ⟨hg,?_⟩;unfold ARt;rw [if_pos h];refine U8.app (Qby _ hg) (fun y hy=>?_);obtain ⟨x,hx,hy⟩:=List.mem_flatten.1 hy;exact (Qk5 hl _ x hx).1 y hy
theorem QtA {m:List Int} {s:STT} {v:Nat} {l:List CHK} (hv:v<18446744073709551616) (s8:U8 s.2) (hl:∀c∈l,CG c) (h100:l.length≤100) (h:ARe m s v l=0):(ARg m s v l).length=(MENC (ARm m s.2 v l)).length+32∧(ARt m s v l).length≤1000000000:=by
 have hL:(ARg m s v l).length=(MENC (ARm m s.2 v l)).length+32:=by unfold ARg;rw [Yae,QaN]
 have hsm:=QiS hv s8 hl h100 h;refine ⟨hL,?_⟩;unfold ARt;rw [if_pos h,Yae];have h1:=QbL (ARg m s v l) (by omega);have h2:=QiL (SAt m v l l.length) 4194320 Qqx;rw [Qd6] at h2;omega
theorem Qe7 (p q:Nat) (va vb:Value) (xs ys:List Int) (w:World) (ha:Bs .u8 w va xs) (hb:Bs .u8 w vb ys) (hl:xs.length≤1000000000) :
  Calls prog 12 #[.agg #[.int .u64 p,va],.agg #[.int .u64 q,vb]] w fun e w'=>e=.returned (.bool (decide (p=q∧xs=ys)))∧Only (fun _=>False) w w':=by
 obtain ⟨aa,ca,rfl⟩:=ha.len;obtain ⟨ab,cb,rfl⟩:=hb.len;obtain ⟨w0,hw0⟩:∃w0,w0=(w.alloc (.cells #[.int .u64 p,.slice aa xs.length ca] 25)).alloc (.cells #[.int .u64 q,.slice ab ys.length cb] 25):=⟨_,rfl⟩
 have o0:Only (fun _=>False) w w0:=by rw [hw0];exact ((Only.refl _ _).alloc _).alloc _
 have gA:w0.heap[w.heap.size]? = some (.cells #[.int .u64 p,.slice aa xs.length ca] 25 (0,0)):=by rw [hw0];exact Qaq (heap_alloc_new _ _)
 have gB:w0.heap[w.heap.size+1]? = some (.cells #[.int .u64 q,.slice ab ys.length cb] 25 (0,0)):=by rw [hw0];exact Qas (by simp)
 obtain ⟨a0,a1,_,_⟩:=Qar gA;obtain ⟨b0,b1,_,_⟩:=Qar gB;have SM:=Qaa (QjF _ _ xs ys w0 (ha.past o0) (hb.past o0) (by omega));have O:=Qaa o0
 by_cases h:p=q
 ·have d1:((p:Int) == (q:Int))=true:=by rw [h];simp
  have e:decide (p=q∧xs=ys)=decide (xs=ys):=decide_eq_decide.2 ⟨fun z=>z.2,fun z=>⟨h,z⟩⟩;rw [e];obtain ⟨t,ht⟩:∃t,t=decide (xs=ys):=⟨_,rfl⟩;rw [←ht] at SM ⊢;clear ha hb hl o0 gA gB h e ht;subst hw0;go_enter func12,ntmps12;go_wp2_with fail;refine SM.out.mono ?_;rintro e w1 ⟨rfl,o1⟩;have F:=Qaa (O.out.same o1);clear SM o1 O;go_wp2;go_ret;exact ⟨rfl,F.out⟩
 ·have d1:((p:Int) == (q:Int))=false:=by rw [beq_eq_false_iff_ne];omega
  rw [Yak (fun z=>h z.1)];clear ha hb hl o0 gA gB h SM;subst hw0;go_enter func12,ntmps12;go_wp2;go_ret;exact ⟨rfl,O.out⟩
abbrev K22:List Int:=List.replicate 32 0
theorem QiV:U8 K22:=fun y hy=>by have:=List.eq_of_mem_replicate hy;omega
theorem AR0:ARe K22 (0,[]) 3 []=0:=by
 unfold ARe MBe;rw [if_pos (c:=K22.length=32∧SRT (0,[])∧3≠18446744073709551615) ⟨rfl,.inl rfl,by decide⟩]
 rfl
theorem QdV:∀c∈([]:List CHK),CG c:=fun c h=>by cases h
theorem AR0_m:ARm K22 [] 3 []=⟨3,List.replicate 32 0,[],RTF []⟩:=rfl
theorem QhF:(ARt K22 (0,[]) 3 []).length=111:=by
 have e1:(MENC (ARm K22 [] 3 [])).length=78:=by
  rw [AR0_m];have e2:MTN ⟨3,List.replicate 32 0,[],RTF []⟩=[]:=List.eq_nil_of_length_eq_zero (by have:=QeC ⟨3,List.replicate 32 0,[],RTF []⟩;simpa using this)
  have e3:(gs 0).length=1:=by rw [Qa7 (by omega)];rfl
  unfold MENC;rw [e2];simp only [Yae,Qag,List.length_replicate,List.length_nil,List.map_nil,List.flatten_nil,Qbd,MHD,Yah,e3]
 have e4:(ARg K22 (0,[]) 3 []).length=110:=by unfold ARg;rw [Yae,QaN];show (MENC (ARm K22 [] 3 [])).length+32=_;rw [e1]
 unfold ARt;rw [if_pos AR0,Yae];unfold blk;rw [Yae,e4,Qa7 (by omega)]
 rfl
theorem Qoc:TRe K22 (3,RTF []) (ARm K22 [] 3 []) (ARg K22 (0,[]) 3 [])=0:=by
 unfold TRe;rw [if_pos (QiU (s:=(0,[])) (by decide) (fun y hy=>by cases hy) QdV AR0),AR0_m];simp
theorem Qod:TRe K22 (4,K22) (ARm K22 [] 3 []) (ARg K22 (0,[]) 3 [])=6:=by
 unfold TRe;rw [if_pos (QiU (s:=(0,[])) (by decide) (fun y hy=>by cases hy) QdV AR0),AR0_m];simp
theorem Qlf (w:World) (hT:Tab w):Calls prog 7 #[] w fun e w'=>e=.returned (.bool true)∧Only (fun _=>False) w w':=by
 obtain ⟨wm,hmk,hbk,om⟩:=QjL w 32 (by omega);rw [show ((32:Nat):Int)=32 from rfl] at hmk;have bK:=hbk.bs 32 (by simp);obtain ⟨N,hN⟩:∃N,N=w.heap.size:=⟨_,rfl⟩;rw [←hN] at bK hmk;obtain ⟨S,hS⟩:∃S,S=Value.slice (some ⟨N,0,none⟩) 32 32:=⟨_,rfl⟩;rw [←hS] at bK
 have nl8:U8 []:=fun y hy=>by cases hy
 have BD:=Qaa (Qgb S NIL NIL K22 [] 0 3 [] wm bK QiV (Bs.nil _ _) NoCap.nil nl8 ⟨_,0,rfl,Nat.le_refl _,fun h=>absurd rfl h⟩ (fun c h=>by cases h) (by simp) (by decide) (hT.past om));have hsp:=QiT (m:=K22) (s:=(0,[])) (v:=3) (by decide) nl8 QdV (by simp) AR0;have h8:=AR_u8 (m:=K22) (s:=(0,[])) (v:=3) (by decide) nl8 QdV AR0;have OP:=Qaa (fun (W:World) (vt vb:Value) (bk:Bs .u8 W S K22) (bt:Bs .u8 W vt (RTF [])) (bb:Bs .u8 W vb (ARt K22 (0,[]) 3 []))=>Qn7 S vt vb K22 (RTF []) _ _ 3 _ _ [] W bk QiV bt (QiJ _) bb h8.2 (by rw [QhF];omega) rfl (.inr (Qbd _)) hsp (fun x hx=>by cases hx) (by simp [SAt]) rfl Qoc (QeW _ _ _));have ON:=Qaa (fun (W:World) (vb:Value) (bk:Bs .u8 W S K22) (bb:Bs .u8 W vb (ARt K22 (0,[]) 3 []))=>Qoa S S vb K22 K22 _ _ 4 _ _ W bk QiV bk QiV bb h8.2 (by rw [QhF];omega) rfl (.inr rfl) hsp Qod (by decide));have e1:ARr K22 (0,[]) 3 []=(3,RTF []):=if_pos AR0;rw [AR0,e1] at BD;simp only [show (ARm K22 [] 3 []).ver=3 from rfl,show (ARm K22 [] 3 []).root=RTF [] from rfl] at OP
 have SS:=Qaa (show ∀(W:World) (va vb:Value),Bs .u8 W va (RTF [])→Bs .u8 W vb (RTF [])→Calls prog 12 #[.agg #[.int .u64 (3:Nat),va],.agg #[.int .u64 (3:Nat),vb]] W fun e w'=>e=.returned (.bool true)∧Only (fun _=>False) W w' from fun W va vb ha hb=>by
  have:=Qe7 3 3 va vb (RTF []) (RTF []) W ha hb (by rw [Qbd];decide)
  rwa [Yaj ⟨rfl,rfl⟩] at this)
 have HL:=Qaa (And.intro QhF (Qbd []));obtain ⟨A,hA⟩:∃A,A=ARt K22 (0,[]) 3 []:=⟨_,rfl⟩;obtain ⟨R,hR⟩:∃R,R=RTF []:=⟨_,rfl⟩;simp only [←hA,←hR] at BD OP ON SS HL;have B0:=Qaa (And.intro bK om);simp only [show ((0:Nat):Int)=0 from rfl,show ((3:Nat):Int)=3 from rfl,show ((4:Nat):Int)=4 from rfl] at BD OP ON SS;clear hbk om bK hsp h8 e1 hA hR hT nl8 hN;subst hS;go_enter func7,ntmps7;go_wp2_with fail;refine BD.out.mono ?_;rintro e w1 ⟨u,ru,rfl,bu⟩;obtain ⟨au,cu,rfl⟩:=(Bs.of_own (k:=.u8) (E:=5) bu.t).len;obtain ⟨ar,cr,rfl⟩:=bu.r.len;obtain ⟨W2,hW2⟩:∃W,W=w1.alloc (.cells #[.int .u64 3,.slice ar R.length cr] 25):=⟨_,rfl⟩
 have o2:Only (fun _=>False) w1 W2:=by rw [hW2];exact (Only.refl _ _).alloc _
 have g2:=show W2.heap[w1.heap.size]? = some (.cells #[.int .u64 3,.slice ar R.length cr] 25 (0,0)) by rw [hW2];exact heap_alloc_new _ _
 have hld:=Qcu g2;obtain ⟨c0,c1,_,_⟩:=Qar g2;have OP2:=Qaa (OP.out W2 _ _ (B0.out.1.past (bu.o.same o2)) (bu.r.past o2) ((Bs.of_own (k:=.u8) (E:=5) bu.t).past o2));have H2:=Qaa (And.intro (bu.o.same o2) (And.intro g2 (And.intro (bu.r.past o2) ((Bs.of_own (k:=.u8) (E:=5) bu.t).past o2))));clear bu o2 g2 BD OP hmk;subst hW2;go_wp2_with fail;refine OP2.out.mono ?_;rintro e w3 ⟨c,rv,rfl,hch,brv,_,o3⟩;obtain ⟨ac,cc,rfl,_⟩:=hch.len;obtain ⟨av,cv,rfl⟩:=brv.len;obtain ⟨W4,hW4⟩:∃W,W=w3.alloc (.cells #[.int .u64 3,.slice av R.length cv] 25):=⟨_,rfl⟩
 have o4:Only (fun _=>False) w3 W4:=by rw [hW4];exact (Only.refl _ _).alloc _
 have g4:=show W4.heap[w3.heap.size]? = some (.cells #[.int .u64 3,.slice av R.length cv] 25 (0,0)) by rw [hW4];exact heap_alloc_new _ _
 have o24:=o3.same o4;have ON4:=Qaa (ON.out W4 _ (B0.out.1.past (H2.out.1.same o24)) (H2.out.2.2.2.past o24));have H4:=Qaa (And.intro (H2.out.1.same o24) (And.intro (o24.heap H2.out.2.1 (fun f=>f)) (And.intro g4 (And.intro (H2.out.2.2.1.past o24) (brv.past o4)))));clear hch brv o3 o4 o24 g4 H2 OP2 ON c0 c1 hld;subst hW4;go_wp2_with fail;refine ON4.out.mono ?_;rintro e w5 ⟨rfl,o5⟩;obtain ⟨W6,hW6⟩:∃W,W=w5.alloc (.cells #[.int .u64 0,.slice none 0 0] 25):=⟨_,rfl⟩;have o6:=o5.same (show Only (fun _=>False) w5 W6 by rw [hW6];exact (Only.refl _ _).alloc _);obtain ⟨c0,c1,_,_⟩:=Qar (o6.heap H4.out.2.1 (fun f=>f));obtain ⟨d0,d1,_,_⟩:=Qar (o6.heap H4.out.2.2.1 (fun f=>f));have SS6:=Qaa (SS.out W6 _ _ (H4.out.2.2.2.1.past o6) (H4.out.2.2.2.2.past o6));have F:=Qaa (B0.out.2.same (H4.out.1.same o6))
 have l1:(A.length:Int)=111:=by rw [HL.out.1];rfl
 have l2:(R.length:Int)=32:=by rw [HL.out.2];rfl
 clear o5 o6 H4 ON4 SS B0;subst hW6;go_wp2_with fail;refine SS6.out.mono ?_;rintro e w7 ⟨rfl,o7⟩;have F2:=Qaa (F.out.same o7);clear o7 F SS6;go_wp2;go_ret;exact ⟨rfl,F2.out⟩
section
open Go.ChangeShapes Go.WideShapes
abbrev FEWC (l:List CHK):Prop:=l.length≤12∧∀j,j<l.length→(l.getD j NCH).2.length≤60∧(l.getD j NCH).1.length≤300
theorem Qlg (vl:Value) (l:List CHK) (w:World) (hc:Chs w vl l) (hg:CL l) (hT:∀c∈l,U8 c.1) :
  ∃b,(b=true→FEWC l)∧Calls prog 8 #[vl] w fun e w'=>e=.returned (.bool b)∧w=w':=by
 obtain ⟨ao,cap,rfl,hcap⟩:=hc.len;obtain ⟨n,hn⟩:∃n,n=l.length:=⟨_,rfl⟩
 by_cases h12:12<n
 ·refine ⟨false,(fun h=>by cases h),?_⟩
  have d1:decide ((12:Int)<(n:Int))=true:=Yaj (by omega);have d2:decide (12<n)=true:=Yaj h12;rw [←hn];clear hc hg hT hcap hn h12;go_enter func8,ntmps8;go_wp2;go_ret;exact ⟨rfl,rfl⟩
 ·obtain ⟨b,hb⟩:∃b,b=decide (FEWC l):=⟨_,rfl⟩
  refine ⟨b,fun h=>of_decide_eq_true (by rw [←hb];exact h),?_⟩;have d1:decide ((12:Int)<(n:Int))=false:=Yak (by omega);have d2:decide (12<n)=false:=Yak h12;have HC:=Qaa hc;have HG:=Qaa (And.intro hg (And.intro hT (And.intro hb hn)))
  have hn12:n≤12:=by omega
  rw [←hn] at HC hcap;rw [←hn];clear hc hg hT hb hn h12;go_enter func8,ntmps8;go_wp2
  go_loopw [3] (fun i wr=>∃k:Nat,k≤n∧i=.int .i64 k∧wr=w∧Hid (∀j,j<k→(l.getD j NCH).2.length≤60∧(l.getD j NCH).1.length≤300)) (fun i _=>n - (intOf i).toNat)
  case atStart=>exact ⟨0,Nat.zero_le _,rfl,rfl,fun j hj=>by omega⟩
  case round =>
   obtain ⟨k,hk,rfl,rfl,hS⟩:=hrel
   by_cases hlt:k<n
   ·have dlt:decide ((k:Int)<(n:Int))=true:=Yaj (by omega)
    have dlt':decide (k<n)=true:=Yaj hlt
    have hkl:k<l.length:=by rw [←HG.out.2.2.2];exact hlt
    obtain ⟨bb,off,u,ea,hc0,hc1,hsp⟩:=HC.out.at k hkl;subst ea;obtain ⟨c,hcc⟩:∃c,c=l.getD k NCH:=⟨_,rfl⟩;rw [←hcc] at hc0 hsp
    have hu8:U8 c.1:=by rw [hcc,Yad,Yaf hkl];exact HG.out.2.1 _ (List.getElem_mem hkl)
    obtain ⟨t,ht⟩:∃t,t=strOfNums c.1:=⟨_,rfl⟩
    have hts:t.size=c.1.length:=by rw [ht,←QaE,sb_of hu8]
    rw [←ht] at hc0
    obtain ⟨au,cu,rfl,_⟩:∃a c',u=.slice a c.2.length c'∧True:=by obtain ⟨a,c',e,_⟩:=hsp;exact ⟨_,_,e,trivial⟩
    obtain ⟨sl,hsl⟩:∃s,s=c.2.length:=⟨_,rfl⟩;obtain ⟨tl,htl⟩:∃s,s=t.size:=⟨_,rfl⟩;rw [←hsl] at hc1
    have i0:(0:Int)≤(k:Int):=by omega
    have i1:(k:Int)<(n:Int):=by omega
    have HX:=Qaa (And.intro hcc (And.intro hsl (And.intro htl hts)));clear hcc hsl hts hu8 ht hkl hsp
    by_cases h1:60<sl
    ·have e1:decide ((60:Int)<(sl:Int))=true:=Yaj (by omega)
     have e2:decide (60<sl)=true:=Yaj h1
     have hF:Hid (false=b):=by
      show false=b
      rw [HG.out.2.2.1]
      symm
      refine Yak (fun z=>?_);have:=(z.2 k (by rw [←HG.out.2.2.2];exact hlt)).1;rw [←HX.out.1,←HX.out.2.1] at this;omega
     clear htl h1;go_wp2;go_ret;exact ⟨by rw [hF.out];rfl,rfl⟩
    ·have e1:decide ((60:Int)<(sl:Int))=false:=Yak (by omega)
     have e2:decide (60<sl)=false:=Yak h1
     by_cases h2:300<tl
     ·have e3:decide ((300:Int)<(t.size:Int))=true:=Yaj (by omega)
      have e4:decide (300<t.size)=true:=Yaj (by omega)
      have hF:Hid (false=b):=by
       show false=b
       rw [HG.out.2.2.1]
       symm
       refine Yak (fun z=>?_);have:=(z.2 k (by rw [←HG.out.2.2.2];exact hlt)).2;rw [←HX.out.1,←HX.out.2.2.2,←HX.out.2.2.1] at this;omega
      clear htl h1 h2;go_wp2;go_ret;exact ⟨by rw [hF.out];rfl,rfl⟩
     ·have e3:decide ((300:Int)<(t.size:Int))=false:=Yak (by omega)
      have e4:decide (300<t.size)=false:=Yak (by omega)
      have N1:Hid (∀j,j<k+1→(l.getD j NCH).2.length≤60∧(l.getD j NCH).1.length≤300):=by
       intro j hj
       by_cases hjk:j<k
       ·exact hS.out j hjk
       ·have:j=k:=by omega
        subst this;rw [←HX.out.1,←HX.out.2.1,←HX.out.2.2.2,←HX.out.2.2.1];omega
      clear htl h1 h2 hS;go_wp2
      go_roundw
      case rel=>exact ⟨k+1,by omega,by go_num,trivial,N1⟩
      case measure=>simp [intOf];omega
   ·obtain rfl:k=n:=by omega
    have dlt:decide ((k:Int)<(k:Int))=false:=Yak (by omega)
    have hF:Hid (true=b):=by
     show true=b
     rw [HG.out.2.2.1]
     symm
     refine Yaj ⟨by have:=HG.out.2.2.2;omega,fun j hj=>hS.out j (by have:=HG.out.2.2.2;omega)⟩
    clear hS;go_wp2;go_ret;exact ⟨by rw [hF.out];rfl,rfl⟩
theorem Qoe {H:Type} {enc:TypeId × Value→H} {W:World} {fuel:Nat} {u:Value} {x:DataW H × List MemPlace}
  (hf:DataW.trod enc prog W 0 (fun _=>true) true fuel 26 [u]=some x):∃l:List CHK,Chs W u l∧CL l∧l.length≤maxLen:=by
 rcases Deep.open_slice_pairs underlying26 underlying50 (by kernel_rfl) rfl rfl (by kernel_rfl) (by kernel_rfl) hf with ⟨hcs,_⟩ | ⟨x,l,c,m,n,V0,V1,D0,D1,P0,P1,hcs,_,hl,hm,hmm,_,hi⟩
 ·simp at hcs
  subst hcs;exact ⟨[],⟨none,0,rfl,Nat.le_refl _,fun h=>absurd rfl h⟩,fun c h=>(by cases h),by simp⟩
 ·simp at hcs
  subst hcs;simp only [if_true] at hmm;rw [hmm] at hi;clear hmm
  have each:∀i,i<l→∃q:CHK × Value,W.cell? (x.add (i*2))=some (.string (strOfNums q.1.1))∧W.cell? (x.add (i*2+1))=some q.2∧Sps W q.2 q.1.2∧CG q.1∧q.1.1.length≤maxLen∧q.1.2.length≤maxLen:=by
   intro i hlt;obtain ⟨c0,c1,t0,t1⟩:=hi i (by omega);obtain ⟨q0,e0,_,w0⟩:=DataW.trod_string underlying9 t0;obtain ⟨s,h1,h2,h3⟩:=Qpf t1;simp at e0;exact ⟨((sb q0,s),V1 i),by rw [c0,e0,of_sb],c1,h1,⟨Qd5 q0,h2⟩,by rw [QaE];exact w0,h3⟩
  obtain ⟨q,hq⟩:=Deep.choose_lt each
  have hget:∀j,j<l→((List.range l).map fun j=>(q j).1).getD j NCH=(q j).1:=fun j hj=>by
   rw [Yad];simp [hj]
  refine ⟨(List.range l).map fun j=>(q j).1,⟨some x,c,by simp,by simpa using hl,fun hne=>?_⟩,?_,by simp;omega⟩
  ·have hp:0<l:=by
    cases l with
    | zero=>simp at hne
    | succ n=>omega
   obtain ⟨b,off,spot⟩:=x
   have hspot:spot=none:=by simpa [Addr.add] using World.cell?_spot (hq 0 hp).1
   subst hspot;refine ⟨b,off,rfl,fun j hj=>?_⟩
   have hj':j<l:=by simpa using hj
   rw [hget j hj'];obtain ⟨h0,h1,h2,_⟩:=hq j hj';rw [Go.WideShapes.add_plain] at h0 h1;exact ⟨(q j).2,h0,by rw [Nat.add_assoc];exact h1,h2⟩
  ·intro y hy
   simp only [List.mem_map,List.mem_range] at hy;obtain ⟨j,hj,rfl⟩:=hy;exact (hq j hj).2.2.2
theorem Qof {H:Type} {enc:TypeId × Value→H} {W:World} {a:Option Addr} {len cap:Nat} {d:DataW H} {p:List MemPlace}
  (h:DataW.Trod enc prog W 0 (fun _=>true) true 26 (.slice a len cap) d p):∃l:List CHK,Chs W (.slice a len cap) l∧CL l:=by
 obtain ⟨fuel,hf⟩:=h;obtain ⟨l,h1,h2,_⟩:=Qoe (u:=.slice a len cap) hf;exact ⟨l,h1,h2⟩
theorem Qri {H:Type} {enc:TypeId × Value→H} {W:World} {r:Reach} {b0:Nat} {v:Value} {d:DataW H} {p:List MemPlace} (hval:Value.okWide prog W r b0 25 v)
  (h:DataW.Trod enc prog W 0 (fun _=>true) true 25 v d p) :
  ∃(q:Nat) (vr:Value) (xs:List Int),v=.agg #[.int .u64 q,vr]∧q<18446744073709551616∧Bs .u8 W vr xs∧NoCap vr∧U8 xs:=by
 obtain ⟨cs,rfl,hsz⟩:=okWide_struct underlying25 hval;obtain ⟨fuel,hf⟩:=h
 have hc2:prog.cellsOf 25=2:=by kernel_rfl
 rw [hc2] at hsz
 obtain ⟨v0,v1,rfl⟩:∃v0 v1,cs=#[v0,v1]:=by
  obtain ⟨l⟩:=cs
  match l,hsz with
  | [a,b],_=>exact ⟨a,b,rfl⟩
 obtain ⟨y0,y1,n,_,_,g0,g1⟩:=trod_struct2 underlying25 hf
 have k0:prog.cellsOf 23=1:=by kernel_rfl
 have k1:prog.cellsOf 22=1:=by kernel_rfl
 simp [Value.cells,k0,k1] at g0 g1;obtain ⟨t,e0,_,w0⟩:=DataW.trod_int underlying23 g0;simp at e0;subst e0
 have hb:0≤t∧t≤18446744073709551615:=by simpa [Lit.wf,IntKind.min,IntKind.max,IntKind.signed,IntKind.bits] using w0
 obtain ⟨xs,h1,h2,h3⟩:=Qsc g1;exact ⟨t.toNat,v1,xs,by rw [show ((t.toNat:Nat):Int)=t by omega],by omega,h1,h2,h3⟩
end
end Go.Proofs.YtnhapmboienipaaGreatDoor
