import Derived.Test.YtnhapmboienipaaGreatDoorY42
import Derived.Test.YtnhapmboienipaaGreatDoorProg
import Derived.Test.YtnhapmboienipaaGreatDoorY1
import Derived.Test.YtnhapmboienipaaGreatDoorY41
namespace Go.Proofs.YtnhapmboienipaaGreatDoor
set_option maxHeartbeats 4000000
set_option maxRecDepth 100000
open Go.RowKit _root_.Go.Proofs.Tryz
def R5 (ls:List (List Int)):Prop:=∀l∈ls,U8 l∧l.length≤100000
theorem R5.take {ls:List (List Int)} (h:R5 ls) (n:Nat):R5 (ls.take n):=fun l hl=>h l (List.mem_of_mem_take hl)
theorem R5.drop {ls:List (List Int)} (h:R5 ls) (n:Nat):R5 (ls.drop n):=fun l hl=>h l (List.mem_of_mem_drop hl)
theorem R5.at {ls:List (List Int)} (h:R5 ls) (j:Nat):U8 (ls.getD j [])∧(ls.getD j []).length≤100000:=by
 rw [Yad]
 cases hj:ls[j]? with
 | none=>exact ⟨fun y hy=>by simp at hy,by simp⟩
 | some l=>exact h l (List.mem_of_getElem? hj)
theorem QsM:∀(f:Nat) (l:List (List Int)),R5 l→U8 (TOPF f l)∧(TOPF f l).length≤100000
 | 0,l,h=>by
  unfold TOPF;rw [Qdz];exact h.at 0
 | f+1,l,h=>by
  unfold TOPF
  split
  ·exact ⟨Qfh _,by rw [QaR];decide⟩
  ·split
   ·rw [Qdz]
    exact h.at 0
   ·exact ⟨Qfh _,by rw [Qdl];decide⟩
theorem QjE {l:List (List Int)} (h:R5 l):U8 (TOP l)∧(TOP l).length≤100000:=QsM _ l h
theorem Qnl:∀(k:Nat) (ls:List (List Int)) (v:Value) (w:World),ls.length≤k→ls.length≤1000000→R5 ls→RL w v ls →
  Calls prog 39 #[v] w fun e w'=>∃v',e=.returned v'∧w'.ownsRow w.heap.size 5 1 v' (TOP ls).length (bl (TOP ls))∧Only (fun _=>False) w w':=by
 have nought:∀(ls:List (List Int)) (v:Value) (w:World),ls.length=0→RL w v ls→Calls prog 39 #[v] w fun e w'=>∃v',e=.returned v'∧w'.ownsRow w.heap.size 5 1 v' (TOP ls).length (bl (TOP ls))∧Only (fun _=>False) w w':=by
  intro ls v w h0 hr;have A:=Qaa (Qiv (.slice none 0 0) [] w (Bs.nil _ _) NoCap.nil (fun y hy=>by simp at hy) (by simp));obtain ⟨ao,cap,e,_⟩:=hr.len;subst e;have e:ls=[]:=List.eq_nil_of_length_eq_zero h0;subst e;rw [Qjv,QaR];clear hr h0;go_enter func39,ntmps39;go_wp2_with fail;refine A.out.mono ?_;rintro e w4 ⟨v4,rfl,own4,on4⟩;have F1:=Qaa own4;have F2:=Qaa on4;obtain ⟨ao4,cap4,e4⟩:=Qad own4;subst e4;clear own4 on4 A;go_wp2;go_ret;exact ⟨_,rfl,F1.out,F2.out⟩
 intro k
 induction k with
 | zero=>intro ls v w h1 h2 h3 hr;exact nought ls v w (by omega) hr
 | succ k ih =>
  intro ls v w hk hl h5 hr
  by_cases h0:ls.length=0
  ·exact nought ls v w h0 hr
  clear nought;obtain ⟨n,hn⟩:∃n,ls.length=n:=⟨_,rfl⟩;obtain ⟨b,off,cap,rfl,hcap⟩:=hr.form hn (by omega)
  have d0:((n:Int) == 0)=false:=by rw [beq_eq_false_iff_ne];omega
  by_cases h1:n=1
  ·obtain ⟨i0,hi,hz0,hz1,hz2⟩:=info_parts Tryz.infoU8
   obtain ⟨u,hu,hbu,nu⟩:=hr.at 0 (by omega);rw [Nat.add_zero] at hu;have oA:Only (fun _=>False) w (w.alloc (.cells #[] 5)):=(Only.refl _ _).alloc _;have OW:=Qaa (Qqp w);have hx5:=(h5.at 0).2;rw [Qil (by omega),Qdz];obtain ⟨x,hx⟩:∃x,x=ls.getD 0 []:=⟨_,rfl⟩;rw [←hx] at hbu hx5 ⊢;have B:=Qaa (And.intro (hbu.past oA) nu);have hu':=QaY hu oA;have O:=Qaa oA
   have b1:Hid (0+x.length≤maxLen):=by show _≤_;unfold maxLen;omega
   have b2:Hid ((0+x.length)*1≤140737488355328):=by show _≤_;omega
   have Z:Hid (w.heap.size≤(w.alloc (.cells #[] 5)).heap.size):=oA.size;obtain ⟨ao,cu,rfl⟩:=hbu.len;obtain ⟨m,hm⟩:∃m,m=x.length:=⟨_,rfl⟩;rw [←hm] at B hu hu';subst h1;clear ih hk h0 hl h5 hr hn hbu nu hx hm hx5 oA d0;go_enter func39,ntmps39;go_wp2_with (at_builtin;refine Qab _ rfl _ _ 22 rfl w.heap.size 5 i0 (.int .u8 0) 1 underlying22 hi hz0 hz1 hz2 rfl (.slice (some ⟨w.heap.size,0,none⟩) 0 0) 0 (bl []) rfl OW.out .u8 _ x rfl B.out.1 B.out.2 b1.out b2.out Z.out ?_);intro v1 w1 own1 g1 _ _;have F:Hid (w1.ownsRow w.heap.size 5 1 v1 x.length (bl x)∧Only (fun _=>False) w w1):=⟨own1,O.out.grown g1 (fun k hk e=>by simp [Value.ownBlock] at e;omega)⟩;obtain ⟨ao1,cap1,e1⟩:=Qad own1;subst e1;clear own1 g1 B OW b1 b2 Z O;go_wp2;go_ret;exact ⟨_,rfl,F.out⟩
  ·obtain ⟨q,hq⟩:∃q,q=HALF n:=⟨_,rfl⟩
   have q1:=Qd2 n;have q2:=QfV (n:=n) (by omega);rw [←hq] at q1 q2;obtain ⟨L,hL⟩:∃L,L=ls.take q:=⟨_,rfl⟩;obtain ⟨R,hR⟩:∃R,R=ls.drop q:=⟨_,rfl⟩
   have hLl:L.length=q:=by rw [hL,Yag];omega
   have hRl:R.length=n - q:=by rw [hR,Yai];omega
   have L8:R5 L:=by rw [hL];exact h5.take _
   have R8':R5 R:=by rw [hR];exact h5.drop _
   have rL:RL w (.slice (some ⟨b,off,none⟩) q cap) L:=by rw [hL];exact hr.head q (by omega)
   have rR:RL w (.slice (some ⟨b,off+q,none⟩) (n - q) (cap - q)) R:=by rw [hR];exact hr.tail q (by omega)
   rw [Qim (by omega),hn,←hq,←hL,←hR,Qdl];have AL:=Qaa (Qnn n (by omega) w);rw [←hq] at AL;have T1:=Qaa (fun (W:World) (o:Only (fun _=>False) w W)=>ih L _ W (by omega) (by omega) L8 (rL.past o));have T2:=Qaa (fun (W:World) (o:Only (fun _=>False) w W)=>ih R _ W (by omega) (by omega) R8' (rR.past o));have NC:=Qaa (fun (vl vr:Value) (W:World) (hb:Bs .u8 W vl (TOP L)∧NoCap vl) (hr:Bs .u8 W vr (TOP R)∧NoCap vr)=>Qiu vl vr (TOP L) (TOP R) W hb.1 hb.2 hr.1 hr.2 (QjE L8).1 (QjE R8').1 (QjE L8).2 (QjE R8').2)
   have d1:((n:Int) == 1)=false:=by rw [beq_eq_false_iff_ne];omega
   have c1:(q:Int)≤(cap:Int):=by omega
   have c2:(q:Int)≤(n:Int):=by omega
   have c0:(0:Int)≤(q:Int):=by omega
   have c3:¬cap=q:=by omega
   clear ih hk h0 hl h5 hr hn hLl hRl L8 R8' rL rR hL hR hq h1;go_enter func39,ntmps39;go_wp2_with fail;refine AL.out.mono ?_;rintro e w1 ⟨rfl,rfl⟩;clear AL;go_wp2_with fail;go_region_held3 (fun _=>True) (trivial) (first|(go_at_call 39;refine (T1.out _ ((Only.refl _ _).drew)).mono ?_;rintro e w1 ⟨v1,rfl,own1,o1⟩;have O1:=Qaa (((Only.refl (fun _=>False) w).drew).same o1);have B1:=Qaa (And.intro (Qjs own1) (NoCap.of_own own1));clear own1 o1 T1)|(go_at_call 39;refine (T2.out _ O1.out).mono ?_;rintro e w2 ⟨v2,rfl,own2,o2⟩;have O2:=Qaa (O1.out.same o2);have B2:=Qaa (And.intro (Qjs own2) (NoCap.of_own own2));have B1':=Qaa (And.intro (B1.out.1.past o2) B1.out.2);clear own2 o2 T2)|(go_at_call 63;refine (NC.out _ _ _ B1'.out B2.out).mono ?_;rintro e w3 ⟨v3,rfl,own3,o3⟩;have F1:=Qaa (Qaf own3 O2.out.size);have F2:=Qaa (O2.out.same o3);obtain ⟨ao3,cap3,e3⟩:=Qad own3;subst e3;clear own3 o3 NC));go_wp2;go_ret;exact ⟨_,rfl,F1.out,F2.out⟩
theorem Qoh {f:Nat} {args:Array Value} {w:World} (h:Calls prog f args w fun e w'=>e=.returned (.bool true)∧Only (fun _=>False) w w'):Calls prog f args w fun e w'=>e=.returned (.bool true)∧Below w.heap.size w w':=by
 refine h.mono ?_;rintro e w' ⟨rfl,o⟩;exact ⟨rfl,o.low (Nat.le_refl _)⟩
theorem QsG {c:CHK} (h:c.2.length≤60):(CBY c).length≤4000:=Qpg (by omega)
theorem QsH {k:List Int} {v i:Int} {c:CHK} (h:c.2.length≤60):(SEt k v i c).length≤4112:=by
 by_cases hs:SEe k i c=0
 ·rw [Qhu hs]
  have:=QsG h
  have:PLN (CBY c).length≤4096:=by rw [Qjw];(repeat' split) <;> omega
  omega
 ·unfold SEt;rw [if_neg hs];simp
theorem QsI {m:List Int} {v:Nat} {l:List CHK} (h:FEWC l) {k:Nat} (hk:k<l.length):((SAt m v l l.length).getD k []).length≤4112:=by
 rw [Qqt m v l hk];exact QsH (h.2 k hk).1
theorem Qkz (v:Value) (xs:List Int) (w:World) (hb:Bs .u8 w v xs) (nc:NoCap v) (h8:U8 xs) (hl:xs.length≤1000000) :
  Calls prog 16 #[v] w fun e w'=>∃v',e=.returned v'∧w'.ownsRow w.heap.size 5 1 v' 32 (bl (SHA xs))∧Only (fun _=>False) w w':=by
 have A:=Qaa (QkH v xs w hb nc h8 hl);clear hb nc h8 hl;go_enter func16,ntmps16;go_wp2_with fail;refine A.out.mono ?_;rintro e w4 ⟨v4,rfl,F⟩;have F1:=Qaa F;obtain ⟨a,c,rfl⟩:=Qad F.1;clear F A;go_wp2;go_ret;exact ⟨_,rfl,F1.out⟩
theorem Qiq (v:Value) (ls:List (List Int)) (w:World) (hl:ls.length≤1000000) (h5:R5 ls) (hr:RL w v ls) :
  Calls prog 17 #[v] w fun e w'=>∃v',e=.returned v'∧w'.ownsRow w.heap.size 5 1 v' (TOP ls).length (bl (TOP ls))∧Only (fun _=>False) w w':=by
 have A:=Qaa (Qnl ls.length ls v w (Nat.le_refl _) hl h5 hr);clear hl h5 hr;go_enter func17,ntmps17;go_wp2_with fail;refine A.out.mono ?_;rintro e w4 ⟨v4,rfl,F⟩;have F1:=Qaa F;obtain ⟨a,c,rfl⟩:=Qad F.1;clear F A;go_wp2;go_ret;exact ⟨_,rfl,F1.out⟩
theorem QeJ (va vb:Value) (xs:List Int) (w:World) (ha:Bs .u8 w va xs) (hb:Bs .u8 w vb xs) (hl:xs.length≤1000000000) :
  Calls prog 13 #[va,vb] w fun e w'=>e=.returned (.bool true)∧Only (fun _=>False) w w':=by
 have A:=Qaa (QjF va vb xs xs w ha hb (by omega));rw [Yaj rfl] at A;obtain ⟨aa,ca,rfl⟩:=ha.len;obtain ⟨ab,cb,rfl⟩:=hb.len;obtain ⟨n,hn⟩:∃n,n=xs.length:=⟨_,rfl⟩;rw [←hn] at A ⊢;clear ha hb hl hn;go_enter func13,ntmps13;go_wp2_with fail;refine A.out.mono ?_;rintro e w1 ⟨rfl,o1⟩;have F:=Qaa o1;clear A o1;go_wp2;go_ret;exact ⟨rfl,F.out⟩
theorem Qnc (vm vr vl:Value) (m r:List Int) (p v:Nat) (l:List CHK) (w:World) (bm:Bs .u8 w vm m) (m8:U8 m) (br:Bs .u8 w vr r) (nr:NoCap vr) (r8:U8 r) (hv:v<18446744073709551616) (hc:Chs w vl l) (hg:CL l) (hT:Tab w) :
  Calls prog 6 #[vm,.agg #[.int .u64 p,vr],.int .u64 v,vl] w fun e w'=>e=.returned (.bool true)∧Only (fun _=>False) w w':=by
 obtain ⟨am,cm,rfl⟩:=bm.len;obtain ⟨ar,cr,rfl⟩:=br.len;obtain ⟨al,cl,rfl,_⟩:=hc.len
 have hcg:∀c∈l,CG c:=fun c h=>(hg c h).1
 obtain ⟨w0,hw0⟩:∃w0,w0=w.alloc (.cells #[.int .u64 p,.slice ar r.length cr] 25):=⟨_,rfl⟩
 have o0:Only (fun _=>False) w w0:=by rw [hw0];exact (Only.refl _ _).alloc _
 have gP:=Qaa (show w0.heap[w.heap.size]? = some (.cells #[.int .u64 p,.slice ar r.length cr] 25 (0,0)) by rw [hw0];exact heap_alloc_new _ _);have A:=Qaa (Qlf w0 (hT.past o0));have FW:=Qaa (fun W (o:Only (fun _=>False) w W)=>Qlg (.slice al l.length cl) l W (hc.past o) hg (fun c h=>(hcg c h).t8));have BD:=Qaa (fun W (o:Only (fun _=>False) w W) (h100:l.length≤100)=>Qgb (.slice am m.length cm) (.slice ar r.length cr) (.slice al l.length cl) m r p v l W (bm.past o) m8 (br.past o) nr r8 (hc.past o) hg h100 hv (hT.past o));have HR:=Qaa (And.intro br nr);have HI:=Qaa (And.intro m8 (And.intro hv (And.intro hg (And.intro hcg r8))));obtain ⟨M,hM⟩:∃M,M=m.length:=⟨_,rfl⟩;obtain ⟨n,hn⟩:∃n,n=l.length:=⟨_,rfl⟩;obtain ⟨rl,hrl⟩:∃n,n=r.length:=⟨_,rfl⟩;rw [←hn] at FW;simp only [←hM,←hn,←hrl] at BD;rw [←hrl] at gP HR hw0;rw [←hM,←hn,←hrl];have HW:=Qaa (And.intro hw0 o0);have HL:=Qaa (And.intro hM (And.intro hn hrl));clear bm m8 br nr r8 hv hc hg hT hcg hM hn hrl hw0 o0;go_enter func6,ntmps6;go_wp2_with fail;rw [←HW.out.1];refine A.out.mono ?_;rintro e w1 ⟨rfl,o1⟩;obtain ⟨b,hb,fw⟩:=FW.out w1 (HW.out.2.same o1);have FW1:=Qaa fw;have HB:=Qaa hb;have O1:=Qaa o1;clear A FW fw hb o1
 cases b with
 | false =>
  clear BD HB HR HI;go_wp2_with fail;refine FW1.out.mono ?_;rintro e w2 ⟨rfl,rfl⟩;have F:=Qaa (HW.out.2.same O1.out);clear FW1 O1;go_wp2;go_ret;exact ⟨rfl,F.out⟩
 | true =>
  have hF:=Qaa (HB.out rfl)
  have hn12:n≤12:=by have:=HL.out.2.1;have:=hF.out.1;omega
  clear HB
  by_cases h32:M=32
  ·subst h32
   have g1:=O1.out.heap gP.out (fun f=>f);obtain ⟨x0,x1,_,_⟩:=Qar g1;have BD1:=Qaa (BD.out w1 (HW.out.2.same O1.out) (by have:=HL.out.2.1;omega));clear BD g1
   by_cases hE:ARe m (p,r) v l=0
   ·have h100:l.length≤100:=by have:=HL.out.2.1;omega
    have hsp:=QiT (m:=m) (s:=(p,r)) (v:=v) HI.out.2.1 HI.out.2.2.2.2 HI.out.2.2.2.1 h100 hE;have h8:=AR_u8 (m:=m) (s:=(p,r)) (v:=v) HI.out.2.1 HI.out.2.2.2.2 HI.out.2.2.2.1 hE;have hln:=QtA (m:=m) (s:=(p,r)) (v:=v) HI.out.2.1 HI.out.2.2.2.2 HI.out.2.2.2.1 h100 hE;have SP:=Qaa (fun (W:World) (x:Value) (h:Bs .u8 W x (ARt m (p,r) v l))=>Qft x (ARt m (p,r) v l) W h h8.2 (by omega) hsp);have hrr:ARr m (p,r) v l=(v,RTF (SAt m v l l.length)):=if_pos hE;have hpl:(PRV r).length=32:=Qhw (QiH (QiI hE).1).2.1
    have hlf:(SAt m v l l.length).length=n:=by rw [HL.out.2.1];exact Qd6 _ _ _ _
    rw [hE,hrr] at BD1;have HQ:=Qaa (And.intro hpl (And.intro hlf (And.intro (show (ARm m r v l).prev=PRV r from rfl) (And.intro (show (ARm m r v l).root=RTF (SAt m v l l.length) from rfl) (show (ARm m r v l).ver=v from rfl)))));clear h100 hsp h8 hln hE hrr hpl hlf;go_wp2_with fail;refine FW1.out.mono ?_;rintro e w2 ⟨rfl,rfl⟩;clear FW1;go_wp2_with fail;refine BD1.out.mono ?_;rintro e w3 ⟨u,ru,rfl,bu⟩;have hru:=bu.r.formN (n:=32) (Qbd _);obtain ⟨a3,c3,rfl,_⟩:=hru;obtain ⟨au,cu,rfl⟩:=(Bs.of_own (k:=.u8) (E:=5) bu.t).len;obtain ⟨W4,hW4⟩:∃W,W=w3.alloc (.cells #[.int .u64 v,.slice a3 32 c3] 25):=⟨_,rfl⟩
    have o4:Only (fun _=>False) w3 W4:=by rw [hW4];exact (Only.refl _ _).alloc _
    have g4:=show W4.heap[w3.heap.size]? = some (.cells #[.int .u64 v,.slice a3 32 c3] 25 (0,0)) by rw [hW4];exact heap_alloc_new _ _
    have SP4:=Qaa (SP.out W4 _ ((Bs.of_own (k:=.u8) (E:=5) bu.t).past o4));have H4:=Qaa (And.intro (O1.out.same (bu.o.same o4)) (And.intro g4 (bu.r.past o4)));have HW4:=Qaa hW4;clear bu o4 g4 BD1 O1 SP hW4 x0 x1;go_wp2_with fail;rw [←HW4.out];refine SP4.out.mono ?_;rintro e w5 ⟨x,vp,ve,vr2,sg,a,rfl,sw⟩;have hf:=sw.mn.mf.form;obtain ⟨ap,cp,ep,_⟩:=sw.mn.mf.prev.formN (n:=32) (by rw [HQ.out.2.2.1];exact HQ.out.1);obtain ⟨ae,ce,ee⟩:=sw.mn.mf.es.len;obtain ⟨avr,cvr,er,_⟩:=sw.mn.mf.root.formN (n:=32) (by rw [HQ.out.2.2.2.1];exact Qbd _);obtain ⟨vs,lo,own⟩:=sw.ls;obtain ⟨aa,ca,ea⟩:=Qad own;obtain ⟨asg,csg,esg⟩:=sw.sg.len;subst ep ee er hf ea esg;obtain ⟨W6,hW6⟩:∃W,W=w5.alloc (.cells #[.int .u64 (ARm m r v l).ver,.slice ap 32 cp,.slice ae (ARm m r v l).es.length ce,.slice avr 32 cvr] 42):=⟨_,rfl⟩
    have o6:Only (fun _=>False) w5 W6:=by rw [hW6];exact (Only.refl _ _).alloc _
    have g6:=show W6.heap[w5.heap.size]? = some (.cells #[.int .u64 (ARm m r v l).ver,.slice ap 32 cp,.slice ae (ARm m r v l).es.length ce,.slice avr 32 cvr] 42 (0,0)) by rw [hW6];exact heap_alloc_new _ _
    have o46:=sw.o.same o6;have o06:=H4.out.1.same o46;obtain ⟨x0,x1,_,_⟩:=Qar (o06.heap gP.out (fun f=>f));have H6:=Qaa (And.intro o06 (And.intro g6 (And.intro (o46.heap H4.out.2.1 (fun f=>f)) (And.intro (H4.out.2.2.past o46) (And.intro (sw.mn.mf.prev.past o6) (And.intro (sw.mn.mf.root.past o6) (And.intro (lo.past o6) (o6.own own (fun _ _ f=>f)))))))));rw [HQ.out.2.1] at H6;have MK:=Qaa (fun W=>QjL W 32 (by omega))
    have hpr:PRV r=if r.length=0 then List.replicate 32 0 else r:=rfl
    rw [←HL.out.2.2] at hpr;clear sw lo own o6 g6 o46 o06 SP4 H4;subst hW6;rw [HQ.out.2.1];obtain ⟨W6,hW6⟩:∃W,W=w5.alloc (.cells #[.int .u64 (ARm m r v l).ver,.slice ap 32 cp,.slice ae (ARm m r v l).es.length ce,.slice avr 32 cvr] 42):=⟨_,rfl⟩;rw [←hW6] at H6;have lsl:=Qd6 m v l l.length;have hnl:=HL.out.2.1
    have VE:=Qaa (show vs.length=n∧∀k,k<n→∃a1 zz c1,vs[k]? = some (.slice a1 zz c1)∧zz=((SAt m v l l.length).getD k []).length∧zz≤4112 from by
     have hvl:vs.length=n:=by rw [H6.out.2.2.2.2.2.2.1.1,lsl,hnl]
     refine ⟨hvl,fun k hk=>?_⟩;obtain ⟨lo1,ow1⟩:=H6.out.2.2.2.2.2.2.1.2 k vs[k] (Yaf (by omega));obtain ⟨a1,c1,e1⟩:=Qad ow1
     exact ⟨a1,_,c1,by rw [Yaf (by omega),e1],rfl,QsI hF.out (by omega)⟩)
    obtain ⟨i0,hi,hz0,hz1,hz2⟩:=info_parts Tryz.infoU8;obtain ⟨j0,hj,jz0,jz1,jz2⟩:=info_parts Tryz.infoRows;have r8a:=Qk5 (m:=m) (v:=v) HI.out.2.2.2.1 l.length
    have LR5:=Qaa (show R5 ((SAt m v l l.length).map LEAF) from fun y hy=>by
     obtain ⟨z,_,rfl⟩:=List.mem_map.1 hy
     exact ⟨Qfh _,by rw [Qdk];omega⟩)
    have SM:=Qaa (fun (k:Nat) (W:World) (x:Value) (h:Bs .u8 W x (0 :: (SAt m v l l.length).getD k [])) (nx:NoCap x) (hk:((SAt m v l l.length).getD k []).length≤4112)=>Qkz x (0 :: (SAt m v l l.length).getD k []) W h nx (fun y hy=>by
     rcases List.mem_cons.1 hy with rfl | h
     ·decide
     ·exact (r8a.at k).1 y h) (by rw [Yah];omega))
    clear lsl hnl r8a
    by_cases h0:rl=0
    case' pos =>
     subst h0;rw [if_pos rfl] at hpr;obtain ⟨W7,hmk,hbk,om⟩:=MK.out W6;rw [show ((32:Nat):Int)=32 from rfl,hW6] at hmk;have BW:=Qaa (hbk.bs 32 (by simp));rw [←hpr,show W6.heap.size=w5.heap.size+1 by rw [hW6];simp] at BW;have O67:=Qaa om;have HW6:=Qaa hW6;clear hbk om MK hpr hW6;go_wp2_with fail
    case' neg =>
     rw [if_neg h0] at hpr
     have d0:((rl:Int) == 0)=false:=by rw [beq_eq_false_iff_ne];omega
     have BW:=Qaa (HR.out.1.past (HW.out.2.same H6.out.1));rw [←hpr] at BW;obtain ⟨W7,hW7⟩:∃W,W=W6:=⟨_,rfl⟩
     have O67:Hid (Only (fun _=>False) W6 W7):=by rw [hW7];exact Only.refl _ _
     rw [←hW7] at BW;have HW6:=Qaa hW6;have HW7:=Qaa hW7;clear MK hpr hW6 hW7;go_wp2_with fail;rw [←HW6.out,←HW7.out]
    all_goals (
     have S0:Hid (∃us:List Value,LO W7 us (((SAt m v l l.length).take 0).map LEAF)∧W7.ownsRow W7.heap.size 22 1 (.slice none 0 0) 0 us):=⟨[],LO.nil _,World.ownsRow_nil _ _ _ _⟩;have OR:Hid (Only (fun _=>False) W7 W7):=Only.refl _ _
     go_loopw [18,19] (fun s i wr=>∃k:Nat,k≤n∧i=.int .i64 k∧Hid (Only (fun _=>False) W7 wr)∧Hid (∃us:List Value,LO wr us (((SAt m v l l.length).take k).map LEAF)∧wr.ownsRow W7.heap.size 22 1 s k us)) (fun _ i _=>n - (intOf i).toNat)
     case atStart=>exact ⟨0,Nat.zero_le _,rfl,OR,S0⟩
     case round =>
      obtain ⟨k,hk,rfl,oW,hS⟩:=hrel;clear S0 OR
      by_cases hlt:k<n
      ·have dlt:decide ((k:Int)<(n:Int))=true:=Yaj (by omega)
       have dlt':decide (k<n)=true:=Yaj hlt;obtain ⟨a1,zz,c1,hvk,hzz,hz4⟩:=VE.out.2 k hlt;have o6w:=O67.out.same oW.out
       obtain ⟨ga,hga⟩:∃g,aa=some ⟨g,0,none⟩:=by
        rcases H6.out.2.2.2.2.2.2.2.2 with ⟨e,h0⟩ | ⟨g,_,_,e,_⟩
        ·omega
        ·cases e;exact ⟨g,rfl⟩
       subst hga;have hpc:=World.ownsRow.cellAt (o6w.own H6.out.2.2.2.2.2.2.2 (fun _ _ f=>f)) k (by omega);rw [hvk] at hpc;obtain ⟨lo1,ow1⟩:=(H6.out.2.2.2.2.2.2.1.past o6w).2 k _ hvk;have SMk:=Qaa (SM.out k);obtain ⟨X,hX⟩:∃X,X=(SAt m v l l.length).getD k []:=⟨_,rfl⟩;rw [←hX] at hzz ow1 SMk;have HX:=Qaa hX;have oA:Only (fun _=>False) wr (wr.alloc (.cells #[.int .u8 0] 5)):=(Only.refl _ _).alloc _;have OW:=Qaa (Qfu wr 5 (bl [0]) (Nat.le_refl _) (show 1≤maxLen by unfold maxLen;decide));have PB:=Qaa (And.intro ((Bs.of_own (k:=.u8) (E:=5) (lo:=lo1) ow1).past oA) (NoCap.of_own ow1))
       have b1:Hid (1+(X).length≤maxLen):=by show _≤_;unfold maxLen;omega
       have b2:Hid ((1+(X).length)*1≤140737488355328):=by show _≤_;omega
       have Z:Hid (wr.heap.size≤(wr.alloc (.cells #[.int .u8 0] 5)).heap.size):=oA.size
       have i1':(0:Int)≤(k:Int):=by omega
       have i2':(k:Int)<(n:Int):=by omega
       have hpc2:=QaY hpc oA;have OA:=Qaa oA;have HZ:=Qaa (And.intro hzz hz4);clear hvk o6w ow1 oA hzz hz4 hX SM;go_wp2_with (at_builtin;refine Qab _ rfl _ _ 22 rfl wr.heap.size 5 i0 (.int .u8 0) 1 underlying22 hi hz0 hz1 hz2 rfl (.slice (some ⟨wr.heap.size,0,none⟩) 1 1) 1 (bl [0]) rfl OW.out .u8 _ (X) rfl PB.out.1 PB.out.2 b1.out b2.out Z.out ?_);intro v1 y1 own1 g1 _ _;have O1':=Qaa (OA.out.grown g1 (fun k hk e=>by simp [Value.ownBlock] at e;omega))
       have b3:Bs .u8 y1 v1 (0 :: X):=Bs.of_own (k:=.u8) (E:=5) (lo:=wr.heap.size) (by
        rw [Yah,Nat.add_comm];exact own1)
       have RS:=Qaa (SMk.out y1 v1 b3 (NoCap.of_own own1) (by rw [←HZ.out.1];exact HZ.out.2));obtain ⟨ao1,cap1,e1⟩:=Qad own1;subst e1;clear own1 g1 b3 OW PB b1 b2 Z OA;go_wp2_with fail;refine RS.out.mono ?_;rintro e y2 ⟨v2,rfl,own2,o2⟩;obtain ⟨a2,c2,rfl⟩:=Qad own2;obtain ⟨y3,hy3⟩:∃W,W=y2.alloc (.cells #[.slice a2 32 c2] 22):=⟨_,rfl⟩
       have o3:Only (fun _=>False) y2 y3:=by rw [hy3];exact (Only.refl _ _).alloc _
       have hV:VS y3 (.slice (some ⟨y2.heap.size,0,none⟩) 1 1) [.slice a2 32 c2]:=VS.of_own (lo:=y2.heap.size) (n:=1) (e:=22) (by rw [hy3];exact Qfu y2 22 [.slice a2 32 c2] (Nat.le_refl _) (show 1≤maxLen by unfold maxLen;decide)) (fun y hy=>by simp at hy;subst hy;rfl);obtain ⟨us,lus,ous⟩:=hS.out;have or3:=O1'.out.same (o2.same o3);have E3:=Qaa (And.intro (or3.own ous (fun _ _ f=>f)) (And.intro (lus.past or3) (And.intro (oW.out.same or3) (o3.own own2 (fun _ _ f=>f)))));have HV:=Qaa (And.intro hV hy3);have bs:Hid (W7.heap.size≤y3.heap.size):=E3.out.2.2.1.size
       have hkm:k+1≤maxLen:=by unfold maxLen;omega
       clear own2 o2 o3 hV lus ous or3 RS O1' hy3 hS oW hpc hpc2;go_wp2_with (at_builtin;rw [←HV.out.2];refine Qbl _ rfl _ _ 43 rfl W7.heap.size 22 j0 NIL 24 underlying43 hj jz0 jz1 jz2 rfl _ k us rfl E3.out.1 _ [.slice a2 32 c2] rfl HV.out.1 hkm (by simp only [Yah,List.length_nil];omega) bs.out ?_);intro v' y4 own4 g4
       have NS:Hid (∃us:List Value,LO y4 us (((SAt m v l l.length).take (k+1)).map LEAF)∧y4.ownsRow W7.heap.size 22 1 v' (k+1) us):=by
        have hkl:k<(SAt m v l l.length).length:=by rw [HQ.out.2.1];exact hlt
        have e1:((SAt m v l l.length).take (k+1)).map LEAF=((SAt m v l l.length).take k).map LEAF++[LEAF X]:=by
         rw [List.take_add_one,List.map_append,HX.out,Yad,Yaf hkl];rfl
        refine ⟨us++[.slice a2 32 c2],?_,own4⟩;rw [e1];have h1:=LO.one (l:=LEAF X) (lo:=y1.heap.size) (by rw [Qdk];exact E3.out.2.2.2);exact (E3.out.2.1.grown E3.out.1 g4).app (h1.grown E3.out.1 g4)
       have NO:Hid (Only (fun _=>False) W7 y4):=E3.out.2.2.1.grown g4 (fun q hq e=>by have:=(E3.out.1.lt q e).1;omega);obtain ⟨a4,c4,rfl⟩:=Qad own4;clear own4 g4 E3 HV bs hkm;go_wp2
       go_roundw
       case rel=>exact ⟨k+1,by omega,by go_num,NO,NS⟩
       case measure=>simp [intOf];omega
      ·obtain rfl:k=n:=by omega
       have dlt:decide ((k:Int)<(k:Int))=false:=Yak (by omega);obtain ⟨us,lus,ous⟩:=hS.out;rw [←HQ.out.2.1,List.take_length] at lus;obtain ⟨al4,cl4,rfl⟩:=Qad ous;have o6w:=O67.out.same oW.out
       have KS:=Qaa (fun (W:World) (o:Only (fun _=>False) wr W)=>show W.cell? ⟨w5.heap.size,0,none⟩=some (.int .u64 (ARm m r v l).ver)∧W.cell? ⟨w5.heap.size,1,none⟩=some (.slice ap 32 cp)∧W.cell? ⟨w5.heap.size,3,none⟩=some (.slice avr 32 cvr)∧W.cell? ⟨w3.heap.size,0,none⟩=some (.int .u64 v)∧W.cell? ⟨w3.heap.size,1,none⟩=some (.slice a3 32 c3) from by
        obtain ⟨⟨y0,y1,_,y3⟩,_⟩:=QaQ ((o6w.same o).heap H6.out.2.1 (fun f=>f));obtain ⟨z0,z1,_,_⟩:=Qar ((o6w.same o).heap H6.out.2.2.1 (fun f=>f))
        exact ⟨y0,y1,y3,z0,z1⟩)
       have T1:=Qaa (fun (W:World) (o:Only (fun _=>False) wr W)=>QeJ _ _ (PRV r) W (show Bs .u8 W (.slice ap 32 cp) (PRV r) from by rw [←HQ.out.2.2.1];exact H6.out.2.2.2.2.1.past (o6w.same o)) (BW.out.past (oW.out.same o)) (by rw [HQ.out.1];decide))
       have T2:=Qaa (fun (W:World) (o:Only (fun _=>False) wr W)=>show Calls prog 12 #[.agg #[.int .u64 v,.slice a3 32 c3],.agg #[.int .u64 v,.slice avr 32 cvr]] W fun e w'=>e=.returned (.bool true)∧Only (fun _=>False) W w' from by
        have:=Qe7 v v (.slice a3 32 c3) (.slice avr 32 cvr) (RTF (SAt m v l l.length)) (RTF (SAt m v l l.length)) W (H6.out.2.2.2.1.past (o6w.same o)) (by rw [←HQ.out.2.2.2.1];exact H6.out.2.2.2.2.2.1.past (o6w.same o)) (by rw [Qbd];decide)
        rwa [Yaj ⟨rfl,rfl⟩] at this)
       have hu:us.length=k:=by rw [lus.1,List.length_map];exact HQ.out.2.1
       have RLu:=Qaa (fun (W:World) (o:Only (fun _=>False) wr W)=>((lus.past o).rl (lo:=W7.heap.size) (by rw [hu];exact o.own ous (fun _ _ f=>f))).1);have T3:=Qaa (fun (W:World) (o:Only (fun _=>False) wr W)=>Qiq _ ((SAt m v l l.length).map LEAF) W (by rw [List.length_map,HQ.out.2.1];omega) LR5.out (RLu.out W o));have T4:=Qaa (fun (W:World) (o:Only (fun _=>False) wr W) (x:Value) (h:Bs .u8 W x (TOP ((SAt m v l l.length).map LEAF)))=>QeJ (.slice avr 32 cvr) x (TOP ((SAt m v l l.length).map LEAF)) W (by have h1:=H6.out.2.2.2.2.2.1.past (o6w.same o);rw [HQ.out.2.2.2.1] at h1;exact h1) h (by have h1:=Qbd (SAt m v l l.length);unfold RTF at h1;rw [h1];decide));have FO:=Qaa ((HW.out.2.same H6.out.1).same o6w);have ev:(ARm m r v l).ver=v:=rfl;rw [ev] at KS
       have dv:((v:Int) == (v:Int))=true:=by simp
       obtain ⟨y0,y1,y3,z0,z1⟩:=KS.out wr (Only.refl _ _);clear lus ous hu RLu hS oW o6w SM VE;go_wp2_with fail
       go_region_held3 (fun W=>W.cell? ⟨w5.heap.size,0,none⟩=some (.int .u64 v)∧W.cell? ⟨w5.heap.size,1,none⟩=some (.slice ap 32 cp)∧W.cell? ⟨w5.heap.size,3,none⟩=some (.slice avr 32 cvr)∧W.cell? ⟨w3.heap.size,0,none⟩=some (.int .u64 v)∧W.cell? ⟨w3.heap.size,1,none⟩=some (.slice a3 32 c3))
        (first | exact KS.out _ (Only.refl _ _) | exact KS.out _ (Only.refl _ _).drew | exact KS.out _ Q1.out | exact KS.out _ Q2.out | exact KS.out _ Q3.out | exact KS.out _ Q4.out | assumption)
        (first
         | (go_at_call 13;refine (T1.out _ (Only.refl _ _).drew).mono ?_;rintro e q1 ⟨rfl,o1⟩;have Q1:=Qaa (((Only.refl (fun _=>False) wr).drew).same o1);clear o1 T1 y0 y1 y3 z0 z1;obtain ⟨y0,y1,y3,z0,z1⟩:=KS.out _ Q1.out)
         | (go_at_call 12;refine (T2.out _ Q1.out).mono ?_;rintro e q2 ⟨rfl,o2⟩;have Q2:=Qaa (Q1.out.same o2);clear o2 T2 y0 y1 y3 z0 z1;obtain ⟨y0,y1,y3,z0,z1⟩:=KS.out _ Q2.out)
         | (go_at_call 17;refine (T3.out _ Q2.out).mono ?_;rintro e q3 ⟨u3,rfl,own3,o3⟩;have Q3:=Qaa (Q2.out.same o3);have B3:=Qaa (Bs.of_own (k:=.u8) (E:=5) own3);clear own3 o3 T3 y0 y1 y3 z0 z1;obtain ⟨y0,y1,y3,z0,z1⟩:=KS.out _ Q3.out)
         | (go_at_call 13;refine (T4.out _ Q3.out _ B3.out).mono ?_;rintro e q4 ⟨rfl,o4⟩;have Q4:=Qaa (Q3.out.same o4);clear o4 T4 B3)
         | fail)
       all_goals (
        go_wp2;go_ret
        exact ⟨rfl,FO.out.same Q4.out⟩))
   ·have hne:(ARe m (p,r) v l != 0)=true:=by simpa using hE
    have hT0:ARt m (p,r) v l=[]:=if_neg hE;rw [hT0] at BD1;clear hE hT0;generalize ARe m (p,r) v l=c at *;go_wp2_with fail;refine FW1.out.mono ?_;rintro e w2 ⟨rfl,rfl⟩;clear FW1;go_wp2_with fail;refine BD1.out.mono ?_;rintro e w3 ⟨u,ru,rfl,bu⟩;obtain ⟨a3,c3,rfl⟩:=bu.r.len;obtain ⟨au,cu,rfl⟩:=(Bs.of_own (k:=.u8) (E:=5) bu.t).len;have F:=Qaa (((HW.out.2.same O1.out).same bu.o).alloc (.cells #[.int .u64 (ARr m (p,r) v l).1,.slice a3 (ARr m (p,r) v l).2.length c3] 25));clear bu BD1 O1 x0 x1;go_wp2;go_ret;exact ⟨rfl,F.out⟩
  ·have d1:((M:Int) != 32)=true:=by rw [bne_iff_ne];omega
   clear BD HR HI h32;go_wp2_with fail;refine FW1.out.mono ?_;rintro e w2 ⟨rfl,rfl⟩;have F:=Qaa (HW.out.2.same O1.out);clear FW1 O1;go_wp2;go_ret;exact ⟨rfl,F.out⟩
theorem QkA (vm vr vl:Value) (m r:List Int) (p:Nat) (v:Int) (l:List CHK) (w:World) (bm:Bs .u8 w vm m) (m8:U8 m) (br:Bs .u8 w vr r) (nr:NoCap vr) (r8:U8 r) (hv:0≤v∧v≤18446744073709551615) (h:Chs w vl l∧CL l) (hT:Tab w) :
  Calls prog 6 #[vm,.agg #[.int .u64 p,vr],.int .u64 v,vl] w fun e w'=>e=.returned (.bool true)∧Below w.heap.size w w':=by
 obtain ⟨n,rfl⟩:=Int.eq_ofNat_of_zero_le hv.1;exact Qoh (Qnc vm vr vl m r p n l w bm m8 br nr r8 (by omega) h.1 h.2 hT)
end Go.Proofs.YtnhapmboienipaaGreatDoor
