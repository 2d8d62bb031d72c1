import Derived.Test.YtoflhbghdlaeaaaGreatDoorG20
import Derived.Test.YtoflhbghdlaeaaaGreatDoorG9
namespace Go.Proofs.YtoflhbghdlaeaaaGreatDoor
set_option maxHeartbeats 2000000
set_option maxRecDepth 100000
open Go.RowKit _root_.Go.Proofs.Tryz
def Yn (k:LI):LI:=QT k 4 []
theorem LC {k:LI} (h:k.length=32):(Yn k).length=32:=by unfold Yn QT;rw[if_pos h,if_pos (by simp),Wf]
theorem T9 (k:LI):U8 (Yn k):=by
 unfold Yn QT
 by_cases h:k.length=32
 ·rw[if_pos h,if_pos (by simp)];exact ZQ _ _ _
 ·rw[if_neg h];intro y hy;cases hy
theorem Z6 {k:LI} (h:k.length=32):QL k []=0:=by unfold QL;rw[if_pos h];rfl
theorem Jh {k:LI} (h:k.length≠32):QL k []=1:=by unfold QL;rw[if_neg h]
def Wj (k:LI) (m:MAN):Int:=if k.length=32 then Q7 m else 1
def UT (k:LI) (m:MAN):LI:=if Wj k m=0 then MENC m++MACL (Yn k) (MENC m) else []
def UD (k b:LI):Int:=if k.length=32 then (if b.length<32 then 2 else if MACL (Yn k) (b.take (b.length - 32))=b.drop (b.length - 32) then Y0 (b.take (b.length - 32)) else 5) else 1
def Yp (k b:LI):MAN:=if k.length=32 then (if b.length<32 then ⟨0,[],[],[]⟩ else if MACL (Yn k) (b.take (b.length - 32))=b.drop (b.length - 32) then Yj (b.take (b.length - 32)) else ⟨0,[],[],[]⟩) else ⟨0,[],[],[]⟩
theorem uw {m:MAN} (h:Uh m):(MENC m).length<=1000000000:=by
 obtain⟨g1,g2,g3,g4,g5⟩:=h;have h1:(QC m).length<=1048576:=Nat.le_trans (Ve m) g4
 have q1:=ZH (QC m) _ (Nat.le_refl _) h1 (λx hx=>by
  obtain⟨e,h0,rfl⟩:=List.mem_map.1 ((UF _ _).1 hx)
  exact (g5 e h0).1.1)
 have q2:=ZM (QC m) m.es _ (Nat.le_refl _) g4 (λe h0=>VU h0) h1;rw[XX] at q1;rw[JZ] at q2;unfold MENC;simp only[Qc,QD,g2.1,g3.1,QW,Qi,List.length_nil] at q1 q2 ⊢;omega
theorem Ex (vk x vp ve vr:Value) (k:LI) (m:MAN) (w:World) (hb:Bs .u8 w vk k) (hk8:U8 k) (h:Mf w x m vp ve vr) (hk:Mok m) (np:NoCap vp) (nr:NoCap vr) (hm63:m.es.length<=9223372036854775806) :
 Calls prog 19 #[vk,x] w λe w'=>∃u,e=.returned (.tuple #[u,.int .i64 (Wj k m)])∧w'.ownsRow w.heap.size 5 1 u (UT k m).length ((UT k m).map (Value.int .u8))∧N0 w w':=by
 have hf:=h.form;obtain⟨ap,pc,ep⟩:=h.prev.len;obtain⟨ae,ec,ee⟩:=h.es.len;obtain⟨ar,rc,er⟩:=h.root.len;obtain⟨ak,kc,ek⟩:=hb.len;subst ep ee er hf ek;have oa:N0 w (w.alloc (.cells #[.int .u64 m.ver,.slice ap m.prev.length pc,.slice ae m.es.length ec,.slice ar m.root.length rc] 37)):=(Only.refl _ _).alloc _;have G0:=Qa (heap_alloc_new w (.cells #[.int .u64 m.ver,.slice ap m.prev.length pc,.slice ae m.es.length ec,.slice ar m.root.length rc] 37));have A:=Qa (LQ _ k hk8 _ (hb.past oa));have OA:=Qa oa
 by_cases h32:k.length=32
 ·rw[Z6 h32] at A
  have e1:Wj k m=Q7 m:=by unfold Wj;rw[if_pos h32]
  have HKL:=Qa (LC h32);have HK8:=Qa (T9 k)
  by_cases he:Q7 m=0
  ·have EN:Hid (∀W,N0 w W->Calls prog 47 #[.agg #[.int .u64 m.ver,.slice ap m.prev.length pc,.slice ae m.es.length ec,.slice ar m.root.length rc]] W λe w'=>∃u,e=.returned (.tuple #[u,.int .i64 0])∧w'.ownsRow W.heap.size 5 1 u (MENC m).length ((MENC m).map (Value.int .u8))∧N0 W w'):=by
    intro W o;have:=Tu _ _ _ _ m W (h.past o) hk np nr hm63;rw[he,show Yu m=MENC m by unfold Yu;rw[if_pos he]] at this;exact this
   have hG:=(JI hk).1 he;have hle:=uw hG;have h8:=To hG
   have e2:UT k m=MENC m++MACL (Yn k) (MENC m):=by unfold UT;rw[e1,if_pos he]
   rw[e1,he,e2];obtain⟨E,hE⟩:=EX (MENC m);rw[<-hE] at EN hle h8;rw[<-hE];clear h hb hk np nr hm63 oa e1 e2 h32 he hG hE;go_enter func19,ntmps19;go_wp2_with fail;refine A.o.mono ?_;rintro e w1 ⟨v1,rfl,h0,o1⟩;have G1:=o1.heap G0.o (λf=>f);have h5:=Yt G1;obtain⟨⟨c0,c1,c2,c3⟩,_⟩:=QY G1;have B:=Qa (EN.o w1 (OA.o.same o1));have O1:=Qa (OA.o.same o1);have BK:=Qa (show Bs .u8 w1 v1 (Yn k) from Bs.of_own h0);clear A h0 o1 EN G0 OA G1;go_wp2_with fail;refine B.o.mono ?_;rintro e w2 ⟨u,rfl,h1,o2⟩;have O2:=Qa (O1.o.same o2);have D:=Qa (Xk v1 u (Yn k) E w2 (BK.o.past o2) HK8.o (by rw[HKL.o];decide) (Bs.of_own h1) h8 (by omega));obtain⟨au,cu,eu⟩:=(Bs.of_own h1).len;have h4:=Qa h1;clear B o2 O1 h1 BK c0 c1 c2 c3 h5;subst eu;go_wp2_with fail;refine D.o.mono ?_;rintro e w3 ⟨r,rfl,h3,o3⟩;obtain⟨br,gr,cr,er,_⟩:=L9 h3;subst er;have oz:N0 w3 (w3.alloc (.cells #[.slice au E.length cu,.slice (some ⟨gr,0,none⟩) 32 cr] 23)):=(Only.refl _ _).alloc _;have hml:=Y3 (Yn k) E;have C:=Qa (WJ w3.heap.size (.slice au E.length cu) (.slice (some ⟨gr,0,none⟩) 32 cr) E (MACL (Yn k) E) _ (by go_cell) (by go_cell) ((Bs.of_own (k:=.u8) h4.o).past (o3.same oz)) (br.past oz) (NoCap.of_own h4.o) (NoCap.some _ _ _) (by omega) (by omega));have O3:=Qa (O2.o.same (o3.same oz));clear D h3 o3 oz br hml h4;go_wp2_with fail;refine C.o.mono ?_;rintro e w4 ⟨v4,rfl,h2,o4⟩;have F:=Qa (And.intro (Qu h2 O3.o.size) (O3.o.same o4));clear C h2 o4;go_wp2;go_ret2;exact⟨_,rfl,F.o⟩
  ·have EN:Hid (∀W,N0 w W->Calls prog 47 #[.agg #[.int .u64 m.ver,.slice ap m.prev.length pc,.slice ae m.es.length ec,.slice ar m.root.length rc]] W λe w'=>∃u,e=.returned (.tuple #[u,.int .i64 (Q7 m)])∧w'.ownsRow W.heap.size 5 1 u (Yu m).length ((Yu m).map (Value.int .u8))∧N0 W w') :=
    λW o=>Tu _ _ _ _ m W (h.past o) hk np nr hm63
   have e2:UT k m=[]:=by unfold UT;rw[e1,if_neg he]
   rw[e1,e2];obtain⟨c,hc⟩:=EX (Q7 m);rw[<-hc] at EN he;rw[<-hc]
   have hne:(c != 0)=true:=by simpa using he
   clear h hb hk np nr hm63 oa e1 e2 h32 hc;go_enter func19,ntmps19;go_wp2_with fail;refine A.o.mono ?_;rintro e w1 ⟨v1,rfl,h0,o1⟩;have G1:=o1.heap G0.o (λf=>f);have h5:=Yt G1;obtain⟨⟨c0,c1,c2,c3⟩,_⟩:=QY G1;have B:=Qa (EN.o w1 (OA.o.same o1));have O1:=Qa (OA.o.same o1);clear A h0 o1 EN G0 OA G1;go_wp2_with fail;refine B.o.mono ?_;rintro e w2 ⟨u,rfl,h1,o2⟩;have O2:=Qa (O1.o.same o2);clear B h1 o2;go_wp2;go_ret2;exact⟨_,rfl,World.ownsRow_nil _ _ _ _,O2.o⟩
 ·rw[Jh h32] at A
  have e1:Wj k m=1:=by unfold Wj;rw[if_neg h32]
  have e2:UT k m=[]:=by unfold UT;rw[e1];rfl
  rw[e1,e2];clear h hb hk np nr hm63 oa e1 e2;go_enter func19,ntmps19;go_wp2_with fail;refine A.o.mono ?_;rintro e w1 ⟨v1,rfl,h0,o1⟩;have O1:=Qa (OA.o.same o1);clear A h0 o1;go_wp2;go_ret2;exact⟨_,rfl,World.ownsRow_nil _ _ _ _,O1.o⟩
theorem JL {W w:World} {B:Nat} (hB:w.heap.size<=B) (o:N0 w W) (g:W.heap[B]? = some (.cells #[.int .u64 0,.slice none 0 0,.slice none 0 0,.slice none 0 0] 37 (0,0))) :
 (loadVar 37 ⟨B,0,none⟩).run prog ((((W.setCell ⟨B,0,none⟩ (.int .u64 0)).setCell ⟨B,1,none⟩ (.slice none 0 0)).setCell ⟨B,2,none⟩ (.slice none 0 0)).setCell ⟨B,3,none⟩ (.slice none 0 0))=.ok Pm ((((W.setCell ⟨B,0,none⟩ (.int .u64 0)).setCell ⟨B,1,none⟩ (.slice none 0 0)).setCell ⟨B,2,none⟩ (.slice none 0 0)).setCell ⟨B,3,none⟩ (.slice none 0 0)) ∧
 N0 w ((((W.setCell ⟨B,0,none⟩ (.int .u64 0)).setCell ⟨B,1,none⟩ (.slice none 0 0)).setCell ⟨B,2,none⟩ (.slice none 0 0)).setCell ⟨B,3,none⟩ (.slice none 0 0)):=by
 obtain⟨g',og⟩:=put4 g (.int .u64 0) (.slice none 0 0) (.slice none 0 0) (.slice none 0 0);exact⟨Yt g',o.trans og (λi hi e=>by omega)⟩
theorem DO (vk vb:Value) (k b:LI) (w:World) (hb:Bs .u8 w vk k) (hk8:U8 k) (hv:Bs .u8 w vb b) (hb8:U8 b) (hl:b.length<=10000000000) :
 Calls prog 73 #[vk,vb] w λe w'=>∃x vp ve vr,e=.returned (.tuple #[x,.int .i64 (UD k b)])∧Mnw w w' x (Yp k b) vp ve vr∧N0 w w':=by
 obtain⟨ak,kc,ek⟩:=hb.len;have oa:N0 w (w.alloc (.cells #[.int .u64 0,.slice none 0 0,.slice none 0 0,.slice none 0 0] 37)):=(Only.refl _ _).alloc _;have G0:=Qa (heap_alloc_new w (.cells #[.int .u64 0,.slice none 0 0,.slice none 0 0,.slice none 0 0] 37));have A:=Qa (LQ _ k hk8 _ (hb.past oa));have OA:=Qa oa
 obtain⟨bo,n,bc,hvb,hn⟩:∃bo n bc,vb=.slice bo n bc∧n=b.length:=by
  obtain⟨so,sc,e⟩:=hv.len;exact⟨so,b.length,sc,e,rfl⟩
 subst hvb
 by_cases h32:k.length=32
 ·rw[Z6 h32] at A
  have HKL:=Qa (LC h32);have HK8:=Qa (T9 k)
  by_cases hs:n<32
  ·have e1:UD k b=2:=by unfold UD;rw[if_pos h32,if_pos (by omega)]
   have e2:Yp k b=⟨0,[],[],[]⟩:=by unfold Yp;rw[if_pos h32,if_pos (by omega)]
   rw[e1,e2]
   have i1:(n:Int)<32:=by omega
   clear e1 e2 hb hv oa h32 hn ek;go_enter func73,ntmps73;go_wp2_with fail;refine A.o.mono ?_;rintro e w1 ⟨v1,rfl,h0,o1⟩;have G1:=o1.heap G0.o (λf=>f);obtain⟨⟨c0,c1,c2,c3⟩,f0,f1,f2,f3⟩:=QY G1;have F:=Qa (JL (w:=w) (Nat.le_refl _) (OA.o.same o1) G1);clear A h0 o1 G1;go_wp2;refine bodyPost_ret (Wy Tryz.results73 _ _ rfl rfl F.o.1) rfl ?_;exact⟨_,_,_,_,rfl,Mnw.zero _ _,F.o.2⟩
  ·obtain⟨q,hq⟩:=EX (n - 32)
   obtain⟨C,hC⟩:=EX (b.take q);obtain⟨R,hR⟩:=EX (b.drop q)
   have h6:C.length=q:=by rw[hC,Qf];omega
   have h5:R.length=32:=by rw[hR,Qo];omega
   have C8:U8 C:=by rw[hC];exact hb8.take _
   have R8:U8 R:=by rw[hR];exact hb8.drop _
   obtain⟨g,off,rfl⟩:∃g off,bo=some ⟨g,off,none⟩:=by
    obtain⟨g,off,c,e,_⟩:=hv.at 0 (by omega);simp at e;exact⟨g,off,e.1⟩
   have h2:n<=bc:=hv.room
   have bC:Bs .u8 w (.slice (some ⟨g,off,none⟩) q bc) C:=by rw[hC];exact hv.head (by omega)
   have bR:Bs .u8 w (.slice (some ⟨g,off+q,none⟩) 32 (bc - q)) R:=by
    have:=hv.cut (n:=q) (by omega);rw[<-hR,show n - q=32 by omega] at this
    simpa [Addr.add_lit] using this
   have E1:UD k b=if MACL (Yn k) C=R then Y0 C else 5:=by unfold UD;rw[if_pos h32,if_neg (by omega),hC,hR,hq,hn]
   have E2:Yp k b=if MACL (Yn k) C=R then Yj C else ⟨0,[],[],[]⟩:=by unfold Yp;rw[if_pos h32,if_neg (by omega),hC,hR,hq,hn]
   rw[E1,E2];have CK:=Qa (λ(v1:Value) (W:World) (o:N0 w W) (h1:Bs .u8 W v1 (Yn k))=>Bu v1 _ _ (Yn k) C R W h1 HK8.o (by rw[HKL.o];decide) (bC.past o) C8 (by omega) (bR.past o) R8);have DC:=Qa (λW (o:N0 w W)=>Jt _ C W (bC.past o) C8 (by omega))
   have hsub:(n:Int) - 32=(q:Int):=by omega
   have hwq:IntKind.i64.wrap (q:Int)=(q:Int):=by rw[IntKind.wrap_i64];omega
   have c1:(q:Int)<=(bc:Int):=by omega
   have c2:(q:Int)<=(n:Int):=by omega
   have c0:(0:Int)<=(q:Int):=by omega
   have c3:¬bc=q:=by omega
   have hnq:n - q=32:=by omega
   have i1:¬(n:Int)<32:=by omega
   have HKT:Hid (QT k 4 []=Yn k):=rfl
   by_cases ht:MACL (Yn k) C=R
   ·rw[if_pos ht,if_pos ht]
    rw[Qe ht] at CK;clear E1 E2 hb hv oa h32 hn ek hC hR hq h6 h5 C8 R8 bC bR hb8 hl h2 hs ht;go_enter func73,ntmps73;go_wp2_with fail;refine A.o.mono ?_;rintro e w1 ⟨v1,rfl,h0,o1⟩;have G1:=Qa (o1.heap G0.o (λf=>f));have O1:=Qa (OA.o.same o1);have D:=Qa (λnq=>CK.o v1 (w1.drewN nq) (O1.o.drewN nq) ((Bs.of_own h0).past ((Only.refl _ _).drewN nq)));clear A h0 o1 CK G0;go_wp2_with fail;go_quiet (fail);go_wp2_with fail;refine (D.o _).mono ?_;rintro e w2 ⟨rfl,h3⟩;have o2:=((Only.refl (λ_=>False) w1).drewN nq).same h3;clear h3;have h4:=Qa (o2.heap G1.o (λf=>f));have O2:=Qa (O1.o.same o2);have E:=Qa (DC.o w2 O2.o);clear D G1 DC o2;go_wp2_with fail;refine E.o.mono ?_;rintro e w3 ⟨x,vp,ve,vr,rfl,mn,o3⟩;have K1:=o3.heap h4.o (λf=>f);obtain⟨ap,pc,ep⟩:=mn.mf.prev.len;obtain⟨ae,ec,ee⟩:=mn.mf.es.len;obtain⟨ar,rc,er⟩:=mn.mf.root.len;subst ep ee er;have hx:=mn.mf.form;subst hx;have hs2:=O2.o.size;have hlt:w.heap.size<w2.heap.size:=(Array.getElem?_eq_some_iff.1 h4.o).1;obtain⟨⟨k0,k1,k2,k3⟩,f0,f1,f2,f3⟩:=QY K1;obtain⟨g',og⟩:=put4 K1 (.int .u64 (Yj C).ver) (.slice ap (Yj C).prev.length pc) (.slice ae (Yj C).es.length ec) (.slice ar (Yj C).root.length rc);have F:=Qa (And.intro (Yt g') (And.intro ((O2.o.same o3).trans og (λi hi e=>by omega)) ((mn.keep og hlt).low (w0:=w) hs2)));clear E K1 o3 mn g' og h4;go_wp2;refine bodyPost_ret (Wy Tryz.results73 _ _ rfl rfl F.o.1) rfl ?_;exact⟨_,.slice ap (Yj C).prev.length pc,.slice ae (Yj C).es.length ec,.slice ar (Yj C).root.length rc,rfl,F.o.2.2,F.o.2.1⟩
   ·rw[if_neg ht,if_neg ht]
    rw[Qb ht] at CK;clear E1 E2 hb hv oa h32 hn ek hC hR hq h6 h5 C8 R8 bC bR hb8 hl h2 hs ht DC;go_enter func73,ntmps73;go_wp2_with fail;refine A.o.mono ?_;rintro e w1 ⟨v1,rfl,h0,o1⟩;have G1:=Qa (o1.heap G0.o (λf=>f));have O1:=Qa (OA.o.same o1);have D:=Qa (λnq=>CK.o v1 (w1.drewN nq) (O1.o.drewN nq) ((Bs.of_own h0).past ((Only.refl _ _).drewN nq)));clear A h0 o1 CK G0;go_wp2_with fail;go_quiet (fail);go_wp2_with fail;refine (D.o _).mono ?_;rintro e w2 ⟨rfl,h3⟩;have o2:=((Only.refl (λ_=>False) w1).drewN nq).same h3;clear h3;have G2:=o2.heap G1.o (λf=>f);have O2:=Qa (O1.o.same o2);obtain⟨⟨k0,k1,k2,k3⟩,f0,f1,f2,f3⟩:=QY G2;have F:=Qa (JL (w:=w) (Nat.le_refl _) O2.o G2);clear D G1 o2 G2;go_wp2;refine bodyPost_ret (Wy Tryz.results73 _ _ rfl rfl F.o.1) rfl ?_;exact⟨_,_,_,_,rfl,Mnw.zero _ _,F.o.2⟩
 ·rw[Jh h32] at A
  have e1:UD k b=1:=by unfold UD;rw[if_neg h32]
  have e2:Yp k b=⟨0,[],[],[]⟩:=by unfold Yp;rw[if_neg h32]
  rw[e1,e2];clear e1 e2 hb hv oa h32 hn ek;go_enter func73,ntmps73;go_wp2_with fail;refine A.o.mono ?_;rintro e w1 ⟨v1,rfl,h0,o1⟩;have G1:=o1.heap G0.o (λf=>f);obtain⟨⟨c0,c1,c2,c3⟩,f0,f1,f2,f3⟩:=QY G1;have F:=Qa (JL (w:=w) (Nat.le_refl _) (OA.o.same o1) G1);clear A h0 o1 G1;go_wp2;refine bodyPost_ret (Wy Tryz.results73 _ _ rfl rfl F.o.1) rfl ?_;exact⟨_,_,_,_,rfl,Mnw.zero _ _,F.o.2⟩
end Go.Proofs.YtoflhbghdlaeaaaGreatDoor
