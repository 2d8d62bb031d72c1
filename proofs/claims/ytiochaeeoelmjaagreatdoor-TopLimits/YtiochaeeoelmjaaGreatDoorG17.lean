import Derived.Test.YtiochaeeoelmjaaGreatDoorG15
import Derived.Test.YtiochaeeoelmjaaGreatDoorG16
import Derived.Test.YtiochaeeoelmjaaGreatDoorG9
import Derived.Test.YtiochaeeoelmjaaGreatDoorG8
import Derived.BigQuiet
namespace Go.Proofs.YtiochaeeoelmjaaGreatDoor
set_option maxHeartbeats 2000000
set_option maxRecDepth 100000
open Go.RowKit _root_.Go.Proofs.Tryz
def Ye (k:LI):LI:=QL k 4 []
theorem P8 {k:LI} (h:k.length=32):(Ye k).length=32:=by unfold Ye QL;rw[if_pos h,if_pos (by simp),U1]
theorem JP (k:LI):U8 (Ye k):=by
 unfold Ye QL
 by_cases h:k.length=32
 ·rw[if_pos h,if_pos (by simp)];exact VQ _ _ _
 ·rw[if_neg h];intro y hy;cases hy
theorem Zr {k:LI} (h:k.length=32):QC k []=0:=by unfold QC;rw[if_pos h];rfl
theorem Z5 {k:LI} (h:k.length≠32):QC k []=1:=by unfold QC;rw[if_neg h]
def UX (k:LI) (m:MAN):Int:=if k.length=32 then Q6 m else 1
def UD (k:LI) (m:MAN):LI:=if UX k m=0 then MENC m++MACL (Ye k) (MENC m) else []
def Ui (k b:LI):Int:=if k.length=32 then (if b.length<32 then 2 else if MACL (Ye k) (b.take (b.length - 32))=b.drop (b.length - 32) then YT (b.take (b.length - 32)) else 5) else 1
def Yk (k b:LI):MAN:=if k.length=32 then (if b.length<32 then ⟨0,[],[],[]⟩ else if MACL (Ye k) (b.take (b.length - 32))=b.drop (b.length - 32) then Yc (b.take (b.length - 32)) else ⟨0,[],[],[]⟩) else ⟨0,[],[],[]⟩
theorem FP {m:MAN} (h:Y8 m):(MENC m).length<=1000000000:=by
 obtain⟨g1,g2,g3,g4,g5⟩:=h;have h1:(Qw m).length<=1048576:=Nat.le_trans (KJ m) g4
 have q1:=VU (Qw m) _ (Nat.le_refl _) h1 (λx hx=>by
  obtain⟨e,h0,rfl⟩:=List.mem_map.1 ((Uh _ _).1 hx)
  exact (g5 e h0).1.1)
 have q2:=Vp (Qw m) m.es _ (Nat.le_refl _) g4 (λe h0=>Ks h0) h1;rw[Ji] at q1;rw[XE] at q2;unfold MENC;simp only[Qb,Qx,g2.1,g3.1,QP,Ql,List.length_nil] at q1 q2 ⊢;omega
theorem IZ (vk x vp ve vr:Value) (k:LI) (m:MAN) (w:World) (hb:Bs .u8 w vk k) (hk8:U8 k) (h:Mf w x m vp ve vr) (hk:Mok m) (np:NoCap vp) (nr:NoCap vr) (hm63:m.es.length<=9223372036854775806) :
 Calls prog 25 #[vk,x] w λe w'=>∃u,e=.returned (.tuple #[u,.int .i64 (UX k m)])∧w'.ownsRow w.heap.size 5 1 u (UD k m).length ((UD k m).map (Value.int .u8))∧N0 w w':=by
 have hf:=h.form;obtain⟨ap,pc,ep⟩:=h.prev.len;obtain⟨ae,ec,ee⟩:=h.es.len;obtain⟨ar,rc,er⟩:=h.root.len;obtain⟨ak,kc,ek⟩:=hb.len;subst ep ee er hf ek;have oa:N0 w (w.alloc (.cells #[.int .u64 m.ver,.slice ap m.prev.length pc,.slice ae m.es.length ec,.slice ar m.root.length rc] 69)):=(Only.refl _ _).alloc _;have G0:=Qa (heap_alloc_new w (.cells #[.int .u64 m.ver,.slice ap m.prev.length pc,.slice ae m.es.length ec,.slice ar m.root.length rc] 69));have A:=Qa (GY _ k hk8 _ (hb.past oa));have OA:=Qa oa
 by_cases h32:k.length=32
 ·rw[Zr h32] at A
  have e1:UX k m=Q6 m:=by unfold UX;rw[if_pos h32]
  have HKL:=Qa (P8 h32);have HK8:=Qa (JP k)
  by_cases he:Q6 m=0
  ·have EN:Hid (∀W,N0 w W->Calls prog 49 #[.agg #[.int .u64 m.ver,.slice ap m.prev.length pc,.slice ae m.es.length ec,.slice ar m.root.length rc]] W λe w'=>∃u,e=.returned (.tuple #[u,.int .i64 0])∧w'.ownsRow W.heap.size 5 1 u (MENC m).length ((MENC m).map (Value.int .u8))∧N0 W w'):=by
    intro W o;have:=PA _ _ _ _ m W (h.past o) hk np nr hm63;rw[he,show Yq m=MENC m by unfold Yq;rw[if_pos he]] at this;exact this
   have hG:=(Xq hk).1 he;have hle:=FP hG;have h8:=JN hG
   have e2:UD k m=MENC m++MACL (Ye k) (MENC m):=by unfold UD;rw[e1,if_pos he]
   rw[e1,he,e2];obtain⟨E,hE⟩:=EX (MENC m);rw[<-hE] at EN hle h8;rw[<-hE];clear h hb hk np nr hm63 oa e1 e2 h32 he hG hE;go_enter func25,ntmps25;go_wp2_with fail;refine A.o.mono ?_;rintro e w1 ⟨v1,rfl,h0,o1⟩;have G1:=o1.heap G0.o (λf=>f);have h5:=YB G1;obtain⟨⟨c0,c1,c2,c3⟩,_⟩:=Q9 G1;have B:=Qa (EN.o w1 (OA.o.same o1));have O1:=Qa (OA.o.same o1);have BK:=Qa (show Bs .u8 w1 v1 (Ye k) from Bs.of_own h0);clear A h0 o1 EN G0 OA G1;go_wp2_with fail;refine B.o.mono ?_;rintro e w2 ⟨u,rfl,h1,o2⟩;have O2:=Qa (O1.o.same o2);have D:=Qa (XB v1 u (Ye k) E w2 (BK.o.past o2) HK8.o (by rw[HKL.o];decide) (Bs.of_own h1) h8 (by omega));obtain⟨au,cu,eu⟩:=(Bs.of_own h1).len;have h4:=Qa h1;clear B o2 O1 h1 BK c0 c1 c2 c3 h5;subst eu;go_wp2_with fail;refine D.o.mono ?_;rintro e w3 ⟨r,rfl,h3,o3⟩;obtain⟨br,gr,cr,er,_⟩:=J6 h3;subst er;have oz:N0 w3 (w3.alloc (.cells #[.slice au E.length cu,.slice (some ⟨gr,0,none⟩) 32 cr] 23)):=(Only.refl _ _).alloc _;have hml:=YJ (Ye k) E;have C:=Qa (Wj w3.heap.size (.slice au E.length cu) (.slice (some ⟨gr,0,none⟩) 32 cr) E (MACL (Ye k) E) _ (by go_cell) (by go_cell) ((Bs.of_own (k:=.u8) h4.o).past (o3.same oz)) (br.past oz) (NoCap.of_own h4.o) (NoCap.some _ _ _) (by omega) (by omega));have O3:=Qa (O2.o.same (o3.same oz));clear D h3 o3 oz br hml h4;go_wp2_with fail;refine C.o.mono ?_;rintro e w4 ⟨v4,rfl,h2,o4⟩;have F:=Qa (And.intro (Qv h2 O3.o.size) (O3.o.same o4));clear C h2 o4;go_wp2;go_ret2;exact⟨_,rfl,F.o⟩
  ·have EN:Hid (∀W,N0 w W->Calls prog 49 #[.agg #[.int .u64 m.ver,.slice ap m.prev.length pc,.slice ae m.es.length ec,.slice ar m.root.length rc]] W λe w'=>∃u,e=.returned (.tuple #[u,.int .i64 (Q6 m)])∧w'.ownsRow W.heap.size 5 1 u (Yq m).length ((Yq m).map (Value.int .u8))∧N0 W w') :=
    λW o=>PA _ _ _ _ m W (h.past o) hk np nr hm63
   have e2:UD k m=[]:=by unfold UD;rw[e1,if_neg he]
   rw[e1,e2];obtain⟨c,hc⟩:=EX (Q6 m);rw[<-hc] at EN he;rw[<-hc]
   have hne:(c != 0)=true:=by simpa using he
   clear h hb hk np nr hm63 oa e1 e2 h32 hc;go_enter func25,ntmps25;go_wp2_with fail;refine A.o.mono ?_;rintro e w1 ⟨v1,rfl,h0,o1⟩;have G1:=o1.heap G0.o (λf=>f);have h5:=YB G1;obtain⟨⟨c0,c1,c2,c3⟩,_⟩:=Q9 G1;have B:=Qa (EN.o w1 (OA.o.same o1));have O1:=Qa (OA.o.same o1);clear A h0 o1 EN G0 OA G1;go_wp2_with fail;refine B.o.mono ?_;rintro e w2 ⟨u,rfl,h1,o2⟩;have O2:=Qa (O1.o.same o2);clear B h1 o2;go_wp2;go_ret2;exact⟨_,rfl,World.ownsRow_nil _ _ _ _,O2.o⟩
 ·rw[Z5 h32] at A
  have e1:UX k m=1:=by unfold UX;rw[if_neg h32]
  have e2:UD k m=[]:=by unfold UD;rw[e1];rfl
  rw[e1,e2];clear h hb hk np nr hm63 oa e1 e2;go_enter func25,ntmps25;go_wp2_with fail;refine A.o.mono ?_;rintro e w1 ⟨v1,rfl,h0,o1⟩;have O1:=Qa (OA.o.same o1);clear A h0 o1;go_wp2;go_ret2;exact⟨_,rfl,World.ownsRow_nil _ _ _ _,O1.o⟩
theorem Zs {W w:World} {B:Nat} (hB:w.heap.size<=B) (o:N0 w W) (g:W.heap[B]? = some (.cells #[.int .u64 0,.slice none 0 0,.slice none 0 0,.slice none 0 0] 69 (0,0))) :
 (loadVar 69 ⟨B,0,none⟩).run prog ((((W.setCell ⟨B,0,none⟩ (.int .u64 0)).setCell ⟨B,1,none⟩ (.slice none 0 0)).setCell ⟨B,2,none⟩ (.slice none 0 0)).setCell ⟨B,3,none⟩ (.slice none 0 0))=.ok JC ((((W.setCell ⟨B,0,none⟩ (.int .u64 0)).setCell ⟨B,1,none⟩ (.slice none 0 0)).setCell ⟨B,2,none⟩ (.slice none 0 0)).setCell ⟨B,3,none⟩ (.slice none 0 0)) ∧
 N0 w ((((W.setCell ⟨B,0,none⟩ (.int .u64 0)).setCell ⟨B,1,none⟩ (.slice none 0 0)).setCell ⟨B,2,none⟩ (.slice none 0 0)).setCell ⟨B,3,none⟩ (.slice none 0 0)):=by
 obtain⟨g',og⟩:=put4 g (.int .u64 0) (.slice none 0 0) (.slice none 0 0) (.slice none 0 0);exact⟨YB g',o.trans og (λi hi e=>by omega)⟩
theorem NT (vk vb:Value) (k b:LI) (w:World) (hb:Bs .u8 w vk k) (hk8:U8 k) (hv:Bs .u8 w vb b) (hb8:U8 b) (hl:b.length<=10000000000) :
 Calls prog 65 #[vk,vb] w λe w'=>∃x vp ve vr,e=.returned (.tuple #[x,.int .i64 (Ui k b)])∧Mnw w w' x (Yk k b) vp ve vr∧N0 w w':=by
 obtain⟨ak,kc,ek⟩:=hb.len;have oa:N0 w (w.alloc (.cells #[.int .u64 0,.slice none 0 0,.slice none 0 0,.slice none 0 0] 69)):=(Only.refl _ _).alloc _;have G0:=Qa (heap_alloc_new w (.cells #[.int .u64 0,.slice none 0 0,.slice none 0 0,.slice none 0 0] 69));have A:=Qa (GY _ k hk8 _ (hb.past oa));have OA:=Qa oa
 obtain⟨bo,n,bc,hvb,hn⟩:∃bo n bc,vb=.slice bo n bc∧n=b.length:=by
  obtain⟨so,sc,e⟩:=hv.len;exact⟨so,b.length,sc,e,rfl⟩
 subst hvb
 by_cases h32:k.length=32
 ·rw[Zr h32] at A
  have HKL:=Qa (P8 h32);have HK8:=Qa (JP k)
  by_cases hs:n<32
  ·have e1:Ui k b=2:=by unfold Ui;rw[if_pos h32,if_pos (by omega)]
   have e2:Yk k b=⟨0,[],[],[]⟩:=by unfold Yk;rw[if_pos h32,if_pos (by omega)]
   rw[e1,e2]
   have i1:(n:Int)<32:=by omega
   clear e1 e2 hb hv oa h32 hn ek;go_enter func65,ntmps65;go_wp2_with fail;refine A.o.mono ?_;rintro e w1 ⟨v1,rfl,h0,o1⟩;have G1:=o1.heap G0.o (λf=>f);obtain⟨⟨c0,c1,c2,c3⟩,f0,f1,f2,f3⟩:=Q9 G1;have F:=Qa (Zs (w:=w) (Nat.le_refl _) (OA.o.same o1) G1);clear A h0 o1 G1;go_wp2;refine bodyPost_ret (K9 Tryz.results65 _ _ rfl rfl F.o.1) rfl ?_;exact⟨_,_,_,_,rfl,Mnw.zero _ _,F.o.2⟩
  ·obtain⟨q,hq⟩:=EX (n - 32)
   obtain⟨C,hC⟩:=EX (b.take q);obtain⟨R,hR⟩:=EX (b.drop q)
   have h6:C.length=q:=by rw[hC,Qd];omega
   have h5:R.length=32:=by rw[hR,Qq];omega
   have C8:U8 C:=by rw[hC];exact hb8.take _
   have R8:U8 R:=by rw[hR];exact hb8.drop _
   obtain⟨g,off,rfl⟩:∃g off,bo=some ⟨g,off,none⟩:=by
    obtain⟨g,off,c,e,_⟩:=hv.at 0 (by omega);simp at e;exact⟨g,off,e.1⟩
   have h3:n<=bc:=hv.room
   have bC:Bs .u8 w (.slice (some ⟨g,off,none⟩) q bc) C:=by rw[hC];exact hv.head (by omega)
   have bR:Bs .u8 w (.slice (some ⟨g,off+q,none⟩) 32 (bc - q)) R:=by
    have:=hv.cut (n:=q) (by omega);rw[<-hR,show n - q=32 by omega] at this
    simpa [Addr.add_lit] using this
   have E1:Ui k b=if MACL (Ye k) C=R then YT C else 5:=by unfold Ui;rw[if_pos h32,if_neg (by omega),hC,hR,hq,hn]
   have E2:Yk k b=if MACL (Ye k) C=R then Yc C else ⟨0,[],[],[]⟩:=by unfold Yk;rw[if_pos h32,if_neg (by omega),hC,hR,hq,hn]
   rw[E1,E2];have CK:=Qa (λ(v1:Value) (W:World) (o:N0 w W) (h1:Bs .u8 W v1 (Ye k))=>Mh v1 _ _ (Ye k) C R W h1 HK8.o (by rw[HKL.o];decide) (bC.past o) C8 (by omega) (bR.past o) R8);have DC:=Qa (λW (o:N0 w W)=>TE _ C W (bC.past o) C8 (by omega))
   have hsub:(n:Int) - 32=(q:Int):=by omega
   have hwq:IntKind.i64.wrap (q:Int)=(q:Int):=by rw[IntKind.wrap_i64];omega
   have c1:(q:Int)<=(bc:Int):=by omega
   have c2:(q:Int)<=(n:Int):=by omega
   have c0:(0:Int)<=(q:Int):=by omega
   have c3:¬bc=q:=by omega
   have hnq:n - q=32:=by omega
   have i1:¬(n:Int)<32:=by omega
   have HKT:Hid (QL k 4 []=Ye k):=rfl
   by_cases ht:MACL (Ye k) C=R
   ·rw[if_pos ht,if_pos ht]
    rw[Qf ht] at CK;clear E1 E2 hb hv oa h32 hn ek hC hR hq h6 h5 C8 R8 bC bR hb8 hl h3 hs ht;go_enter func65,ntmps65;go_wp2_with fail;refine A.o.mono ?_;rintro e w1 ⟨v1,rfl,h0,o1⟩;have G1:=Qa (o1.heap G0.o (λf=>f));have O1:=Qa (OA.o.same o1);have D:=Qa (λnq=>CK.o v1 (w1.drewN nq) (O1.o.drewN nq) ((Bs.of_own h0).past ((Only.refl _ _).drewN nq)));clear A h0 o1 CK G0;go_wp2_with fail;go_quiet (fail);go_wp2_with fail;refine (D.o _).mono ?_;rintro e w2 ⟨rfl,h2⟩;have o2:=((Only.refl (λ_=>False) w1).drewN nq).same h2;clear h2;have h4:=Qa (o2.heap G1.o (λf=>f));have O2:=Qa (O1.o.same o2);have E:=Qa (DC.o w2 O2.o);clear D G1 DC o2;go_wp2_with fail;refine E.o.mono ?_;rintro e w3 ⟨x,vp,ve,vr,rfl,mn,o3⟩;have K1:=o3.heap h4.o (λf=>f);obtain⟨ap,pc,ep⟩:=mn.mf.prev.len;obtain⟨ae,ec,ee⟩:=mn.mf.es.len;obtain⟨ar,rc,er⟩:=mn.mf.root.len;subst ep ee er;have hx:=mn.mf.form;subst hx;have hs2:=O2.o.size;have hlt:w.heap.size<w2.heap.size:=(Array.getElem?_eq_some_iff.1 h4.o).1;obtain⟨⟨k0,k1,k2,k3⟩,f0,f1,f2,f3⟩:=Q9 K1;obtain⟨g',og⟩:=put4 K1 (.int .u64 (Yc C).ver) (.slice ap (Yc C).prev.length pc) (.slice ae (Yc C).es.length ec) (.slice ar (Yc C).root.length rc);have F:=Qa (And.intro (YB g') (And.intro ((O2.o.same o3).trans og (λi hi e=>by omega)) ((mn.keep og hlt).low (w0:=w) hs2)));clear E K1 o3 mn g' og h4;go_wp2;refine bodyPost_ret (K9 Tryz.results65 _ _ rfl rfl F.o.1) rfl ?_;exact⟨_,.slice ap (Yc C).prev.length pc,.slice ae (Yc C).es.length ec,.slice ar (Yc C).root.length rc,rfl,F.o.2.2,F.o.2.1⟩
   ·rw[if_neg ht,if_neg ht]
    rw[Qj ht] at CK;clear E1 E2 hb hv oa h32 hn ek hC hR hq h6 h5 C8 R8 bC bR hb8 hl h3 hs ht DC;go_enter func65,ntmps65;go_wp2_with fail;refine A.o.mono ?_;rintro e w1 ⟨v1,rfl,h0,o1⟩;have G1:=Qa (o1.heap G0.o (λf=>f));have O1:=Qa (OA.o.same o1);have D:=Qa (λnq=>CK.o v1 (w1.drewN nq) (O1.o.drewN nq) ((Bs.of_own h0).past ((Only.refl _ _).drewN nq)));clear A h0 o1 CK G0;go_wp2_with fail;go_quiet (fail);go_wp2_with fail;refine (D.o _).mono ?_;rintro e w2 ⟨rfl,h2⟩;have o2:=((Only.refl (λ_=>False) w1).drewN nq).same h2;clear h2;have G2:=o2.heap G1.o (λf=>f);have O2:=Qa (O1.o.same o2);obtain⟨⟨k0,k1,k2,k3⟩,f0,f1,f2,f3⟩:=Q9 G2;have F:=Qa (Zs (w:=w) (Nat.le_refl _) O2.o G2);clear D G1 o2 G2;go_wp2;refine bodyPost_ret (K9 Tryz.results65 _ _ rfl rfl F.o.1) rfl ?_;exact⟨_,_,_,_,rfl,Mnw.zero _ _,F.o.2⟩
 ·rw[Z5 h32] at A
  have e1:Ui k b=1:=by unfold Ui;rw[if_neg h32]
  have e2:Yk k b=⟨0,[],[],[]⟩:=by unfold Yk;rw[if_neg h32]
  rw[e1,e2];clear e1 e2 hb hv oa h32 hn ek;go_enter func65,ntmps65;go_wp2_with fail;refine A.o.mono ?_;rintro e w1 ⟨v1,rfl,h0,o1⟩;have G1:=o1.heap G0.o (λf=>f);obtain⟨⟨c0,c1,c2,c3⟩,f0,f1,f2,f3⟩:=Q9 G1;have F:=Qa (Zs (w:=w) (Nat.le_refl _) (OA.o.same o1) G1);clear A h0 o1 G1;go_wp2;refine bodyPost_ret (K9 Tryz.results65 _ _ rfl rfl F.o.1) rfl ?_;exact⟨_,_,_,_,rfl,Mnw.zero _ _,F.o.2⟩
end Go.Proofs.YtiochaeeoelmjaaGreatDoor
