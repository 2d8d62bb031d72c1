import Derived.Test.YtnhapmboienipaaGreatDoorY18
import Derived.Test.YtnhapmboienipaaGreatDoorY19
import Derived.Test.YtnhapmboienipaaGreatDoorY11
import Derived.Test.YtnhapmboienipaaGreatDoorY9
import Derived.BigQuiet
namespace Go.Proofs.YtnhapmboienipaaGreatDoor
set_option maxHeartbeats 2000000
set_option maxRecDepth 100000
open Go.RowKit _root_.Go.Proofs.Tryz
def MKY (k:List Int):List Int:=KDt k 4 []
theorem Qmo {k:List Int} (h:k.length=32):(MKY k).length=32:=by unfold MKY KDt;rw [if_pos h,if_pos (by simp),QcX]
theorem QqQ (k:List Int):U8 (MKY k):=by
 unfold MKY KDt
 by_cases h:k.length=32
 ·rw [if_pos h,if_pos (by simp)];exact Qjl _ _ _
 ·rw [if_neg h];intro y hy;cases hy
theorem Qji {k:List Int} (h:k.length=32):KDe k []=0:=by unfold KDe;rw [if_pos h];rfl
theorem Qmp {k:List Int} (h:k.length≠32):KDe k []=1:=by unfold KDe;rw [if_neg h]
def MSe (k:List Int) (m:MAN):Int:=if k.length=32 then MEr m else 1
def MSt (k:List Int) (m:MAN):List Int:=if MSe k m=0 then MENC m++MACL (MKY k) (MENC m) else []
def MCe (k b:List Int):Int:=if k.length=32 then (if b.length<32 then 2 else if MACL (MKY k) (b.take (b.length - 32))=b.drop (b.length - 32) then MDe (b.take (b.length - 32)) else 5) else 1
def MCv (k b:List Int):MAN:=if k.length=32 then (if b.length<32 then ⟨0,[],[],[]⟩ else if MACL (MKY k) (b.take (b.length - 32))=b.drop (b.length - 32) then MDv (b.take (b.length - 32)) else ⟨0,[],[],[]⟩) else ⟨0,[],[],[]⟩
theorem Qr2 {m:MAN} (h:MGD m):(MENC m).length≤1000000000:=by
 obtain ⟨g1,g2,g3,g4,g5⟩:=h;have hTl:(MTN m).length≤1048576:=Nat.le_trans (QeC m) g4
 have q1:=Qjp (MTN m) _ (Nat.le_refl _) hTl (fun x hx=>by
  obtain ⟨e,he',rfl⟩:=List.mem_map.1 ((QbB _ _).1 hx)
  exact (g5 e he').1.1)
 have q2:=Qjq (MTN m) m.es _ (Nat.le_refl _) g4 (fun e he'=>QeB he') hTl;rw [Qif] at q1;rw [Qih] at q2;unfold MENC;simp only [Yae,Qag,g2.1,g3.1,MHD,Yah,List.length_nil] at q1 q2 ⊢;omega
theorem Qpa (vk x vp ve vr:Value) (k:List Int) (m:MAN) (w:World) (hb:Bs .u8 w vk k) (hk8:U8 k) (h:Mf w x m vp ve vr) (hk:Mok m) (np:NoCap vp) (nr:NoCap vr) (hm63:m.es.length≤9223372036854775806) :
  Calls prog 22 #[vk,x] w fun e w'=>∃u,e=.returned (.tuple #[u,.int .i64 (MSe k m)])∧w'.ownsRow w.heap.size 5 1 u (MSt k m).length ((MSt k m).map (Value.int .u8))∧Only (fun _=>False) w w':=by
 have hf:=h.form;obtain ⟨ap,pc,ep⟩:=h.prev.len;obtain ⟨ae,ec,ee⟩:=h.es.len;obtain ⟨ar,rc,er⟩:=h.root.len;obtain ⟨ak,kc,ek⟩:=hb.len;subst ep ee er hf ek;have oa:Only (fun _=>False) w (w.alloc (.cells #[.int .u64 m.ver,.slice ap m.prev.length pc,.slice ae m.es.length ec,.slice ar m.root.length rc] 42)):=(Only.refl _ _).alloc _;have G0:=Qaa (heap_alloc_new w (.cells #[.int .u64 m.ver,.slice ap m.prev.length pc,.slice ae m.es.length ec,.slice ar m.root.length rc] 42));have A:=Qaa (Qdg _ k hk8 _ (hb.past oa));have OA:=Qaa oa
 by_cases h32:k.length=32
 ·rw [Qji h32] at A
  have e1:MSe k m=MEr m:=by unfold MSe;rw [if_pos h32]
  have HKL:=Qaa (Qmo h32);have HK8:=Qaa (QqQ k)
  by_cases he:MEr m=0
  ·have EN:Hid (∀W,Only (fun _=>False) w W→Calls prog 46 #[.agg #[.int .u64 m.ver,.slice ap m.prev.length pc,.slice ae m.es.length ec,.slice ar m.root.length rc]] W fun e w'=>∃u,e=.returned (.tuple #[u,.int .i64 0])∧w'.ownsRow W.heap.size 5 1 u (MENC m).length ((MENC m).map (Value.int .u8))∧Only (fun _=>False) W w'):=by
    intro W o;have:=Qfg _ _ _ _ m W (h.past o) hk np nr hm63;rw [he,show MEt m=MENC m by unfold MEt;rw [if_pos he]] at this;exact this
   have hG:=(QmH hk).1 he;have hle:=Qr2 hG;have h8:=QmK hG
   have e2:MSt k m=MENC m++MACL (MKY k) (MENC m):=by unfold MSt;rw [e1,if_pos he]
   rw [e1,he,e2];obtain ⟨E,hE⟩:∃E,E=MENC m:=⟨_,rfl⟩;rw [←hE] at EN hle h8;rw [←hE];clear h hb hk np nr hm63 oa e1 e2 h32 he hG hE;go_enter func22,ntmps22;go_wp2_with fail;refine A.out.mono ?_;rintro e w1 ⟨v1,rfl,own1,o1⟩;have G1:=o1.heap G0.out (fun f=>f);have hld:=QaA G1;obtain ⟨⟨c0,c1,c2,c3⟩,_⟩:=QaQ G1;have B:=Qaa (EN.out w1 (OA.out.same o1));have O1:=Qaa (OA.out.same o1);have BK:=Qaa (show Bs .u8 w1 v1 (MKY k) from Bs.of_own own1);clear A own1 o1 EN G0 OA G1;go_wp2_with fail;refine B.out.mono ?_;rintro e w2 ⟨u,rfl,own2,o2⟩;have O2:=Qaa (O1.out.same o2);have D:=Qaa (QnL v1 u (MKY k) E w2 (BK.out.past o2) HK8.out (by rw [HKL.out];decide) (Bs.of_own own2) h8 (by omega));obtain ⟨au,cu,eu⟩:=(Bs.of_own own2).len;have OW2:=Qaa own2;clear B o2 O1 own2 BK c0 c1 c2 c3 hld;subst eu;go_wp2_with fail;refine D.out.mono ?_;rintro e w3 ⟨r,rfl,own3,o3⟩;obtain ⟨br,gr,cr,er,_⟩:=QiY own3;subst er;have oz:Only (fun _=>False) w3 (w3.alloc (.cells #[.slice au E.length cu,.slice (some ⟨gr,0,none⟩) 32 cr] 22)):=(Only.refl _ _).alloc _;have hml:=QaN (MKY k) E;have C:=Qaa (Qa1 w3.heap.size (.slice au E.length cu) (.slice (some ⟨gr,0,none⟩) 32 cr) E (MACL (MKY k) E) _ (by go_cell) (by go_cell) ((Bs.of_own (k:=.u8) OW2.out).past (o3.same oz)) (br.past oz) (NoCap.of_own OW2.out) (NoCap.some _ _ _) (by omega) (by omega));have O3:=Qaa (O2.out.same (o3.same oz));clear D own3 o3 oz br hml OW2;go_wp2_with fail;refine C.out.mono ?_;rintro e w4 ⟨v4,rfl,own4,o4⟩;have F:=Qaa (And.intro (Qaf own4 O3.out.size) (O3.out.same o4));clear C own4 o4;go_wp2;go_ret2;exact ⟨_,rfl,F.out⟩
  ·have EN:Hid (∀W,Only (fun _=>False) w W→Calls prog 46 #[.agg #[.int .u64 m.ver,.slice ap m.prev.length pc,.slice ae m.es.length ec,.slice ar m.root.length rc]] W fun e w'=>∃u,e=.returned (.tuple #[u,.int .i64 (MEr m)])∧w'.ownsRow W.heap.size 5 1 u (MEt m).length ((MEt m).map (Value.int .u8))∧Only (fun _=>False) W w') :=
    fun W o=>Qfg _ _ _ _ m W (h.past o) hk np nr hm63
   have e2:MSt k m=[]:=by unfold MSt;rw [e1,if_neg he]
   rw [e1,e2];obtain ⟨c,hc⟩:∃c,c=MEr m:=⟨_,rfl⟩;rw [←hc] at EN he;rw [←hc]
   have hne:(c != 0)=true:=by simpa using he
   clear h hb hk np nr hm63 oa e1 e2 h32 hc;go_enter func22,ntmps22;go_wp2_with fail;refine A.out.mono ?_;rintro e w1 ⟨v1,rfl,own1,o1⟩;have G1:=o1.heap G0.out (fun f=>f);have hld:=QaA G1;obtain ⟨⟨c0,c1,c2,c3⟩,_⟩:=QaQ G1;have B:=Qaa (EN.out w1 (OA.out.same o1));have O1:=Qaa (OA.out.same o1);clear A own1 o1 EN G0 OA G1;go_wp2_with fail;refine B.out.mono ?_;rintro e w2 ⟨u,rfl,own2,o2⟩;have O2:=Qaa (O1.out.same o2);clear B own2 o2;go_wp2;go_ret2;exact ⟨_,rfl,World.ownsRow_nil _ _ _ _,O2.out⟩
 ·rw [Qmp h32] at A
  have e1:MSe k m=1:=by unfold MSe;rw [if_neg h32]
  have e2:MSt k m=[]:=by unfold MSt;rw [e1];rfl
  rw [e1,e2];clear h hb hk np nr hm63 oa e1 e2;go_enter func22,ntmps22;go_wp2_with fail;refine A.out.mono ?_;rintro e w1 ⟨v1,rfl,own1,o1⟩;have O1:=Qaa (OA.out.same o1);clear A own1 o1;go_wp2;go_ret2;exact ⟨_,rfl,World.ownsRow_nil _ _ _ _,O1.out⟩
theorem Qer {W w:World} {B:Nat} (hB:w.heap.size≤B) (o:Only (fun _=>False) w W) (g:W.heap[B]? = some (.cells #[.int .u64 0,.slice none 0 0,.slice none 0 0,.slice none 0 0] 42 (0,0))) :
  (loadVar 42 ⟨B,0,none⟩).run prog ((((W.setCell ⟨B,0,none⟩ (.int .u64 0)).setCell ⟨B,1,none⟩ (.slice none 0 0)).setCell ⟨B,2,none⟩ (.slice none 0 0)).setCell ⟨B,3,none⟩ (.slice none 0 0))=.ok QqP ((((W.setCell ⟨B,0,none⟩ (.int .u64 0)).setCell ⟨B,1,none⟩ (.slice none 0 0)).setCell ⟨B,2,none⟩ (.slice none 0 0)).setCell ⟨B,3,none⟩ (.slice none 0 0)) ∧
  Only (fun _=>False) w ((((W.setCell ⟨B,0,none⟩ (.int .u64 0)).setCell ⟨B,1,none⟩ (.slice none 0 0)).setCell ⟨B,2,none⟩ (.slice none 0 0)).setCell ⟨B,3,none⟩ (.slice none 0 0)):=by
 obtain ⟨g',og⟩:=put4 g (.int .u64 0) (.slice none 0 0) (.slice none 0 0) (.slice none 0 0);exact ⟨QaA g',o.trans og (fun i hi e=>by omega)⟩
theorem Qmq (vk vb:Value) (k b:List Int) (w:World) (hb:Bs .u8 w vk k) (hk8:U8 k) (hv:Bs .u8 w vb b) (hb8:U8 b) (hl:b.length≤10000000000) :
  Calls prog 52 #[vk,vb] w fun e w'=>∃x vp ve vr,e=.returned (.tuple #[x,.int .i64 (MCe k b)])∧Mnw w w' x (MCv k b) vp ve vr∧Only (fun _=>False) w w':=by
 obtain ⟨ak,kc,ek⟩:=hb.len;have oa:Only (fun _=>False) w (w.alloc (.cells #[.int .u64 0,.slice none 0 0,.slice none 0 0,.slice none 0 0] 42)):=(Only.refl _ _).alloc _;have G0:=Qaa (heap_alloc_new w (.cells #[.int .u64 0,.slice none 0 0,.slice none 0 0,.slice none 0 0] 42));have A:=Qaa (Qdg _ k hk8 _ (hb.past oa));have OA:=Qaa oa
 obtain ⟨bo,n,bc,hvb,hn⟩:∃bo n bc,vb=.slice bo n bc∧n=b.length:=by
  obtain ⟨so,sc,e⟩:=hv.len;exact ⟨so,b.length,sc,e,rfl⟩
 subst hvb
 by_cases h32:k.length=32
 ·rw [Qji h32] at A
  have HKL:=Qaa (Qmo h32);have HK8:=Qaa (QqQ k)
  by_cases hs:n<32
  ·have e1:MCe k b=2:=by unfold MCe;rw [if_pos h32,if_pos (by omega)]
   have e2:MCv k b=⟨0,[],[],[]⟩:=by unfold MCv;rw [if_pos h32,if_pos (by omega)]
   rw [e1,e2]
   have i1:(n:Int)<32:=by omega
   clear e1 e2 hb hv oa h32 hn ek;go_enter func52,ntmps52;go_wp2_with fail;refine A.out.mono ?_;rintro e w1 ⟨v1,rfl,own1,o1⟩;have G1:=o1.heap G0.out (fun f=>f);obtain ⟨⟨c0,c1,c2,c3⟩,f0,f1,f2,f3⟩:=QaQ G1;have F:=Qaa (Qer (w:=w) (Nat.le_refl _) (OA.out.same o1) G1);clear A own1 o1 G1;go_wp2;refine bodyPost_ret (QbA Tryz.results52 _ _ rfl rfl F.out.1) rfl ?_;exact ⟨_,_,_,_,rfl,Mnw.zero _ _,F.out.2⟩
  ·obtain ⟨q,hq⟩:∃q,q=n - 32:=⟨_,rfl⟩
   obtain ⟨C,hC⟩:∃C,C=b.take q:=⟨_,rfl⟩;obtain ⟨R,hR⟩:∃R,R=b.drop q:=⟨_,rfl⟩
   have hCl:C.length=q:=by rw [hC,Yag];omega
   have hRl:R.length=32:=by rw [hR,Yai];omega
   have C8:U8 C:=by rw [hC];exact hb8.take _
   have R8:U8 R:=by rw [hR];exact hb8.drop _
   obtain ⟨g,off,rfl⟩:∃g off,bo=some ⟨g,off,none⟩:=by
    obtain ⟨g,off,c,e,_⟩:=hv.at 0 (by omega);simp at e;exact ⟨g,off,e.1⟩
   have hcap:n≤bc:=hv.room
   have bC:Bs .u8 w (.slice (some ⟨g,off,none⟩) q bc) C:=by rw [hC];exact hv.head (by omega)
   have bR:Bs .u8 w (.slice (some ⟨g,off+q,none⟩) 32 (bc - q)) R:=by
    have:=hv.cut (n:=q) (by omega);rw [←hR,show n - q=32 by omega] at this
    simpa [Addr.add_lit] using this
   have E1:MCe k b=if MACL (MKY k) C=R then MDe C else 5:=by unfold MCe;rw [if_pos h32,if_neg (by omega),hC,hR,hq,hn]
   have E2:MCv k b=if MACL (MKY k) C=R then MDv C else ⟨0,[],[],[]⟩:=by unfold MCv;rw [if_pos h32,if_neg (by omega),hC,hR,hq,hn]
   rw [E1,E2];have CK:=Qaa (fun (v1:Value) (W:World) (o:Only (fun _=>False) w W) (h1:Bs .u8 W v1 (MKY k))=>Qoi v1 _ _ (MKY k) C R W h1 HK8.out (by rw [HKL.out];decide) (bC.past o) C8 (by omega) (bR.past o) R8);have DC:=Qaa (fun (W:World) (o:Only (fun _=>False) w W)=>Qfc _ C W (bC.past o) C8 (by omega))
   have hsub:(n:Int) - 32=(q:Int):=by omega
   have hwq:IntKind.i64.wrap (q:Int)=(q:Int):=by rw [IntKind.wrap_i64];omega
   have c1:(q:Int)≤(bc:Int):=by omega
   have c2:(q:Int)≤(n:Int):=by omega
   have c0:(0:Int)≤(q:Int):=by omega
   have c3:¬bc=q:=by omega
   have hnq:n - q=32:=by omega
   have i1:¬(n:Int)<32:=by omega
   have HKT:Hid (KDt k 4 []=MKY k):=rfl
   by_cases ht:MACL (MKY k) C=R
   ·rw [if_pos ht,if_pos ht]
    rw [Yaj ht] at CK;clear E1 E2 hb hv oa h32 hn ek hC hR hq hCl hRl C8 R8 bC bR hb8 hl hcap hs ht;go_enter func52,ntmps52;go_wp2_with fail;refine A.out.mono ?_;rintro e w1 ⟨v1,rfl,own1,o1⟩;have G1:=Qaa (o1.heap G0.out (fun f=>f));have O1:=Qaa (OA.out.same o1);have D:=Qaa (fun nq=>CK.out v1 (w1.drewN nq) (O1.out.drewN nq) ((Bs.of_own own1).past ((Only.refl _ _).drewN nq)));clear A own1 o1 CK G0;go_wp2_with fail;go_quiet (fail);go_wp2_with fail;refine (D.out _).mono ?_;rintro e w2 ⟨rfl,o2x⟩;have o2:=((Only.refl (fun _=>False) w1).drewN nq).same o2x;clear o2x;have HG2:=Qaa (o2.heap G1.out (fun f=>f));have O2:=Qaa (O1.out.same o2);have E:=Qaa (DC.out w2 O2.out);clear D G1 DC o2;go_wp2_with fail;refine E.out.mono ?_;rintro e w3 ⟨x,vp,ve,vr,rfl,mn,o3⟩;have K1:=o3.heap HG2.out (fun f=>f);obtain ⟨ap,pc,ep⟩:=mn.mf.prev.len;obtain ⟨ae,ec,ee⟩:=mn.mf.es.len;obtain ⟨ar,rc,er⟩:=mn.mf.root.len;subst ep ee er;have hx:=mn.mf.form;subst hx;have hs2:=O2.out.size;have hlt:w.heap.size<w2.heap.size:=(Array.getElem?_eq_some_iff.1 HG2.out).1;obtain ⟨⟨k0,k1,k2,k3⟩,f0,f1,f2,f3⟩:=QaQ K1;obtain ⟨g',og⟩:=put4 K1 (.int .u64 (MDv C).ver) (.slice ap (MDv C).prev.length pc) (.slice ae (MDv C).es.length ec) (.slice ar (MDv C).root.length rc);have F:=Qaa (And.intro (QaA g') (And.intro ((O2.out.same o3).trans og (fun i hi e=>by omega)) ((mn.keep og hlt).low (w0:=w) hs2)));clear E K1 o3 mn g' og HG2;go_wp2;refine bodyPost_ret (QbA Tryz.results52 _ _ rfl rfl F.out.1) rfl ?_;exact ⟨_,.slice ap (MDv C).prev.length pc,.slice ae (MDv C).es.length ec,.slice ar (MDv C).root.length rc,rfl,F.out.2.2,F.out.2.1⟩
   ·rw [if_neg ht,if_neg ht]
    rw [Yak ht] at CK;clear E1 E2 hb hv oa h32 hn ek hC hR hq hCl hRl C8 R8 bC bR hb8 hl hcap hs ht DC;go_enter func52,ntmps52;go_wp2_with fail;refine A.out.mono ?_;rintro e w1 ⟨v1,rfl,own1,o1⟩;have G1:=Qaa (o1.heap G0.out (fun f=>f));have O1:=Qaa (OA.out.same o1);have D:=Qaa (fun nq=>CK.out v1 (w1.drewN nq) (O1.out.drewN nq) ((Bs.of_own own1).past ((Only.refl _ _).drewN nq)));clear A own1 o1 CK G0;go_wp2_with fail;go_quiet (fail);go_wp2_with fail;refine (D.out _).mono ?_;rintro e w2 ⟨rfl,o2x⟩;have o2:=((Only.refl (fun _=>False) w1).drewN nq).same o2x;clear o2x;have G2:=o2.heap G1.out (fun f=>f);have O2:=Qaa (O1.out.same o2);obtain ⟨⟨k0,k1,k2,k3⟩,f0,f1,f2,f3⟩:=QaQ G2;have F:=Qaa (Qer (w:=w) (Nat.le_refl _) O2.out G2);clear D G1 o2 G2;go_wp2;refine bodyPost_ret (QbA Tryz.results52 _ _ rfl rfl F.out.1) rfl ?_;exact ⟨_,_,_,_,rfl,Mnw.zero _ _,F.out.2⟩
 ·rw [Qmp h32] at A
  have e1:MCe k b=1:=by unfold MCe;rw [if_neg h32]
  have e2:MCv k b=⟨0,[],[],[]⟩:=by unfold MCv;rw [if_neg h32]
  rw [e1,e2];clear e1 e2 hb hv oa h32 hn ek;go_enter func52,ntmps52;go_wp2_with fail;refine A.out.mono ?_;rintro e w1 ⟨v1,rfl,own1,o1⟩;have G1:=o1.heap G0.out (fun f=>f);obtain ⟨⟨c0,c1,c2,c3⟩,f0,f1,f2,f3⟩:=QaQ G1;have F:=Qaa (Qer (w:=w) (Nat.le_refl _) (OA.out.same o1) G1);clear A own1 o1 G1;go_wp2;refine bodyPost_ret (QbA Tryz.results52 _ _ rfl rfl F.out.1) rfl ?_;exact ⟨_,_,_,_,rfl,Mnw.zero _ _,F.out.2⟩
end Go.Proofs.YtnhapmboienipaaGreatDoor
