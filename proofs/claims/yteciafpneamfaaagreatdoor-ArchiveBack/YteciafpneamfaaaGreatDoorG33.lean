import Derived.Test.YteciafpneamfaaaGreatDoorG32
import Derived.Deep.DrawnRows
namespace Go.Proofs.YteciafpneamfaaaGreatDoor
set_option maxHeartbeats 4000000
set_option maxRecDepth 100000
open Go.RowKit _root_.Go.Proofs.Tryz
section
attribute [local go_sem ↓] Go.wp_at_zero Go.wp_at_succ
theorem tf (t:ByteArray) (u:Value) (s:List (Int × Int)) (w:World) (h:Sps w u s) (hl:64<t.size∨65536<s.length) (hm:s.length<=maxLen) (hm2:t.size<=maxLen) :
 Calls prog 80 #[.agg #[.string t,u]] w λe w'=>e=.returned (.tuple #[.slice none 0 0,.int .i64 4])∧N0 w w':=by
 unfold maxLen at hm hm2;obtain⟨ao,cap,rfl⟩:=h.len;clear h;generalize s.length=n at *
 by_cases h1:64<t.size
 ·have d1:decide (64<(t.size:Int))=true:=by simp;omega
  have d2:decide (64<t.size)=true:=by simp;omega
  go_enter func80,ntmps80;go_wp2;go_ret2;exact⟨rfl,(Only.refl _ _).alloc _⟩
 ·have h2:65536<n:=by omega
  have d1:decide (64<(t.size:Int))=false:=by simp;omega
  have d2:decide (64<t.size)=false:=by simp;omega
  have d3:decide (65536<(n:Int))=true:=by simp;omega
  have d4:decide (65536<n)=true:=by simp;omega
  go_enter func80,ntmps80;go_wp2;go_ret2;exact⟨rfl,(Only.refl _ _).alloc _⟩
theorem ZL {w3 W W':World} {B:Nat} {x y:Value} (h:N0 w3 W∧W.cell? ⟨B,0,none⟩=some x∧W.cell? ⟨B,1,none⟩=some y) (o:N0 W W') :
 N0 w3 W'∧W'.cell? ⟨B,0,none⟩=some x∧W'.cell? ⟨B,1,none⟩=some y:=by
 obtain⟨h1,h2,h3⟩:=h;have hb:B<W.heap.size:=World.block_lt_of_cell? W _ h2;have e:=o.block B hb (λf=>f);exact⟨h1.same o,by rw[<-h2];unfold World.cell?;rw[e],by rw[<-h3];unfold World.cell?;rw[e]⟩
def five {α:Type} (a b c d e:α):Nat->α
 | 0=>a
 | 1=>b
 | 2=>c
 | 3=>d
 | _=>e
theorem Jt (a b c d e:LI):cat (five a b c d e) 5=a++(b++(c++(d++e))):=by
 simp[cat,List.range_succ,five]
theorem gY {W:World} {X:Nat} (h:W.heap[X]? = some (.cells #[.int .u8 1] 5 (0,0))):Bs .u8 W (.slice (some ⟨X,0,none⟩) 1 1) [1]:=by
 refine⟨some _,1,rfl,Nat.le_refl _,λ_=>⟨X,0,rfl,λj hj=>?_⟩⟩
 have:j=0:=by simpa using hj
 subst this;simp[World.cell?,h]
theorem FD {W:World} {B:Nat} {v0 v1 v2 v3 v4:Value} {l0 l1 l2 l3 l4:LI} (hB:W.heap[B]? = some (.cells #[v0,v1,v2,v3,v4] 22 (0,0)))
 (b0:Bs .u8 W v0 l0) (b1:Bs .u8 W v1 l1) (b2:Bs .u8 W v2 l2) (b3:Bs .u8 W v3 l3) (b4:Bs .u8 W v4 l4) (n0:NoCap v0) (n1:NoCap v1) (n2:NoCap v2) (n3:NoCap v3) (n4:NoCap v4)
 (hp:0<l0.length) (hl:(l0++(l1++(l2++(l3++l4)))).length<=140737488355328) :
 Calls prog 19 #[.slice (some ⟨B,0,none⟩) 5 5] W λe w'=>∃v',e=.returned v'∧w'.ownsRow W.heap.size 5 1 v' (l0++(l1++(l2++(l3++l4)))).length ((l0++(l1++(l2++(l3++l4)))).map (Value.int .u8))∧N0 W w':=by
 have:=VP B 5 (five v0 v1 v2 v3 v4) (five l0 l1 l2 l3 l4) W (by omega) (by omega)
  (λi hi=>by
   have e:W.cell? ⟨B,i,none⟩=(#[v0,v1,v2,v3,v4]:Array Value)[i]?:=by unfold World.cell?;simp only;rw[hB];rfl
   rw[e]
   match i,hi with
   | 0,_=>rfl
   | 1,_=>rfl
   | 2,_=>rfl
   | 3,_=>rfl
   | 4,_=>rfl)
  (λi hi=>by
   match i,hi with
   | 0,_=>exact b0
   | 1,_=>exact b1
   | 2,_=>exact b2
   | 3,_=>exact b3
   | 4,_=>exact b4)
  (λi hi=>by
   match i,hi with
   | 0,_=>exact n0
   | 1,_=>exact n1
   | 2,_=>exact n2
   | 3,_=>exact n3
   | 4,_=>exact n4)
  (by rw[Jt];simp only[Qb];omega) (by rw[Jt];exact hl)
 rw[Jt] at this;exact this
theorem CU (t:ByteArray) (u:Value) (s:List (Int × Int)) (w:World) (h:Sps w u s) (hg:Gs s) (ht:t.size<=64) (hl:s.length<=65536) (hT:Tab w) :
 Calls prog 80 #[.agg #[.string t,u]] w λe w'=>∃v',e=.returned (.tuple #[v',.int .i64 0])∧w'.ownsRow w.heap.size 5 1 v' (ENCC (sb t) s).1.length ((ENCC (sb t) s).1.map (Value.int .u8))∧N0 w w':=by
 rw[Gg (by rw[QS];omega) hl];obtain⟨x8,hd⟩:=EX (e8c (s.map Prod.fst));obtain⟨h4,h3⟩:=EX (e11c (s.map Prod.snd));rw[<-hd,<-h3];have X8:=Qa hd;have hr:=Qa h3;clear hd h3;have HS:=Qa h;have HG:=Qa hg;have HT:=Qa hT;have hcv:=XE t;obtain⟨ao,cap,rfl⟩:=h.len;obtain⟨n,hn⟩:=EX s.length;rw[<-hn] at hl HS;rw[<-hn];have HN:=Qa hn
 have d1:decide (64<(t.size:Int))=false:=by simp;omega
 have d2:decide (64<t.size)=false:=by simp;omega
 have d3:decide (65536<(n:Int))=false:=by simp;omega
 have d4:decide (65536<n)=false:=by simp;omega
 have oa:N0 w (w.alloc (.cells #[.string t,.slice ao n cap] 42)):=(Only.refl _ _).alloc _;have AP:=Qa (tQ (.slice ao n cap) s _ (HS.o.past oa) (by rw[<-hn];exact hl));have OA:=Qa oa;clear h hg hT hn oa;go_enter func80,ntmps80;go_wp2_with fail;refine AP.o.mono ?_;rintro e w1 ⟨u1,u2,rfl,b1,b2,o1⟩;obtain⟨a1,c1,e1⟩:=b1.len;obtain⟨a2,c2,e2⟩:=b2.len;subst e1 e2;have T1:=HT.o.past (OA.o.same o1);have B2:=Qa b2
 have hh:N0 (w.alloc (.cells #[.string t,.slice ao n cap] 42)) w1∧w1.cell? ⟨w.heap.size,0,none⟩=some (.string t)∧w1.cell? ⟨w.heap.size,1,none⟩=some (.slice ao n cap) :=
  ZL ⟨Only.refl _ _,by go_cell,by go_cell⟩ o1
 have E8:=Qa (Ll _ _ w1 b1 HG.o.1)
 have e8:(ENC8 (s.map Prod.fst)).2=0:=by unfold ENC8;rw[if_neg (by rw[List.length_map,<-HN.o];omega)]
 have hj:(ENC11 (s.map Prod.snd)).2=0:=by unfold ENC11;rw[if_neg (by rw[List.length_map,<-HN.o];omega)]
 have l8:(e8c (s.map Prod.fst)).length<=600000:=by
  have:=(Re (l:=s.map Prod.fst) (by rw[List.length_map,<-HN.o];exact hl)).1;rw[List.length_map,<-HN.o] at this
  show (ENC8 (s.map Prod.fst)).1.length<=600000
  omega
 have hq:(e11c (s.map Prod.snd)).length<=600000:=by
  have:=(Z7 (l:=s.map Prod.snd) (by rw[List.length_map,<-HN.o];exact hl)).1;rw[List.length_map,<-HN.o] at this
  show (ENC11 (s.map Prod.snd)).1.length<=600000
  omega
 rw[e8] at E8
 have hk:Hid (∀W,N0 w1 W->Calls prog 111 #[.slice a2 (s.map Prod.snd).length c2] W λe w'=>∃u,e=.returned (.tuple #[u,.int .i64 0])∧w'.ownsRow W.heap.size 5 1 u (e11c (s.map Prod.snd)).length ((e11c (s.map Prod.snd)).map (Value.int .u8))∧N0 W w'):=by
  intro W o;have:=Ny (.slice a2 (s.map Prod.snd).length c2) (s.map Prod.snd) W (B2.o.past o) HG.o.2 (T1.past o);rw[hj] at this;exact this
 have O1:=Qa (OA.o.same o1);have hs:=Qa hh;have L8:=Qa l8;have h6:=Qa hq;have eB:=EX w.heap.size;clear b1 b2 o1 AP hh T1 e8 hj l8 hq HS OA HT;generalize (s.map Prod.fst).length=n1 at *;generalize (s.map Prod.snd).length=n2 at *;go_wp2_with fail;refine E8.o.mono ?_;rintro e w2 ⟨v8,rfl,h1,o2⟩;obtain⟨a8,c8,e1⟩:=(Bs.of_own h1).len;subst e1;have B8:Hid (Bs .u8 w2 (.slice a8 (ENC8 (s.map Prod.fst)).1.length c8) (e8c (s.map Prod.fst))∧NoCap (.slice a8 (ENC8 (s.map Prod.fst)).1.length c8)):=⟨Bs.of_own h1,NoCap.of_own h1⟩;have O2:=Qa (O1.o.same o2);have he:=Qa (ZL hs.o o2);have EV:=Qa (hk.o w2 o2);clear h1 o2 E8 hk hs;generalize (ENC8 (s.map Prod.fst)).1.length=m8 at *;go_wp2_with fail;refine EV.o.mono ?_;rintro e w3 ⟨v11,rfl,h0,o3⟩;obtain⟨hm,hf,e1⟩:=(Bs.of_own h0).len;subst e1;have h9:Hid (Bs .u8 w3 (.slice a8 m8 c8) (e8c (s.map Prod.fst))∧NoCap (.slice a8 m8 c8)):=⟨B8.o.1.past o3,B8.o.2⟩;have h8:Hid (Bs .u8 w3 (.slice hm (e11c (s.map Prod.snd)).length hf) (e11c (s.map Prod.snd))∧NoCap (.slice hm (e11c (s.map Prod.snd)).length hf)):=⟨Bs.of_own h0,NoCap.of_own h0⟩;have O3:=Qa (O2.o.same o3);have HC3:=(ZL he.o o3).2;clear h0 o3 EV he B8;rw[<-X8.o] at h9 L8;rw[<-hr.o] at h8 h6;rw[<-hr.o];generalize hm11:h4.length=m11 at *;have h2:=Qa hm11;clear hm11 HG
 have HLL:Hid (([1]++(blk (sb t)++(gs n++(blk x8++blk h4)))).length<=140737488355328):=by
  have q1:=UW (sb t) (by rw[QS];omega);have q2:=UW x8 (by have:=L8.o;omega);have q3:=UW h4 (by have:=h6.o;have:=h2.o;omega);have q4:=Yw (v:=n) (by omega);have q5:=L8.o;have q6:=h6.o;have q7:=h2.o;rw[QS] at q1;simp only[Hid,Qb,Qj,List.length_nil];omega
 have hwn:IntKind.u64.wrap (n:Int)=n:=by rw[IntKind.wrap_u64];omega
 obtain⟨ho,hp⟩:=HC3;clear O1 O2;go_wp2_with fail;have hS3:N0 w3 w3∧w3.cell? ⟨w.heap.size,0,none⟩=some (Value.string t)∧w3.cell? ⟨w.heap.size,1,none⟩=some (Value.slice ao n cap):=⟨Only.refl _ _,ho,hp⟩;clear ho hp
 go_region_held (λW=>N0 w3 W∧W.cell? ⟨w.heap.size,0,none⟩=some (Value.string t)∧W.cell? ⟨w.heap.size,1,none⟩=some (Value.slice ao n cap)) ((refine ZL hS3 ?_;(repeat (first | with_reducible exact Only.refl _ _ | assumption|(with_reducible refine Only.drew ?_)|(with_reducible refine Only.alloc ?_ _)|(with_reducible apply Only.same;case k=>assumption)))))
  (first
   | (go_at_call 37;refine (UQ (.slice none 0 0) [] n _ (Bs.nil _ _) NoCap.nil (by simp) (by omega) (by omega)).mono ?_;rintro e wv ⟨vv,rfl,h5,ov⟩;rw[List.nil_append,Int.toNat_natCast] at h5;(obtain⟨av,cv,ev⟩:=(Bs.of_own h5).len);subst ev)
   | (go_at_call_of 18 (t.size);refine (Kb _ (sb t) _ (XK (by (repeat (first | (with_reducible refine YS ?_;simp;done) | (with_reducible refine Vy ?_) | (with_reducible refine Ub ?_)))) (grownCap_ge _ _ _ _)) (NoCap.some _ _ _) (by rw[QS];omega)).mono ?_;rintro e wt ⟨vt,rfl,ha,ot⟩;(obtain⟨at1,ct,et⟩:=(Bs.of_own ha).len);subst et)
   | (go_at_call_of 18 m8;refine (Kb _ x8 _ (h9.o.1.past (by (repeat (first | with_reducible exact Only.refl _ _ | assumption | (with_reducible refine Only.drew ?_) | (with_reducible refine Only.alloc ?_ _) | (with_reducible apply Only.same;case k=>assumption))))) h9.o.2 (by have:=L8.o;omega)).mono ?_;rintro e w8 ⟨v8,rfl,h1,o8⟩;(obtain⟨ab8,cb8,eb8⟩:=(Bs.of_own h1).len);subst eb8)
   | (go_at_call_of 18 m11;refine (Kb _ h4 _ (h8.o.1.past (by (repeat (first | with_reducible exact Only.refl _ _ | assumption | (with_reducible refine Only.drew ?_) | (with_reducible refine Only.alloc ?_ _) | (with_reducible apply Only.same;case k=>assumption))))) h8.o.2 (by have:=h6.o;have:=h2.o;omega)).mono ?_;rintro e wp ⟨vp,rfl,hb,op⟩;(obtain⟨ap,cp,ep⟩:=(Bs.of_own hb).len);subst ep)
   | (go_at_call 19;refine Calls.mono (FD (l0:=[1]) (l1:=blk (sb t)) (l2:=gs n) (l3:=blk x8) (l4:=blk h4) (by (repeat (first | (with_reducible refine YS ?_;simp;done) | (with_reducible refine Vy ?_) | (with_reducible refine Ub ?_)))) (by (repeat (first | (with_reducible refine gY ?_;(repeat (first | (with_reducible refine YS ?_;simp;done) | (with_reducible refine Vy ?_) | (with_reducible refine Ub ?_)));done) | (with_reducible refine Bs.past ?_ ((Only.refl _ _).drew)) | (with_reducible refine Bs.past ?_ ((Only.refl _ _).alloc _)) | (with_reducible apply Bs.past;case o=>assumption)))) (by (repeat (first | (with_reducible apply Bs.of_own;assumption) | (with_reducible refine Bs.past ?_ ((Only.refl _ _).drew)) | (with_reducible refine Bs.past ?_ ((Only.refl _ _).alloc _)) | (with_reducible apply Bs.past;case o=>assumption)))) (by (repeat (first | (with_reducible apply Bs.of_own;assumption) | (with_reducible refine Bs.past ?_ ((Only.refl _ _).drew)) | (with_reducible refine Bs.past ?_ ((Only.refl _ _).alloc _)) | (with_reducible apply Bs.past;case o=>assumption)))) (by (repeat (first | (with_reducible apply Bs.of_own;assumption) | (with_reducible refine Bs.past ?_ ((Only.refl _ _).drew)) | (with_reducible refine Bs.past ?_ ((Only.refl _ _).alloc _)) | (with_reducible apply Bs.past;case o=>assumption)))) (by (repeat (first | (with_reducible apply Bs.of_own;assumption) | (with_reducible refine Bs.past ?_ ((Only.refl _ _).drew)) | (with_reducible refine Bs.past ?_ ((Only.refl _ _).alloc _)) | (with_reducible apply Bs.past;case o=>assumption)))) (NoCap.some _ _ _) (by (with_reducible exact NoCap.of_own (by assumption))) (by (with_reducible exact NoCap.of_own (by assumption))) (by (with_reducible exact NoCap.of_own (by assumption))) (by (with_reducible exact NoCap.of_own (by assumption))) (by simp) HLL.o) ?_;rintro e wc ⟨vc,rfl,h7,oc⟩))
 all_goals
  go_wp2;go_ret2;refine⟨vc,rfl,Qr (show World.ownsRow _ _ _ _ _ (1 :: (blk (sb t)++(gs n++(blk x8++blk h4)))).length ((1 :: (blk (sb t)++(gs n++(blk x8++blk h4)))).map (Value.int .u8)) from h7) (Nat.le_trans O3.o.size (Only.size (S:=λ_=>False) ?_)),Only.same O3.o ?_⟩
  all_goals (repeat (first | with_reducible exact Only.refl _ _ | assumption|(with_reducible refine Only.drew ?_)|(with_reducible refine Only.alloc ?_ _)|(with_reducible apply Only.same;case k=>assumption)))
theorem vZ (t:ByteArray) (u:Value) (s:List (Int × Int)) (w:World) (h:Sps w u s) (hg:Gs s) (hm:s.length<=maxLen) (hm2:t.size<=maxLen) (hT:Tab w) :
 Calls prog 80 #[.agg #[.string t,u]] w λe w'=>∃v',e=.returned (.tuple #[v',.int .i64 (ENCC (sb t) s).2])∧w'.ownsRow w.heap.size 5 1 v' (ENCC (sb t) s).1.length ((ENCC (sb t) s).1.map (Value.int .u8))∧N0 w w':=by
 by_cases hl:64<t.size∨65536<s.length
 ·rw[JK (by rw[QS];exact hl)]
  refine (tf t u s w h hl hm hm2).mono ?_;rintro e w' ⟨rfl,o⟩;exact⟨_,rfl,World.ownsRow_nil _ _ _ _,o⟩
 ·have e:(ENCC (sb t) s).2=0:=by rw[Gg (by rw[QS];omega) (by omega)]
  rw[e];exact CU t u s w h hg (by omega) (by omega) hT
end
end Go.Proofs.YteciafpneamfaaaGreatDoor
