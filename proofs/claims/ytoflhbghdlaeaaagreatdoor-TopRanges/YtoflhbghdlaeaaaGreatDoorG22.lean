import Derived.Test.YtoflhbghdlaeaaaGreatDoorG17
namespace Go.Proofs.YtoflhbghdlaeaaaGreatDoor
set_option maxHeartbeats 1000000
set_option maxRecDepth 100000
open Go.RowKit _root_.Go.Proofs.Tryz
theorem wI (w:World) (n:Nat) (hn:n<=1000000000000):∃wm,(Instr.makeSlice 23 (.int .i64 (n:Int)) (.int .i64 (n:Int))).run prog w=.ok (.slice (some ⟨w.heap.size,0,none⟩) n n) wm∧Blk wm w.heap.size 5 (bl (List.replicate n 0))∧N0 w wm:=by
 obtain⟨i0,hi,hz0,hz1,hz2⟩:=info_parts Tryz.infoU8;obtain⟨wm,hmk,h0,hgr⟩:=run_make_full (P:=prog) w w.heap.size 23 5 i0 (.int .u8 0) 1 underlying23 hi hz0 hz1 .i64 .i64 n (by rw[hz2];omega) (by unfold maxLen;omega) (Nat.le_refl _);refine⟨wm,hmk,?_,(Only.refl _ _).grown hgr (λk _ e=>by cases e)⟩
 rcases h0.2 with ⟨h',_⟩ | ⟨g',cap',cur,h',_,hg,_,_,hcs,ht⟩
 ·simp at h'
 ·simp only[Value.slice.injEq,Option.some.injEq,Addr.mk.injEq,and_true,true_and] at h'
  obtain⟨rfl,rfl⟩:=h'
  have e1:cur=(bl (List.replicate n 0)).toArray:=by
   apply Array.toList_inj.1
   rw[List.take_of_length_le (by simp;omega)] at ht;rw[ht,Nat.mul_one,show (Value.int .u8 0).cells=#[.int .u8 0] from rfl,toList_madeCells_one];simp[bl]
  rw[e1] at hg;exact hg
theorem LX (W:World) (G off L cap:Nat) (v:Value) (xs Z:LI) (k:Nat) (hk:xs.length=k) (hN:Blk W G 5 (bl Z)) (hb:Bs .u8 W v xs) (hl:k<=L) (hf:off+k<=Z.length) :
 ∃w3,(Builtin.copy_ #[23,23] 3 #[.slice (some ⟨G,off,none⟩) L cap,v]).run prog W=.ok (.int .i64 (k:Int)) w3∧Blk w3 G 5 (bl (Z.take off++xs++Z.drop (off+k)))∧Only (λk=>k=G) W w3:=by
 subst hk;have hb0:=hb;obtain⟨ao,vc,rfl,hc,hr⟩:=hb
 by_cases h0:xs=[]
 ·subst h0
  refine⟨W,run_copy_none (P:=prog) W 23 23 3 5 _ _ L cap 0 vc underlying23 Tryz.one5 (Nat.zero_min _),?_,Only.refl _ _⟩
  simpa using hN
 ·obtain⟨b,o,rfl,h3⟩:=hr h0
  have h2:(bl xs).length=xs.length:=Qs _
  have h1:=run_copy_row (P:=prog) W 23 23 3 5 G off L cap ⟨b,o,none⟩ xs.length vc (bl Z).toArray 5 (bl xs) underlying23 Tryz.one5 hN
   (by rw[h2];exact (Nat.min_eq_left hl).symm) (λj u hu=>hb0.news j u hu) (by rw[h2];simp[Qs];omega) (Us _)
  rw[show goInt ((bl xs).length:Int)=.int .i64 (xs.length:Int) by rw[h2];rfl] at h1;refine⟨_,h1,?_,(Only.refl (λk=>k=G) W).setRow (λ_=>rfl) _⟩
  have e:bl (Z.take off++xs++Z.drop (off+xs.length))=(bl Z).toArray.toList.take off++bl xs++(bl Z).toArray.toList.drop (off+(bl xs).length):=by
   show _=List.take off (bl Z)++bl xs++List.drop (off+(bl xs).length) (bl Z)
   rw[h2];unfold bl;rw[List.map_append,List.map_append,List.map_take,List.map_drop]
  rw[e];exact hN.row _
theorem Of (b:LI) (h:b.length<=4194300) (F:LI) (hF:F.length=4) (n:Nat) (hn:n=Uc b.length) :
 (((List.replicate n (0:Int)).take 0++F++(List.replicate n (0:Int)).drop (0+4)).take 4++b++((List.replicate n (0:Int)).take 0++F++(List.replicate n (0:Int)).drop (0+4)).drop (4+b.length))=F++b++List.replicate (Uc b.length - 4 - b.length) 0:=by
 have hg:=J3 b.length h;rw[List.take_zero,List.nil_append,Nat.zero_add,List.drop_replicate,List.take_left' hF,<-List.drop_drop,List.drop_left' hF,List.drop_replicate,hn]
theorem qs {n:Nat} (h:n<=4194300):Wd n=(QV n:Int)∧YI n=0 :=
 ⟨if_pos (by omega),by unfold YI;rw[if_neg (by omega),if_neg (by omega)]⟩
theorem Tk (n:Nat):QO (QV n:Int)=(Uc n:Int):=by
 have:=Rt n;unfold QO Uc;rw[if_pos (by omega)];rfl
theorem Mq (v:Value) (b:LI) (w:World) (h:Bs .u8 w v b) (hl:4194300<b.length) :
 Calls prog 117 #[v] w λe w'=>e=.returned (.tuple #[.slice none 0 0,.int .i64 4])∧N0 w w':=by
 obtain⟨ao,cap,rfl⟩:=h.len
 have e1:YI (b.length:Int)=4:=by unfold YI;rw[if_neg (by omega),if_pos (by omega)]
 have A:=Qa (Xw (b.length:Int) w);rw[e1] at A;generalize Wd (b.length:Int)=q at A;generalize b.length=n at A;clear h hl e1;go_enter func117,ntmps117;go_wp2_with fail;refine A.o.mono ?_;rintro e w1 ⟨rfl,o1⟩;have O1:=Qa o1;clear o1;go_wp2;go_ret2;exact⟨rfl,O1.o⟩
theorem Sm (v:Value) (b:LI) (w:World) (h:Bs .u8 w v b) (hl:b.length<=4194300) :
 Calls prog 117 #[v] w λe w'=>∃r,e=.returned (.tuple #[r,.int .i64 0])∧w'.ownsRow w.heap.size 5 1 r (PADL b).length (bl (PADL b))∧N0 w w':=by
 have HB:=Qa h;obtain⟨ao,cap,rfl⟩:=h.len;obtain⟨e1,e2⟩:=qs hl;have A:=Qa (Xw (b.length:Int) w);rw[e1,e2] at A;have e3:=Tk b.length;obtain⟨n,hn⟩:=EX (Uc b.length);rw[<-hn] at e3;have h9:=J3 b.length hl;have hn2:=JU b.length;have hn3:=kP b.length;rw[<-hn] at h9 hn2 hn3;obtain⟨m,hm⟩:=EX b.length;rw[<-hm] at A e3 HB h9;have E3:=Qa e3;have HN:=Qa hn;have HM:=Qa hm;have HL:=Qa hl;rw[<-hm];generalize QV m=q at A E3;clear h hl e1 e2 e3 hn hm;go_enter func117,ntmps117;go_wp2_with fail;refine A.o.mono ?_;rintro e w1 ⟨rfl,o1⟩;have O1:=Qa o1;have B:=Qa (Zu (q:Int) w1);rw[E3.o] at B;clear o1 A E3;go_wp2_with fail;refine B.o.mono ?_;rintro e w2 ⟨rfl,o2⟩;obtain⟨wm,hmk,h5,om⟩:=wI w2 n (by omega);have C:=Qa (Ux (m:Int) 4 wm (by omega));have O2:=Qa (O1.o.same o2);have h6:=Qa (And.intro h5 om);clear B o2 O1 h5 om;go_wp2_with fail;refine C.o.mono ?_;rintro e w3 ⟨u,rfl,h0,o3⟩;obtain⟨F,hF⟩:=EX (fixL (m:Int) 4);rw[<-hF] at h0
 have h7:F.length=4:=by rw[hF,QD]
 have b3:Bs .u8 w3 u F:=Bs.of_own h0;obtain⟨ua,uc,eu,_⟩:=b3.formN h7;subst eu;have k3:Blk w3 w2.heap.size 5 (bl (List.replicate n 0)):=h6.o.1.keep o3 (λf=>f);obtain⟨w4,hcp4,k4,o4⟩:=LX w3 w2.heap.size 0 n n (.slice ua 4 uc) F (List.replicate n 0) 4 h7 k3 b3 (by omega) (by rw[List.length_replicate];omega)
 have h4:∀k,(Value.slice ao m cap).ownBlock=some k->b≠[]->k≠w2.heap.size:=λk hk hne e=>by
  have h1:=HB.o.blk_lt hne k hk;have h2:=O2.o.size;omega
 have b4:Bs .u8 w4 (.slice ao m cap) b:=by
  have h3:=HB.o.past ((O2.o.same h6.o.2).same o3)
  by_cases hne:b=[]
  ·subst hne
   obtain⟨ao',h8,e,hc,_⟩:=h3;exact⟨ao',h8,e,hc,λh=>absurd rfl h⟩
  ·exact h3.keep o4 (λk hk e=>h4 k hk hne e)
 obtain⟨w5,hcp5,k5,o5⟩:=LX w4 w2.heap.size 4 (n - 4) (n - 4) (.slice ao m cap) b _ m HM.o.symm k4 b4 (by omega) (by
  rw[List.take_zero,List.nil_append,Qc,Qo,List.length_replicate,h7];omega)
 rw[HM.o,Of b HL.o F h7 n HN.o,hF,HM.o] at k5
 have FIN:Hid (w5.ownsRow w.heap.size 5 1 (.slice (some ⟨w2.heap.size,0,none⟩) n n) (PADL b).length (bl (PADL b))∧N0 w w5):=by
  have hP:(PADL b).length=n:=by rw[Gb b HL.o,HN.o]
  refine⟨?_,?_⟩
  ·rw[hP]
   refine Hi ?_ O2.o.size (by simp only[maxLen];omega) (by rw[Qs,hP]);exact k5
  ·have oo:=(O2.o.same h6.o.2).same o3
   have h2:=O2.o.size;exact (oo.trans o4 (λk hk e=>by omega)).trans o5 (λk hk e=>by omega)
 have hc4:¬n=4:=by omega
 have i4:(4:Int)<=(n:Int):=by omega
 clear h0 o3 b3 k3 k4 o4 b4 k5 o5 C h6 h4 hF;go_wp2;go_ret2;exact⟨_,rfl,FIN.o⟩
theorem BI (v:Value) (b:LI) (w:World) (h:Bs .u8 w v b) :
 Calls prog 117 #[v] w λe w'=>∃r,e=.returned (.tuple #[r,.int .i64 (Uo b)])∧w'.ownsRow w.heap.size 5 1 r (KV b).length (bl (KV b))∧N0 w w':=by
 by_cases hl:b.length<=4194300
 ·have e1:KV b=PADL b:=if_pos hl
  have e2:Uo b=0:=if_pos hl;rw[e1,e2];exact Sm v b w h hl
 ·have e1:KV b=[]:=if_neg hl
  have e2:Uo b=4:=if_neg hl;rw[e1,e2];refine (Mq v b w h (by omega)).mono ?_;rintro e w' ⟨rfl,o⟩;exact⟨_,rfl,World.ownsRow_nil _ _ _ _,o⟩
end Go.Proofs.YtoflhbghdlaeaaaGreatDoor
