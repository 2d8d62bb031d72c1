import Derived.Test.YtoflhbghdlaeaaaGreatDoorG31
import Derived.Lib.TrailingZeros
namespace Go.Proofs.YtoflhbghdlaeaaaGreatDoor
set_option maxHeartbeats 4000000
set_option maxRecDepth 100000
open Go.RowKit _root_.Go.Proofs.Tryz
variable {w w' W:World} {v:Value} {ys xs l:LI} {R n p k g B:Nat} {P:Program} {ls:List (LI)} {E:TypeId}
theorem vM (v:Value) (l:LI) (tag:Int) (w:World) (h:Bs .i64 w v l) (hg:I64s l) :
 Calls prog 187 #[v,.int .i64 tag] w λe w'=>∃u,e=.returned (.tuple #[u,.int .i64 (WAY8 l tag).2])∧w'.ownsRow w.heap.size 5 1 u (WAY8 l tag).1.length ((WAY8 l tag).1.map (Value.int .u8))∧N0 w w':=by
 unfold WAY8
 by_cases ht:tag<0∨4<tag
 ·rw[if_pos ht]
  refine (MI v tag w ht).mono ?_;rintro e w' ⟨rfl,rfl⟩;exact⟨_,rfl,World.ownsRow_nil _ _ _ _,Only.refl _ _⟩
 ·rw[if_neg ht]
  obtain⟨t,rfl⟩:=Int.eq_ofNat_of_zero_le (show 0<=tag by omega)
  by_cases hl:65536<l.length
  ·rw[if_pos hl]
   refine (Tl v l t w h hl (by omega)).mono ?_;rintro e w' ⟨rfl,rfl⟩;exact⟨_,rfl,World.ownsRow_nil _ _ _ _,Only.refl _ _⟩
  ·rw[if_neg hl,Int.toNat_natCast]
   by_cases hne:l=[]
   ·subst hne
    rw[D7];refine (yG v t w h (by omega)).mono ?_;rintro e w' ⟨rfl,rfl⟩;exact⟨_,rfl,World.ownsRow_nil _ _ _ _,Only.refl _ _⟩
   ·have hp:0<l.length:=List.length_pos_iff.2 hne
    by_cases h0:t=0
    ·subst h0
     rw[Ww];exact yA v l w h (by omega) hp
    ·exact AU v l t w h hg (by omega) hp (by omega) (by omega)
theorem PD (v:Value) (l:LI) (t:Nat) (w:World) (h:Bs .i64 w v l) (hg:I64s l) (hl:l.length<=65536) (ht:t<=4) :
 Calls prog 187 #[v,.int .i64 t] w λe w'=>∃u,e=.returned (.tuple #[u,.int .i64 (QF l t).2])∧w'.ownsRow w.heap.size 5 1 u (QF l t).1.length ((QF l t).1.map (Value.int .u8))∧N0 w w':=by
 have:=vM v l t w h hg;rw[IR hl t ht] at this;exact this
theorem OD (l:LI) (t:Nat):(pick l t).2.length<=8*l.length:=by
 have h:=(Vf l t).2.2 0 (by omega) (by rw[Ww]);rw[Ww] at h;simp only[Jb] at h;exact h
theorem yd (v:Value) (l:LI) (w:World) (h:Bs .i64 w v l) (hl:65536<l.length) :
 Calls prog 156 #[v] w λe w'=>e=.returned (.tuple #[.slice none 0 0,.int .i64 4])∧w=w':=by
 have A:=Qa (Tl v l 0 w h hl (by omega));obtain⟨ao,cap,rfl⟩:=h.len;clear h hl;go_enter func156,ntmps156;go_wp2_with fail;refine A.o.mono ?_;rintro e w1 ⟨rfl,rfl⟩;go_wp2
 try rw[Exit.noGoto_ret]
 go_ret2;exact⟨rfl,rfl⟩
theorem Cb (v:Value) (l:LI) (w:World) (h:Bs .i64 w v l) (hg:I64s l) (hl:l.length<=65536) :
 Calls prog 156 #[v] w λe w'=>∃u,e=.returned (.tuple #[u,.int .i64 0])∧w'.ownsRow w.heap.size 5 1 u (((pick l 4).1:Int) :: (pick l 4).2).length ((((pick l 4).1:Int) :: (pick l 4).2).map (Value.int .u8))∧N0 w w':=by
 have A:=PD v l 0 w h hg hl (by omega);rw[Ww] at A;have A:=Qa A
 have WY:Hid (∀(t:Nat) (w1:World),t<=4->N0 w w1->Calls prog 187 #[v,.int .i64 t] w1 λe w'=>∃u,e=.returned (.tuple #[u,.int .i64 (QF l t).2])∧w'.ownsRow w1.heap.size 5 1 u (QF l t).1.length ((QF l t).1.map (Value.int .u8))∧N0 w1 w') :=
  λt w1 ht o=>PD v l t w1 (h.past o) hg hl ht
 have HP:Hid (∀t,(pick l t).1<=t∧(pick l t).2.length<=8*l.length):=λt=>⟨(Vf l t).1,OD l t⟩
 have h9:Hid (∀t,pick l (t+1)=if (QF l (t+1)).2=0∧(QF l (t+1)).1.length<(pick l t).2.length then (t+1,(QF l (t+1)).1) else pick l t):=λt=>rfl
 have he:Hid (pick l 0=(0,fx l)):=by simp only[Hid];rw[pick,Ww]
 obtain⟨pp,ha⟩:=EX (((pick l 4).1:Int) :: (pick l 4).2);rw[<-ha];have hf:=Qa ha;clear ha;obtain⟨ao,cap,rfl⟩:=h.len;clear h hg;go_enter func156,ntmps156;go_wp2_with fail;refine A.o.mono ?_;rintro e w1 ⟨v1,rfl,h4,o1⟩;clear A;have h2:=Qa (And.intro h4 o1);obtain⟨f1,c1,e1⟩:=(Bs.of_own h4).len;subst e1;generalize hF:fx l=F0 at *;clear h4 o1;go_wp2
 go_loopw [4,5,7] (λs4 s5 s7 wr=>∃t:Nat,t<=4∧s7=.int .i64 ((t:Int)+1)∧s4=.int .i64 ((pick l t).1:Nat)∧wr.ownsRow w.heap.size 5 1 s5 (pick l t).2.length ((pick l t).2.map (Value.int .u8))∧N0 w wr) (λ_ _ s7 _=>5 - (intOf s7).toNat)
 case atStart =>
  have e:=he.o;refine⟨0,by omega,rfl,by rw[e];rfl,?_,h2.o.2⟩;rw[e];exact h2.o.1
 case round =>
  obtain⟨t,ht,rfl,rfl,h3,hk⟩:=hrel;have h0:=Qa h3;have h8:=Qa hk;obtain⟨f2,c2,e2⟩:=(Bs.of_own h3).len;subst e2;clear h2 h3 hk;have hj:=(HP.o t).1;have hb:=Qa (HP.o t).2;have h1:=Qa (h9.o t)
  by_cases hlt:t<4
  ·have dlt:decide ((t:Int)+1<5)=true:=Qe (by omega)
   have WT:=WY.o (t+1) wr (by omega) h8.o;rw[Int.natCast_succ] at WT;have WT:=Qa WT;generalize QF l (t+1)=W at *;obtain⟨W1,c⟩:=W;simp only at WT h1;obtain⟨pn,hd⟩:=EX (pick l (t+1));rw[<-hd] at h1;have h7:=Qa hd;generalize pick l t=p at *;obtain⟨p1,p2⟩:=p;simp only at h0 h1 hj hb;clear hd WY h9 HP he;go_wp2_with fail;refine WT.o.mono ?_;rintro e w3 ⟨v3,rfl,h5,o3⟩;clear WT;have OW3:=Qa (Qu h5 h8.o.size);have hm:=Qa (o3.own h0.o (λ_ _ f=>f));have O3:=Qa (h8.o.same o3);obtain⟨f3,c3,e3⟩:=(Bs.of_own h5).len;subst e3;clear h5 o3
   by_cases hc:c=0
   ·subst hc
    by_cases hlen:W1.length<p2.length
    ·have dl:decide ((W1.length:Int)<(p2.length:Int))=true:=Qe (by omega)
     rw[if_pos ⟨rfl,hlen⟩] at h1;generalize hn1:W1.length=n1 at *;generalize hn2:p2.length=n2 at *;go_wp2
     go_roundw
     case rel =>
      refine⟨t+1,by omega,by simp,?_,?_,O3.o⟩
      ·rw[<-h7.o,h1.o];simp
      ·rw[<-h7.o,h1.o]
       simp only[hn1];exact OW3.o
     case measure=>simp[intOf];omega
    ·have dl:decide ((W1.length:Int)<(p2.length:Int))=false:=Qb (by omega)
     rw[if_neg (λhh=>hlen hh.2)] at h1;generalize hn1:W1.length=n1 at *;generalize hn2:p2.length=n2 at *;go_wp2
     go_roundw
     case rel =>
      refine⟨t+1,by omega,by simp,?_,?_,O3.o⟩
      ·rw[<-h7.o,h1.o]
      ·rw[<-h7.o,h1.o]
       simp only[hn2];exact hm.o
     case measure=>simp[intOf];omega
   ·have dc:(c == 0)=false:=by rw[beq_eq_false_iff_ne];exact hc
    rw[if_neg (λhh=>hc hh.1)] at h1;generalize hn2:p2.length=n2 at *;go_wp2
    go_roundw
    case rel =>
     refine⟨t+1,by omega,by simp,?_,?_,O3.o⟩
     ·rw[<-h7.o,h1.o]
     ·rw[<-h7.o,h1.o]
      simp only[hn2];exact hm.o
    case measure=>simp[intOf];omega
  ·obtain rfl:t=4:=by omega
   clear h1 h9 HP he WY;generalize pick l 4=p at *;obtain⟨p1,p2⟩:=p;simp only at h0 hj hb hf
   have hn:(p1:Int)<256:=by omega
   have oA:N0 wr (wr.alloc (.cells #[.int .u8 p1] 5)):=(Only.refl _ _).alloc _;have oB:N0 wr ((wr.alloc (.cells #[.int .u8 p1] 5)).alloc (.cells #[.slice (some ⟨wr.heap.size,0,none⟩) 1 1,.slice f2 p2.length c2] 23)):=oA.alloc _;have b1:Bs .u8 (wr.alloc (.cells #[.int .u8 p1] 5)) (.slice (some ⟨wr.heap.size,0,none⟩) 1 1) [(p1:Int)]:=Bs.litN .u8 wr 5 [(p1:Int)] _ _ rfl rfl;have CC:=Qa (WJ (wr.heap.size+1) (.slice (some ⟨wr.heap.size,0,none⟩) 1 1) (.slice f2 p2.length c2) [(p1:Int)] p2 ((wr.alloc (.cells #[.int .u8 p1] 5)).alloc (.cells #[.slice (some ⟨wr.heap.size,0,none⟩) 1 1,.slice f2 p2.length c2] 23)) (by go_cell) (by go_cell) (b1.later ((Below.refl _ _).alloc (Nat.le_refl _) _)) ((Bs.of_own h0.o).past oB) (NoCap.some _ _ _) (NoCap.of_own h0.o) (by simp;omega) (by have:=hb.o;simp;omega));rw[List.singleton_append] at CC;have O4:=Qa (h8.o.same oB);rw[<-hf.o] at CC;clear oA oB b1 h0 h8 hf;generalize p2.length=n2 at *;go_wp2_with fail;refine CC.o.mono ?_;rintro e w5 ⟨v5,rfl,h6,o5⟩;clear CC;have F:=Qa (And.intro (Qu h6 O4.o.size) (O4.o.same o5));obtain⟨f5,c5,e5⟩:=(Bs.of_own h6).len;subst e5;clear h6 o5;go_wp2
   try rw[Exit.noGoto_ret]
   go_ret2;exact⟨_,rfl,F.o.1,F.o.2⟩
theorem qz (v:Value) (l:LI) (w:World) (h:Bs .i64 w v l) (hg:I64s l) :
 Calls prog 156 #[v] w λe w'=>∃u,e=.returned (.tuple #[u,.int .i64 (ENC8 l).2])∧w'.ownsRow w.heap.size 5 1 u (ENC8 l).1.length ((ENC8 l).1.map (Value.int .u8))∧N0 w w':=by
 unfold ENC8
 by_cases hl:65536<l.length
 ·rw[if_pos hl]
  refine (yd v l w h hl).mono ?_;rintro e w' ⟨rfl,rfl⟩;exact⟨_,rfl,World.ownsRow_nil _ _ _ _,Only.refl _ _⟩
 ·rw[if_neg hl]
  exact Cb v l w h hg (by omega)
section
open Go.Maps
def YT:Nat->DataW Unit->LI->DataW Unit
 | _,m,[]=>m
 | i,m,x :: t=>YT (i+1) (m.put (.int .u64 x) (.lit (.int .i64 (i:Int)))) t
def DM (d:LI):DataW Unit:=YT 0 (.map []) d
theorem kN (t:LI) (x:Int):∀(i:Nat) (m:DataW Unit),YT i m (t++[x])=(YT i m t).put (.int .u64 x) (.lit (.int .i64 ((i+t.length:Nat):Int))):=by
 induction t with
 | nil=>intro i m;simp[YT]
 | cons y t ih =>
  intro i m;rw[List.cons_append,YT,ih,YT,Qi,show i+1+t.length=i+(t.length+1) by omega]
theorem Cs (d:LI) (x:Int):DM (d++[x])=(DM d).put (.int .u64 x) (.lit (.int .i64 (d.length:Int))):=by
 unfold DM;rw[kN,Nat.zero_add]
theorem Ra {x y:Int} (h:x≠y):(Lit.int .u64 x)≠(Lit.int .u64 y):=by
 intro e;simp at e;exact h e
theorem ET (x:Int) (hk:∀y:Int,WideAt.IsKeyLit (Lit.int .u64 y)) (t:LI):∀(i:Nat) (m:DataW Unit),IsMap m->Maps.has (YT i m t) (.int .u64 x)=(Maps.has m (.int .u64 x) || decide (x∈t)):=by
 induction t with
 | nil=>intro i m _;simp[YT]
 | cons y t ih =>
  intro i m hm;rw[YT,ih _ _ (hm.put _ _)]
  by_cases e:x=y
  ·subst e
   rw[has_put_same hm (hk x)];simp
  ·rw[has_put_other (Ra e)]
   simp[e]
theorem BR (x:Int) (t:LI):∀(i:Nat) (m z:DataW Unit),x ∉ t->(YT i m t).atKey (.int .u64 x) z=m.atKey (.int .u64 x) z:=by
 induction t with
 | nil=>intro i m z _;rfl
 | cons y t ih =>
  intro i m z h;rw[YT,ih _ _ _ (λe=>h (List.mem_cons_of_mem _ e)),atKey_put_other (Ra (λe=>h (by rw[e];exact List.mem_cons_self)))]
theorem Aw (x:Int) (hk:∀y:Int,WideAt.IsKeyLit (Lit.int .u64 y)) (t:LI):∀(i:Nat) (m z:DataW Unit),IsMap m->t.Nodup->x∈t->(YT i m t).atKey (.int .u64 x) z=.lit (.int .i64 ((i+plc t x:Nat):Int)):=by
 induction t with
 | nil=>intro i m z _ _ h;simp at h
 | cons y t ih =>
  intro i m z hm hd h;obtain⟨h1,h2⟩:=List.nodup_cons.1 hd;rw[YT]
  by_cases e:y=x
  ·subst e
   rw[BR y t _ _ _ h1,atKey_put_same hm (hk y)];simp[plc]
  ·have hx:x∈t:=by
    rcases List.mem_cons.1 h with e2 | e2
    ·exact absurd e2.symm e
    ·exact e2
   rw[ih _ _ _ (hm.put _ _) h2 hx]
   have e3:plc (y :: t) x=plc t x+1:=by
    unfold plc;rw[List.idxOf_cons]
    have:(y == x)=false:=by rw[beq_eq_false_iff_ne];exact e
    rw[this];rfl
   rw[e3,show i+1+plc t x=i+(plc t x+1) by omega]
theorem Hc (y:Int):WideAt.IsKeyLit (Lit.int .u64 y):=by simp[WideAt.IsKeyLit]
theorem Cr (d:LI) (x:Int):Maps.has (DM d) (.int .u64 x)=decide (x∈d):=by
 unfold DM;rw[ET x Hc d 0 _ isMap_empty];simp[has_eq]
theorem DM_at {d:LI} (hd:d.Nodup) {x:Int} (hx:x∈d) (z:DataW Unit):(DM d).atKey (.int .u64 x) z=.lit (.int .i64 (plc d x:Int)):=by
 unfold DM;rw[Aw x Hc d 0 _ z isMap_empty hd hx,Nat.zero_add]
end
section
open Go.Maps
theorem qe (k:Nat) (w:World) (h:k<=65536) :
 Calls prog 269 #[.int .i64 k] w λe w'=>e=.returned (.int .i64 (wP k))∧w=w':=by
 by_cases h0:k=0
 ·subst h0
  go_enter func269,ntmps269;go_wp2;go_ret;exact⟨rfl,rfl⟩
 ·obtain⟨j,rfl⟩:∃j,k=j+1:=⟨k - 1,by omega⟩
  have WA:=Qa (VI ((j:Nat):Int) w (by omega) (by omega))
  have e1:wP (j+1)=wid j:=by unfold wP;rw[if_neg (by omega)];rfl
  rw[e1]
  have d0:(((j+1:Nat):Int) == 0)=false:=by rw[beq_eq_false_iff_ne];omega
  have e2:((j+1:Nat):Int) - 1=(j:Int):=by omega
  obtain⟨K,hK⟩:∃K:Int,K=((j+1:Nat):Int):=⟨_,rfl⟩;rw[<-hK] at d0 e2 ⊢
  have k1:K<=65536:=by omega
  have k0:1<=K:=by omega
  clear hK h0 e1 h;go_enter func269,ntmps269;go_wp2_with fail;refine WA.o.mono ?_;rintro e w' ⟨rfl,rfl⟩;clear WA;go_wp2;go_ret;exact⟨rfl,rfl⟩
theorem law35:Keyed prog 24:=int_keyed underlying24
theorem zero3 (w:World):(zeroValue 3).run prog w=.ok (.int .i64 0) w:=by kernel_rfl
theorem Lk {y:Int} (h0:0<=y) (h1:y<=18446744073709551615):(Lit.int .u64 y).wf=true:=by
 have e1:IntKind.u64.min=0:=by decide
 have e2:IntKind.u64.max=18446744073709551615:=by decide
 simp only[Lit.wf,e1,e2,Bool.and_eq_true,decide_eq_true_eq];omega
structure Fs (w wr:World) (vd:Value) (l:LI) (k:Nat):Prop where
 map:wr.ownsMap prog 24 (plainElem (H:=Unit) prog 3) w.heap.size k (DM (dic l))
 row:wr.ownsRow (w.heap.size+1) 24 1 vd (dic l).length ((dic l).map (Value.int .u64))
 be:Below w.heap.size w wr
theorem RF (h:k<l.length):l.getD k 0∈l:=by
 rw[Qd,Qg h];exact List.getElem_mem h
theorem un (l:LI) (k:Nat) (h:k<l.length):l.take (k+1)=l.take k++[l.getD k 0]:=UU l k h
theorem ML {y:Nat} (h:y<=65536):(Lit.int .i64 (y:Int)).wf=true:=by
 have e1:IntKind.i64.min=-9223372036854775808:=by decide
 have e2:IntKind.i64.max=9223372036854775807:=by decide
 simp only[Lit.wf,e1,e2,Bool.and_eq_true,decide_eq_true_eq];omega
theorem GX {lo:Nat} {size:Nat} {xs:List Value} (h:w.ownsRow lo E size v n xs) {b:Nat} (hb:b<lo):some b≠v.ownBlock:=by
 intro e;have:=(h.lt b e.symm).1;omega
theorem CY (v:Value) (xs:LI) (w:World) (h:Bs .u64 w v xs) (hu:U64 xs) (hl:xs.length<=65536) :
 Calls prog 268 #[v] w λe w'=>∃vd,e=.returned (.tuple #[vd,.map (some w.heap.size)])∧Fs w w' vd xs xs.length:=by
 have hmm:=@run_makeMap prog;obtain⟨i0,hi,hz0,hz1,hz2⟩:=info_parts Tryz.infoU64;obtain⟨ao,cap,rfl⟩:=h.len;have HB:=Qa h;have HU:=Qa hu;obtain⟨m,hm⟩:=EX xs.length;rw[<-hm] at HB hl;rw[<-hm];have HM:=Qa hm
 have F0:Hid (Fs w (w.alloc (.map #[] 0)) (.slice none 0 0) (xs.take 0) 0) :=
  ⟨World.ownsMap_made _ _ _ _,World.ownsRow_nil _ _ _ _,(Below.refl _ _).alloc (Nat.le_refl _) _⟩
 clear h hm hu;go_enter func268,ntmps268;go_wp2
 go_loopw [2,11] (λvd i wr=>∃k:Nat,k<=m∧i=.int .i64 k∧Fs w wr vd (xs.take k) k) (λ_ i _=>m - (intOf i).toNat)
 case atStart=>exact⟨0,Nat.zero_le _,rfl,F0.o⟩
 case round =>
  clear F0;obtain⟨k,hk,rfl,hf⟩:=hrel
  by_cases hlt:k<m
  ·obtain⟨b,off,cap',e,hc⟩:=HB.o.at k (by rw[<-HM.o];exact hlt)
   simp only[Value.slice.injEq] at e;obtain⟨rfl,hmx,rfl⟩:=e;clear hmx;have hc1:=(hf.be.cell (p:=⟨b,off+k,none⟩) (World.block_lt_of_cell? w _ hc)).trans hc;obtain⟨y0,y1⟩:=HU.o _ (RF (l:=xs) (k:=k) (by rw[<-HM.o];exact hlt));have HT:=Qa (un xs k (by rw[<-HM.o];exact hlt));generalize xs.getD k 0=y at *;have h2:keyOf prog 24 (.int .u64 y)=some (.int .u64 y):=keyOf_int_mk underlying24 (Lk y0 y1);have h4:=Zh (xs.take k);rw[Qf] at h4;have h1:=hf.map;have h0:=hf.row;have BE:=Qa hf.be;have DS:=Qa (qq (xs.take k) y);rw[<-HT.o] at DS;have DH:=Cr (dic (xs.take k)) y;have DN:=Qa (Cs (dic (xs.take k)) y);obtain⟨d,hd⟩:=EX (dic (xs.take k));have HD:=Qa hd;rw[<-hd] at h1 h0 h4 DS DH DN;obtain⟨n,hn⟩:=EX d.length;rw[<-hn] at h0 h4 DN
   obtain⟨a6,c6,e6⟩:∃a6 c6,u2=.slice a6 n c6:=by
    have:=(Bs.of_own (by rw[<-hn];exact h0):Bs .u64 wr u2 d).len;rw[<-hn] at this;exact this
   subst e6;have HN:=Qa hn
   have i1:(k:Int)<(m:Int):=by omega
   clear hc hd hn hf HB
   by_cases hin:y∈d
   ·rw[Qe hin] at DH
    have h3:=Qa (DS.o.trans (if_pos hin));have HX:=Qa h1;have HY:=Qa h0;clear DS hin h0
    go_wp2_with (first
     | (at_lookup;refine wpList_lookup_own_ok_int _ rfl _ _ 299 rfl 24 3 .i64 law35 underlying299 underlying3 (zero3 _) w.heap.size k _ rfl h1 _ _ rfl h2 ?_;intro c hat hwc;rw[DH];clear hat hwc)
     | fail)
    go_roundw
    case rel =>
     refine⟨k+1,by omega,by go_num,?_,?_,BE.o⟩
     ·rw[h3.o];exact HX.o.mono (Nat.le_succ _)
     ·rw[h3.o,<-HN.o];exact HY.o
    case measure=>simp[intOf];omega
   ·rw[Qb hin] at DH
    have h3:=Qa (DS.o.trans (if_neg hin));have BL:=Qa (GX h0 (Nat.lt_succ_self w.heap.size));have SZ:=h1.lt;clear DS hin
    go_wp2_with (first
     | (at_lookup;refine wpList_lookup_own_ok_int _ rfl _ _ 299 rfl 24 3 .i64 law35 underlying299 underlying3 (zero3 _) w.heap.size k _ rfl h1 _ _ rfl h2 ?_;intro c hat hwc;rw[DH];clear hat hwc)
     | (at_mapUpdate;refine wpList_mapUpdate_own _ rfl _ _ _ 299 rfl 24 3 law35 underlying299 (plainElem (H:=Unit) prog 3) w.heap.size k _ rfl h1 (by unfold maxLen;omega) _ _ _ rfl rfl h2 _ [] (plainElem_int underlying3 (ML (y:=n) (by omega))) ?_;intro w1 hown1 hgrow1)
     | (at_builtin;refine wpList_append_own _ rfl _ _ 201 rfl (w.heap.size+1) 24 i0 (.int .u64 0) 1 8 underlying201 hi hz0 hz1 hz2 rfl (by decide) _ n _ rfl ((h0.kept hgrow1 (Or.inr BL.o.symm)).alloc _) ⟨w1.heap.size,0,none⟩ 1 1 [.int .u64 y] rfl rfl (cell_one_new _ _ _) (ints_oneCell .u64 [y]) (by unfold maxLen;omega) (by omega) (by have:=hgrow1.size;simp at this ⊢;omega) ?_;intro v' w2 hown' hgrow2 hnil2)
     | fail)
    have h5:=h0.kept hgrow1 (Or.inr BL.o.symm);have s1:=hgrow1.size;have s2:=hgrow2.size;have b0:=BE.o.size;simp at s1 s2
    go_roundw
    case rel =>
     refine⟨k+1,by omega,by go_num,?_,?_,?_⟩
     ·rw[h3.o,DN.o]
      exact (hown1.alloc _).kept hgrow2 (GX h5 (Nat.lt_succ_self _))
     ·rw[h3.o,Qc,List.map_append,<-HN.o]
      simpa using hown'
     ·exact (((BE.o.grown hgrow1 b0 (λj hj=>by cases hj;exact Nat.le_refl _)).alloc (by omega) _).grown hgrow2 (by simp;omega) (λj hj=>Nat.le_trans (Nat.le_succ _) (h5.lt j hj).1))
    case measure=>simp[intOf];omega
  ·obtain rfl:k=m:=by omega
   have e0:xs.take k=xs:=by rw[HM.o,List.take_length]
   rw[e0] at hf;have HF:=Qa hf;clear hf;go_wp2;go_ret2;exact⟨_,rfl,HF.o⟩
end
section
open Go.Maps
theorem qR {H:Type} {k:TypeId} {R:Value->Option (DataW H × List MemPlace)} {b n:Nat} {D:DataW H} (h:w.ownsMap P k R b n D) {S:Nat->Prop} (o:Only S w w') (hs:¬S b):w'.ownsMap P k R b n D:=by
 obtain⟨es,h0,hb,F,hz,hD⟩:=h;exact⟨es,h0,o.heap hb hs,F,hz,hD⟩
theorem PQ (d:LI) (k:Nat) (h:k<d.length):fx8 (d.take (k+1))=fx8 (d.take k)++fixL (d.getD k 0) 8:=by
 rw[UU d k h,vh]
theorem Oe (W:Nat) (f:Int->Nat) (xs:LI) (k:Nat) (h:k<xs.length):bitsP W ((xs.take (k+1)).map f)=bitsP W ((xs.take k).map f)++Qr (f (xs.getD k 0)) W:=by
 rw[UU xs k h,List.map_append,List.map_singleton,At]
theorem A9 (v:Value) (xs:LI) (w:World) (h:Bs .u64 w v xs) (hl:65536<xs.length) :
 Calls prog 241 #[v] w λe w'=>e=.returned (.tuple #[.slice none 0 0,.int .i64 4])∧w=w':=by
 obtain⟨ao,cap,rfl⟩:=h.len;clear h
 have d0:decide (65536<(xs.length:Int))=true:=by simp;omega
 generalize xs.length=m at *;clear hl;go_enter func241,ntmps241;go_wp2;go_ret2;exact⟨rfl,rfl⟩
theorem Fm (v:Value) (xs:LI) (w:World) (h:Bs .u64 w v xs) (hu:U64 xs) (hl:xs.length<=65536) (G:LI) (hG:G=gs (dic xs).length++(fx8 (dic xs)++QR (WZ (dic xs) xs))) :
 Calls prog 241 #[v] w λe w'=>∃v',e=.returned (.tuple #[v',.int .i64 0])∧w'.ownsRow w.heap.size 5 1 v' G.length (G.map (Value.int .u8))∧N0 w w':=by
 obtain⟨i0,hi,k1,k9,k4⟩:=info_parts Tryz.infoU8;obtain⟨ao,cap,rfl⟩:=h.len;have HB:=Qa h;have HU:=Qa hu;have HG:=Qa hG;have FI:=Qa (CY _ xs w h hu hl);obtain⟨m,hm⟩:=EX xs.length;rw[<-hm] at HB hl FI;rw[<-hm];have HM:=Qa hm;have k2:=Zh xs;have HDN:=Qa (Fr xs);have HDU:=Qa (Ax hu)
 have k6:Hid (∀x∈xs,x∈dic xs):=λx hx=>(No xs x).2 hx
 rw[<-hm] at k2
 have d0:decide (65536<(m:Int))=false:=by simp;omega
 clear h hm hu hG;go_enter func241,ntmps241;go_wp2_with fail;refine FI.o.mono ?_;rintro e w1 ⟨vd,rfl,hf⟩;have FM:=Qa hf.map;have FR:=Qa hf.row;have FB:=Qa (Uw hf.be);clear hf FI;generalize dic xs=d at *;obtain⟨n,hn⟩:=EX d.length;obtain⟨a6,c6,e6⟩:=(Bs.of_own FR.o).len;subst e6;rw[<-hn] at k2 FR HG ⊢;have HN:=Qa hn;have VD:=Qa (Bs.of_own (k:=.u64) (xs:=d) (by rw[<-HN.o];exact FR.o));have AP:=Qa (Um (.slice none 0 0) [] (n:Int) w1 (Bs.nil _ _) NoCap.nil (by simp) (by omega) (by omega));rw[List.nil_append,Int.toNat_natCast] at AP;clear hn;go_wp2_with fail;refine AP.o.mono ?_;rintro e w2 ⟨vo,rfl,hd,o2⟩
 have L0:Hid (w2.ownsRow w1.heap.size 5 1 vo (gs n++fx8 (d.take 0)).length ((gs n++fx8 (d.take 0)).map (Value.int .u8))):=by
  simp only[Hid,List.take_zero];rw[show fx8 []=[] from rfl,List.append_nil];exact hd
 have O2:=Qa o2;have GL:Hid ((gs n).length<=10):=Q6 (by omega);clear hd o2 AP;go_wp2
 go_loopw [6,27] (λs i wr=>∃k:Nat,k<=n∧i=.int .i64 k∧wr.ownsRow w1.heap.size 5 1 s (gs n++fx8 (d.take k)).length ((gs n++fx8 (d.take k)).map (Value.int .u8))∧N0 w1 wr) (λ_ i _=>n - (intOf i).toNat)
 case atStart=>exact⟨0,Nat.zero_le _,rfl,L0.o,O2.o⟩
 case round =>
  clear L0 O2;obtain⟨k,hk,rfl,h7,h0⟩:=hrel;obtain⟨w3,hw3⟩:=EX wr;subst hw3;have h2:=Qa h7;have h8:=Qa h0
  by_cases hlt:k<n
  ·have hp:decide ((k:Int)<(n:Int))=true:=by simp;omega
   obtain⟨b,off,hq,e1,hc0⟩:=(VD.o.past h0).at k (by rw[<-HN.o];exact hlt)
   have ea:a6=some ⟨b,off,none⟩:=by simp at e1;exact e1.1
   subst ea;clear e1;have hh:=Qa (PQ d k (by rw[<-HN.o];exact hlt))
   have h9:Hid ((gs n++fx8 (d.take k)).length<=10+8*n):=by
    simp only[Hid];have:=GL.o;rw[Qc,Kz,Qf];omega
   obtain⟨f1,hz⟩:=EX (gs n++fx8 (d.take (k+1)));have HF1:=Qa hz;obtain⟨f0,hv⟩:=EX (gs n++fx8 (d.take k))
   have HS2:Hid (f1=f0++fixL (d.getD k 0) 8):=by
    simp only[Hid];rw[hz,hv,hh.o,List.append_assoc]
   rw[<-hv] at h9 h2;clear hz hv hh h7 h0;generalize d.getD k 0=x at *;go_wp2_with fail;refine (Ux _ 8 w3 (by omega)).mono ?_;rintro e w4 ⟨u,rfl,h3,o4⟩;have ow:=o4.own h2.o (λ_ _ f=>f);have hy:=Bs.of_own h3;have k8:=Qa (NoCap.of_own h3);have k5:=Qa hy;have hs4:w1.heap.size<=w4.heap.size:=Nat.le_trans h8.o.size o4.size;have O4:=Qa (h8.o.same o4);obtain⟨a4,c4,e4⟩:=hy.len;subst e4;clear o4 h3 h8 h2 hy;rw[QD] at k5 k8;go_wp2_with (at_builtin;refine Yh _ rfl _ _ _ rfl w1.heap.size 5 i0 (.int .u8 0) 1 underlying23 hi k1 k9 k4 rfl _ _ _ rfl ow .u8 _ (fixL x 8) rfl k5.o k8.o ?c3 ?c4 hs4 ?_)
   case c3=>have:=h9.o;rw[QD];unfold maxLen;omega
   case c4=>have:=h9.o;rw[QD];omega
   intro v6 w6 own6 hgrow6 _ _
   have h6:Hid (w6.ownsRow w1.heap.size 5 1 v6 f1.length (f1.map (Value.int .u8))):=by
    simp only[Hid];rw[HS2.o,Qc,List.map_append];exact own6
   have O6:=Qa (O4.o.grown hgrow6 (λk hk e=>absurd (ow.lt k e).1 (by omega)));clear ow own6 hgrow6;go_wp2
   go_roundw
   case rel=>exact⟨k+1,by omega,by go_num,by rw[<-HF1.o];exact h6.o,O6.o⟩
   case measure=>simp[intOf];omega
  ·obtain rfl:k=n:=by omega
   have hp:decide ((k:Int)<(k:Int))=false:=by simp
   rw[HN.o,List.take_length,<-HN.o] at h2
   have h9:Hid ((gs k++fx8 d).length<=10+8*k):=by
    simp only[Hid];have:=GL.o;rw[Qc,Kz,<-HN.o];omega
   have HG2:Hid (G=(gs k++fx8 d)++QR (bitsP (wP k) ((xs.take m).map (plc d)))):=by
    simp only[Hid];rw[HG.o,List.append_assoc,HM.o,List.take_length];unfold WZ;rw[<-HN.o]
   have W0:Hid (WrAt 292 5 (w3.alloc (.cells #[.slice none 0 0,.int .i64 0] 292)) (w3.heap.size+1) w3.heap.size (.slice none 0 0) (bitsP (wP k) ((xs.take 0).map (plc d)))):=WrAt.new (T:=292) (E:=5) w3;have PW:=Qa (qe k (w3.alloc (.cells #[.slice none 0 0,.int .i64 0] 292)) (by omega));have WL:wP k<=16:=wP_le (by omega)
   have WF:Hid (∀x∈xs,plc d x<k∧wid (plc d x)<=wP k):=by
    intro x hx;have h1:=Sx (k6.o x hx);rw[<-HN.o] at h1;exact⟨h1,(Yd _ _).2 (wP_lt h1)⟩
   have HBL:Hid (∀j,((xs.take j).map (plc d)).length<=m):=by
    intro j;rw[List.length_map,Qf,HM.o];omega
   clear h7 h0 HG GL VD;generalize gs k++fx8 d=f0 at *;go_wp2_with fail;refine PW.o.mono ?_;rintro e w4 ⟨rfl,rfl⟩;clear PW;generalize wP k=W at *;go_wp2
   go_loopw [41] (λi wr=>∃j:Nat,j<=m∧i=.int .i64 j∧∃vw,WrAt 292 5 wr (w3.heap.size+1) w3.heap.size vw (bitsP W ((xs.take j).map (plc d)))∧N0 w3 wr) (λi _=>m - (intOf i).toNat)
   case atStart=>exact⟨0,Nat.zero_le _,rfl,_,W0.o,(Only.refl _ _).alloc _⟩
   case round =>
    clear W0;obtain⟨j,hj,rfl,vw,hg,h0⟩:=hrel
    have hbl:(bitsP W ((xs.take j).map (plc d))).length<=65536*16:=by
     rw[Np];exact Nat.mul_le_mul (Nat.le_trans (HBL.o j) hl) WL
    have k0:=Qa (FB.o.same (h8.o.same h0))
    by_cases hlt:j<m
    ·have hp:decide ((j:Int)<(m:Int))=true:=by simp;omega
     obtain⟨b,off,hq,e1,hc0⟩:=(HB.o.past k0.o).at j (by rw[<-HM.o];exact hlt)
     have ea:ao=some ⟨b,off,none⟩:=by simp at e1;exact e1.1
     subst ea;clear e1;have ho:=RF (l:=xs) (k:=j) (by rw[<-HM.o];exact hlt);obtain⟨y0,y1⟩:=HU.o _ ho;obtain⟨p0,p1⟩:=WF.o _ ho;have hh:=Qa (Oe W (plc d) xs j (by rw[<-HM.o];exact hlt));have hb:=Qa (DM_at HDN.o (k6.o _ ho) (.lit (.int .i64 0)));generalize xs.getD j 0=y at *;generalize plc d y=p at *;have hr:keyOf prog 24 (.int .u64 y)=some (.int .u64 y):=keyOf_int_mk underlying24 (Lk y0 y1);have he:=qR FM.o (h8.o.same h0) (λf=>f);have PU:=Qa (U9 hg (p:Int) (W:Int) (by omega) (by omega) (by omega) (by omega) (by simpa using p1) (by omega));rw[Int.toNat_natCast,Int.toNat_natCast,<-hh.o] at PU;have HW:=Qa hg;have HO:=Qa h0;clear hg h0 hh ho
     go_wp2_with (first
      | (at_lookup;refine wpList_lookup_own_int _ rfl _ _ 299 rfl 24 3 .i64 law35 underlying299 underlying3 (zero3 _) w.heap.size m _ rfl he _ _ rfl hr ?_;intro c hat hwc;obtain rfl:c=(p:Int):=(by have:=hat.symm.trans hb.o;simpa using this);clear hat hwc hb)
      | fail)
     refine PU.o.mono ?_;rintro e w5 ⟨rfl,v5,h5,o5,s5⟩;have W5:=Qa h5;have O5:=Qa (HO.o.trans o5 (λi hi f=>absurd (HW.o.foot_ge (Nat.le_refl _) i f) (by omega)));clear h5 o5 s5 PU he HW HO;go_wp2
     go_roundw
     case rel=>exact⟨j+1,by omega,by go_num,_,W5.o,O5.o⟩
     case measure=>simp[intOf];omega
    ·obtain rfl:j=m:=by omega
     have hp:decide ((j:Int)<(j:Int))=false:=by simp
     have BY:=Qa (ZU hg (by omega));have ha:=Qa h0
     have hs:Hid ((QR (bitsP W ((xs.take j).map (plc d)))).length<=65536*16):=by
      simp only[Hid];rw[Ka];unfold nb;omega
     generalize QR (bitsP W ((xs.take j).map (plc d)))=t0 at *;clear hg h0 hbl;go_wp2_with fail;refine BY.o.mono ?_;rintro e w5 ⟨u,rfl,h4,o5⟩;have ow:=(ha.o.same o5).own h2.o (λ_ _ f=>f);have hw:=Bs.of_own h4;have k3:=Qa (NoCap.of_own h4);have k7:=Qa hw;have hs5:w1.heap.size<=w5.heap.size:=Nat.le_trans h8.o.size (Nat.le_trans ha.o.size o5.size);have O5:=Qa (k0.o.same o5);have S1:=Qa FB.o.size;obtain⟨a5,c5,e5⟩:=hw.len;subst e5;obtain⟨tl,ht⟩:=EX t0.length;rw[<-ht] at k7 k3 hs ⊢;have HT:=Qa ht;clear o5 h4 hw ht;go_wp2_with (at_builtin;refine Yh _ rfl _ _ _ rfl w1.heap.size 5 i0 (.int .u8 0) 1 underlying23 hi k1 k9 k4 rfl _ _ _ rfl ow .u8 _ t0 rfl k7.o k3.o ?c3 ?c4 hs5 ?_)
     case c3=>have:=h9.o;have:=hs.o;have:=HT.o;unfold maxLen;omega
     case c4=>have:=h9.o;have:=hs.o;have:=HT.o;omega
     intro v6 w6 own6 hgrow6 _ _
     have h6:Hid (w6.ownsRow w.heap.size 5 1 v6 G.length (G.map (Value.int .u8))):=by
      simp only[Hid];rw[HG2.o,Qc,List.map_append];exact Qu own6 S1.o
     have O6:=Qa (O5.o.grown hgrow6 (λk hk e=>absurd (ow.lt k e).1 (by have:=S1.o;omega)));clear ow own6 hgrow6;go_wp2;go_ret2;exact⟨v6,rfl,h6.o,O6.o⟩
theorem DX (v:Value) (xs:LI) (w:World) (h:Bs .u64 w v xs) (hu:U64 xs) :
 Calls prog 241 #[v] w λe w'=>∃v',e=.returned (.tuple #[v',.int .i64 (ENC10 xs).2])∧w'.ownsRow w.heap.size 5 1 v' (ENC10 xs).1.length ((ENC10 xs).1.map (Value.int .u8))∧N0 w w':=by
 by_cases hl:65536<xs.length
 ·have e:ENC10 xs=([],4):=if_pos hl
  rw[e];refine (A9 v xs w h hl).mono ?_;rintro e w' ⟨rfl,rfl⟩;exact⟨_,rfl,World.ownsRow_nil _ _ _ _,Only.refl _ _⟩
 ·rw[Rd (by omega)]
  exact Fm v xs w h hu (by omega) _ rfl
end
theorem KW (t:Int) (w:World) (h0:0<=t) (h1:t<=3):Calls prog 229 #[.int .i64 t] w λe w'=>e=.returned (.bool true)∧w=w':=by
 have d0:decide (0<=t)=true:=Qe h0;have d1:decide (t<4)=true:=Qe (by omega);clear h0 h1;go_enter func229,ntmps229;go_wp2;go_ret;exact⟨rfl,rfl⟩
theorem AJ (t:Int) (w:World) (h:t<0∨3<t):Calls prog 229 #[.int .i64 t] w λe w'=>e=.returned (.bool false)∧w=w':=by
 by_cases h0:t<0
 ·have d0:decide (0<=t)=false:=Qb (by omega)
  clear h0 h;go_enter func229,ntmps229;go_wp2;go_ret;exact⟨rfl,rfl⟩
 ·have d0:decide (0<=t)=true:=Qe (by omega)
  have d1:decide (t<4)=false:=Qb (by omega);clear h0 h;go_enter func229,ntmps229;go_wp2;go_ret;exact⟨rfl,rfl⟩
theorem NK (v:Value) (l:LI) (w:World) (h:Bs .u64 w v l) (hl:l.length<=65536) :
 Calls prog 240 #[v] w λe w'=>∃u,e=.returned u∧w'.ownsRow w.heap.size 5 1 u (fx8 l).length ((fx8 l).map (Value.int .u8))∧N0 w w':=by
 obtain⟨i0,hi,hz0,hz1,hz2⟩:=info_parts Tryz.infoU8;have HB:=Qa h;obtain⟨ao,cap,rfl⟩:=h.len;obtain⟨n,hn⟩:=EX l.length;rw[<-hn] at hl HB;rw[<-hn];have HN:=Qa hn;clear h hn;go_enter func240,ntmps240;go_wp2
 go_loopw [3,8] (λs i wr=>∃k:Nat,k<=n∧i=.int .i64 k∧wr.ownsRow w.heap.size 5 1 s (fx8 (l.take k)).length ((fx8 (l.take k)).map (Value.int .u8))∧N0 w wr) (λ_ i _=>n - (intOf i).toNat)
 case atStart=>exact⟨0,Nat.zero_le _,rfl,World.ownsRow_nil _ _ _ _,Only.refl _ _⟩
 case round =>
  obtain⟨k,hk,rfl,h1,h3⟩:=hrel;have h0:=Qa h1;have h4:=Qa h3
  by_cases hlt:k<n
  ·have dlt:decide ((k:Int)<(n:Int))=true:=by simp;omega
   obtain⟨b,off,cap',e1,hc0⟩:=(HB.o.past h3).at k (by rw[<-HN.o];exact hlt)
   have ea:ao=some ⟨b,off,none⟩:=by simp at e1;exact e1.1
   subst ea;clear e1;have hb:=Qa (PQ l k (by rw[<-HN.o];exact hlt))
   have h9:Hid ((fx8 (l.take k)).length<=8*n):=by
    simp only[Hid];rw[Kz,Qf];omega
   obtain⟨f1,h6⟩:=EX (fx8 (l.take (k+1)));rw[<-h6] at hb;have HF1:=Qa h6;clear h6;generalize fx8 (l.take k)=f0 at *;generalize l.getD k 0=x at *;clear h1 h3 HB;go_wp2_with fail;refine (Ux _ 8 wr (by omega)).mono ?_;rintro e w4 ⟨u,rfl,h2,o4⟩;have ow:=o4.own h0.o (λ_ _ f=>f);have h5:=Bs.of_own h2;have h8:=Qa (NoCap.of_own h2);have ha:=Qa h5;have hs4:w.heap.size<=w4.heap.size:=Nat.le_trans h4.o.size o4.size;have O4:=Qa (h4.o.trans o4 (λ_ _ f=>f));obtain⟨a4,c4,e4⟩:=h5.len;subst e4;clear o4 h2 h4 h0 h5;rw[QD] at ha h8;go_wp2_with (at_builtin;refine Yh _ rfl _ _ _ rfl w.heap.size 5 i0 (.int .u8 0) 1 underlying23 hi hz0 hz1 hz2 rfl _ _ _ rfl ow .u8 _ (fixL x 8) rfl ha.o h8.o ?c3 ?c4 hs4 ?_)
   case c3=>have:=h9.o;rw[QD];unfold maxLen;omega
   case c4=>have:=h9.o;rw[QD];omega
   intro v6 w6 own6 hgrow6 _ _
   have h7:Hid (w6.ownsRow w.heap.size 5 1 v6 f1.length (f1.map (Value.int .u8))):=by
    simp only[Hid];rw[hb.o,Qc,List.map_append];exact own6
   have O6:=Qa (O4.o.grown hgrow6 (λk hk e=>absurd (ow.lt k e).1 (by omega)));clear ow own6 hgrow6;go_wp2
   go_roundw
   case rel=>exact⟨k+1,by omega,by go_num,by rw[<-HF1.o];exact h7.o,O6.o⟩
   case measure=>simp[intOf];omega
  ·obtain rfl:k=n:=by omega
   have dlt:decide ((k:Int)<(k:Int))=false:=by simp
   have HL:Hid (l.take k=l):=by simp only[Hid];exact List.take_of_length_le (by rw[<-HN.o];exact Nat.le_refl _)
   rw[HL.o] at h0;clear h1 h3 HB;go_wp2;go_ret;exact⟨_,rfl,h0.o,h4.o⟩
theorem C6 (hk:k<l.length) (h:l.getD k 0≠l.getD 0 0):¬YS l:=λa=>h (QeR.1 a _ (by
 rw[Qd,Qg hk];exact List.getElem_mem hk))
theorem Fd (h:∀k,k<l.length->l.getD k 0=l.getD 0 0):YS l:=QeR.2 λx hx=>by
 obtain⟨k,hk,rfl⟩:=List.getElem_of_mem hx;have:=h k hk;rw[Qd,Qg hk] at this;exact this
theorem Nv (v:Value) (l:LI) (w:World) (h:Bs .u64 w v l) (hl:l.length<=65536) :
 Calls prog 239 #[v] w λe w'=>e=.returned (.bool (decide (¬(l=[]∨¬YS l))))∧w=w':=by
 have HB:=Qa h;obtain⟨ao,cap,rfl⟩:=h.len;obtain⟨n,hn⟩:=EX l.length;rw[<-hn] at hl HB;rw[<-hn];obtain⟨A,hA⟩:=EX (decide (¬(l=[]∨¬YS l)));rw[<-hA];have HA:=Qa hA;have HN:=Qa hn;clear h hn hA;go_enter func239,ntmps239;go_wp2
 go_loop [7] (λi=>∃k:Nat,k<=n∧i=.int .i64 k∧Hid (∀j,j<k->l.getD j 0=l.getD 0 0)) (λi=>n - (intOf i).toNat)
 case atStart=>exact⟨0,Nat.zero_le _,rfl,λj hj=>absurd hj (by omega)⟩
 case round =>
  obtain⟨k,hk,rfl,HS⟩:=hrel
  by_cases hlt:k<n
  ·have dlt:decide ((k:Int)<(n:Int))=true:=by simp;omega
   obtain⟨b,off,cap',e1,hc0⟩:=HB.o.at k (by rw[<-HN.o];exact hlt)
   have ea:ao=some ⟨b,off,none⟩:=by simp at e1;exact e1.1
   subst ea;clear e1;obtain⟨b',off',cap2,e2,hc1⟩:=HB.o.at 0 (by rw[<-HN.o];omega);simp at e2;obtain⟨⟨rfl,rfl⟩,e3⟩:=e2;clear e3;rw[Nat.add_zero] at hc1
   have bd:(0:Int)<(n:Int):=by omega
   by_cases hx:l.getD k 0=l.getD 0 0
   ·have HS':Hid (∀j,j<k+1->l.getD j 0=l.getD 0 0):=λj hj=>by
     rcases Nat.lt_or_ge j k with h | h
     ·exact HS.o j h
     ·obtain rfl:j=k:=by omega
      exact hx
    rw[hx] at hc0;generalize l.getD 0 0=x at *
    have dx:(x != x)=false:=by simp
    clear hx HB;go_wp2
    go_round
    case rel=>exact⟨k+1,by omega,by go_num,HS'⟩
    case measure=>simp[intOf];omega
   ·have HF:Hid (A=false):=by
     simp only[Hid];rw[HA.o];exact Qb (λc=>c (.inr (C6 (by rw[<-HN.o];exact hlt) hx)))
    have dx:(l.getD k 0 != l.getD 0 0)=true:=bne_iff_ne.2 hx;generalize l.getD 0 0=x at *;generalize l.getD k 0=y at *;clear hx HB HS;go_wp2;go_ret;rw[HF.o];exact⟨rfl,rfl⟩
  ·obtain rfl:k=n:=by omega
   have dlt:decide ((k:Int)<(k:Int))=false:=by simp
   by_cases h0:k=0
   ·have HF:Hid (A=false):=by
     simp only[Hid];rw[HA.o];exact Qb (λc=>c (.inl (List.eq_nil_of_length_eq_zero (by rw[<-HN.o];exact h0))))
    have d2:decide ((0:Int)<(k:Int))=false:=by simp;omega
    have d2':decide (0<k)=false:=by simp;omega
    clear h0 HB HS;go_wp2;go_ret;rw[HF.o];exact⟨rfl,rfl⟩
   ·have HF:Hid (A=true):=by
     simp only[Hid];rw[HA.o];refine Qe (λc=>?_)
     rcases c with c | c
     ·rw[c] at HN;exact h0 HN.o
     ·exact c (Fd (by rw[<-HN.o];exact HS.o))
    have d2:decide ((0:Int)<(k:Int))=true:=by simp;omega
    have d2':decide (0<k)=true:=by simp;omega
    clear h0 HB HS;go_wp2;go_ret;rw[HF.o];exact⟨rfl,rfl⟩
def Tab (w:World):Prop:=∀j,j<64->w.cell? ⟨0,j,none⟩=some (.int .u8 ((Lib.deBruijn64tab.getD j 0:Nat):Int))
theorem Tab.pos (h:Tab w):0<w.heap.size:=by
 rcases Nat.eq_zero_or_pos w.heap.size with e | e
 ·have:=h 0 (by omega)
  have e2:w.heap[0]? = none:=Array.getElem?_eq_none (by omega);simp[World.cell?,e2] at this
 ·exact e
theorem Tab.keep (h:Tab w) {S:Nat->Prop} (o:Only S w w') (hs:¬S 0):Tab w':=by
 intro j hj;have e:=o.block 0 h.pos hs;have:=h j hj
 simpa [World.cell?,e] using this
theorem Tab.past (h:Tab w) (o:N0 w w'):Tab w':=h.keep o (λf=>f)
theorem Tab.below {N:Nat} (h:Tab w) (o:Below N w w') (hN:0<N):Tab w':=by
 intro j hj;have e:=o.block 0 hN;have:=h j hj
 simpa [World.cell?,e] using this
theorem Ts:∀(f x:Nat),Lib.ctzFrom f x=tzF f x
 | 0,_=>rfl
 | f+1,x=>by
  rw[Lib.ctzFrom,tzF]
  by_cases h:x % 2=1
  ·rw[if_pos h,if_neg (by omega)]
  ·rw[if_neg h,if_pos (by omega),Ts f (x / 2)];omega
theorem Cz {x:Nat} (h0:0<x) (hx:x<18446744073709551616):x &&& (18446744073709551616 - x)=2^tz x∧tz x<64:=by
 have h:=Lib.lowest_bit 64 x (by omega) (by rw[p64];exact hx)
 have e:Lib.ctz 64 x=tz x:=by unfold Lib.ctz tz;rw[if_neg (by omega),Ts]
 rw[e,p64] at h;exact h
theorem yW {n a:Nat} (hn:n<18446744073709551616) (h0:0<n) (hlow:n &&& (18446744073709551616 - n)=a) :
 IntKind.u64.wrap (bits BinOp.and IntKind.u64 (n:Int) (IntKind.u64.wrap (-(n:Int)))*285870213051353865) / 288230376151711744=((a*285870213051353865 % 18446744073709551616 / 288230376151711744:Nat):Int):=by
 have e1:IntKind.u64.wrap (-(n:Int))=((18446744073709551616 - n:Nat):Int):=by rw[IntKind.wrap_u64];omega
 rw[e1,bits_and_u64_nat n _ hn (by omega),hlow,IntKind.wrap_u64];omega
theorem uG (n k i:Nat) (w:World) (hne:((n:Int) == 0)=false)
 (key:IntKind.u64.wrap (bits BinOp.and IntKind.u64 (n:Int) (IntKind.u64.wrap (-(n:Int)))*285870213051353865) / 288230376151711744=(i:Int))
 (hi:i<64) (hk:k<64) (hc:w.cell? ⟨0,i,none⟩=some (.int .u8 k)) :
 Calls prog 303 #[.int .u64 n] w λe w'=>e=.returned (.int .i64 k)∧w=w':=by
 go_enter func303,ntmps303;go_wp2_with (simp only[key]);go_ret;exact⟨rfl,rfl⟩
theorem I2 (x:Int) (w:World) (h0:0<x) (hx:x<=18446744073709551615) (hT:Tab w) :
 Calls prog 303 #[.int .u64 x] w λe w'=>e=.returned (.int .i64 (tz x.toNat:Int))∧w=w':=by
 obtain⟨n,rfl⟩:=Int.eq_ofNat_of_zero_le (show 0<=x by omega);rw[Int.toNat_natCast];obtain⟨h1,hk⟩:=Cz (x:=n) (by omega) (by omega);generalize tz n=k at *;obtain⟨hi,ht⟩:=Lib.deBruijn64_at k hk;have hc:=hT _ hi;rw[ht] at hc;have key:=yW (by omega) (by omega) h1;exact uG n k _ w (by rw[beq_eq_false_iff_ne];omega) key hi hk hc
theorem Tryz.sizeWin:(prog.info? 303).map (·.size)=some 2:=by kernel_rfl
theorem Au (w:World) :
 Calls prog 287 #[.agg #[.int .i64 0,.int .i64 0]] w λe w'=>e=.returned (.bool true)∧N0 w w':=by
 go_enter func287,ntmps287;go_wp2;go_ret;exact⟨rfl,(Only.refl _ _).alloc _⟩
theorem TY (a d:Nat) (w:World) (hd:¬d=0) :
 Calls prog 287 #[.agg #[.int .i64 a,.int .i64 d]] w λe w'=>e=.returned (.bool false)∧N0 w w':=by
 go_enter func287,ntmps287;go_wp2
 all_goals go_ret
 all_goals exact⟨rfl,(Only.refl _ _).alloc _⟩
theorem Er (a d:Nat) (w:World) (ha:a<=64) (hd:d<=64) :
 Calls prog 290 #[.agg #[.int .i64 a,.int .i64 d]] w λe w'=>e=.returned (.int .i64 (64 - (a:Int) - d))∧N0 w w':=by
 go_enter func290,ntmps290;go_wp2;go_ret;exact⟨rfl,(Only.refl _ _).alloc _⟩
theorem wH (x:Int) (w:World) (h0:0<x) (hx:x<=18446744073709551615) (hT:Tab w) :
 Calls prog 289 #[.int .u64 x] w λe w'=>e=.returned (.agg #[.int .i64 (ldz x.toNat:Int),.int .i64 ((64 - ldz x.toNat - tz x.toNat:Nat):Int)])∧N0 w w':=by
 obtain⟨hn1,hn2,hn3⟩:=Xp (x:=x.toNat) (by omega) (by omega);have hw:=Wz x.toNat (by omega);have T1:=Qa (hT.past ((Only.refl (λ_=>False) w).alloc (.cells #[.int .i64 0,.int .i64 0] 303)));have W1:=Qa (VI x (w.alloc (.cells #[.int .i64 0,.int .i64 0] 303)) (by omega) hx);have Z1:=Qa (I2 x (w.alloc (.cells #[.int .i64 0,.int .i64 0] 303)) h0 hx T1.o);have hld:Hid (ldz x.toNat=min (64 - wid x.toNat) 31):=rfl;generalize wid x.toNat=q at *;generalize tz x.toNat=z at *;generalize ldz x.toNat=a at *;go_enter func289,ntmps289;go_wp2_with fail;refine W1.o.mono ?_;rintro e w1 ⟨rfl,rfl⟩;go_wp2_with fail
 all_goals
  refine Z1.o.mono ?_;rintro e w1 ⟨rfl,rfl⟩;go_wp2;refine bodyPost_ret (results_cell_row rfl _ _ w.heap.size 303 _ (0,0) _ rfl (heap_alloc_last w _) underlying303 rfl Tryz.sizeWin) rfl ⟨?_,(Only.refl _ _).alloc _⟩;have hl:=hld.o
 all_goals first
  | (obtain rfl:a=31:=(by omega);have e1:((64 - 31 - z:Nat):Int)=33 - (z:Int):=(by omega);rw[e1];rfl)
  | (have e0:(64:Int) - (q:Int)=(a:Int):=(by omega);have e1:((64 - a - z:Nat):Int)=64 - (a:Int) - (z:Int):=(by omega);rw[e0,e1])
  | (have e0:min ((64:Int) - (q:Int)) 31=(a:Int):=(by omega);have e1:((64 - a - z:Nat):Int)=64 - (a:Int) - (z:Int):=(by omega);rw[e0,e1])
theorem Kt (a z d:Nat) (w:World) (h:a+z+d=64) :
 Calls prog 290 #[.agg #[.int .i64 a,.int .i64 d]] w λe w'=>e=.returned (.int .i64 (z:Int))∧N0 w w':=by
 have:=Er a d w (by omega) (by omega);rw[show (64:Int) - (a:Int) - d=(z:Int) by omega] at this;exact this
theorem AQ {x z:Nat} (h0:0<x) (hx:x<18446744073709551616) (h:x / 2^z*2^z=x):z<=tz x:=by
 rcases Nat.lt_or_ge (tz x) z with hlt | hge
 ·exfalso
  have ho:x / 2^tz x % 2=1:=Px 64 x h0 (by rw[p64];exact hx);obtain⟨j,rfl⟩:∃j,z=tz x+1+j:=⟨z - tz x - 1,by omega⟩;generalize tz x=t at *;generalize x / 2^(t+1+j)=y at *
  have e:x=2^t*(2*(y*2^j)):=by
   rw[<-h,Nat.pow_add,Nat.pow_succ];simp only[Nat.mul_assoc,Nat.mul_comm,Nat.mul_left_comm]
  rw[e,Nat.mul_div_cancel_left _ (Nat.two_pow_pos t)] at ho;omega
 ·exact hge
theorem Je {x a z d:Nat} (h0:0<x) (hx:x<18446744073709551616) (h:a+z+d=64) (hd:0<d) :
 fitsW x a z↔(x / 2^z*2^z=x∧wid (x / 2^z)<=d):=by
 have hw:=Wz x hx
 constructor
 ·rintro⟨h1,h2⟩
  have h3:=PY (z:=z) hx h1 (by omega);rw[show 64 - a - z=d by omega] at h3;exact⟨Lp h2,(Yd _ d).2 h3⟩
 ·rintro⟨h1,h2⟩
  refine⟨?_,AQ h0 hx h1⟩;have h3:=(Yd _ d).1 h2;rw[Nat.div_lt_iff_lt_mul (Nat.two_pow_pos z),<-Nat.pow_add] at h3;have h4:=(Yd x (d+z)).2 h3;omega
theorem Pt {x z:Nat} (hx:x<18446744073709551616):IntKind.u64.wrap ((x:Int) / 2^z*2^z)=((x / 2^z*2^z:Nat):Int):=by
 have h1:x / 2^z*2^z<=x:=Nat.div_mul_le_self x _
 have e:(x:Int) / 2^z*2^z=((x / 2^z*2^z:Nat):Int):=by push_cast;rfl
 rw[e,IntKind.wrap_u64];omega
theorem Fv (a z d x:Nat) (w:World) (h0:0<x) (hx:x<18446744073709551616) (h:a+z+d=64) (hd:0<d) (he:x / 2^z*2^z=x) :
 Calls prog 288 #[.agg #[.int .i64 a,.int .i64 d],.int .u64 x] w λe w'=>e=.returned (.bool (decide (wid (x / 2^z)<=d)))∧N0 w w':=by
 have z64:(z:Int)<64:=by omega
 have T1:=Qa (Kt a z d (w.alloc (.cells #[.int .i64 a,.int .i64 d] 303)) h);have e1:=Pt (z:=z) hx;rw[he] at e1
 have e2:(IntKind.u64.wrap ((x:Int) / 2^z*2^z) == (x:Int))=true:=by rw[e1];simp
 have e3:(x:Int) / 2^z=((x / 2^z:Nat):Int):=by push_cast;rfl
 have y1:x / 2^z<=x:=Nat.div_le_self _ _;clear e1 he;rw[e3] at e2;generalize hy:x / 2^z=y at *;have E3:=Qa e3;clear e3 hy
 have WI:=λw=>Qa (VI (y:Int) w (by omega) (by omega))
 simp only[Int.toNat_natCast] at WI;generalize wid y=q at *;go_enter func288,ntmps288;go_wp2_with fail;refine T1.o.mono ?_;rintro e w1 ⟨rfl,o1⟩;have g1:=o1.heap (heap_alloc_last w _) (λf=>f);obtain⟨c0,c1,_,_⟩:=QU g1;have O1:=Qa ((Only.refl (λ_=>False) w).alloc (.cells #[.int .i64 a,.int .i64 d] 303) |>.same o1);clear T1 o1;go_wp2;rw[E3.o]
 go_region_with (first|(go_at_call 290;refine (Kt a z d _ h).mono ?_;rintro e w2 ⟨rfl,o2⟩;have c2:=(QU (o2.heap (a:=w1.drew) g1 (λf=>f))).2.1)|(go_at_call 260;refine (WI _).out.mono ?_;rintro e w3 ⟨rfl,rfl⟩))
 all_goals go_wp2
 all_goals go_ret
 all_goals exact⟨rfl,O1.o.drew.same o2⟩
theorem OO (a z d x:Nat) (w:World) (hx:x<18446744073709551616) (h:a+z+d=64) (hd:0<d) (he:x / 2^z*2^z≠x) :
 Calls prog 288 #[.agg #[.int .i64 a,.int .i64 d],.int .u64 x] w λe w'=>e=.returned (.bool false)∧N0 w w':=by
 have z64:(z:Int)<64:=by omega
 have T1:=Qa (Kt a z d (w.alloc (.cells #[.int .i64 a,.int .i64 d] 303)) h);have e1:=Pt (z:=z) hx
 have e2:(IntKind.u64.wrap ((x:Int) / 2^z*2^z) == (x:Int))=false:=by rw[e1,beq_eq_false_iff_ne];omega
 have e3:(x:Int) / 2^z=((x / 2^z:Nat):Int):=by push_cast;rfl
 have y1:x / 2^z<=x:=Nat.div_le_self _ _;clear e1 he;rw[e3] at e2;generalize hy:x / 2^z=y at *;have E3:=Qa e3;clear e3 hy;go_enter func288,ntmps288;go_wp2_with fail;refine T1.o.mono ?_;rintro e w1 ⟨rfl,o1⟩;have g1:=o1.heap (heap_alloc_last w _) (λf=>f);obtain⟨c0,c1,_,_⟩:=QU g1;have O1:=Qa ((Only.refl (λ_=>False) w).alloc (.cells #[.int .i64 a,.int .i64 d] 303) |>.same o1);clear T1 o1;go_wp2;rw[E3.o]
 first|(go_region_with ((go_at_call 290;refine (Kt a z d _ h).mono ?_;rintro e w2 ⟨rfl,o2⟩;have c2:=(QU (o2.heap (a:=w1.drew) g1 (λf=>f))).2.1))) | fail
 all_goals go_wp2
 all_goals go_ret
 all_goals exact⟨rfl,O1.o.drew.same o2⟩
theorem GT (a z d x:Nat) (w:World) (h0:0<x) (hx:x<18446744073709551616) (h:a+z+d=64) (hd:0<d) :
 Calls prog 288 #[.agg #[.int .i64 a,.int .i64 d],.int .u64 x] w λe w'=>e=.returned (.bool (decide (fitsW x a z)))∧N0 w w':=by
 by_cases he:x / 2^z*2^z=x
 ·have e:decide (fitsW x a z)=decide (wid (x / 2^z)<=d):=decide_eq_decide.2 ((Je h0 hx h hd).trans (and_iff_right he))
  rw[e];exact Fv a z d x w h0 hx h hd he
 ·have e:decide (fitsW x a z)=false:=Qb (λf=>he ((Je h0 hx h hd).1 f).1)
  rw[e];exact OO a z d x w hx h hd he
end Go.Proofs.YtoflhbghdlaeaaaGreatDoor
