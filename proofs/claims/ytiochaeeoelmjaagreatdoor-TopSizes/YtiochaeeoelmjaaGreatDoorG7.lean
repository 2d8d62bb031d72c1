import Derived.Test.YtiochaeeoelmjaaGreatDoorG6
import Derived.Deep.RegionHeld
import Derived.Test.YtiochaeeoelmjaaGreatDoorG5
namespace Go.Proofs.YtiochaeeoelmjaaGreatDoor
set_option maxHeartbeats 1600000
set_option maxRecDepth 100000
open Go.RowKit _root_.Go.Proofs.Tryz
variable {w w' W:World} {v:Value} {ys xs l:LI} {R n p k g B:Nat} {P:Program} {ls:List (LI)} {E:TypeId}
theorem Bs.keepE {k:IntKind} (h:Bs k w v xs) {S:Nat->Prop} (ho:Only S w w') (hs:xs≠[]->∀b,v.ownBlock=some b->¬S b):Bs k w' v xs:=by
 by_cases hx:xs=[]
 ·subst hx
  obtain⟨ao,cap,rfl,hc,_⟩:=h;exact⟨ao,cap,rfl,hc,λh=>absurd rfl h⟩
 ·exact h.keep ho (hs hx)
theorem AR (g:Nat) (st:List Nat) (pc:LI) (w w1:World) (h:Blk w g 163 (hc st pc 0)) (h2:st.length=8) (h3:pc.length=64) (h4:U8 pc) (on1:N0 w w1) :
 Hs1 (w1.setCells g 0 (wl shH)) g []∧Only (λk=>k=g) w (w1.setCells g 0 (wl shH)):=by
 refine⟨⟨shH,pc,?_,HP.start pc h3 h4⟩,?_⟩
 ·have:=Zx [] (wl st) (bl pc++[.int .i64 ((0:Nat):Int)]) (wl shH) (by rw[QJ,QJ,h2];rfl) w1 g 163 (by have:=h.past on1;unfold hc at this;simpa using this)
  unfold hc
  simpa using this
 ·exact Only.setCells (S:=λk=>k=g) (λ_=>rfl) (wl shH) 0 w1 (on1.mono (λ_ _ f=>f.elim))
abbrev o0wr : Oper:={ dst:=some 54,op:=Op.load 160 (Operand.tmp 53),type:=160,pos:="sha.go:48",after:=#[{ on:=3,ground:=Ground.data }],guard:=none }
abbrev o1wr : Oper:={ dst:=some 58,op:=Op.load 161 (Operand.tmp 57),type:=161,pos:="sha.go:48",after:=#[{ on:=7,ground:=Ground.data }],guard:=none }
abbrev o2wr : Oper:={ dst:=some 59,op:=Op.call { callee:=Callee.value (Operand.func 162),args:=#[Operand.tmp 54,Operand.tmp 58],argTypes:=#[160,161] },type:=160,pos:="sha.go:48",after:=#[{ on:=4,ground:=Ground.data },{ on:=8,ground:=Ground.data }],guard:=none }
abbrev o3wr : Oper:={ dst:=some 60,op:=Op.nilCheck (Operand.tmp 50),type:=0,pos:="sha.go:48",after:=#[{ on:=0,ground:=Ground.data },{ on:=0,ground:=Ground.phase },{ on:=1,ground:=Ground.phase },{ on:=2,ground:=Ground.phase },{ on:=3,ground:=Ground.phase },{ on:=4,ground:=Ground.phase },{ on:=5,ground:=Ground.phase },{ on:=6,ground:=Ground.phase },{ on:=7,ground:=Ground.phase },{ on:=8,ground:=Ground.phase },{ on:=9,ground:=Ground.phase }],guard:=none }
abbrev o4wr : Oper:={ dst:=some 61,op:=Op.fieldAddr 163 (Operand.tmp 60) 0,type:=0,pos:="sha.go:48",after:=#[{ on:=10,ground:=Ground.data },{ on:=0,ground:=Ground.phase },{ on:=1,ground:=Ground.phase },{ on:=2,ground:=Ground.phase },{ on:=3,ground:=Ground.phase },{ on:=4,ground:=Ground.phase },{ on:=5,ground:=Ground.phase },{ on:=6,ground:=Ground.phase },{ on:=7,ground:=Ground.phase },{ on:=8,ground:=Ground.phase },{ on:=9,ground:=Ground.phase }],guard:=none }
abbrev o5wr : Oper:={ dst:=none,op:=Op.store 160 (Operand.tmp 61) (Operand.tmp 59),type:=0,pos:="sha.go:48",after:=#[{ on:=11,ground:=Ground.data },{ on:=9,ground:=Ground.data },{ on:=9,ground:=Ground.chain },{ on:=0,ground:=Ground.phase },{ on:=1,ground:=Ground.phase },{ on:=2,ground:=Ground.phase },{ on:=3,ground:=Ground.phase },{ on:=4,ground:=Ground.phase },{ on:=5,ground:=Ground.phase },{ on:=6,ground:=Ground.phase },{ on:=7,ground:=Ground.phase },{ on:=8,ground:=Ground.phase },{ on:=9,ground:=Ground.phase }],guard:=none }
abbrev o6wr : Oper:={ dst:=some 50,op:=Op.move (Operand.tmp 0),type:=203,pos:="sha.go:48",after:=#[],guard:=none }
abbrev o7wr : Oper:={ dst:=some 51,op:=Op.move (Operand.tmp 0),type:=203,pos:="sha.go:48",after:=#[],guard:=none }
abbrev o8wr : Oper:={ dst:=some 52,op:=Op.nilCheck (Operand.tmp 51),type:=0,pos:="sha.go:48",after:=#[{ on:=1,ground:=Ground.data }],guard:=none }
abbrev o9wr : Oper:={ dst:=some 53,op:=Op.fieldAddr 163 (Operand.tmp 52) 0,type:=0,pos:="sha.go:48",after:=#[{ on:=2,ground:=Ground.data }],guard:=none }
abbrev o10wr : Oper:={ dst:=some 55,op:=Op.move (Operand.tmp 0),type:=203,pos:="sha.go:48",after:=#[],guard:=none }
abbrev o11wr : Oper:={ dst:=some 56,op:=Op.nilCheck (Operand.tmp 55),type:=0,pos:="sha.go:48",after:=#[{ on:=5,ground:=Ground.data }],guard:=none }
abbrev o12wr : Oper:={ dst:=some 57,op:=Op.fieldAddr 163 (Operand.tmp 56) 1,type:=0,pos:="sha.go:48",after:=#[{ on:=6,ground:=Ground.data }],guard:=none }
theorem WP (g:Nat) (all xs:LI) (v:Value) (w:World) (h:Hs w g all) (hb:Bs .u8 w v xs) (h8:U8 xs) (hv:xs≠[]->∀k,v.ownBlock=some k->k≠g) (hl:all.length+xs.length<=1000000000000) :
 Calls prog 112 #[.pointer (some ⟨g,0,none⟩),v] w λe w'=>e=.returned (.int .i64 xs.length)∧Hs1 w' g (all++xs)∧Only (λk=>k=g) w w':=by
 obtain⟨ao,cap,rfl⟩:=hb.len;obtain⟨n,hn⟩:=EX all.length
 have k3:w.cell? ⟨g,72,none⟩=some (.int .i64 (n:Int)):=by
  rcases h with ⟨st,pc,h1,h2⟩ | ⟨rfl,st,pc,h1,h2,h3,_⟩
  ·rw[h1.cell,hc_n h2.sl h2.pl,hn]
  ·rw[h1.cell,hc_n h2 h3,hn];rfl
 by_cases h0:n=0
 case' pos =>
  subst h0;have ha:all=[]:=List.eq_nil_of_length_eq_zero hn.symm;have HA:=Qa ha;clear ha
  obtain⟨st,pc,h1,h2,h3,h4⟩:∃st pc,Blk w g 163 (hc st pc 0)∧st.length=8∧pc.length=64∧U8 pc:=by
   rcases h with ⟨st,pc,h1,h2⟩ | ⟨_,st,pc,h1,h2,h3,h4⟩
   ·exact⟨st,pc,by rw[<-hn] at h1;exact h1,h2.sl,h2.pl,h2.u8⟩
   ·exact⟨st,pc,h1,h2,h3,h4⟩
  have H1:=Qa (And.intro h1 (And.intro h2 (And.intro h3 h4)));have HB:=Qa (And.intro hb (And.intro h8 hv));clear h1 h2 h3 h4 h hb h8 hv hn;go_enter func112,ntmps112;go_wp2_with fail;refine (Mw _).mono ?_;rintro e w1 ⟨rfl,kt⟩;have TH:=Qa ((H1.o.1.past kt).there 0 8 (by rw[VA H1.o.2.1 H1.o.2.2.1];decide));have ba:Hid ((prog.info? 160).map (·.size)=some (wl shH).toArray.size):=Tryz.size30;go_wp2_with (refine wpList_store_mid rfl 160 (.tmp 17) (.tmp 15) rfl g 0 (wl shH).toArray rfl rfl TH.o ba.o (Ur _) ?_);have WS:=AR g _ _ w w1 H1.o.1 H1.o.2.1 H1.o.2.2.1 H1.o.2.2.2 kt;have k1:=Qa (And.intro (show Hs1 _ g all from by rw[HA.o];exact WS.1) (And.intro (HB.o.1.keepE WS.2 (λhx k hk e=>HB.o.2.2 hx k hk e)) (And.intro HB.o.2.2 WS.2)));have H8:=Qa HB.o.2.1;clear WS H1 HB kt TH ba k3;obtain⟨W1,b6⟩:=EX (w1.setCells g 0 (wl shH));rw[<-b6] at k1 ⊢;obtain⟨FQ,bp⟩:=EX (wl shH);rw[<-bp];clear bp b6
 case' neg =>
  have bm:Hs1 w g all:=by
   rcases h with h | ⟨rfl,_⟩
   ·exact h
   ·exact absurd hn h0
  have k1:=Qa (And.intro bm (And.intro hb (And.intro hv (Only.refl (λk=>k=g) w))));have H8:=Qa h8
  have h00:((n:Int) == 0)=false:=by rw[beq_eq_false_iff_ne];omega
  have HNN:=Qa hn;clear h hb hv h8 bm hn h0;go_enter func112,ntmps112;go_wp2;clear k3 h00
 all_goals (
  go_loopw [5] (λo wr=>∃i:Nat,i<=xs.length∧Hs1 wr g (all++xs.take i)∧Bs .u8 wr o (xs.drop i)∧(xs.drop i≠[]->∀k,o.ownBlock=some k->k≠g)∧Only (λk=>k=g) w wr) (λo _=>slen o)
  case atStart=>exact⟨0,Nat.zero_le _,by simpa using k1.o.1,k1.o.2.1,k1.o.2.2.1,k1.o.2.2.2⟩
  case round =>
   obtain⟨i,hi,hs,hg,h7,ht⟩:=hrel;have HE:=Qa hi;obtain⟨ao1,h5,rfl⟩:=hg.len;have HL:=Qa hl;obtain⟨ys,hf⟩:=EX (xs.drop i);obtain⟨al,hh⟩:=EX (all++xs.take i);rw[<-hf] at hg h7 ⊢;rw[<-hh] at hs
   have hz:ys.length=xs.length - i:=by rw[hf,Qq]
   by_cases hy0:ys=[]
   ·have b9:i=xs.length:=by
     rw[hy0] at hz;simp at hz;omega
    have E1:Hid (Hs1 wr g (all++xs)):=by
     show _
     rw[hh,b9,List.take_length] at hs;exact hs
    have E2:=Qa ht;clear hz b9 hs ht hg h7 hh hf k1;subst hy0;simp only[List.length_nil];go_wp2;go_ret;exact⟨rfl,E1.o,E2.o⟩
   ·have h7:=h7 hy0
    obtain⟨b,off,rfl,hy⟩:=(by obtain⟨ao',cap',e,_,hr⟩:=hg;simp at e;obtain⟨rfl,rfl⟩:=e;exact hr hy0:∃b off,ao1=some ⟨b,off,none⟩∧∀j,j<ys.length->wr.cell? ⟨b,off+j,none⟩=some (.int .u8 (ys.getD j 0)));obtain⟨st,pc,k0,hp⟩:=hs;obtain⟨n,hn⟩:=EX al.length;obtain⟨r,hr⟩:=EX (n % 64)
    have k3:wr.cell? ⟨g,72,none⟩=some (.int .i64 (n:Int)):=by rw[k0.cell,hc_n hp.sl hp.pl,hn]
    have k6:(r:Int)<64:=by omega
    have ks:(n:Int) % 64=(r:Int):=by omega
    have bi:(n:Int).tmod 64=(r:Int):=by rw[Int.tmod_eq_emod_of_nonneg (by omega),ks]
    have bg:(0:Int)<=(r:Int):=by omega
    have b4:(r:Int)<=64:=by omega
    have bj:¬64=r:=by omega
    have hn1:n<=1000000000000:=by rw[hn,hh,Qb,Qd];omega
    obtain⟨L,hL⟩:=EX ys.length
    have hLp:0<L:=by rw[hL];exact List.length_pos_iff.2 hy0
    obtain⟨k,hk⟩:=EX (min (64 - r) L)
    have bf:IntKind.i64.wrap (r:Int)=(r:Int):=by rw[IntKind.wrap_i64];omega
    rw[<-hL];obtain⟨zs,hu⟩:=EX (ys.take k)
    have h6:zs.length=k:=by rw[hu,Qd];omega
    have CB:=Qa (show Blk wr.drew g 163 (hc st pc n) by rw[hn];exact k0)
    have CN:Hid ((bl zs).length=Nat.min L (64 - r)):=by
     show _=_
     rw[Qr,h6,hk,Nat.min_comm]
    have CS:Hid (∀j v,(bl zs)[j]? = some v->wr.drew.cell? ((⟨b,off,none⟩:Addr).add j)=some v):=λj v hj=>by
     have h1:=(List.getElem?_eq_some_iff.1 hj).1;rw[Qr,h6] at h1;rw[Addr.add_mid];have h2:=hy j (by omega)
     have e:(bl zs)[j]? = some (.int .u8 (ys.getD j 0)):=by
      rw[bl_at _ _ (by omega),hu,Qc,Qc,List.getElem?_take,if_pos h1]
     rw[e] at hj
     cases hj
     exact h2
    have CF:Hid (8+r+(bl zs).length<=(hc st pc n).length):=by
     show _<=_
     rw[VA hp.sl hp.pl,Qr,h6];omega
    have CO:=Qa (Ub zs);have CZ:=Qa (show (bl zs).length=k by rw[Qr,h6]);have HX:=Qa (And.intro hp (And.intro hn (And.intro hr (And.intro hk (And.intro hL (And.intro hu (And.intro h6 hz)))))));have HV:=Qa (And.intro h7 (And.intro ht hg));have kx:=Qa (And.intro hh hf);clear k0 hp hn hr hk hL hy h7 ht hg hh hf hz hy0 hi hl hu h6;obtain⟨ZB,kz⟩:=EX (bl zs);rw[<-kz] at CN CS CF CO CZ;obtain⟨HC,kw⟩:=EX (hc st pc n);rw[<-kw] at CB CF;have kn:=Qa (And.intro kw kz);clear kw kz;go_wp2_with fail
    go_region_law (refine Ez rfl (.tmp 30) (.tmp 31) 23 23 rfl 5 underlying23 Tryz.one5 g (8+r) (64 - r) (64 - r) ⟨b,off,none⟩ L h5 (by kernel_rfl) (by kernel_rfl) HC 163 CB.o ZB k CZ.o CN.o CS.o CF.o CO.o ?_;intro w4 hb4 on4)
    obtain⟨hp,hn,hr,hk,hL,hu,h6,hz⟩:=HX.o;obtain⟨h7,ht,hg⟩:=HV.o;obtain⟨hh,hf⟩:=kx.o
    have kg:U8 zs:=by rw[hu,hf];exact (H8.o.drop _).take _
    have he:r+zs.length<=64:=by rw[h6,hk];omega
    have k9:Blk w4 g 163 (hc st (splice pc r zs) n):=by
     have:=hb4;rw[kn.o.1,kn.o.2,IQ hp.sl hp.pl n r zs he] at this;exact this
    have ki:Only (λk=>k=g) wr w4:=(Only.refl (λk=>k=g) wr).drew.trans on4 (λ_ _ e=>e)
    have kl:Bs .u8 w4 (.slice (some ⟨b,off,none⟩) L h5) ys:=by rw[hL];exact hg.keep ki h7
    have bd:k<=L:=by omega
    obtain⟨A,hA,km,k4⟩:∃A,(if h5=k then some (⟨b,off,none⟩:Addr) else some ⟨b,off+k,none⟩)=A∧Bs .u8 w4 (.slice A (L - k) (h5 - k)) (ys.drop k)∧(∀j,(Value.slice A (L - k) (h5 - k)).ownBlock=some j->j≠g):=by
     by_cases hck:h5=k
     ·refine⟨_,if_pos hck,?_,λj hj=>h7 j (by simpa [Value.ownBlock] using hj)⟩
      subst hck;rw[Nat.sub_self];exact kl.cut0 bd
     ·refine⟨_,if_neg hck,?_,λj hj=>h7 j (by simpa [Value.ownBlock] using hj)⟩
      have:=kl.cut bd;rw[Option.map_some,Addr.add_mid] at this;exact this
    have hq:w4.cell? ⟨g,72,none⟩=some (.int .i64 (n:Int)):=by
     rw[k9.cell,hc_n hp.sl (by rw[length_splice _ _ _ (by rw[hp.pl];exact he),hp.pl])]
    have hfz:w4.frozen? ⟨g,72,none⟩=false:=k9.froz _;obtain⟨n2,ky⟩:=EX (n+k)
    have hs2:(n:Int)+(k:Int)=(n2:Int):=by omega
    have hkL':(k:Int)<=(L:Int):=by omega
    have hn3:(n2:Int)<=1000000000064:=by omega
    have k2:=k9.set 72 (.int .i64 (n2:Int));rw[LC hp.sl (by rw[length_splice _ _ _ (by rw[hp.pl];exact he),hp.pl])] at k2;have hw:Only (λk=>k=g) wr (w4.setCell ⟨g,72,none⟩ (.int .i64 (n2:Int))):=ki.setCell (p:=⟨g,72,none⟩) (λ_=>rfl) _;have k7:Only (λk=>k=g) w4 (w4.setCell ⟨g,72,none⟩ (.int .i64 (n2:Int))):=(Only.refl (λk=>k=g) w4).setCell (p:=⟨g,72,none⟩) (λ_=>rfl) _
    have kh:xs.drop (i+k)=ys.drop k:=by rw[hf,List.drop_drop]
    have ko:all++xs.take (i+k)=al++zs:=by rw[hh,hu,hf,List.append_assoc,List.take_add]
    have kr:i+k<=xs.length:=by have:=HE.o;omega
    have ho:L - k<L:=by omega
    have k5:r=al.length % 64:=by rw[hr,hn]
    have hm:n2=(al++zs).length:=by rw[ky,Qb,h6,hn]
    by_cases hwh:r+k<64
    ·have hd:=hp.part zs kg (by rw[<-k5,h6];exact hwh)
     rw[<-k5] at hd
     have R1:Hid (Hs1 (w4.setCell ⟨g,72,none⟩ (.int .i64 (n2:Int))) g (all++xs.take (i+k))):=by
      show _
      rw[ko];exact⟨_,_,by rw[<-hm];exact k2,hd⟩
     have R2:Hid (Bs .u8 (w4.setCell ⟨g,72,none⟩ (.int .i64 (n2:Int))) (.slice A (L - k) (h5 - k)) (xs.drop (i+k))):=by
      show _
      rw[kh];exact km.keep k7 k4
     have R3:=Qa k4;have R4:=Qa (ht.trans hw (λ_ _ e=>e));have R5:=Qa (And.intro kr ho);obtain⟨r2,kv⟩:=EX (n2 % 64)
     have t1:(n2:Int) % 64=(r2:Int):=by omega
     have t2:((r2:Int) == 0)=false:=by rw[beq_eq_false_iff_ne];omega
     clear hp hn hr hk hL hu h6 hz h7 ht hg hh hf kg he k9 ki kl km k4 k2 hw k7 kh ko kr ho k5 hm hd hb4 on4 CB CN CS CF CO CZ HX HV kx kn ky kv hwh ks bi bg b4 k6 bj bf
     go_simp
     go_wp2
     go_roundw
     case rel=>exact⟨i+k,R5.o.1,R1.o,R2.o,λ_=>R3.o,R4.o⟩
     case measure=>exact R5.o.2
    ·have kc:r+k=64:=by omega
     have hd:=hp.whole zs kg (by rw[<-k5,h6];exact kc);rw[<-k5] at hd;obtain⟨kk,kf⟩:=EX (splice pc r zs);rw[<-kf] at hd k2;have ka:kk.length=64:=hd.pl;have TC:=Qa (On st kk hp.sl hp.w32 hd.pl hd.u8);obtain⟨W5,b0⟩:=EX (w4.setCell ⟨g,72,none⟩ (.int .i64 (n2:Int)));rw[<-b0] at k2 hw k7;obtain⟨SB,kj⟩:=EX (wl st);obtain⟨PB,ke⟩:=EX (bl kk);obtain⟨TB,kd⟩:=EX (wl (thru st kk));rw[<-kj,<-ke,<-kd] at TC
     have kq:TB.length=8:=by rw[kd,QJ,KW]
     have k8:SB.length=8:=by rw[kj,QJ,hp.sl]
     have b5:PB.length=64:=by rw[ke,Qr,ka]
     have kp:Blk W5 g 163 (SB++PB++[.int .i64 (n2:Int)]):=by rw[kj,ke];exact k2
     have ku:Blk W5 g 163 ([]++SB++(PB++[.int .i64 (n2:Int)])):=by rw[List.nil_append,<-List.append_assoc];exact kp
     have bq:Hid (W5.drew.rangeAt g 8 PB):=kp.drew.rangeN k8;have bc:Hid (W5.drew.rangeAt g 0 SB):=ku.drew.range
     have be:Hid ((prog.info? 161).map (·.size)=some PB.length):=by rw[b5];exact Tryz.size31
     have b1:Hid ((prog.info? 160).map (·.size)=some SB.length):=by rw[k8];exact Tryz.size30
     have b2:Hid ((prog.info? 160).map (·.size)=some TB.toArray.size):=by
      show _=_
      rw[List.size_toArray,kq];exact Tryz.size30
     have bo:Hid (TB.toArray.all (·.oneCell')=true):=by rw[kd];exact Ur _
     have b7:Hid (∀w6,N0 W5.drew w6->w6.there g 0 TB.toArray.size):=λw6 o=>(kp.past ((Only.refl (λ_=>False) W5).drew.same o)).there 0 TB.toArray.size (by
      rw[List.size_toArray,kq,Qb,Qb,k8];omega)
     have bn:Hid (∀w6,N0 W5.drew w6->Hs1 (w6.setCells g 0 TB) g (all++xs.take (i+k))∧Bs .u8 (w6.setCells g 0 TB) (.slice A (L - k) (h5 - k)) (xs.drop (i+k))∧Only (λk=>k=g) w (w6.setCells g 0 TB)):=λw6 o=>by
      have o1:Only (λk=>k=g) W5 w6:=((Only.refl (λ_=>False) W5).drew.same o).mono (λ_ _ f=>f.elim);have o2:Only (λk=>k=g) W5 (w6.setCells g 0 TB):=Only.setCells (S:=λk=>k=g) (λ_=>rfl) _ 0 w6 o1;refine⟨?_,?_,ht.trans (hw.trans o2 (λ_ _ e=>e)) (λ_ _ e=>e)⟩
      ·rw[ko]
       refine⟨_,_,?_,hd⟩;rw[<-hm];have h9:=Zx [] SB (PB++[.int .i64 (n2:Int)]) TB (by rw[kq,k8]) w6 g 163 (ku.past ((Only.refl (λ_=>False) W5).drew.same o));rw[List.nil_append,List.length_nil] at h9;unfold hc;rw[<-kd,<-ke,List.append_assoc];exact h9
      ·rw[kh]
       exact km.keep (k7.trans o2 (λ_ _ e=>e)) k4
     have R3:=Qa k4;have R5:=Qa (And.intro kr ho);have b3:=Qa b0
     have t1:(n2:Int) % 64=0:=by omega
     clear hp hn hr hk hL hu h6 hz h7 ht hg hh hf kg he k9 ki kl km k4 k2 hw k7 kh ko kr ho k5 hm hd hb4 on4 CB CN CS CF CO CZ HX HV kx kn ky hwh ks bi bg b4 k6 bj bf kc kf ka kp ku kj ke kd b0 kq k8 b5
     go_simp
     go_wp2_with fail;rw[<-b3.o];clear hq hfz b3;refine wp_region_any (by kernel_rfl) ?_
     change wpAny _ _ _ _ _ _ _ (World.drew _)
     refine wpAny_take (i:=0) (oi:=o6wr) (v:=?_) rfl (by kernel_rfl) (by kernel_rfl) (by kernel_rfl) (λ_ _ _ h=>h) (Or.inl ⟨by rfl,?_⟩) ?_
     rotate_left
     ·intro w;go_simp;try with_reducible rfl
     simp only[Act.put,Qn,Qk,Qm];refine wpAny_take (i:=1) (oi:=o7wr) (v:=?_) rfl (by kernel_rfl) (by kernel_rfl) (by kernel_rfl) (λ_ _ _ h=>h) (Or.inl ⟨by rfl,?_⟩) ?_
     rotate_left
     ·intro w;go_simp;try with_reducible rfl
     simp only[Act.put,Qn,Qk,Qm];refine wpAny_take (i:=2) (oi:=o8wr) (v:=?_) rfl (by kernel_rfl) (by kernel_rfl) (by kernel_rfl) (λ_ _ _ h=>h) (Or.inl ⟨by rfl,?_⟩) ?_
     rotate_left
     ·intro w;go_simp;try with_reducible rfl
     simp only[Act.put,Qn,Qk,Qm];refine wpAny_take (i:=3) (oi:=o9wr) (v:=?_) rfl (by kernel_rfl) (by kernel_rfl) (by kernel_rfl) (λ_ _ _ h=>h) (Or.inl ⟨by rfl,?_⟩) ?_
     rotate_left
     ·intro w;go_simp;try with_reducible rfl
     simp only[Act.put,Qn,Qk,Qm];refine wpAny_take (i:=5) (oi:=o10wr) (v:=?_) rfl (by kernel_rfl) (by kernel_rfl) (by kernel_rfl) (λ_ _ _ h=>h) (Or.inl ⟨by rfl,?_⟩) ?_
     rotate_left
     ·intro w;go_simp;try with_reducible rfl
     simp only[Act.put,Qn,Qk,Qm];refine wpAny_take (i:=6) (oi:=o11wr) (v:=?_) rfl (by kernel_rfl) (by kernel_rfl) (by kernel_rfl) (λ_ _ _ h=>h) (Or.inl ⟨by rfl,?_⟩) ?_
     rotate_left
     ·intro w;go_simp;try with_reducible rfl
     simp only[Act.put,Qn,Qk,Qm];refine wpAny_take (i:=7) (oi:=o12wr) (v:=?_) rfl (by kernel_rfl) (by kernel_rfl) (by kernel_rfl) (λ_ _ _ h=>h) (Or.inl ⟨by rfl,?_⟩) ?_
     rotate_left
     ·intro w;go_simp;try with_reducible rfl
     simp only[Act.put,Qn,Qk,Qm]
     repeat' (first
      | ((first
       | (have _:=m0;clear m0;rw[if_pos (by rfl)];refine wp_load_mid 160 (.tmp 53) rfl g 0 rfl SB _ bc.o underlying160 rfl b1.o ?_;have bb:=trivial)
       | (have _:=m1;clear m1;rw[if_pos (by rfl)];refine wp_load_mid 161 (.tmp 57) rfl g 8 rfl PB _ bq.o underlying161 rfl be.o ?_;have bk:=trivial));refine hK _ _ ?_;clear hK K;simp only[Act.put,Qn,Qk,Qm])
      | (
       have _:=m2;clear m2
       go_simp
       go_wp2_with (go_at_call 162;refine (TC.o _).mono ?_;rintro e w6 ⟨rfl,hw⟩);refine wpAny_take (i:=10) (oi:=o3wr) (v:=?_) rfl (by kernel_rfl) (by kernel_rfl) (by kernel_rfl) (λ_ _ _ h=>h) (Or.inl ⟨by rfl,?_⟩) ?_
       rotate_left
       ·intro w;go_simp;try with_reducible rfl
       simp only[Act.put,Qn,Qk,Qm];refine wpAny_take (i:=11) (oi:=o4wr) (v:=?_) rfl (by kernel_rfl) (by kernel_rfl) (by kernel_rfl) (λ_ _ _ h=>h) (Or.inl ⟨by rfl,?_⟩) ?_
       rotate_left
       ·intro w;go_simp;try with_reducible rfl
       simp only[Act.put,Qn,Qk,Qm];refine wpAny_ready (rs:=[12]) (by kernel_rfl) (by simp) ?_;refine AllReady.cons (o:=o5wr) rfl (λK hK=>?_) AllReady.nil;rw[if_pos (by rfl)];refine wp_store_mid 160 (.tmp 61) (.tmp 59) rfl g 0 TB.toArray rfl rfl (b7.o w6 hw) b2.o bo.o ?_;refine hK _ _ ?_;clear hK K;refine wpAny_done (by kernel_rfl) ?_ _;obtain⟨q1,q2,q3⟩:=bn.o w6 hw;have Q1:=Qa q1;have Q2:=Qa q2;have Q3:=Qa q3;clear q1 q2 q3 hw bn TC bc bq b1 be b2 bo b7
       go_simp
       go_wp2
       go_roundw
       case rel=>exact⟨i+k,R5.o.1,Q1.o,Q2.o,λ_=>R3.o,Q3.o⟩
       case measure=>exact R5.o.2)
      | (have _:=bb;have _:=bk;refine wpAny_ready (rs:=[9]) (by kernel_rfl) (by simp) (AllReady.cons (o:=o2wr) rfl (λK hK=>(λ(m2:True)=>?_) trivial) AllReady.nil))
      | (have _:=bb;refine wpAny_ready (rs:=[8]) (by kernel_rfl) (by simp) (AllReady.cons (o:=o1wr) rfl (λK hK=>(λ(m1:True)=>?_) trivial) AllReady.nil))
      | (have _:=bk;refine wpAny_ready (rs:=[4]) (by kernel_rfl) (by simp) (AllReady.cons (o:=o0wr) rfl (λK hK=>(λ(m0:True)=>?_) trivial) AllReady.nil))
      | (refine wpAny_ready (rs:=[4,8]) (by kernel_rfl) (by simp) (AllReady.cons (o:=o0wr) rfl (λK hK=>(λ(m0:True)=>?_) trivial) (AllReady.cons (o:=o1wr) rfl (λK hK=>(λ(m1:True)=>?_) trivial) AllReady.nil)))))
def zH:List Value:=hc (List.replicate 8 0) (List.replicate 64 0) 0
theorem Tryz.zero33:(prog.info? 163).map (λi=>(i.zero,i.size))=some (some (.agg zH.toArray),73):=by kernel_rfl
theorem I6:U8 (List.replicate 64 0):=λy hy=>by
 rw[List.mem_replicate] at hy;obtain⟨_,rfl⟩:=hy;decide
theorem Hs.zero (h:Blk w g 163 zH):Hs w g []:=.inr ⟨rfl,_,_,h,rfl,rfl,I6⟩
theorem Hs.blk {all:LI} (h:Hs w g all):∃cs,Blk w g 163 cs∧cs.length=73∧cs[72]? = some (.int .i64 (all.length:Int))∧(∀v∈cs,v.oneCell'=true)∧∀w' g',Blk w' g' 163 cs->Hs w' g' all:=by
 have h0:∀(st:List Nat) (pc:LI) (n:Nat),∀v∈hc st pc n,v.oneCell'=true:=λst pc n v hv=>by
  simp only[hc,List.mem_append,List.mem_singleton] at hv
  rcases hv with (h | h) | rfl
  ·exact Hy _ v h
  ·exact Ub _ v h
  ·rfl
 rcases h with ⟨st,pc,h1,h2⟩ | ⟨rfl,st,pc,h1,h2,h3,h4⟩
 ·exact⟨_,h1,VA h2.sl h2.pl _,hc_n h2.sl h2.pl _,h0 _ _ _,λw' g' h=>.inl ⟨st,pc,h,h2⟩⟩
 ·exact⟨_,h1,VA h2 h3 _,hc_n h2 h3 _,h0 _ _ _,λw' g' h=>.inr ⟨rfl,st,pc,h,h2,h3,h4⟩⟩
theorem LU {st:List Nat} {pc all:LI} (h:HP st pc (all++endS all.length)):st.flatMap be4=QE all:=by
 unfold QE;rw[yE,<-h.st]
theorem EM {lo:Nat} {xs:List Value} (h:w.ownsRow lo E 1 v n xs) {g:Nat} (hg:g<lo):∀k,v.ownBlock=some k->k≠g:=λk hk e=>by
 have:=(h.lt k hk).1;omega
theorem Xz (g:Nat) (all:LI) (w:World) (h:Hs w g all) (hl:all.length<=100000000000) :
 Calls prog 113 #[.pointer (some ⟨g,0,none⟩)] w λe w'=>∃v,e=.returned v∧w'.ownsRow w.heap.size 5 1 v 32 ((QE all).map (Value.int .u8))∧N0 w w':=by
 obtain⟨cs,h1,h2,h3,h4,h5⟩:=h.blk;have hj:=(zero_of_info (P:=prog) Tryz.zero33).1;obtain⟨Z,hZ⟩:=EX zH;rw[<-hZ] at hj
 have HZ:Hid (Z.toArray.size=cs.toArray.size):=by
  show _=_
  rw[hZ,List.size_toArray,List.size_toArray,h2];rfl
 have HS:Hid ((prog.info? 163).map (·.size)=some cs.toArray.size):=by
  show _=_
  rw[List.size_toArray,h2];exact Tryz.size33
 have HA:=Qa (all_oneCell_toArray h4);have HB:=Qa (h1.alloc (.cells Z.toArray 163));have hlt:=h1.lt;have h9:Blk ((w.alloc (.cells Z.toArray 163)).setRow w.heap.size cs.toArray) w.heap.size 163 cs:=(Blk.new w 163 Z).row cs;have hd:N0 w ((w.alloc (.cells Z.toArray 163)).setRow w.heap.size cs.toArray):=((Only.refl _ _).alloc _).setRow (λf=>absurd f (Nat.lt_irrefl _)) _;obtain⟨W1,ha⟩:=EX ((w.alloc (.cells Z.toArray 163)).setRow w.heap.size cs.toArray);rw[<-ha] at h9 hd;have hg:=Qa ha;have HH:=Qa (h5 _ _ h9);have HO:=Qa hd
 have hc:W1.cell? ⟨w.heap.size,72,none⟩=some (.int .i64 (all.length:Int)):=by rw[h9.cell,h3]
 rw[ha] at hc;clear h h1 h2 h3 h4 h5 hZ ha h9 hd;go_enter func113,ntmps113;go_wp2_with (first|(refine wpList_load_row rfl 163 (.tmp 7) rfl g rfl 163 cs.toArray (0,0) _ HB.o underlying163 rfl HS.o ?_)|(refine wpList_store_row rfl 163 (.tmp 3) (.tmp 8) rfl w.heap.size cs.toArray rfl rfl 163 Z.toArray (Blk.new w 163 Z) HS.o HZ.o HA.o ?_));rw[<-hg.o];clear hc;refine (Df all.length (by omega) W1).mono ?_;rintro e w2 ⟨v2,rfl,h6,h7⟩;have hf:w.heap.size<W1.heap.size:=HH.o.lt;have hsz1:=HO.o.size;have b2:Bs .u8 w2 v2 (endS all.length):=Bs.of_own (by rw[Hr];exact h6);have WC:=Qa (WP w.heap.size all (endS all.length) v2 w2 (HH.o.past h7) b2 (El _) (λ_=>EM h6 hf) (by rw[Hr];have:=Hc all.length;omega));have O2:=Qa (HO.o.same h7)
 have HG2:Hid (w.heap.size<w2.heap.size):=by have:=h7.size;show _ < _;omega
 obtain⟨ao2,cap2,e2⟩:=b2.len;subst e2;clear h6 b2 h7 hf hg HH HB hj HZ HS HA;go_wp2_with fail;refine WC.o.mono ?_;rintro e w3 ⟨rfl,⟨st,pc,hb,h8⟩,hh⟩;have O3:N0 w w3:=O2.o.trans hh (λi hi e=>by omega)
 have he:Blk w3 w.heap.size 163 ([]++wl st++(bl pc++[.int .i64 (((all++endS all.length).length:Nat):Int)])):=by
  unfold hc at hb;rw[List.nil_append,<-List.append_assoc];exact hb
 have R0:Hid (w3.rangeAt w.heap.size 0 (wl st)):=he.range
 have SZ:Hid ((prog.info? 160).map (·.size)=some (wl st).length):=by
  show _=_
  rw[QJ,h8.sl];exact Tryz.size30
 have BC:=Qa (Ou st h8.sl w3);rw[LU h8] at BC;have hk:=Qa O3;clear hb he hh O3 h8 O2 WC;go_wp2_with (refine wpList_load_mid rfl 160 (.tmp 13) rfl w.heap.size 0 rfl (wl st) _ R0.o underlying160 rfl SZ.o ?_);refine BC.o.mono ?_;rintro e w4 ⟨v4,rfl,h0,hm⟩;have F1:=Qa (Qv h0 hk.o.size);have F2:=Qa (hk.o.same hm);obtain⟨ao4,cap4,e4⟩:=(Bs.of_own (k:=.u8) (xs:=QE all) (by rw[YK];exact h0)).len;subst e4;clear h0 hm BC;go_wp2;go_ret;exact⟨_,rfl,F1.o,F2.o⟩
theorem Hv (v:Value) (xs:LI) (w:World) (hb:Bs .u8 w v xs) (h8:U8 xs) (hl:xs.length<=100000000000) :
 Calls prog 73 #[v] w λe w'=>∃v',e=.returned v'∧w'.ownsRow w.heap.size 5 1 v' 32 ((QE xs).map (Value.int .u8))∧N0 w w':=by
 have hzv:=(zero_of_info (P:=prog) Tryz.zero33).1;obtain⟨Z,hZ⟩:=EX zH;rw[<-hZ] at hzv;have h4:Blk (w.alloc (.cells Z.toArray 163)) w.heap.size 163 Z:=Blk.new w 163 Z;have h2:N0 w (w.alloc (.cells Z.toArray 163)):=(Only.refl _ _).alloc _;have WC:=Qa (WP w.heap.size [] xs v (w.alloc (.cells Z.toArray 163)) (Hs.zero (by rw[<-hZ];exact h4)) (hb.past h2) h8 (λhx k hk e=>by have:=hb.blk_lt hx k hk;omega) (by simpa using Nat.le_trans hl (by decide)));have HO:=Qa h2;clear hZ h4 h2 hb h8;go_enter func73,ntmps73;go_wp2_with fail;refine WC.o.mono ?_;rintro e w3 ⟨rfl,h1,h3⟩;rw[List.nil_append] at h1;have h5:=Qa (HO.o.trans h3 (λi hi e=>by omega));have BC:=Qa (Xz w.heap.size xs w3 (.inl h1) hl);clear h1 h3 WC HO;go_wp2_with fail;refine BC.o.mono ?_;rintro e w4 ⟨v4,rfl,h0,h6⟩;have F1:=Qa (Qv h0 h5.o.size);have F2:=Qa (h5.o.same h6);obtain⟨ao4,cap4,e4⟩:=(Bs.of_own (k:=.u8) (xs:=QE xs) (by rw[YK];exact h0)).len;subst e4;clear h0 h6 BC;go_wp2;go_ret;exact⟨_,rfl,F1.o,F2.o⟩
def z64:List Value:=bl (List.replicate 64 0)
theorem Tryz.zero42h:(prog.info? 161).map (λi=>(i.zero,i.size))=some (some (.agg z64.toArray),64):=by kernel_rfl
theorem Gq (v:Value) (xs:LI) (W:World) (G:Nat) (hN:Blk W G 161 z64) (hb:Bs .u8 W v xs) (hl:xs.length<=64) :
 ∃w3,(Builtin.copy_ #[23,23] 3 #[.slice (some ⟨G,0,none⟩) 64 64,v]).run prog W=.ok (.int .i64 (xs.length:Int)) w3∧Blk w3 G 161 (bl (xs++List.replicate (64 - xs.length) 0))∧Only (λk=>k=G) W w3:=by
 have hb0:=hb;obtain⟨ao,cap,rfl,hc,hr⟩:=hb
 by_cases h0:xs=[]
 ·subst h0
  exact⟨W,run_copy_none (P:=prog) W 23 23 3 5 _ _ 64 64 0 cap underlying23 Tryz.one5 rfl,hN,Only.refl _ _⟩
 ·obtain⟨b,off,rfl,h2⟩:=hr h0
  have h1:=run_copy_row (P:=prog) W 23 23 3 5 G 0 64 64 ⟨b,off,none⟩ xs.length cap z64.toArray 161 (bl xs) underlying23 Tryz.one5 hN
   (by rw[Qr];exact (Nat.min_eq_left hl).symm) hb0.news (by rw[Qr];simp[z64,Qr];omega) (Ub _)
  rw[show goInt ((bl xs).length:Int)=.int .i64 (xs.length:Int) by rw[Qr];rfl] at h1;refine⟨_,h1,?_,(Only.refl (λk=>k=G) W).setRow (λ_=>rfl) _⟩
  have e:bl (xs++List.replicate (64 - xs.length) 0)=z64.toArray.toList.take 0++bl xs++z64.toArray.toList.drop (0+(bl xs).length):=by
   show _=List.take 0 z64++bl xs++List.drop (0+(bl xs).length) z64
   rw[Qr,Nat.zero_add,List.take_zero,List.nil_append];unfold z64 bl;rw[List.map_append,List.map_replicate,List.map_replicate,List.drop_replicate]
  rw[e];exact hN.row _
theorem Do (v:Value) (xs:LI) (w:World) (hb:Bs .u8 w v xs) (hl:xs.length<=64) :
 Calls prog 121 #[v] w λe w'=>e=.returned (.agg (bl (pad64 xs)).toArray)∧N0 w w':=by
 have hk:keyS xs=xs:=if_neg (by omega);have hzv:=(zero_of_info (P:=prog) Tryz.zero42h).1;obtain⟨Z,hZ⟩:=EX z64;rw[<-hZ] at hzv;obtain⟨W1,h0⟩:=EX ((w.alloc (.cells Z.toArray 161)).alloc (.cells Z.toArray 161))
 have h8:Blk W1 w.heap.size 161 Z:=by rw[h0];exact (Blk.new w 161 Z).alloc _
 have h6:Blk W1 (w.heap.size+1) 161 Z:=by
  have:=Blk.new (w.alloc (.cells Z.toArray 161)) 161 Z;rw[size_alloc] at this;rw[h0];exact this
 have h5:N0 w W1:=by rw[h0];exact ((Only.refl _ _).alloc _).alloc _
 obtain⟨w3,h7,h1,h2⟩:=Gq v xs W1 (w.heap.size+1) (by rw[<-hZ];exact h6) (hb.past h5) hl
 have hp:bl (xs++List.replicate (64 - xs.length) 0)=bl (pad64 xs):=by unfold pad64;rw[hk]
 rw[hp] at h1;obtain⟨C,hC⟩:=EX (bl (pad64 xs))
 have h3:C.length=64:=by rw[hC,Qr,Xb]
 rw[<-hC] at h1 ⊢;have H3:=Qa h1;have H2:=Qa (h8.keep h2 (by omega));have HO:=Qa (h5.trans h2 (λk hk e=>by omega))
 have h4:Hid ((prog.info? 161).map (·.size)=some C.toArray.size):=by
  show _=_
  rw[List.size_toArray,h3];exact Tryz.size31
 have HZ2:Hid (Z.toArray.size=C.toArray.size):=by
  show _=_
  rw[List.size_toArray,List.size_toArray,h3,hZ];simp[z64,Qr]
 have HA:Hid (C.toArray.all (·.oneCell')=true):=by
  show _=_
  rw[hC];exact all_oneCell_toArray (Ub _)
 obtain⟨ao,cap,rfl⟩:=hb.len;obtain⟨m,hm⟩:=EX xs.length;rw[<-hm] at h7 ⊢;have d1:decide ((64:Int)<(m:Int))=false:=Qj (by omega);have d1':decide (64<m)=false:=Qj (by omega);rw[h0] at h7;clear hZ h0 h8 h6 h5 h1 h2 hp hC h3 hm hb hk hl;go_enter func121,ntmps121;go_wp2_with (first|(refine wpList_load_row rfl 161 (.tmp 3) rfl (w.heap.size+1) rfl 161 C.toArray (0,0) _ H3.o underlying161 rfl h4.o ?_)|(refine wpList_store_row rfl 161 (.tmp 2) (.tmp 12) rfl w.heap.size C.toArray rfl rfl 161 Z.toArray H2.o h4.o HZ2.o HA.o ?_));refine bodyPost_ret (v:=.agg C.toArray) (results_cell_row rfl _ _ w.heap.size 161 C.toArray (0,0) _ rfl (setRow_heap _ _ _ _ 161 _ H2.o) underlying161 rfl h4.o) rfl ⟨rfl,?_⟩;exact HO.o.setRow (λh=>absurd h (Nat.lt_irrefl _)) _
theorem Cp (v:Value) (xs:LI) (w:World) (hb:Bs .u8 w v xs) (h8:U8 xs) (hl:64<xs.length) (hl2:xs.length<=100000000000) :
 Calls prog 121 #[v] w λe w'=>e=.returned (.agg (bl (pad64 xs)).toArray)∧N0 w w':=by
 have hk:keyS xs=QE xs:=if_pos hl;have hzv:=(zero_of_info (P:=prog) Tryz.zero42h).1;obtain⟨Z,hZ⟩:=EX z64;rw[<-hZ] at hzv;obtain⟨C,hC⟩:=EX (bl (pad64 xs))
 have h5:C.length=64:=by rw[hC,Qr,Xb]
 have hp:bl (QE xs++List.replicate (64 - (QE xs).length) 0)=C:=by rw[hC];unfold pad64;rw[hk]
 have HP:=Qa hp;rw[<-hC]
 have h6:Hid ((prog.info? 161).map (·.size)=some C.toArray.size):=by
  show _=_
  rw[List.size_toArray,h5];exact Tryz.size31
 have HZ2:Hid (Z.toArray.size=C.toArray.size):=by
  show _=_
  rw[List.size_toArray,List.size_toArray,h5,hZ];simp[z64,Qr]
 have HA:Hid (C.toArray.all (·.oneCell')=true):=by
  show _=_
  rw[hC];exact all_oneCell_toArray (Ub _)
 have h9:N0 w (w.alloc (.cells Z.toArray 161)):=(Only.refl _ _).alloc _;have SU:=Qa (Hv v xs (w.alloc (.cells Z.toArray 161)) (hb.past h9) h8 hl2);have h7:=Qa (Blk.new w 161 Z);have h3:=Qa h9;have HZ:=Qa hZ;obtain⟨ao,cap,rfl⟩:=hb.len;obtain⟨m,hm⟩:=EX xs.length;rw[<-hm] at SU ⊢;have d1:decide ((64:Int)<(m:Int))=true:=Qf (by omega);have d1':decide (64<m)=true:=Qf (by omega);clear hZ h9 hp hC h5 hm hb hk hl h8 hl2;go_enter func121,ntmps121;go_wp2_with fail;refine SU.o.mono ?_;rintro e w2 ⟨v2,rfl,h0,h1⟩;have b2:Bs .u8 w2 v2 (QE xs):=Bs.of_own (by rw[YK];exact h0);obtain⟨G,hG⟩:=EX w2.heap.size
 have ha:Blk (w2.alloc (.cells Z.toArray 161)) G 161 Z:=by rw[hG];exact Blk.new w2 161 Z
 obtain⟨w3,hcp,h4,h2⟩:=Gq v2 (QE xs) (w2.alloc (.cells Z.toArray 161)) G (by rw[<-HZ.o];exact ha) (b2.past ((Only.refl _ _).alloc _)) (by rw[YK];decide);rw[HP.o] at h4;have hlt:=h7.o.lt;have hs2:=h1.size;have H3:=Qa h4;have H2:=Qa (((h7.o.past h1).alloc (.cells Z.toArray 161)).keep h2 (by omega));have HO:=Qa (((h3.o.same h1).alloc (.cells Z.toArray 161)).trans h2 (λk hk e=>by have:=h3.o.size;omega));obtain⟨ao2,cap2,e2⟩:=b2.len;subst e2;rw[hG] at hcp H3;clear h4 h2 ha h0 h1 b2 SU hG hlt hs2 h7 h3 HZ;go_wp2_with (first|(refine wpList_load_row rfl 161 (.tmp 3) rfl w2.heap.size rfl 161 C.toArray (0,0) _ H3.o underlying161 rfl h6.o ?_)|(refine wpList_store_row rfl 161 (.tmp 2) (.tmp 12) rfl w.heap.size C.toArray rfl rfl 161 Z.toArray H2.o h6.o HZ2.o HA.o ?_));refine bodyPost_ret (v:=.agg C.toArray) (results_cell_row rfl _ _ w.heap.size 161 C.toArray (0,0) _ rfl (setRow_heap _ _ _ _ 161 _ H2.o) underlying161 rfl h6.o) rfl ⟨rfl,?_⟩;exact HO.o.setRow (λh=>absurd h (Nat.lt_irrefl _)) _
theorem yu (v:Value) (xs:LI) (w:World) (hb:Bs .u8 w v xs) (h8:U8 xs) (hl2:xs.length<=100000000000) :
 Calls prog 121 #[v] w λe w'=>e=.returned (.agg (bl (pad64 xs)).toArray)∧N0 w w':=by
 by_cases h:64<xs.length
 ·exact Cp v xs w hb h8 h hl2
 ·exact Do v xs w hb (by omega)
theorem Tryz.zero42m:(prog.info? 161).map (λi=>(i.zero,i.size))=some (some (.agg (bl (List.replicate 64 0)).toArray),64):=by kernel_rfl
def mkd (x:Nat) (k:LI) (j:Nat):LI:=(xorB x k).take j++k.drop j
theorem L6 (x:Nat) (k:LI) (j:Nat) (hj:j<=k.length):(mkd x k j).length=k.length:=by
 unfold mkd;rw[Qb,Qd,Qq,Wt];omega
theorem Fa (x:Nat) (k:LI) (j:Nat) (hj:j<k.length):(mkd x k j).getD j 0=k.getD j 0:=by
 unfold mkd;rw[Qc,List.getElem?_append_right (by rw[Qd,Wt];omega),Qd,Wt,Nat.min_eq_left (by omega),Nat.sub_self,List.getElem?_drop,Nat.add_zero,Qc]
theorem FH (x:Nat) (k:LI) (j:Nat) (hj:j<k.length):(mkd x k j).set j (((k.getD j 0).toNat ^^^ x:Nat):Int)=mkd x k (j+1):=by
 unfold mkd;rw[List.set_append_right _ _ (by rw[Qd];omega),Qd,Wt,Nat.min_eq_left (by omega),Nat.sub_self,List.take_add_one]
 have e:(xorB x k)[j]? = some (((k.getD j 0).toNat ^^^ x:Nat):Int):=by
  unfold xorB;rw[List.getElem?_map,Qe hj,Qc,Qe hj];rfl
 rw[e,List.drop_eq_getElem_cons hj,Qk,List.append_assoc]
 rfl
theorem F7 (x:Nat) (k:LI) (n:Nat) (hn:k.length=n):mkd x k n=xorB x k:=by
 unfold mkd;rw[List.take_of_length_le (by rw[Wt];omega),List.drop_of_length_le (by omega),List.append_nil]
theorem Al (k:LI) (hk:k.length=64) (h8:U8 k) (x:Nat) (hx:x<256) (w:World) :
 Calls prog 123 #[.agg (bl k).toArray,.int .u8 (x:Int)] w λe w'=>e=.returned (.agg (bl (xorB x k)).toArray)∧N0 w w':=by
 have h7:=(zero_of_info (P:=prog) Tryz.zero42m).1;obtain⟨Z,hZ⟩:=EX (bl (List.replicate 64 0));rw[<-hZ] at h7;obtain⟨B,hB⟩:=EX (bl k);obtain⟨C,hC⟩:=EX (bl (xorB x k))
 have h2:C.length=64:=by rw[hC,Qr,Wt,hk]
 have h3:Hid ((prog.info? 161).map (·.size)=some C.toArray.size):=by
  show _=_
  rw[List.size_toArray,h2];exact Tryz.size31
 have HZ2:Hid (Z.toArray.size=C.toArray.size):=by
  show _=_
  rw[List.size_toArray,List.size_toArray,h2,hZ];simp[Qr]
 have HA:Hid (C.toArray.all (·.oneCell')=true):=by
  show _=_
  rw[hC];exact all_oneCell_toArray (Ub _)
 have HC:Hid (bl (mkd x k 64)=C):=by
  show _=_
  rw[F7 x k 64 hk,hC]
 rw[<-hC,<-hB]
 have HB:Hid (B=bl (mkd x k 0)):=by
  show _=_
  rw[hB];simp[mkd]
 have HK:=Qa (And.intro hk (And.intro h8 hx));clear hZ hB hC h2 hk h8 hx;go_enter func123,ntmps123;go_wp2;have S0:Hid (Blk ((w.alloc (.cells B.toArray 161)).alloc (.cells Z.toArray 161)) w.heap.size 161 (bl (mkd x k 0))):=Eq.mp (congrArg (Blk _ w.heap.size 161) HB.o) ((Blk.new w 161 B).alloc _)
 have R0:Hid (Blk ((w.alloc (.cells B.toArray 161)).alloc (.cells Z.toArray 161)) (w.heap.size+1) 161 Z):=by
  have:=Blk.new (w.alloc (.cells B.toArray 161)) 161 Z;rw[size_alloc] at this;exact this
 have O0:Hid (N0 w ((w.alloc (.cells B.toArray 161)).alloc (.cells Z.toArray 161))):=((Only.refl _ _).alloc _).alloc _;obtain⟨W0,h1⟩:=EX (((w.alloc (.cells B.toArray 161)).alloc (.cells Z.toArray 161)));obtain⟨G,hG⟩:=EX w.heap.size;obtain⟨R,hR⟩:=EX (w.heap.size+1);rw[<-hG,<-h1] at S0;rw[<-hR,<-h1] at R0;rw[<-h1] at O0;rw[<-hR,<-hG,<-h1];have HG:Hid (w.heap.size<=G∧w.heap.size<=R∧R≠G):=⟨by omega,by omega,by omega⟩;clear hG hR h1 h7 HB
 go_loopw [6] (λi wr=>∃j:Nat,j<=64∧i=.int .i64 j∧Hid (Blk wr G 161 (bl (mkd x k j)))∧Hid (Blk wr R 161 Z)∧Hid (N0 w wr)) (λi _=>64 - (intOf i).toNat)
 case atStart=>exact⟨0,by omega,rfl,S0,R0,O0⟩
 case round =>
  obtain⟨j,hj,rfl,hS,hR,hO⟩:=hrel;clear S0 R0 O0
  by_cases hlt:j<64
  ·obtain⟨y,hy⟩:=EX (k.getD j 0)
   have h6:=HK.o.2.1.at j;rw[<-hy] at h6;obtain⟨y0,y1⟩:=h6
   have h5:wr.cell? ⟨G,j,none⟩=some (.int .u8 y):=by
    rw[hS.o.cell,bl_at _ _ (by rw[L6 _ _ _ (by rw[HK.o.1];omega),HK.o.1];exact hlt),Fa _ _ _ (by rw[HK.o.1];exact hlt),hy]
   have hfr:wr.frozen? ⟨G,j,none⟩=false:=hS.o.froz _;have h0:=u8_xor y (x:Int) y0 (by omega) (by omega) (by have:=HK.o.2.2;omega);rw[Int.toNat_natCast] at h0;obtain⟨q,hq⟩:∃q:Int,q=((y.toNat ^^^ x:Nat):Int):=⟨_,rfl⟩;rw[<-hq] at h0
   have i0:(0:Int)<=(j:Int):=by omega
   have i1:(j:Int)<64:=by omega
   have N1:Hid (Blk (wr.setCell ⟨G,j,none⟩ (.int .u8 q)) G 161 (bl (mkd x k (j+1)))):=by
    have:=hS.o.set j (.int .u8 q);rw[Vm,hq,hy,FH _ _ _ (by rw[HK.o.1];exact hlt)] at this;rw[hq,hy];exact this
   have h4:=(Only.refl (λk=>k=G) wr).setCell (p:=⟨G,j,none⟩) (λ_=>rfl) (.int .u8 q);have N2:=Qa (hR.o.keep h4 HG.o.2.2);have N3:=Qa (hO.o.trans h4 (λi hi e=>by have:=HG.o.1;omega));clear hy hS hR hO h4 hq;go_wp2
   go_roundw
   case rel=>exact⟨j+1,by omega,by go_num,N1,N2,N3⟩
   case measure=>simp[intOf];omega
  ·obtain rfl:j=64:=by omega
   rw[HC.o] at hS;go_wp2_with (first|(refine wpList_load_row rfl 161 (.tmp 2) rfl G rfl 161 C.toArray (0,0) _ hS.o underlying161 rfl h3.o ?_)|(refine wpList_store_row rfl 161 (.tmp 4) (.tmp 16) rfl R C.toArray rfl rfl 161 Z.toArray hR.o h3.o HZ2.o HA.o ?_));refine bodyPost_ret (v:=.agg C.toArray) (results_cell_row rfl _ _ R 161 C.toArray (0,0) _ rfl (setRow_heap _ _ _ _ 161 _ hR.o) underlying161 rfl h3.o) rfl ⟨rfl,?_⟩;exact hO.o.setRow (λh=>absurd h (by have:=HG.o.2.1;omega)) _
def pcat (ls:Nat->LI):Nat->LI
 | 0=>[]
 | k+1=>pcat ls k++ls k
theorem Rn (ls:Nat->LI) (k n:Nat) (h:k<=n):(pcat ls k).length<=(pcat ls n).length:=by
 induction n with
 | zero =>
  obtain rfl:k=0:=by omega
  exact Nat.le_refl _
 | succ n ih =>
  by_cases e:k=n+1
  ·subst e;exact Nat.le_refl _
  ·have:=ih (by omega)
   rw[pcat,Qb];omega
def Ps (w:World) (p n:Nat) (ls:Nat->LI):Prop:=∀i,i<n->∃u,w.cell? ⟨p,i,none⟩=some u∧Bs .u8 w u (ls i)∧U8 (ls i)
theorem Uw {q:Addr} {u:Value} (h:w.cell? q=some u) (o:N0 w w'):w'.cell? q=some u:=by
 rw[<-h];exact World.cell?_of_block (o.block _ (World.block_lt_of_cell? w _ h) (λf=>f))
theorem Ps.past {ls:Nat->LI} (h:Ps w p n ls) (o:N0 w w'):Ps w' p n ls:=λi hi=>by
 obtain⟨u,h1,h2,h3⟩:=h i hi;exact⟨u,Uw h1 o,h2.past o,h3⟩
theorem Blk.bs {t:TypeId} (h:Blk w g t (bl xs)) (n:Nat) (hn:xs.length=n):Bs .u8 w (.slice (some ⟨g,0,none⟩) n n) xs:=by
 subst hn;refine⟨_,_,rfl,Nat.le_refl _,λ_=>⟨g,0,rfl,λj hj=>?_⟩⟩;rw[Nat.zero_add,h.cell,bl_at _ _ hj]
theorem Ps.one {u:Value} (h:Bs .u8 w u xs) (h8:U8 xs):Ps (w.alloc (.cells #[u] 23)) w.heap.size 1 (λ_=>xs):=λi hi=>by
 obtain rfl:i=0:=by omega
 refine⟨u,?_,h.past ((Only.refl _ _).alloc _),h8⟩;have:=(Blk.new w 23 [u]).cell 0;rw[this];rfl
theorem Ka (xs:LI):pcat (λ_=>xs) 1=xs:=List.nil_append _
def ptwo (a b:LI) (i:Nat):LI:=if i=0 then a else b
theorem Gb (a b:LI):pcat (ptwo a b) 2=a++b:=by
 show (([]++a)++b:LI)=_
 rw[List.nil_append]
theorem Ps.two {p u:Value} {a b:LI} (ha:Bs .u8 w p a) (hb:Bs .u8 w u b) (a8:U8 a) (b8:U8 b) :
 Ps (w.alloc (.cells #[p,u] 23)) w.heap.size 2 (ptwo a b):=λi hi=>by
 have o:N0 w (w.alloc (.cells #[p,u] 23)):=(Only.refl _ _).alloc _;have hB:=Blk.new w 23 [p,u]
 rcases (show i=0∨i=1 by omega) with rfl | rfl
 ·exact⟨p,hB.cell 0,ha.past o,a8⟩
 ·exact⟨u,hB.cell 1,hb.past o,b8⟩
theorem TZ (f:LI) (hf:f.length=64) (h8:U8 f) (p n:Nat) (ls:Nat->LI) (w:World) (hp:Ps w p n ls) (hl:(pcat ls n).length<=10000000000) (hn:n<=1000) :
 Calls prog 122 #[.agg (bl f).toArray,.slice (some ⟨p,0,none⟩) n n] w λe w'=>∃v,e=.returned v∧w'.ownsRow w.heap.size 5 1 v 32 ((QE (f++pcat ls n)).map (Value.int .u8))∧N0 w w':=by
 have hd:=(zero_of_info (P:=prog) Tryz.zero33).1;obtain⟨Z,hZ⟩:=EX zH;rw[<-hZ] at hd;obtain⟨W1,h1⟩:=EX ((w.alloc (.cells (bl f).toArray 161)).alloc (.cells Z.toArray 163))
 have he:Blk W1 w.heap.size 161 (bl f):=by rw[h1];exact (Blk.new w 161 (bl f)).alloc _
 have h6:Blk W1 (w.heap.size+1) 163 zH:=by
  have:=Blk.new (w.alloc (.cells (bl f).toArray 161)) 163 Z;rw[size_alloc] at this;rw[h1,<-hZ];exact this
 have hh:N0 w W1:=by rw[h1];exact ((Only.refl _ _).alloc _).alloc _
 have WC:=Qa (WP (w.heap.size+1) [] f (.slice (some ⟨w.heap.size,0,none⟩) 64 64) W1 (Hs.zero h6) (he.bs 64 hf) h8 (λ_ k hk e=>by simp[Value.ownBlock] at hk;omega) (by rw[hf];decide));rw[hf] at WC;have h9:=Qa hh;have h3:=Qa h1;have HP:=Qa hp;have HF:=Qa hf;obtain⟨B,hB⟩:=EX (bl f);rw[<-hB] at h3 ⊢;obtain⟨G,hG⟩:=EX (w.heap.size+1);have HG:=Qa hG;clear hZ h1 he h6 hh hp hf h8 hB hG;go_enter func122,ntmps122;go_wp2_with fail;rw[<-h3.o];refine WC.o.mono ?_;rintro e w3 ⟨rfl,h4,ha⟩;rw[List.nil_append] at h4
 have S0:Hid (Hs w3 G (f++pcat ls 0)):=by
  show _
  rw[show f++pcat ls 0=f from List.append_nil f,HG.o];exact .inl h4
 have O0:=Qa (h9.o.trans ha (λi hi e=>by omega));rw[<-HG.o];clear h4 ha WC h3 h9 hd;go_wp2
 go_loopw [12] (λi wr=>∃j:Nat,j<=n∧i=.int .i64 j∧Hid (Hs wr G (f++pcat ls j))∧Hid (N0 w wr)) (λi _=>n - (intOf i).toNat)
 case atStart=>exact⟨0,by omega,rfl,S0,O0⟩
 case round =>
  obtain⟨j,hj,rfl,hS,hO⟩:=hrel;clear S0 O0
  by_cases hlt:j<n
  ·obtain⟨u,hu,h5,hg⟩:=HP.o j hlt
   have hc:wr.cell? ⟨p,j,none⟩=some u:=Uw hu hO.o;have h7:=Rn ls (j+1) n (by omega);have A:=Qa (WP G (f++pcat ls j) (ls j) u wr hS.o (h5.past hO.o) hg (λhx k hk e=>by have:=h5.blk_lt hx k hk;have:=HG.o;omega) (by rw[pcat,Qb] at h7;rw[Qb,HF.o];omega));have dlt:decide ((j:Int)<(n:Int))=true:=Qf (by omega);have dlt':decide (j<n)=true:=Qf hlt
   have i0:(0:Int)<=(j:Int):=by omega
   have i1:(j:Int)<(n:Int):=by omega
   clear hu h5 hg hS h7;go_wp2_with fail;refine A.o.mono ?_;rintro e w4 ⟨rfl,hb,h2⟩
   have N1:Hid (Hs w4 G (f++pcat ls (j+1))):=by
    show _
    rw[pcat,<-List.append_assoc];exact .inl hb
   have N2:=Qa (hO.o.trans h2 (λi hi e=>by have:=HG.o;omega));clear hb h2 A hO hc;go_wp2
   go_roundw
   case rel=>exact⟨j+1,by omega,by go_num,N1,N2⟩
   case measure=>simp[intOf];omega
  ·obtain rfl:j=n:=by omega
   have A:=Qa (Xz G (f++pcat ls j) wr hS.o (by rw[Qb,HF.o];omega));have dlt:decide ((j:Int)<(j:Int))=false:=Qj (by omega);clear hS;go_wp2_with fail;refine A.o.mono ?_;rintro e w4 ⟨v4,rfl,h0,h2⟩;have F1:=Qa (Qv h0 hO.o.size);have F2:=Qa (hO.o.same h2);obtain⟨ao4,cap4,e4⟩:=(Bs.of_own (k:=.u8) (xs:=QE (f++pcat ls j)) (by rw[YK];exact h0)).len;subst e4;clear h0 h2 A;go_wp2;go_ret;exact⟨_,rfl,F1.o,F2.o⟩
end Go.Proofs.YtiochaeeoelmjaaGreatDoor
