import Derived.Test.YtoflhbghdlaeaaaGreatDoorG6
namespace Go.Proofs.YtoflhbghdlaeaaaGreatDoor
set_option maxHeartbeats 1600000
set_option maxRecDepth 100000
open Go.RowKit _root_.Go.Proofs.Tryz
variable {w w' W:World} {v:Value} {ys xs l:LI} {R n p k g B:Nat} {P:Program} {ls:List (LI)} {E:TypeId}
theorem Bs.keepE {k:IntKind} (h:Bs k w v xs) {S:Nat->Prop} (ho:Only S w w') (hs:xs≠[]->∀b,v.ownBlock=some b->¬S b):Bs k w' v xs:=by
 by_cases hx:xs=[]
 ·subst hx
  obtain⟨ao,cap,rfl,hc,_⟩:=h;exact⟨ao,cap,rfl,hc,λh=>absurd rfl h⟩
 ·exact h.keep ho (hs hx)
theorem uJ (g:Nat) (st:List Nat) (pc:LI) (w w1:World) (h:Blk w g 119 (hc st pc 0)) (h2:st.length=8) (h3:pc.length=64) (h4:U8 pc) (on1:N0 w w1) :
 Hs1 (w1.setCells g 0 (wl shH)) g []∧Only (λk=>k=g) w (w1.setCells g 0 (wl shH)):=by
 refine⟨⟨shH,pc,?_,HP.start pc h3 h4⟩,?_⟩
 ·have:=Gf [] (wl st) (bl pc++[.int .i64 ((0:Nat):Int)]) (wl shH) (by rw[QQ,QQ,h2];rfl) w1 g 119 (by have:=h.past on1;unfold hc at this;simpa using this)
  unfold hc
  simpa using this
 ·exact Only.setCells (S:=λk=>k=g) (λ_=>rfl) (wl shH) 0 w1 (on1.mono (λ_ _ f=>f.elim))
abbrev o0wr : Oper:={ dst:=some 54,op:=Op.load 116 (Operand.tmp 53),type:=116,pos:="sha.go:48",after:=#[{ on:=3,ground:=Ground.data }],guard:=none }
abbrev o1wr : Oper:={ dst:=some 58,op:=Op.load 117 (Operand.tmp 57),type:=117,pos:="sha.go:48",after:=#[{ on:=7,ground:=Ground.data }],guard:=none }
abbrev o2wr : Oper:={ dst:=some 59,op:=Op.call { callee:=Callee.value (Operand.func 104),args:=#[Operand.tmp 54,Operand.tmp 58],argTypes:=#[116,117] },type:=116,pos:="sha.go:48",after:=#[{ on:=4,ground:=Ground.data },{ on:=8,ground:=Ground.data }],guard:=none }
abbrev o3wr : Oper:={ dst:=some 60,op:=Op.nilCheck (Operand.tmp 50),type:=0,pos:="sha.go:48",after:=#[{ on:=0,ground:=Ground.data },{ on:=0,ground:=Ground.phase },{ on:=1,ground:=Ground.phase },{ on:=2,ground:=Ground.phase },{ on:=3,ground:=Ground.phase },{ on:=4,ground:=Ground.phase },{ on:=5,ground:=Ground.phase },{ on:=6,ground:=Ground.phase },{ on:=7,ground:=Ground.phase },{ on:=8,ground:=Ground.phase },{ on:=9,ground:=Ground.phase }],guard:=none }
abbrev o4wr : Oper:={ dst:=some 61,op:=Op.fieldAddr 119 (Operand.tmp 60) 0,type:=0,pos:="sha.go:48",after:=#[{ on:=10,ground:=Ground.data },{ on:=0,ground:=Ground.phase },{ on:=1,ground:=Ground.phase },{ on:=2,ground:=Ground.phase },{ on:=3,ground:=Ground.phase },{ on:=4,ground:=Ground.phase },{ on:=5,ground:=Ground.phase },{ on:=6,ground:=Ground.phase },{ on:=7,ground:=Ground.phase },{ on:=8,ground:=Ground.phase },{ on:=9,ground:=Ground.phase }],guard:=none }
abbrev o5wr : Oper:={ dst:=none,op:=Op.store 116 (Operand.tmp 61) (Operand.tmp 59),type:=0,pos:="sha.go:48",after:=#[{ on:=11,ground:=Ground.data },{ on:=9,ground:=Ground.data },{ on:=9,ground:=Ground.chain },{ on:=0,ground:=Ground.phase },{ on:=1,ground:=Ground.phase },{ on:=2,ground:=Ground.phase },{ on:=3,ground:=Ground.phase },{ on:=4,ground:=Ground.phase },{ on:=5,ground:=Ground.phase },{ on:=6,ground:=Ground.phase },{ on:=7,ground:=Ground.phase },{ on:=8,ground:=Ground.phase },{ on:=9,ground:=Ground.phase }],guard:=none }
abbrev o6wr : Oper:={ dst:=some 50,op:=Op.move (Operand.tmp 0),type:=155,pos:="sha.go:48",after:=#[],guard:=none }
abbrev o7wr : Oper:={ dst:=some 51,op:=Op.move (Operand.tmp 0),type:=155,pos:="sha.go:48",after:=#[],guard:=none }
abbrev o8wr : Oper:={ dst:=some 52,op:=Op.nilCheck (Operand.tmp 51),type:=0,pos:="sha.go:48",after:=#[{ on:=1,ground:=Ground.data }],guard:=none }
abbrev o9wr : Oper:={ dst:=some 53,op:=Op.fieldAddr 119 (Operand.tmp 52) 0,type:=0,pos:="sha.go:48",after:=#[{ on:=2,ground:=Ground.data }],guard:=none }
abbrev o10wr : Oper:={ dst:=some 55,op:=Op.move (Operand.tmp 0),type:=155,pos:="sha.go:48",after:=#[],guard:=none }
abbrev o11wr : Oper:={ dst:=some 56,op:=Op.nilCheck (Operand.tmp 55),type:=0,pos:="sha.go:48",after:=#[{ on:=5,ground:=Ground.data }],guard:=none }
abbrev o12wr : Oper:={ dst:=some 57,op:=Op.fieldAddr 119 (Operand.tmp 56) 1,type:=0,pos:="sha.go:48",after:=#[{ on:=6,ground:=Ground.data }],guard:=none }
theorem KF (g:Nat) (all xs:LI) (v:Value) (w:World) (h:Hs w g all) (hb:Bs .u8 w v xs) (h8:U8 xs) (hv:xs≠[]->∀k,v.ownBlock=some k->k≠g) (hl:all.length+xs.length<=1000000000000) :
 Calls prog 69 #[.pointer (some ⟨g,0,none⟩),v] w λe w'=>e=.returned (.int .i64 xs.length)∧Hs1 w' g (all++xs)∧Only (λk=>k=g) w w':=by
 obtain⟨ao,cap,rfl⟩:=hb.len;obtain⟨n,hn⟩:=EX all.length
 have k3:w.cell? ⟨g,72,none⟩=some (.int .i64 (n:Int)):=by
  rcases h with ⟨st,pc,h1,h2⟩ | ⟨rfl,st,pc,h1,h2,h3,_⟩
  ·rw[h1.cell,hc_n h2.sl h2.pl,hn]
  ·rw[h1.cell,hc_n h2 h3,hn];rfl
 by_cases h0:n=0
 case' pos =>
  subst h0;have ha:all=[]:=List.eq_nil_of_length_eq_zero hn.symm;have HA:=Qa ha;clear ha
  obtain⟨st,pc,h1,h2,h3,h4⟩:∃st pc,Blk w g 119 (hc st pc 0)∧st.length=8∧pc.length=64∧U8 pc:=by
   rcases h with ⟨st,pc,h1,h2⟩ | ⟨_,st,pc,h1,h2,h3,h4⟩
   ·exact⟨st,pc,by rw[<-hn] at h1;exact h1,h2.sl,h2.pl,h2.u8⟩
   ·exact⟨st,pc,h1,h2,h3,h4⟩
  have H1:=Qa (And.intro h1 (And.intro h2 (And.intro h3 h4)));have HB:=Qa (And.intro hb (And.intro h8 hv));clear h1 h2 h3 h4 h hb h8 hv hn;go_enter func69,ntmps69;go_wp2_with fail;refine (Du _).mono ?_;rintro e w1 ⟨rfl,ku⟩;have TH:=Qa ((H1.o.1.past ku).there 0 8 (by rw[ZC H1.o.2.1 H1.o.2.2.1];decide));have bk:Hid ((prog.info? 116).map (·.size)=some (wl shH).toArray.size):=Tryz.size30;go_wp2_with (refine wpList_store_mid rfl 116 (.tmp 17) (.tmp 15) rfl g 0 (wl shH).toArray rfl rfl TH.o bk.o (UB _) ?_);have WS:=uJ g _ _ w w1 H1.o.1 H1.o.2.1 H1.o.2.2.1 H1.o.2.2.2 ku;have k0:=Qa (And.intro (show Hs1 _ g all from by rw[HA.o];exact WS.1) (And.intro (HB.o.1.keepE WS.2 (λhx k hk e=>HB.o.2.2 hx k hk e)) (And.intro HB.o.2.2 WS.2)));have H8:=Qa HB.o.2.1;clear WS H1 HB ku TH bk k3;obtain⟨W1,be⟩:=EX (w1.setCells g 0 (wl shH));rw[<-be] at k0 ⊢;obtain⟨FQ,b4⟩:=EX (wl shH);rw[<-b4];clear b4 be
 case' neg =>
  have bi:Hs1 w g all:=by
   rcases h with h | ⟨rfl,_⟩
   ·exact h
   ·exact absurd hn h0
  have k0:=Qa (And.intro bi (And.intro hb (And.intro hv (Only.refl (λk=>k=g) w))));have H8:=Qa h8
  have h00:((n:Int) == 0)=false:=by rw[beq_eq_false_iff_ne];omega
  have HNN:=Qa hn;clear h hb hv h8 bi hn h0;go_enter func69,ntmps69;go_wp2;clear k3 h00
 all_goals (
  go_loopw [5] (λo wr=>∃i:Nat,i<=xs.length∧Hs1 wr g (all++xs.take i)∧Bs .u8 wr o (xs.drop i)∧(xs.drop i≠[]->∀k,o.ownBlock=some k->k≠g)∧Only (λk=>k=g) w wr) (λo _=>slen o)
  case atStart=>exact⟨0,Nat.zero_le _,by simpa using k0.o.1,k0.o.2.1,k0.o.2.2.1,k0.o.2.2.2⟩
  case round =>
   obtain⟨i,hi,hs,hh,h7,hu⟩:=hrel;have HE:=Qa hi;obtain⟨ao1,h5,rfl⟩:=hh.len;have HL:=Qa hl;obtain⟨ys,hd⟩:=EX (xs.drop i);obtain⟨al,hg⟩:=EX (all++xs.take i);rw[<-hd] at hh h7 ⊢;rw[<-hg] at hs
   have hz:ys.length=xs.length - i:=by rw[hd,Qo]
   by_cases hy0:ys=[]
   ·have b6:i=xs.length:=by
     rw[hy0] at hz;simp at hz;omega
    have E1:Hid (Hs1 wr g (all++xs)):=by
     show _
     rw[hg,b6,List.take_length] at hs;exact hs
    have E2:=Qa hu;clear hz b6 hs hu hh h7 hg hd k0;subst hy0;simp only[List.length_nil];go_wp2;go_ret;exact⟨rfl,E1.o,E2.o⟩
   ·have h7:=h7 hy0
    obtain⟨b,off,rfl,hy⟩:=(by obtain⟨ao',cap',e,_,hr⟩:=hh;simp at e;obtain⟨rfl,rfl⟩:=e;exact hr hy0:∃b off,ao1=some ⟨b,off,none⟩∧∀j,j<ys.length->wr.cell? ⟨b,off+j,none⟩=some (.int .u8 (ys.getD j 0)));obtain⟨st,pc,k1,hp⟩:=hs;obtain⟨n,hn⟩:=EX al.length;obtain⟨r,hr⟩:=EX (n % 64)
    have k3:wr.cell? ⟨g,72,none⟩=some (.int .i64 (n:Int)):=by rw[k1.cell,hc_n hp.sl hp.pl,hn]
    have k9:(r:Int)<64:=by omega
    have kx:(n:Int) % 64=(r:Int):=by omega
    have b5:(n:Int).tmod 64=(r:Int):=by rw[Int.tmod_eq_emod_of_nonneg (by omega),kx]
    have b2:(0:Int)<=(r:Int):=by omega
    have ba:(r:Int)<=64:=by omega
    have bc:¬64=r:=by omega
    have hn1:n<=1000000000000:=by rw[hn,hg,Qc,Qf];omega
    obtain⟨L,hL⟩:=EX ys.length
    have hLp:0<L:=by rw[hL];exact List.length_pos_iff.2 hy0
    obtain⟨k,hk⟩:=EX (min (64 - r) L)
    have bm:IntKind.i64.wrap (r:Int)=(r:Int):=by rw[IntKind.wrap_i64];omega
    rw[<-hL];obtain⟨zs,ho⟩:=EX (ys.take k)
    have h6:zs.length=k:=by rw[ho,Qf];omega
    have CB:=Qa (show Blk wr.drew g 119 (hc st pc n) by rw[hn];exact k1)
    have CN:Hid ((bl zs).length=Nat.min L (64 - r)):=by
     show _=_
     rw[Qs,h6,hk,Nat.min_comm]
    have CS:Hid (∀j v,(bl zs)[j]? = some v->wr.drew.cell? ((⟨b,off,none⟩:Addr).add j)=some v):=λj v hj=>by
     have h1:=(List.getElem?_eq_some_iff.1 hj).1;rw[Qs,h6] at h1;rw[Addr.add_mid];have h2:=hy j (by omega)
     have e:(bl zs)[j]? = some (.int .u8 (ys.getD j 0)):=by
      rw[bl_at _ _ (by omega),ho,Qd,Qd,List.getElem?_take,if_pos h1]
     rw[e] at hj
     cases hj
     exact h2
    have CF:Hid (8+r+(bl zs).length<=(hc st pc n).length):=by
     show _<=_
     rw[ZC hp.sl hp.pl,Qs,h6];omega
    have CO:=Qa (Us zs);have CZ:=Qa (show (bl zs).length=k by rw[Qs,h6]);have HX:=Qa (And.intro hp (And.intro hn (And.intro hr (And.intro hk (And.intro hL (And.intro ho (And.intro h6 hz)))))));have HV:=Qa (And.intro h7 (And.intro hu hh));have ky:=Qa (And.intro hg hd);clear k1 hp hn hr hk hL hy h7 hu hh hg hd hz hy0 hi hl ho h6;obtain⟨ZB,kt⟩:=EX (bl zs);rw[<-kt] at CN CS CF CO CZ;obtain⟨HC,kv⟩:=EX (hc st pc n);rw[<-kv] at CB CF;have kn:=Qa (And.intro kv kt);clear kv kt;go_wp2_with fail
    go_region_law (refine Ep rfl (.tmp 30) (.tmp 31) 23 23 rfl 5 underlying23 Tryz.one5 g (8+r) (64 - r) (64 - r) ⟨b,off,none⟩ L h5 (by kernel_rfl) (by kernel_rfl) HC 119 CB.o ZB k CZ.o CN.o CS.o CF.o CO.o ?_;intro w4 hb4 on4)
    obtain⟨hp,hn,hr,hk,hL,ho,h6,hz⟩:=HX.o;obtain⟨h7,hu,hh⟩:=HV.o;obtain⟨hg,hd⟩:=ky.o
    have ki:U8 zs:=by rw[ho,hd];exact (H8.o.drop _).take _
    have he:r+zs.length<=64:=by rw[h6,hk];omega
    have kf:Blk w4 g 119 (hc st (splice pc r zs) n):=by
     have:=hb4;rw[kn.o.1,kn.o.2,Bq hp.sl hp.pl n r zs he] at this;exact this
    have kg:Only (λk=>k=g) wr w4:=(Only.refl (λk=>k=g) wr).drew.trans on4 (λ_ _ e=>e)
    have kj:Bs .u8 w4 (.slice (some ⟨b,off,none⟩) L h5) ys:=by rw[hL];exact hh.keep kg h7
    have b9:k<=L:=by omega
    obtain⟨A,hA,kk,k5⟩:∃A,(if h5=k then some (⟨b,off,none⟩:Addr) else some ⟨b,off+k,none⟩)=A∧Bs .u8 w4 (.slice A (L - k) (h5 - k)) (ys.drop k)∧(∀j,(Value.slice A (L - k) (h5 - k)).ownBlock=some j->j≠g):=by
     by_cases hck:h5=k
     ·refine⟨_,if_pos hck,?_,λj hj=>h7 j (by simpa [Value.ownBlock] using hj)⟩
      subst hck;rw[Nat.sub_self];exact kj.cut0 b9
     ·refine⟨_,if_neg hck,?_,λj hj=>h7 j (by simpa [Value.ownBlock] using hj)⟩
      have:=kj.cut b9;rw[Option.map_some,Addr.add_mid] at this;exact this
    have hq:w4.cell? ⟨g,72,none⟩=some (.int .i64 (n:Int)):=by
     rw[kf.cell,hc_n hp.sl (by rw[length_splice _ _ _ (by rw[hp.pl];exact he),hp.pl])]
    have hfz:w4.frozen? ⟨g,72,none⟩=false:=kf.froz _;obtain⟨n2,b0⟩:=EX (n+k)
    have hs2:(n:Int)+(k:Int)=(n2:Int):=by omega
    have hkL':(k:Int)<=(L:Int):=by omega
    have hn3:(n2:Int)<=1000000000064:=by omega
    have k2:=kf.set 72 (.int .i64 (n2:Int));rw[Cf hp.sl (by rw[length_splice _ _ _ (by rw[hp.pl];exact he),hp.pl])] at k2;have ht:Only (λk=>k=g) wr (w4.setCell ⟨g,72,none⟩ (.int .i64 (n2:Int))):=kg.setCell (p:=⟨g,72,none⟩) (λ_=>rfl) _;have k8:Only (λk=>k=g) w4 (w4.setCell ⟨g,72,none⟩ (.int .i64 (n2:Int))):=(Only.refl (λk=>k=g) w4).setCell (p:=⟨g,72,none⟩) (λ_=>rfl) _
    have kh:xs.drop (i+k)=ys.drop k:=by rw[hd,List.drop_drop]
    have ko:all++xs.take (i+k)=al++zs:=by rw[hg,ho,hd,List.append_assoc,List.take_add]
    have kq:i+k<=xs.length:=by have:=HE.o;omega
    have hw:L - k<L:=by omega
    have k4:r=al.length % 64:=by rw[hr,hn]
    have hm:n2=(al++zs).length:=by rw[b0,Qc,h6,hn]
    by_cases hwh:r+k<64
    ·have hf:=hp.part zs ki (by rw[<-k4,h6];exact hwh)
     rw[<-k4] at hf
     have R1:Hid (Hs1 (w4.setCell ⟨g,72,none⟩ (.int .i64 (n2:Int))) g (all++xs.take (i+k))):=by
      show _
      rw[ko];exact⟨_,_,by rw[<-hm];exact k2,hf⟩
     have R2:Hid (Bs .u8 (w4.setCell ⟨g,72,none⟩ (.int .i64 (n2:Int))) (.slice A (L - k) (h5 - k)) (xs.drop (i+k))):=by
      show _
      rw[kh];exact kk.keep k8 k5
     have R3:=Qa k5;have R4:=Qa (hu.trans ht (λ_ _ e=>e));have R5:=Qa (And.intro kq hw);obtain⟨r2,kz⟩:=EX (n2 % 64)
     have t1:(n2:Int) % 64=(r2:Int):=by omega
     have t2:((r2:Int) == 0)=false:=by rw[beq_eq_false_iff_ne];omega
     clear hp hn hr hk hL ho h6 hz h7 hu hh hg hd ki he kf kg kj kk k5 k2 ht k8 kh ko kq hw k4 hm hf hb4 on4 CB CN CS CF CO CZ HX HV ky kn b0 kz hwh kx b5 b2 ba k9 bc bm
     go_simp
     go_wp2
     go_roundw
     case rel=>exact⟨i+k,R5.o.1,R1.o,R2.o,λ_=>R3.o,R4.o⟩
     case measure=>exact R5.o.2
    ·have kd:r+k=64:=by omega
     have hf:=hp.whole zs ki (by rw[<-k4,h6];exact kd);rw[<-k4] at hf;obtain⟨km,ka⟩:=EX (splice pc r zs);rw[<-ka] at hf k2;have k7:km.length=64:=hf.pl;have TC:=Qa (NS st km hp.sl hp.w32 hf.pl hf.u8);obtain⟨W5,kw⟩:=EX (w4.setCell ⟨g,72,none⟩ (.int .i64 (n2:Int)));rw[<-kw] at k2 ht k8;obtain⟨SB,kl⟩:=EX (wl st);obtain⟨PB,k6⟩:=EX (bl km);obtain⟨TB,ke⟩:=EX (wl (thru st km));rw[<-kl,<-k6,<-ke] at TC
     have kp:TB.length=8:=by rw[ke,QQ,Vx]
     have kc:SB.length=8:=by rw[kl,QQ,hp.sl]
     have bb:PB.length=64:=by rw[k6,Qs,k7]
     have kr:Blk W5 g 119 (SB++PB++[.int .i64 (n2:Int)]):=by rw[kl,k6];exact k2
     have ks:Blk W5 g 119 ([]++SB++(PB++[.int .i64 (n2:Int)])):=by rw[List.nil_append,<-List.append_assoc];exact kr
     have b7:Hid (W5.drew.rangeAt g 8 PB):=kr.drew.rangeN kc;have bj:Hid (W5.drew.rangeAt g 0 SB):=ks.drew.range
     have b1:Hid ((prog.info? 117).map (·.size)=some PB.length):=by rw[bb];exact Tryz.size31
     have bp:Hid ((prog.info? 116).map (·.size)=some SB.length):=by rw[kc];exact Tryz.size30
     have bf:Hid ((prog.info? 116).map (·.size)=some TB.toArray.size):=by
      show _=_
      rw[List.size_toArray,kp];exact Tryz.size30
     have bn:Hid (TB.toArray.all (·.oneCell')=true):=by rw[ke];exact UB _
     have b3:Hid (∀w6,N0 W5.drew w6->w6.there g 0 TB.toArray.size):=λw6 o=>(kr.past ((Only.refl (λ_=>False) W5).drew.same o)).there 0 TB.toArray.size (by
      rw[List.size_toArray,kp,Qc,Qc,kc];omega)
     have bd:Hid (∀w6,N0 W5.drew w6->Hs1 (w6.setCells g 0 TB) g (all++xs.take (i+k))∧Bs .u8 (w6.setCells g 0 TB) (.slice A (L - k) (h5 - k)) (xs.drop (i+k))∧Only (λk=>k=g) w (w6.setCells g 0 TB)):=λw6 o=>by
      have o1:Only (λk=>k=g) W5 w6:=((Only.refl (λ_=>False) W5).drew.same o).mono (λ_ _ f=>f.elim);have o2:Only (λk=>k=g) W5 (w6.setCells g 0 TB):=Only.setCells (S:=λk=>k=g) (λ_=>rfl) _ 0 w6 o1;refine⟨?_,?_,hu.trans (ht.trans o2 (λ_ _ e=>e)) (λ_ _ e=>e)⟩
      ·rw[ko]
       refine⟨_,_,?_,hf⟩;rw[<-hm];have h9:=Gf [] SB (PB++[.int .i64 (n2:Int)]) TB (by rw[kp,kc]) w6 g 119 (ks.past ((Only.refl (λ_=>False) W5).drew.same o));rw[List.nil_append,List.length_nil] at h9;unfold hc;rw[<-ke,<-k6,List.append_assoc];exact h9
      ·rw[kh]
       exact kk.keep (k8.trans o2 (λ_ _ e=>e)) k5
     have R3:=Qa k5;have R5:=Qa (And.intro kq hw);have bo:=Qa kw
     have t1:(n2:Int) % 64=0:=by omega
     clear hp hn hr hk hL ho h6 hz h7 hu hh hg hd ki he kf kg kj kk k5 k2 ht k8 kh ko kq hw k4 hm hf hb4 on4 CB CN CS CF CO CZ HX HV ky kn b0 hwh kx b5 b2 ba k9 bc bm kd ka k7 kr ks kl k6 ke kw kp kc bb
     go_simp
     go_wp2_with fail;rw[<-bo.o];clear hq hfz bo;refine wp_region_any (by kernel_rfl) ?_
     change wpAny _ _ _ _ _ _ _ (World.drew _)
     refine wpAny_take (i:=0) (oi:=o6wr) (v:=?_) rfl (by kernel_rfl) (by kernel_rfl) (by kernel_rfl) (λ_ _ _ h=>h) (Or.inl ⟨by rfl,?_⟩) ?_
     rotate_left
     ·intro w;go_simp;try with_reducible rfl
     simp only[Act.put,Qp,Qj,Qn];refine wpAny_take (i:=1) (oi:=o7wr) (v:=?_) rfl (by kernel_rfl) (by kernel_rfl) (by kernel_rfl) (λ_ _ _ h=>h) (Or.inl ⟨by rfl,?_⟩) ?_
     rotate_left
     ·intro w;go_simp;try with_reducible rfl
     simp only[Act.put,Qp,Qj,Qn];refine wpAny_take (i:=2) (oi:=o8wr) (v:=?_) rfl (by kernel_rfl) (by kernel_rfl) (by kernel_rfl) (λ_ _ _ h=>h) (Or.inl ⟨by rfl,?_⟩) ?_
     rotate_left
     ·intro w;go_simp;try with_reducible rfl
     simp only[Act.put,Qp,Qj,Qn];refine wpAny_take (i:=3) (oi:=o9wr) (v:=?_) rfl (by kernel_rfl) (by kernel_rfl) (by kernel_rfl) (λ_ _ _ h=>h) (Or.inl ⟨by rfl,?_⟩) ?_
     rotate_left
     ·intro w;go_simp;try with_reducible rfl
     simp only[Act.put,Qp,Qj,Qn];refine wpAny_take (i:=5) (oi:=o10wr) (v:=?_) rfl (by kernel_rfl) (by kernel_rfl) (by kernel_rfl) (λ_ _ _ h=>h) (Or.inl ⟨by rfl,?_⟩) ?_
     rotate_left
     ·intro w;go_simp;try with_reducible rfl
     simp only[Act.put,Qp,Qj,Qn];refine wpAny_take (i:=6) (oi:=o11wr) (v:=?_) rfl (by kernel_rfl) (by kernel_rfl) (by kernel_rfl) (λ_ _ _ h=>h) (Or.inl ⟨by rfl,?_⟩) ?_
     rotate_left
     ·intro w;go_simp;try with_reducible rfl
     simp only[Act.put,Qp,Qj,Qn];refine wpAny_take (i:=7) (oi:=o12wr) (v:=?_) rfl (by kernel_rfl) (by kernel_rfl) (by kernel_rfl) (λ_ _ _ h=>h) (Or.inl ⟨by rfl,?_⟩) ?_
     rotate_left
     ·intro w;go_simp;try with_reducible rfl
     simp only[Act.put,Qp,Qj,Qn]
     repeat' (first
      | ((first
       | (have _:=m0;clear m0;rw[if_pos (by rfl)];refine wp_load_mid 116 (.tmp 53) rfl g 0 rfl SB _ bj.o underlying116 rfl bp.o ?_;have bq:=trivial)
       | (have _:=m1;clear m1;rw[if_pos (by rfl)];refine wp_load_mid 117 (.tmp 57) rfl g 8 rfl PB _ b7.o underlying117 rfl b1.o ?_;have bg:=trivial));refine hK _ _ ?_;clear hK K;simp only[Act.put,Qp,Qj,Qn])
      | (
       have _:=m2;clear m2
       go_simp
       go_wp2_with (go_at_call 104;refine (TC.o _).mono ?_;rintro e w6 ⟨rfl,ht⟩);refine wpAny_take (i:=10) (oi:=o3wr) (v:=?_) rfl (by kernel_rfl) (by kernel_rfl) (by kernel_rfl) (λ_ _ _ h=>h) (Or.inl ⟨by rfl,?_⟩) ?_
       rotate_left
       ·intro w;go_simp;try with_reducible rfl
       simp only[Act.put,Qp,Qj,Qn];refine wpAny_take (i:=11) (oi:=o4wr) (v:=?_) rfl (by kernel_rfl) (by kernel_rfl) (by kernel_rfl) (λ_ _ _ h=>h) (Or.inl ⟨by rfl,?_⟩) ?_
       rotate_left
       ·intro w;go_simp;try with_reducible rfl
       simp only[Act.put,Qp,Qj,Qn];refine wpAny_ready (rs:=[12]) (by kernel_rfl) (by simp) ?_;refine AllReady.cons (o:=o5wr) rfl (λK hK=>?_) AllReady.nil;rw[if_pos (by rfl)];refine wp_store_mid 116 (.tmp 61) (.tmp 59) rfl g 0 TB.toArray rfl rfl (b3.o w6 ht) bf.o bn.o ?_;refine hK _ _ ?_;clear hK K;refine wpAny_done (by kernel_rfl) ?_ _;obtain⟨q1,q2,q3⟩:=bd.o w6 ht;have Q1:=Qa q1;have Q2:=Qa q2;have Q3:=Qa q3;clear q1 q2 q3 ht bd TC bj b7 bp b1 bf bn b3
       go_simp
       go_wp2
       go_roundw
       case rel=>exact⟨i+k,R5.o.1,Q1.o,Q2.o,λ_=>R3.o,Q3.o⟩
       case measure=>exact R5.o.2)
      | (have _:=bq;have _:=bg;refine wpAny_ready (rs:=[9]) (by kernel_rfl) (by simp) (AllReady.cons (o:=o2wr) rfl (λK hK=>(λ(m2:True)=>?_) trivial) AllReady.nil))
      | (have _:=bq;refine wpAny_ready (rs:=[8]) (by kernel_rfl) (by simp) (AllReady.cons (o:=o1wr) rfl (λK hK=>(λ(m1:True)=>?_) trivial) AllReady.nil))
      | (have _:=bg;refine wpAny_ready (rs:=[4]) (by kernel_rfl) (by simp) (AllReady.cons (o:=o0wr) rfl (λK hK=>(λ(m0:True)=>?_) trivial) AllReady.nil))
      | (refine wpAny_ready (rs:=[4,8]) (by kernel_rfl) (by simp) (AllReady.cons (o:=o0wr) rfl (λK hK=>(λ(m0:True)=>?_) trivial) (AllReady.cons (o:=o1wr) rfl (λK hK=>(λ(m1:True)=>?_) trivial) AllReady.nil)))))
def zH:List Value:=hc (List.replicate 8 0) (List.replicate 64 0) 0
theorem Tryz.zero33:(prog.info? 119).map (λi=>(i.zero,i.size))=some (some (.agg zH.toArray),73):=by kernel_rfl
theorem yw:U8 (List.replicate 64 0):=λy hy=>by
 rw[List.mem_replicate] at hy;obtain⟨_,rfl⟩:=hy;decide
theorem Hs.zero (h:Blk w g 119 zH):Hs w g []:=.inr ⟨rfl,_,_,h,rfl,rfl,yw⟩
theorem Hs.blk {all:LI} (h:Hs w g all):∃cs,Blk w g 119 cs∧cs.length=73∧cs[72]? = some (.int .i64 (all.length:Int))∧(∀v∈cs,v.oneCell'=true)∧∀w' g',Blk w' g' 119 cs->Hs w' g' all:=by
 have h0:∀(st:List Nat) (pc:LI) (n:Nat),∀v∈hc st pc n,v.oneCell'=true:=λst pc n v hv=>by
  simp only[hc,List.mem_append,List.mem_singleton] at hv
  rcases hv with (h | h) | rfl
  ·exact Pq _ v h
  ·exact Us _ v h
  ·rfl
 rcases h with ⟨st,pc,h1,h2⟩ | ⟨rfl,st,pc,h1,h2,h3,h4⟩
 ·exact⟨_,h1,ZC h2.sl h2.pl _,hc_n h2.sl h2.pl _,h0 _ _ _,λw' g' h=>.inl ⟨st,pc,h,h2⟩⟩
 ·exact⟨_,h1,ZC h2 h3 _,hc_n h2 h3 _,h0 _ _ _,λw' g' h=>.inr ⟨rfl,st,pc,h,h2,h3,h4⟩⟩
theorem Fy {st:List Nat} {pc all:LI} (h:HP st pc (all++endS all.length)):st.flatMap be4=QH all:=by
 unfold QH;rw[Il,<-h.st]
theorem Mz {lo:Nat} {xs:List Value} (h:w.ownsRow lo E 1 v n xs) {g:Nat} (hg:g<lo):∀k,v.ownBlock=some k->k≠g:=λk hk e=>by
 have:=(h.lt k hk).1;omega
theorem JF (g:Nat) (all:LI) (w:World) (h:Hs w g all) (hl:all.length<=100000000000) :
 Calls prog 70 #[.pointer (some ⟨g,0,none⟩)] w λe w'=>∃v,e=.returned v∧w'.ownsRow w.heap.size 5 1 v 32 ((QH all).map (Value.int .u8))∧N0 w w':=by
 obtain⟨cs,h1,h2,h3,h4,h5⟩:=h.blk;have hh:=(zero_of_info (P:=prog) Tryz.zero33).1;obtain⟨Z,hZ⟩:=EX zH;rw[<-hZ] at hh
 have HZ:Hid (Z.toArray.size=cs.toArray.size):=by
  show _=_
  rw[hZ,List.size_toArray,List.size_toArray,h2];rfl
 have HS:Hid ((prog.info? 119).map (·.size)=some cs.toArray.size):=by
  show _=_
  rw[List.size_toArray,h2];exact Tryz.size33
 have HA:=Qa (all_oneCell_toArray h4);have HB:=Qa (h1.alloc (.cells Z.toArray 119));have hlt:=h1.lt;have ha:Blk ((w.alloc (.cells Z.toArray 119)).setRow w.heap.size cs.toArray) w.heap.size 119 cs:=(Blk.new w 119 Z).row cs;have hb:N0 w ((w.alloc (.cells Z.toArray 119)).setRow w.heap.size cs.toArray):=((Only.refl _ _).alloc _).setRow (λf=>absurd f (Nat.lt_irrefl _)) _;obtain⟨W1,h7⟩:=EX ((w.alloc (.cells Z.toArray 119)).setRow w.heap.size cs.toArray);rw[<-h7] at ha hb;have hj:=Qa h7;have HH:=Qa (h5 _ _ ha);have HO:=Qa hb
 have hc:W1.cell? ⟨w.heap.size,72,none⟩=some (.int .i64 (all.length:Int)):=by rw[ha.cell,h3]
 rw[h7] at hc;clear h h1 h2 h3 h4 h5 hZ h7 ha hb;go_enter func70,ntmps70;go_wp2_with (first|(refine wpList_load_row rfl 119 (.tmp 7) rfl g rfl 119 cs.toArray (0,0) _ HB.o underlying119 rfl HS.o ?_)|(refine wpList_store_row rfl 119 (.tmp 3) (.tmp 8) rfl w.heap.size cs.toArray rfl rfl 119 Z.toArray (Blk.new w 119 Z) HS.o HZ.o HA.o ?_));rw[<-hj.o];clear hc;refine (MT all.length (by omega) W1).mono ?_;rintro e w2 ⟨v2,rfl,h6,h8⟩;have hk:w.heap.size<W1.heap.size:=HH.o.lt;have hsz1:=HO.o.size;have b2:Bs .u8 w2 v2 (endS all.length):=Bs.of_own (by rw[Ly];exact h6);have WC:=Qa (KF w.heap.size all (endS all.length) v2 w2 (HH.o.past h8) b2 (Ff _) (λ_=>Mz h6 hk) (by rw[Ly];have:=Pu all.length;omega));have O2:=Qa (HO.o.same h8)
 have HG2:Hid (w.heap.size<w2.heap.size):=by have:=h8.size;show _ < _;omega
 obtain⟨ao2,cap2,e2⟩:=b2.len;subst e2;clear h6 b2 h8 hk hj HH HB hh HZ HS HA;go_wp2_with fail;refine WC.o.mono ?_;rintro e w3 ⟨rfl,⟨st,pc,hd,h9⟩,hf⟩;have O3:N0 w w3:=O2.o.trans hf (λi hi e=>by omega)
 have hm:Blk w3 w.heap.size 119 ([]++wl st++(bl pc++[.int .i64 (((all++endS all.length).length:Nat):Int)])):=by
  unfold hc at hd;rw[List.nil_append,<-List.append_assoc];exact hd
 have R0:Hid (w3.rangeAt w.heap.size 0 (wl st)):=hm.range
 have SZ:Hid ((prog.info? 116).map (·.size)=some (wl st).length):=by
  show _=_
  rw[QQ,h9.sl];exact Tryz.size30
 have BC:=Qa (AK st h9.sl w3);rw[Fy h9] at BC;have hg:=Qa O3;clear hd hm hf O3 h9 O2 WC;go_wp2_with (refine wpList_load_mid rfl 116 (.tmp 13) rfl w.heap.size 0 rfl (wl st) _ R0.o underlying116 rfl SZ.o ?_);refine BC.o.mono ?_;rintro e w4 ⟨v4,rfl,h0,he⟩;have F1:=Qa (Qu h0 hg.o.size);have F2:=Qa (hg.o.same he);obtain⟨ao4,cap4,e4⟩:=(Bs.of_own (k:=.u8) (xs:=QH all) (by rw[YN];exact h0)).len;subst e4;clear h0 he BC;go_wp2;go_ret;exact⟨_,rfl,F1.o,F2.o⟩
theorem Nn (v:Value) (xs:LI) (w:World) (hb:Bs .u8 w v xs) (h8:U8 xs) (hl:xs.length<=100000000000) :
 Calls prog 37 #[v] w λe w'=>∃v',e=.returned v'∧w'.ownsRow w.heap.size 5 1 v' 32 ((QH xs).map (Value.int .u8))∧N0 w w':=by
 have hzv:=(zero_of_info (P:=prog) Tryz.zero33).1;obtain⟨Z,hZ⟩:=EX zH;rw[<-hZ] at hzv;have h6:Blk (w.alloc (.cells Z.toArray 119)) w.heap.size 119 Z:=Blk.new w 119 Z;have h1:N0 w (w.alloc (.cells Z.toArray 119)):=(Only.refl _ _).alloc _;have WC:=Qa (KF w.heap.size [] xs v (w.alloc (.cells Z.toArray 119)) (Hs.zero (by rw[<-hZ];exact h6)) (hb.past h1) h8 (λhx k hk e=>by have:=hb.blk_lt hx k hk;omega) (by simpa using Nat.le_trans hl (by decide)));have HO:=Qa h1;clear hZ h6 h1 hb h8;go_enter func37,ntmps37;go_wp2_with fail;refine WC.o.mono ?_;rintro e w3 ⟨rfl,h2,h4⟩;rw[List.nil_append] at h2;have h5:=Qa (HO.o.trans h4 (λi hi e=>by omega));have BC:=Qa (JF w.heap.size xs w3 (.inl h2) hl);clear h2 h4 WC HO;go_wp2_with fail;refine BC.o.mono ?_;rintro e w4 ⟨v4,rfl,h0,h3⟩;have F1:=Qa (Qu h0 h5.o.size);have F2:=Qa (h5.o.same h3);obtain⟨ao4,cap4,e4⟩:=(Bs.of_own (k:=.u8) (xs:=QH xs) (by rw[YN];exact h0)).len;subst e4;clear h0 h3 BC;go_wp2;go_ret;exact⟨_,rfl,F1.o,F2.o⟩
def z64:List Value:=bl (List.replicate 64 0)
theorem Tryz.zero42h:(prog.info? 117).map (λi=>(i.zero,i.size))=some (some (.agg z64.toArray),64):=by kernel_rfl
theorem Hn (v:Value) (xs:LI) (W:World) (G:Nat) (hN:Blk W G 117 z64) (hb:Bs .u8 W v xs) (hl:xs.length<=64) :
 ∃w3,(Builtin.copy_ #[23,23] 3 #[.slice (some ⟨G,0,none⟩) 64 64,v]).run prog W=.ok (.int .i64 (xs.length:Int)) w3∧Blk w3 G 117 (bl (xs++List.replicate (64 - xs.length) 0))∧Only (λk=>k=G) W w3:=by
 have hb0:=hb;obtain⟨ao,cap,rfl,hc,hr⟩:=hb
 by_cases h0:xs=[]
 ·subst h0
  exact⟨W,run_copy_none (P:=prog) W 23 23 3 5 _ _ 64 64 0 cap underlying23 Tryz.one5 rfl,hN,Only.refl _ _⟩
 ·obtain⟨b,off,rfl,h2⟩:=hr h0
  have h1:=run_copy_row (P:=prog) W 23 23 3 5 G 0 64 64 ⟨b,off,none⟩ xs.length cap z64.toArray 117 (bl xs) underlying23 Tryz.one5 hN
   (by rw[Qs];exact (Nat.min_eq_left hl).symm) hb0.news (by rw[Qs];simp[z64,Qs];omega) (Us _)
  rw[show goInt ((bl xs).length:Int)=.int .i64 (xs.length:Int) by rw[Qs];rfl] at h1;refine⟨_,h1,?_,(Only.refl (λk=>k=G) W).setRow (λ_=>rfl) _⟩
  have e:bl (xs++List.replicate (64 - xs.length) 0)=z64.toArray.toList.take 0++bl xs++z64.toArray.toList.drop (0+(bl xs).length):=by
   show _=List.take 0 z64++bl xs++List.drop (0+(bl xs).length) z64
   rw[Qs,Nat.zero_add,List.take_zero,List.nil_append];unfold z64 bl;rw[List.map_append,List.map_replicate,List.map_replicate,List.drop_replicate]
  rw[e];exact hN.row _
theorem Im (v:Value) (xs:LI) (w:World) (hb:Bs .u8 w v xs) (hl:xs.length<=64) :
 Calls prog 127 #[v] w λe w'=>e=.returned (.agg (bl (pad64 xs)).toArray)∧N0 w w':=by
 have hk:keyS xs=xs:=if_neg (by omega);have hzv:=(zero_of_info (P:=prog) Tryz.zero42h).1;obtain⟨Z,hZ⟩:=EX z64;rw[<-hZ] at hzv;obtain⟨W1,h0⟩:=EX ((w.alloc (.cells Z.toArray 117)).alloc (.cells Z.toArray 117))
 have h7:Blk W1 w.heap.size 117 Z:=by rw[h0];exact (Blk.new w 117 Z).alloc _
 have h8:Blk W1 (w.heap.size+1) 117 Z:=by
  have:=Blk.new (w.alloc (.cells Z.toArray 117)) 117 Z;rw[size_alloc] at this;rw[h0];exact this
 have h2:N0 w W1:=by rw[h0];exact ((Only.refl _ _).alloc _).alloc _
 obtain⟨w3,h6,h1,h3⟩:=Hn v xs W1 (w.heap.size+1) (by rw[<-hZ];exact h8) (hb.past h2) hl
 have hp:bl (xs++List.replicate (64 - xs.length) 0)=bl (pad64 xs):=by unfold pad64;rw[hk]
 rw[hp] at h1;obtain⟨C,hC⟩:=EX (bl (pad64 xs))
 have h4:C.length=64:=by rw[hC,Qs,JE]
 rw[<-hC] at h1 ⊢;have H3:=Qa h1;have H2:=Qa (h7.keep h3 (by omega));have HO:=Qa (h2.trans h3 (λk hk e=>by omega))
 have h5:Hid ((prog.info? 117).map (·.size)=some C.toArray.size):=by
  show _=_
  rw[List.size_toArray,h4];exact Tryz.size31
 have HZ2:Hid (Z.toArray.size=C.toArray.size):=by
  show _=_
  rw[List.size_toArray,List.size_toArray,h4,hZ];simp[z64,Qs]
 have HA:Hid (C.toArray.all (·.oneCell')=true):=by
  show _=_
  rw[hC];exact all_oneCell_toArray (Us _)
 obtain⟨ao,cap,rfl⟩:=hb.len;obtain⟨m,hm⟩:=EX xs.length;rw[<-hm] at h6 ⊢;have d1:decide ((64:Int)<(m:Int))=false:=Qb (by omega);have d1':decide (64<m)=false:=Qb (by omega);rw[h0] at h6;clear hZ h0 h7 h8 h2 h1 h3 hp hC h4 hm hb hk hl;go_enter func127,ntmps127;go_wp2_with (first|(refine wpList_load_row rfl 117 (.tmp 3) rfl (w.heap.size+1) rfl 117 C.toArray (0,0) _ H3.o underlying117 rfl h5.o ?_)|(refine wpList_store_row rfl 117 (.tmp 2) (.tmp 12) rfl w.heap.size C.toArray rfl rfl 117 Z.toArray H2.o h5.o HZ2.o HA.o ?_));refine bodyPost_ret (v:=.agg C.toArray) (results_cell_row rfl _ _ w.heap.size 117 C.toArray (0,0) _ rfl (setRow_heap _ _ _ _ 117 _ H2.o) underlying117 rfl h5.o) rfl ⟨rfl,?_⟩;exact HO.o.setRow (λh=>absurd h (Nat.lt_irrefl _)) _
theorem kU (v:Value) (xs:LI) (w:World) (hb:Bs .u8 w v xs) (h8:U8 xs) (hl:64<xs.length) (hl2:xs.length<=100000000000) :
 Calls prog 127 #[v] w λe w'=>e=.returned (.agg (bl (pad64 xs)).toArray)∧N0 w w':=by
 have hk:keyS xs=QH xs:=if_pos hl;have hzv:=(zero_of_info (P:=prog) Tryz.zero42h).1;obtain⟨Z,hZ⟩:=EX z64;rw[<-hZ] at hzv;obtain⟨C,hC⟩:=EX (bl (pad64 xs))
 have h5:C.length=64:=by rw[hC,Qs,JE]
 have hp:bl (QH xs++List.replicate (64 - (QH xs).length) 0)=C:=by rw[hC];unfold pad64;rw[hk]
 have HP:=Qa hp;rw[<-hC]
 have h6:Hid ((prog.info? 117).map (·.size)=some C.toArray.size):=by
  show _=_
  rw[List.size_toArray,h5];exact Tryz.size31
 have HZ2:Hid (Z.toArray.size=C.toArray.size):=by
  show _=_
  rw[List.size_toArray,List.size_toArray,h5,hZ];simp[z64,Qs]
 have HA:Hid (C.toArray.all (·.oneCell')=true):=by
  show _=_
  rw[hC];exact all_oneCell_toArray (Us _)
 have h2:N0 w (w.alloc (.cells Z.toArray 117)):=(Only.refl _ _).alloc _;have SU:=Qa (Nn v xs (w.alloc (.cells Z.toArray 117)) (hb.past h2) h8 hl2);have h4:=Qa (Blk.new w 117 Z);have h7:=Qa h2;have HZ:=Qa hZ;obtain⟨ao,cap,rfl⟩:=hb.len;obtain⟨m,hm⟩:=EX xs.length;rw[<-hm] at SU ⊢;have d1:decide ((64:Int)<(m:Int))=true:=Qe (by omega);have d1':decide (64<m)=true:=Qe (by omega);clear hZ h2 hp hC h5 hm hb hk hl h8 hl2;go_enter func127,ntmps127;go_wp2_with fail;refine SU.o.mono ?_;rintro e w2 ⟨v2,rfl,h0,h1⟩;have b2:Bs .u8 w2 v2 (QH xs):=Bs.of_own (by rw[YN];exact h0);obtain⟨G,hG⟩:=EX w2.heap.size
 have ha:Blk (w2.alloc (.cells Z.toArray 117)) G 117 Z:=by rw[hG];exact Blk.new w2 117 Z
 obtain⟨w3,hcp,h9,h3⟩:=Hn v2 (QH xs) (w2.alloc (.cells Z.toArray 117)) G (by rw[<-HZ.o];exact ha) (b2.past ((Only.refl _ _).alloc _)) (by rw[YN];decide);rw[HP.o] at h9;have hlt:=h4.o.lt;have hs2:=h1.size;have H3:=Qa h9;have H2:=Qa (((h4.o.past h1).alloc (.cells Z.toArray 117)).keep h3 (by omega));have HO:=Qa (((h7.o.same h1).alloc (.cells Z.toArray 117)).trans h3 (λk hk e=>by have:=h7.o.size;omega));obtain⟨ao2,cap2,e2⟩:=b2.len;subst e2;rw[hG] at hcp H3;clear h9 h3 ha h0 h1 b2 SU hG hlt hs2 h4 h7 HZ;go_wp2_with (first|(refine wpList_load_row rfl 117 (.tmp 3) rfl w2.heap.size rfl 117 C.toArray (0,0) _ H3.o underlying117 rfl h6.o ?_)|(refine wpList_store_row rfl 117 (.tmp 2) (.tmp 12) rfl w.heap.size C.toArray rfl rfl 117 Z.toArray H2.o h6.o HZ2.o HA.o ?_));refine bodyPost_ret (v:=.agg C.toArray) (results_cell_row rfl _ _ w.heap.size 117 C.toArray (0,0) _ rfl (setRow_heap _ _ _ _ 117 _ H2.o) underlying117 rfl h6.o) rfl ⟨rfl,?_⟩;exact HO.o.setRow (λh=>absurd h (Nat.lt_irrefl _)) _
theorem F5 (v:Value) (xs:LI) (w:World) (hb:Bs .u8 w v xs) (h8:U8 xs) (hl2:xs.length<=100000000000) :
 Calls prog 127 #[v] w λe w'=>e=.returned (.agg (bl (pad64 xs)).toArray)∧N0 w w':=by
 by_cases h:64<xs.length
 ·exact kU v xs w hb h8 h hl2
 ·exact Im v xs w hb (by omega)
theorem Tryz.zero42m:(prog.info? 117).map (λi=>(i.zero,i.size))=some (some (.agg (bl (List.replicate 64 0)).toArray),64):=by kernel_rfl
def mkd (x:Nat) (k:LI) (j:Nat):LI:=(xorB x k).take j++k.drop j
theorem qC (x:Nat) (k:LI) (j:Nat) (hj:j<=k.length):(mkd x k j).length=k.length:=by
 unfold mkd;rw[Qc,Qf,Qo,WM];omega
theorem MH (x:Nat) (k:LI) (j:Nat) (hj:j<k.length):(mkd x k j).getD j 0=k.getD j 0:=by
 unfold mkd;rw[Qd,List.getElem?_append_right (by rw[Qf,WM];omega),Qf,WM,Nat.min_eq_left (by omega),Nat.sub_self,List.getElem?_drop,Nat.add_zero,Qd]
theorem EF (x:Nat) (k:LI) (j:Nat) (hj:j<k.length):(mkd x k j).set j (((k.getD j 0).toNat ^^^ x:Nat):Int)=mkd x k (j+1):=by
 unfold mkd;rw[List.set_append_right _ _ (by rw[Qf];omega),Qf,WM,Nat.min_eq_left (by omega),Nat.sub_self,List.take_add_one]
 have e:(xorB x k)[j]? = some (((k.getD j 0).toNat ^^^ x:Nat):Int):=by
  unfold xorB;rw[List.getElem?_map,Qg hj,Qd,Qg hj];rfl
 rw[e,List.drop_eq_getElem_cons hj,Qj,List.append_assoc]
 rfl
theorem BJ (x:Nat) (k:LI) (n:Nat) (hn:k.length=n):mkd x k n=xorB x k:=by
 unfold mkd;rw[List.take_of_length_le (by rw[WM];omega),List.drop_of_length_le (by omega),List.append_nil]
theorem Iu (k:LI) (hk:k.length=64) (h8:U8 k) (x:Nat) (hx:x<256) (w:World) :
 Calls prog 129 #[.agg (bl k).toArray,.int .u8 (x:Int)] w λe w'=>e=.returned (.agg (bl (xorB x k)).toArray)∧N0 w w':=by
 have h6:=(zero_of_info (P:=prog) Tryz.zero42m).1;obtain⟨Z,hZ⟩:=EX (bl (List.replicate 64 0));rw[<-hZ] at h6;obtain⟨B,hB⟩:=EX (bl k);obtain⟨C,hC⟩:=EX (bl (xorB x k))
 have h3:C.length=64:=by rw[hC,Qs,WM,hk]
 have h4:Hid ((prog.info? 117).map (·.size)=some C.toArray.size):=by
  show _=_
  rw[List.size_toArray,h3];exact Tryz.size31
 have HZ2:Hid (Z.toArray.size=C.toArray.size):=by
  show _=_
  rw[List.size_toArray,List.size_toArray,h3,hZ];simp[Qs]
 have HA:Hid (C.toArray.all (·.oneCell')=true):=by
  show _=_
  rw[hC];exact all_oneCell_toArray (Us _)
 have HC:Hid (bl (mkd x k 64)=C):=by
  show _=_
  rw[BJ x k 64 hk,hC]
 rw[<-hC,<-hB]
 have HB:Hid (B=bl (mkd x k 0)):=by
  show _=_
  rw[hB];simp[mkd]
 have HK:=Qa (And.intro hk (And.intro h8 hx));clear hZ hB hC h3 hk h8 hx;go_enter func129,ntmps129;go_wp2;have S0:Hid (Blk ((w.alloc (.cells B.toArray 117)).alloc (.cells Z.toArray 117)) w.heap.size 117 (bl (mkd x k 0))):=Eq.mp (congrArg (Blk _ w.heap.size 117) HB.o) ((Blk.new w 117 B).alloc _)
 have R0:Hid (Blk ((w.alloc (.cells B.toArray 117)).alloc (.cells Z.toArray 117)) (w.heap.size+1) 117 Z):=by
  have:=Blk.new (w.alloc (.cells B.toArray 117)) 117 Z;rw[size_alloc] at this;exact this
 have O0:Hid (N0 w ((w.alloc (.cells B.toArray 117)).alloc (.cells Z.toArray 117))):=((Only.refl _ _).alloc _).alloc _;obtain⟨W0,h1⟩:=EX (((w.alloc (.cells B.toArray 117)).alloc (.cells Z.toArray 117)));obtain⟨G,hG⟩:=EX w.heap.size;obtain⟨R,hR⟩:=EX (w.heap.size+1);rw[<-hG,<-h1] at S0;rw[<-hR,<-h1] at R0;rw[<-h1] at O0;rw[<-hR,<-hG,<-h1];have HG:Hid (w.heap.size<=G∧w.heap.size<=R∧R≠G):=⟨by omega,by omega,by omega⟩;clear hG hR h1 h6 HB
 go_loopw [6] (λi wr=>∃j:Nat,j<=64∧i=.int .i64 j∧Hid (Blk wr G 117 (bl (mkd x k j)))∧Hid (Blk wr R 117 Z)∧Hid (N0 w wr)) (λi _=>64 - (intOf i).toNat)
 case atStart=>exact⟨0,by omega,rfl,S0,R0,O0⟩
 case round =>
  obtain⟨j,hj,rfl,hS,hR,hO⟩:=hrel;clear S0 R0 O0
  by_cases hlt:j<64
  ·obtain⟨y,hy⟩:=EX (k.getD j 0)
   have h5:=HK.o.2.1.at j;rw[<-hy] at h5;obtain⟨y0,y1⟩:=h5
   have h7:wr.cell? ⟨G,j,none⟩=some (.int .u8 y):=by
    rw[hS.o.cell,bl_at _ _ (by rw[qC _ _ _ (by rw[HK.o.1];omega),HK.o.1];exact hlt),MH _ _ _ (by rw[HK.o.1];exact hlt),hy]
   have hfr:wr.frozen? ⟨G,j,none⟩=false:=hS.o.froz _;have h0:=u8_xor y (x:Int) y0 (by omega) (by omega) (by have:=HK.o.2.2;omega);rw[Int.toNat_natCast] at h0;obtain⟨q,hq⟩:∃q:Int,q=((y.toNat ^^^ x:Nat):Int):=⟨_,rfl⟩;rw[<-hq] at h0
   have i0:(0:Int)<=(j:Int):=by omega
   have i1:(j:Int)<64:=by omega
   have N1:Hid (Blk (wr.setCell ⟨G,j,none⟩ (.int .u8 q)) G 117 (bl (mkd x k (j+1)))):=by
    have:=hS.o.set j (.int .u8 q);rw[Vy,hq,hy,EF _ _ _ (by rw[HK.o.1];exact hlt)] at this;rw[hq,hy];exact this
   have h2:=(Only.refl (λk=>k=G) wr).setCell (p:=⟨G,j,none⟩) (λ_=>rfl) (.int .u8 q);have N2:=Qa (hR.o.keep h2 HG.o.2.2);have N3:=Qa (hO.o.trans h2 (λi hi e=>by have:=HG.o.1;omega));clear hy hS hR hO h2 hq;go_wp2
   go_roundw
   case rel=>exact⟨j+1,by omega,by go_num,N1,N2,N3⟩
   case measure=>simp[intOf];omega
  ·obtain rfl:j=64:=by omega
   rw[HC.o] at hS;go_wp2_with (first|(refine wpList_load_row rfl 117 (.tmp 2) rfl G rfl 117 C.toArray (0,0) _ hS.o underlying117 rfl h4.o ?_)|(refine wpList_store_row rfl 117 (.tmp 4) (.tmp 16) rfl R C.toArray rfl rfl 117 Z.toArray hR.o h4.o HZ2.o HA.o ?_));refine bodyPost_ret (v:=.agg C.toArray) (results_cell_row rfl _ _ R 117 C.toArray (0,0) _ rfl (setRow_heap _ _ _ _ 117 _ hR.o) underlying117 rfl h4.o) rfl ⟨rfl,?_⟩;exact hO.o.setRow (λh=>absurd h (by have:=HG.o.2.1;omega)) _
def pcat (ls:Nat->LI):Nat->LI
 | 0=>[]
 | k+1=>pcat ls k++ls k
theorem GH (ls:Nat->LI) (k n:Nat) (h:k<=n):(pcat ls k).length<=(pcat ls n).length:=by
 induction n with
 | zero =>
  obtain rfl:k=0:=by omega
  exact Nat.le_refl _
 | succ n ih =>
  by_cases e:k=n+1
  ·subst e;exact Nat.le_refl _
  ·have:=ih (by omega)
   rw[pcat,Qc];omega
def Ps (w:World) (p n:Nat) (ls:Nat->LI):Prop:=∀i,i<n->∃u,w.cell? ⟨p,i,none⟩=some u∧Bs .u8 w u (ls i)∧U8 (ls i)
theorem Qv {q:Addr} {u:Value} (h:w.cell? q=some u) (o:N0 w w'):w'.cell? q=some u:=by
 rw[<-h];exact World.cell?_of_block (o.block _ (World.block_lt_of_cell? w _ h) (λf=>f))
theorem Ps.past {ls:Nat->LI} (h:Ps w p n ls) (o:N0 w w'):Ps w' p n ls:=λi hi=>by
 obtain⟨u,h1,h2,h3⟩:=h i hi;exact⟨u,Qv h1 o,h2.past o,h3⟩
theorem Blk.bs {t:TypeId} (h:Blk w g t (bl xs)) (n:Nat) (hn:xs.length=n):Bs .u8 w (.slice (some ⟨g,0,none⟩) n n) xs:=by
 subst hn;refine⟨_,_,rfl,Nat.le_refl _,λ_=>⟨g,0,rfl,λj hj=>?_⟩⟩;rw[Nat.zero_add,h.cell,bl_at _ _ hj]
theorem Ps.one {u:Value} (h:Bs .u8 w u xs) (h8:U8 xs):Ps (w.alloc (.cells #[u] 23)) w.heap.size 1 (λ_=>xs):=λi hi=>by
 obtain rfl:i=0:=by omega
 refine⟨u,?_,h.past ((Only.refl _ _).alloc _),h8⟩;have:=(Blk.new w 23 [u]).cell 0;rw[this];rfl
theorem KH (xs:LI):pcat (λ_=>xs) 1=xs:=List.nil_append _
def ptwo (a b:LI) (i:Nat):LI:=if i=0 then a else b
theorem Tz (a b:LI):pcat (ptwo a b) 2=a++b:=by
 show (([]++a)++b:LI)=_
 rw[List.nil_append]
theorem Ps.two {p u:Value} {a b:LI} (ha:Bs .u8 w p a) (hb:Bs .u8 w u b) (a8:U8 a) (b8:U8 b) :
 Ps (w.alloc (.cells #[p,u] 23)) w.heap.size 2 (ptwo a b):=λi hi=>by
 have o:N0 w (w.alloc (.cells #[p,u] 23)):=(Only.refl _ _).alloc _;have hB:=Blk.new w 23 [p,u]
 rcases (show i=0∨i=1 by omega) with rfl | rfl
 ·exact⟨p,hB.cell 0,ha.past o,a8⟩
 ·exact⟨u,hB.cell 1,hb.past o,b8⟩
theorem Lf (f:LI) (hf:f.length=64) (h8:U8 f) (p n:Nat) (ls:Nat->LI) (w:World) (hp:Ps w p n ls) (hl:(pcat ls n).length<=10000000000) (hn:n<=1000) :
 Calls prog 128 #[.agg (bl f).toArray,.slice (some ⟨p,0,none⟩) n n] w λe w'=>∃v,e=.returned v∧w'.ownsRow w.heap.size 5 1 v 32 ((QH (f++pcat ls n)).map (Value.int .u8))∧N0 w w':=by
 have h9:=(zero_of_info (P:=prog) Tryz.zero33).1;obtain⟨Z,hZ⟩:=EX zH;rw[<-hZ] at h9;obtain⟨W1,h2⟩:=EX ((w.alloc (.cells (bl f).toArray 117)).alloc (.cells Z.toArray 119))
 have hb:Blk W1 w.heap.size 117 (bl f):=by rw[h2];exact (Blk.new w 117 (bl f)).alloc _
 have hh:Blk W1 (w.heap.size+1) 119 zH:=by
  have:=Blk.new (w.alloc (.cells (bl f).toArray 117)) 119 Z;rw[size_alloc] at this;rw[h2,<-hZ];exact this
 have h6:N0 w W1:=by rw[h2];exact ((Only.refl _ _).alloc _).alloc _
 have WC:=Qa (KF (w.heap.size+1) [] f (.slice (some ⟨w.heap.size,0,none⟩) 64 64) W1 (Hs.zero hh) (hb.bs 64 hf) h8 (λ_ k hk e=>by simp[Value.ownBlock] at hk;omega) (by rw[hf];decide));rw[hf] at WC;have hd:=Qa h6;have h5:=Qa h2;have HP:=Qa hp;have HF:=Qa hf;obtain⟨B,hB⟩:=EX (bl f);rw[<-hB] at h5 ⊢;obtain⟨G,hG⟩:=EX (w.heap.size+1);have HG:=Qa hG;clear hZ h2 hb hh h6 hp hf h8 hB hG;go_enter func128,ntmps128;go_wp2_with fail;rw[<-h5.o];refine WC.o.mono ?_;rintro e w3 ⟨rfl,h3,h7⟩;rw[List.nil_append] at h3
 have S0:Hid (Hs w3 G (f++pcat ls 0)):=by
  show _
  rw[show f++pcat ls 0=f from List.append_nil f,HG.o];exact .inl h3
 have O0:=Qa (hd.o.trans h7 (λi hi e=>by omega));rw[<-HG.o];clear h3 h7 WC h5 hd h9;go_wp2
 go_loopw [12] (λi wr=>∃j:Nat,j<=n∧i=.int .i64 j∧Hid (Hs wr G (f++pcat ls j))∧Hid (N0 w wr)) (λi _=>n - (intOf i).toNat)
 case atStart=>exact⟨0,by omega,rfl,S0,O0⟩
 case round =>
  obtain⟨j,hj,rfl,hS,hO⟩:=hrel;clear S0 O0
  by_cases hlt:j<n
  ·obtain⟨u,hu,h4,he⟩:=HP.o j hlt
   have hc:wr.cell? ⟨p,j,none⟩=some u:=Qv hu hO.o;have hg:=GH ls (j+1) n (by omega);have A:=Qa (KF G (f++pcat ls j) (ls j) u wr hS.o (h4.past hO.o) he (λhx k hk e=>by have:=h4.blk_lt hx k hk;have:=HG.o;omega) (by rw[pcat,Qc] at hg;rw[Qc,HF.o];omega));have dlt:decide ((j:Int)<(n:Int))=true:=Qe (by omega);have dlt':decide (j<n)=true:=Qe hlt
   have i0:(0:Int)<=(j:Int):=by omega
   have i1:(j:Int)<(n:Int):=by omega
   clear hu h4 he hS hg;go_wp2_with fail;refine A.o.mono ?_;rintro e w4 ⟨rfl,ha,h1⟩
   have N1:Hid (Hs w4 G (f++pcat ls (j+1))):=by
    show _
    rw[pcat,<-List.append_assoc];exact .inl ha
   have N2:=Qa (hO.o.trans h1 (λi hi e=>by have:=HG.o;omega));clear ha h1 A hO hc;go_wp2
   go_roundw
   case rel=>exact⟨j+1,by omega,by go_num,N1,N2⟩
   case measure=>simp[intOf];omega
  ·obtain rfl:j=n:=by omega
   have A:=Qa (JF G (f++pcat ls j) wr hS.o (by rw[Qc,HF.o];omega));have dlt:decide ((j:Int)<(j:Int))=false:=Qb (by omega);clear hS;go_wp2_with fail;refine A.o.mono ?_;rintro e w4 ⟨v4,rfl,h0,h1⟩;have F1:=Qa (Qu h0 hO.o.size);have F2:=Qa (hO.o.same h1);obtain⟨ao4,cap4,e4⟩:=(Bs.of_own (k:=.u8) (xs:=QH (f++pcat ls j)) (by rw[YN];exact h0)).len;subst e4;clear h0 h1 A;go_wp2;go_ret;exact⟨_,rfl,F1.o,F2.o⟩
end Go.Proofs.YtoflhbghdlaeaaaGreatDoor
