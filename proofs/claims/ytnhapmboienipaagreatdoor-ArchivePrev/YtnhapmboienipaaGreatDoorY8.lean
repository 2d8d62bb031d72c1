import Derived.Test.YtnhapmboienipaaGreatDoorY7
import Derived.Deep.RegionHeld
namespace Go.Proofs.YtnhapmboienipaaGreatDoor
set_option maxHeartbeats 1600000
set_option maxRecDepth 100000
open Go.RowKit _root_.Go.Proofs.Tryz
theorem Bs.keepE {k:IntKind} {w w':World} {v:Value} {xs:List Int} (h:Bs k w v xs) {S:Nat→Prop} (ho:Only S w w') (hs:xs≠[]→∀b,v.ownBlock=some b→¬S b):Bs k w' v xs:=by
 by_cases hx:xs=[]
 ·subst hx
  obtain ⟨ao,cap,rfl,hc,_⟩:=h;exact ⟨ao,cap,rfl,hc,fun h=>absurd rfl h⟩
 ·exact h.keep ho (hs hx)
theorem QiF (g:Nat) (st:List Nat) (pc:List Int) (w w1:World) (h:Blk w g 147 (hc st pc 0)) (h2:st.length=8) (h3:pc.length=64) (h4:U8 pc) (on1:Only (fun _=>False) w w1) :
  Hs1 (w1.setCells g 0 (wl shH)) g []∧Only (fun k=>k=g) w (w1.setCells g 0 (wl shH)):=by
 refine ⟨⟨shH,pc,?_,HP.start pc h3 h4⟩,?_⟩
 ·have:=Qfw [] (wl st) (bl pc++[.int .i64 ((0:Nat):Int)]) (wl shH) (by rw [Qaw,Qaw,h2];rfl) w1 g 147 (by have:=h.past on1;unfold hc at this;simpa using this)
  unfold hc
  simpa using this
 ·exact Only.setCells (S:=fun k=>k=g) (fun _=>rfl) (wl shH) 0 w1 (on1.mono (fun _ _ f=>f.elim))
abbrev o0wr : Oper:={ dst:=some 54,op:=Op.load 144 (Operand.tmp 53),type:=144,pos:="sha.go:48",after:=#[{ on:=3,ground:=Ground.data }],guard:=none }
abbrev o1wr : Oper:={ dst:=some 58,op:=Op.load 145 (Operand.tmp 57),type:=145,pos:="sha.go:48",after:=#[{ on:=7,ground:=Ground.data }],guard:=none }
abbrev o2wr : Oper:={ dst:=some 59,op:=Op.call { callee:=Callee.value (Operand.func 152),args:=#[Operand.tmp 54,Operand.tmp 58],argTypes:=#[144,145] },type:=144,pos:="sha.go:48",after:=#[{ on:=4,ground:=Ground.data },{ on:=8,ground:=Ground.data }],guard:=none }
abbrev o3wr : Oper:={ dst:=some 60,op:=Op.nilCheck (Operand.tmp 50),type:=0,pos:="sha.go:48",after:=#[{ on:=0,ground:=Ground.data },{ on:=0,ground:=Ground.phase },{ on:=1,ground:=Ground.phase },{ on:=2,ground:=Ground.phase },{ on:=3,ground:=Ground.phase },{ on:=4,ground:=Ground.phase },{ on:=5,ground:=Ground.phase },{ on:=6,ground:=Ground.phase },{ on:=7,ground:=Ground.phase },{ on:=8,ground:=Ground.phase },{ on:=9,ground:=Ground.phase }],guard:=none }
abbrev o4wr : Oper:={ dst:=some 61,op:=Op.fieldAddr 147 (Operand.tmp 60) 0,type:=0,pos:="sha.go:48",after:=#[{ on:=10,ground:=Ground.data },{ on:=0,ground:=Ground.phase },{ on:=1,ground:=Ground.phase },{ on:=2,ground:=Ground.phase },{ on:=3,ground:=Ground.phase },{ on:=4,ground:=Ground.phase },{ on:=5,ground:=Ground.phase },{ on:=6,ground:=Ground.phase },{ on:=7,ground:=Ground.phase },{ on:=8,ground:=Ground.phase },{ on:=9,ground:=Ground.phase }],guard:=none }
abbrev o5wr : Oper:={ dst:=none,op:=Op.store 144 (Operand.tmp 61) (Operand.tmp 59),type:=0,pos:="sha.go:48",after:=#[{ on:=11,ground:=Ground.data },{ on:=9,ground:=Ground.data },{ on:=9,ground:=Ground.chain },{ on:=0,ground:=Ground.phase },{ on:=1,ground:=Ground.phase },{ on:=2,ground:=Ground.phase },{ on:=3,ground:=Ground.phase },{ on:=4,ground:=Ground.phase },{ on:=5,ground:=Ground.phase },{ on:=6,ground:=Ground.phase },{ on:=7,ground:=Ground.phase },{ on:=8,ground:=Ground.phase },{ on:=9,ground:=Ground.phase }],guard:=none }
abbrev o6wr : Oper:={ dst:=some 50,op:=Op.move (Operand.tmp 0),type:=196,pos:="sha.go:48",after:=#[],guard:=none }
abbrev o7wr : Oper:={ dst:=some 51,op:=Op.move (Operand.tmp 0),type:=196,pos:="sha.go:48",after:=#[],guard:=none }
abbrev o8wr : Oper:={ dst:=some 52,op:=Op.nilCheck (Operand.tmp 51),type:=0,pos:="sha.go:48",after:=#[{ on:=1,ground:=Ground.data }],guard:=none }
abbrev o9wr : Oper:={ dst:=some 53,op:=Op.fieldAddr 147 (Operand.tmp 52) 0,type:=0,pos:="sha.go:48",after:=#[{ on:=2,ground:=Ground.data }],guard:=none }
abbrev o10wr : Oper:={ dst:=some 55,op:=Op.move (Operand.tmp 0),type:=196,pos:="sha.go:48",after:=#[],guard:=none }
abbrev o11wr : Oper:={ dst:=some 56,op:=Op.nilCheck (Operand.tmp 55),type:=0,pos:="sha.go:48",after:=#[{ on:=5,ground:=Ground.data }],guard:=none }
abbrev o12wr : Oper:={ dst:=some 57,op:=Op.fieldAddr 147 (Operand.tmp 56) 1,type:=0,pos:="sha.go:48",after:=#[{ on:=6,ground:=Ground.data }],guard:=none }
theorem QcL (g:Nat) (all xs:List Int) (v:Value) (w:World) (h:Hs w g all) (hb:Bs .u8 w v xs) (h8:U8 xs) (hv:xs≠[]→∀k,v.ownBlock=some k→k≠g) (hl:all.length+xs.length≤1000000000000) :
  Calls prog 104 #[.pointer (some ⟨g,0,none⟩),v] w fun e w'=>e=.returned (.int .i64 xs.length)∧Hs1 w' g (all++xs)∧Only (fun k=>k=g) w w':=by
 obtain ⟨ao,cap,rfl⟩:=hb.len;obtain ⟨n,hn⟩:∃n,n=all.length:=⟨_,rfl⟩
 have hc72:w.cell? ⟨g,72,none⟩=some (.int .i64 (n:Int)):=by
  rcases h with ⟨st,pc,h1,h2⟩ | ⟨rfl,st,pc,h1,h2,h3,_⟩
  ·rw [h1.cell,hc_n h2.sl h2.pl,hn]
  ·rw [h1.cell,hc_n h2 h3,hn];rfl
 by_cases h0:n=0
 ·subst h0
  have ha:all=[]:=List.eq_nil_of_length_eq_zero hn.symm;subst ha
  obtain ⟨st,pc,h1,h2,h3,h4⟩:∃st pc,Blk w g 147 (hc st pc 0)∧st.length=8∧pc.length=64∧U8 pc:=by
   rcases h with ⟨st,pc,h1,h2⟩ | ⟨_,st,pc,h1,h2,h3,h4⟩
   ·exact ⟨st,pc,h1,h2.sl,h2.pl,h2.u8⟩
   ·exact ⟨st,pc,h1,h2,h3,h4⟩
  have H1:=Qaa (And.intro h1 (And.intro h2 (And.intro h3 h4)));have HB:=Qaa (And.intro hb (And.intro h8 hv));clear h1 h2 h3 h4 h hb h8 hv hn;go_enter func104,ntmps104;go_wp2_with fail;refine (Qk9 _).mono ?_;rintro e w1 ⟨rfl,on1⟩;have TH:=Qaa ((H1.out.1.past on1).there 0 8 (by rw [QgH H1.out.2.1 H1.out.2.2.1];decide));have HSZ:Hid ((prog.info? 144).map (·.size)=some (wl shH).toArray.size):=Tryz.size30;go_wp2_with (refine wpList_store_mid rfl 144 (.tmp 17) (.tmp 15) rfl g 0 (wl shH).toArray rfl rfl TH.out HSZ.out (Qb8 _) ?_);have WS:=QiF g _ _ w w1 H1.out.1 H1.out.2.1 H1.out.2.2.1 H1.out.2.2.2 on1;have HS1:=Qaa (And.intro WS.1 (And.intro (HB.out.1.keepE WS.2 (fun hx k hk e=>HB.out.2.2 hx k hk e)) (And.intro HB.out.2.2 WS.2)));have H8:=Qaa HB.out.2.1;clear WS H1 HB on1 TH HSZ hc72;obtain ⟨W1,hW1⟩:∃W1,W1=w1.setCells g 0 (wl shH):=⟨_,rfl⟩;rw [←hW1] at HS1 ⊢;obtain ⟨FQ,hFQ⟩:∃FQ,FQ=wl shH:=⟨_,rfl⟩;rw [←hFQ];clear hFQ hW1;obtain ⟨all,hall⟩:∃all:List Int,all=[]:=⟨_,rfl⟩;rw [←hall] at HS1 hl
  go_loopw [5] (fun o wr=>∃i:Nat,i≤xs.length∧Hs1 wr g (all++xs.take i)∧Bs .u8 wr o (xs.drop i)∧(xs.drop i≠[]→∀k,o.ownBlock=some k→k≠g)∧Only (fun k=>k=g) w wr) (fun o _=>slen o)
  case atStart=>exact ⟨0,Nat.zero_le _,by simpa using HS1.out.1,HS1.out.2.1,(by have h:=HS1.out.2.2.1;rw [hall] at h;exact h),HS1.out.2.2.2⟩
  case round =>
   obtain ⟨i,hi,hs,hbr,hvr,onr⟩:=hrel;have HE:=Qaa hi;obtain ⟨ao1,cap1,rfl⟩:=hbr.len;have HL:=Qaa hl;obtain ⟨ys,hys⟩:∃ys,ys=xs.drop i:=⟨_,rfl⟩;obtain ⟨al,hal⟩:∃al,al=all++xs.take i:=⟨_,rfl⟩;rw [←hys] at hbr hvr ⊢;rw [←hal] at hs
   have hyl:ys.length=xs.length - i:=by rw [hys,Yai]
   by_cases hy0:ys=[]
   ·have hie:i=xs.length:=by
     rw [hy0] at hyl;simp at hyl;omega
    have E1:Hid (Hs1 wr g (all++xs)):=by
     show _
     rw [hal,hie,List.take_length] at hs;exact hs
    have E2:=Qaa onr;clear hyl hie hs onr hbr hvr hal hys HS1;subst hy0;simp only [List.length_nil];go_wp2;go_ret;exact ⟨rfl,by have:=E1.out;rw [hall] at this;exact this,E2.out⟩
   ·have hvr:=hvr hy0
    obtain ⟨b,off,rfl,hcell⟩:=(by obtain ⟨ao',cap',e,_,hr⟩:=hbr;simp at e;obtain ⟨rfl,rfl⟩:=e;exact hr hy0:∃b off,ao1=some ⟨b,off,none⟩∧∀j,j<ys.length→wr.cell? ⟨b,off+j,none⟩=some (.int .u8 (ys.getD j 0)));obtain ⟨st,pc,hblk,hp⟩:=hs;obtain ⟨n,hn⟩:∃n,n=al.length:=⟨_,rfl⟩;obtain ⟨r,hr⟩:∃r,r=n % 64:=⟨_,rfl⟩
    have hc72:wr.cell? ⟨g,72,none⟩=some (.int .i64 (n:Int)):=by rw [hblk.cell,hc_n hp.sl hp.pl,hn]
    have hr64:(r:Int)<64:=by omega
    have hr0:(n:Int) % 64=(r:Int):=by omega
    have hr1:(n:Int).tmod 64=(r:Int):=by rw [Int.tmod_eq_emod_of_nonneg (by omega),hr0]
    have hr2:(0:Int)≤(r:Int):=by omega
    have hr3:(r:Int)≤64:=by omega
    have hn0:¬64=r:=by omega
    have hn1:n≤1000000000000:=by rw [hn,hal,Yae,Yag];omega
    obtain ⟨L,hL⟩:∃L,L=ys.length:=⟨_,rfl⟩
    have hLp:0<L:=by rw [hL];exact List.length_pos_iff.2 hy0
    obtain ⟨k,hk⟩:∃k,k=min (64 - r) L:=⟨_,rfl⟩
    have hw0:IntKind.i64.wrap (r:Int)=(r:Int):=by rw [IntKind.wrap_i64];omega
    rw [←hL];obtain ⟨zs,hzs⟩:∃zs,zs=ys.take k:=⟨_,rfl⟩
    have hzl:zs.length=k:=by rw [hzs,Yag];omega
    have CB:=Qaa (show Blk wr.drew g 147 (hc st pc n) by rw [hn];exact hblk)
    have CN:Hid ((bl zs).length=Nat.min L (64 - r)):=by
     show _=_
     rw [Qal,hzl,hk,Nat.min_comm]
    have CS:Hid (∀j v,(bl zs)[j]? = some v→wr.drew.cell? ((⟨b,off,none⟩:Addr).add j)=some v):=fun j v hj=>by
     have h1:=(List.getElem?_eq_some_iff.1 hj).1;rw [Qal,hzl] at h1;rw [Addr.add_mid];have h2:=hcell j (by omega)
     have e:(bl zs)[j]? = some (.int .u8 (ys.getD j 0)):=by
      rw [bl_at _ _ (by omega),hzs,Yad,Yad,List.getElem?_take,if_pos h1]
     rw [e] at hj
     cases hj
     exact h2
    have CF:Hid (8+r+(bl zs).length≤(hc st pc n).length):=by
     show _≤_
     rw [QgH hp.sl hp.pl,Qal,hzl];omega
    have CO:=Qaa (Qb7 zs);have CZ:=Qaa (show (bl zs).length=k by rw [Qal,hzl]);have HX:=Qaa (And.intro hp (And.intro hn (And.intro hr (And.intro hk (And.intro hL (And.intro hzs (And.intro hzl hyl)))))));have HV:=Qaa (And.intro hvr (And.intro onr hbr));have HAL:=Qaa (And.intro hal hys);clear hblk hp hn hr hk hL hcell hvr onr hbr hal hys hyl hy0 hi hl hzs hzl;obtain ⟨ZB,hZB⟩:∃ZB,ZB=bl zs:=⟨_,rfl⟩;rw [←hZB] at CN CS CF CO CZ;obtain ⟨HC,hHC⟩:∃HC,HC=hc st pc n:=⟨_,rfl⟩;rw [←hHC] at CB CF;have HHC:=Qaa (And.intro hHC hZB);clear hHC hZB;go_wp2_with fail
    go_region_law (refine Qc9 rfl (.tmp 30) (.tmp 31) 22 22 rfl 5 underlying22 Tryz.one5 g (8+r) (64 - r) (64 - r) ⟨b,off,none⟩ L cap1 (by kernel_rfl) (by kernel_rfl) HC 147 CB.out ZB k CZ.out CN.out CS.out CF.out CO.out ?_;intro w4 hb4 on4)
    obtain ⟨hp,hn,hr,hk,hL,hzs,hzl,hyl⟩:=HX.out;obtain ⟨hvr,onr,hbr⟩:=HV.out;obtain ⟨hal,hys⟩:=HAL.out
    have hz8:U8 zs:=by rw [hzs,hys];exact (H8.out.drop _).take _
    have hfit:r+zs.length≤64:=by rw [hzl,hk];omega
    have hb5:Blk w4 g 147 (hc st (splice pc r zs) n):=by
     have:=hb4;rw [HHC.out.1,HHC.out.2,QgI hp.sl hp.pl n r zs hfit] at this;exact this
    have onw:Only (fun k=>k=g) wr w4:=(Only.refl (fun k=>k=g) wr).drew.trans on4 (fun _ _ e=>e)
    have hbA:Bs .u8 w4 (.slice (some ⟨b,off,none⟩) L cap1) ys:=by rw [hL];exact hbr.keep onw hvr
    have hkL:k≤L:=by omega
    obtain ⟨A,hA,hBA,hOA⟩:∃A,(if cap1=k then some (⟨b,off,none⟩:Addr) else some ⟨b,off+k,none⟩)=A∧Bs .u8 w4 (.slice A (L - k) (cap1 - k)) (ys.drop k)∧(∀j,(Value.slice A (L - k) (cap1 - k)).ownBlock=some j→j≠g):=by
     by_cases hck:cap1=k
     ·refine ⟨_,if_pos hck,?_,fun j hj=>hvr j (by simpa [Value.ownBlock] using hj)⟩
      subst hck;rw [Nat.sub_self];exact hbA.cut0 hkL
     ·refine ⟨_,if_neg hck,?_,fun j hj=>hvr j (by simpa [Value.ownBlock] using hj)⟩
      have:=hbA.cut hkL;rw [Option.map_some,Addr.add_mid] at this;exact this
    have hq:w4.cell? ⟨g,72,none⟩=some (.int .i64 (n:Int)):=by
     rw [hb5.cell,hc_n hp.sl (by rw [length_splice _ _ _ (by rw [hp.pl];exact hfit),hp.pl])]
    have hfz:w4.frozen? ⟨g,72,none⟩=false:=hb5.froz _;obtain ⟨n2,hn2⟩:∃n2,n2=n+k:=⟨_,rfl⟩
    have hs2:(n:Int)+(k:Int)=(n2:Int):=by omega
    have hkL':(k:Int)≤(L:Int):=by omega
    have hn3:(n2:Int)≤1000000000064:=by omega
    have hb6:=hb5.set 72 (.int .i64 (n2:Int));rw [Qjb hp.sl (by rw [length_splice _ _ _ (by rw [hp.pl];exact hfit),hp.pl])] at hb6;have on6:Only (fun k=>k=g) wr (w4.setCell ⟨g,72,none⟩ (.int .i64 (n2:Int))):=onw.setCell (p:=⟨g,72,none⟩) (fun _=>rfl) _;have on7:Only (fun k=>k=g) w4 (w4.setCell ⟨g,72,none⟩ (.int .i64 (n2:Int))):=(Only.refl (fun k=>k=g) w4).setCell (p:=⟨g,72,none⟩) (fun _=>rfl) _
    have hxk:xs.drop (i+k)=ys.drop k:=by rw [hys,List.drop_drop]
    have hak:all++xs.take (i+k)=al++zs:=by rw [hal,hzs,hys,List.append_assoc,List.take_add]
    have hik:i+k≤xs.length:=by have:=HE.out;omega
    have hmes:L - k<L:=by omega
    have hrm:r=al.length % 64:=by rw [hr,hn]
    have hlen:n2=(al++zs).length:=by rw [hn2,Yae,hzl,hn]
    by_cases hwh:r+k<64
    ·have hHP:=hp.part zs hz8 (by rw [←hrm,hzl];exact hwh)
     rw [←hrm] at hHP
     have R1:Hid (Hs1 (w4.setCell ⟨g,72,none⟩ (.int .i64 (n2:Int))) g (all++xs.take (i+k))):=by
      show _
      rw [hak];exact ⟨_,_,by rw [←hlen];exact hb6,hHP⟩
     have R2:Hid (Bs .u8 (w4.setCell ⟨g,72,none⟩ (.int .i64 (n2:Int))) (.slice A (L - k) (cap1 - k)) (xs.drop (i+k))):=by
      show _
      rw [hxk];exact hBA.keep on7 hOA
     have R3:=Qaa hOA;have R4:=Qaa (onr.trans on6 (fun _ _ e=>e));have R5:=Qaa (And.intro hik hmes);obtain ⟨r2,hr2'⟩:∃r2,r2=n2 % 64:=⟨_,rfl⟩
     have t1:(n2:Int) % 64=(r2:Int):=by omega
     have t2:((r2:Int) == 0)=false:=by rw [beq_eq_false_iff_ne];omega
     clear hp hn hr hk hL hzs hzl hyl hvr onr hbr hal hys hz8 hfit hb5 onw hbA hBA hOA hb6 on6 on7 hxk hak hik hmes hrm hlen hHP hb4 on4 CB CN CS CF CO CZ HX HV HAL HHC hn2 hr2' hwh hr0 hr1 hr2 hr3 hr64 hn0 hw0
     go_simp
     go_wp2
     go_roundw
     case rel=>exact ⟨i+k,R5.out.1,R1.out,R2.out,fun _=>R3.out,R4.out⟩
     case measure=>exact R5.out.2
    ·have hw64:r+k=64:=by omega
     have hHP:=hp.whole zs hz8 (by rw [←hrm,hzl];exact hw64);rw [←hrm] at hHP;obtain ⟨pc2,hpc2⟩:∃pc2,pc2=splice pc r zs:=⟨_,rfl⟩;rw [←hpc2] at hHP hb6;have hp2l:pc2.length=64:=hHP.pl;have TC:=Qaa (QeR st pc2 hp.sl hp.w32 hHP.pl hHP.u8);obtain ⟨W5,hW5⟩:∃W5,W5=w4.setCell ⟨g,72,none⟩ (.int .i64 (n2:Int)):=⟨_,rfl⟩;rw [←hW5] at hb6 on6 on7;obtain ⟨SB,hSB⟩:∃SB,SB=wl st:=⟨_,rfl⟩;obtain ⟨PB,hPB⟩:∃PB,PB=bl pc2:=⟨_,rfl⟩;obtain ⟨TB,hTB⟩:∃TB,TB=wl (thru st pc2):=⟨_,rfl⟩;rw [←hSB,←hPB,←hTB] at TC
     have hTL:TB.length=8:=by rw [hTB,Qaw,QcH]
     have hSL:SB.length=8:=by rw [hSB,Qaw,hp.sl]
     have hPL:PB.length=64:=by rw [hPB,Qal,hp2l]
     have hb7:Blk W5 g 147 (SB++PB++[.int .i64 (n2:Int)]):=by rw [hSB,hPB];exact hb6
     have hb8:Blk W5 g 147 ([]++SB++(PB++[.int .i64 (n2:Int)])):=by rw [List.nil_append,←List.append_assoc];exact hb7
     have r31:Hid (W5.drew.rangeAt g 8 PB):=hb7.drew.rangeN hSL;have r30:Hid (W5.drew.rangeAt g 0 SB):=hb8.drew.range
     have i31:Hid ((prog.info? 145).map (·.size)=some PB.length):=by rw [hPL];exact Tryz.size31
     have i30:Hid ((prog.info? 144).map (·.size)=some SB.length):=by rw [hSL];exact Tryz.size30
     have i3t:Hid ((prog.info? 144).map (·.size)=some TB.toArray.size):=by
      show _=_
      rw [List.size_toArray,hTL];exact Tryz.size30
     have o3t:Hid (TB.toArray.all (·.oneCell')=true):=by rw [hTB];exact Qb8 _
     have th6:Hid (∀w6,Only (fun _=>False) W5.drew w6→w6.there g 0 TB.toArray.size):=fun w6 o=>(hb7.past ((Only.refl (fun _=>False) W5).drew.same o)).there 0 TB.toArray.size (by
      rw [List.size_toArray,hTL,Yae,Yae,hSL];omega)
     have FIN:Hid (∀w6,Only (fun _=>False) W5.drew w6→Hs1 (w6.setCells g 0 TB) g (all++xs.take (i+k))∧Bs .u8 (w6.setCells g 0 TB) (.slice A (L - k) (cap1 - k)) (xs.drop (i+k))∧Only (fun k=>k=g) w (w6.setCells g 0 TB)):=fun w6 o=>by
      have o1:Only (fun k=>k=g) W5 w6:=((Only.refl (fun _=>False) W5).drew.same o).mono (fun _ _ f=>f.elim);have o2:Only (fun k=>k=g) W5 (w6.setCells g 0 TB):=Only.setCells (S:=fun k=>k=g) (fun _=>rfl) _ 0 w6 o1;refine ⟨?_,?_,onr.trans (on6.trans o2 (fun _ _ e=>e)) (fun _ _ e=>e)⟩
      ·rw [hak]
       refine ⟨_,_,?_,hHP⟩;rw [←hlen];have h9:=Qfw [] SB (PB++[.int .i64 (n2:Int)]) TB (by rw [hTL,hSL]) w6 g 147 (hb8.past ((Only.refl (fun _=>False) W5).drew.same o));rw [List.nil_append,List.length_nil] at h9;unfold hc;rw [←hTB,←hPB,List.append_assoc];exact h9
      ·rw [hxk]
       exact hBA.keep (on7.trans o2 (fun _ _ e=>e)) hOA
     have R3:=Qaa hOA;have R5:=Qaa (And.intro hik hmes);have HW5:=Qaa hW5
     have t1:(n2:Int) % 64=0:=by omega
     clear hp hn hr hk hL hzs hzl hyl hvr onr hbr hal hys hz8 hfit hb5 onw hbA hBA hOA hb6 on6 on7 hxk hak hik hmes hrm hlen hHP hb4 on4 CB CN CS CF CO CZ HX HV HAL HHC hn2 hwh hr0 hr1 hr2 hr3 hr64 hn0 hw0 hw64 hpc2 hp2l hb7 hb8 hSB hPB hTB hW5 hTL hSL hPL
     go_simp
     go_wp2_with fail;rw [←HW5.out];clear hq hfz HW5;refine wp_region_any (by kernel_rfl) ?_
     change wpAny _ _ _ _ _ _ _ (World.drew _)
     refine wpAny_take (i:=0) (oi:=o6wr) (v:=?v0) rfl (by kernel_rfl) (by kernel_rfl) (by kernel_rfl) (fun _ _ _ h=>h) (Or.inl ⟨by rfl,?h0⟩) ?r0
     case h0=>(intro w;go_simp;try with_reducible rfl)
     simp only [Act.put,Yaa,Yab,Yac];refine wpAny_take (i:=1) (oi:=o7wr) (v:=?v1) rfl (by kernel_rfl) (by kernel_rfl) (by kernel_rfl) (fun _ _ _ h=>h) (Or.inl ⟨by rfl,?h1⟩) ?r1
     case h1=>(intro w;go_simp;try with_reducible rfl)
     simp only [Act.put,Yaa,Yab,Yac];refine wpAny_take (i:=2) (oi:=o8wr) (v:=?v2) rfl (by kernel_rfl) (by kernel_rfl) (by kernel_rfl) (fun _ _ _ h=>h) (Or.inl ⟨by rfl,?h2⟩) ?r2
     case h2=>(intro w;go_simp;try with_reducible rfl)
     simp only [Act.put,Yaa,Yab,Yac];refine wpAny_take (i:=3) (oi:=o9wr) (v:=?v3) rfl (by kernel_rfl) (by kernel_rfl) (by kernel_rfl) (fun _ _ _ h=>h) (Or.inl ⟨by rfl,?h3⟩) ?r3
     case h3=>(intro w;go_simp;try with_reducible rfl)
     simp only [Act.put,Yaa,Yab,Yac];refine wpAny_take (i:=5) (oi:=o10wr) (v:=?v5) rfl (by kernel_rfl) (by kernel_rfl) (by kernel_rfl) (fun _ _ _ h=>h) (Or.inl ⟨by rfl,?h5⟩) ?r5
     case h5=>(intro w;go_simp;try with_reducible rfl)
     simp only [Act.put,Yaa,Yab,Yac];refine wpAny_take (i:=6) (oi:=o11wr) (v:=?v6) rfl (by kernel_rfl) (by kernel_rfl) (by kernel_rfl) (fun _ _ _ h=>h) (Or.inl ⟨by rfl,?h6⟩) ?r6
     case h6=>(intro w;go_simp;try with_reducible rfl)
     simp only [Act.put,Yaa,Yab,Yac];refine wpAny_take (i:=7) (oi:=o12wr) (v:=?v7) rfl (by kernel_rfl) (by kernel_rfl) (by kernel_rfl) (fun _ _ _ h=>h) (Or.inl ⟨by rfl,?h7⟩) ?r7
     case h7=>(intro w;go_simp;try with_reducible rfl)
     simp only [Act.put,Yaa,Yab,Yac];refine wpAny_ready (rs:=[4,8]) (by kernel_rfl) (by simp) ?_;refine AllReady.cons (o:=o0wr) rfl (fun K hK=>?_) (AllReady.cons (o:=o1wr) rfl (fun K hK=>?_) AllReady.nil)
     ·rw [if_pos (by rfl)]
      refine wp_load_mid 144 (.tmp 53) rfl g 0 rfl SB _ r30.out underlying144 rfl i30.out ?_;refine hK _ _ ?_;clear hK K;simp only [Act.put,Yaa,Yab,Yac];refine wpAny_ready (rs:=[8]) (by kernel_rfl) (by simp) ?_;refine AllReady.cons (o:=o1wr) rfl (fun K hK=>?_) AllReady.nil;rw [if_pos (by rfl)];refine wp_load_mid 145 (.tmp 57) rfl g 8 rfl PB _ r31.out underlying145 rfl i31.out ?_;refine hK _ _ ?_;clear hK K;simp only [Act.put,Yaa,Yab,Yac];refine wpAny_ready (rs:=[9]) (by kernel_rfl) (by simp) ?_;refine AllReady.cons (o:=o2wr) rfl (fun K hK=>?_) AllReady.nil
      go_simp
      go_wp2_with (go_at_call 152;refine (TC.out _).mono ?_;rintro e w6 ⟨rfl,on6⟩);refine wpAny_take (i:=10) (oi:=o3wr) (v:=?v10a) rfl (by kernel_rfl) (by kernel_rfl) (by kernel_rfl) (fun _ _ _ h=>h) (Or.inl ⟨by rfl,?h10a⟩) ?r10a
      case h10a=>(intro w;go_simp;try with_reducible rfl)
      simp only [Act.put,Yaa,Yab,Yac];refine wpAny_take (i:=11) (oi:=o4wr) (v:=?v11a) rfl (by kernel_rfl) (by kernel_rfl) (by kernel_rfl) (fun _ _ _ h=>h) (Or.inl ⟨by rfl,?h11a⟩) ?r11a
      case h11a=>(intro w;go_simp;try with_reducible rfl)
      simp only [Act.put,Yaa,Yab,Yac];refine wpAny_ready (rs:=[12]) (by kernel_rfl) (by simp) ?_;refine AllReady.cons (o:=o5wr) rfl (fun K hK=>?_) AllReady.nil;rw [if_pos (by rfl)];refine wp_store_mid 144 (.tmp 61) (.tmp 59) rfl g 0 TB.toArray rfl rfl (th6.out w6 on6) i3t.out o3t.out ?_;refine hK _ _ ?_;clear hK K;refine wpAny_done (by kernel_rfl) ?_ _;obtain ⟨q1,q2,q3⟩:=FIN.out w6 on6;have Q1:=Qaa q1;have Q2:=Qaa q2;have Q3:=Qaa q3;clear q1 q2 q3 on6 FIN TC r30 r31 i30 i31 i3t o3t th6
      go_simp
      go_wp2
      go_roundw
      case rel=>exact ⟨i+k,R5.out.1,Q1.out,Q2.out,fun _=>R3.out,Q3.out⟩
      case measure=>exact R5.out.2
     ·rw [if_pos (by rfl)]
      refine wp_load_mid 145 (.tmp 57) rfl g 8 rfl PB _ r31.out underlying145 rfl i31.out ?_;refine hK _ _ ?_;clear hK K;simp only [Act.put,Yaa,Yab,Yac];refine wpAny_ready (rs:=[4]) (by kernel_rfl) (by simp) ?_;refine AllReady.cons (o:=o0wr) rfl (fun K hK=>?_) AllReady.nil;rw [if_pos (by rfl)];refine wp_load_mid 144 (.tmp 53) rfl g 0 rfl SB _ r30.out underlying144 rfl i30.out ?_;refine hK _ _ ?_;clear hK K;simp only [Act.put,Yaa,Yab,Yac];refine wpAny_ready (rs:=[9]) (by kernel_rfl) (by simp) ?_;refine AllReady.cons (o:=o2wr) rfl (fun K hK=>?_) AllReady.nil
      go_simp
      go_wp2_with (go_at_call 152;refine (TC.out _).mono ?_;rintro e w6 ⟨rfl,on6⟩);refine wpAny_take (i:=10) (oi:=o3wr) (v:=?v10b) rfl (by kernel_rfl) (by kernel_rfl) (by kernel_rfl) (fun _ _ _ h=>h) (Or.inl ⟨by rfl,?h10b⟩) ?r10b
      case h10b=>(intro w;go_simp;try with_reducible rfl)
      simp only [Act.put,Yaa,Yab,Yac];refine wpAny_take (i:=11) (oi:=o4wr) (v:=?v11b) rfl (by kernel_rfl) (by kernel_rfl) (by kernel_rfl) (fun _ _ _ h=>h) (Or.inl ⟨by rfl,?h11b⟩) ?r11b
      case h11b=>(intro w;go_simp;try with_reducible rfl)
      simp only [Act.put,Yaa,Yab,Yac];refine wpAny_ready (rs:=[12]) (by kernel_rfl) (by simp) ?_;refine AllReady.cons (o:=o5wr) rfl (fun K hK=>?_) AllReady.nil;rw [if_pos (by rfl)];refine wp_store_mid 144 (.tmp 61) (.tmp 59) rfl g 0 TB.toArray rfl rfl (th6.out w6 on6) i3t.out o3t.out ?_;refine hK _ _ ?_;clear hK K;refine wpAny_done (by kernel_rfl) ?_ _;obtain ⟨q1,q2,q3⟩:=FIN.out w6 on6;have Q1:=Qaa q1;have Q2:=Qaa q2;have Q3:=Qaa q3;clear q1 q2 q3 on6 FIN TC r30 r31 i30 i31 i3t o3t th6
      go_simp
      go_wp2
      go_roundw
      case rel=>exact ⟨i+k,R5.out.1,Q1.out,Q2.out,fun _=>R3.out,Q3.out⟩
      case measure=>exact R5.out.2
 ·have hs1:Hs1 w g all:=by
   rcases h with h | ⟨rfl,_⟩
   ·exact h
   ·exact absurd hn h0
  have HS1:=Qaa (And.intro hs1 (And.intro hb (And.intro hv (Only.refl (fun k=>k=g) w))));have H8:=Qaa h8
  have h00:((n:Int) == 0)=false:=by rw [beq_eq_false_iff_ne];omega
  have HNN:=Qaa hn;clear h hb hv h8 hs1 hn h0;go_enter func104,ntmps104;go_wp2;clear hc72 h00
  go_loopw [5] (fun o wr=>∃i:Nat,i≤xs.length∧Hs1 wr g (all++xs.take i)∧Bs .u8 wr o (xs.drop i)∧(xs.drop i≠[]→∀k,o.ownBlock=some k→k≠g)∧Only (fun k=>k=g) w wr) (fun o _=>slen o)
  case atStart=>exact ⟨0,Nat.zero_le _,by simpa using HS1.out.1,HS1.out.2.1,HS1.out.2.2.1,HS1.out.2.2.2⟩
  case round =>
   obtain ⟨i,hi,hs,hbr,hvr,onr⟩:=hrel;have HE:=Qaa hi;obtain ⟨ao1,cap1,rfl⟩:=hbr.len;have HL:=Qaa hl;obtain ⟨ys,hys⟩:∃ys,ys=xs.drop i:=⟨_,rfl⟩;obtain ⟨al,hal⟩:∃al,al=all++xs.take i:=⟨_,rfl⟩;rw [←hys] at hbr hvr ⊢;rw [←hal] at hs
   have hyl:ys.length=xs.length - i:=by rw [hys,Yai]
   by_cases hy0:ys=[]
   ·have hie:i=xs.length:=by
     rw [hy0] at hyl;simp at hyl;omega
    have E1:Hid (Hs1 wr g (all++xs)):=by
     show _
     rw [hal,hie,List.take_length] at hs;exact hs
    have E2:=Qaa onr;clear hyl hie hs onr hbr hvr hal hys HS1;subst hy0;simp only [List.length_nil];go_wp2;go_ret;exact ⟨rfl,E1.out,E2.out⟩
   ·have hvr:=hvr hy0
    obtain ⟨b,off,rfl,hcell⟩:=(by obtain ⟨ao',cap',e,_,hr⟩:=hbr;simp at e;obtain ⟨rfl,rfl⟩:=e;exact hr hy0:∃b off,ao1=some ⟨b,off,none⟩∧∀j,j<ys.length→wr.cell? ⟨b,off+j,none⟩=some (.int .u8 (ys.getD j 0)));obtain ⟨st,pc,hblk,hp⟩:=hs;obtain ⟨n,hn⟩:∃n,n=al.length:=⟨_,rfl⟩;obtain ⟨r,hr⟩:∃r,r=n % 64:=⟨_,rfl⟩
    have hc72:wr.cell? ⟨g,72,none⟩=some (.int .i64 (n:Int)):=by rw [hblk.cell,hc_n hp.sl hp.pl,hn]
    have hr64:(r:Int)<64:=by omega
    have hr0:(n:Int) % 64=(r:Int):=by omega
    have hr1:(n:Int).tmod 64=(r:Int):=by rw [Int.tmod_eq_emod_of_nonneg (by omega),hr0]
    have hr2:(0:Int)≤(r:Int):=by omega
    have hr3:(r:Int)≤64:=by omega
    have hn0:¬64=r:=by omega
    have hn1:n≤1000000000000:=by rw [hn,hal,Yae,Yag];omega
    obtain ⟨L,hL⟩:∃L,L=ys.length:=⟨_,rfl⟩
    have hLp:0<L:=by rw [hL];exact List.length_pos_iff.2 hy0
    obtain ⟨k,hk⟩:∃k,k=min (64 - r) L:=⟨_,rfl⟩
    have hw0:IntKind.i64.wrap (r:Int)=(r:Int):=by rw [IntKind.wrap_i64];omega
    rw [←hL];obtain ⟨zs,hzs⟩:∃zs,zs=ys.take k:=⟨_,rfl⟩
    have hzl:zs.length=k:=by rw [hzs,Yag];omega
    have CB:=Qaa (show Blk wr.drew g 147 (hc st pc n) by rw [hn];exact hblk)
    have CN:Hid ((bl zs).length=Nat.min L (64 - r)):=by
     show _=_
     rw [Qal,hzl,hk,Nat.min_comm]
    have CS:Hid (∀j v,(bl zs)[j]? = some v→wr.drew.cell? ((⟨b,off,none⟩:Addr).add j)=some v):=fun j v hj=>by
     have h1:=(List.getElem?_eq_some_iff.1 hj).1;rw [Qal,hzl] at h1;rw [Addr.add_mid];have h2:=hcell j (by omega)
     have e:(bl zs)[j]? = some (.int .u8 (ys.getD j 0)):=by
      rw [bl_at _ _ (by omega),hzs,Yad,Yad,List.getElem?_take,if_pos h1]
     rw [e] at hj
     cases hj
     exact h2
    have CF:Hid (8+r+(bl zs).length≤(hc st pc n).length):=by
     show _≤_
     rw [QgH hp.sl hp.pl,Qal,hzl];omega
    have CO:=Qaa (Qb7 zs);have CZ:=Qaa (show (bl zs).length=k by rw [Qal,hzl]);have HX:=Qaa (And.intro hp (And.intro hn (And.intro hr (And.intro hk (And.intro hL (And.intro hzs (And.intro hzl hyl)))))));have HV:=Qaa (And.intro hvr (And.intro onr hbr));have HAL:=Qaa (And.intro hal hys);clear hblk hp hn hr hk hL hcell hvr onr hbr hal hys hyl hy0 hi hl hzs hzl;obtain ⟨ZB,hZB⟩:∃ZB,ZB=bl zs:=⟨_,rfl⟩;rw [←hZB] at CN CS CF CO CZ;obtain ⟨HC,hHC⟩:∃HC,HC=hc st pc n:=⟨_,rfl⟩;rw [←hHC] at CB CF;have HHC:=Qaa (And.intro hHC hZB);clear hHC hZB;go_wp2_with fail
    go_region_law (refine Qc9 rfl (.tmp 30) (.tmp 31) 22 22 rfl 5 underlying22 Tryz.one5 g (8+r) (64 - r) (64 - r) ⟨b,off,none⟩ L cap1 (by kernel_rfl) (by kernel_rfl) HC 147 CB.out ZB k CZ.out CN.out CS.out CF.out CO.out ?_;intro w4 hb4 on4)
    obtain ⟨hp,hn,hr,hk,hL,hzs,hzl,hyl⟩:=HX.out;obtain ⟨hvr,onr,hbr⟩:=HV.out;obtain ⟨hal,hys⟩:=HAL.out
    have hz8:U8 zs:=by rw [hzs,hys];exact (H8.out.drop _).take _
    have hfit:r+zs.length≤64:=by rw [hzl,hk];omega
    have hb5:Blk w4 g 147 (hc st (splice pc r zs) n):=by
     have:=hb4;rw [HHC.out.1,HHC.out.2,QgI hp.sl hp.pl n r zs hfit] at this;exact this
    have onw:Only (fun k=>k=g) wr w4:=(Only.refl (fun k=>k=g) wr).drew.trans on4 (fun _ _ e=>e)
    have hbA:Bs .u8 w4 (.slice (some ⟨b,off,none⟩) L cap1) ys:=by rw [hL];exact hbr.keep onw hvr
    have hkL:k≤L:=by omega
    obtain ⟨A,hA,hBA,hOA⟩:∃A,(if cap1=k then some (⟨b,off,none⟩:Addr) else some ⟨b,off+k,none⟩)=A∧Bs .u8 w4 (.slice A (L - k) (cap1 - k)) (ys.drop k)∧(∀j,(Value.slice A (L - k) (cap1 - k)).ownBlock=some j→j≠g):=by
     by_cases hck:cap1=k
     ·refine ⟨_,if_pos hck,?_,fun j hj=>hvr j (by simpa [Value.ownBlock] using hj)⟩
      subst hck;rw [Nat.sub_self];exact hbA.cut0 hkL
     ·refine ⟨_,if_neg hck,?_,fun j hj=>hvr j (by simpa [Value.ownBlock] using hj)⟩
      have:=hbA.cut hkL;rw [Option.map_some,Addr.add_mid] at this;exact this
    have hq:w4.cell? ⟨g,72,none⟩=some (.int .i64 (n:Int)):=by
     rw [hb5.cell,hc_n hp.sl (by rw [length_splice _ _ _ (by rw [hp.pl];exact hfit),hp.pl])]
    have hfz:w4.frozen? ⟨g,72,none⟩=false:=hb5.froz _;obtain ⟨n2,hn2⟩:∃n2,n2=n+k:=⟨_,rfl⟩
    have hs2:(n:Int)+(k:Int)=(n2:Int):=by omega
    have hkL':(k:Int)≤(L:Int):=by omega
    have hn3:(n2:Int)≤1000000000064:=by omega
    have hb6:=hb5.set 72 (.int .i64 (n2:Int));rw [Qjb hp.sl (by rw [length_splice _ _ _ (by rw [hp.pl];exact hfit),hp.pl])] at hb6;have on6:Only (fun k=>k=g) wr (w4.setCell ⟨g,72,none⟩ (.int .i64 (n2:Int))):=onw.setCell (p:=⟨g,72,none⟩) (fun _=>rfl) _;have on7:Only (fun k=>k=g) w4 (w4.setCell ⟨g,72,none⟩ (.int .i64 (n2:Int))):=(Only.refl (fun k=>k=g) w4).setCell (p:=⟨g,72,none⟩) (fun _=>rfl) _
    have hxk:xs.drop (i+k)=ys.drop k:=by rw [hys,List.drop_drop]
    have hak:all++xs.take (i+k)=al++zs:=by rw [hal,hzs,hys,List.append_assoc,List.take_add]
    have hik:i+k≤xs.length:=by have:=HE.out;omega
    have hmes:L - k<L:=by omega
    have hrm:r=al.length % 64:=by rw [hr,hn]
    have hlen:n2=(al++zs).length:=by rw [hn2,Yae,hzl,hn]
    by_cases hwh:r+k<64
    ·have hHP:=hp.part zs hz8 (by rw [←hrm,hzl];exact hwh)
     rw [←hrm] at hHP
     have R1:Hid (Hs1 (w4.setCell ⟨g,72,none⟩ (.int .i64 (n2:Int))) g (all++xs.take (i+k))):=by
      show _
      rw [hak];exact ⟨_,_,by rw [←hlen];exact hb6,hHP⟩
     have R2:Hid (Bs .u8 (w4.setCell ⟨g,72,none⟩ (.int .i64 (n2:Int))) (.slice A (L - k) (cap1 - k)) (xs.drop (i+k))):=by
      show _
      rw [hxk];exact hBA.keep on7 hOA
     have R3:=Qaa hOA;have R4:=Qaa (onr.trans on6 (fun _ _ e=>e));have R5:=Qaa (And.intro hik hmes);obtain ⟨r2,hr2'⟩:∃r2,r2=n2 % 64:=⟨_,rfl⟩
     have t1:(n2:Int) % 64=(r2:Int):=by omega
     have t2:((r2:Int) == 0)=false:=by rw [beq_eq_false_iff_ne];omega
     clear hp hn hr hk hL hzs hzl hyl hvr onr hbr hal hys hz8 hfit hb5 onw hbA hBA hOA hb6 on6 on7 hxk hak hik hmes hrm hlen hHP hb4 on4 CB CN CS CF CO CZ HX HV HAL HHC hn2 hr2' hwh hr0 hr1 hr2 hr3 hr64 hn0 hw0
     go_simp
     go_wp2
     go_roundw
     case rel=>exact ⟨i+k,R5.out.1,R1.out,R2.out,fun _=>R3.out,R4.out⟩
     case measure=>exact R5.out.2
    ·have hw64:r+k=64:=by omega
     have hHP:=hp.whole zs hz8 (by rw [←hrm,hzl];exact hw64);rw [←hrm] at hHP;obtain ⟨pc2,hpc2⟩:∃pc2,pc2=splice pc r zs:=⟨_,rfl⟩;rw [←hpc2] at hHP hb6;have hp2l:pc2.length=64:=hHP.pl;have TC:=Qaa (QeR st pc2 hp.sl hp.w32 hHP.pl hHP.u8);obtain ⟨W5,hW5⟩:∃W5,W5=w4.setCell ⟨g,72,none⟩ (.int .i64 (n2:Int)):=⟨_,rfl⟩;rw [←hW5] at hb6 on6 on7;obtain ⟨SB,hSB⟩:∃SB,SB=wl st:=⟨_,rfl⟩;obtain ⟨PB,hPB⟩:∃PB,PB=bl pc2:=⟨_,rfl⟩;obtain ⟨TB,hTB⟩:∃TB,TB=wl (thru st pc2):=⟨_,rfl⟩;rw [←hSB,←hPB,←hTB] at TC
     have hTL:TB.length=8:=by rw [hTB,Qaw,QcH]
     have hSL:SB.length=8:=by rw [hSB,Qaw,hp.sl]
     have hPL:PB.length=64:=by rw [hPB,Qal,hp2l]
     have hb7:Blk W5 g 147 (SB++PB++[.int .i64 (n2:Int)]):=by rw [hSB,hPB];exact hb6
     have hb8:Blk W5 g 147 ([]++SB++(PB++[.int .i64 (n2:Int)])):=by rw [List.nil_append,←List.append_assoc];exact hb7
     have r31:Hid (W5.drew.rangeAt g 8 PB):=hb7.drew.rangeN hSL;have r30:Hid (W5.drew.rangeAt g 0 SB):=hb8.drew.range
     have i31:Hid ((prog.info? 145).map (·.size)=some PB.length):=by rw [hPL];exact Tryz.size31
     have i30:Hid ((prog.info? 144).map (·.size)=some SB.length):=by rw [hSL];exact Tryz.size30
     have i3t:Hid ((prog.info? 144).map (·.size)=some TB.toArray.size):=by
      show _=_
      rw [List.size_toArray,hTL];exact Tryz.size30
     have o3t:Hid (TB.toArray.all (·.oneCell')=true):=by rw [hTB];exact Qb8 _
     have th6:Hid (∀w6,Only (fun _=>False) W5.drew w6→w6.there g 0 TB.toArray.size):=fun w6 o=>(hb7.past ((Only.refl (fun _=>False) W5).drew.same o)).there 0 TB.toArray.size (by
      rw [List.size_toArray,hTL,Yae,Yae,hSL];omega)
     have FIN:Hid (∀w6,Only (fun _=>False) W5.drew w6→Hs1 (w6.setCells g 0 TB) g (all++xs.take (i+k))∧Bs .u8 (w6.setCells g 0 TB) (.slice A (L - k) (cap1 - k)) (xs.drop (i+k))∧Only (fun k=>k=g) w (w6.setCells g 0 TB)):=fun w6 o=>by
      have o1:Only (fun k=>k=g) W5 w6:=((Only.refl (fun _=>False) W5).drew.same o).mono (fun _ _ f=>f.elim);have o2:Only (fun k=>k=g) W5 (w6.setCells g 0 TB):=Only.setCells (S:=fun k=>k=g) (fun _=>rfl) _ 0 w6 o1;refine ⟨?_,?_,onr.trans (on6.trans o2 (fun _ _ e=>e)) (fun _ _ e=>e)⟩
      ·rw [hak]
       refine ⟨_,_,?_,hHP⟩;rw [←hlen];have h9:=Qfw [] SB (PB++[.int .i64 (n2:Int)]) TB (by rw [hTL,hSL]) w6 g 147 (hb8.past ((Only.refl (fun _=>False) W5).drew.same o));rw [List.nil_append,List.length_nil] at h9;unfold hc;rw [←hTB,←hPB,List.append_assoc];exact h9
      ·rw [hxk]
       exact hBA.keep (on7.trans o2 (fun _ _ e=>e)) hOA
     have R3:=Qaa hOA;have R5:=Qaa (And.intro hik hmes);have HW5:=Qaa hW5
     have t1:(n2:Int) % 64=0:=by omega
     clear hp hn hr hk hL hzs hzl hyl hvr onr hbr hal hys hz8 hfit hb5 onw hbA hBA hOA hb6 on6 on7 hxk hak hik hmes hrm hlen hHP hb4 on4 CB CN CS CF CO CZ HX HV HAL HHC hn2 hwh hr0 hr1 hr2 hr3 hr64 hn0 hw0 hw64 hpc2 hp2l hb7 hb8 hSB hPB hTB hW5 hTL hSL hPL
     go_simp
     go_wp2_with fail;rw [←HW5.out];clear hq hfz HW5;refine wp_region_any (by kernel_rfl) ?_
     change wpAny _ _ _ _ _ _ _ (World.drew _)
     refine wpAny_take (i:=0) (oi:=o6wr) (v:=?vz0) rfl (by kernel_rfl) (by kernel_rfl) (by kernel_rfl) (fun _ _ _ h=>h) (Or.inl ⟨by rfl,?hz0⟩) ?rz0
     case hz0=>(intro w;go_simp;try with_reducible rfl)
     simp only [Act.put,Yaa,Yab,Yac];refine wpAny_take (i:=1) (oi:=o7wr) (v:=?vz1) rfl (by kernel_rfl) (by kernel_rfl) (by kernel_rfl) (fun _ _ _ h=>h) (Or.inl ⟨by rfl,?hz1⟩) ?rz1
     case hz1=>(intro w;go_simp;try with_reducible rfl)
     simp only [Act.put,Yaa,Yab,Yac];refine wpAny_take (i:=2) (oi:=o8wr) (v:=?vz2) rfl (by kernel_rfl) (by kernel_rfl) (by kernel_rfl) (fun _ _ _ h=>h) (Or.inl ⟨by rfl,?hz2⟩) ?rz2
     case hz2=>(intro w;go_simp;try with_reducible rfl)
     simp only [Act.put,Yaa,Yab,Yac];refine wpAny_take (i:=3) (oi:=o9wr) (v:=?vz3) rfl (by kernel_rfl) (by kernel_rfl) (by kernel_rfl) (fun _ _ _ h=>h) (Or.inl ⟨by rfl,?hz3⟩) ?rz3
     case hz3=>(intro w;go_simp;try with_reducible rfl)
     simp only [Act.put,Yaa,Yab,Yac];refine wpAny_take (i:=5) (oi:=o10wr) (v:=?vz5) rfl (by kernel_rfl) (by kernel_rfl) (by kernel_rfl) (fun _ _ _ h=>h) (Or.inl ⟨by rfl,?hz5⟩) ?rz5
     case hz5=>(intro w;go_simp;try with_reducible rfl)
     simp only [Act.put,Yaa,Yab,Yac];refine wpAny_take (i:=6) (oi:=o11wr) (v:=?vz6) rfl (by kernel_rfl) (by kernel_rfl) (by kernel_rfl) (fun _ _ _ h=>h) (Or.inl ⟨by rfl,?hz6⟩) ?rz6
     case hz6=>(intro w;go_simp;try with_reducible rfl)
     simp only [Act.put,Yaa,Yab,Yac];refine wpAny_take (i:=7) (oi:=o12wr) (v:=?vz7) rfl (by kernel_rfl) (by kernel_rfl) (by kernel_rfl) (fun _ _ _ h=>h) (Or.inl ⟨by rfl,?hz7⟩) ?rz7
     case hz7=>(intro w;go_simp;try with_reducible rfl)
     simp only [Act.put,Yaa,Yab,Yac];refine wpAny_ready (rs:=[4,8]) (by kernel_rfl) (by simp) ?_;refine AllReady.cons (o:=o0wr) rfl (fun K hK=>?_) (AllReady.cons (o:=o1wr) rfl (fun K hK=>?_) AllReady.nil)
     ·rw [if_pos (by rfl)]
      refine wp_load_mid 144 (.tmp 53) rfl g 0 rfl SB _ r30.out underlying144 rfl i30.out ?_;refine hK _ _ ?_;clear hK K;simp only [Act.put,Yaa,Yab,Yac];refine wpAny_ready (rs:=[8]) (by kernel_rfl) (by simp) ?_;refine AllReady.cons (o:=o1wr) rfl (fun K hK=>?_) AllReady.nil;rw [if_pos (by rfl)];refine wp_load_mid 145 (.tmp 57) rfl g 8 rfl PB _ r31.out underlying145 rfl i31.out ?_;refine hK _ _ ?_;clear hK K;simp only [Act.put,Yaa,Yab,Yac];refine wpAny_ready (rs:=[9]) (by kernel_rfl) (by simp) ?_;refine AllReady.cons (o:=o2wr) rfl (fun K hK=>?_) AllReady.nil
      go_simp
      go_wp2_with (go_at_call 152;refine (TC.out _).mono ?_;rintro e w6 ⟨rfl,on6⟩);refine wpAny_take (i:=10) (oi:=o3wr) (v:=?vz10a) rfl (by kernel_rfl) (by kernel_rfl) (by kernel_rfl) (fun _ _ _ h=>h) (Or.inl ⟨by rfl,?hz10a⟩) ?rz10a
      case hz10a=>(intro w;go_simp;try with_reducible rfl)
      simp only [Act.put,Yaa,Yab,Yac];refine wpAny_take (i:=11) (oi:=o4wr) (v:=?vz11a) rfl (by kernel_rfl) (by kernel_rfl) (by kernel_rfl) (fun _ _ _ h=>h) (Or.inl ⟨by rfl,?hz11a⟩) ?rz11a
      case hz11a=>(intro w;go_simp;try with_reducible rfl)
      simp only [Act.put,Yaa,Yab,Yac];refine wpAny_ready (rs:=[12]) (by kernel_rfl) (by simp) ?_;refine AllReady.cons (o:=o5wr) rfl (fun K hK=>?_) AllReady.nil;rw [if_pos (by rfl)];refine wp_store_mid 144 (.tmp 61) (.tmp 59) rfl g 0 TB.toArray rfl rfl (th6.out w6 on6) i3t.out o3t.out ?_;refine hK _ _ ?_;clear hK K;refine wpAny_done (by kernel_rfl) ?_ _;obtain ⟨q1,q2,q3⟩:=FIN.out w6 on6;have Q1:=Qaa q1;have Q2:=Qaa q2;have Q3:=Qaa q3;clear q1 q2 q3 on6 FIN TC r30 r31 i30 i31 i3t o3t th6
      go_simp
      go_wp2
      go_roundw
      case rel=>exact ⟨i+k,R5.out.1,Q1.out,Q2.out,fun _=>R3.out,Q3.out⟩
      case measure=>exact R5.out.2
     ·rw [if_pos (by rfl)]
      refine wp_load_mid 145 (.tmp 57) rfl g 8 rfl PB _ r31.out underlying145 rfl i31.out ?_;refine hK _ _ ?_;clear hK K;simp only [Act.put,Yaa,Yab,Yac];refine wpAny_ready (rs:=[4]) (by kernel_rfl) (by simp) ?_;refine AllReady.cons (o:=o0wr) rfl (fun K hK=>?_) AllReady.nil;rw [if_pos (by rfl)];refine wp_load_mid 144 (.tmp 53) rfl g 0 rfl SB _ r30.out underlying144 rfl i30.out ?_;refine hK _ _ ?_;clear hK K;simp only [Act.put,Yaa,Yab,Yac];refine wpAny_ready (rs:=[9]) (by kernel_rfl) (by simp) ?_;refine AllReady.cons (o:=o2wr) rfl (fun K hK=>?_) AllReady.nil
      go_simp
      go_wp2_with (go_at_call 152;refine (TC.out _).mono ?_;rintro e w6 ⟨rfl,on6⟩);refine wpAny_take (i:=10) (oi:=o3wr) (v:=?vz10b) rfl (by kernel_rfl) (by kernel_rfl) (by kernel_rfl) (fun _ _ _ h=>h) (Or.inl ⟨by rfl,?hz10b⟩) ?rz10b
      case hz10b=>(intro w;go_simp;try with_reducible rfl)
      simp only [Act.put,Yaa,Yab,Yac];refine wpAny_take (i:=11) (oi:=o4wr) (v:=?vz11b) rfl (by kernel_rfl) (by kernel_rfl) (by kernel_rfl) (fun _ _ _ h=>h) (Or.inl ⟨by rfl,?hz11b⟩) ?rz11b
      case hz11b=>(intro w;go_simp;try with_reducible rfl)
      simp only [Act.put,Yaa,Yab,Yac];refine wpAny_ready (rs:=[12]) (by kernel_rfl) (by simp) ?_;refine AllReady.cons (o:=o5wr) rfl (fun K hK=>?_) AllReady.nil;rw [if_pos (by rfl)];refine wp_store_mid 144 (.tmp 61) (.tmp 59) rfl g 0 TB.toArray rfl rfl (th6.out w6 on6) i3t.out o3t.out ?_;refine hK _ _ ?_;clear hK K;refine wpAny_done (by kernel_rfl) ?_ _;obtain ⟨q1,q2,q3⟩:=FIN.out w6 on6;have Q1:=Qaa q1;have Q2:=Qaa q2;have Q3:=Qaa q3;clear q1 q2 q3 on6 FIN TC r30 r31 i30 i31 i3t o3t th6
      go_simp
      go_wp2
      go_roundw
      case rel=>exact ⟨i+k,R5.out.1,Q1.out,Q2.out,fun _=>R3.out,Q3.out⟩
      case measure=>exact R5.out.2
end Go.Proofs.YtnhapmboienipaaGreatDoor
