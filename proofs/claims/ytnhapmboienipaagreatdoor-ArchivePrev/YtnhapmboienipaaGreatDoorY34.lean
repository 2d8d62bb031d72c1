import Derived.Test.YtnhapmboienipaaGreatDoorY33
import Derived.Test.YtnhapmboienipaaGreatDoorY1
import Derived.Test.YtnhapmboienipaaGreatDoorY30
import Derived.Test.YtnhapmboienipaaGreatDoorY32
import Derived.Test.YtnhapmboienipaaGreatDoorY2
import Derived.Test.YtnhapmboienipaaGreatDoorY5
import Derived.Test.YtnhapmboienipaaGreatDoorY31
import Derived.Lib.TrailingZeros
import Derived.Laws.Bits64b
import Derived.WalkSpells
import Derived.Laws.Rows
import Derived.Deep.WholeRow
import Derived.Deep.RegionHeld3
namespace Go.Proofs.YtnhapmboienipaaGreatDoor
set_option maxHeartbeats 4000000
set_option maxRecDepth 100000
open Go.RowKit _root_.Go.Proofs.Tryz
section
open Go.Maps
theorem QeX (k:Nat) (w:World) (h:k≤65536) :
  Calls prog 258 #[.int .i64 k] w fun e w'=>e=.returned (.int .i64 (wP k))∧w=w':=by
 by_cases h0:k=0
 ·subst h0
  go_enter func258,ntmps258;go_wp2;go_ret;exact ⟨rfl,rfl⟩
 ·obtain ⟨j,rfl⟩:∃j,k=j+1:=⟨k - 1,by omega⟩
  have WA:=Qaa (Qcb ((j:Nat):Int) w (by omega) (by omega))
  have e1:wP (j+1)=wid j:=by unfold wP;rw [if_neg (by omega)];rfl
  rw [e1]
  have d0:(((j+1:Nat):Int) == 0)=false:=by rw [beq_eq_false_iff_ne];omega
  have e2:((j+1:Nat):Int) - 1=(j:Int):=by omega
  obtain ⟨K,hK⟩:∃K:Int,K=((j+1:Nat):Int):=⟨_,rfl⟩;rw [←hK] at d0 e2 ⊢
  have k1:K≤65536:=by omega
  have k0:1≤K:=by omega
  clear hK h0 e1 h;go_enter func258,ntmps258;go_wp2_with fail;refine WA.out.mono ?_;rintro e w' ⟨rfl,rfl⟩;clear WA;go_wp2;go_ret;exact ⟨rfl,rfl⟩
theorem law35:Keyed prog 23:=int_keyed underlying23
theorem zero3 (w:World):(zeroValue 3).run prog w=.ok (.int .i64 0) w:=by kernel_rfl
theorem QqE {y:Int} (h0:0≤y) (h1:y≤18446744073709551615):(Lit.int .u64 y).wf=true:=by
 have e1:IntKind.u64.min=0:=by decide
 have e2:IntKind.u64.max=18446744073709551615:=by decide
 simp only [Lit.wf,e1,e2,Bool.and_eq_true,decide_eq_true_eq];omega
structure Fs (w wr:World) (vd:Value) (l:List Int) (k:Nat):Prop where
 map:wr.ownsMap prog 23 (plainElem (H:=Unit) prog 3) w.heap.size k (DM (dic l))
 row:wr.ownsRow (w.heap.size+1) 23 1 vd (dic l).length ((dic l).map (Value.int .u64))
 be:Below w.heap.size w wr
theorem Qi1 {l:List Int} {k:Nat} (h:k<l.length):l.getD k 0∈l:=by
 rw [Yad,Yaf h];exact List.getElem_mem h
theorem Qj7 (l:List Int) (k:Nat) (h:k<l.length):l.take (k+1)=l.take k++[l.getD k 0]:=Qa4 l k h
theorem QtK {y:Nat} (h:y≤65536):(Lit.int .i64 (y:Int)).wf=true:=by
 have e1:IntKind.i64.min=-9223372036854775808:=by decide
 have e2:IntKind.i64.max=9223372036854775807:=by decide
 simp only [Lit.wf,e1,e2,Bool.and_eq_true,decide_eq_true_eq];omega
theorem QqF {w:World} {lo:Nat} {E:TypeId} {size:Nat} {v:Value} {n:Nat} {xs:List Value} (h:w.ownsRow lo E size v n xs) {b:Nat} (hb:b<lo):some b≠v.ownBlock:=by
 intro e;have:=(h.lt b e.symm).1;omega
theorem Qly (v:Value) (xs:List Int) (w:World) (h:Bs .u64 w v xs) (hu:U64 xs) (hl:xs.length≤65536) :
  Calls prog 257 #[v] w fun e w'=>∃vd,e=.returned (.tuple #[vd,.map (some w.heap.size)])∧Fs w w' vd xs xs.length:=by
 have hmm:=@run_makeMap prog;obtain ⟨i0,hi,hz0,hz1,hz2⟩:=info_parts Tryz.infoU64;obtain ⟨ao,cap,rfl⟩:=h.len;have HB:=Qaa h;have HU:=Qaa hu;obtain ⟨m,hm⟩:∃m,m=xs.length:=⟨_,rfl⟩;rw [←hm] at HB hl;rw [←hm];have HM:=Qaa hm
 have F0:Hid (Fs w (w.alloc (.map #[] 0)) (.slice none 0 0) (xs.take 0) 0) :=
  ⟨World.ownsMap_made _ _ _ _,World.ownsRow_nil _ _ _ _,(Below.refl _ _).alloc (Nat.le_refl _) _⟩
 clear h hm hu;go_enter func257,ntmps257;go_wp2
 go_loopw [2,11] (fun vd i wr=>∃k:Nat,k≤m∧i=.int .i64 k∧Fs w wr vd (xs.take k) k) (fun _ i _=>m - (intOf i).toNat)
 case atStart=>exact ⟨0,Nat.zero_le _,rfl,F0.out⟩
 case round =>
  clear F0;obtain ⟨k,hk,rfl,hf⟩:=hrel
  by_cases hlt:k<m
  ·obtain ⟨b,off,cap',e,hc⟩:=HB.out.at k (by rw [←HM.out];exact hlt)
   simp only [Value.slice.injEq] at e;obtain ⟨rfl,hmx,rfl⟩:=e;clear hmx;have hc1:=(hf.be.cell (p:=⟨b,off+k,none⟩) (World.block_lt_of_cell? w _ hc)).trans hc;obtain ⟨y0,y1⟩:=HU.out _ (Qi1 (l:=xs) (k:=k) (by rw [←HM.out];exact hlt));have HT:=Qaa (Qj7 xs k (by rw [←HM.out];exact hlt));generalize xs.getD k 0=y at *;have hkey:keyOf prog 23 (.int .u64 y)=some (.int .u64 y):=keyOf_int_mk underlying23 (QqE y0 y1);have hdl:=QfB (xs.take k);rw [Yag] at hdl;have hmap:=hf.map;have hrow:=hf.row;have BE:=Qaa hf.be;have DS:=Qaa (Qos (xs.take k) y);rw [←HT.out] at DS;have DH:=QtN (dic (xs.take k)) y;have DN:=Qaa (Qrp (dic (xs.take k)) y);obtain ⟨d,hd⟩:∃d,d=dic (xs.take k):=⟨_,rfl⟩;have HD:=Qaa hd;rw [←hd] at hmap hrow hdl DS DH DN;obtain ⟨n,hn⟩:∃n,n=d.length:=⟨_,rfl⟩;rw [←hn] at hrow hdl DN
   obtain ⟨a6,c6,e6⟩:∃a6 c6,u2=.slice a6 n c6:=by
    have:=(Bs.of_own (by rw [←hn];exact hrow):Bs .u64 wr u2 d).len;rw [←hn] at this;exact this
   subst e6;have HN:=Qaa hn
   have i1:(k:Int)<(m:Int):=by omega
   clear hc hd hn hf HB
   by_cases hin:y∈d
   ·rw [Yaj hin] at DH
    have DS2:=Qaa (DS.out.trans (if_pos hin));have HX:=Qaa hmap;have HY:=Qaa hrow;clear DS hin hrow
    go_wp2_with (first
     | (at_lookup;refine wpList_lookup_own_ok_int _ rfl _ _ 285 rfl 23 3 .i64 law35 underlying285 underlying3 (zero3 _) w.heap.size k _ rfl hmap _ _ rfl hkey ?_;intro c hat hwc;rw [DH];clear hat hwc)
     | fail)
    go_roundw
    case rel =>
     refine ⟨k+1,by omega,by go_num,?_,?_,BE.out⟩
     ·rw [DS2.out];exact HX.out.mono (Nat.le_succ _)
     ·rw [DS2.out,←HN.out];exact HY.out
    case measure=>simp [intOf];omega
   ·rw [Yak hin] at DH
    have DS2:=Qaa (DS.out.trans (if_neg hin));have BL:=Qaa (QqF hrow (Nat.lt_succ_self w.heap.size));have SZ:=hmap.lt;clear DS hin
    go_wp2_with (first
     | (at_lookup;refine wpList_lookup_own_ok_int _ rfl _ _ 285 rfl 23 3 .i64 law35 underlying285 underlying3 (zero3 _) w.heap.size k _ rfl hmap _ _ rfl hkey ?_;intro c hat hwc;rw [DH];clear hat hwc)
     | (at_mapUpdate;refine wpList_mapUpdate_own _ rfl _ _ _ 285 rfl 23 3 law35 underlying285 (plainElem (H:=Unit) prog 3) w.heap.size k _ rfl hmap (by unfold maxLen;omega) _ _ _ rfl rfl hkey _ [] (plainElem_int underlying3 (QtK (y:=n) (by omega))) ?_;intro w1 hown1 hgrow1)
     | (at_builtin;refine wpList_append_own _ rfl _ _ 176 rfl (w.heap.size+1) 23 i0 (.int .u64 0) 1 8 underlying176 hi hz0 hz1 hz2 rfl (by decide) _ n _ rfl ((hrow.kept hgrow1 (Or.inr BL.out.symm)).alloc _) ⟨w1.heap.size,0,none⟩ 1 1 [.int .u64 y] rfl rfl (cell_one_new _ _ _) (ints_oneCell .u64 [y]) (by unfold maxLen;omega) (by omega) (by have:=hgrow1.size;simp at this ⊢;omega) ?_;intro v' w2 hown' hgrow2 hnil2)
     | fail)
    have hr1:=hrow.kept hgrow1 (Or.inr BL.out.symm);have s1:=hgrow1.size;have s2:=hgrow2.size;have b0:=BE.out.size;simp at s1 s2
    go_roundw
    case rel =>
     refine ⟨k+1,by omega,by go_num,?_,?_,?_⟩
     ·rw [DS2.out,DN.out]
      exact (hown1.alloc _).kept hgrow2 (QqF hr1 (Nat.lt_succ_self _))
     ·rw [DS2.out,Yae,List.map_append,←HN.out]
      simpa using hown'
     ·exact (((BE.out.grown hgrow1 b0 (fun j hj=>by cases hj;exact Nat.le_refl _)).alloc (by omega) _).grown hgrow2 (by simp;omega) (fun j hj=>Nat.le_trans (Nat.le_succ _) (hr1.lt j hj).1))
    case measure=>simp [intOf];omega
  ·obtain rfl:k=m:=by omega
   have e0:xs.take k=xs:=by rw [HM.out,List.take_length]
   rw [e0] at hf;have HF:=Qaa hf;clear hf;go_wp2;go_ret2;exact ⟨_,rfl,HF.out⟩
end
section
open Go.Maps
theorem Qow {P:Program} {H:Type} {k:TypeId} {R:Value→Option (DataW H × List MemPlace)} {w w':World} {b n:Nat} {D:DataW H} (h:w.ownsMap P k R b n D) {S:Nat→Prop} (o:Only S w w') (hs:¬S b):w'.ownsMap P k R b n D:=by
 obtain ⟨es,clock,hb,F,hz,hD⟩:=h;exact ⟨es,clock,o.heap hb hs,F,hz,hD⟩
theorem Qi3 (d:List Int) (k:Nat) (h:k<d.length):fx8 (d.take (k+1))=fx8 (d.take k)++fixL (d.getD k 0) 8:=by
 rw [Qa4 d k h,Qou]
theorem Qkc (W:Nat) (f:Int→Nat) (xs:List Int) (k:Nat) (h:k<xs.length):bitsP W ((xs.take (k+1)).map f)=bitsP W ((xs.take k).map f)++Qaj (f (xs.getD k 0)) W:=by
 rw [Qa4 xs k h,List.map_append,List.map_singleton,Qj9]
theorem QfC (v:Value) (xs:List Int) (w:World) (h:Bs .u64 w v xs) (hl:65536<xs.length) :
  Calls prog 229 #[v] w fun e w'=>e=.returned (.tuple #[.slice none 0 0,.int .i64 4])∧w=w':=by
 obtain ⟨ao,cap,rfl⟩:=h.len;clear h
 have d0:decide (65536<(xs.length:Int))=true:=by simp;omega
 generalize xs.length=m at *;clear hl;go_enter func229,ntmps229;go_wp2;go_ret2;exact ⟨rfl,rfl⟩
theorem QhO (v:Value) (xs:List Int) (w:World) (h:Bs .u64 w v xs) (hu:U64 xs) (hl:xs.length≤65536) (G:List Int) (hG:G=gs (dic xs).length++(fx8 (dic xs)++QaD (Qee (dic xs) xs))) :
  Calls prog 229 #[v] w fun e w'=>∃v',e=.returned (.tuple #[v',.int .i64 0])∧w'.ownsRow w.heap.size 5 1 v' G.length (G.map (Value.int .u8))∧Only (fun _=>False) w w':=by
 obtain ⟨i0,hi,hz0,hz1,hz2⟩:=info_parts Tryz.infoU8;obtain ⟨ao,cap,rfl⟩:=h.len;have HB:=Qaa h;have HU:=Qaa hu;have HG:=Qaa hG;have FI:=Qaa (Qly _ xs w h hu hl);obtain ⟨m,hm⟩:∃m,m=xs.length:=⟨_,rfl⟩;rw [←hm] at HB hl FI;rw [←hm];have HM:=Qaa hm;have hdl:=QfB xs;have HDN:=Qaa (QlB xs);have HDU:=Qaa (Qro hu)
 have HME:Hid (∀x∈xs,x∈dic xs):=fun x hx=>(QlA xs x).2 hx
 rw [←hm] at hdl
 have d0:decide (65536<(m:Int))=false:=by simp;omega
 clear h hm hu hG;go_enter func229,ntmps229;go_wp2_with fail;refine FI.out.mono ?_;rintro e w1 ⟨vd,rfl,hf⟩;have FM:=Qaa hf.map;have FR:=Qaa hf.row;have FB:=Qaa (Qav hf.be);clear hf FI;generalize dic xs=d at *;obtain ⟨n,hn⟩:∃n,n=d.length:=⟨_,rfl⟩;obtain ⟨a6,c6,e6⟩:=(Bs.of_own FR.out).len;subst e6;rw [←hn] at hdl FR HG ⊢;have HN:=Qaa hn;have VD:=Qaa (Bs.of_own (k:=.u64) (xs:=d) (by rw [←HN.out];exact FR.out));have AP:=Qaa (Qaz (.slice none 0 0) [] (n:Int) w1 (Bs.nil _ _) NoCap.nil (by simp) (by omega) (by omega));rw [List.nil_append,Int.toNat_natCast] at AP;clear hn;go_wp2_with fail;refine AP.out.mono ?_;rintro e w2 ⟨vo,rfl,own2,o2⟩
 have L0:Hid (w2.ownsRow w1.heap.size 5 1 vo (gs n++fx8 (d.take 0)).length ((gs n++fx8 (d.take 0)).map (Value.int .u8))):=by
  simp only [Hid,List.take_zero];rw [show fx8 []=[] from rfl,List.append_nil];exact own2
 have O2:=Qaa o2;have GL:Hid ((gs n).length≤10):=QaC (by omega);clear own2 o2 AP;go_wp2
 go_loopw [6,27] (fun s i wr=>∃k:Nat,k≤n∧i=.int .i64 k∧wr.ownsRow w1.heap.size 5 1 s (gs n++fx8 (d.take k)).length ((gs n++fx8 (d.take k)).map (Value.int .u8))∧Only (fun _=>False) w1 wr) (fun _ i _=>n - (intOf i).toNat)
 case atStart=>exact ⟨0,Nat.zero_le _,rfl,L0.out,O2.out⟩
 case round =>
  clear L0 O2;obtain ⟨k,hk,rfl,hown,hon⟩:=hrel;obtain ⟨w3,hw3⟩:∃w3,w3=wr:=⟨_,rfl⟩;subst hw3;have HOWN:=Qaa hown;have HON:=Qaa hon
  by_cases hlt:k<n
  ·have dlt:decide ((k:Int)<(n:Int))=true:=by simp;omega
   obtain ⟨b,off,cap',e1,hc0⟩:=(VD.out.past hon).at k (by rw [←HN.out];exact hlt)
   have ea:a6=some ⟨b,off,none⟩:=by simp at e1;exact e1.1
   subst ea;clear e1;have HST:=Qaa (Qi3 d k (by rw [←HN.out];exact hlt))
   have HFL:Hid ((gs n++fx8 (d.take k)).length≤10+8*n):=by
    simp only [Hid];have:=GL.out;rw [Yae,Qdu,Yag];omega
   obtain ⟨f1,hf1⟩:∃f1,f1=gs n++fx8 (d.take (k+1)):=⟨_,rfl⟩;have HF1:=Qaa hf1;obtain ⟨f0,hf0⟩:∃f0,f0=gs n++fx8 (d.take k):=⟨_,rfl⟩
   have HS2:Hid (f1=f0++fixL (d.getD k 0) 8):=by
    simp only [Hid];rw [hf1,hf0,HST.out,List.append_assoc]
   rw [←hf0] at HFL HOWN;clear hf1 hf0 HST hown hon;generalize d.getD k 0=x at *;go_wp2_with fail;refine (Qbx _ 8 w3 (by omega)).mono ?_;rintro e w4 ⟨u,rfl,own4,o4⟩;have ow:=o4.own HOWN.out (fun _ _ f=>f);have hb4:=Bs.of_own own4;have NC4:=Qaa (NoCap.of_own own4);have HB4:=Qaa hb4;have hs4:w1.heap.size≤w4.heap.size:=Nat.le_trans HON.out.size o4.size;have O4:=Qaa (HON.out.same o4);obtain ⟨a4,c4,e4⟩:=hb4.len;subst e4;clear o4 own4 HON HOWN hb4;rw [Qag] at HB4 NC4;go_wp2_with (at_builtin;refine Qab _ rfl _ _ _ rfl w1.heap.size 5 i0 (.int .u8 0) 1 underlying22 hi hz0 hz1 hz2 rfl _ _ _ rfl ow .u8 _ (fixL x 8) rfl HB4.out NC4.out ?c3 ?c4 hs4 ?_)
   case c3=>have:=HFL.out;rw [Qag];unfold maxLen;omega
   case c4=>have:=HFL.out;rw [Qag];omega
   intro v6 w6 own6 hgrow6 _ _
   have OWN6:Hid (w6.ownsRow w1.heap.size 5 1 v6 f1.length (f1.map (Value.int .u8))):=by
    simp only [Hid];rw [HS2.out,Yae,List.map_append];exact own6
   have O6:=Qaa (O4.out.grown hgrow6 (fun k hk e=>absurd (ow.lt k e).1 (by omega)));clear ow own6 hgrow6;go_wp2
   go_roundw
   case rel=>exact ⟨k+1,by omega,by go_num,by rw [←HF1.out];exact OWN6.out,O6.out⟩
   case measure=>simp [intOf];omega
  ·obtain rfl:k=n:=by omega
   have dlt:decide ((k:Int)<(k:Int))=false:=by simp
   rw [HN.out,List.take_length,←HN.out] at HOWN
   have HFL:Hid ((gs k++fx8 d).length≤10+8*k):=by
    simp only [Hid];have:=GL.out;rw [Yae,Qdu,←HN.out];omega
   have HG2:Hid (G=(gs k++fx8 d)++QaD (bitsP (wP k) ((xs.take m).map (plc d)))):=by
    simp only [Hid];rw [HG.out,List.append_assoc,HM.out,List.take_length];unfold Qee;rw [←HN.out]
   have W0:Hid (WrAt 278 5 (w3.alloc (.cells #[.slice none 0 0,.int .i64 0] 278)) (w3.heap.size+1) w3.heap.size (.slice none 0 0) (bitsP (wP k) ((xs.take 0).map (plc d)))):=WrAt.new (T:=278) (E:=5) w3;have PW:=Qaa (QeX k (w3.alloc (.cells #[.slice none 0 0,.int .i64 0] 278)) (by omega));have WL:wP k≤16:=wP_le (by omega)
   have WF:Hid (∀x∈xs,plc d x<k∧wid (plc d x)≤wP k):=by
    intro x hx;have h1:=QtL (HME.out x hx);rw [←HN.out] at h1;exact ⟨h1,(Qan _ _).2 (wP_lt h1)⟩
   have HBL:Hid (∀j,((xs.take j).map (plc d)).length≤m):=by
    intro j;rw [List.length_map,Yag,HM.out];omega
   clear hown hon HG GL VD;generalize gs k++fx8 d=f0 at *;go_wp2_with fail;refine PW.out.mono ?_;rintro e w4 ⟨rfl,rfl⟩;clear PW;generalize wP k=W at *;go_wp2
   go_loopw [41] (fun i wr=>∃j:Nat,j≤m∧i=.int .i64 j∧∃vw,WrAt 278 5 wr (w3.heap.size+1) w3.heap.size vw (bitsP W ((xs.take j).map (plc d)))∧Only (fun _=>False) w3 wr) (fun i _=>m - (intOf i).toNat)
   case atStart=>exact ⟨0,Nat.zero_le _,rfl,_,W0.out,(Only.refl _ _).alloc _⟩
   case round =>
    clear W0;obtain ⟨j,hj,rfl,vw,hwt,hon⟩:=hrel
    have hbl:(bitsP W ((xs.take j).map (plc d))).length≤65536*16:=by
     rw [Qgs];exact Nat.mul_le_mul (Nat.le_trans (HBL.out j) hl) WL
    have ONW:=Qaa (FB.out.same (HON.out.same hon))
    by_cases hlt:j<m
    ·have dlt:decide ((j:Int)<(m:Int))=true:=by simp;omega
     obtain ⟨b,off,cap',e1,hc0⟩:=(HB.out.past ONW.out).at j (by rw [←HM.out];exact hlt)
     have ea:ao=some ⟨b,off,none⟩:=by simp at e1;exact e1.1
     subst ea;clear e1;have hym:=Qi1 (l:=xs) (k:=j) (by rw [←HM.out];exact hlt);obtain ⟨y0,y1⟩:=HU.out _ hym;obtain ⟨p0,p1⟩:=WF.out _ hym;have HST:=Qaa (Qkc W (plc d) xs j (by rw [←HM.out];exact hlt));have hat0:=Qaa (DM_at HDN.out (HME.out _ hym) (.lit (.int .i64 0)));generalize xs.getD j 0=y at *;generalize plc d y=p at *;have hkey:keyOf prog 23 (.int .u64 y)=some (.int .u64 y):=keyOf_int_mk underlying23 (QqE y0 y1);have hmap:=Qow FM.out (HON.out.same hon) (fun f=>f);have PU:=Qaa (QcO hwt (p:Int) (W:Int) (by omega) (by omega) (by omega) (by omega) (by simpa using p1) (by omega));rw [Int.toNat_natCast,Int.toNat_natCast,←HST.out] at PU;have HW:=Qaa hwt;have HO:=Qaa hon;clear hwt hon HST hym
     go_wp2_with (first
      | (at_lookup;refine wpList_lookup_own_int _ rfl _ _ 285 rfl 23 3 .i64 law35 underlying285 underlying3 (zero3 _) w.heap.size m _ rfl hmap _ _ rfl hkey ?_;intro c hat hwc;obtain rfl:c=(p:Int):=(by have:=hat.symm.trans hat0.out;simpa using this);clear hat hwc hat0)
      | fail)
     refine PU.out.mono ?_;rintro e w5 ⟨rfl,v5,h5,o5,s5⟩;have W5:=Qaa h5;have O5:=Qaa (HO.out.trans o5 (fun i hi f=>absurd (HW.out.foot_ge (Nat.le_refl _) i f) (by omega)));clear h5 o5 s5 PU hmap HW HO;go_wp2
     go_roundw
     case rel=>exact ⟨j+1,by omega,by go_num,_,W5.out,O5.out⟩
     case measure=>simp [intOf];omega
    ·obtain rfl:j=m:=by omega
     have dlt:decide ((j:Int)<(j:Int))=false:=by simp
     have BY:=Qaa (QdU hwt (by omega));have HON3:=Qaa hon
     have HTL:Hid ((QaD (bitsP W ((xs.take j).map (plc d)))).length≤65536*16):=by
      simp only [Hid];rw [QaI];unfold nb;omega
     generalize QaD (bitsP W ((xs.take j).map (plc d)))=t0 at *;clear hwt hon hbl;go_wp2_with fail;refine BY.out.mono ?_;rintro e w5 ⟨u,rfl,own5,o5⟩;have ow:=(HON3.out.same o5).own HOWN.out (fun _ _ f=>f);have hb5:=Bs.of_own own5;have NC5:=Qaa (NoCap.of_own own5);have HB5:=Qaa hb5;have hs5:w1.heap.size≤w5.heap.size:=Nat.le_trans HON.out.size (Nat.le_trans HON3.out.size o5.size);have O5:=Qaa (ONW.out.same o5);have S1:=Qaa FB.out.size;obtain ⟨a5,c5,e5⟩:=hb5.len;subst e5;obtain ⟨tl,htl⟩:∃tl,tl=t0.length:=⟨_,rfl⟩;rw [←htl] at HB5 NC5 HTL ⊢;have HT:=Qaa htl;clear o5 own5 hb5 htl;go_wp2_with (at_builtin;refine Qab _ rfl _ _ _ rfl w1.heap.size 5 i0 (.int .u8 0) 1 underlying22 hi hz0 hz1 hz2 rfl _ _ _ rfl ow .u8 _ t0 rfl HB5.out NC5.out ?c3 ?c4 hs5 ?_)
     case c3=>have:=HFL.out;have:=HTL.out;have:=HT.out;unfold maxLen;omega
     case c4=>have:=HFL.out;have:=HTL.out;have:=HT.out;omega
     intro v6 w6 own6 hgrow6 _ _
     have OWN6:Hid (w6.ownsRow w.heap.size 5 1 v6 G.length (G.map (Value.int .u8))):=by
      simp only [Hid];rw [HG2.out,Yae,List.map_append];exact Qaf own6 S1.out
     have O6:=Qaa (O5.out.grown hgrow6 (fun k hk e=>absurd (ow.lt k e).1 (by have:=S1.out;omega)));clear ow own6 hgrow6;go_wp2;go_ret2;exact ⟨v6,rfl,OWN6.out,O6.out⟩
theorem Qgt (v:Value) (xs:List Int) (w:World) (h:Bs .u64 w v xs) (hu:U64 xs) :
  Calls prog 229 #[v] w fun e w'=>∃v',e=.returned (.tuple #[v',.int .i64 (ENC10 xs).2])∧w'.ownsRow w.heap.size 5 1 v' (ENC10 xs).1.length ((ENC10 xs).1.map (Value.int .u8))∧Only (fun _=>False) w w':=by
 by_cases hl:65536<xs.length
 ·have e:ENC10 xs=([],4):=if_pos hl
  rw [e];refine (QfC v xs w h hl).mono ?_;rintro e w' ⟨rfl,rfl⟩;exact ⟨_,rfl,World.ownsRow_nil _ _ _ _,Only.refl _ _⟩
 ·rw [Qi2 (by omega)]
  exact QhO v xs w h hu (by omega) _ rfl
end
theorem QcK (t:Int) (w:World) (h0:0≤t) (h1:t≤3):Calls prog 217 #[.int .i64 t] w fun e w'=>e=.returned (.bool true)∧w=w':=by
 have d0:decide (0≤t)=true:=Yaj h0;have d1:decide (t<4)=true:=Yaj (by omega);clear h0 h1;go_enter func217,ntmps217;go_wp2;go_ret;exact ⟨rfl,rfl⟩
theorem Qtj (t:Int) (w:World) (h:t<0∨3<t):Calls prog 217 #[.int .i64 t] w fun e w'=>e=.returned (.bool false)∧w=w':=by
 by_cases h0:t<0
 ·have d0:decide (0≤t)=false:=Yak (by omega)
  clear h0 h;go_enter func217,ntmps217;go_wp2;go_ret;exact ⟨rfl,rfl⟩
 ·have d0:decide (0≤t)=true:=Yaj (by omega)
  have d1:decide (t<4)=false:=Yak (by omega);clear h0 h;go_enter func217,ntmps217;go_wp2;go_ret;exact ⟨rfl,rfl⟩
theorem Qfq (v:Value) (l:List Int) (w:World) (h:Bs .u64 w v l) (hl:l.length≤65536) :
  Calls prog 228 #[v] w fun e w'=>∃u,e=.returned u∧w'.ownsRow w.heap.size 5 1 u (fx8 l).length ((fx8 l).map (Value.int .u8))∧Only (fun _=>False) w w':=by
 obtain ⟨i0,hi,hz0,hz1,hz2⟩:=info_parts Tryz.infoU8;have HB:=Qaa h;obtain ⟨ao,cap,rfl⟩:=h.len;obtain ⟨n,hn⟩:∃n,n=l.length:=⟨_,rfl⟩;rw [←hn] at hl HB;rw [←hn];have HN:=Qaa hn;clear h hn;go_enter func228,ntmps228;go_wp2
 go_loopw [3,8] (fun s i wr=>∃k:Nat,k≤n∧i=.int .i64 k∧wr.ownsRow w.heap.size 5 1 s (fx8 (l.take k)).length ((fx8 (l.take k)).map (Value.int .u8))∧Only (fun _=>False) w wr) (fun _ i _=>n - (intOf i).toNat)
 case atStart=>exact ⟨0,Nat.zero_le _,rfl,World.ownsRow_nil _ _ _ _,Only.refl _ _⟩
 case round =>
  obtain ⟨k,hk,rfl,hown,hon⟩:=hrel;have HOWN:=Qaa hown;have HON:=Qaa hon
  by_cases hlt:k<n
  ·have dlt:decide ((k:Int)<(n:Int))=true:=by simp;omega
   obtain ⟨b,off,cap',e1,hc0⟩:=(HB.out.past hon).at k (by rw [←HN.out];exact hlt)
   have ea:ao=some ⟨b,off,none⟩:=by simp at e1;exact e1.1
   subst ea;clear e1;have HST:=Qaa (Qi3 l k (by rw [←HN.out];exact hlt))
   have HFL:Hid ((fx8 (l.take k)).length≤8*n):=by
    simp only [Hid];rw [Qdu,Yag];omega
   obtain ⟨f1,hf1⟩:∃f1,f1=fx8 (l.take (k+1)):=⟨_,rfl⟩;rw [←hf1] at HST;have HF1:=Qaa hf1;clear hf1;generalize fx8 (l.take k)=f0 at *;generalize l.getD k 0=x at *;clear hown hon HB;go_wp2_with fail;refine (Qbx _ 8 wr (by omega)).mono ?_;rintro e w4 ⟨u,rfl,own4,o4⟩;have ow:=o4.own HOWN.out (fun _ _ f=>f);have hb4:=Bs.of_own own4;have NC4:=Qaa (NoCap.of_own own4);have HB4:=Qaa hb4;have hs4:w.heap.size≤w4.heap.size:=Nat.le_trans HON.out.size o4.size;have O4:=Qaa (HON.out.trans o4 (fun _ _ f=>f));obtain ⟨a4,c4,e4⟩:=hb4.len;subst e4;clear o4 own4 HON HOWN hb4;rw [Qag] at HB4 NC4;go_wp2_with (at_builtin;refine Qab _ rfl _ _ _ rfl w.heap.size 5 i0 (.int .u8 0) 1 underlying22 hi hz0 hz1 hz2 rfl _ _ _ rfl ow .u8 _ (fixL x 8) rfl HB4.out NC4.out ?c3 ?c4 hs4 ?_)
   case c3=>have:=HFL.out;rw [Qag];unfold maxLen;omega
   case c4=>have:=HFL.out;rw [Qag];omega
   intro v6 w6 own6 hgrow6 _ _
   have OWN6:Hid (w6.ownsRow w.heap.size 5 1 v6 f1.length (f1.map (Value.int .u8))):=by
    simp only [Hid];rw [HST.out,Yae,List.map_append];exact own6
   have O6:=Qaa (O4.out.grown hgrow6 (fun k hk e=>absurd (ow.lt k e).1 (by omega)));clear ow own6 hgrow6;go_wp2
   go_roundw
   case rel=>exact ⟨k+1,by omega,by go_num,by rw [←HF1.out];exact OWN6.out,O6.out⟩
   case measure=>simp [intOf];omega
  ·obtain rfl:k=n:=by omega
   have dlt:decide ((k:Int)<(k:Int))=false:=by simp
   have HL:Hid (l.take k=l):=by simp only [Hid];exact List.take_of_length_le (by rw [←HN.out];exact Nat.le_refl _)
   rw [HL.out] at HOWN;clear hown hon HB;go_wp2;go_ret;exact ⟨_,rfl,HOWN.out,HON.out⟩
theorem QkY {l:List Int} {k:Nat} (hk:k<l.length) (h:l.getD k 0≠l.getD 0 0):¬Qa9 l:=fun a=>h (QeT.1 a _ (by
 rw [Yad,Yaf hk];exact List.getElem_mem hk))
theorem QkZ {l:List Int} (h:∀k,k<l.length→l.getD k 0=l.getD 0 0):Qa9 l:=QeT.2 fun x hx=>by
 obtain ⟨k,hk,rfl⟩:=List.getElem_of_mem hx;have:=h k hk;rw [Yad,Yaf hk] at this;exact this
theorem Qfr (v:Value) (l:List Int) (w:World) (h:Bs .u64 w v l) (hl:l.length≤65536) :
  Calls prog 227 #[v] w fun e w'=>e=.returned (.bool (decide (¬(l=[]∨¬Qa9 l))))∧w=w':=by
 have HB:=Qaa h;obtain ⟨ao,cap,rfl⟩:=h.len;obtain ⟨n,hn⟩:∃n,n=l.length:=⟨_,rfl⟩;rw [←hn] at hl HB;rw [←hn];obtain ⟨A,hA⟩:∃A,A=decide (¬(l=[]∨¬Qa9 l)):=⟨_,rfl⟩;rw [←hA];have HA:=Qaa hA;have HN:=Qaa hn;clear h hn hA;go_enter func227,ntmps227;go_wp2
 go_loop [7] (fun i=>∃k:Nat,k≤n∧i=.int .i64 k∧Hid (∀j,j<k→l.getD j 0=l.getD 0 0)) (fun i=>n - (intOf i).toNat)
 case atStart=>exact ⟨0,Nat.zero_le _,rfl,fun j hj=>absurd hj (by omega)⟩
 case round =>
  obtain ⟨k,hk,rfl,HS⟩:=hrel
  by_cases hlt:k<n
  ·have dlt:decide ((k:Int)<(n:Int))=true:=by simp;omega
   obtain ⟨b,off,cap',e1,hc0⟩:=HB.out.at k (by rw [←HN.out];exact hlt)
   have ea:ao=some ⟨b,off,none⟩:=by simp at e1;exact e1.1
   subst ea;clear e1;obtain ⟨b',off',cap2,e2,hc1⟩:=HB.out.at 0 (by rw [←HN.out];omega);simp at e2;obtain ⟨⟨rfl,rfl⟩,e3⟩:=e2;clear e3;rw [Nat.add_zero] at hc1
   have bd:(0:Int)<(n:Int):=by omega
   by_cases hx:l.getD k 0=l.getD 0 0
   ·have HS':Hid (∀j,j<k+1→l.getD j 0=l.getD 0 0):=fun j hj=>by
     rcases Nat.lt_or_ge j k with h | h
     ·exact HS.out j h
     ·obtain rfl:j=k:=by omega
      exact hx
    rw [hx] at hc0;generalize l.getD 0 0=x at *
    have dx:(x != x)=false:=by simp
    clear hx HB;go_wp2
    go_round
    case rel=>exact ⟨k+1,by omega,by go_num,HS'⟩
    case measure=>simp [intOf];omega
   ·have HF:Hid (A=false):=by
     simp only [Hid];rw [HA.out];exact Yak (fun c=>c (.inr (QkY (by rw [←HN.out];exact hlt) hx)))
    have dx:(l.getD k 0 != l.getD 0 0)=true:=bne_iff_ne.2 hx;generalize l.getD 0 0=x at *;generalize l.getD k 0=y at *;clear hx HB HS;go_wp2;go_ret;rw [HF.out];exact ⟨rfl,rfl⟩
  ·obtain rfl:k=n:=by omega
   have dlt:decide ((k:Int)<(k:Int))=false:=by simp
   by_cases h0:k=0
   ·have HF:Hid (A=false):=by
     simp only [Hid];rw [HA.out];exact Yak (fun c=>c (.inl (List.eq_nil_of_length_eq_zero (by rw [←HN.out];exact h0))))
    have d2:decide ((0:Int)<(k:Int))=false:=by simp;omega
    have d2':decide (0<k)=false:=by simp;omega
    clear h0 HB HS;go_wp2;go_ret;rw [HF.out];exact ⟨rfl,rfl⟩
   ·have HF:Hid (A=true):=by
     simp only [Hid];rw [HA.out];refine Yaj (fun c=>?_)
     rcases c with c | c
     ·rw [c] at HN;exact h0 HN.out
     ·exact c (QkZ (by rw [←HN.out];exact HS.out))
    have d2:decide ((0:Int)<(k:Int))=true:=by simp;omega
    have d2':decide (0<k)=true:=by simp;omega
    clear h0 HB HS;go_wp2;go_ret;rw [HF.out];exact ⟨rfl,rfl⟩
def Tab (w:World):Prop:=∀j,j<64→w.cell? ⟨0,j,none⟩=some (.int .u8 ((Lib.deBruijn64tab.getD j 0:Nat):Int))
theorem Tab.pos {w:World} (h:Tab w):0<w.heap.size:=by
 rcases Nat.eq_zero_or_pos w.heap.size with e | e
 ·have:=h 0 (by omega)
  have e2:w.heap[0]? = none:=Array.getElem?_eq_none (by omega);simp [World.cell?,e2] at this
 ·exact e
theorem Tab.keep {w w':World} (h:Tab w) {S:Nat→Prop} (o:Only S w w') (hs:¬S 0):Tab w':=by
 intro j hj;have e:=o.block 0 h.pos hs;have:=h j hj
 simpa [World.cell?,e] using this
theorem Tab.past {w w':World} (h:Tab w) (o:Only (fun _=>False) w w'):Tab w':=h.keep o (fun f=>f)
theorem Tab.below {w w':World} {N:Nat} (h:Tab w) (o:Below N w w') (hN:0<N):Tab w':=by
 intro j hj;have e:=o.block 0 hN;have:=h j hj
 simpa [World.cell?,e] using this
theorem QqM:∀(f x:Nat),Lib.ctzFrom f x=tzF f x
 | 0,_=>rfl
 | f+1,x=>by
  rw [Lib.ctzFrom,tzF]
  by_cases h:x % 2=1
  ·rw [if_pos h,if_neg (by omega)]
  ·rw [if_neg h,if_pos (by omega),QqM f (x / 2)];omega
theorem QrH {x:Nat} (h0:0<x) (hx:x<18446744073709551616):x &&& (18446744073709551616 - x)=2^tz x∧tz x<64:=by
 have h:=Lib.lowest_bit 64 x (by omega) (by rw [p64];exact hx)
 have e:Lib.ctz 64 x=tz x:=by unfold Lib.ctz tz;rw [if_neg (by omega),QqM]
 rw [e,p64] at h;exact h
theorem QtW {n a:Nat} (hn:n<18446744073709551616) (h0:0<n) (hlow:n &&& (18446744073709551616 - n)=a) :
  IntKind.u64.wrap (bits BinOp.and IntKind.u64 (n:Int) (IntKind.u64.wrap (-(n:Int)))*285870213051353865) / 288230376151711744=((a*285870213051353865 % 18446744073709551616 / 288230376151711744:Nat):Int):=by
 have e1:IntKind.u64.wrap (-(n:Int))=((18446744073709551616 - n:Nat):Int):=by rw [IntKind.wrap_u64];omega
 rw [e1,bits_and_u64_nat n _ hn (by omega),hlow,IntKind.wrap_u64];omega
theorem QrI (n k i:Nat) (w:World) (hne:((n:Int) == 0)=false)
  (key:IntKind.u64.wrap (bits BinOp.and IntKind.u64 (n:Int) (IntKind.u64.wrap (-(n:Int)))*285870213051353865) / 288230376151711744=(i:Int))
  (hi:i<64) (hk:k<64) (hc:w.cell? ⟨0,i,none⟩=some (.int .u8 k)) :
  Calls prog 292 #[.int .u64 n] w fun e w'=>e=.returned (.int .i64 k)∧w=w':=by
 go_enter func292,ntmps292;go_wp2_with (simp only [key]);go_ret;exact ⟨rfl,rfl⟩
theorem QtX (x:Int) (w:World) (h0:0<x) (hx:x≤18446744073709551615) (hT:Tab w) :
  Calls prog 292 #[.int .u64 x] w fun e w'=>e=.returned (.int .i64 (tz x.toNat:Int))∧w=w':=by
 obtain ⟨n,rfl⟩:=Int.eq_ofNat_of_zero_le (show 0≤x by omega);rw [Int.toNat_natCast];obtain ⟨h1,hk⟩:=QrH (x:=n) (by omega) (by omega);generalize tz n=k at *;obtain ⟨hi,ht⟩:=Lib.deBruijn64_at k hk;have hc:=hT _ hi;rw [ht] at hc;have key:=QtW (by omega) (by omega) h1;exact QrI n k _ w (by rw [beq_eq_false_iff_ne];omega) key hi hk hc
theorem Tryz.sizeWin:(prog.info? 289).map (·.size)=some 2:=by kernel_rfl
theorem Qkf (w:World) :
  Calls prog 276 #[.agg #[.int .i64 0,.int .i64 0]] w fun e w'=>e=.returned (.bool true)∧Only (fun _=>False) w w':=by
 go_enter func276,ntmps276;go_wp2;go_ret;exact ⟨rfl,(Only.refl _ _).alloc _⟩
theorem QgD (a d:Nat) (w:World) (hd:¬d=0) :
  Calls prog 276 #[.agg #[.int .i64 a,.int .i64 d]] w fun e w'=>e=.returned (.bool false)∧Only (fun _=>False) w w':=by
 go_enter func276,ntmps276;go_wp2
 all_goals go_ret
 all_goals exact ⟨rfl,(Only.refl _ _).alloc _⟩
theorem QlU (a d:Nat) (w:World) (ha:a≤64) (hd:d≤64) :
  Calls prog 279 #[.agg #[.int .i64 a,.int .i64 d]] w fun e w'=>e=.returned (.int .i64 (64 - (a:Int) - d))∧Only (fun _=>False) w w':=by
 go_enter func279,ntmps279;go_wp2;go_ret;exact ⟨rfl,(Only.refl _ _).alloc _⟩
theorem QdL (x : Int) (w : World) (h0 : 0 < x) (hx : x ≤ 18446744073709551615) (hT : Tab w) :
    Calls prog 278 #[.int .u64 x] w fun e w' => e = .returned (.agg #[.int .i64 (ldz x.toNat : Int), .int .i64 ((64 - ldz x.toNat - tz x.toNat : Nat) : Int)]) ∧ Only (fun _ => False) w w' := by
  obtain ⟨hn1, hn2, hn3⟩ := QfH (x := x.toNat) (by omega) (by omega);have hw := Qb2 x.toNat (by omega);have T1 := Qaa (hT.past ((Only.refl (fun _ => False) w).alloc (.cells #[.int .i64 0, .int .i64 0] 289)));have W1 := Qaa (Qcb x (w.alloc (.cells #[.int .i64 0, .int .i64 0] 289)) (by omega) hx);have Z1 := Qaa (QtX x (w.alloc (.cells #[.int .i64 0, .int .i64 0] 289)) h0 hx T1.out);have hld : Hid (ldz x.toNat = min (64 - wid x.toNat) 31) := rfl;generalize wid x.toNat = q at *;generalize tz x.toNat = z at *;generalize ldz x.toNat = a at *;go_enter func278, ntmps278;go_wp2_with fail;refine W1.out.mono ?_;rintro e w1 ⟨rfl, rfl⟩;go_wp2_with fail
  all_goals
    refine Z1.out.mono ?_;rintro e w1 ⟨rfl, rfl⟩;go_wp2;refine bodyPost_ret (results_cell_row rfl _ _ w.heap.size 289 _ (0, 0) _ rfl (heap_alloc_last w _) underlying289 rfl Tryz.sizeWin) rfl ⟨?_, (Only.refl _ _).alloc _⟩;have hl := hld.out
  all_goals first
    | (obtain rfl : a = 31 := by omega
       have e1 : ((64 - 31 - z : Nat) : Int) = 33 - (z : Int) := by omega
       rw [e1]; rfl)
    | (have e0 : (64 : Int) - (q : Int) = (a : Int) := by omega
       have e1 : ((64 - a - z : Nat) : Int) = 64 - (a : Int) - (z : Int) := by omega
       rw [e0, e1])
    | (have e0 : min ((64 : Int) - (q : Int)) 31 = (a : Int) := by omega
       have e1 : ((64 - a - z : Nat) : Int) = 64 - (a : Int) - (z : Int) := by omega
       rw [e0, e1])
theorem Qbz (a z d:Nat) (w:World) (h:a+z+d=64) :
  Calls prog 279 #[.agg #[.int .i64 a,.int .i64 d]] w fun e w'=>e=.returned (.int .i64 (z:Int))∧Only (fun _=>False) w w':=by
 have:=QlU a d w (by omega) (by omega);rw [show (64:Int) - (a:Int) - d=(z:Int) by omega] at this;exact this
theorem QtT {x z:Nat} (h0:0<x) (hx:x<18446744073709551616) (h:x / 2^z*2^z=x):z≤tz x:=by
 rcases Nat.lt_or_ge (tz x) z with hlt | hge
 ·exfalso
  have ho:x / 2^tz x % 2=1:=QlR 64 x h0 (by rw [p64];exact hx);obtain ⟨j,rfl⟩:∃j,z=tz x+1+j:=⟨z - tz x - 1,by omega⟩;generalize tz x=t at *;generalize x / 2^(t+1+j)=y at *
  have e:x=2^t*(2*(y*2^j)):=by
   rw [←h,Nat.pow_add,Nat.pow_succ];simp only [Nat.mul_assoc,Nat.mul_comm,Nat.mul_left_comm]
  rw [e,Nat.mul_div_cancel_left _ (Nat.two_pow_pos t)] at ho;omega
 ·exact hge
theorem QfG {x a z d:Nat} (h0:0<x) (hx:x<18446744073709551616) (h:a+z+d=64) (hd:0<d) :
  fitsW x a z↔(x / 2^z*2^z=x∧wid (x / 2^z)≤d):=by
 have hw:=Qb2 x hx
 constructor
 ·rintro ⟨h1,h2⟩
  have h3:=QhU (z:=z) hx h1 (by omega);rw [show 64 - a - z=d by omega] at h3;exact ⟨QlS h2,(Qan _ d).2 h3⟩
 ·rintro ⟨h1,h2⟩
  refine ⟨?_,QtT h0 hx h1⟩;have h3:=(Qan _ d).1 h2;rw [Nat.div_lt_iff_lt_mul (Nat.two_pow_pos z),←Nat.pow_add] at h3;have h4:=(Qan x (d+z)).2 h3;omega
theorem QgC {x z:Nat} (hx:x<18446744073709551616):IntKind.u64.wrap ((x:Int) / 2^z*2^z)=((x / 2^z*2^z:Nat):Int):=by
 have h1:x / 2^z*2^z≤x:=Nat.div_mul_le_self x _
 have e:(x:Int) / 2^z*2^z=((x / 2^z*2^z:Nat):Int):=by push_cast;rfl
 rw [e,IntKind.wrap_u64];omega
theorem QoK (a z d x:Nat) (w:World) (h0:0<x) (hx:x<18446744073709551616) (h:a+z+d=64) (hd:0<d) (he:x / 2^z*2^z=x) :
  Calls prog 277 #[.agg #[.int .i64 a,.int .i64 d],.int .u64 x] w fun e w'=>e=.returned (.bool (decide (wid (x / 2^z)≤d)))∧Only (fun _=>False) w w':=by
 have z64:(z:Int)<64:=by omega
 have T1:=Qaa (Qbz a z d (w.alloc (.cells #[.int .i64 a,.int .i64 d] 289)) h);have e1:=QgC (z:=z) hx;rw [he] at e1
 have e2:(IntKind.u64.wrap ((x:Int) / 2^z*2^z) == (x:Int))=true:=by rw [e1];simp
 have e3:(x:Int) / 2^z=((x / 2^z:Nat):Int):=by push_cast;rfl
 have y1:x / 2^z≤x:=Nat.div_le_self _ _;clear e1 he;rw [e3] at e2;generalize hy:x / 2^z=y at *;have E3:=Qaa e3;clear e3 hy
 have WI:=fun w=>Qaa (Qcb (y:Int) w (by omega) (by omega))
 simp only [Int.toNat_natCast] at WI;generalize wid y=q at *;go_enter func277,ntmps277;go_wp2_with fail;refine T1.out.mono ?_;rintro e w1 ⟨rfl,o1⟩;have g1:=o1.heap (heap_alloc_last w _) (fun f=>f);obtain ⟨c0,c1,_,_⟩:=Qae g1;have O1:=Qaa ((Only.refl (fun _=>False) w).alloc (.cells #[.int .i64 a,.int .i64 d] 289) |>.same o1);clear T1 o1;go_wp2;rw [E3.out]
 go_region_with (first|(go_at_call 279;refine (Qbz a z d _ h).mono ?_;rintro e w2 ⟨rfl,o2⟩;have c2:=(Qae (o2.heap (a:=w1.drew) g1 (fun f=>f))).2.1)|(go_at_call 249;refine (WI _).out.mono ?_;rintro e w3 ⟨rfl,rfl⟩))
 all_goals go_wp2
 all_goals go_ret
 all_goals exact ⟨rfl,O1.out.drew.same o2⟩
theorem QrF (a z d x:Nat) (w:World) (hx:x<18446744073709551616) (h:a+z+d=64) (hd:0<d) (he:x / 2^z*2^z≠x) :
  Calls prog 277 #[.agg #[.int .i64 a,.int .i64 d],.int .u64 x] w fun e w'=>e=.returned (.bool false)∧Only (fun _=>False) w w':=by
 have z64:(z:Int)<64:=by omega
 have T1:=Qaa (Qbz a z d (w.alloc (.cells #[.int .i64 a,.int .i64 d] 289)) h);have e1:=QgC (z:=z) hx
 have e2:(IntKind.u64.wrap ((x:Int) / 2^z*2^z) == (x:Int))=false:=by rw [e1,beq_eq_false_iff_ne];omega
 have e3:(x:Int) / 2^z=((x / 2^z:Nat):Int):=by push_cast;rfl
 have y1:x / 2^z≤x:=Nat.div_le_self _ _;clear e1 he;rw [e3] at e2;generalize hy:x / 2^z=y at *;have E3:=Qaa e3;clear e3 hy;go_enter func277,ntmps277;go_wp2_with fail;refine T1.out.mono ?_;rintro e w1 ⟨rfl,o1⟩;have g1:=o1.heap (heap_alloc_last w _) (fun f=>f);obtain ⟨c0,c1,_,_⟩:=Qae g1;have O1:=Qaa ((Only.refl (fun _=>False) w).alloc (.cells #[.int .i64 a,.int .i64 d] 289) |>.same o1);clear T1 o1;go_wp2;rw [E3.out]
 first|(go_region_with ((go_at_call 279;refine (Qbz a z d _ h).mono ?_;rintro e w2 ⟨rfl,o2⟩;have c2:=(Qae (o2.heap (a:=w1.drew) g1 (fun f=>f))).2.1))) | fail
 all_goals go_wp2
 all_goals go_ret
 all_goals exact ⟨rfl,O1.out.drew.same o2⟩
theorem Qi9 (a z d x:Nat) (w:World) (h0:0<x) (hx:x<18446744073709551616) (h:a+z+d=64) (hd:0<d) :
  Calls prog 277 #[.agg #[.int .i64 a,.int .i64 d],.int .u64 x] w fun e w'=>e=.returned (.bool (decide (fitsW x a z)))∧Only (fun _=>False) w w':=by
 by_cases he:x / 2^z*2^z=x
 ·have e:decide (fitsW x a z)=decide (wid (x / 2^z)≤d):=decide_eq_decide.2 ((QfG h0 hx h hd).trans (and_iff_right he))
  rw [e];exact QoK a z d x w h0 hx h hd he
 ·have e:decide (fitsW x a z)=false:=Yak (fun f=>he ((QfG h0 hx h hd).1 f).1)
  rw [e];exact QrF a z d x w hx h hd he
end Go.Proofs.YtnhapmboienipaaGreatDoor
