import Derived.Test.YtoflhbghdlaeaaaGreatDoorG17
import Derived.Shelf.SlIter.Nil
import Derived.Shelf.SortM.Plain
import Derived.Shelf.SortM.SortNone
namespace Go.Proofs.YtoflhbghdlaeaaaGreatDoor
set_option maxHeartbeats 2000000
set_option maxRecDepth 100000
open Go.RowKit _root_.Go.Proofs.Tryz
variable {w w' W:World} {v:Value} {ys xs l:LI} {R n p k g B:Nat} {P:Program} {ls:List (LI)} {E:TypeId}
def okB (k:Int):Bool:=decide (0<=k∧k<=8)
theorem Sa (k:Int):decide (0<QO k)=okB k:=by
 unfold QO okB
 by_cases h:0<=k∧k<=8
 ·rw[if_pos h,Qe h]
  have:∀n:Nat,n<9->0<Qt n:=by decide
  have:=this k.toNat (by omega);simp;omega
 ·rw[if_neg h,Qb h];rfl
theorem Ll (k:Int) (w:World):Calls prog 123 #[.int .i64 k] w λe w'=>e=.returned (.bool (okB k))∧N0 w w':=by
 have A:=Qa (Zu k w);rw[<-Sa k];generalize QO k=z at *;go_enter func123,ntmps123;go_wp2_with fail;refine A.o.mono ?_;rintro e w1 ⟨rfl,o1⟩;have O:=Qa o1;clear A o1;go_wp2;go_ret;exact⟨rfl,O.o⟩
theorem Ar (t:ByteArray) (k:Int) (w:World):Calls prog 81 #[.agg #[.string t,.int .i64 k]] w λe w'=>e=.returned (.bool (!okB k))∧N0 w w':=by
 have A:=Qa (Ll k);generalize okB k=z at *;go_enter func81,ntmps81;go_wp2_with fail;refine (A.o _).mono ?_;rintro e w1 ⟨rfl,o1⟩;have O:=Qa (Only.same ((Only.refl _ w).alloc _) o1);clear A o1;go_wp2;go_ret;exact⟨rfl,O.o⟩
theorem Df (t:ByteArray) (k:Int) (w:World):Calls prog 82 #[.agg #[.string t,.int .i64 k]] w λe w'=>e=.returned (.bool (decide (64<t.size)))∧N0 w w':=by
 have O:Hid (∀o,N0 w (w.alloc o)):=λo=>(Only.refl _ w).alloc o
 have e1:decide (64<t.size)=decide ((64:Int)<(t.size:Int)):=by simp only[decide_eq_decide];omega
 rw[e1];clear e1;go_enter func82,ntmps82;go_wp2;go_ret;exact⟨rfl,O.o _⟩
theorem RH {α:Type} {s:List α} {p:α->Bool} {d:α} (h:∀j,j<s.length->p (s.getD j d)=false):s.any p=false:=by
 rw[List.any_eq_false];intro x hx;obtain⟨j,hj,rfl⟩:=List.getElem_of_mem hx;have:=h j hj;rw[Qd,Qg hj] at this
 simpa using this
theorem Ud {α:Type} {s:List α} {d:α} (h:k<s.length):s.getD k d∈s:=by
 rw[Qd,Qg h];exact List.getElem_mem h
theorem qS (v:Value) (s:List (LI × Int)) (w:World) (h:Ens w v s) (hl:s.length<=9223372036854775806) :
 Calls prog 122 #[v,.func (.func 81) #[] #[]] w λe w'=>(∃i:Int,e=.returned (.int .i64 i)∧decide (0<=i)=s.any (λe:LI × Int=>!okB e.2))∧N0 w w':=by
 obtain⟨ao,cap,rfl⟩:=h.len;have HB:=Qa h
 have HG:Hid (∀e∈s,∀W,Calls prog 81 #[.agg #[.string (strOfNums e.1),.int .i64 e.2]] W λr W'=>r=.returned (.bool ((λe:LI × Int=>!okB e.2) e))∧N0 W W'):=by
  intro e he W;exact Ar _ _ W
 obtain⟨m,hm⟩:=EX s.length;rw[<-hm] at HB hl;rw[<-hm];have HM:=Qa hm;have R0:=Qa (Only.refl (λ_=>False) w);clear h hm;generalize (λe:LI × Int=>!okB e.2)=p at *;go_enter func122,ntmps122;go_wp2
 go_loopw [8] (λi wr=>∃k:Nat,k<=m∧i=.int .i64 k∧(∀j,j<k->p (s.getD j ([],0))=false)∧N0 w wr) (λi _=>m - (intOf i).toNat)
 case atStart=>exact⟨0,Nat.zero_le _,rfl,λj hj=>by omega,R0.o⟩
 case round =>
  clear R0;obtain⟨k,hk,rfl,h2,ho⟩:=hrel;have HN:=Qa h2;have HO:=Qa ho;clear h2 ho
  by_cases hlt:k<m
  ·obtain⟨b,off,cap',e,hc0,hc1⟩:=(HB.o.past HO.o).at k (by rw[<-HM.o];exact hlt)
   simp only[Value.slice.injEq] at e;obtain⟨rfl,hmx,rfl⟩:=e;clear hmx;have h0:s.getD k ([],0)∈s:=Ud (by rw[<-HM.o];exact hlt);have C:=Qa (HG.o _ h0 wr);obtain⟨x,hx⟩:=EX (s.getD k ([],0));have HX:=Qa hx;rw[<-hx] at C hc0 hc1 h0
   have i1:(k:Int)<(m:Int):=by omega
   have HM2:=Qa h0;clear hx h0
   cases hp:p x with
   | true =>
    rw[hp] at C;go_wp2_with fail;refine C.o.mono ?_;rintro e w1 ⟨rfl,o1⟩;have O1:=Qa (HO.o.same o1);clear C o1 HB HG;go_wp2;go_ret;exact⟨⟨_,rfl,by rw[Qe (by omega:(0:Int)<=(k:Int))];exact (List.any_eq_true.2 ⟨x,HM2.o,hp⟩).symm⟩,O1.o⟩
   | false =>
    rw[hp] at C;go_wp2_with fail;refine C.o.mono ?_;rintro e w1 ⟨rfl,o1⟩;have O1:=Qa (HO.o.same o1);clear C o1;go_wp2
    go_roundw
    case rel =>
     refine⟨k+1,by omega,by go_num,λj hj=>?_,O1.o⟩
     rcases Nat.lt_succ_iff_lt_or_eq.1 hj with h1 | rfl
     ·exact HN.o j h1
     ·rw[<-HX.o];exact hp
    case measure=>simp[intOf];omega
  ·obtain rfl:k=m:=by omega
   have HA:=Qa (RH (p:=p) (s:=s) (d:=([],0)) (λj hj=>HN.o j (by rw[HM.o];exact hj)));clear HB HG HN;go_wp2;go_ret;exact⟨⟨_,rfl,by rw[HA.o];rfl⟩,HO.o⟩
theorem Gu (v:Value) (s:List (LI × Int)) (w:World) (h:Ens w v s) (hl:s.length<=9223372036854775806) :
 Calls prog 80 #[v,.func (.func 81) #[] #[]] w λe w'=>e=.returned (.bool (s.any (λe:LI × Int=>!okB e.2)))∧N0 w w':=by
 have A:=Qa (qS v s w h hl);generalize s.any (λe:LI × Int=>!okB e.2)=z at *;clear h hl;go_enter func80,ntmps80;go_wp2_with fail;refine A.o.mono ?_;rintro e w1 ⟨⟨i,rfl,hi⟩,o1⟩;have O:=Qa o1;have HI:=Qa hi;clear A o1 hi;go_wp2;go_ret;exact⟨by rw[<-HI.o];rfl,O.o⟩
theorem Mv (v:Value) (s:List (LI × Int)) (w:World) (h:Ens w v s) (hl:s.length<=9223372036854775806) (hu:VM s) :
 Calls prog 122 #[v,.func (.func 82) #[] #[]] w λe w'=>(∃i:Int,e=.returned (.int .i64 i)∧decide (0<=i)=s.any (λe:LI × Int=>decide (64<e.1.length)))∧N0 w w':=by
 obtain⟨ao,cap,rfl⟩:=h.len;have HB:=Qa h
 have HG:Hid (∀e∈s,∀W,Calls prog 82 #[.agg #[.string (strOfNums e.1),.int .i64 e.2]] W λr W'=>r=.returned (.bool ((λe:LI × Int=>decide (64<e.1.length)) e))∧N0 W W'):=by
  intro e he W;refine (Df _ _ W).mono ?_;rintro r W' ⟨rfl,o⟩;refine⟨?_,o⟩
  have e1:(strOfNums e.1).size=e.1.length:=by rw[<-QX,sb_of (hu e he)]
  rw[e1]
 obtain⟨m,hm⟩:=EX s.length;rw[<-hm] at HB hl;rw[<-hm];have HM:=Qa hm;have R0:=Qa (Only.refl (λ_=>False) w);clear h hm hu;generalize (λe:LI × Int=>decide (64<e.1.length))=p at *;go_enter func122,ntmps122;go_wp2
 go_loopw [8] (λi wr=>∃k:Nat,k<=m∧i=.int .i64 k∧(∀j,j<k->p (s.getD j ([],0))=false)∧N0 w wr) (λi _=>m - (intOf i).toNat)
 case atStart=>exact⟨0,Nat.zero_le _,rfl,λj hj=>by omega,R0.o⟩
 case round =>
  clear R0;obtain⟨k,hk,rfl,h2,ho⟩:=hrel;have HN:=Qa h2;have HO:=Qa ho;clear h2 ho
  by_cases hlt:k<m
  ·obtain⟨b,off,cap',e,hc0,hc1⟩:=(HB.o.past HO.o).at k (by rw[<-HM.o];exact hlt)
   simp only[Value.slice.injEq] at e;obtain⟨rfl,hmx,rfl⟩:=e;clear hmx;have h0:s.getD k ([],0)∈s:=Ud (by rw[<-HM.o];exact hlt);have C:=Qa (HG.o _ h0 wr);obtain⟨x,hx⟩:=EX (s.getD k ([],0));have HX:=Qa hx;rw[<-hx] at C hc0 hc1 h0
   have i1:(k:Int)<(m:Int):=by omega
   have HM2:=Qa h0;clear hx h0
   cases hp:p x with
   | true =>
    rw[hp] at C;go_wp2_with fail;refine C.o.mono ?_;rintro e w1 ⟨rfl,o1⟩;have O1:=Qa (HO.o.same o1);clear C o1 HB HG;go_wp2;go_ret;exact⟨⟨_,rfl,by rw[Qe (by omega:(0:Int)<=(k:Int))];exact (List.any_eq_true.2 ⟨x,HM2.o,hp⟩).symm⟩,O1.o⟩
   | false =>
    rw[hp] at C;go_wp2_with fail;refine C.o.mono ?_;rintro e w1 ⟨rfl,o1⟩;have O1:=Qa (HO.o.same o1);clear C o1;go_wp2
    go_roundw
    case rel =>
     refine⟨k+1,by omega,by go_num,λj hj=>?_,O1.o⟩
     rcases Nat.lt_succ_iff_lt_or_eq.1 hj with h1 | rfl
     ·exact HN.o j h1
     ·rw[<-HX.o];exact hp
    case measure=>simp[intOf];omega
  ·obtain rfl:k=m:=by omega
   have HA:=Qa (RH (p:=p) (s:=s) (d:=([],0)) (λj hj=>HN.o j (by rw[HM.o];exact hj)));clear HB HG HN;go_wp2;go_ret;exact⟨⟨_,rfl,by rw[HA.o];rfl⟩,HO.o⟩
theorem Pp (v:Value) (s:List (LI × Int)) (w:World) (h:Ens w v s) (hl:s.length<=9223372036854775806) (hu:VM s) :
 Calls prog 80 #[v,.func (.func 82) #[] #[]] w λe w'=>e=.returned (.bool (s.any (λe:LI × Int=>decide (64<e.1.length))))∧N0 w w':=by
 have A:=Qa (Mv v s w h hl hu);generalize s.any (λe:LI × Int=>decide (64<e.1.length))=z at *;clear h hl hu;go_enter func80,ntmps80;go_wp2_with fail;refine A.o.mono ?_;rintro e w1 ⟨⟨i,rfl,hi⟩,o1⟩;have O:=Qa o1;have HI:=Qa hi;clear A o1 hi;go_wp2;go_ret;exact⟨by rw[<-HI.o];rfl,O.o⟩
def pre {α:Type} (p:List α) (r:Except Int (List α × LI)):Except Int (List α × LI):=match r with
 | .error e=>.error e
 | .ok (l,t)=>.ok (p++l,t)
theorem Pc {α:Type} (r:Except Int (List α × LI)):pre [] r=r:=by cases r <;> rfl
theorem TZ {α:Type} (p q:List α) (r:Except Int (List α × LI)):pre p (pre q r)=pre (p++q) r:=by
 cases r with
 | error e=>rfl
 | ok x=>simp[pre]
theorem Ru {σ α:Type} {r:σ->Qy α} {nx:σ->α->σ} {s:σ} {e:Int} (h:r s ys=.error e):rdRep r nx (n+1) s ys=.error e:=by
 simp only[rdRep,h]
theorem Pv {σ α:Type} {r:σ->Qy α} {nx:σ->α->σ} {s:σ} {ys t:LI} {x:α} (h:r s ys=.ok (x,t)):rdRep r nx (n+1) s ys=pre [x] (rdRep r nx n (nx s x) t):=by
 simp only[rdRep,h]
 cases rdRep r nx n (nx s x) t with
 | error e=>rfl
 | ok y=>rfl
theorem Oc {c:Int} (h:Qq n ys=([],0,c)) (hc:c≠0):rdK n ys=.error c:=by unfold rdK;rw[h,if_neg hc]
theorem Sg {ys b:LI} (h:Qq n ys=(b,k,0)):rdK n ys=.ok (b,ys.drop k):=by unfold rdK;rw[h,if_pos rfl]
theorem Bm {T:List (LI)} {x:LI} (h:0<T.length):YZ T x=lexB (T.getD (T.length - 1) []) x:=by
 unfold YZ;rw[List.getLast?_eq_getElem?,Qg (by omega),Qd,Qg (by omega)]
 rfl
theorem MB {x y:LI} (hx:U8 x) (hy:U8 y):Op.bytesLess (strOfNums x).toList (strOfNums y).toList=lexB x y:=by rw[uN,sb_of hx,sb_of hy]
theorem Rc (s:ByteArray):∀u∈[Value.string s],u.oneCell'=true:=by intro u hu;rw[List.mem_singleton] at hu;subst hu;rfl
theorem Tryz.infoStr:(prog.info? 9).map (λi=>(i.zero,i.size,i.bytes))=some (some (.string ⟨#[]⟩),1,16):=by kernel_rfl
structure TRd (w wr:World) (R:Nat) (v u:Value) (D:Except Int (List (LI) × LI)) (n k:Nat) (T:List (LI)) (ys:LI) (v2:Value):Prop where
 len:T.length=k
 all:∀x∈T,U8 x∧x.length<=64
 eq:D=pre T (rdTns (n - k) T ys)
 cur:CurAt 108 wr R v2 ys
 ob:v2.ownBlock=v.ownBlock
 row:wr.ownsRow w.heap.size 9 1 u k (UL T)
 on:Only (λj=>j=R) w wr
theorem TRd.err {w wr:World} {v u:Value} {D:Except Int (List (LI) × LI)} {T:List (LI)} {v2:Value} (h:TRd w wr R v u D n k T ys v2) (hk:k<n) {c:Int} (hc:rdTn T ys=.error c):D=.error c:=by
 rw[h.eq,show n - k=(n - k - 1)+1 by omega,rdTns,Ru hc]
 rfl
theorem TRd.go {w wr:World} {v u:Value} {D:Except Int (List (LI) × LI)} {T:List (LI)} {v2:Value} (h:TRd w wr R v u D n k T ys v2) (hk:k<n) {x t:LI} (hc:rdTn T ys=.ok (x,t)):D=pre (T++[x]) (rdTns (n - (k+1)) (T++[x]) t):=by
 rw[h.eq,show n - k=(n - (k+1))+1 by omega,rdTns,Pv hc,TZ]
 rfl
theorem Ma (h:CurAt 108 w R v ys) (hR:R<w.heap.size) (hvb:∀j,v.ownBlock=some j->j<w.heap.size) :
 Calls prog 136 #[.pointer (some ⟨R,0,none⟩)] w (VV w R v (rdDir ys) λd e w'=>∃u,e=.returned u∧w'.ownsRow w.heap.size 9 1 u d.2.length (UL d.2)∧d.2.length<=1048576∧∀x∈d.2,U8 x∧x.length<=64):=by
 obtain⟨i0,hi,hb,ho,hm⟩:=info_parts Tryz.infoStr;have A:=Qa (Hp h);have HV:=Qa hvb
 obtain⟨K,hK⟩:=EX (VV w R v (rdDir ys) λd e w'=>∃u,e=.returned u∧w'.ownsRow w.heap.size 9 1 u d.2.length (UL d.2)∧d.2.length<=1048576∧∀x∈d.2,U8 x∧x.length<=64)
 rw[<-hK];have HK:=Qa hK;clear h hvb hK;go_enter func136,ntmps136;go_wp2_with fail;refine A.o.mono ?_;rintro e w0 ⟨o0,⟨c,h5,hr,rfl⟩ | ⟨n,hp,hr,⟨rfl,hn⟩,v0,c0,hl⟩⟩
 ·have HF:=Qa (And.intro o0 (U7 (r2:=λn=>rdTns n []) hr))
  clear o0 A hr;unfold mpan;go_wp2;refine⟨rfl,?_⟩;rw[HK.o];exact⟨HF.o.1,.inl ⟨c,h5,HF.o.2,rfl⟩⟩
 ·have h2:=Qa hr
  obtain⟨D,hD⟩:=EX (rdTns n [] hp);have HD:=Qa hD;have F0:Hid (TRd w w0 R v (.slice none 0 0) D n 0 [] hp v0):=⟨rfl,by simp,by rw[Pc,hD];rfl,c0,hl,World.ownsRow_nil _ _ _ _,o0⟩;clear o0 A hr c0 hl hD;go_wp2
  go_loopw [3,8] (λu i wr=>∃k:Nat,k<=n∧i=.int .i64 k∧∃T zs v2,TRd w wr R v u D n k T zs v2) (λ_ i _=>n - (intOf i).toNat)
  case atStart=>exact⟨0,Nat.zero_le _,rfl,_,_,_,F0.o⟩
  case round =>
   clear F0;obtain⟨k,hk,rfl,T,zs,v2,ht⟩:=hrel;have HT:=Qa ht
   by_cases hlt:k<n
   ·have i1:(k:Int)<(n:Int):=by omega
    have B:=Qa (J2 ht.cur 64 (by decide));have h3:=ht.cur.rng;clear ht
    rcases Pb (n:=64) h3 (by decide) (by decide) with ⟨c,hs,hc⟩ | ⟨x,q,hs,hxl,_,_,hsplit,_⟩
    ·have h5:c≠0:=by omega
     have HE:=Qa (HT.o.err hlt (KU (Oc (n:=64) hs h5)));rw[hs] at B;clear hs hc h3;go_wp2_with fail;refine B.o.mono ?_;rintro e w1 ⟨v1,rfl,_,_,_,v3,_,_,o1⟩;have O1:=Qa (HT.o.on.trans o1 (λi _ e=>e));clear B o1;go_wp2_with fail;refine (Zi v1 c w1 h5).mono ?_;rintro e w' ⟨rfl,rfl⟩;unfold mpan;go_wp2;refine⟨rfl,?_⟩;rw[HK.o];exact⟨O1.o,.inl ⟨c,h5,Yf h2.o (HD.o.symm.trans HE.o),rfl⟩⟩
    ·rw[hs] at B
     have hx8:U8 x:=λy hy=>h3 y (by rw[hsplit];unfold blk;simp[hy])
     have he:=Qa hx8;have h9:=Qa (Sg (n:=64) hs);clear hs h3 hsplit;go_wp2_with fail;refine B.o.mono ?_;rintro e w1 ⟨v1,rfl,b1,_,_,v3,c3,hd,o1⟩;have hcv:=Gv w1 v1 x b1;have O1:=Qa (HT.o.on.trans o1 (λi _ e=>e));have h0:=o1.own HT.o.row (λj hj e=>by have:=(HT.o.row.lt j hj).1;omega);have CC:=Qa (And.intro c3 (hd.trans HT.o.ob));have hsz1:=O1.o.size;clear B o1 b1 c3 hd;go_wp2_with fail;refine (ZN v1 w1).mono ?_;rintro e w' ⟨rfl,rfl⟩;have h7:=HT.o.len;obtain⟨P,hP⟩:=EX (YZ T x)
     have h6:P=false->Hid (K (.panicked [{ v:=.iface 27 (.int .i64 3),recovered:=false }]) w1):=λhf=>by
      simp only[Hid];rw[HK.o];exact⟨O1.o,.inl ⟨3,by decide,Yf h2.o (HD.o.symm.trans (HT.o.err hlt (Kx h9.o (by rw[<-hP];exact hf)))),rfl⟩⟩
     have h4:P=true->Hid (∀u' w',w'.ownsRow w.heap.size 9 1 u' (k+1) (UL T++[.string (strOfNums x)])->(w1.alloc (.cells #[.string (strOfNums x)] 9)).grownBy w' u3.ownBlock->TRd w w' R v u' D n (k+1) (T++[x]) (zs.drop q) v3):=λhf=>by
      intro u' w' hrow hg;have og:Only (λj=>u3.ownBlock=some j) w1 w':=((Only.refl _ w1).alloc _).grown hg (λj _ e=>e);refine⟨by simp[h7],λy hy=>?_,HT.o.go hlt (Wm h9.o (by rw[<-hP];exact hf)),CC.o.1.keep og (λe=>by have:=(h0.lt R e).1;omega) (λj hj e=>?_),CC.o.2,by rw[UL,List.map_append];exact hrow,O1.o.trans og (λi hi e=>by have:=(h0.lt i e).1;omega)⟩
      ·rcases List.mem_append.1 hy with h1 | h1
       ·exact HT.o.all y h1
       ·rw[List.mem_singleton] at h1;subst h1;exact⟨he.o,by omega⟩
      ·rw[CC.o.2] at hj
       have:=HV.o j hj;have:=(h0.lt j e).1;omega
     by_cases hk0:k=0
     ·subst hk0
      have ha:T=[]:=List.eq_nil_of_length_eq_zero h7;have NX:=h4 (by rw[hP,ha];rfl);clear h6 h4 hP ha CC HT
      go_wp2_with (first
       | (go_at_call 133;refine (Uf 3 w1).mono ?_;rintro e w' ⟨rfl,rfl⟩)
       | (at_builtin;refine wpList_append_own _ rfl _ _ 58 rfl w.heap.size 9 i0 (.string ⟨#[]⟩) 1 16 underlying58 hi hb ho hm rfl (by decide) _ 0 _ rfl (h0.alloc _) ⟨w1.heap.size,0,none⟩ 1 1 [.string (strOfNums x)] rfl rfl (cell_one_new _ _ _) (Rc _) (by unfold maxLen;omega) (by omega) (by simp;omega) ?_;intro v' w2 hown' hgrow2 _)
       | fail)
      go_roundw
      case rel=>exact⟨1,by omega,by go_num,_,_,_,NX.o _ _ hown' hgrow2⟩
      case measure=>simp[intOf];omega
     ·have d0:((k:Int) == 0)=false:=by rw[beq_eq_false_iff_ne];omega
      have h8:T.length=k:=h7;obtain⟨b,off,cap,eu,hcl⟩:=(Sts.of_own (w:=w1) (v:=u3) (T:=T) (by rw[h8];exact h0)).at (k - 1) (by omega);rw[h8] at eu
      have hh:Op.bytesLess (strOfNums (T.getD (k - 1) [])).toList (strOfNums x).toList=P:=by
       rw[MB (HT.o.all _ (Ud (by omega))).1 he.o,hP,Bm (by omega),h8]
      generalize T.getD (k - 1) []=y at *;subst eu
      have hw1:IntKind.i64.wrap ((k:Int) - 1)=((k - 1:Nat):Int):=by rw[IntKind.wrap_i64];omega
      have q0:(0:Int)<=((k - 1:Nat):Int):=by omega
      have q1:((k - 1:Nat):Int)<(k:Int):=by omega
      cases hPP:P with
      | false =>
       have FN:=h6 hPP;rw[hPP] at hh;clear h6 h4 CC HT
       go_wp2_with (first
        | (go_at_call 133;refine (UG 3 w1).mono ?_;rintro e w' ⟨rfl,rfl⟩;unfold mpan)
        | fail)
       exact⟨rfl,FN.o⟩
      | true =>
       have NX:=h4 hPP;rw[hPP] at hh;clear h6 h4 CC HT
       go_wp2_with (first
        | (go_at_call 133;refine (Uf 3 w1).mono ?_;rintro e w' ⟨rfl,rfl⟩)
        | (at_builtin;refine wpList_append_own _ rfl _ _ 58 rfl w.heap.size 9 i0 (.string ⟨#[]⟩) 1 16 underlying58 hi hb ho hm rfl (by decide) _ k _ rfl (h0.alloc _) ⟨w1.heap.size,0,none⟩ 1 1 [.string (strOfNums x)] rfl rfl (cell_one_new _ _ _) (Rc _) (by unfold maxLen;omega) (by omega) (by simp;omega) ?_;intro v' w2 hown' hgrow2 _)
        | fail)
       go_roundw
       case rel=>exact⟨k+1,by omega,by go_num,_,_,_,NX.o _ _ hown' hgrow2⟩
       case measure=>simp[intOf];omega
   ·obtain rfl:k=n:=by omega
    have hKK:=HK.o;clear ht HK;subst hKK;go_wp2;go_ret
    have e1:D=.ok (T,zs):=by
     rw[HT.o.eq,Nat.sub_self];simp[rdTns,rdRep,pre]
    refine⟨HT.o.on,.inr ⟨(k,T),zs,We h2.o (HD.o.symm.trans e1),⟨_,rfl,?_,?_,HT.o.all⟩,v2,HT.o.cur,HT.o.ob⟩⟩
    ·have:=HT.o.row
     rw[<-HT.o.len] at this;exact this
    ·have:=HT.o.len
     simp only;omega
theorem Ef:rdB 1 []=.error 2:=rfl
theorem R7 (y:Int) (t:LI):rdB 1 (y :: t)=.ok ([y],t):=by simp[rdB]
theorem ID {L:Nat} {c:Int} (h:Qh ys=(0,0,c)) (hc:c≠0):rdEn L ys=.error c:=U7 (KU (Nx h hc))
theorem kR {L:Nat} {a k:Nat} (h:Qh ys=((a:Int),k,0)) (ha:L<=a):rdEn L ys=.error 3:=U7 (Kx (KO h) (Qb (by omega)))
theorem kB {L:Nat} {a k:Nat} (h:Qh ys=((a:Int),k,0)) (ha:a<L) (hd:ys.drop k=[]):rdEn L ys=.error 2:=by
 have h1:=KO h;rw[hd] at h1;exact Yf (Wm h1 (Qe ha)) (KU Ef)
theorem CD {L:Nat} {ys t:LI} {a k:Nat} {y:Int} (h:Qh ys=((a:Int),k,0)) (ha:a<L) (hd:ys.drop k=y :: t) (hy:8<y):rdEn L ys=.error 3:=by
 have h1:=KO h;rw[hd] at h1;exact Yf (Wm h1 (Qe ha)) (Kx (R7 y t) (Qb (by simp;omega)))
theorem en_ok {L:Nat} {ys t:LI} {a k:Nat} {y:Int} (h:Qh ys=((a:Int),k,0)) (ha:a<L) (hd:ys.drop k=y :: t) (hy:y<=8):rdEn L ys=.ok ((a,[y]),t):=by
 have h1:=KO h;rw[hd] at h1;exact We (Wm h1 (Qe ha)) (Wm (R7 y t) (Qe (by simpa using hy)))
theorem Fe:sByte []=(0,0,2):=rfl
theorem qi (y:Int) (t:LI):sByte (y :: t)=(y,1,0):=rfl
def Yi (T:List (LI)) (t:Nat × LI):LI × Int:=(T.getD t.1 [],t.2.getD 0 0)
theorem Tryz.infoEn:(prog.info? 88).map (λi=>(i.zero,i.size,i.bytes))=some (some (.agg #[.string ⟨#[]⟩,.int .i64 0]),2,24):=by kernel_rfl
theorem X5 (w:World) (x y:Value) (t:TypeId):∀j u,[x,y][j]? = some u->(w.alloc (.cells #[x,y] t)).cell? ((⟨w.heap.size,0,none⟩:Addr).add j)=some u:=by
 intro j u h;have hb:=heap_alloc_new w (.cells #[x,y] t);rw[Go.WideShapes.add_plain,Nat.zero_add,<-h];unfold World.cell?;simp only;rw[hb]
 match j with
 | 0=>rfl
 | 1=>rfl
 | j+2=>simp
theorem yP (s:ByteArray) (y:Int):∀u∈[Value.string s,.int .i64 y],u.oneCell'=true:=by
 intro u hu;simp only[List.mem_cons,List.not_mem_nil,or_false] at hu
 rcases hu with rfl | rfl <;> rfl
structure ERd (w wr:World) (R:Nat) (v u:Value) (D:Except Int (List (Nat × LI) × LI)) (T:List (LI)) (n k:Nat) (ts:List (Nat × LI)) (ys:LI) (v2:Value):Prop where
 len:ts.length=k
 all:∀t∈ts,t.1<T.length
 eq:D=pre ts (rdEns T.length (n - k) ys)
 cur:CurAt 108 wr R v2 ys
 ob:v2.ownBlock=v.ownBlock
 row:wr.ownsRow w.heap.size 88 2 u k (Yy (ts.map (Yi T)))
 on:Only (λj=>j=R) w wr
theorem ERd.err {w wr:World} {v u:Value} {D:Except Int (List (Nat × LI) × LI)} {T:List (LI)} {ts:List (Nat × LI)} {v2:Value} (h:ERd w wr R v u D T n k ts ys v2) (hk:k<n) {c:Int} (hc:rdEn T.length ys=.error c):D=.error c:=by
 rw[h.eq,show n - k=(n - k - 1)+1 by omega,rdEns,Ru (r:=λ_:Unit=>rdEn T.length) (s:=()) hc]
 rfl
theorem ERd.go {w wr:World} {v u:Value} {D:Except Int (List (Nat × LI) × LI)} {T:List (LI)} {ts:List (Nat × LI)} {v2:Value} (h:ERd w wr R v u D T n k ts ys v2) (hk:k<n) {x:Nat × LI} {t:LI} (hc:rdEn T.length ys=.ok (x,t)):D=pre (ts++[x]) (rdEns T.length (n - (k+1)) t):=by
 rw[h.eq,show n - k=(n - (k+1))+1 by omega,rdEns,Pv (r:=λ_:Unit=>rdEn T.length) (s:=()) hc,TZ]
 rfl
theorem Dx {v vt:Value} {T:List (LI)} (h:CurAt 108 w R v ys) (hR:R<w.heap.size) (hvb:∀j,v.ownBlock=some j->j<w.heap.size) (hst:Sts w vt T) (hvt:∀j,vt.ownBlock=some j->j≠R) (hTl:T.length<=1048576) :
 Calls prog 137 #[.pointer (some ⟨R,0,none⟩),vt] w (VV w R v (rdAll T.length ys) λd e w'=>∃u,e=.returned u∧w'.ownsRow w.heap.size 88 2 u d.2.length (Yy (d.2.map (Yi T)))∧d.2.length<=1048576∧∀t∈d.2,t.1<T.length):=by
 obtain⟨i0,hi,hz0,hz1,hz2⟩:=info_parts Tryz.infoEn;have A:=Qa (Hp h);have HV:=Qa hvb;have h6:=Qa hvt;have hf:=Qa hst;obtain⟨at1,ct1,et1⟩:=hst.len;subst et1
 obtain⟨K,hK⟩:=EX (VV w R v (rdAll T.length ys) λd e w'=>∃u,e=.returned u∧w'.ownsRow w.heap.size 88 2 u d.2.length (Yy (d.2.map (Yi T)))∧d.2.length<=1048576∧∀t∈d.2,t.1<T.length)
 rw[<-hK];have HK:=Qa hK;obtain⟨L,hL⟩:=EX T.length;have HL:=Qa hL;rw[<-hL] at hf h6 hTl;rw[<-hL]
 have hwL:IntKind.u64.wrap (L:Int)=L:=by rw[IntKind.wrap_u64];omega
 clear h hvb hK hst hvt hL;go_enter func137,ntmps137;go_wp2_with fail;refine A.o.mono ?_;rintro e w0 ⟨o0,⟨c,h5,hr,rfl⟩ | ⟨n,hd,hr,⟨rfl,hn⟩,v0,c0,ha⟩⟩
 ·have HF:=Qa (And.intro o0 (U7 (r2:=λn=>rdEns T.length n) hr))
  clear o0 A hr;unfold mpan;go_wp2;refine⟨rfl,?_⟩;rw[HK.o];exact⟨HF.o.1,.inl ⟨c,h5,HF.o.2,rfl⟩⟩
 ·have h3:=Qa hr
  obtain⟨D,hD⟩:=EX (rdEns T.length n hd);have HD:=Qa hD;have F0:Hid (ERd w w0 R v (.slice none 0 0) D T n 0 [] hd v0):=⟨rfl,by simp,by rw[Pc,hD];rfl,c0,ha,World.ownsRow_nil _ _ _ _,o0⟩;clear o0 A hr c0 ha hD;go_wp2
  go_loopw [5,10] (λu i wr=>∃k:Nat,k<=n∧i=.int .i64 k∧∃ts zs v2,ERd w wr R v u D T n k ts zs v2) (λ_ i _=>n - (intOf i).toNat)
  case atStart=>exact⟨0,Nat.zero_le _,rfl,_,_,_,F0.o⟩
  case round =>
   clear F0;obtain⟨k,hk,rfl,ts,zs,v2,ht⟩:=hrel;have HT:=Qa ht
   by_cases hlt:k<n
   ·have i1:(k:Int)<(n:Int):=by omega
    have B:=Qa (VY ht.cur);have h0:=ht.cur.rng
    have h4:Hid (∀c w',c≠0->rdEn T.length zs=.error c->Only (λj=>j=R) wr w'->K (.panicked [{ v:=.iface 27 (.int .i64 c),recovered:=false }]) w'):=by
     intro c w' hc he ho;rw[HK.o];exact⟨HT.o.on.trans ho (λi _ e=>e),.inl ⟨c,hc,Yf h3.o (HD.o.symm.trans (HT.o.err hlt he)),rfl⟩⟩
    clear ht
    rcases Zt h0 with ⟨c,hs,hc⟩ | ⟨a,q,hs,_,_,ha64,_⟩
    ·have h5:c≠0:=by omega
     have HE:=Qa (ID (L:=T.length) hs h5);rw[hs] at B;clear hs hc h0;go_wp2_with fail;refine B.o.mono ?_;rintro e w1 ⟨rfl,v3,_,_,o1⟩;have FN:=Qa (h4.o c w1 h5 HE.o o1);clear B o1;go_wp2_with fail;refine (J7 _ c w1 h5).mono ?_;rintro e w' ⟨rfl,rfl⟩;unfold mpan;go_wp2;exact⟨rfl,FN.o⟩
    ·have HS:=Qa hs
     rw[hs] at B;clear hs
     by_cases haL:a<L
     ·have d1:decide ((a:Int)<(L:Int))=true:=by simp;omega
      have d2:decide (a<L)=true:=by simp;omega
      have q0:(0:Int)<=(a:Int):=by omega
      have q1:(a:Int)<(L:Int):=by omega
      go_wp2_with fail;refine B.o.mono ?_;rintro e w1 ⟨rfl,v3,c3,h9,o1⟩;have O1:=Qa o1;have BY:=Qa (qy c3);have OB3:=Qa h9;clear B o1 c3 h9;go_wp2_with fail;refine (VT _ w1).mono ?_;rintro e w' ⟨rfl,rfl⟩;go_wp2_with fail;refine (Uf 3 w1).mono ?_;rintro e w' ⟨rfl,rfl⟩
      have h7:∀y∈zs.drop q,0<=y∧y<=255:=λy hy=>h0 y (List.mem_of_mem_drop hy)
      rcases hdd:zs.drop q with _ | ⟨y,t⟩
      ·rw[hdd,Fe] at BY
       have HE:=Qa (kB (L:=T.length) HS.o (by rw[<-HL.o];exact haL) hdd);clear hdd h7 h0;go_wp2_with fail;refine BY.o.mono ?_;rintro e w2 ⟨rfl,v4,_,_,o2⟩;have FN:=Qa (h4.o 2 w2 (by decide) HE.o (O1.o.trans o2 (λi _ e=>e)));clear BY o2;go_wp2_with fail;refine (BO _ 2 w2 (by decide)).mono ?_;rintro e w' ⟨rfl,rfl⟩;unfold mpan;go_wp2;exact⟨rfl,FN.o⟩
      ·have hy:=h7 y (by rw[hdd];exact List.mem_cons_self)
       rw[hdd,qi] at BY;have hb:=Qa hdd
       have hwy:IntKind.i64.wrap y=y:=by rw[IntKind.wrap_i64];omega
       clear hdd h7 h0;go_wp2_with fail;refine BY.o.mono ?_;rintro e w2 ⟨rfl,v4,c4,h8,o2⟩;have O2:=Qa (O1.o.trans o2 (λi _ e=>e));have CC:=Qa (And.intro c4 (h8.trans (OB3.o.trans HT.o.ob)));clear BY o2 c4 h8;go_wp2_with fail;refine (EA _ w2).mono ?_;rintro e w' ⟨rfl,rfl⟩;go_wp2_with fail;refine (Ll y w2).mono ?_;rintro e w3 ⟨rfl,o3⟩;have O3:=Qa (O2.o.trans o3 (λi _ f=>f.elim));have C3:=Qa (And.intro (CC.o.1.keep o3 (λf=>f) (λ_ _ f=>f)) CC.o.2);clear o3 CC O2
       by_cases hy8:y<=8
       ·have eb:okB y=true:=Qe ⟨by omega,hy8⟩
        rw[eb];have h2:=O3.o.own HT.o.row (λj hj e=>by have:=(HT.o.row.lt j hj).1;omega);obtain⟨b,off,cap,eu,hcl⟩:=((hf.o.keep HT.o.on (λj hj e=>h6.o j hj e)).keep O3.o (λj hj e=>h6.o j hj e)).at a (by rw[<-HL.o];exact haL);rw[<-HL.o] at eu;simp only[Value.slice.injEq] at eu;obtain⟨rfl,_,rfl⟩:=eu;have OW:=Qa (HT.o.on.trans O3.o (λi _ e=>e));have hsz3:=OW.o.size
        have NX:Hid (∀u' w',w'.ownsRow w.heap.size 88 2 u' (k+1) (Yy (ts.map (Yi T))++[.string (strOfNums (T.getD a [])),.int .i64 y])->(w3.alloc (.cells #[.string (strOfNums (T.getD a [])),.int .i64 y] 88)).grownBy w' u5.ownBlock->ERd w w' R v u' D T n (k+1) (ts++[(a,[y])]) t v4):=by
         intro u' w' hrow hg;have og:Only (λj=>u5.ownBlock=some j) w3 w':=((Only.refl _ w3).alloc _).grown hg (λj _ e=>e);refine⟨by simp[HT.o.len],λz hz=>?_,HT.o.go hlt (en_ok HS.o (by rw[<-HL.o];exact haL) hb.o hy8),?_,C3.o.2,by rw[List.map_append,List.map_cons,List.map_nil,qL];exact hrow,OW.o.trans og (λi hi e=>by have:=(h2.lt i e).1;omega)⟩
         ·rcases List.mem_append.1 hz with h1 | h1
          ·exact HT.o.all z h1
          ·rw[List.mem_singleton] at h1;subst h1;simp only;rw[<-HL.o];exact haL
         ·have c5:=C3.o.1
          rw[List.drop_succ_cons,List.drop_zero] at c5;refine c5.keep og (λe=>by have:=(h2.lt R e).1;omega) (λj hj e=>?_);rw[C3.o.2] at hj;have:=HV.o j hj;have:=(h2.lt j e).1;omega
        generalize T.getD a []=x at *;clear h4 C3 HT h6
        go_wp2_with (first
         | (go_at_call 133;refine (Uf 3 w3).mono ?_;rintro e w' ⟨rfl,rfl⟩)
         | (at_builtin;refine wpList_append_own _ rfl _ _ 35 rfl w.heap.size 88 i0 (.agg #[.string ⟨#[]⟩,.int .i64 0]) 2 24 underlying35 hi hz0 hz1 hz2 rfl (by decide) _ k _ rfl (h2.alloc _) ⟨w3.heap.size,0,none⟩ 1 1 [.string (strOfNums x),.int .i64 y] rfl rfl (X5 _ _ _ _) (yP _ _) (by unfold maxLen;omega) (by omega) (by simp;omega) ?_;intro v' w4 hown' hgrow' _)
         | fail)
        go_roundw
        case rel=>exact⟨k+1,by omega,by go_num,_,_,_,NX.o _ _ hown' hgrow'⟩
        case measure=>simp[intOf];omega
       ·have eb:okB y=false:=Qb (by omega)
        rw[eb];have FN:=Qa (h4.o 3 w3 (by decide) (CD HS.o (by rw[<-HL.o];exact haL) hb.o (by omega)) O3.o);clear h4 C3 HT;go_wp2_with fail;refine (UG 3 w3).mono ?_;rintro e w' ⟨rfl,rfl⟩;unfold mpan;go_wp2;exact⟨rfl,FN.o⟩
     ·have d1:decide ((a:Int)<(L:Int))=false:=by simp;omega
      have d2:decide (a<L)=false:=by simp;omega
      have HE:=Qa (kR HS.o (by rw[<-HL.o];omega:T.length<=a));go_wp2_with fail;refine B.o.mono ?_;rintro e w1 ⟨rfl,v3,_,_,o1⟩;have FN:=Qa (h4.o 3 w1 (by decide) HE.o o1);clear B o1;go_wp2_with fail;refine (VT _ w1).mono ?_;rintro e w' ⟨rfl,rfl⟩;go_wp2_with fail;refine (UG 3 w1).mono ?_;rintro e w' ⟨rfl,rfl⟩;unfold mpan;go_wp2;exact⟨rfl,FN.o⟩
   ·obtain rfl:k=n:=by omega
    have hKK:=HK.o;clear ht HK;subst hKK;go_wp2;go_ret
    have e1:D=.ok (ts,zs):=by
     rw[HT.o.eq,Nat.sub_self];simp[rdEns,rdRep,pre]
    refine⟨HT.o.on,.inr ⟨(k,ts),zs,We h3.o (HD.o.symm.trans e1),⟨_,rfl,?_,?_,HT.o.all⟩,v2,HT.o.cur,HT.o.ob⟩⟩
    ·have:=HT.o.row
     rw[<-HT.o.len] at this;exact this
    ·have:=HT.o.len
     simp only;omega
theorem ZI (h:ys.length<n):rdB n ys=.error 2:=if_pos h
theorem KB (h:¬ys.length<n):rdB n ys=.ok (ys.take n,ys.drop n):=if_neg h
theorem qD (h:ys.length<4):rdHd ys=.error 2:=KU (ZI h)
theorem hd_no (h:¬ys.length<4) (hx:ys.take 4≠QW):rdHd ys=.error 3:=Kx (KB h) (by simpa using hx)
theorem hd_ok (h:¬ys.length<4) (hx:ys.take 4=QW):rdHd ys=.ok (QW,ys.drop 4):=by
 have:=KB h;rw[hx] at this;exact Wm this (by simp)
theorem Lv {α β:Type} {r:Qy α} {f:α->β} {e:Int} (h:r ys=.error e):rdAs r f ys=.error e:=by unfold rdAs;rw[h]
theorem as_ok {α β:Type} {r:Qy α} {f:α->β} {ys t:LI} {x:α} (h:r ys=.ok (x,t)):rdAs r f ys=.ok (f x,t):=by unfold rdAs;rw[h]
theorem Cg (h:ys.length<8):rdVer ys=.error 2:=Lv (KU (ZI h))
theorem In (h:¬ys.length<8) (hx:num (ys.take 8)=18446744073709551615):rdVer ys=.error 3:=Lv (Kx (KB h) (Qb (by simp[hx])))
theorem kE (h:¬ys.length<8) (hx:num (ys.take 8)≠18446744073709551615):rdVer ys=.ok (num (ys.take 8),ys.drop 8):=as_ok (Wm (KB h) (Qe hx))
theorem KX {c:Int} (h:Wc ys=.error c):MDEC ys=.error c:=by unfold MDEC;rw[h]
section
variable {ys y1 y2 y3 y4 y5 y6:LI} {hd p r:LI} {v:Nat} {d:Nat × List (LI)} {a:Nat × List (Nat × LI)} {c:Int}
theorem M1 (h:rdHd ys=.error c):MDEC ys=.error c:=KX (U7 h)
theorem M2 (h1:rdHd ys=.ok (hd,y1)) (h:rdVer y1=.error c):MDEC ys=.error c:=KX (Yf h1 (U7 h))
theorem M3 (h1:rdHd ys=.ok (hd,y1)) (h2:rdVer y1=.ok (v,y2)) (h:rdB 32 y2=.error c):MDEC ys=.error c:=KX (Yf h1 (Yf h2 (U7 h)))
theorem M4 (h1:rdHd ys=.ok (hd,y1)) (h2:rdVer y1=.ok (v,y2)) (h3:rdB 32 y2=.ok (p,y3)) (h:rdDir y3=.error c):MDEC ys=.error c:=KX (Yf h1 (Yf h2 (Yf h3 (U7 h))))
theorem M5 (h1:rdHd ys=.ok (hd,y1)) (h2:rdVer y1=.ok (v,y2)) (h3:rdB 32 y2=.ok (p,y3)) (h4:rdDir y3=.ok (d,y4)) (h:rdAll d.2.length y4=.error c):MDEC ys=.error c:=KX (Yf h1 (Yf h2 (Yf h3 (Yf h4 (U7 h)))))
theorem M6 (h1:rdHd ys=.ok (hd,y1)) (h2:rdVer y1=.ok (v,y2)) (h3:rdB 32 y2=.ok (p,y3)) (h4:rdDir y3=.ok (d,y4)) (h5:rdAll d.2.length y4=.ok (a,y5)) (h:rdB 32 y5=.error c):MDEC ys=.error c:=KX (Yf h1 (Yf h2 (Yf h3 (Yf h4 (Yf h5 h)))))
theorem Mall (h1:rdHd ys=.ok (hd,y1)) (h2:rdVer y1=.ok (v,y2)) (h3:rdB 32 y2=.ok (p,y3)) (h4:rdDir y3=.ok (d,y4)) (h5:rdAll d.2.length y4=.ok (a,y5)) (h6:rdB 32 y5=.ok (r,y6)):Wc ys=.ok ((hd,v,p,d,a,r),y6) :=
 We h1 (We h2 (We h3 (We h4 (We h5 h6))))
theorem M7 (h:Wc ys=.ok ((hd,v,p,d,a,r),y6)) (hn:y6≠[]):MDEC ys=.error 3:=by unfold MDEC;rw[h];simp only[if_neg hn]
theorem M8 (h:Wc ys=.ok ((hd,v,p,d,a,r),y6)) (hn:y6=[]) (hu:¬Uu d.2.length a.2=true):MDEC ys=.error 3:=by unfold MDEC;rw[h];simp only[if_pos hn,if_neg hu]
theorem M9 (h:Wc ys=.ok ((hd,v,p,d,a,r),y6)) (hn:y6=[]) (hu:Uu d.2.length a.2=true):MDEC ys=.ok ⟨v,p,a.2.map (Yi d.2),r⟩:=by unfold MDEC;rw[h];simp only[if_pos hn,if_pos hu];rfl
end
theorem Nu {α:Type} [DecidableEq α]:∀(a b:List α),a.Nodup->(∀x∈a,x∈b)->a.length<=b.length
 | [],b,_,_=>by simp
 | x :: a,b,hn,hs=>by
  rw[List.nodup_cons] at hn;have hx:=hs x List.mem_cons_self
  have ih:=Nu a (b.erase x) hn.2 (λy hy=>by
   have:y≠x:=λe=>hn.1 (by rw[<-e];exact hy)
   exact (List.mem_erase_of_ne this).2 (hs y (List.mem_cons_of_mem _ hy)))
  rw[List.length_erase_of_mem hx] at ih;have:=List.length_pos_of_mem hx;simp only[Qi];omega
theorem um {T:List (LI)} {ts:List (Nat × LI)} (hr:RIS T) (ha:∀t∈ts,t.1<T.length):(Yl ((ts.map (Yi T)).map Prod.fst)).length=T.length↔Uu T.length ts=true:=by
 have h0:∀x∈(ts.map (Yi T)).map Prod.fst,x∈T:=λx hx=>by
  obtain⟨e,he,rfl⟩:=List.mem_map.1 hx;obtain⟨t,ht,rfl⟩:=List.mem_map.1 he;exact Ud (ha t ht)
 constructor
 ·intro hlen
  unfold Uu;rw[List.all_eq_true];intro i hi;rw[List.mem_range] at hi
  by_cases hin:T.getD i []∈(ts.map (Yi T)).map Prod.fst
  ·obtain⟨e,he,e1⟩:=List.mem_map.1 hin
   obtain⟨t,ht,rfl⟩:=List.mem_map.1 he;rw[List.any_eq_true];refine⟨t,ht,?_⟩;rw[beq_iff_eq,<-Zd hr (ha t ht),<-Zd hr hi];exact congrArg _ e1
  ·exfalso
   have hx:T.getD i []∈T:=Ud hi
   have:=Nu (Yl ((ts.map (Yi T)).map Prod.fst)) (T.erase (T.getD i [])) (Va _).nodup (λy hy=>by
    have h1:=(UF _ _).1 hy
    have hne:y≠T.getD i []:=λe=>hin (by rw[<-e];exact h1)
    exact (List.mem_erase_of_ne hne).2 (h0 y h1))
   rw[List.length_erase_of_mem hx] at this;omega
 ·intro hu
  rw[<-Xl hr (λx=>⟨λhx=>?_,h0 x⟩)];have hi:=Wq hx;unfold Uu at hu;rw[List.all_eq_true] at hu;have:=hu (YU T x) (List.mem_range.2 hi);rw[List.any_eq_true] at this;obtain⟨t,ht,e⟩:=this;rw[beq_iff_eq] at e;refine List.mem_map.2 ⟨Yi T t,List.mem_map.2 ⟨t,ht,rfl⟩,?_⟩;unfold Yi;simp only[e];exact ZF hx
theorem wS {ys t:LI} {d:Nat × List (LI)} (h8:U8 ys) (h:rdDir ys=.ok (d,t)):RIS d.2:=by
 obtain⟨⟨_,g⟩,_⟩:=Qq2.only ys d t h8 h;have hn:=Zo g;rw[<-hn] at g;have:=(Vu d.2 [] List.Pairwise.nil).1 g;rw[List.nil_append] at this;exact this.1
section
open Go.Maps
def b8 (x:LI):List UInt8:=x.map λn=>UInt8.ofNat n.toNat
def i8 (l:List UInt8):LI:=l.map λc=>(c.toNat:Int)
theorem i8_b8 {x:LI} (h:U8 x):i8 (b8 x)=x:=by
 unfold i8 b8;rw[List.map_map];refine (List.map_congr_left (g:=id) (λy hy=>?_)).trans (List.map_id _);have:=h y hy;simp only[Function.comp,id];rw[UInt8.toNat_ofNat'];omega
theorem b8_i8 (l:List UInt8):b8 (i8 l)=l:=by
 unfold i8 b8;rw[List.map_map];refine (List.map_congr_left (g:=id) (λy _=>?_)).trans (List.map_id _);simp
theorem i8_u8 (l:List UInt8):U8 (i8 l):=by
 intro y hy;simp only[i8,List.mem_map] at hy;obtain⟨c,_,rfl⟩:=hy;have:=c.toNat_lt;omega
theorem vJ {x y:LI} (hx:U8 x) (hy:U8 y) (h:b8 x=b8 y):x=y:=by rw[<-i8_b8 hx,<-i8_b8 hy,h]
theorem yH (x:LI):Value.string (strOfNums x)=encStr (b8 x):=rfl
theorem LZ (x:LI):(strOfNums x).size=x.length:=strOfNums_size x
abbrev kS (x:LI):Lit:=.string (b8 x)
theorem Rh (x:LI):WideAt.IsKeyLit (kS x):=by simp[WideAt.IsKeyLit]
theorem kS_ne {x y:LI} (hx:U8 x) (hy:U8 y) (h:x≠y):kS x≠kS y:=λe=>h (vJ hx hy (by injection e))
theorem J8 {k:TypeId} (hk:P.underlying k=some .string) (x:LI) (h:x.length<=maxLen):keyOf P k (.string (strOfNums x))=some (kS x):=by
 have:(strOfNums x).size<=maxLen:=by rw[LZ];exact h
 simp[keyOf,hk,mapKey,this]
 rfl
def HasT (D:DataW Unit) (T:List (LI)):Prop:=∀x,U8 x->Maps.has D (kS x)=decide (x∈T)
def Py (D:DataW Unit) (T:List (LI)):Prop:=∀x,x∈T->∀z,D.atKey (kS x) z=.lit (.int .i64 (YU T x:Nat))
theorem HasT.put {D:DataW Unit} {T:List (LI)} (h:HasT D T) (hD:IsMap D) {x:LI} (hx:U8 x) (d:DataW Unit):HasT (D.put (kS x) d) (T++[x]):=by
 intro y hy
 by_cases e:y=x
 ·subst e
  rw[has_put_same hD (Rh y),Qe (by simp)]
 ·rw[has_put_other (kS_ne hy hx e),h y hy,decide_eq_decide]
  simp[e]
theorem Rs {k:TypeId} (hk:P.underlying k=some .string) {R:Value->Option (DataW Unit × List MemPlace)} {w:World} {b n:Nat} {D:DataW Unit} (h:w.ownsMap P k R b n D) :
 (strKeys D).Nodup∧(∀x,x∈strKeys D↔Maps.has D (.string x)=true)∧(strKeys D).length=Maps.size D:=by
 obtain⟨es,rfl,hp,_⟩:=h.entries (string_keyed hk);obtain⟨es',e',hks⟩:=h.keysOf
 cases e'
 have h1:∀p∈es,∃x,p.1=.string x:=λp h0=>by
  obtain⟨v,hv⟩:=hks p h0;obtain⟨x,_,e,_⟩:=Maps.keyOf_str hk hv;exact⟨x,e⟩
 refine⟨?_,λx=>?_,by simp[strKeys,Maps.size]⟩
 ·show (es.map λp=>strOf p.1).Nodup
  refine List.pairwise_map.2 (hp.imp_of_mem λ{p q} h0 hq' hne e=>hne ?_);obtain⟨a,ha⟩:=h1 p h0;obtain⟨b,hb⟩:=h1 q hq';rw[ha,hb] at e ⊢;exact congrArg _ e
 ·rw[has_eq,List.any_eq_true]
  show x∈es.map (λp=>strOf p.1)↔_
  rw[List.mem_map]
  constructor
  ·rintro⟨p,h0,rfl⟩
   obtain⟨a,ha⟩:=h1 p h0;exact⟨p,h0,by rw[ha];simp[Lit.sameKey,strOf]⟩
  ·rintro⟨p,h0,hs⟩
   obtain⟨a,ha⟩:=h1 p h0;rw[ha] at hs;exact⟨p,h0,by rw[ha];simpa [Lit.sameKey,strOf] using hs⟩
theorem Pe {D:DataW Unit} {T:List (LI)} (hU:∀x∈T,U8 x) (hT:HasT D T) (hn:(strKeys D).Nodup) (hm:∀x,x∈strKeys D↔Maps.has D (.string x)=true) {ss:List (List UInt8)} (hp:ss.Perm (strKeys D)) :
 (ss.mergeSort (λx y=>decide (x<=y))).map i8=Yl T:=by
 have tr:∀a b c:List UInt8,decide (a<=b)=true->decide (b<=c)=true->decide (a<=c)=true:=λa b c h1 h2=>by simp only[decide_eq_true_eq] at *;exact List.le_trans h1 h2
 have to:∀a b:List UInt8,(decide (a<=b) || decide (b<=a))=true:=λa b=>by simp only[Bool.or_eq_true,decide_eq_true_eq];exact List.le_total a b
 have pw:=List.pairwise_mergeSort (le:=λx y:List UInt8=>decide (x<=y)) tr to ss;have pp:=List.mergeSort_perm ss (λx y=>decide (x<=y));refine Xl (Be (pw.imp λ{a b} k=>?_) ((pp.trans hp).nodup_iff.2 hn)) (λx=>?_)
 ·have k':a<=b:=by simpa using k
  rw[bytesLess_eq,decide_eq_false_iff_not];exact k'
 ·rw[List.mem_map]
  constructor
  ·rintro⟨s,hs,rfl⟩
   have h1:=(hm s).1 ((pp.trans hp).mem_iff.1 hs);have h2:=hT (i8 s) (i8_u8 s);rw[show kS (i8 s)=.string s by rw[kS,b8_i8]] at h2;rw[h2] at h1;exact of_decide_eq_true h1
  ·intro hx
   refine⟨b8 x,(pp.trans hp).mem_iff.2 ((hm _).2 ?_),i8_b8 (hU x hx)⟩;rw[show (Lit.string (b8 x))=kS x from rfl,hT x (hU x hx),Qe hx]
theorem Fw (l:List (List UInt8)):l.map encStr=(l.map i8).map λx=>Value.string (strOfNums x):=by
 rw[List.map_map];refine List.map_congr_left (λs _=>?_);simp only[Function.comp];rw[yH,b8_i8]
theorem Ld {D:DataW Unit} {T:List (LI)} (hU:∀x∈T,U8 x) (hT:HasT D T) (hn:(strKeys D).Nodup) (hm:∀x,x∈strKeys D↔Maps.has D (.string x)=true) (hs:(strKeys D).length=Maps.size D):Maps.size D=(Yl T).length:=by
 rw[<-Pe hU hT hn hm (List.Perm.refl _),List.length_map,List.length_mergeSort,hs]
end
section
open Go.Maps Go.Sort Go.Shelf
def Tryz.keys126_ren:Go.Shelf.Ren:=⟨λ| 7=>126 | 10=>175 | n=>n,λ| 23=>133 | 26=>9 | 3=>3 | 28=>175 | 0=>0 | 27=>174 | 33=>222 | 4=>4 | n=>n,λ| n=>n⟩
theorem Tryz.keys126:Go.Proofs.SlLaysZ.n7 prog Tryz.keys126_ren:={
 mixed:=by kernel_rfl
 f7:=⟨Tryz.f126.name,by decide,func126.trans (congrArg some (by kernel_rfl))⟩
 f10:=⟨Tryz.f175.name,by decide,func175.trans (congrArg some (by kernel_rfl))⟩
 t0:=underlying0
 a0:=Tryz.isAgg0
 z0:=Tryz.sizeOf0
 v0:=Tryz.zeroValue0
 t4:=underlying4
 a4:=Tryz.isAgg4
 z4:=Tryz.sizeOf4
 v4:=Tryz.zeroValue4
 t23:=underlying133
 a23:=Tryz.isAgg133
 z23:=Tryz.sizeOf133
 v23:=Tryz.zeroValue133
 t26:=underlying9
 a26:=Tryz.isAgg9
 z26:=Tryz.sizeOf9
 v26:=Tryz.zeroValue9
 t27:=underlying174
 a27:=Tryz.isAgg174
 z27:=Tryz.sizeOf174
 v27:=Tryz.zeroValue174
 t28:=underlying175
 a28:=Tryz.isAgg175
 z28:=Tryz.sizeOf175
 v28:=Tryz.zeroValue175
 t33:=underlying222
 a33:=Tryz.isAgg222
 z33:=Tryz.sizeOf222
 v33:=Tryz.zeroValue222 }
def Tryz.sorted125_ren:Go.Shelf.Ren:=⟨λ| 6=>125 | 8=>173 | 9=>174 | 11=>192 | 13=>107 | 12=>193 | 23=>149 | 24=>150 | 14=>218 | 15=>219 | 16=>220 | 17=>221 | 18=>222 | 19=>223 | 20=>224 | 21=>225 | 22=>226 | 25=>243 | 26=>244 | 27=>245 | 28=>246 | 29=>247 | 30=>248 | 31=>271 | n=>n,λ| 26=>9 | 28=>175 | 24=>58 | 0=>0 | 3=>3 | 37=>57 | 48=>115 | 50=>24 | 4=>4 | 40=>264 | 39=>263 | 45=>269 | 5=>5 | 9=>9 | 51=>278 | 55=>282 | 57=>306 | 58=>296 | 33=>222 | n=>n,λ| n=>n⟩
theorem Tryz.sorted125:Go.Proofs.SlLaysZ.n6 prog Tryz.sorted125_ren:={
 mixed:=by kernel_rfl
 f6:=⟨Tryz.f125.name,by decide,func125.trans (congrArg some (by kernel_rfl))⟩
 f8:=⟨Tryz.f173.name,by decide,func173.trans (congrArg some (by kernel_rfl))⟩
 f11:=⟨Tryz.f192.name,by decide,func192.trans (congrArg some (by kernel_rfl))⟩
 t0:=underlying0
 a0:=Tryz.isAgg0
 z0:=Tryz.sizeOf0
 v0:=Tryz.zeroValue0
 t24:=underlying58
 a24:=Tryz.isAgg58
 z24:=Tryz.sizeOf58
 v24:=Tryz.zeroValue58
 t26:=underlying9
 a26:=Tryz.isAgg9
 z26:=Tryz.sizeOf9
 v26:=Tryz.zeroValue9
 t28:=underlying175
 a28:=Tryz.isAgg175
 z28:=Tryz.sizeOf175
 v28:=Tryz.zeroValue175
 i26:=by kernel_rfl }
def Tryz.sort174_ren:Go.Shelf.Ren:=⟨λ| 6=>174 | 8=>107 | 9=>193 | 19=>149 | 20=>150 | 21=>218 | 22=>219 | 23=>220 | 24=>221 | 25=>222 | 26=>223 | 27=>224 | 28=>225 | 29=>226 | 36=>243 | 31=>244 | 32=>245 | 37=>246 | 38=>247 | 39=>248 | 41=>271 | n=>n,λ| 27=>58 | 29=>9 | 3=>3 | 32=>57 | 26=>58 | 0=>0 | 44=>115 | 46=>24 | 4=>4 | 36=>264 | 35=>263 | 41=>269 | 5=>5 | 9=>9 | 53=>278 | 57=>282 | 63=>306 | 64=>296 | n=>n,λ| n=>n⟩
theorem Tryz.sort174:Go.Proofs.SlLaysM.n6 prog Tryz.sort174_ren:={
 mixed:=by kernel_rfl
 f6:=⟨Tryz.f174.name,by decide,func174.trans (congrArg some (by kernel_rfl))⟩
 f8:=func107.trans (congrArg some (by kernel_rfl))
 f9:=⟨Tryz.f193.name,by decide,func193.trans (congrArg some (by kernel_rfl))⟩
 f19:=func149.trans (congrArg some (by kernel_rfl))
 f20:=func150.trans (congrArg some (by kernel_rfl))
 f21:=⟨Tryz.f218.name,by decide,func218.trans (congrArg some (by kernel_rfl))⟩
 f22:=⟨Tryz.f219.name,by decide,func219.trans (congrArg some (by kernel_rfl))⟩
 f23:=⟨Tryz.f220.name,by decide,func220.trans (congrArg some (by kernel_rfl))⟩
 f24:=⟨Tryz.f221.name,by decide,func221.trans (congrArg some (by kernel_rfl))⟩
 f25:=⟨Tryz.f222.name,by decide,func222.trans (congrArg some (by kernel_rfl))⟩
 f26:=⟨Tryz.f223.name,by decide,func223.trans (congrArg some (by kernel_rfl))⟩
 f27:=⟨Tryz.f224.name,by decide,func224.trans (congrArg some (by kernel_rfl))⟩
 f28:=⟨Tryz.f225.name,by decide,func225.trans (congrArg some (by kernel_rfl))⟩
 f29:=⟨Tryz.f226.name,by decide,func226.trans (congrArg some (by kernel_rfl))⟩
 f31:=func244.trans (congrArg some (by kernel_rfl))
 f32:=func245.trans (congrArg some (by kernel_rfl))
 f36:=⟨Tryz.f243.name,by decide,func243.trans (congrArg some (by kernel_rfl))⟩
 f37:=⟨Tryz.f246.name,by decide,func246.trans (congrArg some (by kernel_rfl))⟩
 f38:=⟨Tryz.f247.name,by decide,func247.trans (congrArg some (by kernel_rfl))⟩
 f39:=⟨Tryz.f248.name,by decide,func248.trans (congrArg some (by kernel_rfl))⟩
 f41:=⟨Tryz.f271.name,by decide,func271.trans (congrArg some (by kernel_rfl))⟩
 t0:=underlying0
 a0:=Tryz.isAgg0
 z0:=Tryz.sizeOf0
 v0:=Tryz.zeroValue0
 t3:=underlying3
 a3:=Tryz.isAgg3
 z3:=Tryz.sizeOf3
 v3:=Tryz.zeroValue3
 t4:=underlying4
 a4:=Tryz.isAgg4
 z4:=Tryz.sizeOf4
 v4:=Tryz.zeroValue4
 t5:=underlying5
 a5:=Tryz.isAgg5
 z5:=Tryz.sizeOf5
 v5:=Tryz.zeroValue5
 t9:=underlying9
 a9:=Tryz.isAgg9
 z9:=Tryz.sizeOf9
 v9:=Tryz.zeroValue9
 t26:=underlying58
 a26:=Tryz.isAgg58
 z26:=Tryz.sizeOf58
 v26:=Tryz.zeroValue58
 t27:=underlying58
 a27:=Tryz.isAgg58
 z27:=Tryz.sizeOf58
 v27:=Tryz.zeroValue58
 t29:=underlying9
 a29:=Tryz.isAgg9
 z29:=Tryz.sizeOf9
 v29:=Tryz.zeroValue9
 t32:=underlying57
 a32:=Tryz.isAgg57
 z32:=Tryz.sizeOf57
 v32:=Tryz.zeroValue57
 t35:=underlying263
 a35:=Tryz.isAgg263
 z35:=Tryz.sizeOf263
 v35:=Tryz.zeroValue263
 t36:=underlying264
 a36:=Tryz.isAgg264
 z36:=Tryz.sizeOf264
 v36:=Tryz.zeroValue264
 t41:=underlying269
 a41:=Tryz.isAgg269
 z41:=Tryz.sizeOf269
 v41:=Tryz.zeroValue269
 t44:=underlying115
 a44:=Tryz.isAgg115
 z44:=Tryz.sizeOf115
 v44:=Tryz.zeroValue115
 t46:=underlying24
 a46:=Tryz.isAgg24
 z46:=Tryz.sizeOf24
 v46:=Tryz.zeroValue24
 t53:=underlying278
 a53:=Tryz.isAgg278
 z53:=Tryz.sizeOf278
 v53:=Tryz.zeroValue278
 t57:=underlying282
 a57:=Tryz.isAgg282
 z57:=Tryz.sizeOf282
 v57:=Tryz.zeroValue282
 t63:=underlying306
 a63:=Tryz.isAgg306
 z63:=Tryz.sizeOf306
 v63:=Tryz.zeroValue306
 t64:=underlying296
 a64:=Tryz.isAgg296
 z64:=Tryz.sizeOf296
 v64:=Tryz.zeroValue296 }
theorem Tryz.sorts125 (m:Nat):AnyZ.SortsIn prog Tryz.sorted125_ren Fence.wide m :=
 ⟨λblk off cap ss W hH hblk hsz=>callsIn_wide.2 (AnyM.slices_Sort_string Tryz.sort174 blk off cap ss W hH hblk hsz),
 λp cap W=>callsIn_wide.2 (AnyM.slices_Sort_string_none Tryz.sort174 p cap W)⟩
theorem Tryz.maps_Keys_126 (mb:Option Nat) (W:World):CallsIn Fence.wide 5 prog 126 #[.map mb] W λe w'=>e=.returned (.func (.func 175) #[] #[.pointer (some ⟨W.heap.size,0,none⟩)])∧w'=W.alloc (.cells #[.map mb] 133) :=
 AnyZ.keys_in Tryz.keys126 Fence.wide 5 trivial rfl mb W
theorem Tryz.slices_Sorted_keys_125_126 {H:Type} (b nn:Nat) (D0:DataW H) (R:Value->Option (DataW H × List MemPlace)) (w:World) (hown:w.ownsMap prog 9 R b nn D0) (hmax:Maps.size D0<=maxLen) (hbytes:Maps.size D0*16<=140737488355328) :
 CallsIn Fence.wide 5 prog 125 #[.func (.func 175) #[] #[.pointer (some ⟨w.heap.size,0,none⟩)]] (w.alloc (.cells #[.map (some b)] 133)) λe w'=>∃(v:Value) (ss:List (List UInt8)),e=.returned v∧ss.Perm (strKeys D0) ∧
  w'.ownsRow (w.alloc (.cells #[.map (some b)] 133)).heap.size 9 1 v ss.length ((ss.mergeSort (λx y=>decide (x<=y))).map encStr)∧(v=.slice none 0 0↔ss=[])∧Below (w.alloc (.cells #[.map (some b)] 133)).heap.size (w.alloc (.cells #[.map (some b)] 133)) w':=by
 have hbl:=hown.lt
 have h1:SeqGives Fence.wide 2 prog 175 #[.pointer (some ⟨w.heap.size,0,none⟩)] encStr (λss=>ss.Perm (strKeys D0)) (Maps.size D0) (w.alloc (.cells #[.map (some b)] 133)) :=
  AnyZ.keys_gives (ρ:=Tryz.keys126_ren) { Tryz.keys126 with } Fence.wide _ trivial rfl (by omega) w.heap.size b nn D0 _ (by simp) (by simp) (by
   obtain⟨es,h0,hb,Ft,hs,hD⟩:=hown
   exact⟨es,h0,(Below.heap_alloc _ _ b hbl).trans hb,Ft,hs,hD⟩)
 exact AnyZ.sorted_in Tryz.sorted125 Fence.wide 5 trivial trivial trivial trivial rfl (by omega) (Tryz.sorts125 _) (enters_of func174 (by kernel_rfl) rfl) 175 #[.pointer (some ⟨w.heap.size,0,none⟩)] trivial (enters_of func175 (by kernel_rfl) rfl) _ _ hmax hbytes _ h1
theorem Mo (b:Nat) (w:World):Calls prog 126 #[.map (some b)] w λe w'=>e=.returned (.func (.func 175) #[] #[.pointer (some ⟨w.heap.size,0,none⟩)])∧w'=w.alloc (.cells #[.map (some b)] 133) :=
 callsIn_wide.1 (Tryz.maps_Keys_126 (some b) w)
theorem FL {H:Type} (b nn:Nat) (D0:DataW H) (R:Value->Option (DataW H × List MemPlace)) (w:World) (hown:w.ownsMap prog 9 R b nn D0) (hmax:Maps.size D0<=maxLen) (hbytes:Maps.size D0*16<=140737488355328) :
 Calls prog 125 #[.func (.func 175) #[] #[.pointer (some ⟨w.heap.size,0,none⟩)]] (w.alloc (.cells #[.map (some b)] 133)) λe w'=>∃(v:Value) (ss:List (List UInt8)),e=.returned v∧ss.Perm (strKeys D0) ∧
  w'.ownsRow (w.alloc (.cells #[.map (some b)] 133)).heap.size 9 1 v ss.length ((ss.mergeSort (λx y=>decide (x<=y))).map encStr)∧(v=.slice none 0 0↔ss=[])∧Below (w.alloc (.cells #[.map (some b)] 133)).heap.size (w.alloc (.cells #[.map (some b)] 133)) w' :=
 callsIn_wide.1 (Tryz.slices_Sorted_keys_125_126 b nn D0 R w hown hmax hbytes)
end
end Go.Proofs.YtoflhbghdlaeaaaGreatDoor
