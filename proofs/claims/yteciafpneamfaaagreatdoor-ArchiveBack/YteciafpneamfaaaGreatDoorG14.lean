import Derived.Test.YteciafpneamfaaaGreatDoorG13
import Derived.Shelf.SlIter.Nil
import Derived.Shelf.SortM.Plain
import Derived.Shelf.SortM.SortNone
namespace Go.Proofs.YteciafpneamfaaaGreatDoor
set_option maxHeartbeats 2000000
set_option maxRecDepth 100000
open Go.RowKit _root_.Go.Proofs.Tryz
variable {w w' W:World} {v:Value} {ys xs l:LI} {R n p k g B:Nat} {P:Program} {ls:List (LI)} {E:TypeId}
def okB (k:Int):Bool:=decide (0<=k∧k<=8)
theorem ql (k:Int):decide (0<Q9 k)=okB k:=by
 unfold Q9 okB
 by_cases h:0<=k∧k<=8
 ·rw[if_pos h,Qc h]
  have:∀n:Nat,n<9->0<Qx n:=by decide
  have:=this k.toNat (by omega);simp;omega
 ·rw[if_neg h,Qh h];rfl
theorem Mg (k:Int) (w:World):Calls prog 92 #[.int .i64 k] w λe w'=>e=.returned (.bool (okB k))∧N0 w w':=by
 have A:=Qa (Je k w);rw[<-ql k];generalize Q9 k=z at *;go_enter func92,ntmps92;go_wp2_with fail;refine A.o.mono ?_;rintro e w1 ⟨rfl,o1⟩;have O:=Qa o1;clear A o1;go_wp2;go_ret;exact⟨rfl,O.o⟩
theorem Cg (t:ByteArray) (k:Int) (w:World):Calls prog 56 #[.agg #[.string t,.int .i64 k]] w λe w'=>e=.returned (.bool (!okB k))∧N0 w w':=by
 have A:=Qa (Mg k);generalize okB k=z at *;go_enter func56,ntmps56;go_wp2_with fail;refine (A.o _).mono ?_;rintro e w1 ⟨rfl,o1⟩;have O:=Qa (Only.same ((Only.refl _ w).alloc _) o1);clear A o1;go_wp2;go_ret;exact⟨rfl,O.o⟩
theorem ug (t:ByteArray) (k:Int) (w:World):Calls prog 57 #[.agg #[.string t,.int .i64 k]] w λe w'=>e=.returned (.bool (decide (64<t.size)))∧N0 w w':=by
 have O:Hid (∀o,N0 w (w.alloc o)):=λo=>(Only.refl _ w).alloc o
 have e1:decide (64<t.size)=decide ((64:Int)<(t.size:Int)):=by simp only[decide_eq_decide];omega
 rw[e1];clear e1;go_enter func57,ntmps57;go_wp2;go_ret;exact⟨rfl,O.o _⟩
theorem Tp {α:Type} {s:List α} {p:α->Bool} {d:α} (h:∀j,j<s.length->p (s.getD j d)=false):s.any p=false:=by
 rw[List.any_eq_false];intro x hx;obtain⟨j,hj,rfl⟩:=List.getElem_of_mem hx;have:=h j hj;rw[Qd,Qi hj] at this
 simpa using this
theorem Uk {α:Type} {s:List α} {d:α} (h:k<s.length):s.getD k d∈s:=by
 rw[Qd,Qi h];exact List.getElem_mem h
theorem xo (v:Value) (s:List (LI × Int)) (w:World) (h:Ens w v s) (hl:s.length<=9223372036854775806) :
 Calls prog 91 #[v,.func (.func 56) #[] #[]] w λe w'=>(∃i:Int,e=.returned (.int .i64 i)∧decide (0<=i)=s.any (λe:LI × Int=>!okB e.2))∧N0 w w':=by
 obtain⟨ao,cap,rfl⟩:=h.len;have HB:=Qa h
 have HG:Hid (∀e∈s,∀W,Calls prog 56 #[.agg #[.string (strOfNums e.1),.int .i64 e.2]] W λr W'=>r=.returned (.bool ((λe:LI × Int=>!okB e.2) e))∧N0 W W'):=by
  intro e he W;exact Cg _ _ W
 obtain⟨m,hm⟩:=EX s.length;rw[<-hm] at HB hl;rw[<-hm];have HM:=Qa hm;have R0:=Qa (Only.refl (λ_=>False) w);clear h hm;generalize (λe:LI × Int=>!okB e.2)=p at *;go_enter func91,ntmps91;go_wp2
 go_loopw [8] (λi wr=>∃k:Nat,k<=m∧i=.int .i64 k∧(∀j,j<k->p (s.getD j ([],0))=false)∧N0 w wr) (λi _=>m - (intOf i).toNat)
 case atStart=>exact⟨0,Nat.zero_le _,rfl,λj hj=>by omega,R0.o⟩
 case round =>
  clear R0;obtain⟨k,hk,rfl,h2,ho⟩:=hrel;have HN:=Qa h2;have HO:=Qa ho;clear h2 ho
  by_cases hlt:k<m
  ·obtain⟨b,off,cap',e,hc0,hc1⟩:=(HB.o.past HO.o).at k (by rw[<-HM.o];exact hlt)
   simp only[Value.slice.injEq] at e;obtain⟨rfl,hmx,rfl⟩:=e;clear hmx;have h0:s.getD k ([],0)∈s:=Uk (by rw[<-HM.o];exact hlt);have C:=Qa (HG.o _ h0 wr);obtain⟨x,hx⟩:=EX (s.getD k ([],0));have HX:=Qa hx;rw[<-hx] at C hc0 hc1 h0
   have i1:(k:Int)<(m:Int):=by omega
   have HM2:=Qa h0;clear hx h0
   cases hp:p x with
   | true =>
    rw[hp] at C;go_wp2_with fail;refine C.o.mono ?_;rintro e w1 ⟨rfl,o1⟩;have O1:=Qa (HO.o.same o1);clear C o1 HB HG;go_wp2;go_ret;exact⟨⟨_,rfl,by rw[Qc (by omega:(0:Int)<=(k:Int))];exact (List.any_eq_true.2 ⟨x,HM2.o,hp⟩).symm⟩,O1.o⟩
   | false =>
    rw[hp] at C;go_wp2_with fail;refine C.o.mono ?_;rintro e w1 ⟨rfl,o1⟩;have O1:=Qa (HO.o.same o1);clear C o1;go_wp2
    go_roundw
    case rel =>
     refine⟨k+1,by omega,by go_num,λj hj=>?_,O1.o⟩
     rcases Nat.lt_succ_iff_lt_or_eq.1 hj with h1 | rfl
     ·exact HN.o j h1
     ·rw[<-HX.o];exact hp
    case measure=>simp[intOf];omega
  ·obtain rfl:k=m:=by omega
   have HA:=Qa (Tp (p:=p) (s:=s) (d:=([],0)) (λj hj=>HN.o j (by rw[HM.o];exact hj)));clear HB HG HN;go_wp2;go_ret;exact⟨⟨_,rfl,by rw[HA.o];rfl⟩,HO.o⟩
theorem Sa (v:Value) (s:List (LI × Int)) (w:World) (h:Ens w v s) (hl:s.length<=9223372036854775806) :
 Calls prog 55 #[v,.func (.func 56) #[] #[]] w λe w'=>e=.returned (.bool (s.any (λe:LI × Int=>!okB e.2)))∧N0 w w':=by
 have A:=Qa (xo v s w h hl);generalize s.any (λe:LI × Int=>!okB e.2)=z at *;clear h hl;go_enter func55,ntmps55;go_wp2_with fail;refine A.o.mono ?_;rintro e w1 ⟨⟨i,rfl,hi⟩,o1⟩;have O:=Qa o1;have HI:=Qa hi;clear A o1 hi;go_wp2;go_ret;exact⟨by rw[<-HI.o];rfl,O.o⟩
theorem qG (v:Value) (s:List (LI × Int)) (w:World) (h:Ens w v s) (hl:s.length<=9223372036854775806) (hu:VU s) :
 Calls prog 91 #[v,.func (.func 57) #[] #[]] w λe w'=>(∃i:Int,e=.returned (.int .i64 i)∧decide (0<=i)=s.any (λe:LI × Int=>decide (64<e.1.length)))∧N0 w w':=by
 obtain⟨ao,cap,rfl⟩:=h.len;have HB:=Qa h
 have HG:Hid (∀e∈s,∀W,Calls prog 57 #[.agg #[.string (strOfNums e.1),.int .i64 e.2]] W λr W'=>r=.returned (.bool ((λe:LI × Int=>decide (64<e.1.length)) e))∧N0 W W'):=by
  intro e he W;refine (ug _ _ W).mono ?_;rintro r W' ⟨rfl,o⟩;refine⟨?_,o⟩
  have e1:(strOfNums e.1).size=e.1.length:=by rw[<-QS,sb_of (hu e he)]
  rw[e1]
 obtain⟨m,hm⟩:=EX s.length;rw[<-hm] at HB hl;rw[<-hm];have HM:=Qa hm;have R0:=Qa (Only.refl (λ_=>False) w);clear h hm hu;generalize (λe:LI × Int=>decide (64<e.1.length))=p at *;go_enter func91,ntmps91;go_wp2
 go_loopw [8] (λi wr=>∃k:Nat,k<=m∧i=.int .i64 k∧(∀j,j<k->p (s.getD j ([],0))=false)∧N0 w wr) (λi _=>m - (intOf i).toNat)
 case atStart=>exact⟨0,Nat.zero_le _,rfl,λj hj=>by omega,R0.o⟩
 case round =>
  clear R0;obtain⟨k,hk,rfl,h2,ho⟩:=hrel;have HN:=Qa h2;have HO:=Qa ho;clear h2 ho
  by_cases hlt:k<m
  ·obtain⟨b,off,cap',e,hc0,hc1⟩:=(HB.o.past HO.o).at k (by rw[<-HM.o];exact hlt)
   simp only[Value.slice.injEq] at e;obtain⟨rfl,hmx,rfl⟩:=e;clear hmx;have h0:s.getD k ([],0)∈s:=Uk (by rw[<-HM.o];exact hlt);have C:=Qa (HG.o _ h0 wr);obtain⟨x,hx⟩:=EX (s.getD k ([],0));have HX:=Qa hx;rw[<-hx] at C hc0 hc1 h0
   have i1:(k:Int)<(m:Int):=by omega
   have HM2:=Qa h0;clear hx h0
   cases hp:p x with
   | true =>
    rw[hp] at C;go_wp2_with fail;refine C.o.mono ?_;rintro e w1 ⟨rfl,o1⟩;have O1:=Qa (HO.o.same o1);clear C o1 HB HG;go_wp2;go_ret;exact⟨⟨_,rfl,by rw[Qc (by omega:(0:Int)<=(k:Int))];exact (List.any_eq_true.2 ⟨x,HM2.o,hp⟩).symm⟩,O1.o⟩
   | false =>
    rw[hp] at C;go_wp2_with fail;refine C.o.mono ?_;rintro e w1 ⟨rfl,o1⟩;have O1:=Qa (HO.o.same o1);clear C o1;go_wp2
    go_roundw
    case rel =>
     refine⟨k+1,by omega,by go_num,λj hj=>?_,O1.o⟩
     rcases Nat.lt_succ_iff_lt_or_eq.1 hj with h1 | rfl
     ·exact HN.o j h1
     ·rw[<-HX.o];exact hp
    case measure=>simp[intOf];omega
  ·obtain rfl:k=m:=by omega
   have HA:=Qa (Tp (p:=p) (s:=s) (d:=([],0)) (λj hj=>HN.o j (by rw[HM.o];exact hj)));clear HB HG HN;go_wp2;go_ret;exact⟨⟨_,rfl,by rw[HA.o];rfl⟩,HO.o⟩
theorem Ag (v:Value) (s:List (LI × Int)) (w:World) (h:Ens w v s) (hl:s.length<=9223372036854775806) (hu:VU s) :
 Calls prog 55 #[v,.func (.func 57) #[] #[]] w λe w'=>e=.returned (.bool (s.any (λe:LI × Int=>decide (64<e.1.length))))∧N0 w w':=by
 have A:=Qa (qG v s w h hl hu);generalize s.any (λe:LI × Int=>decide (64<e.1.length))=z at *;clear h hl hu;go_enter func55,ntmps55;go_wp2_with fail;refine A.o.mono ?_;rintro e w1 ⟨⟨i,rfl,hi⟩,o1⟩;have O:=Qa o1;have HI:=Qa hi;clear A o1 hi;go_wp2;go_ret;exact⟨by rw[<-HI.o];rfl,O.o⟩
def pre {α:Type} (p:List α) (r:Except Int (List α × LI)):Except Int (List α × LI):=match r with
 | .error e=>.error e
 | .ok (l,t)=>.ok (p++l,t)
theorem L7 {α:Type} (r:Except Int (List α × LI)):pre [] r=r:=by cases r <;> rfl
theorem PF {α:Type} (p q:List α) (r:Except Int (List α × LI)):pre p (pre q r)=pre (p++q) r:=by
 cases r with
 | error e=>rfl
 | ok x=>simp[pre]
theorem MY {σ α:Type} {r:σ->QC α} {nx:σ->α->σ} {s:σ} {e:Int} (h:r s ys=.error e):rdRep r nx (n+1) s ys=.error e:=by
 simp only[rdRep,h]
theorem Di {σ α:Type} {r:σ->QC α} {nx:σ->α->σ} {s:σ} {ys t:LI} {x:α} (h:r s ys=.ok (x,t)):rdRep r nx (n+1) s ys=pre [x] (rdRep r nx n (nx s x) t):=by
 simp only[rdRep,h]
 cases rdRep r nx n (nx s x) t with
 | error e=>rfl
 | ok y=>rfl
theorem yy {c:Int} (h:Qp n ys=([],0,c)) (hc:c≠0):rdK n ys=.error c:=by unfold rdK;rw[h,if_neg hc]
theorem xP {ys b:LI} (h:Qp n ys=(b,k,0)):rdK n ys=.ok (b,ys.drop k):=by unfold rdK;rw[h,if_pos rfl]
theorem Eh {T:List (LI)} {x:LI} (h:0<T.length):Uh T x=lexB (T.getD (T.length - 1) []) x:=by
 unfold Uh;rw[List.getLast?_eq_getElem?,Qi (by omega),Qd,Qi (by omega)]
 rfl
theorem vR {x y:LI} (hx:U8 x) (hy:U8 y):Op.bytesLess (strOfNums x).toList (strOfNums y).toList=lexB x y:=by rw[yP,sb_of hx,sb_of hy]
theorem N9 (s:ByteArray):∀u∈[Value.string s],u.oneCell'=true:=by intro u hu;rw[List.mem_singleton] at hu;subst hu;rfl
theorem Tryz.infoStr:(prog.info? 9).map (λi=>(i.zero,i.size,i.bytes))=some (some (.string ⟨#[]⟩),1,16):=by kernel_rfl
structure TRd (w wr:World) (R:Nat) (v u:Value) (D:Except Int (List (LI) × LI)) (n k:Nat) (T:List (LI)) (ys:LI) (v2:Value):Prop where
 len:T.length=k
 all:∀x∈T,U8 x∧x.length<=64
 eq:D=pre T (rdTns (n - k) T ys)
 cur:CurAt 112 wr R v2 ys
 ob:v2.ownBlock=v.ownBlock
 row:wr.ownsRow w.heap.size 9 1 u k (U1 T)
 on:Only (λj=>j=R) w wr
theorem TRd.err {w wr:World} {v u:Value} {D:Except Int (List (LI) × LI)} {T:List (LI)} {v2:Value} (h:TRd w wr R v u D n k T ys v2) (hk:k<n) {c:Int} (hc:rdTn T ys=.error c):D=.error c:=by
 rw[h.eq,show n - k=(n - k - 1)+1 by omega,rdTns,MY hc]
 rfl
theorem TRd.go {w wr:World} {v u:Value} {D:Except Int (List (LI) × LI)} {T:List (LI)} {v2:Value} (h:TRd w wr R v u D n k T ys v2) (hk:k<n) {x t:LI} (hc:rdTn T ys=.ok (x,t)):D=pre (T++[x]) (rdTns (n - (k+1)) (T++[x]) t):=by
 rw[h.eq,show n - k=(n - (k+1))+1 by omega,rdTns,Di hc,PF]
 rfl
theorem vO (h:CurAt 112 w R v ys) (hR:R<w.heap.size) (hvb:∀j,v.ownBlock=some j->j<w.heap.size) :
 Calls prog 140 #[.pointer (some ⟨R,0,none⟩)] w (Zb w R v (rdDir ys) λd e w'=>∃u,e=.returned u∧w'.ownsRow w.heap.size 9 1 u d.2.length (U1 d.2)∧d.2.length<=1048576∧∀x∈d.2,U8 x∧x.length<=64):=by
 obtain⟨i0,hi,ha,hp,hb⟩:=info_parts Tryz.infoStr;have A:=Qa (Lt h);have HV:=Qa hvb
 obtain⟨K,hK⟩:=EX (Zb w R v (rdDir ys) λd e w'=>∃u,e=.returned u∧w'.ownsRow w.heap.size 9 1 u d.2.length (U1 d.2)∧d.2.length<=1048576∧∀x∈d.2,U8 x∧x.length<=64)
 rw[<-hK];have HK:=Qa hK;clear h hvb hK;go_enter func140,ntmps140;go_wp2_with fail;refine A.o.mono ?_;rintro e w0 ⟨o0,⟨c,h4,hr,rfl⟩ | ⟨n,h9,hr,⟨rfl,hn⟩,v0,c0,hh⟩⟩
 ·have HF:=Qa (And.intro o0 (Wc (r2:=λn=>rdTns n []) hr))
  clear o0 A hr;unfold mpan;go_wp2;refine⟨rfl,?_⟩;rw[HK.o];exact⟨HF.o.1,.inl ⟨c,h4,HF.o.2,rfl⟩⟩
 ·have h2:=Qa hr
  obtain⟨D,hD⟩:=EX (rdTns n [] h9);have HD:=Qa hD;have F0:Hid (TRd w w0 R v (.slice none 0 0) D n 0 [] h9 v0):=⟨rfl,by simp,by rw[L7,hD];rfl,c0,hh,World.ownsRow_nil _ _ _ _,o0⟩;clear o0 A hr c0 hh hD;go_wp2
  go_loopw [3,8] (λu i wr=>∃k:Nat,k<=n∧i=.int .i64 k∧∃T zs v2,TRd w wr R v u D n k T zs v2) (λ_ i _=>n - (intOf i).toNat)
  case atStart=>exact⟨0,Nat.zero_le _,rfl,_,_,_,F0.o⟩
  case round =>
   clear F0;obtain⟨k,hk,rfl,T,zs,v2,ht⟩:=hrel;have HT:=Qa ht
   by_cases hlt:k<n
   ·have i1:(k:Int)<(n:Int):=by omega
    have B:=Qa (Zf ht.cur 64 (by decide));have h3:=ht.cur.rng;clear ht
    rcases Ze (n:=64) h3 (by decide) (by decide) with ⟨c,hs,hc⟩ | ⟨x,q,hs,hxl,_,_,hsplit,_⟩
    ·have h4:c≠0:=by omega
     have HE:=Qa (HT.o.err hlt (KM (yy (n:=64) hs h4)));rw[hs] at B;clear hs hc h3;go_wp2_with fail;refine B.o.mono ?_;rintro e w1 ⟨v1,rfl,_,_,_,v3,_,_,o1⟩;have O1:=Qa (HT.o.on.trans o1 (λi _ e=>e));clear B o1;go_wp2_with fail;refine (XC v1 c w1 h4).mono ?_;rintro e w' ⟨rfl,rfl⟩;unfold mpan;go_wp2;refine⟨rfl,?_⟩;rw[HK.o];exact⟨O1.o,.inl ⟨c,h4,Yp h2.o (HD.o.symm.trans HE.o),rfl⟩⟩
    ·rw[hs] at B
     have hx8:U8 x:=λy hy=>h3 y (by rw[hsplit];unfold blk;simp[hy])
     have hm:=Qa hx8;have he:=Qa (xP (n:=64) hs);clear hs h3 hsplit;go_wp2_with fail;refine B.o.mono ?_;rintro e w1 ⟨v1,rfl,b1,_,_,v3,c3,hl,o1⟩;have hcv:=V8 w1 v1 x b1;have O1:=Qa (HT.o.on.trans o1 (λi _ e=>e));have h0:=o1.own HT.o.row (λj hj e=>by have:=(HT.o.row.lt j hj).1;omega);have CC:=Qa (And.intro c3 (hl.trans HT.o.ob));have hsz1:=O1.o.size;clear B o1 b1 c3 hl;go_wp2_with fail;refine (XF v1 w1).mono ?_;rintro e w' ⟨rfl,rfl⟩;have h8:=HT.o.len;obtain⟨P,hP⟩:=EX (Uh T x)
     have h6:P=false->Hid (K (.panicked [{ v:=.iface 29 (.int .i64 3),recovered:=false }]) w1):=λhf=>by
      simp only[Hid];rw[HK.o];exact⟨O1.o,.inl ⟨3,by decide,Yp h2.o (HD.o.symm.trans (HT.o.err hlt (Vs he.o (by rw[<-hP];exact hf)))),rfl⟩⟩
     have h5:P=true->Hid (∀u' w',w'.ownsRow w.heap.size 9 1 u' (k+1) (U1 T++[.string (strOfNums x)])->(w1.alloc (.cells #[.string (strOfNums x)] 9)).grownBy w' u3.ownBlock->TRd w w' R v u' D n (k+1) (T++[x]) (zs.drop q) v3):=λhf=>by
      intro u' w' hrow hg;have og:Only (λj=>u3.ownBlock=some j) w1 w':=((Only.refl _ w1).alloc _).grown hg (λj _ e=>e);refine⟨by simp[h8],λy hy=>?_,HT.o.go hlt (WJ he.o (by rw[<-hP];exact hf)),CC.o.1.keep og (λe=>by have:=(h0.lt R e).1;omega) (λj hj e=>?_),CC.o.2,by rw[U1,List.map_append];exact hrow,O1.o.trans og (λi hi e=>by have:=(h0.lt i e).1;omega)⟩
      ·rcases List.mem_append.1 hy with h1 | h1
       ·exact HT.o.all y h1
       ·rw[List.mem_singleton] at h1;subst h1;exact⟨hm.o,by omega⟩
      ·rw[CC.o.2] at hj
       have:=HV.o j hj;have:=(h0.lt j e).1;omega
     by_cases hk0:k=0
     ·subst hk0
      have hd:T=[]:=List.eq_nil_of_length_eq_zero h8;have NX:=h5 (by rw[hP,hd];rfl);clear h6 h5 hP hd CC HT
      go_wp2_with (first
       | (go_at_call 137;refine (Ul 3 w1).mono ?_;rintro e w' ⟨rfl,rfl⟩)
       | (at_builtin;refine wpList_append_own _ rfl _ _ 99 rfl w.heap.size 9 i0 (.string ⟨#[]⟩) 1 16 underlying99 hi ha hp hb rfl (by decide) _ 0 _ rfl (h0.alloc _) ⟨w1.heap.size,0,none⟩ 1 1 [.string (strOfNums x)] rfl rfl (cell_one_new _ _ _) (N9 _) (by unfold maxLen;omega) (by omega) (by simp;omega) ?_;intro v' w2 hown' hgrow2 _)
       | fail)
      go_roundw
      case rel=>exact⟨1,by omega,by go_num,_,_,_,NX.o _ _ hown' hgrow2⟩
      case measure=>simp[intOf];omega
     ·have d0:((k:Int) == 0)=false:=by rw[beq_eq_false_iff_ne];omega
      have h7:T.length=k:=h8;obtain⟨b,off,cap,eu,hcl⟩:=(Sts.of_own (w:=w1) (v:=u3) (T:=T) (by rw[h7];exact h0)).at (k - 1) (by omega);rw[h7] at eu
      have ho:Op.bytesLess (strOfNums (T.getD (k - 1) [])).toList (strOfNums x).toList=P:=by
       rw[vR (HT.o.all _ (Uk (by omega))).1 hm.o,hP,Eh (by omega),h7]
      generalize T.getD (k - 1) []=y at *;subst eu
      have hw1:IntKind.i64.wrap ((k:Int) - 1)=((k - 1:Nat):Int):=by rw[IntKind.wrap_i64];omega
      have q0:(0:Int)<=((k - 1:Nat):Int):=by omega
      have q1:((k - 1:Nat):Int)<(k:Int):=by omega
      cases hPP:P with
      | false =>
       have FN:=h6 hPP;rw[hPP] at ho;clear h6 h5 CC HT
       go_wp2_with (first
        | (go_at_call 137;refine (Uz 3 w1).mono ?_;rintro e w' ⟨rfl,rfl⟩;unfold mpan)
        | fail)
       exact⟨rfl,FN.o⟩
      | true =>
       have NX:=h5 hPP;rw[hPP] at ho;clear h6 h5 CC HT
       go_wp2_with (first
        | (go_at_call 137;refine (Ul 3 w1).mono ?_;rintro e w' ⟨rfl,rfl⟩)
        | (at_builtin;refine wpList_append_own _ rfl _ _ 99 rfl w.heap.size 9 i0 (.string ⟨#[]⟩) 1 16 underlying99 hi ha hp hb rfl (by decide) _ k _ rfl (h0.alloc _) ⟨w1.heap.size,0,none⟩ 1 1 [.string (strOfNums x)] rfl rfl (cell_one_new _ _ _) (N9 _) (by unfold maxLen;omega) (by omega) (by simp;omega) ?_;intro v' w2 hown' hgrow2 _)
        | fail)
       go_roundw
       case rel=>exact⟨k+1,by omega,by go_num,_,_,_,NX.o _ _ hown' hgrow2⟩
       case measure=>simp[intOf];omega
   ·obtain rfl:k=n:=by omega
    have hKK:=HK.o;clear ht HK;subst hKK;go_wp2;go_ret
    have e1:D=.ok (T,zs):=by
     rw[HT.o.eq,Nat.sub_self];simp[rdTns,rdRep,pre]
    refine⟨HT.o.on,.inr ⟨(k,T),zs,Wu h2.o (HD.o.symm.trans e1),⟨_,rfl,?_,?_,HT.o.all⟩,v2,HT.o.cur,HT.o.ob⟩⟩
    ·have:=HT.o.row
     rw[<-HT.o.len] at this;exact this
    ·have:=HT.o.len
     simp only;omega
theorem zx:rdB 1 []=.error 2:=rfl
theorem Me (y:Int) (t:LI):rdB 1 (y :: t)=.ok ([y],t):=by simp[rdB]
theorem pm {L:Nat} {c:Int} (h:Qe ys=(0,0,c)) (hc:c≠0):rdEn L ys=.error c:=Wc (KM (SJ h hc))
theorem wW {L:Nat} {a k:Nat} (h:Qe ys=((a:Int),k,0)) (ha:L<=a):rdEn L ys=.error 3:=Wc (Vs (KP h) (Qh (by omega)))
theorem Ei {L:Nat} {a k:Nat} (h:Qe ys=((a:Int),k,0)) (ha:a<L) (hd:ys.drop k=[]):rdEn L ys=.error 2:=by
 have h1:=KP h;rw[hd] at h1;exact Yp (WJ h1 (Qc ha)) (KM zx)
theorem za {L:Nat} {ys t:LI} {a k:Nat} {y:Int} (h:Qe ys=((a:Int),k,0)) (ha:a<L) (hd:ys.drop k=y :: t) (hy:8<y):rdEn L ys=.error 3:=by
 have h1:=KP h;rw[hd] at h1;exact Yp (WJ h1 (Qc ha)) (Vs (Me y t) (Qh (by simp;omega)))
theorem en_ok {L:Nat} {ys t:LI} {a k:Nat} {y:Int} (h:Qe ys=((a:Int),k,0)) (ha:a<L) (hd:ys.drop k=y :: t) (hy:y<=8):rdEn L ys=.ok ((a,[y]),t):=by
 have h1:=KP h;rw[hd] at h1;exact Wu (WJ h1 (Qc ha)) (WJ (Me y t) (Qc (by simpa using hy)))
theorem vJ:sByte []=(0,0,2):=rfl
theorem zp (y:Int) (t:LI):sByte (y :: t)=(y,1,0):=rfl
def Yt (T:List (LI)) (t:Nat × LI):LI × Int:=(T.getD t.1 [],t.2.getD 0 0)
theorem Tryz.infoEn:(prog.info? 68).map (λi=>(i.zero,i.size,i.bytes))=some (some (.agg #[.string ⟨#[]⟩,.int .i64 0]),2,24):=by kernel_rfl
theorem xr (w:World) (x y:Value) (t:TypeId):∀j u,[x,y][j]? = some u->(w.alloc (.cells #[x,y] t)).cell? ((⟨w.heap.size,0,none⟩:Addr).add j)=some u:=by
 intro j u h;have hb:=heap_alloc_new w (.cells #[x,y] t);rw[Go.WideShapes.add_plain,Nat.zero_add,<-h];unfold World.cell?;simp only;rw[hb]
 match j with
 | 0=>rfl
 | 1=>rfl
 | j+2=>simp
theorem CX (s:ByteArray) (y:Int):∀u∈[Value.string s,.int .i64 y],u.oneCell'=true:=by
 intro u hu;simp only[List.mem_cons,List.not_mem_nil,or_false] at hu
 rcases hu with rfl | rfl <;> rfl
structure ERd (w wr:World) (R:Nat) (v u:Value) (D:Except Int (List (Nat × LI) × LI)) (T:List (LI)) (n k:Nat) (ts:List (Nat × LI)) (ys:LI) (v2:Value):Prop where
 len:ts.length=k
 all:∀t∈ts,t.1<T.length
 eq:D=pre ts (rdEns T.length (n - k) ys)
 cur:CurAt 112 wr R v2 ys
 ob:v2.ownBlock=v.ownBlock
 row:wr.ownsRow w.heap.size 68 2 u k (YE (ts.map (Yt T)))
 on:Only (λj=>j=R) w wr
theorem ERd.err {w wr:World} {v u:Value} {D:Except Int (List (Nat × LI) × LI)} {T:List (LI)} {ts:List (Nat × LI)} {v2:Value} (h:ERd w wr R v u D T n k ts ys v2) (hk:k<n) {c:Int} (hc:rdEn T.length ys=.error c):D=.error c:=by
 rw[h.eq,show n - k=(n - k - 1)+1 by omega,rdEns,MY (r:=λ_:Unit=>rdEn T.length) (s:=()) hc]
 rfl
theorem ERd.go {w wr:World} {v u:Value} {D:Except Int (List (Nat × LI) × LI)} {T:List (LI)} {ts:List (Nat × LI)} {v2:Value} (h:ERd w wr R v u D T n k ts ys v2) (hk:k<n) {x:Nat × LI} {t:LI} (hc:rdEn T.length ys=.ok (x,t)):D=pre (ts++[x]) (rdEns T.length (n - (k+1)) t):=by
 rw[h.eq,show n - k=(n - (k+1))+1 by omega,rdEns,Di (r:=λ_:Unit=>rdEn T.length) (s:=()) hc,PF]
 rfl
theorem Ey {v vt:Value} {T:List (LI)} (h:CurAt 112 w R v ys) (hR:R<w.heap.size) (hvb:∀j,v.ownBlock=some j->j<w.heap.size) (hst:Sts w vt T) (hvt:∀j,vt.ownBlock=some j->j≠R) (hTl:T.length<=1048576) :
 Calls prog 141 #[.pointer (some ⟨R,0,none⟩),vt] w (Zb w R v (rdAll T.length ys) λd e w'=>∃u,e=.returned u∧w'.ownsRow w.heap.size 68 2 u d.2.length (YE (d.2.map (Yt T)))∧d.2.length<=1048576∧∀t∈d.2,t.1<T.length):=by
 obtain⟨i0,hi,hz0,hz1,hz2⟩:=info_parts Tryz.infoEn;have A:=Qa (Lt h);have HV:=Qa hvb;have h6:=Qa hvt;have hf:=Qa hst;obtain⟨at1,ct1,et1⟩:=hst.len;subst et1
 obtain⟨K,hK⟩:=EX (Zb w R v (rdAll T.length ys) λd e w'=>∃u,e=.returned u∧w'.ownsRow w.heap.size 68 2 u d.2.length (YE (d.2.map (Yt T)))∧d.2.length<=1048576∧∀t∈d.2,t.1<T.length)
 rw[<-hK];have HK:=Qa hK;obtain⟨L,hL⟩:=EX T.length;have HL:=Qa hL;rw[<-hL] at hf h6 hTl;rw[<-hL]
 have hwL:IntKind.u64.wrap (L:Int)=L:=by rw[IntKind.wrap_u64];omega
 clear h hvb hK hst hvt hL;go_enter func141,ntmps141;go_wp2_with fail;refine A.o.mono ?_;rintro e w0 ⟨o0,⟨c,h5,hr,rfl⟩ | ⟨n,h8,hr,⟨rfl,hn⟩,v0,c0,hb⟩⟩
 ·have HF:=Qa (And.intro o0 (Wc (r2:=λn=>rdEns T.length n) hr))
  clear o0 A hr;unfold mpan;go_wp2;refine⟨rfl,?_⟩;rw[HK.o];exact⟨HF.o.1,.inl ⟨c,h5,HF.o.2,rfl⟩⟩
 ·have h3:=Qa hr
  obtain⟨D,hD⟩:=EX (rdEns T.length n h8);have HD:=Qa hD;have F0:Hid (ERd w w0 R v (.slice none 0 0) D T n 0 [] h8 v0):=⟨rfl,by simp,by rw[L7,hD];rfl,c0,hb,World.ownsRow_nil _ _ _ _,o0⟩;clear o0 A hr c0 hb hD;go_wp2
  go_loopw [5,10] (λu i wr=>∃k:Nat,k<=n∧i=.int .i64 k∧∃ts zs v2,ERd w wr R v u D T n k ts zs v2) (λ_ i _=>n - (intOf i).toNat)
  case atStart=>exact⟨0,Nat.zero_le _,rfl,_,_,_,F0.o⟩
  case round =>
   clear F0;obtain⟨k,hk,rfl,ts,zs,v2,ht⟩:=hrel;have HT:=Qa ht
   by_cases hlt:k<n
   ·have i1:(k:Int)<(n:Int):=by omega
    have B:=Qa (YO ht.cur);have h0:=ht.cur.rng
    have h4:Hid (∀c w',c≠0->rdEn T.length zs=.error c->Only (λj=>j=R) wr w'->K (.panicked [{ v:=.iface 29 (.int .i64 c),recovered:=false }]) w'):=by
     intro c w' hc he ho;rw[HK.o];exact⟨HT.o.on.trans ho (λi _ e=>e),.inl ⟨c,hc,Yp h3.o (HD.o.symm.trans (HT.o.err hlt he)),rfl⟩⟩
    clear ht
    rcases Ua h0 with ⟨c,hs,hc⟩ | ⟨a,q,hs,_,_,ha64,_⟩
    ·have h5:c≠0:=by omega
     have HE:=Qa (pm (L:=T.length) hs h5);rw[hs] at B;clear hs hc h0;go_wp2_with fail;refine B.o.mono ?_;rintro e w1 ⟨rfl,v3,_,_,o1⟩;have FN:=Qa (h4.o c w1 h5 HE.o o1);clear B o1;go_wp2_with fail;refine (Jl _ c w1 h5).mono ?_;rintro e w' ⟨rfl,rfl⟩;unfold mpan;go_wp2;exact⟨rfl,FN.o⟩
    ·have HS:=Qa hs
     rw[hs] at B;clear hs
     by_cases haL:a<L
     ·have d1:decide ((a:Int)<(L:Int))=true:=by simp;omega
      have d2:decide (a<L)=true:=by simp;omega
      have q0:(0:Int)<=(a:Int):=by omega
      have q1:(a:Int)<(L:Int):=by omega
      go_wp2_with fail;refine B.o.mono ?_;rintro e w1 ⟨rfl,v3,c3,hd,o1⟩;have O1:=Qa o1;have BY:=Qa (Us c3);have OB3:=Qa hd;clear B o1 c3 hd;go_wp2_with fail;refine (Zm _ w1).mono ?_;rintro e w' ⟨rfl,rfl⟩;go_wp2_with fail;refine (Ul 3 w1).mono ?_;rintro e w' ⟨rfl,rfl⟩
      have h7:∀y∈zs.drop q,0<=y∧y<=255:=λy hy=>h0 y (List.mem_of_mem_drop hy)
      rcases hdd:zs.drop q with _ | ⟨y,t⟩
      ·rw[hdd,vJ] at BY
       have HE:=Qa (Ei (L:=T.length) HS.o (by rw[<-HL.o];exact haL) hdd);clear hdd h7 h0;go_wp2_with fail;refine BY.o.mono ?_;rintro e w2 ⟨rfl,v4,_,_,o2⟩;have FN:=Qa (h4.o 2 w2 (by decide) HE.o (O1.o.trans o2 (λi _ e=>e)));clear BY o2;go_wp2_with fail;refine (Bg _ 2 w2 (by decide)).mono ?_;rintro e w' ⟨rfl,rfl⟩;unfold mpan;go_wp2;exact⟨rfl,FN.o⟩
      ·have hy:=h7 y (by rw[hdd];exact List.mem_cons_self)
       rw[hdd,zp] at BY;have ha:=Qa hdd
       have hwy:IntKind.i64.wrap y=y:=by rw[IntKind.wrap_i64];omega
       clear hdd h7 h0;go_wp2_with fail;refine BY.o.mono ?_;rintro e w2 ⟨rfl,v4,c4,h9,o2⟩;have O2:=Qa (O1.o.trans o2 (λi _ e=>e));have CC:=Qa (And.intro c4 (h9.trans (OB3.o.trans HT.o.ob)));clear BY o2 c4 h9;go_wp2_with fail;refine (uV _ w2).mono ?_;rintro e w' ⟨rfl,rfl⟩;go_wp2_with fail;refine (Mg y w2).mono ?_;rintro e w3 ⟨rfl,o3⟩;have O3:=Qa (O2.o.trans o3 (λi _ f=>f.elim));have C3:=Qa (And.intro (CC.o.1.keep o3 (λf=>f) (λ_ _ f=>f)) CC.o.2);clear o3 CC O2
       by_cases hy8:y<=8
       ·have eb:okB y=true:=Qc ⟨by omega,hy8⟩
        rw[eb];have h2:=O3.o.own HT.o.row (λj hj e=>by have:=(HT.o.row.lt j hj).1;omega);obtain⟨b,off,cap,eu,hcl⟩:=((hf.o.keep HT.o.on (λj hj e=>h6.o j hj e)).keep O3.o (λj hj e=>h6.o j hj e)).at a (by rw[<-HL.o];exact haL);rw[<-HL.o] at eu;simp only[Value.slice.injEq] at eu;obtain⟨rfl,_,rfl⟩:=eu;have OW:=Qa (HT.o.on.trans O3.o (λi _ e=>e));have hsz3:=OW.o.size
        have NX:Hid (∀u' w',w'.ownsRow w.heap.size 68 2 u' (k+1) (YE (ts.map (Yt T))++[.string (strOfNums (T.getD a [])),.int .i64 y])->(w3.alloc (.cells #[.string (strOfNums (T.getD a [])),.int .i64 y] 68)).grownBy w' u5.ownBlock->ERd w w' R v u' D T n (k+1) (ts++[(a,[y])]) t v4):=by
         intro u' w' hrow hg;have og:Only (λj=>u5.ownBlock=some j) w3 w':=((Only.refl _ w3).alloc _).grown hg (λj _ e=>e);refine⟨by simp[HT.o.len],λz hz=>?_,HT.o.go hlt (en_ok HS.o (by rw[<-HL.o];exact haL) ha.o hy8),?_,C3.o.2,by rw[List.map_append,List.map_cons,List.map_nil,qR];exact hrow,OW.o.trans og (λi hi e=>by have:=(h2.lt i e).1;omega)⟩
         ·rcases List.mem_append.1 hz with h1 | h1
          ·exact HT.o.all z h1
          ·rw[List.mem_singleton] at h1;subst h1;simp only;rw[<-HL.o];exact haL
         ·have c5:=C3.o.1
          rw[List.drop_succ_cons,List.drop_zero] at c5;refine c5.keep og (λe=>by have:=(h2.lt R e).1;omega) (λj hj e=>?_);rw[C3.o.2] at hj;have:=HV.o j hj;have:=(h2.lt j e).1;omega
        generalize T.getD a []=x at *;clear h4 C3 HT h6
        go_wp2_with (first
         | (go_at_call 137;refine (Ul 3 w3).mono ?_;rintro e w' ⟨rfl,rfl⟩)
         | (at_builtin;refine wpList_append_own _ rfl _ _ 45 rfl w.heap.size 68 i0 (.agg #[.string ⟨#[]⟩,.int .i64 0]) 2 24 underlying45 hi hz0 hz1 hz2 rfl (by decide) _ k _ rfl (h2.alloc _) ⟨w3.heap.size,0,none⟩ 1 1 [.string (strOfNums x),.int .i64 y] rfl rfl (xr _ _ _ _) (CX _ _) (by unfold maxLen;omega) (by omega) (by simp;omega) ?_;intro v' w4 hown' hgrow' _)
         | fail)
        go_roundw
        case rel=>exact⟨k+1,by omega,by go_num,_,_,_,NX.o _ _ hown' hgrow'⟩
        case measure=>simp[intOf];omega
       ·have eb:okB y=false:=Qh (by omega)
        rw[eb];have FN:=Qa (h4.o 3 w3 (by decide) (za HS.o (by rw[<-HL.o];exact haL) ha.o (by omega)) O3.o);clear h4 C3 HT;go_wp2_with fail;refine (Uz 3 w3).mono ?_;rintro e w' ⟨rfl,rfl⟩;unfold mpan;go_wp2;exact⟨rfl,FN.o⟩
     ·have d1:decide ((a:Int)<(L:Int))=false:=by simp;omega
      have d2:decide (a<L)=false:=by simp;omega
      have HE:=Qa (wW HS.o (by rw[<-HL.o];omega:T.length<=a));go_wp2_with fail;refine B.o.mono ?_;rintro e w1 ⟨rfl,v3,_,_,o1⟩;have FN:=Qa (h4.o 3 w1 (by decide) HE.o o1);clear B o1;go_wp2_with fail;refine (Zm _ w1).mono ?_;rintro e w' ⟨rfl,rfl⟩;go_wp2_with fail;refine (Uz 3 w1).mono ?_;rintro e w' ⟨rfl,rfl⟩;unfold mpan;go_wp2;exact⟨rfl,FN.o⟩
   ·obtain rfl:k=n:=by omega
    have hKK:=HK.o;clear ht HK;subst hKK;go_wp2;go_ret
    have e1:D=.ok (ts,zs):=by
     rw[HT.o.eq,Nat.sub_self];simp[rdEns,rdRep,pre]
    refine⟨HT.o.on,.inr ⟨(k,ts),zs,Wu h3.o (HD.o.symm.trans e1),⟨_,rfl,?_,?_,HT.o.all⟩,v2,HT.o.cur,HT.o.ob⟩⟩
    ·have:=HT.o.row
     rw[<-HT.o.len] at this;exact this
    ·have:=HT.o.len
     simp only;omega
theorem ZP (h:ys.length<n):rdB n ys=.error 2:=if_pos h
theorem KY (h:¬ys.length<n):rdB n ys=.ok (ys.take n,ys.drop n):=if_neg h
theorem uK (h:ys.length<4):rdHd ys=.error 2:=KM (ZP h)
theorem hd_no (h:¬ys.length<4) (hx:ys.take 4≠Q7):rdHd ys=.error 3:=Vs (KY h) (by simpa using hx)
theorem hd_ok (h:¬ys.length<4) (hx:ys.take 4=Q7):rdHd ys=.ok (Q7,ys.drop 4):=by
 have:=KY h;rw[hx] at this;exact WJ this (by simp)
theorem Se {α β:Type} {r:QC α} {f:α->β} {e:Int} (h:r ys=.error e):rdAs r f ys=.error e:=by unfold rdAs;rw[h]
theorem as_ok {α β:Type} {r:QC α} {f:α->β} {ys t:LI} {x:α} (h:r ys=.ok (x,t)):rdAs r f ys=.ok (f x,t):=by unfold rdAs;rw[h]
theorem IH (h:ys.length<8):rdVer ys=.error 2:=Se (KM (ZP h))
theorem Ib (h:¬ys.length<8) (hx:num (ys.take 8)=18446744073709551615):rdVer ys=.error 3:=Se (Vs (KY h) (Qh (by simp[hx])))
theorem If (h:¬ys.length<8) (hx:num (ys.take 8)≠18446744073709551615):rdVer ys=.ok (num (ys.take 8),ys.drop 8):=as_ok (WJ (KY h) (Qc hx))
theorem Vb {c:Int} (h:WW ys=.error c):MDEC ys=.error c:=by unfold MDEC;rw[h]
section
variable {ys y1 y2 y3 y4 y5 y6:LI} {hd p r:LI} {v:Nat} {d:Nat × List (LI)} {a:Nat × List (Nat × LI)} {c:Int}
theorem M1 (h:rdHd ys=.error c):MDEC ys=.error c:=Vb (Wc h)
theorem M2 (h1:rdHd ys=.ok (hd,y1)) (h:rdVer y1=.error c):MDEC ys=.error c:=Vb (Yp h1 (Wc h))
theorem M3 (h1:rdHd ys=.ok (hd,y1)) (h2:rdVer y1=.ok (v,y2)) (h:rdB 32 y2=.error c):MDEC ys=.error c:=Vb (Yp h1 (Yp h2 (Wc h)))
theorem M4 (h1:rdHd ys=.ok (hd,y1)) (h2:rdVer y1=.ok (v,y2)) (h3:rdB 32 y2=.ok (p,y3)) (h:rdDir y3=.error c):MDEC ys=.error c:=Vb (Yp h1 (Yp h2 (Yp h3 (Wc h))))
theorem M5 (h1:rdHd ys=.ok (hd,y1)) (h2:rdVer y1=.ok (v,y2)) (h3:rdB 32 y2=.ok (p,y3)) (h4:rdDir y3=.ok (d,y4)) (h:rdAll d.2.length y4=.error c):MDEC ys=.error c:=Vb (Yp h1 (Yp h2 (Yp h3 (Yp h4 (Wc h)))))
theorem M6 (h1:rdHd ys=.ok (hd,y1)) (h2:rdVer y1=.ok (v,y2)) (h3:rdB 32 y2=.ok (p,y3)) (h4:rdDir y3=.ok (d,y4)) (h5:rdAll d.2.length y4=.ok (a,y5)) (h:rdB 32 y5=.error c):MDEC ys=.error c:=Vb (Yp h1 (Yp h2 (Yp h3 (Yp h4 (Yp h5 h)))))
theorem Mall (h1:rdHd ys=.ok (hd,y1)) (h2:rdVer y1=.ok (v,y2)) (h3:rdB 32 y2=.ok (p,y3)) (h4:rdDir y3=.ok (d,y4)) (h5:rdAll d.2.length y4=.ok (a,y5)) (h6:rdB 32 y5=.ok (r,y6)):WW ys=.ok ((hd,v,p,d,a,r),y6) :=
 Wu h1 (Wu h2 (Wu h3 (Wu h4 (Wu h5 h6))))
theorem M7 (h:WW ys=.ok ((hd,v,p,d,a,r),y6)) (hn:y6≠[]):MDEC ys=.error 3:=by unfold MDEC;rw[h];simp only[if_neg hn]
theorem M8 (h:WW ys=.ok ((hd,v,p,d,a,r),y6)) (hn:y6=[]) (hu:¬UH d.2.length a.2=true):MDEC ys=.error 3:=by unfold MDEC;rw[h];simp only[if_pos hn,if_neg hu]
theorem M9 (h:WW ys=.ok ((hd,v,p,d,a,r),y6)) (hn:y6=[]) (hu:UH d.2.length a.2=true):MDEC ys=.ok ⟨v,p,a.2.map (Yt d.2),r⟩:=by unfold MDEC;rw[h];simp only[if_pos hn,if_pos hu];rfl
end
theorem Sf {α:Type} [DecidableEq α]:∀(a b:List α),a.Nodup->(∀x∈a,x∈b)->a.length<=b.length
 | [],b,_,_=>by simp
 | x :: a,b,hn,hs=>by
  rw[List.nodup_cons] at hn;have hx:=hs x List.mem_cons_self
  have ih:=Sf a (b.erase x) hn.2 (λy hy=>by
   have:y≠x:=λe=>hn.1 (by rw[<-e];exact hy)
   exact (List.mem_erase_of_ne this).2 (hs y (List.mem_cons_of_mem _ hy)))
  rw[List.length_erase_of_mem hx] at ih;have:=List.length_pos_of_mem hx;simp only[Qj];omega
theorem jm {T:List (LI)} {ts:List (Nat × LI)} (hr:RIS T) (ha:∀t∈ts,t.1<T.length):(Yq ((ts.map (Yt T)).map Prod.fst)).length=T.length↔UH T.length ts=true:=by
 have h0:∀x∈(ts.map (Yt T)).map Prod.fst,x∈T:=λx hx=>by
  obtain⟨e,he,rfl⟩:=List.mem_map.1 hx;obtain⟨t,ht,rfl⟩:=List.mem_map.1 he;exact Uk (ha t ht)
 constructor
 ·intro hlen
  unfold UH;rw[List.all_eq_true];intro i hi;rw[List.mem_range] at hi
  by_cases hin:T.getD i []∈(ts.map (Yt T)).map Prod.fst
  ·obtain⟨e,he,e1⟩:=List.mem_map.1 hin
   obtain⟨t,ht,rfl⟩:=List.mem_map.1 he;rw[List.any_eq_true];refine⟨t,ht,?_⟩;rw[beq_iff_eq,<-ZW hr (ha t ht),<-ZW hr hi];exact congrArg _ e1
  ·exfalso
   have hx:T.getD i []∈T:=Uk hi
   have:=Sf (Yq ((ts.map (Yt T)).map Prod.fst)) (T.erase (T.getD i [])) (Vi _).nodup (λy hy=>by
    have h1:=(UE _ _).1 hy
    have hne:y≠T.getD i []:=λe=>hin (by rw[<-e];exact h1)
    exact (List.mem_erase_of_ne hne).2 (h0 y h1))
   rw[List.length_erase_of_mem hx] at this;omega
 ·intro hu
  rw[<-Jb hr (λx=>⟨λhx=>?_,h0 x⟩)];have hi:=WB hx;unfold UH at hu;rw[List.all_eq_true] at hu;have:=hu (Y3 T x) (List.mem_range.2 hi);rw[List.any_eq_true] at this;obtain⟨t,ht,e⟩:=this;rw[beq_iff_eq] at e;refine List.mem_map.2 ⟨Yt T t,List.mem_map.2 ⟨t,ht,rfl⟩,?_⟩;unfold Yt;simp only[e];exact Xl hx
theorem Iz {ys t:LI} {d:Nat × List (LI)} (h8:U8 ys) (h:rdDir ys=.ok (d,t)):RIS d.2:=by
 obtain⟨⟨_,g⟩,_⟩:=Qu1.only ys d t h8 h;have hn:=XZ g;rw[<-hn] at g;have:=(Zw d.2 [] List.Pairwise.nil).1 g;rw[List.nil_append] at this;exact this.1
section
open Go.Maps
def b8 (x:LI):List UInt8:=x.map λn=>UInt8.ofNat n.toNat
def i8 (l:List UInt8):LI:=l.map λc=>(c.toNat:Int)
theorem i8_b8 {x:LI} (h:U8 x):i8 (b8 x)=x:=by
 unfold i8 b8;rw[List.map_map];refine (List.map_congr_left (g:=id) (λy hy=>?_)).trans (List.map_id _);have:=h y hy;simp only[Function.comp,id];rw[UInt8.toNat_ofNat'];omega
theorem b8_i8 (l:List UInt8):b8 (i8 l)=l:=by
 unfold i8 b8;rw[List.map_map];refine (List.map_congr_left (g:=id) (λy _=>?_)).trans (List.map_id _);simp
theorem i8_u8 (l:List UInt8):U8 (i8 l):=by
 intro y hy;simp only[i8,List.mem_map] at hy;obtain⟨c,_,rfl⟩:=hy;have:=c.toNat_lt;omega
theorem wY {x y:LI} (hx:U8 x) (hy:U8 y) (h:b8 x=b8 y):x=y:=by rw[<-i8_b8 hx,<-i8_b8 hy,h]
theorem EE (x:LI):Value.string (strOfNums x)=encStr (b8 x):=rfl
theorem Dc (x:LI):(strOfNums x).size=x.length:=strOfNums_size x
abbrev kS (x:LI):Lit:=.string (b8 x)
theorem So (x:LI):WideAt.IsKeyLit (kS x):=by simp[WideAt.IsKeyLit]
theorem kS_ne {x y:LI} (hx:U8 x) (hy:U8 y) (h:x≠y):kS x≠kS y:=λe=>h (wY hx hy (by injection e))
theorem Jw {k:TypeId} (hk:P.underlying k=some .string) (x:LI) (h:x.length<=maxLen):keyOf P k (.string (strOfNums x))=some (kS x):=by
 have:(strOfNums x).size<=maxLen:=by rw[Dc];exact h
 simp[keyOf,hk,mapKey,this]
 rfl
def HasT (D:DataW Unit) (T:List (LI)):Prop:=∀x,U8 x->Maps.has D (kS x)=decide (x∈T)
def RJ (D:DataW Unit) (T:List (LI)):Prop:=∀x,x∈T->∀z,D.atKey (kS x) z=.lit (.int .i64 (Y3 T x:Nat))
theorem HasT.put {D:DataW Unit} {T:List (LI)} (h:HasT D T) (hD:IsMap D) {x:LI} (hx:U8 x) (d:DataW Unit):HasT (D.put (kS x) d) (T++[x]):=by
 intro y hy
 by_cases e:y=x
 ·subst e
  rw[has_put_same hD (So y),Qc (by simp)]
 ·rw[has_put_other (kS_ne hy hx e),h y hy,decide_eq_decide]
  simp[e]
theorem DX {k:TypeId} (hk:P.underlying k=some .string) {R:Value->Option (DataW Unit × List MemPlace)} {w:World} {b n:Nat} {D:DataW Unit} (h:w.ownsMap P k R b n D) :
 (strKeys D).Nodup∧(∀x,x∈strKeys D↔Maps.has D (.string x)=true)∧(strKeys D).length=Maps.size D:=by
 obtain⟨es,rfl,hp,_⟩:=h.entries (string_keyed hk);obtain⟨es',e',hks⟩:=h.keysOf
 cases e'
 have h0:∀p∈es,∃x,p.1=.string x:=λp h1=>by
  obtain⟨v,hv⟩:=hks p h1;obtain⟨x,_,e,_⟩:=Maps.keyOf_str hk hv;exact⟨x,e⟩
 refine⟨?_,λx=>?_,by simp[strKeys,Maps.size]⟩
 ·show (es.map λp=>strOf p.1).Nodup
  refine List.pairwise_map.2 (hp.imp_of_mem λ{p q} h1 hq' hne e=>hne ?_);obtain⟨a,ha⟩:=h0 p h1;obtain⟨b,hb⟩:=h0 q hq';rw[ha,hb] at e ⊢;exact congrArg _ e
 ·rw[has_eq,List.any_eq_true]
  show x∈es.map (λp=>strOf p.1)↔_
  rw[List.mem_map]
  constructor
  ·rintro⟨p,h1,rfl⟩
   obtain⟨a,ha⟩:=h0 p h1;exact⟨p,h1,by rw[ha];simp[Lit.sameKey,strOf]⟩
  ·rintro⟨p,h1,hs⟩
   obtain⟨a,ha⟩:=h0 p h1;rw[ha] at hs;exact⟨p,h1,by rw[ha];simpa [Lit.sameKey,strOf] using hs⟩
theorem TK {D:DataW Unit} {T:List (LI)} (hU:∀x∈T,U8 x) (hT:HasT D T) (hn:(strKeys D).Nodup) (hm:∀x,x∈strKeys D↔Maps.has D (.string x)=true) {ss:List (List UInt8)} (hp:ss.Perm (strKeys D)) :
 (ss.mergeSort (λx y=>decide (x<=y))).map i8=Yq T:=by
 have tr:∀a b c:List UInt8,decide (a<=b)=true->decide (b<=c)=true->decide (a<=c)=true:=λa b c h1 h2=>by simp only[decide_eq_true_eq] at *;exact List.le_trans h1 h2
 have to:∀a b:List UInt8,(decide (a<=b) || decide (b<=a))=true:=λa b=>by simp only[Bool.or_eq_true,decide_eq_true_eq];exact List.le_total a b
 have pw:=List.pairwise_mergeSort (le:=λx y:List UInt8=>decide (x<=y)) tr to ss;have pp:=List.mergeSort_perm ss (λx y=>decide (x<=y));refine Jb (Br (pw.imp λ{a b} k=>?_) ((pp.trans hp).nodup_iff.2 hn)) (λx=>?_)
 ·have k':a<=b:=by simpa using k
  rw[bytesLess_eq,decide_eq_false_iff_not];exact k'
 ·rw[List.mem_map]
  constructor
  ·rintro⟨s,hs,rfl⟩
   have h1:=(hm s).1 ((pp.trans hp).mem_iff.1 hs);have h2:=hT (i8 s) (i8_u8 s);rw[show kS (i8 s)=.string s by rw[kS,b8_i8]] at h2;rw[h2] at h1;exact of_decide_eq_true h1
  ·intro hx
   refine⟨b8 x,(pp.trans hp).mem_iff.2 ((hm _).2 ?_),i8_b8 (hU x hx)⟩;rw[show (Lit.string (b8 x))=kS x from rfl,hT x (hU x hx),Qc hx]
theorem gj (l:List (List UInt8)):l.map encStr=(l.map i8).map λx=>Value.string (strOfNums x):=by
 rw[List.map_map];refine List.map_congr_left (λs _=>?_);simp only[Function.comp];rw[EE,b8_i8]
theorem Sd {D:DataW Unit} {T:List (LI)} (hU:∀x∈T,U8 x) (hT:HasT D T) (hn:(strKeys D).Nodup) (hm:∀x,x∈strKeys D↔Maps.has D (.string x)=true) (hs:(strKeys D).length=Maps.size D):Maps.size D=(Yq T).length:=by
 rw[<-TK hU hT hn hm (List.Perm.refl _),List.length_map,List.length_mergeSort,hs]
end
section
open Go.Maps Go.Sort Go.Shelf
def Tryz.keys95_ren:Go.Shelf.Ren:=⟨λ| 7=>95 | 10=>134 | n=>n,λ| 23=>100 | 26=>9 | 3=>3 | 28=>142 | 0=>0 | 27=>141 | 33=>187 | 4=>4 | n=>n,λ| n=>n⟩
theorem Tryz.keys95:Go.Proofs.SlLaysZ.n7 prog Tryz.keys95_ren:={
 mixed:=by kernel_rfl
 f7:=⟨Tryz.f95.name,by decide,func95.trans (congrArg some (by kernel_rfl))⟩
 f10:=⟨Tryz.f134.name,by decide,func134.trans (congrArg some (by kernel_rfl))⟩
 t0:=underlying0
 a0:=Tryz.isAgg0
 z0:=Tryz.sizeOf0
 v0:=Tryz.zeroValue0
 t4:=underlying4
 a4:=Tryz.isAgg4
 z4:=Tryz.sizeOf4
 v4:=Tryz.zeroValue4
 t23:=underlying100
 a23:=Tryz.isAgg100
 z23:=Tryz.sizeOf100
 v23:=Tryz.zeroValue100
 t26:=underlying9
 a26:=Tryz.isAgg9
 z26:=Tryz.sizeOf9
 v26:=Tryz.zeroValue9
 t27:=underlying141
 a27:=Tryz.isAgg141
 z27:=Tryz.sizeOf141
 v27:=Tryz.zeroValue141
 t28:=underlying142
 a28:=Tryz.isAgg142
 z28:=Tryz.sizeOf142
 v28:=Tryz.zeroValue142
 t33:=underlying187
 a33:=Tryz.isAgg187
 z33:=Tryz.sizeOf187
 v33:=Tryz.zeroValue187 }
def Tryz.sorted94_ren:Go.Shelf.Ren:=⟨λ| 6=>94 | 8=>132 | 9=>133 | 11=>159 | 13=>131 | 12=>160 | 23=>157 | 24=>158 | 14=>191 | 15=>192 | 16=>193 | 17=>194 | 18=>195 | 19=>196 | 20=>197 | 21=>198 | 22=>199 | 25=>217 | 26=>218 | 27=>219 | 28=>220 | 29=>221 | 30=>222 | 31=>245 | n=>n,λ| 26=>9 | 28=>142 | 24=>99 | 0=>0 | 3=>3 | 37=>148 | 48=>130 | 50=>23 | 4=>4 | 40=>244 | 39=>243 | 45=>249 | 5=>5 | 9=>9 | 51=>258 | 55=>262 | 57=>286 | 58=>276 | 33=>187 | n=>n,λ| n=>n⟩
theorem Tryz.sorted94:Go.Proofs.SlLaysZ.n6 prog Tryz.sorted94_ren:={
 mixed:=by kernel_rfl
 f6:=⟨Tryz.f94.name,by decide,func94.trans (congrArg some (by kernel_rfl))⟩
 f8:=⟨Tryz.f132.name,by decide,func132.trans (congrArg some (by kernel_rfl))⟩
 f11:=⟨Tryz.f159.name,by decide,func159.trans (congrArg some (by kernel_rfl))⟩
 t0:=underlying0
 a0:=Tryz.isAgg0
 z0:=Tryz.sizeOf0
 v0:=Tryz.zeroValue0
 t24:=underlying99
 a24:=Tryz.isAgg99
 z24:=Tryz.sizeOf99
 v24:=Tryz.zeroValue99
 t26:=underlying9
 a26:=Tryz.isAgg9
 z26:=Tryz.sizeOf9
 v26:=Tryz.zeroValue9
 t28:=underlying142
 a28:=Tryz.isAgg142
 z28:=Tryz.sizeOf142
 v28:=Tryz.zeroValue142
 i26:=by kernel_rfl }
def Tryz.sort133_ren:Go.Shelf.Ren:=⟨λ| 6=>133 | 8=>131 | 9=>160 | 19=>157 | 20=>158 | 21=>191 | 22=>192 | 23=>193 | 24=>194 | 25=>195 | 26=>196 | 27=>197 | 28=>198 | 29=>199 | 36=>217 | 31=>218 | 32=>219 | 37=>220 | 38=>221 | 39=>222 | 41=>245 | n=>n,λ| 27=>99 | 29=>9 | 3=>3 | 32=>148 | 26=>99 | 0=>0 | 44=>130 | 46=>23 | 4=>4 | 36=>244 | 35=>243 | 41=>249 | 5=>5 | 9=>9 | 53=>258 | 57=>262 | 63=>286 | 64=>276 | n=>n,λ| n=>n⟩
theorem Tryz.sort133:Go.Proofs.SlLaysM.n6 prog Tryz.sort133_ren:={
 mixed:=by kernel_rfl
 f6:=⟨Tryz.f133.name,by decide,func133.trans (congrArg some (by kernel_rfl))⟩
 f8:=func131.trans (congrArg some (by kernel_rfl))
 f9:=⟨Tryz.f160.name,by decide,func160.trans (congrArg some (by kernel_rfl))⟩
 f19:=func157.trans (congrArg some (by kernel_rfl))
 f20:=func158.trans (congrArg some (by kernel_rfl))
 f21:=⟨Tryz.f191.name,by decide,func191.trans (congrArg some (by kernel_rfl))⟩
 f22:=⟨Tryz.f192.name,by decide,func192.trans (congrArg some (by kernel_rfl))⟩
 f23:=⟨Tryz.f193.name,by decide,func193.trans (congrArg some (by kernel_rfl))⟩
 f24:=⟨Tryz.f194.name,by decide,func194.trans (congrArg some (by kernel_rfl))⟩
 f25:=⟨Tryz.f195.name,by decide,func195.trans (congrArg some (by kernel_rfl))⟩
 f26:=⟨Tryz.f196.name,by decide,func196.trans (congrArg some (by kernel_rfl))⟩
 f27:=⟨Tryz.f197.name,by decide,func197.trans (congrArg some (by kernel_rfl))⟩
 f28:=⟨Tryz.f198.name,by decide,func198.trans (congrArg some (by kernel_rfl))⟩
 f29:=⟨Tryz.f199.name,by decide,func199.trans (congrArg some (by kernel_rfl))⟩
 f31:=func218.trans (congrArg some (by kernel_rfl))
 f32:=func219.trans (congrArg some (by kernel_rfl))
 f36:=⟨Tryz.f217.name,by decide,func217.trans (congrArg some (by kernel_rfl))⟩
 f37:=⟨Tryz.f220.name,by decide,func220.trans (congrArg some (by kernel_rfl))⟩
 f38:=⟨Tryz.f221.name,by decide,func221.trans (congrArg some (by kernel_rfl))⟩
 f39:=⟨Tryz.f222.name,by decide,func222.trans (congrArg some (by kernel_rfl))⟩
 f41:=⟨Tryz.f245.name,by decide,func245.trans (congrArg some (by kernel_rfl))⟩
 t0:=underlying0
 a0:=Tryz.isAgg0
 z0:=Tryz.sizeOf0
 v0:=Tryz.zeroValue0
 t3:=underlying3
 a3:=Tryz.isAgg3
 z3:=Tryz.sizeOf3
 v3:=Tryz.zeroValue3
 t4:=underlying4
 a4:=Tryz.isAgg4
 z4:=Tryz.sizeOf4
 v4:=Tryz.zeroValue4
 t5:=underlying5
 a5:=Tryz.isAgg5
 z5:=Tryz.sizeOf5
 v5:=Tryz.zeroValue5
 t9:=underlying9
 a9:=Tryz.isAgg9
 z9:=Tryz.sizeOf9
 v9:=Tryz.zeroValue9
 t26:=underlying99
 a26:=Tryz.isAgg99
 z26:=Tryz.sizeOf99
 v26:=Tryz.zeroValue99
 t27:=underlying99
 a27:=Tryz.isAgg99
 z27:=Tryz.sizeOf99
 v27:=Tryz.zeroValue99
 t29:=underlying9
 a29:=Tryz.isAgg9
 z29:=Tryz.sizeOf9
 v29:=Tryz.zeroValue9
 t32:=underlying148
 a32:=Tryz.isAgg148
 z32:=Tryz.sizeOf148
 v32:=Tryz.zeroValue148
 t35:=underlying243
 a35:=Tryz.isAgg243
 z35:=Tryz.sizeOf243
 v35:=Tryz.zeroValue243
 t36:=underlying244
 a36:=Tryz.isAgg244
 z36:=Tryz.sizeOf244
 v36:=Tryz.zeroValue244
 t41:=underlying249
 a41:=Tryz.isAgg249
 z41:=Tryz.sizeOf249
 v41:=Tryz.zeroValue249
 t44:=underlying130
 a44:=Tryz.isAgg130
 z44:=Tryz.sizeOf130
 v44:=Tryz.zeroValue130
 t46:=underlying23
 a46:=Tryz.isAgg23
 z46:=Tryz.sizeOf23
 v46:=Tryz.zeroValue23
 t53:=underlying258
 a53:=Tryz.isAgg258
 z53:=Tryz.sizeOf258
 v53:=Tryz.zeroValue258
 t57:=underlying262
 a57:=Tryz.isAgg262
 z57:=Tryz.sizeOf262
 v57:=Tryz.zeroValue262
 t63:=underlying286
 a63:=Tryz.isAgg286
 z63:=Tryz.sizeOf286
 v63:=Tryz.zeroValue286
 t64:=underlying276
 a64:=Tryz.isAgg276
 z64:=Tryz.sizeOf276
 v64:=Tryz.zeroValue276 }
theorem Tryz.sorts94 (m:Nat):AnyZ.SortsIn prog Tryz.sorted94_ren Fence.wide m :=
 ⟨λblk off cap ss W hH hblk hsz=>callsIn_wide.2 (AnyM.slices_Sort_string Tryz.sort133 blk off cap ss W hH hblk hsz),
 λp cap W=>callsIn_wide.2 (AnyM.slices_Sort_string_none Tryz.sort133 p cap W)⟩
theorem Tryz.maps_Keys_95 (mb:Option Nat) (W:World):CallsIn Fence.wide 5 prog 95 #[.map mb] W λe w'=>e=.returned (.func (.func 134) #[] #[.pointer (some ⟨W.heap.size,0,none⟩)])∧w'=W.alloc (.cells #[.map mb] 100) :=
 AnyZ.keys_in Tryz.keys95 Fence.wide 5 trivial rfl mb W
theorem Tryz.slices_Sorted_keys_94_95 {H:Type} (b nn:Nat) (D0:DataW H) (R:Value->Option (DataW H × List MemPlace)) (w:World) (hown:w.ownsMap prog 9 R b nn D0) (hmax:Maps.size D0<=maxLen) (hbytes:Maps.size D0*16<=140737488355328) :
 CallsIn Fence.wide 5 prog 94 #[.func (.func 134) #[] #[.pointer (some ⟨w.heap.size,0,none⟩)]] (w.alloc (.cells #[.map (some b)] 100)) λe w'=>∃(v:Value) (ss:List (List UInt8)),e=.returned v∧ss.Perm (strKeys D0) ∧
  w'.ownsRow (w.alloc (.cells #[.map (some b)] 100)).heap.size 9 1 v ss.length ((ss.mergeSort (λx y=>decide (x<=y))).map encStr)∧(v=.slice none 0 0↔ss=[])∧Below (w.alloc (.cells #[.map (some b)] 100)).heap.size (w.alloc (.cells #[.map (some b)] 100)) w':=by
 have hbl:=hown.lt
 have h1:SeqGives Fence.wide 2 prog 134 #[.pointer (some ⟨w.heap.size,0,none⟩)] encStr (λss=>ss.Perm (strKeys D0)) (Maps.size D0) (w.alloc (.cells #[.map (some b)] 100)) :=
  AnyZ.keys_gives (ρ:=Tryz.keys95_ren) { Tryz.keys95 with } Fence.wide _ trivial rfl (by omega) w.heap.size b nn D0 _ (by simp) (by simp) (by
   obtain⟨es,h0,hb,Ft,hs,hD⟩:=hown
   exact⟨es,h0,(Below.heap_alloc _ _ b hbl).trans hb,Ft,hs,hD⟩)
 exact AnyZ.sorted_in Tryz.sorted94 Fence.wide 5 trivial trivial trivial trivial rfl (by omega) (Tryz.sorts94 _) (enters_of func133 (by kernel_rfl) rfl) 134 #[.pointer (some ⟨w.heap.size,0,none⟩)] trivial (enters_of func134 (by kernel_rfl) rfl) _ _ hmax hbytes _ h1
theorem pj (b:Nat) (w:World):Calls prog 95 #[.map (some b)] w λe w'=>e=.returned (.func (.func 134) #[] #[.pointer (some ⟨w.heap.size,0,none⟩)])∧w'=w.alloc (.cells #[.map (some b)] 100) :=
 callsIn_wide.1 (Tryz.maps_Keys_95 (some b) w)
theorem uh {H:Type} (b nn:Nat) (D0:DataW H) (R:Value->Option (DataW H × List MemPlace)) (w:World) (hown:w.ownsMap prog 9 R b nn D0) (hmax:Maps.size D0<=maxLen) (hbytes:Maps.size D0*16<=140737488355328) :
 Calls prog 94 #[.func (.func 134) #[] #[.pointer (some ⟨w.heap.size,0,none⟩)]] (w.alloc (.cells #[.map (some b)] 100)) λe w'=>∃(v:Value) (ss:List (List UInt8)),e=.returned v∧ss.Perm (strKeys D0) ∧
  w'.ownsRow (w.alloc (.cells #[.map (some b)] 100)).heap.size 9 1 v ss.length ((ss.mergeSort (λx y=>decide (x<=y))).map encStr)∧(v=.slice none 0 0↔ss=[])∧Below (w.alloc (.cells #[.map (some b)] 100)).heap.size (w.alloc (.cells #[.map (some b)] 100)) w' :=
 callsIn_wide.1 (Tryz.slices_Sorted_keys_94_95 b nn D0 R w hown hmax hbytes)
end
end Go.Proofs.YteciafpneamfaaaGreatDoor
