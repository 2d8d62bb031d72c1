import Derived.Test.YtiochaeeoelmjaaGreatDoorG9
import Derived.Shelf.SlIter.Nil
import Derived.Shelf.SortM.Plain
import Derived.Shelf.SortM.SortNone
namespace Go.Proofs.YtiochaeeoelmjaaGreatDoor
set_option maxHeartbeats 4000000
set_option maxRecDepth 100000
open Go.RowKit _root_.Go.Proofs.Tryz
variable {w w' W:World} {v:Value} {ys xs l:LI} {R n p k g B:Nat} {P:Program} {ls:List (LI)} {E:TypeId}
def okB (k:Int):Bool:=decide (0<=k∧k<=8)
theorem EM (k:Int):decide (0<Yb k)=okB k:=by
 unfold Yb okB
 by_cases h:0<=k∧k<=8
 ·rw[if_pos h,Qe h]
  have:∀n:Nat,n<9->0<Qx n:=by decide
  have:=this k.toNat (by omega);simp;omega
 ·rw[if_neg h,Qi h];rfl
theorem TD (k:Int) (w:World):Calls prog 117 #[.int .i64 k] w λe w'=>e=.returned (.bool (okB k))∧N0 w w':=by
 have A:=Qa (Jf k w);rw[<-EM k];generalize Yb k=z at *;go_enter func117,ntmps117;go_wp2_with fail;refine A.o.mono ?_;rintro e w1 ⟨rfl,o1⟩;have O:=Qa o1;clear A o1;go_wp2;go_ret;exact⟨rfl,O.o⟩
theorem kF (t:ByteArray) (k:Int) (w:World):Calls prog 76 #[.agg #[.string t,.int .i64 k]] w λe w'=>e=.returned (.bool (!okB k))∧N0 w w':=by
 have A:=Qa (TD k);generalize okB k=z at *;go_enter func76,ntmps76;go_wp2_with fail;refine (A.o _).mono ?_;rintro e w1 ⟨rfl,o1⟩;have O:=Qa (Only.same ((Only.refl _ w).alloc _) o1);clear A o1;go_wp2;go_ret;exact⟨rfl,O.o⟩
theorem kC (t:ByteArray) (k:Int) (w:World):Calls prog 77 #[.agg #[.string t,.int .i64 k]] w λe w'=>e=.returned (.bool (decide (64<t.size)))∧N0 w w':=by
 have O:Hid (∀o,N0 w (w.alloc o)):=λo=>(Only.refl _ w).alloc o
 have e1:decide (64<t.size)=decide ((64:Int)<(t.size:Int)):=by simp only[decide_eq_decide];omega
 rw[e1];clear e1;go_enter func77,ntmps77;go_wp2;go_ret;exact⟨rfl,O.o _⟩
theorem NJ {α:Type} {s:List α} {p:α->Bool} {d:α} (h:∀j,j<s.length->p (s.getD j d)=false):s.any p=false:=by
 rw[List.any_eq_false];intro x hx;obtain⟨j,hj,rfl⟩:=List.getElem_of_mem hx;have:=h j hj;rw[Qc,Qh hj] at this
 simpa using this
theorem Uk {α:Type} {s:List α} {d:α} (h:k<s.length):s.getD k d∈s:=by
 rw[Qc,Qh h];exact List.getElem_mem h
theorem zy (v:Value) (s:List (LI × Int)) (w:World) (h:Ens w v s) (hl:s.length<=9223372036854775806) :
 Calls prog 116 #[v,.func (.func 76) #[] #[]] w λe w'=>(∃i:Int,e=.returned (.int .i64 i)∧decide (0<=i)=s.any (λe:LI × Int=>!okB e.2))∧N0 w w':=by
 obtain⟨ao,cap,rfl⟩:=h.len;have HB:=Qa h
 have HG:Hid (∀e∈s,∀W,Calls prog 76 #[.agg #[.string (strOfNums e.1),.int .i64 e.2]] W λr W'=>r=.returned (.bool ((λe:LI × Int=>!okB e.2) e))∧N0 W W'):=by
  intro e he W;exact kF _ _ W
 obtain⟨m,hm⟩:=EX s.length;rw[<-hm] at HB hl;rw[<-hm];have HM:=Qa hm;have R0:=Qa (Only.refl (λ_=>False) w);clear h hm;generalize (λe:LI × Int=>!okB e.2)=p at *;go_enter func116,ntmps116;go_wp2
 go_loopw [8] (λi wr=>∃k:Nat,k<=m∧i=.int .i64 k∧(∀j,j<k->p (s.getD j ([],0))=false)∧N0 w wr) (λi _=>m - (intOf i).toNat)
 case atStart=>exact⟨0,Nat.zero_le _,rfl,λj hj=>by omega,R0.o⟩
 case round =>
  clear R0;obtain⟨k,hk,rfl,h2,ho⟩:=hrel;have HN:=Qa h2;have HO:=Qa ho;clear h2 ho
  by_cases hlt:k<m
  ·obtain⟨b,off,cap',e,hc0,hc1⟩:=(HB.o.past HO.o).at k (by rw[<-HM.o];exact hlt)
   simp only[Value.slice.injEq] at e;obtain⟨rfl,hmx,rfl⟩:=e;clear hmx;have h0:s.getD k ([],0)∈s:=Uk (by rw[<-HM.o];exact hlt);have C:=Qa (HG.o _ h0 wr);obtain⟨x,hx⟩:=EX (s.getD k ([],0));have HX:=Qa hx;rw[<-hx] at C hc0 hc1 h0
   have i1:(k:Int)<(m:Int):=by omega
   have HM2:=Qa h0;clear hx h0
   cases hp:p x with
   | true =>
    rw[hp] at C;go_wp2_with fail;refine C.o.mono ?_;rintro e w1 ⟨rfl,o1⟩;have O1:=Qa (HO.o.same o1);clear C o1 HB HG;go_wp2;go_ret;exact⟨⟨_,rfl,by rw[Qe (by omega:(0:Int)<=(k:Int))];exact (List.any_eq_true.2 ⟨x,HM2.o,hp⟩).symm⟩,O1.o⟩
   | false =>
    rw[hp] at C;go_wp2_with fail;refine C.o.mono ?_;rintro e w1 ⟨rfl,o1⟩;have O1:=Qa (HO.o.same o1);clear C o1;go_wp2
    go_roundw
    case rel =>
     refine⟨k+1,by omega,by go_num,λj hj=>?_,O1.o⟩
     rcases Nat.lt_succ_iff_lt_or_eq.1 hj with h1 | rfl
     ·exact HN.o j h1
     ·rw[<-HX.o];exact hp
    case measure=>simp[intOf];omega
  ·obtain rfl:k=m:=by omega
   have HA:=Qa (NJ (p:=p) (s:=s) (d:=([],0)) (λj hj=>HN.o j (by rw[HM.o];exact hj)));clear HB HG HN;go_wp2;go_ret;exact⟨⟨_,rfl,by rw[HA.o];rfl⟩,HO.o⟩
theorem LH (v:Value) (s:List (LI × Int)) (w:World) (h:Ens w v s) (hl:s.length<=9223372036854775806) :
 Calls prog 75 #[v,.func (.func 76) #[] #[]] w λe w'=>e=.returned (.bool (s.any (λe:LI × Int=>!okB e.2)))∧N0 w w':=by
 have A:=Qa (zy v s w h hl);generalize s.any (λe:LI × Int=>!okB e.2)=z at *;clear h hl;go_enter func75,ntmps75;go_wp2_with fail;refine A.o.mono ?_;rintro e w1 ⟨⟨i,rfl,hi⟩,o1⟩;have O:=Qa o1;have HI:=Qa hi;clear A o1 hi;go_wp2;go_ret;exact⟨by rw[<-HI.o];rfl,O.o⟩
theorem pV (v:Value) (s:List (LI × Int)) (w:World) (h:Ens w v s) (hl:s.length<=9223372036854775806) (hu:Zf s) :
 Calls prog 116 #[v,.func (.func 77) #[] #[]] w λe w'=>(∃i:Int,e=.returned (.int .i64 i)∧decide (0<=i)=s.any (λe:LI × Int=>decide (64<e.1.length)))∧N0 w w':=by
 obtain⟨ao,cap,rfl⟩:=h.len;have HB:=Qa h
 have HG:Hid (∀e∈s,∀W,Calls prog 77 #[.agg #[.string (strOfNums e.1),.int .i64 e.2]] W λr W'=>r=.returned (.bool ((λe:LI × Int=>decide (64<e.1.length)) e))∧N0 W W'):=by
  intro e he W;refine (kC _ _ W).mono ?_;rintro r W' ⟨rfl,o⟩;refine⟨?_,o⟩
  have e1:(strOfNums e.1).size=e.1.length:=by rw[<-QX,sb_of (hu e he)]
  rw[e1]
 obtain⟨m,hm⟩:=EX s.length;rw[<-hm] at HB hl;rw[<-hm];have HM:=Qa hm;have R0:=Qa (Only.refl (λ_=>False) w);clear h hm hu;generalize (λe:LI × Int=>decide (64<e.1.length))=p at *;go_enter func116,ntmps116;go_wp2
 go_loopw [8] (λi wr=>∃k:Nat,k<=m∧i=.int .i64 k∧(∀j,j<k->p (s.getD j ([],0))=false)∧N0 w wr) (λi _=>m - (intOf i).toNat)
 case atStart=>exact⟨0,Nat.zero_le _,rfl,λj hj=>by omega,R0.o⟩
 case round =>
  clear R0;obtain⟨k,hk,rfl,h2,ho⟩:=hrel;have HN:=Qa h2;have HO:=Qa ho;clear h2 ho
  by_cases hlt:k<m
  ·obtain⟨b,off,cap',e,hc0,hc1⟩:=(HB.o.past HO.o).at k (by rw[<-HM.o];exact hlt)
   simp only[Value.slice.injEq] at e;obtain⟨rfl,hmx,rfl⟩:=e;clear hmx;have h0:s.getD k ([],0)∈s:=Uk (by rw[<-HM.o];exact hlt);have C:=Qa (HG.o _ h0 wr);obtain⟨x,hx⟩:=EX (s.getD k ([],0));have HX:=Qa hx;rw[<-hx] at C hc0 hc1 h0
   have i1:(k:Int)<(m:Int):=by omega
   have HM2:=Qa h0;clear hx h0
   cases hp:p x with
   | true =>
    rw[hp] at C;go_wp2_with fail;refine C.o.mono ?_;rintro e w1 ⟨rfl,o1⟩;have O1:=Qa (HO.o.same o1);clear C o1 HB HG;go_wp2;go_ret;exact⟨⟨_,rfl,by rw[Qe (by omega:(0:Int)<=(k:Int))];exact (List.any_eq_true.2 ⟨x,HM2.o,hp⟩).symm⟩,O1.o⟩
   | false =>
    rw[hp] at C;go_wp2_with fail;refine C.o.mono ?_;rintro e w1 ⟨rfl,o1⟩;have O1:=Qa (HO.o.same o1);clear C o1;go_wp2
    go_roundw
    case rel =>
     refine⟨k+1,by omega,by go_num,λj hj=>?_,O1.o⟩
     rcases Nat.lt_succ_iff_lt_or_eq.1 hj with h1 | rfl
     ·exact HN.o j h1
     ·rw[<-HX.o];exact hp
    case measure=>simp[intOf];omega
  ·obtain rfl:k=m:=by omega
   have HA:=Qa (NJ (p:=p) (s:=s) (d:=([],0)) (λj hj=>HN.o j (by rw[HM.o];exact hj)));clear HB HG HN;go_wp2;go_ret;exact⟨⟨_,rfl,by rw[HA.o];rfl⟩,HO.o⟩
theorem NZ (v:Value) (s:List (LI × Int)) (w:World) (h:Ens w v s) (hl:s.length<=9223372036854775806) (hu:Zf s) :
 Calls prog 75 #[v,.func (.func 77) #[] #[]] w λe w'=>e=.returned (.bool (s.any (λe:LI × Int=>decide (64<e.1.length))))∧N0 w w':=by
 have A:=Qa (pV v s w h hl hu);generalize s.any (λe:LI × Int=>decide (64<e.1.length))=z at *;clear h hl hu;go_enter func75,ntmps75;go_wp2_with fail;refine A.o.mono ?_;rintro e w1 ⟨⟨i,rfl,hi⟩,o1⟩;have O:=Qa o1;have HI:=Qa hi;clear A o1 hi;go_wp2;go_ret;exact⟨by rw[<-HI.o];rfl,O.o⟩
def pre {α:Type} (p:List α) (r:Except Int (List α × LI)):Except Int (List α × LI):=match r with
 | .error e=>.error e
 | .ok (l,t)=>.ok (p++l,t)
theorem Dc {α:Type} (r:Except Int (List α × LI)):pre [] r=r:=by cases r <;> rfl
theorem Sb {α:Type} (p q:List α) (r:Except Int (List α × LI)):pre p (pre q r)=pre (p++q) r:=by
 cases r with
 | error e=>rfl
 | ok x=>simp[pre]
theorem Tr {σ α:Type} {r:σ->Qz α} {nx:σ->α->σ} {s:σ} {e:Int} (h:r s ys=.error e):rdRep r nx (n+1) s ys=.error e:=by
 simp only[rdRep,h]
theorem Rx {σ α:Type} {r:σ->Qz α} {nx:σ->α->σ} {s:σ} {ys t:LI} {x:α} (h:r s ys=.ok (x,t)):rdRep r nx (n+1) s ys=pre [x] (rdRep r nx n (nx s x) t):=by
 simp only[rdRep,h]
 cases rdRep r nx n (nx s x) t with
 | error e=>rfl
 | ok y=>rfl
theorem kO {c:Int} (h:Qp n ys=([],0,c)) (hc:c≠0):rdK n ys=.error c:=by unfold rdK;rw[h,if_neg hc]
theorem Fp {ys b:LI} (h:Qp n ys=(b,k,0)):rdK n ys=.ok (b,ys.drop k):=by unfold rdK;rw[h,if_pos rfl]
theorem Fw {T:List (LI)} {x:LI} (h:0<T.length):Y3 T x=lexB (T.getD (T.length - 1) []) x:=by
 unfold Y3;rw[List.getLast?_eq_getElem?,Qh (by omega),Qc,Qh (by omega)]
 rfl
theorem ta {x y:LI} (hx:U8 x) (hy:U8 y):Op.bytesLess (strOfNums x).toList (strOfNums y).toList=lexB x y:=by rw[wB,sb_of hx,sb_of hy]
theorem LX (s:ByteArray):∀u∈[Value.string s],u.oneCell'=true:=by intro u hu;rw[List.mem_singleton] at hu;subst hu;rfl
theorem Tryz.infoStr:(prog.info? 9).map (λi=>(i.zero,i.size,i.bytes))=some (some (.string ⟨#[]⟩),1,16):=by kernel_rfl
structure TRd (w wr:World) (R:Nat) (v u:Value) (D:Except Int (List (LI) × LI)) (n k:Nat) (T:List (LI)) (ys:LI) (v2:Value):Prop where
 len:T.length=k
 all:∀x∈T,U8 x∧x.length<=64
 eq:D=pre T (rdTns (n - k) T ys)
 cur:CurAt 146 wr R v2 ys
 ob:v2.ownBlock=v.ownBlock
 row:wr.ownsRow w.heap.size 9 1 u k (UW T)
 on:Only (λj=>j=R) w wr
theorem TRd.err {w wr:World} {v u:Value} {D:Except Int (List (LI) × LI)} {T:List (LI)} {v2:Value} (h:TRd w wr R v u D n k T ys v2) (hk:k<n) {c:Int} (hc:rdTn T ys=.error c):D=.error c:=by
 rw[h.eq,show n - k=(n - k - 1)+1 by omega,rdTns,Tr hc]
 rfl
theorem TRd.go {w wr:World} {v u:Value} {D:Except Int (List (LI) × LI)} {T:List (LI)} {v2:Value} (h:TRd w wr R v u D n k T ys v2) (hk:k<n) {x t:LI} (hc:rdTn T ys=.ok (x,t)):D=pre (T++[x]) (rdTns (n - (k+1)) (T++[x]) t):=by
 rw[h.eq,show n - k=(n - (k+1))+1 by omega,rdTns,Rx hc,Sb]
 rfl
theorem uT (h:CurAt 146 w R v ys) (hR:R<w.heap.size) (hvb:∀j,v.ownBlock=some j->j<w.heap.size) :
 Calls prog 187 #[.pointer (some ⟨R,0,none⟩)] w (Zv w R v (rdDir ys) λd e w'=>∃u,e=.returned u∧w'.ownsRow w.heap.size 9 1 u d.2.length (UW d.2)∧d.2.length<=1048576∧∀x∈d.2,U8 x∧x.length<=64):=by
 obtain⟨i0,hi,hb,ho,hm⟩:=info_parts Tryz.infoStr;have A:=Qa (Lb h);have HV:=Qa hvb
 obtain⟨K,hK⟩:=EX (Zv w R v (rdDir ys) λd e w'=>∃u,e=.returned u∧w'.ownsRow w.heap.size 9 1 u d.2.length (UW d.2)∧d.2.length<=1048576∧∀x∈d.2,U8 x∧x.length<=64)
 rw[<-hK];have HK:=Qa hK;clear h hvb hK;go_enter func187,ntmps187;go_wp2_with fail;refine A.o.mono ?_;rintro e w0 ⟨o0,⟨c,h5,hr,rfl⟩ | ⟨n,hp,hr,⟨rfl,hn⟩,v0,c0,hl⟩⟩
 ·have HF:=Qa (Vz o0 (Wf (r2:=λn=>rdTns n []) hr))
  clear o0 A hr;unfold mpan;go_wp2;refine⟨rfl,?_⟩;rw[HK.o];exact⟨HF.o.1,.inl ⟨c,h5,HF.o.2,rfl⟩⟩
 ·have h2:=Qa hr
  obtain⟨D,hD⟩:=EX (rdTns n [] hp);have HD:=Qa hD;have F0:Hid (TRd w w0 R v (.slice none 0 0) D n 0 [] hp v0):=⟨rfl,by simp,by rw[Dc,hD];rfl,c0,hl,Xh,o0⟩;clear o0 A hr c0 hl hD;go_wp2
  go_loopw [3,8] (λu i wr=>∃k:Nat,k<=n∧i=.int .i64 k∧∃T zs v2,TRd w wr R v u D n k T zs v2) (λ_ i _=>n - (intOf i).toNat)
  case atStart=>exact⟨0,Nat.zero_le _,rfl,_,_,_,F0.o⟩
  case round =>
   clear F0;obtain⟨k,hk,rfl,T,zs,v2,ht⟩:=hrel;have HT:=Qa ht
   by_cases hlt:k<n
   ·have i1:(k:Int)<(n:Int):=by omega
    have B:=Qa (VK ht.cur 64 (by decide));have h3:=ht.cur.rng;clear ht
    rcases Zi (n:=64) h3 (by decide) (by decide) with ⟨c,hs,hc⟩ | ⟨x,q,hs,hxl,_,_,hsplit,_⟩
    ·have h5:c≠0:=by omega
     have HE:=Qa (HT.o.err hlt (Vi (kO (n:=64) hs h5)));rw[hs] at B;clear hs hc h3;go_wp2_with fail;refine B.o.mono ?_;rintro e w1 ⟨v1,rfl,_,_,_,v3,_,_,o1⟩;have O1:=Qa (HT.o.on.trans o1 (λi _ e=>e));clear B o1;go_wp2_with fail;refine (XB v1 c w1 h5).mono ?_;rintro e w' ⟨rfl,rfl⟩;unfold mpan;go_wp2;refine⟨rfl,?_⟩;rw[HK.o];exact⟨O1.o,.inl ⟨c,h5,Yt h2.o (HD.o.symm.trans HE.o),rfl⟩⟩
    ·rw[hs] at B
     have hx8:U8 x:=λy hy=>h3 y (by rw[hsplit];unfold blk;simp[hy])
     have he:=Qa hx8;have h9:=Qa (Fp (n:=64) hs);clear hs h3 hsplit;go_wp2_with fail;refine B.o.mono ?_;rintro e w1 ⟨v1,rfl,b1,_,_,v3,c3,hd,o1⟩;have hcv:=ZJ w1 v1 x b1;have O1:=Qa (HT.o.on.trans o1 (λi _ e=>e));have h0:=o1.own HT.o.row (λj hj e=>by have:=(HT.o.row.lt j hj).1;omega);have CC:=Qa (Vz c3 (hd.trans HT.o.ob));have hsz1:=O1.o.size;clear B o1 b1 c3 hd;go_wp2_with fail;refine (XE v1 w1).mono ?_;rintro e w' ⟨rfl,rfl⟩;have h7:=HT.o.len;obtain⟨P,hP⟩:=EX (Y3 T x)
     have h6:P=false->Hid (K (.panicked [{ v:=.iface 26 (.int .i64 3),recovered:=false }]) w1):=λhf=>by
      simp only[Hid];rw[HK.o];exact⟨O1.o,.inl ⟨3,by decide,Yt h2.o (HD.o.symm.trans (HT.o.err hlt (KX h9.o (by rw[<-hP];exact hf)))),rfl⟩⟩
     have h4:P=true->Hid (∀u' w',w'.ownsRow w.heap.size 9 1 u' (k+1) (UW T++[.string (strOfNums x)])->(w1.alloc (.cells #[.string (strOfNums x)] 9)).grownBy w' u3.ownBlock->TRd w w' R v u' D n (k+1) (T++[x]) (zs.drop q) v3):=λhf=>by
      intro u' w' hrow hg;have og:Only (λj=>u3.ownBlock=some j) w1 w':=((Only.refl _ w1).alloc _).grown hg (λj _ e=>e);refine⟨by simp[h7],λy hy=>?_,HT.o.go hlt (Wy h9.o (by rw[<-hP];exact hf)),CC.o.1.keep og (λe=>by have:=(h0.lt R e).1;omega) (λj hj e=>?_),CC.o.2,by rw[UW,List.map_append];exact hrow,O1.o.trans og (λi hi e=>by have:=(h0.lt i e).1;omega)⟩
      ·rcases List.mem_append.1 hy with h1 | h1
       ·exact HT.o.all y h1
       ·rw[List.mem_singleton] at h1;subst h1;exact⟨he.o,by omega⟩
      ·rw[CC.o.2] at hj
       have:=HV.o j hj;have:=(h0.lt j e).1;omega
     by_cases hk0:k=0
     ·subst hk0
      have ha:T=[]:=List.eq_nil_of_length_eq_zero h7;have NX:=h4 (by rw[hP,ha];rfl);clear h6 h4 hP ha CC HT
      go_wp2_with (first
       | (go_at_call 184;refine (Ux 3 w1).mono ?_;rintro e w' ⟨rfl,rfl⟩)
       | (at_builtin;refine wpList_append_own _ rfl _ _ 58 rfl w.heap.size 9 i0 (.string ⟨#[]⟩) 1 16 underlying58 hi hb ho hm rfl (by decide) _ 0 _ rfl (h0.alloc _) ⟨w1.heap.size,0,none⟩ 1 1 [.string (strOfNums x)] rfl rfl (cell_one_new _ _ _) (LX _) (by unfold maxLen;omega) (by omega) (by simp;omega) ?_;intro v' w2 hown' hgrow2 _)
       | fail)
      go_roundw
      case rel=>exact⟨1,by omega,by go_num,_,_,_,NX.o _ _ hown' hgrow2⟩
      case measure=>simp[intOf];omega
     ·have d0:((k:Int) == 0)=false:=by rw[beq_eq_false_iff_ne];omega
      have h8:T.length=k:=h7;obtain⟨b,off,cap,eu,hcl⟩:=(Sts.of_own (w:=w1) (v:=u3) (T:=T) (by rw[h8];exact h0)).at (k - 1) (by omega);rw[h8] at eu
      have hh:Op.bytesLess (strOfNums (T.getD (k - 1) [])).toList (strOfNums x).toList=P:=by
       rw[ta (HT.o.all _ (Uk (by omega))).1 he.o,hP,Fw (by omega),h8]
      generalize T.getD (k - 1) []=y at *;subst eu
      have hw1:IntKind.i64.wrap ((k:Int) - 1)=((k - 1:Nat):Int):=by rw[IntKind.wrap_i64];omega
      have q0:(0:Int)<=((k - 1:Nat):Int):=by omega
      have q1:((k - 1:Nat):Int)<(k:Int):=by omega
      cases hPP:P with
      | false =>
       have FN:=h6 hPP;rw[hPP] at hh;clear h6 h4 CC HT
       go_wp2_with (first
        | (go_at_call 184;refine (UK 3 w1).mono ?_;rintro e w' ⟨rfl,rfl⟩;unfold mpan)
        | fail)
       exact⟨rfl,FN.o⟩
      | true =>
       have NX:=h4 hPP;rw[hPP] at hh;clear h6 h4 CC HT
       go_wp2_with (first
        | (go_at_call 184;refine (Ux 3 w1).mono ?_;rintro e w' ⟨rfl,rfl⟩)
        | (at_builtin;refine wpList_append_own _ rfl _ _ 58 rfl w.heap.size 9 i0 (.string ⟨#[]⟩) 1 16 underlying58 hi hb ho hm rfl (by decide) _ k _ rfl (h0.alloc _) ⟨w1.heap.size,0,none⟩ 1 1 [.string (strOfNums x)] rfl rfl (cell_one_new _ _ _) (LX _) (by unfold maxLen;omega) (by omega) (by simp;omega) ?_;intro v' w2 hown' hgrow2 _)
        | fail)
       go_roundw
       case rel=>exact⟨k+1,by omega,by go_num,_,_,_,NX.o _ _ hown' hgrow2⟩
       case measure=>simp[intOf];omega
   ·obtain rfl:k=n:=by omega
    have hKK:=HK.o;clear ht HK;subst hKK;go_wp2;go_ret
    have e1:D=.ok (T,zs):=by
     rw[HT.o.eq,Nat.sub_self];simp[rdTns,rdRep,pre]
    refine⟨HT.o.on,.inr ⟨(k,T),zs,WJ h2.o (HD.o.symm.trans e1),⟨_,rfl,?_,?_,HT.o.all⟩,v2,HT.o.cur,HT.o.ob⟩⟩
    ·have:=HT.o.row
     rw[<-HT.o.len] at this;exact this
    ·have:=HT.o.len
     simp only;omega
theorem Iy:rdB 1 []=.error 2:=rfl
theorem SJ (y:Int) (t:LI):rdB 1 (y :: t)=.ok ([y],t):=by simp[rdB]
theorem CV {L:Nat} {c:Int} (h:Qd ys=(0,0,c)) (hc:c≠0):rdEn L ys=.error c:=Wf (Vi (MP h hc))
theorem EK {L:Nat} {a k:Nat} (h:Qd ys=((a:Int),k,0)) (ha:L<=a):rdEn L ys=.error 3:=Wf (KX (Vm h) (Qi (by omega)))
theorem pN {L:Nat} {a k:Nat} (h:Qd ys=((a:Int),k,0)) (ha:a<L) (hd:ys.drop k=[]):rdEn L ys=.error 2:=by
 have h1:=Vm h;rw[hd] at h1;exact Yt (Wy h1 (Qe ha)) (Vi Iy)
theorem xF {L:Nat} {ys t:LI} {a k:Nat} {y:Int} (h:Qd ys=((a:Int),k,0)) (ha:a<L) (hd:ys.drop k=y :: t) (hy:8<y):rdEn L ys=.error 3:=by
 have h1:=Vm h;rw[hd] at h1;exact Yt (Wy h1 (Qe ha)) (KX (SJ y t) (Qi (by simp;omega)))
theorem en_ok {L:Nat} {ys t:LI} {a k:Nat} {y:Int} (h:Qd ys=((a:Int),k,0)) (ha:a<L) (hd:ys.drop k=y :: t) (hy:y<=8):rdEn L ys=.ok ((a,[y]),t):=by
 have h1:=Vm h;rw[hd] at h1;exact WJ (Wy h1 (Qe ha)) (Wy (SJ y t) (Qe (by simpa using hy)))
theorem lf:sByte []=(0,0,2):=rfl
theorem qe (y:Int) (t:LI):sByte (y :: t)=(y,1,0):=rfl
def Ys (T:List (LI)) (t:Nat × LI):LI × Int:=(T.getD t.1 [],t.2.getD 0 0)
theorem Tryz.infoEn:(prog.info? 93).map (λi=>(i.zero,i.size,i.bytes))=some (some (.agg #[.string ⟨#[]⟩,.int .i64 0]),2,24):=by kernel_rfl
theorem Jz (w:World) (x y:Value) (t:TypeId):∀j u,[x,y][j]? = some u->(w.alloc (.cells #[x,y] t)).cell? ((⟨w.heap.size,0,none⟩:Addr).add j)=some u:=by
 intro j u h;have hb:=heap_alloc_new w (.cells #[x,y] t);rw[Go.WideShapes.add_plain,Nat.zero_add,<-h];unfold World.cell?;simp only;rw[hb]
 match j with
 | 0=>rfl
 | 1=>rfl
 | j+2=>simp
theorem qI (s:ByteArray) (y:Int):∀u∈[Value.string s,.int .i64 y],u.oneCell'=true:=by
 intro u hu;simp only[List.mem_cons,List.not_mem_nil,or_false] at hu
 rcases hu with rfl | rfl <;> rfl
structure ERd (w wr:World) (R:Nat) (v u:Value) (D:Except Int (List (Nat × LI) × LI)) (T:List (LI)) (n k:Nat) (ts:List (Nat × LI)) (ys:LI) (v2:Value):Prop where
 len:ts.length=k
 all:∀t∈ts,t.1<T.length
 eq:D=pre ts (rdEns T.length (n - k) ys)
 cur:CurAt 146 wr R v2 ys
 ob:v2.ownBlock=v.ownBlock
 row:wr.ownsRow w.heap.size 93 2 u k (YJ (ts.map (Ys T)))
 on:Only (λj=>j=R) w wr
theorem ERd.err {w wr:World} {v u:Value} {D:Except Int (List (Nat × LI) × LI)} {T:List (LI)} {ts:List (Nat × LI)} {v2:Value} (h:ERd w wr R v u D T n k ts ys v2) (hk:k<n) {c:Int} (hc:rdEn T.length ys=.error c):D=.error c:=by
 rw[h.eq,show n - k=(n - k - 1)+1 by omega,rdEns,Tr (r:=λ_:Unit=>rdEn T.length) (s:=()) hc]
 rfl
theorem ERd.go {w wr:World} {v u:Value} {D:Except Int (List (Nat × LI) × LI)} {T:List (LI)} {ts:List (Nat × LI)} {v2:Value} (h:ERd w wr R v u D T n k ts ys v2) (hk:k<n) {x:Nat × LI} {t:LI} (hc:rdEn T.length ys=.ok (x,t)):D=pre (ts++[x]) (rdEns T.length (n - (k+1)) t):=by
 rw[h.eq,show n - k=(n - (k+1))+1 by omega,rdEns,Rx (r:=λ_:Unit=>rdEn T.length) (s:=()) hc,Sb]
 rfl
theorem Ia {v vt:Value} {T:List (LI)} (h:CurAt 146 w R v ys) (hR:R<w.heap.size) (hvb:∀j,v.ownBlock=some j->j<w.heap.size) (hst:Sts w vt T) (hvt:∀j,vt.ownBlock=some j->j≠R) (hTl:T.length<=1048576) :
 Calls prog 188 #[.pointer (some ⟨R,0,none⟩),vt] w (Zv w R v (rdAll T.length ys) λd e w'=>∃u,e=.returned u∧w'.ownsRow w.heap.size 93 2 u d.2.length (YJ (d.2.map (Ys T)))∧d.2.length<=1048576∧∀t∈d.2,t.1<T.length):=by
 obtain⟨i0,hi,hz0,hz1,hz2⟩:=info_parts Tryz.infoEn;have A:=Qa (Lb h);have HV:=Qa hvb;have h6:=Qa hvt;have hf:=Qa hst;obtain⟨at1,ct1,et1⟩:=hst.len;subst et1
 obtain⟨K,hK⟩:=EX (Zv w R v (rdAll T.length ys) λd e w'=>∃u,e=.returned u∧w'.ownsRow w.heap.size 93 2 u d.2.length (YJ (d.2.map (Ys T)))∧d.2.length<=1048576∧∀t∈d.2,t.1<T.length)
 rw[<-hK];have HK:=Qa hK;obtain⟨L,hL⟩:=EX T.length;have HL:=Qa hL;rw[<-hL] at hf h6 hTl;rw[<-hL]
 have hwL:IntKind.u64.wrap (L:Int)=L:=by rw[IntKind.wrap_u64];omega
 clear h hvb hK hst hvt hL;go_enter func188,ntmps188;go_wp2_with fail;refine A.o.mono ?_;rintro e w0 ⟨o0,⟨c,h5,hr,rfl⟩ | ⟨n,hd,hr,⟨rfl,hn⟩,v0,c0,ha⟩⟩
 ·have HF:=Qa (Vz o0 (Wf (r2:=λn=>rdEns T.length n) hr))
  clear o0 A hr;unfold mpan;go_wp2;refine⟨rfl,?_⟩;rw[HK.o];exact⟨HF.o.1,.inl ⟨c,h5,HF.o.2,rfl⟩⟩
 ·have h3:=Qa hr
  obtain⟨D,hD⟩:=EX (rdEns T.length n hd);have HD:=Qa hD;have F0:Hid (ERd w w0 R v (.slice none 0 0) D T n 0 [] hd v0):=⟨rfl,by simp,by rw[Dc,hD];rfl,c0,ha,Xh,o0⟩;clear o0 A hr c0 ha hD;go_wp2
  go_loopw [5,10] (λu i wr=>∃k:Nat,k<=n∧i=.int .i64 k∧∃ts zs v2,ERd w wr R v u D T n k ts zs v2) (λ_ i _=>n - (intOf i).toNat)
  case atStart=>exact⟨0,Nat.zero_le _,rfl,_,_,_,F0.o⟩
  case round =>
   clear F0;obtain⟨k,hk,rfl,ts,zs,v2,ht⟩:=hrel;have HT:=Qa ht
   by_cases hlt:k<n
   ·have i1:(k:Int)<(n:Int):=by omega
    have B:=Qa (YF ht.cur);have h0:=ht.cur.rng
    have h4:Hid (∀c w',c≠0->rdEn T.length zs=.error c->Only (λj=>j=R) wr w'->K (.panicked [{ v:=.iface 26 (.int .i64 c),recovered:=false }]) w'):=by
     intro c w' hc he ho;rw[HK.o];exact⟨HT.o.on.trans ho (λi _ e=>e),.inl ⟨c,hc,Yt h3.o (HD.o.symm.trans (HT.o.err hlt he)),rfl⟩⟩
    clear ht
    rcases Ue h0 with ⟨c,hs,hc⟩ | ⟨a,q,hs,_,_,ha64,_⟩
    ·have h5:c≠0:=by omega
     have HE:=Qa (CV (L:=T.length) hs h5);rw[hs] at B;clear hs hc h0;go_wp2_with fail;refine B.o.mono ?_;rintro e w1 ⟨rfl,v3,_,_,o1⟩;have FN:=Qa (h4.o c w1 h5 HE.o o1);clear B o1;go_wp2_with fail;refine (GU _ c w1 h5).mono ?_;rintro e w' ⟨rfl,rfl⟩;unfold mpan;go_wp2;exact⟨rfl,FN.o⟩
    ·have HS:=Qa hs
     rw[hs] at B;clear hs
     by_cases haL:a<L
     ·have d1:decide ((a:Int)<(L:Int))=true:=by simp;omega
      have d2:decide (a<L)=true:=by simp;omega
      have q0:(0:Int)<=(a:Int):=by omega
      have q1:(a:Int)<(L:Int):=by omega
      go_wp2_with fail;refine B.o.mono ?_;rintro e w1 ⟨rfl,v3,c3,h9,o1⟩;have O1:=Qa o1;have BY:=Qa (Ur c3);have OB3:=Qa h9;clear B o1 c3 h9;go_wp2_with fail;refine (Zp _ w1).mono ?_;rintro e w' ⟨rfl,rfl⟩;go_wp2_with fail;refine (Ux 3 w1).mono ?_;rintro e w' ⟨rfl,rfl⟩
      have h7:∀y∈zs.drop q,0<=y∧y<=255:=λy hy=>h0 y (List.mem_of_mem_drop hy)
      rcases hdd:zs.drop q with _ | ⟨y,t⟩
      ·rw[hdd,lf] at BY
       have HE:=Qa (pN (L:=T.length) HS.o (by rw[<-HL.o];exact haL) hdd);clear hdd h7 h0;go_wp2_with fail;refine BY.o.mono ?_;rintro e w2 ⟨rfl,v4,_,_,o2⟩;have FN:=Qa (h4.o 2 w2 (by decide) HE.o (O1.o.trans o2 (λi _ e=>e)));clear BY o2;go_wp2_with fail;refine (OH _ 2 w2 (by decide)).mono ?_;rintro e w' ⟨rfl,rfl⟩;unfold mpan;go_wp2;exact⟨rfl,FN.o⟩
      ·have hy:=h7 y (by rw[hdd];exact List.mem_cons_self)
       rw[hdd,qe] at BY;have hb:=Qa hdd
       have hwy:IntKind.i64.wrap y=y:=by rw[IntKind.wrap_i64];omega
       clear hdd h7 h0;go_wp2_with fail;refine BY.o.mono ?_;rintro e w2 ⟨rfl,v4,c4,h8,o2⟩;have O2:=Qa (O1.o.trans o2 (λi _ e=>e));have CC:=Qa (Vz c4 (h8.trans (OB3.o.trans HT.o.ob)));clear BY o2 c4 h8;go_wp2_with fail;refine (EP _ w2).mono ?_;rintro e w' ⟨rfl,rfl⟩;go_wp2_with fail;refine (TD y w2).mono ?_;rintro e w3 ⟨rfl,o3⟩;have O3:=Qa (O2.o.trans o3 (λi _ f=>f.elim));have C3:=Qa (Vz (CC.o.1.keep o3 (λf=>f) (λ_ _ f=>f)) CC.o.2);clear o3 CC O2
       by_cases hy8:y<=8
       ·have eb:okB y=true:=Qe ⟨by omega,hy8⟩
        rw[eb];have h2:=O3.o.own HT.o.row (λj hj e=>by have:=(HT.o.row.lt j hj).1;omega);obtain⟨b,off,cap,eu,hcl⟩:=((hf.o.keep HT.o.on (λj hj e=>h6.o j hj e)).keep O3.o (λj hj e=>h6.o j hj e)).at a (by rw[<-HL.o];exact haL);rw[<-HL.o] at eu;simp only[Value.slice.injEq] at eu;obtain⟨rfl,_,rfl⟩:=eu;have OW:=Qa (HT.o.on.trans O3.o (λi _ e=>e));have hsz3:=OW.o.size
        have NX:Hid (∀u' w',w'.ownsRow w.heap.size 93 2 u' (k+1) (YJ (ts.map (Ys T))++[.string (strOfNums (T.getD a [])),.int .i64 y])->(w3.alloc (.cells #[.string (strOfNums (T.getD a [])),.int .i64 y] 93)).grownBy w' u5.ownBlock->ERd w w' R v u' D T n (k+1) (ts++[(a,[y])]) t v4):=by
         intro u' w' hrow hg;have og:Only (λj=>u5.ownBlock=some j) w3 w':=((Only.refl _ w3).alloc _).grown hg (λj _ e=>e);refine⟨by simp[HT.o.len],λz hz=>?_,HT.o.go hlt (en_ok HS.o (by rw[<-HL.o];exact haL) hb.o hy8),?_,C3.o.2,by rw[List.map_append,List.map_cons,List.map_nil,tH];exact hrow,OW.o.trans og (λi hi e=>by have:=(h2.lt i e).1;omega)⟩
         ·rcases List.mem_append.1 hz with h1 | h1
          ·exact HT.o.all z h1
          ·rw[List.mem_singleton] at h1;subst h1;simp only;rw[<-HL.o];exact haL
         ·have c5:=C3.o.1
          rw[List.drop_succ_cons,List.drop_zero] at c5;refine c5.keep og (λe=>by have:=(h2.lt R e).1;omega) (λj hj e=>?_);rw[C3.o.2] at hj;have:=HV.o j hj;have:=(h2.lt j e).1;omega
        generalize T.getD a []=x at *;clear h4 C3 HT h6
        go_wp2_with (first
         | (go_at_call 184;refine (Ux 3 w3).mono ?_;rintro e w' ⟨rfl,rfl⟩)
         | (at_builtin;refine wpList_append_own _ rfl _ _ 63 rfl w.heap.size 93 i0 (.agg #[.string ⟨#[]⟩,.int .i64 0]) 2 24 underlying63 hi hz0 hz1 hz2 rfl (by decide) _ k _ rfl (h2.alloc _) ⟨w3.heap.size,0,none⟩ 1 1 [.string (strOfNums x),.int .i64 y] rfl rfl (Jz _ _ _ _) (qI _ _) (by unfold maxLen;omega) (by omega) (by simp;omega) ?_;intro v' w4 hown' hgrow' _)
         | fail)
        go_roundw
        case rel=>exact⟨k+1,by omega,by go_num,_,_,_,NX.o _ _ hown' hgrow'⟩
        case measure=>simp[intOf];omega
       ·have eb:okB y=false:=Qi (by omega)
        rw[eb];have FN:=Qa (h4.o 3 w3 (by decide) (xF HS.o (by rw[<-HL.o];exact haL) hb.o (by omega)) O3.o);clear h4 C3 HT;go_wp2_with fail;refine (UK 3 w3).mono ?_;rintro e w' ⟨rfl,rfl⟩;unfold mpan;go_wp2;exact⟨rfl,FN.o⟩
     ·have d1:decide ((a:Int)<(L:Int))=false:=by simp;omega
      have d2:decide (a<L)=false:=by simp;omega
      have HE:=Qa (EK HS.o (by rw[<-HL.o];omega:T.length<=a));go_wp2_with fail;refine B.o.mono ?_;rintro e w1 ⟨rfl,v3,_,_,o1⟩;have FN:=Qa (h4.o 3 w1 (by decide) HE.o o1);clear B o1;go_wp2_with fail;refine (Zp _ w1).mono ?_;rintro e w' ⟨rfl,rfl⟩;go_wp2_with fail;refine (UK 3 w1).mono ?_;rintro e w' ⟨rfl,rfl⟩;unfold mpan;go_wp2;exact⟨rfl,FN.o⟩
   ·obtain rfl:k=n:=by omega
    have hKK:=HK.o;clear ht HK;subst hKK;go_wp2;go_ret
    have e1:D=.ok (ts,zs):=by
     rw[HT.o.eq,Nat.sub_self];simp[rdEns,rdRep,pre]
    refine⟨HT.o.on,.inr ⟨(k,ts),zs,WJ h3.o (HD.o.symm.trans e1),⟨_,rfl,?_,?_,HT.o.all⟩,v2,HT.o.cur,HT.o.ob⟩⟩
    ·have:=HT.o.row
     rw[<-HT.o.len] at this;exact this
    ·have:=HT.o.len
     simp only;omega
theorem XX (h:ys.length<n):rdB n ys=.error 2:=if_pos h
theorem KQ (h:¬ys.length<n):rdB n ys=.ok (ys.take n,ys.drop n):=if_neg h
theorem jt (h:ys.length<4):rdHd ys=.error 2:=Vi (XX h)
theorem hd_no (h:¬ys.length<4) (hx:ys.take 4≠Q6):rdHd ys=.error 3:=KX (KQ h) (by simpa using hx)
theorem hd_ok (h:¬ys.length<4) (hx:ys.take 4=Q6):rdHd ys=.ok (Q6,ys.drop 4):=by
 have:=KQ h;rw[hx] at this;exact Wy this (by simp)
theorem DQ {α β:Type} {r:Qz α} {f:α->β} {e:Int} (h:r ys=.error e):rdAs r f ys=.error e:=by unfold rdAs;rw[h]
theorem as_ok {α β:Type} {r:Qz α} {f:α->β} {ys t:LI} {x:α} (h:r ys=.ok (x,t)):rdAs r f ys=.ok (f x,t):=by unfold rdAs;rw[h]
theorem AH (h:ys.length<8):rdVer ys=.error 2:=DQ (Vi (XX h))
theorem tN (h:¬ys.length<8) (hx:num (ys.take 8)=18446744073709551615):rdVer ys=.error 3:=DQ (KX (KQ h) (Qi (by simp[hx])))
theorem zR (h:¬ys.length<8) (hx:num (ys.take 8)≠18446744073709551615):rdVer ys=.ok (num (ys.take 8),ys.drop 8):=as_ok (Wy (KQ h) (Qe hx))
theorem Vp {c:Int} (h:WB ys=.error c):MDEC ys=.error c:=by unfold MDEC;rw[h]
section
variable {ys y1 y2 y3 y4 y5 y6:LI} {hd p r:LI} {v:Nat} {d:Nat × List (LI)} {a:Nat × List (Nat × LI)} {c:Int}
theorem M1 (h:rdHd ys=.error c):MDEC ys=.error c:=Vp (Wf h)
theorem M2 (h1:rdHd ys=.ok (hd,y1)) (h:rdVer y1=.error c):MDEC ys=.error c:=Vp (Yt h1 (Wf h))
theorem M3 (h1:rdHd ys=.ok (hd,y1)) (h2:rdVer y1=.ok (v,y2)) (h:rdB 32 y2=.error c):MDEC ys=.error c:=Vp (Yt h1 (Yt h2 (Wf h)))
theorem M4 (h1:rdHd ys=.ok (hd,y1)) (h2:rdVer y1=.ok (v,y2)) (h3:rdB 32 y2=.ok (p,y3)) (h:rdDir y3=.error c):MDEC ys=.error c:=Vp (Yt h1 (Yt h2 (Yt h3 (Wf h))))
theorem M5 (h1:rdHd ys=.ok (hd,y1)) (h2:rdVer y1=.ok (v,y2)) (h3:rdB 32 y2=.ok (p,y3)) (h4:rdDir y3=.ok (d,y4)) (h:rdAll d.2.length y4=.error c):MDEC ys=.error c:=Vp (Yt h1 (Yt h2 (Yt h3 (Yt h4 (Wf h)))))
theorem M6 (h1:rdHd ys=.ok (hd,y1)) (h2:rdVer y1=.ok (v,y2)) (h3:rdB 32 y2=.ok (p,y3)) (h4:rdDir y3=.ok (d,y4)) (h5:rdAll d.2.length y4=.ok (a,y5)) (h:rdB 32 y5=.error c):MDEC ys=.error c:=Vp (Yt h1 (Yt h2 (Yt h3 (Yt h4 (Yt h5 h)))))
theorem Mall (h1:rdHd ys=.ok (hd,y1)) (h2:rdVer y1=.ok (v,y2)) (h3:rdB 32 y2=.ok (p,y3)) (h4:rdDir y3=.ok (d,y4)) (h5:rdAll d.2.length y4=.ok (a,y5)) (h6:rdB 32 y5=.ok (r,y6)):WB ys=.ok ((hd,v,p,d,a,r),y6) :=
 WJ h1 (WJ h2 (WJ h3 (WJ h4 (WJ h5 h6))))
theorem M7 (h:WB ys=.ok ((hd,v,p,d,a,r),y6)) (hn:y6≠[]):MDEC ys=.error 3:=by unfold MDEC;rw[h];simp only[if_neg hn]
theorem M8 (h:WB ys=.ok ((hd,v,p,d,a,r),y6)) (hn:y6=[]) (hu:¬UF d.2.length a.2=true):MDEC ys=.error 3:=by unfold MDEC;rw[h];simp only[if_pos hn,if_neg hu]
theorem M9 (h:WB ys=.ok ((hd,v,p,d,a,r),y6)) (hn:y6=[]) (hu:UF d.2.length a.2=true):MDEC ys=.ok ⟨v,p,a.2.map (Ys d.2),r⟩:=by unfold MDEC;rw[h];simp only[if_pos hn,if_pos hu];rfl
end
theorem Dn {α:Type} [DecidableEq α]:∀(a b:List α),a.Nodup->(∀x∈a,x∈b)->a.length<=b.length
 | [],b,_,_=>by simp
 | x :: a,b,hn,hs=>by
  rw[List.nodup_cons] at hn;have hx:=hs x List.mem_cons_self
  have ih:=Dn a (b.erase x) hn.2 (λy hy=>by
   have:y≠x:=λe=>hn.1 (by rw[<-e];exact hy)
   exact (List.mem_erase_of_ne this).2 (hs y (List.mem_cons_of_mem _ hy)))
  rw[List.length_erase_of_mem hx] at ih;have:=List.length_pos_of_mem hx;simp only[Qk];omega
theorem Be {T:List (LI)} {ts:List (Nat × LI)} (hr:RIS T) (ha:∀t∈ts,t.1<T.length):(Yy ((ts.map (Ys T)).map Prod.fst)).length=T.length↔UF T.length ts=true:=by
 have h0:∀x∈(ts.map (Ys T)).map Prod.fst,x∈T:=λx hx=>by
  obtain⟨e,he,rfl⟩:=List.mem_map.1 hx;obtain⟨t,ht,rfl⟩:=List.mem_map.1 he;exact Uk (ha t ht)
 constructor
 ·intro hlen
  unfold UF;rw[List.all_eq_true];intro i hi;rw[List.mem_range] at hi
  by_cases hin:T.getD i []∈(ts.map (Ys T)).map Prod.fst
  ·obtain⟨e,he,e1⟩:=List.mem_map.1 hin
   obtain⟨t,ht,rfl⟩:=List.mem_map.1 he;rw[List.any_eq_true];refine⟨t,ht,?_⟩;rw[beq_iff_eq,<-ZO hr (ha t ht),<-ZO hr hi];exact congrArg _ e1
  ·exfalso
   have hx:T.getD i []∈T:=Uk hi
   have:=Dn (Yy ((ts.map (Ys T)).map Prod.fst)) (T.erase (T.getD i [])) (Vt _).nodup (λy hy=>by
    have h1:=(UQ _ _).1 hy
    have hne:y≠T.getD i []:=λe=>hin (by rw[<-e];exact h1)
    exact (List.mem_erase_of_ne hne).2 (h0 y h1))
   rw[List.length_erase_of_mem hx] at this;omega
 ·intro hu
  rw[<-Gy hr (λx=>⟨λhx=>?_,h0 x⟩)];have hi:=WU hx;unfold UF at hu;rw[List.all_eq_true] at hu;have:=hu (Y8 T x) (List.mem_range.2 hi);rw[List.any_eq_true] at this;obtain⟨t,ht,e⟩:=this;rw[beq_iff_eq] at e;refine List.mem_map.2 ⟨Ys T t,List.mem_map.2 ⟨t,ht,rfl⟩,?_⟩;unfold Ys;simp only[e];exact Z5 hx
theorem AY {ys t:LI} {d:Nat × List (LI)} (h8:U8 ys) (h:rdDir ys=.ok (d,t)):RIS d.2:=by
 obtain⟨⟨_,g⟩,_⟩:=Qvd.only ys d t h8 h;have hn:=XN g;rw[<-hn] at g;have:=(Zh d.2 [] List.Pairwise.nil).1 g;rw[List.nil_append] at this;exact this.1
section
open Go.Maps
def b8 (x:LI):List UInt8:=x.map λn=>UInt8.ofNat n.toNat
def i8 (l:List UInt8):LI:=l.map λc=>(c.toNat:Int)
theorem i8_b8 {x:LI} (h:U8 x):i8 (b8 x)=x:=by
 unfold i8 b8;rw[List.map_map];refine (List.map_congr_left (g:=id) (λy hy=>?_)).trans (List.map_id _);have:=h y hy;simp only[Function.comp,id];rw[UInt8.toNat_ofNat'];omega
theorem b8_i8 (l:List UInt8):b8 (i8 l)=l:=by
 unfold i8 b8;rw[List.map_map];refine (List.map_congr_left (g:=id) (λy _=>?_)).trans (List.map_id _);simp
theorem i8_u8 (l:List UInt8):U8 (i8 l):=by
 intro y hy;simp only[i8,List.mem_map] at hy;obtain⟨c,_,rfl⟩:=hy;have:=c.toNat_lt;omega
theorem Cf {x y:LI} (hx:U8 x) (hy:U8 y) (h:b8 x=b8 y):x=y:=by rw[<-i8_b8 hx,<-i8_b8 hy,h]
theorem Fd (x:LI):Value.string (strOfNums x)=encStr (b8 x):=rfl
theorem Rw (x:LI):(strOfNums x).size=x.length:=strOfNums_size x
abbrev kS (x:LI):Lit:=.string (b8 x)
theorem Dr (x:LI):WideAt.IsKeyLit (kS x):=by simp[WideAt.IsKeyLit]
theorem kS_ne {x y:LI} (hx:U8 x) (hy:U8 y) (h:x≠y):kS x≠kS y:=λe=>h (Cf hx hy (by injection e))
theorem JS {k:TypeId} (hk:P.underlying k=some .string) (x:LI) (h:x.length<=maxLen):keyOf P k (.string (strOfNums x))=some (kS x):=by
 have:(strOfNums x).size<=maxLen:=by rw[Rw];exact h
 simp[keyOf,hk,mapKey,this]
 rfl
def HasT (D:DataW Unit) (T:List (LI)):Prop:=∀x,U8 x->Maps.has D (kS x)=decide (x∈T)
def Mm (D:DataW Unit) (T:List (LI)):Prop:=∀x,x∈T->∀z,D.atKey (kS x) z=.lit (.int .i64 (Y8 T x:Nat))
theorem HasT.put {D:DataW Unit} {T:List (LI)} (h:HasT D T) (hD:IsMap D) {x:LI} (hx:U8 x) (d:DataW Unit):HasT (D.put (kS x) d) (T++[x]):=by
 intro y hy
 by_cases e:y=x
 ·subst e
  rw[has_put_same hD (Dr y),Qe (by simp)]
 ·rw[has_put_other (kS_ne hy hx e),h y hy,decide_eq_decide]
  simp[e]
theorem LU {k:TypeId} (hk:P.underlying k=some .string) {R:Value->Option (DataW Unit × List MemPlace)} {w:World} {b n:Nat} {D:DataW Unit} (h:w.ownsMap P k R b n D) :
 (strKeys D).Nodup∧(∀x,x∈strKeys D↔Maps.has D (.string x)=true)∧(strKeys D).length=Maps.size D:=by
 obtain⟨es,rfl,hp,_⟩:=h.entries (string_keyed hk);obtain⟨es',e',hks⟩:=h.keysOf
 cases e'
 have h1:∀p∈es,∃x,p.1=.string x:=λp h0=>by
  obtain⟨v,hv⟩:=hks p h0;obtain⟨x,_,e,_⟩:=Maps.keyOf_str hk hv;exact⟨x,e⟩
 refine⟨?_,λx=>?_,by simp[strKeys,Maps.size]⟩
 ·show (es.map λp=>strOf p.1).Nodup
  refine List.pairwise_map.2 (hp.imp_of_mem λ{p q} h0 hq' hne e=>hne ?_);obtain⟨a,ha⟩:=h1 p h0;obtain⟨b,hb⟩:=h1 q hq';rw[ha,hb] at e ⊢;exact congrArg _ e
 ·rw[has_eq,List.any_eq_true]
  show x∈es.map (λp=>strOf p.1)↔_
  rw[List.mem_map]
  constructor
  ·rintro⟨p,h0,rfl⟩
   obtain⟨a,ha⟩:=h1 p h0;exact⟨p,h0,by rw[ha];simp[Lit.sameKey,strOf]⟩
  ·rintro⟨p,h0,hs⟩
   obtain⟨a,ha⟩:=h1 p h0;rw[ha] at hs;exact⟨p,h0,by rw[ha];simpa [Lit.sameKey,strOf] using hs⟩
theorem LK {D:DataW Unit} {T:List (LI)} (hU:∀x∈T,U8 x) (hT:HasT D T) (hn:(strKeys D).Nodup) (hm:∀x,x∈strKeys D↔Maps.has D (.string x)=true) {ss:List (List UInt8)} (hp:ss.Perm (strKeys D)) :
 (ss.mergeSort (λx y=>decide (x<=y))).map i8=Yy T:=by
 have tr:∀a b c:List UInt8,decide (a<=b)=true->decide (b<=c)=true->decide (a<=c)=true:=λa b c h1 h2=>by simp only[decide_eq_true_eq] at *;exact List.le_trans h1 h2
 have to:∀a b:List UInt8,(decide (a<=b) || decide (b<=a))=true:=λa b=>by simp only[Bool.or_eq_true,decide_eq_true_eq];exact List.le_total a b
 have pw:=List.pairwise_mergeSort (le:=λx y:List UInt8=>decide (x<=y)) tr to ss;have pp:=List.mergeSort_perm ss (λx y=>decide (x<=y));refine Gy (xo (pw.imp λ{a b} k=>?_) ((pp.trans hp).nodup_iff.2 hn)) (λx=>?_)
 ·have k':a<=b:=by simpa using k
  rw[bytesLess_eq,decide_eq_false_iff_not];exact k'
 ·rw[List.mem_map]
  constructor
  ·rintro⟨s,hs,rfl⟩
   have h1:=(hm s).1 ((pp.trans hp).mem_iff.1 hs);have h2:=hT (i8 s) (i8_u8 s);rw[show kS (i8 s)=.string s by rw[kS,b8_i8]] at h2;rw[h2] at h1;exact of_decide_eq_true h1
  ·intro hx
   refine⟨b8 x,(pp.trans hp).mem_iff.2 ((hm _).2 ?_),i8_b8 (hU x hx)⟩;rw[show (Lit.string (b8 x))=kS x from rfl,hT x (hU x hx),Qe hx]
theorem AO (l:List (List UInt8)):l.map encStr=(l.map i8).map λx=>Value.string (strOfNums x):=by
 rw[List.map_map];refine List.map_congr_left (λs _=>?_);simp only[Function.comp];rw[Fd,b8_i8]
theorem RZ {D:DataW Unit} {T:List (LI)} (hU:∀x∈T,U8 x) (hT:HasT D T) (hn:(strKeys D).Nodup) (hm:∀x,x∈strKeys D↔Maps.has D (.string x)=true) (hs:(strKeys D).length=Maps.size D):Maps.size D=(Yy T).length:=by
 rw[<-LK hU hT hn hm (List.Perm.refl _),List.length_map,List.length_mergeSort,hs]
end
section
open Go.Maps Go.Sort Go.Shelf
def Tryz.keys120_ren:Go.Shelf.Ren:=⟨λ| 7=>120 | 10=>168 | n=>n,λ| 23=>127 | 26=>9 | 3=>3 | 28=>170 | 0=>0 | 27=>169 | 33=>209 | 4=>4 | n=>n,λ| n=>n⟩
theorem Tryz.keys120:Go.Proofs.SlLaysZ.n7 prog Tryz.keys120_ren:={
 mixed:=by kernel_rfl
 f7:=⟨Tryz.f120.name,by decide,func120.trans (congrArg some (by kernel_rfl))⟩
 f10:=⟨Tryz.f168.name,by decide,func168.trans (congrArg some (by kernel_rfl))⟩
 t0:=underlying0
 a0:=Tryz.isAgg0
 z0:=Tryz.sizeOf0
 v0:=Tryz.zeroValue0
 t4:=underlying4
 a4:=Tryz.isAgg4
 z4:=Tryz.sizeOf4
 v4:=Tryz.zeroValue4
 t23:=underlying127
 a23:=Tryz.isAgg127
 z23:=Tryz.sizeOf127
 v23:=Tryz.zeroValue127
 t26:=underlying9
 a26:=Tryz.isAgg9
 z26:=Tryz.sizeOf9
 v26:=Tryz.zeroValue9
 t27:=underlying169
 a27:=Tryz.isAgg169
 z27:=Tryz.sizeOf169
 v27:=Tryz.zeroValue169
 t28:=underlying170
 a28:=Tryz.isAgg170
 z28:=Tryz.sizeOf170
 v28:=Tryz.zeroValue170
 t33:=underlying209
 a33:=Tryz.isAgg209
 z33:=Tryz.sizeOf209
 v33:=Tryz.zeroValue209 }
def Tryz.sorted119_ren:Go.Shelf.Ren:=⟨λ| 6=>119 | 8=>166 | 9=>167 | 11=>203 | 13=>165 | 12=>204 | 23=>201 | 24=>202 | 14=>234 | 15=>235 | 16=>236 | 17=>237 | 18=>238 | 19=>239 | 20=>240 | 21=>241 | 22=>242 | 25=>249 | 26=>250 | 27=>251 | 28=>252 | 29=>253 | 30=>254 | 31=>264 | n=>n,λ| 26=>9 | 28=>170 | 24=>58 | 0=>0 | 3=>3 | 37=>52 | 48=>159 | 50=>29 | 4=>4 | 40=>282 | 39=>281 | 45=>259 | 5=>5 | 9=>9 | 51=>290 | 55=>294 | 57=>301 | 58=>218 | 33=>209 | n=>n,λ| n=>n⟩
theorem Tryz.sorted119:Go.Proofs.SlLaysZ.n6 prog Tryz.sorted119_ren:={
 mixed:=by kernel_rfl
 f6:=⟨Tryz.f119.name,by decide,func119.trans (congrArg some (by kernel_rfl))⟩
 f8:=⟨Tryz.f166.name,by decide,func166.trans (congrArg some (by kernel_rfl))⟩
 f11:=⟨Tryz.f203.name,by decide,func203.trans (congrArg some (by kernel_rfl))⟩
 t0:=underlying0
 a0:=Tryz.isAgg0
 z0:=Tryz.sizeOf0
 v0:=Tryz.zeroValue0
 t24:=underlying58
 a24:=Tryz.isAgg58
 z24:=Tryz.sizeOf58
 v24:=Tryz.zeroValue58
 t26:=underlying9
 a26:=Tryz.isAgg9
 z26:=Tryz.sizeOf9
 v26:=Tryz.zeroValue9
 t28:=underlying170
 a28:=Tryz.isAgg170
 z28:=Tryz.sizeOf170
 v28:=Tryz.zeroValue170
 i26:=by kernel_rfl }
def Tryz.sort167_ren:Go.Shelf.Ren:=⟨λ| 6=>167 | 8=>165 | 9=>204 | 19=>201 | 20=>202 | 21=>234 | 22=>235 | 23=>236 | 24=>237 | 25=>238 | 26=>239 | 27=>240 | 28=>241 | 29=>242 | 36=>249 | 31=>250 | 32=>251 | 37=>252 | 38=>253 | 39=>254 | 41=>264 | n=>n,λ| 27=>58 | 29=>9 | 3=>3 | 32=>52 | 26=>58 | 0=>0 | 44=>159 | 46=>29 | 4=>4 | 36=>282 | 35=>281 | 41=>259 | 5=>5 | 9=>9 | 53=>290 | 57=>294 | 63=>301 | 64=>218 | n=>n,λ| n=>n⟩
theorem Tryz.sort167:Go.Proofs.SlLaysM.n6 prog Tryz.sort167_ren:={
 mixed:=by kernel_rfl
 f6:=⟨Tryz.f167.name,by decide,func167.trans (congrArg some (by kernel_rfl))⟩
 f8:=func165.trans (congrArg some (by kernel_rfl))
 f9:=⟨Tryz.f204.name,by decide,func204.trans (congrArg some (by kernel_rfl))⟩
 f19:=func201.trans (congrArg some (by kernel_rfl))
 f20:=func202.trans (congrArg some (by kernel_rfl))
 f21:=⟨Tryz.f234.name,by decide,func234.trans (congrArg some (by kernel_rfl))⟩
 f22:=⟨Tryz.f235.name,by decide,func235.trans (congrArg some (by kernel_rfl))⟩
 f23:=⟨Tryz.f236.name,by decide,func236.trans (congrArg some (by kernel_rfl))⟩
 f24:=⟨Tryz.f237.name,by decide,func237.trans (congrArg some (by kernel_rfl))⟩
 f25:=⟨Tryz.f238.name,by decide,func238.trans (congrArg some (by kernel_rfl))⟩
 f26:=⟨Tryz.f239.name,by decide,func239.trans (congrArg some (by kernel_rfl))⟩
 f27:=⟨Tryz.f240.name,by decide,func240.trans (congrArg some (by kernel_rfl))⟩
 f28:=⟨Tryz.f241.name,by decide,func241.trans (congrArg some (by kernel_rfl))⟩
 f29:=⟨Tryz.f242.name,by decide,func242.trans (congrArg some (by kernel_rfl))⟩
 f31:=func250.trans (congrArg some (by kernel_rfl))
 f32:=func251.trans (congrArg some (by kernel_rfl))
 f36:=⟨Tryz.f249.name,by decide,func249.trans (congrArg some (by kernel_rfl))⟩
 f37:=⟨Tryz.f252.name,by decide,func252.trans (congrArg some (by kernel_rfl))⟩
 f38:=⟨Tryz.f253.name,by decide,func253.trans (congrArg some (by kernel_rfl))⟩
 f39:=⟨Tryz.f254.name,by decide,func254.trans (congrArg some (by kernel_rfl))⟩
 f41:=⟨Tryz.f264.name,by decide,func264.trans (congrArg some (by kernel_rfl))⟩
 t0:=underlying0
 a0:=Tryz.isAgg0
 z0:=Tryz.sizeOf0
 v0:=Tryz.zeroValue0
 t3:=underlying3
 a3:=Tryz.isAgg3
 z3:=Tryz.sizeOf3
 v3:=Tryz.zeroValue3
 t4:=underlying4
 a4:=Tryz.isAgg4
 z4:=Tryz.sizeOf4
 v4:=Tryz.zeroValue4
 t5:=underlying5
 a5:=Tryz.isAgg5
 z5:=Tryz.sizeOf5
 v5:=Tryz.zeroValue5
 t9:=underlying9
 a9:=Tryz.isAgg9
 z9:=Tryz.sizeOf9
 v9:=Tryz.zeroValue9
 t26:=underlying58
 a26:=Tryz.isAgg58
 z26:=Tryz.sizeOf58
 v26:=Tryz.zeroValue58
 t27:=underlying58
 a27:=Tryz.isAgg58
 z27:=Tryz.sizeOf58
 v27:=Tryz.zeroValue58
 t29:=underlying9
 a29:=Tryz.isAgg9
 z29:=Tryz.sizeOf9
 v29:=Tryz.zeroValue9
 t32:=underlying52
 a32:=Tryz.isAgg52
 z32:=Tryz.sizeOf52
 v32:=Tryz.zeroValue52
 t35:=underlying281
 a35:=Tryz.isAgg281
 z35:=Tryz.sizeOf281
 v35:=Tryz.zeroValue281
 t36:=underlying282
 a36:=Tryz.isAgg282
 z36:=Tryz.sizeOf282
 v36:=Tryz.zeroValue282
 t41:=underlying259
 a41:=Tryz.isAgg259
 z41:=Tryz.sizeOf259
 v41:=Tryz.zeroValue259
 t44:=underlying159
 a44:=Tryz.isAgg159
 z44:=Tryz.sizeOf159
 v44:=Tryz.zeroValue159
 t46:=underlying29
 a46:=Tryz.isAgg29
 z46:=Tryz.sizeOf29
 v46:=Tryz.zeroValue29
 t53:=underlying290
 a53:=Tryz.isAgg290
 z53:=Tryz.sizeOf290
 v53:=Tryz.zeroValue290
 t57:=underlying294
 a57:=Tryz.isAgg294
 z57:=Tryz.sizeOf294
 v57:=Tryz.zeroValue294
 t63:=underlying301
 a63:=Tryz.isAgg301
 z63:=Tryz.sizeOf301
 v63:=Tryz.zeroValue301
 t64:=underlying218
 a64:=Tryz.isAgg218
 z64:=Tryz.sizeOf218
 v64:=Tryz.zeroValue218 }
theorem Tryz.sorts119 (m:Nat):AnyZ.SortsIn prog Tryz.sorted119_ren Fence.wide m :=
 ⟨λblk off cap ss W hH hblk hsz=>callsIn_wide.2 (AnyM.slices_Sort_string Tryz.sort167 blk off cap ss W hH hblk hsz),
 λp cap W=>callsIn_wide.2 (AnyM.slices_Sort_string_none Tryz.sort167 p cap W)⟩
theorem Tryz.maps_Keys_120 (mb:Option Nat) (W:World):CallsIn Fence.wide 5 prog 120 #[.map mb] W λe w'=>e=.returned (.func (.func 168) #[] #[.pointer (some ⟨W.heap.size,0,none⟩)])∧w'=W.alloc (.cells #[.map mb] 127) :=
 AnyZ.keys_in Tryz.keys120 Fence.wide 5 trivial rfl mb W
theorem Tryz.slices_Sorted_keys_119_120 {H:Type} (b nn:Nat) (D0:DataW H) (R:Value->Option (DataW H × List MemPlace)) (w:World) (hown:w.ownsMap prog 9 R b nn D0) (hmax:Maps.size D0<=maxLen) (hbytes:Maps.size D0*16<=140737488355328) :
 CallsIn Fence.wide 5 prog 119 #[.func (.func 168) #[] #[.pointer (some ⟨w.heap.size,0,none⟩)]] (w.alloc (.cells #[.map (some b)] 127)) λe w'=>∃(v:Value) (ss:List (List UInt8)),e=.returned v∧ss.Perm (strKeys D0) ∧
  w'.ownsRow (w.alloc (.cells #[.map (some b)] 127)).heap.size 9 1 v ss.length ((ss.mergeSort (λx y=>decide (x<=y))).map encStr)∧(v=.slice none 0 0↔ss=[])∧Below (w.alloc (.cells #[.map (some b)] 127)).heap.size (w.alloc (.cells #[.map (some b)] 127)) w':=by
 have hbl:=hown.lt
 have h1:SeqGives Fence.wide 2 prog 168 #[.pointer (some ⟨w.heap.size,0,none⟩)] encStr (λss=>ss.Perm (strKeys D0)) (Maps.size D0) (w.alloc (.cells #[.map (some b)] 127)) :=
  AnyZ.keys_gives (ρ:=Tryz.keys120_ren) { Tryz.keys120 with } Fence.wide _ trivial rfl (by omega) w.heap.size b nn D0 _ (by simp) (by simp) (by
   obtain⟨es,h0,hb,Ft,hs,hD⟩:=hown
   exact⟨es,h0,(Below.heap_alloc _ _ b hbl).trans hb,Ft,hs,hD⟩)
 exact AnyZ.sorted_in Tryz.sorted119 Fence.wide 5 trivial trivial trivial trivial rfl (by omega) (Tryz.sorts119 _) (enters_of func167 (by kernel_rfl) rfl) 168 #[.pointer (some ⟨w.heap.size,0,none⟩)] trivial (enters_of func168 (by kernel_rfl) rfl) _ _ hmax hbytes _ h1
theorem x9 (b:Nat) (w:World):Calls prog 120 #[.map (some b)] w λe w'=>e=.returned (.func (.func 168) #[] #[.pointer (some ⟨w.heap.size,0,none⟩)])∧w'=w.alloc (.cells #[.map (some b)] 127) :=
 callsIn_wide.1 (Tryz.maps_Keys_120 (some b) w)
theorem uK {H:Type} (b nn:Nat) (D0:DataW H) (R:Value->Option (DataW H × List MemPlace)) (w:World) (hown:w.ownsMap prog 9 R b nn D0) (hmax:Maps.size D0<=maxLen) (hbytes:Maps.size D0*16<=140737488355328) :
 Calls prog 119 #[.func (.func 168) #[] #[.pointer (some ⟨w.heap.size,0,none⟩)]] (w.alloc (.cells #[.map (some b)] 127)) λe w'=>∃(v:Value) (ss:List (List UInt8)),e=.returned v∧ss.Perm (strKeys D0) ∧
  w'.ownsRow (w.alloc (.cells #[.map (some b)] 127)).heap.size 9 1 v ss.length ((ss.mergeSort (λx y=>decide (x<=y))).map encStr)∧(v=.slice none 0 0↔ss=[])∧Below (w.alloc (.cells #[.map (some b)] 127)).heap.size (w.alloc (.cells #[.map (some b)] 127)) w' :=
 callsIn_wide.1 (Tryz.slices_Sorted_keys_119_120 b nn D0 R w hown hmax hbytes)
end
section
open Go.Maps
theorem law9:Keyed prog 9:=string_keyed underlying9
theorem uU (w:World):(zeroValue 3).run prog w=.ok (.int .i64 0) w:=by kernel_rfl
theorem To {y:Nat} (h:y<=1048576):(Lit.int .i64 (y:Int)).wf=true:=by
 have e1:IntKind.i64.min=-9223372036854775808:=by decide
 have e2:IntKind.i64.max=9223372036854775807:=by decide
 simp only[Lit.wf,e1,e2,Bool.and_eq_true,decide_eq_true_eq];omega
structure TMap (w wr:World) (es:List (LI × Int)) (k:Nat):Prop where
 map:∃D,wr.ownsMap prog 9 (plainElem (H:=Unit) prog 3) w.heap.size k D∧HasT D ((es.map Prod.fst).take k)
 on:N0 w wr
theorem wM (es:List (LI × Int)) (k:Nat) (h:k<es.length):(es.map Prod.fst).take (k+1)=(es.map Prod.fst).take k++[(es.getD k ([],0)).1]:=by
 rw[List.take_succ_eq_append_getElem (by simpa using h),List.getElem_map,Qc,Qh h]
 rfl
theorem Ni (v:Value) (es:List (LI × Int)) (w:World) (h:Ens w v es) (hu:Zf es) (hl:es.length<=1048576) (hx:∀e∈es,e.1.length<=maxLen) :
 Calls prog 118 #[v] w λe w'=>e=.returned (.map (some w.heap.size))∧TMap w w' es es.length:=by
 have hmm:=@run_makeMap prog;obtain⟨ao,cap,rfl⟩:=h.len;have HB:=Qa h;have HU:=Qa hu;have HX:=Qa hx;obtain⟨m,hm⟩:=EX es.length;rw[<-hm] at HB hl;rw[<-hm];have HM:=Qa hm
 have F0:Hid (TMap w (w.alloc (.map #[] 0)) es 0) :=
  ⟨⟨_,World.ownsMap_made _ _ _ _,λx _=>by simp[Maps.has]⟩,VG.alloc _⟩
 clear h hm hu hx;go_enter func118,ntmps118;go_wp2
 go_loopw [9] (λi wr=>∃k:Nat,k<=m∧i=.int .i64 k∧TMap w wr es k) (λi _=>m - (intOf i).toNat)
 case atStart=>exact⟨0,Nat.zero_le _,rfl,F0.o⟩
 case round =>
  clear F0;obtain⟨k,hk,rfl,⟨D,h0,hT⟩,h3⟩:=hrel
  by_cases hlt:k<m
  ·have h1:k<es.length:=by rw[<-HM.o];exact hlt
   obtain⟨b,off,cap',e,hc0,hc1⟩:=(HB.o.past h3).at k h1;simp only[Value.slice.injEq] at e;obtain⟨rfl,hmx,rfl⟩:=e;clear hmx;have h2:es.getD k ([],0)∈es:=Uk h1;have ST:=Qa (wM es k h1);obtain⟨x,hx⟩:=EX (es.getD k ([],0));rw[<-hx] at ST hc0 hc1 h2;have h4:keyOf prog 9 (.string (strOfNums x.1))=some (kS x.1):=JS underlying9 _ (HX.o x h2);have XU:=Qa (HU.o x h2);have HT:=Qa hT;have HO:=Qa h3
   have i1:(k:Int)<(m:Int):=by omega
   have hlo:=h0.lt;clear hx hT h3 h2 h1 HB
   go_wp2_with (first
    | (at_mapUpdate;refine wpList_mapUpdate_own _ rfl _ _ _ 127 rfl 9 3 law9 underlying127 (plainElem (H:=Unit) prog 3) w.heap.size k _ rfl (h0.alloc _) (by unfold maxLen;omega) _ _ _ rfl rfl h4 _ [] (plainElem_int underlying3 (To (y:=0) (by omega))) ?_;intro w1 hown1 hgrow1)
    | fail)
   go_roundw
   case rel =>
    refine⟨k+1,by omega,by go_num,⟨_,hown1,?_⟩,(HO.o.alloc _).grown hgrow1 (λj hj e=>by injection e;omega)⟩;rw[ST.o];exact HT.o.put h0.isMap XU.o _
   case measure=>simp[intOf];omega
  ·obtain rfl:k=m:=by omega
   have HF:Hid (TMap w wr es k):=⟨⟨D,h0,hT⟩,h3⟩;clear h0 hT h3;go_wp2;go_ret;exact⟨rfl,HF.o⟩
theorem Gq {H:Type} {k:TypeId} {R:Value->Option (DataW H × List MemPlace)} {b n:Nat} {D:DataW H} (h:w.ownsMap P k R b n D) {S:Nat->Prop} (o:Only S w w') (hs:¬S b):w'.ownsMap P k R b n D:=by
 obtain⟨es,h0,hb,F,hl,hD⟩:=h;exact⟨es,h0,o.heap hb hs,F,hl,hD⟩
theorem RIS.apart {T:List (LI)} (h:RIS T) {i j:Nat} (hij:i<j) (hj:j<T.length):T.getD i []≠T.getD j []:=by
 have h1:=List.pairwise_iff_getElem.1 h i j (by omega) hj hij;rw[Qc,Qc,Qh hj,Qh (by omega)];exact Z8 h1
structure TOrd (w wr:World) (T:List (LI)) (vt:Value) (lo N k:Nat):Prop where
 map:∃D,wr.ownsMap prog 9 (plainElem (H:=Unit) prog 3) w.heap.size (N+k) D∧∀j,j<k->∀z,D.atKey (kS (T.getD j [])) z=.lit (.int .i64 (j:Int))
 row:wr.ownsRow lo 9 1 vt T.length (UW T)
 on:N0 w wr
theorem TOrd.at {w wr:World} {T:List (LI)} {vt:Value} {lo N:Nat} (h:TOrd w wr T vt lo N T.length):∃D,wr.ownsMap prog 9 (plainElem (H:=Unit) prog 3) w.heap.size (N+T.length) D∧Mm D T:=by
 obtain⟨D,hm,ha⟩:=h.map;refine⟨D,hm,λx hx z=>?_⟩;have:=ha (Y8 T x) (WU hx) z;rw[Z5 hx] at this;exact this
theorem wL (v:Value) (es:List (LI × Int)) (w:World) (h:Ens w v es) (hu:Zf es) (hl:es.length<=1048576) (hx:∀e∈es,e.1.length<=maxLen) :
 Calls prog 78 #[v] w λe w'=>∃vt,e=.returned (.tuple #[vt,.map (some w.heap.size)])∧TOrd w w' (Yy (es.map Prod.fst)) vt (w.heap.size+1) es.length (Yy (es.map Prod.fst)).length:=by
 have A:=Qa (Ni v es w h hu hl hx)
 have HU:Hid (∀x∈es.map Prod.fst,U8 x):=λx hx=>by obtain⟨e,he,rfl⟩:=List.mem_map.1 hx;exact hu e he
 have HX:Hid (∀x∈Yy (es.map Prod.fst),U8 x∧x.length<=maxLen):=λx hx'=>by
  obtain⟨e,he,rfl⟩:=List.mem_map.1 ((UQ _ _).1 hx');exact⟨hu e he,hx e he⟩
 have HL:Hid ((Yy (es.map Prod.fst)).length<=es.length):=by have:=Sl (es.map Prod.fst);rw[List.length_map] at this;exact this
 have HR:=Qa (Vt (es.map Prod.fst));obtain⟨m,hm⟩:=EX es.length;rw[<-hm] at hl A HL;rw[<-hm]
 have hf:Hid ((es.map Prod.fst).take m=es.map Prod.fst):=by
  rw[hm];have:(es.map Prod.fst).take (es.map Prod.fst).length=es.map Prod.fst:=List.take_length;rw[List.length_map] at this;exact this
 obtain⟨T,h8⟩:=EX (Yy (es.map Prod.fst));have HTT:=Qa h8;rw[<-h8] at HX HL HR;rw[<-h8];clear hm h hu hx h8;go_enter func78,ntmps78;go_wp2_with fail;refine A.o.mono ?_;rintro e w1 ⟨rfl,⟨D,h0,hT⟩,h6⟩;rw[hf.o] at hT;obtain⟨hb,hd,ha⟩:=LU underlying9 h0;have SZ:=RZ HU.o hT hb hd ha;have SO:=Qa (λss hp=>LK HU.o hT hb hd (ss:=ss) hp);have HT:=Qa hT;rw[<-HTT.o] at SZ SO;have hlT:=HL.o
 have ms:Maps.size D<=1048576:=by omega
 have C:=Qa (uK w.heap.size m D _ w1 h0 (by unfold maxLen;omega) (by omega));have HO:=Qa h6;have s1:=h0.lt;clear A hT hb hd h6 hf HU;go_wp2_with fail;refine (x9 w.heap.size w1).mono ?_;rintro e w2 ⟨rfl,rfl⟩;go_wp2_with fail;refine C.o.mono ?_;rintro e w3 ⟨vt,ss,rfl,hp,h2,_,ho⟩
 have hg:ss.length=T.length:=by rw[hp.length_eq,ha,SZ]
 have hh:=SO.o ss hp;rw[AO,hh,hg] at h2;have o3:=YW ho;have h5:=Gq (h0.alloc (.cells #[.map (some w.heap.size)] 127)) o3 (λf=>f);have h3:w3.ownsRow (w.heap.size+1) 9 1 vt T.length (UW T):=Qr h2 (by simp;omega);have F0:Hid (TOrd w w3 T vt (w.heap.size+1) m 0):=⟨⟨D,h5,λj hj=>absurd hj (Nat.not_lt_zero _)⟩,h3,Only.same (HO.o.alloc _) o3⟩;obtain⟨av,cv,ev⟩:=(Sts.of_own h3).len;obtain⟨n,hn⟩:=EX T.length;have HN:=Qa hn;rw[<-hn] at ev hlT;subst ev;clear h0 h5 h2 h3 ho hp hg hh SO C o3 s1 ha SZ HT HO hn ms;go_wp2
 go_loopw [15] (λi wr=>∃k:Nat,k<=n∧i=.int .i64 k∧TOrd w wr T (.slice av n cv) (w.heap.size+1) m k) (λi _=>n - (intOf i).toNat)
 case atStart=>exact⟨0,Nat.zero_le _,rfl,F0.o⟩
 case round =>
  clear F0;obtain⟨k,hk,rfl,⟨D',h0,h9⟩,h2,h6⟩:=hrel
  by_cases hlt:k<n
  ·have h4:k<T.length:=by rw[<-HN.o];exact hlt
   obtain⟨b,off,cap',e,hc0⟩:=(Sts.of_own h2).at k h4;simp only[Value.slice.injEq] at e;obtain⟨rfl,hmx,rfl⟩:=e;clear hmx;obtain⟨xu,xl⟩:=HX.o _ (Uk (s:=T) (d:=[]) h4);have h7:keyOf prog 9 (.string (strOfNums (T.getD k [])))=some (kS (T.getD k [])):=JS underlying9 _ xl;have BL:=Qa (Ef h2 (Nat.lt_succ_self w.heap.size))
   have HA:Hid (∀j,j<k->kS (T.getD j [])≠kS (T.getD k [])):=λj hj=>kS_ne (HX.o _ (Uk (by omega))).1 xu (HR.o.apart hj h4)
   have HAT:=Qa h9;have HRW:=Qa h2;obtain⟨x,hx⟩:=EX (T.getD k []);have HXX:=Qa hx;rw[<-hx] at hc0 h7 HA;have HO:=Qa h6
   have i1:(k:Int)<(n:Int):=by omega
   have IM:=Qa h0.isMap;clear hx h6 h4 xu xl h2 h9
   go_wp2_with (first
    | (at_mapUpdate;refine wpList_mapUpdate_own _ rfl _ _ _ 127 rfl 9 3 law9 underlying127 (plainElem (H:=Unit) prog 3) w.heap.size (m+k) _ rfl h0 (by unfold maxLen;omega) _ _ _ rfl rfl h7 _ [] (plainElem_int underlying3 (To (y:=k) (by omega))) ?_;intro w1 hown1 hgrow1)
    | fail)
   go_roundw
   case rel =>
    refine⟨k+1,by omega,by go_num,⟨_,hown1,λj hj z=>?_⟩,HRW.o.kept hgrow1 (Or.inr BL.o.symm),HO.o.grown hgrow1 (λj hj e=>by injection e;omega)⟩
    rcases Nat.lt_succ_iff_lt_or_eq.1 hj with h1 | rfl
    ·rw[atKey_put_other (HA.o j h1)]
     exact HAT.o j h1 z
    ·rw[<-HXX.o,atKey_put_same IM.o (Dr x)]
   case measure=>simp[intOf];omega
  ·obtain rfl:k=n:=by omega
   have HF:Hid (TOrd w wr T (.slice av k cv) (w.heap.size+1) m k):=⟨⟨D',h0,h9⟩,h2,h6⟩;clear h0 h9 h2 h6;go_wp2;go_ret2;exact⟨_,rfl,by rw[<-HN.o];exact HF.o⟩
end
section
open Go.Maps
theorem Tryz.sizeMf:(prog.info? 69).map (·.size)=some 4:=by kernel_rfl
theorem YQ {b:Nat} {x0 x1 x2 x3:Value} (h:W.heap[b]? = some (.cells #[x0,x1,x2,x3] 69 (0,0))):(loadVar 69 ⟨b,0,none⟩).run prog W=.ok (.agg #[x0,x1,x2,x3]) W :=
 run_loadVar_row W b 69 69 _ (0,0) _ h underlying69 rfl Tryz.sizeMf
theorem Yg {x0 x1 x2 x3:Value} (h:W.heap[B]? = some (.cells #[x0,x1,x2,x3] E (0,0))):(W.cell? ⟨B,0,none⟩=some x0∧W.cell? ⟨B,1,none⟩=some x1∧W.cell? ⟨B,2,none⟩=some x2∧W.cell? ⟨B,3,none⟩=some x3)∧(W.frozen? ⟨B,0,none⟩=false∧W.frozen? ⟨B,1,none⟩=false∧W.frozen? ⟨B,2,none⟩=false∧W.frozen? ⟨B,3,none⟩=false) :=
 ⟨⟨by simp[World.cell?,h],by simp[World.cell?,h],by simp[World.cell?,h],by simp[World.cell?,h]⟩,by simp[World.frozen?,h],by simp[World.frozen?,h],by simp[World.frozen?,h],by simp[World.frozen?,h]⟩
theorem put4 {x0 x1 x2 x3:Value} (h:W.heap[B]? = some (.cells #[x0,x1,x2,x3] E (0,0))) (y0 y1 y2 y3:Value) :
 ((((W.setCell ⟨B,0,none⟩ y0).setCell ⟨B,1,none⟩ y1).setCell ⟨B,2,none⟩ y2).setCell ⟨B,3,none⟩ y3).heap[B]? = some (.cells #[y0,y1,y2,y3] E (0,0))∧Only (λk=>k=B) W ((((W.setCell ⟨B,0,none⟩ y0).setCell ⟨B,1,none⟩ y1).setCell ⟨B,2,none⟩ y2).setCell ⟨B,3,none⟩ y3):=by
 have g1:=heap_setCell_same W B 0 _ _ y0 h;have g2:=heap_setCell_same _ B 1 _ _ y1 g1;have g3:=heap_setCell_same _ B 2 _ _ y2 g2;have g4:=heap_setCell_same _ B 3 _ _ y3 g3;exact⟨by simpa using g4,((((Only.refl (λk=>k=B) W).setCell (p:=⟨B,0,none⟩) (λ_=>rfl) _).setCell (p:=⟨B,1,none⟩) (λ_=>rfl) _).setCell (p:=⟨B,2,none⟩) (λ_=>rfl) _).setCell (p:=⟨B,3,none⟩) (λ_=>rfl) _⟩
theorem H9 (h:ys.length<n):Q7 (n:Int) ys=([],0,2):=by unfold Q7;rw[if_neg (by omega),if_pos (by omega)]
theorem Xb (h:¬ys.length<n):Q7 (n:Int) ys=(ys.take n,n,0):=by unfold Q7;rw[if_neg (by omega),if_neg (by omega),Int.toNat_natCast]
theorem Ox (h:ys.length<8):QW 8 ys=(0,0,2):=by unfold QW;rw[if_neg (by omega),if_pos (by omega)]
theorem MR (h:¬ys.length<8):QW 8 ys=((num (ys.take 8):Int),8,0):=by unfold QW;rw[if_neg (by omega),if_neg (by omega)];rfl
theorem rp {x:LI} (h:U8 x):((strOfNums x).toList == [67,83,75,49])=decide (x=Q6):=by
 rw[show ([67,83,75,49]:List UInt8)=(⟨#[67,83,75,49]⟩:ByteArray).toList by rw[ByteArray.toList_eq],eq_sb,sb_of h];rfl
def RMan (w:World) (R:Nat) (ys:LI) (e:Ending) (w':World):Prop :=
 Only (λk=>k=R) w w'∧((∃c,c≠0∧MDEC ys=.error c∧e=mpan c)∨∃m x vp ve vr,MDEC ys=.ok m∧e=.returned x∧Mf w' x m vp ve vr∧NoCap vp∧NoCap vr∧(∀k,vp.ownBlock=some k->w.heap.size<=k)∧(∀k,vr.ownBlock=some k->w.heap.size<=k)∧(∀k,ve.ownBlock=some k->w.heap.size<=k))
theorem j6 (h:CurAt 146 w R v ys) (hR:R<w.heap.size) (hvb:∀j,v.ownBlock=some j->j<w.heap.size) :
 Calls prog 140 #[.pointer (some ⟨R,0,none⟩)] w (RMan w R ys):=by
 obtain⟨K,hK⟩:=EX (RMan w R ys);rw[<-hK];have HK:=Qa hK;have HV:=Qa hvb
 have h1:Hid (∀c w',c≠0->MDEC ys=.error c->Only (λj=>j=R) w w'->K (.panicked [{ v:=.iface 26 (.int .i64 c),recovered:=false }]) w'):=by
  intro c w' hc he ho;rw[HK.o];exact⟨ho,.inl ⟨c,hc,he,rfl⟩⟩
 have oa:Only (λj=>j=R) w (w.alloc (.cells #[.int .u64 0,.slice none 0 0,.slice none 0 0,.slice none 0 0] 69)):=VG.alloc _;have c0:=h.keep (S:=λ_=>False) ((Only.refl _ w).alloc (.cells #[.int .u64 0,.slice none 0 0,.slice none 0 0,.slice none 0 0] 69)) (λf=>f) (λ_ _ f=>f);have G0:=Qa (heap_alloc_new w (.cells #[.int .u64 0,.slice none 0 0,.slice none 0 0,.slice none 0 0] 69));have A:=Qa (Wg c0 ((4:Nat):Int));rw[show ((4:Nat):Int)=4 from rfl] at A;have ha:=h.rng;have kq:=h.len;have OA:=Qa oa;clear h hvb hK oa c0;go_enter func140,ntmps140;go_wp2_with fail;refine A.o.mono ?_;rintro e w1 ⟨v1,rfl,b1,nc1,nb1,vc1,c1,ki,o1⟩
 have hs1:w.heap.size+1<=w1.heap.size:=by have:=o1.size;simpa using this
 have O1:=Qa (OA.o.trans o1 (λi _ e=>e));have G1:=Qa (o1.heap G0.o (λe=>by omega));clear A o1 OA G0 nb1 nc1
 by_cases h4:ys.length<4
 ·rw[show (4:Int)=((4:Nat):Int) from rfl,H9 h4]
  have FN:=Qa (h1.o 2 w1 (by decide) (M1 (jt h4)) O1.o);clear b1 c1;go_wp2_with fail;refine (XB v1 2 w1 (by decide)).mono ?_;rintro e w' ⟨rfl,rfl⟩;unfold mpan;go_wp2;exact⟨rfl,FN.o⟩
 have e4:=Xb (n:=4) h4;rw[show ((4:Nat):Int)=4 from rfl] at e4;rw[e4] at b1 c1;rw[e4];have hcv:=ZJ w1 v1 _ b1;have hz:=rp (x:=ys.take 4) (λy hy=>ha y (List.mem_of_mem_take hy));generalize hx4:ys.take 4=x4 at *;have hm:=Qa hx4;have C1:=Qa (Vz c1 ki);clear e4 b1 c1 ki hx4;go_wp2_with fail;refine (XE v1 w1).mono ?_;rintro e w' ⟨rfl,rfl⟩
 by_cases hm4:x4=Q6
 ·rw[Qe hm4] at hz
  have H1:=Qa (hd_ok h4 (hm.o.trans hm4));clear hm hm4 h4;go_wp2_with fail;refine (Ux 3 w1).mono ?_;rintro e w' ⟨rfl,rfl⟩;have B:=Qa (KG C1.o.1 8);obtain⟨y1,hq⟩:=EX (ys.drop 4)
  have kg:∀y∈y1,0<=y∧y<=255:=λy hy=>ha y (by rw[hq] at hy;exact List.mem_of_mem_drop hy)
  rw[<-hq] at B H1;clear hcv hz hq ha;go_wp2_with fail;refine B.o.mono ?_;rintro e w2 ⟨rfl,kd,c2,ka,o2⟩;have hs2:=o2.size;have O2:=Qa (O1.o.trans o2 (λi _ e=>e));have G2:=Qa (o2.heap G1.o (λe=>by omega));have C2:=Qa (Vz c2 (ka.trans C1.o.2));clear B o2 c2 ka C1 O1 G1
  by_cases h8:y1.length<8
  ·rw[Ox h8]
   have FN:=Qa (h1.o 2 w2 (by decide) (M2 H1.o (AH h8)) O2.o);clear C2;go_wp2_with fail;refine (GU _ 2 w2 (by decide)).mono ?_;rintro e w' ⟨rfl,rfl⟩;unfold mpan;go_wp2;exact⟨rfl,FN.o⟩
  rw[MR h8] at C2;rw[MR h8];go_wp2_with fail;refine (Zp _ w2).mono ?_;rintro e w' ⟨rfl,rfl⟩
  by_cases hv:num (y1.take 8)=18446744073709551615
  ·have d1:((num (y1.take 8):Int) != 18446744073709551615)=false:=by rw[hv];rfl
   have FN:=Qa (h1.o 3 w2 (by decide) (M2 H1.o (tN h8 hv)) O2.o);clear C2 hv;go_wp2_with fail;refine (UK 3 w2).mono ?_;rintro e w' ⟨rfl,rfl⟩;unfold mpan;go_wp2;exact⟨rfl,FN.o⟩
  have d1:((num (y1.take 8):Int) != 18446744073709551615)=true:=by simp;omega
  have H2:=Qa (zR h8 hv);generalize num (y1.take 8)=ver at *;obtain⟨y2,hl⟩:=EX (y1.drop 8)
  have kf:∀y∈y2,0<=y∧y<=255:=λy hy=>kg y (by rw[hl] at hy;exact List.mem_of_mem_drop hy)
  have k7:Hid (CurAt 146 w2 R kd y2∧kd.ownBlock=v.ownBlock):=by rw[hl];exact C2.o
  rw[<-hl] at H2;clear C2 hl kg h8 hv;go_wp2_with fail;refine (Ux 3 w2).mono ?_;rintro e w' ⟨rfl,rfl⟩;have B:=Qa (Wg k7.o.1 ((32:Nat):Int));rw[show ((32:Nat):Int)=32 from rfl] at B;go_wp2_with fail;refine B.o.mono ?_;rintro e w3 ⟨vp,rfl,bp,kl,ky,vc3,c3,kh,o3⟩;have hs3b:=o3.size;have O3:=Qa (O2.o.trans o3 (λi _ e=>e));have G3:=Qa (o3.heap G2.o (λe=>by omega));clear B o3 G2
  by_cases h32:y2.length<32
  ·have h0:=H9 h32
   rw[show ((32:Nat):Int)=32 from rfl] at h0;rw[h0];have FN:=Qa (h1.o 2 w3 (by decide) (M3 H1.o H2.o (XX h32)) O3.o);clear bp c3;go_wp2_with fail;refine (XB vp 2 w3 (by decide)).mono ?_;rintro e w' ⟨rfl,rfl⟩;unfold mpan;go_wp2;exact⟨rfl,FN.o⟩
  have h0:=Xb h32;rw[show ((32:Nat):Int)=32 from rfl] at h0;rw[h0] at bp c3;rw[h0];have H3:=Qa (KQ h32);obtain⟨y3,hn⟩:=EX (y2.drop 32)
  have HR3:∀y∈y3,0<=y∧y<=255:=λy hy=>kf y (by rw[hn] at hy;exact List.mem_of_mem_drop hy)
  rw[<-hn] at H3
  have kv:CurAt 146 w3 R vc3 y3:=by rw[hn];exact c3
  generalize y2.take 32=prv at *;have hs3:=O3.o.size;have h7:=kh.trans k7.o.2;have hw2:=O2.o.size;have D:=Qa (uT kv (by omega) (λj hj=>by rw[h7] at hj;have:=HV.o j hj;omega));obtain⟨h3,h5,epv⟩:=bp.len;subst epv;have PV:=Qa (Vz bp (Vz kl ky));have k6:=Qa h7;clear h0 c3 kv bp kl ky kh h7 hn h32 k7 kf O2;go_wp2_with fail;refine (XE (.slice h3 prv.length h5) w3).mono ?_;rintro e w' ⟨rfl,rfl⟩;go_wp2_with fail;refine D.o.mono ?_;rintro e w4 ⟨o4,⟨c,k5,hr,rfl⟩ | ⟨d,y4,hr,⟨vt,rfl,h2,hdl,kt⟩,vc4,c4,hp⟩⟩
  ·have FN:=Qa (h1.o c w4 k5 (M4 H1.o H2.o H3.o hr) (O3.o.trans o4 (λi _ e=>e)))
   clear D o4 hr;unfold mpan;go_wp2;exact⟨rfl,FN.o⟩
  have H4:=Qa hr;have RS:=Qa (AY HR3 hr);have O4:=Qa (O3.o.trans o4 (λi _ e=>e));have G4:=Qa (o4.heap G3.o (λe=>by omega));have hs4:=o4.size;have k9:=Sts.of_own h2;have kk:Hid (Bs .u8 w4 (.slice h3 prv.length h5) prv):=PV.o.1.keep o4 (λj hj e=>by have:=PV.o.2.2 j hj;omega);have E5:=Qa (Ia (vt:=vt) c4 (by omega) (λj hj=>by rw[hp,k6.o] at hj;have:=HV.o j hj;omega) k9 (λj hj e=>by have:=(h2.lt j hj).1;omega) hdl);have RT:=Qa h2;have hs:=Qa kt;have OB4:=Qa (hp.trans k6.o);clear D o4 hr h2 c4 hp k9 kt G3 k6;go_wp2_with fail;refine E5.o.mono ?_;rintro e w5 ⟨o5,⟨c,k5,hr,rfl⟩ | ⟨a,y5,hr,⟨ve,rfl,hd,hal,kn⟩,vc5,c5,ob5⟩⟩
  ·have FN:=Qa (h1.o c w5 k5 (M5 H1.o H2.o H3.o H4.o hr) (O4.o.trans o5 (λi _ e=>e)))
   clear E5 o5 hr;unfold mpan;go_wp2;exact⟨rfl,FN.o⟩
  have H5:=Qa hr;have O5:=Qa (O4.o.trans o5 (λi _ e=>e));have G5:=Qa (o5.heap G4.o (λe=>by omega));have hs5:=o5.size;have kw:Hid (Bs .u8 w5 (.slice h3 prv.length h5) prv):=kk.o.keep o5 (λj hj e=>by have:=PV.o.2.2 j hj;omega);have B:=Qa (Wg c5 ((32:Nat):Int));rw[show ((32:Nat):Int)=32 from rfl] at B;have RE:=Qa hd;have hh:=Qa kn;have k8:=Qa (o5.own RT.o (λj hj e=>by have:=(RT.o.lt j hj).1;omega));clear E5 o5 hr hd ob5 kn G4 kk RT;go_wp2_with fail;refine B.o.mono ?_;rintro e w6 ⟨vr,rfl,br,kr,ku,vc6,c6,ob6,o6⟩;have O6:=Qa (O5.o.trans o6 (λi _ e=>e));have G6:=Qa (o6.heap G5.o (λe=>by omega));have hs6:=o6.size;have ke:Hid (Bs .u8 w6 (.slice h3 prv.length h5) prv):=kw.o.keep o6 (λj hj e=>by have:=PV.o.2.2 j hj;omega);have hb:=Qa (o6.own RE.o (λj hj e=>by have:=(RE.o.lt j hj).1;omega));have kx:=Qa (o6.own k8.o (λj hj e=>by have:=(k8.o.lt j hj).1;omega));clear B o6 ob6 c5 G5 kw RE k8
  by_cases h32:y5.length<32
  ·have h0:=H9 h32
   rw[show ((32:Nat):Int)=32 from rfl] at h0;rw[h0];have FN:=Qa (h1.o 2 w6 (by decide) (M6 H1.o H2.o H3.o H4.o H5.o (XX h32)) O6.o);clear br c6;go_wp2_with fail;refine (XB vr 2 w6 (by decide)).mono ?_;rintro e w' ⟨rfl,rfl⟩;unfold mpan;go_wp2;exact⟨rfl,FN.o⟩
  have h0:=Xb h32;rw[show ((32:Nat):Int)=32 from rfl] at h0;rw[h0] at br c6;rw[h0];have H6:=Qa (Mall H1.o H2.o H3.o H4.o H5.o (KQ h32));generalize y5.take 32=rt at *;obtain⟨y6,k4⟩:=EX (y5.drop 32);rw[<-k4] at H6
  have kc:CurAt 146 w6 R vc6 y6:=by rw[k4];exact c6
  have LL:=Qa (Vw kc);obtain⟨hg,hf,erv⟩:=br.len;subst erv;have RV:=Qa (Vz br (Vz kr ku));clear h0 c6 kc br kr ku k4 h32 H1 H2 H3 H5;go_wp2_with fail;refine (XE (.slice hg rt.length hf) w6).mono ?_;rintro e w' ⟨rfl,rfl⟩;go_wp2_with fail;refine LL.o.mono ?_;rintro e w' ⟨rfl,rfl⟩;clear LL
  by_cases h6:y6=[]
  ·have d6:((y6.length:Int) == 0)=true:=by rw[h6];rfl
   obtain⟨ev,cv,ee⟩:=(Ens.of_own (s:=a.2.map (Ys d.2)) (by rw[List.length_map];exact hb.o)).len;rw[List.length_map] at ee;subst ee
   have TO:=Qa (Ni (.slice ev a.2.length cv) (a.2.map (Ys d.2)) w6 (Ens.of_own (by rw[List.length_map];exact hb.o)) (λe he=>by
    obtain⟨t,ht,rfl⟩:=List.mem_map.1 he
    exact (hs.o _ (Uk (hh.o t ht))).1) (by rw[List.length_map];exact hal) (λe he=>by
    obtain⟨t,ht,rfl⟩:=List.mem_map.1 he;have:=(hs.o _ (Uk (d:=[]) (hh.o t ht))).2
    unfold maxLen Ys;simp only;omega))
   go_wp2_with fail;refine (Ux 3 w6).mono ?_;rintro e w' ⟨rfl,rfl⟩;go_wp2_with fail;refine TO.o.mono ?_;rintro e w7 ⟨rfl,⟨Dm,h9,hT⟩,o7⟩;obtain⟨ko,kp,kj⟩:=LU underlying9 h9
   have ks:((a.2.map (Ys d.2)).map Prod.fst).take (a.2.map (Ys d.2)).length=(a.2.map (Ys d.2)).map Prod.fst:=by
    have:((a.2.map (Ys d.2)).map Prod.fst).take ((a.2.map (Ys d.2)).map Prod.fst).length=_:=List.take_length
    rwa [List.length_map] at this
   rw[ks] at hT
   have SZ:=RZ (λx hx=>by
    obtain⟨e,he,rfl⟩:=List.mem_map.1 hx;obtain⟨t,ht,rfl⟩:=List.mem_map.1 he
    exact (hs.o _ (Uk (hh.o t ht))).1) hT ko kp kj
   have UI:=Be RS.o hh.o;rw[<-SZ] at UI
   have hlen:=λty=>h9.len underlying127 ty
   obtain⟨at1,ct1,km⟩:=(Sts.of_own kx.o).len;generalize Maps.size Dm=sz at *;have O7:=Qa (O6.o.trans o7 (λi _ f=>f.elim));have G7:=o7.heap G6.o (λf=>f);clear TO ko kp kj hT ks SZ h9
   by_cases hu:sz=d.2.length
   ·have hU:=UI.1 hu
    have d7:((sz:Int) == (d.2.length:Int))=true:=by rw[hu];simp
    obtain⟨⟨k0,k1,k2,k3⟩,f0,f1,f2,f3⟩:=Yg G7;subst km
    have FIN:Hid (∀x,x=Value.agg #[.int .u64 (ver:Nat),(.slice h3 prv.length h5),.slice ev a.2.length cv,(.slice hg rt.length hf)]->∀w',w'=((((w7.setCell ⟨w.heap.size,0,none⟩ (.int .u64 ver)).setCell ⟨w.heap.size,1,none⟩ (.slice h3 prv.length h5)).setCell ⟨w.heap.size,2,none⟩ (.slice ev a.2.length cv)).setCell ⟨w.heap.size,3,none⟩ (.slice hg rt.length hf))->(loadVar 69 ⟨w.heap.size,0,none⟩).run prog w'=.ok x w'∧RMan w R ys (.returned x) w'):=by
     intro x hx w' hw';obtain⟨g,og⟩:=put4 G7 (.int .u64 ver) (.slice h3 prv.length h5) (.slice ev a.2.length cv) (.slice hg rt.length hf);rw[<-hw'] at g og;subst hx;have hw:Only (λk=>k=w.heap.size) w6 w':=(o7.mono (λ_ _ f=>f.elim)).trans og (λi _ e=>e);refine⟨YQ g,O7.o.trans og (λi hi e=>by omega),.inr ⟨_,_,(.slice h3 prv.length h5),.slice ev a.2.length cv,(.slice hg rt.length hf),M9 H6.o h6 hU,rfl,⟨rfl,ke.o.keep hw (λj hj e=>by have:=PV.o.2.2 j hj;omega),?_,RV.o.1.keep hw (λj hj e=>by have:=RV.o.2.2 j hj;omega)⟩,PV.o.2.1,RV.o.2.1,λk hk=>by have:=PV.o.2.2 k hk;omega,λk hk=>by have:=RV.o.2.2 k hk;omega,λk hk=>by have:=(hb.o.lt k hk).1;omega⟩⟩;exact (Ens.of_own (s:=a.2.map (Ys d.2)) (by rw[List.length_map];exact hb.o)).keep hw (λj hj e=>by have:=(hb.o.lt j hj).1;omega)
    have hKK:=HK.o;clear HK h1 UI hu hU O7 hb kx ke RV PV G7;subst hKK
    go_wp2_with (first
     | (go_at_call 184;refine (Ux 3 w7).mono ?_;rintro e w' ⟨rfl,rfl⟩)
     | fail)
    obtain⟨fl,fr⟩:=FIN.o _ rfl _ rfl;exact bodyPost_ret (XG Tryz.results140 _ _ rfl fl) rfl fr
   ·have d7:((sz:Int) == (d.2.length:Int))=false:=by rw[beq_eq_false_iff_ne];omega
    have FN:=Qa (h1.o 3 w7 (by decide) (M8 H6.o h6 (λq=>hu (UI.2 q))) O7.o);subst km;clear h1 UI hu O7;go_wp2_with fail;refine (UK 3 w7).mono ?_;rintro e w' ⟨rfl,rfl⟩;unfold mpan;go_wp2;exact⟨rfl,FN.o⟩
  ·have d6:((y6.length:Int) == 0)=false:=by
    rw[beq_eq_false_iff_ne];intro e;exact h6 (List.eq_nil_of_length_eq_zero (by omega))
   have FN:=Qa (h1.o 3 w6 (by decide) (M7 H6.o h6) O6.o);clear h1;go_wp2_with fail;refine (UK 3 w6).mono ?_;rintro e w' ⟨rfl,rfl⟩;unfold mpan;go_wp2;exact⟨rfl,FN.o⟩
 ·rw[Qi hm4] at hz
  have FN:=Qa (h1.o 3 w1 (by decide) (M1 (hd_no h4 (λe=>hm4 (hm.o.symm.trans e)))) O1.o);clear h1 hm hm4;go_wp2_with fail;refine (UK 3 w1).mono ?_;rintro e w' ⟨rfl,rfl⟩;unfold mpan;go_wp2;exact⟨rfl,FN.o⟩
end
end Go.Proofs.YtiochaeeoelmjaaGreatDoor
