import Derived.Test.YteciafpneamfaaaGreatDoorG28
import Derived.Test.YteciafpneamfaaaGreatDoorG4
import Derived.Test.YteciafpneamfaaaGreatDoorG16
namespace Go.Proofs.YteciafpneamfaaaGreatDoor
set_option maxHeartbeats 1600000
set_option maxRecDepth 100000
open Go.RowKit _root_.Go.Proofs.Tryz
def prt (l:LI) (n k:Nat):LI:=l.take k++List.replicate (n - k) 0
theorem Dq (l:LI) (k:Nat) (hk:k<=l.length):(prt l l.length k).length=l.length:=by
 simp[prt];omega
theorem T4 (kd:IntKind) (l:LI) (n:Nat):(prt l n 0).map (Value.int kd)=(madeCells #[Value.int kd 0] (n*1)).toList:=by
 simp only[prt,List.take_zero,List.nil_append,Nat.sub_zero,List.map_replicate];unfold madeCells
 apply List.ext_getElem
 ·simp
 ·intro i h1 h2
  simp[Nat.mod_one]
theorem Pb (l:LI):prt l l.length l.length=l:=by simp[prt]
theorem Ng (l:LI) (k:Nat) (h:k<l.length):(prt l l.length k).set k (l.getD k 0)=prt l l.length (k+1):=by
 unfold prt;obtain⟨m,hm⟩:∃m,l.length - k=m+1:=⟨l.length - k - 1,by omega⟩;rw[hm,show l.length - (k+1)=m by omega,List.replicate_succ,List.set_append_right _ _ (by simp;omega)];rw[List.take_succ_eq_append_getElem h]
 have e:k - (l.take k).length=0:=by simp;omega
 rw[e,Qn,List.append_assoc];simp[List.getD_eq_getElem?_getD,List.getElem?_eq_getElem h]
theorem pgetD (s:List (Int × Int)) (k:Nat):((s.map Prod.fst).getD k 0=(s.getD k (0,0)).1)∧((s.map Prod.snd).getD k 0=(s.getD k (0,0)).2):=by
 rw[Qd,Qd,Qd,List.getElem?_map,List.getElem?_map]
 cases s[k]? <;> exact⟨rfl,rfl⟩
theorem tQ (v:Value) (s:List (Int × Int)) (w:World) (h:Sps w v s) (hl:s.length<=65536) :
 Calls prog 109 #[v] w λe w'=>∃u1 u2,e=.returned (.tuple #[u1,u2])∧Bs .i64 w' u1 (s.map Prod.fst)∧Bs .u64 w' u2 (s.map Prod.snd)∧N0 w w':=by
 obtain⟨i0,hi,hz0,hz1,hz2⟩:=info_parts Tryz.infoI64;obtain⟨j0,hj,gz0,gz1,gz2⟩:=info_parts Tryz.infoU64;have HB:=Qa h;obtain⟨ao,cap,rfl⟩:=h.len;obtain⟨n,hn⟩:=EX s.length;rw[<-hn] at hl HB;rw[<-hn];have HN:=Qa hn;obtain⟨wm,hq,h4,hp⟩:=run_make_full (P:=prog) w w.heap.size 160 3 i0 (.int .i64 0) 1 underlying160 hi hz0 hz1 .i64 .i64 n (by rw[hz2];omega) (by unfold maxLen;omega) (Nat.le_refl _);obtain⟨wk,hf,h6,hg⟩:=run_make_full (P:=prog) wm wm.heap.size 161 23 j0 (.int .u64 0) 1 underlying161 hj gz0 gz1 .i64 .i64 n (by rw[gz2];omega) (by unfold maxLen;omega) (Nat.le_refl _)
 have h0:Hid (wk.ownsRow w.heap.size 3 1 (.slice (some ⟨w.heap.size,0,none⟩) n n) n ((prt (s.map Prod.fst) n 0).map (Value.int .i64))∧wk.ownsRow wm.heap.size 23 1 (.slice (some ⟨wm.heap.size,0,none⟩) n n) n ((prt (s.map Prod.snd) n 0).map (Value.int .u64))∧N0 w wk∧w.heap.size<wm.heap.size):=by
  rw[show (Value.int .u64 0).cells=#[Value.int .u64 0] from rfl] at h6;rw[show (Value.int .i64 0).cells=#[Value.int .i64 0] from rfl] at h4;rw[T4,T4];have o1:N0 w wm:=(Only.refl _ _).grown hp (λ_ _ e=>by cases e);have o2:N0 wm wk:=(Only.refl _ _).grown hg (λ_ _ e=>by cases e);exact⟨o2.own h4 (λ_ _ f=>f),h6,o1.same o2,(h4.lt _ rfl).2⟩
 clear h4 hp h6 hg;obtain⟨N,hN⟩:=EX w.heap.size;obtain⟨M,hM⟩:=EX wm.heap.size;rw[<-hN] at hq h0;rw[<-hM] at hf h0;have HNN:=Qa hN;have HMM:=Qa hM;clear h hn hN hM;go_enter func109,ntmps109;go_wp2
 go_loopw [16] (λi wr=>∃k:Nat,k<=n∧i=.int .i64 k∧wr.ownsRow N 3 1 (.slice (some ⟨N,0,none⟩) n n) n ((prt (s.map Prod.fst) n k).map (Value.int .i64))∧wr.ownsRow M 23 1 (.slice (some ⟨M,0,none⟩) n n) n ((prt (s.map Prod.snd) n k).map (Value.int .u64))∧N0 w wr) (λi _=>n - (intOf i).toNat)
 case atStart=>exact⟨0,Nat.zero_le _,rfl,h0.o.1,h0.o.2.1,h0.o.2.2.1⟩
 case round =>
  obtain⟨k,hk,rfl,h5,h3,hh⟩:=hrel;have HNM:N<M:=h0.o.2.2.2;clear h0 hq hf;have he:=Qa h5;have h7:=Qa h3;have ho:=Qa hh
  by_cases hlt:k<n
  ·have dlt:decide ((k:Int)<(n:Int))=true:=by simp;omega
   have dlt2:(k:Int)<(n:Int):=by omega
   have hm:k<s.length:=by rw[<-HN.o];exact hlt
   obtain⟨b,off,cap',e1,hc0,hc1⟩:=(HB.o.past hh).at k hm
   have ea:ao=some ⟨b,off,none⟩:=by simp at e1;exact e1.1
   subst ea;clear e1
   have ha:∃y,wr.cell? ⟨N,k,none⟩=some (.int .i64 y):=by
    have hz:=Dq (s.map Prod.fst) k (by simp;omega);rw[List.length_map,<-HN.o] at hz;refine⟨(prt (s.map Prod.fst) n k).getD k 0,?_⟩;rw[h5.cellAt k (by omega),List.getElem?_map,Qi (by rw[hz];omega),Qd,Qi (by rw[hz];omega)]
    rfl
   have h9:∃y,wr.cell? ⟨M,k,none⟩=some (.int .u64 y):=by
    have hz:=Dq (s.map Prod.snd) k (by simp;omega);rw[List.length_map,<-HN.o] at hz;refine⟨(prt (s.map Prod.snd) n k).getD k 0,?_⟩;rw[h3.cellAt k (by omega),List.getElem?_map,Qi (by rw[hz];omega),Qd,Qi (by rw[hz];omega)]
    rfl
   obtain⟨y,hy⟩:=ha;obtain⟨y2,hy2⟩:=h9;have hfr:wr.frozen? ⟨N,k,none⟩=false:=h5.frozenAt _;have hfr2:wr.frozen? ⟨M,k,none⟩=false:=h3.frozenAt _;have hNlt:N<wr.heap.size:=(h5.lt _ rfl).2;have hMlt:M<wr.heap.size:=(h3.lt _ rfl).2
   have hd:Hid (((prt (s.map Prod.fst) n k).map (Value.int .i64)).set k (.int .i64 (s.getD k (0,0)).1)=(prt (s.map Prod.fst) n (k+1)).map (Value.int .i64)):=by
    simp only[Hid];rw[<-List.map_set,<-(pgetD s k).1];have:=Ng (s.map Prod.fst) k (by simpa using hm);rw[List.length_map,<-HN.o] at this;rw[this]
   have h8:Hid (((prt (s.map Prod.snd) n k).map (Value.int .u64)).set k (.int .u64 (s.getD k (0,0)).2)=(prt (s.map Prod.snd) n (k+1)).map (Value.int .u64)):=by
    simp only[Hid];rw[<-List.map_set,<-(pgetD s k).2];have:=Ng (s.map Prod.snd) k (by simpa using hm);rw[List.length_map,<-HN.o] at this;rw[this]
   generalize (s.getD k (0,0)).1=x at *;generalize (s.getD k (0,0)).2=z at *
   have ne1:¬N=M:=by omega
   have ne2:¬M=N:=by omega
   have ne3:¬N=wr.heap.size:=by omega
   have ne4:¬M=wr.heap.size:=by omega
   have ne5:¬wr.heap.size=N:=by omega
   have ne6:¬wr.heap.size=M:=by omega
   have hk0:(0:Int)<=(k:Int):=by omega
   clear h5 h3 hh HB hm;go_wp2;go_region;go_wp2
   go_roundw
   case rel =>
    have e1:=(he.o.stored k (.int .i64 x)).1;rw[hd.o] at e1;have o1:Only (λb=>b=N) wr (wr.setCell ⟨N,k,none⟩ (.int .i64 x)):=(Only.refl (λb=>b=N) wr).setCell (p:=⟨N,k,none⟩) (λ_=>rfl) _;have e2:=((o1.own h7.o (λb hb e=>by cases hb;exact ne2 e)).stored k (.int .u64 z)).1;rw[h8.o] at e2;have o2:Only (λb=>b=M) (wr.setCell ⟨N,k,none⟩ (.int .i64 x)) ((wr.setCell ⟨N,k,none⟩ (.int .i64 x)).setCell ⟨M,k,none⟩ (.int .u64 z)):=(Only.refl (λb=>b=M) _).setCell (p:=⟨M,k,none⟩) (λ_=>rfl) _;have o3:N0 ((wr.setCell ⟨N,k,none⟩ (.int .i64 x)).setCell ⟨M,k,none⟩ (.int .u64 z)) ((((wr.setCell ⟨N,k,none⟩ (.int .i64 x)).setCell ⟨M,k,none⟩ (.int .u64 z)).alloc (Obj.cells #[Value.int IntKind.i64 x,Value.int IntKind.u64 z] 89)).drew):=((Only.refl _ _).alloc _).drew;have hNw:=HNN.o;have hMN:=HNM;refine⟨k+1,by omega,by go_num,o3.own (o2.own e1 (λb hb e=>by cases hb;exact ne1 e)) (λ_ _ f=>f),o3.own e2 (λ_ _ f=>f),?_⟩;exact ((ho.o.trans o1 (λb hb e=>by omega)).trans o2 (λb hb e=>by omega)).trans o3 (λ_ _ f=>f)
   case measure=>simp[intOf];omega
  ·obtain rfl:k=n:=by omega
   have dlt:decide ((k:Int)<(k:Int))=false:=by simp
   have F:Hid (Bs .i64 wr (.slice (some ⟨N,0,none⟩) k k) (s.map Prod.fst)∧Bs .u64 wr (.slice (some ⟨M,0,none⟩) k k) (s.map Prod.snd)):=by
    have h1:=he.o;have h2:=h7.o;have e1:=Pb (s.map Prod.fst);have e2:=Pb (s.map Prod.snd);rw[List.length_map,<-HN.o] at e1 e2;rw[e1] at h1;rw[e2] at h2;refine⟨Bs.of_own (lo:=N) (E:=3) ?_,Bs.of_own (lo:=M) (E:=23) ?_⟩
    ·rw[List.length_map,<-HN.o];exact h1
    ·rw[List.length_map,<-HN.o];exact h2
   clear h5 h3 hh;go_wp2;go_ret2;exact⟨_,_,rfl,F.o.1,F.o.2,ho.o⟩
def Yc (s:List (Int × Int)):List Value:=s.flatMap λp=>[.int .i64 p.1,.int .u64 p.2]
theorem ZF (p:Int × Int) (s:List (Int × Int)):Yc (p :: s)=.int .i64 p.1 :: .int .u64 p.2 :: Yc s:=rfl
theorem Ay (s:List (Int × Int)):(Yc s).length=s.length*2:=by
 induction s with
 | nil=>rfl
 | cons p s ih=>rw[ZF,Qj,Qj,Qj,ih];omega
theorem Jc (s:List (Int × Int)):∀(j:Nat),j<s.length->(Yc s)[j*2]? = some (.int .i64 (s.getD j (0,0)).1)∧(Yc s)[j*2+1]? = some (.int .u64 (s.getD j (0,0)).2):=by
 induction s with
 | nil=>intro j hj;simp at hj
 | cons p s ih =>
  intro j hj
  cases j with
  | zero=>exact⟨rfl,rfl⟩
  | succ j =>
   have:=ih j (by simpa using hj);rw[ZF,show (j+1)*2=j*2+1+1 by omega]
   simpa using this
theorem IB (s:List (Int × Int)):∀(j:Nat) (a b:Int),j<s.length->((Yc s).set (j*2) (.int .i64 a)).set (j*2+1) (.int .u64 b)=Yc (s.set j (a,b)):=by
 induction s with
 | nil=>intro j a b hj;simp at hj
 | cons p s ih =>
  intro j a b hj
  cases j with
  | zero=>rfl
  | succ j =>
   have:=ih j a b (by simpa using hj);rw[ZF,show (j+1)*2=j*2+1+1 by omega,Qo,Qo,Qo,Qo,Qo,ZF,this]
theorem Sps.of_own {w:World} {lo:Nat} {E:TypeId} {v:Value} {s:List (Int × Int)} (h:w.ownsRow lo E 2 v s.length (Yc s)):Sps w v s:=by
 rcases h.2 with ⟨rfl,hn⟩ | ⟨g,cap,cur,rfl,_,hg,hnc,_,hcs,htk⟩
 ·have:s=[]:=List.eq_nil_of_length_eq_zero hn
  subst this;exact Sps.nil w
 ·refine⟨_,cap,rfl,hnc,λ_=>⟨g,0,rfl,λj hj=>?_⟩⟩
  have hc:∀i,i<s.length*2->w.cell? ⟨g,0+i,none⟩=(Yc s)[i]?:=λi hi=>by
   rw[<-htk,List.getElem?_take_of_lt hi];simp[World.cell?,hg]
  obtain⟨h0,h1⟩:=Jc s j hj;exact⟨by rw[hc _ (by omega)];exact h0,by rw[Nat.add_assoc,hc _ (by omega)];exact h1⟩
def ppart (s:List (Int × Int)) (n k:Nat):List (Int × Int):=s.take k++List.replicate (n - k) (0,0)
theorem Ih (s:List (Int × Int)) (k:Nat) (hk:k<=s.length):(ppart s s.length k).length=s.length:=by
 simp[ppart];omega
theorem EO (s:List (Int × Int)) (n:Nat):Yc (ppart s n 0)=(madeCells #[Value.int .i64 0,Value.int .u64 0] (n*2)).toList:=by
 simp only[ppart,List.take_zero,List.nil_append,Nat.sub_zero];unfold madeCells
 apply List.ext_getElem?
 intro i;have hl:=Ay (List.replicate n ((0:Int),(0:Int)));rw[List.length_replicate] at hl
 by_cases h:i<n*2
 ·obtain⟨h0,h1⟩:=Jc (List.replicate n ((0:Int),(0:Int))) (i / 2) (by simp;omega)
  have hg:(List.replicate n ((0:Int),(0:Int))).getD (i / 2) (0,0)=(0,0):=by
   rw[Qd,List.getElem?_replicate];split <;> rfl
  rw[hg] at h0 h1
  rcases Nat.mod_two_eq_zero_or_one i with hm | hm
  ·rw[show i / 2*2=i by omega] at h0
   rw[h0];simp[h,hm]
  ·rw[show i / 2*2+1=i by omega] at h1
   rw[h1];simp[h,hm]
 ·rw[List.getElem?_eq_none (by omega),List.getElem?_eq_none (by simp;omega)]
theorem wE (s:List (Int × Int)):ppart s s.length s.length=s:=by simp[ppart]
theorem kM (s:List (Int × Int)) (k:Nat) (h:k<s.length):(ppart s s.length k).set k (s.getD k (0,0))=ppart s s.length (k+1):=by
 unfold ppart;obtain⟨m,hm⟩:∃m,s.length - k=m+1:=⟨s.length - k - 1,by omega⟩;rw[hm,show s.length - (k+1)=m by omega,List.replicate_succ,List.set_append_right _ _ (by simp;omega)];rw[List.take_succ_eq_append_getElem h]
 have e:k - (s.take k).length=0:=by simp;omega
 rw[e,Qn,List.append_assoc];simp[List.getD_eq_getElem?_getD,List.getElem?_eq_getElem h]
theorem Tryz.infoSm:(prog.info? 89).map (λi=>(i.zero,i.size,i.bytes))=some (some (.agg #[.int .i64 0,.int .u64 0]),2,16):=by kernel_rfl
theorem xM (v1 v2:Value) (s:List (Int × Int)) (w:World) (h1:Bs .i64 w v1 (s.map Prod.fst)) (h2:Bs .u64 w v2 (s.map Prod.snd)) (hl:s.length<=65536) :
 Calls prog 174 #[v1,v2] w λe w'=>∃u,e=.returned u∧w'.ownsRow w.heap.size 89 2 u s.length (Yc s)∧N0 w w':=by
 obtain⟨i0,hi,hz0,hz1,hz2⟩:=info_parts Tryz.infoSm;have he:=Qa h1;have ha:=Qa h2;obtain⟨ao,cap,rfl⟩:=h1.len;obtain⟨ao2,cap2,rfl⟩:=h2.len;obtain⟨n,hn⟩:=EX s.length;rw[List.length_map,<-hn] at he ha;rw[List.length_map,List.length_map,<-hn];rw[<-hn] at hl;have HN:=Qa hn;obtain⟨wm,hh,h4,hf⟩:=run_make_full (P:=prog) w w.heap.size 40 89 i0 (.agg #[.int .i64 0,.int .u64 0]) 2 underlying40 hi hz0 hz1 .i64 .i64 n (by rw[hz2];omega) (by unfold maxLen;omega) (Nat.le_refl _)
 have h0:Hid (wm.ownsRow w.heap.size 89 2 (.slice (some ⟨w.heap.size,0,none⟩) n n) n (Yc (ppart s n 0))∧N0 w wm):=by
  rw[EO];exact⟨h4,(Only.refl _ _).grown hf (λ_ _ e=>by cases e)⟩
 clear h4 hf;obtain⟨N,hN⟩:=EX w.heap.size;rw[<-hN] at hh h0;rw[<-hN];have HNN:=Qa hN;clear h1 h2 hn hN;go_enter func174,ntmps174;go_wp2
 go_loopw [13] (λi wr=>∃k:Nat,k<=n∧i=.int .i64 k∧wr.ownsRow N 89 2 (.slice (some ⟨N,0,none⟩) n n) n (Yc (ppart s n k))∧N0 w wr) (λi _=>n - (intOf i).toNat)
 case atStart=>exact⟨0,Nat.zero_le _,rfl,h0.o.1,h0.o.2⟩
 case round =>
  obtain⟨k,hk,rfl,h3,h7⟩:=hrel;clear h0 hh;have h5:=Qa h3;have hm:=Qa h7
  by_cases hlt:k<n
  ·have dlt:decide ((k:Int)<(n:Int))=true:=by simp;omega
   have h8:k<s.length:=by rw[<-HN.o];exact hlt
   obtain⟨b,off,cap',e1,hc0⟩:=(he.o.past h7).at k (by simpa using h8)
   have ea:ao=some ⟨b,off,none⟩:=by simp at e1;exact e1.1
   subst ea;clear e1;obtain⟨b2,hd,hj,e2,hc2⟩:=(ha.o.past h7).at k (by simpa using h8)
   have ea:ao2=some ⟨b2,hd,none⟩:=by simp at e2;exact e2.1
   subst ea;clear e2;rw[(pgetD s k).1] at hc0;rw[(pgetD s k).2] at hc2;have hz:=Ih s k (by omega);rw[<-HN.o] at hz;have h9:=Jc (ppart s n k) k (by omega)
   have hg:∀i,i<n*2->wr.cell? ⟨N,i,none⟩=(Yc (ppart s n k))[i]?:=λi hi=>h3.cellAt i hi
   have hy1:=hg (k*2) (by omega);have hy2:=hg (k*2+1) (by omega);rw[h9.1] at hy1;rw[h9.2] at hy2;have hfr:wr.frozen? ⟨N,k*2,none⟩=false:=h3.frozenAt _;have hfr2:wr.frozen? ⟨N,k*2+1,none⟩=false:=h3.frozenAt _
   have h6:Hid (((Yc (ppart s n k)).set (k*2) (.int .i64 (s.getD k (0,0)).1)).set (k*2+1) (.int .u64 (s.getD k (0,0)).2)=Yc (ppart s n (k+1))):=by
    simp only[Hid];rw[IB _ _ _ _ (by omega)];have:=kM s k h8;rw[<-HN.o] at this;rw[<-this]
   generalize (s.getD k (0,0)).1=x at *;generalize (s.getD k (0,0)).2=z at *;generalize ((ppart s n k).getD k (0,0)).1=y1 at *;generalize ((ppart s n k).getD k (0,0)).2=y2 at *;clear h3 h7 he ha h8 hz h9 hg;go_wp2
   go_roundw
   case rel =>
    have e1:=(h5.o.stored (k*2) (.int .i64 x)).1;have e2:=(e1.stored (k*2+1) (.int .u64 z)).1;rw[h6.o] at e2;have hNw:=HNN.o;refine⟨k+1,by omega,by go_num,e2,?_⟩;exact (hm.o.setCell (p:=⟨N,k*2,none⟩) (λhb=>by simp only at hb;omega) _).setCell (p:=⟨N,k*2+1,none⟩) (λhb=>by simp only at hb;omega) _
   case measure=>simp[intOf];omega
  ·obtain rfl:k=n:=by omega
   have dlt:decide ((k:Int)<(k:Int))=false:=by simp
   have F:Hid (wr.ownsRow N 89 2 (.slice (some ⟨N,0,none⟩) k k) k (Yc s)):=by
    have h1:=h5.o;have e1:=wE s;rw[<-HN.o] at e1;rw[e1] at h1;exact h1
   clear h3 h7;go_wp2;go_ret;exact⟨_,rfl,F.o,hm.o⟩
section
open Go.Shelf
attribute [local go_sem] Oper.semAt_some
theorem jS (F:Fence) (n:Nat) (h3:F.fn 233) (hro:F.round=none) (ao:Option Addr) (cap:Nat) (w:World) :
 CallsIn F n prog 233 #[.slice ao 0 cap] w λe W'=>e=.returned (.tuple #[.int .u64 0,.int .u64 0])∧Below w.heap.size w W':=by
 refine callsIn_of_wp_marks func233 rfl h3 ?_ hro;simp only[ntmps233,List.size_toArray,Qj,List.length_nil,Nat.reduceAdd,Nat.reduceSub,Array.replicate_succ,Array.replicate_zero,List.push_toArray,List.append_toArray,List.nil_append,List.cons_append]
 gi_wp2
 have bA:=(Boxed.new w 23 (.int .u64 0)).alloc (.cells #[.int .u64 0] 23);have bC:=Boxed.new (w.alloc (.cells #[.int .u64 0] 23)) 23 (.int .u64 0);rw[World.size_alloc] at bC;have r1:=bA.cell;have r3:=bC.cell;refine⟨.tuple #[.int .u64 0,.int .u64 0],?_,rfl,((Below.refl _ w).alloc (Nat.le_refl _) _).alloc (by simp) _⟩;simp[results,Tryz.f233,go_sem,r1,r3]
theorem vW (v:Value) (xs:LI) (w:World) (h:Bs .u64 w v xs) (hl:xs.length<=1000000000) :
 Calls prog 233 #[v] w λe w'=>e=.returned (.tuple #[.int .u64 (lo xs),.int .u64 (hi xs)])∧N0 w w':=by
 obtain⟨ao,cap,rfl,hc,hr⟩:=h
 refine ((callsIn_wide (n:=3)).1 ?_:Calls prog 233 #[.slice ao xs.length cap] w λe w'=>e=.returned (.tuple #[.int .u64 (lo xs),.int .u64 (hi xs)])∧Below w.heap.size w w').mono λe w' h=>⟨h.1,YU h.2⟩
 cases xs with
 | nil=>exact jS _ _ trivial rfl ao cap w
 | cons x0 zs =>
  obtain⟨b,off,rfl,h2⟩:=hr (by simp);have c0:w.cell? ⟨b,off,none⟩=some (.int .u64 x0):=h2 0 (by simp)
  by_cases h1:cap=1
  ·subst h1
   have h0:zs=[]:=List.eq_nil_of_length_eq_zero (by rw[Qj] at hc;omega);subst h0;exact zu _ _ trivial trivial trivial rfl (by omega) b off x0 w c0
  ·refine jt _ _ trivial trivial trivial rfl (by omega) b off cap zs x0 w c0 (by rw[Qj] at hl;omega) (by rw[Qj] at hc;omega) h1 ?_
   refine⟨_,_,rfl,λ_=>⟨b,off+1,rfl,World.block_lt_of_cell? w _ c0,λj hj=>?_⟩⟩;have:=h2 (j+1) (by rw[Qj];omega);rw[show off+1+j=off+(j+1) by omega,this];simp[List.getD_eq_getElem?_getD]
end
theorem Hy (x y z:LI):cat (λi=>if i=0 then x else if i=1 then y else z) 3=x++y++z:=by
 rw[WM,WM,WM,TV];simp
theorem Jn (v:Value) (xs:LI) (w:World) (h:Bs .u64 w v xs) (hu:U64 xs) (hl:xs.length<=65536) :
 Calls prog 208 #[v] w λe w'=>∃v',e=.returned (.tuple #[v',.int .i64 0])∧w'.ownsRow w.heap.size 5 1 v' (PK xs).length ((PK xs).map (Value.int .u8))∧N0 w w':=by
 have A:=Qa (vW v xs w h (by omega));have hn:=Qa h;have HU:=Qa hu;obtain⟨l1,l2,l3⟩:=lohi hu;have HW:=Qa (wd_le hu);have hg:Hid (wd xs=wid (hi xs - lo xs).toNat):=rfl;obtain⟨ao,cap,rfl⟩:=h.len
 have d0:decide (65536<(xs.length:Int))=false:=by simp;omega
 obtain⟨m,hm⟩:=EX xs.length;rw[<-hm] at A hn hl d0 ⊢;have HM:=Qa hm;clear h hu hm;obtain⟨a,ha⟩:=EX (lo xs);obtain⟨c,hc⟩:=EX (hi xs);rw[<-ha,<-hc] at A hg l2;rw[<-ha] at l1;rw[<-hc] at l3;have HA:=Qa ha;have HCC:=Qa hc;clear ha hc;go_enter func208,ntmps208;go_wp2_with fail;refine A.o.mono ?_;rintro e w1 ⟨rfl,o1⟩;clear A;have HO:=Qa o1;have BW:=Qa (Zg (c - a) w1 (by omega) (by omega));clear o1;go_wp2_with fail;refine BW.o.mono ?_;rintro e w1' ⟨rfl,rfl⟩;clear BW;rw[<-hg.o];have hq:=HW.o;obtain⟨q,he⟩:=EX (wd xs);rw[<-he] at hq ⊢;have HQ:=Qa he;clear he hg HW
 have hq2:(q:Int)<=64:=by omega
 have W0:=Qa (WrAt.new (T:=272) (E:=5) w1);have hs:Hid (Below w1.heap.size w1 (w1.alloc (.cells #[.slice none 0 0,.int .i64 0] 272))):=(Below.refl _ _).alloc (Nat.le_refl _) _;have HSZ:=HO.o.size;go_wp2
 go_loopw [24] (λi wr=>∃k:Nat,k<=m∧i=.int .i64 k∧Below w1.heap.size w1 wr∧∃vw,WrAt 272 5 wr (w1.heap.size+1) w1.heap.size vw (ups a q (xs.take k))) (λi _=>m - (intOf i).toNat)
 case atStart=>exact⟨0,Nat.zero_le _,rfl,hs.o,_,W0.o⟩
 case round =>
  obtain⟨k,hk,rfl,h7,vw,hd⟩:=hrel;clear W0 hs;have h6:=Qa h7;have k0:=Qa hd
  by_cases hlt:k<m
  ·have h8:k<xs.length:=by rw[<-HM.o];exact hlt
   have hw:=(hn.o.keep HO.o (λ_ _ f=>f)).later h7;obtain⟨b,off,cap',e1,c0⟩:=hw.at k h8;simp only[Value.slice.injEq] at e1;obtain⟨rfl,e2,rfl⟩:=e1;clear e2
   have hb:xs.getD k 0∈xs:=by rw[Qd,Qi h8];simp
   obtain⟨x0,x1⟩:=HU.o _ hb;have x2:=lo_le xs _ hb;rw[<-HA.o] at x2;have x3:=Sg xs _ hb;rw[<-HA.o,<-HQ.o] at x3
   have hy:Hid (ups a q (xs.take (k+1))=ups a q (xs.take k)++Ql (xs.getD k 0 - a).toNat q):=by
    simp only[Hid];rw[U9 xs k h8,tT]
   have ho:(ups a q (xs.take k)).length<=1000000000:=by
    rw[Mi,Qg];have:min k xs.length*q<=65536*64:=Nat.mul_le_mul (by omega) hq;omega
   obtain⟨x,hx⟩:=EX (xs.getD k 0);rw[<-hx] at c0 x0 x1 x2 x3 hy;have PU:=Qa (Wd hd (x - a) q (by omega) hq2 (by omega) (by omega) (by omega) ho)
   have dlt:decide ((k:Int)<(m:Int))=true:=by simp;omega
   clear hw hx hb x3 ho hd h7 h8;go_wp2_with fail;refine PU.o.mono ?_;rintro e w2 ⟨rfl,vw2,hz,ht,st2⟩;have HB2:=Qa (h6.o.trans (ht.below (B:=w1.heap.size) h6.o.size (k0.o.foot_ge (Nat.le_refl _))));have HW2:=Qa hz;clear PU hz ht st2;go_wp2
   go_roundw
   case rel=>exact⟨k+1,by omega,by simp,HB2.o,vw2,by rw[hy.o];simpa using HW2.o⟩
   case measure=>simp[intOf];omega
  ·obtain rfl:k=m:=by omega
   have dlt:decide ((k:Int)<(k:Int))=false:=by simp
   have AP:=Qa (UQ (.slice none 0 0) [] a wr (Bs.nil _ _) NoCap.nil (by simp) l1 (by omega));clear hd h7;go_wp2_with fail;refine AP.o.mono ?_;rintro e w3 ⟨v3,rfl,h0,hf⟩;clear AP;rw[List.nil_append] at h0
   have hp:(q:Int)<256:=by omega
   have hh:=Qa (Yw (v:=a.toNat) (by omega));have W3:=k0.o.keep ((hf.trans ((Only.refl (λ_=>False) w3).alloc (.cells #[.int .u8 q] 5)) (λ_ _ f=>f))) (λf=>f) (λ_ _ f=>f)
   have hup:Hid (ups a q (xs.take k)=up xs):=by
    simp only[Hid];rw[HM.o,List.take_length,up,<-HA.o,<-HQ.o]
   rw[hup.o] at W3
   have h3:(up xs).length<=65536*64:=by rw[Gv,<-HQ.o,<-HM.o];exact Nat.mul_le_mul hl hq
   have BY:=Qa (Xc W3 (by omega));have O3:=Qa hf;have W3':=Qa h0;have hj:=Qa h3;clear hf h0 W3 h3;go_wp2_with fail;refine BY.o.mono ?_;rintro e w4 ⟨v4,rfl,h2,h9⟩;have h0:=h9.own (((Only.refl (λ_=>False) w3).alloc (.cells #[.int .u8 q] 5)).own W3'.o (λ_ _ f=>f)) (λ_ _ f=>f);clear BY;have b1:Bs .u8 w4 (.slice (some ⟨w3.heap.size,0,none⟩) 1 1) [(q:Int)]:=(Bs.lit .u8 w3 5 [(q:Int)]).keep h9 (λ_ _ f=>f);have h5:Below w4.heap.size w4 (w4.alloc (.cells #[v3,.slice (some ⟨w3.heap.size,0,none⟩) 1 1,v4] 22)):=(Below.refl _ _).alloc (Nat.le_refl _) _
   have CC:=Qa (VP w4.heap.size 3 (λi=>if i=0 then v3 else if i=1 then .slice (some ⟨w3.heap.size,0,none⟩) 1 1 else v4) (λi=>if i=0 then gs a.toNat else if i=1 then [(q:Int)] else QH (up xs)) (w4.alloc (.cells #[v3,.slice (some ⟨w3.heap.size,0,none⟩) 1 1,v4] 22)) (by omega) (by omega)
    (by
     intro i hi
     have:i=0∨i=1∨i=2:=by omega
     rcases this with rfl | rfl | rfl <;> go_cell)
    (by
     intro i hi
     have:i=0∨i=1∨i=2:=by omega
     rcases this with rfl | rfl | rfl
     ·exact (Bs.of_own h0).later h5
     ·exact b1.later h5
     ·exact (Bs.of_own h2).later h5)
    (by
     intro i hi
     have:i=0∨i=1∨i=2:=by omega
     rcases this with rfl | rfl | rfl
     ·exact NoCap.of_own h0
     ·exact NoCap.some _ _ _
     ·exact NoCap.of_own h2)
    (by rw[Hy];simp;omega)
    (by
     rw[Hy,Qb,Qb,UG,nb]
     have:=hj.o;have:=hh.o;simp;omega))
   rw[Hy] at CC;have O4:=Qa h9;obtain⟨f3,cp3,hv3⟩:=(Bs.of_own h0).len;obtain⟨f4,cp4,hv4⟩:=(Bs.of_own h2).len;subst hv3 hv4;clear h0 h2 h9 b1 h5;go_wp2_with fail;refine CC.o.mono ?_;rintro e w5 ⟨v5,rfl,h1,hv⟩
   have hr:gs a.toNat++[(q:Int)]++QH (up xs)=PK xs:=by unfold PK;rw[<-HA.o,<-HQ.o];simp
   rw[hr] at h1;have s4:=O4.o.size;have s3:=O3.o.size;have sr:=h6.o.size;simp only[World.size_alloc] at h1 s4;have h4:=Qa (Qr h1 (show w.heap.size<=w4.heap.size+1 by omega));have bl:Hid (Below w.heap.size w w5):=((((HO.o.low (Nat.le_refl _)).trans (h6.o.mono HSZ)).trans (O3.o.low (by omega))).trans ((((Below.refl _ w3).alloc (by omega) _)).trans (O4.o.low (by simp;omega)))).trans (((Below.refl _ w4).alloc (by omega) _).trans (hv.low (by simp;omega)));clear h1 hv CC hr;obtain⟨f5,cp5,hv5⟩:=(Bs.of_own h4.o).len;subst hv5;go_wp2;go_ret2;exact⟨_,rfl,h4.o,YU bl.o⟩
theorem dclo (c:Nat) (x a:Int) (w:World) (hc:w.cell? ⟨c,0,none⟩=some (.int .i64 a)) (hf:w.frozen? ⟨c,0,none⟩=false) :
 Calls prog 232 #[.int .i64 x,.pointer (some ⟨c,0,none⟩)] w λe w'=>e=.returned (.int .i64 (wrap64 (x - a)))∧w'=w.setCell ⟨c,0,none⟩ (.int .i64 x):=by
 go_enter func232,ntmps232;go_wp2;go_ret;exact⟨rfl,rfl⟩
theorem sclo (c:Nat) (x a:Int) (w:World) (hc:w.cell? ⟨c,0,none⟩=some (.int .i64 a)) (hf:w.frozen? ⟨c,0,none⟩=false) :
 Calls prog 269 #[.int .i64 x,.pointer (some ⟨c,0,none⟩)] w λe w'=>e=.returned (.int .i64 (wrap64 (a+x)))∧w'=w.setCell ⟨c,0,none⟩ (.int .i64 (wrap64 (a+x))):=by
 go_enter func269,ntmps269;go_wp2;go_ret;exact⟨rfl,rfl⟩
theorem qK {f:Int->LI->LI} {st:Int->Int->Int × Int} (hf:∀a x t,f a (x :: t)=(st a x).1 :: f (st a x).2 t) (xs:LI) (j:Nat) (a:Int) (hj:j<xs.length) :
 (xs.set j (st a (xs.getD j 0)).1).take (j+1)++f (st a (xs.getD j 0)).2 ((xs.set j (st a (xs.getD j 0)).1).drop (j+1))=xs.take j++f a (xs.drop j):=by
 have e1:xs.drop j=xs.getD j 0 :: xs.drop (j+1):=by
  rw[Qd,Qi hj];exact List.drop_eq_getElem_cons hj
 rw[e1,hf,List.take_add_one,List.take_set_of_le (Nat.le_refl _),List.drop_set_of_lt (Nat.lt_succ_self _),List.getElem?_set_self hj];simp
theorem rep_a {F:Nat} {f:Int->LI->LI} {so:Int->Int->Int × Int} (hb:∀a,f a []=[]) (he:∀a x t,f a (x :: t)=(so a x).1 :: f (so a x).2 t) (CL:∀(c:Nat) (x a:Int) (w:World),w.cell? ⟨c,0,none⟩=some (.int .i64 a)->w.frozen? ⟨c,0,none⟩=false->Calls prog F #[.int .i64 x,.pointer (some ⟨c,0,none⟩)] w λe w'=>e=.returned (.int .i64 (so a x).1)∧w'=w.setCell ⟨c,0,none⟩ (.int .i64 (so a x).2)) (hF:F=232∨F=269) (lo c st n:Nat) (a0:Int) (v:Value) (xs:LI) (w:World) (hn:xs.length=n) (h0:w.ownsRow lo 3 1 v n (xs.map (Value.int .i64)))
 (hc:w.cell? ⟨c,0,none⟩=some (.int .i64 a0)) (hf:w.frozen? ⟨c,0,none⟩=false) (hne:∀k,v.ownBlock=some k->k≠c) (hl:n<=1000000) (hs:st<=1000000) :
 Calls prog 206 #[v,.int .i64 st,.func (.func F) #[] #[.pointer (some ⟨c,0,none⟩)]] w λe w'=>e=.returned (.tuple #[]) ∧
  w'.ownsRow lo 3 1 v n ((xs.take st++f a0 (xs.drop st)).map (Value.int .i64))∧Only (λk=>v.ownBlock=some k∨k=c) w w':=by
 have h9:v=.slice none 0 0∧n=0∨∃g cap,v=.slice (some ⟨g,0,none⟩) n cap:=by
  rcases h0.2 with h | ⟨g,cap,cur,h,_⟩
  ·exact .inl h
  ·exact .inr ⟨g,cap,h⟩
 have CLH:=Qa CL;have hb:=Qa hb;have he:=Qa he;clear CL;obtain⟨hh,h2⟩:=EX (xs.take st++f a0 (xs.drop st));rw[<-h2]
 rcases hF with rfl | rfl
 all_goals
  rcases h9 with ⟨rfl,rfl⟩ | ⟨g,cap,rfl⟩
  ·have hx:xs=[]:=List.eq_nil_of_length_eq_zero hn
   subst hx
   have h8:hh=[]:=by rw[h2];simp[hb.o]
   subst h8;have H:=Qa h0;clear h0 h2 hc hf hne hn;go_enter func206,ntmps206;go_wp2
   go_loop [6] (λi=>i=.int .i64 st) (λ_=>0)
   case atStart=>rfl
   case round =>
    subst hrel;go_wp2
    go_end0
    exact⟨rfl,H.o,Only.refl _ _⟩
  ·have hp:g≠c:=hne g rfl
   have h3:=Qa (And.intro h0 (And.intro hc hf));have HF:=Qa h2;have HN:=Qa hn;clear h0 hc hf h2 hne hn;go_enter func206,ntmps206;go_wp2
   go_loopw [6] (λi wr=>∃(j:Nat) (ys:LI) (a:Int),j<=1000000∧i=.int .i64 j∧ys.length=n∧wr.ownsRow lo 3 1 (.slice (some ⟨g,0,none⟩) n cap) n (ys.map (Value.int .i64)) ∧
    wr.cell? ⟨c,0,none⟩=some (.int .i64 a)∧wr.frozen? ⟨c,0,none⟩=false∧hh=ys.take j++f a (ys.drop j)∧Only (λk=>k=g∨k=c) w wr) (λi _=>n - (intOf i).toNat)
   case atStart=>exact⟨st,xs,a0,hs,rfl,HN.o,h3.o.1,h3.o.2.1,h3.o.2.2,HF.o,Only.refl _ _⟩
   case round =>
    obtain⟨j,ys,a,hj,rfl,hd,h0,hc,hf,h2,ha⟩:=hrel;clear h3 HF HN
    by_cases hlt:j<n
    ·have h5:wr.cell? ⟨g,j,none⟩=some (.int .i64 (ys.getD j 0)):=by
      rw[h0.cellAt j (by omega),List.getElem?_map,Qi (by omega),Qd,Qi (by omega)]
      rfl
     have h6:=qK he.o ys j a (by omega);obtain⟨y,hy⟩:=EX (ys.getD j 0);rw[<-hy] at h5 h6;have A:=Qa (CLH.o c y a wr hc hf);generalize (so a y).1=u at *;generalize (so a y).2=z at *
     have hg:(wr.setCell ⟨c,0,none⟩ (.int .i64 z)).cell? ⟨g,j,none⟩=some (.int .i64 y):=by
      rw[World.cell?_setCell_other (h:=by intro h;exact hp (by cases h;rfl))];exact h5
     have hfr2:(wr.setCell ⟨c,0,none⟩ (.int .i64 z)).frozen? ⟨g,j,none⟩=false:=by
      rw[World.frozen?_setCell];exact h0.frozenAt _
     have h7:Only (λk=>k=g∨k=c) w (wr.setCell ⟨c,0,none⟩ (.int .i64 z)):=ha.setCell (λ_=>.inr rfl) _
     have h4:(wr.setCell ⟨c,0,none⟩ (.int .i64 z)).ownsRow lo 3 1 (.slice (some ⟨g,0,none⟩) n cap) n (ys.map (Value.int .i64)) :=
      ((Only.refl (λk=>k=c) wr).setCell (p:=⟨c,0,none⟩) (λ_=>rfl) _).own h0 (λk hk=>by simp[Value.ownBlock] at hk;omega)
     have hm:(wr.setCell ⟨c,0,none⟩ (.int .i64 z)).cell? ⟨c,0,none⟩=some (.int .i64 z):=World.cell?_setCell_same _ _ _ hc
     have hq:(wr.setCell ⟨c,0,none⟩ (.int .i64 z)).frozen? ⟨c,0,none⟩=false:=by rw[World.frozen?_setCell];exact hf
     have H:=Qa (And.intro h7 (And.intro h4 (And.intro hm (And.intro hq (And.intro h2 h6)))))
     have i0:(0:Int)<=(j:Int):=by omega
     have i1:(j:Int)<(n:Int):=by omega
     clear h0 hc hf h2 ha h7 h4 hm hq h6;have HY:=Qa hy;have ho:=Qa hd;clear hy hd;go_wp2_with fail;refine A.o.mono ?_;rintro e w1 ⟨rfl,rfl⟩;clear A;go_wp2
     go_roundw
     case rel =>
      refine⟨j+1,ys.set j u,z,by omega,by go_num,by rw[List.length_set];exact ho.o,?_,?_,?_,?_,?_⟩
      ·have h1:=(H.o.2.1.stored j (.int .i64 u)).1
       rw[<-List.map_set] at h1;exact h1
      ·rw[World.cell?_setCell_other (h:=by intro h;exact hp (by cases h;rfl))];exact H.o.2.2.1
      ·rw[World.frozen?_setCell];exact H.o.2.2.2.1
      ·rw[H.o.2.2.2.2.1];exact H.o.2.2.2.2.2.symm
      ·exact H.o.1.setCell (λ_=>.inl rfl) _
     case measure=>simp[intOf];omega
    ·have e1:hh=ys:=by
      rw[h2,List.drop_of_length_le (by omega),List.take_of_length_le (by omega)];simp[hb.o]
     subst e1;have H:=Qa (And.intro h0 ha);clear h0 ha hc hf h2;have ho:=Qa hd;clear hd;go_wp2
     go_end0
     exact⟨rfl,H.o.1,H.o.2.mono (λi _ h=>h.imp (λe=>by rw[e];rfl) id)⟩
theorem Tryz.infoCI:(prog.info? 3).map (λi=>(i.zero,i.size,i.bytes))=some (some (.int .i64 0),1,8):=by kernel_rfl
theorem Fl (c:Nat) (w:World):Calls prog 205 #[.slice none 0 c] w λe w'=>e=.returned (.slice none 0 0)∧w=w':=by
 have hnil:∀W,(binOp .eql 160 (.slice none 0 c) (.slice none 0 0)).run prog W=.ok (.bool true) W:=λW=>by
  rw[Lib.run_eql_slice_nil W 160 3 none 0 c 0 0 underlying160];rfl
 go_enter func205,ntmps205;go_wp2;go_ret;exact⟨rfl,rfl⟩
theorem rE (ad:Addr) (m c:Nat) (news:List Value) (w:World) (hl:news.length=m) (hnews:∀j u,news[j]? = some u->w.cell? (ad.add j)=some u) (h1:∀u∈news,u.oneCell'=true) (hm:m<=1000000) :
 Calls prog 205 #[.slice (some ad) m c] w λe w'=>∃v',e=.returned v'∧w'.ownsRow w.heap.size 3 1 v' m news∧N0 w w'∧v'≠.slice none 0 0:=by
 obtain⟨i0,hi,hz0,hz1,hz2⟩:=info_parts Tryz.infoCI
 have hnil:∀W,(binOp .eql 160 (.slice (some ad) m c) (.slice none 0 0)).run prog W=.ok (.bool false) W:=λW=>by
  rw[Lib.run_eql_slice_nil W 160 3 (some ad) m c 0 0 underlying160];rfl
 have ho:=World.ownsRow_made (base:=w.heap.size) (e:=3) (size:=1) w #[] 0 (Nat.le_refl _) (by unfold maxLen;omega) rfl;have HN:Hid (∀j u,news[j]? = some u->w.cell? (ad.add j)=some u):=hnews;clear hnews;go_enter func205,ntmps205;go_wp2_with (at_builtin;refine wpList_append_own_at _ rfl _ _ _ rfl w.heap.size 3 i0 (.int .i64 0) 1 8 underlying160 hi hz0 hz1 hz2 rfl (by omega) (.slice (some ⟨w.heap.size,0,none⟩) 0 0) 0 [] rfl ho ad m c news rfl ?c0 ?c1 h1 ?c3 ?c4 ?c5 ?_)
 case c0=>omega
 case c1 =>
  intro j u hu;have h0:=HN.o j u hu;rw[World.cell?_of_block (Below.heap_alloc w _ _ (World.block_lt_of_cell? w _ h0))];exact h0
 case c3=>unfold maxLen;omega
 case c4=>omega
 case c5=>simp
 intro v' w1 hown1 hgrow hnn hat
 have FIN:Hid (w1.ownsRow w.heap.size 3 1 v' m news∧N0 w w1∧v'≠.slice none 0 0):=by
  refine⟨by simpa using hown1,((Only.refl _ _).alloc _).grown hgrow (λk hk e=>?_),hnn⟩;simp[Value.ownBlock] at e;omega
 clear hown1 hgrow hnn hat ho;go_wp2;go_ret;exact⟨v',rfl,FIN.o⟩
theorem MF (v:Value) (xs:LI) (w:World) (h:Bs .i64 w v xs) (hm:xs.length<=1000000) :
 Calls prog 205 #[v] w λe w'=>∃v',e=.returned v'∧w'.ownsRow w.heap.size 3 1 v' xs.length (xs.map (Value.int .i64))∧N0 w w':=by
 obtain⟨ao,cap,rfl,hc,hr⟩:=h
 cases ao with
 | none =>
  have hx:xs=[]:=by
   cases xs with
   | nil=>rfl
   | cons a t=>obtain⟨b,off,h,_⟩:=hr (by simp);cases h
  subst hx;refine (Fl cap w).mono ?_;rintro e w' ⟨rfl,rfl⟩;exact⟨_,rfl,World.ownsRow_nil _ _ _ _,Only.refl _ _⟩
 | some ad =>
  refine (rE ad xs.length cap (xs.map (Value.int .i64)) w (by simp) ?_ (Kz _ _) hm).mono ?_
  ·intro j u hu
   have hj:j<xs.length:=by
    have:=(List.getElem?_eq_some_iff.1 hu).1
    simpa using this
   obtain⟨b,off,hb,h0⟩:=hr (by intro h;subst h;simp at hj)
   cases hb
   have h3:(⟨b,off,none⟩:Addr).add j=⟨b,off+j,none⟩:=by unfold Addr.add;split <;> simp_all
   rw[h3,h0 j hj];rw[<-hu];simp[List.getElem?_eq_getElem hj]
  ·rintro e w' ⟨v',rfl,h1,h2,_⟩
   exact⟨v',rfl,h1,h2⟩
theorem Xm {w:World} {lo:Nat} {E:TypeId} {size:Nat} {v:Value} {n:Nat} {xs:List Value} (h:w.ownsRow lo E size v n xs) {b:Nat} (hb:v.ownBlock=some b):lo<=b∧b<w.heap.size:=by
 rcases h.2 with ⟨rfl,_⟩ | ⟨g,cap,cur,rfl,hg,hh,_⟩
 ·simp[Value.ownBlock] at hb
 ·simp[Value.ownBlock] at hb
  subst hb;exact⟨hg,(Array.getElem?_eq_some_iff.1 hh).1⟩
theorem Sw (k:Nat) (w:World) (hk:k<=3):Calls prog 204 #[.int .i64 k] w λe w'=>e=.returned (.bool true)∧w=w':=by
 have h1:decide ((0:Int)<=k)=true:=Qc (by omega);have h2:decide ((k:Int)<=3)=true:=Qc (by omega);go_enter func204,ntmps204;go_wp2;go_ret;exact⟨rfl,rfl⟩
theorem Ph (w:World):(w.alloc (.cells #[.int .i64 0] 3)).cell? ⟨w.heap.size,0,none⟩=some (.int .i64 0) ∧
 (w.alloc (.cells #[.int .i64 0] 3)).frozen? ⟨w.heap.size,0,none⟩=false∧N0 w (w.alloc (.cells #[.int .i64 0] 3)) :=
 ⟨by rw[World.cell?_alloc_at _ _ _ _ rfl];rfl,World.frozen?_alloc_at _ _ _ _ rfl,(Only.refl _ _).alloc _⟩
theorem zj (w:World):Calls prog 207 #[] w λe w'=>e=.returned (.func (.func 232) #[] #[.pointer (some ⟨w.heap.size,0,none⟩)]) ∧
 w'.cell? ⟨w.heap.size,0,none⟩=some (.int .i64 0)∧w'.frozen? ⟨w.heap.size,0,none⟩=false∧N0 w w':=by
 have hmf:∀(fn:Fn) (first cap:Array Value) (w:World),(Instr.makeFunc fn first cap).run prog w=.ok (.func fn first cap) w:=λ_ _ _ _=>rfl
 have H:=Qa (Ph w);go_enter func207,ntmps207;go_wp2;go_ret;exact⟨rfl,H.o⟩
theorem Ov (w:World):Calls prog 251 #[] w λe w'=>e=.returned (.func (.func 269) #[] #[.pointer (some ⟨w.heap.size,0,none⟩)]) ∧
 w'.cell? ⟨w.heap.size,0,none⟩=some (.int .i64 0)∧w'.frozen? ⟨w.heap.size,0,none⟩=false∧N0 w w':=by
 have hmf:∀(fn:Fn) (first cap:Array Value) (w:World),(Instr.makeFunc fn first cap).run prog w=.ok (.func fn first cap) w:=λ_ _ _ _=>rfl
 have H:=Qa (Ph w);go_enter func251,ntmps251;go_wp2;go_ret;exact⟨rfl,H.o⟩
theorem xR (v:Value) (xs:LI) (k:Nat) (w:World) (hb:Bs .i64 w v xs) (hl:xs.length<=1000000) (hk:k<=3) :
 Calls prog 177 #[v,.int .i64 k] w λe w'=>∃v',e=.returned (.tuple #[v',.int .i64 0])∧w'.ownsRow w.heap.size 3 1 v' xs.length ((D k xs).map (Value.int .i64))∧N0 w w':=by
 have A0:=Qa (Sw k w hk);have A1:=Qa (MF v xs w hb hl);obtain⟨n,hn⟩:=EX xs.length;rw[<-hn] at hl A1 ⊢;obtain⟨N,hN⟩:=EX w.heap.size;rw[<-hN] at A1 ⊢;have HN:=Qa (And.intro hn hN);clear hn hN hb;go_enter func177,ntmps177;go_wp2_with fail;refine A0.o.mono ?_;rintro e w1 ⟨rfl,rfl⟩;clear A0;go_wp2_with fail;refine A1.o.mono ?_;rintro e w1 ⟨v',rfl,h3,h7⟩;have H1:=Qa (And.intro h3 h7);clear A1 h3 h7;go_wp2
 go_loopw [14] (λi wr=>∃j:Nat,j<=k∧i=.int .i64 j∧wr.ownsRow N 3 1 v' n ((D j xs).map (Value.int .i64))∧N0 w wr) (λi _=>k - (intOf i).toNat)
 case atStart=>exact⟨0,Nat.zero_le _,rfl,H1.o⟩
 case round =>
  obtain⟨j,hj,rfl,h1,h4⟩:=hrel;clear H1
  by_cases hlt:j<k
  ·have H:=Qa (And.intro h1 h4)
   clear h1 h4;have A2:=Qa (zj wr);go_wp2_with fail;refine A2.o.mono ?_;rintro e w2 ⟨rfl,hc,hf,h5⟩;have h0:=h5.own H.o.1 (λ_ _ f=>f)
   have hln:(D j xs).length=n:=by rw[Xa];exact HN.o.1.symm
   have A3:=Qa (rep_a (f:=dif) (so:=λa x=>(wrap64 (x - a),x)) (λ_=>rfl) (λ_ _ _=>rfl) dclo (.inl rfl) N wr.heap.size j n 0 v' (D j xs) w2 hln h0 hc hf (λb hb=>Nat.ne_of_lt (Xm H.o.1 hb).2) hl (by omega));have H2:=Qa (And.intro h5 h0);clear A2 hc hf h5 h0;go_wp2_with fail;refine A3.o.mono ?_;rintro e w3 ⟨rfl,h2,h6⟩;have H3:=Qa (And.intro h2 h6);clear A3 h2 h6;go_wp2
   go_roundw
   case rel =>
    refine⟨j+1,by omega,by go_num,H3.o.1,?_⟩;have o2:=H.o.2.trans H2.o.1 (λ_ _ f=>f);refine o2.trans H3.o.2 (λi hi h=>?_)
    rcases h with h | h
    ·have:=(Xm H.o.1 h).1
     have:=HN.o.2;omega
    ·have:=H.o.2.size
     omega
   case measure=>simp[intOf];omega
  ·have e1:j=k:=by omega
   subst e1;have H:=Qa (And.intro h1 h4);clear h1 h4;go_wp2;go_ret2;exact⟨_,rfl,H.o⟩
theorem yh (v:Value) (xs:LI) (k:Nat) (w:World) (hb:Bs .i64 w v xs) (hl:xs.length<=1000000) (hk:k<=3) :
 Calls prog 225 #[v,.int .i64 k] w λe w'=>∃v',e=.returned (.tuple #[v',.int .i64 0])∧w'.ownsRow w.heap.size 3 1 v' xs.length ((S k xs).map (Value.int .i64))∧N0 w w':=by
 have A0:=Qa (Sw k w hk);have A1:=Qa (MF v xs w hb hl);obtain⟨n,hn⟩:=EX xs.length;rw[<-hn] at hl A1 ⊢;obtain⟨N,hN⟩:=EX w.heap.size;rw[<-hN] at A1 ⊢;have HN:=Qa (And.intro hn hN);clear hn hN hb;go_enter func225,ntmps225;go_wp2_with fail;refine A0.o.mono ?_;rintro e w1 ⟨rfl,rfl⟩;clear A0;go_wp2_with fail;refine A1.o.mono ?_;rintro e w1 ⟨v',rfl,h3,h8⟩;have H1:=Qa (And.intro h3 h8);clear A1 h3 h8;go_wp2
 go_loopw [14] (λi wr=>∃j:Nat,j<=k∧i=.int .i64 j∧∃ys,ys.length=n∧S (k - j) ys=S k xs∧wr.ownsRow N 3 1 v' n (ys.map (Value.int .i64))∧N0 w wr) (λi _=>k - (intOf i).toNat)
 case atStart=>exact⟨0,Nat.zero_le _,rfl,xs,HN.o.1.symm,rfl,H1.o⟩
 case round =>
  obtain⟨j,hj,rfl,ys,h9,h7,h1,h4⟩:=hrel;have HY:=Qa (And.intro h9 h7);clear h9 h7;clear H1
  by_cases hlt:j<k
  ·have H:=Qa (And.intro h1 h4)
   clear h1 h4;have A2:=Qa (Ov wr)
   have it:((k:Int) - 1 - j)=((k - 1 - j:Nat):Int):=by omega
   go_wp2_with fail;refine A2.o.mono ?_;rintro e w2 ⟨rfl,hc,hf,h5⟩;have h0:=h5.own H.o.1 (λ_ _ f=>f);have A3:=Qa (rep_a (f:=sm) (so:=λa x=>(wrap64 (a+x),wrap64 (a+x))) (λ_=>rfl) (λ_ _ _=>rfl) sclo (.inr rfl) N wr.heap.size (k - 1 - j) n 0 v' ys w2 HY.o.1 h0 hc hf (λb hb=>Nat.ne_of_lt (Xm H.o.1 hb).2) hl (by omega));have H2:=Qa (And.intro h5 h0);clear A2 hc hf h5 h0;go_wp2_with fail;refine A3.o.mono ?_;rintro e w3 ⟨rfl,h2,h6⟩;have H3:=Qa (And.intro h2 h6);clear A3 h2 h6;go_wp2
   go_roundw
   case rel =>
    refine⟨j+1,by omega,by go_num,_,?_,?_,H3.o.1,?_⟩
    ·exact (GP (NG 0) (k - 1 - j) ys).trans HY.o.1
    ·rw[<-HY.o.2,show k - j=(k - (j+1))+1 by omega,S,show k - 1 - j=k - (j+1) by omega];rfl
    have o2:=H.o.2.trans H2.o.1 (λ_ _ f=>f);refine o2.trans H3.o.2 (λi hi h=>?_)
    rcases h with h | h
    ·have:=(Xm H.o.1 h).1
     have:=HN.o.2;omega
    ·have:=H.o.2.size
     omega
   case measure=>simp[intOf];omega
  ·have e1:j=k:=by omega
   subst e1
   have e2:ys=S j xs:=by have:=HY.o.2;rw[Nat.sub_self] at this;exact this
   subst e2;have H:=Qa (And.intro h1 h4);clear h1 h4;go_wp2;go_ret2;exact⟨_,rfl,H.o⟩
end Go.Proofs.YteciafpneamfaaaGreatDoor
