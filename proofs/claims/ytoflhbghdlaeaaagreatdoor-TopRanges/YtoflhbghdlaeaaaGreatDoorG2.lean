import Derived.Test.YtoflhbghdlaeaaaGreatDoorG1
import Derived.Lib.AppendZerosOnto
namespace Go.Proofs.YtoflhbghdlaeaaaGreatDoor
set_option maxHeartbeats 1600000
set_option maxRecDepth 100000
open Go.RowKit _root_.Go.Proofs.Tryz
variable {w w' W:World} {v:Value} {ys xs l:LI} {R n p k g B:Nat} {P:Program} {ls:List (LI)} {E:TypeId}
theorem eight (l:List Bool) (j:Nat) (h:8*j+8<=l.length):(l.drop (8*j)).take 8=[l.getD (8*j) false,l.getD (8*j+1) false,l.getD (8*j+2) false,l.getD (8*j+3) false,l.getD (8*j+4) false,l.getD (8*j+5) false,l.getD (8*j+6) false,l.getD (8*j+7) false]:=by
 have hg:∀i,i<8->((l.drop (8*j)).take 8)[i]? = some (l.getD (8*j+i) false):=λi hi=>by
  rw[List.getElem?_take,if_pos hi,List.getElem?_drop,Qd,Qg (show 8*j+i<l.length by omega)];rfl
 apply List.ext_getElem?
 intro i
 by_cases hi:i<8
 ·rw[hg i hi]
  have hr:i=0∨i=1∨i=2∨i=3∨i=4∨i=5∨i=6∨i=7:=by omega
  rcases hr with rfl | rfl | rfl | rfl | rfl | rfl | rfl | rfl <;> rfl
 ·rw[List.getElem?_eq_none (by rw[Qf];omega),List.getElem?_eq_none (by simp;omega)]
theorem Tryz.infoU8:(prog.info? 5).map (λi=>(i.zero,i.size,i.bytes))=some (some (.int .u8 0),1,1):=by kernel_rfl
def gsF:Nat->Nat->LI
 | 0,v=>[(v:Int)]
 | f+1,v=>if v<128 then [(v:Int)] else ((v % 128+128:Nat):Int) :: gsF f (v / 128)
def gs (v:Nat):LI:=gsF v v
theorem EG (f:Nat):∀(g v:Nat),v<=f->v<=g->gsF f v=gsF g v:=by
 induction f with
 | zero =>
  intro g v h _
  obtain rfl:v=0:=by omega
  cases g with
  | zero=>rfl
  | succ g=>simp[gsF]
 | succ f ih =>
  intro g v h h2
  cases g with
  | zero =>
   obtain rfl:v=0:=by omega
   simp[gsF]
  | succ g =>
   simp only[gsF]
   by_cases hv:v<128
   ·rw[if_pos hv,if_pos hv]
   ·rw[if_neg hv,if_neg hv,ih g (v / 128) (by omega) (by omega)]
theorem UE {v:Nat} (h:v<128):gs v=[(v:Int)]:=by
 unfold gs
 cases v with
 | zero=>rfl
 | succ v=>rw[gsF,if_pos h]
theorem Wn {v:Nat} (h:128<=v):gs v=((v % 128+128:Nat):Int) :: gs (v / 128):=by
 unfold gs;obtain⟨u,rfl⟩:∃u,v=u+1:=⟨v - 1,by omega⟩;rw[gsF,if_neg (by omega),EG u ((u+1) / 128) ((u+1) / 128) (by omega) (Nat.le_refl _)]
theorem Vb (v:Nat):0<(gs v).length:=by
 rcases Nat.lt_or_ge v 128 with h | h
 ·rw[UE h];simp
 ·rw[Wn h];simp
theorem Xz (v:Nat):(gs v).length=(max (wid v) 1+6) / 7:=by
 induction v using Nat.strongRecOn with
 | _ v ih =>
  rcases Nat.lt_or_ge v 128 with h | h
  ·rw[UE h]
   have:wid v<=7:=(Yd v 7).2 (by simpa using h);simp;omega
  ·rw[Wn h,Qi,ih (v / 128) (by omega)]
   have h1:=Pz v 7 (by simpa using h);rw[show (2:Nat)^7=128 from rfl] at h1
   have h2:0<wid (v / 128):=by
    rcases Nat.eq_zero_or_pos (wid (v / 128)) with h0 | h0
    ·have:=(Yd (v / 128) 0).1 (by omega)
     simp at this;omega
    ·exact h0
   omega
theorem PJ {a b:Nat} (h:a<=b):wid a<=wid b:=(Yd a (wid b)).2 (Nat.lt_of_le_of_lt h ((Yd b (wid b)).1 (Nat.le_refl _)))
theorem qW {a b:Nat} (h:a<=b):(gs a).length<=(gs b).length:=by
 have:=PJ h;rw[Xz,Xz];omega
theorem Q6 {v:Nat} (h:v<18446744073709551616):(gs v).length<=10:=by
 have:=Wz v h;rw[Xz];omega
theorem YW (v:Nat):∀x∈gs v,0<=x∧x<=255:=by
 induction v using Nat.strongRecOn with
 | _ v ih =>
  rcases Nat.lt_or_ge v 128 with h | h
  ·rw[UE h]
   intro x hx;simp at hx;omega
  ·rw[Wn h]
   intro x hx
   rcases List.mem_cons.1 hx with hx | hx
   ·omega
   ·exact ih (v / 128) (by omega) x hx
def rd (i:Nat) (acc:Int):LI->Int × Int × Int
 | []=>(0,0,2)
 | c :: t=>if i=9∧1<c then (0,0,3) else if 128<=c then rd (i+1) (acc+c % 128*128^i) t else if c=0∧0<i then (0,0,3) else (acc+c*128^i,(i:Int)+1,0)
theorem Gw (i:Nat) (acc:Int):rd i acc []=(0,0,2):=rfl
theorem Vc (i:Nat) (acc c:Int) (t:LI):rd i acc (c :: t)=if i=9∧1<c then (0,0,3) else if 128<=c then rd (i+1) (acc+c % 128*128^i) t else if c=0∧0<i then (0,0,3) else (acc+c*128^i,(i:Int)+1,0):=rfl
theorem Tq {i v:Nat} (hi:i<=9) (hv:v<2^(64 - 7*i)) (h:128<=v):i<=8∧v / 128<2^(64 - 7*(i+1)):=by
 have hi8:i<=8:=by
  rcases Nat.lt_or_ge i 9 with h9 | h9
  ·omega
  ·have:i=9:=by omega
   subst this;simp at hv;omega
 refine⟨hi8,?_⟩
 have e:2^(64 - 7*i)=2^(64 - 7*(i+1))*128:=by
  rw[show 64 - 7*i=64 - 7*(i+1)+7 by omega,Nat.pow_add]
 omega
theorem rd_gs (t:LI) (v:Nat):∀(i:Nat) (acc:Int),i<=9->v<2^(64 - 7*i)->(0<i->0<v)->rd i acc (gs v++t)=(acc+v*128^i,(i:Int)+(gs v).length,0):=by
 induction v using Nat.strongRecOn with
 | _ v ih =>
  intro i acc hi hv h0
  rcases Nat.lt_or_ge v 128 with h | h
  ·rw[UE h,List.singleton_append,Vc,if_neg,if_neg (by omega),if_neg]
   ·rfl
   ·intro hc;have:=h0 hc.2;omega
   ·rintro⟨rfl,hc⟩
    simp at hv;omega
  ·obtain⟨hi8,hlt⟩:=Tq hi hv h
   rw[Wn h,List.cons_append,Vc,if_neg (by omega),if_pos (by omega),ih (v / 128) (by omega) (i+1) _ (by omega) hlt (by omega)];refine Prod.ext ?_ (Prod.ext ?_ rfl)
   ·simp only
    rw[Int.pow_succ]
    have e:(((v % 128+128:Nat):Int)) % 128=((v % 128:Nat):Int):=by omega
    have e2:(v:Int)=((v % 128:Nat):Int)+128*((v / 128:Nat):Int):=by omega
    rw[e];generalize (128:Int)^i=p;generalize ((v % 128:Nat):Int)=a at e2 ⊢;generalize ((v / 128:Nat):Int)=b at e2 ⊢;rw[e2,Int.add_mul,Int.mul_comm p 128,<-Int.mul_assoc,Int.mul_comm b 128,Int.add_assoc]
   ·simp only[Qi]
    omega
theorem uy (v:Nat):∀(i k:Nat) (acc:Int),i<=9->v<2^(64 - 7*i)->k<(gs v).length->rd i acc ((gs v).take k)=(0,0,2):=by
 induction v using Nat.strongRecOn with
 | _ v ih =>
  intro i k acc hi hv hk
  rcases Nat.lt_or_ge v 128 with h | h
  ·rw[UE h] at hk ⊢
   simp at hk;subst hk
   rfl
  ·obtain⟨hi8,hlt⟩:=Tq hi hv h
   rw[Wn h] at hk ⊢
   cases k with
   | zero=>rfl
   | succ k =>
    rw[List.take_succ_cons,Vc,if_neg (by omega),if_pos (by omega),ih (v / 128) (by omega) (i+1) k _ (by omega) hlt (by simpa using hk)]
theorem rd_ok (xs:LI):∀(i:Nat) (acc r n:Int),i<=9->(∀x∈xs,0<=x∧x<=255)->rd i acc xs=(r,n,0) ->
 ∃v k:Nat,r=acc+v*128^i∧n=(i:Int)+k∧1<=k∧k<=xs.length∧gs v=xs.take k∧(0<i->0<v)∧v<2^(64 - 7*i):=by
 induction xs with
 | nil=>intro i acc r n _ _ h;simp[Gw] at h
 | cons c t ih =>
  intro i acc r n hi hx h;have hc:=hx c (by simp);rw[Vc] at h
  by_cases h1:i=9∧1<c
  ·rw[if_pos h1] at h;simp at h
  ·rw[if_neg h1] at h
   by_cases h2:128<=c
   ·rw[if_pos h2] at h
    have hi8:i+1<=9:=by omega
    obtain⟨v,k,hr,hn,hk1,hk2,hg,hv0,hv⟩:=ih (i+1) _ r n hi8 (λx hx'=>hx x (by simp[hx'])) h;have hvp:=hv0 (by omega);refine⟨c.toNat % 128+128*v,k+1,?_,by omega,by omega,by simp;omega,?_,λ_=>by omega,?_⟩
    ·rw[hr,Int.pow_succ]
     have e:((c.toNat % 128+128*v:Nat):Int)=c % 128+128*(v:Int):=by omega
     rw[e];generalize (128:Int)^i=p;rw[Int.add_mul,Int.mul_comm p 128,<-Int.mul_assoc,Int.mul_comm (v:Int) 128,Int.add_assoc]
    ·rw[Wn (by omega),List.take_succ_cons,<-hg]
     congr 1
     ·omega
     ·congr 1;omega
    ·have e:2^(64 - 7*i)=2^(64 - 7*(i+1))*128:=by
      rw[show 64 - 7*i=64 - 7*(i+1)+7 by omega,Nat.pow_add]
     omega
   ·rw[if_neg h2] at h
    by_cases h3:c=0∧0<i
    ·rw[if_pos h3] at h;simp at h
    ·rw[if_neg h3] at h
     simp only[Prod.mk.injEq] at h;refine⟨c.toNat,1,?_,by omega,by omega,by simp,?_,λ_=>by omega,?_⟩
     ·rw[<-h.1,Int.toNat_of_nonneg hc.1]
     ·rw[UE (by omega)]
      simp[Int.toNat_of_nonneg hc.1]
     ·by_cases h9:i=9
      ·subst h9;simp;omega
      ·have:2^7<=2^(64 - 7*i):=Nat.pow_le_pow_right (by omega) (by omega)
       have:(2:Nat)^7=128:=rfl;omega
theorem Ml (xs:LI):∀(i:Nat) (acc:Int),(rd i acc xs).2.2=0∨((rd i acc xs).1=0∧(rd i acc xs).2.1=0∧((rd i acc xs).2.2=2∨(rd i acc xs).2.2=3)):=by
 induction xs with
 | nil=>intro i acc;right;simp[Gw]
 | cons c t ih =>
  intro i acc;rw[Vc]
  by_cases h1:i=9∧1<c
  ·rw[if_pos h1];right;simp
  ·rw[if_neg h1]
   by_cases h2:128<=c
   ·rw[if_pos h2];exact ih _ _
   ·rw[if_neg h2]
    by_cases h3:c=0∧0<i
    ·rw[if_pos h3];right;simp
    ·rw[if_neg h3];left;rfl
def allG (l:LI):LI:=l.flatMap λx=>gs x.toNat
theorem Db (l:LI) (k:Nat) (h:k<l.length):allG (l.take (k+1))=allG (l.take k)++gs (l.getD k 0).toNat:=by
 rw[List.take_succ_eq_append_getElem h,Qd,Qg h];unfold allG;rw[List.flatMap_append,List.flatMap_singleton];rfl
theorem LM (l:LI) (h:∀x∈l,0<=x∧x<=18446744073709551615):(allG l).length<=10*l.length:=by
 induction l with
 | nil=>simp[allG]
 | cons a t ih =>
  have ha:=h a (by simp);have h1:=Q6 (v:=a.toNat) (by omega);have h2:=ih (λx hx=>h x (by simp[hx]));simp only[allG,List.flatMap_cons,Qc,Qi] at h2 ⊢;omega
def zig (n:Int):Int:=if 0<=n then 2*n else -2*n - 1
def zag (v:Int):Int:=if v % 2=0 then v / 2 else -(v / 2) - 1
theorem Pn (n:Int) (h0:-9223372036854775808<=n) (h1:n<=9223372036854775807):0<=zig n∧zig n<=18446744073709551615:=by
 unfold zig;split <;> omega
theorem Sv (l:LI):∀x∈allG l,0<=x∧x<=255:=by
 intro x hx;simp only[allG,List.mem_flatMap] at hx;obtain⟨y,_,hy⟩:=hx;exact YW _ x hy
theorem yq (l:LI) (k:Nat) (h:∀x∈l,0<=x∧x<=18446744073709551615):(allG (l.take k)).length<=10*l.length:=by
 have h1:=LM (l.take k) (λx hx=>h x (List.mem_of_mem_take hx))
 have h2:(l.take k).length<=l.length:=by rw[Qf];omega
 omega
theorem Ta (n:Int) (w:World) (h0:-9223372036854775808<=n) (h1:n<=9223372036854775807) :
 Calls prog 211 #[.int .i64 n] w λe w'=>e=.returned (.int .u64 (zig n))∧w=w':=by
 go_enter func211,ntmps211;go_wp2
 all_goals go_ret
 all_goals refine⟨YP ?_,rfl⟩
 all_goals (unfold zig;split <;> omega)
theorem and7 (x:Nat) (h:x<18446744073709551616):bits .and .u64 (x:Int) 127=((x % 128:Nat):Int):=by
 rw[show (127:Int)=((127:Nat):Int) from rfl,u64_and_nat _ _ h (by omega),nat_mask7]
theorem Dq (v:Int) (w:World) (h0:0<=v) (h1:v<=18446744073709551615) :
 Calls prog 90 #[.int .u64 v] w λe w'=>∃v',e=.returned v'∧w'.ownsRow w.heap.size 5 1 v' (gs v.toNat).length ((gs v.toNat).map (Value.int .u8))∧N0 w w':=by
 obtain⟨i0,hi,h8,h9,ha⟩:=info_parts Tryz.infoU8
 have hmk:∀w,(Instr.makeSlice 23 (.int .i64 0) (.int .i64 10)).run prog w=.ok (.slice (some ⟨w.heap.size,0,none⟩) 0 10) (w.alloc (.cells #[.int .u8 0,.int .u8 0,.int .u8 0,.int .u8 0,.int .u8 0,.int .u8 0,.int .u8 0,.int .u8 0,.int .u8 0,.int .u8 0] 5)):=λ_=>by kernel_rfl
 have h5:Hid ((w.alloc (.cells #[.int .u8 0,.int .u8 0,.int .u8 0,.int .u8 0,.int .u8 0,.int .u8 0,.int .u8 0,.int .u8 0,.int .u8 0,.int .u8 0] 5)).ownsRow w.heap.size 5 1 (.slice (some ⟨w.heap.size,0,none⟩) 0 10) 0 []) :=
  World.ownsRow_made w _ 10 (Nat.le_refl _) (by unfold maxLen;omega) rfl
 have H10:=Qa (Q6 (v:=v.toNat) (by omega));go_enter func90,ntmps90;go_wp2
 go_loopw [0,3] (λa o wr=>∃(x k:Nat) (p:LI),a=.int .u64 x∧x<18446744073709551616∧p++gs x=gs v.toNat∧k=p.length∧wr.ownsRow w.heap.size 5 1 o k (p.map (Value.int .u8))∧Below w.heap.size w wr) (λa _ _=>(intOf a).toNat)
 case atStart=>exact⟨v.toNat,0,[],by rw[Int.toNat_of_nonneg h0],by omega,rfl,rfl,h5.o,(Below.refl _ _).alloc (Nat.le_refl _) _⟩
 case round =>
  obtain⟨x,k,p,rfl,hx,hp,hk,h3,h2⟩:=hrel
  have hk9:k<=9:=by
   have h:=congrArg List.length hp;have:=H10.o;have:=Vb x;rw[Qc] at h;omega
  have HP:=Qa hp;have HK:=Qa hk;have hsz:=h2.size;clear hp hk h5
  by_cases hlt:127<x
  ·have h7:decide (127<(x:Int))=true:=by simp;omega
   have B7:=and7 x hx;obtain⟨r,hr⟩:∃r:Nat,r=x % 128:=⟨_,rfl⟩
   have hr1:r<128:=by omega
   rw[<-hr] at B7;have HR:=Qa hr;clear hr;go_wp2_with (at_builtin;refine wpList_append_lies _ rfl _ _ _ rfl w.heap.size 5 i0 (.int .u8 0) 1 1 underlying23 hi h8 h9 ha rfl (by omega) _ k (p.map (Value.int .u8)) rfl (h3.alloc _) ⟨wr.heap.size,0,none⟩ 1 1 [.int .u8 ((r:Int)+128)] rfl rfl ?c1 ?c2 (by omega) ?c3 ?c4 ?c5 (wr.heap.size+1) (by simp) ?_)
   case c1=>exact cell_one_new _ _ _
   case c2=>intro u hu;simp at hu;subst hu;rfl
   case c3=>unfold maxLen;omega
   case c4=>omega
   case c5=>simp;omega
   intro g cap1 w1 hown1 hgrow hat hg1;have h6:Below w.heap.size w w1:=(h2.alloc h2.size _).grown hgrow (by simp;omega) (λq hq=>(h3.lt q hq).1)
   have h4:w1.ownsRow w.heap.size 5 1 (.slice (some ⟨g,0,none⟩) (k+1) cap1) (k+1) ((p++[(r:Int)+128]).map (Value.int .u8)):=by
    rw[List.map_append];exact hown1
   clear h3 hown1 hgrow hat h2;go_wp2
   go_roundw
   case rel =>
    refine⟨x / 128,k+1,p++[(r:Int)+128],by go_num,by omega,?_,by rw[Qc,<-HK.o];rfl,h4,h6⟩;rw[<-HP.o,Wn (v:=x) (by omega),<-HR.o];simp
   case measure=>simp[intOf];omega
  ·have h7:decide (127<(x:Int))=false:=by simp;omega
   go_wp2_with (at_builtin;refine wpList_append_lies _ rfl _ _ _ rfl w.heap.size 5 i0 (.int .u8 0) 1 1 underlying23 hi h8 h9 ha rfl (by omega) _ k (p.map (Value.int .u8)) rfl (h3.alloc _) ⟨wr.heap.size,0,none⟩ 1 1 [.int .u8 (x:Int)] rfl rfl ?c1 ?c2 (by omega) ?c3 ?c4 ?c5 (wr.heap.size+1) (by simp) ?_)
   case c1=>exact cell_one_new _ _ _
   case c2=>intro u hu;simp at hu;subst hu;rfl
   case c3=>unfold maxLen;omega
   case c4=>omega
   case c5=>simp;omega
   intro g cap1 w1 hown1 hgrow hat hg1;have h6:Below w.heap.size w w1:=(h2.alloc h2.size _).grown hgrow (by simp;omega) (λq hq=>(h3.lt q hq).1)
   have h4:Hid (w1.ownsRow w.heap.size 5 1 (.slice (some ⟨g,0,none⟩) (k+1) cap1) (gs v.toNat).length ((gs v.toNat).map (Value.int .u8))):=by
    rw[<-HP.o,UE (v:=x) (by omega),Qc,<-HK.o,List.map_append];exact hown1
   have hb2:=Qa h6;clear h3 hown1 hgrow hat h2 h6;go_wp2;go_ret;exact⟨_,rfl,h4.o,Uw hb2.o⟩
theorem GC (n:Nat) (w:World) (h0:0<n) (h1:n<=140737488355328) :
 Calls prog 52 #[.slice none 0 0,.int .i64 n] w λe w'=>∃G,e=.returned (.slice (some ⟨w.heap.size,0,none⟩) 0 G)∧w'.ownsRow w.heap.size 5 1 (.slice (some ⟨w.heap.size,0,none⟩) 0 G) 0 []∧N0 w w':=by
 obtain⟨i0,hi,hz0,hz1,hz2⟩:=info_parts Tryz.infoU8
 have h3:∀ty,(Builtin.append_ #[23,3] ty #[.slice none 0 0,.int .i64 (n:Int)]).run prog w =
  .ok (.slice (some ⟨w.heap.size,0,none⟩) n (grownCap w n 0 5)) (w.drew.alloc (.cells (Builtin.zeroCells (Value.int .u8 0).cells n++Builtin.zeroCells (Value.int .u8 0).cells (grownCap w n 0 5 - n)) 5)):=λty =>
  Lib.run_append_nil_zeros w 23 3 ty 5 i0 (.int .u8 0) .i64 .i64 underlying23 underlying3 hi hz0 n h0 (by omega) (by omega) (by rw[hz2];omega)
 have hGn:n<=grownCap w n 0 5:=grownCap_ge w _ _ _;have h2:grownCap w n 0 5<=maxLen:=grownCap_le_maxLen w n 0 5 (by unfold maxLen;omega);obtain⟨G,hG⟩:=EX (grownCap w n 0 5);rw[<-hG] at h3 hGn h2
 have hG63:G<=9223372036854775807:=by unfold maxLen at h2;omega
 have HM:=Qa h2
 have d0:decide ((n:Int)<0)=false:=by simp
 have d1:decide (0<(n:Int))=true:=by simp;omega
 obtain⟨cs,h4⟩:=EX (Builtin.zeroCells (Value.int .u8 0).cells n++Builtin.zeroCells (Value.int .u8 0).cells (G - n))
 have hsz:Hid (cs.size=G*1):=by
  have hs:∀q,(Builtin.zeroCells (Value.int .u8 0).cells q).size=q:=λq=>by simp[Builtin.zeroCells,Value.cells]
  simp only[Hid];rw[h4,Array.size_append,hs,hs];omega
 rw[<-h4] at h3;clear hG h2 h4;go_enter func52,ntmps52;go_wp2_with (at_builtin;refine Lib.wpList_append_run _ rfl _ _ _ _ rfl _ _ rfl rfl _ _ (h3 _) ?_);go_ret;exact⟨G,rfl,World.ownsRow_made (w:=w.drew) (base:=w.heap.size) (e:=5) (size:=1) cs G (Nat.le_refl _) HM.o hsz.o,(Only.refl _ _).drew.alloc _⟩
theorem WJ (B:Nat) (va vb:Value) (xs ys:LI) (w:World) (c0:w.cell? ⟨B,0,none⟩=some va) (c1:w.cell? ⟨B,1,none⟩=some vb)
 (ha:Bs .u8 w va xs) (hb:Bs .u8 w vb ys) (na:NoCap va) (nb:NoCap vb) (hp:0<xs.length+ys.length) (hl:xs.length+ys.length<=140737488355328) :
 Calls prog 22 #[.slice (some ⟨B,0,none⟩) 2 2] w λe w'=>∃v',e=.returned v'∧w'.ownsRow w.heap.size 5 1 v' (xs++ys).length ((xs++ys).map (Value.int .u8))∧N0 w w':=by
 obtain⟨i0,hi,h5,h7,h8⟩:=info_parts Tryz.infoU8;have HA:=Qa ha;have HB:=Qa hb;have NA:=Qa na;have NB:=Qa nb;obtain⟨aa,ca,rfl⟩:=ha.len;obtain⟨ab,cb,rfl⟩:=hb.len;obtain⟨n,hn⟩:=EX xs.length;obtain⟨m,hm⟩:=EX ys.length;rw[<-hn] at c0 hp hl HA NA;rw[<-hm] at c1 hp hl HB NB;have HN:=Qa hn;have HM:=Qa hm;have h9:B<w.heap.size:=World.block_lt_of_cell? w _ c0;clear ha hb na nb hn hm;go_enter func22,ntmps22;go_wp2
 go_loop [3,11] (λs i=>(i=.int .i64 0∧s=.int .i64 0)∨(i=.int .i64 1∧s=.int .i64 n)∨(i=.int .i64 2∧s=.int .i64 ((n:Int)+m))) (λ_ i=>2 - (intOf i).toNat)
 case atStart=>exact .inl ⟨rfl,rfl⟩
 case round =>
  rcases hrel with ⟨rfl,rfl⟩ | ⟨rfl,rfl⟩ | ⟨rfl,rfl⟩
  ·have d0:decide ((n:Int)<0)=false:=by simp
   go_wp2
   go_round
   case rel=>exact .inr (.inl ⟨rfl,rfl⟩)
   case measure=>simp[intOf]
  ·have d0:decide ((n:Int)+m<0)=false:=by simp;omega
   go_wp2
   go_round
   case rel=>exact .inr (.inr ⟨rfl,rfl⟩)
   case measure=>simp[intOf]
  ·have GN:=Qa (GC (n+m) w (by omega) (by omega))
   go_wp2_with fail;rw[show ((n:Int)+(m:Int))=((n+m:Nat):Int) by omega];refine GN.o.mono ?_;rintro e w2 ⟨G,rfl,h0,h6⟩;have h2:Below w.heap.size w w2:=h6.low (Nat.le_refl _);go_wp2
   go_loopw [6,27] (λo i wr=>Below w.heap.size w wr∧((i=.int .i64 0∧wr.ownsRow w.heap.size 5 1 o 0 [])∨(i=.int .i64 1∧wr.ownsRow w.heap.size 5 1 o n (xs.map (Value.int .u8)))∨(i=.int .i64 2∧wr.ownsRow w.heap.size 5 1 o (n+m) ((xs++ys).map (Value.int .u8))))) (λ_ i _=>2 - (intOf i).toNat)
   case atStart=>exact⟨h2,.inl ⟨rfl,h0⟩⟩
   case round =>
    obtain⟨h1,hr⟩:=hrel;clear h2 h0 h6 GN;have d0:=(h1.cell (p:=⟨B,0,none⟩) h9).trans c0;have d1:=(h1.cell (p:=⟨B,1,none⟩) h9).trans c1;have h3:=h1.size
    rcases hr with ⟨rfl,h0⟩ | ⟨rfl,h0⟩ | ⟨rfl,h0⟩
    ·have HBA:=Qa (HA.o.later h1)
     go_wp2_with (at_builtin;refine Yh _ rfl _ _ _ rfl w.heap.size 5 i0 (.int .u8 0) 1 underlying23 hi h5 h7 h8 rfl _ 0 [] rfl h0 .u8 _ xs rfl HBA.o NA.o ?c3 ?c4 h3 ?_)
     case c3=>rw[<-HN.o];unfold maxLen;omega
     case c4=>rw[<-HN.o];omega
     intro v' w3 hown1 hgrow _ _;rw[<-HN.o] at hown1;have h4:Below w.heap.size w w3:=h1.grown hgrow h3 (λq hq=>(h0.lt q hq).1);clear h0 hgrow;go_wp2
     go_roundw
     case rel=>exact⟨h4,.inr (.inl ⟨rfl,by simpa using hown1⟩)⟩
     case measure=>simp[intOf]
    ·have HBB:=Qa (HB.o.later h1)
     go_wp2_with (at_builtin;refine Yh _ rfl _ _ _ rfl w.heap.size 5 i0 (.int .u8 0) 1 underlying23 hi h5 h7 h8 rfl _ n (xs.map (Value.int .u8)) rfl h0 .u8 _ ys rfl HBB.o NB.o ?c3 ?c4 h3 ?_)
     case c3=>rw[<-HM.o];unfold maxLen;omega
     case c4=>rw[<-HM.o];omega
     intro v' w3 hown1 hgrow _ _;rw[<-HM.o,<-List.map_append] at hown1;have h4:Below w.heap.size w w3:=h1.grown hgrow h3 (λq hq=>(h0.lt q hq).1);clear h0 hgrow;go_wp2
     go_roundw
     case rel=>exact⟨h4,.inr (.inr ⟨rfl,hown1⟩)⟩
     case measure=>simp[intOf]
    ·go_wp2
     go_ret;refine⟨_,rfl,?_,Uw h1⟩;rw[Qc,<-HN.o,<-HM.o];exact h0
theorem Bj (va vb:Value) (xs ys:LI) (w:World)
 (ha:Bs .u8 w va xs) (hb:Bs .u8 w vb ys) (na:NoCap va) (nb:NoCap vb) (hp:0<xs.length+ys.length) (hl:xs.length+ys.length<=140737488355328) :
 Calls prog 89 #[va,vb] w λe w'=>∃v',e=.returned v'∧w'.ownsRow w.heap.size 5 1 v' (xs++ys).length ((xs++ys).map (Value.int .u8))∧N0 w w':=by
 have h2:Below w.heap.size w (w.alloc (.cells #[va,vb] 23)):=(Below.refl _ _).alloc (Nat.le_refl _) _;have CC:=Qa (WJ w.heap.size va vb xs ys (w.alloc (.cells #[va,vb] 23)) (by go_cell) (by go_cell) (ha.later h2) (hb.later h2) na nb hp hl);obtain⟨aa,ca,rfl⟩:=ha.len;obtain⟨ab,cb,rfl⟩:=hb.len;clear ha hb;go_enter func89,ntmps89;go_wp2_with fail;refine CC.o.mono ?_;rintro e w2 ⟨v',rfl,h0,h1⟩
 have F:Hid (w2.ownsRow w.heap.size 5 1 v' (xs++ys).length ((xs++ys).map (Value.int .u8))∧N0 w w2):=by
  refine⟨?_,((Only.refl _ _).alloc _).trans h1 (λ_ _ f=>f)⟩;refine⟨h0.1,?_⟩
  rcases h0.2 with h | ⟨g,cap,cur,e,h,r⟩
  ·exact .inl h
  ·exact .inr ⟨g,cap,cur,e,by simp at h;omega,r⟩
 clear h0 h1;go_wp2;go_ret;exact⟨_,rfl,F.o⟩
theorem Um (va:Value) (xs:LI) (v:Int) (w:World) (ha:Bs .u8 w va xs) (na:NoCap va) (hl:xs.length<=1000000000) (h0:0<=v) (h1:v<=18446744073709551615) :
 Calls prog 51 #[va,.int .u64 v] w λe w'=>∃v',e=.returned v'∧w'.ownsRow w.heap.size 5 1 v' (xs++gs v.toNat).length ((xs++gs v.toNat).map (Value.int .u8))∧N0 w w':=by
 have H10:=Qa (Q6 (v:=v.toNat) (by omega));have HP:=Qa (Vb v.toNat);have HA:=Qa ha;obtain⟨aa,ca,rfl⟩:=ha.len;clear ha;go_enter func51,ntmps51;go_wp2_with fail;refine (Dq v _ h0 h1).mono ?_;rintro e w1 ⟨v1,rfl,h2,h4⟩;have AP:=Qa (Bj _ v1 xs (gs v.toNat) w1 (HA.o.later (h4.low (Nat.le_refl _))) (Bs.of_own h2) na (NoCap.of_own h2) (by have:=HP.o;omega) (by have:=H10.o;omega));have h6:=Qa h4;clear h2 h4;go_wp2_with fail;refine AP.o.mono ?_;rintro e w2 ⟨v',rfl,h3,h5⟩
 have F:Hid (w2.ownsRow w.heap.size 5 1 v' (xs++gs v.toNat).length ((xs++gs v.toNat).map (Value.int .u8))∧N0 w w2):=by
  refine⟨?_,h6.o.trans h5 (λ_ _ f=>f)⟩;refine⟨h3.1,?_⟩
  rcases h3.2 with h | ⟨g,cap,cur,e,h,r⟩
  ·exact .inl h
  ·exact .inr ⟨g,cap,cur,e,by have:=h6.o.size;omega,r⟩
 clear h3 h5;go_wp2;go_ret;exact⟨_,rfl,F.o⟩
theorem rd_at (xs:LI) (k:Nat) (acc:Int) (h:k<xs.length):rd k acc (xs.drop k)=if k=9∧1<xs.getD k 0 then (0,0,3) else if 128<=xs.getD k 0 then rd (k+1) (acc+xs.getD k 0 % 128*128^k) (xs.drop (k+1)) else if xs.getD k 0=0∧0<k then (0,0,3) else (acc+xs.getD k 0*128^k,(k:Int)+1,0):=by
 rw[List.drop_eq_getElem_cons h,Vc,Qd,Qg h]
 rfl
theorem OG (k acc:Nat) (c:Int) (hk:k<=9) (hacc:acc<128^k) (c0:0<=c) (c1:c<=255) (h9:k=9->c<=1) :
 bits .or .u64 (acc:Int) (IntKind.u64.wrap (IntKind.u64.wrap (bits .and .u8 c 127)*2^(7*k)))=((acc+(c % 128).toNat*128^k:Nat):Int)∧acc+(c % 128).toNat*128^k<128^(k+1):=by
 obtain⟨m,rfl⟩:=Int.eq_ofNat_of_zero_le c0
 have e:((m:Int) % 128).toNat=m % 128:=by omega
 rw[e,show (127:Int)=((127:Nat):Int) from rfl,u8_and_nat _ _ (by omega) (by omega),nat_mask7]
 have w1:IntKind.u64.wrap ((m % 128:Nat):Int)=((m % 128:Nat):Int):=by rw[IntKind.wrap_u64];omega
 have p1:(2:Nat)^(7*k)=128^k:=by rw[Nat.pow_mul]
 have w2:((m % 128:Nat):Int)*2^(7*k)=((m % 128*128^k:Nat):Int):=by
  rw[<-p1];simp
 have hlt:m % 128*128^k<18446744073709551616:=by
  rcases Nat.lt_or_ge k 9 with h | h
  ·have h1:m % 128*128^k<=127*128^k:=Nat.mul_le_mul_right _ (by omega)
   have h2:128^k<=128^8:=Nat.pow_le_pow_right (by omega) (by omega)
   have h3:(128:Nat)^8=72057594037927936:=by decide
   omega
  ·have hk:k=9:=by omega
   subst hk;have:=h9 rfl
   have h3:(128:Nat)^9=9223372036854775808:=by decide
   have h1:m % 128*128^9<=1*128^9:=Nat.mul_le_mul_right _ (by omega);omega
 have h0:acc<18446744073709551616:=by
  have h2:128^k<=128^9:=Nat.pow_le_pow_right (by omega) (by omega)
  have h3:(128:Nat)^9=9223372036854775808:=by decide
  omega
 have w3:IntKind.u64.wrap ((m % 128*128^k:Nat):Int)=((m % 128*128^k:Nat):Int):=by rw[IntKind.wrap_u64];omega
 rw[w1,w2,w3,u64_or_nat _ _ h0 hlt,Nat.or_comm,nat_join (7*k) _ _ (by rw[p1];exact Nat.mul_mod_left _ _) (by rw[p1];exact hacc),Nat.add_comm];refine⟨rfl,?_⟩;rw[Nat.pow_succ];have h1:m % 128*128^k<=127*128^k:=Nat.mul_le_mul_right _ (by omega);omega
theorem IB (k acc:Nat) (c:Int) (c0:0<=c) (h:c<128):((acc+(c % 128).toNat*128^k:Nat):Int)=acc+c*128^k:=by
 obtain⟨m,rfl⟩:=Int.eq_ofNat_of_zero_le c0
 have e:((m:Int) % 128).toNat=m:=by omega
 rw[e];simp
theorem AD (k acc:Nat) (c:Int):((acc+(c % 128).toNat*128^k:Nat):Int)=acc+c % 128*128^k:=by
 have e:((c % 128).toNat:Int)=c % 128:=by omega
 simp[e]
def rdVal (r:Int × Int × Int):Value:=.tuple #[.int .u64 r.1,.int .i64 r.2.1,.int .i64 r.2.2]
theorem Gk {a b c:Int} {r:Int × Int × Int} (h1:a=r.1) (h2:b=r.2.1) (h3:c=r.2.2):Ending.returned (.tuple #[.int .u64 a,.int .i64 b,.int .i64 c])=.returned (rdVal r):=by
 rw[h1,h2,h3];rfl
theorem yr (va:Value) (xs:LI) (w:World) (ha:Bs .u8 w va xs) (hr:∀x∈xs,0<=x∧x<=255) :
 Calls prog 91 #[va] w λe w'=>e=.returned (rdVal (rd 0 0 xs))∧w=w':=by
 have HA:=Qa ha;have HR:=Qa hr;obtain⟨aa,ca,rfl⟩:=ha.len;obtain⟨n,hn⟩:=EX xs.length;rw[<-hn] at HA;rw[<-hn];have HN:=Qa hn;obtain⟨R,hR⟩:=EX (rd 0 0 xs);rw[<-hR];have HRD:=Qa hR;clear ha hr hn hR;go_enter func91,ntmps91;go_wp2
 go_loop [5,10] (λa i=>∃(k:Nat) (h1:Nat),k<=n∧k<=9∧i=.int .i64 k∧a=.int .u64 h1∧h1<128^k∧rd k h1 (xs.drop k)=R) (λ_ i=>n - (intOf i).toNat)
 case atStart=>exact⟨0,0,by omega,by omega,rfl,rfl,by simp,by simpa using HRD.o.symm⟩
 case round =>
  obtain⟨k,h1,hk,hk9,rfl,rfl,h3,h4⟩:=hrel
  by_cases hlt:k<n
  ·obtain⟨b,off,cap',e1,hc⟩:=HA.o.at k (by rw[<-HN.o];exact hlt)
   have ea:aa=some ⟨b,off,none⟩:=by simp at e1;exact e1.1
   subst ea;clear e1;have h5:=HR.o (xs.getD k 0) (by rw[Qd,Qg (by rw[<-HN.o];exact hlt)];simp);rw[rd_at xs k _ (by rw[<-HN.o];exact hlt)] at h4;generalize xs.getD k 0=c at hc h5 h4;have HD:=Qa h4;have h6:=Qa h3;clear h4 h3
   have i0:(0:Int)<=(k:Int):=by omega
   have i1:(k:Int)<(n:Int):=by omega
   by_cases hF:k=9∧1<c
   ·obtain⟨rfl,h1c⟩:=hF
    have h2:R=(0,0,3):=by have:=HD.o;rw[if_pos ⟨rfl,h1c⟩] at this;exact this.symm
    subst h2;go_wp2
    go_ret3
    exact⟨rfl,rfl⟩
   ·have OS:=Qa (OG k h1 c hk9 h6.o h5.1 h5.2 (by omega))
    by_cases h128:128<=c
    ·have d9:((k:Int) == 9)=false:=by simp;omega
     go_wp2
     go_round
     case rel =>
      refine⟨k+1,h1+(c % 128).toNat*128^k,by omega,by omega,by go_num,by rw[OS.o.1],OS.o.2,?_⟩;have:=HD.o;rw[if_neg hF,if_pos h128] at this;rw[AD k h1 c];exact this
     case measure=>simp[intOf];omega
    ·by_cases h0:c=0∧0<k
     ·obtain⟨rfl,hk0⟩:=h0
      have h2:R=(0,0,3):=by have:=HD.o;rw[if_neg hF,if_neg h128,if_pos ⟨rfl,hk0⟩] at this;exact this.symm
      subst h2
      by_cases h9:k=9
      ·subst h9
       go_wp2
       go_ret3
       exact⟨rfl,rfl⟩
      ·have d9:((k:Int) == 9)=false:=by simp;omega
       have dk:decide (0<(k:Int))=true:=by simp;omega
       go_wp2
       go_ret3
       exact⟨rfl,rfl⟩
     ·have h2:R=(h1+c*128^k,(k:Int)+1,0):=by have:=HD.o;rw[if_neg hF,if_neg h128,if_neg h0] at this;exact this.symm
      subst h2;have VS:=Qa (IB k h1 c h5.1 (by omega))
      by_cases h9:k=9
      ·subst h9
       have h7:(c == 0)=false:=by simp;omega
       have O9:=Qa (OS.o.1.trans VS.o);rw[show (2:Int)^(7*9)=9223372036854775808 by decide] at O9;go_wp2
       go_ret3
       exact⟨Gk O9.o rfl rfl,rfl⟩
      ·have d9:((k:Int) == 9)=false:=by simp;omega
       have O9:=Qa (OS.o.1.trans VS.o)
       by_cases h7:c=0
       ·have dk:decide (0<(k:Int))=false:=by simp;omega
        subst h7;go_wp2
        go_ret3
        exact⟨Gk (O9.o.trans (by simp)) rfl rfl,rfl⟩
       ·have dc:(c == 0)=false:=by simp;omega
        go_wp2
        go_ret3
        exact⟨Gk O9.o rfl rfl,rfl⟩
  ·have hkn:k=n:=by omega
   subst hkn
   have h2:R=(0,0,2):=by rw[<-h4,List.drop_of_length_le (by rw[<-HN.o];omega)];rfl
   subst h2;clear h4 h3;go_wp2
   go_ret3
   exact⟨rfl,rfl⟩
theorem ZV (va:Value) (xs:LI) (w:World) {a b c:Int} (h:rd 0 0 xs=(a,b,c)) (ha:Bs .u8 w va xs) (hr:∀x∈xs,0<=x∧x<=255) :
 Calls prog 91 #[va] w λe w'=>e=.returned (.tuple #[.int .u64 a,.int .i64 b,.int .i64 c])∧w=w':=by
 have:=yr va xs w ha hr;rw[h] at this;exact this
structure CurAt (T:TypeId) (w:World) (R:Nat) (v:Value) (ys:LI):Prop where
 bs:Bs .u8 w v ys
 rng:∀y∈ys,0<=y∧y<=255
 cell:w.heap[R]? = some (.cells #[v] T (0,0))
 ap:v.ownBlock≠some R
 len:ys.length<=1000000000000
theorem CurAt.keep {T:TypeId} (h:CurAt T w R v ys) {S:Nat->Prop} (ho:Only S w w') (hR:¬S R) (hv:∀k,v.ownBlock=some k->¬S k):CurAt T w' R v ys :=
 ⟨h.bs.keep ho hv,h.rng,ho.heap h.cell hR,h.ap,h.len⟩
theorem CurAt.form {T:TypeId} (h:CurAt T w R v ys):∃ao cap,v=.slice ao ys.length cap:=by
 obtain⟨ao,cap,rfl,_⟩:=h.bs;exact⟨ao,cap,rfl⟩
theorem U3 {T:TypeId} (h:w.heap[R]? = some (.cells #[v] T (0,0))):w.cell? ⟨R,0,none⟩=some v∧w.frozen? ⟨R,0,none⟩=false :=
 ⟨by simp[World.cell?,h],by simp[World.frozen?,h]⟩
theorem Gn {T:TypeId} (h:w.heap[R]? = some (.cells #[v] T (0,0))) (u:Value):(w.setCell ⟨R,0,none⟩ u).heap[R]? = some (.cells #[u] T (0,0)):=by
 have h0:=heap_setCell_same w R 0 #[v] T u h
 simpa using h0
theorem Xy (v:Value) (ys:LI) (w:World) (h:Bs .u8 w v ys) (hr:∀y∈ys,0<=y∧y<=255) (hl:ys.length<=1000000000000) :
 Calls prog 28 #[v] w λe w'=>∃R v',e=.returned (.pointer (some ⟨R,0,none⟩))∧CurAt 108 w' R v' ys∧N0 w w'∧w.heap.size<=R∧R<w'.heap.size∧(∀k,v'.ownBlock=some k->w.heap.size<=k∧k<w'.heap.size):=by
 have HB:=Qa h;have HR:=Qa hr;clear h hr;go_enter func28,ntmps28;go_wp2_with fail;refine (KI v ys _ HB.o (by omega)).mono ?_;rintro e w1 ⟨v',rfl,h0,ho⟩;have h1:=Bs.of_own h0;have h2:=h0.lt;obtain⟨ao,cap,rfl,_⟩:=id h1;have HBS:=Qa h1;have h3:=Qa h2;have HO:=Qa ho;clear h0 ho h1 h2;go_wp2;go_ret;have oa:N0 w1 (w1.alloc (.cells #[.slice ao ys.length cap] 108)):=(Only.refl _ _).alloc _;refine⟨w1.heap.size,.slice ao ys.length cap,rfl,⟨HBS.o.keep oa (λ_ _ f=>f),HR.o,heap_alloc_new w1 _,?_,hl⟩,HO.o.trans oa (λ_ _ f=>f),HO.o.size,by simp,?_⟩
 ·intro e
  have:=(h3.o _ e).2;omega
 ·intro k hk
  have:=h3.o k hk;simp;omega
theorem So (R m cap:Nat) (ao:Option Addr) (w:World) (h0:w.cell? ⟨R,0,none⟩=some (.slice ao m cap)) :
 Calls prog 66 #[.pointer (some ⟨R,0,none⟩)] w λe w'=>e=.returned (.int .i64 m)∧w=w':=by
 go_enter func66,ntmps66;go_wp2;go_ret;exact⟨rfl,rfl⟩
theorem Js (ao:Option Addr) (m c m' c':Nat):(Value.slice ao m c).ownBlock=(Value.slice ao m' c').ownBlock:=by cases ao <;> rfl
theorem F4 (R n m cap:Nat) (ao:Option Addr) (w:World) (h0:w.cell? ⟨R,0,none⟩=some (.slice ao m cap)) (f0:w.frozen? ⟨R,0,none⟩=false) (h1:n<=m) (h2:m<=cap) :
 Calls prog 92 #[.pointer (some ⟨R,0,none⟩),.int .i64 n] w λe w'=>e=.returned (.slice ao n cap)∧w'=w.setCell ⟨R,0,none⟩ (.slice (if cap=n then ao else ao.map (λx=>x.add n)) (m - n) (cap - n)):=by
 have i0:(0:Int)<=(n:Int):=by omega
 have i1:(n:Int)<=(m:Int):=by omega
 have i2:(n:Int)<=(cap:Int):=by omega
 by_cases hc:cap=n
 ·subst hc
  go_enter func92,ntmps92;go_wp2;go_ret;simp
 ·go_enter func92,ntmps92
  go_wp2;go_ret;simp
theorem Xj (h:CurAt 108 w R v ys) (n:Nat) (hn:n<=ys.length) :
 Calls prog 92 #[.pointer (some ⟨R,0,none⟩),.int .i64 n] w λe w'=>∃ao cap v2,e=.returned (.slice ao n cap)∧Bs .u8 w' (.slice ao n cap) (ys.take n)∧(Value.slice ao n cap).ownBlock=v.ownBlock∧CurAt 108 w' R v2 (ys.drop n)∧v2.ownBlock=v.ownBlock∧Only (λk=>k=R) w w':=by
 obtain⟨ao,cap,rfl,h0,hr⟩:=id h.bs;refine (F4 R n ys.length cap ao w (U3 h.cell).1 (U3 h.cell).2 hn h0).mono ?_;rintro e w' ⟨rfl,rfl⟩;have ho:Only (λk=>k=R) w (w.setCell ⟨R,0,none⟩ (.slice (if cap=n then ao else ao.map (λx=>x.add n)) (ys.length - n) (cap - n))):=Only.setCell (S:=λk=>k=R) (p:=⟨R,0,none⟩) (Only.refl _ _) (λ_=>rfl) _
 have h1:(Value.slice (if cap=n then ao else ao.map (λx=>x.add n)) (ys.length - n) (cap - n)).ownBlock=(Value.slice ao ys.length cap).ownBlock:=by
  split
  ·exact Js _ _ _ _ _
  ·exact yz _ _ _ _ _ _
 have h2:∀k,(Value.slice ao ys.length cap).ownBlock=some k->¬k=R:=λk hk e=>h.ap (by rw[<-e];exact hk)
 have hd:Bs .u8 w (.slice (if cap=n then ao else ao.map (λx=>x.add n)) (ys.length - n) (cap - n)) (ys.drop n):=by
  split
  ·rename_i hc
   subst hc;rw[Nat.sub_self];exact h.bs.cut0 hn
  ·exact h.bs.cut hn
 refine⟨ao,cap,_,rfl,(h.bs.head hn).keep ho (λk hk=>h2 k (by rw[Js ao ys.length cap n cap];exact hk)),Js _ _ _ _ _,⟨hd.keep ho (λk hk=>h2 k (by rw[<-h1];exact hk)),λy hy=>h.rng y (List.mem_of_mem_drop hy),Gn h.cell _,by rw[h1];exact h.ap,?_⟩,h1,ho⟩;have:=h.len;rw[Qo];omega
theorem VG (h:CurAt 108 w R v ys) :
 Calls prog 66 #[.pointer (some ⟨R,0,none⟩)] w λe w'=>e=.returned (.int .i64 ys.length)∧w=w':=by
 obtain⟨ao,cap,rfl⟩:=h.form;exact So R ys.length cap ao w (U3 h.cell).1
theorem wV (h:CurAt 108 w R v ys) :
 Calls prog 138 #[.pointer (some ⟨R,0,none⟩)] w λe w'=>e=.returned (.int .i64 ys.length)∧w=w':=by
 have A:=Qa (VG h);clear h;go_enter func138,ntmps138;go_wp2_with fail;refine A.o.mono ?_;rintro e w1 ⟨rfl,rfl⟩;go_wp2;go_ret;exact⟨rfl,rfl⟩
def endV (ys:LI):Int:=if 0<ys.length then 3 else 0
theorem Le (h:CurAt 108 w R v ys) :
 Calls prog 33 #[.pointer (some ⟨R,0,none⟩)] w λe w'=>e=.returned (.int .i64 (endV ys))∧w=w':=by
 have A:=Qa (VG h);clear h
 by_cases h0:0<ys.length
 ·have d0:decide (0<(ys.length:Int))=true:=by simp;omega
  have HE:Hid (endV ys=3):=if_pos h0;go_enter func33,ntmps33;go_wp2_with fail;refine A.o.mono ?_;rintro e w1 ⟨rfl,rfl⟩;go_wp2;go_ret;exact⟨by rw[HE.o];rfl,rfl⟩
 ·have d0:decide (0<(ys.length:Int))=false:=Qb (by omega)
  have HE:Hid (endV ys=0):=if_neg h0;go_enter func33,ntmps33;go_wp2_with fail;refine A.o.mono ?_;rintro e w1 ⟨rfl,rfl⟩;go_wp2;go_ret;exact⟨by rw[HE.o];rfl,rfl⟩
theorem TX (R:Nat) (n:Int) (w:World) (h:n<0):Calls prog 93 #[.pointer (some ⟨R,0,none⟩),.int .i64 n] w λe w'=>e=.returned (.tuple #[.slice none 0 0,.int .i64 1])∧w=w':=by
 go_enter func93,ntmps93;go_wp2;go_ret2;exact⟨rfl,rfl⟩
theorem X2 (h:CurAt 108 w R v ys) (n:Int) (h0:0<=n) (h1:(ys.length:Int)<n) :
 Calls prog 93 #[.pointer (some ⟨R,0,none⟩),.int .i64 n] w λe w'=>e=.returned (.tuple #[.slice none 0 0,.int .i64 2])∧w=w':=by
 have A:=Qa (VG h);clear h
 have d0:decide (n<0)=false:=by simp;omega
 go_enter func93,ntmps93;go_wp2_with fail;refine A.o.mono ?_;rintro e w1 ⟨rfl,rfl⟩;go_wp2;go_ret2;exact⟨rfl,rfl⟩
theorem Jr (h:CurAt 108 w R v ys) (n:Nat) (h1:n<=ys.length) :
 Calls prog 93 #[.pointer (some ⟨R,0,none⟩),.int .i64 n] w λe w'=>∃ao cap v2,e=.returned (.tuple #[.slice ao n cap,.int .i64 0])∧Bs .u8 w' (.slice ao n cap) (ys.take n)∧(Value.slice ao n cap).ownBlock=v.ownBlock∧CurAt 108 w' R v2 (ys.drop n)∧v2.ownBlock=v.ownBlock∧Only (λk=>k=R) w w':=by
 have A:=Qa (VG h);have B:=Qa (Xj h n h1);clear h
 have d0:decide ((n:Int)<0)=false:=by simp
 have d1:decide ((ys.length:Int)<(n:Int))=false:=by simp;omega
 go_enter func93,ntmps93;go_wp2_with fail;refine A.o.mono ?_;rintro e w1 ⟨rfl,rfl⟩;go_wp2_with fail;refine B.o.mono ?_;rintro e w1 ⟨ao,cap,v2,rfl,hr⟩;have HR:=Qa hr;clear hr;go_wp2;go_ret2;exact⟨ao,cap,v2,rfl,HR.o⟩
end Go.Proofs.YtoflhbghdlaeaaaGreatDoor
