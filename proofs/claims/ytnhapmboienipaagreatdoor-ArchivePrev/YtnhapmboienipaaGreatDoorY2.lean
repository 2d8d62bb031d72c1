import Derived.Test.YtnhapmboienipaaGreatDoorY1
import Derived.Test.YtnhapmboienipaaGreatDoorProg
import Derived.WalkSpells
import Derived.BigRegion
import Derived.Lib.AppendZerosOnto
import Derived.Lib.SliceRun
namespace Go.Proofs.YtnhapmboienipaaGreatDoor
set_option maxHeartbeats 1600000
set_option maxRecDepth 100000
open Go.RowKit _root_.Go.Proofs.Tryz
def Qaj (v n:Nat):List Bool:=(List.range n).map fun i=>v.testBit (n - 1 - i)
theorem Qtz (x:Int) (j:Nat) (x0:0≤x) (x1:x≤18446744073709551615):bits .and .u64 (x / 2^j) 1 % 256=((x.toNat.testBit j).toNat:Int):=by
 obtain ⟨m,rfl⟩:=Int.eq_ofNat_of_zero_le x0
 have e:((m:Int) / 2^j)=((m / 2^j:Nat):Int):=by simp
 have h:=Nat.div_le_self m (2^j);rw [e,show (1:Int)=((1:Nat):Int) from rfl,u64_and_nat _ _ (by omega) (by omega),nat_mask1,Int.toNat_natCast,Nat.testBit_eq_decide_div_mod_eq]
 by_cases h1:m / 2^j % 2=1
 ·simp [h1]
 ·have:m / 2^j % 2=0:=by omega
  simp [this]
theorem QhE (v n k:Nat) (h:k<n):(Qaj v n).take (k+1)=(Qaj v n).take k++[v.testBit (n - 1 - k)]:=by
 have hl:(Qaj v n).length=n:=by simp [Qaj]
 rw [List.take_succ_eq_append_getElem (by omega)];simp [Qaj]
theorem Qao (v n:Nat):(Qaj v n).length=n:=by simp [Qaj]
theorem QcO {w:World} {lo B:Nat} {v:Value} {l:List Bool} (h:WrAt 278 5 w lo B v l) (x width:Int) (h0:0≤width) (h1:width≤64) (x0:0≤x) (x1:x≤18446744073709551615) (hw:(wid x.toNat:Int)≤width)
  (hl:l.length≤1000000000) :
  Calls prog 250 #[.pointer (some ⟨B,0,none⟩),.int .u64 x,.int .i64 width] w fun e w'=>e=.returned (.int .i64 0) ∧
   ∃v',WrAt 278 5 w' lo B v' (l++Qaj x.toNat width.toNat)∧Only (Foot B v) w w'∧Stays w v v':=by
 obtain ⟨n,rfl⟩:=Int.eq_ofNat_of_zero_le h0;have HW:Hid (WrAt 278 5 w lo B v l):=h
 have hd:decide (n<wid x.toNat)=false:=by simp;omega
 clear h;go_enter func250,ntmps250;go_wp2_with (first|(go_at_call 273;refine (QhD _ _ h0 h1).mono ?_;rintro e w' ⟨rfl,rfl⟩)|(go_at_call 249;refine (Qcb _ _ x0 x1).mono ?_;rintro e w' ⟨rfl,rfl⟩))
 go_loopw [22] (fun i wr=>∃(k:Nat) (v':Value),k≤n∧i=.int .i64 k∧WrAt 278 5 wr lo B v' (l++(Qaj x.toNat n).take k)∧Only (Foot B v) w wr∧Stays w v v') (fun i _=>n - (intOf i).toNat)
 case atStart=>exact ⟨0,v,Nat.zero_le _,rfl,by simpa using HW.out,Only.refl _ _,Stays.refl _ _⟩
 case round =>
  obtain ⟨k,v',hk,rfl,hwr,hon,hst⟩:=hrel
  by_cases hlt:k<n
  ·have hlen:(l++(Qaj x.toNat n).take k).length≤1000000000000:=by simp [Qao];omega
   have HB:Hid (bits .and .u64 (x / 2^(n - 1 - k)) 1 % 256=((x.toNat.testBit (n - 1 - k)).toNat:Int)):=Qtz x _ x0 x1;go_wp2_with (go_at_call 274;refine (Qlc hwr (x.toNat.testBit (n - 1 - k)) _ HB.out hlen).mono ?_;rintro e w2 ⟨rfl,v2,hwr2,hon2,hst2⟩)
   go_roundw
   case rel=>exact ⟨k+1,v2,by omega,by go_num,by rw [QhE _ _ _ hlt,←List.append_assoc];exact hwr2,hon.trans hon2 (Qe6 hst),hst.trans hst2 hon.size⟩
   case measure=>simp [intOf];omega
  ·go_wp2
   go_ret
   have hkn:k=n:=by omega
   subst hkn;exact ⟨rfl,v',by simpa [List.take_of_length_le (Nat.le_of_eq (Qao x.toNat k))] using hwr,hon,hst⟩
theorem Tryz.infoC8:(prog.info? 5).map (fun i=>(i.zero,i.size,i.bytes))=some (some (.int .u8 0),1,1):=by kernel_rfl
theorem Qll (c:Nat) (w:World):Calls prog 54 #[.slice none 0 c] w fun e w'=>e=.returned (.slice none 0 0)∧w=w':=by
 have hnil:∀W,(binOp .eql 22 (.slice none 0 c) (.slice none 0 0)).run prog W=.ok (.bool true) W:=fun W=>by
  rw [Lib.run_eql_slice_nil W 22 5 none 0 c 0 0 underlying22];rfl
 go_enter func54,ntmps54;go_wp2;go_ret;exact ⟨rfl,rfl⟩
theorem Qj3 (ad:Addr) (m c:Nat) (news:List Value) (w:World) (hl:news.length=m) (hnews:∀j u,news[j]? = some u→w.cell? (ad.add j)=some u) (h1:∀u∈news,u.oneCell'=true) (hm:m≤140737488355328) :
  Calls prog 54 #[.slice (some ad) m c] w fun e w'=>∃v',e=.returned v'∧w'.ownsRow w.heap.size 5 1 v' m news∧Only (fun _=>False) w w'∧v'≠.slice none 0 0:=by
 obtain ⟨i0,hi,hz0,hz1,hz2⟩:=info_parts Tryz.infoC8
 have hnil:∀W,(binOp .eql 22 (.slice (some ad) m c) (.slice none 0 0)).run prog W=.ok (.bool false) W:=fun W=>by
  rw [Lib.run_eql_slice_nil W 22 5 (some ad) m c 0 0 underlying22];rfl
 have ho:=World.ownsRow_made (base:=w.heap.size) (e:=5) (size:=1) w #[] 0 (Nat.le_refl _) (by unfold maxLen;omega) rfl;have HN:Hid (∀j u,news[j]? = some u→w.cell? (ad.add j)=some u):=hnews;clear hnews;go_enter func54,ntmps54;go_wp2_with (at_builtin;refine wpList_append_own_at _ rfl _ _ _ rfl w.heap.size 5 i0 (.int .u8 0) 1 1 underlying22 hi hz0 hz1 hz2 rfl (by omega) (.slice (some ⟨w.heap.size,0,none⟩) 0 0) 0 [] rfl ho ad m c news rfl ?c0 ?c1 h1 ?c3 ?c4 ?c5 ?_)
 case c0=>omega
 case c1 =>
  intro j u hu;have h0:=HN.out j u hu;rw [World.cell?_of_block (Below.heap_alloc w _ _ (World.block_lt_of_cell? w _ h0))];exact h0
 case c3=>unfold maxLen;omega
 case c4=>omega
 case c5=>simp
 intro v' w1 hown1 hgrow hnn hat
 have FIN:Hid (w1.ownsRow w.heap.size 5 1 v' m news∧Only (fun _=>False) w w1∧v'≠.slice none 0 0):=by
  refine ⟨by simpa using hown1,((Only.refl _ _).alloc _).grown hgrow (fun k hk e=>?_),hnn⟩;simp [Value.ownBlock] at e;omega
 clear hown1 hgrow hnn hat ho;go_wp2;go_ret;exact ⟨v',rfl,FIN.out⟩
theorem Qcw (v:Value) (xs:List Int) (w:World) (h:Bs .u8 w v xs) (hm:xs.length≤140737488355328) :
  Calls prog 54 #[v] w fun e w'=>∃v',e=.returned v'∧w'.ownsRow w.heap.size 5 1 v' xs.length (xs.map (Value.int .u8))∧Only (fun _=>False) w w':=by
 obtain ⟨ao,cap,rfl,hc,hr⟩:=h
 cases ao with
 | none =>
  have hx:xs=[]:=by
   cases xs with
   | nil=>rfl
   | cons a t=>obtain ⟨b,off,h,_⟩:=hr (by simp);cases h
  subst hx;refine (Qll cap w).mono ?_;rintro e w' ⟨rfl,rfl⟩;exact ⟨_,rfl,World.ownsRow_nil _ _ _ _,Only.refl _ _⟩
 | some ad =>
  refine (Qj3 ad xs.length cap (xs.map (Value.int .u8)) w (by simp) ?_ (QaP _ _) hm).mono ?_
  ·intro j u hu
   have hj:j<xs.length:=by
    have:=(List.getElem?_eq_some_iff.1 hu).1
    simpa using this
   obtain ⟨b,off,hb,hcell⟩:=hr (by intro h;subst h;simp at hj)
   cases hb
   have hadd:(⟨b,off,none⟩:Addr).add j=⟨b,off+j,none⟩:=by unfold Addr.add;split <;> simp_all
   rw [hadd,hcell j hj];rw [←hu];simp [List.getElem?_eq_getElem hj]
  ·rintro e w' ⟨v',rfl,h1,h2,_⟩
   exact ⟨v',rfl,h1,h2⟩
def QaD (l:List Bool):List Int:=(List.range (nb l)).map fun j=>(QaX l j:Int)
theorem QhC (l:List Bool):(QaD l).map (Value.int .u8)=QaT l:=by simp [QaD,QaT,List.map_map,Function.comp_def]
theorem QaI (l:List Bool):(QaD l).length=nb l:=by simp [QaD]
theorem WrAt.bs {T E:TypeId} {w:World} {lo B:Nat} {v:Value} {l:List Bool} (h:WrAt T E w lo B v l):Bs .u8 w v (QaD l) :=
 Bs.of_own (by rw [QhC,QaI];exact h.own)
theorem QdU {w:World} {lo B:Nat} {v:Value} {l:List Bool} (h:WrAt 278 5 w lo B v l) (hl:l.length≤1000000000000) :
  Calls prog 251 #[.pointer (some ⟨B,0,none⟩)] w fun e w'=>∃v',e=.returned v'∧w'.ownsRow w.heap.size 5 1 v' (QaD l).length ((QaD l).map (Value.int .u8))∧Only (fun _=>False) w w':=by
 obtain ⟨c0,c1,f0,f1⟩:=Qae h.cell;have HB:Hid (Bs .u8 w v (QaD l)):=h.bs
 have hle:(QaD l).length≤140737488355328:=by rw [QaI];unfold nb;omega
 clear h;go_enter func251,ntmps251;go_wp2_with (go_at_call 54;refine (Qcw v (QaD l) _ HB.out hle).mono ?_;rintro e w' ⟨v',rfl,h1,h2⟩);go_ret;exact ⟨v',rfl,h1,h2⟩
theorem WrAt.foot_ge {T E:TypeId} {w:World} {lo B:Nat} {v:Value} {l:List Bool} (h:WrAt T E w lo B v l) {N:Nat} (hB:N≤B):∀k,Foot B v k→N≤k:=by
 intro k hk
 rcases hk with rfl | hk
 ·exact hB
 ·have:=(h.own.lt k hk).1;have:=h.lt;omega
def bitB (ys:List Int) (i:Nat):Bool:=((ys.getD (i / 8) 0).toNat).testBit (7 - i % 8)
def Qrg (ys:List Int):List Bool:=(List.range (8*ys.length)).map (bitB ys)
def bnum (l:List Bool):Nat:=l.foldl (fun a b=>2*a+b.toNat) 0
theorem Qdr (l:List Bool):∀y∈QaD l,0≤y∧y≤255:=by
 intro y hy;simp only [QaD,List.mem_map] at hy;obtain ⟨j,_,rfl⟩:=hy;have:=Qea l j;omega
def fits (x:Int × Int):Prop:=0≤x.2∧x.2≤64∧(wid x.1.toNat:Int)≤x.2
theorem eight (l:List Bool) (j:Nat) (h:8*j+8≤l.length):(l.drop (8*j)).take 8=[l.getD (8*j) false,l.getD (8*j+1) false,l.getD (8*j+2) false,l.getD (8*j+3) false,l.getD (8*j+4) false,l.getD (8*j+5) false,l.getD (8*j+6) false,l.getD (8*j+7) false]:=by
 have hg:∀i,i<8→((l.drop (8*j)).take 8)[i]? = some (l.getD (8*j+i) false):=fun i hi=>by
  rw [List.getElem?_take,if_pos hi,List.getElem?_drop,Yad,Yaf (show 8*j+i<l.length by omega)];rfl
 apply List.ext_getElem?
 intro i
 by_cases hi:i<8
 ·rw [hg i hi]
  have hr:i=0∨i=1∨i=2∨i=3∨i=4∨i=5∨i=6∨i=7:=by omega
  rcases hr with rfl | rfl | rfl | rfl | rfl | rfl | rfl | rfl <;> rfl
 ·rw [List.getElem?_eq_none (by rw [Yag];omega),List.getElem?_eq_none (by simp;omega)]
theorem Tryz.infoU8:(prog.info? 5).map (fun i=>(i.zero,i.size,i.bytes))=some (some (.int .u8 0),1,1):=by kernel_rfl
def gsF:Nat→Nat→List Int
 | 0,v=>[(v:Int)]
 | f+1,v=>if v<128 then [(v:Int)] else ((v % 128+128:Nat):Int) :: gsF f (v / 128)
def gs (v:Nat):List Int:=gsF v v
theorem Qqh (f:Nat):∀(g v:Nat),v≤f→v≤g→gsF f v=gsF g v:=by
 induction f with
 | zero =>
  intro g v h _
  obtain rfl:v=0:=by omega
  cases g with
  | zero=>rfl
  | succ g=>simp [gsF]
 | succ f ih =>
  intro g v h h2
  cases g with
  | zero =>
   obtain rfl:v=0:=by omega
   simp [gsF]
  | succ g =>
   simp only [gsF]
   by_cases hv:v<128
   ·rw [if_pos hv,if_pos hv]
   ·rw [if_neg hv,if_neg hv,ih g (v / 128) (by omega) (by omega)]
theorem Qa7 {v:Nat} (h:v<128):gs v=[(v:Int)]:=by
 unfold gs
 cases v with
 | zero=>rfl
 | succ v=>rw [gsF,if_pos h]
theorem QdT {v:Nat} (h:128≤v):gs v=((v % 128+128:Nat):Int) :: gs (v / 128):=by
 unfold gs;obtain ⟨u,rfl⟩:∃u,v=u+1:=⟨v - 1,by omega⟩;rw [gsF,if_neg (by omega),Qqh u ((u+1) / 128) ((u+1) / 128) (by omega) (Nat.le_refl _)]
theorem Qfo (v:Nat):0<(gs v).length:=by
 rcases Nat.lt_or_ge v 128 with h | h
 ·rw [Qa7 h];simp
 ·rw [QdT h];simp
theorem QnO (v:Nat):(gs v).length=(max (wid v) 1+6) / 7:=by
 induction v using Nat.strongRecOn with
 | _ v ih =>
  rcases Nat.lt_or_ge v 128 with h | h
  ·rw [Qa7 h]
   have:wid v≤7:=(Qan v 7).2 (by simpa using h);simp;omega
  ·rw [QdT h,Yah,ih (v / 128) (by omega)]
   have h1:=QmE v 7 (by simpa using h);rw [show (2:Nat)^7=128 from rfl] at h1
   have h2:0<wid (v / 128):=by
    rcases Nat.eq_zero_or_pos (wid (v / 128)) with h0 | h0
    ·have:=(Qan (v / 128) 0).1 (by omega)
     simp at this;omega
    ·exact h0
   omega
theorem QjQ {a b:Nat} (h:a≤b):wid a≤wid b:=(Qan a (wid b)).2 (Nat.lt_of_le_of_lt h ((Qan b (wid b)).1 (Nat.le_refl _)))
theorem Qte {a b:Nat} (h:a≤b):(gs a).length≤(gs b).length:=by
 have:=QjQ h;rw [QnO,QnO];omega
theorem QaC {v:Nat} (h:v<18446744073709551616):(gs v).length≤10:=by
 have:=Qb2 v h;rw [QnO];omega
theorem Qa8 (v:Nat):∀x∈gs v,0≤x∧x≤255:=by
 induction v using Nat.strongRecOn with
 | _ v ih =>
  rcases Nat.lt_or_ge v 128 with h | h
  ·rw [Qa7 h]
   intro x hx;simp at hx;omega
  ·rw [QdT h]
   intro x hx
   rcases List.mem_cons.1 hx with hx | hx
   ·omega
   ·exact ih (v / 128) (by omega) x hx
def rd (i:Nat) (acc:Int):List Int→Int × Int × Int
 | []=>(0,0,2)
 | c :: t=>if i=9∧1<c then (0,0,3) else if 128≤c then rd (i+1) (acc+c % 128*128^i) t else if c=0∧0<i then (0,0,3) else (acc+c*128^i,(i:Int)+1,0)
theorem Qq8 (i:Nat) (acc:Int):rd i acc []=(0,0,2):=rfl
theorem QdI (i:Nat) (acc c:Int) (t:List Int):rd i acc (c :: t)=if i=9∧1<c then (0,0,3) else if 128≤c then rd (i+1) (acc+c % 128*128^i) t else if c=0∧0<i then (0,0,3) else (acc+c*128^i,(i:Int)+1,0):=rfl
theorem Qhp {i v:Nat} (hi:i≤9) (hv:v<2^(64 - 7*i)) (h:128≤v):i≤8∧v / 128<2^(64 - 7*(i+1)):=by
 have hi8:i≤8:=by
  rcases Nat.lt_or_ge i 9 with h9 | h9
  ·omega
  ·have:i=9:=by omega
   subst this;simp at hv;omega
 refine ⟨hi8,?_⟩
 have e:2^(64 - 7*i)=2^(64 - 7*(i+1))*128:=by
  rw [show 64 - 7*i=64 - 7*(i+1)+7 by omega,Nat.pow_add]
 omega
theorem rd_gs (t:List Int) (v:Nat):∀(i:Nat) (acc:Int),i≤9→v<2^(64 - 7*i)→(0<i→0<v)→rd i acc (gs v++t)=(acc+v*128^i,(i:Int)+(gs v).length,0):=by
 induction v using Nat.strongRecOn with
 | _ v ih =>
  intro i acc hi hv h0
  rcases Nat.lt_or_ge v 128 with h | h
  ·rw [Qa7 h,List.singleton_append,QdI,if_neg,if_neg (by omega),if_neg]
   ·rfl
   ·intro hc;have:=h0 hc.2;omega
   ·rintro ⟨rfl,hc⟩
    simp at hv;omega
  ·obtain ⟨hi8,hlt⟩:=Qhp hi hv h
   rw [QdT h,List.cons_append,QdI,if_neg (by omega),if_pos (by omega),ih (v / 128) (by omega) (i+1) _ (by omega) hlt (by omega)];refine Prod.ext ?_ (Prod.ext ?_ rfl)
   ·simp only
    rw [Int.pow_succ]
    have e:(((v % 128+128:Nat):Int)) % 128=((v % 128:Nat):Int):=by omega
    have e2:(v:Int)=((v % 128:Nat):Int)+128*((v / 128:Nat):Int):=by omega
    rw [e];generalize (128:Int)^i=p;generalize ((v % 128:Nat):Int)=a at e2 ⊢;generalize ((v / 128:Nat):Int)=b at e2 ⊢;rw [e2,Int.add_mul,Int.mul_comm p 128,←Int.mul_assoc,Int.mul_comm b 128,Int.add_assoc]
   ·simp only [Yah]
    omega
theorem Qqi (v:Nat):∀(i k:Nat) (acc:Int),i≤9→v<2^(64 - 7*i)→k<(gs v).length→rd i acc ((gs v).take k)=(0,0,2):=by
 induction v using Nat.strongRecOn with
 | _ v ih =>
  intro i k acc hi hv hk
  rcases Nat.lt_or_ge v 128 with h | h
  ·rw [Qa7 h] at hk ⊢
   simp at hk;subst hk
   rfl
  ·obtain ⟨hi8,hlt⟩:=Qhp hi hv h
   rw [QdT h] at hk ⊢
   cases k with
   | zero=>rfl
   | succ k =>
    rw [List.take_succ_cons,QdI,if_neg (by omega),if_pos (by omega),ih (v / 128) (by omega) (i+1) k _ (by omega) hlt (by simpa using hk)]
theorem rd_ok (xs:List Int):∀(i:Nat) (acc r n:Int),i≤9→(∀x∈xs,0≤x∧x≤255)→rd i acc xs=(r,n,0) →
  ∃v k:Nat,r=acc+v*128^i∧n=(i:Int)+k∧1≤k∧k≤xs.length∧gs v=xs.take k∧(0<i→0<v)∧v<2^(64 - 7*i):=by
 induction xs with
 | nil=>intro i acc r n _ _ h;simp [Qq8] at h
 | cons c t ih =>
  intro i acc r n hi hx h;have hc:=hx c (by simp);rw [QdI] at h
  by_cases h1:i=9∧1<c
  ·rw [if_pos h1] at h;simp at h
  ·rw [if_neg h1] at h
   by_cases h2:128≤c
   ·rw [if_pos h2] at h
    have hi8:i+1≤9:=by omega
    obtain ⟨v,k,hr,hn,hk1,hk2,hg,hv0,hv⟩:=ih (i+1) _ r n hi8 (fun x hx'=>hx x (by simp [hx'])) h;have hvp:=hv0 (by omega);refine ⟨c.toNat % 128+128*v,k+1,?_,by omega,by omega,by simp;omega,?_,fun _=>by omega,?_⟩
    ·rw [hr,Int.pow_succ]
     have e:((c.toNat % 128+128*v:Nat):Int)=c % 128+128*(v:Int):=by omega
     rw [e];generalize (128:Int)^i=p;rw [Int.add_mul,Int.mul_comm p 128,←Int.mul_assoc,Int.mul_comm (v:Int) 128,Int.add_assoc]
    ·rw [QdT (by omega),List.take_succ_cons,←hg]
     congr 1
     ·omega
     ·congr 1;omega
    ·have e:2^(64 - 7*i)=2^(64 - 7*(i+1))*128:=by
      rw [show 64 - 7*i=64 - 7*(i+1)+7 by omega,Nat.pow_add]
     omega
   ·rw [if_neg h2] at h
    by_cases h3:c=0∧0<i
    ·rw [if_pos h3] at h;simp at h
    ·rw [if_neg h3] at h
     simp only [Prod.mk.injEq] at h;refine ⟨c.toNat,1,?_,by omega,by omega,by simp,?_,fun _=>by omega,?_⟩
     ·rw [←h.1,Int.toNat_of_nonneg hc.1]
     ·rw [Qa7 (by omega)]
      simp [Int.toNat_of_nonneg hc.1]
     ·by_cases h9:i=9
      ·subst h9;simp;omega
      ·have:2^7≤2^(64 - 7*i):=Nat.pow_le_pow_right (by omega) (by omega)
       have:(2:Nat)^7=128:=rfl;omega
theorem QuF (xs:List Int):∀(i:Nat) (acc:Int),(rd i acc xs).2.2=0∨((rd i acc xs).1=0∧(rd i acc xs).2.1=0∧((rd i acc xs).2.2=2∨(rd i acc xs).2.2=3)):=by
 induction xs with
 | nil=>intro i acc;right;simp [Qq8]
 | cons c t ih =>
  intro i acc;rw [QdI]
  by_cases h1:i=9∧1<c
  ·rw [if_pos h1];right;simp
  ·rw [if_neg h1]
   by_cases h2:128≤c
   ·rw [if_pos h2];exact ih _ _
   ·rw [if_neg h2]
    by_cases h3:c=0∧0<i
    ·rw [if_pos h3];right;simp
    ·rw [if_neg h3];left;rfl
def allG (l:List Int):List Int:=l.flatMap fun x=>gs x.toNat
theorem QnP (l:List Int) (k:Nat) (h:k<l.length):allG (l.take (k+1))=allG (l.take k)++gs (l.getD k 0).toNat:=by
 rw [List.take_succ_eq_append_getElem h,Yad,Yaf h];unfold allG;rw [List.flatMap_append,List.flatMap_singleton];rfl
theorem QjR (l:List Int) (h:∀x∈l,0≤x∧x≤18446744073709551615):(allG l).length≤10*l.length:=by
 induction l with
 | nil=>simp [allG]
 | cons a t ih =>
  have ha:=h a (by simp);have h1:=QaC (v:=a.toNat) (by omega);have h2:=ih (fun x hx=>h x (by simp [hx]));simp only [allG,List.flatMap_cons,Yae,Yah] at h2 ⊢;omega
def zig (n:Int):Int:=if 0≤n then 2*n else -2*n - 1
def zag (v:Int):Int:=if v % 2=0 then v / 2 else -(v / 2) - 1
theorem QdJ (n:Int) (h0:-9223372036854775808≤n) (h1:n≤9223372036854775807):0≤zig n∧zig n≤18446744073709551615:=by
 unfold zig;split <;> omega
theorem QkW (l:List Int):∀x∈allG l,0≤x∧x≤255:=by
 intro x hx;simp only [allG,List.mem_flatMap] at hx;obtain ⟨y,_,hy⟩:=hx;exact Qa8 _ x hy
theorem Qtf (l:List Int) (k:Nat) (h:∀x∈l,0≤x∧x≤18446744073709551615):(allG (l.take k)).length≤10*l.length:=by
 have h1:=QjR (l.take k) (fun x hx=>h x (List.mem_of_mem_take hx))
 have h2:(l.take k).length≤l.length:=by rw [Yag];omega
 omega
theorem QiD (n:Int) (w:World) (h0:-9223372036854775808≤n) (h1:n≤9223372036854775807) :
  Calls prog 196 #[.int .i64 n] w fun e w'=>e=.returned (.int .u64 (zig n))∧w=w':=by
 go_enter func196,ntmps196;go_wp2
 all_goals go_ret
 all_goals refine ⟨Qa0 ?_,rfl⟩
 all_goals (unfold zig;split <;> omega)
theorem and7 (x:Nat) (h:x<18446744073709551616):bits .and .u64 (x:Int) 127=((x % 128:Nat):Int):=by
 rw [show (127:Int)=((127:Nat):Int) from rfl,u64_and_nat _ _ h (by omega),nat_mask7]
theorem QkX (v:Int) (w:World) (h0:0≤v) (h1:v≤18446744073709551615) :
  Calls prog 82 #[.int .u64 v] w fun e w'=>∃v',e=.returned v'∧w'.ownsRow w.heap.size 5 1 v' (gs v.toNat).length ((gs v.toNat).map (Value.int .u8))∧Only (fun _=>False) w w':=by
 obtain ⟨i0,hi,hz0,hz1,hz2⟩:=info_parts Tryz.infoU8
 have hmk:∀w,(Instr.makeSlice 22 (.int .i64 0) (.int .i64 10)).run prog w=.ok (.slice (some ⟨w.heap.size,0,none⟩) 0 10) (w.alloc (.cells #[.int .u8 0,.int .u8 0,.int .u8 0,.int .u8 0,.int .u8 0,.int .u8 0,.int .u8 0,.int .u8 0,.int .u8 0,.int .u8 0] 5)):=fun _=>by kernel_rfl
 have START:Hid ((w.alloc (.cells #[.int .u8 0,.int .u8 0,.int .u8 0,.int .u8 0,.int .u8 0,.int .u8 0,.int .u8 0,.int .u8 0,.int .u8 0,.int .u8 0] 5)).ownsRow w.heap.size 5 1 (.slice (some ⟨w.heap.size,0,none⟩) 0 10) 0 []) :=
  World.ownsRow_made w _ 10 (Nat.le_refl _) (by unfold maxLen;omega) rfl
 have H10:=Qaa (QaC (v:=v.toNat) (by omega));go_enter func82,ntmps82;go_wp2
 go_loopw [0,3] (fun a o wr=>∃(x k:Nat) (p:List Int),a=.int .u64 x∧x<18446744073709551616∧p++gs x=gs v.toNat∧k=p.length∧wr.ownsRow w.heap.size 5 1 o k (p.map (Value.int .u8))∧Below w.heap.size w wr) (fun a _ _=>(intOf a).toNat)
 case atStart=>exact ⟨v.toNat,0,[],by rw [Int.toNat_of_nonneg h0],by omega,rfl,rfl,START.out,(Below.refl _ _).alloc (Nat.le_refl _) _⟩
 case round =>
  obtain ⟨x,k,p,rfl,hx,hp,hk,hown,hbel⟩:=hrel
  have hk9:k≤9:=by
   have h:=congrArg List.length hp;have:=H10.out;have:=Qfo x;rw [Yae] at h;omega
  have HP:=Qaa hp;have HK:=Qaa hk;have hsz:=hbel.size;clear hp hk START
  by_cases hlt:127<x
  ·have hlt':decide (127<(x:Int))=true:=by simp;omega
   have B7:=and7 x hx;obtain ⟨r,hr⟩:∃r:Nat,r=x % 128:=⟨_,rfl⟩
   have hr1:r<128:=by omega
   rw [←hr] at B7;have HR:=Qaa hr;clear hr;go_wp2_with (at_builtin;refine wpList_append_lies _ rfl _ _ _ rfl w.heap.size 5 i0 (.int .u8 0) 1 1 underlying22 hi hz0 hz1 hz2 rfl (by omega) _ k (p.map (Value.int .u8)) rfl (hown.alloc _) ⟨wr.heap.size,0,none⟩ 1 1 [.int .u8 ((r:Int)+128)] rfl rfl ?c1 ?c2 (by omega) ?c3 ?c4 ?c5 (wr.heap.size+1) (by simp) ?_)
   case c1=>exact cell_one_new _ _ _
   case c2=>intro u hu;simp at hu;subst hu;rfl
   case c3=>unfold maxLen;omega
   case c4=>omega
   case c5=>simp;omega
   intro g cap1 w1 hown1 hgrow hat hg1;have hb1:Below w.heap.size w w1:=(hbel.alloc hbel.size _).grown hgrow (by simp;omega) (fun q hq=>(hown.lt q hq).1)
   have hown2:w1.ownsRow w.heap.size 5 1 (.slice (some ⟨g,0,none⟩) (k+1) cap1) (k+1) ((p++[(r:Int)+128]).map (Value.int .u8)):=by
    rw [List.map_append];exact hown1
   clear hown hown1 hgrow hat hbel;go_wp2
   go_roundw
   case rel =>
    refine ⟨x / 128,k+1,p++[(r:Int)+128],by go_num,by omega,?_,by rw [Yae,←HK.out];rfl,hown2,hb1⟩;rw [←HP.out,QdT (v:=x) (by omega),←HR.out];simp
   case measure=>simp [intOf];omega
  ·have hlt':decide (127<(x:Int))=false:=by simp;omega
   go_wp2_with (at_builtin;refine wpList_append_lies _ rfl _ _ _ rfl w.heap.size 5 i0 (.int .u8 0) 1 1 underlying22 hi hz0 hz1 hz2 rfl (by omega) _ k (p.map (Value.int .u8)) rfl (hown.alloc _) ⟨wr.heap.size,0,none⟩ 1 1 [.int .u8 (x:Int)] rfl rfl ?c1 ?c2 (by omega) ?c3 ?c4 ?c5 (wr.heap.size+1) (by simp) ?_)
   case c1=>exact cell_one_new _ _ _
   case c2=>intro u hu;simp at hu;subst hu;rfl
   case c3=>unfold maxLen;omega
   case c4=>omega
   case c5=>simp;omega
   intro g cap1 w1 hown1 hgrow hat hg1;have hb1:Below w.heap.size w w1:=(hbel.alloc hbel.size _).grown hgrow (by simp;omega) (fun q hq=>(hown.lt q hq).1)
   have hown2:Hid (w1.ownsRow w.heap.size 5 1 (.slice (some ⟨g,0,none⟩) (k+1) cap1) (gs v.toNat).length ((gs v.toNat).map (Value.int .u8))):=by
    rw [←HP.out,Qa7 (v:=x) (by omega),Yae,←HK.out,List.map_append];exact hown1
   have hb2:=Qaa hb1;clear hown hown1 hgrow hat hbel hb1;go_wp2;go_ret;exact ⟨_,rfl,hown2.out,Qav hb2.out⟩
theorem QjU (n:Nat) (w:World) (h0:0<n) (h1:n≤140737488355328) :
  Calls prog 51 #[.slice none 0 0,.int .i64 n] w fun e w'=>∃G,e=.returned (.slice (some ⟨w.heap.size,0,none⟩) 0 G)∧w'.ownsRow w.heap.size 5 1 (.slice (some ⟨w.heap.size,0,none⟩) 0 G) 0 []∧Only (fun _=>False) w w':=by
 obtain ⟨i0,hi,hz0,hz1,hz2⟩:=info_parts Tryz.infoU8
 have hrz:∀ty,(Builtin.append_ #[22,3] ty #[.slice none 0 0,.int .i64 (n:Int)]).run prog w =
   .ok (.slice (some ⟨w.heap.size,0,none⟩) n (grownCap w n 0 5)) (w.drew.alloc (.cells (Builtin.zeroCells (Value.int .u8 0).cells n++Builtin.zeroCells (Value.int .u8 0).cells (grownCap w n 0 5 - n)) 5)):=fun ty =>
  Lib.run_append_nil_zeros w 22 3 ty 5 i0 (.int .u8 0) .i64 .i64 underlying22 underlying3 hi hz0 n h0 (by omega) (by omega) (by rw [hz2];omega)
 have hGn:n≤grownCap w n 0 5:=grownCap_ge w _ _ _;have hGm:grownCap w n 0 5≤maxLen:=grownCap_le_maxLen w n 0 5 (by unfold maxLen;omega);obtain ⟨G,hG⟩:∃G,G=grownCap w n 0 5:=⟨_,rfl⟩;rw [←hG] at hrz hGn hGm
 have hG63:G≤9223372036854775807:=by unfold maxLen at hGm;omega
 have HM:=Qaa hGm
 have d0:decide ((n:Int)<0)=false:=by simp
 have d1:decide (0<(n:Int))=true:=by simp;omega
 obtain ⟨cs,hcs⟩:∃cs,cs=Builtin.zeroCells (Value.int .u8 0).cells n++Builtin.zeroCells (Value.int .u8 0).cells (G - n):=⟨_,rfl⟩
 have hsz:Hid (cs.size=G*1):=by
  have hs:∀q,(Builtin.zeroCells (Value.int .u8 0).cells q).size=q:=fun q=>by simp [Builtin.zeroCells,Value.cells]
  simp only [Hid];rw [hcs,Array.size_append,hs,hs];omega
 rw [←hcs] at hrz;clear hG hGm hcs;go_enter func51,ntmps51;go_wp2_with (at_builtin;refine Lib.wpList_append_run _ rfl _ _ _ _ rfl _ _ rfl rfl _ _ (hrz _) ?_);go_ret;exact ⟨G,rfl,World.ownsRow_made (w:=w.drew) (base:=w.heap.size) (e:=5) (size:=1) cs G (Nat.le_refl _) HM.out hsz.out,(Only.refl _ _).drew.alloc _⟩
theorem Qa1 (B:Nat) (va vb:Value) (xs ys:List Int) (w:World) (c0:w.cell? ⟨B,0,none⟩=some va) (c1:w.cell? ⟨B,1,none⟩=some vb)
  (ha:Bs .u8 w va xs) (hb:Bs .u8 w vb ys) (na:NoCap va) (nb:NoCap vb) (hp:0<xs.length+ys.length) (hl:xs.length+ys.length≤140737488355328) :
  Calls prog 25 #[.slice (some ⟨B,0,none⟩) 2 2] w fun e w'=>∃v',e=.returned v'∧w'.ownsRow w.heap.size 5 1 v' (xs++ys).length ((xs++ys).map (Value.int .u8))∧Only (fun _=>False) w w':=by
 obtain ⟨i0,hi,hz0,hz1,hz2⟩:=info_parts Tryz.infoU8;have HA:=Qaa ha;have HB:=Qaa hb;have NA:=Qaa na;have NB:=Qaa nb;obtain ⟨aa,ca,rfl⟩:=ha.len;obtain ⟨ab,cb,rfl⟩:=hb.len;obtain ⟨n,hn⟩:∃n,n=xs.length:=⟨_,rfl⟩;obtain ⟨m,hm⟩:∃m,m=ys.length:=⟨_,rfl⟩;rw [←hn] at c0 hp hl HA NA;rw [←hm] at c1 hp hl HB NB;have HN:=Qaa hn;have HM:=Qaa hm;have hBw:B<w.heap.size:=World.block_lt_of_cell? w _ c0;clear ha hb na nb hn hm;go_enter func25,ntmps25;go_wp2
 go_loop [3,11] (fun s i=>(i=.int .i64 0∧s=.int .i64 0)∨(i=.int .i64 1∧s=.int .i64 n)∨(i=.int .i64 2∧s=.int .i64 ((n:Int)+m))) (fun _ i=>2 - (intOf i).toNat)
 case atStart=>exact .inl ⟨rfl,rfl⟩
 case round =>
  rcases hrel with ⟨rfl,rfl⟩ | ⟨rfl,rfl⟩ | ⟨rfl,rfl⟩
  ·have d0:decide ((n:Int)<0)=false:=by simp
   go_wp2
   go_round
   case rel=>exact .inr (.inl ⟨rfl,rfl⟩)
   case measure=>simp [intOf]
  ·have d0:decide ((n:Int)+m<0)=false:=by simp;omega
   go_wp2
   go_round
   case rel=>exact .inr (.inr ⟨rfl,rfl⟩)
   case measure=>simp [intOf]
  ·have GN:=Qaa (QjU (n+m) w (by omega) (by omega))
   go_wp2_with fail;rw [show ((n:Int)+(m:Int))=((n+m:Nat):Int) by omega];refine GN.out.mono ?_;rintro e w2 ⟨G,rfl,hown,hon⟩;have hbel:Below w.heap.size w w2:=hon.low (Nat.le_refl _);go_wp2
   go_loopw [6,27] (fun o i wr=>Below w.heap.size w wr∧((i=.int .i64 0∧wr.ownsRow w.heap.size 5 1 o 0 [])∨(i=.int .i64 1∧wr.ownsRow w.heap.size 5 1 o n (xs.map (Value.int .u8)))∨(i=.int .i64 2∧wr.ownsRow w.heap.size 5 1 o (n+m) ((xs++ys).map (Value.int .u8))))) (fun _ i _=>2 - (intOf i).toNat)
   case atStart=>exact ⟨hbel,.inl ⟨rfl,hown⟩⟩
   case round =>
    obtain ⟨hbw,hr⟩:=hrel;clear hbel hown hon GN;have d0:=(hbw.cell (p:=⟨B,0,none⟩) hBw).trans c0;have d1:=(hbw.cell (p:=⟨B,1,none⟩) hBw).trans c1;have hsz:=hbw.size
    rcases hr with ⟨rfl,hown⟩ | ⟨rfl,hown⟩ | ⟨rfl,hown⟩
    ·have HBA:=Qaa (HA.out.later hbw)
     go_wp2_with (at_builtin;refine Qab _ rfl _ _ _ rfl w.heap.size 5 i0 (.int .u8 0) 1 underlying22 hi hz0 hz1 hz2 rfl _ 0 [] rfl hown .u8 _ xs rfl HBA.out NA.out ?c3 ?c4 hsz ?_)
     case c3=>rw [←HN.out];unfold maxLen;omega
     case c4=>rw [←HN.out];omega
     intro v' w3 hown1 hgrow _ _;rw [←HN.out] at hown1;have hb3:Below w.heap.size w w3:=hbw.grown hgrow hsz (fun q hq=>(hown.lt q hq).1);clear hown hgrow;go_wp2
     go_roundw
     case rel=>exact ⟨hb3,.inr (.inl ⟨rfl,by simpa using hown1⟩)⟩
     case measure=>simp [intOf]
    ·have HBB:=Qaa (HB.out.later hbw)
     go_wp2_with (at_builtin;refine Qab _ rfl _ _ _ rfl w.heap.size 5 i0 (.int .u8 0) 1 underlying22 hi hz0 hz1 hz2 rfl _ n (xs.map (Value.int .u8)) rfl hown .u8 _ ys rfl HBB.out NB.out ?c3 ?c4 hsz ?_)
     case c3=>rw [←HM.out];unfold maxLen;omega
     case c4=>rw [←HM.out];omega
     intro v' w3 hown1 hgrow _ _;rw [←HM.out,←List.map_append] at hown1;have hb3:Below w.heap.size w w3:=hbw.grown hgrow hsz (fun q hq=>(hown.lt q hq).1);clear hown hgrow;go_wp2
     go_roundw
     case rel=>exact ⟨hb3,.inr (.inr ⟨rfl,hown1⟩)⟩
     case measure=>simp [intOf]
    ·go_wp2
     go_ret;refine ⟨_,rfl,?_,Qav hbw⟩;rw [Yae,←HN.out,←HM.out];exact hown
theorem Qht (va vb:Value) (xs ys:List Int) (w:World)
  (ha:Bs .u8 w va xs) (hb:Bs .u8 w vb ys) (na:NoCap va) (nb:NoCap vb) (hp:0<xs.length+ys.length) (hl:xs.length+ys.length≤140737488355328) :
  Calls prog 81 #[va,vb] w fun e w'=>∃v',e=.returned v'∧w'.ownsRow w.heap.size 5 1 v' (xs++ys).length ((xs++ys).map (Value.int .u8))∧Only (fun _=>False) w w':=by
 have hbl:Below w.heap.size w (w.alloc (.cells #[va,vb] 22)):=(Below.refl _ _).alloc (Nat.le_refl _) _;have CC:=Qaa (Qa1 w.heap.size va vb xs ys (w.alloc (.cells #[va,vb] 22)) (by go_cell) (by go_cell) (ha.later hbl) (hb.later hbl) na nb hp hl);obtain ⟨aa,ca,rfl⟩:=ha.len;obtain ⟨ab,cb,rfl⟩:=hb.len;clear ha hb;go_enter func81,ntmps81;go_wp2_with fail;refine CC.out.mono ?_;rintro e w2 ⟨v',rfl,hown,hon⟩
 have F:Hid (w2.ownsRow w.heap.size 5 1 v' (xs++ys).length ((xs++ys).map (Value.int .u8))∧Only (fun _=>False) w w2):=by
  refine ⟨?_,((Only.refl _ _).alloc _).trans hon (fun _ _ f=>f)⟩;refine ⟨hown.1,?_⟩
  rcases hown.2 with h | ⟨g,cap,cur,e,h,r⟩
  ·exact .inl h
  ·exact .inr ⟨g,cap,cur,e,by simp at h;omega,r⟩
 clear hown hon;go_wp2;go_ret;exact ⟨_,rfl,F.out⟩
theorem Qaz (va:Value) (xs:List Int) (v:Int) (w:World) (ha:Bs .u8 w va xs) (na:NoCap va) (hl:xs.length≤1000000000) (h0:0≤v) (h1:v≤18446744073709551615) :
  Calls prog 50 #[va,.int .u64 v] w fun e w'=>∃v',e=.returned v'∧w'.ownsRow w.heap.size 5 1 v' (xs++gs v.toNat).length ((xs++gs v.toNat).map (Value.int .u8))∧Only (fun _=>False) w w':=by
 have H10:=Qaa (QaC (v:=v.toNat) (by omega));have HP:=Qaa (Qfo v.toNat);have HA:=Qaa ha;obtain ⟨aa,ca,rfl⟩:=ha.len;clear ha;go_enter func50,ntmps50;go_wp2_with fail;refine (QkX v _ h0 h1).mono ?_;rintro e w1 ⟨v1,rfl,hown1,hon1⟩;have AP:=Qaa (Qht _ v1 xs (gs v.toNat) w1 (HA.out.later (hon1.low (Nat.le_refl _))) (Bs.of_own hown1) na (NoCap.of_own hown1) (by have:=HP.out;omega) (by have:=H10.out;omega));have ON1:=Qaa hon1;clear hown1 hon1;go_wp2_with fail;refine AP.out.mono ?_;rintro e w2 ⟨v',rfl,hown,hon⟩
 have F:Hid (w2.ownsRow w.heap.size 5 1 v' (xs++gs v.toNat).length ((xs++gs v.toNat).map (Value.int .u8))∧Only (fun _=>False) w w2):=by
  refine ⟨?_,ON1.out.trans hon (fun _ _ f=>f)⟩;refine ⟨hown.1,?_⟩
  rcases hown.2 with h | ⟨g,cap,cur,e,h,r⟩
  ·exact .inl h
  ·exact .inr ⟨g,cap,cur,e,by have:=ON1.out.size;omega,r⟩
 clear hown hon;go_wp2;go_ret;exact ⟨_,rfl,F.out⟩
theorem rd_at (xs:List Int) (k:Nat) (acc:Int) (h:k<xs.length):rd k acc (xs.drop k)=if k=9∧1<xs.getD k 0 then (0,0,3) else if 128≤xs.getD k 0 then rd (k+1) (acc+xs.getD k 0 % 128*128^k) (xs.drop (k+1)) else if xs.getD k 0=0∧0<k then (0,0,3) else (acc+xs.getD k 0*128^k,(k:Int)+1,0):=by
 rw [List.drop_eq_getElem_cons h,QdI,Yad,Yaf h]
 rfl
theorem QnS (k acc:Nat) (c:Int) (hk:k≤9) (hacc:acc<128^k) (c0:0≤c) (c1:c≤255) (h9:k=9→c≤1) :
  bits .or .u64 (acc:Int) (IntKind.u64.wrap (IntKind.u64.wrap (bits .and .u8 c 127)*2^(7*k)))=((acc+(c % 128).toNat*128^k:Nat):Int)∧acc+(c % 128).toNat*128^k<128^(k+1):=by
 obtain ⟨m,rfl⟩:=Int.eq_ofNat_of_zero_le c0
 have e:((m:Int) % 128).toNat=m % 128:=by omega
 rw [e,show (127:Int)=((127:Nat):Int) from rfl,u8_and_nat _ _ (by omega) (by omega),nat_mask7]
 have w1:IntKind.u64.wrap ((m % 128:Nat):Int)=((m % 128:Nat):Int):=by rw [IntKind.wrap_u64];omega
 have p1:(2:Nat)^(7*k)=128^k:=by rw [Nat.pow_mul]
 have w2:((m % 128:Nat):Int)*2^(7*k)=((m % 128*128^k:Nat):Int):=by
  rw [←p1];simp
 have hlt:m % 128*128^k<18446744073709551616:=by
  rcases Nat.lt_or_ge k 9 with h | h
  ·have h1:m % 128*128^k≤127*128^k:=Nat.mul_le_mul_right _ (by omega)
   have h2:128^k≤128^8:=Nat.pow_le_pow_right (by omega) (by omega)
   have h3:(128:Nat)^8=72057594037927936:=by decide
   omega
  ·have hk:k=9:=by omega
   subst hk;have:=h9 rfl
   have h3:(128:Nat)^9=9223372036854775808:=by decide
   have h1:m % 128*128^9≤1*128^9:=Nat.mul_le_mul_right _ (by omega);omega
 have hacc2:acc<18446744073709551616:=by
  have h2:128^k≤128^9:=Nat.pow_le_pow_right (by omega) (by omega)
  have h3:(128:Nat)^9=9223372036854775808:=by decide
  omega
 have w3:IntKind.u64.wrap ((m % 128*128^k:Nat):Int)=((m % 128*128^k:Nat):Int):=by rw [IntKind.wrap_u64];omega
 rw [w1,w2,w3,u64_or_nat _ _ hacc2 hlt,Nat.or_comm,nat_join (7*k) _ _ (by rw [p1];exact Nat.mul_mod_left _ _) (by rw [p1];exact hacc),Nat.add_comm];refine ⟨rfl,?_⟩;rw [Nat.pow_succ];have h1:m % 128*128^k≤127*128^k:=Nat.mul_le_mul_right _ (by omega);omega
theorem Qqk (k acc:Nat) (c:Int) (c0:0≤c) (h:c<128):((acc+(c % 128).toNat*128^k:Nat):Int)=acc+c*128^k:=by
 obtain ⟨m,rfl⟩:=Int.eq_ofNat_of_zero_le c0
 have e:((m:Int) % 128).toNat=m:=by omega
 rw [e];simp
theorem Qql (k acc:Nat) (c:Int):((acc+(c % 128).toNat*128^k:Nat):Int)=acc+c % 128*128^k:=by
 have e:((c % 128).toNat:Int)=c % 128:=by omega
 simp [e]
def rdVal (r:Int × Int × Int):Value:=.tuple #[.int .u64 r.1,.int .i64 r.2.1,.int .i64 r.2.2]
theorem QnT {a b c:Int} {r:Int × Int × Int} (h1:a=r.1) (h2:b=r.2.1) (h3:c=r.2.2):Ending.returned (.tuple #[.int .u64 a,.int .i64 b,.int .i64 c])=.returned (rdVal r):=by
 rw [h1,h2,h3];rfl
theorem Qti (va:Value) (xs:List Int) (w:World) (ha:Bs .u8 w va xs) (hr:∀x∈xs,0≤x∧x≤255) :
  Calls prog 56 #[va] w fun e w'=>e=.returned (rdVal (rd 0 0 xs))∧w=w':=by
 have HA:=Qaa ha;have HR:=Qaa hr;obtain ⟨aa,ca,rfl⟩:=ha.len;obtain ⟨n,hn⟩:∃n,n=xs.length:=⟨_,rfl⟩;rw [←hn] at HA;rw [←hn];have HN:=Qaa hn;obtain ⟨R,hR⟩:∃R,R=rd 0 0 xs:=⟨_,rfl⟩;rw [←hR];have HRD:=Qaa hR;clear ha hr hn hR;go_enter func56,ntmps56;go_wp2
 go_loop [5,10] (fun a i=>∃(k:Nat) (acc:Nat),k≤n∧k≤9∧i=.int .i64 k∧a=.int .u64 acc∧acc<128^k∧rd k acc (xs.drop k)=R) (fun _ i=>n - (intOf i).toNat)
 case atStart=>exact ⟨0,0,by omega,by omega,rfl,rfl,by simp,by simpa using HRD.out.symm⟩
 case round =>
  obtain ⟨k,acc,hk,hk9,rfl,rfl,hacc,hrd⟩:=hrel
  by_cases hlt:k<n
  ·obtain ⟨b,off,cap',e1,hc⟩:=HA.out.at k (by rw [←HN.out];exact hlt)
   have ea:aa=some ⟨b,off,none⟩:=by simp at e1;exact e1.1
   subst ea;clear e1;have hcr:=HR.out (xs.getD k 0) (by rw [Yad,Yaf (by rw [←HN.out];exact hlt)];simp);rw [rd_at xs k _ (by rw [←HN.out];exact hlt)] at hrd;generalize xs.getD k 0=c at hc hcr hrd;have HD:=Qaa hrd;have HACC:=Qaa hacc;clear hrd hacc
   have i0:(0:Int)≤(k:Int):=by omega
   have i1:(k:Int)<(n:Int):=by omega
   by_cases hF:k=9∧1<c
   ·obtain ⟨rfl,h1c⟩:=hF
    have hRR:R=(0,0,3):=by have:=HD.out;rw [if_pos ⟨rfl,h1c⟩] at this;exact this.symm
    subst hRR;go_wp2
    go_ret3
    exact ⟨rfl,rfl⟩
   ·have OS:=Qaa (QnS k acc c hk9 HACC.out hcr.1 hcr.2 (by omega))
    by_cases h128:128≤c
    ·have d9:((k:Int) == 9)=false:=by simp;omega
     go_wp2
     go_round
     case rel =>
      refine ⟨k+1,acc+(c % 128).toNat*128^k,by omega,by omega,by go_num,by rw [OS.out.1],OS.out.2,?_⟩;have:=HD.out;rw [if_neg hF,if_pos h128] at this;rw [Qql k acc c];exact this
     case measure=>simp [intOf];omega
    ·by_cases h0:c=0∧0<k
     ·obtain ⟨rfl,hk0⟩:=h0
      have hRR:R=(0,0,3):=by have:=HD.out;rw [if_neg hF,if_neg h128,if_pos ⟨rfl,hk0⟩] at this;exact this.symm
      subst hRR
      by_cases h9:k=9
      ·subst h9
       go_wp2
       go_ret3
       exact ⟨rfl,rfl⟩
      ·have d9:((k:Int) == 9)=false:=by simp;omega
       have dk:decide (0<(k:Int))=true:=by simp;omega
       go_wp2
       go_ret3
       exact ⟨rfl,rfl⟩
     ·have hRR:R=(acc+c*128^k,(k:Int)+1,0):=by have:=HD.out;rw [if_neg hF,if_neg h128,if_neg h0] at this;exact this.symm
      subst hRR;have VS:=Qaa (Qqk k acc c hcr.1 (by omega))
      by_cases h9:k=9
      ·subst h9
       have hc0:(c == 0)=false:=by simp;omega
       have O9:=Qaa (OS.out.1.trans VS.out);rw [show (2:Int)^(7*9)=9223372036854775808 by decide] at O9;go_wp2
       go_ret3
       exact ⟨QnT O9.out rfl rfl,rfl⟩
      ·have d9:((k:Int) == 9)=false:=by simp;omega
       have O9:=Qaa (OS.out.1.trans VS.out)
       by_cases hc0:c=0
       ·have dk:decide (0<(k:Int))=false:=by simp;omega
        subst hc0;go_wp2
        go_ret3
        exact ⟨QnT (O9.out.trans (by simp)) rfl rfl,rfl⟩
       ·have dc:(c == 0)=false:=by simp;omega
        go_wp2
        go_ret3
        exact ⟨QnT O9.out rfl rfl,rfl⟩
  ·have hkn:k=n:=by omega
   subst hkn
   have hRR:R=(0,0,2):=by rw [←hrd,List.drop_of_length_le (by rw [←HN.out];omega)];rfl
   subst hRR;clear hrd hacc;go_wp2
   go_ret3
   exact ⟨rfl,rfl⟩
theorem Qf8 (va:Value) (xs:List Int) (w:World) {a b c:Int} (h:rd 0 0 xs=(a,b,c)) (ha:Bs .u8 w va xs) (hr:∀x∈xs,0≤x∧x≤255) :
  Calls prog 56 #[va] w fun e w'=>e=.returned (.tuple #[.int .u64 a,.int .i64 b,.int .i64 c])∧w=w':=by
 have:=Qti va xs w ha hr;rw [h] at this;exact this
end Go.Proofs.YtnhapmboienipaaGreatDoor
