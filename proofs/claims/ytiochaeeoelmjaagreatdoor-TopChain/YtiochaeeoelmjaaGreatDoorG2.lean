import Derived.Test.YtiochaeeoelmjaaGreatDoorG1
import Derived.Lib.AppendZerosOnto
namespace Go.Proofs.YtiochaeeoelmjaaGreatDoor
set_option maxHeartbeats 1600000
set_option maxRecDepth 100000
open Go.RowKit _root_.Go.Proofs.Tryz
variable {w w' W:World} {v:Value} {ys xs l:LI} {R n p k g B:Nat} {P:Program} {ls:List (LI)} {E:TypeId}
theorem Lh (n:Int) (w:World) (h0:-9223372036854775808<=n) (h1:n<=9223372036854775807) :
 Calls prog 90 #[.int .i64 n] w λe w'=>e=.returned (.int .u64 (zig n))∧w=w':=by
 go_enter func90,ntmps90;go_wp2
 all_goals go_ret
 all_goals refine⟨YN ?_,rfl⟩
 all_goals (unfold zig;split <;> omega)
theorem Lk (v:Int) (w:World) (h0:0<=v) (h1:v<=18446744073709551615) :
 Calls prog 271 #[.int .u64 v] w λe w'=>e=.returned (.int .i64 (zag v))∧w=w':=by
 go_enter func271,ntmps271;go_wp2
 all_goals go_ret
 all_goals refine⟨YN ?_,rfl⟩
 all_goals (rename_i h;simp at h;unfold zag;split <;> omega)
theorem and7 (x:Nat) (h:x<18446744073709551616):bits .and .u64 (x:Int) 127=((x % 128:Nat):Int):=by
 rw[show (127:Int)=((127:Nat):Int) from rfl,u64_and_nat _ _ h (by omega),nat_mask7]
theorem pX (v:Int) (w:World) (h0:0<=v) (h1:v<=18446744073709551615) :
 Calls prog 57 #[.int .u64 v] w λe w'=>∃v',e=.returned v'∧w'.ownsRow w.heap.size 5 1 v' (gs v.toNat).length ((gs v.toNat).map (Value.int .u8))∧N0 w w':=by
 obtain⟨i0,hi,h8,h9,ha⟩:=info_parts Tryz.infoU8
 have hmk:∀w,(Instr.makeSlice 23 (.int .i64 0) (.int .i64 10)).run prog w=.ok (.slice (some ⟨w.heap.size,0,none⟩) 0 10) (w.alloc (.cells #[.int .u8 0,.int .u8 0,.int .u8 0,.int .u8 0,.int .u8 0,.int .u8 0,.int .u8 0,.int .u8 0,.int .u8 0,.int .u8 0] 5)):=λ_=>by kernel_rfl
 have h5:Hid ((w.alloc (.cells #[.int .u8 0,.int .u8 0,.int .u8 0,.int .u8 0,.int .u8 0,.int .u8 0,.int .u8 0,.int .u8 0,.int .u8 0,.int .u8 0] 5)).ownsRow w.heap.size 5 1 (.slice (some ⟨w.heap.size,0,none⟩) 0 10) 0 []) :=
  World.ownsRow_made w _ 10 Zu (by unfold maxLen;omega) rfl
 have H10:=Qa (Yu (v:=v.toNat) (by omega));go_enter func57,ntmps57;go_wp2
 go_loopw [0,3] (λa o wr=>∃(x k:Nat) (p:LI),a=.int .u64 x∧x<18446744073709551616∧p++gs x=gs v.toNat∧k=p.length∧wr.ownsRow w.heap.size 5 1 o k (p.map (Value.int .u8))∧Below w.heap.size w wr) (λa _ _=>(intOf a).toNat)
 case atStart=>exact⟨v.toNat,0,[],by rw[Int.toNat_of_nonneg h0],by omega,rfl,rfl,h5.o,(Below.refl _ _).alloc Zu _⟩
 case round =>
  obtain⟨x,k,p,rfl,hx,hp,hk,h3,h2⟩:=hrel
  have hk9:k<=9:=by
   have h:=congrArg List.length hp;have:=H10.o;have:=Zc x;rw[Qb] at h;omega
  have HP:=Qa hp;have HK:=Qa hk;have hsz:=h2.size;clear hp hk h5
  by_cases hlt:127<x
  ·have h7:decide (127<(x:Int))=true:=by simp;omega
   have B7:=and7 x hx;obtain⟨r,hr⟩:∃r:Nat,r=x % 128:=⟨_,rfl⟩
   have hr1:r<128:=by omega
   rw[<-hr] at B7;have HR:=Qa hr;clear hr;go_wp2_with (at_builtin;refine wpList_append_lies _ rfl _ _ _ rfl w.heap.size 5 i0 (.int .u8 0) 1 1 underlying23 hi h8 h9 ha rfl (by omega) _ k (p.map (Value.int .u8)) rfl (h3.alloc _) ⟨wr.heap.size,0,none⟩ 1 1 [.int .u8 ((r:Int)+128)] rfl rfl ?c1 ?c2 (by omega) ?c3 ?c4 ?c5 (wr.heap.size+1) (by simp) ?_)
   case c1=>exact cell_one_new _ _ _
   case c2=>intro u hu;simp at hu;subst hu;rfl
   case c3=>unfold maxLen;omega
   case c4=>omega
   case c5=>simp;omega
   intro g cap1 w1 hown1 hgrow hat hg1;have h6:Below w.heap.size w w1:=(h2.alloc h2.size _).grown hgrow (by simp;omega) (λq hq=>(h3.lt q hq).1)
   have h4:w1.ownsRow w.heap.size 5 1 (.slice (some ⟨g,0,none⟩) (k+1) cap1) (k+1) ((p++[(r:Int)+128]).map (Value.int .u8)):=by
    rw[List.map_append];exact hown1
   clear h3 hown1 hgrow hat h2;go_wp2
   go_roundw
   case rel =>
    refine⟨x / 128,k+1,p++[(r:Int)+128],by go_num,by omega,?_,by rw[Qb,<-HK.o];rfl,h4,h6⟩;rw[<-HP.o,WG (v:=x) (by omega),<-HR.o];simp
   case measure=>simp[intOf];omega
  ·have h7:decide (127<(x:Int))=false:=by simp;omega
   go_wp2_with (at_builtin;refine wpList_append_lies _ rfl _ _ _ rfl w.heap.size 5 i0 (.int .u8 0) 1 1 underlying23 hi h8 h9 ha rfl (by omega) _ k (p.map (Value.int .u8)) rfl (h3.alloc _) ⟨wr.heap.size,0,none⟩ 1 1 [.int .u8 (x:Int)] rfl rfl ?c1 ?c2 (by omega) ?c3 ?c4 ?c5 (wr.heap.size+1) (by simp) ?_)
   case c1=>exact cell_one_new _ _ _
   case c2=>intro u hu;simp at hu;subst hu;rfl
   case c3=>unfold maxLen;omega
   case c4=>omega
   case c5=>simp;omega
   intro g cap1 w1 hown1 hgrow hat hg1;have h6:Below w.heap.size w w1:=(h2.alloc h2.size _).grown hgrow (by simp;omega) (λq hq=>(h3.lt q hq).1)
   have h4:Hid (w1.ownsRow w.heap.size 5 1 (.slice (some ⟨g,0,none⟩) (k+1) cap1) (gs v.toNat).length ((gs v.toNat).map (Value.int .u8))):=by
    rw[<-HP.o,UJ (v:=x) (by omega),Qb,<-HK.o,List.map_append];exact hown1
   have hb2:=Qa h6;clear h3 hown1 hgrow hat h2 h6;go_wp2;go_ret;exact⟨_,rfl,h4.o,YW hb2.o⟩
theorem MS (n:Nat) (w:World) (h0:0<n) (h1:n<=140737488355328) :
 Calls prog 53 #[.slice none 0 0,.int .i64 n] w λe w'=>∃G,e=.returned (.slice (some ⟨w.heap.size,0,none⟩) 0 G)∧w'.ownsRow w.heap.size 5 1 (.slice (some ⟨w.heap.size,0,none⟩) 0 G) 0 []∧N0 w w':=by
 obtain⟨i0,hi,hz0,hz1,hz2⟩:=info_parts Tryz.infoU8
 have h3:∀ty,(Builtin.append_ #[23,3] ty #[.slice none 0 0,.int .i64 (n:Int)]).run prog w =
  .ok (.slice (some ⟨w.heap.size,0,none⟩) n (grownCap w n 0 5)) (w.drew.alloc (.cells (Builtin.zeroCells (Value.int .u8 0).cells n++Builtin.zeroCells (Value.int .u8 0).cells (grownCap w n 0 5 - n)) 5)):=λty =>
  Lib.run_append_nil_zeros w 23 3 ty 5 i0 (.int .u8 0) .i64 .i64 underlying23 underlying3 hi hz0 n h0 (by omega) (by omega) (by rw[hz2];omega)
 have hGn:n<=grownCap w n 0 5:=grownCap_ge w _ _ _;have h2:grownCap w n 0 5<=maxLen:=grownCap_le_maxLen w n 0 5 (by unfold maxLen;omega);obtain⟨G,hG⟩:=EX (grownCap w n 0 5);rw[<-hG] at h3 hGn h2
 have hG63:G<=9223372036854775807:=by unfold maxLen at h2;omega
 have HM:=Qa h2
 have d0:decide ((n:Int)<0)=false:=by simp
 have d1:decide (0<(n:Int))=true:=by simp;omega
 obtain⟨cs,h4⟩:=EX (Builtin.zeroCells (Value.int .u8 0).cells n++Builtin.zeroCells (Value.int .u8 0).cells (G - n))
 have hsz:Hid (cs.size=G*1):=by
  have hs:∀q,(Builtin.zeroCells (Value.int .u8 0).cells q).size=q:=λq=>by simp[Builtin.zeroCells,Value.cells]
  simp only[Hid];rw[h4,Array.size_append,hs,hs];omega
 rw[<-h4] at h3;clear hG h2 h4;go_enter func53,ntmps53;go_wp2_with (at_builtin;refine Lib.wpList_append_run _ rfl _ _ _ _ rfl _ _ rfl rfl _ _ (h3 _) ?_);go_ret;exact⟨G,rfl,World.ownsRow_made (w:=w.drew) (base:=w.heap.size) (e:=5) (size:=1) cs G Zu HM.o hsz.o,VG.drew.alloc _⟩
theorem Ka (B:Nat) (va vb:Value) (xs ys:LI) (w:World) (c0:w.cell? ⟨B,0,none⟩=some va) (c1:w.cell? ⟨B,1,none⟩=some vb)
 (ha:Bs .u8 w va xs) (hb:Bs .u8 w vb ys) (na:NoCap va) (nb:NoCap vb) (hp:0<xs.length+ys.length) (hl:xs.length+ys.length<=140737488355328) :
 Calls prog 28 #[.slice (some ⟨B,0,none⟩) 2 2] w λe w'=>∃v',e=.returned v'∧w'.ownsRow w.heap.size 5 1 v' (xs++ys).length ((xs++ys).map (Value.int .u8))∧N0 w w':=by
 obtain⟨i0,hi,h5,h7,h8⟩:=info_parts Tryz.infoU8;have HA:=Qa ha;have HB:=Qa hb;have NA:=Qa na;have NB:=Qa nb;obtain⟨aa,ca,rfl⟩:=ha.len;obtain⟨ab,cb,rfl⟩:=hb.len;obtain⟨n,hn⟩:=EX xs.length;obtain⟨m,hm⟩:=EX ys.length;rw[<-hn] at c0 hp hl HA NA;rw[<-hm] at c1 hp hl HB NB;have HN:=Qa hn;have HM:=Qa hm;have h9:B<w.heap.size:=World.block_lt_of_cell? w _ c0;clear ha hb na nb hn hm;go_enter func28,ntmps28;go_wp2
 go_loop [3,11] (λs i=>(i=.int .i64 0∧s=.int .i64 0)∨(i=.int .i64 1∧s=.int .i64 n)∨(i=.int .i64 2∧s=.int .i64 ((n:Int)+m))) (λ_ i=>2 - (intOf i).toNat)
 case atStart=>exact .inl ⟨rfl,rfl⟩
 case round =>
  rcases hrel with ⟨rfl,rfl⟩ | ⟨rfl,rfl⟩ | ⟨rfl,rfl⟩
  ·have d0:decide ((n:Int)<0)=false:=by simp
   go_wp2
   go_round
   case rel=>exact .inr (.inl ⟨rfl,rfl⟩)
   case measure=>simp[intOf]
  ·have d0:decide ((n:Int)+m<0)=false:=by simp;omega
   go_wp2
   go_round
   case rel=>exact .inr (.inr ⟨rfl,rfl⟩)
   case measure=>simp[intOf]
  ·have GN:=Qa (MS (n+m) w (by omega) (by omega))
   go_wp2_with fail;rw[show ((n:Int)+(m:Int))=((n+m:Nat):Int) by omega];refine GN.o.mono ?_;rintro e w2 ⟨G,rfl,h0,h6⟩;have h2:Below w.heap.size w w2:=h6.low Zu;go_wp2
   go_loopw [6,27] (λo i wr=>Below w.heap.size w wr∧((i=.int .i64 0∧wr.ownsRow w.heap.size 5 1 o 0 [])∨(i=.int .i64 1∧wr.ownsRow w.heap.size 5 1 o n (xs.map (Value.int .u8)))∨(i=.int .i64 2∧wr.ownsRow w.heap.size 5 1 o (n+m) ((xs++ys).map (Value.int .u8))))) (λ_ i _=>2 - (intOf i).toNat)
   case atStart=>exact⟨h2,.inl ⟨rfl,h0⟩⟩
   case round =>
    obtain⟨h1,hr⟩:=hrel;clear h2 h0 h6 GN;have d0:=(h1.cell (p:=⟨B,0,none⟩) h9).trans c0;have d1:=(h1.cell (p:=⟨B,1,none⟩) h9).trans c1;have h3:=h1.size
    rcases hr with ⟨rfl,h0⟩ | ⟨rfl,h0⟩ | ⟨rfl,h0⟩
    ·have HBA:=Qa (HA.o.later h1)
     go_wp2_with (at_builtin;refine Yr _ rfl _ _ _ rfl w.heap.size 5 i0 (.int .u8 0) 1 underlying23 hi h5 h7 h8 rfl _ 0 [] rfl h0 .u8 _ xs rfl HBA.o NA.o ?c3 ?c4 h3 ?_)
     case c3=>rw[<-HN.o];unfold maxLen;omega
     case c4=>rw[<-HN.o];omega
     intro v' w3 hown1 hgrow _ _;rw[<-HN.o] at hown1;have h4:Below w.heap.size w w3:=h1.grown hgrow h3 (λq hq=>(h0.lt q hq).1);clear h0 hgrow;go_wp2
     go_roundw
     case rel=>exact⟨h4,.inr (.inl ⟨rfl,by simpa using hown1⟩)⟩
     case measure=>simp[intOf]
    ·have HBB:=Qa (HB.o.later h1)
     go_wp2_with (at_builtin;refine Yr _ rfl _ _ _ rfl w.heap.size 5 i0 (.int .u8 0) 1 underlying23 hi h5 h7 h8 rfl _ n (xs.map (Value.int .u8)) rfl h0 .u8 _ ys rfl HBB.o NB.o ?c3 ?c4 h3 ?_)
     case c3=>rw[<-HM.o];unfold maxLen;omega
     case c4=>rw[<-HM.o];omega
     intro v' w3 hown1 hgrow _ _;rw[<-HM.o,<-List.map_append] at hown1;have h4:Below w.heap.size w w3:=h1.grown hgrow h3 (λq hq=>(h0.lt q hq).1);clear h0 hgrow;go_wp2
     go_roundw
     case rel=>exact⟨h4,.inr (.inr ⟨rfl,hown1⟩)⟩
     case measure=>simp[intOf]
    ·go_wp2
     go_ret;refine⟨_,rfl,?_,YW h1⟩;rw[Qb,<-HN.o,<-HM.o];exact h0
theorem Ie (va vb:Value) (xs ys:LI) (w:World)
 (ha:Bs .u8 w va xs) (hb:Bs .u8 w vb ys) (na:NoCap va) (nb:NoCap vb) (hp:0<xs.length+ys.length) (hl:xs.length+ys.length<=140737488355328) :
 Calls prog 56 #[va,vb] w λe w'=>∃v',e=.returned v'∧w'.ownsRow w.heap.size 5 1 v' (xs++ys).length ((xs++ys).map (Value.int .u8))∧N0 w w':=by
 have h2:Below w.heap.size w (w.alloc (.cells #[va,vb] 23)):=(Below.refl _ _).alloc Zu _;have CC:=Qa (Ka w.heap.size va vb xs ys (w.alloc (.cells #[va,vb] 23)) (by go_cell) (by go_cell) (ha.later h2) (hb.later h2) na nb hp hl);obtain⟨aa,ca,rfl⟩:=ha.len;obtain⟨ab,cb,rfl⟩:=hb.len;clear ha hb;go_enter func56,ntmps56;go_wp2_with fail;refine CC.o.mono ?_;rintro e w2 ⟨v',rfl,h0,h1⟩
 have F:Hid (w2.ownsRow w.heap.size 5 1 v' (xs++ys).length ((xs++ys).map (Value.int .u8))∧N0 w w2):=by
  refine⟨?_,(VG.alloc _).trans h1 (λ_ _ f=>f)⟩;refine⟨h0.1,?_⟩
  rcases h0.2 with h | ⟨g,cap,cur,e,h,r⟩
  ·exact .inl h
  ·exact .inr ⟨g,cap,cur,e,by simp at h;omega,r⟩
 clear h0 h1;go_wp2;go_ret;exact⟨_,rfl,F.o⟩
theorem UO (va:Value) (xs:LI) (v:Int) (w:World) (ha:Bs .u8 w va xs) (na:NoCap va) (hl:xs.length<=1000000000) (h0:0<=v) (h1:v<=18446744073709551615) :
 Calls prog 35 #[va,.int .u64 v] w λe w'=>∃v',e=.returned v'∧w'.ownsRow w.heap.size 5 1 v' (xs++gs v.toNat).length ((xs++gs v.toNat).map (Value.int .u8))∧N0 w w':=by
 have H10:=Qa (Yu (v:=v.toNat) (by omega));have HP:=Qa (Zc v.toNat);have HA:=Qa ha;obtain⟨aa,ca,rfl⟩:=ha.len;clear ha;go_enter func35,ntmps35;go_wp2_with fail;refine (pX v _ h0 h1).mono ?_;rintro e w1 ⟨v1,rfl,h2,h4⟩;have AP:=Qa (Ie _ v1 xs (gs v.toNat) w1 (HA.o.later (h4.low Zu)) (Bs.of_own h2) na (NoCap.of_own h2) (by have:=HP.o;omega) (by have:=H10.o;omega));have h6:=Qa h4;clear h2 h4;go_wp2_with fail;refine AP.o.mono ?_;rintro e w2 ⟨v',rfl,h3,h5⟩
 have F:Hid (w2.ownsRow w.heap.size 5 1 v' (xs++gs v.toNat).length ((xs++gs v.toNat).map (Value.int .u8))∧N0 w w2):=by
  refine⟨?_,h6.o.trans h5 (λ_ _ f=>f)⟩;refine⟨h3.1,?_⟩
  rcases h3.2 with h | ⟨g,cap,cur,e,h,r⟩
  ·exact .inl h
  ·exact .inr ⟨g,cap,cur,e,by have:=h6.o.size;omega,r⟩
 clear h3 h5;go_wp2;go_ret;exact⟨_,rfl,F.o⟩
theorem rd_at (xs:LI) (k:Nat) (acc:Int) (h:k<xs.length):rd k acc (xs.drop k)=if k=9∧1<xs.getD k 0 then (0,0,3) else if 128<=xs.getD k 0 then rd (k+1) (acc+xs.getD k 0 % 128*128^k) (xs.drop (k+1)) else if xs.getD k 0=0∧0<k then (0,0,3) else (acc+xs.getD k 0*128^k,(k:Int)+1,0):=by
 rw[List.drop_eq_getElem_cons h,KH,Qc,Qh h]
 rfl
theorem ur (k acc:Nat) (c:Int) (hk:k<=9) (hacc:acc<128^k) (c0:0<=c) (c1:c<=255) (h9:k=9->c<=1) :
 bits .or .u64 (acc:Int) (IntKind.u64.wrap (IntKind.u64.wrap (bits .and .u8 c 127)*2^(7*k)))=((acc+(c % 128).toNat*128^k:Nat):Int)∧acc+(c % 128).toNat*128^k<128^(k+1):=by
 obtain⟨m,rfl⟩:=Int.eq_ofNat_of_zero_le c0
 have e:((m:Int) % 128).toNat=m % 128:=by omega
 rw[e,show (127:Int)=((127:Nat):Int) from rfl,u8_and_nat _ _ (by omega) (by omega),nat_mask7]
 have w1:IntKind.u64.wrap ((m % 128:Nat):Int)=((m % 128:Nat):Int):=by rw[IntKind.wrap_u64];omega
 have p1:(2:Nat)^(7*k)=128^k:=by rw[Nat.pow_mul]
 have w2:((m % 128:Nat):Int)*2^(7*k)=((m % 128*128^k:Nat):Int):=by
  rw[<-p1];simp
 have hlt:m % 128*128^k<18446744073709551616:=by
  rcases Nat.lt_or_ge k 9 with h | h
  ·have h1:m % 128*128^k<=127*128^k:=Nat.mul_le_mul_right _ (by omega)
   have h2:128^k<=128^8:=Nat.pow_le_pow_right (by omega) (by omega)
   have h3:(128:Nat)^8=72057594037927936:=by decide
   omega
  ·have hk:k=9:=by omega
   subst hk;have:=h9 rfl
   have h3:(128:Nat)^9=9223372036854775808:=by decide
   have h1:m % 128*128^9<=1*128^9:=Nat.mul_le_mul_right _ (by omega);omega
 have h0:acc<18446744073709551616:=by
  have h2:128^k<=128^9:=Nat.pow_le_pow_right (by omega) (by omega)
  have h3:(128:Nat)^9=9223372036854775808:=by decide
  omega
 have w3:IntKind.u64.wrap ((m % 128*128^k:Nat):Int)=((m % 128*128^k:Nat):Int):=by rw[IntKind.wrap_u64];omega
 rw[w1,w2,w3,u64_or_nat _ _ h0 hlt,Nat.or_comm,nat_join (7*k) _ _ (by rw[p1];exact Nat.mul_mod_left _ _) (by rw[p1];exact hacc),Nat.add_comm];refine⟨rfl,?_⟩;rw[Nat.pow_succ];have h1:m % 128*128^k<=127*128^k:=Nat.mul_le_mul_right _ (by omega);omega
theorem EE (k acc:Nat) (c:Int) (c0:0<=c) (h:c<128):((acc+(c % 128).toNat*128^k:Nat):Int)=acc+c*128^k:=by
 obtain⟨m,rfl⟩:=Int.eq_ofNat_of_zero_le c0
 have e:((m:Int) % 128).toNat=m:=by omega
 rw[e];simp
theorem wT (k acc:Nat) (c:Int):((acc+(c % 128).toNat*128^k:Nat):Int)=acc+c % 128*128^k:=by
 have e:((c % 128).toNat:Int)=c % 128:=by omega
 simp[e]
def rdVal (r:Int × Int × Int):Value:=.tuple #[.int .u64 r.1,.int .i64 r.2.1,.int .i64 r.2.2]
theorem JD {a b c:Int} {r:Int × Int × Int} (h1:a=r.1) (h2:b=r.2.1) (h3:c=r.2.2):Ending.returned (.tuple #[.int .u64 a,.int .i64 b,.int .i64 c])=.returned (rdVal r):=by
 rw[h1,h2,h3];rfl
theorem EJ (va:Value) (xs:LI) (w:World) (ha:Bs .u8 w va xs) (hr:∀x∈xs,0<=x∧x<=255) :
 Calls prog 95 #[va] w λe w'=>e=.returned (rdVal (rd 0 0 xs))∧w=w':=by
 have HA:=Qa ha;have HR:=Qa hr;obtain⟨aa,ca,rfl⟩:=ha.len;obtain⟨n,hn⟩:=EX xs.length;rw[<-hn] at HA;rw[<-hn];have HN:=Qa hn;obtain⟨R,hR⟩:=EX (rd 0 0 xs);rw[<-hR];have HRD:=Qa hR;clear ha hr hn hR;go_enter func95,ntmps95;go_wp2
 go_loop [5,10] (λa i=>∃(k:Nat) (acc:Nat),k<=n∧k<=9∧i=.int .i64 k∧a=.int .u64 acc∧acc<128^k∧rd k acc (xs.drop k)=R) (λ_ i=>n - (intOf i).toNat)
 case atStart=>exact⟨0,0,by omega,by omega,rfl,rfl,by simp,by simpa using HRD.o.symm⟩
 case round =>
  obtain⟨k,acc,hk,hk9,rfl,rfl,h2,h3⟩:=hrel
  by_cases hlt:k<n
  ·obtain⟨b,off,cap',e1,hc⟩:=HA.o.at k (by rw[<-HN.o];exact hlt)
   have ea:aa=some ⟨b,off,none⟩:=by simp at e1;exact e1.1
   subst ea;clear e1;have h4:=HR.o (xs.getD k 0) (by rw[Qc,Qh (by rw[<-HN.o];exact hlt)];simp);rw[rd_at xs k _ (by rw[<-HN.o];exact hlt)] at h3;generalize xs.getD k 0=c at hc h4 h3;have HD:=Qa h3;have h5:=Qa h2;clear h3 h2
   have i0:(0:Int)<=(k:Int):=by omega
   have i1:(k:Int)<(n:Int):=by omega
   by_cases hF:k=9∧1<c
   ·obtain⟨rfl,h1c⟩:=hF
    have h1:R=(0,0,3):=by have:=HD.o;rw[if_pos ⟨rfl,h1c⟩] at this;exact this.symm
    subst h1;go_wp2
    go_ret3
    exact⟨rfl,rfl⟩
   ·have OS:=Qa (ur k acc c hk9 h5.o h4.1 h4.2 (by omega))
    by_cases h128:128<=c
    ·have d9:((k:Int) == 9)=false:=by simp;omega
     go_wp2
     go_round
     case rel =>
      refine⟨k+1,acc+(c % 128).toNat*128^k,by omega,by omega,by go_num,by rw[OS.o.1],OS.o.2,?_⟩;have:=HD.o;rw[if_neg hF,if_pos h128] at this;rw[wT k acc c];exact this
     case measure=>simp[intOf];omega
    ·by_cases h0:c=0∧0<k
     ·obtain⟨rfl,hk0⟩:=h0
      have h1:R=(0,0,3):=by have:=HD.o;rw[if_neg hF,if_neg h128,if_pos ⟨rfl,hk0⟩] at this;exact this.symm
      subst h1
      by_cases h9:k=9
      ·subst h9
       go_wp2
       go_ret3
       exact⟨rfl,rfl⟩
      ·have d9:((k:Int) == 9)=false:=by simp;omega
       have dk:decide (0<(k:Int))=true:=by simp;omega
       go_wp2
       go_ret3
       exact⟨rfl,rfl⟩
     ·have h1:R=(acc+c*128^k,(k:Int)+1,0):=by have:=HD.o;rw[if_neg hF,if_neg h128,if_neg h0] at this;exact this.symm
      subst h1;have VS:=Qa (EE k acc c h4.1 (by omega))
      by_cases h9:k=9
      ·subst h9
       have h6:(c == 0)=false:=by simp;omega
       have O9:=Qa (OS.o.1.trans VS.o);rw[show (2:Int)^(7*9)=9223372036854775808 by decide] at O9;go_wp2
       go_ret3
       exact⟨JD O9.o rfl rfl,rfl⟩
      ·have d9:((k:Int) == 9)=false:=by simp;omega
       have O9:=Qa (OS.o.1.trans VS.o)
       by_cases h6:c=0
       ·have dk:decide (0<(k:Int))=false:=by simp;omega
        subst h6;go_wp2
        go_ret3
        exact⟨JD (O9.o.trans (by simp)) rfl rfl,rfl⟩
       ·have dc:(c == 0)=false:=by simp;omega
        go_wp2
        go_ret3
        exact⟨JD O9.o rfl rfl,rfl⟩
  ·have hkn:k=n:=by omega
   subst hkn
   have h1:R=(0,0,2):=by rw[<-h3,List.drop_of_length_le (by rw[<-HN.o];omega)];rfl
   subst h1;clear h3 h2;go_wp2
   go_ret3
   exact⟨rfl,rfl⟩
theorem XO (va:Value) (xs:LI) (w:World) {a b c:Int} (h:rd 0 0 xs=(a,b,c)) (ha:Bs .u8 w va xs) (hr:∀x∈xs,0<=x∧x<=255) :
 Calls prog 95 #[va] w λe w'=>e=.returned (.tuple #[.int .u64 a,.int .i64 b,.int .i64 c])∧w=w':=by
 have:=EJ va xs w ha hr;rw[h] at this;exact this
structure CurAt (T:TypeId) (w:World) (R:Nat) (v:Value) (ys:LI):Prop where
 bs:Bs .u8 w v ys
 rng:∀y∈ys,0<=y∧y<=255
 cell:w.heap[R]? = some (.cells #[v] T (0,0))
 ap:v.ownBlock≠some R
 len:ys.length<=1000000000000
theorem CurAt.keep {T:TypeId} (h:CurAt T w R v ys) {S:Nat->Prop} (ho:Only S w w') (hR:¬S R) (hv:∀k,v.ownBlock=some k->¬S k):CurAt T w' R v ys :=
 ⟨h.bs.keep ho hv,h.rng,ho.heap h.cell hR,h.ap,h.len⟩
theorem CurAt.form {T:TypeId} (h:CurAt T w R v ys):∃ao cap,v=.slice ao ys.length cap:=by
 obtain⟨ao,cap,rfl,_⟩:=h.bs;exact⟨ao,cap,rfl⟩
theorem UE {T:TypeId} (h:w.heap[R]? = some (.cells #[v] T (0,0))):w.cell? ⟨R,0,none⟩=some v∧w.frozen? ⟨R,0,none⟩=false :=
 ⟨by simp[World.cell?,h],by simp[World.frozen?,h]⟩
theorem Gc {T:TypeId} (h:w.heap[R]? = some (.cells #[v] T (0,0))) (u:Value):(w.setCell ⟨R,0,none⟩ u).heap[R]? = some (.cells #[u] T (0,0)):=by
 have h0:=heap_setCell_same w R 0 #[v] T u h
 simpa using h0
theorem Uu (v:Value) (ys:LI) (w:World) (h:Bs .u8 w v ys) (hr:∀y∈ys,0<=y∧y<=255) (hl:ys.length<=1000000000000) :
 Calls prog 59 #[v] w λe w'=>∃R v',e=.returned (.pointer (some ⟨R,0,none⟩))∧CurAt 146 w' R v' ys∧N0 w w'∧w.heap.size<=R∧R<w'.heap.size∧(∀k,v'.ownBlock=some k->w.heap.size<=k∧k<w'.heap.size):=by
 have HB:=Qa h;have HR:=Qa hr;clear h hr;go_enter func59,ntmps59;go_wp2_with fail;refine (Kb v ys _ HB.o (by omega)).mono ?_;rintro e w1 ⟨v',rfl,h0,ho⟩;have h1:=Bs.of_own h0;have h2:=h0.lt;obtain⟨ao,cap,rfl,_⟩:=id h1;have HBS:=Qa h1;have h3:=Qa h2;have HO:=Qa ho;clear h0 ho h1 h2;go_wp2;go_ret;have oa:N0 w1 (w1.alloc (.cells #[.slice ao ys.length cap] 146)):=VG.alloc _;refine⟨w1.heap.size,.slice ao ys.length cap,rfl,⟨HBS.o.keep oa (λ_ _ f=>f),HR.o,heap_alloc_new w1 _,?_,hl⟩,HO.o.trans oa (λ_ _ f=>f),HO.o.size,by simp,?_⟩
 ·intro e
  have:=(h3.o _ e).2;omega
 ·intro k hk
  have:=h3.o k hk;simp;omega
theorem gh (R m cap:Nat) (ao:Option Addr) (w:World) (h0:w.cell? ⟨R,0,none⟩=some (.slice ao m cap)) :
 Calls prog 96 #[.pointer (some ⟨R,0,none⟩)] w λe w'=>e=.returned (.int .i64 m)∧w=w':=by
 go_enter func96,ntmps96;go_wp2;go_ret;exact⟨rfl,rfl⟩
theorem Hg (ao:Option Addr) (m c m' c':Nat):(Value.slice ao m c).ownBlock=(Value.slice ao m' c').ownBlock:=by cases ao <;> rfl
theorem AI (R n m cap:Nat) (ao:Option Addr) (w:World) (h0:w.cell? ⟨R,0,none⟩=some (.slice ao m cap)) (f0:w.frozen? ⟨R,0,none⟩=false) (h1:n<=m) (h2:m<=cap) :
 Calls prog 97 #[.pointer (some ⟨R,0,none⟩),.int .i64 n] w λe w'=>e=.returned (.slice ao n cap)∧w'=w.setCell ⟨R,0,none⟩ (.slice (if cap=n then ao else ao.map (λx=>x.add n)) (m - n) (cap - n)):=by
 have i0:(0:Int)<=(n:Int):=by omega
 have i1:(n:Int)<=(m:Int):=by omega
 have i2:(n:Int)<=(cap:Int):=by omega
 by_cases hc:cap=n
 ·subst hc
  go_enter func97,ntmps97;go_wp2;go_ret;simp
 ·go_enter func97,ntmps97
  go_wp2;go_ret;simp
theorem XK (h:CurAt 146 w R v ys) (n:Nat) (hn:n<=ys.length) :
 Calls prog 97 #[.pointer (some ⟨R,0,none⟩),.int .i64 n] w λe w'=>∃ao cap v2,e=.returned (.slice ao n cap)∧Bs .u8 w' (.slice ao n cap) (ys.take n)∧(Value.slice ao n cap).ownBlock=v.ownBlock∧CurAt 146 w' R v2 (ys.drop n)∧v2.ownBlock=v.ownBlock∧Only (λk=>k=R) w w':=by
 obtain⟨ao,cap,rfl,h0,hr⟩:=id h.bs;refine (AI R n ys.length cap ao w (UE h.cell).1 (UE h.cell).2 hn h0).mono ?_;rintro e w' ⟨rfl,rfl⟩;have ho:Only (λk=>k=R) w (w.setCell ⟨R,0,none⟩ (.slice (if cap=n then ao else ao.map (λx=>x.add n)) (ys.length - n) (cap - n))):=Only.setCell (S:=λk=>k=R) (p:=⟨R,0,none⟩) VG (λ_=>rfl) _
 have h1:(Value.slice (if cap=n then ao else ao.map (λx=>x.add n)) (ys.length - n) (cap - n)).ownBlock=(Value.slice ao ys.length cap).ownBlock:=by
  split
  ·exact Hg _ _ _ _ _
  ·exact xd _ _ _ _ _ _
 have h2:∀k,(Value.slice ao ys.length cap).ownBlock=some k->¬k=R:=λk hk e=>h.ap (by rw[<-e];exact hk)
 have hd:Bs .u8 w (.slice (if cap=n then ao else ao.map (λx=>x.add n)) (ys.length - n) (cap - n)) (ys.drop n):=by
  split
  ·rename_i hc
   subst hc;rw[Nat.sub_self];exact h.bs.cut0 hn
  ·exact h.bs.cut hn
 refine⟨ao,cap,_,rfl,(h.bs.head hn).keep ho (λk hk=>h2 k (by rw[Hg ao ys.length cap n cap];exact hk)),Hg _ _ _ _ _,⟨hd.keep ho (λk hk=>h2 k (by rw[<-h1];exact hk)),λy hy=>h.rng y (List.mem_of_mem_drop hy),Gc h.cell _,by rw[h1];exact h.ap,?_⟩,h1,ho⟩;have:=h.len;rw[Qm];omega
theorem V0 (h:CurAt 146 w R v ys) :
 Calls prog 96 #[.pointer (some ⟨R,0,none⟩)] w λe w'=>e=.returned (.int .i64 ys.length)∧w=w':=by
 obtain⟨ao,cap,rfl⟩:=h.form;exact gh R ys.length cap ao w (UE h.cell).1
theorem Vw (h:CurAt 146 w R v ys) :
 Calls prog 189 #[.pointer (some ⟨R,0,none⟩)] w λe w'=>e=.returned (.int .i64 ys.length)∧w=w':=by
 have A:=Qa (V0 h);clear h;go_enter func189,ntmps189;go_wp2_with fail;refine A.o.mono ?_;rintro e w1 ⟨rfl,rfl⟩;go_wp2;go_ret;exact⟨rfl,rfl⟩
def endV (ys:LI):Int:=if 0<ys.length then 3 else 0
theorem GC (h:CurAt 146 w R v ys) :
 Calls prog 64 #[.pointer (some ⟨R,0,none⟩)] w λe w'=>e=.returned (.int .i64 (endV ys))∧w=w':=by
 have A:=Qa (V0 h);clear h
 by_cases h0:0<ys.length
 ·have d0:decide (0<(ys.length:Int))=true:=by simp;omega
  have HE:Hid (endV ys=3):=if_pos h0;go_enter func64,ntmps64;go_wp2_with fail;refine A.o.mono ?_;rintro e w1 ⟨rfl,rfl⟩;go_wp2;go_ret;exact⟨by rw[HE.o];rfl,rfl⟩
 ·have d0:decide (0<(ys.length:Int))=false:=Qi (by omega)
  have HE:Hid (endV ys=0):=if_neg h0;go_enter func64,ntmps64;go_wp2_with fail;refine A.o.mono ?_;rintro e w1 ⟨rfl,rfl⟩;go_wp2;go_ret;exact⟨by rw[HE.o];rfl,rfl⟩
theorem Tz (R:Nat) (n:Int) (w:World) (h:n<0):Calls prog 99 #[.pointer (some ⟨R,0,none⟩),.int .i64 n] w λe w'=>e=.returned (.tuple #[.slice none 0 0,.int .i64 1])∧w=w':=by
 go_enter func99,ntmps99;go_wp2;go_ret2;exact⟨rfl,rfl⟩
theorem Jp (h:CurAt 146 w R v ys) (n:Int) (h0:0<=n) (h1:(ys.length:Int)<n) :
 Calls prog 99 #[.pointer (some ⟨R,0,none⟩),.int .i64 n] w λe w'=>e=.returned (.tuple #[.slice none 0 0,.int .i64 2])∧w=w':=by
 have A:=Qa (V0 h);clear h
 have d0:decide (n<0)=false:=by simp;omega
 go_enter func99,ntmps99;go_wp2_with fail;refine A.o.mono ?_;rintro e w1 ⟨rfl,rfl⟩;go_wp2;go_ret2;exact⟨rfl,rfl⟩
theorem Gp (h:CurAt 146 w R v ys) (n:Nat) (h1:n<=ys.length) :
 Calls prog 99 #[.pointer (some ⟨R,0,none⟩),.int .i64 n] w λe w'=>∃ao cap v2,e=.returned (.tuple #[.slice ao n cap,.int .i64 0])∧Bs .u8 w' (.slice ao n cap) (ys.take n)∧(Value.slice ao n cap).ownBlock=v.ownBlock∧CurAt 146 w' R v2 (ys.drop n)∧v2.ownBlock=v.ownBlock∧Only (λk=>k=R) w w':=by
 have A:=Qa (V0 h);have B:=Qa (XK h n h1);clear h
 have d0:decide ((n:Int)<0)=false:=by simp
 have d1:decide ((ys.length:Int)<(n:Int))=false:=by simp;omega
 go_enter func99,ntmps99;go_wp2_with fail;refine A.o.mono ?_;rintro e w1 ⟨rfl,rfl⟩;go_wp2_with fail;refine B.o.mono ?_;rintro e w1 ⟨ao,cap,v2,rfl,hr⟩;have HR:=Qa hr;clear hr;go_wp2;go_ret2;exact⟨ao,cap,v2,rfl,HR.o⟩
theorem Wb (N:Nat):∀k,(Value.slice none 0 0).ownBlock=some k->N<=k:=λk hk=>by cases hk
def num (l:LI):Nat:=l.foldl (λa y=>256*a+y.toNat) 0
theorem Xt (l:LI) (y:Int):num (l++[y])=256*num l+y.toNat:=by simp[num]
theorem Wx (l:LI) (hr:∀y∈l,0<=y∧y<=255):num l<256^l.length:=by
 induction h:l.length generalizing l with
 | zero =>
  have:l=[]:=List.eq_nil_of_length_eq_zero h;subst this;simp[num]
 | succ n ih =>
  have h1:l≠[]:=by intro h0;subst h0;simp at h
  obtain⟨t,b,rfl⟩:∃t b,l=t++[b]:=⟨l.dropLast,l.getLast h1,(List.dropLast_concat_getLast h1).symm⟩;have:=ih t (λy hy=>hr y (by simp[hy])) (by simp at h;omega);have hb:=hr b (by simp);rw[Xt,Nat.pow_succ];omega
theorem UX (l:LI) (k:Nat) (h:k<l.length):l.take (k+1)=l.take k++[l.getD k 0]:=by
 rw[List.take_succ_eq_append_getElem h,Qc,Qh h];rfl
theorem Fo (h:k<=7):256^k<=72057594037927936:=by
 have h1:256^k<=256^7:=Nat.pow_le_pow_right (by omega) h
 have h2:(256:Nat)^7=72057594037927936:=by decide
 omega
theorem wH (zs:LI) (k:Nat) (hr:∀y∈zs,0<=y∧y<=255) (h8:zs.length<=8) (h:k<zs.length) :
 num (zs.take k)<72057594037927936∧bits .or .u64 ((num (zs.take k):Int)*256) (zs.getD k 0)=(num (zs.take (k+1)):Int):=by
 have hl:=Wx (zs.take k) (λy hy=>hr y (List.mem_of_mem_take hy));rw[Qg,Nat.min_eq_left (by omega)] at hl;have hp:=Fo (k:=k) (by omega);have hy:=hr (zs.getD k 0) (by rw[Qc,Qh h];simp);rw[UX zs k h,Xt];generalize zs.getD k 0=y at hy;generalize num (zs.take k)=a at hl;obtain⟨m,rfl⟩:=Int.eq_ofNat_of_zero_le hy.1
 have e2:((a:Int)*256)=((256*a:Nat):Int):=by omega
 refine⟨by omega,?_⟩;rw[e2,u64_or_nat _ _ (by omega) (by omega),nat_join 8 _ _ (by omega) (by omega),Int.toNat_natCast]
def sByte (ys:LI):Int × Nat × Int:=if ys.length=0 then (0,0,2) else (ys.getD 0 0,1,0)
def Q7 (n:Int) (ys:LI):LI × Nat × Int:=if n<0 then ([],0,1) else if (ys.length:Int)<n then ([],0,2) else (ys.take n.toNat,n.toNat,0)
def QW (n:Int) (ys:LI):Int × Nat × Int:=if n<0∨8<n then (0,0,1) else if (ys.length:Int)<n then (0,0,2) else (num (ys.take n.toNat),n.toNat,0)
def Qd (ys:LI):Int × Nat × Int:=((rd 0 0 ys).1,(rd 0 0 ys).2.1.toNat,(rd 0 0 ys).2.2)
def Qp (most:Int) (ys:LI):LI × Nat × Int :=
 if most<0 then ([],0,1) else if (Qd ys).2.2≠0 then ([],0,(Qd ys).2.2) else if most<(Qd ys).1 then ([],0,4)
 else if (ys.length:Int) - (Qd ys).2.1<(Qd ys).1 then ([],0,2) else ((ys.drop (Qd ys).2.1).take (Qd ys).1.toNat,(Qd ys).2.1+(Qd ys).1.toNat,0)
theorem XH (ys:LI) (hr:∀y∈ys,0<=y∧y<=255):(∃c,rd 0 0 ys=(0,0,c)∧(c=2∨c=3))∨(∃a k:Nat,rd 0 0 ys=((a:Int),(k:Int),0)∧1<=k∧k<=ys.length∧k<=10∧a<18446744073709551616∧gs a=ys.take k):=by
 obtain⟨r,n,c,h⟩:∃r n c,rd 0 0 ys=(r,n,c):=⟨_,_,_,rfl⟩
 rcases rT ys 0 0 with h0 | ⟨h1,h2,h3⟩
 ·right
  rw[h] at h0;simp at h0;subst h0;obtain⟨a,k,e1,e2,k1,k2,hg,_,hv⟩:=rd_ok ys 0 0 r n (by omega) hr h;simp at e1 e2 hv;subst e1;subst e2;refine⟨a,k,h,k1,k2,?_,hv,hg⟩;have h10:=Yu (v:=a) hv;rw[hg,Qg] at h10;omega
 ·left
  rw[h] at h1 h2 h3;simp at h1 h2 h3;subst h1;subst h2;exact⟨c,h,h3⟩
theorem Ur (h:CurAt 146 w R v ys) :
 Calls prog 216 #[.pointer (some ⟨R,0,none⟩)] w λe w'=>e=.returned (.tuple #[.int .u8 (sByte ys).1,.int .i64 (sByte ys).2.2]) ∧
  ∃v2,CurAt 146 w' R v2 (ys.drop (sByte ys).2.1)∧v2.ownBlock=v.ownBlock∧Only (λk=>k=R) w w':=by
 by_cases h0:ys.length=0
 ·have HS:Hid (sByte ys=(0,0,2)):=if_pos h0
  have A:=Qa (Jp h 1 (by omega) (by omega));have HC:=Qa h;clear h;go_enter func216,ntmps216;go_wp2_with fail;refine A.o.mono ?_;rintro e w1 ⟨rfl,rfl⟩;go_wp2;go_ret2;rw[HS.o];exact⟨rfl,v,HC.o,rfl,VG⟩
 ·have HS:Hid (sByte ys=(ys.getD 0 0,1,0)):=if_neg h0
  have A:=Qa (Gp h 1 (by omega));clear h;go_enter func216,ntmps216;go_wp2_with fail;refine A.o.mono ?_;rintro e w1 ⟨ao,cap,v2,rfl,hb,_,hc,ho,h1⟩;obtain⟨b,off,cap',e1,hx⟩:=hb.at 0 (by rw[Qg];omega)
  have ea:ao=some ⟨b,off,none⟩:=by simp at e1;exact e1.1
  subst ea;clear e1
  have hg:(ys.take 1).getD 0 0=ys.getD 0 0:=by
   rw[Qc,Qc,List.getElem?_take,if_pos (by omega)]
  rw[hg,Nat.add_zero] at hx;generalize ys.getD 0 0=y at hx HS;have HR:=Qa (Vz hc (Vz ho h1));clear hb hc ho h1 A;go_wp2;go_ret2;rw[HS.o];exact⟨rfl,v2,HR.o⟩
theorem KG (h:CurAt 146 w R v ys) (n:Int) :
 Calls prog 186 #[.pointer (some ⟨R,0,none⟩),.int .i64 n] w λe w'=>e=.returned (.tuple #[.int .u64 (QW n ys).1,.int .i64 (QW n ys).2.2]) ∧
  ∃v2,CurAt 146 w' R v2 (ys.drop (QW n ys).2.1)∧v2.ownBlock=v.ownBlock∧Only (λk=>k=R) w w':=by
 by_cases h8:8<n
 ·have HS:Hid (QW n ys=(0,0,1)):=if_pos (.inr h8)
  have HC:=Qa h;clear h;go_enter func186,ntmps186;go_wp2;go_ret2;rw[HS.o];exact⟨rfl,v,HC.o,rfl,VG⟩
 have d8:decide (8<n)=false:=Qi h8
 by_cases h0:n<0
 ·have HS:Hid (QW n ys=(0,0,1)):=if_pos (.inl h0)
  have A:=Qa (Tz R n w h0);have HC:=Qa h;clear h;go_enter func186,ntmps186;go_wp2_with fail;refine A.o.mono ?_;rintro e w1 ⟨rfl,rfl⟩;go_wp2;go_ret2;rw[HS.o];exact⟨rfl,v,HC.o,rfl,VG⟩
 obtain⟨n,rfl⟩:=Int.eq_ofNat_of_zero_le (Int.not_lt.1 h0)
 by_cases hs:(ys.length:Int)<(n:Int)
 ·have HS:Hid (QW n ys=(0,0,2)):=by
   simp only[Hid,QW];rw[if_neg (by omega),if_pos hs]
  have A:=Qa (Jp h n (by omega) hs);have HC:=Qa h;clear h;go_enter func186,ntmps186;go_wp2_with fail;refine A.o.mono ?_;rintro e w1 ⟨rfl,rfl⟩;go_wp2;go_ret2;rw[HS.o];exact⟨rfl,v,HC.o,rfl,VG⟩
 ·have HS:Hid (QW n ys=((num (ys.take n):Int),n,0)):=by
   simp only[Hid,QW];rw[if_neg (by omega),if_neg hs]
   rfl
  have A:=Qa (Gp h n (by omega))
  have h3:Hid (∀y∈ys.take n,0<=y∧y<=255):=λy hy=>h.rng y (List.mem_of_mem_take hy)
  have h1:Hid ((ys.take n).length=n):=by simp only[Hid,Qg];omega
  clear h;go_enter func186,ntmps186;go_wp2_with fail;refine A.o.mono ?_;rintro e w1 ⟨ao,cap,v2,rfl,hb,_,hc,ho,h4⟩;have HB:=Qa hb;have HR:=Qa (Vz hc (Vz ho h4));clear hb hc ho h4 A;generalize ys.take n=zs at HB h3 h1 HS;go_wp2
  go_loop [8,24] (λa i=>∃k:Nat,k<=n∧i=.int .i64 k∧a=.int .u64 (num (zs.take k))) (λ_ i=>n - (intOf i).toNat)
  case atStart=>exact⟨0,Nat.zero_le _,rfl,rfl⟩
  case round =>
   obtain⟨k,hk,rfl,rfl⟩:=hrel
   by_cases hlt:k<n
   ·obtain⟨b,off,cap',e1,hx⟩:=HB.o.at k (by rw[h1.o];exact hlt)
    have ea:ao=some ⟨b,off,none⟩:=by simp at e1;exact e1.1
    subst ea;clear e1;obtain⟨ha,h2⟩:=wH zs k h3.o (by rw[h1.o];omega) (by rw[h1.o];exact hlt);have hy:=h3.o (zs.getD k 0) (by rw[Qc,Qh (by rw[h1.o];exact hlt)];simp);generalize zs.getD k 0=y at hx h2 hy
    have i0:(0:Int)<=(k:Int):=by omega
    have i1:(k:Int)<(n:Int):=by omega
    have h5:=Qa h2
    have hsh:(num (zs.take k):Int)*256<=18446744073709551615:=by omega
    generalize num (zs.take k)=a at h5 ha hsh;clear h2;go_wp2
    go_round
    case rel=>exact⟨k+1,by omega,by go_num,by rw[h5.o]⟩
    case measure=>simp[intOf];omega
   ·have hkn:k=n:=by omega
    subst hkn;go_wp2;go_ret2;rw[HS.o,List.take_of_length_le (by rw[h1.o];omega)];exact⟨rfl,v2,HR.o⟩
theorem YF (h:CurAt 146 w R v ys) :
 Calls prog 214 #[.pointer (some ⟨R,0,none⟩)] w λe w'=>e=.returned (.tuple #[.int .u64 (Qd ys).1,.int .i64 (Qd ys).2.2]) ∧
  ∃v2,CurAt 146 w' R v2 (ys.drop (Qd ys).2.1)∧v2.ownBlock=v.ownBlock∧Only (λk=>k=R) w w':=by
 obtain⟨ao,cap,rfl⟩:=h.form;have c0:=(UE h.cell).1
 rcases XH ys h.rng with ⟨c,hrd,hc⟩ | ⟨a,k,hrd,_,hk,_,_,_⟩
 ·have HS:Hid (Qd ys=(0,0,c)):=by simp only[Hid,Qd];rw[hrd];rfl
  have A:=Qa (XO _ ys w hrd h.bs h.rng);have HC:=Qa h
  have dc:(c != 0)=true:=by simp;omega
  clear h hrd;go_enter func214,ntmps214;go_wp2_with fail;refine A.o.mono ?_;rintro e w1 ⟨rfl,rfl⟩;go_wp2;go_ret2;rw[HS.o];exact⟨rfl,_,HC.o,rfl,VG⟩
 ·have HS:Hid (Qd ys=((a:Int),k,0)):=by simp only[Hid,Qd];rw[hrd];rfl
  have A:=Qa (XO _ ys w hrd h.bs h.rng);have B:=Qa (XK h k hk);clear h hrd;go_enter func214,ntmps214;go_wp2_with fail;refine A.o.mono ?_;rintro e w1 ⟨rfl,rfl⟩;go_wp2_with fail;refine B.o.mono ?_;rintro e w1 ⟨ao',cap',v2,rfl,_,_,hc,ho,h0⟩;have HR:=Qa (Vz hc (Vz ho h0));clear hc ho h0 A B c0;go_wp2;go_ret2;rw[HS.o];exact⟨rfl,v2,HR.o⟩
theorem LZ (h:CurAt 146 w R v ys) (n:Int) :
 Calls prog 63 #[.pointer (some ⟨R,0,none⟩),.int .i64 n] w λe w'=>∃v1,e=.returned (.tuple #[v1,.int .i64 (Q7 n ys).2.2])∧w'.ownsRow w.heap.size 5 1 v1 (Q7 n ys).1.length ((Q7 n ys).1.map (Value.int .u8)) ∧
  ∃v2,CurAt 146 w' R v2 (ys.drop (Q7 n ys).2.1)∧v2.ownBlock=v.ownBlock∧Only (λk=>k=R) w w':=by
 by_cases h0:n<0
 ·have HS:Hid (Q7 n ys=([],0,1)):=if_pos h0
  have A:=Qa (Tz R n w h0);have HC:=Qa h;clear h;go_enter func63,ntmps63;go_wp2_with fail;refine A.o.mono ?_;rintro e w1 ⟨rfl,rfl⟩;go_wp2;go_ret2;rw[HS.o];exact⟨.slice none 0 0,rfl,Xh,v,HC.o,rfl,VG⟩
 obtain⟨n,rfl⟩:=Int.eq_ofNat_of_zero_le (Int.not_lt.1 h0)
 by_cases hs:(ys.length:Int)<(n:Int)
 ·have HS:Hid (Q7 n ys=([],0,2)):=by
   simp only[Hid,Q7];rw[if_neg h0,if_pos hs]
  have A:=Qa (Jp h n (by omega) hs);have HC:=Qa h;clear h;go_enter func63,ntmps63;go_wp2_with fail;refine A.o.mono ?_;rintro e w1 ⟨rfl,rfl⟩;go_wp2;go_ret2;rw[HS.o];exact⟨.slice none 0 0,rfl,Xh,v,HC.o,rfl,VG⟩
 ·have HS:Hid (Q7 n ys=(ys.take n,n,0)):=by
   simp only[Hid,Q7];rw[if_neg h0,if_neg hs]
   rfl
  have A:=Qa (Gp h n (by omega));have hlen:=h.len;have hRw:R<w.heap.size:=(Array.getElem?_eq_some_iff.1 h.cell).1;clear h;go_enter func63,ntmps63;go_wp2_with fail;refine A.o.mono ?_;rintro e w1 ⟨ao,cap,v2,rfl,hb,_,hc,ho,h3⟩;have B:=Qa (Kb _ _ w1 hb (by rw[Qg];omega));have HR:=Qa (Vz hc (Vz ho h3));clear hb hc ho h3 A;go_wp2_with fail;refine B.o.mono ?_;rintro e w2 ⟨v1,rfl,h2,h1⟩
  have F:Hid (w2.ownsRow w.heap.size 5 1 v1 (ys.take n).length ((ys.take n).map (Value.int .u8))∧CurAt 146 w2 R v2 (ys.drop n)∧v2.ownBlock=v.ownBlock∧Only (λk=>k=R) w w2):=by
   obtain⟨hc,ho,h3⟩:=HR.o;exact⟨Qr h2 h3.size,hc.keep h1 (λf=>f) (λ_ _ f=>f),ho,h3.trans h1 (λ_ _ f=>f.elim)⟩
  clear h2 h1 B HR;go_wp2;go_ret2;rw[HS.o];exact⟨v1,rfl,F.o.1,v2,F.o.2⟩
theorem Wg (h:CurAt 146 w R v ys) (n:Int) :
 Calls prog 63 #[.pointer (some ⟨R,0,none⟩),.int .i64 n] w λe w'=>∃v1,e=.returned (.tuple #[v1,.int .i64 (Q7 n ys).2.2])∧Bs .u8 w' v1 (Q7 n ys).1∧NoCap v1∧(∀k,v1.ownBlock=some k->w.heap.size<=k) ∧
  ∃v2,CurAt 146 w' R v2 (ys.drop (Q7 n ys).2.1)∧v2.ownBlock=v.ownBlock∧Only (λk=>k=R) w w' :=
 (LZ h n).mono λ_ _ ⟨v1,e,own,r⟩=>⟨v1,e,Bs.of_own own,NoCap.of_own own,λk hk=>(own.lt k hk).1,r⟩
theorem VK (h:CurAt 146 w R v ys) (most:Int) (hm:most<=9223372036854775807) :
 Calls prog 61 #[.pointer (some ⟨R,0,none⟩),.int .i64 most] w λe w'=>∃v1,e=.returned (.tuple #[v1,.int .i64 (Qp most ys).2.2])∧Bs .u8 w' v1 (Qp most ys).1∧NoCap v1∧(∀k,v1.ownBlock=some k->w.heap.size<=k) ∧
  ∃v2,CurAt 146 w' R v2 (ys.drop (Qp most ys).2.1)∧v2.ownBlock=v.ownBlock∧Only (λk=>k=R) w w':=by
 by_cases h0:most<0
 ·have HS:Hid (Qp most ys=([],0,1)):=if_pos h0
  have HC:=Qa h;clear h;go_enter func61,ntmps61;go_wp2;go_ret2;rw[HS.o];exact⟨.slice none 0 0,rfl,Bs.nil _ _,NoCap.nil,Wb _,v,HC.o,rfl,VG⟩
 have d0:decide (most<0)=false:=Qi h0;obtain⟨ao,cap,rfl⟩:=h.form;have c0:=(UE h.cell).1;have hlen:=h.len
 rcases XH ys h.rng with ⟨c,hrd,hc⟩ | ⟨a,k,hrd,hk1,hk,_,ha,_⟩
 ·have HV:Qd ys=(0,0,c):=by simp only[Qd];rw[hrd];rfl
  have HS:Hid (Qp most ys=([],0,c)):=by
   simp only[Hid,Qp];rw[if_neg h0,HV,if_pos (by simp;omega)]
  have A:=Qa (XO _ ys w hrd h.bs h.rng);have HC:=Qa h
  have dc:(c != 0)=true:=by simp;omega
  clear h hrd HV;go_enter func61,ntmps61;go_wp2_with fail;refine A.o.mono ?_;rintro e w1 ⟨rfl,rfl⟩;go_wp2;go_ret2;rw[HS.o];exact⟨.slice none 0 0,rfl,Bs.nil _ _,NoCap.nil,Wb _,_,HC.o,rfl,VG⟩
 ·have HV:Qd ys=((a:Int),k,0):=by simp only[Qd];rw[hrd];rfl
  have A:=Qa (XO _ ys w hrd h.bs h.rng)
  by_cases h4:most<(a:Int)
  ·have HS:Hid (Qp most ys=([],0,4)):=by
    simp only[Hid,Qp];rw[if_neg h0,HV,if_neg (by simp),if_pos h4]
   have HC:=Qa h;clear h hrd HV;have d4:decide (most<(a:Int))=true:=Qe h4;go_enter func61,ntmps61;go_wp2_with fail;refine A.o.mono ?_;rintro e w1 ⟨rfl,rfl⟩;go_wp2;go_ret2;rw[HS.o];exact⟨.slice none 0 0,rfl,Bs.nil _ _,NoCap.nil,Wb _,_,HC.o,rfl,VG⟩
  have d4:decide (most<(a:Int))=false:=Qi h4;have L:=Qa (V0 h)
  by_cases h2:(ys.length:Int) - k<(a:Int)
  ·have HS:Hid (Qp most ys=([],0,2)):=by
    simp only[Hid,Qp];rw[if_neg h0,HV,if_neg (by simp),if_neg h4,if_pos h2]
   have HC:=Qa h;clear h hrd HV;have d2:decide ((ys.length:Int) - k<(a:Int))=true:=Qe h2;go_enter func61,ntmps61;go_wp2_with fail;refine A.o.mono ?_;rintro e w1 ⟨rfl,rfl⟩;go_wp2_with fail;refine L.o.mono ?_;rintro e w1 ⟨rfl,rfl⟩;go_wp2;go_ret2;rw[HS.o];exact⟨.slice none 0 0,rfl,Bs.nil _ _,NoCap.nil,Wb _,_,HC.o,rfl,VG⟩
  ·have HS:Hid (Qp most ys=((ys.drop k).take a,k+a,0)):=by
    simp only[Hid,Qp];rw[if_neg h0,HV,if_neg (by simp),if_neg h4,if_neg h2]
    rfl
   have d2:decide ((ys.length:Int) - k<(a:Int))=false:=Qi h2;have B:=Qa (XK h k hk);clear h hrd HV;go_enter func61,ntmps61;go_wp2_with fail;refine A.o.mono ?_;rintro e w1 ⟨rfl,rfl⟩;go_wp2_with fail;refine L.o.mono ?_;rintro e w1 ⟨rfl,rfl⟩;go_wp2_with fail;refine B.o.mono ?_;rintro e w1 ⟨ao',cap',v2,rfl,_,_,hc,ho,h5⟩;have C:=Qa (XK hc a (by rw[Qm];omega));have HR:=Qa (Vz ho h5);clear hc ho h5 A B L c0;go_wp2_with fail;refine C.o.mono ?_;rintro e w2 ⟨ao3,cap3,v3,rfl,hb,_,hc,ho,h5⟩;have D:=Qa (Kb _ _ w2 hb (by rw[Qg,Qm];omega));have h8:=Qa (Vz hc (Vz ho h5));clear hb hc ho h5 C;go_wp2_with fail;refine D.o.mono ?_;rintro e w3 ⟨v1,rfl,h1,h6⟩
   have F:Hid (Bs .u8 w3 v1 ((ys.drop k).take a)∧NoCap v1∧(∀k,v1.ownBlock=some k->w.heap.size<=k)∧CurAt 146 w3 R v3 (ys.drop (k+a))∧v3.ownBlock=(Value.slice ao ys.length cap).ownBlock∧Only (λk=>k=R) w w3):=by
    obtain⟨ho,h5⟩:=HR.o;obtain⟨hc,ho2,h7⟩:=h8.o;rw[List.drop_drop] at hc;have h3:=h5.trans h7 (λ_ _ f=>f);exact⟨Bs.of_own h1,NoCap.of_own h1,λk hk=>Nat.le_trans h3.size (h1.lt k hk).1,hc.keep h6 (λf=>f) (λ_ _ f=>f),ho2.trans ho,h3.trans h6 (λ_ _ f=>f.elim)⟩
   clear h1 h6 D HR h8;go_wp2;go_ret2;rw[HS.o];obtain⟨f1,f2,f3,f4⟩:=F.o;exact⟨v1,rfl,f1,f2,f3,v3,f4⟩
theorem Ua (v:Nat) (t:LI) (h:v<18446744073709551616):Qd (gs v++t)=((v:Int),(gs v).length,0):=by
 have:=rd_gs t v 0 0 (by omega) (by simpa using h) (λh=>by omega);rw[Qd,this];simp
def loF (a:Int) (l:LI):Int:=l.foldl (λm x=>min m x) a
def hiF (a:Int) (l:LI):Int:=l.foldl (λm x=>max m x) a
def lo (l:LI):Int:=loF (l.getD 0 0) (l.drop 1)
def hi (l:LI):Int:=hiF (l.getD 0 0) (l.drop 1)
theorem SK (l:LI):∀a,loF a l<=a∧∀x∈l,loF a l<=x:=by
 induction l with
 | nil=>intro a;simp[loF]
 | cons b t ih =>
  intro a;obtain⟨h1,h2⟩:=ih (min a b);have e:loF a (b :: t)=loF (min a b) t:=rfl;rw[e];refine⟨by omega,λx hx=>?_⟩
  rcases List.mem_cons.1 hx with rfl | hx
  ·omega
  ·exact h2 x hx
theorem La (l:LI):∀a,a<=hiF a l∧∀x∈l,x<=hiF a l:=by
 induction l with
 | nil=>intro a;simp[hiF]
 | cons b t ih =>
  intro a;obtain⟨h1,h2⟩:=ih (max a b);have e:hiF a (b :: t)=hiF (max a b) t:=rfl;rw[e];refine⟨by omega,λx hx=>?_⟩
  rcases List.mem_cons.1 hx with rfl | hx
  ·omega
  ·exact h2 x hx
theorem zQ (l:LI):∀a,loF a l=a∨loF a l∈l:=by
 induction l with
 | nil=>intro a;simp[loF]
 | cons b t ih =>
  intro a;have e:loF a (b :: t)=loF (min a b) t:=rfl;rw[e]
  rcases ih (min a b) with h | h
  ·rw[h]
   rcases Int.le_total a b with h' | h'
   ·left;omega
   ·right;rw[show min a b=b by omega];exact List.mem_cons_self
  ·exact .inr (List.mem_cons_of_mem _ h)
theorem EO (l:LI):∀a,hiF a l=a∨hiF a l∈l:=by
 induction l with
 | nil=>intro a;simp[hiF]
 | cons b t ih =>
  intro a;have e:hiF a (b :: t)=hiF (max a b) t:=rfl;rw[e]
  rcases ih (max a b) with h | h
  ·rw[h]
   rcases Int.le_total a b with h' | h'
   ·right;rw[show max a b=b by omega];exact List.mem_cons_self
   ·left;omega
  ·exact .inr (List.mem_cons_of_mem _ h)
theorem qV (a:Int) (l:LI) (x:Int):loF a (l++[x])=min (loF a l) x:=by simp[loF]
theorem vQ (a:Int) (l:LI) (x:Int):hiF a (l++[x])=max (hiF a l) x:=by simp[hiF]
theorem Nx (a:Int) (t:LI):lo (a :: t)=loF a t:=rfl
theorem T3 (a:Int) (t:LI):hi (a :: t)=hiF a t:=rfl
theorem wS:lo []=0:=rfl
theorem AT:hi []=0:=rfl
theorem lo_le (l:LI):∀x∈l,lo l<=x:=by
 cases l with
 | nil=>simp
 | cons a t =>
  intro x hx;rw[Nx]
  rcases List.mem_cons.1 hx with rfl | hx
  ·exact (SK t x).1
  ·exact (SK t a).2 x hx
theorem le_hi (l:LI):∀x∈l,x<=hi l:=by
 cases l with
 | nil=>simp
 | cons a t =>
  intro x hx;rw[T3]
  rcases List.mem_cons.1 hx with rfl | hx
  ·exact (La t x).1
  ·exact (La t a).2 x hx
theorem uG (h:l≠[]):lo l∈l:=by
 cases l with
 | nil=>exact absurd rfl h
 | cons a t =>
  rw[Nx]
  rcases zQ t a with h | h
  ·rw[h];exact List.mem_cons_self
  ·exact List.mem_cons_of_mem _ h
theorem NS (h:l≠[]):hi l∈l:=by
 cases l with
 | nil=>exact absurd rfl h
 | cons a t =>
  rw[T3]
  rcases EO t a with h | h
  ·rw[h];exact List.mem_cons_self
  ·exact List.mem_cons_of_mem _ h
theorem lohi (h:U64 l):0<=lo l∧lo l<=hi l∧hi l<=18446744073709551615:=by
 by_cases hne:l=[]
 ·subst hne;rw[wS,AT];omega
 ·have h1:=h _ (uG hne)
  have h2:=h _ (NS hne);have h3:=lo_le l _ (NS hne);omega
def wd (l:LI):Nat:=wid (hi l - lo l).toNat
theorem wd_le (h:U64 l):wd l<=64:=by
 have:=lohi h;exact Ki _ (by omega)
theorem D4 (l:LI) (x:Int) (hx:x∈l):wid (x - lo l).toNat<=wd l:=by
 have h1:=lo_le l x hx;have h2:=le_hi l x hx;exact MG (by omega)
def ups (a:Int) (w:Nat) (t:LI):List Bool:=t.flatMap λx=>Ql (x - a).toNat w
def up (l:LI):List Bool:=ups (lo l) (wd l) l
theorem NM (a:Int) (w:Nat) (t:LI):(ups a w t).length=t.length*w:=by
 induction t with
 | nil=>simp[ups]
 | cons b t ih =>
  have e:ups a w (b :: t)=Ql (b - a).toNat w++ups a w t:=rfl;rw[e,Qb,ih,Yo,Qk,Nat.add_mul];omega
theorem zw (a:Int) (w:Nat) (t:LI) (x:Int):ups a w (t++[x])=ups a w t++Ql (x - a).toNat w:=by simp[ups]
theorem GJ (l:LI):(up l).length=l.length*wd l:=NM _ _ _
def PK (l:LI):LI:=gs (lo l).toNat++((wd l:Int) :: QF (up l))
theorem lx (l:LI):(PK l).length=(gs (lo l).toNat).length+1+(l.length*wd l+7) / 8:=by
 unfold PK;rw[Qb,Qk,UM,nb,GJ];omega
theorem Hw (h:U64 l):∀y∈PK l,0<=y∧y<=255:=by
 intro y hy;have hw:=wd_le h;unfold PK at hy
 rcases List.mem_append.1 hy with h1 | h1
 ·exact UU _ y h1
 ·rcases List.mem_cons.1 h1 with rfl | h1
  ·omega
  ·exact GW _ y h1
def nums (a:Nat) (w:Nat) (l:List Bool) (n:Nat):LI:=(List.range n).map λi=>(((a+bnum ((l.drop (i*w)).take w)) % 18446744073709551616:Nat):Int)
theorem Vo (a w:Nat) (l:List Bool) (n:Nat):(nums a w l n).length=n:=by simp[nums]
theorem Cu (a w:Nat) (l:List Bool) (n:Nat):nums a w l (n+1)=nums a w l n++[(((a+bnum ((l.drop (n*w)).take w)) % 18446744073709551616:Nat):Int)]:=by simp[nums,List.range_succ]
theorem jD (a w:Nat) (l:List Bool) (n:Nat):U64 (nums a w l n):=by
 intro x hx;simp only[nums,List.mem_map,List.mem_range] at hx;obtain⟨i,_,rfl⟩:=hx;have:=Nat.mod_lt (a+bnum ((l.drop (i*w)).take w)) (show 0<18446744073709551616 by decide);omega
def rdl (b:LI) (n:Nat):Int × LI :=
 if (Qd b).2.2≠0 then ((Qd b).2.2,[]) else
 if (b.drop (Qd b).2.1).length=0 then (2,[]) else
 if 64<(b.drop (Qd b).2.1).getD 0 0 then (3,[]) else
 if 8*(b.drop ((Qd b).2.1+1)).length<n*((b.drop (Qd b).2.1).getD 0 0).toNat then (2,[]) else
 (0,nums (Qd b).1.toNat ((b.drop (Qd b).2.1).getD 0 0).toNat (Qf (b.drop ((Qd b).2.1+1))) n)
theorem kP {b:LI} {c:Int} (n:Nat) (h:rd 0 0 b=(0,0,c)) (hc:c≠0):rdl b n=(c,[]):=by
 unfold rdl Qd;rw[h];simp[hc]
theorem xf (a n:Nat) (h:a<18446744073709551616):rdl (gs a) n=(2,[]):=by
 have hs:=Ua a [] h;rw[List.append_nil] at hs;unfold rdl;rw[hs];simp
theorem Pe (a n:Nat) (y:Int) (r:LI) (h:a<18446744073709551616) :
 rdl (gs a++y :: r) n=if 64<y then (3,[]) else if 8*r.length<n*y.toNat then (2,[]) else (0,nums a y.toNat (Qf r) n):=by
 have hd:(gs a++y :: r).drop (gs a).length=y :: r:=by simp
 have hd1:(gs a++y :: r).drop ((gs a).length+1)=r:=by rw[<-List.drop_drop,hd];rfl
 unfold rdl;rw[Ua a _ h];simp only[hd,hd1,ne_eq,not_true_eq_false,if_false];simp
theorem Mg {b:LI} (h:rdl b n=(0,l)):l.length=n:=by
 unfold rdl at h
 split at h
 ·rename_i h0;simp at h;exact absurd h.1 h0
 ·split at h
  ·simp at h
  ·split at h
   ·simp at h
   ·split at h
    ·simp at h
    ·simp at h;rw[<-h,Vo]
theorem DX (b:LI) (n:Nat):U64 (rdl b n).2:=by
 have h0:U64 []:=λx hx=>by simp at hx
 unfold rdl
 split
 ·exact h0
 ·split
  ·exact h0
  ·split
   ·exact h0
   ·split
    ·exact h0
    ·exact jD _ _ _ _
theorem parse (b:LI) (hr:∀y∈b,0<=y∧y<=255):(∃c,rd 0 0 b=(0,0,c)∧(c=2∨c=3))∨(∃a:Nat,a<18446744073709551616∧b=gs a)∨(∃(a:Nat) (y:Int) (r:LI),a<18446744073709551616∧b=gs a++y :: r):=by
 rcases XH b hr with h | ⟨a,k,h,h1,h2,h3,h4,h5⟩
 ·exact .inl h
 ·right
  have hb:b=gs a++b.drop k:=by rw[h5,List.take_append_drop]
  cases hd:b.drop k with
  | nil=>left;rw[hd,List.append_nil] at hb;exact⟨a,h4,hb⟩
  | cons y r=>right;rw[hd] at hb;exact⟨a,y,r,h4,hb⟩
theorem qW (a:Int) (w:Nat) (t:LI):∀(i:Nat) (z:List Bool),i<t.length->((ups a w t++z).drop (i*w)).take w=Ql (t.getD i 0 - a).toNat w:=by
 induction t with
 | nil=>intro i z h;simp at h
 | cons b t ih =>
  intro i z h;have e:ups a w (b :: t)=Ql (b - a).toNat w++ups a w t:=rfl;have hl:=Yo (b - a).toNat w
  cases i with
  | zero=>rw[e,Nat.zero_mul,List.drop_zero,List.append_assoc,List.take_append_of_le_length (by omega),List.take_of_length_le (by omega)];rfl
  | succ i =>
   have hd:(Ql (b - a).toNat w++(ups a w t++z)).drop w=ups a w t++z:=by
    rw[List.drop_append_of_le_length (by omega),List.drop_of_length_le (l:=Ql (b - a).toNat w) (by omega),List.nil_append]
   rw[e,List.append_assoc,Nat.add_mul,Nat.one_mul,Nat.add_comm,<-List.drop_drop,hd,ih i z (by simpa using h)]
   rfl
theorem gQ (h:U64 l) (t:LI):rdl (PK l++t) l.length=(0,l):=by
 obtain⟨h1,h2,h3⟩:=lohi h;have hw:=wd_le h
 have e:PK l++t=gs (lo l).toNat++(wd l:Int) :: (QF (up l)++t):=by simp[PK]
 rw[e,Pe _ _ _ _ (by omega),if_neg (by omega),if_neg]
 ·congr 1
  rw[Int.toNat_natCast,Rn,Ta,List.append_assoc]
  apply List.ext_getElem
  ·rw[Vo]
  ·intro i hi1 hi2
   have hx:l[i]∈l:=List.getElem_mem _
   have hg:l.getD i 0=l[i]:=by rw[Qc,Qh hi2];rfl
   simp only[nums,List.getElem_map,List.getElem_range]
   have hu:∀z,((up l++z).drop (i*wd l)).take (wd l)=Ql (l.getD i 0 - lo l).toNat (wd l):=λz=>qW _ _ l i z hi2
   rw[hu,hg,GE,Nat.mod_eq_of_lt ((Yi _ _).1 (D4 l _ hx))];have:=lo_le l _ hx;have:=h _ hx;rw[Nat.mod_eq_of_lt (by omega)];omega
 ·rw[Int.toNat_natCast,Qb,UM,nb,GJ];omega
def UN (b:LI) (n:Int):Int × LI :=
 if n<0∨65536<n then (1,[]) else
 if (rdl b n.toNat).1≠0 then ((rdl b n.toNat).1,[]) else
 if PK (rdl b n.toNat).2=b then (0,(rdl b n.toNat).2) else (3,[])
theorem yX (b:LI) (n:Int):U64 (UN b n).2:=by
 have h0:U64 []:=λx hx=>by simp at hx
 unfold UN
 split
 ·exact h0
 ·split
  ·exact h0
  ·split
   ·exact DX _ _
   ·exact h0
theorem rb (b:LI) (n:Int) (h:(UN b n).1≠0):(UN b n).2=[]:=by
 unfold UN at h ⊢
 split
 ·rfl
 ·split
  ·rfl
  ·split
   ·rename_i h1 h2 h3;rw[if_neg h1,if_neg h2,if_pos h3] at h;simp at h
   ·rfl
theorem UN_ok {b:LI} {n:Int} (h:(UN b n).1=0):PK (UN b n).2=b∧((UN b n).2.length:Int)=n∧n<=65536:=by
 unfold UN at h ⊢
 split
 ·rename_i h1;rw[if_pos h1] at h;simp at h
 ·split
  ·rename_i h1 h2;rw[if_neg h1,if_pos h2] at h;exact absurd h h2
  ·split
   ·rename_i h1 h2 h3
    have h4:rdl b n.toNat=(0,(rdl b n.toNat).2):=by rw[<-Decidable.of_not_not h2]
    have:=Mg h4;refine⟨h3,?_,by omega⟩
    show ((rdl b n.toNat).2.length:Int)=n
    omega
   ·rename_i h1 h2 h3;rw[if_neg h1,if_neg h2,if_neg h3] at h;simp at h
theorem un_pk (h:U64 l) (hl:l.length<=65536):UN (PK l) l.length=(0,l):=by
 have e:=gQ h [];rw[List.append_nil] at e;unfold UN;rw[if_neg (by omega),Int.toNat_natCast,e];simp
end Go.Proofs.YtiochaeeoelmjaaGreatDoor
