import Derived.Test.YtiochaeeoelmjaaGreatDoorG21
import Derived.Test.YtiochaeeoelmjaaGreatDoorG11
import Derived.Deep.DrawnRows
namespace Go.Proofs.YtiochaeeoelmjaaGreatDoor
set_option maxHeartbeats 4000000
set_option maxRecDepth 100000
open Go.RowKit _root_.Go.Proofs.Tryz
variable {w w' W:World} {v:Value} {ys xs l:LI} {R n p k g B:Nat} {P:Program} {ls:List (LI)} {E:TypeId}
def W2 (wn:Option (Nat × Nat)) (a d:Nat):Prop:=(wn=none∧a=0∧d=0)∨∃z,wn=some (a,z)∧a<=31∧a+z+d=64∧0<d
theorem W2.none:W2 .none 0 0:=.inl ⟨rfl,rfl,rfl⟩
theorem W2.le {wn:Option (Nat × Nat)} {a d:Nat} (h:W2 wn a d):a<=31∧d<=64:=by
 rcases h with ⟨_,rfl,rfl⟩ | ⟨z,_,h1,h2,h3⟩ <;> omega
structure Ws (w:World) (lo B:Nat) (v:Value) (w1:World) (v1:Value) (l1:List Bool) (a d:Nat):Prop where
 wr:WrAt 214 5 w1 lo B v1 l1
 on:Only (Foot B v) w w1
 st:Stays w v v1
 nb:∀k,v1.ownBlock=some k->k≠w.heap.size∧k≠w.heap.size+1
 lt:B<w.heap.size
 box:w1.heap[w.heap.size]? = some (.cells #[.int .i64 a,.int .i64 d] 225 (0,0))
 res:w1.heap[w.heap.size+1]? = some (.cells #[.int .i64 0,.int .i64 0] 225 (0,0))
theorem WrAt.lt_size {T E:TypeId} {lo B:Nat} {l:List Bool} (h:WrAt T E w lo B v l):B<w.heap.size:=Nat.lt_of_lt_of_le h.lt h.le
theorem Ws.start {lo B:Nat} {l:List Bool} (h:WrAt 214 5 w lo B v l) (a d:Nat) :
 Ws w lo B v ((w.alloc (.cells #[.int .i64 a,.int .i64 d] 225)).alloc (.cells #[.int .i64 0,.int .i64 0] 225)) v l a d where
 wr:=h.keep (((Only.refl (λ_=>False) w).alloc _).alloc _) (λf=>f) (λ_ _ f=>f)
 on:=((Only.refl _ w).alloc _).alloc _
 st:=Stays.refl _ _
 nb:=λk hk=>by have:=(h.own.lt k hk).2;omega
 lt:=h.lt_size
 box:=by
  have:=heap_alloc_last w (.cells #[.int .i64 a,.int .i64 d] 225);exact ((Only.refl (λ_=>False) _).alloc _).heap this (λf=>f)
 res:=by
  have:=heap_alloc_last (w.alloc (.cells #[.int .i64 a,.int .i64 d] 225)) (.cells #[.int .i64 0,.int .i64 0] 225)
  rwa [show (w.alloc (.cells #[.int .i64 a,.int .i64 d] 225)).heap.size=w.heap.size+1 from Array.size_push ..] at this
theorem Ws.big {lo B:Nat} {w1:World} {v1:Value} {l1:List Bool} {a d:Nat} (h:Ws w lo B v w1 v1 l1 a d):w.heap.size+1<w1.heap.size:=by
 rcases Nat.lt_or_ge (w.heap.size+1) w1.heap.size with e | e
 ·exact e
 ·have:=h.res
  rw[Array.getElem?_eq_none e] at this
  cases this
theorem Ws.put {lo B:Nat} {w1 w2:World} {v1 v2:Value} {l1 l2:List Bool} {a d:Nat} (h:Ws w lo B v w1 v1 l1 a d)
 (h2:WrAt 214 5 w2 lo B v2 l2) (o:Only (Foot B v1) w1 w2) (s:Stays w1 v1 v2):Ws w lo B v w2 v2 l2 a d where
 wr:=h2
 on:=h.on.trans o (Sr h.st)
 st:=h.st.trans s h.on.size
 nb:=λk hk=>by
  rcases s with e | e
  ·rw[e] at hk;exact h.nb k hk
  ·have:=e k hk;have:=h.big;omega
 lt:=h.lt
 box:=o.heap h.box (λf=>by
  rcases f with e | e
  ·have:=h.lt;omega
  ·exact (h.nb _ e).1 rfl)
 res:=o.heap h.res (λf=>by
  rcases f with e | e
  ·have:=h.lt;omega
  ·exact (h.nb _ e).2 rfl)
theorem Ws.past {lo B:Nat} {w1 w2:World} {v1:Value} {l1:List Bool} {a d:Nat} (h:Ws w lo B v w1 v1 l1 a d) (o:N0 w1 w2):Ws w lo B v w2 v1 l1 a d :=
 h.put (h.wr.keep o (λf=>f) (λ_ _ f=>f)) (o.mono (λ_ _ f=>f.elim)) (Stays.refl _ _)
theorem U9 {K:Nat} (x y:Value) {S:Nat->Prop} (hS:S K):Only S w ((w.setCell ⟨K,0,none⟩ x).setCell ⟨K,1,none⟩ y) :=
 ((Only.refl S w).setCell (λ_=>hS) x).setCell (λ_=>hS) y
theorem Un {K:Nat} {a b:Value} {T:TypeId} (x y:Value) (h:w.heap[K]? = some (.cells #[a,b] T (0,0))) :
 ((w.setCell ⟨K,0,none⟩ x).setCell ⟨K,1,none⟩ y).heap[K]? = some (.cells #[x,y] T (0,0)):=(Vy ((Vy h x).1) y).2
theorem Ws.set {lo B:Nat} {w1:World} {v1:Value} {l1:List Bool} {a d:Nat} (h:Ws w lo B v w1 v1 l1 a d) (a' d':Nat) :
 Ws w lo B v ((w1.setCell ⟨w.heap.size,0,none⟩ (.int .i64 a')).setCell ⟨w.heap.size,1,none⟩ (.int .i64 d')) v1 l1 a' d' where
 wr:=h.wr.keep (U9 (S:=λk=>k=w.heap.size) _ _ rfl) (λf=>by have:=h.lt;omega) (λk hk f=>(h.nb k hk).1 f)
 on:=((h.on.setCell (p:=⟨w.heap.size,0,none⟩) (λf=>absurd f (Nat.lt_irrefl _)) _).setCell (p:=⟨w.heap.size,1,none⟩) (λf=>absurd f (Nat.lt_irrefl _)) _)
 st:=h.st
 nb:=h.nb
 lt:=h.lt
 box:=Un _ _ h.box
 res:=(U9 (S:=λk=>k=w.heap.size) _ _ rfl).heap h.res (λf=>by omega)
theorem Ws.fin {lo B:Nat} {w1:World} {v1:Value} {l1:List Bool} {a d:Nat} (h:Ws w lo B v w1 v1 l1 a d) (x y:Value) {w2:World} (e:w2=(w1.setCell ⟨w.heap.size+1,0,none⟩ x).setCell ⟨w.heap.size+1,1,none⟩ y) :
 w2.heap[w.heap.size+1]? = some (.cells #[x,y] 225 (0,0))∧WrAt 214 5 w2 lo B v1 l1∧Only (Foot B v) w w2∧Stays w v v1:=by
 subst e;refine⟨Un _ _ h.res,h.wr.keep (U9 (S:=λk=>k=w.heap.size+1) _ _ rfl) (λf=>by have:=h.lt;omega) (λk hk f=>(h.nb k hk).2 f),?_,h.st⟩;exact ((h.on.setCell (p:=⟨w.heap.size+1,0,none⟩) (λ(f:w.heap.size+1<w.heap.size)=>absurd f (by omega)) _).setCell (p:=⟨w.heap.size+1,1,none⟩) (λ(f:w.heap.size+1<w.heap.size)=>absurd f (by omega)) _)
theorem My:Ql (Int.toNat 0) (Int.toNat 1)=[false]:=by decide
theorem Lw:Ql (Int.toNat 1) (Int.toNat 1)=[true]:=by decide
theorem Ik {lo B:Nat} {l:List Bool} (h:WrAt 214 5 w lo B v l) (a d:Nat) (hl:l.length<=100000000) :
 Calls prog 181 #[.pointer (some ⟨B,0,none⟩),.int .u64 0,.agg #[.int .i64 a,.int .i64 d]] w λe w'=>e=.returned (.agg #[.int .i64 a,.int .i64 d]) ∧
  ∃v',WrAt 214 5 w' lo B v' (l++[false])∧Only (Foot B v) w w'∧Stays w v v':=by
 have S0:=Qa (Ws.start h a d);have P1:=Qa (We S0.o.wr 0 1 (by omega) (by omega) (by omega) (by omega) (by decide) (by omega));rw[My] at P1;clear h;go_enter func181,ntmps181;go_wp2_with fail;refine P1.o.mono ?_;rintro e w1 ⟨rfl,v1,h1,o1,s1⟩;have S1:=Qa (S0.o.put h1 o1 s1);clear h1 o1 s1 S0 P1;obtain⟨c0,c1,_,_⟩:=Qu S1.o.box;obtain⟨c2,c3,f2,f3⟩:=Qu S1.o.res;go_wp2;obtain⟨g,r1,r2,r3⟩:=S1.o.fin (.int .i64 a) (.int .i64 d) rfl;exact bodyPost_ret (results_cell_row rfl _ _ (w.heap.size+1) 225 _ (0,0) _ rfl g underlying225 rfl Tryz.sizeWin) rfl ⟨rfl,v1,r1,r2,r3⟩
theorem Nw {w w1:World} {lo B:Nat} {v v1:Value} {l1:List Bool} {a d:Nat} (S:Ws w lo B v w1 v1 l1 a d) (x:Int) (y z:Nat) (e3:x / 2^z=(y:Int)) (hy:y<18446744073709551616) (hd:d<=64) (y2:wid y<=d) (hl:l1.length<=1000000000) :
 Calls prog 172 #[.pointer (some ⟨B,0,none⟩),.int .u64 (x / 2^z),.int .i64 d] w1 λe w'=>e=.returned (.int .i64 0)∧∃v',Ws w lo B v w' v' (l1++Ql y d) a d:=by
 rw[e3];refine (We S.wr y d (by omega) (by omega) (by omega) (by omega) (by simpa using y2) hl).mono ?_;rintro e w' ⟨rfl,v',h,o,s⟩;simp only[Int.toNat_natCast] at h;exact⟨rfl,v',S.put h o s⟩
theorem kJ {lo B:Nat} {l:List Bool} (h:WrAt 214 5 w lo B v l) (a z d x:Nat) (hl:l.length<=100000000) (h0:0<x) (hx:x<18446744073709551616) (hs:a+z+d=64) (hd:0<d) (hf:fitsW x a z) :
 Calls prog 181 #[.pointer (some ⟨B,0,none⟩),.int .u64 x,.agg #[.int .i64 a,.int .i64 d]] w λe w'=>e=.returned (.agg #[.int .i64 a,.int .i64 d]) ∧
  ∃v',WrAt 214 5 w' lo B v' (l++[true]++[false]++Ql (x / 2^z) d)∧Only (Foot B v) w w'∧Stays w v v':=by
 have S0:=Qa (Ws.start h a d);have P1:=Qa (We S0.o.wr 1 1 (by omega) (by omega) (by omega) (by omega) (by decide) (by omega));rw[Lw] at P1
 have hne:((x:Int) == 0)=false:=by rw[beq_eq_false_iff_ne];omega
 have z64:(z:Int)<64:=by omega
 have e3:Hid ((x:Int) / 2^z=((x / 2^z:Nat):Int)):=by simp only[Hid];push_cast;rfl
 have y1:x / 2^z<=x:=Nat.div_le_self _ _;have y2:wid (x / 2^z)<=d:=((Jq h0 hx hs hd).1 hf).2
 have FI:=λw=>Qa (PJ a z d x w h0 hx hs hd)
 rw[Qe hf] at FI;generalize hy:x / 2^z=y at *;clear h hf hy;go_enter func181,ntmps181;go_wp2_with fail;refine P1.o.mono ?_;rintro e w1 ⟨rfl,v1,h1,o1,s1⟩;have S1:=Qa (S0.o.put h1 o1 s1);clear h1 o1 s1 S0 P1;obtain⟨c0,c1,_,_⟩:=Qu S1.o.box;go_wp2_with fail;refine (XC a d _ (by omega)).mono ?_;rintro e w2 ⟨rfl,o2⟩;have S2:=Qa (S1.o.past o2);clear S1 o2 c0 c1;obtain⟨c0,c1,_,_⟩:=Qu S2.o.box;go_wp2_with fail;refine (FI _).out.mono ?_;rintro e w3 ⟨rfl,o3⟩;have S3:=Qa (S2.o.past o3);clear S2 o3 c0 c1 FI;have P3:=Qa (We S3.o.wr 0 1 (by omega) (by omega) (by omega) (by omega) (by decide) (by simp;omega));rw[My] at P3;go_wp2_with fail;refine P3.o.mono ?_;rintro e w4 ⟨rfl,v4,h4,o4,s4⟩;have S4:=Qa (S3.o.put h4 o4 s4);clear h4 o4 s4 S3 P3;obtain⟨c0,c1,_,_⟩:=Qu S4.o.box;go_wp2;have SD:=Qa (S4.o.past ((Only.refl (λ_=>False) w4).drew))
 have hl4:(l++[true]++[false]).length<=1000000000:=by simp;omega
 go_region_with (first|(go_at_call 212;refine (Ww a z d _ hs).mono ?_;rintro e w5 ⟨rfl,o5⟩;have S5:=Qa (SD.o.past o5);have c2:=(Qu S5.o.box).2.1)|(go_at_call 172;refine (Nw S5.o (x:Int) y z e3.o (by omega) (by omega) y2 hl4).mono ?_;rintro e w6 ⟨rfl,v6,S6⟩))
 all_goals
  have S7:=Qa S6;clear S6;clear c0 c1;obtain⟨c0,c1,_,_⟩:=Qu S7.o.box;obtain⟨c2,c3,f2,f3⟩:=Qu S7.o.res;go_wp2;obtain⟨g,r1,r2,r3⟩:=S7.o.fin (.int .i64 a) (.int .i64 d) rfl;exact bodyPost_ret (results_cell_row rfl _ _ (w.heap.size+1) 225 _ (0,0) _ rfl g underlying225 rfl Tryz.sizeWin) rfl ⟨rfl,v6,r1,r2,r3⟩
theorem Ws.tab {lo B:Nat} {w1:World} {v1:Value} {l1:List Bool} {a d:Nat} (h:Ws w lo B v w1 v1 l1 a d) (hT:Tab w) (hB:0<B) (hv:∀k,v.ownBlock=some k->0<k):Tab w1 :=
 hT.keep h.on (λf=>by
  rcases f with e | e
  ·omega
  ·exact absurd (hv 0 e) (by omega))
theorem wid_5 (h:n<=31):wid n<=5:=(Yi n 5).2 (by omega)
theorem wid_6 (h:n<=63):wid n<=6:=(Yi n 6).2 (by omega)
theorem Gv {w w1:World} {lo B:Nat} {v v1:Value} {l1:List Bool} {a d:Nat} (S:Ws w lo B v w1 v1 l1 a d) (x:Int) (n q:Nat) (e:x=(n:Int)) (hn:n<18446744073709551616) (hq:q<=64) (hw:wid n<=q) (hl:l1.length<=1000000000) :
 Calls prog 172 #[.pointer (some ⟨B,0,none⟩),.int .u64 x,.int .i64 q] w1 λe w'=>e=.returned (.int .i64 0)∧∃v',Ws w lo B v w' v' (l1++Ql n q) a d:=by
 subst e;refine (We S.wr n q (by omega) (by omega) (by omega) (by omega) (by simpa using hw) hl).mono ?_;rintro e w' ⟨rfl,v',h,o,s⟩;simp only[Int.toNat_natCast] at h;exact⟨rfl,v',S.put h o s⟩
theorem Lu {lo B:Nat} {l:List Bool} (h:WrAt 214 5 w lo B v l) (x:Nat) (a z d:Nat) (hw:a=0∧d=0∨a+z+d=64∧0<d∧¬fitsW x a z) (hl:l.length<=100000000) (h0:0<x) (hx:x<18446744073709551616) (hT:Tab w) (hB:0<B) :
 Calls prog 181 #[.pointer (some ⟨B,0,none⟩),.int .u64 x,.agg #[.int .i64 a,.int .i64 d]] w λe w'=>e=.returned (.agg #[.int .i64 (ldz x:Nat),.int .i64 (64 - ldz x - tz x:Nat)]) ∧
  ∃v',WrAt 214 5 w' lo B v' (l++[true]++[true]++Ql (ldz x) 5++Ql (63 - ldz x - tz x) 6++Ql (x / 2^tz x) (64 - ldz x - tz x))∧Only (Foot B v) w w'∧Stays w v v':=by
 have S0:=Qa (Ws.start h a d);have P1:=Qa (We S0.o.wr 1 1 (by omega) (by omega) (by omega) (by omega) (by decide) (by omega));rw[Lw] at P1
 have hne:((x:Int) == 0)=false:=by rw[beq_eq_false_iff_ne];omega
 have hv0:∀k,v.ownBlock=some k->0<k:=λk hk=>by have:=(h.own.lt k hk).1;have:=h.lt;omega
 obtain⟨n1,n2,n3⟩:=VW h0 hx
 have WO:=λw hT=>Qa (uZ (x:Int) w (by omega) (by omega) hT)
 simp only[Int.toNat_natCast] at WO
 have e3:Hid ((x:Int) / 2^tz x=((x / 2^tz x:Nat):Int)):=by simp only[Hid];push_cast;rfl
 have y1:x / 2^tz x<=x:=Nat.div_le_self _ _;have y2:wid (x / 2^tz x)<=64 - ldz x - tz x:=(Yi _ _).2 (Xm hx n2 n3);have HW:=Qa hw;clear hw;generalize hy:x / 2^tz x=y at *;generalize ldz x=a' at *;generalize tz x=z' at *;obtain⟨d',h2⟩:∃d',d'=64 - a' - z':=⟨_,rfl⟩;rw[show 63 - a' - z'=d' - 1 by omega,<-h2];rw[<-h2] at WO y2
 have hs':a'+z'+d'=64:=by omega
 have hp':0<d':=by omega
 clear h hy h2 n2 n3
 have z64:(z':Int)<64:=by omega
 have dd:(d':Int) - 1=((d' - 1:Nat):Int):=by omega
 go_enter func181,ntmps181;go_wp2_with fail;refine P1.o.mono ?_;rintro e w1 ⟨rfl,v1,h1,o1,s1⟩;have S1:=Qa (S0.o.put h1 o1 s1);clear h1 o1 s1 S0 P1;obtain⟨c0,c1,_,_⟩:=Qu S1.o.box
 rcases HW.o with ⟨rfl,rfl⟩ | ⟨hs,hd,hf⟩
 case' inl =>
  go_wp2_with fail;refine (Sp _).mono ?_;rintro e w3 ⟨rfl,o2⟩;have S3:=Qa (S1.o.past o2);clear S1 o2 c0 c1
 case' inr =>
  have FI:=λw=>Qa (PJ a z d x w h0 hx hs hd)
  rw[Qi hf] at FI;clear hf;go_wp2_with fail;refine (XC a d _ (by omega)).mono ?_;rintro e w2 ⟨rfl,o2⟩;have S2:=Qa (S1.o.past o2);clear S1 o2 c0 c1;obtain⟨c0,c1,_,_⟩:=Qu S2.o.box;go_wp2_with fail;refine (FI _).out.mono ?_;rintro e w3 ⟨rfl,o3⟩;have S3:=Qa (S2.o.past o3);clear S2 o3 c0 c1 FI
 all_goals
  have W3:=WO w3 (S3.o.tab hT hB hv0);clear WO;go_wp2_with fail;refine W3.o.mono ?_;rintro e w4 ⟨rfl,o4⟩;have S4:=Qa (S3.o.past o4);clear S3 o4 W3;obtain⟨c0,c1,f0,f1⟩:=Qu S4.o.box;have S5:=Qa (S4.o.set a' d');have P5:=Qa (Gv S5.o 1 1 1 rfl (by omega) (by omega) (by decide) (by simp;omega));rw[show Ql 1 1=[true] by decide] at P5;clear S4;go_wp2_with fail;refine P5.o.mono ?_;rintro e w6 ⟨rfl,v6,s6⟩;have S6:=Qa s6;clear s6 S5 P5 c0 c1 f0 f1;obtain⟨c0,c1,_,_⟩:=Qu S6.o.box;have P6:=Qa (Gv S6.o (a':Int) a' 5 rfl (by omega) (by omega) (wid_5 n1) (by simp;omega));go_wp2_with fail;refine P6.o.mono ?_;rintro e w7 ⟨rfl,v7,s7⟩;have S7:=Qa s7;clear s7 S6 P6 c0 c1;obtain⟨c0,c1,_,_⟩:=Qu S7.o.box;have P7:=Qa (Gv S7.o ((d' - 1:Nat):Int) (d' - 1) 6 rfl (by omega) (by omega) (wid_6 (by omega)) (by simp[Yo];omega));go_wp2_with fail;refine P7.o.mono ?_;rintro e w8 ⟨rfl,v8,s8⟩;have S8:=Qa s8;clear s8 S7 P7 c0 c1;obtain⟨c0,c1,_,_⟩:=Qu S8.o.box;go_wp2;have SD:=Qa (S8.o.past ((Only.refl (λ_=>False) w8).drew))
  have hl4:(l++[true]++[true]++Ql a' 5++Ql (d' - 1) 6).length<=1000000000:=by simp[Yo];omega
  go_region_with (first|(go_at_call 212;refine (Ww a' z' d' _ hs').mono ?_;rintro e w5 ⟨rfl,o5⟩;have S5:=Qa (SD.o.past o5);have c2:=(Qu S5.o.box).2.1)|(go_at_call 172;refine (Nw S5.o (x:Int) y z' e3.o (by omega) (by omega) y2 hl4).mono ?_;rintro e w6 ⟨rfl,v6,S6⟩))
  all_goals
   have S9:=Qa S6;clear S6;clear c0 c1;obtain⟨c0,c1,_,_⟩:=Qu S9.o.box;obtain⟨c2,c3,f2,f3⟩:=Qu S9.o.res;go_wp2;obtain⟨g,r1,r2,r3⟩:=S9.o.fin (.int .i64 a') (.int .i64 d') rfl;exact bodyPost_ret (results_cell_row rfl _ _ (w.heap.size+1) 225 _ (0,0) _ rfl g underlying225 rfl Tryz.sizeWin) rfl ⟨rfl,v6,r1,r2,r3⟩
theorem IW {lo B:Nat} {l:List Bool} (h:WrAt 214 5 w lo B v l) (x:Nat) (wn:Option (Nat × Nat)) (a d:Nat) (hwn:W2 wn a d) (hl:l.length<=100000000) (hx:x<18446744073709551616) (hT:Tab w) (hB:0<B) :
 Calls prog 181 #[.pointer (some ⟨B,0,none⟩),.int .u64 x,.agg #[.int .i64 a,.int .i64 d]] w λe w'=>∃a' d':Nat,e=.returned (.agg #[.int .i64 a',.int .i64 d'])∧W2 (gx x wn).2 a' d' ∧
  ∃v',WrAt 214 5 w' lo B v' (l++(gx x wn).1)∧Only (Foot B v) w w'∧Stays w v v':=by
 by_cases h0:x=0
 ·subst h0
  have e:gx 0 wn=([false],wn):=by unfold gx;rw[if_pos rfl]
  rw[e];refine (Ik h a d hl).mono ?_;rintro e w' ⟨rfl,r⟩;exact⟨a,d,rfl,hwn,r⟩
 ·obtain⟨n1,n2,n3⟩:=VW (Nat.pos_of_ne_zero h0) hx
  have hw:W2 (some (ldz x,tz x)) (ldz x) (64 - ldz x - tz x):=.inr ⟨tz x,rfl,n1,by omega,by omega⟩
  have hN:∀m:List Bool,m++[true]++[true]++Ql (ldz x) 5++Ql (63 - ldz x - tz x) 6++Ql (x / 2^tz x) (64 - ldz x - tz x)=m++newW x:=λm=>by unfold newW;simp
  rcases hwn with ⟨rfl,rfl,rfl⟩ | ⟨z,rfl,h1,h2,h3⟩
  ·have e:gx x none=(newW x,some (ldz x,tz x)):=by unfold gx;rw[if_neg h0]
   rw[e];refine (Lu h x 0 0 0 (.inl ⟨rfl,rfl⟩) hl (Nat.pos_of_ne_zero h0) hx hT hB).mono ?_;rintro e w' ⟨rfl,v',r⟩;rw[hN] at r;exact⟨_,_,rfl,hw,v',r⟩
  ·by_cases hf:fitsW x a z
   ·have e:gx x (some (a,z))=(true :: false :: Ql (x / 2^z) (64 - a - z),some (a,z)):=by unfold gx;rw[if_neg h0];simp only;rw[if_pos hf]
    rw[e];refine (kJ h a z d x hl (Nat.pos_of_ne_zero h0) hx h2 h3 hf).mono ?_;rintro e w' ⟨rfl,v',r⟩;rw[show l++[true]++[false]++Ql (x / 2^z) d=l++true :: false :: Ql (x / 2^z) (64 - a - z) by rw[show 64 - a - z=d by omega];simp] at r;exact⟨a,d,rfl,.inr ⟨z,rfl,h1,h2,h3⟩,v',r⟩
   ·have e:gx x (some (a,z))=(newW x,some (ldz x,tz x)):=by unfold gx;rw[if_neg h0];simp only;rw[if_neg hf]
    rw[e];refine (Lu h x a z d (.inr ⟨h2,h3,hf⟩) hl (Nat.pos_of_ne_zero h0) hx hT hB).mono ?_;rintro e w' ⟨rfl,v',r⟩;rw[hN] at r;exact⟨_,_,rfl,hw,v',r⟩
def gW:Nat->Option (Nat × Nat)->LI->Option (Nat × Nat)
 | _,wn,[]=>wn
 | p,wn,y :: t=>gW y.toNat (gx (p ^^^ y.toNat) wn).2 t
def gL:Nat->LI->Nat
 | p,[]=>p
 | _,y :: t=>gL y.toNat t
theorem qC (l:LI) (y:Int):∀(p:Nat) (wn:Option (Nat × Nat)),gE p wn (l++[y])=gE p wn l++(gx (gL p l ^^^ y.toNat) (gW p wn l)).1∧gW p wn (l++[y])=(gx (gL p l ^^^ y.toNat) (gW p wn l)).2:=by
 induction l with
 | nil=>intro p wn;simp[gE,gW,gL]
 | cons z t ih =>
  intro p wn;obtain⟨h1,h2⟩:=ih z.toNat (gx (p ^^^ z.toNat) wn).2
  constructor
  ·rw[List.cons_append,gE,h1,gE,gL,gW,List.append_assoc]
  ·rw[List.cons_append,gW,h2,gL,gW]
theorem uR (t:LI):∀(x0:Int) (k:Nat),k<=t.length->gL x0.toNat (t.take k)=((x0 :: t).getD k 0).toNat:=by
 induction t with
 | nil =>
  intro x0 k hk
  obtain rfl:k=0:=by simpa using hk
  rfl
 | cons y t ih =>
  intro x0 k hk
  cases k with
  | zero=>rfl
  | succ k =>
   rw[List.take_succ_cons,gL,ih y k (by simpa using hk)]
   rfl
theorem Cc (x0:Int) (t:LI) (k:Nat) (h:k<t.length) :
 gE x0.toNat none (t.take (k+1))=gE x0.toNat none (t.take k)++(gx (((x0 :: t).getD k 0).toNat ^^^ (t.getD k 0).toNat) (gW x0.toNat none (t.take k))).1 ∧
 gW x0.toNat none (t.take (k+1))=(gx (((x0 :: t).getD k 0).toNat ^^^ (t.getD k 0).toNat) (gW x0.toNat none (t.take k))).2:=by
 rw[UX t k h,<-uR t x0 k (by omega)];exact qC _ _ _ _
theorem xor_i {x y:Int} (x0:0<=x) (x1:x<=18446744073709551615) (y0:0<=y) (y1:y<=18446744073709551615):bits .xor .u64 y x=((x.toNat ^^^ y.toNat:Nat):Int):=by
 have:=bits_xor_u64_nat y.toNat x.toNat (by omega) (by omega);rw[Int.toNat_of_nonneg x0,Int.toNat_of_nonneg y0] at this;rw[this,Nat.xor_comm]
theorem zU {b i:Nat} (h:w.cell? ⟨b,i,none⟩=some v):b<w.heap.size:=by
 rcases Nat.lt_or_ge b w.heap.size with e | e
 ·exact e
 ·have e2:w.heap[b]? = none:=Array.getElem?_eq_none e
  simp[World.cell?,e2] at h
structure Es (w:World) (K:Nat) (wr:World) (vw:Value) (l:List Bool) (wn:Option (Nat × Nat)) (a d:Nat):Prop where
 be:Below w.heap.size w wr
 wt:WrAt 214 5 wr (w.heap.size+1) w.heap.size vw l
 nb:∀q,vw.ownBlock=some q->q≠K
 gt:w.heap.size<K
 box:wr.heap[K]? = some (.cells #[.int .i64 a,.int .i64 d] 225 (0,0))
 wi:W2 wn a d
theorem Es.lt {K:Nat} {wr:World} {vw:Value} {l:List Bool} {wn:Option (Nat × Nat)} {a d:Nat} (h:Es w K wr vw l wn a d):K<wr.heap.size:=by
 rcases Nat.lt_or_ge K wr.heap.size with e | e
 ·exact e
 ·have:=h.box
  rw[Array.getElem?_eq_none e] at this
  cases this
theorem Es.drew {K:Nat} {wr:World} {vw:Value} {l:List Bool} {wn:Option (Nat × Nat)} {a d:Nat} (h:Es w K wr vw l wn a d):Es w K wr.drew vw l wn a d :=
 ⟨h.be.drew,h.wt.keep ((Only.refl (λ_=>False) wr).drew) (λf=>f) (λ_ _ f=>f),h.nb,h.gt,h.box,h.wi⟩
theorem Es.off {K:Nat} {wr:World} {vw:Value} {l:List Bool} {wn:Option (Nat × Nat)} {a d:Nat} (h:Es w K wr vw l wn a d) (f:Foot w.heap.size vw K):False:=by
 rcases f with e | e
 ·have:=h.gt;omega
 ·exact h.nb _ e rfl
theorem Es.next {K:Nat} {wr w2:World} {vw v2:Value} {l l2:List Bool} {wn wn2:Option (Nat × Nat)} {a d a2 d2:Nat} (h:Es w K wr vw l wn a d)
 (h2:WrAt 214 5 w2 (w.heap.size+1) w.heap.size v2 l2) (o:Only (Foot w.heap.size vw) wr w2) (s:Stays wr vw v2) (hw:W2 wn2 a2 d2) :
 Es w K ((w2.setCell ⟨K,0,none⟩ (.int .i64 a2)).setCell ⟨K,1,none⟩ (.int .i64 d2)) v2 l2 wn2 a2 d2:=by
 have h1:∀q,v2.ownBlock=some q->q≠K:=λq hq=>by
  rcases s with e | e
  ·rw[e] at hq;exact h.nb q hq
  ·have:=e q hq;have:=h.lt;omega
 have h0:=o.heap h.box (λf=>by
  rcases f with e | e
  ·have:=h.gt;omega
  ·exact h.nb _ e rfl)
 have hg:=h.gt;refine⟨?_,h2.keep (U9 (S:=λk=>k=K) _ _ rfl) (λf=>by omega) (λk hk f=>h1 k hk f),h1,h.gt,Un _ _ h0,hw⟩;exact (h.be.trans (o.below (B:=w.heap.size) h.be.size (h.wt.foot_ge Zu))).trans ((U9 (S:=λk=>k=K) (.int .i64 a2) (.int .i64 d2) rfl).below (B:=w.heap.size) (Nat.le_trans h.be.size o.size) (λk e=>by omega))
theorem vX (v:Value) (xs:LI) (w:World) (h:Bs .u64 w v xs) (hl:65536<xs.length) :
 Calls prog 137 #[v] w λe w'=>e=.returned (.tuple #[.slice none 0 0,.int .i64 4])∧w=w':=by
 obtain⟨ao,cap,rfl⟩:=h.len;clear h
 have d0:decide (65536<(xs.length:Int))=true:=by simp;omega
 generalize xs.length=m at *;clear hl;go_enter func137,ntmps137;go_wp2;go_ret2;exact⟨rfl,rfl⟩
theorem BO (v:Value) (w:World) (h:Bs .u64 w v []) :
 Calls prog 137 #[v] w λe w'=>e=.returned (.tuple #[.slice none 0 0,.int .i64 0])∧w=w':=by
 obtain⟨ao,cap,rfl⟩:=h.len;clear h;go_enter func137,ntmps137;go_wp2;go_ret2;exact⟨rfl,rfl⟩
theorem pT (v:Value) (x0:Int) (t:LI) (w:World) (h:Bs .u64 w v (x0 :: t)) (hu:U64 (x0 :: t)) (hl:(x0 :: t).length<=65536) (hT:Tab w) :
 Calls prog 137 #[v] w λe w'=>∃v',e=.returned (.tuple #[v',.int .i64 0])∧w'.ownsRow w.heap.size 5 1 v' (QF (GB (x0 :: t))).length ((QF (GB (x0 :: t))).map (Value.int .u8))∧N0 w w':=by
 obtain⟨b,off,cap,rfl,c0⟩:=h.at 0 (by simp);have HB:=Qa h;have HU:=Qa hu;obtain⟨u0,u1⟩:=hu x0 List.mem_cons_self;simp only[List.getD_cons_zero,Nat.add_zero] at c0;have hp:=zU c0;obtain⟨m,hm⟩:=EX t.length;have HM:=Qa hm
 have h6:(x0 :: t).length=m+1:=by rw[hm];rfl
 rw[h6] at HB hl;rw[h6]
 have ha:m+1<=cap:=by
  obtain⟨ao,hd,e,hc,_⟩:=h;simp only[Value.slice.injEq] at e;omega
 obtain⟨n,hn⟩:=EX (m+1);rw[<-hn] at HB hl ha;rw[<-hn]
 have n0:0<n:=by omega
 have HN:=Qa hn;obtain⟨G,hG⟩:=EX (QF (GB (x0 :: t)));rw[<-hG];have HG:=Qa hG
 have d0:decide (65536<(n:Int))=false:=by simp;omega
 have d1:((n:Int) == 0)=false:=by rw[beq_eq_false_iff_ne];omega
 have x64:(wid x0.toNat:Int)<=64:=by have:=Ki x0.toNat (by omega);omega
 have W0:=Qa (WrAt.new (T:=214) (E:=5) w);have P0:=Qa (We W0.o x0 64 (by omega) (by omega) u0 u1 x64 (by simp));have he:Hid (Below w.heap.size w (w.alloc (.cells #[.slice none 0 0,.int .i64 0] 214))):=(Below.refl _ _).alloc (Nat.le_refl _) _;clear h hu hm h6 hG hn;go_enter func137,ntmps137;go_wp2_with fail;refine P0.o.mono ?_;rintro e w1 ⟨rfl,v1,h1,o1,s1⟩
 have h9:([]:List Bool)++Ql x0.toNat (Int.toNat 64)=Ql x0.toNat 64++gE x0.toNat none (t.take 0):=by simp[gE]
 rw[h9] at h1;have B1:=Qa (he.o.trans (o1.below (B:=w.heap.size) he.o.size (W0.o.foot_ge Zu)))
 have S1:Hid (Es w w1.heap.size (w1.alloc (.cells #[.int .i64 0,.int .i64 0] 225)) v1 (Ql x0.toNat 64++gE x0.toNat none (t.take 0)) (gW x0.toNat none (t.take 0)) 0 0) :=
  ⟨B1.o.alloc B1.o.size _,h1.keep ((Only.refl (λ_=>False) w1).alloc _) (λf=>f) (λ_ _ f=>f),λq hq=>by have:=(h1.own.lt q hq).2;omega,h1.lt_size,heap_alloc_last _ _,W2.none⟩
 have hKw:Hid (w.heap.size<w1.heap.size):=h1.lt_size;clear h1 o1 s1 P0 W0 he h9
 have e1:n - 1=m:=by have:=HN.o;omega
 have HV:Hid (∀k,k<m->w.cell? ⟨b,off+1+k,none⟩=some (.int .u64 (t.getD k 0))∧w.cell? ⟨b,off+k,none⟩=some (.int .u64 ((x0 :: t).getD k 0))):=by
  intro k hk;obtain⟨ao,hd,e,_,ho⟩:=HB.o;obtain⟨b',off',rfl,hc⟩:=ho (List.cons_ne_nil _ _);clear ho;simp only[Value.slice.injEq,Option.some.injEq,Addr.mk.injEq,and_true] at e;obtain⟨⟨rfl,rfl⟩,_,rfl⟩:=e;have hm:=HM.o;have:=hc (k+1) (by simp;omega);rw[List.getD_cons_succ] at this;refine⟨?_,hc k (by simp;omega)⟩;rw[show off+1+k=off+(k+1) by omega];exact this
 clear B1 c0;go_wp2
 case inl =>
  obtain rfl:m=0:=by have:=HN.o;omega
  go_loopw [22] (λi wr=>∃k:Nat,k<=0∧i=.int .i64 k∧∃vw a d,Es w w1.heap.size wr vw (Ql x0.toNat 64++gE x0.toNat none (t.take k)) (gW x0.toNat none (t.take k)) a d) (λi _=>0 - (intOf i).toNat)
  case atStart=>exact⟨0,Nat.zero_le _,rfl,v1,0,0,S1.o⟩
  case round =>
   clear S1;obtain⟨k,hk,rfl,vw,a,d,h0⟩:=hrel
   obtain rfl:k=0:=by omega
   have hb:(0:Nat)=0:=rfl;have HE:=Qa h0
   have h5:(Ql x0.toNat 64++gE x0.toNat none (t.take 0)).length<=1000000000000:=by
    have:=(ZP (t.take 0) x0.toNat none).1;rw[Qb,Yo];rw[Qg] at this;omega
   have BY:=Qa (ZM h0.wt h5)
   have h4:Hid (QF (Ql x0.toNat 64++gE x0.toNat none (t.take 0))=G):=by
    simp only[Hid];rw[HG.o,hb,HM.o,List.take_length];rfl
   rw[h4.o] at BY;clear h0 h5;go_wp2_with fail;refine BY.o.mono ?_;rintro e w4 ⟨v4,rfl,h3,h8⟩;have OW:=Qa (Qr h3 HE.o.be.size);have ON:=Qa ((YW HE.o.be).same h8);clear BY h3 h8;go_wp2;go_ret2;exact⟨v4,rfl,OW.o,ON.o⟩
 case inr =>
  go_loopw [22] (λi wr=>∃k:Nat,k<=m∧i=.int .i64 k∧∃vw a d,Es w w1.heap.size wr vw (Ql x0.toNat 64++gE x0.toNat none (t.take k)) (gW x0.toNat none (t.take k)) a d) (λi _=>m - (intOf i).toNat)
  case atStart=>exact⟨0,Nat.zero_le _,rfl,v1,0,0,S1.o⟩
  case round =>
   clear S1;obtain⟨k,hk,rfl,vw,a,d,h0⟩:=hrel
   by_cases hlt:k<m
   ·obtain⟨q1,q2⟩:=HV.o k hlt
    have c1:=(h0.be.cell (p:=⟨b,off+1+k,none⟩) hp).trans q1;have c2:=(h0.be.drew.cell (p:=⟨b,off+k,none⟩) hp).trans q2;have HE:=Qa h0.drew;obtain⟨b0,b1,_,_⟩:=Qu h0.drew.box;obtain⟨s1,s2⟩:=Cc x0 t k (by rw[<-HM.o];exact hlt);have G1:=Qa s1;have G2:=Qa s2
    have h7:∀j,j<(x0 :: t).length->0<=(x0 :: t).getD j 0∧(x0 :: t).getD j 0<=18446744073709551615:=λj hj=>HU.o _ (by rw[Qc,Qh hj];simp)
    have hmt:=HM.o;obtain⟨p0,p1⟩:=h7 k (by simp;omega);obtain⟨y0,y1⟩:=h7 (k+1) (by simp;omega);rw[List.getD_cons_succ] at y0 y1
    have h5:(Ql x0.toNat 64++gE x0.toNat none (t.take k)).length<=100000000:=by
     have:=(ZP (t.take k) x0.toNat none).1;rw[Qb,Yo];rw[Qg] at this;omega
    have HT:=Qa (hT.below h0.be.drew hT.pos);have hh:=xor_i p0 p1 y0 y1;have hg:=ZZ (a:=((x0 :: t).getD k 0).toNat) (b:=(t.getD k 0).toNat) (by omega) (by omega);generalize (x0 :: t).getD k 0=p at *;generalize t.getD k 0=y at *;have WR:=Qa (IW HE.o.wt (p.toNat ^^^ y.toNat) _ a d HE.o.wi h5 hg HT.o hT.pos);rw[<-hh] at WR;have WL:=Qa HE.o.wi.le;clear h7 hmt s1 s2 h5 hh hg h0 q1 q2
    have dlt:decide ((k:Int)<(m:Int))=true:=by simp;omega
    have i0:(k:Int)<(n:Int):=by have:=HN.o;omega
    go_wp2
    go_region_with ((go_at_call 181;refine WR.o.mono ?_;rintro e w2 ⟨a2,d2,rfl,hf,v2,h2,o2,s2⟩;have E2:=Qa (HE.o.next h2 o2 s2 hf);have g2:=Qu (o2.heap HE.o.box (λf=>HE.o.off f));obtain⟨_,_,_,_⟩:=g2))
    all_goals
     have hL:Hid (Ql x0.toNat 64++gE x0.toNat none (t.take k)++(gx (p.toNat ^^^ y.toNat) (gW x0.toNat none (t.take k))).1=Ql x0.toNat 64++gE x0.toNat none (t.take (k+1))):=by
      simp only[Hid];rw[G1.o,List.append_assoc]
     rw[hL.o,<-G2.o] at E2;clear WR hf h2 o2 s2;go_wp2
     go_roundw
     case rel=>exact⟨k+1,by omega,by simp,v2,a2,d2,E2.o⟩
     case measure=>simp[intOf];omega
   ·obtain rfl:k=m:=by omega
    have hb:k=k:=rfl
    have dlt:decide ((k:Int)<(k:Int))=false:=by simp
    have HE:=Qa h0
    have h5:(Ql x0.toNat 64++gE x0.toNat none (t.take k)).length<=1000000000000:=by
     have:=(ZP (t.take k) x0.toNat none).1;rw[Qb,Yo];rw[Qg] at this;omega
    have BY:=Qa (ZM h0.wt h5)
    have h4:Hid (QF (Ql x0.toNat 64++gE x0.toNat none (t.take k))=G):=by
     simp only[Hid];rw[HG.o,hb,HM.o,List.take_length];rfl
    rw[h4.o] at BY;clear h0 h5;go_wp2_with fail;refine BY.o.mono ?_;rintro e w4 ⟨v4,rfl,h3,h8⟩;have OW:=Qa (Qr h3 HE.o.be.size);have ON:=Qa ((YW HE.o.be).same h8);clear BY h3 h8;go_wp2;go_ret2;exact⟨v4,rfl,OW.o,ON.o⟩
theorem Ng (v:Value) (xs:LI) (w:World) (h:Bs .u64 w v xs) (hu:U64 xs) (hT:Tab w) :
 Calls prog 137 #[v] w λe w'=>∃v',e=.returned (.tuple #[v',.int .i64 (ENC9 xs).2])∧w'.ownsRow w.heap.size 5 1 v' (ENC9 xs).1.length ((ENC9 xs).1.map (Value.int .u8))∧N0 w w':=by
 by_cases hl:65536<xs.length
 ·have e:ENC9 xs=([],4):=if_pos hl
  rw[e];refine (vX v xs w h hl).mono ?_;rintro e w' ⟨rfl,rfl⟩;exact⟨_,rfl,Xh,VG⟩
 ·rw[VV (by omega)]
  cases xs with
  | nil =>
   refine (BO v w h).mono ?_;rintro e w' ⟨rfl,rfl⟩;exact⟨_,rfl,Xh,VG⟩
  | cons x0 t=>exact pT v x0 t w h hu (by omega) hT
theorem jU (v:Value) (tag:Int) (w:World) (h:tag<0∨3<tag):Calls prog 92 #[v,.int .i64 tag] w λe w'=>e=.returned (.tuple #[.slice none 0 0,.int .i64 1])∧w=w':=by
 have A:=Qa (P9 tag w h);clear h;go_enter func92,ntmps92;go_wp2_with fail;refine A.o.mono ?_;rintro e w1 ⟨rfl,rfl⟩;go_wp2;go_ret2;exact⟨rfl,rfl⟩
theorem yS (v:Value) (l:LI) (tag:Int) (w:World) (h:Bs .u64 w v l) (h0:0<=tag) (h3:tag<=3) (hl:65536<l.length):Calls prog 92 #[v,.int .i64 tag] w λe w'=>e=.returned (.tuple #[.slice none 0 0,.int .i64 4])∧w=w':=by
 have A:=Qa (Kv tag w h0 h3);obtain⟨ao,cap,rfl⟩:=h.len;have d1:decide ((65536:Int)<(l.length:Int))=true:=Qe (by omega);have d1':decide (65536<l.length)=true:=Qe hl;clear h h0 h3 hl;go_enter func92,ntmps92;go_wp2_with fail;refine A.o.mono ?_;rintro e w1 ⟨rfl,rfl⟩;go_wp2;go_ret2;exact⟨rfl,rfl⟩
theorem pq (v:Value) (l:LI) (w:World) (h:Bs .u64 w v l) (hl:l.length<=65536) :
 Calls prog 92 #[v,.int .i64 0] w λe w'=>∃u,e=.returned (.tuple #[u,.int .i64 0])∧w'.ownsRow w.heap.size 5 1 u (fx8 l).length ((fx8 l).map (Value.int .u8))∧N0 w w':=by
 have A:=Qa (Kv 0 w (by omega) (by omega));have F:=Qa (Su v l w h hl);obtain⟨ao,cap,rfl⟩:=h.len;have d1:decide ((65536:Int)<(l.length:Int))=false:=Qi (by omega);have d1':decide (65536<l.length)=false:=Qi (by omega);clear h hl;go_enter func92,ntmps92;go_wp2_with fail;refine A.o.mono ?_;rintro e w1 ⟨rfl,rfl⟩;clear A;go_wp2_with fail;refine F.o.mono ?_;rintro e w2 ⟨u,rfl,h0,o2⟩;have R:=Qa (Vz h0 o2);clear h0 o2 F;go_wp2;go_ret2;exact⟨u,rfl,R.o.1,R.o.2⟩
theorem pU (v:Value) (l:LI) (w:World) (h:Bs .u64 w v l) (hl:l.length<=65536) (hs:l=[]∨¬YB l) :
 Calls prog 92 #[v,.int .i64 1] w λe w'=>e=.returned (.tuple #[.slice none 0 0,.int .i64 1])∧w=w':=by
 have A:=Qa (Kv 1 w (by omega) (by omega));have F:=DU v l w h hl;rw[show decide (¬(l=[]∨¬YB l))=false from Qi (λc=>c hs)] at F;have F:=Qa F;obtain⟨ao,cap,rfl⟩:=h.len;have d1:decide ((65536:Int)<(l.length:Int))=false:=Qi (by omega);have d1':decide (65536<l.length)=false:=Qi (by omega);clear h hl hs;go_enter func92,ntmps92;go_wp2_with fail;refine A.o.mono ?_;rintro e w1 ⟨rfl,rfl⟩;clear A;go_wp2_with fail;refine F.o.mono ?_;rintro e w2 ⟨rfl,rfl⟩;clear F;go_wp2;go_ret2;exact⟨rfl,rfl⟩
theorem Ax (v:Value) (l:LI) (w:World) (h:Bs .u64 w v l) (hl:l.length<=65536) (hs:¬(l=[]∨¬YB l)) :
 Calls prog 92 #[v,.int .i64 1] w λe w'=>∃u,e=.returned (.tuple #[u,.int .i64 0])∧w'.ownsRow w.heap.size 5 1 u (fixL (l.getD 0 0) 8).length ((fixL (l.getD 0 0) 8).map (Value.int .u8))∧N0 w w':=by
 have A:=Qa (Kv 1 w (by omega) (by omega));have F:=DU v l w h hl;rw[show decide (¬(l=[]∨¬YB l))=true from Qe hs] at F;have F:=Qa F
 have h1:l≠[]:=λe=>hs (.inl e)
 have hp:0<l.length:=List.length_pos_iff.2 h1
 have e1:fx8 (l.take 1)=fixL (l.getD 0 0) 8:=by
  cases l with
  | nil=>exact absurd rfl h1
  | cons y t=>simp[fx8]
 have h2:∃ao cap,v=.slice ao l.length cap∧l.length<=cap:=by obtain⟨ao,cap,e,hc,_⟩:=h;exact⟨ao,cap,e,hc⟩
 obtain⟨ao,cap,rfl,hc⟩:=h2;have X:=Su _ (l.take 1) w (h.head (n:=1) (by omega)) (by rw[Qg];omega);rw[e1] at X;have X:=Qa X;have d1:decide ((65536:Int)<(l.length:Int))=false:=Qi (by omega);have d1':decide (65536<l.length)=false:=Qi (by omega)
 have b1:(1:Int)<=(cap:Int):=by omega
 have b2:1<=cap:=by omega
 generalize fixL (l.getD 0 0) 8=G at *;generalize l.length=n at *;clear h hl hs h1 hp e1 hc;go_enter func92,ntmps92;go_wp2_with fail;refine A.o.mono ?_;rintro e w1 ⟨rfl,rfl⟩;clear A;go_wp2_with fail;refine F.o.mono ?_;rintro e w2 ⟨rfl,rfl⟩;clear F;go_wp2_with fail;refine X.o.mono ?_;rintro e w2 ⟨u,rfl,h0,o2⟩;have R:=Qa (Vz h0 o2);clear h0 o2 X;go_wp2;go_ret2;exact⟨u,rfl,R.o.1,R.o.2⟩
theorem I5 (v:Value) (l:LI) (w:World) (h:Bs .u64 w v l) (hu:U64 l) (hl:l.length<=65536) :
 Calls prog 92 #[v,.int .i64 2] w λe w'=>∃u,e=.returned (.tuple #[u,.int .i64 (ENC10 l).2])∧w'.ownsRow w.heap.size 5 1 u (ENC10 l).1.length ((ENC10 l).1.map (Value.int .u8))∧N0 w w':=by
 have A:=Qa (Kv 2 w (by omega) (by omega));have F:=Qa (Ts v l w h hu);obtain⟨ao,cap,rfl⟩:=h.len;have d1:decide ((65536:Int)<(l.length:Int))=false:=Qi (by omega);have d1':decide (65536<l.length)=false:=Qi (by omega);generalize ENC10 l=E at *;obtain⟨E1,E2⟩:=E;simp only at F ⊢;clear h hl hu;go_enter func92,ntmps92;go_wp2_with fail;refine A.o.mono ?_;rintro e w1 ⟨rfl,rfl⟩;clear A;go_wp2_with fail;refine F.o.mono ?_;rintro e w2 ⟨u,rfl,h0,o2⟩;have R:=Qa (Vz h0 o2);clear h0 o2 F;go_wp2;go_ret2;exact⟨u,rfl,R.o.1,R.o.2⟩
theorem qS (v:Value) (l:LI) (w:World) (h:Bs .u64 w v l) (hu:U64 l) (hl:l.length<=65536) (hT:Tab w) :
 Calls prog 92 #[v,.int .i64 3] w λe w'=>∃u,e=.returned (.tuple #[u,.int .i64 (ENC9 l).2])∧w'.ownsRow w.heap.size 5 1 u (ENC9 l).1.length ((ENC9 l).1.map (Value.int .u8))∧N0 w w':=by
 have A:=Qa (Kv 3 w (by omega) (by omega));have F:=Qa (Ng v l w h hu hT);obtain⟨ao,cap,rfl⟩:=h.len;have d1:decide ((65536:Int)<(l.length:Int))=false:=Qi (by omega);have d1':decide (65536<l.length)=false:=Qi (by omega);generalize ENC9 l=E at *;obtain⟨E1,E2⟩:=E;simp only at F ⊢;clear h hl hu hT;go_enter func92,ntmps92;go_wp2_with fail;refine A.o.mono ?_;rintro e w1 ⟨rfl,rfl⟩;clear A;go_wp2_with fail;refine F.o.mono ?_;rintro e w2 ⟨u,rfl,h0,o2⟩;have R:=Qa (Vz h0 o2);clear h0 o2 F;go_wp2;go_ret2;exact⟨u,rfl,R.o.1,R.o.2⟩
theorem Ay (v:Value) (l:LI) (tag:Int) (w:World) (h:Bs .u64 w v l) (hu:U64 l) (hT:Tab w) :
 Calls prog 92 #[v,.int .i64 tag] w λe w'=>∃u,e=.returned (.tuple #[u,.int .i64 (WAY11 l tag).2])∧w'.ownsRow w.heap.size 5 1 u (WAY11 l tag).1.length ((WAY11 l tag).1.map (Value.int .u8))∧N0 w w':=by
 unfold WAY11
 by_cases ht:tag<0∨3<tag
 ·rw[if_pos ht]
  refine (jU v tag w ht).mono ?_;rintro e w' ⟨rfl,rfl⟩;exact⟨_,rfl,Xh,VG⟩
 ·rw[if_neg ht]
  by_cases hl:65536<l.length
  ·rw[if_pos hl]
   refine (yS v l tag w h (by omega) (by omega) hl).mono ?_;rintro e w' ⟨rfl,rfl⟩;exact⟨_,rfl,Xh,VG⟩
  ·rw[if_neg hl]
   obtain⟨t,rfl⟩:=Int.eq_ofNat_of_zero_le (show 0<=tag by omega);rw[Int.toNat_natCast]
   rcases WW (t:=t) (by omega) with rfl | rfl | rfl | rfl
   ·rw[W11_0];exact pq v l w h (by omega)
   ·rw[W11_1]
    by_cases hs:l=[]∨¬YB l
    ·rw[if_pos hs]
     refine (pU v l w h (by omega) hs).mono ?_;rintro e w' ⟨rfl,rfl⟩;exact⟨_,rfl,Xh,VG⟩
    ·rw[if_neg hs];exact Ax v l w h (by omega) hs
   ·rw[W11_2];exact I5 v l w h hu (by omega)
   ·rw[W11_3];exact qS v l w h hu (by omega) hT
theorem uO (v:Value) (l:LI) (t:Nat) (w:World) (h:Bs .u64 w v l) (hu:U64 l) (hT:Tab w) (hl:l.length<=65536) (ht:t<=3) :
 Calls prog 92 #[v,.int .i64 t] w λe w'=>∃u,e=.returned (.tuple #[u,.int .i64 (QE l t).2])∧w'.ownsRow w.heap.size 5 1 u (QE l t).1.length ((QE l t).1.map (Value.int .u8))∧N0 w w':=by
 have:=Ay v l t w h hu hT;rw[J1 hl t ht] at this;exact this
section
open Go.Shelf
attribute [local go_sem] Oper.semAt_some
theorem j4 (n:Nat) (a:Option Addr) (len cap:Nat) (w:World) :
 CallsIn Fence.wide n prog 55 #[.slice a len cap] w λe w'=>e=.returned (.func (.func 91) #[] #[.pointer (some ⟨w.heap.size,0,none⟩)])∧w'=w.alloc (.cells #[.slice a len cap] 76):=by
 refine callsIn_of_wp func55 rfl trivial ?_ rfl;simp only[ntmps55,List.size_toArray,Qk,List.length_nil,Nat.reduceAdd,Nat.reduceSub,Array.replicate_succ,Array.replicate_zero,List.push_toArray,List.append_toArray,List.nil_append,List.cons_append]
 gi_wp2
 go_ret;exact⟨rfl,rfl⟩
theorem tt (n L Bv:Nat) (v:Value) (l:LI) (hu:U64 l) (hl:l.length<=65536) (J:Nat->World->Prop)
 (hJ:∀s A,J s A->Boxed A Bv 76 v∧Bs .u64 A v l∧Tab A)
 (hJo:∀s A B,J s A->N0 A B->J s B)
 (hJs:∀s A,s<=3->J s A->(QE l s).2≠0->J (s+1) A)
 (hY:∀(s:Nat) u A,s<=3->J s A->(QE l s).2=0->Bs .u8 A u (QE l s).1->NoCap u->YieldAt Fence.wide (n - 1) prog L #[.int .i64 s,u] A λe B=>e=.returned (.bool true)∧J (s+1) B)
 (W:World) (h0:J 0 W) :
 CallsIn Fence.wide n prog 91 #[.func (.yield L) #[] #[],.pointer (some ⟨Bv,0,none⟩)] W λe B=>(∃v,e=.returned v)∧J 4 B:=by
 have HJ:=Qa hJ;have h8:=Qa hJo;have HJs:=Qa hJs;have HY:=Qa hY;have H0:=Qa h0;clear hJ hJo hJs hY h0;refine callsIn_of_wp func91 rfl trivial ?_ rfl;simp only[ntmps91,List.size_toArray,Qk,List.length_nil,Nat.reduceAdd,Nat.reduceSub,Array.replicate_succ,Array.replicate_zero,List.push_toArray,List.append_toArray,List.nil_append,List.cons_append]
 gi_wp2
 gi_loopw [6] (λi wr=>∃t:Nat,t<=4∧i=.int .i64 t∧Hid (J t wr)) (λi _=>4 - (intOf i).toNat)
 case atStart=>exact⟨0,by omega,rfl,H0⟩
 case round =>
  obtain⟨t,ht,rfl,HT⟩:=hrel
  by_cases hlt:t<4
  ·have dlt:decide ((t:Int)<4)=true:=Qe (by omega)
   obtain⟨h5,h3,h2⟩:=HJ.o t wr HT.o;have hc:=h5.cell;have A:=Qa (uO v l t wr h3 hu h2 hl (by omega))
   by_cases he:(QE l t).2=0
   ·have HE:=Qa he
    rw[he] at A;clear h5 h3 h2 he
    gi_wp2_with fail
    refine⟨trivial,(λh=>by cases h),(callsIn_wide.2 A.o).mono ?_⟩;rintro e w2 ⟨u,rfl,h1,o2⟩;obtain⟨fn,tmps,h4,body,hy,hR⟩:=HY.o t u w2 (by omega) (h8.o _ _ _ HT.o o2) HE.o (Bs.of_own h1) (NoCap.of_own h1);have HR:=Qa hR;clear h1 o2 A hR
    gi_wp2
    refine⟨(λh=>by cases h),HR.o.mono ?_⟩;rintro e w3 ⟨rfl,h7⟩;have H3:=Qa h7;clear HR h7
    gi_wp2
    go_roundw
    case rel=>exact⟨t+1,by omega,by go_num,H3⟩
    case measure=>simp[intOf];omega
   ·have HE:=Qa he
    have de:((QE l t).2 == 0)=false:=by simp[he]
    obtain⟨c,h6⟩:=EX ((QE l t).2);rw[<-h6] at A de;clear h5 h3 h2 he h6
    gi_wp2_with fail
    refine⟨trivial,(λh=>by cases h),(callsIn_wide.2 A.o).mono ?_⟩;rintro e w2 ⟨u,rfl,h1,o2⟩;have H3:=Qa (HJs.o t w2 (by omega) (h8.o _ _ _ HT.o o2) HE.o);clear h1 o2 A
    gi_wp2
    refine⟨λ_ h=>(by cases h),?_⟩
    gi_wp2
    go_roundw
    case rel=>exact⟨t+1,by omega,by go_num,H3⟩
    case measure=>simp[intOf];omega
  ·obtain rfl:t=4:=by omega
   gi_wp2
   go_end0
   exact⟨⟨_,rfl⟩,HT.o⟩
end
section
open Go.Shelf
attribute [local go_sem] Oper.semAt_some
def pk11 (l:LI) (t:Nat):LI:=((QU l t).1:Int) :: (QU l t).2
def Sh11 (lo:Nat) (l:LI) (t:Nat) (A:World) (sv:Value):Prop :=
 (t=0∧sv=.slice none 0 0)∨∃s,t=s+1∧A.ownsRow lo 5 1 sv (pk11 l s).length ((pk11 l s).map (Value.int .u8))
def In11 (W0:World) (Bx lo:Nat) (l:LI) (t:Nat) (A:World):Prop:=Only (λk=>k=Bx) W0 A∧∃sv,Boxed A Bx 23 sv∧Sh11 lo l t A sv
theorem Sh11.keep {lo:Nat} {t:Nat} {A B:World} {sv:Value} (h:Sh11 lo l t A sv) {S:Nat->Prop} (o:Only S A B) (hs:∀k,sv.ownBlock=some k->¬S k):Sh11 lo l t B sv:=by
 rcases h with h | ⟨s,e,h⟩
 ·exact .inl h
 ·exact .inr ⟨s,e,o.own h hs⟩
theorem In11.past {W0:World} {Bx lo:Nat} {t:Nat} {A B:World} (h:In11 W0 Bx lo l t A) (o:N0 A B):In11 W0 Bx lo l t B:=by
 obtain⟨h1,sv,h2,h3⟩:=h;exact⟨h1.trans o (λ_ _ f=>f.elim),sv,QN h2 o (λf=>f),h3.keep o (λ_ _ f=>f)⟩
theorem In11.loop {W0:World} {Bx lo:Nat} {t:Nat} {A B:World} (h:In11 W0 Bx lo l t A) {L:Nat} {r:Loop} (hl:A.heap[L]? = some (.loop r)) (o:Only (λk=>k=L) A B) (hL:W0.heap.size<=L):In11 W0 Bx lo l t B:=by
 obtain⟨h1,sv,h2,h3⟩:=h;refine⟨h1.trans o (λk hk e=>by omega),sv,QN h2 o (λe=>?_),h3.keep o (λk hk e=>?_)⟩
 ·subst e
  rw[show A.heap[Bx]? = _ from h2] at hl;cases hl
 ·subst e
  rcases h3 with ⟨_,rfl⟩ | ⟨s,_,ho⟩
  ·cases hk
  ·rcases ho.2 with ⟨rfl,_⟩ | ⟨g,cap,cur,rfl,_,hg,_⟩
   ·cases hk
   ·obtain rfl:g=k:=by simpa [Value.ownBlock] using hk
    rw[hg] at hl;cases hl
theorem In11.skip {W0:World} {Bx lo:Nat} {t:Nat} {A:World} (h:In11 W0 Bx lo l t A) (he:(QE l t).2≠0):In11 W0 Bx lo l (t+1) A:=by
 obtain⟨h1,sv,h2,h3⟩:=h;refine⟨h1,sv,h2,?_⟩
 rcases h3 with ⟨rfl,_⟩ | ⟨s,rfl,ho⟩
 ·exact absurd rfl he
 ·refine .inr ⟨s+1,rfl,?_⟩
  have e:pk11 l (s+1)=pk11 l s:=by
   unfold pk11;rw[QU,if_neg (λc=>he c.1)]
  rw[e];exact ho
theorem In11.stays {W0:World} {Bx lo:Nat} {s:Nat} {A:World} (h:In11 W0 Bx lo l (s+1) A) (hc:¬(QE l (s+1)).1.length<(QU l s).2.length):In11 W0 Bx lo l (s+1+1) A:=by
 obtain⟨h1,sv,h2,h3⟩:=h;refine⟨h1,sv,h2,?_⟩
 rcases h3 with ⟨e,_⟩ | ⟨s',e,ho⟩
 ·omega
 ·obtain rfl:s=s':=by omega
  refine .inr ⟨s+1,rfl,?_⟩
  have e:pk11 l (s+1)=pk11 l s:=by
   unfold pk11;rw[QU,if_neg (λc=>hc c.2)]
  rw[e];exact ho
theorem In11.stored {W0 W A:World} {Bx lo:Nat} {t:Nat} (h:In11 W0 Bx lo l t W) (hBx:Bx<W0.heap.size) (o:N0 W A) (hlo:lo<=W.heap.size)
 (own:A.ownsRow W.heap.size 5 1 v (pk11 l t).length ((pk11 l t).map (Value.int .u8))):Only (λk=>k<W0.heap.size) W (A.setCell ⟨Bx,0,none⟩ v)∧In11 W0 Bx lo l (t+1) (A.setCell ⟨Bx,0,none⟩ v):=by
 obtain⟨h1,sv,h2,h3⟩:=h;have hBW:Bx<W.heap.size:=h2.lt;have o2:Only (λk=>k=Bx) A (A.setCell ⟨Bx,0,none⟩ v):=(Only.refl (λk=>k=Bx) A).setCell (p:=⟨Bx,0,none⟩) (λ_=>rfl) v;refine⟨(o.mono (λ_ _ f=>f.elim)).trans o2 (λk _ e=>by omega),h1.trans ((o.mono (T:=λk=>k=Bx) (λ_ _ f=>f.elim)).trans o2 (λ_ _ e=>e)) (λ_ _ e=>e),v,(QN h2 o (λf=>f)).set v,.inr ⟨t,rfl,?_⟩⟩;exact o2.own (Qr own hlo) (λk hk e=>by have:=(own.lt k hk).1;omega)
theorem Mb (W:World) (x:Int) (u:Value) (Y:LI) (hb:Bs .u8 W u Y) (hn:NoCap u) (hl:Y.length<=2000000) :
 Calls prog 28 #[.slice (some ⟨W.heap.size+1,0,none⟩) 2 2] ((W.alloc (.cells #[.int .u8 x] 5)).alloc (.cells #[.slice (some ⟨W.heap.size,0,none⟩) 1 1,u] 23)) λe w' =>
  ∃g c,e=.returned (.slice (some ⟨g,0,none⟩) (Y.length+1) c)∧w'.ownsRow W.heap.size 5 1 (.slice (some ⟨g,0,none⟩) (Y.length+1) c) (x :: Y).length ((x :: Y).map (Value.int .u8))∧N0 W w':=by
 obtain⟨W2,h0⟩:∃W2,(W.alloc (.cells #[.int .u8 x] 5)).alloc (.cells #[.slice (some ⟨W.heap.size,0,none⟩) 1 1,u] 23)=W2:=⟨_,rfl⟩
 have o2:N0 W W2:=by rw[<-h0];exact ((Only.refl _ W).alloc _).alloc _
 have hL:Bs .u8 W2 (.slice (some ⟨W.heap.size,0,none⟩) 1 1) [x]:=by
  rw[<-h0];exact (Bs.lit .u8 W 5 [x]).past (VG.alloc _)
 have hH:W2.heap[W.heap.size+1]? = some (.cells #[.slice (some ⟨W.heap.size,0,none⟩) 1 1,u] 23 (0,0)):=by
  have:=World.alloc_heap_new (W.alloc (.cells #[.int .u8 x] 5)) (.cells #[.slice (some ⟨W.heap.size,0,none⟩) 1 1,u] 23);rw[World.size_alloc,h0] at this;exact this
 have ec:cat (λi=>if i=0 then [x] else Y) 2=x :: Y:=by rw[WV,WV,NK];rfl
 have hBB:∀i,i<2->Bs .u8 W2 (if i=0 then .slice (some ⟨W.heap.size,0,none⟩) 1 1 else u) (if i=0 then [x] else Y):=by
  intro i hi
  rcases (show i=0∨i=1 by omega) with rfl | rfl
  ·exact hL
  ·exact hb.past o2
 have hNN:∀i,i<2->NoCap (if i=0 then .slice (some ⟨W.heap.size,0,none⟩) 1 1 else u):=by
  intro i hi
  rcases (show i=0∨i=1 by omega) with rfl | rfl
  ·exact NoCap.some _ _ _
  ·exact hn
 have C:=VN (W.heap.size+1) 2 (λi=>if i=0 then .slice (some ⟨W.heap.size,0,none⟩) 1 1 else u) (λi=>if i=0 then [x] else Y) W2 (by omega) (by omega)
  (λi hi=>by rcases (show i=0∨i=1 by omega) with rfl | rfl <;> simp[World.cell?,hH])
  hBB hNN
  (by rw[ec,Qk];omega) (by rw[ec,Qk];omega)
 rw[ec] at C;rw[h0];refine C.mono ?_;rintro e w' ⟨v',rfl,own,o⟩;have h1:w'.ownsRow W2.heap.size 5 1 v' (Y.length+1) ((x :: Y).map (Value.int .u8)):=own;obtain⟨g,c,rfl⟩:=ownsRow_succ h1;exact⟨g,c,rfl,Qr own o2.size,o2.same o⟩
theorem Of (v:Value) (l:LI) (w:World) (h:Bs .u64 w v l) (hl:65536<l.length) :
 Calls prog 34 #[v] w λe w'=>e=.returned (.tuple #[.slice none 0 0,.int .i64 4])∧w=w':=by
 obtain⟨ao,cap,rfl⟩:=h.len;have d1:decide ((65536:Int)<(l.length:Int))=true:=Qe (by omega);have d1':decide (65536<l.length)=true:=Qe hl;clear h hl;refine (callsIn_wide (n:=5)).1 ?_;refine callsIn_of_wp_marks func34 rfl trivial ?_ rfl;simp only[ntmps34,List.size_toArray,Qk,List.length_nil,Nat.reduceAdd,Nat.reduceSub,Array.replicate_succ,Array.replicate_zero,List.push_toArray,List.append_toArray,List.nil_append,List.cons_append]
 gi_wp2
 refine⟨.tuple #[.slice none 0 0,.int .i64 4],?_,rfl,rfl⟩;simp[results,Tryz.f34,go_sem]
theorem rN (v:Value) (l:LI) (w:World) (h:Bs .u64 w v l) (hu:U64 l) (hl:l.length<=65536) (hT:Tab w) :
 Calls prog 34 #[v] w λe w'=>∃u,e=.returned (.tuple #[u,.int .i64 0])∧w'.ownsRow w.heap.size 5 1 u (pk11 l 3).length ((pk11 l 3).map (Value.int .u8))∧N0 w w':=by
 have HB:=Qa h;have HT:=Qa hT;obtain⟨ao,cap,rfl⟩:=h.len;obtain⟨m,hm⟩:=EX l.length;rw[<-hm] at HB;rw[<-hm];have HM:=Qa hm;have HL:=Qa hl;have d1:decide ((65536:Int)<(m:Int))=false:=Qi (by omega);have d1':decide (65536<m)=false:=Qi (by omega);have h0w:=hT.pos;clear h hm hT hl;refine (callsIn_wide (n:=5)).1 ?_;refine callsIn_of_wp_marks func34 rfl trivial ?_ rfl;simp only[ntmps34,List.size_toArray,Qk,List.length_nil,Nat.reduceAdd,Nat.reduceSub,Array.replicate_succ,Array.replicate_zero,List.push_toArray,List.append_toArray,List.nil_append,List.cons_append]
 gi_wp2_with fail
 refine⟨trivial,(j4 _ _ _ _ _).mono ?_⟩;rintro e w2 ⟨rfl,rfl⟩
 gi_wp2_with fail
 obtain⟨W0,h5⟩:∃W0,(w.alloc (.cells #[.slice none 0 0] 23)).alloc (.cells #[.slice ao m cap] 76)=W0:=⟨_,rfl⟩
 have o0:N0 w W0:=by rw[<-h5];exact ((Only.refl _ w).alloc _).alloc _
 have hsz:W0.heap.size=w.heap.size+1+1:=by rw[<-h5];simp
 have bX:Boxed W0 w.heap.size 23 (.slice none 0 0):=by rw[<-h5];exact (Boxed.new w 23 (.slice none 0 0)).alloc _
 have bV:Boxed W0 (w.heap.size+1) 76 (.slice ao m cap):=by
  rw[<-h5];have h:=Boxed.new (w.alloc (.cells #[.slice none 0 0] 23)) 76 (.slice ao m cap);rw[World.size_alloc] at h;exact h
 rw[h5];have HI0:In11 W0 w.heap.size w.heap.size l 0 W0:=⟨VG,_,bX,.inl ⟨rfl,rfl⟩⟩
 refine jh (gf:=91) (lb:=#[.pointer (some ⟨w.heap.size+1,0,none⟩)]) rfl (enters_of func91 (by kernel_rfl) rfl)
  (λx:Nat × Value=>#[.int .i64 x.1,x.2]) (λ_=>rfl) (In11 W0 w.heap.size w.heap.size l) (λs x s' A=>x.1=s∧s'=s+1∧s<=3∧(QE l s).2=0∧Bs .u8 A x.2 (QE l s).1∧NoCap x.2) 0 4
  (λs A B r hi hl o=>hi.loop hl o (by omega)) (λs A B hi o=>hi.past o) (λs x s' A B r hv hl o=>⟨hv.1,hv.2.1,hv.2.2.1,hv.2.2.2.1,hv.2.2.2.2.1.loop hl o,hv.2.2.2.2.2⟩) HI0
  ?hit (λx=>{ tmps:=#[.slice ao m cap,undef,.slice none 0 0,.int .i64 0,.pointer (some ⟨w.heap.size,0,none⟩),.int .i64 x.1,x.2,.slice ao m cap,.int .i64 m,.bool false,.slice ao m cap,
   .func (.func 91) #[] #[.pointer (some ⟨w.heap.size+1,0,none⟩)],.int .i64 x.1,x.2,undef,undef,undef,undef,undef,undef,undef,undef,undef,undef,undef,undef,undef,undef,undef,undef,undef],defers:=[] }) ?assign ?body ?done
 case hit =>
  intro J W hJ hJo hJs hY h0;refine tt 4 (W0.heap.size+1) (w.heap.size+1) (.slice ao m cap) l hu HL.o J (λs A hs=>?_) hJo (λs A h3 hs he=>hJs s (s+1) A hs ((hJ s A hs).skip he)) (λs u A h3 hs he hb hn=>hY s (s,u) (s+1) A hs ⟨rfl,rfl,h3,he,hb,hn⟩) W h0;have o:=(hJ s A hs).1;have o':N0 w A:=o0.trans o (λk hk e=>by omega);exact⟨QN bV o (by omega),HB.o.past o',HT.o.past o'⟩
 case assign =>
  intro x W K hK
  gi_wp2
  exact hK
 case body =>
  rintro s ⟨s',u⟩ s'' W hi ⟨rfl,rfl,h3,he,hb,hn⟩;simp only at hb hn h3 he;have HI:=Qa hi;obtain⟨o1,sv,bx,hd⟩:=hi;have hc:=bx.cell;have hf:=bx.frozen
  have hg:w.heap.size<=W.heap.size:=by have:=o1.size;omega
  obtain⟨au,cu,eu⟩:=hb.len;subst eu
  rcases hd with ⟨rfl,rfl⟩ | ⟨s,rfl,ho⟩
  ·have h7:∀W,(binOp .eql 23 (.slice none 0 0) (.slice none 0 0)).run prog W=.ok (.bool true) W:=λW=>by
    rw[Lib.run_eql_slice_nil W 23 5 none 0 0 0 0 underlying23];rfl
   obtain⟨Y,hY⟩:=EX ((QE l 0).1);rw[<-hY] at hb hn
   have h9:Hid (pk11 l 0=0 :: Y):=by simp only[Hid];rw[hY];rfl
   have HB':=Qa hb;have HN':=Qa hn;rw[<-hY];have CT:=Qa (Mb W 0 (.slice au Y.length cu) Y hb hn (by rw[hY,<-J1 HL.o 0 (by omega)];exact Nu));have h6:=Qa bx;clear bx hb hn he h3 hY
   gi_wp2_with fail
   refine⟨trivial,(CallsIn.inRound _ (callsIn_wide.2 CT.o)).mono ?_⟩;rintro e w4 ⟨g,c,rfl,h1,o4⟩;have h4:=QN h6.o o4 (λf=>f);rw[<-h9.o] at h1;have ha:=Qa (HI.o.stored (by omega) o4 hg h1);have hc4:=h4.cell;have hf4:=h4.frozen;clear h1 o4 h4 CT h6 hc hf
   gi_wp2
   exact ha.o
  ·obtain⟨Y,hY⟩:=EX ((QE l (s+1)).1)
   rw[<-hY] at hb hn;have h2:(pk11 l s).length=(QU l s).2.length+1:=rfl;obtain⟨q,hq⟩:=EX ((QU l s).2.length);rw[h2,<-hq] at ho;obtain⟨g0,c0,esv⟩:=ownsRow_succ ho;subst esv
   have h7:∀W,(binOp .eql 23 (.slice (some ⟨g0,0,none⟩) (q+1) c0) (.slice none 0 0)).run prog W=.ok (.bool false) W:=λW=>by
    rw[Lib.run_eql_slice_nil W 23 5 (some ⟨g0,0,none⟩) (q+1) c0 0 0 underlying23];rfl
   have hYl:Y.length<=2000000:=by rw[hY,<-J1 HL.o (s+1) h3];exact Nu
   by_cases hcmp:Y.length<q
   ·have h9:Hid (pk11 l (s+1)=((s:Int)+1) :: Y):=by
     simp only[Hid];unfold pk11;rw[QU,if_pos ⟨he,by rw[<-hY,<-hq];exact hcmp⟩,<-hY]
     rfl
    have CT:=Qa (Mb W ((s:Int)+1) (.slice au Y.length cu) Y hb hn hYl);rw[<-hY];have dd:decide ((1:Int)+(Y.length:Int)<((q+1:Nat):Int))=true:=Qe (by omega);have dd2:decide ((1:Int)+(Y.length:Int)<(q:Int)+1)=true:=Qe (by omega);have h6:=Qa bx;clear bx hb hn he hY h2 hq ho hcmp
    gi_wp2_with fail
    refine⟨trivial,(CallsIn.inRound _ (callsIn_wide.2 CT.o)).mono ?_⟩;rintro e w4 ⟨g,c,rfl,h1,o4⟩;have h4:=QN h6.o o4 (λf=>f);rw[<-h9.o] at h1;have ha:=Qa (HI.o.stored (by omega) o4 hg h1);have hc4:=h4.cell;have hf4:=h4.frozen;clear h1 o4 h4 CT h6 hc hf
    gi_wp2
    exact ha.o
   ·have HST:=Qa (HI.o.stays (by rw[<-hY,<-hq];exact hcmp))
    rw[<-hY];have dd:decide ((1:Int)+(Y.length:Int)<((q+1:Nat):Int))=false:=Qi (by omega);have dd2:decide ((1:Int)+(Y.length:Int)<(q:Int)+1)=false:=Qi (by omega);clear bx hb hn he hY h2 hq ho hcmp
    gi_wp2
    exact⟨VG,HST.o⟩
 case done =>
  intro W hi hD;obtain⟨o1,sv,bx,hd⟩:=hi;have hc:=bx.cell
  rcases hd with ⟨e,_⟩ | ⟨s,e,ho⟩
  ·cases e
  ·obtain rfl:s=3:=by omega
   clear e;have HO:=Qa ho;have h2:(pk11 l 3).length=(QU l 3).2.length+1:=rfl;rw[h2] at ho;obtain⟨g,h8,e2⟩:=ownsRow_succ ho;subst e2;clear h2 ho;have O1:=Qa o1;have HD:=Qa hD;clear o1 bx
   gi_wp2
   refine⟨by simp,.inl ⟨_,_,rfl,run_takeDeferred HD.o,?_⟩⟩;refine⟨.tuple #[.slice (some ⟨g,0,none⟩) ((QU l 3).2.length+1) h8,.int .i64 0],?_,_,rfl,ownsRow_putObj HO.o _ HD.o rfl,?_⟩
   ·simp[results,Tryz.f34,go_sem]
   ·exact (o0.trans O1.o (λk hk e=>by omega)).putObj _ _ (λhk=>by omega)
theorem Dk (v:Value) (l:LI) (w:World) (h:Bs .u64 w v l) (hu:U64 l) (hT:Tab w) :
 Calls prog 34 #[v] w λe w'=>∃u,e=.returned (.tuple #[u,.int .i64 (ENC11 l).2])∧w'.ownsRow w.heap.size 5 1 u (ENC11 l).1.length ((ENC11 l).1.map (Value.int .u8))∧N0 w w':=by
 by_cases hl:65536<l.length
 ·have e:ENC11 l=([],4):=if_pos hl
  rw[e];refine (Of v l w h hl).mono ?_;rintro e w' ⟨rfl,rfl⟩;exact⟨_,rfl,Xh,VG⟩
 ·rw[KW (by omega)]
  exact rN v l w h hu (by omega) hT
end
section
attribute [local go_sem ↓] Go.wp_at_zero Go.wp_at_succ
theorem wE (t:ByteArray) (u:Value) (s:List (Int × Int)) (w:World) (h:Sps w u s) (hl:64<t.size∨65536<s.length) (hm:s.length<=maxLen) (hm2:t.size<=maxLen) :
 Calls prog 15 #[.agg #[.string t,u]] w λe w'=>e=.returned (.tuple #[.slice none 0 0,.int .i64 4])∧N0 w w':=by
 unfold maxLen at hm hm2;obtain⟨ao,cap,rfl⟩:=h.len;clear h;generalize s.length=n at *
 by_cases h1:64<t.size
 ·have d1:decide (64<(t.size:Int))=true:=by simp;omega
  have d2:decide (64<t.size)=true:=by simp;omega
  go_enter func15,ntmps15;go_wp2;go_ret2;exact⟨rfl,VG.alloc _⟩
 ·have h2:65536<n:=by omega
  have d1:decide (64<(t.size:Int))=false:=by simp;omega
  have d2:decide (64<t.size)=false:=by simp;omega
  have d3:decide (65536<(n:Int))=true:=by simp;omega
  have d4:decide (65536<n)=true:=by simp;omega
  go_enter func15,ntmps15;go_wp2;go_ret2;exact⟨rfl,VG.alloc _⟩
theorem Xd {w3 W W':World} {x y:Value} (h:N0 w3 W∧W.cell? ⟨B,0,none⟩=some x∧W.cell? ⟨B,1,none⟩=some y) (o:N0 W W') :
 N0 w3 W'∧W'.cell? ⟨B,0,none⟩=some x∧W'.cell? ⟨B,1,none⟩=some y:=by
 obtain⟨h1,h2,h3⟩:=h;have hb:B<W.heap.size:=World.block_lt_of_cell? W _ h2;have e:=o.block B hb (λf=>f);exact⟨h1.same o,by rw[<-h2];unfold World.cell?;rw[e],by rw[<-h3];unfold World.cell?;rw[e]⟩
def five {α:Type} (a b c d e:α):Nat->α
 | 0=>a
 | 1=>b
 | 2=>c
 | 3=>d
 | _=>e
theorem GV (a b c d e:LI):cat (five a b c d e) 5=a++(b++(c++(d++e))):=by
 simp[cat,List.range_succ,five]
theorem zE {X:Nat} (h:W.heap[X]? = some (.cells #[.int .u8 1] 5 (0,0))):Bs .u8 W (.slice (some ⟨X,0,none⟩) 1 1) [1]:=by
 refine⟨some _,1,rfl,Zu,λ_=>⟨X,0,rfl,λj hj=>?_⟩⟩
 have:j=0:=by simpa using hj
 subst this;simp[World.cell?,h]
theorem wu {v0 v1 v2 v3 v4:Value} {l0 l1 l2 l3 l4:LI} (hB:W.heap[B]? = some (.cells #[v0,v1,v2,v3,v4] 23 (0,0)))
 (b0:Bs .u8 W v0 l0) (b1:Bs .u8 W v1 l1) (b2:Bs .u8 W v2 l2) (b3:Bs .u8 W v3 l3) (b4:Bs .u8 W v4 l4) (n0:NoCap v0) (n1:NoCap v1) (n2:NoCap v2) (n3:NoCap v3) (n4:NoCap v4)
 (hp:0<l0.length) (hl:(l0++(l1++(l2++(l3++l4)))).length<=140737488355328) :
 Calls prog 28 #[.slice (some ⟨B,0,none⟩) 5 5] W λe w'=>∃v',e=.returned v'∧w'.ownsRow W.heap.size 5 1 v' (l0++(l1++(l2++(l3++l4)))).length ((l0++(l1++(l2++(l3++l4)))).map (Value.int .u8))∧N0 W w':=by
 have:=VN B 5 (five v0 v1 v2 v3 v4) (five l0 l1 l2 l3 l4) W (by omega) (by omega)
  (λi hi=>by
   have e:W.cell? ⟨B,i,none⟩=(#[v0,v1,v2,v3,v4]:Array Value)[i]?:=by unfold World.cell?;simp only;rw[hB];rfl
   rw[e]
   match i,hi with
   | 0,_=>rfl
   | 1,_=>rfl
   | 2,_=>rfl
   | 3,_=>rfl
   | 4,_=>rfl)
  (λi hi=>by
   match i,hi with
   | 0,_=>exact b0
   | 1,_=>exact b1
   | 2,_=>exact b2
   | 3,_=>exact b3
   | 4,_=>exact b4)
  (λi hi=>by
   match i,hi with
   | 0,_=>exact n0
   | 1,_=>exact n1
   | 2,_=>exact n2
   | 3,_=>exact n3
   | 4,_=>exact n4)
  (by rw[GV];simp only[Qb];omega) (by rw[GV];exact hl)
 rw[GV] at this;exact this
theorem yI (t:ByteArray) (u:Value) (s:List (Int × Int)) (w:World) (h:Sps w u s) (hg:Gs s) (ht:t.size<=64) (hl:s.length<=65536) (hT:Tab w) :
 Calls prog 15 #[.agg #[.string t,u]] w λe w'=>∃v',e=.returned (.tuple #[v',.int .i64 0])∧w'.ownsRow w.heap.size 5 1 v' (ENCC (sb t) s).1.length ((ENCC (sb t) s).1.map (Value.int .u8))∧N0 w w':=by
 rw[V4 (by rw[QX];omega) hl];obtain⟨x8,h7⟩:=EX (e8c (s.map Prod.fst));obtain⟨h2,h4⟩:=EX (e11c (s.map Prod.snd));rw[<-h7,<-h4];have X8:=Qa h7;have hf:=Qa h4;clear h7 h4;have HS:=Qa h;have HG:=Qa hg;have HT:=Qa hT;have hcv:=Z6 t;obtain⟨ao,cap,rfl⟩:=h.len;obtain⟨n,hn⟩:=EX s.length;rw[<-hn] at hl HS;rw[<-hn];have HN:=Qa hn
 have d1:decide (64<(t.size:Int))=false:=by simp;omega
 have d2:decide (64<t.size)=false:=by simp;omega
 have d3:decide (65536<(n:Int))=false:=by simp;omega
 have d4:decide (65536<n)=false:=by simp;omega
 have oa:N0 w (w.alloc (.cells #[.string t,.slice ao n cap] 46)):=VG.alloc _;have AP:=Qa (xh (.slice ao n cap) s _ (HS.o.past oa) (by rw[<-hn];exact hl));have OA:=Qa oa;clear h hg hT hn oa;go_enter func15,ntmps15;go_wp2_with fail;refine AP.o.mono ?_;rintro e w1 ⟨u1,u2,rfl,b1,b2,o1⟩;obtain⟨a1,c1,e1⟩:=b1.len;obtain⟨a2,c2,e2⟩:=b2.len;subst e1 e2;have T1:=HT.o.past (OA.o.same o1);have B2:=Qa b2
 have hs:N0 (w.alloc (.cells #[.string t,.slice ao n cap] 46)) w1∧w1.cell? ⟨w.heap.size,0,none⟩=some (.string t)∧w1.cell? ⟨w.heap.size,1,none⟩=some (.slice ao n cap) :=
  Xd ⟨VG,by go_cell,by go_cell⟩ o1
 have E8:=Qa (TX _ _ w1 b1 HG.o.1)
 have e8:(ENC8 (s.map Prod.fst)).2=0:=by unfold ENC8;rw[if_neg (by rw[List.length_map,<-HN.o];omega)]
 have ho:(ENC11 (s.map Prod.snd)).2=0:=by unfold ENC11;rw[if_neg (by rw[List.length_map,<-HN.o];omega)]
 have l8:(e8c (s.map Prod.fst)).length<=600000:=by
  have:=(Ht (l:=s.map Prod.fst) (by rw[List.length_map,<-HN.o];exact hl)).1;rw[List.length_map,<-HN.o] at this
  show (ENC8 (s.map Prod.fst)).1.length<=600000
  omega
 have hp:(e11c (s.map Prod.snd)).length<=600000:=by
  have:=(Zk (l:=s.map Prod.snd) (by rw[List.length_map,<-HN.o];exact hl)).1;rw[List.length_map,<-HN.o] at this
  show (ENC11 (s.map Prod.snd)).1.length<=600000
  omega
 rw[e8] at E8
 have hr:Hid (∀W,N0 w1 W->Calls prog 34 #[.slice a2 (s.map Prod.snd).length c2] W λe w'=>∃u,e=.returned (.tuple #[u,.int .i64 0])∧w'.ownsRow W.heap.size 5 1 u (e11c (s.map Prod.snd)).length ((e11c (s.map Prod.snd)).map (Value.int .u8))∧N0 W w'):=by
  intro W o;have:=Dk (.slice a2 (s.map Prod.snd).length c2) (s.map Prod.snd) W (B2.o.past o) HG.o.2 (T1.past o);rw[ho] at this;exact this
 have O1:=Qa (OA.o.same o1);have hh:=Qa hs;have L8:=Qa l8;have h6:=Qa hp;have eB:=EX w.heap.size;clear b1 b2 o1 AP hs T1 e8 ho l8 hp HS OA HT;generalize (s.map Prod.fst).length=n1 at *;generalize (s.map Prod.snd).length=n2 at *;go_wp2_with fail;refine E8.o.mono ?_;rintro e w2 ⟨v8,rfl,h1,o2⟩;obtain⟨a8,c8,e1⟩:=(Bs.of_own h1).len;subst e1;have B8:Hid (Bs .u8 w2 (.slice a8 (ENC8 (s.map Prod.fst)).1.length c8) (e8c (s.map Prod.fst))∧NoCap (.slice a8 (ENC8 (s.map Prod.fst)).1.length c8)):=⟨Bs.of_own h1,NoCap.of_own h1⟩;have O2:=Qa (O1.o.same o2);have hk:=Qa (Xd hh.o o2);have EV:=Qa (hr.o w2 o2);clear h1 o2 E8 hr hh;generalize (ENC8 (s.map Prod.fst)).1.length=m8 at *;go_wp2_with fail;refine EV.o.mono ?_;rintro e w3 ⟨v11,rfl,h0,o3⟩;obtain⟨hj,hq,e1⟩:=(Bs.of_own h0).len;subst e1;have hb:Hid (Bs .u8 w3 (.slice a8 m8 c8) (e8c (s.map Prod.fst))∧NoCap (.slice a8 m8 c8)):=⟨B8.o.1.past o3,B8.o.2⟩;have h8:Hid (Bs .u8 w3 (.slice hj (e11c (s.map Prod.snd)).length hq) (e11c (s.map Prod.snd))∧NoCap (.slice hj (e11c (s.map Prod.snd)).length hq)):=⟨Bs.of_own h0,NoCap.of_own h0⟩;have O3:=Qa (O2.o.same o3);have HC3:=(Xd hk.o o3).2;clear h0 o3 EV hk B8;rw[<-X8.o] at hb L8;rw[<-hf.o] at h8 h6;rw[<-hf.o];generalize hm11:h2.length=m11 at *;have h3:=Qa hm11;clear hm11 HG
 have HLL:Hid (([1]++(blk (sb t)++(gs n++(blk x8++blk h2)))).length<=140737488355328):=by
  have q1:=U2 (sb t) (by rw[QX];omega);have q2:=U2 x8 (by have:=L8.o;omega);have q3:=U2 h2 (by have:=h6.o;have:=h3.o;omega);have q4:=Yu (v:=n) (by omega);have q5:=L8.o;have q6:=h6.o;have q7:=h3.o;rw[QX] at q1;simp only[Hid,Qb,Qk,List.length_nil];omega
 have hwn:IntKind.u64.wrap (n:Int)=n:=by rw[IntKind.wrap_u64];omega
 obtain⟨he,hm⟩:=HC3;clear O1 O2;go_wp2_with fail;have hS3:N0 w3 w3∧w3.cell? ⟨w.heap.size,0,none⟩=some (Value.string t)∧w3.cell? ⟨w.heap.size,1,none⟩=some (Value.slice ao n cap):=⟨VG,he,hm⟩;clear he hm
 go_region_held (λW=>N0 w3 W∧W.cell? ⟨w.heap.size,0,none⟩=some (Value.string t)∧W.cell? ⟨w.heap.size,1,none⟩=some (Value.slice ao n cap)) ((refine Xd hS3 ?_;(repeat (first | with_reducible exact VG | assumption|(with_reducible refine Only.drew ?_)|(with_reducible refine Only.alloc ?_ _)|(with_reducible apply Only.same;case k=>assumption)))))
  (first
   | (go_at_call 35;refine (UO (.slice none 0 0) [] n _ (Bs.nil _ _) NoCap.nil (by simp) (by omega) (by omega)).mono ?_;rintro e wv ⟨vv,rfl,h5,ov⟩;rw[List.nil_append,Int.toNat_natCast] at h5;(obtain⟨av,cv,ev⟩:=(Bs.of_own h5).len);subst ev)
   | (go_at_call_of 27 (t.size);refine (Ke _ (sb t) _ (Xn (by (repeat (first | (with_reducible refine YH ?_;simp;done) | (with_reducible refine ZH ?_) | (with_reducible refine Y0 ?_)))) (grownCap_ge _ _ _ _)) (NoCap.some _ _ _) (by rw[QX];omega)).mono ?_;rintro e wt ⟨vt,rfl,h9,ot⟩;(obtain⟨at1,ct,et⟩:=(Bs.of_own h9).len);subst et)
   | (go_at_call_of 27 m8;refine (Ke _ x8 _ (hb.o.1.past (by (repeat (first | with_reducible exact VG | assumption | (with_reducible refine Only.drew ?_) | (with_reducible refine Only.alloc ?_ _) | (with_reducible apply Only.same;case k=>assumption))))) hb.o.2 (by have:=L8.o;omega)).mono ?_;rintro e w8 ⟨v8,rfl,h1,o8⟩;(obtain⟨ab8,cb8,eb8⟩:=(Bs.of_own h1).len);subst eb8)
   | (go_at_call_of 27 m11;refine (Ke _ h2 _ (h8.o.1.past (by (repeat (first | with_reducible exact VG | assumption | (with_reducible refine Only.drew ?_) | (with_reducible refine Only.alloc ?_ _) | (with_reducible apply Only.same;case k=>assumption))))) h8.o.2 (by have:=h6.o;have:=h3.o;omega)).mono ?_;rintro e wp ⟨vp,rfl,hd,op⟩;(obtain⟨ap,cp,ep⟩:=(Bs.of_own hd).len);subst ep)
   | (go_at_call 28;refine Calls.mono (wu (l0:=[1]) (l1:=blk (sb t)) (l2:=gs n) (l3:=blk x8) (l4:=blk h2) (by (repeat (first | (with_reducible refine YH ?_;simp;done) | (with_reducible refine ZH ?_) | (with_reducible refine Y0 ?_)))) (by (repeat (first | (with_reducible refine zE ?_;(repeat (first | (with_reducible refine YH ?_;simp;done) | (with_reducible refine ZH ?_) | (with_reducible refine Y0 ?_)));done) | (with_reducible refine Bs.past ?_ (VG.drew)) | (with_reducible refine Bs.past ?_ (VG.alloc _)) | (with_reducible apply Bs.past;case o=>assumption)))) (by (repeat (first | (with_reducible apply Bs.of_own;assumption) | (with_reducible refine Bs.past ?_ (VG.drew)) | (with_reducible refine Bs.past ?_ (VG.alloc _)) | (with_reducible apply Bs.past;case o=>assumption)))) (by (repeat (first | (with_reducible apply Bs.of_own;assumption) | (with_reducible refine Bs.past ?_ (VG.drew)) | (with_reducible refine Bs.past ?_ (VG.alloc _)) | (with_reducible apply Bs.past;case o=>assumption)))) (by (repeat (first | (with_reducible apply Bs.of_own;assumption) | (with_reducible refine Bs.past ?_ (VG.drew)) | (with_reducible refine Bs.past ?_ (VG.alloc _)) | (with_reducible apply Bs.past;case o=>assumption)))) (by (repeat (first | (with_reducible apply Bs.of_own;assumption) | (with_reducible refine Bs.past ?_ (VG.drew)) | (with_reducible refine Bs.past ?_ (VG.alloc _)) | (with_reducible apply Bs.past;case o=>assumption)))) (NoCap.some _ _ _) (by (with_reducible exact NoCap.of_own (by assumption))) (by (with_reducible exact NoCap.of_own (by assumption))) (by (with_reducible exact NoCap.of_own (by assumption))) (by (with_reducible exact NoCap.of_own (by assumption))) (by simp) HLL.o) ?_;rintro e wc ⟨vc,rfl,ha,oc⟩))
 all_goals
  go_wp2;go_ret2;refine⟨vc,rfl,Qr (show World.ownsRow _ _ _ _ _ (1 :: (blk (sb t)++(gs n++(blk x8++blk h2)))).length ((1 :: (blk (sb t)++(gs n++(blk x8++blk h2)))).map (Value.int .u8)) from ha) (Nat.le_trans O3.o.size (Only.size (S:=λ_=>False) ?_)),Only.same O3.o ?_⟩
  all_goals (repeat (first | with_reducible exact VG | assumption|(with_reducible refine Only.drew ?_)|(with_reducible refine Only.alloc ?_ _)|(with_reducible apply Only.same;case k=>assumption)))
theorem CH (t:ByteArray) (u:Value) (s:List (Int × Int)) (w:World) (h:Sps w u s) (hg:Gs s) (hm:s.length<=maxLen) (hm2:t.size<=maxLen) (hT:Tab w) :
 Calls prog 15 #[.agg #[.string t,u]] w λe w'=>∃v',e=.returned (.tuple #[v',.int .i64 (ENCC (sb t) s).2])∧w'.ownsRow w.heap.size 5 1 v' (ENCC (sb t) s).1.length ((ENCC (sb t) s).1.map (Value.int .u8))∧N0 w w':=by
 by_cases hl:64<t.size∨65536<s.length
 ·rw[GK (by rw[QX];exact hl)]
  refine (wE t u s w h hl hm hm2).mono ?_;rintro e w' ⟨rfl,o⟩;exact⟨_,rfl,Xh,o⟩
 ·have e:(ENCC (sb t) s).2=0:=by rw[V4 (by rw[QX];omega) (by omega)]
  rw[e];exact yI t u s w h hg (by omega) (by omega) hT
end
end Go.Proofs.YtiochaeeoelmjaaGreatDoor
