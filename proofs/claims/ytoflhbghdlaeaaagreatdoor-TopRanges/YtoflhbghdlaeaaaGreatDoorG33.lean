import Derived.Test.YtoflhbghdlaeaaaGreatDoorG32
namespace Go.Proofs.YtoflhbghdlaeaaaGreatDoor
set_option maxHeartbeats 4000000
set_option maxRecDepth 100000
open Go.RowKit _root_.Go.Proofs.Tryz
variable {w w' W:World} {v:Value} {ys xs l:LI} {R n p k g B:Nat} {P:Program} {ls:List (LI)} {E:TypeId}
def W2 (wn:Option (Nat × Nat)) (a d:Nat):Prop:=(wn=none∧a=0∧d=0)∨∃z,wn=some (a,z)∧a<=31∧a+z+d=64∧0<d
theorem W2.none:W2 .none 0 0:=.inl ⟨rfl,rfl,rfl⟩
theorem W2.le {wn:Option (Nat × Nat)} {a d:Nat} (h:W2 wn a d):a<=31∧d<=64:=by
 rcases h with ⟨_,rfl,rfl⟩ | ⟨z,_,h1,h2,h3⟩ <;> omega
structure Ws (w:World) (lo B:Nat) (v:Value) (w1:World) (v1:Value) (l1:List Bool) (a d:Nat):Prop where
 wr:WrAt 292 5 w1 lo B v1 l1
 on:Only (Foot B v) w w1
 st:Stays w v v1
 nb:∀k,v1.ownBlock=some k->k≠w.heap.size∧k≠w.heap.size+1
 lt:B<w.heap.size
 box:w1.heap[w.heap.size]? = some (.cells #[.int .i64 a,.int .i64 d] 303 (0,0))
 res:w1.heap[w.heap.size+1]? = some (.cells #[.int .i64 0,.int .i64 0] 303 (0,0))
theorem WrAt.lt_size {T E:TypeId} {lo B:Nat} {l:List Bool} (h:WrAt T E w lo B v l):B<w.heap.size:=Nat.lt_of_lt_of_le h.lt h.le
theorem Ws.start {lo B:Nat} {l:List Bool} (h:WrAt 292 5 w lo B v l) (a d:Nat) :
 Ws w lo B v ((w.alloc (.cells #[.int .i64 a,.int .i64 d] 303)).alloc (.cells #[.int .i64 0,.int .i64 0] 303)) v l a d where
 wr:=h.keep (((Only.refl (λ_=>False) w).alloc _).alloc _) (λf=>f) (λ_ _ f=>f)
 on:=((Only.refl _ w).alloc _).alloc _
 st:=Stays.refl _ _
 nb:=λk hk=>by have:=(h.own.lt k hk).2;omega
 lt:=h.lt_size
 box:=by
  have:=heap_alloc_last w (.cells #[.int .i64 a,.int .i64 d] 303);exact ((Only.refl (λ_=>False) _).alloc _).heap this (λf=>f)
 res:=by
  have:=heap_alloc_last (w.alloc (.cells #[.int .i64 a,.int .i64 d] 303)) (.cells #[.int .i64 0,.int .i64 0] 303)
  rwa [show (w.alloc (.cells #[.int .i64 a,.int .i64 d] 303)).heap.size=w.heap.size+1 from Array.size_push ..] at this
theorem Ws.big {lo B:Nat} {w1:World} {v1:Value} {l1:List Bool} {a d:Nat} (h:Ws w lo B v w1 v1 l1 a d):w.heap.size+1<w1.heap.size:=by
 rcases Nat.lt_or_ge (w.heap.size+1) w1.heap.size with e | e
 ·exact e
 ·have:=h.res
  rw[Array.getElem?_eq_none e] at this
  cases this
theorem Ws.put {lo B:Nat} {w1 w2:World} {v1 v2:Value} {l1 l2:List Bool} {a d:Nat} (h:Ws w lo B v w1 v1 l1 a d)
 (h2:WrAt 292 5 w2 lo B v2 l2) (o:Only (Foot B v1) w1 w2) (s:Stays w1 v1 v2):Ws w lo B v w2 v2 l2 a d where
 wr:=h2
 on:=h.on.trans o (Hk h.st)
 st:=h.st.trans s h.on.size
 nb:=λk hk=>by
  rcases s with e | e
  ·rw[e] at hk;exact h.nb k hk
  ·have:=e k hk;have:=h.big;omega
 lt:=h.lt
 box:=o.heap h.box (λf=>by
  rcases f with e | e
  ·have:=h.lt;omega
  ·exact (h.nb _ e).1 rfl)
 res:=o.heap h.res (λf=>by
  rcases f with e | e
  ·have:=h.lt;omega
  ·exact (h.nb _ e).2 rfl)
theorem Ws.past {lo B:Nat} {w1 w2:World} {v1:Value} {l1:List Bool} {a d:Nat} (h:Ws w lo B v w1 v1 l1 a d) (o:N0 w1 w2):Ws w lo B v w2 v1 l1 a d :=
 h.put (h.wr.keep o (λf=>f) (λ_ _ f=>f)) (o.mono (λ_ _ f=>f.elim)) (Stays.refl _ _)
theorem Vr {K:Nat} (x y:Value) {S:Nat->Prop} (hS:S K):Only S w ((w.setCell ⟨K,0,none⟩ x).setCell ⟨K,1,none⟩ y) :=
 ((Only.refl S w).setCell (λ_=>hS) x).setCell (λ_=>hS) y
theorem JX {K:Nat} {a b:Value} {T:TypeId} (x y:Value) (h:w.heap[K]? = some (.cells #[a,b] T (0,0))) :
 ((w.setCell ⟨K,0,none⟩ x).setCell ⟨K,1,none⟩ y).heap[K]? = some (.cells #[x,y] T (0,0)):=(VB ((VB h x).1) y).2
theorem Ws.set {lo B:Nat} {w1:World} {v1:Value} {l1:List Bool} {a d:Nat} (h:Ws w lo B v w1 v1 l1 a d) (a' d':Nat) :
 Ws w lo B v ((w1.setCell ⟨w.heap.size,0,none⟩ (.int .i64 a')).setCell ⟨w.heap.size,1,none⟩ (.int .i64 d')) v1 l1 a' d' where
 wr:=h.wr.keep (Vr (S:=λk=>k=w.heap.size) _ _ rfl) (λf=>by have:=h.lt;omega) (λk hk f=>(h.nb k hk).1 f)
 on:=((h.on.setCell (p:=⟨w.heap.size,0,none⟩) (λf=>absurd f (Nat.lt_irrefl _)) _).setCell (p:=⟨w.heap.size,1,none⟩) (λf=>absurd f (Nat.lt_irrefl _)) _)
 st:=h.st
 nb:=h.nb
 lt:=h.lt
 box:=JX _ _ h.box
 res:=(Vr (S:=λk=>k=w.heap.size) _ _ rfl).heap h.res (λf=>by omega)
theorem Ws.fin {lo B:Nat} {w1:World} {v1:Value} {l1:List Bool} {a d:Nat} (h:Ws w lo B v w1 v1 l1 a d) (x y:Value) {w2:World} (e:w2=(w1.setCell ⟨w.heap.size+1,0,none⟩ x).setCell ⟨w.heap.size+1,1,none⟩ y) :
 w2.heap[w.heap.size+1]? = some (.cells #[x,y] 303 (0,0))∧WrAt 292 5 w2 lo B v1 l1∧Only (Foot B v) w w2∧Stays w v v1:=by
 subst e;refine⟨JX _ _ h.res,h.wr.keep (Vr (S:=λk=>k=w.heap.size+1) _ _ rfl) (λf=>by have:=h.lt;omega) (λk hk f=>(h.nb k hk).2 f),?_,h.st⟩;exact ((h.on.setCell (p:=⟨w.heap.size+1,0,none⟩) (λ(f:w.heap.size+1<w.heap.size)=>absurd f (by omega)) _).setCell (p:=⟨w.heap.size+1,1,none⟩) (λ(f:w.heap.size+1<w.heap.size)=>absurd f (by omega)) _)
theorem Nz:Qr (Int.toNat 0) (Int.toNat 1)=[false]:=by decide
theorem Tm:Qr (Int.toNat 1) (Int.toNat 1)=[true]:=by decide
theorem kI {lo B:Nat} {l:List Bool} (h:WrAt 292 5 w lo B v l) (a d:Nat) (hl:l.length<=100000000) :
 Calls prog 270 #[.pointer (some ⟨B,0,none⟩),.int .u64 0,.agg #[.int .i64 a,.int .i64 d]] w λe w'=>e=.returned (.agg #[.int .i64 a,.int .i64 d]) ∧
  ∃v',WrAt 292 5 w' lo B v' (l++[false])∧Only (Foot B v) w w'∧Stays w v v':=by
 have S0:=Qa (Ws.start h a d);have P1:=Qa (U9 S0.o.wr 0 1 (by omega) (by omega) (by omega) (by omega) (by decide) (by omega));rw[Nz] at P1;clear h;go_enter func270,ntmps270;go_wp2_with fail;refine P1.o.mono ?_;rintro e w1 ⟨rfl,v1,h1,o1,s1⟩;have S1:=Qa (S0.o.put h1 o1 s1);clear h1 o1 s1 S0 P1;obtain⟨c0,c1,_,_⟩:=QU S1.o.box;obtain⟨c2,c3,f2,f3⟩:=QU S1.o.res;go_wp2;obtain⟨g,r1,r2,r3⟩:=S1.o.fin (.int .i64 a) (.int .i64 d) rfl;exact bodyPost_ret (results_cell_row rfl _ _ (w.heap.size+1) 303 _ (0,0) _ rfl g underlying303 rfl Tryz.sizeWin) rfl ⟨rfl,v1,r1,r2,r3⟩
theorem PI {w w1:World} {lo B:Nat} {v v1:Value} {l1:List Bool} {a d:Nat} (S:Ws w lo B v w1 v1 l1 a d) (x:Int) (y z:Nat) (e3:x / 2^z=(y:Int)) (hy:y<18446744073709551616) (hd:d<=64) (y2:wid y<=d) (hl:l1.length<=1000000000) :
 Calls prog 261 #[.pointer (some ⟨B,0,none⟩),.int .u64 (x / 2^z),.int .i64 d] w1 λe w'=>e=.returned (.int .i64 0)∧∃v',Ws w lo B v w' v' (l1++Qr y d) a d:=by
 rw[e3];refine (U9 S.wr y d (by omega) (by omega) (by omega) (by omega) (by simpa using y2) hl).mono ?_;rintro e w' ⟨rfl,v',h,o,s⟩;simp only[Int.toNat_natCast] at h;exact⟨rfl,v',S.put h o s⟩
theorem Ei {lo B:Nat} {l:List Bool} (h:WrAt 292 5 w lo B v l) (a z d x:Nat) (hl:l.length<=100000000) (h0:0<x) (hx:x<18446744073709551616) (hs:a+z+d=64) (hd:0<d) (hf:fitsW x a z) :
 Calls prog 270 #[.pointer (some ⟨B,0,none⟩),.int .u64 x,.agg #[.int .i64 a,.int .i64 d]] w λe w'=>e=.returned (.agg #[.int .i64 a,.int .i64 d]) ∧
  ∃v',WrAt 292 5 w' lo B v' (l++[true]++[false]++Qr (x / 2^z) d)∧Only (Foot B v) w w'∧Stays w v v':=by
 have S0:=Qa (Ws.start h a d);have P1:=Qa (U9 S0.o.wr 1 1 (by omega) (by omega) (by omega) (by omega) (by decide) (by omega));rw[Tm] at P1
 have hne:((x:Int) == 0)=false:=by rw[beq_eq_false_iff_ne];omega
 have z64:(z:Int)<64:=by omega
 have e3:Hid ((x:Int) / 2^z=((x / 2^z:Nat):Int)):=by simp only[Hid];push_cast;rfl
 have y1:x / 2^z<=x:=Nat.div_le_self _ _;have y2:wid (x / 2^z)<=d:=((Je h0 hx hs hd).1 hf).2
 have FI:=λw=>Qa (GT a z d x w h0 hx hs hd)
 rw[Qe hf] at FI;generalize hy:x / 2^z=y at *;clear h hf hy;go_enter func270,ntmps270;go_wp2_with fail;refine P1.o.mono ?_;rintro e w1 ⟨rfl,v1,h1,o1,s1⟩;have S1:=Qa (S0.o.put h1 o1 s1);clear h1 o1 s1 S0 P1;obtain⟨c0,c1,_,_⟩:=QU S1.o.box;go_wp2_with fail;refine (TY a d _ (by omega)).mono ?_;rintro e w2 ⟨rfl,o2⟩;have S2:=Qa (S1.o.past o2);clear S1 o2 c0 c1;obtain⟨c0,c1,_,_⟩:=QU S2.o.box;go_wp2_with fail;refine (FI _).out.mono ?_;rintro e w3 ⟨rfl,o3⟩;have S3:=Qa (S2.o.past o3);clear S2 o3 c0 c1 FI;have P3:=Qa (U9 S3.o.wr 0 1 (by omega) (by omega) (by omega) (by omega) (by decide) (by simp;omega));rw[Nz] at P3;go_wp2_with fail;refine P3.o.mono ?_;rintro e w4 ⟨rfl,v4,h4,o4,s4⟩;have S4:=Qa (S3.o.put h4 o4 s4);clear h4 o4 s4 S3 P3;obtain⟨c0,c1,_,_⟩:=QU S4.o.box;go_wp2;have SD:=Qa (S4.o.past ((Only.refl (λ_=>False) w4).drew))
 have hl4:(l++[true]++[false]).length<=1000000000:=by simp;omega
 go_region_with (first|(go_at_call 290;refine (Kt a z d _ hs).mono ?_;rintro e w5 ⟨rfl,o5⟩;have S5:=Qa (SD.o.past o5);have c2:=(QU S5.o.box).2.1)|(go_at_call 261;refine (PI S5.o (x:Int) y z e3.o (by omega) (by omega) y2 hl4).mono ?_;rintro e w6 ⟨rfl,v6,S6⟩))
 all_goals
  have S7:=Qa S6;clear S6;clear c0 c1;obtain⟨c0,c1,_,_⟩:=QU S7.o.box;obtain⟨c2,c3,f2,f3⟩:=QU S7.o.res;go_wp2;obtain⟨g,r1,r2,r3⟩:=S7.o.fin (.int .i64 a) (.int .i64 d) rfl;exact bodyPost_ret (results_cell_row rfl _ _ (w.heap.size+1) 303 _ (0,0) _ rfl g underlying303 rfl Tryz.sizeWin) rfl ⟨rfl,v6,r1,r2,r3⟩
theorem Ws.tab {lo B:Nat} {w1:World} {v1:Value} {l1:List Bool} {a d:Nat} (h:Ws w lo B v w1 v1 l1 a d) (hT:Tab w) (hB:0<B) (hv:∀k,v.ownBlock=some k->0<k):Tab w1 :=
 hT.keep h.on (λf=>by
  rcases f with e | e
  ·omega
  ·exact absurd (hv 0 e) (by omega))
theorem wid_5 (h:n<=31):wid n<=5:=(Yd n 5).2 (by omega)
theorem wid_6 (h:n<=63):wid n<=6:=(Yd n 6).2 (by omega)
theorem JT {w w1:World} {lo B:Nat} {v v1:Value} {l1:List Bool} {a d:Nat} (S:Ws w lo B v w1 v1 l1 a d) (x:Int) (n q:Nat) (e:x=(n:Int)) (hn:n<18446744073709551616) (hq:q<=64) (hw:wid n<=q) (hl:l1.length<=1000000000) :
 Calls prog 261 #[.pointer (some ⟨B,0,none⟩),.int .u64 x,.int .i64 q] w1 λe w'=>e=.returned (.int .i64 0)∧∃v',Ws w lo B v w' v' (l1++Qr n q) a d:=by
 subst e;refine (U9 S.wr n q (by omega) (by omega) (by omega) (by omega) (by simpa using hw) hl).mono ?_;rintro e w' ⟨rfl,v',h,o,s⟩;simp only[Int.toNat_natCast] at h;exact⟨rfl,v',S.put h o s⟩
theorem LN {lo B:Nat} {l:List Bool} (h:WrAt 292 5 w lo B v l) (x:Nat) (a z d:Nat) (hw:a=0∧d=0∨a+z+d=64∧0<d∧¬fitsW x a z) (hl:l.length<=100000000) (h0:0<x) (hx:x<18446744073709551616) (hT:Tab w) (hB:0<B) :
 Calls prog 270 #[.pointer (some ⟨B,0,none⟩),.int .u64 x,.agg #[.int .i64 a,.int .i64 d]] w λe w'=>e=.returned (.agg #[.int .i64 (ldz x:Nat),.int .i64 (64 - ldz x - tz x:Nat)]) ∧
  ∃v',WrAt 292 5 w' lo B v' (l++[true]++[true]++Qr (ldz x) 5++Qr (63 - ldz x - tz x) 6++Qr (x / 2^tz x) (64 - ldz x - tz x))∧Only (Foot B v) w w'∧Stays w v v':=by
 have S0:=Qa (Ws.start h a d);have P1:=Qa (U9 S0.o.wr 1 1 (by omega) (by omega) (by omega) (by omega) (by decide) (by omega));rw[Tm] at P1
 have hne:((x:Int) == 0)=false:=by rw[beq_eq_false_iff_ne];omega
 have hv0:∀k,v.ownBlock=some k->0<k:=λk hk=>by have:=(h.own.lt k hk).1;have:=h.lt;omega
 obtain⟨n1,n2,n3⟩:=Xp h0 hx
 have WO:=λw hT=>Qa (wH (x:Int) w (by omega) (by omega) hT)
 simp only[Int.toNat_natCast] at WO
 have e3:Hid ((x:Int) / 2^tz x=((x / 2^tz x:Nat):Int)):=by simp only[Hid];push_cast;rfl
 have y1:x / 2^tz x<=x:=Nat.div_le_self _ _;have y2:wid (x / 2^tz x)<=64 - ldz x - tz x:=(Yd _ _).2 (PY hx n2 n3);have HW:=Qa hw;clear hw;generalize hy:x / 2^tz x=y at *;generalize ldz x=a' at *;generalize tz x=z' at *;obtain⟨d',h2⟩:∃d',d'=64 - a' - z':=⟨_,rfl⟩;rw[show 63 - a' - z'=d' - 1 by omega,<-h2];rw[<-h2] at WO y2
 have hs':a'+z'+d'=64:=by omega
 have hp':0<d':=by omega
 clear h hy h2 n2 n3
 have z64:(z':Int)<64:=by omega
 have dd:(d':Int) - 1=((d' - 1:Nat):Int):=by omega
 go_enter func270,ntmps270;go_wp2_with fail;refine P1.o.mono ?_;rintro e w1 ⟨rfl,v1,h1,o1,s1⟩;have S1:=Qa (S0.o.put h1 o1 s1);clear h1 o1 s1 S0 P1;obtain⟨c0,c1,_,_⟩:=QU S1.o.box
 rcases HW.o with ⟨rfl,rfl⟩ | ⟨hs,hd,hf⟩
 case' inl =>
  go_wp2_with fail;refine (Au _).mono ?_;rintro e w3 ⟨rfl,o2⟩;have S3:=Qa (S1.o.past o2);clear S1 o2 c0 c1
 case' inr =>
  have FI:=λw=>Qa (GT a z d x w h0 hx hs hd)
  rw[Qb hf] at FI;clear hf;go_wp2_with fail;refine (TY a d _ (by omega)).mono ?_;rintro e w2 ⟨rfl,o2⟩;have S2:=Qa (S1.o.past o2);clear S1 o2 c0 c1;obtain⟨c0,c1,_,_⟩:=QU S2.o.box;go_wp2_with fail;refine (FI _).out.mono ?_;rintro e w3 ⟨rfl,o3⟩;have S3:=Qa (S2.o.past o3);clear S2 o3 c0 c1 FI
 all_goals
  have W3:=WO w3 (S3.o.tab hT hB hv0);clear WO;go_wp2_with fail;refine W3.o.mono ?_;rintro e w4 ⟨rfl,o4⟩;have S4:=Qa (S3.o.past o4);clear S3 o4 W3;obtain⟨c0,c1,f0,f1⟩:=QU S4.o.box;have S5:=Qa (S4.o.set a' d');have P5:=Qa (JT S5.o 1 1 1 rfl (by omega) (by omega) (by decide) (by simp;omega));rw[show Qr 1 1=[true] by decide] at P5;clear S4;go_wp2_with fail;refine P5.o.mono ?_;rintro e w6 ⟨rfl,v6,s6⟩;have S6:=Qa s6;clear s6 S5 P5 c0 c1 f0 f1;obtain⟨c0,c1,_,_⟩:=QU S6.o.box;have P6:=Qa (JT S6.o (a':Int) a' 5 rfl (by omega) (by omega) (wid_5 n1) (by simp;omega));go_wp2_with fail;refine P6.o.mono ?_;rintro e w7 ⟨rfl,v7,s7⟩;have S7:=Qa s7;clear s7 S6 P6 c0 c1;obtain⟨c0,c1,_,_⟩:=QU S7.o.box;have P7:=Qa (JT S7.o ((d' - 1:Nat):Int) (d' - 1) 6 rfl (by omega) (by omega) (wid_6 (by omega)) (by simp[Ug];omega));go_wp2_with fail;refine P7.o.mono ?_;rintro e w8 ⟨rfl,v8,s8⟩;have S8:=Qa s8;clear s8 S7 P7 c0 c1;obtain⟨c0,c1,_,_⟩:=QU S8.o.box;go_wp2;have SD:=Qa (S8.o.past ((Only.refl (λ_=>False) w8).drew))
  have hl4:(l++[true]++[true]++Qr a' 5++Qr (d' - 1) 6).length<=1000000000:=by simp[Ug];omega
  go_region_with (first|(go_at_call 290;refine (Kt a' z' d' _ hs').mono ?_;rintro e w5 ⟨rfl,o5⟩;have S5:=Qa (SD.o.past o5);have c2:=(QU S5.o.box).2.1)|(go_at_call 261;refine (PI S5.o (x:Int) y z' e3.o (by omega) (by omega) y2 hl4).mono ?_;rintro e w6 ⟨rfl,v6,S6⟩))
  all_goals
   have S9:=Qa S6;clear S6;clear c0 c1;obtain⟨c0,c1,_,_⟩:=QU S9.o.box;obtain⟨c2,c3,f2,f3⟩:=QU S9.o.res;go_wp2;obtain⟨g,r1,r2,r3⟩:=S9.o.fin (.int .i64 a') (.int .i64 d') rfl;exact bodyPost_ret (results_cell_row rfl _ _ (w.heap.size+1) 303 _ (0,0) _ rfl g underlying303 rfl Tryz.sizeWin) rfl ⟨rfl,v6,r1,r2,r3⟩
theorem BB {lo B:Nat} {l:List Bool} (h:WrAt 292 5 w lo B v l) (x:Nat) (wn:Option (Nat × Nat)) (a d:Nat) (hwn:W2 wn a d) (hl:l.length<=100000000) (hx:x<18446744073709551616) (hT:Tab w) (hB:0<B) :
 Calls prog 270 #[.pointer (some ⟨B,0,none⟩),.int .u64 x,.agg #[.int .i64 a,.int .i64 d]] w λe w'=>∃a' d':Nat,e=.returned (.agg #[.int .i64 a',.int .i64 d'])∧W2 (gx x wn).2 a' d' ∧
  ∃v',WrAt 292 5 w' lo B v' (l++(gx x wn).1)∧Only (Foot B v) w w'∧Stays w v v':=by
 by_cases h0:x=0
 ·subst h0
  have e:gx 0 wn=([false],wn):=by unfold gx;rw[if_pos rfl]
  rw[e];refine (kI h a d hl).mono ?_;rintro e w' ⟨rfl,r⟩;exact⟨a,d,rfl,hwn,r⟩
 ·obtain⟨n1,n2,n3⟩:=Xp (Nat.pos_of_ne_zero h0) hx
  have hw:W2 (some (ldz x,tz x)) (ldz x) (64 - ldz x - tz x):=.inr ⟨tz x,rfl,n1,by omega,by omega⟩
  have hN:∀m:List Bool,m++[true]++[true]++Qr (ldz x) 5++Qr (63 - ldz x - tz x) 6++Qr (x / 2^tz x) (64 - ldz x - tz x)=m++newW x:=λm=>by unfold newW;simp
  rcases hwn with ⟨rfl,rfl,rfl⟩ | ⟨z,rfl,h1,h2,h3⟩
  ·have e:gx x none=(newW x,some (ldz x,tz x)):=by unfold gx;rw[if_neg h0]
   rw[e];refine (LN h x 0 0 0 (.inl ⟨rfl,rfl⟩) hl (Nat.pos_of_ne_zero h0) hx hT hB).mono ?_;rintro e w' ⟨rfl,v',r⟩;rw[hN] at r;exact⟨_,_,rfl,hw,v',r⟩
  ·by_cases hf:fitsW x a z
   ·have e:gx x (some (a,z))=(true :: false :: Qr (x / 2^z) (64 - a - z),some (a,z)):=by unfold gx;rw[if_neg h0];simp only;rw[if_pos hf]
    rw[e];refine (Ei h a z d x hl (Nat.pos_of_ne_zero h0) hx h2 h3 hf).mono ?_;rintro e w' ⟨rfl,v',r⟩;rw[show l++[true]++[false]++Qr (x / 2^z) d=l++true :: false :: Qr (x / 2^z) (64 - a - z) by rw[show 64 - a - z=d by omega];simp] at r;exact⟨a,d,rfl,.inr ⟨z,rfl,h1,h2,h3⟩,v',r⟩
   ·have e:gx x (some (a,z))=(newW x,some (ldz x,tz x)):=by unfold gx;rw[if_neg h0];simp only;rw[if_neg hf]
    rw[e];refine (LN h x a z d (.inr ⟨h2,h3,hf⟩) hl (Nat.pos_of_ne_zero h0) hx hT hB).mono ?_;rintro e w' ⟨rfl,v',r⟩;rw[hN] at r;exact⟨_,_,rfl,hw,v',r⟩
def gW:Nat->Option (Nat × Nat)->LI->Option (Nat × Nat)
 | _,wn,[]=>wn
 | p,wn,y :: t=>gW y.toNat (gx (p ^^^ y.toNat) wn).2 t
def gL:Nat->LI->Nat
 | p,[]=>p
 | _,y :: t=>gL y.toNat t
theorem vy (l:LI) (y:Int):∀(p:Nat) (wn:Option (Nat × Nat)),gE p wn (l++[y])=gE p wn l++(gx (gL p l ^^^ y.toNat) (gW p wn l)).1∧gW p wn (l++[y])=(gx (gL p l ^^^ y.toNat) (gW p wn l)).2:=by
 induction l with
 | nil=>intro p wn;simp[gE,gW,gL]
 | cons z t ih =>
  intro p wn;obtain⟨h1,h2⟩:=ih z.toNat (gx (p ^^^ z.toNat) wn).2
  constructor
  ·rw[List.cons_append,gE,h1,gE,gL,gW,List.append_assoc]
  ·rw[List.cons_append,gW,h2,gL,gW]
theorem kG (t:LI) (k:Nat) (h:k<t.length):t.take (k+1)=t.take k++[t.getD k 0]:=by
 rw[List.take_add_one,Qd,Qg h];rfl
theorem uE (t:LI):∀(x0:Int) (k:Nat),k<=t.length->gL x0.toNat (t.take k)=((x0 :: t).getD k 0).toNat:=by
 induction t with
 | nil =>
  intro x0 k hk
  obtain rfl:k=0:=by simpa using hk
  rfl
 | cons y t ih =>
  intro x0 k hk
  cases k with
  | zero=>rfl
  | succ k =>
   rw[List.take_succ_cons,gL,ih y k (by simpa using hk)]
   rfl
theorem Cu (x0:Int) (t:LI) (k:Nat) (h:k<t.length) :
 gE x0.toNat none (t.take (k+1))=gE x0.toNat none (t.take k)++(gx (((x0 :: t).getD k 0).toNat ^^^ (t.getD k 0).toNat) (gW x0.toNat none (t.take k))).1 ∧
 gW x0.toNat none (t.take (k+1))=(gx (((x0 :: t).getD k 0).toNat ^^^ (t.getD k 0).toNat) (gW x0.toNat none (t.take k))).2:=by
 rw[kG t k h,<-uE t x0 k (by omega)];exact vy _ _ _ _
theorem xor_i {x y:Int} (x0:0<=x) (x1:x<=18446744073709551615) (y0:0<=y) (y1:y<=18446744073709551615):bits .xor .u64 y x=((x.toNat ^^^ y.toNat:Nat):Int):=by
 have:=bits_xor_u64_nat y.toNat x.toNat (by omega) (by omega);rw[Int.toNat_of_nonneg x0,Int.toNat_of_nonneg y0] at this;rw[this,Nat.xor_comm]
theorem IA {b i:Nat} (h:w.cell? ⟨b,i,none⟩=some v):b<w.heap.size:=by
 rcases Nat.lt_or_ge b w.heap.size with e | e
 ·exact e
 ·have e2:w.heap[b]? = none:=Array.getElem?_eq_none e
  simp[World.cell?,e2] at h
structure Es (w:World) (K:Nat) (wr:World) (vw:Value) (l:List Bool) (wn:Option (Nat × Nat)) (a d:Nat):Prop where
 be:Below w.heap.size w wr
 wt:WrAt 292 5 wr (w.heap.size+1) w.heap.size vw l
 nb:∀q,vw.ownBlock=some q->q≠K
 gt:w.heap.size<K
 box:wr.heap[K]? = some (.cells #[.int .i64 a,.int .i64 d] 303 (0,0))
 wi:W2 wn a d
theorem Es.lt {K:Nat} {wr:World} {vw:Value} {l:List Bool} {wn:Option (Nat × Nat)} {a d:Nat} (h:Es w K wr vw l wn a d):K<wr.heap.size:=by
 rcases Nat.lt_or_ge K wr.heap.size with e | e
 ·exact e
 ·have:=h.box
  rw[Array.getElem?_eq_none e] at this
  cases this
theorem Es.drew {K:Nat} {wr:World} {vw:Value} {l:List Bool} {wn:Option (Nat × Nat)} {a d:Nat} (h:Es w K wr vw l wn a d):Es w K wr.drew vw l wn a d :=
 ⟨h.be.drew,h.wt.keep ((Only.refl (λ_=>False) wr).drew) (λf=>f) (λ_ _ f=>f),h.nb,h.gt,h.box,h.wi⟩
theorem Es.off {K:Nat} {wr:World} {vw:Value} {l:List Bool} {wn:Option (Nat × Nat)} {a d:Nat} (h:Es w K wr vw l wn a d) (f:Foot w.heap.size vw K):False:=by
 rcases f with e | e
 ·have:=h.gt;omega
 ·exact h.nb _ e rfl
theorem Es.next {K:Nat} {wr w2:World} {vw v2:Value} {l l2:List Bool} {wn wn2:Option (Nat × Nat)} {a d a2 d2:Nat} (h:Es w K wr vw l wn a d)
 (h2:WrAt 292 5 w2 (w.heap.size+1) w.heap.size v2 l2) (o:Only (Foot w.heap.size vw) wr w2) (s:Stays wr vw v2) (hw:W2 wn2 a2 d2) :
 Es w K ((w2.setCell ⟨K,0,none⟩ (.int .i64 a2)).setCell ⟨K,1,none⟩ (.int .i64 d2)) v2 l2 wn2 a2 d2:=by
 have h1:∀q,v2.ownBlock=some q->q≠K:=λq hq=>by
  rcases s with e | e
  ·rw[e] at hq;exact h.nb q hq
  ·have:=e q hq;have:=h.lt;omega
 have h0:=o.heap h.box (λf=>by
  rcases f with e | e
  ·have:=h.gt;omega
  ·exact h.nb _ e rfl)
 have hg:=h.gt;refine⟨?_,h2.keep (Vr (S:=λk=>k=K) _ _ rfl) (λf=>by omega) (λk hk f=>h1 k hk f),h1,h.gt,JX _ _ h0,hw⟩;exact (h.be.trans (o.below (B:=w.heap.size) h.be.size (h.wt.foot_ge (Nat.le_refl _)))).trans ((Vr (S:=λk=>k=K) (.int .i64 a2) (.int .i64 d2) rfl).below (B:=w.heap.size) (Nat.le_trans h.be.size o.size) (λk e=>by omega))
theorem MS (v:Value) (xs:LI) (w:World) (h:Bs .u64 w v xs) (hl:65536<xs.length) :
 Calls prog 242 #[v] w λe w'=>e=.returned (.tuple #[.slice none 0 0,.int .i64 4])∧w=w':=by
 obtain⟨ao,cap,rfl⟩:=h.len;clear h
 have d0:decide (65536<(xs.length:Int))=true:=by simp;omega
 generalize xs.length=m at *;clear hl;go_enter func242,ntmps242;go_wp2;go_ret2;exact⟨rfl,rfl⟩
theorem yn (v:Value) (w:World) (h:Bs .u64 w v []) :
 Calls prog 242 #[v] w λe w'=>e=.returned (.tuple #[.slice none 0 0,.int .i64 0])∧w=w':=by
 obtain⟨ao,cap,rfl⟩:=h.len;clear h;go_enter func242,ntmps242;go_wp2;go_ret2;exact⟨rfl,rfl⟩
theorem ut (v:Value) (x0:Int) (t:LI) (w:World) (h:Bs .u64 w v (x0 :: t)) (hu:U64 (x0 :: t)) (hl:(x0 :: t).length<=65536) (hT:Tab w) :
 Calls prog 242 #[v] w λe w'=>∃v',e=.returned (.tuple #[v',.int .i64 0])∧w'.ownsRow w.heap.size 5 1 v' (QR (GB (x0 :: t))).length ((QR (GB (x0 :: t))).map (Value.int .u8))∧N0 w w':=by
 obtain⟨b,off,cap,rfl,c0⟩:=h.at 0 (by simp);have HB:=Qa h;have HU:=Qa hu;obtain⟨u0,u1⟩:=hu x0 List.mem_cons_self;simp only[List.getD_cons_zero,Nat.add_zero] at c0;have hp:=IA c0;obtain⟨m,hm⟩:=EX t.length;have HM:=Qa hm
 have h6:(x0 :: t).length=m+1:=by rw[hm];rfl
 rw[h6] at HB hl;rw[h6]
 have ha:m+1<=cap:=by
  obtain⟨ao,hd,e,hc,_⟩:=h;simp only[Value.slice.injEq] at e;omega
 obtain⟨n,hn⟩:=EX (m+1);rw[<-hn] at HB hl ha;rw[<-hn]
 have n0:0<n:=by omega
 have HN:=Qa hn;obtain⟨G,hG⟩:=EX (QR (GB (x0 :: t)));rw[<-hG];have HG:=Qa hG
 have d0:decide (65536<(n:Int))=false:=by simp;omega
 have d1:((n:Int) == 0)=false:=by rw[beq_eq_false_iff_ne];omega
 have x64:(wid x0.toNat:Int)<=64:=by have:=Wz x0.toNat (by omega);omega
 have W0:=Qa (WrAt.new (T:=292) (E:=5) w);have P0:=Qa (U9 W0.o x0 64 (by omega) (by omega) u0 u1 x64 (by simp));have he:Hid (Below w.heap.size w (w.alloc (.cells #[.slice none 0 0,.int .i64 0] 292))):=(Below.refl _ _).alloc (Nat.le_refl _) _;clear h hu hm h6 hG hn;go_enter func242,ntmps242;go_wp2_with fail;refine P0.o.mono ?_;rintro e w1 ⟨rfl,v1,h1,o1,s1⟩
 have h9:([]:List Bool)++Qr x0.toNat (Int.toNat 64)=Qr x0.toNat 64++gE x0.toNat none (t.take 0):=by simp[gE]
 rw[h9] at h1;have B1:=Qa (he.o.trans (o1.below (B:=w.heap.size) he.o.size (W0.o.foot_ge (Nat.le_refl _))))
 have S1:Hid (Es w w1.heap.size (w1.alloc (.cells #[.int .i64 0,.int .i64 0] 303)) v1 (Qr x0.toNat 64++gE x0.toNat none (t.take 0)) (gW x0.toNat none (t.take 0)) 0 0) :=
  ⟨B1.o.alloc B1.o.size _,h1.keep ((Only.refl (λ_=>False) w1).alloc _) (λf=>f) (λ_ _ f=>f),λq hq=>by have:=(h1.own.lt q hq).2;omega,h1.lt_size,heap_alloc_last _ _,W2.none⟩
 have hKw:Hid (w.heap.size<w1.heap.size):=h1.lt_size;clear h1 o1 s1 P0 W0 he h9
 have e1:n - 1=m:=by have:=HN.o;omega
 have HV:Hid (∀k,k<m->w.cell? ⟨b,off+1+k,none⟩=some (.int .u64 (t.getD k 0))∧w.cell? ⟨b,off+k,none⟩=some (.int .u64 ((x0 :: t).getD k 0))):=by
  intro k hk;obtain⟨ao,hd,e,_,ho⟩:=HB.o;obtain⟨b',off',rfl,hc⟩:=ho (List.cons_ne_nil _ _);clear ho;simp only[Value.slice.injEq,Option.some.injEq,Addr.mk.injEq,and_true] at e;obtain⟨⟨rfl,rfl⟩,_,rfl⟩:=e;have hm:=HM.o;have:=hc (k+1) (by simp;omega);rw[List.getD_cons_succ] at this;refine⟨?_,hc k (by simp;omega)⟩;rw[show off+1+k=off+(k+1) by omega];exact this
 clear B1 c0;go_wp2
 case inl =>
  obtain rfl:m=0:=by have:=HN.o;omega
  go_loopw [22] (λi wr=>∃k:Nat,k<=0∧i=.int .i64 k∧∃vw a d,Es w w1.heap.size wr vw (Qr x0.toNat 64++gE x0.toNat none (t.take k)) (gW x0.toNat none (t.take k)) a d) (λi _=>0 - (intOf i).toNat)
  case atStart=>exact⟨0,Nat.zero_le _,rfl,v1,0,0,S1.o⟩
  case round =>
   clear S1;obtain⟨k,hk,rfl,vw,a,d,h0⟩:=hrel
   obtain rfl:k=0:=by omega
   have hb:(0:Nat)=0:=rfl;have HE:=Qa h0
   have h5:(Qr x0.toNat 64++gE x0.toNat none (t.take 0)).length<=1000000000000:=by
    have:=(Z3 (t.take 0) x0.toNat none).1;rw[Qc,Ug];rw[Qf] at this;omega
   have BY:=Qa (ZU h0.wt h5)
   have h4:Hid (QR (Qr x0.toNat 64++gE x0.toNat none (t.take 0))=G):=by
    simp only[Hid];rw[HG.o,hb,HM.o,List.take_length];rfl
   rw[h4.o] at BY;clear h0 h5;go_wp2_with fail;refine BY.o.mono ?_;rintro e w4 ⟨v4,rfl,h3,h8⟩;have OW:=Qa (Qu h3 HE.o.be.size);have ON:=Qa ((Uw HE.o.be).same h8);clear BY h3 h8;go_wp2;go_ret2;exact⟨v4,rfl,OW.o,ON.o⟩
 case inr =>
  go_loopw [22] (λi wr=>∃k:Nat,k<=m∧i=.int .i64 k∧∃vw a d,Es w w1.heap.size wr vw (Qr x0.toNat 64++gE x0.toNat none (t.take k)) (gW x0.toNat none (t.take k)) a d) (λi _=>m - (intOf i).toNat)
  case atStart=>exact⟨0,Nat.zero_le _,rfl,v1,0,0,S1.o⟩
  case round =>
   clear S1;obtain⟨k,hk,rfl,vw,a,d,h0⟩:=hrel
   by_cases hlt:k<m
   ·obtain⟨q1,q2⟩:=HV.o k hlt
    have c1:=(h0.be.cell (p:=⟨b,off+1+k,none⟩) hp).trans q1;have c2:=(h0.be.drew.cell (p:=⟨b,off+k,none⟩) hp).trans q2;have HE:=Qa h0.drew;obtain⟨b0,b1,_,_⟩:=QU h0.drew.box;obtain⟨s1,s2⟩:=Cu x0 t k (by rw[<-HM.o];exact hlt);have G1:=Qa s1;have G2:=Qa s2
    have h7:∀j,j<(x0 :: t).length->0<=(x0 :: t).getD j 0∧(x0 :: t).getD j 0<=18446744073709551615:=λj hj=>HU.o _ (by rw[Qd,Qg hj];simp)
    have hmt:=HM.o;obtain⟨p0,p1⟩:=h7 k (by simp;omega);obtain⟨y0,y1⟩:=h7 (k+1) (by simp;omega);rw[List.getD_cons_succ] at y0 y1
    have h5:(Qr x0.toNat 64++gE x0.toNat none (t.take k)).length<=100000000:=by
     have:=(Z3 (t.take k) x0.toNat none).1;rw[Qc,Ug];rw[Qf] at this;omega
    have HT:=Qa (hT.below h0.be.drew hT.pos);have hh:=xor_i p0 p1 y0 y1;have hg:=Oz (a:=((x0 :: t).getD k 0).toNat) (b:=(t.getD k 0).toNat) (by omega) (by omega);generalize (x0 :: t).getD k 0=p at *;generalize t.getD k 0=y at *;have WR:=Qa (BB HE.o.wt (p.toNat ^^^ y.toNat) _ a d HE.o.wi h5 hg HT.o hT.pos);rw[<-hh] at WR;have WL:=Qa HE.o.wi.le;clear h7 hmt s1 s2 h5 hh hg h0 q1 q2
    have dlt:decide ((k:Int)<(m:Int))=true:=by simp;omega
    have i0:(k:Int)<(n:Int):=by have:=HN.o;omega
    go_wp2
    go_region_with ((go_at_call 270;refine WR.o.mono ?_;rintro e w2 ⟨a2,d2,rfl,hf,v2,h2,o2,s2⟩;have E2:=Qa (HE.o.next h2 o2 s2 hf);have g2:=QU (o2.heap HE.o.box (λf=>HE.o.off f));obtain⟨_,_,_,_⟩:=g2))
    all_goals
     have hL:Hid (Qr x0.toNat 64++gE x0.toNat none (t.take k)++(gx (p.toNat ^^^ y.toNat) (gW x0.toNat none (t.take k))).1=Qr x0.toNat 64++gE x0.toNat none (t.take (k+1))):=by
      simp only[Hid];rw[G1.o,List.append_assoc]
     rw[hL.o,<-G2.o] at E2;clear WR hf h2 o2 s2;go_wp2
     go_roundw
     case rel=>exact⟨k+1,by omega,by simp,v2,a2,d2,E2.o⟩
     case measure=>simp[intOf];omega
   ·obtain rfl:k=m:=by omega
    have hb:k=k:=rfl
    have dlt:decide ((k:Int)<(k:Int))=false:=by simp
    have HE:=Qa h0
    have h5:(Qr x0.toNat 64++gE x0.toNat none (t.take k)).length<=1000000000000:=by
     have:=(Z3 (t.take k) x0.toNat none).1;rw[Qc,Ug];rw[Qf] at this;omega
    have BY:=Qa (ZU h0.wt h5)
    have h4:Hid (QR (Qr x0.toNat 64++gE x0.toNat none (t.take k))=G):=by
     simp only[Hid];rw[HG.o,hb,HM.o,List.take_length];rfl
    rw[h4.o] at BY;clear h0 h5;go_wp2_with fail;refine BY.o.mono ?_;rintro e w4 ⟨v4,rfl,h3,h8⟩;have OW:=Qa (Qu h3 HE.o.be.size);have ON:=Qa ((Uw HE.o.be).same h8);clear BY h3 h8;go_wp2;go_ret2;exact⟨v4,rfl,OW.o,ON.o⟩
theorem De (v:Value) (xs:LI) (w:World) (h:Bs .u64 w v xs) (hu:U64 xs) (hT:Tab w) :
 Calls prog 242 #[v] w λe w'=>∃v',e=.returned (.tuple #[v',.int .i64 (ENC9 xs).2])∧w'.ownsRow w.heap.size 5 1 v' (ENC9 xs).1.length ((ENC9 xs).1.map (Value.int .u8))∧N0 w w':=by
 by_cases hl:65536<xs.length
 ·have e:ENC9 xs=([],4):=if_pos hl
  rw[e];refine (MS v xs w h hl).mono ?_;rintro e w' ⟨rfl,rfl⟩;exact⟨_,rfl,World.ownsRow_nil _ _ _ _,Only.refl _ _⟩
 ·rw[TJ (by omega)]
  cases xs with
  | nil =>
   refine (yn v w h).mono ?_;rintro e w' ⟨rfl,rfl⟩;exact⟨_,rfl,World.ownsRow_nil _ _ _ _,Only.refl _ _⟩
  | cons x0 t=>exact ut v x0 t w h hu (by omega) hT
theorem Fq (v:Value) (tag:Int) (w:World) (h:tag<0∨3<tag):Calls prog 213 #[v,.int .i64 tag] w λe w'=>e=.returned (.tuple #[.slice none 0 0,.int .i64 1])∧w=w':=by
 have A:=Qa (AJ tag w h);clear h;go_enter func213,ntmps213;go_wp2_with fail;refine A.o.mono ?_;rintro e w1 ⟨rfl,rfl⟩;go_wp2;go_ret2;exact⟨rfl,rfl⟩
theorem IQ (v:Value) (l:LI) (tag:Int) (w:World) (h:Bs .u64 w v l) (h0:0<=tag) (h3:tag<=3) (hl:65536<l.length):Calls prog 213 #[v,.int .i64 tag] w λe w'=>e=.returned (.tuple #[.slice none 0 0,.int .i64 4])∧w=w':=by
 have A:=Qa (KW tag w h0 h3);obtain⟨ao,cap,rfl⟩:=h.len;have d1:decide ((65536:Int)<(l.length:Int))=true:=Qe (by omega);have d1':decide (65536<l.length)=true:=Qe hl;clear h h0 h3 hl;go_enter func213,ntmps213;go_wp2_with fail;refine A.o.mono ?_;rintro e w1 ⟨rfl,rfl⟩;go_wp2;go_ret2;exact⟨rfl,rfl⟩
theorem qZ (v:Value) (l:LI) (w:World) (h:Bs .u64 w v l) (hl:l.length<=65536) :
 Calls prog 213 #[v,.int .i64 0] w λe w'=>∃u,e=.returned (.tuple #[u,.int .i64 0])∧w'.ownsRow w.heap.size 5 1 u (fx8 l).length ((fx8 l).map (Value.int .u8))∧N0 w w':=by
 have A:=Qa (KW 0 w (by omega) (by omega));have F:=Qa (NK v l w h hl);obtain⟨ao,cap,rfl⟩:=h.len;have d1:decide ((65536:Int)<(l.length:Int))=false:=Qb (by omega);have d1':decide (65536<l.length)=false:=Qb (by omega);clear h hl;go_enter func213,ntmps213;go_wp2_with fail;refine A.o.mono ?_;rintro e w1 ⟨rfl,rfl⟩;clear A;go_wp2_with fail;refine F.o.mono ?_;rintro e w2 ⟨u,rfl,h0,o2⟩;have R:=Qa (And.intro h0 o2);clear h0 o2 F;go_wp2;go_ret2;exact⟨u,rfl,R.o.1,R.o.2⟩
theorem DY (v:Value) (l:LI) (w:World) (h:Bs .u64 w v l) (hl:l.length<=65536) (hs:l=[]∨¬YS l) :
 Calls prog 213 #[v,.int .i64 1] w λe w'=>e=.returned (.tuple #[.slice none 0 0,.int .i64 1])∧w=w':=by
 have A:=Qa (KW 1 w (by omega) (by omega));have F:=Nv v l w h hl;rw[show decide (¬(l=[]∨¬YS l))=false from Qb (λc=>c hs)] at F;have F:=Qa F;obtain⟨ao,cap,rfl⟩:=h.len;have d1:decide ((65536:Int)<(l.length:Int))=false:=Qb (by omega);have d1':decide (65536<l.length)=false:=Qb (by omega);clear h hl hs;go_enter func213,ntmps213;go_wp2_with fail;refine A.o.mono ?_;rintro e w1 ⟨rfl,rfl⟩;clear A;go_wp2_with fail;refine F.o.mono ?_;rintro e w2 ⟨rfl,rfl⟩;clear F;go_wp2;go_ret2;exact⟨rfl,rfl⟩
theorem Fb (v:Value) (l:LI) (w:World) (h:Bs .u64 w v l) (hl:l.length<=65536) (hs:¬(l=[]∨¬YS l)) :
 Calls prog 213 #[v,.int .i64 1] w λe w'=>∃u,e=.returned (.tuple #[u,.int .i64 0])∧w'.ownsRow w.heap.size 5 1 u (fixL (l.getD 0 0) 8).length ((fixL (l.getD 0 0) 8).map (Value.int .u8))∧N0 w w':=by
 have A:=Qa (KW 1 w (by omega) (by omega));have F:=Nv v l w h hl;rw[show decide (¬(l=[]∨¬YS l))=true from Qe hs] at F;have F:=Qa F
 have h1:l≠[]:=λe=>hs (.inl e)
 have hp:0<l.length:=List.length_pos_iff.2 h1
 have e1:fx8 (l.take 1)=fixL (l.getD 0 0) 8:=by
  cases l with
  | nil=>exact absurd rfl h1
  | cons y t=>simp[fx8]
 have h2:∃ao cap,v=.slice ao l.length cap∧l.length<=cap:=by obtain⟨ao,cap,e,hc,_⟩:=h;exact⟨ao,cap,e,hc⟩
 obtain⟨ao,cap,rfl,hc⟩:=h2;have X:=NK _ (l.take 1) w (h.head (n:=1) (by omega)) (by rw[Qf];omega);rw[e1] at X;have X:=Qa X;have d1:decide ((65536:Int)<(l.length:Int))=false:=Qb (by omega);have d1':decide (65536<l.length)=false:=Qb (by omega)
 have b1:(1:Int)<=(cap:Int):=by omega
 have b2:1<=cap:=by omega
 generalize fixL (l.getD 0 0) 8=G at *;generalize l.length=n at *;clear h hl hs h1 hp e1 hc;go_enter func213,ntmps213;go_wp2_with fail;refine A.o.mono ?_;rintro e w1 ⟨rfl,rfl⟩;clear A;go_wp2_with fail;refine F.o.mono ?_;rintro e w2 ⟨rfl,rfl⟩;clear F;go_wp2_with fail;refine X.o.mono ?_;rintro e w2 ⟨u,rfl,h0,o2⟩;have R:=Qa (And.intro h0 o2);clear h0 o2 X;go_wp2;go_ret2;exact⟨u,rfl,R.o.1,R.o.2⟩
theorem SQ (v:Value) (l:LI) (w:World) (h:Bs .u64 w v l) (hu:U64 l) (hl:l.length<=65536) :
 Calls prog 213 #[v,.int .i64 2] w λe w'=>∃u,e=.returned (.tuple #[u,.int .i64 (ENC10 l).2])∧w'.ownsRow w.heap.size 5 1 u (ENC10 l).1.length ((ENC10 l).1.map (Value.int .u8))∧N0 w w':=by
 have A:=Qa (KW 2 w (by omega) (by omega));have F:=Qa (DX v l w h hu);obtain⟨ao,cap,rfl⟩:=h.len;have d1:decide ((65536:Int)<(l.length:Int))=false:=Qb (by omega);have d1':decide (65536<l.length)=false:=Qb (by omega);generalize ENC10 l=E at *;obtain⟨E1,E2⟩:=E;simp only at F ⊢;clear h hl hu;go_enter func213,ntmps213;go_wp2_with fail;refine A.o.mono ?_;rintro e w1 ⟨rfl,rfl⟩;clear A;go_wp2_with fail;refine F.o.mono ?_;rintro e w2 ⟨u,rfl,h0,o2⟩;have R:=Qa (And.intro h0 o2);clear h0 o2 F;go_wp2;go_ret2;exact⟨u,rfl,R.o.1,R.o.2⟩
theorem Bw (v:Value) (l:LI) (w:World) (h:Bs .u64 w v l) (hu:U64 l) (hl:l.length<=65536) (hT:Tab w) :
 Calls prog 213 #[v,.int .i64 3] w λe w'=>∃u,e=.returned (.tuple #[u,.int .i64 (ENC9 l).2])∧w'.ownsRow w.heap.size 5 1 u (ENC9 l).1.length ((ENC9 l).1.map (Value.int .u8))∧N0 w w':=by
 have A:=Qa (KW 3 w (by omega) (by omega));have F:=Qa (De v l w h hu hT);obtain⟨ao,cap,rfl⟩:=h.len;have d1:decide ((65536:Int)<(l.length:Int))=false:=Qb (by omega);have d1':decide (65536<l.length)=false:=Qb (by omega);generalize ENC9 l=E at *;obtain⟨E1,E2⟩:=E;simp only at F ⊢;clear h hl hu hT;go_enter func213,ntmps213;go_wp2_with fail;refine A.o.mono ?_;rintro e w1 ⟨rfl,rfl⟩;clear A;go_wp2_with fail;refine F.o.mono ?_;rintro e w2 ⟨u,rfl,h0,o2⟩;have R:=Qa (And.intro h0 o2);clear h0 o2 F;go_wp2;go_ret2;exact⟨u,rfl,R.o.1,R.o.2⟩
theorem IP (v:Value) (l:LI) (tag:Int) (w:World) (h:Bs .u64 w v l) (hu:U64 l) (hT:Tab w) :
 Calls prog 213 #[v,.int .i64 tag] w λe w'=>∃u,e=.returned (.tuple #[u,.int .i64 (WAY11 l tag).2])∧w'.ownsRow w.heap.size 5 1 u (WAY11 l tag).1.length ((WAY11 l tag).1.map (Value.int .u8))∧N0 w w':=by
 unfold WAY11
 by_cases ht:tag<0∨3<tag
 ·rw[if_pos ht]
  refine (Fq v tag w ht).mono ?_;rintro e w' ⟨rfl,rfl⟩;exact⟨_,rfl,World.ownsRow_nil _ _ _ _,Only.refl _ _⟩
 ·rw[if_neg ht]
  by_cases hl:65536<l.length
  ·rw[if_pos hl]
   refine (IQ v l tag w h (by omega) (by omega) hl).mono ?_;rintro e w' ⟨rfl,rfl⟩;exact⟨_,rfl,World.ownsRow_nil _ _ _ _,Only.refl _ _⟩
  ·rw[if_neg hl]
   obtain⟨t,rfl⟩:=Int.eq_ofNat_of_zero_le (show 0<=tag by omega);rw[Int.toNat_natCast]
   rcases XJ (t:=t) (by omega) with rfl | rfl | rfl | rfl
   ·rw[W11_0];exact qZ v l w h (by omega)
   ·rw[W11_1]
    by_cases hs:l=[]∨¬YS l
    ·rw[if_pos hs]
     refine (DY v l w h (by omega) hs).mono ?_;rintro e w' ⟨rfl,rfl⟩;exact⟨_,rfl,World.ownsRow_nil _ _ _ _,Only.refl _ _⟩
    ·rw[if_neg hs];exact Fb v l w h (by omega) hs
   ·rw[W11_2];exact SQ v l w h hu (by omega)
   ·rw[W11_3];exact Bw v l w h hu (by omega) hT
theorem Dl (v:Value) (l:LI) (t:Nat) (w:World) (h:Bs .u64 w v l) (hu:U64 l) (hT:Tab w) (hl:l.length<=65536) (ht:t<=3) :
 Calls prog 213 #[v,.int .i64 t] w λe w'=>∃u,e=.returned (.tuple #[u,.int .i64 (QK l t).2])∧w'.ownsRow w.heap.size 5 1 u (QK l t).1.length ((QK l t).1.map (Value.int .u8))∧N0 w w':=by
 have:=IP v l t w h hu hT;rw[JB hl t ht] at this;exact this
section
open Go.Shelf
attribute [local go_sem] Oper.semAt_some
theorem Ay (n:Nat) (a:Option Addr) (len cap:Nat) (w:World) :
 CallsIn Fence.wide n prog 188 #[.slice a len cap] w λe w'=>e=.returned (.func (.func 212) #[] #[.pointer (some ⟨w.heap.size,0,none⟩)])∧w'=w.alloc (.cells #[.slice a len cap] 201):=by
 refine callsIn_of_wp func188 rfl trivial ?_ rfl;simp only[ntmps188,List.size_toArray,Qi,List.length_nil,Nat.reduceAdd,Nat.reduceSub,Array.replicate_succ,Array.replicate_zero,List.push_toArray,List.append_toArray,List.nil_append,List.cons_append]
 gi_wp2
 go_ret;exact⟨rfl,rfl⟩
theorem wj (n L Bv:Nat) (v:Value) (l:LI) (hu:U64 l) (hl:l.length<=65536) (J:Nat->World->Prop)
 (hJ:∀s A,J s A->Boxed A Bv 201 v∧Bs .u64 A v l∧Tab A)
 (hJo:∀s A B,J s A->N0 A B->J s B)
 (hJs:∀s A,s<=3->J s A->(QK l s).2≠0->J (s+1) A)
 (hY:∀(s:Nat) u A,s<=3->J s A->(QK l s).2=0->Bs .u8 A u (QK l s).1->NoCap u->YieldAt Fence.wide (n - 1) prog L #[.int .i64 s,u] A λe B=>e=.returned (.bool true)∧J (s+1) B)
 (W:World) (h0:J 0 W) :
 CallsIn Fence.wide n prog 212 #[.func (.yield L) #[] #[],.pointer (some ⟨Bv,0,none⟩)] W λe B=>(∃v,e=.returned v)∧J 4 B:=by
 have HJ:=Qa hJ;have h8:=Qa hJo;have HJs:=Qa hJs;have HY:=Qa hY;have H0:=Qa h0;clear hJ hJo hJs hY h0;refine callsIn_of_wp func212 rfl trivial ?_ rfl;simp only[ntmps212,List.size_toArray,Qi,List.length_nil,Nat.reduceAdd,Nat.reduceSub,Array.replicate_succ,Array.replicate_zero,List.push_toArray,List.append_toArray,List.nil_append,List.cons_append]
 gi_wp2
 gi_loopw [6] (λi wr=>∃t:Nat,t<=4∧i=.int .i64 t∧Hid (J t wr)) (λi _=>4 - (intOf i).toNat)
 case atStart=>exact⟨0,by omega,rfl,H0⟩
 case round =>
  obtain⟨t,ht,rfl,HT⟩:=hrel
  by_cases hlt:t<4
  ·have dlt:decide ((t:Int)<4)=true:=Qe (by omega)
   obtain⟨h5,h3,h2⟩:=HJ.o t wr HT.o;have hc:=h5.cell;have A:=Qa (Dl v l t wr h3 hu h2 hl (by omega))
   by_cases he:(QK l t).2=0
   ·have HE:=Qa he
    rw[he] at A;clear h5 h3 h2 he
    gi_wp2_with fail
    refine⟨trivial,(λh=>by cases h),(callsIn_wide.2 A.o).mono ?_⟩;rintro e w2 ⟨u,rfl,h1,o2⟩;obtain⟨fn,tmps,h4,body,hy,hR⟩:=HY.o t u w2 (by omega) (h8.o _ _ _ HT.o o2) HE.o (Bs.of_own h1) (NoCap.of_own h1);have HR:=Qa hR;clear h1 o2 A hR
    gi_wp2
    refine⟨(λh=>by cases h),HR.o.mono ?_⟩;rintro e w3 ⟨rfl,h7⟩;have H3:=Qa h7;clear HR h7
    gi_wp2
    go_roundw
    case rel=>exact⟨t+1,by omega,by go_num,H3⟩
    case measure=>simp[intOf];omega
   ·have HE:=Qa he
    have de:((QK l t).2 == 0)=false:=by simp[he]
    obtain⟨c,h6⟩:=EX ((QK l t).2);rw[<-h6] at A de;clear h5 h3 h2 he h6
    gi_wp2_with fail
    refine⟨trivial,(λh=>by cases h),(callsIn_wide.2 A.o).mono ?_⟩;rintro e w2 ⟨u,rfl,h1,o2⟩;have H3:=Qa (HJs.o t w2 (by omega) (h8.o _ _ _ HT.o o2) HE.o);clear h1 o2 A
    gi_wp2
    refine⟨λ_ h=>(by cases h),?_⟩
    gi_wp2
    go_roundw
    case rel=>exact⟨t+1,by omega,by go_num,H3⟩
    case measure=>simp[intOf];omega
  ·obtain rfl:t=4:=by omega
   gi_wp2
   go_end0
   exact⟨⟨_,rfl⟩,HT.o⟩
end
end Go.Proofs.YtoflhbghdlaeaaaGreatDoor
