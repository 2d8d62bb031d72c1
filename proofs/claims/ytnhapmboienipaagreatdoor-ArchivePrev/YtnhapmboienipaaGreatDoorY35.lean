import Derived.Test.YtnhapmboienipaaGreatDoorY34
import Derived.Laws.Bits64
namespace Go.Proofs.YtnhapmboienipaaGreatDoor
set_option maxHeartbeats 4000000
set_option maxRecDepth 100000
open Go.RowKit _root_.Go.Proofs.Tryz
def W2 (wn:Option (Nat × Nat)) (a d:Nat):Prop:=(wn=none∧a=0∧d=0)∨∃z,wn=some (a,z)∧a≤31∧a+z+d=64∧0<d
theorem W2.none:W2 .none 0 0:=.inl ⟨rfl,rfl,rfl⟩
theorem W2.le {wn:Option (Nat × Nat)} {a d:Nat} (h:W2 wn a d):a≤31∧d≤64:=by
 rcases h with ⟨_,rfl,rfl⟩ | ⟨z,_,h1,h2,h3⟩ <;> omega
structure Ws (w:World) (lo B:Nat) (v:Value) (w1:World) (v1:Value) (l1:List Bool) (a d:Nat):Prop where
 wr:WrAt 278 5 w1 lo B v1 l1
 on:Only (Foot B v) w w1
 st:Stays w v v1
 nb:∀k,v1.ownBlock=some k→k≠w.heap.size∧k≠w.heap.size+1
 lt:B<w.heap.size
 box:w1.heap[w.heap.size]? = some (.cells #[.int .i64 a,.int .i64 d] 289 (0,0))
 res:w1.heap[w.heap.size+1]? = some (.cells #[.int .i64 0,.int .i64 0] 289 (0,0))
theorem WrAt.lt_size {T E:TypeId} {w:World} {lo B:Nat} {v:Value} {l:List Bool} (h:WrAt T E w lo B v l):B<w.heap.size:=Nat.lt_of_lt_of_le h.lt h.le
theorem Ws.start {w:World} {lo B:Nat} {v:Value} {l:List Bool} (h:WrAt 278 5 w lo B v l) (a d:Nat) :
  Ws w lo B v ((w.alloc (.cells #[.int .i64 a,.int .i64 d] 289)).alloc (.cells #[.int .i64 0,.int .i64 0] 289)) v l a d where
 wr:=h.keep (((Only.refl (fun _=>False) w).alloc _).alloc _) (fun f=>f) (fun _ _ f=>f)
 on:=((Only.refl _ w).alloc _).alloc _
 st:=Stays.refl _ _
 nb:=fun k hk=>by have:=(h.own.lt k hk).2;omega
 lt:=h.lt_size
 box:=by
  have:=heap_alloc_last w (.cells #[.int .i64 a,.int .i64 d] 289);exact ((Only.refl (fun _=>False) _).alloc _).heap this (fun f=>f)
 res:=by
  have:=heap_alloc_last (w.alloc (.cells #[.int .i64 a,.int .i64 d] 289)) (.cells #[.int .i64 0,.int .i64 0] 289)
  rwa [show (w.alloc (.cells #[.int .i64 a,.int .i64 d] 289)).heap.size=w.heap.size+1 from Array.size_push ..] at this
theorem Ws.big {w:World} {lo B:Nat} {v:Value} {w1:World} {v1:Value} {l1:List Bool} {a d:Nat} (h:Ws w lo B v w1 v1 l1 a d):w.heap.size+1<w1.heap.size:=by
 rcases Nat.lt_or_ge (w.heap.size+1) w1.heap.size with e | e
 ·exact e
 ·have:=h.res
  rw [Array.getElem?_eq_none e] at this
  cases this
theorem Ws.put {w:World} {lo B:Nat} {v:Value} {w1 w2:World} {v1 v2:Value} {l1 l2:List Bool} {a d:Nat} (h:Ws w lo B v w1 v1 l1 a d)
  (h2:WrAt 278 5 w2 lo B v2 l2) (o:Only (Foot B v1) w1 w2) (s:Stays w1 v1 v2):Ws w lo B v w2 v2 l2 a d where
 wr:=h2
 on:=h.on.trans o (Qe6 h.st)
 st:=h.st.trans s h.on.size
 nb:=fun k hk=>by
  rcases s with e | e
  ·rw [e] at hk;exact h.nb k hk
  ·have:=e k hk;have:=h.big;omega
 lt:=h.lt
 box:=o.heap h.box (fun f=>by
  rcases f with e | e
  ·have:=h.lt;omega
  ·exact (h.nb _ e).1 rfl)
 res:=o.heap h.res (fun f=>by
  rcases f with e | e
  ·have:=h.lt;omega
  ·exact (h.nb _ e).2 rfl)
theorem Ws.past {w:World} {lo B:Nat} {v:Value} {w1 w2:World} {v1:Value} {l1:List Bool} {a d:Nat} (h:Ws w lo B v w1 v1 l1 a d) (o:Only (fun _=>False) w1 w2):Ws w lo B v w2 v1 l1 a d :=
 h.put (h.wr.keep o (fun f=>f) (fun _ _ f=>f)) (o.mono (fun _ _ f=>f.elim)) (Stays.refl _ _)
theorem Qa5 {w:World} {K:Nat} (x y:Value) {S:Nat→Prop} (hS:S K):Only S w ((w.setCell ⟨K,0,none⟩ x).setCell ⟨K,1,none⟩ y) :=
 ((Only.refl S w).setCell (fun _=>hS) x).setCell (fun _=>hS) y
theorem QbY {w:World} {K:Nat} {a b:Value} {T:TypeId} (x y:Value) (h:w.heap[K]? = some (.cells #[a,b] T (0,0))) :
  ((w.setCell ⟨K,0,none⟩ x).setCell ⟨K,1,none⟩ y).heap[K]? = some (.cells #[x,y] T (0,0)):=(Qc3 ((Qc3 h x).1) y).2
theorem Ws.set {w:World} {lo B:Nat} {v:Value} {w1:World} {v1:Value} {l1:List Bool} {a d:Nat} (h:Ws w lo B v w1 v1 l1 a d) (a' d':Nat) :
  Ws w lo B v ((w1.setCell ⟨w.heap.size,0,none⟩ (.int .i64 a')).setCell ⟨w.heap.size,1,none⟩ (.int .i64 d')) v1 l1 a' d' where
 wr:=h.wr.keep (Qa5 (S:=fun k=>k=w.heap.size) _ _ rfl) (fun f=>by have:=h.lt;omega) (fun k hk f=>(h.nb k hk).1 f)
 on:=((h.on.setCell (p:=⟨w.heap.size,0,none⟩) (fun f=>absurd f (Nat.lt_irrefl _)) _).setCell (p:=⟨w.heap.size,1,none⟩) (fun f=>absurd f (Nat.lt_irrefl _)) _)
 st:=h.st
 nb:=h.nb
 lt:=h.lt
 box:=QbY _ _ h.box
 res:=(Qa5 (S:=fun k=>k=w.heap.size) _ _ rfl).heap h.res (fun f=>by omega)
theorem Ws.fin {w:World} {lo B:Nat} {v:Value} {w1:World} {v1:Value} {l1:List Bool} {a d:Nat} (h:Ws w lo B v w1 v1 l1 a d) (x y:Value) {w2:World} (e:w2=(w1.setCell ⟨w.heap.size+1,0,none⟩ x).setCell ⟨w.heap.size+1,1,none⟩ y) :
  w2.heap[w.heap.size+1]? = some (.cells #[x,y] 289 (0,0))∧WrAt 278 5 w2 lo B v1 l1∧Only (Foot B v) w w2∧Stays w v v1:=by
 subst e;refine ⟨QbY _ _ h.res,h.wr.keep (Qa5 (S:=fun k=>k=w.heap.size+1) _ _ rfl) (fun f=>by have:=h.lt;omega) (fun k hk f=>(h.nb k hk).2 f),?_,h.st⟩;exact ((h.on.setCell (p:=⟨w.heap.size+1,0,none⟩) (fun (f:w.heap.size+1<w.heap.size)=>absurd f (by omega)) _).setCell (p:=⟨w.heap.size+1,1,none⟩) (fun (f:w.heap.size+1<w.heap.size)=>absurd f (by omega)) _)
theorem QlV:Qaj (Int.toNat 0) (Int.toNat 1)=[false]:=by decide
theorem QhV:Qaj (Int.toNat 1) (Int.toNat 1)=[true]:=by decide
theorem Qkg {w:World} {lo B:Nat} {v:Value} {l:List Bool} (h:WrAt 278 5 w lo B v l) (a d:Nat) (hl:l.length≤100000000) :
  Calls prog 259 #[.pointer (some ⟨B,0,none⟩),.int .u64 0,.agg #[.int .i64 a,.int .i64 d]] w fun e w'=>e=.returned (.agg #[.int .i64 a,.int .i64 d]) ∧
   ∃v',WrAt 278 5 w' lo B v' (l++[false])∧Only (Foot B v) w w'∧Stays w v v':=by
 have S0:=Qaa (Ws.start h a d);have P1:=Qaa (QcO S0.out.wr 0 1 (by omega) (by omega) (by omega) (by omega) (by decide) (by omega));rw [QlV] at P1;clear h;go_enter func259,ntmps259;go_wp2_with fail;refine P1.out.mono ?_;rintro e w1 ⟨rfl,v1,h1,o1,s1⟩;have S1:=Qaa (S0.out.put h1 o1 s1);clear h1 o1 s1 S0 P1;obtain ⟨c0,c1,_,_⟩:=Qae S1.out.box;obtain ⟨c2,c3,f2,f3⟩:=Qae S1.out.res;go_wp2;obtain ⟨g,r1,r2,r3⟩:=S1.out.fin (.int .i64 a) (.int .i64 d) rfl;exact bodyPost_ret (results_cell_row rfl _ _ (w.heap.size+1) 289 _ (0,0) _ rfl g underlying289 rfl Tryz.sizeWin) rfl ⟨rfl,v1,r1,r2,r3⟩
theorem QlW {w w1:World} {lo B:Nat} {v v1:Value} {l1:List Bool} {a d:Nat} (S:Ws w lo B v w1 v1 l1 a d) (x:Int) (y z:Nat) (e3:x / 2^z=(y:Int)) (hy:y<18446744073709551616) (hd:d≤64) (y2:wid y≤d) (hl:l1.length≤1000000000) :
  Calls prog 250 #[.pointer (some ⟨B,0,none⟩),.int .u64 (x / 2^z),.int .i64 d] w1 fun e w'=>e=.returned (.int .i64 0)∧∃v',Ws w lo B v w' v' (l1++Qaj y d) a d:=by
 rw [e3];refine (QcO S.wr y d (by omega) (by omega) (by omega) (by omega) (by simpa using y2) hl).mono ?_;rintro e w' ⟨rfl,v',h,o,s⟩;simp only [Int.toNat_natCast] at h;exact ⟨rfl,v',S.put h o s⟩
theorem QlX {w:World} {lo B:Nat} {v:Value} {l:List Bool} (h:WrAt 278 5 w lo B v l) (a z d x:Nat) (hl:l.length≤100000000) (h0:0<x) (hx:x<18446744073709551616) (hs:a+z+d=64) (hd:0<d) (hf:fitsW x a z) :
  Calls prog 259 #[.pointer (some ⟨B,0,none⟩),.int .u64 x,.agg #[.int .i64 a,.int .i64 d]] w fun e w'=>e=.returned (.agg #[.int .i64 a,.int .i64 d]) ∧
   ∃v',WrAt 278 5 w' lo B v' (l++[true]++[false]++Qaj (x / 2^z) d)∧Only (Foot B v) w w'∧Stays w v v':=by
 have S0:=Qaa (Ws.start h a d);have P1:=Qaa (QcO S0.out.wr 1 1 (by omega) (by omega) (by omega) (by omega) (by decide) (by omega));rw [QhV] at P1
 have hne:((x:Int) == 0)=false:=by rw [beq_eq_false_iff_ne];omega
 have z64:(z:Int)<64:=by omega
 have e3:Hid ((x:Int) / 2^z=((x / 2^z:Nat):Int)):=by simp only [Hid];push_cast;rfl
 have y1:x / 2^z≤x:=Nat.div_le_self _ _;have y2:wid (x / 2^z)≤d:=((QfG h0 hx hs hd).1 hf).2
 have FI:=fun w=>Qaa (Qi9 a z d x w h0 hx hs hd)
 rw [Yaj hf] at FI;generalize hy:x / 2^z=y at *;clear h hf hy;go_enter func259,ntmps259;go_wp2_with fail;refine P1.out.mono ?_;rintro e w1 ⟨rfl,v1,h1,o1,s1⟩;have S1:=Qaa (S0.out.put h1 o1 s1);clear h1 o1 s1 S0 P1;obtain ⟨c0,c1,_,_⟩:=Qae S1.out.box;go_wp2_with fail;refine (QgD a d _ (by omega)).mono ?_;rintro e w2 ⟨rfl,o2⟩;have S2:=Qaa (S1.out.past o2);clear S1 o2 c0 c1;obtain ⟨c0,c1,_,_⟩:=Qae S2.out.box;go_wp2_with fail;refine (FI _).out.mono ?_;rintro e w3 ⟨rfl,o3⟩;have S3:=Qaa (S2.out.past o3);clear S2 o3 c0 c1 FI;have P3:=Qaa (QcO S3.out.wr 0 1 (by omega) (by omega) (by omega) (by omega) (by decide) (by simp;omega));rw [QlV] at P3;go_wp2_with fail;refine P3.out.mono ?_;rintro e w4 ⟨rfl,v4,h4,o4,s4⟩;have S4:=Qaa (S3.out.put h4 o4 s4);clear h4 o4 s4 S3 P3;obtain ⟨c0,c1,_,_⟩:=Qae S4.out.box;go_wp2;have SD:=Qaa (S4.out.past ((Only.refl (fun _=>False) w4).drew))
 have hl4:(l++[true]++[false]).length≤1000000000:=by simp;omega
 go_region_with (first|(go_at_call 279;refine (Qbz a z d _ hs).mono ?_;rintro e w5 ⟨rfl,o5⟩;have S5:=Qaa (SD.out.past o5);have c2:=(Qae S5.out.box).2.1)|(go_at_call 250;refine (QlW S5.out (x:Int) y z e3.out (by omega) (by omega) y2 hl4).mono ?_;rintro e w6 ⟨rfl,v6,S6⟩))
 all_goals
  have S7:=Qaa S6;clear S6;clear c0 c1;obtain ⟨c0,c1,_,_⟩:=Qae S7.out.box;obtain ⟨c2,c3,f2,f3⟩:=Qae S7.out.res;go_wp2;obtain ⟨g,r1,r2,r3⟩:=S7.out.fin (.int .i64 a) (.int .i64 d) rfl;exact bodyPost_ret (results_cell_row rfl _ _ (w.heap.size+1) 289 _ (0,0) _ rfl g underlying289 rfl Tryz.sizeWin) rfl ⟨rfl,v6,r1,r2,r3⟩
theorem Ws.tab {w:World} {lo B:Nat} {v:Value} {w1:World} {v1:Value} {l1:List Bool} {a d:Nat} (h:Ws w lo B v w1 v1 l1 a d) (hT:Tab w) (hB:0<B) (hv:∀k,v.ownBlock=some k→0<k):Tab w1 :=
 hT.keep h.on (fun f=>by
  rcases f with e | e
  ·omega
  ·exact absurd (hv 0 e) (by omega))
theorem wid_5 {n:Nat} (h:n≤31):wid n≤5:=(Qan n 5).2 (by omega)
theorem wid_6 {n:Nat} (h:n≤63):wid n≤6:=(Qan n 6).2 (by omega)
theorem QbS {w w1:World} {lo B:Nat} {v v1:Value} {l1:List Bool} {a d:Nat} (S:Ws w lo B v w1 v1 l1 a d) (x:Int) (n q:Nat) (e:x=(n:Int)) (hn:n<18446744073709551616) (hq:q≤64) (hw:wid n≤q) (hl:l1.length≤1000000000) :
  Calls prog 250 #[.pointer (some ⟨B,0,none⟩),.int .u64 x,.int .i64 q] w1 fun e w'=>e=.returned (.int .i64 0)∧∃v',Ws w lo B v w' v' (l1++Qaj n q) a d:=by
 subst e;refine (QcO S.wr n q (by omega) (by omega) (by omega) (by omega) (by simpa using hw) hl).mono ?_;rintro e w' ⟨rfl,v',h,o,s⟩;simp only [Int.toNat_natCast] at h;exact ⟨rfl,v',S.put h o s⟩
theorem QhW {w:World} {lo B:Nat} {v:Value} {l:List Bool} (h:WrAt 278 5 w lo B v l) (x:Nat) (hl:l.length≤100000000) (h0:0<x) (hx:x<18446744073709551616) (hT:Tab w) (hB:0<B) :
  Calls prog 259 #[.pointer (some ⟨B,0,none⟩),.int .u64 x,.agg #[.int .i64 0,.int .i64 0]] w fun e w'=>e=.returned (.agg #[.int .i64 (ldz x:Nat),.int .i64 (64 - ldz x - tz x:Nat)]) ∧
   ∃v',WrAt 278 5 w' lo B v' (l++[true]++[true]++Qaj (ldz x) 5++Qaj (63 - ldz x - tz x) 6++Qaj (x / 2^tz x) (64 - ldz x - tz x))∧Only (Foot B v) w w'∧Stays w v v':=by
 have S0:=Qaa (Ws.start h 0 0);have P1:=Qaa (QcO S0.out.wr 1 1 (by omega) (by omega) (by omega) (by omega) (by decide) (by omega));rw [QhV] at P1
 have hne:((x:Int) == 0)=false:=by rw [beq_eq_false_iff_ne];omega
 have hv0:∀k,v.ownBlock=some k→0<k:=fun k hk=>by have:=(h.own.lt k hk).1;have:=h.lt;omega
 obtain ⟨n1,n2,n3⟩:=QfH h0 hx
 have WO:=fun w hT=>Qaa (QdL (x:Int) w (by omega) (by omega) hT)
 simp only [Int.toNat_natCast] at WO
 have e3:Hid ((x:Int) / 2^tz x=((x / 2^tz x:Nat):Int)):=by simp only [Hid];push_cast;rfl
 have y1:x / 2^tz x≤x:=Nat.div_le_self _ _;have y2:wid (x / 2^tz x)≤64 - ldz x - tz x:=(Qan _ _).2 (QhU hx n2 n3);generalize hy:x / 2^tz x=y at *;generalize ldz x=a' at *;generalize tz x=z' at *;obtain ⟨d',hd'⟩:∃d',d'=64 - a' - z':=⟨_,rfl⟩;rw [show 63 - a' - z'=d' - 1 by omega,←hd'];rw [←hd'] at WO y2
 have hs':a'+z'+d'=64:=by omega
 have hp':0<d':=by omega
 clear h hy hd' n2 n3
 have z64:(z':Int)<64:=by omega
 have dd:(d':Int) - 1=((d' - 1:Nat):Int):=by omega
 go_enter func259,ntmps259;go_wp2_with fail;refine P1.out.mono ?_;rintro e w1 ⟨rfl,v1,h1,o1,s1⟩;have S1:=Qaa (S0.out.put h1 o1 s1);clear h1 o1 s1 S0 P1;obtain ⟨c0,c1,_,_⟩:=Qae S1.out.box;go_wp2_with fail;refine (Qkf _).mono ?_;rintro e w3 ⟨rfl,o2⟩;have S3:=Qaa (S1.out.past o2);clear S1 o2 c0 c1;have W3:=WO w3 (S3.out.tab hT hB hv0);clear WO;go_wp2_with fail;refine W3.out.mono ?_;rintro e w4 ⟨rfl,o4⟩;have S4:=Qaa (S3.out.past o4);clear S3 o4 W3;obtain ⟨c0,c1,f0,f1⟩:=Qae S4.out.box;have S5:=Qaa (S4.out.set a' d');have P5:=Qaa (QbS S5.out 1 1 1 rfl (by omega) (by omega) (by decide) (by simp;omega));rw [show Qaj 1 1=[true] by decide] at P5;clear S4;go_wp2_with fail;refine P5.out.mono ?_;rintro e w6 ⟨rfl,v6,s6⟩;have S6:=Qaa s6;clear s6 S5 P5 c0 c1 f0 f1;obtain ⟨c0,c1,_,_⟩:=Qae S6.out.box;have P6:=Qaa (QbS S6.out (a':Int) a' 5 rfl (by omega) (by omega) (wid_5 n1) (by simp;omega));go_wp2_with fail;refine P6.out.mono ?_;rintro e w7 ⟨rfl,v7,s7⟩;have S7:=Qaa s7;clear s7 S6 P6 c0 c1;obtain ⟨c0,c1,_,_⟩:=Qae S7.out.box;have P7:=Qaa (QbS S7.out ((d' - 1:Nat):Int) (d' - 1) 6 rfl (by omega) (by omega) (wid_6 (by omega)) (by simp [Qao];omega));go_wp2_with fail;refine P7.out.mono ?_;rintro e w8 ⟨rfl,v8,s8⟩;have S8:=Qaa s8;clear s8 S7 P7 c0 c1;obtain ⟨c0,c1,_,_⟩:=Qae S8.out.box;go_wp2;have SD:=Qaa (S8.out.past ((Only.refl (fun _=>False) w8).drew))
 have hl4:(l++[true]++[true]++Qaj a' 5++Qaj (d' - 1) 6).length≤1000000000:=by simp [Qao];omega
 go_region_with (first|(go_at_call 279;refine (Qbz a' z' d' _ hs').mono ?_;rintro e w5 ⟨rfl,o5⟩;have S5:=Qaa (SD.out.past o5);have c2:=(Qae S5.out.box).2.1)|(go_at_call 250;refine (QlW S5.out (x:Int) y z' e3.out (by omega) (by omega) y2 hl4).mono ?_;rintro e w6 ⟨rfl,v6,S6⟩))
 all_goals
  have S9:=Qaa S6;clear S6;clear c0 c1;obtain ⟨c0,c1,_,_⟩:=Qae S9.out.box;obtain ⟨c2,c3,f2,f3⟩:=Qae S9.out.res;go_wp2;obtain ⟨g,r1,r2,r3⟩:=S9.out.fin (.int .i64 a') (.int .i64 d') rfl;exact bodyPost_ret (results_cell_row rfl _ _ (w.heap.size+1) 289 _ (0,0) _ rfl g underlying289 rfl Tryz.sizeWin) rfl ⟨rfl,v6,r1,r2,r3⟩
theorem QhX {w:World} {lo B:Nat} {v:Value} {l:List Bool} (h:WrAt 278 5 w lo B v l) (x:Nat) (a z d:Nat) (hs:a+z+d=64) (hd:0<d) (hf:¬fitsW x a z) (hl:l.length≤100000000) (h0:0<x) (hx:x<18446744073709551616) (hT:Tab w) (hB:0<B) :
  Calls prog 259 #[.pointer (some ⟨B,0,none⟩),.int .u64 x,.agg #[.int .i64 a,.int .i64 d]] w fun e w'=>e=.returned (.agg #[.int .i64 (ldz x:Nat),.int .i64 (64 - ldz x - tz x:Nat)]) ∧
   ∃v',WrAt 278 5 w' lo B v' (l++[true]++[true]++Qaj (ldz x) 5++Qaj (63 - ldz x - tz x) 6++Qaj (x / 2^tz x) (64 - ldz x - tz x))∧Only (Foot B v) w w'∧Stays w v v':=by
 have S0:=Qaa (Ws.start h a d);have P1:=Qaa (QcO S0.out.wr 1 1 (by omega) (by omega) (by omega) (by omega) (by decide) (by omega));rw [QhV] at P1
 have hne:((x:Int) == 0)=false:=by rw [beq_eq_false_iff_ne];omega
 have hv0:∀k,v.ownBlock=some k→0<k:=fun k hk=>by have:=(h.own.lt k hk).1;have:=h.lt;omega
 obtain ⟨n1,n2,n3⟩:=QfH h0 hx
 have WO:=fun w hT=>Qaa (QdL (x:Int) w (by omega) (by omega) hT)
 simp only [Int.toNat_natCast] at WO
 have e3:Hid ((x:Int) / 2^tz x=((x / 2^tz x:Nat):Int)):=by simp only [Hid];push_cast;rfl
 have y1:x / 2^tz x≤x:=Nat.div_le_self _ _;have y2:wid (x / 2^tz x)≤64 - ldz x - tz x:=(Qan _ _).2 (QhU hx n2 n3)
 have FI:=fun w=>Qaa (Qi9 a z d x w h0 hx hs hd)
 rw [Yak hf] at FI;clear hf;generalize hy:x / 2^tz x=y at *;generalize ldz x=a' at *;generalize tz x=z' at *;obtain ⟨d',hd'⟩:∃d',d'=64 - a' - z':=⟨_,rfl⟩;rw [show 63 - a' - z'=d' - 1 by omega,←hd'];rw [←hd'] at WO y2
 have hs':a'+z'+d'=64:=by omega
 have hp':0<d':=by omega
 clear h hy hd' n2 n3
 have z64:(z':Int)<64:=by omega
 have dd:(d':Int) - 1=((d' - 1:Nat):Int):=by omega
 go_enter func259,ntmps259;go_wp2_with fail;refine P1.out.mono ?_;rintro e w1 ⟨rfl,v1,h1,o1,s1⟩;have S1:=Qaa (S0.out.put h1 o1 s1);clear h1 o1 s1 S0 P1;obtain ⟨c0,c1,_,_⟩:=Qae S1.out.box;go_wp2_with fail;refine (QgD a d _ (by omega)).mono ?_;rintro e w2 ⟨rfl,o2⟩;have S2:=Qaa (S1.out.past o2);clear S1 o2 c0 c1;obtain ⟨c0,c1,_,_⟩:=Qae S2.out.box;go_wp2_with fail;refine (FI _).out.mono ?_;rintro e w3 ⟨rfl,o3⟩;have S3:=Qaa (S2.out.past o3);clear S2 o3 c0 c1 FI;have W3:=WO w3 (S3.out.tab hT hB hv0);clear WO;go_wp2_with fail;refine W3.out.mono ?_;rintro e w4 ⟨rfl,o4⟩;have S4:=Qaa (S3.out.past o4);clear S3 o4 W3;obtain ⟨c0,c1,f0,f1⟩:=Qae S4.out.box;have S5:=Qaa (S4.out.set a' d');have P5:=Qaa (QbS S5.out 1 1 1 rfl (by omega) (by omega) (by decide) (by simp;omega));rw [show Qaj 1 1=[true] by decide] at P5;clear S4;go_wp2_with fail;refine P5.out.mono ?_;rintro e w6 ⟨rfl,v6,s6⟩;have S6:=Qaa s6;clear s6 S5 P5 c0 c1 f0 f1;obtain ⟨c0,c1,_,_⟩:=Qae S6.out.box;have P6:=Qaa (QbS S6.out (a':Int) a' 5 rfl (by omega) (by omega) (wid_5 n1) (by simp;omega));go_wp2_with fail;refine P6.out.mono ?_;rintro e w7 ⟨rfl,v7,s7⟩;have S7:=Qaa s7;clear s7 S6 P6 c0 c1;obtain ⟨c0,c1,_,_⟩:=Qae S7.out.box;have P7:=Qaa (QbS S7.out ((d' - 1:Nat):Int) (d' - 1) 6 rfl (by omega) (by omega) (wid_6 (by omega)) (by simp [Qao];omega));go_wp2_with fail;refine P7.out.mono ?_;rintro e w8 ⟨rfl,v8,s8⟩;have S8:=Qaa s8;clear s8 S7 P7 c0 c1;obtain ⟨c0,c1,_,_⟩:=Qae S8.out.box;go_wp2;have SD:=Qaa (S8.out.past ((Only.refl (fun _=>False) w8).drew))
 have hl4:(l++[true]++[true]++Qaj a' 5++Qaj (d' - 1) 6).length≤1000000000:=by simp [Qao];omega
 go_region_with (first|(go_at_call 279;refine (Qbz a' z' d' _ hs').mono ?_;rintro e w5 ⟨rfl,o5⟩;have S5:=Qaa (SD.out.past o5);have c2:=(Qae S5.out.box).2.1)|(go_at_call 250;refine (QlW S5.out (x:Int) y z' e3.out (by omega) (by omega) y2 hl4).mono ?_;rintro e w6 ⟨rfl,v6,S6⟩))
 all_goals
  have S9:=Qaa S6;clear S6;clear c0 c1;obtain ⟨c0,c1,_,_⟩:=Qae S9.out.box;obtain ⟨c2,c3,f2,f3⟩:=Qae S9.out.res;go_wp2;obtain ⟨g,r1,r2,r3⟩:=S9.out.fin (.int .i64 a') (.int .i64 d') rfl;exact bodyPost_ret (results_cell_row rfl _ _ (w.heap.size+1) 289 _ (0,0) _ rfl g underlying289 rfl Tryz.sizeWin) rfl ⟨rfl,v6,r1,r2,r3⟩
theorem QlY {w:World} {lo B:Nat} {v:Value} {l:List Bool} (h:WrAt 278 5 w lo B v l) (x:Nat) (wn:Option (Nat × Nat)) (a d:Nat) (hwn:W2 wn a d) (hl:l.length≤100000000) (hx:x<18446744073709551616) (hT:Tab w) (hB:0<B) :
  Calls prog 259 #[.pointer (some ⟨B,0,none⟩),.int .u64 x,.agg #[.int .i64 a,.int .i64 d]] w fun e w'=>∃a' d':Nat,e=.returned (.agg #[.int .i64 a',.int .i64 d'])∧W2 (gx x wn).2 a' d' ∧
   ∃v',WrAt 278 5 w' lo B v' (l++(gx x wn).1)∧Only (Foot B v) w w'∧Stays w v v':=by
 by_cases h0:x=0
 ·subst h0
  have e:gx 0 wn=([false],wn):=by unfold gx;rw [if_pos rfl]
  rw [e];refine (Qkg h a d hl).mono ?_;rintro e w' ⟨rfl,r⟩;exact ⟨a,d,rfl,hwn,r⟩
 ·obtain ⟨n1,n2,n3⟩:=QfH (Nat.pos_of_ne_zero h0) hx
  have hw:W2 (some (ldz x,tz x)) (ldz x) (64 - ldz x - tz x):=.inr ⟨tz x,rfl,n1,by omega,by omega⟩
  have hN:∀m:List Bool,m++[true]++[true]++Qaj (ldz x) 5++Qaj (63 - ldz x - tz x) 6++Qaj (x / 2^tz x) (64 - ldz x - tz x)=m++newW x:=fun m=>by unfold newW;simp
  rcases hwn with ⟨rfl,rfl,rfl⟩ | ⟨z,rfl,h1,h2,h3⟩
  ·have e:gx x none=(newW x,some (ldz x,tz x)):=by unfold gx;rw [if_neg h0]
   rw [e];refine (QhW h x hl (Nat.pos_of_ne_zero h0) hx hT hB).mono ?_;rintro e w' ⟨rfl,v',r⟩;rw [hN] at r;exact ⟨_,_,rfl,hw,v',r⟩
  ·by_cases hf:fitsW x a z
   ·have e:gx x (some (a,z))=(true :: false :: Qaj (x / 2^z) (64 - a - z),some (a,z)):=by unfold gx;rw [if_neg h0];simp only;rw [if_pos hf]
    rw [e];refine (QlX h a z d x hl (Nat.pos_of_ne_zero h0) hx h2 h3 hf).mono ?_;rintro e w' ⟨rfl,v',r⟩;rw [show l++[true]++[false]++Qaj (x / 2^z) d=l++true :: false :: Qaj (x / 2^z) (64 - a - z) by rw [show 64 - a - z=d by omega];simp] at r;exact ⟨a,d,rfl,.inr ⟨z,rfl,h1,h2,h3⟩,v',r⟩
   ·have e:gx x (some (a,z))=(newW x,some (ldz x,tz x)):=by unfold gx;rw [if_neg h0];simp only;rw [if_neg hf]
    rw [e];refine (QhX h x a z d h2 h3 hf hl (Nat.pos_of_ne_zero h0) hx hT hB).mono ?_;rintro e w' ⟨rfl,v',r⟩;rw [hN] at r;exact ⟨_,_,rfl,hw,v',r⟩
def gW:Nat→Option (Nat × Nat)→List Int→Option (Nat × Nat)
 | _,wn,[]=>wn
 | p,wn,y :: t=>gW y.toNat (gx (p ^^^ y.toNat) wn).2 t
def gL:Nat→List Int→Nat
 | p,[]=>p
 | _,y :: t=>gL y.toNat t
theorem QrB (l:List Int) (y:Int):∀(p:Nat) (wn:Option (Nat × Nat)),gE p wn (l++[y])=gE p wn l++(gx (gL p l ^^^ y.toNat) (gW p wn l)).1∧gW p wn (l++[y])=(gx (gL p l ^^^ y.toNat) (gW p wn l)).2:=by
 induction l with
 | nil=>intro p wn;simp [gE,gW,gL]
 | cons z t ih =>
  intro p wn;obtain ⟨h1,h2⟩:=ih z.toNat (gx (p ^^^ z.toNat) wn).2
  constructor
  ·rw [List.cons_append,gE,h1,gE,gL,gW,List.append_assoc]
  ·rw [List.cons_append,gW,h2,gL,gW]
theorem QoJ (t:List Int) (k:Nat) (h:k<t.length):t.take (k+1)=t.take k++[t.getD k 0]:=by
 rw [List.take_add_one,Yad,Yaf h];rfl
theorem QrC (t:List Int):∀(x0:Int) (k:Nat),k≤t.length→gL x0.toNat (t.take k)=((x0 :: t).getD k 0).toNat:=by
 induction t with
 | nil =>
  intro x0 k hk
  obtain rfl:k=0:=by simpa using hk
  rfl
 | cons y t ih =>
  intro x0 k hk
  cases k with
  | zero=>rfl
  | succ k =>
   rw [List.take_succ_cons,gL,ih y k (by simpa using hk)]
   rfl
theorem QrD (x0:Int) (t:List Int) (k:Nat) (h:k<t.length) :
  gE x0.toNat none (t.take (k+1))=gE x0.toNat none (t.take k)++(gx (((x0 :: t).getD k 0).toNat ^^^ (t.getD k 0).toNat) (gW x0.toNat none (t.take k))).1 ∧
  gW x0.toNat none (t.take (k+1))=(gx (((x0 :: t).getD k 0).toNat ^^^ (t.getD k 0).toNat) (gW x0.toNat none (t.take k))).2:=by
 rw [QoJ t k h,←QrC t x0 k (by omega)];exact QrB _ _ _ _
theorem xor_i {x y:Int} (x0:0≤x) (x1:x≤18446744073709551615) (y0:0≤y) (y1:y≤18446744073709551615):bits .xor .u64 y x=((x.toNat ^^^ y.toNat:Nat):Int):=by
 have:=bits_xor_u64_nat y.toNat x.toNat (by omega) (by omega);rw [Int.toNat_of_nonneg x0,Int.toNat_of_nonneg y0] at this;rw [this,Nat.xor_comm]
theorem QrE {w:World} {b i:Nat} {v:Value} (h:w.cell? ⟨b,i,none⟩=some v):b<w.heap.size:=by
 rcases Nat.lt_or_ge b w.heap.size with e | e
 ·exact e
 ·have e2:w.heap[b]? = none:=Array.getElem?_eq_none e
  simp [World.cell?,e2] at h
structure Es (w:World) (K:Nat) (wr:World) (vw:Value) (l:List Bool) (wn:Option (Nat × Nat)) (a d:Nat):Prop where
 be:Below w.heap.size w wr
 wt:WrAt 278 5 wr (w.heap.size+1) w.heap.size vw l
 nb:∀q,vw.ownBlock=some q→q≠K
 gt:w.heap.size<K
 box:wr.heap[K]? = some (.cells #[.int .i64 a,.int .i64 d] 289 (0,0))
 wi:W2 wn a d
theorem Es.lt {w:World} {K:Nat} {wr:World} {vw:Value} {l:List Bool} {wn:Option (Nat × Nat)} {a d:Nat} (h:Es w K wr vw l wn a d):K<wr.heap.size:=by
 rcases Nat.lt_or_ge K wr.heap.size with e | e
 ·exact e
 ·have:=h.box
  rw [Array.getElem?_eq_none e] at this
  cases this
theorem Es.drew {w:World} {K:Nat} {wr:World} {vw:Value} {l:List Bool} {wn:Option (Nat × Nat)} {a d:Nat} (h:Es w K wr vw l wn a d):Es w K wr.drew vw l wn a d :=
 ⟨h.be.drew,h.wt.keep ((Only.refl (fun _=>False) wr).drew) (fun f=>f) (fun _ _ f=>f),h.nb,h.gt,h.box,h.wi⟩
theorem Es.off {w:World} {K:Nat} {wr:World} {vw:Value} {l:List Bool} {wn:Option (Nat × Nat)} {a d:Nat} (h:Es w K wr vw l wn a d) (f:Foot w.heap.size vw K):False:=by
 rcases f with e | e
 ·have:=h.gt;omega
 ·exact h.nb _ e rfl
theorem Es.next {w:World} {K:Nat} {wr w2:World} {vw v2:Value} {l l2:List Bool} {wn wn2:Option (Nat × Nat)} {a d a2 d2:Nat} (h:Es w K wr vw l wn a d)
  (h2:WrAt 278 5 w2 (w.heap.size+1) w.heap.size v2 l2) (o:Only (Foot w.heap.size vw) wr w2) (s:Stays wr vw v2) (hw:W2 wn2 a2 d2) :
  Es w K ((w2.setCell ⟨K,0,none⟩ (.int .i64 a2)).setCell ⟨K,1,none⟩ (.int .i64 d2)) v2 l2 wn2 a2 d2:=by
 have hnb:∀q,v2.ownBlock=some q→q≠K:=fun q hq=>by
  rcases s with e | e
  ·rw [e] at hq;exact h.nb q hq
  ·have:=e q hq;have:=h.lt;omega
 have hbox:=o.heap h.box (fun f=>by
  rcases f with e | e
  ·have:=h.gt;omega
  ·exact h.nb _ e rfl)
 have hg:=h.gt;refine ⟨?_,h2.keep (Qa5 (S:=fun k=>k=K) _ _ rfl) (fun f=>by omega) (fun k hk f=>hnb k hk f),hnb,h.gt,QbY _ _ hbox,hw⟩;exact (h.be.trans (o.below (B:=w.heap.size) h.be.size (h.wt.foot_ge (Nat.le_refl _)))).trans ((Qa5 (S:=fun k=>k=K) (.int .i64 a2) (.int .i64 d2) rfl).below (B:=w.heap.size) (Nat.le_trans h.be.size o.size) (fun k e=>by omega))
theorem QgA (v:Value) (xs:List Int) (w:World) (h:Bs .u64 w v xs) (hl:65536<xs.length) :
  Calls prog 230 #[v] w fun e w'=>e=.returned (.tuple #[.slice none 0 0,.int .i64 4])∧w=w':=by
 obtain ⟨ao,cap,rfl⟩:=h.len;clear h
 have d0:decide (65536<(xs.length:Int))=true:=by simp;omega
 generalize xs.length=m at *;clear hl;go_enter func230,ntmps230;go_wp2;go_ret2;exact ⟨rfl,rfl⟩
theorem QhS (v:Value) (w:World) (h:Bs .u64 w v []) :
  Calls prog 230 #[v] w fun e w'=>e=.returned (.tuple #[.slice none 0 0,.int .i64 0])∧w=w':=by
 obtain ⟨ao,cap,rfl⟩:=h.len;clear h;go_enter func230,ntmps230;go_wp2;go_ret2;exact ⟨rfl,rfl⟩
theorem QgB (v:Value) (x0:Int) (t:List Int) (w:World) (h:Bs .u64 w v (x0 :: t)) (hu:U64 (x0 :: t)) (hl:(x0 :: t).length≤65536) (hT:Tab w) :
  Calls prog 230 #[v] w fun e w'=>∃v',e=.returned (.tuple #[v',.int .i64 0])∧w'.ownsRow w.heap.size 5 1 v' (QaD (GB (x0 :: t))).length ((QaD (GB (x0 :: t))).map (Value.int .u8))∧Only (fun _=>False) w w':=by
 obtain ⟨b,off,cap,rfl,c0⟩:=h.at 0 (by simp);have HB:=Qaa h;have HU:=Qaa hu;obtain ⟨u0,u1⟩:=hu x0 List.mem_cons_self;simp only [List.getD_cons_zero,Nat.add_zero] at c0;have hbw:=QrE c0;obtain ⟨m,hm⟩:∃m,m=t.length:=⟨_,rfl⟩;have HM:=Qaa hm
 have hlen:(x0 :: t).length=m+1:=by rw [hm];rfl
 rw [hlen] at HB hl;rw [hlen]
 have hcap:m+1≤cap:=by
  obtain ⟨ao,cap',e,hc,_⟩:=h;simp only [Value.slice.injEq] at e;omega
 obtain ⟨n,hn⟩:∃n,n=m+1:=⟨_,rfl⟩;rw [←hn] at HB hl hcap;rw [←hn]
 have n0:0<n:=by omega
 have HN:=Qaa hn;obtain ⟨G,hG⟩:∃G,G=QaD (GB (x0 :: t)):=⟨_,rfl⟩;rw [←hG];have HG:=Qaa hG
 have d0:decide (65536<(n:Int))=false:=by simp;omega
 have d1:((n:Int) == 0)=false:=by rw [beq_eq_false_iff_ne];omega
 have x64:(wid x0.toNat:Int)≤64:=by have:=Qb2 x0.toNat (by omega);omega
 have W0:=Qaa (WrAt.new (T:=278) (E:=5) w);have P0:=Qaa (QcO W0.out x0 64 (by omega) (by omega) u0 u1 x64 (by simp));have HB0:Hid (Below w.heap.size w (w.alloc (.cells #[.slice none 0 0,.int .i64 0] 278))):=(Below.refl _ _).alloc (Nat.le_refl _) _;clear h hu hm hlen hG hn;go_enter func230,ntmps230;go_wp2_with fail;refine P0.out.mono ?_;rintro e w1 ⟨rfl,v1,h1,o1,s1⟩
 have hb64:([]:List Bool)++Qaj x0.toNat (Int.toNat 64)=Qaj x0.toNat 64++gE x0.toNat none (t.take 0):=by simp [gE]
 rw [hb64] at h1;have B1:=Qaa (HB0.out.trans (o1.below (B:=w.heap.size) HB0.out.size (W0.out.foot_ge (Nat.le_refl _))))
 have S1:Hid (Es w w1.heap.size (w1.alloc (.cells #[.int .i64 0,.int .i64 0] 289)) v1 (Qaj x0.toNat 64++gE x0.toNat none (t.take 0)) (gW x0.toNat none (t.take 0)) 0 0) :=
  ⟨B1.out.alloc B1.out.size _,h1.keep ((Only.refl (fun _=>False) w1).alloc _) (fun f=>f) (fun _ _ f=>f),fun q hq=>by have:=(h1.own.lt q hq).2;omega,h1.lt_size,heap_alloc_last _ _,W2.none⟩
 have hKw:Hid (w.heap.size<w1.heap.size):=h1.lt_size;clear h1 o1 s1 P0 W0 HB0 hb64
 have e1:n - 1=m:=by have:=HN.out;omega
 have HV:Hid (∀k,k<m→w.cell? ⟨b,off+1+k,none⟩=some (.int .u64 (t.getD k 0))∧w.cell? ⟨b,off+k,none⟩=some (.int .u64 ((x0 :: t).getD k 0))):=by
  intro k hk;obtain ⟨ao,cap',e,_,hc0⟩:=HB.out;obtain ⟨b',off',rfl,hc⟩:=hc0 (List.cons_ne_nil _ _);clear hc0;simp only [Value.slice.injEq,Option.some.injEq,Addr.mk.injEq,and_true] at e;obtain ⟨⟨rfl,rfl⟩,_,rfl⟩:=e;have hm:=HM.out;have:=hc (k+1) (by simp;omega);rw [List.getD_cons_succ] at this;refine ⟨?_,hc k (by simp;omega)⟩;rw [show off+1+k=off+(k+1) by omega];exact this
 clear B1 c0;go_wp2
 case inl =>
  obtain rfl:m=0:=by have:=HN.out;omega
  go_loopw [22] (fun i wr=>∃k:Nat,k≤0∧i=.int .i64 k∧∃vw a d,Es w w1.heap.size wr vw (Qaj x0.toNat 64++gE x0.toNat none (t.take k)) (gW x0.toNat none (t.take k)) a d) (fun i _=>0 - (intOf i).toNat)
  case atStart=>exact ⟨0,Nat.zero_le _,rfl,v1,0,0,S1.out⟩
  case round =>
   clear S1;obtain ⟨k,hk,rfl,vw,a,d,hes⟩:=hrel
   obtain rfl:k=0:=by omega
   have hkm:(0:Nat)=0:=rfl;have HE:=Qaa hes
   have hlq:(Qaj x0.toNat 64++gE x0.toNat none (t.take 0)).length≤1000000000000:=by
    have:=(Qja (t.take 0) x0.toNat none).1;rw [Yae,Qao];rw [Yag] at this;omega
   have BY:=Qaa (QdU hes.wt hlq)
   have hbits:Hid (QaD (Qaj x0.toNat 64++gE x0.toNat none (t.take 0))=G):=by
    simp only [Hid];rw [HG.out,hkm,HM.out,List.take_length];rfl
   rw [hbits.out] at BY;clear hes hlq;go_wp2_with fail;refine BY.out.mono ?_;rintro e w4 ⟨v4,rfl,own4,on4⟩;have OW:=Qaa (Qaf own4 HE.out.be.size);have ON:=Qaa ((Qav HE.out.be).same on4);clear BY own4 on4;go_wp2;go_ret2;exact ⟨v4,rfl,OW.out,ON.out⟩
 case inr =>
  go_loopw [22] (fun i wr=>∃k:Nat,k≤m∧i=.int .i64 k∧∃vw a d,Es w w1.heap.size wr vw (Qaj x0.toNat 64++gE x0.toNat none (t.take k)) (gW x0.toNat none (t.take k)) a d) (fun i _=>m - (intOf i).toNat)
  case atStart=>exact ⟨0,Nat.zero_le _,rfl,v1,0,0,S1.out⟩
  case round =>
   clear S1;obtain ⟨k,hk,rfl,vw,a,d,hes⟩:=hrel
   by_cases hlt:k<m
   ·obtain ⟨q1,q2⟩:=HV.out k hlt
    have c1:=(hes.be.cell (p:=⟨b,off+1+k,none⟩) hbw).trans q1;have c2:=(hes.be.drew.cell (p:=⟨b,off+k,none⟩) hbw).trans q2;have HE:=Qaa hes.drew;obtain ⟨b0,b1,_,_⟩:=Qae hes.drew.box;obtain ⟨s1,s2⟩:=QrD x0 t k (by rw [←HM.out];exact hlt);have G1:=Qaa s1;have G2:=Qaa s2
    have hmem:∀j,j<(x0 :: t).length→0≤(x0 :: t).getD j 0∧(x0 :: t).getD j 0≤18446744073709551615:=fun j hj=>HU.out _ (by rw [Yad,Yaf hj];simp)
    have hmt:=HM.out;obtain ⟨p0,p1⟩:=hmem k (by simp;omega);obtain ⟨y0,y1⟩:=hmem (k+1) (by simp;omega);rw [List.getD_cons_succ] at y0 y1
    have hlq:(Qaj x0.toNat 64++gE x0.toNat none (t.take k)).length≤100000000:=by
     have:=(Qja (t.take k) x0.toNat none).1;rw [Yae,Qao];rw [Yag] at this;omega
    have HT:=Qaa (hT.below hes.be.drew hT.pos);have hxx:=xor_i p0 p1 y0 y1;have hxl:=QrG (a:=((x0 :: t).getD k 0).toNat) (b:=(t.getD k 0).toNat) (by omega) (by omega);generalize (x0 :: t).getD k 0=p at *;generalize t.getD k 0=y at *;have WR:=Qaa (QlY HE.out.wt (p.toNat ^^^ y.toNat) _ a d HE.out.wi hlq hxl HT.out hT.pos);rw [←hxx] at WR;have WL:=Qaa HE.out.wi.le;clear hmem hmt s1 s2 hlq hxx hxl hes q1 q2
    have dlt:decide ((k:Int)<(m:Int))=true:=by simp;omega
    have i0:(k:Int)<(n:Int):=by have:=HN.out;omega
    go_wp2
    go_region_with ((go_at_call 259;refine WR.out.mono ?_;rintro e w2 ⟨a2,d2,rfl,wi2,v2,h2,o2,s2⟩;have E2:=Qaa (HE.out.next h2 o2 s2 wi2);have g2:=Qae (o2.heap HE.out.box (fun f=>HE.out.off f));obtain ⟨_,_,_,_⟩:=g2))
    all_goals
     have hL:Hid (Qaj x0.toNat 64++gE x0.toNat none (t.take k)++(gx (p.toNat ^^^ y.toNat) (gW x0.toNat none (t.take k))).1=Qaj x0.toNat 64++gE x0.toNat none (t.take (k+1))):=by
      simp only [Hid];rw [G1.out,List.append_assoc]
     rw [hL.out,←G2.out] at E2;clear WR wi2 h2 o2 s2;go_wp2
     go_roundw
     case rel=>exact ⟨k+1,by omega,by simp,v2,a2,d2,E2.out⟩
     case measure=>simp [intOf];omega
   ·obtain rfl:k=m:=by omega
    have hkm:k=k:=rfl
    have dlt:decide ((k:Int)<(k:Int))=false:=by simp
    have HE:=Qaa hes
    have hlq:(Qaj x0.toNat 64++gE x0.toNat none (t.take k)).length≤1000000000000:=by
     have:=(Qja (t.take k) x0.toNat none).1;rw [Yae,Qao];rw [Yag] at this;omega
    have BY:=Qaa (QdU hes.wt hlq)
    have hbits:Hid (QaD (Qaj x0.toNat 64++gE x0.toNat none (t.take k))=G):=by
     simp only [Hid];rw [HG.out,hkm,HM.out,List.take_length];rfl
    rw [hbits.out] at BY;clear hes hlq;go_wp2_with fail;refine BY.out.mono ?_;rintro e w4 ⟨v4,rfl,own4,on4⟩;have OW:=Qaa (Qaf own4 HE.out.be.size);have ON:=Qaa ((Qav HE.out.be).same on4);clear BY own4 on4;go_wp2;go_ret2;exact ⟨v4,rfl,OW.out,ON.out⟩
theorem QhT (v:Value) (xs:List Int) (w:World) (h:Bs .u64 w v xs) (hu:U64 xs) (hT:Tab w) :
  Calls prog 230 #[v] w fun e w'=>∃v',e=.returned (.tuple #[v',.int .i64 (ENC9 xs).2])∧w'.ownsRow w.heap.size 5 1 v' (ENC9 xs).1.length ((ENC9 xs).1.map (Value.int .u8))∧Only (fun _=>False) w w':=by
 by_cases hl:65536<xs.length
 ·have e:ENC9 xs=([],4):=if_pos hl
  rw [e];refine (QgA v xs w h hl).mono ?_;rintro e w' ⟨rfl,rfl⟩;exact ⟨_,rfl,World.ownsRow_nil _ _ _ _,Only.refl _ _⟩
 ·rw [QlT (by omega)]
  cases xs with
  | nil =>
   refine (QhS v w h).mono ?_;rintro e w' ⟨rfl,rfl⟩;exact ⟨_,rfl,World.ownsRow_nil _ _ _ _,Only.refl _ _⟩
  | cons x0 t=>exact QgB v x0 t w h hu (by omega) hT
theorem Qqm (v:Value) (tag:Int) (w:World) (h:tag<0∨3<tag):Calls prog 198 #[v,.int .i64 tag] w fun e w'=>e=.returned (.tuple #[.slice none 0 0,.int .i64 1])∧w=w':=by
 have A:=Qaa (Qtj tag w h);clear h;go_enter func198,ntmps198;go_wp2_with fail;refine A.out.mono ?_;rintro e w1 ⟨rfl,rfl⟩;go_wp2;go_ret2;exact ⟨rfl,rfl⟩
theorem QnU (v:Value) (l:List Int) (tag:Int) (w:World) (h:Bs .u64 w v l) (h0:0≤tag) (h3:tag≤3) (hl:65536<l.length):Calls prog 198 #[v,.int .i64 tag] w fun e w'=>e=.returned (.tuple #[.slice none 0 0,.int .i64 4])∧w=w':=by
 have A:=Qaa (QcK tag w h0 h3);obtain ⟨ao,cap,rfl⟩:=h.len;have d1:decide ((65536:Int)<(l.length:Int))=true:=Yaj (by omega);have d1':decide (65536<l.length)=true:=Yaj hl;clear h h0 h3 hl;go_enter func198,ntmps198;go_wp2_with fail;refine A.out.mono ?_;rintro e w1 ⟨rfl,rfl⟩;go_wp2;go_ret2;exact ⟨rfl,rfl⟩
theorem QuG (v:Value) (l:List Int) (w:World) (h:Bs .u64 w v l) (hl:l.length≤65536) :
  Calls prog 198 #[v,.int .i64 0] w fun e w'=>∃u,e=.returned (.tuple #[u,.int .i64 0])∧w'.ownsRow w.heap.size 5 1 u (fx8 l).length ((fx8 l).map (Value.int .u8))∧Only (fun _=>False) w w':=by
 have A:=Qaa (QcK 0 w (by omega) (by omega));have F:=Qaa (Qfq v l w h hl);obtain ⟨ao,cap,rfl⟩:=h.len;have d1:decide ((65536:Int)<(l.length:Int))=false:=Yak (by omega);have d1':decide (65536<l.length)=false:=Yak (by omega);clear h hl;go_enter func198,ntmps198;go_wp2_with fail;refine A.out.mono ?_;rintro e w1 ⟨rfl,rfl⟩;clear A;go_wp2_with fail;refine F.out.mono ?_;rintro e w2 ⟨u,rfl,own2,o2⟩;have R:=Qaa (And.intro own2 o2);clear own2 o2 F;go_wp2;go_ret2;exact ⟨u,rfl,R.out.1,R.out.2⟩
theorem Qqn (v:Value) (l:List Int) (w:World) (h:Bs .u64 w v l) (hl:l.length≤65536) (hs:l=[]∨¬Qa9 l) :
  Calls prog 198 #[v,.int .i64 1] w fun e w'=>e=.returned (.tuple #[.slice none 0 0,.int .i64 1])∧w=w':=by
 have A:=Qaa (QcK 1 w (by omega) (by omega));have F:=Qfr v l w h hl;rw [show decide (¬(l=[]∨¬Qa9 l))=false from Yak (fun c=>c hs)] at F;have F:=Qaa F;obtain ⟨ao,cap,rfl⟩:=h.len;have d1:decide ((65536:Int)<(l.length:Int))=false:=Yak (by omega);have d1':decide (65536<l.length)=false:=Yak (by omega);clear h hl hs;go_enter func198,ntmps198;go_wp2_with fail;refine A.out.mono ?_;rintro e w1 ⟨rfl,rfl⟩;clear A;go_wp2_with fail;refine F.out.mono ?_;rintro e w2 ⟨rfl,rfl⟩;clear F;go_wp2;go_ret2;exact ⟨rfl,rfl⟩
theorem QuH (v:Value) (l:List Int) (w:World) (h:Bs .u64 w v l) (hl:l.length≤65536) (hs:¬(l=[]∨¬Qa9 l)) :
  Calls prog 198 #[v,.int .i64 1] w fun e w'=>∃u,e=.returned (.tuple #[u,.int .i64 0])∧w'.ownsRow w.heap.size 5 1 u (fixL (l.getD 0 0) 8).length ((fixL (l.getD 0 0) 8).map (Value.int .u8))∧Only (fun _=>False) w w':=by
 have A:=Qaa (QcK 1 w (by omega) (by omega));have F:=Qfr v l w h hl;rw [show decide (¬(l=[]∨¬Qa9 l))=true from Yaj hs] at F;have F:=Qaa F
 have hne:l≠[]:=fun e=>hs (.inl e)
 have hp:0<l.length:=List.length_pos_iff.2 hne
 have e1:fx8 (l.take 1)=fixL (l.getD 0 0) 8:=by
  cases l with
  | nil=>exact absurd rfl hne
  | cons y t=>simp [fx8]
 have hcap:∃ao cap,v=.slice ao l.length cap∧l.length≤cap:=by obtain ⟨ao,cap,e,hc,_⟩:=h;exact ⟨ao,cap,e,hc⟩
 obtain ⟨ao,cap,rfl,hc⟩:=hcap;have X:=Qfq _ (l.take 1) w (h.head (n:=1) (by omega)) (by rw [Yag];omega);rw [e1] at X;have X:=Qaa X;have d1:decide ((65536:Int)<(l.length:Int))=false:=Yak (by omega);have d1':decide (65536<l.length)=false:=Yak (by omega)
 have b1:(1:Int)≤(cap:Int):=by omega
 have b2:1≤cap:=by omega
 generalize fixL (l.getD 0 0) 8=G at *;generalize l.length=n at *;clear h hl hs hne hp e1 hc;go_enter func198,ntmps198;go_wp2_with fail;refine A.out.mono ?_;rintro e w1 ⟨rfl,rfl⟩;clear A;go_wp2_with fail;refine F.out.mono ?_;rintro e w2 ⟨rfl,rfl⟩;clear F;go_wp2_with fail;refine X.out.mono ?_;rintro e w2 ⟨u,rfl,own2,o2⟩;have R:=Qaa (And.intro own2 o2);clear own2 o2 X;go_wp2;go_ret2;exact ⟨u,rfl,R.out.1,R.out.2⟩
theorem QuI (v:Value) (l:List Int) (w:World) (h:Bs .u64 w v l) (hu:U64 l) (hl:l.length≤65536) :
  Calls prog 198 #[v,.int .i64 2] w fun e w'=>∃u,e=.returned (.tuple #[u,.int .i64 (ENC10 l).2])∧w'.ownsRow w.heap.size 5 1 u (ENC10 l).1.length ((ENC10 l).1.map (Value.int .u8))∧Only (fun _=>False) w w':=by
 have A:=Qaa (QcK 2 w (by omega) (by omega));have F:=Qaa (Qgt v l w h hu);obtain ⟨ao,cap,rfl⟩:=h.len;have d1:decide ((65536:Int)<(l.length:Int))=false:=Yak (by omega);have d1':decide (65536<l.length)=false:=Yak (by omega);generalize ENC10 l=E at *;obtain ⟨E1,E2⟩:=E;simp only at F ⊢;clear h hl hu;go_enter func198,ntmps198;go_wp2_with fail;refine A.out.mono ?_;rintro e w1 ⟨rfl,rfl⟩;clear A;go_wp2_with fail;refine F.out.mono ?_;rintro e w2 ⟨u,rfl,own2,o2⟩;have R:=Qaa (And.intro own2 o2);clear own2 o2 F;go_wp2;go_ret2;exact ⟨u,rfl,R.out.1,R.out.2⟩
theorem QuJ (v:Value) (l:List Int) (w:World) (h:Bs .u64 w v l) (hu:U64 l) (hl:l.length≤65536) (hT:Tab w) :
  Calls prog 198 #[v,.int .i64 3] w fun e w'=>∃u,e=.returned (.tuple #[u,.int .i64 (ENC9 l).2])∧w'.ownsRow w.heap.size 5 1 u (ENC9 l).1.length ((ENC9 l).1.map (Value.int .u8))∧Only (fun _=>False) w w':=by
 have A:=Qaa (QcK 3 w (by omega) (by omega));have F:=Qaa (QhT v l w h hu hT);obtain ⟨ao,cap,rfl⟩:=h.len;have d1:decide ((65536:Int)<(l.length:Int))=false:=Yak (by omega);have d1':decide (65536<l.length)=false:=Yak (by omega);generalize ENC9 l=E at *;obtain ⟨E1,E2⟩:=E;simp only at F ⊢;clear h hl hu hT;go_enter func198,ntmps198;go_wp2_with fail;refine A.out.mono ?_;rintro e w1 ⟨rfl,rfl⟩;clear A;go_wp2_with fail;refine F.out.mono ?_;rintro e w2 ⟨u,rfl,own2,o2⟩;have R:=Qaa (And.intro own2 o2);clear own2 o2 F;go_wp2;go_ret2;exact ⟨u,rfl,R.out.1,R.out.2⟩
theorem QnV (v:Value) (l:List Int) (tag:Int) (w:World) (h:Bs .u64 w v l) (hu:U64 l) (hT:Tab w) :
  Calls prog 198 #[v,.int .i64 tag] w fun e w'=>∃u,e=.returned (.tuple #[u,.int .i64 (WAY11 l tag).2])∧w'.ownsRow w.heap.size 5 1 u (WAY11 l tag).1.length ((WAY11 l tag).1.map (Value.int .u8))∧Only (fun _=>False) w w':=by
 unfold WAY11
 by_cases ht:tag<0∨3<tag
 ·rw [if_pos ht]
  refine (Qqm v tag w ht).mono ?_;rintro e w' ⟨rfl,rfl⟩;exact ⟨_,rfl,World.ownsRow_nil _ _ _ _,Only.refl _ _⟩
 ·rw [if_neg ht]
  by_cases hl:65536<l.length
  ·rw [if_pos hl]
   refine (QnU v l tag w h (by omega) (by omega) hl).mono ?_;rintro e w' ⟨rfl,rfl⟩;exact ⟨_,rfl,World.ownsRow_nil _ _ _ _,Only.refl _ _⟩
  ·rw [if_neg hl]
   obtain ⟨t,rfl⟩:=Int.eq_ofNat_of_zero_le (show 0≤tag by omega);rw [Int.toNat_natCast]
   rcases QeU (t:=t) (by omega) with rfl | rfl | rfl | rfl
   ·rw [W11_0];exact QuG v l w h (by omega)
   ·rw [W11_1]
    by_cases hs:l=[]∨¬Qa9 l
    ·rw [if_pos hs]
     refine (Qqn v l w h (by omega) hs).mono ?_;rintro e w' ⟨rfl,rfl⟩;exact ⟨_,rfl,World.ownsRow_nil _ _ _ _,Only.refl _ _⟩
    ·rw [if_neg hs];exact QuH v l w h (by omega) hs
   ·rw [W11_2];exact QuI v l w h hu (by omega)
   ·rw [W11_3];exact QuJ v l w h hu (by omega) hT
theorem QnW (v:Value) (l:List Int) (t:Nat) (w:World) (h:Bs .u64 w v l) (hu:U64 l) (hT:Tab w) (hl:l.length≤65536) (ht:t≤3) :
  Calls prog 198 #[v,.int .i64 t] w fun e w'=>∃u,e=.returned (.tuple #[u,.int .i64 (W11 l t).2])∧w'.ownsRow w.heap.size 5 1 u (W11 l t).1.length ((W11 l t).1.map (Value.int .u8))∧Only (fun _=>False) w w':=by
 have:=QnV v l t w h hu hT;rw [QeV hl t ht] at this;exact this
end Go.Proofs.YtnhapmboienipaaGreatDoor
