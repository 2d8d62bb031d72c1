import Derived.Test.YteciafpneamfaaaGreatDoorG38
namespace Go.Proofs.YteciafpneamfaaaGreatDoor
set_option maxHeartbeats 8000000
set_option maxRecDepth 100000
open Go.RowKit _root_.Go.Proofs.Tryz
variable {w w' W:World} {v:Value} {ys xs l:LI} {R n p k g B:Nat} {P:Program} {ls:List (LI)} {E:TypeId}
section
open Go.Maps
theorem Er (h:CurAt 112 w R v ys) (hv:∀k,v.ownBlock=some k->k<w.heap.size) (n:Nat) (hn:n<=65536) :
 Calls prog 254 #[.pointer (some ⟨R,0,none⟩),.int .i64 n] w λe w'=>∃u,e=.returned (.tuple #[u,.int .i64 (RD10 ys n).2])∧w'.ownsRow w.heap.size 23 1 u (RD10 ys n).1.length ((RD10 ys n).1.map (Value.int .u64))∧Only (λk=>k=R) w w':=by
 rcases Ua h.rng with ⟨c,hs,hc⟩ | ⟨a,k,hs,_,_,ha,_⟩
 ·have e:RD10 ys n=([],c):=by unfold RD10;rw[hs];exact if_pos (show c≠0 by omega)
  rw[e];have RD:=Qa (px h n hs (by omega))
  have dc:(c != 0)=true:=by simp;omega
  clear h hv hs hc e;go_enter func254,ntmps254;go_wp2_with fail;refine RD.o.mono ?_;rintro e w1 ⟨rfl,o1⟩;have O1:=Qa o1;clear o1 RD;go_wp2;go_ret2;exact⟨_,rfl,World.ownsRow_nil _ _ _ _,O1.o⟩
 ·by_cases hb:n<a
  ·have e:RD10 ys n=([],3):=by unfold RD10;rw[hs];simp only[ne_eq,not_true_eq_false,if_false];exact if_pos (by omega)
   rw[e];have RD:=Qa (CV h n hs hn hb);clear h hv hs e hb;go_enter func254,ntmps254;go_wp2_with fail;refine RD.o.mono ?_;rintro e w1 ⟨rfl,o1⟩;have O1:=Qa o1;clear o1 RD;go_wp2;go_ret2;exact⟨_,rfl,World.ownsRow_nil _ _ _ _,O1.o⟩
  ·have e:RD10 ys n=RB a n (ys.drop k):=by unfold RD10;rw[hs];simp only[ne_eq,not_true_eq_false,if_false,Int.toNat_natCast];exact if_neg (by omega)
   rw[e];exact Bd h hv n hs hn (by omega) _ rfl
theorem xm (v:Value) (n:Int) (w:World) (h:n<0∨65536<n) :
 Calls prog 228 #[v,.int .i64 n] w λe w'=>e=.returned (.tuple #[.slice none 0 0,.int .i64 1])∧w=w':=by
 by_cases h0:n<0
 ·have d0:decide (n<0)=true:=Qc h0
  clear h;go_enter func228,ntmps228;go_wp2;go_ret2;exact⟨rfl,rfl⟩
 ·have d0:decide (n<0)=false:=Qh h0
  have d1:decide (65536<n)=true:=Qc (by omega);clear h;go_enter func228,ntmps228;go_wp2;go_ret2;exact⟨rfl,rfl⟩
theorem qk (v:Value) (ys:LI) (N:Nat) (w:World) (h:Bs .u8 w v ys) (hr:∀y∈ys,0<=y∧y<=255) (hl:ys.length<=1000000000) (hN:N<=65536) :
 Calls prog 228 #[v,.int .i64 N] w λe w'=>∃u,e=.returned (.tuple #[u,.int .i64 (DEC10 ys N).2])∧w'.ownsRow w.heap.size 23 1 u (DEC10 ys N).1.length ((DEC10 ys N).1.map (Value.int .u64))∧N0 w w':=by
 obtain⟨D,hD⟩:=EX (DEC10 ys N);rw[<-hD];rw[kK ys N hN] at hD
 have d0:decide ((N:Int)<0)=false:=by simp
 have d1:decide (65536<(N:Int))=false:=by simp;omega
 have HD:=Qa hD;have HB:=Qa h;have HR:=Qa hr;have HU:=Qa (qZ (n:=N) hr);have NR:=Qa (Ut v ys w h hr (by omega));clear h hr hD;go_enter func228,ntmps228;go_wp2_with fail;refine NR.o.mono ?_;rintro e w1 ⟨R,v1,rfl,r1,o1,g1,g2,g3⟩;have RA:=Qa (Er r1 (λk hk=>(g3 k hk).2) N hN);have O1:=Qa o1;have S1:=o1.size;clear NR r1 o1 g3;go_wp2_with fail;refine RA.o.mono ?_;rintro e w2 ⟨u,rfl,h3,o2⟩;have B2:=Qa ((O1.o.low (Nat.le_refl _)).trans (o2.below (B:=w.heap.size) S1 (λk e=>by omega)));have h2:=Qa (Qr h3 S1);clear RA o2 O1 h3
 by_cases hb:(RD10 ys N).2≠0
 ·have h0:Hid (D=([],(RD10 ys N).2)):=by simp only[Hid];rw[HD.o,if_pos hb]
  have dc:((RD10 ys N).2 != 0)=true:=by simpa using hb
  obtain⟨c,hc⟩:=EX ((RD10 ys N).2);rw[<-hc] at h0 dc ⊢;clear HD hb hc;go_wp2;go_ret2;have hD:=h0.o;subst hD;exact⟨_,rfl,World.ownsRow_nil _ _ _ _,YU B2.o⟩
 ·have hz:(RD10 ys N).2=0:=by simpa using hb
  rw[hz];obtain⟨L,hL⟩:=EX ((RD10 ys N).1)
  have h0:Hid (D=if (ENC10 L).1=ys then (L,0) else ([],3)):=by simp only[Hid];rw[HD.o,if_neg hb,<-hL]
  rw[<-hL] at h2 HU;have EN:=Qa (TU u L w2 (Bs.of_own h2.o) HU.o);clear HD hb hz hL;obtain⟨a6,c6,e6⟩:=(Bs.of_own h2.o).len;subst e6;obtain⟨m,hm⟩:=EX L.length;rw[<-hm] at EN ⊢;have HM:=Qa hm;clear hm;go_wp2_with fail;refine EN.o.mono ?_;rintro e w3 ⟨v3,rfl,h1,o3⟩;have EQ:=Qa (UZ v3 v (ENC10 L).1 ys w3 (Bs.of_own h1) ((HB.o.later B2.o).past o3) (TX L) HR.o);have O3:=Qa ((YU B2.o).same o3);have OW3:=Qa (o3.own h2.o (λ_ _ f=>f));obtain⟨a7,c7,e7⟩:=(Bs.of_own h1).len;subst e7;clear EN h1 o3 h2;generalize (ENC10 L).2=EC at *;generalize (ENC10 L).1=E at *
  by_cases he:E=ys
  ·rw[Qc he] at EQ
   have hD:=h0.o;rw[if_pos he] at hD;clear h0 he;have h5:=Qa hD;clear hD;obtain⟨m2,h4⟩:=EX E.length;rw[<-h4] at EQ ⊢;clear h4;go_wp2_with fail;refine EQ.o.mono ?_;rintro e w4 ⟨rfl,rfl⟩;clear EQ;go_wp2;go_ret2;have hD:=h5.o;subst hD;exact⟨_,rfl,by have:=OW3.o;rw[HM.o];exact this,O3.o⟩
  ·rw[Qh he] at EQ
   have hD:=h0.o;rw[if_neg he] at hD;clear h0 he;have h5:=Qa hD;clear hD;obtain⟨m2,h4⟩:=EX E.length;rw[<-h4] at EQ ⊢;clear h4;go_wp2_with fail;refine EQ.o.mono ?_;rintro e w4 ⟨rfl,rfl⟩;clear EQ;go_wp2;go_ret2;have hD:=h5.o;subst hD;exact⟨_,rfl,World.ownsRow_nil _ _ _ _,O3.o⟩
theorem Ek (v:Value) (ys:LI) (n:Int) (w:World) (h:Bs .u8 w v ys) (hr:∀y∈ys,0<=y∧y<=255) (hl:ys.length<=1000000000) :
 Calls prog 228 #[v,.int .i64 n] w λe w'=>∃u,e=.returned (.tuple #[u,.int .i64 (DEC10 ys n).2])∧w'.ownsRow w.heap.size 23 1 u (DEC10 ys n).1.length ((DEC10 ys n).1.map (Value.int .u64))∧N0 w w':=by
 by_cases hn:n<0∨65536<n
 ·have e:DEC10 ys n=([],1):=if_pos hn
  rw[e];refine (xm v n w hn).mono ?_;rintro e w' ⟨rfl,rfl⟩;exact⟨_,rfl,World.ownsRow_nil _ _ _ _,Only.refl _ _⟩
 ·obtain⟨N,rfl⟩:=Int.eq_ofNat_of_zero_le (show 0<=n by omega)
  exact qk v ys N w h hr hl (by omega)
end
theorem Pt {fn:Func} {p u:Tmp} {ty:TypeId} (h:fn.results=#[.cell p ty,.tmp u]) (tmps:Array Value) (w:World) (g:Nat) (t:TypeId) (cs:Array Value) (fr:Nat × Nat) (d:TypeDesc)
 (hp:tmps.getD p undef=.pointer (some ⟨g,0,none⟩)) (hg:w.heap[g]? = some (.cells cs t fr))
 (hu:P.underlying ty=some d) (hd:(match d with | .struct _ | .array _ _=>true | _=>false)=true) (hi:(P.info? ty).map (·.size)=some cs.size) :
 (results fn tmps).run P w=.ok (.tuple #[.agg cs,tmps.getD u undef]) w:=by
 have hp':tmps[p]?.getD undef=.pointer (some ⟨g,0,none⟩):=by simpa using hp
 simp[results,h,hp',asAddr,run_loadVar_row w g t ty cs fr d hg hu hd hi]
theorem OK {fn:Func} {s p u:Tmp} {ty:TypeId} (h:fn.results=#[.tmp s,.cell p ty,.tmp u]) (tmps:Array Value) (w:World) (g:Nat) (t:TypeId) (cs:Array Value) (fr:Nat × Nat) (d:TypeDesc)
 (hp:tmps.getD p undef=.pointer (some ⟨g,0,none⟩)) (hg:w.heap[g]? = some (.cells cs t fr))
 (hu:P.underlying ty=some d) (hd:(match d with | .struct _ | .array _ _=>true | _=>false)=true) (hi:(P.info? ty).map (·.size)=some cs.size) :
 (results fn tmps).run P w=.ok (.tuple #[tmps.getD s undef,.agg cs,tmps.getD u undef]) w:=by
 have hp':tmps[p]?.getD undef=.pointer (some ⟨g,0,none⟩):=by simpa using hp
 simp[results,h,hp',asAddr,run_loadVar_row w g t ty cs fr d hg hu hd hi]
structure Rs (w:World) (R:Nat) (v:Value) (ys:LI) (w1:World) (p:Nat) (a d:Nat):Prop where
 rd:RdAt 311 w1 R v ys p
 on:Only (λk=>k=R) w w1
 lt:R<w.heap.size
 vb:∀k,v.ownBlock=some k->k<w.heap.size
 box:w1.heap[w.heap.size]? = some (.cells #[.int .i64 a,.int .i64 d] 283 (0,0))
 res:w1.heap[w.heap.size+1]? = some (.cells #[.int .i64 0,.int .i64 0] 283 (0,0))
theorem ZU {o:Obj} (h:w.heap[k]? = some o):k<w.heap.size:=by
 rcases Nat.lt_or_ge k w.heap.size with e | e
 ·exact e
 ·rw[Array.getElem?_eq_none e] at h;cases h
theorem Rs.start (h:RdAt 311 w R v ys p) (hv:∀k,v.ownBlock=some k->k<w.heap.size) (a d:Nat) :
 Rs w R v ys ((w.alloc (.cells #[.int .i64 a,.int .i64 d] 283)).alloc (.cells #[.int .i64 0,.int .i64 0] 283)) p a d where
 rd:=h.keep (((Only.refl (λ_=>False) w).alloc _).alloc _) (λf=>f) (λ_ _ f=>f)
 on:=((Only.refl _ w).alloc _).alloc _
 lt:=ZU h.cell
 vb:=hv
 box:=by
  have:=heap_alloc_last w (.cells #[.int .i64 a,.int .i64 d] 283);exact ((Only.refl (λ_=>False) _).alloc _).heap this (λf=>f)
 res:=by
  have:=heap_alloc_last (w.alloc (.cells #[.int .i64 a,.int .i64 d] 283)) (.cells #[.int .i64 0,.int .i64 0] 283)
  rwa [show (w.alloc (.cells #[.int .i64 a,.int .i64 d] 283)).heap.size=w.heap.size+1 from Array.size_push ..] at this
theorem Rs.get {w1 w2:World} {p p2:Nat} {a d:Nat} (h:Rs w R v ys w1 p a d) (h2:RdAt 311 w2 R v ys p2) (o:Only (λk=>k=R) w1 w2):Rs w R v ys w2 p2 a d where
 rd:=h2
 on:=h.on.trans o (λ_ _ e=>e)
 lt:=h.lt
 vb:=h.vb
 box:=o.heap h.box (λe=>by have:=h.lt;omega)
 res:=o.heap h.res (λe=>by have:=h.lt;omega)
theorem Rs.past {w1 w2:World} {a d:Nat} (h:Rs w R v ys w1 p a d) (o:N0 w1 w2):Rs w R v ys w2 p a d :=
 h.get (h.rd.keep o (λf=>f) (λ_ _ f=>f)) (o.mono (λ_ _ f=>f.elim))
theorem Rs.set {w1:World} {a d:Nat} (h:Rs w R v ys w1 p a d) (a' d':Nat) :
 Rs w R v ys ((w1.setCell ⟨w.heap.size,0,none⟩ (.int .i64 a')).setCell ⟨w.heap.size,1,none⟩ (.int .i64 d')) p a' d' where
 rd:=h.rd.keep (UU (S:=λk=>k=w.heap.size) _ _ rfl) (λf=>by have:=h.lt;omega) (λk hk f=>by have:=h.vb k hk;omega)
 on:=((h.on.setCell (p:=⟨w.heap.size,0,none⟩) (λf=>absurd f (Nat.lt_irrefl _)) _).setCell (p:=⟨w.heap.size,1,none⟩) (λf=>absurd f (Nat.lt_irrefl _)) _)
 lt:=h.lt
 vb:=h.vb
 box:=Wy _ _ h.box
 res:=(UU (S:=λk=>k=w.heap.size) _ _ rfl).heap h.res (λf=>by omega)
theorem Rs.fin {w1:World} {a d:Nat} (h:Rs w R v ys w1 p a d) (x y:Value) {w2:World} (e:w2=(w1.setCell ⟨w.heap.size+1,0,none⟩ x).setCell ⟨w.heap.size+1,1,none⟩ y) :
 w2.heap[w.heap.size+1]? = some (.cells #[x,y] 283 (0,0))∧RdAt 311 w2 R v ys p∧Only (λk=>k=R) w w2:=by
 subst e;refine⟨Wy _ _ h.res,h.rd.keep (UU (S:=λk=>k=w.heap.size+1) _ _ rfl) (λf=>by have:=h.lt;omega) (λk hk f=>by have:=h.vb k hk;omega),?_⟩;exact ((h.on.setCell (p:=⟨w.heap.size+1,0,none⟩) (λ(f:w.heap.size+1<w.heap.size)=>absurd f (by omega)) _).setCell (p:=⟨w.heap.size+1,1,none⟩) (λ(f:w.heap.size+1<w.heap.size)=>absurd f (by omega)) _)
theorem KR (h:RdAt 311 w R v ys p) (n:Nat) (h1:n<=64) (r:List Bool) (hr:(Qf ys).drop p=r) (hs:n<=r.length) :
 Calls prog 274 #[.pointer (some ⟨R,0,none⟩),.int .i64 n] w λe w'=>e=.returned (.tuple #[.int .u64 (bnum (r.take n):Nat),.int .i64 0]) ∧
  RdAt 311 w' R v ys (p+n)∧(Qf ys).drop (p+n)=r.drop n∧Only (λk=>k=R) w w':=by
 have hl:r.length=8*ys.length - p:=by rw[<-hr,Qm,WU]
 have hp:=h.le;refine (Gc h n (by omega) (by omega) (by omega)).mono ?_;rintro e w' ⟨rfl,h2,h3⟩;rw[Int.toNat_natCast] at h2;rw[Int.toNat_natCast,hr];exact⟨rfl,h2,by rw[<-List.drop_drop,hr],h3⟩
theorem KQ (h:RdAt 311 w R v ys p) (n:Nat) (h1:n<=64) (r:List Bool) (hr:(Qf ys).drop p=r) (hs:r.length<n) :
 Calls prog 274 #[.pointer (some ⟨R,0,none⟩),.int .i64 n] w λe w'=>e=.returned (.tuple #[.int .u64 0,.int .i64 2])∧N0 w w':=by
 have hl:r.length=8*ys.length - p:=by rw[<-hr,Qm,WU]
 have hp:=h.le;exact xL h n (by omega) (by omega) (by omega)
theorem Ty (r:List Bool) (h:11<=r.length):bnum (r.take 11)=bnum (r.take 5)*64+bnum ((r.drop 5).take 6)∧bnum (r.take 5)<32∧bnum ((r.drop 5).take 6)<64:=by
 have e:r.take 11=r.take 5++(r.drop 5).take 6:=by
  rw[show (11:Nat)=5+6 from rfl,List.take_add]
 have l5:(r.take 5).length=5:=by rw[Qg];omega
 have l6:((r.drop 5).take 6).length=6:=by rw[Qg,Qm];omega
 have b5:=Wi (r.take 5);have b6:=Wi ((r.drop 5).take 6);rw[l5] at b5;rw[l6] at b6;rw[e,zC,l6];exact⟨rfl,b5,b6⟩
theorem gN (h:RdAt 311 w R v ys p) (r:List Bool) (hr:(Qf ys).drop p=r) (hs:r.length<11) :
 Calls prog 280 #[.pointer (some ⟨R,0,none⟩)] w λe w'=>e=.returned (.tuple #[.agg #[.int .i64 0,.int .i64 0],.int .i64 2])∧N0 w w':=by
 have h0:=h.keep ((Only.refl (λ_=>False) w).alloc (.cells #[.int .i64 0,.int .i64 0] 283)) (λf=>f) (λ_ _ f=>f);have G:=Qa (KQ h0 11 (by omega) r hr hs);clear h h0 hr hs;go_enter func280,ntmps280;go_wp2_with fail;refine G.o.mono ?_;rintro e w1 ⟨rfl,o1⟩;have g1:=o1.heap (heap_alloc_last w _) (λf=>f);obtain⟨c0,c1,f0,f1⟩:=Qu g1;have O1:=Qa ((((Only.refl (λ_=>False) w).alloc (.cells #[.int .i64 0,.int .i64 0] 283)).same o1));have HG:=Qa g1;clear G o1 g1;go_wp2;exact bodyPost_ret (Pt rfl _ _ w.heap.size 283 _ (0,0) _ rfl (Wy _ _ HG.o) underlying283 rfl Tryz.sizeWin) rfl ⟨rfl,(O1.o.setCell (p:=⟨w.heap.size,0,none⟩) (λf=>absurd f (Nat.lt_irrefl _)) _).setCell (p:=⟨w.heap.size,1,none⟩) (λf=>absurd f (Nat.lt_irrefl _)) _⟩
theorem wJ (a d:Int) (w:World) (ha:0<=a∧a<=64) (hd:0<=d∧d<=64) :
 Calls prog 264 #[.agg #[.int .i64 a,.int .i64 d]] w λe w'=>e=.returned (.int .i64 (64 - a - d))∧N0 w w':=by
 obtain⟨x,rfl⟩:=Int.eq_ofNat_of_zero_le ha.1;obtain⟨y,rfl⟩:=Int.eq_ofNat_of_zero_le hd.1;exact PZ x y w (by omega) (by omega)
theorem Rq (h:RdAt 311 w R v ys p) (hv:∀k,v.ownBlock=some k->k<w.heap.size) (r:List Bool) (hr:(Qf ys).drop p=r) (hs:11<=r.length) (x y:Nat) (z:Int) (hb:63<bnum (r.take 5)+bnum ((r.drop 5).take 6)∧x=0∧y=0∧z=3∨bnum (r.take 5)+bnum ((r.drop 5).take 6)<=63∧bnum (r.take 5)=x∧bnum ((r.drop 5).take 6)+1=y∧z=0) :
 Calls prog 280 #[.pointer (some ⟨R,0,none⟩)] w λe w'=>e=.returned (.tuple #[.agg #[.int .i64 x,.int .i64 y],.int .i64 z]) ∧
  RdAt 311 w' R v ys (p+11)∧(Qf ys).drop (p+11)=r.drop 11∧Only (λk=>k=R) w w':=by
 have h0:=h.keep ((Only.refl (λ_=>False) w).alloc (.cells #[.int .i64 0,.int .i64 0] 283)) (λf=>f) (λ_ _ f=>f);have G:=Qa (KR h0 11 (by omega) r hr hs);have hR:=ZU h.cell;obtain⟨b1,b2,b3⟩:=Ty r hs;rw[b1] at G;clear h h0 hr hs b1;generalize bnum (r.take 5)=a at *;generalize bnum ((r.drop 5).take 6)=c at *;obtain⟨t,ht⟩:=EX (a*64+c);rw[<-ht] at G
 have t1:(t:Int) / 64=(a:Int):=by omega
 have t2:(t:Int) % 64=(c:Int):=by omega
 have t3:(t:Int)<=4095:=by omega
 have TR:=λw=>Qa (wJ (a:Int) ((c:Int)+1) w (by omega) (by omega))
 clear ht
 rcases hb with ⟨hb,rfl,rfl,rfl⟩ | ⟨hb,rfl,rfl,rfl⟩
 case' inl=>have dt:decide ((64:Int) - (a:Int) - ((c:Int)+1)<0)=true:=by simp;omega
 case' inr=>have dt:decide ((64:Int) - (a:Int) - ((c:Int)+1)<0)=false:=by simp;omega
 all_goals
  go_enter func280,ntmps280;go_wp2_with fail;refine G.o.mono ?_;rintro e w1 ⟨rfl,r1,d1,o1⟩;have g1:=o1.heap (heap_alloc_last w _) (λe=>by omega);have O1:=Qa ((((Only.refl (λk=>k=R) w).alloc (.cells #[.int .i64 0,.int .i64 0] 283)).trans o1 (λ_ _ f=>f)));have HG:=Qa g1;have RD:=Qa r1;have DR:=Qa d1;clear G o1 g1 r1 d1;go_wp2_with fail;refine (TR _).out.mono ?_;rintro e w2 ⟨rfl,o2⟩;have oA:N0 w1 w2:=((Only.refl (λ_=>False) w1).alloc _).trans o2 (λ_ _ f=>f);have g2:=o2.heap (heap_alloc_last w1 _) (λf=>f);have g1:=oA.heap HG.o (λf=>f);have RD2:=Qa (RD.o.keep oA (λf=>f) (λ_ _ f=>f));have O2:=Qa (O1.o.trans oA (λ_ _ f=>f.elim));obtain⟨c0,c1,f0,f1⟩:=Qu g1;obtain⟨c2,c3,_,_⟩:=Qu g2;have HG2:=Qa g1;clear TR oA o2 g1 g2 RD O1 HG;go_wp2;exact bodyPost_ret (Pt rfl _ _ w.heap.size 283 _ (0,0) _ rfl (Wy _ _ HG2.o) underlying283 rfl Tryz.sizeWin) rfl ⟨rfl,RD2.o.keep (UU (S:=λk=>k=w.heap.size) _ _ rfl) (λf=>by omega) (λk hk f=>by have:=hv k hk;omega),DR.o,(O2.o.setCell (p:=⟨w.heap.size,0,none⟩) (λf=>absurd f (Nat.lt_irrefl _)) _).setCell (p:=⟨w.heap.size,1,none⟩) (λf=>absurd f (Nat.lt_irrefl _)) _⟩
def Hi (w:World) (R:Nat) (c:Int) (e:Ending) (w':World):Prop:=∃x a d:Int,e=.returned (.tuple #[.int .u64 x,.agg #[.int .i64 a,.int .i64 d],.int .i64 c])∧Only (λk=>k=R) w w'
def Good (w:World) (R:Nat) (v:Value) (ys:LI) (x:Nat) (a d:Nat) (r:List Bool) (e:Ending) (w':World):Prop :=
 e=.returned (.tuple #[.int .u64 x,.agg #[.int .i64 a,.int .i64 d],.int .i64 0])∧(∃p,RdAt 311 w' R v ys p∧(Qf ys).drop p=r)∧Only (λk=>k=R) w w'
theorem Rj (r:List Bool):(bnum ((false :: r).take 1):Nat)=0:=by simp[bnum]
theorem Nk (r:List Bool):(bnum ((true :: r).take 1):Nat)=1:=by simp[bnum]
theorem Sy {y z d:Nat} (hy:y<2^d) (h:z+d<=64):IntKind.u64.wrap ((y:Int)*2^z)=((y*2^z:Nat):Int):=by
 have h1:y*2^z<2^d*2^z:=Nat.mul_lt_mul_of_pos_right hy (Nat.two_pow_pos z);rw[<-Nat.pow_add] at h1;have h2:2^(d+z)<=2^64:=Nat.pow_le_pow_right (by omega) (by omega);rw[p64] at h2
 have e:(y:Int)*2^z=((y*2^z:Nat):Int):=by push_cast;rfl
 rw[e,IntKind.wrap_u64];omega
theorem Jq (r:List Bool) (d:Nat):bnum (r.take d)<2^d:=by
 have h1:=Wi (r.take d);have h2:2^(r.take d).length<=2^d:=Nat.pow_le_pow_right (by omega) (by rw[Qg];omega);omega
theorem jz (h:RdAt 311 w R v ys p) (hv:∀k,v.ownBlock=some k->k<w.heap.size) (wn:Option (Nat × Nat)) (a d:Nat) (hw:W2 wn a d) (r:List Bool) (hr:(Qf ys).drop p=r) :
 Calls prog 275 #[.pointer (some ⟨R,0,none⟩),.agg #[.int .i64 a,.int .i64 d]] w λe w' =>
  ((gR wn r).2.2.2≠0∧Hi w R (gR wn r).2.2.2 e w')∨((gR wn r).2.2.2=0∧∃a' d',W2 (gR wn r).2.1 a' d'∧Good w R v ys (gR wn r).1 a' d' (gR wn r).2.2.1 e w'):=by
 obtain⟨Q,hQ⟩:∃Q:Ending->World->Prop,Q=λe w'=>((gR wn r).2.2.2≠0∧Hi w R (gR wn r).2.2.2 e w')∨((gR wn r).2.2.2=0∧∃a' d',W2 (gR wn r).2.1 a' d'∧Good w R v ys (gR wn r).1 a' d' (gR wn r).2.2.1 e w'):=⟨_,rfl⟩
 refine (?_:Calls _ _ _ _ Q).mono λe w' q=>by rw[hQ] at q;exact q
 have NO:=Qa (λ(c:Int) (hc:c≠0) (hg:(gR wn r).2.2.2=c) (e:Ending) (w':World) (b:Hi w R c e w')=>show Q e w' by rw[hQ,hg];exact .inl ⟨hc,b⟩);have h0:=Qa (λ(x:Nat) (wn':Option (Nat × Nat)) (r':List Bool) (a' d':Nat) (hg:gR wn r=(x,wn',r',0)) (hw:W2 wn' a' d') (e:Ending) (w':World) (b:Good w R v ys x a' d' r' e w')=>show Q e w' by rw[hQ,hg];exact .inr ⟨rfl,a',d',hw,b⟩);have S0:=Qa (Rs.start h hv a d);have HW:=Qa hw;clear h hv hQ hw
 rcases r with _ | ⟨b,r⟩
 case' nil =>
  have E:=Qa (NO.o 2 (by decide) (by simp[gR]));have G:=Qa (KQ S0.o.rd 1 (by omega) [] hr (by simp));clear hr;go_enter func275,ntmps275;go_wp2_with fail;refine G.o.mono ?_;rintro e w1 ⟨rfl,o⟩;have S:=Qa (S0.o.past o);clear o S0 G
 case' cons =>
  have G:=Qa (KR S0.o.rd 1 (by omega) _ hr (by simp));clear hr
  cases b
  case' false =>
   rw[Rj] at G;have E:=Qa (h0.o 0 wn r a d (by simp[gR]) HW.o)
  case' true =>
   rw[Nk] at G
  all_goals
   go_enter func275,ntmps275;go_wp2_with fail;refine G.o.mono ?_;rintro e w1 ⟨rfl,h1,q1,o1⟩;have S:=Qa (S0.o.get h1 o1);have QQ:Hid ((Qf ys).drop (p+1)=r):=q1;clear h1 o1 S0 G q1
  focus
   rcases r with _ | ⟨b,r⟩
   case' nil =>
    have E:=Qa (NO.o 2 (by decide) (by simp[gR]));have G:=Qa (KQ S.o.rd 1 (by omega) [] QQ.o (by simp));go_wp2_with fail;refine G.o.mono ?_;rintro e w2 ⟨rfl,o⟩;have S:=Qa (S.o.past o);clear o G
   case' cons =>
    have G:=Qa (KR S.o.rd 1 (by omega) (b :: r) QQ.o (by simp))
    cases b
    case' true=>rw[Nk] at G
    case' false=>rw[Rj] at G
    all_goals
     go_wp2_with fail;refine G.o.mono ?_;rintro e w2 ⟨rfl,h2,q2,o2⟩;have S:=Qa (S.o.get h2 o2);have QQ:Hid ((Qf ys).drop (p+1+1)=r):=q2;clear h2 o2 G q2
    focus
     obtain⟨c0,c1,_,_⟩:=Qu S.o.box
     rcases HW.o with ⟨rfl,rfl,rfl⟩ | ⟨z,rfl,g1,g2,g3⟩
     case' inl =>
      have E:=Qa (NO.o 3 (by decide) (by simp[gR]));go_wp2_with fail;refine (Dv _).mono ?_;rintro e w3 ⟨rfl,o⟩;have S:=Qa (S.o.past o);clear o c0 c1
     case' inr =>
      have z64:(z:Int)<64:=by omega
      have e1:64 - a - z=d:=by omega
      go_wp2_with fail;refine (XV a d _ (by omega)).mono ?_;rintro e w3 ⟨rfl,o⟩;have S:=Qa (S.o.past o);clear o c0 c1;have TW:=Qa (λW=>WG a z d W g2)
      by_cases hc:r.length<d
      case' pos =>
       have E:=Qa (NO.o 2 (by decide) (by rw[gR];simp only[e1];rw[if_pos hc]));have G:=Qa (KQ S.o.rd d (by omega) _ QQ.o hc)
      case' neg =>
       have E:=Qa (h0.o _ _ _ a d (by rw[gR];simp only[e1];rw[if_neg hc]) (.inr ⟨z,rfl,g1,g2,g3⟩));have G:=Qa (KR S.o.rd d (by omega) _ QQ.o (by omega));have HS:=Qa (Sy (z:=z) (Jq r d) (by omega));generalize bnum (r.take d)=y at G HS E
    rotate_right
    focus
     by_cases c2:r.length<11
     case' pos =>
      have E:=Qa (NO.o 2 (by decide) (by rw[gR];by_cases c1:r.length<5;rw[if_pos c1];rw[if_neg c1,if_pos c2]));have G:=Qa (gN S.o.rd r QQ.o c2);go_wp2_with fail;refine G.o.mono ?_;rintro e w3 ⟨rfl,o⟩;have S:=Qa (S.o.past o);obtain⟨c0,c1,_,_⟩:=Qu S.o.box;obtain⟨_,_,_,_⟩:=Qu S.o.res;have S:=Qa (S.o.set 0 0);clear o G
     case' neg =>
      obtain⟨_,b5,b6⟩:=Ty r (by omega);have hv:=Qa (λk hk=>Nat.lt_of_lt_of_le (S.o.vb k hk) S.o.on.size);have l11:(r.drop 11).length=r.length - 11:=Qm
      by_cases c3:63<bnum (r.take 5)+bnum ((r.drop 5).take 6)
      case' pos =>
       have E:=Qa (NO.o 3 (by decide) (by rw[gR,if_neg (by omega),if_neg c2,if_pos c3]));have G:=Qa (Rq S.o.rd hv.o r QQ.o (by omega) 0 0 3 (.inl ⟨c3,rfl,rfl,rfl⟩));go_wp2_with fail;refine G.o.mono ?_;rintro e w3 ⟨rfl,h3,q3,o3⟩;have S:=Qa (S.o.get h3 o3);obtain⟨c0,c1,_,_⟩:=Qu S.o.box;obtain⟨_,_,_,_⟩:=Qu S.o.res;have S:=Qa (S.o.set 0 0);clear h3 q3 o3 G
      case' neg =>
       obtain⟨D,hD⟩:=EX (bnum ((r.drop 5).take 6)+1);have G:=Qa (Rq S.o.rd hv.o r QQ.o (by omega) _ D 0 (.inr ⟨by omega,rfl,hD.symm,rfl⟩));have N1:=Qa (λh:(r.drop 11).length<D=>NO.o 2 (by decide) (by rw[gR,if_neg (by omega),if_neg c2,if_neg c3,if_pos (by omega)]));have Y1:=Qa (λ(h:¬(r.drop 11).length<D) a' d'=>h0.o (bnum ((r.drop 11).take D)*2^(63 - bnum (r.take 5) - bnum ((r.drop 5).take 6))) (some (bnum (r.take 5),63 - bnum (r.take 5) - bnum ((r.drop 5).take 6))) ((r.drop 11).drop D) a' d' (by rw[gR,if_neg (by omega),if_neg c2,if_neg c3,if_neg (by omega),List.drop_drop,hD,show 11+(bnum ((r.drop 5).take 6)+1)=12+bnum ((r.drop 5).take 6) by omega]));obtain⟨z,hz⟩:=EX (63 - bnum (r.take 5) - bnum ((r.drop 5).take 6));rw[<-hz] at Y1;generalize bnum (r.take 5)=a' at *
       have g2:a'+z+D=64:=by omega
       have g3:0<D:=by omega
       have z64:(z:Int)<64:=by omega
       clear hD hz;go_wp2_with fail;refine G.o.mono ?_;rintro e w3 ⟨rfl,h3,q3,o3⟩;have S:=Qa (S.o.get h3 o3);obtain⟨c0,c1,f0,f1⟩:=Qu S.o.box;have S:=Qa (S.o.set a' D);have QQ:=Qa q3;clear o3 h3 q3 G;go_wp2_with fail;refine (XV a' D _ (by omega)).mono ?_;rintro e w4 ⟨rfl,o⟩;have S:=Qa (S.o.past o);clear o c0 c1 f0 f1;have TW:=Qa (λW=>WG a' z D W g2)
       by_cases hc:(r.drop 11).length<D
       case' pos =>
        have E:=Qa (N1.o hc);have G:=Qa (KQ S.o.rd D (by omega) _ QQ.o hc)
       case' neg =>
        have E:=Qa (Y1.o hc a' D (.inr ⟨z,rfl,by omega,g2,by omega⟩));have G:=Qa (KR S.o.rd D (by omega) _ QQ.o (by omega));have HS:=Qa (Sy (z:=z) (Jq (r.drop 11) D) (by omega));generalize bnum ((r.drop 11).take D)=y at G HS E
 all_goals
  first
  | (obtain⟨c0,c1,_,_⟩:=Qu S.o.box;have _:=TW;go_wp2_with fail;refine G.o.mono ?_;(first | (rintro e w8 ⟨rfl,h8,q8,o8⟩;have S:=Qa (S.o.get h8 o8);have QQ:=Qa q8;clear h8 q8 o8) | (rintro e w8 ⟨rfl,o8⟩;have S:=Qa (S.o.past o8);clear o8));clear G c0 c1;obtain⟨c0,c1,_,_⟩:=Qu S.o.box;obtain⟨c2,c3,f2,f3⟩:=Qu S.o.res;have SD:=Qa (S.o.past ((Only.refl (λ_=>False) _).drew));go_wp2;go_region_with ((go_at_call 264;refine (TW.o _).mono ?_;rintro e w9 ⟨rfl,o9⟩;have S9:=Qa (SD.o.past o9);obtain⟨_,_,_,_⟩:=Qu S9.o.box;obtain⟨_,_,_,_⟩:=Qu S9.o.res)))
  | (have S9:=Qa (S.o.past ((Only.refl (λ_=>False) _).drew));obtain⟨c0,c1,_,_⟩:=Qu S.o.box;obtain⟨c2,c3,f2,f3⟩:=Qu S.o.res;go_wp2;go_region)
  all_goals
   go_wp2;refine bodyPost_ret (OK rfl _ _ (w.heap.size+1) 283 _ (0,0) _ rfl (S9.o.fin _ _ rfl).1 underlying283 rfl Tryz.sizeWin) rfl (E.o _ _ ?_)
   first
   | exact⟨_,_,_,rfl,(S9.o.fin _ _ rfl).2.2⟩
   | exact⟨by first | rfl | (rw[HS.o];rfl),⟨_,(S9.o.fin _ _ rfl).2.1,QQ.o⟩,(S9.o.fin _ _ rfl).2.2⟩
theorem W2.win {wn:Option (Nat × Nat)} {a d:Nat} (h:W2 wn a d):Win wn:=by
 rcases h with ⟨rfl,_,_⟩ | ⟨z,rfl,h1,h2,h3⟩
 ·exact Win.none
 ·intro a' z' e
  simp only[Option.some.injEq,Prod.mk.injEq] at e;obtain⟨rfl,rfl⟩:=e;omega
structure Rl (w:World) (R K:Nat) (v:Value) (ys:LI) (wr:World) (l:Value) (acc:LI) (p:Nat) (a d:Nat):Prop where
 rd:RdAt 311 wr R v ys p
 on:Only (λk=>k=R) w wr
 own:wr.ownsRow w.heap.size 23 1 l acc.length (acc.map (Value.int .u64))
 nb:∀q,l.ownBlock=some q->q≠K
 gt:w.heap.size<=K
 box:wr.heap[K]? = some (.cells #[.int .i64 a,.int .i64 d] 283 (0,0))
theorem Rl.next {R K:Nat} {wr w2:World} {l:Value} {acc:LI} {p p2 a d:Nat} (h:Rl w R K v ys wr l acc p a d) (hR:R<w.heap.size) (hv:∀k,v.ownBlock=some k->k<w.heap.size)
 (h2:RdAt 311 w2 R v ys p2) (o:Only (λk=>k=R) wr w2) (a2 d2:Nat):Rl w R K v ys ((w2.setCell ⟨K,0,none⟩ (.int .i64 a2)).setCell ⟨K,1,none⟩ (.int .i64 d2)) l acc p2 a2 d2:=by
 have hg:=h.gt;have h0:=o.heap h.box (λe=>by omega);have o2:=UU (w:=w2) (K:=K) (S:=λk=>k=K) (.int .i64 a2) (.int .i64 d2) rfl;have h1:=o.own h.own (λk hk e=>by have:=(h.own.lt k hk).1;omega);exact⟨h2.keep o2 (λf=>by omega) (λk hk f=>by have:=hv k hk;omega),(h.on.trans o (λ_ _ e=>e)).trans o2 (λk hk e=>by omega),o2.own h1 (λk hk e=>h.nb k hk e),h.nb,h.gt,Wy _ _ h0⟩
theorem Rl.grow {R K:Nat} {wr w2:World} {l l2:Value} {acc acc2:LI} {p a d:Nat} {o:Obj} (h:Rl w R K v ys wr l acc p a d) (hR:R<w.heap.size) (hv:∀k,v.ownBlock=some k->k<w.heap.size)
 (g:(wr.alloc o).grownBy w2 l.ownBlock) (own:w2.ownsRow w.heap.size 23 1 l2 acc2.length (acc2.map (Value.int .u64))) (hat:∀q,l2.ownBlock=some q->l.ownBlock=some q∨wr.heap.size<=q):Rl w R K v ys w2 l2 acc2 p a d:=by
 have hg:=h.gt;have oo:Only (λk=>l.ownBlock=some k) wr w2:=((Only.refl (λk=>l.ownBlock=some k) wr).alloc o).grown g (λk _ e=>e)
 exact⟨h.rd.keep oo (λe=>by have:=(h.own.lt _ e).1;omega) (λk hk e=>by have:=(h.own.lt _ e).1;have:=hv k hk;omega),
  h.on.trans oo (λk hk e=>by have:=(h.own.lt _ e).1;omega),own,λq hq=>by
   rcases hat q hq with e | e
   ·exact h.nb q e
   ·have:=ZU h.box;omega,h.gt,oo.heap h.box (λe=>h.nb _ e rfl)⟩
def lenV:Value->Nat | .slice _ n _=>n | _=>0
theorem Bb {acc:LI} {N:Nat} (h:N<=acc.length) (p:Nat) (wn:Option (Nat × Nat)) (l:List Bool):gDA (N - acc.length) acc p wn l=(acc,0):=by
 rw[show N - acc.length=0 by omega,gDA]
theorem FY {acc:LI} {N:Nat} (h:acc.length<N) (p:Nat) (wn:Option (Nat × Nat)) (l:List Bool) (hb:(gR wn l).2.2.2≠0):gDA (N - acc.length) acc p wn l=([],(gR wn l).2.2.2):=by
 rw[show N - acc.length=(N - acc.length - 1)+1 by omega,gDA,if_pos hb]
theorem rK {acc:LI} {N:Nat} (h:acc.length<N) (p:Nat) (wn:Option (Nat × Nat)) (l:List Bool) (hb:(gR wn l).2.2.2=0) :
 gDA (N - acc.length) acc p wn l=gDA (N - (acc++[((p ^^^ (gR wn l).1:Nat):Int)]).length) (acc++[((p ^^^ (gR wn l).1:Nat):Int)]) (p ^^^ (gR wn l).1) (gR wn l).2.1 (gR wn l).2.2.1:=by
 rw[show N - acc.length=(N - acc.length - 1)+1 by omega,gDA,if_neg (by simp[hb]),Qb,List.length_singleton,show N - acc.length - 1=N - (acc.length+1) by omega]
theorem xS (R:Nat) :
 Calls prog 255 #[.pointer (some ⟨R,0,none⟩),.int .i64 0] w λe w'=>e=.returned (.tuple #[.slice none 0 0,.int .i64 0])∧w=w':=by
 go_enter func255,ntmps255;go_wp2;go_ret2;exact⟨rfl,rfl⟩
theorem qC (h:RdAt 311 w R v ys 0) (N:Nat) (hN:0<N) (hs:(Qf ys).length<64) :
 Calls prog 255 #[.pointer (some ⟨R,0,none⟩),.int .i64 N] w λe w'=>e=.returned (.tuple #[.slice none 0 0,.int .i64 2])∧Only (λk=>k=R) w w':=by
 have G:=Qa (KQ h 64 (by omega) _ rfl (by simpa using hs))
 have d0:((N:Int) == 0)=false:=by rw[beq_eq_false_iff_ne];omega
 clear h hs;go_enter func255,ntmps255;go_wp2_with fail;refine G.o.mono ?_;rintro e w1 ⟨rfl,o1⟩;have O1:=Qa (o1.mono (T:=λk=>k=R) (λ_ _ f=>f.elim));clear o1 G;go_wp2;go_ret2;exact⟨rfl,O1.o⟩
theorem uL (h:RdAt 311 w R v ys 0) (hv:∀k,v.ownBlock=some k->k<w.heap.size) (N:Nat) (hN:0<N) (hN2:N<=65536) (hs:64<=(Qf ys).length) :
 Calls prog 255 #[.pointer (some ⟨R,0,none⟩),.int .i64 N] w λe w'=>∃u,e=.returned (.tuple #[u,.int .i64 (gRd (Qf ys) N).2]) ∧
  w'.ownsRow w.heap.size 23 1 u (gRd (Qf ys) N).1.length ((gRd (Qf ys) N).1.map (Value.int .u64))∧Only (λk=>k=R) w w':=by
 obtain⟨i0,hi,hz0,hz1,hz2⟩:=info_parts Tryz.infoU64;have hR:=ZU h.cell;have HV:=Qa hv;have G:=Qa (KR h 64 (by omega) (Qf ys) rfl (by simpa using hs))
 have d0:((N:Int) == 0)=false:=by rw[beq_eq_false_iff_ne];omega
 have hf:bnum ((Qf ys).take 64)<18446744073709551616:=by
  have:=Jq (Qf ys) 64
  rwa [p64] at this
 have HG:Hid (gDA (N - [((bnum ((Qf ys).take 64):Nat):Int)].length) [((bnum ((Qf ys).take 64):Nat):Int)] (bnum ((Qf ys).take 64)) none ((Qf ys).drop 64)=gRd (Qf ys) N):=by
  simp only[Hid];unfold gRd;rw[if_neg (by omega),if_neg (by omega)];rfl
 obtain⟨q,hq⟩:=EX (gRd (Qf ys) N);rw[<-hq] at HG;rw[<-hq];obtain⟨f0,hx⟩:=EX (bnum ((Qf ys).take 64));rw[<-hx] at HG G hf;clear h hs hv hq hx;go_enter func255,ntmps255;go_wp2_with fail;refine G.o.mono ?_;rintro e w1 ⟨rfl,r1,q1,o1⟩;have h5:(w1.alloc (.cells #[.int .u64 f0] 23)).ownsRow w.heap.size 23 1 (.slice (some ⟨w1.heap.size,0,none⟩) 1 1) 1 [.int .u64 f0]:=World.ownsRow_lit w1 #[.int .u64 f0] 1 o1.size (by unfold maxLen;omega) rfl;have oA:N0 w1 ((w1.alloc (.cells #[.int .u64 f0] 23)).alloc (.cells #[.int .i64 0,.int .i64 0] 283)):=((Only.refl _ w1).alloc _).alloc _
 have L1:Hid (Rl w R (w1.heap.size+1) v ys ((w1.alloc (.cells #[.int .u64 f0] 23)).alloc (.cells #[.int .i64 0,.int .i64 0] 283)) (.slice (some ⟨w1.heap.size,0,none⟩) 1 1) [(f0:Int)] (0+64) 0 0):=by
  refine⟨r1.keep oA (λf=>f) (λ_ _ f=>f),o1.trans oA (λ_ _ f=>f.elim),h5.alloc _,λq hq=>?_,?_,?_⟩
  ·simp only[Value.ownBlock,Option.some.injEq] at hq;omega
  ·have:=o1.size;omega
  ·have:=heap_alloc_last (w1.alloc (.cells #[.int .u64 f0] 23)) (.cells #[.int .i64 0,.int .i64 0] 283)
   rwa [show (w1.alloc (.cells #[.int .u64 f0] 23)).heap.size=w1.heap.size+1 from Array.size_push ..] at this
 clear r1 q1 o1 h5 oA G;go_wp2
 go_loopw [6,8] (λx l wr=>∃(f:Nat) (acc:LI) (wn:Option (Nat × Nat)) (p a d:Nat),x=.int .u64 f∧f<18446744073709551616∧Rl w R (w1.heap.size+1) v ys wr l acc p a d∧W2 wn a d∧gDA (N - acc.length) acc f wn ((Qf ys).drop p)=q∧0<acc.length∧acc.length<=N) (λ_ l _=>N - lenV l)
 case atStart=>exact⟨f0,[(f0:Int)],none,0+64,0,0,rfl,hf,L1.o,W2.none,HG.o,by simp,by simp;omega⟩
 case round =>
  clear L1 HG hf;obtain⟨f,acc,wn,p,a,d,rfl,hf,h2,hw,hg,ha0,haN⟩:=hrel;obtain⟨a6,c6,e6⟩:=(Bs.of_own h2.own).len;subst e6;have L:=Qa h2;have HW:=Qa hw
  have hj:∀k,v.ownBlock=some k->k<wr.heap.size:=λk hk=>Nat.lt_of_lt_of_le (HV.o k hk) h2.on.size
  by_cases hlt:acc.length<N
  ·have dl:decide ((acc.length:Int)<(N:Int))=true:=by simp;omega
   have RD:=Qa (jz h2.rd hj wn a d hw _ rfl);obtain⟨c0,c1,b0,b1⟩:=Qu h2.box;have hgk:=h2.gt
   by_cases hb:(gR wn ((Qf ys).drop p)).2.2.2=0
   ·have hh:=gR_ok hw.win _ hb
    have hp:=Qa ((rK hlt f wn _ hb).symm.trans hg);obtain⟨g,h6⟩:=EX (gR wn ((Qf ys).drop p));rw[<-h6] at RD hp hh hb;have HB:=Qa hb;have hxx:=bits_xor_u64_nat f g.1 hf hh.1;have k2:=ZN hf hh.1;obtain⟨y,hy⟩:=EX (f ^^^ g.1);rw[<-hy] at hxx k2 hp;obtain⟨m,hm⟩:=EX acc.length;rw[<-hm] at dl hlt ⊢;have HM:=Qa hm;clear h2 hw hg h6 hh hb hy hm;go_wp2_with fail;refine RD.o.mono ?_;rintro e w2 (⟨hn,_⟩ | ⟨_,a2,d2,k1,rfl,⟨p2,r2,q2⟩,o2⟩)
    ·exact absurd HB.o hn
    have L2:=Qa (L.o.next hR HV.o r2 o2 a2 d2);have HW2:=Qa k1;have Q2:=Qa q2;obtain⟨_,_,_,_⟩:=Qu (o2.heap L.o.box (λe=>by omega));have hsz:=Nat.le_trans L.o.on.size o2.size;clear c0 c1 b0 b1 L RD HW hj r2 o2 k1 q2;obtain⟨w3,h3⟩:=EX ((w2.setCell ⟨w1.heap.size+1,0,none⟩ (.int .i64 a2)).setCell ⟨w1.heap.size+1,1,none⟩ (.int .i64 d2));have h1:=L2.o.own;rw[<-HM.o] at h1;have ho:=L2.o.on.size;rw[<-h3] at L2 ho h1;have H3:=Qa h3;clear h3
    have hm7:m+1<=65536:=by omega
    have he:w3.heap.size=w2.heap.size:=by rw[H3.o];simp
    have k0:(w3.alloc (.cells #[.int .u64 y] 23)).heap.size=w2.heap.size+1:=by rw[<-he];exact Array.size_push ..
    have ha:∀j u,[Value.int .u64 y][j]? = some u->(w3.alloc (.cells #[.int .u64 y] 23)).cell? ((⟨w2.heap.size,0,none⟩:Addr).add j)=some u:=by rw[<-he];exact cell_one_new _ _ _
    have hz:=Qa he;have hl:=Qa k0;have h7:=Qa ha;have h9:=Qa (h1.alloc (.cells #[.int .u64 y] 23))
    have hba:w.heap.size<=w2.heap.size+1:=by omega
    clear he k0 ha h1;go_wp2_with (at_builtin;rw[<-H3.o];refine wpList_append_lies _ rfl _ _ _ rfl w.heap.size 23 i0 (.int .u64 0) 1 8 underlying161 hi hz0 hz1 hz2 rfl (by omega) _ m _ rfl h9.o ⟨w2.heap.size,0,none⟩ 1 1 [.int .u64 y] rfl rfl h7.o ?c2 (by omega) ?c3 ?c4 ?c5 (w2.heap.size+1) hl.o ?_)
    case c2=>intro u hu;simp at hu;subst hu;rfl
    case c3=>unfold maxLen;omega
    case c4=>omega
    case c5=>rw[hl.o];exact hba
    intro g2 cap1 w4 hown1 hgrow hat hg1
    have hd:w4.ownsRow w.heap.size 23 1 (.slice (some ⟨g2,0,none⟩) (m+1) cap1) (acc++[(y:Int)]).length ((acc++[(y:Int)]).map (Value.int .u64)):=by
     rw[Qb,<-HM.o,List.map_append];exact hown1
    have h0:(w3.alloc (.cells #[.int .u64 y] 23)).grownBy w4 (Value.slice a6 acc.length c6).ownBlock:=by
     have:(Value.slice a6 acc.length c6).ownBlock=(Value.slice a6 m c6).ownBlock:=by cases a6 <;> rfl
     rw[this];exact hgrow
    have L4:=Qa (L2.o.grow hR HV.o h0 hd (λr hr=>by
     simp only[Value.ownBlock,Option.some.injEq] at hr;subst hr
     rcases hat with e | e
     ·left
      have:(Value.slice a6 acc.length c6).ownBlock=(Value.slice a6 m c6).ownBlock:=by cases a6 <;> rfl
      rw[this];exact e
     ·right;rw[hz.o];omega))
    have ht:Hid ((acc++[(y:Int)]).length<=N∧0<(acc++[(y:Int)]).length):=by
     simp only[Hid];rw[Qb,<-HM.o,List.length_singleton];omega
    clear hown1 hgrow hat hg1 hd h0 L2 h9 h7 hl hz;go_wp2
    go_roundw
    case rel=>exact⟨y,_,g.2.1,p2,a2,d2,rfl,k2,L4.o,HW2.o,by rw[Q2.o];exact hp.o,ht.o.2,ht.o.1⟩
    case measure=>simp only[lenV];omega
   ·have h4:=Qa ((FY hlt f wn _ hb).symm.trans hg)
    obtain⟨g,h6⟩:=EX (gR wn ((Qf ys).drop p));rw[<-h6] at RD h4 hb;have HB:=Qa hb
    have dc:(g.2.2.2 != 0)=true:=by simpa using hb
    obtain⟨c,hc⟩:=EX g.2.2.2;rw[<-hc] at RD h4 HB dc;obtain⟨m,hm⟩:=EX acc.length;rw[<-hm] at dl hlt ⊢;clear h2 hw hg h6 hb hc hm;go_wp2_with fail;refine RD.o.mono ?_;rintro e w2 (⟨_,x,a2,d2,rfl,o2⟩ | ⟨h8,_⟩)
    case inr=>exact absurd h8 HB.o
    obtain⟨_,_,_,_⟩:=Qu (o2.heap L.o.box (λe=>by omega));have O2:=Qa (L.o.on.trans o2 (λ_ _ e=>e));clear c0 c1 b0 b1 L RD HW hj o2;go_wp2;go_ret2;have hq:=h4.o;subst hq;refine⟨.slice none 0 0,rfl,World.ownsRow_nil _ _ _ _,?_⟩;exact (O2.o.setCell (p:=⟨w1.heap.size+1,0,none⟩) (λ(f:w1.heap.size+1<w.heap.size)=>absurd f (by omega)) _).setCell (p:=⟨w1.heap.size+1,1,none⟩) (λ(f:w1.heap.size+1<w.heap.size)=>absurd f (by omega)) _
  ·have dl:decide ((acc.length:Int)<(N:Int))=false:=by simp;omega
   have HR:Hid (q=(acc,0)):=by simp only[Hid];rw[<-hg,Bb (by omega)]
   clear h2 hw hg hj;obtain⟨m,hm⟩:=EX acc.length;rw[<-hm] at dl hlt ⊢;have HM:=Qa hm;clear hm;go_wp2;go_ret2;rw[HR.o];exact⟨_,rfl,by have:=L.o.own;rw[HM.o];exact this,L.o.on⟩
theorem uE (h:RdAt 311 w R v ys 0) (hv:∀k,v.ownBlock=some k->k<w.heap.size) (N:Nat) (hN2:N<=65536) :
 Calls prog 255 #[.pointer (some ⟨R,0,none⟩),.int .i64 N] w λe w'=>∃u,e=.returned (.tuple #[u,.int .i64 (gRd (Qf ys) N).2]) ∧
  w'.ownsRow w.heap.size 23 1 u (gRd (Qf ys) N).1.length ((gRd (Qf ys) N).1.map (Value.int .u64))∧Only (λk=>k=R) w w':=by
 by_cases h0:N=0
 ·subst h0
  have e:gRd (Qf ys) 0=([],0):=by unfold gRd;rw[if_pos rfl]
  rw[e];refine (xS R).mono ?_;rintro e w' ⟨rfl,rfl⟩;exact⟨_,rfl,World.ownsRow_nil _ _ _ _,Only.refl _ _⟩
 ·by_cases hs:(Qf ys).length<64
  ·have e:gRd (Qf ys) N=([],2):=by unfold gRd;rw[if_neg h0,if_pos hs]
   rw[e];refine (qC h N (by omega) hs).mono ?_;rintro e w' ⟨rfl,o⟩;exact⟨_,rfl,World.ownsRow_nil _ _ _ _,o⟩
  ·exact uL h hv N (by omega) hN2 (by omega)
theorem tH (v:Value) (n:Int) (w:World) (h:n<0∨65536<n) :
 Calls prog 230 #[v,.int .i64 n] w λe w'=>e=.returned (.tuple #[.slice none 0 0,.int .i64 1])∧w=w':=by
 by_cases h0:n<0
 ·have d0:decide (n<0)=true:=Qc h0
  clear h;go_enter func230,ntmps230;go_wp2;go_ret2;exact⟨rfl,rfl⟩
 ·have d0:decide (n<0)=false:=Qh h0
  have d1:decide (65536<n)=true:=Qc (by omega);clear h;go_enter func230,ntmps230;go_wp2;go_ret2;exact⟨rfl,rfl⟩
theorem xJ (v:Value) (ys:LI) (N:Nat) (w:World) (h:Bs .u8 w v ys) (hr:∀y∈ys,0<=y∧y<=255) (hl:ys.length<=1000000000) (hN:N<=65536) (hT:Tab w) :
 Calls prog 230 #[v,.int .i64 N] w λe w'=>∃u,e=.returned (.tuple #[u,.int .i64 (DEC9 ys N).2])∧w'.ownsRow w.heap.size 23 1 u (DEC9 ys N).1.length ((DEC9 ys N).1.map (Value.int .u64))∧N0 w w':=by
 obtain⟨D,hD⟩:=EX (DEC9 ys N);rw[<-hD];unfold DEC9 at hD;rw[if_neg (by omega),Int.toNat_natCast] at hD
 have d0:decide ((N:Int)<0)=false:=by simp
 have d1:decide (65536<(N:Int))=false:=by simp;omega
 have HD:=Qa hD;have HB:=Qa h;have HR:=Qa hr;have NR:=Qa (XQ v ys w h hr (by omega));clear h hr hD;go_enter func230,ntmps230;go_wp2_with fail;refine NR.o.mono ?_;rintro e w1 ⟨R,v1,rfl,r1,o1,g1,g2,g3⟩;have RA:=Qa (uE r1 (λk hk=>(g3 k hk).2) N hN);have O1:=Qa o1;have S1:=o1.size;clear NR r1 o1 g3;go_wp2_with fail;refine RA.o.mono ?_;rintro e w2 ⟨u,rfl,h0,o2⟩;have B2:=Qa ((O1.o.low (Nat.le_refl _)).trans (o2.below (B:=w.heap.size) S1 (λk e=>by omega)));have h3:=Qa (Qr h0 S1);clear RA o2 O1
 by_cases hb:(gRd (Qf ys) N).2≠0
 ·have h1:Hid (D=([],(gRd (Qf ys) N).2)):=by simp only[Hid];rw[HD.o,if_pos hb]
  have dc:((gRd (Qf ys) N).2 != 0)=true:=by simpa using hb
  obtain⟨c,hc⟩:=EX ((gRd (Qf ys) N).2);rw[<-hc] at h1 dc ⊢;clear HD hb hc h0;go_wp2;go_ret2;have hD:=h1.o;subst hD;exact⟨_,rfl,World.ownsRow_nil _ _ _ _,YU B2.o⟩
 ·have h5:=DU (l:=Qf ys) (n:=N) (by simpa using hb)
  have hz:(gRd (Qf ys) N).2=0:=by simpa using hb
  rw[hz];obtain⟨L,hL⟩:=EX ((gRd (Qf ys) N).1)
  have h1:Hid (D=if (ENC9 L).1=ys then (L,0) else ([],3)):=by simp only[Hid];rw[HD.o,if_neg hb,<-hL]
  rw[<-hL] at h5 h3;have EN:=Qa (PR u L w2 (Bs.of_own h3.o) h5.1 (hT.below B2.o hT.pos));clear HD hb hz hL h0 h5;obtain⟨a6,c6,e6⟩:=(Bs.of_own h3.o).len;subst e6;obtain⟨m,hm⟩:=EX L.length;rw[<-hm] at EN ⊢;have HM:=Qa hm;clear hm;go_wp2_with fail;refine EN.o.mono ?_;rintro e w3 ⟨v3,rfl,h2,o3⟩;have EQ:=Qa (UZ v3 v (ENC9 L).1 ys w3 (Bs.of_own h2) ((HB.o.later B2.o).past o3) (NF L) HR.o);have O3:=Qa ((YU B2.o).same o3);have OW3:=Qa (o3.own h3.o (λ_ _ f=>f));obtain⟨a7,c7,e7⟩:=(Bs.of_own h2).len;subst e7;clear EN h2 o3 h3;generalize (ENC9 L).1=E at *
  by_cases he:E=ys
  ·rw[Qc he] at EQ
   have hD:=h1.o;rw[if_pos he] at hD;clear h1 he;have h6:=Qa hD;clear hD;obtain⟨m2,h4⟩:=EX E.length;rw[<-h4] at EQ ⊢;clear h4;go_wp2_with fail;refine EQ.o.mono ?_;rintro e w4 ⟨rfl,rfl⟩;clear EQ;go_wp2;go_ret2;have hD:=h6.o;subst hD;exact⟨_,rfl,by have:=OW3.o;rw[HM.o];exact this,O3.o⟩
  ·rw[Qh he] at EQ
   have hD:=h1.o;rw[if_neg he] at hD;clear h1 he;have h6:=Qa hD;clear hD;obtain⟨m2,h4⟩:=EX E.length;rw[<-h4] at EQ ⊢;clear h4;go_wp2_with fail;refine EQ.o.mono ?_;rintro e w4 ⟨rfl,rfl⟩;clear EQ;go_wp2;go_ret2;have hD:=h6.o;subst hD;exact⟨_,rfl,World.ownsRow_nil _ _ _ _,O3.o⟩
theorem qo (v:Value) (ys:LI) (n:Int) (w:World) (h:Bs .u8 w v ys) (hr:∀y∈ys,0<=y∧y<=255) (hl:ys.length<=1000000000) (hT:Tab w) :
 Calls prog 230 #[v,.int .i64 n] w λe w'=>∃u,e=.returned (.tuple #[u,.int .i64 (DEC9 ys n).2])∧w'.ownsRow w.heap.size 23 1 u (DEC9 ys n).1.length ((DEC9 ys n).1.map (Value.int .u64))∧N0 w w':=by
 by_cases hn:n<0∨65536<n
 ·have e:DEC9 ys n=([],1):=if_pos hn
  rw[e];refine (tH v n w hn).mono ?_;rintro e w' ⟨rfl,rfl⟩;exact⟨_,rfl,World.ownsRow_nil _ _ _ _,Only.refl _ _⟩
 ·obtain⟨N,rfl⟩:=Int.eq_ofNat_of_zero_le (show 0<=n by omega)
  exact xJ v ys N w h hr hl (by omega) hT
end Go.Proofs.YteciafpneamfaaaGreatDoor
