import Derived.Test.YtiochaeeoelmjaaGreatDoorG24
import Derived.Test.YtiochaeeoelmjaaGreatDoorG15
import Derived.Test.YtiochaeeoelmjaaGreatDoorG18
namespace Go.Proofs.YtiochaeeoelmjaaGreatDoor
set_option maxHeartbeats 2000000
set_option maxRecDepth 100000
open Go.RowKit _root_.Go.Proofs.Tryz
variable {w w' W:World} {v:Value} {ys xs l:LI} {R n p k g B:Nat} {P:Program} {ls:List (LI)} {E:TypeId}
theorem JF (p:Int) (a:Option Addr) (n c:Nat) (w:World):Calls prog 42 #[.agg #[.int .u64 p,.slice a n c]] w λe w'=>e=.returned (.bool (decide (0<n)))∧N0 w w':=by
 have d:decide ((0:Int)<(n:Int))=decide (0<n):=by simp
 go_enter func42,ntmps42;go_wp2;go_ret;exact⟨rfl,VG.alloc _⟩
theorem Ez (p:Int) (w:World):Calls prog 18 #[.agg #[.int .u64 p,.slice none 0 0]] w λe w'=>e=.returned (.bool true)∧N0 w w':=by
 have A:=Qa (JF p none 0 0 (w.alloc (.cells #[.int .u64 p,.slice none 0 0] 31)));rw[show decide (0<0)=false from rfl] at A;go_enter func18,ntmps18;go_wp2_with fail;refine A.o.mono ?_;rintro e w1 ⟨rfl,o1⟩;have F:=Qa (((Only.refl (λ_=>False) w).alloc (.cells #[.int .u64 p,.slice none 0 0] 31)).same o1);clear A o1;go_wp2;go_ret;exact⟨rfl,F.o⟩
theorem MQ (v:Value) (xs:LI) (w:World) (hb:Bs .u8 w v xs) (hl:xs.length<=1000000):Calls prog 19 #[v] w λe w'=>e=.returned (.slice (some ⟨w.heap.size,0,none⟩) xs.length xs.length)∧Blk w' w.heap.size 5 (bl xs)∧N0 w w':=by
 obtain⟨wm,hmk,h3,om⟩:=Z7 w xs.length (by omega);have h1:=hb.past om;obtain⟨co,bc,rfl⟩:=hb.len
 have hs:0<xs.length->∃ad,co=some ad∧∀j v,(bl xs)[j]? = some v->wm.cell? (ad.add j)=some v:=λh0=>by
  obtain⟨b,off,cap,e,_⟩:=h1.at 0 h0;refine⟨⟨b,off,none⟩,by cases e;rfl,λj v hv=>?_⟩
  have hj:j<xs.length:=by have:=(List.getElem?_eq_some_iff.1 hv).1;rwa [Qt] at this
  obtain⟨b2,off2,cap2,e2,hc2⟩:=h1.at j hj
  cases e;cases e2
  rw[bl_at _ _ hj] at hv
  cases hv
  rw[Go.WideShapes.add_plain];exact hc2
 obtain⟨w2,hcp,h2,o3⟩:=T7 wm w.heap.size xs.length bc co xs rfl h3 hs;obtain⟨N,hN⟩:=EX w.heap.size;obtain⟨n,hn⟩:=EX xs.length;rw[<-hN,<-hn] at hmk hcp;rw[<-hN] at h2 o3;rw[<-hN,<-hn];have F:=Qa (Vz h2 (om.trans o3 (λk hk e=>by omega)));clear hb h1 hs h2 o3 om h3 hN hn;go_enter func19,ntmps19;go_wp2;go_ret;exact⟨rfl,F.o⟩
theorem tQ (p:Int) (w:World):Calls prog 20 #[.agg #[.int .u64 p,.slice none 0 0]] w λe w'=>e=.returned (.agg #[.int .u64 0,.slice none 0 0])∧N0 w w':=by
 have A:=Qa (λW=>JF p none 0 0 W);simp only[show decide (0<0)=false from rfl] at A;obtain⟨N,hN⟩:=EX (w.heap.size+1);go_enter func20,ntmps20;go_wp2_with fail;rw[<-hN];refine (A.o _).mono ?_;rintro e w1 ⟨rfl,o1⟩;have g1:w1.heap[N]? = some (.cells #[.int .u64 0,.slice none 0 0] 31 (0,0)):=o1.heap (by rw[hN];exact YH (by simp)) (λf=>f);obtain⟨c0,c1,f0,f1⟩:=Qs g1;have HG:=Qa g1;have F:=Qa ((((Only.refl (λ_=>False) w).alloc (.cells #[.int .u64 p,.slice none 0 0] 31)).alloc (.cells #[.int .u64 0,.slice none 0 0] 31)).same o1)
 have h0:Hid (w.heap.size<=N):=by show _<=_;omega
 clear A o1 g1 hN;go_wp2;refine bodyPost_ret (results_cell_row rfl _ _ N 31 _ (0,0) _ rfl (Un _ _ HG.o) underlying31 rfl Tryz.sizeStt) rfl ⟨rfl,(F.o.setCell (p:=⟨N,0,none⟩) (λh=>absurd h (by have:=h0.o;simp only;omega)) _).setCell (p:=⟨N,1,none⟩) (λh=>absurd h (by have:=h0.o;simp only;omega)) _⟩
theorem BG (p:Nat) (v:Value) (xs:LI) (w:World) (hb:Bs .u8 w v xs) (hl:xs.length=32):Calls prog 20 #[.agg #[.int .u64 p,v]] w λe w'=>∃u,e=.returned (.agg #[.int .u64 p,.slice (some ⟨u,0,none⟩) 32 32])∧Blk w' u 5 (bl xs)∧w.heap.size<=u∧N0 w w':=by
 obtain⟨a,c,rfl⟩:=hb.len;have A:=Qa (λW=>JF p a xs.length c W);simp only[hl,show decide (0<32)=true from rfl] at A;have OB:=Qa (λW (o:N0 w W)=>MQ _ xs W (hb.past o) (by omega));rw[hl];simp only[hl] at OB;obtain⟨N,hN⟩:=EX (w.heap.size+1);obtain⟨M,hM⟩:=EX w.heap.size;clear hb hl;go_enter func20,ntmps20;go_wp2_with fail;rw[<-hN,<-hM];refine (A.o _).mono ?_;rintro e w1 ⟨rfl,o1⟩;have g1:w1.heap[N]? = some (.cells #[.int .u64 0,.slice none 0 0] 31 (0,0)):=o1.heap (by rw[hN];exact YH (by simp)) (λf=>f);have g0:w1.heap[M]? = some (.cells #[.int .u64 p,.slice a 32 c] 31 (0,0)):=o1.heap (by rw[hM];exact Y0 (heap_alloc_new _ _)) (λf=>f);have h0:=(((Only.refl (λ_=>False) w).alloc (.cells #[.int .u64 p,.slice a 32 c] 31)).alloc (.cells #[.int .u64 0,.slice none 0 0] 31)).same o1;obtain⟨c0,c1,_,_⟩:=Qs g0;have B:=Qa (OB.o w1 h0);have H:=Qa (Vz g0 (Vz g1 (Vz h0 (Vz hN hM))));clear A o1 g0 g1 h0 OB hN hM;go_wp2_with fail;refine B.o.mono ?_;rintro e w2 ⟨rfl,h1,o2⟩;have g0:=o2.heap H.o.1 (λf=>f);have g1:=o2.heap H.o.2.1 (λf=>f);obtain⟨c0,c1,f0,f1⟩:=Qs g0;obtain⟨d0,d1,e0,e1⟩:=Qs g1;obtain⟨U,hU⟩:=EX w1.heap.size;rw[<-hU] at h1 ⊢;have hz:=H.o.2.2.1.size;have hN:=H.o.2.2.2.1;have hM:=H.o.2.2.2.2
 have hNM:¬N=M:=by omega
 have hMN:¬M=N:=by omega
 have g2:=heap_setCell_same w2 M 1 _ _ (.slice (some ⟨U,0,none⟩) 32 32) g0
 have h2:N<U:=by have:=(Array.getElem?_eq_some_iff.1 H.o.2.1).1;omega
 have P:=Qa (Vz h1 (Vz (H.o.2.2.1.same o2) (Vz g1 (Vz hN (Vz hM (Vz h2 (show w.heap.size<=U by omega)))))));clear h1 o2 g0 g1 g2 hz hN hM hU H B h2;go_wp2
 have oA:Only (λk=>k=M∨k=N) w2 (((w2.setCell ⟨M,1,none⟩ (.slice (some ⟨U,0,none⟩) 32 32)).setCell ⟨N,0,none⟩ (.int .u64 p)).setCell ⟨N,1,none⟩ (.slice (some ⟨U,0,none⟩) 32 32)) :=
  (((Only.refl (λk=>k=M∨k=N) w2).setCell (p:=⟨M,1,none⟩) (λ_=>.inl rfl) _).setCell (p:=⟨N,0,none⟩) (λ_=>.inr rfl) _).setCell (p:=⟨N,1,none⟩) (λ_=>.inr rfl) _
 obtain⟨q1,q2,q3,q4,q5,q6,q7⟩:=P.o;have gN:(w2.setCell ⟨M,1,none⟩ (.slice (some ⟨U,0,none⟩) 32 32)).heap[N]? = some (.cells #[.int .u64 0,.slice none 0 0] 31 (0,0)):=((Only.refl (λk=>k=M) w2).setCell (p:=⟨M,1,none⟩) (λ_=>rfl) _).heap q3 (λe=>hNM e);refine bodyPost_ret (results_cell_row rfl _ _ N 31 _ (0,0) _ rfl (Un _ _ gN) underlying31 rfl Tryz.sizeStt) rfl ⟨U,rfl,q1.keep oA (λe=>by omega),q7,q2.trans oA (λk hk e=>by omega)⟩
def RDR (w:World) (RB:Nat) (key:LI) (ver:Nat) (root:LI):Prop:=∃(kb:Nat) (vr:Value) (tk rf:Int),
 w.heap[RB]? = some (.cells #[.slice (some ⟨kb,0,none⟩) 32 32,.int .u64 ver,vr,.int .i64 tk,.int .i64 rf] 57 (0,0))∧Blk w kb 5 (bl key)∧Bs .u8 w vr root
theorem RDR.past {RB ver:Nat} {key root:LI} (h:RDR w RB key ver root) (o:N0 w w'):RDR w' RB key ver root:=by
 obtain⟨kb,vr,tk,rf,h1,h2,h3⟩:=h;exact⟨kb,vr,tk,rf,o.heap h1 (λf=>f),h2.past o,h3.past o⟩
theorem VF {a b c d e:Value} {t:TypeId} (h:w.heap[g]? = some (.cells #[a,b,c,d,e] t (0,0))):(w.cell? ⟨g,0,none⟩=some a∧w.cell? ⟨g,1,none⟩=some b∧w.cell? ⟨g,2,none⟩=some c∧w.cell? ⟨g,3,none⟩=some d∧w.cell? ⟨g,4,none⟩=some e)∧∀j,w.frozen? ⟨g,j,none⟩=false:=by
 refine⟨⟨?_,?_,?_,?_,?_⟩,λj=>frozen_of_row w g j _ t h⟩ <;> (rw[cell_of_row w g _ _ t _ h];rfl)
theorem Pt {RB ver:Nat} {key root:LI} (h:RDR w RB key ver root):Calls prog 29 #[.pointer (some ⟨RB,0,none⟩)] w λe w'=>e=.returned (.bool true)∧w=w':=by
 obtain⟨kb,vr,tk,rf,h1,h2,h3⟩:=h;obtain⟨⟨c0,_,_,_,_⟩,_⟩:=VF h1;clear h1 h2 h3;go_enter func29,ntmps29;go_wp2;go_ret;exact⟨rfl,rfl⟩
theorem Em (v:Value) (m:LI) (w:World) (bm:Bs .u8 w v m) (hm:m.length=32):Calls prog 8 #[v,.agg #[.int .u64 0,.slice none 0 0]] w λe w'=>∃RB,e=.returned (.tuple #[.pointer (some ⟨RB,0,none⟩),.int .i64 0])∧RDR w' RB m 0 []∧w.heap.size<=RB∧N0 w w':=by
 obtain⟨a,c,rfl⟩:=bm.len;have R:=Qa (λW=>Ez 0 W);have OS:=Qa (λW=>tQ 0 W);have OB:=Qa (λW (o:N0 w W)=>MQ _ m W (bm.past o) (by omega));rw[hm];simp only[hm] at OB;clear bm hm;obtain⟨M,hM⟩:=EX w.heap.size;go_enter func8,ntmps8;go_wp2_with fail;rw[<-hM];refine (R.o _).mono ?_;rintro e w1 ⟨rfl,o1⟩;have g0:w1.heap[M]? = some (.cells #[.int .u64 0,.slice none 0 0] 31 (0,0)):=o1.heap (by rw[hM];exact heap_alloc_new _ _) (λf=>f);obtain⟨c0,c1,_,_⟩:=Qs g0;have O1:=Qa (((Only.refl (λ_=>False) w).alloc (.cells #[.int .u64 0,.slice none 0 0] 31)).same o1);have G0:=Qa g0;clear R o1 g0 hM;go_wp2_with fail;have KS:=Qa (λW (o:N0 w1 W)=>(show W.cell? ⟨M,0,none⟩=some (.int .u64 0)∧W.cell? ⟨M,1,none⟩=some (.slice none 0 0) from have h:=Qs (o.heap G0.o (λf=>f));⟨h.1,h.2.1⟩));have CR:Hid (N0 w1 w1.drew):=VG.drew
 go_region_held3 (λW'=>W'.cell? ⟨M,0,none⟩=some (.int .u64 0)∧W'.cell? ⟨M,1,none⟩=some (.slice none 0 0))
  (first | assumption | exact KS.o _ CR.o | exact KS.o _ (CR.o.alloc _))
  (first|(go_at_call 19;refine (OB.o _ (O1.o.same CR.o)).mono ?_;rintro e w4 ⟨rfl,h0,o4⟩;have CR:=Qa (CR.o.same o4);have KB:=Qa h0;clear h0 o4)|(go_at_call 20;refine (OS.o _).mono ?_;rintro e w5 ⟨rfl,o5⟩;have CR:=Qa (CR.o.same o5);(first | have KB:=Qa (KB.o.past o5) | skip);clear o5))
 all_goals
  go_wp2;go_ret2;exact⟨_,rfl,⟨_,_,0,0,heap_alloc_new _ _,KB.o.past (VG.alloc _),Bs.nil _ _⟩,by have:=(O1.o.same CR.o).size;simpa using this,O1.o.same (CR.o.alloc _)⟩
theorem Dy {RB ver:Nat} {key root:LI} (h:RDR w RB key ver root) (hr:root.length=32):Calls prog 14 #[.pointer (some ⟨RB,0,none⟩)] w λe w'=>∃u,e=.returned (.agg #[.int .u64 ver,.slice (some ⟨u,0,none⟩) 32 32])∧Blk w' u 5 (bl root)∧N0 w w':=by
 have MA:=Qa (λW (o:N0 w W)=>Pt (h.past o));obtain⟨kb,vr,tk,rf,h1,h2,h3⟩:=h;obtain⟨a,c,rfl⟩:=h3.len;have OS:=Qa (λW (o:N0 w W)=>BG ver _ root W (h3.past o) hr);rw[hr] at h1;simp only[hr] at OS;obtain⟨N,hN⟩:=EX w.heap.size;obtain⟨W1,h0⟩:=EX (w.alloc (.cells #[.int .u64 0,.slice none 0 0] 31))
 have o1:N0 w W1:=by rw[h0];exact VG.alloc _
 have g1:W1.heap[N]? = some (.cells #[.int .u64 0,.slice none 0 0] 31 (0,0)):=by rw[h0,hN];exact heap_alloc_new _ _
 obtain⟨⟨_,c1,c2,_,_⟩,_⟩:=VF (o1.heap h1 (λf=>f));have h5:=Qa (MA.o W1 o1);have h4:=Qa (OS.o W1 o1);have H:=Qa (Vz o1 (Vz g1 hN));have HW:=Qa h0;clear MA OS h1 h2 h3 hr o1 g1 h0;go_enter func14,ntmps14;go_wp2_with fail;rw[<-HW.o,<-hN];clear hN HW;refine h5.o.mono ?_;rintro e w2 ⟨rfl,rfl⟩;clear h5;go_wp2_with fail;refine h4.o.mono ?_;rintro e w3 ⟨u,rfl,hb,hu,o3⟩;have g3:=o3.heap H.o.2.1 (λf=>f);obtain⟨d0,d1,e0,e1⟩:=Qs g3;have P:=Qa (Vz hb (Vz (H.o.1.same o3) (Vz g3 (Vz hu H.o.2.2))))
 have hNu:N<u:=by have:=(Array.getElem?_eq_some_iff.1 H.o.2.1).1;omega
 clear h4 hb hu o3 g3 H;go_wp2;obtain⟨q1,q2,q3,q4,q5⟩:=P.o;have oA:Only (λk=>k=N) w3 ((w3.setCell ⟨N,0,none⟩ (.int .u64 ver)).setCell ⟨N,1,none⟩ (.slice (some ⟨u,0,none⟩) 32 32)):=((Only.refl (λk=>k=N) w3).setCell (p:=⟨N,0,none⟩) (λ_=>rfl) _).setCell (p:=⟨N,1,none⟩) (λ_=>rfl) _;refine bodyPost_ret (results_cell_row rfl _ _ N 31 _ (0,0) _ rfl (Un _ _ q3) underlying31 rfl Tryz.sizeStt) rfl ⟨u,rfl,q1.keep oA (λe=>by omega),q2.trans oA (λk hk e=>by omega)⟩
theorem xk (h:WK ys):Y5 ys+4<=ys.length∧Y5 ys=(YY ys).length:=by
 have h1:=N7 (YY ys) h.1;have h2:=K9 (YY ys) h.1;have h3:=XT (YY ys).length h.1;rw[h.2] at h1 h2;omega
theorem vq (h:∀y∈ys,0<=y∧y<=255):Y5 ys<4294967296:=by
 have h1:=Wx (ys.take 4) (λy hy=>h y (List.mem_of_mem_take hy))
 have h2:(ys.take 4).length<=4:=by rw[Qg];omega
 have h3:256^(ys.take 4).length<=256^4:=Nat.pow_le_pow_right (by decide) h2
 have h4:(256:Nat)^4=4294967296:=by decide
 unfold Y5;omega
theorem uN (h:CurAt 146 w R v ys) :
 Calls prog 190 #[.pointer (some ⟨R,0,none⟩)] w λe w'=>∃r c,e=.returned (.tuple #[r,.int .i64 c])∧Only (λk=>k=R) w w'∧((c≠0∧¬Y5 ys+4<=ys.length)∨(c=0∧Y5 ys+4<=ys.length∧Bs .u8 w' r (YY ys)∧NoCap r∧(∀k,r.ownBlock=some k->w.heap.size<=k))):=by
 have A:=Qa (KG h 4);have hr:=h.rng
 by_cases h4:(ys.length:Int)<4
 ·have e1:QW 4 ys=(0,0,2):=by
   simp only[QW];rw[if_neg (by omega),if_pos h4]
  rw[e1] at A
  have HN:Hid (¬Y5 ys+4<=ys.length):=by show ¬_;omega
  clear h hr h4;go_enter func190,ntmps190;go_wp2_with fail;refine A.o.mono ?_;rintro e w1 ⟨rfl,v2,_,_,o1⟩;have O1:=Qa o1;clear o1 A;go_wp2;go_ret2;exact⟨_,_,rfl,O1.o,.inl ⟨by decide,HN.o⟩⟩
 ·have e1:QW 4 ys=((num (ys.take 4):Int),4,0):=by
   simp only[QW];rw[if_neg (by omega),if_neg h4];rfl
  rw[e1] at A;have hlt:=vq hr;obtain⟨n,hn⟩:=EX (Y5 ys);have h0:num (ys.take 4)=n:=hn.symm;rw[h0] at A;rw[<-hn] at hlt;have HN:=Qa hn;have H4:=Qa h4;clear h hr h4 e1 hn h0;go_enter func190,ntmps190;go_wp2_with fail;refine A.o.mono ?_;rintro e w1 ⟨rfl,v2,c1,_,o1⟩;have B:=Qa (Wg c1 (n:Int));have O1:=Qa o1;obtain⟨X,k,c,hs⟩:∃X k c,Q7 (n:Int) (ys.drop 4)=(X,k,c):=⟨_,_,_,rfl⟩;rw[hs] at B
  have HC:Hid ((c≠0∧¬Y5 ys+4<=ys.length)∨(c=0∧Y5 ys+4<=ys.length∧X=YY ys)):=by
   have h4:=H4.o;have hd:(ys.drop 4).length=ys.length - 4:=Qm;rw[<-HN.o];simp only[Q7] at hs;rw[if_neg (by omega)] at hs
   by_cases hl:((ys.drop 4).length:Int)<(n:Int)
   ·rw[if_pos hl] at hs
    cases hs
    exact .inl ⟨by decide,by omega⟩
   ·rw[if_neg hl] at hs
    cases hs
    refine .inr ⟨rfl,by omega,?_⟩;unfold YY;rw[<-HN.o];rfl
  clear A c1 o1 hs;go_wp2_with fail;refine B.o.mono ?_;rintro e w2 ⟨r,rfl,b2,h5,l2,v3,_,_,o2⟩
  have FIN:Hid (Only (λk=>k=R) w w2∧((c≠0∧¬Y5 ys+4<=ys.length)∨(c=0∧Y5 ys+4<=ys.length∧Bs .u8 w2 r (YY ys)∧NoCap r∧(∀k,r.ownBlock=some k->w.heap.size<=k)))):=by
   refine⟨O1.o.trans o2 (λ_ _ e=>e),?_⟩
   rcases HC.o with h | ⟨h1,h2,h3⟩
   ·exact .inl h
   ·refine .inr ⟨h1,h2,by rw[<-h3];exact b2,h5,λk hk=>?_⟩
    have h1:=l2 k hk;have h2:=O1.o.size;omega
  clear B b2 h5 l2 o2 HC;go_wp2;go_ret2;exact⟨_,_,rfl,FIN.o⟩
theorem pK (v:Value) (ys:LI) (w:World) (h:Bs .u8 w v ys) (h8:U8 ys) (hl:ys.length<=1000000000000) :
 Calls prog 142 #[v] w λe w'=>∃r,e=.returned (.tuple #[r,.int .i64 (Ks ys)])∧Bs .u8 w' r (Kx ys)∧NoCap r∧(∀k,r.ownBlock=some k->w.heap.size<=k)∧N0 w w':=by
 have HB:=Qa h;have H8:=Qa h8;have A:=Qa (Uu v ys w h h8 hl);obtain⟨ao,cap,rfl⟩:=h.len;obtain⟨m,hm⟩:=EX ys.length;rw[<-hm] at HB A ⊢;clear h h8 hl hm;go_enter func142,ntmps142;go_wp2_with fail;refine A.o.mono ?_;rintro e w1 ⟨R,v1,rfl,c1,o1,h4,hR2,_⟩;have B:=Qa (uN c1);have O1:=Qa (Vz o1 h4);clear A c1 o1 h4 hR2;go_wp2_with fail;refine B.o.mono ?_;rintro e w2 ⟨r,c,rfl,o2,hc⟩;have h1:N0 w w2:=O1.o.1.trans o2 (λk hk e=>by have:=O1.o.2;omega);have O2:=Qa h1;have hs2:=h1.size;have h2:=O1.o.1.size
 rcases hc with ⟨hc,hn⟩ | ⟨rfl,hn,b2,h3,l2⟩
 ·have e1:¬WK ys:=λk=>hn (xk k).1
  have HE:Hid (Ks ys=3∧Kx ys=[]):=⟨if_neg e1,if_neg e1⟩
  have d1:(c != 0)=true:=by simpa using hc
  clear B o2 hc hn e1 h1 hs2 h2 O1;go_wp2;go_ret2;rw[HE.o.1,HE.o.2];exact⟨_,rfl,Bs.nil _ _,NoCap.nil,Wb _,O2.o⟩
 ·obtain⟨ra,rc,er⟩:=b2.len
  obtain⟨D,hD⟩:=EX (YY ys);rw[<-hD] at b2 er;subst er;have C:=Qa (Sk _ D w2 b2);have HR:=Qa (Vz b2 (Vz h3 (λk hk=>Nat.le_trans h2 (l2 k hk))));have HD:=Qa hD;clear B o2 hn h1 b2 h3 l2 hD h2 O1;go_wp2_with fail;refine C.o.mono ?_;rintro e w3 ⟨r3,rfl,h0,o3⟩
  by_cases hf:D.length<=4194300
  ·have e1:KD D=PADL D:=if_pos hf
   have e2:Uh D=0:=if_pos hf;rw[e1] at h0;have b3:Bs .u8 w3 r3 (PADL D):=Bs.of_own h0
   have D8:U8 D:=by rw[HD.o];exact pb H8.o
   have E:=Qa (U1 r3 (.slice ao m cap) (PADL D) ys w3 b3 (HB.o.past (O2.o.same o3)) (ZF D8) H8.o);have FR:=Qa (Vz (HR.o.1.past o3) (O2.o.same o3));rw[e2]
   by_cases heq:PADL D=ys
   ·have HE:Hid (Ks ys=0∧Kx ys=D):=by
     have:WK ys:=by rw[<-heq];exact Hz D hf
     refine⟨if_pos this,?_⟩;rw[HD.o];exact if_pos this
    rw[Qe heq] at E;clear h0 o3 b3 D8 e1 e2 heq hf C;go_wp2_with fail;refine E.o.mono ?_;rintro e w4 ⟨rfl,rfl⟩;clear E;go_wp2;go_ret2;rw[HE.o.1,HE.o.2];exact⟨_,rfl,FR.o.1,HR.o.2.1,HR.o.2.2,FR.o.2⟩
   ·have HE:Hid (Ks ys=3∧Kx ys=[]):=by
     have:¬WK ys:=λk=>heq (by rw[HD.o];exact k.2)
     exact⟨if_neg this,if_neg this⟩
    rw[Qi heq] at E;clear h0 o3 b3 D8 e1 e2 heq hf C;go_wp2_with fail;refine E.o.mono ?_;rintro e w4 ⟨rfl,rfl⟩;clear E;go_wp2;go_ret2;rw[HE.o.1,HE.o.2];exact⟨_,rfl,Bs.nil _ _,NoCap.nil,Wb _,FR.o.2⟩
  ·have e2:Uh D=4:=if_neg hf
   have HE:Hid (Ks ys=3∧Kx ys=[]):=by
    have:¬WK ys:=λk=>hf (by rw[HD.o];exact k.1)
    exact⟨if_neg this,if_neg this⟩
   have FR:=Qa (O2.o.same o3);rw[e2];clear h0 o3 e2 hf C;go_wp2;go_ret2;rw[HE.o.1,HE.o.2];exact⟨_,rfl,Bs.nil _ _,NoCap.nil,Wb _,FR.o⟩
def pan (c:Int):Ending:=.panicked [{ v:=.iface 26 (.int .i64 c),recovered:=false }]
theorem LT (n:Int) (w:World):Calls prog 220 #[.int .i64 n] w λe w'=>e=.returned (.int .i64 (MOST n))∧w=w':=by
 unfold MOST
 by_cases h:n<0
 ·rw[if_pos h]
  go_enter func220,ntmps220;go_wp2
  all_goals (go_ret;exact⟨YN (by omega),rfl⟩)
 ·rw[if_neg h]
  go_enter func220,ntmps220;go_wp2
  all_goals (go_ret;exact⟨YN (by omega),rfl⟩)
theorem Vd (w:World):Calls prog 221 #[.int .i64 0] w λe w'=>e=.returned (.tuple #[])∧w=w':=by
 go_enter func221,ntmps221;go_wp2
 go_end0
 exact⟨rfl,rfl⟩
theorem KU (c:Int) (w:World) (h:c≠0):Calls prog 221 #[.int .i64 c] w λe w'=>e=pan c∧w=w':=by
 have h0:(c != 0)=true:=by simpa using h
 go_enter func221,ntmps221;go_wp2;exact⟨rfl,rfl,rfl⟩
theorem Mc (v:Value) (w:World):Calls prog 217 #[v,.int .i64 0] w λe w'=>e=.returned v∧w=w':=by
 go_enter func217,ntmps217;go_wp2_with fail;refine (Vd w).mono ?_;rintro e w' ⟨rfl,rfl⟩;go_wp2;go_ret;exact⟨rfl,rfl⟩
theorem gC (v:Value) (c:Int) (w:World) (h:c≠0):Calls prog 217 #[v,.int .i64 c] w λe w'=>e=pan c∧w=w':=by
 go_enter func217,ntmps217;go_wp2_with fail;refine (KU c w h).mono ?_;rintro e w' ⟨rfl,rfl⟩;unfold pan;go_wp2;exact⟨rfl,rfl,rfl⟩
theorem Jg (v:Value) (w:World):Calls prog 218 #[v,.int .i64 0] w λe w'=>e=.returned v∧w=w':=by
 go_enter func218,ntmps218;go_wp2_with fail;refine (Vd w).mono ?_;rintro e w' ⟨rfl,rfl⟩;go_wp2;go_ret;exact⟨rfl,rfl⟩
theorem Ha (v:Value) (c:Int) (w:World) (h:c≠0):Calls prog 218 #[v,.int .i64 c] w λe w'=>e=pan c∧w=w':=by
 go_enter func218,ntmps218;go_wp2_with fail;refine (KU c w h).mono ?_;rintro e w' ⟨rfl,rfl⟩;unfold pan;go_wp2;exact⟨rfl,rfl,rfl⟩
theorem Ao (v:Value) (w:World):Calls prog 245 #[v,.int .i64 0] w λe w'=>e=.returned v∧w=w':=by
 go_enter func245,ntmps245;go_wp2_with fail;refine (Vd w).mono ?_;rintro e w' ⟨rfl,rfl⟩;go_wp2;go_ret;exact⟨rfl,rfl⟩
theorem uj (v:Value) (c:Int) (w:World) (h:c≠0):Calls prog 245 #[v,.int .i64 c] w λe w'=>e=pan c∧w=w':=by
 go_enter func245,ntmps245;go_wp2_with fail;refine (KU c w h).mono ?_;rintro e w' ⟨rfl,rfl⟩;unfold pan;go_wp2;exact⟨rfl,rfl,rfl⟩
theorem tb (v:Value) (w:World):Calls prog 222 #[v,.int .i64 0] w λe w'=>e=.returned v∧w=w':=by
 go_enter func222,ntmps222;go_wp2_with fail;refine (Vd w).mono ?_;rintro e w' ⟨rfl,rfl⟩;go_wp2;go_ret;exact⟨rfl,rfl⟩
theorem pd (v:Value) (c:Int) (w:World) (h:c≠0):Calls prog 222 #[v,.int .i64 c] w λe w'=>e=pan c∧w=w':=by
 go_enter func222,ntmps222;go_wp2_with fail;refine (KU c w h).mono ?_;rintro e w' ⟨rfl,rfl⟩;unfold pan;go_wp2;exact⟨rfl,rfl,rfl⟩
theorem gU (v:Value) (w:World):Calls prog 224 #[v,.int .i64 0] w λe w'=>e=.returned v∧w=w':=by
 go_enter func224,ntmps224;go_wp2_with fail;refine (Vd w).mono ?_;rintro e w' ⟨rfl,rfl⟩;go_wp2;go_ret;exact⟨rfl,rfl⟩
theorem uz (v:Value) (c:Int) (w:World) (h:c≠0):Calls prog 224 #[v,.int .i64 c] w λe w'=>e=pan c∧w=w':=by
 go_enter func224,ntmps224;go_wp2_with fail;refine (KU c w h).mono ?_;rintro e w' ⟨rfl,rfl⟩;unfold pan;go_wp2;exact⟨rfl,rfl,rfl⟩
theorem I6 (h:CurAt 146 w R v ys) {s1 c:Int} {s2:Nat} (hs:Qd ys=(s1,s2,c)) (he:c≠0) :
 Calls prog 219 #[.pointer (some ⟨R,0,none⟩)] w λe w'=>e=pan c∧Only (λk=>k=R) w w':=by
 have A:=Qa (YF h);rw[hs] at A;clear h hs;go_enter func219,ntmps219;go_wp2_with fail;refine A.o.mono ?_;rintro e w1 ⟨rfl,v2,_,_,o1⟩;have O1:=Qa o1;clear o1 A;go_wp2_with fail;refine (uj _ c w1 he).mono ?_;rintro e w' ⟨rfl,rfl⟩;unfold pan;go_wp2;exact⟨rfl,rfl,O1.o⟩
theorem qt (h:CurAt 146 w R v ys) {n s2:Nat} (hs:Qd ys=((n:Int),s2,0)) (hn:65536<n) :
 Calls prog 219 #[.pointer (some ⟨R,0,none⟩)] w λe w'=>e=pan 4∧Only (λk=>k=R) w w':=by
 have A:=Qa (YF h);rw[hs] at A
 have d1:decide (65536<(n:Int))=true:=by simp;omega
 have d2:decide (65536<n)=true:=by simp;omega
 clear h hs;go_enter func219,ntmps219;go_wp2_with fail;refine A.o.mono ?_;rintro e w1 ⟨rfl,v2,_,_,o1⟩;have O1:=Qa o1;clear o1 A;go_wp2_with fail;refine (Ao _ w1).mono ?_;rintro e w' ⟨rfl,rfl⟩;go_wp2;exact⟨rfl,rfl,O1.o⟩
theorem pz (h:CurAt 146 w R v ys) {n s2:Nat} (hs:Qd ys=((n:Int),s2,0)) (hn:n<=65536) :
 Calls prog 219 #[.pointer (some ⟨R,0,none⟩)] w λe w'=>e=.returned (.int .i64 n)∧∃v2,CurAt 146 w' R v2 (ys.drop s2)∧v2.ownBlock=v.ownBlock∧Only (λk=>k=R) w w':=by
 have A:=Qa (YF h);rw[hs] at A
 have d1:decide (65536<(n:Int))=false:=by simp;omega
 have d2:decide (65536<n)=false:=by simp;omega
 clear h hs;go_enter func219,ntmps219;go_wp2_with fail;refine A.o.mono ?_;rintro e w1 ⟨rfl,F1⟩;have FF:=Qa F1;clear F1 A;go_wp2_with fail;refine (Ao _ w1).mono ?_;rintro e w' ⟨rfl,rfl⟩;go_wp2;go_ret;exact⟨rfl,FF.o⟩
theorem Ri (r:LI):Q7 r.length r=(r,r.length,0):=by
 unfold Q7;rw[if_neg (by omega),if_neg (by omega)];simp
def part (a q:Nat) (l:List Bool) (n k:Nat):LI:=nums a q l k++List.replicate (n - k) 0
theorem Lx (a q:Nat) (l:List Bool) (n k:Nat) (h:k<=n):(part a q l n k).length=n:=by simp[part,Vo];omega
theorem Ic (a q:Nat) (l:List Bool) (n:Nat):(part a q l n 0).map (Value.int .u64)=(madeCells #[Value.int .u64 0] (n*1)).toList:=by
 apply List.ext_getElem
 ·simp[part,madeCells,nums]
 ·intro i h1 h2
  simp[part,madeCells,nums,Nat.mod_one]
theorem wR (a q:Nat) (l:List Bool) (n k:Nat) (h:k<n):(part a q l n k).set k (((a+bnum ((l.drop (k*q)).take q)) % 18446744073709551616:Nat):Int)=part a q l n (k+1):=by
 unfold part
 have e:List.replicate (n - k) (0:Int)=0 :: List.replicate (n - (k+1)) 0:=by rw[<-List.replicate_succ];congr 1;omega
 rw[Cu,List.set_append,if_neg (by rw[Vo];omega),Vo,Nat.sub_self,e,Qn,List.append_assoc]
 rfl
theorem BJ (a q:Nat) (l:List Bool) (n:Nat):part a q l n n=nums a q l n:=by simp[part]
theorem Oe (h:CurAt 146 w R v ys) (n:Nat) {c:Int} (hr:rd 0 0 ys=(0,0,c)) (hc:c=2∨c=3) :
 Calls prog 276 #[.pointer (some ⟨R,0,none⟩),.int .i64 n] w λe w'=>e=.returned (.tuple #[.slice none 0 0,.int .i64 c])∧Only (λk=>k=R) w w':=by
 have A:=Qa (YF h)
 have e1:Qd ys=(0,0,c):=by unfold Qd;rw[hr];rfl
 rw[e1] at A
 have d0:(c != 0)=true:=by simp;omega
 clear h hr hc e1;go_enter func276,ntmps276;go_wp2_with fail;refine A.o.mono ?_;rintro e w1 ⟨rfl,v1,_,_,o1⟩;have O1:=Qa o1;clear A o1;go_wp2;go_ret2;exact⟨rfl,O1.o⟩
theorem Il {a:Nat} (h:CurAt 146 w R v (gs a)) (n:Nat) (ha:a<18446744073709551616) :
 Calls prog 276 #[.pointer (some ⟨R,0,none⟩),.int .i64 n] w λe w'=>e=.returned (.tuple #[.slice none 0 0,.int .i64 2])∧Only (λk=>k=R) w w':=by
 have A:=Qa (YF h)
 have e1:Qd (gs a)=((a:Int),(gs a).length,0):=by have:=Ua a [] ha;rwa [List.append_nil] at this
 rw[e1,List.drop_length] at A;clear h e1;go_enter func276,ntmps276;go_wp2_with fail;refine A.o.mono ?_;rintro e w1 ⟨rfl,v1,h1,_,o1⟩;have B:=Qa (Ur h1);rw[show sByte []=(0,0,2) from rfl] at B;have O1:=Qa o1;clear A o1 h1;go_wp2_with fail;refine B.o.mono ?_;rintro e w2 ⟨rfl,v2,_,_,o2⟩;have O2:=Qa (O1.o.trans o2 (λ_ _ e=>e));clear B o2;go_wp2;go_ret2;exact⟨rfl,O2.o⟩
theorem yd {a n:Nat} {y:Int} {r:LI} (h:CurAt 146 w R v (gs a++y :: r)) (ha:a<18446744073709551616) (hn:n<=65536) :
 Calls prog 276 #[.pointer (some ⟨R,0,none⟩),.int .i64 n] w λe w'=>∃v',e=.returned (.tuple #[v',.int .i64 (rdl (gs a++y :: r) n).1])∧w'.ownsRow w.heap.size 29 1 v' (rdl (gs a++y :: r) n).2.length ((rdl (gs a++y :: r) n).2.map (Value.int .u64))∧Only (λk=>k=R) w w':=by
 obtain⟨y0,y1⟩:=h.rng y (by simp)
 have hg:∀z∈r,0<=z∧z<=255:=λz hz=>h.rng z (by simp[hz])
 have hm:r.length<=1000000000000:=by have:=h.len;simp at this;omega
 have h9:=Qa hg;have he:=Qa hm;have A:=Qa (YF h)
 have hd:(gs a++y :: r).drop (gs a).length=y :: r:=by simp
 rw[Ua a _ ha] at A;simp only[hd] at A;rw[Pe a n y r ha];clear h hd hg
 by_cases hy:64<y
 ·have d1:decide (64<y)=true:=by simp;exact hy
  rw[if_pos hy];go_enter func276,ntmps276;go_wp2_with fail;refine A.o.mono ?_;rintro e w1 ⟨rfl,v1,h1,_,o1⟩;have B:=Qa (Ur h1);rw[qe] at B;have O1:=Qa o1;clear A o1 h1;go_wp2_with fail;refine B.o.mono ?_;rintro e w2 ⟨rfl,v2,_,_,o2⟩;have O2:=Qa (O1.o.trans o2 (λ_ _ e=>e));clear B o2;go_wp2;go_ret2;exact⟨_,rfl,Xh,O2.o⟩
 ·obtain⟨q,rfl⟩:=Int.eq_ofNat_of_zero_le y0
  rw[if_neg hy,Int.toNat_natCast];have d1:decide (64<(q:Int))=false:=Qi hy
  have hq:q<=64:=by omega
  have k1:n*q<=65536*64:=Nat.mul_le_mul hn hq
  have h5:Hid (((n:Int)*(q:Int))=((n*q:Nat):Int)):=by simp only[Hid];simp
  have m0:0<=(n:Int)*(q:Int):=by rw[h5.o];omega
  have m1:(n:Int)*(q:Int)<=4194304:=by rw[h5.o];omega
  have HNQ:=Qa k1;clear k1
  by_cases hs:8*r.length<n*q
  ·rw[if_pos hs]
   go_enter func276,ntmps276;go_wp2_with fail;refine A.o.mono ?_;rintro e w1 ⟨rfl,v1,h1,_,o1⟩;have B:=Qa (Ur h1);rw[qe] at B;have O1:=Qa o1;clear A o1 h1;go_wp2_with fail;refine B.o.mono ?_;rintro e w2 ⟨rfl,v2,h2,ho,o2⟩;simp only[List.drop_succ_cons,List.drop_zero] at h2;have C:=Qa (Vw h2);have D:=Qa (Wg h2 r.length);rw[Ri] at D;have O2:=Qa (O1.o.trans o2 (λ_ _ e=>e));clear B o2 h2 ho;go_wp2_with fail;refine C.o.mono ?_;rintro e w2' ⟨rfl,rfl⟩;clear C;go_wp2_with fail;refine D.o.mono ?_;rintro e w3 ⟨v3,rfl,b3,_,_,v4,_,_,o3⟩;have E:=Qa (XP v3 r w3 b3 h9.o he.o);have O3:=Qa (O2.o.trans o3 (λ_ _ e=>e));obtain⟨a3,c3,e3⟩:=b3.len;subst e3;clear D o3 b3;go_wp2_with fail;refine E.o.mono ?_;rintro e w4 ⟨R4,v5,rfl,r4,o4,g1,g2,g3⟩;have F:=Qa (Za r4);have O4:=Qa (O3.o.trans o4 (λ_ _ f=>f.elim));have hh:=Qa r4;have G:=Qa (Vz g1 (Vz g2 g3));clear E o4 r4 g1 g2 g3;go_wp2_with fail;refine F.o.mono ?_;rintro e w5 ⟨rfl,o5⟩;have O5:=Qa (O4.o.trans o5 (λ_ _ f=>f.elim));have R5:=Qa (hh.o.keep o5 (λf=>f) (λ_ _ f=>f));have S5:=Qa o5.size;clear F o5
   have d2:decide (8*(r.length:Int)<(n:Int)*(q:Int))=true:=by rw[h5.o];simp only[decide_eq_true_eq];omega
   clear hs;go_wp2;go_ret2;exact⟨_,rfl,Xh,O5.o⟩
  ·rw[if_neg hs]
   go_enter func276,ntmps276;go_wp2_with fail;refine A.o.mono ?_;rintro e w1 ⟨rfl,v1,h1,_,o1⟩;have B:=Qa (Ur h1);rw[qe] at B;have O1:=Qa o1;clear A o1 h1;go_wp2_with fail;refine B.o.mono ?_;rintro e w2 ⟨rfl,v2,h2,ho,o2⟩;simp only[List.drop_succ_cons,List.drop_zero] at h2;have C:=Qa (Vw h2);have D:=Qa (Wg h2 r.length);rw[Ri] at D;have O2:=Qa (O1.o.trans o2 (λ_ _ e=>e));clear B o2 h2 ho;go_wp2_with fail;refine C.o.mono ?_;rintro e w2' ⟨rfl,rfl⟩;clear C;go_wp2_with fail;refine D.o.mono ?_;rintro e w3 ⟨v3,rfl,b3,_,_,v4,_,_,o3⟩;have E:=Qa (XP v3 r w3 b3 h9.o he.o);have O3:=Qa (O2.o.trans o3 (λ_ _ e=>e));obtain⟨a3,c3,e3⟩:=b3.len;subst e3;clear D o3 b3;go_wp2_with fail;refine E.o.mono ?_;rintro e w4 ⟨R4,v5,rfl,r4,o4,g1,g2,g3⟩;have F:=Qa (Za r4);have O4:=Qa (O3.o.trans o4 (λ_ _ f=>f.elim));have hh:=Qa r4;have G:=Qa (Vz g1 (Vz g2 g3));clear E o4 r4 g1 g2 g3;go_wp2_with fail;refine F.o.mono ?_;rintro e w5 ⟨rfl,o5⟩;have O5:=Qa (O4.o.trans o5 (λ_ _ f=>f.elim));have R5:=Qa (hh.o.keep o5 (λf=>f) (λ_ _ f=>f));have S5:=Qa o5.size;clear F o5
   have d2:decide (8*(r.length:Int)<(n:Int)*(q:Int))=false:=by rw[h5.o];simp only[decide_eq_false_iff_not];omega
   have HS:=Qa hs;obtain⟨i0,hi,hz0,hz1,hz2⟩:=info_parts Tryz.infoU64;obtain⟨wm,hw,h4,k0⟩:=run_make_full (P:=prog) w5 w5.heap.size 76 29 i0 (.int .u64 0) 1 underlying76 hi hz0 hz1 .i64 .i64 n (by rw[hz2];omega) (by unfold maxLen;omega) Zu;rw[show (Value.int .u64 0).cells=#[Value.int .u64 0] from rfl,<-Ic a q (Qf r) n] at h4;have om:N0 w5 wm:=VG.grown k0 (λ_ _ e=>by cases e)
   have h0:Hid (RdAt 317 wm R4 v5 r 0∧wm.ownsRow w5.heap.size 29 1 (.slice (some ⟨w5.heap.size,0,none⟩) n n) n ((part a q (Qf r) n 0).map (Value.int .u64))∧Only (λj=>j=R) w wm) :=
    ⟨R5.o.keep om (λf=>f) (λ_ _ f=>f),h4,O5.o.trans om (λ_ _ f=>f.elim)⟩
   have G2:Hid (R4<w5.heap.size∧(∀k,v5.ownBlock=some k->k<w5.heap.size)∧w.heap.size<=w5.heap.size∧w.heap.size<=R4):=by
    have g:=G.o;have s5:=S5.o;exact⟨by omega,λk hk=>by have:=(g.2.2 k hk).2;omega,O5.o.size,by have:=O3.o.size;omega⟩
   obtain⟨N,hN⟩:=EX w5.heap.size;rw[<-hN] at hw h0 G2;clear hs h4 k0 om R5 hh G S5 O4 O3 O2 O1 hN;go_wp2
   go_loopw [54] (λi wr=>∃k:Nat,k<=n∧i=.int .i64 k∧RdAt 317 wr R4 v5 r (k*q)∧wr.ownsRow N 29 1 (.slice (some ⟨N,0,none⟩) n n) n ((part a q (Qf r) n k).map (Value.int .u64))∧Only (λj=>j=R) w wr) (λi _=>n - (intOf i).toNat)
   case atStart=>exact⟨0,Nat.zero_le _,rfl,by rw[Nat.zero_mul];exact h0.o.1,h0.o.2.1,h0.o.2.2⟩
   case round =>
    obtain⟨k,hk,rfl,hr,h8,hl⟩:=hrel;clear h0 hw;have hf:=Qa h8;have hu:=Qa hl
    by_cases hlt:k<n
    ·have hkq:k*q+q<=8*r.length:=by
      have h1:(k+1)*q<=n*q:=Nat.mul_le_mul_right q (by omega);rw[Nat.add_mul,Nat.one_mul] at h1;have:=HS.o;omega
     have GT:=Jj hr (q:Int) (by omega) (by omega) (by omega);rw[Int.toNat_natCast] at GT;have GT:=Qa GT
     have hx:Hid (bnum (((Qf r).drop (k*q)).take q)<18446744073709551616):=by
      have h1:=Wi (((Qf r).drop (k*q)).take q);have h2:2^(((Qf r).drop (k*q)).take q).length<=2^64:=Nat.pow_le_pow_right (by omega) (by rw[Qg];omega)
      have h3:(2:Nat)^64=18446744073709551616:=by decide
      simp only[Hid];omega
     have dlt:decide ((k:Int)<(n:Int))=true:=by simp;omega
     clear hr hkq h8 hl;go_wp2_with fail;refine GT.o.mono ?_;rintro e w6 ⟨rfl,r6,o6⟩
     have h6:=o6.own hf.o (λj hj=>by
      have e1:j=N:=by simp[Value.ownBlock] at hj;exact hj.symm
      have:=G2.o.1
      omega)
     have ck:w6.cell? ⟨N,k,none⟩=some (.int .u64 ((part a q (Qf r) n k).getD k 0)):=by
      rw[h6.cellAt k (by omega),List.getElem?_map,Qh (by rw[Lx _ _ _ _ _ hk];exact hlt),Qc,Qh (by rw[Lx _ _ _ _ _ hk];exact hlt)]
      rfl
     have fk:w6.frozen? ⟨N,k,none⟩=false:=h6.frozenAt _
     have h7:Hid (((part a q (Qf r) n k).map (Value.int .u64)).set k (.int .u64 (((a+bnum (((Qf r).drop (k*q)).take q)) % 18446744073709551616:Nat):Int))=(part a q (Qf r) n (k+1)).map (Value.int .u64)):=by
      simp only[Hid];rw[<-List.map_set,wR a q (Qf r) n k hlt]
     have hp:=Qa h6;have R6:=Qa r6;have O6:=Qa o6;obtain⟨x,ht⟩:=EX (bnum (((Qf r).drop (k*q)).take q));rw[<-ht] at hx h7 ⊢;have hxx:=hx.o;obtain⟨z,hz⟩:=EX ((part a q (Qf r) n k).getD k 0);rw[<-hz] at ck;clear GT h6 r6 o6 ht hz hx;go_wp2
     go_roundw
     case rel =>
      have hv:IntKind.u64.wrap ((a:Int)+(x:Int))=(((a+x) % 18446744073709551616:Nat):Int):=by rw[IntKind.wrap_u64];omega
      rw[hv];have g:=G2.o;have oN:Only (λj=>j=N) w6 (w6.setCell ⟨N,k,none⟩ (.int .u64 (((a+x) % 18446744073709551616:Nat):Int))):=(Only.refl (λj=>j=N) w6).setCell (λ_=>rfl) _;refine⟨k+1,by omega,by simp,?_,?_,?_⟩
      ·rw[Nat.add_mul,Nat.one_mul]
       exact R6.o.keep oN (by omega) (λj hj=>by have:=g.2.1 j hj;omega)
      ·have h1:=(hp.o.stored k (.int .u64 (((a+x) % 18446744073709551616:Nat):Int))).1
       rw[h7.o] at h1;exact h1
      ·exact (hu.o.trans O6.o (λi hi e=>by omega)).setCell (λhb=>by simp only at hb;omega) _
     case measure=>simp[intOf];omega
    ·obtain rfl:k=n:=by omega
     have dlt:decide ((k:Int)<(k:Int))=false:=by simp
     clear h8 hl hr;go_wp2;go_ret2;refine⟨_,rfl,?_,hu.o⟩;have h1:=Qr hf.o G2.o.2.2.1;rw[BJ] at h1;rw[Vo];exact h1
theorem ju (h:CurAt 146 w R v ys) (n:Nat) (hn:n<=65536) :
 Calls prog 276 #[.pointer (some ⟨R,0,none⟩),.int .i64 n] w λe w'=>∃v',e=.returned (.tuple #[v',.int .i64 (rdl ys n).1])∧w'.ownsRow w.heap.size 29 1 v' (rdl ys n).2.length ((rdl ys n).2.map (Value.int .u64))∧Only (λk=>k=R) w w':=by
 rcases parse ys h.rng with ⟨c,hr,hc⟩ | ⟨a,ha,rfl⟩ | ⟨a,y,r,ha,rfl⟩
 ·rw[kP n hr (by omega)]
  exact (Oe h n hr hc).mono λe w' ⟨h1,h2⟩=>⟨_,h1,Xh,h2⟩
 ·rw[xf a n ha]
  exact (Il h n ha).mono λe w' ⟨h1,h2⟩=>⟨_,h1,Xh,h2⟩
 ·exact yd h ha hn
theorem pi (v:Value) (n:Int) (w:World) (h:n<0∨65536<n) :
 Calls prog 265 #[v,.int .i64 n] w λe w'=>e=.returned (.tuple #[.slice none 0 0,.int .i64 1])∧w=w':=by
 by_cases h0:n<0
 ·have d0:decide (n<0)=true:=Qe h0
  clear h;go_enter func265,ntmps265;go_wp2;go_ret2;exact⟨rfl,rfl⟩
 ·have h8:65536<n:=by omega
  have d0:decide (n<0)=false:=Qi h0;have d1:decide (65536<n)=true:=Qe h8;clear h;go_enter func265,ntmps265;go_wp2;go_ret2;exact⟨rfl,rfl⟩
theorem po (v:Value) (ys:LI) (n:Nat) (w:World) (h:Bs .u8 w v ys) (hr:∀y∈ys,0<=y∧y<=255) (hl:ys.length<=1000000000000) (hn:n<=65536) :
 Calls prog 265 #[v,.int .i64 n] w λe w'=>∃v',e=.returned (.tuple #[v',.int .i64 (UN ys n).1])∧w'.ownsRow w.heap.size 29 1 v' (UN ys n).2.length ((UN ys n).2.map (Value.int .u64))∧N0 w w':=by
 have A:=Qa (Uu v ys w h hr hl);have HB:=Qa h;have HR:=Qa hr;obtain⟨ao,cap,rfl⟩:=h.len
 have d0:decide ((n:Int)<0)=false:=by simp
 have d1:decide (65536<(n:Int))=false:=Qi (by omega);obtain⟨m,hm⟩:=EX ys.length;rw[<-hm] at A HB ⊢;clear h hr hl hm
 have h8:UN ys n=if (rdl ys n).1≠0 then ((rdl ys n).1,[]) else if PK (rdl ys n).2=ys then (0,(rdl ys n).2) else (3,[]):=by
  unfold UN;rw[if_neg (by omega),Int.toNat_natCast]
 have h4:=DX ys n
 have h7:(rdl ys n).1=0->(rdl ys n).2.length=n:=λh0=>Mg (b:=ys) (n:=n) (l:=(rdl ys n).2) (by rw[<-h0])
 have FR:Hid (∀(w:World) (R:Nat) (v:Value),CurAt 146 w R v ys->Calls prog 276 #[.pointer (some ⟨R,0,none⟩),.int .i64 n] w λe w'=>∃v',e=.returned (.tuple #[v',.int .i64 (rdl ys n).1])∧w'.ownsRow w.heap.size 29 1 v' (rdl ys n).2.length ((rdl ys n).2.map (Value.int .u64))∧Only (λk=>k=R) w w') :=
  λw R v h=>ju h n hn
 rw[h8];clear h8;generalize rdl ys n=p at *;obtain⟨c,l⟩:=p;simp only at h4 h7 FR ⊢
 by_cases he:c≠0
 ·rw[if_pos he]
  have d2:(c != 0)=true:=by simpa using he
  clear h7 he;go_enter func265,ntmps265;go_wp2_with fail;refine A.o.mono ?_;rintro e w1 ⟨R,v1,rfl,c1,o1,g1,g2,g3⟩;have B:=Qa (FR.o w1 R v1 c1);have O1:=Qa o1;have G1:=Qa g1;clear A c1 o1 g1 g2 g3;go_wp2_with fail;refine B.o.mono ?_;rintro e w2 ⟨v2,rfl,h1,o2⟩;have O2:=Qa (O1.o.trans o2 (λi hi e=>by have:=G1.o;omega));obtain⟨a2,c2,e2⟩:=(Bs.of_own h1).len;subst e2;clear B h1 o2;go_wp2;go_ret2;exact⟨_,rfl,Xh,O2.o⟩
 ·obtain rfl:c=0:=Decidable.of_not_not he
  rw[if_neg he];have h5:=Qa (h7 rfl);clear he h7
  by_cases hs:PK l=ys
  ·rw[if_pos hs]
   have HS:=Qa hs;clear hs;go_enter func265,ntmps265;go_wp2_with fail;refine A.o.mono ?_;rintro e w1 ⟨R,v1,rfl,c1,o1,g1,g2,g3⟩;have B:=Qa (FR.o w1 R v1 c1);have O1:=Qa o1;have G1:=Qa g1;clear A c1 o1 g1 g2 g3;go_wp2_with fail;refine B.o.mono ?_;rintro e w2 ⟨v2,rfl,h1,o2⟩;have O2:=Qa (O1.o.trans o2 (λi hi e=>by have:=G1.o;omega));have C:=Qa (GP v2 l w2 (Bs.of_own h1) h4 (by have:=h5.o;omega));have h3:=Qa h1;have S1:=Qa O1.o.size;obtain⟨a2,c2,e2⟩:=(Bs.of_own h1).len;subst e2;clear B h1 o2;go_wp2_with fail;refine C.o.mono ?_;rintro e w3 ⟨v3,rfl,h2,o3⟩;have O3:=Qa (O2.o.trans o3 (λ_ _ f=>f));have D:=U1 v3 (.slice ao m cap) (PK l) ys w3 (Bs.of_own h2) (HB.o.keep O3.o (λ_ _ f=>f)) (Hw h4) HR.o;rw[Qe HS.o] at D;have D:=Qa D;have h6:=Qa (o3.own h3.o (λ_ _ f=>f));obtain⟨a3,c3,e3⟩:=(Bs.of_own h2).len;subst e3;clear C h2 o3;go_wp2_with fail;refine D.o.mono ?_;rintro e w4 ⟨rfl,rfl⟩;clear D;go_wp2;go_ret2;exact⟨_,rfl,Qr h6.o S1.o,O3.o⟩
  ·rw[if_neg hs]
   have HS:=Qa hs;clear hs;go_enter func265,ntmps265;go_wp2_with fail;refine A.o.mono ?_;rintro e w1 ⟨R,v1,rfl,c1,o1,g1,g2,g3⟩;have B:=Qa (FR.o w1 R v1 c1);have O1:=Qa o1;have G1:=Qa g1;clear A c1 o1 g1 g2 g3;go_wp2_with fail;refine B.o.mono ?_;rintro e w2 ⟨v2,rfl,h1,o2⟩;have O2:=Qa (O1.o.trans o2 (λi hi e=>by have:=G1.o;omega));have C:=Qa (GP v2 l w2 (Bs.of_own h1) h4 (by have:=h5.o;omega));have h3:=Qa h1;have S1:=Qa O1.o.size;obtain⟨a2,c2,e2⟩:=(Bs.of_own h1).len;subst e2;clear B h1 o2;go_wp2_with fail;refine C.o.mono ?_;rintro e w3 ⟨v3,rfl,h2,o3⟩;have O3:=Qa (O2.o.trans o3 (λ_ _ f=>f));have D:=U1 v3 (.slice ao m cap) (PK l) ys w3 (Bs.of_own h2) (HB.o.keep O3.o (λ_ _ f=>f)) (Hw h4) HR.o;rw[Qi HS.o] at D;have D:=Qa D;have h6:=Qa (o3.own h3.o (λ_ _ f=>f));obtain⟨a3,c3,e3⟩:=(Bs.of_own h2).len;subst e3;clear C h2 o3;go_wp2_with fail;refine D.o.mono ?_;rintro e w4 ⟨rfl,rfl⟩;clear D;go_wp2;go_ret2;exact⟨_,rfl,Xh,O3.o⟩
theorem ui (v:Value) (ys:LI) (n:Int) (w:World) (h:Bs .u8 w v ys) (hr:∀y∈ys,0<=y∧y<=255) (hl:ys.length<=1000000000000) :
 Calls prog 265 #[v,.int .i64 n] w λe w'=>∃v',e=.returned (.tuple #[v',.int .i64 (UN ys n).1])∧w'.ownsRow w.heap.size 29 1 v' (UN ys n).2.length ((UN ys n).2.map (Value.int .u64))∧N0 w w':=by
 by_cases hn:n<0∨65536<n
 ·have e:UN ys n=(1,[]):=by unfold UN;rw[if_pos hn]
  rw[e]
  exact (pi v n w hn).mono λe w' ⟨h1,h2⟩=>⟨_,h1,Xh,by rw[<-h2];exact VG⟩
 ·obtain⟨m,rfl⟩:=Int.eq_ofNat_of_zero_le (show 0<=n by omega)
  exact po v ys m w h hr hl (by omega)
theorem rU (ys:LI) (k:Nat):((fxN ys (k+1)).map s64).map (Value.int .i64)=((fxN ys k).map s64).map (Value.int .i64)++[.int .i64 (s64 (num ((ys.drop (8*k)).take 8):Int))]:=by
 rw[yD,List.map_append,List.map_append];rfl
theorem rK (h:CurAt 146 w R v ys) (hvb:∀k,v.ownBlock=some k->k<w.heap.size) (n:Nat) (hn:n<=65536) :
 Calls prog 255 #[.pointer (some ⟨R,0,none⟩),.int .i64 n] w λe w'=>∃u,e=.returned (.tuple #[u,.int .i64 (rFx ys n).2])∧w'.ownsRow w.heap.size 3 1 u ((rFx ys n).1.map s64).length (((rFx ys n).1.map s64).map (Value.int .i64))∧Only (λk=>k=R) w w':=by
 obtain⟨i0,hi,hz0,hz1,hz2⟩:=info_parts Tryz.infoI64;have hR:R<w.heap.size:=(Array.getElem?_eq_some_iff.1 h.cell).1;have HC:=Qa h;have HVB:=Qa hvb;clear h hvb;go_enter func255,ntmps255;go_wp2
 go_loopw [6,10] (λs i wr=>∃(k:Nat) (v':Value),k<=n∧i=.int .i64 k∧wr.ownsRow w.heap.size 3 1 s k (((fxN ys k).map s64).map (Value.int .i64))∧CurAt 146 wr R v' (ys.drop (8*k))∧v'.ownBlock=v.ownBlock∧8*k<=ys.length∧Only (λk=>k=R) w wr) (λ_ i _=>n - (intOf i).toNat)
 case atStart=>exact⟨0,v,Nat.zero_le _,rfl,Xh,HC.o,rfl,by omega,VG⟩
 case round =>
  obtain⟨k,v',hk,rfl,h1,h2,h7,h8,h5⟩:=hrel;have h0:=Qa h1;have h6:=Qa h5;have hg:=Qa h7
  by_cases hlt:k<n
  ·have dlt:decide ((k:Int)<(n:Int))=true:=by simp;omega
   have FX:=Qa (KG h2 8)
   by_cases hs:(ys.drop (8*k)).length<8
   ·rw[Am hs] at FX
    have HR:Hid (rFx ys n=([],2)):=by
     simp only[Hid];unfold rFx;rw[Qm] at hs;rw[if_pos (by omega)]
    clear h1 h2 h7 h5 hs HC;go_wp2_with fail;refine FX.o.mono ?_;rintro e w2 ⟨rfl,v2,_,_,o2⟩;have O2:=Qa (h6.o.trans o2 (λ_ _ e=>e));clear FX o2 h0;go_wp2;go_ret2;rw[HR.o];exact⟨_,rfl,Xh,O2.o⟩
   ·rw[SR (by omega)] at FX
    have h9:8*(k+1)<=ys.length:=by rw[Qm] at hs;omega
    have HST:=Qa (rU ys k)
    have hd:Hid ((ys.drop (8*k)).drop 8=ys.drop (8*(k+1))):=by
     simp only[Hid];rw[List.drop_drop,Nat.mul_add]
    rw[hd.o] at FX
    have HX:Hid (∀x:Int,IntKind.i64.wrap x=s64 x):=λx=>by unfold s64;rw[RowKit.wrap64];exact IntKind.wrap_i64 x
    generalize (num ((ys.drop (8*k)).take 8):Int)=x at *;clear h1 h2 h7 h5 hs HC hd;go_wp2_with fail;refine FX.o.mono ?_;rintro e w2 ⟨rfl,v2,h4,hf,o2⟩;have O2:=Qa (h6.o.trans o2 (λ_ _ e=>e));have h3:=o2.own h0.o (λq hq e=>by have:=(h0.o.lt q hq).1;omega);have ha:=Qa h4;have he:=Qa (hf.trans hg.o);have hsz:=O2.o.size;clear FX o2 h0 h6 hg h4 hf;go_wp2_with (at_builtin;refine wpList_append_lies _ rfl _ _ _ rfl w.heap.size 3 i0 (.int .i64 0) 1 8 underlying75 hi hz0 hz1 hz2 rfl (by omega) _ k _ rfl (h3.alloc _) ⟨w2.heap.size,0,none⟩ 1 1 [.int .i64 (s64 x)] rfl rfl ?c1 ?c2 (by omega) ?c3 ?c4 ?c5 (w2.heap.size+1) (by simp) ?_)
    case c1=>first | exact cell_one_new _ _ _|(rw[<-HX.o x];exact cell_one_new _ _ _)
    case c2=>intro u hu;simp at hu;subst hu;rfl
    case c3=>unfold maxLen;omega
    case c4=>omega
    case c5=>simp;omega
    intro gg cap1 w3 hown1 hgrow hat hg1;have o3:=Qa (((Only.refl (λq=>w.heap.size<=q) w2).alloc _).grown hgrow (λp _ hp=>(h3.lt p hp).1))
    have hb:Hid (w3.ownsRow w.heap.size 3 1 (.slice (some ⟨gg,0,none⟩) (k+1) cap1) (k+1) (((fxN ys (k+1)).map s64).map (Value.int .i64))):=by
     simp only[Hid];rw[HST.o,List.map_map];exact hown1
    clear h3 hown1 hgrow hat;go_wp2
    go_roundw
    case rel =>
     refine⟨k+1,v2,by omega,by go_num,hb.o,ha.o.keep o3.o (by omega) (λq hq e=>?_),he.o,h9,O2.o.trans o3.o (λq hq e=>absurd e (by omega))⟩;rw[he.o] at hq;have:=HVB.o q hq;omega
    case measure=>simp[intOf];omega
  ·obtain rfl:k=n:=by omega
   have dlt:decide ((k:Int)<(k:Int))=false:=by simp
   have HR:Hid (rFx ys k=(fxN ys k,0)):=by
    simp only[Hid];unfold rFx;rw[if_neg (by omega)]
   clear h1 h2 h7 h5 HC;go_wp2;go_ret2;rw[HR.o];refine⟨_,rfl,?_,h6.o⟩;rw[List.length_map,vL];exact h0.o
theorem OJ {acc ys:LI} {a:Int} {c:Int} (hs:Qd ys=(a,k,c)) (hc:c≠0):rVs (n+1) acc ys=([],ys,c):=by
 rw[rVs,hs];simp only[ne_eq];rw[if_pos hc]
theorem yQ {acc ys:LI} {a:Int} (hs:Qd ys=(a,k,0)):rVs (n+1) acc ys=rVs n (acc++[a]) (ys.drop k):=by
 rw[rVs,hs];simp
theorem Ey (h:CurAt 146 w R v ys) (hvb:∀k,v.ownBlock=some k->k<w.heap.size) (n:Nat) (hn:n<=65536) :
 Calls prog 269 #[.pointer (some ⟨R,0,none⟩),.int .i64 n] w λe w'=>∃u,e=.returned (.tuple #[u,.int .i64 (rVs n [] ys).2.2])∧w'.ownsRow w.heap.size 29 1 u (rVs n [] ys).1.length ((rVs n [] ys).1.map (Value.int .u64))∧Only (λk=>k=R) w w':=by
 obtain⟨i0,hi,hz0,hz1,hz2⟩:=info_parts Tryz.infoU64;have hR:R<w.heap.size:=(Array.getElem?_eq_some_iff.1 h.cell).1;have HC:=Qa h;have HVB:=Qa hvb;clear h hvb;go_enter func269,ntmps269;go_wp2
 go_loopw [6,10] (λs i wr=>∃(k g:Nat) (acc h9:LI) (v':Value),k+g=n∧i=.int .i64 k∧acc.length=k∧wr.ownsRow w.heap.size 29 1 s k (acc.map (Value.int .u64))∧CurAt 146 wr R v' h9∧v'.ownBlock=v.ownBlock∧Hid (rVs g acc h9=rVs n [] ys)∧Only (λk=>k=R) w wr) (λ_ i _=>n - (intOf i).toNat)
 case atStart=>exact⟨0,n,[],ys,v,by omega,rfl,rfl,Xh,HC.o,rfl,rfl,VG⟩
 case round =>
  obtain⟨k,g,acc,h9,v',hk,rfl,hb,h2,h1,h8,h4,h6⟩:=hrel;have h0:=Qa h2;have h7:=Qa h6;have hh:=Qa h8;have hj:=Qa hb
  cases g with
  | succ g =>
   have dlt:decide ((k:Int)<(n:Int))=true:=by simp;omega
   have FX:=YF h1
   rcases Ue h1.rng with ⟨c,hs,hc⟩ | ⟨a,q,hs,_,_,ha,_⟩
   ·rw[hs] at FX
    have FX:=Qa FX;have HR:=h4.o;rw[OJ hs (by omega)] at HR;have HR:=Qa HR
    have dc:(c != 0)=true:=by simp;omega
    clear h2 h1 h8 h6 hs HC hb h4 hc;go_wp2_with fail;refine FX.o.mono ?_;rintro e w2 ⟨rfl,v2,_,_,o2⟩;have O2:=Qa (h7.o.trans o2 (λ_ _ e=>e));clear FX o2 h0;go_wp2;go_ret2;rw[<-HR.o];exact⟨_,rfl,Xh,O2.o⟩
   ·rw[hs] at FX
    have FX:=Qa FX;have HR:=h4.o;rw[yQ hs] at HR;have HR:=Qa HR;clear h2 h1 h8 h6 hs HC hb h4;go_wp2_with fail;refine FX.o.mono ?_;rintro e w2 ⟨rfl,v2,h5,hg,o2⟩;have O2:=Qa (h7.o.trans o2 (λ_ _ e=>e));have h3:=o2.own h0.o (λq hq e=>by have:=(h0.o.lt q hq).1;omega);have hd:=Qa h5;have hf:=Qa (hg.trans hh.o);have hsz:=O2.o.size;clear FX o2 h0 h7 hh h5 hg;go_wp2_with (at_builtin;refine wpList_append_lies _ rfl _ _ _ rfl w.heap.size 29 i0 (.int .u64 0) 1 8 underlying76 hi hz0 hz1 hz2 rfl (by omega) _ k _ rfl (h3.alloc _) ⟨w2.heap.size,0,none⟩ 1 1 [.int .u64 (a:Int)] rfl rfl ?c1 ?c2 (by omega) ?c3 ?c4 ?c5 (w2.heap.size+1) (by simp) ?_)
    case c1=>exact cell_one_new _ _ _
    case c2=>intro u hu;simp at hu;subst hu;rfl
    case c3=>unfold maxLen;omega
    case c4=>omega
    case c5=>simp;omega
    intro gg cap1 w3 hown1 hgrow hat hg1;have o3:=Qa (((Only.refl (λq=>w.heap.size<=q) w2).alloc _).grown hgrow (λp _ hp=>(h3.lt p hp).1))
    have he:Hid (w3.ownsRow w.heap.size 29 1 (.slice (some ⟨gg,0,none⟩) (k+1) cap1) (k+1) ((acc++[(a:Int)]).map (Value.int .u64))):=by
     simp only[Hid];rw[List.map_append];exact hown1
    clear h3 hown1 hgrow hat;go_wp2
    go_roundw
    case rel =>
     refine⟨k+1,g,acc++[(a:Int)],_,v2,by omega,by go_num,by simp[hj.o],he.o,hd.o.keep o3.o (by omega) (λq hq e=>?_),hf.o,HR.o,O2.o.trans o3.o (λq hq e=>absurd e (by omega))⟩;rw[hf.o] at hq;have:=HVB.o q hq;omega
    case measure=>simp[intOf];omega
  | zero =>
   obtain rfl:k=n:=by omega
   have dlt:decide ((k:Int)<(k:Int))=false:=by simp
   have HR:Hid (rVs k [] ys=(acc,h9,0)):=h4.o.symm;clear h2 h1 h8 h6 HC hb h4;go_wp2;go_ret2;rw[HR.o];refine⟨_,rfl,?_,h7.o⟩;simp only[hj.o];exact h0.o
theorem FK (x:Int) (v:Value) (l:LI) (w:World) (h:Bs .u64 w v l) (hu:U64 l) (hl:l.length<=65536) (x0:0<=x) (x1:x<=18446744073709551615) :
 Calls prog 258 #[.int .u64 x,v] w λe w'=>∃u,e=.returned u∧w'.ownsRow w.heap.size 3 1 u (l.length+1) ((zag x :: zgn l).map (Value.int .i64))∧N0 w w':=by
 obtain⟨i0,hi,hz0,hz1,hz2⟩:=info_parts Tryz.infoI64;have ZX:=Qa (Lk x w x0 x1);have HB:=Qa h;have HU:=Qa hu;obtain⟨ao,cap,rfl⟩:=h.len;obtain⟨n,hn⟩:=EX l.length;rw[<-hn] at hl HB;rw[<-hn];have HN:=Qa hn;have h0:=Qa (World.ownsRow_lit (base:=w.heap.size) (e:=3) (size:=1) w #[.int .i64 (zag x)] 1 Zu (by unfold maxLen;omega) rfl);obtain⟨y,hy⟩:=EX (zag x);rw[<-hy] at ZX h0 ⊢;clear h hn hu x0 x1 hy;go_enter func258,ntmps258;go_wp2_with fail;refine ZX.o.mono ?_;rintro e w1 ⟨rfl,rfl⟩;clear ZX;go_wp2
 go_loopw [5,13] (λs i wr=>∃k:Nat,k<=n∧i=.int .i64 k∧wr.ownsRow w.heap.size 3 1 s (k+1) ((y :: zgn (l.take k)).map (Value.int .i64))∧N0 w wr) (λ_ i _=>n - (intOf i).toNat)
 case atStart=>exact⟨0,Nat.zero_le _,rfl,h0.o,VG.alloc _⟩
 case round =>
  obtain⟨k,hk,rfl,h2,h6⟩:=hrel;have h4:=Qa h2;have h7:=Qa h6;clear h0
  by_cases hlt:k<n
  ·have dlt:decide ((k:Int)<(n:Int))=true:=by simp;omega
   have h5:k<l.length:=by rw[<-HN.o];exact hlt
   obtain⟨b,off,cap',e1,hc0⟩:=(HB.o.past h6).at k h5
   have ea:ao=some ⟨b,off,none⟩:=by simp at e1;exact e1.1
   subst ea;clear e1;have hx:=HU.o (l.getD k 0) (Jk l k h5)
   have HST:Hid ((y :: zgn (l.take (k+1))).map (Value.int .i64)=(y :: zgn (l.take k)).map (Value.int .i64)++[.int .i64 (zag (l.getD k 0))]):=by
    simp only[Hid];rw[UX l k h5];simp[zgn]
   have ZK:=Qa (Lk (l.getD k 0) wr hx.1 hx.2);generalize l.getD k 0=z at *;have h3:=h4.o;have hsz:=h7.o.size;clear h2 h6 HB HU h5 hx;go_wp2_with fail;refine ZK.o.mono ?_;rintro e w2 ⟨rfl,rfl⟩;clear ZK;generalize zag z=q at *;go_wp2_with (at_builtin;refine wpList_append_lies _ rfl _ _ _ rfl w.heap.size 3 i0 (.int .i64 0) 1 8 underlying75 hi hz0 hz1 hz2 rfl (by omega) _ (k+1) _ rfl (h3.alloc _) ⟨wr.heap.size,0,none⟩ 1 1 [.int .i64 q] rfl rfl ?c1 ?c2 (by omega) ?c3 ?c4 ?c5 (wr.heap.size+1) (by simp) ?_)
   case c1=>exact cell_one_new _ _ _
   case c2=>intro u hu;simp at hu;subst hu;rfl
   case c3=>unfold maxLen;omega
   case c4=>omega
   case c5=>simp;omega
   intro gg cap1 w3 hown1 hgrow hat hg1;have o3:=Qa ((h7.o.alloc _).grown hgrow (λp hp0 hp=>absurd (h3.lt p hp).1 (by omega)))
   have h8:Hid (w3.ownsRow w.heap.size 3 1 (.slice (some ⟨gg,0,none⟩) (k+1+1) cap1) (k+1+1) ((y :: zgn (l.take (k+1))).map (Value.int .i64))):=by
    simp only[Hid];rw[HST.o];exact hown1
   clear h3 hown1 hgrow hat;go_wp2
   go_roundw
   case rel=>exact⟨k+1,by omega,by go_num,h8.o,o3.o⟩
   case measure=>simp[intOf];omega
  ·obtain rfl:k=n:=by omega
   have dlt:decide ((k:Int)<(k:Int))=false:=by simp
   have F:Hid (wr.ownsRow w.heap.size 3 1 u5 (k+1) ((y :: zgn l).map (Value.int .i64))):=by
    have h1:=h4.o;rw[HN.o,List.take_length] at h1;simp only[Hid];rw[HN.o];exact h1
   clear h2 h6;go_wp2;go_ret;exact⟨_,rfl,F.o,h7.o⟩
theorem jr (h:CurAt 146 w R v ys) :
 Calls prog 266 #[.pointer (some ⟨R,0,none⟩)] w λe w'=>∃u,e=.returned u∧Bs .u8 w' u ys∧Only (λk=>k=R) w w':=by
 have L:=Qa (Vw h);have B:=Wg h ys.length;rw[Ri] at B;have B:=Qa B;clear h;go_enter func266,ntmps266;go_wp2_with fail;refine L.o.mono ?_;rintro e w1 ⟨rfl,rfl⟩;clear L;go_wp2_with fail;refine B.o.mono ?_;rintro e w2 ⟨u,rfl,bs,_,_,v2,_,_,o2⟩;have F:=Qa (Vz bs o2);obtain⟨f1,c1,e1⟩:=bs.len;subst e1;clear B bs o2;go_wp2;go_ret;exact⟨_,rfl,F.o⟩
theorem gO (h:CurAt 146 w R v ys) (hvb:∀k,v.ownBlock=some k->k<w.heap.size) (m t:Nat) (hm:m<=65536) (h1:1<=t) (h4:t<=4) :
 Calls prog 256 #[.pointer (some ⟨R,0,none⟩),.int .i64 m,.int .i64 t] w λe w'=>∃u,e=.returned (.tuple #[u,.int .i64 (Q0 ys m t).2])∧w'.ownsRow w.heap.size 29 1 u (Q0 ys m t).1.length ((Q0 ys m t).1.map (Value.int .u64))∧Only (λk=>k=R) w w':=by
 rcases (by omega:t=1∨t=2∨t=3∨t=4) with rfl | ht
 ·have B:=Qa (Ey h hvb m hm)
  rw[show ((1:Nat):Int)=1 from rfl];clear h hvb hm;go_enter func256,ntmps256;go_wp2_with fail;refine B.o.mono ?_;rintro e w2 ⟨u2,rfl,h0,o2⟩;have F:=Qa (Vz h0 o2);obtain⟨f2,c2,e2⟩:=(Bs.of_own h0).len;subst e2;clear B h0 o2;go_wp2
  try rw[Exit.noGoto_ret]
  go_ret2;exact⟨_,rfl,F.o.1,F.o.2⟩
 ·have RC:=Qa (jr h)
  have h2:=Qa h.rng;have HL:=Qa h.len;clear h hvb hm h1 h4
  rcases ht with rfl | rfl | rfl
  case' inr.inl=>have B:=Qa (λu w1 bs=>ui u ys m w1 bs h2.o HL.o);rw[show ((2:Nat):Int)=2 from rfl]
  case' inr.inr.inl=>have B:=Qa (λu w1 bs=>pg u ys m w1 bs h2.o HL.o);rw[show ((3:Nat):Int)=3 from rfl]
  case' inr.inr.inr=>have B:=Qa (λu w1 bs=>Cr u ys m w1 bs h2.o HL.o);rw[show ((4:Nat):Int)=4 from rfl]
  all_goals
   go_enter func256,ntmps256;go_wp2_with fail;refine RC.o.mono ?_;rintro e w1 ⟨u,rfl,bs,o1⟩;have C:=Qa (B.o u w1 bs);have O1:=Qa o1;obtain⟨f1,c1,e1⟩:=bs.len;subst e1;clear RC bs o1 B;go_wp2_with fail;refine C.o.mono ?_;rintro e w2 ⟨u2,rfl,h0,o2⟩;have F:=Qa (Vz (Qr h0 O1.o.size) (O1.o.trans o2 (λ_ _ f=>f.elim)));obtain⟨f2,c2,e2⟩:=(Bs.of_own h0).len;subst e2;clear C h0 o2;go_wp2
   try rw[Exit.noGoto_ret]
   go_ret2;exact⟨_,rfl,F.o.1,F.o.2⟩
theorem pO (R t:Nat) (w:World) :
 Calls prog 246 #[.pointer (some ⟨R,0,none⟩),.int .i64 0,.int .i64 t] w λe w'=>e=.returned (.tuple #[.slice none 0 0,.int .i64 0])∧w=w':=by
 go_enter func246,ntmps246;go_wp2
 try rw[Exit.noGoto_ret]
 go_ret2;exact⟨rfl,rfl⟩
theorem zi (h:CurAt 146 w R v ys) (hvb:∀k,v.ownBlock=some k->k<w.heap.size) (n:Nat) (hn:n<=65536) (hp:0<n) :
 Calls prog 246 #[.pointer (some ⟨R,0,none⟩),.int .i64 n,.int .i64 0] w λe w'=>∃u,e=.returned (.tuple #[u,.int .i64 (rFx ys n).2])∧w'.ownsRow w.heap.size 3 1 u ((rFx ys n).1.map s64).length (((rFx ys n).1.map s64).map (Value.int .i64))∧Only (λk=>k=R) w w':=by
 have B:=Qa (rK h hvb n hn)
 have d0:((n:Int) == 0)=false:=by rw[beq_eq_false_iff_ne];omega
 generalize (rFx ys n).1.map s64=z at *;clear h hvb hn hp;go_enter func246,ntmps246;go_wp2_with fail;refine B.o.mono ?_;rintro e w2 ⟨u2,rfl,h0,o2⟩;have F:=Qa (Vz h0 o2);obtain⟨f2,c2,e2⟩:=(Bs.of_own h0).len;subst e2;clear B h0 o2;go_wp2
 try rw[Exit.noGoto_ret]
 go_ret2;exact⟨_,rfl,F.o.1,F.o.2⟩
theorem vK (h:CurAt 146 w R v ys) (hvb:∀k,v.ownBlock=some k->k<w.heap.size) (m t:Nat) (hm:m<65536) (h1:1<=t) (h4:t<=4) :
 Calls prog 246 #[.pointer (some ⟨R,0,none⟩),.int .i64 (m+1:Nat),.int .i64 t] w λe w'=>∃u,e=.returned (.tuple #[u,.int .i64 (READ ys (m+1) t).2])∧w'.ownsRow w.heap.size 3 1 u (READ ys (m+1) t).1.length ((READ ys (m+1) t).1.map (Value.int .i64))∧Only (λk=>k=R) w w':=by
 have hR:R<w.heap.size:=(Array.getElem?_eq_some_iff.1 h.cell).1;have V:=YF h
 have d0:(((m+1:Nat):Int) == 0)=false:=by rw[beq_eq_false_iff_ne];omega
 have d1:((t:Int) == 0)=false:=by rw[beq_eq_false_iff_ne];omega
 have em:((m+1:Nat):Int) - 1=(m:Int):=by omega
 have HVB:=Qa hvb
 have h0:READ ys (m+1) t=if (Qd ys).2.2≠0 then ([],(Qd ys).2.2) else
  if (Q0 (ys.drop (Qd ys).2.1) m t).2≠0 then ([],(Q0 (ys.drop (Qd ys).2.1) m t).2) else
  (S (tms t) (zag (Qd ys).1 :: zgn (Q0 (ys.drop (Qd ys).2.1) m t).1),0):=by
  unfold READ;rw[if_neg (by omega),if_neg (by omega),Nat.add_sub_cancel]
 rcases Ue h.rng with ⟨c,hs,hc⟩ | ⟨a,q,hs,_,_,ha,_⟩
 ·rw[hs] at V h0
  simp only at h0;rw[if_pos (by omega)] at h0;rw[h0];have V:=Qa V
  have dc:(c != 0)=true:=by simp;omega
  clear h hvb hs h0 hc;go_enter func246,ntmps246;go_wp2_with fail;refine V.o.mono ?_;rintro e w2 ⟨rfl,v2,_,_,o2⟩;have O2:=Qa o2;clear V o2;go_wp2
  try rw[Exit.noGoto_ret]
  go_ret2;exact⟨_,rfl,Xh,O2.o⟩
 ·rw[hs] at V h0
  simp only[ne_eq,not_true_eq_false,if_false] at h0;have V:=Qa V
  have hg:Hid (Y4 (ys.drop q)):=λy hy=>h.rng y (List.mem_of_mem_drop hy)
  have h6:Hid (∀(v2:Value) (w2:World),CurAt 146 w2 R v2 (ys.drop q)->v2.ownBlock=v.ownBlock->w.heap.size<=w2.heap.size->Calls prog 256 #[.pointer (some ⟨R,0,none⟩),.int .i64 m,.int .i64 t] w2 λe w'=>∃u,e=.returned (.tuple #[u,.int .i64 (Q0 (ys.drop q) m t).2])∧w'.ownsRow w2.heap.size 29 1 u (Q0 (ys.drop q) m t).1.length ((Q0 (ys.drop q) m t).1.map (Value.int .u64))∧Only (λk=>k=R) w2 w') :=
   λv2 w2 hc ho hz=>gO hc (λk hk=>by rw[ho] at hk;have:=hvb k hk;omega) m t (by omega) h1 h4
  have hf:Hid (∀w2,Calls prog 87 #[.int .i64 t] w2 λe w'=>e=.returned (.int .i64 (tms t))∧w2=w'):=λw2=>MV t w2 h1 h4
  have HT3:=Qa (Mp t)
  by_cases ho:(Q0 (ys.drop q) m t).2=0
  ·have h7:=Qa (Rg hg.o ho)
   rw[if_neg (by simpa using ho)] at h0;rw[h0];simp only[LN,Qk,He,h7.o.2];generalize hW:Q0 (ys.drop q) m t=W at *;obtain⟨o,c⟩:=W;simp only at ho h7 h6 ⊢;subst ho;clear h hvb hs h0 hW;generalize tms t=k at *
   have ha1:(a:Int)<=18446744073709551615:=by omega
   obtain⟨zz,he⟩:=EX (zag a :: zgn o);rw[<-he];have hh:=Qa he;clear he;go_enter func246,ntmps246;go_wp2_with fail;refine V.o.mono ?_;rintro e w2 ⟨rfl,v2,h3,h9,o2⟩;have OC:=Qa (h6.o v2 w2 h3 h9 o2.size);have O2:=Qa o2;clear V o2 h6 h3 h9;go_wp2_with fail;refine OC.o.mono ?_;rintro e w3 ⟨u3,rfl,h2,o3⟩;have O3:=Qa (O2.o.trans o3 (λ_ _ e=>e));have ZG:=Qa (FK a u3 o w3 (Bs.of_own h2) h7.o.1 (by rw[h7.o.2];omega) (by omega) ha1);obtain⟨f3,c3,e3⟩:=(Bs.of_own h2).len;rw[h7.o.2] at e3 ZG;subst e3;clear OC h2 o3 O2;go_wp2_with fail;refine ZG.o.mono ?_;rintro e w4 ⟨u4,rfl,h8,o4⟩
   have hb:zz.length=m+1:=by rw[hh.o,Qk,He,h7.o.2]
   have hd:Bs .i64 w4 u4 zz:=Bs.of_own (by rw[hb,hh.o];exact h8);have SU:=Qa (Cl u4 zz k w4 hd (by rw[hb];omega) HT3.o);have O4:=Qa (O3.o.trans o4 (λ_ _ f=>f.elim));obtain⟨f4,c4,e4⟩:=hd.len;rw[hb] at e4 SU;subst e4;clear ZG h8 o4 O3 hd hb;go_wp2_with fail;refine (hf.o w4).mono ?_;rintro e w5 ⟨rfl,rfl⟩;clear hf;go_wp2_with fail;refine SU.o.mono ?_;rintro e w6 ⟨u6,rfl,h5,o6⟩;have F:=Qa (Vz (Qr h5 O4.o.size) (O4.o.trans o6 (λ_ _ f=>f.elim)));clear SU o6;obtain⟨f6,c6,e6,_,_⟩:=h5.form (by omega);subst e6;clear h5;go_wp2
   try rw[Exit.noGoto_ret]
   go_ret2;exact⟨_,rfl,F.o.1,F.o.2⟩
  ·rw[if_pos ho] at h0
   rw[h0];have HE:=Qa (xv hg.o ho);generalize hW:Q0 (ys.drop q) m t=W at *;obtain⟨o,c⟩:=W;simp only at ho HE h6 ⊢
   have dc:(c != 0)=true:=by simp;exact ho
   clear h hvb hs h0 hW;go_enter func246,ntmps246;go_wp2_with fail;refine V.o.mono ?_;rintro e w2 ⟨rfl,v2,h3,h9,o2⟩;have OC:=Qa (h6.o v2 w2 h3 h9 o2.size);have O2:=Qa o2;clear V o2 h6 h3 h9;go_wp2_with fail;refine OC.o.mono ?_;rintro e w3 ⟨u3,rfl,h2,o3⟩;have O3:=Qa (O2.o.trans o3 (λ_ _ e=>e));obtain⟨f3,c3,e3⟩:=(Bs.of_own h2).len;subst e3;clear OC h2 o3 O2;go_wp2
   try rw[Exit.noGoto_ret]
   go_ret2;exact⟨_,rfl,Xh,O3.o⟩
theorem jJ (h:CurAt 146 w R v ys) (hvb:∀k,v.ownBlock=some k->k<w.heap.size) (n t:Nat) (hn:n<=65536) (h4:t<=4) :
 Calls prog 246 #[.pointer (some ⟨R,0,none⟩),.int .i64 n,.int .i64 t] w λe w'=>∃u,e=.returned (.tuple #[u,.int .i64 (READ ys n t).2])∧w'.ownsRow w.heap.size 3 1 u (READ ys n t).1.length ((READ ys n t).1.map (Value.int .i64))∧Only (λk=>k=R) w w':=by
 by_cases h0:n=0
 ·subst h0
  refine (pO R t w).mono ?_;rintro e w' ⟨rfl,rfl⟩;exact⟨_,rfl,Xh,VG⟩
 ·by_cases ht:t=0
  ·subst ht
   have e:READ ys n 0=((rFx ys n).1.map s64,(rFx ys n).2):=by
    unfold READ;rw[if_neg h0,if_pos rfl]
   rw[e];exact zi h hvb n hn (by omega)
  ·obtain⟨m,rfl⟩:∃m,n=m+1:=⟨n - 1,by omega⟩
   exact vK h hvb m t (by omega) (by omega) h4
theorem F3 (v:Value) (n:Int) (w:World) (h:n<0∨65536<n) :
 Calls prog 223 #[v,.int .i64 n] w λe w'=>e=.returned (.tuple #[.slice none 0 0,.int .i64 1])∧w=w':=by
 by_cases h0:n<0
 ·have d0:decide (n<0)=true:=Qe h0
  clear h h0;go_enter func223,ntmps223;go_wp2
  try rw[Exit.noGoto_ret]
  go_ret2;exact⟨rfl,rfl⟩
 ·have d0:decide (n<0)=false:=Qi h0
  have d1:decide (65536<n)=true:=Qe (by omega);clear h h0;go_enter func223,ntmps223;go_wp2
  try rw[Exit.noGoto_ret]
  go_ret2;exact⟨rfl,rfl⟩
theorem yJ:sByte []=(0,0,2):=rfl
theorem zm (v:Value) (ys:LI) (n:Nat) (w:World) (h:Bs .u8 w v ys) (hr:Y4 ys) (hl:ys.length<=1000000000000) (hn:n<=65536) :
 Calls prog 223 #[v,.int .i64 n] w λe w'=>∃u,e=.returned (.tuple #[u,.int .i64 (DEC8 ys n).2])∧w'.ownsRow w.heap.size 3 1 u (DEC8 ys n).1.length ((DEC8 ys n).1.map (Value.int .i64))∧N0 w w':=by
 have NW:=Qa (Uu v ys w h hr hl);have HB:=Qa h
 have d0:decide ((n:Int)<0)=false:=by simp
 have d1:decide ((65536:Int)<(n:Int))=false:=Qi (by omega)
 have eD:DEC8 ys n=if ys=[] then ([],2) else if 4<ys.getD 0 0 then ([],3) else
  if (READ (ys.drop 1) n (ys.getD 0 0).toNat).2≠0 then ([],(READ (ys.drop 1) n (ys.getD 0 0).toNat).2) else
  if (ENC8 (READ (ys.drop 1) n (ys.getD 0 0).toNat).1).1=ys then ((READ (ys.drop 1) n (ys.getD 0 0).toNat).1,0) else ([],3):=by
  unfold DEC8;rw[if_neg (by omega)]
  rfl
 have he:=Qa hr;obtain⟨ao,cap,rfl⟩:=h.len;clear h hl
 cases ys with
 | nil =>
  rw[eD,if_pos rfl];clear eD hr;go_enter func223,ntmps223;go_wp2_with fail;refine NW.o.mono ?_;rintro e w1 ⟨R,v1,rfl,h1,o1,hh,hp,h5⟩;have BY:=Ur h1;rw[yJ] at BY;have BY:=Qa BY;have O1:=Qa o1;clear NW h1 o1 h5;go_wp2_with fail;refine BY.o.mono ?_;rintro e w2 ⟨rfl,v2,_,_,o2⟩;have O2:=Qa (O1.o.trans o2 (λk hk e=>by omega));clear BY o2;go_wp2
  try rw[Exit.noGoto_ret]
  go_ret2;exact⟨_,rfl,Xh,O2.o⟩
 | cons y r =>
  have hy:=hr y List.mem_cons_self;rw[if_neg (by simp),List.getD_cons_zero,List.drop_succ_cons,List.drop_zero] at eD;obtain⟨t,rfl⟩:∃t:Nat,y=t:=⟨y.toNat,by omega⟩;rw[Int.toNat_natCast] at eD;have t255:(t:Int)<=255:=hy.2
  by_cases ht:4<t
  ·rw[if_pos (by omega)] at eD
   rw[eD];have IT:=Qa (λw2=>PD (t:Int) w2 (.inr (by omega)));obtain⟨N,hN⟩:=EX (((t:Int) :: r).length);rw[<-hN] at NW HB ⊢;clear eD hr hy hN;go_enter func223,ntmps223;go_wp2_with fail;refine NW.o.mono ?_;rintro e w1 ⟨R,v1,rfl,h1,o1,hh,hp,h5⟩;have BY:=Ur h1;rw[qe] at BY;have BY:=Qa BY;have O1:=Qa o1;clear NW h1 o1 h5;go_wp2_with fail;refine BY.o.mono ?_;rintro e w2 ⟨rfl,v2,_,_,o2⟩;have O2:=Qa (O1.o.trans o2 (λk hk e=>by omega));clear BY o2;go_wp2_with fail;refine (IT.o w2).mono ?_;rintro e w3 ⟨rfl,rfl⟩;clear IT;go_wp2
   try rw[Exit.noGoto_ret]
   go_ret2;exact⟨_,rfl,Xh,O2.o⟩
  ·rw[if_neg (by omega)] at eD
   have IT:=Qa (λw2=>Zo (t:Int) w2 (by omega) (by omega))
   have RD:Hid (∀(R:Nat) (v2:Value) (w2:World),CurAt 146 w2 R v2 r->(∀k,v2.ownBlock=some k->k<w2.heap.size)->Calls prog 246 #[.pointer (some ⟨R,0,none⟩),.int .i64 n,.int .i64 t] w2 λe w'=>∃u,e=.returned (.tuple #[u,.int .i64 (READ r n t).2])∧w'.ownsRow w2.heap.size 3 1 u (READ r n t).1.length ((READ r n t).1.map (Value.int .i64))∧Only (λk=>k=R) w2 w') :=
    λR v2 w2 hc hv=>jJ hc hv n t hn (by omega)
   have h9:Hid ((READ r n t).2=0->I64s (READ r n t).1∧(READ r n t).1.length=n):=λh0=>T0 (λz hz=>hr z (List.mem_cons_of_mem _ hz)) h0
   have hd:Hid ((READ r n t).2≠0->(READ r n t).1=[]):=λh0=>kW h0
   obtain⟨zs,h7⟩:=EX (((t:Int) :: r));obtain⟨N,hN⟩:=EX (((t:Int) :: r).length);rw[<-h7] at eD he;rw[<-hN] at NW HB ⊢
   have HN:Hid (N=zs.length):=by simp only[Hid];rw[h7];exact hN
   have hj:Hid (Calls prog 59 #[Value.slice ao N cap] w λe w'=>∃R v',e=.returned (.pointer (some ⟨R,0,none⟩))∧CurAt 146 w' R v' ((t:Int) :: r)∧N0 w w'∧w.heap.size<=R∧R<w'.heap.size∧(∀k,v'.ownBlock=some k->w.heap.size<=k∧k<w'.heap.size)):=NW
   have HBZ:Hid (Bs .u8 w (.slice ao N cap) zs):=by simp only[Hid];rw[h7];exact HB.o
   rw[<-h7];generalize DEC8 zs n=DD at *;generalize READ r n t=RR at *;obtain⟨l,c⟩:=RR;simp only at RD h9 hd eD;clear hr hy hN h7 NW HB;go_enter func223,ntmps223;go_wp2_with fail;refine hj.o.mono ?_;rintro e w1 ⟨R,v1,rfl,h1,o1,hh,hp,h5⟩;have BY:=Ur h1;rw[qe] at BY;have BY:=Qa BY;have O1:=Qa o1;have HV1:=Qa h5;clear hj h1 o1 h5;go_wp2_with fail;refine BY.o.mono ?_;rintro e w2 ⟨rfl,v2,h6,hf,o2⟩;have O2:=Qa (O1.o.trans o2 (λk hk e=>by omega));have RA:=Qa (RD.o R v2 w2 h6 (λk hk=>by rw[hf] at hk;have:=(HV1.o k hk).2;have:=o2.size;omega));clear BY o2 h6 hf RD;go_wp2_with fail;refine (IT.o w2).mono ?_;rintro e w3 ⟨rfl,rfl⟩;clear IT;go_wp2_with fail;refine RA.o.mono ?_;rintro e w3 ⟨u3,rfl,h4,o3⟩;have O3:=Qa (O2.o.trans o3 (λk hk e=>by omega));have h2:=Qa (Qr h4 O2.o.size);obtain⟨f3,c3,e3⟩:=(Bs.of_own h4).len;subst e3;clear RA h4 o3
   by_cases hc:c=0
   ·subst hc
    obtain⟨hg,hb⟩:=h9.o rfl;rw[if_neg (by simp)] at eD;have EN:=TX _ l w3 (Bs.of_own h2.o) hg;have ho:=Qa (Ns hg);have EN:=Qa EN;obtain⟨m,hm⟩:=EX l.length;rw[<-hm] at EN h2 ⊢;have HM:=Qa hm;generalize ENC8 l=E at *;obtain⟨E1,Ec⟩:=E;simp only at EN ho eD;have h8:=Qa eD;clear hg hb h9 hd eD hm;go_wp2_with fail;refine EN.o.mono ?_;rintro e w4 ⟨u4,rfl,h3,o4⟩;have O4:=Qa (O3.o.same o4);have ha:=Qa (o4.own h2.o (λ_ _ f=>f));have EQ:=Qa (U1 u4 (.slice ao N cap) E1 zs w4 (Bs.of_own h3) (HBZ.o.past O4.o) ho.o he.o);obtain⟨f4,c4,e4⟩:=(Bs.of_own h3).len;subst e4;clear EN h3 o4
    by_cases heq:E1=zs
    case' pos =>
     rw[Qe heq] at EQ;rw[if_pos heq] at h8
    case' neg =>
     rw[Qi heq] at EQ;rw[if_neg heq] at h8
    all_goals
     have eE:=h8.o;subst eE;clear heq h8;generalize E1.length=e1 at *;go_wp2_with fail;refine EQ.o.mono ?_;rintro e w5 ⟨rfl,rfl⟩;clear EQ;go_wp2
     try rw[Exit.noGoto_ret]
     go_ret2
     first
     | exact⟨_,rfl,Xh,O4.o⟩
     | (refine⟨_,rfl,?_,O4.o⟩;simp only[<-HM.o];exact ha.o)
   ·have dc:(c != 0)=true:=by simp;exact hc
    rw[if_pos hc] at eD;subst eD;clear h9 hd h2;generalize l.length=m at *;go_wp2
    try rw[Exit.noGoto_ret]
    go_ret2;exact⟨_,rfl,Xh,O3.o⟩
theorem pr (v:Value) (ys:LI) (n:Int) (w:World) (h:Bs .u8 w v ys) (hr:Y4 ys) (hl:ys.length<=1000000000000) :
 Calls prog 223 #[v,.int .i64 n] w λe w'=>∃u,e=.returned (.tuple #[u,.int .i64 (DEC8 ys n).2])∧w'.ownsRow w.heap.size 3 1 u (DEC8 ys n).1.length ((DEC8 ys n).1.map (Value.int .i64))∧N0 w w':=by
 by_cases hn:n<0∨65536<n
 ·have e:DEC8 ys n=([],1):=by unfold DEC8;rw[if_pos hn]
  rw[e];refine (F3 v n w hn).mono ?_;rintro e w' ⟨rfl,rfl⟩;exact⟨_,rfl,Xh,VG⟩
 ·obtain⟨m,rfl⟩:=Int.eq_ofNat_of_zero_le (show 0<=n by omega)
  exact zm v ys m w h hr hl (by omega)
end Go.Proofs.YtiochaeeoelmjaaGreatDoor
