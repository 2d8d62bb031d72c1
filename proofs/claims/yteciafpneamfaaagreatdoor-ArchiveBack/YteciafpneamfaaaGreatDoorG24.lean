import Derived.Test.YteciafpneamfaaaGreatDoorG23
import Derived.Test.YteciafpneamfaaaGreatDoorG8
namespace Go.Proofs.YteciafpneamfaaaGreatDoor
set_option maxHeartbeats 1600000
set_option maxRecDepth 100000
open Go.RowKit _root_.Go.Proofs.Tryz
theorem zP {W5 W:World} (_o:N0 W5 W):Blk (W.alloc (.cells z5.toArray 173)) W.heap.size 173 z5:=Blk.new W 173 z5
abbrev o0mc : Oper:={ dst:=some 8,op:=Op.alloc 173,type:=0,pos:="poly.go:27",after:=#[],guard:=none }
abbrev o1mc : Oper:={ dst:=some 26,op:=Op.call { callee:=Callee.value (Operand.func 120),args:=#[Operand.tmp 25],argTypes:=#[173] },type:=175,pos:="poly.go:27",after:=#[{ on:=5,ground:=Ground.data },{ on:=5,ground:=Ground.chain }],guard:=none }
abbrev o2mc : Oper:={ dst:=some 19,op:=Op.move (Operand.tmp 26),type:=175,pos:="poly.go:27",after:=#[{ on:=6,ground:=Ground.data }],guard:=none }
abbrev o3mc : Oper:={ dst:=some 27,op:=Op.extract (Operand.tmp 19) 0,type:=173,pos:="poly.go:27",after:=#[{ on:=7,ground:=Ground.data }],guard:=none }
abbrev o4mc : Oper:={ dst:=some 28,op:=Op.extract (Operand.tmp 19) 1,type:=23,pos:="poly.go:27",after:=#[{ on:=7,ground:=Ground.data },{ on:=11,ground:=Ground.gcOnly Departure.lateStores }],guard:=none }
abbrev o5mc : Oper:={ dst:=none,op:=Op.store 173 (Operand.tmp 8) (Operand.tmp 27),type:=0,pos:="poly.go:27",after:=#[{ on:=10,ground:=Ground.data },{ on:=8,ground:=Ground.data },{ on:=6,ground:=Ground.chain },{ on:=0,ground:=Ground.phase },{ on:=1,ground:=Ground.phase },{ on:=2,ground:=Ground.phase },{ on:=3,ground:=Ground.phase },{ on:=4,ground:=Ground.phase },{ on:=5,ground:=Ground.phase },{ on:=6,ground:=Ground.phase },{ on:=7,ground:=Ground.phase },{ on:=8,ground:=Ground.phase },{ on:=9,ground:=Ground.textOnly Departure.lateStores },{ on:=10,ground:=Ground.phase }],guard:=none }
abbrev o6mc : Oper:={ dst:=some 9,op:=Op.assign (Operand.tmp 28),type:=23,pos:="poly.go:27",after:=#[{ on:=9,ground:=Ground.data },{ on:=11,ground:=Ground.chain },{ on:=0,ground:=Ground.phase },{ on:=1,ground:=Ground.phase },{ on:=2,ground:=Ground.phase },{ on:=3,ground:=Ground.phase },{ on:=4,ground:=Ground.phase },{ on:=5,ground:=Ground.phase },{ on:=6,ground:=Ground.phase },{ on:=7,ground:=Ground.phase },{ on:=8,ground:=Ground.phase },{ on:=9,ground:=Ground.phase },{ on:=10,ground:=Ground.phase },{ on:=11,ground:=Ground.phase }],guard:=none }
abbrev o7mc : Oper:={ dst:=some 25,op:=Op.call { callee:=Callee.value (Operand.func 121),args:=#[Operand.tmp 23,Operand.tmp 24],argTypes:=#[173,173] },type:=173,pos:="poly.go:27",after:=#[{ on:=3,ground:=Ground.data },{ on:=4,ground:=Ground.data },{ on:=3,ground:=Ground.chain }],guard:=none }
abbrev o8mc : Oper:={ dst:=some 23,op:=Op.call { callee:=Callee.value (Operand.func 122),args:=#[Operand.tmp 22],argTypes:=#[173] },type:=173,pos:="poly.go:27",after:=#[{ on:=2,ground:=Ground.data },{ on:=2,ground:=Ground.chain }],guard:=none }
abbrev o9mc : Oper:={ dst:=some 22,op:=Op.call { callee:=Callee.value (Operand.func 123),args:=#[Operand.tmp 20,Operand.tmp 21],argTypes:=#[22,173] },type:=173,pos:="poly.go:27",after:=#[{ on:=0,ground:=Ground.data },{ on:=1,ground:=Ground.data }],guard:=none }
theorem Dh (vk vb:Value) (key xs:LI) (hk:key.length=32) (k8:U8 key) (x8:U8 xs) (hl:xs.length<=1000000000000) (w:World) (bk:Bs .u8 w vk key) (bb:Bs .u8 w vb xs) :
 Calls prog 85 #[vk,vb] w λe w'=>∃v,e=.returned (.tuple #[v,.int .i64 0])∧w'.ownsRow w.heap.size 5 1 v 16 (bl (Kf key xs))∧N0 w w':=by
 have hzv:=(zero_of_info (P:=prog) Tryz.zero34).1;obtain⟨Z,hZ⟩:=EX z5;rw[<-hZ] at hzv;have HZ:=Qa hZ;obtain⟨ao,kc,rfl⟩:=bk.len;rw[hk] at bk ⊢
 have hkc:32<=kc:=by
  obtain⟨_,_,e,h,_⟩:=bk;simp at e;omega
 have h5:(key.take 16).length=16:=by rw[Qg,hk];rfl
 have h8:(key.drop 16).length=16:=by rw[Qm,hk]
 have MU:=Qa (Iu _ (key.take 16) h5 (k8.take 16) w (bk.head (n:=16) (by decide)));have NU:=Qa (λW (o:N0 w W)=>Hd _ (key.drop 16) (by rw[h8];decide) (k8.drop 16) W ((bk.cut (n:=16) (by decide)).past o));obtain⟨r,hr⟩:=EX (nmb (c2 (key.take 16) 3));obtain⟨s,hs⟩:=EX (nmb (key.drop 16))
 have h2:r.length=5∧LB 67108864 r:=by rw[hr];exact⟨UJ _,Vj _⟩
 have h1:s.length=5∧LB 67108864 s:=by rw[hs];exact⟨UJ _,Vj _⟩
 have h4:=II key xs hk k8 x8;rw[<-hr] at MU h4;rw[<-hs] at NU h4;have GA:=Qa (λW (o:N0 w W)=>rk vb xs hl x8 r h2.1 h2.2 W (bb.past o));obtain⟨g,hg⟩:=EX (gth r xs ((xs.length+15) / 16))
 have ha:g.length=5∧LB 67108864 g:=by rw[hg];exact⟨Wg _ _ _,GW _ _ h2.2 _⟩
 rw[<-hg] at GA h4;have LE:=Qa (λ(W:World)=>AU g ha.1 ha.2 W);have lp:=Xe (C:=9223372036854775808) (Sb g) h1.2 (by decide);have PL:=Qa (λ(W:World)=>GK (lst g) s (Zu g ha.1) h1.1 ((Sb g).mono (by decide)) (h1.2.mono (by decide)) W);have SE:=Qa (λ(W:World)=>Zo (pls (lst g) s) (YH _ _) lp W);have TA:=Qa (λ(W:World)=>gX (sdg (pls (lst g) s) 0) (by rw[YV,YH]) (WH _ _) W);rw[h4] at TA
 have HD:Hid ((prog.info? 173).map (·.size)=some (ul r).toArray.size∧Z.toArray.size=(ul r).toArray.size∧(ul r).toArray.all (·.oneCell')=true∧(prog.info? 173).map (·.size)=some (ul s).toArray.size∧Z.toArray.size=(ul s).toArray.size∧(ul s).toArray.all (·.oneCell')=true):=by
  rw[hZ];exact⟨YR _ h2.1,by simp[QZ,h2.1,UD],Uf _,YR _ h1.1,by simp[QZ,h1.1,UD],Uf _⟩
 obtain⟨RR,he⟩:=EX (ul r);obtain⟨SS,hd⟩:=EX (ul s);rw[<-he,<-hd] at HD;rw[<-he] at MU GA;rw[<-hd] at NU PL
 have i1:¬(kc:Int)=16:=by omega
 have i2:(32:Int)<=(kc:Int):=by omega
 have i3:(16:Int)<=(kc:Int):=by omega
 have i4:¬kc=16:=by omega
 obtain⟨TT,h0⟩:=EX (ul (sdg (pls (lst g) s) 0))
 have TL:Hid ((sdg (pls (lst g) s) 0).length=5):=by
  show _=_
  rw[YV,YH]
 obtain⟨GG,hq⟩:=EX (ul g);obtain⟨LG,hu⟩:=EX (ul (lst g));obtain⟨PG,hj⟩:=EX (ul (pls (lst g) s));obtain⟨tc,hv⟩:=EX (scy (pls (lst g) s) 0);rw[<-hq] at GA LE;rw[<-hu] at LE PL;rw[<-hj] at PL SE;rw[<-h0,<-hv] at SE;rw[<-h0] at TA;clear hq hu hj hv
 have HL:Hid (RR.length=5∧SS.length=5):=by rw[he,hd,QZ,QZ];exact⟨h2.1,h1.1⟩
 clear h5 h8 hr hs h4 hg ha lp he hd h2 h1 hZ;go_enter func85,ntmps85;go_wp2_with fail;refine MU.o.mono ?_;rintro e w1 ⟨rfl,o1⟩;have h9:Hid (N0 w ((w1.alloc (.cells Z.toArray 173)).setRow w1.heap.size RR.toArray)):=o1.same (((Only.refl _ _).alloc _).setRow (λh=>absurd h (Nat.lt_irrefl _)) _);have B2:Hid (Blk ((w1.alloc (.cells Z.toArray 173)).setRow w1.heap.size RR.toArray) w1.heap.size 173 RR):=(Blk.new w1 173 Z).row RR;go_wp2_with (first|(refine wpList_store_row rfl 173 (.tmp 6) (.tmp 15) rfl w1.heap.size RR.toArray rfl rfl 173 Z.toArray (Blk.new w1 173 Z) HD.o.1 HD.o.2.1 HD.o.2.2.1 ?_));obtain⟨RB,hx⟩:=EX w1.heap.size;rw[<-hx] at h9 B2 ⊢;obtain⟨W2,hh⟩:=EX ((w1.alloc (.cells Z.toArray 173)).setRow RB RR.toArray);rw[<-hh] at h9 B2 ⊢;clear hh hx MU o1;refine (NU.o W2 h9.o).mono ?_;rintro e w3 ⟨rfl,o3⟩;have o4:N0 W2 ((w3.alloc (.cells Z.toArray 173)).setRow w3.heap.size SS.toArray):=o3.same (((Only.refl _ _).alloc _).setRow (λh=>absurd h (Nat.lt_irrefl _)) _);have K5:Hid (Blk ((w3.alloc (.cells Z.toArray 173)).setRow w3.heap.size SS.toArray) RB 173 RR∧Blk ((w3.alloc (.cells Z.toArray 173)).setRow w3.heap.size SS.toArray) w3.heap.size 173 SS∧N0 w ((w3.alloc (.cells Z.toArray 173)).setRow w3.heap.size SS.toArray)):=⟨B2.o.past o4,(Blk.new w3 173 Z).row SS,h9.o.same o4⟩;go_wp2_with (first|(refine wpList_store_row rfl 173 (.tmp 7) (.tmp 18) rfl w3.heap.size SS.toArray rfl rfl 173 Z.toArray (Blk.new w3 173 Z) HD.o.2.2.2.1 HD.o.2.2.2.2.1 HD.o.2.2.2.2.2 ?_));obtain⟨SB,ht⟩:=EX w3.heap.size;rw[<-ht] at K5 ⊢;obtain⟨W5,hp⟩:=EX ((w3.alloc (.cells Z.toArray 173)).setRow SB SS.toArray);rw[<-hp] at K5 ⊢;clear hp ht NU o3 o4 B2 h9
 -- BYHAND
 have h7:Hid (0+TT.toArray.size<=z5.length∧(prog.info? 173).map (·.size)=some TT.toArray.size∧TT.toArray.all (·.oneCell')=true∧TT.length=5):=by
  rw[h0];refine⟨?_,YR _ TL.o,Uf _,by rw[QZ];exact TL.o⟩;rw[List.size_toArray,QZ,TL.o];decide
 have FIN:Hid (∀W N,N0 W5 W->Blk W N 173 z5->W5.heap.size<=N->Blk (W.setCells N 0 TT.toArray.toList) N 173 TT∧N0 W5 (W.setCells N 0 TT.toArray.toList)):=λW N o b hN=>by
  refine⟨?_,Only.setCells (S:=λ_=>False) (λh=>absurd h (by omega)) _ 0 W o⟩;exact b.setAll (by rw[h7.o.2.2.2];rfl)
 have rR:Hid (∀W,N0 W5 W->W.rangeAt RB 0 RR):=λW o=>by
  have:=Blk.range (a:=[]) (b:=RR) (c:=[]) (w:=W) (g:=RB) (t:=173) (by simpa using K5.o.1.past o)
  simpa using this
 have rS:Hid (∀W,N0 W5 W->W.rangeAt SB 0 SS):=λW o=>by
  have:=Blk.range (a:=[]) (b:=SS) (c:=[]) (w:=W) (g:=SB) (t:=173) (by simpa using K5.o.2.1.past o)
  simpa using this
 have iR:Hid ((prog.info? 173).map (·.size)=some RR.length∧(prog.info? 173).map (·.size)=some SS.length):=by rw[HL.o.1,HL.o.2];exact⟨Tryz.size34,Tryz.size34⟩
 have O5:=Qa K5.o.2.2
 have GS:Hid (∀W,N0 W5 W->Calls prog 123 #[vb,.agg RR.toArray] W λe w'=>e=.returned (.agg GG.toArray)∧(N0 W5 w'∧N0 W w')):=λW o=>(GA.o W (O5.o.same o)).mono λ_ w' (h:_∧_)=>⟨h.1,o.same h.2,h.2⟩
 have LS:Hid (∀W,N0 W5 W->Calls prog 122 #[.agg GG.toArray] W λe w'=>e=.returned (.agg LG.toArray)∧(N0 W5 w'∧N0 W w')):=λW o=>(LE.o W).mono λ_ w' (h:_∧_)=>⟨h.1,o.same h.2,h.2⟩
 have PS:Hid (∀W,N0 W5 W->Calls prog 121 #[.agg LG.toArray,.agg SS.toArray] W λe w'=>e=.returned (.agg PG.toArray)∧(N0 W5 w'∧N0 W w')):=λW o=>(PL.o W).mono λ_ w' (h:_∧_)=>⟨h.1,o.same h.2,h.2⟩
 have SS2:Hid (∀W,N0 W5 W->Calls prog 120 #[.agg PG.toArray] W λe w'=>e=.returned (.tuple #[.agg TT.toArray,.int .u64 (tc:Nat)])∧(N0 W5 w'∧N0 W w')):=λW o=>(SE.o W).mono λ_ w' (h:_∧_)=>⟨h.1,o.same h.2,h.2⟩
 clear GA LE PL SE h0;simp only[Act.put]
 go_cut [8] from 10 (λp W=>∃N,p=.pointer (some ⟨N,0,none⟩)∧Blk W N 173 TT∧N0 W5 W)
 case first =>
  refine wp_region_held_drew (S:=λW=>N0 W5 W) (by kernel_rfl) (Only.refl _ _).drew (λhH0=>?_)
  try simp only[Act.put,Qq,Qn,Qo]
  refine wpAnyH_take (i:=0) (oi:={ dst:=some 20,op:=Op.move (Operand.tmp 1),type:=22,pos:="poly.go:27",after:=#[],guard:=none }) (v:=?tv1) rfl (by kernel_rfl) (by kernel_rfl) (by kernel_rfl) (fun _ _ _ h => h) (Or.inl ⟨by rfl,?th1⟩) hH0 ?tr1
  case th1=>(intro w hSw;go_simp;try with_reducible rfl)
  try simp only[Act.put,Qq,Qn,Qo]
  refine wpAnyH_take (i:=1) (oi:={ dst:=some 21,op:=Op.load 173 (Operand.tmp 6),type:=173,pos:="poly.go:27",after:=#[],guard:=none }) (v:=.agg RR.toArray) rfl (by kernel_rfl) (by kernel_rfl) (by kernel_rfl) (fun _ _ _ h => h) (yieldsIf_load_mid (by rfl) 173 (.tmp 6) rfl RB 0 rfl RR _ (fun W h => rR.out W h) underlying173 rfl iR.out.1) hH0 ?_
  try simp only[Act.put,Qq,Qn,Qo]
  refine wpAnyH_take (i:=4) (oi:={ dst:=some 24,op:=Op.load 173 (Operand.tmp 7),type:=173,pos:="poly.go:27",after:=#[],guard:=none }) (v:=.agg SS.toArray) rfl (by kernel_rfl) (by kernel_rfl) (by kernel_rfl) (fun _ _ _ h => h) (yieldsIf_load_mid (by rfl) 173 (.tmp 7) rfl SB 0 rfl SS _ (fun W h => rS.out W h) underlying173 rfl iR.out.2) hH0 ?_
  try simp only[Act.put,Qq,Qn,Qo]
  have O:=hH0
  repeat' (first
   | ((first
    | (have _:=m9;clear m9;rw[if_pos (by rfl)];refine Kp 123 #[.tmp 20,.tmp 21] #[22,173] rfl uJ #[vb,.agg RR.toArray] (.agg GG.toArray) (by kernel_rfl) (GS.o _ O) ?_;rintro W ⟨O,P⟩;refine hK.out _ _ O (λ_=>?_);clear hK K;(try have BA:=BA.past P);have hf:=trivial)
    | (have _:=m8;clear m8;rw[if_pos (by rfl)];refine Kp 122 #[.tmp 22] #[173] rfl vV #[.agg GG.toArray] (.agg LG.toArray) (by kernel_rfl) (LS.o _ O) ?_;rintro W ⟨O,P⟩;refine hK.out _ _ O (λ_=>?_);clear hK K;(try have BA:=BA.past P);have hw:=trivial)
    | (have _:=m7;clear m7;rw[if_pos (by rfl)];refine Kp 121 #[.tmp 23,.tmp 24] #[173,173] rfl Sx #[.agg LG.toArray,.agg SS.toArray] (.agg PG.toArray) (by kernel_rfl) (PS.o _ O) ?_;rintro W ⟨O,P⟩;refine hK.out _ _ O (λ_=>?_);clear hK K;(try have BA:=BA.past P);have hm:=trivial)
    | (have _:=m1;clear m1;rw[if_pos (by rfl)];refine Kp 120 #[.tmp 25] #[173] rfl vj #[.agg PG.toArray] (.tuple #[.agg TT.toArray,.int .u64 (tc:Nat)]) (by kernel_rfl) (SS2.o _ O) ?_;rintro W ⟨O,P⟩;refine hK.out _ _ O (λ_=>?_);clear hK K;(try have BA:=BA.past P);have hn:=trivial;try simp only[Act.put,Qq,Qn,Qo];refine wpAnyH_take (i:=7) (oi:=o2mc) (v:=?_) rfl (by kernel_rfl) (by kernel_rfl) (by kernel_rfl) (λ_ _ _ h=>h) (Or.inl ⟨by rfl,?_⟩) O ?_;rotate_left;(focus (intro w hSw;go_simp;try with_reducible rfl));try simp only[Act.put,Qq,Qn,Qo];refine wpAnyH_take (i:=8) (oi:=o3mc) (v:=?_) rfl (by kernel_rfl) (by kernel_rfl) (by kernel_rfl) (λ_ _ _ h=>h) (Or.inl ⟨by rfl,?_⟩) O ?_;rotate_left;(focus (intro w hSw;go_simp;try with_reducible rfl));try simp only[Act.put,Qq,Qn,Qo];refine wpAnyH_take (i:=9) (oi:=o4mc) (v:=?_) rfl (by kernel_rfl) (by kernel_rfl) (by kernel_rfl) (λ_ _ _ h=>h) (Or.inl ⟨by rfl,?_⟩) O ?_;rotate_left;(focus (intro w hSw;go_simp;try with_reducible rfl));try simp only[Act.put,Qq,Qn,Qo])
    | (have _:=m0;clear m0;rw[if_pos (by rfl)];refine Oa rfl ?_;have BA:=zP O;have BN:=O.size;have O:=O.alloc (.cells z5.toArray 173);refine hK.out _ _ O (λ_=>?_);clear hK K;have h3:=trivial)
    | (have _:=m5;clear m5;rw[if_pos (by rfl)];refine wp_store_mid 173 (.tmp 8) (.tmp 27) rfl _ 0 TT.toArray rfl rfl (BA.there 0 _ h7.o.1) h7.o.2.1 h7.o.2.2.1 ?_;have FN:=FIN.o _ _ O BA BN;refine hK.out _ _ FN.2 (λhH=>?_);clear hK K;simp only[Act.put];refine wpAnyH_take (i:=12) (oi:=o6mc) (v:=?_) rfl (by kernel_rfl) (by kernel_rfl) (by kernel_rfl) (λ_ _ _ h=>h) (Or.inl ⟨by rfl,?_⟩) hH ?_;rotate_left;(focus (intro w hSw;go_simp;try with_reducible rfl));try simp only[Act.put,Qq,Qn,Qo];refine wpAnyH_done (by kernel_rfl) ?_ _;go_wp2;go_meet;case rel=>exact⟨_,rfl,FN.1,FN.2⟩));try simp only[Act.put,Qq,Qn,Qo])
   | (have _:=hn;have _:=h3;refine wpAnyH_ready (rs:=[11]) (by kernel_rfl) (by simp) (AllReadyH.cons (o:=o5mc) rfl (λK hK=>(λ(m5:True)=>?_) trivial) AllReadyH.nil))
   | (have _:=hn;refine wpAnyH_ready (rs:=[10]) (by kernel_rfl) (by simp) (AllReadyH.cons (o:=o0mc) rfl (λK hK=>(λ(m0:True)=>?_) trivial) AllReadyH.nil))
   | (have _:=hm;have _:=h3;refine wpAnyH_ready (rs:=[6]) (by kernel_rfl) (by simp) (AllReadyH.cons (o:=o1mc) rfl (λK hK=>(λ(m1:True)=>?_) trivial) AllReadyH.nil))
   | (have _:=hm;refine wpAnyH_ready (rs:=[6,10]) (by kernel_rfl) (by simp) (AllReadyH.cons (o:=o1mc) rfl (λK hK=>(λ(m1:True)=>?_) trivial) (AllReadyH.cons (o:=o0mc) rfl (λK hK=>(λ(m0:True)=>?_) trivial) AllReadyH.nil)))
   | (have _:=hw;have _:=h3;refine wpAnyH_ready (rs:=[5]) (by kernel_rfl) (by simp) (AllReadyH.cons (o:=o7mc) rfl (λK hK=>(λ(m7:True)=>?_) trivial) AllReadyH.nil))
   | (have _:=hw;refine wpAnyH_ready (rs:=[5,10]) (by kernel_rfl) (by simp) (AllReadyH.cons (o:=o7mc) rfl (λK hK=>(λ(m7:True)=>?_) trivial) (AllReadyH.cons (o:=o0mc) rfl (λK hK=>(λ(m0:True)=>?_) trivial) AllReadyH.nil)))
   | (have _:=hf;have _:=h3;refine wpAnyH_ready (rs:=[3]) (by kernel_rfl) (by simp) (AllReadyH.cons (o:=o8mc) rfl (λK hK=>(λ(m8:True)=>?_) trivial) AllReadyH.nil))
   | (have _:=hf;refine wpAnyH_ready (rs:=[3,10]) (by kernel_rfl) (by simp) (AllReadyH.cons (o:=o8mc) rfl (λK hK=>(λ(m8:True)=>?_) trivial) (AllReadyH.cons (o:=o0mc) rfl (λK hK=>(λ(m0:True)=>?_) trivial) AllReadyH.nil)))
   | (have _:=h3;refine wpAnyH_ready (rs:=[2]) (by kernel_rfl) (by simp) (AllReadyH.cons (o:=o9mc) rfl (λK hK=>(λ(m9:True)=>?_) trivial) AllReadyH.nil))
   | (refine wpAnyH_ready (rs:=[2,10]) (by kernel_rfl) (by simp) (AllReadyH.cons (o:=o9mc) rfl (λK hK=>(λ(m9:True)=>?_) trivial) (AllReadyH.cons (o:=o0mc) rfl (λK hK=>(λ(m0:True)=>?_) trivial) AllReadyH.nil))))
 case rest =>
  obtain⟨N,rfl,hb,ho⟩:=hcut;have B9:=Qa hb;have O9:=Qa (O5.o.same ho);clear hb ho;go_wp2_with (first|(refine wpList_load_row rfl 173 (.tmp 8) rfl N rfl 173 TT.toArray (0,0) _ B9.o underlying173 rfl h7.o.2.1 ?_));refine (TA.o wc).mono ?_;rintro e w9 ⟨v,rfl,h6,o9⟩;have F1:Hid (w9.ownsRow w.heap.size 5 1 v 16 (bl (Kf key xs))∧N0 w w9):=⟨Qr h6 O9.o.size,O9.o.same o9⟩;clear h6 o9 TA;go_wp2;go_ret2;exact⟨_,rfl,F1.o⟩
def ME (key:LI):Int:=if key.length=32 then 0 else 1
theorem JF (vk vn:Value) (key nonce:LI) (h:KN key nonce) (k8:U8 key) (n8:U8 nonce) (w:World) (bk:Bs .u8 w vk key) (bn:Bs .u8 w vn nonce) :
 Calls prog 83 #[vk,vn] w λe w'=>∃v,e=.returned (.tuple #[v,.int .i64 0])∧Bs .u8 w' v (Ww key nonce)∧NoCap v∧N0 w w':=by
 have A:=Qa (Po vk vn key nonce 0 (by decide) k8 n8 w bk bn);rw[show VM key nonce=0 from if_pos h,show Xq key 0 nonce=Yi key 0 nonce from if_pos h,show ((0:Nat):Int)=0 from rfl] at A;clear bk bn k8 n8 h;go_enter func83,ntmps83;go_wp2_with fail;refine A.o.mono ?_;rintro e w1 ⟨v,rfl,b1,h0,o1⟩;obtain⟨ao,cap,rfl,hc⟩:=b1.formN (Kj _ _ _)
 have hc1:(32:Int)<=(cap:Int):=by omega
 have F1:Hid (Bs .u8 w1 (.slice ao 32 cap) (Ww key nonce)∧NoCap (.slice ao 32 cap)∧N0 w w1):=⟨b1.head (by decide),h0.cut 32,o1⟩;clear b1 h0 o1 A;go_wp2;go_ret2;exact⟨_,rfl,F1.o⟩
theorem zi (vk vn:Value) (key nonce:LI) (h:¬KN key nonce) (k8:U8 key) (n8:U8 nonce) (w:World) (bk:Bs .u8 w vk key) (bn:Bs .u8 w vn nonce) :
 Calls prog 83 #[vk,vn] w λe w'=>e=.returned (.tuple #[.slice none 0 0,.int .i64 1])∧N0 w w':=by
 have A:=Qa (Po vk vn key nonce 0 (by decide) k8 n8 w bk bn);rw[show VM key nonce=1 from if_neg h,show ((0:Nat):Int)=0 from rfl] at A;clear bk bn k8 n8 h;go_enter func83,ntmps83;go_wp2_with fail;refine A.o.mono ?_;rintro e w1 ⟨v,rfl,b1,nc1,o1⟩;have F1:=Qa o1;clear b1 nc1 o1 A;go_wp2;go_ret2;exact⟨rfl,F1.o⟩
theorem Xy (n:Nat) (h:n<=100000000000):fitsC 1 n:=by unfold fitsC;omega
theorem Dl {key nonce:LI} (h:KN key nonce) {n:Nat} (hf:fitsC 1 n):WE key 1 nonce n=0:=by unfold WE;rw[if_pos h,if_pos hf]
theorem SR1L {key nonce xs:LI} (h:KN key nonce) (hf:fitsC 1 xs.length):Wp key 1 nonce xs=Ya key 1 nonce xs:=by unfold Wp;rw[if_pos h,if_pos hf]
theorem zw (vk vn va vp:Value) (key nonce ad p:LI) (h:KN key nonce) (k8:U8 key) (n8:U8 nonce) (a8:U8 ad) (p8:U8 p) (la:ad.length<=100000000000) (lp:p.length<=100000000000) (w:World) (bk:Bs .u8 w vk key) (bn:Bs .u8 w vn nonce) (ba:Bs .u8 w va ad) (na:NoCap va) (bp:Bs .u8 w vp p) :
 Calls prog 50 #[vk,vn,va,vp] w λe w'=>∃v,e=.returned (.tuple #[v,.int .i64 0])∧w'.ownsRow w.heap.size 5 1 v (p.length+16) (bl (YJ key nonce ad p))∧N0 w w':=by
 obtain⟨i0,hi,hz0,hz1,hz2⟩:=info_parts Tryz.infoU8;have T:=Qa (JF vk vn key nonce h k8 n8 w bk bn);have S:=Qa (λW (o:N0 w W)=>DY vk vn vp key nonce p 1 (by decide) k8 n8 p8 (by omega) W (bk.past o) (bn.past o) (bp.past o));simp only[Dl h (Xy _ lp),SR1L h (Xy _ lp),YQ,show ((1:Nat):Int)=1 from rfl] at S;have HA:=Qa (And.intro ba (And.intro na (And.intro a8 la)));obtain⟨ao,ac,rfl⟩:=ba.len;obtain⟨C,hC⟩:=EX (Ya key 1 nonce p);simp only[<-hC] at S
 have C8:Hid (U8 C∧C.length=p.length∧YJ key nonce ad p=C++UY key nonce ad C):=by
  refine⟨?_,?_,?_⟩
  ·rw[hC];exact Lh _ _ _ _ p8
  ·rw[hC,YQ]
  ·rw[hC];rfl
 obtain⟨n,hn⟩:=EX p.length;rw[<-hn] at C8 S lp ⊢;clear bk bn ba na bp k8 n8 a8 p8 h la hC hn;go_enter func50,ntmps50;go_wp2_with fail;refine T.o.mono ?_;rintro e w1 ⟨v1,rfl,b1,nc1,o1⟩;have B1:=Qa b1;have O1:=Qa o1;clear b1 nc1 o1 T;go_wp2_with fail;refine (S.o w1 O1.o).mono ?_;rintro e w2 ⟨v2,rfl,h0,o2⟩;have B2:=Qa (B1.o.past o2);have O2:=Qa (O1.o.same o2);obtain⟨co,cc,rfl⟩:=QJ h0;have W2:=Qa h0;have Z2:=Qa o2.size;have Z1:=Qa O1.o.size
 have M:Hid (∀W:World,N0 w2 W->W=w2.alloc (.cells #[.slice ao ad.length ac,.slice co n cc] 22)->Calls prog 86 #[.slice (some ⟨w2.heap.size,0,none⟩) 2 2] W λe w'=>∃v,e=.returned v∧w'.ownsRow W.heap.size 5 1 v (Ur ad C).length (bl (Ur ad C))∧N0 W w'):=λW o e=>by
  subst e;exact Lg w2.heap.size _ _ ad C _ (Blk.new w2 22 [_,_]) (HA.o.1.past (O2.o.same o)) HA.o.2.1 HA.o.2.2.2 (Bs.of_own (k:=.u8) (E:=5) (lo:=w1.heap.size) (by rw[C8.o.2.1];exact o.own h0 (λ_ _ f=>f))) (NoCap.of_own h0) (by rw[C8.o.2.1];exact lp)
 have oa:=(Only.refl (λ_=>False) w2).alloc (.cells #[.slice ao ad.length ac,.slice co n cc] 22);have M2:=Qa (M.o _ oa rfl);obtain⟨m,hm⟩:=EX ad.length;rw[<-hm] at M2 oa ⊢;have OA:=Qa oa;clear h0 o2 S O1 B1 M oa hm;go_wp2_with fail;refine M2.o.mono ?_;rintro e w3 ⟨v3,rfl,h6,o3⟩;have O3:=Qa (OA.o.same o3)
 have P:=Qa (Dh v1 v3 (Ww key nonce) (Ur ad C) (Te _ _) (Tl _ _) (SW ad C HA.o.2.2.1 C8.o.1) (by
  have h1:=Lo ad C;have h2:=HA.o.2.2.2;have h3:=C8.o.2.1
  omega) w3 (B2.o.past O3.o) (Bs.of_own (k:=.u8) (E:=5) h6))
 clear h6 o3 M2 OA B2;go_wp2_with fail;refine P.o.mono ?_;rintro e w4 ⟨v4,rfl,h4,o4⟩;have O4:=Qa (O3.o.same o4);have W4:Hid (w4.ownsRow w1.heap.size 5 1 (.slice co n cc) n (bl C)):=O4.o.own W2.o (λ_ _ f=>f);have B4:Hid (Bs .u8 w4 v4 (UY key nonce ad C)∧NoCap v4):=⟨Bs.of_own (k:=.u8) (E:=5) (lo:=w3.heap.size) (by rw[Kl];exact h4),NoCap.of_own h4⟩;have hle:w1.heap.size<=w4.heap.size:=Nat.le_trans Z2.o O4.o.size;clear h4 o4 P O3;go_wp2_with (at_builtin;refine Yr _ rfl _ _ 22 rfl w1.heap.size 5 i0 (.int .u8 0) 1 underlying22 hi hz0 hz1 hz2 rfl (.slice co n cc) n (bl C) rfl W4.o .u8 v4 (UY key nonce ad C) rfl B4.o.1 B4.o.2 (by rw[Kl];unfold maxLen;omega) (by rw[Kl];omega) hle ?_;intro v5 w5 hown5 hgrow5 hnil5 hob5)
 have F1:Hid (w5.ownsRow w.heap.size 5 1 v5 (n+16) (bl (YJ key nonce ad p))∧N0 w w5):=by
  refine⟨Qr ?_ Z1.o,(O2.o.same O4.o).grown hgrow5 (λj hj e=>by have:=(W4.o.lt j e).1;have:=Z1.o;omega)⟩;have h5:=hown5;rw[Kl] at h5;rw[C8.o.2.2,DO];exact h5
 clear hown5 hgrow5 hnil5 hob5 W4 B4 O4;go_wp2;go_ret2;exact⟨_,rfl,F1.o⟩
def Wb (key nonce ad s:LI):LI:=if KN key nonce then (if 16<=s.length then (if Y7 key nonce ad s then Wf key nonce s else []) else []) else []
def Wz (key nonce ad s:LI):Int:=if KN key nonce then (if 16<=s.length then (if Y7 key nonce ad s then 0 else 5) else 2) else 1
theorem yE (vk vn va vs:Value) (key nonce:LI) (h:¬KN key nonce) (k8:U8 key) (n8:U8 nonce) (w:World) (bk:Bs .u8 w vk key) (bn:Bs .u8 w vn nonce) :
 Calls prog 74 #[vk,vn,va,vs] w λe w'=>e=.returned (.tuple #[.slice none 0 0,.int .i64 1])∧N0 w w':=by
 have T:=Qa (zi vk vn key nonce h k8 n8 w bk bn);clear bk bn k8 n8 h;go_enter func74,ntmps74;go_wp2_with fail;refine T.o.mono ?_;rintro e w1 ⟨rfl,o1⟩;have F1:=Qa o1;clear o1 T;go_wp2;go_ret2;exact⟨rfl,F1.o⟩
theorem j9 (vk vn va:Value) (so:Option Addr) (n sc:Nat) (hn:n<16) (key nonce:LI) (h:KN key nonce) (k8:U8 key) (n8:U8 nonce) (w:World) (bk:Bs .u8 w vk key) (bn:Bs .u8 w vn nonce) :
 Calls prog 74 #[vk,vn,va,.slice so n sc] w λe w'=>e=.returned (.tuple #[.slice none 0 0,.int .i64 2])∧N0 w w':=by
 have T:=Qa (JF vk vn key nonce h k8 n8 w bk bn)
 have h1:(n:Int) - 16<0:=by omega
 clear bk bn k8 n8 h;go_enter func74,ntmps74;go_wp2_with fail;refine T.o.mono ?_;rintro e w1 ⟨v1,rfl,b1,nc1,o1⟩;have F1:=Qa o1;clear o1 T b1 nc1;go_wp2;go_ret2;exact⟨rfl,F1.o⟩
theorem rz (vk vn va vs:Value) (key nonce ad s:LI) (h:KN key nonce) (h16:16<=s.length) (k8:U8 key) (n8:U8 nonce) (a8:U8 ad) (s8:U8 s) (la:ad.length<=100000000000) (ls:s.length<=100000000000) (w:World) (bk:Bs .u8 w vk key) (bn:Bs .u8 w vn nonce) (ba:Bs .u8 w va ad) (na:NoCap va) (bs:Bs .u8 w vs s) (ns:NoCap vs) :
 Calls prog 74 #[vk,vn,va,vs] w λe w'=>∃v,e=.returned (.tuple #[v,.int .i64 (if Y7 key nonce ad s then 0 else 5)])∧w'.ownsRow w.heap.size 5 1 v (if Y7 key nonce ad s then Wf key nonce s else []).length (bl (if Y7 key nonce ad s then Wf key nonce s else []))∧N0 w w':=by
 have T:=Qa (JF vk vn key nonce h k8 n8 w bk bn);obtain⟨q,hq⟩:=EX (s.length - 16);obtain⟨C,hC⟩:=EX (s.take q);obtain⟨R,hR⟩:=EX (s.drop q)
 have h9:C.length=q:=by rw[hC,Qg];omega
 have hRl:R.length=16:=by rw[hR,Qm];omega
 have C8:U8 C:=by rw[hC];exact s8.take _
 have R8:U8 R:=by rw[hR];exact s8.drop _
 have h6:Hid (Y7 key nonce ad s↔UY key nonce ad C=R):=by
  show _↔_
  unfold Y7;rw[<-hq,<-hC,<-hR]
 have h7:Hid (Wf key nonce s=Ya key 1 nonce C):=by
  show _=_
  unfold Wf;rw[<-hq,<-hC]
 obtain⟨E,hE⟩:∃E:Int,E=if Y7 key nonce ad s then 0 else 5:=⟨_,rfl⟩
 obtain⟨L,hL⟩:∃L:LI,L=if Y7 key nonce ad s then Wf key nonce s else []:=⟨_,rfl⟩
 rw[<-hE,<-hL];have HE:=Qa hE;have HL:=Qa hL;clear hE hL
 obtain⟨so,n,sc,hv,hsc⟩:∃so n sc,vs=.slice so n sc∧n=s.length:=by
  obtain⟨so,sc,e⟩:=bs.len;exact⟨so,s.length,sc,e,rfl⟩
 subst hv
 obtain⟨g,off,rfl⟩:∃g off,so=some ⟨g,off,none⟩:=by
  obtain⟨g,off,c,e,_⟩:=bs.at 0 (by omega);simp at e;exact⟨g,off,e.1⟩
 have h8:n<=sc:=bs.room
 have bC:Bs .u8 w (.slice (some ⟨g,off,none⟩) q sc) C:=by rw[hC];exact bs.head (by omega)
 have bR:Bs .u8 w (.slice (some ⟨g,off+q,none⟩) 16 (sc - q)) R:=by
  have:=bs.cut (n:=q) (by omega);rw[<-hR,show n - q=16 by omega] at this
  simpa [Addr.add_lit] using this
 have S:=Qa (λW (o:N0 w W)=>DY vk vn _ key nonce C 1 (by decide) k8 n8 C8 (by omega) W (bk.past o) (bn.past o) (bC.past o));simp only[Dl h (Xy _ (show C.length<=100000000000 by omega)),SR1L h (Xy _ (show C.length<=100000000000 by omega)),show ((1:Nat):Int)=1 from rfl] at S;have HA:=Qa (And.intro ba (And.intro na (And.intro a8 la)));have HC:=Qa (And.intro bC (And.intro h9 C8));have HR:=Qa (And.intro bR R8);obtain⟨ao,ac,rfl⟩:=ba.len
 have hsub:(n:Int) - 16=(q:Int):=by omega
 have c1:(q:Int)<=(sc:Int):=by omega
 have c2:(q:Int)<=(n:Int):=by omega
 have c0:(0:Int)<=(q:Int):=by omega
 have c3:¬sc=q:=by omega
 have hnq:n - q=16:=by omega
 have hql:q<=100000000000:=by omega
 clear bk bn ba na bs ns k8 n8 a8 s8 h la hC hR hq hsc h16 h9 hRl C8 R8 bC bR ls h8;go_enter func74,ntmps74;go_wp2_with fail;refine T.o.mono ?_;rintro e w1 ⟨v1,rfl,b1,nc1,o1⟩;have B1:=Qa b1;have O1:=Qa o1;have oa:=(Only.refl (λ_=>False) w1).alloc (.cells #[.slice ao ad.length ac,.slice (some ⟨g,off,none⟩) q sc] 22);have M2:=Qa (Lg w1.heap.size _ _ ad C _ (Blk.new w1 22 [.slice ao ad.length ac,.slice (some ⟨g,off,none⟩) q sc]) (HA.o.1.past (o1.same oa)) HA.o.2.1 HA.o.2.2.2 (HC.o.1.past (o1.same oa)) (NoCap.some _ _ _) (by rw[HC.o.2.1];exact hql));obtain⟨m,hm⟩:=EX ad.length;rw[<-hm] at M2 oa ⊢;have OA:=Qa oa;clear b1 nc1 o1 T oa hm;go_wp2_with fail;refine M2.o.mono ?_;rintro e w3 ⟨v3,rfl,h4,o3⟩;have O3:=Qa (O1.o.same (OA.o.same o3))
 have P:=Qa (Dh v1 v3 (Ww key nonce) (Ur ad C) (Te _ _) (Tl _ _) (SW ad C HA.o.2.2.1 HC.o.2.2) (by
  have h1:=Lo ad C;have h2:=HA.o.2.2.2;have h3:=HC.o.2.1
  omega) w3 (B1.o.past (OA.o.same o3)) (Bs.of_own (k:=.u8) (E:=5) h4))
 clear h4 o3 M2 OA B1 O1;go_wp2_with fail;refine P.o.mono ?_;rintro e w4 ⟨v4,rfl,h5,o4⟩;have O4:=Qa (O3.o.same o4);have H:=Qa (MO v4 (.slice (some ⟨g,off+q,none⟩) 16 (sc - q)) (UY key nonce ad C) R w4 (Bs.of_own (k:=.u8) (E:=5) (lo:=w3.heap.size) (by rw[Kl];exact h5)) (HR.o.1.past O4.o) (Nf _ _ _ _) HR.o.2 (by rw[Kl];decide));clear h5 o4 P O3
 by_cases hok:Y7 key nonce ad s
 ·rw[Qc (h6.o.1 hok)] at H
  have hE:=HE.o;have hL:=HL.o;rw[if_pos hok] at hE hL;rw[h7.o] at hL;subst hE;subst hL;clear hok HE HL h6 h7;go_wp2_with fail;refine H.o.mono ?_;rintro e w5 ⟨rfl,o5⟩;have O5:=Qa (O4.o.same o5);have Z:=Qa O5.o.size;clear o5 H O4;go_wp2_with fail;refine (S.o w5 O5.o).mono ?_;rintro e w6 ⟨v6,rfl,h0,o6⟩;have F1:Hid (w6.ownsRow w.heap.size 5 1 v6 (Ya key 1 nonce C).length (bl (Ya key 1 nonce C))∧N0 w w6):=⟨Qr h0 Z.o,O5.o.same o6⟩;clear h0 o6 S;go_wp2;go_ret2;exact⟨_,rfl,F1.o⟩
 ·rw[Qh (λe=>hok (h6.o.2 e))] at H
  have hE:=HE.o;have hL:=HL.o;rw[if_neg hok] at hE hL;subst hE;subst hL;clear hok HE HL h6 h7;go_wp2_with fail;refine H.o.mono ?_;rintro e w5 ⟨rfl,o5⟩;have O5:=Qa (O4.o.same o5);clear o5 H O4 S;go_wp2;go_ret2;exact⟨_,rfl,World.ownsRow_nil ..,O5.o⟩
theorem uS (vk vn va vs:Value) (key nonce ad s:LI) (k8:U8 key) (n8:U8 nonce) (a8:U8 ad) (s8:U8 s) (la:ad.length<=100000000000) (ls:s.length<=100000000000) (w:World) (bk:Bs .u8 w vk key) (bn:Bs .u8 w vn nonce) (ba:Bs .u8 w va ad) (na:NoCap va) (bs:Bs .u8 w vs s) (ns:NoCap vs) :
 Calls prog 74 #[vk,vn,va,vs] w λe w'=>∃v,e=.returned (.tuple #[v,.int .i64 (Wz key nonce ad s)])∧w'.ownsRow w.heap.size 5 1 v (Wb key nonce ad s).length (bl (Wb key nonce ad s))∧N0 w w':=by
 by_cases h:KN key nonce
 ·by_cases h16:16<=s.length
  ·have e1:Wz key nonce ad s=if Y7 key nonce ad s then 0 else 5:=by unfold Wz;rw[if_pos h,if_pos h16]
   have e2:Wb key nonce ad s=if Y7 key nonce ad s then Wf key nonce s else []:=by unfold Wb;rw[if_pos h,if_pos h16]
   rw[e1,e2];exact rz vk vn va vs key nonce ad s h h16 k8 n8 a8 s8 la ls w bk bn ba na bs ns
  ·have e1:Wz key nonce ad s=2:=by unfold Wz;rw[if_pos h,if_neg h16]
   have e2:Wb key nonce ad s=[]:=by unfold Wb;rw[if_pos h,if_neg h16]
   rw[e1,e2];obtain⟨so,sc,rfl⟩:=bs.len;exact (j9 vk vn va so s.length sc (by omega) key nonce h k8 n8 w bk bn).mono (λ_ _ ⟨h1,h2⟩=>⟨_,h1,World.ownsRow_nil ..,h2⟩)
 ·rw[show Wz key nonce ad s=1 from if_neg h,show Wb key nonce ad s=[] from if_neg h]
  exact (yE vk vn va vs key nonce h k8 n8 w bk bn).mono (λ_ _ ⟨h1,h2⟩=>⟨_,h1,World.ownsRow_nil ..,h2⟩)
end Go.Proofs.YteciafpneamfaaaGreatDoor
