import Derived.Test.YtoflhbghdlaeaaaGreatDoorG27
import Derived.Test.YtoflhbghdlaeaaaGreatDoorG8
namespace Go.Proofs.YtoflhbghdlaeaaaGreatDoor
set_option maxHeartbeats 1600000
set_option maxRecDepth 100000
open Go.RowKit _root_.Go.Proofs.Tryz
theorem Af {W5 W:World} (_o:N0 W5 W):Blk (W.alloc (.cells z5.toArray 213)) W.heap.size 213 z5:=Blk.new W 213 z5
abbrev o0mc : Oper:={ dst:=some 8,op:=Op.alloc 213,type:=0,pos:="poly.go:27",after:=#[],guard:=none }
abbrev o1mc : Oper:={ dst:=some 26,op:=Op.call { callee:=Callee.value (Operand.func 166),args:=#[Operand.tmp 25],argTypes:=#[213] },type:=215,pos:="poly.go:27",after:=#[{ on:=5,ground:=Ground.data },{ on:=5,ground:=Ground.chain }],guard:=none }
abbrev o2mc : Oper:={ dst:=some 19,op:=Op.move (Operand.tmp 26),type:=215,pos:="poly.go:27",after:=#[{ on:=6,ground:=Ground.data }],guard:=none }
abbrev o3mc : Oper:={ dst:=some 27,op:=Op.extract (Operand.tmp 19) 0,type:=213,pos:="poly.go:27",after:=#[{ on:=7,ground:=Ground.data }],guard:=none }
abbrev o4mc : Oper:={ dst:=some 28,op:=Op.extract (Operand.tmp 19) 1,type:=24,pos:="poly.go:27",after:=#[{ on:=7,ground:=Ground.data },{ on:=11,ground:=Ground.gcOnly Departure.lateStores }],guard:=none }
abbrev o5mc : Oper:={ dst:=none,op:=Op.store 213 (Operand.tmp 8) (Operand.tmp 27),type:=0,pos:="poly.go:27",after:=#[{ on:=10,ground:=Ground.data },{ on:=8,ground:=Ground.data },{ on:=6,ground:=Ground.chain },{ on:=0,ground:=Ground.phase },{ on:=1,ground:=Ground.phase },{ on:=2,ground:=Ground.phase },{ on:=3,ground:=Ground.phase },{ on:=4,ground:=Ground.phase },{ on:=5,ground:=Ground.phase },{ on:=6,ground:=Ground.phase },{ on:=7,ground:=Ground.phase },{ on:=8,ground:=Ground.phase },{ on:=9,ground:=Ground.textOnly Departure.lateStores },{ on:=10,ground:=Ground.phase }],guard:=none }
abbrev o6mc : Oper:={ dst:=some 9,op:=Op.assign (Operand.tmp 28),type:=24,pos:="poly.go:27",after:=#[{ on:=9,ground:=Ground.data },{ on:=11,ground:=Ground.chain },{ on:=0,ground:=Ground.phase },{ on:=1,ground:=Ground.phase },{ on:=2,ground:=Ground.phase },{ on:=3,ground:=Ground.phase },{ on:=4,ground:=Ground.phase },{ on:=5,ground:=Ground.phase },{ on:=6,ground:=Ground.phase },{ on:=7,ground:=Ground.phase },{ on:=8,ground:=Ground.phase },{ on:=9,ground:=Ground.phase },{ on:=10,ground:=Ground.phase },{ on:=11,ground:=Ground.phase }],guard:=none }
abbrev o7mc : Oper:={ dst:=some 25,op:=Op.call { callee:=Callee.value (Operand.func 167),args:=#[Operand.tmp 23,Operand.tmp 24],argTypes:=#[213,213] },type:=213,pos:="poly.go:27",after:=#[{ on:=3,ground:=Ground.data },{ on:=4,ground:=Ground.data },{ on:=3,ground:=Ground.chain }],guard:=none }
abbrev o8mc : Oper:={ dst:=some 23,op:=Op.call { callee:=Callee.value (Operand.func 168),args:=#[Operand.tmp 22],argTypes:=#[213] },type:=213,pos:="poly.go:27",after:=#[{ on:=2,ground:=Ground.data },{ on:=2,ground:=Ground.chain }],guard:=none }
abbrev o9mc : Oper:={ dst:=some 22,op:=Op.call { callee:=Callee.value (Operand.func 169),args:=#[Operand.tmp 20,Operand.tmp 21],argTypes:=#[23,213] },type:=213,pos:="poly.go:27",after:=#[{ on:=0,ground:=Ground.data },{ on:=1,ground:=Ground.data }],guard:=none }
theorem kQ (vk vb:Value) (key xs:LI) (hk:key.length=32) (k8:U8 key) (x8:U8 xs) (hl:xs.length<=1000000000000) (w:World) (bk:Bs .u8 w vk key) (bb:Bs .u8 w vb xs) :
 Calls prog 120 #[vk,vb] w λe w'=>∃v,e=.returned (.tuple #[v,.int .i64 0])∧w'.ownsRow w.heap.size 5 1 v 16 (bl (WU key xs))∧N0 w w':=by
 have hzv:=(zero_of_info (P:=prog) Tryz.zero34).1;obtain⟨Z,hZ⟩:=EX z5;rw[<-hZ] at hzv;have HZ:=Qa hZ;obtain⟨ao,kc,rfl⟩:=bk.len;rw[hk] at bk ⊢
 have hkc:32<=kc:=by
  obtain⟨_,_,e,h,_⟩:=bk;simp at e;omega
 have h4:(key.take 16).length=16:=by rw[Qf,hk];rfl
 have h8:(key.drop 16).length=16:=by rw[Qo,hk]
 have MU:=Qa (kL _ (key.take 16) h4 (k8.take 16) w (bk.head (n:=16) (by decide)));have NU:=Qa (λW (o:N0 w W)=>J4 _ (key.drop 16) (by rw[h8];decide) (k8.drop 16) W ((bk.cut (n:=16) (by decide)).past o));obtain⟨r,hr⟩:=EX (nmb (c2 (key.take 16) 3));obtain⟨s,hs⟩:=EX (nmb (key.drop 16))
 have h2:r.length=5∧LB 67108864 r:=by rw[hr];exact⟨Uq _,KY _⟩
 have h1:s.length=5∧LB 67108864 s:=by rw[hs];exact⟨Uq _,KY _⟩
 have h9:=yy key xs hk k8 x8;rw[<-hr] at MU h9;rw[<-hs] at NU h9;have GA:=Qa (λW (o:N0 w W)=>uO vb xs hl x8 r h2.1 h2.2 W (bb.past o));obtain⟨g,hg⟩:=EX (gth r xs ((xs.length+15) / 16))
 have ha:g.length=5∧LB 67108864 g:=by rw[hg];exact⟨U6 _ _ _,J1 _ _ h2.2 _⟩
 rw[<-hg] at GA h9;have LE:=Qa (λ(W:World)=>qn g ha.1 ha.2 W);have lp:=Zq (C:=9223372036854775808) (Rw g) h1.2 (by decide);have PL:=Qa (λ(W:World)=>Ji (lst g) s (VO g ha.1) h1.1 ((Rw g).mono (by decide)) (h1.2.mono (by decide)) W);have SE:=Qa (λ(W:World)=>Vn (pls (lst g) s) (Yw _ _) lp W);have TA:=Qa (λ(W:World)=>Ss (sdg (pls (lst g) s) 0) (by rw[YF,Yw]) (Wi _ _) W);rw[h9] at TA
 have HD:Hid ((prog.info? 213).map (·.size)=some (ul r).toArray.size∧Z.toArray.size=(ul r).toArray.size∧(ul r).toArray.all (·.oneCell')=true∧(prog.info? 213).map (·.size)=some (ul s).toArray.size∧Z.toArray.size=(ul s).toArray.size∧(ul s).toArray.all (·.oneCell')=true):=by
  rw[hZ];exact⟨YJ _ h2.1,by simp[QS,h2.1,Uz],Y9 _,YJ _ h1.1,by simp[QS,h1.1,Uz],Y9 _⟩
 obtain⟨RR,hd⟩:=EX (ul r);obtain⟨SS,he⟩:=EX (ul s);rw[<-hd,<-he] at HD;rw[<-hd] at MU GA;rw[<-he] at NU PL
 have i1:¬(kc:Int)=16:=by omega
 have i2:(32:Int)<=(kc:Int):=by omega
 have i3:(16:Int)<=(kc:Int):=by omega
 have i4:¬kc=16:=by omega
 obtain⟨TT,h0⟩:=EX (ul (sdg (pls (lst g) s) 0))
 have TL:Hid ((sdg (pls (lst g) s) 0).length=5):=by
  show _=_
  rw[YF,Yw]
 obtain⟨GG,ht⟩:=EX (ul g);obtain⟨LG,hm⟩:=EX (ul (lst g));obtain⟨PG,hv⟩:=EX (ul (pls (lst g) s));obtain⟨tc,hh⟩:=EX (scy (pls (lst g) s) 0);rw[<-ht] at GA LE;rw[<-hm] at LE PL;rw[<-hv] at PL SE;rw[<-h0,<-hh] at SE;rw[<-h0] at TA;clear ht hm hv hh
 have HL:Hid (RR.length=5∧SS.length=5):=by rw[hd,he,QS,QS];exact⟨h2.1,h1.1⟩
 clear h4 h8 hr hs h9 hg ha lp hd he h2 h1 hZ;go_enter func120,ntmps120;go_wp2_with fail;refine MU.o.mono ?_;rintro e w1 ⟨rfl,o1⟩;have h6:Hid (N0 w ((w1.alloc (.cells Z.toArray 213)).setRow w1.heap.size RR.toArray)):=o1.same (((Only.refl _ _).alloc _).setRow (λh=>absurd h (Nat.lt_irrefl _)) _);have B2:Hid (Blk ((w1.alloc (.cells Z.toArray 213)).setRow w1.heap.size RR.toArray) w1.heap.size 213 RR):=(Blk.new w1 213 Z).row RR;go_wp2_with (first|(refine wpList_store_row rfl 213 (.tmp 6) (.tmp 15) rfl w1.heap.size RR.toArray rfl rfl 213 Z.toArray (Blk.new w1 213 Z) HD.o.1 HD.o.2.1 HD.o.2.2.1 ?_));obtain⟨RB,hu⟩:=EX w1.heap.size;rw[<-hu] at h6 B2 ⊢;obtain⟨W2,hj⟩:=EX ((w1.alloc (.cells Z.toArray 213)).setRow RB RR.toArray);rw[<-hj] at h6 B2 ⊢;clear hj hu MU o1;refine (NU.o W2 h6.o).mono ?_;rintro e w3 ⟨rfl,o3⟩;have o4:N0 W2 ((w3.alloc (.cells Z.toArray 213)).setRow w3.heap.size SS.toArray):=o3.same (((Only.refl _ _).alloc _).setRow (λh=>absurd h (Nat.lt_irrefl _)) _);have K5:Hid (Blk ((w3.alloc (.cells Z.toArray 213)).setRow w3.heap.size SS.toArray) RB 213 RR∧Blk ((w3.alloc (.cells Z.toArray 213)).setRow w3.heap.size SS.toArray) w3.heap.size 213 SS∧N0 w ((w3.alloc (.cells Z.toArray 213)).setRow w3.heap.size SS.toArray)):=⟨B2.o.past o4,(Blk.new w3 213 Z).row SS,h6.o.same o4⟩;go_wp2_with (first|(refine wpList_store_row rfl 213 (.tmp 7) (.tmp 18) rfl w3.heap.size SS.toArray rfl rfl 213 Z.toArray (Blk.new w3 213 Z) HD.o.2.2.2.1 HD.o.2.2.2.2.1 HD.o.2.2.2.2.2 ?_));obtain⟨SB,hp⟩:=EX w3.heap.size;rw[<-hp] at K5 ⊢;obtain⟨W5,hn⟩:=EX ((w3.alloc (.cells Z.toArray 213)).setRow SB SS.toArray);rw[<-hn] at K5 ⊢;clear hn hp NU o3 o4 B2 h6
 -- BYHAND
 have h5:Hid (0+TT.toArray.size<=z5.length∧(prog.info? 213).map (·.size)=some TT.toArray.size∧TT.toArray.all (·.oneCell')=true∧TT.length=5):=by
  rw[h0];refine⟨?_,YJ _ TL.o,Y9 _,by rw[QS];exact TL.o⟩;rw[List.size_toArray,QS,TL.o];decide
 have FIN:Hid (∀W N,N0 W5 W->Blk W N 213 z5->W5.heap.size<=N->Blk (W.setCells N 0 TT.toArray.toList) N 213 TT∧N0 W5 (W.setCells N 0 TT.toArray.toList)):=λW N o b hN=>by
  refine⟨?_,Only.setCells (S:=λ_=>False) (λh=>absurd h (by omega)) _ 0 W o⟩;exact b.setAll (by rw[h5.o.2.2.2];rfl)
 have rR:Hid (∀W,N0 W5 W->W.rangeAt RB 0 RR):=λW o=>by
  have:=Blk.range (a:=[]) (b:=RR) (c:=[]) (w:=W) (g:=RB) (t:=213) (by simpa using K5.o.1.past o)
  simpa using this
 have rS:Hid (∀W,N0 W5 W->W.rangeAt SB 0 SS):=λW o=>by
  have:=Blk.range (a:=[]) (b:=SS) (c:=[]) (w:=W) (g:=SB) (t:=213) (by simpa using K5.o.2.1.past o)
  simpa using this
 have iR:Hid ((prog.info? 213).map (·.size)=some RR.length∧(prog.info? 213).map (·.size)=some SS.length):=by rw[HL.o.1,HL.o.2];exact⟨Tryz.size34,Tryz.size34⟩
 have O5:=Qa K5.o.2.2
 have GS:Hid (∀W,N0 W5 W->Calls prog 169 #[vb,.agg RR.toArray] W λe w'=>e=.returned (.agg GG.toArray)∧(N0 W5 w'∧N0 W w')):=λW o=>(GA.o W (O5.o.same o)).mono λ_ w' (h:_∧_)=>⟨h.1,o.same h.2,h.2⟩
 have LS:Hid (∀W,N0 W5 W->Calls prog 168 #[.agg GG.toArray] W λe w'=>e=.returned (.agg LG.toArray)∧(N0 W5 w'∧N0 W w')):=λW o=>(LE.o W).mono λ_ w' (h:_∧_)=>⟨h.1,o.same h.2,h.2⟩
 have PS:Hid (∀W,N0 W5 W->Calls prog 167 #[.agg LG.toArray,.agg SS.toArray] W λe w'=>e=.returned (.agg PG.toArray)∧(N0 W5 w'∧N0 W w')):=λW o=>(PL.o W).mono λ_ w' (h:_∧_)=>⟨h.1,o.same h.2,h.2⟩
 have SS2:Hid (∀W,N0 W5 W->Calls prog 166 #[.agg PG.toArray] W λe w'=>e=.returned (.tuple #[.agg TT.toArray,.int .u64 (tc:Nat)])∧(N0 W5 w'∧N0 W w')):=λW o=>(SE.o W).mono λ_ w' (h:_∧_)=>⟨h.1,o.same h.2,h.2⟩
 clear GA LE PL SE h0;simp only[Act.put]
 go_cut [8] from 10 (λp W=>∃N,p=.pointer (some ⟨N,0,none⟩)∧Blk W N 213 TT∧N0 W5 W)
 case first =>
  refine wp_region_held_drew (S:=λW=>N0 W5 W) (by kernel_rfl) (Only.refl _ _).drew (λhH0=>?_)
  try simp only[Act.put,Qp,Qj,Qn]
  refine wpAnyH_take (i:=0) (oi:={ dst:=some 20,op:=Op.move (Operand.tmp 1),type:=23,pos:="poly.go:27",after:=#[],guard:=none }) (v:=?tv1) rfl (by kernel_rfl) (by kernel_rfl) (by kernel_rfl) (fun _ _ _ h => h) (Or.inl ⟨by rfl,?th1⟩) hH0 ?tr1
  case th1=>(intro w hSw;go_simp;try with_reducible rfl)
  try simp only[Act.put,Qp,Qj,Qn]
  refine wpAnyH_take (i:=1) (oi:={ dst:=some 21,op:=Op.load 213 (Operand.tmp 6),type:=213,pos:="poly.go:27",after:=#[],guard:=none }) (v:=.agg RR.toArray) rfl (by kernel_rfl) (by kernel_rfl) (by kernel_rfl) (fun _ _ _ h => h) (yieldsIf_load_mid (by rfl) 213 (.tmp 6) rfl RB 0 rfl RR _ (fun W h => rR.out W h) underlying213 rfl iR.out.1) hH0 ?_
  try simp only[Act.put,Qp,Qj,Qn]
  refine wpAnyH_take (i:=4) (oi:={ dst:=some 24,op:=Op.load 213 (Operand.tmp 7),type:=213,pos:="poly.go:27",after:=#[],guard:=none }) (v:=.agg SS.toArray) rfl (by kernel_rfl) (by kernel_rfl) (by kernel_rfl) (fun _ _ _ h => h) (yieldsIf_load_mid (by rfl) 213 (.tmp 7) rfl SB 0 rfl SS _ (fun W h => rS.out W h) underlying213 rfl iR.out.2) hH0 ?_
  try simp only[Act.put,Qp,Qj,Qn]
  have O:=hH0
  repeat' (first
   | ((first
    | (have _:=m9;clear m9;rw[if_pos (by rfl)];refine WV 169 #[.tmp 20,.tmp 21] #[23,213] rfl AI #[vb,.agg RR.toArray] (.agg GG.toArray) (by kernel_rfl) (GS.o _ O) ?_;rintro W ⟨O,P⟩;refine hK.out _ _ O (λ_=>?_);clear hK K;(try have BA:=BA.past P);have hf:=trivial)
    | (have _:=m8;clear m8;rw[if_pos (by rfl)];refine WV 168 #[.tmp 22] #[213] rfl qE #[.agg GG.toArray] (.agg LG.toArray) (by kernel_rfl) (LS.o _ O) ?_;rintro W ⟨O,P⟩;refine hK.out _ _ O (λ_=>?_);clear hK K;(try have BA:=BA.past P);have hq:=trivial)
    | (have _:=m7;clear m7;rw[if_pos (by rfl)];refine WV 167 #[.tmp 23,.tmp 24] #[213,213] rfl L3 #[.agg LG.toArray,.agg SS.toArray] (.agg PG.toArray) (by kernel_rfl) (PS.o _ O) ?_;rintro W ⟨O,P⟩;refine hK.out _ _ O (λ_=>?_);clear hK K;(try have BA:=BA.past P);have hw:=trivial)
    | (have _:=m1;clear m1;rw[if_pos (by rfl)];refine WV 166 #[.tmp 25] #[213] rfl Ev #[.agg PG.toArray] (.tuple #[.agg TT.toArray,.int .u64 (tc:Nat)]) (by kernel_rfl) (SS2.o _ O) ?_;rintro W ⟨O,P⟩;refine hK.out _ _ O (λ_=>?_);clear hK K;(try have BA:=BA.past P);have hx:=trivial;try simp only[Act.put,Qp,Qj,Qn];refine wpAnyH_take (i:=7) (oi:=o2mc) (v:=?_) rfl (by kernel_rfl) (by kernel_rfl) (by kernel_rfl) (λ_ _ _ h=>h) (Or.inl ⟨by rfl,?_⟩) O ?_;rotate_left;(focus (intro w hSw;go_simp;try with_reducible rfl));try simp only[Act.put,Qp,Qj,Qn];refine wpAnyH_take (i:=8) (oi:=o3mc) (v:=?_) rfl (by kernel_rfl) (by kernel_rfl) (by kernel_rfl) (λ_ _ _ h=>h) (Or.inl ⟨by rfl,?_⟩) O ?_;rotate_left;(focus (intro w hSw;go_simp;try with_reducible rfl));try simp only[Act.put,Qp,Qj,Qn];refine wpAnyH_take (i:=9) (oi:=o4mc) (v:=?_) rfl (by kernel_rfl) (by kernel_rfl) (by kernel_rfl) (λ_ _ _ h=>h) (Or.inl ⟨by rfl,?_⟩) O ?_;rotate_left;(focus (intro w hSw;go_simp;try with_reducible rfl));try simp only[Act.put,Qp,Qj,Qn])
    | (have _:=m0;clear m0;rw[if_pos (by rfl)];refine By rfl ?_;have BA:=Af O;have BN:=O.size;have O:=O.alloc (.cells z5.toArray 213);refine hK.out _ _ O (λ_=>?_);clear hK K;have h7:=trivial)
    | (have _:=m5;clear m5;rw[if_pos (by rfl)];refine wp_store_mid 213 (.tmp 8) (.tmp 27) rfl _ 0 TT.toArray rfl rfl (BA.there 0 _ h5.o.1) h5.o.2.1 h5.o.2.2.1 ?_;have FN:=FIN.o _ _ O BA BN;refine hK.out _ _ FN.2 (λhH=>?_);clear hK K;simp only[Act.put];refine wpAnyH_take (i:=12) (oi:=o6mc) (v:=?_) rfl (by kernel_rfl) (by kernel_rfl) (by kernel_rfl) (λ_ _ _ h=>h) (Or.inl ⟨by rfl,?_⟩) hH ?_;rotate_left;(focus (intro w hSw;go_simp;try with_reducible rfl));try simp only[Act.put,Qp,Qj,Qn];refine wpAnyH_done (by kernel_rfl) ?_ _;go_wp2;go_meet;case rel=>exact⟨_,rfl,FN.1,FN.2⟩));try simp only[Act.put,Qp,Qj,Qn])
   | (have _:=hx;have _:=h7;refine wpAnyH_ready (rs:=[11]) (by kernel_rfl) (by simp) (AllReadyH.cons (o:=o5mc) rfl (λK hK=>(λ(m5:True)=>?_) trivial) AllReadyH.nil))
   | (have _:=hx;refine wpAnyH_ready (rs:=[10]) (by kernel_rfl) (by simp) (AllReadyH.cons (o:=o0mc) rfl (λK hK=>(λ(m0:True)=>?_) trivial) AllReadyH.nil))
   | (have _:=hw;have _:=h7;refine wpAnyH_ready (rs:=[6]) (by kernel_rfl) (by simp) (AllReadyH.cons (o:=o1mc) rfl (λK hK=>(λ(m1:True)=>?_) trivial) AllReadyH.nil))
   | (have _:=hw;refine wpAnyH_ready (rs:=[6,10]) (by kernel_rfl) (by simp) (AllReadyH.cons (o:=o1mc) rfl (λK hK=>(λ(m1:True)=>?_) trivial) (AllReadyH.cons (o:=o0mc) rfl (λK hK=>(λ(m0:True)=>?_) trivial) AllReadyH.nil)))
   | (have _:=hq;have _:=h7;refine wpAnyH_ready (rs:=[5]) (by kernel_rfl) (by simp) (AllReadyH.cons (o:=o7mc) rfl (λK hK=>(λ(m7:True)=>?_) trivial) AllReadyH.nil))
   | (have _:=hq;refine wpAnyH_ready (rs:=[5,10]) (by kernel_rfl) (by simp) (AllReadyH.cons (o:=o7mc) rfl (λK hK=>(λ(m7:True)=>?_) trivial) (AllReadyH.cons (o:=o0mc) rfl (λK hK=>(λ(m0:True)=>?_) trivial) AllReadyH.nil)))
   | (have _:=hf;have _:=h7;refine wpAnyH_ready (rs:=[3]) (by kernel_rfl) (by simp) (AllReadyH.cons (o:=o8mc) rfl (λK hK=>(λ(m8:True)=>?_) trivial) AllReadyH.nil))
   | (have _:=hf;refine wpAnyH_ready (rs:=[3,10]) (by kernel_rfl) (by simp) (AllReadyH.cons (o:=o8mc) rfl (λK hK=>(λ(m8:True)=>?_) trivial) (AllReadyH.cons (o:=o0mc) rfl (λK hK=>(λ(m0:True)=>?_) trivial) AllReadyH.nil)))
   | (have _:=h7;refine wpAnyH_ready (rs:=[2]) (by kernel_rfl) (by simp) (AllReadyH.cons (o:=o9mc) rfl (λK hK=>(λ(m9:True)=>?_) trivial) AllReadyH.nil))
   | (refine wpAnyH_ready (rs:=[2,10]) (by kernel_rfl) (by simp) (AllReadyH.cons (o:=o9mc) rfl (λK hK=>(λ(m9:True)=>?_) trivial) (AllReadyH.cons (o:=o0mc) rfl (λK hK=>(λ(m0:True)=>?_) trivial) AllReadyH.nil))))
 case rest =>
  obtain⟨N,rfl,hb,ho⟩:=hcut;have B9:=Qa hb;have O9:=Qa (O5.o.same ho);clear hb ho;go_wp2_with (first|(refine wpList_load_row rfl 213 (.tmp 8) rfl N rfl 213 TT.toArray (0,0) _ B9.o underlying213 rfl h5.o.2.1 ?_));refine (TA.o wc).mono ?_;rintro e w9 ⟨v,rfl,h3,o9⟩;have F1:Hid (w9.ownsRow w.heap.size 5 1 v 16 (bl (WU key xs))∧N0 w w9):=⟨Qu h3 O9.o.size,O9.o.same o9⟩;clear h3 o9 TA;go_wp2;go_ret2;exact⟨_,rfl,F1.o⟩
def ME (key:LI):Int:=if key.length=32 then 0 else 1
theorem qv (vk vn:Value) (key nonce:LI) (h:KN key nonce) (k8:U8 key) (n8:U8 nonce) (w:World) (bk:Bs .u8 w vk key) (bn:Bs .u8 w vn nonce) :
 Calls prog 118 #[vk,vn] w λe w'=>∃v,e=.returned (.tuple #[v,.int .i64 0])∧Bs .u8 w' v (Kf key nonce)∧NoCap v∧N0 w w':=by
 have A:=Qa (Dw vk vn key nonce 0 (by decide) k8 n8 w bk bn);rw[show ZT key nonce=0 from if_pos h,show Ze key 0 nonce=Q9 key 0 nonce from if_pos h,show ((0:Nat):Int)=0 from rfl] at A;clear bk bn k8 n8 h;go_enter func118,ntmps118;go_wp2_with fail;refine A.o.mono ?_;rintro e w1 ⟨v,rfl,b1,h0,o1⟩;obtain⟨ao,cap,rfl,hc⟩:=b1.formN (Kj _ _ _)
 have hc1:(32:Int)<=(cap:Int):=by omega
 have F1:Hid (Bs .u8 w1 (.slice ao 32 cap) (Kf key nonce)∧NoCap (.slice ao 32 cap)∧N0 w w1):=⟨b1.head (by decide),h0.cut 32,o1⟩;clear b1 h0 o1 A;go_wp2;go_ret2;exact⟨_,rfl,F1.o⟩
theorem PT (n:Nat) (h:n<=100000000000):fitsC 1 n:=by unfold fitsC;omega
theorem Aa {key nonce:LI} (h:KN key nonce) {n:Nat} (hf:fitsC 1 n):Wu key 1 nonce n=0:=by unfold Wu;rw[if_pos h,if_pos hf]
theorem SR1L {key nonce xs:LI} (h:KN key nonce) (hf:fitsC 1 xs.length):UV key 1 nonce xs=YA key 1 nonce xs:=by unfold UV;rw[if_pos h,if_pos hf]
theorem kJ (vk vn va vp:Value) (key nonce ad p:LI) (h:KN key nonce) (k8:U8 key) (n8:U8 nonce) (a8:U8 ad) (p8:U8 p) (la:ad.length<=100000000000) (lp:p.length<=100000000000) (w:World) (bk:Bs .u8 w vk key) (bn:Bs .u8 w vn nonce) (ba:Bs .u8 w va ad) (na:NoCap va) (bp:Bs .u8 w vp p) :
 Calls prog 78 #[vk,vn,va,vp] w λe w'=>∃v,e=.returned (.tuple #[v,.int .i64 0])∧w'.ownsRow w.heap.size 5 1 v (p.length+16) (bl (U0 key nonce ad p))∧N0 w w':=by
 obtain⟨i0,hi,hz0,hz1,hz2⟩:=info_parts Tryz.infoU8;have T:=Qa (qv vk vn key nonce h k8 n8 w bk bn);have S:=Qa (λW (o:N0 w W)=>As vk vn vp key nonce p 1 (by decide) k8 n8 p8 (by omega) W (bk.past o) (bn.past o) (bp.past o));simp only[Aa h (PT _ lp),SR1L h (PT _ lp),Wt,show ((1:Nat):Int)=1 from rfl] at S;have HA:=Qa (And.intro ba (And.intro na (And.intro a8 la)));obtain⟨ao,ac,rfl⟩:=ba.len;obtain⟨C,hC⟩:=EX (YA key 1 nonce p);simp only[<-hC] at S
 have C8:Hid (U8 C∧C.length=p.length∧U0 key nonce ad p=C++Kq key nonce ad C):=by
  refine⟨?_,?_,?_⟩
  ·rw[hC];exact Hf _ _ _ _ p8
  ·rw[hC,Wt]
  ·rw[hC];rfl
 obtain⟨n,hn⟩:=EX p.length;rw[<-hn] at C8 S lp ⊢;clear bk bn ba na bp k8 n8 a8 p8 h la hC hn;go_enter func78,ntmps78;go_wp2_with fail;refine T.o.mono ?_;rintro e w1 ⟨v1,rfl,b1,nc1,o1⟩;have B1:=Qa b1;have O1:=Qa o1;clear b1 nc1 o1 T;go_wp2_with fail;refine (S.o w1 O1.o).mono ?_;rintro e w2 ⟨v2,rfl,h0,o2⟩;have B2:=Qa (B1.o.past o2);have O2:=Qa (O1.o.same o2);obtain⟨co,cc,rfl⟩:=Qm h0;have W2:=Qa h0;have Z2:=Qa o2.size;have Z1:=Qa O1.o.size
 have M:Hid (∀W:World,N0 w2 W->W=w2.alloc (.cells #[.slice ao ad.length ac,.slice co n cc] 23)->Calls prog 121 #[.slice (some ⟨w2.heap.size,0,none⟩) 2 2] W λe w'=>∃v,e=.returned v∧w'.ownsRow W.heap.size 5 1 v (UC ad C).length (bl (UC ad C))∧N0 W w'):=λW o e=>by
  subst e;exact uZ w2.heap.size _ _ ad C _ (Blk.new w2 23 [_,_]) (HA.o.1.past (O2.o.same o)) HA.o.2.1 HA.o.2.2.2 (Bs.of_own (k:=.u8) (E:=5) (lo:=w1.heap.size) (by rw[C8.o.2.1];exact o.own h0 (λ_ _ f=>f))) (NoCap.of_own h0) (by rw[C8.o.2.1];exact lp)
 have oa:=(Only.refl (λ_=>False) w2).alloc (.cells #[.slice ao ad.length ac,.slice co n cc] 23);have M2:=Qa (M.o _ oa rfl);obtain⟨m,hm⟩:=EX ad.length;rw[<-hm] at M2 oa ⊢;have OA:=Qa oa;clear h0 o2 S O1 B1 M oa hm;go_wp2_with fail;refine M2.o.mono ?_;rintro e w3 ⟨v3,rfl,h6,o3⟩;have O3:=Qa (OA.o.same o3)
 have P:=Qa (kQ v1 v3 (Kf key nonce) (UC ad C) (EP _ _) (AT _ _) (Io ad C HA.o.2.2.1 C8.o.1) (by
  have h1:=vE ad C;have h2:=HA.o.2.2.2;have h3:=C8.o.2.1
  omega) w3 (B2.o.past O3.o) (Bs.of_own (k:=.u8) (E:=5) h6))
 clear h6 o3 M2 OA B2;go_wp2_with fail;refine P.o.mono ?_;rintro e w4 ⟨v4,rfl,h4,o4⟩;have O4:=Qa (O3.o.same o4);have W4:Hid (w4.ownsRow w1.heap.size 5 1 (.slice co n cc) n (bl C)):=O4.o.own W2.o (λ_ _ f=>f);have B4:Hid (Bs .u8 w4 v4 (Kq key nonce ad C)∧NoCap v4):=⟨Bs.of_own (k:=.u8) (E:=5) (lo:=w3.heap.size) (by rw[Vg];exact h4),NoCap.of_own h4⟩;have hle:w1.heap.size<=w4.heap.size:=Nat.le_trans Z2.o O4.o.size;clear h4 o4 P O3;go_wp2_with (at_builtin;refine Yh _ rfl _ _ 23 rfl w1.heap.size 5 i0 (.int .u8 0) 1 underlying23 hi hz0 hz1 hz2 rfl (.slice co n cc) n (bl C) rfl W4.o .u8 v4 (Kq key nonce ad C) rfl B4.o.1 B4.o.2 (by rw[Vg];unfold maxLen;omega) (by rw[Vg];omega) hle ?_;intro v5 w5 hown5 hgrow5 hnil5 hob5)
 have F1:Hid (w5.ownsRow w.heap.size 5 1 v5 (n+16) (bl (U0 key nonce ad p))∧N0 w w5):=by
  refine⟨Qu ?_ Z1.o,(O2.o.same O4.o).grown hgrow5 (λj hj e=>by have:=(W4.o.lt j e).1;have:=Z1.o;omega)⟩;have h5:=hown5;rw[Vg] at h5;rw[C8.o.2.2,Po];exact h5
 clear hown5 hgrow5 hnil5 hob5 W4 B4 O4;go_wp2;go_ret2;exact⟨_,rfl,F1.o⟩
end Go.Proofs.YtoflhbghdlaeaaaGreatDoor
