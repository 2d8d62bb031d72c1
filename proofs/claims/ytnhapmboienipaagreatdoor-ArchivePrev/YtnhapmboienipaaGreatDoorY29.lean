import Derived.Test.YtnhapmboienipaaGreatDoorY27
import Derived.Test.YtnhapmboienipaaGreatDoorY28
import Derived.Deep.Cut
import Derived.Test.YtnhapmboienipaaGreatDoorY22
import Derived.Test.YtnhapmboienipaaGreatDoorY25
import Derived.Test.YtnhapmboienipaaGreatDoorY9
namespace Go.Proofs.YtnhapmboienipaaGreatDoor
set_option maxHeartbeats 1600000
set_option maxRecDepth 100000
open Go.RowKit _root_.Go.Proofs.Tryz
theorem QbU {W5 W:World} (_o:Only (fun _=>False) W5 W):Blk (W.alloc (.cells z5.toArray 188)) W.heap.size 188 z5:=Blk.new W 188 z5
abbrev o0mc : Oper:={ dst:=some 8,op:=Op.alloc 188,type:=0,pos:="poly.go:27",after:=#[],guard:=none }
abbrev o1mc : Oper:={ dst:=some 26,op:=Op.call { callee:=Callee.value (Operand.func 144),args:=#[Operand.tmp 25],argTypes:=#[188] },type:=190,pos:="poly.go:27",after:=#[{ on:=5,ground:=Ground.data },{ on:=5,ground:=Ground.chain }],guard:=none }
abbrev o2mc : Oper:={ dst:=some 19,op:=Op.move (Operand.tmp 26),type:=190,pos:="poly.go:27",after:=#[{ on:=6,ground:=Ground.data }],guard:=none }
abbrev o3mc : Oper:={ dst:=some 27,op:=Op.extract (Operand.tmp 19) 0,type:=188,pos:="poly.go:27",after:=#[{ on:=7,ground:=Ground.data }],guard:=none }
abbrev o4mc : Oper:={ dst:=some 28,op:=Op.extract (Operand.tmp 19) 1,type:=23,pos:="poly.go:27",after:=#[{ on:=7,ground:=Ground.data },{ on:=11,ground:=Ground.gcOnly Departure.lateStores }],guard:=none }
abbrev o5mc : Oper:={ dst:=none,op:=Op.store 188 (Operand.tmp 8) (Operand.tmp 27),type:=0,pos:="poly.go:27",after:=#[{ on:=10,ground:=Ground.data },{ on:=8,ground:=Ground.data },{ on:=6,ground:=Ground.chain },{ on:=0,ground:=Ground.phase },{ on:=1,ground:=Ground.phase },{ on:=2,ground:=Ground.phase },{ on:=3,ground:=Ground.phase },{ on:=4,ground:=Ground.phase },{ on:=5,ground:=Ground.phase },{ on:=6,ground:=Ground.phase },{ on:=7,ground:=Ground.phase },{ on:=8,ground:=Ground.phase },{ on:=9,ground:=Ground.textOnly Departure.lateStores },{ on:=10,ground:=Ground.phase }],guard:=none }
abbrev o6mc : Oper:={ dst:=some 9,op:=Op.assign (Operand.tmp 28),type:=23,pos:="poly.go:27",after:=#[{ on:=9,ground:=Ground.data },{ on:=11,ground:=Ground.chain },{ on:=0,ground:=Ground.phase },{ on:=1,ground:=Ground.phase },{ on:=2,ground:=Ground.phase },{ on:=3,ground:=Ground.phase },{ on:=4,ground:=Ground.phase },{ on:=5,ground:=Ground.phase },{ on:=6,ground:=Ground.phase },{ on:=7,ground:=Ground.phase },{ on:=8,ground:=Ground.phase },{ on:=9,ground:=Ground.phase },{ on:=10,ground:=Ground.phase },{ on:=11,ground:=Ground.phase }],guard:=none }
abbrev o7mc : Oper:={ dst:=some 25,op:=Op.call { callee:=Callee.value (Operand.func 145),args:=#[Operand.tmp 23,Operand.tmp 24],argTypes:=#[188,188] },type:=188,pos:="poly.go:27",after:=#[{ on:=3,ground:=Ground.data },{ on:=4,ground:=Ground.data },{ on:=3,ground:=Ground.chain }],guard:=none }
abbrev o8mc : Oper:={ dst:=some 23,op:=Op.call { callee:=Callee.value (Operand.func 146),args:=#[Operand.tmp 22],argTypes:=#[188] },type:=188,pos:="poly.go:27",after:=#[{ on:=2,ground:=Ground.data },{ on:=2,ground:=Ground.chain }],guard:=none }
abbrev o9mc : Oper:={ dst:=some 22,op:=Op.call { callee:=Callee.value (Operand.func 147),args:=#[Operand.tmp 20,Operand.tmp 21],argTypes:=#[22,188] },type:=188,pos:="poly.go:27",after:=#[{ on:=0,ground:=Ground.data },{ on:=1,ground:=Ground.data }],guard:=none }
theorem Qua (vk vb:Value) (key xs:List Int) (hk:key.length=32) (k8:U8 key) (x8:U8 xs) (hl:xs.length≤1000000000000) (w:World) (bk:Bs .u8 w vk key) (bb:Bs .u8 w vb xs) :
  Calls prog 102 #[vk,vb] w fun e w'=>∃v,e=.returned (.tuple #[v,.int .i64 0])∧w'.ownsRow w.heap.size 5 1 v 16 (bl (TAG key xs))∧Only (fun _=>False) w w':=by
 have hzv:=(zero_of_info (P:=prog) Tryz.zero34).1;obtain ⟨Z,hZ⟩:∃Z,Z=z5:=⟨_,rfl⟩;rw [←hZ] at hzv;have HZ:=Qaa hZ;obtain ⟨ao,kc,rfl⟩:=bk.len;rw [hk] at bk ⊢
 have hkc:32≤kc:=by
  obtain ⟨_,_,e,h,_⟩:=bk;simp at e;omega
 have ht16:(key.take 16).length=16:=by rw [Yag,hk];rfl
 have hd16:(key.drop 16).length=16:=by rw [Yai,hk]
 have MU:=Qaa (Qe0 _ (key.take 16) ht16 (k8.take 16) w (bk.head (n:=16) (by decide)));have NU:=Qaa (fun (W:World) (o:Only (fun _=>False) w W)=>Qco _ (key.drop 16) (by rw [hd16];decide) (k8.drop 16) W ((bk.cut (n:=16) (by decide)).past o));obtain ⟨r,hr⟩:∃r,r=nmb (c2 (key.take 16) 3):=⟨_,rfl⟩;obtain ⟨s,hs⟩:∃s,s=nmb (key.drop 16):=⟨_,rfl⟩
 have hrl:r.length=5∧LB 67108864 r:=by rw [hr];exact ⟨QbD _,Qfj _⟩
 have hsl:s.length=5∧LB 67108864 s:=by rw [hs];exact ⟨QbD _,Qfj _⟩
 have HTG:=QmO key xs hk k8 x8;rw [←hr] at MU HTG;rw [←hs] at NU HTG;have GA:=Qaa (fun (W:World) (o:Only (fun _=>False) w W)=>Qgz vb xs hl x8 r hrl.1 hrl.2 W (bb.past o));obtain ⟨g,hg⟩:∃g,g=gth r xs ((xs.length+15) / 16):=⟨_,rfl⟩
 have hgl:g.length=5∧LB 67108864 g:=by rw [hg];exact ⟨Qb5 _ _ _,Qm7 _ _ hrl.2 _⟩
 rw [←hg] at GA HTG;have LE:=Qaa (fun (W:World)=>Qib g hgl.1 hgl.2 W);have lp:=Qjy (C:=9223372036854775808) (QqZ g) hsl.2 (by decide);have PL:=Qaa (fun (W:World)=>Qf1 (lst g) s (QeI g hgl.1) hsl.1 ((QqZ g).mono (by decide)) (hsl.2.mono (by decide)) W);have SE:=Qaa (fun (W:World)=>QbE (pls (lst g) s) (QaL _ _) lp W);have TA:=Qaa (fun (W:World)=>QkO (sdg (pls (lst g) s) 0) (by rw [QaV,QaL]) (QdR _ _) W);rw [HTG] at TA
 have HD:Hid ((prog.info? 188).map (·.size)=some (ul r).toArray.size∧Z.toArray.size=(ul r).toArray.size∧(ul r).toArray.all (·.oneCell')=true∧(prog.info? 188).map (·.size)=some (ul s).toArray.size∧Z.toArray.size=(ul s).toArray.size∧(ul s).toArray.all (·.oneCell')=true):=by
  rw [hZ];exact ⟨QaW _ hrl.1,by simp [QaF,hrl.1,Qct],QbX _,QaW _ hsl.1,by simp [QaF,hsl.1,Qct],QbX _⟩
 obtain ⟨RR,hRR⟩:∃RR,RR=ul r:=⟨_,rfl⟩;obtain ⟨SS,hSS⟩:∃SS,SS=ul s:=⟨_,rfl⟩;rw [←hRR,←hSS] at HD;rw [←hRR] at MU GA;rw [←hSS] at NU PL
 have i1:¬(kc:Int)=16:=by omega
 have i2:(32:Int)≤(kc:Int):=by omega
 have i3:(16:Int)≤(kc:Int):=by omega
 have i4:¬kc=16:=by omega
 obtain ⟨TT,hTTdef⟩:∃TT,TT=ul (sdg (pls (lst g) s) 0):=⟨_,rfl⟩
 have TL:Hid ((sdg (pls (lst g) s) 0).length=5):=by
  show _=_
  rw [QaV,QaL]
 obtain ⟨GG,hGG⟩:∃GG,GG=ul g:=⟨_,rfl⟩;obtain ⟨LG,hLG⟩:∃LG,LG=ul (lst g):=⟨_,rfl⟩;obtain ⟨PG,hPG⟩:∃PG,PG=ul (pls (lst g) s):=⟨_,rfl⟩;obtain ⟨tc,htc⟩:∃tc,tc=scy (pls (lst g) s) 0:=⟨_,rfl⟩;rw [←hGG] at GA LE;rw [←hLG] at LE PL;rw [←hPG] at PL SE;rw [←hTTdef,←htc] at SE;rw [←hTTdef] at TA;clear hGG hLG hPG htc
 have HL:Hid (RR.length=5∧SS.length=5):=by rw [hRR,hSS,QaF,QaF];exact ⟨hrl.1,hsl.1⟩
 clear ht16 hd16 hr hs HTG hg hgl lp hRR hSS hrl hsl hZ;go_enter func102,ntmps102;go_wp2_with fail;refine MU.out.mono ?_;rintro e w1 ⟨rfl,o1⟩;have W2o:Hid (Only (fun _=>False) w ((w1.alloc (.cells Z.toArray 188)).setRow w1.heap.size RR.toArray)):=o1.same (((Only.refl _ _).alloc _).setRow (fun h=>absurd h (Nat.lt_irrefl _)) _);have B2:Hid (Blk ((w1.alloc (.cells Z.toArray 188)).setRow w1.heap.size RR.toArray) w1.heap.size 188 RR):=(Blk.new w1 188 Z).row RR;go_wp2_with (first|(refine wpList_store_row rfl 188 (.tmp 6) (.tmp 15) rfl w1.heap.size RR.toArray rfl rfl 188 Z.toArray (Blk.new w1 188 Z) HD.out.1 HD.out.2.1 HD.out.2.2.1 ?_));obtain ⟨RB,hRB⟩:∃RB,RB=w1.heap.size:=⟨_,rfl⟩;rw [←hRB] at W2o B2 ⊢;obtain ⟨W2,hW2⟩:∃W2,W2=(w1.alloc (.cells Z.toArray 188)).setRow RB RR.toArray:=⟨_,rfl⟩;rw [←hW2] at W2o B2 ⊢;clear hW2 hRB MU o1;refine (NU.out W2 W2o.out).mono ?_;rintro e w3 ⟨rfl,o3⟩;have o4:Only (fun _=>False) W2 ((w3.alloc (.cells Z.toArray 188)).setRow w3.heap.size SS.toArray):=o3.same (((Only.refl _ _).alloc _).setRow (fun h=>absurd h (Nat.lt_irrefl _)) _);have K5:Hid (Blk ((w3.alloc (.cells Z.toArray 188)).setRow w3.heap.size SS.toArray) RB 188 RR∧Blk ((w3.alloc (.cells Z.toArray 188)).setRow w3.heap.size SS.toArray) w3.heap.size 188 SS∧Only (fun _=>False) w ((w3.alloc (.cells Z.toArray 188)).setRow w3.heap.size SS.toArray)):=⟨B2.out.past o4,(Blk.new w3 188 Z).row SS,W2o.out.same o4⟩;go_wp2_with (first|(refine wpList_store_row rfl 188 (.tmp 7) (.tmp 18) rfl w3.heap.size SS.toArray rfl rfl 188 Z.toArray (Blk.new w3 188 Z) HD.out.2.2.2.1 HD.out.2.2.2.2.1 HD.out.2.2.2.2.2 ?_));obtain ⟨SB,hSB⟩:∃SB,SB=w3.heap.size:=⟨_,rfl⟩;rw [←hSB] at K5 ⊢;obtain ⟨W5,hW5⟩:∃W5,W5=(w3.alloc (.cells Z.toArray 188)).setRow SB SS.toArray:=⟨_,rfl⟩;rw [←hW5] at K5 ⊢;clear hW5 hSB NU o3 o4 B2 W2o
 -- BYHAND
 have HTT:Hid (0+TT.toArray.size≤z5.length∧(prog.info? 188).map (·.size)=some TT.toArray.size∧TT.toArray.all (·.oneCell')=true∧TT.length=5):=by
  rw [hTTdef];refine ⟨?_,QaW _ TL.out,QbX _,by rw [QaF];exact TL.out⟩;rw [List.size_toArray,QaF,TL.out];decide
 have FIN:Hid (∀W N,Only (fun _=>False) W5 W→Blk W N 188 z5→W5.heap.size≤N→Blk (W.setCells N 0 TT.toArray.toList) N 188 TT∧Only (fun _=>False) W5 (W.setCells N 0 TT.toArray.toList)):=fun W N o b hN=>by
  refine ⟨?_,Only.setCells (S:=fun _=>False) (fun h=>absurd h (by omega)) _ 0 W o⟩;exact b.setAll (by rw [HTT.out.2.2.2];rfl)
 have rR:Hid (∀W,Only (fun _=>False) W5 W→W.rangeAt RB 0 RR):=fun W o=>by
  have:=Blk.range (a:=[]) (b:=RR) (c:=[]) (w:=W) (g:=RB) (t:=188) (by simpa using K5.out.1.past o)
  simpa using this
 have rS:Hid (∀W,Only (fun _=>False) W5 W→W.rangeAt SB 0 SS):=fun W o=>by
  have:=Blk.range (a:=[]) (b:=SS) (c:=[]) (w:=W) (g:=SB) (t:=188) (by simpa using K5.out.2.1.past o)
  simpa using this
 have iR:Hid ((prog.info? 188).map (·.size)=some RR.length∧(prog.info? 188).map (·.size)=some SS.length):=by rw [HL.out.1,HL.out.2];exact ⟨Tryz.size34,Tryz.size34⟩
 have O5:=Qaa K5.out.2.2
 have GS:Hid (∀W,Only (fun _=>False) W5 W→Calls prog 147 #[vb,.agg RR.toArray] W fun e w'=>e=.returned (.agg GG.toArray)∧(Only (fun _=>False) W5 w'∧Only (fun _=>False) W w')):=fun W o=>(GA.out W (O5.out.same o)).mono fun _ w' (h:_∧_)=>⟨h.1,o.same h.2,h.2⟩
 have LS:Hid (∀W,Only (fun _=>False) W5 W→Calls prog 146 #[.agg GG.toArray] W fun e w'=>e=.returned (.agg LG.toArray)∧(Only (fun _=>False) W5 w'∧Only (fun _=>False) W w')):=fun W o=>(LE.out W).mono fun _ w' (h:_∧_)=>⟨h.1,o.same h.2,h.2⟩
 have PS:Hid (∀W,Only (fun _=>False) W5 W→Calls prog 145 #[.agg LG.toArray,.agg SS.toArray] W fun e w'=>e=.returned (.agg PG.toArray)∧(Only (fun _=>False) W5 w'∧Only (fun _=>False) W w')):=fun W o=>(PL.out W).mono fun _ w' (h:_∧_)=>⟨h.1,o.same h.2,h.2⟩
 have SS2:Hid (∀W,Only (fun _=>False) W5 W→Calls prog 144 #[.agg PG.toArray] W fun e w'=>e=.returned (.tuple #[.agg TT.toArray,.int .u64 (tc:Nat)])∧(Only (fun _=>False) W5 w'∧Only (fun _=>False) W w')):=fun W o=>(SE.out W).mono fun _ w' (h:_∧_)=>⟨h.1,o.same h.2,h.2⟩
 clear GA LE PL SE hTTdef;simp only [Act.put]
 go_cut [8] from 10 (fun p W=>∃N,p=.pointer (some ⟨N,0,none⟩)∧Blk W N 188 TT∧Only (fun _=>False) W5 W)
 case first =>
  refine wp_region_held_drew (S:=fun W=>Only (fun _=>False) W5 W) (by kernel_rfl) (Only.refl _ _).drew (fun hH0=>?_)
  try simp only [Act.put,Yaa,Yab,Yac]
  refine wpAnyH_take (i:=0) (oi:={ dst:=some 20,op:=Op.move (Operand.tmp 1),type:=22,pos:="poly.go:27",after:=#[],guard:=none }) (v:=?tv1) rfl (by kernel_rfl) (by kernel_rfl) (by kernel_rfl) (fun _ _ _ h => h) (Or.inl ⟨by rfl,?th1⟩) hH0 ?tr1
  case th1=>(intro w hSw;go_simp;try with_reducible rfl)
  try simp only [Act.put,Yaa,Yab,Yac]
  refine wpAnyH_take (i:=1) (oi:={ dst:=some 21,op:=Op.load 188 (Operand.tmp 6),type:=188,pos:="poly.go:27",after:=#[],guard:=none }) (v:=.agg RR.toArray) rfl (by kernel_rfl) (by kernel_rfl) (by kernel_rfl) (fun _ _ _ h => h) (yieldsIf_load_mid (by rfl) 188 (.tmp 6) rfl RB 0 rfl RR _ (fun W h => rR.out W h) underlying188 rfl iR.out.1) hH0 ?_
  try simp only [Act.put,Yaa,Yab,Yac]
  refine wpAnyH_take (i:=4) (oi:={ dst:=some 24,op:=Op.load 188 (Operand.tmp 7),type:=188,pos:="poly.go:27",after:=#[],guard:=none }) (v:=.agg SS.toArray) rfl (by kernel_rfl) (by kernel_rfl) (by kernel_rfl) (fun _ _ _ h => h) (yieldsIf_load_mid (by rfl) 188 (.tmp 7) rfl SB 0 rfl SS _ (fun W h => rS.out W h) underlying188 rfl iR.out.2) hH0 ?_
  try simp only [Act.put,Yaa,Yab,Yac]
  refine wpAnyH_ready (rs:=[2,10]) (by kernel_rfl) (by simp) ?_;refine (AllReadyH.cons (o:=o9mc) rfl (fun K hK=>?_) (AllReadyH.cons (o:=o0mc) rfl (fun K hK=>?_) AllReadyH.nil))
  ·rw [if_pos (by rfl)]
   refine Qah 147 #[.tmp 20,.tmp 21] #[22,188] rfl Qnu #[vb,.agg RR.toArray] (.agg GG.toArray) (by kernel_rfl) (GS.out _ hH0) ?_;rintro w6 ⟨o6,p6⟩;refine hK.out _ _ o6 (fun _=>?_);clear hK K
   try simp only [Act.put,Yaa,Yab,Yac]
   refine wpAnyH_ready (rs:=[3,10]) (by kernel_rfl) (by simp) ?_;refine (AllReadyH.cons (o:=o8mc) rfl (fun K hK=>?_) (AllReadyH.cons (o:=o0mc) rfl (fun K hK=>?_) AllReadyH.nil))
   ·rw [if_pos (by rfl)]
    refine Qah 146 #[.tmp 22] #[188] rfl Qiw #[.agg GG.toArray] (.agg LG.toArray) (by kernel_rfl) (LS.out _ o6) ?_;rintro w7 ⟨o7,p7⟩;refine hK.out _ _ o7 (fun _=>?_);clear hK K
    try simp only [Act.put,Yaa,Yab,Yac]
    refine wpAnyH_ready (rs:=[5,10]) (by kernel_rfl) (by simp) ?_;refine (AllReadyH.cons (o:=o7mc) rfl (fun K hK=>?_) (AllReadyH.cons (o:=o0mc) rfl (fun K hK=>?_) AllReadyH.nil))
    ·rw [if_pos (by rfl)]
     refine Qah 145 #[.tmp 23,.tmp 24] #[188,188] rfl Qbm #[.agg LG.toArray,.agg SS.toArray] (.agg PG.toArray) (by kernel_rfl) (PS.out _ o7) ?_;rintro w8 ⟨o8,p8⟩;refine hK.out _ _ o8 (fun _=>?_);clear hK K
     try simp only [Act.put,Yaa,Yab,Yac]
     refine wpAnyH_ready (rs:=[6,10]) (by kernel_rfl) (by simp) ?_;refine (AllReadyH.cons (o:=o1mc) rfl (fun K hK=>?_) (AllReadyH.cons (o:=o0mc) rfl (fun K hK=>?_) AllReadyH.nil))
     ·rw [if_pos (by rfl)]
      refine Qah 144 #[.tmp 25] #[188] rfl QeN #[.agg PG.toArray] (.tuple #[.agg TT.toArray,.int .u64 (tc:Nat)]) (by kernel_rfl) (SS2.out _ o8) ?_;rintro w9 ⟨o9,p9⟩;refine hK.out _ _ o9 (fun _=>?_);clear hK K
      try simp only [Act.put,Yaa,Yab,Yac]
      refine wpAnyH_take (i:=7) (oi:=o2mc) (v:=?tv2) rfl (by kernel_rfl) (by kernel_rfl) (by kernel_rfl) (fun _ _ _ h=>h) (Or.inl ⟨by rfl,?th2⟩) o9 ?tr2
      case th2=>(intro w hSw;go_simp;try with_reducible rfl)
      try simp only [Act.put,Yaa,Yab,Yac]
      refine wpAnyH_take (i:=8) (oi:=o3mc) (v:=?tv3) rfl (by kernel_rfl) (by kernel_rfl) (by kernel_rfl) (fun _ _ _ h=>h) (Or.inl ⟨by rfl,?th3⟩) o9 ?tr3
      case th3=>(intro w hSw;go_simp;try with_reducible rfl)
      try simp only [Act.put,Yaa,Yab,Yac]
      refine wpAnyH_take (i:=9) (oi:=o4mc) (v:=?tv4) rfl (by kernel_rfl) (by kernel_rfl) (by kernel_rfl) (fun _ _ _ h=>h) (Or.inl ⟨by rfl,?th4⟩) o9 ?tr4
      case th4=>(intro w hSw;go_simp;try with_reducible rfl)
      try simp only [Act.put,Yaa,Yab,Yac]
      refine wpAnyH_ready (rs:=[10]) (by kernel_rfl) (by simp) ?_;refine (AllReadyH.cons (o:=o0mc) rfl (fun K hK=>?_) AllReadyH.nil)
      ·rw [if_pos (by rfl)]
       refine QbV rfl ?_;have a10:=o9.alloc (.cells z5.toArray 188);refine hK.out _ _ a10 (fun _=>?_);clear hK K
       try simp only [Act.put,Yaa,Yab,Yac]
       have bA:=QbU o9;have bAN:=o9.size;refine wpAnyH_ready (rs:=[11]) (by kernel_rfl) (by simp) ?_;refine AllReadyH.cons (o:=o5mc) rfl (fun K hK=>?_) AllReadyH.nil;rw [if_pos (by rfl)];refine wp_store_mid 188 (.tmp 8) (.tmp 27) rfl _ 0 TT.toArray rfl rfl (bA.there 0 _ HTT.out.1) HTT.out.2.1 HTT.out.2.2.1 ?_;have FN:=FIN.out _ _ a10 bA (by have h0:=bAN;exact h0);refine hK.out _ _ FN.2 (fun hH=>?_);clear hK K;simp only [Act.put];refine wpAnyH_take (i:=12) (oi:=o6mc) (v:=?tv5) rfl (by kernel_rfl) (by kernel_rfl) (by kernel_rfl) (fun _ _ _ h=>h) (Or.inl ⟨by rfl,?th5⟩) hH ?tr5
       case th5=>(intro w hSw;go_simp;try with_reducible rfl)
       try simp only [Act.put,Yaa,Yab,Yac]
       refine wpAnyH_done (by kernel_rfl) ?_ _;go_wp2
       go_meet
       case rel=>exact ⟨_,rfl,FN.1,FN.2⟩
     ·rw [if_pos (by rfl)]
      refine QbV rfl ?_;have a10:=o8.alloc (.cells z5.toArray 188);refine hK.out _ _ a10 (fun _=>?_);clear hK K
      try simp only [Act.put,Yaa,Yab,Yac]
      have bA:=QbU o8;have bAN:=o8.size;refine wpAnyH_ready (rs:=[6]) (by kernel_rfl) (by simp) ?_;refine (AllReadyH.cons (o:=o1mc) rfl (fun K hK=>?_) AllReadyH.nil)
      ·rw [if_pos (by rfl)]
       refine Qah 144 #[.tmp 25] #[188] rfl QeN #[.agg PG.toArray] (.tuple #[.agg TT.toArray,.int .u64 (tc:Nat)]) (by kernel_rfl) (SS2.out _ a10) ?_;rintro w9 ⟨o9,p9⟩;refine hK.out _ _ o9 (fun _=>?_);clear hK K
       try simp only [Act.put,Yaa,Yab,Yac]
       have b9:=bA.past p9;have b9N:=bAN;refine wpAnyH_take (i:=7) (oi:=o2mc) (v:=?tv6) rfl (by kernel_rfl) (by kernel_rfl) (by kernel_rfl) (fun _ _ _ h=>h) (Or.inl ⟨by rfl,?th6⟩) o9 ?tr6
       case th6=>(intro w hSw;go_simp;try with_reducible rfl)
       try simp only [Act.put,Yaa,Yab,Yac]
       refine wpAnyH_take (i:=8) (oi:=o3mc) (v:=?tv7) rfl (by kernel_rfl) (by kernel_rfl) (by kernel_rfl) (fun _ _ _ h=>h) (Or.inl ⟨by rfl,?th7⟩) o9 ?tr7
       case th7=>(intro w hSw;go_simp;try with_reducible rfl)
       try simp only [Act.put,Yaa,Yab,Yac]
       refine wpAnyH_take (i:=9) (oi:=o4mc) (v:=?tv8) rfl (by kernel_rfl) (by kernel_rfl) (by kernel_rfl) (fun _ _ _ h=>h) (Or.inl ⟨by rfl,?th8⟩) o9 ?tr8
       case th8=>(intro w hSw;go_simp;try with_reducible rfl)
       try simp only [Act.put,Yaa,Yab,Yac]
       refine wpAnyH_ready (rs:=[11]) (by kernel_rfl) (by simp) ?_;refine AllReadyH.cons (o:=o5mc) rfl (fun K hK=>?_) AllReadyH.nil;rw [if_pos (by rfl)];refine wp_store_mid 188 (.tmp 8) (.tmp 27) rfl _ 0 TT.toArray rfl rfl (b9.there 0 _ HTT.out.1) HTT.out.2.1 HTT.out.2.2.1 ?_;have FN:=FIN.out _ _ o9 b9 (by have h0:=b9N;exact h0);refine hK.out _ _ FN.2 (fun hH=>?_);clear hK K;simp only [Act.put];refine wpAnyH_take (i:=12) (oi:=o6mc) (v:=?tv9) rfl (by kernel_rfl) (by kernel_rfl) (by kernel_rfl) (fun _ _ _ h=>h) (Or.inl ⟨by rfl,?th9⟩) hH ?tr9
       case th9=>(intro w hSw;go_simp;try with_reducible rfl)
       try simp only [Act.put,Yaa,Yab,Yac]
       refine wpAnyH_done (by kernel_rfl) ?_ _;go_wp2
       go_meet
       case rel=>exact ⟨_,rfl,FN.1,FN.2⟩
    ·rw [if_pos (by rfl)]
     refine QbV rfl ?_;have a10:=o7.alloc (.cells z5.toArray 188);refine hK.out _ _ a10 (fun _=>?_);clear hK K
     try simp only [Act.put,Yaa,Yab,Yac]
     have bA:=QbU o7;have bAN:=o7.size;refine wpAnyH_ready (rs:=[5]) (by kernel_rfl) (by simp) ?_;refine (AllReadyH.cons (o:=o7mc) rfl (fun K hK=>?_) AllReadyH.nil)
     ·rw [if_pos (by rfl)]
      refine Qah 145 #[.tmp 23,.tmp 24] #[188,188] rfl Qbm #[.agg LG.toArray,.agg SS.toArray] (.agg PG.toArray) (by kernel_rfl) (PS.out _ a10) ?_;rintro w8 ⟨o8,p8⟩;refine hK.out _ _ o8 (fun _=>?_);clear hK K
      try simp only [Act.put,Yaa,Yab,Yac]
      have b8:=bA.past p8;have b8N:=bAN;refine wpAnyH_ready (rs:=[6]) (by kernel_rfl) (by simp) ?_;refine (AllReadyH.cons (o:=o1mc) rfl (fun K hK=>?_) AllReadyH.nil)
      ·rw [if_pos (by rfl)]
       refine Qah 144 #[.tmp 25] #[188] rfl QeN #[.agg PG.toArray] (.tuple #[.agg TT.toArray,.int .u64 (tc:Nat)]) (by kernel_rfl) (SS2.out _ o8) ?_;rintro w9 ⟨o9,p9⟩;refine hK.out _ _ o9 (fun _=>?_);clear hK K
       try simp only [Act.put,Yaa,Yab,Yac]
       have b9:=b8.past p9;have b9N:=b8N;refine wpAnyH_take (i:=7) (oi:=o2mc) (v:=?tv10) rfl (by kernel_rfl) (by kernel_rfl) (by kernel_rfl) (fun _ _ _ h=>h) (Or.inl ⟨by rfl,?th10⟩) o9 ?tr10
       case th10=>(intro w hSw;go_simp;try with_reducible rfl)
       try simp only [Act.put,Yaa,Yab,Yac]
       refine wpAnyH_take (i:=8) (oi:=o3mc) (v:=?tv11) rfl (by kernel_rfl) (by kernel_rfl) (by kernel_rfl) (fun _ _ _ h=>h) (Or.inl ⟨by rfl,?th11⟩) o9 ?tr11
       case th11=>(intro w hSw;go_simp;try with_reducible rfl)
       try simp only [Act.put,Yaa,Yab,Yac]
       refine wpAnyH_take (i:=9) (oi:=o4mc) (v:=?tv12) rfl (by kernel_rfl) (by kernel_rfl) (by kernel_rfl) (fun _ _ _ h=>h) (Or.inl ⟨by rfl,?th12⟩) o9 ?tr12
       case th12=>(intro w hSw;go_simp;try with_reducible rfl)
       try simp only [Act.put,Yaa,Yab,Yac]
       refine wpAnyH_ready (rs:=[11]) (by kernel_rfl) (by simp) ?_;refine AllReadyH.cons (o:=o5mc) rfl (fun K hK=>?_) AllReadyH.nil;rw [if_pos (by rfl)];refine wp_store_mid 188 (.tmp 8) (.tmp 27) rfl _ 0 TT.toArray rfl rfl (b9.there 0 _ HTT.out.1) HTT.out.2.1 HTT.out.2.2.1 ?_;have FN:=FIN.out _ _ o9 b9 (by have h0:=b9N;exact h0);refine hK.out _ _ FN.2 (fun hH=>?_);clear hK K;simp only [Act.put];refine wpAnyH_take (i:=12) (oi:=o6mc) (v:=?tv13) rfl (by kernel_rfl) (by kernel_rfl) (by kernel_rfl) (fun _ _ _ h=>h) (Or.inl ⟨by rfl,?th13⟩) hH ?tr13
       case th13=>(intro w hSw;go_simp;try with_reducible rfl)
       try simp only [Act.put,Yaa,Yab,Yac]
       refine wpAnyH_done (by kernel_rfl) ?_ _;go_wp2
       go_meet
       case rel=>exact ⟨_,rfl,FN.1,FN.2⟩
   ·rw [if_pos (by rfl)]
    refine QbV rfl ?_;have a10:=o6.alloc (.cells z5.toArray 188);refine hK.out _ _ a10 (fun _=>?_);clear hK K
    try simp only [Act.put,Yaa,Yab,Yac]
    have bA:=QbU o6;have bAN:=o6.size;refine wpAnyH_ready (rs:=[3]) (by kernel_rfl) (by simp) ?_;refine (AllReadyH.cons (o:=o8mc) rfl (fun K hK=>?_) AllReadyH.nil)
    ·rw [if_pos (by rfl)]
     refine Qah 146 #[.tmp 22] #[188] rfl Qiw #[.agg GG.toArray] (.agg LG.toArray) (by kernel_rfl) (LS.out _ a10) ?_;rintro w7 ⟨o7,p7⟩;refine hK.out _ _ o7 (fun _=>?_);clear hK K
     try simp only [Act.put,Yaa,Yab,Yac]
     have b7:=bA.past p7;have b7N:=bAN;refine wpAnyH_ready (rs:=[5]) (by kernel_rfl) (by simp) ?_;refine (AllReadyH.cons (o:=o7mc) rfl (fun K hK=>?_) AllReadyH.nil)
     ·rw [if_pos (by rfl)]
      refine Qah 145 #[.tmp 23,.tmp 24] #[188,188] rfl Qbm #[.agg LG.toArray,.agg SS.toArray] (.agg PG.toArray) (by kernel_rfl) (PS.out _ o7) ?_;rintro w8 ⟨o8,p8⟩;refine hK.out _ _ o8 (fun _=>?_);clear hK K
      try simp only [Act.put,Yaa,Yab,Yac]
      have b8:=b7.past p8;have b8N:=b7N;refine wpAnyH_ready (rs:=[6]) (by kernel_rfl) (by simp) ?_;refine (AllReadyH.cons (o:=o1mc) rfl (fun K hK=>?_) AllReadyH.nil)
      ·rw [if_pos (by rfl)]
       refine Qah 144 #[.tmp 25] #[188] rfl QeN #[.agg PG.toArray] (.tuple #[.agg TT.toArray,.int .u64 (tc:Nat)]) (by kernel_rfl) (SS2.out _ o8) ?_;rintro w9 ⟨o9,p9⟩;refine hK.out _ _ o9 (fun _=>?_);clear hK K
       try simp only [Act.put,Yaa,Yab,Yac]
       have b9:=b8.past p9;have b9N:=b8N;refine wpAnyH_take (i:=7) (oi:=o2mc) (v:=?tv14) rfl (by kernel_rfl) (by kernel_rfl) (by kernel_rfl) (fun _ _ _ h=>h) (Or.inl ⟨by rfl,?th14⟩) o9 ?tr14
       case th14=>(intro w hSw;go_simp;try with_reducible rfl)
       try simp only [Act.put,Yaa,Yab,Yac]
       refine wpAnyH_take (i:=8) (oi:=o3mc) (v:=?tv15) rfl (by kernel_rfl) (by kernel_rfl) (by kernel_rfl) (fun _ _ _ h=>h) (Or.inl ⟨by rfl,?th15⟩) o9 ?tr15
       case th15=>(intro w hSw;go_simp;try with_reducible rfl)
       try simp only [Act.put,Yaa,Yab,Yac]
       refine wpAnyH_take (i:=9) (oi:=o4mc) (v:=?tv16) rfl (by kernel_rfl) (by kernel_rfl) (by kernel_rfl) (fun _ _ _ h=>h) (Or.inl ⟨by rfl,?th16⟩) o9 ?tr16
       case th16=>(intro w hSw;go_simp;try with_reducible rfl)
       try simp only [Act.put,Yaa,Yab,Yac]
       refine wpAnyH_ready (rs:=[11]) (by kernel_rfl) (by simp) ?_;refine AllReadyH.cons (o:=o5mc) rfl (fun K hK=>?_) AllReadyH.nil;rw [if_pos (by rfl)];refine wp_store_mid 188 (.tmp 8) (.tmp 27) rfl _ 0 TT.toArray rfl rfl (b9.there 0 _ HTT.out.1) HTT.out.2.1 HTT.out.2.2.1 ?_;have FN:=FIN.out _ _ o9 b9 (by have h0:=b9N;exact h0);refine hK.out _ _ FN.2 (fun hH=>?_);clear hK K;simp only [Act.put];refine wpAnyH_take (i:=12) (oi:=o6mc) (v:=?tv17) rfl (by kernel_rfl) (by kernel_rfl) (by kernel_rfl) (fun _ _ _ h=>h) (Or.inl ⟨by rfl,?th17⟩) hH ?tr17
       case th17=>(intro w hSw;go_simp;try with_reducible rfl)
       try simp only [Act.put,Yaa,Yab,Yac]
       refine wpAnyH_done (by kernel_rfl) ?_ _;go_wp2
       go_meet
       case rel=>exact ⟨_,rfl,FN.1,FN.2⟩
  ·rw [if_pos (by rfl)]
   refine QbV rfl ?_;have a10:=hH0.alloc (.cells z5.toArray 188);refine hK.out _ _ a10 (fun _=>?_);clear hK K
   try simp only [Act.put,Yaa,Yab,Yac]
   have bA:=QbU hH0;have bAN:=hH0.size;refine wpAnyH_ready (rs:=[2]) (by kernel_rfl) (by simp) ?_;refine (AllReadyH.cons (o:=o9mc) rfl (fun K hK=>?_) AllReadyH.nil)
   ·rw [if_pos (by rfl)]
    refine Qah 147 #[.tmp 20,.tmp 21] #[22,188] rfl Qnu #[vb,.agg RR.toArray] (.agg GG.toArray) (by kernel_rfl) (GS.out _ a10) ?_;rintro w6 ⟨o6,p6⟩;refine hK.out _ _ o6 (fun _=>?_);clear hK K
    try simp only [Act.put,Yaa,Yab,Yac]
    have b6:=bA.past p6;have b6N:=bAN;refine wpAnyH_ready (rs:=[3]) (by kernel_rfl) (by simp) ?_;refine (AllReadyH.cons (o:=o8mc) rfl (fun K hK=>?_) AllReadyH.nil)
    ·rw [if_pos (by rfl)]
     refine Qah 146 #[.tmp 22] #[188] rfl Qiw #[.agg GG.toArray] (.agg LG.toArray) (by kernel_rfl) (LS.out _ o6) ?_;rintro w7 ⟨o7,p7⟩;refine hK.out _ _ o7 (fun _=>?_);clear hK K
     try simp only [Act.put,Yaa,Yab,Yac]
     have b7:=b6.past p7;have b7N:=b6N;refine wpAnyH_ready (rs:=[5]) (by kernel_rfl) (by simp) ?_;refine (AllReadyH.cons (o:=o7mc) rfl (fun K hK=>?_) AllReadyH.nil)
     ·rw [if_pos (by rfl)]
      refine Qah 145 #[.tmp 23,.tmp 24] #[188,188] rfl Qbm #[.agg LG.toArray,.agg SS.toArray] (.agg PG.toArray) (by kernel_rfl) (PS.out _ o7) ?_;rintro w8 ⟨o8,p8⟩;refine hK.out _ _ o8 (fun _=>?_);clear hK K
      try simp only [Act.put,Yaa,Yab,Yac]
      have b8:=b7.past p8;have b8N:=b7N;refine wpAnyH_ready (rs:=[6]) (by kernel_rfl) (by simp) ?_;refine (AllReadyH.cons (o:=o1mc) rfl (fun K hK=>?_) AllReadyH.nil)
      ·rw [if_pos (by rfl)]
       refine Qah 144 #[.tmp 25] #[188] rfl QeN #[.agg PG.toArray] (.tuple #[.agg TT.toArray,.int .u64 (tc:Nat)]) (by kernel_rfl) (SS2.out _ o8) ?_;rintro w9 ⟨o9,p9⟩;refine hK.out _ _ o9 (fun _=>?_);clear hK K
       try simp only [Act.put,Yaa,Yab,Yac]
       have b9:=b8.past p9;have b9N:=b8N;refine wpAnyH_take (i:=7) (oi:=o2mc) (v:=?tv18) rfl (by kernel_rfl) (by kernel_rfl) (by kernel_rfl) (fun _ _ _ h=>h) (Or.inl ⟨by rfl,?th18⟩) o9 ?tr18
       case th18=>(intro w hSw;go_simp;try with_reducible rfl)
       try simp only [Act.put,Yaa,Yab,Yac]
       refine wpAnyH_take (i:=8) (oi:=o3mc) (v:=?tv19) rfl (by kernel_rfl) (by kernel_rfl) (by kernel_rfl) (fun _ _ _ h=>h) (Or.inl ⟨by rfl,?th19⟩) o9 ?tr19
       case th19=>(intro w hSw;go_simp;try with_reducible rfl)
       try simp only [Act.put,Yaa,Yab,Yac]
       refine wpAnyH_take (i:=9) (oi:=o4mc) (v:=?tv20) rfl (by kernel_rfl) (by kernel_rfl) (by kernel_rfl) (fun _ _ _ h=>h) (Or.inl ⟨by rfl,?th20⟩) o9 ?tr20
       case th20=>(intro w hSw;go_simp;try with_reducible rfl)
       try simp only [Act.put,Yaa,Yab,Yac]
       refine wpAnyH_ready (rs:=[11]) (by kernel_rfl) (by simp) ?_;refine AllReadyH.cons (o:=o5mc) rfl (fun K hK=>?_) AllReadyH.nil;rw [if_pos (by rfl)];refine wp_store_mid 188 (.tmp 8) (.tmp 27) rfl _ 0 TT.toArray rfl rfl (b9.there 0 _ HTT.out.1) HTT.out.2.1 HTT.out.2.2.1 ?_;have FN:=FIN.out _ _ o9 b9 (by have h0:=b9N;exact h0);refine hK.out _ _ FN.2 (fun hH=>?_);clear hK K;simp only [Act.put];refine wpAnyH_take (i:=12) (oi:=o6mc) (v:=?tv21) rfl (by kernel_rfl) (by kernel_rfl) (by kernel_rfl) (fun _ _ _ h=>h) (Or.inl ⟨by rfl,?th21⟩) hH ?tr21
       case th21=>(intro w hSw;go_simp;try with_reducible rfl)
       try simp only [Act.put,Yaa,Yab,Yac]
       refine wpAnyH_done (by kernel_rfl) ?_ _;go_wp2
       go_meet
       case rel=>exact ⟨_,rfl,FN.1,FN.2⟩
 case rest =>
  obtain ⟨N,rfl,hb,ho⟩:=hcut;have B9:=Qaa hb;have O9:=Qaa (O5.out.same ho);clear hb ho;go_wp2_with (first|(refine wpList_load_row rfl 188 (.tmp 8) rfl N rfl 188 TT.toArray (0,0) _ B9.out underlying188 rfl HTT.out.2.1 ?_));refine (TA.out wc).mono ?_;rintro e w9 ⟨v,rfl,own9,o9⟩;have F1:Hid (w9.ownsRow w.heap.size 5 1 v 16 (bl (TAG key xs))∧Only (fun _=>False) w w9):=⟨Qaf own9 O9.out.size,O9.out.same o9⟩;clear own9 o9 TA;go_wp2;go_ret2;exact ⟨_,rfl,F1.out⟩
def ME (key:List Int):Int:=if key.length=32 then 0 else 1
theorem QnM (vk vn:Value) (key nonce:List Int) (h:KN key nonce) (k8:U8 key) (n8:U8 nonce) (w:World) (bk:Bs .u8 w vk key) (bn:Bs .u8 w vn nonce) :
  Calls prog 100 #[vk,vn] w fun e w'=>∃v,e=.returned (.tuple #[v,.int .i64 0])∧Bs .u8 w' v (AKY key nonce)∧NoCap v∧Only (fun _=>False) w w':=by
 have A:=Qaa (Ql1 vk vn key nonce 0 (by decide) k8 n8 w bk bn);rw [show BLe key nonce=0 from if_pos h,show BLt key 0 nonce=BLK key 0 nonce from if_pos h,show ((0:Nat):Int)=0 from rfl] at A;clear bk bn k8 n8 h;go_enter func100,ntmps100;go_wp2_with fail;refine A.out.mono ?_;rintro e w1 ⟨v,rfl,b1,nc1,o1⟩;obtain ⟨ao,cap,rfl,hc⟩:=b1.formN (QcU _ _ _)
 have hc1:(32:Int)≤(cap:Int):=by omega
 have F1:Hid (Bs .u8 w1 (.slice ao 32 cap) (AKY key nonce)∧NoCap (.slice ao 32 cap)∧Only (fun _=>False) w w1):=⟨b1.head (by decide),nc1.cut 32,o1⟩;clear b1 nc1 o1 A;go_wp2;go_ret2;exact ⟨_,rfl,F1.out⟩
theorem QjP (n:Nat) (h:n≤100000000000):fitsC 1 n:=by unfold fitsC;omega
theorem SR1 {key nonce:List Int} (h:KN key nonce) {n:Nat} (hf:fitsC 1 n):SRe key 1 nonce n=0:=by unfold SRe;rw [if_pos h,if_pos hf]
theorem SR1L {key nonce xs:List Int} (h:KN key nonce) (hf:fitsC 1 xs.length):SRt key 1 nonce xs=STR key 1 nonce xs:=by unfold SRt;rw [if_pos h,if_pos hf]
theorem Qta (vk vn va vp:Value) (key nonce ad p:List Int) (h:KN key nonce) (k8:U8 key) (n8:U8 nonce) (a8:U8 ad) (p8:U8 p) (la:ad.length≤100000000000) (lp:p.length≤100000000000) (w:World) (bk:Bs .u8 w vk key) (bn:Bs .u8 w vn nonce) (ba:Bs .u8 w va ad) (na:NoCap va) (bp:Bs .u8 w vp p) :
  Calls prog 67 #[vk,vn,va,vp] w fun e w'=>∃v,e=.returned (.tuple #[v,.int .i64 0])∧w'.ownsRow w.heap.size 5 1 v (p.length+16) (bl (ASL key nonce ad p))∧Only (fun _=>False) w w':=by
 obtain ⟨i0,hi,hz0,hz1,hz2⟩:=info_parts Tryz.infoU8;have T:=Qaa (QnM vk vn key nonce h k8 n8 w bk bn);have S:=Qaa (fun (W:World) (o:Only (fun _=>False) w W)=>QkJ vk vn vp key nonce p 1 (by decide) k8 n8 p8 (by omega) W (bk.past o) (bn.past o) (bp.past o));simp only [SR1 h (QjP _ lp),SR1L h (QjP _ lp),Qcf,show ((1:Nat):Int)=1 from rfl] at S;have HA:=Qaa (And.intro ba (And.intro na (And.intro a8 la)));obtain ⟨ao,ac,rfl⟩:=ba.len;obtain ⟨C,hC⟩:∃C,C=STR key 1 nonce p:=⟨_,rfl⟩;simp only [←hC] at S
 have C8:Hid (U8 C∧C.length=p.length∧ASL key nonce ad p=C++ATG key nonce ad C):=by
  refine ⟨?_,?_,?_⟩
  ·rw [hC];exact QqB _ _ _ _ p8
  ·rw [hC,Qcf]
  ·rw [hC];rfl
 obtain ⟨n,hn⟩:∃n,n=p.length:=⟨_,rfl⟩;rw [←hn] at C8 S lp ⊢;clear bk bn ba na bp k8 n8 a8 p8 h la hC hn;go_enter func67,ntmps67;go_wp2_with fail;refine T.out.mono ?_;rintro e w1 ⟨v1,rfl,b1,nc1,o1⟩;have B1:=Qaa b1;have O1:=Qaa o1;clear b1 nc1 o1 T;go_wp2_with fail;refine (S.out w1 O1.out).mono ?_;rintro e w2 ⟨v2,rfl,own2,o2⟩;have B2:=Qaa (B1.out.past o2);have O2:=Qaa (O1.out.same o2);obtain ⟨co,cc,rfl⟩:=Qad own2;have W2:=Qaa own2;have Z2:=Qaa o2.size;have Z1:=Qaa O1.out.size
 have M:Hid (∀W:World,Only (fun _=>False) w2 W→W=w2.alloc (.cells #[.slice ao ad.length ac,.slice co n cc] 22)→Calls prog 103 #[.slice (some ⟨w2.heap.size,0,none⟩) 2 2] W fun e w'=>∃v,e=.returned v∧w'.ownsRow W.heap.size 5 1 v (ATX ad C).length (bl (ATX ad C))∧Only (fun _=>False) W w'):=fun W o e=>by
  subst e;exact QkQ w2.heap.size _ _ ad C _ (Blk.new w2 22 [_,_]) (HA.out.1.past (O2.out.same o)) HA.out.2.1 HA.out.2.2.2 (Bs.of_own (k:=.u8) (E:=5) (lo:=w1.heap.size) (by rw [C8.out.2.1];exact o.own own2 (fun _ _ f=>f))) (NoCap.of_own own2) (by rw [C8.out.2.1];exact lp)
 have oa:=(Only.refl (fun _=>False) w2).alloc (.cells #[.slice ao ad.length ac,.slice co n cc] 22);have M2:=Qaa (M.out _ oa rfl);obtain ⟨m,hm⟩:∃m,m=ad.length:=⟨_,rfl⟩;rw [←hm] at M2 oa ⊢;have OA:=Qaa oa;clear own2 o2 S O1 B1 M oa hm;go_wp2_with fail;refine M2.out.mono ?_;rintro e w3 ⟨v3,rfl,own3,o3⟩;have O3:=Qaa (OA.out.same o3)
 have P:=Qaa (Qua v1 v3 (AKY key nonce) (ATX ad C) (Qre _ _) (Qtw _ _) (Qtv ad C HA.out.2.2.1 C8.out.1) (by
  have h1:=Qrd ad C;have h2:=HA.out.2.2.2;have h3:=C8.out.2.1
  omega) w3 (B2.out.past O3.out) (Bs.of_own (k:=.u8) (E:=5) own3))
 clear own3 o3 M2 OA B2;go_wp2_with fail;refine P.out.mono ?_;rintro e w4 ⟨v4,rfl,own4,o4⟩;have O4:=Qaa (O3.out.same o4);have W4:Hid (w4.ownsRow w1.heap.size 5 1 (.slice co n cc) n (bl C)):=O4.out.own W2.out (fun _ _ f=>f);have B4:Hid (Bs .u8 w4 v4 (ATG key nonce ad C)∧NoCap v4):=⟨Bs.of_own (k:=.u8) (E:=5) (lo:=w3.heap.size) (by rw [Qd9];exact own4),NoCap.of_own own4⟩;have hle:w1.heap.size≤w4.heap.size:=Nat.le_trans Z2.out O4.out.size;clear own4 o4 P O3;go_wp2_with (at_builtin;refine Qab _ rfl _ _ 22 rfl w1.heap.size 5 i0 (.int .u8 0) 1 underlying22 hi hz0 hz1 hz2 rfl (.slice co n cc) n (bl C) rfl W4.out .u8 v4 (ATG key nonce ad C) rfl B4.out.1 B4.out.2 (by rw [Qd9];unfold maxLen;omega) (by rw [Qd9];omega) hle ?_;intro v5 w5 hown5 hgrow5 hnil5 hob5)
 have F1:Hid (w5.ownsRow w.heap.size 5 1 v5 (n+16) (bl (ASL key nonce ad p))∧Only (fun _=>False) w w5):=by
  refine ⟨Qaf ?_ Z1.out,(O2.out.same O4.out).grown hgrow5 (fun j hj e=>by have:=(W4.out.lt j e).1;have:=Z1.out;omega)⟩;have h5:=hown5;rw [Qd9] at h5;rw [C8.out.2.2,Qq5];exact h5
 clear hown5 hgrow5 hnil5 hob5 W4 B4 O4;go_wp2;go_ret2;exact ⟨_,rfl,F1.out⟩
end Go.Proofs.YtnhapmboienipaaGreatDoor
