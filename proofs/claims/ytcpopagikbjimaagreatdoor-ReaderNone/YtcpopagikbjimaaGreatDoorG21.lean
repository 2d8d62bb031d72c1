import Derived.Test.YtcpopagikbjimaaGreatDoorG20
namespace Go.Proofs.YtcpopagikbjimaaGreatDoor
set_option maxHeartbeats 4000000
set_option maxRecDepth 100000
open Go.RowKit
abbrev Z4 : List Value:=[.int .u64 0,.slice none 0 0,.slice none 0 0,.slice none 0 0]
structure MM (w W : World) (g gm B : Nat) (s : List Int × Int) (cs : List Value) : Prop where
 rd : RDR W g B s
 kr : Blk W w.heap.size 44 Z4
 km : Blk W gm 44 cs
 on : Only (fun _ => False) w W
 s8 : U8 s.1
 sl : s.1.length ≤ 300000000
theorem MM.step {w W W' : World} {g gm B : Nat} {s s' : List Int × Int} {cs : List Value} (h : MM w W g gm B s cs) (r : RDR W' g B s') (o : Only (fun k => k = g) W W') (hg : w.heap.size < g) (hm : gm ≠ g) (h8 : U8 s'.1) (hl : s'.1.length ≤ 300000000) : MM w W' g gm B s' cs :=
 ⟨r,h.kr.keep o (fun e => by omega),h.km.keep o (fun e => hm e),h.on.trans o (fun i hi e => by omega),h8,hl⟩
theorem MM.put {w W : World} {g gm B : Nat} {s : List Int × Int} {cs : List Value} (h : MM w W g gm B s cs) (j : Nat) (v : Value) (hm : gm ≠ g) (hw : w.heap.size < gm) (hB : B ≤ gm) : MM w (W.setCell ⟨gm,j,none⟩ v) g gm B s (cs.set j v):=by
 have o : Only (fun k => k = gm) W (W.setCell ⟨gm,j,none⟩ v):=(Only.refl (fun k => k = gm) _).setCell (p:=⟨gm,j,none⟩) (fun _ => rfl) _;exact ⟨h.rd.keepB o (fun e => hm e.symm) (fun i hi e => by omega),h.kr.keep o (fun e => by omega),h.km.set j v,h.on.trans o (fun i hi e => by omega),h.s8,h.sl⟩
theorem Qba {W : World} {gm j : Nat} {v : Value} : Only (fun k => k = gm) W (W.setCell ⟨gm,j,none⟩ v):=(Only.refl (fun k => k = gm) _).setCell (p:=⟨gm,j,none⟩) (fun _ => rfl) _
theorem MM.past {w W W' : World} {g gm B : Nat} {s : List Int × Int} {cs : List Value} (h : MM w W g gm B s cs) (o : Only (fun _ => False) W W') : MM w W' g gm B s cs :=
 ⟨h.rd.past o,h.kr.past o,h.km.past o,h.on.same o,h.s8,h.sl⟩
theorem QiP (V : List Int) (k : Nat) (h8 : U8 V) (hl : V.length ≤ 8) (hk : k < V.length) : num (V.take (k + 1)) = 256 * num (V.take k) + (V.getD k 0).toNat ∧ num (V.take k) < 72057594037927936 ∧ 0 ≤ V.getD k 0 ∧ V.getD k 0 ≤ 255:=by
 have e : V.take (k + 1) = V.take k ++ [V.getD k 0]:=by
  rw [List.take_add_one,List.getElem?_eq_getElem hk,List.getD_eq_getElem?_getD,List.getElem?_eq_getElem hk];rfl
 have hy:=h8 _ (Qat (d:=0) hk);refine ⟨by rw [e,QbQ],?_,hy.1,hy.2⟩;have:=Qfc (V.take k) (fun y hy => h8 y (List.mem_of_mem_take hy));rw [List.length_take,Nat.min_eq_left (by omega)] at this;refine Nat.lt_of_lt_of_le this ?_;exact Nat.pow_le_pow_right (by decide) (by omega : k ≤ 7)
theorem Qdy : ∀ y ∈ Z4,∀ x,y ≠ .int .u8 x:=fun y hy x => by
 simp only [Z4,List.mem_cons,List.not_mem_nil,or_false] at hy
 rcases hy with rfl | rfl | rfl | rfl <;> (intro h;cases h)
theorem Qca (ver : Int) (a b c : Option Addr) (i j k i' j' k' : Nat) : ∀ y ∈ [Value.int .u64 ver,.slice a i i',.slice b j j',.slice c k k'],∀ x,y ≠ .int .u8 x:=fun y hy x => by
 simp only [List.mem_cons,List.not_mem_nil,or_false] at hy
 rcases hy with rfl | rfl | rfl | rfl <;> (intro h;cases h)
theorem Qfw (ver : Int) (a b c : Option Addr) (i j k i' j' k' : Nat) : ∀ y ∈ [Value.int .u64 ver,.slice a i i',.slice b j j',.slice c k k'],∀ x,y ≠ .string x:=fun y hy x => by
 simp only [List.mem_cons,List.not_mem_nil,or_false] at hy
 rcases hy with rfl | rfl | rfl | rfl <;> (intro h;cases h)
abbrev Qbb (fl : List Bool) : List Value:=fl.map Value.bool
theorem Qjy (fl : List Bool) : ∀ y ∈ Qbb fl,∀ x,y ≠ .int .u8 x:=fun y hy x => by
 obtain ⟨b,_,rfl⟩:=List.mem_map.1 hy;intro h;cases h
theorem Qkk (fl : List Bool) : ∀ y ∈ Qbb fl,∀ x,y ≠ .string x:=fun y hy x => by
 obtain ⟨b,_,rfl⟩:=List.mem_map.1 hy;intro h;cases h
theorem Tryz.infoBo : (Tryz.prog.info? 4).map (fun i => (i.zero,i.size,i.bytes)) = some (some (.bool false),1,1):=by kernel_rfl
theorem QiQ (w : World) (n : Nat) (hn : n ≤ 400000000) : ∃ w1,(Instr.makeSlice 83 (.int .i64 (n : Int)) (.int .i64 (n : Int))).run Tryz.prog w = .ok (.slice (some ⟨w.heap.size,0,none⟩) n n) w1 ∧ Blk w1 w.heap.size 4 (Qbb (List.replicate n false)) ∧ Only (fun _ => False) w w1:=by
 obtain ⟨i0,hi,hz0,hz1,hz2⟩:=info_parts Tryz.infoBo;obtain ⟨wm,hmk,hown,hgr⟩:=run_make_full (P:=Tryz.prog) w w.heap.size 83 4 i0 (.bool false) 1 Tryz.underlying83 hi hz0 hz1 .i64 .i64 n (by rw [hz2];omega) (by unfold maxLen;omega) (Nat.le_refl _);refine ⟨wm,hmk,?_,(Only.refl _ _).grown hgr (fun k _ e => by cases e)⟩
 rcases hown.2 with ⟨h',_⟩ | ⟨g',cap',cur,h',_,hg,_,_,hcs,ht⟩
 ·simp at h'
 ·simp only [Value.slice.injEq,Option.some.injEq,Addr.mk.injEq,and_true,true_and] at h'
  obtain ⟨rfl,rfl⟩:=h'
  have e1 : cur = (Qbb (List.replicate n false)).toArray:=by
   apply Array.toList_inj.1
   rw [List.take_of_length_le (by simp;omega)] at ht;rw [ht,Nat.mul_one,show (Value.bool false).cells = #[.bool false] from rfl,toList_madeCells_one];simp [Qbb]
  rw [e1] at hg;exact hg
structure LP (w W : World) (g gm gu lo B : Nat) (s : List Int × Int) (ver : Int) (ap au : Option Addr) (np pc nu cu : Nat) (vt : Value) (PV : List Int) (T : List (List Int)) (fl : List Bool) (es : List (List Int × Int)) : Prop where
 mm : MM w W g gm B s [.int .u64 ver,.slice ap np pc,.slice au nu cu,.slice none 0 0]
 bp : Bs .u8 W (.slice ap np pc) PV
 ts : Sts W vt T
 ub : Blk W gu 4 (Qbb fl)
 eo : W.ownsRow lo 61 2 (.slice au nu cu) es.length (QaK es)
 sz : lo ≤ W.heap.size
structure LO6 (w : World) (g gm gu lo B : Nat) (ap : Option Addr) (np pc : Nat) (vt : Value) (PV : List Int) : Prop where
 a : w.heap.size < g
 b : g < gm
 c : gm < gu
 d : gu < lo
 e : B = w.heap.size
 tb : ∀ j,vt.ownBlock = some j → j < lo
 pb : PV ≠ [] → ∀ j,(Value.slice ap np pc).ownBlock = some j → j < lo
section
variable {w W W' : World} {g gm gu lo B : Nat} {s s' : List Int × Int} {ver : Int} {ap au : Option Addr} {np pc nu cu : Nat} {vt : Value} {PV : List Int} {T : List (List Int)} {fl : List Bool} {es : List (List Int × Int)}
theorem LP.read (h : LP w W g gm gu lo B s ver ap au np pc nu cu vt PV T fl es) (k : LO6 w g gm gu lo B ap np pc vt PV) (r : RDR W' g B s') (o : Only (fun k => k = g) W W') (h8 : U8 s'.1) (hl : s'.1.length ≤ 300000000) : LP w W' g gm gu lo B s' ver ap au np pc nu cu vt PV T fl es:=by
 have:=k.a;have:=k.b;have:=k.c;have:=k.d;exact ⟨h.mm.step r o k.a (by omega) h8 hl,h.bp.offR h.mm.rd o,h.ts.offR h.mm.rd o,h.ub.keep o (fun e => by omega),o.own h.eo (fun j hj e => by have:=(h.eo.lt j hj).1;omega),Nat.le_trans h.sz o.size⟩
theorem LP.mark (h : LP w W g gm gu lo B s ver ap au np pc nu cu vt PV T fl es) (k : LO6 w g gm gu lo B ap np pc vt PV) (i : Nat) : LP w (W.setCell ⟨gu,i,none⟩ (.bool true)) g gm gu lo B s ver ap au np pc nu cu vt PV T (fl.set i true) es:=by
 have:=k.a;have:=k.b;have:=k.c;have:=k.d;have:=k.e;have o : Only (fun k => k = gu) W (W.setCell ⟨gu,i,none⟩ (.bool true)):=Qba;refine ⟨⟨h.mm.rd.keepB o (fun e => by omega) (fun j hj e => by omega),h.mm.kr.keep o (fun e => by omega),h.mm.km.keep o (fun e => by omega),h.mm.on.trans o (fun j hj e => by omega),h.mm.s8,h.mm.sl⟩,h.bp.offB h.ub (Qjy _) o,h.ts.offB h.ub (Qkk _) o,?_,o.own h.eo (fun j hj e => by have:=(h.eo.lt j hj).1;omega),Nat.le_trans h.sz o.size⟩;have:=h.ub.set i (.bool true);rw [Qbb,List.map_set];exact this
theorem LP.add (h : LP w W g gm gu lo B s ver ap au np pc nu cu vt PV T fl es) (k : LO6 w g gm gu lo B ap np pc vt PV) {e : List Int × Int} {au' : Option Addr} {nu' cu' : Nat} (og : Only (fun j => (Value.slice au nu cu).ownBlock = some j) W W') (eo' : W'.ownsRow lo 61 2 (.slice au' nu' cu') (es.length + 1) (QaK es ++ [.string (strOfNums e.1),.int .i64 e.2])) :
  LP w (W'.setCell ⟨gm,2,none⟩ (.slice au' nu' cu')) g gm gu lo B s ver ap au' np pc nu' cu' vt PV T fl (es ++ [e]):=by
 have:=k.a;have:=k.b;have:=k.c;have:=k.d;have:=k.e
 have hlo : ∀ j,(Value.slice au nu cu).ownBlock = some j → lo ≤ j:=fun j hj => (h.eo.lt j hj).1
 have mm1 : MM w W' g gm B s [.int .u64 ver,.slice ap np pc,.slice au nu cu,.slice none 0 0]:=⟨h.mm.rd.keepB og (fun e => by have:=hlo _ e;omega) (fun j hj e => by have:=hlo _ e;omega),h.mm.kr.keep og (fun e => by have:=hlo _ e;omega),h.mm.km.keep og (fun e => by have:=hlo _ e;omega),h.mm.on.trans og (fun j hj e => by have:=hlo _ e;have:=h.mm.on.size;omega),h.mm.s8,h.mm.sl⟩
 have bp1 : Bs .u8 W' (.slice ap np pc) PV:=by
  by_cases h0 : PV = []
  ·have hl:=h.bp.length
   rw [h0] at hl ⊢;exact ⟨ap,pc,by rw [hl],Nat.zero_le _,fun z => absurd rfl z⟩
  ·exact h.bp.keep og (fun j e e' => by have:=hlo _ e';have:=k.pb h0 j e;omega)
 have ts1 : Sts W' vt T:=h.ts.keep og (fun j e e' => by have:=hlo _ e';have:=k.tb j e;omega);have ub1:=h.ub.keep og (fun e => by have:=hlo _ e;omega);have o2 : Only (fun k => k = gm) W' (W'.setCell ⟨gm,2,none⟩ (.slice au' nu' cu')):=Qba;refine ⟨mm1.put 2 _ (by omega) (by omega) (by omega),bp1.offB mm1.km (Qca _ _ _ _ _ _ _ _ _ _) o2,ts1.offB mm1.km (Qfw _ _ _ _ _ _ _ _ _ _) o2,ub1.keep o2 (fun e => by omega),?_,Nat.le_trans h.sz (Nat.le_trans og.size o2.size)⟩;have:=o2.own eo' (fun j hj e => by have:=(eo'.lt j hj).1;omega);rw [List.length_append,QcK];exact this
end
structure FP (w W : World) (g gm gu lo B : Nat) (s : List Int × Int) (ver : Int) (ap au ar : Option Addr) (np pc nu cu nr rc : Nat) (PV RV : List Int) (fl : List Bool) (es : List (List Int × Int)) : Prop where
 mm : MM w W g gm B s [.int .u64 ver,.slice ap np pc,.slice au nu cu,.slice ar nr rc]
 bp : Bs .u8 W (.slice ap np pc) PV
 br : Bs .u8 W (.slice ar nr rc) RV
 ub : Blk W gu 4 (Qbb fl)
 eo : W.ownsRow lo 61 2 (.slice au nu cu) es.length (QaK es)
section
variable {w W W' : World} {g gm gu lo B : Nat} {s s' : List Int × Int} {ver : Int} {ap au ar : Option Addr} {np pc nu cu nr rc : Nat} {vt : Value} {PV RV : List Int} {T : List (List Int)} {fl : List Bool} {es : List (List Int × Int)}
theorem LP.fin (h : LP w W g gm gu lo B s ver ap au np pc nu cu vt PV T fl es) (k : LO6 w g gm gu lo B ap np pc vt PV) (br : Bs .u8 W (.slice ar nr rc) RV) : FP w (W.setCell ⟨gm,3,none⟩ (.slice ar nr rc)) g gm gu lo B s ver ap au ar np pc nu cu nr rc PV RV fl es:=by
 have:=k.a;have:=k.b;have:=k.c;have:=k.d;have:=k.e;have o : Only (fun k => k = gm) W (W.setCell ⟨gm,3,none⟩ (.slice ar nr rc)):=Qba;exact ⟨h.mm.put 3 _ (by omega) (by omega) (by omega),h.bp.offB h.mm.km (Qca _ _ _ _ _ _ _ _ _ _) o,br.offB h.mm.km (Qca _ _ _ _ _ _ _ _ _ _) o,h.ub.keep o (fun e => by omega),o.own h.eo (fun j hj e => by have:=(h.eo.lt j hj).1;omega)⟩
theorem FP.read (h : FP w W g gm gu lo B s ver ap au ar np pc nu cu nr rc PV RV fl es) (k : LO6 w g gm gu lo B ap np pc vt PV) (r : RDR W' g B s') (o : Only (fun k => k = g) W W') (h8 : U8 s'.1) (hl : s'.1.length ≤ 300000000) : FP w W' g gm gu lo B s' ver ap au ar np pc nu cu nr rc PV RV fl es:=by
 have:=k.a;have:=k.b;have:=k.c;have:=k.d;exact ⟨h.mm.step r o k.a (by omega) h8 hl,h.bp.offR h.mm.rd o,h.br.offR h.mm.rd o,h.ub.keep o (fun e => by omega),o.own h.eo (fun j hj e => by have:=(h.eo.lt j hj).1;omega)⟩
end
theorem Qkl (ts : List (Nat × List Int)) (n a : Nat) (y : List Int) : ((List.range n).map (usd ts)).set a true = (List.range n).map (usd (ts ++ [(a,y)])):=by
 apply List.ext_getElem
 ·simp
 ·intro i h1 h2
  rw [List.getElem_set];simp only [List.getElem_map,List.getElem_range,QiU]
  by_cases h : a = i
  ·simp [h]
  ·rw [if_neg h,beq_eq_false_iff_ne.2 h,Bool.or_false]
theorem Qdz (v : Value) (ys : List Int) (w : World) (h : Bs .u8 w v ys) (nc : NoCap v) (h8 : U8 ys) (hl : ys.length ≤ 300000000) :
  Calls Tryz.prog 19 #[v] w fun e w' => ∃ x vp ve vr,e = .returned (.tuple #[x,.int .i64 (MDe ys)]) ∧ Mf w' x (MDv ys) vp ve vr ∧ Only (fun _ => False) w w':=by
 obtain ⟨ao,cap,rfl⟩:=h.len;have oa : Only (fun _ => False) w ((w.alloc (.cells #[.int .u64 0,.slice none 0 0,.slice none 0 0,.slice none 0 0] 44)).alloc (.cells #[.slice ao ys.length cap,.int .i64 0] 77)):=((Only.refl _ _).alloc _).alloc _
 have R0 : RDR ((w.alloc (.cells #[.int .u64 0,.slice none 0 0,.slice none 0 0,.slice none 0 0] 44)).alloc (.cells #[.slice ao ys.length cap,.int .i64 0] 77)) (w.heap.size + 1) w.heap.size (ys,0) :=
  ⟨ao,cap,Blk.newIn (size_alloc _ _) _ [.slice ao ys.length cap,.int .i64 0],h.past oa,nc,fun hne j e => h.blk_lt hne j e⟩
 have KR:=Qaa ((Blk.new w 44 Z4).alloc (.cells #[.slice ao ys.length cap,.int .i64 0] 77));have A1:=Qaa (QbZ _ _ _ 4 _ R0 (by simp only;omega));rw [show ((4 : Nat) : Int) = 4 from rfl] at A1;have Q1:=Qaa (Qkm ys);obtain ⟨l1,_⟩:=Qb1 4 (ys,0);obtain ⟨u1,_⟩:=rB_u8 4 (ys,0) h8;simp only at l1;obtain ⟨H,hH⟩ : ∃ H,H = (rB 4 (ys,0)).1:=⟨_,rfl⟩;obtain ⟨s1,hs1⟩ : ∃ s1,s1 = (rB 4 (ys,0)).2:=⟨_,rfl⟩
 have hHl : H.length ≤ 4:=by rw [hH];exact (Qb1 4 (ys,0)).2
 rw [← hH,← hs1] at A1 Q1;rw [← hs1] at l1 u1;have OA:=Qaa oa;have F1:=Qaa (And.intro u1 (Nat.le_trans l1 hl));obtain ⟨g,hg⟩ : ∃ g,g = w.heap.size + 1:=⟨_,rfl⟩;rw [← hg] at A1;have HG:=Qaa hg;obtain ⟨n0,hn0⟩ : ∃ n0,n0 = ys.length:=⟨_,rfl⟩;rw [← hn0] at A1 OA KR;rw [← hn0];obtain ⟨ZE,hZE⟩ : ∃ ZE,ZE = MDe ys:=⟨_,rfl⟩;obtain ⟨ZV,hZV⟩ : ∃ ZV,ZV = MDv ys:=⟨_,rfl⟩;rw [← hZE,← hZV];have HZ:=Qaa (And.intro hZE hZV);clear h nc h8 hl oa R0 l1 u1 hH hs1 hg hn0 hZE hZV;go_enter Tryz.func19,Tryz.ntmps19;go_wp2_with fail;rw [← HG.out];refine A1.out.mono ?_;rintro e w1 ⟨vh,rfl,bh,r1,o1⟩;have S:=Qaa (QiX vh (.slice (some ⟨w1.heap.size,0,none⟩) 4 4) H MHD (w1.alloc (.cells #[.int .u8 67,.int .u8 83,.int .u8 75,.int .u8 49] 5)) (bh.past ((Only.refl _ _).alloc _)) (Bs.litN .u8 w1 5 [67,83,75,49] _ _ rfl rfl) (by omega));have KR1:=Qaa (KR.out.keep o1 (fun e => by have:=HG.out;omega));have O1:=Qaa (OA.out.trans o1 (fun i hi e => by have:=HG.out;omega));have R1:=Qaa (r1.past ((Only.refl _ _).alloc (.cells #[.int .u8 67,.int .u8 83,.int .u8 75,.int .u8 49] 5)));clear A1 bh r1 o1 KR OA;go_wp2_with fail;refine S.out.mono ?_;rintro e w2 ⟨rfl,o2⟩;have N:=Qaa (QaT g w.heap.size s1 (decide (H = MHD)) 3 w2 (R1.out.past o2));have KR2:=Qaa ((KR1.out.alloc (.cells #[.int .u8 67,.int .u8 83,.int .u8 75,.int .u8 49] 5)).past o2);have O2:=Qaa ((O1.out.alloc (.cells #[.int .u8 67,.int .u8 83,.int .u8 75,.int .u8 49] 5)).same o2);clear S o2 R1 KR1 O1;go_wp2_with fail;refine N.out.mono ?_;rintro e w3 ⟨rfl,r3,o3⟩;obtain ⟨s2,hs2⟩ : ∃ s2,s2 = rN (decide (H = MHD)) 3 s1:=⟨_,rfl⟩
 have e2 : s2.1 = s1.1:=by rw [hs2];rfl
 rw [← hs2] at r3 Q1
 have M3 : Hid (MM w (w3.alloc (.cells #[.int .u64 0,.slice none 0 0,.slice none 0 0,.slice none 0 0] 44)) g w3.heap.size w.heap.size s2 Z4) :=
  ⟨r3.past ((Only.refl _ _).alloc _),(KR2.out.keep o3 (fun e => by have:=HG.out;omega)).alloc _,Blk.new w3 44 Z4,(O2.out.trans o3 (fun i hi e => by have:=HG.out;omega)).alloc _,by rw [e2];exact F1.out.1,by rw [e2];exact F1.out.2⟩
 have HM3 : Hid (g < w3.heap.size):=r3.lt;clear N r3 o3 KR2 O2 F1 hs2 e2;obtain ⟨gm,hgm⟩ : ∃ gm,gm = w3.heap.size:=⟨_,rfl⟩;have HGM:=Qaa hgm;rw [← hgm] at M3 HM3;clear hgm;have A2:=Qaa (QbZ _ _ _ 8 _ M3.out.rd (Nat.le_trans M3.out.sl (by decide)));rw [show ((8 : Nat) : Int) = 8 from rfl] at A2;go_wp2_with fail;obtain ⟨ZA,hZA⟩ : ∃ ZA,ZA = w3.alloc (.cells #[.int .u64 0,.slice none 0 0,.slice none 0 0,.slice none 0 0] 44):=⟨_,rfl⟩;rw [← hZA] at M3 A2;rw [← hZA];clear hZA;rw [← HGM.out];refine A2.out.mono ?_;rintro e w4 ⟨vv,rfl,bv,r4,o4⟩;obtain ⟨l4,lv⟩:=Qb1 8 s2;obtain ⟨u4,uv⟩:=rB_u8 8 s2 M3.out.s8;have Q2:=Qaa (QiR Q1.out);have M4:=Qaa (M3.out.step r4 o4 (by have:=HG.out;omega) (by have:=HM3.out;omega) u4 (Nat.le_trans l4 M3.out.sl));obtain ⟨V,hV⟩ : ∃ V,V = (rB 8 s2).1:=⟨_,rfl⟩;obtain ⟨s3,hs3⟩ : ∃ s3,s3 = (rB 8 s2).2:=⟨_,rfl⟩;rw [← hV,← hs3] at Q2;rw [← hV] at bv lv uv;rw [← hs3] at M4;obtain ⟨av,cv,rfl⟩:=bv.len;have BV:=Qaa bv;have UV:=Qaa uv;have LV:=Qaa lv;obtain ⟨n8,hn8⟩ : ∃ n8,n8 = V.length:=⟨_,rfl⟩;have HN8:=Qaa hn8
 have hn8b : n8 ≤ 8:=by rw [hn8];exact lv
 rw [← hn8] at BV;rw [← hn8];clear A2 bv r4 o4 l4 lv u4 uv hV hs3 hn8 M3 Q1;go_wp2_with fail
 go_loopw [8] (fun i wr => ∃ k : Nat,k ≤ n8 ∧ i = .int .i64 k ∧ MM w wr g gm w.heap.size s3 [.int .u64 (num (V.take k) : Nat),.slice none 0 0,.slice none 0 0,.slice none 0 0] ∧ Bs .u8 wr (.slice av n8 cv) V) (fun i _ => n8 - (intOf i).toNat)
 case atStart => exact ⟨0,Nat.zero_le _,rfl,M4.out,BV.out⟩
 case round =>
  clear M4 BV;obtain ⟨k,hk,rfl,mm,bv⟩:=hrel;have kc:=mm.km.cell 0;have kf:=mm.km.froz 0;simp only [List.getElem?_cons_zero] at kc;have MK:=Qaa mm;have BV:=Qaa bv
  by_cases hlt : k < n8
  ·obtain ⟨b,off,cap',e,hcl⟩:=bv.at k (by rw [← HN8.out];exact hlt)
   simp only [Value.slice.injEq] at e;obtain ⟨rfl,hmx,rfl⟩:=e;have SN:=Qaa (QiP V k UV.out LV.out (by rw [← HN8.out];exact hlt));obtain ⟨ha,hb1,hb2,hb3⟩:=SN.out;obtain ⟨y,hy⟩ : ∃ y,y = V.getD k 0:=⟨_,rfl⟩;rw [← hy] at hcl ha hb2 hb3 SN;obtain ⟨x,hx⟩ : ∃ x,x = num (V.take k):=⟨_,rfl⟩;rw [← hx] at kc ha hb1 MK SN
   have m1 : IntKind.u64.wrap ((x : Int) * 256) = (x : Int) * 256:=by rw [IntKind.wrap_u64];omega
   have m2 : IntKind.u64.wrap ((x : Int) * 256 + y) = (x : Int) * 256 + y:=by rw [IntKind.wrap_u64];omega
   have m3 : IntKind.u64.wrap y = y:=by rw [IntKind.wrap_u64];omega
   have i0 : (0 : Int) ≤ (k : Int):=by omega
   have i1 : (k : Int) < (n8 : Int):=by omega
   clear mm bv hmx hy hx ha hb1 hb2 hb3;go_wp2_with fail;go_region
   have MN : Hid (MM w (wr.drew.setCell ⟨gm,0,none⟩ (.int .u64 ((x : Int) * 256 + y))) g gm w.heap.size s3 [.int .u64 (num (V.take (k + 1)) : Nat),.slice none 0 0,.slice none 0 0,.slice none 0 0] ∧ Bs .u8 (wr.drew.setCell ⟨gm,0,none⟩ (.int .u64 ((x : Int) * 256 + y))) (.slice (some ⟨b,off,none⟩) n8 cv) V):=by
    have od : Only (fun _ => False) wr wr.drew:=(Only.refl _ _).drew;have hgm:=HM3.out;have hgg:=HG.out;obtain ⟨ha,_,hb2,hb3⟩:=SN.out
    have e : ((num (V.take (k + 1)) : Nat) : Int) = (x : Int) * 256 + y:=by rw [ha];omega
    rw [e];exact ⟨(MK.out.past od).put 0 _ (by omega) (by omega) (by omega),(BV.out.past od).offB (MK.out.past od).km (Qca _ _ _ _ _ _ _ _ _ _) Qba⟩
   clear MK BV SN kc kf hcl;go_wp2
   go_roundw
   case rel => exact ⟨k + 1,by omega,by go_num,MN.out⟩
   case measure => simp [intOf];omega
  ·obtain rfl : k = n8:=by omega
   have hVt : V.take k = V:=by rw [HN8.out];exact List.take_length
   rw [hVt] at kc MK;obtain ⟨x,hx⟩ : ∃ x,x = num V:=⟨_,rfl⟩;rw [← hx] at kc MK Q2;obtain ⟨b2,hb2⟩ : ∃ b2,b2 = decide (x ≠ 18446744073709551615):=⟨_,rfl⟩;rw [← hb2] at Q2
   have dq : ((x : Int) != 18446744073709551615) = b2:=by
    rw [hb2]
    by_cases hq : x = 18446744073709551615
    ·subst hq;rfl
    ·rw [decide_eq_true hq];simp;omega
   have N:=Qaa (QaT g w.heap.size s3 b2 3 wr MK.out.rd)
   have HX : Hid (x < 18446744073709551616):=by
    simp only [Hid];rw [hx];have:=Qfc V UV.out;refine Nat.lt_of_lt_of_le this ?_;exact Nat.le_trans (Nat.pow_le_pow_right (by decide) LV.out) (by decide)
   clear mm bv hVt hx hb2 hlt BV UV LV HN8 hn8b hk;go_wp2_with fail;refine N.out.mono ?_;rintro e w5 ⟨rfl,r5,o5⟩;have hgm:=HM3.out;have hgg:=HG.out;have M5:=Qaa (MK.out.step r5 o5 (by omega) (by omega) MK.out.s8 MK.out.sl);obtain ⟨s4,hs4⟩ : ∃ s4,s4 = rN b2 3 s3:=⟨_,rfl⟩;rw [← hs4] at M5 Q2;clear hgm hgg hs4 r5 o5 N MK kc kf dq;have A3:=Qaa (QbZ _ _ _ 32 _ M5.out.rd (Nat.le_trans M5.out.sl (by decide)));rw [show ((32 : Nat) : Int) = 32 from rfl] at A3;go_wp2_with fail;refine A3.out.mono ?_;rintro e w6 ⟨vp,rfl,bp,r6,o6⟩;have hgm:=HM3.out;have hgg:=HG.out;obtain ⟨l6,lp⟩:=Qb1 32 s4;obtain ⟨u6,up⟩:=rB_u8 32 s4 M5.out.s8;have M6:=Qaa (M5.out.step r6 o6 (by omega) (by omega) u6 (Nat.le_trans l6 M5.out.sl));have Q3:=Qaa (Qhr Q2.out);obtain ⟨PV,hPV⟩ : ∃ PV,PV = (rB 32 s4).1:=⟨_,rfl⟩;obtain ⟨s5,hs5⟩ : ∃ s5,s5 = (rB 32 s4).2:=⟨_,rfl⟩;rw [← hPV,← hs5] at Q3;rw [← hs5] at M6;rw [← hPV] at bp;obtain ⟨ap,pc,rfl⟩:=bp.len;obtain ⟨np,hnp⟩ : ∃ np,np = PV.length:=⟨_,rfl⟩;have HNP:=Qaa hnp;rw [← hnp] at bp;rw [← hnp];have kc1:=M6.out.km.cell 1;have kf1:=M6.out.km.froz 1;simp only [List.getElem?_cons_zero,List.getElem?_cons_succ] at kc1;have BP0:=Qaa bp;clear A3 bp r6 o6 l6 lp u6 up hPV hs5 hnp M5 Q2 hgm hgg;go_wp2_with fail;obtain ⟨W6,hW6⟩ : ∃ W6,W6 = w6.setCell ⟨gm,1,none⟩ (.slice ap np pc):=⟨_,rfl⟩
   have M6s : Hid (MM w W6 g gm w.heap.size s5 [.int .u64 (x : Int),.slice ap np pc,.slice none 0 0,.slice none 0 0]):=by
    have hgm:=HM3.out;have hgg:=HG.out;simp only [Hid];rw [hW6];exact M6.out.put 1 (.slice ap np pc) (by omega) (by omega) (by omega)
   have BP:=Qaa (BP0.out.offB M6.out.km (Qca _ _ _ _ _ _ _ _ _ _) (Qba (j:=1) (v:=.slice ap np pc)));rw [← hW6] at BP;rw [← hW6];clear hW6 M6 BP0 kc1 kf1;have A4:=Qaa (Qk0 g w.heap.size s5 W6 M6s.out.rd M6s.out.s8 M6s.out.sl M6s.out.on.size);refine A4.out.mono ?_;rintro e w7 ⟨vt,T,s6,rfl,own7,hT1,hTa,r7,u7,l7,dq7,o7⟩;have hgm:=HM3.out;have hgg:=HG.out;have M7:=Qaa (M6s.out.step r7 o7 (by omega) (by omega) u7 l7);have BP7:=Qaa (BP.out.offR M6s.out.rd o7);have Q4:=Qaa (QiS Q3.out dq7);obtain ⟨at1,ct1,rfl⟩:=Qb2 own7;have TS7:=Qaa (Sts.of_own own7)
   have TB7 : Hid (∀ j,(Value.slice at1 T.length ct1).ownBlock = some j → j < w7.heap.size):=fun j hj => (own7.lt j hj).2
   obtain ⟨nn,hnn,hn64⟩:=Qhn u7;obtain ⟨D,hD,hs8,hsl,hfin⟩:=Qhs Q4.out u7 nn hnn;have A5:=Qaa (QcN g w.heap.size s6 w7 r7 u7);rw [hnn] at A5;have FIN:=Qaa hfin;obtain ⟨s7,hs7⟩ : ∃ s7,s7 = (rV s6).2:=⟨_,rfl⟩;rw [← hs7] at A5 hD hs8 hsl;obtain ⟨L6,hL6⟩ : ∃ L6,L6 = s6.1.length:=⟨_,rfl⟩
   have v7 : U8 s7.1:=by rw [hs7];exact rV_u8 u7
   have x7 : s7.1.length ≤ 300000000:=by rw [hs7];exact Nat.le_trans (Qhu s6) l7
   obtain ⟨b7,hb7⟩ : ∃ b7,b7 = decide ((nn : Int) ≤ 1048576):=⟨_,rfl⟩;rw [← hb7] at hD hs8 hsl;have dq8 : decide ((nn : Int) ≤ 1048576) = b7:=hb7.symm;obtain ⟨s8,hs8e⟩ : ∃ s8,s8 = rN b7 4 s7:=⟨_,rfl⟩;rw [← hs8e] at hD hs8 hsl;have HS8:=Qaa hs8e;have P8:=Qaa (And.intro hD (And.intro hs8 (Nat.le_trans hsl l7)));have V7:=Qaa (And.intro v7 x7);obtain ⟨t,ht⟩ : ∃ t,t = T.length:=⟨_,rfl⟩;have HT:=Qaa ht
   have ht1 : t ≤ 300000001:=by rw [ht];exact hT1
   have HTA:=Qaa hTa;rw [← ht] at TS7 TB7;rw [← ht];clear A4 own7 hT1 hTa r7 u7 l7 dq7 o7 hgm hgg hnn hD hs8 hsl hfin hs7 hL6 v7 x7 hb7 hs8e ht M6s BP Q3;go_wp2_with fail;refine A5.out.mono ?_;rintro e w8 ⟨rfl,r8,o8⟩;have hgm:=HM3.out;have hgg:=HG.out;have M8:=Qaa (M7.out.step r8 o8 (by omega) (by omega) V7.out.1 V7.out.2);have BP8:=Qaa (BP7.out.offR M7.out.rd o8);have TS8:=Qaa (TS7.out.offR M7.out.rd o8)
   have TB8 : Hid (∀ j,(Value.slice at1 t ct1).ownBlock = some j → j < w8.heap.size):=fun j hj => Nat.lt_of_lt_of_le (TB7.out j hj) o8.size
   have N8:=Qaa (QaT g w.heap.size s7 b7 4 w8 r8);clear A5 r8 o8 hgm hgg M7 BP7 TS7 TB7;go_wp2_with fail;refine N8.out.mono ?_;rintro e w9 ⟨rfl,r9,o9⟩;rw [← HS8.out] at r9;have hgm:=HM3.out;have hgg:=HG.out;have M9:=Qaa (M8.out.step r9 o9 (by omega) (by omega) P8.out.2.1 P8.out.2.2);have BP9:=Qaa (BP8.out.offR M8.out.rd o9);have TS9:=Qaa (TS8.out.offR M8.out.rd o9)
   have TB9 : Hid (∀ j,(Value.slice at1 t ct1).ownBlock = some j → j < w9.heap.size):=fun j hj => Nat.lt_of_lt_of_le (TB8.out j hj) o9.size
   obtain ⟨wa,hmk,hub,oa⟩:=QiQ w9 t (by omega);have hgs:=M9.out.km.lt;have Ma:=Qaa (M9.out.past oa);have BPa:=Qaa (BP9.out.past oa);have TSa:=Qaa (TS9.out.past oa);obtain ⟨gu,hgu⟩ : ∃ gu,gu = w9.heap.size:=⟨_,rfl⟩
   have KO : Hid (LO6 w g gm gu wa.heap.size w.heap.size ap np pc (.slice at1 t ct1) PV):=by
    have:=hub.lt;exact ⟨by omega,by omega,by omega,by rw [hgu];exact this,rfl,fun j hj => by have:=TB9.out j hj;omega,fun h0 j hj => BPa.out.blk_lt h0 j hj⟩
   have LP0 : Hid (LP w wa g gm gu wa.heap.size w.heap.size s8 (x : Int) ap none np pc 0 0 (.slice at1 t ct1) PV T ((List.range t).map (usd [])) []):=by
    refine ⟨Ma.out,BPa.out,TSa.out,?_,World.ownsRow_nil _ _ _ _,Nat.le_refl _⟩;rw [hgu]
    have e : (List.range t).map (usd []) = List.replicate t false:=by
     apply List.ext_getElem
     ·simp
     ·intro i h1 h2
      simp [usd]
    rw [e];exact hub
   rw [← hgu] at hmk;clear N8 r9 o9 hgm hgg hgs hub oa hgu M8 BP8 TS8 TB8 M9 BP9 TS9 TB9 Ma BPa TSa HS8 V7;go_wp2_with fail;obtain ⟨lo,hlo⟩ : ∃ lo,lo = wa.heap.size:=⟨_,rfl⟩;rw [← hlo] at KO LP0;clear hlo hmk
   go_loopw [12] (fun i wr => ∃ (c : Nat) (ts : List (Nat × List Int)) (sc : List Int × Int) (au : Option Addr) (nu cu : Nat),i = .int .u64 c ∧ c ≤ nn ∧ (sc.2 = 0 → ts.length = c) ∧ LP w wr g gm gu lo w.heap.size sc (x : Int) ap au np pc nu cu (.slice at1 t ct1) PV T ((List.range t).map (usd ts)) (ts.map (EOF T)) ∧ ELr D T nn L6 ts sc ∧ 2 * ts.length + sc.1.length ≤ 300000000) (fun i _ => nn - (intOf i).toNat)
   case atStart => exact ⟨0,[],s8,none,0,0,rfl,Nat.zero_le _,fun _ => rfl,LP0.out,P8.out.1,by simpa using P8.out.2.2⟩
   case round =>
    clear LP0 P8;obtain ⟨c,ts,sc,au,nu,cu,rfl,hcn,hct,lp,hel,hlen⟩:=hrel;obtain ⟨aor,capr,hBr,-,-,-⟩:=lp.mm.rd;have rc1:=hBr.cell 1;simp only [List.getElem?_cons_zero,List.getElem?_cons_succ] at rc1;clear hBr;have LPX:=Qaa lp
    by_cases hlt : c < nn
    ·have d1 : decide ((c : Int) < (nn : Int)) = true:=by rw [decide_eq_true_eq];omega
     have d2 : decide (c < nn) = true:=decide_eq_true hlt
     by_cases he : sc.2 = 0
     ·have hcl : ts.length = c:=hct he
      have s8c:=lp.mm.s8;obtain ⟨a,ha,ha64⟩:=Qhn s8c;have V1:=Qaa (QcN g w.heap.size sc wr lp.mm.rd s8c);rw [ha] at V1;have STEP:=Qaa (Qkn hel he (by omega) s8c);have HAA:=Qaa ha;obtain ⟨u2,l2⟩:=QiT (T:=T) s8c;have lsc:=lp.mm.sl;rw [he] at rc1;have uA : U8 (rV sc).2.1:=rV_u8 s8c;have lA : (rV sc).2.1.length ≤ 300000000:=Nat.le_trans (Qhu sc) lsc
      have eSB : eS1 T sc = rN (decide ((a : Int) < (T.length : Int))) 3 (rV sc).2:=by unfold eS1;rw [ha]
      obtain ⟨sA,hsA⟩ : ∃ sA,sA = (rV sc).2:=⟨_,rfl⟩;rw [← hsA] at V1 uA lA eSB;rw [← HT.out] at eSB;obtain ⟨bA,hbA⟩ : ∃ bA,bA = decide ((a : Int) < (t : Int)):=⟨_,rfl⟩;rw [← hbA] at eSB;have dA : decide ((a : Int) < (t : Int)) = bA:=hbA.symm
      have dA2 : decide (a < t) = bA:=by
       rw [hbA]
       by_cases hq : a < t
       ·rw [decide_eq_true hq,decide_eq_true (by omega)]
       ·rw [decide_eq_false hq,decide_eq_false (by omega)]
      obtain ⟨sB,hsB⟩ : ∃ sB,sB = eS1 T sc:=⟨_,rfl⟩
      have uB : U8 sB.1:=by rw [hsB,eSB];exact uA
      have lB : sB.1.length ≤ 300000000:=by rw [hsB,eSB];exact lA
      have eKK : eK T sc = (rB 1 sB).1:=by unfold eK;rw [hsB]
      have eSD : eS2 T sc = rN (decide ((eK T sc).length = 1) && decide ((eK T sc).getD 0 0 ≤ 8)) 3 (rB 1 sB).2:=by unfold eS2;rw [← hsB]
      obtain ⟨KK,hKK⟩ : ∃ KK,KK = eK T sc:=⟨_,rfl⟩;obtain ⟨sC,hsC⟩ : ∃ sC,sC = (rB 1 sB).2:=⟨_,rfl⟩;obtain ⟨sD,hsD⟩ : ∃ sD,sD = eS2 T sc:=⟨_,rfl⟩;rw [← hKK] at STEP eKK eSD;rw [← hsC] at eSD;rw [← hsD] at STEP eSD u2 l2
      have uC : U8 sC.1:=by rw [hsC];exact (rB_u8 1 sB uB).1
      have lC : sC.1.length ≤ 300000000:=by rw [hsC];exact Nat.le_trans (Qb1 1 sB).1 lB
      have lK : KK.length ≤ 1:=by rw [eKK];exact (Qb1 1 sB).2
      have lD : sD.1.length ≤ 300000000:=by omega
      rw [← hsB] at eSB;have HSB:=Qaa (And.intro eSB (And.intro eKK (And.intro eSD hsC)));have UU:=Qaa (And.intro uA (And.intro lA (And.intro uB (And.intro lB (And.intro uC (And.intro lC (And.intro u2 lD)))))))
      have hlen2 : 2 * ts.length + sD.1.length ≤ 300000000:=by omega
      have HTC:=Qaa (And.intro hcl (And.intro hlen (And.intro hlen2 hel)))
      have jw : IntKind.u64.wrap ((c : Int) + 1) = ((c + 1 : Nat) : Int):=by rw [IntKind.wrap_u64];omega
      have jt : IntKind.u64.wrap (t : Int) = t:=by rw [IntKind.wrap_u64];omega
      clear lp hel hct he hlen hcl s8c ha u2 l2 lsc uA lA eSB hsA hbA hsB uB lB eKK eSD hKK hsC hsD uC lC lD;go_wp2_with fail;refine V1.out.mono ?_;rintro e w1' ⟨rfl,r1,o1⟩;have L1:=Qaa (LPX.out.read KO.out r1 o1 UU.out.1 UU.out.2.1);have N1:=Qaa (QaT g w.heap.size sA bA 3 w1' r1);rw [← HSB.out.1] at N1;clear V1 r1 o1 LPX rc1 d1 d2;go_wp2_with fail;refine N1.out.mono ?_;rintro e w2' ⟨rfl,r2,o2⟩;have L2:=Qaa (L1.out.read KO.out r2 o2 UU.out.2.2.1 UU.out.2.2.2.1);have B2:=Qaa (Qeh g w.heap.size sB 1 w2' r2 (Nat.le_trans UU.out.2.2.2.1 (by decide)));rw [show ((1 : Nat) : Int) = 1 from rfl,← HSB.out.2.1,← HSB.out.2.2.2] at B2;clear N1 r2 o2 L1;go_wp2_with fail;refine B2.out.mono ?_;rintro e w3' ⟨vk,rfl,bk,r3,o3,fk⟩
      have FK : Hid (∀ i j,vk.ownBlock = some i → (Value.slice au nu cu).ownBlock = some j → j ≠ i):=fun i j h1 h2 => by have:=fk i h1;have:=(L2.out.eo.lt j h2).2;omega
      have L3:=Qaa (L2.out.read KO.out r3 o3 UU.out.2.2.2.2.1 UU.out.2.2.2.2.2.1);have ESD:=Qaa HSB.out.2.2.1;clear B2 r3 o3 fk L2 HSB;obtain ⟨ak,ck,rfl⟩:=bk.len
      have SKIP : Hid (∀ W,LP w W g gm gu lo w.heap.size sD (x : Int) ap au np pc nu cu (.slice at1 t ct1) PV T ((List.range t).map (usd ts)) (ts.map (EOF T)) → sD.2 ≠ 0 → ELr D T nn L6 ts sD → ∃ (c' : Nat) (ts : List (Nat × List Int)) (sc : List Int × Int) (au : Option Addr) (nu cu : Nat),c' = c + 1 ∧ c' ≤ nn ∧ (sc.2 = 0 → ts.length = c') ∧ LP w W g gm gu lo w.heap.size sc (x : Int) ap au np pc nu cu (.slice at1 t ct1) PV T ((List.range t).map (usd ts)) (ts.map (EOF T)) ∧ ELr D T nn L6 ts sc ∧ 2 * ts.length + sc.1.length ≤ 300000000) :=
       fun W z1 z2 z3 => ⟨c + 1,ts,sD,au,nu,cu,rfl,by omega,fun z => absurd z z2,z1,z3,HTC.out.2.2.1⟩
      cases KK with
      | nil =>
       have N2:=Qaa (QaT g w.heap.size sC false 3 w3' L3.out.mm.rd)
       have e4 : sD = rN false 3 sC:=by rw [ESD.out];rfl
       rw [← e4] at N2
       have hbad : sD.2 ≠ 0 ∧ ELr D T nn L6 ts sD:=by
        rcases STEP.out with z | ⟨_,a',y',_,_,z,_⟩
        ·exact z
        ·cases z
       have HBAD:=Qaa hbad
       have d4 : (sD.2 == 0) = false:=by simpa using hbad.1
       clear e4 hbad ESD STEP bk;simp only [List.length_nil];go_wp2_with fail;refine N2.out.mono ?_;rintro e w4' ⟨rfl,r4,o4⟩;have L4:=Qaa (L3.out.read KO.out r4 o4 UU.out.2.2.2.2.2.2.1 UU.out.2.2.2.2.2.2.2);obtain ⟨aoq,capq,hBq,-,-,-⟩:=L4.out.mm.rd;have rq:=hBq.cell 1;simp only [List.getElem?_cons_zero,List.getElem?_cons_succ] at rq;have NXX:=Qaa (SKIP.out w4' L4.out HBAD.out.1 HBAD.out.2);obtain ⟨eq,heq⟩ : ∃ eq,eq = sD.2:=⟨_,rfl⟩;rw [← heq] at rq d4;clear hBq N2 r4 o4 L3 L4 HBAD SKIP heq;go_wp2
       go_roundw
       case rel =>
        obtain ⟨c',ts',sc',au',nu',cu',e1,F⟩:=NXX.out;exact ⟨c',ts',sc',au',nu',cu',by rw [e1];go_num,F⟩
       case measure => simp [intOf];omega
      | cons y KT =>
       have hKT : KT = []:=by simpa using lK
       subst hKT;obtain ⟨bkk,offk,capk,ek,hck⟩:=bk.at 0 (by simp);simp only [Value.slice.injEq] at ek;obtain ⟨rfl,-,rfl⟩:=ek;simp only [Nat.add_zero,List.getD_cons_zero] at hck;obtain ⟨bB,hbB⟩ : ∃ bB,bB = decide (y ≤ 8):=⟨_,rfl⟩;have dB : decide (y ≤ 8) = bB:=hbB.symm;have N2:=Qaa (QaT g w.heap.size sC bB 3 w3' L3.out.mm.rd)
       have e4 : sD = rN bB 3 sC:=by rw [ESD.out,hbB];simp
       rw [← e4] at N2;have BKK:=Qaa bk;clear e4 hbB ESD bk;simp only [List.length_cons,List.length_nil,Nat.zero_add];go_wp2_with fail;refine N2.out.mono ?_;rintro e w4' ⟨rfl,r4,o4⟩;have L4:=Qaa (L3.out.read KO.out r4 o4 UU.out.2.2.2.2.2.2.1 UU.out.2.2.2.2.2.2.2);have BK4:=Qaa (BKK.out.offR L3.out.mm.rd o4)
       rcases STEP.out with hbad | hgood
       ·have HBAD:=Qaa hbad
        have d4 : (sD.2 == 0) = false:=by simpa using hbad.1
        clear hbad STEP BKK BK4;obtain ⟨aoq,capq,hBq,-,-,-⟩:=L4.out.mm.rd;have rq:=hBq.cell 1;simp only [List.getElem?_cons_zero,List.getElem?_cons_succ] at rq;have NXX:=Qaa (SKIP.out w4' L4.out HBAD.out.1 HBAD.out.2);obtain ⟨eq,heq⟩ : ∃ eq,eq = sD.2:=⟨_,rfl⟩;rw [← heq] at rq d4;clear hBq N2 r4 o4 L3 L4 HBAD SKIP heq;go_wp2
        go_roundw
        case rel =>
         obtain ⟨c',ts',sc',au',nu',cu',e1,F⟩:=NXX.out;exact ⟨c',ts',sc',au',nu',cu',by rw [e1];go_num,F⟩
        case measure => simp [intOf];omega
       ·obtain ⟨hD0,a',y',ha',haT,hKy,hy0,hy8,hel',hlen'⟩:=hgood
        obtain rfl : a' = a:=by have:=HAA.out;omega
        obtain rfl : y' = y:=by simpa using hKy.symm
        rw [← HT.out] at haT;obtain ⟨aoq,capq,hBq,-,-,-⟩:=L4.out.mm.rd;have rq:=hBq.cell 1;simp only [List.getElem?_cons_zero,List.getElem?_cons_succ] at rq;rw [hD0] at rq;have uc:=L4.out.ub.cell a';have uf:=L4.out.ub.froz a'
        have hu : (Qbb ((List.range t).map (usd ts)))[a']? = some (.bool (usd ts a')):=by simp [Qbb,haT]
        rw [hu] at uc
        have j0 : (0 : Int) ≤ (a' : Int):=by omega
        have j1 : (a' : Int) < (t : Int):=by omega
        have GD:=Qaa (And.intro hD0 (And.intro haT (And.intro hy0 (And.intro hy8 (And.intro hel' hlen')))));clear hD0 ha' hKy hel' hlen' hBq hu N2 r4 o4 L3 BKK STEP SKIP HAA;go_wp2_with fail;obtain ⟨W5,hW5⟩ : ∃ W5,W5 = w4'.setCell ⟨gu,a',none⟩ (.bool true):=⟨_,rfl⟩;have L5:=Qaa (L4.out.mark KO.out a');have BK5:=Qaa (BK4.out.offB L4.out.ub (Qjy _) (Qba (j:=a') (v:=.bool true)));rw [← hW5] at L5 BK5;rw [← hW5];rw [Qkl ts t a' [y']] at L5;clear hW5 rq uc uf L4 BK4;obtain ⟨bt,offt,capt,et,hct'⟩:=L5.out.ts.at a' (by rw [← HT.out];exact haT);rw [← HT.out] at et;simp only [Value.slice.injEq] at et;obtain ⟨rfl,-,rfl⟩:=et;obtain ⟨bk5,offk5,capk5,ek5,hck5⟩:=BK5.out.at 0 (by simp);simp only [Value.slice.injEq,Option.some.injEq,Addr.mk.injEq] at ek5;obtain ⟨⟨rfl,rfl,-⟩,-,-⟩:=ek5;simp only [Nat.add_zero,List.getD_cons_zero] at hck5;have kc2:=L5.out.mm.km.cell 2;have kf2:=L5.out.mm.km.froz 2;simp only [List.getElem?_cons_zero,List.getElem?_cons_succ] at kc2
        have hyw : IntKind.i64.wrap y' = y':=by rw [IntKind.wrap_i64];omega
        obtain ⟨z,hz⟩ : ∃ z,z = T.getD a' []:=⟨_,rfl⟩;rw [← hz] at hct';have HZZ:=Qaa hz;have lo5 : lo ≤ W5.heap.size:=L5.out.sz
        have hM : (ts.map (EOF T)).length ≤ 300000000:=by have:=HTC.out.2.1;rw [List.length_map];omega
        obtain ⟨i0,hi,hz0,hz1,hz2⟩:=info_parts Tryz.infoEn;obtain ⟨ES,hES⟩ : ∃ ES,ES = ts.map (EOF T):=⟨_,rfl⟩;rw [← hES] at L5 hM;have HES:=Qaa hES;clear hES;have eo5:=L5.out.eo;have kc2a:=(L5.out.mm.km.alloc (.cells #[.string (strOfNums z),.int .i64 y'] 61)).cell 2;simp only [List.getElem?_cons_zero,List.getElem?_cons_succ] at kc2a;clear hz hck;go_wp2_with fail
        have KS2 : Hid (∀ W,Only (fun j => (Value.slice au nu cu).ownBlock = some j ∨ j = gm) W5 W → (W.cell? ⟨bt,offt + a',none⟩ = some (.string (strOfNums z)) ∧ W.cell? ⟨bkk,offk,none⟩ = some (.int .u8 y'))):=fun W o => by
         have q1 : ¬ ((Value.slice au nu cu).ownBlock = some bt ∨ bt = gm):=fun e => by
          rcases e with e | e
          ·have:=(eo5.lt _ e).1;have:=KO.out.tb bt rfl;omega
          ·subst e
           have h1:=hct';rw [L5.out.mm.km.cell] at h1;exact Qfw _ _ _ _ _ _ _ _ _ _ _ (List.mem_of_getElem? h1) _ rfl
         have q2 : ¬ ((Value.slice au nu cu).ownBlock = some bkk ∨ bkk = gm):=fun e => by
          rcases e with e | e
          ·exact FK.out bkk bkk rfl e rfl
          ·subst e
           have h1:=hck5;rw [L5.out.mm.km.cell] at h1;exact Qca _ _ _ _ _ _ _ _ _ _ _ (List.mem_of_getElem? h1) _ rfl
         exact ⟨by rw [← hct'];exact World.cell?_of_block (o.block bt (World.block_lt_of_cell? W5 _ hct') q1),by rw [← hck5];exact World.cell?_of_block (o.block bkk (World.block_lt_of_cell? W5 _ hck5) q2)⟩
        have KS : Hid (∀ W,Only (fun _ => False) W5 W → (W.cell? ⟨bt,offt + a',none⟩ = some (.string (strOfNums z)) ∧ W.cell? ⟨bkk,offk,none⟩ = some (.int .u8 y'))):=fun W o => KS2.out W (o.mono (fun _ _ f => f.elim))
        refine wp_region_held_drew (S:=fun W => W.cell? ⟨bt,offt + a',none⟩ = some (.string (strOfNums z)) ∧ W.cell? ⟨bkk,offk,none⟩ = some (.int .u8 y')) (by kernel_rfl) (KS.out _ (Only.refl _ _).drew) (fun hH0 => ?_)
        try simp only [Act.put,List.setIfInBounds_toArray,List.set_cons_zero,List.set_cons_succ]
        refine wpAnyH_take (i:=0) (oi:={ dst:=some 106,op:=Op.fieldAddr 44 (Operand.tmp 6) 2,type:=0,pos:="ref.go:154",after:=#[],guard:=none }) (v:=?tvv1) rfl (by kernel_rfl) (by kernel_rfl) (by kernel_rfl) (fun _ _ _ h => h) (Or.inl ⟨by rfl,?thv1⟩) hH0 ?trv1
        case thv1 => (intro w hSw;(try dsimp only at hSw);go_simp;try with_reducible rfl)
        try simp only [Act.put,List.setIfInBounds_toArray,List.set_cons_zero,List.set_cons_succ]
        refine wpAnyH_take (i:=2) (oi:={ dst:=some 108,op:=Op.move (Operand.tmp 9),type:=80,pos:="ref.go:154",after:=#[],guard:=none }) (v:=?tvv2) rfl (by kernel_rfl) (by kernel_rfl) (by kernel_rfl) (fun _ _ _ h => h) (Or.inl ⟨by rfl,?thv2⟩) hH0 ?trv2
        case thv2 => (intro w hSw;(try dsimp only at hSw);go_simp;try with_reducible rfl)
        try simp only [Act.put,List.setIfInBounds_toArray,List.set_cons_zero,List.set_cons_succ]
        refine wpAnyH_take (i:=3) (oi:={ dst:=some 109,op:=Op.move (Operand.tmp 13),type:=26,pos:="ref.go:154",after:=#[],guard:=none }) (v:=?tvv3) rfl (by kernel_rfl) (by kernel_rfl) (by kernel_rfl) (fun _ _ _ h => h) (Or.inl ⟨by rfl,?thv3⟩) hH0 ?trv3
        case thv3 => (intro w hSw;(try dsimp only at hSw);go_simp;try with_reducible rfl)
        try simp only [Act.put,List.setIfInBounds_toArray,List.set_cons_zero,List.set_cons_succ]
        refine wpAnyH_take (i:=4) (oi:={ dst:=some 110,op:=Op.indexAddr 80 (Operand.tmp 108) (Operand.tmp 109),type:=0,pos:="ref.go:154",after:=#[{ on:=2,ground:=Ground.data },{ on:=3,ground:=Ground.data }],guard:=none }) (v:=?tvv4) rfl (by kernel_rfl) (by kernel_rfl) (by kernel_rfl) (fun _ _ _ h => h) (Or.inl ⟨by rfl,?thv4⟩) hH0 ?trv4
        case thv4 => (intro w hSw;(try dsimp only at hSw);go_simp;try with_reducible rfl)
        try simp only [Act.put,List.setIfInBounds_toArray,List.set_cons_zero,List.set_cons_succ]
        refine wpAnyH_take (i:=5) (oi:={ dst:=some 111,op:=Op.load 9 (Operand.tmp 110),type:=9,pos:="ref.go:154",after:=#[{ on:=4,ground:=Ground.data }],guard:=none }) (v:=?tvv5) rfl (by kernel_rfl) (by kernel_rfl) (by kernel_rfl) (fun _ _ _ h => h) (Or.inl ⟨by rfl,?thv5⟩) hH0 ?trv5
        case thv5 => (intro w hSw;(try dsimp only at hSw);go_simp;try with_reducible rfl)
        try simp only [Act.put,List.setIfInBounds_toArray,List.set_cons_zero,List.set_cons_succ]
        refine wpAnyH_take (i:=6) (oi:={ dst:=some 112,op:=Op.move (Operand.tmp 14),type:=22,pos:="ref.go:154",after:=#[],guard:=none }) (v:=?tvv6) rfl (by kernel_rfl) (by kernel_rfl) (by kernel_rfl) (fun _ _ _ h => h) (Or.inl ⟨by rfl,?thv6⟩) hH0 ?trv6
        case thv6 => (intro w hSw;(try dsimp only at hSw);go_simp;try with_reducible rfl)
        try simp only [Act.put,List.setIfInBounds_toArray,List.set_cons_zero,List.set_cons_succ]
        refine wpAnyH_take (i:=7) (oi:={ dst:=some 113,op:=Op.indexAddr 22 (Operand.tmp 112) (Operand.const (Value.int IntKind.i64 0)),type:=0,pos:="ref.go:154",after:=#[{ on:=6,ground:=Ground.data }],guard:=none }) (v:=?tvv7) rfl (by kernel_rfl) (by kernel_rfl) (by kernel_rfl) (fun _ _ _ h => h) (Or.inl ⟨by rfl,?thv7⟩) hH0 ?trv7
        case thv7 => (intro w hSw;(try dsimp only at hSw);go_simp;try with_reducible rfl)
        try simp only [Act.put,List.setIfInBounds_toArray,List.set_cons_zero,List.set_cons_succ]
        refine wpAnyH_take (i:=8) (oi:={ dst:=some 114,op:=Op.load 5 (Operand.tmp 113),type:=5,pos:="ref.go:154",after:=#[{ on:=7,ground:=Ground.data }],guard:=none }) (v:=?tvv8) rfl (by kernel_rfl) (by kernel_rfl) (by kernel_rfl) (fun _ _ _ h => h) (Or.inl ⟨by rfl,?thv8⟩) hH0 ?trv8
        case thv8 => (intro w hSw;(try dsimp only at hSw);go_simp;try with_reducible rfl)
        try simp only [Act.put,List.setIfInBounds_toArray,List.set_cons_zero,List.set_cons_succ]
        refine wpAnyH_take (i:=9) (oi:={ dst:=some 115,op:=Op.convert 5 3 (Operand.tmp 114),type:=3,pos:="ref.go:154",after:=#[{ on:=8,ground:=Ground.data }],guard:=none }) (v:=?tvv9) rfl (by kernel_rfl) (by kernel_rfl) (by kernel_rfl) (fun _ _ _ h => h) (Or.inl ⟨by rfl,?thv9⟩) hH0 ?trv9
        case thv9 => (intro w hSw;(try dsimp only at hSw);go_simp;try with_reducible rfl)
        try simp only [Act.put,List.setIfInBounds_toArray,List.set_cons_zero,List.set_cons_succ]
        refine wpAnyH_take (i:=10) (oi:={ dst:=some 116,op:=Op.build 61 #[(0,Operand.tmp 111),(1,Operand.tmp 115)],type:=61,pos:="ref.go:154",after:=#[{ on:=5,ground:=Ground.data },{ on:=9,ground:=Ground.data }],guard:=none }) (v:=?tvv10) rfl (by kernel_rfl) (by kernel_rfl) (by kernel_rfl) (fun _ _ _ h => h) (Or.inl ⟨by rfl,?thv10⟩) hH0 ?trv10
        case thv10 => (intro w hSw;(try dsimp only at hSw);go_simp;try with_reducible rfl)
        try simp only [Act.put,List.setIfInBounds_toArray,List.set_cons_zero,List.set_cons_succ]
        refine wpAnyH_ready (rs:=[1,11]) (by kernel_rfl) (by simp) ?_;refine (AllReadyH.cons (o:={ dst:=some 107,op:=Op.load 42 (Operand.tmp 106),type:=42,pos:="ref.go:154",after:=#[{ on:=0,ground:=Ground.data }],guard:=none }) rfl (fun K hK => ?_) (AllReadyH.cons (o:={ dst:=some 117,op:=Op.buildSlice 42 1 #[(0,Operand.tmp 116)],type:=42,pos:="ref.go:154",after:=#[{ on:=10,ground:=Ground.data }],guard:=none }) rfl (fun K hK => ?_) AllReadyH.nil))
        ·rw [if_pos (by rfl)]
         refine Qfy rfl rfl kc2 ?_;refine hK.out _ _ (KS.out _ (Only.refl _ _).drew) (fun hhv11 => ?_);clear hK K
         try simp only [Act.put,List.setIfInBounds_toArray,List.set_cons_zero,List.set_cons_succ]
         refine wpAnyH_ready (rs:=[11]) (by kernel_rfl) (by simp) ?_;refine (AllReadyH.cons (o:={ dst:=some 117,op:=Op.buildSlice 42 1 #[(0,Operand.tmp 116)],type:=42,pos:="ref.go:154",after:=#[{ on:=10,ground:=Ground.data }],guard:=none }) rfl (fun K hK => ?_) AllReadyH.nil);rw [if_pos (by rfl)];refine Qem rfl rfl ?_;refine hK.out _ _ (KS.out _ ((Only.refl _ _).drew.alloc (.cells #[.string (strOfNums z),.int .i64 y'] 61))) (fun hhv12 => ?_);clear hK K
         try simp only [Act.put,List.setIfInBounds_toArray,List.set_cons_zero,List.set_cons_succ]
         refine wpAnyH_ready (rs:=[12]) (by kernel_rfl) (by simp) ?_;refine (AllReadyH.cons (o:={ dst:=some 118,op:=Op.call { callee:=Callee.builtin Builtin.append,args:=#[Operand.tmp 107,Operand.tmp 117],argTypes:=#[42,42] },type:=42,pos:="ref.go:154",after:=#[{ on:=1,ground:=Ground.data },{ on:=11,ground:=Ground.data }],guard:=none }) rfl (fun K hK => ?_) AllReadyH.nil);rw [if_pos (by rfl)];refine wp_append_own _ (.tmp 107) (.tmp 117) 42 rfl lo 61 i0 (.agg #[.string ⟨#[]⟩,.int .i64 0]) 2 24 Tryz.underlying42 hi hz0 hz1 hz2 rfl (by decide) (.slice au nu cu) ES.length (QaK ES) rfl (Only.own (S:=fun _ => False) (a:=W5) ((Only.refl (fun _ => False) W5).drew.alloc (.cells #[.string (strOfNums z),.int .i64 y'] 61)) eo5 (fun _ _ f => f)) ⟨W5.heap.size,0,none⟩ 1 1 [.string (strOfNums z),.int .i64 y'] rfl rfl (Qbx W5.drew _ _ _) (QgB _ _) (by unfold maxLen;omega) (by omega) (by simp;omega) ?_;intro v' w6 hown' hgrow' _;obtain ⟨av',cv',ev'⟩:=Qb2 hown';subst ev';have ogx : Only (fun j => (Value.slice au nu cu).ownBlock = some j) W5 w6:=Only.grown (S:=fun j => (Value.slice au nu cu).ownBlock = some j) ((Only.refl (fun j => (Value.slice au nu cu).ownBlock = some j) W5).drew.alloc (.cells #[.string (strOfNums z),.int .i64 y'] 61)) hgrow' (fun j _ e => e);have km6:=L5.out.mm.km.keep ogx (fun e => by have:=(eo5.lt _ e).1;have:=KO.out.c;have:=KO.out.d;omega);have kc6:=km6.cell 2;have kf6:=km6.froz 2;simp only [List.getElem?_cons_zero,List.getElem?_cons_succ] at kc6;have L6x:=Qaa (L5.out.add KO.out (e:=(z,y')) ogx hown');refine hK.out _ _ (KS2.out _ (ogx.mono (fun _ _ e => Or.inl e))) (fun hhv13 => ?_);clear hK K
         try simp only [Act.put,List.setIfInBounds_toArray,List.set_cons_zero,List.set_cons_succ]
         refine wpAnyH_take (i:=13) (oi:={ dst:=some 119,op:=Op.fieldAddr 44 (Operand.tmp 6) 2,type:=0,pos:="ref.go:154",after:=#[{ on:=0,ground:=Ground.phase },{ on:=1,ground:=Ground.phase },{ on:=2,ground:=Ground.phase },{ on:=3,ground:=Ground.phase },{ on:=4,ground:=Ground.phase },{ on:=5,ground:=Ground.phase },{ on:=6,ground:=Ground.phase },{ on:=7,ground:=Ground.phase },{ on:=8,ground:=Ground.phase },{ on:=9,ground:=Ground.phase },{ on:=10,ground:=Ground.phase },{ on:=11,ground:=Ground.phase },{ on:=12,ground:=Ground.phase }],guard:=none }) (v:=?tvv16) rfl (by kernel_rfl) (by kernel_rfl) (by kernel_rfl) (fun _ _ _ h => h) (Or.inl ⟨by rfl,?thv16⟩) hhv13 ?trv16
         case thv16 => (intro w hSw;(try dsimp only at hSw);go_simp;try with_reducible rfl)
         try simp only [Act.put,List.setIfInBounds_toArray,List.set_cons_zero,List.set_cons_succ]
         refine wpAnyH_ready (rs:=[14]) (by kernel_rfl) (by simp) ?_;refine (AllReadyH.cons (o:={ dst:=none,op:=Op.store 42 (Operand.tmp 119) (Operand.tmp 118),type:=0,pos:="ref.go:154",after:=#[{ on:=13,ground:=Ground.data },{ on:=12,ground:=Ground.data },{ on:=12,ground:=Ground.chain },{ on:=0,ground:=Ground.phase },{ on:=1,ground:=Ground.phase },{ on:=2,ground:=Ground.phase },{ on:=3,ground:=Ground.phase },{ on:=4,ground:=Ground.phase },{ on:=5,ground:=Ground.phase },{ on:=6,ground:=Ground.phase },{ on:=7,ground:=Ground.phase },{ on:=8,ground:=Ground.phase },{ on:=9,ground:=Ground.phase },{ on:=10,ground:=Ground.phase },{ on:=11,ground:=Ground.phase },{ on:=12,ground:=Ground.phase }],guard:=none }) rfl (fun K hK => ?_) AllReadyH.nil);rw [if_pos (by rfl)];refine Qfz rfl rfl rfl rfl kc6 kf6 ?_;refine hK.out _ _ (KS2.out _ ((ogx.mono (fun _ _ e => Or.inl e)).trans (Qba (gm:=gm) (j:=2) (v:=.slice av' (ES.length + 1) cv')) (fun i _ e => Or.inr e))) (fun hhv14 => ?_);clear hK K
         try simp only [Act.put,List.setIfInBounds_toArray,List.set_cons_zero,List.set_cons_succ]
         refine wpAnyH_done (by kernel_rfl) ?_ _
         have NXF : Hid (c + 1 ≤ nn ∧ (sD.2 = 0 → (ts ++ [(a',[y'])]).length = c + 1) ∧ LP w (w6.setCell ⟨gm,2,none⟩ (.slice av' (ES.length + 1) cv')) g gm gu lo w.heap.size sD (x : Int) ap av' np pc (ES.length + 1) cv' (.slice (some ⟨bt,offt,none⟩) t ct1) PV T ((List.range t).map (usd (ts ++ [(a',[y'])]))) ((ts ++ [(a',[y'])]).map (EOF T)) ∧ ELr D T nn L6 (ts ++ [(a',[y'])]) sD ∧ 2 * (ts ++ [(a',[y'])]).length + sD.1.length ≤ 300000000):=by
          have q1:=HTC.out.1;have q2:=HTC.out.2.1;have q3:=GD.out.2.2.2.2.2
          have q4 : (ts ++ [(a',[y'])]).length = ts.length + 1:=by simp
          have q5 : (ts ++ [(a',[y'])]).map (EOF T) = ES ++ [(z,y')]:=by rw [List.map_append,← HES.out,HZZ.out];rfl
          have q6:=L6x.out;rw [← q5] at q6;exact ⟨by omega,fun _ => by omega,q6,GD.out.2.2.2.2.1,by omega⟩
         clear L6x hown' hgrow' ogx km6 kc6 kf6 hhv13 hhv14 eo5 kc2 kf2 kc2a hck5 hct' KS KS2 hi hz0 hz1 hz2 hyw dA dA2 dB j0 j1 lo5 hM hH0 haT hy0 hy8 L5 BK5 FK lK hlen2 i0;go_wp2
         go_roundw
         case rel =>
          exact ⟨c + 1,ts ++ [(a',[y'])],sD,av',ES.length + 1,cv',by go_num,NXF.out⟩
         case measure => simp [intOf];omega
        ·rw [if_pos (by rfl)]
         refine Qem rfl rfl ?_;refine hK.out _ _ (KS.out _ ((Only.refl _ _).drew.alloc (.cells #[.string (strOfNums z),.int .i64 y'] 61))) (fun hhv17 => ?_);clear hK K
         try simp only [Act.put,List.setIfInBounds_toArray,List.set_cons_zero,List.set_cons_succ]
         refine wpAnyH_ready (rs:=[1]) (by kernel_rfl) (by simp) ?_;refine (AllReadyH.cons (o:={ dst:=some 107,op:=Op.load 42 (Operand.tmp 106),type:=42,pos:="ref.go:154",after:=#[{ on:=0,ground:=Ground.data }],guard:=none }) rfl (fun K hK => ?_) AllReadyH.nil);rw [if_pos (by rfl)];refine Qfy rfl rfl kc2a ?_;refine hK.out _ _ (KS.out _ ((Only.refl _ _).drew.alloc (.cells #[.string (strOfNums z),.int .i64 y'] 61))) (fun hhv18 => ?_);clear hK K
         try simp only [Act.put,List.setIfInBounds_toArray,List.set_cons_zero,List.set_cons_succ]
         refine wpAnyH_ready (rs:=[12]) (by kernel_rfl) (by simp) ?_;refine (AllReadyH.cons (o:={ dst:=some 118,op:=Op.call { callee:=Callee.builtin Builtin.append,args:=#[Operand.tmp 107,Operand.tmp 117],argTypes:=#[42,42] },type:=42,pos:="ref.go:154",after:=#[{ on:=1,ground:=Ground.data },{ on:=11,ground:=Ground.data }],guard:=none }) rfl (fun K hK => ?_) AllReadyH.nil);rw [if_pos (by rfl)];refine wp_append_own _ (.tmp 107) (.tmp 117) 42 rfl lo 61 i0 (.agg #[.string ⟨#[]⟩,.int .i64 0]) 2 24 Tryz.underlying42 hi hz0 hz1 hz2 rfl (by decide) (.slice au nu cu) ES.length (QaK ES) rfl (Only.own (S:=fun _ => False) (a:=W5) ((Only.refl (fun _ => False) W5).drew.alloc (.cells #[.string (strOfNums z),.int .i64 y'] 61)) eo5 (fun _ _ f => f)) ⟨W5.heap.size,0,none⟩ 1 1 [.string (strOfNums z),.int .i64 y'] rfl rfl (Qbx W5.drew _ _ _) (QgB _ _) (by unfold maxLen;omega) (by omega) (by simp;omega) ?_;intro v' w6 hown' hgrow' _;obtain ⟨av',cv',ev'⟩:=Qb2 hown';subst ev';have ogx : Only (fun j => (Value.slice au nu cu).ownBlock = some j) W5 w6:=Only.grown (S:=fun j => (Value.slice au nu cu).ownBlock = some j) ((Only.refl (fun j => (Value.slice au nu cu).ownBlock = some j) W5).drew.alloc (.cells #[.string (strOfNums z),.int .i64 y'] 61)) hgrow' (fun j _ e => e);have km6:=L5.out.mm.km.keep ogx (fun e => by have:=(eo5.lt _ e).1;have:=KO.out.c;have:=KO.out.d;omega);have kc6:=km6.cell 2;have kf6:=km6.froz 2;simp only [List.getElem?_cons_zero,List.getElem?_cons_succ] at kc6;have L6x:=Qaa (L5.out.add KO.out (e:=(z,y')) ogx hown');refine hK.out _ _ (KS2.out _ (ogx.mono (fun _ _ e => Or.inl e))) (fun hhv19 => ?_);clear hK K
         try simp only [Act.put,List.setIfInBounds_toArray,List.set_cons_zero,List.set_cons_succ]
         refine wpAnyH_take (i:=13) (oi:={ dst:=some 119,op:=Op.fieldAddr 44 (Operand.tmp 6) 2,type:=0,pos:="ref.go:154",after:=#[{ on:=0,ground:=Ground.phase },{ on:=1,ground:=Ground.phase },{ on:=2,ground:=Ground.phase },{ on:=3,ground:=Ground.phase },{ on:=4,ground:=Ground.phase },{ on:=5,ground:=Ground.phase },{ on:=6,ground:=Ground.phase },{ on:=7,ground:=Ground.phase },{ on:=8,ground:=Ground.phase },{ on:=9,ground:=Ground.phase },{ on:=10,ground:=Ground.phase },{ on:=11,ground:=Ground.phase },{ on:=12,ground:=Ground.phase }],guard:=none }) (v:=?tvv22) rfl (by kernel_rfl) (by kernel_rfl) (by kernel_rfl) (fun _ _ _ h => h) (Or.inl ⟨by rfl,?thv22⟩) hhv19 ?trv22
         case thv22 => (intro w hSw;(try dsimp only at hSw);go_simp;try with_reducible rfl)
         try simp only [Act.put,List.setIfInBounds_toArray,List.set_cons_zero,List.set_cons_succ]
         refine wpAnyH_ready (rs:=[14]) (by kernel_rfl) (by simp) ?_;refine (AllReadyH.cons (o:={ dst:=none,op:=Op.store 42 (Operand.tmp 119) (Operand.tmp 118),type:=0,pos:="ref.go:154",after:=#[{ on:=13,ground:=Ground.data },{ on:=12,ground:=Ground.data },{ on:=12,ground:=Ground.chain },{ on:=0,ground:=Ground.phase },{ on:=1,ground:=Ground.phase },{ on:=2,ground:=Ground.phase },{ on:=3,ground:=Ground.phase },{ on:=4,ground:=Ground.phase },{ on:=5,ground:=Ground.phase },{ on:=6,ground:=Ground.phase },{ on:=7,ground:=Ground.phase },{ on:=8,ground:=Ground.phase },{ on:=9,ground:=Ground.phase },{ on:=10,ground:=Ground.phase },{ on:=11,ground:=Ground.phase },{ on:=12,ground:=Ground.phase }],guard:=none }) rfl (fun K hK => ?_) AllReadyH.nil);rw [if_pos (by rfl)];refine Qfz rfl rfl rfl rfl kc6 kf6 ?_;refine hK.out _ _ (KS2.out _ ((ogx.mono (fun _ _ e => Or.inl e)).trans (Qba (gm:=gm) (j:=2) (v:=.slice av' (ES.length + 1) cv')) (fun i _ e => Or.inr e))) (fun hhv20 => ?_);clear hK K
         try simp only [Act.put,List.setIfInBounds_toArray,List.set_cons_zero,List.set_cons_succ]
         refine wpAnyH_done (by kernel_rfl) ?_ _
         have NXF : Hid (c + 1 ≤ nn ∧ (sD.2 = 0 → (ts ++ [(a',[y'])]).length = c + 1) ∧ LP w (w6.setCell ⟨gm,2,none⟩ (.slice av' (ES.length + 1) cv')) g gm gu lo w.heap.size sD (x : Int) ap av' np pc (ES.length + 1) cv' (.slice (some ⟨bt,offt,none⟩) t ct1) PV T ((List.range t).map (usd (ts ++ [(a',[y'])]))) ((ts ++ [(a',[y'])]).map (EOF T)) ∧ ELr D T nn L6 (ts ++ [(a',[y'])]) sD ∧ 2 * (ts ++ [(a',[y'])]).length + sD.1.length ≤ 300000000):=by
          have q1:=HTC.out.1;have q2:=HTC.out.2.1;have q3:=GD.out.2.2.2.2.2
          have q4 : (ts ++ [(a',[y'])]).length = ts.length + 1:=by simp
          have q5 : (ts ++ [(a',[y'])]).map (EOF T) = ES ++ [(z,y')]:=by rw [List.map_append,← HES.out,HZZ.out];rfl
          have q6:=L6x.out;rw [← q5] at q6;exact ⟨by omega,fun _ => by omega,q6,GD.out.2.2.2.2.1,by omega⟩
         clear L6x hown' hgrow' ogx km6 kc6 kf6 hhv19 hhv20 eo5 kc2 kf2 kc2a hck5 hct' KS KS2 hi hz0 hz1 hz2 hyw dA dA2 dB j0 j1 lo5 hM hH0 haT hy0 hy8 L5 BK5 FK lK hlen2 i0;go_wp2
         go_roundw
         case rel =>
          exact ⟨c + 1,ts ++ [(a',[y'])],sD,av',ES.length + 1,cv',by go_num,NXF.out⟩
         case measure => simp [intOf];omega
     ·have d3 : (sc.2 == 0) = false:=by simpa using he
      have Q5 : Hid (STQ ys sc (P5 ys x PV T ts)):=by
       rcases hel with ⟨z,_⟩ | z
       ·exact absurd z he
       ·exact FIN.out ts sc (.inr z)
      obtain ⟨e0,he0⟩ : ∃ e0,e0 = sc.2:=⟨_,rfl⟩;rw [← he0] at d3 rc1;clear lp hel hct he he0 hlen;have A6:=Qaa (QbZ _ _ _ 32 _ LPX.out.mm.rd (Nat.le_trans LPX.out.mm.sl (by decide)));rw [show ((32 : Nat) : Int) = 32 from rfl] at A6;go_wp2_with fail;refine A6.out.mono ?_;rintro e wb ⟨vr,rfl,br,rb,ob⟩;obtain ⟨lb,lr⟩:=Qb1 32 sc;obtain ⟨ub,ur⟩:=rB_u8 32 sc LPX.out.mm.s8;have Lb:=Qaa (LPX.out.read KO.out rb ob ub (Nat.le_trans lb LPX.out.mm.sl));have Q6:=Qaa (Qej Q5.out);obtain ⟨RV,hRV⟩ : ∃ RV,RV = (rB 32 sc).1:=⟨_,rfl⟩;obtain ⟨s9,hs9⟩ : ∃ s9,s9 = (rB 32 sc).2:=⟨_,rfl⟩;rw [← hRV,← hs9] at Q6;rw [← hs9] at Lb;rw [← hRV] at br;obtain ⟨ar,rc,rfl⟩:=br.len;obtain ⟨nr,hnr⟩ : ∃ nr,nr = RV.length:=⟨_,rfl⟩;rw [← hnr] at br;rw [← hnr];have kc3:=Lb.out.mm.km.cell 3;have kf3:=Lb.out.mm.km.froz 3;simp only [List.getElem?_cons_zero,List.getElem?_cons_succ] at kc3;have FPc : Hid (FP w (wb.setCell ⟨gm,3,none⟩ (.slice ar nr rc)) g gm gu lo w.heap.size s9 (x : Int) ap au ar np pc nu cu nr rc PV RV ((List.range t).map (usd ts)) (ts.map (EOF T))):=Lb.out.fin KO.out br;obtain ⟨ao9,cap9,hB9,-,-,-⟩:=FPc.out.mm.rd;have rc9:=hB9.cell 0;simp only [List.getElem?_cons_zero] at rc9;obtain ⟨b9,hb9⟩ : ∃ b9,b9 = decide (s9.1.length = 0):=⟨_,rfl⟩;have Q7:=Qaa (Qfx Q6.out);rw [← hb9] at Q7;obtain ⟨n9,hn9⟩ : ∃ n9,n9 = s9.1.length:=⟨_,rfl⟩;rw [← hn9] at rc9 hb9
      have dq9 : ((n9 : Int) == 0) = b9:=by
       rw [hb9]
       by_cases hq : n9 = 0
       ·rw [hq];rfl
       ·rw [decide_eq_false hq,beq_eq_false_iff_ne];omega
      have N9:=Qaa (QaT g w.heap.size s9 b9 3 _ FPc.out.mm.rd);clear A6 br rb ob lb lr ub ur hRV hs9 hnr hB9 hb9 hn9 Lb Q5 Q6 LPX;go_wp2_with fail;refine N9.out.mono ?_;rintro e wd ⟨rfl,rd,od⟩;have FPd:=Qaa (FPc.out.read KO.out rd od FPc.out.mm.s8 FPc.out.mm.sl);obtain ⟨sE,hsE⟩ : ∃ sE,sE = rN b9 3 s9:=⟨_,rfl⟩;rw [← hsE] at FPd Q7;clear N9 rd od FPc rc9 dq9 kc3 kf3 hsE;go_wp2_with fail
      go_loopw [15] (fun i wz => ∃ (j : Nat) (sz : List Int × Int),j ≤ t ∧ i = .int .i64 j ∧ FP w wz g gm gu lo w.heap.size sz (x : Int) ap au ar np pc nu cu nr rc PV RV ((List.range t).map (usd ts)) (ts.map (EOF T)) ∧ STQ ys sz (PE ys PV RV x T ts j)) (fun i _ => t - (intOf i).toNat)
      case atStart => exact ⟨0,sE,Nat.zero_le _,rfl,FPd.out,Q7.out⟩
      case round =>
       clear FPd Q7;obtain ⟨j,sz,hj,rfl,fp,hq⟩:=hrel;have FPX:=Qaa fp;have QX:=Qaa hq
       by_cases hjt : j < t
       ·have uc:=fp.ub.cell j
        have hu : (Qbb ((List.range t).map (usd ts)))[j]? = some (.bool (usd ts j)):=by simp [Qbb,hjt]
        rw [hu] at uc;have SU:=Qaa (Qek (by rw [← HT.out];exact hjt) hq);have NU:=Qaa (QaT g w.heap.size sz (usd ts j) 3 _ fp.mm.rd);obtain ⟨bu,hbu⟩ : ∃ bu,bu = usd ts j:=⟨_,rfl⟩;rw [← hbu] at uc SU NU
        have i0 : (0 : Int) ≤ (j : Int):=by omega
        have i1 : (j : Int) < (t : Int):=by omega
        clear fp hq hu hbu;go_wp2_with fail;refine NU.out.mono ?_;rintro e wy ⟨rfl,ry,oy⟩;have FN:=Qaa (And.intro (FPX.out.read KO.out ry oy FPX.out.mm.s8 FPX.out.mm.sl) SU.out);clear NU ry oy FPX QX SU uc;go_wp2
        go_roundw
        case rel => exact ⟨j + 1,_,by omega,by go_num,FN.out⟩
        case measure => simp [intOf];omega
       ·obtain rfl : j = t:=by omega
        have QL:=Qaa (Qel (by rw [HT.out] at hq;exact hq));have k0:=fp.mm.km.cell 0;have k1:=fp.mm.km.cell 1;have k2:=fp.mm.km.cell 2;have k3:=fp.mm.km.cell 3;simp only [List.getElem?_cons_zero,List.getElem?_cons_succ] at k0 k1 k2 k3;obtain ⟨⟨r0,r1,r2,r3⟩,q0,q1,q2,q3⟩:=Qaq fp.mm.kr;obtain ⟨aoz,capz,hBz,-,-,-⟩:=fp.mm.rd;have rz:=hBz.cell 1;simp only [List.getElem?_cons_zero,List.getElem?_cons_succ] at rz;have HBZ:=Qaa hBz;clear hBz hq QX hjt
        by_cases hz : sz.2 = 0
        ·rw [hz] at rz
         obtain ⟨gz,oz⟩:=put4 fp.mm.kr (.int .u64 (x : Int)) (.slice ap np pc) (.slice au nu cu) (.slice ar nr rc)
         have RES : Hid (Mf ((((wr.setCell ⟨w.heap.size,0,none⟩ (.int .u64 (x : Int))).setCell ⟨w.heap.size,1,none⟩ (.slice ap np pc)).setCell ⟨w.heap.size,2,none⟩ (.slice au nu cu)).setCell ⟨w.heap.size,3,none⟩ (.slice ar nr rc)) (.agg #[.int .u64 (x : Int),.slice ap np pc,.slice au nu cu,.slice ar nr rc]) ZV (.slice ap np pc) (.slice au nu cu) (.slice ar nr rc) ∧ Only (fun _ => False) w ((((wr.setCell ⟨w.heap.size,0,none⟩ (.int .u64 (x : Int))).setCell ⟨w.heap.size,1,none⟩ (.slice ap np pc)).setCell ⟨w.heap.size,2,none⟩ (.slice au nu cu)).setCell ⟨w.heap.size,3,none⟩ (.slice ar nr rc)) ∧ ZE = 0):=by
          rcases QL.out with ⟨_,hm⟩ | ⟨z,_⟩
          ·obtain ⟨e1,e2⟩:=MD_ok hm
           rw [HZ.out.1,HZ.out.2,e1,e2];have ka:=KO.out.a;have kb:=KO.out.b;have kc:=KO.out.c;have kd:=KO.out.d;exact ⟨⟨rfl,fp.bp.offB fp.mm.kr Qdy oz,Ens.of_own (oz.own fp.eo (fun i hi e => by have:=(fp.eo.lt i hi).1;omega)),fp.br.offB fp.mm.kr Qdy oz⟩,fp.mm.on.trans oz (fun i hi e => by omega),rfl⟩
          ·exact absurd hz z
         have LM:=Qaa (Qag gz);clear fp hz gz oz QL FPX;go_wp2;refine bodyPost_ret (Qau Tryz.results19 _ _ rfl rfl LM.out) rfl ?_;exact ⟨_,_,_,_,by rw [RES.out.2.2];rfl,RES.out.1,RES.out.2.1⟩
        ·have dz : (sz.2 != 0) = true:=by simpa using hz
         obtain ⟨gz,oz⟩:=put4 fp.mm.kr (.int .u64 0) (.slice none 0 0) (.slice none 0 0) (.slice none 0 0)
         have RES : Hid (ZE = sz.2 ∧ ZV = ⟨0,[],[],[]⟩ ∧ Only (fun _ => False) w wr):=by
          rcases QL.out with ⟨z,_⟩ | ⟨_,hm⟩
          ·exact absurd z hz
          ·obtain ⟨e1,e2⟩:=Qfo hm
           exact ⟨HZ.out.1.trans e2,HZ.out.2.trans e1,fp.mm.on⟩
         have LM:=Qaa (Qag (W:=((((wr.setCell ⟨w.heap.size,0,none⟩ (.int .u64 0)).setCell ⟨w.heap.size,1,none⟩ (.slice none 0 0)).setCell ⟨w.heap.size,2,none⟩ (.slice none 0 0)).setCell ⟨w.heap.size,3,none⟩ (.slice none 0 0)).drew) gz);have OZ:=Qaa ((fp.mm.on.trans oz (fun i hi e => by omega)).drew)
         have KW : Hid (∀ W,Only (fun k => k = w.heap.size) wr W → W.cell? ⟨g,1,none⟩ = some (.int .i64 sz.2)):=fun W o => by
          have:=(HBZ.out.keep o (fun e => by have:=KO.out.a;omega)).cell 1
          simpa using this
         obtain ⟨ez,hez⟩ : ∃ ez,ez = sz.2:=⟨_,rfl⟩;rw [← hez] at rz dz RES KW;have rz1:=KW.out ((wr.setCell ⟨w.heap.size,0,none⟩ (.int .u64 0)).setCell ⟨w.heap.size,1,none⟩ (.slice none 0 0)) (((Only.refl (fun k => k = w.heap.size) _).setCell (p:=⟨w.heap.size,0,none⟩) (fun _ => rfl) _).setCell (p:=⟨w.heap.size,1,none⟩) (fun _ => rfl) _)
         have hne1 : ¬ g = w.heap.size:=by have:=KO.out.a;omega
         have hne2 : ¬ w.heap.size = g:=by have:=KO.out.a;omega
         clear fp hz gz oz QL hez FPX k0 k1 k2 k3;go_wp2_with fail;go_region;clear rz rz1 r0 r1 r2 r3 q0 q1 q2 q3;go_wp2;refine bodyPost_ret (Qau Tryz.results19 _ _ rfl rfl LM.out) rfl ?_;exact ⟨_,_,_,_,by rw [RES.out.1];rfl,by rw [RES.out.2.1];exact ⟨rfl,Bs.nil _ _,Ens.nil _,Bs.nil _ _⟩,OZ.out⟩
    ·have d1 : decide ((c : Int) < (nn : Int)) = false:=by rw [decide_eq_false_iff_not];omega
     have d2 : decide (c < nn) = false:=decide_eq_false hlt
     have Q5 : Hid (STQ ys sc (P5 ys x PV T ts)):=by
      rcases hel with ⟨z,z1,z2,z4⟩ | z
      ·refine FIN.out ts sc (.inl ⟨z,?_⟩)
       rw [z4,show nn - ts.length = 0 by have:=hct z;omega];simp [pre,rdEns,rdRep]
      ·exact FIN.out ts sc (.inr z)
     clear lp hel hct hlen rc1;have A6:=Qaa (QbZ _ _ _ 32 _ LPX.out.mm.rd (Nat.le_trans LPX.out.mm.sl (by decide)));rw [show ((32 : Nat) : Int) = 32 from rfl] at A6;go_wp2_with fail;refine A6.out.mono ?_;rintro e wb ⟨vr,rfl,br,rb,ob⟩;obtain ⟨lb,lr⟩:=Qb1 32 sc;obtain ⟨ub,ur⟩:=rB_u8 32 sc LPX.out.mm.s8;have Lb:=Qaa (LPX.out.read KO.out rb ob ub (Nat.le_trans lb LPX.out.mm.sl));have Q6:=Qaa (Qej Q5.out);obtain ⟨RV,hRV⟩ : ∃ RV,RV = (rB 32 sc).1:=⟨_,rfl⟩;obtain ⟨s9,hs9⟩ : ∃ s9,s9 = (rB 32 sc).2:=⟨_,rfl⟩;rw [← hRV,← hs9] at Q6;rw [← hs9] at Lb;rw [← hRV] at br;obtain ⟨ar,rc,rfl⟩:=br.len;obtain ⟨nr,hnr⟩ : ∃ nr,nr = RV.length:=⟨_,rfl⟩;rw [← hnr] at br;rw [← hnr];have kc3:=Lb.out.mm.km.cell 3;have kf3:=Lb.out.mm.km.froz 3;simp only [List.getElem?_cons_zero,List.getElem?_cons_succ] at kc3;have FPc : Hid (FP w (wb.setCell ⟨gm,3,none⟩ (.slice ar nr rc)) g gm gu lo w.heap.size s9 (x : Int) ap au ar np pc nu cu nr rc PV RV ((List.range t).map (usd ts)) (ts.map (EOF T))):=Lb.out.fin KO.out br;obtain ⟨ao9,cap9,hB9,-,-,-⟩:=FPc.out.mm.rd;have rc9:=hB9.cell 0;simp only [List.getElem?_cons_zero] at rc9;obtain ⟨b9,hb9⟩ : ∃ b9,b9 = decide (s9.1.length = 0):=⟨_,rfl⟩;have Q7:=Qaa (Qfx Q6.out);rw [← hb9] at Q7;obtain ⟨n9,hn9⟩ : ∃ n9,n9 = s9.1.length:=⟨_,rfl⟩;rw [← hn9] at rc9 hb9
     have dq9 : ((n9 : Int) == 0) = b9:=by
      rw [hb9]
      by_cases hq : n9 = 0
      ·rw [hq];rfl
      ·rw [decide_eq_false hq,beq_eq_false_iff_ne];omega
     have N9:=Qaa (QaT g w.heap.size s9 b9 3 _ FPc.out.mm.rd);clear A6 br rb ob lb lr ub ur hRV hs9 hnr hB9 hb9 hn9 Lb Q5 Q6 LPX;go_wp2_with fail;refine N9.out.mono ?_;rintro e wd ⟨rfl,rd,od⟩;have FPd:=Qaa (FPc.out.read KO.out rd od FPc.out.mm.s8 FPc.out.mm.sl);obtain ⟨sE,hsE⟩ : ∃ sE,sE = rN b9 3 s9:=⟨_,rfl⟩;rw [← hsE] at FPd Q7;clear N9 rd od FPc rc9 dq9 kc3 kf3 hsE;go_wp2_with fail
     go_loopw [15] (fun i wz => ∃ (j : Nat) (sz : List Int × Int),j ≤ t ∧ i = .int .i64 j ∧ FP w wz g gm gu lo w.heap.size sz (x : Int) ap au ar np pc nu cu nr rc PV RV ((List.range t).map (usd ts)) (ts.map (EOF T)) ∧ STQ ys sz (PE ys PV RV x T ts j)) (fun i _ => t - (intOf i).toNat)
     case atStart => exact ⟨0,sE,Nat.zero_le _,rfl,FPd.out,Q7.out⟩
     case round =>
      clear FPd Q7;obtain ⟨j,sz,hj,rfl,fp,hq⟩:=hrel;have FPX:=Qaa fp;have QX:=Qaa hq
      by_cases hjt : j < t
      ·have uc:=fp.ub.cell j
       have hu : (Qbb ((List.range t).map (usd ts)))[j]? = some (.bool (usd ts j)):=by simp [Qbb,hjt]
       rw [hu] at uc;have SU:=Qaa (Qek (by rw [← HT.out];exact hjt) hq);have NU:=Qaa (QaT g w.heap.size sz (usd ts j) 3 _ fp.mm.rd);obtain ⟨bu,hbu⟩ : ∃ bu,bu = usd ts j:=⟨_,rfl⟩;rw [← hbu] at uc SU NU
       have i0 : (0 : Int) ≤ (j : Int):=by omega
       have i1 : (j : Int) < (t : Int):=by omega
       clear fp hq hu hbu;go_wp2_with fail;refine NU.out.mono ?_;rintro e wy ⟨rfl,ry,oy⟩;have FN:=Qaa (And.intro (FPX.out.read KO.out ry oy FPX.out.mm.s8 FPX.out.mm.sl) SU.out);clear NU ry oy FPX QX SU uc;go_wp2
       go_roundw
       case rel => exact ⟨j + 1,_,by omega,by go_num,FN.out⟩
       case measure => simp [intOf];omega
      ·obtain rfl : j = t:=by omega
       have QL:=Qaa (Qel (by rw [HT.out] at hq;exact hq));have k0:=fp.mm.km.cell 0;have k1:=fp.mm.km.cell 1;have k2:=fp.mm.km.cell 2;have k3:=fp.mm.km.cell 3;simp only [List.getElem?_cons_zero,List.getElem?_cons_succ] at k0 k1 k2 k3;obtain ⟨⟨r0,r1,r2,r3⟩,q0,q1,q2,q3⟩:=Qaq fp.mm.kr;obtain ⟨aoz,capz,hBz,-,-,-⟩:=fp.mm.rd;have rz:=hBz.cell 1;simp only [List.getElem?_cons_zero,List.getElem?_cons_succ] at rz;have HBZ:=Qaa hBz;clear hBz hq QX hjt
       by_cases hz : sz.2 = 0
       ·rw [hz] at rz
        obtain ⟨gz,oz⟩:=put4 fp.mm.kr (.int .u64 (x : Int)) (.slice ap np pc) (.slice au nu cu) (.slice ar nr rc)
        have RES : Hid (Mf ((((wr.setCell ⟨w.heap.size,0,none⟩ (.int .u64 (x : Int))).setCell ⟨w.heap.size,1,none⟩ (.slice ap np pc)).setCell ⟨w.heap.size,2,none⟩ (.slice au nu cu)).setCell ⟨w.heap.size,3,none⟩ (.slice ar nr rc)) (.agg #[.int .u64 (x : Int),.slice ap np pc,.slice au nu cu,.slice ar nr rc]) ZV (.slice ap np pc) (.slice au nu cu) (.slice ar nr rc) ∧ Only (fun _ => False) w ((((wr.setCell ⟨w.heap.size,0,none⟩ (.int .u64 (x : Int))).setCell ⟨w.heap.size,1,none⟩ (.slice ap np pc)).setCell ⟨w.heap.size,2,none⟩ (.slice au nu cu)).setCell ⟨w.heap.size,3,none⟩ (.slice ar nr rc)) ∧ ZE = 0):=by
         rcases QL.out with ⟨_,hm⟩ | ⟨z,_⟩
         ·obtain ⟨e1,e2⟩:=MD_ok hm
          rw [HZ.out.1,HZ.out.2,e1,e2];have ka:=KO.out.a;have kb:=KO.out.b;have kc:=KO.out.c;have kd:=KO.out.d;exact ⟨⟨rfl,fp.bp.offB fp.mm.kr Qdy oz,Ens.of_own (oz.own fp.eo (fun i hi e => by have:=(fp.eo.lt i hi).1;omega)),fp.br.offB fp.mm.kr Qdy oz⟩,fp.mm.on.trans oz (fun i hi e => by omega),rfl⟩
         ·exact absurd hz z
        have LM:=Qaa (Qag gz);clear fp hz gz oz QL FPX;go_wp2;refine bodyPost_ret (Qau Tryz.results19 _ _ rfl rfl LM.out) rfl ?_;exact ⟨_,_,_,_,by rw [RES.out.2.2];rfl,RES.out.1,RES.out.2.1⟩
       ·have dz : (sz.2 != 0) = true:=by simpa using hz
        obtain ⟨gz,oz⟩:=put4 fp.mm.kr (.int .u64 0) (.slice none 0 0) (.slice none 0 0) (.slice none 0 0)
        have RES : Hid (ZE = sz.2 ∧ ZV = ⟨0,[],[],[]⟩ ∧ Only (fun _ => False) w wr):=by
         rcases QL.out with ⟨z,_⟩ | ⟨_,hm⟩
         ·exact absurd z hz
         ·obtain ⟨e1,e2⟩:=Qfo hm
          exact ⟨HZ.out.1.trans e2,HZ.out.2.trans e1,fp.mm.on⟩
        have LM:=Qaa (Qag (W:=((((wr.setCell ⟨w.heap.size,0,none⟩ (.int .u64 0)).setCell ⟨w.heap.size,1,none⟩ (.slice none 0 0)).setCell ⟨w.heap.size,2,none⟩ (.slice none 0 0)).setCell ⟨w.heap.size,3,none⟩ (.slice none 0 0)).drew) gz);have OZ:=Qaa ((fp.mm.on.trans oz (fun i hi e => by omega)).drew)
        have KW : Hid (∀ W,Only (fun k => k = w.heap.size) wr W → W.cell? ⟨g,1,none⟩ = some (.int .i64 sz.2)):=fun W o => by
         have:=(HBZ.out.keep o (fun e => by have:=KO.out.a;omega)).cell 1
         simpa using this
        obtain ⟨ez,hez⟩ : ∃ ez,ez = sz.2:=⟨_,rfl⟩;rw [← hez] at rz dz RES KW;have rz1:=KW.out ((wr.setCell ⟨w.heap.size,0,none⟩ (.int .u64 0)).setCell ⟨w.heap.size,1,none⟩ (.slice none 0 0)) (((Only.refl (fun k => k = w.heap.size) _).setCell (p:=⟨w.heap.size,0,none⟩) (fun _ => rfl) _).setCell (p:=⟨w.heap.size,1,none⟩) (fun _ => rfl) _)
        have hne1 : ¬ g = w.heap.size:=by have:=KO.out.a;omega
        have hne2 : ¬ w.heap.size = g:=by have:=KO.out.a;omega
        clear fp hz gz oz QL hez FPX k0 k1 k2 k3;go_wp2_with fail;go_region;clear rz rz1 r0 r1 r2 r3 q0 q1 q2 q3;go_wp2;refine bodyPost_ret (Qau Tryz.results19 _ _ rfl rfl LM.out) rfl ?_;exact ⟨_,_,_,_,by rw [RES.out.1];rfl,by rw [RES.out.2.1];exact ⟨rfl,Bs.nil _ _,Ens.nil _,Bs.nil _ _⟩,OZ.out⟩
end Go.Proofs.YtcpopagikbjimaaGreatDoor
