import Derived.Test.YtcpopagikbjimaaGreatDoorG4
import Derived.RangeFuncNested
import Derived.RangeFuncBound
import Derived.Shelf.RegionOpen
import Derived.OwnWalkIn
import Derived.LoopNIn
import Derived.LoopIn
namespace Go.Proofs.YtcpopagikbjimaaGreatDoor
set_option maxHeartbeats 800000
set_option maxRecDepth 100000
open Go.RowKit
def zH : List Value:=hc (List.replicate 8 0) (List.replicate 64 0) 0
theorem Tryz.zero33 : (Tryz.prog.info? 144).map (fun i => (i.zero,i.size)) = some (some (.agg zH.toArray),73):=by kernel_rfl
theorem Qkv : U8 (List.replicate 64 0):=fun y hy => by
 rw [List.mem_replicate] at hy;obtain ⟨_,rfl⟩:=hy;decide
theorem Hs.zero {w : World} {g : Nat} (h : Blk w g 144 zH) : Hs w g []:=.inr ⟨rfl,_,_,h,rfl,rfl,Qkv⟩
theorem Hs.blk {w : World} {g : Nat} {all : List Int} (h : Hs w g all) : ∃ cs,Blk w g 144 cs ∧ cs.length = 73 ∧ cs[72]? = some (.int .i64 (all.length : Int)) ∧ (∀ v ∈ cs,v.oneCell' = true) ∧ ∀ w' g',Blk w' g' 144 cs → Hs w' g' all:=by
 have one : ∀ (st : List Nat) (pc : List Int) (n : Nat),∀ v ∈ hc st pc n,v.oneCell' = true:=fun st pc n v hv => by
  simp only [hc,List.mem_append,List.mem_singleton] at hv
  rcases hv with (h | h) | rfl
  ·exact Qje _ v h
  ·exact Qcf _ v h
  ·rfl
 rcases h with ⟨st,pc,h1,h2⟩ | ⟨rfl,st,pc,h1,h2,h3,h4⟩
 ·exact ⟨_,h1,Qfj h2.sl h2.pl _,hc_n h2.sl h2.pl _,one _ _ _,fun w' g' h => .inl ⟨st,pc,h,h2⟩⟩
 ·exact ⟨_,h1,Qfj h2 h3 _,hc_n h2 h3 _,one _ _ _,fun w' g' h => .inr ⟨rfl,st,pc,h,h2,h3,h4⟩⟩
theorem Qk3 {st : List Nat} {pc all : List Int} (h : HP st pc (all ++ endS all.length)) : st.flatMap be4 = SHA all:=by
 unfold SHA;rw [Qh0,← h.st]
theorem Qkw {w : World} {lo : Nat} {E : TypeId} {v : Value} {n : Nat} {xs : List Value} (h : w.ownsRow lo E 1 v n xs) {g : Nat} (hg : g < lo) : ∀ k,v.ownBlock = some k → k ≠ g:=fun k hk e => by
 have:=(h.lt k hk).1;omega
theorem Qe1 (g : Nat) (all : List Int) (w : World) (h : Hs w g all) (hl : all.length ≤ 100000000000) :
  Calls Tryz.prog 106 #[.pointer (some ⟨g,0,none⟩)] w fun e w' => ∃ v,e = .returned v ∧ w'.ownsRow w.heap.size 5 1 v 32 ((SHA all).map (Value.int .u8)) ∧ Only (fun _ => False) w w':=by
 obtain ⟨cs,h1,h2,h3,h4,h5⟩:=h.blk;have hzv:=(zero_of_info (P:=Tryz.prog) Tryz.zero33).1;obtain ⟨Z,hZ⟩ : ∃ Z,Z = zH:=⟨_,rfl⟩;rw [← hZ] at hzv
 have HZ : Hid (Z.toArray.size = cs.toArray.size):=by
  show _ = _
  rw [hZ,List.size_toArray,List.size_toArray,h2];rfl
 have HS : Hid ((Tryz.prog.info? 144).map (·.size) = some cs.toArray.size):=by
  show _ = _
  rw [List.size_toArray,h2];exact Tryz.size33
 have HA:=Qaa (all_oneCell_toArray h4);have HB:=Qaa (h1.alloc (.cells Z.toArray 144));have hlt:=h1.lt;have hN1 : Blk ((w.alloc (.cells Z.toArray 144)).setRow w.heap.size cs.toArray) w.heap.size 144 cs:=(Blk.new w 144 Z).row cs;have hO1 : Only (fun _ => False) w ((w.alloc (.cells Z.toArray 144)).setRow w.heap.size cs.toArray):=((Only.refl _ _).alloc _).setRow (fun f => absurd f (Nat.lt_irrefl _)) _;obtain ⟨W1,hW1⟩ : ∃ W1,W1 = (w.alloc (.cells Z.toArray 144)).setRow w.heap.size cs.toArray:=⟨_,rfl⟩;rw [← hW1] at hN1 hO1;have HW1:=Qaa hW1;have HH:=Qaa (h5 _ _ hN1);have HO:=Qaa hO1
 have hc : W1.cell? ⟨w.heap.size,72,none⟩ = some (.int .i64 (all.length : Int)):=by rw [hN1.cell,h3]
 rw [hW1] at hc;clear h h1 h2 h3 h4 h5 hZ hW1 hN1 hO1;go_enter Tryz.func106,Tryz.ntmps106;go_wp2_with (first | (refine wpList_load_row rfl 144 (.tmp 7) rfl g rfl 144 cs.toArray (0,0) _ HB.out Tryz.underlying144 rfl HS.out ?_) | (refine wpList_store_row rfl 144 (.tmp 3) (.tmp 8) rfl w.heap.size cs.toArray rfl rfl 144 Z.toArray (Blk.new w 144 Z) HS.out HZ.out HA.out ?_));rw [← HW1.out];clear hc;refine (QfP all.length (by omega) W1).mono ?_;rintro e w2 ⟨v2,rfl,own2,on2⟩;have hgs : w.heap.size < W1.heap.size:=HH.out.lt;have hsz1:=HO.out.size;have b2 : Bs .u8 w2 v2 (endS all.length):=Bs.of_own (by rw [Qfd];exact own2);have WC:=Qaa (QbJ w.heap.size all (endS all.length) v2 w2 (HH.out.past on2) b2 (Qc0 _) (fun _ => Qkw own2 hgs) (by rw [Qfd];have:=Qdd all.length;omega));have O2:=Qaa (HO.out.same on2)
 have HG2 : Hid (w.heap.size < w2.heap.size):=by have:=on2.size;show _ < _;omega
 obtain ⟨ao2,cap2,e2⟩:=b2.len;subst e2;clear own2 b2 on2 hgs HW1 HH HB hzv HZ HS HA;go_wp2_with fail;refine WC.out.mono ?_;rintro e w3 ⟨rfl,⟨st,pc,hb3,hp3⟩,on3⟩;have O3 : Only (fun _ => False) w w3:=O2.out.trans on3 (fun i hi e => by omega)
 have hb4 : Blk w3 w.heap.size 144 ([] ++ wl st ++ (bl pc ++ [.int .i64 (((all ++ endS all.length).length : Nat) : Int)])):=by
  unfold hc at hb3;rw [List.nil_append,← List.append_assoc];exact hb3
 have R0 : Hid (w3.rangeAt w.heap.size 0 (wl st)):=hb4.range
 have SZ : Hid ((Tryz.prog.info? 141).map (·.size) = some (wl st).length):=by
  show _ = _
  rw [QaA,hp3.sl];exact Tryz.size30
 have BC:=Qaa (Qez st hp3.sl w3);rw [Qk3 hp3] at BC;have HO3:=Qaa O3;clear hb3 hb4 on3 O3 hp3 O2 WC;go_wp2_with (refine wpList_load_mid rfl 141 (.tmp 13) rfl w.heap.size 0 rfl (wl st) _ R0.out Tryz.underlying141 rfl SZ.out ?_);refine BC.out.mono ?_;rintro e w4 ⟨v4,rfl,own4,on4⟩;have F1:=Qaa (Qal own4 HO3.out.size);have F2:=Qaa (HO3.out.same on4);obtain ⟨ao4,cap4,e4⟩:=(Bs.of_own (k:=.u8) (xs:=SHA all) (by rw [Qan];exact own4)).len;subst e4;clear own4 on4 BC;go_wp2;go_ret;exact ⟨_,rfl,F1.out,F2.out⟩
theorem QhE (v : Value) (xs : List Int) (w : World) (hb : Bs .u8 w v xs) (h8 : U8 xs) (hl : xs.length ≤ 100000000000) :
  Calls Tryz.prog 77 #[v] w fun e w' => ∃ v',e = .returned v' ∧ w'.ownsRow w.heap.size 5 1 v' 32 ((SHA xs).map (Value.int .u8)) ∧ Only (fun _ => False) w w':=by
 have hzv:=(zero_of_info (P:=Tryz.prog) Tryz.zero33).1;obtain ⟨Z,hZ⟩ : ∃ Z,Z = zH:=⟨_,rfl⟩;rw [← hZ] at hzv;have hN1 : Blk (w.alloc (.cells Z.toArray 144)) w.heap.size 144 Z:=Blk.new w 144 Z;have hO1 : Only (fun _ => False) w (w.alloc (.cells Z.toArray 144)):=(Only.refl _ _).alloc _;have WC:=Qaa (QbJ w.heap.size [] xs v (w.alloc (.cells Z.toArray 144)) (Hs.zero (by rw [← hZ];exact hN1)) (hb.past hO1) h8 (fun hx k hk e => by have:=hb.blk_lt hx k hk;omega) (by simpa using Nat.le_trans hl (by decide)));have HO:=Qaa hO1;clear hZ hN1 hO1 hb h8;go_enter Tryz.func77,Tryz.ntmps77;go_wp2_with fail;refine WC.out.mono ?_;rintro e w3 ⟨rfl,hs3,on3⟩;rw [List.nil_append] at hs3;have HO3:=Qaa (HO.out.trans on3 (fun i hi e => by omega));have BC:=Qaa (Qe1 w.heap.size xs w3 (.inl hs3) hl);clear hs3 on3 WC HO;go_wp2_with fail;refine BC.out.mono ?_;rintro e w4 ⟨v4,rfl,own4,on4⟩;have F1:=Qaa (Qal own4 HO3.out.size);have F2:=Qaa (HO3.out.same on4);obtain ⟨ao4,cap4,e4⟩:=(Bs.of_own (k:=.u8) (xs:=SHA xs) (by rw [Qan];exact own4)).len;subst e4;clear own4 on4 BC;go_wp2;go_ret;exact ⟨_,rfl,F1.out,F2.out⟩
def z64 : List Value:=bl (List.replicate 64 0)
theorem Tryz.zero42h : (Tryz.prog.info? 142).map (fun i => (i.zero,i.size)) = some (some (.agg z64.toArray),64):=by kernel_rfl
theorem QdP (v : Value) (xs : List Int) (W : World) (G : Nat) (hN : Blk W G 142 z64) (hb : Bs .u8 W v xs) (hl : xs.length ≤ 64) :
  ∃ w3,(Builtin.copy_ #[22,22] 3 #[.slice (some ⟨G,0,none⟩) 64 64,v]).run Tryz.prog W = .ok (.int .i64 (xs.length : Int)) w3 ∧ Blk w3 G 142 (bl (xs ++ List.replicate (64 - xs.length) 0)) ∧ Only (fun k => k = G) W w3:=by
 have hb0:=hb;obtain ⟨ao,cap,rfl,hc,hr⟩:=hb
 by_cases h0 : xs = []
 ·subst h0
  exact ⟨W,run_copy_none (P:=Tryz.prog) W 22 22 3 5 _ _ 64 64 0 cap Tryz.underlying22 Tryz.one5 rfl,hN,Only.refl _ _⟩
 ·obtain ⟨b,off,rfl,hcell⟩:=hr h0
  have hrun:=run_copy_row (P:=Tryz.prog) W 22 22 3 5 G 0 64 64 ⟨b,off,none⟩ xs.length cap z64.toArray 142 (bl xs) Tryz.underlying22 Tryz.one5 hN
   (by rw [Qah];exact (Nat.min_eq_left hl).symm) hb0.news (by rw [Qah];simp [z64,Qah];omega) (Qcf _)
  rw [show goInt ((bl xs).length : Int) = .int .i64 (xs.length : Int) by rw [Qah];rfl] at hrun;refine ⟨_,hrun,?_,(Only.refl (fun k => k = G) W).setRow (fun _ => rfl) _⟩
  have e : bl (xs ++ List.replicate (64 - xs.length) 0) = z64.toArray.toList.take 0 ++ bl xs ++ z64.toArray.toList.drop (0 + (bl xs).length):=by
   show _ = List.take 0 z64 ++ bl xs ++ List.drop (0 + (bl xs).length) z64
   rw [Qah,Nat.zero_add,List.take_zero,List.nil_append];unfold z64 bl;rw [List.map_append,List.map_replicate,List.map_replicate,List.drop_replicate]
  rw [e];exact hN.row _
theorem QdQ (v : Value) (xs : List Int) (w : World) (hb : Bs .u8 w v xs) (hl : xs.length ≤ 64) :
  Calls Tryz.prog 190 #[v] w fun e w' => e = .returned (.agg (bl (pad64 xs)).toArray) ∧ Only (fun _ => False) w w':=by
 have hk : keyS xs = xs:=if_neg (by omega);have hzv:=(zero_of_info (P:=Tryz.prog) Tryz.zero42h).1;obtain ⟨Z,hZ⟩ : ∃ Z,Z = z64:=⟨_,rfl⟩;rw [← hZ] at hzv;obtain ⟨W1,hW1⟩ : ∃ W1,W1 = (w.alloc (.cells Z.toArray 142)).alloc (.cells Z.toArray 142):=⟨_,rfl⟩
 have hN1 : Blk W1 w.heap.size 142 Z:=by rw [hW1];exact (Blk.new w 142 Z).alloc _
 have hN2 : Blk W1 (w.heap.size + 1) 142 Z:=by
  have:=Blk.new (w.alloc (.cells Z.toArray 142)) 142 Z;rw [size_alloc] at this;rw [hW1];exact this
 have hO1 : Only (fun _ => False) w W1:=by rw [hW1];exact ((Only.refl _ _).alloc _).alloc _
 obtain ⟨w3,hcp,hB3,hO3⟩:=QdP v xs W1 (w.heap.size + 1) (by rw [← hZ];exact hN2) (hb.past hO1) hl
 have hp : bl (xs ++ List.replicate (64 - xs.length) 0) = bl (pad64 xs):=by unfold pad64;rw [hk]
 rw [hp] at hB3;obtain ⟨C,hC⟩ : ∃ C,C = bl (pad64 xs):=⟨_,rfl⟩
 have hCl : C.length = 64:=by rw [hC,Qah,QaP]
 rw [← hC] at hB3 ⊢;have H3:=Qaa hB3;have H2:=Qaa (hN1.keep hO3 (by omega));have HO:=Qaa (hO1.trans hO3 (fun k hk e => by omega))
 have HSZ : Hid ((Tryz.prog.info? 142).map (·.size) = some C.toArray.size):=by
  show _ = _
  rw [List.size_toArray,hCl];exact Tryz.size31
 have HZ2 : Hid (Z.toArray.size = C.toArray.size):=by
  show _ = _
  rw [List.size_toArray,List.size_toArray,hCl,hZ];simp [z64,Qah]
 have HA : Hid (C.toArray.all (·.oneCell') = true):=by
  show _ = _
  rw [hC];exact all_oneCell_toArray (Qcf _)
 obtain ⟨ao,cap,rfl⟩:=hb.len;obtain ⟨m,hm⟩ : ∃ m,m = xs.length:=⟨_,rfl⟩;rw [← hm] at hcp ⊢;have d1 : decide ((64 : Int) < (m : Int)) = false:=decide_eq_false (by omega);have d1' : decide (64 < m) = false:=decide_eq_false (by omega);rw [hW1] at hcp;clear hZ hW1 hN1 hN2 hO1 hB3 hO3 hp hC hCl hm hb hk hl;go_enter Tryz.func190,Tryz.ntmps190;go_wp2_with (first | (refine wpList_load_row rfl 142 (.tmp 3) rfl (w.heap.size + 1) rfl 142 C.toArray (0,0) _ H3.out Tryz.underlying142 rfl HSZ.out ?_) | (refine wpList_store_row rfl 142 (.tmp 2) (.tmp 12) rfl w.heap.size C.toArray rfl rfl 142 Z.toArray H2.out HSZ.out HZ2.out HA.out ?_));refine bodyPost_ret (v:=.agg C.toArray) (results_cell_row rfl _ _ w.heap.size 142 C.toArray (0,0) _ rfl (setRow_heap _ _ _ _ 142 _ H2.out) Tryz.underlying142 rfl HSZ.out) rfl ⟨rfl,?_⟩;exact HO.out.setRow (fun h => absurd h (Nat.lt_irrefl _)) _
theorem QeD (v : Value) (xs : List Int) (w : World) (hb : Bs .u8 w v xs) (h8 : U8 xs) (hl : 64 < xs.length) (hl2 : xs.length ≤ 100000000000) :
  Calls Tryz.prog 190 #[v] w fun e w' => e = .returned (.agg (bl (pad64 xs)).toArray) ∧ Only (fun _ => False) w w':=by
 have hk : keyS xs = SHA xs:=if_pos hl;have hzv:=(zero_of_info (P:=Tryz.prog) Tryz.zero42h).1;obtain ⟨Z,hZ⟩ : ∃ Z,Z = z64:=⟨_,rfl⟩;rw [← hZ] at hzv;obtain ⟨C,hC⟩ : ∃ C,C = bl (pad64 xs):=⟨_,rfl⟩
 have hCl : C.length = 64:=by rw [hC,Qah,QaP]
 have hp : bl (SHA xs ++ List.replicate (64 - (SHA xs).length) 0) = C:=by rw [hC];unfold pad64;rw [hk]
 have HP:=Qaa hp;rw [← hC]
 have HSZ : Hid ((Tryz.prog.info? 142).map (·.size) = some C.toArray.size):=by
  show _ = _
  rw [List.size_toArray,hCl];exact Tryz.size31
 have HZ2 : Hid (Z.toArray.size = C.toArray.size):=by
  show _ = _
  rw [List.size_toArray,List.size_toArray,hCl,hZ];simp [z64,Qah]
 have HA : Hid (C.toArray.all (·.oneCell') = true):=by
  show _ = _
  rw [hC];exact all_oneCell_toArray (Qcf _)
 have hO1 : Only (fun _ => False) w (w.alloc (.cells Z.toArray 142)):=(Only.refl _ _).alloc _;have SU:=Qaa (QhE v xs (w.alloc (.cells Z.toArray 142)) (hb.past hO1) h8 hl2);have HN1:=Qaa (Blk.new w 142 Z);have HO1:=Qaa hO1;have HZ:=Qaa hZ;obtain ⟨ao,cap,rfl⟩:=hb.len;obtain ⟨m,hm⟩ : ∃ m,m = xs.length:=⟨_,rfl⟩;rw [← hm] at SU ⊢;have d1 : decide ((64 : Int) < (m : Int)) = true:=decide_eq_true (by omega);have d1' : decide (64 < m) = true:=decide_eq_true (by omega);clear hZ hO1 hp hC hCl hm hb hk hl h8 hl2;go_enter Tryz.func190,Tryz.ntmps190;go_wp2_with fail;refine SU.out.mono ?_;rintro e w2 ⟨v2,rfl,own2,on2⟩;have b2 : Bs .u8 w2 v2 (SHA xs):=Bs.of_own (by rw [Qan];exact own2);obtain ⟨G,hG⟩ : ∃ G,G = w2.heap.size:=⟨_,rfl⟩
 have hN2 : Blk (w2.alloc (.cells Z.toArray 142)) G 142 Z:=by rw [hG];exact Blk.new w2 142 Z
 obtain ⟨w3,hcp,hB3,hO3⟩:=QdP v2 (SHA xs) (w2.alloc (.cells Z.toArray 142)) G (by rw [← HZ.out];exact hN2) (b2.past ((Only.refl _ _).alloc _)) (by rw [Qan];decide);rw [HP.out] at hB3;have hlt:=HN1.out.lt;have hs2:=on2.size;have H3:=Qaa hB3;have H2:=Qaa (((HN1.out.past on2).alloc (.cells Z.toArray 142)).keep hO3 (by omega));have HO:=Qaa (((HO1.out.same on2).alloc (.cells Z.toArray 142)).trans hO3 (fun k hk e => by have:=HO1.out.size;omega));obtain ⟨ao2,cap2,e2⟩:=b2.len;subst e2;rw [hG] at hcp H3;clear hB3 hO3 hN2 own2 on2 b2 SU hG hlt hs2 HN1 HO1 HZ;go_wp2_with (first | (refine wpList_load_row rfl 142 (.tmp 3) rfl w2.heap.size rfl 142 C.toArray (0,0) _ H3.out Tryz.underlying142 rfl HSZ.out ?_) | (refine wpList_store_row rfl 142 (.tmp 2) (.tmp 12) rfl w.heap.size C.toArray rfl rfl 142 Z.toArray H2.out HSZ.out HZ2.out HA.out ?_));refine bodyPost_ret (v:=.agg C.toArray) (results_cell_row rfl _ _ w.heap.size 142 C.toArray (0,0) _ rfl (setRow_heap _ _ _ _ 142 _ H2.out) Tryz.underlying142 rfl HSZ.out) rfl ⟨rfl,?_⟩;exact HO.out.setRow (fun h => absurd h (Nat.lt_irrefl _)) _
theorem QfQ (v : Value) (xs : List Int) (w : World) (hb : Bs .u8 w v xs) (h8 : U8 xs) (hl2 : xs.length ≤ 100000000000) :
  Calls Tryz.prog 190 #[v] w fun e w' => e = .returned (.agg (bl (pad64 xs)).toArray) ∧ Only (fun _ => False) w w':=by
 by_cases h : 64 < xs.length
 ·exact QeD v xs w hb h8 h hl2
 ·exact QdQ v xs w hb (by omega)
theorem Tryz.zero42m : (Tryz.prog.info? 142).map (fun i => (i.zero,i.size)) = some (some (.agg (bl (List.replicate 64 0)).toArray),64):=by kernel_rfl
def mkd (x : Nat) (k : List Int) (j : Nat) : List Int:=(xorB x k).take j ++ k.drop j
theorem QjX (x : Nat) (k : List Int) (j : Nat) (hj : j ≤ k.length) : (mkd x k j).length = k.length:=by
 unfold mkd;rw [List.length_append,List.length_take,List.length_drop,QaM];omega
theorem Qiq (x : Nat) (k : List Int) (j : Nat) (hj : j < k.length) : (mkd x k j).getD j 0 = k.getD j 0:=by
 unfold mkd;rw [List.getD_eq_getElem?_getD,List.getElem?_append_right (by rw [List.length_take,QaM];omega),List.length_take,QaM,Nat.min_eq_left (by omega),Nat.sub_self,List.getElem?_drop,Nat.add_zero,List.getD_eq_getElem?_getD]
theorem Qir (x : Nat) (k : List Int) (j : Nat) (hj : j < k.length) : (mkd x k j).set j (((k.getD j 0).toNat ^^^ x : Nat) : Int) = mkd x k (j + 1):=by
 unfold mkd;rw [List.set_append_right _ _ (by rw [List.length_take];omega),List.length_take,QaM,Nat.min_eq_left (by omega),Nat.sub_self,List.take_add_one]
 have e : (xorB x k)[j]? = some (((k.getD j 0).toNat ^^^ x : Nat) : Int):=by
  unfold xorB;rw [List.getElem?_map,List.getElem?_eq_getElem hj,List.getD_eq_getElem?_getD,List.getElem?_eq_getElem hj];rfl
 rw [e,List.drop_eq_getElem_cons hj,List.set_cons_zero,List.append_assoc]
 rfl
theorem QjY (x : Nat) (k : List Int) (n : Nat) (hn : k.length = n) : mkd x k n = xorB x k:=by
 unfold mkd;rw [List.take_of_length_le (by rw [QaM];omega),List.drop_of_length_le (by omega),List.append_nil]
theorem QfX (k : List Int) (hk : k.length = 64) (h8 : U8 k) (x : Nat) (hx : x < 256) (w : World) :
  Calls Tryz.prog 192 #[.agg (bl k).toArray,.int .u8 (x : Int)] w fun e w' => e = .returned (.agg (bl (xorB x k)).toArray) ∧ Only (fun _ => False) w w':=by
 have hzv:=(zero_of_info (P:=Tryz.prog) Tryz.zero42m).1;obtain ⟨Z,hZ⟩ : ∃ Z,Z = bl (List.replicate 64 0):=⟨_,rfl⟩;rw [← hZ] at hzv;obtain ⟨B,hB⟩ : ∃ B,B = bl k:=⟨_,rfl⟩;obtain ⟨C,hC⟩ : ∃ C,C = bl (xorB x k):=⟨_,rfl⟩
 have hCl : C.length = 64:=by rw [hC,Qah,QaM,hk]
 have HSZ : Hid ((Tryz.prog.info? 142).map (·.size) = some C.toArray.size):=by
  show _ = _
  rw [List.size_toArray,hCl];exact Tryz.size31
 have HZ2 : Hid (Z.toArray.size = C.toArray.size):=by
  show _ = _
  rw [List.size_toArray,List.size_toArray,hCl,hZ];simp [Qah]
 have HA : Hid (C.toArray.all (·.oneCell') = true):=by
  show _ = _
  rw [hC];exact all_oneCell_toArray (Qcf _)
 have HC : Hid (bl (mkd x k 64) = C):=by
  show _ = _
  rw [QjY x k 64 hk,hC]
 rw [← hC,← hB]
 have HB : Hid (B = bl (mkd x k 0)):=by
  show _ = _
  rw [hB];simp [mkd]
 have HK:=Qaa (And.intro hk (And.intro h8 hx));clear hZ hB hC hCl hk h8 hx;go_enter Tryz.func192,Tryz.ntmps192;go_wp2;have S0 : Hid (Blk ((w.alloc (.cells B.toArray 142)).alloc (.cells Z.toArray 142)) w.heap.size 142 (bl (mkd x k 0))):=Eq.mp (congrArg (Blk _ w.heap.size 142) HB.out) ((Blk.new w 142 B).alloc _)
 have R0 : Hid (Blk ((w.alloc (.cells B.toArray 142)).alloc (.cells Z.toArray 142)) (w.heap.size + 1) 142 Z):=by
  have:=Blk.new (w.alloc (.cells B.toArray 142)) 142 Z;rw [size_alloc] at this;exact this
 have O0 : Hid (Only (fun _ => False) w ((w.alloc (.cells B.toArray 142)).alloc (.cells Z.toArray 142))):=((Only.refl _ _).alloc _).alloc _;obtain ⟨W0,hW0⟩ : ∃ W0,W0 = ((w.alloc (.cells B.toArray 142)).alloc (.cells Z.toArray 142)):=⟨_,rfl⟩;obtain ⟨G,hG⟩ : ∃ G,G = w.heap.size:=⟨_,rfl⟩;obtain ⟨R,hR⟩ : ∃ R,R = w.heap.size + 1:=⟨_,rfl⟩;rw [← hG,← hW0] at S0;rw [← hR,← hW0] at R0;rw [← hW0] at O0;rw [← hR,← hG,← hW0];have HG : Hid (w.heap.size ≤ G ∧ w.heap.size ≤ R ∧ R ≠ G):=⟨by omega,by omega,by omega⟩;clear hG hR hW0 hzv HB
 go_loopw [6] (fun i wr => ∃ j : Nat,j ≤ 64 ∧ i = .int .i64 j ∧ Hid (Blk wr G 142 (bl (mkd x k j))) ∧ Hid (Blk wr R 142 Z) ∧ Hid (Only (fun _ => False) w wr)) (fun i _ => 64 - (intOf i).toNat)
 case atStart => exact ⟨0,by omega,rfl,S0,R0,O0⟩
 case round =>
  obtain ⟨j,hj,rfl,hS,hR,hO⟩:=hrel;clear S0 R0 O0
  by_cases hlt : j < 64
  ·obtain ⟨y,hy⟩ : ∃ y,y = k.getD j 0:=⟨_,rfl⟩
   have hyr:=HK.out.2.1.at j;rw [← hy] at hyr;obtain ⟨y0,y1⟩:=hyr
   have hcell : wr.cell? ⟨G,j,none⟩ = some (.int .u8 y):=by
    rw [hS.out.cell,bl_at _ _ (by rw [QjX _ _ _ (by rw [HK.out.1];omega),HK.out.1];exact hlt),Qiq _ _ _ (by rw [HK.out.1];exact hlt),hy]
   have hfr : wr.frozen? ⟨G,j,none⟩ = false:=hS.out.froz _;have hxor:=u8_xor y (x : Int) y0 (by omega) (by omega) (by have:=HK.out.2.2;omega);rw [Int.toNat_natCast] at hxor;obtain ⟨q,hq⟩ : ∃ q : Int,q = ((y.toNat ^^^ x : Nat) : Int):=⟨_,rfl⟩;rw [← hq] at hxor
   have i0 : (0 : Int) ≤ (j : Int):=by omega
   have i1 : (j : Int) < 64:=by omega
   have N1 : Hid (Blk (wr.setCell ⟨G,j,none⟩ (.int .u8 q)) G 142 (bl (mkd x k (j + 1)))):=by
    have:=hS.out.set j (.int .u8 q);rw [QkD,hq,hy,Qir _ _ _ (by rw [HK.out.1];exact hlt)] at this;rw [hq,hy];exact this
   have hON:=(Only.refl (fun k => k = G) wr).setCell (p:=⟨G,j,none⟩) (fun _ => rfl) (.int .u8 q);have N2:=Qaa (hR.out.keep hON HG.out.2.2);have N3:=Qaa (hO.out.trans hON (fun i hi e => by have:=HG.out.1;omega));clear hy hS hR hO hON hq;go_wp2
   go_roundw
   case rel => exact ⟨j + 1,by omega,by go_num,N1,N2,N3⟩
   case measure => simp [intOf];omega
  ·obtain rfl : j = 64:=by omega
   rw [HC.out] at hS;go_wp2_with (first | (refine wpList_load_row rfl 142 (.tmp 2) rfl G rfl 142 C.toArray (0,0) _ hS.out Tryz.underlying142 rfl HSZ.out ?_) | (refine wpList_store_row rfl 142 (.tmp 4) (.tmp 16) rfl R C.toArray rfl rfl 142 Z.toArray hR.out HSZ.out HZ2.out HA.out ?_));refine bodyPost_ret (v:=.agg C.toArray) (results_cell_row rfl _ _ R 142 C.toArray (0,0) _ rfl (setRow_heap _ _ _ _ 142 _ hR.out) Tryz.underlying142 rfl HSZ.out) rfl ⟨rfl,?_⟩;exact hO.out.setRow (fun h => absurd h (by have:=HG.out.2.1;omega)) _
def pcat (ls : Nat → List Int) : Nat → List Int
 | 0 => []
 | k + 1 => pcat ls k ++ ls k
theorem Qg5 (ls : Nat → List Int) (k n : Nat) (h : k ≤ n) : (pcat ls k).length ≤ (pcat ls n).length:=by
 induction n with
 | zero =>
  obtain rfl : k = 0:=by omega
  exact Nat.le_refl _
 | succ n ih =>
  by_cases e : k = n + 1
  ·subst e;exact Nat.le_refl _
  ·have:=ih (by omega)
   rw [pcat,List.length_append];omega
def Ps (w : World) (p n : Nat) (ls : Nat → List Int) : Prop:=∀ i,i < n → ∃ u,w.cell? ⟨p,i,none⟩ = some u ∧ Bs .u8 w u (ls i) ∧ U8 (ls i)
theorem Qar {w w' : World} {q : Addr} {u : Value} (h : w.cell? q = some u) (o : Only (fun _ => False) w w') : w'.cell? q = some u:=by
 rw [← h];exact World.cell?_of_block (o.block _ (World.block_lt_of_cell? w _ h) (fun f => f))
theorem Ps.past {w w' : World} {p n : Nat} {ls : Nat → List Int} (h : Ps w p n ls) (o : Only (fun _ => False) w w') : Ps w' p n ls:=fun i hi => by
 obtain ⟨u,h1,h2,h3⟩:=h i hi;exact ⟨u,Qar h1 o,h2.past o,h3⟩
theorem Blk.bs {w : World} {g : Nat} {t : TypeId} {xs : List Int} (h : Blk w g t (bl xs)) (n : Nat) (hn : xs.length = n) : Bs .u8 w (.slice (some ⟨g,0,none⟩) n n) xs:=by
 subst hn;refine ⟨_,_,rfl,Nat.le_refl _,fun _ => ⟨g,0,rfl,fun j hj => ?_⟩⟩;rw [Nat.zero_add,h.cell,bl_at _ _ hj]
theorem Ps.one {w : World} {u : Value} {xs : List Int} (h : Bs .u8 w u xs) (h8 : U8 xs) : Ps (w.alloc (.cells #[u] 22)) w.heap.size 1 (fun _ => xs):=fun i hi => by
 obtain rfl : i = 0:=by omega
 refine ⟨u,?_,h.past ((Only.refl _ _).alloc _),h8⟩;have:=(Blk.new w 22 [u]).cell 0;rw [this];rfl
theorem QbH (xs : List Int) : pcat (fun _ => xs) 1 = xs:=List.nil_append _
def ptwo (a b : List Int) (i : Nat) : List Int:=if i = 0 then a else b
theorem Qfs (a b : List Int) : pcat (ptwo a b) 2 = a ++ b:=by
 show (([] ++ a) ++ b : List Int) = _
 rw [List.nil_append]
theorem Ps.two {w : World} {p u : Value} {a b : List Int} (ha : Bs .u8 w p a) (hb : Bs .u8 w u b) (a8 : U8 a) (b8 : U8 b) :
  Ps (w.alloc (.cells #[p,u] 22)) w.heap.size 2 (ptwo a b):=fun i hi => by
 have o : Only (fun _ => False) w (w.alloc (.cells #[p,u] 22)):=(Only.refl _ _).alloc _;have hB:=Blk.new w 22 [p,u]
 rcases (show i = 0 ∨ i = 1 by omega) with rfl | rfl
 ·exact ⟨p,hB.cell 0,ha.past o,a8⟩
 ·exact ⟨u,hB.cell 1,hb.past o,b8⟩
theorem Qb3 (f : List Int) (hf : f.length = 64) (h8 : U8 f) (p n : Nat) (ls : Nat → List Int) (w : World) (hp : Ps w p n ls) (hl : (pcat ls n).length ≤ 10000000000) (hn : n ≤ 1000) :
  Calls Tryz.prog 191 #[.agg (bl f).toArray,.slice (some ⟨p,0,none⟩) n n] w fun e w' => ∃ v,e = .returned v ∧ w'.ownsRow w.heap.size 5 1 v 32 ((SHA (f ++ pcat ls n)).map (Value.int .u8)) ∧ Only (fun _ => False) w w':=by
 have hzv:=(zero_of_info (P:=Tryz.prog) Tryz.zero33).1;obtain ⟨Z,hZ⟩ : ∃ Z,Z = zH:=⟨_,rfl⟩;rw [← hZ] at hzv;obtain ⟨W1,hW1⟩ : ∃ W1,W1 = (w.alloc (.cells (bl f).toArray 142)).alloc (.cells Z.toArray 144):=⟨_,rfl⟩
 have hN1 : Blk W1 w.heap.size 142 (bl f):=by rw [hW1];exact (Blk.new w 142 (bl f)).alloc _
 have hN2 : Blk W1 (w.heap.size + 1) 144 zH:=by
  have:=Blk.new (w.alloc (.cells (bl f).toArray 142)) 144 Z;rw [size_alloc] at this;rw [hW1,← hZ];exact this
 have hO1 : Only (fun _ => False) w W1:=by rw [hW1];exact ((Only.refl _ _).alloc _).alloc _
 have WC:=Qaa (QbJ (w.heap.size + 1) [] f (.slice (some ⟨w.heap.size,0,none⟩) 64 64) W1 (Hs.zero hN2) (hN1.bs 64 hf) h8 (fun _ k hk e => by simp [Value.ownBlock] at hk;omega) (by rw [hf];decide));rw [hf] at WC;have HO1:=Qaa hO1;have HW1:=Qaa hW1;have HP:=Qaa hp;have HF:=Qaa hf;obtain ⟨B,hB⟩ : ∃ B,B = bl f:=⟨_,rfl⟩;rw [← hB] at HW1 ⊢;obtain ⟨G,hG⟩ : ∃ G,G = w.heap.size + 1:=⟨_,rfl⟩;have HG:=Qaa hG;clear hZ hW1 hN1 hN2 hO1 hp hf h8 hB hG;go_enter Tryz.func191,Tryz.ntmps191;go_wp2_with fail;rw [← HW1.out];refine WC.out.mono ?_;rintro e w3 ⟨rfl,hs3,on3⟩;rw [List.nil_append] at hs3
 have S0 : Hid (Hs w3 G (f ++ pcat ls 0)):=by
  show _
  rw [show f ++ pcat ls 0 = f from List.append_nil f,HG.out];exact .inl hs3
 have O0:=Qaa (HO1.out.trans on3 (fun i hi e => by omega));rw [← HG.out];clear hs3 on3 WC HW1 HO1 hzv;go_wp2
 go_loopw [12] (fun i wr => ∃ j : Nat,j ≤ n ∧ i = .int .i64 j ∧ Hid (Hs wr G (f ++ pcat ls j)) ∧ Hid (Only (fun _ => False) w wr)) (fun i _ => n - (intOf i).toNat)
 case atStart => exact ⟨0,by omega,rfl,S0,O0⟩
 case round =>
  obtain ⟨j,hj,rfl,hS,hO⟩:=hrel;clear S0 O0
  by_cases hlt : j < n
  ·obtain ⟨u,hu,hbu,hu8⟩:=HP.out j hlt
   have hc : wr.cell? ⟨p,j,none⟩ = some u:=Qar hu hO.out;have hle:=Qg5 ls (j + 1) n (by omega);have A:=Qaa (QbJ G (f ++ pcat ls j) (ls j) u wr hS.out (hbu.past hO.out) hu8 (fun hx k hk e => by have:=hbu.blk_lt hx k hk;have:=HG.out;omega) (by rw [pcat,List.length_append] at hle;rw [List.length_append,HF.out];omega));have dlt : decide ((j : Int) < (n : Int)) = true:=decide_eq_true (by omega);have dlt' : decide (j < n) = true:=decide_eq_true hlt
   have i0 : (0 : Int) ≤ (j : Int):=by omega
   have i1 : (j : Int) < (n : Int):=by omega
   clear hu hbu hu8 hS hle;go_wp2_with fail;refine A.out.mono ?_;rintro e w4 ⟨rfl,hs4,on4⟩
   have N1 : Hid (Hs w4 G (f ++ pcat ls (j + 1))):=by
    show _
    rw [pcat,← List.append_assoc];exact .inl hs4
   have N2:=Qaa (hO.out.trans on4 (fun i hi e => by have:=HG.out;omega));clear hs4 on4 A hO hc;go_wp2
   go_roundw
   case rel => exact ⟨j + 1,by omega,by go_num,N1,N2⟩
   case measure => simp [intOf];omega
  ·obtain rfl : j = n:=by omega
   have A:=Qaa (Qe1 G (f ++ pcat ls j) wr hS.out (by rw [List.length_append,HF.out];omega));have dlt : decide ((j : Int) < (j : Int)) = false:=decide_eq_false (by omega);clear hS;go_wp2_with fail;refine A.out.mono ?_;rintro e w4 ⟨v4,rfl,own4,on4⟩;have F1:=Qaa (Qal own4 hO.out.size);have F2:=Qaa (hO.out.same on4);obtain ⟨ao4,cap4,e4⟩:=(Bs.of_own (k:=.u8) (xs:=SHA (f ++ pcat ls j)) (by rw [Qan];exact own4)).len;subst e4;clear own4 on4 A;go_wp2;go_ret;exact ⟨_,rfl,F1.out,F2.out⟩
theorem Qet (v : Value) (key : List Int) (p n : Nat) (ls : Nat → List Int) (w : World) (hb : Bs .u8 w v key) (h8 : U8 key) (hk : key.length ≤ 10000000000) (hp : Ps w p n ls) (hl : (pcat ls n).length ≤ 10000000000) (hn : n ≤ 1000) :
  Calls Tryz.prog 142 #[v,.slice (some ⟨p,0,none⟩) n n] w fun e w' => ∃ u,e = .returned u ∧ w'.ownsRow w.heap.size 5 1 u 32 ((MACL key (pcat ls n)).map (Value.int .u8)) ∧ Only (fun _ => False) w w':=by
 have A:=Qaa (QfQ v key w hb h8 (by omega));have hzv:=(zero_of_info (P:=Tryz.prog) Tryz.zero42h).1;obtain ⟨Z,hZ⟩ : ∃ Z,Z = z64:=⟨_,rfl⟩;rw [← hZ] at hzv;obtain ⟨k,hkk⟩ : ∃ k,k = pad64 key:=⟨_,rfl⟩
 have hkl : k.length = 64:=by rw [hkk,QaP]
 have hk8 : U8 k:=by rw [hkk];exact Qfi h8
 have hM : MACL key (pcat ls n) = SHA (xorB 92 k ++ SHA (xorB 54 k ++ pcat ls n)):=by rw [hkk];rfl
 rw [hM];rw [← hkk] at A
 have HX : Hid (∀ x W,x < 256 → Calls Tryz.prog 192 #[.agg (bl k).toArray,.int .u8 ((x : Nat) : Int)] W fun e w' => e = .returned (.agg (bl (xorB x k)).toArray) ∧ Only (fun _ => False) W w'):=fun x W hx => QfX k hkl hk8 x hx W
 have HL : Hid (∀ x,(xorB x k).length = 64):=fun x => by rw [QaM,hkl]
 have H8 : Hid (∀ x,x < 256 → U8 (xorB x k)):=fun x hx => Qgx x hx hk8
 obtain ⟨C,hC⟩ : ∃ C,C = bl k:=⟨_,rfl⟩
 have hCl : C.length = 64:=by rw [hC,Qah,hkl]
 have HSZ : Hid ((Tryz.prog.info? 142).map (·.size) = some C.toArray.size):=by
  show _ = _
  rw [List.size_toArray,hCl];exact Tryz.size31
 have HZ2 : Hid (Z.toArray.size = C.toArray.size):=by
  show _ = _
  rw [List.size_toArray,List.size_toArray,hCl,hZ];simp [z64,Qah]
 have HA : Hid (C.toArray.all (·.oneCell') = true):=by
  show _ = _
  rw [hC];exact all_oneCell_toArray (Qcf _)
 rw [← hC] at A HX;have HP:=Qaa (And.intro hp hl);clear hZ hkk hkl hk8 hM hC hCl hb h8 hp hl;go_enter Tryz.func142,Tryz.ntmps142;go_wp2_with fail;refine A.out.mono ?_;rintro e w1 ⟨rfl,on1⟩;obtain ⟨G,hG⟩ : ∃ G,G = w1.heap.size:=⟨_,rfl⟩;obtain ⟨W2,hW2⟩ : ∃ W2,W2 = (w1.alloc (.cells Z.toArray 142)).setRow w1.heap.size C.toArray:=⟨_,rfl⟩;have HN:=Qaa (Blk.new w1 142 Z)
 have hB2 : Blk W2 G 142 C:=by rw [hW2,hG];exact (Blk.new w1 142 Z).row C
 have hO2 : Only (fun _ => False) w W2:=by rw [hW2];exact (on1.alloc _).setRow (fun h => absurd h (by have:=on1.size;omega)) _
 have M1:=Qaa (HX.out 54 W2 (by decide));have HB2:=Qaa hB2;have HO2:=Qaa hO2;have HW2:=Qaa hW2.symm;have HG:=Qaa hG.symm;have HB2' : Hid (Blk ((w1.alloc (.cells Z.toArray 142)).setRow w1.heap.size C.toArray) w1.heap.size 142 C):=(Blk.new w1 142 Z).row C;clear A on1 hB2 hO2 hW2 hG;go_wp2_with (first | (refine wpList_store_row rfl 142 (.tmp 5) (.tmp 8) rfl w1.heap.size C.toArray rfl rfl 142 Z.toArray HN.out HSZ.out HZ2.out HA.out ?_) | (refine wpList_load_row rfl 142 (.tmp 5) rfl w1.heap.size rfl 142 C.toArray (0,0) _ HB2'.out Tryz.underlying142 rfl HSZ.out ?_));rw [HW2.out,HG.out];refine M1.out.mono ?_;rintro e w3 ⟨rfl,on3⟩;have O3:=Qaa (HO2.out.same on3);have HB3:=Qaa (HB2.out.past on3);have S1:=Qaa (Qb3 (xorB 54 k) (HL.out 54) (H8.out 54 (by decide)) p n ls w3 (HP.out.1.past O3.out) HP.out.2 hn);clear M1 on3 HB2 HO2 HW2 HG HB2' HN hzv;go_wp2_with fail;refine S1.out.mono ?_;rintro e w4 ⟨v4,rfl,own4,on4⟩;have O4:=Qaa (O3.out.same on4);have HB4:=Qaa (HB3.out.past on4);have b4 : Bs .u8 w4 v4 (SHA (xorB 54 k ++ pcat ls n)):=Bs.of_own (by rw [Qan];exact own4);have h48 : U8 (SHA (xorB 54 k ++ pcat ls n)):=QaR _;have h4l : (SHA (xorB 54 k ++ pcat ls n)).length = 32:=Qan _;obtain ⟨I,hI⟩ : ∃ I,I = SHA (xorB 54 k ++ pcat ls n):=⟨_,rfl⟩;rw [← hI] at b4 h48 h4l;have HI:=Qaa hI;have M2:=Qaa (HX.out 92 w4 (by decide));have HB:=Qaa (And.intro b4 (And.intro h48 h4l));obtain ⟨ao4,cap4,e4⟩:=b4.len;rw [h4l] at e4;subst e4;clear S1 own4 on4 b4 h48 h4l O3 HB3 hI;go_wp2_with (refine wpList_load_row rfl 142 (.tmp 5) rfl G rfl 142 C.toArray (0,0) _ HB4.out Tryz.underlying142 rfl HSZ.out ?_);refine M2.out.mono ?_;rintro e w5 ⟨rfl,on5⟩;have O5 : Only (fun _ => False) w (w5.alloc (.cells #[.slice ao4 32 cap4] 22)):=(O4.out.same on5).alloc _;have S2:=Qaa (Qb3 (xorB 92 k) (HL.out 92) (H8.out 92 (by decide)) w5.heap.size 1 (fun _ => I) (w5.alloc (.cells #[.slice ao4 32 cap4] 22)) (Ps.one (HB.out.1.past on5) HB.out.2.1) (by rw [QbH,HB.out.2.2];decide) (by decide));rw [QbH] at S2;have HO5:=Qaa O5;clear M2 on5 O5 O4 HB4 HB;go_wp2_with fail;refine S2.out.mono ?_;rintro e w6 ⟨v6,rfl,own6,on6⟩;have F1:=Qaa (Qal own6 HO5.out.size);have F2:=Qaa (HO5.out.same on6);obtain ⟨ao6,cap6,e6⟩:=(Bs.of_own (k:=.u8) (xs:=SHA (xorB 92 k ++ I)) (by rw [Qan];exact own6)).len;subst e6;clear own6 on6 S2 HO5;go_wp2;go_ret;exact ⟨_,rfl,by rw [← HI.out];exact F1.out,F2.out⟩
theorem Qk5 (v u : Value) (key b : List Int) (w : World) (hb : Bs .u8 w v key) (h8 : U8 key) (hk : key.length ≤ 10000000000) (hu : Bs .u8 w u b) (hu8 : U8 b) (hl : b.length ≤ 10000000000) :
  Calls Tryz.prog 104 #[v,u] w fun e w' => ∃ r,e = .returned r ∧ w'.ownsRow w.heap.size 5 1 r 32 ((MACL key b).map (Value.int .u8)) ∧ Only (fun _ => False) w w':=by
 have hO1 : Only (fun _ => False) w (w.alloc (.cells #[u] 22)):=(Only.refl _ _).alloc _;have A:=Qaa (Qet v key w.heap.size 1 (fun _ => b) (w.alloc (.cells #[u] 22)) (hb.past hO1) h8 hk (Ps.one hu hu8) (by rw [QbH];exact hl) (by decide));rw [QbH] at A;have HO1:=Qaa hO1;obtain ⟨aou,capu,rfl⟩:=hu.len;obtain ⟨m,hm⟩ : ∃ m,m = b.length:=⟨_,rfl⟩;rw [← hm] at A HO1 ⊢;clear hO1 hb h8 hk hu hu8 hl hm;go_enter Tryz.func104,Tryz.ntmps104;go_wp2_with fail;refine A.out.mono ?_;rintro e w6 ⟨v6,rfl,own6,on6⟩;have F1:=Qaa (Qal own6 HO1.out.size);have F2:=Qaa (HO1.out.same on6);obtain ⟨ao6,cap6,e6⟩:=(Bs.of_own (k:=.u8) (xs:=MACL key b) (by rw [Qa8];exact own6)).len;subst e6;clear own6 on6 A HO1;go_wp2;go_ret;exact ⟨_,rfl,F1.out,F2.out⟩
theorem QdS (xs ys : List Int) (j : Nat) (hx : j < xs.length) (hy : j < ys.length) : xs.take (j + 1) = ys.take (j + 1) ↔ xs.take j = ys.take j ∧ xs.getD j 0 = ys.getD j 0:=by
 rw [List.take_add_one,List.take_add_one,List.getElem?_eq_getElem hx,List.getElem?_eq_getElem hy,List.getD_eq_getElem?_getD,List.getD_eq_getElem?_getD,List.getElem?_eq_getElem hx,List.getElem?_eq_getElem hy];simp only [Option.toList_some,Option.getD_some]
 constructor
 ·intro h
  have:=List.append_inj h (by rw [List.length_take,List.length_take];omega);exact ⟨this.1,by simpa using this.2⟩
 ·rintro ⟨h1,h2⟩;rw [h1,h2]
theorem QdT (a b : Nat) : a ^^^ b = 0 ↔ a = b:=by
 constructor
 ·intro h
  have : a ^^^ (a ^^^ b) = a ^^^ 0:=by rw [h]
  rw [← Nat.xor_assoc,Nat.xor_self,Nat.zero_xor,Nat.xor_zero] at this;exact this.symm
 ·rintro rfl;exact Nat.xor_self _
theorem QeF (a b : Nat) : a ||| b = 0 ↔ a = 0 ∧ b = 0:=by
 constructor
 ·intro h
  have h1 : a ≤ a ||| b:=Nat.left_le_or
  have h2 : b ≤ a ||| b:=Nat.right_le_or
  omega
 ·rintro ⟨rfl,rfl⟩;rfl
theorem QjN (va vb : Value) (xs ys : List Int) (w : World) (ha : Bs .u8 w va xs) (hb : Bs .u8 w vb ys) (hx8 : U8 xs) (hy8 : U8 ys) (hl : xs.length ≤ 140737488355328) :
  Calls Tryz.prog 103 #[va,vb] w fun e w' => e = .returned (.bool (decide (xs = ys))) ∧ ∃ m,w' = w.drewN m:=by
 by_cases hne : xs.length = ys.length
 case neg =>
  have hd : decide (xs = ys) = false:=decide_eq_false (fun h => hne (by rw [h]));rw [hd];obtain ⟨aoa,ca,rfl,_⟩:=ha;obtain ⟨aob,cb,rfl,_⟩:=hb
  have hbn : ((xs.length : Int) != (ys.length : Int)) = true:=by simp;omega
  obtain ⟨n,hn⟩ : ∃ n,n = xs.length:=⟨_,rfl⟩;obtain ⟨m,hm⟩ : ∃ m,m = ys.length:=⟨_,rfl⟩;rw [← hn,← hm] at hbn ⊢;clear hn hm hne hd hx8 hy8 hl;go_enter Tryz.func103,Tryz.ntmps103;go_wp2;go_ret;exact ⟨rfl,0,rfl⟩
 obtain ⟨aoa,ca,rfl,hca,hra⟩:=ha;obtain ⟨aob,cb,rfl,hcb,hrb⟩:=hb
 have hbn : ((xs.length : Int) != (xs.length : Int)) = false:=by simp
 rw [← hne] at hcb hrb ⊢;obtain ⟨D,hD⟩ : ∃ D,D = decide (xs = ys):=⟨_,rfl⟩;rw [← hD]
 by_cases hx : xs = []
 ·subst hx
  have hy : ys = []:=List.eq_nil_of_length_eq_zero (by rw [← hne];rfl);subst hy;clear hra hrb;simp only [List.length_nil]
  have HD : Hid (D = true):=by show _ = _;rw [hD];rfl
  clear hD;go_enter Tryz.func103,Tryz.ntmps103;go_wp2
  go_loop [5,14] (fun d i => d = .int .u8 0 ∧ i = .int .i64 0) (fun _ _ => 0)
  case atStart => exact ⟨rfl,rfl⟩
  case round =>
   obtain ⟨rfl,rfl⟩:=hrel;go_wp2;go_ret;exact ⟨by rw [HD.out];rfl,0,rfl⟩
 ·obtain ⟨ba,oa,rfl,hcella⟩:=hra hx
  obtain ⟨bb,ob,rfl,hcellb⟩:=hrb (fun h => hx (List.eq_nil_of_length_eq_zero (by rw [hne,h];rfl)));clear hra hrb hx;obtain ⟨n,hn⟩ : ∃ n,n = xs.length:=⟨_,rfl⟩
  have hny : n = ys.length:=by omega
  rw [← hn] at hbn hca hcb hcella hl ⊢;rw [← hn] at hcellb;have HA : Hid (∀ j,j < n → w.cell? ⟨ba,oa + j,none⟩ = some (.int .u8 (xs.getD j 0))):=hcella;have HB : Hid (∀ j,j < n → w.cell? ⟨bb,ob + j,none⟩ = some (.int .u8 (ys.getD j 0))):=hcellb;have HN : Hid (n = xs.length ∧ n = ys.length ∧ U8 xs ∧ U8 ys):=⟨hn,hny,hx8,hy8⟩;have HD:=Qaa hD;clear hcella hcellb hn hny hne hx8 hy8 hD;go_enter Tryz.func103,Tryz.ntmps103;go_wp2
  go_loopw [5,14] (fun d i wr => ∃ (k q : Nat),k ≤ n ∧ i = .int .i64 k ∧ d = .int .u8 q ∧ q < 256 ∧ Hid (q = 0 ↔ xs.take k = ys.take k) ∧ ∃ m,wr = w.drewN m) (fun _ i _ => n - (intOf i).toNat)
  case atStart => exact ⟨0,0,Nat.zero_le _,rfl,rfl,by decide,⟨fun _ => rfl,fun _ => rfl⟩,0,rfl⟩
  case round =>
   obtain ⟨k,q,hk,rfl,rfl,hq,HQ,md,hmd⟩:=hrel
   have hon : Only (fun _ => False) w wr:=by rw [hmd];exact (Only.refl _ _).drewN md
   have HMD:=Qaa hmd;clear hmd
   by_cases hlt : k < n
   ·obtain ⟨x,hx⟩ : ∃ x,x = xs.getD k 0:=⟨_,rfl⟩
    obtain ⟨y,hy⟩ : ∃ y,y = ys.getD k 0:=⟨_,rfl⟩
    have h1 : wr.cell? ⟨ba,oa + k,none⟩ = some (.int .u8 x):=by
     have:=HA.out k hlt;rw [World.cell?_of_block (hon.block ba (World.block_lt_of_cell? w _ this) (fun f => f)),hx];exact this
    have h2 : wr.cell? ⟨bb,ob + k,none⟩ = some (.int .u8 y):=by
     have:=HB.out k hlt;rw [World.cell?_of_block (hon.block bb (World.block_lt_of_cell? w _ this) (fun f => f)),hy];exact this
    have rx:=HN.out.2.2.1.at k;have ry:=HN.out.2.2.2.at k;rw [← hx] at rx;rw [← hy] at ry;have hxor:=u8_xor x y rx.1 (by omega) ry.1 (by omega);have hlx : x.toNat ^^^ y.toNat < 256:=Nat.xor_lt_two_pow (n:=8) (by omega) (by omega);have hor:=u8_or_nat q (x.toNat ^^^ y.toNat) hq hlx
    have hlo : q ||| (x.toNat ^^^ y.toNat) < 256:=Nat.or_lt_two_pow (n:=8) hq hlx
    have NQ : Hid (q ||| (x.toNat ^^^ y.toNat) = 0 ↔ xs.take (k + 1) = ys.take (k + 1)):=by
     show _ ↔ _
     rw [QdS xs ys k (by have:=HN.out.1;omega) (by have:=HN.out.2.1;omega),QeF,QdT,HQ.out,← hx,← hy]
     constructor
     ·rintro ⟨h1,h2⟩;exact ⟨h1,by omega⟩
     ·rintro ⟨h1,h2⟩;exact ⟨h1,by rw [h2]⟩
    obtain ⟨z,hz⟩ : ∃ z,z = x.toNat ^^^ y.toNat:=⟨_,rfl⟩;rw [← hz] at hxor hor hlo NQ
    obtain ⟨q',hq'⟩ : ∃ q',q' = q ||| z:=⟨_,rfl⟩
    rw [← hq'] at hor hlo NQ
    have i0 : (0 : Int) ≤ (k : Int):=by omega
    have i1 : (k : Int) < (n : Int):=by omega
    clear hx hy hz hq' rx ry hlx HQ;go_wp2;go_quiet (fail);go_wp2
    go_roundw
    case rel => exact ⟨k + 1,q',by omega,by go_num,by go_num,hlo,NQ,md + nq,by rw [HMD.out,World.drewN_drewN]⟩
    case measure => simp [intOf];omega
   ·obtain rfl : k = n:=by omega
    have HE : Hid (((q : Int) == 0) = D):=by
     show _ = _
     rw [HD.out];have e:=HQ.out;rw [List.take_of_length_le (by have:=HN.out.1;omega),List.take_of_length_le (by have:=HN.out.2.1;omega)] at e
     by_cases h0 : q = 0
     ·rw [decide_eq_true (e.1 h0),h0];rfl
     ·rw [decide_eq_false (fun h => h0 (e.2 h))];rw [beq_eq_false_iff_ne];omega
    have he:=HE.out;clear HQ HE hlt;go_wp2;go_ret;exact ⟨rfl,md,HMD.out⟩
theorem Qgz (va vb : Value) (xs ys : List Int) (w : World) (ha : Bs .u8 w va xs) (hb : Bs .u8 w vb ys) (hx8 : U8 xs) (hy8 : U8 ys) (hl : xs.length ≤ 140737488355328) :
  Calls Tryz.prog 103 #[va,vb] w fun e w' => e = .returned (.bool (decide (xs = ys))) ∧ Only (fun _ => False) w w':=by
 refine (QjN va vb xs ys w ha hb hx8 hy8 hl).mono ?_;rintro e w' ⟨rfl,m,rfl⟩;exact ⟨rfl,(Only.refl _ _).drewN m⟩
theorem QhT {w : World} {lo : Nat} {v : Value} {k b : List Int} (h : w.ownsRow lo 5 1 v 32 ((MACL k b).map (Value.int .u8))) : Bs .u8 w v (MACL k b) ∧ ∃ g cap,v = .slice (some ⟨g,0,none⟩) 32 cap ∧ lo ≤ g:=by
 refine ⟨Bs.of_own (by rw [Qa8];exact h),?_⟩
 rcases h.2 with ⟨_,h0⟩ | ⟨g,cap,cur,hv,hb,_⟩
 ·cases h0
 ·exact ⟨g,cap,hv,hb⟩
theorem QhU (v u t : Value) (key b tag : List Int) (w : World) (hb : Bs .u8 w v key) (h8 : U8 key) (hk : key.length ≤ 10000000000) (hu : Bs .u8 w u b) (hu8 : U8 b) (hl : b.length ≤ 10000000000) (ht : Bs .u8 w t tag) (ht8 : U8 tag) :
  Calls Tryz.prog 75 #[v,u,t] w fun e w' => e = .returned (.bool (decide (MACL key b = tag))) ∧ Only (fun _ => False) w w':=by
 have A:=Qaa (Qk5 v u key b w hb h8 hk hu hu8 hl);have HT:=Qaa (And.intro ht ht8);obtain ⟨D,hD⟩ : ∃ D,D = decide (MACL key b = tag):=⟨_,rfl⟩;rw [← hD];have HD:=Qaa hD;clear hb h8 hk hu hu8 hl ht ht8 hD;go_enter Tryz.func75,Tryz.ntmps75;go_wp2_with fail;refine A.out.mono ?_;rintro e w1 ⟨v1,rfl,own1,on1⟩;obtain ⟨b1,g1,c1,rfl,_⟩:=QhT own1;have S:=Qaa (Qgz (.slice (some ⟨g1,0,none⟩) 32 c1) t (MACL key b) tag w1 b1 (HT.out.1.past on1) (Qcy _ _) HT.out.2 (by rw [Qa8];decide));rw [← HD.out] at S;have O1:=Qaa on1;clear A own1 on1 b1 HT HD;go_wp2_with fail;refine S.out.mono ?_;rintro e w2 ⟨rfl,on2⟩;have F:=Qaa (O1.out.same on2);clear S on2 O1;go_wp2;go_ret;exact ⟨rfl,F.out⟩
section
open Go.Shelf
theorem Only.putObj {S : Nat → Prop} {a b : World} (h : Only S a b) (l : Nat) (o : Obj) (hl : l < a.heap.size → S l) : Only S a (b.putObj l o) :=
 h.grown (grownBy_putObj' b l o) (fun k hk e => by cases e;exact hl hk)
theorem Bs.loop {k : IntKind} {A B : World} {v : Value} {xs : List Int} (h : Bs k A v xs) {l : Nat} {r : Loop} (hl : A.heap[l]? = some (.loop r)) (o : Only (fun j => j = l) A B) : Bs k B v xs:=by
 obtain ⟨ao,cap,rfl,hc,hr⟩:=h;refine ⟨ao,cap,rfl,hc,fun hx => ?_⟩;obtain ⟨b,off,rfl,hcell⟩:=hr hx;refine ⟨b,off,rfl,fun j hj => ?_⟩;have h0:=hcell j hj;rw [← h0];refine World.cell?_of_block (o.block b (World.block_lt_of_cell? A _ h0) ?_);intro e;subst e;obtain ⟨o',ho',hc'⟩:=cells_of_cell h0;rw [hl] at ho';cases ho';cases hc'
theorem Qay {A B : World} {b : Nat} {t : TypeId} {v : Value} (h : Boxed A b t v) {S : Nat → Prop} (o : Only S A B) (hs : ¬ S b) : Boxed B b t v:=o.heap h hs
end
section
open Go.Shelf
def QkZ {σ : Type} (c : Code) (B : Nat) (I Ix : σ → World → Prop) (s : σ) (W : World) : Exit → Act → World → Prop
 | .normal,_,W' => Only (fun k => k < B) W W' ∧ I s W'
 | .ret,_,W' => c = .ret ∧ Only (fun k => k < B) W W' ∧ Ix s W'
 | .exit id,_,W' => c = .exit id ∧ Only (fun k => k < B) W W' ∧ Ix s W'
 | _,_,_ => False
theorem Qfv {σ α : Type} {c : Code} {P : Program} {n : Nat} {g : Operand} {ps : Array Tmp} {assign body : Code} {Q : Exit → Act → World → Prop} {a : Act} {w : World}
  {gf : Nat} {lb : Array Value} (hg : a.eval g = .func (.func gf) #[] lb) (eg : ∀ args w,(callFunc gf args).run P w = .ok (.enter gf args) w)
  (encs : α → Array Value) (hps : ∀ x,(encs x).size = ps.size) (I Ix : σ → World → Prop) (V : σ → α → σ → World → Prop) (s0 s1 : σ)
  (hI : ∀ s A B r,I s A → A.heap[w.heap.size + 1]? = some (.loop r) → Only (fun k => k = w.heap.size + 1) A B → I s B)
  (hIx : ∀ s A B r,Ix s A → A.heap[w.heap.size + 1]? = some (.loop r) → Only (fun k => k = w.heap.size + 1) A B → Ix s B)
  (hIn : ∀ s A B,I s A → Only (fun _ => False) A B → I s B)
  (hV : ∀ s x s' A B r,V s x s' A → A.heap[w.heap.size + 1]? = some (.loop r) → Only (fun k => k = w.heap.size + 1) A B → V s x s' B)
  (h0 : I s0 w)
  (hit : ∀ (J Jx : σ → World → Prop) (W : World),(∀ s A,J s A → I s A) → (∀ s A B,J s A → Only (fun _ => False) A B → J s B) →
   (∀ s x s' A,J s A → V s x s' A → YieldAt Fence.wide (n - 1 - 1) P (w.heap.size + 1) (encs x) A fun e B =>
    (e = .returned (.bool true) ∧ J s' B ∧ Only (fun k => k < w.heap.size ∨ k = w.heap.size + 1) A B) ∨ (e = .returned (.bool false) ∧ Jx s' B)) → J s0 W → w.heap.size + 2 ≤ W.heap.size →
   CallsIn Fence.wide (n - 1) P gf (#[.func (.yield (w.heap.size + 1)) #[] #[]] ++ lb) W fun e B => (∃ v,e = .returned v) ∧ (J s1 B ∨ ∃ s,Jx s B))
  (a₁ : α → Act)
  (hassign : ∀ (x : α) (W : World) (K : Act → World → Prop),K (a₁ x) W →
   assign.wpIn (Fence.wide.inRound (w.heap.size + 1)) (n - 1 - 1) P (Exit.then K (fun _ _ _ => False)) { tmps:=(ps.zip (encs x)).foldl (fun t (p,v) => t.setIfInBounds p v) a.tmps,defers:=[] } W)
  (hbody : ∀ (s : σ) (x : α) (s' : σ) (W : World),I s W → V s x s' W → body.wpIn (Fence.wide.inRound (w.heap.size + 1)) (n - 1 - 1) P (QkZ c w.heap.size I Ix s' W) (a₁ x) W)
  (hdone : ∀ (W : World),I s1 W → W.heap[w.heap.size]? = some (.deferred (some [])) → Q .normal { a with defers:={ target:=.collected w.heap.size,args:=#[] } :: a.defers } W)
  (hstop : ∀ (s : σ) (W : World),Ix s W → W.heap[w.heap.size]? = some (.deferred (some [])) → c.wpIn Fence.wide n P Q { a with defers:={ target:=.collected w.heap.size,args:=#[] } :: a.defers } W) :
  (Code.rangeFunc g ps assign body).wpIn Fence.wide n P Q a w:=by
 refine wpIn_rangeFunc fun fn hfn => ?_
 obtain ⟨rc,hrc⟩ : ∃ rc : LoopState → Option Code → Loop,rc = fun st pe => { state:=st,pending:=pe,fn,tmps:=a.tmps,params:=ps,assign,body,defers:=w.heap.size }:=⟨_,rfl⟩
 obtain ⟨W1,hW1⟩ : ∃ W1,(w.alloc (.deferred (some []))).alloc (.loop (rc .ready none)) = W1:=⟨_,rfl⟩
 have hL : W1.heap[w.heap.size + 1]? = some (.loop (rc .ready none)):=by
  have:=World.alloc_heap_new (w.alloc (.deferred (some []))) (.loop (rc .ready none));rw [World.size_alloc,hW1] at this;exact this
 have hD : W1.heap[w.heap.size]? = some (.deferred (some [])):=by
  rw [← hW1];exact (Below.heap_alloc _ _ _ (by simp)).trans (World.alloc_heap_new w _)
 have hO : Only (fun _ => False) w W1:=by
  rw [← hW1];exact ((Only.refl _ w).alloc _).alloc _
 have hS1 : w.heap.size + 2 ≤ W1.heap.size:=by rw [← hW1];simp
 refine ⟨w.heap.size + 1,[{ target:=.collected w.heap.size,args:=#[] }],W1,{ target:=.fn (.func gf) lb,args:=#[.func (.yield (w.heap.size + 1)) #[] #[]] },W1,gf,#[.func (.yield (w.heap.size + 1)) #[] #[]] ++ lb,W1,?_,?_,fun _ _ => trivial,?_,(fun h => by cases h),?_⟩
 ·rw [← hW1,hrc]
  exact run_enterLoop_outer _ _ _ _ _
 ·simp only [resolve,hg]
  simp [go_sem]
 ·simp [invoke,go_sem,eg]
 refine (hit (fun s W => I s W ∧ W.heap[w.heap.size + 1]? = some (.loop (rc .ready none)) ∧ W.heap[w.heap.size]? = some (.deferred (some [])))
  (fun s W => Ix s W ∧ W.heap[w.heap.size + 1]? = some (.loop (rc .done (some c))) ∧ W.heap[w.heap.size]? = some (.deferred (some []))) W1 (fun _ _ h => h.1)
  (fun s A B h o => ⟨hIn s A B h.1 o,o.heap h.2.1 (fun f => f),o.heap h.2.2 (fun f => f)⟩) ?_ ⟨hIn _ _ _ h0 hO,hL,hD⟩ hS1).mono ?_
 ·rintro s x s' A ⟨hi,hl,hd⟩ hv
  have hlt : w.heap.size + 1 < A.heap.size:=(Array.getElem?_eq_some_iff.1 hl).1;have hy:=run_yield (P:=P) (args:=encs x) hl (by rw [hrc];exact hps x);rw [hrc] at hy;refine ⟨fn,_,assign,body,hy,roundIn_of_wpIn hfn (hassign x A _ ⟨_,run_beginRound hl (by rw [hrc]),?_⟩)⟩;obtain ⟨A2,hA2⟩ : ∃ A2,A.putObj (w.heap.size + 1) (.loop { rc .ready none with state:=.busy }) = A2:=⟨_,rfl⟩
  have o2 : Only (fun k => k = w.heap.size + 1) A A2:=by rw [← hA2];exact (Only.refl _ A).putObj _ _ (fun _ => rfl)
  have l2 : A2.heap[w.heap.size + 1]? = some (.loop { rc .ready none with state:=.busy }):=by rw [← hA2];exact World.putObj_heap_same hlt
  have d2 : A2.heap[w.heap.size]? = some (.deferred (some [])):=o2.heap hd (by omega);rw [hA2];refine wpIn_mono (hbody s x s' A2 (hI s A A2 _ hi hl o2) (hV s x s' A A2 _ hv hl o2)) ?_;intro ex a3 A3 h
  cases ex
  case normal =>
   obtain ⟨o3,i3⟩:=h;have l3:=o3.heap l2 (by omega);have d3:=o3.heap d2 (by omega);have hr:=run_endRound (P:=P) none l3
   have h4 : A3.putObj (w.heap.size + 1) (.loop (rc .ready none)) = A3.putObj (w.heap.size + 1) (.loop { rc .ready none with state:=if (none : Option Code).isNone then .ready else .done,pending:=none }):=by rw [hrc];rfl
   have o4 : Only (fun k => k = w.heap.size + 1) A3 (A3.putObj (w.heap.size + 1) (.loop (rc .ready none))):=(Only.refl _ A3).putObj _ _ (fun _ => rfl);refine ⟨_,_,hr,.inl ⟨rfl,?_⟩⟩
   have h5 : (I s' (A3.putObj (w.heap.size + 1) (.loop (rc .ready none))) ∧ (A3.putObj (w.heap.size + 1) (.loop (rc .ready none))).heap[w.heap.size + 1]? = some (.loop (rc .ready none)) ∧ (A3.putObj (w.heap.size + 1) (.loop (rc .ready none))).heap[w.heap.size]? = some (.deferred (some []))) ∧
     Only (fun k => k < w.heap.size ∨ k = w.heap.size + 1) A (A3.putObj (w.heap.size + 1) (.loop (rc .ready none))) :=
    ⟨⟨hI s' A3 _ _ i3 l3 o4,World.putObj_heap_same (Array.getElem?_eq_some_iff.1 l3).1,o4.heap d3 (by omega)⟩,
     ((o2.mono (T:=fun k => k < w.heap.size ∨ k = w.heap.size + 1) (fun _ _ e => .inr e)).trans o3 (fun _ _ e => .inl e)).trans o4 (fun _ _ e => .inr e)⟩
   rw [h4] at h5;exact h5
  all_goals first
  | exact h.elim
  | (obtain ⟨hc,o3,i3⟩:=h;have l3:=o3.heap l2 (by omega);have d3:=o3.heap d2 (by omega);have hr:=run_endRound (P:=P) (some c) l3;have h4 : A3.putObj (w.heap.size + 1) (.loop (rc .done (some c))) = A3.putObj (w.heap.size + 1) (.loop { rc .ready none with state:=if (some c : Option Code).isNone then .ready else .done,pending:=some c }):=(by rw [hrc];rfl);have o4 : Only (fun k => k = w.heap.size + 1) A3 (A3.putObj (w.heap.size + 1) (.loop (rc .done (some c)))):=(Only.refl _ A3).putObj _ _ (fun _ => rfl);have h5 : Ix s' (A3.putObj (w.heap.size + 1) (.loop (rc .done (some c)))) ∧ (A3.putObj (w.heap.size + 1) (.loop (rc .done (some c)))).heap[w.heap.size + 1]? = some (.loop (rc .done (some c))) ∧ (A3.putObj (w.heap.size + 1) (.loop (rc .done (some c)))).heap[w.heap.size]? = some (.deferred (some [])):=⟨hIx s' A3 _ _ i3 l3 o4,World.putObj_heap_same (Array.getElem?_eq_some_iff.1 l3).1,o4.heap d3 (by omega)⟩;rw [h4] at h5;subst hc;exact ⟨_,_,hr,.inr ⟨rfl,h5⟩⟩)
 ·rintro e A ⟨⟨v,rfl⟩,⟨hi,hl,hd⟩ | ⟨s,hi,hl,hd⟩⟩
  ·have hr:=run_endLoop (P:=P) hl (by rw [hrc];simp)
   have hp : (rc .ready none).pending = none:=by rw [hrc]
   refine ⟨none,_,by rw [hr,hp],hdone _ (hI _ _ _ _ hi hl ((Only.refl _ A).putObj _ _ (fun _ => rfl))) ?_⟩;exact (World.putObj_heap_other (by omega)).trans hd
  ·have hr:=run_endLoop (P:=P) hl (by rw [hrc];simp)
   have hp : (rc .done (some c)).pending = some c:=by rw [hrc]
   refine ⟨some c,_,by rw [hr,hp],hstop s _ (hIx _ _ _ _ hi hl ((Only.refl _ A).putObj _ _ (fun _ => rfl))) ?_⟩;exact (World.putObj_heap_other (by omega)).trans hd
end
end Go.Proofs.YtcpopagikbjimaaGreatDoor
