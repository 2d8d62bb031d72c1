/- Several texts in one: Dd, Dd2, Gr, Gr2. -/
import Derived.Test.YthapipgaohlgdaaGreatDoorG14
import Derived.Test.YthapipgaohlgdaaGreatDoorG12
import Derived.Test.YthapipgaohlgdaaGreatDoorG2
import Derived.Test.YthapipgaohlgdaaGreatDoorG7
import Derived.Test.YthapipgaohlgdaaGreatDoorG5


namespace Go.Proofs.YthapipgaohlgdaaGreatDoor
set_option maxRecDepth 100000
open Go.RowKit Go.Maps
theorem rdP_take (w : Nat) : ∀ (n j : Nat) (k : List Bool),j ≤ n → (rdP w n k).take j = rdP w j k
 | n,0,k,_ => by simp [rdP]
 | 0,j + 1,k,h => by omega
 | n + 1,j + 1,k,h => by rw [rdP,rdP,List.take_succ_cons,rdP_take w n j _ (by omega)]
theorem rdP_mem (w n j : Nat) (k : List Bool) (h : j < n) : bnum ((k.drop (j * w)).take w) ∈ rdP w n k:=by
 refine List.mem_of_mem_take (i:=j + 1) ?_
 rw [rdP_take w n (j + 1) k h,rdP_snoc]
 simp
def pt (D : List Int) (w : Nat) (b : List Bool) (n k : Nat) : List Int:=((rdP w k b).map fun p => D.getD p 0) ++ List.replicate (n - k) 0
theorem pt_len (D : List Int) (w : Nat) (b : List Bool) (n k : Nat) (h : k ≤ n) : (pt D w b n k).length = n:=by
 unfold pt;rw [List.length_append,List.length_map,rdP_len,List.length_replicate];omega
theorem pt_zero (D : List Int) (w : Nat) (b : List Bool) (n : Nat) : (pt D w b n 0).map (Value.int .u64) = (madeCells #[Value.int .u64 0] (n * 1)).toList:=by
 apply List.ext_getElem?
 intro i
 by_cases h : i < n
 ·simp [pt,rdP,madeCells,h,Nat.mod_one]
 ·simp [pt,rdP,madeCells,h]
theorem pt_all (D : List Int) (w : Nat) (b : List Bool) (n : Nat) : pt D w b n n = (rdP w n b).map fun p => D.getD p 0:=by simp [pt]
theorem pt_step (D : List Int) (w : Nat) (b : List Bool) (n k : Nat) (h : k < n) : (pt D w b n k).set k (D.getD (bnum ((b.drop (k * w)).take w)) 0) = pt D w b n (k + 1):=by
 unfold pt
 have hlen : ((rdP w k b).map fun p => D.getD p 0).length = k:=by rw [List.length_map,rdP_len]
 rw [show n - k = (n - (k + 1)) + 1 by omega,List.replicate_succ,List.set_append_right _ _ (by omega),hlen,Nat.sub_self,List.set_cons_zero,rdP_snoc,List.map_append,List.append_assoc]
 rfl
def RB (many n : Nat) (rest : List Int) : List Int × Int :=
 if rest.length < 8 * many then ([],2) else
 if (allBits (rest.drop (8 * many))).length < n * wP many then ([],2) else
 if ∃ p ∈ rdP (wP many) n (allBits (rest.drop (8 * many))),many ≤ p then ([],3) else
 ((rdP (wP many) n (allBits (rest.drop (8 * many)))).map (fun p => (rd8 many rest).getD p 0),0)
def RD10 (ys : List Int) (n : Nat) : List Int × Int :=
 if (sVarint ys).2.2 ≠ 0 then ([],(sVarint ys).2.2) else
 if (n : Int) < (sVarint ys).1 then ([],3) else RB (sVarint ys).1.toNat n (ys.drop (sVarint ys).2.1)
theorem RB_DECB (many n : Nat) (rest b : List Int) : DECB many n rest b = if (RB many n rest).2 ≠ 0 then ([],(RB many n rest).2) else if (ENC10 (RB many n rest).1).1 = b then ((RB many n rest).1,0) else ([],3):=by
 unfold DECB RB
 by_cases c1 : rest.length < 8 * many
 ·simp only [if_pos c1];rfl
 ·by_cases c2 : (allBits (rest.drop (8 * many))).length < n * wP many
  ·simp only [if_neg c1,if_pos c2];rfl
  ·by_cases c3 : ∃ p ∈ rdP (wP many) n (allBits (rest.drop (8 * many))),many ≤ p
   ·simp only [if_neg c1,if_neg c2,if_pos c3];rfl
   ·simp only [if_neg c1,if_neg c2,if_neg c3];rfl
theorem DEC10_RD (ys : List Int) (n : Nat) (hn : n ≤ 65536) : DEC10 ys n = if (RD10 ys n).2 ≠ 0 then ([],(RD10 ys n).2) else if (ENC10 (RD10 ys n).1).1 = ys then ((RD10 ys n).1,0) else ([],3):=by
 unfold DEC10 RD10
 rw [if_neg (by omega),Int.toNat_natCast]
 by_cases c1 : (sVarint ys).2.2 ≠ 0
 ·simp only [if_pos c1]
 ·by_cases c2 : (n : Int) < (sVarint ys).1
  ·simp only [if_neg c1,if_pos c2];rfl
  ·simp only [if_neg c1,if_neg c2];exact RB_DECB _ _ _ _
theorem RB_u64 {many n : Nat} {rest : List Int} (hr : ∀ y ∈ rest,0 ≤ y ∧ y ≤ 255) : U64 (RB many n rest).1:=by
 unfold RB
 by_cases c1 : rest.length < 8 * many
 ·rw [if_pos c1];intro x hx;simp at hx
 ·rw [if_neg c1]
  by_cases c2 : (allBits (rest.drop (8 * many))).length < n * wP many
  ·rw [if_pos c2];intro x hx;simp at hx
  ·rw [if_neg c2]
   by_cases c3 : ∃ p ∈ rdP (wP many) n (allBits (rest.drop (8 * many))),many ≤ p
   ·rw [if_pos c3];intro x hx;simp at hx
   ·rw [if_neg c3]
    intro x hx
    obtain ⟨p,hp,rfl⟩:=List.mem_map.1 hx
    have hpm : p < many:=by
     rcases Nat.lt_or_ge p many with e | e
     ·exact e
     ·exact absurd ⟨p,hp,e⟩ c3
    have hp8 : p < (rd8 many rest).length:=by rw [rd8_len];exact hpm
    refine rd8_u64 many rest hr _ ?_
    rw [List.getD_eq_getElem?_getD,List.getElem?_eq_getElem hp8]
    exact List.getElem_mem hp8
theorem RD10_u64 {ys : List Int} {n : Nat} (hr : ∀ y ∈ ys,0 ≤ y ∧ y ≤ 255) : U64 (RD10 ys n).1:=by
 unfold RD10
 by_cases c1 : (sVarint ys).2.2 ≠ 0
 ·rw [if_pos c1];intro x hx;simp at hx
 ·rw [if_neg c1]
  by_cases c2 : (n : Int) < (sVarint ys).1
  ·rw [if_pos c2];intro x hx;simp at hx
  ·rw [if_neg c2];exact RB_u64 (fun y hy => hr y (List.mem_of_mem_drop hy))
theorem sBytes_whole (ys : List Int) : sBytes (ys.length : Int) ys = (ys,ys.length,0):=by
 unfold sBytes;rw [if_neg (by omega),if_neg (by omega),Int.toNat_natCast,List.take_length]
set_option maxHeartbeats 2000000 in
theorem read10_bs {w : World} {R : Nat} {v : Value} {ys : List Int} (h : CurAt 92 w R v ys) (hv : ∀ k,v.ownBlock = some k → k < w.heap.size) (n : Nat) {a j : Nat} (hs : sVarint ys = ((a : Int),j,0)) (hn : n ≤ 65536) (ha : a ≤ n) (rest : List Int) (hrest : rest = ys.drop j) :
  Calls Tryz.prog 158 #[.pointer (some ⟨R,0,none⟩),.int .i64 n] w fun e w' => ∃ u,e = .returned (.tuple #[u,.int .i64 (RB a n rest).2]) ∧ w'.ownsRow w.heap.size 42 1 u (RB a n rest).1.length ((RB a n rest).1.map (Value.int .u64)) ∧ Only (fun k => k = R) w w':=by
 have RD:=hideIt (rdict_bs h hv n hs hn ha rest hrest)
 have hrr : ∀ y ∈ rest,0 ≤ y ∧ y ≤ 255:=fun y hy => h.rng y (by rw [hrest] at hy;exact List.mem_of_mem_drop hy)
 have HRNG : Hid (∀ y ∈ rest.drop (8 * a),0 ≤ y ∧ y ≤ 255):=fun y hy => hrr y (List.mem_of_mem_drop hy)
 have HLEN : Hid ((rest.drop (8 * a)).length ≤ 1000000000000):=by
  simp only [Hid];have:=h.len;rw [hrest,List.length_drop,List.length_drop];omega
 have HR:=hideIt (lt_of_heap h.cell)
 have HDU:=hideIt (rd8_u64 a rest hrr)
 obtain ⟨E,hE⟩ : ∃ E,E = RB a n rest:=⟨_,rfl⟩
 rw [← hE]
 have HE:=hideIt hE
 clear h hv hs hrest hrr hE
 go_enter Tryz.func158,Tryz.ntmps158
 go_wp2_with fail
 refine RD.out.mono ?_
 rintro e w1 (⟨HS,rfl,o1⟩ | ⟨HS,u,v2,rfl,own1,cu1,ob1,o1⟩)
 ·have HE2 : Hid (E = ([],2)):=by simp only [Hid];rw [HE.out];unfold RB;rw [if_pos HS.out]
  have O1:=hideIt o1
  clear o1 RD HE
  go_wp2
  go_ret2
  have hE:=HE2.out
  subst hE
  exact ⟨_,rfl,World.ownsRow_nil _ _ _ _,O1.out⟩
 ·obtain ⟨D,hD⟩ : ∃ D,D = rd8 a rest:=⟨_,rfl⟩
  obtain ⟨r,hr⟩ : ∃ r,r = rest.drop (8 * a):=⟨_,rfl⟩
  have hdl : D.length = a:=by rw [hD,rd8_len]
  have HE2 : Hid (E = if (allBits r).length < n * wP a then ([],2) else if ∃ p ∈ rdP (wP a) n (allBits r),a ≤ p then ([],3) else ((rdP (wP a) n (allBits r)).map (fun p => D.getD p 0),0)):=by
   simp only [Hid];rw [HE.out];unfold RB;have:=HS.out;rw [if_neg (by omega),← hr,← hD]
  rw [← hD] at own1 HDU
  rw [← hr] at cu1 HRNG HLEN
  obtain ⟨a6,c6,e6⟩ : ∃ a6 c6,u = .slice a6 a c6:=by
   have:=(Bs.of_own (k:=.u64) (xs:=D) (by rw [hdl];exact own1)).len
   rw [hdl] at this;exact this
  subst e6
  have OW1:=hideIt own1
  have O1:=hideIt o1
  have HDL:=hideIt hdl
  have C:=hideIt (Left_cur cu1)
  have B:=hideIt (bytes_cur cu1 r.length)
  rw [sBytes_whole] at B
  have VB : Hid (∀ k,(Value.slice a6 a c6).ownBlock = some k → w.heap.size ≤ k ∧ k < w1.heap.size):=fun k hk => own1.lt k hk
  obtain ⟨q,hq⟩ : ∃ q,q = wP a:=⟨_,rfl⟩
  have hq16 : q ≤ 16:=by rw [hq];exact wP_le (by omega)
  rw [← hq] at HE2
  have HQ:=hideIt hq
  obtain ⟨rl,hrl⟩ : ∃ rl,rl = r.length:=⟨_,rfl⟩
  rw [← hrl] at C B HLEN
  have HRL:=hideIt hrl
  have rl0 : rl ≤ 1000000000000:=HLEN.out
  clear own1 o1 RD hD hdl hr cu1 ob1 HE hrl hq
  go_wp2_with fail
  refine C.out.mono ?_
  rintro e w1' ⟨rfl,rfl⟩
  clear C
  go_wp2_with fail
  refine B.out.mono ?_
  rintro e w2 ⟨v3,rfl,b3,_,_,v4,_,_,o2⟩
  have EN:=hideIt (newReader_bs v3 r w2 b3 HRNG.out (by rw [← HRL.out];exact rl0))
  have O2:=hideIt (O1.out.trans o2 (fun _ _ e => e))
  have OW2:=hideIt (o2.own OW1.out (fun k hk f => by have:=(VB.out k hk).1;have:=HR.out;omega))
  have S2:=hideIt o2.size
  obtain ⟨a3,c3,e3⟩:=b3.len
  subst e3
  rw [← HRL.out] at EN ⊢
  clear B o2 b3
  go_wp2_with fail
  refine EN.out.mono ?_
  rintro e w3 ⟨R4,v5,rfl,r4,o3,g1,g2,g3⟩
  have PW:=hideIt (placeWidth_any a w3 (by omega))
  rw [← HQ.out] at PW
  have F:=hideIt (left_rd r4)
  rw [← HRL.out] at F
  have O3:=hideIt (O2.out.trans o3 (fun _ _ f => f.elim))
  have OW3:=hideIt (o3.own OW2.out (fun _ _ f => f))
  have R4':=hideIt r4
  have S3:=hideIt o3.size
  have G:=hideIt (And.intro g1 (And.intro g2 g3))
  clear EN o3 r4 g1 g2 g3
  go_wp2_with fail
  refine PW.out.mono ?_
  rintro e w3' ⟨rfl,rfl⟩
  clear PW
  go_wp2_with fail
  refine F.out.mono ?_
  rintro e w5 ⟨rfl,o5⟩
  have O5:=hideIt (O3.out.trans o5 (fun _ _ f => f.elim))
  have R5:=hideIt (R4'.out.keep o5 (fun f => f) (fun _ _ f => f))
  have OW5:=hideIt (o5.own OW3.out (fun _ _ f => f))
  have S5:=hideIt o5.size
  clear F o5
  have hnq : n * q ≤ 65536 * 16:=Nat.mul_le_mul hn hq16
  have hnqI : Hid (((n : Int) * (q : Int)) = ((n * q : Nat) : Int)):=by simp only [Hid];simp
  have m0 : 0 ≤ (n : Int) * (q : Int):=by rw [hnqI.out];omega
  have m1 : (n : Int) * (q : Int) ≤ 1048576:=by rw [hnqI.out];omega
  have hal:=allBits_length r
  rw [← HRL.out] at hal
  by_cases hsh : 8 * rl < n * q
  ·have HE3:=HE2.out
   rw [if_pos (by rw [hal];exact hsh)] at HE3
   have HE3:=hideIt HE3
   have d2 : decide (8 * (rl : Int) < (n : Int) * (q : Int)) = true:=by rw [hnqI.out];simp only [decide_eq_true_eq];omega
   clear hsh hal hnq HE2
   go_wp2
   go_ret2
   have hE:=HE3.out
   subst hE
   exact ⟨_,rfl,World.ownsRow_nil _ _ _ _,O5.out⟩
  ·have HE3:=HE2.out
   rw [if_neg (by rw [hal];exact hsh)] at HE3
   have HE3:=hideIt HE3
   have d2 : decide (8 * (rl : Int) < (n : Int) * (q : Int)) = false:=by rw [hnqI.out];simp only [decide_eq_false_iff_not];omega
   have HSH:=hideIt hsh
   obtain ⟨i0,hi,hz0,hz1,hz2⟩:=info_parts Tryz.infoU64
   obtain ⟨wm,hmk,hown0,hgr⟩:=run_make_full (P:=Tryz.prog) w5 w5.heap.size 46 42 i0 (.int .u64 0) 1 Tryz.underlying46 hi hz0 hz1 .i64 .i64 n (by rw [hz2];omega) (by unfold maxLen;omega) (Nat.le_refl _)
   rw [show (Value.int .u64 0).cells = #[Value.int .u64 0] from rfl,← pt_zero D q (allBits r) n] at hown0
   have om : Only (fun _ => False) w5 wm:=(Only.refl _ _).grown hgr (fun _ _ e => by cases e)
   have G2 : Hid (R4 < w5.heap.size ∧ (∀ k,v5.ownBlock = some k → k < w5.heap.size) ∧ w.heap.size ≤ w5.heap.size ∧ w.heap.size ≤ R4 ∧ (∀ k,(Value.slice a6 a c6).ownBlock = some k → k < w5.heap.size ∧ k ≠ R4)):=by
    have g:=G.out
    have s5:=S5.out
    have s2:=S2.out
    have s1:=O1.out.size
    have s3:=S3.out
    exact ⟨by omega,fun k hk => by have:=(g.2.2 k hk).2;omega,O5.out.size,by have:=O2.out.size;omega,fun k hk => by have:=(VB.out k hk).2;omega⟩
   have START : Hid (RdAt 176 wm R4 v5 r (0 * q) ∧ wm.ownsRow w5.heap.size 42 1 (.slice (some ⟨w5.heap.size,0,none⟩) n n) n ((pt D q (allBits r) n 0).map (Value.int .u64)) ∧ Only (fun j => j = R) w wm ∧ wm.ownsRow w.heap.size 42 1 (.slice a6 a c6) a (D.map (Value.int .u64)) ∧ (∀ p ∈ rdP q 0 (allBits r),p < a)) :=
    ⟨by rw [Nat.zero_mul];exact R5.out.keep om (fun f => f) (fun _ _ f => f),hown0,O5.out.trans om (fun _ _ f => f.elim),om.own OW5.out (fun _ _ f => f),fun p hp => by simp [rdP] at hp⟩
   obtain ⟨N,hN⟩ : ∃ N,N = w5.heap.size:=⟨_,rfl⟩
   rw [← hN] at hmk START G2
   clear hsh hown0 hgr om R5 R4' G S5 O3 O2 O1 hN OW5 OW3 OW2 OW1 hnq VB HE2 hal
   go_wp2
   go_loopw [47] (fun i wr => ∃ k : Nat,k ≤ n ∧ i = .int .i64 k ∧ RdAt 176 wr R4 v5 r (k * q) ∧ wr.ownsRow N 42 1 (.slice (some ⟨N,0,none⟩) n n) n ((pt D q (allBits r) n k).map (Value.int .u64)) ∧ Only (fun j => j = R) w wr ∧ wr.ownsRow w.heap.size 42 1 (.slice a6 a c6) a (D.map (Value.int .u64)) ∧ (∀ p ∈ rdP q k (allBits r),p < a)) (fun i _ => n - (intOf i).toNat)
   case atStart => exact ⟨0,Nat.zero_le _,rfl,START.out⟩
   case round =>
    obtain ⟨k,hk,rfl,hrd,hown,hon,hdic,hpl⟩:=hrel
    clear START hmk
    have HOWN:=hideIt hown
    have HON:=hideIt hon
    have HPL:=hideIt hpl
    have HDIC:=hideIt hdic
    by_cases hlt : k < n
    ·have hkq : k * q + q ≤ 8 * r.length:=by
      have h1 : (k + 1) * q ≤ n * q:=Nat.mul_le_mul_right q (by omega)
      rw [Nat.add_mul,Nat.one_mul] at h1
      have:=HSH.out
      have:=HRL.out
      omega
     have GT:=get_rd hrd (q : Int) (by omega) (by omega) (by omega)
     rw [Int.toNat_natCast] at GT
     have GT:=hideIt GT
     have hx : Hid (bnum (((allBits r).drop (k * q)).take q) < 18446744073709551616):=by
      have h1:=bnum_lt (((allBits r).drop (k * q)).take q)
      have h2 : 2 ^ (((allBits r).drop (k * q)).take q).length ≤ 2 ^ 64:=Nat.pow_le_pow_right (by omega) (by rw [List.length_take];omega)
      have h3 : (2 : Nat) ^ 64 = 18446744073709551616:=by decide
      simp only [Hid];omega
     have dlt : decide ((k : Int) < (n : Int)) = true:=by simp;omega
     have MEM:=hideIt (rdP_mem q n k (allBits r) hlt)
     have SNO:=hideIt (rdP_snoc q k (allBits r))
     have hstep:=pt_step D q (allBits r) n k hlt
     clear hrd hkq hown hon hpl hdic
     generalize bnum (((allBits r).drop (k * q)).take q) = x at *
     go_wp2_with fail
     refine GT.out.mono ?_
     rintro e w6 ⟨rfl,r6,o6⟩
     have own6:=o6.own HOWN.out (fun j hj => by
      have e1 : j = N:=by simp [Value.ownBlock] at hj;exact hj.symm
      have:=G2.out.1
      omega)
     have dic6:=o6.own HDIC.out (fun j hj f => (G2.out.2.2.2.2 j hj).2 f)
     have O6:=hideIt (HON.out.trans o6 (fun i hi e => by have:=G2.out.2.2.2.1;omega))
     have R6:=hideIt r6
     have hxx:=hx.out
     by_cases hxa : a ≤ x
     ·have HE4:=HE3.out
      rw [if_pos ⟨x,MEM.out,hxa⟩] at HE4
      have HE4:=hideIt HE4
      have da : decide ((a : Int) ≤ (x : Int)) = true:=by simp;omega
      have db : decide (a ≤ x) = true:=decide_eq_true hxa
      clear GT own6 dic6 r6 o6 hxx hx HE3 hstep
      go_wp2
      go_ret2
      have hE:=HE4.out
      subst hE
      exact ⟨_,rfl,World.ownsRow_nil _ _ _ _,O6.out⟩
     ·have da : decide ((a : Int) ≤ (x : Int)) = false:=by simp;omega
      have db : decide (a ≤ x) = false:=decide_eq_false hxa
      have ck : w6.cell? ⟨N,k,none⟩ = some (.int .u64 ((pt D q (allBits r) n k).getD k 0)):=by
       rw [own6.cellAt k (by omega),List.getElem?_map,List.getElem?_eq_getElem (by rw [pt_len _ _ _ _ _ hk];exact hlt),List.getD_eq_getElem?_getD,List.getElem?_eq_getElem (by rw [pt_len _ _ _ _ _ hk];exact hlt)]
       rfl
      have fk : w6.frozen? ⟨N,k,none⟩ = false:=own6.frozenAt _
      obtain ⟨b7,o7,c7,e7,hc7⟩:=(Bs.of_own (k:=.u64) (xs:=D) (by rw [HDL.out];exact dic6)).at x (by rw [HDL.out];omega)
      have ea : a6 = some ⟨b7,o7,none⟩:=by simp at e7;exact e7.1
      subst ea
      have HB7:=hideIt (G2.out.2.2.2.2 b7 rfl)
      have hstep : Hid (((pt D q (allBits r) n k).map (Value.int .u64)).set k (.int .u64 (D.getD x 0)) = (pt D q (allBits r) n (k + 1)).map (Value.int .u64)):=by
       simp only [Hid];rw [← List.map_set,hstep]
      have PL2 : Hid (∀ p ∈ rdP q (k + 1) (allBits r),p < a):=by
       intro p hp
       rw [SNO.out,List.mem_append] at hp
       rcases hp with hp | hp
       ·exact HPL.out p hp
       ·simp at hp;omega
      have OWN6:=hideIt own6
      have DIC6:=hideIt dic6
      obtain ⟨z,hz⟩ : ∃ z,z = (pt D q (allBits r) n k).getD k 0:=⟨_,rfl⟩
      rw [← hz] at ck
      obtain ⟨y,hy⟩ : ∃ y,y = D.getD x 0:=⟨_,rfl⟩
      rw [← hy] at hc7 hstep
      have xi : (x : Int) < (a : Int):=by omega
      clear GT own6 dic6 r6 o6 hz hx e7 hy hxa HE3 HOWN HON HDIC HPL SNO MEM
      go_wp2
      go_roundw
      case rel =>
       have g:=G2.out
       have hb7:=HB7.out
       have oN : Only (fun j => j = N) w6 (w6.setCell ⟨N,k,none⟩ (.int .u64 y)):=(Only.refl (fun j => j = N) w6).setCell (fun _ => rfl) _
       refine ⟨k + 1,by omega,by simp,?_,?_,?_,?_,PL2.out⟩
       ·rw [Nat.add_mul,Nat.one_mul]
        exact R6.out.keep oN (by omega) (fun j hj => by have:=g.2.1 j hj;omega)
       ·have h1:=(OWN6.out.stored k (.int .u64 y)).1
        rw [hstep.out] at h1
        exact h1
       ·exact O6.out.setCell (fun hb => by simp only at hb;omega) _
       ·exact oN.own DIC6.out (fun j hj => by have:=(g.2.2.2.2 j hj).1;omega)
      case measure => simp [intOf];omega
    ·obtain rfl : k = n:=by omega
     have dlt : decide ((k : Int) < (k : Int)) = false:=by simp
     have HE4:=HE3.out
     rw [if_neg (fun ⟨p,hp,h⟩ => by have:=hpl p hp;omega)] at HE4
     have HE4:=hideIt HE4
     clear hown hon hrd hdic hpl
     go_wp2
     go_ret2
     have hE:=HE4.out
     subst hE
     refine ⟨_,rfl,?_,HON.out⟩
     have h1:=own_low HOWN.out G2.out.2.2.1
     rw [pt_all] at h1
     rw [List.length_map,rdP_len]
     exact h1
end Go.Proofs.YthapipgaohlgdaaGreatDoor


namespace Go.Proofs.YthapipgaohlgdaaGreatDoor
open Go.RowKit Go.Maps
theorem rd10_all {w : World} {R : Nat} {v : Value} {ys : List Int} (h : CurAt 92 w R v ys) (hv : ∀ k,v.ownBlock = some k → k < w.heap.size) (n : Nat) (hn : n ≤ 65536) :
  Calls Tryz.prog 158 #[.pointer (some ⟨R,0,none⟩),.int .i64 n] w fun e w' => ∃ u,e = .returned (.tuple #[u,.int .i64 (RD10 ys n).2]) ∧ w'.ownsRow w.heap.size 42 1 u (RD10 ys n).1.length ((RD10 ys n).1.map (Value.int .u64)) ∧ Only (fun k => k = R) w w':=by
 rcases sVarint_cases h.rng with ⟨c,hs,hc⟩ | ⟨a,k,hs,_,_,ha,_⟩
 ·have e : RD10 ys n = ([],c):=by unfold RD10;rw [hs];exact if_pos (show c ≠ 0 by omega)
  rw [e]
  have RD:=hideIt (rdict_err h n hs (by omega))
  have dc : (c != 0) = true:=by simp;omega
  clear h hv hs hc e
  go_enter Tryz.func158,Tryz.ntmps158
  go_wp2_with fail
  refine RD.out.mono ?_
  rintro e w1 ⟨rfl,o1⟩
  have O1:=hideIt o1
  clear o1 RD
  go_wp2
  go_ret2
  exact ⟨_,rfl,World.ownsRow_nil _ _ _ _,O1.out⟩
 ·by_cases hb : n < a
  ·have e : RD10 ys n = ([],3):=by unfold RD10;rw [hs];simp only [ne_eq,not_true_eq_false,if_false];exact if_pos (by omega)
   rw [e]
   have RD:=hideIt (rdict_many h n hs hn hb)
   clear h hv hs e hb
   go_enter Tryz.func158,Tryz.ntmps158
   go_wp2_with fail
   refine RD.out.mono ?_
   rintro e w1 ⟨rfl,o1⟩
   have O1:=hideIt o1
   clear o1 RD
   go_wp2
   go_ret2
   exact ⟨_,rfl,World.ownsRow_nil _ _ _ _,O1.out⟩
  ·have e : RD10 ys n = RB a n (ys.drop k):=by unfold RD10;rw [hs];simp only [ne_eq,not_true_eq_false,if_false,Int.toNat_natCast];exact if_neg (by omega)
   rw [e]
   exact read10_bs h hv n hs hn (by omega) _ rfl
set_option maxHeartbeats 400000 in
theorem decode10_arg (v : Value) (n : Int) (w : World) (h : n < 0 ∨ 65536 < n) :
  Calls Tryz.prog 127 #[v,.int .i64 n] w fun e w' => e = .returned (.tuple #[.slice none 0 0,.int .i64 1]) ∧ w = w':=by
 by_cases h0 : n < 0
 ·have d0 : decide (n < 0) = true:=decide_eq_true h0
  clear h
  go_enter Tryz.func127,Tryz.ntmps127
  go_wp2
  go_ret2
  exact ⟨rfl,rfl⟩
 ·have d0 : decide (n < 0) = false:=decide_eq_false h0
  have d1 : decide (65536 < n) = true:=decide_eq_true (by omega)
  clear h
  go_enter Tryz.func127,Tryz.ntmps127
  go_wp2
  go_ret2
  exact ⟨rfl,rfl⟩
set_option maxHeartbeats 1000000 in
theorem decode10_bs (v : Value) (ys : List Int) (N : Nat) (w : World) (h : Bs .u8 w v ys) (hr : ∀ y ∈ ys,0 ≤ y ∧ y ≤ 255) (hl : ys.length ≤ 1000000000) (hN : N ≤ 65536) :
  Calls Tryz.prog 127 #[v,.int .i64 N] w fun e w' => ∃ u,e = .returned (.tuple #[u,.int .i64 (DEC10 ys N).2]) ∧ w'.ownsRow w.heap.size 42 1 u (DEC10 ys N).1.length ((DEC10 ys N).1.map (Value.int .u64)) ∧ Only (fun _ => False) w w':=by
 obtain ⟨D,hD⟩ : ∃ D,D = DEC10 ys N:=⟨_,rfl⟩
 rw [← hD]
 rw [DEC10_RD ys N hN] at hD
 have d0 : decide ((N : Int) < 0) = false:=by simp
 have d1 : decide (65536 < (N : Int)) = false:=by simp;omega
 have HD:=hideIt hD
 have HB:=hideIt h
 have HR:=hideIt hr
 have HU:=hideIt (RD10_u64 (n:=N) hr)
 have NR:=hideIt (new_bs v ys w h hr (by omega))
 clear h hr hD
 go_enter Tryz.func127,Tryz.ntmps127
 go_wp2_with fail
 refine NR.out.mono ?_
 rintro e w1 ⟨R,v1,rfl,r1,o1,g1,g2,g3⟩
 have RA:=hideIt (rd10_all r1 (fun k hk => (g3 k hk).2) N hN)
 have O1:=hideIt o1
 have S1:=o1.size
 clear NR r1 o1 g3
 go_wp2_with fail
 refine RA.out.mono ?_
 rintro e w2 ⟨u,rfl,own2,o2⟩
 have B2:=hideIt ((O1.out.low (Nat.le_refl _)).trans (o2.below (B:=w.heap.size) S1 (fun k e => by omega)))
 have OW2:=hideIt (own_low own2 S1)
 clear RA o2 O1 own2
 by_cases hb : (RD10 ys N).2 ≠ 0
 ·have HD2 : Hid (D = ([],(RD10 ys N).2)):=by simp only [Hid];rw [HD.out,if_pos hb]
  have dc : ((RD10 ys N).2 != 0) = true:=by simpa using hb
  obtain ⟨c,hc⟩ : ∃ c,c = (RD10 ys N).2:=⟨_,rfl⟩
  rw [← hc] at HD2 dc ⊢
  clear HD hb hc
  go_wp2
  go_ret2
  have hD:=HD2.out
  subst hD
  exact ⟨_,rfl,World.ownsRow_nil _ _ _ _,only_of_below B2.out⟩
 ·have hz : (RD10 ys N).2 = 0:=by simpa using hb
  rw [hz]
  obtain ⟨L,hL⟩ : ∃ L,L = (RD10 ys N).1:=⟨_,rfl⟩
  have HD2 : Hid (D = if (ENC10 L).1 = ys then (L,0) else ([],3)):=by simp only [Hid];rw [HD.out,if_neg hb,← hL]
  rw [← hL] at OW2 HU
  have EN:=hideIt (encode10_all u L w2 (Bs.of_own OW2.out) HU.out)
  clear HD hb hz hL
  obtain ⟨a6,c6,e6⟩:=(Bs.of_own OW2.out).len
  subst e6
  obtain ⟨m,hm⟩ : ∃ m,m = L.length:=⟨_,rfl⟩
  rw [← hm] at EN ⊢
  have HM:=hideIt hm
  clear hm
  go_wp2_with fail
  refine EN.out.mono ?_
  rintro e w3 ⟨v3,rfl,own3,o3⟩
  have EQ:=hideIt (equal_bs v3 v (ENC10 L).1 ys w3 (Bs.of_own own3) ((HB.out.later B2.out).past o3) (ENC10_rng L) HR.out)
  have O3:=hideIt ((only_of_below B2.out).same o3)
  have OW3:=hideIt (o3.own OW2.out (fun _ _ f => f))
  obtain ⟨a7,c7,e7⟩:=(Bs.of_own own3).len
  subst e7
  clear EN own3 o3 OW2
  generalize (ENC10 L).2 = EC at *
  generalize (ENC10 L).1 = E at *
  by_cases he : E = ys
  ·rw [decide_eq_true he] at EQ
   have hD:=HD2.out
   rw [if_pos he] at hD
   clear HD2 he
   have HD3:=hideIt hD
   clear hD
   obtain ⟨m2,hm2⟩ : ∃ m2,m2 = E.length:=⟨_,rfl⟩
   rw [← hm2] at EQ ⊢
   clear hm2
   go_wp2_with fail
   refine EQ.out.mono ?_
   rintro e w4 ⟨rfl,rfl⟩
   clear EQ
   go_wp2
   go_ret2
   have hD:=HD3.out
   subst hD
   exact ⟨_,rfl,by have:=OW3.out;rw [HM.out];exact this,O3.out⟩
  ·rw [decide_eq_false he] at EQ
   have hD:=HD2.out
   rw [if_neg he] at hD
   clear HD2 he
   have HD3:=hideIt hD
   clear hD
   obtain ⟨m2,hm2⟩ : ∃ m2,m2 = E.length:=⟨_,rfl⟩
   rw [← hm2] at EQ ⊢
   clear hm2
   go_wp2_with fail
   refine EQ.out.mono ?_
   rintro e w4 ⟨rfl,rfl⟩
   clear EQ
   go_wp2
   go_ret2
   have hD:=HD3.out
   subst hD
   exact ⟨_,rfl,World.ownsRow_nil _ _ _ _,O3.out⟩
theorem decode10_all (v : Value) (ys : List Int) (n : Int) (w : World) (h : Bs .u8 w v ys) (hr : ∀ y ∈ ys,0 ≤ y ∧ y ≤ 255) (hl : ys.length ≤ 1000000000) :
  Calls Tryz.prog 127 #[v,.int .i64 n] w fun e w' => ∃ u,e = .returned (.tuple #[u,.int .i64 (DEC10 ys n).2]) ∧ w'.ownsRow w.heap.size 42 1 u (DEC10 ys n).1.length ((DEC10 ys n).1.map (Value.int .u64)) ∧ Only (fun _ => False) w w':=by
 by_cases hn : n < 0 ∨ 65536 < n
 ·have e : DEC10 ys n = ([],1):=if_pos hn
  rw [e]
  refine (decode10_arg v n w hn).mono ?_
  rintro e w' ⟨rfl,rfl⟩
  exact ⟨_,rfl,World.ownsRow_nil _ _ _ _,Only.refl _ _⟩
 ·obtain ⟨N,rfl⟩:=Int.eq_ofNat_of_zero_le (show 0 ≤ n by omega)
  exact decode10_bs v ys N w h hr hl (by omega)
end Go.Proofs.YthapipgaohlgdaaGreatDoor


namespace Go.Proofs.YthapipgaohlgdaaGreatDoor
open Go.RowKit
theorem results_ct {P : Program} {fn : Func} {p u : Tmp} {ty : TypeId} (h : fn.results = #[.cell p ty,.tmp u]) (tmps : Array Value) (w : World) (g : Nat) (t : TypeId) (cs : Array Value) (fr : Nat × Nat) (d : TypeDesc)
  (hp : tmps.getD p undef = .pointer (some ⟨g,0,none⟩)) (hg : w.heap[g]? = some (.cells cs t fr))
  (hu : P.underlying ty = some d) (hd : (match d with | .struct _ | .array _ _ => true | _ => false) = true) (hi : (P.info? ty).map (·.size) = some cs.size) :
  (results fn tmps).run P w = .ok (.tuple #[.agg cs,tmps.getD u undef]) w:=by
 have hp' : tmps[p]?.getD undef = .pointer (some ⟨g,0,none⟩):=by simpa using hp
 simp [results,h,hp',asAddr,run_loadVar_row w g t ty cs fr d hg hu hd hi]
theorem results_tct {P : Program} {fn : Func} {s p u : Tmp} {ty : TypeId} (h : fn.results = #[.tmp s,.cell p ty,.tmp u]) (tmps : Array Value) (w : World) (g : Nat) (t : TypeId) (cs : Array Value) (fr : Nat × Nat) (d : TypeDesc)
  (hp : tmps.getD p undef = .pointer (some ⟨g,0,none⟩)) (hg : w.heap[g]? = some (.cells cs t fr))
  (hu : P.underlying ty = some d) (hd : (match d with | .struct _ | .array _ _ => true | _ => false) = true) (hi : (P.info? ty).map (·.size) = some cs.size) :
  (results fn tmps).run P w = .ok (.tuple #[tmps.getD s undef,.agg cs,tmps.getD u undef]) w:=by
 have hp' : tmps[p]?.getD undef = .pointer (some ⟨g,0,none⟩):=by simpa using hp
 simp [results,h,hp',asAddr,run_loadVar_row w g t ty cs fr d hg hu hd hi]
structure Rs (w : World) (R : Nat) (v : Value) (ys : List Int) (w1 : World) (p : Nat) (a d : Nat) : Prop where
 rd : RdAt 176 w1 R v ys p
 on : Only (fun k => k = R) w w1
 lt : R < w.heap.size
 vb : ∀ k,v.ownBlock = some k → k < w.heap.size
 box : w1.heap[w.heap.size]? = some (.cells #[.int .i64 a,.int .i64 d] 148 (0,0))
 res : w1.heap[w.heap.size + 1]? = some (.cells #[.int .i64 0,.int .i64 0] 148 (0,0))
theorem heap_in {w : World} {k : Nat} {o : Obj} (h : w.heap[k]? = some o) : k < w.heap.size:=by
 rcases Nat.lt_or_ge k w.heap.size with e | e
 ·exact e
 ·rw [Array.getElem?_eq_none e] at h;cases h
theorem Rs.start {w : World} {R : Nat} {v : Value} {ys : List Int} {p : Nat} (h : RdAt 176 w R v ys p) (hv : ∀ k,v.ownBlock = some k → k < w.heap.size) (a d : Nat) :
  Rs w R v ys ((w.alloc (.cells #[.int .i64 a,.int .i64 d] 148)).alloc (.cells #[.int .i64 0,.int .i64 0] 148)) p a d where
 rd:=h.keep (((Only.refl (fun _ => False) w).alloc _).alloc _) (fun f => f) (fun _ _ f => f)
 on:=((Only.refl _ w).alloc _).alloc _
 lt:=heap_in h.cell
 vb:=hv
 box:=by
  have:=heap_alloc_last w (.cells #[.int .i64 a,.int .i64 d] 148)
  exact ((Only.refl (fun _ => False) _).alloc _).heap this (fun f => f)
 res:=by
  have:=heap_alloc_last (w.alloc (.cells #[.int .i64 a,.int .i64 d] 148)) (.cells #[.int .i64 0,.int .i64 0] 148)
  rwa [show (w.alloc (.cells #[.int .i64 a,.int .i64 d] 148)).heap.size = w.heap.size + 1 from Array.size_push ..] at this
theorem Rs.get {w : World} {R : Nat} {v : Value} {ys : List Int} {w1 w2 : World} {p p2 : Nat} {a d : Nat} (h : Rs w R v ys w1 p a d) (h2 : RdAt 176 w2 R v ys p2) (o : Only (fun k => k = R) w1 w2) : Rs w R v ys w2 p2 a d where
 rd:=h2
 on:=h.on.trans o (fun _ _ e => e)
 lt:=h.lt
 vb:=h.vb
 box:=o.heap h.box (fun e => by have:=h.lt;omega)
 res:=o.heap h.res (fun e => by have:=h.lt;omega)
theorem Rs.past {w : World} {R : Nat} {v : Value} {ys : List Int} {w1 w2 : World} {p : Nat} {a d : Nat} (h : Rs w R v ys w1 p a d) (o : Only (fun _ => False) w1 w2) : Rs w R v ys w2 p a d :=
 h.get (h.rd.keep o (fun f => f) (fun _ _ f => f)) (o.mono (fun _ _ f => f.elim))
theorem Rs.set {w : World} {R : Nat} {v : Value} {ys : List Int} {w1 : World} {p : Nat} {a d : Nat} (h : Rs w R v ys w1 p a d) (a' d' : Nat) :
  Rs w R v ys ((w1.setCell ⟨w.heap.size,0,none⟩ (.int .i64 a')).setCell ⟨w.heap.size,1,none⟩ (.int .i64 d')) p a' d' where
 rd:=h.rd.keep (setCell2_only (S:=fun k => k = w.heap.size) _ _ rfl) (fun f => by have:=h.lt;omega) (fun k hk f => by have:=h.vb k hk;omega)
 on:=((h.on.setCell (p:=⟨w.heap.size,0,none⟩) (fun f => absurd f (Nat.lt_irrefl _)) _).setCell (p:=⟨w.heap.size,1,none⟩) (fun f => absurd f (Nat.lt_irrefl _)) _)
 lt:=h.lt
 vb:=h.vb
 box:=setCell2_heap _ _ h.box
 res:=(setCell2_only (S:=fun k => k = w.heap.size) _ _ rfl).heap h.res (fun f => by omega)
theorem Rs.fin {w : World} {R : Nat} {v : Value} {ys : List Int} {w1 : World} {p : Nat} {a d : Nat} (h : Rs w R v ys w1 p a d) (x y : Value) {w2 : World} (e : w2 = (w1.setCell ⟨w.heap.size + 1,0,none⟩ x).setCell ⟨w.heap.size + 1,1,none⟩ y) :
  w2.heap[w.heap.size + 1]? = some (.cells #[x,y] 148 (0,0)) ∧ RdAt 176 w2 R v ys p ∧ Only (fun k => k = R) w w2:=by
 subst e
 refine ⟨setCell2_heap _ _ h.res,h.rd.keep (setCell2_only (S:=fun k => k = w.heap.size + 1) _ _ rfl) (fun f => by have:=h.lt;omega) (fun k hk f => by have:=h.vb k hk;omega),?_⟩
 exact ((h.on.setCell (p:=⟨w.heap.size + 1,0,none⟩) (fun (f : w.heap.size + 1 < w.heap.size) => absurd f (by omega)) _).setCell (p:=⟨w.heap.size + 1,1,none⟩) (fun (f : w.heap.size + 1 < w.heap.size) => absurd f (by omega)) _)
theorem get_at {w : World} {R : Nat} {v : Value} {ys : List Int} {p : Nat} (h : RdAt 176 w R v ys p) (n : Nat) (h1 : n ≤ 64) (r : List Bool) (hr : (allBits ys).drop p = r) (hs : n ≤ r.length) :
  Calls Tryz.prog 181 #[.pointer (some ⟨R,0,none⟩),.int .i64 n] w fun e w' => e = .returned (.tuple #[.int .u64 (bnum (r.take n) : Nat),.int .i64 0]) ∧
   RdAt 176 w' R v ys (p + n) ∧ (allBits ys).drop (p + n) = r.drop n ∧ Only (fun k => k = R) w w':=by
 have hl : r.length = 8 * ys.length - p:=by rw [← hr,List.length_drop,allBits_length]
 have hp:=h.le
 refine (get_rd h n (by omega) (by omega) (by omega)).mono ?_
 rintro e w' ⟨rfl,h2,h3⟩
 rw [Int.toNat_natCast] at h2
 rw [Int.toNat_natCast,hr]
 exact ⟨rfl,h2,by rw [← List.drop_drop,hr],h3⟩
theorem get_cut {w : World} {R : Nat} {v : Value} {ys : List Int} {p : Nat} (h : RdAt 176 w R v ys p) (n : Nat) (h1 : n ≤ 64) (r : List Bool) (hr : (allBits ys).drop p = r) (hs : r.length < n) :
  Calls Tryz.prog 181 #[.pointer (some ⟨R,0,none⟩),.int .i64 n] w fun e w' => e = .returned (.tuple #[.int .u64 0,.int .i64 2]) ∧ Only (fun _ => False) w w':=by
 have hl : r.length = 8 * ys.length - p:=by rw [← hr,List.length_drop,allBits_length]
 have hp:=h.le
 exact get_short h n (by omega) (by omega) (by omega)
theorem bnum_11 (r : List Bool) (h : 11 ≤ r.length) : bnum (r.take 11) = bnum (r.take 5) * 64 + bnum ((r.drop 5).take 6) ∧ bnum (r.take 5) < 32 ∧ bnum ((r.drop 5).take 6) < 64:=by
 have e : r.take 11 = r.take 5 ++ (r.drop 5).take 6:=by
  rw [show (11 : Nat) = 5 + 6 from rfl,List.take_add]
 have l5 : (r.take 5).length = 5:=by rw [List.length_take];omega
 have l6 : ((r.drop 5).take 6).length = 6:=by rw [List.length_take,List.length_drop];omega
 have b5:=bnum_lt (r.take 5)
 have b6:=bnum_lt ((r.drop 5).take 6)
 rw [l5] at b5
 rw [l6] at b6
 rw [e,num_append,l6]
 exact ⟨rfl,b5,b6⟩
set_option maxHeartbeats 1000000 in
theorem readWindow_cut {w : World} {R : Nat} {v : Value} {ys : List Int} {p : Nat} (h : RdAt 176 w R v ys p) (r : List Bool) (hr : (allBits ys).drop p = r) (hs : r.length < 11) :
  Calls Tryz.prog 187 #[.pointer (some ⟨R,0,none⟩)] w fun e w' => e = .returned (.tuple #[.agg #[.int .i64 0,.int .i64 0],.int .i64 2]) ∧ Only (fun k => k = R) w w':=by
 have h0:=h.keep ((Only.refl (fun _ => False) w).alloc (.cells #[.int .i64 0,.int .i64 0] 148)) (fun f => f) (fun _ _ f => f)
 have G:=hideIt (get_cut h0 11 (by omega) r hr hs)
 clear h h0 hr hs
 go_enter Tryz.func187,Tryz.ntmps187
 go_wp2_with fail
 refine G.out.mono ?_
 rintro e w1 ⟨rfl,o1⟩
 have g1:=o1.heap (heap_alloc_last w _) (fun f => f)
 obtain ⟨c0,c1,f0,f1⟩:=two_cells g1
 have O1:=hideIt ((((Only.refl (fun k => k = R) w).alloc (.cells #[.int .i64 0,.int .i64 0] 148)).trans o1 (fun _ _ f => f.elim)))
 have HG:=hideIt g1
 clear G o1 g1
 go_wp2
 exact bodyPost_ret (results_ct rfl _ _ w.heap.size 148 _ (0,0) _ rfl (setCell2_heap _ _ HG.out) Tryz.underlying148 rfl Tryz.sizeWin) rfl ⟨rfl,(O1.out.setCell (p:=⟨w.heap.size,0,none⟩) (fun f => absurd f (Nat.lt_irrefl _)) _).setCell (p:=⟨w.heap.size,1,none⟩) (fun f => absurd f (Nat.lt_irrefl _)) _⟩
set_option maxHeartbeats 1000000 in
theorem trail_i (a d : Int) (w : World) (ha : 0 ≤ a ∧ a ≤ 64) (hd : 0 ≤ d ∧ d ≤ 64) :
  Calls Tryz.prog 171 #[.agg #[.int .i64 a,.int .i64 d]] w fun e w' => e = .returned (.int .i64 (64 - a - d)) ∧ Only (fun _ => False) w w':=by
 obtain ⟨x,rfl⟩:=Int.eq_ofNat_of_zero_le ha.1
 obtain ⟨y,rfl⟩:=Int.eq_ofNat_of_zero_le hd.1
 exact trail_any x y w (by omega) (by omega)
set_option maxHeartbeats 1000000 in
theorem readWindow_bad {w : World} {R : Nat} {v : Value} {ys : List Int} {p : Nat} (h : RdAt 176 w R v ys p) (hv : ∀ k,v.ownBlock = some k → k < w.heap.size) (r : List Bool) (hr : (allBits ys).drop p = r) (hs : 11 ≤ r.length) (hb : 63 < bnum (r.take 5) + bnum ((r.drop 5).take 6)) :
  Calls Tryz.prog 187 #[.pointer (some ⟨R,0,none⟩)] w fun e w' => e = .returned (.tuple #[.agg #[.int .i64 0,.int .i64 0],.int .i64 3]) ∧
   RdAt 176 w' R v ys (p + 11) ∧ (allBits ys).drop (p + 11) = r.drop 11 ∧ Only (fun k => k = R) w w':=by
 have h0:=h.keep ((Only.refl (fun _ => False) w).alloc (.cells #[.int .i64 0,.int .i64 0] 148)) (fun f => f) (fun _ _ f => f)
 have G:=hideIt (get_at h0 11 (by omega) r hr hs)
 have hR:=heap_in h.cell
 obtain ⟨b1,b2,b3⟩:=bnum_11 r hs
 rw [b1] at G
 clear h h0 hr hs b1
 generalize bnum (r.take 5) = a at *
 generalize bnum ((r.drop 5).take 6) = c at *
 obtain ⟨t,ht⟩ : ∃ t,t = a * 64 + c:=⟨_,rfl⟩
 rw [← ht] at G
 have t1 : (t : Int) / 64 = (a : Int):=by omega
 have t2 : (t : Int) % 64 = (c : Int):=by omega
 have t3 : (t : Int) ≤ 4095:=by omega
 have dt : decide ((64 : Int) - (a : Int) - ((c : Int) + 1) < 0) = true:=by simp;omega
 have TR:=fun w => hideIt (trail_i (a : Int) ((c : Int) + 1) w (by omega) (by omega))
 clear ht
 go_enter Tryz.func187,Tryz.ntmps187
 go_wp2_with fail
 refine G.out.mono ?_
 rintro e w1 ⟨rfl,r1,d1,o1⟩
 have g1:=o1.heap (heap_alloc_last w _) (fun e => by omega)
 have O1:=hideIt ((((Only.refl (fun k => k = R) w).alloc (.cells #[.int .i64 0,.int .i64 0] 148)).trans o1 (fun _ _ f => f)))
 have HG:=hideIt g1
 have RD:=hideIt r1
 have DR:=hideIt d1
 clear G o1 g1 r1 d1
 go_wp2_with fail
 refine (TR _).out.mono ?_
 rintro e w2 ⟨rfl,o2⟩
 have oA : Only (fun _ => False) w1 w2:=((Only.refl (fun _ => False) w1).alloc _).trans o2 (fun _ _ f => f)
 have g2:=o2.heap (heap_alloc_last w1 _) (fun f => f)
 have g1:=oA.heap HG.out (fun f => f)
 have RD2:=hideIt (RD.out.keep oA (fun f => f) (fun _ _ f => f))
 have O2:=hideIt (O1.out.trans oA (fun _ _ f => f.elim))
 obtain ⟨c0,c1,f0,f1⟩:=two_cells g1
 obtain ⟨c2,c3,_,_⟩:=two_cells g2
 have HG2:=hideIt g1
 clear TR oA o2 g1 g2 RD O1 HG
 go_wp2
 exact bodyPost_ret (results_ct rfl _ _ w.heap.size 148 _ (0,0) _ rfl (setCell2_heap _ _ HG2.out) Tryz.underlying148 rfl Tryz.sizeWin) rfl ⟨rfl,RD2.out.keep (setCell2_only (S:=fun k => k = w.heap.size) _ _ rfl) (fun f => by omega) (fun k hk f => by have:=hv k hk;omega),DR.out,(O2.out.setCell (p:=⟨w.heap.size,0,none⟩) (fun f => absurd f (Nat.lt_irrefl _)) _).setCell (p:=⟨w.heap.size,1,none⟩) (fun f => absurd f (Nat.lt_irrefl _)) _⟩
set_option maxHeartbeats 1000000 in
theorem readWindow_ok {w : World} {R : Nat} {v : Value} {ys : List Int} {p : Nat} (h : RdAt 176 w R v ys p) (hv : ∀ k,v.ownBlock = some k → k < w.heap.size) (r : List Bool) (hr : (allBits ys).drop p = r) (hs : 11 ≤ r.length) (hb : bnum (r.take 5) + bnum ((r.drop 5).take 6) ≤ 63) :
  Calls Tryz.prog 187 #[.pointer (some ⟨R,0,none⟩)] w fun e w' => e = .returned (.tuple #[.agg #[.int .i64 (bnum (r.take 5) : Nat),.int .i64 ((bnum ((r.drop 5).take 6) : Nat) + 1)],.int .i64 0]) ∧
   RdAt 176 w' R v ys (p + 11) ∧ (allBits ys).drop (p + 11) = r.drop 11 ∧ Only (fun k => k = R) w w':=by
 have h0:=h.keep ((Only.refl (fun _ => False) w).alloc (.cells #[.int .i64 0,.int .i64 0] 148)) (fun f => f) (fun _ _ f => f)
 have G:=hideIt (get_at h0 11 (by omega) r hr hs)
 have hR:=heap_in h.cell
 obtain ⟨b1,b2,b3⟩:=bnum_11 r hs
 rw [b1] at G
 clear h h0 hr hs b1
 generalize bnum (r.take 5) = a at *
 generalize bnum ((r.drop 5).take 6) = c at *
 obtain ⟨t,ht⟩ : ∃ t,t = a * 64 + c:=⟨_,rfl⟩
 rw [← ht] at G
 have t1 : (t : Int) / 64 = (a : Int):=by omega
 have t2 : (t : Int) % 64 = (c : Int):=by omega
 have t3 : (t : Int) ≤ 4095:=by omega
 have dt : decide ((64 : Int) - (a : Int) - ((c : Int) + 1) < 0) = false:=by simp;omega
 have TR:=fun w => hideIt (trail_i (a : Int) ((c : Int) + 1) w (by omega) (by omega))
 clear ht
 go_enter Tryz.func187,Tryz.ntmps187
 go_wp2_with fail
 refine G.out.mono ?_
 rintro e w1 ⟨rfl,r1,d1,o1⟩
 have g1:=o1.heap (heap_alloc_last w _) (fun e => by omega)
 have O1:=hideIt ((((Only.refl (fun k => k = R) w).alloc (.cells #[.int .i64 0,.int .i64 0] 148)).trans o1 (fun _ _ f => f)))
 have HG:=hideIt g1
 have RD:=hideIt r1
 have DR:=hideIt d1
 clear G o1 g1 r1 d1
 go_wp2_with fail
 refine (TR _).out.mono ?_
 rintro e w2 ⟨rfl,o2⟩
 have oA : Only (fun _ => False) w1 w2:=((Only.refl (fun _ => False) w1).alloc _).trans o2 (fun _ _ f => f)
 have g2:=o2.heap (heap_alloc_last w1 _) (fun f => f)
 have g1:=oA.heap HG.out (fun f => f)
 have RD2:=hideIt (RD.out.keep oA (fun f => f) (fun _ _ f => f))
 have O2:=hideIt (O1.out.trans oA (fun _ _ f => f.elim))
 obtain ⟨c0,c1,f0,f1⟩:=two_cells g1
 obtain ⟨c2,c3,_,_⟩:=two_cells g2
 have HG2:=hideIt g1
 clear TR oA o2 g1 g2 RD O1 HG
 go_wp2
 exact bodyPost_ret (results_ct rfl _ _ w.heap.size 148 _ (0,0) _ rfl (setCell2_heap _ _ HG2.out) Tryz.underlying148 rfl Tryz.sizeWin) rfl ⟨rfl,RD2.out.keep (setCell2_only (S:=fun k => k = w.heap.size) _ _ rfl) (fun f => by omega) (fun k hk f => by have:=hv k hk;omega),DR.out,(O2.out.setCell (p:=⟨w.heap.size,0,none⟩) (fun f => absurd f (Nat.lt_irrefl _)) _).setCell (p:=⟨w.heap.size,1,none⟩) (fun f => absurd f (Nat.lt_irrefl _)) _⟩
end Go.Proofs.YthapipgaohlgdaaGreatDoor


namespace Go.Proofs.YthapipgaohlgdaaGreatDoor
open Go.RowKit
def Bad (w : World) (R : Nat) (c : Int) (e : Ending) (w' : World) : Prop:=∃ x a d : Int,e = .returned (.tuple #[.int .u64 x,.agg #[.int .i64 a,.int .i64 d],.int .i64 c]) ∧ Only (fun k => k = R) w w'
def Good (w : World) (R : Nat) (v : Value) (ys : List Int) (x : Nat) (a d : Nat) (r : List Bool) (e : Ending) (w' : World) : Prop :=
 e = .returned (.tuple #[.int .u64 x,.agg #[.int .i64 a,.int .i64 d],.int .i64 0]) ∧ (∃ p,RdAt 176 w' R v ys p ∧ (allBits ys).drop p = r) ∧ Only (fun k => k = R) w w'
theorem b_false (r : List Bool) : (bnum ((false :: r).take 1) : Nat) = 0:=by simp [bnum]
theorem b_true (r : List Bool) : (bnum ((true :: r).take 1) : Nat) = 1:=by simp [bnum]
theorem shl_back {y z d : Nat} (hy : y < 2 ^ d) (h : z + d ≤ 64) : IntKind.u64.wrap ((y : Int) * 2 ^ z) = ((y * 2 ^ z : Nat) : Int):=by
 have h1 : y * 2 ^ z < 2 ^ d * 2 ^ z:=Nat.mul_lt_mul_of_pos_right hy (Nat.two_pow_pos z)
 rw [← Nat.pow_add] at h1
 have h2 : 2 ^ (d + z) ≤ 2 ^ 64:=Nat.pow_le_pow_right (by omega) (by omega)
 rw [p64] at h2
 have e : (y : Int) * 2 ^ z = ((y * 2 ^ z : Nat) : Int):=by push_cast;rfl
 rw [e,IntKind.wrap_u64]
 omega
theorem bnum_take_lt (r : List Bool) (d : Nat) : bnum (r.take d) < 2 ^ d:=by
 have h1:=bnum_lt (r.take d)
 have h2 : 2 ^ (r.take d).length ≤ 2 ^ d:=Nat.pow_le_pow_right (by omega) (by rw [List.length_take];omega)
 omega
set_option maxHeartbeats 2000000 in
theorem read_end {w : World} {R : Nat} {v : Value} {ys : List Int} {p : Nat} (h : RdAt 176 w R v ys p) (hv : ∀ k,v.ownBlock = some k → k < w.heap.size) (a d : Nat) (hr : (allBits ys).drop p = []) :
  Calls Tryz.prog 182 #[.pointer (some ⟨R,0,none⟩),.agg #[.int .i64 a,.int .i64 d]] w (Bad w R 2):=by
 have S0:=hideIt (Rs.start h hv a d)
 have G1:=hideIt (get_cut S0.out.rd 1 (by omega) [] hr (by simp))
 clear h hr
 go_enter Tryz.func182,Tryz.ntmps182
 go_wp2_with fail
 refine G1.out.mono ?_
 rintro e w1 ⟨rfl,o1⟩
 have S1:=hideIt (S0.out.past o1)
 clear o1 S0 G1
 obtain ⟨c0,c1,_,_⟩:=two_cells S1.out.box
 obtain ⟨c2,c3,f2,f3⟩:=two_cells S1.out.res
 go_wp2
 go_region
 all_goals
  go_wp2
  obtain ⟨g,r1,r2⟩:=(S1.out.past ((Only.refl (fun _ => False) w1).drew)).fin (.int .i64 a) (.int .i64 d) rfl
  exact bodyPost_ret (results_tct rfl _ _ (w.heap.size + 1) 148 _ (0,0) _ rfl g Tryz.underlying148 rfl Tryz.sizeWin) rfl ⟨_,_,_,rfl,r2⟩
set_option maxHeartbeats 2000000 in
theorem read_same {w : World} {R : Nat} {v : Value} {ys : List Int} {p : Nat} (h : RdAt 176 w R v ys p) (hv : ∀ k,v.ownBlock = some k → k < w.heap.size) (a d : Nat) (r : List Bool) (hr : (allBits ys).drop p = false :: r) :
  Calls Tryz.prog 182 #[.pointer (some ⟨R,0,none⟩),.agg #[.int .i64 a,.int .i64 d]] w (Good w R v ys 0 a d r):=by
 have S0:=hideIt (Rs.start h hv a d)
 have G1:=hideIt (get_at S0.out.rd 1 (by omega) _ hr (by simp))
 rw [b_false] at G1
 clear h hr
 go_enter Tryz.func182,Tryz.ntmps182
 go_wp2_with fail
 refine G1.out.mono ?_
 rintro e w1 ⟨rfl,h1,q1,o1⟩
 have S1:=hideIt (S0.out.get h1 o1)
 have Q1:=hideIt q1
 clear h1 o1 S0 G1 q1
 obtain ⟨c0,c1,_,_⟩:=two_cells S1.out.box
 obtain ⟨c2,c3,f2,f3⟩:=two_cells S1.out.res
 go_wp2
 go_region
 all_goals
  go_wp2
  obtain ⟨g,r1,r2⟩:=(S1.out.past ((Only.refl (fun _ => False) w1).drew)).fin (.int .i64 a) (.int .i64 d) rfl
  exact bodyPost_ret (results_tct rfl _ _ (w.heap.size + 1) 148 _ (0,0) _ rfl g Tryz.underlying148 rfl Tryz.sizeWin) rfl ⟨rfl,⟨_,r1,Q1.out⟩,r2⟩
set_option maxHeartbeats 2000000 in
theorem read_cut1 {w : World} {R : Nat} {v : Value} {ys : List Int} {p : Nat} (h : RdAt 176 w R v ys p) (hv : ∀ k,v.ownBlock = some k → k < w.heap.size) (a d : Nat) (hr : (allBits ys).drop p = [true]) :
  Calls Tryz.prog 182 #[.pointer (some ⟨R,0,none⟩),.agg #[.int .i64 a,.int .i64 d]] w (Bad w R 2):=by
 have S0:=hideIt (Rs.start h hv a d)
 have G1:=hideIt (get_at S0.out.rd 1 (by omega) _ hr (by simp))
 rw [b_true] at G1
 clear h hr
 go_enter Tryz.func182,Tryz.ntmps182
 go_wp2_with fail
 refine G1.out.mono ?_
 rintro e w1 ⟨rfl,h1,q1,o1⟩
 have S1:=hideIt (S0.out.get h1 o1)
 have Q1:=hideIt q1
 clear h1 o1 S0 G1 q1
 have G2:=hideIt (get_cut S1.out.rd 1 (by omega) [] Q1.out (by simp))
 go_wp2_with fail
 refine G2.out.mono ?_
 rintro e w2 ⟨rfl,o2⟩
 have S2:=hideIt (S1.out.past o2)
 clear o2 S1 G2
 obtain ⟨c0,c1,_,_⟩:=two_cells S2.out.box
 obtain ⟨c2,c3,f2,f3⟩:=two_cells S2.out.res
 go_wp2
 go_region
 all_goals
  go_wp2
  obtain ⟨g,r1,r2⟩:=(S2.out.past ((Only.refl (fun _ => False) w2).drew)).fin (.int .i64 a) (.int .i64 d) rfl
  exact bodyPost_ret (results_tct rfl _ _ (w.heap.size + 1) 148 _ (0,0) _ rfl g Tryz.underlying148 rfl Tryz.sizeWin) rfl ⟨_,_,_,rfl,r2⟩
set_option maxHeartbeats 2000000 in
theorem gread_none {w : World} {R : Nat} {v : Value} {ys : List Int} {p : Nat} (h : RdAt 176 w R v ys p) (hv : ∀ k,v.ownBlock = some k → k < w.heap.size) (r : List Bool) (hr : (allBits ys).drop p = true :: false :: r) :
  Calls Tryz.prog 182 #[.pointer (some ⟨R,0,none⟩),.agg #[.int .i64 0,.int .i64 0]] w (Bad w R 3):=by
 have S0:=hideIt (Rs.start h hv 0 0)
 have G1:=hideIt (get_at S0.out.rd 1 (by omega) _ hr (by simp))
 rw [b_true] at G1
 clear h hr
 go_enter Tryz.func182,Tryz.ntmps182
 go_wp2_with fail
 refine G1.out.mono ?_
 rintro e w1 ⟨rfl,h1,q1,o1⟩
 have S1:=hideIt (S0.out.get h1 o1)
 have Q1:=hideIt q1
 clear h1 o1 S0 G1 q1
 have G2:=hideIt (get_at S1.out.rd 1 (by omega) (false :: r) Q1.out (by simp))
 rw [b_false] at G2
 go_wp2_with fail
 refine G2.out.mono ?_
 rintro e w2 ⟨rfl,h2,q2,o2⟩
 have S2:=hideIt (S1.out.get h2 o2)
 have Q2 : Hid ((allBits ys).drop (p + 1 + 1) = r):=q2
 clear h2 o2 S1 G2 Q1 q2
 obtain ⟨c0,c1,_,_⟩:=two_cells S2.out.box
 go_wp2_with fail
 refine (isNone_yes _).mono ?_
 rintro e w3 ⟨rfl,o3⟩
 have S3:=hideIt (S2.out.past o3)
 clear o3 S2 c0 c1
 obtain ⟨c0,c1,_,_⟩:=two_cells S3.out.box
 obtain ⟨c2,c3,f2,f3⟩:=two_cells S3.out.res
 go_wp2
 go_region
 all_goals
  go_wp2
  obtain ⟨g,r1,r2⟩:=(S3.out.past ((Only.refl (fun _ => False) w3).drew)).fin (.int .i64 0) (.int .i64 0) rfl
  exact bodyPost_ret (results_tct rfl _ _ (w.heap.size + 1) 148 _ (0,0) _ rfl g Tryz.underlying148 rfl Tryz.sizeWin) rfl ⟨_,_,_,rfl,r2⟩
set_option maxHeartbeats 2000000 in
theorem read_in_cut {w : World} {R : Nat} {v : Value} {ys : List Int} {p : Nat} (h : RdAt 176 w R v ys p) (hv : ∀ k,v.ownBlock = some k → k < w.heap.size) (a d : Nat) (z : Nat) (r : List Bool) (hs : a + z + d = 64) (hd : 0 < d) (hc : r.length < d) (hr : (allBits ys).drop p = true :: false :: r) :
  Calls Tryz.prog 182 #[.pointer (some ⟨R,0,none⟩),.agg #[.int .i64 a,.int .i64 d]] w (Bad w R 2):=by
 have S0:=hideIt (Rs.start h hv a d)
 have G1:=hideIt (get_at S0.out.rd 1 (by omega) _ hr (by simp))
 rw [b_true] at G1
 have z64 : (z : Int) < 64:=by omega
 clear h hr
 go_enter Tryz.func182,Tryz.ntmps182
 go_wp2_with fail
 refine G1.out.mono ?_
 rintro e w1 ⟨rfl,h1,q1,o1⟩
 have S1:=hideIt (S0.out.get h1 o1)
 have Q1:=hideIt q1
 clear h1 o1 S0 G1 q1
 have G2:=hideIt (get_at S1.out.rd 1 (by omega) (false :: r) Q1.out (by simp))
 rw [b_false] at G2
 go_wp2_with fail
 refine G2.out.mono ?_
 rintro e w2 ⟨rfl,h2,q2,o2⟩
 have S2:=hideIt (S1.out.get h2 o2)
 have Q2 : Hid ((allBits ys).drop (p + 1 + 1) = r):=q2
 clear h2 o2 S1 G2 Q1 q2
 obtain ⟨c0,c1,_,_⟩:=two_cells S2.out.box
 go_wp2_with fail
 refine (isNone_no a d _ (by omega)).mono ?_
 rintro e w3 ⟨rfl,o3⟩
 have S3:=hideIt (S2.out.past o3)
 clear o3 S2 c0 c1
 have G9:=hideIt (get_cut S3.out.rd d (by omega) _ Q2.out (by omega))
 obtain ⟨c0,c1,_,_⟩:=two_cells S3.out.box
 go_wp2_with fail
 refine G9.out.mono ?_
 rintro e w4 ⟨rfl,o4⟩
 have S4:=hideIt (S3.out.past o4)
 clear o4 S3 G9 c0 c1
 obtain ⟨c0,c1,_,_⟩:=two_cells S4.out.box
 obtain ⟨c2,c3,f2,f3⟩:=two_cells S4.out.res
 have SD:=hideIt (S4.out.past ((Only.refl (fun _ => False) w4).drew))
 go_wp2
 go_region_with ((go_at_call 171;refine (trail_win a z d _ hs).mono ?_;rintro e w9 ⟨rfl,o9⟩;have S9:=hideIt (SD.out.past o9);obtain ⟨_,_,_,_⟩:=two_cells S9.out.box;obtain ⟨_,_,_,_⟩:=two_cells S9.out.res))
 all_goals
  go_wp2
  obtain ⟨g,r1,r2⟩:=S9.out.fin (.int .i64 a) (.int .i64 d) rfl
  exact bodyPost_ret (results_tct rfl _ _ (w.heap.size + 1) 148 _ (0,0) _ rfl g Tryz.underlying148 rfl Tryz.sizeWin) rfl ⟨_,_,_,rfl,r2⟩
set_option maxHeartbeats 2000000 in
theorem read_in {w : World} {R : Nat} {v : Value} {ys : List Int} {p : Nat} (h : RdAt 176 w R v ys p) (hv : ∀ k,v.ownBlock = some k → k < w.heap.size) (a d : Nat) (z : Nat) (r : List Bool) (hs : a + z + d = 64) (hd : 0 < d) (hc : d ≤ r.length) (hr : (allBits ys).drop p = true :: false :: r) :
  Calls Tryz.prog 182 #[.pointer (some ⟨R,0,none⟩),.agg #[.int .i64 a,.int .i64 d]] w (Good w R v ys (bnum (r.take d) * 2 ^ z) a d (r.drop d)):=by
 have S0:=hideIt (Rs.start h hv a d)
 have G1:=hideIt (get_at S0.out.rd 1 (by omega) _ hr (by simp))
 rw [b_true] at G1
 have z64 : (z : Int) < 64:=by omega
 clear h hr
 go_enter Tryz.func182,Tryz.ntmps182
 go_wp2_with fail
 refine G1.out.mono ?_
 rintro e w1 ⟨rfl,h1,q1,o1⟩
 have S1:=hideIt (S0.out.get h1 o1)
 have Q1:=hideIt q1
 clear h1 o1 S0 G1 q1
 have G2:=hideIt (get_at S1.out.rd 1 (by omega) (false :: r) Q1.out (by simp))
 rw [b_false] at G2
 go_wp2_with fail
 refine G2.out.mono ?_
 rintro e w2 ⟨rfl,h2,q2,o2⟩
 have S2:=hideIt (S1.out.get h2 o2)
 have Q2 : Hid ((allBits ys).drop (p + 1 + 1) = r):=q2
 clear h2 o2 S1 G2 Q1 q2
 obtain ⟨c0,c1,_,_⟩:=two_cells S2.out.box
 go_wp2_with fail
 refine (isNone_no a d _ (by omega)).mono ?_
 rintro e w3 ⟨rfl,o3⟩
 have S3:=hideIt (S2.out.past o3)
 clear o3 S2 c0 c1
 have G9:=hideIt (get_at S3.out.rd d (by omega) _ Q2.out (by omega))
 obtain ⟨c0,c1,_,_⟩:=two_cells S3.out.box
 go_wp2_with fail
 refine G9.out.mono ?_
 rintro e w4 ⟨rfl,h4,q4,o4⟩
 have S4:=hideIt (S3.out.get h4 o4)
 have Q4:=hideIt q4
 clear h4 o4 S3 G9 c0 c1 q4
 have HS:=hideIt (shl_back (z:=z) (bnum_take_lt r d) (by omega))
 generalize bnum (r.take d) = y at *
 obtain ⟨c0,c1,_,_⟩:=two_cells S4.out.box
 obtain ⟨c2,c3,f2,f3⟩:=two_cells S4.out.res
 have SD:=hideIt (S4.out.past ((Only.refl (fun _ => False) w4).drew))
 go_wp2
 go_region_with ((go_at_call 171;refine (trail_win a z d _ hs).mono ?_;rintro e w9 ⟨rfl,o9⟩;have S9:=hideIt (SD.out.past o9);obtain ⟨_,_,_,_⟩:=two_cells S9.out.box;obtain ⟨_,_,_,_⟩:=two_cells S9.out.res))
 all_goals
  go_wp2
  obtain ⟨g,r1,r2⟩:=S9.out.fin (.int .i64 a) (.int .i64 d) rfl
  exact bodyPost_ret (results_tct rfl _ _ (w.heap.size + 1) 148 _ (0,0) _ rfl g Tryz.underlying148 rfl Tryz.sizeWin) rfl ⟨by rw [HS.out];rfl,⟨_,r1,Q4.out⟩,r2⟩
set_option maxHeartbeats 2000000 in
theorem read_new_cut {w : World} {R : Nat} {v : Value} {ys : List Int} {p : Nat} (h : RdAt 176 w R v ys p) (hv : ∀ k,v.ownBlock = some k → k < w.heap.size) (a d : Nat) (r : List Bool) (hc : r.length < 11) (hr : (allBits ys).drop p = true :: true :: r) :
  Calls Tryz.prog 182 #[.pointer (some ⟨R,0,none⟩),.agg #[.int .i64 a,.int .i64 d]] w (Bad w R 2):=by
 have S0:=hideIt (Rs.start h hv a d)
 have G1:=hideIt (get_at S0.out.rd 1 (by omega) _ hr (by simp))
 rw [b_true] at G1
 clear h hr
 go_enter Tryz.func182,Tryz.ntmps182
 go_wp2_with fail
 refine G1.out.mono ?_
 rintro e w1 ⟨rfl,h1,q1,o1⟩
 have S1:=hideIt (S0.out.get h1 o1)
 have Q1:=hideIt q1
 clear h1 o1 S0 G1 q1
 have G2:=hideIt (get_at S1.out.rd 1 (by omega) (true :: r) Q1.out (by simp))
 rw [b_true] at G2
 go_wp2_with fail
 refine G2.out.mono ?_
 rintro e w2 ⟨rfl,h2,q2,o2⟩
 have S2:=hideIt (S1.out.get h2 o2)
 have Q2 : Hid ((allBits ys).drop (p + 1 + 1) = r):=q2
 clear h2 o2 S1 G2 Q1 q2
 have RW:=hideIt (readWindow_cut S2.out.rd r Q2.out hc)
 go_wp2_with fail
 refine RW.out.mono ?_
 rintro e w3 ⟨rfl,o3⟩
 have g3:=o3.heap S2.out.box (fun e => by have:=S2.out.lt;omega)
 have g4:=o3.heap S2.out.res (fun e => by have:=S2.out.lt;omega)
 have O3:=hideIt (S2.out.on.trans o3 (fun _ _ e => e))
 obtain ⟨c0,c1,f0,f1⟩:=two_cells g3
 obtain ⟨c2,c3,f2,f3⟩:=two_cells g4
 have HG:=hideIt g4
 clear o3 S2 RW g3 g4
 go_wp2
 go_region
 all_goals
  go_wp2
  refine bodyPost_ret (results_tct rfl _ _ (w.heap.size + 1) 148 _ (0,0) _ rfl (setCell2_heap _ _ ((setCell2_only (S:=fun k => k = w.heap.size) _ _ rfl).heap HG.out (fun f => by omega))) Tryz.underlying148 rfl Tryz.sizeWin) rfl ⟨_,_,_,rfl,?_⟩
  refine (((O3.out.setCell (p:=⟨w.heap.size,0,none⟩) (fun f => absurd f (Nat.lt_irrefl _)) _).setCell (p:=⟨w.heap.size,1,none⟩) (fun f => absurd f (Nat.lt_irrefl _)) _).drew.setCell (p:=⟨w.heap.size + 1,0,none⟩) (fun (f : w.heap.size + 1 < w.heap.size) => absurd f (by omega)) _).setCell (p:=⟨w.heap.size + 1,1,none⟩) (fun (f : w.heap.size + 1 < w.heap.size) => absurd f (by omega)) _
set_option maxHeartbeats 2000000 in
theorem read_new_bad {w : World} {R : Nat} {v : Value} {ys : List Int} {p : Nat} (h : RdAt 176 w R v ys p) (hv : ∀ k,v.ownBlock = some k → k < w.heap.size) (a d : Nat) (r : List Bool) (h11 : 11 ≤ r.length) (hb : 63 < bnum (r.take 5) + bnum ((r.drop 5).take 6)) (hr : (allBits ys).drop p = true :: true :: r) :
  Calls Tryz.prog 182 #[.pointer (some ⟨R,0,none⟩),.agg #[.int .i64 a,.int .i64 d]] w (Bad w R 3):=by
 have S0:=hideIt (Rs.start h hv a d)
 have G1:=hideIt (get_at S0.out.rd 1 (by omega) _ hr (by simp))
 rw [b_true] at G1
 clear h hr
 go_enter Tryz.func182,Tryz.ntmps182
 go_wp2_with fail
 refine G1.out.mono ?_
 rintro e w1 ⟨rfl,h1,q1,o1⟩
 have S1:=hideIt (S0.out.get h1 o1)
 have Q1:=hideIt q1
 clear h1 o1 S0 G1 q1
 have G2:=hideIt (get_at S1.out.rd 1 (by omega) (true :: r) Q1.out (by simp))
 rw [b_true] at G2
 go_wp2_with fail
 refine G2.out.mono ?_
 rintro e w2 ⟨rfl,h2,q2,o2⟩
 have S2:=hideIt (S1.out.get h2 o2)
 have Q2 : Hid ((allBits ys).drop (p + 1 + 1) = r):=q2
 clear h2 o2 S1 G2 Q1 q2
 have RW:=hideIt (readWindow_bad S2.out.rd (fun k hk => Nat.lt_of_lt_of_le (S2.out.vb k hk) S2.out.on.size) r Q2.out h11 hb)
 go_wp2_with fail
 refine RW.out.mono ?_
 rintro e w3 ⟨rfl,h3,q3,o3⟩
 have S3:=hideIt (S2.out.get h3 o3)
 have S4:=hideIt (S3.out.set 0 0)
 obtain ⟨c0,c1,f0,f1⟩:=two_cells S3.out.box
 obtain ⟨c2,c3,f2,f3⟩:=two_cells S3.out.res
 clear o3 h3 q3 S2 RW S3
 go_wp2
 go_region
 all_goals
  go_wp2
  obtain ⟨g,r1,r2⟩:=(S4.out.past ((Only.refl (fun _ => False) _).drew)).fin (.int .i64 (0 : Nat)) (.int .i64 (0 : Nat)) rfl
  exact bodyPost_ret (results_tct rfl _ _ (w.heap.size + 1) 148 _ (0,0) _ rfl g Tryz.underlying148 rfl Tryz.sizeWin) rfl ⟨_,_,_,rfl,r2⟩
set_option maxHeartbeats 2000000 in
theorem read_new_cut2 {w : World} {R : Nat} {v : Value} {ys : List Int} {p : Nat} (h : RdAt 176 w R v ys p) (hv : ∀ k,v.ownBlock = some k → k < w.heap.size) (a d : Nat) (a' z d' : Nat) (r : List Bool) (h11 : 11 ≤ r.length) (h5 : a' = bnum (r.take 5)) (h6 : (d' : Int) = (bnum ((r.drop 5).take 6) : Nat) + 1) (hs : a' + z + d' = 64) (hc : r.length < 11 + d') (hr : (allBits ys).drop p = true :: true :: r) :
  Calls Tryz.prog 182 #[.pointer (some ⟨R,0,none⟩),.agg #[.int .i64 a,.int .i64 d]] w (Bad w R 2):=by
 have S0:=hideIt (Rs.start h hv a d)
 have G1:=hideIt (get_at S0.out.rd 1 (by omega) _ hr (by simp))
 rw [b_true] at G1
 have z64 : (z : Int) < 64:=by omega
 have hl11 : (r.drop 11).length = r.length - 11:=List.length_drop
 have hd0 : 0 < d':=by omega
 have hba : bnum (r.take 5) + bnum ((r.drop 5).take 6) ≤ 63:=by omega
 have HBA:=hideIt hba
 have H5:=hideIt h5
 have H6:=hideIt h6
 clear h5 h6 hba
 clear h hr
 go_enter Tryz.func182,Tryz.ntmps182
 go_wp2_with fail
 refine G1.out.mono ?_
 rintro e w1 ⟨rfl,h1,q1,o1⟩
 have S1:=hideIt (S0.out.get h1 o1)
 have Q1:=hideIt q1
 clear h1 o1 S0 G1 q1
 have G2:=hideIt (get_at S1.out.rd 1 (by omega) (true :: r) Q1.out (by simp))
 rw [b_true] at G2
 go_wp2_with fail
 refine G2.out.mono ?_
 rintro e w2 ⟨rfl,h2,q2,o2⟩
 have S2:=hideIt (S1.out.get h2 o2)
 have Q2 : Hid ((allBits ys).drop (p + 1 + 1) = r):=q2
 clear h2 o2 S1 G2 Q1 q2
 have RW:=readWindow_ok S2.out.rd (fun k hk => Nat.lt_of_lt_of_le (S2.out.vb k hk) S2.out.on.size) r Q2.out h11 HBA.out
 rw [← H5.out,← H6.out] at RW
 have RW:=hideIt RW
 go_wp2_with fail
 refine RW.out.mono ?_
 rintro e w3 ⟨rfl,h3,q3,o3⟩
 have S3:=hideIt (S2.out.get h3 o3)
 obtain ⟨c0,c1,f0,f1⟩:=two_cells S3.out.box
 have S5:=hideIt (S3.out.set a' d')
 have Q3:=hideIt q3
 clear o3 h3 q3 S2 RW S3
 go_wp2_with fail
 refine (isNone_no a' d' _ (by omega)).mono ?_
 rintro e w4 ⟨rfl,o4⟩
 have S6:=hideIt (S5.out.past o4)
 clear o4 S5 c0 c1 f0 f1
 have G9:=hideIt (get_cut S6.out.rd d' (by omega) _ Q3.out (by omega))
 obtain ⟨c0,c1,_,_⟩:=two_cells S6.out.box
 go_wp2_with fail
 refine G9.out.mono ?_
 rintro e w7 ⟨rfl,o4⟩
 have S7:=hideIt (S6.out.past o4)
 clear o4 S6 G9 c0 c1
 obtain ⟨c0,c1,_,_⟩:=two_cells S7.out.box
 obtain ⟨c2,c3,f2,f3⟩:=two_cells S7.out.res
 have SD:=hideIt (S7.out.past ((Only.refl (fun _ => False) w7).drew))
 go_wp2
 go_region_with ((go_at_call 171;refine (trail_win a' z d' _ hs).mono ?_;rintro e w9 ⟨rfl,o9⟩;have S9:=hideIt (SD.out.past o9);obtain ⟨_,_,_,_⟩:=two_cells S9.out.box;obtain ⟨_,_,_,_⟩:=two_cells S9.out.res))
 all_goals
  go_wp2
  obtain ⟨g,r1,r2⟩:=S9.out.fin (.int .i64 a') (.int .i64 d') rfl
  exact bodyPost_ret (results_tct rfl _ _ (w.heap.size + 1) 148 _ (0,0) _ rfl g Tryz.underlying148 rfl Tryz.sizeWin) rfl ⟨_,_,_,rfl,r2⟩
set_option maxHeartbeats 2000000 in
theorem read_new {w : World} {R : Nat} {v : Value} {ys : List Int} {p : Nat} (h : RdAt 176 w R v ys p) (hv : ∀ k,v.ownBlock = some k → k < w.heap.size) (a d : Nat) (a' z d' : Nat) (r : List Bool) (h11 : 11 ≤ r.length) (h5 : a' = bnum (r.take 5)) (h6 : (d' : Int) = (bnum ((r.drop 5).take 6) : Nat) + 1) (hs : a' + z + d' = 64) (hc : 11 + d' ≤ r.length) (hr : (allBits ys).drop p = true :: true :: r) :
  Calls Tryz.prog 182 #[.pointer (some ⟨R,0,none⟩),.agg #[.int .i64 a,.int .i64 d]] w (Good w R v ys (bnum ((r.drop 11).take d') * 2 ^ z) a' d' (r.drop (11 + d'))):=by
 have S0:=hideIt (Rs.start h hv a d)
 have G1:=hideIt (get_at S0.out.rd 1 (by omega) _ hr (by simp))
 rw [b_true] at G1
 have z64 : (z : Int) < 64:=by omega
 have hl11 : (r.drop 11).length = r.length - 11:=List.length_drop
 have hd0 : 0 < d':=by omega
 have hba : bnum (r.take 5) + bnum ((r.drop 5).take 6) ≤ 63:=by omega
 have HBA:=hideIt hba
 have H5:=hideIt h5
 have H6:=hideIt h6
 clear h5 h6 hba
 clear h hr
 go_enter Tryz.func182,Tryz.ntmps182
 go_wp2_with fail
 refine G1.out.mono ?_
 rintro e w1 ⟨rfl,h1,q1,o1⟩
 have S1:=hideIt (S0.out.get h1 o1)
 have Q1:=hideIt q1
 clear h1 o1 S0 G1 q1
 have G2:=hideIt (get_at S1.out.rd 1 (by omega) (true :: r) Q1.out (by simp))
 rw [b_true] at G2
 go_wp2_with fail
 refine G2.out.mono ?_
 rintro e w2 ⟨rfl,h2,q2,o2⟩
 have S2:=hideIt (S1.out.get h2 o2)
 have Q2 : Hid ((allBits ys).drop (p + 1 + 1) = r):=q2
 clear h2 o2 S1 G2 Q1 q2
 have RW:=readWindow_ok S2.out.rd (fun k hk => Nat.lt_of_lt_of_le (S2.out.vb k hk) S2.out.on.size) r Q2.out h11 HBA.out
 rw [← H5.out,← H6.out] at RW
 have RW:=hideIt RW
 go_wp2_with fail
 refine RW.out.mono ?_
 rintro e w3 ⟨rfl,h3,q3,o3⟩
 have S3:=hideIt (S2.out.get h3 o3)
 obtain ⟨c0,c1,f0,f1⟩:=two_cells S3.out.box
 have S5:=hideIt (S3.out.set a' d')
 have Q3:=hideIt q3
 clear o3 h3 q3 S2 RW S3
 go_wp2_with fail
 refine (isNone_no a' d' _ (by omega)).mono ?_
 rintro e w4 ⟨rfl,o4⟩
 have S6:=hideIt (S5.out.past o4)
 clear o4 S5 c0 c1 f0 f1
 have G9:=hideIt (get_at S6.out.rd d' (by omega) _ Q3.out (by omega))
 obtain ⟨c0,c1,_,_⟩:=two_cells S6.out.box
 go_wp2_with fail
 refine G9.out.mono ?_
 rintro e w7 ⟨rfl,h4,q4,o4⟩
 have S7:=hideIt (S6.out.get h4 o4)
 have Q4:=hideIt q4
 clear h4 o4 S6 G9 c0 c1 q4
 have HS:=hideIt (shl_back (z:=z) (bnum_take_lt (r.drop 11) d') (by omega))
 generalize bnum ((r.drop 11).take d') = y at *
 obtain ⟨c0,c1,_,_⟩:=two_cells S7.out.box
 obtain ⟨c2,c3,f2,f3⟩:=two_cells S7.out.res
 have SD:=hideIt (S7.out.past ((Only.refl (fun _ => False) w7).drew))
 go_wp2
 go_region_with ((go_at_call 171;refine (trail_win a' z d' _ hs).mono ?_;rintro e w9 ⟨rfl,o9⟩;have S9:=hideIt (SD.out.past o9);obtain ⟨_,_,_,_⟩:=two_cells S9.out.box;obtain ⟨_,_,_,_⟩:=two_cells S9.out.res))
 all_goals
  go_wp2
  obtain ⟨g,r1,r2⟩:=S9.out.fin (.int .i64 a') (.int .i64 d') rfl
  exact bodyPost_ret (results_tct rfl _ _ (w.heap.size + 1) 148 _ (0,0) _ rfl g Tryz.underlying148 rfl Tryz.sizeWin) rfl ⟨by rw [HS.out];rfl,⟨_,r1,by rw [Q4.out,List.drop_drop]⟩,r2⟩
end Go.Proofs.YthapipgaohlgdaaGreatDoor
