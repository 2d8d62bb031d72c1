/- Several texts in one: Ge, Vw2, Ro, Vi, Ve, Dr. -/
import Derived.Test.YthapipgaohlgdaaGreatDoorG13
import Derived.Laws.Bits64
import Derived.RangeFuncBox
import Derived.RangeFuncNested
import Derived.RangeFuncBound
import Derived.RangeFuncCalls
import Derived.RangeFuncLeaves
import Derived.Shelf.Abstract
import Derived.Shelf.RegionOpen
import Derived.WalkKit
import Derived.OwnWalkIn
import Derived.TacticsInMore
import Derived.LoopNIn
import Derived.LoopIn
import Derived.Test.YthapipgaohlgdaaGreatDoorProg
import Derived.Test.YthapipgaohlgdaaGreatDoorG1
import Derived.Test.YthapipgaohlgdaaGreatDoorG9
import Derived.Test.YthapipgaohlgdaaGreatDoorG12
import Derived.Test.YthapipgaohlgdaaGreatDoorG3


namespace Go.Proofs.YthapipgaohlgdaaGreatDoor
set_option maxRecDepth 100000
open Go.RowKit
def gW : Nat → Option (Nat × Nat) → List Int → Option (Nat × Nat)
 | _,wn,[] => wn
 | p,wn,y :: t => gW y.toNat (gx (p ^^^ y.toNat) wn).2 t
def gL : Nat → List Int → Nat
 | p,[] => p
 | _,y :: t => gL y.toNat t
theorem gE_snoc (l : List Int) (y : Int) : ∀ (p : Nat) (wn : Option (Nat × Nat)),gE p wn (l ++ [y]) = gE p wn l ++ (gx (gL p l ^^^ y.toNat) (gW p wn l)).1 ∧ gW p wn (l ++ [y]) = (gx (gL p l ^^^ y.toNat) (gW p wn l)).2:=by
 induction l with
 | nil => intro p wn;simp [gE,gW,gL]
 | cons z t ih =>
  intro p wn
  obtain ⟨h1,h2⟩:=ih z.toNat (gx (p ^^^ z.toNat) wn).2
  constructor
  ·rw [List.cons_append,gE,h1,gE,gL,gW,List.append_assoc]
  ·rw [List.cons_append,gW,h2,gL,gW]
theorem take_one (t : List Int) (k : Nat) (h : k < t.length) : t.take (k + 1) = t.take k ++ [t.getD k 0]:=by
 rw [List.take_add_one,List.getD_eq_getElem?_getD,List.getElem?_eq_getElem h];rfl
theorem gL_take (t : List Int) : ∀ (x0 : Int) (k : Nat),k ≤ t.length → gL x0.toNat (t.take k) = ((x0 :: t).getD k 0).toNat:=by
 induction t with
 | nil =>
  intro x0 k hk
  obtain rfl : k = 0:=by simpa using hk
  rfl
 | cons y t ih =>
  intro x0 k hk
  cases k with
  | zero => rfl
  | succ k =>
   rw [List.take_succ_cons,gL,ih y k (by simpa using hk)]
   rfl
theorem gE_step (x0 : Int) (t : List Int) (k : Nat) (h : k < t.length) :
  gE x0.toNat none (t.take (k + 1)) = gE x0.toNat none (t.take k) ++ (gx (((x0 :: t).getD k 0).toNat ^^^ (t.getD k 0).toNat) (gW x0.toNat none (t.take k))).1 ∧
  gW x0.toNat none (t.take (k + 1)) = (gx (((x0 :: t).getD k 0).toNat ^^^ (t.getD k 0).toNat) (gW x0.toNat none (t.take k))).2:=by
 rw [take_one t k h,← gL_take t x0 k (by omega)]
 exact gE_snoc _ _ _ _
theorem xor_i {x y : Int} (x0 : 0 ≤ x) (x1 : x ≤ 18446744073709551615) (y0 : 0 ≤ y) (y1 : y ≤ 18446744073709551615) : bits .xor .u64 y x = ((x.toNat ^^^ y.toNat : Nat) : Int):=by
 have:=bits_xor_u64_nat y.toNat x.toNat (by omega) (by omega)
 rw [Int.toNat_of_nonneg x0,Int.toNat_of_nonneg y0] at this
 rw [this,Nat.xor_comm]
theorem cell_in {w : World} {b i : Nat} {v : Value} (h : w.cell? ⟨b,i,none⟩ = some v) : b < w.heap.size:=by
 rcases Nat.lt_or_ge b w.heap.size with e | e
 ·exact e
 ·have e2 : w.heap[b]? = none:=Array.getElem?_eq_none e
  simp [World.cell?,e2] at h
structure Es (w : World) (K : Nat) (wr : World) (vw : Value) (l : List Bool) (wn : Option (Nat × Nat)) (a d : Nat) : Prop where
 be : Below w.heap.size w wr
 wt : WrAt 138 5 wr (w.heap.size + 1) w.heap.size vw l
 nb : ∀ q,vw.ownBlock = some q → q ≠ K
 gt : w.heap.size < K
 box : wr.heap[K]? = some (.cells #[.int .i64 a,.int .i64 d] 148 (0,0))
 wi : W2 wn a d
theorem Es.lt {w : World} {K : Nat} {wr : World} {vw : Value} {l : List Bool} {wn : Option (Nat × Nat)} {a d : Nat} (h : Es w K wr vw l wn a d) : K < wr.heap.size:=by
 rcases Nat.lt_or_ge K wr.heap.size with e | e
 ·exact e
 ·have:=h.box
  rw [Array.getElem?_eq_none e] at this
  cases this
theorem Es.drew {w : World} {K : Nat} {wr : World} {vw : Value} {l : List Bool} {wn : Option (Nat × Nat)} {a d : Nat} (h : Es w K wr vw l wn a d) : Es w K wr.drew vw l wn a d :=
 ⟨h.be.drew,h.wt.keep ((Only.refl (fun _ => False) wr).drew) (fun f => f) (fun _ _ f => f),h.nb,h.gt,h.box,h.wi⟩
theorem Es.off {w : World} {K : Nat} {wr : World} {vw : Value} {l : List Bool} {wn : Option (Nat × Nat)} {a d : Nat} (h : Es w K wr vw l wn a d) (f : Foot w.heap.size vw K) : False:=by
 rcases f with e | e
 ·have:=h.gt;omega
 ·exact h.nb _ e rfl
theorem Es.next {w : World} {K : Nat} {wr w2 : World} {vw v2 : Value} {l l2 : List Bool} {wn wn2 : Option (Nat × Nat)} {a d a2 d2 : Nat} (h : Es w K wr vw l wn a d)
  (h2 : WrAt 138 5 w2 (w.heap.size + 1) w.heap.size v2 l2) (o : Only (Foot w.heap.size vw) wr w2) (s : Stays wr vw v2) (hw : W2 wn2 a2 d2) :
  Es w K ((w2.setCell ⟨K,0,none⟩ (.int .i64 a2)).setCell ⟨K,1,none⟩ (.int .i64 d2)) v2 l2 wn2 a2 d2:=by
 have hnb : ∀ q,v2.ownBlock = some q → q ≠ K:=fun q hq => by
  rcases s with e | e
  ·rw [e] at hq;exact h.nb q hq
  ·have:=e q hq;have:=h.lt;omega
 have hbox:=o.heap h.box (fun f => by
  rcases f with e | e
  ·have:=h.gt;omega
  ·exact h.nb _ e rfl)
 have hg:=h.gt
 refine ⟨?_,h2.keep (setCell2_only (S:=fun k => k = K) _ _ rfl) (fun f => by omega) (fun k hk f => hnb k hk f),hnb,h.gt,setCell2_heap _ _ hbox,hw⟩
 exact (h.be.trans (o.below (B:=w.heap.size) h.be.size (h.wt.foot_ge (Nat.le_refl _)))).trans ((setCell2_only (S:=fun k => k = K) (.int .i64 a2) (.int .i64 d2) rfl).below (B:=w.heap.size) (Nat.le_trans h.be.size o.size) (fun k e => by omega))
set_option maxHeartbeats 400000 in
theorem encode9_long (v : Value) (xs : List Int) (w : World) (h : Bs .u64 w v xs) (hl : 65536 < xs.length) :
  Calls Tryz.prog 108 #[v] w fun e w' => e = .returned (.tuple #[.slice none 0 0,.int .i64 4]) ∧ w = w':=by
 obtain ⟨ao,cap,rfl⟩:=h.len
 clear h
 have d0 : decide (65536 < (xs.length : Int)) = true:=by simp;omega
 generalize xs.length = m at *
 clear hl
 go_enter Tryz.func108,Tryz.ntmps108
 go_wp2
 go_ret2
 exact ⟨rfl,rfl⟩
set_option maxHeartbeats 400000 in
theorem encode9_nil (v : Value) (w : World) (h : Bs .u64 w v []) :
  Calls Tryz.prog 108 #[v] w fun e w' => e = .returned (.tuple #[.slice none 0 0,.int .i64 0]) ∧ w = w':=by
 obtain ⟨ao,cap,rfl⟩:=h.len
 clear h
 go_enter Tryz.func108,Tryz.ntmps108
 go_wp2
 go_ret2
 exact ⟨rfl,rfl⟩
set_option maxHeartbeats 4000000 in
theorem encode9_cons (v : Value) (x0 : Int) (t : List Int) (w : World) (h : Bs .u64 w v (x0 :: t)) (hu : U64 (x0 :: t)) (hl : (x0 :: t).length ≤ 65536) (hT : Tab w) :
  Calls Tryz.prog 108 #[v] w fun e w' => ∃ v',e = .returned (.tuple #[v',.int .i64 0]) ∧ w'.ownsRow w.heap.size 5 1 v' (bytesI (GB (x0 :: t))).length ((bytesI (GB (x0 :: t))).map (Value.int .u8)) ∧ Only (fun _ => False) w w':=by
 obtain ⟨b,off,cap,rfl,c0⟩:=h.at 0 (by simp)
 have HB:=hideIt h
 have HU:=hideIt hu
 obtain ⟨u0,u1⟩:=hu x0 List.mem_cons_self
 simp only [List.getD_cons_zero,Nat.add_zero] at c0
 have hbw:=cell_in c0
 obtain ⟨m,hm⟩ : ∃ m,m = t.length:=⟨_,rfl⟩
 have HM:=hideIt hm
 have hlen : (x0 :: t).length = m + 1:=by rw [hm];rfl
 rw [hlen] at HB hl
 rw [hlen]
 have hcap : m + 1 ≤ cap:=by
  obtain ⟨ao,cap',e,hc,_⟩:=h
  simp only [Value.slice.injEq] at e
  omega
 obtain ⟨n,hn⟩ : ∃ n,n = m + 1:=⟨_,rfl⟩
 rw [← hn] at HB hl hcap
 rw [← hn]
 have n0 : 0 < n:=by omega
 have HN:=hideIt hn
 obtain ⟨G,hG⟩ : ∃ G,G = bytesI (GB (x0 :: t)):=⟨_,rfl⟩
 rw [← hG]
 have HG:=hideIt hG
 have d0 : decide (65536 < (n : Int)) = false:=by simp;omega
 have d1 : ((n : Int) == 0) = false:=by rw [beq_eq_false_iff_ne];omega
 have x64 : (wid x0.toNat : Int) ≤ 64:=by have:=wid_le64 x0.toNat (by omega);omega
 have W0:=hideIt (WrAt.new (T:=138) (E:=5) w)
 have P0:=hideIt (put_wr W0.out x0 64 (by omega) (by omega) u0 u1 x64 (by simp))
 have HB0 : Hid (Below w.heap.size w (w.alloc (.cells #[.slice none 0 0,.int .i64 0] 138))):=(Below.refl _ _).alloc (Nat.le_refl _) _
 clear h hu hm hlen hG hn
 go_enter Tryz.func108,Tryz.ntmps108
 go_wp2_with fail
 refine P0.out.mono ?_
 rintro e w1 ⟨rfl,v1,h1,o1,s1⟩
 have hb64 : ([] : List Bool) ++ bitsOf x0.toNat (Int.toNat 64) = bitsOf x0.toNat 64 ++ gE x0.toNat none (t.take 0):=by simp [gE]
 rw [hb64] at h1
 have B1:=hideIt (HB0.out.trans (o1.below (B:=w.heap.size) HB0.out.size (W0.out.foot_ge (Nat.le_refl _))))
 have S1 : Hid (Es w w1.heap.size (w1.alloc (.cells #[.int .i64 0,.int .i64 0] 148)) v1 (bitsOf x0.toNat 64 ++ gE x0.toNat none (t.take 0)) (gW x0.toNat none (t.take 0)) 0 0) :=
  ⟨B1.out.alloc B1.out.size _,h1.keep ((Only.refl (fun _ => False) w1).alloc _) (fun f => f) (fun _ _ f => f),fun q hq => by have:=(h1.own.lt q hq).2;omega,h1.lt_size,heap_alloc_last _ _,W2.none⟩
 have hKw : Hid (w.heap.size < w1.heap.size):=h1.lt_size
 clear h1 o1 s1 P0 W0 HB0 hb64
 have e1 : n - 1 = m:=by have:=HN.out;omega
 have HV : Hid (∀ k,k < m → w.cell? ⟨b,off + 1 + k,none⟩ = some (.int .u64 (t.getD k 0)) ∧ w.cell? ⟨b,off + k,none⟩ = some (.int .u64 ((x0 :: t).getD k 0))):=by
  intro k hk
  obtain ⟨ao,cap',e,_,hc0⟩:=HB.out
  obtain ⟨b',off',rfl,hc⟩:=hc0 (List.cons_ne_nil _ _)
  clear hc0
  simp only [Value.slice.injEq,Option.some.injEq,Addr.mk.injEq,and_true] at e
  obtain ⟨⟨rfl,rfl⟩,_,rfl⟩:=e
  have hm:=HM.out
  have:=hc (k + 1) (by simp;omega)
  rw [List.getD_cons_succ] at this
  refine ⟨?_,hc k (by simp;omega)⟩
  rw [show off + 1 + k = off + (k + 1) by omega]
  exact this
 clear B1 c0
 go_wp2
 case inl =>
  obtain rfl : m = 0:=by have:=HN.out;omega
  go_loopw [22] (fun i wr => ∃ k : Nat,k ≤ 0 ∧ i = .int .i64 k ∧ ∃ vw a d,Es w w1.heap.size wr vw (bitsOf x0.toNat 64 ++ gE x0.toNat none (t.take k)) (gW x0.toNat none (t.take k)) a d) (fun i _ => 0 - (intOf i).toNat)
  case atStart => exact ⟨0,Nat.zero_le _,rfl,v1,0,0,S1.out⟩
  case round =>
   clear S1
   obtain ⟨k,hk,rfl,vw,a,d,hes⟩:=hrel
   obtain rfl : k = 0:=by omega
   have hkm : (0 : Nat) = 0:=rfl
   have HE:=hideIt hes
   have hlq : (bitsOf x0.toNat 64 ++ gE x0.toNat none (t.take 0)).length ≤ 1000000000000:=by
    have:=(gE_len (t.take 0) x0.toNat none).1
    rw [List.length_append,bitsOf_length]
    rw [List.length_take] at this
    omega
   have BY:=hideIt (bytes_wr hes.wt hlq)
   have hbits : Hid (bytesI (bitsOf x0.toNat 64 ++ gE x0.toNat none (t.take 0)) = G):=by
    simp only [Hid];rw [HG.out,hkm,HM.out,List.take_length];rfl
   rw [hbits.out] at BY
   clear hes hlq
   go_wp2_with fail
   refine BY.out.mono ?_
   rintro e w4 ⟨v4,rfl,own4,on4⟩
   have OW:=hideIt (own_low own4 HE.out.be.size)
   have ON:=hideIt ((only_of_below HE.out.be).same on4)
   clear BY own4 on4
   go_wp2
   go_ret2
   exact ⟨v4,rfl,OW.out,ON.out⟩
 case inr =>
  go_loopw [22] (fun i wr => ∃ k : Nat,k ≤ m ∧ i = .int .i64 k ∧ ∃ vw a d,Es w w1.heap.size wr vw (bitsOf x0.toNat 64 ++ gE x0.toNat none (t.take k)) (gW x0.toNat none (t.take k)) a d) (fun i _ => m - (intOf i).toNat)
  case atStart => exact ⟨0,Nat.zero_le _,rfl,v1,0,0,S1.out⟩
  case round =>
   clear S1
   obtain ⟨k,hk,rfl,vw,a,d,hes⟩:=hrel
   by_cases hlt : k < m
   ·obtain ⟨q1,q2⟩:=HV.out k hlt
    have c1:=(hes.be.cell (p:=⟨b,off + 1 + k,none⟩) hbw).trans q1
    have c2:=(hes.be.drew.cell (p:=⟨b,off + k,none⟩) hbw).trans q2
    have HE:=hideIt hes.drew
    obtain ⟨b0,b1,_,_⟩:=two_cells hes.drew.box
    obtain ⟨s1,s2⟩:=gE_step x0 t k (by rw [← HM.out];exact hlt)
    have G1:=hideIt s1
    have G2:=hideIt s2
    have hmem : ∀ j,j < (x0 :: t).length → 0 ≤ (x0 :: t).getD j 0 ∧ (x0 :: t).getD j 0 ≤ 18446744073709551615:=fun j hj => HU.out _ (by rw [List.getD_eq_getElem?_getD,List.getElem?_eq_getElem hj];simp)
    have hmt:=HM.out
    obtain ⟨p0,p1⟩:=hmem k (by simp;omega)
    obtain ⟨y0,y1⟩:=hmem (k + 1) (by simp;omega)
    rw [List.getD_cons_succ] at y0 y1
    have hlq : (bitsOf x0.toNat 64 ++ gE x0.toNat none (t.take k)).length ≤ 100000000:=by
     have:=(gE_len (t.take k) x0.toNat none).1
     rw [List.length_append,bitsOf_length]
     rw [List.length_take] at this
     omega
    have HT:=hideIt (hT.below hes.be.drew hT.pos)
    have hxx:=xor_i p0 p1 y0 y1
    have hxl:=xor_lt (a:=((x0 :: t).getD k 0).toNat) (b:=(t.getD k 0).toNat) (by omega) (by omega)
    generalize (x0 :: t).getD k 0 = p at *
    generalize t.getD k 0 = y at *
    have WR:=hideIt (write_any HE.out.wt (p.toNat ^^^ y.toNat) _ a d HE.out.wi hlq hxl HT.out hT.pos)
    rw [← hxx] at WR
    have WL:=hideIt HE.out.wi.le
    clear hmem hmt s1 s2 hlq hxx hxl hes q1 q2
    have dlt : decide ((k : Int) < (m : Int)) = true:=by simp;omega
    have i0 : (k : Int) < (n : Int):=by have:=HN.out;omega
    go_wp2
    go_region_with ((go_at_call 148;refine WR.out.mono ?_;rintro e w2 ⟨a2,d2,rfl,wi2,v2,h2,o2,s2⟩;have E2:=hideIt (HE.out.next h2 o2 s2 wi2);have g2:=two_cells (o2.heap HE.out.box (fun f => HE.out.off f));obtain ⟨_,_,_,_⟩:=g2))
    all_goals
     have hL : Hid (bitsOf x0.toNat 64 ++ gE x0.toNat none (t.take k) ++ (gx (p.toNat ^^^ y.toNat) (gW x0.toNat none (t.take k))).1 = bitsOf x0.toNat 64 ++ gE x0.toNat none (t.take (k + 1))):=by
      simp only [Hid];rw [G1.out,List.append_assoc]
     rw [hL.out,← G2.out] at E2
     clear WR wi2 h2 o2 s2
     go_wp2
     go_roundw
     case rel => exact ⟨k + 1,by omega,by simp,v2,a2,d2,E2.out⟩
     case measure => simp [intOf];omega
   ·obtain rfl : k = m:=by omega
    have hkm : k = k:=rfl
    have dlt : decide ((k : Int) < (k : Int)) = false:=by simp
    have HE:=hideIt hes
    have hlq : (bitsOf x0.toNat 64 ++ gE x0.toNat none (t.take k)).length ≤ 1000000000000:=by
     have:=(gE_len (t.take k) x0.toNat none).1
     rw [List.length_append,bitsOf_length]
     rw [List.length_take] at this
     omega
    have BY:=hideIt (bytes_wr hes.wt hlq)
    have hbits : Hid (bytesI (bitsOf x0.toNat 64 ++ gE x0.toNat none (t.take k)) = G):=by
     simp only [Hid];rw [HG.out,hkm,HM.out,List.take_length];rfl
    rw [hbits.out] at BY
    clear hes hlq
    go_wp2_with fail
    refine BY.out.mono ?_
    rintro e w4 ⟨v4,rfl,own4,on4⟩
    have OW:=hideIt (own_low own4 HE.out.be.size)
    have ON:=hideIt ((only_of_below HE.out.be).same on4)
    clear BY own4 on4
    go_wp2
    go_ret2
    exact ⟨v4,rfl,OW.out,ON.out⟩
theorem encode9_all (v : Value) (xs : List Int) (w : World) (h : Bs .u64 w v xs) (hu : U64 xs) (hT : Tab w) :
  Calls Tryz.prog 108 #[v] w fun e w' => ∃ v',e = .returned (.tuple #[v',.int .i64 (ENC9 xs).2]) ∧ w'.ownsRow w.heap.size 5 1 v' (ENC9 xs).1.length ((ENC9 xs).1.map (Value.int .u8)) ∧ Only (fun _ => False) w w':=by
 by_cases hl : 65536 < xs.length
 ·have e : ENC9 xs = ([],4):=if_pos hl
  rw [e]
  refine (encode9_long v xs w h hl).mono ?_
  rintro e w' ⟨rfl,rfl⟩
  exact ⟨_,rfl,World.ownsRow_nil _ _ _ _,Only.refl _ _⟩
 ·rw [ENC9_of (by omega)]
  cases xs with
  | nil =>
   refine (encode9_nil v w h).mono ?_
   rintro e w' ⟨rfl,rfl⟩
   exact ⟨_,rfl,World.ownsRow_nil _ _ _ _,Only.refl _ _⟩
  | cons x0 t => exact encode9_cons v x0 t w h hu (by omega) hT
end Go.Proofs.YthapipgaohlgdaaGreatDoor


namespace Go.Proofs.YthapipgaohlgdaaGreatDoor
set_option maxRecDepth 100000
open Go.RowKit
set_option maxHeartbeats 400000 in
theorem vway_arg (v : Value) (tag : Int) (w : World) (h : tag < 0 ∨ 3 < tag) : Calls Tryz.prog 72 #[v,.int .i64 tag] w fun e w' => e = .returned (.tuple #[.slice none 0 0,.int .i64 1]) ∧ w = w':=by
 have A:=hideIt (vtag_no tag w h)
 clear h
 go_enter Tryz.func72,Tryz.ntmps72
 go_wp2_with fail
 refine A.out.mono ?_
 rintro e w1 ⟨rfl,rfl⟩
 go_wp2
 go_ret2
 exact ⟨rfl,rfl⟩
set_option maxHeartbeats 400000 in
theorem vway_long (v : Value) (l : List Int) (tag : Int) (w : World) (h : Bs .u64 w v l) (h0 : 0 ≤ tag) (h3 : tag ≤ 3) (hl : 65536 < l.length) : Calls Tryz.prog 72 #[v,.int .i64 tag] w fun e w' => e = .returned (.tuple #[.slice none 0 0,.int .i64 4]) ∧ w = w':=by
 have A:=hideIt (vtag_yes tag w h0 h3)
 obtain ⟨ao,cap,rfl⟩:=h.len
 have d1 : decide ((65536 : Int) < (l.length : Int)) = true:=decide_eq_true (by omega)
 have d1' : decide (65536 < l.length) = true:=decide_eq_true hl
 clear h h0 h3 hl
 go_enter Tryz.func72,Tryz.ntmps72
 go_wp2_with fail
 refine A.out.mono ?_
 rintro e w1 ⟨rfl,rfl⟩
 go_wp2
 go_ret2
 exact ⟨rfl,rfl⟩
set_option maxHeartbeats 800000 in
theorem vway_0 (v : Value) (l : List Int) (w : World) (h : Bs .u64 w v l) (hl : l.length ≤ 65536) :
  Calls Tryz.prog 72 #[v,.int .i64 0] w fun e w' => ∃ u,e = .returned (.tuple #[u,.int .i64 0]) ∧ w'.ownsRow w.heap.size 5 1 u (fx8 l).length ((fx8 l).map (Value.int .u8)) ∧ Only (fun _ => False) w w':=by
 have A:=hideIt (vtag_yes 0 w (by omega) (by omega))
 have F:=hideIt (vfixed_any v l w h hl)
 obtain ⟨ao,cap,rfl⟩:=h.len
 have d1 : decide ((65536 : Int) < (l.length : Int)) = false:=decide_eq_false (by omega)
 have d1' : decide (65536 < l.length) = false:=decide_eq_false (by omega)
 clear h hl
 go_enter Tryz.func72,Tryz.ntmps72
 go_wp2_with fail
 refine A.out.mono ?_
 rintro e w1 ⟨rfl,rfl⟩
 clear A
 go_wp2_with fail
 refine F.out.mono ?_
 rintro e w2 ⟨u,rfl,own2,o2⟩
 have R:=hideIt (And.intro own2 o2)
 clear own2 o2 F
 go_wp2
 go_ret2
 exact ⟨u,rfl,R.out.1,R.out.2⟩
set_option maxHeartbeats 800000 in
theorem vway_1no (v : Value) (l : List Int) (w : World) (h : Bs .u64 w v l) (hl : l.length ≤ 65536) (hs : l = [] ∨ ¬ allSame l) :
  Calls Tryz.prog 72 #[v,.int .i64 1] w fun e w' => e = .returned (.tuple #[.slice none 0 0,.int .i64 1]) ∧ w = w':=by
 have A:=hideIt (vtag_yes 1 w (by omega) (by omega))
 have F:=areSame_bs v l w h hl
 rw [show decide (¬ (l = [] ∨ ¬ allSame l)) = false from decide_eq_false (fun c => c hs)] at F
 have F:=hideIt F
 obtain ⟨ao,cap,rfl⟩:=h.len
 have d1 : decide ((65536 : Int) < (l.length : Int)) = false:=decide_eq_false (by omega)
 have d1' : decide (65536 < l.length) = false:=decide_eq_false (by omega)
 clear h hl hs
 go_enter Tryz.func72,Tryz.ntmps72
 go_wp2_with fail
 refine A.out.mono ?_
 rintro e w1 ⟨rfl,rfl⟩
 clear A
 go_wp2_with fail
 refine F.out.mono ?_
 rintro e w2 ⟨rfl,rfl⟩
 clear F
 go_wp2
 go_ret2
 exact ⟨rfl,rfl⟩
set_option maxHeartbeats 800000 in
theorem vway_1 (v : Value) (l : List Int) (w : World) (h : Bs .u64 w v l) (hl : l.length ≤ 65536) (hs : ¬ (l = [] ∨ ¬ allSame l)) :
  Calls Tryz.prog 72 #[v,.int .i64 1] w fun e w' => ∃ u,e = .returned (.tuple #[u,.int .i64 0]) ∧ w'.ownsRow w.heap.size 5 1 u (fixL (l.getD 0 0) 8).length ((fixL (l.getD 0 0) 8).map (Value.int .u8)) ∧ Only (fun _ => False) w w':=by
 have A:=hideIt (vtag_yes 1 w (by omega) (by omega))
 have F:=areSame_bs v l w h hl
 rw [show decide (¬ (l = [] ∨ ¬ allSame l)) = true from decide_eq_true hs] at F
 have F:=hideIt F
 have hne : l ≠ []:=fun e => hs (.inl e)
 have hp : 0 < l.length:=List.length_pos_iff.2 hne
 have e1 : fx8 (l.take 1) = fixL (l.getD 0 0) 8:=by
  cases l with
  | nil => exact absurd rfl hne
  | cons y t => simp [fx8]
 have hcap : ∃ ao cap,v = .slice ao l.length cap ∧ l.length ≤ cap:=by obtain ⟨ao,cap,e,hc,_⟩:=h;exact ⟨ao,cap,e,hc⟩
 obtain ⟨ao,cap,rfl,hc⟩:=hcap
 have X:=vfixed_any _ (l.take 1) w (h.head (n:=1) (by omega)) (by rw [List.length_take];omega)
 rw [e1] at X
 have X:=hideIt X
 have d1 : decide ((65536 : Int) < (l.length : Int)) = false:=decide_eq_false (by omega)
 have d1' : decide (65536 < l.length) = false:=decide_eq_false (by omega)
 have b1 : (1 : Int) ≤ (cap : Int):=by omega
 have b2 : 1 ≤ cap:=by omega
 generalize fixL (l.getD 0 0) 8 = G at *
 generalize l.length = n at *
 clear h hl hs hne hp e1 hc
 go_enter Tryz.func72,Tryz.ntmps72
 go_wp2_with fail
 refine A.out.mono ?_
 rintro e w1 ⟨rfl,rfl⟩
 clear A
 go_wp2_with fail
 refine F.out.mono ?_
 rintro e w2 ⟨rfl,rfl⟩
 clear F
 go_wp2_with fail
 refine X.out.mono ?_
 rintro e w2 ⟨u,rfl,own2,o2⟩
 have R:=hideIt (And.intro own2 o2)
 clear own2 o2 X
 go_wp2
 go_ret2
 exact ⟨u,rfl,R.out.1,R.out.2⟩
set_option maxHeartbeats 800000 in
theorem vway_2 (v : Value) (l : List Int) (w : World) (h : Bs .u64 w v l) (hu : U64 l) (hl : l.length ≤ 65536) :
  Calls Tryz.prog 72 #[v,.int .i64 2] w fun e w' => ∃ u,e = .returned (.tuple #[u,.int .i64 (ENC10 l).2]) ∧ w'.ownsRow w.heap.size 5 1 u (ENC10 l).1.length ((ENC10 l).1.map (Value.int .u8)) ∧ Only (fun _ => False) w w':=by
 have A:=hideIt (vtag_yes 2 w (by omega) (by omega))
 have F:=hideIt (encode10_all v l w h hu)
 obtain ⟨ao,cap,rfl⟩:=h.len
 have d1 : decide ((65536 : Int) < (l.length : Int)) = false:=decide_eq_false (by omega)
 have d1' : decide (65536 < l.length) = false:=decide_eq_false (by omega)
 generalize ENC10 l = E at *
 obtain ⟨E1,E2⟩:=E
 simp only at F ⊢
 clear h hl hu
 go_enter Tryz.func72,Tryz.ntmps72
 go_wp2_with fail
 refine A.out.mono ?_
 rintro e w1 ⟨rfl,rfl⟩
 clear A
 go_wp2_with fail
 refine F.out.mono ?_
 rintro e w2 ⟨u,rfl,own2,o2⟩
 have R:=hideIt (And.intro own2 o2)
 clear own2 o2 F
 go_wp2
 go_ret2
 exact ⟨u,rfl,R.out.1,R.out.2⟩
set_option maxHeartbeats 800000 in
theorem vway_3 (v : Value) (l : List Int) (w : World) (h : Bs .u64 w v l) (hu : U64 l) (hl : l.length ≤ 65536) (hT : Tab w) :
  Calls Tryz.prog 72 #[v,.int .i64 3] w fun e w' => ∃ u,e = .returned (.tuple #[u,.int .i64 (ENC9 l).2]) ∧ w'.ownsRow w.heap.size 5 1 u (ENC9 l).1.length ((ENC9 l).1.map (Value.int .u8)) ∧ Only (fun _ => False) w w':=by
 have A:=hideIt (vtag_yes 3 w (by omega) (by omega))
 have F:=hideIt (encode9_all v l w h hu hT)
 obtain ⟨ao,cap,rfl⟩:=h.len
 have d1 : decide ((65536 : Int) < (l.length : Int)) = false:=decide_eq_false (by omega)
 have d1' : decide (65536 < l.length) = false:=decide_eq_false (by omega)
 generalize ENC9 l = E at *
 obtain ⟨E1,E2⟩:=E
 simp only at F ⊢
 clear h hl hu hT
 go_enter Tryz.func72,Tryz.ntmps72
 go_wp2_with fail
 refine A.out.mono ?_
 rintro e w1 ⟨rfl,rfl⟩
 clear A
 go_wp2_with fail
 refine F.out.mono ?_
 rintro e w2 ⟨u,rfl,own2,o2⟩
 have R:=hideIt (And.intro own2 o2)
 clear own2 o2 F
 go_wp2
 go_ret2
 exact ⟨u,rfl,R.out.1,R.out.2⟩
theorem way11_any (v : Value) (l : List Int) (tag : Int) (w : World) (h : Bs .u64 w v l) (hu : U64 l) (hT : Tab w) :
  Calls Tryz.prog 72 #[v,.int .i64 tag] w fun e w' => ∃ u,e = .returned (.tuple #[u,.int .i64 (WAY11 l tag).2]) ∧ w'.ownsRow w.heap.size 5 1 u (WAY11 l tag).1.length ((WAY11 l tag).1.map (Value.int .u8)) ∧ Only (fun _ => False) w w':=by
 unfold WAY11
 by_cases ht : tag < 0 ∨ 3 < tag
 ·rw [if_pos ht]
  refine (vway_arg v tag w ht).mono ?_
  rintro e w' ⟨rfl,rfl⟩
  exact ⟨_,rfl,World.ownsRow_nil _ _ _ _,Only.refl _ _⟩
 ·rw [if_neg ht]
  by_cases hl : 65536 < l.length
  ·rw [if_pos hl]
   refine (vway_long v l tag w h (by omega) (by omega) hl).mono ?_
   rintro e w' ⟨rfl,rfl⟩
   exact ⟨_,rfl,World.ownsRow_nil _ _ _ _,Only.refl _ _⟩
  ·rw [if_neg hl]
   obtain ⟨t,rfl⟩:=Int.eq_ofNat_of_zero_le (show 0 ≤ tag by omega)
   rw [Int.toNat_natCast]
   rcases tag_cases (t:=t) (by omega) with rfl | rfl | rfl | rfl
   ·rw [W11_0];exact vway_0 v l w h (by omega)
   ·rw [W11_1]
    by_cases hs : l = [] ∨ ¬ allSame l
    ·rw [if_pos hs]
     refine (vway_1no v l w h (by omega) hs).mono ?_
     rintro e w' ⟨rfl,rfl⟩
     exact ⟨_,rfl,World.ownsRow_nil _ _ _ _,Only.refl _ _⟩
    ·rw [if_neg hs];exact vway_1 v l w h (by omega) hs
   ·rw [W11_2];exact vway_2 v l w h hu (by omega)
   ·rw [W11_3];exact vway_3 v l w h hu (by omega) hT
theorem way11_nat (v : Value) (l : List Int) (t : Nat) (w : World) (h : Bs .u64 w v l) (hu : U64 l) (hT : Tab w) (hl : l.length ≤ 65536) (ht : t ≤ 3) :
  Calls Tryz.prog 72 #[v,.int .i64 t] w fun e w' => ∃ u,e = .returned (.tuple #[u,.int .i64 (W11 l t).2]) ∧ w'.ownsRow w.heap.size 5 1 u (W11 l t).1.length ((W11 l t).1.map (Value.int .u8)) ∧ Only (fun _ => False) w w':=by
 have:=way11_any v l t w h hu hT
 rw [WAY11_nat hl t ht] at this
 exact this
end Go.Proofs.YthapipgaohlgdaaGreatDoor


namespace Go.Proofs.YthapipgaohlgdaaGreatDoor
open Go.RowKit Go.Shelf
theorem Only.putObj {S : Nat → Prop} {a b : World} (h : Only S a b) (l : Nat) (o : Obj) (hl : l < a.heap.size → S l) : Only S a (b.putObj l o) :=
 h.grown (grownBy_putObj' b l o) (fun k hk e => by cases e;exact hl hk)
theorem Bs.loop {k : IntKind} {A B : World} {v : Value} {xs : List Int} (h : Bs k A v xs) {l : Nat} {r : Loop} (hl : A.heap[l]? = some (.loop r)) (o : Only (fun j => j = l) A B) : Bs k B v xs:=by
 obtain ⟨ao,cap,rfl,hc,hr⟩:=h
 refine ⟨ao,cap,rfl,hc,fun hx => ?_⟩
 obtain ⟨b,off,rfl,hcell⟩:=hr hx
 refine ⟨b,off,rfl,fun j hj => ?_⟩
 have h0:=hcell j hj
 rw [← h0]
 refine World.cell?_of_block (o.block b (World.block_lt_of_cell? A _ h0) ?_)
 intro e
 subst e
 obtain ⟨o',ho',hc'⟩:=cells_of_cell h0
 rw [hl] at ho';cases ho';cases hc'
theorem box_keep {A B : World} {b : Nat} {t : TypeId} {v : Value} (h : Boxed A b t v) {S : Nat → Prop} (o : Only S A B) (hs : ¬ S b) : Boxed B b t v:=o.heap h hs
def goesOn {σ : Type} (B : Nat) (I : σ → World → Prop) (s : σ) (W : World) : Exit → Act → World → Prop
 | .normal,_,W' => Only (fun k => k < B) W W' ∧ I s W'
 | _,_,_ => False
theorem range_over {σ α : Type} {P : Program} {n : Nat} {g : Operand} {ps : Array Tmp} {assign body : Code} {Q : Exit → Act → World → Prop} {a : Act} {w : World}
  {gf : Nat} {lb : Array Value} (hg : a.eval g = .func (.func gf) #[] lb) (eg : ∀ args w,(callFunc gf args).run P w = .ok (.enter gf args) w)
  (encs : α → Array Value) (hps : ∀ x,(encs x).size = ps.size) (I : σ → World → Prop) (V : σ → α → σ → World → Prop) (s0 s1 : σ)
  (hI : ∀ s A B r,I s A → A.heap[w.heap.size + 1]? = some (.loop r) → Only (fun k => k = w.heap.size + 1) A B → I s B)
  (hIn : ∀ s A B,I s A → Only (fun _ => False) A B → I s B)
  (hV : ∀ s x s' A B r,V s x s' A → A.heap[w.heap.size + 1]? = some (.loop r) → Only (fun k => k = w.heap.size + 1) A B → V s x s' B)
  (h0 : I s0 w)
  (hit : ∀ (J : σ → World → Prop) (W : World),(∀ s A,J s A → I s A) → (∀ s A B,J s A → Only (fun _ => False) A B → J s B) → (∀ s s' A,J s A → I s' A → J s' A) →
   (∀ s x s' A,J s A → V s x s' A → YieldAt Fence.wide (n - 1 - 1) P (w.heap.size + 1) (encs x) A fun e B => e = .returned (.bool true) ∧ J s' B) → J s0 W →
   CallsIn Fence.wide (n - 1) P gf (#[.func (.yield (w.heap.size + 1)) #[] #[]] ++ lb) W fun e B => (∃ v,e = .returned v) ∧ J s1 B)
  (a₁ : α → Act)
  (hassign : ∀ (x : α) (W : World) (K : Act → World → Prop),K (a₁ x) W →
   assign.wpIn (Fence.wide.inRound (w.heap.size + 1)) (n - 1 - 1) P (Exit.then K (fun _ _ _ => False)) { tmps:=(ps.zip (encs x)).foldl (fun t (p,v) => t.setIfInBounds p v) a.tmps,defers:=[] } W)
  (hbody : ∀ (s : σ) (x : α) (s' : σ) (W : World),I s W → V s x s' W → body.wpIn (Fence.wide.inRound (w.heap.size + 1)) (n - 1 - 1) P (goesOn w.heap.size I s' W) (a₁ x) W)
  (hdone : ∀ (W : World),I s1 W → W.heap[w.heap.size]? = some (.deferred (some [])) → Q .normal { a with defers:={ target:=.collected w.heap.size,args:=#[] } :: a.defers } W) :
  (Code.rangeFunc g ps assign body).wpIn Fence.wide n P Q a w:=by
 refine wpIn_rangeFunc fun fn hfn => ?_
 obtain ⟨rc,hrc⟩ : ∃ rc : LoopState → Option Code → Loop,rc = fun st pe => { state:=st,pending:=pe,fn,tmps:=a.tmps,params:=ps,assign,body,defers:=w.heap.size }:=⟨_,rfl⟩
 obtain ⟨W1,hW1⟩ : ∃ W1,(w.alloc (.deferred (some []))).alloc (.loop (rc .ready none)) = W1:=⟨_,rfl⟩
 have hL : W1.heap[w.heap.size + 1]? = some (.loop (rc .ready none)):=by
  have:=World.alloc_heap_new (w.alloc (.deferred (some []))) (.loop (rc .ready none))
  rw [World.size_alloc,hW1] at this
  exact this
 have hD : W1.heap[w.heap.size]? = some (.deferred (some [])):=by
  rw [← hW1]
  exact (Below.heap_alloc _ _ _ (by simp)).trans (World.alloc_heap_new w _)
 have hO : Only (fun _ => False) w W1:=by
  rw [← hW1]
  exact ((Only.refl _ w).alloc _).alloc _
 refine ⟨w.heap.size + 1,[{ target:=.collected w.heap.size,args:=#[] }],W1,{ target:=.fn (.func gf) lb,args:=#[.func (.yield (w.heap.size + 1)) #[] #[]] },W1,gf,#[.func (.yield (w.heap.size + 1)) #[] #[]] ++ lb,W1,?_,?_,fun _ _ => trivial,?_,(fun h => by cases h),?_⟩
 ·rw [← hW1,hrc]
  exact run_enterLoop_outer _ _ _ _ _
 ·simp only [resolve,hg]
  simp [go_sem]
 ·simp [invoke,go_sem,eg]
 refine (hit (fun s W => I s W ∧ W.heap[w.heap.size + 1]? = some (.loop (rc .ready none)) ∧ W.heap[w.heap.size]? = some (.deferred (some []))) W1 (fun _ _ h => h.1)
  (fun s A B h o => ⟨hIn s A B h.1 o,o.heap h.2.1 (fun f => f),o.heap h.2.2 (fun f => f)⟩) (fun _ _ _ h i => ⟨i,h.2⟩) ?_ ⟨hIn _ _ _ h0 hO,hL,hD⟩).mono ?_
 ·rintro s x s' A ⟨hi,hl,hd⟩ hv
  have hlt : w.heap.size + 1 < A.heap.size:=(Array.getElem?_eq_some_iff.1 hl).1
  have hy:=run_yield (P:=P) (args:=encs x) hl (by rw [hrc];exact hps x)
  rw [hrc] at hy
  refine ⟨fn,_,assign,body,hy,roundIn_of_wpIn hfn (hassign x A _ ⟨_,run_beginRound hl (by rw [hrc]),?_⟩)⟩
  obtain ⟨A2,hA2⟩ : ∃ A2,A.putObj (w.heap.size + 1) (.loop { rc .ready none with state:=.busy }) = A2:=⟨_,rfl⟩
  have o2 : Only (fun k => k = w.heap.size + 1) A A2:=by rw [← hA2];exact (Only.refl _ A).putObj _ _ (fun _ => rfl)
  have l2 : A2.heap[w.heap.size + 1]? = some (.loop { rc .ready none with state:=.busy }):=by rw [← hA2];exact World.putObj_heap_same hlt
  have d2 : A2.heap[w.heap.size]? = some (.deferred (some [])):=o2.heap hd (by omega)
  rw [hA2]
  refine wpIn_mono (hbody s x s' A2 (hI s A A2 _ hi hl o2) (hV s x s' A A2 _ hv hl o2)) ?_
  intro ex a3 A3 h
  cases ex
  case normal =>
   obtain ⟨o3,i3⟩:=h
   have l3:=o3.heap l2 (by omega)
   have d3:=o3.heap d2 (by omega)
   have hr:=run_endRound (P:=P) none l3
   have h4 : A3.putObj (w.heap.size + 1) (.loop (rc .ready none)) = A3.putObj (w.heap.size + 1) (.loop { rc .ready none with state:=if (none : Option Code).isNone then .ready else .done,pending:=none }):=by rw [hrc];rfl
   have o4 : Only (fun k => k = w.heap.size + 1) A3 (A3.putObj (w.heap.size + 1) (.loop (rc .ready none))):=(Only.refl _ A3).putObj _ _ (fun _ => rfl)
   refine ⟨_,_,hr,rfl,?_⟩
   have h5 : I s' (A3.putObj (w.heap.size + 1) (.loop (rc .ready none))) ∧ (A3.putObj (w.heap.size + 1) (.loop (rc .ready none))).heap[w.heap.size + 1]? = some (.loop (rc .ready none)) ∧ (A3.putObj (w.heap.size + 1) (.loop (rc .ready none))).heap[w.heap.size]? = some (.deferred (some [])) :=
    ⟨hI s' A3 _ _ i3 l3 o4,World.putObj_heap_same (Array.getElem?_eq_some_iff.1 l3).1,o4.heap d3 (by omega)⟩
   rw [h4] at h5
   exact h5
  all_goals exact h.elim
 ·rintro e A ⟨⟨v,rfl⟩,hi,hl,hd⟩
  have hr:=run_endLoop (P:=P) hl (by rw [hrc];simp)
  have hp : (rc .ready none).pending = none:=by rw [hrc]
  refine ⟨none,_,by rw [hr,hp],hdone _ (hI _ _ _ _ hi hl ((Only.refl _ A).putObj _ _ (fun _ => rfl))) ?_⟩
  exact (World.putObj_heap_other (by omega)).trans hd
end Go.Proofs.YthapipgaohlgdaaGreatDoor


namespace Go.Proofs.YthapipgaohlgdaaGreatDoor
set_option maxRecDepth 100000
open Go.RowKit Go.Shelf
attribute [local go_sem] Oper.semAt_some
set_option maxHeartbeats 1000000 in
theorem vways_in (n : Nat) (a : Option Addr) (len cap : Nat) (w : World) :
  CallsIn Fence.wide n Tryz.prog 39 #[.slice a len cap] w fun e w' => e = .returned (.func (.func 71) #[] #[.pointer (some ⟨w.heap.size,0,none⟩)]) ∧ w' = w.alloc (.cells #[.slice a len cap] 46):=by
 refine callsIn_of_wp Tryz.func39 rfl trivial ?_ rfl
 simp only [Tryz.ntmps39,List.size_toArray,List.length_cons,List.length_nil,Nat.reduceAdd,Nat.reduceSub,Array.replicate_succ,Array.replicate_zero,List.push_toArray,List.append_toArray,List.nil_append,List.cons_append]
 gi_wp2
 go_ret
 exact ⟨rfl,rfl⟩
set_option maxHeartbeats 2000000 in
theorem vways1_in (n L Bv : Nat) (v : Value) (l : List Int) (hu : U64 l) (hl : l.length ≤ 65536) (J : Nat → World → Prop)
  (hJ : ∀ s A,J s A → Boxed A Bv 46 v ∧ Bs .u64 A v l ∧ Tab A)
  (hJo : ∀ s A B,J s A → Only (fun _ => False) A B → J s B)
  (hJs : ∀ s A,s ≤ 3 → J s A → (W11 l s).2 ≠ 0 → J (s + 1) A)
  (hY : ∀ (s : Nat) u A,s ≤ 3 → J s A → (W11 l s).2 = 0 → Bs .u8 A u (W11 l s).1 → NoCap u → YieldAt Fence.wide (n - 1) Tryz.prog L #[.int .i64 s,u] A fun e B => e = .returned (.bool true) ∧ J (s + 1) B)
  (W : World) (h0 : J 0 W) :
  CallsIn Fence.wide n Tryz.prog 71 #[.func (.yield L) #[] #[],.pointer (some ⟨Bv,0,none⟩)] W fun e B => (∃ v,e = .returned v) ∧ J 4 B:=by
 have HJ:=hideIt hJ
 have HJo:=hideIt hJo
 have HJs:=hideIt hJs
 have HY:=hideIt hY
 have H0:=hideIt h0
 clear hJ hJo hJs hY h0
 refine callsIn_of_wp Tryz.func71 rfl trivial ?_ rfl
 simp only [Tryz.ntmps71,List.size_toArray,List.length_cons,List.length_nil,Nat.reduceAdd,Nat.reduceSub,Array.replicate_succ,Array.replicate_zero,List.push_toArray,List.append_toArray,List.nil_append,List.cons_append]
 gi_wp2
 gi_loopw [6] (fun i wr => ∃ t : Nat,t ≤ 4 ∧ i = .int .i64 t ∧ Hid (J t wr)) (fun i _ => 4 - (intOf i).toNat)
 case atStart => exact ⟨0,by omega,rfl,H0⟩
 case round =>
  obtain ⟨t,ht,rfl,HT⟩:=hrel
  by_cases hlt : t < 4
  ·have dlt : decide ((t : Int) < 4) = true:=decide_eq_true (by omega)
   obtain ⟨hbx,hbs,htab⟩:=HJ.out t wr HT.out
   have hc:=hbx.cell
   have A:=hideIt (way11_nat v l t wr hbs hu htab hl (by omega))
   by_cases he : (W11 l t).2 = 0
   ·have HE:=hideIt he
    rw [he] at A
    clear hbx hbs htab he
    gi_wp2_with fail
    refine ⟨trivial,(fun h => by cases h),(callsIn_wide.2 A.out).mono ?_⟩
    rintro e w2 ⟨u,rfl,own2,o2⟩
    obtain ⟨fn,tmps,assign,body,hy,hR⟩:=HY.out t u w2 (by omega) (HJo.out _ _ _ HT.out o2) HE.out (Bs.of_own own2) (NoCap.of_own own2)
    have HR:=hideIt hR
    clear own2 o2 A hR
    gi_wp2
    refine ⟨(fun h => by cases h),HR.out.mono ?_⟩
    rintro e w3 ⟨rfl,hJ3⟩
    have H3:=hideIt hJ3
    clear HR hJ3
    gi_wp2
    go_roundw
    case rel => exact ⟨t + 1,by omega,by go_num,H3⟩
    case measure => simp [intOf];omega
   ·have HE:=hideIt he
    have de : ((W11 l t).2 == 0) = false:=by simp [he]
    obtain ⟨c,hcc⟩ : ∃ c,c = (W11 l t).2:=⟨_,rfl⟩
    rw [← hcc] at A de
    clear hbx hbs htab he hcc
    gi_wp2_with fail
    refine ⟨trivial,(fun h => by cases h),(callsIn_wide.2 A.out).mono ?_⟩
    rintro e w2 ⟨u,rfl,own2,o2⟩
    have H3:=hideIt (HJs.out t w2 (by omega) (HJo.out _ _ _ HT.out o2) HE.out)
    clear own2 o2 A
    gi_wp2
    refine ⟨fun _ h => (by cases h),?_⟩
    gi_wp2
    go_roundw
    case rel => exact ⟨t + 1,by omega,by go_num,H3⟩
    case measure => simp [intOf];omega
  ·obtain rfl : t = 4:=by omega
   gi_wp2
   go_end0
   exact ⟨⟨_,rfl⟩,HT.out⟩
end Go.Proofs.YthapipgaohlgdaaGreatDoor


namespace Go.Proofs.YthapipgaohlgdaaGreatDoor
set_option maxRecDepth 100000
open Go.RowKit Go.Shelf
attribute [local go_sem] Oper.semAt_some
def pk11 (l : List Int) (t : Nat) : List Int:=((pick11 l t).1 : Int) :: (pick11 l t).2
def Sh11 (lo : Nat) (l : List Int) (t : Nat) (A : World) (sv : Value) : Prop :=
 (t = 0 ∧ sv = .slice none 0 0) ∨ ∃ s,t = s + 1 ∧ A.ownsRow lo 5 1 sv (pk11 l s).length ((pk11 l s).map (Value.int .u8))
def In11 (W0 : World) (Bx lo : Nat) (l : List Int) (t : Nat) (A : World) : Prop:=Only (fun k => k = Bx) W0 A ∧ ∃ sv,Boxed A Bx 26 sv ∧ Sh11 lo l t A sv
theorem Sh11.keep {lo : Nat} {l : List Int} {t : Nat} {A B : World} {sv : Value} (h : Sh11 lo l t A sv) {S : Nat → Prop} (o : Only S A B) (hs : ∀ k,sv.ownBlock = some k → ¬ S k) : Sh11 lo l t B sv:=by
 rcases h with h | ⟨s,e,h⟩
 ·exact .inl h
 ·exact .inr ⟨s,e,o.own h hs⟩
theorem In11.past {W0 : World} {Bx lo : Nat} {l : List Int} {t : Nat} {A B : World} (h : In11 W0 Bx lo l t A) (o : Only (fun _ => False) A B) : In11 W0 Bx lo l t B:=by
 obtain ⟨h1,sv,h2,h3⟩:=h
 exact ⟨h1.trans o (fun _ _ f => f.elim),sv,box_keep h2 o (fun f => f),h3.keep o (fun _ _ f => f)⟩
theorem In11.loop {W0 : World} {Bx lo : Nat} {l : List Int} {t : Nat} {A B : World} (h : In11 W0 Bx lo l t A) {L : Nat} {r : Loop} (hl : A.heap[L]? = some (.loop r)) (o : Only (fun k => k = L) A B) (hL : W0.heap.size ≤ L) : In11 W0 Bx lo l t B:=by
 obtain ⟨h1,sv,h2,h3⟩:=h
 refine ⟨h1.trans o (fun k hk e => by omega),sv,box_keep h2 o (fun e => ?_),h3.keep o (fun k hk e => ?_)⟩
 ·subst e
  rw [show A.heap[Bx]? = _ from h2] at hl;cases hl
 ·subst e
  rcases h3 with ⟨_,rfl⟩ | ⟨s,_,ho⟩
  ·cases hk
  ·rcases ho.2 with ⟨rfl,_⟩ | ⟨g,cap,cur,rfl,_,hg,_⟩
   ·cases hk
   ·obtain rfl : g = k:=by simpa [Value.ownBlock] using hk
    rw [hg] at hl;cases hl
theorem In11.skip {W0 : World} {Bx lo : Nat} {l : List Int} {t : Nat} {A : World} (h : In11 W0 Bx lo l t A) (he : (W11 l t).2 ≠ 0) : In11 W0 Bx lo l (t + 1) A:=by
 obtain ⟨h1,sv,h2,h3⟩:=h
 refine ⟨h1,sv,h2,?_⟩
 rcases h3 with ⟨rfl,_⟩ | ⟨s,rfl,ho⟩
 ·exact absurd rfl he
 ·refine .inr ⟨s + 1,rfl,?_⟩
  have e : pk11 l (s + 1) = pk11 l s:=by
   unfold pk11
   rw [pick11,if_neg (fun c => he c.1)]
  rw [e];exact ho
theorem In11.stays {W0 : World} {Bx lo : Nat} {l : List Int} {s : Nat} {A : World} (h : In11 W0 Bx lo l (s + 1) A) (hc : ¬ (W11 l (s + 1)).1.length < (pick11 l s).2.length) : In11 W0 Bx lo l (s + 1 + 1) A:=by
 obtain ⟨h1,sv,h2,h3⟩:=h
 refine ⟨h1,sv,h2,?_⟩
 rcases h3 with ⟨e,_⟩ | ⟨s',e,ho⟩
 ·omega
 ·obtain rfl : s = s':=by omega
  refine .inr ⟨s + 1,rfl,?_⟩
  have e : pk11 l (s + 1) = pk11 l s:=by
   unfold pk11
   rw [pick11,if_neg (fun c => hc c.2)]
  rw [e];exact ho
theorem In11.stored {W0 W A : World} {Bx lo : Nat} {l : List Int} {t : Nat} {v : Value} (h : In11 W0 Bx lo l t W) (hBx : Bx < W0.heap.size) (o : Only (fun _ => False) W A) (hlo : lo ≤ W.heap.size)
  (own : A.ownsRow W.heap.size 5 1 v (pk11 l t).length ((pk11 l t).map (Value.int .u8))) : Only (fun k => k < W0.heap.size) W (A.setCell ⟨Bx,0,none⟩ v) ∧ In11 W0 Bx lo l (t + 1) (A.setCell ⟨Bx,0,none⟩ v):=by
 obtain ⟨h1,sv,h2,h3⟩:=h
 have hBW : Bx < W.heap.size:=h2.lt
 have o2 : Only (fun k => k = Bx) A (A.setCell ⟨Bx,0,none⟩ v):=(Only.refl (fun k => k = Bx) A).setCell (p:=⟨Bx,0,none⟩) (fun _ => rfl) v
 refine ⟨(o.mono (fun _ _ f => f.elim)).trans o2 (fun k _ e => by omega),h1.trans ((o.mono (T:=fun k => k = Bx) (fun _ _ f => f.elim)).trans o2 (fun _ _ e => e)) (fun _ _ e => e),v,(box_keep h2 o (fun f => f)).set v,.inr ⟨t,rfl,?_⟩⟩
 exact o2.own (own_low own hlo) (fun k hk e => by have:=(own.lt k hk).1;omega)
theorem concat_tag (W : World) (x : Int) (u : Value) (Y : List Int) (hb : Bs .u8 W u Y) (hn : NoCap u) (hl : Y.length ≤ 2000000) :
  Calls Tryz.prog 22 #[.slice (some ⟨W.heap.size + 1,0,none⟩) 2 2] ((W.alloc (.cells #[.int .u8 x] 5)).alloc (.cells #[.slice (some ⟨W.heap.size,0,none⟩) 1 1,u] 26)) fun e w' =>
   ∃ g c,e = .returned (.slice (some ⟨g,0,none⟩) (Y.length + 1) c) ∧ w'.ownsRow W.heap.size 5 1 (.slice (some ⟨g,0,none⟩) (Y.length + 1) c) (x :: Y).length ((x :: Y).map (Value.int .u8)) ∧ Only (fun _ => False) W w':=by
 obtain ⟨W2,hW2⟩ : ∃ W2,(W.alloc (.cells #[.int .u8 x] 5)).alloc (.cells #[.slice (some ⟨W.heap.size,0,none⟩) 1 1,u] 26) = W2:=⟨_,rfl⟩
 have o2 : Only (fun _ => False) W W2:=by rw [← hW2];exact ((Only.refl _ W).alloc _).alloc _
 have hL : Bs .u8 W2 (.slice (some ⟨W.heap.size,0,none⟩) 1 1) [x]:=by
  rw [← hW2]
  exact (Bs.lit .u8 W 5 [x]).past ((Only.refl _ _).alloc _)
 have hH : W2.heap[W.heap.size + 1]? = some (.cells #[.slice (some ⟨W.heap.size,0,none⟩) 1 1,u] 26 (0,0)):=by
  have:=World.alloc_heap_new (W.alloc (.cells #[.int .u8 x] 5)) (.cells #[.slice (some ⟨W.heap.size,0,none⟩) 1 1,u] 26)
  rw [World.size_alloc,hW2] at this;exact this
 have ec : cat (fun i => if i = 0 then [x] else Y) 2 = x :: Y:=by rw [cat_succ,cat_succ,cat_zero];rfl
 have hBB : ∀ i,i < 2 → Bs .u8 W2 (if i = 0 then .slice (some ⟨W.heap.size,0,none⟩) 1 1 else u) (if i = 0 then [x] else Y):=by
  intro i hi
  rcases (show i = 0 ∨ i = 1 by omega) with rfl | rfl
  ·exact hL
  ·exact hb.past o2
 have hNN : ∀ i,i < 2 → NoCap (if i = 0 then .slice (some ⟨W.heap.size,0,none⟩) 1 1 else u):=by
  intro i hi
  rcases (show i = 0 ∨ i = 1 by omega) with rfl | rfl
  ·exact NoCap.some _ _ _
  ·exact hn
 have C:=concat_n (W.heap.size + 1) 2 (fun i => if i = 0 then .slice (some ⟨W.heap.size,0,none⟩) 1 1 else u) (fun i => if i = 0 then [x] else Y) W2 (by omega) (by omega)
  (fun i hi => by rcases (show i = 0 ∨ i = 1 by omega) with rfl | rfl <;> simp [World.cell?,hH])
  hBB hNN
  (by rw [ec,List.length_cons];omega) (by rw [ec,List.length_cons];omega)
 rw [ec] at C
 rw [hW2]
 refine C.mono ?_
 rintro e w' ⟨v',rfl,own,o⟩
 have own' : w'.ownsRow W2.heap.size 5 1 v' (Y.length + 1) ((x :: Y).map (Value.int .u8)):=own
 obtain ⟨g,c,rfl⟩:=ownsRow_succ own'
 exact ⟨g,c,rfl,own_low own o2.size,o2.same o⟩
set_option maxHeartbeats 1000000 in
theorem encode11_long (v : Value) (l : List Int) (w : World) (h : Bs .u64 w v l) (hl : 65536 < l.length) :
  Calls Tryz.prog 21 #[v] w fun e w' => e = .returned (.tuple #[.slice none 0 0,.int .i64 4]) ∧ w = w':=by
 obtain ⟨ao,cap,rfl⟩:=h.len
 have d1 : decide ((65536 : Int) < (l.length : Int)) = true:=decide_eq_true (by omega)
 have d1' : decide (65536 < l.length) = true:=decide_eq_true hl
 clear h hl
 refine (callsIn_wide (n:=5)).1 ?_
 refine callsIn_of_wp_marks Tryz.func21 rfl trivial ?_ rfl
 simp only [Tryz.ntmps21,List.size_toArray,List.length_cons,List.length_nil,Nat.reduceAdd,Nat.reduceSub,Array.replicate_succ,Array.replicate_zero,List.push_toArray,List.append_toArray,List.nil_append,List.cons_append]
 gi_wp2
 refine ⟨.tuple #[.slice none 0 0,.int .i64 4],?_,rfl,rfl⟩
 simp [results,Tryz.f21,go_sem]
set_option maxHeartbeats 4000000 in
theorem encode11_bs (v : Value) (l : List Int) (w : World) (h : Bs .u64 w v l) (hu : U64 l) (hl : l.length ≤ 65536) (hT : Tab w) :
  Calls Tryz.prog 21 #[v] w fun e w' => ∃ u,e = .returned (.tuple #[u,.int .i64 0]) ∧ w'.ownsRow w.heap.size 5 1 u (pk11 l 3).length ((pk11 l 3).map (Value.int .u8)) ∧ Only (fun _ => False) w w':=by
 have HB:=hideIt h
 have HT:=hideIt hT
 obtain ⟨ao,cap,rfl⟩:=h.len
 obtain ⟨m,hm⟩ : ∃ m,m = l.length:=⟨_,rfl⟩
 rw [← hm] at HB
 rw [← hm]
 have HM:=hideIt hm
 have HL:=hideIt hl
 have d1 : decide ((65536 : Int) < (m : Int)) = false:=decide_eq_false (by omega)
 have d1' : decide (65536 < m) = false:=decide_eq_false (by omega)
 have h0w:=hT.pos
 clear h hm hT hl
 refine (callsIn_wide (n:=5)).1 ?_
 refine callsIn_of_wp_marks Tryz.func21 rfl trivial ?_ rfl
 simp only [Tryz.ntmps21,List.size_toArray,List.length_cons,List.length_nil,Nat.reduceAdd,Nat.reduceSub,Array.replicate_succ,Array.replicate_zero,List.push_toArray,List.append_toArray,List.nil_append,List.cons_append]
 gi_wp2_with fail
 refine ⟨trivial,(vways_in _ _ _ _ _).mono ?_⟩
 rintro e w2 ⟨rfl,rfl⟩
 gi_wp2_with fail
 obtain ⟨W0,hW0⟩ : ∃ W0,(w.alloc (.cells #[.slice none 0 0] 26)).alloc (.cells #[.slice ao m cap] 46) = W0:=⟨_,rfl⟩
 have o0 : Only (fun _ => False) w W0:=by rw [← hW0];exact ((Only.refl _ w).alloc _).alloc _
 have hsz : W0.heap.size = w.heap.size + 1 + 1:=by rw [← hW0];simp
 have bX : Boxed W0 w.heap.size 26 (.slice none 0 0):=by rw [← hW0];exact (Boxed.new w 26 (.slice none 0 0)).alloc _
 have bV : Boxed W0 (w.heap.size + 1) 46 (.slice ao m cap):=by
  rw [← hW0]
  have h:=Boxed.new (w.alloc (.cells #[.slice none 0 0] 26)) 46 (.slice ao m cap)
  rw [World.size_alloc] at h;exact h
 rw [hW0]
 have HI0 : In11 W0 w.heap.size w.heap.size l 0 W0:=⟨Only.refl _ _,_,bX,.inl ⟨rfl,rfl⟩⟩
 refine range_over (gf:=71) (lb:=#[.pointer (some ⟨w.heap.size + 1,0,none⟩)]) rfl (enters_of Tryz.func71 (by kernel_rfl) rfl)
  (fun x : Nat × Value => #[.int .i64 x.1,x.2]) (fun _ => rfl) (In11 W0 w.heap.size w.heap.size l) (fun s x s' A => x.1 = s ∧ s' = s + 1 ∧ s ≤ 3 ∧ (W11 l s).2 = 0 ∧ Bs .u8 A x.2 (W11 l s).1 ∧ NoCap x.2) 0 4
  (fun s A B r hi hl o => hi.loop hl o (by omega)) (fun s A B hi o => hi.past o) (fun s x s' A B r hv hl o => ⟨hv.1,hv.2.1,hv.2.2.1,hv.2.2.2.1,hv.2.2.2.2.1.loop hl o,hv.2.2.2.2.2⟩) HI0
  ?hit (fun x => { tmps:=#[.slice ao m cap,undef,.slice none 0 0,.int .i64 0,.pointer (some ⟨w.heap.size,0,none⟩),.int .i64 x.1,x.2,.slice ao m cap,.int .i64 m,.bool false,.slice ao m cap,
   .func (.func 71) #[] #[.pointer (some ⟨w.heap.size + 1,0,none⟩)],.int .i64 x.1,x.2,undef,undef,undef,undef,undef,undef,undef,undef,undef,undef,undef,undef,undef,undef,undef,undef,undef],defers:=[] }) ?assign ?body ?done
 case hit =>
  intro J W hJ hJo hJs hY h0
  refine vways1_in 4 (W0.heap.size + 1) (w.heap.size + 1) (.slice ao m cap) l hu HL.out J (fun s A hs => ?_) hJo (fun s A h3 hs he => hJs s (s + 1) A hs ((hJ s A hs).skip he)) (fun s u A h3 hs he hb hn => hY s (s,u) (s + 1) A hs ⟨rfl,rfl,h3,he,hb,hn⟩) W h0
  have o:=(hJ s A hs).1
  have o' : Only (fun _ => False) w A:=o0.trans o (fun k hk e => by omega)
  exact ⟨box_keep bV o (by omega),HB.out.past o',HT.out.past o'⟩
 case assign =>
  intro x W K hK
  gi_wp2
  exact hK
 case body =>
  rintro s ⟨s',u⟩ s'' W hi ⟨rfl,rfl,h3,he,hb,hn⟩
  simp only at hb hn h3 he
  have HI:=hideIt hi
  obtain ⟨o1,sv,bx,hsh⟩:=hi
  have hc:=bx.cell
  have hf:=bx.frozen
  have hlo : w.heap.size ≤ W.heap.size:=by have:=o1.size;omega
  obtain ⟨au,cu,eu⟩:=hb.len
  subst eu
  rcases hsh with ⟨rfl,rfl⟩ | ⟨s,rfl,ho⟩
  ·have hnil : ∀ W,(binOp .eql 26 (.slice none 0 0) (.slice none 0 0)).run Tryz.prog W = .ok (.bool true) W:=fun W => by
    rw [Lib.run_eql_slice_nil W 26 5 none 0 0 0 0 Tryz.underlying26];rfl
   obtain ⟨Y,hY⟩ : ∃ Y,Y = (W11 l 0).1:=⟨_,rfl⟩
   rw [← hY] at hb hn
   have HPK : Hid (pk11 l 0 = 0 :: Y):=by simp only [Hid];rw [hY];rfl
   have HB':=hideIt hb
   have HN':=hideIt hn
   rw [← hY]
   have CT:=hideIt (concat_tag W 0 (.slice au Y.length cu) Y hb hn (by rw [hY,← WAY11_nat HL.out 0 (by omega)];exact WAY11_len))
   have HBX:=hideIt bx
   clear bx hb hn he h3 hY
   gi_wp2_with fail
   refine ⟨trivial,(CallsIn.inRound _ (callsIn_wide.2 CT.out)).mono ?_⟩
   rintro e w4 ⟨g,c,rfl,own4,o4⟩
   have bx4:=box_keep HBX.out o4 (fun f => f)
   rw [← HPK.out] at own4
   have FIN:=hideIt (HI.out.stored (by omega) o4 hlo own4)
   have hc4:=bx4.cell
   have hf4:=bx4.frozen
   clear own4 o4 bx4 CT HBX hc hf
   gi_wp2
   exact FIN.out
  ·obtain ⟨Y,hY⟩ : ∃ Y,Y = (W11 l (s + 1)).1:=⟨_,rfl⟩
   rw [← hY] at hb hn
   have hlen : (pk11 l s).length = (pick11 l s).2.length + 1:=rfl
   obtain ⟨q,hq⟩ : ∃ q,q = (pick11 l s).2.length:=⟨_,rfl⟩
   rw [hlen,← hq] at ho
   obtain ⟨g0,c0,esv⟩:=ownsRow_succ ho
   subst esv
   have hnil : ∀ W,(binOp .eql 26 (.slice (some ⟨g0,0,none⟩) (q + 1) c0) (.slice none 0 0)).run Tryz.prog W = .ok (.bool false) W:=fun W => by
    rw [Lib.run_eql_slice_nil W 26 5 (some ⟨g0,0,none⟩) (q + 1) c0 0 0 Tryz.underlying26];rfl
   have hYl : Y.length ≤ 2000000:=by rw [hY,← WAY11_nat HL.out (s + 1) h3];exact WAY11_len
   by_cases hcmp : Y.length < q
   ·have HPK : Hid (pk11 l (s + 1) = ((s : Int) + 1) :: Y):=by
     simp only [Hid];unfold pk11
     rw [pick11,if_pos ⟨he,by rw [← hY,← hq];exact hcmp⟩,← hY]
     rfl
    have CT:=hideIt (concat_tag W ((s : Int) + 1) (.slice au Y.length cu) Y hb hn hYl)
    rw [← hY]
    have dd : decide ((1 : Int) + (Y.length : Int) < ((q + 1 : Nat) : Int)) = true:=decide_eq_true (by omega)
    have dd2 : decide ((1 : Int) + (Y.length : Int) < (q : Int) + 1) = true:=decide_eq_true (by omega)
    have HBX:=hideIt bx
    clear bx hb hn he hY hlen hq ho hcmp
    gi_wp2_with fail
    refine ⟨trivial,(CallsIn.inRound _ (callsIn_wide.2 CT.out)).mono ?_⟩
    rintro e w4 ⟨g,c,rfl,own4,o4⟩
    have bx4:=box_keep HBX.out o4 (fun f => f)
    rw [← HPK.out] at own4
    have FIN:=hideIt (HI.out.stored (by omega) o4 hlo own4)
    have hc4:=bx4.cell
    have hf4:=bx4.frozen
    clear own4 o4 bx4 CT HBX hc hf
    gi_wp2
    exact FIN.out
   ·have HST:=hideIt (HI.out.stays (by rw [← hY,← hq];exact hcmp))
    rw [← hY]
    have dd : decide ((1 : Int) + (Y.length : Int) < ((q + 1 : Nat) : Int)) = false:=decide_eq_false (by omega)
    have dd2 : decide ((1 : Int) + (Y.length : Int) < (q : Int) + 1) = false:=decide_eq_false (by omega)
    clear bx hb hn he hY hlen hq ho hcmp
    gi_wp2
    exact ⟨Only.refl _ _,HST.out⟩
 case done =>
  intro W hi hD
  obtain ⟨o1,sv,bx,hsh⟩:=hi
  have hc:=bx.cell
  rcases hsh with ⟨e,_⟩ | ⟨s,e,ho⟩
  ·cases e
  ·obtain rfl : s = 3:=by omega
   clear e
   have HO:=hideIt ho
   have hlen : (pk11 l 3).length = (pick11 l 3).2.length + 1:=rfl
   rw [hlen] at ho
   obtain ⟨g,cap',e2⟩:=ownsRow_succ ho
   subst e2
   clear hlen ho
   have O1:=hideIt o1
   have HD:=hideIt hD
   clear o1 bx
   gi_wp2
   refine ⟨by simp,.inl ⟨_,_,rfl,run_takeDeferred HD.out,?_⟩⟩
   refine ⟨.tuple #[.slice (some ⟨g,0,none⟩) ((pick11 l 3).2.length + 1) cap',.int .i64 0],?_,_,rfl,ownsRow_putObj HO.out _ HD.out rfl,?_⟩
   ·simp [results,Tryz.f21,go_sem]
   ·exact (o0.trans O1.out (fun k hk e => by omega)).putObj _ _ (fun hk => by omega)
theorem encode11_all (v : Value) (l : List Int) (w : World) (h : Bs .u64 w v l) (hu : U64 l) (hT : Tab w) :
  Calls Tryz.prog 21 #[v] w fun e w' => ∃ u,e = .returned (.tuple #[u,.int .i64 (ENC11 l).2]) ∧ w'.ownsRow w.heap.size 5 1 u (ENC11 l).1.length ((ENC11 l).1.map (Value.int .u8)) ∧ Only (fun _ => False) w w':=by
 by_cases hl : 65536 < l.length
 ·have e : ENC11 l = ([],4):=if_pos hl
  rw [e]
  refine (encode11_long v l w h hl).mono ?_
  rintro e w' ⟨rfl,rfl⟩
  exact ⟨_,rfl,World.ownsRow_nil _ _ _ _,Only.refl _ _⟩
 ·rw [ENC11_of (by omega)]
  exact encode11_bs v l w h hu (by omega) hT
end Go.Proofs.YthapipgaohlgdaaGreatDoor


namespace Go.Proofs.YthapipgaohlgdaaGreatDoor
set_option maxRecDepth 100000
open Go.RowKit Go.Maps
theorem lt_of_heap {w : World} {k : Nat} {o : Obj} (h : w.heap[k]? = some o) : k < w.heap.size:=(Array.getElem?_eq_some_iff.1 h).1
set_option maxHeartbeats 400000 in
theorem rdict_err {w : World} {R : Nat} {v : Value} {ys : List Int} (h : CurAt 92 w R v ys) (N : Nat) {a : Int} {k : Nat} {c : Int} (hs : sVarint ys = (a,k,c)) (hc : c ≠ 0) :
  Calls Tryz.prog 179 #[.pointer (some ⟨R,0,none⟩),.int .i64 N] w fun e w' => e = .returned (.tuple #[.slice none 0 0,.int .i64 c]) ∧ Only (fun k => k = R) w w':=by
 have VC:=hideIt (varint_cur h)
 rw [hs] at VC
 have dc : (c != 0) = true:=by simpa using hc
 clear h hs hc
 go_enter Tryz.func179,Tryz.ntmps179
 go_wp2_with fail
 refine VC.out.mono ?_
 rintro e w1 ⟨rfl,v2,_,_,o2⟩
 have O2:=hideIt o2
 clear o2 VC
 go_wp2
 go_ret2
 exact ⟨rfl,O2.out⟩
set_option maxHeartbeats 400000 in
theorem rdict_many {w : World} {R : Nat} {v : Value} {ys : List Int} (h : CurAt 92 w R v ys) (N : Nat) {a k : Nat} (hs : sVarint ys = ((a : Int),k,0)) (hN : N ≤ 65536) (hc : N < a) :
  Calls Tryz.prog 179 #[.pointer (some ⟨R,0,none⟩),.int .i64 N] w fun e w' => e = .returned (.tuple #[.slice none 0 0,.int .i64 3]) ∧ Only (fun k => k = R) w w':=by
 have VC:=hideIt (varint_cur h)
 rw [hs] at VC
 have dc : decide ((N : Int) < (a : Int)) = true:=by simp;omega
 have dn : N < a:=hc
 clear h hs hc
 go_enter Tryz.func179,Tryz.ntmps179
 go_wp2_with fail
 refine VC.out.mono ?_
 rintro e w1 ⟨rfl,v2,_,_,o2⟩
 have O2:=hideIt o2
 clear o2 VC
 go_wp2
 go_ret2
 exact ⟨rfl,O2.out⟩
set_option maxHeartbeats 1000000 in
theorem rdict_bs {w : World} {R : Nat} {v : Value} {ys : List Int} (h : CurAt 92 w R v ys) (hv : ∀ k,v.ownBlock = some k → k < w.heap.size) (N : Nat) {a q : Nat} (hs : sVarint ys = ((a : Int),q,0)) (hN : N ≤ 65536) (hc : a ≤ N) (rest : List Int) (hrest : rest = ys.drop q) :
  Calls Tryz.prog 179 #[.pointer (some ⟨R,0,none⟩),.int .i64 N] w fun e w' =>
   (Hid (rest.length < 8 * a) ∧ e = .returned (.tuple #[.slice none 0 0,.int .i64 2]) ∧ Only (fun k => k = R) w w') ∨
   (Hid (8 * a ≤ rest.length) ∧ ∃ u v2,e = .returned (.tuple #[u,.int .i64 0]) ∧ w'.ownsRow w.heap.size 42 1 u a ((rd8 a rest).map (Value.int .u64)) ∧ CurAt 92 w' R v2 (rest.drop (8 * a)) ∧ v2.ownBlock = v.ownBlock ∧ Only (fun k => k = R) w w'):=by
 obtain ⟨i0,hi,hz0,hz1,hz2⟩:=info_parts Tryz.infoU64
 have VC:=hideIt (varint_cur h)
 rw [hs] at VC
 simp only at VC
 rw [← hrest] at VC
 have HR:=hideIt (lt_of_heap h.cell)
 have HV:=hideIt hv
 have dc : decide ((N : Int) < (a : Int)) = false:=by simp;omega
 have dn : decide (N < a) = false:=decide_eq_false (by omega)
 clear h hs hrest hv
 go_enter Tryz.func179,Tryz.ntmps179
 go_wp2_with fail
 refine VC.out.mono ?_
 rintro e w1 ⟨rfl,v1,cu1,ob1,o1⟩
 have C1 : Hid (CurAt 92 w1 R v1 (rest.drop (8 * 0))):=cu1
 have OB1:=hideIt ob1
 have O1:=hideIt o1
 clear cu1 ob1 o1 VC
 go_wp2
 go_loopw [8,24] (fun s i wr => ∃ j : Nat,j ≤ a ∧ i = .int .u64 j ∧ Hid (8 * j ≤ rest.length) ∧ wr.ownsRow w.heap.size 42 1 s j ((rd8 j rest).map (Value.int .u64)) ∧ ∃ v2,CurAt 92 wr R v2 (rest.drop (8 * j)) ∧ v2.ownBlock = v.ownBlock ∧ Only (fun k => k = R) w wr) (fun _ i _ => a - (intOf i).toNat)
 case atStart => exact ⟨0,Nat.zero_le _,rfl,by simp [Hid],World.ownsRow_nil _ _ _ _,v1,C1.out,OB1.out,O1.out⟩
 case round =>
  clear C1 OB1 O1
  obtain ⟨j,hj,rfl,HJ,hown,v2,hcur,hob,hon⟩:=hrel
  by_cases hlt : j < a
  ·have dlt : decide ((j : Int) < (a : Int)) = true:=by simp;omega
   have FC:=hideIt (fixed_cur hcur 8)
   have HOB:=hideIt hob
   have HON:=hideIt hon
   have HOWN:=hideIt hown
   by_cases h8 : rest.length < 8 * j + 8
   ·have e1 : sFixed 8 (rest.drop (8 * j)) = (0,0,2):=by
     unfold sFixed;rw [if_neg (by omega),if_pos (by rw [List.length_drop];omega)]
    rw [e1] at FC
    have HS : Hid (rest.length < 8 * a):=(by omega : rest.length < 8 * a)
    clear e1 h8 hcur hob hon hown
    go_wp2_with fail
    refine FC.out.mono ?_
    rintro e w4 ⟨rfl,v4,_,_,o4⟩
    have O4:=hideIt (HON.out.trans o4 (fun _ _ f => f))
    clear o4 FC
    go_wp2
    go_ret2
    exact .inl ⟨HS,rfl,O4.out⟩
   ·have e1 : sFixed 8 (rest.drop (8 * j)) = (((num ((rest.drop (8 * j)).take 8) : Nat) : Int),8,0):=by
     unfold sFixed;rw [if_neg (by omega),if_neg (by rw [List.length_drop];omega)];rfl
    rw [e1] at FC
    simp only [List.drop_drop] at FC
    have HJ2 : Hid (8 * (j + 1) ≤ rest.length):=(by omega : 8 * (j + 1) ≤ rest.length)
    have HST:=hideIt (rd8_snoc j rest)
    have hxl : num ((rest.drop (8 * j)).take 8) < 18446744073709551616:=by
     have h1:=num_lt ((rest.drop (8 * j)).take 8) (fun y hy => hcur.rng y (List.mem_of_mem_take hy))
     have h2 : (256 : Nat) ^ ((rest.drop (8 * j)).take 8).length ≤ 256 ^ 8:=Nat.pow_le_pow_right (by omega) (by rw [List.length_take];omega)
     have h3 : (256 : Nat) ^ 8 = 18446744073709551616:=by decide
     omega
    rw [show 8 * j + 8 = 8 * (j + 1) by omega] at FC
    generalize num ((rest.drop (8 * j)).take 8) = x at *
    obtain ⟨d,hd⟩ : ∃ d,d = rd8 j rest:=⟨_,rfl⟩
    have hdl : d.length = j:=by rw [hd,rd8_len]
    rw [← hd] at HOWN HST
    obtain ⟨a6,c6,e6⟩ : ∃ a6 c6,u8 = .slice a6 j c6:=by
     have:=(Bs.of_own (k:=.u64) (xs:=d) (by rw [hdl];exact HOWN.out)).len
     rw [hdl] at this;exact this
    subst e6
    clear e1 h8 hcur hob hon hown hd hdl
    go_wp2_with fail
    refine FC.out.mono ?_
    rintro e w4 ⟨rfl,v4,cu4,ob4,o4⟩
    have hrow:=o4.own HOWN.out (fun k hk f => by have:=(HOWN.out.lt k hk).1;have:=HR.out;omega)
    have C4:=hideIt cu4
    have OB4:=hideIt (ob4.trans HOB.out)
    have O4:=hideIt (HON.out.trans o4 (fun _ _ f => f))
    clear FC cu4 ob4 o4 HOWN HON HOB
    have s4 : w.heap.size ≤ w4.heap.size:=O4.out.size
    go_wp2_with (at_builtin;refine wpList_append_own _ rfl _ _ 46 rfl w.heap.size 42 i0 (.int .u64 0) 1 8 Tryz.underlying46 hi hz0 hz1 hz2 rfl (by decide) _ j _ rfl (hrow.alloc _) ⟨w4.heap.size,0,none⟩ 1 1 [.int .u64 (x : Int)] rfl rfl (cell_one_new _ _ _) (ints_oneCell .u64 [(x : Int)]) (by unfold maxLen;omega) (by omega) (by simp;omega) ?_;intro v' w6 hown' hgrow2 hnil2)
    have OW6 : Hid (w6.ownsRow w.heap.size 42 1 v' (j + 1) ((rd8 (j + 1) rest).map (Value.int .u64))):=by
     simp only [Hid];rw [HST.out,List.map_append];exact hown'
    have ONA : Only (fun k => k = R) w4 (w4.alloc (.cells #[.int .u64 (x : Int)] 42)):=(Only.refl _ _).alloc _
    have ON6 : Only (fun k => (Value.slice a6 j c6).ownBlock = some k) w4 w6:=((Only.refl _ w4).alloc _).grown hgrow2 (fun k hk e => e)
    have O6:=hideIt (O4.out.trans ON6 (fun i hi f => absurd (hrow.lt i f).1 (by omega)))
    have C6:=hideIt (C4.out.keep ON6 (fun f => by have:=(hrow.lt R f).1;have:=HR.out;omega) (fun k hk f => by
     rw [OB4.out] at hk
     have:=HV.out k hk;have:=(hrow.lt k f).1;omega))
    clear hown' hgrow2 hnil2 hrow ONA ON6 C4 O4
    go_wp2
    go_roundw
    case rel => exact ⟨j + 1,by omega,by go_num,HJ2,OW6.out,v4,C6.out,OB4.out,O6.out⟩
    case measure => simp [intOf];omega
  ·obtain rfl : j = a:=by omega
   have dlt : decide ((j : Int) < (j : Int)) = false:=by simp
   have HOB:=hideIt hob
   have HON:=hideIt hon
   have HOWN:=hideIt hown
   have HC:=hideIt hcur
   clear hown hcur hob hon
   go_wp2
   go_ret2
   exact .inr ⟨HJ,_,v2,rfl,HOWN.out,HC.out,HOB.out,HON.out⟩
end Go.Proofs.YthapipgaohlgdaaGreatDoor
