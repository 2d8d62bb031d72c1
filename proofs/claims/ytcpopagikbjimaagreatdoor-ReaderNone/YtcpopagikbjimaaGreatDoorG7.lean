import Derived.Test.YtcpopagikbjimaaGreatDoorG5
import Derived.Deep.Matrix
namespace Go.Proofs.YtcpopagikbjimaaGreatDoor
set_option maxHeartbeats 800000
set_option maxRecDepth 100000
open Go.RowKit
def RL (w : World) (v : Value) (ls : List (List Int)) : Prop :=
 ∃ ao cap,v = .slice ao ls.length cap ∧ ls.length ≤ cap ∧ (ls ≠ [] → ∃ b off,ao = some ⟨b,off,none⟩ ∧ ∀ j,j < ls.length → ∃ u,w.cell? ⟨b,off + j,none⟩ = some u ∧ Bs .u8 w u (ls.getD j []) ∧ NoCap u)
theorem RL.len {w : World} {v : Value} {ls : List (List Int)} (h : RL w v ls) : ∃ ao cap,v = .slice ao ls.length cap ∧ ls.length ≤ cap:=by
 obtain ⟨ao,cap,rfl,hc,_⟩:=h;exact ⟨ao,cap,rfl,hc⟩
theorem RL.form {w : World} {v : Value} {ls : List (List Int)} (h : RL w v ls) {n : Nat} (hn : ls.length = n) (h0 : 0 < n) : ∃ b off cap,v = .slice (some ⟨b,off,none⟩) n cap ∧ n ≤ cap:=by
 obtain ⟨ao,cap,rfl,hc,hr⟩:=h;obtain ⟨b,off,rfl,_⟩:=hr (by intro e;subst e;simp at hn;omega);exact ⟨b,off,cap,by rw [hn],by omega⟩
theorem RL.nil (w : World) : RL w (.slice none 0 0) []:=⟨none,0,rfl,Nat.le_refl _,fun h => absurd rfl h⟩
theorem RL.at {w : World} {b off m cap : Nat} {ls : List (List Int)} (h : RL w (.slice (some ⟨b,off,none⟩) m cap) ls) (j : Nat) (hj : j < ls.length) :
  ∃ u,w.cell? ⟨b,off + j,none⟩ = some u ∧ Bs .u8 w u (ls.getD j []) ∧ NoCap u:=by
 obtain ⟨ao1,cap1,e,_,hr⟩:=h;simp at e;obtain ⟨rfl,_,_⟩:=e;obtain ⟨b',off',e',hc⟩:=hr (by intro h0;subst h0;simp at hj);simp at e';obtain ⟨rfl,rfl⟩:=e';exact hc j hj
theorem RL.past {w w' : World} {v : Value} {ls : List (List Int)} (h : RL w v ls) (o : Only (fun _ => False) w w') : RL w' v ls:=by
 obtain ⟨ao,cap,rfl,hc,hr⟩:=h;refine ⟨ao,cap,rfl,hc,fun hx => ?_⟩;obtain ⟨b,off,rfl,hcell⟩:=hr hx;refine ⟨b,off,rfl,fun j hj => ?_⟩;obtain ⟨u,h1,h2,h3⟩:=hcell j hj;exact ⟨u,Qar h1 o,h2.past o,h3⟩
theorem RL.length {w : World} {ao : Option Addr} {m cap : Nat} {ls : List (List Int)} (h : RL w (.slice ao m cap) ls) : m = ls.length:=by
 obtain ⟨ao',cap',e,_⟩:=h;simp at e;exact e.2.1
theorem RL.room {w : World} {ao : Option Addr} {m cap : Nat} {ls : List (List Int)} (h : RL w (.slice ao m cap) ls) : m ≤ cap:=by
 obtain ⟨ao',cap',e,hc,_⟩:=h;simp at e;obtain ⟨rfl,rfl,rfl⟩:=e;exact hc
theorem RL.part {w : World} {b off m cap : Nat} {ls : List (List Int)} (h : RL w (.slice (some ⟨b,off,none⟩) m cap) ls) (lo hi : Nat) (h1 : lo ≤ hi) (h2 : hi ≤ m) :
  RL w (.slice (some ⟨b,off + lo,none⟩) (hi - lo) (cap - lo)) ((ls.drop lo).take (hi - lo)):=by
 have hm:=h.length;have hr:=h.room
 have hl : ((ls.drop lo).take (hi - lo)).length = hi - lo:=by rw [List.length_take,List.length_drop];omega
 refine ⟨_,_,by rw [hl],by omega,fun _ => ⟨b,off + lo,rfl,fun j hj => ?_⟩⟩;rw [hl] at hj;obtain ⟨u,c1,c2,c3⟩:=h.at (lo + j) (by omega);refine ⟨u,by rw [Nat.add_assoc];exact c1,?_,c3⟩
 have e : ((ls.drop lo).take (hi - lo)).getD j [] = ls.getD (lo + j) []:=by
  rw [List.getD_eq_getElem?_getD,List.getD_eq_getElem?_getD,List.getElem?_take,if_pos hj,List.getElem?_drop]
 rw [e];exact c2
theorem RL.head {w : World} {b off m cap : Nat} {ls : List (List Int)} (h : RL w (.slice (some ⟨b,off,none⟩) m cap) ls) (n : Nat) (hn : n ≤ m) : RL w (.slice (some ⟨b,off,none⟩) n cap) (ls.take n):=by
 have:=h.part 0 n (Nat.zero_le _) hn
 simpa using this
theorem RL.tail {w : World} {b off m cap : Nat} {ls : List (List Int)} (h : RL w (.slice (some ⟨b,off,none⟩) m cap) ls) (n : Nat) (hn : n ≤ m) : RL w (.slice (some ⟨b,off + n,none⟩) (m - n) (cap - n)) (ls.drop n):=by
 have hm:=h.length;have:=h.part n m hn (Nat.le_refl _);rw [List.take_of_length_le (by rw [List.length_drop];omega)] at this;exact this
def R8 (ls : List (List Int)) : Prop:=∀ l ∈ ls,U8 l ∧ l.length ≤ 1000000000
theorem R8.take {ls : List (List Int)} (h : R8 ls) (n : Nat) : R8 (ls.take n):=fun l hl => h l (List.mem_of_mem_take hl)
theorem R8.drop {ls : List (List Int)} (h : R8 ls) (n : Nat) : R8 (ls.drop n):=fun l hl => h l (List.mem_of_mem_drop hl)
theorem R8.at {ls : List (List Int)} (h : R8 ls) (j : Nat) : U8 (ls.getD j []) ∧ (ls.getD j []).length ≤ 1000000000:=by
 rw [List.getD_eq_getElem?_getD]
 cases hj : ls[j]? with
 | none => exact ⟨fun y hy => by simp at hy,by simp⟩
 | some l => exact h l (List.mem_of_getElem? hj)
theorem RL.of_own {w : World} {lo : Nat} {v : Value} {vs : List Value} {ls : List (List Int)} (h : w.ownsRow lo 22 1 v ls.length vs) (hv : ∀ j u,vs[j]? = some u → Bs .u8 w u (ls.getD j []) ∧ NoCap u) : RL w v ls:=by
 rcases h.2 with ⟨rfl,h0⟩ | ⟨g,cap,cur,rfl,_,_,hc,_⟩
 ·have : ls = []:=List.eq_nil_of_length_eq_zero h0
  subst this;exact RL.nil w
 ·refine ⟨_,cap,rfl,hc,fun _ => ⟨g,0,rfl,fun j hj => ?_⟩⟩
  have hl:=h.1
  have hj' : j < vs.length:=by omega
  refine ⟨vs[j],?_,hv j _ (List.getElem?_eq_getElem hj')⟩;rw [Nat.zero_add,h.cellAt j (by omega),List.getElem?_eq_getElem hj']
def LEAF (b : List Int) : List Int:=SHA (0 :: b)
def NODE (l r : List Int) : List Int:=SHA (1 :: (l ++ r))
theorem Qdr (b : List Int) : (LEAF b).length = 32:=Qan _
theorem Qds (l r : List Int) : (NODE l r).length = 32:=Qan _
def HALF (n : Nat) : Nat:=2 ^ Nat.log2 (n - 1)
theorem Qdt (n : Nat) : 1 ≤ HALF n:=Nat.two_pow_pos _
theorem QeS {n : Nat} (h : 2 ≤ n) : HALF n < n:=by
 have:=Nat.log2_self_le (n:=n - 1) (by omega);unfold HALF;omega
def TOPF : Nat → List (List Int) → List Int
 | 0,l => l.headD []
 | f + 1,l => if l.length = 0 then SHA [] else if l.length = 1 then l.headD [] else NODE (TOPF f (l.take (HALF l.length))) (TOPF f (l.drop (HALF l.length)))
def TOP (l : List (List Int)) : List Int:=TOPF (l.length + 1) l
theorem Qbm : ∀ (f g : Nat) (l : List (List Int)),l.length < f → l.length < g → TOPF f l = TOPF g l
 | 0,_,_,h,_ => by omega
 | _,0,_,_,h => by omega
 | f + 1,g + 1,l,hf,hg => by
  unfold TOPF
  by_cases h0 : l.length = 0
  ·rw [if_pos h0,if_pos h0]
  ·rw [if_neg h0,if_neg h0]
   by_cases h1 : l.length = 1
   ·rw [if_pos h1,if_pos h1]
   ·rw [if_neg h1,if_neg h1]
    have a:=QeS (n:=l.length) (by omega);have b:=Qdt l.length;rw [Qbm f g _ (by rw [List.length_take];omega) (by rw [List.length_take];omega),Qbm f g _ (by rw [List.length_drop];omega) (by rw [List.length_drop];omega)]
theorem QiA : TOP [] = SHA []:=rfl
theorem QgY {l : List (List Int)} (h : l.length = 1) : TOP l = l.headD []:=by
 unfold TOP TOPF;rw [if_neg (by omega),if_pos h]
theorem QgZ {l : List (List Int)} (h : 2 ≤ l.length) : TOP l = NODE (TOP (l.take (HALF l.length))) (TOP (l.drop (HALF l.length))):=by
 have a:=QeS h;have b:=Qdt l.length
 show TOPF (l.length + 1) l = _
 rw [TOPF,if_neg (by omega),if_neg (by omega)]
 congr 1
 ·exact Qbm _ _ _ (by rw [List.length_take];omega) (by omega)
 ·exact Qbm _ _ _ (by rw [List.length_drop];omega) (by omega)
theorem Qj5 {l : List (List Int)} (h : 2 ≤ l.length) : (TOP l).length = 32:=by rw [QgZ h];exact Qds _ _
def MNY : Nat → Nat → Nat → Nat → Nat → Nat
 | 0,_,_,_,_ => 0
 | f + 1,lo,hi,i,j => if i ≤ lo ∧ hi ≤ j + 1 then 0 else if j < lo ∨ hi ≤ i then 1 else MNY f lo (lo + HALF (hi - lo)) i j + MNY f (lo + HALF (hi - lo)) hi i j
def MANY (n i j : Nat) : Nat:=MNY (n + 1) 0 n i j
theorem QbK (m : Int) (hm : 0 ≤ m ∧ m ≤ 255) (p n : Nat) (ls : Nat → List Int) (w : World) (hp : Ps w p n ls) (hl : (pcat ls n).length ≤ 10000000000) (hn : n ≤ 1000) :
  Calls Tryz.prog 76 #[.int .u8 m,.slice (some ⟨p,0,none⟩) n n] w fun e w' => ∃ v,e = .returned v ∧ w'.ownsRow w.heap.size 5 1 v 32 ((SHA (m :: pcat ls n)).map (Value.int .u8)) ∧ Only (fun _ => False) w w':=by
 have hzv:=(zero_of_info (P:=Tryz.prog) Tryz.zero33).1;obtain ⟨Z,hZ⟩ : ∃ Z,Z = zH:=⟨_,rfl⟩;rw [← hZ] at hzv;obtain ⟨W1,hW1⟩ : ∃ W1,W1 = (w.alloc (.cells Z.toArray 144)).alloc (.cells #[.int .u8 m] 5):=⟨_,rfl⟩
 have hN2 : Blk W1 w.heap.size 144 zH:=by
  have:=(Blk.new w 144 Z).alloc (.cells #[.int .u8 m] 5);rw [hW1,← hZ];exact this
 have hN1 : Blk W1 (w.heap.size + 1) 5 (bl [m]):=by
  have:=Blk.new (w.alloc (.cells Z.toArray 144)) 5 (bl [m]);rw [size_alloc] at this;rw [hW1];exact this
 have hO1 : Only (fun _ => False) w W1:=by rw [hW1];exact ((Only.refl _ _).alloc _).alloc _
 have WC:=Qaa (QbJ w.heap.size [] [m] (.slice (some ⟨w.heap.size + 1,0,none⟩) 1 1) W1 (Hs.zero hN2) (hN1.bs 1 rfl) (fun y hy => by simp at hy;subst hy;exact hm) (fun _ k hk e => by simp [Value.ownBlock] at hk;omega) (by simp));rw [show (([m] : List Int).length : Int) = 1 from rfl] at WC;have HO1:=Qaa hO1;have HW1:=Qaa hW1;have HP:=Qaa hp;obtain ⟨G,hG⟩ : ∃ G,G = w.heap.size:=⟨_,rfl⟩;have HG:=Qaa hG;clear hZ hW1 hN1 hN2 hO1 hp hm hG;go_enter Tryz.func76,Tryz.ntmps76;go_wp2_with fail;rw [← HW1.out];refine WC.out.mono ?_;rintro e w3 ⟨rfl,hs3,on3⟩;rw [List.nil_append] at hs3
 have S0 : Hid (Hs w3 G (m :: pcat ls 0)):=by
  show _
  rw [HG.out];exact .inl hs3
 have O0:=Qaa (HO1.out.trans on3 (fun i hi e => by omega));rw [← HG.out];clear hs3 on3 WC HW1 HO1 hzv;go_wp2
 go_loopw [13] (fun i wr => ∃ j : Nat,j ≤ n ∧ i = .int .i64 j ∧ Hid (Hs wr G (m :: pcat ls j)) ∧ Hid (Only (fun _ => False) w wr)) (fun i _ => n - (intOf i).toNat)
 case atStart => exact ⟨0,by omega,rfl,S0,O0⟩
 case round =>
  obtain ⟨j,hj,rfl,hS,hO⟩:=hrel;clear S0 O0
  by_cases hlt : j < n
  ·obtain ⟨u,hu,hbu,hu8⟩:=HP.out j hlt
   have hc : wr.cell? ⟨p,j,none⟩ = some u:=Qar hu hO.out;have hle:=Qg5 ls (j + 1) n (by omega);have A:=Qaa (QbJ G (m :: pcat ls j) (ls j) u wr hS.out (hbu.past hO.out) hu8 (fun hx k hk e => by have:=hbu.blk_lt hx k hk;have:=HG.out;omega) (by rw [pcat,List.length_append] at hle;rw [List.length_cons];omega));have dlt : decide ((j : Int) < (n : Int)) = true:=decide_eq_true (by omega);have dlt' : decide (j < n) = true:=decide_eq_true hlt
   have i0 : (0 : Int) ≤ (j : Int):=by omega
   have i1 : (j : Int) < (n : Int):=by omega
   clear hu hbu hu8 hS hle;go_wp2_with fail;refine A.out.mono ?_;rintro e w4 ⟨rfl,hs4,on4⟩
   have N1 : Hid (Hs w4 G (m :: pcat ls (j + 1))):=by
    show _
    rw [pcat];exact .inl hs4
   have N2:=Qaa (hO.out.trans on4 (fun i hi e => by have:=HG.out;omega));clear hs4 on4 A hO hc;go_wp2
   go_roundw
   case rel => exact ⟨j + 1,by omega,by go_num,N1,N2⟩
   case measure => simp [intOf];omega
  ·obtain rfl : j = n:=by omega
   have A:=Qaa (Qe1 G (m :: pcat ls j) wr hS.out (by rw [List.length_cons];omega));have dlt : decide ((j : Int) < (j : Int)) = false:=decide_eq_false (by omega);clear hS;go_wp2_with fail;refine A.out.mono ?_;rintro e w4 ⟨v4,rfl,own4,on4⟩;have F1:=Qaa (Qal own4 hO.out.size);have F2:=Qaa (hO.out.same on4);obtain ⟨ao4,cap4,e4⟩:=Qad own4;subst e4;clear own4 on4 A;go_wp2;go_ret;exact ⟨_,rfl,F1.out,F2.out⟩
theorem Qiw (v : Value) (xs : List Int) (w : World) (hb : Bs .u8 w v xs) (h8 : U8 xs) (hl : xs.length ≤ 10000000000) :
  Calls Tryz.prog 49 #[v] w fun e w' => ∃ v',e = .returned v' ∧ w'.ownsRow w.heap.size 5 1 v' 32 (bl (LEAF xs)) ∧ Only (fun _ => False) w w':=by
 have A:=Qaa (QbK 0 (by decide) w.heap.size 1 (fun _ => xs) (w.alloc (.cells #[v] 22)) (Ps.one hb h8) (by rw [QbH];exact hl) (by decide));rw [QbH] at A;have HO:=Qaa (((Only.refl (fun _ => False) w)).alloc (.cells #[v] 22));obtain ⟨ao,cap,rfl⟩:=hb.len;obtain ⟨n,hn⟩ : ∃ n,n = xs.length:=⟨_,rfl⟩;rw [← hn] at A HO ⊢;clear hb h8 hl hn;go_enter Tryz.func49,Tryz.ntmps49;go_wp2_with fail;refine A.out.mono ?_;rintro e w4 ⟨v4,rfl,own4,on4⟩;have F1:=Qaa (Qal own4 HO.out.size);have F2:=Qaa (HO.out.same on4);obtain ⟨ao4,cap4,e4⟩:=Qad own4;subst e4;clear own4 on4 A;go_wp2;go_ret;exact ⟨_,rfl,F1.out,F2.out⟩
theorem Qix (vl vr : Value) (l r : List Int) (w : World) (hb : Bs .u8 w vl l) (hr : Bs .u8 w vr r) (h8 : U8 l) (r8 : U8 r) (hl : l.length ≤ 1000000000) (hl' : r.length ≤ 1000000000) :
  Calls Tryz.prog 108 #[vl,vr] w fun e w' => ∃ v',e = .returned v' ∧ w'.ownsRow w.heap.size 5 1 v' 32 (bl (NODE l r)) ∧ Only (fun _ => False) w w':=by
 have A:=Qaa (QbK 1 (by decide) w.heap.size 2 (ptwo l r) (w.alloc (.cells #[vl,vr] 22)) (Ps.two hb hr h8 r8) (by rw [Qfs,List.length_append];omega) (by decide));rw [Qfs] at A;have HO:=Qaa (((Only.refl (fun _ => False) w)).alloc (.cells #[vl,vr] 22));obtain ⟨ao,cap,rfl⟩:=hb.len;obtain ⟨ao',cap',rfl⟩:=hr.len;obtain ⟨n,hn⟩ : ∃ n,n = l.length:=⟨_,rfl⟩;obtain ⟨n',hn'⟩ : ∃ n,n = r.length:=⟨_,rfl⟩;rw [← hn,← hn'] at A HO ⊢;clear hb h8 hl hn hr r8 hl' hn';go_enter Tryz.func108,Tryz.ntmps108;go_wp2_with fail;refine A.out.mono ?_;rintro e w4 ⟨v4,rfl,own4,on4⟩;have F1:=Qaa (Qal own4 HO.out.size);have F2:=Qaa (HO.out.same on4);obtain ⟨ao4,cap4,e4⟩:=Qad own4;subst e4;clear own4 on4 A;go_wp2;go_ret;exact ⟨_,rfl,F1.out,F2.out⟩
theorem Qiy (v : Int) (w : World) (h0 : 0 ≤ v) (h1 : v ≤ 18446744073709551615) :
  Calls Tryz.prog 147 #[.int .u64 v] w fun e w' => e = .returned (.int .i64 (wid v.toNat)) ∧ w = w':=by
 have A:=Qaa (QgN v w h0 h1);obtain ⟨z,hz⟩ : ∃ z : Int,z = (wid v.toNat : Int):=⟨_,rfl⟩;rw [← hz] at A ⊢;clear hz;go_enter Tryz.func147,Tryz.ntmps147;go_wp2_with fail;refine A.out.mono ?_;rintro e w1 ⟨rfl,rfl⟩;go_wp2;go_ret;exact ⟨rfl,rfl⟩
theorem Qiz {n : Nat} (h : 2 ≤ n) : HALF n = 2 ^ (wid (n - 1) - 1):=by
 unfold HALF wid;rw [if_neg (by omega),Nat.add_sub_cancel]
theorem QgX (n : Nat) (h : 2 ≤ n) (hn : n ≤ 1000000000000) (w : World) :
  Calls Tryz.prog 107 #[.int .i64 n] w fun e w' => e = .returned (.int .i64 (HALF n)) ∧ w = w':=by
 obtain ⟨d,hd⟩ : ∃ d,d = wid (n - 1) - 1:=⟨_,rfl⟩
 have hw1 : wid (n - 1) = d + 1:=by
  have : wid (n - 1) ≠ 0:=by unfold wid;rw [if_neg (by omega)];omega
  omega
 have hd40 : d ≤ 40:=by
  have:=(QaE (n - 1) 40).2 (by omega);omega
 have hH:=Qiz h;rw [← hd] at hH;have A:=Qaa (Qiy (n - 1 : Int) w (by omega) (by omega));rw [show ((n : Int) - 1).toNat = n - 1 by omega,hw1] at A;have HH:=Qaa hH
 have e1 : (((d + 1 : Nat)) : Int) - 1 = (d : Int):=by omega
 clear hd hw1 hH;go_enter Tryz.func107,Tryz.ntmps107;go_wp2_with fail;refine A.out.mono ?_;rintro e w1 ⟨rfl,rfl⟩;go_wp2;go_ret;refine ⟨Qbt ?_,rfl⟩;have hp : (2 : Nat) ^ d ≤ 2 ^ 40:=Nat.pow_le_pow_right (by omega) hd40
 have h40 : (2 : Nat) ^ 40 = 1099511627776:=by decide
 have e2 : (2 : Int) ^ d = ((2 ^ d : Nat) : Int):=(Int.natCast_pow 2 d).symm;rw [HH.out,e2];rw [h40] at hp;clear e2 h40;generalize (2 : Nat) ^ d = z at hp ⊢;exact IntWalk.wrap64_in _ (by omega)
end Go.Proofs.YtcpopagikbjimaaGreatDoor
