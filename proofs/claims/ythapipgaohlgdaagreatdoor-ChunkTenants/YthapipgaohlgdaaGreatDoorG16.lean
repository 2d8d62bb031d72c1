/- Several texts in one: Gd, Gd2, Gd3, Vr11, Vd. -/
import Derived.Test.YthapipgaohlgdaaGreatDoorG15
import Derived.Laws.OwnMore
import Derived.Test.YthapipgaohlgdaaGreatDoorG6
import Derived.Test.YthapipgaohlgdaaGreatDoorG7
import Derived.Test.YthapipgaohlgdaaGreatDoorG13
import Derived.Test.YthapipgaohlgdaaGreatDoorG14


namespace Go.Proofs.YthapipgaohlgdaaGreatDoor
open Go.RowKit
theorem W2.win {wn : Option (Nat × Nat)} {a d : Nat} (h : W2 wn a d) : Win wn:=by
 rcases h with ⟨rfl,_,_⟩ | ⟨z,rfl,h1,h2,h3⟩
 ·exact Win.none
 ·intro a' z' e
  simp only [Option.some.injEq,Prod.mk.injEq] at e
  obtain ⟨rfl,rfl⟩:=e
  omega
theorem gread_any {w : World} {R : Nat} {v : Value} {ys : List Int} {p : Nat} (h : RdAt 176 w R v ys p) (hv : ∀ k,v.ownBlock = some k → k < w.heap.size) (wn : Option (Nat × Nat)) (a d : Nat) (hw : W2 wn a d) (r : List Bool) (hr : (allBits ys).drop p = r) :
  Calls Tryz.prog 182 #[.pointer (some ⟨R,0,none⟩),.agg #[.int .i64 a,.int .i64 d]] w fun e w' =>
   ((gR wn r).2.2.2 ≠ 0 ∧ Bad w R (gR wn r).2.2.2 e w') ∨ ((gR wn r).2.2.2 = 0 ∧ ∃ a' d',W2 (gR wn r).2.1 a' d' ∧ Good w R v ys (gR wn r).1 a' d' (gR wn r).2.2.1 e w'):=by
 match r,hr with
 | [],hr => exact (read_end h hv a d hr).mono fun e w' b => .inl ⟨by simp [gR],by simpa [gR] using b⟩
 | false :: r,hr => exact (read_same h hv a d r hr).mono fun e w' b => .inr ⟨by simp [gR],a,d,by simpa [gR] using hw,by simpa [gR] using b⟩
 | [true],hr => exact (read_cut1 h hv a d hr).mono fun e w' b => .inl ⟨by simp [gR],by simpa [gR] using b⟩
 | true :: false :: r,hr =>
  rcases hw with ⟨rfl,rfl,rfl⟩ | ⟨z,rfl,h1,h2,h3⟩
  ·exact (gread_none h hv r hr).mono fun e w' b => .inl ⟨by simp [gR],by simpa [gR] using b⟩
  ·have e1 : 64 - a - z = d:=by omega
   by_cases hc : r.length < d
   ·have e : gR (some (a,z)) (true :: false :: r) = (0,some (a,z),r,2):=by rw [gR];simp only [e1];rw [if_pos hc]
    rw [e]
    exact (read_in_cut h hv a d z r h2 h3 hc hr).mono fun e w' b => .inl ⟨by simp,b⟩
   ·have e : gR (some (a,z)) (true :: false :: r) = (bnum (r.take d) * 2 ^ z,some (a,z),r.drop d,0):=by rw [gR];simp only [e1];rw [if_neg hc]
    rw [e]
    exact (read_in h hv a d z r h2 h3 (by omega) hr).mono fun e w' b => .inr ⟨rfl,a,d,.inr ⟨z,rfl,h1,h2,h3⟩,b⟩
 | true :: true :: r,hr =>
  by_cases c2 : r.length < 11
  ·have e : ∃ q,gR wn (true :: true :: r) = q ∧ q.2.2.2 = 2:=by
    refine ⟨_,rfl,?_⟩
    rw [gR]
    by_cases c1 : r.length < 5
    ·rw [if_pos c1]
    ·rw [if_neg c1,if_pos c2]
   obtain ⟨q,e,e2⟩:=e
   rw [e,e2]
   exact (read_new_cut h hv a d r c2 hr).mono fun e w' b => .inl ⟨by simp,b⟩
  ·obtain ⟨_,b5,b6⟩:=bnum_11 r (by omega)
   by_cases c3 : 63 < bnum (r.take 5) + bnum ((r.drop 5).take 6)
   ·have e : gR wn (true :: true :: r) = (0,wn,r,3):=by rw [gR,if_neg (by omega),if_neg c2,if_pos c3]
    rw [e]
    exact (read_new_bad h hv a d r (by omega) c3 hr).mono fun e w' b => .inl ⟨by simp,b⟩
   ·have hs : bnum (r.take 5) + (63 - bnum (r.take 5) - bnum ((r.drop 5).take 6)) + (bnum ((r.drop 5).take 6) + 1) = 64:=by omega
    by_cases c4 : r.length < 12 + bnum ((r.drop 5).take 6)
    ·have e : gR wn (true :: true :: r) = (0,wn,r,2):=by rw [gR,if_neg (by omega),if_neg c2,if_neg c3,if_pos c4]
     rw [e]
     exact (read_new_cut2 h hv a d _ _ _ r (by omega) rfl (by simp) hs (by omega) hr).mono fun e w' b => .inl ⟨by simp,b⟩
    ·have e : gR wn (true :: true :: r) = (bnum ((r.drop 11).take (bnum ((r.drop 5).take 6) + 1)) * 2 ^ (63 - bnum (r.take 5) - bnum ((r.drop 5).take 6)),some (bnum (r.take 5),63 - bnum (r.take 5) - bnum ((r.drop 5).take 6)),r.drop (12 + bnum ((r.drop 5).take 6)),0):=by
      rw [gR,if_neg (by omega),if_neg c2,if_neg c3,if_neg c4]
     rw [e]
     refine (read_new h hv a d _ _ _ r (by omega) rfl (by simp) hs (by omega) hr).mono fun e w' b => .inr ⟨rfl,_,_,.inr ⟨_,rfl,by omega,hs,by omega⟩,?_⟩
     rw [show 11 + (bnum ((r.drop 5).take 6) + 1) = 12 + bnum ((r.drop 5).take 6) by omega] at b
     exact b
structure Rl (w : World) (R K : Nat) (v : Value) (ys : List Int) (wr : World) (l : Value) (acc : List Int) (p : Nat) (a d : Nat) : Prop where
 rd : RdAt 176 wr R v ys p
 on : Only (fun k => k = R) w wr
 own : wr.ownsRow w.heap.size 42 1 l acc.length (acc.map (Value.int .u64))
 nb : ∀ q,l.ownBlock = some q → q ≠ K
 gt : w.heap.size ≤ K
 box : wr.heap[K]? = some (.cells #[.int .i64 a,.int .i64 d] 148 (0,0))
theorem Rl.next {w : World} {R K : Nat} {v : Value} {ys : List Int} {wr w2 : World} {l : Value} {acc : List Int} {p p2 a d : Nat} (h : Rl w R K v ys wr l acc p a d) (hR : R < w.heap.size) (hv : ∀ k,v.ownBlock = some k → k < w.heap.size)
  (h2 : RdAt 176 w2 R v ys p2) (o : Only (fun k => k = R) wr w2) (a2 d2 : Nat) : Rl w R K v ys ((w2.setCell ⟨K,0,none⟩ (.int .i64 a2)).setCell ⟨K,1,none⟩ (.int .i64 d2)) l acc p2 a2 d2:=by
 have hg:=h.gt
 have hbox:=o.heap h.box (fun e => by omega)
 have o2:=setCell2_only (w:=w2) (K:=K) (S:=fun k => k = K) (.int .i64 a2) (.int .i64 d2) rfl
 have hown:=o.own h.own (fun k hk e => by have:=(h.own.lt k hk).1;omega)
 exact ⟨h2.keep o2 (fun f => by omega) (fun k hk f => by have:=hv k hk;omega),(h.on.trans o (fun _ _ e => e)).trans o2 (fun k hk e => by omega),o2.own hown (fun k hk e => h.nb k hk e),h.nb,h.gt,setCell2_heap _ _ hbox⟩
theorem Rl.grow {w : World} {R K : Nat} {v : Value} {ys : List Int} {wr w2 : World} {l l2 : Value} {acc acc2 : List Int} {p a d : Nat} {o : Obj} (h : Rl w R K v ys wr l acc p a d) (hR : R < w.heap.size) (hv : ∀ k,v.ownBlock = some k → k < w.heap.size)
  (g : (wr.alloc o).grownBy w2 l.ownBlock) (own : w2.ownsRow w.heap.size 42 1 l2 acc2.length (acc2.map (Value.int .u64))) (hat : ∀ q,l2.ownBlock = some q → l.ownBlock = some q ∨ wr.heap.size ≤ q) : Rl w R K v ys w2 l2 acc2 p a d:=by
 have hg:=h.gt
 have oo : Only (fun k => l.ownBlock = some k) wr w2:=((Only.refl (fun k => l.ownBlock = some k) wr).alloc o).grown g (fun k _ e => e)
 exact ⟨h.rd.keep oo (fun e => by have:=(h.own.lt _ e).1;omega) (fun k hk e => by have:=(h.own.lt _ e).1;have:=hv k hk;omega),
  h.on.trans oo (fun k hk e => by have:=(h.own.lt _ e).1;omega),own,fun q hq => by
   rcases hat q hq with e | e
   ·exact h.nb q e
   ·have:=heap_in h.box;omega,h.gt,oo.heap h.box (fun e => h.nb _ e rfl)⟩
end Go.Proofs.YthapipgaohlgdaaGreatDoor


namespace Go.Proofs.YthapipgaohlgdaaGreatDoor
set_option maxRecDepth 100000
open Go.RowKit
def lenV : Value → Nat | .slice _ n _ => n | _ => 0
theorem gDA_done {acc : List Int} {N : Nat} (h : N ≤ acc.length) (p : Nat) (wn : Option (Nat × Nat)) (l : List Bool) : gDA (N - acc.length) acc p wn l = (acc,0):=by
 rw [show N - acc.length = 0 by omega,gDA]
theorem gDA_bad {acc : List Int} {N : Nat} (h : acc.length < N) (p : Nat) (wn : Option (Nat × Nat)) (l : List Bool) (hb : (gR wn l).2.2.2 ≠ 0) : gDA (N - acc.length) acc p wn l = ([],(gR wn l).2.2.2):=by
 rw [show N - acc.length = (N - acc.length - 1) + 1 by omega,gDA,if_pos hb]
theorem gDA_next {acc : List Int} {N : Nat} (h : acc.length < N) (p : Nat) (wn : Option (Nat × Nat)) (l : List Bool) (hb : (gR wn l).2.2.2 = 0) :
  gDA (N - acc.length) acc p wn l = gDA (N - (acc ++ [((p ^^^ (gR wn l).1 : Nat) : Int)]).length) (acc ++ [((p ^^^ (gR wn l).1 : Nat) : Int)]) (p ^^^ (gR wn l).1) (gR wn l).2.1 (gR wn l).2.2.1:=by
 rw [show N - acc.length = (N - acc.length - 1) + 1 by omega,gDA,if_neg (by simp [hb]),List.length_append,List.length_singleton,show N - acc.length - 1 = N - (acc.length + 1) by omega]
set_option maxHeartbeats 400000 in
theorem readAll_nil {w : World} (R : Nat) :
  Calls Tryz.prog 161 #[.pointer (some ⟨R,0,none⟩),.int .i64 0] w fun e w' => e = .returned (.tuple #[.slice none 0 0,.int .i64 0]) ∧ w = w':=by
 go_enter Tryz.func161,Tryz.ntmps161
 go_wp2
 go_ret2
 exact ⟨rfl,rfl⟩
set_option maxHeartbeats 400000 in
theorem readAll_cut {w : World} {R : Nat} {v : Value} {ys : List Int} (h : RdAt 176 w R v ys 0) (N : Nat) (hN : 0 < N) (hs : (allBits ys).length < 64) :
  Calls Tryz.prog 161 #[.pointer (some ⟨R,0,none⟩),.int .i64 N] w fun e w' => e = .returned (.tuple #[.slice none 0 0,.int .i64 2]) ∧ Only (fun k => k = R) w w':=by
 have G:=hideIt (get_cut h 64 (by omega) _ rfl (by simpa using hs))
 have d0 : ((N : Int) == 0) = false:=by rw [beq_eq_false_iff_ne];omega
 clear h hs
 go_enter Tryz.func161,Tryz.ntmps161
 go_wp2_with fail
 refine G.out.mono ?_
 rintro e w1 ⟨rfl,o1⟩
 have O1:=hideIt (o1.mono (T:=fun k => k = R) (fun _ _ f => f.elim))
 clear o1 G
 go_wp2
 go_ret2
 exact ⟨rfl,O1.out⟩
set_option maxHeartbeats 2000000 in
theorem readAll_any {w : World} {R : Nat} {v : Value} {ys : List Int} (h : RdAt 176 w R v ys 0) (hv : ∀ k,v.ownBlock = some k → k < w.heap.size) (N : Nat) (hN : 0 < N) (hN2 : N ≤ 65536) (hs : 64 ≤ (allBits ys).length) :
  Calls Tryz.prog 161 #[.pointer (some ⟨R,0,none⟩),.int .i64 N] w fun e w' => ∃ u,e = .returned (.tuple #[u,.int .i64 (gRd (allBits ys) N).2]) ∧
   w'.ownsRow w.heap.size 42 1 u (gRd (allBits ys) N).1.length ((gRd (allBits ys) N).1.map (Value.int .u64)) ∧ Only (fun k => k = R) w w':=by
 obtain ⟨i0,hi,hz0,hz1,hz2⟩:=info_parts Tryz.infoU64
 have hR:=heap_in h.cell
 have HV:=hideIt hv
 have G:=hideIt (get_at h 64 (by omega) (allBits ys) rfl (by simpa using hs))
 have d0 : ((N : Int) == 0) = false:=by rw [beq_eq_false_iff_ne];omega
 have hf : bnum ((allBits ys).take 64) < 18446744073709551616:=by
  have:=bnum_take_lt (allBits ys) 64
  rwa [p64] at this
 have HG : Hid (gDA (N - [((bnum ((allBits ys).take 64) : Nat) : Int)].length) [((bnum ((allBits ys).take 64) : Nat) : Int)] (bnum ((allBits ys).take 64)) none ((allBits ys).drop 64) = gRd (allBits ys) N):=by
  simp only [Hid];unfold gRd;rw [if_neg (by omega),if_neg (by omega)];rfl
 obtain ⟨q,hq⟩ : ∃ q,q = gRd (allBits ys) N:=⟨_,rfl⟩
 rw [← hq] at HG
 rw [← hq]
 obtain ⟨f0,hf0⟩ : ∃ f0,f0 = bnum ((allBits ys).take 64):=⟨_,rfl⟩
 rw [← hf0] at HG G hf
 clear h hs hv hq hf0
 go_enter Tryz.func161,Tryz.ntmps161
 go_wp2_with fail
 refine G.out.mono ?_
 rintro e w1 ⟨rfl,r1,q1,o1⟩
 have hrow : (w1.alloc (.cells #[.int .u64 f0] 42)).ownsRow w.heap.size 42 1 (.slice (some ⟨w1.heap.size,0,none⟩) 1 1) 1 [.int .u64 f0]:=World.ownsRow_lit w1 #[.int .u64 f0] 1 o1.size (by unfold maxLen;omega) rfl
 have oA : Only (fun _ => False) w1 ((w1.alloc (.cells #[.int .u64 f0] 42)).alloc (.cells #[.int .i64 0,.int .i64 0] 148)):=((Only.refl _ w1).alloc _).alloc _
 have L1 : Hid (Rl w R (w1.heap.size + 1) v ys ((w1.alloc (.cells #[.int .u64 f0] 42)).alloc (.cells #[.int .i64 0,.int .i64 0] 148)) (.slice (some ⟨w1.heap.size,0,none⟩) 1 1) [(f0 : Int)] (0 + 64) 0 0):=by
  refine ⟨r1.keep oA (fun f => f) (fun _ _ f => f),o1.trans oA (fun _ _ f => f.elim),hrow.alloc _,fun q hq => ?_,?_,?_⟩
  ·simp only [Value.ownBlock,Option.some.injEq] at hq;omega
  ·have:=o1.size;omega
  ·have:=heap_alloc_last (w1.alloc (.cells #[.int .u64 f0] 42)) (.cells #[.int .i64 0,.int .i64 0] 148)
   rwa [show (w1.alloc (.cells #[.int .u64 f0] 42)).heap.size = w1.heap.size + 1 from Array.size_push ..] at this
 clear r1 q1 o1 hrow oA G
 go_wp2
 go_loopw [6,8] (fun x l wr => ∃ (f : Nat) (acc : List Int) (wn : Option (Nat × Nat)) (p a d : Nat),x = .int .u64 f ∧ f < 18446744073709551616 ∧ Rl w R (w1.heap.size + 1) v ys wr l acc p a d ∧ W2 wn a d ∧ gDA (N - acc.length) acc f wn ((allBits ys).drop p) = q ∧ 0 < acc.length ∧ acc.length ≤ N) (fun _ l _ => N - lenV l)
 case atStart => exact ⟨f0,[(f0 : Int)],none,0 + 64,0,0,rfl,hf,L1.out,W2.none,HG.out,by simp,by simp;omega⟩
 case round =>
  clear L1 HG hf
  obtain ⟨f,acc,wn,p,a,d,rfl,hf,hrl,hw,hg,ha0,haN⟩:=hrel
  obtain ⟨a6,c6,e6⟩:=(Bs.of_own hrl.own).len
  subst e6
  have L:=hideIt hrl
  have HW:=hideIt hw
  have hvr : ∀ k,v.ownBlock = some k → k < wr.heap.size:=fun k hk => Nat.lt_of_lt_of_le (HV.out k hk) hrl.on.size
  by_cases hlt : acc.length < N
  ·have dl : decide ((acc.length : Int) < (N : Int)) = true:=by simp;omega
   have RD:=hideIt (gread_any hrl.rd hvr wn a d hw _ rfl)
   obtain ⟨c0,c1,b0,b1⟩:=two_cells hrl.box
   have hgk:=hrl.gt
   by_cases hb : (gR wn ((allBits ys).drop p)).2.2.2 = 0
   ·have hok:=gR_ok hw.win _ hb
    have HNX:=hideIt ((gDA_next hlt f wn _ hb).symm.trans hg)
    obtain ⟨g,hgr⟩ : ∃ g,g = gR wn ((allBits ys).drop p):=⟨_,rfl⟩
    rw [← hgr] at RD HNX hok hb
    have HB:=hideIt hb
    have hxx:=bits_xor_u64_nat f g.1 hf hok.1
    have hxl:=xor_lt hf hok.1
    obtain ⟨y,hy⟩ : ∃ y,y = f ^^^ g.1:=⟨_,rfl⟩
    rw [← hy] at hxx hxl HNX
    obtain ⟨m,hm⟩ : ∃ m,m = acc.length:=⟨_,rfl⟩
    rw [← hm] at dl hlt ⊢
    have HM:=hideIt hm
    clear hrl hw hg hgr hok hb hy hm
    go_wp2_with fail
    refine RD.out.mono ?_
    rintro e w2 (⟨hbad,_⟩ | ⟨_,a2,d2,hw2,rfl,⟨p2,r2,q2⟩,o2⟩)
    ·exact absurd HB.out hbad
    have L2:=hideIt (L.out.next hR HV.out r2 o2 a2 d2)
    have HW2:=hideIt hw2
    have Q2:=hideIt q2
    obtain ⟨_,_,_,_⟩:=two_cells (o2.heap L.out.box (fun e => by omega))
    have hsz:=Nat.le_trans L.out.on.size o2.size
    clear c0 c1 b0 b1 L RD HW hvr r2 o2 hw2 q2
    obtain ⟨w3,h3⟩ : ∃ w3,w3 = (w2.setCell ⟨w1.heap.size + 1,0,none⟩ (.int .i64 a2)).setCell ⟨w1.heap.size + 1,1,none⟩ (.int .i64 d2):=⟨_,rfl⟩
    have hown:=L2.out.own
    rw [← HM.out] at hown
    have hsz2:=L2.out.on.size
    rw [← h3] at L2 hsz2 hown
    have H3:=hideIt h3
    clear h3
    have hm7 : m + 1 ≤ 65536:=by omega
    have hws : w3.heap.size = w2.heap.size:=by rw [H3.out];simp
    have hwa : (w3.alloc (.cells #[.int .u64 y] 42)).heap.size = w2.heap.size + 1:=by rw [← hws];exact Array.size_push ..
    have hnew : ∀ j u,[Value.int .u64 y][j]? = some u → (w3.alloc (.cells #[.int .u64 y] 42)).cell? ((⟨w2.heap.size,0,none⟩ : Addr).add j) = some u:=by rw [← hws];exact cell_one_new _ _ _
    have HWS:=hideIt hws
    have HWA:=hideIt hwa
    have HNEW:=hideIt hnew
    have HOWN:=hideIt (hown.alloc (.cells #[.int .u64 y] 42))
    have hba : w.heap.size ≤ w2.heap.size + 1:=by omega
    clear hws hwa hnew hown
    go_wp2_with (at_builtin;rw [← H3.out];refine wpList_append_lies _ rfl _ _ _ rfl w.heap.size 42 i0 (.int .u64 0) 1 8 Tryz.underlying46 hi hz0 hz1 hz2 rfl (by omega) _ m _ rfl HOWN.out ⟨w2.heap.size,0,none⟩ 1 1 [.int .u64 y] rfl rfl HNEW.out ?c2 (by omega) ?c3 ?c4 ?c5 (w2.heap.size + 1) HWA.out ?_)
    case c2 => intro u hu;simp at hu;subst hu;rfl
    case c3 => unfold maxLen;omega
    case c4 => omega
    case c5 => rw [HWA.out];exact hba
    intro g2 cap1 w4 hown1 hgrow hat hg1
    have own4 : w4.ownsRow w.heap.size 42 1 (.slice (some ⟨g2,0,none⟩) (m + 1) cap1) (acc ++ [(y : Int)]).length ((acc ++ [(y : Int)]).map (Value.int .u64)):=by
     rw [List.length_append,← HM.out,List.map_append];exact hown1
    have hgrow2 : (w3.alloc (.cells #[.int .u64 y] 42)).grownBy w4 (Value.slice a6 acc.length c6).ownBlock:=by
     have : (Value.slice a6 acc.length c6).ownBlock = (Value.slice a6 m c6).ownBlock:=by cases a6 <;> rfl
     rw [this];exact hgrow
    have L4:=hideIt (L2.out.grow hR HV.out hgrow2 own4 (fun r hr => by
     simp only [Value.ownBlock,Option.some.injEq] at hr
     subst hr
     rcases hat with e | e
     ·left
      have : (Value.slice a6 acc.length c6).ownBlock = (Value.slice a6 m c6).ownBlock:=by cases a6 <;> rfl
      rw [this];exact e
     ·right;rw [HWS.out];omega))
    have HLE : Hid ((acc ++ [(y : Int)]).length ≤ N ∧ 0 < (acc ++ [(y : Int)]).length):=by
     simp only [Hid];rw [List.length_append,← HM.out,List.length_singleton];omega
    clear hown1 hgrow hat hg1 own4 hgrow2 L2 HOWN HNEW HWA HWS
    go_wp2
    go_roundw
    case rel => exact ⟨y,_,g.2.1,p2,a2,d2,rfl,hxl,L4.out,HW2.out,by rw [Q2.out];exact HNX.out,HLE.out.2,HLE.out.1⟩
    case measure => simp only [lenV];omega
   ·have HBAD:=hideIt ((gDA_bad hlt f wn _ hb).symm.trans hg)
    obtain ⟨g,hgr⟩ : ∃ g,g = gR wn ((allBits ys).drop p):=⟨_,rfl⟩
    rw [← hgr] at RD HBAD hb
    have HB:=hideIt hb
    have dc : (g.2.2.2 != 0) = true:=by simpa using hb
    obtain ⟨c,hc⟩ : ∃ c,c = g.2.2.2:=⟨_,rfl⟩
    rw [← hc] at RD HBAD HB dc
    obtain ⟨m,hm⟩ : ∃ m,m = acc.length:=⟨_,rfl⟩
    rw [← hm] at dl hlt ⊢
    clear hrl hw hg hgr hb hc hm
    go_wp2_with fail
    refine RD.out.mono ?_
    rintro e w2 (⟨_,x,a2,d2,rfl,o2⟩ | ⟨hgood,_⟩)
    case inr => exact absurd hgood HB.out
    obtain ⟨_,_,_,_⟩:=two_cells (o2.heap L.out.box (fun e => by omega))
    have O2:=hideIt (L.out.on.trans o2 (fun _ _ e => e))
    clear c0 c1 b0 b1 L RD HW hvr o2
    go_wp2
    go_ret2
    have hq:=HBAD.out
    subst hq
    refine ⟨.slice none 0 0,rfl,World.ownsRow_nil _ _ _ _,?_⟩
    exact (O2.out.setCell (p:=⟨w1.heap.size + 1,0,none⟩) (fun (f : w1.heap.size + 1 < w.heap.size) => absurd f (by omega)) _).setCell (p:=⟨w1.heap.size + 1,1,none⟩) (fun (f : w1.heap.size + 1 < w.heap.size) => absurd f (by omega)) _
  ·have dl : decide ((acc.length : Int) < (N : Int)) = false:=by simp;omega
   have HR : Hid (q = (acc,0)):=by simp only [Hid];rw [← hg,gDA_done (by omega)]
   clear hrl hw hg hvr
   obtain ⟨m,hm⟩ : ∃ m,m = acc.length:=⟨_,rfl⟩
   rw [← hm] at dl hlt ⊢
   have HM:=hideIt hm
   clear hm
   go_wp2
   go_ret2
   rw [HR.out]
   exact ⟨_,rfl,by have:=L.out.own;rw [HM.out];exact this,L.out.on⟩
end Go.Proofs.YthapipgaohlgdaaGreatDoor


namespace Go.Proofs.YthapipgaohlgdaaGreatDoor
open Go.RowKit
theorem readAll_all {w : World} {R : Nat} {v : Value} {ys : List Int} (h : RdAt 176 w R v ys 0) (hv : ∀ k,v.ownBlock = some k → k < w.heap.size) (N : Nat) (hN2 : N ≤ 65536) :
  Calls Tryz.prog 161 #[.pointer (some ⟨R,0,none⟩),.int .i64 N] w fun e w' => ∃ u,e = .returned (.tuple #[u,.int .i64 (gRd (allBits ys) N).2]) ∧
   w'.ownsRow w.heap.size 42 1 u (gRd (allBits ys) N).1.length ((gRd (allBits ys) N).1.map (Value.int .u64)) ∧ Only (fun k => k = R) w w':=by
 by_cases h0 : N = 0
 ·subst h0
  have e : gRd (allBits ys) 0 = ([],0):=by unfold gRd;rw [if_pos rfl]
  rw [e]
  refine (readAll_nil R).mono ?_
  rintro e w' ⟨rfl,rfl⟩
  exact ⟨_,rfl,World.ownsRow_nil _ _ _ _,Only.refl _ _⟩
 ·by_cases hs : (allBits ys).length < 64
  ·have e : gRd (allBits ys) N = ([],2):=by unfold gRd;rw [if_neg h0,if_pos hs]
   rw [e]
   refine (readAll_cut h N (by omega) hs).mono ?_
   rintro e w' ⟨rfl,o⟩
   exact ⟨_,rfl,World.ownsRow_nil _ _ _ _,o⟩
  ·exact readAll_any h hv N (by omega) hN2 (by omega)
set_option maxHeartbeats 400000 in
theorem decode9_arg (v : Value) (n : Int) (w : World) (h : n < 0 ∨ 65536 < n) :
  Calls Tryz.prog 129 #[v,.int .i64 n] w fun e w' => e = .returned (.tuple #[.slice none 0 0,.int .i64 1]) ∧ w = w':=by
 by_cases h0 : n < 0
 ·have d0 : decide (n < 0) = true:=decide_eq_true h0
  clear h
  go_enter Tryz.func129,Tryz.ntmps129
  go_wp2
  go_ret2
  exact ⟨rfl,rfl⟩
 ·have d0 : decide (n < 0) = false:=decide_eq_false h0
  have d1 : decide (65536 < n) = true:=decide_eq_true (by omega)
  clear h
  go_enter Tryz.func129,Tryz.ntmps129
  go_wp2
  go_ret2
  exact ⟨rfl,rfl⟩
set_option maxHeartbeats 1000000 in
theorem decode9_bs (v : Value) (ys : List Int) (N : Nat) (w : World) (h : Bs .u8 w v ys) (hr : ∀ y ∈ ys,0 ≤ y ∧ y ≤ 255) (hl : ys.length ≤ 1000000000) (hN : N ≤ 65536) (hT : Tab w) :
  Calls Tryz.prog 129 #[v,.int .i64 N] w fun e w' => ∃ u,e = .returned (.tuple #[u,.int .i64 (DEC9 ys N).2]) ∧ w'.ownsRow w.heap.size 42 1 u (DEC9 ys N).1.length ((DEC9 ys N).1.map (Value.int .u64)) ∧ Only (fun _ => False) w w':=by
 obtain ⟨D,hD⟩ : ∃ D,D = DEC9 ys N:=⟨_,rfl⟩
 rw [← hD]
 unfold DEC9 at hD
 rw [if_neg (by omega),Int.toNat_natCast] at hD
 have d0 : decide ((N : Int) < 0) = false:=by simp
 have d1 : decide (65536 < (N : Int)) = false:=by simp;omega
 have HD:=hideIt hD
 have HB:=hideIt h
 have HR:=hideIt hr
 have NR:=hideIt (newReader_bs v ys w h hr (by omega))
 clear h hr hD
 go_enter Tryz.func129,Tryz.ntmps129
 go_wp2_with fail
 refine NR.out.mono ?_
 rintro e w1 ⟨R,v1,rfl,r1,o1,g1,g2,g3⟩
 have RA:=hideIt (readAll_all r1 (fun k hk => (g3 k hk).2) N hN)
 have O1:=hideIt o1
 have S1:=o1.size
 clear NR r1 o1 g3
 go_wp2_with fail
 refine RA.out.mono ?_
 rintro e w2 ⟨u,rfl,own2,o2⟩
 have B2:=hideIt ((O1.out.low (Nat.le_refl _)).trans (o2.below (B:=w.heap.size) S1 (fun k e => by omega)))
 have OW2:=hideIt (own_low own2 S1)
 clear RA o2 O1
 by_cases hb : (gRd (allBits ys) N).2 ≠ 0
 ·have HD2 : Hid (D = ([],(gRd (allBits ys) N).2)):=by simp only [Hid];rw [HD.out,if_pos hb]
  have dc : ((gRd (allBits ys) N).2 != 0) = true:=by simpa using hb
  obtain ⟨c,hc⟩ : ∃ c,c = (gRd (allBits ys) N).2:=⟨_,rfl⟩
  rw [← hc] at HD2 dc ⊢
  clear HD hb hc own2
  go_wp2
  go_ret2
  have hD:=HD2.out
  subst hD
  exact ⟨_,rfl,World.ownsRow_nil _ _ _ _,only_of_below B2.out⟩
 ·have hok:=gRd_ok (l:=allBits ys) (n:=N) (by simpa using hb)
  have hz : (gRd (allBits ys) N).2 = 0:=by simpa using hb
  rw [hz]
  obtain ⟨L,hL⟩ : ∃ L,L = (gRd (allBits ys) N).1:=⟨_,rfl⟩
  have HD2 : Hid (D = if (ENC9 L).1 = ys then (L,0) else ([],3)):=by simp only [Hid];rw [HD.out,if_neg hb,← hL]
  rw [← hL] at hok OW2
  have EN:=hideIt (encode9_all u L w2 (Bs.of_own OW2.out) hok.1 (hT.below B2.out hT.pos))
  clear HD hb hz hL own2 hok
  obtain ⟨a6,c6,e6⟩:=(Bs.of_own OW2.out).len
  subst e6
  obtain ⟨m,hm⟩ : ∃ m,m = L.length:=⟨_,rfl⟩
  rw [← hm] at EN ⊢
  have HM:=hideIt hm
  clear hm
  go_wp2_with fail
  refine EN.out.mono ?_
  rintro e w3 ⟨v3,rfl,own3,o3⟩
  have EQ:=hideIt (equal_bs v3 v (ENC9 L).1 ys w3 (Bs.of_own own3) ((HB.out.later B2.out).past o3) (ENC9_rng L) HR.out)
  have O3:=hideIt ((only_of_below B2.out).same o3)
  have OW3:=hideIt (o3.own OW2.out (fun _ _ f => f))
  obtain ⟨a7,c7,e7⟩:=(Bs.of_own own3).len
  subst e7
  clear EN own3 o3 OW2
  generalize (ENC9 L).1 = E at *
  by_cases he : E = ys
  ·rw [decide_eq_true he] at EQ
   have hD:=HD2.out
   rw [if_pos he] at hD
   clear HD2 he
   have HD3:=hideIt hD
   clear hD
   obtain ⟨m2,hm2⟩ : ∃ m2,m2 = E.length:=⟨_,rfl⟩
   rw [← hm2] at EQ ⊢
   clear hm2
   go_wp2_with fail
   refine EQ.out.mono ?_
   rintro e w4 ⟨rfl,rfl⟩
   clear EQ
   go_wp2
   go_ret2
   have hD:=HD3.out
   subst hD
   exact ⟨_,rfl,by have:=OW3.out;rw [HM.out];exact this,O3.out⟩
  ·rw [decide_eq_false he] at EQ
   have hD:=HD2.out
   rw [if_neg he] at hD
   clear HD2 he
   have HD3:=hideIt hD
   clear hD
   obtain ⟨m2,hm2⟩ : ∃ m2,m2 = E.length:=⟨_,rfl⟩
   rw [← hm2] at EQ ⊢
   clear hm2
   go_wp2_with fail
   refine EQ.out.mono ?_
   rintro e w4 ⟨rfl,rfl⟩
   clear EQ
   go_wp2
   go_ret2
   have hD:=HD3.out
   subst hD
   exact ⟨_,rfl,World.ownsRow_nil _ _ _ _,O3.out⟩
theorem decode9_all (v : Value) (ys : List Int) (n : Int) (w : World) (h : Bs .u8 w v ys) (hr : ∀ y ∈ ys,0 ≤ y ∧ y ≤ 255) (hl : ys.length ≤ 1000000000) (hT : Tab w) :
  Calls Tryz.prog 129 #[v,.int .i64 n] w fun e w' => ∃ u,e = .returned (.tuple #[u,.int .i64 (DEC9 ys n).2]) ∧ w'.ownsRow w.heap.size 42 1 u (DEC9 ys n).1.length ((DEC9 ys n).1.map (Value.int .u64)) ∧ Only (fun _ => False) w w':=by
 by_cases hn : n < 0 ∨ 65536 < n
 ·have e : DEC9 ys n = ([],1):=if_pos hn
  rw [e]
  refine (decode9_arg v n w hn).mono ?_
  rintro e w' ⟨rfl,rfl⟩
  exact ⟨_,rfl,World.ownsRow_nil _ _ _ _,Only.refl _ _⟩
 ·obtain ⟨N,rfl⟩:=Int.eq_ofNat_of_zero_le (show 0 ≤ n by omega)
  exact decode9_bs v ys N w h hr hl (by omega) hT
end Go.Proofs.YthapipgaohlgdaaGreatDoor


namespace Go.Proofs.YthapipgaohlgdaaGreatDoor
set_option maxRecDepth 100000
open Go.RowKit
theorem sFixed_8short {ys : List Int} (h : ys.length < 8) : sFixed 8 ys = (0,0,2):=by
 unfold sFixed
 rw [if_neg (by omega),if_pos (by omega)]
theorem sFixed_8ok {ys : List Int} (h : 8 ≤ ys.length) : sFixed 8 ys = ((num (ys.take 8) : Int),8,0):=by
 unfold sFixed
 rw [if_neg (by omega),if_neg (by omega)]
 rfl
def rF11 (ys : List Int) (n : Nat) : List Int × Int:=if ys.length < 8 * n then ([],2) else (rd8 n ys,0)
def RD11 (ys : List Int) (n tag : Nat) : List Int × Int :=
 if tag = 2 then DEC10 ys n else if tag = 3 then DEC9 ys n else
 if tag = 1 then (if ys.length < 8 then ([],2) else (List.replicate n ((num (ys.take 8) : Nat) : Int),0)) else rF11 ys n
theorem RD11_0 (ys : List Int) (n : Nat) : RD11 ys n 0 = rF11 ys n:=rfl
theorem RD11_1 (ys : List Int) (n : Nat) : RD11 ys n 1 = if ys.length < 8 then ([],2) else (List.replicate n ((num (ys.take 8) : Nat) : Int),0):=rfl
theorem RD11_2 (ys : List Int) (n : Nat) : RD11 ys n 2 = DEC10 ys n:=rfl
theorem RD11_3 (ys : List Int) (n : Nat) : RD11 ys n 3 = DEC9 ys n:=rfl
theorem vnum8_u64 {ys : List Int} (hr : ∀ y ∈ ys,0 ≤ y ∧ y ≤ 255) : (num (ys.take 8) : Int) ≤ 18446744073709551615:=by
 have h1:=num_lt (ys.take 8) (fun y hy => hr y (List.mem_of_mem_take hy))
 have h2 : (256 : Nat) ^ (ys.take 8).length ≤ 256 ^ 8:=Nat.pow_le_pow_right (by omega) (by rw [List.length_take];omega)
 have h3 : (256 : Nat) ^ 8 = 18446744073709551616:=by decide
 omega
theorem RD11_u64 {ys : List Int} {n t : Nat} (hr : ∀ y ∈ ys,0 ≤ y ∧ y ≤ 255) (ht : t ≤ 3) : U64 (RD11 ys n t).1:=by
 have nl : U64 []:=fun x hx => by simp at hx
 rcases tag_cases ht with rfl | rfl | rfl | rfl
 ·rw [RD11_0];unfold rF11
  by_cases c : ys.length < 8 * n
  ·rw [if_pos c];exact nl
  ·rw [if_neg c];exact rd8_u64 n ys hr
 ·rw [RD11_1]
  by_cases c : ys.length < 8
  ·rw [if_pos c];exact nl
  ·rw [if_neg c]
   intro x hx
   rw [List.eq_of_mem_replicate hx]
   have:=vnum8_u64 hr
   omega
 ·rw [RD11_2]
  by_cases c : (DEC10 ys n).2 = 0
  ·exact (DEC10_ok hr c).2.2.2.1
  ·rw [DEC10_err c];exact nl
 ·rw [RD11_3]
  by_cases c : (DEC9 ys n).2 = 0
  ·exact (DEC9_ok c).2.2.2.1
  ·rw [DEC9_err c];exact nl
theorem R11_0 (ys : List Int) (n : Nat) : R11 ys n 0 = if ys.length < 8 * n then ([],2) else if 8 * n < ys.length then ([],3) else (rd8 n ys,0):=rfl
theorem R11_1 (ys : List Int) (n : Nat) : R11 ys n 1 = if ys.length < 8 then ([],2) else if 8 < ys.length then ([],3) else (List.replicate n ((num (ys.take 8) : Nat) : Int),0):=rfl
theorem R11_RD {ys : List Int} {n t : Nat} (hn : n ≤ 65536) (ht : t ≤ 3) : R11 ys n t = RD11 ys n t ∨ (R11 ys n t = ([],3) ∧ (RD11 ys n t).2 = 0 ∧ (ENC11 (RD11 ys n t).1).1.length < ys.length + 1):=by
 rcases tag_cases ht with rfl | rfl | rfl | rfl
 ·rw [RD11_0,R11_0,rF11]
  by_cases c : ys.length < 8 * n
  ·rw [if_pos c,if_pos c];exact .inl rfl
  ·rw [if_neg c,if_neg c]
   by_cases c2 : 8 * n < ys.length
   ·rw [if_pos c2]
    have hl:=(ENC11_len (l:=rd8 n ys) (by rw [rd8_len];exact hn)).1
    rw [rd8_len] at hl
    exact .inr ⟨rfl,rfl,by simp only;omega⟩
   ·rw [if_neg c2];exact .inl rfl
 ·rw [RD11_1,R11_1]
  by_cases c : ys.length < 8
  ·rw [if_pos c,if_pos c];exact .inl rfl
  ·rw [if_neg c,if_neg c]
   by_cases c2 : 8 < ys.length
   ·rw [if_pos c2]
    generalize ((num (ys.take 8) : Nat) : Int) = v
    refine .inr ⟨rfl,rfl,?_⟩
    simp only
    rcases n with _ | n
    ·have hl:=(ENC11_len (l:=List.replicate 0 v) (by simp)).1
     simp only [List.length_replicate] at hl
     omega
    ·have hl:=ENC11_rep v n (by omega)
     omega
   ·rw [if_neg c2];exact .inl rfl
 ·exact .inl rfl
 ·exact .inl rfl
theorem DEC11_RD {b : List Int} {n : Nat} (hn : n ≤ 65536) (hne : b ≠ []) (h3 : b.getD 0 0 ≤ 3) :
  DEC11 b n = if (RD11 (b.drop 1) n (b.getD 0 0).toNat).2 ≠ 0 then ([],(RD11 (b.drop 1) n (b.getD 0 0).toNat).2) else
   if (ENC11 (RD11 (b.drop 1) n (b.getD 0 0).toNat).1).1 = b then ((RD11 (b.drop 1) n (b.getD 0 0).toNat).1,0) else ([],3):=by
 unfold DEC11
 rw [if_neg (by omega),if_neg hne,if_neg (by omega),Int.toNat_natCast]
 have hlb : (b.drop 1).length + 1 = b.length:=by
  have:=List.length_pos_iff.2 hne
  rw [List.length_drop];omega
 rcases R11_RD (ys:=b.drop 1) hn (show (b.getD 0 0).toNat ≤ 3 by omega) with e | ⟨e1,e2,e3⟩
 ·rw [e]
 ·rw [hlb] at e3
  have hx : ¬ (ENC11 (RD11 (b.drop 1) n (b.getD 0 0).toNat).1).1 = b:=fun e => by rw [e] at e3;omega
  rw [e1,if_pos (show (([],3) : List Int × Int).2 ≠ 0 by decide),if_neg (fun c => c e2),if_neg hx]
set_option maxHeartbeats 800000 in
theorem vreadFixed_cur {w : World} {R : Nat} {v : Value} {ys : List Int} (h : CurAt 92 w R v ys) (hvb : ∀ k,v.ownBlock = some k → k < w.heap.size) (n : Nat) (hn : n ≤ 65536) :
  Calls Tryz.prog 130 #[.pointer (some ⟨R,0,none⟩),.int .i64 n] w fun e w' => ∃ u,e = .returned (.tuple #[u,.int .i64 (rF11 ys n).2]) ∧ w'.ownsRow w.heap.size 42 1 u (rF11 ys n).1.length ((rF11 ys n).1.map (Value.int .u64)) ∧ Only (fun k => k = R) w w':=by
 obtain ⟨i0,hi,hz0,hz1,hz2⟩:=info_parts Tryz.infoU64
 have hR : R < w.heap.size:=(Array.getElem?_eq_some_iff.1 h.cell).1
 have HC:=hideIt h
 have HVB:=hideIt hvb
 clear h hvb
 go_enter Tryz.func130,Tryz.ntmps130
 go_wp2
 go_loopw [6,10] (fun s i wr => ∃ (k : Nat) (v' : Value),k ≤ n ∧ i = .int .i64 k ∧ wr.ownsRow w.heap.size 42 1 s k ((rd8 k ys).map (Value.int .u64)) ∧ CurAt 92 wr R v' (ys.drop (8 * k)) ∧ v'.ownBlock = v.ownBlock ∧ 8 * k ≤ ys.length ∧ Only (fun k => k = R) w wr) (fun _ i _ => n - (intOf i).toNat)
 case atStart => exact ⟨0,v,Nat.zero_le _,rfl,World.ownsRow_nil _ _ _ _,HC.out,rfl,by omega,Only.refl _ _⟩
 case round =>
  obtain ⟨k,v',hk,rfl,hown,hcur,hob,h8,hon⟩:=hrel
  have HOWN:=hideIt hown
  have HON:=hideIt hon
  have HOB:=hideIt hob
  by_cases hlt : k < n
  ·have dlt : decide ((k : Int) < (n : Int)) = true:=by simp;omega
   have FX:=hideIt (fixed_cur hcur 8)
   by_cases hs : (ys.drop (8 * k)).length < 8
   ·rw [sFixed_8short hs] at FX
    have HR : Hid (rF11 ys n = ([],2)):=by
     simp only [Hid];unfold rF11
     rw [List.length_drop] at hs
     rw [if_pos (by omega)]
    clear hown hcur hob hon hs HC
    go_wp2_with fail
    refine FX.out.mono ?_
    rintro e w2 ⟨rfl,v2,_,_,o2⟩
    have O2:=hideIt (HON.out.trans o2 (fun _ _ e => e))
    clear FX o2 HOWN
    go_wp2
    go_ret2
    rw [HR.out]
    exact ⟨_,rfl,World.ownsRow_nil _ _ _ _,O2.out⟩
   ·rw [sFixed_8ok (by omega)] at FX
    have h9 : 8 * (k + 1) ≤ ys.length:=by rw [List.length_drop] at hs;omega
    have HST : Hid ((rd8 (k + 1) ys).map (Value.int .u64) = (rd8 k ys).map (Value.int .u64) ++ [.int .u64 ((num ((ys.drop (8 * k)).take 8) : Nat) : Int)]):=by
     simp only [Hid];rw [rd8_snoc,List.map_append];rfl
    have HDR : Hid ((ys.drop (8 * k)).drop 8 = ys.drop (8 * (k + 1))):=by
     simp only [Hid];rw [List.drop_drop,Nat.mul_add]
    rw [HDR.out] at FX
    generalize ((num ((ys.drop (8 * k)).take 8) : Nat) : Int) = x at *
    clear hown hcur hob hon hs HC HDR
    go_wp2_with fail
    refine FX.out.mono ?_
    rintro e w2 ⟨rfl,v2,cur2,ob2,o2⟩
    have O2:=hideIt (HON.out.trans o2 (fun _ _ e => e))
    have own2:=o2.own HOWN.out (fun q hq e => by have:=(HOWN.out.lt q hq).1;omega)
    have CUR2:=hideIt cur2
    have OB2:=hideIt (ob2.trans HOB.out)
    have hsz:=O2.out.size
    clear FX o2 HOWN HON HOB cur2 ob2
    go_wp2_with (at_builtin;refine wpList_append_lies _ rfl _ _ _ rfl w.heap.size 42 i0 (.int .u64 0) 1 8 Tryz.underlying46 hi hz0 hz1 hz2 rfl (by omega) _ k _ rfl (own2.alloc _) ⟨w2.heap.size,0,none⟩ 1 1 [.int .u64 x] rfl rfl ?c1 ?c2 (by omega) ?c3 ?c4 ?c5 (w2.heap.size + 1) (by simp) ?_)
    case c1 => exact cell_one_new _ _ _
    case c2 => intro u hu;simp at hu;subst hu;rfl
    case c3 => unfold maxLen;omega
    case c4 => omega
    case c5 => simp;omega
    intro gg cap1 w3 hown1 hgrow hat hg1
    have o3:=hideIt (((Only.refl (fun q => w.heap.size ≤ q) w2).alloc _).grown hgrow (fun p _ hp => (own2.lt p hp).1))
    have own3 : Hid (w3.ownsRow w.heap.size 42 1 (.slice (some ⟨gg,0,none⟩) (k + 1) cap1) (k + 1) ((rd8 (k + 1) ys).map (Value.int .u64))):=by
     simp only [Hid]
     rw [HST.out];exact hown1
    clear own2 hown1 hgrow hat
    go_wp2
    go_roundw
    case rel =>
     refine ⟨k + 1,v2,by omega,by go_num,own3.out,CUR2.out.keep o3.out (by omega) (fun q hq e => ?_),OB2.out,h9,O2.out.trans o3.out (fun q hq e => absurd e (by omega))⟩
     rw [OB2.out] at hq
     have:=HVB.out q hq
     omega
    case measure => simp [intOf];omega
  ·obtain rfl : k = n:=by omega
   have dlt : decide ((k : Int) < (k : Int)) = false:=by simp
   have HR : Hid (rF11 ys k = (rd8 k ys,0)):=by
    simp only [Hid];unfold rF11
    rw [if_neg (by omega)]
   clear hown hcur hob hon HC
   go_wp2
   go_ret2
   rw [HR.out]
   refine ⟨_,rfl,?_,HON.out⟩
   rw [rd8_len]
   exact HOWN.out
theorem vBytes_all (ys : List Int) : sBytes ys.length ys = (ys,ys.length,0):=by
 unfold sBytes
 rw [if_neg (by omega),if_neg (by omega)]
 simp
set_option maxHeartbeats 400000 in
theorem vrest_cur {w : World} {R : Nat} {v : Value} {ys : List Int} (h : CurAt 92 w R v ys) :
  Calls Tryz.prog 128 #[.pointer (some ⟨R,0,none⟩)] w fun e w' => ∃ u,e = .returned u ∧ Bs .u8 w' u ys ∧ Only (fun k => k = R) w w':=by
 have L:=hideIt (Left_cur h)
 have B:=bytes_cur h ys.length
 rw [vBytes_all] at B
 have B:=hideIt B
 clear h
 go_enter Tryz.func128,Tryz.ntmps128
 go_wp2_with fail
 refine L.out.mono ?_
 rintro e w1 ⟨rfl,rfl⟩
 clear L
 go_wp2_with fail
 refine B.out.mono ?_
 rintro e w2 ⟨u,rfl,bs,_,_,v2,_,_,o2⟩
 have F:=hideIt (And.intro bs o2)
 obtain ⟨f1,c1,e1⟩:=bs.len
 subst e1
 clear B bs o2
 go_wp2
 go_ret
 exact ⟨_,rfl,F.out⟩
end Go.Proofs.YthapipgaohlgdaaGreatDoor


namespace Go.Proofs.YthapipgaohlgdaaGreatDoor
set_option maxRecDepth 100000
open Go.RowKit
set_option maxHeartbeats 800000 in
theorem vread_0 {w : World} {R : Nat} {v : Value} {ys : List Int} (h : CurAt 92 w R v ys) (hvb : ∀ k,v.ownBlock = some k → k < w.heap.size) (n : Nat) (hn : n ≤ 65536) :
  Calls Tryz.prog 88 #[.pointer (some ⟨R,0,none⟩),.int .i64 n,.int .i64 0] w fun e w' => ∃ u,e = .returned (.tuple #[u,.int .i64 (rF11 ys n).2]) ∧ w'.ownsRow w.heap.size 42 1 u (rF11 ys n).1.length ((rF11 ys n).1.map (Value.int .u64)) ∧ Only (fun k => k = R) w w':=by
 have A:=hideIt (vreadFixed_cur h hvb n hn)
 clear h hvb hn
 generalize rF11 ys n = X at *
 obtain ⟨X1,X2⟩:=X
 simp only at A ⊢
 go_enter Tryz.func88,Tryz.ntmps88
 go_wp2_with fail
 refine A.out.mono ?_
 rintro e w1 ⟨u,rfl,own1,o1⟩
 have F:=hideIt (And.intro own1 o1)
 clear A own1 o1
 go_wp2
 go_ret2
 exact ⟨u,rfl,F.out.1,F.out.2⟩
set_option maxHeartbeats 800000 in
theorem vread_1 {w : World} {R : Nat} {v : Value} {ys : List Int} (h : CurAt 92 w R v ys) (n : Nat) (hn : n ≤ 65536) :
  Calls Tryz.prog 88 #[.pointer (some ⟨R,0,none⟩),.int .i64 n,.int .i64 1] w fun e w' => ∃ u,e = .returned (.tuple #[u,.int .i64 (RD11 ys n 1).2]) ∧ w'.ownsRow w.heap.size 42 1 u (RD11 ys n 1).1.length ((RD11 ys n 1).1.map (Value.int .u64)) ∧ Only (fun k => k = R) w w':=by
 have FX:=hideIt (fixed_cur h 8)
 rw [RD11_1]
 by_cases hs : ys.length < 8
 ·rw [sFixed_8short hs] at FX
  rw [if_pos hs]
  clear h hs
  go_enter Tryz.func88,Tryz.ntmps88
  go_wp2_with fail
  refine FX.out.mono ?_
  rintro e w1 ⟨rfl,v2,_,_,o1⟩
  have O1:=hideIt o1
  clear FX o1
  go_wp2
  go_ret2
  exact ⟨_,rfl,World.ownsRow_nil _ _ _ _,O1.out⟩
 ·rw [sFixed_8ok (by omega)] at FX
  rw [if_neg hs]
  generalize ((num (ys.take 8) : Nat) : Int) = x at *
  clear h hs
  obtain ⟨G,hG⟩ : ∃ G,G = List.replicate n x:=⟨_,rfl⟩
  rw [← hG]
  have HG:=hideIt hG
  clear hG
  go_enter Tryz.func88,Tryz.ntmps88
  go_wp2_with fail
  refine FX.out.mono ?_
  rintro e w1 ⟨rfl,v2,_,_,o1⟩
  have O1:=hideIt o1
  have RP:=hideIt (repeat_one w1.heap.size x n (w1.alloc (.cells #[.int .u64 x] 42)) (Boxed.new w1 42 (.int .u64 x)).cell hn)
  clear FX o1
  go_wp2_with fail
  refine RP.out.mono ?_
  rintro e w2 ⟨u,rfl,own2,o2⟩
  have F : Hid (w2.ownsRow w.heap.size 42 1 u G.length (G.map (Value.int .u64)) ∧ Only (fun k => k = R) w w2):=by
   simp only [Hid]
   rw [HG.out,List.length_replicate]
   have hsz:=O1.out.size
   exact ⟨own_low own2 (by simp;omega),O1.out.trans (T:=fun _ => False) (((Only.refl _ w1).alloc _).same o2) (fun _ _ f => f.elim)⟩
  clear RP own2 o2 O1
  go_wp2
  go_ret2
  exact ⟨u,rfl,F.out.1,F.out.2⟩
set_option maxHeartbeats 800000 in
theorem vread_2 {w : World} {R : Nat} {v : Value} {ys : List Int} (h : CurAt 92 w R v ys) (hl : ys.length ≤ 1000000000) (n : Nat) :
  Calls Tryz.prog 88 #[.pointer (some ⟨R,0,none⟩),.int .i64 n,.int .i64 2] w fun e w' => ∃ u,e = .returned (.tuple #[u,.int .i64 (DEC10 ys n).2]) ∧ w'.ownsRow w.heap.size 42 1 u (DEC10 ys n).1.length ((DEC10 ys n).1.map (Value.int .u64)) ∧ Only (fun k => k = R) w w':=by
 have HR:=hideIt h.rng
 have A:=hideIt (vrest_cur h)
 obtain ⟨X,hX⟩ : ∃ X,X = DEC10 ys n:=⟨_,rfl⟩
 rw [← hX]
 obtain ⟨X1,X2⟩:=X
 have HX:=hideIt hX
 clear h hX
 go_enter Tryz.func88,Tryz.ntmps88
 go_wp2_with fail
 refine A.out.mono ?_
 rintro e w1 ⟨u1,rfl,b1,o1⟩
 have B:=hideIt (decode10_all u1 ys n w1 b1 HR.out hl)
 have O1:=hideIt o1
 obtain ⟨f1,c1,e1⟩:=b1.len
 subst e1
 clear A b1 o1
 rw [← HX.out] at B
 simp only at B
 obtain ⟨q,hq⟩ : ∃ q,q = ys.length:=⟨_,rfl⟩
 rw [← hq] at B ⊢
 clear hq hl
 go_wp2_with fail
 refine B.out.mono ?_
 rintro e w2 ⟨u,rfl,own2,o2⟩
 have F:=hideIt (And.intro (own_low own2 O1.out.size) (O1.out.trans (T:=fun _ => False) o2 (fun _ _ f => f.elim)))
 clear B own2 o2 O1
 go_wp2
 go_ret2
 exact ⟨u,rfl,F.out.1,F.out.2⟩
set_option maxHeartbeats 800000 in
theorem vread_3 {w : World} {R : Nat} {v : Value} {ys : List Int} (h : CurAt 92 w R v ys) (hl : ys.length ≤ 1000000000) (hT : Tab w) (hR0 : 0 < R) (n : Nat) :
  Calls Tryz.prog 88 #[.pointer (some ⟨R,0,none⟩),.int .i64 n,.int .i64 3] w fun e w' => ∃ u,e = .returned (.tuple #[u,.int .i64 (DEC9 ys n).2]) ∧ w'.ownsRow w.heap.size 42 1 u (DEC9 ys n).1.length ((DEC9 ys n).1.map (Value.int .u64)) ∧ Only (fun k => k = R) w w':=by
 have HR:=hideIt h.rng
 have A:=hideIt (vrest_cur h)
 have HT:=hideIt hT
 obtain ⟨X,hX⟩ : ∃ X,X = DEC9 ys n:=⟨_,rfl⟩
 rw [← hX]
 obtain ⟨X1,X2⟩:=X
 have HX:=hideIt hX
 clear h hT hX
 go_enter Tryz.func88,Tryz.ntmps88
 go_wp2_with fail
 refine A.out.mono ?_
 rintro e w1 ⟨u1,rfl,b1,o1⟩
 have B:=hideIt (decode9_all u1 ys n w1 b1 HR.out hl (HT.out.keep o1 (by omega)))
 have O1:=hideIt o1
 obtain ⟨f1,c1,e1⟩:=b1.len
 subst e1
 clear A b1 o1
 rw [← HX.out] at B
 simp only at B
 obtain ⟨q,hq⟩ : ∃ q,q = ys.length:=⟨_,rfl⟩
 rw [← hq] at B ⊢
 clear hq hl
 go_wp2_with fail
 refine B.out.mono ?_
 rintro e w2 ⟨u,rfl,own2,o2⟩
 have F:=hideIt (And.intro (own_low own2 O1.out.size) (O1.out.trans (T:=fun _ => False) o2 (fun _ _ f => f.elim)))
 clear B own2 o2 O1
 go_wp2
 go_ret2
 exact ⟨u,rfl,F.out.1,F.out.2⟩
theorem vread_cur {w : World} {R : Nat} {v : Value} {ys : List Int} (h : CurAt 92 w R v ys) (hvb : ∀ k,v.ownBlock = some k → k < w.heap.size) (hl : ys.length ≤ 1000000000) (hT : Tab w) (hR0 : 0 < R) (n t : Nat) (hn : n ≤ 65536) (ht : t ≤ 3) :
  Calls Tryz.prog 88 #[.pointer (some ⟨R,0,none⟩),.int .i64 n,.int .i64 t] w fun e w' => ∃ u,e = .returned (.tuple #[u,.int .i64 (RD11 ys n t).2]) ∧ w'.ownsRow w.heap.size 42 1 u (RD11 ys n t).1.length ((RD11 ys n t).1.map (Value.int .u64)) ∧ Only (fun k => k = R) w w':=by
 rcases tag_cases ht with rfl | rfl | rfl | rfl
 ·exact vread_0 h hvb n hn
 ·exact vread_1 h n hn
 ·exact vread_2 h hl n
 ·exact vread_3 h hl hT hR0 n
set_option maxHeartbeats 400000 in
theorem decode11_arg (v : Value) (n : Int) (w : World) (h : n < 0 ∨ 65536 < n) : Calls Tryz.prog 57 #[v,.int .i64 n] w fun e w' => e = .returned (.tuple #[.slice none 0 0,.int .i64 1]) ∧ w = w':=by
 by_cases h0 : n < 0
 ·have d0 : decide (n < 0) = true:=decide_eq_true h0
  clear h h0
  go_enter Tryz.func57,Tryz.ntmps57
  go_wp2
  go_ret2
  exact ⟨rfl,rfl⟩
 ·have d0 : decide (n < 0) = false:=decide_eq_false h0
  have d1 : decide (65536 < n) = true:=decide_eq_true (by omega)
  clear h h0
  go_enter Tryz.func57,Tryz.ntmps57
  go_wp2
  go_ret2
  exact ⟨rfl,rfl⟩
theorem vByte_nil : sByte [] = (0,0,2):=rfl
theorem vByte_ok {b : List Int} (h : b ≠ []) : sByte b = (b.getD 0 0,1,0):=by
 unfold sByte
 rw [if_neg (by have:=List.length_pos_iff.2 h;omega)]
set_option maxHeartbeats 800000 in
theorem decode11_none (v : Value) (n : Nat) (w : World) (h : Bs .u8 w v []) (hn : n ≤ 65536) : Calls Tryz.prog 57 #[v,.int .i64 n] w fun e w' => e = .returned (.tuple #[.slice none 0 0,.int .i64 2]) ∧ Only (fun _ => False) w w':=by
 have d0 : decide ((n : Int) < 0) = false:=by simp
 have d1 : decide (65536 < (n : Int)) = false:=by simp;omega
 have NR:=hideIt (new_bs v [] w h (by simp) (by simp))
 clear h hn
 go_enter Tryz.func57,Tryz.ntmps57
 go_wp2_with fail
 refine NR.out.mono ?_
 rintro e w1 ⟨R,v1,rfl,r1,o1,g1,g2,g3⟩
 have B:=byte_cur r1
 rw [vByte_nil] at B
 have B:=hideIt B
 have O1:=hideIt o1
 clear NR r1 o1 g3
 go_wp2_with fail
 refine B.out.mono ?_
 rintro e w2 ⟨rfl,v2,_,_,o2⟩
 have O2:=hideIt (O1.out.trans o2 (fun k hk e => by omega))
 clear B O1 o2
 go_wp2
 go_ret2
 exact ⟨rfl,O2.out⟩
set_option maxHeartbeats 800000 in
theorem decode11_tag (v : Value) (b : List Int) (n : Nat) (w : World) (h : Bs .u8 w v b) (hr : ∀ y ∈ b,0 ≤ y ∧ y ≤ 255) (hl : b.length ≤ 1000000000) (hn : n ≤ 65536) (hne : b ≠ []) (h3 : 3 < b.getD 0 0) : Calls Tryz.prog 57 #[v,.int .i64 n] w fun e w' => e = .returned (.tuple #[.slice none 0 0,.int .i64 3]) ∧ Only (fun _ => False) w w':=by
 have d0 : decide ((n : Int) < 0) = false:=by simp
 have d1 : decide (65536 < (n : Int)) = false:=by simp;omega
 have NR:=hideIt (new_bs v b w h hr (by omega))
 have HS:=hideIt (vByte_ok hne)
 obtain ⟨x,hx⟩ : ∃ x,x = b.getD 0 0:=⟨_,rfl⟩
 rw [← hx] at HS h3
 have hb : x ≤ 255:=by rw [hx];exact (hr _ (head_mem hne)).2
 clear h hn hr hx
 go_enter Tryz.func57,Tryz.ntmps57
 go_wp2_with fail
 refine NR.out.mono ?_
 rintro e w1 ⟨R,v1,rfl,r1,o1,g1,g2,g3⟩
 have B:=byte_cur r1
 rw [HS.out] at B
 have B:=hideIt B
 have O1:=hideIt o1
 clear NR r1 o1 g3
 go_wp2_with fail
 refine B.out.mono ?_
 rintro e w2 ⟨rfl,v2,_,_,o2⟩
 have O2:=hideIt (O1.out.trans o2 (fun k hk e => by omega))
 have T:=hideIt (vtag_no x w2 (.inr h3))
 clear B O1 o2
 go_wp2_with fail
 refine T.out.mono ?_
 rintro e w3 ⟨rfl,rfl⟩
 clear T
 go_wp2
 go_ret2
 exact ⟨rfl,O2.out⟩
set_option maxHeartbeats 1600000 in
theorem decode11_bs (v : Value) (b : List Int) (n : Nat) (w : World) (h : Bs .u8 w v b) (hr : ∀ y ∈ b,0 ≤ y ∧ y ≤ 255) (hl : b.length ≤ 1000000000) (hT : Tab w) (hn : n ≤ 65536) (hne : b ≠ []) (h3 : b.getD 0 0 ≤ 3) :
  Calls Tryz.prog 57 #[v,.int .i64 n] w fun e w' => ∃ u,e = .returned (.tuple #[u,.int .i64 (DEC11 b n).2]) ∧ w'.ownsRow w.heap.size 42 1 u (DEC11 b n).1.length ((DEC11 b n).1.map (Value.int .u64)) ∧ Only (fun _ => False) w w':=by
 obtain ⟨D,hD⟩ : ∃ D,D = DEC11 b n:=⟨_,rfl⟩
 rw [← hD]
 rw [DEC11_RD hn hne h3] at hD
 have d0 : decide ((n : Int) < 0) = false:=by simp
 have d1 : decide (65536 < (n : Int)) = false:=by simp;omega
 have NR:=hideIt (new_bs v b w h hr (by omega))
 have HS:=hideIt (vByte_ok hne)
 have hb0:=(hr _ (head_mem hne)).1
 obtain ⟨t,ht⟩ : ∃ t,t = (b.getD 0 0).toNat:=⟨_,rfl⟩
 have hx : b.getD 0 0 = (t : Int):=by omega
 rw [← ht] at hD
 rw [hx] at HS
 have ht3 : t ≤ 3:=by omega
 have HL:=hideIt hl
 have HT:=hideIt hT
 have HB:=hideIt h
 have HR:=hideIt hr
 have HU:=hideIt (RD11_u64 (ys:=b.drop 1) (n:=n) (fun y hy => hr y (List.mem_of_mem_drop hy)) ht3)
 have HD:=hideIt hD
 have hw0:=hT.pos
 clear h hr hl hT hD hx ht hb0 h3 hne
 go_enter Tryz.func57,Tryz.ntmps57
 go_wp2_with fail
 refine NR.out.mono ?_
 rintro e w1 ⟨R,v1,rfl,r1,o1,g1,g2,g3⟩
 have BY:=byte_cur r1
 rw [HS.out] at BY
 have BY:=hideIt BY
 have O1:=hideIt o1
 have G3:=hideIt g3
 clear NR r1 o1 g3 HS
 go_wp2_with fail
 refine BY.out.mono ?_
 rintro e w2 ⟨rfl,v2,r2,ob2,o2⟩
 have O2:=hideIt (O1.out.trans o2 (fun k hk e => by omega))
 have S2:=O2.out.size
 have hs12:=o2.size
 have TG:=hideIt (vtag_yes (t : Int) w2 (by omega) (by omega))
 have RA:=hideIt (vread_cur r2 (fun k hk => by rw [ob2] at hk;have:=(G3.out k hk).2;omega) (by have:=HL.out;rw [List.length_drop];omega) (HT.out.past O2.out) (by omega) n t hn ht3)
 clear BY O1 o2 r2 ob2 G3
 go_wp2_with fail
 refine TG.out.mono ?_
 rintro e w3 ⟨rfl,rfl⟩
 clear TG
 go_wp2_with fail
 refine RA.out.mono ?_
 rintro e w4 ⟨u,rfl,own4,o4⟩
 have B4:=hideIt ((O2.out.low (Nat.le_refl _)).trans (o4.below (B:=w.heap.size) S2 (fun k e => by omega)))
 have OW4:=hideIt (own_low own4 S2)
 clear RA o4 O2 own4
 by_cases hb : (RD11 (b.drop 1) n t).2 ≠ 0
 ·have HD2 : Hid (D = ([],(RD11 (b.drop 1) n t).2)):=by simp only [Hid];rw [HD.out,if_pos hb]
  have dc : ((RD11 (b.drop 1) n t).2 != 0) = true:=by simpa using hb
  obtain ⟨c,hc⟩ : ∃ c,c = (RD11 (b.drop 1) n t).2:=⟨_,rfl⟩
  rw [← hc] at HD2 dc ⊢
  clear HD hb hc
  go_wp2
  go_ret2
  have hD:=HD2.out
  subst hD
  exact ⟨_,rfl,World.ownsRow_nil _ _ _ _,only_of_below B4.out⟩
 ·have hz : (RD11 (b.drop 1) n t).2 = 0:=by simpa using hb
  rw [hz]
  obtain ⟨L,hL⟩ : ∃ L,L = (RD11 (b.drop 1) n t).1:=⟨_,rfl⟩
  have HD2 : Hid (D = if (ENC11 L).1 = b then (L,0) else ([],3)):=by simp only [Hid];rw [HD.out,if_neg hb,← hL]
  rw [← hL] at OW4 HU
  have EN:=hideIt (encode11_all u L w4 (Bs.of_own OW4.out) HU.out (HT.out.below B4.out hw0))
  clear HD hb hz hL
  obtain ⟨a6,c6,e6⟩:=(Bs.of_own OW4.out).len
  subst e6
  obtain ⟨m,hm⟩ : ∃ m,m = L.length:=⟨_,rfl⟩
  rw [← hm] at EN ⊢
  have HM:=hideIt hm
  clear hm
  go_wp2_with fail
  refine EN.out.mono ?_
  rintro e w5 ⟨v3,rfl,own3,o3⟩
  have EQ:=hideIt (equal_bs v3 v (ENC11 L).1 b w5 (Bs.of_own own3) ((HB.out.later B4.out).past o3) (ENC11_rng L) HR.out)
  have O3:=hideIt ((only_of_below B4.out).same o3)
  have OW3:=hideIt (o3.own OW4.out (fun _ _ f => f))
  obtain ⟨a7,c7,e7⟩:=(Bs.of_own own3).len
  subst e7
  clear EN own3 o3 OW4
  generalize (ENC11 L).2 = EC at *
  generalize (ENC11 L).1 = E at *
  by_cases he : E = b
  ·rw [decide_eq_true he] at EQ
   have hD:=HD2.out
   rw [if_pos he] at hD
   clear HD2 he
   have HD3:=hideIt hD
   clear hD
   obtain ⟨m2,hm2⟩ : ∃ m2,m2 = E.length:=⟨_,rfl⟩
   rw [← hm2] at EQ ⊢
   clear hm2
   go_wp2_with fail
   refine EQ.out.mono ?_
   rintro e w6 ⟨rfl,rfl⟩
   clear EQ
   go_wp2
   go_ret2
   have hD:=HD3.out
   subst hD
   exact ⟨_,rfl,by have:=OW3.out;rw [HM.out];exact this,O3.out⟩
  ·rw [decide_eq_false he] at EQ
   have hD:=HD2.out
   rw [if_neg he] at hD
   clear HD2 he
   have HD3:=hideIt hD
   clear hD
   obtain ⟨m2,hm2⟩ : ∃ m2,m2 = E.length:=⟨_,rfl⟩
   rw [← hm2] at EQ ⊢
   clear hm2
   go_wp2_with fail
   refine EQ.out.mono ?_
   rintro e w6 ⟨rfl,rfl⟩
   clear EQ
   go_wp2
   go_ret2
   have hD:=HD3.out
   subst hD
   exact ⟨_,rfl,World.ownsRow_nil _ _ _ _,O3.out⟩
theorem decode11_all (v : Value) (b : List Int) (n : Int) (w : World) (h : Bs .u8 w v b) (hr : ∀ y ∈ b,0 ≤ y ∧ y ≤ 255) (hl : b.length ≤ 1000000000) (hT : Tab w) :
  Calls Tryz.prog 57 #[v,.int .i64 n] w fun e w' => ∃ u,e = .returned (.tuple #[u,.int .i64 (DEC11 b n).2]) ∧ w'.ownsRow w.heap.size 42 1 u (DEC11 b n).1.length ((DEC11 b n).1.map (Value.int .u64)) ∧ Only (fun _ => False) w w':=by
 by_cases hn : n < 0 ∨ 65536 < n
 ·have e : DEC11 b n = ([],1):=if_pos hn
  rw [e]
  refine (decode11_arg v n w hn).mono ?_
  rintro e w' ⟨rfl,rfl⟩
  exact ⟨_,rfl,World.ownsRow_nil _ _ _ _,Only.refl _ _⟩
 ·obtain ⟨N,rfl⟩:=Int.eq_ofNat_of_zero_le (show 0 ≤ n by omega)
  by_cases hne : b = []
  ·subst hne
   have e : DEC11 [] N = ([],2):=by unfold DEC11;rw [if_neg hn,if_pos rfl]
   rw [e]
   refine (decode11_none v N w h (by omega)).mono ?_
   rintro e w' ⟨rfl,o⟩
   exact ⟨_,rfl,World.ownsRow_nil _ _ _ _,o⟩
  ·by_cases h3 : 3 < b.getD 0 0
   ·have e : DEC11 b N = ([],3):=by unfold DEC11;rw [if_neg hn,if_neg hne,if_pos h3]
    rw [e]
    refine (decode11_tag v b N w h hr hl (by omega) hne h3).mono ?_
    rintro e w' ⟨rfl,o⟩
    exact ⟨_,rfl,World.ownsRow_nil _ _ _ _,o⟩
   ·exact decode11_bs v b N w h hr hl hT (by omega) hne (by omega)
end Go.Proofs.YthapipgaohlgdaaGreatDoor
