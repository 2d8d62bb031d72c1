import Derived.WalkLawsBesides
import Derived.Deep.SlicePairs
import Derived.Lib.SmallJoins
import Derived.Test.YtcpopagikbjimaaGreatDoorG5
namespace Go.Proofs.YtcpopagikbjimaaGreatDoor
set_option maxHeartbeats 1000000
set_option maxRecDepth 100000
open Go.RowKit
theorem Qam {ys : List Int} (hr : ∀ y ∈ ys,0 ≤ y ∧ y ≤ 255) : (∃ c,Qab ys = (0,0,c) ∧ (c = 2 ∨ c = 3)) ∨ (∃ a k : Nat,Qab ys = ((a : Int),k,0) ∧ 1 ≤ k ∧ k ≤ ys.length ∧ a < 18446744073709551616 ∧ ys = gs a ++ ys.drop k):=by
 rcases QbR ys hr with ⟨c,h,hc⟩ | ⟨a,k,h,h1,h2,_,h4,h5⟩
 ·exact .inl ⟨c,by rw [Qab,h];rfl,hc⟩
 ·exact .inr ⟨a,k,by rw [Qab,h];rfl,h1,h2,h4,by rw [h5,List.take_append_drop]⟩
theorem QbV (v k : Nat) (h : v < 18446744073709551616) (hk : k < (gs v).length) : Qab ((gs v).take k) = (0,0,2):=by
 have:=Qi7 v 0 k 0 (by omega) (by simpa using h) hk;rw [Qab,this]
 rfl
theorem QgH (b t : List Int) (n : Int) (hb : b.length ≤ 1000000) (hn : (b.length : Int) ≤ n) : Qae n (blk b ++ t) = (b,(blk b).length,0):=by
 unfold Qae blk;rw [List.append_assoc,QbD _ _ (by omega),if_neg (by omega),if_neg (by simp),if_neg (by simp;omega),if_neg (by simp [List.length_append];omega)];simp
theorem Qie (b : List Int) (k : Nat) (n : Int) (hb : b.length ≤ 1000000) (hn : (b.length : Int) ≤ n) (hk : k < (blk b).length) : Qae n ((blk b).take k) = ([],0,2):=by
 have hl : (blk b).length = (gs b.length).length + b.length:=by rw [blk,List.length_append]
 by_cases h : k < (gs b.length).length
 ·have e : (blk b).take k = (gs b.length).take k:=by rw [blk,List.take_append_of_le_length (by omega)]
  rw [e,Qae,if_neg (by omega),QbV _ _ (by omega) h,if_pos (by simp)]
 ·have e : (blk b).take k = gs b.length ++ b.take (k - (gs b.length).length):=by
   rw [blk,List.take_append,List.take_of_length_le (by omega)]
  rw [e,Qae,if_neg (by omega),QbD _ _ (by omega),if_neg (by simp),if_neg (by simp;omega),if_pos (by simp only [List.length_append,List.length_take];omega)]
theorem QbF {ys : List Int} {n : Int} (hr : ∀ y ∈ ys,0 ≤ y ∧ y ≤ 255) (hn : 0 ≤ n) (hn1 : n ≤ 1000000) :
  (∃ c,Qae n ys = ([],0,c) ∧ (c = 2 ∨ c = 3 ∨ c = 4)) ∨ (∃ b k,Qae n ys = (b,k,0) ∧ (b.length : Int) ≤ n ∧ k ≤ ys.length ∧ 1 ≤ k ∧ ys = blk b ++ ys.drop k ∧ k = (blk b).length):=by
 unfold Qae;rw [if_neg (by omega)]
 rcases Qam hr with ⟨c,h,hc⟩ | ⟨a,k,h,h1,h2,h3,h4⟩
 ·rw [h,if_pos (by rcases hc with rfl | rfl <;> simp)]
  exact .inl ⟨c,rfl,by omega⟩
 ·rw [h,if_neg (by simp)]
  simp only
  by_cases c1 : n < (a : Int)
  ·rw [if_pos c1];exact .inl ⟨4,rfl,by omega⟩
  ·rw [if_neg c1]
   by_cases c2 : (ys.length : Int) - k < a
   ·rw [if_pos c2];exact .inl ⟨2,rfl,by omega⟩
   ·rw [if_neg c2,Int.toNat_natCast]
    have hkg : k = (gs a).length:=by
     have:=congrArg List.length h4;rw [List.length_append,List.length_drop] at this;omega
    have hbl : ((ys.drop k).take a).length = a:=by rw [List.length_take,List.length_drop];omega
    refine .inr ⟨(ys.drop k).take a,k + a,rfl,by rw [hbl];omega,by omega,by omega,?_,?_⟩
    ·unfold blk
     rw [hbl,List.append_assoc,← List.drop_drop,List.take_append_drop];exact h4
    ·unfold blk
     rw [List.length_append,hbl,hkg]
theorem Qg0 (v : Int) (i : Nat) : fixB v (i + 1) = fixB (v / 256) i:=by
 unfold fixB;rw [show 8 * (i + 1) = 8 + 8 * i by omega,Int.pow_add,show (2 : Int) ^ 8 = 256 from rfl,Int.ediv_ediv_of_nonneg (by omega)]
theorem Qd6 (v : Int) (n : Nat) : fixL v (n + 1) = fixL (v / 256) n ++ [fixB v 0]:=by
 unfold fixL;rw [List.range_succ,List.map_append,List.map_singleton]
 congr 1
 ·apply List.map_congr_left
  intro j hj;rw [List.mem_range] at hj;rw [← Qg0]
  congr 1
  omega
 ·simp
theorem Qj6 (n : Nat) : ∀ v : Int,0 ≤ v → (num (fixL v n) : Int) = v % ((256 ^ n : Nat) : Int):=by
 induction n with
 | zero => intro v _;simp [fixL,num]
 | succ n ih =>
  intro v hv;have h0:=QcY v 0;rw [Qd6,QbQ,Int.natCast_add,Int.natCast_mul,ih (v / 256) (by omega),Int.toNat_of_nonneg h0.1];obtain ⟨m,rfl⟩:=Int.eq_ofNat_of_zero_le hv
  have e1 : fixB (m : Int) 0 = ((m % 256 : Nat) : Int):=by simp [fixB]
  have e2 : ((m : Int) / 256) = ((m / 256 : Nat) : Int):=by omega
  rw [e1,e2,Nat.pow_succ,Nat.mul_comm (256 ^ n) 256,← Int.natCast_emod,← Int.natCast_emod,Nat.mod_mul];omega
theorem QiD (v : Nat) (h : v < 18446744073709551616) : num (fixL v 8) = v:=by
 have:=Qj6 8 v (by omega)
 have e : ((256 ^ 8 : Nat) : Int) = 18446744073709551616:=by decide
 rw [e] at this;omega
abbrev RDG (α : Type):=List Int → Except Int (α × List Int)
structure PC {α : Type} (rd : RDG α) (wr : α → List Int) (good : α → Prop) : Prop where
 back : ∀ x t,good x → rd (wr x ++ t) = .ok (x,t)
 only : ∀ ys x t,U8 ys → rd ys = .ok (x,t) → good x ∧ ys = wr x ++ t
 cut : ∀ x k,good x → k < (wr x).length → rd ((wr x).take k) = .error 2
def QaI {α β : Type} (r1 : RDG α) (r2 : α → RDG β) : RDG (α × β):=fun ys => match r1 ys with
 | .error e => .error e
 | .ok (x,t) => match r2 x t with
  | .error e => .error e
  | .ok (y,t') => .ok ((x,y),t')
theorem PC.then' {α β : Type} {r1 : RDG α} {w1 : α → List Int} {g1 : α → Prop} {r2 : α → RDG β} {w2 : α → β → List Int} {g2 : α → β → Prop} (h1 : PC r1 w1 g1) (h2 : ∀ x,g1 x → PC (r2 x) (w2 x) (g2 x)) :
  PC (QaI r1 r2) (fun p => w1 p.1 ++ w2 p.1 p.2) (fun p => g1 p.1 ∧ g2 p.1 p.2):=by
 refine ⟨?_,?_,?_⟩
 ·rintro ⟨x,y⟩ t ⟨hx,hy⟩
  simp only [QaI];rw [List.append_assoc,h1.back x _ hx];simp only;rw [(h2 x hx).back y t hy]
 ·rintro ys ⟨x,y⟩ t h8 h
  simp only [QaI] at h
  cases e1 : r1 ys with
  | error e => rw [e1] at h;cases h
  | ok p =>
   obtain ⟨x',t1⟩:=p;rw [e1] at h;simp only at h
   cases e2 : r2 x' t1 with
   | error e => rw [e2] at h;cases h
   | ok p =>
    obtain ⟨y',t2⟩:=p;rw [e2] at h;simp only [Except.ok.injEq,Prod.mk.injEq] at h;obtain ⟨⟨rfl,rfl⟩,rfl⟩:=h;obtain ⟨gx,hx⟩:=h1.only ys _ _ h8 e1
    have h8' : U8 t1:=fun z hz => h8 z (by rw [hx];exact List.mem_append_right _ hz)
    obtain ⟨gy,hy⟩:=(h2 _ gx).only t1 _ _ h8' e2;exact ⟨⟨gx,gy⟩,by simp only;rw [List.append_assoc,← hy];exact hx⟩
 ·rintro ⟨x,y⟩ k ⟨hx,hy⟩ hk
  simp only at hk ⊢;simp only [QaI]
  by_cases hlt : k < (w1 x).length
  ·rw [List.take_append_of_le_length (by omega),h1.cut x k hx hlt]
  ·rw [List.take_append,List.take_of_length_le (by omega),h1.back x _ hx]
   simp only;rw [(h2 x hx).cut y _ hy (by rw [List.length_append] at hk;omega)]
def QaQ {α : Type} (r : RDG α) (c : α → Bool) (e : Int) : RDG α:=fun ys => match r ys with
 | .error e => .error e
 | .ok (x,t) => if c x then .ok (x,t) else .error e
theorem PC.need {α : Type} {r : RDG α} {w : α → List Int} {g : α → Prop} (h : PC r w g) (c : α → Bool) (e : Int) : PC (QaQ r c e) w (fun x => g x ∧ c x = true):=by
 refine ⟨?_,?_,?_⟩
 ·rintro x t ⟨hx,hc⟩
  simp only [QaQ];rw [h.back x t hx];simp only [hc,if_true]
 ·rintro ys x t h8 k
  simp only [QaQ] at k
  cases e1 : r ys with
  | error e => rw [e1] at k;cases k
  | ok p =>
   obtain ⟨x',t1⟩:=p;rw [e1] at k;simp only at k
   by_cases hc : c x' = true
   ·rw [if_pos hc] at k
    simp only [Except.ok.injEq,Prod.mk.injEq] at k;obtain ⟨rfl,rfl⟩:=k;obtain ⟨gx,hx⟩:=h.only ys _ _ h8 e1;exact ⟨⟨gx,hc⟩,hx⟩
   ·rw [if_neg hc] at k;cases k
 ·rintro x k ⟨hx,_⟩ hk
  simp only [QaQ];rw [h.cut x k hx hk]
def rdRep {σ α : Type} (r : σ → RDG α) (nx : σ → α → σ) : Nat → σ → RDG (List α)
 | 0,_ => fun ys => .ok ([],ys)
 | n + 1,s => fun ys => match r s ys with
  | .error e => .error e
  | .ok (x,t) => match rdRep r nx n (nx s x) t with
   | .error e => .error e
   | .ok (l,t') => .ok (x :: l,t')
def QaJ {σ α : Type} (g : σ → α → Prop) (nx : σ → α → σ) : Nat → σ → List α → Prop
 | 0,_,l => l = []
 | _ + 1,_,[] => False
 | n + 1,s,x :: l => g s x ∧ QaJ g nx n (nx s x) l
theorem PC.rep {σ α : Type} {r : σ → RDG α} {w : α → List Int} {g : σ → α → Prop} (nx : σ → α → σ) (h : ∀ s,PC (r s) w (g s)) : ∀ (n : Nat) (s : σ),PC (rdRep r nx n s) (fun l => (l.map w).flatten) (QaJ g nx n s)
 | 0,s => by
  refine ⟨?_,?_,?_⟩
  ·rintro x t rfl;rfl
  ·rintro ys x t h8 k
   simp only [rdRep,Except.ok.injEq,Prod.mk.injEq] at k;obtain ⟨rfl,rfl⟩:=k;exact ⟨rfl,rfl⟩
  ·rintro x k rfl hk
   simp at hk
 | n + 1,s => by
  have ih:=fun s => PC.rep nx h n s
  refine ⟨?_,?_,?_⟩
  ·rintro l t hl
   cases l with
   | nil => exact hl.elim
   | cons x l =>
    simp only [rdRep,List.map_cons,List.flatten_cons];rw [List.append_assoc,(h s).back x _ hl.1];simp only;rw [(ih _).back l t hl.2]
  ·rintro ys l t h8 k
   simp only [rdRep] at k
   cases e1 : r s ys with
   | error e => rw [e1] at k;cases k
   | ok p =>
    obtain ⟨x,t1⟩:=p;rw [e1] at k;simp only at k
    cases e2 : rdRep r nx n (nx s x) t1 with
    | error e => rw [e2] at k;cases k
    | ok p =>
     obtain ⟨l',t2⟩:=p;rw [e2] at k;simp only [Except.ok.injEq,Prod.mk.injEq] at k;obtain ⟨rfl,rfl⟩:=k;obtain ⟨gx,hx⟩:=(h s).only ys _ _ h8 e1
     have h8' : U8 t1:=fun z hz => h8 z (by rw [hx];exact List.mem_append_right _ hz)
     obtain ⟨gl,hl⟩:=(ih _).only t1 _ _ h8' e2;refine ⟨⟨gx,gl⟩,?_⟩;simp only [List.map_cons,List.flatten_cons];rw [List.append_assoc,← hl];exact hx
  ·rintro l k hl hk
   cases l with
   | nil => exact hl.elim
   | cons x l =>
    simp only [List.map_cons,List.flatten_cons] at hk ⊢;simp only [rdRep]
    by_cases hlt : k < (w x).length
    ·rw [List.take_append_of_le_length (by omega),(h s).cut x k hl.1 hlt]
    ·rw [List.take_append,List.take_of_length_le (by omega),(h s).back x _ hl.1]
     simp only;rw [(ih _).cut l _ hl.2 (by rw [List.length_append] at hk;omega)]
def rdB (n : Nat) : RDG (List Int):=fun ys => if ys.length < n then .error 2 else .ok (ys.take n,ys.drop n)
theorem PC.bytes (n : Nat) : PC (rdB n) (fun x => x) (fun x => x.length = n ∧ U8 x):=by
 refine ⟨?_,?_,?_⟩
 ·rintro x t ⟨rfl,_⟩
  simp only [rdB];rw [if_neg (by rw [List.length_append];omega),List.take_left,List.drop_left]
 ·rintro ys x t h8 k
  simp only [rdB] at k
  by_cases h : ys.length < n
  ·rw [if_pos h] at k;cases k
  ·rw [if_neg h] at k
   simp only [Except.ok.injEq,Prod.mk.injEq] at k;obtain ⟨rfl,rfl⟩:=k;exact ⟨⟨by rw [List.length_take];omega,h8.take _⟩,(List.take_append_drop _ _).symm⟩
 ·rintro x k ⟨rfl,_⟩ hk
  simp only [rdB];rw [if_pos (by rw [List.length_take];omega)]
def rdV : RDG Nat:=fun ys => if (Qab ys).2.2 = 0 then .ok ((Qab ys).1.toNat,ys.drop (Qab ys).2.1) else .error (Qab ys).2.2
theorem PC.varint : PC rdV gs (fun v => v < 18446744073709551616):=by
 refine ⟨?_,?_,?_⟩
 ·intro v t hv
  simp only [rdV];rw [QbD v t hv];simp
 ·intro ys x t h8 k
  simp only [rdV] at k
  rcases Qam h8 with ⟨c,h,hc⟩ | ⟨a,j,h,h1,h2,h3,h4⟩
  ·rw [h] at k
   rw [if_neg (by simp only;omega)] at k;cases k
  ·rw [h] at k
   simp only [if_true,Int.toNat_natCast,Except.ok.injEq,Prod.mk.injEq] at k;obtain ⟨rfl,rfl⟩:=k;exact ⟨h3,h4⟩
 ·intro v k hv hk
  simp only [rdV];rw [QbV v k hv hk]
  rfl
def rdK (n : Nat) : RDG (List Int):=fun ys => if (Qae n ys).2.2 = 0 then .ok ((Qae n ys).1,ys.drop (Qae n ys).2.1) else .error (Qae n ys).2.2
theorem PC.block (n : Nat) (hn : n ≤ 1000000) : PC (rdK n) blk (fun x => x.length ≤ n ∧ U8 x):=by
 refine ⟨?_,?_,?_⟩
 ·rintro x t ⟨hx,_⟩
  simp only [rdK];rw [QgH x t n (by omega) (by omega)];simp
 ·intro ys x t h8 k
  simp only [rdK] at k
  rcases QbF (n:=(n : Int)) h8 (by omega) (by omega) with ⟨c,h,hc⟩ | ⟨b,j,h,h1,h2,_,h4,_⟩
  ·rw [h] at k
   rw [if_neg (by simp only;omega)] at k;cases k
  ·rw [h] at k
   simp only [if_true,Except.ok.injEq,Prod.mk.injEq] at k;obtain ⟨rfl,rfl⟩:=k;exact ⟨⟨by omega,fun y hy => h8 y (by rw [h4];exact List.mem_append_left _ (List.mem_append_right _ hy))⟩,h4⟩
 ·rintro x k ⟨hx,_⟩ hk
  simp only [rdK];rw [Qie x k n (by omega) (by omega) hk]
  rfl
def rdAs {α β : Type} (r : RDG α) (f : α → β) : RDG β:=fun ys => match r ys with
 | .error e => .error e
 | .ok (x,t) => .ok (f x,t)
theorem PC.as {α β : Type} {r : RDG α} {w : α → List Int} {g : α → Prop} (h : PC r w g) (f : α → β) (f' : β → α) (w' : β → List Int) (g' : β → Prop) (h1 : ∀ x,g x → f' (f x) = x) (h2 : ∀ y,g' y → g (f' y) ∧ f (f' y) = y ∧ w (f' y) = w' y) (h3 : ∀ x,g x → g' (f x)) :
  PC (rdAs r f) w' g':=by
 refine ⟨?_,?_,?_⟩
 ·intro y t hy
  obtain ⟨k1,k2,k3⟩:=h2 y hy;simp only [rdAs];rw [← k3,h.back _ t k1];simp only [k2]
 ·intro ys y t h8 k
  simp only [rdAs] at k
  cases e1 : r ys with
  | error e => rw [e1] at k;cases k
  | ok p =>
   obtain ⟨x,t1⟩:=p;rw [e1] at k;simp only [Except.ok.injEq,Prod.mk.injEq] at k;obtain ⟨rfl,rfl⟩:=k;obtain ⟨gx,hx⟩:=h.only ys _ _ h8 e1;refine ⟨h3 x gx,?_⟩;have:=(h2 (f x) (h3 x gx)).2.2;rw [h1 x gx] at this;rw [← this];exact hx
 ·intro y k hy hk
  obtain ⟨k1,k2,k3⟩:=h2 y hy;rw [← k3] at hk ⊢;simp only [rdAs];rw [h.cut _ k k1 hk]
def lexB : List Int → List Int → Bool
 | _,[] => false
 | [],_ :: _ => true
 | a :: x,b :: y => decide (a < b) || (decide (a = b) && lexB x y)
theorem QcI (x : List Int) : lexB x x = false:=by
 induction x with
 | nil => rfl
 | cons a x ih => simp [lexB,ih]
theorem QbG : ∀ {x y z : List Int},lexB x y = true → lexB y z = true → lexB x z = true
 | _,[],_,h,_ => by cases ‹List Int› <;> simp [lexB] at h
 | _,_ :: _,[],_,h => by simp [lexB] at h
 | [],_ :: _,_ :: _,_,_ => rfl
 | a :: x,b :: y,c :: z,h1,h2 => by
  simp only [lexB,Bool.or_eq_true,Bool.and_eq_true,decide_eq_true_eq] at h1 h2 ⊢
  rcases h1 with h1 | ⟨h1,k1⟩ <;> rcases h2 with h2 | ⟨h2,k2⟩
  ·exact .inl (by omega)
  ·exact .inl (by omega)
  ·exact .inl (by omega)
  ·exact .inr ⟨by omega,QbG k1 k2⟩
theorem Qb8 : ∀ (x y : List Int),x = y ∨ lexB x y = true ∨ lexB y x = true
 | [],[] => .inl rfl
 | [],_ :: _ => .inr (.inl rfl)
 | _ :: _,[] => .inr (.inr rfl)
 | a :: x,b :: y => by
  simp only [lexB,Bool.or_eq_true,Bool.and_eq_true,decide_eq_true_eq,List.cons.injEq]
  rcases (show a < b ∨ a = b ∨ b < a by omega) with h | h | h
  ·exact .inr (.inl (.inl h))
  ·rcases Qb8 x y with k | k | k
   ·exact .inl ⟨h,k⟩
   ·exact .inr (.inl (.inr ⟨h,k⟩))
   ·exact .inr (.inr (.inr ⟨h.symm,k⟩))
  ·exact .inr (.inr (.inl h))
theorem QeM {x y : List Int} (h : lexB x y = true) : x ≠ y:=fun e => by rw [e,QcI] at h;cases h
theorem QgO {x y : List Int} (h : lexB x y = true) : lexB y x = false:=by
 cases k : lexB y x with
 | false => rfl
 | true => have:=QbG h k;rw [QcI] at this;exact this.symm
def RIS (l : List (List Int)) : Prop:=l.Pairwise fun x y => lexB x y = true
theorem RIS.nodup {l : List (List Int)} (h : RIS l) : l.Nodup:=List.Pairwise.imp (fun k => QeM k) h
theorem RIS.same : ∀ {a b : List (List Int)},RIS a → RIS b → (∀ x,x ∈ a ↔ x ∈ b) → a = b
 | [],[],_,_,_ => rfl
 | [],y :: b,_,_,h => by have:=(h y).2 (by simp);simp at this
 | x :: a,[],_,_,h => by have:=(h x).1 (by simp);simp at this
 | x :: a,y :: b,ha,hb,h => by
  have ha':=List.pairwise_cons.1 ha;have hb':=List.pairwise_cons.1 hb
  have exy : x = y:=by
   have h1:=(h x).1 (by simp);have h2:=(h y).2 (by simp);rw [List.mem_cons] at h1 h2
   rcases h1 with h1 | h1
   ·exact h1
   ·rcases h2 with h2 | h2
    ·exact h2.symm
    ·have k1:=hb'.1 x h1
     have k2:=ha'.1 y h2;rw [QgO k1] at k2;cases k2
  subst exy
  congr 1
  refine RIS.same ha'.2 hb'.2 (fun z => ⟨fun hz => ?_,fun hz => ?_⟩)
  ·rcases List.mem_cons.1 ((h z).1 (List.mem_cons_of_mem _ hz)) with e | e
   ·exact absurd e.symm (QeM (ha'.1 z hz))
   ·exact e
  ·rcases List.mem_cons.1 ((h z).2 (List.mem_cons_of_mem _ hz)) with e | e
   ·exact absurd e.symm (QeM (hb'.1 z hz))
   ·exact e
def insT (x : List Int) : List (List Int) → List (List Int)
 | [] => [x]
 | y :: l => if lexB y x then y :: insT x l else if y = x then y :: l else x :: y :: l
theorem Qdj (x z : List Int) : ∀ l,z ∈ insT x l ↔ z = x ∨ z ∈ l
 | [] => by simp [insT]
 | y :: l => by
  have ih:=Qdj x z l;unfold insT
  by_cases h : lexB y x = true
  ·rw [if_pos h,List.mem_cons,ih,List.mem_cons]
   exact ⟨fun k => by rcases k with k | k | k <;> simp [k],fun k => by rcases k with k | k | k <;> simp [k]⟩
  ·rw [if_neg h]
   by_cases e : y = x
   ·rw [if_pos e];subst e
    simp
   ·rw [if_neg e];simp
theorem Qfq (x : List Int) : ∀ l,RIS l → RIS (insT x l)
 | [],_ => List.pairwise_singleton _ _
 | y :: l,hr => by
  have h':=List.pairwise_cons.1 hr;unfold insT
  by_cases h : lexB y x = true
  ·rw [if_pos h]
   refine List.pairwise_cons.2 ⟨fun z hz => ?_,Qfq x l h'.2⟩
   rcases (Qdj x z l).1 hz with rfl | k
   ·exact h
   ·exact h'.1 z k
  ·rw [if_neg h]
   by_cases e : y = x
   ·rw [if_pos e];exact hr
   ·rw [if_neg e]
    refine List.pairwise_cons.2 ⟨fun z hz => ?_,hr⟩
    have hxy : lexB x y = true:=by
     rcases Qb8 x y with k | k | k
     ·exact absurd k.symm e
     ·exact k
     ·exact absurd k h
    rcases List.mem_cons.1 hz with rfl | k
    ·exact hxy
    ·exact QbG hxy (h'.1 z k)
def TEN : List (List Int) → List (List Int)
 | [] => []
 | x :: l => insT x (TEN l)
theorem Qbl (z : List Int) : ∀ l,z ∈ TEN l ↔ z ∈ l
 | [] => by simp [TEN]
 | x :: l => by rw [TEN,Qdj,Qbl z l,List.mem_cons]
theorem Qb9 : ∀ l,RIS (TEN l)
 | [] => List.Pairwise.nil
 | x :: l => Qfq x _ (Qb9 l)
theorem Qdk {l t : List (List Int)} (hr : RIS t) (h : ∀ x,x ∈ t ↔ x ∈ l) : t = TEN l:=RIS.same hr (Qb9 l) (fun x => (h x).trans (Qbl x l).symm)
theorem QjS (l : List (List Int)) : (TEN l).length ≤ l.length:=by
 have h : ∀ (x : List Int) t,(insT x t).length ≤ t.length + 1:=by
  intro x t
  induction t with
  | nil => simp [insT]
  | cons y t ih =>
   unfold insT
   split
   ·simp only [List.length_cons];omega
   ·split <;> simp
 induction l with
 | nil => simp [TEN]
 | cons x l ih => rw [TEN,List.length_cons];have:=h x (TEN l);omega
def PLC (l : List (List Int)) (x : List Int) : Nat:=l.idxOf x
theorem Qcj {l : List (List Int)} {x : List Int} (h : x ∈ l) : PLC l x < l.length:=List.idxOf_lt_length_of_mem h
theorem Qfr {l : List (List Int)} {x : List Int} (h : x ∈ l) : l.getD (PLC l x) [] = x:=by
 rw [List.getD_eq_getElem?_getD,List.getElem?_eq_getElem (Qcj h)];exact List.getElem_idxOf (Qcj h)
theorem Qd1 {l : List (List Int)} (hr : RIS l) {i : Nat} (hi : i < l.length) : PLC l (l.getD i []) = i:=by
 rw [List.getD_eq_getElem?_getD,List.getElem?_eq_getElem hi];exact List.Nodup.idxOf_getElem hr.nodup i hi
def QaU (l : List (List Int)) (x : List Int) : Bool:=match l.getLast? with
 | none => true
 | some y => lexB y x
theorem RIS.snoc {l : List (List Int)} {x : List Int} (h : RIS l) (hb : QaU l x = true) : RIS (l ++ [x]):=by
 refine List.pairwise_append.2 ⟨h,List.pairwise_singleton _ _,fun a ha b hb' => ?_⟩;rw [List.mem_singleton] at hb';subst hb'
 have hne : l ≠ []:=fun e => by subst e;simp at ha
 obtain ⟨t,y,rfl⟩ : ∃ t y,l = t ++ [y]:=⟨l.dropLast,l.getLast hne,(List.dropLast_concat_getLast hne).symm⟩;simp [QaU] at hb
 rcases List.mem_append.1 ha with k | k
 ·exact QbG ((List.pairwise_append.1 h).2.2 a k y (by simp)) hb
 ·rw [List.mem_singleton] at k
  subst k;exact hb
theorem RIS.last {l : List (List Int)} {x : List Int} (h : RIS (l ++ [x])) : RIS l ∧ QaU l x = true:=by
 have h':=List.pairwise_append.1 h;refine ⟨h'.1,?_⟩
 by_cases hne : l = []
 ·subst hne;rfl
 ·obtain ⟨t,y,rfl⟩ : ∃ t y,l = t ++ [y]:=⟨l.dropLast,l.getLast hne,(List.dropLast_concat_getLast hne).symm⟩
  simp [QaU];exact h'.2.2 y (by simp) x (by simp)
theorem QjZ : ∀ (x : List Int),U8 x → fixL (num x : Int) x.length = x:=by
 intro x
 induction h : x.length generalizing x with
 | zero =>
  intro _;have : x = []:=List.eq_nil_of_length_eq_zero h;subst this;rfl
 | succ n ih =>
  intro h8
  have hne : x ≠ []:=by intro h0;subst h0;simp at h
  obtain ⟨t,b,rfl⟩ : ∃ t b,x = t ++ [b]:=⟨x.dropLast,x.getLast hne,(List.dropLast_concat_getLast hne).symm⟩
  have hl : t.length = n:=by simpa using h
  have hb:=h8 b (by simp);have e:=ih t hl (fun y hy => h8 y (by simp [hy]));rw [QbQ,Qd6,show (((256 * num t + b.toNat : Nat) : Int) / 256) = (num t : Int) by omega,e]
  congr 2
  unfold fixB;simp only [Nat.mul_zero,Int.pow_zero];omega
structure MAN where
 ver : Nat
 prev : List Int
 es : List (List Int × Int)
 root : List Int
def MHD : List Int:=[67,83,75,49]
def MTN (m : MAN) : List (List Int):=TEN (m.es.map Prod.fst)
def MGD (m : MAN) : Prop:=m.ver < 18446744073709551615 ∧ (m.prev.length = 32 ∧ U8 m.prev) ∧ (m.root.length = 32 ∧ U8 m.root) ∧ m.es.length ≤ 1048576 ∧ ∀ e ∈ m.es,(e.1.length ≤ 64 ∧ U8 e.1) ∧ 0 ≤ e.2 ∧ e.2 ≤ 8
def MEN (l : List (List Int)) (e : List Int × Int) : List Int:=gs (PLC l e.1) ++ [e.2]
def MENC (m : MAN) : List Int :=
 MHD ++ (fixL (m.ver : Int) 8 ++ (m.prev ++ (gs (MTN m).length ++ ((MTN m).map blk).flatten ++ (gs m.es.length ++ (m.es.map (MEN (MTN m))).flatten ++ m.root))))
def rdHd : RDG (List Int):=QaQ (rdB 4) (fun x => x == MHD) 3
def rdVer : RDG Nat:=rdAs (QaQ (rdB 8) (fun x => decide (num x ≠ 18446744073709551615)) 3) num
def QbW : RDG Nat:=QaQ rdV (fun n => decide (n ≤ 1048576)) 4
def rdTn (acc : List (List Int)) : RDG (List Int):=QaQ (rdK 64) (fun x => QaU acc x) 3
def rdTns (n : Nat) (acc : List (List Int)) : RDG (List (List Int)):=rdRep rdTn (fun acc x => acc ++ [x]) n acc
def rdDir : RDG (Nat × List (List Int)):=QaI QbW (fun n => rdTns n [])
def rdEn (L : Nat) : RDG (Nat × List Int):=QaI (QaQ rdV (fun a => decide (a < L)) 3) (fun _ => QaQ (rdB 1) (fun x => decide (x.getD 0 0 ≤ 8)) 3)
def rdEns (L n : Nat) : RDG (List (Nat × List Int)):=rdRep (fun _ : Unit => rdEn L) (fun s _ => s) n ()
def rdAll (L : Nat) : RDG (Nat × List (Nat × List Int)):=QaI QbW (fun n => rdEns L n)
def MRD : RDG (List Int × Nat × List Int × (Nat × List (List Int)) × (Nat × List (Nat × List Int)) × List Int) :=
 QaI rdHd fun _ => QaI rdVer fun _ => QaI (rdB 32) fun _ => QaI rdDir fun d => QaI (rdAll d.2.length) fun _ => rdB 32
def QaH (L : Nat) (ts : List (Nat × List Int)) : Bool:=(List.range L).all fun i => ts.any fun t => t.1 == i
def MOF (v : Nat) (p : List Int) (l : List (List Int)) (ts : List (Nat × List Int)) (r : List Int) : MAN:=⟨v,p,ts.map fun t => (l.getD t.1 [],t.2.getD 0 0),r⟩
def MDEC (b : List Int) : Except Int MAN:=match MRD b with
 | .error e => .error e
 | .ok ((_,v,p,d,a,r),rest) => if rest = [] then (if QaH d.2.length a.2 = true then .ok (MOF v p d.2 a.2 r) else .error 3) else .error 3
theorem PC_hd : PC rdHd (fun x => x) (fun x => (x.length = 4 ∧ U8 x) ∧ (x == MHD) = true):=(PC.bytes 4).need _ 3
theorem QkP : PC rdVer (fun v => fixL (v : Int) 8) (fun v => v < 18446744073709551615):=by
 refine ((PC.bytes 8).need (fun x => decide (num x ≠ 18446744073709551615)) 3).as num (fun v => fixL (v : Int) 8) _ _ ?_ ?_ ?_
 ·rintro x ⟨⟨hl,h8⟩,_⟩
  have:=QjZ x h8;rw [hl] at this;exact this
 ·intro v hv
  have e:=QiD v (by omega);exact ⟨⟨⟨Qa7 _ _,QcZ _ _⟩,decide_eq_true (by rw [e];omega)⟩,e,rfl⟩
 ·rintro x ⟨⟨hl,h8⟩,hc⟩
  have h1:=Qfc x h8;rw [hl] at h1;have h2:=of_decide_eq_true hc
  have h3 : (256 : Nat) ^ 8 = 18446744073709551616:=by decide
  omega
theorem QgU : PC QbW gs (fun n => n < 18446744073709551616 ∧ decide (n ≤ 1048576) = true):=PC.varint.need _ 4
theorem PC_tn (acc : List (List Int)) : PC (rdTn acc) blk (fun x => (x.length ≤ 64 ∧ U8 x) ∧ QaU acc x = true):=(PC.block 64 (by decide)).need _ 3
theorem QkQ (n : Nat) (acc : List (List Int)) : PC (rdTns n acc) (fun l => (l.map blk).flatten) (QaJ (fun acc x => (x.length ≤ 64 ∧ U8 x) ∧ QaU acc x = true) (fun acc x => acc ++ [x]) n acc):=PC.rep _ PC_tn n acc
theorem QbX : ∀ (l acc : List (List Int)),RIS acc → (QaJ (fun acc x => (x.length ≤ 64 ∧ U8 x) ∧ QaU acc x = true) (fun acc x => acc ++ [x]) l.length acc l ↔ RIS (acc ++ l) ∧ ∀ x ∈ l,x.length ≤ 64 ∧ U8 x)
 | [],acc,h => by simp [QaJ,h]
 | x :: l,acc,h => by
  simp only [List.length_cons,QaJ]
  constructor
  ·rintro ⟨⟨h1,h2⟩,h3⟩
   have k:=(QbX l (acc ++ [x]) (h.snoc h2)).1 h3;rw [List.append_assoc] at k;refine ⟨k.1,fun y hy => ?_⟩
   rcases List.mem_cons.1 hy with rfl | hy
   ·exact h1
   ·exact k.2 y hy
  ·rintro ⟨h1,h2⟩
   have e : acc ++ x :: l = (acc ++ [x]) ++ l:=by simp
   rw [e] at h1;have k1:=(List.pairwise_append.1 h1).1;have k2:=RIS.last k1;exact ⟨⟨h2 x (by simp),k2.2⟩,(QbX l (acc ++ [x]) k1).2 ⟨h1,fun y hy => h2 y (by simp [hy])⟩⟩
theorem Qdo {σ α : Type} {g : σ → α → Prop} {nx : σ → α → σ} : ∀ {n : Nat} {s : σ} {l : List α},QaJ g nx n s l → l.length = n
 | 0,_,_,h => by cases h;rfl
 | n + 1,_,[],h => h.elim
 | n + 1,_,x :: l,h => by rw [List.length_cons,Qdo h.2]
theorem PC_en (L : Nat) : PC (rdEn L) (fun t => gs t.1 ++ t.2) (fun t => (t.1 < 18446744073709551616 ∧ decide (t.1 < L) = true) ∧ ((t.2.length = 1 ∧ U8 t.2) ∧ decide (t.2.getD 0 0 ≤ 8) = true)) :=
 (PC.varint.need _ 3).then' (fun _ _ => (PC.bytes 1).need _ 3)
theorem Qdp {g : Nat × List Int → Prop} : ∀ (ts : List (Nat × List Int)),QaJ (fun _ : Unit => g) (fun s _ => s) ts.length () ts ↔ ∀ t ∈ ts,g t
 | [] => by simp [QaJ]
 | t :: ts => by simp only [List.length_cons,QaJ,Qdp ts,List.forall_mem_cons]
abbrev GEN (L : Nat) (t : Nat × List Int) : Prop:=(t.1 < 18446744073709551616 ∧ decide (t.1 < L) = true) ∧ ((t.2.length = 1 ∧ U8 t.2) ∧ decide (t.2.getD 0 0 ≤ 8) = true)
theorem QkR (L : Nat) : PC (rdAll L) (fun a => gs a.1 ++ (a.2.map fun t => gs t.1 ++ t.2).flatten) (fun a => (a.1 < 18446744073709551616 ∧ decide (a.1 ≤ 1048576) = true) ∧ QaJ (fun _ : Unit => GEN L) (fun s _ => s) a.1 () a.2) :=
 QgU.then' (fun n _ => PC.rep _ (fun _ => PC_en L) n ())
theorem Qjt : PC rdDir (fun d => gs d.1 ++ (d.2.map blk).flatten) (fun d => (d.1 < 18446744073709551616 ∧ decide (d.1 ≤ 1048576) = true) ∧ QaJ (fun acc x => (x.length ≤ 64 ∧ U8 x) ∧ QaU acc x = true) (fun acc x => acc ++ [x]) d.1 [] d.2) :=
 QgU.then' (fun n _ => QkQ n [])
abbrev MTP:=List Int × Nat × List Int × (Nat × List (List Int)) × (Nat × List (Nat × List Int)) × List Int
def MWT (x : MTP) : List Int:=x.1 ++ (fixL (x.2.1 : Int) 8 ++ (x.2.2.1 ++ ((gs x.2.2.2.1.1 ++ (x.2.2.2.1.2.map blk).flatten) ++ ((gs x.2.2.2.2.1.1 ++ (x.2.2.2.2.1.2.map fun t => gs t.1 ++ t.2).flatten) ++ x.2.2.2.2.2))))
def MGT (x : MTP) : Prop:=((x.1.length = 4 ∧ U8 x.1) ∧ (x.1 == MHD) = true) ∧ x.2.1 < 18446744073709551615 ∧ (x.2.2.1.length = 32 ∧ U8 x.2.2.1) ∧
 ((x.2.2.2.1.1 < 18446744073709551616 ∧ decide (x.2.2.2.1.1 ≤ 1048576) = true) ∧ QaJ (fun acc x => (x.length ≤ 64 ∧ U8 x) ∧ QaU acc x = true) (fun acc x => acc ++ [x]) x.2.2.2.1.1 [] x.2.2.2.1.2) ∧
 ((x.2.2.2.2.1.1 < 18446744073709551616 ∧ decide (x.2.2.2.2.1.1 ≤ 1048576) = true) ∧ QaJ (fun _ : Unit => GEN x.2.2.2.1.2.length) (fun s _ => s) x.2.2.2.2.1.1 () x.2.2.2.2.1.2) ∧ (x.2.2.2.2.2.length = 32 ∧ U8 x.2.2.2.2.2)
theorem Qju : PC MRD MWT MGT:=PC_hd.then' fun _ _ => QkP.then' fun _ _ => (PC.bytes 32).then' fun _ _ => Qjt.then' fun d _ => (QkR d.2.length).then' fun _ _ => PC.bytes 32
def MPT (m : MAN) : MTP:=(MHD,m.ver,m.prev,((MTN m).length,MTN m),(m.es.length,m.es.map fun e => (PLC (MTN m) e.1,[e.2])),m.root)
theorem Qdq {m : MAN} {e : List Int × Int} (h : e ∈ m.es) : e.1 ∈ MTN m:=(Qbl _ _).2 (List.mem_map.2 ⟨e,h,rfl⟩)
theorem QeP (m : MAN) : (MTN m).length ≤ m.es.length:=by
 have:=QjS (m.es.map Prod.fst);rw [List.length_map] at this;exact this
theorem Qj0 (m : MAN) : MWT (MPT m) = MENC m:=by
 unfold MWT MPT MENC;simp only [List.map_map]
 rfl
theorem Qj1 {m : MAN} (h : MGD m) : MGT (MPT m):=by
 obtain ⟨h1,h2,h3,h4,h5⟩:=h;have hl:=QeP m;refine ⟨⟨⟨rfl,fun y hy => ?_⟩,by simp [MPT]⟩,h1,h2,⟨⟨?_,?_⟩,?_⟩,⟨⟨?_,?_⟩,?_⟩,h3⟩
 ·simp [MPT,MHD] at hy;omega
 ·simp only [MPT];omega
 ·simp only [MPT];exact decide_eq_true (by omega)
 ·simp only [MPT]
  refine (QbX (MTN m) [] List.Pairwise.nil).2 ⟨by rw [List.nil_append];exact Qb9 _,fun x hx => ?_⟩;obtain ⟨e,he,rfl⟩:=List.mem_map.1 ((Qbl _ _).1 hx);exact (h5 e he).1
 ·simp only [MPT];omega
 ·simp only [MPT];exact decide_eq_true (by omega)
 ·have e1 : (MPT m).2.2.2.2.1.1 = (MPT m).2.2.2.2.1.2.length:=by simp [MPT]
  rw [e1];refine (Qdp _).2 (fun t ht => ?_);simp only [MPT] at ht ⊢;obtain ⟨e,he,rfl⟩:=List.mem_map.1 ht;have hp:=Qcj (Qdq he);obtain ⟨_,k2,k3⟩:=h5 e he;refine ⟨⟨by simp only;omega,decide_eq_true hp⟩,⟨rfl,fun y hy => ?_⟩,decide_eq_true (by simpa using k3)⟩;rw [List.mem_singleton] at hy;omega
theorem Qis (m : MAN) : QaH (MTN m).length (MPT m).2.2.2.2.1.2 = true:=by
 unfold QaH;rw [List.all_eq_true];intro i hi;rw [List.mem_range] at hi
 have hx : (MTN m).getD i [] ∈ MTN m:=by
  rw [List.getD_eq_getElem?_getD,List.getElem?_eq_getElem hi];exact List.getElem_mem hi
 obtain ⟨e,he,e1⟩:=List.mem_map.1 ((Qbl _ _).1 hx);rw [List.any_eq_true];refine ⟨(PLC (MTN m) e.1,[e.2]),List.mem_map.2 ⟨e,he,rfl⟩,?_⟩;simp only [e1,beq_iff_eq];exact Qd1 (Qb9 _) hi
theorem QkS (m : MAN) : MOF m.ver m.prev (MTN m) (MPT m).2.2.2.2.1.2 m.root = m:=by
 unfold MOF MPT
 cases m with
 | mk v p es r =>
  congr 1
  simp only [List.map_map];rw [List.map_congr_left (g:=fun e => e),List.map_id'];intro e he;simp only [Function.comp];rw [Qfr (Qdq (m:=⟨v,p,es,r⟩) he)]
  rfl
theorem Qd3 {m : MAN} (h : MGD m) : MDEC (MENC m) = .ok m:=by
 have k:=Qju.back (MPT m) [] (Qj1 h);rw [Qj0,List.append_nil] at k;unfold MDEC;rw [k]
 show (if ([] : List Int) = [] then (if QaH (MTN m).length (MPT m).2.2.2.2.1.2 = true then Except.ok (MOF m.ver m.prev (MTN m) (MPT m).2.2.2.2.1.2 m.root) else .error 3) else .error 3) = .ok m
 rw [if_pos rfl,if_pos (Qis m),QkS]
theorem QcL {b : List Int} {m : MAN} (h8 : U8 b) (h : MDEC b = .ok m) : MGD m ∧ MENC m = b:=by
 unfold MDEC at h
 cases e1 : MRD b with
 | error e => rw [e1] at h;cases h
 | ok x =>
  obtain ⟨⟨hd,v,p,⟨n,l⟩,⟨q,ts⟩,r⟩,rest⟩:=x;rw [e1] at h;simp only at h
  by_cases hr : rest = []
  ·rw [if_pos hr] at h
   by_cases hu : QaH l.length ts = true
   ·rw [if_pos hu] at h
    subst hr;obtain ⟨g,hb⟩:=Qju.only b _ _ h8 e1;rw [List.append_nil] at hb;simp only [Except.ok.injEq] at h;obtain ⟨⟨_,ghd⟩,gv,gp,⟨⟨_,_⟩,gl⟩,⟨⟨_,gq⟩,gt⟩,gr⟩:=g;simp only at ghd gv gp gl gq gt gr;have hn : l.length = n:=Qdo gl;have hq : ts.length = q:=Qdo gt;subst hn hq;obtain ⟨rl,ll⟩:=(QbX l [] List.Pairwise.nil).1 gl;rw [List.nil_append] at rl;have gt':=(Qdp ts).1 gt
    have hat : ∀ t ∈ ts,t.1 < l.length:=fun t ht => of_decide_eq_true (gt' t ht).1.2
    have hmem : ∀ t ∈ ts,l.getD t.1 [] ∈ l:=fun t ht => by
     rw [List.getD_eq_getElem?_getD,List.getElem?_eq_getElem (hat t ht)];exact List.getElem_mem (hat t ht)
    have hT : MTN m = l:=by
     symm
     rw [← h];refine Qdk rl (fun x => ⟨fun hx => ?_,fun hx => ?_⟩)
     ·have hi:=Qcj hx
      unfold QaH at hu;rw [List.all_eq_true] at hu;have:=hu (PLC l x) (List.mem_range.2 hi);rw [List.any_eq_true] at this;obtain ⟨t,ht,e⟩:=this;rw [beq_iff_eq] at e;refine List.mem_map.2 ⟨(l.getD t.1 [],t.2.getD 0 0),List.mem_map.2 ⟨t,ht,rfl⟩,?_⟩;simp only [e];exact Qfr hx
     ·obtain ⟨e,he,rfl⟩:=List.mem_map.1 hx
      obtain ⟨t,ht,rfl⟩:=List.mem_map.1 he;exact hmem t ht
    have hes : ∀ t ∈ ts,MEN l (l.getD t.1 [],t.2.getD 0 0) = gs t.1 ++ t.2:=fun t ht => by
     unfold MEN;simp only;rw [Qd1 rl (hat t ht)]
     congr 1
     have h1:=(gt' t ht).2.1.1;obtain ⟨y,hy⟩:=List.length_eq_one_iff.1 h1;rw [hy];rfl
    refine ⟨?_,?_⟩
    ·rw [← h]
     refine ⟨gv,gp,gr,?_,?_⟩
     ·simp only [MOF,List.length_map]
      exact of_decide_eq_true gq
     ·intro e he
      obtain ⟨t,ht,rfl⟩:=List.mem_map.1 he;refine ⟨ll _ (hmem t ht),?_,of_decide_eq_true (gt' t ht).2.2⟩;exact ((gt' t ht).2.1.2.at 0).1
    ·have hhd : hd = MHD:=by simpa using ghd
     unfold MENC;rw [hT,hb,← h,hhd];unfold MWT MOF;simp only [List.length_map,List.map_map];rw [List.map_congr_left (l:=ts) (f:=MEN l ∘ fun t => (l.getD t.1 [],t.2.getD 0 0)) (g:=fun t => gs t.1 ++ t.2) hes]
   ·rw [if_neg hu] at h;cases h
  ·rw [if_neg hr] at h;cases h
theorem QgV {m : MAN} (h : MGD m) : U8 (MENC m):=by
 obtain ⟨h1,h2,h3,h4,h5⟩:=h;unfold MENC;refine U8.app (fun y hy => by simp [MHD] at hy;omega) (U8.app (QcZ _ _) (U8.app h2.2 (U8.app (U8.app (Qcp _) ?_) (U8.app (U8.app (Qcp _) ?_) h3.2))))
 ·intro y hy
  obtain ⟨b,hb,hy⟩:=List.mem_flatten.1 hy;obtain ⟨x,hx,rfl⟩:=List.mem_map.1 hb;obtain ⟨e,he,rfl⟩:=List.mem_map.1 ((Qbl _ _).1 hx);exact Qcw _ (h5 e he).1.2 y hy
 ·intro y hy
  obtain ⟨l,hl,hy⟩:=List.mem_flatten.1 hy;obtain ⟨e,he,rfl⟩:=List.mem_map.1 hl
  rcases List.mem_append.1 hy with k | k
  ·exact Qcp _ y k
  ·rw [List.mem_singleton] at k
   have:=(h5 e he).2;omega
def mpan (c : Int) : Ending:=.panicked [{ v:=.iface 32 (.int .i64 c),recovered:=false }]
theorem Qaj (c : Int) (w : World) : Calls Tryz.prog 134 #[.bool true,.int .i64 c] w fun e w' => e = .returned (.tuple #[]) ∧ w = w':=by
 go_enter Tryz.func134,Tryz.ntmps134;go_wp2
 go_end0
 exact ⟨rfl,rfl⟩
theorem Qao (c : Int) (w : World) : Calls Tryz.prog 134 #[.bool false,.int .i64 c] w fun e w' => e = mpan c ∧ w = w':=by
 go_enter Tryz.func134,Tryz.ntmps134;go_wp2;exact ⟨rfl,rfl,rfl⟩
theorem QbS (v : Value) (w : World) : Calls Tryz.prog 133 #[v,.int .i64 0] w fun e w' => e = .returned v ∧ w = w':=by
 go_enter Tryz.func133,Tryz.ntmps133;go_wp2_with fail;refine (Qaj 0 w).mono ?_;rintro e w' ⟨rfl,rfl⟩;go_wp2;go_ret;exact ⟨rfl,rfl⟩
theorem QbT (v : Value) (c : Int) (w : World) (h : c ≠ 0) : Calls Tryz.prog 133 #[v,.int .i64 c] w fun e w' => e = mpan c ∧ w = w':=by
 have h0 : (c == 0) = false:=by simpa using h
 go_enter Tryz.func133,Tryz.ntmps133;go_wp2_with fail;refine (Qao c w).mono ?_;rintro e w' ⟨rfl,rfl⟩;unfold mpan;go_wp2;exact ⟨rfl,rfl,rfl⟩
theorem Qbv (v : Value) (w : World) : Calls Tryz.prog 135 #[v,.int .i64 0] w fun e w' => e = .returned v ∧ w = w':=by
 go_enter Tryz.func135,Tryz.ntmps135;go_wp2_with fail;refine (Qaj 0 w).mono ?_;rintro e w' ⟨rfl,rfl⟩;go_wp2;go_ret;exact ⟨rfl,rfl⟩
theorem Qcz (v : Value) (c : Int) (w : World) (h : c ≠ 0) : Calls Tryz.prog 135 #[v,.int .i64 c] w fun e w' => e = mpan c ∧ w = w':=by
 have h0 : (c == 0) = false:=by simpa using h
 go_enter Tryz.func135,Tryz.ntmps135;go_wp2_with fail;refine (Qao c w).mono ?_;rintro e w' ⟨rfl,rfl⟩;unfold mpan;go_wp2;exact ⟨rfl,rfl,rfl⟩
theorem Qh8 (v : Value) (w : World) : Calls Tryz.prog 187 #[v,.int .i64 0] w fun e w' => e = .returned v ∧ w = w':=by
 go_enter Tryz.func187,Tryz.ntmps187;go_wp2_with fail;refine (Qaj 0 w).mono ?_;rintro e w' ⟨rfl,rfl⟩;go_wp2;go_ret;exact ⟨rfl,rfl⟩
theorem Qh9 (v : Value) (c : Int) (w : World) (h : c ≠ 0) : Calls Tryz.prog 187 #[v,.int .i64 c] w fun e w' => e = mpan c ∧ w = w':=by
 have h0 : (c == 0) = false:=by simpa using h
 go_enter Tryz.func187,Tryz.ntmps187;go_wp2_with fail;refine (Qao c w).mono ?_;rintro e w' ⟨rfl,rfl⟩;unfold mpan;go_wp2;exact ⟨rfl,rfl,rfl⟩
theorem QcA {ys : List Int} {c : Int} (h : Qab ys = (0,0,c)) (hc : c ≠ 0) : rdV ys = .error c:=by unfold rdV;rw [h,if_neg hc]
theorem Qbw {ys : List Int} {a k : Nat} (h : Qab ys = ((a : Int),k,0)) : rdV ys = .ok (a,ys.drop k):=by unfold rdV;rw [h,if_pos rfl,Int.toNat_natCast]
theorem QaN {α : Type} {r : RDG α} {c : α → Bool} {e e' : Int} {ys : List Int} (h : r ys = .error e) : QaQ r c e' ys = .error e:=by unfold QaQ;rw [h]
theorem Qbe {α : Type} {r : RDG α} {c : α → Bool} {e' : Int} {ys : List Int} {x : α} {t : List Int} (h : r ys = .ok (x,t)) (hc : c x = false) : QaQ r c e' ys = .error e':=by unfold QaQ;rw [h];simp [hc]
theorem QaS {α : Type} {r : RDG α} {c : α → Bool} {e' : Int} {ys : List Int} {x : α} {t : List Int} (h : r ys = .ok (x,t)) (hc : c x = true) : QaQ r c e' ys = .ok (x,t):=by unfold QaQ;rw [h];simp [hc]
theorem Qax {α β : Type} {r1 : RDG α} {r2 : α → RDG β} {ys : List Int} {e : Int} (h : r1 ys = .error e) : QaI r1 r2 ys = .error e:=by unfold QaI;rw [h]
theorem Qap {α β : Type} {r1 : RDG α} {r2 : α → RDG β} {ys t : List Int} {x : α} {e : Int} (h : r1 ys = .ok (x,t)) (h2 : r2 x t = .error e) : QaI r1 r2 ys = .error e:=by unfold QaI;rw [h];simp only [h2]
theorem Qa2 {α β : Type} {r1 : RDG α} {r2 : α → RDG β} {ys t t' : List Int} {x : α} {y : β} (h : r1 ys = .ok (x,t)) (h2 : r2 x t = .ok (y,t')) : QaI r1 r2 ys = .ok ((x,y),t'):=by unfold QaI;rw [h];simp only [h2]
theorem QfR {ys : List Int} {c : Int} (h : Qab ys = (0,0,c)) (hc : c ≠ 0) : QbW ys = .error c:=QaN (QcA h hc)
theorem QeG {ys : List Int} {a k : Nat} (h : Qab ys = ((a : Int),k,0)) (hn : 1048576 < a) : QbW ys = .error 4:=Qbe (Qbw h) (decide_eq_false (by omega))
theorem QgA {ys : List Int} {a k : Nat} (h : Qab ys = ((a : Int),k,0)) (hn : a ≤ 1048576) : QbW ys = .ok (a,ys.drop k):=QaS (Qbw h) (decide_eq_true hn)
def RDE {α : Type} (w : World) (R : Nat) (v : Value) (r : Except Int (α × List Int)) (val : α → Ending → World → Prop) (e : Ending) (w' : World) : Prop :=
 Only (fun k => k = R) w w' ∧ ((∃ c,c ≠ 0 ∧ r = .error c ∧ e = mpan c) ∨ ∃ x rest,r = .ok (x,rest) ∧ val x e w' ∧ ∃ v2,CurAt 111 w' R v2 rest ∧ v2.ownBlock = v.ownBlock)
theorem QbU {w : World} {R : Nat} {v : Value} {ys : List Int} (h : CurAt 111 w R v ys) :
  Calls Tryz.prog 185 #[.pointer (some ⟨R,0,none⟩)] w (RDE w R v (QbW ys) fun n e _ => e = .returned (.int .i64 (n : Nat)) ∧ n ≤ 1048576):=by
 have A:=Qaa (QcX h)
 rcases Qam h.rng with ⟨c,hs,hc⟩ | ⟨a,k,hs,_,_,ha,_⟩
 ·have hc0 : c ≠ 0:=by omega
  rw [QfR hs hc0];rw [hs] at A;clear h hs hc;go_enter Tryz.func185,Tryz.ntmps185;go_wp2_with fail;refine A.out.mono ?_;rintro e w1 ⟨rfl,v2,_,_,o1⟩;have O1:=Qaa o1;clear o1 A;go_wp2_with fail;refine (Qcz _ c w1 hc0).mono ?_;rintro e w' ⟨rfl,rfl⟩;unfold mpan;go_wp2;exact ⟨rfl,O1.out,.inl ⟨c,hc0,rfl,rfl⟩⟩
 ·rw [hs] at A
  by_cases hn : 1048576 < a
  ·rw [QeG hs hn]
   have d1 : decide ((a : Int) ≤ 1048576) = false:=by simp;omega
   have d2 : decide (a ≤ 1048576) = false:=by simp;omega
   clear h hs;go_enter Tryz.func185,Tryz.ntmps185;go_wp2_with fail;refine A.out.mono ?_;rintro e w1 ⟨rfl,v2,_,_,o1⟩;have O1:=Qaa o1;clear o1 A;go_wp2_with fail;refine (Qbv _ w1).mono ?_;rintro e w' ⟨rfl,rfl⟩;go_wp2_with fail;refine (Qao 4 w1).mono ?_;rintro e w' ⟨rfl,rfl⟩;unfold mpan;go_wp2;exact ⟨rfl,O1.out,.inl ⟨4,by decide,rfl,rfl⟩⟩
  ·rw [QgA hs (by omega)]
   have d1 : decide ((a : Int) ≤ 1048576) = true:=by simp;omega
   have d2 : decide (a ≤ 1048576) = true:=by simp;omega
   have hw : IntKind.i64.wrap (a : Int) = a:=by rw [IntKind.wrap_i64];omega
   clear h hs;go_enter Tryz.func185,Tryz.ntmps185;go_wp2_with fail;refine A.out.mono ?_;rintro e w1 ⟨rfl,v2,hcur,hown,o1⟩;have F:=Qaa (And.intro hcur (And.intro hown o1));clear o1 A hcur hown;go_wp2_with fail;refine (Qbv _ w1).mono ?_;rintro e w' ⟨rfl,rfl⟩;go_wp2_with fail;refine (Qaj 4 w1).mono ?_;rintro e w' ⟨rfl,rfl⟩;go_wp2;go_ret;exact ⟨F.out.2.2,.inr ⟨a,_,rfl,⟨rfl,by omega⟩,v2,F.out.1,F.out.2.1⟩⟩
section
open Go.ChangeShapes Go.WideShapes
def Ens (w : World) (v : Value) (s : List (List Int × Int)) : Prop :=
 ∃ ao cap,v = .slice ao s.length cap ∧ s.length ≤ cap ∧ (s ≠ [] → ∃ b off,ao = some ⟨b,off,none⟩ ∧ ∀ j,j < s.length →
  w.cell? ⟨b,off + j * 2,none⟩ = some (.string (strOfNums (s.getD j ([],0)).1)) ∧ w.cell? ⟨b,off + j * 2 + 1,none⟩ = some (.int .i64 (s.getD j ([],0)).2))
theorem Ens.len {w : World} {v : Value} {s : List (List Int × Int)} (h : Ens w v s) : ∃ ao cap,v = .slice ao s.length cap:=by
 obtain ⟨ao,cap,rfl,_⟩:=h;exact ⟨ao,cap,rfl⟩
theorem Ens.nil (w : World) : Ens w (.slice none 0 0) []:=⟨none,0,rfl,Nat.le_refl _,fun h => absurd rfl h⟩
theorem Ens.at {w : World} {v : Value} {s : List (List Int × Int)} (h : Ens w v s) (j : Nat) (hj : j < s.length) :
  ∃ b off cap,v = .slice (some ⟨b,off,none⟩) s.length cap ∧ w.cell? ⟨b,off + j * 2,none⟩ = some (.string (strOfNums (s.getD j ([],0)).1)) ∧ w.cell? ⟨b,off + j * 2 + 1,none⟩ = some (.int .i64 (s.getD j ([],0)).2):=by
 obtain ⟨ao,cap,rfl,_,hr⟩:=h;obtain ⟨b,off,rfl,hc⟩:=hr (by intro h0;subst h0;simp at hj);exact ⟨b,off,cap,rfl,hc j hj⟩
theorem Ens.keep {w w' : World} {v : Value} {s : List (List Int × Int)} (h : Ens w v s) {S : Nat → Prop} (ho : Only S w w') (hs : ∀ b,v.ownBlock = some b → ¬ S b) : Ens w' v s:=by
 obtain ⟨ao,cap,rfl,hl,hr⟩:=h;refine ⟨ao,cap,rfl,hl,fun hne => ?_⟩;obtain ⟨b,off,rfl,hc⟩:=hr hne;refine ⟨b,off,rfl,fun j hj => ?_⟩;have hb : ¬ S b:=hs b rfl;obtain ⟨h0,h1⟩:=hc j hj;have hlt : b < w.heap.size:=World.block_lt_of_cell? w _ h0;have e:=ho.block b hlt hb;exact ⟨by rw [← h0];unfold World.cell?;rw [e],by rw [← h1];unfold World.cell?;rw [e]⟩
theorem Ens.past {w w' : World} {v : Value} {s : List (List Int × Int)} (h : Ens w v s) (o : Only (fun _ => False) w w') : Ens w' v s:=h.keep o (fun _ _ f => f)
def QaK (s : List (List Int × Int)) : List Value:=s.flatMap fun p => [.string (strOfNums p.1),.int .i64 p.2]
theorem QcJ (p : List Int × Int) (s : List (List Int × Int)) : QaK (p :: s) = .string (strOfNums p.1) :: .int .i64 p.2 :: QaK s:=rfl
theorem QcK (p : List Int × Int) (s : List (List Int × Int)) : QaK (s ++ [p]) = QaK s ++ [.string (strOfNums p.1),.int .i64 p.2]:=by
 unfold QaK;rw [List.flatMap_append];rfl
theorem QgQ (s : List (List Int × Int)) : ∀ (j : Nat),j < s.length → (QaK s)[j * 2]? = some (.string (strOfNums (s.getD j ([],0)).1)) ∧ (QaK s)[j * 2 + 1]? = some (.int .i64 (s.getD j ([],0)).2):=by
 induction s with
 | nil => intro j hj;simp at hj
 | cons p s ih =>
  intro j hj
  cases j with
  | zero => rw [QcJ];exact ⟨rfl,rfl⟩
  | succ j =>
   have hj' : j < s.length:=by simpa using hj
   obtain ⟨h0,h1⟩:=ih j hj';rw [QcJ,show (j + 1) * 2 = j * 2 + 1 + 1 by omega];simp only [List.getElem?_cons_succ,List.getD_cons_succ];exact ⟨h0,h1⟩
theorem Ens.of_own {w : World} {lo : Nat} {E : TypeId} {v : Value} {s : List (List Int × Int)} (h : w.ownsRow lo E 2 v s.length (QaK s)) : Ens w v s:=by
 rcases h.2 with ⟨rfl,hn⟩ | ⟨g,cap,cur,rfl,_,hg,hnc,_,hcs,htk⟩
 ·have : s = []:=List.eq_nil_of_length_eq_zero hn
  subst this;exact Ens.nil w
 ·refine ⟨_,cap,rfl,hnc,fun _ => ⟨g,0,rfl,fun j hj => ?_⟩⟩
  have hc : ∀ i,i < s.length * 2 → w.cell? ⟨g,0 + i,none⟩ = (QaK s)[i]?:=fun i hi => by
   rw [← htk,List.getElem?_take_of_lt hi];simp [World.cell?,hg]
  obtain ⟨h0,h1⟩:=QgQ s j hj;exact ⟨by rw [hc _ (by omega)];exact h0,by rw [Nat.add_assoc,hc _ (by omega)];exact h1⟩
def EU8 (s : List (List Int × Int)) : Prop:=∀ e ∈ s,U8 e.1
structure Mf (w : World) (x : Value) (m : MAN) (vp ve vr : Value) : Prop where
 form : x = .agg #[.int .u64 m.ver,vp,ve,vr]
 prev : Bs .u8 w vp m.prev
 es : Ens w ve m.es
 root : Bs .u8 w vr m.root
theorem Mf.past {w w' : World} {x : Value} {m : MAN} {vp ve vr : Value} (h : Mf w x m vp ve vr) (o : Only (fun _ => False) w w') : Mf w' x m vp ve vr:=⟨h.form,h.prev.past o,h.es.past o,h.root.past o⟩
structure Mok (m : MAN) : Prop where
 ver : m.ver < 18446744073709551616
 prev : U8 m.prev
 root : U8 m.root
 es : EU8 m.es
end
def Sts (w : World) (v : Value) (T : List (List Int)) : Prop :=
 ∃ ao cap,v = .slice ao T.length cap ∧ T.length ≤ cap ∧ (T ≠ [] → ∃ b off,ao = some ⟨b,off,none⟩ ∧ ∀ j,j < T.length → w.cell? ⟨b,off + j,none⟩ = some (.string (strOfNums (T.getD j []))))
theorem Sts.len {w : World} {v : Value} {T : List (List Int)} (h : Sts w v T) : ∃ ao cap,v = .slice ao T.length cap:=by
 obtain ⟨ao,cap,rfl,_⟩:=h;exact ⟨ao,cap,rfl⟩
theorem Sts.nil (w : World) : Sts w (.slice none 0 0) []:=⟨none,0,rfl,Nat.le_refl _,fun h => absurd rfl h⟩
theorem Sts.at {w : World} {v : Value} {T : List (List Int)} (h : Sts w v T) (j : Nat) (hj : j < T.length) :
  ∃ b off cap,v = .slice (some ⟨b,off,none⟩) T.length cap ∧ w.cell? ⟨b,off + j,none⟩ = some (.string (strOfNums (T.getD j []))):=by
 obtain ⟨ao,cap,rfl,_,hr⟩:=h;obtain ⟨b,off,rfl,hc⟩:=hr (by intro h0;subst h0;simp at hj);exact ⟨b,off,cap,rfl,hc j hj⟩
theorem Sts.keep {w w' : World} {v : Value} {T : List (List Int)} (h : Sts w v T) {S : Nat → Prop} (ho : Only S w w') (hs : ∀ b,v.ownBlock = some b → ¬ S b) : Sts w' v T:=by
 obtain ⟨ao,cap,rfl,hl,hr⟩:=h;refine ⟨ao,cap,rfl,hl,fun hne => ?_⟩;obtain ⟨b,off,rfl,hc⟩:=hr hne;refine ⟨b,off,rfl,fun j hj => ?_⟩;have hb : ¬ S b:=hs b rfl;have h0:=hc j hj;have hlt : b < w.heap.size:=World.block_lt_of_cell? w _ h0;have e:=ho.block b hlt hb;rw [← h0];unfold World.cell?;rw [e]
theorem Sts.past {w w' : World} {v : Value} {T : List (List Int)} (h : Sts w v T) (o : Only (fun _ => False) w w') : Sts w' v T:=h.keep o (fun _ _ f => f)
abbrev QaV (T : List (List Int)) : List Value:=T.map fun x => Value.string (strOfNums x)
theorem Sts.of_own {w : World} {lo : Nat} {E : TypeId} {v : Value} {T : List (List Int)} (h : w.ownsRow lo E 1 v T.length (QaV T)) : Sts w v T:=by
 rcases h.2 with ⟨rfl,hn⟩ | ⟨g,cap,cur,rfl,_,hg,hnc,_,hcs,htk⟩
 ·have : T = []:=List.eq_nil_of_length_eq_zero hn
  subst this;exact Sts.nil w
 ·refine ⟨_,cap,rfl,hnc,fun _ => ⟨g,0,rfl,fun j hj => ?_⟩⟩
  have hc : w.cell? ⟨g,0 + j,none⟩ = (QaV T)[j]?:=by
   rw [← htk,List.getElem?_take_of_lt (by omega)];simp [World.cell?,hg]
  rw [hc];simp [QaV,List.getD_eq_getElem?_getD,List.getElem?_eq_getElem hj]
theorem Qdl : ∀ (x y : List UInt8),Op.bytesLess x y = lexB (x.map fun c => (c.toNat : Int)) (y.map fun c => (c.toNat : Int))
 | _,[] => by cases ‹List UInt8› <;> rfl
 | [],_ :: _ => rfl
 | a :: x,b :: y => by
  have h1 : decide (a < b) = decide ((a.toNat : Int) < (b.toNat : Int)):=by
   rw [decide_eq_decide,UInt8.lt_iff_toNat_lt];omega
  have h2 : (a == b) = decide ((a.toNat : Int) = (b.toNat : Int)):=by
   rw [Bool.eq_iff_iff,beq_iff_eq,decide_eq_true_eq]
   constructor
   ·rintro rfl;rfl
   ·intro h;exact UInt8.toNat_inj.1 (by omega)
  simp only [Op.bytesLess,List.map_cons,lexB,← Qdl x y,h1,h2]
theorem QjT (s t : ByteArray) : Op.bytesLess s.toList t.toList = lexB (sb s) (sb t):=by
 rw [Qdl,ByteArray.toList_eq,ByteArray.toList_eq];rfl
theorem eq_sb (s t : ByteArray) : (s.toList == t.toList) = decide (sb s = sb t):=by
 rw [Bool.eq_iff_iff,beq_iff_eq,decide_eq_true_eq]
 constructor
 ·intro h
  unfold sb;rw [← ByteArray.toList_eq,← ByteArray.toList_eq,h]
 ·intro h
  rw [Qk2 h]
theorem QfV {l : List (List UInt8)} (h : l.Pairwise fun x y => Op.bytesLess y x = false) (hn : l.Nodup) : RIS (l.map fun s => s.map fun c => (c.toNat : Int)):=by
 unfold RIS;rw [List.pairwise_map];refine (h.and hn).imp (fun {a b} k => ?_)
 rcases Qb8 (a.map fun c => (c.toNat : Int)) (b.map fun c => (c.toNat : Int)) with e | e | e
 ·refine absurd ?_ k.2
  have hi : ∀ (x y : List UInt8),(x.map fun c => (c.toNat : Int)) = (y.map fun c => (c.toNat : Int)) → x = y:=by
   intro x
   induction x with
   | nil => intro y hy;cases y with
    | nil => rfl
    | cons b y => simp at hy
   | cons a x ih => intro y hy;cases y with
    | nil => simp at hy
    | cons b y =>
     simp only [List.map_cons,List.cons.injEq] at hy;rw [ih y hy.2,UInt8.toNat_inj.1 (show a.toNat = b.toNat by omega)]
  exact hi a b e
 ·exact e
 ·rw [← Qdl,k.1] at e;cases e
def PSZ (k : Nat) : Nat:=64 * 4 ^ k
section
open Go.Shelf
attribute [local go_sem] Oper.semAt_some
theorem Qft (t : Nat) : PSZ (t + 1) = PSZ t * 4:=by unfold PSZ;rw [Nat.pow_succ];omega
theorem Qd8 {t : Nat} (h : t ≤ 9) : (t < 9 ∧ PSZ t ≤ 4194304 ∧ 64 ≤ PSZ t) ∨ (t = 9 ∧ PSZ t = 16777216):=by
 rcases (show t = 0 ∨ t = 1 ∨ t = 2 ∨ t = 3 ∨ t = 4 ∨ t = 5 ∨ t = 6 ∨ t = 7 ∨ t = 8 ∨ t = 9 by omega) with rfl | rfl | rfl | rfl | rfl | rfl | rfl | rfl | rfl | rfl <;> decide
theorem QiF (n : Nat) (w : World) : CallsIn Fence.wide n Tryz.prog 102 #[] w fun e w' => e = .returned (.func (.func 141) #[] #[]) ∧ w' = w:=by
 refine callsIn_of_wp Tryz.func102 rfl trivial ?_ rfl;simp only [Tryz.ntmps102,List.size_toArray,List.length_nil,Nat.reduceSub,Array.replicate_succ,Array.replicate_zero,List.push_toArray,List.append_toArray,List.nil_append]
 gi_wp2
 go_ret;exact ⟨rfl,rfl⟩
theorem Qg6 (n L : Nat) (J Jx : Nat → World → Prop)
  (hY : ∀ (s : Nat) A,s < 9 → J s A → YieldAt Fence.wide (n - 1) Tryz.prog L #[.int .i64 (s : Int),.int .i64 (PSZ s : Int)] A fun e B =>
   (e = .returned (.bool true) ∧ J (s + 1) B) ∨ (e = .returned (.bool false) ∧ Jx (s + 1) B))
  (W : World) (h0 : J 0 W) :
  CallsIn Fence.wide n Tryz.prog 141 #[.func (.yield L) #[] #[]] W fun e B => (∃ v,e = .returned v) ∧ (J 9 B ∨ ∃ s,Jx s B):=by
 have HY:=Qaa hY;have H0:=Qaa h0;clear hY h0;refine callsIn_of_wp Tryz.func141 rfl trivial ?_ rfl;simp only [Tryz.ntmps141,List.size_toArray,List.length_cons,List.length_nil,Nat.reduceAdd,Nat.reduceSub,Array.replicate_succ,Array.replicate_zero,List.push_toArray,List.append_toArray,List.nil_append,List.cons_append]
 gi_wp2
 gi_loopw [2,3] (fun k z wr => ∃ t q : Nat,t ≤ 9 ∧ k = .int .i64 t ∧ z = .int .i64 q ∧ Hid (q = PSZ t) ∧ Hid (J t wr)) (fun k _ _ => 9 - (intOf k).toNat)
 case atStart => exact ⟨0,64,by omega,rfl,rfl,rfl,H0⟩
 case round =>
  obtain ⟨t,q,ht,rfl,rfl,HQ,HT⟩:=hrel
  rcases Qd8 ht with ⟨hlt,hle,hge⟩ | ⟨heq,hgr⟩
  ·rw [← HQ.out] at hle hge
   have dle : decide ((q : Int) ≤ 4194304) = true:=decide_eq_true (by omega);obtain ⟨fn,tmps,assign,body,hy,hR⟩:=HY.out t wr hlt HT.out;rw [← HQ.out] at hy;have HR:=Qaa hR;clear hR HT
   gi_wp2_with fail
   refine ⟨(fun h => by cases h),HR.out.mono ?_⟩;rintro e w3 (⟨rfl,hJ3⟩ | ⟨rfl,hJ3⟩)
   ·have H3:=Qaa hJ3
    clear HR hJ3
    gi_wp2
    go_roundw
    case rel => exact ⟨t + 1,q * 4,by omega,by go_num,by go_num,by show _ = _;rw [HQ.out,Qft],H3⟩
    case measure => simp [intOf];omega
   ·have H3:=Qaa hJ3
    clear HR hJ3
    gi_wp2
    refine bodyPost_ret (results_none rfl _ _ _) rfl ?_;exact ⟨⟨_,rfl⟩,.inr ⟨_,H3.out⟩⟩
  ·rw [← HQ.out] at hgr
   have dle : decide ((q : Int) ≤ 4194304) = false:=decide_eq_false (by omega);subst heq
   gi_wp2
   go_end0
   exact ⟨⟨_,rfl⟩,.inl HT.out⟩
end
end Go.Proofs.YtcpopagikbjimaaGreatDoor
