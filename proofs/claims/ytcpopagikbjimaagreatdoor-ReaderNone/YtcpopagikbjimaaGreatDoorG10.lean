import Derived.Test.YtcpopagikbjimaaGreatDoorG9
namespace Go.Proofs.YtcpopagikbjimaaGreatDoor
set_option maxHeartbeats 1000000
set_option maxRecDepth 100000
open Go.RowKit
section
open Go.Shelf
attribute [local go_sem] Oper.semAt_some
theorem QbI {P : Program} {fn : Func} {p : Tmp} {ty : TypeId} (h : fn.results = #[.cell p ty]) (tmps : Array Value) (w : World) {a : Addr} {v : Value} (ha : tmps[p]?.getD undef = .pointer (some a)) (hl : (loadVar ty a).run P w = .ok v w) :
  (results fn tmps).run P w = .ok v w:=by
 simp only [results,h];simp [ha,asAddr,hl]
theorem Qer {W : World} {b : Nat} {c : Int} (h : Boxed W b 3 (.int .i64 c)) : (loadVar 3 ⟨b,0,none⟩).run Tryz.prog W = .ok (.int .i64 c) W:=by
 have hc:=h.cell;simp [go_sem,hc]
def SZV (k : Int) : Int:=if 0 ≤ k ∧ k ≤ 8 then (PSZ k.toNat : Int) else 0
theorem Qes (k : Int) (w : World) : Calls Tryz.prog 72 #[.int .i64 k] w fun e w' => e = .returned (.int .i64 (SZV k)) ∧ Only (fun _ => False) w w':=by
 refine (callsIn_wide (n:=5)).1 ?_;refine callsIn_of_wp_marks Tryz.func72 rfl trivial ?_ rfl;simp only [Tryz.ntmps72,List.size_toArray,List.length_cons,List.length_nil,Nat.reduceAdd,Nat.reduceSub,Array.replicate_succ,Array.replicate_zero,List.push_toArray,List.append_toArray,List.nil_append,List.cons_append]
 gi_wp2_with fail
 refine ⟨trivial,(QiF _ _).mono ?_⟩;rintro e w2 ⟨rfl,rfl⟩
 gi_wp2_with fail
 obtain ⟨W0,hW0⟩ : ∃ W0,(w.alloc (.cells #[.int .i64 k] 3)).alloc (.cells #[.int .i64 0] 3) = W0:=⟨_,rfl⟩
 have o0 : Only (fun _ => False) w W0:=by rw [← hW0];exact ((Only.refl _ w).alloc _).alloc _
 have hsz : W0.heap.size = w.heap.size + 1 + 1:=by rw [← hW0];simp
 have bK : Boxed W0 w.heap.size 3 (.int .i64 k):=by rw [← hW0];exact (Boxed.new w 3 (.int .i64 k)).alloc _
 have bR : Boxed W0 (w.heap.size + 1) 3 (.int .i64 0):=by
  have h:=Boxed.new (w.alloc (.cells #[.int .i64 k] 3)) 3 (.int .i64 0);rw [World.size_alloc,hW0] at h;exact h
 rw [hW0]
 refine Qfv (c:=.ret) (gf:=141) (lb:=#[]) rfl (enters_of Tryz.func141 (by kernel_rfl) rfl)
  (fun x : Nat × Nat => #[.int .i64 (x.1 : Int),.int .i64 (x.2 : Int)]) (fun _ => rfl)
  (fun s A => (∀ j : Nat,j < s → (j : Int) ≠ k) ∧ Only (fun _ => False) W0 A)
  (fun s A => (0 ≤ k ∧ k ≤ 8) ∧ Only (fun j => j = w.heap.size + 1) W0 A ∧ Boxed A (w.heap.size + 1) 3 (.int .i64 (PSZ k.toNat : Int)))
  (fun s x s' A => s' = s + 1 ∧ s < 9 ∧ x.1 = s ∧ x.2 = PSZ s) 0 9
  (fun s A B r hi hl o => ⟨hi.1,hi.2.trans o (fun i hi e => by omega)⟩) (fun s A B r hi hl o => ⟨hi.1,hi.2.1.trans o (fun i hi e => by omega),Qay hi.2.2 o (by omega)⟩) (fun s A B hi o => ⟨hi.1,hi.2.same o⟩)
  (fun s x s' A B r hv hl o => hv) ⟨fun j hj => by omega,Only.refl _ _⟩
  ?hit (fun x => { tmps:=#[.int .i64 k,.pointer (some ⟨w.heap.size,0,none⟩),.pointer (some ⟨w.heap.size + 1,0,none⟩),.int .i64 (x.1 : Int),.int .i64 (x.2 : Int),.func (.func 141) #[] #[],.int .i64 (x.1 : Int),.int .i64 (x.2 : Int),undef,undef,undef,undef],defers:=[] }) ?assign ?body ?done ?stop
 case hit =>
  intro J Jx W hJ hJo hY h0 hW;refine Qg6 4 (W0.heap.size + 1) J Jx (fun s A h9 hs => ?_) W h0;obtain ⟨fn,tmps,assign,body,hy,hR⟩:=hY s (s,PSZ s) (s + 1) A hs ⟨rfl,h9,rfl,rfl⟩;refine ⟨fn,tmps,assign,body,hy,hR.mono ?_⟩;rintro e B (⟨h1,h2,_⟩ | h)
  ·exact .inl ⟨h1,h2⟩
  ·exact .inr h
 case assign =>
  intro x W K hK
  gi_wp2
  exact hK
 case body =>
  rintro s ⟨x1,x2⟩ s' W ⟨hs,hq⟩ ⟨rfl,h9,hx1,hx2⟩;simp only at hx1 hx2;subst hx1 hx2;have hck:=(Qay bK hq (fun f => f)).cell;have bR':=Qay bR hq (fun f => f);have hcr:=bR'.cell;have hfr:=bR'.frozen
  by_cases heq : (x1 : Int) = k
  ·have d1 : ((x1 : Int) == k) = true:=by simpa using heq
   have o5 : Only (fun j => j = w.heap.size + 1) W (W.setCell ⟨w.heap.size + 1,0,none⟩ (.int .i64 (PSZ x1 : Int))):=(Only.refl (fun j => j = w.heap.size + 1) W).setCell (p:=⟨w.heap.size + 1,0,none⟩) (fun _ => rfl) _
   have FIN : Hid (Only (fun j => j < W0.heap.size) W (W.setCell ⟨w.heap.size + 1,0,none⟩ (.int .i64 (PSZ x1 : Int))) ∧ (0 ≤ k ∧ k ≤ 8) ∧ Only (fun j => j = w.heap.size + 1) W0 (W.setCell ⟨w.heap.size + 1,0,none⟩ (.int .i64 (PSZ x1 : Int))) ∧ Boxed (W.setCell ⟨w.heap.size + 1,0,none⟩ (.int .i64 (PSZ x1 : Int))) (w.heap.size + 1) 3 (.int .i64 (PSZ k.toNat : Int))):=by
    refine ⟨o5.mono (fun j _ e => by omega),by omega,(hq.mono (fun _ _ f => f.elim)).trans o5 (fun _ _ e => e),?_⟩
    have : k.toNat = x1:=by omega
    rw [this];exact bR'.set _
   generalize PSZ x1 = q at *;clear hs hq bR' o5 heq
   gi_wp2
   exact ⟨rfl,FIN.out⟩
  ·have d1 : ((x1 : Int) == k) = false:=by simpa using heq
   have FIN : Hid (Only (fun j => j < W0.heap.size) W W ∧ (∀ j : Nat,j < x1 + 1 → (j : Int) ≠ k) ∧ Only (fun _ => False) W0 W):=by
    refine ⟨Only.refl _ _,fun j hj e => ?_,hq⟩
    rcases Nat.lt_or_ge j x1 with h | h
    ·exact hs j h e
    ·exact heq (by omega)
   generalize PSZ x1 = q at *;clear hs hq bR' heq
   gi_wp2
   exact FIN.out
 case done =>
  intro W hi hD
  have hS : SZV k = 0:=by
   unfold SZV;rw [if_neg];rintro ⟨h1,h2⟩;exact hi.1 k.toNat (by omega) (by omega)
  have bR':=Qay bR hi.2 (fun f => f);have hcr:=bR'.cell;have hfr:=bR'.frozen;have HI:=Qaa hi.2;have HD:=Qaa hD;have HBR:=Qaa bR';have HS:=Qaa hS;clear hi hD bR' hS
  gi_wp2
  have o5 : Only (fun j => j = w.heap.size + 1) W (W.setCell ⟨w.heap.size + 1,0,none⟩ (.int .i64 0)):=(Only.refl (fun j => j = w.heap.size + 1) W).setCell (p:=⟨w.heap.size + 1,0,none⟩) (fun _ => rfl) _;have hD5:=o5.heap HD.out (by omega);have o6 : Only (fun j => j = W0.heap.size) (W.setCell ⟨w.heap.size + 1,0,none⟩ (.int .i64 0)) ((W.setCell ⟨w.heap.size + 1,0,none⟩ (.int .i64 0)).putObj W0.heap.size (.deferred none)):=(Only.refl _ _).putObj _ _ (fun _ => rfl);refine ⟨by simp,.inl ⟨_,_,rfl,run_takeDeferred hD5,?_⟩⟩;refine ⟨.int .i64 0,QbI rfl _ _ rfl (Qer (Qay (HBR.out.set _) o6 (by omega))),?_,?_⟩
  ·rw [HS.out]
  ·exact ((o0.same HI.out).trans o5 (fun j _ e => by omega)).trans o6 (fun j _ e => by omega)
 case stop =>
  intro s W hi hD;have hS : SZV k = (PSZ k.toNat : Int):=if_pos hi.1;have hcr:=hi.2.2.cell;have HI:=Qaa hi.2.1;have HD:=Qaa hD;have HBR:=Qaa hi.2.2;have HS:=Qaa hS;clear hi hD hS;generalize PSZ k.toNat = q at *
  gi_wp2
  have o6 : Only (fun j => j = W0.heap.size) W (W.putObj W0.heap.size (.deferred none)):=(Only.refl _ _).putObj _ _ (fun _ => rfl);refine ⟨by simp,.inl ⟨_,_,rfl,run_takeDeferred HD.out,?_⟩⟩;refine ⟨.int .i64 (q : Int),QbI rfl _ _ rfl (Qer (Qay HBR.out o6 (by omega))),?_,?_⟩
  ·rw [HS.out]
  ·exact (o0.trans HI.out (fun j _ e => by omega)).trans o6 (fun j _ e => by omega)
end
end Go.Proofs.YtcpopagikbjimaaGreatDoor
