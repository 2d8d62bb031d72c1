import Derived.Test.YtnhapmboienipaaGreatDoorG6
import Derived.Deep.RegionLaw
namespace Go.Proofs.YtnhapmboienipaaGreatDoor
open Go.RowKit
def hc (st : List Nat) (pc : List Int) (n : Nat) : List Value:=wl st ++ bl pc ++ [.int .i64 (n : Int)]
theorem Qgm {st : List Nat} {pc : List Int} (h1 : st.length = 8) (h2 : pc.length = 64) (n : Nat) : (hc st pc n).length = 73:=by
 simp [hc,Qaw,Qal,h1,h2]
theorem hc_n {st : List Nat} {pc : List Int} (h1 : st.length = 8) (h2 : pc.length = 64) (n : Nat) : (hc st pc n)[72]? = some (.int .i64 (n : Int)):=by
 unfold hc;rw [List.getElem?_append_right (by simp [Qaw,Qal,h1,h2])];simp [Qaw,Qal,h1,h2]
theorem QiG {st : List Nat} {pc : List Int} (h1 : st.length = 8) (h2 : pc.length = 64) (n m : Nat) : (hc st pc n).set 72 (.int .i64 (m : Int)) = hc st pc m:=by
 unfold hc;rw [List.set_append_right _ _ (by simp [Qaw,Qal,h1,h2])];simp [Qaw,Qal,h1,h2]
theorem Qgn {st : List Nat} {pc : List Int} (h1 : st.length = 8) (h2 : pc.length = 64) (n r : Nat) (ys : List Int) (hr : r + ys.length ≤ 64) : splice (hc st pc n) (8 + r) (bl ys) = hc st (splice pc r ys) n:=by
 unfold splice hc
 have e1 : (wl st ++ bl pc ++ [Value.int .i64 (n : Int)]).take (8 + r) = wl st ++ (bl pc).take r:=by
  rw [List.append_assoc,List.take_append,Qaw,h1,List.take_of_length_le (by rw [Qaw,h1];omega),show 8 + r - 8 = r by omega,List.take_append_of_le_length (by rw [Qal,h2];omega)]
 have e2 : (wl st ++ bl pc ++ [Value.int .i64 (n : Int)]).drop (8 + r + (bl ys).length) = (bl pc).drop (r + ys.length) ++ [Value.int .i64 (n : Int)]:=by
  rw [List.append_assoc,List.drop_append,Qaw,h1,List.drop_of_length_le (by rw [Qaw,h1,Qal];omega),Qal,show 8 + r + ys.length - 8 = r + ys.length by omega,List.drop_append_of_le_length (by rw [Qal,h2];omega)]
  rfl
 rw [e1,e2];simp [bl,List.map_append,List.map_take,List.map_drop]
def Hs1 (w : World) (g : Nat) (all : List Int) : Prop:=∃ st pc,Blk w g 147 (hc st pc all.length) ∧ HP st pc all
def Hs (w : World) (g : Nat) (all : List Int) : Prop:=Hs1 w g all ∨ (all = [] ∧ ∃ st pc,Blk w g 147 (hc st pc 0) ∧ st.length = 8 ∧ pc.length = 64 ∧ U8 pc)
theorem Hs1.keep {w w' : World} {g : Nat} {all : List Int} (h : Hs1 w g all) {S : Nat → Prop} (o : Only S w w') (hs : ¬ S g) : Hs1 w' g all:=by
 obtain ⟨st,pc,h1,h2⟩:=h;exact ⟨st,pc,h1.keep o hs,h2⟩
theorem Hs.keep {w w' : World} {g : Nat} {all : List Int} (h : Hs w g all) {S : Nat → Prop} (o : Only S w w') (hs : ¬ S g) : Hs w' g all:=by
 rcases h with h | ⟨rfl,st,pc,h1,h2⟩
 ·exact .inl (h.keep o hs)
 ·exact .inr ⟨rfl,st,pc,h1.keep o hs,h2⟩
theorem Hs.past {w w' : World} {g : Nat} {all : List Int} (h : Hs w g all) (o : Only (fun _ => False) w w') : Hs w' g all:=h.keep o (fun f => f)
theorem Hs.lt {w : World} {g : Nat} {all : List Int} (h : Hs w g all) : g < w.heap.size:=by
 rcases h with ⟨st,pc,h1,_⟩ | ⟨rfl,st,pc,h1,_⟩
 ·exact h1.lt
 ·exact h1.lt
theorem Qc5 {P : Program} {ops : Array Oper} {o : Oper} {a : Act} {w : World} {K : Act → World → Prop} {Q : Exit → Act → World → Prop} {E : Prop} (hgd : o.guard = none) (d s : Operand) (dT sT : TypeId)
  (ho : o.op = .call { callee:=.builtin .copy,args:=#[d,s],argTypes:=#[dT,sT] }) (elem : TypeId) (hu : P.underlying dT = some (.slice elem)) (hsz : (P.info? elem).map (·.size) = some 1)
  (g off dLen dCap : Nat) (ad : Addr) (sLen sCap : Nat) (hd : a.eval d = .slice (some ⟨g,off,none⟩) dLen dCap) (hs : a.eval s = .slice (some ad) sLen sCap)
  (cur : List Value) (t : TypeId) (hg : Blk w g t cur) (cs : List Value) (n : Nat) (hnn : cs.length = n) (hn : cs.length = Nat.min sLen dLen)
  (hsrc : ∀ j v,cs[j]? = some v → w.cell? (ad.add j) = some v) (hfit : off + cs.length ≤ cur.length) (h1 : ∀ v ∈ cs,v.oneCell' = true)
  (h : ∀ w',Blk w' g t (splice cur off cs) → Only (fun k => k = g) w w' → K (a.put o.dst (.int .i64 (n : Int))) w') :
  if Region.wanted o (yielded ops a.tmps) = true then Oper.wp P o a w K Q else E:=by
 have hw : Region.wanted o (yielded ops a.tmps) = true:=by simp [Region.wanted,hgd]
 rw [if_pos hw];have hrun:=run_copy_row (P:=P) w dT sT o.type elem g off dLen dCap ad sLen sCap cur.toArray t cs hu hsz hg hn hsrc (by simpa using hfit) h1;unfold Oper.wp;simp [execOp,ho,resolve,invoke,builtin,hd,hs,hrun,Result.andThen];rw [show goInt (cs.length : Int) = .int .i64 (n : Int) by rw [hnn];rfl];refine h _ ?_ ((Only.refl (fun k => k = g) w).setRow (fun _ => rfl) _);have:=hg.row (splice cur off cs)
 simpa [splice] using this
end Go.Proofs.YtnhapmboienipaaGreatDoor
