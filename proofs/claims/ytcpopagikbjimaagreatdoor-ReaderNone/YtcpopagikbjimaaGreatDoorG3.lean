import Derived.Deep.WholeRow
import Derived.Great.BuildSlice
import Derived.Deep.RegionHeld3
import Derived.Deep.RegionLaw
import Derived.Test.YtcpopagikbjimaaGreatDoorG2
namespace Go.Proofs.YtcpopagikbjimaaGreatDoor
set_option maxHeartbeats 1600000
set_option maxRecDepth 100000
open Go.RowKit
def wl (s : List Nat) : List Value:=s.map fun x => Value.int .u32 ((x : Nat) : Int)
def bl (p : List Int) : List Value:=p.map (Value.int .u8)
theorem QaA (s : List Nat) : (wl s).length = s.length:=List.length_map ..
theorem Qah (s : List Int) : (bl s).length = s.length:=List.length_map ..
theorem wl_at (s : List Nat) (j : Nat) (h : j < s.length) : (wl s)[j]? = some (.int .u32 ((s.getD j 0 : Nat) : Int)):=by
 simp [wl,List.getD_eq_getElem?_getD,List.getElem?_eq_getElem h]
theorem bl_at (s : List Int) (j : Nat) (h : j < s.length) : (bl s)[j]? = some (.int .u8 (s.getD j 0)):=by
 simp [bl,List.getD_eq_getElem?_getD,List.getElem?_eq_getElem h]
theorem Qje (s : List Nat) : ∀ v ∈ wl s,v.oneCell' = true:=by
 intro u hu;simp [wl] at hu;obtain ⟨x,_,rfl⟩:=hu;rfl
theorem Qcf (s : List Int) : ∀ v ∈ bl s,v.oneCell' = true:=QaD _ _
theorem Qcr (s : List Nat) : (wl s).toArray.all (·.oneCell') = true:=all_oneCell_toArray (Qje s)
theorem Qgk (s t : List Nat) : wl (s ++ t) = wl s ++ wl t:=List.map_append ..
theorem Qgl (s : List Nat) (i x : Nat) : (wl s).set i (.int .u32 ((x : Nat) : Int)) = wl (s.set i x):=by
 simp [wl,List.map_set]
def Blk (w : World) (g : Nat) (t : TypeId) (cs : List Value) : Prop:=w.heap[g]? = some (.cells cs.toArray t (0,0))
theorem Blk.keep {w w' : World} {g : Nat} {t : TypeId} {cs : List Value} (h : Blk w g t cs) {S : Nat → Prop} (o : Only S w w') (hs : ¬ S g) : Blk w' g t cs:=Only.heap o h hs
theorem Blk.past {w w' : World} {g : Nat} {t : TypeId} {cs : List Value} (h : Blk w g t cs) (o : Only (fun _ => False) w w') : Blk w' g t cs:=h.keep o (fun f => f)
theorem Blk.lt {w : World} {g : Nat} {t : TypeId} {cs : List Value} (h : Blk w g t cs) : g < w.heap.size:=(Array.getElem?_eq_some_iff.1 h).1
theorem Blk.cell {w : World} {g : Nat} {t : TypeId} {cs : List Value} (h : Blk w g t cs) (j : Nat) : w.cell? ⟨g,j,none⟩ = cs[j]?:=by
 rw [cell_of_row w g j _ t _ h];simp
theorem Blk.froz {w : World} {g : Nat} {t : TypeId} {cs : List Value} (h : Blk w g t cs) (j : Nat) : w.frozen? ⟨g,j,none⟩ = false:=frozen_of_row w g j _ t h
theorem Blk.set {w : World} {g : Nat} {t : TypeId} {cs : List Value} (h : Blk w g t cs) (j : Nat) (v : Value) : Blk (w.setCell ⟨g,j,none⟩ v) g t (cs.set j v):=by
 have:=heap_setCell_same w g j _ t v h
 simpa [Blk] using this
theorem Blk.drew {w : World} {g : Nat} {t : TypeId} {cs : List Value} (h : Blk w g t cs) : Blk w.drew g t cs:=h
theorem Blk.alloc {w : World} {g : Nat} {t : TypeId} {cs : List Value} (h : Blk w g t cs) (o : Obj) : Blk (w.alloc o) g t cs:=h.past ((Only.refl _ _).alloc o)
theorem Blk.new (w : World) (t : TypeId) (cs : List Value) : Blk (w.alloc (.cells cs.toArray t)) w.heap.size t cs:=heap_alloc_last w _
theorem Blk.row {w : World} {g : Nat} {t : TypeId} {cs : List Value} (h : Blk w g t cs) (vs : List Value) : Blk (w.setRow g vs.toArray) g t vs:=setRow_heap w g _ _ t _ h
theorem Only.setRow {S : Nat → Prop} {a b : World} (h : Only S a b) {g : Nat} (hp : g < a.heap.size → S g) (cs : Array Value) : Only S a (b.setRow g cs) :=
 h.trans (T:=fun k => k = g) ⟨rfl,rfl,rfl,by simp,fun k _ hk => setRow_other b g k cs hk⟩ (fun _ hi e => by subst e;exact hp hi)
theorem Blk.there {w : World} {g : Nat} {t : TypeId} {cs : List Value} (h : Blk w g t cs) (o n : Nat) (hn : o + n ≤ cs.length) : w.there g o n:=fun j hj => by
 rw [h.cell,h.froz,List.getElem?_eq_getElem (by omega)];exact ⟨rfl,rfl⟩
theorem Blk.range {w : World} {g : Nat} {t : TypeId} {a b c : List Value} (h : Blk w g t (a ++ b ++ c)) : w.rangeAt g a.length b:=fun j v hv => by
 have hj:=(List.getElem?_eq_some_iff.1 hv).1;rw [h.cell,List.getElem?_append_left (by simp;omega),List.getElem?_append_right (by omega),Nat.add_sub_cancel_left];exact hv
theorem Blk.rangeN {w : World} {g : Nat} {t : TypeId} {a b c : List Value} (h : Blk w g t (a ++ b ++ c)) {n : Nat} (hn : a.length = n) : w.rangeAt g n b:=by
 subst hn;exact h.range
theorem Qgm (a b c vs : List Value) (hv : vs.length = b.length) : ∀ (w : World) (g : Nat) (t : TypeId),Blk w g t (a ++ b ++ c) → Blk (w.setCells g a.length vs) g t (a ++ vs ++ c):=by
 induction vs generalizing a b with
 | nil =>
  intro w g t h
  cases b with
  | nil => exact h
  | cons y b => simp at hv
 | cons v vs ih =>
  intro w g t h
  cases b with
  | nil => simp at hv
  | cons y b =>
   have h2 : Blk (w.setCell ⟨g,a.length,none⟩ v) g t ((a ++ [v]) ++ b ++ c):=by
    have:=h.set a.length v
    simpa [List.set_append] using this
   have:=ih (a ++ [v]) b (by simpa using hv) _ g t h2
   simpa [World.setCells] using this
theorem Only.setCells {S : Nat → Prop} {a : World} {g : Nat} (hp : g < a.heap.size → S g) (vs : List Value) : ∀ (o : Nat) (b : World),Only S a b → Only S a (b.setCells g o vs):=by
 induction vs with
 | nil => intro o b h;exact h
 | cons v vs ih =>
  intro o b h;exact ih (o + 1) _ (h.setCell (p:=⟨g,o,none⟩) hp v)
theorem Qa0 {P : Program} {ops : Array Oper} {rest : List Oper} {o : Oper} {a : Act} {w : World} {Q : Exit → Act → World → Prop} (hg : o.guard = none) (t : TypeId) (parts : Array (Nat × Operand)) (ho : o.op = .build t parts)
  (cells : Array Value) (hc : P.built t (parts.map fun (i,x) => (i,a.eval x)).toList = some cells) (h : wpList P ops Q rest (a.put o.dst (.agg cells)) w) : wpList P ops Q (o :: rest) a w :=
 wpList_build hg t parts ho (by rw [hc];rfl) (by rw [hc];exact h)
theorem Qbd (t e : TypeId) (n : Nat) (cs : List Value) (j : Nat) (u : Value) (h : Tryz.prog.underlying t = some (.array n e)) (ha : (∀ w,(isAgg e).run Tryz.prog w = .ok false w)) (hs : (Tryz.prog.info? e).map (·.size) = some 1) (hj : j < n) (hu : cs[j]? = some u) (w : World) :
  (Instr.index t (.agg cs.toArray) (.int .i64 j)).run Tryz.prog w = .ok u w:=by
 have h1 : (0 : Int) ≤ (j : Int) ∧ (j : Int) < (n : Int):=by omega
 cases hq : Tryz.prog.info? e with
 | none => simp [hq] at hs
 | some i =>
  have hi : i.size = 1:=by simpa [hq] using hs
  simp [Instr.index,run_underlying h,asIntOf,h1,sizeOf,typeInfo,hq,hi,ha,hu,go_sem];omega
theorem size_alloc (w : World) (o : Obj) : (w.alloc o).heap.size = w.heap.size + 1:=Array.size_push ..
theorem QfM (s : List Nat) (j : Nat) (h : j < s.length) : s.take (j + 1) = s.take j ++ [s.getD j 0]:=by
 rw [List.take_add_one,List.getElem?_eq_getElem h,List.getD_eq_getElem?_getD,List.getElem?_eq_getElem h];rfl
theorem Tryz.agg29 (w : World) : (isAgg 127).run Tryz.prog w = .ok false w:=by kernel_rfl
theorem Tryz.agg5 (w : World) : (isAgg 5).run Tryz.prog w = .ok false w:=by kernel_rfl
theorem Tryz.one29 : (Tryz.prog.info? 127).map (·.size) = some 1:=by kernel_rfl
theorem Tryz.one5 : (Tryz.prog.info? 5).map (·.size) = some 1:=by kernel_rfl
theorem Tryz.infoU32 : (Tryz.prog.info? 127).map (fun i => (i.zero,i.size,i.bytes)) = some (some (.int .u32 0),1,4):=by kernel_rfl
def wi (s : List Nat) : List Int:=s.map fun x => ((x : Nat) : Int)
theorem Qa1 (s : List Nat) : (wi s).length = s.length:=List.length_map ..
theorem wi_at (s : List Nat) (j : Nat) : (wi s).getD j 0 = ((s.getD j 0 : Nat) : Int):=by
 simp only [wi,List.getD_eq_getElem?_getD,List.getElem?_map]
 cases s[j]? <;> rfl
theorem Qgn (s : List Nat) : (wi s).map (Value.int .u32) = wl s:=by simp [wi,wl]
theorem Bs.of_wl {w : World} {g : Nat} {E : TypeId} {s : List Nat} (h : Blk w g E (wl s)) (n : Nat) (hn : s.length = n) : Bs .u32 w (.slice (some ⟨g,0,none⟩) n n) (wi s):=by
 refine ⟨_,n,by rw [Qa1,hn],by rw [Qa1,hn];exact Nat.le_refl _,fun _ => ⟨g,0,rfl,fun j hj => ?_⟩⟩;rw [Qa1] at hj;rw [Nat.zero_add,h.cell,wl_at s j hj,wi_at]
theorem QaC {w : World} {b off : Nat} {n cap : Nat} {s : List Nat} (h : Bs .u32 w (.slice (some ⟨b,off,none⟩) n cap) (wi s)) (j : Nat) (hj : j < s.length) : w.cell? ⟨b,off + j,none⟩ = some (.int .u32 ((s.getD j 0 : Nat) : Int)):=by
 obtain ⟨b',off',cap',e,hc⟩:=h.at j (by rw [Qa1];exact hj);simp at e;obtain ⟨⟨rfl,rfl⟩,_,rfl⟩:=e;rw [hc,wi_at]
theorem QhP (w : World) (G i j : Nat) (v : Value) (h : ¬ i = j) : (w.setCell ⟨G,i,none⟩ v).cell? ⟨G,j,none⟩ = w.cell? ⟨G,j,none⟩:=World.cell?_setCell_other _ _ _ _ (fun e => h (by cases e;rfl))
theorem QfN {w : World} {base g : Nat} {E : TypeId} {cs : List Value} {n : Nat} (h : Blk w g E cs) (hb : base ≤ g) (hm : n ≤ maxLen) (hc : cs.length = n) :
  w.ownsRow base E 1 (.slice (some ⟨g,0,none⟩) n n) n cs :=
 ⟨by omega,.inr ⟨g,n,cs.toArray,rfl,hb,h,Nat.le_refl _,hm,by simpa using hc,by simp [← hc]⟩⟩
theorem QkD (s : List Int) (i : Nat) (x : Int) : (bl s).set i (.int .u8 x) = bl (s.set i x):=by simp [bl,List.map_set]
theorem Bs.offB {w w' : World} {g : Nat} {T : TypeId} {cs : List Value} {v : Value} {ys : List Int} (hb : Bs .u8 w v ys) (hB : Blk w g T cs) (hc : ∀ y ∈ cs,∀ x,y ≠ .int .u8 x) (o : Only (fun k => k = g) w w') : Bs .u8 w' v ys:=by
 obtain ⟨ao,cap,rfl,hl,hr⟩:=hb;refine ⟨ao,cap,rfl,hl,fun hne => ?_⟩;obtain ⟨b,off,rfl,h⟩:=hr hne;refine ⟨b,off,rfl,fun j hj => ?_⟩;have h0:=h j hj
 by_cases hbg : b = g
 ·subst hbg
  rw [hB.cell] at h0;exact absurd rfl (hc _ (List.mem_of_getElem? h0) _)
 ·rw [← h0]
  exact World.cell?_of_block (o.block b (World.block_lt_of_cell? w _ h0) hbg)
theorem QdF {P : Program} {w : World} {o : Oper} {a : Act} {K : Act → World → Prop} {Q : Exit → Act → World → Prop} (s x : Operand) (t : TypeId)
  (ho : o.op = .call { callee:=.builtin .append,args:=#[s,x],argTypes:=#[t,t] })
  (base : Nat) (e : TypeId) (i : TypeInfo) (z : Value) (bytes : Nat) (ht : P.underlying t = some (.slice e)) (hi : P.info? e = some i) (hz : i.zero = some z)
  (hsize : i.size = 1) (hby : i.bytes = bytes) (hzs : z.cells.size = 1)
  (v : Value) (n : Nat) (xs : List Value) (hs : a.eval s = v) (hown : w.ownsRow base e 1 v n xs)
  (k : IntKind) (u : Value) (ys : List Int) (hx : a.eval x = u) (hb : Bs k w u ys) (hnc : NoCap u)
  (h63 : n + ys.length ≤ maxLen) (hbytes : (n + ys.length) * bytes ≤ 140737488355328) (hbase : base ≤ w.heap.size)
  (h : ∀ v' w',w'.ownsRow base e 1 v' (n + ys.length) (xs ++ ys.map (Value.int k)) → w.grownBy w' v.ownBlock → K (a.put o.dst v') w') :
  Oper.wp P o a w K Q:=by
 obtain ⟨ao,cap,rfl⟩:=hb.len
 cases ao with
 | none =>
  have h0 : ys = []:=by
   obtain ⟨ao',cap',e1,_,hr⟩:=hb
   rcases ys with _ | ⟨y,ys⟩
   ·rfl
   ·obtain ⟨b,off,e2,_⟩:=hr (by simp)
    simp at e1;rw [← e1.1] at e2;cases e2
  subst h0;have hc : cap = 0:=hnc _ _ rfl;subst hc;have hrun:=run_append_owned_none (P:=P) (w:=w) base t o.type e i 1 ht hi v n xs hown;have hK:=h v w (by simpa using hown) (World.grownBy.refl _ _);unfold Oper.wp;simp [execOp,ho,resolve,invoke,builtin,hs,hx,hrun,Result.andThen];exact hK
 | some ad =>
  obtain ⟨v',w',hrun,r1,r2,_⟩:=run_append_own_at (P:=P) w base t o.type e i z 1 bytes ht hi hz hsize hby hzs (by omega) v n xs hown ad ys.length cap (ys.map (Value.int k)) (by simp) hb.news (QaD _ _) h63 hbytes hbase;unfold Oper.wp;simp [execOp,ho,resolve,invoke,builtin,hs,hx,hrun,Result.andThen];exact h v' w' r1 r2
theorem Qav {P : Program} {w : World} {ops : Array Oper} {o : Oper} {a : Act} {K : Act → World → Prop} {Q : Exit → Act → World → Prop} {E : Prop} (hgd : o.guard = none) (s x : Operand) (t : TypeId)
  (ho : o.op = .call { callee:=.builtin .append,args:=#[s,x],argTypes:=#[t,t] })
  (base : Nat) (e : TypeId) (i : TypeInfo) (z : Value) (bytes : Nat) (ht : P.underlying t = some (.slice e)) (hi : P.info? e = some i) (hz : i.zero = some z)
  (hsize : i.size = 1) (hby : i.bytes = bytes) (hzs : z.cells.size = 1)
  (v : Value) (n : Nat) (xs : List Value) (hs : a.eval s = v) (hown : w.ownsRow base e 1 v n xs)
  (k : IntKind) (u : Value) (ys : List Int) (hx : a.eval x = u) (hb : Bs k w u ys) (hnc : NoCap u)
  (h63 : n + ys.length ≤ maxLen) (hbytes : (n + ys.length) * bytes ≤ 140737488355328) (hbase : base ≤ w.heap.size)
  (h : ∀ v' w',w'.ownsRow base e 1 v' (n + ys.length) (xs ++ ys.map (Value.int k)) → w.grownBy w' v.ownBlock → K (a.put o.dst v') w') :
  if Region.wanted o (yielded ops a.tmps) = true then Oper.wp P o a w K Q else E:=by
 have hw : Region.wanted o (yielded ops a.tmps) = true:=by simp [Region.wanted,hgd]
 rw [if_pos hw];exact QdF s x t ho base e i z bytes ht hi hz hsize hby hzs v n xs hs hown k u ys hx hb hnc h63 hbytes hbase h
theorem Qe8 {p : List Int} (h : U8 p) (j : Nat) : ∃ a : Nat,p.getD j 0 = (a : Int) ∧ a < 256:=by
 have:=h.at j;exact ⟨(p.getD j 0).toNat,by omega,by omega⟩
theorem QcV {α : Type} (f : Nat → α) (t : Nat) : (List.range (t + 1)).map f = (List.range t).map f ++ [f t]:=by
 rw [List.range_succ,List.map_append];rfl
theorem Qbg {W W4 : World} {row : Option Nat} (h : W.grownBy W4 row) {b o : Nat} {v : Value} (hb : row ≠ some b) (hc : W.cell? ⟨b,o,none⟩ = some v) : W4.cell? ⟨b,o,none⟩ = some v:=by
 rw [← hc];exact World.cell?_of_block (h.block b (World.block_lt_of_cell? W _ hc) (fun e => hb e.symm))
theorem Qad {w : World} {lo : Nat} {E : TypeId} {v : Value} {n : Nat} {xs : List Value} (h : w.ownsRow lo E 1 v n xs) : ∃ ao cap,v = .slice ao n cap:=by
 rcases h.2 with ⟨rfl,rfl⟩ | ⟨g,cap,cur,rfl,_⟩
 ·exact ⟨none,0,rfl⟩
 ·exact ⟨_,cap,rfl⟩
theorem Qif (p : Int) (t : ByteArray) (ht : t.size ≤ 1000) (w : World) :
  Calls Tryz.prog 110 #[.int .u8 p,.string t] w fun e w' => ∃ v,e = .returned v ∧ w'.ownsRow w.heap.size 5 1 v (KTX p (sb t)).length (bl (KTX p (sb t))) ∧ Only (fun _ => False) w w':=by
 have hcv:=Qcb t;have hge:=grownCap_ge (w.alloc (.cells #[.int .u8 p] 5)) t.size 0 5;obtain ⟨c,hc⟩ : ∃ c,c = grownCap (w.alloc (.cells #[.int .u8 p] 5)) t.size 0 5:=⟨_,rfl⟩;rw [← hc] at hge;have o1 : Only (fun _ => False) w (w.alloc (.cells #[.int .u8 p] 5)):=(Only.refl _ _).alloc _;have b0 : Bs .u8 (w.alloc (.cells #[.int .u8 p] 5)) (.slice (some ⟨w.heap.size,0,none⟩) 1 1) [p]:=Bs.lit .u8 w 5 [p];have o2 : Only (fun _ => False) (w.alloc (.cells #[.int .u8 p] 5)) ((w.alloc (.cells #[.int .u8 p] 5)).alloc (QaY t c)).drew:=((Only.refl _ _).alloc _).drew;have A:=Qaa (QjG (.slice (some ⟨w.heap.size + 1,0,none⟩) t.size c) (sb t) ((w.alloc (.cells #[.int .u8 p] 5)).alloc (QaY t c)).drew (QbO (QbB (Qak (by simp))) (by omega)) (NoCap.some _ _ _) (by rw [QaB];omega))
 have HL : Hid ((blk (sb t)).length ≤ 2000):=by
  have:=Qcv (sb t) (by rw [QaB];omega);rw [QaB] at this
  show _ ≤ _
  omega
 have P0:=Qaa (And.intro (b0.past o2) (o1.same o2));have HX : Hid ([p] ++ blk (sb t) = KTX p (sb t)):=rfl;obtain ⟨X,hX⟩ : ∃ X,X = blk (sb t):=⟨_,rfl⟩;rw [← hX] at A HL HX;clear o1 b0 o2 hge hX;go_enter Tryz.func110,Tryz.ntmps110;go_wp2_with fail;rw [← hc];refine A.out.mono ?_;rintro e w1 ⟨v1,rfl,own1,o1⟩;obtain ⟨a1,c1,rfl⟩:=Qad own1;have oa : Only (fun _ => False) w1 (w1.alloc (.cells #[.slice (some ⟨w.heap.size,0,none⟩) 1 1,.slice a1 X.length c1] 22)):=(Only.refl _ _).alloc _;have C:=Qaa (Qce w1.heap.size (.slice (some ⟨w.heap.size,0,none⟩) 1 1) (.slice a1 X.length c1) [p] X (w1.alloc (.cells #[.slice (some ⟨w.heap.size,0,none⟩) 1 1,.slice a1 X.length c1] 22)) (by go_cell) (by go_cell) (P0.out.1.past (o1.same oa)) ((Bs.of_own (k:=.u8) own1).past oa) (NoCap.some _ _ _) (NoCap.of_own own1) (by simp only [List.length_cons];omega) (by have:=HL.out;simp only [List.length_cons,List.length_nil];omega));rw [HX.out] at C;have O1:=Qaa (P0.out.2.same (o1.same oa));obtain ⟨m,hm⟩ : ∃ m,m = X.length:=⟨_,rfl⟩;rw [← hm] at C O1 ⊢;clear own1 o1 oa A P0 hm hcv hc;go_wp2_with fail;refine C.out.mono ?_;rintro e w2 ⟨v2,rfl,own2,o2⟩;have F:=Qaa (And.intro (Qal own2 O1.out.size) (O1.out.same o2));clear own2 o2 C O1;go_wp2;go_ret;exact ⟨_,rfl,F.out⟩
theorem and31 (n : Nat) (h1 : 1 ≤ n) (h2 : n ≤ 31) : bits .and .u64 (IntKind.u64.wrap (-(n : Int))) 31 = ((32 - n : Nat) : Int):=by
 have e : IntKind.u64.wrap (-(n : Int)) = ((18446744073709551616 - n : Nat) : Int):=by
  simp [IntKind.wrap,IntKind.bits,IntKind.signed];omega
 rw [e,show (31 : Int) = ((31 : Nat) : Int) from rfl,u64_and_nat _ _ (by omega) (by omega),show (31 : Nat) = 2 ^ 5 - 1 from rfl,Nat.and_two_pow_sub_one_eq_mod];omega
theorem Qaw (x n : Nat) (hx : x < 4294967296) : rotw x n < 4294967296:=by
 unfold rotw;exact Nat.or_lt_two_pow (n:=32) (QhL x n hx) (Nat.mod_lt _ (by decide))
theorem QbN {x : Nat} (y : Nat) (hx : x < 4294967296) : x &&& y < 4294967296:=Nat.lt_of_le_of_lt Nat.and_le_left hx
theorem QiN (x n : Nat) (w : World) (hx : x < 4294967296) (h1 : 1 ≤ n) (h2 : n ≤ 31) :
  Calls Tryz.prog 249 #[.int .u32 x,.int .i64 (-(n : Int))] w fun e w' => e = .returned (.int .u32 (rotw x n : Nat)) ∧ w = w':=by
 have hb:=and31 n h1 h2;obtain ⟨s,hs⟩ : ∃ s,s = 32 - n:=⟨_,rfl⟩;rw [← hs] at hb
 have h3 : 1 ≤ s:=by omega
 have h4 : s ≤ 31:=by omega
 have HS : Hid (n = 32 - s):=(by omega : n = 32 - s);clear hs h1 h2;go_enter Tryz.func249,Tryz.ntmps249;go_wp2;go_ret;refine ⟨Qbt ?_,rfl⟩
 rw [show ((x : Int) * 2 ^ s % 4294967296) = ((x * 2 ^ s % 4294967296 : Nat) : Int) by simp,show ((x : Int) / 2 ^ (32 - s)) = ((x / 2 ^ (32 - s) : Nat) : Int) by simp,
  u32_or_nat _ _ (Nat.mod_lt _ (by decide)) (QhL _ _ hx),HS.out]
 unfold rotw;rw [Nat.or_comm,show 32 - (32 - s) = s by omega]
theorem Qbf (x n : Nat) (w : World) (hx : x < 4294967296) (h1 : 1 ≤ n) (h2 : n ≤ 31) :
  Calls Tryz.prog 234 #[.int .u32 x,.int .i64 n] w fun e w' => e = .returned (.int .u32 (rotw x n : Nat)) ∧ w = w':=by
 have A:=Qaa (QiN x n w hx h1 h2);go_enter Tryz.func234,Tryz.ntmps234;go_wp2_with fail;refine A.out.mono ?_;rintro e w1 ⟨rfl,rfl⟩;go_wp2;go_ret;exact ⟨rfl,rfl⟩
theorem Qhj (x : Nat) (hx : x < 4294967296) : bits .xor .u32 (bits .xor .u32 (rotw x 7 : Nat) (rotw x 18 : Nat)) ((x : Int) / 8) = (sg0 x : Nat):=by
 rw [show ((x : Int) / 8) = ((x / 8 : Nat) : Int) from rfl,u32_xor_nat _ _ (Qaw _ _ hx) (Qaw _ _ hx),u32_xor_nat _ _ (Qb5 (Qaw _ _ hx) (Qaw _ _ hx)) (by omega)];rfl
theorem Qhk (x : Nat) (hx : x < 4294967296) : bits .xor .u32 (bits .xor .u32 (rotw x 17 : Nat) (rotw x 19 : Nat)) ((x : Int) / 1024) = (sg1 x : Nat):=by
 rw [show ((x : Int) / 1024) = ((x / 1024 : Nat) : Int) from rfl,u32_xor_nat _ _ (Qaw _ _ hx) (Qaw _ _ hx),u32_xor_nat _ _ (Qb5 (Qaw _ _ hx) (Qaw _ _ hx)) (by omega)];rfl
theorem Qhl (x : Nat) (hx : x < 4294967296) : bits .xor .u32 (bits .xor .u32 (rotw x 2 : Nat) (rotw x 13 : Nat)) (rotw x 22 : Nat) = (Sg0 x : Nat):=by
 rw [u32_xor_nat _ _ (Qaw _ _ hx) (Qaw _ _ hx),u32_xor_nat _ _ (Qb5 (Qaw _ _ hx) (Qaw _ _ hx)) (Qaw _ _ hx)];rfl
theorem Qhm (x : Nat) (hx : x < 4294967296) : bits .xor .u32 (bits .xor .u32 (rotw x 6 : Nat) (rotw x 11 : Nat)) (rotw x 25 : Nat) = (Sg1 x : Nat):=by
 rw [u32_xor_nat _ _ (Qaw _ _ hx) (Qaw _ _ hx),u32_xor_nat _ _ (Qb5 (Qaw _ _ hx) (Qaw _ _ hx)) (Qaw _ _ hx)];rfl
theorem Qkf (x : Nat) (w : World) (hx : x < 4294967296) :
  Calls Tryz.prog 233 #[.int .u32 x] w fun e w' => e = .returned (.int .u32 (sg0 x : Nat)) ∧ w = w':=by
 have A:=Qaa (Qbf x 7 w hx (by decide) (by decide));have B:=Qaa (Qbf x 18 w hx (by decide) (by decide));have H:=Qaa (Qhj x hx);go_enter Tryz.func233,Tryz.ntmps233;go_wp2_with fail;refine A.out.mono ?_;rintro e w1 ⟨rfl,rfl⟩;go_wp2_with fail;refine B.out.mono ?_;rintro e w1 ⟨rfl,rfl⟩;go_wp2;go_ret;exact ⟨Qbt H.out,rfl⟩
theorem Qkg (x : Nat) (w : World) (hx : x < 4294967296) :
  Calls Tryz.prog 232 #[.int .u32 x] w fun e w' => e = .returned (.int .u32 (sg1 x : Nat)) ∧ w = w':=by
 have A:=Qaa (Qbf x 17 w hx (by decide) (by decide));have B:=Qaa (Qbf x 19 w hx (by decide) (by decide));have H:=Qaa (Qhk x hx);go_enter Tryz.func232,Tryz.ntmps232;go_wp2_with fail;refine A.out.mono ?_;rintro e w1 ⟨rfl,rfl⟩;go_wp2_with fail;refine B.out.mono ?_;rintro e w1 ⟨rfl,rfl⟩;go_wp2;go_ret;exact ⟨Qbt H.out,rfl⟩
theorem Qkh (x : Nat) (w : World) (hx : x < 4294967296) :
  Calls Tryz.prog 196 #[.int .u32 x] w fun e w' => e = .returned (.int .u32 (Sg0 x : Nat)) ∧ w = w':=by
 have A:=Qaa (Qbf x 2 w hx (by decide) (by decide));have B:=Qaa (Qbf x 13 w hx (by decide) (by decide));have C:=Qaa (Qbf x 22 w hx (by decide) (by decide));have H:=Qaa (Qhl x hx);go_enter Tryz.func196,Tryz.ntmps196;go_wp2_with fail;refine A.out.mono ?_;rintro e w1 ⟨rfl,rfl⟩;go_wp2_with fail;refine B.out.mono ?_;rintro e w1 ⟨rfl,rfl⟩;go_wp2_with fail;refine C.out.mono ?_;rintro e w1 ⟨rfl,rfl⟩;go_wp2;go_ret;exact ⟨Qbt H.out,rfl⟩
theorem Qki (x : Nat) (w : World) (hx : x < 4294967296) :
  Calls Tryz.prog 195 #[.int .u32 x] w fun e w' => e = .returned (.int .u32 (Sg1 x : Nat)) ∧ w = w':=by
 have A:=Qaa (Qbf x 6 w hx (by decide) (by decide));have B:=Qaa (Qbf x 11 w hx (by decide) (by decide));have C:=Qaa (Qbf x 25 w hx (by decide) (by decide));have H:=Qaa (Qhm x hx);go_enter Tryz.func195,Tryz.ntmps195;go_wp2_with fail;refine A.out.mono ?_;rintro e w1 ⟨rfl,rfl⟩;go_wp2_with fail;refine B.out.mono ?_;rintro e w1 ⟨rfl,rfl⟩;go_wp2_with fail;refine C.out.mono ?_;rintro e w1 ⟨rfl,rfl⟩;go_wp2;go_ret;exact ⟨Qbt H.out,rfl⟩
theorem Tryz.size30 : (Tryz.prog.info? 141).map (·.size) = some 8:=by kernel_rfl
theorem Tryz.size31 : (Tryz.prog.info? 142).map (·.size) = some 64:=by kernel_rfl
theorem Tryz.size52 : (Tryz.prog.info? 211).map (·.size) = some 64:=by kernel_rfl
theorem Tryz.size33 : (Tryz.prog.info? 144).map (·.size) = some 73:=by kernel_rfl
theorem Qgj (w : World) : Calls Tryz.prog 143 #[] w fun e w' => e = .returned (.agg (wl shH).toArray) ∧ Only (fun _ => False) w w':=by
 go_enter Tryz.func143,Tryz.ntmps143;go_wp2_with (first | (refine Qa0 rfl 141 _ rfl (wl shH).toArray (by kernel_rfl) ?_) | (refine wpList_store_row rfl 141 (.tmp 0) (.tmp 1) rfl w.heap.size (wl shH).toArray rfl rfl 141 (wl (List.replicate 8 0)).toArray (heap_alloc_last w _) Tryz.size30 rfl (Qcr _) ?_));refine bodyPost_ret (v:=.agg (wl shH).toArray) (results_cell_row rfl _ _ w.heap.size 141 (wl shH).toArray (0,0) _ rfl (setRow_heap _ _ _ _ 141 _ (heap_alloc_last w _)) Tryz.underlying141 rfl Tryz.size30) rfl ⟨rfl,?_⟩;exact ((Only.refl _ _).alloc _).setRow (fun h => absurd h (Nat.lt_irrefl _)) _
def zK : List Value:=wl (List.replicate 64 0)
theorem Qda (w : World) : Calls Tryz.prog 194 #[] w fun e w' => e = .returned (.agg (wl shK).toArray) ∧ Only (fun _ => False) w w':=by
 go_enter Tryz.func194,Tryz.ntmps194;go_wp2_with (first | (refine Qa0 rfl 211 _ rfl (wl shK).toArray (by kernel_rfl) ?_) | (refine wpList_store_row rfl 211 (.tmp 0) (.tmp 1) rfl w.heap.size (wl shK).toArray rfl rfl 211 zK.toArray (heap_alloc_last w _) Tryz.size52 (by kernel_rfl) (Qcr _) ?_));refine bodyPost_ret (v:=.agg (wl shK).toArray) (results_cell_row rfl _ _ w.heap.size 211 (wl shK).toArray (0,0) _ rfl (setRow_heap _ _ zK.toArray _ 211 _ (heap_alloc_last w _)) Tryz.underlying211 rfl Tryz.size52) rfl ⟨rfl,?_⟩;exact ((Only.refl _ _).alloc _).setRow (fun h => absurd h (Nat.lt_irrefl _)) _
theorem ix_w8 (s : List Nat) (hs : s.length = 8) (j : Nat) (hj : j < 8) (w : World) : (Instr.index 141 (.agg (wl s).toArray) (.int .i64 j)).run Tryz.prog w = .ok (.int .u32 ((s.getD j 0 : Nat) : Int)) w :=
 Qbd 141 127 8 (wl s) j _ Tryz.underlying141 Tryz.agg29 Tryz.one29 hj (wl_at s j (by omega)) w
theorem QkF (s : List Nat) (hs : s.length = 64) (j : Nat) (hj : j < 64) (w : World) : (Instr.index 211 (.agg (wl s).toArray) (.int .i64 j)).run Tryz.prog w = .ok (.int .u32 ((s.getD j 0 : Nat) : Int)) w :=
 Qbd 211 127 64 (wl s) j _ Tryz.underlying211 Tryz.agg29 Tryz.one29 hj (wl_at s j (by omega)) w
theorem QkG (s : List Int) (hs : s.length = 64) (j : Nat) (hj : j < 64) (w : World) : (Instr.index 142 (.agg (bl s).toArray) (.int .i64 j)).run Tryz.prog w = .ok (.int .u8 (s.getD j 0)) w :=
 Qbd 142 5 64 (bl s) j _ Tryz.underlying142 Tryz.agg5 Tryz.one5 hj (bl_at s j (by omega)) w
theorem QdH (s : List Nat) (j : Nat) (h : j < s.length) : (s.take (j + 1)).flatMap be4 = (s.take j).flatMap be4 ++ be4 (s.getD j 0):=by
 rw [QfM s j h,List.flatMap_append];simp
theorem QdI (x : Nat) : be4 x = [((x / 16777216 % 256 : Nat) : Int),((x / 65536 % 256 : Nat) : Int),((x / 256 % 256 : Nat) : Int),((x % 256 : Nat) : Int)]:=by
 have : List.range 4 = [0,1,2,3]:=rfl;unfold be4;rw [this];simp
def z32 : List Value:=bl (List.replicate 32 0)
theorem mk32 (w : World) : (Instr.makeSlice 22 (.int .i64 0) (.int .i64 32)).run Tryz.prog w = .ok (.slice (some ⟨w.heap.size,0,none⟩) 0 32) (w.alloc (.cells z32.toArray 5)):=by kernel_rfl
theorem Qez (s : List Nat) (hs : s.length = 8) (w : World) : Calls Tryz.prog 146 #[.agg (wl s).toArray] w fun e w' => ∃ v,e = .returned v ∧ w'.ownsRow w.heap.size 5 1 v 32 ((s.flatMap be4).map (Value.int .u8)) ∧ Only (fun _ => False) w w':=by
 obtain ⟨i0,hi,hz0,hz1,hz2⟩:=info_parts Tryz.infoU8;have HX:=Qaa (ix_w8 s hs);have FX:=Qaa (QdH s)
 have HF : Hid ((s.take 8).flatMap be4 = s.flatMap be4):=by rw [List.take_of_length_le (by omega)];rfl
 have HL:=Qaa hs;have hmk:=mk32;generalize hC : (wl s).toArray = C at *
 have hsz : (Tryz.prog.info? 141).map (·.size) = some C.size:=by rw [← hC];simp [QaA,hs,Tryz.size30]
 have HSZ:=Qaa hsz;clear hC hs hsz;go_enter Tryz.func146,Tryz.ntmps146;go_wp2_with (refine wpList_load_row rfl 141 _ rfl w.heap.size rfl 141 C (0,0) _ (heap_alloc2_old w _ _) Tryz.underlying141 rfl HSZ.out ?_)
 obtain ⟨F,hF⟩ : ∃ F : Nat → List Value,F = fun j => ((s.take j).flatMap be4).map (Value.int .u8):=⟨_,rfl⟩
 have F0 : Hid (F 0 = []):=by rw [hF];rfl
 have F8 : Hid (F 8 = (s.flatMap be4).map (Value.int .u8)):=by rw [hF,← HF.out];rfl
 have FN : Hid (∀ j,j < 8 → F (j + 1) = F j ++ (be4 (s.getD j 0)).map (Value.int .u8)):=fun j hj => by
  rw [hF];simp only;rw [FX.out j (by rw [HL.out];exact hj),List.map_append]
 clear hF FX HF
 go_loopw [3,8] (fun o i wr => ∃ j : Nat,j ≤ 8 ∧ i = .int .i64 j ∧ wr.ownsRow w.heap.size 5 1 o (4 * j) (F j) ∧ Only (fun _ => False) w wr) (fun _ i _ => 8 - (intOf i).toNat)
 case atStart =>
  refine ⟨0,by omega,rfl,?_,((Only.refl _ _).alloc _).alloc _⟩;rw [F0.out];have:=World.ownsRow_made (base:=w.heap.size) (e:=5) (size:=1) (w.alloc (.cells C 141)) z32.toArray 32 ((Only.refl (fun _ => False) w).alloc _).size (by decide) rfl;rw [size_alloc] at this;exact this
 case round =>
  obtain ⟨j,hj,rfl,hown,hon⟩:=hrel;have hsz:=hon.size;have HON:=Qaa hon;have HOWN:=Qaa hown;clear hon hown
  by_cases hlt : j < 8
  ·obtain ⟨x,hx⟩ : ∃ x,x = s.getD j 0:=⟨_,rfl⟩
   have hix:=HX.out j hlt;have hfn:=FN.out j hlt;rw [← hx] at hix hfn;have HFN:=Qaa hfn
   have i1 : (j : Int) < 8:=by omega
   clear hx hfn;have BL:=Qaa (Bs.litN .u8 wr 5 [(x : Int) / 16777216 % 256,(x : Int) / 65536 % 256,(x : Int) / 256 % 256,(x : Int) % 256] _ _ rfl rfl);go_wp2_with (at_builtin;refine Qac _ rfl _ _ 22 rfl w.heap.size 5 i0 (.int .u8 0) 1 Tryz.underlying22 hi hz0 hz1 hz2 rfl _ (4 * j) (F j) rfl (HOWN.out.alloc _) .u8 _ [(x : Int) / 16777216 % 256,(x : Int) / 65536 % 256,(x : Int) / 256 % 256,(x : Int) % 256] rfl BL.out (NoCap.some _ _ _) (by simp [maxLen];omega) (by simp;omega) (by simp;omega) ?_;intro v' w2 hown' hgrow2 hnil2 hob2)
   have N1 : Hid (w2.ownsRow w.heap.size 5 1 v' (4 * (j + 1)) (F (j + 1))):=by
    rw [HFN.out,QdI];exact hown'
   have N2 : Hid (Only (fun _ => False) w w2):=(HON.out.alloc _).grown hgrow2 (fun k hk e => by have:=HOWN.out.lt k e;omega);clear hown' hgrow2 hnil2 hob2 HOWN HON BL HFN;go_wp2
   go_roundw
   case rel => exact ⟨j + 1,by omega,by go_num,N1.out,N2.out⟩
   case measure => simp [intOf];omega
  ·go_wp2
   go_ret
   obtain rfl : j = 8:=by omega
   rw [F8.out] at HOWN;exact ⟨_,rfl,HOWN.out,HON.out⟩
theorem Tryz.zero52 : (Tryz.prog.info? 211).map (fun i => (i.zero,i.size)) = some (some (.agg zK.toArray),64):=by kernel_rfl
theorem sum4 (a b c d : Nat) : IntKind.u32.wrap (IntKind.u32.wrap (IntKind.u32.wrap ((a : Int) + b) + c) + d) = (((a + b + c + d) % 4294967296 : Nat) : Int):=by
 rw [IntKind.wrap_u32',IntKind.wrap_u32',IntKind.wrap_u32'];omega
theorem Qk1 (a : Nat) (y : Int) (ha : a < 16777216) (h0 : 0 ≤ y) (h1 : y ≤ 255) : bits .or .u32 ((a : Int) * 256) y = ((a * 256 + y.toNat : Nat) : Int):=by
 obtain ⟨b,rfl⟩:=Int.eq_ofNat_of_zero_le h0;rw [show ((a : Int) * 256) = ((a * 256 : Nat) : Int) by simp];have:=u32_or_nat (a * 256) b (by omega) (by omega);rw [this,Qky a b (by omega)]
 rfl
theorem QcT (p : List Int) (hp : p.length = 64) (h8 : U8 p) (w : World) : Calls Tryz.prog 193 #[.agg (bl p).toArray] w fun e w' => e = .returned (.agg (wl (wds p)).toArray) ∧ Only (fun _ => False) w w':=by
 have HX:=Qaa (QkG p hp);have H8:=Qaa h8
 have hsz : (Tryz.prog.info? 142).map (·.size) = some (bl p).toArray.size:=by simp [Qah,hp,Tryz.size31]
 have HSZ:=Qaa hsz;obtain ⟨B,hB⟩ : ∃ B,B = bl p:=⟨_,rfl⟩;rw [← hB] at HX HSZ ⊢;have hzv:=(zero_of_info (P:=Tryz.prog) Tryz.zero52).1;obtain ⟨Z,hZ⟩ : ∃ Z,Z = zK:=⟨_,rfl⟩;rw [← hZ] at hzv;have HZ:=Qaa hZ
 have hz1 : (Tryz.prog.info? 211).map (·.size) = some (wl (wds p)).toArray.size:=by simp [QaA,Qcc,Tryz.size52]
 have HZ1:=Qaa hz1
 have HZ2 : Hid (Z.toArray.size = (wl (wds p)).toArray.size):=by
  show _ = _
  rw [HZ.out];simp [QaA,Qcc,zK]
 have HA:=Qaa (Qcr (wds p));obtain ⟨D,hD⟩ : ∃ D,D = wl (wds p):=⟨_,rfl⟩;rw [← hD] at HZ1 HZ2 HA ⊢;have HD:=Qaa hD.symm;clear hB hsz h8 hp hZ hD hz1;go_enter Tryz.func193,Tryz.ntmps193;go_wp2_with (refine wpList_load_row rfl 142 _ rfl w.heap.size rfl 142 B.toArray (0,0) _ (((Blk.new w 142 B).alloc _).alloc _) Tryz.underlying142 rfl HSZ.out ?_)
 have S0 : Hid (Blk (((w.alloc (.cells B.toArray 142)).alloc (.cells Z.toArray 211)).alloc (.cells Z.toArray 211)) (w.heap.size + 1 + 1) 211 (wl (wpart p 0))):=by
  have:=Blk.new ((w.alloc (.cells B.toArray 142)).alloc (.cells Z.toArray 211)) 211 Z;rw [size_alloc,size_alloc] at this;rw [Qf9];rw [HZ.out] at this ⊢;exact this
 have R0 : Hid (Blk (((w.alloc (.cells B.toArray 142)).alloc (.cells Z.toArray 211)).alloc (.cells Z.toArray 211)) (w.heap.size + 1) 211 Z):=by
  have:=(Blk.new (w.alloc (.cells B.toArray 142)) 211 Z).alloc (.cells Z.toArray 211);rw [size_alloc] at this;exact this
 have O0 : Hid (Only (fun _ => False) w (((w.alloc (.cells B.toArray 142)).alloc (.cells Z.toArray 211)).alloc (.cells Z.toArray 211))):=(((Only.refl _ _).alloc _).alloc _).alloc _;obtain ⟨G,hG⟩ : ∃ G,G = w.heap.size + 1 + 1:=⟨_,rfl⟩;obtain ⟨R,hR⟩ : ∃ R,R = w.heap.size + 1:=⟨_,rfl⟩;obtain ⟨W0,hW0⟩ : ∃ W0,W0 = (((w.alloc (.cells B.toArray 142)).alloc (.cells Z.toArray 211)).alloc (.cells Z.toArray 211)):=⟨_,rfl⟩;rw [← hG,← hW0] at S0;rw [← hR,← hW0] at R0;rw [← hW0] at O0;rw [← hG,← hR,← hW0];have HG : Hid (w.heap.size ≤ G ∧ w.heap.size ≤ R ∧ R ≠ G):=⟨by omega,by omega,by omega⟩;clear hG hR hW0 hzv
 go_loopw [8] (fun i wr => ∃ j : Nat,j ≤ 64 ∧ i = .int .i64 j ∧ Blk wr G 211 (wl (wpart p j)) ∧ Blk wr R 211 Z ∧ Only (fun _ => False) w wr) (fun i _ => 64 - (intOf i).toNat)
 case atStart => exact ⟨0,by omega,rfl,S0.out,R0.out,O0.out⟩
 case round =>
  obtain ⟨j,hj,rfl,hS,hR,hO⟩:=hrel;clear S0 R0 O0
  by_cases hlt : j < 64
  ·obtain ⟨y,hy⟩ : ∃ y,y = p.getD j 0:=⟨_,rfl⟩
   obtain ⟨a,ha⟩ : ∃ a,a = accw p (j / 4) (j % 4):=⟨_,rfl⟩;have hix:=HX.out j hlt;have hyr:=H8.out.at j;rw [← hy] at hix hyr;obtain ⟨y0,y1⟩:=hyr
   have hcell : wr.cell? ⟨G,j / 4,none⟩ = some (.int .u32 (a : Int)):=by
    rw [hS.cell,wl_at _ _ (by rw [QhG];omega),Qga p j hlt,← ha]
   have hfr : wr.frozen? ⟨G,j / 4,none⟩ = false:=hS.froz _
   have hal : a < 16777216:=by
    have h1:=QhF p H8.out (j / 4) (j % 4);rw [← ha] at h1;have h2 : 256 ^ (j % 4) ≤ 256 ^ 3:=Nat.pow_le_pow_right (by decide) (by omega)
    have h3 : 256 ^ 3 = 16777216:=by decide
    omega
   have i0 : (0 : Int) ≤ (j : Int):=by omega
   have i1 : (j : Int) < 64:=by omega
   have hor:=Qk1 a y hal y0 y1;obtain ⟨q,hq⟩ : ∃ q : Nat,q = a * 256 + y.toNat:=⟨_,rfl⟩;rw [← hq] at hor
   have N1 : Hid (Blk (wr.setCell ⟨G,j / 4,none⟩ (.int .u32 (q : Int))) G 211 (wl (wpart p (j + 1)))):=by
    have:=hS.set (j / 4) (.int .u32 (q : Int));rw [Qgl] at this;rw [Qgb p j hlt,← ha,← hy,← hq];exact this
   have hON:=(Only.refl (fun k => k = G) wr).setCell (p:=⟨G,j / 4,none⟩) (fun _ => rfl) (.int .u32 (q : Int));have N2:=Qaa (hR.keep hON HG.out.2.2);have N3:=Qaa (hO.trans hON (fun i hi e => by have:=HG.out.1;omega));clear ha hy hS hR hO hON hq;go_wp2
   go_roundw
   case rel => exact ⟨j + 1,by omega,by go_num,N1.out,N2.out,N3.out⟩
   case measure => simp [intOf];omega
  ·obtain rfl : j = 64:=by omega
   have S1 : Hid (Blk wr G 211 (wl (wv p 16 ++ List.replicate 48 0))):=by
    show _
    rw [QhH] at hS;exact hS
   have R1:=Qaa hR;have O1:=Qaa hO;obtain ⟨W1,hW1⟩ : ∃ W1,W1 = wr:=⟨_,rfl⟩;subst hW1;clear hS hR hO HX HSZ;go_wp2
   go_loopw [6] (fun i wr => ∃ t : Nat,16 ≤ t ∧ t ≤ 64 ∧ i = .int .i64 t ∧ Blk wr G 211 (wl (wv p t ++ List.replicate (64 - t) 0)) ∧ Blk wr R 211 Z ∧ Only (fun _ => False) w wr) (fun i _ => 64 - (intOf i).toNat)
   case atStart => exact ⟨16,by omega,by omega,rfl,S1.out,R1.out,O1.out⟩
   case round =>
    obtain ⟨t,ht,ht2,rfl,hS,hR,hO⟩:=hrel;clear S1 R1 O1
    by_cases hlt : t < 64
    ·have hvl:=QhI p t ht
     have hv32 : W32 (wv p t):=by
      have:=QhJ p H8.out (t - 16)
      rwa [show 16 + (t - 16) = t by omega] at this
     have hcell : ∀ k,k < t → wr.cell? ⟨G,k,none⟩ = some (.int .u32 (((wv p t).getD k 0 : Nat) : Int)):=fun k hk => by
      rw [hS.cell,wl_at _ _ (by simp;omega),QhK _ _ _ (by omega)]
     have hnx:=QfE (wv p t) t hvl;obtain ⟨a2,e2⟩ : ∃ a,a = (wv p t).getD (t - 2) 0:=⟨_,rfl⟩;obtain ⟨a7,e7⟩ : ∃ a,a = (wv p t).getD (t - 7) 0:=⟨_,rfl⟩;obtain ⟨a15,e15⟩ : ∃ a,a = (wv p t).getD (t - 15) 0:=⟨_,rfl⟩;obtain ⟨a16,e16⟩ : ∃ a,a = (wv p t).getD (t - 16) 0:=⟨_,rfl⟩;have c2:=hcell (t - 2) (by omega);have c7:=hcell (t - 7) (by omega);have c15:=hcell (t - 15) (by omega);have c16:=hcell (t - 16) (by omega);have b2:=hv32.at (t - 2);have b15:=hv32.at (t - 15);rw [← e2] at c2 b2;rw [← e7] at c7;rw [← e15] at c15 b15;rw [← e16] at c16;rw [← e2,← e7,← e15,← e16] at hnx;have hfr : wr.frozen? ⟨G,t,none⟩ = false:=hS.froz _
     have hct : ∃ v,wr.cell? ⟨G,t,none⟩ = some v:=by
      rw [hS.cell];exact ⟨_,List.getElem?_eq_getElem (by rw [QaA];simp;omega)⟩
     obtain ⟨vt,hct⟩:=hct
     have i2 : (0 : Int) ≤ (t : Int) - 16:=by omega
     have i3 : (t : Int) < 64:=by omega
     have b1:=Qaa b2;have b3:=Qaa b15;have HNX:=Qaa hnx;obtain ⟨V,hV⟩ : ∃ V,V = IntKind.u32.wrap (IntKind.u32.wrap (IntKind.u32.wrap (((sg1 a2 : Nat) : Int) + a7) + ((sg0 a15 : Nat) : Int)) + a16):=⟨_,rfl⟩
     have HV : V = ((nextw (wv p t) : Nat) : Int):=by rw [hV,sum4,hnx]
     have N1 : Hid (Blk (wr.setCell ⟨G,t,none⟩ (.int .u32 V)).drew G 211 (wl (wv p (t + 1) ++ List.replicate (64 - (t + 1)) 0))):=by
      have:=hS.set t (.int .u32 V);rw [HV,Qgl,Qi5 _ t _ hvl hlt,← Qe2 p t ht,← HV] at this;exact this.drew
     have hON:=(Only.refl (fun k => k = G) wr).setCell (p:=⟨G,t,none⟩) (fun _ => rfl) (.int .u32 V);have N2:=Qaa (hR.keep hON.drew HG.out.2.2);have N3:=Qaa (hO.trans hON.drew (fun i hi e => by have:=HG.out.1;omega));rw [hV] at N1 N2 N3;clear HV hON hV HNX V;clear e2 e7 e15 e16 hcell hvl hv32 hnx hS hR hO b2 b15;obtain ⟨k2,f2⟩ : ∃ k,k = t - 2:=⟨_,rfl⟩;obtain ⟨k7,f7⟩ : ∃ k,k = t - 7:=⟨_,rfl⟩;obtain ⟨k15,f15⟩ : ∃ k,k = t - 15:=⟨_,rfl⟩;obtain ⟨k16,f16⟩ : ∃ k,k = t - 16:=⟨_,rfl⟩;rw [← f2] at c2;rw [← f7] at c7;rw [← f15] at c15;rw [← f16] at c16
     have m2 : (k2 : Int) < 64:=by omega
     have n2 : ¬ t = k2:=by omega
     have o2 : ¬ k2 = t:=by omega
     have m7 : (k7 : Int) < 64:=by omega
     have n7 : ¬ t = k7:=by omega
     have o7 : ¬ k7 = t:=by omega
     have m15 : (k15 : Int) < 64:=by omega
     have n15 : ¬ t = k15:=by omega
     have o15 : ¬ k15 = t:=by omega
     have m16 : (k16 : Int) < 64:=by omega
     have n16 : ¬ t = k16:=by omega
     have o16 : ¬ k16 = t:=by omega
     have g2 : (t : Int) - 2 = (k2 : Int):=by omega
     have g7 : (t : Int) - 7 = (k7 : Int):=by omega
     have g15 : (t : Int) - 15 = (k15 : Int):=by omega
     have g16 : (t : Int) - 16 = (k16 : Int):=by omega
     have r2 : IntKind.i64.wrap (k2 : Int) = (k2 : Int):=by rw [IntKind.wrap_i64];omega
     have r7 : IntKind.i64.wrap (k7 : Int) = (k7 : Int):=by rw [IntKind.wrap_i64];omega
     have r15 : IntKind.i64.wrap (k15 : Int) = (k15 : Int):=by rw [IntKind.wrap_i64];omega
     have r16 : IntKind.i64.wrap (k16 : Int) = (k16 : Int):=by rw [IntKind.wrap_i64];omega
     clear f2 f7 f15 f16 i2;go_wp2;go_region_held3 (fun W => W.cell? ⟨G,k2,none⟩ = some (Value.int .u32 a2) ∧ W.cell? ⟨G,k7,none⟩ = some (Value.int .u32 a7) ∧ W.cell? ⟨G,k15,none⟩ = some (Value.int .u32 a15) ∧ W.cell? ⟨G,k16,none⟩ = some (Value.int .u32 a16)) (simp [*,QhP]) (first | (go_at_call 232;refine (Qkg a2 _ b1.out).mono ?_;rintro e w2 ⟨rfl,rfl⟩) | (go_at_call 233;refine (Qkf a15 _ b3.out).mono ?_;rintro e w2 ⟨rfl,rfl⟩));go_wp2
     go_roundw
     case rel => ((repeat apply Exists.intro);exact ⟨⟨t + 1,by omega,by omega,by go_num,N1.out,N2.out,N3.out⟩,rfl⟩)
     case measure => simp [intOf];omega
    ·obtain rfl : t = 64:=by omega
     have S2 : Hid (Blk wr G 211 (wl (wds p))):=by
      show _
      rw [QjB,Nat.sub_self,List.replicate_zero,List.append_nil] at hS;exact hS
     have R2:=Qaa hR;have O2:=Qaa hO;rw [HD.out] at S2;clear hS hR hO;go_wp2_with (first | (refine wpList_load_row rfl 211 (.tmp 3) rfl G rfl 211 D.toArray (0,0) _ S2.out Tryz.underlying211 rfl HZ1.out ?_) | (refine wpList_store_row rfl 211 (.tmp 2) (.tmp 51) rfl R D.toArray rfl rfl 211 Z.toArray R2.out HZ1.out HZ2.out HA.out ?_));refine bodyPost_ret (v:=.agg D.toArray) (results_cell_row rfl _ _ R 211 D.toArray (0,0) _ rfl (R2.out.row D) Tryz.underlying211 rfl HZ1.out) rfl ⟨rfl,?_⟩;exact O2.out.setRow (fun h => absurd h (by have:=HG.out.2.1;omega)) _
theorem Qkt (s : List Nat) (k w : Nat) (h : W32 s) : W32 (rnd s k w):=by
 intro x hx;simp only [rnd,List.mem_cons,List.not_mem_nil,or_false] at hx
 rcases hx with rfl | rfl | rfl | rfl | rfl | rfl | rfl | rfl
 ·exact Nat.mod_lt _ (by decide)
 ·exact h.at 0
 ·exact h.at 1
 ·exact h.at 2
 ·exact Nat.mod_lt _ (by decide)
 ·exact h.at 4
 ·exact h.at 5
 ·exact h.at 6
theorem QfC (s : List Nat) (w : List Nat) (h : W32 s) (t : Nat) : W32 (rnds s w t):=by
 induction t with
 | zero => exact h
 | succ t ih => rw [QcQ];exact Qkt _ _ _ ih
theorem Qhy : W32 shH:=by unfold W32 shH;decide
theorem QfD (s : List Nat) (b : List Int) : W32 (thru s b):=Qkr s b
theorem Qhz (p : List Int) (k : Nat) : W32 (thrus shH p k):=by
 cases k with
 | zero => exact Qhy
 | succ k => rw [QaZ];exact QfD _ _
theorem QjA (e f g : Nat) (he : e < 4294967296) (hf : f < 4294967296) (hg : g < 4294967296) :
  bits .xor .u32 (bits .and .u32 (e : Int) (f : Int)) (bits .and .u32 ((4294967295 - e : Nat) : Int) (g : Int)) = ((chw e f g : Nat) : Int):=by
 rw [u32_and_nat _ _ he hf,u32_and_nat _ _ (by omega) hg,u32_xor_nat _ _ (QbN _ he) (QbN _ (by omega))];rfl
theorem QhA (a b c : Nat) (ha : a < 4294967296) (hb : b < 4294967296) (hc : c < 4294967296) :
  bits .xor .u32 (bits .xor .u32 (bits .and .u32 (a : Int) (b : Int)) (bits .and .u32 (a : Int) (c : Int))) (bits .and .u32 (b : Int) (c : Int)) = ((majw a b c : Nat) : Int):=by
 rw [u32_and_nat _ _ ha hb,u32_and_nat _ _ ha hc,u32_and_nat _ _ hb hc,u32_xor_nat _ _ (QbN _ ha) (QbN _ ha),u32_xor_nat _ _ (Qb5 (QbN _ ha) (QbN _ ha)) (QbN _ hb)];rfl
def t1w (s : List Nat) (k w : Nat) : Nat:=(s.getD 7 0 + Sg1 (s.getD 4 0) + chw (s.getD 4 0) (s.getD 5 0) (s.getD 6 0) + k + w) % 4294967296
def t2w (s : List Nat) : Nat:=(Sg0 (s.getD 0 0) + majw (s.getD 0 0) (s.getD 1 0) (s.getD 2 0)) % 4294967296
theorem rnd_t (s : List Nat) (k w : Nat) : rnd s k w = [(t1w s k w + t2w s) % 4294967296,s.getD 0 0,s.getD 1 0,s.getD 2 0,(s.getD 3 0 + t1w s k w) % 4294967296,s.getD 4 0,s.getD 5 0,s.getD 6 0]:=by
 unfold rnd t1w t2w
 congr 1
 ·omega
 ·congr 4
  omega
theorem sum5 (a b c d e : Nat) : IntKind.u32.wrap (IntKind.u32.wrap (IntKind.u32.wrap (IntKind.u32.wrap ((a : Int) + b) + c) + d) + e) = (((a + b + c + d + e) % 4294967296 : Nat) : Int):=by
 rw [IntKind.wrap_u32',IntKind.wrap_u32',IntKind.wrap_u32',IntKind.wrap_u32'];omega
theorem sum2 (a b : Nat) : IntKind.u32.wrap ((a : Int) + b) = (((a + b) % 4294967296 : Nat) : Int):=by
 rw [IntKind.wrap_u32'];omega
theorem getD8 (s : List Nat) (h : s.length = 8) : s = [s.getD 0 0,s.getD 1 0,s.getD 2 0,s.getD 3 0,s.getD 4 0,s.getD 5 0,s.getD 6 0,s.getD 7 0]:=by
 match s,h with
 | [a,b,c,d,e,f,g,h],_ => rfl
def addp (s r : List Nat) (i : Nat) : List Nat:=(List.range 8).map fun k => if k < i then (s.getD k 0 + r.getD k 0) % 4294967296 else s.getD k 0
theorem QiZ (s r : List Nat) (i : Nat) : (addp s r i).length = 8:=by simp [addp]
theorem QhB (s r : List Nat) (h : s.length = 8) : addp s r 0 = s:=by
 have : List.range 8 = [0,1,2,3,4,5,6,7]:=rfl;rw [getD8 s h];unfold addp;rw [this]
 rfl
theorem Qi0 (s : List Nat) (b : List Int) : addp s (rnds s (wds b) 64) 8 = thru s b:=by
 unfold addp thru
 apply List.map_congr_left
 intro k hk;rw [if_pos (List.mem_range.1 hk)]
theorem Qku (s r : List Nat) (i : Nat) (hi : i < 8) : (addp s r i).getD i 0 = s.getD i 0:=by
 simp [addp,List.getD_eq_getElem?_getD,hi]
theorem QhC (s r : List Nat) (i : Nat) (_hi : i < 8) : addp s r (i + 1) = (addp s r i).set i ((s.getD i 0 + r.getD i 0) % 4294967296):=by
 apply List.ext_getElem
 ·simp [addp]
 ·intro k h1 h2
  rw [List.getElem_set]
  by_cases e : i = k
  ·subst e;simp [addp]
  ·rw [if_neg e]
   simp only [addp,List.getElem_map,List.getElem_range]
   by_cases h : k < i
   ·rw [if_pos h,if_pos (by omega)]
   ·rw [if_neg h,if_neg (by omega)]
end Go.Proofs.YtcpopagikbjimaaGreatDoor
