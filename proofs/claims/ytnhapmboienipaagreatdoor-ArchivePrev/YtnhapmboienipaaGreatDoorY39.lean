import Derived.Test.YtnhapmboienipaaGreatDoorY12
import Derived.Test.YtnhapmboienipaaGreatDoorY5
import Derived.Deep.RegionHeld3
import Derived.Deep.RegionLaw
import Derived.Test.YtnhapmboienipaaGreatDoorY38
import Derived.Test.YtnhapmboienipaaGreatDoorY11
import Derived.Test.YtnhapmboienipaaGreatDoorY22
import Derived.Laws.CopyOwn
import Derived.Test.YtnhapmboienipaaGreatDoorY18
namespace Go.Proofs.YtnhapmboienipaaGreatDoor
set_option maxHeartbeats 4000000
set_option maxRecDepth 100000
open Go.RowKit _root_.Go.Proofs.Tryz
theorem Tryz.infoRows:(prog.info? 22).map (fun i=>(i.zero,i.size,i.bytes))=some (some (.slice none 0 0),1,24):=by kernel_rfl
theorem Qfu (w:World) (t:TypeId) (vs:List Value) {base:Nat} (hb:base≤w.heap.size) (hl:vs.length≤maxLen):(w.alloc (.cells vs.toArray t)).ownsRow base t 1 (.slice (some ⟨w.heap.size,0,none⟩) vs.length vs.length) vs.length vs :=
 ⟨(Nat.mul_one _).symm,.inr ⟨w.heap.size,vs.length,vs.toArray,rfl,hb,Blk.new w t vs,Nat.le_refl _,hl,by rw [List.size_toArray,Nat.mul_one],by rw [Nat.mul_one];exact List.take_length⟩⟩
def VS (w:World) (u:Value) (ys:List Value):Prop :=
 ∃ao cap,u=.slice ao ys.length cap∧NoCap u∧(∀y∈ys,y.oneCell'=true)∧(ao=none→ys=[])∧∀ad,ao=some ad→∀j y,ys[j]? = some y→w.cell? (ad.add j)=some y
theorem VS.of_own {w:World} {lo n:Nat} {e:TypeId} {u:Value} {ys:List Value} (h:w.ownsRow lo e 1 u n ys) (h1:∀y∈ys,y.oneCell'=true):VS w u ys:=by
 have hl:=h.1
 rcases h.2 with ⟨rfl,h0⟩ | ⟨g,cap,cur,rfl,hb,hg,hc,r⟩
 ·have:ys=[]:=List.eq_nil_of_length_eq_zero (by omega)
  subst this;exact ⟨none,0,rfl,NoCap.nil,h1,fun _=>rfl,fun ad e=>by cases e⟩
 ·refine ⟨_,cap,by rw [show ys.length=n by omega],NoCap.some _ _ _,h1,fun e=>by (cases e),fun ad e j y hy=>?_⟩
  cases e
  have hj:=(List.getElem?_eq_some_iff.1 hy).1;have:=h.cellAt j (by omega);rw [Go.WideShapes.add_plain,Nat.zero_add,this,hy]
theorem Qgh {P:Program} {w:World} {o:Oper} {a:Act} {K:Act→World→Prop} {Q:Exit→Act→World→Prop} (s x:Operand) (t:TypeId)
  (ho:o.op=.call { callee:=.builtin .append,args:=#[s,x],argTypes:=#[t,t] })
  (base:Nat) (e:TypeId) (i:TypeInfo) (z:Value) (bytes:Nat) (ht:P.underlying t=some (.slice e)) (hi:P.info? e=some i) (hz:i.zero=some z)
  (hsize:i.size=1) (hby:i.bytes=bytes) (hzs:z.cells.size=1)
  (v:Value) (n:Nat) (xs:List Value) (hs:a.eval s=v) (hown:w.ownsRow base e 1 v n xs)
  (u:Value) (ys:List Value) (hx:a.eval x=u) (hb:VS w u ys)
  (h63:n+ys.length≤maxLen) (hbytes:(n+ys.length)*bytes≤140737488355328) (hbase:base≤w.heap.size)
  (h:∀v' w',w'.ownsRow base e 1 v' (n+ys.length) (xs++ys)→w.grownBy w' v.ownBlock→K (a.put o.dst v') w') :
  Oper.wp P o a w K Q:=by
 obtain ⟨ao,cap,rfl,hnc,hone,hnone,hcell⟩:=hb
 cases ao with
 | none =>
  have h0:ys=[]:=hnone rfl;subst h0;have hc:cap=0:=hnc _ _ rfl;subst hc;have hrun:=run_append_owned_none (P:=P) (w:=w) base t o.type e i 1 ht hi v n xs hown;have hK:=h v w (by simpa using hown) (World.grownBy.refl _ _);unfold Oper.wp;simp [execOp,ho,resolve,invoke,builtin,hs,hx,hrun,Result.andThen];exact hK
 | some ad =>
  obtain ⟨v',w',hrun,r1,r2,_⟩:=run_append_own_at (P:=P) w base t o.type e i z 1 bytes ht hi hz hsize hby hzs (by omega) v n xs hown ad ys.length cap ys (by simp) (hcell ad rfl) hone h63 hbytes hbase;unfold Oper.wp;simp [execOp,ho,resolve,invoke,builtin,hs,hx,hrun,Result.andThen];exact h v' w' r1 r2
theorem Qbl {P:Program} (w:World) {ops:Array Oper} {rest:List Oper} {o:Oper} {a:Act} {Q:Exit→Act→World→Prop} (hw:Region.wanted o (yielded ops a.tmps)=true) (s x:Operand) (t:TypeId)
  (ho:o.op=.call { callee:=.builtin .append,args:=#[s,x],argTypes:=#[t,t] })
  (base:Nat) (e:TypeId) (i:TypeInfo) (z:Value) (bytes:Nat) (ht:P.underlying t=some (.slice e)) (hi:P.info? e=some i) (hz:i.zero=some z)
  (hsize:i.size=1) (hby:i.bytes=bytes) (hzs:z.cells.size=1)
  (v:Value) (n:Nat) (xs:List Value) (hs:a.eval s=v) (hown:w.ownsRow base e 1 v n xs)
  (u:Value) (ys:List Value) (hx:a.eval x=u) (hb:VS w u ys)
  (h63:n+ys.length≤maxLen) (hbytes:(n+ys.length)*bytes≤140737488355328) (hbase:base≤w.heap.size)
  (h:∀v' w',w'.ownsRow base e 1 v' (n+ys.length) (xs++ys)→w.grownBy w' v.ownBlock→wpList P ops Q rest (a.put o.dst v') w') :
  wpList P ops Q (o :: rest) a w:=by
 refine wpList_step fun K hK=>?_
 rw [if_pos hw];exact Qgh s x t ho base e i z bytes ht hi hz hsize hby hzs v n xs hs hown u ys hx hb h63 hbytes hbase (fun v' w' h1 h2=>hK _ _ (h v' w' h1 h2))
def LO (w:World) (vs:List Value) (ls:List (List Int)):Prop:=vs.length=ls.length∧∀j u,vs[j]? = some u→∃lo,w.ownsRow lo 5 1 u (ls.getD j []).length (bl (ls.getD j []))
theorem LO.nil (w:World):LO w [] []:=⟨rfl,fun j u h=>by simp at h⟩
theorem LO.one {w:World} {lo:Nat} {u:Value} {l:List Int} (h:w.ownsRow lo 5 1 u l.length (bl l)):LO w [u] [l]:=⟨rfl,fun j v hv=>by
 cases j with
 | zero=>simp at hv;subst hv;exact ⟨lo,h⟩
 | succ j=>simp at hv⟩
theorem LO.app {w:World} {vs us:List Value} {ls ms:List (List Int)} (h:LO w vs ls) (k:LO w us ms):LO w (vs++us) (ls++ms):=⟨by rw [Yae,Yae,h.1,k.1],fun j u hu=>by
 have hl:=h.1
 by_cases hj:j<vs.length
 ·rw [List.getElem?_append_left hj] at hu
  rw [Yad,List.getElem?_append_left (by omega),←Yad];exact h.2 j u hu
 ·rw [List.getElem?_append_right (by omega)] at hu
  rw [Yad,List.getElem?_append_right (by omega),←Yad,←hl]
  exact k.2 _ u hu⟩
theorem LO.past {w w':World} {vs:List Value} {ls:List (List Int)} (h:LO w vs ls) (o:Only (fun _=>False) w w'):LO w' vs ls:=⟨h.1,fun j u hu=>by
 obtain ⟨lo,h1⟩:=h.2 j u hu
 exact ⟨lo,o.own h1 (fun _ _ f=>f)⟩⟩
theorem LO.grown {w w':World} {vs:List Value} {ls:List (List Int)} (h:LO w vs ls) {base n:Nat} {v:Value} {xs:List Value} (hv:w.ownsRow base 22 1 v n xs) (g:w.grownBy w' v.ownBlock):LO w' vs ls:=⟨h.1,fun j u hu=>by
 obtain ⟨lo,h1⟩:=h.2 j u hu;refine ⟨lo,((Only.refl (fun k=>v.ownBlock=some k) w).grown g (fun _ _ e=>e)).own h1 (fun k hk e=>?_)⟩
 rcases hv.2 with ⟨rfl,_⟩ | ⟨b,cap,cur,rfl,_,hb,_⟩
 ·cases e
 ·cases e
  rcases h1.2 with ⟨rfl,_⟩ | ⟨b',cap',cur',rfl,_,hb',_⟩
  ·cases hk
  ·cases hk
   rw [hb] at hb'
   cases hb'⟩
theorem LO.one' {w:World} {vs:List Value} {ls:List (List Int)} (h:LO w vs ls):∀y∈vs,y.oneCell'=true:=fun y hy=>by
 obtain ⟨j,hj,rfl⟩:=List.mem_iff_getElem.1 hy;obtain ⟨lo,h1⟩:=h.2 j _ (Yaf hj)
 rcases h1.2 with ⟨e,_⟩ | ⟨b,cap,cur,e,_⟩
 ·rw [e];rfl
 ·rw [e];rfl
theorem LO.rl {w:World} {lo:Nat} {v:Value} {vs:List Value} {ls:List (List Int)} (h:LO w vs ls) (ho:w.ownsRow lo 22 1 v vs.length vs):RL w v ls∧NoCap v:=⟨RL.of_own (lo:=lo) (vs:=vs) (by rw [←h.1];exact ho) (fun j u hu=>by
 obtain ⟨lo',h1⟩:=h.2 j u hu
 exact ⟨Bs.of_own (k:=.u8) (E:=5) (lo:=lo') h1,NoCap.of_own h1⟩),NoCap.of_own ho⟩
abbrev NIL:Value:=.slice none 0 0
theorem Qk4 (w:World) (n:Nat) (hn:n≤1000000000):∃wm,(Instr.makeSlice 43 (.int .i64 (n:Int)) (.int .i64 (n:Int))).run prog w=.ok (.slice (some ⟨w.heap.size,0,none⟩) n n) wm∧wm.ownsRow w.heap.size 22 1 (.slice (some ⟨w.heap.size,0,none⟩) n n) n (List.replicate n NIL)∧Only (fun _=>False) w wm:=by
 obtain ⟨i0,hi,hz0,hz1,hz2⟩:=info_parts Tryz.infoRows;obtain ⟨wm,hmk,hown,hgr⟩:=run_make_full (P:=prog) w w.heap.size 43 22 i0 (.slice none 0 0) 1 underlying43 hi hz0 hz1 .i64 .i64 n (by rw [hz2];omega) (by unfold maxLen;omega) (Nat.le_refl _);refine ⟨wm,hmk,?_,(Only.refl _ _).grown hgr (fun k _ e=>by cases e)⟩;rw [Nat.mul_one,show (Value.slice none 0 0).cells=#[Value.slice none 0 0] from rfl,toList_madeCells_one] at hown;exact hown
theorem LO.set {w:World} {vs:List Value} {ls:List (List Int)} (h:LO w vs ls) {base g n cap k:Nat} {xs:List Value} (hv:w.ownsRow base 22 1 (.slice (some ⟨g,0,none⟩) n cap) n xs) (u:Value):LO (w.setCell ⟨g,k,none⟩ u) vs ls :=
 h.grown hv (hv.stored k u).2
structure LD (w:World) (N n k:Nat) (ls:Nat→List Int):Prop where
 ex:∃vs:List Value,LO w vs ((List.range k).map ls)∧w.ownsRow N 22 1 (.slice (some ⟨N,0,none⟩) n n) n (vs++List.replicate (n - k) NIL)
theorem LD.past {w w':World} {N n k:Nat} {ls:Nat→List Int} (h:LD w N n k ls) (o:Only (fun _=>False) w w'):LD w' N n k ls:=by
 obtain ⟨vs,h1,h2⟩:=h.ex;exact ⟨vs,h1.past o,o.own h2 (fun _ _ f=>f)⟩
theorem LD.cell {w:World} {N n k:Nat} {ls:Nat→List Int} (h:LD w N n k ls) (hk:k<n):w.cell? ⟨N,k,none⟩=some NIL∧w.frozen? ⟨N,k,none⟩=false:=by
 obtain ⟨vs,h1,h2⟩:=h.ex
 have hl:vs.length=k:=by rw [h1.1];simp
 refine ⟨?_,h2.frozenAt _⟩;rw [h2.cellAt k (by omega),List.getElem?_append_right (by omega),List.getElem?_replicate,if_pos (by omega)]
theorem LD.store {w:World} {N n k lo:Nat} {ls:Nat→List Int} {u:Value} (h:LD w N n k ls) (hk:k<n) (hu:w.ownsRow lo 5 1 u (ls k).length (bl (ls k))):LD (w.setCell ⟨N,k,none⟩ u) N n (k+1) ls:=by
 obtain ⟨vs,h1,h2⟩:=h.ex
 have hl:vs.length=k:=by rw [h1.1];simp
 refine ⟨vs++[u],?_,?_⟩
 ·have:=(h1.app (LO.one hu)).set (k:=k) h2 u
  rw [List.range_succ,List.map_append];exact this
 ·have:=(h2.stored k u).1
  obtain ⟨m,hm⟩:∃m,n - k=m+1:=⟨n - k - 1,by omega⟩;rw [hm,List.replicate_succ,List.set_append_right _ _ (by omega),hl,Nat.sub_self,Yab] at this;rw [show n - (k+1)=m by omega,List.append_assoc];exact this
theorem LD.all {w:World} {N n:Nat} {ls:Nat→List Int} (h:LD w N n n ls):RL w (.slice (some ⟨N,0,none⟩) n n) ((List.range n).map ls):=by
 obtain ⟨vs,h1,h2⟩:=h.ex
 have hl:vs.length=n:=by rw [h1.1];simp
 rw [Nat.sub_self,List.replicate_zero,List.append_nil] at h2;exact (h1.rl (lo:=N) (by rw [hl];exact h2)).1
theorem LD.nought {w:World} {N n:Nat} {ls:Nat→List Int} (h:w.ownsRow N 22 1 (.slice (some ⟨N,0,none⟩) n n) n (List.replicate n NIL)):LD w N n 0 ls:=⟨[],LO.nil w,by simpa using h⟩
theorem Qtt (l:List (List Int)) (f:List Int→List Int):(List.range l.length).map (fun i=>f (l.getD i []))=l.map f:=by
 refine List.ext_getElem (by simp) (fun i h1 h2=>?_)
 have h:i<l.length:=by simpa using h2
 simp [List.getD_eq_getElem?_getD,List.getElem?_eq_getElem h]
theorem Qe2 (v:Value) (ls:List (List Int)) (w:World) (h:RL w v ls) (h8:R8 ls) (hl:ls.length≤1000000000) :
  Calls prog 20 #[v] w fun e w'=>∃u,e=.returned u∧w'.ownsRow w.heap.size 5 1 u 32 (bl (RTF ls))∧Only (fun _=>False) w w':=by
 obtain ⟨wm,hmk,hown,om⟩:=Qk4 w ls.length hl;obtain ⟨ao,cap,rfl,hcap⟩:=h.len;have H:=Qaa h;have H8:=Qaa h8;have RT:=Qaa (fun (W:World) (u:Value) (r:RL W u (ls.map LEAF))=>Qpv (ls.map LEAF) u W (by rw [List.length_map];exact hl) (Qk3 ls) r);have eR:TOP (ls.map LEAF)=RTF ls:=rfl;have eL:=Qbd ls;simp only [eR,eL] at RT;obtain ⟨N,hN⟩:∃N,N=w.heap.size:=⟨_,rfl⟩;rw [←hN] at hmk hown ⊢;have L0:Hid (LD wm N ls.length 0 (fun i=>LEAF (ls.getD i []))∧Only (fun _=>False) w wm):=⟨LD.nought hown,om⟩;have MA:=Qaa (Qtt ls LEAF);obtain ⟨n,hn⟩:∃n,n=ls.length:=⟨_,rfl⟩;rw [←hn] at hmk L0 MA hcap ⊢
 have hnb:n≤1000000000:=by omega
 have HNN:=Qaa (And.intro hN hn);clear h h8 hl hown om eR eL hN hn;go_enter func20,ntmps20;go_wp2
 go_loopw [11] (fun i wr=>∃k:Nat,k≤n∧i=.int .i64 k∧Hid (LD wr N n k (fun i=>LEAF (ls.getD i []))∧Only (fun _=>False) w wr)) (fun i _=>n - (intOf i).toNat)
 case atStart=>exact ⟨0,Nat.zero_le _,rfl,L0⟩
 case round =>
  obtain ⟨k,hk,rfl,hS⟩:=hrel;clear L0 hmk
  by_cases hlt:k<n
  ·have dlt:decide ((k:Int)<(n:Int))=true:=Yaj (by omega)
   have dlt':decide (k<n)=true:=Yaj hlt;obtain ⟨b,off,cap',ea,_⟩:=(H.out.past hS.out.2).form (show ls.length=n from HNN.out.2.symm) (by omega)
   obtain ⟨rfl,_,rfl⟩:ao=some ⟨b,off,none⟩∧n=n∧cap=cap':=by have:=HNN.out.2;rw [←this] at ea;simpa using ea
   have hRL:RL wr (.slice (some ⟨b,off,none⟩) n cap) ls:=by have:=H.out.past hS.out.2;rw [←HNN.out.2] at this;exact this
   obtain ⟨u,hu,hbu,hnu⟩:=hRL.at k (by rw [←HNN.out.2];exact hlt);have A:=Qaa (Qpw u (ls.getD k []) wr hbu (H8.out.at k).1 (by have:=(H8.out.at k).2;omega))
   have i0:(0:Int)≤(k:Int):=by omega
   have i1:(k:Int)<(n:Int):=by omega
   clear hRL hbu hnu ea;go_wp2_with fail;refine A.out.mono ?_;rintro e w4 ⟨v4,rfl,own4,o4⟩;have hS4:=hS.out.1.past o4;obtain ⟨hc,hf⟩:=hS4.cell hlt
   have F:Hid (LD (w4.setCell ⟨N,k,none⟩ v4) N n (k+1) (fun i=>LEAF (ls.getD i []))∧Only (fun _=>False) w (w4.setCell ⟨N,k,none⟩ v4)) :=
    ⟨hS4.store hlt (lo:=wr.heap.size) (by rw [Qdk];exact own4),(hS.out.2.same o4).setCell (fun hb=>by have:=HNN.out.1;simp only at hb;omega) _⟩
   obtain ⟨a4,c4,rfl⟩:=Qad own4;clear own4 o4 A hS hS4 hu;go_wp2
   go_roundw
   case rel=>exact ⟨k+1,by omega,by go_num,F⟩
   case measure=>simp [intOf];omega
  ·obtain rfl:k=n:=by omega
   have dlt:decide ((k:Int)<(k:Int))=false:=Yak (by omega);have A:=Qaa (RT.out wr (.slice (some ⟨N,0,none⟩) k k) (by have:=hS.out.1.all;rw [MA.out] at this;exact this));have O:=Qaa hS.out.2;clear hS;go_wp2_with fail;refine A.out.mono ?_;rintro e w4 ⟨v4,rfl,own4,o4⟩;have F:=Qaa (And.intro (Qaf own4 (show N≤wr.heap.size from by have:=HNN.out.1;have:=O.out.size;omega)) (O.out.same o4));obtain ⟨a4,c4,rfl⟩:=Qad own4;clear own4 o4 A O;go_wp2;go_ret;exact ⟨_,rfl,F.out⟩
def Chs (w:World) (v:Value) (l:List CHK):Prop :=
 ∃ao cap,v=.slice ao l.length cap∧l.length≤cap∧(l≠[]→∃b off,ao=some ⟨b,off,none⟩∧∀j,j<l.length→∃u,
  w.cell? ⟨b,off+j*2,none⟩=some (.string (strOfNums (l.getD j NCH).1))∧w.cell? ⟨b,off+j*2+1,none⟩=some u∧Sps w u (l.getD j NCH).2)
theorem Chs.past {w w':World} {v:Value} {l:List CHK} (h:Chs w v l) (o:Only (fun _=>False) w w'):Chs w' v l:=by
 obtain ⟨ao,cap,rfl,hc,hr⟩:=h;refine ⟨ao,cap,rfl,hc,fun hx=>?_⟩;obtain ⟨b,off,rfl,hcell⟩:=hr hx;refine ⟨b,off,rfl,fun j hj=>?_⟩;obtain ⟨u,h1,h2,h3⟩:=hcell j hj;exact ⟨u,QaY h1 o,QaY h2 o,h3.past o⟩
theorem Chs.len {w:World} {v:Value} {l:List CHK} (h:Chs w v l):∃ao cap,v=.slice ao l.length cap∧l.length≤cap:=by
 obtain ⟨ao,cap,e,h,_⟩:=h;exact ⟨ao,cap,e,h⟩
theorem Chs.at {w:World} {ao:Option Addr} {n cap:Nat} {l:List CHK} (h:Chs w (.slice ao n cap) l) (j:Nat) (hj:j<l.length):∃b off u,ao=some ⟨b,off,none⟩ ∧
  w.cell? ⟨b,off+j*2,none⟩=some (.string (strOfNums (l.getD j NCH).1))∧w.cell? ⟨b,off+j*2+1,none⟩=some u∧Sps w u (l.getD j NCH).2:=by
 obtain ⟨ao',cap',e,hc,hr⟩:=h
 cases e
 obtain ⟨b,off,rfl,hcell⟩:=hr (fun e=>by rw [e] at hj;simp at hj);obtain ⟨u,h1,h2,h3⟩:=hcell j hj;exact ⟨b,off,u,rfl,h1,h2,h3⟩
def CL (l:List CHK):Prop:=∀c∈l,CG c∧c.1.length≤maxLen∧c.2.length≤maxLen
theorem CL.at {l:List CHK} (h:CL l) {j:Nat} (hj:j<l.length):CG (l.getD j NCH)∧(l.getD j NCH).1.length≤maxLen∧(l.getD j NCH).2.length≤maxLen:=by
 rw [Yad,Yaf hj];exact h _ (List.getElem_mem hj)
theorem QjX (s:List (List Int × Int)):∀(j:Nat) (a:List Int) (b:Int),j<s.length→((Qbb s).set (j*2) (.string (strOfNums a))).set (j*2+1) (.int .i64 b)=Qbb (s.set j (a,b)):=by
 induction s with
 | nil=>intro j a b h;simp at h
 | cons p s ih =>
  intro j a b h
  cases j with
  | zero=>simp [Qbe]
  | succ j =>
   have:=ih j a b (by simpa using h);rw [Qbe,Yac,Qbe,←this,show (j+1)*2=j*2+1+1 by omega];simp only [Yac]
theorem Qhx (n:Nat):Qbb (List.replicate n ([],0))=(madeCells #[Value.string ⟨#[]⟩,Value.int .i64 0] (n*2)).toList:=by
 unfold madeCells
 apply List.ext_getElem?
 intro i;have hl:=Qku (List.replicate n (([]:List Int),(0:Int)));rw [List.length_replicate] at hl
 by_cases h:i<n*2
 ·obtain ⟨h0,h1⟩:=Qex (List.replicate n (([]:List Int),(0:Int))) (i / 2) (by simp;omega)
  have hg:(List.replicate n (([]:List Int),(0:Int))).getD (i / 2) ([],0)=([],0):=by
   rw [Yad,List.getElem?_replicate];split <;> rfl
  rw [hg] at h0 h1;have es:strOfNums []=⟨#[]⟩:=rfl;rw [es] at h0
  rcases Nat.mod_two_eq_zero_or_one i with hm | hm
  ·rw [show i / 2*2=i by omega] at h0
   rw [h0];simp [h,hm]
  ·rw [show i / 2*2+1=i by omega] at h1
   rw [h1];simp [h,hm]
 ·rw [List.getElem?_eq_none (by omega),List.getElem?_eq_none (by simp;omega)]
def ED (w:World) (N n k:Nat) (es:Nat→List Int × Int):Prop:=w.ownsRow N 47 2 (.slice (some ⟨N,0,none⟩) n n) n (Qbb ((List.range k).map es++List.replicate (n - k) ([],0)))
theorem Qrb (w:World) (n:Nat) (hn:n≤1000000000) (es:Nat→List Int × Int):∃wm,(Instr.makeSlice 40 (.int .i64 (n:Int)) (.int .i64 (n:Int))).run prog w=.ok (.slice (some ⟨w.heap.size,0,none⟩) n n) wm∧ED wm w.heap.size n 0 es∧Only (fun _=>False) w wm:=by
 obtain ⟨i0,hi,hz0,hz1,hz2⟩:=info_parts Tryz.infoEn;obtain ⟨wm,hmk,hown,hgr⟩:=run_make_full (P:=prog) w w.heap.size 40 47 i0 (.agg #[.string ⟨#[]⟩,.int .i64 0]) 2 underlying40 hi hz0 hz1 .i64 .i64 n (by rw [hz2];omega) (by unfold maxLen;omega) (Nat.le_refl _);refine ⟨wm,hmk,?_,(Only.refl _ _).grown hgr (fun k _ e=>by cases e)⟩;unfold ED;rw [List.range_zero,List.map_nil,List.nil_append,Nat.sub_zero,Qhx];exact hown
theorem ED.past {w w':World} {N n k:Nat} {es:Nat→List Int × Int} (h:ED w N n k es) (o:Only (fun _=>False) w w'):ED w' N n k es:=o.own h (fun _ _ f=>f)
theorem ED.cell {w:World} {N n k:Nat} {es:Nat→List Int × Int} (h:ED w N n k es) (hk:k<n):w.cell? ⟨N,k*2,none⟩=some (.string ⟨#[]⟩)∧w.cell? ⟨N,k*2+1,none⟩=some (.int .i64 0)∧w.frozen? ⟨N,k*2,none⟩=false∧w.frozen? ⟨N,k*2+1,none⟩=false:=by
 have ha:=Qex ((List.range k).map es++List.replicate (n - k) ([],0)) k (by simp;omega)
 have hg:((List.range k).map es++List.replicate (n - k) ([],0)).getD k ([],0)=([],0):=by
  rw [Yad,List.getElem?_append_right (by simp),List.getElem?_replicate];split <;> rfl
 rw [hg] at ha;refine ⟨?_,?_,h.frozenAt _,h.frozenAt _⟩
 ·rw [World.ownsRow.cellAt h (k*2) (by omega),ha.1];rfl
 ·rw [World.ownsRow.cellAt h (k*2+1) (by omega),ha.2]
theorem ED.store {w:World} {N n k:Nat} {es:Nat→List Int × Int} (h:ED w N n k es) (hk:k<n):ED ((w.setCell ⟨N,k*2,none⟩ (.string (strOfNums (es k).1))).setCell ⟨N,k*2+1,none⟩ (.int .i64 (es k).2)) N n (k+1) es:=by
 have h1:=(World.ownsRow.stored h (k*2) (.string (strOfNums (es k).1))).1;have h2:=(h1.stored (k*2+1) (.int .i64 (es k).2)).1;rw [QjX _ _ _ _ (by simp;omega)] at h2;unfold ED;obtain ⟨m,hm⟩:∃m,n - k=m+1:=⟨n - k - 1,by omega⟩;rw [hm,List.replicate_succ,List.set_append_right _ _ (by simp)] at h2;rw [show n - (k+1)=m by omega,List.range_succ,List.map_append,List.append_assoc]
 simpa using h2
theorem ED.other {w:World} {N n k:Nat} {es:Nat→List Int × Int} (h:ED w N n k es) {a:Addr} (ha:a.block≠N) (u:Value):ED (w.setCell a u) N n k es :=
 ownsRow_setCell_other h (by simp only [Value.ownBlock];exact fun e=>ha (by cases e;rfl)) u
theorem LD.other {w:World} {N n k:Nat} {ls:Nat→List Int} {t:TypeId} {cs:Array Value} {B:Nat} {f:Nat × Nat} (h:LD w N n k ls) (hB:w.heap[B]? = some (.cells cs t f)) (ht:t≠5) (hN:B≠N) (j:Nat) (u:Value):LD (w.setCell ⟨B,j,none⟩ u) N n k ls:=by
 obtain ⟨vs,h1,h2⟩:=h.ex;refine ⟨vs,⟨h1.1,fun i x hx=>?_⟩,ownsRow_setCell_other h2 (by simp only [Value.ownBlock];exact fun e=>hN (by cases e;rfl)) u⟩;obtain ⟨lo,h3⟩:=h1.2 i x hx;refine ⟨lo,ownsRow_setCell_other h3 (fun e=>?_) u⟩
 rcases h3.2 with ⟨rfl,_⟩ | ⟨g,cap,cur,rfl,_,hg,_⟩
 ·cases e
 ·cases e
  rw [hB] at hg
  cases hg
  exact ht rfl
theorem ED.block {w:World} {N n k:Nat} {es:Nat→List Int × Int} (h:ED w N n k es):∃cs,w.heap[N]? = some (.cells cs 47):=by
 rcases h.2 with ⟨e,_⟩ | ⟨g,cap,cur,e,_,hg,_⟩
 ·cases e
 ·cases e;exact ⟨_,hg⟩
abbrev slf (m:List Int) (v:Nat) (l:List CHK) (k:Nat):List Int:=SEt (TKY m (l.getD k NCH)) v k (l.getD k NCH)
abbrev enf (m:List Int) (l:List CHK) (k:Nat):List Int × Int:=((l.getD k NCH).1,SEb (TKY m (l.getD k NCH)) k (l.getD k NCH))
def SAA (w w':World) (m:List Int) (v:Nat) (l:List CHK) (a b:Value):Prop :=
 SAe m 0 l=0→∃N1 N2,a=.slice (some ⟨N1,0,none⟩) l.length l.length∧b=.slice (some ⟨N2,0,none⟩) l.length l.length∧w.heap.size≤N1∧w.heap.size≤N2∧LD w' N1 l.length l.length (slf m v l)∧ED w' N2 l.length l.length (enf m l)
theorem Qfs {w:World} {lo g n c size:Nat} {E:TypeId} {xs:List Value} (h:w.ownsRow lo E size (.slice (some ⟨g,0,none⟩) n c) n xs):g<w.heap.size:=by
 rcases h.2 with ⟨e,_⟩ | ⟨g',c',cur,e,_,hg,_⟩
 ·cases e
 ·cases e;exact (Array.getElem?_eq_some_iff.1 hg).1
theorem LD.lt {w:World} {N n k:Nat} {ls:Nat→List Int} (h:LD w N n k ls):N<w.heap.size:=by
 obtain ⟨vs,_,h2⟩:=h.ex;exact Qfs h2
theorem ED.lt {w:World} {N n k:Nat} {es:Nat→List Int × Int} (h:ED w N n k es):N<w.heap.size:=Qfs h
theorem Qrc {w:World} {N1 N2 n k lo:Nat} {ls:Nat→List Int} {es:Nat→List Int × Int} (h1:LD w N1 n k ls) (h2:ED w N2 n k es) (hne:N1≠N2) (hk:k<n) {x:Value} (hx:w.ownsRow lo 5 1 x (ls k).length (bl (ls k))) {t:ByteArray} (ht:t=strOfNums (es k).1) {b:Int} (hb:b=(es k).2) :
  LD (((w.setCell ⟨N1,k,none⟩ x).setCell ⟨N2,k*2,none⟩ (.string t)).setCell ⟨N2,k*2+1,none⟩ (.int .i64 b)).drew N1 n (k+1) ls∧ED (((w.setCell ⟨N1,k,none⟩ x).setCell ⟨N2,k*2,none⟩ (.string t)).setCell ⟨N2,k*2+1,none⟩ (.int .i64 b)).drew N2 n (k+1) es:=by
 subst ht hb;have e1:ED (w.setCell ⟨N1,k,none⟩ x) N2 n k es:=h2.other hne x;have l1:=h1.store hk hx;obtain ⟨cs,hb⟩:=e1.block;have hb2:=heap_setCell_same _ N2 (k*2) _ _ (.string (strOfNums (es k).1)) hb;exact ⟨((l1.other hb (by decide) (fun e=>hne e.symm) (k*2) _).other hb2 (by decide) (fun e=>hne e.symm) (k*2+1) _).past (Only.refl _ _).drew,(e1.store hk).past (Only.refl _ _).drew⟩
theorem Qhy (vm vl:Value) (m:List Int) (v:Nat) (l:List CHK) (w:World) (bm:Bs .u8 w vm m) (m8:U8 m) (hc:Chs w vl l) (hg:CL l) (hl:l.length≤1048576) (hT:Tab w) :
  Calls prog 19 #[vm,.int .u64 v,vl] w fun e w'=>∃a b,e=.returned (.tuple #[a,b,.int .i64 (SAe m 0 l)])∧SAA w w' m v l a b∧(SAe m 0 l≠0→a=NIL∧b=NIL)∧Only (fun _=>False) w w':=by
 obtain ⟨ao,cap,rfl,hcap⟩:=hc.len;obtain ⟨n,hn⟩:∃n,n=l.length:=⟨_,rfl⟩;obtain ⟨w1,hmk1,hown1,om1⟩:=Qk4 w n (by omega);obtain ⟨w2,hmk2,hed2,om2⟩:=Qrb w1 n (by omega) (enf m l);obtain ⟨N1,hN1⟩:∃N,N=w.heap.size:=⟨_,rfl⟩;obtain ⟨N2,hN2⟩:∃N,N=w1.heap.size:=⟨_,rfl⟩;rw [←hN1] at hmk1 hown1;rw [←hN2] at hmk2 hed2
 have hlt12:N1<N2:=by
  have:w.heap.size<w1.heap.size:=by
   rcases hown1.2 with ⟨e,_⟩ | ⟨g,c,cur,e,_,hg',_⟩
   ·cases e
   ·cases e;rw [←hN1];exact (Array.getElem?_eq_some_iff.1 hg').1
  omega
 have S0:Hid (LD w2 N1 n 0 (slf m v l)∧ED w2 N2 n 0 (enf m l)∧Only (fun _=>False) w w2∧SAe m 0 l=SAe m 0 (l.drop 0)):=⟨(LD.nought hown1).past om2,hed2,om1.same om2,rfl⟩;have HH:=Qaa (And.intro bm (And.intro m8 (And.intro hg hT)));have HC:=Qaa hc;have HN:=Qaa (And.intro hn (And.intro hN1 (show w.heap.size≤N2 by omega)))
 have hnb:n≤1048576:=by omega
 have hne12:N1≠N2:=by omega
 have hne21:N2≠N1:=by omega
 rw [←hn] at hcap;rw [←hn] at HC;rw [←hn];obtain ⟨E,hE⟩:∃E,E=SAe m 0 l:=⟨_,rfl⟩;rw [←hE] at S0 ⊢;have HE:=Qaa hE;clear hc hg hl bm m8 hT hown1 hed2 om1 om2 hN1 hN2 hn hlt12 hE;go_enter func19,ntmps19;go_wp2
 go_loopw [25] (fun i wr=>∃k:Nat,k≤n∧i=.int .i64 k∧Hid (LD wr N1 n k (slf m v l)∧ED wr N2 n k (enf m l)∧Only (fun _=>False) w wr∧E=SAe m k (l.drop k))) (fun i _=>n - (intOf i).toNat)
 case atStart=>exact ⟨0,Nat.zero_le _,rfl,S0⟩
 case round =>
  obtain ⟨k,hk,rfl,hS⟩:=hrel;clear S0 hmk1 hmk2
  by_cases hlt:k<n
  ·have dlt:decide ((k:Int)<(n:Int))=true:=Yaj (by omega)
   have dlt':decide (k<n)=true:=Yaj hlt
   have hkl:k<l.length:=by rw [←HN.out.1];exact hlt
   obtain ⟨b,off,u,ea,hc0,hc1,hsp⟩:=(HC.out.past hS.out.2.2.1).at k hkl;subst ea;obtain ⟨hgk,hml,hms⟩:=HH.out.2.2.1.at hkl;obtain ⟨c,hcc⟩:∃c,c=l.getD k NCH:=⟨_,rfl⟩
   have hE1:E=if CEe m k c=0 then SAe m (k+1) (l.drop (k+1)) else CEe m k c:=by rw [hS.out.2.2.2,Qn1 hkl,hcc]
   have hslf:slf m v l k=SEt (TKY m c) v k c:=by rw [hcc]
   have henf:enf m l k=(c.1,SEb (TKY m c) k c):=by rw [hcc]
   rw [←hcc] at hc0 hsp hgk hml hms;obtain ⟨t,ht⟩:∃t,t=strOfNums c.1:=⟨_,rfl⟩
   have hsb:sb t=c.1:=by rw [ht,sb_of hgk.t8]
   have hts:t.size≤maxLen:=by rw [←QaE,hsb];exact hml
   rw [←ht] at hc0
   have hsl:∃au nu cu,u=.slice au nu cu:=by obtain ⟨a,c',e,_⟩:=hsp;exact ⟨_,_,_,e⟩
   obtain ⟨au,nu,cu,rfl⟩:=hsl
   have i0:(0:Int)≤(k:Int):=by omega
   have i1:(k:Int)<(n:Int):=by omega
   obtain ⟨wb,hwb⟩:∃wb,wb=wr.alloc (.cells #[.string t,.slice au nu cu] 50):=⟨_,rfl⟩
   have ob:Only (fun _=>False) wr wb:=by rw [hwb];exact (Only.refl _ _).alloc _
   have G0:=Qaa (show wb.heap[wr.heap.size]? = some (.cells #[.string t,.slice au nu cu] 50 (0,0)) by rw [hwb];exact heap_alloc_new _ _);obtain ⟨q0,q1,_,_⟩:=Qar G0.out;have TA:=Qaa (Qkq vm m t HH.out.2.1 wb (HH.out.1.past (hS.out.2.2.1.same ob)));rw [hsb] at TA;have HB:=Qaa (And.intro hwb ob)
   have hB1:¬wr.heap.size=N1:=by have:=hS.out.1.lt;omega
   have hB2:¬wr.heap.size=N2:=by have:=hS.out.2.1.lt;omega
   have HS2:=Qaa (And.intro (hS.out.1.past ob) (And.intro (hS.out.2.1.past ob) (hS.out.2.2.1.same ob)));have HX:=Qaa (And.intro (hsp.past ob) (And.intro hgk (And.intro hms hts)));have HQ:=Qaa (And.intro hslf (And.intro henf (And.intro hsb ht)));clear hwb ob hsp hgk hms hts hml hS hcc hslf henf hkl hsb ht
   by_cases h1:KDe m c.1=0
   ·rw [h1] at TA
    have HT8:Hid (U8 (KDt m 1 c.1)):=by
     show U8 _
     unfold KDt;split
     ·split
      ·exact Qjl _ _ _
      ·intro y hy;cases hy
     ·intro y hy;cases hy
    have SL:=Qaa (fun (W:World) (x:Value) (o:Only (fun _=>False) wb W) (h:Bs .u8 W x (TKY m c))=>Qk1 x (TKY m c) v k t (.slice au nu cu) c.2 W h HT8.out ⟨by omega,by omega⟩ (HX.out.1.past o) HX.out.2.1.gs HX.out.2.2.1 HX.out.2.2.2 (HH.out.2.2.2.past (HS2.out.2.2.same o)));simp only [show (sb t,c.2)=c from by rw [HQ.out.2.2.1]] at SL
    have eC:CEe m k c=SEe (TKY m c) k c:=by unfold CEe;rw [if_pos h1]
    rw [eC] at hE1
    by_cases h2:SEe (TKY m c) k c=0
    ·rw [if_pos h2] at hE1
     rw [h2] at SL;clear h1 h2 eC;go_wp2_with fail;rw [←HB.out.1];refine TA.out.mono ?_;rintro e w3 ⟨x3,rfl,own3,o3⟩;have SL3:=Qaa (SL.out w3 x3 o3 (Bs.of_own own3));have G3:=Qaa (o3.heap G0.out (fun f=>f));obtain ⟨p0,p1,_,_⟩:=Qar G3.out;have HS3:=Qaa (And.intro (HS2.out.1.past o3) (And.intro (HS2.out.2.1.past o3) (HS2.out.2.2.same o3)));clear own3 o3 TA SL G0 HS2 q0 q1 hc0 hc1 HX;go_wp2_with fail;refine SL3.out.mono ?_;rintro e w4 ⟨x4,rfl,own4,o4⟩;clear p0 p1;have G4:=o4.heap G3.out (fun f=>f);obtain ⟨p0,p1,_,_⟩:=Qar G4;obtain ⟨a4,c4,rfl⟩:=Qad own4;have LS:=HS3.out.1.past o4;have ES:=HS3.out.2.1.past o4;obtain ⟨r0,r1⟩:=LS.cell hlt;obtain ⟨f0,f1,f2,f3⟩:=ES.cell hlt;have F:=Qaa (And.intro LS (And.intro ES (And.intro (HS3.out.2.2.same o4) own4)));clear LS ES own4 o4 SL3 HS3 G3 G4
     have ck2:((k:Int)*2).toNat=k*2:=by omega
     have FF:Hid (LD (((w4.setCell ⟨N1,k,none⟩ (.slice a4 (SEt (TKY m c) (v:Int) (k:Int) c).length c4)).setCell ⟨N2,k*2,none⟩ (.string t)).setCell ⟨N2,k*2+1,none⟩ (.int .i64 (SEb (TKY m c) (k:Int) c))).drew N1 n (k+1) (slf m v l) ∧
       ED (((w4.setCell ⟨N1,k,none⟩ (.slice a4 (SEt (TKY m c) (v:Int) (k:Int) c).length c4)).setCell ⟨N2,k*2,none⟩ (.string t)).setCell ⟨N2,k*2+1,none⟩ (.int .i64 (SEb (TKY m c) (k:Int) c))).drew N2 n (k+1) (enf m l) ∧
       Only (fun _=>False) w (((w4.setCell ⟨N1,k,none⟩ (.slice a4 (SEt (TKY m c) (v:Int) (k:Int) c).length c4)).setCell ⟨N2,k*2,none⟩ (.string t)).setCell ⟨N2,k*2+1,none⟩ (.int .i64 (SEb (TKY m c) (k:Int) c))).drew∧E=SAe m (k+1) (l.drop (k+1))):=by
      have q:=Qrc (x:=.slice a4 (SEt (TKY m c) (v:Int) (k:Int) c).length c4) (t:=t) (b:=SEb (TKY m c) (k:Int) c) F.out.1 F.out.2.1 hne12 hlt (lo:=w3.heap.size) (by rw [HQ.out.1];exact F.out.2.2.2) (by rw [HQ.out.2.1];exact HQ.out.2.2.2) (by rw [HQ.out.2.1]);refine ⟨q.1,q.2,((((F.out.2.2.1).setCell (p:=⟨N1,k,none⟩) (fun hb=>?_) _).setCell (p:=⟨N2,k*2,none⟩) (fun hb=>?_) _).setCell (p:=⟨N2,k*2+1,none⟩) (fun hb=>?_) _).drew,hE1⟩
      ·have:=HN.out.2.1;simp only at hb;omega
      ·have:=HN.out.2.2;simp only at hb;omega
      ·have:=HN.out.2.2;simp only at hb;omega
     clear F hE1;generalize SEb (TKY m c) (k:Int) c=bk at *;generalize (SEt (TKY m c) (v:Int) (k:Int) c).length=sl at *;go_wp2;go_region;go_wp2
     go_roundw
     case rel=>exact ⟨k+1,by omega,by go_num,FF⟩
     case measure=>simp [intOf];omega
    ·rw [if_neg h2] at hE1
     have hne:(SEe (TKY m c) k c != 0)=true:=by simpa using h2
     have hne0:¬E=0:=by rw [hE1];exact h2
     have HF:=Qaa (And.intro hE1 hne0);clear h1 h2 eC hE1 hne0;generalize SEe (TKY m c) (k:Int) c=er at *;go_wp2_with fail;rw [←HB.out.1];refine TA.out.mono ?_;rintro e w3 ⟨x3,rfl,own3,o3⟩;have SL3:=Qaa (SL.out w3 x3 o3 (Bs.of_own own3));have G3:=Qaa (o3.heap G0.out (fun f=>f));obtain ⟨p0,p1,_,_⟩:=Qar G3.out;have O3:=Qaa (HS2.out.2.2.same o3);clear own3 o3 TA SL G0 HS2 q0 q1 hc0 hc1 HX;go_wp2_with fail;refine SL3.out.mono ?_;rintro e w4 ⟨x4,rfl,own4,o4⟩;have O4:=Qaa (O3.out.same o4);clear own4 o4 SL3 O3;go_wp2;exact bodyPost_ret (QaJ rfl _ _ _) rfl ⟨_,_,by rw [HF.out.1];rfl,fun q=>absurd (HE.out.trans q) HF.out.2,fun _=>⟨rfl,rfl⟩,O4.out⟩
   ·have eC:CEe m k c=KDe m c.1:=by unfold CEe;rw [if_neg h1]
    rw [eC,if_neg h1] at hE1
    have hne:(KDe m c.1 != 0)=true:=by simpa using h1
    have hne0:¬E=0:=by rw [hE1];exact h1
    have HF:=Qaa (And.intro hE1 hne0);clear h1 eC hE1 hne0;generalize KDe m c.1=er at *;go_wp2_with fail;rw [←HB.out.1];refine TA.out.mono ?_;rintro e w3 ⟨x3,rfl,own3,o3⟩;have O3:=Qaa (HS2.out.2.2.same o3);clear own3 o3 TA G0 HS2 q0 q1 hc0 hc1 HX;go_wp2;exact bodyPost_ret (QaJ rfl _ _ _) rfl ⟨_,_,by rw [HF.out.1];rfl,fun q=>absurd (HE.out.trans q) HF.out.2,fun _=>⟨rfl,rfl⟩,O3.out⟩
  ·obtain rfl:k=n:=by omega
   have dlt:decide ((k:Int)<(k:Int))=false:=Yak (by omega)
   have e0:E=0:=by rw [hS.out.2.2.2,HN.out.1,List.drop_length];rfl
   subst e0;have F:=Qaa (And.intro hS.out.1 (And.intro hS.out.2.1 hS.out.2.2.1));clear hS;go_wp2;exact bodyPost_ret (QaJ rfl _ _ _) rfl ⟨_,_,rfl,fun _=>⟨N1,N2,by rw [←HN.out.1];rfl,by rw [←HN.out.1];rfl,by have:=HN.out.2.1;omega,HN.out.2.2,by rw [←HN.out.1];exact F.out.1,by rw [←HN.out.1];exact F.out.2.1⟩,fun q=>absurd rfl q,F.out.2.2⟩
theorem Tryz.one22:(prog.info? 22).map (·.size)=some 1:=by kernel_rfl
theorem Qn4 (w:World) (N n:Nat) (hn:n≤1000000000):∃C wm,n+1≤C∧C≤maxLen∧(Builtin.append_ #[43,3] 43 #[.slice (some ⟨N,0,none⟩) 0 n,.int .i64 ((n+1:Nat):Int)]).run prog w=.ok (.slice (some ⟨w.heap.size,0,none⟩) (n+1) C) wm ∧
  Blk wm w.heap.size 22 (List.replicate C NIL)∧wm.heap.size=w.heap.size+1∧Only (fun _=>False) w wm:=by
 obtain ⟨i0,hi,hz0,hz1,hz2⟩:=info_parts Tryz.infoRows;have hge:=grownCap_ge w (n+1) n 22;have hcm:=grownCap_le_maxLen w (n+1) n 22 (by unfold maxLen;omega);have hr:=Lib.run_append_grow_zeros (P:=prog) w 43 3 43 22 i0 NIL .i64 .i64 underlying43 underlying3 hi hz0 (some ⟨N,0,none⟩) 0 n [] (by have:=run_loadCells_list (P:=prog) w.drew ⟨N,0,none⟩ [] (fun j v h=>by simp at h);simpa [Builtin.firstCells,hz1] using this) (n+1) (by omega) (by omega) (by omega) (by omega) (by rw [hz2];omega) (by rw [hz2,Nat.zero_add];exact growslice_fits (by omega) (by omega));rw [Nat.zero_add] at hr;refine ⟨_,_,hge,hcm,hr,?_,by simp,(Only.refl _ _).drew.alloc _⟩
 have e:(([]:List Value).toArray++Builtin.zeroCells NIL.cells (n+1)++Builtin.zeroCells NIL.cells (grownCap w (n+1) n 22 - (n+1)))=(List.replicate (grownCap w (n+1) n 22) NIL).toArray:=by
  apply Array.toList_inj.1
  simp only [Array.toList_append,show NIL.cells=#[NIL] from rfl,Qbt,List.nil_append,List.replicate_append_replicate];rw [show n+1+(grownCap w (n+1) n 22 - (n+1))=grownCap w (n+1) n 22 by omega]
 rw [e];exact heap_alloc_new _ _
theorem Qga (W:World) (G off L cap:Nat) (src:Addr) (cs Z:List Value) (k m:Nat) (hk:cs.length=k) (hN:Blk W G 22 Z) (hs:∀j v,cs[j]? = some v→W.cell? (src.add j)=some v) (h1:∀v∈cs,v.oneCell'=true) (hl:k≤L) (hf:off+k≤Z.length) :
  ∃w3,(Builtin.copy_ #[43,43] 3 #[.slice (some ⟨G,off,none⟩) L cap,.slice (some src) k m]).run prog W=.ok (.int .i64 (k:Int)) w3∧Blk w3 G 22 (Z.take off++cs++Z.drop (off+k))∧w3.heap.size=W.heap.size∧Only (fun k=>k=G) W w3:=by
 subst hk;have hrun:=run_copy_row (P:=prog) W 43 43 3 22 G off L cap src cs.length m Z.toArray 22 cs underlying43 Tryz.one22 hN (Nat.min_eq_left hl).symm hs (by simpa using hf) h1;exact ⟨_,hrun,setRow_heap W G _ _ _ _ hN,by simp [World.setRow],(Only.refl (fun k=>k=G) W).setRow (fun _=>rfl) _⟩
theorem QjY (N X n lo:Nat) (x:Value) (vs:List Value) (w:World) (hn:n≤1000000) (own:w.ownsRow lo 22 1 (.slice (some ⟨N,0,none⟩) n n) n vs) (v1:∀v∈vs,v.oneCell'=true) (hX:w.cell? ⟨X,0,none⟩=some x) (x1:x.oneCell'=true) (hlo:lo≤w.heap.size) :
  Calls prog 23 #[.slice (some ⟨N,0,none⟩) n n,.int .i64 0,.slice (some ⟨X,0,none⟩) 1 1] w fun e w'=>∃B C,e=.returned (.slice (some ⟨B,0,none⟩) (n+1) C)∧w'.ownsRow lo 22 1 (.slice (some ⟨B,0,none⟩) (n+1) C) (n+1) (x :: vs)∧Only (fun k=>k=N) w w':=by
 have hl:vs.length=n:=by have:=own.1;omega
 have hxs:∀(W:World),W.cell? ⟨X,0,none⟩=some x→∀j v,([x]:List Value)[j]? = some v→W.cell? ((⟨X,0,none⟩:Addr).add j)=some v:=by
  intro W h j v hj
  match j,hj with
  | 0,hj=>simp at hj;subst hj;exact h
 by_cases h0:n=0
 ·subst h0
  have hvs:vs=[]:=List.eq_nil_of_length_eq_zero hl;subst hvs;obtain ⟨i0,hi,hz0,hz1,hz2⟩:=info_parts Tryz.infoRows;have OW:=Qaa own;have HV:Hid (VS w (.slice (some ⟨X,0,none⟩) 1 1) [x]):=⟨_,1,rfl,NoCap.some _ _ _,fun y hy=>by simp at hy;subst hy;exact x1,(fun h=>by cases h),(fun ad e=>by cases e;exact hxs w hX)⟩;clear own hxs hX;go_enter func23,ntmps23;go_wp2_with (at_builtin;refine Qbl _ rfl _ _ 43 rfl lo 22 i0 NIL 24 underlying43 hi hz0 hz1 hz2 rfl _ 0 [] rfl OW.out _ [x] rfl HV.out (by unfold maxLen;simp) (by simp) hlo ?_);intro v' w' own' g'
  obtain ⟨B,C,e⟩:∃B C,v'=.slice (some ⟨B,0,none⟩) 1 C:=by
   rcases own'.2 with ⟨_,h⟩ | ⟨g,c,cur,e,_⟩
   ·simp at h
   ·exact ⟨g,c,e⟩
  subst e;have F:=Qaa (And.intro own' ((Only.refl (fun k=>k=N) w).grown g' (fun k _ e=>by simp [Value.ownBlock] at e;omega)));clear own' g';go_wp2;go_ret;exact ⟨_,_,rfl,F.out⟩
 ·obtain ⟨C,wm,hge,hcm,hapd,hbk,hsz,om⟩:=Qn4 w N n (by omega)
  obtain ⟨G,hG⟩:∃G,G=w.heap.size:=⟨_,rfl⟩;rw [←hG] at hapd hbk;obtain ⟨w3,hc1,hb3,hs3,o3⟩:=Qga wm G 0 (n+1) C ⟨X,0,none⟩ [x] (List.replicate C NIL) 1 1 rfl hbk (hxs wm (QaY hX om)) (fun y hy=>by simp at hy;subst hy;exact x1) (by omega) (by simp;omega);have hNb:N<w.heap.size:=Qfs own
  have hsrc:∀(W:World),Only (fun k=>k=G) wm W→∀j v,vs[j]? = some v→W.cell? ((⟨N,0,none⟩:Addr).add j)=some v:=by
   intro W o j v hj;have hjl:j<vs.length:=(List.getElem?_eq_some_iff.1 hj).1;have ow:=(o.own (om.own own (fun _ _ f=>f)) (fun k hk e=>by simp [Value.ownBlock] at hk;omega));have:=ow.cellAt j (by omega);rw [hj] at this;rw [←this,show (⟨N,0,none⟩:Addr).add j=⟨N,j,none⟩ by unfold Addr.add;split <;> simp_all]
  have o3d:Only (fun k=>k=G) wm w3.drew:=o3.drew;obtain ⟨w4,hc2,hb4,hs4,o4⟩:=Qga w3.drew G 1 n (C - 1) ⟨N,0,none⟩ vs ((List.replicate C NIL).take 0++[x]++(List.replicate C NIL).drop (0+1)) n n hl hb3 (hsrc _ o3d) v1 (Nat.le_refl _) (by simp;omega)
  have hZ:(((List.replicate C NIL).take 0++[x]++(List.replicate C NIL).drop (0+1)).take 1++vs++((List.replicate C NIL).take 0++[x]++(List.replicate C NIL).drop (0+1)).drop (1+n))=x :: vs++List.replicate (C - 1 - n) NIL:=by
   have e:(List.replicate C NIL).take 0++[x]++(List.replicate C NIL).drop (0+1)=x :: List.replicate (C - 1) NIL:=by simp [List.drop_replicate]
   rw [e,Nat.add_comm 1 n,List.drop_succ_cons,List.drop_replicate];rfl
  rw [hZ] at hb4
  have F:Hid (w4.ownsRow lo 22 1 (.slice (some ⟨G,0,none⟩) (n+1) C) (n+1) (x :: vs)∧Only (fun k=>k=N) w w4):=by
   refine ⟨⟨by simp [hl],.inr ⟨G,C,_,rfl,by omega,hb4,hge,hcm,?_,?_⟩⟩,?_⟩
   ·simp [hl];omega
   ·rw [List.take_append_of_le_length (by simp [hl])]
    exact List.take_of_length_le (by simp [hl])
   ·exact (om.trans (o3.drew.trans o4 (fun _ _ e=>e)) (fun i hi e=>by omega)).mono (fun _ _ f=>f.elim)
  have e1:((n+1:Nat):Int)=(n:Int)+1:=by omega
  rw [e1] at hapd
  have d0:((0:Int) == (n:Int))=false:=by rw [beq_eq_false_iff_ne];omega
  have d1:decide ((n:Int)<(n:Int)+1)=true:=Yaj (by omega);clear hxs own v1 hX x1 hlo hl hbk hsz om hb3 hs3 o3 hsrc o3d hb4 hs4 o4 hZ hG e1;go_enter func23,ntmps23;go_wp2_with (at_builtin;refine Lib.wpList_append_run _ rfl _ _ _ _ rfl _ _ rfl rfl _ _ hapd ?_)
  have d2:¬C=1:=by omega
  have d3:¬1=C:=by omega
  go_wp2;go_region;go_wp2;go_ret;exact ⟨_,_,rfl,F.out⟩
theorem Qbi {P:Program} {fn:Func} {a b c:Tmp} {ty:TypeId} (h:fn.results=#[.tmp a,.cell b ty,.tmp c]) (tmps:Array Value) (w:World) {ad:Addr} {v1 v2 v3:Value}
  (h1:tmps.getD a undef=v1) (h2:tmps.getD b undef=.pointer (some ad)) (h3:tmps.getD c undef=v3) (hl:(loadVar ty ad).run P w=.ok v2 w) :
  (results fn tmps).run P w=.ok (.tuple #[v1,v2,v3]) w:=by
 have h1':tmps[a]?.getD undef=v1:=by simpa using h1
 have h2':tmps[b]?.getD undef=.pointer (some ad):=by simpa using h2
 have h3':tmps[c]?.getD undef=v3:=by simpa using h3
 simp [results,h,h1',h2',h3',asAddr,hl]
theorem put2 {W:World} {B:Nat} {x0 x1:Value} {E:TypeId} (h:W.heap[B]? = some (.cells #[x0,x1] E (0,0))) (y0 y1:Value) :
  ((W.setCell ⟨B,0,none⟩ y0).setCell ⟨B,1,none⟩ y1).heap[B]? = some (.cells #[y0,y1] E (0,0))∧Only (fun k=>k=B) W ((W.setCell ⟨B,0,none⟩ y0).setCell ⟨B,1,none⟩ y1):=by
 have g1:=heap_setCell_same W B 0 _ _ y0 h;have g2:=heap_setCell_same _ B 1 _ _ y1 g1;exact ⟨by simpa using g2,((Only.refl (fun k=>k=B) W).setCell (p:=⟨B,0,none⟩) (fun _=>rfl) _).setCell (p:=⟨B,1,none⟩) (fun _=>rfl) _⟩
theorem Qn5 (L:List (List Int)):cat (fun i=>L.getD i []) L.length=L.flatten:=by
 unfold cat;rw [List.flatMap_def]
 congr 1
 refine List.ext_getElem (by simp) (fun i h1 h2=>?_);simp [List.getD_eq_getElem?_getD,List.getElem?_eq_getElem h2]
theorem Qhz {w w':World} {N lo n:Nat} {v:Value} {xs:List Value} (o:Only (fun k=>k=N) w w') {cs:Array Value} (hN:w.heap[N]? = some (.cells cs 22)) (h:w.ownsRow lo 5 1 v n xs):w'.ownsRow lo 5 1 v n xs :=
 o.own h (fun k hk e=>by
  subst e
  rcases h.2 with ⟨rfl,_⟩ | ⟨g,cap,cur,rfl,_,hg,_⟩
  ·cases hk
  ·cases hk;rw [hN] at hg;cases hg)
theorem LO.off {w w':World} {N:Nat} {vs:List Value} {ls:List (List Int)} (h:LO w vs ls) (o:Only (fun k=>k=N) w w') {cs:Array Value} (hN:w.heap[N]? = some (.cells cs 22)):LO w' vs ls :=
 ⟨h.1,fun j u hu=>by obtain ⟨lo,h1⟩:=h.2 j u hu;exact ⟨lo,Qhz o hN h1⟩⟩
theorem Qe3 {m:MAN} (h:MGD m) (h1:m.es.length≤100):(MENC m).length≤10000:=by
 obtain ⟨g1,g2,g3,g4,g5⟩:=h;have hT0:=QeC m
 have hTl:(MTN m).length≤1048576:=by omega
 have q1:=Qjp (MTN m) _ (Nat.le_refl _) hTl (fun x hx=>by
  obtain ⟨e,he',rfl⟩:=List.mem_map.1 ((QbB _ _).1 hx)
  exact (g5 e he').1.1)
 have q2:=Qjq (MTN m) m.es _ (Nat.le_refl _) g4 (fun e he'=>QeB he') hTl;rw [Qif] at q1;rw [Qih] at q2;unfold MENC;simp only [Yae,Qag,g2.1,g3.1,MHD,Yah,List.length_nil] at q1 q2 ⊢;omega
theorem QiL (L:List (List Int)) (k:Nat) (h:∀x∈L,x.length≤k):L.flatten.length≤L.length*k:=by
 induction L with
 | nil=>simp
 | cons a L ih =>
  have h1:=h a (by simp);have h2:=ih (fun x hx=>h x (by simp [hx]));rw [List.flatten_cons,Yae,Yah,Nat.succ_mul];omega
theorem Qqx {m:List Int} {v:Nat} {l:List CHK} {k:Nat}:∀x∈SAt m v l k,x.length≤4194320:=fun x hx=>by
 obtain ⟨i,_,rfl⟩:=List.mem_map.1 hx;exact Qqs
theorem CG_at {l:List CHK} (h:∀c∈l,CG c) (j:Nat):CG (l.getD j NCH):=by
 by_cases hj:j<l.length
 ·rw [Yad,Yaf hj];exact h _ (List.getElem_mem hj)
 ·rw [Yad,List.getElem?_eq_none (by omega)]
  exact ⟨fun y hy=>(by cases hy),⟨fun y hy=>(by cases hy),fun y hy=>(by cases hy)⟩⟩
theorem Qk5 {m:List Int} {v:Nat} {l:List CHK} (h:∀c∈l,CG c) (k:Nat):R8 (SAt m v l k):=fun x hx=>by
 obtain ⟨i,_,rfl⟩:=List.mem_map.1 hx;exact ⟨Qtp (CG_at h i),by have:=Qqs (k:=TKY m (l.getD i NCH)) (v:=v) (i:=i) (c:=l.getD i NCH);omega⟩
theorem QjZ {w:World} {lo n B C:Nat} {x:Value} {vs:List Value} {b0:List Int} {ls:List (List Int)} (own:w.ownsRow lo 22 1 (.slice (some ⟨B,0,none⟩) (n+1) C) (n+1) (x :: vs)) (hn:n≤900) (hx:∃lo,w.ownsRow lo 5 1 x b0.length (bl b0)) (hl:LO w vs ls) (h0:0<b0.length) (h1:b0.length≤1000000000) (h2:∀y∈ls,y.length≤4194320) :
  Calls prog 25 #[.slice (some ⟨B,0,none⟩) (n+1) C] w fun e w'=>∃u,e=.returned u∧w'.ownsRow w.heap.size 5 1 u (b0++ls.flatten).length (bl (b0++ls.flatten))∧Only (fun _=>False) w w':=by
 have hvl:vs.length=n:=by have:=own.1;simp at this;omega
 have hll:ls.length=n:=by rw [←hl.1];exact hvl
 have hat:∀i,i<n+1→∃lo,w.ownsRow lo 5 1 ((x :: vs).getD i NIL) ((b0 :: ls).getD i []).length (bl ((b0 :: ls).getD i [])):=by
  intro i hi
  cases i with
  | zero=>simpa using hx
  | succ j =>
   have hj:j<vs.length:=by omega
   have:=hl.2 j vs[j] (Yaf hj)
   simpa [List.getD_eq_getElem?_getD,List.getElem?_eq_getElem hj] using this
 have hcat:cat (fun i=>(b0 :: ls).getD i []) (n+1)=b0++ls.flatten:=by
  have:=Qn5 (b0 :: ls);rw [Yah,hll,List.flatten_cons] at this;exact this
 have hf:=QiL ls 4194320 h2
 have:=Qgn B (n+1) C (fun i=>(x :: vs).getD i NIL) (fun i=>(b0 :: ls).getD i []) w (by omega) (by omega)
  (fun i hi=>by
   rw [World.ownsRow.cellAt own i (by omega),Yaf (by simp;omega)]
   simp [List.getD_eq_getElem?_getD,List.getElem?_eq_getElem (show i<(x :: vs).length by simp;omega)])
  (fun i hi=>by obtain ⟨lo,h⟩:=hat i hi;exact Bs.of_own h)
  (fun i hi=>by obtain ⟨lo,h⟩:=hat i hi;exact NoCap.of_own h)
  (by rw [hcat,Yae];omega) (by rw [hcat,Yae];rw [hll] at hf;omega)
 rw [hcat] at this;exact this
end Go.Proofs.YtnhapmboienipaaGreatDoor
