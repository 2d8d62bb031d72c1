import Derived.Test.YtiochaeeoelmjaaGreatDoorG32
import Derived.Test.YtiochaeeoelmjaaGreatDoorG10
import Derived.Test.YtiochaeeoelmjaaGreatDoorG9
import Derived.Deep.RegionHeld3
import Derived.Test.YtiochaeeoelmjaaGreatDoorG19
import Derived.Laws.CopyOwn
import Derived.Test.YtiochaeeoelmjaaGreatDoorG16
import Derived.Test.YtiochaeeoelmjaaGreatDoorG14
import Derived.Test.YtiochaeeoelmjaaGreatDoorG15
namespace Go.Proofs.YtiochaeeoelmjaaGreatDoor
set_option maxHeartbeats 4000000
set_option maxRecDepth 100000
open Go.RowKit _root_.Go.Proofs.Tryz
variable {w w' W:World} {v:Value} {ys xs l:LI} {R n p k g B:Nat} {P:Program} {ls:List (LI)} {E:TypeId}
abbrev NIL:Value:=.slice none 0 0
theorem RZ (w:World) (n:Nat) (hn:n<=1000000000):∃wm,(Instr.makeSlice 62 (.int .i64 (n:Int)) (.int .i64 (n:Int))).run prog w=.ok (.slice (some ⟨w.heap.size,0,none⟩) n n) wm∧wm.ownsRow w.heap.size 23 1 (.slice (some ⟨w.heap.size,0,none⟩) n n) n (List.replicate n NIL)∧N0 w wm:=by
 obtain⟨i0,hi,hz0,hz1,hz2⟩:=info_parts Tryz.infoRows;obtain⟨wm,hmk,h0,hgr⟩:=run_make_full (P:=prog) w w.heap.size 62 23 i0 (.slice none 0 0) 1 underlying62 hi hz0 hz1 .i64 .i64 n (by rw[hz2];omega) (by unfold maxLen;omega) (Nat.le_refl _);refine⟨wm,hmk,?_,(Only.refl _ _).grown hgr (λk _ e=>by cases e)⟩;rw[Nat.mul_one,show (Value.slice none 0 0).cells=#[Value.slice none 0 0] from rfl,toList_madeCells_one] at h0;exact h0
theorem LO.set {vs:List Value} (h:LO w vs ls) {base g n cap k:Nat} {xs:List Value} (hv:w.ownsRow base 23 1 (.slice (some ⟨g,0,none⟩) n cap) n xs) (u:Value):LO (w.setCell ⟨g,k,none⟩ u) vs ls :=
 h.grown hv (hv.stored k u).2
structure LD (w:World) (N n k:Nat) (ls:Nat->LI):Prop where
 ex:∃vs:List Value,LO w vs ((List.range k).map ls)∧w.ownsRow N 23 1 (.slice (some ⟨N,0,none⟩) n n) n (vs++List.replicate (n - k) NIL)
theorem LD.past {N n k:Nat} {ls:Nat->LI} (h:LD w N n k ls) (o:N0 w w'):LD w' N n k ls:=by
 obtain⟨vs,h1,h2⟩:=h.ex;exact⟨vs,h1.past o,o.own h2 (λ_ _ f=>f)⟩
theorem LD.cell {N n k:Nat} {ls:Nat->LI} (h:LD w N n k ls) (hk:k<n):w.cell? ⟨N,k,none⟩=some NIL∧w.frozen? ⟨N,k,none⟩=false:=by
 obtain⟨vs,h1,h2⟩:=h.ex
 have hl:vs.length=k:=by rw[h1.1];simp
 refine⟨?_,h2.frozenAt _⟩;rw[h2.cellAt k (by omega),List.getElem?_append_right (by omega),List.getElem?_replicate,if_pos (by omega)]
theorem LD.store {N n k lo:Nat} {ls:Nat->LI} {u:Value} (h:LD w N n k ls) (hk:k<n) (hu:w.ownsRow lo 5 1 u (ls k).length (bl (ls k))):LD (w.setCell ⟨N,k,none⟩ u) N n (k+1) ls:=by
 obtain⟨vs,h1,h2⟩:=h.ex
 have hl:vs.length=k:=by rw[h1.1];simp
 refine⟨vs++[u],?_,?_⟩
 ·have:=(h1.app (LO.one hu)).set (k:=k) h2 u
  rw[List.range_succ,List.map_append];exact this
 ·have:=(h2.stored k u).1
  obtain⟨m,hm⟩:∃m,n - k=m+1:=⟨n - k - 1,by omega⟩;rw[hm,List.replicate_succ,List.set_append_right _ _ (by omega),hl,Nat.sub_self,Qk] at this;rw[show n - (k+1)=m by omega,List.append_assoc];exact this
theorem LD.all {N n:Nat} {ls:Nat->LI} (h:LD w N n n ls):RL w (.slice (some ⟨N,0,none⟩) n n) ((List.range n).map ls):=by
 obtain⟨vs,h1,h2⟩:=h.ex
 have hl:vs.length=n:=by rw[h1.1];simp
 rw[Nat.sub_self,List.replicate_zero,List.append_nil] at h2;exact (h1.rl (lo:=N) (by rw[hl];exact h2)).1
theorem LD.nought {N n:Nat} {ls:Nat->LI} (h:w.ownsRow N 23 1 (.slice (some ⟨N,0,none⟩) n n) n (List.replicate n NIL)):LD w N n 0 ls:=⟨[],LO.nil w,by simpa using h⟩
theorem IH (l:List (LI)) (f:LI->LI):(List.range l.length).map (λi=>f (l.getD i []))=l.map f:=by
 refine List.ext_getElem (by simp) (λi h1 h2=>?_)
 have h:i<l.length:=by simpa using h2
 simp[List.getD_eq_getElem?_getD,List.getElem?_eq_getElem h]
theorem Rp (v:Value) (ls:List (LI)) (w:World) (h:RL w v ls) (h8:R8 ls) (hl:ls.length<=1000000000) :
 Calls prog 23 #[v] w λe w'=>∃u,e=.returned u∧w'.ownsRow w.heap.size 5 1 u 32 (bl (QT ls))∧N0 w w':=by
 obtain⟨wm,h3,h1,om⟩:=RZ w ls.length hl;obtain⟨ao,cap,rfl,h6⟩:=h.len;have H:=Qa h;have H8:=Qa h8;have RT:=Qa (λ(W:World) (u:Value) (r:RL W u (ls.map LEAF))=>SK (ls.map LEAF) u W (by rw[List.length_map];exact hl) (JW ls) r);have eR:Ym (ls.map LEAF)=QT ls:=rfl;have eL:=UQ ls;simp only[eR,eL] at RT;obtain⟨N,hN⟩:=EX w.heap.size;rw[<-hN] at h3 h1 ⊢;have L0:Hid (LD wm N ls.length 0 (λi=>LEAF (ls.getD i []))∧N0 w wm):=⟨LD.nought h1,om⟩;have MA:=Qa (IH ls LEAF);obtain⟨n,hn⟩:=EX ls.length;rw[<-hn] at h3 L0 MA h6 ⊢
 have hnb:n<=1000000000:=by omega
 have h2:=Qa (And.intro hN hn);clear h h8 hl h1 om eR eL hN hn;go_enter func23,ntmps23;go_wp2
 go_loopw [11] (λi wr=>∃k:Nat,k<=n∧i=.int .i64 k∧Hid (LD wr N n k (λi=>LEAF (ls.getD i []))∧N0 w wr)) (λi _=>n - (intOf i).toNat)
 case atStart=>exact⟨0,Nat.zero_le _,rfl,L0⟩
 case round =>
  obtain⟨k,hk,rfl,hS⟩:=hrel;clear L0 h3
  by_cases hlt:k<n
  ·have dlt:decide ((k:Int)<(n:Int))=true:=Qf (by omega)
   have dlt':decide (k<n)=true:=Qf hlt;obtain⟨b,off,h5,ea,_⟩:=(H.o.past hS.o.2).form (show ls.length=n from h2.o.2.symm) (by omega)
   obtain⟨rfl,_,rfl⟩:ao=some ⟨b,off,none⟩∧n=n∧cap=h5:=by have:=h2.o.2;rw[<-this] at ea;simpa using ea
   have h7:RL wr (.slice (some ⟨b,off,none⟩) n cap) ls:=by have:=H.o.past hS.o.2;rw[<-h2.o.2] at this;exact this
   obtain⟨u,hu,h9,hnu⟩:=h7.at k (by rw[<-h2.o.2];exact hlt);have A:=Qa (Fw u (ls.getD k []) wr h9 (H8.o.at k).1 (by have:=(H8.o.at k).2;omega))
   have i0:(0:Int)<=(k:Int):=by omega
   have i1:(k:Int)<(n:Int):=by omega
   clear h7 h9 hnu ea;go_wp2_with fail;refine A.o.mono ?_;rintro e w4 ⟨v4,rfl,h0,o4⟩;have h4:=hS.o.1.past o4;obtain⟨hc,hf⟩:=h4.cell hlt
   have F:Hid (LD (w4.setCell ⟨N,k,none⟩ v4) N n (k+1) (λi=>LEAF (ls.getD i []))∧N0 w (w4.setCell ⟨N,k,none⟩ v4)) :=
    ⟨h4.store hlt (lo:=wr.heap.size) (by rw[XD];exact h0),(hS.o.2.same o4).setCell (λhb=>by have:=h2.o.1;simp only at hb;omega) _⟩
   obtain⟨a4,c4,rfl⟩:=QB h0;clear h0 o4 A hS h4 hu;go_wp2
   go_roundw
   case rel=>exact⟨k+1,by omega,by go_num,F⟩
   case measure=>simp[intOf];omega
  ·obtain rfl:k=n:=by omega
   have dlt:decide ((k:Int)<(k:Int))=false:=Qj (by omega);have A:=Qa (RT.o wr (.slice (some ⟨N,0,none⟩) k k) (by have:=hS.o.1.all;rw[MA.o] at this;exact this));have O:=Qa hS.o.2;clear hS;go_wp2_with fail;refine A.o.mono ?_;rintro e w4 ⟨v4,rfl,h0,o4⟩;have F:=Qa (And.intro (Qv h0 (show N<=wr.heap.size from by have:=h2.o.1;have:=O.o.size;omega)) (O.o.same o4));obtain⟨a4,c4,rfl⟩:=QB h0;clear h0 o4 A O;go_wp2;go_ret;exact⟨_,rfl,F.o⟩
def Chs (w:World) (v:Value) (l:List Qi):Prop :=
 ∃ao cap,v=.slice ao l.length cap∧l.length<=cap∧(l≠[]->∃b off,ao=some ⟨b,off,none⟩∧∀j,j<l.length->∃u,
  w.cell? ⟨b,off+j*2,none⟩=some (.string (strOfNums (l.getD j Qg).1))∧w.cell? ⟨b,off+j*2+1,none⟩=some u∧Sps w u (l.getD j Qg).2)
theorem Chs.past {l:List Qi} (h:Chs w v l) (o:N0 w w'):Chs w' v l:=by
 obtain⟨ao,cap,rfl,hc,hr⟩:=h;refine⟨ao,cap,rfl,hc,λhx=>?_⟩;obtain⟨b,off,rfl,h0⟩:=hr hx;refine⟨b,off,rfl,λj hj=>?_⟩;obtain⟨u,h1,h2,h3⟩:=h0 j hj;exact⟨u,Uw h1 o,Uw h2 o,h3.past o⟩
theorem Chs.len {l:List Qi} (h:Chs w v l):∃ao cap,v=.slice ao l.length cap∧l.length<=cap:=by
 obtain⟨ao,cap,e,h,_⟩:=h;exact⟨ao,cap,e,h⟩
theorem Chs.at {ao:Option Addr} {n cap:Nat} {l:List Qi} (h:Chs w (.slice ao n cap) l) (j:Nat) (hj:j<l.length):∃b off u,ao=some ⟨b,off,none⟩ ∧
 w.cell? ⟨b,off+j*2,none⟩=some (.string (strOfNums (l.getD j Qg).1))∧w.cell? ⟨b,off+j*2+1,none⟩=some u∧Sps w u (l.getD j Qg).2:=by
 obtain⟨ao',cap',e,hc,hr⟩:=h
 cases e
 obtain⟨b,off,rfl,h0⟩:=hr (λe=>by rw[e] at hj;simp at hj);obtain⟨u,h1,h2,h3⟩:=h0 j hj;exact⟨b,off,u,rfl,h1,h2,h3⟩
def CL (l:List Qi):Prop:=∀c∈l,CG c∧c.1.length<=maxLen∧c.2.length<=maxLen
theorem CL.at {l:List Qi} (h:CL l) {j:Nat} (hj:j<l.length):CG (l.getD j Qg)∧(l.getD j Qg).1.length<=maxLen∧(l.getD j Qg).2.length<=maxLen:=by
 rw[Qc,Qe hj];exact h _ (List.getElem_mem hj)
theorem L5 (s:List (LI × Int)):∀(j:Nat) (a:LI) (b:Int),j<s.length->((Ys s).set (j*2) (.string (strOfNums a))).set (j*2+1) (.int .i64 b)=Ys (s.set j (a,b)):=by
 induction s with
 | nil=>intro j a b h;simp at h
 | cons p s ih =>
  intro j a b h
  cases j with
  | zero=>simp[WZ]
  | succ j =>
   have:=ih j a b (by simpa using h);rw[WZ,Qm,WZ,<-this,show (j+1)*2=j*2+1+1 by omega];simp only[Qm]
theorem Oo (n:Nat):Ys (List.replicate n ([],0))=(madeCells #[Value.string ⟨#[]⟩,Value.int .i64 0] (n*2)).toList:=by
 unfold madeCells
 apply List.ext_getElem?
 intro i;have hl:=Dq (List.replicate n (([]:LI),(0:Int)));rw[List.length_replicate] at hl
 by_cases h:i<n*2
 ·obtain⟨h0,h1⟩:=Jq (List.replicate n (([]:LI),(0:Int))) (i / 2) (by simp;omega)
  have hg:(List.replicate n (([]:LI),(0:Int))).getD (i / 2) ([],0)=([],0):=by
   rw[Qc,List.getElem?_replicate];split <;> rfl
  rw[hg] at h0 h1;have es:strOfNums []=⟨#[]⟩:=rfl;rw[es] at h0
  rcases Nat.mod_two_eq_zero_or_one i with hm | hm
  ·rw[show i / 2*2=i by omega] at h0
   rw[h0];simp[h,hm]
  ·rw[show i / 2*2+1=i by omega] at h1
   rw[h1];simp[h,hm]
 ·rw[List.getElem?_eq_none (by omega),List.getElem?_eq_none (by simp;omega)]
def ED (w:World) (N n k:Nat) (es:Nat->LI × Int):Prop:=w.ownsRow N 93 2 (.slice (some ⟨N,0,none⟩) n n) n (Ys ((List.range k).map es++List.replicate (n - k) ([],0)))
theorem Lv (w:World) (n:Nat) (hn:n<=1000000000) (es:Nat->LI × Int):∃wm,(Instr.makeSlice 63 (.int .i64 (n:Int)) (.int .i64 (n:Int))).run prog w=.ok (.slice (some ⟨w.heap.size,0,none⟩) n n) wm∧ED wm w.heap.size n 0 es∧N0 w wm:=by
 obtain⟨i0,hi,hz0,hz1,hz2⟩:=info_parts Tryz.infoEn;obtain⟨wm,hmk,h0,hgr⟩:=run_make_full (P:=prog) w w.heap.size 63 93 i0 (.agg #[.string ⟨#[]⟩,.int .i64 0]) 2 underlying63 hi hz0 hz1 .i64 .i64 n (by rw[hz2];omega) (by unfold maxLen;omega) (Nat.le_refl _);refine⟨wm,hmk,?_,(Only.refl _ _).grown hgr (λk _ e=>by cases e)⟩;unfold ED;rw[List.range_zero,List.map_nil,List.nil_append,Nat.sub_zero,Oo];exact h0
theorem ED.past {N n k:Nat} {es:Nat->LI × Int} (h:ED w N n k es) (o:N0 w w'):ED w' N n k es:=o.own h (λ_ _ f=>f)
theorem ED.cell {N n k:Nat} {es:Nat->LI × Int} (h:ED w N n k es) (hk:k<n):w.cell? ⟨N,k*2,none⟩=some (.string ⟨#[]⟩)∧w.cell? ⟨N,k*2+1,none⟩=some (.int .i64 0)∧w.frozen? ⟨N,k*2,none⟩=false∧w.frozen? ⟨N,k*2+1,none⟩=false:=by
 have ha:=Jq ((List.range k).map es++List.replicate (n - k) ([],0)) k (by simp;omega)
 have hg:((List.range k).map es++List.replicate (n - k) ([],0)).getD k ([],0)=([],0):=by
  rw[Qc,List.getElem?_append_right (by simp),List.getElem?_replicate];split <;> rfl
 rw[hg] at ha;refine⟨?_,?_,h.frozenAt _,h.frozenAt _⟩
 ·rw[World.ownsRow.cellAt h (k*2) (by omega),ha.1];rfl
 ·rw[World.ownsRow.cellAt h (k*2+1) (by omega),ha.2]
theorem ED.store {N n k:Nat} {es:Nat->LI × Int} (h:ED w N n k es) (hk:k<n):ED ((w.setCell ⟨N,k*2,none⟩ (.string (strOfNums (es k).1))).setCell ⟨N,k*2+1,none⟩ (.int .i64 (es k).2)) N n (k+1) es:=by
 have h1:=(World.ownsRow.stored h (k*2) (.string (strOfNums (es k).1))).1;have h2:=(h1.stored (k*2+1) (.int .i64 (es k).2)).1;rw[L5 _ _ _ _ (by simp;omega)] at h2;unfold ED;obtain⟨m,hm⟩:∃m,n - k=m+1:=⟨n - k - 1,by omega⟩;rw[hm,List.replicate_succ,List.set_append_right _ _ (by simp)] at h2;rw[show n - (k+1)=m by omega,List.range_succ,List.map_append,List.append_assoc]
 simpa using h2
theorem ED.other {N n k:Nat} {es:Nat->LI × Int} (h:ED w N n k es) {a:Addr} (ha:a.block≠N) (u:Value):ED (w.setCell a u) N n k es :=
 ownsRow_setCell_other h (by simp only[Value.ownBlock];exact λe=>ha (by cases e;rfl)) u
theorem LD.other {N n k:Nat} {ls:Nat->LI} {t:TypeId} {cs:Array Value} {f:Nat × Nat} (h:LD w N n k ls) (hB:w.heap[B]? = some (.cells cs t f)) (ht:t≠5) (hN:B≠N) (j:Nat) (u:Value):LD (w.setCell ⟨B,j,none⟩ u) N n k ls:=by
 obtain⟨vs,h1,h2⟩:=h.ex;refine⟨vs,⟨h1.1,λi x hx=>?_⟩,ownsRow_setCell_other h2 (by simp only[Value.ownBlock];exact λe=>hN (by cases e;rfl)) u⟩;obtain⟨lo,h3⟩:=h1.2 i x hx;refine⟨lo,ownsRow_setCell_other h3 (λe=>?_) u⟩
 rcases h3.2 with ⟨rfl,_⟩ | ⟨g,cap,cur,rfl,_,hg,_⟩
 ·cases e
 ·cases e
  rw[hB] at hg
  cases hg
  exact ht rfl
theorem ED.block {N n k:Nat} {es:Nat->LI × Int} (h:ED w N n k es):∃cs,w.heap[N]? = some (.cells cs 93):=by
 rcases h.2 with ⟨e,_⟩ | ⟨g,cap,cur,e,_,hg,_⟩
 ·cases e
 ·cases e;exact⟨_,hg⟩
abbrev slf (m:LI) (v:Nat) (l:List Qi) (k:Nat):LI:=QR (Qt m (l.getD k Qg)) v k (l.getD k Qg)
abbrev enf (m:LI) (l:List Qi) (k:Nat):LI × Int:=((l.getD k Qg).1,QU (Qt m (l.getD k Qg)) k (l.getD k Qg))
def Sv (w w':World) (m:LI) (v:Nat) (l:List Qi) (a b:Value):Prop :=
 QS m 0 l=0->∃N1 N2,a=.slice (some ⟨N1,0,none⟩) l.length l.length∧b=.slice (some ⟨N2,0,none⟩) l.length l.length∧w.heap.size<=N1∧w.heap.size<=N2∧LD w' N1 l.length l.length (slf m v l)∧ED w' N2 l.length l.length (enf m l)
theorem Vv {lo g n c size:Nat} {xs:List Value} (h:w.ownsRow lo E size (.slice (some ⟨g,0,none⟩) n c) n xs):g<w.heap.size:=by
 rcases h.2 with ⟨e,_⟩ | ⟨g',c',cur,e,_,hg,_⟩
 ·cases e
 ·cases e;exact (Array.getElem?_eq_some_iff.1 hg).1
theorem LD.lt {N n k:Nat} {ls:Nat->LI} (h:LD w N n k ls):N<w.heap.size:=by
 obtain⟨vs,_,h2⟩:=h.ex;exact Vv h2
theorem ED.lt {N n k:Nat} {es:Nat->LI × Int} (h:ED w N n k es):N<w.heap.size:=Vv h
theorem IU {N1 N2 n k lo:Nat} {ls:Nat->LI} {es:Nat->LI × Int} (h1:LD w N1 n k ls) (h2:ED w N2 n k es) (hne:N1≠N2) (hk:k<n) {x:Value} (hx:w.ownsRow lo 5 1 x (ls k).length (bl (ls k))) {t:ByteArray} (ht:t=strOfNums (es k).1) {b:Int} (hb:b=(es k).2) :
 LD (((w.setCell ⟨N1,k,none⟩ x).setCell ⟨N2,k*2,none⟩ (.string t)).setCell ⟨N2,k*2+1,none⟩ (.int .i64 b)).drew N1 n (k+1) ls∧ED (((w.setCell ⟨N1,k,none⟩ x).setCell ⟨N2,k*2,none⟩ (.string t)).setCell ⟨N2,k*2+1,none⟩ (.int .i64 b)).drew N2 n (k+1) es:=by
 subst ht hb;have e1:ED (w.setCell ⟨N1,k,none⟩ x) N2 n k es:=h2.other hne x;have l1:=h1.store hk hx;obtain⟨cs,hb⟩:=e1.block;have hb2:=heap_setCell_same _ N2 (k*2) _ _ (.string (strOfNums (es k).1)) hb;exact⟨((l1.other hb (by decide) (λe=>hne e.symm) (k*2) _).other hb2 (by decide) (λe=>hne e.symm) (k*2+1) _).past (Only.refl _ _).drew,(e1.store hk).past (Only.refl _ _).drew⟩
theorem OJ (vm vl:Value) (m:LI) (v:Nat) (l:List Qi) (w:World) (bm:Bs .u8 w vm m) (m8:U8 m) (hc:Chs w vl l) (hg:CL l) (hl:l.length<=1048576) (hT:Tab w) :
 Calls prog 22 #[vm,.int .u64 v,vl] w λe w'=>∃a b,e=.returned (.tuple #[a,b,.int .i64 (QS m 0 l)])∧Sv w w' m v l a b∧(QS m 0 l≠0->a=NIL∧b=NIL)∧N0 w w':=by
 obtain⟨ao,cap,rfl,k2⟩:=hc.len;obtain⟨n,hn⟩:=EX l.length;obtain⟨w1,hh,h3,k5⟩:=RZ w n (by omega);obtain⟨w2,ha,h8,k0⟩:=Lv w1 n (by omega) (enf m l);obtain⟨N1,hq⟩:=EX w.heap.size;obtain⟨N2,k4⟩:=EX w1.heap.size;rw[<-hq] at hh h3;rw[<-k4] at ha h8
 have hd:N1<N2:=by
  have:w.heap.size<w1.heap.size:=by
   rcases h3.2 with ⟨e,_⟩ | ⟨g,c,cur,e,_,hg',_⟩
   ·cases e
   ·cases e;rw[<-hq];exact (Array.getElem?_eq_some_iff.1 hg').1
  omega
 have S0:Hid (LD w2 N1 n 0 (slf m v l)∧ED w2 N2 n 0 (enf m l)∧N0 w w2∧QS m 0 l=QS m 0 (l.drop 0)):=⟨(LD.nought h3).past k0,h8,k5.same k0,rfl⟩;have HH:=Qa (And.intro bm (And.intro m8 (And.intro hg hT)));have HC:=Qa hc;have HN:=Qa (And.intro hn (And.intro hq (show w.heap.size<=N2 by omega)))
 have hnb:n<=1048576:=by omega
 have he:N1≠N2:=by omega
 have k6:N2≠N1:=by omega
 rw[<-hn] at k2;rw[<-hn] at HC;rw[<-hn];obtain⟨E,hE⟩:=EX (QS m 0 l);rw[<-hE] at S0 ⊢;have HE:=Qa hE;clear hc hg hl bm m8 hT h3 h8 k5 k0 hq k4 hn hd hE;go_enter func22,ntmps22;go_wp2
 go_loopw [25] (λi wr=>∃k:Nat,k<=n∧i=.int .i64 k∧Hid (LD wr N1 n k (slf m v l)∧ED wr N2 n k (enf m l)∧N0 w wr∧E=QS m k (l.drop k))) (λi _=>n - (intOf i).toNat)
 case atStart=>exact⟨0,Nat.zero_le _,rfl,S0⟩
 case round =>
  obtain⟨k,hk,rfl,hS⟩:=hrel;clear S0 hh ha
  by_cases hlt:k<n
  ·have dlt:decide ((k:Int)<(n:Int))=true:=Qf (by omega)
   have dlt':decide (k<n)=true:=Qf hlt
   have hp:k<l.length:=by rw[<-HN.o.1];exact hlt
   obtain⟨b,off,u,ea,h9,hz,hu⟩:=(HC.o.past hS.o.2.2.1).at k hp;subst ea;obtain⟨hr,k1,hx⟩:=HH.o.2.2.1.at hp;obtain⟨c,hf⟩:=EX (l.getD k Qg)
   have h4:E=if Yw m k c=0 then QS m (k+1) (l.drop (k+1)) else Yw m k c:=by rw[hS.o.2.2.2,Io hp,hf]
   have ho:slf m v l k=QR (Qt m c) v k c:=by rw[hf]
   have hm:enf m l k=(c.1,QU (Qt m c) k c):=by rw[hf]
   rw[<-hf] at h9 hu hr k1 hx;obtain⟨t,ht⟩:=EX (strOfNums c.1)
   have hs:sb t=c.1:=by rw[ht,sb_of hr.t8]
   have k3:t.size<=maxLen:=by rw[<-QQ,hs];exact k1
   rw[<-ht] at h9
   have hsl:∃au nu cu,u=.slice au nu cu:=by obtain⟨a,c',e,_⟩:=hu;exact⟨_,_,_,e⟩
   obtain⟨au,nu,cu,rfl⟩:=hsl
   have i0:(0:Int)<=(k:Int):=by omega
   have i1:(k:Int)<(n:Int):=by omega
   obtain⟨wb,hv⟩:=EX (wr.alloc (.cells #[.string t,.slice au nu cu] 46))
   have ob:N0 wr wb:=by rw[hv];exact (Only.refl _ _).alloc _
   have G0:=Qa (show wb.heap[wr.heap.size]? = some (.cells #[.string t,.slice au nu cu] 46 (0,0)) by rw[hv];exact heap_alloc_new _ _);obtain⟨q0,q1,_,_⟩:=Qz G0.o;have TA:=Qa (OV vm m t HH.o.2.1 wb (HH.o.1.past (hS.o.2.2.1.same ob)));rw[hs] at TA;have HB:=Qa (And.intro hv ob)
   have hB1:¬wr.heap.size=N1:=by have:=hS.o.1.lt;omega
   have hB2:¬wr.heap.size=N2:=by have:=hS.o.2.1.lt;omega
   have h7:=Qa (And.intro (hS.o.1.past ob) (And.intro (hS.o.2.1.past ob) (hS.o.2.2.1.same ob)));have HX:=Qa (And.intro (hu.past ob) (And.intro hr (And.intro hx k3)));have HQ:=Qa (And.intro ho (And.intro hm (And.intro hs ht)));clear hv ob hu hr hx k3 k1 hS hf ho hm hp hs ht
   by_cases h1:QC m c.1=0
   ·rw[h1] at TA
    have HT8:Hid (U8 (QL m 1 c.1)):=by
     show U8 _
     unfold QL;split
     ·split
      ·exact VQ _ _ _
      ·intro y hy;cases hy
     ·intro y hy;cases hy
    have SL:=Qa (λ(W:World) (x:Value) (o:N0 wb W) (h:Bs .u8 W x (Qt m c))=>yd x (Qt m c) v k t (.slice au nu cu) c.2 W h HT8.o ⟨by omega,by omega⟩ (HX.o.1.past o) HX.o.2.1.gs HX.o.2.2.1 HX.o.2.2.2 (HH.o.2.2.2.past (h7.o.2.2.same o)));simp only[show (sb t,c.2)=c from by rw[HQ.o.2.2.1]] at SL
    have eC:Yw m k c=Yg (Qt m c) k c:=by unfold Yw;rw[if_pos h1]
    rw[eC] at h4
    by_cases h2:Yg (Qt m c) k c=0
    ·rw[if_pos h2] at h4
     rw[h2] at SL;clear h1 h2 eC;go_wp2_with fail;rw[<-HB.o.1];refine TA.o.mono ?_;rintro e w3 ⟨x3,rfl,h0,o3⟩;have hj:=Qa (SL.o w3 x3 o3 (Bs.of_own h0));have G3:=Qa (o3.heap G0.o (λf=>f));obtain⟨p0,p1,_,_⟩:=Qz G3.o;have hw:=Qa (And.intro (h7.o.1.past o3) (And.intro (h7.o.2.1.past o3) (h7.o.2.2.same o3)));clear h0 o3 TA SL G0 h7 q0 q1 h9 hz HX;go_wp2_with fail;refine hj.o.mono ?_;rintro e w4 ⟨x4,rfl,h6,o4⟩;clear p0 p1;have G4:=o4.heap G3.o (λf=>f);obtain⟨p0,p1,_,_⟩:=Qz G4;obtain⟨a4,c4,rfl⟩:=QB h6;have LS:=hw.o.1.past o4;have ES:=hw.o.2.1.past o4;obtain⟨r0,r1⟩:=LS.cell hlt;obtain⟨f0,f1,f2,f3⟩:=ES.cell hlt;have F:=Qa (And.intro LS (And.intro ES (And.intro (hw.o.2.2.same o4) h6)));clear LS ES h6 o4 hj hw G3 G4
     have ck2:((k:Int)*2).toNat=k*2:=by omega
     have FF:Hid (LD (((w4.setCell ⟨N1,k,none⟩ (.slice a4 (QR (Qt m c) (v:Int) (k:Int) c).length c4)).setCell ⟨N2,k*2,none⟩ (.string t)).setCell ⟨N2,k*2+1,none⟩ (.int .i64 (QU (Qt m c) (k:Int) c))).drew N1 n (k+1) (slf m v l) ∧
      ED (((w4.setCell ⟨N1,k,none⟩ (.slice a4 (QR (Qt m c) (v:Int) (k:Int) c).length c4)).setCell ⟨N2,k*2,none⟩ (.string t)).setCell ⟨N2,k*2+1,none⟩ (.int .i64 (QU (Qt m c) (k:Int) c))).drew N2 n (k+1) (enf m l) ∧
      N0 w (((w4.setCell ⟨N1,k,none⟩ (.slice a4 (QR (Qt m c) (v:Int) (k:Int) c).length c4)).setCell ⟨N2,k*2,none⟩ (.string t)).setCell ⟨N2,k*2+1,none⟩ (.int .i64 (QU (Qt m c) (k:Int) c))).drew∧E=QS m (k+1) (l.drop (k+1))):=by
      have q:=IU (x:=.slice a4 (QR (Qt m c) (v:Int) (k:Int) c).length c4) (t:=t) (b:=QU (Qt m c) (k:Int) c) F.o.1 F.o.2.1 he hlt (lo:=w3.heap.size) (by rw[HQ.o.1];exact F.o.2.2.2) (by rw[HQ.o.2.1];exact HQ.o.2.2.2) (by rw[HQ.o.2.1]);refine⟨q.1,q.2,((((F.o.2.2.1).setCell (p:=⟨N1,k,none⟩) (λhb=>?_) _).setCell (p:=⟨N2,k*2,none⟩) (λhb=>?_) _).setCell (p:=⟨N2,k*2+1,none⟩) (λhb=>?_) _).drew,h4⟩
      ·have:=HN.o.2.1;simp only at hb;omega
      ·have:=HN.o.2.2;simp only at hb;omega
      ·have:=HN.o.2.2;simp only at hb;omega
     clear F h4;generalize QU (Qt m c) (k:Int) c=bk at *;generalize (QR (Qt m c) (v:Int) (k:Int) c).length=sl at *;go_wp2;go_region;go_wp2
     go_roundw
     case rel=>exact⟨k+1,by omega,by go_num,FF⟩
     case measure=>simp[intOf];omega
    ·rw[if_neg h2] at h4
     have hne:(Yg (Qt m c) k c != 0)=true:=by simpa using h2
     have h5:¬E=0:=by rw[h4];exact h2
     have HF:=Qa (And.intro h4 h5);clear h1 h2 eC h4 h5;generalize Yg (Qt m c) (k:Int) c=er at *;go_wp2_with fail;rw[<-HB.o.1];refine TA.o.mono ?_;rintro e w3 ⟨x3,rfl,h0,o3⟩;have hj:=Qa (SL.o w3 x3 o3 (Bs.of_own h0));have G3:=Qa (o3.heap G0.o (λf=>f));obtain⟨p0,p1,_,_⟩:=Qz G3.o;have O3:=Qa (h7.o.2.2.same o3);clear h0 o3 TA SL G0 h7 q0 q1 h9 hz HX;go_wp2_with fail;refine hj.o.mono ?_;rintro e w4 ⟨x4,rfl,h6,o4⟩;have O4:=Qa (O3.o.same o4);clear h6 o4 hj O3;go_wp2;exact bodyPost_ret (Y5 rfl _ _ _) rfl ⟨_,_,by rw[HF.o.1];rfl,λq=>absurd (HE.o.trans q) HF.o.2,λ_=>⟨rfl,rfl⟩,O4.o⟩
   ·have eC:Yw m k c=QC m c.1:=by unfold Yw;rw[if_neg h1]
    rw[eC,if_neg h1] at h4
    have hne:(QC m c.1 != 0)=true:=by simpa using h1
    have h5:¬E=0:=by rw[h4];exact h1
    have HF:=Qa (And.intro h4 h5);clear h1 eC h4 h5;generalize QC m c.1=er at *;go_wp2_with fail;rw[<-HB.o.1];refine TA.o.mono ?_;rintro e w3 ⟨x3,rfl,h0,o3⟩;have O3:=Qa (h7.o.2.2.same o3);clear h0 o3 TA G0 h7 q0 q1 h9 hz HX;go_wp2;exact bodyPost_ret (Y5 rfl _ _ _) rfl ⟨_,_,by rw[HF.o.1];rfl,λq=>absurd (HE.o.trans q) HF.o.2,λ_=>⟨rfl,rfl⟩,O3.o⟩
  ·obtain rfl:k=n:=by omega
   have dlt:decide ((k:Int)<(k:Int))=false:=Qj (by omega)
   have e0:E=0:=by rw[hS.o.2.2.2,HN.o.1,List.drop_length];rfl
   subst e0;have F:=Qa (And.intro hS.o.1 (And.intro hS.o.2.1 hS.o.2.2.1));clear hS;go_wp2;exact bodyPost_ret (Y5 rfl _ _ _) rfl ⟨_,_,rfl,λ_=>⟨N1,N2,by rw[<-HN.o.1];rfl,by rw[<-HN.o.1];rfl,by have:=HN.o.2.1;omega,HN.o.2.2,by rw[<-HN.o.1];exact F.o.1,by rw[<-HN.o.1];exact F.o.2.1⟩,λq=>absurd rfl q,F.o.2.2⟩
theorem Tryz.one22:(prog.info? 23).map (·.size)=some 1:=by kernel_rfl
theorem qe (w:World) (N n:Nat) (hn:n<=1000000000):∃C wm,n+1<=C∧C<=maxLen∧(Builtin.append_ #[62,3] 62 #[.slice (some ⟨N,0,none⟩) 0 n,.int .i64 ((n+1:Nat):Int)]).run prog w=.ok (.slice (some ⟨w.heap.size,0,none⟩) (n+1) C) wm ∧
 Blk wm w.heap.size 23 (List.replicate C NIL)∧wm.heap.size=w.heap.size+1∧N0 w wm:=by
 obtain⟨i0,hi,hz0,hz1,h0⟩:=info_parts Tryz.infoRows;have hge:=grownCap_ge w (n+1) n 23;have hcm:=grownCap_le_maxLen w (n+1) n 23 (by unfold maxLen;omega);have hr:=Lib.run_append_grow_zeros (P:=prog) w 62 3 62 23 i0 NIL .i64 .i64 underlying62 underlying3 hi hz0 (some ⟨N,0,none⟩) 0 n [] (by have:=run_loadCells_list (P:=prog) w.drew ⟨N,0,none⟩ [] (λj v h=>by simp at h);simpa [Builtin.firstCells,hz1] using this) (n+1) (by omega) (by omega) (by omega) (by omega) (by rw[h0];omega) (by rw[h0,Nat.zero_add];exact growslice_fits (by omega) (by omega));rw[Nat.zero_add] at hr;refine⟨_,_,hge,hcm,hr,?_,by simp,(Only.refl _ _).drew.alloc _⟩
 have e:(([]:List Value).toArray++Builtin.zeroCells NIL.cells (n+1)++Builtin.zeroCells NIL.cells (grownCap w (n+1) n 23 - (n+1)))=(List.replicate (grownCap w (n+1) n 23) NIL).toArray:=by
  apply Array.toList_inj.1
  simp only[Array.toList_append,show NIL.cells=#[NIL] from rfl,VH,List.nil_append,List.replicate_append_replicate];rw[show n+1+(grownCap w (n+1) n 23 - (n+1))=grownCap w (n+1) n 23 by omega]
 rw[e];exact heap_alloc_new _ _
theorem GH (W:World) (G off L cap:Nat) (src:Addr) (cs Z:List Value) (k m:Nat) (hk:cs.length=k) (hN:Blk W G 23 Z) (hs:∀j v,cs[j]? = some v->W.cell? (src.add j)=some v) (h1:∀v∈cs,v.oneCell'=true) (hl:k<=L) (hf:off+k<=Z.length) :
 ∃w3,(Builtin.copy_ #[62,62] 3 #[.slice (some ⟨G,off,none⟩) L cap,.slice (some src) k m]).run prog W=.ok (.int .i64 (k:Int)) w3∧Blk w3 G 23 (Z.take off++cs++Z.drop (off+k))∧w3.heap.size=W.heap.size∧Only (λk=>k=G) W w3:=by
 subst hk;have h0:=run_copy_row (P:=prog) W 62 62 3 23 G off L cap src cs.length m Z.toArray 23 cs underlying62 Tryz.one22 hN (Nat.min_eq_left hl).symm hs (by simpa using hf) h1;exact⟨_,h0,setRow_heap W G _ _ _ _ hN,by simp[World.setRow],(Only.refl (λk=>k=G) W).setRow (λ_=>rfl) _⟩
theorem Aw (N X n lo:Nat) (x:Value) (vs:List Value) (w:World) (hn:n<=1000000) (own:w.ownsRow lo 23 1 (.slice (some ⟨N,0,none⟩) n n) n vs) (v1:∀v∈vs,v.oneCell'=true) (hX:w.cell? ⟨X,0,none⟩=some x) (x1:x.oneCell'=true) (hlo:lo<=w.heap.size) :
 Calls prog 26 #[.slice (some ⟨N,0,none⟩) n n,.int .i64 0,.slice (some ⟨X,0,none⟩) 1 1] w λe w'=>∃B C,e=.returned (.slice (some ⟨B,0,none⟩) (n+1) C)∧w'.ownsRow lo 23 1 (.slice (some ⟨B,0,none⟩) (n+1) C) (n+1) (x :: vs)∧Only (λk=>k=N) w w':=by
 have hl:vs.length=n:=by have:=own.1;omega
 have h4:∀(W:World),W.cell? ⟨X,0,none⟩=some x->∀j v,([x]:List Value)[j]? = some v->W.cell? ((⟨X,0,none⟩:Addr).add j)=some v:=by
  intro W h j v hj
  match j,hj with
  | 0,hj=>simp at hj;subst hj;exact h
 by_cases h0:n=0
 ·subst h0
  have hvs:vs=[]:=List.eq_nil_of_length_eq_zero hl;subst hvs;obtain⟨i0,hi,hz0,hz1,hz2⟩:=info_parts Tryz.infoRows;have OW:=Qa own;have HV:Hid (VS w (.slice (some ⟨X,0,none⟩) 1 1) [x]):=⟨_,1,rfl,NoCap.some _ _ _,λy hy=>by simp at hy;subst hy;exact x1,(λh=>by cases h),(λad e=>by cases e;exact h4 w hX)⟩;clear own h4 hX;go_enter func26,ntmps26;go_wp2_with (at_builtin;refine Lp _ rfl _ _ 62 rfl lo 23 i0 NIL 24 underlying62 hi hz0 hz1 hz2 rfl _ 0 [] rfl OW.o _ [x] rfl HV.o (by unfold maxLen;simp) (by simp) hlo ?_);intro v' w' h2 g'
  obtain⟨B,C,e⟩:∃B C,v'=.slice (some ⟨B,0,none⟩) 1 C:=by
   rcases h2.2 with ⟨_,h⟩ | ⟨g,c,cur,e,_⟩
   ·simp at h
   ·exact⟨g,c,e⟩
  subst e;have F:=Qa (And.intro h2 ((Only.refl (λk=>k=N) w).grown g' (λk _ e=>by simp[Value.ownBlock] at e;omega)));clear h2 g';go_wp2;go_ret;exact⟨_,_,rfl,F.o⟩
 ·obtain⟨C,wm,hge,hcm,h1,h6,hsz,om⟩:=qe w N n (by omega)
  obtain⟨G,hG⟩:=EX w.heap.size;rw[<-hG] at h1 h6;obtain⟨w3,hc1,h8,hs3,o3⟩:=GH wm G 0 (n+1) C ⟨X,0,none⟩ [x] (List.replicate C NIL) 1 1 rfl h6 (h4 wm (Uw hX om)) (λy hy=>by simp at hy;subst hy;exact x1) (by omega) (by simp;omega);have hNb:N<w.heap.size:=Vv own
  have h3:∀(W:World),Only (λk=>k=G) wm W->∀j v,vs[j]? = some v->W.cell? ((⟨N,0,none⟩:Addr).add j)=some v:=by
   intro W o j v hj;have hjl:j<vs.length:=(List.getElem?_eq_some_iff.1 hj).1;have ow:=(o.own (om.own own (λ_ _ f=>f)) (λk hk e=>by simp[Value.ownBlock] at hk;omega));have:=ow.cellAt j (by omega);rw[hj] at this;rw[<-this,show (⟨N,0,none⟩:Addr).add j=⟨N,j,none⟩ by unfold Addr.add;split <;> simp_all]
  have h7:Only (λk=>k=G) wm w3.drew:=o3.drew;obtain⟨w4,hc2,h5,hs4,o4⟩:=GH w3.drew G 1 n (C - 1) ⟨N,0,none⟩ vs ((List.replicate C NIL).take 0++[x]++(List.replicate C NIL).drop (0+1)) n n hl h8 (h3 _ h7) v1 (Nat.le_refl _) (by simp;omega)
  have hZ:(((List.replicate C NIL).take 0++[x]++(List.replicate C NIL).drop (0+1)).take 1++vs++((List.replicate C NIL).take 0++[x]++(List.replicate C NIL).drop (0+1)).drop (1+n))=x :: vs++List.replicate (C - 1 - n) NIL:=by
   have e:(List.replicate C NIL).take 0++[x]++(List.replicate C NIL).drop (0+1)=x :: List.replicate (C - 1) NIL:=by simp[List.drop_replicate]
   rw[e,Nat.add_comm 1 n,List.drop_succ_cons,List.drop_replicate];rfl
  rw[hZ] at h5
  have F:Hid (w4.ownsRow lo 23 1 (.slice (some ⟨G,0,none⟩) (n+1) C) (n+1) (x :: vs)∧Only (λk=>k=N) w w4):=by
   refine⟨⟨by simp[hl],.inr ⟨G,C,_,rfl,by omega,h5,hge,hcm,?_,?_⟩⟩,?_⟩
   ·simp[hl];omega
   ·rw[List.take_append_of_le_length (by simp[hl])]
    exact List.take_of_length_le (by simp[hl])
   ·exact (om.trans (o3.drew.trans o4 (λ_ _ e=>e)) (λi hi e=>by omega)).mono (λ_ _ f=>f.elim)
  have e1:((n+1:Nat):Int)=(n:Int)+1:=by omega
  rw[e1] at h1
  have d0:((0:Int) == (n:Int))=false:=by rw[beq_eq_false_iff_ne];omega
  have d1:decide ((n:Int)<(n:Int)+1)=true:=Qf (by omega);clear h4 own v1 hX x1 hlo hl h6 hsz om h8 hs3 o3 h3 h7 h5 hs4 o4 hZ hG e1;go_enter func26,ntmps26;go_wp2_with (at_builtin;refine Lib.wpList_append_run _ rfl _ _ _ _ rfl _ _ rfl rfl _ _ h1 ?_)
  have d2:¬C=1:=by omega
  have d3:¬1=C:=by omega
  go_wp2;go_region;go_wp2;go_ret;exact⟨_,_,rfl,F.o⟩
theorem VT {fn:Func} {a b c:Tmp} {ty:TypeId} (h:fn.results=#[.tmp a,.cell b ty,.tmp c]) (tmps:Array Value) (w:World) {ad:Addr} {v1 v2 v3:Value}
 (h1:tmps.getD a undef=v1) (h2:tmps.getD b undef=.pointer (some ad)) (h3:tmps.getD c undef=v3) (hl:(loadVar ty ad).run P w=.ok v2 w) :
 (results fn tmps).run P w=.ok (.tuple #[v1,v2,v3]) w:=by
 have h1':tmps[a]?.getD undef=v1:=by simpa using h1
 have h2':tmps[b]?.getD undef=.pointer (some ad):=by simpa using h2
 have h3':tmps[c]?.getD undef=v3:=by simpa using h3
 simp[results,h,h1',h2',h3',asAddr,hl]
theorem put2 {x0 x1:Value} (h:W.heap[B]? = some (.cells #[x0,x1] E (0,0))) (y0 y1:Value) :
 ((W.setCell ⟨B,0,none⟩ y0).setCell ⟨B,1,none⟩ y1).heap[B]? = some (.cells #[y0,y1] E (0,0))∧Only (λk=>k=B) W ((W.setCell ⟨B,0,none⟩ y0).setCell ⟨B,1,none⟩ y1):=by
 have g1:=heap_setCell_same W B 0 _ _ y0 h;have g2:=heap_setCell_same _ B 1 _ _ y1 g1;exact⟨by simpa using g2,((Only.refl (λk=>k=B) W).setCell (p:=⟨B,0,none⟩) (λ_=>rfl) _).setCell (p:=⟨B,1,none⟩) (λ_=>rfl) _⟩
theorem yq (L:List (LI)):cat (λi=>L.getD i []) L.length=L.flatten:=by
 unfold cat;rw[List.flatMap_def]
 congr 1
 refine List.ext_getElem (by simp) (λi h1 h2=>?_);simp[List.getD_eq_getElem?_getD,List.getElem?_eq_getElem h2]
theorem Xa {N lo n:Nat} {xs:List Value} (o:Only (λk=>k=N) w w') {cs:Array Value} (hN:w.heap[N]? = some (.cells cs 23)) (h:w.ownsRow lo 5 1 v n xs):w'.ownsRow lo 5 1 v n xs :=
 o.own h (λk hk e=>by
  subst e
  rcases h.2 with ⟨rfl,_⟩ | ⟨g,cap,cur,rfl,_,hg,_⟩
  ·cases hk
  ·cases hk;rw[hN] at hg;cases hg)
theorem LO.off {N:Nat} {vs:List Value} (h:LO w vs ls) (o:Only (λk=>k=N) w w') {cs:Array Value} (hN:w.heap[N]? = some (.cells cs 23)):LO w' vs ls :=
 ⟨h.1,λj u hu=>by obtain⟨lo,h1⟩:=h.2 j u hu;exact⟨lo,Xa o hN h1⟩⟩
theorem RQ {m:MAN} (h:Y8 m) (h1:m.es.length<=100):(MENC m).length<=10000:=by
 obtain⟨g1,g2,g3,g4,g5⟩:=h;have hT0:=KJ m
 have h2:(Qw m).length<=1048576:=by omega
 have q1:=VU (Qw m) _ (Nat.le_refl _) h2 (λx hx=>by
  obtain⟨e,h0,rfl⟩:=List.mem_map.1 ((Uh _ _).1 hx)
  exact (g5 e h0).1.1)
 have q2:=Vp (Qw m) m.es _ (Nat.le_refl _) g4 (λe h0=>Ks h0) h2;rw[Ji] at q1;rw[XE] at q2;unfold MENC;simp only[Qb,Qx,g2.1,g3.1,QP,Ql,List.length_nil] at q1 q2 ⊢;omega
theorem Nl (L:List (LI)) (k:Nat) (h:∀x∈L,x.length<=k):L.flatten.length<=L.length*k:=by
 induction L with
 | nil=>simp
 | cons a L ih =>
  have h1:=h a (by simp);have h2:=ih (λx hx=>h x (by simp[hx]));rw[List.flatten_cons,Qb,Ql,Nat.succ_mul];omega
theorem Si {m:LI} {v:Nat} {l:List Qi}:∀x∈QW m v l k,x.length<=4194320:=λx hx=>by
 obtain⟨i,_,rfl⟩:=List.mem_map.1 hx;exact Pk
theorem CG_at {l:List Qi} (h:∀c∈l,CG c) (j:Nat):CG (l.getD j Qg):=by
 by_cases hj:j<l.length
 ·rw[Qc,Qe hj];exact h _ (List.getElem_mem hj)
 ·rw[Qc,List.getElem?_eq_none (by omega)]
  exact⟨λy hy=>(by cases hy),⟨λy hy=>(by cases hy),λy hy=>(by cases hy)⟩⟩
theorem R9 {m:LI} {v:Nat} {l:List Qi} (h:∀c∈l,CG c) (k:Nat):R8 (QW m v l k):=λx hx=>by
 obtain⟨i,_,rfl⟩:=List.mem_map.1 hx;exact⟨SX (CG_at h i),by have:=Pk (k:=Qt m (l.getD i Qg)) (v:=v) (i:=i) (c:=l.getD i Qg);omega⟩
theorem A5 {lo n B C:Nat} {x:Value} {vs:List Value} {b0:LI} (own:w.ownsRow lo 23 1 (.slice (some ⟨B,0,none⟩) (n+1) C) (n+1) (x :: vs)) (hn:n<=900) (hx:∃lo,w.ownsRow lo 5 1 x b0.length (bl b0)) (hl:LO w vs ls) (h0:0<b0.length) (h1:b0.length<=1000000000) (h2:∀y∈ls,y.length<=4194320) :
 Calls prog 28 #[.slice (some ⟨B,0,none⟩) (n+1) C] w λe w'=>∃u,e=.returned u∧w'.ownsRow w.heap.size 5 1 u (b0++ls.flatten).length (bl (b0++ls.flatten))∧N0 w w':=by
 have hvl:vs.length=n:=by have:=own.1;simp at this;omega
 have h4:ls.length=n:=by rw[<-hl.1];exact hvl
 have h5:∀i,i<n+1->∃lo,w.ownsRow lo 5 1 ((x :: vs).getD i NIL) ((b0 :: ls).getD i []).length (bl ((b0 :: ls).getD i [])):=by
  intro i hi
  cases i with
  | zero=>simpa using hx
  | succ j =>
   have hj:j<vs.length:=by omega
   have:=hl.2 j vs[j] (Qe hj)
   simpa [List.getD_eq_getElem?_getD,List.getElem?_eq_getElem hj] using this
 have h3:cat (λi=>(b0 :: ls).getD i []) (n+1)=b0++ls.flatten:=by
  have:=yq (b0 :: ls);rw[Ql,h4,List.flatten_cons] at this;exact this
 have hf:=Nl ls 4194320 h2
 have:=La B (n+1) C (λi=>(x :: vs).getD i NIL) (λi=>(b0 :: ls).getD i []) w (by omega) (by omega)
  (λi hi=>by
   rw[World.ownsRow.cellAt own i (by omega),Qe (by simp;omega)]
   simp[List.getD_eq_getElem?_getD,List.getElem?_eq_getElem (show i<(x :: vs).length by simp;omega)])
  (λi hi=>by obtain⟨lo,h⟩:=h5 i hi;exact Bs.of_own h)
  (λi hi=>by obtain⟨lo,h⟩:=h5 i hi;exact NoCap.of_own h)
  (by rw[h3,Qb];omega) (by rw[h3,Qb];rw[h4] at hf;omega)
 rw[h3] at this;exact this
theorem X9 {N lo n size:Nat} {E T:TypeId} {xs:List Value} {f:Nat × Nat} {cs:Array Value} (o:Only (λk=>k=N) w w') (hN:w.heap[N]? = some (.cells cs T f)) (hT:T≠E) (h:w.ownsRow lo E size v n xs):w'.ownsRow lo E size v n xs :=
 o.own h (λk hk e=>by
  subst e
  rcases h.2 with ⟨rfl,_⟩ | ⟨g,cap,cur,rfl,_,hg,_⟩
  ·cases hk
  ·cases hk;rw[hN] at hg;cases hg;exact hT rfl)
theorem LO.ne {N:Nat} {T:TypeId} {f:Nat × Nat} {vs:List Value} (h:LO w vs ls) (o:Only (λk=>k=N) w w') {cs:Array Value} (hN:w.heap[N]? = some (.cells cs T f)) (hT:T≠5):LO w' vs ls :=
 ⟨h.1,λj u hu=>by obtain⟨lo,h1⟩:=h.2 j u hu;exact⟨lo,X9 o hN hT h1⟩⟩
theorem PQ {e:LI × Int} {es:List (LI × Int)} {ys t:LI} (h:CUT (e :: es) ys=some (ls,t)) :
 ∃l ls',ls=l :: ls'∧¬ys.length<(QV e.2).toNat+16∧l=ys.take ((QV e.2).toNat+16)∧CUT es (ys.drop ((QV e.2).toNat+16))=some (ls',t):=by
 rw[CUT] at h
 by_cases h1:ys.length<(QV e.2).toNat+16
 ·rw[if_pos h1] at h;cases h
 ·rw[if_neg h1] at h
  cases h2:CUT es (ys.drop ((QV e.2).toNat+16)) with
  | none=>rw[h2] at h;cases h
  | some x =>
   rw[h2] at h;simp only[Option.some.injEq,Prod.mk.injEq] at h;exact⟨_,x.1,h.1.symm,h1,rfl,by rw[<-h.2]⟩
theorem GE:∀(es:List (LI × Int)) {ys t:LI} {ls:List (LI)},CUT es ys=some (ls,t)->ls.length=es.length
 | [],ys,t,ls,h=>by simp[CUT] at h;rw[h.1];rfl
 | e :: es,ys,t,ls,h=>by
  obtain⟨l,ls',rfl,_,_,h2⟩:=PQ h;simp[GE es h2]
theorem Cs {ys t:LI} (es:List (LI × Int)) (ls:List (LI)) (ve:Value) (w:World) (hC:CurAt 146 w R v ys) (k2:∀k,v.ownBlock=some k->k<w.heap.size) (hE:Ens w ve es) (k7:∀k,ve.ownBlock=some k->¬k=R) (h0:CUT es ys=some (ls,t)) (hb:∀e∈es,0<=e.2∧e.2<=8) (hn:es.length<=1048576) :
 Calls prog 62 #[.func (.func 63) #[.pointer (some ⟨R,0,none⟩)] #[],ve] w λe w'=>∃a,e=.returned (.tuple #[a,.int .i64 0])∧(∃vs,LO w' vs ls∧w'.ownsRow w.heap.size 23 1 a ls.length vs)∧(∃v2,CurAt 146 w' R v2 t∧v2.ownBlock=v.ownBlock)∧Only (λk=>k=R) w w':=by
 obtain⟨ae,ce,rfl⟩:=hE.len;obtain⟨i0,hi,hz0,hz1,hz2⟩:=info_parts Tryz.infoRows;have hw:R<w.heap.size:=(Array.getElem?_eq_some_iff.1 hC.cell).1;have k4:=GE es h0;obtain⟨n,hj⟩:=EX es.length
 have S0:Hid (∃(rv:Value) (vs:List Value) (v2:Value) (rest:LI),.slice none 0 0=rv∧w.ownsRow w.heap.size 23 1 rv 0 vs∧LO w vs (ls.take 0)∧CurAt 146 w R v2 rest∧v2.ownBlock=v.ownBlock∧CUT (es.drop 0) rest=some (ls.drop 0,t)∧Only (λk=>k=R) w w) :=
  ⟨_,[],v,ys,rfl,World.ownsRow_nil _ _ _ _,LO.nil w,hC,rfl,h0,Only.refl _ _⟩
 have HE:=Qa (And.intro hE (And.intro k7 (And.intro hb (And.intro k2 (And.intro hw k4)))));have HN:=Qa hj
 have hnb:n<=1048576:=by omega
 rw[<-hj] at HE ⊢;clear hC k2 hE k7 h0 hb hn hw k4 hj;go_enter func62,ntmps62;go_wp2
 go_loopw [6,13] (λrv i wr=>∃k:Nat,k<=n∧i=.int .i64 k∧Hid (∃(vs:List Value) (v2:Value) (rest:LI),wr.ownsRow w.heap.size 23 1 rv k vs∧LO wr vs (ls.take k)∧CurAt 146 wr R v2 rest∧v2.ownBlock=v.ownBlock∧CUT (es.drop k) rest=some (ls.drop k,t)∧Only (λk=>k=R) w wr)) (λ_ i _=>n - (intOf i).toNat)
 case atStart =>
  obtain⟨rv,vs,v2,rest,rfl,h⟩:=S0.o;exact⟨0,Nat.zero_le _,rfl,vs,v2,rest,h⟩
 case round =>
  obtain⟨k,hk,rfl,hS⟩:=hrel;clear S0
  by_cases hlt:k<n
  ·have dlt:decide ((k:Int)<(n:Int))=true:=Qf (by omega)
   have dlt':decide (k<n)=true:=Qf hlt;obtain⟨vs,v2,rest,ow,lo,cu,h5,h0,o⟩:=hS.o
   have h6:k<es.length:=by rw[<-HN.o];exact hlt
   rw[List.drop_eq_getElem_cons h6] at h0;obtain⟨l,ls',k3,h3,hl,h1⟩:=PQ h0
   have hkl:k<ls.length:=by have:=HE.o.2.2.2.2.2;omega
   have hh:es[k]=es.getD k ([],0):=by rw[Qc,Qe h6];rfl
   rw[hh] at h3 hl h1;have h8:=HE.o.2.2.1 _ (List.getElem_mem h6);rw[hh] at h8;obtain⟨b,off,cap',ee,hf,k6⟩:=(HE.o.1.keep o (λq hq=>HE.o.2.1 q hq)).at k h6
   obtain rfl:ae=some ⟨b,off,none⟩:=by simp at ee;exact ee.1
   clear ee;obtain⟨e,ht⟩:=EX (es.getD k ([],0));rw[<-ht] at h3 hl h1 h8 hf k6;obtain⟨T,hT⟩:=EX (strOfNums e.1);rw[<-hT] at hf
   obtain⟨z,hz⟩:∃z:Nat,QV e.2=(z:Int)∧z<=4194304:=by
    refine⟨Qs e.2.toNat,?_,?_⟩
    ·unfold QV;rw[if_pos h8]
    ·unfold Qs
     have:e.2.toNat<=8:=by omega
     have h4:4^e.2.toNat<=4^8:=Nat.pow_le_pow_right (by decide) this
     have:(4:Nat)^8=65536:=by decide
     omega
   have hp:(QV e.2).toNat+16=z+16:=by rw[hz.1];rfl
   rw[hp] at h3 hl h1;obtain⟨wb,ha⟩:=EX (wr.alloc (.cells #[.string T,.int .i64 e.2] 93))
   have ob:N0 wr wb:=by rw[ha];exact (Only.refl _ _).alloc _
   obtain⟨q0,q1,_,_⟩:=Qz (show wb.heap[wr.heap.size]? = some (.cells #[.string T,.int .i64 e.2] 93 (0,0)) by rw[ha];exact heap_alloc_new _ _);have SZ:=Qa (X6 e.2 wb);rw[hz.1] at SZ;have hzz:=hz.2;have HB:=Qa ha;have he:=cu.keep ob (λf=>f) (λ_ _ f=>f);have BY:=Qa (λW (oW:N0 wb W)=>Hz (he.keep oW (λf=>f) (λ_ _ f=>f)) ((z+16:Nat):Int));rw[Vy h3,<-hl] at BY
   have hx:((z+16:Nat):Int)=(z:Int)+16:=by omega
   rw[hx] at BY;have D:=Qa (And.intro (ob.own ow (λ_ _ f=>f)) (And.intro (lo.past ob) (And.intro h5 (And.intro (o.trans (T:=λ_=>False) ob (λ_ _ f=>f.elim)) he.cell))));have HX:=Qa (And.intro k3 h1)
   have i0':(0:Int)<=(k:Int):=by omega
   have i1':(k:Int)<(n:Int):=by omega
   clear hS ow lo cu h5 h0 o h6 k3 h3 hl h1 hkl hh h8 ht hT hz hp ha ob he hx;go_wp2_with fail;rw[<-HB.o];refine SZ.o.mono ?_;rintro e1 w1 ⟨rfl,o1⟩;have hs:=Qa (BY.o w1 o1);have D1:=Qa (And.intro (o1.own D.o.1 (λ_ _ f=>f)) (And.intro (D.o.2.1.past o1) (And.intro D.o.2.2.1 (And.intro (D.o.2.2.2.1.trans (T:=λ_=>False) o1 (λ_ _ f=>f.elim)) (o1.heap D.o.2.2.2.2 (λf=>f))))));clear o1 SZ BY D q0 q1 hf k6;go_wp2_with fail;refine hs.o.mono ?_;rintro e2 w2 ⟨v1,rfl,h2,v3,k1,k0,o2⟩;obtain⟨a1,c1,rfl⟩:=QB h2;obtain⟨m,hm⟩:=EX l.length;obtain⟨W3,h9⟩:=EX (w2.alloc (.cells #[.slice a1 m c1] 23))
   have o3:N0 w2 W3:=by rw[h9];exact (Only.refl _ _).alloc _
   have hV:VS W3 (.slice (some ⟨w2.heap.size,0,none⟩) 1 1) [.slice a1 m c1]:=VS.of_own (lo:=w2.heap.size) (n:=1) (e:=23) (by rw[h9];exact Mj w2 23 [.slice a1 m c1] (Nat.le_refl _) (show 1<=maxLen by unfold maxLen;decide)) (λy hy=>by simp at hy;subst hy;rfl)
   have h7:(146:Nat)≠23:=by decide
   have ho:=o3.own (X9 o2 D1.o.2.2.2.2 h7 D1.o.1) (λ_ _ f=>f);have hu:=(D1.o.2.1.ne o2 D1.o.2.2.2.2 (by decide)).past o3;have E3:=Qa (And.intro ho (And.intro hu (And.intro (k1.keep o3 (λf=>f) (λ_ _ f=>f)) (And.intro (k0.trans D1.o.2.2.1) (And.intro (((D1.o.2.2.2.1).trans o2 (λ_ _ e=>e)).trans (T:=λ_=>False) o3 (λ_ _ f=>f.elim)) (o3.own h2 (λ_ _ f=>f)))))));have HV:=Qa (And.intro hV (And.intro h9 hm))
   have bs:Hid (w.heap.size<=W3.heap.size):=by show _<=_;have:=E3.o.2.2.2.2.1.size;omega
   have k5:k+1<=maxLen:=by unfold maxLen;omega
   rw[<-hm];clear h2 k1 k0 o2 o3 hV ho hu hs D1 h9 hm h7;go_wp2_with (at_builtin;rw[<-HV.o.2.1];refine Lp _ rfl _ _ 62 rfl w.heap.size 23 i0 NIL 24 underlying62 hi hz0 hz1 hz2 rfl _ k vs rfl E3.o.1 _ [.slice a1 m c1] rfl HV.o.1 k5 (by simp only[Ql,List.length_nil];omega) bs.o ?_);intro v' w4 own4 g4
   have F:Hid (∃(vs:List Value) (v2:Value) (rest:LI),w4.ownsRow w.heap.size 23 1 v' (k+1) vs∧LO w4 vs (ls.take (k+1))∧CurAt 146 w4 R v2 rest∧v2.ownBlock=v.ownBlock∧CUT (es.drop (k+1)) rest=some (ls.drop (k+1),t)∧Only (λk=>k=R) w w4):=by
    obtain⟨ow,lo,cu,hv,o,ob⟩:=E3.o;have hg:=(Only.refl (λq=>u6.ownBlock=some q) W3).grown g4 (λ_ _ e=>e)
    have hRu:¬u6.ownBlock=some R:=λe=>by have:=(ow.lt R e).1;have:=HE.o.2.2.2.2.1;omega
    have hd:=HX.o.1
    have e1:ls.take (k+1)=ls.take k++[l]:=by
     rw[List.take_add_one]
     congr 1
     have:ls[k]? = some l:=by have:=List.getElem?_drop (xs:=ls) (i:=k) (j:=0);rw[hd] at this;simpa using this.symm
     rw[this];rfl
    have e2:ls.drop (k+1)=ls':=by rw[<-List.drop_drop,hd];rfl
    refine⟨vs++[.slice a1 m c1],v3,_,own4,?_,cu.keep hg hRu (λq hq e=>?_),hv,by rw[e2];exact HX.o.2,o.grown g4 (λq hq e=>?_)⟩
    ·rw[e1]
     have:=(LO.one ob).grown ow g4;rw[HV.o.2.2];exact (lo.grown ow g4).app this
    ·rw[hv] at hq
     have:=HE.o.2.2.2.1 q hq;have:=(ow.lt q e).1;omega
    ·have:=(ow.lt q e).1
     omega
   obtain⟨a4,c4,rfl⟩:=QB own4;clear own4 g4 E3 HV bs k5 HX;go_wp2
   go_roundw
   case rel=>exact⟨k+1,by omega,by go_num,F⟩
   case measure=>simp[intOf];omega
  ·obtain rfl:k=n:=by omega
   have dlt:decide ((k:Int)<(k:Int))=false:=Qj (by omega);obtain⟨vs,v2,rest,ow,lo,cu,h5,h0,o⟩:=hS.o;rw[HN.o,List.drop_length] at h0;have hl:ls.length=k:=HE.o.2.2.2.2.2;rw[<-HN.o,<-hl,List.drop_length] at h0;rw[<-hl,List.take_length] at lo
   have hr:rest=t:=by simp[CUT] at h0;exact h0
   subst hr;have F:=Qa (And.intro (show ∃vs,LO wr vs ls∧wr.ownsRow w.heap.size 23 1 _ ls.length vs from ⟨vs,lo,by rw[hl];exact ow⟩) (And.intro (show ∃v2,CurAt 146 wr R v2 rest∧v2.ownBlock=v.ownBlock from ⟨v2,cu,h5⟩) o));clear hS ow lo cu h5 h0 o;go_wp2;go_ret2;exact⟨_,rfl,F.o⟩
theorem Iw {m:MAN} (h:Y8 m):Yc (MENC m)=m∧YT (MENC m)=0:=MD_ok (Lm h)
end Go.Proofs.YtiochaeeoelmjaaGreatDoor
