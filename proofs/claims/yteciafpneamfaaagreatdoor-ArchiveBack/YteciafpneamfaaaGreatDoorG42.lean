import Derived.Test.YteciafpneamfaaaGreatDoorG41
namespace Go.Proofs.YteciafpneamfaaaGreatDoor
set_option maxHeartbeats 4000000
set_option maxRecDepth 100000
open Go.RowKit _root_.Go.Proofs.Tryz
variable {w w' W:World} {v:Value} {ys xs l:LI} {R n p k g B:Nat} {P:Program} {ls:List (LI)} {E:TypeId}
def Wa (s:List (ByteArray × Value)):List Value:=s.flatMap λp=>[.string p.1,p.2]
abbrev KZ:ByteArray × Value:=(⟨#[]⟩,.slice none 0 0)
theorem KO (p:ByteArray × Value) (s:List (ByteArray × Value)):Wa (p :: s)=.string p.1 :: p.2 :: Wa s:=rfl
theorem P9 (s:List (ByteArray × Value)):(Wa s).length=s.length*2:=by
 induction s with
 | nil=>rfl
 | cons p s ih=>rw[KO];simp only[Qj,ih];omega
theorem J2 (s:List (ByteArray × Value)):∀(j:Nat),j<s.length->(Wa s)[j*2]? = some (.string (s.getD j KZ).1)∧(Wa s)[j*2+1]? = some (s.getD j KZ).2:=by
 induction s with
 | nil=>intro j hj;simp at hj
 | cons p s ih =>
  intro j hj
  cases j with
  | zero=>rw[KO];exact⟨rfl,rfl⟩
  | succ j =>
   have hj':j<s.length:=by simpa using hj
   obtain⟨h0,h1⟩:=ih j hj';rw[KO,show (j+1)*2=j*2+1+1 by omega];simp only[List.getElem?_cons_succ,List.getD_cons_succ];exact⟨h0,h1⟩
theorem EZ (s:List (ByteArray × Value)):∀(j:Nat) (a:ByteArray) (b:Value),j<s.length->((Wa s).set (j*2) (.string a)).set (j*2+1) b=Wa (s.set j (a,b)):=by
 induction s with
 | nil=>intro j a b h;simp at h
 | cons p s ih =>
  intro j a b h
  cases j with
  | zero=>simp[KO]
  | succ j =>
   have:=ih j a b (by simpa using h);rw[KO,Qo,KO,<-this,show (j+1)*2=j*2+1+1 by omega];simp only[Qo]
theorem vH (n:Nat):Wa (List.replicate n KZ)=(madeCells #[Value.string ⟨#[]⟩,Value.slice none 0 0] (n*2)).toList:=by
 unfold madeCells
 apply List.ext_getElem?
 intro i;have hl:=P9 (List.replicate n KZ);rw[List.length_replicate] at hl
 by_cases h:i<n*2
 ·obtain⟨h0,h1⟩:=J2 (List.replicate n KZ) (i / 2) (by simp;omega)
  have hg:(List.replicate n KZ).getD (i / 2) KZ=KZ:=by
   rw[Qd,List.getElem?_replicate];split <;> rfl
  rw[hg] at h0 h1
  rcases Nat.mod_two_eq_zero_or_one i with hm | hm
  ·rw[show i / 2*2=i by omega] at h0
   rw[h0];simp[h,hm]
  ·rw[show i / 2*2+1=i by omega] at h1
   rw[h1];simp[h,hm]
 ·rw[List.getElem?_eq_none (by omega),List.getElem?_eq_none (by simp;omega)]
def CD (w:World) (lo N n k:Nat) (cs:List Qk):Prop :=
 ∃ps:List (ByteArray × Value),ps.length=k∧(∀j p,ps[j]? = some p->p.1=strOfNums (cs.getD j Qv).1∧w.ownsRow lo 89 2 p.2 (cs.getD j Qv).2.length (Yc (cs.getD j Qv).2)) ∧
  w.ownsRow N 42 2 (.slice (some ⟨N,0,none⟩) n n) n (Wa (ps++List.replicate (n - k) KZ))
theorem CD.past {lo N n k:Nat} {cs:List Qk} (h:CD w lo N n k cs) (o:N0 w w'):CD w' lo N n k cs:=by
 obtain⟨ps,h1,h2,h3⟩:=h;exact⟨ps,h1,λj p hp=>⟨(h2 j p hp).1,o.own (h2 j p hp).2 (λ_ _ f=>f)⟩,o.own h3 (λ_ _ f=>f)⟩
theorem CD.cell {lo N n k:Nat} {cs:List Qk} (h:CD w lo N n k cs) (hk:k<n):w.cell? ⟨N,k*2,none⟩=some (.string ⟨#[]⟩)∧w.cell? ⟨N,k*2+1,none⟩=some (.slice none 0 0)∧w.frozen? ⟨N,k*2,none⟩=false∧w.frozen? ⟨N,k*2+1,none⟩=false:=by
 obtain⟨ps,h1,h2,h3⟩:=h;have ha:=J2 (ps++List.replicate (n - k) KZ) k (by simp;omega)
 have hg:(ps++List.replicate (n - k) KZ).getD k KZ=KZ:=by
  rw[Qd,List.getElem?_append_right (by omega),List.getElem?_replicate];split <;> rfl
 rw[hg] at ha;refine⟨?_,?_,h3.frozenAt _,h3.frozenAt _⟩
 ·rw[World.ownsRow.cellAt h3 (k*2) (by omega),ha.1]
 ·rw[World.ownsRow.cellAt h3 (k*2+1) (by omega),ha.2]
theorem CD.block {lo N n k:Nat} {cs:List Qk} (h:CD w lo N n k cs):∃c,w.heap[N]? = some (.cells c 42):=by
 obtain⟨ps,_,_,h3⟩:=h
 rcases h3.2 with ⟨e,_⟩ | ⟨g,cap,cur,e,_,hg,_⟩
 ·cases e
 ·cases e;exact⟨_,hg⟩
theorem Xj {lo N n j:Nat} {v u:Value} {c:Array Value} {f:Nat × Nat} {xs:List Value} (h:w.ownsRow lo 89 2 v n xs) (hN:w.heap[N]? = some (.cells c 42 f)):(w.setCell ⟨N,j,none⟩ u).ownsRow lo 89 2 v n xs:=by
 refine ownsRow_setCell_other h (λe=>?_) u
 rcases h.2 with ⟨rfl,_⟩ | ⟨g,cap,cur,rfl,_,hg,_⟩
 ·cases e
 ·cases e
  rw[hN] at hg
  cases hg
theorem CD.store {lo N n k:Nat} {cs:List Qk} (h:CD w lo N n k cs) (hk:k<n) {x:Value} {t:ByteArray} (ht:t=strOfNums (cs.getD k Qv).1) (hx:w.ownsRow lo 89 2 x (cs.getD k Qv).2.length (Yc (cs.getD k Qv).2)) :
 CD ((w.setCell ⟨N,k*2,none⟩ (.string t)).setCell ⟨N,k*2+1,none⟩ x) lo N n (k+1) cs:=by
 obtain⟨c,hb⟩:=h.block;have h0:=heap_setCell_same w N (k*2) _ _ (.string t) hb;obtain⟨ps,h1,h2,h3⟩:=h;have g1:=(World.ownsRow.stored h3 (k*2) (.string t)).1;have g2:=(g1.stored (k*2+1) x).1;rw[EZ _ _ _ _ (by simp;omega)] at g2;obtain⟨m,hm⟩:∃m,n - k=m+1:=⟨n - k - 1,by omega⟩;rw[hm,List.replicate_succ,List.set_append_right _ _ (by omega),h1,Nat.sub_self,Qn] at g2;refine⟨ps++[(t,x)],by simp[h1],λj p hp=>?_,?_⟩
 ·by_cases hj:j<ps.length
  ·rw[List.getElem?_append_left hj] at hp
   exact⟨(h2 j p hp).1,Xj (Xj (h2 j p hp).2 hb) h0⟩
  ·rw[List.getElem?_append_right (by omega)] at hp
   obtain⟨i,hi⟩:∃i,j=ps.length+i:=⟨j - ps.length,by omega⟩;subst hi;rw[Nat.add_sub_cancel_left] at hp
   cases i with
   | zero =>
    cases hp
    rw[Nat.add_zero,h1];exact⟨ht,Xj (Xj hx hb) h0⟩
   | succ i=>simp at hp
 ·rw[show n - (k+1)=m by omega,List.append_assoc]
  exact g2
theorem rC (w:World) (lo n:Nat) (hn:n<=1000000000) (cs:List Qk):∃wm,(Instr.makeSlice 26 (.int .i64 (n:Int)) (.int .i64 (n:Int))).run prog w=.ok (.slice (some ⟨w.heap.size,0,none⟩) n n) wm∧CD wm lo w.heap.size n 0 cs∧N0 w wm:=by
 obtain⟨i0,hi,hz0,hz1,hz2⟩:=info_parts Tryz.infoCk;obtain⟨wm,hmk,h0,hgr⟩:=run_make_full (P:=prog) w w.heap.size 26 42 i0 (.agg #[.string ⟨#[]⟩,.slice none 0 0]) 2 underlying26 hi hz0 hz1 .i64 .i64 n (by rw[hz2];omega) (by unfold maxLen;omega) (Nat.le_refl _);refine⟨wm,hmk,⟨[],rfl,λj p hp=>by simp at hp,?_⟩,(Only.refl _ _).grown hgr (λk _ e=>by cases e)⟩;rw[List.nil_append,Nat.sub_zero,vH];exact h0
theorem CD.chs {lo N n R:Nat} {cs:List Qk} (h:CD w lo N n n cs) (hn:n=cs.length) (hR:R<lo) (hRN:R≠N) (o:Only (λk=>k=R) w w'):Chs w' (.slice (some ⟨N,0,none⟩) n n) cs:=by
 obtain⟨ps,h1,h2,h3⟩:=h;subst hn;rw[Nat.sub_self,List.replicate_zero,List.append_nil] at h3;have h4:=o.own h3 (λk hk e=>hRN (by cases hk;exact e.symm));refine⟨_,_,rfl,Nat.le_refl _,λ_=>⟨N,0,rfl,λj hj=>?_⟩⟩
 have h0:j<ps.length:=by omega
 obtain⟨e1,e2⟩:=h2 j _ (Qi h0);obtain⟨a1,a2⟩:=J2 ps j h0
 have hg:ps.getD j KZ=ps[j]:=by rw[Qd,Qi h0,Option.getD_some]
 rw[hg] at a1 a2;have hl:=P9 ps;refine⟨ps[j].2,?_,?_,Sps.of_own (o.own e2 (λk hk e=>ZE e2 (b:=R) hR (by rw[hk,e])))⟩
 ·rw[Nat.zero_add,World.ownsRow.cellAt h4 (j*2) (by omega),a1,e1]
 ·rw[Nat.zero_add,World.ownsRow.cellAt h4 (j*2+1) (by omega),a2]
theorem XI {q:Addr} {u:Value} (h:w.cell? q=some u) {S:Nat->Prop} (o:Only S w w') (hs:¬S q.block):w'.cell? q=some u:=by
 rw[<-h];exact World.cell?_of_block (o.block _ (World.block_lt_of_cell? w _ h) hs)
theorem xk (vk:Value) (k:LI) (mm:MAN) (v:Nat) (l:List Qk) (w:World) (bk:Bs .u8 w vk k) (k8:U8 k) (hg:CL l) (hl:l.length<=1048576) (h0:Yg k 0 l=0) (hv:mm.ver=v) (k2:mm.es=Um k l l.length) (hT:Tab w) :
 J3 vk mm (QF k v l l.length) l w:=by
 intro W x vp ve vr a vs lo oW hm hL own;have hf:=hm.form;obtain⟨n,hn⟩:=EX l.length
 have hw:(QF k v l l.length).length=n:=by rw[Zq,hn]
 have hr:mm.es.length=n:=by rw[k2,KJ,hn]
 obtain⟨ap,cp,ep⟩:=hm.prev.len;obtain⟨ae,ce,ee⟩:=hm.es.len;obtain⟨ar,cr,er⟩:=hm.root.len;rw[hw] at own;obtain⟨aa,ca,ea⟩:=QJ own;rw[hr] at ee;subst ep ee er hf ea;obtain⟨W0,he⟩:=EX (W.alloc (.cells #[.int .u64 mm.ver,.slice ap mm.prev.length cp,.slice ae n ce,.slice ar mm.root.length cr] 51))
 have o0:N0 W W0:=by rw[he];exact (Only.refl _ _).alloc _
 have gm:W0.heap[W.heap.size]? = some (.cells #[.int .u64 mm.ver,.slice ap mm.prev.length cp,.slice ae n ce,.slice ar mm.root.length cr] 51 (0,0)):=by rw[he];exact heap_alloc_new _ _
 obtain⟨wm,kc,hq,om⟩:=rC W0 W.heap.size n (by omega) l;obtain⟨N,hN⟩:=EX W0.heap.size;rw[<-hN] at kc hq
 have kb:W0.heap.size=W.heap.size+1:=by rw[he];simp
 have S0:Hid (CD wm W.heap.size N n 0 l∧N0 W wm):=⟨hq,o0.same om⟩;have GM:=Qa (om.heap gm (λf=>f));have HH:=Qa (And.intro (bk.past oW) (And.intro k8 (And.intro hg (hT.past oW))));have HE:=Qa hm.es;have HL:=Qa (And.intro hL own);have HN:=Qa (And.intro hn (And.intro hN kb));have HS:=Qa (And.intro h0 (And.intro hv (And.intro k2 (And.intro hw hr))))
 have hnb:n<=1048576:=by omega
 clear bk k8 hg hl h0 hv k2 hT oW hm hL own hw hr o0 gm hq om hN kb;subst he;clear hn;go_enter func24,ntmps24;go_wp2
 go_loopw [18] (λi wr=>∃j:Nat,j<=n∧i=.int .i64 j∧Hid (CD wr W.heap.size N n j l∧N0 W wr∧wr.heap[W.heap.size]? = some (.cells #[.int .u64 mm.ver,.slice ap mm.prev.length cp,.slice ae n ce,.slice ar mm.root.length cr] 51 (0,0)))) (λi _=>n - (intOf i).toNat)
 case atStart=>exact⟨0,Nat.zero_le _,rfl,S0.o.1,S0.o.2,GM.o⟩
 case round =>
  obtain⟨j,hj,rfl,hS⟩:=hrel;clear S0 kc GM
  by_cases hlt:j<n
  ·have dlt:decide ((j:Int)<(n:Int))=true:=Qc (by omega)
   have dlt':decide (j<n)=true:=Qc hlt
   have h8:j<l.length:=by rw[<-HN.o.1];exact hlt
   obtain⟨c,hc⟩:=EX (l.getD j Qv);obtain⟨ho,ka,k6⟩:=HH.o.2.2.1.at h8;have k3:=XY l 0 HS.o.1 j h8;rw[Nat.zero_add] at k3;obtain⟨k1,k0⟩:=Ta k3;have k4:=Rn k v l (j:=j) (k:=l.length) h8;have hh:=Pn k l (j:=j) (k:=l.length) h8;rw[<-HS.o.2.2.1] at hh;rw[<-hc] at ho ka k6 k1 k0 k4 hh;obtain⟨t,ht⟩:=EX (strOfNums c.1)
   have hs:sb t=c.1:=by rw[ht,sb_of ho.t8]
   have hk:(sb t,c.2)=c:=by rw[hs]
   -- the sealed chunk
   have h9:=hS.o.2.1.own HL.o.2 (λ_ _ f=>f)
   obtain⟨g,rfl,hgW⟩:∃g,aa=some ⟨g,0,none⟩∧g<W.heap.size:=by
    rcases HL.o.2.2 with ⟨e,h⟩ | ⟨g,hp,cur,e,_,hg',_⟩
    ·exact absurd hlt (by omega)
    ·cases e;exact⟨g,rfl,(Array.getElem?_eq_some_iff.1 hg').1⟩
   have hvl:vs.length=n:=by rw[HL.o.1.1,HS.o.2.2.2.1]
   obtain⟨u,hu⟩:∃u,vs[j]? = some u:=⟨_,Qi (by omega)⟩;have sc:=World.ownsRow.cellAt h9 j (by omega);rw[hu] at sc;obtain⟨lu,h3⟩:=HL.o.1.2 j u hu;rw[k4] at h3
   -- its entry
   obtain⟨b,off,hp,ee,h7,h5⟩:=(HE.o.past hS.o.2.1).at j (by rw[HS.o.2.2.2.2];exact hlt);simp only[Value.slice.injEq] at ee;obtain⟨rfl,-,rfl⟩:=ee;obtain⟨b',off',k7,ee,k5,_⟩:=HE.o.at j (by rw[HS.o.2.2.2.2];exact hlt);simp only[Value.slice.injEq,Option.some.injEq,Addr.mk.injEq] at ee
   have hbW:b<W.heap.size:=by
    obtain⟨⟨rfl,rfl,_⟩,_⟩:=ee;exact World.block_lt_of_cell? W _ k5
   rw[hh] at h7 h5;rw[<-ht] at h7;obtain⟨⟨y0,_,y2,_⟩,_⟩:=Yd hS.o.2.2
   have i0:(0:Int)<=(j:Int):=by omega
   have i1:(j:Int)<(n:Int):=by omega
   have TA:=Qa (DW vk k t HH.o.2.1 wr (HH.o.1.past hS.o.2.1));rw[hs,k1] at TA
   have HT8:Hid (U8 (QX k 1 c.1)):=by
    show U8 _
    unfold QX;split
    ·split
     ·exact Vx _ _ _
     ·intro y hy;cases hy
    ·intro y hy;cases hy
   have UN:=Qa (λ(W':World) (x:Value) (o:N0 wr W') (h:Bs .u8 W' x (QR k c))=>qu x u (QR k c) v j t c.2 W' h HT8.o (by rw[hk];exact k0) ho.gs (by rw[hk];exact (Bs.of_own (k:=.u8) (E:=5) h3).past (hS.o.2.1.same o)) (NoCap.of_own h3) (HH.o.2.2.2.past (hS.o.2.1.same o)));rw[hk] at UN;obtain⟨k9,hd⟩:=EX (Ye (QR k c) j c);rw[<-hd] at h5 UN;simp only at h5;obtain⟨vv,hz⟩:∃vv:Int,vv=(v:Int):=⟨_,rfl⟩;rw[<-hz] at UN;rw[show ((mm.ver:Nat):Int)=vv by rw[HS.o.2.1,hz]] at y0
   have hNW:W.heap.size<N:=by have:=HN.o.2;omega
   have KS:Hid (∀W',Only (λk=>k=N) wr W'->W'.cell? ⟨W.heap.size,0,none⟩=some (.int .u64 vv)∧W'.cell? ⟨W.heap.size,2,none⟩=some (.slice (some ⟨b,off,none⟩) n ce)∧W'.cell? ⟨b,off+j*2,none⟩=some (.string t)∧W'.cell? ⟨b,off+j*2+1,none⟩=some (.int .i64 k9)) :=
    λW' o=>⟨XI y0 o (λe=>by have e':W.heap.size=N:=e;omega),XI y2 o (λe=>by have e':W.heap.size=N:=e;omega),XI h7 o (λe=>by have e':b=N:=e;omega),XI h5 o (λe=>by have e':b=N:=e;omega)⟩
   have H3:=Qa (And.intro hS.o.1 (And.intro hS.o.2.1 (And.intro hS.o.2.2 (And.intro hc ht))));clear h8 ho ka k6 k3 k1 k0 k4 hh hs hk h9 hvl hu h3 ee k5 hd hz hS hc ht;go_wp2_with fail;refine TA.o.mono ?_;rintro e w3 ⟨x3,rfl,ha,o3⟩;have B3:=Qa (show Bs .u8 w3 x3 (QR k c) from Bs.of_own ha);have O3:=Qa o3;obtain⟨y0,y2,h7,h5⟩:=KS.o w3 (o3.mono (λ_ _ f=>f.elim));clear ha o3 TA sc
   have ck2:((j:Int)*2).toNat=j*2:=by omega
   go_wp2_with fail
   go_region_held3 (λW'=>W'.cell? ⟨W.heap.size,0,none⟩=some (.int .u64 vv)∧W'.cell? ⟨W.heap.size,2,none⟩=some (.slice (some ⟨b,off,none⟩) n ce)∧W'.cell? ⟨b,off+j*2,none⟩=some (.string t)∧W'.cell? ⟨b,off+j*2+1,none⟩=some (.int .i64 k9))
    (first | assumption | exact⟨y0,y2,h7,h5⟩ | exact KS.o _ (O3.o.drew.mono (λ_ _ f=>f.elim)) | exact KS.o _ (O4.o.mono (λ_ _ f=>f.elim)) | exact KS.o _ (((O4.o.mono (T:=λk=>k=N) (λ_ _ f=>f.elim)).setCell (p:=⟨N,j*2,none⟩) (λ_=>rfl) _).setCell (p:=⟨N,j*2+1,none⟩) (λ_=>rfl) _))
    ((go_at_call 46;refine (UN.o _ x3 O3.o.drew (B3.o.past (Only.refl _ _).drew)).mono ?_;rintro e w4 ⟨u4,rfl,h6,o4⟩;(obtain⟨a4,c4,e4⟩:=(Sps.of_own h6).len);subst e4;have O4:=Qa (O3.o.drew.same o4);have L4:=Qa (H3.o.1.past O4.o);have h4:=Qa h6;clear h6 o4 UN;obtain⟨z0,z1,z2,z3⟩:=L4.o.cell hlt))
   have hx:W.heap.size<=w3.heap.size:=by have h1:=H3.o.2.1.size;have h2:=O3.o.size;omega
   have hNW2:W.heap.size<=N:=by omega
   have FF:Hid (CD ((w4.setCell ⟨N,j*2,none⟩ (.string t)).setCell ⟨N,j*2+1,none⟩ (.slice a4 c.2.length c4)) W.heap.size N n (j+1) l∧N0 W ((w4.setCell ⟨N,j*2,none⟩ (.string t)).setCell ⟨N,j*2+1,none⟩ (.slice a4 c.2.length c4))∧((w4.setCell ⟨N,j*2,none⟩ (.string t)).setCell ⟨N,j*2+1,none⟩ (.slice a4 c.2.length c4)).heap[W.heap.size]? = some (.cells #[.int .u64 mm.ver,.slice ap mm.prev.length cp,.slice (some ⟨b,off,none⟩) n ce,.slice ar mm.root.length cr] 51 (0,0))):=by
    refine⟨L4.o.store hlt (by rw[H3.o.2.2.2.2,H3.o.2.2.2.1]) (by rw[<-H3.o.2.2.2.1];exact Qr h4.o hx),?_,?_⟩
    ·exact ((H3.o.2.1.same O4.o).setCell (p:=⟨N,j*2,none⟩) (λhb=>by simp only at hb;omega) _).setCell (p:=⟨N,j*2+1,none⟩) (λhb=>by simp only at hb;omega) _
    ·exact (((Only.refl (λk=>k=N) w4).setCell (p:=⟨N,j*2,none⟩) (λ_=>rfl) _).setCell (p:=⟨N,j*2+1,none⟩) (λ_=>rfl) _).heap (O4.o.heap H3.o.2.2.1 (λf=>f)) (λe=>by omega)
   clear h4 L4 O4 z0 z1 z2 z3 KS y0 y2 h7 h5 B3 O3;go_wp2
   go_roundw
   case rel=>exact⟨j+1,by omega,by go_num,FF⟩
   case measure=>simp[intOf];omega
  ·obtain rfl:j=n:=by omega
   have dlt:decide ((j:Int)<(j:Int))=false:=Qh (by omega);have F:=Qa (And.intro hS.o.1 hS.o.2.1);clear hS;go_wp2;go_ret2;refine⟨_,rfl,λW' R hR o=>F.o.1.chs HN.o.1 hR (by have:=HN.o.2;omega) o,F.o.2⟩
theorem yU {m:LI} {v:Nat} {l:List Qk} (h:Yg m 0 l=0) {j:Nat} (hj:j<l.length):((QF m v l l.length).getD j []).length=(Q9 ((Um m l l.length).getD j ([],0)).2).toNat+16:=by
 have hc:=XY l 0 h j hj;rw[Nat.zero_add] at hc;have hs:=(Ta hc).2;rw[Rn m v l hj,Pn m l hj,St hs]
 show _=(Q9 (Ye _ _ _)).toNat+16
 unfold Ye;rw[if_pos hs,LM]
 rfl
theorem Nz {m:LI} {s:Yf} {v:Nat} {l:List Qk} (hv:v<18446744073709551616) (s8:U8 s.2) (hl:∀c∈l,CG c) (h100:l.length<=100) (h:QP m s v l=0):(MENC (Qz m s.2 v l)).length<=10000 :=
 PM (VT hv s8 hl h) (by show (Um m l l.length).length<=100;rw[KJ];exact h100)
theorem XN {m:LI} {s:Yf} {v:Nat} {l:List Qk} (hv:v<18446744073709551616) (s8:U8 s.2) (hl:∀c∈l,CG c) (h100:l.length<=100) (h:QP m s v l=0):Wh (QT m s v l)=.ok (Qz m s.2 v l,QI m s v l,QF m v l l.length):=by
 have hsm:=Nz hv s8 hl h100 h;unfold QT;rw[if_pos h];refine uU (VT hv s8 hl h) (Uc _ _) (by omega) ?_ ?_
 ·show (Um m l l.length).length=_;rw[KJ,Zq]
 ·intro j hj
  have hj':j<l.length:=by have:(Qz m s.2 v l).es.length=l.length:=KJ _ _ _;omega
  exact yU (KC h).2 hj'
theorem V5 {m:LI} {s:Yf} {v:Nat} {l:List Qk} (hv:v<18446744073709551616) (s8:U8 s.2) (hl:∀c∈l,CG c) (h:QP m s v l=0):UL m (QI m s v l)=0:=by
 have hL:(QI m s v l).length=(MENC (Qz m s.2 v l)).length+32:=by unfold QI;rw[Qb,Uc]
 unfold UL;rw[if_pos (Kv (KC h).1).1,if_neg (by omega),hL,Nat.add_sub_cancel]
 have e1:(QI m s v l).take (MENC (Qz m s.2 v l)).length=MENC (Qz m s.2 v l):=by unfold QI;exact List.take_left
 have e2:(QI m s v l).drop (MENC (Qz m s.2 v l)).length=MACL (Yv m) (MENC (Qz m s.2 v l)):=by unfold QI;exact List.drop_left
 rw[e1,e2,if_pos rfl];exact (kD (VT hv s8 hl h)).2
theorem AR_u8 {m:LI} {s:Yf} {v:Nat} {l:List Qk} (hv:v<18446744073709551616) (s8:U8 s.2) (hl:∀c∈l,CG c) (h:QP m s v l=0):U8 (QI m s v l)∧U8 (QT m s v l):=by
 have hg:U8 (QI m s v l):=by unfold QI;exact U8.app (PA (VT hv s8 hl h)) (VF _ _)
 refine⟨hg,?_⟩;unfold QT;rw[if_pos h];refine U8.app (WX _ hg) (λy hy=>?_);obtain⟨x,hx,hy⟩:=List.mem_flatten.1 hy;exact (J1 hl _ x hx).1 y hy
theorem He {m:LI} {s:Yf} {v:Nat} {l:List Qk} (hv:v<18446744073709551616) (s8:U8 s.2) (hl:∀c∈l,CG c) (h100:l.length<=100) (h:QP m s v l=0):(QI m s v l).length=(MENC (Qz m s.2 v l)).length+32∧(QT m s v l).length<=1000000000:=by
 have hL:(QI m s v l).length=(MENC (Qz m s.2 v l)).length+32:=by unfold QI;rw[Qb,Uc]
 have hsm:=Nz hv s8 hl h100 h;refine⟨hL,?_⟩;unfold QT;rw[if_pos h,Qb];have h1:=UW (QI m s v l) (by omega);have h2:=T8 (QF m v l l.length) 4194320 NK;rw[Zq] at h2;omega
theorem Mu (p q:Nat) (va vb:Value) (xs ys:LI) (w:World) (ha:Bs .u8 w va xs) (hb:Bs .u8 w vb ys) (hl:xs.length<=1000000000) :
 Calls prog 10 #[.agg #[.int .u64 p,va],.agg #[.int .u64 q,vb]] w λe w'=>e=.returned (.bool (decide (p=q∧xs=ys)))∧N0 w w':=by
 obtain⟨aa,ca,rfl⟩:=ha.len;obtain⟨ab,cb,rfl⟩:=hb.len;obtain⟨w0,h0⟩:=EX ((w.alloc (.cells #[.int .u64 p,.slice aa xs.length ca] 25)).alloc (.cells #[.int .u64 q,.slice ab ys.length cb] 25))
 have o0:N0 w w0:=by rw[h0];exact ((Only.refl _ _).alloc _).alloc _
 have gA:w0.heap[w.heap.size]? = some (.cells #[.int .u64 p,.slice aa xs.length ca] 25 (0,0)):=by rw[h0];exact Ub (heap_alloc_new _ _)
 have gB:w0.heap[w.heap.size+1]? = some (.cells #[.int .u64 q,.slice ab ys.length cb] 25 (0,0)):=by rw[h0];exact YS (by simp)
 obtain⟨a0,a1,_,_⟩:=Qw gA;obtain⟨b0,b1,_,_⟩:=Qw gB;have SM:=Qa (Nm _ _ xs ys w0 (ha.past o0) (hb.past o0) (by omega));have O:=Qa o0
 by_cases h:p=q
 ·have d1:((p:Int) == (q:Int))=true:=by rw[h];simp
  have e:decide (p=q∧xs=ys)=decide (xs=ys):=decide_eq_decide.2 ⟨λz=>z.2,λz=>⟨h,z⟩⟩;rw[e];obtain⟨t,ht⟩:=EX (decide (xs=ys));rw[<-ht] at SM ⊢;clear ha hb hl o0 gA gB h e ht;subst h0;go_enter func10,ntmps10;go_wp2_with fail;refine SM.o.mono ?_;rintro e w1 ⟨rfl,o1⟩;have F:=Qa (O.o.same o1);clear SM o1 O;go_wp2;go_ret;exact⟨rfl,F.o⟩
 ·have d1:((p:Int) == (q:Int))=false:=by rw[beq_eq_false_iff_ne];omega
  rw[Qh (λz=>h z.1)];clear ha hb hl o0 gA gB h SM;subst h0;go_enter func10,ntmps10;go_wp2;go_ret;exact⟨rfl,O.o⟩
theorem kI {m r:LI} {p v:Nat} {s:Yf} {l:List Qk} (hv:v<18446744073709551616) (s8:U8 s.2) (hl:∀c∈l,CG c) (h:QP m s v l=0) (ht:r.length=0∨p<v∨(p=v∧r=QD (QF m v l l.length))) :
 Y8 m (p,r) (Qz m s.2 v l) (QI m s v l)=0:=by
 unfold Y8;rw[if_pos (V5 hv s8 hl h)]
 split
 ·rfl
 ·rename_i hr
  have hr':¬r.length=0:=hr;rw[if_neg (show ¬(Qz m s.2 v l).ver<p from (by show ¬v<p;rcases ht with q | q | q <;> omega))];rw[if_neg];rintro⟨e1,e2⟩
  rcases ht with q | q | q
  ·exact hr q
  ·have e1':v=p:=e1
   omega
  ·exact e2 q.2.symm
theorem vN {m r:LI} {p v:Nat} {s:Yf} {l:List Qk} (hv:v<18446744073709551616) (s8:U8 s.2) (hl:∀c∈l,CG c) (h:QP m s v l=0) (hr:r.length=32) (hp:v<p) :
 Y8 m (p,r) (Qz m s.2 v l) (QI m s v l)=6:=by
 unfold Y8;rw[if_pos (V5 hv s8 hl h),if_neg (by show ¬r.length=0;omega),if_pos (show (Qz m s.2 v l).ver<p from hp)]
theorem wu {m r:LI} {v:Nat} {s:Yf} {l:List Qk} (hv:v<18446744073709551616) (s8:U8 s.2) (hl:∀c∈l,CG c) (h:QP m s v l=0) (hr:r.length=32) (hp:r≠QD (QF m v l l.length)) :
 Y8 m (v,r) (Qz m s.2 v l) (QI m s v l)=7:=by
 unfold Y8;rw[if_pos (V5 hv s8 hl h),if_neg (by show ¬r.length=0;omega),if_neg (show ¬(Qz m s.2 v l).ver<v from Nat.lt_irrefl v),if_pos ⟨rfl,λe=>hp e.symm⟩]
theorem DL (vk vt vb:Value) (m r:LI) (p v:Nat) (s:Yf) (l:List Qk) (w:World) (bk:Bs .u8 w vk m) (k8:U8 m) (bt:Bs .u8 w vt r) (r8:U8 r) (hb:Bs .u8 w vb (QT m s v l))
 (hv:v<18446744073709551616) (s8:U8 s.2) (hg:CL l) (h100:l.length<=100) (h0:QP m s v l=0) (hr:r.length=0∨r.length=32) (ht:r.length=0∨p<v∨(p=v∧r=QD (QF m v l l.length))) (hT:Tab w) :
 Calls prog 8 #[vk,.agg #[.int .u64 p,vt],vb] w λe w'=>∃c rv,e=.returned (.tuple #[c,.agg #[.int .u64 v,rv],.int .i64 0])∧Chs w' c l∧Bs .u8 w' rv (QD (QF m v l l.length))∧NoCap rv∧N0 w w':=by
 have hl:∀c∈l,CG c:=λc hc=>(hg c hc).1
 obtain⟨hmb,hsa⟩:=KC h0
 exact SR vk vt vb m r _ _ p (Qz m s.2 v l) _ l w bk k8 bt r8 hb (AR_u8 hv s8 hl h0).2 (by have:=(He hv s8 hl h100 h0).2;omega) (Kv hmb).1 hr (XN hv s8 hl h100 h0) (J1 hl _) (by rw[Zq];omega) rfl (kI hv s8 hl h0 ht)
  (xk vk m (Qz m s.2 v l) v l w bk k8 hg (by omega) hsa rfl rfl hT)
abbrev K22:LI:=List.replicate 32 0
theorem X6:U8 K22:=λy hy=>by have:=List.eq_of_mem_replicate hy;omega
theorem KD:QP K22 (0,[]) 3 []=0:=by
 unfold QP Un;rw[if_pos (c:=K22.length=32∧ZI (0,[])∧3≠18446744073709551615) ⟨rfl,.inl rfl,by decide⟩]
 rfl
theorem Xu:∀c∈([]:List Qk),CG c:=λc h=>by cases h
theorem AR0_m:Qz K22 [] 3 []=⟨3,List.replicate 32 0,[],QD []⟩:=rfl
theorem Ht:(QT K22 (0,[]) 3 []).length=111:=by
 have e1:(MENC (Qz K22 [] 3 [])).length=78:=by
  rw[AR0_m];have e2:QE ⟨3,List.replicate 32 0,[],QD []⟩=[]:=List.eq_nil_of_length_eq_zero (by have:=Zj ⟨3,List.replicate 32 0,[],QD []⟩;simpa using this)
  have e3:(gs 0).length=1:=by rw[UV (by omega)];rfl
  unfold MENC;rw[e2];simp only[Qb,Qt,List.length_replicate,List.length_nil,List.map_nil,List.flatten_nil,US,Q7,Qj,e3]
 have e4:(QI K22 (0,[]) 3 []).length=110:=by unfold QI;rw[Qb,Uc];show (MENC (Qz K22 [] 3 [])).length+32=_;rw[e1]
 unfold QT;rw[if_pos KD,Qb];unfold blk;rw[Qb,e4,UV (by omega)]
 rfl
theorem pI:Y8 K22 (3,QD []) (Qz K22 [] 3 []) (QI K22 (0,[]) 3 [])=0:=by
 unfold Y8;rw[if_pos (V5 (s:=(0,[])) (by decide) (λy hy=>by cases hy) Xu KD),AR0_m];simp
theorem tG:Y8 K22 (4,K22) (Qz K22 [] 3 []) (QI K22 (0,[]) 3 [])=6:=by
 unfold Y8;rw[if_pos (V5 (s:=(0,[])) (by decide) (λy hy=>by cases hy) Xu KD),AR0_m];simp
theorem SF (w:World) (hT:Tab w):Calls prog 5 #[] w λe w'=>e=.returned (.bool true)∧N0 w w':=by
 obtain⟨wm,h3,h7,om⟩:=Hw w 32 (by omega);rw[show ((32:Nat):Int)=32 from rfl] at h3;have bK:=h7.bs 32 (by simp);obtain⟨N,hN⟩:=EX w.heap.size;rw[<-hN] at bK h3;obtain⟨S,hS⟩:=EX (Value.slice (some ⟨N,0,none⟩) 32 32);rw[<-hS] at bK
 have h1:U8 []:=λy hy=>by cases hy
 have BD:=Qa (Jp S NIL NIL K22 [] 0 3 [] wm bK X6 (Bs.nil _ _) NoCap.nil h1 ⟨_,0,rfl,Nat.le_refl _,λh=>absurd rfl h⟩ (λc h=>by cases h) (by simp) (by decide) (hT.past om));have h4:=XN (m:=K22) (s:=(0,[])) (v:=3) (by decide) h1 Xu (by simp) KD;have h8:=AR_u8 (m:=K22) (s:=(0,[])) (v:=3) (by decide) h1 Xu KD;have OP:=Qa (λ(W:World) (vt vb:Value) (bk:Bs .u8 W S K22) (bt:Bs .u8 W vt (QD [])) (bb:Bs .u8 W vb (QT K22 (0,[]) 3 []))=>SR S vt vb K22 (QD []) _ _ 3 _ _ [] W bk X6 bt (VO _) bb h8.2 (by rw[Ht];omega) rfl (.inr (US _)) h4 (λx hx=>by cases hx) (by simp[QF]) rfl pI (gT _ _ _));have ON:=Qa (λ(W:World) (vb:Value) (bk:Bs .u8 W S K22) (bb:Bs .u8 W vb (QT K22 (0,[]) 3 []))=>Jk S S vb K22 K22 _ _ 4 _ _ W bk X6 bk X6 bb h8.2 (by rw[Ht];omega) rfl (.inr rfl) h4 tG (by decide));have e1:YN K22 (0,[]) 3 []=(3,QD []):=if_pos KD;rw[KD,e1] at BD;simp only[show (Qz K22 [] 3 []).ver=3 from rfl,show (Qz K22 [] 3 []).root=QD [] from rfl] at OP
 have SS:=Qa (show ∀(W:World) (va vb:Value),Bs .u8 W va (QD [])->Bs .u8 W vb (QD [])->Calls prog 10 #[.agg #[.int .u64 (3:Nat),va],.agg #[.int .u64 (3:Nat),vb]] W λe w'=>e=.returned (.bool true)∧N0 W w' from λW va vb ha hb=>by
  have:=Mu 3 3 va vb (QD []) (QD []) W ha hb (by rw[US];decide)
  rwa [Qc ⟨rfl,rfl⟩] at this)
 have HL:=Qa (And.intro Ht (US []));obtain⟨A,hA⟩:=EX (QT K22 (0,[]) 3 []);obtain⟨R,hR⟩:=EX (QD []);simp only[<-hA,<-hR] at BD OP ON SS HL;have B0:=Qa (And.intro bK om);simp only[show ((0:Nat):Int)=0 from rfl,show ((3:Nat):Int)=3 from rfl,show ((4:Nat):Int)=4 from rfl] at BD OP ON SS;clear h7 om bK h4 h8 e1 hA hR hT h1 hN;subst hS;go_enter func5,ntmps5;go_wp2_with fail;refine BD.o.mono ?_;rintro e w1 ⟨u,ru,rfl,bu⟩;obtain⟨au,cu,rfl⟩:=(Bs.of_own (k:=.u8) (E:=5) bu.t).len;obtain⟨ar,cr,rfl⟩:=bu.r.len;obtain⟨W2,h2⟩:=EX (w1.alloc (.cells #[.int .u64 3,.slice ar R.length cr] 25))
 have o2:N0 w1 W2:=by rw[h2];exact (Only.refl _ _).alloc _
 have g2:=show W2.heap[w1.heap.size]? = some (.cells #[.int .u64 3,.slice ar R.length cr] 25 (0,0)) by rw[h2];exact heap_alloc_new _ _
 have hld:=Vr g2;obtain⟨c0,c1,_,_⟩:=Qw g2;have h9:=Qa (OP.o W2 _ _ (B0.o.1.past (bu.o.same o2)) (bu.r.past o2) ((Bs.of_own (k:=.u8) (E:=5) bu.t).past o2));have H2:=Qa (And.intro (bu.o.same o2) (And.intro g2 (And.intro (bu.r.past o2) ((Bs.of_own (k:=.u8) (E:=5) bu.t).past o2))));clear bu o2 g2 BD OP h3;subst h2;go_wp2_with fail;refine h9.o.mono ?_;rintro e w3 ⟨c,rv,rfl,hd,h5,_,o3⟩;obtain⟨ac,cc,rfl,_⟩:=hd.len;obtain⟨av,cv,rfl⟩:=h5.len;obtain⟨W4,h6⟩:=EX (w3.alloc (.cells #[.int .u64 3,.slice av R.length cv] 25))
 have o4:N0 w3 W4:=by rw[h6];exact (Only.refl _ _).alloc _
 have g4:=show W4.heap[w3.heap.size]? = some (.cells #[.int .u64 3,.slice av R.length cv] 25 (0,0)) by rw[h6];exact heap_alloc_new _ _
 have h0:=o3.same o4;have hg:=Qa (ON.o W4 _ (B0.o.1.past (H2.o.1.same h0)) (H2.o.2.2.2.past h0));have H4:=Qa (And.intro (H2.o.1.same h0) (And.intro (h0.heap H2.o.2.1 (λf=>f)) (And.intro g4 (And.intro (H2.o.2.2.1.past h0) (h5.past o4)))));clear hd h5 o3 o4 h0 g4 H2 h9 ON c0 c1 hld;subst h6;go_wp2_with fail;refine hg.o.mono ?_;rintro e w5 ⟨rfl,o5⟩;obtain⟨W6,hf⟩:=EX (w5.alloc (.cells #[.int .u64 0,.slice none 0 0] 25));have o6:=o5.same (show N0 w5 W6 by rw[hf];exact (Only.refl _ _).alloc _);obtain⟨c0,c1,_,_⟩:=Qw (o6.heap H4.o.2.1 (λf=>f));obtain⟨d0,d1,_,_⟩:=Qw (o6.heap H4.o.2.2.1 (λf=>f));have he:=Qa (SS.o W6 _ _ (H4.o.2.2.2.1.past o6) (H4.o.2.2.2.2.past o6));have F:=Qa (B0.o.2.same (H4.o.1.same o6))
 have l1:(A.length:Int)=111:=by rw[HL.o.1];rfl
 have l2:(R.length:Int)=32:=by rw[HL.o.2];rfl
 clear o5 o6 H4 hg SS B0;subst hf;go_wp2_with fail;refine he.o.mono ?_;rintro e w7 ⟨rfl,o7⟩;have F2:=Qa (F.o.same o7);clear o7 F he;go_wp2;go_ret;exact⟨rfl,F2.o⟩
section
open Go.ChangeShapes Go.WideShapes
abbrev FEWC (l:List Qk):Prop:=l.length<=12∧∀j,j<l.length->(l.getD j Qv).2.length<=60∧(l.getD j Qv).1.length<=300
theorem Rb (vl:Value) (l:List Qk) (w:World) (hc:Chs w vl l) (hg:CL l) (hT:∀c∈l,U8 c.1) :
 ∃b,(b=true->FEWC l)∧Calls prog 6 #[vl] w λe w'=>e=.returned (.bool b)∧w=w':=by
 obtain⟨ao,cap,rfl,h0⟩:=hc.len;obtain⟨n,hn⟩:=EX l.length
 by_cases h12:12<n
 ·refine⟨false,(λh=>by cases h),?_⟩
  have d1:decide ((12:Int)<(n:Int))=true:=Qc (by omega);have d2:decide (12<n)=true:=Qc h12;rw[<-hn];clear hc hg hT h0 hn h12;go_enter func6,ntmps6;go_wp2;go_ret;exact⟨rfl,rfl⟩
 ·obtain⟨b,hb⟩:=EX (decide (FEWC l))
  refine⟨b,λh=>of_decide_eq_true (by rw[<-hb];exact h),?_⟩;have d1:decide ((12:Int)<(n:Int))=false:=Qh (by omega);have d2:decide (12<n)=false:=Qh h12;have HC:=Qa hc;have HG:=Qa (And.intro hg (And.intro hT (And.intro hb hn)))
  have hn12:n<=12:=by omega
  rw[<-hn] at HC h0;rw[<-hn];clear hc hg hT hb hn h12;go_enter func6,ntmps6;go_wp2
  go_loopw [3] (λi wr=>∃k:Nat,k<=n∧i=.int .i64 k∧wr=w∧Hid (∀j,j<k->(l.getD j Qv).2.length<=60∧(l.getD j Qv).1.length<=300)) (λi _=>n - (intOf i).toNat)
  case atStart=>exact⟨0,Nat.zero_le _,rfl,rfl,λj hj=>by omega⟩
  case round =>
   obtain⟨k,hk,rfl,rfl,hS⟩:=hrel
   by_cases hlt:k<n
   ·have dlt:decide ((k:Int)<(n:Int))=true:=Qc (by omega)
    have dlt':decide (k<n)=true:=Qc hlt
    have h4:k<l.length:=by rw[<-HG.o.2.2.2];exact hlt
    obtain⟨bb,off,u,ea,ha,hc1,h7⟩:=HC.o.at k h4;subst ea;obtain⟨c,h3⟩:=EX (l.getD k Qv);rw[<-h3] at ha h7
    have h9:U8 c.1:=by rw[h3,Qd,Qi h4];exact HG.o.2.1 _ (List.getElem_mem h4)
    obtain⟨t,ht⟩:=EX (strOfNums c.1)
    have h8:t.size=c.1.length:=by rw[ht,<-QS,sb_of h9]
    rw[<-ht] at ha
    obtain⟨au,cu,rfl,_⟩:∃a c',u=.slice a c.2.length c'∧True:=by obtain⟨a,c',e,_⟩:=h7;exact⟨_,_,e,trivial⟩
    obtain⟨sl,h6⟩:=EX c.2.length;obtain⟨tl,h5⟩:=EX t.size;rw[<-h6] at hc1
    have i0:(0:Int)<=(k:Int):=by omega
    have i1:(k:Int)<(n:Int):=by omega
    have HX:=Qa (And.intro h3 (And.intro h6 (And.intro h5 h8)));clear h3 h6 h8 h9 ht h4 h7
    by_cases h1:60<sl
    ·have e1:decide ((60:Int)<(sl:Int))=true:=Qc (by omega)
     have e2:decide (60<sl)=true:=Qc h1
     have hF:Hid (false=b):=by
      show false=b
      rw[HG.o.2.2.1]
      symm
      refine Qh (λz=>?_);have:=(z.2 k (by rw[<-HG.o.2.2.2];exact hlt)).1;rw[<-HX.o.1,<-HX.o.2.1] at this;omega
     clear h5 h1;go_wp2;go_ret;exact⟨by rw[hF.o];rfl,rfl⟩
    ·have e1:decide ((60:Int)<(sl:Int))=false:=Qh (by omega)
     have e2:decide (60<sl)=false:=Qh h1
     by_cases h2:300<tl
     ·have e3:decide ((300:Int)<(t.size:Int))=true:=Qc (by omega)
      have e4:decide (300<t.size)=true:=Qc (by omega)
      have hF:Hid (false=b):=by
       show false=b
       rw[HG.o.2.2.1]
       symm
       refine Qh (λz=>?_);have:=(z.2 k (by rw[<-HG.o.2.2.2];exact hlt)).2;rw[<-HX.o.1,<-HX.o.2.2.2,<-HX.o.2.2.1] at this;omega
      clear h5 h1 h2;go_wp2;go_ret;exact⟨by rw[hF.o];rfl,rfl⟩
     ·have e3:decide ((300:Int)<(t.size:Int))=false:=Qh (by omega)
      have e4:decide (300<t.size)=false:=Qh (by omega)
      have N1:Hid (∀j,j<k+1->(l.getD j Qv).2.length<=60∧(l.getD j Qv).1.length<=300):=by
       intro j hj
       by_cases hjk:j<k
       ·exact hS.o j hjk
       ·have:j=k:=by omega
        subst this;rw[<-HX.o.1,<-HX.o.2.1,<-HX.o.2.2.2,<-HX.o.2.2.1];omega
      clear h5 h1 h2 hS;go_wp2
      go_roundw
      case rel=>exact⟨k+1,by omega,by go_num,trivial,N1⟩
      case measure=>simp[intOf];omega
   ·obtain rfl:k=n:=by omega
    have dlt:decide ((k:Int)<(k:Int))=false:=Qh (by omega)
    have hF:Hid (true=b):=by
     show true=b
     rw[HG.o.2.2.1]
     symm
     refine Qc ⟨by have:=HG.o.2.2.2;omega,λj hj=>hS.o j (by have:=HG.o.2.2.2;omega)⟩
    clear hS;go_wp2;go_ret;exact⟨by rw[hF.o];rfl,rfl⟩
theorem tx {H:Type} {enc:TypeId × Value->H} {fuel:Nat} {u:Value} {x:DataW H × List MemPlace}
 (hf:DataW.trod enc prog W 0 (λ_=>true) true fuel 26 [u]=some x):∃l:List Qk,Chs W u l∧CL l∧l.length<=maxLen:=by
 rcases Deep.open_slice_pairs underlying26 underlying42 (by kernel_rfl) rfl rfl (by kernel_rfl) (by kernel_rfl) hf with ⟨hcs,_⟩ | ⟨x,l,c,m,n,V0,V1,D0,D1,P0,P1,hcs,_,hl,hm,hmm,_,hi⟩
 ·simp at hcs
  subst hcs;exact⟨[],⟨none,0,rfl,Nat.le_refl _,λh=>absurd rfl h⟩,λc h=>(by cases h),by simp⟩
 ·simp at hcs
  subst hcs;simp only[if_true] at hmm;rw[hmm] at hi;clear hmm
  have h6:∀i,i<l->∃q:Qk × Value,W.cell? (x.add (i*2))=some (.string (strOfNums q.1.1))∧W.cell? (x.add (i*2+1))=some q.2∧Sps W q.2 q.1.2∧CG q.1∧q.1.1.length<=maxLen∧q.1.2.length<=maxLen:=by
   intro i hlt;obtain⟨c0,c1,t0,t1⟩:=hi i (by omega);obtain⟨q0,e0,_,w0⟩:=DataW.trod_string underlying9 t0;obtain⟨s,h1,h2,h3⟩:=tK t1;simp at e0;exact⟨((sb q0,s),V1 i),by rw[c0,e0,of_sb],c1,h1,⟨Kr q0,h2⟩,by rw[QS];exact w0,h3⟩
  obtain⟨q,hq⟩:=Deep.choose_lt h6
  have h5:∀j,j<l->((List.range l).map λj=>(q j).1).getD j Qv=(q j).1:=λj hj=>by
   rw[Qd];simp[hj]
  refine⟨(List.range l).map λj=>(q j).1,⟨some x,c,by simp,by simpa using hl,λhne=>?_⟩,?_,by simp;omega⟩
  ·have hp:0<l:=by
    cases l with
    | zero=>simp at hne
    | succ n=>omega
   obtain⟨b,off,h7⟩:=x
   have h4:h7=none:=by simpa [Addr.add] using World.cell?_spot (hq 0 hp).1
   subst h4;refine⟨b,off,rfl,λj hj=>?_⟩
   have h8:j<l:=by simpa using hj
   rw[h5 j h8];obtain⟨h0,h1,h2,_⟩:=hq j h8;rw[Go.WideShapes.add_plain] at h0 h1;exact⟨(q j).2,h0,by rw[Nat.add_assoc];exact h1,h2⟩
  ·intro y hy
   simp only[List.mem_map,List.mem_range] at hy;obtain⟨j,hj,rfl⟩:=hy;exact (hq j hj).2.2.2
theorem Sk {H:Type} {enc:TypeId × Value->H} {a:Option Addr} {len cap:Nat} {d:DataW H} {p:List MemPlace}
 (h:DataW.Trod enc prog W 0 (λ_=>true) true 26 (.slice a len cap) d p):∃l:List Qk,Chs W (.slice a len cap) l∧CL l:=by
 obtain⟨fuel,hf⟩:=h;obtain⟨l,h1,h2,_⟩:=tx (u:=.slice a len cap) hf;exact⟨l,h1,h2⟩
theorem Fk {H:Type} {enc:TypeId × Value->H} {r:Reach} {b0:Nat} {d:DataW H} {p:List MemPlace} (hval:Value.okWide prog W r b0 25 v)
 (h:DataW.Trod enc prog W 0 (λ_=>true) true 25 v d p) :
 ∃(q:Nat) (vr:Value) (xs:LI),v=.agg #[.int .u64 q,vr]∧q<18446744073709551616∧Bs .u8 W vr xs∧NoCap vr∧U8 xs:=by
 obtain⟨cs,rfl,h0⟩:=okWide_struct underlying25 hval;obtain⟨fuel,hf⟩:=h
 have hc2:prog.cellsOf 25=2:=by kernel_rfl
 rw[hc2] at h0
 obtain⟨v0,v1,rfl⟩:∃v0 v1,cs=#[v0,v1]:=by
  obtain⟨l⟩:=cs
  match l,h0 with
  | [a,b],_=>exact⟨a,b,rfl⟩
 obtain⟨y0,y1,n,_,_,g0,g1⟩:=trod_struct2 underlying25 hf
 have k0:prog.cellsOf 23=1:=by kernel_rfl
 have k1:prog.cellsOf 22=1:=by kernel_rfl
 simp[Value.cells,k0,k1] at g0 g1;obtain⟨t,e0,_,w0⟩:=DataW.trod_int underlying23 g0;simp at e0;subst e0
 have hb:0<=t∧t<=18446744073709551615:=by simpa [Lit.wf,IntKind.min,IntKind.max,IntKind.signed,IntKind.bits] using w0
 obtain⟨xs,h1,h2,h3⟩:=tJ g1;exact⟨t.toNat,v1,xs,by rw[show ((t.toNat:Nat):Int)=t by omega],by omega,h1,h2,h3⟩
end
theorem Db {f:Nat} {args:Array Value} (h:Calls prog f args w λe w'=>e=.returned (.bool true)∧N0 w w'):Calls prog f args w λe w'=>e=.returned (.bool true)∧Below w.heap.size w w':=by
 refine h.mono ?_;rintro e w' ⟨rfl,o⟩;exact⟨rfl,o.low (Nat.le_refl _)⟩
theorem At (va vb:Value) (xs ys:LI) (w:World) (ha:Bs .u8 w va xs) (hb:Bs .u8 w vb ys) (hl:xs.length<=1000000000) :
 Calls prog 11 #[va,vb] w λe w'=>e=.returned (.bool (decide (xs=ys)))∧N0 w w':=by
 have A:=Qa (Nm va vb xs ys w ha hb (by omega));obtain⟨aa,ca,rfl⟩:=ha.len;obtain⟨ab,cb,rfl⟩:=hb.len;obtain⟨n,hn⟩:=EX xs.length;obtain⟨n',h0⟩:=EX ys.length;obtain⟨d,hd⟩:=EX (decide (xs=ys));rw[<-hn,<-h0,<-hd] at A ⊢;clear ha hb hl hn h0 hd;go_enter func11,ntmps11;go_wp2_with fail;refine A.o.mono ?_;rintro e w1 ⟨rfl,o1⟩;have F:=Qa o1;clear A o1;go_wp2;go_ret;exact⟨rfl,F.o⟩
theorem zQ (vk vt vb:Value) (m r:LI) (v:Nat) (s:Yf) (l:List Qk) (w:World) (bk:Bs .u8 w vk m) (k8:U8 m) (bt:Bs .u8 w vt r) (r8:U8 r) (hb:Bs .u8 w vb (QT m s v l))
 (hv:v<18446744073709551616) (s8:U8 s.2) (hg:CL l) (h100:l.length<=100) (h0:QP m s v l=0) (hr:r.length=32) (hT:Tab w) :
 Calls prog 8 #[vk,.agg #[.int .u64 v,vt],vb] w λe w'=>∃a n k g a2 n2 k2,e=.returned (.tuple #[.slice a2 n2 k2,.agg #[.int .u64 g,.slice a n k],.int .i64 (if r=QD (QF m v l l.length) then 0 else 7)])∧N0 w w':=by
 have hl:∀c∈l,CG c:=λc hc=>(hg c hc).1
 obtain⟨hmb,_⟩:=KC h0
 by_cases hq:r=QD (QF m v l l.length)
 ·rw[if_pos hq]
  refine (DL vk vt vb m r v v s l w bk k8 bt r8 hb hv s8 hg h100 h0 (.inr hr) (.inr (.inr ⟨rfl,hq⟩)) hT).mono ?_;rintro e w' ⟨c,rv,rfl,hc,hrv,_,o⟩;obtain⟨a2,k2,rfl,_⟩:=hc.len;obtain⟨a,k,rfl⟩:=hrv.len;exact⟨_,_,_,_,_,_,_,rfl,o⟩
 ·rw[if_neg hq]
  refine (Jk vk vt vb m r _ _ v (Qz m s.2 v l) _ w bk k8 bt r8 hb (AR_u8 hv s8 hl h0).2 (by have:=(He hv s8 hl h100 h0).2;omega) (Kv hmb).1 (.inr hr) (XN hv s8 hl h100 h0) (wu hv s8 hl h0 hr hq) (by decide)).mono ?_;rintro e w' ⟨rfl,o⟩;exact⟨_,_,_,_,_,_,_,rfl,o⟩
theorem Iq (vk vt vb:Value) (m r:LI) (p v:Nat) (s:Yf) (l:List Qk) (w:World) (bk:Bs .u8 w vk m) (k8:U8 m) (bt:Bs .u8 w vt r) (r8:U8 r) (hb:Bs .u8 w vb (QT m s v l))
 (hv:v<18446744073709551616) (s8:U8 s.2) (hg:CL l) (h100:l.length<=100) (h0:QP m s v l=0) (hr:r.length=32) (hp:v<p) :
 Calls prog 8 #[vk,.agg #[.int .u64 p,vt],vb] w λe w'=>e=.returned (.tuple #[NIL,.agg #[.int .u64 0,NIL],.int .i64 6])∧N0 w w':=by
 have hl:∀c∈l,CG c:=λc hc=>(hg c hc).1
 obtain⟨hmb,_⟩:=KC h0;exact Jk vk vt vb m r _ _ p (Qz m s.2 v l) _ w bk k8 bt r8 hb (AR_u8 hv s8 hl h0).2 (by have:=(He hv s8 hl h100 h0).2;omega) (Kv hmb).1 (.inr hr) (XN hv s8 hl h100 h0) (vN hv s8 hl h0 hr hp) (by decide)
end Go.Proofs.YteciafpneamfaaaGreatDoor
