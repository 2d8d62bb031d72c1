import Derived.Test.YtiochaeeoelmjaaGreatDoorG18
import Derived.Test.YtiochaeeoelmjaaGreatDoorG22
namespace Go.Proofs.YtiochaeeoelmjaaGreatDoor
set_option maxHeartbeats 8000000
set_option maxRecDepth 100000
open Go.RowKit _root_.Go.Proofs.Tryz
variable {w w' W:World} {v:Value} {ys xs l:LI} {R n p k g B:Nat} {P:Program} {ls:List (LI)} {E:TypeId}
theorem and32 (n:Nat) (h:n<=65536):bits .and .u64 (n:Int) 4294967295=n:=by
 have:=bits_and_u64_nat n 4294967295 (by omega) (by omega);rw[show (4294967295:Nat)=2^32 - 1 by decide,Nat.and_two_pow_sub_one_eq_mod,Nat.mod_eq_of_lt (by omega)] at this;exact this
theorem I0 (n:Nat) (w:World) (h:n<=65536):Calls prog 282 #[.int .u64 1,.int .u64 n] w λe w'=>e=.returned (.tuple #[.int .u64 0,.int .u64 n])∧w=w':=by
 have e1:bits .and .u64 1 4294967295=1:=and32 1 (by omega);have e0:bits .and .u64 0 4294967295=0:=and32 0 (by omega);have e2:=and32 n h
 have e3:(n:Int) / 4294967296=0:=by omega
 have e4:IntKind.u64.wrap (n:Int)=n:=by rw[IntKind.wrap_u64];omega
 have e5:IntKind.u64.wrap 0=0:=by rw[IntKind.wrap_u64];rfl
 go_enter func282,ntmps282;go_wp2;go_ret2;exact⟨rfl,rfl⟩
theorem mul_one (n:Nat) (w:World) (h:n<=65536):Calls prog 272 #[.int .u64 1,.int .u64 n] w λe w'=>e=.returned (.tuple #[.int .u64 0,.int .u64 n])∧w=w':=by
 have A:=Qa (I0 n w h);clear h;go_enter func272,ntmps272;go_wp2_with fail;refine A.o.mono ?_;rintro e w1 ⟨rfl,rfl⟩;go_wp2;go_ret2;exact⟨rfl,rfl⟩
def fill (x:Int) (n k:Nat):List Value:=(List.replicate k x++List.replicate (n - k) 0).map (Value.int .u64)
theorem Zd (x:Int) {n k:Nat} (h:k<=n):(fill x n k).length=n:=by simp[fill];omega
theorem vy (x:Int) (n:Nat):fill x n n=(List.replicate n x).map (Value.int .u64):=by simp[fill]
theorem jq (x:Int) (n:Nat):fill x n 0=(madeCells #[Value.int .u64 0] (n*1)).toList:=by
 apply List.ext_getElem?
 intro i
 by_cases h:i<n
 ·simp[fill,madeCells,h,Nat.mod_one]
 ·simp[fill,madeCells,h]
theorem T8 (x:Int) {n k m:Nat}:splice (fill x n k) k ((List.replicate m x).map (Value.int .u64))=fill x n (k+m):=by
 unfold splice fill
 rw[List.map_append,List.map_append,List.take_left' (by simp),List.drop_append,List.drop_of_length_le (by simp),List.length_map,List.length_replicate,List.length_map,List.length_replicate,
  <-List.map_drop,List.drop_replicate,List.nil_append,<-List.append_assoc,<-List.map_append,List.replicate_append_replicate,show k+m - k=m by omega,show n - k - m=n - (k+m) by omega]
theorem BH (x:Int) {n k j:Nat} (hj:j<k):(fill x n k)[j]? = some (.int .u64 x):=by
 unfold fill;rw[List.map_append,List.getElem?_append_left (by simp;exact hj)];simp[hj]
theorem DA {N n:Nat} {x:Int} (hk:k<=n) (hn:n<=65536) (h:w.heap[N]? = some (.cells (fill x n k).toArray 29 (0,0))):w.ownsRow N 29 1 (.slice (some ⟨N,0,none⟩) n n) n (fill x n k) :=
 ⟨by rw[Zd x hk];omega,.inr ⟨N,n,_,rfl,Nat.le_refl _,h,Nat.le_refl _,by unfold maxLen;omega,by simp[Zd x hk],List.take_of_length_le (by rw[Zd x hk];omega)⟩⟩
theorem Ir {N n:Nat} {xs:List Value} (h:w.ownsRow N 29 1 (.slice (some ⟨N,0,none⟩) n n) n xs):w.heap[N]? = some (.cells xs.toArray 29 (0,0)):=by
 rcases h.2 with ⟨e,_⟩ | ⟨g,cap,cur,e,_,hg,_,_,hs,ht⟩
 ·cases e
 ·simp at e
  obtain⟨rfl,rfl⟩:=e;rw[List.take_of_length_le (by simp;omega)] at ht;rw[hg,<-ht]
theorem By (x:Int) (m:Nat):∀v∈(List.replicate m x).map (Value.int .u64),v.oneCell'=true:=KF .u64 _
theorem lk (B:Nat) (x:Int) (n:Nat) (w:World) (hc:w.cell? ⟨B,0,none⟩=some (.int .u64 x)) (hn:n<=65536) :
 Calls prog 259 #[.slice (some ⟨B,0,none⟩) 1 1,.int .i64 n] w λe w'=>∃u,e=.returned u∧w'.ownsRow w.heap.size 29 1 u n ((List.replicate n x).map (Value.int .u64))∧N0 w w':=by
 obtain⟨i0,hi,hz0,ho,hz2⟩:=info_parts Tryz.infoU64
 have h8:(prog.info? 29).map (·.size)=some 1:=by rw[hi];simp[ho]
 obtain⟨wm,hmk,h3,hp⟩:=run_make_full (P:=prog) w w.heap.size 76 29 i0 (.int .u64 0) 1 underlying76 hi hz0 ho .i64 .i64 n (by rw[hz2];omega) (by unfold maxLen;omega) Zu;rw[show (Value.int .u64 0).cells=#[Value.int .u64 0] from rfl,<-jq x] at h3;have h5:=Qa (Ir h3);have om:N0 w wm:=VG.grown hp (λ_ _ e=>by cases e);have hd:Below w.heap.size w wm:=om.low Zu;have h7:=Qa hd;have hh:wm.cell? ⟨B,0,none⟩=some (.int .u64 x):=(hd.cell (p:=⟨B,0,none⟩) (World.block_lt_of_cell? w _ hc)).trans hc;have M:=Qa (mul_one n w hn);obtain⟨N,hN⟩:=EX w.heap.size;rw[<-hN] at hmk h5 h7;rw[<-hN];have HN:=Qa hN;have HCM:=Qa hh
 have d0:decide ((n:Int)<0)=false:=by simp
 have d2:decide ((9223372036854775807:Int)<(n:Int))=false:=Qi (by omega);clear hN h3 hp om hd hh;go_enter func259,ntmps259;go_wp2_with fail;refine M.o.mono ?_;rintro e w1 ⟨rfl,rfl⟩;clear M;obtain⟨k0,h4⟩:=EX (Nat.min 1 n)
 have hg:k0<=n∧(k0=0->n=0):=by rw[h4];have:Nat.min 1 n=min 1 n:=rfl;omega
 have HCP:∃w3,(Builtin.copy_ #[76,76] 3 #[.slice (some ⟨N,0,none⟩) n n,.slice (some ⟨B,0,none⟩) 1 1]).run prog wm=.ok (.int .i64 k0) w3∧w3.heap[N]? = some (.cells (fill x n k0).toArray 29 (0,0))∧Below N w w3:=by
  by_cases h0:n=0
  ·subst h0
   obtain rfl:k0=0:=by omega
   exact⟨wm,run_copy_none (P:=prog) wm 76 76 3 29 _ _ 0 0 1 1 underlying76 h8 rfl,h5.o,h7.o⟩
  ·obtain rfl:k0=1:=by rw[h4];have:Nat.min 1 n=min 1 n:=rfl;omega
   have h9:=run_copy_row (P:=prog) wm 76 76 3 29 N 0 n n ⟨B,0,none⟩ 1 1 (fill x n 0).toArray 29 [.int .u64 x] underlying76 h8 h5.o h4
    (λj v hv=>by
     rcases j with _ | j
     ·simp at hv;subst hv;exact HCM.o
     ·simp at hv) (by simp[Zd];omega) (by intro v hv;simp at hv;subst hv;rfl)
   refine⟨_,h9,?_,below_setRow h7.o (Nat.le_refl _) _⟩;rw[setRow_heap wm N _ _ 29 _ h5.o];have:=T8 x (n:=n) (k:=0) (m:=1);simp only[splice,List.replicate_one,List.map_cons,List.map_nil] at this;rw[<-this];simp
 obtain⟨w3,hcp,hl,hq⟩:=HCP;have h2:=Qa (Vz hg (Vz hl hq));clear h4 hg hc hl hq;go_wp2
 go_loopw [8] (λi wr=>∃k:Nat,(k<=n∧(k=0->n=0))∧i=.int .i64 k∧Hid (wr.heap[N]? = some (.cells (fill x n k).toArray 29 (0,0))∧Below N w wr)) (λi _=>n - (intOf i).toNat)
 case atStart=>exact⟨k0,h2.o.1,rfl,h2.o.2⟩
 case round =>
  obtain⟨k,⟨hk,h4⟩,rfl,HR⟩:=hrel;clear h2 hcp
  by_cases hlt:k<n
  ·have dlt:decide ((k:Int)<(n:Int))=true:=by simp;omega
   have hkp:0<k:=by
    rcases Nat.eq_zero_or_pos k with h | h
    ·have:=h4 h;omega
    ·exact h
   have b1:(k:Int)<=(n:Int):=by omega
   obtain⟨m,hm⟩:=EX (Nat.min k (n - k))
   have he:0<m∧k+m<=n∧m<=k:=by rw[hm];have:Nat.min k (n - k)=min k (n - k):=rfl;omega
   have HL:Hid (((List.replicate m x).map (Value.int .u64)).length=Nat.min k (n - k)):=by simp only[Hid];rw[List.length_map,List.length_replicate,hm]
   have HP:Hid (∀j v,((List.replicate m x).map (Value.int .u64))[j]? = some v->wr.drew.cell? ((⟨N,0,none⟩:Addr).add j)=some v):=by
    intro j v hv;have hj:=(List.getElem?_eq_some_iff.1 hv).1;rw[List.length_map,List.length_replicate] at hj
    have e:v=.int .u64 x:=by
     have:=List.mem_of_getElem? hv;simp at this;exact this.2
    have ha:(⟨N,0,none⟩:Addr).add j=⟨N,j,none⟩:=by unfold Addr.add;split <;> simp_all
    rw[ha,e,World.cell?_drew];have h1:=(DA (k:=k) (x:=x) hk hn HR.o.1).cellAt j (by omega);rw[h1,BH x (by omega)]
   have HF:Hid (k+((List.replicate m x).map (Value.int .u64)).length<=(fill x n k).length):=by simp only[Hid];rw[Zd x hk,List.length_map,List.length_replicate];omega
   have HS:Hid (splice (fill x n k) k ((List.replicate m x).map (Value.int .u64))=fill x n (k+m)):=T8 x
   have h6:Hid (((List.replicate m x).map (Value.int .u64)).length=m):=by simp only[Hid];rw[List.length_map,List.length_replicate]
   have hb:=Qa (By x m);obtain⟨CS,hf⟩:=EX ((List.replicate m x).map (Value.int .u64));rw[<-hf] at HL HP HF HS h6 hb;have HM:=Qa he
   have hnk:¬n=k:=by omega
   clear hm he hf h4;go_wp2_with fail
   go_region_law (refine step_copy_splice rfl (.tmp 41) (.tmp 44) 76 76 rfl 29 underlying76 h8 (some ⟨N,k,none⟩) (some ⟨N,0,none⟩) (n - k) (n - k) k n (by kernel_rfl) (by kernel_rfl) N k (fill x n k) 29 HR.o.1 CS HL.o (λ_=>⟨rfl,_,rfl,HP.o⟩) HF.o hb.o N w HR.o.2.drew Zu ?_;intro w4 HG4 hB4)
   have hCL:k+CS.length<=n∧0<CS.length:=by rw[h6.o];have:=HM.o;omega
   have HR4:Hid (w4.heap[N]? = some (.cells (fill x n (k+CS.length)).toArray 29 (0,0))∧Below N w w4):=by
    simp only[Hid];rw[h6.o,<-HS.o];exact⟨HG4.o,hB4⟩
   clear HG4 hB4 HR HP HL HF HS h6 hb HM
   have hwr:IntKind.i64.wrap ((k:Int)+(CS.length:Int))=(k:Int)+(CS.length:Int):=by rw[IntKind.wrap_i64];omega
   go_simp
   go_wp2
   go_roundw
   case rel=>exact⟨k+CS.length,⟨by omega,by omega⟩,by go_num,HR4⟩
   case measure=>simp[intOf];omega
  ·obtain rfl:k=n:=by omega
   have dlt:decide ((k:Int)<(k:Int))=false:=by simp
   have OW:=Qa (DA Zu hn HR.o.1);rw[vy] at OW;have HO:=Qa (YW (HN.o▸HR.o.2));clear HR;go_wp2;go_ret;exact⟨_,rfl,OW.o,HO.o⟩
section
open Go.Maps
theorem Df {o:Obj} (h:w.heap[k]? = some o):k<w.heap.size:=(Array.getElem?_eq_some_iff.1 h).1
theorem zX (h:CurAt 146 w R v ys) (N:Nat) {a:Int} {k:Nat} {c:Int} (hs:Qd ys=(a,k,c)) (hc:c≠0) :
 Calls prog 283 #[.pointer (some ⟨R,0,none⟩),.int .i64 N] w λe w'=>e=.returned (.tuple #[.slice none 0 0,.int .i64 c])∧Only (λk=>k=R) w w':=by
 have VC:=Qa (YF h);rw[hs] at VC
 have dc:(c != 0)=true:=by simpa using hc
 clear h hs hc;go_enter func283,ntmps283;go_wp2_with fail;refine VC.o.mono ?_;rintro e w1 ⟨rfl,v2,_,_,o2⟩;have O2:=Qa o2;clear o2 VC;go_wp2;go_ret2;exact⟨rfl,O2.o⟩
theorem tF (h:CurAt 146 w R v ys) (N:Nat) {a k:Nat} (hs:Qd ys=((a:Int),k,0)) (hN:N<=65536) (hc:N<a) :
 Calls prog 283 #[.pointer (some ⟨R,0,none⟩),.int .i64 N] w λe w'=>e=.returned (.tuple #[.slice none 0 0,.int .i64 3])∧Only (λk=>k=R) w w':=by
 have VC:=Qa (YF h);rw[hs] at VC
 have dc:decide ((N:Int)<(a:Int))=true:=by simp;omega
 have dn:N<a:=hc;clear h hs hc;go_enter func283,ntmps283;go_wp2_with fail;refine VC.o.mono ?_;rintro e w1 ⟨rfl,v2,_,_,o2⟩;have O2:=Qa o2;clear o2 VC;go_wp2;go_ret2;exact⟨rfl,O2.o⟩
theorem tm (h:CurAt 146 w R v ys) (hv:∀k,v.ownBlock=some k->k<w.heap.size) (N:Nat) {a q:Nat} (hs:Qd ys=((a:Int),q,0)) (hN:N<=65536) (hc:a<=N) (rest:LI) (hrest:rest=ys.drop q) :
 Calls prog 283 #[.pointer (some ⟨R,0,none⟩),.int .i64 N] w λe w' =>
  (Hid (rest.length<8*a)∧e=.returned (.tuple #[.slice none 0 0,.int .i64 2])∧Only (λk=>k=R) w w') ∨
  (Hid (8*a<=rest.length)∧∃u v2,e=.returned (.tuple #[u,.int .i64 0])∧w'.ownsRow w.heap.size 29 1 u a ((rd8 a rest).map (Value.int .u64))∧CurAt 146 w' R v2 (rest.drop (8*a))∧v2.ownBlock=v.ownBlock∧Only (λk=>k=R) w w'):=by
 obtain⟨i0,hi,hz0,hz1,hz2⟩:=info_parts Tryz.infoU64;have VC:=Qa (YF h);rw[hs] at VC;simp only at VC;rw[<-hrest] at VC;have HR:=Qa (Df h.cell);have HV:=Qa hv
 have dc:decide ((N:Int)<(a:Int))=false:=by simp;omega
 have dn:decide (N<a)=false:=Qi (by omega);clear h hs hrest hv;go_enter func283,ntmps283;go_wp2_with fail;refine VC.o.mono ?_;rintro e w1 ⟨rfl,v1,hh,hm,o1⟩;have C1:Hid (CurAt 146 w1 R v1 (rest.drop (8*0))):=hh;have ho:=Qa hm;have O1:=Qa o1;clear hh hm o1 VC;go_wp2
 go_loopw [8,24] (λs i wr=>∃j:Nat,j<=a∧i=.int .u64 j∧Hid (8*j<=rest.length)∧wr.ownsRow w.heap.size 29 1 s j ((rd8 j rest).map (Value.int .u64))∧∃v2,CurAt 146 wr R v2 (rest.drop (8*j))∧v2.ownBlock=v.ownBlock∧Only (λk=>k=R) w wr) (λ_ i _=>a - (intOf i).toNat)
 case atStart=>exact⟨0,Nat.zero_le _,rfl,by simp[Hid],Xh,v1,C1.o,ho.o,O1.o⟩
 case round =>
  clear C1 ho O1;obtain⟨j,hj,rfl,HJ,h5,v2,h4,ha,h7⟩:=hrel
  by_cases hlt:j<a
  ·have dlt:decide ((j:Int)<(a:Int))=true:=by simp;omega
   have FC:=Qa (KG h4 8);have hb:=Qa ha;have h9:=Qa h7;have h0:=Qa h5
   by_cases h8:rest.length<8*j+8
   ·have e1:QW 8 (rest.drop (8*j))=(0,0,2):=by
     unfold QW;rw[if_neg (by omega),if_pos (by rw[Qm];omega)]
    rw[e1] at FC;have HS:Hid (rest.length<8*a):=(by omega:rest.length<8*a);clear e1 h8 h4 ha h7 h5;go_wp2_with fail;refine FC.o.mono ?_;rintro e w4 ⟨rfl,v4,_,_,o4⟩;have O4:=Qa (h9.o.trans o4 (λ_ _ f=>f));clear o4 FC;go_wp2;go_ret2;exact .inl ⟨HS,rfl,O4.o⟩
   ·have e1:QW 8 (rest.drop (8*j))=(((num ((rest.drop (8*j)).take 8):Nat):Int),8,0):=by
     unfold QW;rw[if_neg (by omega),if_neg (by rw[Qm];omega)];rfl
    rw[e1] at FC;simp only[List.drop_drop] at FC;have HJ2:Hid (8*(j+1)<=rest.length):=(by omega:8*(j+1)<=rest.length);have hp:=Qa (JO j rest)
    have hxl:num ((rest.drop (8*j)).take 8)<18446744073709551616:=by
     have h1:=Wx ((rest.drop (8*j)).take 8) (λy hy=>h4.rng y (List.mem_of_mem_take hy));have h2:(256:Nat)^((rest.drop (8*j)).take 8).length<=256^8:=Nat.pow_le_pow_right (by omega) (by rw[Qg];omega)
     have h3:(256:Nat)^8=18446744073709551616:=by decide
     omega
    rw[show 8*j+8=8*(j+1) by omega] at FC;generalize num ((rest.drop (8*j)).take 8)=x at *;obtain⟨d,hd⟩:=EX (rd8 j rest)
    have hf:d.length=j:=by rw[hd,Wt]
    rw[<-hd] at h0 hp
    obtain⟨a6,c6,e6⟩:∃a6 c6,u8=.slice a6 j c6:=by
     have:=(Bs.of_own (k:=.u64) (xs:=d) (by rw[hf];exact h0.o)).len;rw[hf] at this;exact this
    subst e6;clear e1 h8 h4 ha h7 h5 hd hf;go_wp2_with fail;refine FC.o.mono ?_;rintro e w4 ⟨rfl,v4,hl,hg,o4⟩;have h6:=o4.own h0.o (λk hk f=>by have:=(h0.o.lt k hk).1;have:=HR.o;omega);have C4:=Qa hl;have hn:=Qa (hg.trans hb.o);have O4:=Qa (h9.o.trans o4 (λ_ _ f=>f));clear FC hl hg o4 h0 h9 hb;have s4:w.heap.size<=w4.heap.size:=O4.o.size;go_wp2_with (at_builtin;refine wpList_append_own _ rfl _ _ 76 rfl w.heap.size 29 i0 (.int .u64 0) 1 8 underlying76 hi hz0 hz1 hz2 rfl (by decide) _ j _ rfl (h6.alloc _) ⟨w4.heap.size,0,none⟩ 1 1 [.int .u64 (x:Int)] rfl rfl (cell_one_new _ _ _) (ints_oneCell .u64 [(x:Int)]) (by unfold maxLen;omega) (by omega) (by simp;omega) ?_;intro v' w6 hown' hgrow2 hnil2)
    have OW6:Hid (w6.ownsRow w.heap.size 29 1 v' (j+1) ((rd8 (j+1) rest).map (Value.int .u64))):=by
     simp only[Hid];rw[hp.o,List.map_append];exact hown'
    have ONA:Only (λk=>k=R) w4 (w4.alloc (.cells #[.int .u64 (x:Int)] 29)):=VG.alloc _;have he:Only (λk=>(Value.slice a6 j c6).ownBlock=some k) w4 w6:=((Only.refl _ w4).alloc _).grown hgrow2 (λk hk e=>e);have O6:=Qa (O4.o.trans he (λi hi f=>absurd (h6.lt i f).1 (by omega)))
    have C6:=Qa (C4.o.keep he (λf=>by have:=(h6.lt R f).1;have:=HR.o;omega) (λk hk f=>by
     rw[hn.o] at hk
     have:=HV.o k hk;have:=(h6.lt k f).1;omega))
    clear hown' hgrow2 hnil2 h6 ONA he C4 O4;go_wp2
    go_roundw
    case rel=>exact⟨j+1,by omega,by go_num,HJ2,OW6.o,v4,C6.o,hn.o,O6.o⟩
    case measure=>simp[intOf];omega
  ·obtain rfl:j=a:=by omega
   have dlt:decide ((j:Int)<(j:Int))=false:=by simp
   have hb:=Qa ha;have h9:=Qa h7;have h0:=Qa h5;have HC:=Qa h4;clear h5 h4 ha h7;go_wp2;go_ret2;exact .inr ⟨HJ,_,v2,rfl,h0.o,HC.o,hb.o,h9.o⟩
end
section
open Go.Maps
theorem Re (w:Nat):∀(n j:Nat) (k:List Bool),j<=n->(rdP w n k).take j=rdP w j k
 | n,0,k,_=>by simp[rdP]
 | 0,j+1,k,h=>by omega
 | n+1,j+1,k,h=>by rw[rdP,rdP,List.take_succ_cons,Re w n j _ (by omega)]
theorem Cz (w n j:Nat) (k:List Bool) (h:j<n):bnum ((k.drop (j*w)).take w)∈rdP w n k:=by
 refine List.mem_of_mem_take (i:=j+1) ?_;rw[Re w n (j+1) k h,ZN];simp
def pt (D:LI) (w:Nat) (b:List Bool) (n k:Nat):LI:=((rdP w k b).map λp=>D.getD p 0)++List.replicate (n - k) 0
theorem L7 (D:LI) (w:Nat) (b:List Bool) (n k:Nat) (h:k<=n):(pt D w b n k).length=n:=by
 unfold pt;rw[Qb,List.length_map,VR,List.length_replicate];omega
theorem rG (D:LI) (w:Nat) (b:List Bool) (n:Nat):(pt D w b n 0).map (Value.int .u64)=(madeCells #[Value.int .u64 0] (n*1)).toList:=by
 apply List.ext_getElem?
 intro i
 by_cases h:i<n
 ·simp[pt,rdP,madeCells,h,Nat.mod_one]
 ·simp[pt,rdP,madeCells,h]
theorem qv (D:LI) (w:Nat) (b:List Bool) (n:Nat):pt D w b n n=(rdP w n b).map λp=>D.getD p 0:=by simp[pt]
theorem kK (D:LI) (w:Nat) (b:List Bool) (n k:Nat) (h:k<n):(pt D w b n k).set k (D.getD (bnum ((b.drop (k*w)).take w)) 0)=pt D w b n (k+1):=by
 unfold pt
 have h0:((rdP w k b).map λp=>D.getD p 0).length=k:=by rw[List.length_map,VR]
 rw[show n - k=(n - (k+1))+1 by omega,List.replicate_succ,List.set_append_right _ _ (by omega),h0,Nat.sub_self,Qn,ZN,List.map_append,List.append_assoc]
 rfl
def RB (many n:Nat) (rest:LI):LI × Int :=
 if rest.length<8*many then ([],2) else
 if (Qf (rest.drop (8*many))).length<n*wP many then ([],2) else
 if ∃p∈rdP (wP many) n (Qf (rest.drop (8*many))),many<=p then ([],3) else
 ((rdP (wP many) n (Qf (rest.drop (8*many)))).map (λp=>(rd8 many rest).getD p 0),0)
def RD10 (ys:LI) (n:Nat):LI × Int :=
 if (Qd ys).2.2≠0 then ([],(Qd ys).2.2) else
 if (n:Int)<(Qd ys).1 then ([],3) else RB (Qd ys).1.toNat n (ys.drop (Qd ys).2.1)
theorem AJ (many n:Nat) (rest b:LI):DECB many n rest b=if (RB many n rest).2≠0 then ([],(RB many n rest).2) else if (ENC10 (RB many n rest).1).1=b then ((RB many n rest).1,0) else ([],3):=by
 unfold DECB RB
 by_cases c1:rest.length<8*many
 ·simp only[if_pos c1];rfl
 ·by_cases c2:(Qf (rest.drop (8*many))).length<n*wP many
  ·simp only[if_neg c1,if_pos c2];rfl
  ·by_cases c3:∃p∈rdP (wP many) n (Qf (rest.drop (8*many))),many<=p
   ·simp only[if_neg c1,if_neg c2,if_pos c3];rfl
   ·simp only[if_neg c1,if_neg c2,if_neg c3];rfl
theorem Fv (ys:LI) (n:Nat) (hn:n<=65536):DEC10 ys n=if (RD10 ys n).2≠0 then ([],(RD10 ys n).2) else if (ENC10 (RD10 ys n).1).1=ys then ((RD10 ys n).1,0) else ([],3):=by
 unfold DEC10 RD10;rw[if_neg (by omega),Int.toNat_natCast]
 by_cases c1:(Qd ys).2.2≠0
 ·simp only[if_pos c1]
 ·by_cases c2:(n:Int)<(Qd ys).1
  ·simp only[if_neg c1,if_pos c2];rfl
  ·simp only[if_neg c1,if_neg c2];exact AJ _ _ _ _
theorem Cn {many n:Nat} {rest:LI} (hr:∀y∈rest,0<=y∧y<=255):U64 (RB many n rest).1:=by
 unfold RB
 by_cases c1:rest.length<8*many
 ·rw[if_pos c1];intro x hx;simp at hx
 ·rw[if_neg c1]
  by_cases c2:(Qf (rest.drop (8*many))).length<n*wP many
  ·rw[if_pos c2];intro x hx;simp at hx
  ·rw[if_neg c2]
   by_cases c3:∃p∈rdP (wP many) n (Qf (rest.drop (8*many))),many<=p
   ·rw[if_pos c3];intro x hx;simp at hx
   ·rw[if_neg c3]
    intro x hx;obtain⟨p,hp,rfl⟩:=List.mem_map.1 hx
    have hpm:p<many:=by
     rcases Nat.lt_or_ge p many with e | e
     ·exact e
     ·exact absurd ⟨p,hp,e⟩ c3
    have h0:p<(rd8 many rest).length:=by rw[Wt];exact hpm
    refine Vl many rest hr _ ?_;rw[Qc,Qh h0];exact List.getElem_mem h0
theorem qY (hr:∀y∈ys,0<=y∧y<=255):U64 (RD10 ys n).1:=by
 unfold RD10
 by_cases c1:(Qd ys).2.2≠0
 ·rw[if_pos c1];intro x hx;simp at hx
 ·rw[if_neg c1]
  by_cases c2:(n:Int)<(Qd ys).1
  ·rw[if_pos c2];intro x hx;simp at hx
  ·rw[if_neg c2];exact Cn (λy hy=>hr y (List.mem_of_mem_drop hy))
theorem yL (ys:LI):Q7 (ys.length:Int) ys=(ys,ys.length,0):=by
 unfold Q7;rw[if_neg (by omega),if_neg (by omega),Int.toNat_natCast,List.take_length]
theorem uL (h:CurAt 146 w R v ys) (hv:∀k,v.ownBlock=some k->k<w.heap.size) (n:Nat) {a j:Nat} (hs:Qd ys=((a:Int),j,0)) (hn:n<=65536) (ha:a<=n) (rest:LI) (hrest:rest=ys.drop j) :
 Calls prog 273 #[.pointer (some ⟨R,0,none⟩),.int .i64 n] w λe w'=>∃u,e=.returned (.tuple #[u,.int .i64 (RB a n rest).2])∧w'.ownsRow w.heap.size 29 1 u (RB a n rest).1.length ((RB a n rest).1.map (Value.int .u64))∧Only (λk=>k=R) w w':=by
 have RD:=Qa (tm h hv n hs hn ha rest hrest)
 have ka:∀y∈rest,0<=y∧y<=255:=λy hy=>h.rng y (by rw[hrest] at hy;exact List.mem_of_mem_drop hy)
 have ht:Hid (∀y∈rest.drop (8*a),0<=y∧y<=255):=λy hy=>ka y (List.mem_of_mem_drop hy)
 have hg:Hid ((rest.drop (8*a)).length<=1000000000000):=by
  simp only[Hid];have:=h.len;rw[hrest,Qm,Qm];omega
 have HR:=Qa (Df h.cell);have HDU:=Qa (Vl a rest ka);obtain⟨E,hE⟩:=EX (RB a n rest);rw[<-hE];have HE:=Qa hE;clear h hv hs hrest ka hE;go_enter func273,ntmps273;go_wp2_with fail;refine RD.o.mono ?_;rintro e w1 (⟨HS,rfl,o1⟩ | ⟨HS,u,v2,rfl,h6,k0,ob1,o1⟩)
 ·have hm:Hid (E=([],2)):=by simp only[Hid];rw[HE.o];unfold RB;rw[if_pos HS.o]
  have O1:=Qa o1;clear o1 RD HE;go_wp2;go_ret2;have hE:=hm.o;subst hE;exact⟨_,rfl,Xh,O1.o⟩
 ·obtain⟨D,hD⟩:=EX (rd8 a rest)
  obtain⟨r,hr⟩:=EX (rest.drop (8*a))
  have k1:D.length=a:=by rw[hD,Wt]
  have hm:Hid (E=if (Qf r).length<n*wP a then ([],2) else if ∃p∈rdP (wP a) n (Qf r),a<=p then ([],3) else ((rdP (wP a) n (Qf r)).map (λp=>D.getD p 0),0)):=by
   simp only[Hid];rw[HE.o];unfold RB;have:=HS.o;rw[if_neg (by omega),<-hr,<-hD]
  rw[<-hD] at h6 HDU;rw[<-hr] at k0 ht hg
  obtain⟨a6,c6,e6⟩:∃a6 c6,u=.slice a6 a c6:=by
   have:=(Bs.of_own (k:=.u64) (xs:=D) (by rw[k1];exact h6)).len;rw[k1] at this;exact this
  subst e6;have ke:=Qa h6;have O1:=Qa o1;have ki:=Qa k1;have C:=Qa (Vw k0);have B:=Qa (Wg k0 r.length);rw[yL] at B
  have VB:Hid (∀k,(Value.slice a6 a c6).ownBlock=some k->w.heap.size<=k∧k<w1.heap.size):=λk hk=>h6.lt k hk
  obtain⟨q,hq⟩:=EX (wP a)
  have k8:q<=16:=by rw[hq];exact wP_le (by omega)
  rw[<-hq] at hm;have HQ:=Qa hq;obtain⟨rl,k5⟩:=EX r.length;rw[<-k5] at C B hg;have hu:=Qa k5;have rl0:rl<=1000000000000:=hg.o;clear h6 o1 RD hD k1 hr k0 ob1 HE k5 hq;go_wp2_with fail;refine C.o.mono ?_;rintro e w1' ⟨rfl,rfl⟩;clear C;go_wp2_with fail;refine B.o.mono ?_;rintro e w2 ⟨v3,rfl,b3,_,_,v4,_,_,o2⟩;have EN:=Qa (XP v3 r w2 b3 ht.o (by rw[<-hu.o];exact rl0));have O2:=Qa (O1.o.trans o2 (λ_ _ e=>e));have km:=Qa (o2.own ke.o (λk hk f=>by have:=(VB.o k hk).1;have:=HR.o;omega));have S2:=Qa o2.size;obtain⟨a3,c3,e3⟩:=b3.len;subst e3;rw[<-hu.o] at EN ⊢;clear B o2 b3;go_wp2_with fail;refine EN.o.mono ?_;rintro e w3 ⟨R4,v5,rfl,r4,o3,g1,g2,g3⟩;have PW:=Qa (Mq a w3 (by omega));rw[<-HQ.o] at PW;have F:=Qa (Za r4);rw[<-hu.o] at F;have O3:=Qa (O2.o.trans o3 (λ_ _ f=>f.elim));have kj:=Qa (o3.own km.o (λ_ _ f=>f));have kk:=Qa r4;have S3:=Qa o3.size;have G:=Qa (Vz g1 (Vz g2 g3));clear EN o3 r4 g1 g2 g3;go_wp2_with fail;refine PW.o.mono ?_;rintro e w3' ⟨rfl,rfl⟩;clear PW;go_wp2_with fail;refine F.o.mono ?_;rintro e w5 ⟨rfl,o5⟩;have O5:=Qa (O3.o.trans o5 (λ_ _ f=>f.elim));have R5:=Qa (kk.o.keep o5 (λf=>f) (λ_ _ f=>f));have kc:=Qa (o5.own kj.o (λ_ _ f=>f));have S5:=Qa o5.size;clear F o5;have kn:n*q<=65536*16:=Nat.mul_le_mul hn k8
  have he:Hid (((n:Int)*(q:Int))=((n*q:Nat):Int)):=by simp only[Hid];simp
  have m0:0<=(n:Int)*(q:Int):=by rw[he.o];omega
  have m1:(n:Int)*(q:Int)<=1048576:=by rw[he.o];omega
  have ho:=WE r;rw[<-hu.o] at ho
  by_cases hsh:8*rl<n*q
  ·have h4:=hm.o
   rw[if_pos (by rw[ho];exact hsh)] at h4;have h4:=Qa h4
   have d2:decide (8*(rl:Int)<(n:Int)*(q:Int))=true:=by rw[he.o];simp only[decide_eq_true_eq];omega
   clear hsh ho kn hm;go_wp2;go_ret2;have hE:=h4.o;subst hE;exact⟨_,rfl,Xh,O5.o⟩
  ·have h4:=hm.o
   rw[if_neg (by rw[ho];exact hsh)] at h4;have h4:=Qa h4
   have d2:decide (8*(rl:Int)<(n:Int)*(q:Int))=false:=by rw[he.o];simp only[decide_eq_false_iff_not];omega
   have HSH:=Qa hsh;obtain⟨i0,hi,hz0,hz1,hz2⟩:=info_parts Tryz.infoU64;obtain⟨wm,kh,h7,kl⟩:=run_make_full (P:=prog) w5 w5.heap.size 76 29 i0 (.int .u64 0) 1 underlying76 hi hz0 hz1 .i64 .i64 n (by rw[hz2];omega) (by unfold maxLen;omega) Zu;rw[show (Value.int .u64 0).cells=#[Value.int .u64 0] from rfl,<-rG D q (Qf r) n] at h7;have om:N0 w5 wm:=VG.grown kl (λ_ _ e=>by cases e)
   have G2:Hid (R4<w5.heap.size∧(∀k,v5.ownBlock=some k->k<w5.heap.size)∧w.heap.size<=w5.heap.size∧w.heap.size<=R4∧(∀k,(Value.slice a6 a c6).ownBlock=some k->k<w5.heap.size∧k≠R4)):=by
    have g:=G.o;have s5:=S5.o;have s2:=S2.o;have s1:=O1.o.size;have s3:=S3.o;exact⟨by omega,λk hk=>by have:=(g.2.2 k hk).2;omega,O5.o.size,by have:=O2.o.size;omega,λk hk=>by have:=(VB.o k hk).2;omega⟩
   have h5:Hid (RdAt 317 wm R4 v5 r (0*q)∧wm.ownsRow w5.heap.size 29 1 (.slice (some ⟨w5.heap.size,0,none⟩) n n) n ((pt D q (Qf r) n 0).map (Value.int .u64))∧Only (λj=>j=R) w wm∧wm.ownsRow w.heap.size 29 1 (.slice a6 a c6) a (D.map (Value.int .u64))∧(∀p∈rdP q 0 (Qf r),p<a)) :=
    ⟨by rw[Nat.zero_mul];exact R5.o.keep om (λf=>f) (λ_ _ f=>f),h7,O5.o.trans om (λ_ _ f=>f.elim),om.own kc.o (λ_ _ f=>f),λp hp=>by simp[rdP] at hp⟩
   obtain⟨N,hN⟩:=EX w5.heap.size;rw[<-hN] at kh h5 G2;clear hsh h7 kl om R5 kk G S5 O3 O2 O1 hN kc kj km ke kn VB hm ho;go_wp2
   go_loopw [47] (λi wr=>∃k:Nat,k<=n∧i=.int .i64 k∧RdAt 317 wr R4 v5 r (k*q)∧wr.ownsRow N 29 1 (.slice (some ⟨N,0,none⟩) n n) n ((pt D q (Qf r) n k).map (Value.int .u64))∧Only (λj=>j=R) w wr∧wr.ownsRow w.heap.size 29 1 (.slice a6 a c6) a (D.map (Value.int .u64))∧(∀p∈rdP q k (Qf r),p<a)) (λi _=>n - (intOf i).toNat)
   case atStart=>exact⟨0,Nat.zero_le _,rfl,h5.o⟩
   case round =>
    obtain⟨k,hk,rfl,k7,hl,k3,hf,k2⟩:=hrel;clear h5 kh;have hh:=Qa hl;have k4:=Qa k3;have kg:=Qa k2;have hw:=Qa hf
    by_cases hlt:k<n
    ·have hkq:k*q+q<=8*r.length:=by
      have h1:(k+1)*q<=n*q:=Nat.mul_le_mul_right q (by omega);rw[Nat.add_mul,Nat.one_mul] at h1;have:=HSH.o;have:=hu.o;omega
     have GT:=Jj k7 (q:Int) (by omega) (by omega) (by omega);rw[Int.toNat_natCast] at GT;have GT:=Qa GT
     have hx:Hid (bnum (((Qf r).drop (k*q)).take q)<18446744073709551616):=by
      have h1:=Wi (((Qf r).drop (k*q)).take q);have h2:2^(((Qf r).drop (k*q)).take q).length<=2^64:=Nat.pow_le_pow_right (by omega) (by rw[Qg];omega)
      have h3:(2:Nat)^64=18446744073709551616:=by decide
      simp only[Hid];omega
     have dlt:decide ((k:Int)<(n:Int))=true:=by simp;omega
     have kf:=Qa (Cz q n k (Qf r) hlt);have kd:=Qa (ZN q k (Qf r));have h0:=kK D q (Qf r) n k hlt;clear k7 hkq hl k3 k2 hf;generalize bnum (((Qf r).drop (k*q)).take q)=x at *;go_wp2_with fail;refine GT.o.mono ?_;rintro e w6 ⟨rfl,r6,o6⟩
     have h8:=o6.own hh.o (λj hj=>by
      have e1:j=N:=by simp[Value.ownBlock] at hj;exact hj.symm
      have:=G2.o.1
      omega)
     have h9:=o6.own hw.o (λj hj f=>(G2.o.2.2.2.2 j hj).2 f);have O6:=Qa (k4.o.trans o6 (λi hi e=>by have:=G2.o.2.2.2.1;omega));have R6:=Qa r6;have hxx:=hx.o
     by_cases hxa:a<=x
     ·have hd:=h4.o
      rw[if_pos ⟨x,kf.o,hxa⟩] at hd;have hd:=Qa hd
      have da:decide ((a:Int)<=(x:Int))=true:=by simp;omega
      have db:decide (a<=x)=true:=Qe hxa;clear GT h8 h9 r6 o6 hxx hx h4 h0;go_wp2;go_ret2;have hE:=hd.o;subst hE;exact⟨_,rfl,Xh,O6.o⟩
     ·have da:decide ((a:Int)<=(x:Int))=false:=by simp;omega
      have db:decide (a<=x)=false:=Qi hxa
      have ck:w6.cell? ⟨N,k,none⟩=some (.int .u64 ((pt D q (Qf r) n k).getD k 0)):=by
       rw[h8.cellAt k (by omega),List.getElem?_map,Qh (by rw[L7 _ _ _ _ _ hk];exact hlt),Qc,Qh (by rw[L7 _ _ _ _ _ hk];exact hlt)]
       rfl
      have fk:w6.frozen? ⟨N,k,none⟩=false:=h8.frozenAt _;obtain⟨b7,o7,c7,e7,hc7⟩:=(Bs.of_own (k:=.u64) (xs:=D) (by rw[ki.o];exact h9)).at x (by rw[ki.o];omega)
      have ea:a6=some ⟨b7,o7,none⟩:=by simp at e7;exact e7.1
      subst ea;have HB7:=Qa (G2.o.2.2.2.2 b7 rfl)
      have h0:Hid (((pt D q (Qf r) n k).map (Value.int .u64)).set k (.int .u64 (D.getD x 0))=(pt D q (Qf r) n (k+1)).map (Value.int .u64)):=by
       simp only[Hid];rw[<-List.map_set,h0]
      have PL2:Hid (∀p∈rdP q (k+1) (Qf r),p<a):=by
       intro p hp;rw[kd.o,List.mem_append] at hp
       rcases hp with hp | hp
       ·exact kg.o p hp
       ·simp at hp;omega
      have k6:=Qa h8;have k9:=Qa h9;obtain⟨z,hz⟩:=EX ((pt D q (Qf r) n k).getD k 0);rw[<-hz] at ck;obtain⟨y,hy⟩:=EX (D.getD x 0);rw[<-hy] at hc7 h0
      have xi:(x:Int)<(a:Int):=by omega
      clear GT h8 h9 r6 o6 hz hx e7 hy hxa h4 hh k4 hw kg kd kf;go_wp2
      go_roundw
      case rel =>
       have g:=G2.o;have hb7:=HB7.o;have oN:Only (λj=>j=N) w6 (w6.setCell ⟨N,k,none⟩ (.int .u64 y)):=(Only.refl (λj=>j=N) w6).setCell (λ_=>rfl) _;refine⟨k+1,by omega,by simp,?_,?_,?_,?_,PL2.o⟩
       ·rw[Nat.add_mul,Nat.one_mul]
        exact R6.o.keep oN (by omega) (λj hj=>by have:=g.2.1 j hj;omega)
       ·have h1:=(k6.o.stored k (.int .u64 y)).1
        rw[h0.o] at h1;exact h1
       ·exact O6.o.setCell (λhb=>by simp only at hb;omega) _
       ·exact oN.own k9.o (λj hj=>by have:=(g.2.2.2.2 j hj).1;omega)
      case measure=>simp[intOf];omega
    ·obtain rfl:k=n:=by omega
     have dlt:decide ((k:Int)<(k:Int))=false:=by simp
     have hd:=h4.o;rw[if_neg (λ⟨p,hp,h⟩=>by have:=k2 p hp;omega)] at hd;have hd:=Qa hd;clear hl k3 k7 hf k2;go_wp2;go_ret2;have hE:=hd.o;subst hE;refine⟨_,rfl,?_,k4.o⟩;have h1:=Qr hh.o G2.o.2.2.1;rw[qv] at h1;rw[List.length_map,VR];exact h1
end
section
open Go.Maps
theorem Er (h:CurAt 146 w R v ys) (hv:∀k,v.ownBlock=some k->k<w.heap.size) (n:Nat) (hn:n<=65536) :
 Calls prog 273 #[.pointer (some ⟨R,0,none⟩),.int .i64 n] w λe w'=>∃u,e=.returned (.tuple #[u,.int .i64 (RD10 ys n).2])∧w'.ownsRow w.heap.size 29 1 u (RD10 ys n).1.length ((RD10 ys n).1.map (Value.int .u64))∧Only (λk=>k=R) w w':=by
 rcases Ue h.rng with ⟨c,hs,hc⟩ | ⟨a,k,hs,_,_,ha,_⟩
 ·have e:RD10 ys n=([],c):=by unfold RD10;rw[hs];exact if_pos (show c≠0 by omega)
  rw[e];have RD:=Qa (zX h n hs (by omega))
  have dc:(c != 0)=true:=by simp;omega
  clear h hv hs hc e;go_enter func273,ntmps273;go_wp2_with fail;refine RD.o.mono ?_;rintro e w1 ⟨rfl,o1⟩;have O1:=Qa o1;clear o1 RD;go_wp2;go_ret2;exact⟨_,rfl,Xh,O1.o⟩
 ·by_cases hb:n<a
  ·have e:RD10 ys n=([],3):=by unfold RD10;rw[hs];simp only[ne_eq,not_true_eq_false,if_false];exact if_pos (by omega)
   rw[e];have RD:=Qa (tF h n hs hn hb);clear h hv hs e hb;go_enter func273,ntmps273;go_wp2_with fail;refine RD.o.mono ?_;rintro e w1 ⟨rfl,o1⟩;have O1:=Qa o1;clear o1 RD;go_wp2;go_ret2;exact⟨_,rfl,Xh,O1.o⟩
  ·have e:RD10 ys n=RB a n (ys.drop k):=by unfold RD10;rw[hs];simp only[ne_eq,not_true_eq_false,if_false,Int.toNat_natCast];exact if_neg (by omega)
   rw[e];exact uL h hv n hs hn (by omega) _ rfl
theorem pM (v:Value) (n:Int) (w:World) (h:n<0∨65536<n) :
 Calls prog 260 #[v,.int .i64 n] w λe w'=>e=.returned (.tuple #[.slice none 0 0,.int .i64 1])∧w=w':=by
 by_cases h0:n<0
 ·have d0:decide (n<0)=true:=Qe h0
  clear h;go_enter func260,ntmps260;go_wp2;go_ret2;exact⟨rfl,rfl⟩
 ·have d0:decide (n<0)=false:=Qi h0
  have d1:decide (65536<n)=true:=Qe (by omega);clear h;go_enter func260,ntmps260;go_wp2;go_ret2;exact⟨rfl,rfl⟩
theorem yz (v:Value) (ys:LI) (N:Nat) (w:World) (h:Bs .u8 w v ys) (hr:∀y∈ys,0<=y∧y<=255) (hl:ys.length<=1000000000) (hN:N<=65536) :
 Calls prog 260 #[v,.int .i64 N] w λe w'=>∃u,e=.returned (.tuple #[u,.int .i64 (DEC10 ys N).2])∧w'.ownsRow w.heap.size 29 1 u (DEC10 ys N).1.length ((DEC10 ys N).1.map (Value.int .u64))∧N0 w w':=by
 obtain⟨D,hD⟩:=EX (DEC10 ys N);rw[<-hD];rw[Fv ys N hN] at hD
 have d0:decide ((N:Int)<0)=false:=by simp
 have d1:decide (65536<(N:Int))=false:=by simp;omega
 have HD:=Qa hD;have HB:=Qa h;have HR:=Qa hr;have HU:=Qa (qY (n:=N) hr);have NR:=Qa (Uu v ys w h hr (by omega));clear h hr hD;go_enter func260,ntmps260;go_wp2_with fail;refine NR.o.mono ?_;rintro e w1 ⟨R,v1,rfl,r1,o1,g1,g2,g3⟩;have RA:=Qa (Er r1 (λk hk=>(g3 k hk).2) N hN);have O1:=Qa o1;have S1:=o1.size;clear NR r1 o1 g3;go_wp2_with fail;refine RA.o.mono ?_;rintro e w2 ⟨u,rfl,h3,o2⟩;have B2:=Qa ((O1.o.low Zu).trans (o2.below (B:=w.heap.size) S1 (λk e=>by omega)));have h4:=Qa (Qr h3 S1);clear RA o2 O1 h3
 by_cases hb:(RD10 ys N).2≠0
 ·have h0:Hid (D=([],(RD10 ys N).2)):=by simp only[Hid];rw[HD.o,if_pos hb]
  have dc:((RD10 ys N).2 != 0)=true:=by simpa using hb
  obtain⟨c,hc⟩:=EX ((RD10 ys N).2);rw[<-hc] at h0 dc ⊢;clear HD hb hc;go_wp2;go_ret2;have hD:=h0.o;subst hD;exact⟨_,rfl,Xh,YW B2.o⟩
 ·have hz:(RD10 ys N).2=0:=by simpa using hb
  rw[hz];obtain⟨L,hL⟩:=EX ((RD10 ys N).1)
  have h0:Hid (D=if (ENC10 L).1=ys then (L,0) else ([],3)):=by simp only[Hid];rw[HD.o,if_neg hb,<-hL]
  rw[<-hL] at h4 HU;have EN:=Qa (Ts u L w2 (Bs.of_own h4.o) HU.o);clear HD hb hz hL;obtain⟨a6,c6,e6⟩:=(Bs.of_own h4.o).len;subst e6;obtain⟨m,hm⟩:=EX L.length;rw[<-hm] at EN ⊢;have HM:=Qa hm;clear hm;go_wp2_with fail;refine EN.o.mono ?_;rintro e w3 ⟨v3,rfl,h1,o3⟩;have EQ:=Qa (U1 v3 v (ENC10 L).1 ys w3 (Bs.of_own h1) ((HB.o.later B2.o).past o3) (Dl L) HR.o);have O3:=Qa ((YW B2.o).same o3);have OW3:=Qa (o3.own h4.o (λ_ _ f=>f));obtain⟨a7,c7,e7⟩:=(Bs.of_own h1).len;subst e7;clear EN h1 o3 h4;generalize (ENC10 L).2=EC at *;generalize (ENC10 L).1=E at *
  by_cases he:E=ys
  ·rw[Qe he] at EQ
   have hD:=h0.o;rw[if_pos he] at hD;clear h0 he;have h5:=Qa hD;clear hD;obtain⟨m2,h2⟩:=EX E.length;rw[<-h2] at EQ ⊢;clear h2;go_wp2_with fail;refine EQ.o.mono ?_;rintro e w4 ⟨rfl,rfl⟩;clear EQ;go_wp2;go_ret2;have hD:=h5.o;subst hD;exact⟨_,rfl,by have:=OW3.o;rw[HM.o];exact this,O3.o⟩
  ·rw[Qi he] at EQ
   have hD:=h0.o;rw[if_neg he] at hD;clear h0 he;have h5:=Qa hD;clear hD;obtain⟨m2,h2⟩:=EX E.length;rw[<-h2] at EQ ⊢;clear h2;go_wp2_with fail;refine EQ.o.mono ?_;rintro e w4 ⟨rfl,rfl⟩;clear EQ;go_wp2;go_ret2;have hD:=h5.o;subst hD;exact⟨_,rfl,Xh,O3.o⟩
theorem jf (v:Value) (ys:LI) (n:Int) (w:World) (h:Bs .u8 w v ys) (hr:∀y∈ys,0<=y∧y<=255) (hl:ys.length<=1000000000) :
 Calls prog 260 #[v,.int .i64 n] w λe w'=>∃u,e=.returned (.tuple #[u,.int .i64 (DEC10 ys n).2])∧w'.ownsRow w.heap.size 29 1 u (DEC10 ys n).1.length ((DEC10 ys n).1.map (Value.int .u64))∧N0 w w':=by
 by_cases hn:n<0∨65536<n
 ·have e:DEC10 ys n=([],1):=if_pos hn
  rw[e];refine (pM v n w hn).mono ?_;rintro e w' ⟨rfl,rfl⟩;exact⟨_,rfl,Xh,VG⟩
 ·obtain⟨N,rfl⟩:=Int.eq_ofNat_of_zero_le (show 0<=n by omega)
  exact yz v ys N w h hr hl (by omega)
end
theorem Rt {fn:Func} {p u:Tmp} {ty:TypeId} (h:fn.results=#[.cell p ty,.tmp u]) (tmps:Array Value) (w:World) (g:Nat) (t:TypeId) (cs:Array Value) (fr:Nat × Nat) (d:TypeDesc)
 (hp:tmps.getD p undef=.pointer (some ⟨g,0,none⟩)) (hg:w.heap[g]? = some (.cells cs t fr))
 (hu:P.underlying ty=some d) (hd:(match d with | .struct _ | .array _ _=>true | _=>false)=true) (hi:(P.info? ty).map (·.size)=some cs.size) :
 (results fn tmps).run P w=.ok (.tuple #[.agg cs,tmps.getD u undef]) w:=by
 have hp':tmps[p]?.getD undef=.pointer (some ⟨g,0,none⟩):=by simpa using hp
 simp[results,h,hp',asAddr,run_loadVar_row w g t ty cs fr d hg hu hd hi]
theorem vJ {fn:Func} {s p u:Tmp} {ty:TypeId} (h:fn.results=#[.tmp s,.cell p ty,.tmp u]) (tmps:Array Value) (w:World) (g:Nat) (t:TypeId) (cs:Array Value) (fr:Nat × Nat) (d:TypeDesc)
 (hp:tmps.getD p undef=.pointer (some ⟨g,0,none⟩)) (hg:w.heap[g]? = some (.cells cs t fr))
 (hu:P.underlying ty=some d) (hd:(match d with | .struct _ | .array _ _=>true | _=>false)=true) (hi:(P.info? ty).map (·.size)=some cs.size) :
 (results fn tmps).run P w=.ok (.tuple #[tmps.getD s undef,.agg cs,tmps.getD u undef]) w:=by
 have hp':tmps[p]?.getD undef=.pointer (some ⟨g,0,none⟩):=by simpa using hp
 simp[results,h,hp',asAddr,run_loadVar_row w g t ty cs fr d hg hu hd hi]
structure Rs (w:World) (R:Nat) (v:Value) (ys:LI) (w1:World) (p:Nat) (a d:Nat):Prop where
 rd:RdAt 317 w1 R v ys p
 on:Only (λk=>k=R) w w1
 lt:R<w.heap.size
 vb:∀k,v.ownBlock=some k->k<w.heap.size
 box:w1.heap[w.heap.size]? = some (.cells #[.int .i64 a,.int .i64 d] 225 (0,0))
 res:w1.heap[w.heap.size+1]? = some (.cells #[.int .i64 0,.int .i64 0] 225 (0,0))
theorem Rs.start (h:RdAt 317 w R v ys p) (hv:∀k,v.ownBlock=some k->k<w.heap.size) (a d:Nat) :
 Rs w R v ys ((w.alloc (.cells #[.int .i64 a,.int .i64 d] 225)).alloc (.cells #[.int .i64 0,.int .i64 0] 225)) p a d where
 rd:=h.keep (((Only.refl (λ_=>False) w).alloc _).alloc _) (λf=>f) (λ_ _ f=>f)
 on:=((Only.refl _ w).alloc _).alloc _
 lt:=Df h.cell
 vb:=hv
 box:=by
  have:=heap_alloc_last w (.cells #[.int .i64 a,.int .i64 d] 225);exact ((Only.refl (λ_=>False) _).alloc _).heap this (λf=>f)
 res:=by
  have:=heap_alloc_last (w.alloc (.cells #[.int .i64 a,.int .i64 d] 225)) (.cells #[.int .i64 0,.int .i64 0] 225)
  rwa [show (w.alloc (.cells #[.int .i64 a,.int .i64 d] 225)).heap.size=w.heap.size+1 from Array.size_push ..] at this
theorem Rs.get {w1 w2:World} {p p2:Nat} {a d:Nat} (h:Rs w R v ys w1 p a d) (h2:RdAt 317 w2 R v ys p2) (o:Only (λk=>k=R) w1 w2):Rs w R v ys w2 p2 a d where
 rd:=h2
 on:=h.on.trans o (λ_ _ e=>e)
 lt:=h.lt
 vb:=h.vb
 box:=o.heap h.box (λe=>by have:=h.lt;omega)
 res:=o.heap h.res (λe=>by have:=h.lt;omega)
theorem Rs.past {w1 w2:World} {a d:Nat} (h:Rs w R v ys w1 p a d) (o:N0 w1 w2):Rs w R v ys w2 p a d :=
 h.get (h.rd.keep o (λf=>f) (λ_ _ f=>f)) (o.mono (λ_ _ f=>f.elim))
theorem Rs.set {w1:World} {a d:Nat} (h:Rs w R v ys w1 p a d) (a' d':Nat) :
 Rs w R v ys ((w1.setCell ⟨w.heap.size,0,none⟩ (.int .i64 a')).setCell ⟨w.heap.size,1,none⟩ (.int .i64 d')) p a' d' where
 rd:=h.rd.keep (U9 (S:=λk=>k=w.heap.size) _ _ rfl) (λf=>by have:=h.lt;omega) (λk hk f=>by have:=h.vb k hk;omega)
 on:=((h.on.setCell (p:=⟨w.heap.size,0,none⟩) (λf=>absurd f (Nat.lt_irrefl _)) _).setCell (p:=⟨w.heap.size,1,none⟩) (λf=>absurd f (Nat.lt_irrefl _)) _)
 lt:=h.lt
 vb:=h.vb
 box:=Un _ _ h.box
 res:=(U9 (S:=λk=>k=w.heap.size) _ _ rfl).heap h.res (λf=>by omega)
theorem Rs.fin {w1:World} {a d:Nat} (h:Rs w R v ys w1 p a d) (x y:Value) {w2:World} (e:w2=(w1.setCell ⟨w.heap.size+1,0,none⟩ x).setCell ⟨w.heap.size+1,1,none⟩ y) :
 w2.heap[w.heap.size+1]? = some (.cells #[x,y] 225 (0,0))∧RdAt 317 w2 R v ys p∧Only (λk=>k=R) w w2:=by
 subst e;refine⟨Un _ _ h.res,h.rd.keep (U9 (S:=λk=>k=w.heap.size+1) _ _ rfl) (λf=>by have:=h.lt;omega) (λk hk f=>by have:=h.vb k hk;omega),?_⟩;exact ((h.on.setCell (p:=⟨w.heap.size+1,0,none⟩) (λ(f:w.heap.size+1<w.heap.size)=>absurd f (by omega)) _).setCell (p:=⟨w.heap.size+1,1,none⟩) (λ(f:w.heap.size+1<w.heap.size)=>absurd f (by omega)) _)
theorem Vv (h:RdAt 317 w R v ys p) (n:Nat) (h1:n<=64) (r:List Bool) (hr:(Qf ys).drop p=r) (hs:n<=r.length) :
 Calls prog 285 #[.pointer (some ⟨R,0,none⟩),.int .i64 n] w λe w'=>e=.returned (.tuple #[.int .u64 (bnum (r.take n):Nat),.int .i64 0]) ∧
  RdAt 317 w' R v ys (p+n)∧(Qf ys).drop (p+n)=r.drop n∧Only (λk=>k=R) w w':=by
 have hl:r.length=8*ys.length - p:=by rw[<-hr,Qm,WE]
 have hp:=h.le;refine (Jj h n (by omega) (by omega) (by omega)).mono ?_;rintro e w' ⟨rfl,h2,h3⟩;rw[Int.toNat_natCast] at h2;rw[Int.toNat_natCast,hr];exact⟨rfl,h2,by rw[<-List.drop_drop,hr],h3⟩
theorem KJ (h:RdAt 317 w R v ys p) (n:Nat) (h1:n<=64) (r:List Bool) (hr:(Qf ys).drop p=r) (hs:r.length<n) :
 Calls prog 285 #[.pointer (some ⟨R,0,none⟩),.int .i64 n] w λe w'=>e=.returned (.tuple #[.int .u64 0,.int .i64 2])∧N0 w w':=by
 have hl:r.length=8*ys.length - p:=by rw[<-hr,Qm,WE]
 have hp:=h.le;exact kE h n (by omega) (by omega) (by omega)
theorem Ru (r:List Bool) (h:11<=r.length):bnum (r.take 11)=bnum (r.take 5)*64+bnum ((r.drop 5).take 6)∧bnum (r.take 5)<32∧bnum ((r.drop 5).take 6)<64:=by
 have e:r.take 11=r.take 5++(r.drop 5).take 6:=by
  rw[show (11:Nat)=5+6 from rfl,List.take_add]
 have l5:(r.take 5).length=5:=by rw[Qg];omega
 have l6:((r.drop 5).take 6).length=6:=by rw[Qg,Qm];omega
 have b5:=Wi (r.take 5);have b6:=Wi ((r.drop 5).take 6);rw[l5] at b5;rw[l6] at b6;rw[e,yE,l6];exact⟨rfl,b5,b6⟩
theorem IC (h:RdAt 317 w R v ys p) (r:List Bool) (hr:(Qf ys).drop p=r) (hs:r.length<11) :
 Calls prog 289 #[.pointer (some ⟨R,0,none⟩)] w λe w'=>e=.returned (.tuple #[.agg #[.int .i64 0,.int .i64 0],.int .i64 2])∧N0 w w':=by
 have h0:=h.keep ((Only.refl (λ_=>False) w).alloc (.cells #[.int .i64 0,.int .i64 0] 225)) (λf=>f) (λ_ _ f=>f);have G:=Qa (KJ h0 11 (by omega) r hr hs);clear h h0 hr hs;go_enter func289,ntmps289;go_wp2_with fail;refine G.o.mono ?_;rintro e w1 ⟨rfl,o1⟩;have g1:=o1.heap (heap_alloc_last w _) (λf=>f);obtain⟨c0,c1,f0,f1⟩:=Qu g1;have O1:=Qa ((((Only.refl (λ_=>False) w).alloc (.cells #[.int .i64 0,.int .i64 0] 225)).same o1));have HG:=Qa g1;clear G o1 g1;go_wp2;exact bodyPost_ret (Rt rfl _ _ w.heap.size 225 _ (0,0) _ rfl (Un _ _ HG.o) underlying225 rfl Tryz.sizeWin) rfl ⟨rfl,(O1.o.setCell (p:=⟨w.heap.size,0,none⟩) (λf=>absurd f (Nat.lt_irrefl _)) _).setCell (p:=⟨w.heap.size,1,none⟩) (λf=>absurd f (Nat.lt_irrefl _)) _⟩
theorem xq (a d:Int) (w:World) (ha:0<=a∧a<=64) (hd:0<=d∧d<=64) :
 Calls prog 212 #[.agg #[.int .i64 a,.int .i64 d]] w λe w'=>e=.returned (.int .i64 (64 - a - d))∧N0 w w':=by
 obtain⟨x,rfl⟩:=Int.eq_ofNat_of_zero_le ha.1;obtain⟨y,rfl⟩:=Int.eq_ofNat_of_zero_le hd.1;exact Tv x y w (by omega) (by omega)
theorem Lz (h:RdAt 317 w R v ys p) (hv:∀k,v.ownBlock=some k->k<w.heap.size) (r:List Bool) (hr:(Qf ys).drop p=r) (hs:11<=r.length) (x y:Nat) (z:Int) (hb:63<bnum (r.take 5)+bnum ((r.drop 5).take 6)∧x=0∧y=0∧z=3∨bnum (r.take 5)+bnum ((r.drop 5).take 6)<=63∧bnum (r.take 5)=x∧bnum ((r.drop 5).take 6)+1=y∧z=0) :
 Calls prog 289 #[.pointer (some ⟨R,0,none⟩)] w λe w'=>e=.returned (.tuple #[.agg #[.int .i64 x,.int .i64 y],.int .i64 z]) ∧
  RdAt 317 w' R v ys (p+11)∧(Qf ys).drop (p+11)=r.drop 11∧Only (λk=>k=R) w w':=by
 have h0:=h.keep ((Only.refl (λ_=>False) w).alloc (.cells #[.int .i64 0,.int .i64 0] 225)) (λf=>f) (λ_ _ f=>f);have G:=Qa (Vv h0 11 (by omega) r hr hs);have hR:=Df h.cell;obtain⟨b1,b2,b3⟩:=Ru r hs;rw[b1] at G;clear h h0 hr hs b1;generalize bnum (r.take 5)=a at *;generalize bnum ((r.drop 5).take 6)=c at *;obtain⟨t,ht⟩:=EX (a*64+c);rw[<-ht] at G
 have t1:(t:Int) / 64=(a:Int):=by omega
 have t2:(t:Int) % 64=(c:Int):=by omega
 have t3:(t:Int)<=4095:=by omega
 have TR:=λw=>Qa (xq (a:Int) ((c:Int)+1) w (by omega) (by omega))
 clear ht
 rcases hb with ⟨hb,rfl,rfl,rfl⟩ | ⟨hb,rfl,rfl,rfl⟩
 case' inl=>have dt:decide ((64:Int) - (a:Int) - ((c:Int)+1)<0)=true:=by simp;omega
 case' inr=>have dt:decide ((64:Int) - (a:Int) - ((c:Int)+1)<0)=false:=by simp;omega
 all_goals
  go_enter func289,ntmps289;go_wp2_with fail;refine G.o.mono ?_;rintro e w1 ⟨rfl,r1,d1,o1⟩;have g1:=o1.heap (heap_alloc_last w _) (λe=>by omega);have O1:=Qa ((((Only.refl (λk=>k=R) w).alloc (.cells #[.int .i64 0,.int .i64 0] 225)).trans o1 (λ_ _ f=>f)));have HG:=Qa g1;have RD:=Qa r1;have DR:=Qa d1;clear G o1 g1 r1 d1;go_wp2_with fail;refine (TR _).out.mono ?_;rintro e w2 ⟨rfl,o2⟩;have oA:N0 w1 w2:=((Only.refl (λ_=>False) w1).alloc _).trans o2 (λ_ _ f=>f);have g2:=o2.heap (heap_alloc_last w1 _) (λf=>f);have g1:=oA.heap HG.o (λf=>f);have RD2:=Qa (RD.o.keep oA (λf=>f) (λ_ _ f=>f));have O2:=Qa (O1.o.trans oA (λ_ _ f=>f.elim));obtain⟨c0,c1,f0,f1⟩:=Qu g1;obtain⟨c2,c3,_,_⟩:=Qu g2;have HG2:=Qa g1;clear TR oA o2 g1 g2 RD O1 HG;go_wp2;exact bodyPost_ret (Rt rfl _ _ w.heap.size 225 _ (0,0) _ rfl (Un _ _ HG2.o) underlying225 rfl Tryz.sizeWin) rfl ⟨rfl,RD2.o.keep (U9 (S:=λk=>k=w.heap.size) _ _ rfl) (λf=>by omega) (λk hk f=>by have:=hv k hk;omega),DR.o,(O2.o.setCell (p:=⟨w.heap.size,0,none⟩) (λf=>absurd f (Nat.lt_irrefl _)) _).setCell (p:=⟨w.heap.size,1,none⟩) (λf=>absurd f (Nat.lt_irrefl _)) _⟩
def GQ (w:World) (R:Nat) (c:Int) (e:Ending) (w':World):Prop:=∃x a d:Int,e=.returned (.tuple #[.int .u64 x,.agg #[.int .i64 a,.int .i64 d],.int .i64 c])∧Only (λk=>k=R) w w'
def Good (w:World) (R:Nat) (v:Value) (ys:LI) (x:Nat) (a d:Nat) (r:List Bool) (e:Ending) (w':World):Prop :=
 e=.returned (.tuple #[.int .u64 x,.agg #[.int .i64 a,.int .i64 d],.int .i64 0])∧(∃p,RdAt 317 w' R v ys p∧(Qf ys).drop p=r)∧Only (λk=>k=R) w w'
theorem PQ (r:List Bool):(bnum ((false :: r).take 1):Nat)=0:=by simp[bnum]
theorem DV (r:List Bool):(bnum ((true :: r).take 1):Nat)=1:=by simp[bnum]
theorem D7 {y z d:Nat} (hy:y<2^d) (h:z+d<=64):IntKind.u64.wrap ((y:Int)*2^z)=((y*2^z:Nat):Int):=by
 have h1:y*2^z<2^d*2^z:=Nat.mul_lt_mul_of_pos_right hy (Nat.two_pow_pos z);rw[<-Nat.pow_add] at h1;have h2:2^(d+z)<=2^64:=Nat.pow_le_pow_right (by omega) (by omega);rw[p64] at h2
 have e:(y:Int)*2^z=((y*2^z:Nat):Int):=by push_cast;rfl
 rw[e,IntKind.wrap_u64];omega
theorem JZ (r:List Bool) (d:Nat):bnum (r.take d)<2^d:=by
 have h1:=Wi (r.take d);have h2:2^(r.take d).length<=2^d:=Nat.pow_le_pow_right (by omega) (by rw[Qg];omega);omega
theorem qi (h:RdAt 317 w R v ys p) (hv:∀k,v.ownBlock=some k->k<w.heap.size) (wn:Option (Nat × Nat)) (a d:Nat) (hw:W2 wn a d) (r:List Bool) (hr:(Qf ys).drop p=r) :
 Calls prog 286 #[.pointer (some ⟨R,0,none⟩),.agg #[.int .i64 a,.int .i64 d]] w λe w' =>
  ((gR wn r).2.2.2≠0∧GQ w R (gR wn r).2.2.2 e w')∨((gR wn r).2.2.2=0∧∃a' d',W2 (gR wn r).2.1 a' d'∧Good w R v ys (gR wn r).1 a' d' (gR wn r).2.2.1 e w'):=by
 obtain⟨Q,hQ⟩:∃Q:Ending->World->Prop,Q=λe w'=>((gR wn r).2.2.2≠0∧GQ w R (gR wn r).2.2.2 e w')∨((gR wn r).2.2.2=0∧∃a' d',W2 (gR wn r).2.1 a' d'∧Good w R v ys (gR wn r).1 a' d' (gR wn r).2.2.1 e w'):=⟨_,rfl⟩
 refine (?_:Calls _ _ _ _ Q).mono λe w' q=>by rw[hQ] at q;exact q
 have NO:=Qa (λ(c:Int) (hc:c≠0) (hg:(gR wn r).2.2.2=c) (e:Ending) (w':World) (b:GQ w R c e w')=>show Q e w' by rw[hQ,hg];exact .inl ⟨hc,b⟩);have h0:=Qa (λ(x:Nat) (wn':Option (Nat × Nat)) (r':List Bool) (a' d':Nat) (hg:gR wn r=(x,wn',r',0)) (hw:W2 wn' a' d') (e:Ending) (w':World) (b:Good w R v ys x a' d' r' e w')=>show Q e w' by rw[hQ,hg];exact .inr ⟨rfl,a',d',hw,b⟩);have S0:=Qa (Rs.start h hv a d);have HW:=Qa hw;clear h hv hQ hw
 rcases r with _ | ⟨b,r⟩
 case' nil =>
  have E:=Qa (NO.o 2 (by decide) (by simp[gR]));have G:=Qa (KJ S0.o.rd 1 (by omega) [] hr (by simp));clear hr;go_enter func286,ntmps286;go_wp2_with fail;refine G.o.mono ?_;rintro e w1 ⟨rfl,o⟩;have S:=Qa (S0.o.past o);clear o S0 G
 case' cons =>
  have G:=Qa (Vv S0.o.rd 1 (by omega) _ hr (by simp));clear hr
  cases b
  case' false =>
   rw[PQ] at G;have E:=Qa (h0.o 0 wn r a d (by simp[gR]) HW.o)
  case' true =>
   rw[DV] at G
  all_goals
   go_enter func286,ntmps286;go_wp2_with fail;refine G.o.mono ?_;rintro e w1 ⟨rfl,h1,q1,o1⟩;have S:=Qa (S0.o.get h1 o1);have QQ:Hid ((Qf ys).drop (p+1)=r):=q1;clear h1 o1 S0 G q1
  focus
   rcases r with _ | ⟨b,r⟩
   case' nil =>
    have E:=Qa (NO.o 2 (by decide) (by simp[gR]));have G:=Qa (KJ S.o.rd 1 (by omega) [] QQ.o (by simp));go_wp2_with fail;refine G.o.mono ?_;rintro e w2 ⟨rfl,o⟩;have S:=Qa (S.o.past o);clear o G
   case' cons =>
    have G:=Qa (Vv S.o.rd 1 (by omega) (b :: r) QQ.o (by simp))
    cases b
    case' true=>rw[DV] at G
    case' false=>rw[PQ] at G
    all_goals
     go_wp2_with fail;refine G.o.mono ?_;rintro e w2 ⟨rfl,h2,q2,o2⟩;have S:=Qa (S.o.get h2 o2);have QQ:Hid ((Qf ys).drop (p+1+1)=r):=q2;clear h2 o2 G q2
    focus
     obtain⟨c0,c1,_,_⟩:=Qu S.o.box
     rcases HW.o with ⟨rfl,rfl,rfl⟩ | ⟨z,rfl,g1,g2,g3⟩
     case' inl =>
      have E:=Qa (NO.o 3 (by decide) (by simp[gR]));go_wp2_with fail;refine (Sp _).mono ?_;rintro e w3 ⟨rfl,o⟩;have S:=Qa (S.o.past o);clear o c0 c1
     case' inr =>
      have z64:(z:Int)<64:=by omega
      have e1:64 - a - z=d:=by omega
      go_wp2_with fail;refine (XC a d _ (by omega)).mono ?_;rintro e w3 ⟨rfl,o⟩;have S:=Qa (S.o.past o);clear o c0 c1;have TW:=Qa (λW=>Ww a z d W g2)
      by_cases hc:r.length<d
      case' pos =>
       have E:=Qa (NO.o 2 (by decide) (by rw[gR];simp only[e1];rw[if_pos hc]));have G:=Qa (KJ S.o.rd d (by omega) _ QQ.o hc)
      case' neg =>
       have E:=Qa (h0.o _ _ _ a d (by rw[gR];simp only[e1];rw[if_neg hc]) (.inr ⟨z,rfl,g1,g2,g3⟩));have G:=Qa (Vv S.o.rd d (by omega) _ QQ.o (by omega));have HS:=Qa (D7 (z:=z) (JZ r d) (by omega));generalize bnum (r.take d)=y at G HS E
    rotate_right
    focus
     by_cases c2:r.length<11
     case' pos =>
      have E:=Qa (NO.o 2 (by decide) (by rw[gR];by_cases c1:r.length<5;rw[if_pos c1];rw[if_neg c1,if_pos c2]));have G:=Qa (IC S.o.rd r QQ.o c2);go_wp2_with fail;refine G.o.mono ?_;rintro e w3 ⟨rfl,o⟩;have S:=Qa (S.o.past o);obtain⟨c0,c1,_,_⟩:=Qu S.o.box;obtain⟨_,_,_,_⟩:=Qu S.o.res;have S:=Qa (S.o.set 0 0);clear o G
     case' neg =>
      obtain⟨_,b5,b6⟩:=Ru r (by omega);have hv:=Qa (λk hk=>Nat.lt_of_lt_of_le (S.o.vb k hk) S.o.on.size);have l11:(r.drop 11).length=r.length - 11:=Qm
      by_cases c3:63<bnum (r.take 5)+bnum ((r.drop 5).take 6)
      case' pos =>
       have E:=Qa (NO.o 3 (by decide) (by rw[gR,if_neg (by omega),if_neg c2,if_pos c3]));have G:=Qa (Lz S.o.rd hv.o r QQ.o (by omega) 0 0 3 (.inl ⟨c3,rfl,rfl,rfl⟩));go_wp2_with fail;refine G.o.mono ?_;rintro e w3 ⟨rfl,h3,q3,o3⟩;have S:=Qa (S.o.get h3 o3);obtain⟨c0,c1,_,_⟩:=Qu S.o.box;obtain⟨_,_,_,_⟩:=Qu S.o.res;have S:=Qa (S.o.set 0 0);clear h3 q3 o3 G
      case' neg =>
       obtain⟨D,hD⟩:=EX (bnum ((r.drop 5).take 6)+1);have G:=Qa (Lz S.o.rd hv.o r QQ.o (by omega) _ D 0 (.inr ⟨by omega,rfl,hD.symm,rfl⟩));have N1:=Qa (λh:(r.drop 11).length<D=>NO.o 2 (by decide) (by rw[gR,if_neg (by omega),if_neg c2,if_neg c3,if_pos (by omega)]));have Y1:=Qa (λ(h:¬(r.drop 11).length<D) a' d'=>h0.o (bnum ((r.drop 11).take D)*2^(63 - bnum (r.take 5) - bnum ((r.drop 5).take 6))) (some (bnum (r.take 5),63 - bnum (r.take 5) - bnum ((r.drop 5).take 6))) ((r.drop 11).drop D) a' d' (by rw[gR,if_neg (by omega),if_neg c2,if_neg c3,if_neg (by omega),List.drop_drop,hD,show 11+(bnum ((r.drop 5).take 6)+1)=12+bnum ((r.drop 5).take 6) by omega]));obtain⟨z,hz⟩:=EX (63 - bnum (r.take 5) - bnum ((r.drop 5).take 6));rw[<-hz] at Y1;generalize bnum (r.take 5)=a' at *
       have g2:a'+z+D=64:=by omega
       have g3:0<D:=by omega
       have z64:(z:Int)<64:=by omega
       clear hD hz;go_wp2_with fail;refine G.o.mono ?_;rintro e w3 ⟨rfl,h3,q3,o3⟩;have S:=Qa (S.o.get h3 o3);obtain⟨c0,c1,f0,f1⟩:=Qu S.o.box;have S:=Qa (S.o.set a' D);have QQ:=Qa q3;clear o3 h3 q3 G;go_wp2_with fail;refine (XC a' D _ (by omega)).mono ?_;rintro e w4 ⟨rfl,o⟩;have S:=Qa (S.o.past o);clear o c0 c1 f0 f1;have TW:=Qa (λW=>Ww a' z D W g2)
       by_cases hc:(r.drop 11).length<D
       case' pos =>
        have E:=Qa (N1.o hc);have G:=Qa (KJ S.o.rd D (by omega) _ QQ.o hc)
       case' neg =>
        have E:=Qa (Y1.o hc a' D (.inr ⟨z,rfl,by omega,g2,by omega⟩));have G:=Qa (Vv S.o.rd D (by omega) _ QQ.o (by omega));have HS:=Qa (D7 (z:=z) (JZ (r.drop 11) D) (by omega));generalize bnum ((r.drop 11).take D)=y at G HS E
 all_goals
  first
  | (obtain⟨c0,c1,_,_⟩:=Qu S.o.box;have _:=TW;go_wp2_with fail;refine G.o.mono ?_;(first | (rintro e w8 ⟨rfl,h8,q8,o8⟩;have S:=Qa (S.o.get h8 o8);have QQ:=Qa q8;clear h8 q8 o8) | (rintro e w8 ⟨rfl,o8⟩;have S:=Qa (S.o.past o8);clear o8));clear G c0 c1;obtain⟨c0,c1,_,_⟩:=Qu S.o.box;obtain⟨c2,c3,f2,f3⟩:=Qu S.o.res;have SD:=Qa (S.o.past ((Only.refl (λ_=>False) _).drew));go_wp2;go_region_with ((go_at_call 212;refine (TW.o _).mono ?_;rintro e w9 ⟨rfl,o9⟩;have S9:=Qa (SD.o.past o9);obtain⟨_,_,_,_⟩:=Qu S9.o.box;obtain⟨_,_,_,_⟩:=Qu S9.o.res)))
  | (have S9:=Qa (S.o.past ((Only.refl (λ_=>False) _).drew));obtain⟨c0,c1,_,_⟩:=Qu S.o.box;obtain⟨c2,c3,f2,f3⟩:=Qu S.o.res;go_wp2;go_region)
  all_goals
   go_wp2;refine bodyPost_ret (vJ rfl _ _ (w.heap.size+1) 225 _ (0,0) _ rfl (S9.o.fin _ _ rfl).1 underlying225 rfl Tryz.sizeWin) rfl (E.o _ _ ?_)
   first
   | exact⟨_,_,_,rfl,(S9.o.fin _ _ rfl).2.2⟩
   | exact⟨by first | rfl | (rw[HS.o];rfl),⟨_,(S9.o.fin _ _ rfl).2.1,QQ.o⟩,(S9.o.fin _ _ rfl).2.2⟩
theorem W2.win {wn:Option (Nat × Nat)} {a d:Nat} (h:W2 wn a d):Win wn:=by
 rcases h with ⟨rfl,_,_⟩ | ⟨z,rfl,h1,h2,h3⟩
 ·exact Win.none
 ·intro a' z' e
  simp only[Option.some.injEq,Prod.mk.injEq] at e;obtain⟨rfl,rfl⟩:=e;omega
structure Rl (w:World) (R K:Nat) (v:Value) (ys:LI) (wr:World) (l:Value) (acc:LI) (p:Nat) (a d:Nat):Prop where
 rd:RdAt 317 wr R v ys p
 on:Only (λk=>k=R) w wr
 own:wr.ownsRow w.heap.size 29 1 l acc.length (acc.map (Value.int .u64))
 nb:∀q,l.ownBlock=some q->q≠K
 gt:w.heap.size<=K
 box:wr.heap[K]? = some (.cells #[.int .i64 a,.int .i64 d] 225 (0,0))
theorem Rl.next {R K:Nat} {wr w2:World} {l:Value} {acc:LI} {p p2 a d:Nat} (h:Rl w R K v ys wr l acc p a d) (hR:R<w.heap.size) (hv:∀k,v.ownBlock=some k->k<w.heap.size)
 (h2:RdAt 317 w2 R v ys p2) (o:Only (λk=>k=R) wr w2) (a2 d2:Nat):Rl w R K v ys ((w2.setCell ⟨K,0,none⟩ (.int .i64 a2)).setCell ⟨K,1,none⟩ (.int .i64 d2)) l acc p2 a2 d2:=by
 have hg:=h.gt;have h1:=o.heap h.box (λe=>by omega);have o2:=U9 (w:=w2) (K:=K) (S:=λk=>k=K) (.int .i64 a2) (.int .i64 d2) rfl;have h0:=o.own h.own (λk hk e=>by have:=(h.own.lt k hk).1;omega);exact⟨h2.keep o2 (λf=>by omega) (λk hk f=>by have:=hv k hk;omega),(h.on.trans o (λ_ _ e=>e)).trans o2 (λk hk e=>by omega),o2.own h0 (λk hk e=>h.nb k hk e),h.nb,h.gt,Un _ _ h1⟩
theorem Rl.grow {R K:Nat} {wr w2:World} {l l2:Value} {acc acc2:LI} {p a d:Nat} {o:Obj} (h:Rl w R K v ys wr l acc p a d) (hR:R<w.heap.size) (hv:∀k,v.ownBlock=some k->k<w.heap.size)
 (g:(wr.alloc o).grownBy w2 l.ownBlock) (own:w2.ownsRow w.heap.size 29 1 l2 acc2.length (acc2.map (Value.int .u64))) (hat:∀q,l2.ownBlock=some q->l.ownBlock=some q∨wr.heap.size<=q):Rl w R K v ys w2 l2 acc2 p a d:=by
 have hg:=h.gt;have oo:Only (λk=>l.ownBlock=some k) wr w2:=((Only.refl (λk=>l.ownBlock=some k) wr).alloc o).grown g (λk _ e=>e)
 exact⟨h.rd.keep oo (λe=>by have:=(h.own.lt _ e).1;omega) (λk hk e=>by have:=(h.own.lt _ e).1;have:=hv k hk;omega),
  h.on.trans oo (λk hk e=>by have:=(h.own.lt _ e).1;omega),own,λq hq=>by
   rcases hat q hq with e | e
   ·exact h.nb q e
   ·have:=Df h.box;omega,h.gt,oo.heap h.box (λe=>h.nb _ e rfl)⟩
def lenV:Value->Nat | .slice _ n _=>n | _=>0
theorem jG {acc:LI} {N:Nat} (h:N<=acc.length) (p:Nat) (wn:Option (Nat × Nat)) (l:List Bool):gDA (N - acc.length) acc p wn l=(acc,0):=by
 rw[show N - acc.length=0 by omega,gDA]
theorem Iw {acc:LI} {N:Nat} (h:acc.length<N) (p:Nat) (wn:Option (Nat × Nat)) (l:List Bool) (hb:(gR wn l).2.2.2≠0):gDA (N - acc.length) acc p wn l=([],(gR wn l).2.2.2):=by
 rw[show N - acc.length=(N - acc.length - 1)+1 by omega,gDA,if_pos hb]
theorem vG {acc:LI} {N:Nat} (h:acc.length<N) (p:Nat) (wn:Option (Nat × Nat)) (l:List Bool) (hb:(gR wn l).2.2.2=0) :
 gDA (N - acc.length) acc p wn l=gDA (N - (acc++[((p ^^^ (gR wn l).1:Nat):Int)]).length) (acc++[((p ^^^ (gR wn l).1:Nat):Int)]) (p ^^^ (gR wn l).1) (gR wn l).2.1 (gR wn l).2.2.1:=by
 rw[show N - acc.length=(N - acc.length - 1)+1 by omega,gDA,if_neg (by simp[hb]),Qb,List.length_singleton,show N - acc.length - 1=N - (acc.length+1) by omega]
theorem BB (R:Nat) :
 Calls prog 274 #[.pointer (some ⟨R,0,none⟩),.int .i64 0] w λe w'=>e=.returned (.tuple #[.slice none 0 0,.int .i64 0])∧w=w':=by
 go_enter func274,ntmps274;go_wp2;go_ret2;exact⟨rfl,rfl⟩
theorem A9 (h:RdAt 317 w R v ys 0) (N:Nat) (hN:0<N) (hs:(Qf ys).length<64) :
 Calls prog 274 #[.pointer (some ⟨R,0,none⟩),.int .i64 N] w λe w'=>e=.returned (.tuple #[.slice none 0 0,.int .i64 2])∧Only (λk=>k=R) w w':=by
 have G:=Qa (KJ h 64 (by omega) _ rfl (by simpa using hs))
 have d0:((N:Int) == 0)=false:=by rw[beq_eq_false_iff_ne];omega
 clear h hs;go_enter func274,ntmps274;go_wp2_with fail;refine G.o.mono ?_;rintro e w1 ⟨rfl,o1⟩;have O1:=Qa (o1.mono (T:=λk=>k=R) (λ_ _ f=>f.elim));clear o1 G;go_wp2;go_ret2;exact⟨rfl,O1.o⟩
theorem gS (h:RdAt 317 w R v ys 0) (hv:∀k,v.ownBlock=some k->k<w.heap.size) (N:Nat) (hN:0<N) (hN2:N<=65536) (hs:64<=(Qf ys).length) :
 Calls prog 274 #[.pointer (some ⟨R,0,none⟩),.int .i64 N] w λe w'=>∃u,e=.returned (.tuple #[u,.int .i64 (gRd (Qf ys) N).2]) ∧
  w'.ownsRow w.heap.size 29 1 u (gRd (Qf ys) N).1.length ((gRd (Qf ys) N).1.map (Value.int .u64))∧Only (λk=>k=R) w w':=by
 obtain⟨i0,hi,hz0,hz1,hz2⟩:=info_parts Tryz.infoU64;have hR:=Df h.cell;have HV:=Qa hv;have G:=Qa (Vv h 64 (by omega) (Qf ys) rfl (by simpa using hs))
 have d0:((N:Int) == 0)=false:=by rw[beq_eq_false_iff_ne];omega
 have hf:bnum ((Qf ys).take 64)<18446744073709551616:=by
  have:=JZ (Qf ys) 64
  rwa [p64] at this
 have HG:Hid (gDA (N - [((bnum ((Qf ys).take 64):Nat):Int)].length) [((bnum ((Qf ys).take 64):Nat):Int)] (bnum ((Qf ys).take 64)) none ((Qf ys).drop 64)=gRd (Qf ys) N):=by
  simp only[Hid];unfold gRd;rw[if_neg (by omega),if_neg (by omega)];rfl
 obtain⟨q,hq⟩:=EX (gRd (Qf ys) N);rw[<-hq] at HG;rw[<-hq];obtain⟨f0,k0⟩:=EX (bnum ((Qf ys).take 64));rw[<-k0] at HG G hf;clear h hs hv hq k0;go_enter func274,ntmps274;go_wp2_with fail;refine G.o.mono ?_;rintro e w1 ⟨rfl,r1,q1,o1⟩;have h9:(w1.alloc (.cells #[.int .u64 f0] 29)).ownsRow w.heap.size 29 1 (.slice (some ⟨w1.heap.size,0,none⟩) 1 1) 1 [.int .u64 f0]:=World.ownsRow_lit w1 #[.int .u64 f0] 1 o1.size (by unfold maxLen;omega) rfl;have oA:N0 w1 ((w1.alloc (.cells #[.int .u64 f0] 29)).alloc (.cells #[.int .i64 0,.int .i64 0] 225)):=((Only.refl _ w1).alloc _).alloc _
 have L1:Hid (Rl w R (w1.heap.size+1) v ys ((w1.alloc (.cells #[.int .u64 f0] 29)).alloc (.cells #[.int .i64 0,.int .i64 0] 225)) (.slice (some ⟨w1.heap.size,0,none⟩) 1 1) [(f0:Int)] (0+64) 0 0):=by
  refine⟨r1.keep oA (λf=>f) (λ_ _ f=>f),o1.trans oA (λ_ _ f=>f.elim),h9.alloc _,λq hq=>?_,?_,?_⟩
  ·simp only[Value.ownBlock,Option.some.injEq] at hq;omega
  ·have:=o1.size;omega
  ·have:=heap_alloc_last (w1.alloc (.cells #[.int .u64 f0] 29)) (.cells #[.int .i64 0,.int .i64 0] 225)
   rwa [show (w1.alloc (.cells #[.int .u64 f0] 29)).heap.size=w1.heap.size+1 from Array.size_push ..] at this
 clear r1 q1 o1 h9 oA G;go_wp2
 go_loopw [6,8] (λx l wr=>∃(f:Nat) (acc:LI) (wn:Option (Nat × Nat)) (p a d:Nat),x=.int .u64 f∧f<18446744073709551616∧Rl w R (w1.heap.size+1) v ys wr l acc p a d∧W2 wn a d∧gDA (N - acc.length) acc f wn ((Qf ys).drop p)=q∧0<acc.length∧acc.length<=N) (λ_ l _=>N - lenV l)
 case atStart=>exact⟨f0,[(f0:Int)],none,0+64,0,0,rfl,hf,L1.o,W2.none,HG.o,by simp,by simp;omega⟩
 case round =>
  clear L1 HG hf;obtain⟨f,acc,wn,p,a,d,rfl,hf,h1,hw,hg,ha0,haN⟩:=hrel;obtain⟨a6,c6,e6⟩:=(Bs.of_own h1.own).len;subst e6;have L:=Qa h1;have HW:=Qa hw
  have hh:∀k,v.ownBlock=some k->k<wr.heap.size:=λk hk=>Nat.lt_of_lt_of_le (HV.o k hk) h1.on.size
  by_cases hlt:acc.length<N
  ·have dl:decide ((acc.length:Int)<(N:Int))=true:=by simp;omega
   have RD:=Qa (qi h1.rd hh wn a d hw _ rfl);obtain⟨c0,c1,b0,b1⟩:=Qu h1.box;have hgk:=h1.gt
   by_cases hb:(gR wn ((Qf ys).drop p)).2.2.2=0
   ·have he:=gR_ok hw.win _ hb
    have hn:=Qa ((vG hlt f wn _ hb).symm.trans hg);obtain⟨g,hd⟩:=EX (gR wn ((Qf ys).drop p));rw[<-hd] at RD hn he hb;have HB:=Qa hb;have hxx:=bits_xor_u64_nat f g.1 hf he.1;have hz:=ZZ hf he.1;obtain⟨y,hy⟩:=EX (f ^^^ g.1);rw[<-hy] at hxx hz hn;obtain⟨m,hm⟩:=EX acc.length;rw[<-hm] at dl hlt ⊢;have HM:=Qa hm;clear h1 hw hg hd he hb hy hm;go_wp2_with fail;refine RD.o.mono ?_;rintro e w2 (⟨ho,_⟩ | ⟨_,a2,d2,ht,rfl,⟨p2,r2,q2⟩,o2⟩)
    ·exact absurd HB.o ho
    have L2:=Qa (L.o.next hR HV.o r2 o2 a2 d2);have HW2:=Qa ht;have Q2:=Qa q2;obtain⟨_,_,_,_⟩:=Qu (o2.heap L.o.box (λe=>by omega));have hsz:=Nat.le_trans L.o.on.size o2.size;clear c0 c1 b0 b1 L RD HW hh r2 o2 ht q2;obtain⟨w3,h3⟩:=EX ((w2.setCell ⟨w1.heap.size+1,0,none⟩ (.int .i64 a2)).setCell ⟨w1.heap.size+1,1,none⟩ (.int .i64 d2));have h2:=L2.o.own;rw[<-HM.o] at h2;have hl:=L2.o.on.size;rw[<-h3] at L2 hl h2;have H3:=Qa h3;clear h3
    have hm7:m+1<=65536:=by omega
    have hj:w3.heap.size=w2.heap.size:=by rw[H3.o];simp
    have k2:(w3.alloc (.cells #[.int .u64 y] 29)).heap.size=w2.heap.size+1:=by rw[<-hj];exact Array.size_push ..
    have ha:∀j u,[Value.int .u64 y][j]? = some u->(w3.alloc (.cells #[.int .u64 y] 29)).cell? ((⟨w2.heap.size,0,none⟩:Addr).add j)=some u:=by rw[<-hj];exact cell_one_new _ _ _
    have hx:=Qa hj;have hp:=Qa k2;have h8:=Qa ha;have h7:=Qa (h2.alloc (.cells #[.int .u64 y] 29))
    have hba:w.heap.size<=w2.heap.size+1:=by omega
    clear hj k2 ha h2;go_wp2_with (at_builtin;rw[<-H3.o];refine wpList_append_lies _ rfl _ _ _ rfl w.heap.size 29 i0 (.int .u64 0) 1 8 underlying76 hi hz0 hz1 hz2 rfl (by omega) _ m _ rfl h7.o ⟨w2.heap.size,0,none⟩ 1 1 [.int .u64 y] rfl rfl h8.o ?c2 (by omega) ?c3 ?c4 ?c5 (w2.heap.size+1) hp.o ?_)
    case c2=>intro u hu;simp at hu;subst hu;rfl
    case c3=>unfold maxLen;omega
    case c4=>omega
    case c5=>rw[hp.o];exact hba
    intro g2 cap1 w4 hown1 hgrow hat hg1
    have h6:w4.ownsRow w.heap.size 29 1 (.slice (some ⟨g2,0,none⟩) (m+1) cap1) (acc++[(y:Int)]).length ((acc++[(y:Int)]).map (Value.int .u64)):=by
     rw[Qb,<-HM.o,List.map_append];exact hown1
    have h0:(w3.alloc (.cells #[.int .u64 y] 29)).grownBy w4 (Value.slice a6 acc.length c6).ownBlock:=by
     have:(Value.slice a6 acc.length c6).ownBlock=(Value.slice a6 m c6).ownBlock:=by cases a6 <;> rfl
     rw[this];exact hgrow
    have L4:=Qa (L2.o.grow hR HV.o h0 h6 (λr hr=>by
     simp only[Value.ownBlock,Option.some.injEq] at hr;subst hr
     rcases hat with e | e
     ·left
      have:(Value.slice a6 acc.length c6).ownBlock=(Value.slice a6 m c6).ownBlock:=by cases a6 <;> rfl
      rw[this];exact e
     ·right;rw[hx.o];omega))
    have k1:Hid ((acc++[(y:Int)]).length<=N∧0<(acc++[(y:Int)]).length):=by
     simp only[Hid];rw[Qb,<-HM.o,List.length_singleton];omega
    clear hown1 hgrow hat hg1 h6 h0 L2 h7 h8 hp hx;go_wp2
    go_roundw
    case rel=>exact⟨y,_,g.2.1,p2,a2,d2,rfl,hz,L4.o,HW2.o,by rw[Q2.o];exact hn.o,k1.o.2,k1.o.1⟩
    case measure=>simp only[lenV];omega
   ·have h4:=Qa ((Iw hlt f wn _ hb).symm.trans hg)
    obtain⟨g,hd⟩:=EX (gR wn ((Qf ys).drop p));rw[<-hd] at RD h4 hb;have HB:=Qa hb
    have dc:(g.2.2.2 != 0)=true:=by simpa using hb
    obtain⟨c,hc⟩:=EX g.2.2.2;rw[<-hc] at RD h4 HB dc;obtain⟨m,hm⟩:=EX acc.length;rw[<-hm] at dl hlt ⊢;clear h1 hw hg hd hb hc hm;go_wp2_with fail;refine RD.o.mono ?_;rintro e w2 (⟨_,x,a2,d2,rfl,o2⟩ | ⟨h5,_⟩)
    case inr=>exact absurd h5 HB.o
    obtain⟨_,_,_,_⟩:=Qu (o2.heap L.o.box (λe=>by omega));have O2:=Qa (L.o.on.trans o2 (λ_ _ e=>e));clear c0 c1 b0 b1 L RD HW hh o2;go_wp2;go_ret2;have hq:=h4.o;subst hq;refine⟨.slice none 0 0,rfl,Xh,?_⟩;exact (O2.o.setCell (p:=⟨w1.heap.size+1,0,none⟩) (λ(f:w1.heap.size+1<w.heap.size)=>absurd f (by omega)) _).setCell (p:=⟨w1.heap.size+1,1,none⟩) (λ(f:w1.heap.size+1<w.heap.size)=>absurd f (by omega)) _
  ·have dl:decide ((acc.length:Int)<(N:Int))=false:=by simp;omega
   have HR:Hid (q=(acc,0)):=by simp only[Hid];rw[<-hg,jG (by omega)]
   clear h1 hw hg hh;obtain⟨m,hm⟩:=EX acc.length;rw[<-hm] at dl hlt ⊢;have HM:=Qa hm;clear hm;go_wp2;go_ret2;rw[HR.o];exact⟨_,rfl,by have:=L.o.own;rw[HM.o];exact this,L.o.on⟩
theorem Fb (h:RdAt 317 w R v ys 0) (hv:∀k,v.ownBlock=some k->k<w.heap.size) (N:Nat) (hN2:N<=65536) :
 Calls prog 274 #[.pointer (some ⟨R,0,none⟩),.int .i64 N] w λe w'=>∃u,e=.returned (.tuple #[u,.int .i64 (gRd (Qf ys) N).2]) ∧
  w'.ownsRow w.heap.size 29 1 u (gRd (Qf ys) N).1.length ((gRd (Qf ys) N).1.map (Value.int .u64))∧Only (λk=>k=R) w w':=by
 by_cases h0:N=0
 ·subst h0
  have e:gRd (Qf ys) 0=([],0):=by unfold gRd;rw[if_pos rfl]
  rw[e];refine (BB R).mono ?_;rintro e w' ⟨rfl,rfl⟩;exact⟨_,rfl,Xh,VG⟩
 ·by_cases hs:(Qf ys).length<64
  ·have e:gRd (Qf ys) N=([],2):=by unfold gRd;rw[if_neg h0,if_pos hs]
   rw[e];refine (A9 h N (by omega) hs).mono ?_;rintro e w' ⟨rfl,o⟩;exact⟨_,rfl,Xh,o⟩
  ·exact gS h hv N (by omega) hN2 (by omega)
theorem FY (v:Value) (n:Int) (w:World) (h:n<0∨65536<n) :
 Calls prog 262 #[v,.int .i64 n] w λe w'=>e=.returned (.tuple #[.slice none 0 0,.int .i64 1])∧w=w':=by
 by_cases h0:n<0
 ·have d0:decide (n<0)=true:=Qe h0
  clear h;go_enter func262,ntmps262;go_wp2;go_ret2;exact⟨rfl,rfl⟩
 ·have d0:decide (n<0)=false:=Qi h0
  have d1:decide (65536<n)=true:=Qe (by omega);clear h;go_enter func262,ntmps262;go_wp2;go_ret2;exact⟨rfl,rfl⟩
theorem yf (v:Value) (ys:LI) (N:Nat) (w:World) (h:Bs .u8 w v ys) (hr:∀y∈ys,0<=y∧y<=255) (hl:ys.length<=1000000000) (hN:N<=65536) (hT:Tab w) :
 Calls prog 262 #[v,.int .i64 N] w λe w'=>∃u,e=.returned (.tuple #[u,.int .i64 (DEC9 ys N).2])∧w'.ownsRow w.heap.size 29 1 u (DEC9 ys N).1.length ((DEC9 ys N).1.map (Value.int .u64))∧N0 w w':=by
 obtain⟨D,hD⟩:=EX (DEC9 ys N);rw[<-hD];unfold DEC9 at hD;rw[if_neg (by omega),Int.toNat_natCast] at hD
 have d0:decide ((N:Int)<0)=false:=by simp
 have d1:decide (65536<(N:Int))=false:=by simp;omega
 have HD:=Qa hD;have HB:=Qa h;have HR:=Qa hr;have NR:=Qa (XP v ys w h hr (by omega));clear h hr hD;go_enter func262,ntmps262;go_wp2_with fail;refine NR.o.mono ?_;rintro e w1 ⟨R,v1,rfl,r1,o1,g1,g2,g3⟩;have RA:=Qa (Fb r1 (λk hk=>(g3 k hk).2) N hN);have O1:=Qa o1;have S1:=o1.size;clear NR r1 o1 g3;go_wp2_with fail;refine RA.o.mono ?_;rintro e w2 ⟨u,rfl,h2,o2⟩;have B2:=Qa ((O1.o.low Zu).trans (o2.below (B:=w.heap.size) S1 (λk e=>by omega)));have h4:=Qa (Qr h2 S1);clear RA o2 O1
 by_cases hb:(gRd (Qf ys) N).2≠0
 ·have h0:Hid (D=([],(gRd (Qf ys) N).2)):=by simp only[Hid];rw[HD.o,if_pos hb]
  have dc:((gRd (Qf ys) N).2 != 0)=true:=by simpa using hb
  obtain⟨c,hc⟩:=EX ((gRd (Qf ys) N).2);rw[<-hc] at h0 dc ⊢;clear HD hb hc h2;go_wp2;go_ret2;have hD:=h0.o;subst hD;exact⟨_,rfl,Xh,YW B2.o⟩
 ·have h6:=Tu (l:=Qf ys) (n:=N) (by simpa using hb)
  have hz:(gRd (Qf ys) N).2=0:=by simpa using hb
  rw[hz];obtain⟨L,hL⟩:=EX ((gRd (Qf ys) N).1)
  have h0:Hid (D=if (ENC9 L).1=ys then (L,0) else ([],3)):=by simp only[Hid];rw[HD.o,if_neg hb,<-hL]
  rw[<-hL] at h6 h4;have EN:=Qa (Ng u L w2 (Bs.of_own h4.o) h6.1 (hT.below B2.o hT.pos));clear HD hb hz hL h2 h6;obtain⟨a6,c6,e6⟩:=(Bs.of_own h4.o).len;subst e6;obtain⟨m,hm⟩:=EX L.length;rw[<-hm] at EN ⊢;have HM:=Qa hm;clear hm;go_wp2_with fail;refine EN.o.mono ?_;rintro e w3 ⟨v3,rfl,h1,o3⟩;have EQ:=Qa (U1 v3 v (ENC9 L).1 ys w3 (Bs.of_own h1) ((HB.o.later B2.o).past o3) (P8 L) HR.o);have O3:=Qa ((YW B2.o).same o3);have OW3:=Qa (o3.own h4.o (λ_ _ f=>f));obtain⟨a7,c7,e7⟩:=(Bs.of_own h1).len;subst e7;clear EN h1 o3 h4;generalize (ENC9 L).1=E at *
  by_cases he:E=ys
  ·rw[Qe he] at EQ
   have hD:=h0.o;rw[if_pos he] at hD;clear h0 he;have h5:=Qa hD;clear hD;obtain⟨m2,h3⟩:=EX E.length;rw[<-h3] at EQ ⊢;clear h3;go_wp2_with fail;refine EQ.o.mono ?_;rintro e w4 ⟨rfl,rfl⟩;clear EQ;go_wp2;go_ret2;have hD:=h5.o;subst hD;exact⟨_,rfl,by have:=OW3.o;rw[HM.o];exact this,O3.o⟩
  ·rw[Qi he] at EQ
   have hD:=h0.o;rw[if_neg he] at hD;clear h0 he;have h5:=Qa hD;clear hD;obtain⟨m2,h3⟩:=EX E.length;rw[<-h3] at EQ ⊢;clear h3;go_wp2_with fail;refine EQ.o.mono ?_;rintro e w4 ⟨rfl,rfl⟩;clear EQ;go_wp2;go_ret2;have hD:=h5.o;subst hD;exact⟨_,rfl,Xh,O3.o⟩
theorem Ih (v:Value) (ys:LI) (n:Int) (w:World) (h:Bs .u8 w v ys) (hr:∀y∈ys,0<=y∧y<=255) (hl:ys.length<=1000000000) (hT:Tab w) :
 Calls prog 262 #[v,.int .i64 n] w λe w'=>∃u,e=.returned (.tuple #[u,.int .i64 (DEC9 ys n).2])∧w'.ownsRow w.heap.size 29 1 u (DEC9 ys n).1.length ((DEC9 ys n).1.map (Value.int .u64))∧N0 w w':=by
 by_cases hn:n<0∨65536<n
 ·have e:DEC9 ys n=([],1):=if_pos hn
  rw[e];refine (FY v n w hn).mono ?_;rintro e w' ⟨rfl,rfl⟩;exact⟨_,rfl,Xh,VG⟩
 ·obtain⟨N,rfl⟩:=Int.eq_ofNat_of_zero_le (show 0<=n by omega)
  exact yf v ys N w h hr hl (by omega) hT
end Go.Proofs.YtiochaeeoelmjaaGreatDoor
