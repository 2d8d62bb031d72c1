import Derived.Test.YtnhapmboienipaaGreatDoorY2
namespace Go.Proofs.YtnhapmboienipaaGreatDoor
set_option maxHeartbeats 1000000
set_option maxRecDepth 100000
open Go.RowKit _root_.Go.Proofs.Tryz
structure CurAt (T:TypeId) (w:World) (R:Nat) (v:Value) (ys:List Int):Prop where
 bs:Bs .u8 w v ys
 rng:∀y∈ys,0≤y∧y≤255
 cell:w.heap[R]? = some (.cells #[v] T (0,0))
 ap:v.ownBlock≠some R
 len:ys.length≤1000000000000
theorem CurAt.keep {T:TypeId} {w w':World} {R:Nat} {v:Value} {ys:List Int} (h:CurAt T w R v ys) {S:Nat→Prop} (ho:Only S w w') (hR:¬S R) (hv:∀k,v.ownBlock=some k→¬S k):CurAt T w' R v ys :=
 ⟨h.bs.keep ho hv,h.rng,ho.heap h.cell hR,h.ap,h.len⟩
theorem CurAt.form {T:TypeId} {w:World} {R:Nat} {v:Value} {ys:List Int} (h:CurAt T w R v ys):∃ao cap,v=.slice ao ys.length cap:=by
 obtain ⟨ao,cap,rfl,_⟩:=h.bs;exact ⟨ao,cap,rfl⟩
theorem Qbp {w:World} {R:Nat} {v:Value} {T:TypeId} (h:w.heap[R]? = some (.cells #[v] T (0,0))):w.cell? ⟨R,0,none⟩=some v∧w.frozen? ⟨R,0,none⟩=false :=
 ⟨by simp [World.cell?,h],by simp [World.frozen?,h]⟩
theorem Qfz {w:World} {R:Nat} {v:Value} {T:TypeId} (h:w.heap[R]? = some (.cells #[v] T (0,0))) (u:Value):(w.setCell ⟨R,0,none⟩ u).heap[R]? = some (.cells #[u] T (0,0)):=by
 have h0:=heap_setCell_same w R 0 #[v] T u h
 simpa using h0
theorem QqC (v:Value) (ys:List Int) (w:World) (h:Bs .u8 w v ys) (hr:∀y∈ys,0≤y∧y≤255) (hl:ys.length≤1000000000000) :
  Calls prog 32 #[v] w fun e w'=>∃R v',e=.returned (.pointer (some ⟨R,0,none⟩))∧CurAt 95 w' R v' ys∧Only (fun _=>False) w w'∧w.heap.size≤R∧R<w'.heap.size∧(∀k,v'.ownBlock=some k→w.heap.size≤k∧k<w'.heap.size):=by
 have HB:=Qaa h;have HR:=Qaa hr;clear h hr;go_enter func32,ntmps32;go_wp2_with fail;refine (Qcw v ys _ HB.out (by omega)).mono ?_;rintro e w1 ⟨v',rfl,hown,ho⟩;have hbs:=Bs.of_own hown;have hlt:=hown.lt;obtain ⟨ao,cap,rfl,_⟩:=id hbs;have HBS:=Qaa hbs;have HLT:=Qaa hlt;have HO:=Qaa ho;clear hown ho hbs hlt;go_wp2;go_ret;have oa:Only (fun _=>False) w1 (w1.alloc (.cells #[.slice ao ys.length cap] 95)):=(Only.refl _ _).alloc _;refine ⟨w1.heap.size,.slice ao ys.length cap,rfl,⟨HBS.out.keep oa (fun _ _ f=>f),HR.out,heap_alloc_new w1 _,?_,hl⟩,HO.out.trans oa (fun _ _ f=>f),HO.out.size,by simp,?_⟩
 ·intro e
  have:=(HLT.out _ e).2;omega
 ·intro k hk
  have:=HLT.out k hk;simp;omega
theorem Qok (R m cap:Nat) (ao:Option Addr) (w:World) (h0:w.cell? ⟨R,0,none⟩=some (.slice ao m cap)) :
  Calls prog 57 #[.pointer (some ⟨R,0,none⟩)] w fun e w'=>e=.returned (.int .i64 m)∧w=w':=by
 go_enter func57,ntmps57;go_wp2;go_ret;exact ⟨rfl,rfl⟩
theorem QhM (ao:Option Addr) (m c m' c':Nat):(Value.slice ao m c).ownBlock=(Value.slice ao m' c').ownBlock:=by cases ao <;> rfl
theorem Qol (R n m cap:Nat) (ao:Option Addr) (w:World) (h0:w.cell? ⟨R,0,none⟩=some (.slice ao m cap)) (f0:w.frozen? ⟨R,0,none⟩=false) (h1:n≤m) (h2:m≤cap) :
  Calls prog 58 #[.pointer (some ⟨R,0,none⟩),.int .i64 n] w fun e w'=>e=.returned (.slice ao n cap)∧w'=w.setCell ⟨R,0,none⟩ (.slice (if cap=n then ao else ao.map (fun x=>x.add n)) (m - n) (cap - n)):=by
 have i0:(0:Int)≤(n:Int):=by omega
 have i1:(n:Int)≤(m:Int):=by omega
 have i2:(n:Int)≤(cap:Int):=by omega
 by_cases hc:cap=n
 ·subst hc
  go_enter func58,ntmps58;go_wp2;go_ret;simp
 ·go_enter func58,ntmps58
  go_wp2;go_ret;simp
theorem QdY {w:World} {R:Nat} {v:Value} {ys:List Int} (h:CurAt 95 w R v ys) (n:Nat) (hn:n≤ys.length) :
  Calls prog 58 #[.pointer (some ⟨R,0,none⟩),.int .i64 n] w fun e w'=>∃ao cap v2,e=.returned (.slice ao n cap)∧Bs .u8 w' (.slice ao n cap) (ys.take n)∧(Value.slice ao n cap).ownBlock=v.ownBlock∧CurAt 95 w' R v2 (ys.drop n)∧v2.ownBlock=v.ownBlock∧Only (fun k=>k=R) w w':=by
 obtain ⟨ao,cap,rfl,hcap,hr⟩:=id h.bs;refine (Qol R n ys.length cap ao w (Qbp h.cell).1 (Qbp h.cell).2 hn hcap).mono ?_;rintro e w' ⟨rfl,rfl⟩;have ho:Only (fun k=>k=R) w (w.setCell ⟨R,0,none⟩ (.slice (if cap=n then ao else ao.map (fun x=>x.add n)) (ys.length - n) (cap - n))):=Only.setCell (S:=fun k=>k=R) (p:=⟨R,0,none⟩) (Only.refl _ _) (fun _=>rfl) _
 have hb2:(Value.slice (if cap=n then ao else ao.map (fun x=>x.add n)) (ys.length - n) (cap - n)).ownBlock=(Value.slice ao ys.length cap).ownBlock:=by
  split
  ·exact QhM _ _ _ _ _
  ·exact Qrh _ _ _ _ _ _
 have hne:∀k,(Value.slice ao ys.length cap).ownBlock=some k→¬k=R:=fun k hk e=>h.ap (by rw [←e];exact hk)
 have hd:Bs .u8 w (.slice (if cap=n then ao else ao.map (fun x=>x.add n)) (ys.length - n) (cap - n)) (ys.drop n):=by
  split
  ·rename_i hc
   subst hc;rw [Nat.sub_self];exact h.bs.cut0 hn
  ·exact h.bs.cut hn
 refine ⟨ao,cap,_,rfl,(h.bs.head hn).keep ho (fun k hk=>hne k (by rw [QhM ao ys.length cap n cap];exact hk)),QhM _ _ _ _ _,⟨hd.keep ho (fun k hk=>hne k (by rw [←hb2];exact hk)),fun y hy=>h.rng y (List.mem_of_mem_drop hy),Qfz h.cell _,by rw [hb2];exact h.ap,?_⟩,hb2,ho⟩;have:=h.len;rw [Yai];omega
theorem Qc5 {w:World} {R:Nat} {v:Value} {ys:List Int} (h:CurAt 95 w R v ys) :
  Calls prog 57 #[.pointer (some ⟨R,0,none⟩)] w fun e w'=>e=.returned (.int .i64 ys.length)∧w=w':=by
 obtain ⟨ao,cap,rfl⟩:=h.form;exact Qok R ys.length cap ao w (Qbp h.cell).1
theorem Qom {w:World} {R:Nat} {v:Value} {ys:List Int} (h:CurAt 95 w R v ys) :
  Calls prog 127 #[.pointer (some ⟨R,0,none⟩)] w fun e w'=>e=.returned (.int .i64 ys.length)∧w=w':=by
 have A:=Qaa (Qc5 h);clear h;go_enter func127,ntmps127;go_wp2_with fail;refine A.out.mono ?_;rintro e w1 ⟨rfl,rfl⟩;go_wp2;go_ret;exact ⟨rfl,rfl⟩
def endV (ys:List Int):Int:=if 0<ys.length then 3 else 0
theorem Qrk {w:World} {R:Nat} {v:Value} {ys:List Int} (h:CurAt 95 w R v ys) :
  Calls prog 37 #[.pointer (some ⟨R,0,none⟩)] w fun e w'=>e=.returned (.int .i64 (endV ys))∧w=w':=by
 have A:=Qaa (Qc5 h);clear h
 by_cases h0:0<ys.length
 ·have d0:decide (0<(ys.length:Int))=true:=by simp;omega
  have HE:Hid (endV ys=3):=if_pos h0;go_enter func37,ntmps37;go_wp2_with fail;refine A.out.mono ?_;rintro e w1 ⟨rfl,rfl⟩;go_wp2;go_ret;exact ⟨by rw [HE.out];rfl,rfl⟩
 ·have d0:decide (0<(ys.length:Int))=false:=Yak (by omega)
  have HE:Hid (endV ys=0):=if_neg h0;go_enter func37,ntmps37;go_wp2_with fail;refine A.out.mono ?_;rintro e w1 ⟨rfl,rfl⟩;go_wp2;go_ret;exact ⟨by rw [HE.out];rfl,rfl⟩
theorem Qi0 (R:Nat) (n:Int) (w:World) (h:n<0):Calls prog 60 #[.pointer (some ⟨R,0,none⟩),.int .i64 n] w fun e w'=>e=.returned (.tuple #[.slice none 0 0,.int .i64 1])∧w=w':=by
 go_enter func60,ntmps60;go_wp2;go_ret2;exact ⟨rfl,rfl⟩
theorem Qds {w:World} {R:Nat} {v:Value} {ys:List Int} (h:CurAt 95 w R v ys) (n:Int) (h0:0≤n) (h1:(ys.length:Int)<n) :
  Calls prog 60 #[.pointer (some ⟨R,0,none⟩),.int .i64 n] w fun e w'=>e=.returned (.tuple #[.slice none 0 0,.int .i64 2])∧w=w':=by
 have A:=Qaa (Qc5 h);clear h
 have d0:decide (n<0)=false:=by simp;omega
 go_enter func60,ntmps60;go_wp2_with fail;refine A.out.mono ?_;rintro e w1 ⟨rfl,rfl⟩;go_wp2;go_ret2;exact ⟨rfl,rfl⟩
theorem QhN {w:World} {R:Nat} {v:Value} {ys:List Int} (h:CurAt 95 w R v ys) (n:Nat) (h1:n≤ys.length) :
  Calls prog 60 #[.pointer (some ⟨R,0,none⟩),.int .i64 n] w fun e w'=>∃ao cap v2,e=.returned (.tuple #[.slice ao n cap,.int .i64 0])∧Bs .u8 w' (.slice ao n cap) (ys.take n)∧(Value.slice ao n cap).ownBlock=v.ownBlock∧CurAt 95 w' R v2 (ys.drop n)∧v2.ownBlock=v.ownBlock∧Only (fun k=>k=R) w w':=by
 have A:=Qaa (Qc5 h);have B:=Qaa (QdY h n h1);clear h
 have d0:decide ((n:Int)<0)=false:=by simp
 have d1:decide ((ys.length:Int)<(n:Int))=false:=by simp;omega
 go_enter func60,ntmps60;go_wp2_with fail;refine A.out.mono ?_;rintro e w1 ⟨rfl,rfl⟩;go_wp2_with fail;refine B.out.mono ?_;rintro e w1 ⟨ao,cap,v2,rfl,hr⟩;have HR:=Qaa hr;clear hr;go_wp2;go_ret2;exact ⟨ao,cap,v2,rfl,HR.out⟩
theorem QcV (N:Nat):∀k,(Value.slice none 0 0).ownBlock=some k→N≤k:=fun k hk=>by cases hk
def num (l:List Int):Nat:=l.foldl (fun a y=>256*a+y.toNat) 0
theorem QdZ (l:List Int) (y:Int):num (l++[y])=256*num l+y.toNat:=by simp [num]
theorem QqD (l:List Int) (hr:∀y∈l,0≤y∧y≤255):num l<256^l.length:=by
 induction h:l.length generalizing l with
 | zero =>
  have:l=[]:=List.eq_nil_of_length_eq_zero h;subst this;simp [num]
 | succ n ih =>
  have hne:l≠[]:=by intro h0;subst h0;simp at h
  obtain ⟨t,b,rfl⟩:∃t b,l=t++[b]:=⟨l.dropLast,l.getLast hne,(List.dropLast_concat_getLast hne).symm⟩;have:=ih t (fun y hy=>hr y (by simp [hy])) (by simp at h;omega);have hb:=hr b (by simp);rw [QdZ,Nat.pow_succ];omega
theorem Qa4 (l:List Int) (k:Nat) (h:k<l.length):l.take (k+1)=l.take k++[l.getD k 0]:=by
 rw [List.take_succ_eq_append_getElem h,Yad,Yaf h];rfl
theorem QtJ {k:Nat} (h:k≤7):256^k≤72057594037927936:=by
 have h1:256^k≤256^7:=Nat.pow_le_pow_right (by omega) h
 have h2:(256:Nat)^7=72057594037927936:=by decide
 omega
theorem Qon (zs:List Int) (k:Nat) (hr:∀y∈zs,0≤y∧y≤255) (h8:zs.length≤8) (h:k<zs.length) :
  num (zs.take k)<72057594037927936∧bits .or .u64 ((num (zs.take k):Int)*256) (zs.getD k 0)=(num (zs.take (k+1)):Int):=by
 have hl:=QqD (zs.take k) (fun y hy=>hr y (List.mem_of_mem_take hy));rw [Yag,Nat.min_eq_left (by omega)] at hl;have hp:=QtJ (k:=k) (by omega);have hy:=hr (zs.getD k 0) (by rw [Yad,Yaf h];simp);rw [Qa4 zs k h,QdZ];generalize zs.getD k 0=y at hy;generalize num (zs.take k)=a at hl;obtain ⟨m,rfl⟩:=Int.eq_ofNat_of_zero_le hy.1
 have e2:((a:Int)*256)=((256*a:Nat):Int):=by omega
 refine ⟨by omega,?_⟩;rw [e2,u64_or_nat _ _ (by omega) (by omega),nat_join 8 _ _ (by omega) (by omega),Int.toNat_natCast]
def sByte (ys:List Int):Int × Nat × Int:=if ys.length=0 then (0,0,2) else (ys.getD 0 0,1,0)
def Qbn (n:Int) (ys:List Int):List Int × Nat × Int:=if n<0 then ([],0,1) else if (ys.length:Int)<n then ([],0,2) else (ys.take n.toNat,n.toNat,0)
def QbR (n:Int) (ys:List Int):Int × Nat × Int:=if n<0∨8<n then (0,0,1) else if (ys.length:Int)<n then (0,0,2) else (num (ys.take n.toNat),n.toNat,0)
def Qac (ys:List Int):Int × Nat × Int:=((rd 0 0 ys).1,(rd 0 0 ys).2.1.toNat,(rd 0 0 ys).2.2)
def Qam (most:Int) (ys:List Int):List Int × Nat × Int :=
 if most<0 then ([],0,1) else if (Qac ys).2.2≠0 then ([],0,(Qac ys).2.2) else if most<(Qac ys).1 then ([],0,4)
 else if (ys.length:Int) - (Qac ys).2.1<(Qac ys).1 then ([],0,2) else ((ys.drop (Qac ys).2.1).take (Qac ys).1.toNat,(Qac ys).2.1+(Qac ys).1.toNat,0)
theorem QfA (ys:List Int) (hr:∀y∈ys,0≤y∧y≤255):(∃c,rd 0 0 ys=(0,0,c)∧(c=2∨c=3))∨(∃a k:Nat,rd 0 0 ys=((a:Int),(k:Int),0)∧1≤k∧k≤ys.length∧k≤10∧a<18446744073709551616∧gs a=ys.take k):=by
 obtain ⟨r,n,c,h⟩:∃r n c,rd 0 0 ys=(r,n,c):=⟨_,_,_,rfl⟩
 rcases QuF ys 0 0 with h0 | ⟨h1,h2,h3⟩
 ·right
  rw [h] at h0;simp at h0;subst h0;obtain ⟨a,k,e1,e2,k1,k2,hg,_,hv⟩:=rd_ok ys 0 0 r n (by omega) hr h;simp at e1 e2 hv;subst e1;subst e2;refine ⟨a,k,h,k1,k2,?_,hv,hg⟩;have h10:=QaC (v:=a) hv;rw [hg,Yag] at h10;omega
 ·left
  rw [h] at h1 h2 h3;simp at h1 h2 h3;subst h1;subst h2;exact ⟨c,h,h3⟩
theorem Qoo {w:World} {R:Nat} {v:Value} {ys:List Int} (h:CurAt 95 w R v ys) :
  Calls prog 165 #[.pointer (some ⟨R,0,none⟩)] w fun e w'=>e=.returned (.tuple #[.int .u8 (sByte ys).1,.int .i64 (sByte ys).2.2]) ∧
   ∃v2,CurAt 95 w' R v2 (ys.drop (sByte ys).2.1)∧v2.ownBlock=v.ownBlock∧Only (fun k=>k=R) w w':=by
 by_cases h0:ys.length=0
 ·have HS:Hid (sByte ys=(0,0,2)):=if_pos h0
  have A:=Qaa (Qds h 1 (by omega) (by omega));have HC:=Qaa h;clear h;go_enter func165,ntmps165;go_wp2_with fail;refine A.out.mono ?_;rintro e w1 ⟨rfl,rfl⟩;go_wp2;go_ret2;rw [HS.out];exact ⟨rfl,v,HC.out,rfl,Only.refl _ _⟩
 ·have HS:Hid (sByte ys=(ys.getD 0 0,1,0)):=if_neg h0
  have A:=Qaa (QhN h 1 (by omega));clear h;go_enter func165,ntmps165;go_wp2_with fail;refine A.out.mono ?_;rintro e w1 ⟨ao,cap,v2,rfl,hb,_,hc,ho,hon⟩;obtain ⟨b,off,cap',e1,hx⟩:=hb.at 0 (by rw [Yag];omega)
  have ea:ao=some ⟨b,off,none⟩:=by simp at e1;exact e1.1
  subst ea;clear e1
  have hg:(ys.take 1).getD 0 0=ys.getD 0 0:=by
   rw [Yad,Yad,List.getElem?_take,if_pos (by omega)]
  rw [hg,Nat.add_zero] at hx;generalize ys.getD 0 0=y at hx HS;have HR:=Qaa (And.intro hc (And.intro ho hon));clear hb hc ho hon A;go_wp2;go_ret2;rw [HS.out];exact ⟨rfl,v2,HR.out⟩
theorem Qlv {w:World} {R:Nat} {v:Value} {ys:List Int} (h:CurAt 95 w R v ys) (n:Int) :
  Calls prog 124 #[.pointer (some ⟨R,0,none⟩),.int .i64 n] w fun e w'=>e=.returned (.tuple #[.int .u64 (QbR n ys).1,.int .i64 (QbR n ys).2.2]) ∧
   ∃v2,CurAt 95 w' R v2 (ys.drop (QbR n ys).2.1)∧v2.ownBlock=v.ownBlock∧Only (fun k=>k=R) w w':=by
 by_cases h8:8<n
 ·have HS:Hid (QbR n ys=(0,0,1)):=if_pos (.inr h8)
  have HC:=Qaa h;clear h;go_enter func124,ntmps124;go_wp2;go_ret2;rw [HS.out];exact ⟨rfl,v,HC.out,rfl,Only.refl _ _⟩
 have d8:decide (8<n)=false:=Yak h8
 by_cases h0:n<0
 ·have HS:Hid (QbR n ys=(0,0,1)):=if_pos (.inl h0)
  have A:=Qaa (Qi0 R n w h0);have HC:=Qaa h;clear h;go_enter func124,ntmps124;go_wp2_with fail;refine A.out.mono ?_;rintro e w1 ⟨rfl,rfl⟩;go_wp2;go_ret2;rw [HS.out];exact ⟨rfl,v,HC.out,rfl,Only.refl _ _⟩
 obtain ⟨n,rfl⟩:=Int.eq_ofNat_of_zero_le (Int.not_lt.1 h0)
 by_cases hs:(ys.length:Int)<(n:Int)
 ·have HS:Hid (QbR n ys=(0,0,2)):=by
   simp only [Hid,QbR];rw [if_neg (by omega),if_pos hs]
  have A:=Qaa (Qds h n (by omega) hs);have HC:=Qaa h;clear h;go_enter func124,ntmps124;go_wp2_with fail;refine A.out.mono ?_;rintro e w1 ⟨rfl,rfl⟩;go_wp2;go_ret2;rw [HS.out];exact ⟨rfl,v,HC.out,rfl,Only.refl _ _⟩
 ·have HS:Hid (QbR n ys=((num (ys.take n):Int),n,0)):=by
   simp only [Hid,QbR];rw [if_neg (by omega),if_neg hs]
   rfl
  have A:=Qaa (QhN h n (by omega))
  have HZR:Hid (∀y∈ys.take n,0≤y∧y≤255):=fun y hy=>h.rng y (List.mem_of_mem_take hy)
  have HZL:Hid ((ys.take n).length=n):=by simp only [Hid,Yag];omega
  clear h;go_enter func124,ntmps124;go_wp2_with fail;refine A.out.mono ?_;rintro e w1 ⟨ao,cap,v2,rfl,hb,_,hc,ho,hon⟩;have HB:=Qaa hb;have HR:=Qaa (And.intro hc (And.intro ho hon));clear hb hc ho hon A;generalize ys.take n=zs at HB HZR HZL HS;go_wp2
  go_loop [8,24] (fun a i=>∃k:Nat,k≤n∧i=.int .i64 k∧a=.int .u64 (num (zs.take k))) (fun _ i=>n - (intOf i).toNat)
  case atStart=>exact ⟨0,Nat.zero_le _,rfl,rfl⟩
  case round =>
   obtain ⟨k,hk,rfl,rfl⟩:=hrel
   by_cases hlt:k<n
   ·obtain ⟨b,off,cap',e1,hx⟩:=HB.out.at k (by rw [HZL.out];exact hlt)
    have ea:ao=some ⟨b,off,none⟩:=by simp at e1;exact e1.1
    subst ea;clear e1;obtain ⟨ha,hst⟩:=Qon zs k HZR.out (by rw [HZL.out];omega) (by rw [HZL.out];exact hlt);have hy:=HZR.out (zs.getD k 0) (by rw [Yad,Yaf (by rw [HZL.out];exact hlt)];simp);generalize zs.getD k 0=y at hx hst hy
    have i0:(0:Int)≤(k:Int):=by omega
    have i1:(k:Int)<(n:Int):=by omega
    have HST:=Qaa hst
    have hsh:(num (zs.take k):Int)*256≤18446744073709551615:=by omega
    generalize num (zs.take k)=a at HST ha hsh;clear hst;go_wp2
    go_round
    case rel=>exact ⟨k+1,by omega,by go_num,by rw [HST.out]⟩
    case measure=>simp [intOf];omega
   ·have hkn:k=n:=by omega
    subst hkn;go_wp2;go_ret2;rw [HS.out,List.take_of_length_le (by rw [HZL.out];omega)];exact ⟨rfl,v2,HR.out⟩
theorem Qe8 {w:World} {R:Nat} {v:Value} {ys:List Int} (h:CurAt 95 w R v ys) :
  Calls prog 163 #[.pointer (some ⟨R,0,none⟩)] w fun e w'=>e=.returned (.tuple #[.int .u64 (Qac ys).1,.int .i64 (Qac ys).2.2]) ∧
   ∃v2,CurAt 95 w' R v2 (ys.drop (Qac ys).2.1)∧v2.ownBlock=v.ownBlock∧Only (fun k=>k=R) w w':=by
 obtain ⟨ao,cap,rfl⟩:=h.form;have c0:=(Qbp h.cell).1
 rcases QfA ys h.rng with ⟨c,hrd,hc⟩ | ⟨a,k,hrd,_,hk,_,_,_⟩
 ·have HS:Hid (Qac ys=(0,0,c)):=by simp only [Hid,Qac];rw [hrd];rfl
  have A:=Qaa (Qf8 _ ys w hrd h.bs h.rng);have HC:=Qaa h
  have dc:(c != 0)=true:=by simp;omega
  clear h hrd;go_enter func163,ntmps163;go_wp2_with fail;refine A.out.mono ?_;rintro e w1 ⟨rfl,rfl⟩;go_wp2;go_ret2;rw [HS.out];exact ⟨rfl,_,HC.out,rfl,Only.refl _ _⟩
 ·have HS:Hid (Qac ys=((a:Int),k,0)):=by simp only [Hid,Qac];rw [hrd];rfl
  have A:=Qaa (Qf8 _ ys w hrd h.bs h.rng);have B:=Qaa (QdY h k hk);clear h hrd;go_enter func163,ntmps163;go_wp2_with fail;refine A.out.mono ?_;rintro e w1 ⟨rfl,rfl⟩;go_wp2_with fail;refine B.out.mono ?_;rintro e w1 ⟨ao',cap',v2,rfl,_,_,hc,ho,hon⟩;have HR:=Qaa (And.intro hc (And.intro ho hon));clear hc ho hon A B c0;go_wp2;go_ret2;rw [HS.out];exact ⟨rfl,v2,HR.out⟩
theorem Qgo {w:World} {R:Nat} {v:Value} {ys:List Int} (h:CurAt 95 w R v ys) (n:Int) :
  Calls prog 36 #[.pointer (some ⟨R,0,none⟩),.int .i64 n] w fun e w'=>∃v1,e=.returned (.tuple #[v1,.int .i64 (Qbn n ys).2.2])∧w'.ownsRow w.heap.size 5 1 v1 (Qbn n ys).1.length ((Qbn n ys).1.map (Value.int .u8)) ∧
   ∃v2,CurAt 95 w' R v2 (ys.drop (Qbn n ys).2.1)∧v2.ownBlock=v.ownBlock∧Only (fun k=>k=R) w w':=by
 by_cases h0:n<0
 ·have HS:Hid (Qbn n ys=([],0,1)):=if_pos h0
  have A:=Qaa (Qi0 R n w h0);have HC:=Qaa h;clear h;go_enter func36,ntmps36;go_wp2_with fail;refine A.out.mono ?_;rintro e w1 ⟨rfl,rfl⟩;go_wp2;go_ret2;rw [HS.out];exact ⟨.slice none 0 0,rfl,World.ownsRow_nil _ _ _ _,v,HC.out,rfl,Only.refl _ _⟩
 obtain ⟨n,rfl⟩:=Int.eq_ofNat_of_zero_le (Int.not_lt.1 h0)
 by_cases hs:(ys.length:Int)<(n:Int)
 ·have HS:Hid (Qbn n ys=([],0,2)):=by
   simp only [Hid,Qbn];rw [if_neg h0,if_pos hs]
  have A:=Qaa (Qds h n (by omega) hs);have HC:=Qaa h;clear h;go_enter func36,ntmps36;go_wp2_with fail;refine A.out.mono ?_;rintro e w1 ⟨rfl,rfl⟩;go_wp2;go_ret2;rw [HS.out];exact ⟨.slice none 0 0,rfl,World.ownsRow_nil _ _ _ _,v,HC.out,rfl,Only.refl _ _⟩
 ·have HS:Hid (Qbn n ys=(ys.take n,n,0)):=by
   simp only [Hid,Qbn];rw [if_neg h0,if_neg hs]
   rfl
  have A:=Qaa (QhN h n (by omega));have hlen:=h.len;have hRw:R<w.heap.size:=(Array.getElem?_eq_some_iff.1 h.cell).1;clear h;go_enter func36,ntmps36;go_wp2_with fail;refine A.out.mono ?_;rintro e w1 ⟨ao,cap,v2,rfl,hb,_,hc,ho,hon⟩;have B:=Qaa (Qcw _ _ w1 hb (by rw [Yag];omega));have HR:=Qaa (And.intro hc (And.intro ho hon));clear hb hc ho hon A;go_wp2_with fail;refine B.out.mono ?_;rintro e w2 ⟨v1,rfl,hown,hon2⟩
  have F:Hid (w2.ownsRow w.heap.size 5 1 v1 (ys.take n).length ((ys.take n).map (Value.int .u8))∧CurAt 95 w2 R v2 (ys.drop n)∧v2.ownBlock=v.ownBlock∧Only (fun k=>k=R) w w2):=by
   obtain ⟨hc,ho,hon⟩:=HR.out;exact ⟨Qaf hown hon.size,hc.keep hon2 (fun f=>f) (fun _ _ f=>f),ho,hon.trans hon2 (fun _ _ f=>f.elim)⟩
  clear hown hon2 B HR;go_wp2;go_ret2;rw [HS.out];exact ⟨v1,rfl,F.out.1,v2,F.out.2⟩
theorem Qec {w:World} {R:Nat} {v:Value} {ys:List Int} (h:CurAt 95 w R v ys) (n:Int) :
  Calls prog 36 #[.pointer (some ⟨R,0,none⟩),.int .i64 n] w fun e w'=>∃v1,e=.returned (.tuple #[v1,.int .i64 (Qbn n ys).2.2])∧Bs .u8 w' v1 (Qbn n ys).1∧NoCap v1∧(∀k,v1.ownBlock=some k→w.heap.size≤k) ∧
   ∃v2,CurAt 95 w' R v2 (ys.drop (Qbn n ys).2.1)∧v2.ownBlock=v.ownBlock∧Only (fun k=>k=R) w w' :=
 (Qgo h n).mono fun _ _ ⟨v1,e,own,r⟩=>⟨v1,e,Bs.of_own own,NoCap.of_own own,fun k hk=>(own.lt k hk).1,r⟩
theorem Qgp {w:World} {R:Nat} {v:Value} {ys:List Int} (h:CurAt 95 w R v ys) (most:Int) (hm:most≤9223372036854775807) :
  Calls prog 34 #[.pointer (some ⟨R,0,none⟩),.int .i64 most] w fun e w'=>∃v1,e=.returned (.tuple #[v1,.int .i64 (Qam most ys).2.2])∧Bs .u8 w' v1 (Qam most ys).1∧NoCap v1∧(∀k,v1.ownBlock=some k→w.heap.size≤k) ∧
   ∃v2,CurAt 95 w' R v2 (ys.drop (Qam most ys).2.1)∧v2.ownBlock=v.ownBlock∧Only (fun k=>k=R) w w':=by
 by_cases h0:most<0
 ·have HS:Hid (Qam most ys=([],0,1)):=if_pos h0
  have HC:=Qaa h;clear h;go_enter func34,ntmps34;go_wp2;go_ret2;rw [HS.out];exact ⟨.slice none 0 0,rfl,Bs.nil _ _,NoCap.nil,QcV _,v,HC.out,rfl,Only.refl _ _⟩
 have d0:decide (most<0)=false:=Yak h0;obtain ⟨ao,cap,rfl⟩:=h.form;have c0:=(Qbp h.cell).1;have hlen:=h.len
 rcases QfA ys h.rng with ⟨c,hrd,hc⟩ | ⟨a,k,hrd,hk1,hk,_,ha,_⟩
 ·have HV:Qac ys=(0,0,c):=by simp only [Qac];rw [hrd];rfl
  have HS:Hid (Qam most ys=([],0,c)):=by
   simp only [Hid,Qam];rw [if_neg h0,HV,if_pos (by simp;omega)]
  have A:=Qaa (Qf8 _ ys w hrd h.bs h.rng);have HC:=Qaa h
  have dc:(c != 0)=true:=by simp;omega
  clear h hrd HV;go_enter func34,ntmps34;go_wp2_with fail;refine A.out.mono ?_;rintro e w1 ⟨rfl,rfl⟩;go_wp2;go_ret2;rw [HS.out];exact ⟨.slice none 0 0,rfl,Bs.nil _ _,NoCap.nil,QcV _,_,HC.out,rfl,Only.refl _ _⟩
 ·have HV:Qac ys=((a:Int),k,0):=by simp only [Qac];rw [hrd];rfl
  have A:=Qaa (Qf8 _ ys w hrd h.bs h.rng)
  by_cases h4:most<(a:Int)
  ·have HS:Hid (Qam most ys=([],0,4)):=by
    simp only [Hid,Qam];rw [if_neg h0,HV,if_neg (by simp),if_pos h4]
   have HC:=Qaa h;clear h hrd HV;have d4:decide (most<(a:Int))=true:=Yaj h4;go_enter func34,ntmps34;go_wp2_with fail;refine A.out.mono ?_;rintro e w1 ⟨rfl,rfl⟩;go_wp2;go_ret2;rw [HS.out];exact ⟨.slice none 0 0,rfl,Bs.nil _ _,NoCap.nil,QcV _,_,HC.out,rfl,Only.refl _ _⟩
  have d4:decide (most<(a:Int))=false:=Yak h4;have L:=Qaa (Qc5 h)
  by_cases h2:(ys.length:Int) - k<(a:Int)
  ·have HS:Hid (Qam most ys=([],0,2)):=by
    simp only [Hid,Qam];rw [if_neg h0,HV,if_neg (by simp),if_neg h4,if_pos h2]
   have HC:=Qaa h;clear h hrd HV;have d2:decide ((ys.length:Int) - k<(a:Int))=true:=Yaj h2;go_enter func34,ntmps34;go_wp2_with fail;refine A.out.mono ?_;rintro e w1 ⟨rfl,rfl⟩;go_wp2_with fail;refine L.out.mono ?_;rintro e w1 ⟨rfl,rfl⟩;go_wp2;go_ret2;rw [HS.out];exact ⟨.slice none 0 0,rfl,Bs.nil _ _,NoCap.nil,QcV _,_,HC.out,rfl,Only.refl _ _⟩
  ·have HS:Hid (Qam most ys=((ys.drop k).take a,k+a,0)):=by
    simp only [Hid,Qam];rw [if_neg h0,HV,if_neg (by simp),if_neg h4,if_neg h2]
    rfl
   have d2:decide ((ys.length:Int) - k<(a:Int))=false:=Yak h2;have B:=Qaa (QdY h k hk);clear h hrd HV;go_enter func34,ntmps34;go_wp2_with fail;refine A.out.mono ?_;rintro e w1 ⟨rfl,rfl⟩;go_wp2_with fail;refine L.out.mono ?_;rintro e w1 ⟨rfl,rfl⟩;go_wp2_with fail;refine B.out.mono ?_;rintro e w1 ⟨ao',cap',v2,rfl,_,_,hc,ho,hon⟩;have C:=Qaa (QdY hc a (by rw [Yai];omega));have HR:=Qaa (And.intro ho hon);clear hc ho hon A B L c0;go_wp2_with fail;refine C.out.mono ?_;rintro e w2 ⟨ao3,cap3,v3,rfl,hb,_,hc,ho,hon⟩;have D:=Qaa (Qcw _ _ w2 hb (by rw [Yag,Yai];omega));have HR2:=Qaa (And.intro hc (And.intro ho hon));clear hb hc ho hon C;go_wp2_with fail;refine D.out.mono ?_;rintro e w3 ⟨v1,rfl,hown,hon3⟩
   have F:Hid (Bs .u8 w3 v1 ((ys.drop k).take a)∧NoCap v1∧(∀k,v1.ownBlock=some k→w.heap.size≤k)∧CurAt 95 w3 R v3 (ys.drop (k+a))∧v3.ownBlock=(Value.slice ao ys.length cap).ownBlock∧Only (fun k=>k=R) w w3):=by
    obtain ⟨ho,hon⟩:=HR.out;obtain ⟨hc,ho2,hon2⟩:=HR2.out;rw [List.drop_drop] at hc;have hon12:=hon.trans hon2 (fun _ _ f=>f);exact ⟨Bs.of_own hown,NoCap.of_own hown,fun k hk=>Nat.le_trans hon12.size (hown.lt k hk).1,hc.keep hon3 (fun f=>f) (fun _ _ f=>f),ho2.trans ho,hon12.trans hon3 (fun _ _ f=>f.elim)⟩
   clear hown hon3 D HR HR2;go_wp2;go_ret2;rw [HS.out];obtain ⟨f1,f2,f3,f4⟩:=F.out;exact ⟨v1,rfl,f1,f2,f3,v3,f4⟩
theorem Qcx (v:Nat) (t:List Int) (h:v<18446744073709551616):Qac (gs v++t)=((v:Int),(gs v).length,0):=by
 have:=rd_gs t v 0 0 (by omega) (by simpa using h) (fun h=>by omega);rw [Qac,this];simp
def loF (a:Int) (l:List Int):Int:=l.foldl (fun m x=>min m x) a
def hiF (a:Int) (l:List Int):Int:=l.foldl (fun m x=>max m x) a
def lo (l:List Int):Int:=loF (l.getD 0 0) (l.drop 1)
def hi (l:List Int):Int:=hiF (l.getD 0 0) (l.drop 1)
theorem QqI (l:List Int):∀a,loF a l≤a∧∀x∈l,loF a l≤x:=by
 induction l with
 | nil=>intro a;simp [loF]
 | cons b t ih =>
  intro a;obtain ⟨h1,h2⟩:=ih (min a b);have e:loF a (b :: t)=loF (min a b) t:=rfl;rw [e];refine ⟨by omega,fun x hx=>?_⟩
  rcases List.mem_cons.1 hx with rfl | hx
  ·omega
  ·exact h2 x hx
theorem QqJ (l:List Int):∀a,a≤hiF a l∧∀x∈l,x≤hiF a l:=by
 induction l with
 | nil=>intro a;simp [hiF]
 | cons b t ih =>
  intro a;obtain ⟨h1,h2⟩:=ih (max a b);have e:hiF a (b :: t)=hiF (max a b) t:=rfl;rw [e];refine ⟨by omega,fun x hx=>?_⟩
  rcases List.mem_cons.1 hx with rfl | hx
  ·omega
  ·exact h2 x hx
theorem Qrx (l:List Int):∀a,loF a l=a∨loF a l∈l:=by
 induction l with
 | nil=>intro a;simp [loF]
 | cons b t ih =>
  intro a;have e:loF a (b :: t)=loF (min a b) t:=rfl;rw [e]
  rcases ih (min a b) with h | h
  ·rw [h]
   rcases Int.le_total a b with h' | h'
   ·left;omega
   ·right;rw [show min a b=b by omega];exact List.mem_cons_self
  ·exact .inr (List.mem_cons_of_mem _ h)
theorem Qry (l:List Int):∀a,hiF a l=a∨hiF a l∈l:=by
 induction l with
 | nil=>intro a;simp [hiF]
 | cons b t ih =>
  intro a;have e:hiF a (b :: t)=hiF (max a b) t:=rfl;rw [e]
  rcases ih (max a b) with h | h
  ·rw [h]
   rcases Int.le_total a b with h' | h'
   ·right;rw [show max a b=b by omega];exact List.mem_cons_self
   ·left;omega
  ·exact .inr (List.mem_cons_of_mem _ h)
theorem QoA (a:Int) (l:List Int) (x:Int):loF a (l++[x])=min (loF a l) x:=by simp [loF]
theorem QoB (a:Int) (l:List Int) (x:Int):hiF a (l++[x])=max (hiF a l) x:=by simp [hiF]
theorem QlI (a:Int) (t:List Int):lo (a :: t)=loF a t:=rfl
theorem QlJ (a:Int) (t:List Int):hi (a :: t)=hiF a t:=rfl
theorem QtP:lo []=0:=rfl
theorem QtQ:hi []=0:=rfl
theorem lo_le (l:List Int):∀x∈l,lo l≤x:=by
 cases l with
 | nil=>simp
 | cons a t =>
  intro x hx;rw [QlI]
  rcases List.mem_cons.1 hx with rfl | hx
  ·exact (QqI t x).1
  ·exact (QqI t a).2 x hx
theorem le_hi (l:List Int):∀x∈l,x≤hi l:=by
 cases l with
 | nil=>simp
 | cons a t =>
  intro x hx;rw [QlJ]
  rcases List.mem_cons.1 hx with rfl | hx
  ·exact (QqJ t x).1
  ·exact (QqJ t a).2 x hx
theorem QtR {l:List Int} (h:l≠[]):lo l∈l:=by
 cases l with
 | nil=>exact absurd rfl h
 | cons a t =>
  rw [QlI]
  rcases Qrx t a with h | h
  ·rw [h];exact List.mem_cons_self
  ·exact List.mem_cons_of_mem _ h
theorem QqK {l:List Int} (h:l≠[]):hi l∈l:=by
 cases l with
 | nil=>exact absurd rfl h
 | cons a t =>
  rw [QlJ]
  rcases Qry t a with h | h
  ·rw [h];exact List.mem_cons_self
  ·exact List.mem_cons_of_mem _ h
theorem lohi {l:List Int} (h:U64 l):0≤lo l∧lo l≤hi l∧hi l≤18446744073709551615:=by
 by_cases hne:l=[]
 ·subst hne;rw [QtP,QtQ];omega
 ·have h1:=h _ (QtR hne)
  have h2:=h _ (QqK hne);have h3:=lo_le l _ (QqK hne);omega
def wd (l:List Int):Nat:=wid (hi l - lo l).toNat
theorem wd_le {l:List Int} (h:U64 l):wd l≤64:=by
 have:=lohi h;exact Qb2 _ (by omega)
theorem Qrz (l:List Int) (x:Int) (hx:x∈l):wid (x - lo l).toNat≤wd l:=by
 have h1:=lo_le l x hx;have h2:=le_hi l x hx;exact QjQ (by omega)
def ups (a:Int) (w:Nat) (t:List Int):List Bool:=t.flatMap fun x=>Qaj (x - a).toNat w
def up (l:List Int):List Bool:=ups (lo l) (wd l) l
theorem Qfa (a:Int) (w:Nat) (t:List Int):(ups a w t).length=t.length*w:=by
 induction t with
 | nil=>simp [ups]
 | cons b t ih =>
  have e:ups a w (b :: t)=Qaj (b - a).toNat w++ups a w t:=rfl;rw [e,Yae,ih,Qao,Yah,Nat.add_mul];omega
theorem QoC (a:Int) (w:Nat) (t:List Int) (x:Int):ups a w (t++[x])=ups a w t++Qaj (x - a).toNat w:=by simp [ups]
theorem Qgv (l:List Int):(up l).length=l.length*wd l:=Qfa _ _ _
def PK (l:List Int):List Int:=gs (lo l).toNat++((wd l:Int) :: QaD (up l))
theorem QlK (l:List Int):(PK l).length=(gs (lo l).toNat).length+1+(l.length*wd l+7) / 8:=by
 unfold PK;rw [Yae,Yah,QaI,nb,Qgv];omega
theorem QtS {l:List Int} (h:U64 l):∀y∈PK l,0≤y∧y≤255:=by
 intro y hy;have hw:=wd_le h;unfold PK at hy
 rcases List.mem_append.1 hy with h1 | h1
 ·exact Qa8 _ y h1
 ·rcases List.mem_cons.1 h1 with rfl | h1
  ·omega
  ·exact Qdr _ y h1
def nums (a:Nat) (w:Nat) (l:List Bool) (n:Nat):List Int:=(List.range n).map fun i=>(((a+bnum ((l.drop (i*w)).take w)) % 18446744073709551616:Nat):Int)
def rdl (b:List Int) (n:Nat):Int × List Int :=
 if (Qac b).2.2≠0 then ((Qac b).2.2,[]) else
 if (b.drop (Qac b).2.1).length=0 then (2,[]) else
 if 64<(b.drop (Qac b).2.1).getD 0 0 then (3,[]) else
 if 8*(b.drop ((Qac b).2.1+1)).length<n*((b.drop (Qac b).2.1).getD 0 0).toNat then (2,[]) else
 (0,nums (Qac b).1.toNat ((b.drop (Qac b).2.1).getD 0 0).toNat (Qrg (b.drop ((Qac b).2.1+1))) n)
def UN (b:List Int) (n:Int):Int × List Int :=
 if n<0∨65536<n then (1,[]) else
 if (rdl b n.toNat).1≠0 then ((rdl b n.toNat).1,[]) else
 if PK (rdl b n.toNat).2=b then (0,(rdl b n.toNat).2) else (3,[])
end Go.Proofs.YtnhapmboienipaaGreatDoor
