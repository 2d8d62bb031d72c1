import Derived.Test.YtiochaeeoelmjaaGreatDoorProg
import Derived.Test.YtiochaeeoelmjaaGreatDoorG1
import Derived.Test.YtiochaeeoelmjaaGreatDoorG35
namespace Go.Proofs.YtiochaeeoelmjaaGreatDoor
set_option maxHeartbeats 4000000
set_option maxRecDepth 100000
open Go.RowKit _root_.Go.Proofs.Tryz
theorem TQ {f:Nat} {args:Array Value} {w:World} (h:Calls prog f args w λe w'=>e=.returned (.bool true)∧N0 w w'):Calls prog f args w λe w'=>e=.returned (.bool true)∧Below w.heap.size w w':=by
 refine h.mono ?_;rintro e w' ⟨rfl,o⟩;exact⟨rfl,o.low (Nat.le_refl _)⟩
theorem Blk.bsT {w:World} {g:Nat} {t:TypeId} {xs:LI} (h:Blk w g t (bl xs)) (k n:Nat) (hn:xs.length=n) (hk:k<=n):Bs .u8 w (.slice (some ⟨g,0,none⟩) k n) (xs.take k):=by
 subst hn
 have hl:(xs.take k).length=k:=by rw[Qd];omega
 refine⟨_,_,by rw[hl],by rw[hl];exact hk,λ_=>⟨g,0,rfl,λj hj=>?_⟩⟩;rw[hl] at hj;rw[Nat.zero_add,h.cell,bl_at _ _ (by omega),Qc,Qc,List.getElem?_take,if_pos hj]
theorem ZI {m:LI} {s:YA} {v:Nat} {l:List Qi} (h:¬(m.length=32∧WH s∧v≠18446744073709551615)):QX m s v l=1:=by
 have e:Yt m s v l.length=1:=by unfold Yt;rw[if_neg h]
 unfold QX;rw[e];rfl
theorem Ik {m t:LI} (h:m.length=32) (ht:64<t.length):QX m (0,[]) 1 [(t,[])]=4:=by
 have e:Yt m (0,[]) 1 [((t,[]):Qi)].length=0:=by
  unfold Yt;rw[if_pos (c:=m.length=32∧WH (0,[])∧1≠18446744073709551615) ⟨h,.inl rfl,by decide⟩]
  rfl
 have k:QC m t=4:=by unfold QC;rw[if_pos h,if_neg (by omega)]
 unfold QX;rw[if_pos e,QS];unfold Yw;simp only[k]
 rfl
theorem V6 (vm vr vl:Value) (m r:LI) (p v:Nat) (l:List Qi) (w:World) (bm:Bs .u8 w vm m) (m8:U8 m) (br:Bs .u8 w vr r) (nr:NoCap vr) (r8:U8 r) (hc:Chs w vl l) (hg:CL l) (hl:l.length<=100) (hv:v<18446744073709551616) (hT:Tab w) (c:Int) (hE:QX m (p,r) v l=c) (h0:c≠0) :
 Calls prog 10 #[vm,.agg #[.int .u64 p,vr],.int .u64 v,vl] w λe w'=>∃a k b k2,e=.returned (.tuple #[.slice a 0 k,.agg #[.int .u64 0,.slice b 0 k2],.int .i64 c])∧N0 w w':=by
 refine (Xu vm vr vl m r p v l w bm m8 br nr r8 hc hg hl hv hT).mono ?_;rintro e w' ⟨u,ru,rfl,bu⟩
 have h1:YY m (p,r) v l=(0,[]):=by unfold YY;rw[hE,if_neg h0]
 have h2:Q0 m (p,r) v l=[]:=by unfold Q0;rw[hE,if_neg h0]
 have h3:=bu.t;have h4:=bu.r;rw[h2] at h3;rw[h1] at h4 ⊢;obtain⟨a,k,rfl⟩:=QB h3;obtain⟨b,k2,rfl⟩:=h4.len;exact⟨a,k,b,k2,by rw[hE];rfl,bu.o⟩
theorem Ic (s n:Int) (w:World) (hT:Tab w) :
 Calls prog 5 #[.int .i64 s,.int .i64 n] w λe w'=>e=.returned (.bool true)∧N0 w w':=by
 have A:=Qa (T3 w hT);have KA:=Qa (λW=>ZS s W)
 have h1:U8 []:=λy hy=>by cases hy
 have k8:=Jk s;have h0:=XV s;obtain⟨K,hK⟩:=EX (Wh s);rw[<-hK] at k8 h0;simp only[<-hK] at KA;obtain⟨q,hq⟩:∃q:Nat,(q:Int)=n % 64:=⟨(n % 64).toNat,by omega⟩
 have hand:bits .and .i64 n 63=(q:Int):=by rw[hq];exact Ve n 6 (by decide)
 have q63:(q:Int)<=63:=by omega
 obtain⟨L,hL⟩:=EX (List.replicate (65+q) (0:Int))
 have L8:U8 L:=λy hy=>by rw[hL] at hy;have:=List.eq_of_mem_replicate hy;omega
 have h9:L.length=65+q:=by rw[hL];simp
 have he:CL [(L,[])]:=λc hc=>by
  rw[List.mem_singleton.1 hc];exact⟨⟨L8,⟨λx hx=>(by cases hx),λx hx=>(by cases hx)⟩⟩,by rw[h9];unfold maxLen;omega,Nat.zero_le _⟩
 have h2:=Qa (λW (o:N0 w W)=>hT.past o);have B1:=Qa (λ(W:World) (vk vl:Value) (o:N0 w W) (b:Bs .u8 W vk K) (hc:Chs W vl [(L,[])])=>V6 vk NIL vl K [] 0 1 [(L,[])] W b k8 (Bs.nil _ _) NoCap.nil h1 hc he (by simp) (by decide) (h2.o W o) 4 (Ik h0 (by omega)) (by decide));have B2:=Qa (λ(W:World) (vk:Value) (o:N0 w W) (b:Bs .u8 W vk K)=>V6 vk NIL NIL K [] 0 18446744073709551615 [] W b k8 (Bs.nil _ _) NoCap.nil h1 ⟨_,0,rfl,Nat.le_refl _,λh=>absurd rfl h⟩ (λc h=>by cases h) (by simp) (by decide) (h2.o W o) 1 (ZI (λh=>h.2.2 rfl)) (by decide));have B3:=Qa (λ(W:World) (vk:Value) (o:N0 w W) (b:Bs .u8 W vk (K.take 31))=>V6 vk NIL NIL (K.take 31) [] 0 1 [] W b (λy hy=>k8 y (List.mem_of_mem_take hy)) (Bs.nil _ _) NoCap.nil h1 ⟨_,0,rfl,Nat.le_refl _,λh=>absurd rfl h⟩ (λc h=>by cases h) (by simp) (by decide) (h2.o W o) 1 (ZI (λh=>by have:=h.1;rw[Qd,h0] at this;omega)) (by decide));have B4:=Qa (λ(W:World) (vk vr:Value) (o:N0 w W) (b:Bs .u8 W vk K) (br:Bs .u8 W vr (K.take 7)) (nr:NoCap vr)=>V6 vk vr NIL K (K.take 7) 0 1 [] W b k8 br nr (λy hy=>k8 y (List.mem_of_mem_take hy)) ⟨_,0,rfl,Nat.le_refl _,λh=>absurd rfl h⟩ (λc h=>by cases h) (by simp) (by decide) (h2.o W o) 1 (ZI (λh=>by rcases h.2.1 with e | e <;> (simp only[Qd,h0] at e;omega))) (by decide));clear hq;have HK:=Qa h0;have HL:=Qa (And.intro hL h9);clear hK k8 h0 hL L8 h9 he hT h1;go_enter func5,ntmps5;go_wp2_with fail;refine A.o.mono ?_;rintro e w1 ⟨rfl,o1⟩;have O1:=Qa o1;clear A o1;go_wp2_with fail;refine (KA.o w1).mono ?_;rintro e w2 ⟨rfl,hd,o2⟩;have O2:=Qa (O1.o.same o2);have KB:=Qa hd;obtain⟨M,hM⟩:=EX w1.heap.size;rw[<-hM] at KB ⊢;obtain⟨wm,hb,h6,om⟩:=VC w2 (65+q) (by omega);rw[<-HL.o.1] at h6;have cv:=X1 wm _ L (h6.bs (65+q) HL.o.2);rw[show ((65+q:Nat):Int)=65+(q:Int) by omega] at hb;obtain⟨W3,h3⟩:=EX (wm.alloc (.cells #[.string (strOfNums L),.slice none 0 0] 46))
 have o3:N0 w2 W3:=by rw[h3];exact om.alloc _
 have g3:W3.heap[wm.heap.size]? = some (.cells #[.string (strOfNums L),.slice none 0 0] 46 (0,0)):=by rw[h3];exact heap_alloc_new _ _
 have O3:=Qa (O2.o.same o3);have h4:=Qa (KB.o.past o3)
 have b1:=Qa (B1.o W3 _ (.slice (some ⟨wm.heap.size,0,none⟩) 1 1) O3.o (h4.o.bs 32 HK.o) ⟨_,1,rfl,Nat.le_refl _,λ_=>⟨wm.heap.size,0,rfl,λj hj=>by
  obtain rfl:j=0:=by simpa using hj
  exact⟨.slice none 0 0,(Qz g3).1,(Qz g3).2.1,Sps.nil _⟩⟩⟩)
 have ha:=Qa h3;clear hd o2 O1 O2 KB hM h6 om o3 g3 B1 h3;go_wp2_with fail;rw[<-ha.o];refine b1.o.mono ?_;rintro e w4 ⟨a4,k4,c4,d4,rfl,o4⟩;have o5:=o4.alloc (.cells #[.int .u64 0,.slice c4 0 d4] 31);have O5:=Qa (O3.o.same o5);have h8:=Qa (h4.o.past o5);have b2:=Qa (B2.o _ _ O5.o (h8.o.bs 32 HK.o));clear o4 o5 O3 h4 b1 B2 ha hb cv;go_wp2_with fail;refine b2.o.mono ?_;rintro e w6 ⟨a6,k6,c6,d6,rfl,o6⟩;have o7:=o6.alloc (.cells #[.int .u64 0,.slice c6 0 d6] 31);have O7:=Qa (O5.o.same o7);have h5:=Qa (h8.o.past o7);have b3:=Qa (B3.o _ _ O7.o (h5.o.bsT 31 32 HK.o (by decide)));clear o6 o7 O5 h8 b2 B3;go_wp2_with fail;refine b3.o.mono ?_;rintro e w8 ⟨a8,k8,c8,d8,rfl,o8⟩;have o9:=o8.alloc (.cells #[.int .u64 0,.slice c8 0 d8] 31);have O9:=Qa (O7.o.same o9);have h7:=Qa (h5.o.past o9);have b4:=Qa (B4.o _ _ _ O9.o (h7.o.bs 32 HK.o) (h7.o.bsT 7 32 HK.o (by decide)) (NoCap.some _ _ _));clear o8 o9 O7 h5 b3 B4;go_wp2_with fail;refine b4.o.mono ?_;rintro e w10 ⟨a10,k10,c10,d10,rfl,hf⟩;have F:=Qa ((O9.o.same hf).alloc (.cells #[.int .u64 0,.slice c10 0 d10] 31));clear hf O9 h7 b4;go_wp2;go_ret;exact⟨rfl,F.o⟩
theorem SF (s n:Int) (w:World) (hT:Tab w):Calls prog 5 #[.int .i64 s,.int .i64 n] w λe w'=>e=.returned (.bool true)∧Below w.heap.size w w':=TQ (Ic s n w hT)
end Go.Proofs.YtiochaeeoelmjaaGreatDoor
