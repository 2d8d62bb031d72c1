import Derived.Test.YtnhapmboienipaaGreatDoorY31
import Derived.Test.YtnhapmboienipaaGreatDoorY32
import Derived.Test.YtnhapmboienipaaGreatDoorY30
import Derived.Maps.OwnSet
import Derived.Maps.OwnOps
namespace Go.Proofs.YtnhapmboienipaaGreatDoor
set_option maxHeartbeats 1600000
set_option maxRecDepth 100000
open Go.RowKit _root_.Go.Proofs.Tryz
theorem Qda (t:Int) (w:World) (h0:0≤t) (h1:t≤4):Calls prog 190 #[.int .i64 t] w fun e w'=>e=.returned (.bool true)∧w=w':=by
 have d0:decide (0≤t)=true:=Yaj h0;have d1:decide (t<5)=true:=Yaj (by omega);clear h0 h1;go_enter func190,ntmps190;go_wp2;go_ret;exact ⟨rfl,rfl⟩
theorem QoV (t:Int) (w:World) (h:t<0∨4<t):Calls prog 190 #[.int .i64 t] w fun e w'=>e=.returned (.bool false)∧w=w':=by
 by_cases h0:t<0
 ·have d0:decide (0≤t)=false:=Yak (by omega)
  clear h0 h;go_enter func190,ntmps190;go_wp2;go_ret;exact ⟨rfl,rfl⟩
 ·have d0:decide (0≤t)=true:=Yaj (by omega)
  have d1:decide (t<5)=false:=Yak (by omega);clear h0 h;go_enter func190,ntmps190;go_wp2;go_ret;exact ⟨rfl,rfl⟩
theorem Ql4 (w:World):Calls prog 193 #[.int .i64 1] w fun e w'=>e=.returned (.int .i64 1)∧w=w':=by
 go_enter func193,ntmps193;go_wp2;go_ret;exact ⟨rfl,rfl⟩
theorem Ql5 (w:World):Calls prog 193 #[.int .i64 2] w fun e w'=>e=.returned (.int .i64 1)∧w=w':=by
 go_enter func193,ntmps193;go_wp2;go_ret;exact ⟨rfl,rfl⟩
theorem Qh1 (w:World):Calls prog 193 #[.int .i64 3] w fun e w'=>e=.returned (.int .i64 2)∧w=w':=by
 go_enter func193,ntmps193;go_wp2;go_ret;exact ⟨rfl,rfl⟩
theorem Qki (w:World):Calls prog 193 #[.int .i64 4] w fun e w'=>e=.returned (.int .i64 2)∧w=w':=by
 go_enter func193,ntmps193;go_wp2;go_ret;exact ⟨rfl,rfl⟩
theorem Ql6 (t:Nat) (w:World) (h0:1≤t) (h1:t≤4):Calls prog 193 #[.int .i64 t] w fun e w'=>e=.returned (.int .i64 (tms t))∧w=w':=by
 rcases t with _ | _ | _ | _ | _ | t
 ·omega
 ·exact Ql4 w
 ·exact Ql5 w
 ·exact Qh1 w
 ·exact Qki w
 ·omega
theorem QrW (l:List Int) (k:Nat) (h:k<l.length):fx (l.take (k+1))=fx (l.take k)++fixL (u64o (l.getD k 0)) 8:=by
 rw [Qa4 l k h,QrS]
theorem Ql7 (v:Value) (l:List Int) (w:World) (h:Bs .i64 w v l) (hl:l.length≤65536) :
  Calls prog 191 #[v] w fun e w'=>∃u,e=.returned u∧w'.ownsRow w.heap.size 5 1 u (fx l).length ((fx l).map (Value.int .u8))∧Only (fun _=>False) w w':=by
 obtain ⟨i0,hi,hz0,hz1,hz2⟩:=info_parts Tryz.infoU8;have HB:=Qaa h;obtain ⟨ao,cap,rfl⟩:=h.len;obtain ⟨n,hn⟩:∃n,n=l.length:=⟨_,rfl⟩;rw [←hn] at hl HB;rw [←hn];have HN:=Qaa hn;clear h hn;go_enter func191,ntmps191;go_wp2
 go_loopw [3,8] (fun s i wr=>∃k:Nat,k≤n∧i=.int .i64 k∧wr.ownsRow w.heap.size 5 1 s (fx (l.take k)).length ((fx (l.take k)).map (Value.int .u8))∧Only (fun _=>False) w wr) (fun _ i _=>n - (intOf i).toNat)
 case atStart=>exact ⟨0,Nat.zero_le _,rfl,World.ownsRow_nil _ _ _ _,Only.refl _ _⟩
 case round =>
  obtain ⟨k,hk,rfl,hown,hon⟩:=hrel;have HOWN:=Qaa hown;have HON:=Qaa hon
  by_cases hlt:k<n
  ·have dlt:decide ((k:Int)<(n:Int))=true:=by simp;omega
   obtain ⟨b,off,cap',e1,hc0⟩:=(HB.out.past hon).at k (by rw [←HN.out];exact hlt)
   have ea:ao=some ⟨b,off,none⟩:=by simp at e1;exact e1.1
   subst ea;clear e1;have HST:=Qaa (QrW l k (by rw [←HN.out];exact hlt))
   have HFL:Hid ((fx (l.take k)).length≤8*n):=by
    simp only [Hid];rw [Qek,Yag];omega
   obtain ⟨f1,hf1⟩:∃f1,f1=fx (l.take (k+1)):=⟨_,rfl⟩;rw [←hf1] at HST;have HF1:=Qaa hf1;clear hf1;generalize fx (l.take k)=f0 at *;generalize l.getD k 0=x at *;clear hown hon HB;go_wp2_with fail;refine (Qbx _ 8 wr (by omega)).mono ?_;rintro e w4 ⟨u,rfl,own4,o4⟩;rw [IntKind.wrap_u64] at own4;have ow:=o4.own HOWN.out (fun _ _ f=>f);have hb4:=Bs.of_own own4;have NC4:=Qaa (NoCap.of_own own4);have HB4:=Qaa hb4;have hs4:w.heap.size≤w4.heap.size:=Nat.le_trans HON.out.size o4.size;have O4:=Qaa (HON.out.trans o4 (fun _ _ f=>f));obtain ⟨a4,c4,e4⟩:=hb4.len;subst e4;clear o4 own4 HON HOWN hb4;rw [Qag] at HB4 NC4;go_wp2_with (at_builtin;refine Qab _ rfl _ _ _ rfl w.heap.size 5 i0 (.int .u8 0) 1 underlying22 hi hz0 hz1 hz2 rfl _ _ _ rfl ow .u8 _ (fixL (x % 18446744073709551616) 8) rfl HB4.out NC4.out ?c3 ?c4 hs4 ?_)
   case c3=>have:=HFL.out;rw [Qag];unfold maxLen;omega
   case c4=>have:=HFL.out;rw [Qag];omega
   intro v6 w6 own6 hgrow6 _ _
   have OWN6:Hid (w6.ownsRow w.heap.size 5 1 v6 f1.length (f1.map (Value.int .u8))):=by
    simp only [Hid];rw [HST.out,Yae,List.map_append];exact own6
   have O6:=Qaa (O4.out.grown hgrow6 (fun k hk e=>absurd (ow.lt k e).1 (by omega)));clear ow own6 hgrow6;go_wp2
   go_roundw
   case rel=>exact ⟨k+1,by omega,by go_num,by rw [←HF1.out];exact OWN6.out,O6.out⟩
   case measure=>simp [intOf];omega
  ·obtain rfl:k=n:=by omega
   have dlt:decide ((k:Int)<(k:Int))=false:=by simp
   rw [HN.out,List.take_length] at HOWN;clear hown hon;go_wp2;go_ret;exact ⟨_,rfl,HOWN.out,HON.out⟩
def zpart (l:List Int) (n k:Nat):List Int:=zsn (l.take k)++List.replicate (n - k) 0
theorem Ql8 (l:List Int) (k:Nat) (hk:k≤l.length):(zpart l l.length k).length=l.length:=by
 simp only [zpart,Yae,Qcy,Yag,List.length_replicate];omega
theorem Qkj (l:List Int) (n:Nat):(zpart l n 0).map (Value.int .u64)=(madeCells #[Value.int .u64 0] (n*1)).toList:=by
 apply List.ext_getElem?
 intro i
 by_cases h:i<n
 ·simp [zpart,zsn,madeCells,h,Nat.mod_one]
 ·simp [zpart,zsn,madeCells,h]
theorem Ql9 (l:List Int):zpart l l.length l.length=zsn l:=by simp [zpart]
theorem Qkk (l:List Int) (k:Nat) (h:k<l.length):(zpart l l.length k).set k (zig (l.getD k 0))=zpart l l.length (k+1):=by
 unfold zpart
 have hlen:(zsn (l.take k)).length=k:=by rw [Qcy,Yag];omega
 rw [show l.length - k=(l.length - (k+1))+1 by omega,List.replicate_succ,List.set_append_right _ _ (by omega),hlen,Nat.sub_self,Yab,Qa4 l k h];simp [zsn]
theorem Qjd (v:Value) (l:List Int) (w:World) (h:Bs .i64 w v l) (hg:I64s l) (hl:l.length≤65536) :
  Calls prog 195 #[v] w fun e w'=>∃u,e=.returned u∧w'.ownsRow w.heap.size 23 1 u (zsn l).length ((zsn l).map (Value.int .u64))∧Only (fun _=>False) w w':=by
 obtain ⟨i0,hi,hz0,hz1,hz2⟩:=info_parts Tryz.infoU64;have HB:=Qaa h;have HG:=Qaa hg;obtain ⟨ao,cap,rfl⟩:=h.len;obtain ⟨n,hn⟩:∃n,n=l.length:=⟨_,rfl⟩;rw [←hn] at hl HB;rw [←hn];have HN:=Qaa hn;obtain ⟨wm,hmk,hown0,hgr⟩:=run_make_full (P:=prog) w w.heap.size 176 23 i0 (.int .u64 0) 1 underlying176 hi hz0 hz1 .i64 .i64 n (by rw [hz2];omega) (by unfold maxLen;omega) (Nat.le_refl _)
 have START:Hid (wm.ownsRow w.heap.size 23 1 (.slice (some ⟨w.heap.size,0,none⟩) n n) n ((zpart l n 0).map (Value.int .u64))∧Only (fun _=>False) w wm):=by
  rw [show (Value.int .u64 0).cells=#[Value.int .u64 0] from rfl] at hown0;rw [Qkj];exact ⟨hown0,(Only.refl _ _).grown hgr (fun _ _ e=>by cases e)⟩
 clear hown0 hgr;obtain ⟨N,hN⟩:∃N,N=w.heap.size:=⟨_,rfl⟩;rw [←hN] at hmk START;rw [←hN];have HNN:=Qaa hN;clear h hn hN hg;go_enter func195,ntmps195;go_wp2
 go_loopw [11] (fun i wr=>∃k:Nat,k≤n∧i=.int .i64 k∧wr.ownsRow N 23 1 (.slice (some ⟨N,0,none⟩) n n) n ((zpart l n k).map (Value.int .u64))∧Only (fun _=>False) w wr) (fun i _=>n - (intOf i).toNat)
 case atStart=>exact ⟨0,Nat.zero_le _,rfl,START.out.1,START.out.2⟩
 case round =>
  obtain ⟨k,hk,rfl,hown,hon⟩:=hrel;clear START hmk;have HOWN:=Qaa hown;have HON:=Qaa hon
  by_cases hlt:k<n
  ·have dlt:decide ((k:Int)<(n:Int))=true:=by simp;omega
   have hkl:k<l.length:=by rw [←HN.out];exact hlt
   obtain ⟨b,off,cap',e1,hc0⟩:=(HB.out.past hon).at k hkl
   have ea:ao=some ⟨b,off,none⟩:=by simp at e1;exact e1.1
   subst ea;clear e1;have hx:=HG.out (l.getD k 0) (Qcq l k hkl)
   have hcell:∃y,wr.cell? ⟨N,k,none⟩=some (.int .u64 y):=by
    have hz:=Ql8 l k (by omega);rw [←HN.out] at hz;refine ⟨(zpart l n k).getD k 0,?_⟩;rw [hown.cellAt k (by omega),List.getElem?_map,Yaf (by rw [hz];omega),Yad,Yaf (by rw [hz];omega)]
    rfl
   obtain ⟨y,hy⟩:=hcell;have hfr:wr.frozen? ⟨N,k,none⟩=false:=hown.frozenAt _
   have hstep:Hid (((zpart l n k).map (Value.int .u64)).set k (.int .u64 (zig (l.getD k 0)))=(zpart l n (k+1)).map (Value.int .u64)):=by
    simp only [Hid];rw [←List.map_set,HN.out,Qkk l k hkl]
   generalize l.getD k 0=x at *;clear hown hon HB HG hkl;go_wp2_with fail;refine (QiD x wr hx.1 hx.2).mono ?_;rintro e w1 ⟨rfl,rfl⟩;go_wp2
   go_roundw
   case rel =>
    refine ⟨k+1,by omega,by go_num,?_,?_⟩
    ·have h1:=(HOWN.out.stored k (.int .u64 (zig x))).1
     rw [hstep.out] at h1;exact h1
    ·refine HON.out.setCell (fun hb=>?_) _
     have:=HNN.out;simp only at hb;omega
   case measure=>simp [intOf];omega
  ·obtain rfl:k=n:=by omega
   have dlt:decide ((k:Int)<(k:Int))=false:=by simp
   have F:Hid (wr.ownsRow N 23 1 (.slice (some ⟨N,0,none⟩) k k) (zsn l).length ((zsn l).map (Value.int .u64))):=by
    have h1:=HOWN.out;have hk':=HN.out;simp only [Hid];rw [Qcy,←hk'];rw [show zpart l k k=zsn l by rw [hk'];exact Ql9 l] at h1;exact h1
   clear hown hon;go_wp2;go_ret;exact ⟨_,rfl,F.out,HON.out⟩
theorem Qh2 (v:Value) (l:List Int) (w:World) (h:Bs .u64 w v l) (hu:U64 l) (hl:l.length≤65536) :
  Calls prog 226 #[v] w fun e w'=>∃u,e=.returned u∧w'.ownsRow w.heap.size 5 1 u (allG l).length ((allG l).map (Value.int .u8))∧Only (fun _=>False) w w':=by
 obtain ⟨i0,hi,hz0,hz1,hz2⟩:=info_parts Tryz.infoU8;have HB:=Qaa h;have HU:=Qaa hu;obtain ⟨ao,cap,rfl⟩:=h.len;obtain ⟨n,hn⟩:∃n,n=l.length:=⟨_,rfl⟩;rw [←hn] at hl HB;rw [←hn];have HN:=Qaa hn;clear h hn hu;go_enter func226,ntmps226;go_wp2
 go_loopw [3,8] (fun s i wr=>∃k:Nat,k≤n∧i=.int .i64 k∧wr.ownsRow w.heap.size 5 1 s (allG (l.take k)).length ((allG (l.take k)).map (Value.int .u8))∧Only (fun _=>False) w wr) (fun _ i _=>n - (intOf i).toNat)
 case atStart=>exact ⟨0,Nat.zero_le _,rfl,World.ownsRow_nil _ _ _ _,Only.refl _ _⟩
 case round =>
  obtain ⟨k,hk,rfl,hown,hon⟩:=hrel;have HOWN:=Qaa hown;have HON:=Qaa hon
  by_cases hlt:k<n
  ·have dlt:decide ((k:Int)<(n:Int))=true:=by simp;omega
   have hkl:k<l.length:=by rw [←HN.out];exact hlt
   obtain ⟨b,off,cap',e1,hc0⟩:=(HB.out.past hon).at k hkl
   have ea:ao=some ⟨b,off,none⟩:=by simp at e1;exact e1.1
   subst ea;clear e1;have hx:=HU.out (l.getD k 0) (Qcq l k hkl);have HST:=Qaa (QnP l k hkl)
   have HFL:Hid ((allG (l.take k)).length≤10*n):=by
    simp only [Hid];rw [HN.out];exact Qtf l k HU.out
   have HG10:=Qaa (QaC (v:=(l.getD k 0).toNat) (by omega));obtain ⟨f1,hf1⟩:∃f1,f1=allG (l.take (k+1)):=⟨_,rfl⟩;rw [←hf1] at HST;have HF1:=Qaa hf1;clear hf1;generalize allG (l.take k)=f0 at *;generalize l.getD k 0=x at *;clear hown hon HB hkl;go_wp2_with fail;refine (Qaz (.slice none 0 0) [] x wr (Bs.nil _ _) NoCap.nil (by simp) hx.1 hx.2).mono ?_;rintro e w4 ⟨u,rfl,own4,o4⟩;rw [List.nil_append] at own4;have ow:=o4.own HOWN.out (fun _ _ f=>f);have hb4:=Bs.of_own own4;have NC4:=Qaa (NoCap.of_own own4);have HB4:=Qaa hb4;have hs4:w.heap.size≤w4.heap.size:=Nat.le_trans HON.out.size o4.size;have O4:=Qaa (HON.out.trans o4 (fun _ _ f=>f));obtain ⟨a4,c4,e4⟩:=hb4.len;subst e4;clear o4 own4 HON HOWN hb4;generalize gs x.toNat=g at *;go_wp2_with (at_builtin;refine Qab _ rfl _ _ _ rfl w.heap.size 5 i0 (.int .u8 0) 1 underlying22 hi hz0 hz1 hz2 rfl _ _ _ rfl ow .u8 _ g rfl HB4.out NC4.out ?c3 ?c4 hs4 ?_)
   case c3=>have:=HFL.out;have:=HG10.out;unfold maxLen;omega
   case c4=>have:=HFL.out;have:=HG10.out;omega
   intro v6 w6 own6 hgrow6 _ _
   have OWN6:Hid (w6.ownsRow w.heap.size 5 1 v6 f1.length (f1.map (Value.int .u8))):=by
    simp only [Hid];rw [HST.out,Yae,List.map_append];exact own6
   have O6:=Qaa (O4.out.grown hgrow6 (fun k hk e=>absurd (ow.lt k e).1 (by omega)));clear ow own6 hgrow6;go_wp2
   go_roundw
   case rel=>exact ⟨k+1,by omega,by go_num,by rw [←HF1.out];exact OWN6.out,O6.out⟩
   case measure=>simp [intOf];omega
  ·obtain rfl:k=n:=by omega
   have dlt:decide ((k:Int)<(k:Int))=false:=by simp
   rw [HN.out,List.take_length] at HOWN;clear hown hon;go_wp2;go_ret;exact ⟨_,rfl,HOWN.out,HON.out⟩
theorem Qje (l:List Int) (k:Nat):zsn (l.drop k)=(zsn l).drop k:=by simp [zsn,List.map_drop]
theorem Qma {l:List Int} (h:0<l.length):(zsn l).getD 0 0=zig (l.getD 0 0):=by
 cases l with
 | nil=>simp at h
 | cons a t=>rfl
theorem QoW {z:List Int} (hu:U64 z) (hl:z.length≤65536) (t:Nat):(WOTH z t).1.length≤10000000:=by
 unfold WOTH
 by_cases h2:t=2
 ·rw [if_pos h2]
  have h1:=QlK z;have h3:z.length*wd z≤65536*64:=Nat.mul_le_mul hl (wd_le hu);have h4:=QaC (v:=(lo z).toNat) (by have:=lohi hu;omega);simp only;omega
 ·rw [if_neg h2]
  by_cases h3:t=3
  ·rw [if_pos h3]
   have:=Qtc (xs:=z) (fun x hx=>(hu x hx).1);omega
  ·rw [if_neg h3]
   by_cases h4:t=4
   ·rw [if_pos h4]
    have:=QjC z hu (by omega);simp only;omega
   ·rw [if_neg h4]
    have:=QjR z hu;simp only;omega
theorem QoX (v:Value) (z:List Int) (w:World) (h:Bs .u64 w v z) (hu:U64 z) (hl:z.length≤65536) :
  Calls prog 194 #[v,.int .i64 2] w fun e w'=>∃u,e=.returned (.tuple #[u,.int .i64 (WOTH z 2).2])∧w'.ownsRow w.heap.size 5 1 u (WOTH z 2).1.length ((WOTH z 2).1.map (Value.int .u8))∧Only (fun _=>False) w w':=by
 have A:=Qaa (Qsp v z w h hu hl);obtain ⟨ao,cap,rfl⟩:=h.len;clear h hu hl;go_enter func194,ntmps194;go_wp2_with fail;refine A.out.mono ?_;rintro e w1 ⟨u,rfl,own1,o1⟩;have F:=Qaa (And.intro own1 o1);obtain ⟨f1,c1,e1⟩:=(Bs.of_own own1).len;subst e1;clear A own1 o1;go_wp2
 try rw [Exit.noGoto_ret]
 go_ret2;exact ⟨_,rfl,F.out.1,F.out.2⟩
theorem Qkl (v:Value) (z:List Int) (w:World) (h:Bs .u64 w v z) (hu:U64 z) (_hl:z.length≤65536) :
  Calls prog 194 #[v,.int .i64 3] w fun e w'=>∃u,e=.returned (.tuple #[u,.int .i64 (WOTH z 3).2])∧w'.ownsRow w.heap.size 5 1 u (WOTH z 3).1.length ((WOTH z 3).1.map (Value.int .u8))∧Only (fun _=>False) w w':=by
 have A:=Qaa (QkS v z w h hu);obtain ⟨ao,cap,rfl⟩:=h.len;clear h hu _hl;go_enter func194,ntmps194;go_wp2_with fail;refine A.out.mono ?_;rintro e w1 ⟨u,rfl,own1,o1⟩;have F:=Qaa (And.intro own1 o1);obtain ⟨f1,c1,e1⟩:=(Bs.of_own own1).len;subst e1;clear A own1 o1;go_wp2
 try rw [Exit.noGoto_ret]
 go_ret2;exact ⟨_,rfl,F.out.1,F.out.2⟩
theorem Qmb (v:Value) (z:List Int) (w:World) (h:Bs .u64 w v z) (hu:U64 z) (hl:z.length≤65536) :
  Calls prog 194 #[v,.int .i64 4] w fun e w'=>∃u,e=.returned (.tuple #[u,.int .i64 (WOTH z 4).2])∧w'.ownsRow w.heap.size 5 1 u (WOTH z 4).1.length ((WOTH z 4).1.map (Value.int .u8))∧Only (fun _=>False) w w':=by
 have A:=Qaa (Qf2 v z w h hu hl);obtain ⟨ao,cap,rfl⟩:=h.len;clear h hu hl;go_enter func194,ntmps194;go_wp2_with fail;refine A.out.mono ?_;rintro e w1 ⟨u,rfl,own1,o1⟩;have F:=Qaa (And.intro own1 o1);obtain ⟨f1,c1,e1⟩:=(Bs.of_own own1).len;subst e1;clear A own1 o1;go_wp2
 try rw [Exit.noGoto_ret]
 go_ret2;exact ⟨_,rfl,F.out.1,F.out.2⟩
theorem QoY (v:Value) (z:List Int) (w:World) (h:Bs .u64 w v z) (hu:U64 z) (hl:z.length≤65536) :
  Calls prog 194 #[v,.int .i64 1] w fun e w'=>∃u,e=.returned (.tuple #[u,.int .i64 0])∧w'.ownsRow w.heap.size 5 1 u (allG z).length ((allG z).map (Value.int .u8))∧Only (fun _=>False) w w':=by
 have A:=Qaa (Qh2 v z w h hu hl);obtain ⟨ao,cap,rfl⟩:=h.len;clear h hu hl;go_enter func194,ntmps194;go_wp2_with fail;refine A.out.mono ?_;rintro e w1 ⟨u,rfl,own1,o1⟩;have F:=Qaa (And.intro own1 o1);obtain ⟨f1,c1,e1⟩:=(Bs.of_own own1).len;subst e1;clear A own1 o1;go_wp2
 try rw [Exit.noGoto_ret]
 go_ret2;exact ⟨_,rfl,F.out.1,F.out.2⟩
theorem QoZ (v:Value) (z:List Int) (t:Nat) (w:World) (h:Bs .u64 w v z) (hu:U64 z) (hl:z.length≤65536) (h1:1≤t) (h4:t≤4) :
  Calls prog 194 #[v,.int .i64 t] w fun e w'=>∃u,e=.returned (.tuple #[u,.int .i64 (WOTH z t).2])∧w'.ownsRow w.heap.size 5 1 u (WOTH z t).1.length ((WOTH z t).1.map (Value.int .u8))∧Only (fun _=>False) w w':=by
 rcases t with _ | _ | _ | _ | _ | t
 ·omega
 ·exact QoY v z w h hu hl
 ·exact QoX v z w h hu hl
 ·exact Qkl v z w h hu hl
 ·exact Qmb v z w h hu hl
 ·omega
theorem QrX (v:Value) (tag:Int) (w:World) (ht:tag<0∨4<tag) :
  Calls prog 167 #[v,.int .i64 tag] w fun e w'=>e=.returned (.tuple #[.slice none 0 0,.int .i64 1])∧w=w':=by
 have A:=Qaa (QoV tag w ht);clear ht;go_enter func167,ntmps167;go_wp2_with fail;refine A.out.mono ?_;rintro e w1 ⟨rfl,rfl⟩;go_wp2
 try rw [Exit.noGoto_ret]
 go_ret2;exact ⟨rfl,rfl⟩
theorem Qjf (v:Value) (l:List Int) (t:Nat) (w:World) (h:Bs .i64 w v l) (hl:65536<l.length) (ht:t≤4) :
  Calls prog 167 #[v,.int .i64 t] w fun e w'=>e=.returned (.tuple #[.slice none 0 0,.int .i64 4])∧w=w':=by
 have A:=Qaa (Qda t w (by omega) (by omega));obtain ⟨ao,cap,rfl⟩:=h.len;have d0:decide ((65536:Int)<l.length)=true:=Yaj (by omega);clear h hl ht;generalize l.length=n at *;go_enter func167,ntmps167;go_wp2_with fail;refine A.out.mono ?_;rintro e w1 ⟨rfl,rfl⟩;go_wp2
 try rw [Exit.noGoto_ret]
 go_ret2;exact ⟨rfl,rfl⟩
theorem QrY (v:Value) (t:Nat) (w:World) (h:Bs .i64 w v []) (ht:t≤4) :
  Calls prog 167 #[v,.int .i64 t] w fun e w'=>e=.returned (.tuple #[.slice none 0 0,.int .i64 0])∧w=w':=by
 have A:=Qaa (Qda t w (by omega) (by omega));obtain ⟨ao,cap,e0⟩:=h.len;rw [List.length_nil] at e0;subst e0;clear h ht;go_enter func167,ntmps167;go_wp2_with fail;refine A.out.mono ?_;rintro e w1 ⟨rfl,rfl⟩;go_wp2
 try rw [Exit.noGoto_ret]
 go_ret2;exact ⟨rfl,rfl⟩
theorem Qo0 (v:Value) (l:List Int) (w:World) (h:Bs .i64 w v l) (hl:l.length≤65536) (hp:0<l.length) :
  Calls prog 167 #[v,.int .i64 0] w fun e w'=>∃u,e=.returned (.tuple #[u,.int .i64 0])∧w'.ownsRow w.heap.size 5 1 u (fx l).length ((fx l).map (Value.int .u8))∧Only (fun _=>False) w w':=by
 have A:=Qaa (Qda 0 w (by omega) (by omega));have B:=Qaa (Ql7 v l w h hl);obtain ⟨ao,cap,rfl⟩:=h.len;have d0:decide ((65536:Int)<l.length)=false:=Yak (by omega)
 have d1:((l.length:Int) == 0)=false:=by rw [beq_eq_false_iff_ne];omega
 clear h hl hp;generalize l.length=n at *;go_enter func167,ntmps167;go_wp2_with fail;refine A.out.mono ?_;rintro e w1 ⟨rfl,rfl⟩;go_wp2_with fail;refine B.out.mono ?_;rintro e w1 ⟨u,rfl,own1,o1⟩;have F:=Qaa (And.intro own1 o1);obtain ⟨f1,c1,e1⟩:=(Bs.of_own own1).len;subst e1;clear A B own1 o1;go_wp2
 try rw [Exit.noGoto_ret]
 go_ret2;exact ⟨_,rfl,F.out.1,F.out.2⟩
theorem Qmc (v:Value) (l:List Int) (t:Nat) (w:World) (h:Bs .i64 w v l) (hg:I64s l) (hl:l.length≤65536) (hp:0<l.length) (h1:1≤t) (h4:t≤4) :
  Calls prog 167 #[v,.int .i64 t] w fun e w'=>∃u,e=.returned (.tuple #[u,.int .i64 (WAY l t).2])∧w'.ownsRow w.heap.size 5 1 u (WAY l t).1.length ((WAY l t).1.map (Value.int .u8))∧Only (fun _=>False) w w':=by
 have A:=Qaa (Qda t w (by omega) (by omega));have TM:=Qaa (Ql6 t w h1 h4);have DF:=Qaa (Qrl v l (tms t) w h (by omega) (QtZ t));have HDL:=Qaa (Qd0 (tms t) l);have HDG:=Qaa (D_i64 hg (tms t))
 have WO:Hid (∀(u:Value) (w2:World),Bs .u64 w2 u ((zsn (D (tms t) l)).drop 1)→Calls prog 194 #[u,.int .i64 t] w2 fun e w'=>∃u',e=.returned (.tuple #[u',.int .i64 (WOTH ((zsn (D (tms t) l)).drop 1) t).2])∧w'.ownsRow w2.heap.size 5 1 u' (WOTH ((zsn (D (tms t) l)).drop 1) t).1.length ((WOTH ((zsn (D (tms t) l)).drop 1) t).1.map (Value.int .u8))∧Only (fun _=>False) w2 w') :=
  fun u w2 hb=>QoZ u _ t w2 hb ((Ql3 hg _).drop 1) (by rw [Yai,QgL];omega) h1 h4
 have HWL:=Qaa (QoW (z:=(zsn (D (tms t) l)).drop 1) ((Ql3 hg _).drop 1) (by rw [Yai,QgL];omega) t)
 have HWAY:Hid (WAY l t=if (WOTH ((zsn (D (tms t) l)).drop 1) t).2≠0 then ([],(WOTH ((zsn (D (tms t) l)).drop 1) t).2) else (gs (zig ((D (tms t) l).getD 0 0)).toNat++(WOTH ((zsn (D (tms t) l)).drop 1) t).1,0)):=by
  simp only [Hid];unfold WAY;rw [if_neg (List.length_pos_iff.1 hp),if_neg (by omega),Qma (by rw [Qd0];exact hp)]
 obtain ⟨ao,cap,rfl⟩:=h.len;have d0:decide ((65536:Int)<l.length)=false:=Yak (by omega)
 have d1:((l.length:Int) == 0)=false:=by rw [beq_eq_false_iff_ne];omega
 have d2:((t:Int) == 0)=false:=by rw [beq_eq_false_iff_ne];omega
 obtain ⟨n,hn⟩:∃n,n=l.length:=⟨_,rfl⟩;rw [←hn] at hl hp d0 d1 DF HDL;rw [←hn];clear h hg hn;obtain ⟨z1,hz1⟩:∃z1,z1=(zsn (D (tms t) l)).drop 1:=⟨_,rfl⟩;rw [←hz1] at WO HWL HWAY;have HZ1:=Qaa hz1;clear hz1;generalize hWO:WOTH z1 t=W at *;clear hWO;obtain ⟨W1,c⟩:=W;simp only at WO HWL HWAY;generalize WAY l t=Wl at *;generalize hDD:D (tms t) l=d at *;clear hDD;generalize tms t=k at *;go_enter func167,ntmps167;go_wp2_with fail;refine A.out.mono ?_;rintro e w1 ⟨rfl,rfl⟩;clear A;go_wp2_with fail;refine TM.out.mono ?_;rintro e w1 ⟨rfl,rfl⟩;clear TM;go_wp2_with fail;refine DF.out.mono ?_;rintro e w1 ⟨v1,rfl,own1,o1⟩;clear DF;have OWN1:=Qaa own1;have hb1:Bs .i64 w1 v1 d:=Bs.of_own (by rw [HDL.out];exact own1);have HB1:=Qaa hb1;obtain ⟨a1,cap1,e1⟩:=hb1.len;rw [HDL.out] at e1;subst e1
 have hc1:n≤cap1:=by
  obtain ⟨ao',cap',e2,hc,_⟩:=hb1;rw [HDL.out] at hc;simp at e2;omega
 have HO1:=Qaa o1;clear own1 o1 hb1
 have j0:(1:Int)≤(n:Int):=by omega
 have j1:(1:Int)≤(cap1:Int):=by omega
 by_cases hcc:cap1=1
 ·subst hcc
  obtain rfl:n=1:=by omega
  have hb2:Bs .i64 w1 (.slice a1 0 0) (d.drop 1):=by have:=HB1.out.cut0 (n:=1) (by omega);simpa using this
  have ZG:=Qaa (Qjd _ (d.drop 1) w1 hb2 (fun x hx=>HDG.out x (List.mem_of_mem_drop hx)) (by rw [Yai,HDL.out];omega));rw [Qje,←HZ1.out] at ZG;clear hb2;go_wp2_with fail;refine ZG.out.mono ?_;rintro e w2 ⟨v2,rfl,own2,o2⟩;clear ZG;have W2:=Qaa (WO.out v2 w2 (Bs.of_own own2));have O12:=Qaa o2;have OWN2:=Qaa (o2.own OWN1.out (fun _ _ f=>f));obtain ⟨f2,c2,e2⟩:=(Bs.of_own own2).len;subst e2;clear own2 o2;go_wp2_with fail;refine W2.out.mono ?_;rintro e w3 ⟨v3,rfl,own3,o3⟩;clear W2;have O13:=Qaa (O12.out.same o3);have HO3:=Qaa (HO1.out.same O13.out);have OWN3:=Qaa (o3.own OWN2.out (fun _ _ f=>f));have HB3:=Qaa (Bs.of_own own3);have NC3:=Qaa (NoCap.of_own own3);obtain ⟨f3,c3,e3⟩:=(Bs.of_own own3).len;subst e3;clear own3 o3
  by_cases hc:c=0
  ·subst hc
   have hx:=HDG.out (d.getD 0 0) (Qcq d 0 (by rw [HDL.out];omega));have hx2:=QdJ _ hx.1 hx.2;obtain ⟨b,off,cap',e4,cell0⟩:=(HB1.out.past O13.out).at 0 (by rw [HDL.out];omega)
   have ea:a1=some ⟨b,off,none⟩:=by simp at e4;exact e4.1
   subst ea;clear e4;rw [Nat.add_zero] at cell0;rw [if_neg (by simp)] at HWAY;obtain ⟨x,hxd⟩:∃x,x=d.getD 0 0:=⟨_,rfl⟩;rw [←hxd] at cell0 hx hx2 HWAY;have ZA:=Qaa (QiD x w3 hx.1 hx.2);have AA:=Qaa (Qaz (.slice none 0 0) [] (zig x) w3 (Bs.nil _ _) NoCap.nil (by simp) hx2.1 hx2.2);have H10:=Qaa (QaC (v:=(zig x).toNat) (by omega));have HGP:=Qaa (Qfo (zig x).toNat);clear hxd hx hx2;go_wp2_with fail;refine ZA.out.mono ?_;rintro e w3' ⟨rfl,rfl⟩;clear ZA;go_wp2_with fail;refine AA.out.mono ?_;rintro e w4 ⟨v4,rfl,own4,o4⟩;clear AA;rw [List.nil_append] at own4;have hbl:Below w4.heap.size w4 (w4.alloc (.cells #[v4,.slice f3 W1.length c3] 22)):=(Below.refl _ _).alloc (Nat.le_refl _) _;have CC:=Qaa (Qa1 w4.heap.size v4 _ (gs (zig x).toNat) W1 (w4.alloc (.cells #[v4,.slice f3 W1.length c3] 22)) (by go_cell) (by go_cell) ((Bs.of_own own4).later hbl) ((HB3.out.past o4).later hbl) (NoCap.of_own own4) NC3.out (by have:=HGP.out;omega) (by have:=H10.out;have:=HWL.out;omega));have O4:=Qaa ((HO3.out.same o4).alloc (.cells #[v4,.slice f3 W1.length c3] 22));obtain ⟨f4,c4,e4⟩:=(Bs.of_own own4).len;subst e4;clear own4 o4 hbl;generalize gs (zig x).toNat=g at *;go_wp2_with fail;refine CC.out.mono ?_;rintro e w5 ⟨v5,rfl,own5,o5⟩;clear CC;obtain ⟨gw,hgw⟩:∃gw,gw=g++W1:=⟨_,rfl⟩;rw [←hgw] at own5 HWAY;have eW:=HWAY.out;subst eW;have F:=Qaa (And.intro (Qaf own5 O4.out.size) (O4.out.same o5));clear hgw HWAY;obtain ⟨f5,c5,e5⟩:=(Bs.of_own own5).len;subst e5;clear own5 o5;go_wp2
   try rw [Exit.noGoto_ret]
   go_ret2;exact ⟨_,rfl,F.out.1,F.out.2⟩
  ·have dc:(c != 0)=true:=by simp;exact hc
   rw [if_pos hc] at HWAY;have eW:=HWAY.out;subst eW;clear HWAY;go_wp2
   try rw [Exit.noGoto_ret]
   go_ret2;exact ⟨_,rfl,World.ownsRow_nil _ _ _ _,HO3.out⟩
 ·have hcx:¬((cap1:Int) - 1=0):=by omega
  have hb2:Bs .i64 w1 (.slice (a1.map (fun x=>x.add 1)) (n - 1) (cap1 - 1)) (d.drop 1):=by have:=HB1.out.cut (n:=1) (by omega);simpa using this
  have ZG:=Qaa (Qjd _ (d.drop 1) w1 hb2 (fun x hx=>HDG.out x (List.mem_of_mem_drop hx)) (by rw [Yai,HDL.out];omega));rw [Qje,←HZ1.out] at ZG;clear hb2;go_wp2_with fail;refine ZG.out.mono ?_;rintro e w2 ⟨v2,rfl,own2,o2⟩;clear ZG;have W2:=Qaa (WO.out v2 w2 (Bs.of_own own2));have O12:=Qaa o2;have OWN2:=Qaa (o2.own OWN1.out (fun _ _ f=>f));obtain ⟨f2,c2,e2⟩:=(Bs.of_own own2).len;subst e2;clear own2 o2;go_wp2_with fail;refine W2.out.mono ?_;rintro e w3 ⟨v3,rfl,own3,o3⟩;clear W2;have O13:=Qaa (O12.out.same o3);have HO3:=Qaa (HO1.out.same O13.out);have OWN3:=Qaa (o3.own OWN2.out (fun _ _ f=>f));have HB3:=Qaa (Bs.of_own own3);have NC3:=Qaa (NoCap.of_own own3);obtain ⟨f3,c3,e3⟩:=(Bs.of_own own3).len;subst e3;clear own3 o3
  by_cases hc:c=0
  ·subst hc
   have hx:=HDG.out (d.getD 0 0) (Qcq d 0 (by rw [HDL.out];omega));have hx2:=QdJ _ hx.1 hx.2;obtain ⟨b,off,cap',e4,cell0⟩:=(HB1.out.past O13.out).at 0 (by rw [HDL.out];omega)
   have ea:a1=some ⟨b,off,none⟩:=by simp at e4;exact e4.1
   subst ea;clear e4;rw [Nat.add_zero] at cell0;rw [if_neg (by simp)] at HWAY;obtain ⟨x,hxd⟩:∃x,x=d.getD 0 0:=⟨_,rfl⟩;rw [←hxd] at cell0 hx hx2 HWAY;have ZA:=Qaa (QiD x w3 hx.1 hx.2);have AA:=Qaa (Qaz (.slice none 0 0) [] (zig x) w3 (Bs.nil _ _) NoCap.nil (by simp) hx2.1 hx2.2);have H10:=Qaa (QaC (v:=(zig x).toNat) (by omega));have HGP:=Qaa (Qfo (zig x).toNat);clear hxd hx hx2;go_wp2_with fail;refine ZA.out.mono ?_;rintro e w3' ⟨rfl,rfl⟩;clear ZA;go_wp2_with fail;refine AA.out.mono ?_;rintro e w4 ⟨v4,rfl,own4,o4⟩;clear AA;rw [List.nil_append] at own4;have hbl:Below w4.heap.size w4 (w4.alloc (.cells #[v4,.slice f3 W1.length c3] 22)):=(Below.refl _ _).alloc (Nat.le_refl _) _;have CC:=Qaa (Qa1 w4.heap.size v4 _ (gs (zig x).toNat) W1 (w4.alloc (.cells #[v4,.slice f3 W1.length c3] 22)) (by go_cell) (by go_cell) ((Bs.of_own own4).later hbl) ((HB3.out.past o4).later hbl) (NoCap.of_own own4) NC3.out (by have:=HGP.out;omega) (by have:=H10.out;have:=HWL.out;omega));have O4:=Qaa ((HO3.out.same o4).alloc (.cells #[v4,.slice f3 W1.length c3] 22));obtain ⟨f4,c4,e4⟩:=(Bs.of_own own4).len;subst e4;clear own4 o4 hbl;generalize gs (zig x).toNat=g at *;go_wp2_with fail;refine CC.out.mono ?_;rintro e w5 ⟨v5,rfl,own5,o5⟩;clear CC;obtain ⟨gw,hgw⟩:∃gw,gw=g++W1:=⟨_,rfl⟩;rw [←hgw] at own5 HWAY;have eW:=HWAY.out;subst eW;have F:=Qaa (And.intro (Qaf own5 O4.out.size) (O4.out.same o5));clear hgw HWAY;obtain ⟨f5,c5,e5⟩:=(Bs.of_own own5).len;subst e5;clear own5 o5;go_wp2
   try rw [Exit.noGoto_ret]
   go_ret2;exact ⟨_,rfl,F.out.1,F.out.2⟩
  ·have dc:(c != 0)=true:=by simp;exact hc
   rw [if_pos hc] at HWAY;have eW:=HWAY.out;subst eW;clear HWAY;go_wp2
   try rw [Exit.noGoto_ret]
   go_ret2;exact ⟨_,rfl,World.ownsRow_nil _ _ _ _,HO3.out⟩
theorem Qo1 (v:Value) (l:List Int) (tag:Int) (w:World) (h:Bs .i64 w v l) (hg:I64s l) :
  Calls prog 167 #[v,.int .i64 tag] w fun e w'=>∃u,e=.returned (.tuple #[u,.int .i64 (WAY8 l tag).2])∧w'.ownsRow w.heap.size 5 1 u (WAY8 l tag).1.length ((WAY8 l tag).1.map (Value.int .u8))∧Only (fun _=>False) w w':=by
 unfold WAY8
 by_cases ht:tag<0∨4<tag
 ·rw [if_pos ht]
  refine (QrX v tag w ht).mono ?_;rintro e w' ⟨rfl,rfl⟩;exact ⟨_,rfl,World.ownsRow_nil _ _ _ _,Only.refl _ _⟩
 ·rw [if_neg ht]
  obtain ⟨t,rfl⟩:=Int.eq_ofNat_of_zero_le (show 0≤tag by omega)
  by_cases hl:65536<l.length
  ·rw [if_pos hl]
   refine (Qjf v l t w h hl (by omega)).mono ?_;rintro e w' ⟨rfl,rfl⟩;exact ⟨_,rfl,World.ownsRow_nil _ _ _ _,Only.refl _ _⟩
  ·rw [if_neg hl,Int.toNat_natCast]
   by_cases hne:l=[]
   ·subst hne
    rw [QrT];refine (QrY v t w h (by omega)).mono ?_;rintro e w' ⟨rfl,rfl⟩;exact ⟨_,rfl,World.ownsRow_nil _ _ _ _,Only.refl _ _⟩
   ·have hp:0<l.length:=List.length_pos_iff.2 hne
    by_cases h0:t=0
    ·subst h0
     rw [QbH];exact Qo0 v l w h (by omega) hp
    ·exact Qmc v l t w h hg (by omega) hp (by omega) (by omega)
theorem Qjg (v:Value) (l:List Int) (t:Nat) (w:World) (h:Bs .i64 w v l) (hg:I64s l) (hl:l.length≤65536) (ht:t≤4) :
  Calls prog 167 #[v,.int .i64 t] w fun e w'=>∃u,e=.returned (.tuple #[u,.int .i64 (WAY l t).2])∧w'.ownsRow w.heap.size 5 1 u (WAY l t).1.length ((WAY l t).1.map (Value.int .u8))∧Only (fun _=>False) w w':=by
 have:=Qo1 v l t w h hg;rw [QoT hl t ht] at this;exact this
theorem Qo2 (l:List Int) (t:Nat):(pick l t).2.length≤8*l.length:=by
 have h:=(Qci l t).2.2 0 (by omega) (by rw [QbH]);rw [QbH] at h;simp only [Qek] at h;exact h
theorem QgP (v:Value) (l:List Int) (w:World) (h:Bs .i64 w v l) (hl:65536<l.length) :
  Calls prog 134 #[v] w fun e w'=>e=.returned (.tuple #[.slice none 0 0,.int .i64 4])∧w=w':=by
 have A:=Qaa (Qjf v l 0 w h hl (by omega));obtain ⟨ao,cap,rfl⟩:=h.len;clear h hl;go_enter func134,ntmps134;go_wp2_with fail;refine A.out.mono ?_;rintro e w1 ⟨rfl,rfl⟩;go_wp2
 try rw [Exit.noGoto_ret]
 go_ret2;exact ⟨rfl,rfl⟩
theorem Qkm (v:Value) (l:List Int) (w:World) (h:Bs .i64 w v l) (hg:I64s l) (hl:l.length≤65536) :
  Calls prog 134 #[v] w fun e w'=>∃u,e=.returned (.tuple #[u,.int .i64 0])∧w'.ownsRow w.heap.size 5 1 u (((pick l 4).1:Int) :: (pick l 4).2).length ((((pick l 4).1:Int) :: (pick l 4).2).map (Value.int .u8))∧Only (fun _=>False) w w':=by
 have A:=Qjg v l 0 w h hg hl (by omega);rw [QbH] at A;have A:=Qaa A
 have WY:Hid (∀(t:Nat) (w1:World),t≤4→Only (fun _=>False) w w1→Calls prog 167 #[v,.int .i64 t] w1 fun e w'=>∃u,e=.returned (.tuple #[u,.int .i64 (WAY l t).2])∧w'.ownsRow w1.heap.size 5 1 u (WAY l t).1.length ((WAY l t).1.map (Value.int .u8))∧Only (fun _=>False) w1 w') :=
  fun t w1 ht o=>Qjg v l t w1 (h.past o) hg hl ht
 have HP:Hid (∀t,(pick l t).1≤t∧(pick l t).2.length≤8*l.length):=fun t=>⟨(Qci l t).1,Qo2 l t⟩
 have HPS:Hid (∀t,pick l (t+1)=if (WAY l (t+1)).2=0∧(WAY l (t+1)).1.length<(pick l t).2.length then (t+1,(WAY l (t+1)).1) else pick l t):=fun t=>rfl
 have HP0:Hid (pick l 0=(0,fx l)):=by simp only [Hid];rw [pick,QbH]
 obtain ⟨pp,hpp⟩:∃pp,pp=((pick l 4).1:Int) :: (pick l 4).2:=⟨_,rfl⟩;rw [←hpp];have HPP:=Qaa hpp;clear hpp;obtain ⟨ao,cap,rfl⟩:=h.len;clear h hg;go_enter func134,ntmps134;go_wp2_with fail;refine A.out.mono ?_;rintro e w1 ⟨v1,rfl,own1,o1⟩;clear A;have START:=Qaa (And.intro own1 o1);obtain ⟨f1,c1,e1⟩:=(Bs.of_own own1).len;subst e1;generalize hF:fx l=F0 at *;clear own1 o1;go_wp2
 go_loopw [4,5,7] (fun s4 s5 s7 wr=>∃t:Nat,t≤4∧s7=.int .i64 ((t:Int)+1)∧s4=.int .i64 ((pick l t).1:Nat)∧wr.ownsRow w.heap.size 5 1 s5 (pick l t).2.length ((pick l t).2.map (Value.int .u8))∧Only (fun _=>False) w wr) (fun _ _ s7 _=>5 - (intOf s7).toNat)
 case atStart =>
  have e:=HP0.out;refine ⟨0,by omega,rfl,by rw [e];rfl,?_,START.out.2⟩;rw [e];exact START.out.1
 case round =>
  obtain ⟨t,ht,rfl,rfl,hown,hon⟩:=hrel;have HOWN:=Qaa hown;have HON:=Qaa hon;obtain ⟨f2,c2,e2⟩:=(Bs.of_own hown).len;subst e2;clear START hown hon;have hp1:=(HP.out t).1;have HPL:=Qaa (HP.out t).2;have HST:=Qaa (HPS.out t)
  by_cases hlt:t<4
  ·have dlt:decide ((t:Int)+1<5)=true:=Yaj (by omega)
   have WT:=WY.out (t+1) wr (by omega) HON.out;rw [Int.natCast_succ] at WT;have WT:=Qaa WT;generalize WAY l (t+1)=W at *;obtain ⟨W1,c⟩:=W;simp only at WT HST;obtain ⟨pn,hpn⟩:∃pn,pn=pick l (t+1):=⟨_,rfl⟩;rw [←hpn] at HST;have HPN:=Qaa hpn;generalize pick l t=p at *;obtain ⟨p1,p2⟩:=p;simp only at HOWN HST hp1 HPL;clear hpn WY HPS HP HP0;go_wp2_with fail;refine WT.out.mono ?_;rintro e w3 ⟨v3,rfl,own3,o3⟩;clear WT;have OW3:=Qaa (Qaf own3 HON.out.size);have OWP:=Qaa (o3.own HOWN.out (fun _ _ f=>f));have O3:=Qaa (HON.out.same o3);obtain ⟨f3,c3,e3⟩:=(Bs.of_own own3).len;subst e3;clear own3 o3
   by_cases hc:c=0
   ·subst hc
    by_cases hlen:W1.length<p2.length
    ·have dl:decide ((W1.length:Int)<(p2.length:Int))=true:=Yaj (by omega)
     rw [if_pos ⟨rfl,hlen⟩] at HST;generalize hn1:W1.length=n1 at *;generalize hn2:p2.length=n2 at *;go_wp2
     go_roundw
     case rel =>
      refine ⟨t+1,by omega,by simp,?_,?_,O3.out⟩
      ·rw [←HPN.out,HST.out];simp
      ·rw [←HPN.out,HST.out]
       simp only [hn1];exact OW3.out
     case measure=>simp [intOf];omega
    ·have dl:decide ((W1.length:Int)<(p2.length:Int))=false:=Yak (by omega)
     rw [if_neg (fun hh=>hlen hh.2)] at HST;generalize hn1:W1.length=n1 at *;generalize hn2:p2.length=n2 at *;go_wp2
     go_roundw
     case rel =>
      refine ⟨t+1,by omega,by simp,?_,?_,O3.out⟩
      ·rw [←HPN.out,HST.out]
      ·rw [←HPN.out,HST.out]
       simp only [hn2];exact OWP.out
     case measure=>simp [intOf];omega
   ·have dc:(c == 0)=false:=by rw [beq_eq_false_iff_ne];exact hc
    rw [if_neg (fun hh=>hc hh.1)] at HST;generalize hn2:p2.length=n2 at *;go_wp2
    go_roundw
    case rel =>
     refine ⟨t+1,by omega,by simp,?_,?_,O3.out⟩
     ·rw [←HPN.out,HST.out]
     ·rw [←HPN.out,HST.out]
      simp only [hn2];exact OWP.out
    case measure=>simp [intOf];omega
  ·obtain rfl:t=4:=by omega
   clear HST HPS HP HP0 WY;generalize pick l 4=p at *;obtain ⟨p1,p2⟩:=p;simp only at HOWN hp1 HPL HPP
   have hq256:(p1:Int)<256:=by omega
   have oA:Only (fun _=>False) wr (wr.alloc (.cells #[.int .u8 p1] 5)):=(Only.refl _ _).alloc _;have oB:Only (fun _=>False) wr ((wr.alloc (.cells #[.int .u8 p1] 5)).alloc (.cells #[.slice (some ⟨wr.heap.size,0,none⟩) 1 1,.slice f2 p2.length c2] 22)):=oA.alloc _;have b1:Bs .u8 (wr.alloc (.cells #[.int .u8 p1] 5)) (.slice (some ⟨wr.heap.size,0,none⟩) 1 1) [(p1:Int)]:=Bs.litN .u8 wr 5 [(p1:Int)] _ _ rfl rfl;have CC:=Qaa (Qa1 (wr.heap.size+1) (.slice (some ⟨wr.heap.size,0,none⟩) 1 1) (.slice f2 p2.length c2) [(p1:Int)] p2 ((wr.alloc (.cells #[.int .u8 p1] 5)).alloc (.cells #[.slice (some ⟨wr.heap.size,0,none⟩) 1 1,.slice f2 p2.length c2] 22)) (by go_cell) (by go_cell) (b1.later ((Below.refl _ _).alloc (Nat.le_refl _) _)) ((Bs.of_own HOWN.out).past oB) (NoCap.some _ _ _) (NoCap.of_own HOWN.out) (by simp;omega) (by have:=HPL.out;simp;omega));rw [List.singleton_append] at CC;have O4:=Qaa (HON.out.same oB);rw [←HPP.out] at CC;clear oA oB b1 HOWN HON HPP;generalize p2.length=n2 at *;go_wp2_with fail;refine CC.out.mono ?_;rintro e w5 ⟨v5,rfl,own5,o5⟩;clear CC;have F:=Qaa (And.intro (Qaf own5 O4.out.size) (O4.out.same o5));obtain ⟨f5,c5,e5⟩:=(Bs.of_own own5).len;subst e5;clear own5 o5;go_wp2
   try rw [Exit.noGoto_ret]
   go_ret2;exact ⟨_,rfl,F.out.1,F.out.2⟩
theorem Qh3 (v:Value) (l:List Int) (w:World) (h:Bs .i64 w v l) (hg:I64s l) :
  Calls prog 134 #[v] w fun e w'=>∃u,e=.returned (.tuple #[u,.int .i64 (ENC8 l).2])∧w'.ownsRow w.heap.size 5 1 u (ENC8 l).1.length ((ENC8 l).1.map (Value.int .u8))∧Only (fun _=>False) w w':=by
 unfold ENC8
 by_cases hl:65536<l.length
 ·rw [if_pos hl]
  refine (QgP v l w h hl).mono ?_;rintro e w' ⟨rfl,rfl⟩;exact ⟨_,rfl,World.ownsRow_nil _ _ _ _,Only.refl _ _⟩
 ·rw [if_neg hl]
  exact Qkm v l w h hg (by omega)
section
open Go.Maps
def DMf:Nat→DataW Unit→List Int→DataW Unit
 | _,m,[]=>m
 | i,m,x :: t=>DMf (i+1) (m.put (.int .u64 x) (.lit (.int .i64 (i:Int)))) t
def DM (d:List Int):DataW Unit:=DMf 0 (.map []) d
theorem Qov (t:List Int) (x:Int):∀(i:Nat) (m:DataW Unit),DMf i m (t++[x])=(DMf i m t).put (.int .u64 x) (.lit (.int .i64 ((i+t.length:Nat):Int))):=by
 induction t with
 | nil=>intro i m;simp [DMf]
 | cons y t ih =>
  intro i m;rw [List.cons_append,DMf,ih,DMf,Yah,show i+1+t.length=i+(t.length+1) by omega]
theorem Qrp (d:List Int) (x:Int):DM (d++[x])=(DM d).put (.int .u64 x) (.lit (.int .i64 (d.length:Int))):=by
 unfold DM;rw [Qov,Nat.zero_add]
theorem QqG {x y:Int} (h:x≠y):(Lit.int .u64 x)≠(Lit.int .u64 y):=by
 intro e;simp at e;exact h e
theorem Qrq (x:Int) (hk:∀y:Int,WideAt.IsKeyLit (Lit.int .u64 y)) (t:List Int):∀(i:Nat) (m:DataW Unit),IsMap m→Maps.has (DMf i m t) (.int .u64 x)=(Maps.has m (.int .u64 x) || decide (x∈t)):=by
 induction t with
 | nil=>intro i m _;simp [DMf]
 | cons y t ih =>
  intro i m hm;rw [DMf,ih _ _ (hm.put _ _)]
  by_cases e:x=y
  ·subst e
   rw [has_put_same hm (hk x)];simp
  ·rw [has_put_other (QqG e)]
   simp [e]
theorem Qrr (x:Int) (t:List Int):∀(i:Nat) (m z:DataW Unit),x ∉ t→(DMf i m t).atKey (.int .u64 x) z=m.atKey (.int .u64 x) z:=by
 induction t with
 | nil=>intro i m z _;rfl
 | cons y t ih =>
  intro i m z h;rw [DMf,ih _ _ _ (fun e=>h (List.mem_cons_of_mem _ e)),atKey_put_other (QqG (fun e=>h (by rw [e];exact List.mem_cons_self)))]
theorem Qrs (x:Int) (hk:∀y:Int,WideAt.IsKeyLit (Lit.int .u64 y)) (t:List Int):∀(i:Nat) (m z:DataW Unit),IsMap m→t.Nodup→x∈t→(DMf i m t).atKey (.int .u64 x) z=.lit (.int .i64 ((i+plc t x:Nat):Int)):=by
 induction t with
 | nil=>intro i m z _ _ h;simp at h
 | cons y t ih =>
  intro i m z hm hd h;obtain ⟨h1,h2⟩:=List.nodup_cons.1 hd;rw [DMf]
  by_cases e:y=x
  ·subst e
   rw [Qrr y t _ _ _ h1,atKey_put_same hm (hk y)];simp [plc]
  ·have hx:x∈t:=by
    rcases List.mem_cons.1 h with e2 | e2
    ·exact absurd e2.symm e
    ·exact e2
   rw [ih _ _ _ (hm.put _ _) h2 hx]
   have e3:plc (y :: t) x=plc t x+1:=by
    unfold plc;rw [List.idxOf_cons]
    have:(y == x)=false:=by rw [beq_eq_false_iff_ne];exact e
    rw [this];rfl
   rw [e3,show i+1+plc t x=i+(plc t x+1) by omega]
theorem QlD (y:Int):WideAt.IsKeyLit (Lit.int .u64 y):=by simp [WideAt.IsKeyLit]
theorem QtN (d:List Int) (x:Int):Maps.has (DM d) (.int .u64 x)=decide (x∈d):=by
 unfold DM;rw [Qrq x QlD d 0 _ isMap_empty];simp [has_eq]
theorem DM_at {d:List Int} (hd:d.Nodup) {x:Int} (hx:x∈d) (z:DataW Unit):(DM d).atKey (.int .u64 x) z=.lit (.int .i64 (plc d x:Int)):=by
 unfold DM;rw [Qrs x QlD d 0 _ z isMap_empty hd hx,Nat.zero_add]
end
end Go.Proofs.YtnhapmboienipaaGreatDoor
