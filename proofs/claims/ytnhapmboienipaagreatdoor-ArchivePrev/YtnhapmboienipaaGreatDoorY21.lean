import Derived.Test.YtnhapmboienipaaGreatDoorY15
import Derived.Test.YtnhapmboienipaaGreatDoorY5
import Derived.Test.YtnhapmboienipaaGreatDoorY2
import Derived.Laws.CopyOwn
namespace Go.Proofs.YtnhapmboienipaaGreatDoor
set_option maxHeartbeats 1000000
set_option maxRecDepth 100000
open Go.RowKit _root_.Go.Proofs.Tryz
theorem Qsq (w:World) (n:Nat) (hn:n≤1000000000000):∃wm,(Instr.makeSlice 22 (.int .i64 (n:Int)) (.int .i64 (n:Int))).run prog w=.ok (.slice (some ⟨w.heap.size,0,none⟩) n n) wm∧Blk wm w.heap.size 5 (bl (List.replicate n 0))∧Only (fun _=>False) w wm:=by
 obtain ⟨i0,hi,hz0,hz1,hz2⟩:=info_parts Tryz.infoU8;obtain ⟨wm,hmk,hown,hgr⟩:=run_make_full (P:=prog) w w.heap.size 22 5 i0 (.int .u8 0) 1 underlying22 hi hz0 hz1 .i64 .i64 n (by rw [hz2];omega) (by unfold maxLen;omega) (Nat.le_refl _);refine ⟨wm,hmk,?_,(Only.refl _ _).grown hgr (fun k _ e=>by cases e)⟩
 rcases hown.2 with ⟨h',_⟩ | ⟨g',cap',cur,h',_,hg,_,_,hcs,ht⟩
 ·simp at h'
 ·simp only [Value.slice.injEq,Option.some.injEq,Addr.mk.injEq,and_true,true_and] at h'
  obtain ⟨rfl,rfl⟩:=h'
  have e1:cur=(bl (List.replicate n 0)).toArray:=by
   apply Array.toList_inj.1
   rw [List.take_of_length_le (by simp;omega)] at ht;rw [ht,Nat.mul_one,show (Value.int .u8 0).cells=#[.int .u8 0] from rfl,toList_madeCells_one];simp [bl]
  rw [e1] at hg;exact hg
theorem QmQ (W:World) (G off L cap:Nat) (v:Value) (xs Z:List Int) (k:Nat) (hk:xs.length=k) (hN:Blk W G 5 (bl Z)) (hb:Bs .u8 W v xs) (hl:k≤L) (hf:off+k≤Z.length) :
  ∃w3,(Builtin.copy_ #[22,22] 3 #[.slice (some ⟨G,off,none⟩) L cap,v]).run prog W=.ok (.int .i64 (k:Int)) w3∧Blk w3 G 5 (bl (Z.take off++xs++Z.drop (off+k)))∧Only (fun k=>k=G) W w3:=by
 subst hk;have hb0:=hb;obtain ⟨ao,vc,rfl,hc,hr⟩:=hb
 by_cases h0:xs=[]
 ·subst h0
  refine ⟨W,run_copy_none (P:=prog) W 22 22 3 5 _ _ L cap 0 vc underlying22 Tryz.one5 (Nat.zero_min _),?_,Only.refl _ _⟩
  simpa using hN
 ·obtain ⟨b,o,rfl,hcell⟩:=hr h0
  have hkl:(bl xs).length=xs.length:=Qal _
  have hrun:=run_copy_row (P:=prog) W 22 22 3 5 G off L cap ⟨b,o,none⟩ xs.length vc (bl Z).toArray 5 (bl xs) underlying22 Tryz.one5 hN
   (by rw [hkl];exact (Nat.min_eq_left hl).symm) (fun j u hu=>hb0.news j u hu) (by rw [hkl];simp [Qal];omega) (Qb7 _)
  rw [show goInt ((bl xs).length:Int)=.int .i64 (xs.length:Int) by rw [hkl];rfl] at hrun;refine ⟨_,hrun,?_,(Only.refl (fun k=>k=G) W).setRow (fun _=>rfl) _⟩
  have e:bl (Z.take off++xs++Z.drop (off+xs.length))=(bl Z).toArray.toList.take off++bl xs++(bl Z).toArray.toList.drop (off+(bl xs).length):=by
   show _=List.take off (bl Z)++bl xs++List.drop (off+(bl xs).length) (bl Z)
   rw [hkl];unfold bl;rw [List.map_append,List.map_append,List.map_take,List.map_drop]
  rw [e];exact hN.row _
theorem QpD (b:List Int) (h:b.length≤4194300) (F:List Int) (hF:F.length=4) (n:Nat) (hn:n=PLN b.length) :
  (((List.replicate n (0:Int)).take 0++F++(List.replicate n (0:Int)).drop (0+4)).take 4++b++((List.replicate n (0:Int)).take 0++F++(List.replicate n (0:Int)).drop (0+4)).drop (4+b.length))=F++b++List.replicate (PLN b.length - 4 - b.length) 0:=by
 have hg:=QmS b.length h;rw [List.take_zero,List.nil_append,Nat.zero_add,List.drop_replicate,List.take_left' hF,←List.drop_drop,List.drop_left' hF,List.drop_replicate,hn]
theorem Qsr {n:Nat} (h:n≤4194300):BKV n=(PBK n:Int)∧BKE n=0 :=
 ⟨if_pos (by omega),by unfold BKE;rw [if_neg (by omega),if_neg (by omega)]⟩
theorem QqW (n:Nat):SZV (PBK n:Int)=(PLN n:Int):=by
 have:=QqX n;unfold SZV PLN;rw [if_pos (by omega)];rfl
theorem QpE (v:Value) (b:List Int) (w:World) (h:Bs .u8 w v b) (hl:4194300<b.length) :
  Calls prog 99 #[v] w fun e w'=>e=.returned (.tuple #[.slice none 0 0,.int .i64 4])∧Only (fun _=>False) w w':=by
 obtain ⟨ao,cap,rfl⟩:=h.len
 have e1:BKE (b.length:Int)=4:=by unfold BKE;rw [if_neg (by omega),if_pos (by omega)]
 have A:=Qaa (QdH (b.length:Int) w);rw [e1] at A;generalize BKV (b.length:Int)=q at A;generalize b.length=n at A;clear h hl e1;go_enter func99,ntmps99;go_wp2_with fail;refine A.out.mono ?_;rintro e w1 ⟨rfl,o1⟩;have O1:=Qaa o1;clear o1;go_wp2;go_ret2;exact ⟨rfl,O1.out⟩
theorem Qss (v:Value) (b:List Int) (w:World) (h:Bs .u8 w v b) (hl:b.length≤4194300) :
  Calls prog 99 #[v] w fun e w'=>∃r,e=.returned (.tuple #[r,.int .i64 0])∧w'.ownsRow w.heap.size 5 1 r (PADL b).length (bl (PADL b))∧Only (fun _=>False) w w':=by
 have HB:=Qaa h;obtain ⟨ao,cap,rfl⟩:=h.len;obtain ⟨e1,e2⟩:=Qsr hl;have A:=Qaa (QdH (b.length:Int) w);rw [e1,e2] at A;have e3:=QqW b.length;obtain ⟨n,hn⟩:∃n,n=PLN b.length:=⟨_,rfl⟩;rw [←hn] at e3;have hn1:=QmS b.length hl;have hn2:=QmT b.length;have hn3:=Qsw b.length;rw [←hn] at hn1 hn2 hn3;obtain ⟨m,hm⟩:∃m,m=b.length:=⟨_,rfl⟩;rw [←hm] at A e3 HB hn1;have E3:=Qaa e3;have HN:=Qaa hn;have HM:=Qaa hm;have HL:=Qaa hl;rw [←hm];generalize PBK m=q at A E3;clear h hl e1 e2 e3 hn hm;go_enter func99,ntmps99;go_wp2_with fail;refine A.out.mono ?_;rintro e w1 ⟨rfl,o1⟩;have O1:=Qaa o1;have B:=Qaa (QeQ (q:Int) w1);rw [E3.out] at B;clear o1 A E3;go_wp2_with fail;refine B.out.mono ?_;rintro e w2 ⟨rfl,o2⟩;obtain ⟨wm,hmk,hblk,om⟩:=Qsq w2 n (by omega);have C:=Qaa (Qbx (m:Int) 4 wm (by omega));have O2:=Qaa (O1.out.same o2);have HBM:=Qaa (And.intro hblk om);clear B o2 O1 hblk om;go_wp2_with fail;refine C.out.mono ?_;rintro e w3 ⟨u,rfl,own3,o3⟩;obtain ⟨F,hF⟩:∃F,F=fixL (m:Int) 4:=⟨_,rfl⟩;rw [←hF] at own3
 have hFl:F.length=4:=by rw [hF,Qag]
 have b3:Bs .u8 w3 u F:=Bs.of_own own3;obtain ⟨ua,uc,eu,_⟩:=b3.formN hFl;subst eu;have k3:Blk w3 w2.heap.size 5 (bl (List.replicate n 0)):=HBM.out.1.keep o3 (fun f=>f);obtain ⟨w4,hcp4,k4,o4⟩:=QmQ w3 w2.heap.size 0 n n (.slice ua 4 uc) F (List.replicate n 0) 4 hFl k3 b3 (by omega) (by rw [List.length_replicate];omega)
 have hlow:∀k,(Value.slice ao m cap).ownBlock=some k→b≠[]→k≠w2.heap.size:=fun k hk hne e=>by
  have h1:=HB.out.blk_lt hne k hk;have h2:=O2.out.size;omega
 have b4:Bs .u8 w4 (.slice ao m cap) b:=by
  have h3:=HB.out.past ((O2.out.same HBM.out.2).same o3)
  by_cases hne:b=[]
  ·subst hne
   obtain ⟨ao',cap',e,hc,_⟩:=h3;exact ⟨ao',cap',e,hc,fun h=>absurd rfl h⟩
  ·exact h3.keep o4 (fun k hk e=>hlow k hk hne e)
 obtain ⟨w5,hcp5,k5,o5⟩:=QmQ w4 w2.heap.size 4 (n - 4) (n - 4) (.slice ao m cap) b _ m HM.out.symm k4 b4 (by omega) (by
  rw [List.take_zero,List.nil_append,Yae,Yai,List.length_replicate,hFl];omega)
 rw [HM.out,QpD b HL.out F hFl n HN.out,hF,HM.out] at k5
 have FIN:Hid (w5.ownsRow w.heap.size 5 1 (.slice (some ⟨w2.heap.size,0,none⟩) n n) (PADL b).length (bl (PADL b))∧Only (fun _=>False) w w5):=by
  have hP:(PADL b).length=n:=by rw [QfW b HL.out,HN.out]
  refine ⟨?_,?_⟩
  ·rw [hP]
   refine Qe5 ?_ O2.out.size (by simp only [maxLen];omega) (by rw [Qal,hP]);exact k5
  ·have oo:=(O2.out.same HBM.out.2).same o3
   have h2:=O2.out.size;exact (oo.trans o4 (fun k hk e=>by omega)).trans o5 (fun k hk e=>by omega)
 have hc4:¬n=4:=by omega
 have i4:(4:Int)≤(n:Int):=by omega
 clear own3 o3 b3 k3 k4 o4 b4 k5 o5 C HBM hlow hF;go_wp2;go_ret2;exact ⟨_,rfl,FIN.out⟩
theorem Qst (v:Value) (b:List Int) (w:World) (h:Bs .u8 w v b) :
  Calls prog 99 #[v] w fun e w'=>∃r,e=.returned (.tuple #[r,.int .i64 (PDe b)])∧w'.ownsRow w.heap.size 5 1 r (PDt b).length (bl (PDt b))∧Only (fun _=>False) w w':=by
 by_cases hl:b.length≤4194300
 ·have e1:PDt b=PADL b:=if_pos hl
  have e2:PDe b=0:=if_pos hl;rw [e1,e2];exact Qss v b w h hl
 ·have e1:PDt b=[]:=if_neg hl
  have e2:PDe b=4:=if_neg hl;rw [e1,e2];refine (QpE v b w h (by omega)).mono ?_;rintro e w' ⟨rfl,o⟩;exact ⟨_,rfl,World.ownsRow_nil _ _ _ _,o⟩
end Go.Proofs.YtnhapmboienipaaGreatDoor
