import Derived.Test.YtnhapmboienipaaGreatDoorY5
import Derived.Test.YtnhapmboienipaaGreatDoorProg
import Derived.Test.YtnhapmboienipaaGreatDoorY1
import Derived.Deep.WholeRow
import Derived.Deep.MidRow
import Derived.Deep.RegionHeld3
import Derived.Laws.CopyOwn
namespace Go.Proofs.YtnhapmboienipaaGreatDoor
set_option maxHeartbeats 1600000
set_option maxRecDepth 100000
open Go.RowKit _root_.Go.Proofs.Tryz
theorem and31 (n:Nat) (h1:1≤n) (h2:n≤31):bits .and .u64 (IntKind.u64.wrap (-(n:Int))) 31=((32 - n:Nat):Int):=by
 have e:IntKind.u64.wrap (-(n:Int))=((18446744073709551616 - n:Nat):Int):=by
  simp [IntKind.wrap,IntKind.bits,IntKind.signed];omega
 rw [e,show (31:Int)=((31:Nat):Int) from rfl,u64_and_nat _ _ (by omega) (by omega),show (31:Nat)=2^5 - 1 from rfl,Nat.and_two_pow_sub_one_eq_mod];omega
theorem QaM (x n:Nat) (hx:x<4294967296):rotw x n<4294967296:=by
 unfold rotw;exact Nat.or_lt_two_pow (n:=32) (QjN x n hx) (Nat.mod_lt _ (by decide))
theorem QcY {x:Nat} (y:Nat) (hx:x<4294967296):x &&& y<4294967296:=Nat.lt_of_le_of_lt Nat.and_le_left hx
theorem QpT (x n:Nat) (w:World) (hx:x<4294967296) (h1:1≤n) (h2:n≤31) :
  Calls prog 231 #[.int .u32 x,.int .i64 (-(n:Int))] w fun e w'=>e=.returned (.int .u32 (rotw x n:Nat))∧w=w':=by
 have hb:=and31 n h1 h2;obtain ⟨s,hs⟩:∃s,s=32 - n:=⟨_,rfl⟩;rw [←hs] at hb
 have h3:1≤s:=by omega
 have h4:s≤31:=by omega
 have HS:Hid (n=32 - s):=(by omega:n=32 - s);clear hs h1 h2;go_enter func231,ntmps231;go_wp2;go_ret;refine ⟨Qa0 ?_,rfl⟩
 rw [show ((x:Int)*2^s % 4294967296)=((x*2^s % 4294967296:Nat):Int) by simp,show ((x:Int) / 2^(32 - s))=((x / 2^(32 - s):Nat):Int) by simp,
  u32_or_nat _ _ (Nat.mod_lt _ (by decide)) (QjN _ _ hx),HS.out]
 unfold rotw;rw [Nat.or_comm,show 32 - (32 - s)=s by omega]
theorem QbN (x n:Nat) (w:World) (hx:x<4294967296) (h1:1≤n) (h2:n≤31) :
  Calls prog 205 #[.int .u32 x,.int .i64 n] w fun e w'=>e=.returned (.int .u32 (rotw x n:Nat))∧w=w':=by
 have A:=Qaa (QpT x n w hx h1 h2);go_enter func205,ntmps205;go_wp2_with fail;refine A.out.mono ?_;rintro e w1 ⟨rfl,rfl⟩;go_wp2;go_ret;exact ⟨rfl,rfl⟩
theorem Qno (x:Nat) (hx:x<4294967296):bits .xor .u32 (bits .xor .u32 (rotw x 7:Nat) (rotw x 18:Nat)) ((x:Int) / 8)=(sg0 x:Nat):=by
 rw [show ((x:Int) / 8)=((x / 8:Nat):Int) from rfl,u32_xor_nat _ _ (QaM _ _ hx) (QaM _ _ hx),u32_xor_nat _ _ (Qdq (QaM _ _ hx) (QaM _ _ hx)) (by omega)];rfl
theorem Qnp (x:Nat) (hx:x<4294967296):bits .xor .u32 (bits .xor .u32 (rotw x 17:Nat) (rotw x 19:Nat)) ((x:Int) / 1024)=(sg1 x:Nat):=by
 rw [show ((x:Int) / 1024)=((x / 1024:Nat):Int) from rfl,u32_xor_nat _ _ (QaM _ _ hx) (QaM _ _ hx),u32_xor_nat _ _ (Qdq (QaM _ _ hx) (QaM _ _ hx)) (by omega)];rfl
theorem Qnq (x:Nat) (hx:x<4294967296):bits .xor .u32 (bits .xor .u32 (rotw x 2:Nat) (rotw x 13:Nat)) (rotw x 22:Nat)=(Sg0 x:Nat):=by
 rw [u32_xor_nat _ _ (QaM _ _ hx) (QaM _ _ hx),u32_xor_nat _ _ (Qdq (QaM _ _ hx) (QaM _ _ hx)) (QaM _ _ hx)];rfl
theorem Qnr (x:Nat) (hx:x<4294967296):bits .xor .u32 (bits .xor .u32 (rotw x 6:Nat) (rotw x 11:Nat)) (rotw x 25:Nat)=(Sg1 x:Nat):=by
 rw [u32_xor_nat _ _ (QaM _ _ hx) (QaM _ _ hx),u32_xor_nat _ _ (Qdq (QaM _ _ hx) (QaM _ _ hx)) (QaM _ _ hx)];rfl
theorem QsP (x:Nat) (w:World) (hx:x<4294967296) :
  Calls prog 204 #[.int .u32 x] w fun e w'=>e=.returned (.int .u32 (sg0 x:Nat))∧w=w':=by
 have A:=Qaa (QbN x 7 w hx (by decide) (by decide));have B:=Qaa (QbN x 18 w hx (by decide) (by decide));have H:=Qaa (Qno x hx);go_enter func204,ntmps204;go_wp2_with fail;refine A.out.mono ?_;rintro e w1 ⟨rfl,rfl⟩;go_wp2_with fail;refine B.out.mono ?_;rintro e w1 ⟨rfl,rfl⟩;go_wp2;go_ret;exact ⟨Qa0 H.out,rfl⟩
theorem QsQ (x:Nat) (w:World) (hx:x<4294967296) :
  Calls prog 203 #[.int .u32 x] w fun e w'=>e=.returned (.int .u32 (sg1 x:Nat))∧w=w':=by
 have A:=Qaa (QbN x 17 w hx (by decide) (by decide));have B:=Qaa (QbN x 19 w hx (by decide) (by decide));have H:=Qaa (Qnp x hx);go_enter func203,ntmps203;go_wp2_with fail;refine A.out.mono ?_;rintro e w1 ⟨rfl,rfl⟩;go_wp2_with fail;refine B.out.mono ?_;rintro e w1 ⟨rfl,rfl⟩;go_wp2;go_ret;exact ⟨Qa0 H.out,rfl⟩
theorem QsR (x:Nat) (w:World) (hx:x<4294967296) :
  Calls prog 175 #[.int .u32 x] w fun e w'=>e=.returned (.int .u32 (Sg0 x:Nat))∧w=w':=by
 have A:=Qaa (QbN x 2 w hx (by decide) (by decide));have B:=Qaa (QbN x 13 w hx (by decide) (by decide));have C:=Qaa (QbN x 22 w hx (by decide) (by decide));have H:=Qaa (Qnq x hx);go_enter func175,ntmps175;go_wp2_with fail;refine A.out.mono ?_;rintro e w1 ⟨rfl,rfl⟩;go_wp2_with fail;refine B.out.mono ?_;rintro e w1 ⟨rfl,rfl⟩;go_wp2_with fail;refine C.out.mono ?_;rintro e w1 ⟨rfl,rfl⟩;go_wp2;go_ret;exact ⟨Qa0 H.out,rfl⟩
theorem QsS (x:Nat) (w:World) (hx:x<4294967296) :
  Calls prog 174 #[.int .u32 x] w fun e w'=>e=.returned (.int .u32 (Sg1 x:Nat))∧w=w':=by
 have A:=Qaa (QbN x 6 w hx (by decide) (by decide));have B:=Qaa (QbN x 11 w hx (by decide) (by decide));have C:=Qaa (QbN x 25 w hx (by decide) (by decide));have H:=Qaa (Qnr x hx);go_enter func174,ntmps174;go_wp2_with fail;refine A.out.mono ?_;rintro e w1 ⟨rfl,rfl⟩;go_wp2_with fail;refine B.out.mono ?_;rintro e w1 ⟨rfl,rfl⟩;go_wp2_with fail;refine C.out.mono ?_;rintro e w1 ⟨rfl,rfl⟩;go_wp2;go_ret;exact ⟨Qa0 H.out,rfl⟩
theorem Tryz.size30:(prog.info? 144).map (·.size)=some 8:=by kernel_rfl
theorem Tryz.size31:(prog.info? 145).map (·.size)=some 64:=by kernel_rfl
theorem Tryz.size52:(prog.info? 221).map (·.size)=some 64:=by kernel_rfl
theorem Tryz.size33:(prog.info? 147).map (·.size)=some 73:=by kernel_rfl
theorem Qk9 (w:World):Calls prog 151 #[] w fun e w'=>e=.returned (.agg (wl shH).toArray)∧Only (fun _=>False) w w':=by
 go_enter func151,ntmps151;go_wp2_with (first|(refine Qax rfl 144 _ rfl (wl shH).toArray (by kernel_rfl) ?_)|(refine wpList_store_row rfl 144 (.tmp 0) (.tmp 1) rfl w.heap.size (wl shH).toArray rfl rfl 144 (wl (List.replicate 8 0)).toArray (heap_alloc_last w _) Tryz.size30 rfl (Qb8 _) ?_));refine bodyPost_ret (v:=.agg (wl shH).toArray) (results_cell_row rfl _ _ w.heap.size 144 (wl shH).toArray (0,0) _ rfl (setRow_heap _ _ _ _ 144 _ (heap_alloc_last w _)) underlying144 rfl Tryz.size30) rfl ⟨rfl,?_⟩;exact ((Only.refl _ _).alloc _).setRow (fun h=>absurd h (Nat.lt_irrefl _)) _
def zK:List Value:=wl (List.replicate 64 0)
theorem Qfv (w:World):Calls prog 173 #[] w fun e w'=>e=.returned (.agg (wl shK).toArray)∧Only (fun _=>False) w w':=by
 go_enter func173,ntmps173;go_wp2_with (first|(refine Qax rfl 221 _ rfl (wl shK).toArray (by kernel_rfl) ?_)|(refine wpList_store_row rfl 221 (.tmp 0) (.tmp 1) rfl w.heap.size (wl shK).toArray rfl rfl 221 zK.toArray (heap_alloc_last w _) Tryz.size52 (by kernel_rfl) (Qb8 _) ?_));refine bodyPost_ret (v:=.agg (wl shK).toArray) (results_cell_row rfl _ _ w.heap.size 221 (wl shK).toArray (0,0) _ rfl (setRow_heap _ _ zK.toArray _ 221 _ (heap_alloc_last w _)) underlying221 rfl Tryz.size52) rfl ⟨rfl,?_⟩;exact ((Only.refl _ _).alloc _).setRow (fun h=>absurd h (Nat.lt_irrefl _)) _
theorem ix_w8 (s:List Nat) (hs:s.length=8) (j:Nat) (hj:j<8) (w:World):(Instr.index 144 (.agg (wl s).toArray) (.int .i64 j)).run prog w=.ok (.int .u32 ((s.getD j 0:Nat):Int)) w :=
 QaB 144 134 8 (wl s) j _ underlying144 Tryz.agg29 Tryz.one29 hj (wl_at s j (by omega)) w
theorem QtD (s:List Nat) (hs:s.length=64) (j:Nat) (hj:j<64) (w:World):(Instr.index 221 (.agg (wl s).toArray) (.int .i64 j)).run prog w=.ok (.int .u32 ((s.getD j 0:Nat):Int)) w :=
 QaB 221 134 64 (wl s) j _ underlying221 Tryz.agg29 Tryz.one29 hj (wl_at s j (by omega)) w
theorem QtE (s:List Int) (hs:s.length=64) (j:Nat) (hj:j<64) (w:World):(Instr.index 145 (.agg (bl s).toArray) (.int .i64 j)).run prog w=.ok (.int .u8 (s.getD j 0)) w :=
 QaB 145 5 64 (bl s) j _ underlying145 Tryz.agg5 Tryz.one5 hj (bl_at s j (by omega)) w
theorem Qgl (s:List Nat) (j:Nat) (h:j<s.length):(s.take (j+1)).flatMap be4=(s.take j).flatMap be4++be4 (s.getD j 0):=by
 rw [QbP s j h,List.flatMap_append];simp
theorem Qgm (x:Nat):be4 x=[((x / 16777216 % 256:Nat):Int),((x / 65536 % 256:Nat):Int),((x / 256 % 256:Nat):Int),((x % 256:Nat):Int)]:=by
 have:List.range 4=[0,1,2,3]:=rfl;unfold be4;rw [this];simp
def z32:List Value:=bl (List.replicate 32 0)
theorem mk32 (w:World):(Instr.makeSlice 22 (.int .i64 0) (.int .i64 32)).run prog w=.ok (.slice (some ⟨w.heap.size,0,none⟩) 0 32) (w.alloc (.cells z32.toArray 5)):=by kernel_rfl
theorem QhG (s:List Nat) (hs:s.length=8) (w:World):Calls prog 154 #[.agg (wl s).toArray] w fun e w'=>∃v,e=.returned v∧w'.ownsRow w.heap.size 5 1 v 32 ((s.flatMap be4).map (Value.int .u8))∧Only (fun _=>False) w w':=by
 obtain ⟨i0,hi,hz0,hz1,hz2⟩:=info_parts Tryz.infoU8;have HX:=Qaa (ix_w8 s hs);have FX:=Qaa (Qgl s)
 have HF:Hid ((s.take 8).flatMap be4=s.flatMap be4):=by rw [List.take_of_length_le (by omega)];rfl
 have HL:=Qaa hs;have hmk:=mk32;generalize hC:(wl s).toArray=C at *
 have hsz:(prog.info? 144).map (·.size)=some C.size:=by rw [←hC];simp [Qaw,hs,Tryz.size30]
 have HSZ:=Qaa hsz;clear hC hs hsz;go_enter func154,ntmps154;go_wp2_with (refine wpList_load_row rfl 144 _ rfl w.heap.size rfl 144 C (0,0) _ (heap_alloc2_old w _ _) underlying144 rfl HSZ.out ?_)
 obtain ⟨F,hF⟩:∃F:Nat→List Value,F=fun j=>((s.take j).flatMap be4).map (Value.int .u8):=⟨_,rfl⟩
 have F0:Hid (F 0=[]):=by rw [hF];rfl
 have F8:Hid (F 8=(s.flatMap be4).map (Value.int .u8)):=by rw [hF,←HF.out];rfl
 have FN:Hid (∀j,j<8→F (j+1)=F j++(be4 (s.getD j 0)).map (Value.int .u8)):=fun j hj=>by
  rw [hF];simp only;rw [FX.out j (by rw [HL.out];exact hj),List.map_append]
 clear hF FX HF
 go_loopw [3,8] (fun o i wr=>∃j:Nat,j≤8∧i=.int .i64 j∧wr.ownsRow w.heap.size 5 1 o (4*j) (F j)∧Only (fun _=>False) w wr) (fun _ i _=>8 - (intOf i).toNat)
 case atStart =>
  refine ⟨0,by omega,rfl,?_,((Only.refl _ _).alloc _).alloc _⟩;rw [F0.out];have:=World.ownsRow_made (base:=w.heap.size) (e:=5) (size:=1) (w.alloc (.cells C 144)) z32.toArray 32 ((Only.refl (fun _=>False) w).alloc _).size (by decide) rfl;rw [size_alloc] at this;exact this
 case round =>
  obtain ⟨j,hj,rfl,hown,hon⟩:=hrel;have hsz:=hon.size;have HON:=Qaa hon;have HOWN:=Qaa hown;clear hon hown
  by_cases hlt:j<8
  ·obtain ⟨x,hx⟩:∃x,x=s.getD j 0:=⟨_,rfl⟩
   have hix:=HX.out j hlt;have hfn:=FN.out j hlt;rw [←hx] at hix hfn;have HFN:=Qaa hfn
   have i1:(j:Int)<8:=by omega
   clear hx hfn;have BL:=Qaa (Bs.litN .u8 wr 5 [(x:Int) / 16777216 % 256,(x:Int) / 65536 % 256,(x:Int) / 256 % 256,(x:Int) % 256] _ _ rfl rfl);go_wp2_with (at_builtin;refine Qab _ rfl _ _ 22 rfl w.heap.size 5 i0 (.int .u8 0) 1 underlying22 hi hz0 hz1 hz2 rfl _ (4*j) (F j) rfl (HOWN.out.alloc _) .u8 _ [(x:Int) / 16777216 % 256,(x:Int) / 65536 % 256,(x:Int) / 256 % 256,(x:Int) % 256] rfl BL.out (NoCap.some _ _ _) (by simp [maxLen];omega) (by simp;omega) (by simp;omega) ?_;intro v' w2 hown' hgrow2 hnil2 hob2)
   have N1:Hid (w2.ownsRow w.heap.size 5 1 v' (4*(j+1)) (F (j+1))):=by
    rw [HFN.out,Qgm];exact hown'
   have N2:Hid (Only (fun _=>False) w w2):=(HON.out.alloc _).grown hgrow2 (fun k hk e=>by have:=HOWN.out.lt k e;omega);clear hown' hgrow2 hnil2 hob2 HOWN HON BL HFN;go_wp2
   go_roundw
   case rel=>exact ⟨j+1,by omega,by go_num,N1.out,N2.out⟩
   case measure=>simp [intOf];omega
  ·go_wp2
   go_ret
   obtain rfl:j=8:=by omega
   rw [F8.out] at HOWN;exact ⟨_,rfl,HOWN.out,HON.out⟩
theorem Tryz.zero52:(prog.info? 221).map (fun i=>(i.zero,i.size))=some (some (.agg zK.toArray),64):=by kernel_rfl
theorem sum4 (a b c d:Nat):IntKind.u32.wrap (IntKind.u32.wrap (IntKind.u32.wrap ((a:Int)+b)+c)+d)=(((a+b+c+d) % 4294967296:Nat):Int):=by
 rw [IntKind.wrap_u32',IntKind.wrap_u32',IntKind.wrap_u32'];omega
theorem Quy (a:Nat) (y:Int) (ha:a<16777216) (h0:0≤y) (h1:y≤255):bits .or .u32 ((a:Int)*256) y=((a*256+y.toNat:Nat):Int):=by
 obtain ⟨b,rfl⟩:=Int.eq_ofNat_of_zero_le h0;rw [show ((a:Int)*256)=((a*256:Nat):Int) by simp];have:=u32_or_nat (a*256) b (by omega) (by omega);rw [this,Qs5 a b (by omega)]
 rfl
theorem Qe1 (p:List Int) (hp:p.length=64) (h8:U8 p) (w:World):Calls prog 172 #[.agg (bl p).toArray] w fun e w'=>e=.returned (.agg (wl (wds p)).toArray)∧Only (fun _=>False) w w':=by
 have HX:=Qaa (QtE p hp);have H8:=Qaa h8
 have hsz:(prog.info? 145).map (·.size)=some (bl p).toArray.size:=by simp [Qal,hp,Tryz.size31]
 have HSZ:=Qaa hsz;obtain ⟨B,hB⟩:∃B,B=bl p:=⟨_,rfl⟩;rw [←hB] at HX HSZ ⊢;have hzv:=(zero_of_info (P:=prog) Tryz.zero52).1;obtain ⟨Z,hZ⟩:∃Z,Z=zK:=⟨_,rfl⟩;rw [←hZ] at hzv;have HZ:=Qaa hZ
 have hz1:(prog.info? 221).map (·.size)=some (wl (wds p)).toArray.size:=by simp [Qaw,QdF,Tryz.size52]
 have HZ1:=Qaa hz1
 have HZ2:Hid (Z.toArray.size=(wl (wds p)).toArray.size):=by
  show _=_
  rw [HZ.out];simp [Qaw,QdF,zK]
 have HA:=Qaa (Qb8 (wds p));obtain ⟨D,hD⟩:∃D,D=wl (wds p):=⟨_,rfl⟩;rw [←hD] at HZ1 HZ2 HA ⊢;have HD:=Qaa hD.symm;clear hB hsz h8 hp hZ hD hz1;go_enter func172,ntmps172;go_wp2_with (refine wpList_load_row rfl 145 _ rfl w.heap.size rfl 145 B.toArray (0,0) _ (((Blk.new w 145 B).alloc _).alloc _) underlying145 rfl HSZ.out ?_)
 have S0:Hid (Blk (((w.alloc (.cells B.toArray 145)).alloc (.cells Z.toArray 221)).alloc (.cells Z.toArray 221)) (w.heap.size+1+1) 221 (wl (wpart p 0))):=by
  have:=Blk.new ((w.alloc (.cells B.toArray 145)).alloc (.cells Z.toArray 221)) 221 Z;rw [size_alloc,size_alloc] at this;rw [QkK];rw [HZ.out] at this ⊢;exact this
 have R0:Hid (Blk (((w.alloc (.cells B.toArray 145)).alloc (.cells Z.toArray 221)).alloc (.cells Z.toArray 221)) (w.heap.size+1) 221 Z):=by
  have:=(Blk.new (w.alloc (.cells B.toArray 145)) 221 Z).alloc (.cells Z.toArray 221);rw [size_alloc] at this;exact this
 have O0:Hid (Only (fun _=>False) w (((w.alloc (.cells B.toArray 145)).alloc (.cells Z.toArray 221)).alloc (.cells Z.toArray 221))):=(((Only.refl _ _).alloc _).alloc _).alloc _;obtain ⟨G,hG⟩:∃G,G=w.heap.size+1+1:=⟨_,rfl⟩;obtain ⟨R,hR⟩:∃R,R=w.heap.size+1:=⟨_,rfl⟩;obtain ⟨W0,hW0⟩:∃W0,W0=(((w.alloc (.cells B.toArray 145)).alloc (.cells Z.toArray 221)).alloc (.cells Z.toArray 221)):=⟨_,rfl⟩;rw [←hG,←hW0] at S0;rw [←hR,←hW0] at R0;rw [←hW0] at O0;rw [←hG,←hR,←hW0];have HG:Hid (w.heap.size≤G∧w.heap.size≤R∧R≠G):=⟨by omega,by omega,by omega⟩;clear hG hR hW0 hzv
 go_loopw [8] (fun i wr=>∃j:Nat,j≤64∧i=.int .i64 j∧Blk wr G 221 (wl (wpart p j))∧Blk wr R 221 Z∧Only (fun _=>False) w wr) (fun i _=>64 - (intOf i).toNat)
 case atStart=>exact ⟨0,by omega,rfl,S0.out,R0.out,O0.out⟩
 case round =>
  obtain ⟨j,hj,rfl,hS,hR,hO⟩:=hrel;clear S0 R0 O0
  by_cases hlt:j<64
  ·obtain ⟨y,hy⟩:∃y,y=p.getD j 0:=⟨_,rfl⟩
   obtain ⟨a,ha⟩:∃a,a=accw p (j / 4) (j % 4):=⟨_,rfl⟩;have hix:=HX.out j hlt;have hyr:=H8.out.at j;rw [←hy] at hix hyr;obtain ⟨y0,y1⟩:=hyr
   have hcell:wr.cell? ⟨G,j / 4,none⟩=some (.int .u32 (a:Int)):=by
    rw [hS.cell,wl_at _ _ (by rw [QnG];omega),QkL p j hlt,←ha]
   have hfr:wr.frozen? ⟨G,j / 4,none⟩=false:=hS.froz _
   have hal:a<16777216:=by
    have h1:=QnF p H8.out (j / 4) (j % 4);rw [←ha] at h1;have h2:256^(j % 4)≤256^3:=Nat.pow_le_pow_right (by decide) (by omega)
    have h3:256^3=16777216:=by decide
    omega
   have i0:(0:Int)≤(j:Int):=by omega
   have i1:(j:Int)<64:=by omega
   have hor:=Quy a y hal y0 y1;obtain ⟨q,hq⟩:∃q:Nat,q=a*256+y.toNat:=⟨_,rfl⟩;rw [←hq] at hor
   have N1:Hid (Blk (wr.setCell ⟨G,j / 4,none⟩ (.int .u32 (q:Int))) G 221 (wl (wpart p (j+1)))):=by
    have:=hS.set (j / 4) (.int .u32 (q:Int));rw [QcN] at this;rw [QkM p j hlt,←ha,←hy,←hq];exact this
   have hON:=(Only.refl (fun k=>k=G) wr).setCell (p:=⟨G,j / 4,none⟩) (fun _=>rfl) (.int .u32 (q:Int));have N2:=Qaa (hR.keep hON HG.out.2.2);have N3:=Qaa (hO.trans hON (fun i hi e=>by have:=HG.out.1;omega));clear ha hy hS hR hO hON hq;go_wp2
   go_roundw
   case rel=>exact ⟨j+1,by omega,by go_num,N1.out,N2.out,N3.out⟩
   case measure=>simp [intOf];omega
  ·obtain rfl:j=64:=by omega
   have S1:Hid (Blk wr G 221 (wl (wv p 16++List.replicate 48 0))):=by
    show _
    rw [QnH] at hS;exact hS
   have R1:=Qaa hR;have O1:=Qaa hO;obtain ⟨W1,hW1⟩:∃W1,W1=wr:=⟨_,rfl⟩;subst hW1;clear hS hR hO HX HSZ;go_wp2
   go_loopw [6] (fun i wr=>∃t:Nat,16≤t∧t≤64∧i=.int .i64 t∧Blk wr G 221 (wl (wv p t++List.replicate (64 - t) 0))∧Blk wr R 221 Z∧Only (fun _=>False) w wr) (fun i _=>64 - (intOf i).toNat)
   case atStart=>exact ⟨16,by omega,by omega,rfl,S1.out,R1.out,O1.out⟩
   case round =>
    obtain ⟨t,ht,ht2,rfl,hS,hR,hO⟩:=hrel;clear S1 R1 O1
    by_cases hlt:t<64
    ·have hvl:=QnI p t ht
     have hv32:W32 (wv p t):=by
      have:=QnJ p H8.out (t - 16)
      rwa [show 16+(t - 16)=t by omega] at this
     have hcell:∀k,k<t→wr.cell? ⟨G,k,none⟩=some (.int .u32 (((wv p t).getD k 0:Nat):Int)):=fun k hk=>by
      rw [hS.cell,wl_at _ _ (by simp;omega),QnK _ _ _ (by omega)]
     have hnx:=QjM (wv p t) t hvl;obtain ⟨a2,e2⟩:∃a,a=(wv p t).getD (t - 2) 0:=⟨_,rfl⟩;obtain ⟨a7,e7⟩:∃a,a=(wv p t).getD (t - 7) 0:=⟨_,rfl⟩;obtain ⟨a15,e15⟩:∃a,a=(wv p t).getD (t - 15) 0:=⟨_,rfl⟩;obtain ⟨a16,e16⟩:∃a,a=(wv p t).getD (t - 16) 0:=⟨_,rfl⟩;have c2:=hcell (t - 2) (by omega);have c7:=hcell (t - 7) (by omega);have c15:=hcell (t - 15) (by omega);have c16:=hcell (t - 16) (by omega);have b2:=hv32.at (t - 2);have b15:=hv32.at (t - 15);rw [←e2] at c2 b2;rw [←e7] at c7;rw [←e15] at c15 b15;rw [←e16] at c16;rw [←e2,←e7,←e15,←e16] at hnx;have hfr:wr.frozen? ⟨G,t,none⟩=false:=hS.froz _
     have hct:∃v,wr.cell? ⟨G,t,none⟩=some v:=by
      rw [hS.cell];exact ⟨_,Yaf (by rw [Qaw];simp;omega)⟩
     obtain ⟨vt,hct⟩:=hct
     have i2:(0:Int)≤(t:Int) - 16:=by omega
     have i3:(t:Int)<64:=by omega
     have b1:=Qaa b2;have b3:=Qaa b15;have HNX:=Qaa hnx;obtain ⟨V,hV⟩:∃V,V=IntKind.u32.wrap (IntKind.u32.wrap (IntKind.u32.wrap (((sg1 a2:Nat):Int)+a7)+((sg0 a15:Nat):Int))+a16):=⟨_,rfl⟩
     have HV:V=((nextw (wv p t):Nat):Int):=by rw [hV,sum4,hnx]
     have N1:Hid (Blk (wr.setCell ⟨G,t,none⟩ (.int .u32 V)).drew G 221 (wl (wv p (t+1)++List.replicate (64 - (t+1)) 0))):=by
      have:=hS.set t (.int .u32 V);rw [HV,QcN,Qp9 _ t _ hvl hlt,←QiA p t ht,←HV] at this;exact this.drew
     have hON:=(Only.refl (fun k=>k=G) wr).setCell (p:=⟨G,t,none⟩) (fun _=>rfl) (.int .u32 V);have N2:=Qaa (hR.keep hON.drew HG.out.2.2);have N3:=Qaa (hO.trans hON.drew (fun i hi e=>by have:=HG.out.1;omega));rw [hV] at N1 N2 N3;clear HV hON hV HNX V;clear e2 e7 e15 e16 hcell hvl hv32 hnx hS hR hO b2 b15;obtain ⟨k2,f2⟩:∃k,k=t - 2:=⟨_,rfl⟩;obtain ⟨k7,f7⟩:∃k,k=t - 7:=⟨_,rfl⟩;obtain ⟨k15,f15⟩:∃k,k=t - 15:=⟨_,rfl⟩;obtain ⟨k16,f16⟩:∃k,k=t - 16:=⟨_,rfl⟩;rw [←f2] at c2;rw [←f7] at c7;rw [←f15] at c15;rw [←f16] at c16
     have m2:(k2:Int)<64:=by omega
     have n2:¬t=k2:=by omega
     have o2:¬k2=t:=by omega
     have m7:(k7:Int)<64:=by omega
     have n7:¬t=k7:=by omega
     have o7:¬k7=t:=by omega
     have m15:(k15:Int)<64:=by omega
     have n15:¬t=k15:=by omega
     have o15:¬k15=t:=by omega
     have m16:(k16:Int)<64:=by omega
     have n16:¬t=k16:=by omega
     have o16:¬k16=t:=by omega
     have g2:(t:Int) - 2=(k2:Int):=by omega
     have g7:(t:Int) - 7=(k7:Int):=by omega
     have g15:(t:Int) - 15=(k15:Int):=by omega
     have g16:(t:Int) - 16=(k16:Int):=by omega
     have r2:IntKind.i64.wrap (k2:Int)=(k2:Int):=by rw [IntKind.wrap_i64];omega
     have r7:IntKind.i64.wrap (k7:Int)=(k7:Int):=by rw [IntKind.wrap_i64];omega
     have r15:IntKind.i64.wrap (k15:Int)=(k15:Int):=by rw [IntKind.wrap_i64];omega
     have r16:IntKind.i64.wrap (k16:Int)=(k16:Int):=by rw [IntKind.wrap_i64];omega
     clear f2 f7 f15 f16 i2;go_wp2;go_region_held3 (fun W=>W.cell? ⟨G,k2,none⟩=some (Value.int .u32 a2)∧W.cell? ⟨G,k7,none⟩=some (Value.int .u32 a7)∧W.cell? ⟨G,k15,none⟩=some (Value.int .u32 a15)∧W.cell? ⟨G,k16,none⟩=some (Value.int .u32 a16)) (simp [*,Qn8]) (first|(go_at_call 203;refine (QsQ a2 _ b1.out).mono ?_;rintro e w2 ⟨rfl,rfl⟩)|(go_at_call 204;refine (QsP a15 _ b3.out).mono ?_;rintro e w2 ⟨rfl,rfl⟩));go_wp2
     go_roundw
     case rel=>((repeat apply Exists.intro);exact ⟨⟨t+1,by omega,by omega,by go_num,N1.out,N2.out,N3.out⟩,rfl⟩)
     case measure=>simp [intOf];omega
    ·obtain rfl:t=64:=by omega
     have S2:Hid (Blk wr G 221 (wl (wds p))):=by
      show _
      rw [Qq4,Nat.sub_self,List.replicate_zero,List.append_nil] at hS;exact hS
     have R2:=Qaa hR;have O2:=Qaa hO;rw [HD.out] at S2;clear hS hR hO;go_wp2_with (first|(refine wpList_load_row rfl 221 (.tmp 3) rfl G rfl 221 D.toArray (0,0) _ S2.out underlying221 rfl HZ1.out ?_)|(refine wpList_store_row rfl 221 (.tmp 2) (.tmp 51) rfl R D.toArray rfl rfl 221 Z.toArray R2.out HZ1.out HZ2.out HA.out ?_));refine bodyPost_ret (v:=.agg D.toArray) (results_cell_row rfl _ _ R 221 D.toArray (0,0) _ rfl (R2.out.row D) underlying221 rfl HZ1.out) rfl ⟨rfl,?_⟩;exact O2.out.setRow (fun h=>absurd h (by have:=HG.out.2.1;omega)) _
theorem QsY (s:List Nat) (k w:Nat) (h:W32 s):W32 (rnd s k w):=by
 intro x hx;simp only [rnd,List.mem_cons,List.not_mem_nil,or_false] at hx
 rcases hx with rfl | rfl | rfl | rfl | rfl | rfl | rfl | rfl
 ·exact Nat.mod_lt _ (by decide)
 ·exact h.at 0
 ·exact h.at 1
 ·exact h.at 2
 ·exact Nat.mod_lt _ (by decide)
 ·exact h.at 4
 ·exact h.at 5
 ·exact h.at 6
theorem QjJ (s:List Nat) (w:List Nat) (h:W32 s) (t:Nat):W32 (rnds s w t):=by
 induction t with
 | zero=>exact h
 | succ t ih=>rw [QeM];exact QsY _ _ _ ih
theorem Qnz:W32 shH:=by unfold W32 shH;decide
theorem QjK (s:List Nat) (b:List Int):W32 (thru s b):=QsW s b
theorem QnA (p:List Int) (k:Nat):W32 (thrus shH p k):=by
 cases k with
 | zero=>exact Qnz
 | succ k=>rw [Qbu];exact QjK _ _
theorem Qq3 (e f g:Nat) (he:e<4294967296) (hf:f<4294967296) (hg:g<4294967296) :
  bits .xor .u32 (bits .and .u32 (e:Int) (f:Int)) (bits .and .u32 ((4294967295 - e:Nat):Int) (g:Int))=((chw e f g:Nat):Int):=by
 rw [u32_and_nat _ _ he hf,u32_and_nat _ _ (by omega) hg,u32_xor_nat _ _ (QcY _ he) (QcY _ (by omega))];rfl
theorem QnB (a b c:Nat) (ha:a<4294967296) (hb:b<4294967296) (hc:c<4294967296) :
  bits .xor .u32 (bits .xor .u32 (bits .and .u32 (a:Int) (b:Int)) (bits .and .u32 (a:Int) (c:Int))) (bits .and .u32 (b:Int) (c:Int))=((majw a b c:Nat):Int):=by
 rw [u32_and_nat _ _ ha hb,u32_and_nat _ _ ha hc,u32_and_nat _ _ hb hc,u32_xor_nat _ _ (QcY _ ha) (QcY _ ha),u32_xor_nat _ _ (Qdq (QcY _ ha) (QcY _ ha)) (QcY _ hb)];rfl
def t1w (s:List Nat) (k w:Nat):Nat:=(s.getD 7 0+Sg1 (s.getD 4 0)+chw (s.getD 4 0) (s.getD 5 0) (s.getD 6 0)+k+w) % 4294967296
def t2w (s:List Nat):Nat:=(Sg0 (s.getD 0 0)+majw (s.getD 0 0) (s.getD 1 0) (s.getD 2 0)) % 4294967296
theorem rnd_t (s:List Nat) (k w:Nat):rnd s k w=[(t1w s k w+t2w s) % 4294967296,s.getD 0 0,s.getD 1 0,s.getD 2 0,(s.getD 3 0+t1w s k w) % 4294967296,s.getD 4 0,s.getD 5 0,s.getD 6 0]:=by
 unfold rnd t1w t2w
 congr 1
 ·omega
 ·congr 4
  omega
theorem sum5 (a b c d e:Nat):IntKind.u32.wrap (IntKind.u32.wrap (IntKind.u32.wrap (IntKind.u32.wrap ((a:Int)+b)+c)+d)+e)=(((a+b+c+d+e) % 4294967296:Nat):Int):=by
 rw [IntKind.wrap_u32',IntKind.wrap_u32',IntKind.wrap_u32',IntKind.wrap_u32'];omega
theorem sum2 (a b:Nat):IntKind.u32.wrap ((a:Int)+b)=(((a+b) % 4294967296:Nat):Int):=by
 rw [IntKind.wrap_u32'];omega
theorem getD8 (s:List Nat) (h:s.length=8):s=[s.getD 0 0,s.getD 1 0,s.getD 2 0,s.getD 3 0,s.getD 4 0,s.getD 5 0,s.getD 6 0,s.getD 7 0]:=by
 match s,h with
 | [a,b,c,d,e,f,g,h],_=>rfl
def addp (s r:List Nat) (i:Nat):List Nat:=(List.range 8).map fun k=>if k<i then (s.getD k 0+r.getD k 0) % 4294967296 else s.getD k 0
theorem Qp1 (s r:List Nat) (i:Nat):(addp s r i).length=8:=by simp [addp]
theorem QnC (s r:List Nat) (h:s.length=8):addp s r 0=s:=by
 have:List.range 8=[0,1,2,3,4,5,6,7]:=rfl;rw [getD8 s h];unfold addp;rw [this]
 rfl
theorem Qp2 (s:List Nat) (b:List Int):addp s (rnds s (wds b) 64) 8=thru s b:=by
 unfold addp thru
 apply List.map_congr_left
 intro k hk;rw [if_pos (List.mem_range.1 hk)]
theorem QsZ (s r:List Nat) (i:Nat) (hi:i<8):(addp s r i).getD i 0=s.getD i 0:=by
 simp [addp,List.getD_eq_getElem?_getD,hi]
theorem QnD (s r:List Nat) (i:Nat) (_hi:i<8):addp s r (i+1)=(addp s r i).set i ((s.getD i 0+r.getD i 0) % 4294967296):=by
 apply List.ext_getElem
 ·simp [addp]
 ·intro k h1 h2
  rw [List.getElem_set]
  by_cases e:i=k
  ·subst e;simp [addp]
  ·rw [if_neg e]
   simp only [addp,List.getElem_map,List.getElem_range]
   by_cases h:k<i
   ·rw [if_pos h,if_pos (by omega)]
   ·rw [if_neg h,if_neg (by omega)]
def z8:List Value:=wl (List.replicate 8 0)
theorem Tryz.zero30:(prog.info? 144).map (fun i=>(i.zero,i.size))=some (some (.agg z8.toArray),8):=by kernel_rfl
structure Tw (w:World) (N M R:Nat) (s W:List Nat) (wr:World):Prop where
 st:Blk wr N 144 (wl s)
 ws:Blk wr M 221 (wl W)
 rs:Blk wr R 144 z8
 on:Only (fun _=>False) w wr
theorem Tw.past {w:World} {N M R:Nat} {s W:List Nat} {wr wr':World} (h:Tw w N M R s W wr) (o:Only (fun _=>False) wr wr'):Tw w N M R s W wr' :=
 ⟨h.st.past o,h.ws.past o,h.rs.past o,h.on.same o⟩
theorem QjO (e:Nat) (he:e<4294967296):bits .xor .u32 4294967295 (e:Int)=((4294967295 - e:Nat):Int):=by
 have:=u32_xor_nat 4294967295 e (by decide) he;rw [show ((4294967295:Nat):Int)=4294967295 from rfl] at this;rw [this]
 congr 1
 apply Nat.eq_of_testBit_eq
 intro i;rw [show 4294967295 - e=2^32 - (e+1) by omega,Nat.testBit_two_pow_sub_succ he,Nat.testBit_xor,show 4294967295=2^32 - 1 from rfl,Nat.testBit_two_pow_sub_one]
 by_cases hi:i<32
 ·simp [hi]
 ·have:e.testBit i=false:=Nat.testBit_lt_two_pow (Nat.lt_of_lt_of_le he (show 2^32≤2^i from Nat.pow_le_pow_right (by decide) (by omega)))
  simp [hi,this]
theorem QeR (s:List Nat) (p:List Int) (hs:s.length=8) (hw:W32 s) (hp:p.length=64) (h8:U8 p) (w:World) :
  Calls prog 152 #[.agg (wl s).toArray,.agg (bl p).toArray] w fun e w'=>e=.returned (.agg (wl (thru s p)).toArray)∧Only (fun _=>False) w w':=by
 have hsz:(prog.info? 145).map (·.size)=some (bl p).toArray.size:=by simp [Qal,hp,Tryz.size31]
 have HSZ:=Qaa hsz;have RW:=Qaa (Qe1 p hp h8);have HWL:=Qaa (QdF p);have HW:=Qaa (Qs4 p h8);have HS:=Qaa (And.intro hs hw);have hzv:=(zero_of_info (P:=prog) Tryz.zero30).1;have hzk:=(zero_of_info (P:=prog) Tryz.zero52).1;obtain ⟨B,hB⟩:∃B,B=bl p:=⟨_,rfl⟩;obtain ⟨Z,hZ⟩:∃Z,Z=zK:=⟨_,rfl⟩;obtain ⟨Y,hY⟩:∃Y,Y=z8:=⟨_,rfl⟩;obtain ⟨D,hD⟩:∃D,D=wl (wds p):=⟨_,rfl⟩;obtain ⟨S,hS⟩:∃S,S=wl s:=⟨_,rfl⟩;obtain ⟨T,hT⟩:∃T,T=wl (thru s p):=⟨_,rfl⟩
 have hz1:(prog.info? 221).map (·.size)=some (wl (wds p)).toArray.size:=by simp [Qaw,QdF,Tryz.size52]
 have hz2:zK.toArray.size=(wl (wds p)).toArray.size:=by simp [Qaw,QdF,zK]
 have HA:=Qaa (Qb8 (wds p));have HZ1:=Qaa hz1;have HZ2:=Qaa hz2;rw [←hZ] at hzk HZ2;rw [←hY] at hzv;rw [←hB] at HSZ RW ⊢;rw [←hD] at HZ1 HZ2 HA RW;rw [←hS,←hT];have HD:=Qaa hD;have HY:=Qaa hY;have HSS:=Qaa hS;have HTT:=Qaa hT;clear hsz hz1 hz2 hB hZ hY hD hS hT hs hw hp h8;go_enter func152,ntmps152;go_wp2_with (first|(refine wpList_load_row rfl 145 (.tmp 3) rfl (w.heap.size+1) rfl 145 B.toArray (0,0) _ (Blk.alloc (by have:=Blk.new (w.alloc (.cells S.toArray 144)) 145 B;rw [size_alloc] at this;exact this) _) underlying145 rfl HSZ.out ?_) | fail);refine (RW.out _).mono ?_;rintro e w1 ⟨rfl,on1⟩;have q1:Blk w1 w.heap.size 144 S:=(((Blk.new w 144 S).alloc (.cells B.toArray 145)).alloc (.cells Y.toArray 144)).past on1
 have q2:Blk w1 (w.heap.size+1+1) 144 Y:=by
  have:=Blk.new ((w.alloc (.cells S.toArray 144)).alloc (.cells B.toArray 145)) 144 Y;rw [size_alloc,size_alloc] at this;exact this.past on1
 have q3:Only (fun _=>False) w w1:=((((Only.refl _ _).alloc _).alloc _).alloc _).same on1;have q4:w.heap.size+1+1<w1.heap.size:=q2.lt;have q5:Only (fun _=>False) w1 ((w1.alloc (.cells Z.toArray 221)).setRow w1.heap.size D.toArray):=((Only.refl _ _).alloc _).setRow (fun h=>absurd h (Nat.lt_irrefl _)) _
 have TW:Hid (Tw w w.heap.size w1.heap.size (w.heap.size+1+1) s (wds p) ((w1.alloc (.cells Z.toArray 221)).setRow w1.heap.size D.toArray)):=by
  refine ⟨?_,?_,?_,q3.same q5⟩
  ·rw [←HSS.out];exact q1.past q5
  ·rw [←HD.out];exact (Blk.new w1 221 Z).row D
  ·rw [←HY.out];exact q2.past q5
 have HLT:Hid (w.heap.size≠w1.heap.size∧w.heap.size≠w.heap.size+1+1∧w.heap.size+1+1≠w1.heap.size∧w.heap.size≤w.heap.size+1+1):=⟨by omega,by omega,by omega,by omega⟩;clear on1 q1 q2 q3 q4 q5 RW hzv HSZ;go_wp2_with (refine wpList_store_row rfl 221 (.tmp 5) (.tmp 21) rfl w1.heap.size D.toArray rfl rfl 221 Z.toArray (Blk.new w1 221 Z) HZ1.out HZ2.out HA.out ?_);obtain ⟨M,hM⟩:∃M,M=w1.heap.size:=⟨_,rfl⟩;obtain ⟨R,hR⟩:∃R,R=w.heap.size+1+1:=⟨_,rfl⟩;obtain ⟨N,hN⟩:∃N,N=w.heap.size:=⟨_,rfl⟩;obtain ⟨W2,hW2⟩:∃W2,W2=((w1.alloc (.cells Z.toArray 221)).setRow w1.heap.size D.toArray):=⟨_,rfl⟩;rw [←hW2,←hM,←hR] at TW;rw [←hM,←hR] at HLT;rw [←hN] at TW HLT;rw [←hW2,←hM,←hR,←hN];have HN:=Qaa hN;clear hM hR hN hW2 hzk HA HZ1 HZ2;obtain ⟨x0,hx0⟩:∃x,x=s.getD 0 0:=⟨_,rfl⟩
 have c0:W2.cell? ⟨N,0,none⟩=some (.int .u32 (x0:Int)):=by
  rw [TW.out.st.cell,wl_at _ _ (by rw [HS.out.1];decide),←hx0]
 have HX0:=Qaa hx0;clear hx0;obtain ⟨x1,hx1⟩:∃x,x=s.getD 1 0:=⟨_,rfl⟩
 have c1:W2.cell? ⟨N,1,none⟩=some (.int .u32 (x1:Int)):=by
  rw [TW.out.st.cell,wl_at _ _ (by rw [HS.out.1];decide),←hx1]
 have HX1:=Qaa hx1;clear hx1;obtain ⟨x2,hx2⟩:∃x,x=s.getD 2 0:=⟨_,rfl⟩
 have c2:W2.cell? ⟨N,2,none⟩=some (.int .u32 (x2:Int)):=by
  rw [TW.out.st.cell,wl_at _ _ (by rw [HS.out.1];decide),←hx2]
 have HX2:=Qaa hx2;clear hx2;obtain ⟨x3,hx3⟩:∃x,x=s.getD 3 0:=⟨_,rfl⟩
 have c3:W2.cell? ⟨N,3,none⟩=some (.int .u32 (x3:Int)):=by
  rw [TW.out.st.cell,wl_at _ _ (by rw [HS.out.1];decide),←hx3]
 have HX3:=Qaa hx3;clear hx3;obtain ⟨x4,hx4⟩:∃x,x=s.getD 4 0:=⟨_,rfl⟩
 have c4:W2.cell? ⟨N,4,none⟩=some (.int .u32 (x4:Int)):=by
  rw [TW.out.st.cell,wl_at _ _ (by rw [HS.out.1];decide),←hx4]
 have HX4:=Qaa hx4;clear hx4;obtain ⟨x5,hx5⟩:∃x,x=s.getD 5 0:=⟨_,rfl⟩
 have c5:W2.cell? ⟨N,5,none⟩=some (.int .u32 (x5:Int)):=by
  rw [TW.out.st.cell,wl_at _ _ (by rw [HS.out.1];decide),←hx5]
 have HX5:=Qaa hx5;clear hx5;obtain ⟨x6,hx6⟩:∃x,x=s.getD 6 0:=⟨_,rfl⟩
 have c6:W2.cell? ⟨N,6,none⟩=some (.int .u32 (x6:Int)):=by
  rw [TW.out.st.cell,wl_at _ _ (by rw [HS.out.1];decide),←hx6]
 have HX6:=Qaa hx6;clear hx6;obtain ⟨x7,hx7⟩:∃x,x=s.getD 7 0:=⟨_,rfl⟩
 have c7:W2.cell? ⟨N,7,none⟩=some (.int .u32 (x7:Int)):=by
  rw [TW.out.st.cell,wl_at _ _ (by rw [HS.out.1];decide),←hx7]
 have HX7:=Qaa hx7;clear hx7;go_quiet (fail);go_wp2;go_quiet (fail);go_wp2_with fail;refine (Qfv _).mono ?_;rintro e w3 ⟨rfl,on3⟩;have TW3:=Qaa (TW.out.past (((Only.refl (fun _=>False) W2).drewN _).same on3));clear on3 TW c0 c1 c2 c3 c4 c5 c6 c7;have IXK:=Qaa (QtD shK rfl);obtain ⟨KK,hKK⟩:∃KK,KK=wl shK:=⟨_,rfl⟩;rw [←hKK] at IXK ⊢;clear hKK;go_wp2
 have HXX:Hid ([x0,x1,x2,x3,x4,x5,x6,x7]=s):=by
  show _=_
  rw [HX0.out,HX1.out,HX2.out,HX3.out,HX4.out,HX5.out,HX6.out,HX7.out];exact (getD8 s HS.out.1).symm
 clear HX0 HX1 HX2 HX3 HX4 HX5 HX6 HX7
 go_loopw [39,6,7,8,9,10,11,12,13] (fun i a b c d e f g h wr=>∃(t y0 y1 y2 y3 y4 y5 y6 y7:Nat),t≤64∧[y0,y1,y2,y3,y4,y5,y6,y7]=rnds s (wds p) t∧i=.int .i64 t∧a=.int .u32 y0∧b=.int .u32 y1∧c=.int .u32 y2∧d=.int .u32 y3∧e=.int .u32 y4∧f=.int .u32 y5∧g=.int .u32 y6∧h=.int .u32 y7∧Tw w N M R s (wds p) wr) (fun i _ _ _ _ _ _ _ _ _=>64 - (intOf i).toNat)
 case atStart =>
  exact ⟨0,x0,x1,x2,x3,x4,x5,x6,x7,by omega,HXX.out,rfl,rfl,rfl,rfl,rfl,rfl,rfl,rfl,rfl,TW3.out⟩
 case round =>
  obtain ⟨t,y0,y1,y2,y3,y4,y5,y6,y7,ht,hr,rfl,rfl,rfl,rfl,rfl,rfl,rfl,rfl,rfl,twr⟩:=hrel;have HR:=Qaa hr;clear hr TW3 HXX
  by_cases hlt:t<64
  ·have hw32:W32 [y0,y1,y2,y3,y4,y5,y6,y7]:=by rw [HR.out];exact QjJ _ _ HS.out.2 _
   have b0:=hw32.at 0;have b1:=hw32.at 1;have b2:=hw32.at 2;have b4:=hw32.at 4;have b5:=hw32.at 5;have b6:=hw32.at 6
   change y0 < _ at b0
   change y1 < _ at b1
   change y2 < _ at b2
   change y4 < _ at b4
   change y5 < _ at b5
   change y6 < _ at b6
   obtain ⟨k,hk⟩:∃k,k=shK.getD t 0:=⟨_,rfl⟩;obtain ⟨x,hx⟩:∃x,x=(wds p).getD t 0:=⟨_,rfl⟩;have hix:=IXK.out t hlt
   have hcx:wr.cell? ⟨M,t,none⟩=some (.int .u32 (x:Int)):=by
    rw [twr.ws.cell,wl_at _ _ (by rw [HWL.out];exact hlt),←hx]
   rw [←hk] at hix
   have i0:(0:Int)≤(t:Int):=by omega
   have i1:(t:Int)<64:=by omega
   have hnx:rnds s (wds p) (t+1)=rnd [y0,y1,y2,y3,y4,y5,y6,y7] k x:=by rw [QeM,←HR.out,←hk,←hx]
   rw [rnd_t] at hnx;have TWR:=Qaa twr;obtain ⟨ny,hny⟩:∃ny,ny=4294967295 - y4:=⟨_,rfl⟩;have hs1:IntKind.u32.signed=false:=rfl;have hs2:IntKind.u32.max=4294967295:=rfl
   have hs3:bits .xor .u32 4294967295 (y4:Int)=(ny:Int):=by rw [QjO y4 b4,hny]
   obtain ⟨ch,hch⟩:∃ch,ch=chw y4 y5 y6:=⟨_,rfl⟩;obtain ⟨mj,hmj⟩:∃mj,mj=majw y0 y1 y2:=⟨_,rfl⟩;obtain ⟨g1,hg1⟩:∃g1,g1=Sg1 y4:=⟨_,rfl⟩;obtain ⟨g0,hg0⟩:∃g0,g0=Sg0 y0:=⟨_,rfl⟩;obtain ⟨T1,hT1⟩:∃T1,T1=(y7+g1+ch+k+x) % 4294967296:=⟨_,rfl⟩;obtain ⟨T2,hT2⟩:∃T2,T2=(g0+mj) % 4294967296:=⟨_,rfl⟩;obtain ⟨n0,hn0⟩:∃n0,n0=(T1+T2) % 4294967296:=⟨_,rfl⟩;obtain ⟨n4,hn4⟩:∃n4,n4=(y3+T1) % 4294967296:=⟨_,rfl⟩
   have NX:Hid (rnds s (wds p) (t+1)=[n0,y0,y1,y2,n4,y4,y5,y6]):=by
    show _=_
    rw [hnx];simp only [t1w,t2w,List.getD_cons_zero,List.getD_cons_succ];rw [←hch,←hmj,←hg1,←hg0,←hT1,←hT2,←hn0,←hn4]
   have S1:=Qaa (QsS y4 · b4);have S0:=Qaa (QsR y0 · b0);rw [←hg1] at S1;rw [←hg0] at S0
   have p1:bits .xor .u32 (bits .and .u32 (y4:Int) (y5:Int)) (bits .and .u32 (ny:Int) (y6:Int))=(ch:Int):=by rw [hny,hch,Qq3 y4 y5 y6 b4 b5 b6]
   have p2:bits .xor .u32 (bits .xor .u32 (bits .and .u32 (y0:Int) (y1:Int)) (bits .and .u32 (y0:Int) (y2:Int))) (bits .and .u32 (y1:Int) (y2:Int))=(mj:Int):=by rw [hmj,QnB y0 y1 y2 b0 b1 b2]
   have p3:IntKind.u32.wrap (IntKind.u32.wrap (IntKind.u32.wrap (IntKind.u32.wrap ((y7:Int)+g1)+ch)+k)+x)=(T1:Int):=by rw [sum5,hT1]
   have p4:IntKind.u32.wrap ((g0:Int)+mj)=(T2:Int):=by rw [sum2,hT2]
   have p5:IntKind.u32.wrap ((T1:Int)+T2)=(n0:Int):=by rw [sum2,hn0]
   have p6:IntKind.u32.wrap ((y3:Int)+T1)=(n4:Int):=by rw [sum2,hn4]
   have p7:((g0:Int)+mj) % 4294967296=(T2:Int):=by rw [hT2];omega
   have p8:((T1:Int)+T2) % 4294967296=(n0:Int):=by rw [hn0];omega
   have p9:((y3:Int)+T1) % 4294967296=(n4:Int):=by rw [hn4];omega
   have TWR:=Qaa twr;clear hny hch hmj hg1 hg0 hT1 hT2 hn0 hn4 hk hx hw32 hnx b0 b1 b2 b4 b5 b6 twr;go_wp2;go_region_held3 (fun W=>W.cell? ⟨M,t,none⟩=some (Value.int .u32 x)) (go_keep) (first|(go_at_call 174;refine (S1.out _).mono ?_;rintro e w2 ⟨rfl,rfl⟩));go_wp2_with fail;refine (S0.out _).mono ?_;rintro e w2 ⟨rfl,rfl⟩;go_wp2
   go_roundw
   case rel=>exact ⟨t+1,n0,y0,y1,y2,n4,y4,y5,y6,by omega,NX.out.symm,by go_num,rfl,rfl,rfl,rfl,rfl,rfl,rfl,rfl,TWR.out.past (Only.refl _ _).drew⟩
   case measure=>simp [intOf];omega
  ·obtain rfl:t=64:=by omega
   have HB:Hid (prog.built 144 [(0,.int .u32 (y0:Int)),(1,.int .u32 (y1:Int)),(2,.int .u32 (y2:Int)),(3,.int .u32 (y3:Int)),(4,.int .u32 (y4:Int)),(5,.int .u32 (y5:Int)),(6,.int .u32 (y6:Int)),(7,.int .u32 (y7:Int))]=some (wl [y0,y1,y2,y3,y4,y5,y6,y7]).toArray):=by
    show _=_
    kernel_rfl
   have IX8:=Qaa (ix_w8 [y0,y1,y2,y3,y4,y5,y6,y7] rfl);obtain ⟨r,hr⟩:∃r,r=[y0,y1,y2,y3,y4,y5,y6,y7]:=⟨_,rfl⟩;rw [←hr] at HB IX8 HR;obtain ⟨C,hC⟩:∃C,C=(wl r).toArray:=⟨_,rfl⟩;rw [←hC] at HB IX8
   have TW0:Hid (Tw w N M R (addp s r 0) (wds p) wr):=by
    show _
    rw [QnC s r HS.out.1];exact twr
   obtain ⟨W4,hW4⟩:∃W4,W4=wr:=⟨_,rfl⟩;subst hW4;clear hr hC twr IXK;go_wp2_with (refine Qax rfl 144 _ rfl C (Eq.trans (congrArg (prog.built 144) (by kernel_rfl)) HB.out) ?_)
   go_loopw [98] (fun i wr=>∃j:Nat,j≤8∧i=.int .i64 j∧Tw w N M R (addp s r j) (wds p) wr) (fun i _=>8 - (intOf i).toNat)
   case atStart=>exact ⟨0,by omega,rfl,TW0.out⟩
   case round =>
    obtain ⟨j,hj,rfl,twr⟩:=hrel;clear TW0
    by_cases hlt:j<8
    ·obtain ⟨a,ha⟩:∃a,a=s.getD j 0:=⟨_,rfl⟩
     obtain ⟨b,hb⟩:∃b,b=r.getD j 0:=⟨_,rfl⟩;have hix:=IX8.out j hlt;rw [←hb] at hix
     have hc:wr.cell? ⟨N,j,none⟩=some (.int .u32 (a:Int)):=by
      rw [twr.st.cell,wl_at _ _ (by rw [Qp1];exact hlt),QsZ _ _ _ hlt,←ha]
     have hf:wr.frozen? ⟨N,j,none⟩=false:=twr.st.froz _;obtain ⟨q,hq⟩:∃q,q=(a+b) % 4294967296:=⟨_,rfl⟩
     have p1:IntKind.u32.wrap ((a:Int)+b)=(q:Int):=by rw [sum2,hq]
     have p2:((a:Int)+b) % 4294967296=(q:Int):=by rw [hq];omega
     have hON:=(Only.refl (fun k=>k=N) wr).setCell (p:=⟨N,j,none⟩) (fun _=>rfl) (.int .u32 (q:Int))
     have TN:Hid (Tw w N M R (addp s r (j+1)) (wds p) (wr.setCell ⟨N,j,none⟩ (.int .u32 (q:Int)))):=by
      refine ⟨?_,twr.ws.keep hON (fun e=>HLT.out.1 e.symm),twr.rs.keep hON (fun e=>HLT.out.2.1 e.symm),twr.on.trans hON (fun i hi e=>by have:=HN.out;omega)⟩;have:=twr.st.set j (.int .u32 (q:Int));rw [QcN] at this;rw [QnD _ _ _ hlt,←ha,←hb,←hq];exact this
     have i0:(0:Int)≤(j:Int):=by omega
     have i1:(j:Int)<8:=by omega
     clear ha hb hq twr hON;go_wp2
     go_roundw
     case rel=>exact ⟨j+1,by omega,by go_num,TN.out⟩
     case measure=>simp [intOf];omega
    ·obtain rfl:j=8:=by omega
     have S2:Hid (Blk wr N 144 T):=by
      show _
      have:=twr.st;rw [HR.out,Qp2,←HTT.out] at this;exact this
     have R2:=Qaa twr.rs;have O2:=Qaa twr.on
     have HZ1:Hid ((prog.info? 144).map (·.size)=some T.toArray.size):=by
      show _=_
      rw [HTT.out,Tryz.size30];simp [Qaw,QcH]
     have HZ2:Hid (z8.toArray.size=T.toArray.size):=by
      show _=_
      rw [HTT.out];simp [Qaw,QcH,z8]
     have HA:Hid (T.toArray.all (·.oneCell')=true):=by
      show _=_
      rw [HTT.out];exact Qb8 _
     clear twr;go_wp2_with (first|(refine wpList_load_row rfl 144 (.tmp 2) rfl N rfl 144 T.toArray (0,0) _ S2.out underlying144 rfl HZ1.out ?_)|(refine wpList_store_row rfl 144 (.tmp 4) (.tmp 109) rfl R T.toArray rfl rfl 144 z8.toArray R2.out HZ1.out HZ2.out HA.out ?_));refine bodyPost_ret (v:=.agg T.toArray) (results_cell_row rfl _ _ R 144 T.toArray (0,0) _ rfl (R2.out.row T) underlying144 rfl HZ1.out) rfl ⟨rfl,?_⟩;exact O2.out.setRow (fun h=>absurd h (by have:=HLT.out.2.2.2;have:=HN.out;omega)) _
theorem QdM (s:List Nat) (a b:List Int):∀k,64*k≤a.length→thrus s (a++b) k=thrus s a k:=by
 intro k
 induction k with
 | zero=>intro _;rw [Qfm,Qfm]
 | succ k ih =>
  intro h;rw [Qbu,Qbu,ih (by omega),List.drop_append_of_le_length (by omega),List.take_append_of_le_length (by rw [Yai];omega)]
structure HP (st:List Nat) (pc all:List Int):Prop where
 sl:st.length=8
 pl:pc.length=64
 u8:U8 pc
 w32:W32 st
 st:st=thrus shH all (all.length / 64)
 pc:pc.take (all.length % 64)=all.drop (64*(all.length / 64))
theorem QgG {pc ys:List Int} (h:U8 pc) (k:U8 ys) (r:Nat):U8 (splice pc r ys):=(h.take r).app (k.app (h.drop _))
theorem HP.start (pc:List Int) (h:pc.length=64) (h8:U8 pc):HP shH pc []:=⟨rfl,h,h8,Qnz,rfl,rfl⟩
theorem HP.part {st:List Nat} {pc all:List Int} (h:HP st pc all) (ys:List Int) (h8:U8 ys) (hr:all.length % 64+ys.length<64):HP st (splice pc (all.length % 64) ys) (all++ys):=by
 have hl:(all++ys).length=all.length+ys.length:=Yae ..
 have hq:(all++ys).length / 64=all.length / 64:=by omega
 have hm:(all++ys).length % 64=all.length % 64+ys.length:=by omega
 refine ⟨h.sl,?_,QgG h.u8 h8 _,h.w32,?_,?_⟩
 ·rw [length_splice _ _ _ (by rw [h.pl];omega),h.pl]
 ·rw [hq,QdM _ _ _ _ (by omega)];exact h.st
 ·rw [hq,hm,List.drop_append_of_le_length (by omega),←h.pc]
  unfold splice;rw [←List.append_assoc,List.take_append_of_le_length (by rw [Yae,Yag,h.pl];omega)];exact List.take_of_length_le (by rw [Yae,Yag,h.pl];omega)
theorem HP.whole {st:List Nat} {pc all:List Int} (h:HP st pc all) (ys:List Int) (h8:U8 ys) (hr:all.length % 64+ys.length=64):HP (thru st (splice pc (all.length % 64) ys)) (splice pc (all.length % 64) ys) (all++ys):=by
 have hl:(all++ys).length=all.length+ys.length:=Yae ..
 have hq:(all++ys).length / 64=all.length / 64+1:=by omega
 have hm:(all++ys).length % 64=0:=by omega
 have hpl:(splice pc (all.length % 64) ys).length=64:=by rw [length_splice _ _ _ (by rw [h.pl];omega),h.pl]
 have e:splice pc (all.length % 64) ys=(all++ys).drop (64*(all.length / 64)):=by
  unfold splice;rw [h.pc,List.drop_append_of_le_length (by omega),List.drop_of_length_le (l:=pc) (by rw [h.pl];omega),List.append_nil]
 refine ⟨QcH _ _,hpl,QgG h.u8 h8 _,QjK _ _,?_,?_⟩
 ·rw [hq,Qbu,QdM _ _ _ _ (by omega),←e,List.take_of_length_le (by rw [hpl];omega),←h.st]
 ·rw [hq,hm,List.drop_of_length_le (by omega)];rfl
end Go.Proofs.YtnhapmboienipaaGreatDoor
