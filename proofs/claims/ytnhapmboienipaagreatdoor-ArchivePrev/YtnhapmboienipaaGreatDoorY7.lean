import Derived.Test.YtnhapmboienipaaGreatDoorY6
import Derived.Deep.RegionLaw
namespace Go.Proofs.YtnhapmboienipaaGreatDoor
set_option maxHeartbeats 800000
set_option maxRecDepth 100000
open Go.RowKit _root_.Go.Proofs.Tryz
def endS (n:Nat):List Int:=128 :: (List.replicate (zpad n) 0++be8 (8*n))
theorem Qi4 (n:Nat):(endS n).length=9+zpad n:=by simp [endS,QeL];omega
theorem Qox (b:List Int):padS b=b++endS b.length:=rfl
theorem Qrt (n:Nat):(64 - ((n:Int)+1+8) % 64) % 64=(zpad n:Int):=by unfold zpad;omega
theorem QfD (n:Nat):zpad n<64:=Nat.mod_lt _ (by decide)
theorem Qi5 (v j:Nat) (h:j<8):(be8 v).take (j+1)=(be8 v).take j++[((v / 256^(7 - j) % 256:Nat):Int)]:=by
 have hl:=QeL v;rw [List.take_add_one,Yaf (by omega)];simp [be8]
theorem QlF (v:Nat):∀y∈be8 v,0≤y∧y≤255:=by
 intro y hy;simp only [be8,List.mem_map] at hy;obtain ⟨i,_,rfl⟩:=hy;have:v / 256^(7 - i) % 256<256:=Nat.mod_lt _ (by decide);omega
theorem Qe9 (n:Nat):∀y∈endS n,0≤y∧y≤255:=by
 intro y hy;simp only [endS,List.mem_cons,List.mem_append,List.mem_replicate] at hy
 rcases hy with rfl | ⟨_,rfl⟩ | h
 ·omega
 ·omega
 ·exact QlF _ y h
theorem byte8 (n k:Nat):(n:Int)*8 / 2^(k*8) % 256=((8*n / 256^k % 256:Nat):Int):=by
 have e:(256:Nat)^k=2^(k*8):=by rw [Nat.mul_comm,Nat.pow_mul]
 rw [e,Nat.mul_comm 8 n];simp
theorem Qoy (z:Nat):((bl (List.replicate (9+z) 0)).set 0 (.int .u8 128)).take (1+z)=(128 :: (List.replicate z 0++(be8 0).take 0)).map (Value.int .u8):=by
 rw [show 9+z=(z+8)+1 by omega,List.replicate_succ,show 1+z=z+1 by omega];unfold bl;rw [List.map_cons,Yab,List.take_succ_cons,←List.map_take,List.take_replicate,show min z (z+8)=z by omega];simp
theorem Qef {w:World} {base g:Nat} {E:TypeId} {cs:List Value} {n cap:Nat} (h:Blk w g E cs) (hb:base≤g) (hn:n≤cap) (hm:cap≤maxLen) (hc:cs.length=cap) :
  w.ownsRow base E 1 (.slice (some ⟨g,0,none⟩) n cap) n (cs.take n) :=
 ⟨by simp;omega,.inr ⟨g,cap,cs.toArray,rfl,hb,h,hn,hm,by simpa using hc,by simp⟩⟩
theorem Qru (w:World) (l c:Nat) (hl:l≤c) (hc:c≤1000) :
  ∃w1,(Instr.makeSlice 22 (.int .i64 (l:Int)) (.int .i64 (c:Int))).run prog w=.ok (.slice (some ⟨w.heap.size,0,none⟩) l c) w1∧Blk w1 w.heap.size 5 (bl (List.replicate c 0))∧Only (fun _=>False) w w1:=by
 obtain ⟨i0,hi,hz0,hz1,hz2⟩:=info_parts Tryz.infoU8;have:=run_make (P:=prog) w 22 5 i0 (.int .u8 0) underlying22 hi hz0 .i64 .i64 l c (by omega) (by omega) (by rw [hz2];omega) (by omega);refine ⟨_,this,?_,(Only.refl _ _).alloc _⟩
 have e:madeCells (Value.int .u8 0).cells ((c:Int).toNat*i0.size)=(bl (List.replicate c 0)).toArray:=by
  apply Array.toList_inj.1
  rw [show (Value.int .u8 0).cells=#[.int .u8 0] from rfl,toList_madeCells_one];simp [bl,hz1]
 rw [e];exact Blk.new _ _ _
theorem Qkd (n:Nat) (hn:n≤1000000000000) (w:World):Calls prog 153 #[.int .i64 n] w fun e w'=>∃v,e=.returned v∧w'.ownsRow w.heap.size 5 1 v (9+zpad n) ((endS n).map (Value.int .u8))∧Only (fun _=>False) w w':=by
 obtain ⟨i0,hi,hz0,hz1,hz2⟩:=info_parts Tryz.infoU8;obtain ⟨z,hz⟩:∃z,z=zpad n:=⟨_,rfl⟩;have hzp:=Qrt n;have hzl:=QfD n;rw [←hz] at hzp hzl;obtain ⟨w1,hmk,hb,ho⟩:=Qru w (1+z) (9+z) (by omega) (by omega)
 have e1:((1+z:Nat):Int)=1+(z:Int):=by omega
 have e2:((9+z:Nat):Int)=1+(z:Int)+8:=by omega
 rw [e1,e2] at hmk
 have hc0:w1.cell? ⟨w.heap.size,0,none⟩=some (.int .u8 0):=by
  rw [hb.cell,bl_at _ _ (by rw [List.length_replicate];omega),show 9+z=(8+z)+1 by omega];rfl
 have hf0:w1.frozen? ⟨w.heap.size,0,none⟩=false:=hb.froz 0;have HB:=Qaa (hb.set 0 (.int .u8 128));have HO:=Qaa (ho.setCell (p:=⟨w.heap.size,0,none⟩) (fun f=>absurd f (Nat.lt_irrefl _)) (.int .u8 128));have HZ:=Qaa hz;clear hb ho hz;go_enter func153,ntmps153;go_wp2
 obtain ⟨F,hF⟩:∃F:Nat→List Value,F=fun j=>(128 :: (List.replicate z 0++(be8 (8*n)).take j)).map (Value.int .u8):=⟨_,rfl⟩
 have F0:Hid (((bl (List.replicate (9+z) 0)).set 0 (.int .u8 128)).take (1+z)=F 0):=by
  show _=_
  rw [hF,Qoy];rfl
 have F8:Hid (F 8=(endS n).map (Value.int .u8)):=by
  show _=_
  rw [hF,endS,←HZ.out];simp only;rw [List.take_of_length_le (Nat.le_of_eq (QeL _))]
 have FN:Hid (∀j,j<8→F (j+1)=F j++[Value.int .u8 ((8*n / 256^(7 - j) % 256:Nat):Int)]):=fun j hj=>by
  rw [hF];simp only;rw [Qi5 _ _ hj];simp
 clear hF hzp;generalize ((64 - ((n:Int)+1+8) % 64) % 64)=z4
 go_loopw [5,26] (fun o i wr=>∃j:Nat,j≤8∧i=.int .i64 j∧wr.ownsRow w.heap.size 5 1 o (1+z+j) (F j)∧Only (fun _=>False) w wr) (fun _ i _=>8 - (intOf i).toNat)
 case atStart =>
  refine ⟨0,by omega,rfl,?_,HO.out⟩;rw [←F0.out];exact Qef HB.out (Nat.le_refl _) (by omega) (by unfold maxLen;omega) (by simp [bl])
 case round =>
  obtain ⟨j,hj,rfl,hown,hon⟩:=hrel;have hsz:=hon.size;have HON:=Qaa hon;have HOWN:=Qaa hown;clear hon hown HB HO hc0 hf0 hmk e1 e2
  by_cases hlt:j<8
  ·have HFN:=Qaa (FN.out j hlt)
   have i1:(j:Int)<8:=by omega
   have s0:0≤(7 - (j:Int))*8:=by omega
   have s1:(7 - (j:Int))*8≤64:=by omega
   have BL:=Qaa (Bs.litN .u8 wr 5 [(n:Int)*8 / 2^((7 - j)*8) % 256] _ _ rfl rfl);go_wp2_with (at_builtin;refine Qab _ rfl _ _ 22 rfl w.heap.size 5 i0 (.int .u8 0) 1 underlying22 hi hz0 hz1 hz2 rfl _ (1+z+j) (F j) rfl (HOWN.out.alloc _) .u8 _ [(n:Int)*8 / 2^((7 - j)*8) % 256] rfl BL.out (NoCap.some _ _ _) (by simp [maxLen];omega) (by simp;omega) (by simp;omega) ?_;intro v' w2 hown' hgrow2 hnil2 hob2)
   have N1:Hid (w2.ownsRow w.heap.size 5 1 v' (1+z+(j+1)) (F (j+1))):=by
    rw [HFN.out,←byte8];exact hown'
   have N2:Hid (Only (fun _=>False) w w2):=(HON.out.alloc _).grown hgrow2 (fun k hk e=>by have:=HOWN.out.lt k e;omega);clear hown' hgrow2 hnil2 hob2 HOWN HON BL HFN;go_wp2
   go_roundw
   case rel=>exact ⟨j+1,by omega,by go_num,N1.out,N2.out⟩
   case measure=>simp [intOf];omega
  ·go_wp2
   go_ret
   obtain rfl:j=8:=by omega
   rw [F8.out,show 1+z+8=9+zpad n by rw [←HZ.out];omega] at HOWN;exact ⟨_,rfl,HOWN.out,HON.out⟩
def hc (st:List Nat) (pc:List Int) (n:Nat):List Value:=wl st++bl pc++[.int .i64 (n:Int)]
theorem QgH {st:List Nat} {pc:List Int} (h1:st.length=8) (h2:pc.length=64) (n:Nat):(hc st pc n).length=73:=by
 simp [hc,Qaw,Qal,h1,h2]
theorem hc_n {st:List Nat} {pc:List Int} (h1:st.length=8) (h2:pc.length=64) (n:Nat):(hc st pc n)[72]? = some (.int .i64 (n:Int)):=by
 unfold hc;rw [List.getElem?_append_right (by simp [Qaw,Qal,h1,h2])];simp [Qaw,Qal,h1,h2]
theorem Qjb {st:List Nat} {pc:List Int} (h1:st.length=8) (h2:pc.length=64) (n m:Nat):(hc st pc n).set 72 (.int .i64 (m:Int))=hc st pc m:=by
 unfold hc;rw [List.set_append_right _ _ (by simp [Qaw,Qal,h1,h2])];simp [Qaw,Qal,h1,h2]
theorem QgI {st:List Nat} {pc:List Int} (h1:st.length=8) (h2:pc.length=64) (n r:Nat) (ys:List Int) (hr:r+ys.length≤64):splice (hc st pc n) (8+r) (bl ys)=hc st (splice pc r ys) n:=by
 unfold splice hc
 have e1:(wl st++bl pc++[Value.int .i64 (n:Int)]).take (8+r)=wl st++(bl pc).take r:=by
  rw [List.append_assoc,List.take_append,Qaw,h1,List.take_of_length_le (by rw [Qaw,h1];omega),show 8+r - 8=r by omega,List.take_append_of_le_length (by rw [Qal,h2];omega)]
 have e2:(wl st++bl pc++[Value.int .i64 (n:Int)]).drop (8+r+(bl ys).length)=(bl pc).drop (r+ys.length)++[Value.int .i64 (n:Int)]:=by
  rw [List.append_assoc,List.drop_append,Qaw,h1,List.drop_of_length_le (by rw [Qaw,h1,Qal];omega),Qal,show 8+r+ys.length - 8=r+ys.length by omega,List.drop_append_of_le_length (by rw [Qal,h2];omega)]
  rfl
 rw [e1,e2];simp [bl,List.map_append,List.map_take,List.map_drop]
def Hs1 (w:World) (g:Nat) (all:List Int):Prop:=∃st pc,Blk w g 147 (hc st pc all.length)∧HP st pc all
def Hs (w:World) (g:Nat) (all:List Int):Prop:=Hs1 w g all∨(all=[]∧∃st pc,Blk w g 147 (hc st pc 0)∧st.length=8∧pc.length=64∧U8 pc)
theorem Hs1.keep {w w':World} {g:Nat} {all:List Int} (h:Hs1 w g all) {S:Nat→Prop} (o:Only S w w') (hs:¬S g):Hs1 w' g all:=by
 obtain ⟨st,pc,h1,h2⟩:=h;exact ⟨st,pc,h1.keep o hs,h2⟩
theorem Hs.keep {w w':World} {g:Nat} {all:List Int} (h:Hs w g all) {S:Nat→Prop} (o:Only S w w') (hs:¬S g):Hs w' g all:=by
 rcases h with h | ⟨rfl,st,pc,h1,h2⟩
 ·exact .inl (h.keep o hs)
 ·exact .inr ⟨rfl,st,pc,h1.keep o hs,h2⟩
theorem Hs.past {w w':World} {g:Nat} {all:List Int} (h:Hs w g all) (o:Only (fun _=>False) w w'):Hs w' g all:=h.keep o (fun f=>f)
theorem Hs.lt {w:World} {g:Nat} {all:List Int} (h:Hs w g all):g<w.heap.size:=by
 rcases h with ⟨st,pc,h1,_⟩ | ⟨rfl,st,pc,h1,_⟩
 ·exact h1.lt
 ·exact h1.lt
theorem Qc9 {P:Program} {ops:Array Oper} {o:Oper} {a:Act} {w:World} {K:Act→World→Prop} {Q:Exit→Act→World→Prop} {E:Prop} (hgd:o.guard=none) (d s:Operand) (dT sT:TypeId)
  (ho:o.op=.call { callee:=.builtin .copy,args:=#[d,s],argTypes:=#[dT,sT] }) (elem:TypeId) (hu:P.underlying dT=some (.slice elem)) (hsz:(P.info? elem).map (·.size)=some 1)
  (g off dLen dCap:Nat) (ad:Addr) (sLen sCap:Nat) (hd:a.eval d=.slice (some ⟨g,off,none⟩) dLen dCap) (hs:a.eval s=.slice (some ad) sLen sCap)
  (cur:List Value) (t:TypeId) (hg:Blk w g t cur) (cs:List Value) (n:Nat) (hnn:cs.length=n) (hn:cs.length=Nat.min sLen dLen)
  (hsrc:∀j v,cs[j]? = some v→w.cell? (ad.add j)=some v) (hfit:off+cs.length≤cur.length) (h1:∀v∈cs,v.oneCell'=true)
  (h:∀w',Blk w' g t (splice cur off cs)→Only (fun k=>k=g) w w'→K (a.put o.dst (.int .i64 (n:Int))) w') :
  if Region.wanted o (yielded ops a.tmps)=true then Oper.wp P o a w K Q else E:=by
 have hw:Region.wanted o (yielded ops a.tmps)=true:=by simp [Region.wanted,hgd]
 rw [if_pos hw];have hrun:=run_copy_row (P:=P) w dT sT o.type elem g off dLen dCap ad sLen sCap cur.toArray t cs hu hsz hg hn hsrc (by simpa using hfit) h1;unfold Oper.wp;simp [execOp,ho,resolve,invoke,builtin,hd,hs,hrun,Result.andThen];rw [show goInt (cs.length:Int)=.int .i64 (n:Int) by rw [hnn];rfl];refine h _ ?_ ((Only.refl (fun k=>k=g) w).setRow (fun _=>rfl) _);have:=hg.row (splice cur off cs)
 simpa [splice] using this
end Go.Proofs.YtnhapmboienipaaGreatDoor
