import Derived.Test.YtiochaeeoelmjaaGreatDoorG4
import Derived.Laws.CopyOwn
namespace Go.Proofs.YtiochaeeoelmjaaGreatDoor
set_option maxHeartbeats 1600000
set_option maxRecDepth 100000
open Go.RowKit _root_.Go.Proofs.Tryz
variable {w w' W:World} {v:Value} {ys xs l:LI} {R n p k g B:Nat} {P:Program} {ls:List (LI)} {E:TypeId}
theorem Tt (s:List Nat) (a b:LI):∀k,64*k<=a.length->thrus s (a++b) k=thrus s a k:=by
 intro k
 induction k with
 | zero=>intro _;rw[Ag,Ag]
 | succ k ih =>
  intro h;rw[ZU,ZU,ih (by omega),List.drop_append_of_le_length (by omega),List.take_append_of_le_length (by rw[Qm];omega)]
structure HP (st:List Nat) (pc all:LI):Prop where
 sl:st.length=8
 pl:pc.length=64
 u8:U8 pc
 w32:W32 st
 st:st=thrus shH all (all.length / 64)
 pc:pc.take (all.length % 64)=all.drop (64*(all.length / 64))
theorem Lm {pc ys:LI} (h:U8 pc) (k:U8 ys) (r:Nat):U8 (splice pc r ys):=(h.take r).app (k.app (h.drop _))
theorem HP.start (pc:LI) (h:pc.length=64) (h8:U8 pc):HP shH pc []:=⟨rfl,h,h8,rM,rfl,rfl⟩
theorem HP.part {st:List Nat} {pc all:LI} (h:HP st pc all) (ys:LI) (h8:U8 ys) (hr:all.length % 64+ys.length<64):HP st (splice pc (all.length % 64) ys) (all++ys):=by
 have hl:(all++ys).length=all.length+ys.length:=Qb ..
 have hq:(all++ys).length / 64=all.length / 64:=by omega
 have hm:(all++ys).length % 64=all.length % 64+ys.length:=by omega
 refine⟨h.sl,?_,Lm h.u8 h8 _,h.w32,?_,?_⟩
 ·rw[length_splice _ _ _ (by rw[h.pl];omega),h.pl]
 ·rw[hq,Tt _ _ _ _ (by omega)];exact h.st
 ·rw[hq,hm,List.drop_append_of_le_length (by omega),<-h.pc]
  unfold splice;rw[<-List.append_assoc,List.take_append_of_le_length (by rw[Qb,Qg,h.pl];omega)];exact List.take_of_length_le (by rw[Qb,Qg,h.pl];omega)
theorem HP.whole {st:List Nat} {pc all:LI} (h:HP st pc all) (ys:LI) (h8:U8 ys) (hr:all.length % 64+ys.length=64):HP (thru st (splice pc (all.length % 64) ys)) (splice pc (all.length % 64) ys) (all++ys):=by
 have hl:(all++ys).length=all.length+ys.length:=Qb ..
 have hq:(all++ys).length / 64=all.length / 64+1:=by omega
 have hm:(all++ys).length % 64=0:=by omega
 have h0:(splice pc (all.length % 64) ys).length=64:=by rw[length_splice _ _ _ (by rw[h.pl];omega),h.pl]
 have e:splice pc (all.length % 64) ys=(all++ys).drop (64*(all.length / 64)):=by
  unfold splice;rw[h.pc,List.drop_append_of_le_length (by omega),List.drop_of_length_le (l:=pc) (by rw[h.pl];omega),List.append_nil]
 refine⟨VU _ _,h0,Lm h.u8 h8 _,Cx _ _,?_,?_⟩
 ·rw[hq,ZU,Tt _ _ _ _ (by omega),<-e,List.take_of_length_le (by rw[h0];omega),<-h.st]
 ·rw[hq,hm,List.drop_of_length_le (by omega)];rfl
def endS (n:Nat):LI:=128 :: (List.replicate (zpad n) 0++be8 (8*n))
theorem Di (n:Nat):(endS n).length=9+zpad n:=by simp[endS,Hx];omega
theorem Ct (b:LI):padS b=b++endS b.length:=rfl
theorem wF (n:Nat):(64 - ((n:Int)+1+8) % 64) % 64=(zpad n:Int):=by unfold zpad;omega
theorem MT (n:Nat):zpad n<64:=Nat.mod_lt _ (by decide)
theorem FP (v j:Nat) (h:j<8):(be8 v).take (j+1)=(be8 v).take j++[((v / 256^(7 - j) % 256:Nat):Int)]:=by
 have hl:=Hx v;rw[List.take_add_one,Qh (by omega)];simp[be8]
theorem pY (v:Nat):∀y∈be8 v,0<=y∧y<=255:=by
 intro y hy;simp only[be8,List.mem_map] at hy;obtain⟨i,_,rfl⟩:=hy;have:v / 256^(7 - i) % 256<256:=Nat.mod_lt _ (by decide);omega
theorem zf (n:Nat):∀y∈endS n,0<=y∧y<=255:=by
 intro y hy;simp only[endS,List.mem_cons,List.mem_append,List.mem_replicate] at hy
 rcases hy with rfl | ⟨_,rfl⟩ | h
 ·omega
 ·omega
 ·exact pY _ y h
theorem byte8 (n k:Nat):(n:Int)*8 / 2^(k*8) % 256=((8*n / 256^k % 256:Nat):Int):=by
 have e:(256:Nat)^k=2^(k*8):=by rw[Nat.mul_comm,Nat.pow_mul]
 rw[e,Nat.mul_comm 8 n];simp
theorem zG (z:Nat):((bl (List.replicate (9+z) 0)).set 0 (.int .u8 128)).take (1+z)=(128 :: (List.replicate z 0++(be8 0).take 0)).map (Value.int .u8):=by
 rw[show 9+z=(z+8)+1 by omega,List.replicate_succ,show 1+z=z+1 by omega];unfold bl;rw[List.map_cons,Qn,List.take_succ_cons,<-List.map_take,List.take_replicate,show min z (z+8)=z by omega];simp
theorem Lo {base g:Nat} {cs:List Value} {n cap:Nat} (h:Blk w g E cs) (hb:base<=g) (hn:n<=cap) (hm:cap<=maxLen) (hc:cs.length=cap) :
 w.ownsRow base E 1 (.slice (some ⟨g,0,none⟩) n cap) n (cs.take n) :=
 ⟨by simp;omega,.inr ⟨g,cap,cs.toArray,rfl,hb,h,hn,hm,by simpa using hc,by simp⟩⟩
theorem F5 (w:World) (l c:Nat) (hl:l<=c) (hc:c<=1000) :
 ∃w1,(Instr.makeSlice 23 (.int .i64 (l:Int)) (.int .i64 (c:Int))).run prog w=.ok (.slice (some ⟨w.heap.size,0,none⟩) l c) w1∧Blk w1 w.heap.size 5 (bl (List.replicate c 0))∧N0 w w1:=by
 obtain⟨i0,hi,hz0,hz1,hz2⟩:=info_parts Tryz.infoU8;have:=run_make (P:=prog) w 23 5 i0 (.int .u8 0) underlying23 hi hz0 .i64 .i64 l c (by omega) (by omega) (by rw[hz2];omega) (by omega);refine⟨_,this,?_,VG.alloc _⟩
 have e:madeCells (Value.int .u8 0).cells ((c:Int).toNat*i0.size)=(bl (List.replicate c 0)).toArray:=by
  apply Array.toList_inj.1
  rw[show (Value.int .u8 0).cells=#[.int .u8 0] from rfl,toList_madeCells_one];simp[bl,hz1]
 rw[e];exact Blk.new _ _ _
theorem xc (n:Nat) (hn:n<=1000000000000) (w:World):Calls prog 163 #[.int .i64 n] w λe w'=>∃v,e=.returned v∧w'.ownsRow w.heap.size 5 1 v (9+zpad n) ((endS n).map (Value.int .u8))∧N0 w w':=by
 obtain⟨i0,hi,hz0,hz1,hz2⟩:=info_parts Tryz.infoU8;obtain⟨z,hz⟩:=EX (zpad n);have h4:=wF n;have hzl:=MT n;rw[<-hz] at h4 hzl;obtain⟨w1,h6,hb,ho⟩:=F5 w (1+z) (9+z) (by omega) (by omega)
 have e1:((1+z:Nat):Int)=1+(z:Int):=by omega
 have e2:((9+z:Nat):Int)=1+(z:Int)+8:=by omega
 rw[e1,e2] at h6
 have hc0:w1.cell? ⟨w.heap.size,0,none⟩=some (.int .u8 0):=by
  rw[hb.cell,bl_at _ _ (by rw[List.length_replicate];omega),show 9+z=(8+z)+1 by omega];rfl
 have hf0:w1.frozen? ⟨w.heap.size,0,none⟩=false:=hb.froz 0;have HB:=Qa (hb.set 0 (.int .u8 128));have HO:=Qa (ho.setCell (p:=⟨w.heap.size,0,none⟩) (λf=>absurd f (Nat.lt_irrefl _)) (.int .u8 128));have HZ:=Qa hz;clear hb ho hz;go_enter func163,ntmps163;go_wp2
 obtain⟨F,hF⟩:∃F:Nat->List Value,F=λj=>(128 :: (List.replicate z 0++(be8 (8*n)).take j)).map (Value.int .u8):=⟨_,rfl⟩
 have F0:Hid (((bl (List.replicate (9+z) 0)).set 0 (.int .u8 128)).take (1+z)=F 0):=by
  show _=_
  rw[hF,zG];rfl
 have F8:Hid (F 8=(endS n).map (Value.int .u8)):=by
  show _=_
  rw[hF,endS,<-HZ.o];simp only;rw[List.take_of_length_le (Nat.le_of_eq (Hx _))]
 have FN:Hid (∀j,j<8->F (j+1)=F j++[Value.int .u8 ((8*n / 256^(7 - j) % 256:Nat):Int)]):=λj hj=>by
  rw[hF];simp only;rw[FP _ _ hj];simp
 clear hF h4;generalize ((64 - ((n:Int)+1+8) % 64) % 64)=z4
 go_loopw [5,26] (λo i wr=>∃j:Nat,j<=8∧i=.int .i64 j∧wr.ownsRow w.heap.size 5 1 o (1+z+j) (F j)∧N0 w wr) (λ_ i _=>8 - (intOf i).toNat)
 case atStart =>
  refine⟨0,by omega,rfl,?_,HO.o⟩;rw[<-F0.o];exact Lo HB.o (Nat.le_refl _) (by omega) (by unfold maxLen;omega) (by simp[bl])
 case round =>
  obtain⟨j,hj,rfl,h1,h2⟩:=hrel;have hsz:=h2.size;have h3:=Qa h2;have h0:=Qa h1;clear h2 h1 HB HO hc0 hf0 h6 e1 e2
  by_cases hlt:j<8
  ·have h5:=Qa (FN.o j hlt)
   have i1:(j:Int)<8:=by omega
   have s0:0<=(7 - (j:Int))*8:=by omega
   have s1:(7 - (j:Int))*8<=64:=by omega
   have BL:=Qa (Bs.litN .u8 wr 5 [(n:Int)*8 / 2^((7 - j)*8) % 256] _ _ rfl rfl);go_wp2_with (at_builtin;refine Yr _ rfl _ _ 23 rfl w.heap.size 5 i0 (.int .u8 0) 1 underlying23 hi hz0 hz1 hz2 rfl _ (1+z+j) (F j) rfl (h0.o.alloc _) .u8 _ [(n:Int)*8 / 2^((7 - j)*8) % 256] rfl BL.o (NoCap.some _ _ _) (by simp[maxLen];omega) (by simp;omega) (by simp;omega) ?_;intro v' w2 hown' hgrow2 hnil2 hob2)
   have N1:Hid (w2.ownsRow w.heap.size 5 1 v' (1+z+(j+1)) (F (j+1))):=by
    rw[h5.o,<-byte8];exact hown'
   have N2:Hid (N0 w w2):=(h3.o.alloc _).grown hgrow2 (λk hk e=>by have:=h0.o.lt k e;omega);clear hown' hgrow2 hnil2 hob2 h0 h3 BL h5;go_wp2
   go_roundw
   case rel=>exact⟨j+1,by omega,by go_num,N1.o,N2.o⟩
   case measure=>simp[intOf];omega
  ·go_wp2
   go_ret
   obtain rfl:j=8:=by omega
   rw[F8.o,show 1+z+8=9+zpad n by rw[<-HZ.o];omega] at h0;exact⟨_,rfl,h0.o,h3.o⟩
def hc (st:List Nat) (pc:LI) (n:Nat):List Value:=wl st++bl pc++[.int .i64 (n:Int)]
theorem Xe {st:List Nat} {pc:LI} (h1:st.length=8) (h2:pc.length=64) (n:Nat):(hc st pc n).length=73:=by
 simp[hc,QV,Qt,h1,h2]
theorem hc_n {st:List Nat} {pc:LI} (h1:st.length=8) (h2:pc.length=64) (n:Nat):(hc st pc n)[72]? = some (.int .i64 (n:Int)):=by
 unfold hc;rw[List.getElem?_append_right (by simp[QV,Qt,h1,h2])];simp[QV,Qt,h1,h2]
theorem pP {st:List Nat} {pc:LI} (h1:st.length=8) (h2:pc.length=64) (n m:Nat):(hc st pc n).set 72 (.int .i64 (m:Int))=hc st pc m:=by
 unfold hc;rw[List.set_append_right _ _ (by simp[QV,Qt,h1,h2])];simp[QV,Qt,h1,h2]
theorem xw {st:List Nat} {pc:LI} (h1:st.length=8) (h2:pc.length=64) (n r:Nat) (ys:LI) (hr:r+ys.length<=64):splice (hc st pc n) (8+r) (bl ys)=hc st (splice pc r ys) n:=by
 unfold splice hc
 have e1:(wl st++bl pc++[Value.int .i64 (n:Int)]).take (8+r)=wl st++(bl pc).take r:=by
  rw[List.append_assoc,List.take_append,QV,h1,List.take_of_length_le (by rw[QV,h1];omega),show 8+r - 8=r by omega,List.take_append_of_le_length (by rw[Qt,h2];omega)]
 have e2:(wl st++bl pc++[Value.int .i64 (n:Int)]).drop (8+r+(bl ys).length)=(bl pc).drop (r+ys.length)++[Value.int .i64 (n:Int)]:=by
  rw[List.append_assoc,List.drop_append,QV,h1,List.drop_of_length_le (by rw[QV,h1,Qt];omega),Qt,show 8+r+ys.length - 8=r+ys.length by omega,List.drop_append_of_le_length (by rw[Qt,h2];omega)]
  rfl
 rw[e1,e2];simp[bl,List.map_append,List.map_take,List.map_drop]
def Hs1 (w:World) (g:Nat) (all:LI):Prop:=∃st pc,Blk w g 163 (hc st pc all.length)∧HP st pc all
def Hs (w:World) (g:Nat) (all:LI):Prop:=Hs1 w g all∨(all=[]∧∃st pc,Blk w g 163 (hc st pc 0)∧st.length=8∧pc.length=64∧U8 pc)
theorem Hs1.keep {all:LI} (h:Hs1 w g all) {S:Nat->Prop} (o:Only S w w') (hs:¬S g):Hs1 w' g all:=by
 obtain⟨st,pc,h1,h2⟩:=h;exact⟨st,pc,h1.keep o hs,h2⟩
theorem Hs.keep {all:LI} (h:Hs w g all) {S:Nat->Prop} (o:Only S w w') (hs:¬S g):Hs w' g all:=by
 rcases h with h | ⟨rfl,st,pc,h1,h2⟩
 ·exact .inl (h.keep o hs)
 ·exact .inr ⟨rfl,st,pc,h1.keep o hs,h2⟩
theorem Hs.past {all:LI} (h:Hs w g all) (o:N0 w w'):Hs w' g all:=h.keep o (λf=>f)
theorem Hs.lt {all:LI} (h:Hs w g all):g<w.heap.size:=by
 rcases h with ⟨st,pc,h1,_⟩ | ⟨rfl,st,pc,h1,_⟩
 ·exact h1.lt
 ·exact h1.lt
theorem Ff {P:Program} {ops:Array Oper} {o:Oper} {a:Act} {w:World} {K:Act->World->Prop} {Q:Exit->Act->World->Prop} {E:Prop} (hgd:o.guard=none) (d s:Operand) (dT sT:TypeId)
 (ho:o.op=.call { callee:=.builtin .copy,args:=#[d,s],argTypes:=#[dT,sT] }) (elem:TypeId) (hu:P.underlying dT=some (.slice elem)) (hsz:(P.info? elem).map (·.size)=some 1)
 (g off dLen dCap:Nat) (ad:Addr) (sLen sCap:Nat) (hd:a.eval d=.slice (some ⟨g,off,none⟩) dLen dCap) (hs:a.eval s=.slice (some ad) sLen sCap)
 (cur:List Value) (t:TypeId) (hg:Blk w g t cur) (cs:List Value) (n:Nat) (hnn:cs.length=n) (hn:cs.length=Nat.min sLen dLen)
 (hsrc:∀j v,cs[j]? = some v->w.cell? (ad.add j)=some v) (hfit:off+cs.length<=cur.length) (h1:∀v∈cs,v.oneCell'=true)
 (h:∀w',Blk w' g t (splice cur off cs)->Only (λk=>k=g) w w'->K (a.put o.dst (.int .i64 (n:Int))) w') :
 if Region.wanted o (yielded ops a.tmps)=true then Oper.wp P o a w K Q else E:=by
 have hw:Region.wanted o (yielded ops a.tmps)=true:=by simp[Region.wanted,hgd]
 rw[if_pos hw];have h0:=run_copy_row (P:=P) w dT sT o.type elem g off dLen dCap ad sLen sCap cur.toArray t cs hu hsz hg hn hsrc (by simpa using hfit) h1;unfold Oper.wp;simp[execOp,ho,resolve,invoke,builtin,hd,hs,h0,Result.andThen];rw[show goInt (cs.length:Int)=.int .i64 (n:Int) by rw[hnn];rfl];refine h _ ?_ ((Only.refl (λk=>k=g) w).setRow (λ_=>rfl) _);have:=hg.row (splice cur off cs)
 simpa [splice] using this
theorem Bs.keepE {k:IntKind} (h:Bs k w v xs) {S:Nat->Prop} (ho:Only S w w') (hs:xs≠[]->∀b,v.ownBlock=some b->¬S b):Bs k w' v xs:=by
 by_cases hx:xs=[]
 ·subst hx
  obtain⟨ao,cap,rfl,hc,_⟩:=h;exact⟨ao,cap,rfl,hc,λh=>absurd rfl h⟩
 ·exact h.keep ho (hs hx)
theorem xG (g:Nat) (st:List Nat) (pc:LI) (w w1:World) (h:Blk w g 163 (hc st pc 0)) (h2:st.length=8) (h3:pc.length=64) (h4:U8 pc) (on1:N0 w w1) :
 Hs1 (w1.setCells g 0 (wl shH)) g []∧Only (λk=>k=g) w (w1.setCells g 0 (wl shH)):=by
 refine⟨⟨shH,pc,?_,HP.start pc h3 h4⟩,?_⟩
 ·have:=Td [] (wl st) (bl pc++[.int .i64 ((0:Nat):Int)]) (wl shH) (by rw[QV,QV,h2];rfl) w1 g 163 (by have:=h.past on1;unfold hc at this;simpa using this)
  unfold hc
  simpa using this
 ·exact Only.setCells (S:=λk=>k=g) (λ_=>rfl) (wl shH) 0 w1 (on1.mono (λ_ _ f=>f.elim))
abbrev o0wr : Oper:={ dst:=some 54,op:=Op.load 160 (Operand.tmp 53),type:=160,pos:="sha.go:48",after:=#[{ on:=3,ground:=Ground.data }],guard:=none }
abbrev o1wr : Oper:={ dst:=some 58,op:=Op.load 161 (Operand.tmp 57),type:=161,pos:="sha.go:48",after:=#[{ on:=7,ground:=Ground.data }],guard:=none }
abbrev o2wr : Oper:={ dst:=some 59,op:=Op.call { callee:=Callee.value (Operand.func 162),args:=#[Operand.tmp 54,Operand.tmp 58],argTypes:=#[160,161] },type:=160,pos:="sha.go:48",after:=#[{ on:=4,ground:=Ground.data },{ on:=8,ground:=Ground.data }],guard:=none }
abbrev o3wr : Oper:={ dst:=some 60,op:=Op.nilCheck (Operand.tmp 50),type:=0,pos:="sha.go:48",after:=#[{ on:=0,ground:=Ground.data },{ on:=0,ground:=Ground.phase },{ on:=1,ground:=Ground.phase },{ on:=2,ground:=Ground.phase },{ on:=3,ground:=Ground.phase },{ on:=4,ground:=Ground.phase },{ on:=5,ground:=Ground.phase },{ on:=6,ground:=Ground.phase },{ on:=7,ground:=Ground.phase },{ on:=8,ground:=Ground.phase },{ on:=9,ground:=Ground.phase }],guard:=none }
abbrev o4wr : Oper:={ dst:=some 61,op:=Op.fieldAddr 163 (Operand.tmp 60) 0,type:=0,pos:="sha.go:48",after:=#[{ on:=10,ground:=Ground.data },{ on:=0,ground:=Ground.phase },{ on:=1,ground:=Ground.phase },{ on:=2,ground:=Ground.phase },{ on:=3,ground:=Ground.phase },{ on:=4,ground:=Ground.phase },{ on:=5,ground:=Ground.phase },{ on:=6,ground:=Ground.phase },{ on:=7,ground:=Ground.phase },{ on:=8,ground:=Ground.phase },{ on:=9,ground:=Ground.phase }],guard:=none }
abbrev o5wr : Oper:={ dst:=none,op:=Op.store 160 (Operand.tmp 61) (Operand.tmp 59),type:=0,pos:="sha.go:48",after:=#[{ on:=11,ground:=Ground.data },{ on:=9,ground:=Ground.data },{ on:=9,ground:=Ground.chain },{ on:=0,ground:=Ground.phase },{ on:=1,ground:=Ground.phase },{ on:=2,ground:=Ground.phase },{ on:=3,ground:=Ground.phase },{ on:=4,ground:=Ground.phase },{ on:=5,ground:=Ground.phase },{ on:=6,ground:=Ground.phase },{ on:=7,ground:=Ground.phase },{ on:=8,ground:=Ground.phase },{ on:=9,ground:=Ground.phase }],guard:=none }
abbrev o6wr : Oper:={ dst:=some 50,op:=Op.move (Operand.tmp 0),type:=203,pos:="sha.go:48",after:=#[],guard:=none }
abbrev o7wr : Oper:={ dst:=some 51,op:=Op.move (Operand.tmp 0),type:=203,pos:="sha.go:48",after:=#[],guard:=none }
abbrev o8wr : Oper:={ dst:=some 52,op:=Op.nilCheck (Operand.tmp 51),type:=0,pos:="sha.go:48",after:=#[{ on:=1,ground:=Ground.data }],guard:=none }
abbrev o9wr : Oper:={ dst:=some 53,op:=Op.fieldAddr 163 (Operand.tmp 52) 0,type:=0,pos:="sha.go:48",after:=#[{ on:=2,ground:=Ground.data }],guard:=none }
abbrev o10wr : Oper:={ dst:=some 55,op:=Op.move (Operand.tmp 0),type:=203,pos:="sha.go:48",after:=#[],guard:=none }
abbrev o11wr : Oper:={ dst:=some 56,op:=Op.nilCheck (Operand.tmp 55),type:=0,pos:="sha.go:48",after:=#[{ on:=5,ground:=Ground.data }],guard:=none }
abbrev o12wr : Oper:={ dst:=some 57,op:=Op.fieldAddr 163 (Operand.tmp 56) 1,type:=0,pos:="sha.go:48",after:=#[{ on:=6,ground:=Ground.data }],guard:=none }
theorem Ve (g:Nat) (all xs:LI) (v:Value) (w:World) (h:Hs w g all) (hb:Bs .u8 w v xs) (h8:U8 xs) (hv:xs≠[]->∀k,v.ownBlock=some k->k≠g) (hl:all.length+xs.length<=1000000000000) :
 Calls prog 112 #[.pointer (some ⟨g,0,none⟩),v] w λe w'=>e=.returned (.int .i64 xs.length)∧Hs1 w' g (all++xs)∧Only (λk=>k=g) w w':=by
 obtain⟨ao,cap,rfl⟩:=hb.len;obtain⟨n,hn⟩:=EX all.length
 have k3:w.cell? ⟨g,72,none⟩=some (.int .i64 (n:Int)):=by
  rcases h with ⟨st,pc,h1,h2⟩ | ⟨rfl,st,pc,h1,h2,h3,_⟩
  ·rw[h1.cell,hc_n h2.sl h2.pl,hn]
  ·rw[h1.cell,hc_n h2 h3,hn];rfl
 by_cases h0:n=0
 case' pos =>
  subst h0;have ha:all=[]:=List.eq_nil_of_length_eq_zero hn.symm;have HA:=Qa ha;clear ha
  obtain⟨st,pc,h1,h2,h3,h4⟩:∃st pc,Blk w g 163 (hc st pc 0)∧st.length=8∧pc.length=64∧U8 pc:=by
   rcases h with ⟨st,pc,h1,h2⟩ | ⟨_,st,pc,h1,h2,h3,h4⟩
   ·exact⟨st,pc,by rw[<-hn] at h1;exact h1,h2.sl,h2.pl,h2.u8⟩
   ·exact⟨st,pc,h1,h2,h3,h4⟩
  have H1:=Qa (Vz h1 (Vz h2 (Vz h3 h4)));have HB:=Qa (Vz hb (Vz h8 hv));clear h1 h2 h3 h4 h hb h8 hv hn;go_enter func112,ntmps112;go_wp2_with fail;refine (re _).mono ?_;rintro e w1 ⟨rfl,ku⟩;have TH:=Qa ((H1.o.1.past ku).there 0 8 (by rw[Xe H1.o.2.1 H1.o.2.2.1];decide));have bk:Hid ((prog.info? 160).map (·.size)=some (wl shH).toArray.size):=Tryz.size30;go_wp2_with (refine wpList_store_mid rfl 160 (.tmp 17) (.tmp 15) rfl g 0 (wl shH).toArray rfl rfl TH.o bk.o (UC _) ?_);have WS:=xG g _ _ w w1 H1.o.1 H1.o.2.1 H1.o.2.2.1 H1.o.2.2.2 ku;have k0:=Qa (Vz (show Hs1 _ g all from by rw[HA.o];exact WS.1) (Vz (HB.o.1.keepE WS.2 (λhx k hk e=>HB.o.2.2 hx k hk e)) (Vz HB.o.2.2 WS.2)));have H8:=Qa HB.o.2.1;clear WS H1 HB ku TH bk k3;obtain⟨W1,be⟩:=EX (w1.setCells g 0 (wl shH));rw[<-be] at k0 ⊢;obtain⟨FQ,b4⟩:=EX (wl shH);rw[<-b4];clear b4 be
 case' neg =>
  have bi:Hs1 w g all:=by
   rcases h with h | ⟨rfl,_⟩
   ·exact h
   ·exact absurd hn h0
  have k0:=Qa (Vz bi (Vz hb (Vz hv (Only.refl (λk=>k=g) w))));have H8:=Qa h8
  have h00:((n:Int) == 0)=false:=by rw[beq_eq_false_iff_ne];omega
  have HNN:=Qa hn;clear h hb hv h8 bi hn h0;go_enter func112,ntmps112;go_wp2;clear k3 h00
 all_goals (
  go_loopw [5] (λo wr=>∃i:Nat,i<=xs.length∧Hs1 wr g (all++xs.take i)∧Bs .u8 wr o (xs.drop i)∧(xs.drop i≠[]->∀k,o.ownBlock=some k->k≠g)∧Only (λk=>k=g) w wr) (λo _=>slen o)
  case atStart=>exact⟨0,Nat.zero_le _,by simpa using k0.o.1,k0.o.2.1,k0.o.2.2.1,k0.o.2.2.2⟩
  case round =>
   obtain⟨i,hi,hs,hh,h7,hu⟩:=hrel;have HE:=Qa hi;obtain⟨ao1,h5,rfl⟩:=hh.len;have HL:=Qa hl;obtain⟨ys,hd⟩:=EX (xs.drop i);obtain⟨al,hg⟩:=EX (all++xs.take i);rw[<-hd] at hh h7 ⊢;rw[<-hg] at hs
   have hz:ys.length=xs.length - i:=by rw[hd,Qm]
   by_cases hy0:ys=[]
   ·have b6:i=xs.length:=by
     rw[hy0] at hz;simp at hz;omega
    have E1:Hid (Hs1 wr g (all++xs)):=by
     show _
     rw[hg,b6,List.take_length] at hs;exact hs
    have E2:=Qa hu;clear hz b6 hs hu hh h7 hg hd k0;subst hy0;simp only[List.length_nil];go_wp2;go_ret;exact⟨rfl,E1.o,E2.o⟩
   ·have h7:=h7 hy0
    obtain⟨b,off,rfl,hy⟩:=(by obtain⟨ao',cap',e,_,hr⟩:=hh;simp at e;obtain⟨rfl,rfl⟩:=e;exact hr hy0:∃b off,ao1=some ⟨b,off,none⟩∧∀j,j<ys.length->wr.cell? ⟨b,off+j,none⟩=some (.int .u8 (ys.getD j 0)));obtain⟨st,pc,k1,hp⟩:=hs;obtain⟨n,hn⟩:=EX al.length;obtain⟨r,hr⟩:=EX (n % 64)
    have k3:wr.cell? ⟨g,72,none⟩=some (.int .i64 (n:Int)):=by rw[k1.cell,hc_n hp.sl hp.pl,hn]
    have k9:(r:Int)<64:=by omega
    have kx:(n:Int) % 64=(r:Int):=by omega
    have b5:(n:Int).tmod 64=(r:Int):=by rw[Int.tmod_eq_emod_of_nonneg (by omega),kx]
    have b2:(0:Int)<=(r:Int):=by omega
    have ba:(r:Int)<=64:=by omega
    have bc:¬64=r:=by omega
    have hn1:n<=1000000000000:=by rw[hn,hg,Qb,Qg];omega
    obtain⟨L,hL⟩:=EX ys.length
    have hLp:0<L:=by rw[hL];exact List.length_pos_iff.2 hy0
    obtain⟨k,hk⟩:=EX (min (64 - r) L)
    have bm:IntKind.i64.wrap (r:Int)=(r:Int):=by rw[IntKind.wrap_i64];omega
    rw[<-hL];obtain⟨zs,ho⟩:=EX (ys.take k)
    have h6:zs.length=k:=by rw[ho,Qg];omega
    have CB:=Qa (show Blk wr.drew g 163 (hc st pc n) by rw[hn];exact k1)
    have CN:Hid ((bl zs).length=Nat.min L (64 - r)):=by
     show _=_
     rw[Qt,h6,hk,Nat.min_comm]
    have CS:Hid (∀j v,(bl zs)[j]? = some v->wr.drew.cell? ((⟨b,off,none⟩:Addr).add j)=some v):=λj v hj=>by
     have h1:=(List.getElem?_eq_some_iff.1 hj).1;rw[Qt,h6] at h1;rw[Addr.add_mid];have h2:=hy j (by omega)
     have e:(bl zs)[j]? = some (.int .u8 (ys.getD j 0)):=by
      rw[bl_at _ _ (by omega),ho,Qc,Qc,List.getElem?_take,if_pos h1]
     rw[e] at hj
     cases hj
     exact h2
    have CF:Hid (8+r+(bl zs).length<=(hc st pc n).length):=by
     show _<=_
     rw[Xe hp.sl hp.pl,Qt,h6];omega
    have CO:=Qa (UL zs);have CZ:=Qa (show (bl zs).length=k by rw[Qt,h6]);have HX:=Qa (Vz hp (Vz hn (Vz hr (Vz hk (Vz hL (Vz ho (Vz h6 hz)))))));have HV:=Qa (Vz h7 (Vz hu hh));have ky:=Qa (Vz hg hd);clear k1 hp hn hr hk hL hy h7 hu hh hg hd hz hy0 hi hl ho h6;obtain⟨ZB,kt⟩:=EX (bl zs);rw[<-kt] at CN CS CF CO CZ;obtain⟨HC,kv⟩:=EX (hc st pc n);rw[<-kv] at CB CF;have kn:=Qa (Vz kv kt);clear kv kt;go_wp2_with fail
    go_region_law (refine Ff rfl (.tmp 30) (.tmp 31) 23 23 rfl 5 underlying23 Tryz.one5 g (8+r) (64 - r) (64 - r) ⟨b,off,none⟩ L h5 (by kernel_rfl) (by kernel_rfl) HC 163 CB.o ZB k CZ.o CN.o CS.o CF.o CO.o ?_;intro w4 hb4 on4)
    obtain⟨hp,hn,hr,hk,hL,ho,h6,hz⟩:=HX.o;obtain⟨h7,hu,hh⟩:=HV.o;obtain⟨hg,hd⟩:=ky.o
    have ki:U8 zs:=by rw[ho,hd];exact (H8.o.drop _).take _
    have he:r+zs.length<=64:=by rw[h6,hk];omega
    have kf:Blk w4 g 163 (hc st (splice pc r zs) n):=by
     have:=hb4;rw[kn.o.1,kn.o.2,xw hp.sl hp.pl n r zs he] at this;exact this
    have kg:Only (λk=>k=g) wr w4:=(Only.refl (λk=>k=g) wr).drew.trans on4 (λ_ _ e=>e)
    have kj:Bs .u8 w4 (.slice (some ⟨b,off,none⟩) L h5) ys:=by rw[hL];exact hh.keep kg h7
    have b9:k<=L:=by omega
    obtain⟨A,hA,kk,k5⟩:∃A,(if h5=k then some (⟨b,off,none⟩:Addr) else some ⟨b,off+k,none⟩)=A∧Bs .u8 w4 (.slice A (L - k) (h5 - k)) (ys.drop k)∧(∀j,(Value.slice A (L - k) (h5 - k)).ownBlock=some j->j≠g):=by
     by_cases hck:h5=k
     ·refine⟨_,if_pos hck,?_,λj hj=>h7 j (by simpa [Value.ownBlock] using hj)⟩
      subst hck;rw[Nat.sub_self];exact kj.cut0 b9
     ·refine⟨_,if_neg hck,?_,λj hj=>h7 j (by simpa [Value.ownBlock] using hj)⟩
      have:=kj.cut b9;rw[Option.map_some,Addr.add_mid] at this;exact this
    have hq:w4.cell? ⟨g,72,none⟩=some (.int .i64 (n:Int)):=by
     rw[kf.cell,hc_n hp.sl (by rw[length_splice _ _ _ (by rw[hp.pl];exact he),hp.pl])]
    have hfz:w4.frozen? ⟨g,72,none⟩=false:=kf.froz _;obtain⟨n2,b0⟩:=EX (n+k)
    have hs2:(n:Int)+(k:Int)=(n2:Int):=by omega
    have hkL':(k:Int)<=(L:Int):=by omega
    have hn3:(n2:Int)<=1000000000064:=by omega
    have k2:=kf.set 72 (.int .i64 (n2:Int));rw[pP hp.sl (by rw[length_splice _ _ _ (by rw[hp.pl];exact he),hp.pl])] at k2;have ht:Only (λk=>k=g) wr (w4.setCell ⟨g,72,none⟩ (.int .i64 (n2:Int))):=kg.setCell (p:=⟨g,72,none⟩) (λ_=>rfl) _;have k8:Only (λk=>k=g) w4 (w4.setCell ⟨g,72,none⟩ (.int .i64 (n2:Int))):=(Only.refl (λk=>k=g) w4).setCell (p:=⟨g,72,none⟩) (λ_=>rfl) _
    have kh:xs.drop (i+k)=ys.drop k:=by rw[hd,List.drop_drop]
    have ko:all++xs.take (i+k)=al++zs:=by rw[hg,ho,hd,List.append_assoc,List.take_add]
    have kq:i+k<=xs.length:=by have:=HE.o;omega
    have hw:L - k<L:=by omega
    have k4:r=al.length % 64:=by rw[hr,hn]
    have hm:n2=(al++zs).length:=by rw[b0,Qb,h6,hn]
    by_cases hwh:r+k<64
    ·have hf:=hp.part zs ki (by rw[<-k4,h6];exact hwh)
     rw[<-k4] at hf
     have R1:Hid (Hs1 (w4.setCell ⟨g,72,none⟩ (.int .i64 (n2:Int))) g (all++xs.take (i+k))):=by
      show _
      rw[ko];exact⟨_,_,by rw[<-hm];exact k2,hf⟩
     have R2:Hid (Bs .u8 (w4.setCell ⟨g,72,none⟩ (.int .i64 (n2:Int))) (.slice A (L - k) (h5 - k)) (xs.drop (i+k))):=by
      show _
      rw[kh];exact kk.keep k8 k5
     have R3:=Qa k5;have R4:=Qa (hu.trans ht (λ_ _ e=>e));have R5:=Qa (Vz kq hw);obtain⟨r2,kz⟩:=EX (n2 % 64)
     have t1:(n2:Int) % 64=(r2:Int):=by omega
     have t2:((r2:Int) == 0)=false:=by rw[beq_eq_false_iff_ne];omega
     clear hp hn hr hk hL ho h6 hz h7 hu hh hg hd ki he kf kg kj kk k5 k2 ht k8 kh ko kq hw k4 hm hf hb4 on4 CB CN CS CF CO CZ HX HV ky kn b0 kz hwh kx b5 b2 ba k9 bc bm
     go_simp
     go_wp2
     go_roundw
     case rel=>exact⟨i+k,R5.o.1,R1.o,R2.o,λ_=>R3.o,R4.o⟩
     case measure=>exact R5.o.2
    ·have kd:r+k=64:=by omega
     have hf:=hp.whole zs ki (by rw[<-k4,h6];exact kd);rw[<-k4] at hf;obtain⟨km,ka⟩:=EX (splice pc r zs);rw[<-ka] at hf k2;have k7:km.length=64:=hf.pl;have TC:=Qa (Cp st km hp.sl hp.w32 hf.pl hf.u8);obtain⟨W5,kw⟩:=EX (w4.setCell ⟨g,72,none⟩ (.int .i64 (n2:Int)));rw[<-kw] at k2 ht k8;obtain⟨SB,kl⟩:=EX (wl st);obtain⟨PB,k6⟩:=EX (bl km);obtain⟨TB,ke⟩:=EX (wl (thru st km));rw[<-kl,<-k6,<-ke] at TC
     have kp:TB.length=8:=by rw[ke,QV,VU]
     have kc:SB.length=8:=by rw[kl,QV,hp.sl]
     have bb:PB.length=64:=by rw[k6,Qt,k7]
     have kr:Blk W5 g 163 (SB++PB++[.int .i64 (n2:Int)]):=by rw[kl,k6];exact k2
     have ks:Blk W5 g 163 ([]++SB++(PB++[.int .i64 (n2:Int)])):=by rw[List.nil_append,<-List.append_assoc];exact kr
     have b7:Hid (W5.drew.rangeAt g 8 PB):=kr.drew.rangeN kc;have bj:Hid (W5.drew.rangeAt g 0 SB):=ks.drew.range
     have b1:Hid ((prog.info? 161).map (·.size)=some PB.length):=by rw[bb];exact Tryz.size31
     have bp:Hid ((prog.info? 160).map (·.size)=some SB.length):=by rw[kc];exact Tryz.size30
     have bf:Hid ((prog.info? 160).map (·.size)=some TB.toArray.size):=by
      show _=_
      rw[List.size_toArray,kp];exact Tryz.size30
     have bn:Hid (TB.toArray.all (·.oneCell')=true):=by rw[ke];exact UC _
     have b3:Hid (∀w6,N0 W5.drew w6->w6.there g 0 TB.toArray.size):=λw6 o=>(kr.past ((Only.refl (λ_=>False) W5).drew.same o)).there 0 TB.toArray.size (by
      rw[List.size_toArray,kp,Qb,Qb,kc];omega)
     have bd:Hid (∀w6,N0 W5.drew w6->Hs1 (w6.setCells g 0 TB) g (all++xs.take (i+k))∧Bs .u8 (w6.setCells g 0 TB) (.slice A (L - k) (h5 - k)) (xs.drop (i+k))∧Only (λk=>k=g) w (w6.setCells g 0 TB)):=λw6 o=>by
      have o1:Only (λk=>k=g) W5 w6:=((Only.refl (λ_=>False) W5).drew.same o).mono (λ_ _ f=>f.elim);have o2:Only (λk=>k=g) W5 (w6.setCells g 0 TB):=Only.setCells (S:=λk=>k=g) (λ_=>rfl) _ 0 w6 o1;refine⟨?_,?_,hu.trans (ht.trans o2 (λ_ _ e=>e)) (λ_ _ e=>e)⟩
      ·rw[ko]
       refine⟨_,_,?_,hf⟩;rw[<-hm];have h9:=Td [] SB (PB++[.int .i64 (n2:Int)]) TB (by rw[kp,kc]) w6 g 163 (ks.past ((Only.refl (λ_=>False) W5).drew.same o));rw[List.nil_append,List.length_nil] at h9;unfold hc;rw[<-ke,<-k6,List.append_assoc];exact h9
      ·rw[kh]
       exact kk.keep (k8.trans o2 (λ_ _ e=>e)) k5
     have R3:=Qa k5;have R5:=Qa (Vz kq hw);have bo:=Qa kw
     have t1:(n2:Int) % 64=0:=by omega
     clear hp hn hr hk hL ho h6 hz h7 hu hh hg hd ki he kf kg kj kk k5 k2 ht k8 kh ko kq hw k4 hm hf hb4 on4 CB CN CS CF CO CZ HX HV ky kn b0 hwh kx b5 b2 ba k9 bc bm kd ka k7 kr ks kl k6 ke kw kp kc bb
     go_simp
     go_wp2_with fail;rw[<-bo.o];clear hq hfz bo;refine wp_region_any (by kernel_rfl) ?_
     change wpAny _ _ _ _ _ _ _ (World.drew _)
     refine wpAny_take (i:=0) (oi:=o6wr) (v:=?_) rfl (by kernel_rfl) (by kernel_rfl) (by kernel_rfl) (λ_ _ _ h=>h) (Or.inl ⟨by rfl,?_⟩) ?_
     rotate_left
     ·intro w;go_simp;try with_reducible rfl
     simp only[Act.put,Qq,Qn,Qo];refine wpAny_take (i:=1) (oi:=o7wr) (v:=?_) rfl (by kernel_rfl) (by kernel_rfl) (by kernel_rfl) (λ_ _ _ h=>h) (Or.inl ⟨by rfl,?_⟩) ?_
     rotate_left
     ·intro w;go_simp;try with_reducible rfl
     simp only[Act.put,Qq,Qn,Qo];refine wpAny_take (i:=2) (oi:=o8wr) (v:=?_) rfl (by kernel_rfl) (by kernel_rfl) (by kernel_rfl) (λ_ _ _ h=>h) (Or.inl ⟨by rfl,?_⟩) ?_
     rotate_left
     ·intro w;go_simp;try with_reducible rfl
     simp only[Act.put,Qq,Qn,Qo];refine wpAny_take (i:=3) (oi:=o9wr) (v:=?_) rfl (by kernel_rfl) (by kernel_rfl) (by kernel_rfl) (λ_ _ _ h=>h) (Or.inl ⟨by rfl,?_⟩) ?_
     rotate_left
     ·intro w;go_simp;try with_reducible rfl
     simp only[Act.put,Qq,Qn,Qo];refine wpAny_take (i:=5) (oi:=o10wr) (v:=?_) rfl (by kernel_rfl) (by kernel_rfl) (by kernel_rfl) (λ_ _ _ h=>h) (Or.inl ⟨by rfl,?_⟩) ?_
     rotate_left
     ·intro w;go_simp;try with_reducible rfl
     simp only[Act.put,Qq,Qn,Qo];refine wpAny_take (i:=6) (oi:=o11wr) (v:=?_) rfl (by kernel_rfl) (by kernel_rfl) (by kernel_rfl) (λ_ _ _ h=>h) (Or.inl ⟨by rfl,?_⟩) ?_
     rotate_left
     ·intro w;go_simp;try with_reducible rfl
     simp only[Act.put,Qq,Qn,Qo];refine wpAny_take (i:=7) (oi:=o12wr) (v:=?_) rfl (by kernel_rfl) (by kernel_rfl) (by kernel_rfl) (λ_ _ _ h=>h) (Or.inl ⟨by rfl,?_⟩) ?_
     rotate_left
     ·intro w;go_simp;try with_reducible rfl
     simp only[Act.put,Qq,Qn,Qo]
     repeat' (first
      | ((first
       | (have _:=m0;clear m0;rw[if_pos (by rfl)];refine wp_load_mid 160 (.tmp 53) rfl g 0 rfl SB _ bj.o underlying160 rfl bp.o ?_;have bq:=trivial)
       | (have _:=m1;clear m1;rw[if_pos (by rfl)];refine wp_load_mid 161 (.tmp 57) rfl g 8 rfl PB _ b7.o underlying161 rfl b1.o ?_;have bg:=trivial));refine hK _ _ ?_;clear hK K;simp only[Act.put,Qq,Qn,Qo])
      | (
       have _:=m2;clear m2
       go_simp
       go_wp2_with (go_at_call 162;refine (TC.o _).mono ?_;rintro e w6 ⟨rfl,ht⟩);refine wpAny_take (i:=10) (oi:=o3wr) (v:=?_) rfl (by kernel_rfl) (by kernel_rfl) (by kernel_rfl) (λ_ _ _ h=>h) (Or.inl ⟨by rfl,?_⟩) ?_
       rotate_left
       ·intro w;go_simp;try with_reducible rfl
       simp only[Act.put,Qq,Qn,Qo];refine wpAny_take (i:=11) (oi:=o4wr) (v:=?_) rfl (by kernel_rfl) (by kernel_rfl) (by kernel_rfl) (λ_ _ _ h=>h) (Or.inl ⟨by rfl,?_⟩) ?_
       rotate_left
       ·intro w;go_simp;try with_reducible rfl
       simp only[Act.put,Qq,Qn,Qo];refine wpAny_ready (rs:=[12]) (by kernel_rfl) (by simp) ?_;refine AllReady.cons (o:=o5wr) rfl (λK hK=>?_) AllReady.nil;rw[if_pos (by rfl)];refine wp_store_mid 160 (.tmp 61) (.tmp 59) rfl g 0 TB.toArray rfl rfl (b3.o w6 ht) bf.o bn.o ?_;refine hK _ _ ?_;clear hK K;refine wpAny_done (by kernel_rfl) ?_ _;obtain⟨q1,q2,q3⟩:=bd.o w6 ht;have Q1:=Qa q1;have Q2:=Qa q2;have Q3:=Qa q3;clear q1 q2 q3 ht bd TC bj b7 bp b1 bf bn b3
       go_simp
       go_wp2
       go_roundw
       case rel=>exact⟨i+k,R5.o.1,Q1.o,Q2.o,λ_=>R3.o,Q3.o⟩
       case measure=>exact R5.o.2)
      | (have _:=bq;have _:=bg;refine wpAny_ready (rs:=[9]) (by kernel_rfl) (by simp) (AllReady.cons (o:=o2wr) rfl (λK hK=>(λ(m2:True)=>?_) trivial) AllReady.nil))
      | (have _:=bq;refine wpAny_ready (rs:=[8]) (by kernel_rfl) (by simp) (AllReady.cons (o:=o1wr) rfl (λK hK=>(λ(m1:True)=>?_) trivial) AllReady.nil))
      | (have _:=bg;refine wpAny_ready (rs:=[4]) (by kernel_rfl) (by simp) (AllReady.cons (o:=o0wr) rfl (λK hK=>(λ(m0:True)=>?_) trivial) AllReady.nil))
      | (refine wpAny_ready (rs:=[4,8]) (by kernel_rfl) (by simp) (AllReady.cons (o:=o0wr) rfl (λK hK=>(λ(m0:True)=>?_) trivial) (AllReady.cons (o:=o1wr) rfl (λK hK=>(λ(m1:True)=>?_) trivial) AllReady.nil)))))
def zH:List Value:=hc (List.replicate 8 0) (List.replicate 64 0) 0
theorem Tryz.zero33:(prog.info? 163).map (λi=>(i.zero,i.size))=some (some (.agg zH.toArray),73):=by kernel_rfl
theorem qq:U8 (List.replicate 64 0):=λy hy=>by
 rw[List.mem_replicate] at hy;obtain⟨_,rfl⟩:=hy;decide
theorem Hs.zero (h:Blk w g 163 zH):Hs w g []:=.inr ⟨rfl,_,_,h,rfl,rfl,qq⟩
theorem Hs.blk {all:LI} (h:Hs w g all):∃cs,Blk w g 163 cs∧cs.length=73∧cs[72]? = some (.int .i64 (all.length:Int))∧(∀v∈cs,v.oneCell'=true)∧∀w' g',Blk w' g' 163 cs->Hs w' g' all:=by
 have h0:∀(st:List Nat) (pc:LI) (n:Nat),∀v∈hc st pc n,v.oneCell'=true:=λst pc n v hv=>by
  simp only[hc,List.mem_append,List.mem_singleton] at hv
  rcases hv with (h | h) | rfl
  ·exact Li _ v h
  ·exact UL _ v h
  ·rfl
 rcases h with ⟨st,pc,h1,h2⟩ | ⟨rfl,st,pc,h1,h2,h3,h4⟩
 ·exact⟨_,h1,Xe h2.sl h2.pl _,hc_n h2.sl h2.pl _,h0 _ _ _,λw' g' h=>.inl ⟨st,pc,h,h2⟩⟩
 ·exact⟨_,h1,Xe h2 h3 _,hc_n h2 h3 _,h0 _ _ _,λw' g' h=>.inr ⟨rfl,st,pc,h,h2,h3,h4⟩⟩
theorem IX {st:List Nat} {pc all:LI} (h:HP st pc (all++endS all.length)):st.flatMap be4=QL all:=by
 unfold QL;rw[Ct,<-h.st]
theorem A5 {lo:Nat} {xs:List Value} (h:w.ownsRow lo E 1 v n xs) {g:Nat} (hg:g<lo):∀k,v.ownBlock=some k->k≠g:=λk hk e=>by
 have:=(h.lt k hk).1;omega
theorem JA (g:Nat) (all:LI) (w:World) (h:Hs w g all) (hl:all.length<=100000000000) :
 Calls prog 113 #[.pointer (some ⟨g,0,none⟩)] w λe w'=>∃v,e=.returned v∧w'.ownsRow w.heap.size 5 1 v 32 ((QL all).map (Value.int .u8))∧N0 w w':=by
 obtain⟨cs,h1,h2,h3,h4,h5⟩:=h.blk;have hh:=(zero_of_info (P:=prog) Tryz.zero33).1;obtain⟨Z,hZ⟩:=EX zH;rw[<-hZ] at hh
 have HZ:Hid (Z.toArray.size=cs.toArray.size):=by
  show _=_
  rw[hZ,List.size_toArray,List.size_toArray,h2];rfl
 have HS:Hid ((prog.info? 163).map (·.size)=some cs.toArray.size):=by
  show _=_
  rw[List.size_toArray,h2];exact Tryz.size33
 have HA:=Qa (all_oneCell_toArray h4);have HB:=Qa (h1.alloc (.cells Z.toArray 163));have hlt:=h1.lt;have ha:Blk ((w.alloc (.cells Z.toArray 163)).setRow w.heap.size cs.toArray) w.heap.size 163 cs:=(Blk.new w 163 Z).row cs;have hb:N0 w ((w.alloc (.cells Z.toArray 163)).setRow w.heap.size cs.toArray):=(VG.alloc _).setRow (λf=>absurd f (Nat.lt_irrefl _)) _;obtain⟨W1,h7⟩:=EX ((w.alloc (.cells Z.toArray 163)).setRow w.heap.size cs.toArray);rw[<-h7] at ha hb;have hj:=Qa h7;have HH:=Qa (h5 _ _ ha);have HO:=Qa hb
 have hc:W1.cell? ⟨w.heap.size,72,none⟩=some (.int .i64 (all.length:Int)):=by rw[ha.cell,h3]
 rw[h7] at hc;clear h h1 h2 h3 h4 h5 hZ h7 ha hb;go_enter func113,ntmps113;go_wp2_with (first|(refine wpList_load_row rfl 163 (.tmp 7) rfl g rfl 163 cs.toArray (0,0) _ HB.o underlying163 rfl HS.o ?_)|(refine wpList_store_row rfl 163 (.tmp 3) (.tmp 8) rfl w.heap.size cs.toArray rfl rfl 163 Z.toArray (Blk.new w 163 Z) HS.o HZ.o HA.o ?_));rw[<-hj.o];clear hc;refine (xc all.length (by omega) W1).mono ?_;rintro e w2 ⟨v2,rfl,h6,h8⟩;have hk:w.heap.size<W1.heap.size:=HH.o.lt;have hsz1:=HO.o.size;have b2:Bs .u8 w2 v2 (endS all.length):=Bs.of_own (by rw[Di];exact h6);have WC:=Qa (Ve w.heap.size all (endS all.length) v2 w2 (HH.o.past h8) b2 (zf _) (λ_=>A5 h6 hk) (by rw[Di];have:=MT all.length;omega));have O2:=Qa (HO.o.same h8)
 have HG2:Hid (w.heap.size<w2.heap.size):=by have:=h8.size;show _ < _;omega
 obtain⟨ao2,cap2,e2⟩:=b2.len;subst e2;clear h6 b2 h8 hk hj HH HB hh HZ HS HA;go_wp2_with fail;refine WC.o.mono ?_;rintro e w3 ⟨rfl,⟨st,pc,hd,h9⟩,hf⟩;have O3:N0 w w3:=O2.o.trans hf (λi hi e=>by omega)
 have hm:Blk w3 w.heap.size 163 ([]++wl st++(bl pc++[.int .i64 (((all++endS all.length).length:Nat):Int)])):=by
  unfold hc at hd;rw[List.nil_append,<-List.append_assoc];exact hd
 have R0:Hid (w3.rangeAt w.heap.size 0 (wl st)):=hm.range
 have SZ:Hid ((prog.info? 160).map (·.size)=some (wl st).length):=by
  show _=_
  rw[QV,h9.sl];exact Tryz.size30
 have BC:=Qa (jR st h9.sl w3);rw[IX h9] at BC;have hg:=Qa O3;clear hd hm hf O3 h9 O2 WC;go_wp2_with (refine wpList_load_mid rfl 160 (.tmp 13) rfl w.heap.size 0 rfl (wl st) _ R0.o underlying160 rfl SZ.o ?_);refine BC.o.mono ?_;rintro e w4 ⟨v4,rfl,h0,he⟩;have F1:=Qa (Qr h0 hg.o.size);have F2:=Qa (hg.o.same he);obtain⟨ao4,cap4,e4⟩:=(Bs.of_own (k:=.u8) (xs:=QL all) (by rw[Y2];exact h0)).len;subst e4;clear h0 he BC;go_wp2;go_ret;exact⟨_,rfl,F1.o,F2.o⟩
theorem Du (v:Value) (xs:LI) (w:World) (hb:Bs .u8 w v xs) (h8:U8 xs) (hl:xs.length<=100000000000) :
 Calls prog 73 #[v] w λe w'=>∃v',e=.returned v'∧w'.ownsRow w.heap.size 5 1 v' 32 ((QL xs).map (Value.int .u8))∧N0 w w':=by
 have hzv:=(zero_of_info (P:=prog) Tryz.zero33).1;obtain⟨Z,hZ⟩:=EX zH;rw[<-hZ] at hzv;have h6:Blk (w.alloc (.cells Z.toArray 163)) w.heap.size 163 Z:=Blk.new w 163 Z;have h1:N0 w (w.alloc (.cells Z.toArray 163)):=VG.alloc _;have WC:=Qa (Ve w.heap.size [] xs v (w.alloc (.cells Z.toArray 163)) (Hs.zero (by rw[<-hZ];exact h6)) (hb.past h1) h8 (λhx k hk e=>by have:=hb.blk_lt hx k hk;omega) (by simpa using Nat.le_trans hl (by decide)));have HO:=Qa h1;clear hZ h6 h1 hb h8;go_enter func73,ntmps73;go_wp2_with fail;refine WC.o.mono ?_;rintro e w3 ⟨rfl,h2,h4⟩;rw[List.nil_append] at h2;have h5:=Qa (HO.o.trans h4 (λi hi e=>by omega));have BC:=Qa (JA w.heap.size xs w3 (.inl h2) hl);clear h2 h4 WC HO;go_wp2_with fail;refine BC.o.mono ?_;rintro e w4 ⟨v4,rfl,h0,h3⟩;have F1:=Qa (Qr h0 h5.o.size);have F2:=Qa (h5.o.same h3);obtain⟨ao4,cap4,e4⟩:=(Bs.of_own (k:=.u8) (xs:=QL xs) (by rw[Y2];exact h0)).len;subst e4;clear h0 h3 BC;go_wp2;go_ret;exact⟨_,rfl,F1.o,F2.o⟩
def z64:List Value:=bl (List.replicate 64 0)
theorem Tryz.zero42h:(prog.info? 161).map (λi=>(i.zero,i.size))=some (some (.agg z64.toArray),64):=by kernel_rfl
theorem Dg (v:Value) (xs:LI) (W:World) (G:Nat) (hN:Blk W G 161 z64) (hb:Bs .u8 W v xs) (hl:xs.length<=64) :
 ∃w3,(Builtin.copy_ #[23,23] 3 #[.slice (some ⟨G,0,none⟩) 64 64,v]).run prog W=.ok (.int .i64 (xs.length:Int)) w3∧Blk w3 G 161 (bl (xs++List.replicate (64 - xs.length) 0))∧Only (λk=>k=G) W w3:=by
 have hb0:=hb;obtain⟨ao,cap,rfl,hc,hr⟩:=hb
 by_cases h0:xs=[]
 ·subst h0
  exact⟨W,run_copy_none (P:=prog) W 23 23 3 5 _ _ 64 64 0 cap underlying23 Tryz.one5 rfl,hN,VG⟩
 ·obtain⟨b,off,rfl,h2⟩:=hr h0
  have h1:=run_copy_row (P:=prog) W 23 23 3 5 G 0 64 64 ⟨b,off,none⟩ xs.length cap z64.toArray 161 (bl xs) underlying23 Tryz.one5 hN
   (by rw[Qt];exact (Nat.min_eq_left hl).symm) hb0.news (by rw[Qt];simp[z64,Qt];omega) (UL _)
  rw[show goInt ((bl xs).length:Int)=.int .i64 (xs.length:Int) by rw[Qt];rfl] at h1;refine⟨_,h1,?_,(Only.refl (λk=>k=G) W).setRow (λ_=>rfl) _⟩
  have e:bl (xs++List.replicate (64 - xs.length) 0)=z64.toArray.toList.take 0++bl xs++z64.toArray.toList.drop (0+(bl xs).length):=by
   show _=List.take 0 z64++bl xs++List.drop (0+(bl xs).length) z64
   rw[Qt,Nat.zero_add,List.take_zero,List.nil_append];unfold z64 bl;rw[List.map_append,List.map_replicate,List.map_replicate,List.drop_replicate]
  rw[e];exact hN.row _
theorem xj (v:Value) (xs:LI) (w:World) (hb:Bs .u8 w v xs) (hl:xs.length<=64) :
 Calls prog 121 #[v] w λe w'=>e=.returned (.agg (bl (pad64 xs)).toArray)∧N0 w w':=by
 have hk:keyS xs=xs:=if_neg (by omega);have hzv:=(zero_of_info (P:=prog) Tryz.zero42h).1;obtain⟨Z,hZ⟩:=EX z64;rw[<-hZ] at hzv;obtain⟨W1,h0⟩:=EX ((w.alloc (.cells Z.toArray 161)).alloc (.cells Z.toArray 161))
 have h7:Blk W1 w.heap.size 161 Z:=by rw[h0];exact (Blk.new w 161 Z).alloc _
 have h8:Blk W1 (w.heap.size+1) 161 Z:=by
  have:=Blk.new (w.alloc (.cells Z.toArray 161)) 161 Z;rw[size_alloc] at this;rw[h0];exact this
 have h2:N0 w W1:=by rw[h0];exact (VG.alloc _).alloc _
 obtain⟨w3,h6,h1,h3⟩:=Dg v xs W1 (w.heap.size+1) (by rw[<-hZ];exact h8) (hb.past h2) hl
 have hp:bl (xs++List.replicate (64 - xs.length) 0)=bl (pad64 xs):=by unfold pad64;rw[hk]
 rw[hp] at h1;obtain⟨C,hC⟩:=EX (bl (pad64 xs))
 have h4:C.length=64:=by rw[hC,Qt,Te]
 rw[<-hC] at h1 ⊢;have H3:=Qa h1;have H2:=Qa (h7.keep h3 (by omega));have HO:=Qa (h2.trans h3 (λk hk e=>by omega))
 have h5:Hid ((prog.info? 161).map (·.size)=some C.toArray.size):=by
  show _=_
  rw[List.size_toArray,h4];exact Tryz.size31
 have HZ2:Hid (Z.toArray.size=C.toArray.size):=by
  show _=_
  rw[List.size_toArray,List.size_toArray,h4,hZ];simp[z64,Qt]
 have HA:Hid (C.toArray.all (·.oneCell')=true):=by
  show _=_
  rw[hC];exact all_oneCell_toArray (UL _)
 obtain⟨ao,cap,rfl⟩:=hb.len;obtain⟨m,hm⟩:=EX xs.length;rw[<-hm] at h6 ⊢;have d1:decide ((64:Int)<(m:Int))=false:=Qi (by omega);have d1':decide (64<m)=false:=Qi (by omega);rw[h0] at h6;clear hZ h0 h7 h8 h2 h1 h3 hp hC h4 hm hb hk hl;go_enter func121,ntmps121;go_wp2_with (first|(refine wpList_load_row rfl 161 (.tmp 3) rfl (w.heap.size+1) rfl 161 C.toArray (0,0) _ H3.o underlying161 rfl h5.o ?_)|(refine wpList_store_row rfl 161 (.tmp 2) (.tmp 12) rfl w.heap.size C.toArray rfl rfl 161 Z.toArray H2.o h5.o HZ2.o HA.o ?_));refine bodyPost_ret (v:=.agg C.toArray) (results_cell_row rfl _ _ w.heap.size 161 C.toArray (0,0) _ rfl (setRow_heap _ _ _ _ 161 _ H2.o) underlying161 rfl h5.o) rfl ⟨rfl,?_⟩;exact HO.o.setRow (λh=>absurd h (Nat.lt_irrefl _)) _
theorem Fz (v:Value) (xs:LI) (w:World) (hb:Bs .u8 w v xs) (h8:U8 xs) (hl:64<xs.length) (hl2:xs.length<=100000000000) :
 Calls prog 121 #[v] w λe w'=>e=.returned (.agg (bl (pad64 xs)).toArray)∧N0 w w':=by
 have hk:keyS xs=QL xs:=if_pos hl;have hzv:=(zero_of_info (P:=prog) Tryz.zero42h).1;obtain⟨Z,hZ⟩:=EX z64;rw[<-hZ] at hzv;obtain⟨C,hC⟩:=EX (bl (pad64 xs))
 have h5:C.length=64:=by rw[hC,Qt,Te]
 have hp:bl (QL xs++List.replicate (64 - (QL xs).length) 0)=C:=by rw[hC];unfold pad64;rw[hk]
 have HP:=Qa hp;rw[<-hC]
 have h6:Hid ((prog.info? 161).map (·.size)=some C.toArray.size):=by
  show _=_
  rw[List.size_toArray,h5];exact Tryz.size31
 have HZ2:Hid (Z.toArray.size=C.toArray.size):=by
  show _=_
  rw[List.size_toArray,List.size_toArray,h5,hZ];simp[z64,Qt]
 have HA:Hid (C.toArray.all (·.oneCell')=true):=by
  show _=_
  rw[hC];exact all_oneCell_toArray (UL _)
 have h2:N0 w (w.alloc (.cells Z.toArray 161)):=VG.alloc _;have SU:=Qa (Du v xs (w.alloc (.cells Z.toArray 161)) (hb.past h2) h8 hl2);have h4:=Qa (Blk.new w 161 Z);have h7:=Qa h2;have HZ:=Qa hZ;obtain⟨ao,cap,rfl⟩:=hb.len;obtain⟨m,hm⟩:=EX xs.length;rw[<-hm] at SU ⊢;have d1:decide ((64:Int)<(m:Int))=true:=Qe (by omega);have d1':decide (64<m)=true:=Qe (by omega);clear hZ h2 hp hC h5 hm hb hk hl h8 hl2;go_enter func121,ntmps121;go_wp2_with fail;refine SU.o.mono ?_;rintro e w2 ⟨v2,rfl,h0,h1⟩;have b2:Bs .u8 w2 v2 (QL xs):=Bs.of_own (by rw[Y2];exact h0);obtain⟨G,hG⟩:=EX w2.heap.size
 have ha:Blk (w2.alloc (.cells Z.toArray 161)) G 161 Z:=by rw[hG];exact Blk.new w2 161 Z
 obtain⟨w3,hcp,h9,h3⟩:=Dg v2 (QL xs) (w2.alloc (.cells Z.toArray 161)) G (by rw[<-HZ.o];exact ha) (b2.past (VG.alloc _)) (by rw[Y2];decide);rw[HP.o] at h9;have hlt:=h4.o.lt;have hs2:=h1.size;have H3:=Qa h9;have H2:=Qa (((h4.o.past h1).alloc (.cells Z.toArray 161)).keep h3 (by omega));have HO:=Qa (((h7.o.same h1).alloc (.cells Z.toArray 161)).trans h3 (λk hk e=>by have:=h7.o.size;omega));obtain⟨ao2,cap2,e2⟩:=b2.len;subst e2;rw[hG] at hcp H3;clear h9 h3 ha h0 h1 b2 SU hG hlt hs2 h4 h7 HZ;go_wp2_with (first|(refine wpList_load_row rfl 161 (.tmp 3) rfl w2.heap.size rfl 161 C.toArray (0,0) _ H3.o underlying161 rfl h6.o ?_)|(refine wpList_store_row rfl 161 (.tmp 2) (.tmp 12) rfl w.heap.size C.toArray rfl rfl 161 Z.toArray H2.o h6.o HZ2.o HA.o ?_));refine bodyPost_ret (v:=.agg C.toArray) (results_cell_row rfl _ _ w.heap.size 161 C.toArray (0,0) _ rfl (setRow_heap _ _ _ _ 161 _ H2.o) underlying161 rfl h6.o) rfl ⟨rfl,?_⟩;exact HO.o.setRow (λh=>absurd h (Nat.lt_irrefl _)) _
theorem IL (v:Value) (xs:LI) (w:World) (hb:Bs .u8 w v xs) (h8:U8 xs) (hl2:xs.length<=100000000000) :
 Calls prog 121 #[v] w λe w'=>e=.returned (.agg (bl (pad64 xs)).toArray)∧N0 w w':=by
 by_cases h:64<xs.length
 ·exact Fz v xs w hb h8 h hl2
 ·exact xj v xs w hb (by omega)
theorem Tryz.zero42m:(prog.info? 161).map (λi=>(i.zero,i.size))=some (some (.agg (bl (List.replicate 64 0)).toArray),64):=by kernel_rfl
def mkd (x:Nat) (k:LI) (j:Nat):LI:=(xorB x k).take j++k.drop j
theorem uF (x:Nat) (k:LI) (j:Nat) (hj:j<=k.length):(mkd x k j).length=k.length:=by
 unfold mkd;rw[Qb,Qg,Qm,Kd];omega
theorem j8 (x:Nat) (k:LI) (j:Nat) (hj:j<k.length):(mkd x k j).getD j 0=k.getD j 0:=by
 unfold mkd;rw[Qc,List.getElem?_append_right (by rw[Qg,Kd];omega),Qg,Kd,Nat.min_eq_left (by omega),Nat.sub_self,List.getElem?_drop,Nat.add_zero,Qc]
theorem IZ (x:Nat) (k:LI) (j:Nat) (hj:j<k.length):(mkd x k j).set j (((k.getD j 0).toNat ^^^ x:Nat):Int)=mkd x k (j+1):=by
 unfold mkd;rw[List.set_append_right _ _ (by rw[Qg];omega),Qg,Kd,Nat.min_eq_left (by omega),Nat.sub_self,List.take_add_one]
 have e:(xorB x k)[j]? = some (((k.getD j 0).toNat ^^^ x:Nat):Int):=by
  unfold xorB;rw[List.getElem?_map,Qh hj,Qc,Qh hj];rfl
 rw[e,List.drop_eq_getElem_cons hj,Qn,List.append_assoc]
 rfl
theorem zF (x:Nat) (k:LI) (n:Nat) (hn:k.length=n):mkd x k n=xorB x k:=by
 unfold mkd;rw[List.take_of_length_le (by rw[Kd];omega),List.drop_of_length_le (by omega),List.append_nil]
theorem Cs (k:LI) (hk:k.length=64) (h8:U8 k) (x:Nat) (hx:x<256) (w:World) :
 Calls prog 123 #[.agg (bl k).toArray,.int .u8 (x:Int)] w λe w'=>e=.returned (.agg (bl (xorB x k)).toArray)∧N0 w w':=by
 have h6:=(zero_of_info (P:=prog) Tryz.zero42m).1;obtain⟨Z,hZ⟩:=EX (bl (List.replicate 64 0));rw[<-hZ] at h6;obtain⟨B,hB⟩:=EX (bl k);obtain⟨C,hC⟩:=EX (bl (xorB x k))
 have h3:C.length=64:=by rw[hC,Qt,Kd,hk]
 have h4:Hid ((prog.info? 161).map (·.size)=some C.toArray.size):=by
  show _=_
  rw[List.size_toArray,h3];exact Tryz.size31
 have HZ2:Hid (Z.toArray.size=C.toArray.size):=by
  show _=_
  rw[List.size_toArray,List.size_toArray,h3,hZ];simp[Qt]
 have HA:Hid (C.toArray.all (·.oneCell')=true):=by
  show _=_
  rw[hC];exact all_oneCell_toArray (UL _)
 have HC:Hid (bl (mkd x k 64)=C):=by
  show _=_
  rw[zF x k 64 hk,hC]
 rw[<-hC,<-hB]
 have HB:Hid (B=bl (mkd x k 0)):=by
  show _=_
  rw[hB];simp[mkd]
 have HK:=Qa (Vz hk (Vz h8 hx));clear hZ hB hC h3 hk h8 hx;go_enter func123,ntmps123;go_wp2;have S0:Hid (Blk ((w.alloc (.cells B.toArray 161)).alloc (.cells Z.toArray 161)) w.heap.size 161 (bl (mkd x k 0))):=Eq.mp (congrArg (Blk _ w.heap.size 161) HB.o) ((Blk.new w 161 B).alloc _)
 have R0:Hid (Blk ((w.alloc (.cells B.toArray 161)).alloc (.cells Z.toArray 161)) (w.heap.size+1) 161 Z):=by
  have:=Blk.new (w.alloc (.cells B.toArray 161)) 161 Z;rw[size_alloc] at this;exact this
 have O0:Hid (N0 w ((w.alloc (.cells B.toArray 161)).alloc (.cells Z.toArray 161))):=(VG.alloc _).alloc _;obtain⟨W0,h1⟩:=EX (((w.alloc (.cells B.toArray 161)).alloc (.cells Z.toArray 161)));obtain⟨G,hG⟩:=EX w.heap.size;obtain⟨R,hR⟩:=EX (w.heap.size+1);rw[<-hG,<-h1] at S0;rw[<-hR,<-h1] at R0;rw[<-h1] at O0;rw[<-hR,<-hG,<-h1];have HG:Hid (w.heap.size<=G∧w.heap.size<=R∧R≠G):=⟨by omega,by omega,by omega⟩;clear hG hR h1 h6 HB
 go_loopw [6] (λi wr=>∃j:Nat,j<=64∧i=.int .i64 j∧Hid (Blk wr G 161 (bl (mkd x k j)))∧Hid (Blk wr R 161 Z)∧Hid (N0 w wr)) (λi _=>64 - (intOf i).toNat)
 case atStart=>exact⟨0,by omega,rfl,S0,R0,O0⟩
 case round =>
  obtain⟨j,hj,rfl,hS,hR,hO⟩:=hrel;clear S0 R0 O0
  by_cases hlt:j<64
  ·obtain⟨y,hy⟩:=EX (k.getD j 0)
   have h5:=HK.o.2.1.at j;rw[<-hy] at h5;obtain⟨y0,y1⟩:=h5
   have h7:wr.cell? ⟨G,j,none⟩=some (.int .u8 y):=by
    rw[hS.o.cell,bl_at _ _ (by rw[uF _ _ _ (by rw[HK.o.1];omega),HK.o.1];exact hlt),j8 _ _ _ (by rw[HK.o.1];exact hlt),hy]
   have hfr:wr.frozen? ⟨G,j,none⟩=false:=hS.o.froz _;have h0:=u8_xor y (x:Int) y0 (by omega) (by omega) (by have:=HK.o.2.2;omega);rw[Int.toNat_natCast] at h0;obtain⟨q,hq⟩:∃q:Int,q=((y.toNat ^^^ x:Nat):Int):=⟨_,rfl⟩;rw[<-hq] at h0
   have i0:(0:Int)<=(j:Int):=by omega
   have i1:(j:Int)<64:=by omega
   have N1:Hid (Blk (wr.setCell ⟨G,j,none⟩ (.int .u8 q)) G 161 (bl (mkd x k (j+1)))):=by
    have:=hS.o.set j (.int .u8 q);rw[V7,hq,hy,IZ _ _ _ (by rw[HK.o.1];exact hlt)] at this;rw[hq,hy];exact this
   have h2:=(Only.refl (λk=>k=G) wr).setCell (p:=⟨G,j,none⟩) (λ_=>rfl) (.int .u8 q);have N2:=Qa (hR.o.keep h2 HG.o.2.2);have N3:=Qa (hO.o.trans h2 (λi hi e=>by have:=HG.o.1;omega));clear hy hS hR hO h2 hq;go_wp2
   go_roundw
   case rel=>exact⟨j+1,by omega,by go_num,N1,N2,N3⟩
   case measure=>simp[intOf];omega
  ·obtain rfl:j=64:=by omega
   rw[HC.o] at hS;go_wp2_with (first|(refine wpList_load_row rfl 161 (.tmp 2) rfl G rfl 161 C.toArray (0,0) _ hS.o underlying161 rfl h4.o ?_)|(refine wpList_store_row rfl 161 (.tmp 4) (.tmp 16) rfl R C.toArray rfl rfl 161 Z.toArray hR.o h4.o HZ2.o HA.o ?_));refine bodyPost_ret (v:=.agg C.toArray) (results_cell_row rfl _ _ R 161 C.toArray (0,0) _ rfl (setRow_heap _ _ _ _ 161 _ hR.o) underlying161 rfl h4.o) rfl ⟨rfl,?_⟩;exact hO.o.setRow (λh=>absurd h (by have:=HG.o.2.1;omega)) _
def pcat (ls:Nat->LI):Nat->LI
 | 0=>[]
 | k+1=>pcat ls k++ls k
theorem Th (ls:Nat->LI) (k n:Nat) (h:k<=n):(pcat ls k).length<=(pcat ls n).length:=by
 induction n with
 | zero =>
  obtain rfl:k=0:=by omega
  exact Zu
 | succ n ih =>
  by_cases e:k=n+1
  ·subst e;exact Zu
  ·have:=ih (by omega)
   rw[pcat,Qb];omega
def Ps (w:World) (p n:Nat) (ls:Nat->LI):Prop:=∀i,i<n->∃u,w.cell? ⟨p,i,none⟩=some u∧Bs .u8 w u (ls i)∧U8 (ls i)
theorem Uw {q:Addr} {u:Value} (h:w.cell? q=some u) (o:N0 w w'):w'.cell? q=some u:=by
 rw[<-h];exact World.cell?_of_block (o.block _ (World.block_lt_of_cell? w _ h) (λf=>f))
theorem Ps.past {ls:Nat->LI} (h:Ps w p n ls) (o:N0 w w'):Ps w' p n ls:=λi hi=>by
 obtain⟨u,h1,h2,h3⟩:=h i hi;exact⟨u,Uw h1 o,h2.past o,h3⟩
theorem Blk.bs {t:TypeId} (h:Blk w g t (bl xs)) (n:Nat) (hn:xs.length=n):Bs .u8 w (.slice (some ⟨g,0,none⟩) n n) xs:=by
 subst hn;refine⟨_,_,rfl,Zu,λ_=>⟨g,0,rfl,λj hj=>?_⟩⟩;rw[Nat.zero_add,h.cell,bl_at _ _ hj]
theorem Ps.one {u:Value} (h:Bs .u8 w u xs) (h8:U8 xs):Ps (w.alloc (.cells #[u] 23)) w.heap.size 1 (λ_=>xs):=λi hi=>by
 obtain rfl:i=0:=by omega
 refine⟨u,?_,h.past (VG.alloc _),h8⟩;have:=(Blk.new w 23 [u]).cell 0;rw[this];rfl
theorem Vs (xs:LI):pcat (λ_=>xs) 1=xs:=List.nil_append _
def ptwo (a b:LI) (i:Nat):LI:=if i=0 then a else b
theorem Mj (a b:LI):pcat (ptwo a b) 2=a++b:=by
 show (([]++a)++b:LI)=_
 rw[List.nil_append]
theorem Ps.two {p u:Value} {a b:LI} (ha:Bs .u8 w p a) (hb:Bs .u8 w u b) (a8:U8 a) (b8:U8 b) :
 Ps (w.alloc (.cells #[p,u] 23)) w.heap.size 2 (ptwo a b):=λi hi=>by
 have o:N0 w (w.alloc (.cells #[p,u] 23)):=VG.alloc _;have hB:=Blk.new w 23 [p,u]
 rcases (show i=0∨i=1 by omega) with rfl | rfl
 ·exact⟨p,hB.cell 0,ha.past o,a8⟩
 ·exact⟨u,hB.cell 1,hb.past o,b8⟩
theorem NY (f:LI) (hf:f.length=64) (h8:U8 f) (p n:Nat) (ls:Nat->LI) (w:World) (hp:Ps w p n ls) (hl:(pcat ls n).length<=10000000000) (hn:n<=1000) :
 Calls prog 122 #[.agg (bl f).toArray,.slice (some ⟨p,0,none⟩) n n] w λe w'=>∃v,e=.returned v∧w'.ownsRow w.heap.size 5 1 v 32 ((QL (f++pcat ls n)).map (Value.int .u8))∧N0 w w':=by
 have h9:=(zero_of_info (P:=prog) Tryz.zero33).1;obtain⟨Z,hZ⟩:=EX zH;rw[<-hZ] at h9;obtain⟨W1,h2⟩:=EX ((w.alloc (.cells (bl f).toArray 161)).alloc (.cells Z.toArray 163))
 have hb:Blk W1 w.heap.size 161 (bl f):=by rw[h2];exact (Blk.new w 161 (bl f)).alloc _
 have hh:Blk W1 (w.heap.size+1) 163 zH:=by
  have:=Blk.new (w.alloc (.cells (bl f).toArray 161)) 163 Z;rw[size_alloc] at this;rw[h2,<-hZ];exact this
 have h6:N0 w W1:=by rw[h2];exact (VG.alloc _).alloc _
 have WC:=Qa (Ve (w.heap.size+1) [] f (.slice (some ⟨w.heap.size,0,none⟩) 64 64) W1 (Hs.zero hh) (hb.bs 64 hf) h8 (λ_ k hk e=>by simp[Value.ownBlock] at hk;omega) (by rw[hf];decide));rw[hf] at WC;have hd:=Qa h6;have h5:=Qa h2;have HP:=Qa hp;have HF:=Qa hf;obtain⟨B,hB⟩:=EX (bl f);rw[<-hB] at h5 ⊢;obtain⟨G,hG⟩:=EX (w.heap.size+1);have HG:=Qa hG;clear hZ h2 hb hh h6 hp hf h8 hB hG;go_enter func122,ntmps122;go_wp2_with fail;rw[<-h5.o];refine WC.o.mono ?_;rintro e w3 ⟨rfl,h3,h7⟩;rw[List.nil_append] at h3
 have S0:Hid (Hs w3 G (f++pcat ls 0)):=by
  show _
  rw[show f++pcat ls 0=f from List.append_nil f,HG.o];exact .inl h3
 have O0:=Qa (hd.o.trans h7 (λi hi e=>by omega));rw[<-HG.o];clear h3 h7 WC h5 hd h9;go_wp2
 go_loopw [12] (λi wr=>∃j:Nat,j<=n∧i=.int .i64 j∧Hid (Hs wr G (f++pcat ls j))∧Hid (N0 w wr)) (λi _=>n - (intOf i).toNat)
 case atStart=>exact⟨0,by omega,rfl,S0,O0⟩
 case round =>
  obtain⟨j,hj,rfl,hS,hO⟩:=hrel;clear S0 O0
  by_cases hlt:j<n
  ·obtain⟨u,hu,h4,he⟩:=HP.o j hlt
   have hc:wr.cell? ⟨p,j,none⟩=some u:=Uw hu hO.o;have hg:=Th ls (j+1) n (by omega);have A:=Qa (Ve G (f++pcat ls j) (ls j) u wr hS.o (h4.past hO.o) he (λhx k hk e=>by have:=h4.blk_lt hx k hk;have:=HG.o;omega) (by rw[pcat,Qb] at hg;rw[Qb,HF.o];omega));have dlt:decide ((j:Int)<(n:Int))=true:=Qe (by omega);have dlt':decide (j<n)=true:=Qe hlt
   have i0:(0:Int)<=(j:Int):=by omega
   have i1:(j:Int)<(n:Int):=by omega
   clear hu h4 he hS hg;go_wp2_with fail;refine A.o.mono ?_;rintro e w4 ⟨rfl,ha,h1⟩
   have N1:Hid (Hs w4 G (f++pcat ls (j+1))):=by
    show _
    rw[pcat,<-List.append_assoc];exact .inl ha
   have N2:=Qa (hO.o.trans h1 (λi hi e=>by have:=HG.o;omega));clear ha h1 A hO hc;go_wp2
   go_roundw
   case rel=>exact⟨j+1,by omega,by go_num,N1,N2⟩
   case measure=>simp[intOf];omega
  ·obtain rfl:j=n:=by omega
   have A:=Qa (JA G (f++pcat ls j) wr hS.o (by rw[Qb,HF.o];omega));have dlt:decide ((j:Int)<(j:Int))=false:=Qi (by omega);clear hS;go_wp2_with fail;refine A.o.mono ?_;rintro e w4 ⟨v4,rfl,h0,h1⟩;have F1:=Qa (Qr h0 hO.o.size);have F2:=Qa (hO.o.same h1);obtain⟨ao4,cap4,e4⟩:=(Bs.of_own (k:=.u8) (xs:=QL (f++pcat ls j)) (by rw[Y2];exact h0)).len;subst e4;clear h0 h1 A;go_wp2;go_ret;exact⟨_,rfl,F1.o,F2.o⟩
theorem RQ (v:Value) (key:LI) (p n:Nat) (ls:Nat->LI) (w:World) (hb:Bs .u8 w v key) (h8:U8 key) (hk:key.length<=10000000000) (hp:Ps w p n ls) (hl:(pcat ls n).length<=10000000000) (hn:n<=1000) :
 Calls prog 82 #[v,.slice (some ⟨p,0,none⟩) n n] w λe w'=>∃u,e=.returned u∧w'.ownsRow w.heap.size 5 1 u 32 ((MACL key (pcat ls n)).map (Value.int .u8))∧N0 w w':=by
 have A:=Qa (IL v key w hb h8 (by omega));have hs:=(zero_of_info (P:=prog) Tryz.zero42h).1;obtain⟨Z,hZ⟩:=EX z64;rw[<-hZ] at hs;obtain⟨k,h3⟩:=EX (pad64 key)
 have h6:k.length=64:=by rw[h3,Te]
 have hf:U8 k:=by rw[h3];exact vV h8
 have hM:MACL key (pcat ls n)=QL (xorB 92 k++QL (xorB 54 k++pcat ls n)):=by rw[h3];rfl
 rw[hM];rw[<-h3] at A
 have HX:Hid (∀x W,x<256->Calls prog 123 #[.agg (bl k).toArray,.int .u8 ((x:Nat):Int)] W λe w'=>e=.returned (.agg (bl (xorB x k)).toArray)∧N0 W w'):=λx W hx=>Cs k h6 hf x hx W
 have HL:Hid (∀x,(xorB x k).length=64):=λx=>by rw[Kd,h6]
 have H8:Hid (∀x,x<256->U8 (xorB x k)):=λx hx=>Ow x hx hf
 obtain⟨C,hC⟩:=EX (bl k)
 have hg:C.length=64:=by rw[hC,Qt,h6]
 have hh:Hid ((prog.info? 161).map (·.size)=some C.toArray.size):=by
  show _=_
  rw[List.size_toArray,hg];exact Tryz.size31
 have HZ2:Hid (Z.toArray.size=C.toArray.size):=by
  show _=_
  rw[List.size_toArray,List.size_toArray,hg,hZ];simp[z64,Qt]
 have HA:Hid (C.toArray.all (·.oneCell')=true):=by
  show _=_
  rw[hC];exact all_oneCell_toArray (UL _)
 rw[<-hC] at A HX;have HP:=Qa (Vz hp hl);clear hZ h3 h6 hf hM hC hg hb h8 hp hl;go_enter func82,ntmps82;go_wp2_with fail;refine A.o.mono ?_;rintro e w1 ⟨rfl,hj⟩;obtain⟨G,hG⟩:=EX w1.heap.size;obtain⟨W2,h5⟩:=EX ((w1.alloc (.cells Z.toArray 161)).setRow w1.heap.size C.toArray);have HN:=Qa (Blk.new w1 161 Z)
 have hv:Blk W2 G 161 C:=by rw[h5,hG];exact (Blk.new w1 161 Z).row C
 have hw:N0 w W2:=by rw[h5];exact (hj.alloc _).setRow (λh=>absurd h (by have:=hj.size;omega)) _
 have M1:=Qa (HX.o 54 W2 (by decide));have hy:=Qa hv;have hr:=Qa hw;have hu:=Qa h5.symm;have HG:=Qa hG.symm;have h2:Hid (Blk ((w1.alloc (.cells Z.toArray 161)).setRow w1.heap.size C.toArray) w1.heap.size 161 C):=(Blk.new w1 161 Z).row C;clear A hj hv hw h5 hG;go_wp2_with (first|(refine wpList_store_row rfl 161 (.tmp 5) (.tmp 8) rfl w1.heap.size C.toArray rfl rfl 161 Z.toArray HN.o hh.o HZ2.o HA.o ?_)|(refine wpList_load_row rfl 161 (.tmp 5) rfl w1.heap.size rfl 161 C.toArray (0,0) _ h2.o underlying161 rfl hh.o ?_));rw[hu.o,HG.o];refine M1.o.mono ?_;rintro e w3 ⟨rfl,ha⟩;have O3:=Qa (hr.o.same ha);have hq:=Qa (hy.o.past ha);have S1:=Qa (NY (xorB 54 k) (HL.o 54) (H8.o 54 (by decide)) p n ls w3 (HP.o.1.past O3.o) HP.o.2 hn);clear M1 ha hy hr hu HG h2 HN hs;go_wp2_with fail;refine S1.o.mono ?_;rintro e w4 ⟨v4,rfl,h1,h9⟩;have O4:=Qa (O3.o.same h9);have hz:=Qa (hq.o.past h9);have b4:Bs .u8 w4 v4 (QL (xorB 54 k++pcat ls n)):=Bs.of_own (by rw[Y2];exact h1);have hd:U8 (QL (xorB 54 k++pcat ls n)):=ZV _;have h7:(QL (xorB 54 k++pcat ls n)).length=32:=Y2 _;obtain⟨I,hI⟩:=EX (QL (xorB 54 k++pcat ls n));rw[<-hI] at b4 hd h7;have HI:=Qa hI;have M2:=Qa (HX.o 92 w4 (by decide));have HB:=Qa (Vz b4 (Vz hd h7));obtain⟨ht,h4,e4⟩:=b4.len;rw[h7] at e4;subst e4;clear S1 h1 h9 b4 hd h7 O3 hq hI;go_wp2_with (refine wpList_load_row rfl 161 (.tmp 5) rfl G rfl 161 C.toArray (0,0) _ hz.o underlying161 rfl hh.o ?_);refine M2.o.mono ?_;rintro e w5 ⟨rfl,he⟩;have O5:N0 w (w5.alloc (.cells #[.slice ht 32 h4] 23)):=(O4.o.same he).alloc _;have S2:=Qa (NY (xorB 92 k) (HL.o 92) (H8.o 92 (by decide)) w5.heap.size 1 (λ_=>I) (w5.alloc (.cells #[.slice ht 32 h4] 23)) (Ps.one (HB.o.1.past he) HB.o.2.1) (by rw[Vs,HB.o.2.2];decide) (by decide));rw[Vs] at S2;have hm:=Qa O5;clear M2 he O5 O4 hz HB;go_wp2_with fail;refine S2.o.mono ?_;rintro e w6 ⟨v6,rfl,h0,ho⟩;have F1:=Qa (Qr h0 hm.o.size);have F2:=Qa (hm.o.same ho);obtain⟨ao6,cap6,e6⟩:=(Bs.of_own (k:=.u8) (xs:=QL (xorB 92 k++I)) (by rw[Y2];exact h0)).len;subst e6;clear h0 ho S2 hm;go_wp2;go_ret;exact⟨_,rfl,by rw[<-HI.o];exact F1.o,F2.o⟩
theorem G9 (v u:Value) (key b:LI) (w:World) (hb:Bs .u8 w v key) (h8:U8 key) (hk:key.length<=10000000000) (hu:Bs .u8 w u b) (hu8:U8 b) (hl:b.length<=10000000000) :
 Calls prog 50 #[v,u] w λe w'=>∃r,e=.returned r∧w'.ownsRow w.heap.size 5 1 r 32 ((MACL key b).map (Value.int .u8))∧N0 w w':=by
 have h2:N0 w (w.alloc (.cells #[u] 23)):=VG.alloc _;have A:=Qa (RQ v key w.heap.size 1 (λ_=>b) (w.alloc (.cells #[u] 23)) (hb.past h2) h8 hk (Ps.one hu hu8) (by rw[Vs];exact hl) (by decide));rw[Vs] at A;have h1:=Qa h2;obtain⟨aou,capu,rfl⟩:=hu.len;obtain⟨m,hm⟩:=EX b.length;rw[<-hm] at A h1 ⊢;clear h2 hb h8 hk hu hu8 hl hm;go_enter func50,ntmps50;go_wp2_with fail;refine A.o.mono ?_;rintro e w6 ⟨v6,rfl,h0,h3⟩;have F1:=Qa (Qr h0 h1.o.size);have F2:=Qa (h1.o.same h3);obtain⟨ao6,cap6,e6⟩:=(Bs.of_own (k:=.u8) (xs:=MACL key b) (by rw[Y6];exact h0)).len;subst e6;clear h0 h3 A h1;go_wp2;go_ret;exact⟨_,rfl,F1.o,F2.o⟩
theorem Ou (xs ys:LI) (j:Nat) (hx:j<xs.length) (hy:j<ys.length):xs.take (j+1)=ys.take (j+1)↔xs.take j=ys.take j∧xs.getD j 0=ys.getD j 0:=by
 rw[List.take_add_one,List.take_add_one,Qh hx,Qh hy,Qc,Qc,Qh hx,Qh hy];simp only[Option.toList_some,Option.getD_some]
 constructor
 ·intro h
  have:=List.append_inj h (by rw[Qg,Qg];omega);exact⟨this.1,by simpa using this.2⟩
 ·rintro⟨h1,h2⟩;rw[h1,h2]
theorem FA (a b:Nat):a ^^^ b=0↔a=b:=by
 constructor
 ·intro h
  have:a ^^^ (a ^^^ b)=a ^^^ 0:=by rw[h]
  rw[<-Nat.xor_assoc,Nat.xor_self,Nat.zero_xor,Nat.xor_zero] at this;exact this.symm
 ·rintro rfl;exact Nat.xor_self _
theorem Bt (a b:Nat):a ||| b=0↔a=0∧b=0:=by
 constructor
 ·intro h
  have h1:a<=a ||| b:=Nat.left_le_or
  have h2:b<=a ||| b:=Nat.right_le_or
  omega
 ·rintro⟨rfl,rfl⟩;rfl
theorem EF (va vb:Value) (xs ys:LI) (w:World) (ha:Bs .u8 w va xs) (hb:Bs .u8 w vb ys) (hx8:U8 xs) (hy8:U8 ys) (hl:xs.length<=140737488355328) :
 Calls prog 141 #[va,vb] w λe w'=>e=.returned (.bool (decide (xs=ys)))∧∃m,w'=w.drewN m:=by
 by_cases hne:xs.length=ys.length
 case neg =>
  have hd:decide (xs=ys)=false:=Qi (λh=>hne (by rw[h]));rw[hd];obtain⟨aoa,ca,rfl,_⟩:=ha;obtain⟨aob,cb,rfl,_⟩:=hb
  have hg:((xs.length:Int) != (ys.length:Int))=true:=by simp;omega
  obtain⟨n,hn⟩:=EX xs.length;obtain⟨m,hm⟩:=EX ys.length;rw[<-hn,<-hm] at hg ⊢;clear hn hm hne hd hx8 hy8 hl;go_enter func141,ntmps141;go_wp2;go_ret;exact⟨rfl,0,rfl⟩
 obtain⟨aoa,ca,rfl,hca,h8⟩:=ha;obtain⟨aob,cb,rfl,hh,h5⟩:=hb
 have hg:((xs.length:Int) != (xs.length:Int))=false:=by simp
 rw[<-hne] at hh h5 ⊢;obtain⟨D,hD⟩:=EX (decide (xs=ys));rw[<-hD]
 by_cases hx:xs=[]
 ·subst hx
  have hy:ys=[]:=List.eq_nil_of_length_eq_zero (by rw[<-hne];rfl);subst hy;clear h8 h5;simp only[List.length_nil]
  have HD:Hid (D=true):=by show _=_;rw[hD];rfl
  clear hD;go_enter func141,ntmps141;go_wp2
  go_loop [5,14] (λd i=>d=.int .u8 0∧i=.int .i64 0) (λ_ _=>0)
  case atStart=>exact⟨rfl,rfl⟩
  case round =>
   obtain⟨rfl,rfl⟩:=hrel;go_wp2;go_ret;exact⟨by rw[HD.o];rfl,0,rfl⟩
 ·obtain⟨ba,oa,rfl,h4⟩:=h8 hx
  obtain⟨bb,ob,rfl,h3⟩:=h5 (λh=>hx (List.eq_nil_of_length_eq_zero (by rw[hne,h];rfl)));clear h8 h5 hx;obtain⟨n,hn⟩:=EX xs.length
  have ho:n=ys.length:=by omega
  rw[<-hn] at hg hca hh h4 hl ⊢;rw[<-hn] at h3;have HA:Hid (∀j,j<n->w.cell? ⟨ba,oa+j,none⟩=some (.int .u8 (xs.getD j 0))):=h4;have HB:Hid (∀j,j<n->w.cell? ⟨bb,ob+j,none⟩=some (.int .u8 (ys.getD j 0))):=h3;have HN:Hid (n=xs.length∧n=ys.length∧U8 xs∧U8 ys):=⟨hn,ho,hx8,hy8⟩;have HD:=Qa hD;clear h4 h3 hn ho hne hx8 hy8 hD;go_enter func141,ntmps141;go_wp2
  go_loopw [5,14] (λd i wr=>∃(k q:Nat),k<=n∧i=.int .i64 k∧d=.int .u8 q∧q<256∧Hid (q=0↔xs.take k=ys.take k)∧∃m,wr=w.drewN m) (λ_ i _=>n - (intOf i).toNat)
  case atStart=>exact⟨0,0,Nat.zero_le _,rfl,rfl,by decide,⟨λ_=>rfl,λ_=>rfl⟩,0,rfl⟩
  case round =>
   obtain⟨k,q,hk,rfl,rfl,hq,HQ,md,h9⟩:=hrel
   have hj:N0 w wr:=by rw[h9];exact VG.drewN md
   have hr:=Qa h9;clear h9
   by_cases hlt:k<n
   ·obtain⟨x,hx⟩:=EX (xs.getD k 0)
    obtain⟨y,hy⟩:=EX (ys.getD k 0)
    have h1:wr.cell? ⟨ba,oa+k,none⟩=some (.int .u8 x):=by
     have:=HA.o k hlt;rw[World.cell?_of_block (hj.block ba (World.block_lt_of_cell? w _ this) (λf=>f)),hx];exact this
    have h2:wr.cell? ⟨bb,ob+k,none⟩=some (.int .u8 y):=by
     have:=HB.o k hlt;rw[World.cell?_of_block (hj.block bb (World.block_lt_of_cell? w _ this) (λf=>f)),hy];exact this
    have rx:=HN.o.2.2.1.at k;have ry:=HN.o.2.2.2.at k;rw[<-hx] at rx;rw[<-hy] at ry;have h7:=u8_xor x y rx.1 (by omega) ry.1 (by omega);have h6:x.toNat ^^^ y.toNat<256:=Nat.xor_lt_two_pow (n:=8) (by omega) (by omega);have hp:=u8_or_nat q (x.toNat ^^^ y.toNat) hq h6
    have hf:q ||| (x.toNat ^^^ y.toNat)<256:=Nat.or_lt_two_pow (n:=8) hq h6
    have NQ:Hid (q ||| (x.toNat ^^^ y.toNat)=0↔xs.take (k+1)=ys.take (k+1)):=by
     show _↔_
     rw[Ou xs ys k (by have:=HN.o.1;omega) (by have:=HN.o.2.1;omega),Bt,FA,HQ.o,<-hx,<-hy]
     constructor
     ·rintro⟨h1,h2⟩;exact⟨h1,by omega⟩
     ·rintro⟨h1,h2⟩;exact⟨h1,by rw[h2]⟩
    obtain⟨z,hz⟩:=EX (x.toNat ^^^ y.toNat);rw[<-hz] at h7 hp hf NQ
    obtain⟨q',hs⟩:∃q',q'=q ||| z:=⟨_,rfl⟩
    rw[<-hs] at hp hf NQ
    have i0:(0:Int)<=(k:Int):=by omega
    have i1:(k:Int)<(n:Int):=by omega
    clear hx hy hz hs rx ry h6 HQ;go_wp2;go_quiet (fail);go_wp2
    go_roundw
    case rel=>exact⟨k+1,q',by omega,by go_num,by go_num,hf,NQ,md+nq,by rw[hr.o,World.drewN_drewN]⟩
    case measure=>simp[intOf];omega
   ·obtain rfl:k=n:=by omega
    have HE:Hid (((q:Int) == 0)=D):=by
     show _=_
     rw[HD.o];have e:=HQ.o;rw[List.take_of_length_le (by have:=HN.o.1;omega),List.take_of_length_le (by have:=HN.o.2.1;omega)] at e
     by_cases h0:q=0
     ·rw[Qe (e.1 h0),h0];rfl
     ·rw[Qi (λh=>h0 (e.2 h))];rw[beq_eq_false_iff_ne];omega
    have he:=HE.o;clear HQ HE hlt;go_wp2;go_ret;exact⟨rfl,md,hr.o⟩
theorem Dq (va vb:Value) (xs ys:LI) (w:World) (ha:Bs .u8 w va xs) (hb:Bs .u8 w vb ys) (hx8:U8 xs) (hy8:U8 ys) (hl:xs.length<=140737488355328) :
 Calls prog 141 #[va,vb] w λe w'=>e=.returned (.bool (decide (xs=ys)))∧N0 w w':=by
 refine (EF va vb xs ys w ha hb hx8 hy8 hl).mono ?_;rintro e w' ⟨rfl,m,rfl⟩;exact⟨rfl,VG.drewN m⟩
theorem RU {lo:Nat} {k b:LI} (h:w.ownsRow lo 5 1 v 32 ((MACL k b).map (Value.int .u8))):Bs .u8 w v (MACL k b)∧∃g cap,v=.slice (some ⟨g,0,none⟩) 32 cap∧lo<=g:=by
 refine⟨Bs.of_own (by rw[Y6];exact h),?_⟩
 rcases h.2 with ⟨_,h0⟩ | ⟨g,cap,cur,hv,hb,_⟩
 ·cases h0
 ·exact⟨g,cap,hv,hb⟩
theorem rE (v u t:Value) (key b tag:LI) (w:World) (hb:Bs .u8 w v key) (h8:U8 key) (hk:key.length<=10000000000) (hu:Bs .u8 w u b) (hu8:U8 b) (hl:b.length<=10000000000) (ht:Bs .u8 w t tag) (ht8:U8 tag) :
 Calls prog 100 #[v,u,t] w λe w'=>e=.returned (.bool (decide (MACL key b=tag)))∧N0 w w':=by
 have A:=Qa (G9 v u key b w hb h8 hk hu hu8 hl);have HT:=Qa (Vz ht ht8);obtain⟨D,hD⟩:=EX (decide (MACL key b=tag));rw[<-hD];have HD:=Qa hD;clear hb h8 hk hu hu8 hl ht ht8 hD;go_enter func100,ntmps100;go_wp2_with fail;refine A.o.mono ?_;rintro e w1 ⟨v1,rfl,h0,h1⟩;obtain⟨b1,g1,c1,rfl,_⟩:=RU h0;have S:=Qa (Dq (.slice (some ⟨g1,0,none⟩) 32 c1) t (MACL key b) tag w1 b1 (HT.o.1.past h1) (VX _ _) HT.o.2 (by rw[Y6];decide));rw[<-HD.o] at S;have O1:=Qa h1;clear A h0 h1 b1 HT HD;go_wp2_with fail;refine S.o.mono ?_;rintro e w2 ⟨rfl,h2⟩;have F:=Qa (O1.o.same h2);clear S h2 O1;go_wp2;go_ret;exact⟨rfl,F.o⟩
end Go.Proofs.YtiochaeeoelmjaaGreatDoor
