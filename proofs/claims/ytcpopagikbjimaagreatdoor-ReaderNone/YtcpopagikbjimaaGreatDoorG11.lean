import Derived.Test.YtcpopagikbjimaaGreatDoorG10
import Derived.Sort.KeysCollected
import Derived.Sort.Walk0
namespace Go.Proofs.YtcpopagikbjimaaGreatDoor
set_option maxHeartbeats 2000000
set_option maxRecDepth 100000
open Go.RowKit
def okB (k : Int) : Bool:=decide (0 ≤ k ∧ k ≤ 8)
theorem QjV (k : Int) : decide (0 < SZV k) = okB k:=by
 unfold SZV okB
 by_cases h : 0 ≤ k ∧ k ≤ 8
 ·rw [if_pos h,decide_eq_true h]
  have : ∀ n : Nat,n < 9 → 0 < PSZ n:=by decide
  have:=this k.toNat (by omega);simp;omega
 ·rw [if_neg h,decide_eq_false h];rfl
theorem Qd2 (k : Int) (w : World) : Calls Tryz.prog 189 #[.int .i64 k] w fun e w' => e = .returned (.bool (okB k)) ∧ Only (fun _ => False) w w':=by
 have A:=Qaa (Qes k w);rw [← QjV k];generalize SZV k = z at *;go_enter Tryz.func189,Tryz.ntmps189;go_wp2_with fail;refine A.out.mono ?_;rintro e w1 ⟨rfl,o1⟩;have O:=Qaa o1;clear A o1;go_wp2;go_ret;exact ⟨rfl,O.out⟩
theorem Qjq {α : Type} {s : List α} {p : α → Bool} {d : α} (h : ∀ j,j < s.length → p (s.getD j d) = false) : s.any p = false:=by
 rw [List.any_eq_false];intro x hx;obtain ⟨j,hj,rfl⟩:=List.getElem_of_mem hx;have:=h j hj;rw [List.getD_eq_getElem?_getD,List.getElem?_eq_getElem hj] at this
 simpa using this
theorem Qat {α : Type} {s : List α} {k : Nat} {d : α} (h : k < s.length) : s.getD k d ∈ s:=by
 rw [List.getD_eq_getElem?_getD,List.getElem?_eq_getElem h];exact List.getElem_mem h
def pre {α : Type} (p : List α) (r : Except Int (List α × List Int)) : Except Int (List α × List Int):=match r with
 | .error e => .error e
 | .ok (l,t) => .ok (p ++ l,t)
theorem Qdf {α : Type} (r : Except Int (List α × List Int)) : pre [] r = r:=by cases r <;> rfl
theorem Qdg {α : Type} (p q : List α) (r : Except Int (List α × List Int)) : pre p (pre q r) = pre (p ++ q) r:=by
 cases r with
 | error e => rfl
 | ok x => simp [pre]
theorem Qb7 {σ α : Type} {r : σ → RDG α} {nx : σ → α → σ} {n : Nat} {s : σ} {ys : List Int} {e : Int} (h : r s ys = .error e) : rdRep r nx (n + 1) s ys = .error e:=by
 simp only [rdRep,h]
theorem QdU {σ α : Type} {r : σ → RDG α} {nx : σ → α → σ} {n : Nat} {s : σ} {ys t : List Int} {x : α} (h : r s ys = .ok (x,t)) : rdRep r nx (n + 1) s ys = pre [x] (rdRep r nx n (nx s x) t):=by
 simp only [rdRep,h]
 cases rdRep r nx n (nx s x) t with
 | error e => rfl
 | ok y => rfl
theorem QeH {n : Nat} {ys : List Int} {c : Int} (h : Qae n ys = ([],0,c)) (hc : c ≠ 0) : rdK n ys = .error c:=by unfold rdK;rw [h,if_neg hc]
theorem Qfk {n : Nat} {ys b : List Int} {k : Nat} (h : Qae n ys = (b,k,0)) : rdK n ys = .ok (b,ys.drop k):=by unfold rdK;rw [h,if_pos rfl]
theorem QdV {T : List (List Int)} {x : List Int} (h : 0 < T.length) : QaU T x = lexB (T.getD (T.length - 1) []) x:=by
 unfold QaU;rw [List.getLast?_eq_getElem?,List.getElem?_eq_getElem (by omega),List.getD_eq_getElem?_getD,List.getElem?_eq_getElem (by omega)]
 rfl
theorem QdW {x y : List Int} (hx : U8 x) (hy : U8 y) : Op.bytesLess (strOfNums x).toList (strOfNums y).toList = lexB x y:=by rw [QjT,sb_of hx,sb_of hy]
theorem Qdh (s : ByteArray) : ∀ u ∈ [Value.string s],u.oneCell' = true:=by intro u hu;rw [List.mem_singleton] at hu;subst hu;rfl
theorem Tryz.infoStr : (Tryz.prog.info? 9).map (fun i => (i.zero,i.size,i.bytes)) = some (some (.string ⟨#[]⟩),1,16):=by kernel_rfl
structure TRd (w wr : World) (R : Nat) (v u : Value) (D : Except Int (List (List Int) × List Int)) (n k : Nat) (T : List (List Int)) (ys : List Int) (v2 : Value) : Prop where
 len : T.length = k
 all : ∀ x ∈ T,U8 x ∧ x.length ≤ 64
 eq : D = pre T (rdTns (n - k) T ys)
 cur : CurAt 111 wr R v2 ys
 ob : v2.ownBlock = v.ownBlock
 row : wr.ownsRow w.heap.size 9 1 u k (QaV T)
 on : Only (fun j => j = R) w wr
theorem TRd.err {w wr : World} {R : Nat} {v u : Value} {D : Except Int (List (List Int) × List Int)} {n k : Nat} {T : List (List Int)} {ys : List Int} {v2 : Value} (h : TRd w wr R v u D n k T ys v2) (hk : k < n) {c : Int} (hc : rdTn T ys = .error c) : D = .error c:=by
 rw [h.eq,show n - k = (n - k - 1) + 1 by omega,rdTns,Qb7 hc]
 rfl
theorem TRd.go {w wr : World} {R : Nat} {v u : Value} {D : Except Int (List (List Int) × List Int)} {n k : Nat} {T : List (List Int)} {ys : List Int} {v2 : Value} (h : TRd w wr R v u D n k T ys v2) (hk : k < n) {x t : List Int} (hc : rdTn T ys = .ok (x,t)) : D = pre (T ++ [x]) (rdTns (n - (k + 1)) (T ++ [x]) t):=by
 rw [h.eq,show n - k = (n - (k + 1)) + 1 by omega,rdTns,QdU hc,Qdg]
 rfl
theorem QcB {w : World} {R : Nat} {v : Value} {ys : List Int} (h : CurAt 111 w R v ys) (hR : R < w.heap.size) (hvb : ∀ j,v.ownBlock = some j → j < w.heap.size) :
  Calls Tryz.prog 137 #[.pointer (some ⟨R,0,none⟩)] w (RDE w R v (rdDir ys) fun d e w' => ∃ u,e = .returned u ∧ w'.ownsRow w.heap.size 9 1 u d.2.length (QaV d.2) ∧ d.2.length ≤ 1048576 ∧ ∀ x ∈ d.2,U8 x ∧ x.length ≤ 64):=by
 obtain ⟨i0,hi,hz0,hz1,hz2⟩:=info_parts Tryz.infoStr;have A:=Qaa (QbU h);have HV:=Qaa hvb
 obtain ⟨K,hK⟩ : ∃ K,K = RDE w R v (rdDir ys) fun d e w' => ∃ u,e = .returned u ∧ w'.ownsRow w.heap.size 9 1 u d.2.length (QaV d.2) ∧ d.2.length ≤ 1048576 ∧ ∀ x ∈ d.2,U8 x ∧ x.length ≤ 64:=⟨_,rfl⟩
 rw [← hK];have HK:=Qaa hK;clear h hvb hK;go_enter Tryz.func137,Tryz.ntmps137;go_wp2_with fail;refine A.out.mono ?_;rintro e w0 ⟨o0,⟨c,hc0,hr,rfl⟩ | ⟨n,ys0,hr,⟨rfl,hn⟩,v0,c0,ob0⟩⟩
 ·have HF:=Qaa (And.intro o0 (Qax (r2:=fun n => rdTns n []) hr))
  clear o0 A hr;unfold mpan;go_wp2;refine ⟨rfl,?_⟩;rw [HK.out];exact ⟨HF.out.1,.inl ⟨c,hc0,HF.out.2,rfl⟩⟩
 ·have HMany:=Qaa hr
  obtain ⟨D,hD⟩ : ∃ D,D = rdTns n [] ys0:=⟨_,rfl⟩;have HD:=Qaa hD;have F0 : Hid (TRd w w0 R v (.slice none 0 0) D n 0 [] ys0 v0):=⟨rfl,by simp,by rw [Qdf,hD];rfl,c0,ob0,World.ownsRow_nil _ _ _ _,o0⟩;clear o0 A hr c0 ob0 hD;go_wp2
  go_loopw [3,8] (fun u i wr => ∃ k : Nat,k ≤ n ∧ i = .int .i64 k ∧ ∃ T zs v2,TRd w wr R v u D n k T zs v2) (fun _ i _ => n - (intOf i).toNat)
  case atStart => exact ⟨0,Nat.zero_le _,rfl,_,_,_,F0.out⟩
  case round =>
   clear F0;obtain ⟨k,hk,rfl,T,zs,v2,ht⟩:=hrel;have HT:=Qaa ht
   by_cases hlt : k < n
   ·have i1 : (k : Int) < (n : Int):=by omega
    have B:=Qaa (QdL ht.cur 64 (by decide));have hrng:=ht.cur.rng;clear ht
    rcases QbF (n:=64) hrng (by decide) (by decide) with ⟨c,hs,hc⟩ | ⟨x,q,hs,hxl,_,_,hsplit,_⟩
    ·have hc0 : c ≠ 0:=by omega
     have HE:=Qaa (HT.out.err hlt (QaN (QeH (n:=64) hs hc0)));rw [hs] at B;clear hs hc hrng;go_wp2_with fail;refine B.out.mono ?_;rintro e w1 ⟨v1,rfl,_,_,_,v3,_,_,o1⟩;have O1:=Qaa (HT.out.on.trans o1 (fun i _ e => e));clear B o1;go_wp2_with fail;refine (QbT v1 c w1 hc0).mono ?_;rintro e w' ⟨rfl,rfl⟩;unfold mpan;go_wp2;refine ⟨rfl,?_⟩;rw [HK.out];exact ⟨O1.out,.inl ⟨c,hc0,Qap HMany.out (HD.out.symm.trans HE.out),rfl⟩⟩
    ·rw [hs] at B
     have hx8 : U8 x:=fun y hy => hrng y (by rw [hsplit];unfold blk;simp [hy])
     have HX8:=Qaa hx8;have HKx:=Qaa (Qfk (n:=64) hs);clear hs hrng hsplit;go_wp2_with fail;refine B.out.mono ?_;rintro e w1 ⟨v1,rfl,b1,_,_,v3,c3,ob3,o1⟩;have hcv:=Qa4 w1 v1 x b1;have O1:=Qaa (HT.out.on.trans o1 (fun i _ e => e));have own1:=o1.own HT.out.row (fun j hj e => by have:=(HT.out.row.lt j hj).1;omega);have CC:=Qaa (And.intro c3 (ob3.trans HT.out.ob));have hsz1:=O1.out.size;clear B o1 b1 c3 ob3;go_wp2_with fail;refine (QbS v1 w1).mono ?_;rintro e w' ⟨rfl,rfl⟩;have hTl:=HT.out.len;obtain ⟨P,hP⟩ : ∃ P,P = QaU T x:=⟨_,rfl⟩
     have fin : P = false → Hid (K (.panicked [{ v:=.iface 32 (.int .i64 3),recovered:=false }]) w1):=fun hf => by
      simp only [Hid];rw [HK.out];exact ⟨O1.out,.inl ⟨3,by decide,Qap HMany.out (HD.out.symm.trans (HT.out.err hlt (Qbe HKx.out (by rw [← hP];exact hf)))),rfl⟩⟩
     have nxt : P = true → Hid (∀ u' w',w'.ownsRow w.heap.size 9 1 u' (k + 1) (QaV T ++ [.string (strOfNums x)]) → (w1.alloc (.cells #[.string (strOfNums x)] 9)).grownBy w' u3.ownBlock → TRd w w' R v u' D n (k + 1) (T ++ [x]) (zs.drop q) v3):=fun hf => by
      intro u' w' hrow hg;have og : Only (fun j => u3.ownBlock = some j) w1 w':=((Only.refl _ w1).alloc _).grown hg (fun j _ e => e);refine ⟨by simp [hTl],fun y hy => ?_,HT.out.go hlt (QaS HKx.out (by rw [← hP];exact hf)),CC.out.1.keep og (fun e => by have:=(own1.lt R e).1;omega) (fun j hj e => ?_),CC.out.2,by rw [QaV,List.map_append];exact hrow,O1.out.trans og (fun i hi e => by have:=(own1.lt i e).1;omega)⟩
      ·rcases List.mem_append.1 hy with h1 | h1
       ·exact HT.out.all y h1
       ·rw [List.mem_singleton] at h1;subst h1;exact ⟨HX8.out,by omega⟩
      ·rw [CC.out.2] at hj
       have:=HV.out j hj;have:=(own1.lt j e).1;omega
     by_cases hk0 : k = 0
     ·subst hk0
      have hT0 : T = []:=List.eq_nil_of_length_eq_zero hTl;have NX:=nxt (by rw [hP,hT0];rfl);clear fin nxt hP hT0 CC HT
      go_wp2_with (first
       | (go_at_call 134;refine (Qaj 3 w1).mono ?_;rintro e w' ⟨rfl,rfl⟩)
       | (at_builtin;refine wpList_append_own _ rfl _ _ 80 rfl w.heap.size 9 i0 (.string ⟨#[]⟩) 1 16 Tryz.underlying80 hi hz0 hz1 hz2 rfl (by decide) _ 0 _ rfl (own1.alloc _) ⟨w1.heap.size,0,none⟩ 1 1 [.string (strOfNums x)] rfl rfl (cell_one_new _ _ _) (Qdh _) (by unfold maxLen;omega) (by omega) (by simp;omega) ?_;intro v' w2 hown' hgrow2 _)
       | fail)
      go_roundw
      case rel => exact ⟨1,by omega,by go_num,_,_,_,NX.out _ _ hown' hgrow2⟩
      case measure => simp [intOf];omega
     ·have d0 : ((k : Int) == 0) = false:=by rw [beq_eq_false_iff_ne];omega
      have hTk : T.length = k:=hTl;obtain ⟨b,off,cap,eu,hcl⟩:=(Sts.of_own (w:=w1) (v:=u3) (T:=T) (by rw [hTk];exact own1)).at (k - 1) (by omega);rw [hTk] at eu
      have hle : Op.bytesLess (strOfNums (T.getD (k - 1) [])).toList (strOfNums x).toList = P:=by
       rw [QdW (HT.out.all _ (Qat (by omega))).1 HX8.out,hP,QdV (by omega),hTk]
      generalize T.getD (k - 1) [] = y at *;subst eu
      have hw1 : IntKind.i64.wrap ((k : Int) - 1) = ((k - 1 : Nat) : Int):=by rw [IntKind.wrap_i64];omega
      have q0 : (0 : Int) ≤ ((k - 1 : Nat) : Int):=by omega
      have q1 : ((k - 1 : Nat) : Int) < (k : Int):=by omega
      cases hPP : P with
      | false =>
       have FN:=fin hPP;rw [hPP] at hle;clear fin nxt CC HT
       go_wp2_with (first
        | (go_at_call 134;refine (Qao 3 w1).mono ?_;rintro e w' ⟨rfl,rfl⟩;unfold mpan)
        | fail)
       exact ⟨rfl,FN.out⟩
      | true =>
       have NX:=nxt hPP;rw [hPP] at hle;clear fin nxt CC HT
       go_wp2_with (first
        | (go_at_call 134;refine (Qaj 3 w1).mono ?_;rintro e w' ⟨rfl,rfl⟩)
        | (at_builtin;refine wpList_append_own _ rfl _ _ 80 rfl w.heap.size 9 i0 (.string ⟨#[]⟩) 1 16 Tryz.underlying80 hi hz0 hz1 hz2 rfl (by decide) _ k _ rfl (own1.alloc _) ⟨w1.heap.size,0,none⟩ 1 1 [.string (strOfNums x)] rfl rfl (cell_one_new _ _ _) (Qdh _) (by unfold maxLen;omega) (by omega) (by simp;omega) ?_;intro v' w2 hown' hgrow2 _)
        | fail)
       go_roundw
       case rel => exact ⟨k + 1,by omega,by go_num,_,_,_,NX.out _ _ hown' hgrow2⟩
       case measure => simp [intOf];omega
   ·obtain rfl : k = n:=by omega
    have hKK:=HK.out;clear ht HK;subst hKK;go_wp2;go_ret
    have e1 : D = .ok (T,zs):=by
     rw [HT.out.eq,Nat.sub_self];simp [rdTns,rdRep,pre]
    refine ⟨HT.out.on,.inr ⟨(k,T),zs,Qa2 HMany.out (HD.out.symm.trans e1),⟨_,rfl,?_,?_,HT.out.all⟩,v2,HT.out.cur,HT.out.ob⟩⟩
    ·have:=HT.out.row
     rw [← HT.out.len] at this;exact this
    ·have:=HT.out.len
     simp only;omega
theorem QjO : rdB 1 [] = .error 2:=rfl
theorem Qfl (y : Int) (t : List Int) : rdB 1 (y :: t) = .ok ([y],t):=by simp [rdB]
theorem Qjj {L : Nat} {ys : List Int} {c : Int} (h : Qab ys = (0,0,c)) (hc : c ≠ 0) : rdEn L ys = .error c:=Qax (QaN (QcA h hc))
theorem Qfm {L : Nat} {ys : List Int} {a k : Nat} (h : Qab ys = ((a : Int),k,0)) (ha : L ≤ a) : rdEn L ys = .error 3:=Qax (Qbe (Qbw h) (decide_eq_false (by omega)))
theorem Qfn {L : Nat} {ys : List Int} {a k : Nat} (h : Qab ys = ((a : Int),k,0)) (ha : a < L) (hd : ys.drop k = []) : rdEn L ys = .error 2:=by
 have h1:=Qbw h;rw [hd] at h1;exact Qap (QaS h1 (decide_eq_true ha)) (QaN QjO)
theorem QdX {L : Nat} {ys t : List Int} {a k : Nat} {y : Int} (h : Qab ys = ((a : Int),k,0)) (ha : a < L) (hd : ys.drop k = y :: t) (hy : 8 < y) : rdEn L ys = .error 3:=by
 have h1:=Qbw h;rw [hd] at h1;exact Qap (QaS h1 (decide_eq_true ha)) (Qbe (Qfl y t) (decide_eq_false (by simp;omega)))
theorem en_ok {L : Nat} {ys t : List Int} {a k : Nat} {y : Int} (h : Qab ys = ((a : Int),k,0)) (ha : a < L) (hd : ys.drop k = y :: t) (hy : y ≤ 8) : rdEn L ys = .ok ((a,[y]),t):=by
 have h1:=Qbw h;rw [hd] at h1;exact Qa2 (QaS h1 (decide_eq_true ha)) (QaS (Qfl y t) (decide_eq_true (by simpa using hy)))
theorem QfS : sByte [] = (0,0,2):=rfl
theorem QeI (y : Int) (t : List Int) : sByte (y :: t) = (y,1,0):=rfl
def EOF (T : List (List Int)) (t : Nat × List Int) : List Int × Int:=(T.getD t.1 [],t.2.getD 0 0)
theorem Tryz.infoEn : (Tryz.prog.info? 61).map (fun i => (i.zero,i.size,i.bytes)) = some (some (.agg #[.string ⟨#[]⟩,.int .i64 0]),2,24):=by kernel_rfl
theorem Qbx (w : World) (x y : Value) (t : TypeId) : ∀ j u,[x,y][j]? = some u → (w.alloc (.cells #[x,y] t)).cell? ((⟨w.heap.size,0,none⟩ : Addr).add j) = some u:=by
 intro j u h;have hb:=heap_alloc_new w (.cells #[x,y] t);rw [Go.WideShapes.add_plain,Nat.zero_add,← h];unfold World.cell?;simp only;rw [hb]
 match j with
 | 0 => rfl
 | 1 => rfl
 | j + 2 => simp
theorem QgB (s : ByteArray) (y : Int) : ∀ u ∈ [Value.string s,.int .i64 y],u.oneCell' = true:=by
 intro u hu;simp only [List.mem_cons,List.not_mem_nil,or_false] at hu
 rcases hu with rfl | rfl <;> rfl
structure ERd (w wr : World) (R : Nat) (v u : Value) (D : Except Int (List (Nat × List Int) × List Int)) (T : List (List Int)) (n k : Nat) (ts : List (Nat × List Int)) (ys : List Int) (v2 : Value) : Prop where
 len : ts.length = k
 all : ∀ t ∈ ts,t.1 < T.length
 eq : D = pre ts (rdEns T.length (n - k) ys)
 cur : CurAt 111 wr R v2 ys
 ob : v2.ownBlock = v.ownBlock
 row : wr.ownsRow w.heap.size 61 2 u k (QaK (ts.map (EOF T)))
 on : Only (fun j => j = R) w wr
theorem ERd.err {w wr : World} {R : Nat} {v u : Value} {D : Except Int (List (Nat × List Int) × List Int)} {T : List (List Int)} {n k : Nat} {ts : List (Nat × List Int)} {ys : List Int} {v2 : Value} (h : ERd w wr R v u D T n k ts ys v2) (hk : k < n) {c : Int} (hc : rdEn T.length ys = .error c) : D = .error c:=by
 rw [h.eq,show n - k = (n - k - 1) + 1 by omega,rdEns,Qb7 (r:=fun _ : Unit => rdEn T.length) (s:=()) hc]
 rfl
theorem ERd.go {w wr : World} {R : Nat} {v u : Value} {D : Except Int (List (Nat × List Int) × List Int)} {T : List (List Int)} {n k : Nat} {ts : List (Nat × List Int)} {ys : List Int} {v2 : Value} (h : ERd w wr R v u D T n k ts ys v2) (hk : k < n) {x : Nat × List Int} {t : List Int} (hc : rdEn T.length ys = .ok (x,t)) : D = pre (ts ++ [x]) (rdEns T.length (n - (k + 1)) t):=by
 rw [h.eq,show n - k = (n - (k + 1)) + 1 by omega,rdEns,QdU (r:=fun _ : Unit => rdEn T.length) (s:=()) hc,Qdg]
 rfl
theorem QcC {w : World} {R : Nat} {v vt : Value} {ys : List Int} {T : List (List Int)} (h : CurAt 111 w R v ys) (hR : R < w.heap.size) (hvb : ∀ j,v.ownBlock = some j → j < w.heap.size) (hst : Sts w vt T) (hvt : ∀ j,vt.ownBlock = some j → j ≠ R) (hTl : T.length ≤ 1048576) :
  Calls Tryz.prog 138 #[.pointer (some ⟨R,0,none⟩),vt] w (RDE w R v (rdAll T.length ys) fun d e w' => ∃ u,e = .returned u ∧ w'.ownsRow w.heap.size 61 2 u d.2.length (QaK (d.2.map (EOF T))) ∧ d.2.length ≤ 1048576 ∧ ∀ t ∈ d.2,t.1 < T.length):=by
 obtain ⟨i0,hi,hz0,hz1,hz2⟩:=info_parts Tryz.infoEn;have A:=Qaa (QbU h);have HV:=Qaa hvb;have HVT:=Qaa hvt;have HST:=Qaa hst;obtain ⟨at1,ct1,et1⟩:=hst.len;subst et1
 obtain ⟨K,hK⟩ : ∃ K,K = RDE w R v (rdAll T.length ys) fun d e w' => ∃ u,e = .returned u ∧ w'.ownsRow w.heap.size 61 2 u d.2.length (QaK (d.2.map (EOF T))) ∧ d.2.length ≤ 1048576 ∧ ∀ t ∈ d.2,t.1 < T.length:=⟨_,rfl⟩
 rw [← hK];have HK:=Qaa hK;obtain ⟨L,hL⟩ : ∃ L,L = T.length:=⟨_,rfl⟩;have HL:=Qaa hL;rw [← hL] at HST HVT hTl;rw [← hL]
 have hwL : IntKind.u64.wrap (L : Int) = L:=by rw [IntKind.wrap_u64];omega
 clear h hvb hK hst hvt hL;go_enter Tryz.func138,Tryz.ntmps138;go_wp2_with fail;refine A.out.mono ?_;rintro e w0 ⟨o0,⟨c,hc0,hr,rfl⟩ | ⟨n,ys0,hr,⟨rfl,hn⟩,v0,c0,ob0⟩⟩
 ·have HF:=Qaa (And.intro o0 (Qax (r2:=fun n => rdEns T.length n) hr))
  clear o0 A hr;unfold mpan;go_wp2;refine ⟨rfl,?_⟩;rw [HK.out];exact ⟨HF.out.1,.inl ⟨c,hc0,HF.out.2,rfl⟩⟩
 ·have HMany:=Qaa hr
  obtain ⟨D,hD⟩ : ∃ D,D = rdEns T.length n ys0:=⟨_,rfl⟩;have HD:=Qaa hD;have F0 : Hid (ERd w w0 R v (.slice none 0 0) D T n 0 [] ys0 v0):=⟨rfl,by simp,by rw [Qdf,hD];rfl,c0,ob0,World.ownsRow_nil _ _ _ _,o0⟩;clear o0 A hr c0 ob0 hD;go_wp2
  go_loopw [5,10] (fun u i wr => ∃ k : Nat,k ≤ n ∧ i = .int .i64 k ∧ ∃ ts zs v2,ERd w wr R v u D T n k ts zs v2) (fun _ i _ => n - (intOf i).toNat)
  case atStart => exact ⟨0,Nat.zero_le _,rfl,_,_,_,F0.out⟩
  case round =>
   clear F0;obtain ⟨k,hk,rfl,ts,zs,v2,ht⟩:=hrel;have HT:=Qaa ht
   by_cases hlt : k < n
   ·have i1 : (k : Int) < (n : Int):=by omega
    have B:=Qaa (QcX ht.cur);have hrng:=ht.cur.rng
    have bad : Hid (∀ c w',c ≠ 0 → rdEn T.length zs = .error c → Only (fun j => j = R) wr w' → K (.panicked [{ v:=.iface 32 (.int .i64 c),recovered:=false }]) w'):=by
     intro c w' hc he ho;rw [HK.out];exact ⟨HT.out.on.trans ho (fun i _ e => e),.inl ⟨c,hc,Qap HMany.out (HD.out.symm.trans (HT.out.err hlt he)),rfl⟩⟩
    clear ht
    rcases Qam hrng with ⟨c,hs,hc⟩ | ⟨a,q,hs,_,_,ha64,_⟩
    ·have hc0 : c ≠ 0:=by omega
     have HE:=Qaa (Qjj (L:=T.length) hs hc0);rw [hs] at B;clear hs hc hrng;go_wp2_with fail;refine B.out.mono ?_;rintro e w1 ⟨rfl,v3,_,_,o1⟩;have FN:=Qaa (bad.out c w1 hc0 HE.out o1);clear B o1;go_wp2_with fail;refine (Qcz _ c w1 hc0).mono ?_;rintro e w' ⟨rfl,rfl⟩;unfold mpan;go_wp2;exact ⟨rfl,FN.out⟩
    ·have HS:=Qaa hs
     rw [hs] at B;clear hs
     by_cases haL : a < L
     ·have d1 : decide ((a : Int) < (L : Int)) = true:=by simp;omega
      have d2 : decide (a < L) = true:=by simp;omega
      have q0 : (0 : Int) ≤ (a : Int):=by omega
      have q1 : (a : Int) < (L : Int):=by omega
      go_wp2_with fail;refine B.out.mono ?_;rintro e w1 ⟨rfl,v3,c3,ob3,o1⟩;have O1:=Qaa o1;have BY:=Qaa (QhZ c3);have OB3:=Qaa ob3;clear B o1 c3 ob3;go_wp2_with fail;refine (Qbv _ w1).mono ?_;rintro e w' ⟨rfl,rfl⟩;go_wp2_with fail;refine (Qaj 3 w1).mono ?_;rintro e w' ⟨rfl,rfl⟩
      have hdr : ∀ y ∈ zs.drop q,0 ≤ y ∧ y ≤ 255:=fun y hy => hrng y (List.mem_of_mem_drop hy)
      rcases hdd : zs.drop q with _ | ⟨y,t⟩
      ·rw [hdd,QfS] at BY
       have HE:=Qaa (Qfn (L:=T.length) HS.out (by rw [← HL.out];exact haL) hdd);clear hdd hdr hrng;go_wp2_with fail;refine BY.out.mono ?_;rintro e w2 ⟨rfl,v4,_,_,o2⟩;have FN:=Qaa (bad.out 2 w2 (by decide) HE.out (O1.out.trans o2 (fun i _ e => e)));clear BY o2;go_wp2_with fail;refine (Qh9 _ 2 w2 (by decide)).mono ?_;rintro e w' ⟨rfl,rfl⟩;unfold mpan;go_wp2;exact ⟨rfl,FN.out⟩
      ·have hy:=hdr y (by rw [hdd];exact List.mem_cons_self)
       rw [hdd,QeI] at BY;have HDD:=Qaa hdd
       have hwy : IntKind.i64.wrap y = y:=by rw [IntKind.wrap_i64];omega
       clear hdd hdr hrng;go_wp2_with fail;refine BY.out.mono ?_;rintro e w2 ⟨rfl,v4,c4,ob4,o2⟩;have O2:=Qaa (O1.out.trans o2 (fun i _ e => e));have CC:=Qaa (And.intro c4 (ob4.trans (OB3.out.trans HT.out.ob)));clear BY o2 c4 ob4;go_wp2_with fail;refine (Qh8 _ w2).mono ?_;rintro e w' ⟨rfl,rfl⟩;go_wp2_with fail;refine (Qd2 y w2).mono ?_;rintro e w3 ⟨rfl,o3⟩;have O3:=Qaa (O2.out.trans o3 (fun i _ f => f.elim));have C3:=Qaa (And.intro (CC.out.1.keep o3 (fun f => f) (fun _ _ f => f)) CC.out.2);clear o3 CC O2
       by_cases hy8 : y ≤ 8
       ·have eb : okB y = true:=decide_eq_true ⟨by omega,hy8⟩
        rw [eb];have own3:=O3.out.own HT.out.row (fun j hj e => by have:=(HT.out.row.lt j hj).1;omega);obtain ⟨b,off,cap,eu,hcl⟩:=((HST.out.keep HT.out.on (fun j hj e => HVT.out j hj e)).keep O3.out (fun j hj e => HVT.out j hj e)).at a (by rw [← HL.out];exact haL);rw [← HL.out] at eu;simp only [Value.slice.injEq] at eu;obtain ⟨rfl,_,rfl⟩:=eu;have OW:=Qaa (HT.out.on.trans O3.out (fun i _ e => e));have hsz3:=OW.out.size
        have NX : Hid (∀ u' w',w'.ownsRow w.heap.size 61 2 u' (k + 1) (QaK (ts.map (EOF T)) ++ [.string (strOfNums (T.getD a [])),.int .i64 y]) → (w3.alloc (.cells #[.string (strOfNums (T.getD a [])),.int .i64 y] 61)).grownBy w' u5.ownBlock → ERd w w' R v u' D T n (k + 1) (ts ++ [(a,[y])]) t v4):=by
         intro u' w' hrow hg;have og : Only (fun j => u5.ownBlock = some j) w3 w':=((Only.refl _ w3).alloc _).grown hg (fun j _ e => e);refine ⟨by simp [HT.out.len],fun z hz => ?_,HT.out.go hlt (en_ok HS.out (by rw [← HL.out];exact haL) HDD.out hy8),?_,C3.out.2,by rw [List.map_append,List.map_cons,List.map_nil,QcK];exact hrow,OW.out.trans og (fun i hi e => by have:=(own3.lt i e).1;omega)⟩
         ·rcases List.mem_append.1 hz with h1 | h1
          ·exact HT.out.all z h1
          ·rw [List.mem_singleton] at h1;subst h1;simp only;rw [← HL.out];exact haL
         ·have c5:=C3.out.1
          rw [List.drop_succ_cons,List.drop_zero] at c5;refine c5.keep og (fun e => by have:=(own3.lt R e).1;omega) (fun j hj e => ?_);rw [C3.out.2] at hj;have:=HV.out j hj;have:=(own3.lt j e).1;omega
        generalize T.getD a [] = x at *;clear bad C3 HT HVT
        go_wp2_with (first
         | (go_at_call 134;refine (Qaj 3 w3).mono ?_;rintro e w' ⟨rfl,rfl⟩)
         | (at_builtin;refine wpList_append_own _ rfl _ _ 42 rfl w.heap.size 61 i0 (.agg #[.string ⟨#[]⟩,.int .i64 0]) 2 24 Tryz.underlying42 hi hz0 hz1 hz2 rfl (by decide) _ k _ rfl (own3.alloc _) ⟨w3.heap.size,0,none⟩ 1 1 [.string (strOfNums x),.int .i64 y] rfl rfl (Qbx _ _ _ _) (QgB _ _) (by unfold maxLen;omega) (by omega) (by simp;omega) ?_;intro v' w4 hown' hgrow' _)
         | fail)
        go_roundw
        case rel => exact ⟨k + 1,by omega,by go_num,_,_,_,NX.out _ _ hown' hgrow'⟩
        case measure => simp [intOf];omega
       ·have eb : okB y = false:=decide_eq_false (by omega)
        rw [eb];have FN:=Qaa (bad.out 3 w3 (by decide) (QdX HS.out (by rw [← HL.out];exact haL) HDD.out (by omega)) O3.out);clear bad C3 HT;go_wp2_with fail;refine (Qao 3 w3).mono ?_;rintro e w' ⟨rfl,rfl⟩;unfold mpan;go_wp2;exact ⟨rfl,FN.out⟩
     ·have d1 : decide ((a : Int) < (L : Int)) = false:=by simp;omega
      have d2 : decide (a < L) = false:=by simp;omega
      have HE:=Qaa (Qfm HS.out (by rw [← HL.out];omega : T.length ≤ a));go_wp2_with fail;refine B.out.mono ?_;rintro e w1 ⟨rfl,v3,_,_,o1⟩;have FN:=Qaa (bad.out 3 w1 (by decide) HE.out o1);clear B o1;go_wp2_with fail;refine (Qbv _ w1).mono ?_;rintro e w' ⟨rfl,rfl⟩;go_wp2_with fail;refine (Qao 3 w1).mono ?_;rintro e w' ⟨rfl,rfl⟩;unfold mpan;go_wp2;exact ⟨rfl,FN.out⟩
   ·obtain rfl : k = n:=by omega
    have hKK:=HK.out;clear ht HK;subst hKK;go_wp2;go_ret
    have e1 : D = .ok (ts,zs):=by
     rw [HT.out.eq,Nat.sub_self];simp [rdEns,rdRep,pre]
    refine ⟨HT.out.on,.inr ⟨(k,ts),zs,Qa2 HMany.out (HD.out.symm.trans e1),⟨_,rfl,?_,?_,HT.out.all⟩,v2,HT.out.cur,HT.out.ob⟩⟩
    ·have:=HT.out.row
     rw [← HT.out.len] at this;exact this
    ·have:=HT.out.len
     simp only;omega
theorem Qa3 {n : Nat} {ys : List Int} (h : ys.length < n) : rdB n ys = .error 2:=if_pos h
theorem QaX {n : Nat} {ys : List Int} (h : ¬ ys.length < n) : rdB n ys = .ok (ys.take n,ys.drop n):=if_neg h
theorem Qfp {ys : List Int} (h : ys.length < 4) : rdHd ys = .error 2:=QaN (Qa3 h)
theorem hd_no {ys : List Int} (h : ¬ ys.length < 4) (hx : ys.take 4 ≠ MHD) : rdHd ys = .error 3:=Qbe (QaX h) (by simpa using hx)
theorem hd_ok {ys : List Int} (h : ¬ ys.length < 4) (hx : ys.take 4 = MHD) : rdHd ys = .ok (MHD,ys.drop 4):=by
 have:=QaX h;rw [hx] at this;exact QaS this (by simp)
theorem QgG {α β : Type} {r : RDG α} {f : α → β} {ys : List Int} {e : Int} (h : r ys = .error e) : rdAs r f ys = .error e:=by unfold rdAs;rw [h]
theorem as_ok {α β : Type} {r : RDG α} {f : α → β} {ys t : List Int} {x : α} (h : r ys = .ok (x,t)) : rdAs r f ys = .ok (f x,t):=by unfold rdAs;rw [h]
theorem QdZ {ys : List Int} (h : ys.length < 8) : rdVer ys = .error 2:=QgG (QaN (Qa3 h))
theorem Qjn {ys : List Int} (h : ¬ ys.length < 8) (hx : num (ys.take 8) = 18446744073709551615) : rdVer ys = .error 3:=QgG (Qbe (QaX h) (decide_eq_false (by simp [hx])))
theorem Qjo {ys : List Int} (h : ¬ ys.length < 8) (hx : num (ys.take 8) ≠ 18446744073709551615) : rdVer ys = .ok (num (ys.take 8),ys.drop 8):=as_ok (QaS (QaX h) (decide_eq_true hx))
theorem QbE {ys : List Int} {c : Int} (h : MRD ys = .error c) : MDEC ys = .error c:=by unfold MDEC;rw [h]
section
variable {ys y1 y2 y3 y4 y5 y6 : List Int} {hd p r : List Int} {v : Nat} {d : Nat × List (List Int)} {a : Nat × List (Nat × List Int)} {c : Int}
theorem M1 (h : rdHd ys = .error c) : MDEC ys = .error c:=QbE (Qax h)
theorem M2 (h1 : rdHd ys = .ok (hd,y1)) (h : rdVer y1 = .error c) : MDEC ys = .error c:=QbE (Qap h1 (Qax h))
theorem M3 (h1 : rdHd ys = .ok (hd,y1)) (h2 : rdVer y1 = .ok (v,y2)) (h : rdB 32 y2 = .error c) : MDEC ys = .error c:=QbE (Qap h1 (Qap h2 (Qax h)))
theorem M4 (h1 : rdHd ys = .ok (hd,y1)) (h2 : rdVer y1 = .ok (v,y2)) (h3 : rdB 32 y2 = .ok (p,y3)) (h : rdDir y3 = .error c) : MDEC ys = .error c:=QbE (Qap h1 (Qap h2 (Qap h3 (Qax h))))
theorem M5 (h1 : rdHd ys = .ok (hd,y1)) (h2 : rdVer y1 = .ok (v,y2)) (h3 : rdB 32 y2 = .ok (p,y3)) (h4 : rdDir y3 = .ok (d,y4)) (h : rdAll d.2.length y4 = .error c) : MDEC ys = .error c:=QbE (Qap h1 (Qap h2 (Qap h3 (Qap h4 (Qax h)))))
theorem M6 (h1 : rdHd ys = .ok (hd,y1)) (h2 : rdVer y1 = .ok (v,y2)) (h3 : rdB 32 y2 = .ok (p,y3)) (h4 : rdDir y3 = .ok (d,y4)) (h5 : rdAll d.2.length y4 = .ok (a,y5)) (h : rdB 32 y5 = .error c) : MDEC ys = .error c:=QbE (Qap h1 (Qap h2 (Qap h3 (Qap h4 (Qap h5 h)))))
theorem Mall (h1 : rdHd ys = .ok (hd,y1)) (h2 : rdVer y1 = .ok (v,y2)) (h3 : rdB 32 y2 = .ok (p,y3)) (h4 : rdDir y3 = .ok (d,y4)) (h5 : rdAll d.2.length y4 = .ok (a,y5)) (h6 : rdB 32 y5 = .ok (r,y6)) : MRD ys = .ok ((hd,v,p,d,a,r),y6) :=
 Qa2 h1 (Qa2 h2 (Qa2 h3 (Qa2 h4 (Qa2 h5 h6))))
theorem M7 (h : MRD ys = .ok ((hd,v,p,d,a,r),y6)) (hn : y6 ≠ []) : MDEC ys = .error 3:=by unfold MDEC;rw [h];simp only [if_neg hn]
theorem M8 (h : MRD ys = .ok ((hd,v,p,d,a,r),y6)) (hn : y6 = []) (hu : ¬ QaH d.2.length a.2 = true) : MDEC ys = .error 3:=by unfold MDEC;rw [h];simp only [if_pos hn,if_neg hu]
theorem M9 (h : MRD ys = .ok ((hd,v,p,d,a,r),y6)) (hn : y6 = []) (hu : QaH d.2.length a.2 = true) : MDEC ys = .ok ⟨v,p,a.2.map (EOF d.2),r⟩:=by unfold MDEC;rw [h];simp only [if_pos hn,if_pos hu];rfl
end
theorem Qd0 {α : Type} [DecidableEq α] : ∀ (a b : List α),a.Nodup → (∀ x ∈ a,x ∈ b) → a.length ≤ b.length
 | [],b,_,_ => by simp
 | x :: a,b,hn,hs => by
  rw [List.nodup_cons] at hn;have hx:=hs x List.mem_cons_self
  have ih:=Qd0 a (b.erase x) hn.2 (fun y hy => by
   have : y ≠ x:=fun e => hn.1 (by rw [← e];exact hy)
   exact (List.mem_erase_of_ne this).2 (hs y (List.mem_cons_of_mem _ hy)))
  rw [List.length_erase_of_mem hx] at ih;have:=List.length_pos_of_mem hx;simp only [List.length_cons];omega
theorem Qid {T : List (List Int)} {ts : List (Nat × List Int)} (hr : RIS T) (ha : ∀ t ∈ ts,t.1 < T.length) : (TEN ((ts.map (EOF T)).map Prod.fst)).length = T.length ↔ QaH T.length ts = true:=by
 have hsub : ∀ x ∈ (ts.map (EOF T)).map Prod.fst,x ∈ T:=fun x hx => by
  obtain ⟨e,he,rfl⟩:=List.mem_map.1 hx;obtain ⟨t,ht,rfl⟩:=List.mem_map.1 he;exact Qat (ha t ht)
 constructor
 ·intro hlen
  unfold QaH;rw [List.all_eq_true];intro i hi;rw [List.mem_range] at hi
  by_cases hin : T.getD i [] ∈ (ts.map (EOF T)).map Prod.fst
  ·obtain ⟨e,he,e1⟩:=List.mem_map.1 hin
   obtain ⟨t,ht,rfl⟩:=List.mem_map.1 he;rw [List.any_eq_true];refine ⟨t,ht,?_⟩;rw [beq_iff_eq,← Qd1 hr (ha t ht),← Qd1 hr hi];exact congrArg _ e1
  ·exfalso
   have hx : T.getD i [] ∈ T:=Qat hi
   have:=Qd0 (TEN ((ts.map (EOF T)).map Prod.fst)) (T.erase (T.getD i [])) (Qb9 _).nodup (fun y hy => by
    have hy':=(Qbl _ _).1 hy
    have hne : y ≠ T.getD i []:=fun e => hin (by rw [← e];exact hy')
    exact (List.mem_erase_of_ne hne).2 (hsub y hy'))
   rw [List.length_erase_of_mem hx] at this;omega
 ·intro hu
  rw [← Qdk hr (fun x => ⟨fun hx => ?_,hsub x⟩)];have hi:=Qcj hx;unfold QaH at hu;rw [List.all_eq_true] at hu;have:=hu (PLC T x) (List.mem_range.2 hi);rw [List.any_eq_true] at this;obtain ⟨t,ht,e⟩:=this;rw [beq_iff_eq] at e;refine List.mem_map.2 ⟨EOF T t,List.mem_map.2 ⟨t,ht,rfl⟩,?_⟩;unfold EOF;simp only [e];exact Qfr hx
theorem QjQ {ys t : List Int} {d : Nat × List (List Int)} (h8 : U8 ys) (h : rdDir ys = .ok (d,t)) : RIS d.2:=by
 obtain ⟨⟨_,g⟩,_⟩:=Qjt.only ys d t h8 h;have hn:=Qdo g;rw [← hn] at g;have:=(QbX d.2 [] List.Pairwise.nil).1 g;rw [List.nil_append] at this;exact this.1
section
open Go.Maps
def b8 (x : List Int) : List UInt8:=x.map fun n => UInt8.ofNat n.toNat
def i8 (l : List UInt8) : List Int:=l.map fun c => (c.toNat : Int)
theorem i8_b8 {x : List Int} (h : U8 x) : i8 (b8 x) = x:=by
 unfold i8 b8;rw [List.map_map];refine (List.map_congr_left (g:=id) (fun y hy => ?_)).trans (List.map_id _);have:=h y hy;simp only [Function.comp,id];rw [UInt8.toNat_ofNat'];omega
theorem b8_i8 (l : List UInt8) : b8 (i8 l) = l:=by
 unfold i8 b8;rw [List.map_map];refine (List.map_congr_left (g:=id) (fun y _ => ?_)).trans (List.map_id _);simp
theorem i8_u8 (l : List UInt8) : U8 (i8 l):=by
 intro y hy;simp only [i8,List.mem_map] at hy;obtain ⟨c,_,rfl⟩:=hy;have:=c.toNat_lt;omega
theorem QkT {x y : List Int} (hx : U8 x) (hy : U8 y) (h : b8 x = b8 y) : x = y:=by rw [← i8_b8 hx,← i8_b8 hy,h]
theorem Qd5 (x : List Int) : (strOfNums x).size = x.length:=strOfNums_size x
abbrev kS (x : List Int) : Lit:=.string (b8 x)
theorem QkU (x : List Int) : WideAt.IsKeyLit (kS x):=by simp [WideAt.IsKeyLit]
theorem kS_ne {x y : List Int} (hx : U8 x) (hy : U8 y) (h : x ≠ y) : kS x ≠ kS y:=fun e => h (QkT hx hy (by injection e))
theorem Qj4 {P : Program} {k : TypeId} (hk : P.underlying k = some .string) (x : List Int) (h : x.length ≤ maxLen) : keyOf P k (.string (strOfNums x)) = some (kS x):=by
 have : (strOfNums x).size ≤ maxLen:=by rw [Qd5];exact h
 simp [keyOf,hk,mapKey,this]
 rfl
def HasT (D : DataW Unit) (T : List (List Int)) : Prop:=∀ x,U8 x → Maps.has D (kS x) = decide (x ∈ T)
theorem HasT.put {D : DataW Unit} {T : List (List Int)} (h : HasT D T) (hD : IsMap D) {x : List Int} (hx : U8 x) (d : DataW Unit) : HasT (D.put (kS x) d) (T ++ [x]):=by
 intro y hy
 by_cases e : y = x
 ·subst e
  rw [has_put_same hD (QkU y),decide_eq_true (by simp)]
 ·rw [has_put_other (kS_ne hy hx e),h y hy,decide_eq_decide]
  simp [e]
theorem QeR {P : Program} {k : TypeId} (hk : P.underlying k = some .string) {R : Value → Option (DataW Unit × List MemPlace)} {w : World} {b n : Nat} {D : DataW Unit} (h : w.ownsMap P k R b n D) :
  (strKeys D).Nodup ∧ (∀ x,x ∈ strKeys D ↔ Maps.has D (.string x) = true) ∧ (strKeys D).length = Maps.size D:=by
 obtain ⟨es,rfl,hp,_⟩:=h.entries (string_keyed hk);obtain ⟨es',e',hks⟩:=h.keysOf
 cases e'
 have hks' : ∀ p ∈ es,∃ x,p.1 = .string x:=fun p hp' => by
  obtain ⟨v,hv⟩:=hks p hp';obtain ⟨x,_,e,_⟩:=Maps.keyOf_str hk hv;exact ⟨x,e⟩
 refine ⟨?_,fun x => ?_,by simp [strKeys,Maps.size]⟩
 ·show (es.map fun p => strOf p.1).Nodup
  refine List.pairwise_map.2 (hp.imp_of_mem fun {p q} hp' hq' hne e => hne ?_);obtain ⟨a,ha⟩:=hks' p hp';obtain ⟨b,hb⟩:=hks' q hq';rw [ha,hb] at e ⊢;exact congrArg _ e
 ·rw [has_eq,List.any_eq_true]
  show x ∈ es.map (fun p => strOf p.1) ↔ _
  rw [List.mem_map]
  constructor
  ·rintro ⟨p,hp',rfl⟩
   obtain ⟨a,ha⟩:=hks' p hp';exact ⟨p,hp',by rw [ha];simp [Lit.sameKey,strOf]⟩
  ·rintro ⟨p,hp',hs⟩
   obtain ⟨a,ha⟩:=hks' p hp';rw [ha] at hs;exact ⟨p,hp',by rw [ha];simpa [Lit.sameKey,strOf] using hs⟩
theorem Qiu {D : DataW Unit} {T : List (List Int)} (hU : ∀ x ∈ T,U8 x) (hT : HasT D T) (hn : (strKeys D).Nodup) (hm : ∀ x,x ∈ strKeys D ↔ Maps.has D (.string x) = true) {ss : List (List UInt8)} (hp : ss.Perm (strKeys D)) :
  (ss.mergeSort (fun x y => decide (x ≤ y))).map i8 = TEN T:=by
 have tr : ∀ a b c : List UInt8,decide (a ≤ b) = true → decide (b ≤ c) = true → decide (a ≤ c) = true:=fun a b c h1 h2 => by simp only [decide_eq_true_eq] at *;exact List.le_trans h1 h2
 have to : ∀ a b : List UInt8,(decide (a ≤ b) || decide (b ≤ a)) = true:=fun a b => by simp only [Bool.or_eq_true,decide_eq_true_eq];exact List.le_total a b
 have pw:=List.pairwise_mergeSort (le:=fun x y : List UInt8 => decide (x ≤ y)) tr to ss;have pp:=List.mergeSort_perm ss (fun x y => decide (x ≤ y));refine Qdk (QfV (pw.imp fun {a b} k => ?_) ((pp.trans hp).nodup_iff.2 hn)) (fun x => ?_)
 ·have k' : a ≤ b:=by simpa using k
  rw [bytesLess_eq,decide_eq_false_iff_not];exact k'
 ·rw [List.mem_map]
  constructor
  ·rintro ⟨s,hs,rfl⟩
   have h1:=(hm s).1 ((pp.trans hp).mem_iff.1 hs);have h2:=hT (i8 s) (i8_u8 s);rw [show kS (i8 s) = .string s by rw [kS,b8_i8]] at h2;rw [h2] at h1;exact of_decide_eq_true h1
  ·intro hx
   refine ⟨b8 x,(pp.trans hp).mem_iff.2 ((hm _).2 ?_),i8_b8 (hU x hx)⟩;rw [show (Lit.string (b8 x)) = kS x from rfl,hT x (hU x hx),decide_eq_true hx]
theorem Qiv {D : DataW Unit} {T : List (List Int)} (hU : ∀ x ∈ T,U8 x) (hT : HasT D T) (hn : (strKeys D).Nodup) (hm : ∀ x,x ∈ strKeys D ↔ Maps.has D (.string x) = true) (hs : (strKeys D).length = Maps.size D) : Maps.size D = (TEN T).length:=by
 rw [← Qiu hU hT hn hm (List.Perm.refl _),List.length_map,List.length_mergeSort,hs]
end
section
open Go.Maps
theorem law9 : Keyed Tryz.prog 9:=string_keyed Tryz.underlying9
theorem QjW {y : Nat} (h : y ≤ 1048576) : (Lit.int .i64 (y : Int)).wf = true:=by
 have e1 : IntKind.i64.min = -9223372036854775808:=by decide
 have e2 : IntKind.i64.max = 9223372036854775807:=by decide
 simp only [Lit.wf,e1,e2,Bool.and_eq_true,decide_eq_true_eq];omega
structure TMap (w wr : World) (es : List (List Int × Int)) (k : Nat) : Prop where
 map : ∃ D,wr.ownsMap Tryz.prog 9 (plainElem (H:=Unit) Tryz.prog 3) w.heap.size k D ∧ HasT D ((es.map Prod.fst).take k)
 on : Only (fun _ => False) w wr
theorem QkO (es : List (List Int × Int)) (k : Nat) (h : k < es.length) : (es.map Prod.fst).take (k + 1) = (es.map Prod.fst).take k ++ [(es.getD k ([],0)).1]:=by
 rw [List.take_succ_eq_append_getElem (by simpa using h),List.getElem_map,List.getD_eq_getElem?_getD,List.getElem?_eq_getElem h]
 rfl
theorem Qdn (v : Value) (es : List (List Int × Int)) (w : World) (h : Ens w v es) (hu : EU8 es) (hl : es.length ≤ 1048576) (hx : ∀ e ∈ es,e.1.length ≤ maxLen) :
  Calls Tryz.prog 140 #[v] w fun e w' => e = .returned (.map (some w.heap.size)) ∧ TMap w w' es es.length:=by
 have hmm:=@run_makeMap Tryz.prog;obtain ⟨ao,cap,rfl⟩:=h.len;have HB:=Qaa h;have HU:=Qaa hu;have HX:=Qaa hx;obtain ⟨m,hm⟩ : ∃ m,m = es.length:=⟨_,rfl⟩;rw [← hm] at HB hl;rw [← hm];have HM:=Qaa hm
 have F0 : Hid (TMap w (w.alloc (.map #[] 0)) es 0) :=
  ⟨⟨_,World.ownsMap_made _ _ _ _,fun x _ => by simp [Maps.has]⟩,(Only.refl _ _).alloc _⟩
 clear h hm hu hx;go_enter Tryz.func140,Tryz.ntmps140;go_wp2
 go_loopw [9] (fun i wr => ∃ k : Nat,k ≤ m ∧ i = .int .i64 k ∧ TMap w wr es k) (fun i _ => m - (intOf i).toNat)
 case atStart => exact ⟨0,Nat.zero_le _,rfl,F0.out⟩
 case round =>
  clear F0;obtain ⟨k,hk,rfl,⟨D,hmap,hT⟩,hon⟩:=hrel
  by_cases hlt : k < m
  ·have hlt' : k < es.length:=by rw [← HM.out];exact hlt
   obtain ⟨b,off,cap',e,hc0,hc1⟩:=(HB.out.past hon).at k hlt';simp only [Value.slice.injEq] at e;obtain ⟨rfl,hmx,rfl⟩:=e;clear hmx;have hmem : es.getD k ([],0) ∈ es:=Qat hlt';have ST:=Qaa (QkO es k hlt');obtain ⟨x,hx⟩ : ∃ x,x = es.getD k ([],0):=⟨_,rfl⟩;rw [← hx] at ST hc0 hc1 hmem;have hkey : keyOf Tryz.prog 9 (.string (strOfNums x.1)) = some (kS x.1):=Qj4 Tryz.underlying9 _ (HX.out x hmem);have XU:=Qaa (HU.out x hmem);have HT:=Qaa hT;have HO:=Qaa hon
   have i1 : (k : Int) < (m : Int):=by omega
   have hlo:=hmap.lt;clear hx hT hon hmem hlt' HB
   go_wp2_with (first
    | (at_mapUpdate;refine wpList_mapUpdate_own _ rfl _ _ _ 165 rfl 9 3 law9 Tryz.underlying165 (plainElem (H:=Unit) Tryz.prog 3) w.heap.size k _ rfl (hmap.alloc _) (by unfold maxLen;omega) _ _ _ rfl rfl hkey _ [] (plainElem_int Tryz.underlying3 (QjW (y:=0) (by omega))) ?_;intro w1 hown1 hgrow1)
    | fail)
   go_roundw
   case rel =>
    refine ⟨k + 1,by omega,by go_num,⟨_,hown1,?_⟩,(HO.out.alloc _).grown hgrow1 (fun j hj e => by injection e;omega)⟩;rw [ST.out];exact HT.out.put hmap.isMap XU.out _
   case measure => simp [intOf];omega
  ·obtain rfl : k = m:=by omega
   have HF : Hid (TMap w wr es k):=⟨⟨D,hmap,hT⟩,hon⟩;clear hmap hT hon;go_wp2;go_ret;exact ⟨rfl,HF.out⟩
end
end Go.Proofs.YtcpopagikbjimaaGreatDoor
