/- Several texts in one: Rd9. -/
import Derived.Test.YthapipgaohlgdaaGreatDoorG27
import Derived.Test.YthapipgaohlgdaaGreatDoorG7


namespace Go.Proofs.YthapipgaohlgdaaGreatDoor
set_option maxRecDepth 100000
open Go.RowKit
structure Rx (w : World) (R : Nat) (wr : World) (v : Value) (l : List Bool) (c : Int) (o : Value) (n : Nat) (acc : List Int) : Prop where
 rf : RfAt wr R v l c
 be : Below w.heap.size w wr
 own : wr.ownsRow (R + 1) 42 1 o n (acc.map (Value.int .u64))
 vb : ∀ k,v.ownBlock = some k → k < R
 gt : w.heap.size ≤ R
theorem Rx.get {w : World} {R : Nat} {wr w2 : World} {v v2 : Value} {l l2 : List Bool} {c c2 : Int} {o : Value} {n : Nat} {acc : List Int} (h : Rx w R wr v l c o n acc) (h2 : RfAt w2 R v2 l2 c2) (e : v2.ownBlock = v.ownBlock) (on : Only (fun k => k = R) wr w2) : Rx w R w2 v2 l2 c2 o n acc :=
 ⟨h2,h.be.trans (on.below (B:=w.heap.size) h.be.size (fun k e => by have:=h.gt;omega)),on.own h.own (fun k hk e => by have:=(h.own.lt k hk).1;omega),fun k hk => h.vb k (by rw [← e];exact hk),h.gt⟩
theorem Rx.bad {w : World} {R : Nat} {wr : World} {v : Value} {l : List Bool} {c : Int} {o : Value} {n : Nat} {acc : List Int} (h : Rx w R wr v l c o n acc) (c2 : Int) : Rx w R (wr.setCell ⟨R,1,none⟩ (.int .i64 c2)) v l c2 o n acc:=by
 have on : Only (fun k => k = R) wr (wr.setCell ⟨R,1,none⟩ (.int .i64 c2)):=(Only.refl (fun k => k = R) wr).setCell (p:=⟨R,1,none⟩) (fun _ => rfl) _
 exact h.get ⟨h.rf.bs.keep on (fun k hk e => h.rf.ap (by rw [hk,e])),(heap_two h.rf.cell (.int .i64 c2)).2,h.rf.ap,h.rf.len⟩ rfl on
theorem Rx.grow {w : World} {R : Nat} {wr w2 : World} {v : Value} {l : List Bool} {c : Int} {o o2 : Value} {n n2 : Nat} {acc acc2 : List Int} {ob : Obj} (h : Rx w R wr v l c o n acc) (g : (wr.alloc ob).grownBy w2 o.ownBlock) (own : w2.ownsRow (R + 1) 42 1 o2 n2 (acc2.map (Value.int .u64))) : Rx w R w2 v l c o2 n2 acc2:=by
 have oo : Only (fun k => o.ownBlock = some k) wr w2:=((Only.refl (fun k => o.ownBlock = some k) wr).alloc ob).grown g (fun k _ e => e)
 have hg:=h.gt
 exact ⟨h.rf.keep oo (fun e => by have:=(h.own.lt _ e).1;omega) (fun k hk e => by have:=(h.own.lt _ e).1;have:=h.vb k hk;omega),
  h.be.trans (oo.below (B:=w.heap.size) h.be.size (fun k e => by have:=(h.own.lt _ e).1;omega)),own,h.vb,h.gt⟩
theorem Rx.lt {w : World} {R : Nat} {wr : World} {v : Value} {l : List Bool} {c : Int} {o : Value} {n : Nat} {acc : List Int} (h : Rx w R wr v l c o n acc) : R < wr.heap.size:=heap_in h.rf.cell
theorem Rx.len {w : World} {R : Nat} {wr : World} {v : Value} {l : List Bool} {c : Int} {o : Value} {n : Nat} {acc : List Int} (h : Rx w R wr v l c o n acc) : acc.length = n:=by
 have:=h.own.1
 simpa using this
theorem Rx.last {w : World} {R : Nat} {wr : World} {v : Value} {l : List Bool} {c : Int} {g m cp : Nat} {acc : List Int} (h : Rx w R wr v l c (.slice (some ⟨g,0,none⟩) (m + 1) cp) (m + 1) acc) {f : Nat} (hf : acc.getD m 0 = (f : Int)) : wr.cell? ⟨g,m,none⟩ = some (.int .u64 f):=by
 have hl:=h.len
 rw [World.ownsRow.cellAt h.own m (by omega),List.getElem?_map]
 rw [List.getD_eq_getElem?_getD,List.getElem?_eq_getElem (by omega)] at hf
 rw [List.getElem?_eq_getElem (by omega)]
 simp only [Option.getD_some] at hf
 rw [Option.map_some,hf]
theorem getD_snoc_last (acc : List Int) (y : Int) (m : Nat) (h : acc.length = m) : (acc ++ [y]).getD m 0 = y:=by
 subst h
 simp [List.getD_eq_getElem?_getD]
theorem W3.win {wn : Option (Nat × Nat)} {a z : Int} (h : W3 wn a z) : Win wn:=by
 rcases h with ⟨rfl,_,_⟩ | ⟨a',z',rfl,_,_,h5,h6⟩
 ·exact Win.none
 ·intro x y e
  simp only [Option.some.injEq,Prod.mk.injEq] at e
  obtain ⟨rfl,rfl⟩:=e
  exact ⟨h5,h6⟩
theorem gR_less {wn : Option (Nat × Nat)} (l : List Bool) (h : (gR wn l).2.2.2 = 0) : (gR wn l).2.2.1.length < l.length:=by
 match l,h with
 | [],h => exact absurd h (by simp [gR])
 | false :: r,_ => simp [gR]
 | [true],h => exact absurd h (by simp [gR])
 | true :: false :: r,h =>
  cases wn with
  | none => exact absurd h (by simp [gR])
  | some p =>
   obtain ⟨a,z⟩:=p
   rw [gR] at h ⊢
   by_cases hl : r.length < 64 - a - z
   ·rw [if_pos hl] at h;cases h
   ·rw [if_neg hl]
    simp only [List.length_drop,List.length_cons]
    omega
 | true :: true :: r,h =>
  rw [gR] at h ⊢
  by_cases c1 : r.length < 5
  ·rw [if_pos c1] at h;cases h
  ·rw [if_neg c1] at h ⊢
   by_cases c2 : r.length < 11
   ·rw [if_pos c2] at h;cases h
   ·rw [if_neg c2] at h ⊢
    by_cases c3 : 63 < bnum (r.take 5) + bnum ((r.drop 5).take 6)
    ·rw [if_pos c3] at h;cases h
    ·rw [if_neg c3] at h ⊢
     by_cases c4 : r.length < 12 + bnum ((r.drop 5).take 6)
     ·rw [if_pos c4] at h;cases h
     ·rw [if_neg c4]
      simp only [List.length_drop,List.length_cons]
      omega
theorem gDA_le : ∀ (n : Nat) (acc : List Int) (p : Nat) (wn : Option (Nat × Nat)) (l : List Bool),(gDA n acc p wn l).2 = 0 → n ≤ l.length
 | 0,_,_,_,_,_ => Nat.zero_le _
 | n + 1,acc,p,wn,l,h => by
  rw [gDA] at h
  by_cases hc : (gR wn l).2.2.2 ≠ 0
  ·rw [if_pos hc] at h;exact absurd h hc
  ·rw [if_neg hc] at h
   have h1:=gDA_le n _ _ _ _ h
   have h2:=gR_less l (by simpa using hc)
   omega
theorem gRd_le {l : List Bool} {n : Nat} (h : (gRd l n).2 = 0) : n ≤ l.length:=by
 unfold gRd at h
 by_cases h0 : n = 0
 ·omega
 ·rw [if_neg h0] at h
  by_cases h1 : l.length < 64
  ·rw [if_pos h1] at h;cases h
  ·rw [if_neg h1] at h
   have:=gDA_le _ _ _ _ _ h
   rw [List.length_drop] at this
   omega
theorem shl_mod {y z d : Nat} (hy : y < 2 ^ d) (h : z + d ≤ 64) : (y : Int) * 2 ^ z % 18446744073709551616 = ((y * 2 ^ z : Nat) : Int):=by
 have:=shl_back hy h
 rwa [IntKind.wrap_u64] at this
theorem ENC9_len2 (xs : List Int) : (ENC9 xs).1.length ≤ 1000000:=by
 unfold ENC9
 by_cases h : 65536 < xs.length
 ·rw [if_pos h];simp
 ·rw [if_neg h]
  have:=(GB_len xs).1
  simp only [bytesI_length];unfold nb;omega
theorem app_one (W : World) (y : Int) (s : Nat) (hs : W.heap.size = s) : (∀ j u,[Value.int .u64 y][j]? = some u → (W.alloc (.cells #[.int .u64 y] 42)).cell? ((⟨s,0,none⟩ : Addr).add j) = some u) ∧ (W.alloc (.cells #[.int .u64 y] 42)).heap.size = s + 1:=by
 subst hs
 exact ⟨cell_one_new _ _ _,Array.size_push ..⟩
theorem one_int (y : Int) : ∀ u ∈ [Value.int .u64 y],u.oneCell' = true:=by
 intro u hu;simp at hu;subst hu;rfl
theorem xor_zero (f : Nat) (hf : f < 18446744073709551616) : bits .xor .u64 0 (f : Int) = (f : Int):=by
 have:=bits_xor_u64_nat 0 f (by omega) hf
 rw [Nat.zero_xor] at this
 exact this
set_option maxHeartbeats 400000 in
theorem rdecode9_arg (v : Value) (n : Int) (w : World) (h : n < 0 ∨ 65536 < n) :
  Calls Tryz.prog 94 #[v,.int .i64 n] w fun e w' => e = .returned (.tuple #[.slice none 0 0,.int .i64 1]) ∧ w = w':=by
 by_cases h0 : n < 0
 ·have d0 : decide (n < 0) = true:=decide_eq_true h0
  clear h
  go_enter Tryz.func94,Tryz.ntmps94
  go_wp2
  go_ret2
  exact ⟨rfl,rfl⟩
 ·have d0 : decide (n < 0) = false:=decide_eq_false h0
  have d1 : decide (65536 < n) = true:=decide_eq_true (by omega)
  clear h
  go_enter Tryz.func94,Tryz.ntmps94
  go_wp2
  go_ret2
  exact ⟨rfl,rfl⟩
set_option maxHeartbeats 16000000 in
theorem rdecode9_bs (v : Value) (ys : List Int) (N : Nat) (w : World) (h : Bs .u8 w v ys) (hr : ∀ y ∈ ys,0 ≤ y ∧ y ≤ 255) (hl : ys.length ≤ 1000) (hN : N ≤ 65536) :
  Calls Tryz.prog 94 #[v,.int .i64 N] w fun e w' => ∃ u,e = .returned (.tuple #[u,.int .i64 (DEC9 ys N).2]) ∧ w'.ownsRow w.heap.size 42 1 u (DEC9 ys N).1.length ((DEC9 ys N).1.map (Value.int .u64)) ∧ Only (fun _ => False) w w':=by
 obtain ⟨i0,hi,hz0,hz1,hz2⟩:=info_parts Tryz.infoU64
 obtain ⟨D,hD⟩ : ∃ D,D = DEC9 ys N:=⟨_,rfl⟩
 rw [← hD]
 unfold DEC9 at hD
 rw [if_neg (by omega),Int.toNat_natCast] at hD
 have d0 : decide ((N : Int) < 0) = false:=by simp
 have d1 : decide (65536 < (N : Int)) = false:=by simp;omega
 have HBS:=hideIt h
 have HL:=hideIt hl
 have OF:=hideIt (of_bs v ys w h hr (by omega))
 have HG0 : Hid (0 < N → (allBits ys).length < 64 → gRd (allBits ys) N = ([],2)):=fun h1 h2 => by unfold gRd;rw [if_neg (by omega),if_pos h2]
 have HG1 : Hid (0 < N → 64 ≤ (allBits ys).length → gDA (N - [((bnum ((allBits ys).take 64) : Nat) : Int)].length) [((bnum ((allBits ys).take 64) : Nat) : Int)] (bnum ((allBits ys).take 64)) none ((allBits ys).drop 64) = gRd (allBits ys) N):=fun h1 h2 => by
  unfold gRd;rw [if_neg (by omega),if_neg (by omega)];rfl
 have HGZ : Hid (N = 0 → gRd (allBits ys) N = ([],0)):=fun h1 => by unfold gRd;rw [if_pos h1]
 have HGL : Hid ((gRd (allBits ys) N).2 = 0 → N ≤ 10000 ∧ U64 (gRd (allBits ys) N).1 ∧ (gRd (allBits ys) N).1.length = N):=fun h1 => by
  have:=gRd_le h1
  have h2:=gRd_ok h1
  rw [allBits_length] at this
  exact ⟨by omega,h2.1,h2.2⟩
 have hal : (allBits ys).length ≤ 8000:=by rw [allBits_length];omega
 generalize allBits ys = LB at *
 obtain ⟨Q,hQ⟩ : ∃ Q,Q = gRd LB N:=⟨_,rfl⟩
 rw [← hQ] at hD HG0 HG1 HGZ HGL
 have HD:=hideIt hD
 clear h hr hD hQ hl
 go_enter Tryz.func94,Tryz.ntmps94
 go_wp2_with fail
 refine OF.out.mono ?_
 rintro e w1 ⟨v1,rfl,own1,o1⟩
 have hlt1:=own1.lt
 have oA : Only (fun _ => False) w1 (w1.alloc (.cells #[v1,.int .i64 0] 134)):=(Only.refl _ _).alloc _
 have X0 : Hid (Rx w w1.heap.size (w1.alloc (.cells #[v1,.int .i64 0] 134)) v1 LB 0 (.slice none 0 0) 0 []) :=
  ⟨⟨(bs_bits own1).past oA,heap_alloc_last _ _,fun e => absurd (hlt1 _ e).2 (Nat.lt_irrefl _),by omega⟩,(o1.low (Nat.le_refl _)).alloc o1.size _,World.ownsRow_nil _ _ _ _,fun k hk => (hlt1 k hk).2,o1.size⟩
 obtain ⟨ao1,cap1,ev1⟩:=(bs_bits own1).len
 rw [bitsI_length] at ev1
 obtain ⟨nl,hnl⟩ : ∃ nl,nl = LB.length:=⟨_,rfl⟩
 rw [← hnl] at ev1
 subst ev1
 clear OF own1 o1 hlt1 oA hnl
 go_wp2
 go_loopw [7,8,9,10] (fun o av zv iv wr => (o = .slice none 0 0 ∧ av = .int .i64 (-1) ∧ zv = .int .i64 (-1) ∧ iv = .int .i64 0 ∧ Rx w w1.heap.size wr (.slice ao1 nl cap1) LB 0 (.slice none 0 0) 0 []) ∨
  (∃ (m : Nat) (acc : List Int) (f : Nat) (wn : Option (Nat × Nat)) (v : Value) (l : List Bool) (a z : Int),iv = .int .i64 ((m : Int) + 1) ∧ av = .int .i64 a ∧ zv = .int .i64 z ∧ acc.getD m 0 = (f : Int) ∧ f < 18446744073709551616 ∧ W3 wn a z ∧ Rx w w1.heap.size wr v l 0 o (m + 1) acc ∧ gDA (N - acc.length) acc f wn l = Q ∧ m + 1 ≤ N) ∨
  (∃ (j : Nat) (v : Value) (c : Int),iv = .int .i64 j ∧ c ≠ 0 ∧ wr.heap[w1.heap.size]? = some (.cells #[v,.int .i64 c] 134 (0,0)) ∧ Below w.heap.size w wr ∧ Q = ([],c) ∧ j ≤ N)) (fun _ _ _ i _ => N - (intOf i).toNat)
 case atStart => exact .inl ⟨rfl,rfl,rfl,rfl,X0.out⟩
 case round =>
  clear X0
  rcases hrel with ⟨rfl,rfl,rfl,rfl,hX⟩ | ⟨m,acc,f,wn,vv,l,a,z,rfl,rfl,rfl,hlast,hf,hw3,hX,hg,hmN⟩ | ⟨j,vv,c,rfl,hc,hcell,hbe,hq,hjN⟩
  ·have X0:=hideIt hX
   clear hX
   obtain ⟨k0,k1,_,_⟩:=two_cells X0.out.rf.cell
   by_cases hN0 : N = 0
   ·subst hN0
    have HQA : Hid (Q = ([],0)):=HGZ.out rfl
    have HD2 : Hid (D = if (ENC9 ([] : List Int)).1 = ys then (([] : List Int),0) else ([],3)):=by simp only [Hid];rw [HD.out,HQA.out];simp
    have hgl:=HGL.out (by rw [HQA.out])
    rw [HQA.out] at hgl
    simp only at hgl
    have EN:=hideIt (rencode9_all (.slice none 0 0) ([] : List Int) wr (Bs.of_own (lo:=w1.heap.size + 1) (E:=42) (X0.out.own)) hgl.2.1 (.inl (by rw [hgl.2.2];exact hgl.1)))
    have BBE:=hideIt X0.out.be
    have OWX:=hideIt (own_low X0.out.own (lo':=w.heap.size) (by have:=X0.out.gt;omega))
    clear hgl
    go_wp2_with fail
    refine EN.out.mono ?_
    rintro e w3 ⟨v3,rfl,own3,o3⟩
    have SM:=hideIt (same_any v3 v (ENC9 ([] : List Int)).1 ys w3 (Bs.of_own own3) ((HBS.out.later BBE.out).past o3) (by have:=ENC9_len2 ([] : List Int);omega))
    have O3:=hideIt ((only_of_below BBE.out).same o3)
    have OW3:=hideIt (o3.own OWX.out (fun _ _ f => f))
    obtain ⟨a7,c7,e7⟩:=(Bs.of_own own3).len
    subst e7
    clear EN own3 o3 OWX BBE k0 k1
    generalize (ENC9 ([] : List Int)).1 = EE at *
    by_cases he : EE = ys
    ·rw [decide_eq_true he] at SM
     have hD:=HD2.out
     rw [if_pos he] at hD
     have HD3:=hideIt hD
     clear HD2 he hD
     generalize EE.length = m2 at *
     go_wp2_with fail
     refine SM.out.mono ?_
     rintro e w4 ⟨rfl,o4⟩
     have O4:=hideIt (O3.out.same o4)
     have OW4:=hideIt (o4.own OW3.out (fun _ _ f => f))
     clear SM o4
     go_wp2
     go_ret2
     have hD:=HD3.out
     subst hD
     exact ⟨_,rfl,OW4.out,O4.out⟩
    ·rw [decide_eq_false he] at SM
     have hD:=HD2.out
     rw [if_neg he] at hD
     have HD3:=hideIt hD
     clear HD2 he hD
     generalize EE.length = m2 at *
     go_wp2_with fail
     refine SM.out.mono ?_
     rintro e w4 ⟨rfl,o4⟩
     have O4:=hideIt (O3.out.same o4)
     clear SM o4
     go_wp2
     go_ret2
     have hD:=HD3.out
     subst hD
     exact ⟨_,rfl,World.ownsRow_nil _ _ _ _,O4.out⟩
   have dN : decide ((0 : Int) < (N : Int)) = true:=by simp;omega
   have hNp : 0 < N:=by omega
   by_cases h64 : LB.length < 64
   ·have HQE : Hid (Q = ([],2)):=HG0.out hNp h64
    have PH1:=hideIt (rget9_cut X0.out.rf 64 (by omega) h64)
    go_wp2_with fail
    refine PH1.out.mono ?_
    rintro e w2 ⟨rfl,r1,o1⟩
    have X1:=hideIt (X0.out.get r1 rfl o1)
    clear r1 o1 X0 PH1
    obtain ⟨HA1,HA2⟩:=app_one w2 0 w2.heap.size rfl
    have HN1:=hideIt HA1
    have HN2:=hideIt HA2
    have HN3 : Hid (0 + 1 ≤ maxLen):=by simp only [Hid];unfold maxLen;omega
    have HN4 : Hid ((0 + 1) * 8 ≤ 140737488355328):=by simp only [Hid];omega
    have HN5 : Hid (w1.heap.size + 1 ≤ (w2.alloc (.cells #[.int .u64 0] 42)).heap.size):=by have:=X1.out.lt;simp only [Hid];rw [HA2];have hh : w2.heap.size = w2.heap.size:=rfl;omega
    have OWA:=hideIt (X1.out.own.alloc (.cells #[.int .u64 0] 42))
    clear HA1 HA2
    go_wp2_with (at_builtin;go_loud (refine wpList_append_lies _ rfl _ _ _ rfl (w1.heap.size + 1) 42 i0 (.int .u64 0) 1 8 Tryz.underlying46 hi hz0 hz1 hz2 rfl (by omega) _ (0) _ rfl OWA.out ⟨w2.heap.size,0,none⟩ 1 1 [.int .u64 0] rfl rfl HN1.out (one_int _) (by omega) HN3.out HN4.out HN5.out (w2.heap.size + 1) HN2.out ?_))
    intro g8 cap8 w8 hown8 hgrow8 hat8 hg8
    have own8 : w8.ownsRow (w1.heap.size + 1) 42 1 (.slice (some ⟨g8,0,none⟩) (0 + 1) cap8) (0 + 1) ((([] : List Int) ++ [(0 : Int)]).map (Value.int .u64)):=by rw [List.map_append];exact hown8
    have X8:=hideIt (X1.out.grow hgrow8 own8)
    clear hown8 hgrow8 hat8 hg8 own8 OWA HN1 HN2 HN3 HN4 HN5
    go_wp2
    go_roundw
    case rel => exact .inr (.inr ⟨1,_,2,rfl,by omega,X8.out.rf.cell,X8.out.be,HQE.out,by omega⟩)
    case measure => simp [intOf];omega
   ·have h64' : 64 ≤ LB.length:=by omega
    have HQE:=hideIt (HG1.out hNp h64')
    have hf0 : bnum (LB.take 64) < 18446744073709551616:=by
     have:=bnum_take_lt LB 64
     rwa [p64] at this
    have P1:=rget9_at X0.out.rf 64 (by omega) h64'
    have PH1:=hideIt P1
    clear P1
    go_wp2_with fail
    refine PH1.out.mono ?_
    rintro e w2 ⟨rfl,⟨v2,r1,e1⟩,o1⟩
    have X1:=hideIt (X0.out.get r1 e1 o1)
    clear r1 e1 o1 X0 PH1
    generalize bnum (LB.take 64) = f0 at *
    obtain ⟨HA1,HA2⟩:=app_one w2 f0 w2.heap.size rfl
    have HN1:=hideIt HA1
    have HN2:=hideIt HA2
    have HN3 : Hid (0 + 1 ≤ maxLen):=by simp only [Hid];unfold maxLen;omega
    have HN4 : Hid ((0 + 1) * 8 ≤ 140737488355328):=by simp only [Hid];omega
    have HN5 : Hid (w1.heap.size + 1 ≤ (w2.alloc (.cells #[.int .u64 f0] 42)).heap.size):=by have:=X1.out.lt;simp only [Hid];rw [HA2];have hh : w2.heap.size = w2.heap.size:=rfl;omega
    have OWA:=hideIt (X1.out.own.alloc (.cells #[.int .u64 f0] 42))
    clear HA1 HA2
    go_wp2_with (at_builtin;go_loud (refine wpList_append_lies _ rfl _ _ _ rfl (w1.heap.size + 1) 42 i0 (.int .u64 0) 1 8 Tryz.underlying46 hi hz0 hz1 hz2 rfl (by omega) _ (0) _ rfl OWA.out ⟨w2.heap.size,0,none⟩ 1 1 [.int .u64 f0] rfl rfl HN1.out (one_int _) (by omega) HN3.out HN4.out HN5.out (w2.heap.size + 1) HN2.out ?_))
    intro g8 cap8 w8 hown8 hgrow8 hat8 hg8
    have own8 : w8.ownsRow (w1.heap.size + 1) 42 1 (.slice (some ⟨g8,0,none⟩) (0 + 1) cap8) (0 + 1) ((([] : List Int) ++ [(f0 : Int)]).map (Value.int .u64)):=by rw [List.map_append];exact hown8
    have X8:=hideIt (X1.out.grow hgrow8 own8)
    clear hown8 hgrow8 hat8 hg8 own8 OWA HN1 HN2 HN3 HN4 HN5
    go_wp2
    go_roundw
    case rel => exact .inr (.inl ⟨0,[(f0 : Int)],f0,none,_,_,-1,-1,rfl,rfl,rfl,rfl,hf0,.inl ⟨rfl,rfl,rfl⟩,X8.out,HQE.out,by omega⟩)
    case measure => simp [intOf];omega
  ·obtain ⟨g,cp,rfl,_,_⟩:=World.ownsRow.form hX.own (Nat.succ_pos _)
   have X0:=hideIt hX
   have hacc:=hX.len
   have HLAST:=hideIt hlast
   have HG:=hideIt hg
   have HW3:=hideIt hw3
   obtain ⟨k0,k1,_,_⟩:=two_cells X0.out.rf.cell
   clear hX hlast hg hw3
   by_cases hlt : m + 1 < N
   case neg =>
    have dlt : decide ((m : Int) + 1 < (N : Int)) = false:=by simp;omega
    have HQA : Hid (Q = (acc,0)):=by simp only [Hid];rw [← HG.out,gDA_done (by omega)]
    have HACC:=hideIt hacc
    clear hacc k0 k1
    have HD2 : Hid (D = if (ENC9 acc).1 = ys then (acc,0) else ([],3)):=by simp only [Hid];rw [HD.out,HQA.out];simp
    have hgl:=HGL.out (by rw [HQA.out])
    rw [HQA.out] at hgl
    simp only at hgl
    have EN:=hideIt (rencode9_all (.slice (some ⟨g,0,none⟩) (m + 1) cp) acc wr (Bs.of_own (lo:=w1.heap.size + 1) (E:=42) (by rw [HACC.out];exact X0.out.own)) hgl.2.1 (.inl (by rw [hgl.2.2];exact hgl.1)))
    have BBE:=hideIt X0.out.be
    have OWX:=hideIt (own_low X0.out.own (lo':=w.heap.size) (by have:=X0.out.gt;omega))
    obtain ⟨k0,k1,_,_⟩:=two_cells X0.out.rf.cell
    clear hgl
    go_wp2_with fail
    refine EN.out.mono ?_
    rintro e w3 ⟨v3,rfl,own3,o3⟩
    have SM:=hideIt (same_any v3 v (ENC9 acc).1 ys w3 (Bs.of_own own3) ((HBS.out.later BBE.out).past o3) (by have:=ENC9_len2 acc;omega))
    have O3:=hideIt ((only_of_below BBE.out).same o3)
    have OW3:=hideIt (o3.own OWX.out (fun _ _ f => f))
    obtain ⟨a7,c7,e7⟩:=(Bs.of_own own3).len
    subst e7
    clear EN own3 o3 OWX BBE k0 k1
    generalize (ENC9 acc).1 = EE at *
    by_cases he : EE = ys
    ·rw [decide_eq_true he] at SM
     have hD:=HD2.out
     rw [if_pos he] at hD
     have HD3:=hideIt hD
     clear HD2 he hD
     generalize EE.length = m2 at *
     go_wp2_with fail
     refine SM.out.mono ?_
     rintro e w4 ⟨rfl,o4⟩
     have O4:=hideIt (O3.out.same o4)
     have OW4:=hideIt (o4.own OW3.out (fun _ _ f => f))
     clear SM o4
     go_wp2
     go_ret2
     have hD:=HD3.out
     subst hD
     exact ⟨_,rfl,by have:=OW4.out;rw [HACC.out];exact this,O4.out⟩
    ·rw [decide_eq_false he] at SM
     have hD:=HD2.out
     rw [if_neg he] at hD
     have HD3:=hideIt hD
     clear HD2 he hD
     generalize EE.length = m2 at *
     go_wp2_with fail
     refine SM.out.mono ?_
     rintro e w4 ⟨rfl,o4⟩
     have O4:=hideIt (O3.out.same o4)
     clear SM o4
     go_wp2
     go_ret2
     have hD:=HD3.out
     subst hD
     exact ⟨_,rfl,World.ownsRow_nil _ _ _ _,O4.out⟩
   have dlt : decide ((m : Int) + 1 < (N : Int)) = true:=by simp;omega
   have di : ((m : Int) + 1 == 0) = false:=by rw [beq_eq_false_iff_ne];omega
   have hm6 : m + 1 < 65536:=by omega
   have hx0:=xor_zero f hf
   have HACC:=hideIt hacc
   have HBADQ : Hid ((gR wn l).2.2.2 ≠ 0 → Q = ([],(gR wn l).2.2.2)):=fun hb => by rw [← HG.out,gDA_bad (by have:=HACC.out;omega) f wn l hb]
   have HNEXT : Hid ((gR wn l).2.2.2 = 0 → gDA (N - (acc ++ [((f ^^^ (gR wn l).1 : Nat) : Int)]).length) (acc ++ [((f ^^^ (gR wn l).1 : Nat) : Int)]) (f ^^^ (gR wn l).1) (gR wn l).2.1 (gR wn l).2.2.1 = Q):=fun hb => by rw [← HG.out,gDA_next (by have:=HACC.out;omega) f wn l hb]
   clear hacc HG
   rcases l with _ | ⟨_ | _,r⟩
   ·have HQE : Hid (Q = ([],2)):=HBADQ.out (by simp [gR])
    have PH1:=hideIt (rget9_cut X0.out.rf 1 (by omega) (by simp))
    go_wp2_with fail
    refine PH1.out.mono ?_
    rintro e w2 ⟨rfl,r1,o1⟩
    have X1:=hideIt (X0.out.get r1 rfl o1)
    clear r1 o1 X0 PH1
    have lc:=X1.out.last HLAST.out
    obtain ⟨HA1,HA2⟩:=app_one w2 f w2.heap.size rfl
    have HN1:=hideIt HA1
    have HN2:=hideIt HA2
    have HN3 : Hid (m + 1 + 1 ≤ maxLen):=by simp only [Hid];unfold maxLen;omega
    have HN4 : Hid ((m + 1 + 1) * 8 ≤ 140737488355328):=by simp only [Hid];omega
    have HN5 : Hid (w1.heap.size + 1 ≤ (w2.alloc (.cells #[.int .u64 f] 42)).heap.size):=by have:=X1.out.lt;simp only [Hid];rw [HA2];have hh : w2.heap.size = w2.heap.size:=rfl;omega
    have OWA:=hideIt (X1.out.own.alloc (.cells #[.int .u64 f] 42))
    clear HA1 HA2
    go_wp2_with (at_builtin;go_loud (refine wpList_append_lies _ rfl _ _ _ rfl (w1.heap.size + 1) 42 i0 (.int .u64 0) 1 8 Tryz.underlying46 hi hz0 hz1 hz2 rfl (by omega) _ (m + 1) _ rfl OWA.out ⟨w2.heap.size,0,none⟩ 1 1 [.int .u64 f] rfl rfl HN1.out (one_int _) (by omega) HN3.out HN4.out HN5.out (w2.heap.size + 1) HN2.out ?_))
    intro g8 cap8 w8 hown8 hgrow8 hat8 hg8
    have own8 : w8.ownsRow (w1.heap.size + 1) 42 1 (.slice (some ⟨g8,0,none⟩) (m + 1 + 1) cap8) (m + 1 + 1) ((acc ++ [(f : Int)]).map (Value.int .u64)):=by rw [List.map_append];exact hown8
    have X8:=hideIt (X1.out.grow hgrow8 own8)
    clear hown8 hgrow8 hat8 hg8 own8 OWA HN1 HN2 HN3 HN4 HN5
    go_wp2
    go_roundw
    case rel => exact .inr (.inr ⟨m + 1 + 1,_,2,by simp,by omega,X8.out.rf.cell,X8.out.be,HQE.out,by omega⟩)
    case measure => simp [intOf];omega
   ·have HQN : Hid (gDA (N - (acc ++ [(f : Int)]).length) (acc ++ [(f : Int)]) f wn r = Q):=by
     have:=HNEXT.out (by simp [gR])
     simp only [Hid]
     simpa [gR] using this
    have hyl:=hf
    have P1:=rget9_at X0.out.rf 1 (by omega) (by simp)
    rw [b_false] at P1
    have PH1:=hideIt P1
    clear P1
    go_wp2_with fail
    refine PH1.out.mono ?_
    rintro e w2 ⟨rfl,⟨v2,r1,e1⟩,o1⟩
    have X1:=hideIt (X0.out.get r1 e1 o1)
    clear r1 e1 o1 X0 PH1
    have lc:=X1.out.last HLAST.out
    obtain ⟨HA1,HA2⟩:=app_one w2 f w2.heap.size rfl
    have HN1:=hideIt HA1
    have HN2:=hideIt HA2
    have HN3 : Hid (m + 1 + 1 ≤ maxLen):=by simp only [Hid];unfold maxLen;omega
    have HN4 : Hid ((m + 1 + 1) * 8 ≤ 140737488355328):=by simp only [Hid];omega
    have HN5 : Hid (w1.heap.size + 1 ≤ (w2.alloc (.cells #[.int .u64 f] 42)).heap.size):=by have:=X1.out.lt;simp only [Hid];rw [HA2];have hh : w2.heap.size = w2.heap.size:=rfl;omega
    have OWA:=hideIt (X1.out.own.alloc (.cells #[.int .u64 f] 42))
    clear HA1 HA2
    go_wp2_with (at_builtin;go_loud (refine wpList_append_lies _ rfl _ _ _ rfl (w1.heap.size + 1) 42 i0 (.int .u64 0) 1 8 Tryz.underlying46 hi hz0 hz1 hz2 rfl (by omega) _ (m + 1) _ rfl OWA.out ⟨w2.heap.size,0,none⟩ 1 1 [.int .u64 f] rfl rfl HN1.out (one_int _) (by omega) HN3.out HN4.out HN5.out (w2.heap.size + 1) HN2.out ?_))
    intro g8 cap8 w8 hown8 hgrow8 hat8 hg8
    have own8 : w8.ownsRow (w1.heap.size + 1) 42 1 (.slice (some ⟨g8,0,none⟩) (m + 1 + 1) cap8) (m + 1 + 1) ((acc ++ [(f : Int)]).map (Value.int .u64)):=by rw [List.map_append];exact hown8
    have X8:=hideIt (X1.out.grow hgrow8 own8)
    clear hown8 hgrow8 hat8 hg8 own8 OWA HN1 HN2 HN3 HN4 HN5
    have HGD : Hid ((acc ++ [(f : Int)]).getD (m + 1) 0 = (f : Int)):=getD_snoc_last acc _ _ HACC.out
    go_wp2
    go_roundw
    case rel => exact .inr (.inl ⟨m + 1,_,f,_,_,_,_,_,by simp,rfl,rfl,HGD.out,hyl,HW3.out,X8.out,HQN.out,by omega⟩)
    case measure => simp [intOf];omega
   rcases r with _ | ⟨_ | _,r⟩
   ·have HQE : Hid (Q = ([],2)):=HBADQ.out (by simp [gR])
    have P1:=rget9_at X0.out.rf 1 (by omega) (by simp)
    rw [b_true] at P1
    have PH1:=hideIt P1
    clear P1
    go_wp2_with fail
    refine PH1.out.mono ?_
    rintro e w2 ⟨rfl,⟨v2,r1,e1⟩,o1⟩
    have X1:=hideIt (X0.out.get r1 e1 o1)
    clear r1 e1 o1 X0 PH1
    have PH2:=hideIt (rget9_cut X1.out.rf 1 (by omega) (by simp))
    go_wp2_with fail
    refine PH2.out.mono ?_
    rintro e w3 ⟨rfl,r2,o2⟩
    have X2:=hideIt (X1.out.get r2 rfl o2)
    clear r2 o2 X1 PH2
    obtain ⟨k0,k1,q0,q1⟩:=two_cells X2.out.rf.cell
    have lc:=X2.out.last HLAST.out
    obtain ⟨HA1,HA2⟩:=app_one w3 f w3.heap.size rfl
    have HN1:=hideIt HA1
    have HN2:=hideIt HA2
    have HN3 : Hid (m + 1 + 1 ≤ maxLen):=by simp only [Hid];unfold maxLen;omega
    have HN4 : Hid ((m + 1 + 1) * 8 ≤ 140737488355328):=by simp only [Hid];omega
    have HN5 : Hid (w1.heap.size + 1 ≤ (w3.alloc (.cells #[.int .u64 f] 42)).heap.size):=by have:=X2.out.lt;simp only [Hid];rw [HA2];have hh : w3.heap.size = w3.heap.size:=rfl;omega
    have OWA:=hideIt (X2.out.own.alloc (.cells #[.int .u64 f] 42))
    clear HA1 HA2
    go_wp2_with (at_builtin;go_loud (refine wpList_append_lies _ rfl _ _ _ rfl (w1.heap.size + 1) 42 i0 (.int .u64 0) 1 8 Tryz.underlying46 hi hz0 hz1 hz2 rfl (by omega) _ (m + 1) _ rfl OWA.out ⟨w3.heap.size,0,none⟩ 1 1 [.int .u64 f] rfl rfl HN1.out (one_int _) (by omega) HN3.out HN4.out HN5.out (w3.heap.size + 1) HN2.out ?_))
    intro g8 cap8 w8 hown8 hgrow8 hat8 hg8
    have own8 : w8.ownsRow (w1.heap.size + 1) 42 1 (.slice (some ⟨g8,0,none⟩) (m + 1 + 1) cap8) (m + 1 + 1) ((acc ++ [(f : Int)]).map (Value.int .u64)):=by rw [List.map_append];exact hown8
    have X8:=hideIt (X2.out.grow hgrow8 own8)
    clear hown8 hgrow8 hat8 hg8 own8 OWA HN1 HN2 HN3 HN4 HN5
    go_wp2
    go_roundw
    case rel => exact .inr (.inr ⟨m + 1 + 1,_,2,by simp,by omega,X8.out.rf.cell,X8.out.be,HQE.out,by omega⟩)
    case measure => simp [intOf];omega
   ·rcases HW3.out with ⟨rfl,rfl,rfl⟩ | ⟨a',z',rfl,rfl,rfl,h5,h6⟩
    ·have HQE : Hid (Q = ([],3)):=HBADQ.out (by simp [gR])
     have P1:=rget9_at X0.out.rf 1 (by omega) (by simp)
     rw [b_true] at P1
     have PH1:=hideIt P1
     clear P1
     go_wp2_with fail
     refine PH1.out.mono ?_
     rintro e w2 ⟨rfl,⟨v2,r1,e1⟩,o1⟩
     have X1:=hideIt (X0.out.get r1 e1 o1)
     clear r1 e1 o1 X0 PH1
     have P2:=rget9_at X1.out.rf 1 (by omega) (by simp)
     rw [show List.drop 1 (true :: false :: r) = false :: r from rfl,b_false] at P2
     have PH2:=hideIt P2
     clear P2
     go_wp2_with fail
     refine PH2.out.mono ?_
     rintro e w3 ⟨rfl,⟨v3,r2,e2⟩,o2⟩
     have X2:=hideIt (X1.out.get r2 e2 o2)
     clear r2 e2 o2 X1 PH2
     obtain ⟨k0,k1,q0,q1⟩:=two_cells X2.out.rf.cell
     have X3:=hideIt (X2.out.bad 3)
     have hsz3 : (w3.setCell ⟨w1.heap.size,1,none⟩ (.int .i64 3)).heap.size = w3.heap.size:=by simp
     have HSZ3:=hideIt hsz3
     clear hsz3 X2
     have lc:=X3.out.last HLAST.out
     obtain ⟨HA1,HA2⟩:=app_one (w3.setCell ⟨w1.heap.size,1,none⟩ (.int .i64 3)) f w3.heap.size HSZ3.out
     have HN1:=hideIt HA1
     have HN2:=hideIt HA2
     have HN3 : Hid (m + 1 + 1 ≤ maxLen):=by simp only [Hid];unfold maxLen;omega
     have HN4 : Hid ((m + 1 + 1) * 8 ≤ 140737488355328):=by simp only [Hid];omega
     have HN5 : Hid (w1.heap.size + 1 ≤ ((w3.setCell ⟨w1.heap.size,1,none⟩ (.int .i64 3)).alloc (.cells #[.int .u64 f] 42)).heap.size):=by have:=X3.out.lt;simp only [Hid];rw [HA2];have hh : (w3.setCell ⟨w1.heap.size,1,none⟩ (.int .i64 3)).heap.size = w3.heap.size:=HSZ3.out;omega
     have OWA:=hideIt (X3.out.own.alloc (.cells #[.int .u64 f] 42))
     clear HA1 HA2
     go_wp2_with (at_builtin;go_loud (refine wpList_append_lies _ rfl _ _ _ rfl (w1.heap.size + 1) 42 i0 (.int .u64 0) 1 8 Tryz.underlying46 hi hz0 hz1 hz2 rfl (by omega) _ (m + 1) _ rfl OWA.out ⟨w3.heap.size,0,none⟩ 1 1 [.int .u64 f] rfl rfl HN1.out (one_int _) (by omega) HN3.out HN4.out HN5.out (w3.heap.size + 1) HN2.out ?_))
     intro g8 cap8 w8 hown8 hgrow8 hat8 hg8
     have own8 : w8.ownsRow (w1.heap.size + 1) 42 1 (.slice (some ⟨g8,0,none⟩) (m + 1 + 1) cap8) (m + 1 + 1) ((acc ++ [(f : Int)]).map (Value.int .u64)):=by rw [List.map_append];exact hown8
     have X8:=hideIt (X3.out.grow hgrow8 own8)
     clear hown8 hgrow8 hat8 hg8 own8 OWA HN1 HN2 HN3 HN4 HN5
     go_wp2
     go_roundw
     case rel => exact .inr (.inr ⟨m + 1 + 1,_,3,by simp,by omega,X8.out.rf.cell,X8.out.be,HQE.out,by omega⟩)
     case measure => simp [intOf];omega
    obtain ⟨q,hq⟩ : ∃ q,q = 64 - a' - z':=⟨_,rfl⟩
    have hqi : (64 : Int) - (a' : Int) - (z' : Int) = (q : Int):=by omega
    have z64 : (z' : Int) < 64:=by omega
    have hrl : (List.drop 1 (false :: r)) = r:=rfl
    have HRL:=hideIt hrl
    clear hrl
    by_cases hc : r.length < q
    ·have HQE : Hid (Q = ([],2)):=HBADQ.out (by rw [gR];simp only [← hq];rw [if_pos hc];simp) |>.trans (by rw [gR];simp only [← hq];rw [if_pos hc])
     clear hq
     have P1:=rget9_at X0.out.rf 1 (by omega) (by simp)
     rw [b_true] at P1
     have PH1:=hideIt P1
     clear P1
     go_wp2_with fail
     refine PH1.out.mono ?_
     rintro e w2 ⟨rfl,⟨v2,r1,e1⟩,o1⟩
     have X1:=hideIt (X0.out.get r1 e1 o1)
     clear r1 e1 o1 X0 PH1
     have P2:=rget9_at X1.out.rf 1 (by omega) (by simp)
     rw [show List.drop 1 (true :: false :: r) = false :: r from rfl,b_false] at P2
     have PH2:=hideIt P2
     clear P2
     go_wp2_with fail
     refine PH2.out.mono ?_
     rintro e w3 ⟨rfl,⟨v3,r2,e2⟩,o2⟩
     have X2:=hideIt (X1.out.get r2 e2 o2)
     clear r2 e2 o2 X1 PH2
     obtain ⟨k0,k1,q0,q1⟩:=two_cells X2.out.rf.cell
     have PH3:=hideIt (rget9_cut X2.out.rf q (by omega) (by rw [HRL.out];exact hc))
     go_wp2_with fail
     refine PH3.out.mono ?_
     rintro e w4 ⟨rfl,r3,o3⟩
     have X3:=hideIt (X2.out.get r3 rfl o3)
     clear r3 o3 X2 PH3
     clear k0 k1 q0 q1
     obtain ⟨k0,k1,q0,q1⟩:=two_cells X3.out.rf.cell
     have lc:=X3.out.last HLAST.out
     obtain ⟨HA1,HA2⟩:=app_one w4 f w4.heap.size rfl
     have HN1:=hideIt HA1
     have HN2:=hideIt HA2
     have HN3 : Hid (m + 1 + 1 ≤ maxLen):=by simp only [Hid];unfold maxLen;omega
     have HN4 : Hid ((m + 1 + 1) * 8 ≤ 140737488355328):=by simp only [Hid];omega
     have HN5 : Hid (w1.heap.size + 1 ≤ (w4.alloc (.cells #[.int .u64 f] 42)).heap.size):=by have:=X3.out.lt;simp only [Hid];rw [HA2];have hh : w4.heap.size = w4.heap.size:=rfl;omega
     have OWA:=hideIt (X3.out.own.alloc (.cells #[.int .u64 f] 42))
     clear HA1 HA2
     go_wp2_with (at_builtin;go_loud (refine wpList_append_lies _ rfl _ _ _ rfl (w1.heap.size + 1) 42 i0 (.int .u64 0) 1 8 Tryz.underlying46 hi hz0 hz1 hz2 rfl (by omega) _ (m + 1) _ rfl OWA.out ⟨w4.heap.size,0,none⟩ 1 1 [.int .u64 f] rfl rfl HN1.out (one_int _) (by omega) HN3.out HN4.out HN5.out (w4.heap.size + 1) HN2.out ?_))
     intro g8 cap8 w8 hown8 hgrow8 hat8 hg8
     have own8 : w8.ownsRow (w1.heap.size + 1) 42 1 (.slice (some ⟨g8,0,none⟩) (m + 1 + 1) cap8) (m + 1 + 1) ((acc ++ [(f : Int)]).map (Value.int .u64)):=by rw [List.map_append];exact hown8
     have X8:=hideIt (X3.out.grow hgrow8 own8)
     clear hown8 hgrow8 hat8 hg8 own8 OWA HN1 HN2 HN3 HN4 HN5
     go_wp2
     go_roundw
     case rel => exact .inr (.inr ⟨m + 1 + 1,_,2,by simp,by omega,X8.out.rf.cell,X8.out.be,HQE.out,by omega⟩)
     case measure => simp [intOf];omega
    ·have hgr : gR (some (a',z')) (true :: false :: r) = (bnum (r.take q) * 2 ^ z',some (a',z'),r.drop q,0):=by rw [gR];simp only [← hq];rw [if_neg hc]
     have HS1:=shl_mod (z:=z') (bnum_take_lt r q) (by omega)
     have HS2:=shl_back (z:=z') (bnum_take_lt r q) (by omega)
     have hxl : bnum (r.take q) * 2 ^ z' < 18446744073709551616:=by
      have:=(gR_ok (W2.win (.inr ⟨z',rfl,h5,by omega,by omega⟩ : W2 (some (a',z')) a' q)) (true :: false :: r) (by rw [hgr])).1
      rw [hgr] at this
      exact this
     have HNX:=HNEXT.out (by rw [hgr])
     rw [hgr] at HNX
     simp only at HNX
     clear hgr hq
     have P1:=rget9_at X0.out.rf 1 (by omega) (by simp)
     rw [b_true] at P1
     have PH1:=hideIt P1
     clear P1
     go_wp2_with fail
     refine PH1.out.mono ?_
     rintro e w2 ⟨rfl,⟨v2,r1,e1⟩,o1⟩
     have X1:=hideIt (X0.out.get r1 e1 o1)
     clear r1 e1 o1 X0 PH1
     have P2:=rget9_at X1.out.rf 1 (by omega) (by simp)
     rw [show List.drop 1 (true :: false :: r) = false :: r from rfl,b_false] at P2
     have PH2:=hideIt P2
     clear P2
     go_wp2_with fail
     refine PH2.out.mono ?_
     rintro e w3 ⟨rfl,⟨v3,r2,e2⟩,o2⟩
     have X2:=hideIt (X1.out.get r2 e2 o2)
     clear r2 e2 o2 X1 PH2
     obtain ⟨k0,k1,q0,q1⟩:=two_cells X2.out.rf.cell
     have P3:=rget9_at X2.out.rf q (by omega) (by rw [HRL.out];omega)
     rw [HRL.out] at P3
     have PH3:=hideIt P3
     clear P3
     go_wp2_with fail
     refine PH3.out.mono ?_
     rintro e w4 ⟨rfl,⟨v4,r3,e3⟩,o3⟩
     have X3:=hideIt (X2.out.get r3 e3 o3)
     clear r3 e3 o3 X2 PH3
     generalize bnum (r.take q) = y at *
     generalize y * 2 ^ z' = xx at *
     have hxx:=xor_i (x:=(f : Int)) (y:=(xx : Int)) (by omega) (by omega) (by omega) (by omega)
     simp only [Int.toNat_natCast] at hxx
     have hyl:=xor_lt hf hxl
     generalize f ^^^ xx = yy at *
     have HQN:=hideIt HNX
     have HW4 : Hid (W3 (some (a',z')) (a' : Int) (z' : Int)):=.inr ⟨a',z',rfl,rfl,rfl,h5,h6⟩
     clear HNX
     have lc:=X3.out.last HLAST.out
     obtain ⟨HA1,HA2⟩:=app_one w4 yy w4.heap.size rfl
     have HN1:=hideIt HA1
     have HN2:=hideIt HA2
     have HN3 : Hid (m + 1 + 1 ≤ maxLen):=by simp only [Hid];unfold maxLen;omega
     have HN4 : Hid ((m + 1 + 1) * 8 ≤ 140737488355328):=by simp only [Hid];omega
     have HN5 : Hid (w1.heap.size + 1 ≤ (w4.alloc (.cells #[.int .u64 yy] 42)).heap.size):=by have:=X3.out.lt;simp only [Hid];rw [HA2];have hh : w4.heap.size = w4.heap.size:=rfl;omega
     have OWA:=hideIt (X3.out.own.alloc (.cells #[.int .u64 yy] 42))
     clear HA1 HA2
     go_wp2_with (at_builtin;go_loud (refine wpList_append_lies _ rfl _ _ _ rfl (w1.heap.size + 1) 42 i0 (.int .u64 0) 1 8 Tryz.underlying46 hi hz0 hz1 hz2 rfl (by omega) _ (m + 1) _ rfl OWA.out ⟨w4.heap.size,0,none⟩ 1 1 [.int .u64 yy] rfl rfl HN1.out (one_int _) (by omega) HN3.out HN4.out HN5.out (w4.heap.size + 1) HN2.out ?_))
     intro g8 cap8 w8 hown8 hgrow8 hat8 hg8
     have own8 : w8.ownsRow (w1.heap.size + 1) 42 1 (.slice (some ⟨g8,0,none⟩) (m + 1 + 1) cap8) (m + 1 + 1) ((acc ++ [(yy : Int)]).map (Value.int .u64)):=by rw [List.map_append];exact hown8
     have X8:=hideIt (X3.out.grow hgrow8 own8)
     clear hown8 hgrow8 hat8 hg8 own8 OWA HN1 HN2 HN3 HN4 HN5
     have HGD : Hid ((acc ++ [(yy : Int)]).getD (m + 1) 0 = (yy : Int)):=getD_snoc_last acc _ _ HACC.out
     go_wp2
     go_roundw
     case rel => exact .inr (.inl ⟨m + 1,_,yy,_,_,_,_,_,by simp,rfl,rfl,HGD.out,hyl,HW4.out,X8.out,HQN.out,by omega⟩)
     case measure => simp [intOf];omega
   by_cases c5 : r.length < 5
   ·have hgr : gR wn (true :: true :: r) = (0,wn,r,2):=by rw [gR,if_pos c5]
    have HQE : Hid (Q = ([],2)):=by
     have:=HBADQ.out (by rw [hgr];simp)
     rw [hgr] at this
     exact this
    clear hgr HBADQ HNEXT
    have P1:=rget9_at X0.out.rf 1 (by omega) (by simp)
    rw [b_true] at P1
    have PH1:=hideIt P1
    clear P1
    go_wp2_with fail
    refine PH1.out.mono ?_
    rintro e w2 ⟨rfl,⟨v2,r1,e1⟩,o1⟩
    have X1:=hideIt (X0.out.get r1 e1 o1)
    clear r1 e1 o1 X0 PH1
    have P2:=rget9_at X1.out.rf 1 (by omega) (by simp)
    rw [show List.drop 1 (true :: true :: r) = true :: r from rfl,b_true] at P2
    have PH2:=hideIt P2
    clear P2
    go_wp2_with fail
    refine PH2.out.mono ?_
    rintro e w3 ⟨rfl,⟨v3,r2,e2⟩,o2⟩
    have X2:=hideIt (X1.out.get r2 e2 o2)
    clear r2 e2 o2 X1 PH2
    have X2 : Hid (Rx w w1.heap.size w3 v3 r 0 (.slice (some ⟨g,0,none⟩) (m + 1) cp) (m + 1) acc):=X2.out
    have PH3:=hideIt (rget9_cut X2.out.rf 5 (by omega) (by omega))
    go_wp2_with fail
    refine PH3.out.mono ?_
    rintro e w4 ⟨rfl,r3,o3⟩
    have X3:=hideIt (X2.out.get r3 rfl o3)
    clear r3 o3 X2 PH3
    have PH4:=hideIt (rget9_cut2 X3.out.rf 6 (by omega) (by omega))
    go_wp2_with fail
    refine PH4.out.mono ?_
    rintro e w5 ⟨rfl,r4,o4⟩
    have X4:=hideIt (X3.out.get r4 rfl o4)
    clear r4 o4 X3 PH4
    obtain ⟨k0,k1,q0,q1⟩:=two_cells X4.out.rf.cell
    have lc:=X4.out.last HLAST.out
    obtain ⟨HA1,HA2⟩:=app_one w5 f w5.heap.size rfl
    have HN1:=hideIt HA1
    have HN2:=hideIt HA2
    have HN3 : Hid (m + 1 + 1 ≤ maxLen):=by simp only [Hid];unfold maxLen;omega
    have HN4 : Hid ((m + 1 + 1) * 8 ≤ 140737488355328):=by simp only [Hid];omega
    have HN5 : Hid (w1.heap.size + 1 ≤ (w5.alloc (.cells #[.int .u64 f] 42)).heap.size):=by have:=X4.out.lt;simp only [Hid];rw [HA2];have hh : w5.heap.size = w5.heap.size:=rfl;omega
    have OWA:=hideIt (X4.out.own.alloc (.cells #[.int .u64 f] 42))
    clear HA1 HA2
    go_wp2_with (at_builtin;go_loud (refine wpList_append_lies _ rfl _ _ _ rfl (w1.heap.size + 1) 42 i0 (.int .u64 0) 1 8 Tryz.underlying46 hi hz0 hz1 hz2 rfl (by omega) _ (m + 1) _ rfl OWA.out ⟨w5.heap.size,0,none⟩ 1 1 [.int .u64 f] rfl rfl HN1.out (one_int _) (by omega) HN3.out HN4.out HN5.out (w5.heap.size + 1) HN2.out ?_))
    intro g8 cap8 w8 hown8 hgrow8 hat8 hg8
    have own8 : w8.ownsRow (w1.heap.size + 1) 42 1 (.slice (some ⟨g8,0,none⟩) (m + 1 + 1) cap8) (m + 1 + 1) ((acc ++ [(f : Int)]).map (Value.int .u64)):=by rw [List.map_append];exact hown8
    have X8:=hideIt (X4.out.grow hgrow8 own8)
    clear hown8 hgrow8 hat8 hg8 own8 OWA HN1 HN2 HN3 HN4 HN5
    go_wp2
    go_roundw
    case rel => exact .inr (.inr ⟨m + 1 + 1,_,2,by simp,by omega,X8.out.rf.cell,X8.out.be,HQE.out,by omega⟩)
    case measure => simp [intOf];omega
   obtain ⟨a5,h5e⟩ : ∃ a5,a5 = bnum (r.take 5):=⟨_,rfl⟩
   have a32 : a5 < 32:=by
    have:=bnum_take_lt r 5
    rw [← h5e] at this
    omega
   by_cases c11 : r.length < 11
   ·have hgr : gR wn (true :: true :: r) = (0,wn,r,2):=by rw [gR,if_neg c5,if_pos c11]
    have HQE : Hid (Q = ([],2)):=by
     have:=HBADQ.out (by rw [hgr];simp)
     rw [hgr] at this
     exact this
    clear hgr HBADQ HNEXT
    have P1:=rget9_at X0.out.rf 1 (by omega) (by simp)
    rw [b_true] at P1
    have PH1:=hideIt P1
    clear P1
    go_wp2_with fail
    refine PH1.out.mono ?_
    rintro e w2 ⟨rfl,⟨v2,r1,e1⟩,o1⟩
    have X1:=hideIt (X0.out.get r1 e1 o1)
    clear r1 e1 o1 X0 PH1
    have P2:=rget9_at X1.out.rf 1 (by omega) (by simp)
    rw [show List.drop 1 (true :: true :: r) = true :: r from rfl,b_true] at P2
    have PH2:=hideIt P2
    clear P2
    go_wp2_with fail
    refine PH2.out.mono ?_
    rintro e w3 ⟨rfl,⟨v3,r2,e2⟩,o2⟩
    have X2:=hideIt (X1.out.get r2 e2 o2)
    clear r2 e2 o2 X1 PH2
    have X2 : Hid (Rx w w1.heap.size w3 v3 r 0 (.slice (some ⟨g,0,none⟩) (m + 1) cp) (m + 1) acc):=X2.out
    have P3:=rget9_at X2.out.rf 5 (by omega) (by omega)
    rw [← h5e] at P3
    have PH3:=hideIt P3
    clear P3
    go_wp2_with fail
    refine PH3.out.mono ?_
    rintro e w4 ⟨rfl,⟨v4,r3,e3⟩,o3⟩
    have X3:=hideIt (X2.out.get r3 e3 o3)
    clear r3 e3 o3 X2 PH3
    have PH4:=hideIt (rget9_cut X3.out.rf 6 (by omega) (by rw [List.length_drop];omega))
    go_wp2_with fail
    refine PH4.out.mono ?_
    rintro e w5 ⟨rfl,r4,o4⟩
    have X4:=hideIt (X3.out.get r4 rfl o4)
    clear r4 o4 X3 PH4
    have hz3 : (63 : Int) - (a5 : Int) = ((63 - a5 : Nat) : Int):=by omega
    obtain ⟨k0,k1,q0,q1⟩:=two_cells X4.out.rf.cell
    have lc:=X4.out.last HLAST.out
    obtain ⟨HA1,HA2⟩:=app_one w5 f w5.heap.size rfl
    have HN1:=hideIt HA1
    have HN2:=hideIt HA2
    have HN3 : Hid (m + 1 + 1 ≤ maxLen):=by simp only [Hid];unfold maxLen;omega
    have HN4 : Hid ((m + 1 + 1) * 8 ≤ 140737488355328):=by simp only [Hid];omega
    have HN5 : Hid (w1.heap.size + 1 ≤ (w5.alloc (.cells #[.int .u64 f] 42)).heap.size):=by have:=X4.out.lt;simp only [Hid];rw [HA2];have hh : w5.heap.size = w5.heap.size:=rfl;omega
    have OWA:=hideIt (X4.out.own.alloc (.cells #[.int .u64 f] 42))
    clear HA1 HA2
    go_wp2_with (at_builtin;go_loud (refine wpList_append_lies _ rfl _ _ _ rfl (w1.heap.size + 1) 42 i0 (.int .u64 0) 1 8 Tryz.underlying46 hi hz0 hz1 hz2 rfl (by omega) _ (m + 1) _ rfl OWA.out ⟨w5.heap.size,0,none⟩ 1 1 [.int .u64 f] rfl rfl HN1.out (one_int _) (by omega) HN3.out HN4.out HN5.out (w5.heap.size + 1) HN2.out ?_))
    intro g8 cap8 w8 hown8 hgrow8 hat8 hg8
    have own8 : w8.ownsRow (w1.heap.size + 1) 42 1 (.slice (some ⟨g8,0,none⟩) (m + 1 + 1) cap8) (m + 1 + 1) ((acc ++ [(f : Int)]).map (Value.int .u64)):=by rw [List.map_append];exact hown8
    have X8:=hideIt (X4.out.grow hgrow8 own8)
    clear hown8 hgrow8 hat8 hg8 own8 OWA HN1 HN2 HN3 HN4 HN5
    go_wp2
    go_roundw
    case rel => exact .inr (.inr ⟨m + 1 + 1,_,2,by simp,by omega,X8.out.rf.cell,X8.out.be,HQE.out,by omega⟩)
    case measure => simp [intOf];omega
   obtain ⟨e6,h6e⟩ : ∃ e6,e6 = bnum ((r.drop 5).take 6):=⟨_,rfl⟩
   have e64 : e6 < 64:=by
    have:=bnum_take_lt (r.drop 5) 6
    rw [← h6e] at this
    omega
   by_cases c63 : 63 < a5 + e6
   ·have hgr : gR wn (true :: true :: r) = (0,wn,r,3):=by rw [gR,if_neg c5,if_neg c11,if_pos (by rw [← h5e,← h6e];exact c63)]
    have HQE : Hid (Q = ([],3)):=by
     have:=HBADQ.out (by rw [hgr];simp)
     rw [hgr] at this
     exact this
    clear hgr HBADQ HNEXT
    have dz : decide ((63 : Int) - (a5 : Int) - (e6 : Int) < 0) = true:=decide_eq_true (by omega)
    have HA5:=hideIt h5e
    have HE6:=hideIt h6e
    clear h5e h6e
    have P1:=rget9_at X0.out.rf 1 (by omega) (by simp)
    rw [b_true] at P1
    have PH1:=hideIt P1
    clear P1
    go_wp2_with fail
    refine PH1.out.mono ?_
    rintro e w2 ⟨rfl,⟨v2,r1,e1⟩,o1⟩
    have X1:=hideIt (X0.out.get r1 e1 o1)
    clear r1 e1 o1 X0 PH1
    have P2:=rget9_at X1.out.rf 1 (by omega) (by simp)
    rw [show List.drop 1 (true :: true :: r) = true :: r from rfl,b_true] at P2
    have PH2:=hideIt P2
    clear P2
    go_wp2_with fail
    refine PH2.out.mono ?_
    rintro e w3 ⟨rfl,⟨v3,r2,e2⟩,o2⟩
    have X2:=hideIt (X1.out.get r2 e2 o2)
    clear r2 e2 o2 X1 PH2
    have X2 : Hid (Rx w w1.heap.size w3 v3 r 0 (.slice (some ⟨g,0,none⟩) (m + 1) cp) (m + 1) acc):=X2.out
    have P3:=rget9_at X2.out.rf 5 (by omega) (by omega)
    rw [← HA5.out] at P3
    have PH3:=hideIt P3
    clear P3
    go_wp2_with fail
    refine PH3.out.mono ?_
    rintro e w4 ⟨rfl,⟨v4,r3,e3⟩,o3⟩
    have X3:=hideIt (X2.out.get r3 e3 o3)
    clear r3 e3 o3 X2 PH3
    have P4:=rget9_at X3.out.rf 6 (by omega) (by rw [List.length_drop];omega)
    rw [← HE6.out] at P4
    have PH4:=hideIt P4
    clear P4
    go_wp2_with fail
    refine PH4.out.mono ?_
    rintro e w5 ⟨rfl,⟨v5,r4,e4⟩,o4⟩
    have X4:=hideIt (X3.out.get r4 e4 o4)
    clear r4 e4 o4 X3 PH4
    obtain ⟨k0,k1,q0,q1⟩:=two_cells X4.out.rf.cell
    have X5:=hideIt (X4.out.bad 3)
    have hsz3 : (w5.setCell ⟨w1.heap.size,1,none⟩ (.int .i64 3)).heap.size = w5.heap.size:=by simp
    have HSZ3:=hideIt hsz3
    clear hsz3 X4
    have lc:=X5.out.last HLAST.out
    obtain ⟨HA1,HA2⟩:=app_one (w5.setCell ⟨w1.heap.size,1,none⟩ (.int .i64 3)) f w5.heap.size HSZ3.out
    have HN1:=hideIt HA1
    have HN2:=hideIt HA2
    have HN3 : Hid (m + 1 + 1 ≤ maxLen):=by simp only [Hid];unfold maxLen;omega
    have HN4 : Hid ((m + 1 + 1) * 8 ≤ 140737488355328):=by simp only [Hid];omega
    have HN5 : Hid (w1.heap.size + 1 ≤ ((w5.setCell ⟨w1.heap.size,1,none⟩ (.int .i64 3)).alloc (.cells #[.int .u64 f] 42)).heap.size):=by have:=X5.out.lt;simp only [Hid];rw [HA2];have hh : (w5.setCell ⟨w1.heap.size,1,none⟩ (.int .i64 3)).heap.size = w5.heap.size:=HSZ3.out;omega
    have OWA:=hideIt (X5.out.own.alloc (.cells #[.int .u64 f] 42))
    clear HA1 HA2
    go_wp2_with (at_builtin;go_loud (refine wpList_append_lies _ rfl _ _ _ rfl (w1.heap.size + 1) 42 i0 (.int .u64 0) 1 8 Tryz.underlying46 hi hz0 hz1 hz2 rfl (by omega) _ (m + 1) _ rfl OWA.out ⟨w5.heap.size,0,none⟩ 1 1 [.int .u64 f] rfl rfl HN1.out (one_int _) (by omega) HN3.out HN4.out HN5.out (w5.heap.size + 1) HN2.out ?_))
    intro g8 cap8 w8 hown8 hgrow8 hat8 hg8
    have own8 : w8.ownsRow (w1.heap.size + 1) 42 1 (.slice (some ⟨g8,0,none⟩) (m + 1 + 1) cap8) (m + 1 + 1) ((acc ++ [(f : Int)]).map (Value.int .u64)):=by rw [List.map_append];exact hown8
    have X8:=hideIt (X5.out.grow hgrow8 own8)
    clear hown8 hgrow8 hat8 hg8 own8 OWA HN1 HN2 HN3 HN4 HN5
    go_wp2
    go_roundw
    case rel => exact .inr (.inr ⟨m + 1 + 1,_,3,by simp,by omega,X8.out.rf.cell,X8.out.be,HQE.out,by omega⟩)
    case measure => simp [intOf];omega
   by_cases c12 : r.length < 12 + e6
   ·have hgr : gR wn (true :: true :: r) = (0,wn,r,2):=by rw [gR,if_neg c5,if_neg c11,if_neg (by rw [← h5e,← h6e];exact c63),if_pos (by rw [← h6e];exact c12)]
    have HQE : Hid (Q = ([],2)):=by
     have:=HBADQ.out (by rw [hgr];simp)
     rw [hgr] at this
     exact this
    clear hgr HBADQ HNEXT
    obtain ⟨z',hz'⟩ : ∃ z',z' = 63 - a5 - e6:=⟨_,rfl⟩
    obtain ⟨q,hq⟩ : ∃ q,q = e6 + 1:=⟨_,rfl⟩
    have hzi : (63 : Int) - (a5 : Int) - (e6 : Int) = (z' : Int):=by omega
    have hqi : (64 : Int) - (a5 : Int) - (z' : Int) = (q : Int):=by omega
    have z64 : (z' : Int) < 64:=by omega
    have hq64 : q ≤ 64:=by omega
    have h5l : a5 ≤ 31:=by omega
    have h6l : a5 + z' ≤ 63:=by omega
    have hzq : z' + q ≤ 64:=by omega
    have hl11 : ((r.drop 5).drop 6).length = r.length - 11:=by rw [List.length_drop,List.length_drop];omega
    have HL11:=hideIt hl11
    clear hl11
    have hcq : r.length - 11 < q:=by omega
    have HA5:=hideIt h5e
    have HE6:=hideIt h6e
    clear h5e h6e hz' hq
    have P1:=rget9_at X0.out.rf 1 (by omega) (by simp)
    rw [b_true] at P1
    have PH1:=hideIt P1
    clear P1
    go_wp2_with fail
    refine PH1.out.mono ?_
    rintro e w2 ⟨rfl,⟨v2,r1,e1⟩,o1⟩
    have X1:=hideIt (X0.out.get r1 e1 o1)
    clear r1 e1 o1 X0 PH1
    have P2:=rget9_at X1.out.rf 1 (by omega) (by simp)
    rw [show List.drop 1 (true :: true :: r) = true :: r from rfl,b_true] at P2
    have PH2:=hideIt P2
    clear P2
    go_wp2_with fail
    refine PH2.out.mono ?_
    rintro e w3 ⟨rfl,⟨v3,r2,e2⟩,o2⟩
    have X2:=hideIt (X1.out.get r2 e2 o2)
    clear r2 e2 o2 X1 PH2
    have X2 : Hid (Rx w w1.heap.size w3 v3 r 0 (.slice (some ⟨g,0,none⟩) (m + 1) cp) (m + 1) acc):=X2.out
    have P3:=rget9_at X2.out.rf 5 (by omega) (by omega)
    rw [← HA5.out] at P3
    have PH3:=hideIt P3
    clear P3
    go_wp2_with fail
    refine PH3.out.mono ?_
    rintro e w4 ⟨rfl,⟨v4,r3,e3⟩,o3⟩
    have X3:=hideIt (X2.out.get r3 e3 o3)
    clear r3 e3 o3 X2 PH3
    have P4:=rget9_at X3.out.rf 6 (by omega) (by rw [List.length_drop];omega)
    rw [← HE6.out] at P4
    have PH4:=hideIt P4
    clear P4
    go_wp2_with fail
    refine PH4.out.mono ?_
    rintro e w5 ⟨rfl,⟨v5,r4,e4⟩,o4⟩
    have X4:=hideIt (X3.out.get r4 e4 o4)
    clear r4 e4 o4 X3 PH4
    obtain ⟨k0,k1,q0,q1⟩:=two_cells X4.out.rf.cell
    have PH5:=hideIt (rget9_cut X4.out.rf q (by omega) (by rw [HL11.out];exact hcq))
    go_wp2_with fail
    refine PH5.out.mono ?_
    rintro e w6 ⟨rfl,r5,o5⟩
    have X5:=hideIt (X4.out.get r5 rfl o5)
    clear r5 o5 X4 PH5
    clear k0 k1 q0 q1
    obtain ⟨k0,k1,q0,q1⟩:=two_cells X5.out.rf.cell
    have lc:=X5.out.last HLAST.out
    obtain ⟨HA1,HA2⟩:=app_one w6 f w6.heap.size rfl
    have HN1:=hideIt HA1
    have HN2:=hideIt HA2
    have HN3 : Hid (m + 1 + 1 ≤ maxLen):=by simp only [Hid];unfold maxLen;omega
    have HN4 : Hid ((m + 1 + 1) * 8 ≤ 140737488355328):=by simp only [Hid];omega
    have HN5 : Hid (w1.heap.size + 1 ≤ (w6.alloc (.cells #[.int .u64 f] 42)).heap.size):=by have:=X5.out.lt;simp only [Hid];rw [HA2];have hh : w6.heap.size = w6.heap.size:=rfl;omega
    have OWA:=hideIt (X5.out.own.alloc (.cells #[.int .u64 f] 42))
    clear HA1 HA2
    go_wp2_with (at_builtin;go_loud (refine wpList_append_lies _ rfl _ _ _ rfl (w1.heap.size + 1) 42 i0 (.int .u64 0) 1 8 Tryz.underlying46 hi hz0 hz1 hz2 rfl (by omega) _ (m + 1) _ rfl OWA.out ⟨w6.heap.size,0,none⟩ 1 1 [.int .u64 f] rfl rfl HN1.out (one_int _) (by omega) HN3.out HN4.out HN5.out (w6.heap.size + 1) HN2.out ?_))
    intro g8 cap8 w8 hown8 hgrow8 hat8 hg8
    have own8 : w8.ownsRow (w1.heap.size + 1) 42 1 (.slice (some ⟨g8,0,none⟩) (m + 1 + 1) cap8) (m + 1 + 1) ((acc ++ [(f : Int)]).map (Value.int .u64)):=by rw [List.map_append];exact hown8
    have X8:=hideIt (X5.out.grow hgrow8 own8)
    clear hown8 hgrow8 hat8 hg8 own8 OWA HN1 HN2 HN3 HN4 HN5
    go_wp2
    go_roundw
    case rel => exact .inr (.inr ⟨m + 1 + 1,_,2,by simp,by omega,X8.out.rf.cell,X8.out.be,HQE.out,by omega⟩)
    case measure => simp [intOf];omega
   ·have hgr : gR wn (true :: true :: r) = (bnum ((r.drop 11).take (e6 + 1)) * 2 ^ (63 - a5 - e6),some (a5,63 - a5 - e6),r.drop (12 + e6),0):=by
     rw [gR,if_neg c5,if_neg c11,if_neg (by rw [← h5e,← h6e];exact c63),if_neg (by rw [← h6e];exact c12),← h5e,← h6e]
    obtain ⟨z',hz'⟩ : ∃ z',z' = 63 - a5 - e6:=⟨_,rfl⟩
    obtain ⟨q,hq⟩ : ∃ q,q = e6 + 1:=⟨_,rfl⟩
    have hzi : (63 : Int) - (a5 : Int) - (e6 : Int) = (z' : Int):=by omega
    have hqi : (64 : Int) - (a5 : Int) - (z' : Int) = (q : Int):=by omega
    have z64 : (z' : Int) < 64:=by omega
    have hq64 : q ≤ 64:=by omega
    have h5l : a5 ≤ 31:=by omega
    have h6l : a5 + z' ≤ 63:=by omega
    have hzq : z' + q ≤ 64:=by omega
    have hl11 : ((r.drop 5).drop 6).length = r.length - 11:=by rw [List.length_drop,List.length_drop];omega
    have HL11:=hideIt hl11
    clear hl11
    have hd11 : (r.drop 5).drop 6 = r.drop 11:=by rw [List.drop_drop]
    have hd12 : r.drop (12 + e6) = ((r.drop 5).drop 6).drop q:=by rw [hd11,List.drop_drop,hq,show 11 + (e6 + 1) = 12 + e6 by omega]
    rw [← hz',← hq,← hd11,hd12] at hgr
    have hok:=gR_ok (W3.win HW3.out) (true :: true :: r) (by rw [hgr])
    rw [hgr] at hok
    have hxl : bnum (((r.drop 5).drop 6).take q) * 2 ^ z' < 18446744073709551616:=hok.1
    have HS1:=shl_mod (z:=z') (bnum_take_lt ((r.drop 5).drop 6) q) hzq
    have HS2:=shl_back (z:=z') (bnum_take_lt ((r.drop 5).drop 6) q) hzq
    have HNX:=HNEXT.out (by rw [hgr])
    rw [hgr] at HNX
    simp only at HNX
    have HQI : Hid (q ≤ ((r.drop 5).drop 6).length):=by have:=HL11.out;simp only [Hid];omega
    have HA5:=hideIt h5e
    have HE6:=hideIt h6e
    clear hgr hok h5e h6e hz' hq HBADQ HNEXT hd11 hd12
    have P1:=rget9_at X0.out.rf 1 (by omega) (by simp)
    rw [b_true] at P1
    have PH1:=hideIt P1
    clear P1
    go_wp2_with fail
    refine PH1.out.mono ?_
    rintro e w2 ⟨rfl,⟨v2,r1,e1⟩,o1⟩
    have X1:=hideIt (X0.out.get r1 e1 o1)
    clear r1 e1 o1 X0 PH1
    have P2:=rget9_at X1.out.rf 1 (by omega) (by simp)
    rw [show List.drop 1 (true :: true :: r) = true :: r from rfl,b_true] at P2
    have PH2:=hideIt P2
    clear P2
    go_wp2_with fail
    refine PH2.out.mono ?_
    rintro e w3 ⟨rfl,⟨v3,r2,e2⟩,o2⟩
    have X2:=hideIt (X1.out.get r2 e2 o2)
    clear r2 e2 o2 X1 PH2
    have X2 : Hid (Rx w w1.heap.size w3 v3 r 0 (.slice (some ⟨g,0,none⟩) (m + 1) cp) (m + 1) acc):=X2.out
    have P3:=rget9_at X2.out.rf 5 (by omega) (by omega)
    rw [← HA5.out] at P3
    have PH3:=hideIt P3
    clear P3
    go_wp2_with fail
    refine PH3.out.mono ?_
    rintro e w4 ⟨rfl,⟨v4,r3,e3⟩,o3⟩
    have X3:=hideIt (X2.out.get r3 e3 o3)
    clear r3 e3 o3 X2 PH3
    have P4:=rget9_at X3.out.rf 6 (by omega) (by rw [List.length_drop];omega)
    rw [← HE6.out] at P4
    have PH4:=hideIt P4
    clear P4
    go_wp2_with fail
    refine PH4.out.mono ?_
    rintro e w5 ⟨rfl,⟨v5,r4,e4⟩,o4⟩
    have X4:=hideIt (X3.out.get r4 e4 o4)
    clear r4 e4 o4 X3 PH4
    obtain ⟨k0,k1,q0,q1⟩:=two_cells X4.out.rf.cell
    have P5:=rget9_at X4.out.rf q (by omega) HQI.out
    have PH5:=hideIt P5
    clear P5
    go_wp2_with fail
    refine PH5.out.mono ?_
    rintro e w6 ⟨rfl,⟨v6,r5,e5⟩,o5⟩
    have X5:=hideIt (X4.out.get r5 e5 o5)
    clear r5 e5 o5 X4 PH5
    generalize bnum (((r.drop 5).drop 6).take q) = y at *
    generalize y * 2 ^ z' = xx at *
    have hxx:=xor_i (x:=(f : Int)) (y:=(xx : Int)) (by omega) (by omega) (by omega) (by omega)
    simp only [Int.toNat_natCast] at hxx
    have hyl:=xor_lt hf hxl
    generalize f ^^^ xx = yy at *
    have HQN:=hideIt HNX
    have HW4 : Hid (W3 (some (a5,z')) (a5 : Int) (z' : Int)):=.inr ⟨a5,z',rfl,rfl,rfl,h5l,h6l⟩
    clear HNX
    have lc:=X5.out.last HLAST.out
    obtain ⟨HA1,HA2⟩:=app_one w6 yy w6.heap.size rfl
    have HN1:=hideIt HA1
    have HN2:=hideIt HA2
    have HN3 : Hid (m + 1 + 1 ≤ maxLen):=by simp only [Hid];unfold maxLen;omega
    have HN4 : Hid ((m + 1 + 1) * 8 ≤ 140737488355328):=by simp only [Hid];omega
    have HN5 : Hid (w1.heap.size + 1 ≤ (w6.alloc (.cells #[.int .u64 yy] 42)).heap.size):=by have:=X5.out.lt;simp only [Hid];rw [HA2];have hh : w6.heap.size = w6.heap.size:=rfl;omega
    have OWA:=hideIt (X5.out.own.alloc (.cells #[.int .u64 yy] 42))
    clear HA1 HA2
    go_wp2_with (at_builtin;go_loud (refine wpList_append_lies _ rfl _ _ _ rfl (w1.heap.size + 1) 42 i0 (.int .u64 0) 1 8 Tryz.underlying46 hi hz0 hz1 hz2 rfl (by omega) _ (m + 1) _ rfl OWA.out ⟨w6.heap.size,0,none⟩ 1 1 [.int .u64 yy] rfl rfl HN1.out (one_int _) (by omega) HN3.out HN4.out HN5.out (w6.heap.size + 1) HN2.out ?_))
    intro g8 cap8 w8 hown8 hgrow8 hat8 hg8
    have own8 : w8.ownsRow (w1.heap.size + 1) 42 1 (.slice (some ⟨g8,0,none⟩) (m + 1 + 1) cap8) (m + 1 + 1) ((acc ++ [(yy : Int)]).map (Value.int .u64)):=by rw [List.map_append];exact hown8
    have X8:=hideIt (X5.out.grow hgrow8 own8)
    clear hown8 hgrow8 hat8 hg8 own8 OWA HN1 HN2 HN3 HN4 HN5
    have HGD : Hid ((acc ++ [(yy : Int)]).getD (m + 1) 0 = (yy : Int)):=getD_snoc_last acc _ _ HACC.out
    go_wp2
    go_roundw
    case rel => exact .inr (.inl ⟨m + 1,_,yy,_,_,_,_,_,by simp,rfl,rfl,HGD.out,hyl,HW4.out,X8.out,HQN.out,by omega⟩)
    case measure => simp [intOf];omega
  ·have dc : (c == 0) = false:=by rw [beq_eq_false_iff_ne];exact hc
   have dc2 : (c != 0) = true:=by simpa using hc
   obtain ⟨k0,k1,_,_⟩:=two_cells hcell
   have HQ:=hideIt hq
   have HBE:=hideIt hbe
   have HD2 : Hid (D = ([],c)):=by simp only [Hid];rw [HD.out,HQ.out,if_pos hc]
   clear hc hcell hbe hq
   by_cases hj : j < N
   ·have dj : decide ((j : Int) < (N : Int)) = true:=by simp;omega
    go_wp2
    go_region
    all_goals
     go_wp2
     go_ret2
     have hD:=HD2.out
     subst hD
     exact ⟨_,rfl,World.ownsRow_nil _ _ _ _,(only_of_below HBE.out).drew⟩
   ·have dj : decide ((j : Int) < (N : Int)) = false:=by simp;omega
    go_wp2
    go_region
    all_goals
     go_wp2
     go_ret2
     have hD:=HD2.out
     subst hD
     exact ⟨_,rfl,World.ownsRow_nil _ _ _ _,(only_of_below HBE.out).drew⟩
theorem rdecode9_all (v : Value) (ys : List Int) (n : Int) (w : World) (h : Bs .u8 w v ys) (hr : ∀ y ∈ ys,0 ≤ y ∧ y ≤ 255) (hl : ys.length ≤ 1000) :
  Calls Tryz.prog 94 #[v,.int .i64 n] w fun e w' => ∃ u,e = .returned (.tuple #[u,.int .i64 (DEC9 ys n).2]) ∧ w'.ownsRow w.heap.size 42 1 u (DEC9 ys n).1.length ((DEC9 ys n).1.map (Value.int .u64)) ∧ Only (fun _ => False) w w':=by
 by_cases hn : n < 0 ∨ 65536 < n
 ·have e : DEC9 ys n = ([],1):=if_pos hn
  rw [e]
  refine (rdecode9_arg v n w hn).mono ?_
  rintro e w' ⟨rfl,rfl⟩
  exact ⟨_,rfl,World.ownsRow_nil _ _ _ _,Only.refl _ _⟩
 ·obtain ⟨N,rfl⟩:=Int.eq_ofNat_of_zero_le (show 0 ≤ n by omega)
  exact rdecode9_bs v ys N w h hr hl (by omega)
end Go.Proofs.YthapipgaohlgdaaGreatDoor
