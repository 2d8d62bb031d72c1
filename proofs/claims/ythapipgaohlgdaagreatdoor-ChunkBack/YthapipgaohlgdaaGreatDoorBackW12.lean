import Derived.Test.YthapipgaohlgdaaGreatDoorG18
import Derived.Deep.AppendLies
namespace Go.Proofs.YthapipgaohlgdaaGreatDoor
set_option maxRecDepth 100000
open Go.RowKit
theorem Tryz.infoU8k : (Tryz.prog.info? 5).map (fun i => (i.zero,i.size,i.bytes)) = some (some (.int .u8 0),1,1):=by kernel_rfl
theorem cell_one_k (w : World) (x : Value) (T : TypeId) : ∀ j u,[x][j]? = some u → (w.alloc (.cells #[x] T)).cell? ((⟨w.heap.size,0,none⟩ : Addr).add j) = some u:=by
 intro j u hj
 cases j with
 | zero => simp at hj;subst hj;rw [Go.WideShapes.add_plain];unfold World.cell?;simp only;rw [heap_alloc_new];rfl
 | succ j => simp at hj
theorem only_of_below2 {w w' : World} {N : Nat} (h : Below N w w') (e : w.heap.size ≤ N) : Only (fun _ => False) w w':=only_of_below (h.mono e)
set_option maxHeartbeats 1600000 in
theorem back_any (t : ByteArray) (u : Value) (s : List (Int × Int)) (cut more : Int) (w : World) (h : Sps w u s) (hg : Gs s) (hm : s.length ≤ maxLen) (hm2 : t.size ≤ maxLen) (m0 : 0 ≤ more) (m1 : more ≤ 255) (hT : Tab w) :
  Calls Tryz.prog 5 #[.agg #[.string t,u],.int .i64 cut,.int .u8 more] w fun e w' => e = .returned (.bool true) ∧ Only (fun _ => False) w w':=by
 have AW : Hid (∀ W,Only (fun _ => False) w W → Calls Tryz.prog 9 #[] W fun e w' => e = .returned (.bool true) ∧ Only (fun _ => False) W w'):=fun W o => awake_any W (hT.past o)
 have EN : Hid (∀ W,Only (fun _ => False) w W → Calls Tryz.prog 10 #[.agg #[.string t,u]] W fun e w' => ∃ v',e = .returned (.tuple #[v',.int .i64 (ENCC (sb t) s).2]) ∧ w'.ownsRow W.heap.size 5 1 v' (ENCC (sb t) s).1.length ((ENCC (sb t) s).1.map (Value.int .u8)) ∧ Only (fun _ => False) W w') :=
  fun W o => encode12_all t u s W (h.past o) hg hm hm2 (hT.past o)
 have HSm : Hid (∀ W,Only (fun _ => False) w W → ∀ u2,Sps W u2 s → Calls Tryz.prog 18 #[.agg #[.string t,u],.agg #[.string t,u2]] W fun e w' => e = .returned (.bool true) ∧ Only (fun _ => False) W w'):=by
  intro W o u2 h2
  have:=lsame12_any t t u u2 s s W (h.past o) h2 hm
  rw [show decide (t = t ∧ s = s) = true by simp] at this
  exact this
 obtain ⟨ao,cap,rfl⟩:=h.len
 obtain ⟨j0,hj,hy0,hy1,hy2⟩:=info_parts Tryz.infoU8k
 unfold maxLen at hm hm2
 obtain ⟨n,hn⟩ : ∃ n,n = s.length:=⟨_,rfl⟩
 rw [← hn] at EN hm HSm
 rw [← hn]
 have HN:=hideIt hn
 have HSB:=hideIt (sb_len t)
 have HG:=hideIt hg
 have HT:=hideIt hT
 clear h hg hT hn
 have BC:=box_cells w (.string t) (.slice ao n cap)
 have hnot : ∀ (x : Bool) (w : World),(Op.unary .not (.bool x)).run Tryz.prog w = .ok (.bool (!x)) w:=fun _ _ => rfl
 by_cases hl : 200 < n
 ·have d1 : decide ((200 : Int) < (n : Int)) = true:=decide_eq_true (by omega)
  have d2 : decide (200 < n) = true:=decide_eq_true (by omega)
  clear EN HSm
  go_enter Tryz.func5,Tryz.ntmps5
  go_wp2_with fail
  refine (AW.out _ ((Only.refl _ _).alloc _)).mono ?_
  rintro e w1 ⟨rfl,o1⟩
  have q1:=cell_past o1 BC.1
  have q2:=cell_past o1 BC.2
  have O1:=hideIt (Only.same ((Only.refl _ _).alloc _) o1)
  clear o1 AW BC
  go_wp2
  go_ret
  exact ⟨rfl,O1.out⟩
 have d1 : decide ((200 : Int) < (n : Int)) = false:=decide_eq_false (by omega)
 have d2 : decide (200 < n) = false:=decide_eq_false (by omega)
 by_cases ht : 64 < t.size
 ·have e4 : (ENCC (sb t) s).2 = 4:=ENCC_err (by rw [HSB.out];exact ht)
  rw [e4] at EN
  have f1 : decide ((64 : Int) < (t.size : Int)) = true:=decide_eq_true (by omega)
  have f2 : decide (64 < t.size) = true:=decide_eq_true (by omega)
  clear e4 HSm
  go_enter Tryz.func5,Tryz.ntmps5
  go_wp2_with fail
  refine (AW.out _ ((Only.refl _ _).alloc _)).mono ?_
  rintro e w1 ⟨rfl,o1⟩
  have q1:=cell_past o1 BC.1
  have q2:=cell_past o1 BC.2
  have O1:=hideIt (Only.same ((Only.refl _ _).alloc _) o1)
  have E1:=hideIt (EN.out w1 O1.out)
  clear o1 AW BC EN
  go_wp2_with fail
  refine E1.out.mono ?_
  rintro e w2 ⟨v',rfl,own2,o2⟩
  have O2:=hideIt (O1.out.same o2)
  have q1':=cell_past o2 q1
  have q2':=cell_past o2 q2
  clear own2 o2 q1 q2 E1
  go_wp2
  go_ret
  exact ⟨rfl,O2.out⟩
 have e0 : (ENCC (sb t) s).2 = 0:=ENCC_ok (by rw [← HN.out];omega) (by rw [HSB.out];omega)
 rw [e0] at EN
 have L1 : (sb t).length ≤ 64:=by rw [HSB.out];omega
 have L2 : s.length ≤ 65536:=by rw [← HN.out];omega
 have HR:=ENCC_range (sb_range t) L1 L2 HG.out
 have HPL : Hid ((ENCC (sb t) s).1.length ≤ 4000):=ENCC_few (by rw [← HN.out];omega)
 have UD : Hid (∀ (v1 : Value) (w1 : World),Only (fun _ => False) w w1 → Bs .u8 w1 v1 (ENCC (sb t) s).1 → Calls Tryz.prog 16 #[v1] w1 fun e w' => ∃ u2,e = .returned (.tuple #[.agg #[.string t,u2],.int .i64 0]) ∧ Sps w' u2 s ∧ Only (fun _ => False) w1 w'):=by
  intro v1 w1 o b
  have:=decode12_any v1 (ENCC (sb t) s).1 w1 b HR (by have:=HPL.out;omega) (HT.out.past o)
  rw [DECC_ENCC L1 L2 HG.out] at this
  simp only [of_sb] at this
  refine this.mono ?_
  rintro e w' ⟨u2,rfl,own,oo⟩
  exact ⟨u2,rfl,Sps.of_own own,oo⟩
 have hlow:=i64_low cut 12 (by omega)
 rw [show ((2 ^ 12 - 1 : Nat) : Int) = 4095 from rfl,show ((2 ^ 12 : Nat) : Int) = 4096 from rfl] at hlow
 obtain ⟨k,hk⟩ : ∃ k : Nat,(k : Int) = cut % 4096:=⟨(cut % 4096).toNat,by omega⟩
 rw [← hk] at hlow
 have UC : Hid (k < (ENCC (sb t) s).1.length → ∀ (v1 : Value) (w1 : World),Only (fun _ => False) w w1 → Bs .u8 w1 v1 ((ENCC (sb t) s).1.take k) → Calls Tryz.prog 16 #[v1] w1 fun e w' => ∃ a c,e = .returned (.tuple #[.agg #[.string ⟨#[]⟩,.slice a 0 c],.int .i64 2]) ∧ Only (fun _ => False) w1 w'):=by
  intro hkl v1 w1 o b
  have:=decode12_any v1 ((ENCC (sb t) s).1.take k) w1 b (fun y hy => HR y (List.mem_of_mem_take hy)) (by have:=HPL.out;rw [List.length_take];omega) (HT.out.past o)
  rw [DECC_cut L1 L2 hkl] at this
  refine this.mono ?_
  rintro e w' ⟨u2,rfl,own,oo⟩
  obtain ⟨a,c,e⟩:=(Sps.of_own own).len
  subst e
  exact ⟨a,c,rfl,oo⟩
 have UM : Hid (∀ (v1 : Value) (w1 : World),Only (fun _ => False) w w1 → Bs .u8 w1 v1 ((ENCC (sb t) s).1 ++ [more]) → Calls Tryz.prog 16 #[v1] w1 fun e w' => ∃ a c,e = .returned (.tuple #[.agg #[.string ⟨#[]⟩,.slice a 0 c],.int .i64 3]) ∧ Only (fun _ => False) w1 w'):=by
  intro v1 w1 o b
  have:=decode12_any v1 ((ENCC (sb t) s).1 ++ [more]) w1 b (fun y hy => by
   rcases List.mem_append.1 hy with h | h
   ·exact HR y h
   ·simp at h;omega) (by have:=HPL.out;rw [List.length_append];simp;omega) (HT.out.past o)
  rw [DECC_more L1 L2 (by simp)] at this
  refine this.mono ?_
  rintro e w' ⟨u2,rfl,own,oo⟩
  obtain ⟨a,c,e⟩:=(Sps.of_own own).len
  subst e
  exact ⟨a,c,rfl,oo⟩
 have hk10 : k < 4096:=by omega
 clear HR e0 L1 L2 HT HG hk
 generalize (ENCC (sb t) s).1 = eb at *
 go_enter Tryz.func5,Tryz.ntmps5
 go_wp2_with fail
 refine (AW.out _ ((Only.refl _ _).alloc _)).mono ?_
 rintro e w1 ⟨rfl,o1⟩
 have q1:=cell_past o1 BC.1
 have q2:=cell_past o1 BC.2
 have O1:=hideIt (Only.same ((Only.refl _ _).alloc _) o1)
 have E1:=hideIt (EN.out w1 O1.out)
 clear o1 AW BC EN
 go_wp2_with fail
 refine E1.out.mono ?_
 rintro e w2 ⟨v1,rfl,own2,o2⟩
 have O2:=hideIt (O1.out.same o2)
 have r1:=cell_past o2 q1
 have r2:=cell_past o2 q2
 have B1:=hideIt (Bs.of_own own2)
 have NC1:=hideIt (NoCap.of_own own2)
 have U1:=hideIt (UD.out v1 w2 O2.out B1.out)
 obtain ⟨f1,cp1,e1⟩:=B1.out.len
 subst e1
 have hcp : Hid (eb.length ≤ cp1):=by
  obtain ⟨ao',cap',e1,hc,_⟩:=B1.out
  simp only [Value.slice.injEq] at e1
  simp only [Hid];omega
 clear E1 own2 o2 UD q1 q2
 go_wp2_with fail
 refine U1.out.mono ?_
 rintro e w3 ⟨u2,rfl,sp3,o3⟩
 obtain ⟨a3,c3,e3⟩:=sp3.len
 rw [← HN.out] at e3
 subst e3
 have SM:=hideIt (HSm.out (w3.alloc (.cells #[.string t,.slice a3 n c3] 24)) (Only.same (O2.out.same o3) ((Only.refl _ _).alloc _)) (.slice a3 n c3) (sp3.past ((Only.refl _ _).alloc _)))
 have O3:=hideIt (O2.out.same o3)
 have on13:=hideIt o3
 have s1:=cell_past o3 r1
 have s2:=cell_past o3 r2
 have hlt3:=World.block_lt_of_cell? w3 _ s1
 clear U1 sp3 o3 r1 r2
 go_wp2_with fail
 refine SM.out.mono ?_
 rintro e w4 ⟨rfl,o4⟩
 have oo4 : Only (fun _ => False) w3 w4:=Only.same ((Only.refl _ _).alloc _) o4
 have O4:=hideIt (O3.out.same oo4)
 have on14:=hideIt (on13.out.same oo4)
 clear SM o4 oo4 on13 s1 s2 hlt3
 obtain ⟨p,hp⟩ : ∃ p,p = eb.length:=⟨_,rfl⟩
 rw [← hp] at B1 NC1 hcp UC
 rw [← hp]
 have HP:=hideIt hp
 clear hp
 by_cases hkp : k < p
 ·have d2 : decide ((k : Int) < (p : Int)) = true:=decide_eq_true (by omega)
  have d2n : decide (k < p) = true:=decide_eq_true (by omega)
  have hcc:=hcp.out
  have i0 : (0 : Int) ≤ (k : Int):=by omega
  have i2 : (k : Int) ≤ (cp1 : Int):=by omega
  have i3 : (k : Int) ≤ (p : Int):=by omega
  have b4 : Bs .u8 w4 (.slice f1 k cp1) (eb.take k):=(B1.out.past on14.out).head (by omega)
  have UU:=hideIt (UC.out hkp (.slice f1 k cp1) w4 O4.out b4)
  clear b4
  go_wp2_with fail
  refine UU.out.mono ?_
  rintro e w4b ⟨f5,c5,rfl,on5⟩
  have oo5 : Only (fun _ => False) w4b (w4b.alloc (.cells #[.string ⟨#[]⟩,.slice f5 0 c5] 24)):=(Only.refl _ _).alloc _
  have O5:=hideIt (O4.out.same (on5.same oo5))
  have on15:=hideIt (on14.out.same (on5.same oo5))
  clear UU on5 oo5
  have hoX : ((w4b.alloc (.cells #[.string ⟨#[]⟩,.slice f5 0 c5] 24)).alloc (.cells #[] 5)).ownsRow (w4b.heap.size + 1) 5 1 (.slice (some ⟨(w4b.heap.size + 1),0,none⟩) 0 0) 0 []:=by
   have:=World.ownsRow_made (base:=(w4b.heap.size + 1)) (e:=5) (size:=1) (w4b.alloc (.cells #[.string ⟨#[]⟩,.slice f5 0 c5] 24)) #[] 0 (by simp) (by unfold maxLen;omega) rfl
   simpa using this
  have BX:=hideIt ((B1.out.past on15.out).past (only_of_below2 ((Below.refl (w4b.heap.size + 1) (w4b.alloc (.cells #[.string ⟨#[]⟩,.slice f5 0 c5] 24))).alloc (by simp) (.cells #[] 5)) (by simp)))
  have hszX : (w4b.heap.size + 1) ≤ ((w4b.alloc (.cells #[.string ⟨#[]⟩,.slice f5 0 c5] 24)).alloc (.cells #[] 5)).heap.size:=by simp
  go_wp2_with (at_builtin;refine wpList_append_bs _ rfl _ _ _ rfl (w4b.heap.size + 1) 5 j0 (.int .u8 0) 1 Tryz.underlying26 hj hy0 hy1 hy2 rfl _ 0 [] rfl hoX .u8 _ eb rfl BX.out NC1.out ?c3 ?c4 hszX ?_)
  case c3 => have:=HPL.out;unfold maxLen;omega
  case c4 => have:=HPL.out;omega
  intro v7 w7 own7 hgrow7 _ _
  have bl7 : Below (w4b.heap.size + 1) (w4b.alloc (.cells #[.string ⟨#[]⟩,.slice f5 0 c5] 24)) w7:=((Below.refl _ (w4b.alloc (.cells #[.string ⟨#[]⟩,.slice f5 0 c5] 24))).alloc (by simp) _).grown hgrow7 (by simp) (fun q hq => by simp [Value.ownBlock] at hq;omega)
  have hs7 : (w4b.heap.size + 1) ≤ w7.heap.size:=by have:=bl7.size;(try simp at this);omega
  obtain ⟨p7,hp7⟩ : ∃ p7,p7 = eb.length:=⟨_,rfl⟩
  have HP7:=hideIt hp7
  rw [← hp7] at own7
  clear hoX hgrow7 BX hszX hp7
  go_wp2_with (at_builtin;refine wpList_append_lies _ rfl _ _ _ rfl (w4b.heap.size + 1) 5 j0 (.int .u8 0) 1 1 Tryz.underlying26 hj hy0 hy1 hy2 rfl (by omega) _ p7 (eb.map (Value.int .u8)) rfl (own7.alloc _) ⟨w7.heap.size,0,none⟩ 1 1 [.int .u8 more] rfl rfl ?c1 ?c2 (by omega) ?c3 ?c4 ?c5 (w7.heap.size + 1) (by simp) ?_)
  case c1 => exact cell_one_k _ _ _
  case c2 => intro u hu;simp at hu;subst hu;rfl
  case c3 => have:=HPL.out;have:=HP7.out;unfold maxLen;omega
  case c4 => have:=HPL.out;have:=HP7.out;omega
  case c5 => simp;omega
  intro g8 cap8 w8 own8 hgrow8 hat8 hg8
  have bl8 : Below (w4b.heap.size + 1) (w4b.alloc (.cells #[.string ⟨#[]⟩,.slice f5 0 c5] 24)) w8:=(bl7.alloc (by omega) _).grown hgrow8 (by simp;omega) (fun q hq => (own7.lt q hq).1)
  have b8 : Bs .u8 w8 (.slice (some ⟨g8,0,none⟩) (p7 + 1) cap8) (eb ++ [more]):=Bs.of_own (lo:=(w4b.heap.size + 1)) (E:=5) (by rw [List.map_append,List.length_append,← HP7.out];exact own8)
  have O8:=hideIt (O5.out.same (only_of_below2 bl8 (by simp)))
  have UL:=hideIt (UM.out (.slice (some ⟨g8,0,none⟩) (p7 + 1) cap8) w8 O8.out b8)
  clear own7 own8 hgrow8 hat8 b8 bl7 bl8
  go_wp2_with fail
  refine UL.out.mono ?_
  rintro e w9 ⟨f9,c9,rfl,o9⟩
  have O9:=hideIt (Only.same (O8.out.same o9) ((Only.refl _ w9).alloc (.cells #[.string ⟨#[]⟩,.slice f9 0 c9] 24)))
  clear o9 UL
  go_wp2
  go_ret
  exact ⟨rfl,O9.out⟩
 ·have d2 : decide ((k : Int) < (p : Int)) = false:=decide_eq_false (by omega)
  have d2n : decide (k < p) = false:=decide_eq_false (by omega)
  obtain ⟨w5,hw5⟩ : ∃ w5,w5 = w4:=⟨_,rfl⟩
  subst hw5
  have O5:=hideIt O4.out
  have on15:=hideIt on14.out
  have hoX : (w5.alloc (.cells #[] 5)).ownsRow w5.heap.size 5 1 (.slice (some ⟨w5.heap.size,0,none⟩) 0 0) 0 []:=by
   have:=World.ownsRow_made (base:=w5.heap.size) (e:=5) (size:=1) w5 #[] 0 (by simp) (by unfold maxLen;omega) rfl
   simpa using this
  have BX:=hideIt ((B1.out.past on15.out).past (only_of_below2 ((Below.refl w5.heap.size w5).alloc (by simp) (.cells #[] 5)) (by simp)))
  have hszX : w5.heap.size ≤ (w5.alloc (.cells #[] 5)).heap.size:=by simp
  go_wp2_with (at_builtin;refine wpList_append_bs _ rfl _ _ _ rfl w5.heap.size 5 j0 (.int .u8 0) 1 Tryz.underlying26 hj hy0 hy1 hy2 rfl _ 0 [] rfl hoX .u8 _ eb rfl BX.out NC1.out ?c3 ?c4 hszX ?_)
  case c3 => have:=HPL.out;unfold maxLen;omega
  case c4 => have:=HPL.out;omega
  intro v7 w7 own7 hgrow7 _ _
  have bl7 : Below w5.heap.size w5 w7:=((Below.refl _ w5).alloc (by simp) _).grown hgrow7 (by simp) (fun q hq => by simp [Value.ownBlock] at hq;omega)
  have hs7 : w5.heap.size ≤ w7.heap.size:=by have:=bl7.size;(try simp at this);omega
  obtain ⟨p7,hp7⟩ : ∃ p7,p7 = eb.length:=⟨_,rfl⟩
  have HP7:=hideIt hp7
  rw [← hp7] at own7
  clear hoX hgrow7 BX hszX hp7
  go_wp2_with (at_builtin;refine wpList_append_lies _ rfl _ _ _ rfl w5.heap.size 5 j0 (.int .u8 0) 1 1 Tryz.underlying26 hj hy0 hy1 hy2 rfl (by omega) _ p7 (eb.map (Value.int .u8)) rfl (own7.alloc _) ⟨w7.heap.size,0,none⟩ 1 1 [.int .u8 more] rfl rfl ?c1 ?c2 (by omega) ?c3 ?c4 ?c5 (w7.heap.size + 1) (by simp) ?_)
  case c1 => exact cell_one_k _ _ _
  case c2 => intro u hu;simp at hu;subst hu;rfl
  case c3 => have:=HPL.out;have:=HP7.out;unfold maxLen;omega
  case c4 => have:=HPL.out;have:=HP7.out;omega
  case c5 => simp;omega
  intro g8 cap8 w8 own8 hgrow8 hat8 hg8
  have bl8 : Below w5.heap.size w5 w8:=(bl7.alloc (by omega) _).grown hgrow8 (by simp;omega) (fun q hq => (own7.lt q hq).1)
  have b8 : Bs .u8 w8 (.slice (some ⟨g8,0,none⟩) (p7 + 1) cap8) (eb ++ [more]):=Bs.of_own (lo:=w5.heap.size) (E:=5) (by rw [List.map_append,List.length_append,← HP7.out];exact own8)
  have O8:=hideIt (O5.out.same (only_of_below2 bl8 (by simp)))
  have UL:=hideIt (UM.out (.slice (some ⟨g8,0,none⟩) (p7 + 1) cap8) w8 O8.out b8)
  clear own7 own8 hgrow8 hat8 b8 bl7 bl8
  go_wp2_with fail
  refine UL.out.mono ?_
  rintro e w9 ⟨f9,c9,rfl,o9⟩
  have O9:=hideIt (Only.same (O8.out.same o9) ((Only.refl _ w9).alloc (.cells #[.string ⟨#[]⟩,.slice f9 0 c9] 24)))
  clear o9 UL
  go_wp2
  go_ret
  exact ⟨rfl,O9.out⟩
end Go.Proofs.YthapipgaohlgdaaGreatDoor
