import Derived.Shelf.SlIter.Nil
import Derived.Shelf.SortM.Plain
import Derived.Shelf.SortM.SortNone
import Derived.Test.YtnhapmboienipaaGreatDoorProg
import Derived.Test.YtnhapmboienipaaGreatDoorY16
import Derived.Test.YtnhapmboienipaaGreatDoorY15
namespace Go.Proofs.YtnhapmboienipaaGreatDoor
set_option maxHeartbeats 4000000
set_option maxRecDepth 100000
open Go.RowKit _root_.Go.Proofs.Tryz
section
open Go.Maps Go.Sort Go.Shelf
def Tryz.keys112_ren:Go.Shelf.Ren:=⟨fun | 7=>112 | 10=>158 | n=>n,fun | 23=>112 | 26=>9 | 3=>3 | 28=>155 | 0=>0 | 27=>154 | 33=>202 | 4=>4 | n=>n,fun | n=>n⟩
theorem Tryz.keys112:Go.Proofs.SlLaysZ.n7 prog Tryz.keys112_ren:={
 mixed:=by kernel_rfl
 f7:=⟨Tryz.f112.name,by decide,func112.trans (congrArg some (by kernel_rfl))⟩
 f10:=⟨Tryz.f158.name,by decide,func158.trans (congrArg some (by kernel_rfl))⟩
 t0:=underlying0
 a0:=Tryz.isAgg0
 z0:=Tryz.sizeOf0
 v0:=Tryz.zeroValue0
 t4:=underlying4
 a4:=Tryz.isAgg4
 z4:=Tryz.sizeOf4
 v4:=Tryz.zeroValue4
 t23:=underlying112
 a23:=Tryz.isAgg112
 z23:=Tryz.sizeOf112
 v23:=Tryz.zeroValue112
 t26:=underlying9
 a26:=Tryz.isAgg9
 z26:=Tryz.sizeOf9
 v26:=Tryz.zeroValue9
 t27:=underlying154
 a27:=Tryz.isAgg154
 z27:=Tryz.sizeOf154
 v27:=Tryz.zeroValue154
 t28:=underlying155
 a28:=Tryz.isAgg155
 z28:=Tryz.sizeOf155
 v28:=Tryz.zeroValue155
 t33:=underlying202
 a33:=Tryz.isAgg202
 z33:=Tryz.sizeOf202
 v33:=Tryz.zeroValue202 }
def Tryz.sorted111_ren:Go.Shelf.Ren:=⟨fun | 6=>111 | 8=>156 | 9=>157 | 11=>178 | 13=>155 | 12=>179 | 23=>176 | 24=>177 | 14=>206 | 15=>207 | 16=>208 | 17=>209 | 18=>210 | 19=>211 | 20=>212 | 21=>213 | 22=>214 | 25=>232 | 26=>233 | 27=>234 | 28=>235 | 29=>236 | 30=>237 | 31=>260 | n=>n,fun | 26=>9 | 28=>155 | 24=>111 | 0=>0 | 3=>3 | 37=>135 | 48=>134 | 50=>23 | 4=>4 | 40=>250 | 39=>249 | 45=>255 | 5=>5 | 9=>9 | 51=>264 | 55=>268 | 57=>292 | 58=>282 | 33=>202 | n=>n,fun | n=>n⟩
theorem Tryz.sorted111:Go.Proofs.SlLaysZ.n6 prog Tryz.sorted111_ren:={
 mixed:=by kernel_rfl
 f6:=⟨Tryz.f111.name,by decide,func111.trans (congrArg some (by kernel_rfl))⟩
 f8:=⟨Tryz.f156.name,by decide,func156.trans (congrArg some (by kernel_rfl))⟩
 f11:=⟨Tryz.f178.name,by decide,func178.trans (congrArg some (by kernel_rfl))⟩
 t0:=underlying0
 a0:=Tryz.isAgg0
 z0:=Tryz.sizeOf0
 v0:=Tryz.zeroValue0
 t24:=underlying111
 a24:=Tryz.isAgg111
 z24:=Tryz.sizeOf111
 v24:=Tryz.zeroValue111
 t26:=underlying9
 a26:=Tryz.isAgg9
 z26:=Tryz.sizeOf9
 v26:=Tryz.zeroValue9
 t28:=underlying155
 a28:=Tryz.isAgg155
 z28:=Tryz.sizeOf155
 v28:=Tryz.zeroValue155
 i26:=by kernel_rfl }
def Tryz.sort157_ren:Go.Shelf.Ren:=⟨fun | 6=>157 | 8=>155 | 9=>179 | 19=>176 | 20=>177 | 21=>206 | 22=>207 | 23=>208 | 24=>209 | 25=>210 | 26=>211 | 27=>212 | 28=>213 | 29=>214 | 36=>232 | 31=>233 | 32=>234 | 37=>235 | 38=>236 | 39=>237 | 41=>260 | n=>n,fun | 27=>111 | 29=>9 | 3=>3 | 32=>135 | 26=>111 | 0=>0 | 44=>134 | 46=>23 | 4=>4 | 36=>250 | 35=>249 | 41=>255 | 5=>5 | 9=>9 | 53=>264 | 57=>268 | 63=>292 | 64=>282 | n=>n,fun | n=>n⟩
theorem Tryz.sort157:Go.Proofs.SlLaysM.n6 prog Tryz.sort157_ren:={
 mixed:=by kernel_rfl
 f6:=⟨Tryz.f157.name,by decide,func157.trans (congrArg some (by kernel_rfl))⟩
 f8:=func155.trans (congrArg some (by kernel_rfl))
 f9:=⟨Tryz.f179.name,by decide,func179.trans (congrArg some (by kernel_rfl))⟩
 f19:=func176.trans (congrArg some (by kernel_rfl))
 f20:=func177.trans (congrArg some (by kernel_rfl))
 f21:=⟨Tryz.f206.name,by decide,func206.trans (congrArg some (by kernel_rfl))⟩
 f22:=⟨Tryz.f207.name,by decide,func207.trans (congrArg some (by kernel_rfl))⟩
 f23:=⟨Tryz.f208.name,by decide,func208.trans (congrArg some (by kernel_rfl))⟩
 f24:=⟨Tryz.f209.name,by decide,func209.trans (congrArg some (by kernel_rfl))⟩
 f25:=⟨Tryz.f210.name,by decide,func210.trans (congrArg some (by kernel_rfl))⟩
 f26:=⟨Tryz.f211.name,by decide,func211.trans (congrArg some (by kernel_rfl))⟩
 f27:=⟨Tryz.f212.name,by decide,func212.trans (congrArg some (by kernel_rfl))⟩
 f28:=⟨Tryz.f213.name,by decide,func213.trans (congrArg some (by kernel_rfl))⟩
 f29:=⟨Tryz.f214.name,by decide,func214.trans (congrArg some (by kernel_rfl))⟩
 f31:=func233.trans (congrArg some (by kernel_rfl))
 f32:=func234.trans (congrArg some (by kernel_rfl))
 f36:=⟨Tryz.f232.name,by decide,func232.trans (congrArg some (by kernel_rfl))⟩
 f37:=⟨Tryz.f235.name,by decide,func235.trans (congrArg some (by kernel_rfl))⟩
 f38:=⟨Tryz.f236.name,by decide,func236.trans (congrArg some (by kernel_rfl))⟩
 f39:=⟨Tryz.f237.name,by decide,func237.trans (congrArg some (by kernel_rfl))⟩
 f41:=⟨Tryz.f260.name,by decide,func260.trans (congrArg some (by kernel_rfl))⟩
 t0:=underlying0
 a0:=Tryz.isAgg0
 z0:=Tryz.sizeOf0
 v0:=Tryz.zeroValue0
 t3:=underlying3
 a3:=Tryz.isAgg3
 z3:=Tryz.sizeOf3
 v3:=Tryz.zeroValue3
 t4:=underlying4
 a4:=Tryz.isAgg4
 z4:=Tryz.sizeOf4
 v4:=Tryz.zeroValue4
 t5:=underlying5
 a5:=Tryz.isAgg5
 z5:=Tryz.sizeOf5
 v5:=Tryz.zeroValue5
 t9:=underlying9
 a9:=Tryz.isAgg9
 z9:=Tryz.sizeOf9
 v9:=Tryz.zeroValue9
 t26:=underlying111
 a26:=Tryz.isAgg111
 z26:=Tryz.sizeOf111
 v26:=Tryz.zeroValue111
 t27:=underlying111
 a27:=Tryz.isAgg111
 z27:=Tryz.sizeOf111
 v27:=Tryz.zeroValue111
 t29:=underlying9
 a29:=Tryz.isAgg9
 z29:=Tryz.sizeOf9
 v29:=Tryz.zeroValue9
 t32:=underlying135
 a32:=Tryz.isAgg135
 z32:=Tryz.sizeOf135
 v32:=Tryz.zeroValue135
 t35:=underlying249
 a35:=Tryz.isAgg249
 z35:=Tryz.sizeOf249
 v35:=Tryz.zeroValue249
 t36:=underlying250
 a36:=Tryz.isAgg250
 z36:=Tryz.sizeOf250
 v36:=Tryz.zeroValue250
 t41:=underlying255
 a41:=Tryz.isAgg255
 z41:=Tryz.sizeOf255
 v41:=Tryz.zeroValue255
 t44:=underlying134
 a44:=Tryz.isAgg134
 z44:=Tryz.sizeOf134
 v44:=Tryz.zeroValue134
 t46:=underlying23
 a46:=Tryz.isAgg23
 z46:=Tryz.sizeOf23
 v46:=Tryz.zeroValue23
 t53:=underlying264
 a53:=Tryz.isAgg264
 z53:=Tryz.sizeOf264
 v53:=Tryz.zeroValue264
 t57:=underlying268
 a57:=Tryz.isAgg268
 z57:=Tryz.sizeOf268
 v57:=Tryz.zeroValue268
 t63:=underlying292
 a63:=Tryz.isAgg292
 z63:=Tryz.sizeOf292
 v63:=Tryz.zeroValue292
 t64:=underlying282
 a64:=Tryz.isAgg282
 z64:=Tryz.sizeOf282
 v64:=Tryz.zeroValue282 }
theorem Tryz.sorts111 (m:Nat):AnyZ.SortsIn prog Tryz.sorted111_ren Fence.wide m :=
 ⟨fun blk off cap ss W hH hblk hsz=>callsIn_wide.2 (AnyM.slices_Sort_string Tryz.sort157 blk off cap ss W hH hblk hsz),
 fun p cap W=>callsIn_wide.2 (AnyM.slices_Sort_string_none Tryz.sort157 p cap W)⟩
theorem Tryz.maps_Keys_112 (mb:Option Nat) (W:World):CallsIn Fence.wide 5 prog 112 #[.map mb] W fun e w'=>e=.returned (.func (.func 158) #[] #[.pointer (some ⟨W.heap.size,0,none⟩)])∧w'=W.alloc (.cells #[.map mb] 112) :=
 AnyZ.keys_in Tryz.keys112 Fence.wide 5 trivial rfl mb W
theorem Tryz.slices_Sorted_keys_111_112 {H:Type} (b nn:Nat) (D0:DataW H) (R:Value→Option (DataW H × List MemPlace)) (w:World) (hown:w.ownsMap prog 9 R b nn D0) (hmax:Maps.size D0≤maxLen) (hbytes:Maps.size D0*16≤140737488355328) :
  CallsIn Fence.wide 5 prog 111 #[.func (.func 158) #[] #[.pointer (some ⟨w.heap.size,0,none⟩)]] (w.alloc (.cells #[.map (some b)] 112)) fun e w'=>∃(v:Value) (ss:List (List UInt8)),e=.returned v∧ss.Perm (strKeys D0) ∧
   w'.ownsRow (w.alloc (.cells #[.map (some b)] 112)).heap.size 9 1 v ss.length ((ss.mergeSort (fun x y=>decide (x≤y))).map encStr)∧(v=.slice none 0 0↔ss=[])∧Below (w.alloc (.cells #[.map (some b)] 112)).heap.size (w.alloc (.cells #[.map (some b)] 112)) w':=by
 have hbl:=hown.lt
 have hseq:SeqGives Fence.wide 2 prog 158 #[.pointer (some ⟨w.heap.size,0,none⟩)] encStr (fun ss=>ss.Perm (strKeys D0)) (Maps.size D0) (w.alloc (.cells #[.map (some b)] 112)) :=
  AnyZ.keys_gives (ρ:=Tryz.keys112_ren) { Tryz.keys112 with } Fence.wide _ trivial rfl (by omega) w.heap.size b nn D0 _ (by simp) (by simp) (by
   obtain ⟨es,clock,hb,Ft,hs,hD⟩:=hown
   exact ⟨es,clock,(Below.heap_alloc _ _ b hbl).trans hb,Ft,hs,hD⟩)
 exact AnyZ.sorted_in Tryz.sorted111 Fence.wide 5 trivial trivial trivial trivial rfl (by omega) (Tryz.sorts111 _) (enters_of func157 (by kernel_rfl) rfl) 158 #[.pointer (some ⟨w.heap.size,0,none⟩)] trivial (enters_of func158 (by kernel_rfl) rfl) _ _ hmax hbytes _ hseq
theorem Qqa (b:Nat) (w:World):Calls prog 112 #[.map (some b)] w fun e w'=>e=.returned (.func (.func 158) #[] #[.pointer (some ⟨w.heap.size,0,none⟩)])∧w'=w.alloc (.cells #[.map (some b)] 112) :=
 callsIn_wide.1 (Tryz.maps_Keys_112 (some b) w)
theorem QkN {H:Type} (b nn:Nat) (D0:DataW H) (R:Value→Option (DataW H × List MemPlace)) (w:World) (hown:w.ownsMap prog 9 R b nn D0) (hmax:Maps.size D0≤maxLen) (hbytes:Maps.size D0*16≤140737488355328) :
  Calls prog 111 #[.func (.func 158) #[] #[.pointer (some ⟨w.heap.size,0,none⟩)]] (w.alloc (.cells #[.map (some b)] 112)) fun e w'=>∃(v:Value) (ss:List (List UInt8)),e=.returned v∧ss.Perm (strKeys D0) ∧
   w'.ownsRow (w.alloc (.cells #[.map (some b)] 112)).heap.size 9 1 v ss.length ((ss.mergeSort (fun x y=>decide (x≤y))).map encStr)∧(v=.slice none 0 0↔ss=[])∧Below (w.alloc (.cells #[.map (some b)] 112)).heap.size (w.alloc (.cells #[.map (some b)] 112)) w' :=
 callsIn_wide.1 (Tryz.slices_Sorted_keys_111_112 b nn D0 R w hown hmax hbytes)
end
section
open Go.Maps
theorem law9:Keyed prog 9:=string_keyed underlying9
theorem Qub (w:World):(zeroValue 3).run prog w=.ok (.int .i64 0) w:=by kernel_rfl
theorem QmF {y:Nat} (h:y≤1048576):(Lit.int .i64 (y:Int)).wf=true:=by
 have e1:IntKind.i64.min=-9223372036854775808:=by decide
 have e2:IntKind.i64.max=9223372036854775807:=by decide
 simp only [Lit.wf,e1,e2,Bool.and_eq_true,decide_eq_true_eq];omega
structure TMap (w wr:World) (es:List (List Int × Int)) (k:Nat):Prop where
 map:∃D,wr.ownsMap prog 9 (plainElem (H:=Unit) prog 3) w.heap.size k D∧HasT D ((es.map Prod.fst).take k)
 on:Only (fun _=>False) w wr
theorem Quc (es:List (List Int × Int)) (k:Nat) (h:k<es.length):(es.map Prod.fst).take (k+1)=(es.map Prod.fst).take k++[(es.getD k ([],0)).1]:=by
 rw [List.take_succ_eq_append_getElem (by simpa using h),List.getElem_map,Yad,Yaf h]
 rfl
theorem Qdi (v:Value) (es:List (List Int × Int)) (w:World) (h:Ens w v es) (hu:EU8 es) (hl:es.length≤1048576) (hx:∀e∈es,e.1.length≤maxLen) :
  Calls prog 110 #[v] w fun e w'=>e=.returned (.map (some w.heap.size))∧TMap w w' es es.length:=by
 have hmm:=@run_makeMap prog;obtain ⟨ao,cap,rfl⟩:=h.len;have HB:=Qaa h;have HU:=Qaa hu;have HX:=Qaa hx;obtain ⟨m,hm⟩:∃m,m=es.length:=⟨_,rfl⟩;rw [←hm] at HB hl;rw [←hm];have HM:=Qaa hm
 have F0:Hid (TMap w (w.alloc (.map #[] 0)) es 0) :=
  ⟨⟨_,World.ownsMap_made _ _ _ _,fun x _=>by simp [Maps.has]⟩,(Only.refl _ _).alloc _⟩
 clear h hm hu hx;go_enter func110,ntmps110;go_wp2
 go_loopw [9] (fun i wr=>∃k:Nat,k≤m∧i=.int .i64 k∧TMap w wr es k) (fun i _=>m - (intOf i).toNat)
 case atStart=>exact ⟨0,Nat.zero_le _,rfl,F0.out⟩
 case round =>
  clear F0;obtain ⟨k,hk,rfl,⟨D,hmap,hT⟩,hon⟩:=hrel
  by_cases hlt:k<m
  ·have hlt':k<es.length:=by rw [←HM.out];exact hlt
   obtain ⟨b,off,cap',e,hc0,hc1⟩:=(HB.out.past hon).at k hlt';simp only [Value.slice.injEq] at e;obtain ⟨rfl,hmx,rfl⟩:=e;clear hmx;have hmem:es.getD k ([],0)∈es:=QaU hlt';have ST:=Qaa (Quc es k hlt');obtain ⟨x,hx⟩:∃x,x=es.getD k ([],0):=⟨_,rfl⟩;rw [←hx] at ST hc0 hc1 hmem;have hkey:keyOf prog 9 (.string (strOfNums x.1))=some (kS x.1):=Qik underlying9 _ (HX.out x hmem);have XU:=Qaa (HU.out x hmem);have HT:=Qaa hT;have HO:=Qaa hon
   have i1:(k:Int)<(m:Int):=by omega
   have hlo:=hmap.lt;clear hx hT hon hmem hlt' HB
   go_wp2_with (first
    | (at_mapUpdate;refine wpList_mapUpdate_own _ rfl _ _ _ 112 rfl 9 3 law9 underlying112 (plainElem (H:=Unit) prog 3) w.heap.size k _ rfl (hmap.alloc _) (by unfold maxLen;omega) _ _ _ rfl rfl hkey _ [] (plainElem_int underlying3 (QmF (y:=0) (by omega))) ?_;intro w1 hown1 hgrow1)
    | fail)
   go_roundw
   case rel =>
    refine ⟨k+1,by omega,by go_num,⟨_,hown1,?_⟩,(HO.out.alloc _).grown hgrow1 (fun j hj e=>by injection e;omega)⟩;rw [ST.out];exact HT.out.put hmap.isMap XU.out _
   case measure=>simp [intOf];omega
  ·obtain rfl:k=m:=by omega
   have HF:Hid (TMap w wr es k):=⟨⟨D,hmap,hT⟩,hon⟩;clear hmap hT hon;go_wp2;go_ret;exact ⟨rfl,HF.out⟩
theorem Qey {H:Type} {P:Program} {k:TypeId} {R:Value→Option (DataW H × List MemPlace)} {w w':World} {b n:Nat} {D:DataW H} (h:w.ownsMap P k R b n D) {S:Nat→Prop} (o:Only S w w') (hs:¬S b):w'.ownsMap P k R b n D:=by
 obtain ⟨es,clock,hb,F,hl,hD⟩:=h;exact ⟨es,clock,o.heap hb hs,F,hl,hD⟩
theorem RIS.apart {T:List (List Int)} (h:RIS T) {i j:Nat} (hij:i<j) (hj:j<T.length):T.getD i []≠T.getD j []:=by
 have h1:=List.pairwise_iff_getElem.1 h i j (by omega) hj hij;rw [Yad,Yad,Yaf hj,Yaf (by omega)];exact QfN h1
structure TOrd (w wr:World) (T:List (List Int)) (vt:Value) (lo N k:Nat):Prop where
 map:∃D,wr.ownsMap prog 9 (plainElem (H:=Unit) prog 3) w.heap.size (N+k) D∧∀j,j<k→∀z,D.atKey (kS (T.getD j [])) z=.lit (.int .i64 (j:Int))
 row:wr.ownsRow lo 9 1 vt T.length (QcS T)
 on:Only (fun _=>False) w wr
theorem TOrd.at {w wr:World} {T:List (List Int)} {vt:Value} {lo N:Nat} (h:TOrd w wr T vt lo N T.length):∃D,wr.ownsMap prog 9 (plainElem (H:=Unit) prog 3) w.heap.size (N+T.length) D∧AtT D T:=by
 obtain ⟨D,hm,ha⟩:=h.map;refine ⟨D,hm,fun x hx z=>?_⟩;have:=ha (PLC T x) (QdP hx) z;rw [Qjn hx] at this;exact this
theorem Qie (v:Value) (es:List (List Int × Int)) (w:World) (h:Ens w v es) (hu:EU8 es) (hl:es.length≤1048576) (hx:∀e∈es,e.1.length≤maxLen) :
  Calls prog 75 #[v] w fun e w'=>∃vt,e=.returned (.tuple #[vt,.map (some w.heap.size)])∧TOrd w w' (TEN (es.map Prod.fst)) vt (w.heap.size+1) es.length (TEN (es.map Prod.fst)).length:=by
 have A:=Qaa (Qdi v es w h hu hl hx)
 have HU:Hid (∀x∈es.map Prod.fst,U8 x):=fun x hx=>by obtain ⟨e,he,rfl⟩:=List.mem_map.1 hx;exact hu e he
 have HX:Hid (∀x∈TEN (es.map Prod.fst),U8 x∧x.length≤maxLen):=fun x hx'=>by
  obtain ⟨e,he,rfl⟩:=List.mem_map.1 ((QbB _ _).1 hx');exact ⟨hu e he,hx e he⟩
 have HL:Hid ((TEN (es.map Prod.fst)).length≤es.length):=by have:=QmD (es.map Prod.fst);rw [List.length_map] at this;exact this
 have HR:=Qaa (Qdx (es.map Prod.fst));obtain ⟨m,hm⟩:∃m,m=es.length:=⟨_,rfl⟩;rw [←hm] at hl A HL;rw [←hm]
 have HTk:Hid ((es.map Prod.fst).take m=es.map Prod.fst):=by
  rw [hm];have:(es.map Prod.fst).take (es.map Prod.fst).length=es.map Prod.fst:=List.take_length;rw [List.length_map] at this;exact this
 obtain ⟨T,hTT⟩:∃T,T=TEN (es.map Prod.fst):=⟨_,rfl⟩;have HTT:=Qaa hTT;rw [←hTT] at HX HL HR;rw [←hTT];clear hm h hu hx hTT;go_enter func75,ntmps75;go_wp2_with fail;refine A.out.mono ?_;rintro e w1 ⟨rfl,⟨D,hmap,hT⟩,hon⟩;rw [HTk.out] at hT;obtain ⟨sk1,sk2,sk3⟩:=QeD underlying9 hmap;have SZ:=Qju HU.out hT sk1 sk2 sk3;have SO:=Qaa (fun ss hp=>Qjt HU.out hT sk1 sk2 (ss:=ss) hp);have HT:=Qaa hT;rw [←HTT.out] at SZ SO;have hlT:=HL.out
 have ms:Maps.size D≤1048576:=by omega
 have C:=Qaa (QkN w.heap.size m D _ w1 hmap (by unfold maxLen;omega) (by omega));have HO:=Qaa hon;have s1:=hmap.lt;clear A hT sk1 sk2 hon HTk HU;go_wp2_with fail;refine (Qqa w.heap.size w1).mono ?_;rintro e w2 ⟨rfl,rfl⟩;go_wp2_with fail;refine C.out.mono ?_;rintro e w3 ⟨vt,ss,rfl,hp,hrow,_,hbe⟩
 have hl3:ss.length=T.length:=by rw [hp.length_eq,sk3,SZ]
 have hT3:=SO.out ss hp;rw [Qui,hT3,hl3] at hrow;have o3:=Qav hbe;have hmap3:=Qey (hmap.alloc (.cells #[.map (some w.heap.size)] 112)) o3 (fun f=>f);have hrow3:w3.ownsRow (w.heap.size+1) 9 1 vt T.length (QcS T):=Qaf hrow (by simp;omega);have F0:Hid (TOrd w w3 T vt (w.heap.size+1) m 0):=⟨⟨D,hmap3,fun j hj=>absurd hj (Nat.not_lt_zero _)⟩,hrow3,Only.same (HO.out.alloc _) o3⟩;obtain ⟨av,cv,ev⟩:=(Sts.of_own hrow3).len;obtain ⟨n,hn⟩:∃n,n=T.length:=⟨_,rfl⟩;have HN:=Qaa hn;rw [←hn] at ev hlT;subst ev;clear hmap hmap3 hrow hrow3 hbe hp hl3 hT3 SO C o3 s1 sk3 SZ HT HO hn ms;go_wp2
 go_loopw [15] (fun i wr=>∃k:Nat,k≤n∧i=.int .i64 k∧TOrd w wr T (.slice av n cv) (w.heap.size+1) m k) (fun i _=>n - (intOf i).toNat)
 case atStart=>exact ⟨0,Nat.zero_le _,rfl,F0.out⟩
 case round =>
  clear F0;obtain ⟨k,hk,rfl,⟨D',hmap,hat⟩,hrow,hon⟩:=hrel
  by_cases hlt:k<n
  ·have hlt':k<T.length:=by rw [←HN.out];exact hlt
   obtain ⟨b,off,cap',e,hc0⟩:=(Sts.of_own hrow).at k hlt';simp only [Value.slice.injEq] at e;obtain ⟨rfl,hmx,rfl⟩:=e;clear hmx;obtain ⟨xu,xl⟩:=HX.out _ (QaU (s:=T) (d:=[]) hlt');have hkey:keyOf prog 9 (.string (strOfNums (T.getD k [])))=some (kS (T.getD k [])):=Qik underlying9 _ xl;have BL:=Qaa (Qtd hrow (Nat.lt_succ_self w.heap.size))
   have HA:Hid (∀j,j<k→kS (T.getD j [])≠kS (T.getD k [])):=fun j hj=>kS_ne (HX.out _ (QaU (by omega))).1 xu (HR.out.apart hj hlt')
   have HAT:=Qaa hat;have HRW:=Qaa hrow;obtain ⟨x,hx⟩:∃x,x=T.getD k []:=⟨_,rfl⟩;have HXX:=Qaa hx;rw [←hx] at hc0 hkey HA;have HO:=Qaa hon
   have i1:(k:Int)<(n:Int):=by omega
   have IM:=Qaa hmap.isMap;clear hx hon hlt' xu xl hrow hat
   go_wp2_with (first
    | (at_mapUpdate;refine wpList_mapUpdate_own _ rfl _ _ _ 112 rfl 9 3 law9 underlying112 (plainElem (H:=Unit) prog 3) w.heap.size (m+k) _ rfl hmap (by unfold maxLen;omega) _ _ _ rfl rfl hkey _ [] (plainElem_int underlying3 (QmF (y:=k) (by omega))) ?_;intro w1 hown1 hgrow1)
    | fail)
   go_roundw
   case rel =>
    refine ⟨k+1,by omega,by go_num,⟨_,hown1,fun j hj z=>?_⟩,HRW.out.kept hgrow1 (Or.inr BL.out.symm),HO.out.grown hgrow1 (fun j hj e=>by injection e;omega)⟩
    rcases Nat.lt_succ_iff_lt_or_eq.1 hj with h1 | rfl
    ·rw [atKey_put_other (HA.out j h1)]
     exact HAT.out j h1 z
    ·rw [←HXX.out,atKey_put_same IM.out (QqV x)]
   case measure=>simp [intOf];omega
  ·obtain rfl:k=n:=by omega
   have HF:Hid (TOrd w wr T (.slice av k cv) (w.heap.size+1) m k):=⟨⟨D',hmap,hat⟩,hrow,hon⟩;clear hmap hat hrow hon;go_wp2;go_ret2;exact ⟨_,rfl,by rw [←HN.out];exact HF.out⟩
end
section
open Go.Maps
theorem Tryz.sizeMf:(prog.info? 42).map (·.size)=some 4:=by kernel_rfl
theorem QaA {W:World} {b:Nat} {x0 x1 x2 x3:Value} (h:W.heap[b]? = some (.cells #[x0,x1,x2,x3] 42 (0,0))):(loadVar 42 ⟨b,0,none⟩).run prog W=.ok (.agg #[x0,x1,x2,x3]) W :=
 run_loadVar_row W b 42 42 _ (0,0) _ h underlying42 rfl Tryz.sizeMf
theorem QaQ {W:World} {B:Nat} {x0 x1 x2 x3:Value} {E:TypeId} (h:W.heap[B]? = some (.cells #[x0,x1,x2,x3] E (0,0))):(W.cell? ⟨B,0,none⟩=some x0∧W.cell? ⟨B,1,none⟩=some x1∧W.cell? ⟨B,2,none⟩=some x2∧W.cell? ⟨B,3,none⟩=some x3)∧(W.frozen? ⟨B,0,none⟩=false∧W.frozen? ⟨B,1,none⟩=false∧W.frozen? ⟨B,2,none⟩=false∧W.frozen? ⟨B,3,none⟩=false) :=
 ⟨⟨by simp [World.cell?,h],by simp [World.cell?,h],by simp [World.cell?,h],by simp [World.cell?,h]⟩,by simp [World.frozen?,h],by simp [World.frozen?,h],by simp [World.frozen?,h],by simp [World.frozen?,h]⟩
theorem put4 {W:World} {B:Nat} {x0 x1 x2 x3:Value} {E:TypeId} (h:W.heap[B]? = some (.cells #[x0,x1,x2,x3] E (0,0))) (y0 y1 y2 y3:Value) :
  ((((W.setCell ⟨B,0,none⟩ y0).setCell ⟨B,1,none⟩ y1).setCell ⟨B,2,none⟩ y2).setCell ⟨B,3,none⟩ y3).heap[B]? = some (.cells #[y0,y1,y2,y3] E (0,0))∧Only (fun k=>k=B) W ((((W.setCell ⟨B,0,none⟩ y0).setCell ⟨B,1,none⟩ y1).setCell ⟨B,2,none⟩ y2).setCell ⟨B,3,none⟩ y3):=by
 have g1:=heap_setCell_same W B 0 _ _ y0 h;have g2:=heap_setCell_same _ B 1 _ _ y1 g1;have g3:=heap_setCell_same _ B 2 _ _ y2 g2;have g4:=heap_setCell_same _ B 3 _ _ y3 g3;exact ⟨by simpa using g4,((((Only.refl (fun k=>k=B) W).setCell (p:=⟨B,0,none⟩) (fun _=>rfl) _).setCell (p:=⟨B,1,none⟩) (fun _=>rfl) _).setCell (p:=⟨B,2,none⟩) (fun _=>rfl) _).setCell (p:=⟨B,3,none⟩) (fun _=>rfl) _⟩
theorem Qcm {n:Nat} {ys:List Int} (h:ys.length<n):Qbn (n:Int) ys=([],0,2):=by unfold Qbn;rw [if_neg (by omega),if_pos (by omega)]
theorem Qb0 {n:Nat} {ys:List Int} (h:¬ys.length<n):Qbn (n:Int) ys=(ys.take n,n,0):=by unfold Qbn;rw [if_neg (by omega),if_neg (by omega),Int.toNat_natCast]
theorem QgR {ys:List Int} (h:ys.length<8):QbR 8 ys=(0,0,2):=by unfold QbR;rw [if_neg (by omega),if_pos (by omega)]
theorem Qeo {ys:List Int} (h:¬ys.length<8):QbR 8 ys=((num (ys.take 8):Int),8,0):=by unfold QbR;rw [if_neg (by omega),if_neg (by omega)];rfl
theorem Qr1 {x:List Int} (h:U8 x):((strOfNums x).toList == [67,83,75,49])=decide (x=MHD):=by
 rw [show ([67,83,75,49]:List UInt8)=(⟨#[67,83,75,49]⟩:ByteArray).toList by rw [ByteArray.toList_eq],eq_sb,sb_of h];rfl
def RMan (w:World) (R:Nat) (ys:List Int) (e:Ending) (w':World):Prop :=
 Only (fun k=>k=R) w w'∧((∃c,c≠0∧MDEC ys=.error c∧e=mpan c)∨∃m x vp ve vr,MDEC ys=.ok m∧e=.returned x∧Mf w' x m vp ve vr∧NoCap vp∧NoCap vr∧(∀k,vp.ownBlock=some k→w.heap.size≤k)∧(∀k,vr.ownBlock=some k→w.heap.size≤k)∧(∀k,ve.ownBlock=some k→w.heap.size≤k))
theorem Qmm {w:World} {R:Nat} {v:Value} {ys:List Int} (h:CurAt 95 w R v ys) (hR:R<w.heap.size) (hvb:∀j,v.ownBlock=some j→j<w.heap.size) :
  Calls prog 88 #[.pointer (some ⟨R,0,none⟩)] w (RMan w R ys):=by
 obtain ⟨K,hK⟩:∃K,K=RMan w R ys:=⟨_,rfl⟩;rw [←hK];have HK:=Qaa hK;have HV:=Qaa hvb
 have bad:Hid (∀c w',c≠0→MDEC ys=.error c→Only (fun j=>j=R) w w'→K (.panicked [{ v:=.iface 29 (.int .i64 c),recovered:=false }]) w'):=by
  intro c w' hc he ho;rw [HK.out];exact ⟨ho,.inl ⟨c,hc,he,rfl⟩⟩
 have oa:Only (fun j=>j=R) w (w.alloc (.cells #[.int .u64 0,.slice none 0 0,.slice none 0 0,.slice none 0 0] 42)):=(Only.refl _ _).alloc _;have c0:=h.keep (S:=fun _=>False) ((Only.refl _ w).alloc (.cells #[.int .u64 0,.slice none 0 0,.slice none 0 0,.slice none 0 0] 42)) (fun f=>f) (fun _ _ f=>f);have G0:=Qaa (heap_alloc_new w (.cells #[.int .u64 0,.slice none 0 0,.slice none 0 0,.slice none 0 0] 42));have A:=Qaa (Qec c0 ((4:Nat):Int));rw [show ((4:Nat):Int)=4 from rfl] at A;have hrng:=h.rng;have hylen:=h.len;have OA:=Qaa oa;clear h hvb hK oa c0;go_enter func88,ntmps88;go_wp2_with fail;refine A.out.mono ?_;rintro e w1 ⟨v1,rfl,b1,nc1,nb1,vc1,c1,ob1,o1⟩
 have hs1:w.heap.size+1≤w1.heap.size:=by have:=o1.size;simpa using this
 have O1:=Qaa (OA.out.trans o1 (fun i _ e=>e));have G1:=Qaa (o1.heap G0.out (fun e=>by omega));clear A o1 OA G0 nb1 nc1
 by_cases h4:ys.length<4
 ·rw [show (4:Int)=((4:Nat):Int) from rfl,Qcm h4]
  have FN:=Qaa (bad.out 2 w1 (by decide) (M1 (Qpb h4)) O1.out);clear b1 c1;go_wp2_with fail;refine (Qdc v1 2 w1 (by decide)).mono ?_;rintro e w' ⟨rfl,rfl⟩;unfold mpan;go_wp2;exact ⟨rfl,FN.out⟩
 have e4:=Qb0 (n:=4) h4;rw [show ((4:Nat):Int)=4 from rfl] at e4;rw [e4] at b1 c1;rw [e4];have hcv:=Qhk w1 v1 _ b1;have hme:=Qr1 (x:=ys.take 4) (fun y hy=>hrng y (List.mem_of_mem_take hy));generalize hx4:ys.take 4=x4 at *;have HX4:=Qaa hx4;have C1:=Qaa (And.intro c1 ob1);clear e4 b1 c1 ob1 hx4;go_wp2_with fail;refine (Qdb v1 w1).mono ?_;rintro e w' ⟨rfl,rfl⟩
 by_cases hm4:x4=MHD
 ·rw [Yaj hm4] at hme
  have H1:=Qaa (hd_ok h4 (HX4.out.trans hm4));clear HX4 hm4 h4;go_wp2_with fail;refine (Qau 3 w1).mono ?_;rintro e w' ⟨rfl,rfl⟩;have B:=Qaa (Qlv C1.out.1 8);obtain ⟨y1,hy1⟩:∃y1,y1=ys.drop 4:=⟨_,rfl⟩
  have HR1:∀y∈y1,0≤y∧y≤255:=fun y hy=>hrng y (by rw [hy1] at hy;exact List.mem_of_mem_drop hy)
  rw [←hy1] at B H1;clear hcv hme hy1 hrng;go_wp2_with fail;refine B.out.mono ?_;rintro e w2 ⟨rfl,vc2,c2,ob2,o2⟩;have hs2:=o2.size;have O2:=Qaa (O1.out.trans o2 (fun i _ e=>e));have G2:=Qaa (o2.heap G1.out (fun e=>by omega));have C2:=Qaa (And.intro c2 (ob2.trans C1.out.2));clear B o2 c2 ob2 C1 O1 G1
  by_cases h8:y1.length<8
  ·rw [QgR h8]
   have FN:=Qaa (bad.out 2 w2 (by decide) (M2 H1.out (Qmr h8)) O2.out);clear C2;go_wp2_with fail;refine (Qel _ 2 w2 (by decide)).mono ?_;rintro e w' ⟨rfl,rfl⟩;unfold mpan;go_wp2;exact ⟨rfl,FN.out⟩
  rw [Qeo h8] at C2;rw [Qeo h8];go_wp2_with fail;refine (Qcj _ w2).mono ?_;rintro e w' ⟨rfl,rfl⟩
  by_cases hv:num (y1.take 8)=18446744073709551615
  ·have d1:((num (y1.take 8):Int) != 18446744073709551615)=false:=by rw [hv];rfl
   have FN:=Qaa (bad.out 3 w2 (by decide) (M2 H1.out (Qt4 h8 hv)) O2.out);clear C2 hv;go_wp2_with fail;refine (Qay 3 w2).mono ?_;rintro e w' ⟨rfl,rfl⟩;unfold mpan;go_wp2;exact ⟨rfl,FN.out⟩
  have d1:((num (y1.take 8):Int) != 18446744073709551615)=true:=by simp;omega
  have H2:=Qaa (Qt5 h8 hv);generalize num (y1.take 8)=ver at *;obtain ⟨y2,hy2⟩:∃y2,y2=y1.drop 8:=⟨_,rfl⟩
  have HR2:∀y∈y2,0≤y∧y≤255:=fun y hy=>HR1 y (by rw [hy2] at hy;exact List.mem_of_mem_drop hy)
  have C2':Hid (CurAt 95 w2 R vc2 y2∧vc2.ownBlock=v.ownBlock):=by rw [hy2];exact C2.out
  rw [←hy2] at H2;clear C2 hy2 HR1 h8 hv;go_wp2_with fail;refine (Qau 3 w2).mono ?_;rintro e w' ⟨rfl,rfl⟩;have B:=Qaa (Qec C2'.out.1 ((32:Nat):Int));rw [show ((32:Nat):Int)=32 from rfl] at B;go_wp2_with fail;refine B.out.mono ?_;rintro e w3 ⟨vp,rfl,bp,ncp,nbp,vc3,c3,ob3,o3⟩;have hs3b:=o3.size;have O3:=Qaa (O2.out.trans o3 (fun i _ e=>e));have G3:=Qaa (o3.heap G2.out (fun e=>by omega));clear B o3 G2
  by_cases h32:y2.length<32
  ·have e32:=Qcm h32
   rw [show ((32:Nat):Int)=32 from rfl] at e32;rw [e32];have FN:=Qaa (bad.out 2 w3 (by decide) (M3 H1.out H2.out (Qde h32)) O3.out);clear bp c3;go_wp2_with fail;refine (Qdc vp 2 w3 (by decide)).mono ?_;rintro e w' ⟨rfl,rfl⟩;unfold mpan;go_wp2;exact ⟨rfl,FN.out⟩
  have e32:=Qb0 h32;rw [show ((32:Nat):Int)=32 from rfl] at e32;rw [e32] at bp c3;rw [e32];have H3:=Qaa (QcA h32);obtain ⟨y3,hy3⟩:∃y3,y3=y2.drop 32:=⟨_,rfl⟩
  have HR3:∀y∈y3,0≤y∧y≤255:=fun y hy=>HR2 y (by rw [hy3] at hy;exact List.mem_of_mem_drop hy)
  rw [←hy3] at H3
  have c3':CurAt 95 w3 R vc3 y3:=by rw [hy3];exact c3
  generalize y2.take 32=prv at *;have hs3:=O3.out.size;have ob3':=ob3.trans C2'.out.2;have hw2:=O2.out.size;have D:=Qaa (Qem c3' (by omega) (fun j hj=>by rw [ob3'] at hj;have:=HV.out j hj;omega));obtain ⟨apv,pcv,epv⟩:=bp.len;subst epv;have PV:=Qaa (And.intro bp (And.intro ncp nbp));have OB3:=Qaa ob3';clear e32 c3 c3' bp ncp nbp ob3 ob3' hy3 h32 C2' HR2 O2;go_wp2_with fail;refine (Qdb (.slice apv prv.length pcv) w3).mono ?_;rintro e w' ⟨rfl,rfl⟩;go_wp2_with fail;refine D.out.mono ?_;rintro e w4 ⟨o4,⟨c,hc0,hr,rfl⟩ | ⟨d,y4,hr,⟨vt,rfl,rowt,hdl,hda⟩,vc4,c4,ob4⟩⟩
  ·have FN:=Qaa (bad.out c w4 hc0 (M4 H1.out H2.out H3.out hr) (O3.out.trans o4 (fun i _ e=>e)))
   clear D o4 hr;unfold mpan;go_wp2;exact ⟨rfl,FN.out⟩
  have H4:=Qaa hr;have RS:=Qaa (Qr3 HR3 hr);have O4:=Qaa (O3.out.trans o4 (fun i _ e=>e));have G4:=Qaa (o4.heap G3.out (fun e=>by omega));have hs4:=o4.size;have st4:=Sts.of_own rowt;have PV4:Hid (Bs .u8 w4 (.slice apv prv.length pcv) prv):=PV.out.1.keep o4 (fun j hj e=>by have:=PV.out.2.2 j hj;omega);have E5:=Qaa (Qen (vt:=vt) c4 (by omega) (fun j hj=>by rw [ob4,OB3.out] at hj;have:=HV.out j hj;omega) st4 (fun j hj e=>by have:=(rowt.lt j hj).1;omega) hdl);have RT:=Qaa rowt;have HDA:=Qaa hda;have OB4:=Qaa (ob4.trans OB3.out);clear D o4 hr rowt c4 ob4 st4 hda G3 OB3;go_wp2_with fail;refine E5.out.mono ?_;rintro e w5 ⟨o5,⟨c,hc0,hr,rfl⟩ | ⟨a,y5,hr,⟨ve,rfl,rowe,hal,haa⟩,vc5,c5,ob5⟩⟩
  ·have FN:=Qaa (bad.out c w5 hc0 (M5 H1.out H2.out H3.out H4.out hr) (O4.out.trans o5 (fun i _ e=>e)))
   clear E5 o5 hr;unfold mpan;go_wp2;exact ⟨rfl,FN.out⟩
  have H5:=Qaa hr;have O5:=Qaa (O4.out.trans o5 (fun i _ e=>e));have G5:=Qaa (o5.heap G4.out (fun e=>by omega));have hs5:=o5.size;have PV5:Hid (Bs .u8 w5 (.slice apv prv.length pcv) prv):=PV4.out.keep o5 (fun j hj e=>by have:=PV.out.2.2 j hj;omega);have B:=Qaa (Qec c5 ((32:Nat):Int));rw [show ((32:Nat):Int)=32 from rfl] at B;have RE:=Qaa rowe;have HAA:=Qaa haa;have RT5:=Qaa (o5.own RT.out (fun j hj e=>by have:=(RT.out.lt j hj).1;omega));clear E5 o5 hr rowe ob5 haa G4 PV4 RT;go_wp2_with fail;refine B.out.mono ?_;rintro e w6 ⟨vr,rfl,br,ncr,nbr,vc6,c6,ob6,o6⟩;have O6:=Qaa (O5.out.trans o6 (fun i _ e=>e));have G6:=Qaa (o6.heap G5.out (fun e=>by omega));have hs6:=o6.size;have PV6:Hid (Bs .u8 w6 (.slice apv prv.length pcv) prv):=PV5.out.keep o6 (fun j hj e=>by have:=PV.out.2.2 j hj;omega);have RE6:=Qaa (o6.own RE.out (fun j hj e=>by have:=(RE.out.lt j hj).1;omega));have RT6:=Qaa (o6.own RT5.out (fun j hj e=>by have:=(RT5.out.lt j hj).1;omega));clear B o6 ob6 c5 G5 PV5 RE RT5
  by_cases h32:y5.length<32
  ·have e32:=Qcm h32
   rw [show ((32:Nat):Int)=32 from rfl] at e32;rw [e32];have FN:=Qaa (bad.out 2 w6 (by decide) (M6 H1.out H2.out H3.out H4.out H5.out (Qde h32)) O6.out);clear br c6;go_wp2_with fail;refine (Qdc vr 2 w6 (by decide)).mono ?_;rintro e w' ⟨rfl,rfl⟩;unfold mpan;go_wp2;exact ⟨rfl,FN.out⟩
  have e32:=Qb0 h32;rw [show ((32:Nat):Int)=32 from rfl] at e32;rw [e32] at br c6;rw [e32];have H6:=Qaa (Mall H1.out H2.out H3.out H4.out H5.out (QcA h32));generalize y5.take 32=rt at *;obtain ⟨y6,hy6⟩:∃y6,y6=y5.drop 32:=⟨_,rfl⟩;rw [←hy6] at H6
  have c6':CurAt 95 w6 R vc6 y6:=by rw [hy6];exact c6
  have LL:=Qaa (Qom c6');obtain ⟨arv,rcv,erv⟩:=br.len;subst erv;have RV:=Qaa (And.intro br (And.intro ncr nbr));clear e32 c6 c6' br ncr nbr hy6 h32 H1 H2 H3 H5;go_wp2_with fail;refine (Qdb (.slice arv rt.length rcv) w6).mono ?_;rintro e w' ⟨rfl,rfl⟩;go_wp2_with fail;refine LL.out.mono ?_;rintro e w' ⟨rfl,rfl⟩;clear LL
  by_cases h6:y6=[]
  ·have d6:((y6.length:Int) == 0)=true:=by rw [h6];rfl
   obtain ⟨ev,cv,ee⟩:=(Ens.of_own (s:=a.2.map (EOF d.2)) (by rw [List.length_map];exact RE6.out)).len;rw [List.length_map] at ee;subst ee
   have TO:=Qaa (Qdi (.slice ev a.2.length cv) (a.2.map (EOF d.2)) w6 (Ens.of_own (by rw [List.length_map];exact RE6.out)) (fun e he=>by
    obtain ⟨t,ht,rfl⟩:=List.mem_map.1 he
    exact (HDA.out _ (QaU (HAA.out t ht))).1) (by rw [List.length_map];exact hal) (fun e he=>by
    obtain ⟨t,ht,rfl⟩:=List.mem_map.1 he;have:=(HDA.out _ (QaU (d:=[]) (HAA.out t ht))).2
    unfold maxLen EOF;simp only;omega))
   go_wp2_with fail;refine (Qau 3 w6).mono ?_;rintro e w' ⟨rfl,rfl⟩;go_wp2_with fail;refine TO.out.mono ?_;rintro e w7 ⟨rfl,⟨Dm,hmap,hT⟩,o7⟩;obtain ⟨sk1,sk2,sk3⟩:=QeD underlying9 hmap
   have hTk:((a.2.map (EOF d.2)).map Prod.fst).take (a.2.map (EOF d.2)).length=(a.2.map (EOF d.2)).map Prod.fst:=by
    have:((a.2.map (EOF d.2)).map Prod.fst).take ((a.2.map (EOF d.2)).map Prod.fst).length=_:=List.take_length
    rwa [List.length_map] at this
   rw [hTk] at hT
   have SZ:=Qju (fun x hx=>by
    obtain ⟨e,he,rfl⟩:=List.mem_map.1 hx;obtain ⟨t,ht,rfl⟩:=List.mem_map.1 he
    exact (HDA.out _ (QaU (HAA.out t ht))).1) hT sk1 sk2 sk3
   have UI:=Qpc RS.out HAA.out;rw [←SZ] at UI
   have hlen:=fun ty=>hmap.len underlying112 ty
   obtain ⟨at1,ct1,et1⟩:=(Sts.of_own RT6.out).len;generalize Maps.size Dm=sz at *;have O7:=Qaa (O6.out.trans o7 (fun i _ f=>f.elim));have G7:=o7.heap G6.out (fun f=>f);clear TO sk1 sk2 sk3 hT hTk SZ hmap
   by_cases hu:sz=d.2.length
   ·have hU:=UI.1 hu
    have d7:((sz:Int) == (d.2.length:Int))=true:=by rw [hu];simp
    obtain ⟨⟨k0,k1,k2,k3⟩,f0,f1,f2,f3⟩:=QaQ G7;subst et1
    have FIN:Hid (∀x,x=Value.agg #[.int .u64 (ver:Nat),(.slice apv prv.length pcv),.slice ev a.2.length cv,(.slice arv rt.length rcv)]→∀w',w'=((((w7.setCell ⟨w.heap.size,0,none⟩ (.int .u64 ver)).setCell ⟨w.heap.size,1,none⟩ (.slice apv prv.length pcv)).setCell ⟨w.heap.size,2,none⟩ (.slice ev a.2.length cv)).setCell ⟨w.heap.size,3,none⟩ (.slice arv rt.length rcv))→(loadVar 42 ⟨w.heap.size,0,none⟩).run prog w'=.ok x w'∧RMan w R ys (.returned x) w'):=by
     intro x hx w' hw';obtain ⟨g,og⟩:=put4 G7 (.int .u64 ver) (.slice apv prv.length pcv) (.slice ev a.2.length cv) (.slice arv rt.length rcv);rw [←hw'] at g og;subst hx;have o7g:Only (fun k=>k=w.heap.size) w6 w':=(o7.mono (fun _ _ f=>f.elim)).trans og (fun i _ e=>e);refine ⟨QaA g,O7.out.trans og (fun i hi e=>by omega),.inr ⟨_,_,(.slice apv prv.length pcv),.slice ev a.2.length cv,(.slice arv rt.length rcv),M9 H6.out h6 hU,rfl,⟨rfl,PV6.out.keep o7g (fun j hj e=>by have:=PV.out.2.2 j hj;omega),?_,RV.out.1.keep o7g (fun j hj e=>by have:=RV.out.2.2 j hj;omega)⟩,PV.out.2.1,RV.out.2.1,fun k hk=>by have:=PV.out.2.2 k hk;omega,fun k hk=>by have:=RV.out.2.2 k hk;omega,fun k hk=>by have:=(RE6.out.lt k hk).1;omega⟩⟩;exact (Ens.of_own (s:=a.2.map (EOF d.2)) (by rw [List.length_map];exact RE6.out)).keep o7g (fun j hj e=>by have:=(RE6.out.lt j hj).1;omega)
    have hKK:=HK.out;clear HK bad UI hu hU O7 RE6 RT6 PV6 RV PV G7;subst hKK
    go_wp2_with (first
     | (go_at_call 122;refine (Qau 3 w7).mono ?_;rintro e w' ⟨rfl,rfl⟩)
     | fail)
    obtain ⟨fl,fr⟩:=FIN.out _ rfl _ rfl;exact bodyPost_ret (QcJ Tryz.results88 _ _ rfl fl) rfl fr
   ·have d7:((sz:Int) == (d.2.length:Int))=false:=by rw [beq_eq_false_iff_ne];omega
    have FN:=Qaa (bad.out 3 w7 (by decide) (M8 H6.out h6 (fun q=>hu (UI.2 q))) O7.out);subst et1;clear bad UI hu O7;go_wp2_with fail;refine (Qay 3 w7).mono ?_;rintro e w' ⟨rfl,rfl⟩;unfold mpan;go_wp2;exact ⟨rfl,FN.out⟩
  ·have d6:((y6.length:Int) == 0)=false:=by
    rw [beq_eq_false_iff_ne];intro e;exact h6 (List.eq_nil_of_length_eq_zero (by omega))
   have FN:=Qaa (bad.out 3 w6 (by decide) (M7 H6.out h6) O6.out);clear bad;go_wp2_with fail;refine (Qay 3 w6).mono ?_;rintro e w' ⟨rfl,rfl⟩;unfold mpan;go_wp2;exact ⟨rfl,FN.out⟩
 ·rw [Yak hm4] at hme
  have FN:=Qaa (bad.out 3 w1 (by decide) (M1 (hd_no h4 (fun e=>hm4 (HX4.out.symm.trans e)))) O1.out);clear bad HX4 hm4;go_wp2_with fail;refine (Qay 3 w1).mono ?_;rintro e w' ⟨rfl,rfl⟩;unfold mpan;go_wp2;exact ⟨rfl,FN.out⟩
end
end Go.Proofs.YtnhapmboienipaaGreatDoor
