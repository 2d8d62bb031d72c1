import Derived.Test.YtnhapmboienipaaGreatDoorY18
import Derived.Deep.Cut
import Derived.Deep.RegionHeld3
namespace Go.Proofs.YtnhapmboienipaaGreatDoor
set_option maxHeartbeats 4000000
set_option maxRecDepth 100000
open Go.RowKit _root_.Go.Proofs.Tryz
section
open Go.Maps
theorem Qai {o:Oper} {a:Act} {W:World} {K:Act→World→Prop} {Q:Exit→Act→World→Prop} (n:Nat) (xs:Array Operand) (ts:Array TypeId)
  (ho:o.op=.call { callee:=.value (.func n),args:=xs,argTypes:=ts }) (hf:∀vs W,(callFunc n vs).run prog W=.ok (.enter n vs) W) (vs:Array Value) (hx:xs.map a.eval=vs) {R:Value→World→Prop}
  (hc:Calls prog n vs W fun e w'=>∃r,e=.returned r∧R r w') (h:∀r w',R r w'→K (a.put o.dst r) w'):Oper.wp prog o a W K Q:=by
 subst hx;unfold Oper.wp;have e:a.eval (Operand.func n)=.func (.func n) #[] #[]:=rfl;have hf2:=hf (xs.map a.eval) W;simp [execOp,ho,resolve,invoke,e,Oper.upon,Deferred.ofValue,hf2];refine Calls.mono hc ?_;rintro e w' ⟨r,rfl,hR⟩;exact h r w' hR
theorem Qbg (vs:Array Value) (W:World):(callFunc 25 vs).run prog W=.ok (.enter 25 vs) W:=by kernel_rfl
theorem QfS (vs:Array Value) (W:World):(callFunc 76 vs).run prog W=.ok (.enter 76 vs) W:=by kernel_rfl
theorem QcD (vs:Array Value) (W:World):(callFunc 77 vs).run prog W=.ok (.enter 77 vs) W:=by kernel_rfl
theorem Qbh (vs:Array Value) (W:World):(callFunc 78 vs).run prog W=.ok (.enter 78 vs) W:=by kernel_rfl
theorem Qjr {o:Oper} {a:Act} {W:World} {K:Act→World→Prop} {Q:Exit→Act→World→Prop} (ho:o.op=.buildSlice 22 4 #[(0,Operand.const (Value.int IntKind.u8 67)),(1,Operand.const (Value.int IntKind.u8 83)),(2,Operand.const (Value.int IntKind.u8 75)),(3,Operand.const (Value.int IntKind.u8 49))])
  (h:K (a.put o.dst (.slice (some ⟨W.heap.size,0,none⟩) 4 4)) (W.alloc (.cells #[.int .u8 67,.int .u8 83,.int .u8 75,.int .u8 49] 5))):Oper.wp prog o a W K Q:=by
 obtain ⟨dst,op,ty,pos,af,gd⟩:=o;simp only at ho;subst ho
 go_simp
 exact h
theorem QcQ {o:Oper} {a:Act} {W:World} {K:Act→World→Prop} {Q:Exit→Act→World→Prop} {p0 p1 p2 p3 p4 p5:Option Addr} {n0 n1 n2 n3 n4 n5 c0 c1 c2 c3 c4 c5:Nat} (ho:o.op=.buildSlice 43 6 #[(0,Operand.tmp 40),(1,Operand.tmp 43),(2,Operand.tmp 45),(3,Operand.tmp 47),(4,Operand.tmp 51),(5,Operand.tmp 53)])
  (h0:a.eval (.tmp 40)=(.slice p0 n0 c0)) (h1:a.eval (.tmp 43)=(.slice p1 n1 c1)) (h2:a.eval (.tmp 45)=(.slice p2 n2 c2)) (h3:a.eval (.tmp 47)=(.slice p3 n3 c3)) (h4:a.eval (.tmp 51)=(.slice p4 n4 c4)) (h5:a.eval (.tmp 53)=(.slice p5 n5 c5))
  (h:K (a.put o.dst (.slice (some ⟨W.heap.size,0,none⟩) 6 6)) (W.alloc (.cells #[(.slice p0 n0 c0),(.slice p1 n1 c1),(.slice p2 n2 c2),(.slice p3 n3 c3),(.slice p4 n4 c4),(.slice p5 n5 c5)] 22))):Oper.wp prog o a W K Q:=by
 obtain ⟨dst,op,ty,pos,af,gd⟩:=o;simp only at ho;subst ho;simp only [Act.eval] at h0 h1 h2 h3 h4 h5
 have e0:a.tmps[40]?.getD undef=(.slice p0 n0 c0):=by simpa using h0
 have e1:a.tmps[43]?.getD undef=(.slice p1 n1 c1):=by simpa using h1
 have e2:a.tmps[45]?.getD undef=(.slice p2 n2 c2):=by simpa using h2
 have e3:a.tmps[47]?.getD undef=(.slice p3 n3 c3):=by simpa using h3
 have e4:a.tmps[51]?.getD undef=(.slice p4 n4 c4):=by simpa using h4
 have e5:a.tmps[53]?.getD undef=(.slice p5 n5 c5):=by simpa using h5
 unfold Oper.wp;simp [execOp,e0,e1,e2,e3,e4,e5,go_sem];exact h
theorem QbM {w:World} {o:Oper} {a:Act} {K:Act→World→Prop} {Q:Exit→Act→World→Prop} (x:Operand) (ho:o.op=.convert 22 22 x) (w3:World) {b:Nat}
  (hx:a.eval x=.slice (some ⟨b,0,none⟩) 4 4) (hb:w.heap[b]? = some (.cells #[.int .u8 67,.int .u8 83,.int .u8 75,.int .u8 49] 5 (0,0))) (h3:w3.heap.size≤b) (o3:Only (fun _=>False) w3 w)
  (h:∀w',Only (fun _=>False) w3 w'→Bs .u8 w' (.slice (some ⟨b,0,none⟩) 4 4) MHD→(∀v xs,Bs .u8 w v xs→Bs .u8 w' v xs)→K (a.put o.dst (.slice (some ⟨b,0,none⟩) 4 4)) w'):Oper.wp prog o a w K Q:=by
 unfold Oper.wp;simp [execOp,ho,hx];exact QmI w3 hb h3 o3 h
abbrev o0mi : Oper:={ dst:=some 40,op:=Op.convert 22 22 (Operand.tmp 39),type:=22,pos:="manifest.go:35",after:=#[{ on:=0,ground:=Ground.data }],guard:=none }
abbrev o1mi : Oper:={ dst:=some 51,op:=Op.call { callee:=Callee.value (Operand.func 78),args:=#[Operand.tmp 49,Operand.tmp 50],argTypes:=#[40,112] },type:=22,pos:="manifest.go:40",after:=#[{ on:=10,ground:=Ground.data },{ on:=11,ground:=Ground.data },{ on:=8,ground:=Ground.chain }],guard:=none }
abbrev o2mi : Oper:={ dst:=some 54,op:=Op.buildSlice 43 6 #[(0,Operand.tmp 40),(1,Operand.tmp 43),(2,Operand.tmp 45),(3,Operand.tmp 47),(4,Operand.tmp 51),(5,Operand.tmp 53)],type:=43,pos:="manifest.go:35",after:=#[{ on:=1,ground:=Ground.data },{ on:=4,ground:=Ground.data },{ on:=6,ground:=Ground.data },{ on:=8,ground:=Ground.data },{ on:=12,ground:=Ground.data },{ on:=14,ground:=Ground.data }],guard:=none }
abbrev o3mi : Oper:={ dst:=some 55,op:=Op.call { callee:=Callee.value (Operand.func 25),args:=#[Operand.tmp 54],argTypes:=#[43] },type:=22,pos:="manifest.go:35",after:=#[{ on:=15,ground:=Ground.data },{ on:=12,ground:=Ground.chain }],guard:=none }
abbrev o4mi : Oper:={ dst:=some 2,op:=Op.assign (Operand.tmp 55),type:=22,pos:="manifest.go:35",after:=#[{ on:=16,ground:=Ground.data },{ on:=16,ground:=Ground.chain },{ on:=0,ground:=Ground.phase },{ on:=1,ground:=Ground.phase },{ on:=2,ground:=Ground.phase },{ on:=3,ground:=Ground.phase },{ on:=4,ground:=Ground.phase },{ on:=5,ground:=Ground.phase },{ on:=6,ground:=Ground.phase },{ on:=7,ground:=Ground.phase },{ on:=8,ground:=Ground.phase },{ on:=9,ground:=Ground.phase },{ on:=10,ground:=Ground.phase },{ on:=11,ground:=Ground.phase },{ on:=12,ground:=Ground.phase },{ on:=13,ground:=Ground.phase },{ on:=14,ground:=Ground.phase },{ on:=15,ground:=Ground.phase },{ on:=16,ground:=Ground.phase }],guard:=none }
abbrev o5mi : Oper:={ dst:=some 3,op:=Op.assign (Operand.const (Value.int IntKind.i64 0)),type:=29,pos:="manifest.go:35",after:=#[{ on:=17,ground:=Ground.chain },{ on:=0,ground:=Ground.phase },{ on:=1,ground:=Ground.phase },{ on:=2,ground:=Ground.phase },{ on:=3,ground:=Ground.phase },{ on:=4,ground:=Ground.phase },{ on:=5,ground:=Ground.phase },{ on:=6,ground:=Ground.phase },{ on:=7,ground:=Ground.phase },{ on:=8,ground:=Ground.phase },{ on:=9,ground:=Ground.phase },{ on:=10,ground:=Ground.phase },{ on:=11,ground:=Ground.phase },{ on:=12,ground:=Ground.phase },{ on:=13,ground:=Ground.phase },{ on:=14,ground:=Ground.phase },{ on:=15,ground:=Ground.phase },{ on:=16,ground:=Ground.phase },{ on:=17,ground:=Ground.phase }],guard:=none }
abbrev o6mi : Oper:={ dst:=some 47,op:=Op.call { callee:=Callee.value (Operand.func 77),args:=#[Operand.tmp 46],argTypes:=#[111] },type:=22,pos:="manifest.go:39",after:=#[{ on:=7,ground:=Ground.data },{ on:=4,ground:=Ground.chain }],guard:=none }
abbrev o7mi : Oper:={ dst:=some 39,op:=Op.buildSlice 22 4 #[(0,Operand.const (Value.int IntKind.u8 67)),(1,Operand.const (Value.int IntKind.u8 83)),(2,Operand.const (Value.int IntKind.u8 75)),(3,Operand.const (Value.int IntKind.u8 49))],type:=22,pos:="manifest.go:35",after:=#[],guard:=none }
abbrev o8mi : Oper:={ dst:=some 43,op:=Op.call { callee:=Callee.value (Operand.func 76),args:=#[Operand.tmp 42,Operand.const (Value.int IntKind.i64 8)],argTypes:=#[23,3] },type:=22,pos:="manifest.go:37",after:=#[{ on:=3,ground:=Ground.data }],guard:=none }
theorem QmG (x vp ve vr:Value) (m:MAN) (w:World) (h:Mf w x m vp ve vr) (hk:Mok m) (np:NoCap vp) (nr:NoCap vr) (hm63:m.es.length≤9223372036854775806) (e1:MEr m=0) :
  Calls prog 46 #[x] w fun e w'=>∃u,e=.returned (.tuple #[u,.int .i64 0])∧w'.ownsRow w.heap.size 5 1 u (MENC m).length ((MENC m).map (Value.int .u8))∧Only (fun _=>False) w w':=by
 obtain ⟨rfl,hp,he,hr⟩:=h;obtain ⟨ap,pc,e1'⟩:=hp.len;obtain ⟨ar,rc,e2'⟩:=hr.len;subst e1' e2';have hG:=(QmH hk).1 e1;obtain ⟨g1,g2,g3,g4,g5⟩:=hG
 have d1:((m.ver:Int) == 18446744073709551615)=false:=by rw [beq_eq_false_iff_ne];omega
 have l1:m.prev.length=32:=g2.1;have l2:m.root.length=32:=g3.1;rw [l1] at hp np;rw [l2] at hr nr;rw [l1,l2];have e32:((32:Nat):Int)=32:=rfl;obtain ⟨ao,cap,e3⟩:=he.len;subst e3;have oa:Only (fun _=>False) w (w.alloc (.cells #[.int .u64 m.ver,.slice ap 32 pc,.slice ao m.es.length cap,.slice ar 32 rc] 42)):=(Only.refl _ _).alloc _;have A:=Qaa (QbI _ _ _ (he.past oa) hm63);have OA:=Qaa oa;have HE:=Qaa he;have HP:=Qaa hp;have HR:=Qaa hr;have K0:=Qaa (heap_alloc_new w (.cells #[.int .u64 m.ver,.slice ap 32 pc,.slice ao m.es.length cap,.slice ar 32 rc] 42))
 have hf2:m.es.any (fun e=>!okB e.2)=false:=by
  rw [List.any_eq_false];intro e he' q;rw [okB,Yaj (g5 e he').2] at q
  cases q
 rw [hf2] at A;have B:=Qaa (fun W o=>QbJ _ _ W (he.past (oa.same o)) hm63 hk.es)
 have d3:decide ((1048576:Int)<(m.es.length:Int))=false:=by simp;omega
 have d4:decide ((1048576:Nat)<m.es.length)=false:=by simp;omega
 have hf4:m.es.any (fun e=>decide (64<e.1.length))=false:=by
  rw [List.any_eq_false];intro e he' q;have:=(g5 e he').1.1;have:=of_decide_eq_true q;omega
 rw [hf4] at B
 have hx64:∀e∈m.es,e.1.length≤maxLen:=fun e he=>by have:=(g5 e he).1.1;unfold maxLen;omega
 have INO:=Qaa (fun W o=>Qie _ _ W (he.past (oa.same o)) hk.es g4 hx64)
 have HT64:Hid (∀x∈MTN m,U8 x∧x.length≤64):=fun x hx=>by
  obtain ⟨e,he',rfl⟩:=List.mem_map.1 ((QbB _ _).1 hx);exact ⟨(g5 e he').1.2,(g5 e he').1.1⟩
 have HTM:Hid (∀e∈m.es,e.1∈MTN m):=fun e he'=>QeB he'
 have HX8:Hid (∀e∈m.es,e.1.length≤maxLen∧0≤e.2∧e.2≤8):=fun e he'=>⟨hx64 e he',(g5 e he').2⟩
 have hTl:(MTN m).length≤1048576:=Nat.le_trans (QeC m) g4
 have HME:Hid (MENC m=MHD++(fixL (m.ver:Int) 8++(m.prev++(TBS (MTN m) (MTN m).length++(EBS (MTN m) m.es m.es.length++m.root))))):=by
  simp only [Hid];rw [Qif,Qih];rfl
 have HLL:Hid ((MHD++(fixL (m.ver:Int) 8++(m.prev++(TBS (MTN m) (MTN m).length++(EBS (MTN m) m.es m.es.length++m.root))))).length≤140737488355328):=by
  have q1:=Qjp (MTN m) _ (Nat.le_refl _) hTl (fun x hx=>(HT64.out x hx).2);have q2:=Qjq (MTN m) m.es _ (Nat.le_refl _) g4 HTM.out hTl;simp only [Hid,Yae,Qag,l1,l2,MHD,Yah,List.length_nil];omega
 change Hid (∀(W:World),Only (fun x=>False) _ W→Calls prog 75 #[Value.slice ao m.es.length cap] W fun e w'=>∃vt,e=Ending.returned (Value.tuple #[vt,Value.map (some W.heap.size)])∧TOrd W w' (MTN m) vt (W.heap.size+1) m.es.length (MTN m).length) at INO
 rw [HME.out];have HF:=Qaa (fun W=>Qbx (m.ver:Int) 8 W (by decide));rw [show ((8:Nat):Int)=8 from rfl] at HF;obtain ⟨T,hT⟩:∃T,T=MTN m:=⟨_,rfl⟩;rw [←hT] at INO HT64 HTM hTl HLL;rw [←hT];obtain ⟨pv,hpv⟩:∃pv,pv=m.prev:=⟨_,rfl⟩;rw [←hpv] at HP HLL;rw [←hpv];obtain ⟨rt,hrt⟩:∃rt,rt=m.root:=⟨_,rfl⟩;rw [←hrt] at HR HLL;rw [←hrt];obtain ⟨vn,hvn⟩:∃vn,vn=m.ver:=⟨_,rfl⟩;rw [←hvn] at HLL HF K0 OA A B INO d1;rw [←hvn];obtain ⟨E,hE⟩:∃E,E=m.es:=⟨_,rfl⟩;rw [←hE] at HE HTM HX8 HLL K0 OA A B INO d3 d4 g4;rw [←hE];clear e1 oa he hp hr l1 l2 hf2 hf4 g1 g2 g3 g5 hx64 hk HME hT hpv hrt hvn hE hm63;obtain ⟨n,hn⟩:∃n,n=E.length:=⟨_,rfl⟩;have HN:=Qaa hn;rw [←hn] at HE K0 OA A B INO d3 d4 g4 HLL;rw [←hn];clear hn;go_enter func46,ntmps46;go_wp2_with fail;refine A.out.mono ?_;rintro e w1 ⟨rfl,o1⟩;have K1:=o1.heap K0.out (fun f=>f);obtain ⟨c0,c1,c2,c3⟩:=heap4 K1;have C:=Qaa (B.out w1 o1);have O:=Qaa o1;have HK1:=Qaa K1;clear A o1 B K0 K1;go_wp2_with fail;refine C.out.mono ?_;rintro e w2 ⟨rfl,o2⟩;have K2:=o2.heap HK1.out (fun f=>f);have O2:=O.out.same o2;have D:=Qaa (INO.out w2 O2);clear C o2 INO c0 c1 c2 c3 HK1 O;obtain ⟨c0,c1,c2,c3⟩:=heap4 K2;have HK2:=Qaa K2;have HO2:=Qaa O2;clear K2 O2
 go_upto_region 7 with fail
 go_cut [1,2,3,4,5] from 6 (fun p r0 r1 t mp W=>p=.pointer (some ⟨w.heap.size,0,none⟩)∧r0=.slice none 0 0∧r1=.int .i64 0∧mp=.map (some w2.heap.size)∧TOrd w2 W T t (w2.heap.size+1) n T.length)
 case first =>
  go_wp2_with fail;refine D.out.mono ?_;rintro e w3 ⟨vt,rfl,hord⟩;have HO:=Qaa hord;clear hord D;go_wp2_with fail
  go_meet
  exact ⟨rfl,rfl,rfl,rfl,HO.out⟩
 case rest =>
  obtain ⟨rfl,rfl,rfl,rfl,hord⟩:=hcut;obtain ⟨w3,hw3⟩:∃w3,w3=wc:=⟨_,rfl⟩;subst hw3;have o3:=hord.on;have ST:=Qaa (Sts.of_own hord.row);have ATT:=Qaa hord.at;have K3:=o3.heap HK2.out (fun f=>f);have O3:=Qaa (OA.out.same (HO2.out.same o3));clear D c0 c1 c2 c3 hord HK2 o3;obtain ⟨c0,c1,c2,c3⟩:=heap4 K3;clear K3;obtain ⟨at1,ct1,et1⟩:=ST.out.len;subst et1;obtain ⟨tn,htn⟩:∃tn,tn=T.length:=⟨_,rfl⟩;rw [←htn] at ST hTl;have TB:=Qaa (fun W o=>Qez _ T W (ST.out.past o) HT64.out (by rw [←htn];exact hTl))
  have EB:Hid (∀W,Only (fun _=>False) w3 W→Calls prog 78 #[.slice ao n cap,.map (some w2.heap.size)] W fun e w'=>∃u,e=.returned u∧w'.ownsRow W.heap.size 5 1 u (EBS T E n).length ((EBS T E n).map (Value.int .u8))∧Only (fun _=>False) W w'):=by
   intro W o;obtain ⟨D',hm',ha'⟩:=ATT.out;have:=QeZ _ E T _ _ D' W (HE.out.past (O3.out.same o)) (Qey hm' o (fun f=>f)) ha' HTM.out HX8.out (by rw [←HN.out];exact g4) (by rw [←htn];exact hTl);rw [←HN.out] at this;exact this
  have HP3:=Qaa (HP.out.past O3.out);have HR3:=Qaa (HR.out.past O3.out);rw [←htn];rw [←htn] at TB HLL;have HTN:=Qaa htn;clear htn HT64 HTM HX8 ATT HE HP HR ST OA HO2;go_wp2_with fail;have hS3:Only (fun _=>False) w3 w3∧w3.cell? ⟨w.heap.size,0,none⟩=some (.int .u64 vn)∧w3.cell? ⟨w.heap.size,1,none⟩=some (.slice ap 32 pc)∧w3.cell? ⟨w.heap.size,2,none⟩=some (.slice ao n cap)∧w3.cell? ⟨w.heap.size,3,none⟩=some (.slice ar 32 rc):=⟨Only.refl _ _,c0,c1,c2,c3⟩;clear c0 c1 c2 c3 d1 d3 d4 e32;clear g4 hTl;refine wp_region_held_drew (S:=fun W=>Only (fun _=>False) w3 W∧W.cell? ⟨w.heap.size,0,none⟩=some (.int .u64 vn)∧W.cell? ⟨w.heap.size,1,none⟩=some (.slice ap 32 pc)∧W.cell? ⟨w.heap.size,2,none⟩=some (.slice ao n cap)∧W.cell? ⟨w.heap.size,3,none⟩=some (.slice ar 32 rc)) (by kernel_rfl) (keep4 hS3 (Only.refl _ _).drew) (fun hH0=>?_)
  try simp only [Act.put,Yaa,Yab,Yac]
  have c00 : Only (fun _ => False) w3 w3.drew:=(Only.refl _ _).drew;refine wpAnyH_take (i:=2) (oi:={ dst:=some 41,op:=Op.fieldAddr 42 (Operand.tmp 1) 0,type:=0,pos:="manifest.go:35",after:=#[],guard:=none }) (v:=?tvq1) rfl (by kernel_rfl) (by kernel_rfl) (by kernel_rfl) (fun _ _ _ h => h) (Or.inl ⟨by rfl,?thq1⟩) hH0 ?trq1
  case thq1=>(intro w hSw;(try dsimp only at hSw);go_simp;try with_reducible rfl)
  try simp only [Act.put,Yaa,Yab,Yac]
  refine wpAnyH_take (i:=3) (oi:={ dst:=some 42,op:=Op.load 23 (Operand.tmp 41),type:=23,pos:="manifest.go:35",after:=#[{ on:=2,ground:=Ground.data }],guard:=none }) (v:=?tvq2) rfl (by kernel_rfl) (by kernel_rfl) (by kernel_rfl) (fun _ _ _ h => h) (Or.inl ⟨by rfl,?thq2⟩) hH0 ?trq2
  case thq2=>(intro w hSw;(try dsimp only at hSw);go_simp;try with_reducible rfl)
  try simp only [Act.put,Yaa,Yab,Yac]
  refine wpAnyH_take (i:=5) (oi:={ dst:=some 44,op:=Op.fieldAddr 42 (Operand.tmp 1) 1,type:=0,pos:="manifest.go:35",after:=#[],guard:=none }) (v:=?tvq3) rfl (by kernel_rfl) (by kernel_rfl) (by kernel_rfl) (fun _ _ _ h => h) (Or.inl ⟨by rfl,?thq3⟩) hH0 ?trq3
  case thq3=>(intro w hSw;(try dsimp only at hSw);go_simp;try with_reducible rfl)
  try simp only [Act.put,Yaa,Yab,Yac]
  refine wpAnyH_take (i:=6) (oi:={ dst:=some 45,op:=Op.load 22 (Operand.tmp 44),type:=22,pos:="manifest.go:35",after:=#[{ on:=5,ground:=Ground.data }],guard:=none }) (v:=?tvq4) rfl (by kernel_rfl) (by kernel_rfl) (by kernel_rfl) (fun _ _ _ h => h) (Or.inl ⟨by rfl,?thq4⟩) hH0 ?trq4
  case thq4=>(intro w hSw;(try dsimp only at hSw);go_simp;try with_reducible rfl)
  try simp only [Act.put,Yaa,Yab,Yac]
  refine wpAnyH_take (i:=7) (oi:={ dst:=some 46,op:=Op.move (Operand.tmp 4),type:=111,pos:="manifest.go:35",after:=#[],guard:=none }) (v:=?tvq5) rfl (by kernel_rfl) (by kernel_rfl) (by kernel_rfl) (fun _ _ _ h => h) (Or.inl ⟨by rfl,?thq5⟩) hH0 ?trq5
  case thq5=>(intro w hSw;(try dsimp only at hSw);go_simp;try with_reducible rfl)
  try simp only [Act.put,Yaa,Yab,Yac]
  refine wpAnyH_take (i:=9) (oi:={ dst:=some 48,op:=Op.fieldAddr 42 (Operand.tmp 1) 2,type:=0,pos:="manifest.go:35",after:=#[],guard:=none }) (v:=?tvq6) rfl (by kernel_rfl) (by kernel_rfl) (by kernel_rfl) (fun _ _ _ h => h) (Or.inl ⟨by rfl,?thq6⟩) hH0 ?trq6
  case thq6=>(intro w hSw;(try dsimp only at hSw);go_simp;try with_reducible rfl)
  try simp only [Act.put,Yaa,Yab,Yac]
  refine wpAnyH_take (i:=10) (oi:={ dst:=some 49,op:=Op.load 40 (Operand.tmp 48),type:=40,pos:="manifest.go:35",after:=#[{ on:=9,ground:=Ground.data }],guard:=none }) (v:=?tvq7) rfl (by kernel_rfl) (by kernel_rfl) (by kernel_rfl) (fun _ _ _ h => h) (Or.inl ⟨by rfl,?thq7⟩) hH0 ?trq7
  case thq7=>(intro w hSw;(try dsimp only at hSw);go_simp;try with_reducible rfl)
  try simp only [Act.put,Yaa,Yab,Yac]
  refine wpAnyH_take (i:=11) (oi:={ dst:=some 50,op:=Op.move (Operand.tmp 5),type:=112,pos:="manifest.go:35",after:=#[],guard:=none }) (v:=?tvq8) rfl (by kernel_rfl) (by kernel_rfl) (by kernel_rfl) (fun _ _ _ h => h) (Or.inl ⟨by rfl,?thq8⟩) hH0 ?trq8
  case thq8=>(intro w hSw;(try dsimp only at hSw);go_simp;try with_reducible rfl)
  try simp only [Act.put,Yaa,Yab,Yac]
  refine wpAnyH_take (i:=13) (oi:={ dst:=some 52,op:=Op.fieldAddr 42 (Operand.tmp 1) 3,type:=0,pos:="manifest.go:35",after:=#[],guard:=none }) (v:=?tvq9) rfl (by kernel_rfl) (by kernel_rfl) (by kernel_rfl) (fun _ _ _ h => h) (Or.inl ⟨by rfl,?thq9⟩) hH0 ?trq9
  case thq9=>(intro w hSw;(try dsimp only at hSw);go_simp;try with_reducible rfl)
  try simp only [Act.put,Yaa,Yab,Yac]
  refine wpAnyH_take (i:=14) (oi:={ dst:=some 53,op:=Op.load 22 (Operand.tmp 52),type:=22,pos:="manifest.go:35",after:=#[{ on:=13,ground:=Ground.data }],guard:=none }) (v:=?tvq10) rfl (by kernel_rfl) (by kernel_rfl) (by kernel_rfl) (fun _ _ _ h => h) (Or.inl ⟨by rfl,?thq10⟩) hH0 ?trq10
  case thq10=>(intro w hSw;(try dsimp only at hSw);go_simp;try with_reducible rfl)
  try simp only [Act.put,Yaa,Yab,Yac]
  refine wpAnyH_ready (rs:=[0,4]) (by kernel_rfl) (by simp) ?_;refine (AllReadyH.cons (o:=o7mi) rfl (fun K hK=>?_) (AllReadyH.cons (o:=o8mi) rfl (fun K hK=>?_) AllReadyH.nil))
  ·rw [if_pos (by rfl)]
   refine Qjr rfl ?_;have cq11:=Only.alloc c00 (.cells #[.int .u8 67,.int .u8 83,.int .u8 75,.int .u8 49] 5);refine hK.out _ _ (keep4 hS3 cq11) (fun hhq14=>?_);clear hK K
   try simp only [Act.put,Yaa,Yab,Yac]
   have gq13:=Only.size c00;have hq12:=heap_alloc_new w3.drew (.cells #[.int .u8 67,.int .u8 83,.int .u8 75,.int .u8 49] 5);refine wpAnyH_ready (rs:=[1,4]) (by kernel_rfl) (by simp) ?_;refine (AllReadyH.cons (o:=o0mi) rfl (fun K hK=>?_) (AllReadyH.cons (o:=o8mi) rfl (fun K hK=>?_) AllReadyH.nil))
   ·rw [if_pos (by rfl)]
    refine QbM (.tmp 39) rfl w3 rfl hq12 gq13 cq11 ?_;intro wfq15 cq16 b40q17 kzq18;refine hK.out _ _ (keep4 hS3 cq16) (fun hhq19=>?_);clear hK K
    try simp only [Act.put,Yaa,Yab,Yac]
    refine wpAnyH_ready (rs:=[4]) (by kernel_rfl) (by simp) ?_;refine (AllReadyH.cons (o:=o8mi) rfl (fun K hK=>?_) AllReadyH.nil)
    ·rw [if_pos (by rfl)]
     refine Qai 76 #[.tmp 42,.const (Value.int IntKind.i64 8)] #[23,3] rfl QfS #[.int .u64 vn,.int .i64 8] (by kernel_rfl) (HF.out _) ?_;rintro vq20 wq21 ⟨owq22,oq23⟩;have cq24:=Only.same cq16 oq23;refine hK.out _ _ (keep4 hS3 cq24) (fun hhq28=>?_);clear hK K
     try simp only [Act.put,Yaa,Yab,Yac]
     have b43q25:Bs .u8 wq21 vq20 (fixL (vn:Int) 8):=Bs.of_own owq22;have nq26:=NoCap.of_own owq22;have b40q27:=Bs.past b40q17 oq23;clear owq22;refine wpAnyH_ready (rs:=[8]) (by kernel_rfl) (by simp) ?_;refine (AllReadyH.cons (o:=o6mi) rfl (fun K hK=>?_) AllReadyH.nil)
     ·rw [if_pos (by rfl)]
      refine Qai 77 #[.tmp 46] #[111] rfl QcD #[.slice at1 tn ct1] (by kernel_rfl) (TB.out _ cq24) ?_;rintro vq29 wq30 ⟨owq31,oq32⟩;have cq33:=Only.same cq24 oq32;refine hK.out _ _ (keep4 hS3 cq33) (fun hhq38=>?_);clear hK K
      try simp only [Act.put,Yaa,Yab,Yac]
      have b47q34:Bs .u8 wq30 vq29 (TBS T tn):=Bs.of_own owq31;have nq35:=NoCap.of_own owq31;have b40q36:=Bs.past b40q27 oq32;have b43q37:=Bs.past b43q25 oq32;clear owq31;refine wpAnyH_ready (rs:=[12]) (by kernel_rfl) (by simp) ?_;refine (AllReadyH.cons (o:=o1mi) rfl (fun K hK=>?_) AllReadyH.nil)
      ·rw [if_pos (by rfl)]
       refine Qai 78 #[.tmp 49,.tmp 50] #[40,112] rfl Qbh #[.slice ao n cap,.map (some w2.heap.size)] (by kernel_rfl) (EB.out _ cq33) ?_;rintro vq39 wq40 ⟨owq41,oq42⟩;have cq43:=Only.same cq33 oq42;refine hK.out _ _ (keep4 hS3 cq43) (fun hhq49=>?_);clear hK K
       try simp only [Act.put,Yaa,Yab,Yac]
       have b51q44:Bs .u8 wq40 vq39 (EBS T E n):=Bs.of_own owq41;have nq45:=NoCap.of_own owq41;have b40q46:=Bs.past b40q36 oq42;have b43q47:=Bs.past b43q37 oq42;have b47q48:=Bs.past b47q34 oq42;clear owq41;obtain ⟨azq50,czq51,ezq52⟩:=Bs.len b43q47;subst ezq52;obtain ⟨azq53,czq54,ezq55⟩:=Bs.len b47q48;subst ezq55;obtain ⟨azq56,czq57,ezq58⟩:=Bs.len b51q44;subst ezq58;refine wpAnyH_ready (rs:=[15]) (by kernel_rfl) (by simp) ?_;refine (AllReadyH.cons (o:=o2mi) rfl (fun K hK=>?_) AllReadyH.nil);rw [if_pos (by rfl)];refine QcQ rfl rfl rfl rfl rfl rfl rfl ?_;refine hK.out _ _ (keep4 hS3 (Only.alloc cq43 _)) (fun hhq65=>?_);clear hK K
       try simp only [Act.put,Yaa,Yab,Yac]
       refine wpAnyH_ready (rs:=[16]) (by kernel_rfl) (by simp) ?_;refine (AllReadyH.cons (o:=o3mi) rfl (fun K hK=>?_) AllReadyH.nil);rw [if_pos (by rfl)];refine Qai 25 #[.tmp 54] #[43] rfl Qbg #[.slice (some ⟨wq40.heap.size,0,none⟩) 6 6] (by kernel_rfl) (QaK (heap_alloc_new wq40 _) (Bs.past b40q46 ((Only.refl _ _).alloc _)) (Bs.past b43q47 ((Only.refl _ _).alloc _)) (HP3.out.past (Only.alloc cq43 _)) (Bs.past b47q48 ((Only.refl _ _).alloc _)) (Bs.past b51q44 ((Only.refl _ _).alloc _)) (HR3.out.past (Only.alloc cq43 _)) (NoCap.some _ _ _) nq26 np nq35 nq45 nr (by simp [MHD]) HLL.out) ?_;rintro vcq61 wzq62 ⟨owzq64,ozq63⟩;have ccq60:=Only.same (Only.alloc cq43 _) ozq63;refine hK.out _ _ (keep4 hS3 ccq60) (fun hhq66=>?_);clear hK K
       try simp only [Act.put,Yaa,Yab,Yac]
       refine wpAnyH_take (i:=17) (oi:=o4mi) (v:=?tvq67) rfl (by kernel_rfl) (by kernel_rfl) (by kernel_rfl) (fun _ _ _ h=>h) (Or.inl ⟨by rfl,?thq67⟩) hhq66 ?trq67
       case thq67=>(intro w hSw;(try dsimp only at hSw);go_simp;try with_reducible rfl)
       try simp only [Act.put,Yaa,Yab,Yac]
       refine wpAnyH_take (i:=18) (oi:=o5mi) (v:=?tvq68) rfl (by kernel_rfl) (by kernel_rfl) (by kernel_rfl) (fun _ _ _ h=>h) (Or.inl ⟨by rfl,?thq68⟩) hhq66 ?trq68
       case thq68=>(intro w hSw;(try dsimp only at hSw);go_simp;try with_reducible rfl)
       try simp only [Act.put,Yaa,Yab,Yac]
       refine wpAnyH_done (by kernel_rfl) ?_ _;have FZ:=Qaa (And.intro (Qaf owzq64 (Nat.le_trans O3.out.size (Only.size (Only.alloc cq43 _)))) (Only.same O3.out ccq60));rw [HTN.out] at FZ;clear hH0;go_wp2;go_ret2;exact ⟨vcq61,rfl,FZ.out⟩
   ·rw [if_pos (by rfl)]
    refine Qai 76 #[.tmp 42,.const (Value.int IntKind.i64 8)] #[23,3] rfl QfS #[.int .u64 vn,.int .i64 8] (by kernel_rfl) (HF.out _) ?_;rintro vq69 wq70 ⟨owq71,oq72⟩;have cq73:=Only.same cq11 oq72;refine hK.out _ _ (keep4 hS3 cq73) (fun hhq77=>?_);clear hK K
    try simp only [Act.put,Yaa,Yab,Yac]
    have b43q74:Bs .u8 wq70 vq69 (fixL (vn:Int) 8):=Bs.of_own owq71;have nq75:=NoCap.of_own owq71;have hq76:=Only.heap oq72 hq12 (fun f=>f);clear owq71;refine wpAnyH_ready (rs:=[1,8]) (by kernel_rfl) (by simp) ?_;refine (AllReadyH.cons (o:=o0mi) rfl (fun K hK=>?_) (AllReadyH.cons (o:=o6mi) rfl (fun K hK=>?_) AllReadyH.nil))
    ·rw [if_pos (by rfl)]
     refine QbM (.tmp 39) rfl w3 rfl hq76 gq13 cq73 ?_;intro wfq78 cq79 b40q80 kzq81;refine hK.out _ _ (keep4 hS3 cq79) (fun hhq83=>?_);clear hK K
     try simp only [Act.put,Yaa,Yab,Yac]
     have b43q82:=kzq81 _ _ b43q74;refine wpAnyH_ready (rs:=[8]) (by kernel_rfl) (by simp) ?_;refine (AllReadyH.cons (o:=o6mi) rfl (fun K hK=>?_) AllReadyH.nil)
     ·rw [if_pos (by rfl)]
      refine Qai 77 #[.tmp 46] #[111] rfl QcD #[.slice at1 tn ct1] (by kernel_rfl) (TB.out _ cq79) ?_;rintro vq84 wq85 ⟨owq86,oq87⟩;have cq88:=Only.same cq79 oq87;refine hK.out _ _ (keep4 hS3 cq88) (fun hhq93=>?_);clear hK K
      try simp only [Act.put,Yaa,Yab,Yac]
      have b47q89:Bs .u8 wq85 vq84 (TBS T tn):=Bs.of_own owq86;have nq90:=NoCap.of_own owq86;have b40q91:=Bs.past b40q80 oq87;have b43q92:=Bs.past b43q82 oq87;clear owq86;refine wpAnyH_ready (rs:=[12]) (by kernel_rfl) (by simp) ?_;refine (AllReadyH.cons (o:=o1mi) rfl (fun K hK=>?_) AllReadyH.nil)
      ·rw [if_pos (by rfl)]
       refine Qai 78 #[.tmp 49,.tmp 50] #[40,112] rfl Qbh #[.slice ao n cap,.map (some w2.heap.size)] (by kernel_rfl) (EB.out _ cq88) ?_;rintro vq94 wq95 ⟨owq96,oq97⟩;have cq98:=Only.same cq88 oq97;refine hK.out _ _ (keep4 hS3 cq98) (fun hhq104=>?_);clear hK K
       try simp only [Act.put,Yaa,Yab,Yac]
       have b51q99:Bs .u8 wq95 vq94 (EBS T E n):=Bs.of_own owq96;have nq100:=NoCap.of_own owq96;have b40q101:=Bs.past b40q91 oq97;have b43q102:=Bs.past b43q92 oq97;have b47q103:=Bs.past b47q89 oq97;clear owq96;obtain ⟨azq105,czq106,ezq107⟩:=Bs.len b43q102;subst ezq107;obtain ⟨azq108,czq109,ezq110⟩:=Bs.len b47q103;subst ezq110;obtain ⟨azq111,czq112,ezq113⟩:=Bs.len b51q99;subst ezq113;refine wpAnyH_ready (rs:=[15]) (by kernel_rfl) (by simp) ?_;refine (AllReadyH.cons (o:=o2mi) rfl (fun K hK=>?_) AllReadyH.nil);rw [if_pos (by rfl)];refine QcQ rfl rfl rfl rfl rfl rfl rfl ?_;refine hK.out _ _ (keep4 hS3 (Only.alloc cq98 _)) (fun hhq120=>?_);clear hK K
       try simp only [Act.put,Yaa,Yab,Yac]
       refine wpAnyH_ready (rs:=[16]) (by kernel_rfl) (by simp) ?_;refine (AllReadyH.cons (o:=o3mi) rfl (fun K hK=>?_) AllReadyH.nil);rw [if_pos (by rfl)];refine Qai 25 #[.tmp 54] #[43] rfl Qbg #[.slice (some ⟨wq95.heap.size,0,none⟩) 6 6] (by kernel_rfl) (QaK (heap_alloc_new wq95 _) (Bs.past b40q101 ((Only.refl _ _).alloc _)) (Bs.past b43q102 ((Only.refl _ _).alloc _)) (HP3.out.past (Only.alloc cq98 _)) (Bs.past b47q103 ((Only.refl _ _).alloc _)) (Bs.past b51q99 ((Only.refl _ _).alloc _)) (HR3.out.past (Only.alloc cq98 _)) (NoCap.some _ _ _) nq75 np nq90 nq100 nr (by simp [MHD]) HLL.out) ?_;rintro vcq116 wzq117 ⟨owzq119,ozq118⟩;have ccq115:=Only.same (Only.alloc cq98 _) ozq118;refine hK.out _ _ (keep4 hS3 ccq115) (fun hhq121=>?_);clear hK K
       try simp only [Act.put,Yaa,Yab,Yac]
       refine wpAnyH_take (i:=17) (oi:=o4mi) (v:=?tvq122) rfl (by kernel_rfl) (by kernel_rfl) (by kernel_rfl) (fun _ _ _ h=>h) (Or.inl ⟨by rfl,?thq122⟩) hhq121 ?trq122
       case thq122=>(intro w hSw;(try dsimp only at hSw);go_simp;try with_reducible rfl)
       try simp only [Act.put,Yaa,Yab,Yac]
       refine wpAnyH_take (i:=18) (oi:=o5mi) (v:=?tvq123) rfl (by kernel_rfl) (by kernel_rfl) (by kernel_rfl) (fun _ _ _ h=>h) (Or.inl ⟨by rfl,?thq123⟩) hhq121 ?trq123
       case thq123=>(intro w hSw;(try dsimp only at hSw);go_simp;try with_reducible rfl)
       try simp only [Act.put,Yaa,Yab,Yac]
       refine wpAnyH_done (by kernel_rfl) ?_ _;have FZ:=Qaa (And.intro (Qaf owzq119 (Nat.le_trans O3.out.size (Only.size (Only.alloc cq98 _)))) (Only.same O3.out ccq115));rw [HTN.out] at FZ;clear hH0;go_wp2;go_ret2;exact ⟨vcq116,rfl,FZ.out⟩
    ·rw [if_pos (by rfl)]
     refine Qai 77 #[.tmp 46] #[111] rfl QcD #[.slice at1 tn ct1] (by kernel_rfl) (TB.out _ cq73) ?_;rintro vq124 wq125 ⟨owq126,oq127⟩;have cq128:=Only.same cq73 oq127;refine hK.out _ _ (keep4 hS3 cq128) (fun hhq133=>?_);clear hK K
     try simp only [Act.put,Yaa,Yab,Yac]
     have b47q129:Bs .u8 wq125 vq124 (TBS T tn):=Bs.of_own owq126;have nq130:=NoCap.of_own owq126;have b43q131:=Bs.past b43q74 oq127;have hq132:=Only.heap oq127 hq76 (fun f=>f);clear owq126;refine wpAnyH_ready (rs:=[1,12]) (by kernel_rfl) (by simp) ?_;refine (AllReadyH.cons (o:=o0mi) rfl (fun K hK=>?_) (AllReadyH.cons (o:=o1mi) rfl (fun K hK=>?_) AllReadyH.nil))
     ·rw [if_pos (by rfl)]
      refine QbM (.tmp 39) rfl w3 rfl hq132 gq13 cq128 ?_;intro wfq134 cq135 b40q136 kzq137;refine hK.out _ _ (keep4 hS3 cq135) (fun hhq140=>?_);clear hK K
      try simp only [Act.put,Yaa,Yab,Yac]
      have b43q138:=kzq137 _ _ b43q131;have b47q139:=kzq137 _ _ b47q129;refine wpAnyH_ready (rs:=[12]) (by kernel_rfl) (by simp) ?_;refine (AllReadyH.cons (o:=o1mi) rfl (fun K hK=>?_) AllReadyH.nil)
      ·rw [if_pos (by rfl)]
       refine Qai 78 #[.tmp 49,.tmp 50] #[40,112] rfl Qbh #[.slice ao n cap,.map (some w2.heap.size)] (by kernel_rfl) (EB.out _ cq135) ?_;rintro vq141 wq142 ⟨owq143,oq144⟩;have cq145:=Only.same cq135 oq144;refine hK.out _ _ (keep4 hS3 cq145) (fun hhq151=>?_);clear hK K
       try simp only [Act.put,Yaa,Yab,Yac]
       have b51q146:Bs .u8 wq142 vq141 (EBS T E n):=Bs.of_own owq143;have nq147:=NoCap.of_own owq143;have b40q148:=Bs.past b40q136 oq144;have b43q149:=Bs.past b43q138 oq144;have b47q150:=Bs.past b47q139 oq144;clear owq143;obtain ⟨azq152,czq153,ezq154⟩:=Bs.len b43q149;subst ezq154;obtain ⟨azq155,czq156,ezq157⟩:=Bs.len b47q150;subst ezq157;obtain ⟨azq158,czq159,ezq160⟩:=Bs.len b51q146;subst ezq160;refine wpAnyH_ready (rs:=[15]) (by kernel_rfl) (by simp) ?_;refine (AllReadyH.cons (o:=o2mi) rfl (fun K hK=>?_) AllReadyH.nil);rw [if_pos (by rfl)];refine QcQ rfl rfl rfl rfl rfl rfl rfl ?_;refine hK.out _ _ (keep4 hS3 (Only.alloc cq145 _)) (fun hhq167=>?_);clear hK K
       try simp only [Act.put,Yaa,Yab,Yac]
       refine wpAnyH_ready (rs:=[16]) (by kernel_rfl) (by simp) ?_;refine (AllReadyH.cons (o:=o3mi) rfl (fun K hK=>?_) AllReadyH.nil);rw [if_pos (by rfl)];refine Qai 25 #[.tmp 54] #[43] rfl Qbg #[.slice (some ⟨wq142.heap.size,0,none⟩) 6 6] (by kernel_rfl) (QaK (heap_alloc_new wq142 _) (Bs.past b40q148 ((Only.refl _ _).alloc _)) (Bs.past b43q149 ((Only.refl _ _).alloc _)) (HP3.out.past (Only.alloc cq145 _)) (Bs.past b47q150 ((Only.refl _ _).alloc _)) (Bs.past b51q146 ((Only.refl _ _).alloc _)) (HR3.out.past (Only.alloc cq145 _)) (NoCap.some _ _ _) nq75 np nq130 nq147 nr (by simp [MHD]) HLL.out) ?_;rintro vcq163 wzq164 ⟨owzq166,ozq165⟩;have ccq162:=Only.same (Only.alloc cq145 _) ozq165;refine hK.out _ _ (keep4 hS3 ccq162) (fun hhq168=>?_);clear hK K
       try simp only [Act.put,Yaa,Yab,Yac]
       refine wpAnyH_take (i:=17) (oi:=o4mi) (v:=?tvq169) rfl (by kernel_rfl) (by kernel_rfl) (by kernel_rfl) (fun _ _ _ h=>h) (Or.inl ⟨by rfl,?thq169⟩) hhq168 ?trq169
       case thq169=>(intro w hSw;(try dsimp only at hSw);go_simp;try with_reducible rfl)
       try simp only [Act.put,Yaa,Yab,Yac]
       refine wpAnyH_take (i:=18) (oi:=o5mi) (v:=?tvq170) rfl (by kernel_rfl) (by kernel_rfl) (by kernel_rfl) (fun _ _ _ h=>h) (Or.inl ⟨by rfl,?thq170⟩) hhq168 ?trq170
       case thq170=>(intro w hSw;(try dsimp only at hSw);go_simp;try with_reducible rfl)
       try simp only [Act.put,Yaa,Yab,Yac]
       refine wpAnyH_done (by kernel_rfl) ?_ _;have FZ:=Qaa (And.intro (Qaf owzq166 (Nat.le_trans O3.out.size (Only.size (Only.alloc cq145 _)))) (Only.same O3.out ccq162));rw [HTN.out] at FZ;clear hH0;go_wp2;go_ret2;exact ⟨vcq163,rfl,FZ.out⟩
     ·rw [if_pos (by rfl)]
      refine Qai 78 #[.tmp 49,.tmp 50] #[40,112] rfl Qbh #[.slice ao n cap,.map (some w2.heap.size)] (by kernel_rfl) (EB.out _ cq128) ?_;rintro vq171 wq172 ⟨owq173,oq174⟩;have cq175:=Only.same cq128 oq174;refine hK.out _ _ (keep4 hS3 cq175) (fun hhq181=>?_);clear hK K
      try simp only [Act.put,Yaa,Yab,Yac]
      have b51q176:Bs .u8 wq172 vq171 (EBS T E n):=Bs.of_own owq173;have nq177:=NoCap.of_own owq173;have b43q178:=Bs.past b43q131 oq174;have b47q179:=Bs.past b47q129 oq174;have hq180:=Only.heap oq174 hq132 (fun f=>f);clear owq173;refine wpAnyH_ready (rs:=[1]) (by kernel_rfl) (by simp) ?_;refine (AllReadyH.cons (o:=o0mi) rfl (fun K hK=>?_) AllReadyH.nil)
      ·rw [if_pos (by rfl)]
       refine QbM (.tmp 39) rfl w3 rfl hq180 gq13 cq175 ?_;intro wfq182 cq183 b40q184 kzq185;refine hK.out _ _ (keep4 hS3 cq183) (fun hhq189=>?_);clear hK K
       try simp only [Act.put,Yaa,Yab,Yac]
       have b43q186:=kzq185 _ _ b43q178;have b47q187:=kzq185 _ _ b47q179;have b51q188:=kzq185 _ _ b51q176;obtain ⟨azq190,czq191,ezq192⟩:=Bs.len b43q186;subst ezq192;obtain ⟨azq193,czq194,ezq195⟩:=Bs.len b47q187;subst ezq195;obtain ⟨azq196,czq197,ezq198⟩:=Bs.len b51q188;subst ezq198;refine wpAnyH_ready (rs:=[15]) (by kernel_rfl) (by simp) ?_;refine (AllReadyH.cons (o:=o2mi) rfl (fun K hK=>?_) AllReadyH.nil);rw [if_pos (by rfl)];refine QcQ rfl rfl rfl rfl rfl rfl rfl ?_;refine hK.out _ _ (keep4 hS3 (Only.alloc cq183 _)) (fun hhq205=>?_);clear hK K
       try simp only [Act.put,Yaa,Yab,Yac]
       refine wpAnyH_ready (rs:=[16]) (by kernel_rfl) (by simp) ?_;refine (AllReadyH.cons (o:=o3mi) rfl (fun K hK=>?_) AllReadyH.nil);rw [if_pos (by rfl)];refine Qai 25 #[.tmp 54] #[43] rfl Qbg #[.slice (some ⟨wfq182.heap.size,0,none⟩) 6 6] (by kernel_rfl) (QaK (heap_alloc_new wfq182 _) (Bs.past b40q184 ((Only.refl _ _).alloc _)) (Bs.past b43q186 ((Only.refl _ _).alloc _)) (HP3.out.past (Only.alloc cq183 _)) (Bs.past b47q187 ((Only.refl _ _).alloc _)) (Bs.past b51q188 ((Only.refl _ _).alloc _)) (HR3.out.past (Only.alloc cq183 _)) (NoCap.some _ _ _) nq75 np nq130 nq177 nr (by simp [MHD]) HLL.out) ?_;rintro vcq201 wzq202 ⟨owzq204,ozq203⟩;have ccq200:=Only.same (Only.alloc cq183 _) ozq203;refine hK.out _ _ (keep4 hS3 ccq200) (fun hhq206=>?_);clear hK K
       try simp only [Act.put,Yaa,Yab,Yac]
       refine wpAnyH_take (i:=17) (oi:=o4mi) (v:=?tvq207) rfl (by kernel_rfl) (by kernel_rfl) (by kernel_rfl) (fun _ _ _ h=>h) (Or.inl ⟨by rfl,?thq207⟩) hhq206 ?trq207
       case thq207=>(intro w hSw;(try dsimp only at hSw);go_simp;try with_reducible rfl)
       try simp only [Act.put,Yaa,Yab,Yac]
       refine wpAnyH_take (i:=18) (oi:=o5mi) (v:=?tvq208) rfl (by kernel_rfl) (by kernel_rfl) (by kernel_rfl) (fun _ _ _ h=>h) (Or.inl ⟨by rfl,?thq208⟩) hhq206 ?trq208
       case thq208=>(intro w hSw;(try dsimp only at hSw);go_simp;try with_reducible rfl)
       try simp only [Act.put,Yaa,Yab,Yac]
       refine wpAnyH_done (by kernel_rfl) ?_ _;have FZ:=Qaa (And.intro (Qaf owzq204 (Nat.le_trans O3.out.size (Only.size (Only.alloc cq183 _)))) (Only.same O3.out ccq200));rw [HTN.out] at FZ;clear hH0;go_wp2;go_ret2;exact ⟨vcq201,rfl,FZ.out⟩
  ·rw [if_pos (by rfl)]
   refine Qai 76 #[.tmp 42,.const (Value.int IntKind.i64 8)] #[23,3] rfl QfS #[.int .u64 vn,.int .i64 8] (by kernel_rfl) (HF.out _) ?_;rintro vq209 wq210 ⟨owq211,oq212⟩;have cq213:=Only.same c00 oq212;refine hK.out _ _ (keep4 hS3 cq213) (fun hhq216=>?_);clear hK K
   try simp only [Act.put,Yaa,Yab,Yac]
   have b43q214:Bs .u8 wq210 vq209 (fixL (vn:Int) 8):=Bs.of_own owq211;have nq215:=NoCap.of_own owq211;clear owq211;refine wpAnyH_ready (rs:=[0,8]) (by kernel_rfl) (by simp) ?_;refine (AllReadyH.cons (o:=o7mi) rfl (fun K hK=>?_) (AllReadyH.cons (o:=o6mi) rfl (fun K hK=>?_) AllReadyH.nil))
   ·rw [if_pos (by rfl)]
    refine Qjr rfl ?_;have cq217:=Only.alloc cq213 (.cells #[.int .u8 67,.int .u8 83,.int .u8 75,.int .u8 49] 5);refine hK.out _ _ (keep4 hS3 cq217) (fun hhq221=>?_);clear hK K
    try simp only [Act.put,Yaa,Yab,Yac]
    have gq219:=Only.size cq213;have hq218:=heap_alloc_new wq210 (.cells #[.int .u8 67,.int .u8 83,.int .u8 75,.int .u8 49] 5);have b43q220:=Bs.past b43q214 ((Only.refl (fun _=>False) wq210).alloc (.cells #[.int .u8 67,.int .u8 83,.int .u8 75,.int .u8 49] 5));refine wpAnyH_ready (rs:=[1,8]) (by kernel_rfl) (by simp) ?_;refine (AllReadyH.cons (o:=o0mi) rfl (fun K hK=>?_) (AllReadyH.cons (o:=o6mi) rfl (fun K hK=>?_) AllReadyH.nil))
    ·rw [if_pos (by rfl)]
     refine QbM (.tmp 39) rfl w3 rfl hq218 gq219 cq217 ?_;intro wfq222 cq223 b40q224 kzq225;refine hK.out _ _ (keep4 hS3 cq223) (fun hhq227=>?_);clear hK K
     try simp only [Act.put,Yaa,Yab,Yac]
     have b43q226:=kzq225 _ _ b43q220;refine wpAnyH_ready (rs:=[8]) (by kernel_rfl) (by simp) ?_;refine (AllReadyH.cons (o:=o6mi) rfl (fun K hK=>?_) AllReadyH.nil)
     ·rw [if_pos (by rfl)]
      refine Qai 77 #[.tmp 46] #[111] rfl QcD #[.slice at1 tn ct1] (by kernel_rfl) (TB.out _ cq223) ?_;rintro vq228 wq229 ⟨owq230,oq231⟩;have cq232:=Only.same cq223 oq231;refine hK.out _ _ (keep4 hS3 cq232) (fun hhq237=>?_);clear hK K
      try simp only [Act.put,Yaa,Yab,Yac]
      have b47q233:Bs .u8 wq229 vq228 (TBS T tn):=Bs.of_own owq230;have nq234:=NoCap.of_own owq230;have b40q235:=Bs.past b40q224 oq231;have b43q236:=Bs.past b43q226 oq231;clear owq230;refine wpAnyH_ready (rs:=[12]) (by kernel_rfl) (by simp) ?_;refine (AllReadyH.cons (o:=o1mi) rfl (fun K hK=>?_) AllReadyH.nil)
      ·rw [if_pos (by rfl)]
       refine Qai 78 #[.tmp 49,.tmp 50] #[40,112] rfl Qbh #[.slice ao n cap,.map (some w2.heap.size)] (by kernel_rfl) (EB.out _ cq232) ?_;rintro vq238 wq239 ⟨owq240,oq241⟩;have cq242:=Only.same cq232 oq241;refine hK.out _ _ (keep4 hS3 cq242) (fun hhq248=>?_);clear hK K
       try simp only [Act.put,Yaa,Yab,Yac]
       have b51q243:Bs .u8 wq239 vq238 (EBS T E n):=Bs.of_own owq240;have nq244:=NoCap.of_own owq240;have b40q245:=Bs.past b40q235 oq241;have b43q246:=Bs.past b43q236 oq241;have b47q247:=Bs.past b47q233 oq241;clear owq240;obtain ⟨azq249,czq250,ezq251⟩:=Bs.len b43q246;subst ezq251;obtain ⟨azq252,czq253,ezq254⟩:=Bs.len b47q247;subst ezq254;obtain ⟨azq255,czq256,ezq257⟩:=Bs.len b51q243;subst ezq257;refine wpAnyH_ready (rs:=[15]) (by kernel_rfl) (by simp) ?_;refine (AllReadyH.cons (o:=o2mi) rfl (fun K hK=>?_) AllReadyH.nil);rw [if_pos (by rfl)];refine QcQ rfl rfl rfl rfl rfl rfl rfl ?_;refine hK.out _ _ (keep4 hS3 (Only.alloc cq242 _)) (fun hhq264=>?_);clear hK K
       try simp only [Act.put,Yaa,Yab,Yac]
       refine wpAnyH_ready (rs:=[16]) (by kernel_rfl) (by simp) ?_;refine (AllReadyH.cons (o:=o3mi) rfl (fun K hK=>?_) AllReadyH.nil);rw [if_pos (by rfl)];refine Qai 25 #[.tmp 54] #[43] rfl Qbg #[.slice (some ⟨wq239.heap.size,0,none⟩) 6 6] (by kernel_rfl) (QaK (heap_alloc_new wq239 _) (Bs.past b40q245 ((Only.refl _ _).alloc _)) (Bs.past b43q246 ((Only.refl _ _).alloc _)) (HP3.out.past (Only.alloc cq242 _)) (Bs.past b47q247 ((Only.refl _ _).alloc _)) (Bs.past b51q243 ((Only.refl _ _).alloc _)) (HR3.out.past (Only.alloc cq242 _)) (NoCap.some _ _ _) nq215 np nq234 nq244 nr (by simp [MHD]) HLL.out) ?_;rintro vcq260 wzq261 ⟨owzq263,ozq262⟩;have ccq259:=Only.same (Only.alloc cq242 _) ozq262;refine hK.out _ _ (keep4 hS3 ccq259) (fun hhq265=>?_);clear hK K
       try simp only [Act.put,Yaa,Yab,Yac]
       refine wpAnyH_take (i:=17) (oi:=o4mi) (v:=?tvq266) rfl (by kernel_rfl) (by kernel_rfl) (by kernel_rfl) (fun _ _ _ h=>h) (Or.inl ⟨by rfl,?thq266⟩) hhq265 ?trq266
       case thq266=>(intro w hSw;(try dsimp only at hSw);go_simp;try with_reducible rfl)
       try simp only [Act.put,Yaa,Yab,Yac]
       refine wpAnyH_take (i:=18) (oi:=o5mi) (v:=?tvq267) rfl (by kernel_rfl) (by kernel_rfl) (by kernel_rfl) (fun _ _ _ h=>h) (Or.inl ⟨by rfl,?thq267⟩) hhq265 ?trq267
       case thq267=>(intro w hSw;(try dsimp only at hSw);go_simp;try with_reducible rfl)
       try simp only [Act.put,Yaa,Yab,Yac]
       refine wpAnyH_done (by kernel_rfl) ?_ _;have FZ:=Qaa (And.intro (Qaf owzq263 (Nat.le_trans O3.out.size (Only.size (Only.alloc cq242 _)))) (Only.same O3.out ccq259));rw [HTN.out] at FZ;clear hH0;go_wp2;go_ret2;exact ⟨vcq260,rfl,FZ.out⟩
    ·rw [if_pos (by rfl)]
     refine Qai 77 #[.tmp 46] #[111] rfl QcD #[.slice at1 tn ct1] (by kernel_rfl) (TB.out _ cq217) ?_;rintro vq268 wq269 ⟨owq270,oq271⟩;have cq272:=Only.same cq217 oq271;refine hK.out _ _ (keep4 hS3 cq272) (fun hhq277=>?_);clear hK K
     try simp only [Act.put,Yaa,Yab,Yac]
     have b47q273:Bs .u8 wq269 vq268 (TBS T tn):=Bs.of_own owq270;have nq274:=NoCap.of_own owq270;have b43q275:=Bs.past b43q220 oq271;have hq276:=Only.heap oq271 hq218 (fun f=>f);clear owq270;refine wpAnyH_ready (rs:=[1,12]) (by kernel_rfl) (by simp) ?_;refine (AllReadyH.cons (o:=o0mi) rfl (fun K hK=>?_) (AllReadyH.cons (o:=o1mi) rfl (fun K hK=>?_) AllReadyH.nil))
     ·rw [if_pos (by rfl)]
      refine QbM (.tmp 39) rfl w3 rfl hq276 gq219 cq272 ?_;intro wfq278 cq279 b40q280 kzq281;refine hK.out _ _ (keep4 hS3 cq279) (fun hhq284=>?_);clear hK K
      try simp only [Act.put,Yaa,Yab,Yac]
      have b43q282:=kzq281 _ _ b43q275;have b47q283:=kzq281 _ _ b47q273;refine wpAnyH_ready (rs:=[12]) (by kernel_rfl) (by simp) ?_;refine (AllReadyH.cons (o:=o1mi) rfl (fun K hK=>?_) AllReadyH.nil)
      ·rw [if_pos (by rfl)]
       refine Qai 78 #[.tmp 49,.tmp 50] #[40,112] rfl Qbh #[.slice ao n cap,.map (some w2.heap.size)] (by kernel_rfl) (EB.out _ cq279) ?_;rintro vq285 wq286 ⟨owq287,oq288⟩;have cq289:=Only.same cq279 oq288;refine hK.out _ _ (keep4 hS3 cq289) (fun hhq295=>?_);clear hK K
       try simp only [Act.put,Yaa,Yab,Yac]
       have b51q290:Bs .u8 wq286 vq285 (EBS T E n):=Bs.of_own owq287;have nq291:=NoCap.of_own owq287;have b40q292:=Bs.past b40q280 oq288;have b43q293:=Bs.past b43q282 oq288;have b47q294:=Bs.past b47q283 oq288;clear owq287;obtain ⟨azq296,czq297,ezq298⟩:=Bs.len b43q293;subst ezq298;obtain ⟨azq299,czq300,ezq301⟩:=Bs.len b47q294;subst ezq301;obtain ⟨azq302,czq303,ezq304⟩:=Bs.len b51q290;subst ezq304;refine wpAnyH_ready (rs:=[15]) (by kernel_rfl) (by simp) ?_;refine (AllReadyH.cons (o:=o2mi) rfl (fun K hK=>?_) AllReadyH.nil);rw [if_pos (by rfl)];refine QcQ rfl rfl rfl rfl rfl rfl rfl ?_;refine hK.out _ _ (keep4 hS3 (Only.alloc cq289 _)) (fun hhq311=>?_);clear hK K
       try simp only [Act.put,Yaa,Yab,Yac]
       refine wpAnyH_ready (rs:=[16]) (by kernel_rfl) (by simp) ?_;refine (AllReadyH.cons (o:=o3mi) rfl (fun K hK=>?_) AllReadyH.nil);rw [if_pos (by rfl)];refine Qai 25 #[.tmp 54] #[43] rfl Qbg #[.slice (some ⟨wq286.heap.size,0,none⟩) 6 6] (by kernel_rfl) (QaK (heap_alloc_new wq286 _) (Bs.past b40q292 ((Only.refl _ _).alloc _)) (Bs.past b43q293 ((Only.refl _ _).alloc _)) (HP3.out.past (Only.alloc cq289 _)) (Bs.past b47q294 ((Only.refl _ _).alloc _)) (Bs.past b51q290 ((Only.refl _ _).alloc _)) (HR3.out.past (Only.alloc cq289 _)) (NoCap.some _ _ _) nq215 np nq274 nq291 nr (by simp [MHD]) HLL.out) ?_;rintro vcq307 wzq308 ⟨owzq310,ozq309⟩;have ccq306:=Only.same (Only.alloc cq289 _) ozq309;refine hK.out _ _ (keep4 hS3 ccq306) (fun hhq312=>?_);clear hK K
       try simp only [Act.put,Yaa,Yab,Yac]
       refine wpAnyH_take (i:=17) (oi:=o4mi) (v:=?tvq313) rfl (by kernel_rfl) (by kernel_rfl) (by kernel_rfl) (fun _ _ _ h=>h) (Or.inl ⟨by rfl,?thq313⟩) hhq312 ?trq313
       case thq313=>(intro w hSw;(try dsimp only at hSw);go_simp;try with_reducible rfl)
       try simp only [Act.put,Yaa,Yab,Yac]
       refine wpAnyH_take (i:=18) (oi:=o5mi) (v:=?tvq314) rfl (by kernel_rfl) (by kernel_rfl) (by kernel_rfl) (fun _ _ _ h=>h) (Or.inl ⟨by rfl,?thq314⟩) hhq312 ?trq314
       case thq314=>(intro w hSw;(try dsimp only at hSw);go_simp;try with_reducible rfl)
       try simp only [Act.put,Yaa,Yab,Yac]
       refine wpAnyH_done (by kernel_rfl) ?_ _;have FZ:=Qaa (And.intro (Qaf owzq310 (Nat.le_trans O3.out.size (Only.size (Only.alloc cq289 _)))) (Only.same O3.out ccq306));rw [HTN.out] at FZ;clear hH0;go_wp2;go_ret2;exact ⟨vcq307,rfl,FZ.out⟩
     ·rw [if_pos (by rfl)]
      refine Qai 78 #[.tmp 49,.tmp 50] #[40,112] rfl Qbh #[.slice ao n cap,.map (some w2.heap.size)] (by kernel_rfl) (EB.out _ cq272) ?_;rintro vq315 wq316 ⟨owq317,oq318⟩;have cq319:=Only.same cq272 oq318;refine hK.out _ _ (keep4 hS3 cq319) (fun hhq325=>?_);clear hK K
      try simp only [Act.put,Yaa,Yab,Yac]
      have b51q320:Bs .u8 wq316 vq315 (EBS T E n):=Bs.of_own owq317;have nq321:=NoCap.of_own owq317;have b43q322:=Bs.past b43q275 oq318;have b47q323:=Bs.past b47q273 oq318;have hq324:=Only.heap oq318 hq276 (fun f=>f);clear owq317;refine wpAnyH_ready (rs:=[1]) (by kernel_rfl) (by simp) ?_;refine (AllReadyH.cons (o:=o0mi) rfl (fun K hK=>?_) AllReadyH.nil)
      ·rw [if_pos (by rfl)]
       refine QbM (.tmp 39) rfl w3 rfl hq324 gq219 cq319 ?_;intro wfq326 cq327 b40q328 kzq329;refine hK.out _ _ (keep4 hS3 cq327) (fun hhq333=>?_);clear hK K
       try simp only [Act.put,Yaa,Yab,Yac]
       have b43q330:=kzq329 _ _ b43q322;have b47q331:=kzq329 _ _ b47q323;have b51q332:=kzq329 _ _ b51q320;obtain ⟨azq334,czq335,ezq336⟩:=Bs.len b43q330;subst ezq336;obtain ⟨azq337,czq338,ezq339⟩:=Bs.len b47q331;subst ezq339;obtain ⟨azq340,czq341,ezq342⟩:=Bs.len b51q332;subst ezq342;refine wpAnyH_ready (rs:=[15]) (by kernel_rfl) (by simp) ?_;refine (AllReadyH.cons (o:=o2mi) rfl (fun K hK=>?_) AllReadyH.nil);rw [if_pos (by rfl)];refine QcQ rfl rfl rfl rfl rfl rfl rfl ?_;refine hK.out _ _ (keep4 hS3 (Only.alloc cq327 _)) (fun hhq349=>?_);clear hK K
       try simp only [Act.put,Yaa,Yab,Yac]
       refine wpAnyH_ready (rs:=[16]) (by kernel_rfl) (by simp) ?_;refine (AllReadyH.cons (o:=o3mi) rfl (fun K hK=>?_) AllReadyH.nil);rw [if_pos (by rfl)];refine Qai 25 #[.tmp 54] #[43] rfl Qbg #[.slice (some ⟨wfq326.heap.size,0,none⟩) 6 6] (by kernel_rfl) (QaK (heap_alloc_new wfq326 _) (Bs.past b40q328 ((Only.refl _ _).alloc _)) (Bs.past b43q330 ((Only.refl _ _).alloc _)) (HP3.out.past (Only.alloc cq327 _)) (Bs.past b47q331 ((Only.refl _ _).alloc _)) (Bs.past b51q332 ((Only.refl _ _).alloc _)) (HR3.out.past (Only.alloc cq327 _)) (NoCap.some _ _ _) nq215 np nq274 nq321 nr (by simp [MHD]) HLL.out) ?_;rintro vcq345 wzq346 ⟨owzq348,ozq347⟩;have ccq344:=Only.same (Only.alloc cq327 _) ozq347;refine hK.out _ _ (keep4 hS3 ccq344) (fun hhq350=>?_);clear hK K
       try simp only [Act.put,Yaa,Yab,Yac]
       refine wpAnyH_take (i:=17) (oi:=o4mi) (v:=?tvq351) rfl (by kernel_rfl) (by kernel_rfl) (by kernel_rfl) (fun _ _ _ h=>h) (Or.inl ⟨by rfl,?thq351⟩) hhq350 ?trq351
       case thq351=>(intro w hSw;(try dsimp only at hSw);go_simp;try with_reducible rfl)
       try simp only [Act.put,Yaa,Yab,Yac]
       refine wpAnyH_take (i:=18) (oi:=o5mi) (v:=?tvq352) rfl (by kernel_rfl) (by kernel_rfl) (by kernel_rfl) (fun _ _ _ h=>h) (Or.inl ⟨by rfl,?thq352⟩) hhq350 ?trq352
       case thq352=>(intro w hSw;(try dsimp only at hSw);go_simp;try with_reducible rfl)
       try simp only [Act.put,Yaa,Yab,Yac]
       refine wpAnyH_done (by kernel_rfl) ?_ _;have FZ:=Qaa (And.intro (Qaf owzq348 (Nat.le_trans O3.out.size (Only.size (Only.alloc cq327 _)))) (Only.same O3.out ccq344));rw [HTN.out] at FZ;clear hH0;go_wp2;go_ret2;exact ⟨vcq345,rfl,FZ.out⟩
   ·rw [if_pos (by rfl)]
    refine Qai 77 #[.tmp 46] #[111] rfl QcD #[.slice at1 tn ct1] (by kernel_rfl) (TB.out _ cq213) ?_;rintro vq353 wq354 ⟨owq355,oq356⟩;have cq357:=Only.same cq213 oq356;refine hK.out _ _ (keep4 hS3 cq357) (fun hhq361=>?_);clear hK K
    try simp only [Act.put,Yaa,Yab,Yac]
    have b47q358:Bs .u8 wq354 vq353 (TBS T tn):=Bs.of_own owq355;have nq359:=NoCap.of_own owq355;have b43q360:=Bs.past b43q214 oq356;clear owq355;refine wpAnyH_ready (rs:=[0,12]) (by kernel_rfl) (by simp) ?_;refine (AllReadyH.cons (o:=o7mi) rfl (fun K hK=>?_) (AllReadyH.cons (o:=o1mi) rfl (fun K hK=>?_) AllReadyH.nil))
    ·rw [if_pos (by rfl)]
     refine Qjr rfl ?_;have cq362:=Only.alloc cq357 (.cells #[.int .u8 67,.int .u8 83,.int .u8 75,.int .u8 49] 5);refine hK.out _ _ (keep4 hS3 cq362) (fun hhq367=>?_);clear hK K
     try simp only [Act.put,Yaa,Yab,Yac]
     have gq364:=Only.size cq357;have hq363:=heap_alloc_new wq354 (.cells #[.int .u8 67,.int .u8 83,.int .u8 75,.int .u8 49] 5);have b43q365:=Bs.past b43q360 ((Only.refl (fun _=>False) wq354).alloc (.cells #[.int .u8 67,.int .u8 83,.int .u8 75,.int .u8 49] 5));have b47q366:=Bs.past b47q358 ((Only.refl (fun _=>False) wq354).alloc (.cells #[.int .u8 67,.int .u8 83,.int .u8 75,.int .u8 49] 5));refine wpAnyH_ready (rs:=[1,12]) (by kernel_rfl) (by simp) ?_;refine (AllReadyH.cons (o:=o0mi) rfl (fun K hK=>?_) (AllReadyH.cons (o:=o1mi) rfl (fun K hK=>?_) AllReadyH.nil))
     ·rw [if_pos (by rfl)]
      refine QbM (.tmp 39) rfl w3 rfl hq363 gq364 cq362 ?_;intro wfq368 cq369 b40q370 kzq371;refine hK.out _ _ (keep4 hS3 cq369) (fun hhq374=>?_);clear hK K
      try simp only [Act.put,Yaa,Yab,Yac]
      have b43q372:=kzq371 _ _ b43q365;have b47q373:=kzq371 _ _ b47q366;refine wpAnyH_ready (rs:=[12]) (by kernel_rfl) (by simp) ?_;refine (AllReadyH.cons (o:=o1mi) rfl (fun K hK=>?_) AllReadyH.nil)
      ·rw [if_pos (by rfl)]
       refine Qai 78 #[.tmp 49,.tmp 50] #[40,112] rfl Qbh #[.slice ao n cap,.map (some w2.heap.size)] (by kernel_rfl) (EB.out _ cq369) ?_;rintro vq375 wq376 ⟨owq377,oq378⟩;have cq379:=Only.same cq369 oq378;refine hK.out _ _ (keep4 hS3 cq379) (fun hhq385=>?_);clear hK K
       try simp only [Act.put,Yaa,Yab,Yac]
       have b51q380:Bs .u8 wq376 vq375 (EBS T E n):=Bs.of_own owq377;have nq381:=NoCap.of_own owq377;have b40q382:=Bs.past b40q370 oq378;have b43q383:=Bs.past b43q372 oq378;have b47q384:=Bs.past b47q373 oq378;clear owq377;obtain ⟨azq386,czq387,ezq388⟩:=Bs.len b43q383;subst ezq388;obtain ⟨azq389,czq390,ezq391⟩:=Bs.len b47q384;subst ezq391;obtain ⟨azq392,czq393,ezq394⟩:=Bs.len b51q380;subst ezq394;refine wpAnyH_ready (rs:=[15]) (by kernel_rfl) (by simp) ?_;refine (AllReadyH.cons (o:=o2mi) rfl (fun K hK=>?_) AllReadyH.nil);rw [if_pos (by rfl)];refine QcQ rfl rfl rfl rfl rfl rfl rfl ?_;refine hK.out _ _ (keep4 hS3 (Only.alloc cq379 _)) (fun hhq401=>?_);clear hK K
       try simp only [Act.put,Yaa,Yab,Yac]
       refine wpAnyH_ready (rs:=[16]) (by kernel_rfl) (by simp) ?_;refine (AllReadyH.cons (o:=o3mi) rfl (fun K hK=>?_) AllReadyH.nil);rw [if_pos (by rfl)];refine Qai 25 #[.tmp 54] #[43] rfl Qbg #[.slice (some ⟨wq376.heap.size,0,none⟩) 6 6] (by kernel_rfl) (QaK (heap_alloc_new wq376 _) (Bs.past b40q382 ((Only.refl _ _).alloc _)) (Bs.past b43q383 ((Only.refl _ _).alloc _)) (HP3.out.past (Only.alloc cq379 _)) (Bs.past b47q384 ((Only.refl _ _).alloc _)) (Bs.past b51q380 ((Only.refl _ _).alloc _)) (HR3.out.past (Only.alloc cq379 _)) (NoCap.some _ _ _) nq215 np nq359 nq381 nr (by simp [MHD]) HLL.out) ?_;rintro vcq397 wzq398 ⟨owzq400,ozq399⟩;have ccq396:=Only.same (Only.alloc cq379 _) ozq399;refine hK.out _ _ (keep4 hS3 ccq396) (fun hhq402=>?_);clear hK K
       try simp only [Act.put,Yaa,Yab,Yac]
       refine wpAnyH_take (i:=17) (oi:=o4mi) (v:=?tvq403) rfl (by kernel_rfl) (by kernel_rfl) (by kernel_rfl) (fun _ _ _ h=>h) (Or.inl ⟨by rfl,?thq403⟩) hhq402 ?trq403
       case thq403=>(intro w hSw;(try dsimp only at hSw);go_simp;try with_reducible rfl)
       try simp only [Act.put,Yaa,Yab,Yac]
       refine wpAnyH_take (i:=18) (oi:=o5mi) (v:=?tvq404) rfl (by kernel_rfl) (by kernel_rfl) (by kernel_rfl) (fun _ _ _ h=>h) (Or.inl ⟨by rfl,?thq404⟩) hhq402 ?trq404
       case thq404=>(intro w hSw;(try dsimp only at hSw);go_simp;try with_reducible rfl)
       try simp only [Act.put,Yaa,Yab,Yac]
       refine wpAnyH_done (by kernel_rfl) ?_ _;have FZ:=Qaa (And.intro (Qaf owzq400 (Nat.le_trans O3.out.size (Only.size (Only.alloc cq379 _)))) (Only.same O3.out ccq396));rw [HTN.out] at FZ;clear hH0;go_wp2;go_ret2;exact ⟨vcq397,rfl,FZ.out⟩
     ·rw [if_pos (by rfl)]
      refine Qai 78 #[.tmp 49,.tmp 50] #[40,112] rfl Qbh #[.slice ao n cap,.map (some w2.heap.size)] (by kernel_rfl) (EB.out _ cq362) ?_;rintro vq405 wq406 ⟨owq407,oq408⟩;have cq409:=Only.same cq362 oq408;refine hK.out _ _ (keep4 hS3 cq409) (fun hhq415=>?_);clear hK K
      try simp only [Act.put,Yaa,Yab,Yac]
      have b51q410:Bs .u8 wq406 vq405 (EBS T E n):=Bs.of_own owq407;have nq411:=NoCap.of_own owq407;have b43q412:=Bs.past b43q365 oq408;have b47q413:=Bs.past b47q366 oq408;have hq414:=Only.heap oq408 hq363 (fun f=>f);clear owq407;refine wpAnyH_ready (rs:=[1]) (by kernel_rfl) (by simp) ?_;refine (AllReadyH.cons (o:=o0mi) rfl (fun K hK=>?_) AllReadyH.nil)
      ·rw [if_pos (by rfl)]
       refine QbM (.tmp 39) rfl w3 rfl hq414 gq364 cq409 ?_;intro wfq416 cq417 b40q418 kzq419;refine hK.out _ _ (keep4 hS3 cq417) (fun hhq423=>?_);clear hK K
       try simp only [Act.put,Yaa,Yab,Yac]
       have b43q420:=kzq419 _ _ b43q412;have b47q421:=kzq419 _ _ b47q413;have b51q422:=kzq419 _ _ b51q410;obtain ⟨azq424,czq425,ezq426⟩:=Bs.len b43q420;subst ezq426;obtain ⟨azq427,czq428,ezq429⟩:=Bs.len b47q421;subst ezq429;obtain ⟨azq430,czq431,ezq432⟩:=Bs.len b51q422;subst ezq432;refine wpAnyH_ready (rs:=[15]) (by kernel_rfl) (by simp) ?_;refine (AllReadyH.cons (o:=o2mi) rfl (fun K hK=>?_) AllReadyH.nil);rw [if_pos (by rfl)];refine QcQ rfl rfl rfl rfl rfl rfl rfl ?_;refine hK.out _ _ (keep4 hS3 (Only.alloc cq417 _)) (fun hhq439=>?_);clear hK K
       try simp only [Act.put,Yaa,Yab,Yac]
       refine wpAnyH_ready (rs:=[16]) (by kernel_rfl) (by simp) ?_;refine (AllReadyH.cons (o:=o3mi) rfl (fun K hK=>?_) AllReadyH.nil);rw [if_pos (by rfl)];refine Qai 25 #[.tmp 54] #[43] rfl Qbg #[.slice (some ⟨wfq416.heap.size,0,none⟩) 6 6] (by kernel_rfl) (QaK (heap_alloc_new wfq416 _) (Bs.past b40q418 ((Only.refl _ _).alloc _)) (Bs.past b43q420 ((Only.refl _ _).alloc _)) (HP3.out.past (Only.alloc cq417 _)) (Bs.past b47q421 ((Only.refl _ _).alloc _)) (Bs.past b51q422 ((Only.refl _ _).alloc _)) (HR3.out.past (Only.alloc cq417 _)) (NoCap.some _ _ _) nq215 np nq359 nq411 nr (by simp [MHD]) HLL.out) ?_;rintro vcq435 wzq436 ⟨owzq438,ozq437⟩;have ccq434:=Only.same (Only.alloc cq417 _) ozq437;refine hK.out _ _ (keep4 hS3 ccq434) (fun hhq440=>?_);clear hK K
       try simp only [Act.put,Yaa,Yab,Yac]
       refine wpAnyH_take (i:=17) (oi:=o4mi) (v:=?tvq441) rfl (by kernel_rfl) (by kernel_rfl) (by kernel_rfl) (fun _ _ _ h=>h) (Or.inl ⟨by rfl,?thq441⟩) hhq440 ?trq441
       case thq441=>(intro w hSw;(try dsimp only at hSw);go_simp;try with_reducible rfl)
       try simp only [Act.put,Yaa,Yab,Yac]
       refine wpAnyH_take (i:=18) (oi:=o5mi) (v:=?tvq442) rfl (by kernel_rfl) (by kernel_rfl) (by kernel_rfl) (fun _ _ _ h=>h) (Or.inl ⟨by rfl,?thq442⟩) hhq440 ?trq442
       case thq442=>(intro w hSw;(try dsimp only at hSw);go_simp;try with_reducible rfl)
       try simp only [Act.put,Yaa,Yab,Yac]
       refine wpAnyH_done (by kernel_rfl) ?_ _;have FZ:=Qaa (And.intro (Qaf owzq438 (Nat.le_trans O3.out.size (Only.size (Only.alloc cq417 _)))) (Only.same O3.out ccq434));rw [HTN.out] at FZ;clear hH0;go_wp2;go_ret2;exact ⟨vcq435,rfl,FZ.out⟩
    ·rw [if_pos (by rfl)]
     refine Qai 78 #[.tmp 49,.tmp 50] #[40,112] rfl Qbh #[.slice ao n cap,.map (some w2.heap.size)] (by kernel_rfl) (EB.out _ cq357) ?_;rintro vq443 wq444 ⟨owq445,oq446⟩;have cq447:=Only.same cq357 oq446;refine hK.out _ _ (keep4 hS3 cq447) (fun hhq452=>?_);clear hK K
     try simp only [Act.put,Yaa,Yab,Yac]
     have b51q448:Bs .u8 wq444 vq443 (EBS T E n):=Bs.of_own owq445;have nq449:=NoCap.of_own owq445;have b43q450:=Bs.past b43q360 oq446;have b47q451:=Bs.past b47q358 oq446;clear owq445;refine wpAnyH_ready (rs:=[0]) (by kernel_rfl) (by simp) ?_;refine (AllReadyH.cons (o:=o7mi) rfl (fun K hK=>?_) AllReadyH.nil)
     ·rw [if_pos (by rfl)]
      refine Qjr rfl ?_;have cq453:=Only.alloc cq447 (.cells #[.int .u8 67,.int .u8 83,.int .u8 75,.int .u8 49] 5);refine hK.out _ _ (keep4 hS3 cq453) (fun hhq459=>?_);clear hK K
      try simp only [Act.put,Yaa,Yab,Yac]
      have gq455:=Only.size cq447;have hq454:=heap_alloc_new wq444 (.cells #[.int .u8 67,.int .u8 83,.int .u8 75,.int .u8 49] 5);have b43q456:=Bs.past b43q450 ((Only.refl (fun _=>False) wq444).alloc (.cells #[.int .u8 67,.int .u8 83,.int .u8 75,.int .u8 49] 5));have b47q457:=Bs.past b47q451 ((Only.refl (fun _=>False) wq444).alloc (.cells #[.int .u8 67,.int .u8 83,.int .u8 75,.int .u8 49] 5));have b51q458:=Bs.past b51q448 ((Only.refl (fun _=>False) wq444).alloc (.cells #[.int .u8 67,.int .u8 83,.int .u8 75,.int .u8 49] 5));refine wpAnyH_ready (rs:=[1]) (by kernel_rfl) (by simp) ?_;refine (AllReadyH.cons (o:=o0mi) rfl (fun K hK=>?_) AllReadyH.nil)
      ·rw [if_pos (by rfl)]
       refine QbM (.tmp 39) rfl w3 rfl hq454 gq455 cq453 ?_;intro wfq460 cq461 b40q462 kzq463;refine hK.out _ _ (keep4 hS3 cq461) (fun hhq467=>?_);clear hK K
       try simp only [Act.put,Yaa,Yab,Yac]
       have b43q464:=kzq463 _ _ b43q456;have b47q465:=kzq463 _ _ b47q457;have b51q466:=kzq463 _ _ b51q458;obtain ⟨azq468,czq469,ezq470⟩:=Bs.len b43q464;subst ezq470;obtain ⟨azq471,czq472,ezq473⟩:=Bs.len b47q465;subst ezq473;obtain ⟨azq474,czq475,ezq476⟩:=Bs.len b51q466;subst ezq476;refine wpAnyH_ready (rs:=[15]) (by kernel_rfl) (by simp) ?_;refine (AllReadyH.cons (o:=o2mi) rfl (fun K hK=>?_) AllReadyH.nil);rw [if_pos (by rfl)];refine QcQ rfl rfl rfl rfl rfl rfl rfl ?_;refine hK.out _ _ (keep4 hS3 (Only.alloc cq461 _)) (fun hhq483=>?_);clear hK K
       try simp only [Act.put,Yaa,Yab,Yac]
       refine wpAnyH_ready (rs:=[16]) (by kernel_rfl) (by simp) ?_;refine (AllReadyH.cons (o:=o3mi) rfl (fun K hK=>?_) AllReadyH.nil);rw [if_pos (by rfl)];refine Qai 25 #[.tmp 54] #[43] rfl Qbg #[.slice (some ⟨wfq460.heap.size,0,none⟩) 6 6] (by kernel_rfl) (QaK (heap_alloc_new wfq460 _) (Bs.past b40q462 ((Only.refl _ _).alloc _)) (Bs.past b43q464 ((Only.refl _ _).alloc _)) (HP3.out.past (Only.alloc cq461 _)) (Bs.past b47q465 ((Only.refl _ _).alloc _)) (Bs.past b51q466 ((Only.refl _ _).alloc _)) (HR3.out.past (Only.alloc cq461 _)) (NoCap.some _ _ _) nq215 np nq359 nq449 nr (by simp [MHD]) HLL.out) ?_;rintro vcq479 wzq480 ⟨owzq482,ozq481⟩;have ccq478:=Only.same (Only.alloc cq461 _) ozq481;refine hK.out _ _ (keep4 hS3 ccq478) (fun hhq484=>?_);clear hK K
       try simp only [Act.put,Yaa,Yab,Yac]
       refine wpAnyH_take (i:=17) (oi:=o4mi) (v:=?tvq485) rfl (by kernel_rfl) (by kernel_rfl) (by kernel_rfl) (fun _ _ _ h=>h) (Or.inl ⟨by rfl,?thq485⟩) hhq484 ?trq485
       case thq485=>(intro w hSw;(try dsimp only at hSw);go_simp;try with_reducible rfl)
       try simp only [Act.put,Yaa,Yab,Yac]
       refine wpAnyH_take (i:=18) (oi:=o5mi) (v:=?tvq486) rfl (by kernel_rfl) (by kernel_rfl) (by kernel_rfl) (fun _ _ _ h=>h) (Or.inl ⟨by rfl,?thq486⟩) hhq484 ?trq486
       case thq486=>(intro w hSw;(try dsimp only at hSw);go_simp;try with_reducible rfl)
       try simp only [Act.put,Yaa,Yab,Yac]
       refine wpAnyH_done (by kernel_rfl) ?_ _;have FZ:=Qaa (And.intro (Qaf owzq482 (Nat.le_trans O3.out.size (Only.size (Only.alloc cq461 _)))) (Only.same O3.out ccq478));rw [HTN.out] at FZ;clear hH0;go_wp2;go_ret2;exact ⟨vcq479,rfl,FZ.out⟩
theorem Qfg (x vp ve vr:Value) (m:MAN) (w:World) (h:Mf w x m vp ve vr) (hk:Mok m) (np:NoCap vp) (nr:NoCap vr) (hm63:m.es.length≤9223372036854775806) :
  Calls prog 46 #[x] w fun e w'=>∃u,e=.returned (.tuple #[u,.int .i64 (MEr m)])∧w'.ownsRow w.heap.size 5 1 u (MEt m).length ((MEt m).map (Value.int .u8))∧Only (fun _=>False) w w':=by
 by_cases e1:MEr m=0
 ·have e2:MEt m=MENC m:=by unfold MEt;rw [if_pos e1]
  rw [e1,e2];exact QmG x vp ve vr m w h hk np nr hm63 e1
 ·exact Qkv x vp ve vr m w h hk np nr hm63 e1
end
end Go.Proofs.YtnhapmboienipaaGreatDoor
