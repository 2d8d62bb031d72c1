import Derived.Test.YtnhapmboienipaaGreatDoorY22
import Derived.Test.YtnhapmboienipaaGreatDoorY5
import Derived.Deep.RegionWith
namespace Go.Proofs.YtnhapmboienipaaGreatDoor
set_option maxHeartbeats 1600000
set_option maxRecDepth 100000
open Go.RowKit _root_.Go.Proofs.Tryz
section
set_option linter.unusedSimpArgs false
theorem Qtb {T G:Prop} (h:T→G) (t:T):G:=h t
theorem Qap {P:Program} {md:Region.Mode} {ops:Array Oper} {Q:Exit→Act→World→Prop} {n:Nat} {l l':Array Bool} {a:Act} {w:World} (e:l=l') (h:wpAny P md ops Q n l' a w):wpAny P md ops Q n l a w:=by rw [e];exact h
theorem Qqe (g i j k l a b c d qa qb qc qd:Nat) (w:World)
  (hi:(i:Int)<16) (hj:(j:Int)<16) (hk:(k:Int)<16) (hl:(l:Int)<16) (hi0:(0:Int)≤i) (hj0:(0:Int)≤j) (hk0:(0:Int)≤k) (hl0:(0:Int)≤l)
  (QA:Hid (∀W:World,Calls prog 201 #[.int .u32 a,.int .u32 b,.int .u32 c,.int .u32 d] W fun e w'=>e=.returned (.tuple #[.int .u32 (qa:Nat),.int .u32 (qb:Nat),.int .u32 (qc:Nat),.int .u32 (qd:Nat)])∧W=w'))
  (ci:w.cell? ⟨g,i,none⟩=some (.int .u32 a)) (cj:w.cell? ⟨g,j,none⟩=some (.int .u32 b)) (ck:w.cell? ⟨g,k,none⟩=some (.int .u32 c)) (cl:w.cell? ⟨g,l,none⟩=some (.int .u32 d))
  (nij:¬i=j) (nik:¬i=k) (nil:¬i=l) (njk:¬j=k) (njl:¬j=l) (nkl:¬k=l)
  (fi:∀n,w.frozen? ⟨g,n,none⟩=false) :
  Calls prog 200 #[.int .i64 i,.int .i64 j,.int .i64 k,.int .i64 l,.pointer (some ⟨g,0,none⟩)] w fun e w'=>e=.returned (.tuple #[])∧w'=((((w.drew.setCell ⟨g,i,none⟩ (.int .u32 qa)).setCell ⟨g,j,none⟩ (.int .u32 qb)).setCell ⟨g,k,none⟩ (.int .u32 qc)).setCell ⟨g,l,none⟩ (.int .u32 qd)):=by
 have f0:=fi i;have f1:=fi j;have f2:=fi k;have f3:=fi l;clear fi;go_enter func200,ntmps200;refine wp_region_any (by kernel_rfl) ?_
 change wpAny _ _ _ _ _ _ _ (World.drew _)
 refine wpAny_take (i:=0) (v:=?v0) rfl (by kernel_rfl) (by kernel_rfl) (by kernel_rfl) (fun _ _ _ h=>h) (Or.inl ⟨by rfl,?h0⟩) ?r0
 case h0=>(intro w;go_simp;try with_reducible rfl)
 try simp only [Act.put,Yaa,Yab,Yac]
 refine wpAny_take (i:=1) (v:=?v1) rfl (by kernel_rfl) (by kernel_rfl) (by kernel_rfl) (fun _ _ _ h=>h) (Or.inl ⟨by rfl,?h1⟩) ?r1
 case h1=>(intro w;go_simp;try with_reducible rfl)
 try simp only [Act.put,Yaa,Yab,Yac]
 refine wpAny_take (i:=2) (v:=?v2) rfl (by kernel_rfl) (by kernel_rfl) (by kernel_rfl) (fun _ _ _ h=>h) (Or.inl ⟨by rfl,?h2⟩) ?r2
 case h2=>(intro w;go_simp;try with_reducible rfl)
 try simp only [Act.put,Yaa,Yab,Yac]
 refine wpAny_take (i:=3) (v:=?v3) rfl (by kernel_rfl) (by kernel_rfl) (by kernel_rfl) (fun _ _ _ h=>h) (Or.inl ⟨by rfl,?h3⟩) ?r3
 case h3=>(intro w;go_simp;try with_reducible rfl)
 try simp only [Act.put,Yaa,Yab,Yac]
 refine wpAny_take (i:=4) (v:=?v4) rfl (by kernel_rfl) (by kernel_rfl) (by kernel_rfl) (fun _ _ _ h=>h) (Or.inl ⟨by rfl,?h4⟩) ?r4
 case h4=>(intro w;go_simp;try with_reducible rfl)
 try simp only [Act.put,Yaa,Yab,Yac]
 refine wpAny_take (i:=5) (v:=?v5) rfl (by kernel_rfl) (by kernel_rfl) (by kernel_rfl) (fun _ _ _ h=>h) (Or.inl ⟨by rfl,?h5⟩) ?r5
 case h5=>(intro w;go_simp;try with_reducible rfl)
 try simp only [Act.put,Yaa,Yab,Yac]
 refine wpAny_take (i:=7) (v:=?v7) rfl (by kernel_rfl) (by kernel_rfl) (by kernel_rfl) (fun _ _ _ h=>h) (Or.inl ⟨by rfl,?h7⟩) ?r7
 case h7=>(intro w;go_simp;try with_reducible rfl)
 try simp only [Act.put,Yaa,Yab,Yac]
 refine wpAny_take (i:=8) (v:=?v8) rfl (by kernel_rfl) (by kernel_rfl) (by kernel_rfl) (fun _ _ _ h=>h) (Or.inl ⟨by rfl,?h8⟩) ?r8
 case h8=>(intro w;go_simp;try with_reducible rfl)
 try simp only [Act.put,Yaa,Yab,Yac]
 refine wpAny_take (i:=10) (v:=?v10) rfl (by kernel_rfl) (by kernel_rfl) (by kernel_rfl) (fun _ _ _ h=>h) (Or.inl ⟨by rfl,?h10⟩) ?r10
 case h10=>(intro w;go_simp;try with_reducible rfl)
 try simp only [Act.put,Yaa,Yab,Yac]
 refine wpAny_take (i:=11) (v:=?v11) rfl (by kernel_rfl) (by kernel_rfl) (by kernel_rfl) (fun _ _ _ h=>h) (Or.inl ⟨by rfl,?h11⟩) ?r11
 case h11=>(intro w;go_simp;try with_reducible rfl)
 try simp only [Act.put,Yaa,Yab,Yac]
 refine wpAny_take (i:=13) (v:=?v13) rfl (by kernel_rfl) (by kernel_rfl) (by kernel_rfl) (fun _ _ _ h=>h) (Or.inl ⟨by rfl,?h13⟩) ?r13
 case h13=>(intro w;go_simp;try with_reducible rfl)
 try simp only [Act.put,Yaa,Yab,Yac]
 refine wpAny_take (i:=14) (v:=?v14) rfl (by kernel_rfl) (by kernel_rfl) (by kernel_rfl) (fun _ _ _ h=>h) (Or.inl ⟨by rfl,?h14⟩) ?r14
 case h14=>(intro w;go_simp;try with_reducible rfl)
 try simp only [Act.put,Yaa,Yab,Yac]
 refine Qtb (T:=?T) (fun REST=>?main) ?rest
 case main =>
  refine wpAny_ready (rs:=[6,9,12,15]) (by kernel_rfl) (by simp) ?_;refine AllReady.cons rfl (fun K hK=>?_) (AllReady.cons rfl (fun K hK=>?_) (AllReady.cons rfl (fun K hK=>?_) (AllReady.cons rfl (fun K hK=>?_) AllReady.nil)))
  ·rw [if_pos (by rfl)]
   go_simp
   refine hK _ _ ?_;clear hK K
   try simp only [Act.put,Yaa,Yab,Yac]
   refine wpAny_ready (rs:=[9,12,15]) (by kernel_rfl) (by simp) ?_;refine AllReady.cons rfl (fun K hK=>?_) (AllReady.cons rfl (fun K hK=>?_) (AllReady.cons rfl (fun K hK=>?_) AllReady.nil))
   ·rw [if_pos (by rfl)]
    go_simp
    refine hK _ _ ?_;clear hK K
    try simp only [Act.put,Yaa,Yab,Yac]
    refine wpAny_ready (rs:=[12,15]) (by kernel_rfl) (by simp) ?_;refine AllReady.cons rfl (fun K hK=>?_) (AllReady.cons rfl (fun K hK=>?_) AllReady.nil)
    ·rw [if_pos (by rfl)]
     go_simp
     refine hK _ _ ?_;clear hK K
     try simp only [Act.put,Yaa,Yab,Yac]
     refine wpAny_ready (rs:=[15]) (by kernel_rfl) (by simp) ?_;refine AllReady.cons rfl (fun K hK=>?_) AllReady.nil;rw [if_pos (by rfl)]
     go_simp
     refine hK _ _ ?_;clear hK K
     try simp only [Act.put,Yaa,Yab,Yac]
     refine Qap (l':=#[true,true,true,true,true,true,true,true,true,true,true,true,true,true,true,true,false,false,false,false,false,false,false,false,false,false,false,false,false,false]) (by kernel_rfl) ?_;exact REST
    ·rw [if_pos (by rfl)]
     go_simp
     refine hK _ _ ?_;clear hK K
     try simp only [Act.put,Yaa,Yab,Yac]
     refine wpAny_ready (rs:=[12]) (by kernel_rfl) (by simp) ?_;refine AllReady.cons rfl (fun K hK=>?_) AllReady.nil;rw [if_pos (by rfl)]
     go_simp
     refine hK _ _ ?_;clear hK K
     try simp only [Act.put,Yaa,Yab,Yac]
     refine Qap (l':=#[true,true,true,true,true,true,true,true,true,true,true,true,true,true,true,true,false,false,false,false,false,false,false,false,false,false,false,false,false,false]) (by kernel_rfl) ?_;exact REST
   ·rw [if_pos (by rfl)]
    go_simp
    refine hK _ _ ?_;clear hK K
    try simp only [Act.put,Yaa,Yab,Yac]
    refine wpAny_ready (rs:=[9,15]) (by kernel_rfl) (by simp) ?_;refine AllReady.cons rfl (fun K hK=>?_) (AllReady.cons rfl (fun K hK=>?_) AllReady.nil)
    ·rw [if_pos (by rfl)]
     go_simp
     refine hK _ _ ?_;clear hK K
     try simp only [Act.put,Yaa,Yab,Yac]
     refine wpAny_ready (rs:=[15]) (by kernel_rfl) (by simp) ?_;refine AllReady.cons rfl (fun K hK=>?_) AllReady.nil;rw [if_pos (by rfl)]
     go_simp
     refine hK _ _ ?_;clear hK K
     try simp only [Act.put,Yaa,Yab,Yac]
     refine Qap (l':=#[true,true,true,true,true,true,true,true,true,true,true,true,true,true,true,true,false,false,false,false,false,false,false,false,false,false,false,false,false,false]) (by kernel_rfl) ?_;exact REST
    ·rw [if_pos (by rfl)]
     go_simp
     refine hK _ _ ?_;clear hK K
     try simp only [Act.put,Yaa,Yab,Yac]
     refine wpAny_ready (rs:=[9]) (by kernel_rfl) (by simp) ?_;refine AllReady.cons rfl (fun K hK=>?_) AllReady.nil;rw [if_pos (by rfl)]
     go_simp
     refine hK _ _ ?_;clear hK K
     try simp only [Act.put,Yaa,Yab,Yac]
     refine Qap (l':=#[true,true,true,true,true,true,true,true,true,true,true,true,true,true,true,true,false,false,false,false,false,false,false,false,false,false,false,false,false,false]) (by kernel_rfl) ?_;exact REST
   ·rw [if_pos (by rfl)]
    go_simp
    refine hK _ _ ?_;clear hK K
    try simp only [Act.put,Yaa,Yab,Yac]
    refine wpAny_ready (rs:=[9,12]) (by kernel_rfl) (by simp) ?_;refine AllReady.cons rfl (fun K hK=>?_) (AllReady.cons rfl (fun K hK=>?_) AllReady.nil)
    ·rw [if_pos (by rfl)]
     go_simp
     refine hK _ _ ?_;clear hK K
     try simp only [Act.put,Yaa,Yab,Yac]
     refine wpAny_ready (rs:=[12]) (by kernel_rfl) (by simp) ?_;refine AllReady.cons rfl (fun K hK=>?_) AllReady.nil;rw [if_pos (by rfl)]
     go_simp
     refine hK _ _ ?_;clear hK K
     try simp only [Act.put,Yaa,Yab,Yac]
     refine Qap (l':=#[true,true,true,true,true,true,true,true,true,true,true,true,true,true,true,true,false,false,false,false,false,false,false,false,false,false,false,false,false,false]) (by kernel_rfl) ?_;exact REST
    ·rw [if_pos (by rfl)]
     go_simp
     refine hK _ _ ?_;clear hK K
     try simp only [Act.put,Yaa,Yab,Yac]
     refine wpAny_ready (rs:=[9]) (by kernel_rfl) (by simp) ?_;refine AllReady.cons rfl (fun K hK=>?_) AllReady.nil;rw [if_pos (by rfl)]
     go_simp
     refine hK _ _ ?_;clear hK K
     try simp only [Act.put,Yaa,Yab,Yac]
     refine Qap (l':=#[true,true,true,true,true,true,true,true,true,true,true,true,true,true,true,true,false,false,false,false,false,false,false,false,false,false,false,false,false,false]) (by kernel_rfl) ?_;exact REST
  ·rw [if_pos (by rfl)]
   go_simp
   refine hK _ _ ?_;clear hK K
   try simp only [Act.put,Yaa,Yab,Yac]
   refine wpAny_ready (rs:=[6,12,15]) (by kernel_rfl) (by simp) ?_;refine AllReady.cons rfl (fun K hK=>?_) (AllReady.cons rfl (fun K hK=>?_) (AllReady.cons rfl (fun K hK=>?_) AllReady.nil))
   ·rw [if_pos (by rfl)]
    go_simp
    refine hK _ _ ?_;clear hK K
    try simp only [Act.put,Yaa,Yab,Yac]
    refine wpAny_ready (rs:=[12,15]) (by kernel_rfl) (by simp) ?_;refine AllReady.cons rfl (fun K hK=>?_) (AllReady.cons rfl (fun K hK=>?_) AllReady.nil)
    ·rw [if_pos (by rfl)]
     go_simp
     refine hK _ _ ?_;clear hK K
     try simp only [Act.put,Yaa,Yab,Yac]
     refine wpAny_ready (rs:=[15]) (by kernel_rfl) (by simp) ?_;refine AllReady.cons rfl (fun K hK=>?_) AllReady.nil;rw [if_pos (by rfl)]
     go_simp
     refine hK _ _ ?_;clear hK K
     try simp only [Act.put,Yaa,Yab,Yac]
     refine Qap (l':=#[true,true,true,true,true,true,true,true,true,true,true,true,true,true,true,true,false,false,false,false,false,false,false,false,false,false,false,false,false,false]) (by kernel_rfl) ?_;exact REST
    ·rw [if_pos (by rfl)]
     go_simp
     refine hK _ _ ?_;clear hK K
     try simp only [Act.put,Yaa,Yab,Yac]
     refine wpAny_ready (rs:=[12]) (by kernel_rfl) (by simp) ?_;refine AllReady.cons rfl (fun K hK=>?_) AllReady.nil;rw [if_pos (by rfl)]
     go_simp
     refine hK _ _ ?_;clear hK K
     try simp only [Act.put,Yaa,Yab,Yac]
     refine Qap (l':=#[true,true,true,true,true,true,true,true,true,true,true,true,true,true,true,true,false,false,false,false,false,false,false,false,false,false,false,false,false,false]) (by kernel_rfl) ?_;exact REST
   ·rw [if_pos (by rfl)]
    go_simp
    refine hK _ _ ?_;clear hK K
    try simp only [Act.put,Yaa,Yab,Yac]
    refine wpAny_ready (rs:=[6,15]) (by kernel_rfl) (by simp) ?_;refine AllReady.cons rfl (fun K hK=>?_) (AllReady.cons rfl (fun K hK=>?_) AllReady.nil)
    ·rw [if_pos (by rfl)]
     go_simp
     refine hK _ _ ?_;clear hK K
     try simp only [Act.put,Yaa,Yab,Yac]
     refine wpAny_ready (rs:=[15]) (by kernel_rfl) (by simp) ?_;refine AllReady.cons rfl (fun K hK=>?_) AllReady.nil;rw [if_pos (by rfl)]
     go_simp
     refine hK _ _ ?_;clear hK K
     try simp only [Act.put,Yaa,Yab,Yac]
     refine Qap (l':=#[true,true,true,true,true,true,true,true,true,true,true,true,true,true,true,true,false,false,false,false,false,false,false,false,false,false,false,false,false,false]) (by kernel_rfl) ?_;exact REST
    ·rw [if_pos (by rfl)]
     go_simp
     refine hK _ _ ?_;clear hK K
     try simp only [Act.put,Yaa,Yab,Yac]
     refine wpAny_ready (rs:=[6]) (by kernel_rfl) (by simp) ?_;refine AllReady.cons rfl (fun K hK=>?_) AllReady.nil;rw [if_pos (by rfl)]
     go_simp
     refine hK _ _ ?_;clear hK K
     try simp only [Act.put,Yaa,Yab,Yac]
     refine Qap (l':=#[true,true,true,true,true,true,true,true,true,true,true,true,true,true,true,true,false,false,false,false,false,false,false,false,false,false,false,false,false,false]) (by kernel_rfl) ?_;exact REST
   ·rw [if_pos (by rfl)]
    go_simp
    refine hK _ _ ?_;clear hK K
    try simp only [Act.put,Yaa,Yab,Yac]
    refine wpAny_ready (rs:=[6,12]) (by kernel_rfl) (by simp) ?_;refine AllReady.cons rfl (fun K hK=>?_) (AllReady.cons rfl (fun K hK=>?_) AllReady.nil)
    ·rw [if_pos (by rfl)]
     go_simp
     refine hK _ _ ?_;clear hK K
     try simp only [Act.put,Yaa,Yab,Yac]
     refine wpAny_ready (rs:=[12]) (by kernel_rfl) (by simp) ?_;refine AllReady.cons rfl (fun K hK=>?_) AllReady.nil;rw [if_pos (by rfl)]
     go_simp
     refine hK _ _ ?_;clear hK K
     try simp only [Act.put,Yaa,Yab,Yac]
     refine Qap (l':=#[true,true,true,true,true,true,true,true,true,true,true,true,true,true,true,true,false,false,false,false,false,false,false,false,false,false,false,false,false,false]) (by kernel_rfl) ?_;exact REST
    ·rw [if_pos (by rfl)]
     go_simp
     refine hK _ _ ?_;clear hK K
     try simp only [Act.put,Yaa,Yab,Yac]
     refine wpAny_ready (rs:=[6]) (by kernel_rfl) (by simp) ?_;refine AllReady.cons rfl (fun K hK=>?_) AllReady.nil;rw [if_pos (by rfl)]
     go_simp
     refine hK _ _ ?_;clear hK K
     try simp only [Act.put,Yaa,Yab,Yac]
     refine Qap (l':=#[true,true,true,true,true,true,true,true,true,true,true,true,true,true,true,true,false,false,false,false,false,false,false,false,false,false,false,false,false,false]) (by kernel_rfl) ?_;exact REST
  ·rw [if_pos (by rfl)]
   go_simp
   refine hK _ _ ?_;clear hK K
   try simp only [Act.put,Yaa,Yab,Yac]
   refine wpAny_ready (rs:=[6,9,15]) (by kernel_rfl) (by simp) ?_;refine AllReady.cons rfl (fun K hK=>?_) (AllReady.cons rfl (fun K hK=>?_) (AllReady.cons rfl (fun K hK=>?_) AllReady.nil))
   ·rw [if_pos (by rfl)]
    go_simp
    refine hK _ _ ?_;clear hK K
    try simp only [Act.put,Yaa,Yab,Yac]
    refine wpAny_ready (rs:=[9,15]) (by kernel_rfl) (by simp) ?_;refine AllReady.cons rfl (fun K hK=>?_) (AllReady.cons rfl (fun K hK=>?_) AllReady.nil)
    ·rw [if_pos (by rfl)]
     go_simp
     refine hK _ _ ?_;clear hK K
     try simp only [Act.put,Yaa,Yab,Yac]
     refine wpAny_ready (rs:=[15]) (by kernel_rfl) (by simp) ?_;refine AllReady.cons rfl (fun K hK=>?_) AllReady.nil;rw [if_pos (by rfl)]
     go_simp
     refine hK _ _ ?_;clear hK K
     try simp only [Act.put,Yaa,Yab,Yac]
     refine Qap (l':=#[true,true,true,true,true,true,true,true,true,true,true,true,true,true,true,true,false,false,false,false,false,false,false,false,false,false,false,false,false,false]) (by kernel_rfl) ?_;exact REST
    ·rw [if_pos (by rfl)]
     go_simp
     refine hK _ _ ?_;clear hK K
     try simp only [Act.put,Yaa,Yab,Yac]
     refine wpAny_ready (rs:=[9]) (by kernel_rfl) (by simp) ?_;refine AllReady.cons rfl (fun K hK=>?_) AllReady.nil;rw [if_pos (by rfl)]
     go_simp
     refine hK _ _ ?_;clear hK K
     try simp only [Act.put,Yaa,Yab,Yac]
     refine Qap (l':=#[true,true,true,true,true,true,true,true,true,true,true,true,true,true,true,true,false,false,false,false,false,false,false,false,false,false,false,false,false,false]) (by kernel_rfl) ?_;exact REST
   ·rw [if_pos (by rfl)]
    go_simp
    refine hK _ _ ?_;clear hK K
    try simp only [Act.put,Yaa,Yab,Yac]
    refine wpAny_ready (rs:=[6,15]) (by kernel_rfl) (by simp) ?_;refine AllReady.cons rfl (fun K hK=>?_) (AllReady.cons rfl (fun K hK=>?_) AllReady.nil)
    ·rw [if_pos (by rfl)]
     go_simp
     refine hK _ _ ?_;clear hK K
     try simp only [Act.put,Yaa,Yab,Yac]
     refine wpAny_ready (rs:=[15]) (by kernel_rfl) (by simp) ?_;refine AllReady.cons rfl (fun K hK=>?_) AllReady.nil;rw [if_pos (by rfl)]
     go_simp
     refine hK _ _ ?_;clear hK K
     try simp only [Act.put,Yaa,Yab,Yac]
     refine Qap (l':=#[true,true,true,true,true,true,true,true,true,true,true,true,true,true,true,true,false,false,false,false,false,false,false,false,false,false,false,false,false,false]) (by kernel_rfl) ?_;exact REST
    ·rw [if_pos (by rfl)]
     go_simp
     refine hK _ _ ?_;clear hK K
     try simp only [Act.put,Yaa,Yab,Yac]
     refine wpAny_ready (rs:=[6]) (by kernel_rfl) (by simp) ?_;refine AllReady.cons rfl (fun K hK=>?_) AllReady.nil;rw [if_pos (by rfl)]
     go_simp
     refine hK _ _ ?_;clear hK K
     try simp only [Act.put,Yaa,Yab,Yac]
     refine Qap (l':=#[true,true,true,true,true,true,true,true,true,true,true,true,true,true,true,true,false,false,false,false,false,false,false,false,false,false,false,false,false,false]) (by kernel_rfl) ?_;exact REST
   ·rw [if_pos (by rfl)]
    go_simp
    refine hK _ _ ?_;clear hK K
    try simp only [Act.put,Yaa,Yab,Yac]
    refine wpAny_ready (rs:=[6,9]) (by kernel_rfl) (by simp) ?_;refine AllReady.cons rfl (fun K hK=>?_) (AllReady.cons rfl (fun K hK=>?_) AllReady.nil)
    ·rw [if_pos (by rfl)]
     go_simp
     refine hK _ _ ?_;clear hK K
     try simp only [Act.put,Yaa,Yab,Yac]
     refine wpAny_ready (rs:=[9]) (by kernel_rfl) (by simp) ?_;refine AllReady.cons rfl (fun K hK=>?_) AllReady.nil;rw [if_pos (by rfl)]
     go_simp
     refine hK _ _ ?_;clear hK K
     try simp only [Act.put,Yaa,Yab,Yac]
     refine Qap (l':=#[true,true,true,true,true,true,true,true,true,true,true,true,true,true,true,true,false,false,false,false,false,false,false,false,false,false,false,false,false,false]) (by kernel_rfl) ?_;exact REST
    ·rw [if_pos (by rfl)]
     go_simp
     refine hK _ _ ?_;clear hK K
     try simp only [Act.put,Yaa,Yab,Yac]
     refine wpAny_ready (rs:=[6]) (by kernel_rfl) (by simp) ?_;refine AllReady.cons rfl (fun K hK=>?_) AllReady.nil;rw [if_pos (by rfl)]
     go_simp
     refine hK _ _ ?_;clear hK K
     try simp only [Act.put,Yaa,Yab,Yac]
     refine Qap (l':=#[true,true,true,true,true,true,true,true,true,true,true,true,true,true,true,true,false,false,false,false,false,false,false,false,false,false,false,false,false,false]) (by kernel_rfl) ?_;exact REST
  ·rw [if_pos (by rfl)]
   go_simp
   refine hK _ _ ?_;clear hK K
   try simp only [Act.put,Yaa,Yab,Yac]
   refine wpAny_ready (rs:=[6,9,12]) (by kernel_rfl) (by simp) ?_;refine AllReady.cons rfl (fun K hK=>?_) (AllReady.cons rfl (fun K hK=>?_) (AllReady.cons rfl (fun K hK=>?_) AllReady.nil))
   ·rw [if_pos (by rfl)]
    go_simp
    refine hK _ _ ?_;clear hK K
    try simp only [Act.put,Yaa,Yab,Yac]
    refine wpAny_ready (rs:=[9,12]) (by kernel_rfl) (by simp) ?_;refine AllReady.cons rfl (fun K hK=>?_) (AllReady.cons rfl (fun K hK=>?_) AllReady.nil)
    ·rw [if_pos (by rfl)]
     go_simp
     refine hK _ _ ?_;clear hK K
     try simp only [Act.put,Yaa,Yab,Yac]
     refine wpAny_ready (rs:=[12]) (by kernel_rfl) (by simp) ?_;refine AllReady.cons rfl (fun K hK=>?_) AllReady.nil;rw [if_pos (by rfl)]
     go_simp
     refine hK _ _ ?_;clear hK K
     try simp only [Act.put,Yaa,Yab,Yac]
     refine Qap (l':=#[true,true,true,true,true,true,true,true,true,true,true,true,true,true,true,true,false,false,false,false,false,false,false,false,false,false,false,false,false,false]) (by kernel_rfl) ?_;exact REST
    ·rw [if_pos (by rfl)]
     go_simp
     refine hK _ _ ?_;clear hK K
     try simp only [Act.put,Yaa,Yab,Yac]
     refine wpAny_ready (rs:=[9]) (by kernel_rfl) (by simp) ?_;refine AllReady.cons rfl (fun K hK=>?_) AllReady.nil;rw [if_pos (by rfl)]
     go_simp
     refine hK _ _ ?_;clear hK K
     try simp only [Act.put,Yaa,Yab,Yac]
     refine Qap (l':=#[true,true,true,true,true,true,true,true,true,true,true,true,true,true,true,true,false,false,false,false,false,false,false,false,false,false,false,false,false,false]) (by kernel_rfl) ?_;exact REST
   ·rw [if_pos (by rfl)]
    go_simp
    refine hK _ _ ?_;clear hK K
    try simp only [Act.put,Yaa,Yab,Yac]
    refine wpAny_ready (rs:=[6,12]) (by kernel_rfl) (by simp) ?_;refine AllReady.cons rfl (fun K hK=>?_) (AllReady.cons rfl (fun K hK=>?_) AllReady.nil)
    ·rw [if_pos (by rfl)]
     go_simp
     refine hK _ _ ?_;clear hK K
     try simp only [Act.put,Yaa,Yab,Yac]
     refine wpAny_ready (rs:=[12]) (by kernel_rfl) (by simp) ?_;refine AllReady.cons rfl (fun K hK=>?_) AllReady.nil;rw [if_pos (by rfl)]
     go_simp
     refine hK _ _ ?_;clear hK K
     try simp only [Act.put,Yaa,Yab,Yac]
     refine Qap (l':=#[true,true,true,true,true,true,true,true,true,true,true,true,true,true,true,true,false,false,false,false,false,false,false,false,false,false,false,false,false,false]) (by kernel_rfl) ?_;exact REST
    ·rw [if_pos (by rfl)]
     go_simp
     refine hK _ _ ?_;clear hK K
     try simp only [Act.put,Yaa,Yab,Yac]
     refine wpAny_ready (rs:=[6]) (by kernel_rfl) (by simp) ?_;refine AllReady.cons rfl (fun K hK=>?_) AllReady.nil;rw [if_pos (by rfl)]
     go_simp
     refine hK _ _ ?_;clear hK K
     try simp only [Act.put,Yaa,Yab,Yac]
     refine Qap (l':=#[true,true,true,true,true,true,true,true,true,true,true,true,true,true,true,true,false,false,false,false,false,false,false,false,false,false,false,false,false,false]) (by kernel_rfl) ?_;exact REST
   ·rw [if_pos (by rfl)]
    go_simp
    refine hK _ _ ?_;clear hK K
    try simp only [Act.put,Yaa,Yab,Yac]
    refine wpAny_ready (rs:=[6,9]) (by kernel_rfl) (by simp) ?_;refine AllReady.cons rfl (fun K hK=>?_) (AllReady.cons rfl (fun K hK=>?_) AllReady.nil)
    ·rw [if_pos (by rfl)]
     go_simp
     refine hK _ _ ?_;clear hK K
     try simp only [Act.put,Yaa,Yab,Yac]
     refine wpAny_ready (rs:=[9]) (by kernel_rfl) (by simp) ?_;refine AllReady.cons rfl (fun K hK=>?_) AllReady.nil;rw [if_pos (by rfl)]
     go_simp
     refine hK _ _ ?_;clear hK K
     try simp only [Act.put,Yaa,Yab,Yac]
     refine Qap (l':=#[true,true,true,true,true,true,true,true,true,true,true,true,true,true,true,true,false,false,false,false,false,false,false,false,false,false,false,false,false,false]) (by kernel_rfl) ?_;exact REST
    ·rw [if_pos (by rfl)]
     go_simp
     refine hK _ _ ?_;clear hK K
     try simp only [Act.put,Yaa,Yab,Yac]
     refine wpAny_ready (rs:=[6]) (by kernel_rfl) (by simp) ?_;refine AllReady.cons rfl (fun K hK=>?_) AllReady.nil;rw [if_pos (by rfl)]
     go_simp
     refine hK _ _ ?_;clear hK K
     try simp only [Act.put,Yaa,Yab,Yac]
     refine Qap (l':=#[true,true,true,true,true,true,true,true,true,true,true,true,true,true,true,true,false,false,false,false,false,false,false,false,false,false,false,false,false,false]) (by kernel_rfl) ?_;exact REST
 case rest =>
  refine wpAny_ready (rs:=[16]) (by kernel_rfl) (by simp) ?_;refine AllReady.cons rfl (fun K hK=>?_) AllReady.nil
  go_simp
  go_wp2_with (go_at_call 201;refine (QA.out _).mono ?_;rintro e w2 ⟨rfl,rfl⟩);refine wpAny_take (i:=17) (v:=?v17) rfl (by kernel_rfl) (by kernel_rfl) (by kernel_rfl) (fun _ _ _ h=>h) (Or.inl ⟨by rfl,?h17⟩) ?r17
  case h17=>(intro w;go_simp;try with_reducible rfl)
  try simp only [Act.put,Yaa,Yab,Yac]
  refine wpAny_take (i:=18) (v:=?v18) rfl (by kernel_rfl) (by kernel_rfl) (by kernel_rfl) (fun _ _ _ h=>h) (Or.inl ⟨by rfl,?h18⟩) ?r18
  case h18=>(intro w;go_simp;try with_reducible rfl)
  try simp only [Act.put,Yaa,Yab,Yac]
  refine wpAny_take (i:=19) (v:=?v19) rfl (by kernel_rfl) (by kernel_rfl) (by kernel_rfl) (fun _ _ _ h=>h) (Or.inl ⟨by rfl,?h19⟩) ?r19
  case h19=>(intro w;go_simp;try with_reducible rfl)
  try simp only [Act.put,Yaa,Yab,Yac]
  refine wpAny_take (i:=20) (v:=?v20) rfl (by kernel_rfl) (by kernel_rfl) (by kernel_rfl) (fun _ _ _ h=>h) (Or.inl ⟨by rfl,?h20⟩) ?r20
  case h20=>(intro w;go_simp;try with_reducible rfl)
  try simp only [Act.put,Yaa,Yab,Yac]
  refine wpAny_take (i:=21) (v:=?v21) rfl (by kernel_rfl) (by kernel_rfl) (by kernel_rfl) (fun _ _ _ h=>h) (Or.inl ⟨by rfl,?h21⟩) ?r21
  case h21=>(intro w;go_simp;try with_reducible rfl)
  try simp only [Act.put,Yaa,Yab,Yac]
  refine wpAny_take (i:=22) (v:=?v22) rfl (by kernel_rfl) (by kernel_rfl) (by kernel_rfl) (fun _ _ _ h=>h) (Or.inl ⟨by rfl,?h22⟩) ?r22
  case h22=>(intro w;go_simp;try with_reducible rfl)
  try simp only [Act.put,Yaa,Yab,Yac]
  refine wpAny_ready (rs:=[23]) (by kernel_rfl) (by simp) ?_;refine AllReady.cons rfl (fun K hK=>?_) AllReady.nil;rw [if_pos (by rfl)]
  go_simp
  refine hK _ _ ?_;clear hK K;refine wpAny_take (i:=24) (v:=?v24) rfl (by kernel_rfl) (by kernel_rfl) (by kernel_rfl) (fun _ _ _ h=>h) (Or.inl ⟨by rfl,?h24⟩) ?r24
  case h24=>(intro w;go_simp;try with_reducible rfl)
  try simp only [Act.put,Yaa,Yab,Yac]
  refine wpAny_ready (rs:=[25]) (by kernel_rfl) (by simp) ?_;refine AllReady.cons rfl (fun K hK=>?_) AllReady.nil;rw [if_pos (by rfl)]
  go_simp
  refine hK _ _ ?_;clear hK K;refine wpAny_take (i:=26) (v:=?v26) rfl (by kernel_rfl) (by kernel_rfl) (by kernel_rfl) (fun _ _ _ h=>h) (Or.inl ⟨by rfl,?h26⟩) ?r26
  case h26=>(intro w;go_simp;try with_reducible rfl)
  try simp only [Act.put,Yaa,Yab,Yac]
  refine wpAny_ready (rs:=[27]) (by kernel_rfl) (by simp) ?_;refine AllReady.cons rfl (fun K hK=>?_) AllReady.nil;rw [if_pos (by rfl)]
  go_simp
  refine hK _ _ ?_;clear hK K;refine wpAny_take (i:=28) (v:=?v28) rfl (by kernel_rfl) (by kernel_rfl) (by kernel_rfl) (fun _ _ _ h=>h) (Or.inl ⟨by rfl,?h28⟩) ?r28
  case h28=>(intro w;go_simp;try with_reducible rfl)
  try simp only [Act.put,Yaa,Yab,Yac]
  refine wpAny_ready (rs:=[29]) (by kernel_rfl) (by simp) ?_;refine AllReady.cons rfl (fun K hK=>?_) AllReady.nil;rw [if_pos (by rfl)]
  go_simp
  refine hK _ _ ?_;clear hK K;refine wpAny_done (by kernel_rfl) ?_ _
  go_end0
  exact ⟨rfl,rfl⟩
end
theorem tclo (g:Nat) (s:List Nat) (hs:s.length=16) (h32:W32 s) (i j k l:Nat) (hi:i<16) (hj:j<16) (hk:k<16) (hl:l<16)
  (nij:¬i=j) (nik:¬i=k) (nil:¬i=l) (njk:¬j=k) (njl:¬j=l) (nkl:¬k=l) (w:World) (hb:Blk w g 183 (wl s)) :
  Calls prog 200 #[.int .i64 i,.int .i64 j,.int .i64 k,.int .i64 l,.pointer (some ⟨g,0,none⟩)] w fun e w'=>e=.returned (.tuple #[])∧Blk w' g 183 (wl (turnW s i j k l))∧Only (fun x=>x=g) w w':=by
 have hc:∀n,n<16→w.cell? ⟨g,n,none⟩=some (.int .u32 ((s.getD n 0:Nat):Int)):=fun n hn=>by rw [hb.cell,wl_at s n (by omega)]
 have QA:Hid (∀W:World,Calls prog 201 #[.int .u32 (s.getD i 0:Nat),.int .u32 (s.getD j 0:Nat),.int .u32 (s.getD k 0:Nat),.int .u32 (s.getD l 0:Nat)] W fun e w'=>e=.returned (q4v (qrt ⟨s.getD i 0,s.getD j 0,s.getD k 0,s.getD l 0⟩))∧W=w') :=
  fun W=>Qir _ _ _ _ W (h32.at i) (h32.at j) (h32.at k) (h32.at l)
 refine (Qqe g i j k l _ _ _ _ _ _ _ _ w (by omega) (by omega) (by omega) (by omega) (by omega) (by omega) (by omega) (by omega) QA (hc i hi) (hc j hj) (hc k hk) (hc l hl) nij nik nil njk njl nkl (fun n=>hb.froz n)).mono ?_;rintro e w' ⟨rfl,rfl⟩;refine ⟨rfl,?_,?_⟩
 ·have h:=(((hb.drew.set i (.int .u32 ((qrt ⟨s.getD i 0,s.getD j 0,s.getD k 0,s.getD l 0⟩).a:Nat))).set j (.int .u32 ((qrt ⟨s.getD i 0,s.getD j 0,s.getD k 0,s.getD l 0⟩).b:Nat))).set k (.int .u32 ((qrt ⟨s.getD i 0,s.getD j 0,s.getD k 0,s.getD l 0⟩).c:Nat))).set l (.int .u32 ((qrt ⟨s.getD i 0,s.getD j 0,s.getD k 0,s.getD l 0⟩).d:Nat))
  rw [QcN,QcN,QcN,QcN] at h;exact h
 ·exact (((((Only.refl (fun x=>x=g) w).drew).setCell (p:=⟨g,i,none⟩) (fun _=>rfl) _).setCell (p:=⟨g,j,none⟩) (fun _=>rfl) _).setCell (p:=⟨g,k,none⟩) (fun _=>rfl) _).setCell (p:=⟨g,l,none⟩) (fun _=>rfl) _
theorem Qqf (s:List Nat) (i j k l:Nat):turnP s (i,j,k,l)=turnW s i j k l:=rfl
theorem QkT {s0 s1 s2 s3 s4 s5 s6 s7 s8:List Nat} (h1:s1=turnW s0 0 4 8 12) (h2:s2=turnW s1 1 5 9 13) (h3:s3=turnW s2 2 6 10 14) (h4:s4=turnW s3 3 7 11 15) (h5:s5=turnW s4 0 5 10 15) (h6:s6=turnW s5 1 6 11 12) (h7:s7=turnW s6 2 7 8 13) (h8:s8=turnW s7 3 4 9 14):dblR s0=s8:=by
 rw [h8,h7,h6,h5,h4,h3,h2,h1];simp only [dblR,fours,List.foldl_cons,List.foldl_nil,Qqf]
theorem Tryz.size44:(prog.info? 183).map (·.size)=some 16:=by kernel_rfl
def zW:List Value:=wl (List.replicate 16 0)
theorem Tryz.zero44:(prog.info? 183).map (fun i=>(i.zero,i.size))=some (some (.agg zW.toArray),16):=by kernel_rfl
theorem QnN:zW.length=16:=rfl
theorem QkU (s:List Nat) (hs:s.length=16) (h32:W32 s) (w:World):Calls prog 170 #[.agg (wl s).toArray] w fun e w'=>e=.returned (.agg (wl (dbls 10 s)).toArray)∧Only (fun _=>False) w w':=by
 have hmf:∀(fn:Fn) (first cap:Array Value) (w:World),(Instr.makeFunc fn first cap).run prog w=.ok (.func fn first cap) w:=fun _ _ _ _=>rfl
 have hzv:=(zero_of_info (P:=prog) Tryz.zero44).1;obtain ⟨Z,hZ⟩:∃Z,Z=zW:=⟨_,rfl⟩;rw [←hZ] at hzv;have HZ:=Qaa hZ;obtain ⟨D,hD⟩:∃D,D=wl (dbls 10 s):=⟨_,rfl⟩
 have HZ1:Hid ((prog.info? 183).map (·.size)=some D.toArray.size):=by
  show _=_
  rw [hD];simp [Qaw,QdW,hs,Tryz.size44]
 have HZ2:Hid (Z.toArray.size=D.toArray.size):=by
  show _=_
  rw [hD,hZ];simp [Qaw,QdW,hs,QnN]
 have HA:Hid (D.toArray.all (·.oneCell')=true):=by
  show _=_
  rw [hD];exact Qb8 _
 rw [←hD];have HD:=Qaa hD;have HS:=Qaa (And.intro hs h32);obtain ⟨B,hB⟩:∃B,B=wl s:=⟨_,rfl⟩;have HB:=Qaa hB;rw [←hB];clear hZ hD hB hs h32;go_enter func170,ntmps170;go_wp2_with fail
 have S0:Hid (Blk ((w.alloc (.cells B.toArray 183)).alloc (.cells Z.toArray 183)) w.heap.size 183 (wl (dbls 0 s))):=by
  show Blk _ _ _ (wl s)
  rw [←HB.out];exact (Blk.new w 183 B).alloc _
 have R0:Hid (Blk ((w.alloc (.cells B.toArray 183)).alloc (.cells Z.toArray 183)) (w.heap.size+1) 183 Z):=by
  have:=Blk.new (w.alloc (.cells B.toArray 183)) 183 Z;rw [size_alloc] at this;exact this
 have O0:Hid (Only (fun _=>False) w ((w.alloc (.cells B.toArray 183)).alloc (.cells Z.toArray 183))):=((Only.refl _ _).alloc _).alloc _;obtain ⟨G,hG⟩:∃G,G=w.heap.size:=⟨_,rfl⟩;obtain ⟨R,hR⟩:∃R,R=w.heap.size+1:=⟨_,rfl⟩;obtain ⟨W0,hW0⟩:∃W0,W0=(w.alloc (.cells B.toArray 183)).alloc (.cells Z.toArray 183):=⟨_,rfl⟩;rw [←hG,←hW0] at S0;rw [←hR,←hW0] at R0;rw [←hW0] at O0;rw [←hR,←hG,←hW0];have HG:Hid (w.heap.size≤G∧w.heap.size≤R∧R≠G):=⟨by omega,by omega,by omega⟩;clear hG hR hW0 hzv
 go_loopw [5] (fun i wr=>∃n:Nat,n≤10∧i=.int .i64 n∧Blk wr G 183 (wl (dbls n s))∧Blk wr R 183 Z∧Only (fun _=>False) w wr) (fun i _=>10 - (intOf i).toNat)
 case atStart=>exact ⟨0,by omega,rfl,S0.out,R0.out,O0.out⟩
 case round =>
  obtain ⟨n,hn,rfl,hS,hR,hO⟩:=hrel;clear S0 R0 O0
  by_cases hlt:n<10
  ·obtain ⟨s0,hs0⟩:∃s0,s0=dbls n s:=⟨_,rfl⟩
   have L0:s0.length=16:=by rw [hs0,QdW];exact HS.out.1
   have K0:W32 s0:=by rw [hs0];exact QiZ n s HS.out.2
   have E0:Hid (dbls (n+1) s=dblR s0):=by
    show _=_
    rw [hs0];rfl
   rw [←hs0] at hS;have B0:=Qaa (And.intro hS (And.intro L0 K0));have RO:=Qaa (And.intro hR hO)
   have i1:(n:Int)<10:=by omega
   clear hs0 L0 K0 hS hR hO;go_wp2_with fail;refine (tclo G s0 B0.out.2.1 B0.out.2.2 0 4 8 12 (by decide) (by decide) (by decide) (by decide) (by decide) (by decide) (by decide) (by decide) (by decide) (by decide) _ B0.out.1).mono ?_;rintro e w1 ⟨rfl,b1,o1⟩;obtain ⟨s1,hs1⟩:∃s1,s1=turnW s0 0 4 8 12:=⟨_,rfl⟩;have B1:Hid (Blk w1 G 183 (wl s1)∧s1.length=16∧W32 s1):=⟨by rw [hs1];exact b1,by rw [hs1,Qa3];exact B0.out.2.1,by rw [hs1];exact Qa2 B0.out.2.2 _ _ _ _⟩;have RO1:Hid (Blk w1 R 183 Z∧Only (fun _=>False) w w1):=⟨RO.out.1.keep o1 HG.out.2.2,RO.out.2.trans o1 (fun i hi e=>by have:=HG.out.1;omega)⟩;have E1:=Qaa hs1;clear hs1 b1 o1 B0 RO;go_wp2_with fail;refine (tclo G s1 B1.out.2.1 B1.out.2.2 1 5 9 13 (by decide) (by decide) (by decide) (by decide) (by decide) (by decide) (by decide) (by decide) (by decide) (by decide) _ B1.out.1).mono ?_;rintro e w2 ⟨rfl,b2,o2⟩;obtain ⟨s2,hs2⟩:∃s2,s2=turnW s1 1 5 9 13:=⟨_,rfl⟩;have B2:Hid (Blk w2 G 183 (wl s2)∧s2.length=16∧W32 s2):=⟨by rw [hs2];exact b2,by rw [hs2,Qa3];exact B1.out.2.1,by rw [hs2];exact Qa2 B1.out.2.2 _ _ _ _⟩;have RO2:Hid (Blk w2 R 183 Z∧Only (fun _=>False) w w2):=⟨RO1.out.1.keep o2 HG.out.2.2,RO1.out.2.trans o2 (fun i hi e=>by have:=HG.out.1;omega)⟩;have E2:=Qaa hs2;clear hs2 b2 o2 B1 RO1;go_wp2_with fail;refine (tclo G s2 B2.out.2.1 B2.out.2.2 2 6 10 14 (by decide) (by decide) (by decide) (by decide) (by decide) (by decide) (by decide) (by decide) (by decide) (by decide) _ B2.out.1).mono ?_;rintro e w3 ⟨rfl,b3,o3⟩;obtain ⟨s3,hs3⟩:∃s3,s3=turnW s2 2 6 10 14:=⟨_,rfl⟩;have B3:Hid (Blk w3 G 183 (wl s3)∧s3.length=16∧W32 s3):=⟨by rw [hs3];exact b3,by rw [hs3,Qa3];exact B2.out.2.1,by rw [hs3];exact Qa2 B2.out.2.2 _ _ _ _⟩;have RO3:Hid (Blk w3 R 183 Z∧Only (fun _=>False) w w3):=⟨RO2.out.1.keep o3 HG.out.2.2,RO2.out.2.trans o3 (fun i hi e=>by have:=HG.out.1;omega)⟩;have E3:=Qaa hs3;clear hs3 b3 o3 B2 RO2;go_wp2_with fail;refine (tclo G s3 B3.out.2.1 B3.out.2.2 3 7 11 15 (by decide) (by decide) (by decide) (by decide) (by decide) (by decide) (by decide) (by decide) (by decide) (by decide) _ B3.out.1).mono ?_;rintro e w4 ⟨rfl,b4,o4⟩;obtain ⟨s4,hs4⟩:∃s4,s4=turnW s3 3 7 11 15:=⟨_,rfl⟩;have B4:Hid (Blk w4 G 183 (wl s4)∧s4.length=16∧W32 s4):=⟨by rw [hs4];exact b4,by rw [hs4,Qa3];exact B3.out.2.1,by rw [hs4];exact Qa2 B3.out.2.2 _ _ _ _⟩;have RO4:Hid (Blk w4 R 183 Z∧Only (fun _=>False) w w4):=⟨RO3.out.1.keep o4 HG.out.2.2,RO3.out.2.trans o4 (fun i hi e=>by have:=HG.out.1;omega)⟩;have E4:=Qaa hs4;clear hs4 b4 o4 B3 RO3;go_wp2_with fail;refine (tclo G s4 B4.out.2.1 B4.out.2.2 0 5 10 15 (by decide) (by decide) (by decide) (by decide) (by decide) (by decide) (by decide) (by decide) (by decide) (by decide) _ B4.out.1).mono ?_;rintro e w5 ⟨rfl,b5,o5⟩;obtain ⟨s5,hs5⟩:∃s5,s5=turnW s4 0 5 10 15:=⟨_,rfl⟩;have B5:Hid (Blk w5 G 183 (wl s5)∧s5.length=16∧W32 s5):=⟨by rw [hs5];exact b5,by rw [hs5,Qa3];exact B4.out.2.1,by rw [hs5];exact Qa2 B4.out.2.2 _ _ _ _⟩;have RO5:Hid (Blk w5 R 183 Z∧Only (fun _=>False) w w5):=⟨RO4.out.1.keep o5 HG.out.2.2,RO4.out.2.trans o5 (fun i hi e=>by have:=HG.out.1;omega)⟩;have E5:=Qaa hs5;clear hs5 b5 o5 B4 RO4;go_wp2_with fail;refine (tclo G s5 B5.out.2.1 B5.out.2.2 1 6 11 12 (by decide) (by decide) (by decide) (by decide) (by decide) (by decide) (by decide) (by decide) (by decide) (by decide) _ B5.out.1).mono ?_;rintro e w6 ⟨rfl,b6,o6⟩;obtain ⟨s6,hs6⟩:∃s6,s6=turnW s5 1 6 11 12:=⟨_,rfl⟩;have B6:Hid (Blk w6 G 183 (wl s6)∧s6.length=16∧W32 s6):=⟨by rw [hs6];exact b6,by rw [hs6,Qa3];exact B5.out.2.1,by rw [hs6];exact Qa2 B5.out.2.2 _ _ _ _⟩;have RO6:Hid (Blk w6 R 183 Z∧Only (fun _=>False) w w6):=⟨RO5.out.1.keep o6 HG.out.2.2,RO5.out.2.trans o6 (fun i hi e=>by have:=HG.out.1;omega)⟩;have E6:=Qaa hs6;clear hs6 b6 o6 B5 RO5;go_wp2_with fail;refine (tclo G s6 B6.out.2.1 B6.out.2.2 2 7 8 13 (by decide) (by decide) (by decide) (by decide) (by decide) (by decide) (by decide) (by decide) (by decide) (by decide) _ B6.out.1).mono ?_;rintro e w7 ⟨rfl,b7,o7⟩;obtain ⟨s7,hs7⟩:∃s7,s7=turnW s6 2 7 8 13:=⟨_,rfl⟩;have B7:Hid (Blk w7 G 183 (wl s7)∧s7.length=16∧W32 s7):=⟨by rw [hs7];exact b7,by rw [hs7,Qa3];exact B6.out.2.1,by rw [hs7];exact Qa2 B6.out.2.2 _ _ _ _⟩;have RO7:Hid (Blk w7 R 183 Z∧Only (fun _=>False) w w7):=⟨RO6.out.1.keep o7 HG.out.2.2,RO6.out.2.trans o7 (fun i hi e=>by have:=HG.out.1;omega)⟩;have E7:=Qaa hs7;clear hs7 b7 o7 B6 RO6;go_wp2_with fail;refine (tclo G s7 B7.out.2.1 B7.out.2.2 3 4 9 14 (by decide) (by decide) (by decide) (by decide) (by decide) (by decide) (by decide) (by decide) (by decide) (by decide) _ B7.out.1).mono ?_;rintro e w8 ⟨rfl,b8,o8⟩;obtain ⟨s8,hs8⟩:∃s8,s8=turnW s7 3 4 9 14:=⟨_,rfl⟩;have B8:Hid (Blk w8 G 183 (wl s8)∧s8.length=16∧W32 s8):=⟨by rw [hs8];exact b8,by rw [hs8,Qa3];exact B7.out.2.1,by rw [hs8];exact Qa2 B7.out.2.2 _ _ _ _⟩;have RO8:Hid (Blk w8 R 183 Z∧Only (fun _=>False) w w8):=⟨RO7.out.1.keep o8 HG.out.2.2,RO7.out.2.trans o8 (fun i hi e=>by have:=HG.out.1;omega)⟩;have E8:=Qaa hs8;clear hs8 b8 o8 B7 RO7
   have EN:Hid (dbls (n+1) s=s8):=by
    show _=_
    rw [E0.out];exact QkT E1.out E2.out E3.out E4.out E5.out E6.out E7.out E8.out
   go_wp2
   go_roundw
   case rel=>exact ⟨n+1,by omega,by go_num,by rw [EN.out];exact B8.out.1,RO8.out.1,RO8.out.2⟩
   case measure=>simp [intOf];omega
  ·obtain rfl:n=10:=by omega
   rw [←HD.out] at hS;have S2:=Qaa hS;have R2:=Qaa hR;have O2:=Qaa hO;clear hS hR hO;go_wp2_with (first|(refine wpList_load_row rfl 183 (.tmp 1) rfl G rfl 183 D.toArray (0,0) _ S2.out underlying183 rfl HZ1.out ?_)|(refine wpList_store_row rfl 183 (.tmp 2) (.tmp 24) rfl R D.toArray rfl rfl 183 Z.toArray R2.out HZ1.out HZ2.out HA.out ?_));refine bodyPost_ret (v:=.agg D.toArray) (results_cell_row rfl _ _ R 183 D.toArray (0,0) _ rfl (R2.out.row D) underlying183 rfl HZ1.out) rfl ⟨rfl,?_⟩;exact O2.out.setRow (fun h=>absurd h (by have:=HG.out.2.1;omega)) _
end Go.Proofs.YtnhapmboienipaaGreatDoor
