import Derived.Test.YtnhapmboienipaaGreatDoorProg
import Derived.Test.YtnhapmboienipaaGreatDoorG1
import Derived.Shelf.Bytes.SlSmallAll
import Derived.Test.YtnhapmboienipaaGreatDoorG21
namespace Go.Proofs.YtnhapmboienipaaGreatDoor
set_option maxHeartbeats 400000
set_option maxRecDepth 100000
open Go.RowKit
theorem QiB : ∀ (xs ys : List Int),(∀ x ∈ xs,0 ≤ x ∧ x ≤ 255) → (∀ y ∈ ys,0 ≤ y ∧ y ≤ 255) → (xs.map fun n => UInt8.ofNat n.toNat) = (ys.map fun n => UInt8.ofNat n.toNat) → xs = ys
 | [],[],_,_,_ => rfl
 | [],y :: ys,_,_,h => by simp at h
 | x :: xs,[],_,_,h => by simp at h
 | x :: xs,y :: ys,hx,hy,h => by
  simp only [List.map_cons,List.cons.injEq] at h;have h1:=hx x List.mem_cons_self;have h2:=hy y List.mem_cons_self
  have e : x.toNat % 256 = y.toNat % 256:=by
   have:=congrArg UInt8.toNat h.1
   simpa using this
  have e2 : x = y:=by omega
  rw [e2,QiB xs ys (fun a ha => hx a (List.mem_cons_of_mem _ ha)) (fun a ha => hy a (List.mem_cons_of_mem _ ha)) h.2]
theorem QnO (xs ys : List Int) (hx : ∀ x ∈ xs,0 ≤ x ∧ x ≤ 255) (hy : ∀ y ∈ ys,0 ≤ y ∧ y ≤ 255) : ((strOfNums xs).toList == (strOfNums ys).toList) = decide (xs = ys):=by
 rw [Lib.strOfNums_toList,Lib.strOfNums_toList]
 by_cases h : xs = ys
 ·subst h;simp
 ·rw [decide_eq_false h]
  have : Lib.bytesOf xs ≠ Lib.bytesOf ys:=fun e => h (QiB xs ys hx hy e)
  simp [this]
theorem QpY (src dst e : TypeId) (va : Value) (xs : List Int) (w : World) (h : Bs .u8 w va xs) (hs : Tryz.prog.underlying src = some (.slice e)) (he : Tryz.prog.underlying e = some (.int .u8)) (hd : Tryz.prog.underlying dst = some .string) :
  (convert src dst va).run Tryz.prog w = .ok (.string (strOfNums xs)) w:=by
 obtain ⟨ao,cap,rfl,hc,hr⟩:=h
 by_cases h0 : xs = []
 ·subst h0
  exact run_convert_bytes_zero w src e hs he ao cap dst hd
 ·obtain ⟨b,off,rfl,hcell⟩:=hr h0
  exact run_convert_bytes_arg (P:=Tryz.prog) w src e hs he b off _ cap xs rfl hcell dst hd
theorem QiC (va vb : Value) (xs ys : List Int) (w : World) (ha : Bs .u8 w va xs) (hb : Bs .u8 w vb ys) (hx : ∀ x ∈ xs,0 ≤ x ∧ x ≤ 255) (hy : ∀ y ∈ ys,0 ≤ y ∧ y ≤ 255) :
  Calls Tryz.prog 28 #[va,vb] w fun e w' => e = .returned (.bool (decide (xs = ys))) ∧ w = w':=by
 have h1:=QpY 22 9 5 va xs w ha Tryz.underlying22 Tryz.underlying5 Tryz.underlying9;have h2:=QpY 22 9 5 vb ys w hb Tryz.underlying22 Tryz.underlying5 Tryz.underlying9;rw [← QnO xs ys hx hy];clear ha hb hx hy;go_enter Tryz.func28,Tryz.ntmps28;go_wp2;go_ret;exact ⟨rfl,rfl⟩
end Go.Proofs.YtnhapmboienipaaGreatDoor
