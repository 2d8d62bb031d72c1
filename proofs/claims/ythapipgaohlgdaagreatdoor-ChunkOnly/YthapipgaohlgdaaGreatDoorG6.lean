/- Several texts in one: Dm, Info, Sm, Room, VRef, CRef, Fit. -/
import Derived.WalkKit
import Derived.Test.YthapipgaohlgdaaGreatDoorG1
import Derived.Test.YthapipgaohlgdaaGreatDoorProg
import Derived.Test.YthapipgaohlgdaaGreatDoorG5
import Derived.Deep.WholeRow
import Derived.Test.YthapipgaohlgdaaGreatDoorG3
import Derived.Deep.RegionLaw
import Derived.BigRegion
import Derived.ScopeJumps
import Derived.WalkMore


namespace Go.Proofs.YthapipgaohlgdaaGreatDoor
open Go.RowKit
def G64 (x : Int) : Prop:=-9223372036854775808 ≤ x ∧ x ≤ 9223372036854775807
theorem w64_g (x : Int) : G64 (wrap64 x):=by unfold G64 wrap64;omega
theorem w64_id {x : Int} (h : G64 x) : wrap64 x = x:=by unfold G64 at h;unfold wrap64;omega
theorem w64_back {a x : Int} (h : G64 x) : wrap64 (a + wrap64 (x - a)) = x:=by unfold G64 at h;unfold wrap64;omega
theorem w64_forth {a x : Int} (h : G64 x) : wrap64 (wrap64 (a + x) - a) = x:=by unfold G64 at h;unfold wrap64;omega
def dif : Int → List Int → List Int
 | _,[] => []
 | a,x :: t => wrap64 (x - a) :: dif x t
def sm : Int → List Int → List Int
 | _,[] => []
 | a,x :: t => wrap64 (a + x) :: sm (wrap64 (a + x)) t
def bh (f : List Int → List Int) (s : Nat) (l : List Int) : List Int:=l.take s ++ f (l.drop s)
def D : Nat → List Int → List Int
 | 0,l => l
 | k + 1,l => bh (dif 0) k (D k l)
def S : Nat → List Int → List Int
 | 0,l => l
 | k + 1,l => S k (bh (sm 0) k l)
theorem dif_length (a : Int) (l : List Int) : (dif a l).length = l.length:=by
 induction l generalizing a with
 | nil => rfl
 | cons x t ih => simp [dif,ih]
theorem sm_length (a : Int) (l : List Int) : (sm a l).length = l.length:=by
 induction l generalizing a with
 | nil => rfl
 | cons x t ih => simp [sm,ih]
theorem dif_g (a : Int) (l : List Int) : ∀ x ∈ dif a l,G64 x:=by
 induction l generalizing a with
 | nil => intro x hx;simp [dif] at hx
 | cons y t ih =>
  intro x hx
  simp only [dif,List.mem_cons] at hx
  rcases hx with rfl | hx
  ·exact w64_g _
  ·exact ih _ x hx
theorem sm_g (a : Int) (l : List Int) : ∀ x ∈ sm a l,G64 x:=by
 induction l generalizing a with
 | nil => intro x hx;simp [sm] at hx
 | cons y t ih =>
  intro x hx
  simp only [sm,List.mem_cons] at hx
  rcases hx with rfl | hx
  ·exact w64_g _
  ·exact ih _ x hx
theorem sm_dif (a : Int) (l : List Int) (h : ∀ x ∈ l,G64 x) : sm a (dif a l) = l:=by
 induction l generalizing a with
 | nil => rfl
 | cons x t ih =>
  simp only [dif,sm,w64_back (h x (by simp))]
  rw [ih x (fun y hy => h y (by simp [hy]))]
theorem dif_sm (a : Int) (l : List Int) (h : ∀ x ∈ l,G64 x) : dif a (sm a l) = l:=by
 induction l generalizing a with
 | nil => rfl
 | cons x t ih =>
  simp only [dif,sm,w64_forth (h x (by simp))]
  rw [ih _ (fun y hy => h y (by simp [hy]))]
theorem bh_length {f : List Int → List Int} (hf : ∀ l,(f l).length = l.length) (s : Nat) (l : List Int) : (bh f s l).length = l.length:=by
 simp only [bh,List.length_append,List.length_take,hf,List.length_drop];omega
theorem bh_g {f : List Int → List Int} (hf : ∀ l,∀ x ∈ f l,G64 x) (s : Nat) (l : List Int) (h : ∀ x ∈ l,G64 x) : ∀ x ∈ bh f s l,G64 x:=by
 intro x hx
 simp only [bh,List.mem_append] at hx
 rcases hx with hx | hx
 ·exact h x (List.mem_of_mem_take hx)
 ·exact hf _ x hx
theorem bh_bh {f g : List Int → List Int} (hf : ∀ l,(f l).length = l.length) (s : Nat) (l : List Int) (hg : g (f (l.drop s)) = l.drop s) : bh g s (bh f s l) = l:=by
 unfold bh
 by_cases h : s ≤ l.length
 ·have e : (l.take s).length = s:=by rw [List.length_take];omega
  rw [List.take_append_of_le_length (by omega),List.take_take,Nat.min_self,List.drop_append_of_le_length (by omega),List.drop_of_length_le (by omega),List.nil_append,hg,List.take_append_drop]
 ·have e : l.drop s = []:=List.drop_of_length_le (by omega)
  have e0 : f [] = []:=List.eq_nil_of_length_eq_zero (by rw [hf];rfl)
  have e1 : l.take s = l:=List.take_of_length_le (by omega)
  rw [e,e0] at hg
  rw [e,e0,e1,List.append_nil,e,e1,hg,List.append_nil]
theorem D_length (k : Nat) (l : List Int) : (D k l).length = l.length:=by
 induction k with
 | zero => rfl
 | succ k ih => rw [D,bh_length (dif_length 0),ih]
theorem S_length (k : Nat) (l : List Int) : (S k l).length = l.length:=by
 induction k generalizing l with
 | zero => rfl
 | succ k ih => rw [S,ih,bh_length (sm_length 0)]
theorem D_g (k : Nat) (l : List Int) (h : ∀ x ∈ l,G64 x) : ∀ x ∈ D k l,G64 x:=by
 induction k with
 | zero => exact h
 | succ k ih => exact bh_g (dif_g 0) k _ ih
theorem S_g (k : Nat) (l : List Int) (h : ∀ x ∈ l,G64 x) : ∀ x ∈ S k l,G64 x:=by
 induction k generalizing l with
 | zero => exact h
 | succ k ih => exact ih _ (bh_g (sm_g 0) k _ h)
theorem S_D (k : Nat) (l : List Int) (h : ∀ x ∈ l,G64 x) : S k (D k l) = l:=by
 induction k with
 | zero => rfl
 | succ k ih =>
  rw [S,D,bh_bh (dif_length 0) k _ (sm_dif 0 _ (fun x hx => D_g k l h x (List.mem_of_mem_drop hx))),ih]
theorem D_S (k : Nat) (l : List Int) (h : ∀ x ∈ l,G64 x) : D k (S k l) = l:=by
 induction k generalizing l with
 | zero => rfl
 | succ k ih =>
  rw [S,D,ih _ (bh_g (sm_g 0) k _ h),bh_bh (sm_length 0) k _ (dif_sm 0 _ (fun x hx => h x (List.mem_of_mem_drop hx)))]
theorem dif_at (a : Int) (l : List Int) (i : Nat) (hi : i + 1 < l.length) : (dif a l).getD (i + 1) 0 = wrap64 (l.getD (i + 1) 0 - l.getD i 0):=by
 induction l generalizing a i with
 | nil => simp at hi
 | cons x t ih =>
  cases t with
  | nil => simp at hi
  | cons y t =>
   cases i with
   | zero => simp [dif]
   | succ i =>
    have:=ih x i (by simpa using hi)
    simp only [dif,List.getD_cons_succ] at this ⊢
    exact this
theorem dif_zero (l : List Int) (h : ∀ x ∈ l,G64 x) : (dif 0 l).getD 0 0 = l.getD 0 0:=by
 cases l with
 | nil => rfl
 | cons x t => simp [dif,w64_id (h x (by simp))]
def ap (s : Int) : Int → Nat → List Int
 | _,0 => []
 | x,n + 1 => x :: ap s (wrap64 (x + s)) n
end Go.Proofs.YthapipgaohlgdaaGreatDoor


namespace Go.Proofs.YthapipgaohlgdaaGreatDoor
open Go.RowKit
theorem Tryz.infoI64 : (Tryz.prog.info? 3).map (fun i => (i.zero,i.size,i.bytes)) = some (some (.int .i64 0),1,8):=by kernel_rfl
theorem Tryz.infoU64 : (Tryz.prog.info? 42).map (fun i => (i.zero,i.size,i.bytes)) = some (some (.int .u64 0),1,8):=by kernel_rfl
end Go.Proofs.YthapipgaohlgdaaGreatDoor


namespace Go.Proofs.YthapipgaohlgdaaGreatDoor
open Go.RowKit
def tab : List (Nat × Nat):=[(240,0),(120,0),(60,1),(30,2),(20,3),(15,4),(12,5),(10,6),(8,7),(7,8),(6,10),(5,12),(4,15),(3,20),(2,30),(1,60)]
def cn (s : Nat) : Nat:=(tab.getD s (0,0)).1
def wi (s : Nat) : Nat:=(tab.getD s (0,0)).2
theorem sort_all : ∀ s : Fin 16,1 ≤ cn s.val ∧ cn s.val ≤ 240 ∧ wi s.val ≤ 60 ∧ cn s.val * wi s.val ≤ 60 ∧ (s.val < 15 → wi s.val ≤ 30 ∧ 2 ≤ cn s.val):=by decide +kernel
theorem sort_at (s : Nat) (h : s < 16) : 1 ≤ cn s ∧ cn s ≤ 240 ∧ wi s ≤ 60 ∧ cn s * wi s ≤ 60 ∧ (s < 15 → wi s ≤ 30 ∧ 2 ≤ cn s):=sort_all ⟨s,h⟩
def Up (w : Nat) (xs : List Int) : Prop:=∀ x ∈ xs,0 ≤ x ∧ x < 2 ^ w
theorem pow_mono {a b : Nat} (h : a ≤ b) : (2 : Int) ^ a ≤ 2 ^ b:=by
 have : 2 ^ a ≤ 2 ^ b:=Nat.pow_le_pow_right (by omega) h
 have e1 : ((2 ^ a : Nat) : Int) = 2 ^ a:=by simp
 have e2 : ((2 ^ b : Nat) : Int) = 2 ^ b:=by simp
 omega
theorem Up.take {a : Nat} {xs : List Int} (h : Up a xs) (n : Nat) : Up a (xs.take n):=fun x hx => h x (List.mem_of_mem_take hx)
theorem Up.drop {a : Nat} {xs : List Int} (h : Up a xs) (n : Nat) : Up a (xs.drop n):=fun x hx => h x (List.mem_of_mem_drop hx)
theorem Up.nil (a : Nat) : Up a []:=fun x hx => by cases hx
theorem Up.append {a : Nat} {xs ys : List Int} (h : Up a xs) (k : Up a ys) : Up a (xs ++ ys):=fun x hx => by
 rcases List.mem_append.1 hx with hx | hx
 ·exact h x hx
 ·exact k x hx
def small (w : Nat) (xs : List Int) : Bool:=xs.all fun x => decide (x < 2 ^ w)
theorem small_up {w : Nat} {xs : List Int} (h : small w xs = true) (h0 : ∀ x ∈ xs,0 ≤ x) : Up w xs:=fun x hx => ⟨h0 x hx,by
 have:=List.all_eq_true.1 h x hx
 simpa using this⟩
theorem up_small {w : Nat} {xs : List Int} (h : Up w xs) : small w xs = true:=by
 unfold small
 rw [List.all_eq_true]
 intro x hx
 simpa using (h x hx).2
theorem small_snoc (w : Nat) (xs : List Int) (x : Int) : small w (xs ++ [x]) = (small w xs && decide (x < 2 ^ w)):=by simp [small]
theorem small_no {w : Nat} {xs : List Int} {k : Nat} (hk : k < xs.length) (h : ¬ xs.getD k 0 < 2 ^ w) : small w xs = false:=by
 rw [Bool.eq_false_iff]
 intro hs
 have:=List.all_eq_true.1 hs (xs.getD k 0) (by rw [List.getD_eq_getElem?_getD,List.getElem?_eq_getElem hk];simp)
 simp only [decide_eq_true_eq] at this
 exact h this
def fitB (xs : List Int) (s : Nat) : Bool:=decide (cn s ≤ xs.length) && small (wi s) (xs.take (cn s))
def leastF : Nat → Nat → List Int → Nat
 | 0,s,_ => s
 | f + 1,s,xs => if fitB xs s = true then s else leastF f (s + 1) xs
def least (xs : List Int) : Nat:=leastF 15 0 xs
theorem fit15 {xs : List Int} (h : xs ≠ []) (hu : Up 60 xs) : fitB xs 15 = true:=by
 have : 0 < xs.length:=List.length_pos_iff.2 h
 have e1 : cn 15 = 1:=rfl
 have e2 : wi 15 = 60:=rfl
 unfold fitB
 rw [e1,e2,up_small (hu.take 1)]
 simp;omega
theorem leastF_hit {xs : List Int} {s : Nat} (h : fitB xs s = true) (f : Nat) : leastF f s xs = s:=by
 cases f with
 | zero => rfl
 | succ f => simp [leastF,h]
theorem leastF_miss {xs : List Int} {s : Nat} (h : fitB xs s = false) (hs : s < 15) : leastF (15 - s) s xs = leastF (15 - (s + 1)) (s + 1) xs:=by
 obtain ⟨f,hf⟩ : ∃ f,15 - s = f + 1:=⟨14 - s,by omega⟩
 rw [hf,show 15 - (s + 1) = f by omega]
 simp [leastF,h]
theorem leastF_fits {xs : List Int} (h : fitB xs 15 = true) : ∀ f s,s + f = 15 → leastF f s xs < 16 ∧ fitB xs (leastF f s xs) = true
 | 0,s,e => by
  obtain rfl : s = 15:=by omega
  exact ⟨by simp [leastF],h⟩
 | f + 1,s,e => by
  by_cases hs : fitB xs s = true
  ·rw [leastF_hit hs]
   exact ⟨by omega,hs⟩
  ·have : leastF (f + 1) s xs = leastF f (s + 1) xs:=by simp [leastF,hs]
   rw [this]
   exact leastF_fits h f (s + 1) (by omega)
theorem least_fits {xs : List Int} (h : xs ≠ []) (hu : Up 60 xs) : least xs < 16 ∧ cn (least xs) ≤ xs.length ∧ Up (wi (least xs)) (xs.take (cn (least xs))):=by
 obtain ⟨h1,h2⟩:=leastF_fits (fit15 h hu) 15 0 rfl
 unfold fitB at h2
 rw [Bool.and_eq_true,decide_eq_true_eq] at h2
 exact ⟨h1,h2.1,small_up h2.2 (fun x hx => (hu.take _ x hx).1)⟩
def wacc (a w : Nat) (zs : List Int) : Nat:=zs.foldl (fun a z => a * 2 ^ w + z.toNat) a
theorem wacc_snoc (a w : Nat) (zs : List Int) (z : Int) : wacc a w (zs ++ [z]) = wacc a w zs * 2 ^ w + z.toNat:=by simp [wacc]
theorem wacc_cons (a w : Nat) (zs : List Int) (z : Int) : wacc a w (z :: zs) = wacc (a * 2 ^ w + z.toNat) w zs:=rfl
theorem wacc_append (a w : Nat) (ys zs : List Int) : wacc a w (ys ++ zs) = wacc (wacc a w ys) w zs:=by simp [wacc]
theorem toNat_up {w : Nat} {z : Int} (h : 0 ≤ z ∧ z < 2 ^ w) : z.toNat < 2 ^ w:=by
 have e : ((2 ^ w : Nat) : Int) = 2 ^ w:=by simp
 omega
theorem wacc_split (w : Nat) : ∀ (zs : List Int) (a : Nat),Up w zs → ∃ r,wacc a w zs = a * 2 ^ (zs.length * w) + r ∧ r < 2 ^ (zs.length * w)
 | [],a,_ => ⟨0,by simp [wacc],by simp⟩
 | z :: zs,a,h => by
  obtain ⟨r,h1,h2⟩:=wacc_split w zs (a * 2 ^ w + z.toNat) (fun x hx => h x (List.mem_cons_of_mem _ hx))
  have hz:=toNat_up (h z List.mem_cons_self)
  refine ⟨z.toNat * 2 ^ (zs.length * w) + r,?_,?_⟩
  ·rw [wacc_cons,h1,List.length_cons,Nat.add_mul,Nat.mul_assoc,← Nat.pow_add,Nat.add_assoc]
   congr 3
   rw [Nat.add_mul];omega
  ·rw [List.length_cons,Nat.add_mul,Nat.one_mul,Nat.pow_add,Nat.mul_comm (2 ^ (zs.length * w)) (2 ^ w)]
   have h3 : (z.toNat + 1) * 2 ^ (zs.length * w) ≤ 2 ^ w * 2 ^ (zs.length * w):=Nat.mul_le_mul_right _ hz
   rw [Nat.add_mul,Nat.one_mul] at h3
   omega
def wordN (s w : Nat) (zs : List Int) : Nat:=wacc s w zs * 2 ^ (60 - zs.length * w)
theorem wordN_lt {s w : Nat} {zs : List Int} (hs : s < 16) (h : Up w zs) (hw : zs.length * w ≤ 60) : wordN s w zs < 18446744073709551616:=by
 obtain ⟨r,h1,h2⟩:=wacc_split w zs s h
 have e : 2 ^ (zs.length * w) * 2 ^ (60 - zs.length * w) = 2 ^ 60:=by rw [← Nat.pow_add];congr 1;omega
 have h3 : wacc s w zs < 16 * 2 ^ (zs.length * w):=by
  have : (s + 1) * 2 ^ (zs.length * w) ≤ 16 * 2 ^ (zs.length * w):=Nat.mul_le_mul_right _ (by omega)
  rw [Nat.add_mul,Nat.one_mul] at this
  omega
 have h4:=Nat.mul_lt_mul_of_pos_right h3 (Nat.two_pow_pos (60 - zs.length * w))
 rw [Nat.mul_assoc,e] at h4
 have e60 : (2 : Nat) ^ 60 = 1152921504606846976:=by decide
 unfold wordN
 omega
theorem wordN_sort {s w : Nat} {zs : List Int} (h : Up w zs) (hw : zs.length * w ≤ 60) : wordN s w zs / 2 ^ 60 = s:=by
 obtain ⟨r,h1,h2⟩:=wacc_split w zs s h
 have e : (2 : Nat) ^ 60 = 2 ^ (60 - zs.length * w) * 2 ^ (zs.length * w):=by rw [← Nat.pow_add];congr 1;omega
 unfold wordN
 rw [e,← Nat.div_div_eq_div_mul,Nat.mul_div_cancel _ (Nat.two_pow_pos _),h1,Nat.add_comm,Nat.add_mul_div_right _ _ (Nat.two_pow_pos _),Nat.div_eq_of_lt h2,Nat.zero_add]
def numAt (v w i : Nat) : Nat:=v / 2 ^ (60 - (i + 1) * w) % 2 ^ w
theorem numAt_word {s w : Nat} {zs : List Int} (h : Up w zs) (hw : zs.length * w ≤ 60) (i : Nat) (hi : i < zs.length) : (numAt (wordN s w zs) w i : Int) = zs.getD i 0:=by
 obtain ⟨a,z,b,rfl,rfl⟩ : ∃ a z b,zs = a ++ z :: b ∧ a.length = i:=⟨zs.take i,zs[i],zs.drop (i + 1),by rw [List.getElem_cons_drop,List.take_append_drop],by simp;omega⟩
 have hz:=h z (by simp)
 have hn:=toNat_up hz
 obtain ⟨r,h1,h2⟩:=wacc_split w b (wacc s w (a ++ [z])) (fun x hx => h x (by simp [hx]))
 have e0 : wacc s w (a ++ z :: b) = wacc s w (a ++ [z]) * 2 ^ (b.length * w) + r:=by
  rw [← h1,← wacc_append,List.append_assoc,List.singleton_append]
 have hl : (a ++ z :: b).length = a.length + 1 + b.length:=by simp;omega
 rw [hl,Nat.add_mul] at hw
 have e1 : 60 - (a.length + 1) * w = (60 - (a ++ z :: b).length * w) + b.length * w:=by rw [hl,Nat.add_mul (a.length + 1)];omega
 unfold numAt wordN
 rw [e1,Nat.pow_add,← Nat.div_div_eq_div_mul,Nat.mul_div_cancel _ (Nat.two_pow_pos _),e0,Nat.add_comm,Nat.add_mul_div_right _ _ (Nat.two_pow_pos _),Nat.div_eq_of_lt h2,Nat.zero_add,wacc_snoc,
  Nat.add_comm,Nat.add_mul_mod_self_right,Nat.mod_eq_of_lt hn]
 simp
 omega
def nms (v : Nat) : List Int:=(List.range (cn (v / 2 ^ 60))).map fun i => (numAt v (wi (v / 2 ^ 60)) i : Int)
theorem nms_length (v : Nat) : (nms v).length = cn (v / 2 ^ 60):=by simp [nms]
theorem nms_up (v : Nat) (hv : v < 18446744073709551616) : Up 60 (nms v):=by
 intro x hx
 simp only [nms,List.mem_map] at hx
 obtain ⟨i,_,rfl⟩:=hx
 have hs : v / 2 ^ 60 < 16:=by
  have e60 : (2 : Nat) ^ 60 = 1152921504606846976:=by decide
  rw [e60];omega
 have h3:=(sort_at _ hs).2.2.1
 have h4 : numAt v (wi (v / 2 ^ 60)) i < 2 ^ wi (v / 2 ^ 60):=Nat.mod_lt _ (Nat.two_pow_pos _)
 have h5 : 2 ^ wi (v / 2 ^ 60) ≤ 2 ^ 60:=Nat.pow_le_pow_right (by omega) h3
 refine ⟨by omega,?_⟩
 have : numAt v (wi (v / 2 ^ 60)) i < 2 ^ 60:=by omega
 exact_mod_cast this
theorem nms_word {s : Nat} {zs : List Int} (hs : s < 16) (hl : zs.length = cn s) (h : Up (wi s) zs) : nms (wordN s (wi s) zs) = zs:=by
 have hw : zs.length * wi s ≤ 60:=by rw [hl];exact (sort_at s hs).2.2.2.1
 have e:=wordN_sort (s:=s) h hw
 unfold nms
 rw [e,← hl]
 apply List.ext_getElem
 ·simp
 ·intro i h1 h2
  rw [List.getElem_map,List.getElem_range,numAt_word h hw i h2,List.getD_eq_getElem?_getD,List.getElem?_eq_getElem h2]
  rfl
end Go.Proofs.YthapipgaohlgdaaGreatDoor


namespace Go.Proofs.YthapipgaohlgdaaGreatDoor
set_option maxRecDepth 100000
open Go.RowKit
def sortCells : Array Value:=#[.int .i64 240,.int .i64 0,.int .i64 120,.int .i64 0,.int .i64 60,.int .i64 1,.int .i64 30,.int .i64 2,.int .i64 20,.int .i64 3,.int .i64 15,.int .i64 4,.int .i64 12,.int .i64 5,.int .i64 10,.int .i64 6,.int .i64 8,.int .i64 7,.int .i64 7,.int .i64 8,.int .i64 6,.int .i64 10,.int .i64 5,.int .i64 12,.int .i64 4,.int .i64 15,.int .i64 3,.int .i64 20,.int .i64 2,.int .i64 30,.int .i64 1,.int .i64 60]
def zeroCells : Array Value:=#[.int .i64 0,.int .i64 0,.int .i64 0,.int .i64 0,.int .i64 0,.int .i64 0,.int .i64 0,.int .i64 0,.int .i64 0,.int .i64 0,.int .i64 0,.int .i64 0,.int .i64 0,.int .i64 0,.int .i64 0,.int .i64 0,.int .i64 0,.int .i64 0,.int .i64 0,.int .i64 0,.int .i64 0,.int .i64 0,.int .i64 0,.int .i64 0,.int .i64 0,.int .i64 0,.int .i64 0,.int .i64 0,.int .i64 0,.int .i64 0,.int .i64 0,.int .i64 0]
theorem Tryz.size45 : (Tryz.prog.info? 161).map (·.size) = some sortCells.size:=by kernel_rfl
theorem zero_sort : zeroCells.size = sortCells.size:=by kernel_rfl
theorem one_sort : sortCells.all (·.oneCell') = true:=by kernel_rfl
theorem results_cell {fn : Func} {p : Tmp} {ty : TypeId} (h : fn.results = #[.cell p ty]) (tmps : Array Value) (P : Program) (w : World) {a : Addr} {v : Value} (ha : tmps[p]?.getD undef = .pointer (some a)) (hl : (loadVar ty a).run P w = .ok v w) :
  (results fn tmps).run P w = .ok v w:=by
 simp only [results,h]
 simp [ha,asAddr,hl]
set_option maxHeartbeats 800000 in
theorem sorts_any (w : World) : Calls Tryz.prog 167 #[] w fun e w' => e = .returned (.agg sortCells) ∧ w' = w.alloc (.cells sortCells 161):=by
 go_enter Tryz.func167,Tryz.ntmps167
 go_wp2_with (refine wpList_store_row rfl 161 (.tmp 0) (.tmp 17) rfl w.heap.size sortCells rfl rfl 161 zeroCells (heap_alloc_last w _) Tryz.size45 zero_sort one_sort ?_)
 rw [World.setRow_alloc_new]
 refine bodyPost_ret (v:=.agg sortCells) (results_cell rfl _ _ _ rfl ?_) rfl ⟨rfl,rfl⟩
 exact run_loadVar_new w 161 sortCells 16 160 Tryz.underlying161 Tryz.size45
theorem room_ix (s : Nat) (h : s < 16) (w : World) : (Instr.index 161 (.agg sortCells) (.int .i64 s)).run Tryz.prog w = .ok (.agg #[.int .i64 (cn s),.int .i64 (wi s)]) w:=by
 obtain rfl | rfl | rfl | rfl | rfl | rfl | rfl | rfl | rfl | rfl | rfl | rfl | rfl | rfl | rfl | rfl : s = 0 ∨ s = 1 ∨ s = 2 ∨ s = 3 ∨ s = 4 ∨ s = 5 ∨ s = 6 ∨ s = 7 ∨ s = 8 ∨ s = 9 ∨ s = 10 ∨ s = 11 ∨ s = 12 ∨ s = 13 ∨ s = 14 ∨ s = 15:=by omega
 all_goals kernel_rfl
set_option maxHeartbeats 800000 in
theorem room_at (s : Nat) (w : World) (h : s < 16) : Calls Tryz.prog 143 #[.int .i64 s] w fun e w' => e = .returned (.tuple #[.int .i64 (cn s),.int .i64 (wi s)]) ∧ Only (fun _ => False) w w':=by
 have d0 : decide ((s : Int) < 0) = false:=by simp
 have d1 : decide (16 ≤ (s : Int)) = false:=by simp;omega
 have A:=hideIt (sorts_any w)
 have hix:=room_ix s h
 go_enter Tryz.func143,Tryz.ntmps143
 go_wp2_with fail
 refine A.out.mono ?_
 rintro e w1 ⟨rfl,hw1⟩
 have O1 : Hid (Only (fun _ => False) w w1):=by rw [hw1];exact (Only.refl _ _).alloc _
 clear hw1 A
 go_wp2
 go_quiet (fail)
 go_wp2
 go_ret2
 exact ⟨rfl,(O1.out.alloc _).drewN nq⟩
end Go.Proofs.YthapipgaohlgdaaGreatDoor


namespace Go.Proofs.YthapipgaohlgdaaGreatDoor
set_option maxRecDepth 100000
open Go.RowKit
set_option maxHeartbeats 400000 in
theorem rzig_any (n : Int) (w : World) (h0 : -9223372036854775808 ≤ n) (h1 : n ≤ 9223372036854775807) :
  Calls Tryz.prog 109 #[.int .i64 n] w fun e w' => e = .returned (.int .u64 (zig n)) ∧ w = w':=by
 go_enter Tryz.func109,Tryz.ntmps109
 go_wp2
 all_goals go_ret
 all_goals refine ⟨ret_int ?_,rfl⟩
 all_goals (unfold zig;split <;> omega)
set_option maxHeartbeats 400000 in
theorem rzag_any (v : Int) (w : World) (h0 : 0 ≤ v) (h1 : v ≤ 18446744073709551615) :
  Calls Tryz.prog 61 #[.int .u64 v] w fun e w' => e = .returned (.int .i64 (zag v)) ∧ w = w':=by
 go_enter Tryz.func61,Tryz.ntmps61
 go_wp2
 all_goals go_ret
 all_goals refine ⟨ret_int ?_,rfl⟩
 all_goals (rename_i h;simp at h;unfold zag;split <;> omega)
set_option maxHeartbeats 800000 in
theorem rappend_any (va : Value) (xs : List Int) (v : Int) (w : World) (ha : Bs .u8 w va xs) (na : NoCap va) (hl : xs.length ≤ 1000000000) (h0 : 0 ≤ v) (h1 : v ≤ 18446744073709551615) :
  Calls Tryz.prog 28 #[va,.int .u64 v] w fun e w' => ∃ v',e = .returned v' ∧ w'.ownsRow w.heap.size 5 1 v' (xs ++ gs v.toNat).length ((xs ++ gs v.toNat).map (Value.int .u8)) ∧ Only (fun _ => False) w w':=by
 obtain ⟨i0,hi,hz0,hz1,hz2⟩:=info_parts Tryz.infoU8
 have ho:=World.ownsRow_made (base:=w.heap.size) (e:=5) (size:=1) w #[] 0 (Nat.le_refl _) (by unfold maxLen;omega) rfl
 have H10:=hideIt (gs_le10 (v:=v.toNat) (by omega))
 have HA:=hideIt (ha.later ((Below.refl _ _).alloc (Nat.le_refl _) (.cells #[] 5)))
 have NA:=hideIt na
 obtain ⟨aa,ca,rfl⟩:=ha.len
 obtain ⟨m,hm⟩ : ∃ m,m = xs.length:=⟨_,rfl⟩
 rw [← hm] at hl HA NA
 rw [← hm]
 have HM:=hideIt hm
 clear ha na hm
 go_enter Tryz.func28,Tryz.ntmps28
 go_wp2_with (at_builtin;refine wpList_append_bs _ rfl _ _ _ rfl w.heap.size 5 i0 (.int .u8 0) 1 Tryz.underlying26 hi hz0 hz1 hz2 rfl _ 0 [] rfl ho .u8 _ xs rfl HA.out NA.out ?c3 ?c4 ?c5 ?_)
 case c3 => rw [← HM.out];unfold maxLen;omega
 case c4 => rw [← HM.out];omega
 case c5 => simp
 intro v' w1 hown1 hgrow _ _
 rw [← HM.out] at hown1
 have START : Hid (w1.ownsRow w.heap.size 5 1 v' m (xs.map (Value.int .u8)) ∧ Below w.heap.size w w1):=by
  refine ⟨hown1,((Below.refl _ _).alloc (Nat.le_refl _) _).grown hgrow (by simp) (fun q hq => ?_)⟩
  simp [Value.ownBlock] at hq
  omega
 clear hown1 hgrow ho
 go_wp2
 go_loopw [1,5] (fun a o wr => ∃ (x k : Nat) (p : List Int),a = .int .u64 x ∧ x < 18446744073709551616 ∧ p ++ gs x = gs v.toNat ∧ k = m + p.length ∧ wr.ownsRow w.heap.size 5 1 o k ((xs ++ p).map (Value.int .u8)) ∧ Below w.heap.size w wr) (fun a _ _ => (intOf a).toNat)
 case atStart => exact ⟨v.toNat,m,[],by rw [Int.toNat_of_nonneg h0],by omega,rfl,rfl,by rw [List.append_nil];exact START.out.1,START.out.2⟩
 case round =>
  obtain ⟨x,k,p,rfl,hx,hp,hk,hown,hbel⟩:=hrel
  have hk9 : k ≤ m + 9:=by
   have h:=congrArg List.length hp
   have:=H10.out
   have:=gs_pos x
   rw [List.length_append] at h
   omega
  have HP:=hideIt hp
  have HK:=hideIt hk
  have hsz:=hbel.size
  clear hp hk START
  by_cases hlt : 127 < x
  ·have hlt' : decide (0 < (x : Int) / 128) = true:=by simp;omega
   obtain ⟨r,hr⟩ : ∃ r : Nat,r = x % 128:=⟨_,rfl⟩
   have hr1 : r < 128:=by omega
   have hr2 : ((x : Int) % 128) = (r : Int):=by omega
   have HR:=hideIt hr
   clear hr
   go_wp2_with (at_builtin;refine wpList_append_lies _ rfl _ _ _ rfl w.heap.size 5 i0 (.int .u8 0) 1 1 Tryz.underlying26 hi hz0 hz1 hz2 rfl (by omega) _ k ((xs ++ p).map (Value.int .u8)) rfl (hown.alloc _) ⟨wr.heap.size,0,none⟩ 1 1 [.int .u8 ((r : Int) + 128)] rfl rfl ?c1 ?c2 (by omega) ?c3 ?c4 ?c5 (wr.heap.size + 1) (by simp) ?_)
   case c1 => exact cell_one_new _ _ _
   case c2 => intro u hu;simp at hu;subst hu;rfl
   case c3 => unfold maxLen;omega
   case c4 => omega
   case c5 => simp;omega
   intro g cap1 w1 hown1 hgrow hat hg1
   have hb1 : Below w.heap.size w w1:=(hbel.alloc hbel.size _).grown hgrow (by simp;omega) (fun q hq => (hown.lt q hq).1)
   have hown2 : w1.ownsRow w.heap.size 5 1 (.slice (some ⟨g,0,none⟩) (k + 1) cap1) (k + 1) ((xs ++ (p ++ [(r : Int) + 128])).map (Value.int .u8)):=by
    rw [List.map_append,List.map_append];exact hown1
   clear hown hown1 hgrow hat hbel
   go_wp2
   go_roundw
   case rel =>
    refine ⟨x / 128,k + 1,p ++ [(r : Int) + 128],by go_num,by omega,?_,by rw [List.length_append,HK.out];rfl,hown2,hb1⟩
    rw [← HP.out,gs_big (v:=x) (by omega),← HR.out]
    simp
   case measure => simp [intOf];omega
  ·have hlt' : decide (0 < (x : Int) / 128) = false:=by simp;omega
   go_wp2_with (at_builtin;refine wpList_append_lies _ rfl _ _ _ rfl w.heap.size 5 i0 (.int .u8 0) 1 1 Tryz.underlying26 hi hz0 hz1 hz2 rfl (by omega) _ k ((xs ++ p).map (Value.int .u8)) rfl (hown.alloc _) ⟨wr.heap.size,0,none⟩ 1 1 [.int .u8 (x : Int)] rfl rfl ?c1 ?c2 (by omega) ?c3 ?c4 ?c5 (wr.heap.size + 1) (by simp) ?_)
   case c1 => exact cell_one_new _ _ _
   case c2 => intro u hu;simp at hu;subst hu;rfl
   case c3 => unfold maxLen;omega
   case c4 => omega
   case c5 => simp;omega
   intro g cap1 w1 hown1 hgrow hat hg1
   have hb1 : Below w.heap.size w w1:=(hbel.alloc hbel.size _).grown hgrow (by simp;omega) (fun q hq => (hown.lt q hq).1)
   have hown2 : Hid (w1.ownsRow w.heap.size 5 1 (.slice (some ⟨g,0,none⟩) (k + 1) cap1) (xs ++ gs v.toNat).length ((xs ++ gs v.toNat).map (Value.int .u8))):=by
    have e : (xs ++ gs v.toNat).length = k + 1:=by
     rw [← HP.out,gs_small (v:=x) (by omega),List.length_append,List.length_append,← HM.out,HK.out];rfl
    rw [e,← HP.out,gs_small (v:=x) (by omega),List.map_append,List.map_append];exact hown1
   have hb2:=hideIt hb1
   clear hown hown1 hgrow hat hbel hb1
   go_wp2
   go_ret
   exact ⟨_,rfl,hown2.out,only_of_below hb2.out⟩
theorem v_add_step (k acc : Nat) (c : Int) (hk : k ≤ 9) (hacc : acc < 128 ^ k) (c0 : 0 ≤ c) (c1 : c ≤ 255) (h9 : k = 9 → c ≤ 1) :
  IntKind.u64.wrap ((acc : Int) + IntKind.u64.wrap (c % 128 * 2 ^ (7 * k))) = ((acc + (c % 128).toNat * 128 ^ k : Nat) : Int) ∧ acc + (c % 128).toNat * 128 ^ k < 128 ^ (k + 1):=by
 obtain ⟨m,rfl⟩:=Int.eq_ofNat_of_zero_le c0
 have e : ((m : Int) % 128).toNat = m % 128:=by omega
 have e2 : ((m : Int) % 128) = ((m % 128 : Nat) : Int):=by omega
 rw [e,e2]
 have p1 : (2 : Nat) ^ (7 * k) = 128 ^ k:=by rw [Nat.pow_mul]
 have w2 : ((m % 128 : Nat) : Int) * 2 ^ (7 * k) = ((m % 128 * 128 ^ k : Nat) : Int):=by
  rw [← p1];simp
 have hlt : acc + m % 128 * 128 ^ k < 18446744073709551616:=by
  rcases Nat.lt_or_ge k 9 with h | h
  ·have h1 : m % 128 * 128 ^ k ≤ 127 * 128 ^ k:=Nat.mul_le_mul_right _ (by omega)
   have h2 : 128 ^ k ≤ 128 ^ 8:=Nat.pow_le_pow_right (by omega) (by omega)
   have h3 : (128 : Nat) ^ 8 = 72057594037927936:=by decide
   omega
  ·have hk : k = 9:=by omega
   subst hk
   have:=h9 rfl
   have h3 : (128 : Nat) ^ 9 = 9223372036854775808:=by decide
   have h1 : m % 128 * 128 ^ 9 ≤ 1 * 128 ^ 9:=Nat.mul_le_mul_right _ (by omega)
   omega
 have w3 : IntKind.u64.wrap ((m % 128 * 128 ^ k : Nat) : Int) = ((m % 128 * 128 ^ k : Nat) : Int):=by rw [IntKind.wrap_u64];omega
 have w4 : IntKind.u64.wrap ((acc : Int) + ((m % 128 * 128 ^ k : Nat) : Int)) = ((acc + m % 128 * 128 ^ k : Nat) : Int):=by rw [IntKind.wrap_u64];omega
 rw [w2,w3,w4]
 refine ⟨rfl,?_⟩
 rw [Nat.pow_succ]
 have h1 : m % 128 * 128 ^ k ≤ 127 * 128 ^ k:=Nat.mul_le_mul_right _ (by omega)
 omega
set_option maxHeartbeats 800000 in
theorem rread_bs (va : Value) (xs : List Int) (w : World) (ha : Bs .u8 w va xs) (hr : ∀ x ∈ xs,0 ≤ x ∧ x ≤ 255) :
  Calls Tryz.prog 46 #[va] w fun e w' => e = .returned (rdVal (rd 0 0 xs)) ∧ w = w':=by
 have HA:=hideIt ha
 have HR:=hideIt hr
 obtain ⟨aa,ca,rfl⟩:=ha.len
 obtain ⟨n,hn⟩ : ∃ n,n = xs.length:=⟨_,rfl⟩
 rw [← hn] at HA
 rw [← hn]
 have HN:=hideIt hn
 obtain ⟨R,hR⟩ : ∃ R,R = rd 0 0 xs:=⟨_,rfl⟩
 rw [← hR]
 have HRD:=hideIt hR
 clear ha hr hn hR
 go_enter Tryz.func46,Tryz.ntmps46
 go_wp2
 go_loop [5,6] (fun a i => ∃ (k : Nat) (acc : Nat),k ≤ n ∧ k ≤ 9 ∧ i = .int .i64 k ∧ a = .int .u64 acc ∧ acc < 128 ^ k ∧ rd k acc (xs.drop k) = R) (fun _ i => n - (intOf i).toNat)
 case atStart => exact ⟨0,0,by omega,by omega,rfl,rfl,by simp,by simpa using HRD.out.symm⟩
 case round =>
  obtain ⟨k,acc,hk,hk9,rfl,rfl,hacc,hrd⟩:=hrel
  by_cases hlt : k < n
  ·obtain ⟨b,off,cap',e1,hc⟩:=HA.out.at k (by rw [← HN.out];exact hlt)
   have ea : aa = some ⟨b,off,none⟩:=by simp at e1;exact e1.1
   subst ea
   clear e1
   have hcr:=HR.out (xs.getD k 0) (by rw [List.getD_eq_getElem?_getD,List.getElem?_eq_getElem (by rw [← HN.out];exact hlt)];simp)
   rw [rd_at xs k _ (by rw [← HN.out];exact hlt)] at hrd
   generalize xs.getD k 0 = c at hc hcr hrd
   have HD:=hideIt hrd
   have HACC:=hideIt hacc
   clear hrd hacc
   have i0 : (0 : Int) ≤ (k : Int):=by omega
   have i1 : (k : Int) < (n : Int):=by omega
   by_cases hF : k = 9 ∧ 1 < c
   ·obtain ⟨rfl,h1c⟩:=hF
    have hRR : R = (0,0,3):=by have:=HD.out;rw [if_pos ⟨rfl,h1c⟩] at this;exact this.symm
    subst hRR
    go_wp2
    go_ret3
    exact ⟨rfl,rfl⟩
   ·have OS:=hideIt (v_add_step k acc c hk9 HACC.out hcr.1 hcr.2 (by omega))
    by_cases h128 : 128 ≤ c
    ·have d9 : ((k : Int) == 9) = false:=by simp;omega
     go_wp2
     go_round
     case rel =>
      refine ⟨k + 1,acc + (c % 128).toNat * 128 ^ k,by omega,by omega,by go_num,by rw [OS.out.1],OS.out.2,?_⟩
      have:=HD.out
      rw [if_neg hF,if_pos h128] at this
      rw [val_more k acc c];exact this
     case measure => simp [intOf];omega
    ·have d128 : decide (c < 128) = true:=by simp;omega
     by_cases h0 : c = 0 ∧ 0 < k
     ·obtain ⟨rfl,hk0⟩:=h0
      have hRR : R = (0,0,3):=by have:=HD.out;rw [if_neg hF,if_neg h128,if_pos ⟨rfl,hk0⟩] at this;exact this.symm
      subst hRR
      by_cases h9 : k = 9
      ·subst h9
       go_wp2
       go_ret3
       exact ⟨rfl,rfl⟩
      ·have d9 : ((k : Int) == 9) = false:=by simp;omega
       have dk : decide (0 < (k : Int)) = true:=by simp;omega
       go_wp2
       go_ret3
       exact ⟨rfl,rfl⟩
     ·have hRR : R = (acc + c * 128 ^ k,(k : Int) + 1,0):=by have:=HD.out;rw [if_neg hF,if_neg h128,if_neg h0] at this;exact this.symm
      subst hRR
      have VS:=hideIt (val_step k acc c hcr.1 (by omega))
      have O9:=hideIt (OS.out.1.trans VS.out)
      by_cases h9 : k = 9
      ·subst h9
       have hc0 : (c == 0) = false:=by simp;omega
       have hc1 : decide (1 < c) = false:=by simp;omega
       go_wp2
       go_ret3
       refine ⟨ret_rd ?_ rfl rfl,rfl⟩
       have ha:=HACC.out
       have h3 : (128 : Nat) ^ 9 = 9223372036854775808:=by decide
       have hc2 : c = 1:=by simp at hc0 hc1;omega
       rw [h3] at ha
       rw [IntKind.wrap_u64,hc2]
       simp only
       omega
      ·have d9 : ((k : Int) == 9) = false:=by simp;omega
       by_cases hc0 : c = 0
       ·have dk : decide (0 < (k : Int)) = false:=by simp;omega
        subst hc0
        go_wp2
        go_ret3
        refine ⟨ret_rd ?_ rfl rfl,rfl⟩
        have:=O9.out
        rw [show (0 : Int) % 128 * 2 ^ (7 * k) = 0 by simp,show IntKind.u64.wrap 0 = 0 from rfl,Int.add_zero] at this
        simpa using this
       ·have dc : (c == 0) = false:=by simp;omega
        go_wp2
        all_goals go_ret3
        all_goals exact ⟨ret_rd O9.out rfl rfl,rfl⟩
  ·have hkn : k = n:=by omega
   subst hkn
   have hRR : R = (0,0,2):=by rw [← hrd,List.drop_of_length_le (by rw [← HN.out];omega)];rfl
   subst hRR
   clear hrd hacc
   go_wp2
   go_ret3
   exact ⟨rfl,rfl⟩
theorem rread_as (va : Value) (xs : List Int) (w : World) {a b c : Int} (h : rd 0 0 xs = (a,b,c)) (ha : Bs .u8 w va xs) (hr : ∀ x ∈ xs,0 ≤ x ∧ x ≤ 255) :
  Calls Tryz.prog 46 #[va] w fun e w' => e = .returned (.tuple #[.int .u64 a,.int .i64 b,.int .i64 c]) ∧ w = w':=by
 have:=rread_bs va xs w ha hr
 rw [h] at this
 exact this
end Go.Proofs.YthapipgaohlgdaaGreatDoor


namespace Go.Proofs.YthapipgaohlgdaaGreatDoor
set_option maxRecDepth 100000
open Go.RowKit
theorem getD_mem (l : List Int) (k : Nat) (h : k < l.length) : l.getD k 0 ∈ l:=by
 rw [List.getD_eq_getElem?_getD,List.getElem?_eq_getElem h];simp
theorem NoCap.rest {ao : Option Addr} {m cap n m' : Nat} (h : NoCap (.slice ao m cap)) : NoCap (.slice (if cap = n then ao else ao.map (fun x => x.add n)) m' (cap - n)):=by
 cases ao with
 | none =>
  have:=h m cap rfl
  subst this
  intro a b e
  simp at e
  omega
 | some x =>
  split
  ·exact NoCap.some _ _ _
  ·exact NoCap.some _ _ _
set_option maxHeartbeats 400000 in
theorem rbyte_bs (ao : Option Addr) (m cap : Nat) (ys : List Int) (w : World) (h : Bs .u8 w (.slice ao m cap) ys) (nc : NoCap (.slice ao m cap)) (hm : m ≤ 1000000000000) {a : Int} {k : Nat} {c : Int} (hs : sByte ys = (a,k,c)) :
  Calls Tryz.prog 34 #[.slice ao m cap] w fun e w' => ∃ ao' m' cap',e = .returned (.tuple #[.int .u8 a,.slice ao' m' cap',.int .i64 c]) ∧ Bs .u8 w' (.slice ao' m' cap') (ys.drop k) ∧ NoCap (.slice ao' m' cap') ∧ Only (fun _ => False) w w':=by
 have hl:=h.length
 by_cases h0 : m = 0
 ·subst h0
  have hs2 : sByte ys = (0,0,2):=if_pos hl.symm
  rw [hs2] at hs
  simp at hs
  obtain ⟨rfl,rfl,rfl⟩:=hs
  have H:=hideIt (And.intro h nc)
  clear h nc
  go_enter Tryz.func34,Tryz.ntmps34
  go_wp2
  go_ret3
  exact ⟨_,_,_,rfl,H.out.1,H.out.2,Only.refl _ _⟩
 ·have hs2 : sByte ys = (ys.getD 0 0,1,0):=if_neg (by omega)
  rw [hs2] at hs
  simp only [Prod.mk.injEq] at hs
  obtain ⟨ha,rfl,rfl⟩:=hs
  obtain ⟨b,off,cap',e1,hx⟩:=h.at 0 (by omega)
  have ea : ao = some ⟨b,off,none⟩:=by simp at e1;exact e1.1
  subst ea
  clear e1
  rw [ha,Nat.add_zero] at hx
  have hc : m ≤ cap:=by
   obtain ⟨ao',cap',e,hcap,_⟩:=h
   simp at e
   omega
  have HB:=hideIt h
  have dm : ((m : Int) == 0) = false:=by simp;omega
  have i0 : (0 : Int) < (m : Int):=by omega
  have i1 : (1 : Int) ≤ (m : Int):=by omega
  have i2 : (1 : Int) ≤ (cap : Int):=by omega
  have hadd : (⟨b,off,none⟩ : Addr).add 1 = ⟨b,off + 1,none⟩:=by unfold Addr.add;split <;> simp_all
  by_cases hc1 : cap = 1
  ·subst hc1
   have H:=hideIt (HB.out.cut0 (n:=1) (by omega))
   clear h nc hl HB hc
   go_enter Tryz.func34,Tryz.ntmps34
   go_wp2
   go_quiet (fail)
   go_wp2
   go_ret3
   exact ⟨_,_,_,rfl,H.out.keep ((Only.refl _ _).drewN nq) (fun _ _ f => f),NoCap.some _ _ _,(Only.refl _ _).drewN nq⟩
  ·have H:=hideIt (HB.out.cut (n:=1) (by omega))
   simp only [Option.map_some,hadd] at H
   clear h nc hl HB
   go_enter Tryz.func34,Tryz.ntmps34
   go_wp2
   go_quiet (fail)
   go_wp2
   go_ret3
   exact ⟨_,_,_,rfl,H.out.keep ((Only.refl _ _).drewN nq) (fun _ _ f => f),NoCap.some _ _ _,(Only.refl _ _).drewN nq⟩
theorem wp_append_bs {P : Program} {w : World} {o : Oper} {a : Act} {K : Act → World → Prop} {Q : Exit → Act → World → Prop} (s x : Operand) (t : TypeId)
  (ho : o.op = .call { callee:=.builtin .append,args:=#[s,x],argTypes:=#[t,t] })
  (base : Nat) (e : TypeId) (i : TypeInfo) (z : Value) (bytes : Nat) (ht : P.underlying t = some (.slice e)) (hi : P.info? e = some i) (hz : i.zero = some z)
  (hsize : i.size = 1) (hby : i.bytes = bytes) (hzs : z.cells.size = 1)
  (v : Value) (n : Nat) (xs : List Value) (hs : a.eval s = v) (hown : w.ownsRow base e 1 v n xs)
  (k : IntKind) (u : Value) (ys : List Int) (hx : a.eval x = u) (hb : Bs k w u ys) (hnc : NoCap u)
  (h63 : n + ys.length ≤ maxLen) (hbytes : (n + ys.length) * bytes ≤ 140737488355328) (hbase : base ≤ w.heap.size)
  (h : ∀ v' w',w'.ownsRow base e 1 v' (n + ys.length) (xs ++ ys.map (Value.int k)) → w.grownBy w' v.ownBlock → K (a.put o.dst v') w') :
  Oper.wp P o a w K Q:=by
 obtain ⟨ao,cap,rfl⟩:=hb.len
 cases ao with
 | none =>
  have h0 : ys = []:=by
   obtain ⟨ao',cap',e1,_,hr⟩:=hb
   rcases ys with _ | ⟨y,ys⟩
   ·rfl
   ·obtain ⟨b,off,e2,_⟩:=hr (by simp)
    simp at e1
    rw [← e1.1] at e2;cases e2
  subst h0
  have hc : cap = 0:=hnc _ _ rfl
  subst hc
  have hrun:=run_append_owned_none (P:=P) (w:=w) base t o.type e i 1 ht hi v n xs hown
  have hK:=h v w (by simpa using hown) (World.grownBy.refl _ _)
  unfold Oper.wp
  simp [execOp,ho,resolve,invoke,builtin,hs,hx,hrun,Result.andThen]
  exact hK
 | some ad =>
  obtain ⟨v',w',hrun,r1,r2,_⟩:=run_append_own_at (P:=P) w base t o.type e i z 1 bytes ht hi hz hsize hby hzs (by omega) v n xs hown ad ys.length cap (ys.map (Value.int k)) (by simp) hb.news (oneCell_ints _ _) h63 hbytes hbase
  unfold Oper.wp
  simp [execOp,ho,resolve,invoke,builtin,hs,hx,hrun,Result.andThen]
  exact h v' w' r1 r2
theorem step_append_bs {P : Program} {w : World} {ops : Array Oper} {o : Oper} {a : Act} {K : Act → World → Prop} {Q : Exit → Act → World → Prop} {E : Prop} (hgd : o.guard = none) (s x : Operand) (t : TypeId)
  (ho : o.op = .call { callee:=.builtin .append,args:=#[s,x],argTypes:=#[t,t] })
  (base : Nat) (e : TypeId) (i : TypeInfo) (z : Value) (bytes : Nat) (ht : P.underlying t = some (.slice e)) (hi : P.info? e = some i) (hz : i.zero = some z)
  (hsize : i.size = 1) (hby : i.bytes = bytes) (hzs : z.cells.size = 1)
  (v : Value) (n : Nat) (xs : List Value) (hs : a.eval s = v) (hown : w.ownsRow base e 1 v n xs)
  (k : IntKind) (u : Value) (ys : List Int) (hx : a.eval x = u) (hb : Bs k w u ys) (hnc : NoCap u)
  (h63 : n + ys.length ≤ maxLen) (hbytes : (n + ys.length) * bytes ≤ 140737488355328) (hbase : base ≤ w.heap.size)
  (h : ∀ v' w',w'.ownsRow base e 1 v' (n + ys.length) (xs ++ ys.map (Value.int k)) → w.grownBy w' v.ownBlock → K (a.put o.dst v') w') :
  if Region.wanted o (yielded ops a.tmps) = true then Oper.wp P o a w K Q else E:=by
 have hw : Region.wanted o (yielded ops a.tmps) = true:=by simp [Region.wanted,hgd]
 rw [if_pos hw]
 exact wp_append_bs s x t ho base e i z bytes ht hi hz hsize hby hzs v n xs hs hown k u ys hx hb hnc h63 hbytes hbase h
set_option maxHeartbeats 400000 in
theorem rbytes_at (ao : Option Addr) (m cap : Nat) (ys : List Int) (w : World) (h : Bs .u8 w (.slice ao m cap) ys) (nc : NoCap (.slice ao m cap)) (hm : m ≤ 1000000000000) (n : Int) {a : List Int} {k : Nat} {c : Int} (hs : sBytes n ys = (a,k,c)) :
  Calls Tryz.prog 45 #[.slice ao m cap,.int .i64 n] w fun e w' => ∃ v1 ao' m' cap',e = .returned (.tuple #[v1,.slice ao' m' cap',.int .i64 c]) ∧ Bs .u8 w' v1 a ∧ Bs .u8 w' (.slice ao' m' cap') (ys.drop k) ∧ NoCap (.slice ao' m' cap') ∧ Only (fun _ => False) w w' ∧ (Value.slice ao' m' cap').ownBlock = (Value.slice ao m cap).ownBlock:=by
 have HL:=hideIt h.length
 by_cases h0 : n < 0
 ·have hs2 : sBytes n ys = ([],0,1):=if_pos h0
  rw [hs2] at hs
  simp only [Prod.mk.injEq] at hs
  obtain ⟨rfl,rfl,rfl⟩:=hs
  have H:=hideIt (And.intro h nc)
  clear h nc
  go_enter Tryz.func45,Tryz.ntmps45
  go_wp2
  go_ret3
  exact ⟨.slice none 0 0,_,_,_,rfl,Bs.nil _ _,H.out.1,H.out.2,Only.refl _ _,rfl⟩
 have d0 : decide (n < 0) = false:=decide_eq_false h0
 obtain ⟨n,rfl⟩:=Int.eq_ofNat_of_zero_le (Int.not_lt.1 h0)
 by_cases h1 : (m : Int) < (n : Int)
 ·have hs2 : sBytes n ys = ([],0,2):=by
   simp only [sBytes]
   rw [if_neg h0,if_pos (by have:=HL.out;omega)]
  rw [hs2] at hs
  simp only [Prod.mk.injEq] at hs
  obtain ⟨rfl,rfl,rfl⟩:=hs
  have H:=hideIt (And.intro h nc)
  clear h nc
  go_enter Tryz.func45,Tryz.ntmps45
  go_wp2
  go_ret3
  exact ⟨.slice none 0 0,_,_,_,rfl,Bs.nil _ _,H.out.1,H.out.2,Only.refl _ _,rfl⟩
 ·have hs2 : sBytes n ys = (ys.take n,n,0):=by
   simp only [sBytes]
   rw [if_neg h0,if_neg (by have:=HL.out;omega)]
   rfl
  rw [hs2] at hs
  simp only [Prod.mk.injEq] at hs
  obtain ⟨rfl,rfl,rfl⟩:=hs
  have d1 : decide ((m : Int) < (n : Int)) = false:=decide_eq_false h1
  obtain ⟨i0,hi,hz0,hz1,hz2⟩:=info_parts Tryz.infoU8
  have ho:=World.ownsRow_made (base:=w.heap.size) (e:=5) (size:=1) w.drew #[] 0 (Nat.le_refl _) (by unfold maxLen;omega) rfl
  have hc : m ≤ cap:=by
   obtain ⟨ao',cap',e,hcap,_⟩:=h
   simp at e
   omega
  have j0 : (0 : Int) ≤ (n : Int):=by omega
  have j1 : (n : Int) ≤ (m : Int):=by omega
  have j2 : (n : Int) ≤ (cap : Int):=by omega
  have oa : Only (fun _ => False) w (w.drew.alloc (.cells #[] 5)):=((Only.refl _ _).drew).alloc _
  have nh : NoCap (.slice ao n cap):=by
   intro a b e
   cases e
   exact nc m cap rfl
  have HA:=hideIt (And.intro ((h.head (n:=n) (by omega)).keep oa (fun _ _ f => f)) nh)
  have HO:=hideIt ho
  have hlt : (ys.take n).length = n:=by rw [List.length_take];have:=HL.out;omega
  have HLT:=hideIt hlt
  have FIN : ∀ v' w1,w1.ownsRow w.heap.size 5 1 v' (0 + (ys.take n).length) ([] ++ (ys.take n).map (Value.int .u8)) → (w.alloc (Obj.cells #[] 5)).drew.grownBy w1 (Value.slice (some ⟨w.heap.size,0,none⟩) 0 0).ownBlock →
    Bs .u8 w1 v' (ys.take n) ∧ Only (fun _ => False) w w1:=by
   intro v' w1 hown hgrow
   rw [Nat.zero_add,List.nil_append] at hown
   refine ⟨Bs.of_own hown,oa.grown hgrow (fun k hk e => ?_)⟩
   simp [Value.ownBlock] at e
   omega
  have FN:=hideIt FIN
  have HH:=hideIt (And.intro h nc)
  clear h nc ho nh oa hlt FIN
  by_cases hcn : cap = n
  ·subst hcn
   have H:=hideIt (And.intro (HH.out.1.cut0 (n:=cap) (by omega)) (HH.out.2.rest (n:=cap) (m':=m - cap)))
   rw [if_pos rfl,Nat.sub_self] at H
   clear HH hc
   go_enter Tryz.func45,Tryz.ntmps45
   go_wp2
   go_region_law (refine step_append_bs rfl (.tmp 15) (.tmp 18) 26 rfl w.heap.size 5 i0 (.int .u8 0) 1 Tryz.underlying26 hi hz0 hz1 hz2 rfl (.slice (some ⟨w.heap.size,0,none⟩) 0 0) 0 [] rfl HO.out .u8 _ (ys.take cap) rfl HA.out.1 HA.out.2 (by rw [HLT.out];unfold maxLen;omega) (by rw [HLT.out];omega) (by simp) ?_;intro v' w1 hown hgrow)
   have F:=hideIt (FN.out v' w1 hown hgrow)
   clear hown hgrow FN HO HA
   go_wp2
   go_ret3
   obtain ⟨f1,f2⟩:=F.out
   exact ⟨v',_,_,_,rfl,f1,H.out.1.keep f2 (fun _ _ f => f),H.out.2,f2,own_any _ _ _ _ _⟩
  ·have H:=hideIt (And.intro (HH.out.1.cut (n:=n) (by omega)) (HH.out.2.rest (n:=n) (m':=m - n)))
   rw [if_neg hcn] at H
   clear HH
   go_enter Tryz.func45,Tryz.ntmps45
   go_wp2
   go_region_law (refine step_append_bs rfl (.tmp 15) (.tmp 18) 26 rfl w.heap.size 5 i0 (.int .u8 0) 1 Tryz.underlying26 hi hz0 hz1 hz2 rfl (.slice (some ⟨w.heap.size,0,none⟩) 0 0) 0 [] rfl HO.out .u8 _ (ys.take n) rfl HA.out.1 HA.out.2 (by rw [HLT.out];unfold maxLen;omega) (by rw [HLT.out];omega) (by simp) ?_;intro v' w1 hown hgrow)
   have F:=hideIt (FN.out v' w1 hown hgrow)
   clear hown hgrow FN HO HA
   go_wp2
   go_ret3
   obtain ⟨f1,f2⟩:=F.out
   exact ⟨v',_,_,_,rfl,f1,H.out.1.keep f2 (fun _ _ f => f),H.out.2,f2,own_cut _ _ _ _ _ _⟩
theorem rbytes_bs (ao : Option Addr) (m cap : Nat) (ys : List Int) (w : World) (h : Bs .u8 w (.slice ao m cap) ys) (nc : NoCap (.slice ao m cap)) (hm : m ≤ 1000000000000) (n : Int) {a : List Int} {k : Nat} {c : Int} (hs : sBytes n ys = (a,k,c)) :
  Calls Tryz.prog 45 #[.slice ao m cap,.int .i64 n] w fun e w' => ∃ v1 ao' m' cap',e = .returned (.tuple #[v1,.slice ao' m' cap',.int .i64 c]) ∧ Bs .u8 w' v1 a ∧ Bs .u8 w' (.slice ao' m' cap') (ys.drop k) ∧ NoCap (.slice ao' m' cap') ∧ Only (fun _ => False) w w' :=
 (rbytes_at ao m cap ys w h nc hm n hs).mono fun _ _ ⟨v1,ao',m',cap',e,b1,b2,n1,o,_⟩ => ⟨v1,ao',m',cap',e,b1,b2,n1,o⟩
end Go.Proofs.YthapipgaohlgdaaGreatDoor


namespace Go.Proofs.YthapipgaohlgdaaGreatDoor
set_option maxRecDepth 100000
open Go.RowKit
set_option maxHeartbeats 400000 in
theorem allFit_bs (v : Value) (xs : List Int) (q : Nat) (w : World) (h : Bs .u64 w v xs) (hu : ∀ x ∈ xs,0 ≤ x ∧ x ≤ 18446744073709551615) (hq : q ≤ 60) (hl : xs.length ≤ 140737488355328) :
  Calls Tryz.prog 141 #[v,.int .i64 q] w fun e w' => e = .returned (.bool (small q xs)) ∧ w = w':=by
 obtain ⟨ao,cap,rfl⟩:=h.len
 have HB:=hideIt h
 have HU:=hideIt hu
 obtain ⟨m,hm⟩ : ∃ m,m = xs.length:=⟨_,rfl⟩
 rw [← hm] at HB hl ⊢
 have HM:=hideIt hm
 clear h hu hm
 have hq2 : (q : Int) ≤ 60:=by omega
 go_enter Tryz.func141,Tryz.ntmps141
 go_wp2
 go_loop [9] (fun i => ∃ k : Nat,k ≤ m ∧ i = .int .i64 k ∧ small q (xs.take k) = true) (fun i => m - (intOf i).toNat)
 case atStart => exact ⟨0,Nat.zero_le _,rfl,by simp [small]⟩
 case round =>
  obtain ⟨k,hk,rfl,hs⟩:=hrel
  have HS:=hideIt hs
  clear hs
  by_cases hlt : k < m
  ·have hkx : k < xs.length:=by rw [← HM.out];exact hlt
   obtain ⟨b,off,cap',e1,c0⟩:=(HB.out).at k hkx
   simp only [Value.slice.injEq] at e1
   obtain ⟨rfl,e2,rfl⟩:=e1
   clear e2
   obtain ⟨x0,x1⟩:=HU.out _ (getD_mem xs k hkx)
   have hsn : Hid (small q (xs.take (k + 1)) = (small q (xs.take k) && decide (xs.getD k 0 < 2 ^ q))):=by
    simp only [Hid];rw [take_snoc xs k hkx,small_snoc]
   have hno : Hid (¬ xs.getD k 0 < 2 ^ q → small q xs = false):=small_no hkx
   obtain ⟨x,hx⟩ : ∃ x,x = xs.getD k 0:=⟨_,rfl⟩
   rw [← hx] at c0 x0 x1 hsn hno
   clear hx hkx
   have i0 : (0 : Int) ≤ (k : Int):=by omega
   have i1 : (k : Int) < (m : Int):=by omega
   by_cases hf : x < 2 ^ q
   ·have hdv : x / 2 ^ q = 0:=Int.ediv_eq_zero_of_lt x0 hf
    have d1 : (x / 2 ^ q != 0) = false:=by rw [hdv];rfl
    have HF:=hideIt hf
    clear hf hdv
    go_wp2
    go_round
    case rel => exact ⟨k + 1,by omega,by go_num,by rw [hsn.out,HS.out];simpa using HF.out⟩
    case measure => simp [intOf];omega
   ·have hdv : x / 2 ^ q ≠ 0:=by
     intro h0
     apply hf
     have:=Int.lt_ediv_add_one_mul_self x (show (0 : Int) < 2 ^ q by have:=pow_mono (Nat.zero_le q);omega)
     rw [h0] at this
     simpa using this
    have d1 : (x / 2 ^ q != 0) = true:=by simpa using hdv
    have HF:=hideIt (hno.out hf)
    clear hf hdv
    go_wp2
    go_ret
    exact ⟨by rw [HF.out];rfl,rfl⟩
  ·have hkm : k = m:=by omega
   subst hkm
   go_wp2
   go_ret
   have:=HS.out
   rw [HM.out,List.take_length] at this
   exact ⟨by rw [this];rfl,rfl⟩
theorem Bs.cap_le {k : IntKind} {w : World} {ao : Option Addr} {m cap : Nat} {xs : List Int} (h : Bs k w (.slice ao m cap) xs) : m ≤ cap:=by
 obtain ⟨ao',cap',e,hc,_⟩:=h
 simp at e
 omega
theorem sort_cell {w : World} {N s : Nat} (h : w.heap[N]? = some (.cells sortCells 161 (0,0))) (hs : s < 16) : w.cell? ⟨N,s * 2,none⟩ = some (.int .i64 (cn s)) ∧ w.cell? ⟨N,s * 2 + 1,none⟩ = some (.int .i64 (wi s)):=by
 simp only [World.cell?,h]
 obtain rfl | rfl | rfl | rfl | rfl | rfl | rfl | rfl | rfl | rfl | rfl | rfl | rfl | rfl | rfl | rfl : s = 0 ∨ s = 1 ∨ s = 2 ∨ s = 3 ∨ s = 4 ∨ s = 5 ∨ s = 6 ∨ s = 7 ∨ s = 8 ∨ s = 9 ∨ s = 10 ∨ s = 11 ∨ s = 12 ∨ s = 13 ∨ s = 14 ∨ s = 15:=by omega
 all_goals exact ⟨by kernel_rfl,by kernel_rfl⟩
def LsJ (w : World) (N : Nat) (v : Value) (xs : List Int) (a' : Act) (w' : World) : Prop :=
 Only (fun _ => False) w w' ∧ w'.heap[N]? = some (.cells sortCells 161 (0,0)) ∧ ∃ (s : Nat) (u5 u6 u8 u9 u10 u11 u12 u13 u14 u15 u16 u17 u18 u19 u20 u21 u22 u23 u24 u25 u26 u27 u28 u29 u30 : Value),
   a' = { tmps:=#[v,undef,.int .i64 0,.pointer (some ⟨N,0,none⟩),.int .i64 s,u5,u6,.agg sortCells,u8,u9,u10,u11,u12,u13,u14,u15,u16,u17,u18,u19,u20,u21,u22,u23,u24,u25,u26,u27,u28,u29,u30],defers:=[] } ∧ s ≤ 15 ∧ leastF (15 - s) s xs = least xs
def lsMu (a' : Act) (_ : World) : Nat:=(15 - intOf (a'.tmps.getD 4 undef)).toNat
theorem ls_next {w w' : World} {N : Nat} {v : Value} {xs : List Int} {s : Nat} (on : Only (fun _ => False) w w') (hN : w'.heap[N]? = some (.cells sortCells 161 (0,0))) (hs : s ≤ 15) (hl : leastF (15 - s) s xs = least xs) (hf : fitB xs s = false) (f15 : fitB xs 15 = true) (nq : Nat) (u5 u6 u8 u9 u10 u11 u12 u13 u14 u15 u16 u17 u18 u19 u20 u21 u22 u23 u24 u25 u26 u27 u28 u29 u30 : Value) :
  LsJ w N v xs { tmps:=#[v,undef,.int .i64 0,.pointer (some ⟨N,0,none⟩),.int .i64 ((s : Int) + 1),u5,u6,.agg sortCells,u8,u9,u10,u11,u12,u13,u14,u15,u16,u17,u18,u19,u20,u21,u22,u23,u24,u25,u26,u27,u28,u29,u30],defers:=[] } (w'.drewN nq):=by
 have h15 : s < 15:=by
  rcases Nat.lt_or_ge s 15 with h | h
  ·exact h
  ·rw [show s = 15 by omega,f15] at hf;cases hf
 refine ⟨on.drewN nq,hN,s + 1,u5,u6,u8,u9,u10,u11,u12,u13,u14,u15,u16,u17,u18,u19,u20,u21,u22,u23,u24,u25,u26,u27,u28,u29,u30,?_,by omega,?_⟩
 ·rw [Int.natCast_add];rfl
 ·rw [← hl,leastF_miss hf h15]
theorem ls_less {s : Nat} {xs : List Int} (hs : s ≤ 15) (hf : fitB xs s = false) (f15 : fitB xs 15 = true) : (15 - ((s : Int) + 1)).toNat < (15 - (s : Int)).toNat:=by
 have h15 : s < 15:=by
  rcases Nat.lt_or_ge s 15 with h | h
  ·exact h
  ·rw [show s = 15 by omega,f15] at hf;cases hf
 omega
set_option maxHeartbeats 800000 in
theorem leastSort_bs (v : Value) (xs : List Int) (w : World) (h : Bs .u64 w v xs) (hu : Up 60 xs) (hne : xs ≠ []) (hl : xs.length ≤ 65536) :
  Calls Tryz.prog 142 #[v] w fun e w' => e = .returned (.int .i64 (least xs)) ∧ Only (fun _ => False) w w':=by
 obtain ⟨ao,cap,rfl⟩:=h.len
 have HB:=hideIt h
 have HU:=hideIt hu
 have hcap:=h.cap_le
 have F15:=hideIt (fit15 hne hu)
 obtain ⟨m,hm⟩ : ∃ m,m = xs.length:=⟨_,rfl⟩
 rw [← hm] at HB hl hcap ⊢
 have HM:=hideIt hm
 clear h hu hm hne
 have A:=hideIt (sorts_any w)
 obtain ⟨N,hN⟩ : ∃ N,N = w.heap.size + 1:=⟨_,rfl⟩
 have HN:=hideIt hN
 clear hN
 go_enter Tryz.func142,Tryz.ntmps142
 go_wp2
 refine wp_scope_jumps 0 (LsJ w N (.slice ao m cap) xs) lsMu rfl ?_ ?_
 ·go_wp2_with fail
  refine A.out.mono ?_
  rintro e w1 ⟨rfl,hw1⟩
  have O1 : Hid (Only (fun _ => False) w w1 ∧ w1.heap.size = N):=by rw [hw1];exact ⟨(Only.refl _ _).alloc _,by rw [HN.out];simp⟩
  clear hw1 A
  go_wp2_with (refine wpList_store_row rfl 161 (.tmp 3) (.tmp 7) rfl w1.heap.size sortCells rfl rfl 161 zeroCells (heap_alloc_last w1 _) Tryz.size45 zero_sort one_sort ?_)
  rw [World.setRow_alloc_new]
  obtain ⟨w2,hw2⟩ : ∃ w2,w2 = w1.alloc (.cells sortCells 161):=⟨_,rfl⟩
  rw [← hw2,O1.out.2]
  have HON : Hid (Only (fun _ => False) w w2 ∧ w2.heap[N]? = some (.cells sortCells 161 (0,0))):=by
   rw [hw2,← O1.out.2];exact ⟨O1.out.1.alloc _,heap_alloc_last w1 _⟩
  clear hw2 O1
  have c0 : w2.cell? ⟨N,0,none⟩ = some (.int .i64 240):=(sort_cell HON.out.2 (s:=0) (by omega)).1
  have c1 : w2.cell? ⟨N,1,none⟩ = some (.int .i64 0):=(sort_cell HON.out.2 (s:=0) (by omega)).2
  go_step3
  have AF:=hideIt (fun (hx : 240 ≤ m) (nq : Nat) => allFit_bs (.slice ao (240) cap) (xs.take (240)) (wi 0) (w2.drewN nq) (((HB.out.head (n:=240) hx).keep HON.out.1 (fun _ _ f => f)).keep ((Only.refl (fun _ => False) _).drewN nq) (fun _ _ f => f)) (fun x hx => ⟨(HU.out x (List.mem_of_mem_take hx)).1,by have:=(HU.out x (List.mem_of_mem_take hx)).2;omega⟩) (sort_at 0 (by omega)).2.2.1 (by rw [List.length_take,← HM.out];omega))
  rw [show wi 0 = 0 from rfl] at AF
  by_cases hc : m < 240
  ·have dc : decide ((m : Int) < 240) = true:=by simp;omega
   have HF : Hid (fitB xs 0 = false):=by simp only [Hid,fitB];rw [decide_eq_false (by rw [← HM.out];show ¬ 240 ≤ m;omega)];rfl
   clear AF
   go_wp2
   go_quiet (fail)
   go_wp2
   go_step3
   exact @And.intro (0 = 0) (LsJ w N (.slice ao m cap) xs _ _) rfl (ls_next (s:=0) HON.out.1 HON.out.2 (by omega) rfl HF.out F15.out _ _ _ _ _ _ _ _ _ _ _ _ _ _ _ _ _ _ _ _ _ _ _ _ _ _)
  ·have dc : decide ((m : Int) < 240) = false:=by simp;omega
   have j0 : (0 : Int) ≤ 240:=by omega
   have j1 : 240 ≤ (m : Int):=by omega
   have j2 : 240 ≤ (cap : Int):=by omega
   have AG:=hideIt (AF.out (by omega))
   have HFE : Hid (fitB xs 0 = small (wi 0) (xs.take (cn 0))):=by simp only [Hid,fitB];rw [decide_eq_true (by rw [← HM.out];show 240 ≤ m;omega)];rfl
   rw [show wi 0 = 0 from rfl,show cn 0 = 240 from rfl] at HFE
   clear AF
   cases hsm : small 0 (xs.take 240)
   ·rw [hsm] at AG HFE
    clear hsm
    go_wp2
    go_quiet (fail)
    go_wp2_with fail
    refine (AG.out nq).mono ?_
    rintro e w3 ⟨rfl,rfl⟩
    go_wp2
    go_step3
    exact @And.intro (0 = 0) (LsJ w N (.slice ao m cap) xs _ _) rfl (ls_next (s:=0) HON.out.1 HON.out.2 (by omega) rfl HFE.out F15.out _ _ _ _ _ _ _ _ _ _ _ _ _ _ _ _ _ _ _ _ _ _ _ _ _ _)
   ·rw [hsm] at AG HFE
    clear hsm
    go_wp2
    go_quiet (fail)
    go_wp2_with fail
    refine (AG.out nq).mono ?_
    rintro e w3 ⟨rfl,rfl⟩
    go_wp2
    simp only [Exit.jump]
    go_ret
    refine ⟨ret_int ?_,HON.out.1.drewN nq⟩
    rw [show least xs = 0 from leastF_hit HFE.out 15];rfl
 ·rintro a' w' ⟨on,hN,s,u5,u6,u8,u9,u10,u11,u12,u13,u14,u15,u16,u17,u18,u19,u20,u21,u22,u23,u24,u25,u26,u27,u28,u29,u30,rfl,hs,hleast⟩
  have c0:=(sort_cell hN (s:=s) (by omega)).1
  have c1:=(sort_cell hN (s:=s) (by omega)).2
  have HON:=hideIt (And.intro on hN)
  have HL:=hideIt hleast
  have s0 : (0 : Int) ≤ (s : Int):=by omega
  have s1 : (s : Int) < 16:=by omega
  clear on hN hleast
  have AF:=hideIt (fun (hx : cn s ≤ m) (nq : Nat) => allFit_bs (.slice ao (cn s) cap) (xs.take (cn s)) (wi s) (w'.drewN nq) (((HB.out.head (n:=cn s) hx).keep HON.out.1 (fun _ _ f => f)).keep ((Only.refl (fun _ => False) _).drewN nq) (fun _ _ f => f)) (fun x hx => ⟨(HU.out x (List.mem_of_mem_take hx)).1,by have:=(HU.out x (List.mem_of_mem_take hx)).2;omega⟩) (sort_at s (by omega)).2.2.1 (by rw [List.length_take,← HM.out];omega))
  by_cases hc : m < cn s
  ·have dc : decide ((m : Int) < ((cn s : Nat) : Int)) = true:=by simp;omega
   have dn : decide (m < cn s) = true:=decide_eq_true hc
   have HF : Hid (fitB xs s = false):=by simp only [Hid,fitB];rw [decide_eq_false (by rw [← HM.out];omega)];rfl
   clear AF
   go_wp2
   go_quiet (fail)
   go_wp2
   go_step3
   exact @And.intro (0 = 0) (LsJ w N (.slice ao m cap) xs _ _ ∧ _) rfl ⟨ls_next HON.out.1 HON.out.2 hs HL.out HF.out F15.out _ _ _ _ _ _ _ _ _ _ _ _ _ _ _ _ _ _ _ _ _ _ _ _ _ _,ls_less hs HF.out F15.out⟩
  ·have dc : decide ((m : Int) < ((cn s : Nat) : Int)) = false:=by simp;omega
   have dn : decide (m < cn s) = false:=decide_eq_false hc
   have j0 : (0 : Int) ≤ ((cn s : Nat) : Int):=by omega
   have j1 : ((cn s : Nat) : Int) ≤ (m : Int):=by omega
   have j2 : ((cn s : Nat) : Int) ≤ (cap : Int):=by omega
   have AG:=hideIt (AF.out (by omega))
   have HFE : Hid (fitB xs s = small (wi s) (xs.take (cn s))):=by simp only [Hid,fitB];rw [decide_eq_true (by rw [← HM.out];omega)];rfl
   clear AF
   cases hsm : small (wi s) (xs.take (cn s))
   ·rw [hsm] at AG HFE
    clear hsm
    go_wp2
    go_quiet (fail)
    go_wp2_with fail
    refine (AG.out nq).mono ?_
    rintro e w3 ⟨rfl,rfl⟩
    go_wp2
    go_step3
    exact @And.intro (0 = 0) (LsJ w N (.slice ao m cap) xs _ _ ∧ _) rfl ⟨ls_next HON.out.1 HON.out.2 hs HL.out HFE.out F15.out _ _ _ _ _ _ _ _ _ _ _ _ _ _ _ _ _ _ _ _ _ _ _ _ _ _,ls_less hs HFE.out F15.out⟩
   ·rw [hsm] at AG HFE
    clear hsm
    go_wp2
    go_quiet (fail)
    go_wp2_with fail
    refine (AG.out nq).mono ?_
    rintro e w3 ⟨rfl,rfl⟩
    go_wp2
    simp only [Exit.jump]
    go_ret
    refine ⟨ret_int ?_,HON.out.1.drewN nq⟩
    rw [← HL.out,leastF_hit HFE.out]
end Go.Proofs.YthapipgaohlgdaaGreatDoor
