/- Bits in bytes; what a bit writer is in memory. -/
import Derived.Test.YtgnaeajfajineaaMath
import Derived.Test.YtgnaeajfajineaaBase
namespace Go.Proofs.Ytgnaeajfajineaa
open Go.RowKit

/-! bits in bytes -/
def byteAt (l : List Bool) (j : Nat) : Nat :=
  (l.getD (8 * j) false).toNat * 128 + (l.getD (8 * j + 1) false).toNat * 64 + (l.getD (8 * j + 2) false).toNat * 32 + (l.getD (8 * j + 3) false).toNat * 16 +
  (l.getD (8 * j + 4) false).toNat * 8 + (l.getD (8 * j + 5) false).toNat * 4 + (l.getD (8 * j + 6) false).toNat * 2 + (l.getD (8 * j + 7) false).toNat
def nb (l : List Bool) : Nat := (l.length + 7) / 8
def byteVals (l : List Bool) : List Value := (List.range (nb l)).map fun j => .int .u8 (byteAt l j)

theorem bool_le (b : Bool) : b.toNat ≤ 1 := by cases b <;> simp
theorem byteAt_lt (l : List Bool) (j : Nat) : byteAt l j < 256 := by
  unfold byteAt
  have h0 := bool_le (l.getD (8 * j) false); have h1 := bool_le (l.getD (8 * j + 1) false); have h2 := bool_le (l.getD (8 * j + 2) false); have h3 := bool_le (l.getD (8 * j + 3) false)
  have h4 := bool_le (l.getD (8 * j + 4) false); have h5 := bool_le (l.getD (8 * j + 5) false); have h6 := bool_le (l.getD (8 * j + 6) false); have h7 := bool_le (l.getD (8 * j + 7) false)
  omega
theorem getD_out (l : List Bool) (i : Nat) (h : l.length ≤ i) : l.getD i false = false := by
  rw [List.getD_eq_getElem?_getD, List.getElem?_eq_none h]; rfl
theorem getD_snoc (l : List Bool) (b : Bool) (i : Nat) : (l ++ [b]).getD i false = if i = l.length then b else l.getD i false := by
  rw [List.getD_eq_getElem?_getD, List.getD_eq_getElem?_getD, List.getElem?_append]
  by_cases h : i < l.length
  · rw [if_pos h, if_neg (by omega)]
  · rw [if_neg h]
    by_cases h2 : i = l.length
    · subst h2; simp
    · rw [if_neg h2, List.getElem?_eq_none (by simp; omega), List.getElem?_eq_none (by omega)]
theorem byteAt_snoc_other (l : List Bool) (b : Bool) (j : Nat) (h : j ≠ l.length / 8) : byteAt (l ++ [b]) j = byteAt l j := by
  simp only [byteAt, getD_snoc]
  repeat rw [if_neg (by omega)]
theorem byteAt_snoc_add (l : List Bool) (b : Bool) (j r : Nat) (h : l.length = 8 * j + r) (hr : r < 8) :
    byteAt (l ++ [b]) j = byteAt l j + b.toNat * 2 ^ (7 - r) ∧ byteAt l j % 2 ^ (8 - r) = 0 := by
  have e : r = 0 ∨ r = 1 ∨ r = 2 ∨ r = 3 ∨ r = 4 ∨ r = 5 ∨ r = 6 ∨ r = 7 := by omega
  have ho : ∀ i, l.length ≤ i → l.getD i false = false := getD_out l
  have h0 := bool_le (l.getD (8 * j) false); have h1 := bool_le (l.getD (8 * j + 1) false); have h2 := bool_le (l.getD (8 * j + 2) false); have h3 := bool_le (l.getD (8 * j + 3) false)
  have h4 := bool_le (l.getD (8 * j + 4) false); have h5 := bool_le (l.getD (8 * j + 5) false); have h6 := bool_le (l.getD (8 * j + 6) false); have h7 := bool_le (l.getD (8 * j + 7) false)
  simp only [byteAt, getD_snoc, h]
  rcases e with rfl | rfl | rfl | rfl | rfl | rfl | rfl | rfl
  · rw [ho (8 * j) (by omega), ho (8 * j + 1) (by omega), ho (8 * j + 2) (by omega), ho (8 * j + 3) (by omega), ho (8 * j + 4) (by omega), ho (8 * j + 5) (by omega), ho (8 * j + 6) (by omega), ho (8 * j + 7) (by omega)]
    simp
  · rw [ho (8 * j + 1) (by omega), ho (8 * j + 2) (by omega), ho (8 * j + 3) (by omega), ho (8 * j + 4) (by omega), ho (8 * j + 5) (by omega), ho (8 * j + 6) (by omega), ho (8 * j + 7) (by omega)]
    simp <;> omega
  · rw [ho (8 * j + 2) (by omega), ho (8 * j + 3) (by omega), ho (8 * j + 4) (by omega), ho (8 * j + 5) (by omega), ho (8 * j + 6) (by omega), ho (8 * j + 7) (by omega)]
    simp <;> omega
  · rw [ho (8 * j + 3) (by omega), ho (8 * j + 4) (by omega), ho (8 * j + 5) (by omega), ho (8 * j + 6) (by omega), ho (8 * j + 7) (by omega)]
    simp <;> omega
  · rw [ho (8 * j + 4) (by omega), ho (8 * j + 5) (by omega), ho (8 * j + 6) (by omega), ho (8 * j + 7) (by omega)]
    simp <;> omega
  · rw [ho (8 * j + 5) (by omega), ho (8 * j + 6) (by omega), ho (8 * j + 7) (by omega)]
    simp <;> omega
  · rw [ho (8 * j + 6) (by omega), ho (8 * j + 7) (by omega)]
    simp <;> omega
  · rw [ho (8 * j + 7) (by omega)]
    simp <;> omega

/-- THE BYTE BEHIND putBit's store. -/
theorem byte_or (l : List Bool) (b : Bool) (n : Nat) (hn : l.length = n) :
    bits .or .u8 (byteAt l (n / 8)) ((b.toNat : Int) * 2 ^ (7 - n % 8) % 256) = byteAt (l ++ [b]) (n / 8) := by
  obtain ⟨h1, h2⟩ := byteAt_snoc_add l b (n / 8) (n % 8) (by omega) (by omega)
  have hp : 2 ^ (7 - n % 8) ≤ 128 := by
    have : 2 ^ (7 - n % 8) ≤ 2 ^ 7 := Nat.pow_le_pow_right (by omega) (by omega)
    simpa using this
  have hb := bool_le b
  have hm : b.toNat * 2 ^ (7 - n % 8) ≤ 128 := by
    have := Nat.mul_le_mul_right (2 ^ (7 - n % 8)) hb
    omega
  have e : ((b.toNat : Int) * 2 ^ (7 - n % 8) % 256) = ((b.toNat * 2 ^ (7 - n % 8) : Nat) : Int) := by
    have : ((b.toNat : Int) * 2 ^ (7 - n % 8)) = ((b.toNat * 2 ^ (7 - n % 8) : Nat) : Int) := by simp
    rw [this]; omega
  rw [e, u8_or_nat _ _ (byteAt_lt _ _) (by omega), h1, nat_join (8 - n % 8) _ _ h2]
  have : 2 ^ (8 - n % 8) = 2 * 2 ^ (7 - n % 8) := by
    rw [show 8 - n % 8 = (7 - n % 8) + 1 by omega, Nat.pow_succ]; omega
  have h1 : b.toNat * 2 ^ (7 - n % 8) ≤ 1 * 2 ^ (7 - n % 8) := Nat.mul_le_mul_right _ hb
  have h2 := Nat.two_pow_pos (7 - n % 8)
  omega

theorem byteVals_length (l : List Bool) : (byteVals l).length = nb l := by simp [byteVals]
theorem byteVals_get (l : List Bool) (i : Nat) : (byteVals l)[i]? = if i < nb l then some (.int .u8 (byteAt l i)) else none := by
  unfold byteVals
  by_cases h : i < nb l
  · simp [h]
  · simp [h]
theorem byteVals_mid (l : List Bool) (b : Bool) (h : l.length % 8 ≠ 0) : (byteVals l).set (l.length / 8) (.int .u8 (byteAt (l ++ [b]) (l.length / 8))) = byteVals (l ++ [b]) := by
  have hn : nb (l ++ [b]) = nb l := by unfold nb; simp; omega
  apply List.ext_getElem?
  intro i
  rw [List.getElem?_set, byteVals_get, byteVals_get, byteVals_length, hn]
  by_cases hi : l.length / 8 = i
  · subst hi; rw [if_pos rfl]
  · rw [if_neg hi, byteAt_snoc_other _ _ _ (Ne.symm hi)]
theorem byteVals_new (l : List Bool) (b : Bool) (h : l.length % 8 = 0) : (byteVals l ++ [Value.int .u8 0]).set (l.length / 8) (.int .u8 (byteAt (l ++ [b]) (l.length / 8))) = byteVals (l ++ [b]) := by
  have hn : nb (l ++ [b]) = nb l + 1 := by unfold nb; simp; omega
  have hj : l.length / 8 = nb l := by unfold nb; omega
  apply List.ext_getElem?
  intro i
  rw [List.getElem?_set, List.length_append, byteVals_length, List.getElem?_append, byteVals_get, byteVals_get, byteVals_length, hn]
  by_cases hi : l.length / 8 = i
  · subst hi; rw [if_pos rfl, hj]; simp
  · rw [if_neg hi, byteAt_snoc_other _ _ _ (Ne.symm hi)]
    by_cases h1 : i < nb l
    · rw [if_pos h1, if_pos h1, if_pos (by omega)]
    · rw [if_neg h1, if_neg (by omega), List.getElem?_eq_none (by simp; omega)]
theorem nb_snoc (l : List Bool) (b : Bool) : nb (l ++ [b]) = if l.length % 8 = 0 then nb l + 1 else nb l := by
  unfold nb; simp; split <;> omega

/-! a bit writer in memory: at block B lies the struct, its slice is v, its rows lie from lo on -/
structure WrAt (T E : TypeId) (w : World) (lo B : Nat) (v : Value) (l : List Bool) : Prop where
  own : w.ownsRow lo E 1 v (nb l) (byteVals l)
  cell : w.heap[B]? = some (.cells #[v, .int .i64 l.length] T (0, 0))
  lt : B < lo
  le : lo ≤ w.heap.size
/-- the blocks that a writer's calls may turn -/
def Foot (B : Nat) (v : Value) (k : Nat) : Prop := k = B ∨ v.ownBlock = some k
/-- where the slice lies behind a call: where it lay, or in a new block -/
def Stays (w : World) (v v' : Value) : Prop := v'.ownBlock = v.ownBlock ∨ ∀ k, v'.ownBlock = some k → w.heap.size ≤ k

theorem WrAt.keep {T E : TypeId} {w w' : World} {lo B : Nat} {v : Value} {l : List Bool} (h : WrAt T E w lo B v l) {S : Nat → Prop} (ho : Only S w w') (hB : ¬ S B) (hv : ∀ k, v.ownBlock = some k → ¬ S k) : WrAt T E w' lo B v l :=
  ⟨ho.own h.own hv, ho.heap h.cell hB, h.lt, Nat.le_trans h.le ho.size⟩
theorem WrAt.new {T E : TypeId} (w : World) : WrAt T E (w.alloc (.cells #[.slice none 0 0, .int .i64 0] T)) (w.heap.size + 1) w.heap.size (.slice none 0 0) [] :=
  ⟨by simpa [nb, byteVals] using World.ownsRow_nil _ _ _ _, heap_alloc_new w _, by omega, by simp⟩
theorem Stays.refl (w : World) (v : Value) : Stays w v v := .inl rfl
theorem Stays.trans {w w' : World} {a b c : Value} (h : Stays w a b) (k : Stays w' b c) (hs : w.heap.size ≤ w'.heap.size) : Stays w a c := by
  rcases k with k | k
  · rcases h with h | h
    · exact .inl (k.trans h)
    · exact .inr fun i hi => h i (by rw [← k]; exact hi)
  · exact .inr fun i hi => Nat.le_trans hs (k i hi)
theorem foot_stays {w : World} {B : Nat} {v v' : Value} (hs : Stays w v v') : ∀ i, i < w.heap.size → Foot B v' i → Foot B v i := by
  intro i hi h
  rcases h with h | h
  · exact .inl h
  · rcases hs with hs | hs
    · exact .inr (by rw [← hs]; exact h)
    · have := hs i h; omega
end Go.Proofs.Ytgnaeajfajineaa
