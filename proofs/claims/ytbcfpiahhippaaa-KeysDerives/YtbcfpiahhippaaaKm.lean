/- Keys made of a key, and nonces: plain facts, ahead of package keys. -/
import Derived.Test.YtbcfpiahhippaaaHm
import Derived.Test.YtbcfpiahhippaaaCu3
import Derived.Test.YtbcfpiahhippaaaG2
namespace Go.Proofs.Ytbcfpiahhippaaa

/-- the text that goes into a key -/
def KTX (p : Int) (nm : List Int) : List Int := p :: blk nm
/-- the key of a key, a purpose and a name -/
def KDV (key : List Int) (p : Int) (nm : List Int) : List Int := EXPL key (KTX p nm) 32
/-- version and index, the highest byte first -/
def NTX (v i : Int) : List Int := fixL v 8 ++ fixL i 4
def KNC (key : List Int) (v i : Int) : List Int := (MACL (KDV key 3 []) (NTX v i)).take 12
/-- the answers: bytes and what went wrong -/
def KDt (key : List Int) (p : Int) (nm : List Int) : List Int := if key.length = 32 then (if nm.length ≤ 64 then KDV key p nm else []) else []
def KDe (key nm : List Int) : Int := if key.length = 32 then (if nm.length ≤ 64 then 0 else 4) else 1
abbrev KIX (i : Int) : Prop := 0 ≤ i ∧ i < 1048576
def KNt (key : List Int) (v i : Int) : List Int := if key.length = 32 then (if KIX i then KNC key v i else []) else []
def KNe (key : List Int) (i : Int) : Int := if key.length = 32 then (if KIX i then 0 else 1) else 1
theorem KTX_small (p : Int) (nm : List Int) (h : nm.length ≤ 127) : KTX p nm = p :: (nm.length : Int) :: nm := by rw [KTX, blk_small h]
theorem KTX_len (p : Int) (nm : List Int) (h : nm.length ≤ 127) : (KTX p nm).length = nm.length + 2 := by rw [KTX_small p nm h]; simp
theorem KTX_u8 {p : Int} {nm : List Int} (hp : 0 ≤ p ∧ p ≤ 255) (h : U8 nm) : U8 (KTX p nm) := fun y hy => by
  rcases List.mem_cons.1 hy with rfl | hy
  · exact hp
  · exact blk_range nm h y hy
/-- no two have the same text -/
theorem KTX_inj {p q : Int} {a b : List Int} (ha : a.length ≤ 127) (hb : b.length ≤ 127) : KTX p a = KTX q b ↔ p = q ∧ a = b := by
  rw [KTX_small p a ha, KTX_small q b hb]
  constructor
  · intro h
    simp only [List.cons.injEq] at h
    exact ⟨h.1, h.2.2⟩
  · rintro ⟨rfl, rfl⟩; rfl
theorem KTX_one_inj {p q : Int} {a b : List Int} (ha : a.length ≤ 127) (hb : b.length ≤ 127) : KTX p a ++ [1] = KTX q b ++ [1] ↔ p = q ∧ a = b := by
  rw [← KTX_inj ha hb]
  constructor
  · exact List.append_cancel_right
  · intro h; rw [h]
theorem KDV_one (key : List Int) (p : Int) (nm : List Int) : KDV key p nm = MACL key (KTX p nm ++ [1]) := EXPL_one _ _
theorem KDV_len (key : List Int) (p : Int) (nm : List Int) : (KDV key p nm).length = 32 := EXPL_len _ _ _
theorem KDV_u8 (key : List Int) (p : Int) (nm : List Int) : U8 (KDV key p nm) := EXPL_u8 _ _ _
theorem NTX_len (v i : Int) : (NTX v i).length = 12 := by simp [NTX, fixL_len]
theorem NTX_u8 (v i : Int) : U8 (NTX v i) := by
  intro y hy
  rcases List.mem_append.1 hy with h | h
  · exact fixL_range _ _ y h
  · exact fixL_range _ _ y h
theorem KNC_len (key : List Int) (v i : Int) : (KNC key v i).length = 12 := by rw [KNC, List.length_take, MACL_len]; rfl
theorem KNC_u8 (key : List Int) (v i : Int) : U8 (KNC key v i) := (MACL_u8 _ _).take _
theorem KDt_len (key : List Int) (p : Int) (nm : List Int) : (KDt key p nm).length ≤ 32 := by
  unfold KDt
  split
  · split
    · rw [KDV_len]; exact Nat.le_refl _
    · exact Nat.zero_le _
  · exact Nat.zero_le _
theorem KNt_len (key : List Int) (v i : Int) : (KNt key v i).length ≤ 12 := by
  unfold KNt
  split
  · split
    · rw [KNC_len]; exact Nat.le_refl _
    · exact Nat.zero_le _
  · exact Nat.zero_le _
/-- four bytes of an index below 2^20, one by one -/
theorem fix4_index (i : Int) (h : KIX i) : fixL i 4 = [0, i / 65536 % 256, i / 256 % 256, i % 256] := by
  have e0 : i / 16777216 % 256 = 0 := by omega
  simp [fixL, fixB, List.range_succ, e0]
theorem fixL_push (v : Int) (n : Nat) : fixL v (n + 1) = fixB v n :: fixL v n := by
  unfold fixL
  rw [List.range_succ_eq_map, List.map_cons, List.map_map]
  simp only [Nat.add_sub_cancel, Nat.sub_zero, List.cons.injEq, true_and]
  refine List.map_congr_left (fun j hj => ?_)
  simp only [Function.comp]
  rw [show n - (j + 1) = n - 1 - j by omega]
/-- bytes of a number, the highest first: the first k of them -/
theorem fixL_first (v : Int) (n k : Nat) (h : k < n) : (fixL v n).take (k + 1) = (fixL v n).take k ++ [fixB v (n - 1 - k)] := by
  have hl := fixL_len v n
  rw [List.take_add_one, List.getElem?_eq_getElem (by omega)]
  simp [fixL]
end Go.Proofs.Ytbcfpiahhippaaa
