/- Strings and lists of bytes: plain facts. -/
import Derived.Test.YtbcfpiahhippaaaBase
import Derived.Laws.IdiomStrings
import Derived.Laws.BytesArg
namespace Go.Proofs.Ytbcfpiahhippaaa
open Go.RowKit

def sb (s : ByteArray) : List Int := s.data.toList.map fun c => (c.toNat : Int)
theorem sb_len (s : ByteArray) : (sb s).length = s.size := by simp [sb]
theorem sb_range (s : ByteArray) : ∀ y ∈ sb s, 0 ≤ y ∧ y ≤ 255 := by
  intro y hy
  simp only [sb, List.mem_map] at hy
  obtain ⟨c, _, rfl⟩ := hy
  have := c.toNat_lt
  omega
theorem of_sb (s : ByteArray) : strOfNums (sb s) = s := by
  unfold strOfNums sb
  rw [List.map_map]
  have : s.data.toList.map ((fun n : Int => UInt8.ofNat n.toNat) ∘ fun c : UInt8 => (c.toNat : Int)) = s.data.toList := by
    refine (List.map_congr_left (g := id) (fun x _ => ?_)).trans (List.map_id _)
    simp
  rw [this]
theorem sb_of {l : List Int} (h : ∀ y ∈ l, 0 ≤ y ∧ y ≤ 255) : sb (strOfNums l) = l := by
  unfold strOfNums sb
  rw [List.map_map]
  refine (List.map_congr_left (g := id) (fun x hx => ?_)).trans (List.map_id _)
  have := h x hx
  simp only [Function.comp, id]
  rw [UInt8.toNat_ofNat']
  omega
theorem sb_inj {s t : ByteArray} (h : sb s = sb t) : s = t := by rw [← of_sb s, ← of_sb t, h]
end Go.Proofs.Ytbcfpiahhippaaa
