/- What the statements ask of Stream, plain. -/
import Derived.Test.YtikoabnkoicdjaaAw15
import Derived.Test.YtikoabnkoicdjaaSt
namespace Go.Proofs.Ytikoabnkoicdjaa
open Go.RowKit

theorem Bs.form {k : IntKind} {w : World} {v : Value} {xs : List Int} (h : Bs k w v xs) {n : Nat} (hn : xs.length = n) : ∃ ao cap, v = .slice ao n cap := by
  obtain ⟨ao, cap, e⟩ := h.len
  exact ⟨ao, cap, by rw [e, hn]⟩
theorem SR_ok {key nonce : List Int} {ctr n : Nat} (h : KN key nonce) (hf : fitsC ctr n) : SRe key ctr nonce n = 0 := by unfold SRe; rw [if_pos h, if_pos hf]
theorem SR_okL {key nonce xs : List Int} {ctr : Nat} (h : KN key nonce) (hf : fitsC ctr xs.length) : SRt key ctr nonce xs = STR key ctr nonce xs := by unfold SRt; rw [if_pos h, if_pos hf]
theorem SR_no {key nonce : List Int} {ctr n : Nat} (h : ¬ (KN key nonce ∧ fitsC ctr n)) : SRe key ctr nonce n = 1 ∨ SRe key ctr nonce n = 4 := by
  unfold SRe
  by_cases h1 : KN key nonce
  · rw [if_pos h1, if_neg (fun h2 => h ⟨h1, h2⟩)]; exact Or.inr rfl
  · rw [if_neg h1]; exact Or.inl rfl
theorem SR_noL {key nonce xs : List Int} {ctr : Nat} (h : ¬ (KN key nonce ∧ fitsC ctr xs.length)) : SRt key ctr nonce xs = [] := by
  unfold SRt
  by_cases h1 : KN key nonce
  · rw [if_pos h1, if_neg (fun h2 => h ⟨h1, h2⟩)]
  · rw [if_neg h1]
/-- Stream, where it answers -/
theorem stream_ok {vk vn vb : Value} {key nonce xs : List Int} {ctr : Nat} (h : KN key nonce) {n : Nat} (hn : xs.length = n) (hf : fitsC ctr n) (hc : ctr < 4294967296) (k8 : U8 key) (n8 : U8 nonce) (x8 : U8 xs) (hl : n ≤ 1000000000000) (w : World) (bk : Bs .u8 w vk key) (bn : Bs .u8 w vn nonce) (bb : Bs .u8 w vb xs) :
    Calls Try.prog 15 #[vk, .int .u32 ctr, vn, vb] w fun e w' => ∃ v, e = .returned (.tuple #[v, .int .i64 0]) ∧ Bs .u8 w' v (STR key ctr nonce xs) ∧ NoCap v ∧ Only (fun _ => False) w w' := by
  subst hn
  have := stream_any vk vn vb key nonce xs ctr hc k8 n8 x8 hl w bk bn bb
  rwa [SR_ok h hf, SR_okL h hf] at this
/-- .. and where it answers nothing -/
theorem stream_no {vk vn vb : Value} {key nonce xs : List Int} {ctr : Nat} {n : Nat} (hn : xs.length = n) (h : ¬ (KN key nonce ∧ fitsC ctr n)) (hc : ctr < 4294967296) (k8 : U8 key) (n8 : U8 nonce) (x8 : U8 xs) (hl : n ≤ 1000000000000) (w : World) (bk : Bs .u8 w vk key) (bn : Bs .u8 w vn nonce) (bb : Bs .u8 w vb xs) :
    Calls Try.prog 15 #[vk, .int .u32 ctr, vn, vb] w fun e w' => ∃ ao cap E, e = .returned (.tuple #[.slice ao 0 cap, .int .i64 E]) ∧ (E != 0) = true ∧ Only (fun _ => False) w w' := by
  subst hn
  refine (stream_any vk vn vb key nonce xs ctr hc k8 n8 x8 hl w bk bn bb).mono ?_
  rintro e w' ⟨v, rfl, b, _, o⟩
  rw [SR_noL h] at b
  obtain ⟨ao, cap, rfl⟩ := b.form rfl
  refine ⟨ao, cap, _, rfl, ?_, o⟩
  rcases SR_no h with e | e <;> rw [e] <;> rfl
end Go.Proofs.Ytikoabnkoicdjaa
