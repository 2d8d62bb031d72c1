/- Patterns by their place: with the same held against all of them the places stay; how many firsts there are. -/
import Derived.Test.YtgnaeajfajineaaDk2
namespace Go.Proofs.Ytgnaeajfajineaa
open Go.RowKit

def xm (M : Nat) (x : Int) : Int := ((x.toNat ^^^ M : Nat) : Int)
theorem xm_inj {M : Nat} {x y : Int} (hx : 0 ≤ x) (hy : 0 ≤ y) (h : xm M x = xm M y) : x = y := by
  unfold xm at h
  have h1 : x.toNat ^^^ M = y.toNat ^^^ M := by omega
  have h2 : (x.toNat ^^^ M) ^^^ M = (y.toNat ^^^ M) ^^^ M := by rw [h1]
  rw [Nat.xor_assoc, Nat.xor_assoc, Nat.xor_self, Nat.xor_zero, Nat.xor_zero] at h2
  omega
theorem xm_mem {M : Nat} {d : List Int} {x : Int} (hd : U64 d) (hx : 0 ≤ x) : xm M x ∈ d.map (xm M) ↔ x ∈ d := by
  constructor
  · intro h
    obtain ⟨y, hy, e⟩ := List.mem_map.1 h
    rw [← xm_inj (hd y hy).1 hx e]
    exact hy
  · exact fun h => List.mem_map_of_mem h
theorem dct_xm {M : Nat} (l : List Int) : ∀ d : List Int, U64 d → U64 l → dct (d.map (xm M)) (l.map (xm M)) = (dct d l).map (xm M) := by
  induction l with
  | nil => intro d _ _; rfl
  | cons x t ih =>
    intro d hd hl
    have hx := hl x List.mem_cons_self
    have ht : U64 t := fun y hy => hl y (List.mem_cons_of_mem _ hy)
    rw [List.map_cons, dct, dct]
    by_cases h : x ∈ d
    · rw [if_pos h, if_pos ((xm_mem hd hx.1).2 h), ih d hd ht]
    · rw [if_neg h, if_neg (fun e => h ((xm_mem hd hx.1).1 e))]
      have e : d.map (xm M) ++ [xm M x] = (d ++ [x]).map (xm M) := by simp
      rw [e, ih (d ++ [x]) (fun y hy => by
        rcases List.mem_append.1 hy with h1 | h1
        · exact hd y h1
        · simp at h1; rw [h1]; exact hx) ht]
theorem dic_xm {M : Nat} {l : List Int} (hu : U64 l) : dic (l.map (xm M)) = (dic l).map (xm M) := dct_xm l [] (fun x hx => by simp at hx) hu
theorem plc_xm {M : Nat} {x : Int} (hx : 0 ≤ x) : ∀ (d : List Int), U64 d → plc (d.map (xm M)) (xm M x) = plc d x
  | [], _ => rfl
  | y :: t, hd => by
    have hy := hd y List.mem_cons_self
    have ih := plc_xm (M := M) hx t (fun z hz => hd z (List.mem_cons_of_mem _ hz))
    unfold plc at *
    rw [List.map_cons, List.idxOf_cons, List.idxOf_cons, ih]
    by_cases e : y = x
    · subst e; simp
    · have e2 : (xm M y == xm M x) = false := by
        rw [beq_eq_false_iff_ne]; exact fun h => e (xm_inj hy.1 hx h)
      have e3 : (y == x) = false := by rw [beq_eq_false_iff_ne]; exact e
      rw [e2, e3]
theorem tail10_xm {M : Nat} {l : List Int} (hu : U64 l) : tail10 (dic (l.map (xm M))) (l.map (xm M)) = tail10 (dic l) l := by
  rw [dic_xm hu]
  unfold tail10
  rw [List.length_map, List.map_map]
  congr 1
  apply List.map_congr_left
  intro x hx
  exact plc_xm (hu x hx).1 (dic l) (dic_u64 hu)
/-- what stays, and where: the head, and what stands behind the dictionary -/
theorem ENC10_xm {M : Nat} {l : List Int} (hu : U64 l) (hl : l.length ≤ 65536) : (ENC10 (l.map (xm M))).1.length = (ENC10 l).1.length ∧
    (ENC10 (l.map (xm M))).1.take (gs (dic l).length).length = (ENC10 l).1.take (gs (dic l).length).length ∧
    (ENC10 (l.map (xm M))).1.drop ((gs (dic l).length).length + 8 * (dic l).length) = (ENC10 l).1.drop ((gs (dic l).length).length + 8 * (dic l).length) := by
  have e := tail10_xm (M := M) hu
  rw [ENC10_of hl, ENC10_of (by rw [List.length_map]; exact hl), e, dic_xm hu, List.length_map]
  simp only
  refine ⟨?_, ?_, ?_⟩
  · rw [List.length_append, List.length_append, List.length_append, List.length_append, fx8_len, fx8_len, List.length_map]
  · rw [List.take_left, List.take_left]
  · rw [← List.drop_drop, ← List.drop_drop, List.drop_left, List.drop_left, List.drop_left' (by rw [fx8_len, List.length_map]), List.drop_left' (fx8_len _)]
/-- how many of the first k are there for the first time -/
def firsts (l : List Int) (k : Nat) : Nat := (dic (l.take k)).length
theorem firsts_step (l : List Int) (k : Nat) (h : k < l.length) : firsts l (k + 1) = firsts l k + if l.getD k 0 ∈ l.take k then 0 else 1 := by
  unfold firsts
  rw [List.take_add_one, List.getElem?_eq_getElem h, Option.toList_some, dic_snoc]
  have e : l.getD k 0 = l[k] := by rw [List.getD_eq_getElem?_getD, List.getElem?_eq_getElem h]; rfl
  rw [e]
  by_cases hm : l[k] ∈ l.take k
  · rw [if_pos ((dic_mem _ _).2 hm), if_pos hm]; rfl
  · rw [if_neg (fun e => hm ((dic_mem _ _).1 e)), if_neg hm, List.length_append]; rfl
theorem firsts_all (l : List Int) : firsts l l.length = (dic l).length := by unfold firsts; rw [List.take_length]
theorem gs_head {n : Nat} (h : n ≤ 16383) : (gs n).length = if 127 < n then 2 else 1 := by
  by_cases h1 : 127 < n
  · rw [if_pos h1, gs_big (by omega), List.length_cons, gs_small (by omega)]; rfl
  · rw [if_neg h1, gs_small (by omega)]; rfl
end Go.Proofs.Ytgnaeajfajineaa
