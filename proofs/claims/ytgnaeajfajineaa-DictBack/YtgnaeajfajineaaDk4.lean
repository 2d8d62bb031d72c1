/- The dictionary as a map from patterns to places. -/
import Derived.Test.YtgnaeajfajineaaDk
import Derived.Maps.OwnSet
import Derived.Maps.OwnOps
namespace Go.Proofs.Ytgnaeajfajineaa
open Go.RowKit Go.Maps

def DMf : Nat → DataW Unit → List Int → DataW Unit
  | _, m, [] => m
  | i, m, x :: t => DMf (i + 1) (m.put (.int .u64 x) (.lit (.int .i64 (i : Int)))) t
/-- what the map holds: each pattern's place -/
def DM (d : List Int) : DataW Unit := DMf 0 (.map []) d
theorem DMf_snoc (t : List Int) (x : Int) : ∀ (i : Nat) (m : DataW Unit), DMf i m (t ++ [x]) = (DMf i m t).put (.int .u64 x) (.lit (.int .i64 ((i + t.length : Nat) : Int))) := by
  induction t with
  | nil => intro i m; simp [DMf]
  | cons y t ih =>
    intro i m
    rw [List.cons_append, DMf, ih, DMf, List.length_cons, show i + 1 + t.length = i + (t.length + 1) by omega]
theorem DM_snoc (d : List Int) (x : Int) : DM (d ++ [x]) = (DM d).put (.int .u64 x) (.lit (.int .i64 (d.length : Int))) := by
  unfold DM; rw [DMf_snoc, Nat.zero_add]
theorem key_ne {x y : Int} (h : x ≠ y) : (Lit.int .u64 x) ≠ (Lit.int .u64 y) := by
  intro e; simp at e; exact h e
theorem DMf_has (x : Int) (hk : ∀ y : Int, WideAt.IsKeyLit (Lit.int .u64 y)) (t : List Int) : ∀ (i : Nat) (m : DataW Unit), IsMap m → Maps.has (DMf i m t) (.int .u64 x) = (Maps.has m (.int .u64 x) || decide (x ∈ t)) := by
  induction t with
  | nil => intro i m _; simp [DMf]
  | cons y t ih =>
    intro i m hm
    rw [DMf, ih _ _ (hm.put _ _)]
    by_cases e : x = y
    · subst e
      rw [has_put_same hm (hk x)]
      simp
    · rw [has_put_other (key_ne e)]
      simp [e]
theorem DMf_old (x : Int) (t : List Int) : ∀ (i : Nat) (m z : DataW Unit), x ∉ t → (DMf i m t).atKey (.int .u64 x) z = m.atKey (.int .u64 x) z := by
  induction t with
  | nil => intro i m z _; rfl
  | cons y t ih =>
    intro i m z h
    rw [DMf, ih _ _ _ (fun e => h (List.mem_cons_of_mem _ e)), atKey_put_other (key_ne (fun e => h (by rw [e]; exact List.mem_cons_self)))]
theorem DMf_new (x : Int) (hk : ∀ y : Int, WideAt.IsKeyLit (Lit.int .u64 y)) (t : List Int) : ∀ (i : Nat) (m z : DataW Unit), IsMap m → t.Nodup → x ∈ t → (DMf i m t).atKey (.int .u64 x) z = .lit (.int .i64 ((i + plc t x : Nat) : Int)) := by
  induction t with
  | nil => intro i m z _ _ h; simp at h
  | cons y t ih =>
    intro i m z hm hd h
    obtain ⟨h1, h2⟩ := List.nodup_cons.1 hd
    rw [DMf]
    by_cases e : y = x
    · subst e
      rw [DMf_old y t _ _ _ h1, atKey_put_same hm (hk y)]
      simp [plc]
    · have hx : x ∈ t := by
        rcases List.mem_cons.1 h with e2 | e2
        · exact absurd e2.symm e
        · exact e2
      rw [ih _ _ _ (hm.put _ _) h2 hx]
      have e3 : plc (y :: t) x = plc t x + 1 := by
        unfold plc
        rw [List.idxOf_cons]
        have : (y == x) = false := by rw [beq_eq_false_iff_ne]; exact e
        rw [this]; rfl
      rw [e3, show i + 1 + plc t x = i + (plc t x + 1) by omega]
theorem key_lit (y : Int) : WideAt.IsKeyLit (Lit.int .u64 y) := by simp [WideAt.IsKeyLit]
theorem DM_has (d : List Int) (x : Int) : Maps.has (DM d) (.int .u64 x) = decide (x ∈ d) := by
  unfold DM
  rw [DMf_has x key_lit d 0 _ isMap_empty]
  simp [has_eq]
theorem DM_at {d : List Int} (hd : d.Nodup) {x : Int} (hx : x ∈ d) (z : DataW Unit) : (DM d).atKey (.int .u64 x) z = .lit (.int .i64 (plc d x : Int)) := by
  unfold DM
  rw [DMf_new x key_lit d 0 _ z isMap_empty hd hx, Nat.zero_add]
end Go.Proofs.Ytgnaeajfajineaa
