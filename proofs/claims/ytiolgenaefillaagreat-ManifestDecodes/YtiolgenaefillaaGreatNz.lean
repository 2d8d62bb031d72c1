/- No reading ends by the error 0: plain facts. -/
import Derived.Test.YtiolgenaefillaaGreatJp
namespace Go.Proofs.YtiolgenaefillaaGreat
open Go.RowKit

def NZ {α : Type} (b : Int) (r : RDG α) : Prop := ∀ ys, U8 ys → (∀ c, r ys = .error c → c ≠ b) ∧ (∀ x t, r ys = .ok (x, t) → U8 t)
theorem u8_drop {ys : List Int} (h : U8 ys) (n : Nat) : U8 (ys.drop n) := fun y hy => h y (List.mem_of_mem_drop hy)
theorem NZ.bytes {b : Int} (hb : b ≠ 2 ∧ b ≠ 3 ∧ b ≠ 4) (n : Nat) : NZ b (rdB n) := by
  intro ys h
  by_cases hl : ys.length < n
  · rw [rdB_short hl]
    exact ⟨fun c e => by injection e with e; omega, fun x t e => by cases e⟩
  · rw [rdB_long hl]
    exact ⟨fun c e => (by cases e), fun x t e => by injection e with e; injection e with e1 e2; rw [← e2]; exact u8_drop h n⟩
theorem NZ.varint {b : Int} (hb : b ≠ 2 ∧ b ≠ 3 ∧ b ≠ 4) : NZ b rdV := by
  intro ys h
  rcases sVarint_cases h with ⟨c, hs, hc⟩ | ⟨a, k, hs, _⟩
  · rw [rdV_err hs (by omega)]
    exact ⟨fun c' e => by injection e with e; omega, fun x t e => by cases e⟩
  · rw [rdV_ok hs]
    exact ⟨fun c e => (by cases e), fun x t e => by injection e with e; injection e with e1 e2; rw [← e2]; exact u8_drop h k⟩
theorem NZ.block {b : Int} (hb : b ≠ 2 ∧ b ≠ 3 ∧ b ≠ 4) : NZ b (rdK 64) := by
  intro ys h
  rcases sBlk_cases (n := 64) h (by decide) (by decide) with ⟨c, hs, hc⟩ | ⟨b', k, hs, _⟩
  · rw [rdK_err (n := 64) hs (by omega)]
    exact ⟨fun c' e => by injection e with e; omega, fun x t e => by cases e⟩
  · rw [rdK_ok (n := 64) hs]
    exact ⟨fun c e => (by cases e), fun x t e => by injection e with e; injection e with e1 e2; rw [← e2]; exact u8_drop h k⟩
theorem NZ.need {b : Int} {α : Type} {r : RDG α} (h : NZ b r) (c : α → Bool) {e : Int} (he : e ≠ b) : NZ b (rdNeed r c e) := by
  intro ys hu
  obtain ⟨h1, h2⟩ := h ys hu
  cases hr : r ys with
  | error c' =>
    rw [need_err hr]
    exact ⟨fun c e => by injection e with e; rw [← e]; exact h1 c' hr, fun x t e => by cases e⟩
  | ok x =>
    obtain ⟨x, t⟩ := x
    by_cases hc : c x = true
    · rw [need_ok hr hc]
      exact ⟨fun c e => (by cases e), fun x' t' e => by injection e with e; injection e with e1 e2; rw [← e2]; exact h2 x t hr⟩
    · rw [need_no hr (by simpa using hc)]
      exact ⟨fun c e' => by injection e' with e'; rw [← e']; exact he, fun x t e => by cases e⟩
theorem NZ.as {b : Int} {α β : Type} {r : RDG α} (h : NZ b r) (f : α → β) : NZ b (rdAs r f) := by
  intro ys hu
  obtain ⟨h1, h2⟩ := h ys hu
  cases hr : r ys with
  | error c' =>
    rw [as_err hr]
    exact ⟨fun c e => by injection e with e; rw [← e]; exact h1 c' hr, fun x t e => by cases e⟩
  | ok x =>
    obtain ⟨x, t⟩ := x
    rw [as_ok hr]
    exact ⟨fun c e => (by cases e), fun x' t' e => by injection e with e; injection e with e1 e2; rw [← e2]; exact h2 x t hr⟩
theorem NZ.then' {b : Int} {α β : Type} {r1 : RDG α} {r2 : α → RDG β} (h1 : NZ b r1) (h2 : ∀ x, NZ b (r2 x)) : NZ b (rdThen r1 r2) := by
  intro ys hu
  obtain ⟨a1, a2⟩ := h1 ys hu
  cases hr : r1 ys with
  | error c' =>
    rw [then_err hr]
    exact ⟨fun c e => by injection e with e; rw [← e]; exact a1 c' hr, fun x t e => by cases e⟩
  | ok x =>
    obtain ⟨x, t⟩ := x
    obtain ⟨b1, b2⟩ := h2 x t (a2 x t hr)
    cases hs : r2 x t with
    | error c' =>
      rw [then_no hr hs]
      exact ⟨fun c e => by injection e with e; rw [← e]; exact b1 c' hs, fun x t e => by cases e⟩
    | ok y =>
      obtain ⟨y, t'⟩ := y
      rw [then_ok hr hs]
      exact ⟨fun c e => (by cases e), fun x' t'' e => by injection e with e; injection e with e1 e2; rw [← e2]; exact b2 y t' hs⟩
theorem NZ.rep {b : Int} {σ α : Type} {r : σ → RDG α} (nx : σ → α → σ) (h : ∀ s, NZ b (r s)) : ∀ (n : Nat) (s : σ), NZ b (rdRep r nx n s)
  | 0, s => fun ys hu => by
    show (∀ c, (Except.ok ([], ys) : Except Int (List α × List Int)) = .error c → c ≠ b) ∧ _
    exact ⟨fun c e => (by cases e), fun x t e => by injection e with e; injection e with e1 e2; rw [← e2]; exact hu⟩
  | n + 1, s => fun ys hu => by
    obtain ⟨a1, a2⟩ := h s ys hu
    cases hr : r s ys with
    | error c' =>
      rw [rep_err hr]
      exact ⟨fun c e => by injection e with e; rw [← e]; exact a1 c' hr, fun x t e => by cases e⟩
    | ok x =>
      obtain ⟨x, t⟩ := x
      rw [rep_ok hr]
      obtain ⟨b1, b2⟩ := NZ.rep nx h n (nx s x) t (a2 x t hr)
      cases hs : rdRep r nx n (nx s x) t with
      | error c' =>
        exact ⟨fun c e => by simp only [pre] at e; injection e with e; rw [← e]; exact b1 c' hs, fun x t e => by simp only [pre] at e; cases e⟩
      | ok y =>
        obtain ⟨y, t'⟩ := y
        exact ⟨fun c e => (by simp only [pre] at e; cases e), fun x' t'' e => by simp only [pre] at e; injection e with e; injection e with e1 e2; rw [← e2]; exact b2 y t' hs⟩
theorem NZ.man {b : Int} (hb : b ≠ 2 ∧ b ≠ 3 ∧ b ≠ 4) : NZ b MRD :=
  NZ.then' ((NZ.bytes hb 4).need _ hb.2.1.symm) fun _ => NZ.then' (((NZ.bytes hb 8).need _ hb.2.1.symm).as _) fun _ => NZ.then' (NZ.bytes hb 32) fun _ =>
    NZ.then' (NZ.then' ((NZ.varint hb).need _ hb.2.2.symm) fun n => NZ.rep _ (fun _ => (NZ.block hb).need _ hb.2.1.symm) n []) fun _ =>
      NZ.then' (NZ.then' ((NZ.varint hb).need _ hb.2.2.symm) fun n => NZ.rep _ (fun _ => NZ.then' ((NZ.varint hb).need _ hb.2.1.symm) fun _ => (NZ.bytes hb 1).need _ hb.2.1.symm) n ()) fun _ => NZ.bytes hb 32
theorem MDEC_nb {b : Int} (hb : b ≠ 2 ∧ b ≠ 3 ∧ b ≠ 4) {ys : List Int} (h : U8 ys) : MDEC ys ≠ .error b := by
  intro e
  obtain ⟨h1, _⟩ := NZ.man hb ys h
  unfold MDEC at e
  cases hr : MRD ys with
  | error c => rw [hr] at e; injection e with e; exact h1 c hr e
  | ok x =>
    obtain ⟨⟨hd, v, p, d, a, r⟩, rest⟩ := x
    rw [hr] at e
    simp only at e
    by_cases q1 : rest = []
    · rw [if_pos q1] at e
      by_cases q2 : usedAll d.2.length a.2 = true
      · rw [if_pos q2] at e; cases e
      · rw [if_neg q2] at e; injection e with e; omega
    · rw [if_neg q1] at e; injection e with e; omega
theorem MDEC_nz {ys : List Int} (h : U8 ys) : MDEC ys ≠ .error 0 := MDEC_nb (by decide) h
end Go.Proofs.YtiolgenaefillaaGreat
