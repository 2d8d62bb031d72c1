/- What a manifest's reading comes to, piece by piece: plain facts. -/
import Derived.Test.YtiolgenaefillaaGreatJc
namespace Go.Proofs.YtiolgenaefillaaGreat
open Go.RowKit

theorem rdB_short {n : Nat} {ys : List Int} (h : ys.length < n) : rdB n ys = .error 2 := if_pos h
theorem rdB_long {n : Nat} {ys : List Int} (h : ¬ ys.length < n) : rdB n ys = .ok (ys.take n, ys.drop n) := if_neg h
theorem hd_short {ys : List Int} (h : ys.length < 4) : rdHd ys = .error 2 := need_err (rdB_short h)
theorem hd_no {ys : List Int} (h : ¬ ys.length < 4) (hx : ys.take 4 ≠ MHD) : rdHd ys = .error 3 := need_no (rdB_long h) (by simpa using hx)
theorem hd_ok {ys : List Int} (h : ¬ ys.length < 4) (hx : ys.take 4 = MHD) : rdHd ys = .ok (MHD, ys.drop 4) := by
  have := rdB_long h
  rw [hx] at this
  exact need_ok this (by simp)
theorem as_err {α β : Type} {r : RDG α} {f : α → β} {ys : List Int} {e : Int} (h : r ys = .error e) : rdAs r f ys = .error e := by unfold rdAs; rw [h]
theorem as_ok {α β : Type} {r : RDG α} {f : α → β} {ys t : List Int} {x : α} (h : r ys = .ok (x, t)) : rdAs r f ys = .ok (f x, t) := by unfold rdAs; rw [h]
theorem ver_short {ys : List Int} (h : ys.length < 8) : rdVer ys = .error 2 := as_err (need_err (rdB_short h))
theorem ver_no {ys : List Int} (h : ¬ ys.length < 8) (hx : num (ys.take 8) = 18446744073709551615) : rdVer ys = .error 3 := as_err (need_no (rdB_long h) (decide_eq_false (by simp [hx])))
theorem ver_ok {ys : List Int} (h : ¬ ys.length < 8) (hx : num (ys.take 8) ≠ 18446744073709551615) : rdVer ys = .ok (num (ys.take 8), ys.drop 8) := as_ok (need_ok (rdB_long h) (decide_eq_true hx))
theorem MDEC_err {ys : List Int} {c : Int} (h : MRD ys = .error c) : MDEC ys = .error c := by unfold MDEC; rw [h]
section
variable {ys y1 y2 y3 y4 y5 y6 : List Int} {hd p r : List Int} {v : Nat} {d : Nat × List (List Int)} {a : Nat × List (Nat × List Int)} {c : Int}
theorem M1 (h : rdHd ys = .error c) : MDEC ys = .error c := MDEC_err (then_err h)
theorem M2 (h1 : rdHd ys = .ok (hd, y1)) (h : rdVer y1 = .error c) : MDEC ys = .error c := MDEC_err (then_no h1 (then_err h))
theorem M3 (h1 : rdHd ys = .ok (hd, y1)) (h2 : rdVer y1 = .ok (v, y2)) (h : rdB 32 y2 = .error c) : MDEC ys = .error c := MDEC_err (then_no h1 (then_no h2 (then_err h)))
theorem M4 (h1 : rdHd ys = .ok (hd, y1)) (h2 : rdVer y1 = .ok (v, y2)) (h3 : rdB 32 y2 = .ok (p, y3)) (h : rdDir y3 = .error c) : MDEC ys = .error c := MDEC_err (then_no h1 (then_no h2 (then_no h3 (then_err h))))
theorem M5 (h1 : rdHd ys = .ok (hd, y1)) (h2 : rdVer y1 = .ok (v, y2)) (h3 : rdB 32 y2 = .ok (p, y3)) (h4 : rdDir y3 = .ok (d, y4)) (h : rdAll d.2.length y4 = .error c) : MDEC ys = .error c := MDEC_err (then_no h1 (then_no h2 (then_no h3 (then_no h4 (then_err h)))))
theorem M6 (h1 : rdHd ys = .ok (hd, y1)) (h2 : rdVer y1 = .ok (v, y2)) (h3 : rdB 32 y2 = .ok (p, y3)) (h4 : rdDir y3 = .ok (d, y4)) (h5 : rdAll d.2.length y4 = .ok (a, y5)) (h : rdB 32 y5 = .error c) : MDEC ys = .error c := MDEC_err (then_no h1 (then_no h2 (then_no h3 (then_no h4 (then_no h5 h)))))
theorem Mall (h1 : rdHd ys = .ok (hd, y1)) (h2 : rdVer y1 = .ok (v, y2)) (h3 : rdB 32 y2 = .ok (p, y3)) (h4 : rdDir y3 = .ok (d, y4)) (h5 : rdAll d.2.length y4 = .ok (a, y5)) (h6 : rdB 32 y5 = .ok (r, y6)) : MRD ys = .ok ((hd, v, p, d, a, r), y6) :=
  then_ok h1 (then_ok h2 (then_ok h3 (then_ok h4 (then_ok h5 h6))))
theorem M7 (h : MRD ys = .ok ((hd, v, p, d, a, r), y6)) (hn : y6 ≠ []) : MDEC ys = .error 3 := by unfold MDEC; rw [h]; simp only [if_neg hn]
theorem M8 (h : MRD ys = .ok ((hd, v, p, d, a, r), y6)) (hn : y6 = []) (hu : ¬ usedAll d.2.length a.2 = true) : MDEC ys = .error 3 := by unfold MDEC; rw [h]; simp only [if_pos hn, if_neg hu]
theorem M9 (h : MRD ys = .ok ((hd, v, p, d, a, r), y6)) (hn : y6 = []) (hu : usedAll d.2.length a.2 = true) : MDEC ys = .ok ⟨v, p, a.2.map (EOF d.2), r⟩ := by unfold MDEC; rw [h]; simp only [if_pos hn, if_pos hu]; rfl
end
theorem nodup_len {α : Type} [DecidableEq α] : ∀ (a b : List α), a.Nodup → (∀ x ∈ a, x ∈ b) → a.length ≤ b.length
  | [], b, _, _ => by simp
  | x :: a, b, hn, hs => by
    rw [List.nodup_cons] at hn
    have hx := hs x List.mem_cons_self
    have ih := nodup_len a (b.erase x) hn.2 (fun y hy => by
      have : y ≠ x := fun e => hn.1 (by rw [← e]; exact hy)
      exact (List.mem_erase_of_ne this).2 (hs y (List.mem_cons_of_mem _ hy)))
    rw [List.length_erase_of_mem hx] at ih
    have := List.length_pos_of_mem hx
    simp only [List.length_cons]; omega
/-- as many tenants as entries name: each is named -/
theorem used_iff {T : List (List Int)} {ts : List (Nat × List Int)} (hr : RIS T) (ha : ∀ t ∈ ts, t.1 < T.length) : (TEN ((ts.map (EOF T)).map Prod.fst)).length = T.length ↔ usedAll T.length ts = true := by
  have hsub : ∀ x ∈ (ts.map (EOF T)).map Prod.fst, x ∈ T := fun x hx => by
    obtain ⟨e, he, rfl⟩ := List.mem_map.1 hx
    obtain ⟨t, ht, rfl⟩ := List.mem_map.1 he
    exact eget_mem (ha t ht)
  constructor
  · intro hlen
    unfold usedAll
    rw [List.all_eq_true]
    intro i hi
    rw [List.mem_range] at hi
    by_cases hin : T.getD i [] ∈ (ts.map (EOF T)).map Prod.fst
    · obtain ⟨e, he, e1⟩ := List.mem_map.1 hin
      obtain ⟨t, ht, rfl⟩ := List.mem_map.1 he
      rw [List.any_eq_true]
      refine ⟨t, ht, ?_⟩
      rw [beq_iff_eq, ← PLC_of hr (ha t ht), ← PLC_of hr hi]
      exact congrArg _ e1
    · exfalso
      have hx : T.getD i [] ∈ T := eget_mem hi
      have := nodup_len (TEN ((ts.map (EOF T)).map Prod.fst)) (T.erase (T.getD i [])) (ris_TEN _).nodup (fun y hy => by
        have hy' := (mem_TEN _ _).1 hy
        have hne : y ≠ T.getD i [] := fun e => hin (by rw [← e]; exact hy')
        exact (List.mem_erase_of_ne hne).2 (hsub y hy'))
      rw [List.length_erase_of_mem hx] at this
      omega
  · intro hu
    rw [← TEN_only hr (fun x => ⟨fun hx => ?_, hsub x⟩)]
    have hi := PLC_lt hx
    unfold usedAll at hu
    rw [List.all_eq_true] at hu
    have := hu (PLC T x) (List.mem_range.2 hi)
    rw [List.any_eq_true] at this
    obtain ⟨t, ht, e⟩ := this
    rw [beq_iff_eq] at e
    refine List.mem_map.2 ⟨EOF T t, List.mem_map.2 ⟨t, ht, rfl⟩, ?_⟩
    unfold EOF
    simp only [e]
    exact PLC_at hx
theorem dir_ris {ys t : List Int} {d : Nat × List (List Int)} (h8 : U8 ys) (h : rdDir ys = .ok (d, t)) : RIS d.2 := by
  obtain ⟨⟨_, g⟩, _⟩ := PC_dir.only ys d t h8 h
  have hn := rep_len g
  rw [← hn] at g
  have := (tns_good d.2 [] List.Pairwise.nil).1 g
  rw [List.nil_append] at this
  exact this.1
end Go.Proofs.YtiolgenaefillaaGreat
