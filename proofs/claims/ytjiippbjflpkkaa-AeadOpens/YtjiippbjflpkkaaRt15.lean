/- The document's own answer: Quarter of four words in their places. -/
import Derived.Test.YtjiippbjflpkkaaAp0
import Derived.Test.YtjiippbjflpkkaaQu
import Derived.BigQuiet
namespace Go.Proofs.Ytjiippbjflpkkaa
open Go.RowKit

set_option maxHeartbeats 1600000 in
set_option maxRecDepth 100000 in
theorem rturn_raw (g cap i j k l a b c d qa qb qc qd : Nat) (w : World)
    (hi : (i : Int) < 16) (hj : (j : Int) < 16) (hk : (k : Int) < 16) (hl : (l : Int) < 16) (hi0 : (0 : Int) ≤ i) (hj0 : (0 : Int) ≤ j) (hk0 : (0 : Int) ≤ k) (hl0 : (0 : Int) ≤ l)
    (QA : Hid (∀ W : World, Calls Try.prog 52 #[.int .u32 a, .int .u32 b, .int .u32 c, .int .u32 d] W fun e w' => e = .returned (.tuple #[.int .u32 (qa : Nat), .int .u32 (qb : Nat), .int .u32 (qc : Nat), .int .u32 (qd : Nat)]) ∧ w' = W))
    (ci : w.cell? ⟨g, i, none⟩ = some (.int .u32 a)) (cj : w.cell? ⟨g, j, none⟩ = some (.int .u32 b)) (ck : w.cell? ⟨g, k, none⟩ = some (.int .u32 c)) (cl : w.cell? ⟨g, l, none⟩ = some (.int .u32 d))
    (nij : ¬ i = j) (nik : ¬ i = k) (nil : ¬ i = l) (njk : ¬ j = k) (njl : ¬ j = l) (nkl : ¬ k = l)
    (fi : ∀ n, w.frozen? ⟨g, n, none⟩ = false) :
    Calls Try.prog 43 #[.slice (some ⟨g, 0, none⟩) 16 cap, .int .i64 i, .int .i64 j, .int .i64 k, .int .i64 l] w fun e w' => e = .returned (.tuple #[]) ∧ ∃ n, w' = (((((w.drewN n).setCell ⟨g, i, none⟩ (.int .u32 qa)).setCell ⟨g, j, none⟩ (.int .u32 qb)).setCell ⟨g, k, none⟩ (.int .u32 qc)).setCell ⟨g, l, none⟩ (.int .u32 qd)) := by
  have f0 := fi i
  have f1 := fi j
  have f2 := fi k
  have f3 := fi l
  clear fi
  go_enter Try.func43, Try.ntmps43
  go_wp2_with fail
  go_quiet ((go_at_call 52; exact Calls.quiet_of_same (QA.out _)))
  go_wp2
  go_end0
  exact ⟨rfl, _, rfl⟩
theorem own_set {w : World} {lo : Nat} {E : TypeId} {g n cap : Nat} {s : List Nat} (h : w.ownsRow lo E 1 (.slice (some ⟨g, 0, none⟩) n cap) n (wl s)) (i x : Nat) : (w.setCell ⟨g, i, none⟩ (.int .u32 (x : Int))).ownsRow lo E 1 (.slice (some ⟨g, 0, none⟩) n cap) n (wl (s.set i x)) := by
  have := (h.stored i (.int .u32 (x : Int))).1
  rwa [wl_set] at this
theorem rturn_any (lo g cap : Nat) (s : List Nat) (hs : s.length = 16) (h32 : W32 s) (i j k l : Nat) (hi : i < 16) (hj : j < 16) (hk : k < 16) (hl : l < 16)
    (nij : ¬ i = j) (nik : ¬ i = k) (nil : ¬ i = l) (njk : ¬ j = k) (njl : ¬ j = l) (nkl : ¬ k = l) (w : World) (hb : w.ownsRow lo 34 1 (.slice (some ⟨g, 0, none⟩) 16 cap) 16 (wl s)) :
    Calls Try.prog 43 #[.slice (some ⟨g, 0, none⟩) 16 cap, .int .i64 i, .int .i64 j, .int .i64 k, .int .i64 l] w fun e w' => e = .returned (.tuple #[]) ∧ w'.ownsRow lo 34 1 (.slice (some ⟨g, 0, none⟩) 16 cap) 16 (wl (turnW s i j k l)) ∧ Only (fun x => x = g) w w' := by
  have hbs : Bs .u32 w (.slice (some ⟨g, 0, none⟩) 16 cap) (wi s) := Bs.of_own (by rw [wi_len, hs, wi_map]; exact hb)
  have hc : ∀ n, n < 16 → w.cell? ⟨g, n, none⟩ = some (.int .u32 ((s.getD n 0 : Nat) : Int)) := fun n hn => by
    have := ws_cell hbs n (by omega)
    rwa [Nat.zero_add] at this
  have QA : Hid (∀ W : World, Calls Try.prog 52 #[.int .u32 (s.getD i 0 : Nat), .int .u32 (s.getD j 0 : Nat), .int .u32 (s.getD k 0 : Nat), .int .u32 (s.getD l 0 : Nat)] W fun e w' => e = .returned (q4v (qrt ⟨s.getD i 0, s.getD j 0, s.getD k 0, s.getD l 0⟩)) ∧ w' = W) :=
    fun W => (rquarter_any _ _ _ _ W (h32.at i) (h32.at j) (h32.at k) (h32.at l)).mono (fun _ _ h => ⟨h.1, h.2.symm⟩)
  refine (rturn_raw g cap i j k l _ _ _ _ _ _ _ _ w (by omega) (by omega) (by omega) (by omega) (by omega) (by omega) (by omega) (by omega) QA (hc i hi) (hc j hj) (hc k hk) (hc l hl) nij nik nil njk njl nkl (fun n => hb.frozenAt n)).mono ?_
  rintro e w' ⟨rfl, n, rfl⟩
  refine ⟨rfl, ?_, ?_⟩
  · have h0 : (w.drewN n).ownsRow lo 34 1 (.slice (some ⟨g, 0, none⟩) 16 cap) 16 (wl s) := ((Only.refl (fun _ => False) w).drewN n).own hb (fun _ _ f => f)
    exact own_set (own_set (own_set (own_set h0 i _) j _) k _) l _
  · exact (((((Only.refl (fun x => x = g) w).drewN n).setCell (p := ⟨g, i, none⟩) (fun _ => rfl) _).setCell (p := ⟨g, j, none⟩) (fun _ => rfl) _).setCell (p := ⟨g, k, none⟩) (fun _ => rfl) _).setCell (p := ⟨g, l, none⟩) (fun _ => rfl) _
end Go.Proofs.Ytjiippbjflpkkaa
