/- A cursor that a statement has made: its calls, and what they leave as it was. -/
import Derived.Test.YtdpcmhgmgkelhaaCu3
import Derived.Test.YtdpcmhgmgkelhaaSame
namespace Go.Proofs.Ytdpcmhgmgkelhaa
open Go.RowKit

/-- w is w0 and new blocks; in new ones lies a cursor (block R) of which the bytes ys are left. -/
structure St (w0 w : World) (R : Nat) (ys : List Int) : Prop where
  below : Below w0.heap.size w0 w
  cur : ∃ v, CurAt 59 w R v ys ∧ ∀ k, v.ownBlock = some k → w0.heap.size ≤ k
  lo : w0.heap.size ≤ R
theorem St.keep {w0 w w' : World} {R : Nat} {ys : List Int} (h : St w0 w R ys) (ho : Only (fun _ => False) w w') : St w0 w' R ys := by
  obtain ⟨v, hc, hv⟩ := h.cur
  exact ⟨h.below.trans (ho.low h.below.size), ⟨v, hc.keep ho (fun f => f) (fun _ _ f => f), hv⟩, h.lo⟩
theorem St.lt {w0 w : World} {R : Nat} {ys : List Int} (h : St w0 w R ys) : R < w.heap.size := by
  obtain ⟨v, hc, hv⟩ := h.cur
  exact (Array.getElem?_eq_some_iff.1 hc.cell).1
theorem St.rng {w0 w : World} {R : Nat} {ys : List Int} (h : St w0 w R ys) : ∀ y ∈ ys, 0 ≤ y ∧ y ≤ 255 := by
  obtain ⟨v, hc, hv⟩ := h.cur
  exact hc.rng
theorem St.step {w0 w w' : World} {R : Nat} {ys zs : List Int} (h : St w0 w R ys) {v v2 : Value} (hv : ∀ k, v.ownBlock = some k → w0.heap.size ≤ k) (hc : CurAt 59 w' R v2 zs) (he : v2.ownBlock = v.ownBlock) (ho : Only (fun k => k = R) w w') : St w0 w' R zs :=
  ⟨h.below.trans (ho.below h.below.size (fun k e => by rw [e]; exact h.lo)), ⟨v2, hc, by rw [he]; exact hv⟩, h.lo⟩

theorem new_st {w0 w : World} (hb : Below w0.heap.size w0 w) (v : Value) (ys : List Int) (h : Bs .u8 w v ys) (hr : ∀ y ∈ ys, 0 ≤ y ∧ y ≤ 255) (hl : ys.length ≤ 1000000000000) :
    Calls Try.prog 10 #[v] w fun e w' => ∃ R, e = .returned (.pointer (some ⟨R, 0, none⟩)) ∧ St w0 w' R ys ∧ Only (fun _ => False) w w' ∧ w.heap.size ≤ R := by
  refine (new_bs v ys w h hr hl).mono ?_
  rintro e w' ⟨R, v', rfl, hc, ho, h1, h2, h3⟩
  have hsz := hb.size
  exact ⟨R, rfl, ⟨hb.trans (ho.low hb.size), ⟨v', hc, fun k hk => by have := (h3 k hk).1; omega⟩, by omega⟩, ho, h1⟩
theorem left_st {w0 w : World} {R : Nat} {ys : List Int} (h : St w0 w R ys) : Calls Try.prog 22 #[.pointer (some ⟨R, 0, none⟩)] w fun e w' => e = .returned (.int .i64 ys.length) ∧ w = w' := by
  obtain ⟨v, hc, hv⟩ := h.cur
  exact Left_cur hc
theorem end_st {w0 w : World} {R : Nat} {ys : List Int} (h : St w0 w R ys) : Calls Try.prog 23 #[.pointer (some ⟨R, 0, none⟩)] w fun e w' => e = .returned (.int .i64 (endV ys)) ∧ w = w' := by
  obtain ⟨v, hc, hv⟩ := h.cur
  exact end_cur hc
theorem byte_st {w0 w : World} {R : Nat} {ys : List Int} (h : St w0 w R ys) {a : Int} {k : Nat} {c : Int} (hs : sByte ys = (a, k, c)) :
    Calls Try.prog 11 #[.pointer (some ⟨R, 0, none⟩)] w fun e w' => e = .returned (.tuple #[.int .u8 a, .int .i64 c]) ∧ St w0 w' R (ys.drop k) ∧ Only (fun k => k = R) w w' := by
  obtain ⟨v, hc, hv⟩ := h.cur
  have A := byte_cur hc
  rw [hs] at A
  refine A.mono ?_
  rintro e w' ⟨rfl, v2, h1, h2, h3⟩
  exact ⟨rfl, h.step hv h1 h2 h3, h3⟩
theorem fixed_st {w0 w : World} {R : Nat} {ys : List Int} (h : St w0 w R ys) (n : Int) {a : Int} {k : Nat} {c : Int} (hs : sFixed n ys = (a, k, c)) :
    Calls Try.prog 13 #[.pointer (some ⟨R, 0, none⟩), .int .i64 n] w fun e w' => e = .returned (.tuple #[.int .u64 a, .int .i64 c]) ∧ St w0 w' R (ys.drop k) ∧ Only (fun k => k = R) w w' := by
  obtain ⟨v, hc, hv⟩ := h.cur
  have A := fixed_cur hc n
  rw [hs] at A
  refine A.mono ?_
  rintro e w' ⟨rfl, v2, h1, h2, h3⟩
  exact ⟨rfl, h.step hv h1 h2 h3, h3⟩
theorem varint_st {w0 w : World} {R : Nat} {ys : List Int} (h : St w0 w R ys) {a : Int} {k : Nat} {c : Int} (hs : sVarint ys = (a, k, c)) :
    Calls Try.prog 15 #[.pointer (some ⟨R, 0, none⟩)] w fun e w' => e = .returned (.tuple #[.int .u64 a, .int .i64 c]) ∧ St w0 w' R (ys.drop k) ∧ Only (fun k => k = R) w w' := by
  obtain ⟨v, hc, hv⟩ := h.cur
  have A := varint_cur hc
  rw [hs] at A
  refine A.mono ?_
  rintro e w' ⟨rfl, v2, h1, h2, h3⟩
  exact ⟨rfl, h.step hv h1 h2 h3, h3⟩
theorem bytes_st {w0 w : World} {R : Nat} {ys : List Int} (h : St w0 w R ys) (n : Int) {a : List Int} {k : Nat} {c : Int} (hs : sBytes n ys = (a, k, c)) :
    Calls Try.prog 17 #[.pointer (some ⟨R, 0, none⟩), .int .i64 n] w fun e w' => ∃ v1, e = .returned (.tuple #[v1, .int .i64 c]) ∧ Bs .u8 w' v1 a ∧ NoCap v1 ∧ (∀ k, v1.ownBlock = some k → w.heap.size ≤ k) ∧ St w0 w' R (ys.drop k) ∧ Only (fun k => k = R) w w' := by
  obtain ⟨v, hc, hv⟩ := h.cur
  have A := bytes_cur hc n
  rw [hs] at A
  refine A.mono ?_
  rintro e w' ⟨v1, rfl, b1, b2, b3, v2, h1, h2, h3⟩
  exact ⟨v1, rfl, b1, b2, b3, h.step hv h1 h2 h3, h3⟩
theorem block_st {w0 w : World} {R : Nat} {ys : List Int} (h : St w0 w R ys) (n : Int) (hn : n ≤ 9223372036854775807) {a : List Int} {k : Nat} {c : Int} (hs : sBlock n ys = (a, k, c)) :
    Calls Try.prog 20 #[.pointer (some ⟨R, 0, none⟩), .int .i64 n] w fun e w' => ∃ v1, e = .returned (.tuple #[v1, .int .i64 c]) ∧ Bs .u8 w' v1 a ∧ NoCap v1 ∧ (∀ k, v1.ownBlock = some k → w.heap.size ≤ k) ∧ St w0 w' R (ys.drop k) ∧ Only (fun k => k = R) w w' := by
  obtain ⟨v, hc, hv⟩ := h.cur
  have A := block_cur hc n hn
  rw [hs] at A
  refine A.mono ?_
  rintro e w' ⟨v1, rfl, b1, b2, b3, v2, h1, h2, h3⟩
  exact ⟨v1, rfl, b1, b2, b3, h.step hv h1 h2 h3, h3⟩
/-- what lies apart from a cursor reads the same behind the cursor's call -/
theorem Bs.past {k : IntKind} {w w' : World} {R : Nat} {v : Value} {xs : List Int} (h : Bs k w v xs) (ho : Only (fun k => k = R) w w') (hv : ∀ k, v.ownBlock = some k → k ≠ R) : Bs k w' v xs := h.keep ho hv

set_option maxHeartbeats 400000 in
set_option maxRecDepth 100000 in
theorem lsame_eq (va vb : Value) (xs : List Int) (w : World) (ha : Bs .u8 w va xs) (hb : Bs .u8 w vb xs) (hl : xs.length ≤ 140737488355328) :
    Calls Try.prog 19 #[va, vb] w fun e w' => e = .returned (.bool true) ∧ Only (fun _ => False) w w' := by
  have A := hideIt (same_eq va vb xs w ha hb hl)
  clear ha hb
  go_enter Try.func19, Try.ntmps19
  go_wp2_with fail
  refine A.out.mono ?_
  rintro e w1 ⟨rfl, ho⟩
  go_wp2
  go_ret
  exact ⟨rfl, ho⟩

theorem blk78 : blk [7, 8] = [2, 7, 8] := by
  unfold blk
  rw [gs_small (by decide)]; rfl
set_option maxHeartbeats 800000 in
set_option maxRecDepth 100000 in
theorem awake_any (w : World) : Calls Try.prog 9 #[] w fun e w' => e = .returned (.bool true) ∧ Only (fun _ => False) w w' := by
  have A := hideIt (new_st (w0 := w) ((Below.refl _ _).alloc (Nat.le_refl _) _) (.slice (some ⟨w.heap.size, 0, none⟩) 4 4) [2, 7, 8, 9] (Bs.lit .u8 w 5 [2, 7, 8, 9]) (by decide) (by decide))
  go_enter Try.func9, Try.ntmps9
  go_wp2_with fail
  refine A.out.mono ?_
  rintro e w1 ⟨R, rfl, hs1, _, _⟩
  have B := hideIt (block_st hs1 5 (by omega) (a := [7, 8]) (k := 3) (c := 0) rfl)
  have hR1 := hs1.lt
  clear hs1 A
  go_wp2_with fail
  refine B.out.mono ?_
  rintro e w2 ⟨u, rfl, hu, _, hub, hs2, _⟩
  have hu' : ∀ k, u.ownBlock = some k → k ≠ R := fun k hk => by have := hub k hk; omega
  have C := hideIt (left_st hs2)
  have D := hideIt (fixed_st hs2 1 (a := 9) (k := 1) (c := 0) rfl)
  have HU := hideIt (And.intro hu hu')
  clear hu hu' hub hs2 B
  go_wp2_with fail
  refine C.out.mono ?_
  rintro e w3 ⟨rfl, rfl⟩
  go_wp2_with fail
  refine D.out.mono ?_
  rintro e w3 ⟨rfl, hs3, ho3⟩
  have E := hideIt (lsame_eq u (.slice (some ⟨w3.heap.size, 0, none⟩) 2 2) [7, 8] _ ((HU.out.1.past ho3 HU.out.2).later ((Below.refl _ _).alloc (Nat.le_refl _) _)) (Bs.lit .u8 w3 5 [7, 8]) (by decide))
  have S3 := hideIt hs3
  clear hs3 ho3 HU C D
  go_wp2_with fail
  refine E.out.mono ?_
  rintro e w4 ⟨rfl, ho4⟩
  have S4 := hideIt (S3.out.keep (((Only.refl _ _).alloc _).trans ho4 (fun _ _ f => f)))
  have G := hideIt (end_st S4.out)
  clear ho4 E S3
  go_wp2_with fail
  refine G.out.mono ?_
  rintro e w5 ⟨rfl, rfl⟩
  have I := blk_any (.slice (some ⟨w4.heap.size, 0, none⟩) 2 2) [7, 8] _ (Bs.lit .u8 w4 5 [7, 8]) (NoCap.some _ _ _) (by decide)
  rw [blk78] at I
  have I' := hideIt I
  have B4 := hideIt S4.out.below
  clear G I S4
  go_wp2_with fail
  refine I'.out.mono ?_
  rintro e w6 ⟨z, rfl, hown, ho6⟩
  have J := hideIt (lsame_eq z (.slice (some ⟨w6.heap.size, 0, none⟩) 3 3) [2, 7, 8] _ ((Bs.of_own hown).later ((Below.refl _ _).alloc (Nat.le_refl _) _)) (Bs.lit .u8 w6 5 [2, 7, 8]) (by decide))
  have O6 := hideIt ho6
  clear hown ho6 I'
  go_wp2_with fail
  refine J.out.mono ?_
  rintro e w7 ⟨rfl, ho7⟩
  have F : Hid (Only (fun _ => False) w w7) := (((only_of_below B4.out).alloc _).trans (S := fun _ => False) O6.out (fun _ _ f => f)).trans (((Only.refl _ _).alloc _).trans ho7 (fun _ _ f => f)) (fun _ _ f => f)
  clear ho7 J
  go_wp2
  go_ret
  exact ⟨rfl, F.out⟩
end Go.Proofs.Ytdpcmhgmgkelhaa
