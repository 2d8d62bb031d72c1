/- Several texts in one: Cu3, Kc, Dm, Fm, Info. -/
import Derived.Test.YthapipgaohlgdabGreatDoorG4
import Derived.WalkKit
import Derived.Test.YthapipgaohlgdabGreatDoorG2
import Derived.Test.YthapipgaohlgdabGreatDoorG1
import Derived.Test.YthapipgaohlgdabGreatDoorProg

/- Contracts of package cursor: Fix, and Block of bytes. -/
namespace Go.Proofs.YthapipgaohlgdabGreatDoor
open Go.RowKit

/-- byte i of a number, the lowest one being 0 -/
def fixB (v : Int) (i : Nat) : Int := v / 2 ^ (8 * i) % 256
/-- n bytes, of which the k last are written -/
def fixAt (v : Int) (n k : Nat) : List Int := (List.range n).map fun j => if n ≤ j + k then fixB v (n - 1 - j) else 0
def fixL (v : Int) (n : Nat) : List Int := (List.range n).map fun j => fixB v (n - 1 - j)
theorem fixAt_len (v : Int) (n k : Nat) : (fixAt v n k).length = n := by simp [fixAt]
theorem fixL_len (v : Int) (n : Nat) : (fixL v n).length = n := by simp [fixL]
theorem fixAt_zero (v : Int) (n : Nat) : (fixAt v n 0).map (Value.int .u8) = (madeCells #[Value.int .u8 0] (n * 1)).toList := by
  apply List.ext_getElem?
  intro i
  by_cases h : i < n
  · simp [fixAt, madeCells, h, Nat.mod_one]
    omega
  · simp [fixAt, madeCells, h]
theorem fixAt_all (v : Int) (n : Nat) : fixAt v n n = fixL v n := by
  unfold fixAt fixL
  apply List.map_congr_left
  intro j _
  rw [if_pos (by omega)]
theorem fixAt_step (v : Int) (n k : Nat) (h : k < n) : (fixAt v n k).set (n - 1 - k) (fixB v k) = fixAt v n (k + 1) := by
  apply List.ext_getElem?
  intro i
  rw [List.getElem?_set, fixAt_len]
  by_cases hi : i < n
  · by_cases he : n - 1 - k = i
    · subst he
      rw [if_pos rfl, if_pos hi]
      simp only [fixAt, List.getElem?_map, List.getElem?_range hi, Option.map_some]
      rw [if_pos (by omega), show n - 1 - (n - 1 - k) = k by omega]
    · rw [if_neg he]
      simp only [fixAt, List.getElem?_map, List.getElem?_range hi, Option.map_some]
      by_cases h1 : n ≤ i + k
      · rw [if_pos h1, if_pos (by omega)]
      · rw [if_neg h1, if_neg (by omega)]
  · rw [if_neg (by omega), List.getElem?_eq_none (by rw [fixAt_len]; omega), List.getElem?_eq_none (by rw [fixAt_len]; omega)]
theorem fixB_range (v : Int) (i : Nat) : 0 ≤ fixB v i ∧ fixB v i ≤ 255 := by unfold fixB; omega
theorem fixL_range (v : Int) (n : Nat) : ∀ y ∈ fixL v n, 0 ≤ y ∧ y ≤ 255 := by
  intro y hy
  simp only [fixL, List.mem_map] at hy
  obtain ⟨j, _, rfl⟩ := hy
  exact fixB_range _ _

set_option maxHeartbeats 400000 in
set_option maxRecDepth 100000 in
theorem fix_none (v n : Int) (w : World) (h : n < 0 ∨ 8 < n) : Calls Tryz.prog 57 #[.int .u64 v, .int .i64 n] w fun e w' => e = .returned (.slice none 0 0) ∧ w = w' := by
  by_cases h0 : n < 0
  · clear h
    go_enter Tryz.func57, Tryz.ntmps57
    go_wp2
    go_ret
    exact ⟨rfl, rfl⟩
  · have h8 : 8 < n := by omega
    have d0 : decide (n < 0) = false := decide_eq_false h0
    clear h
    go_enter Tryz.func57, Tryz.ntmps57
    go_wp2
    go_ret
    exact ⟨rfl, rfl⟩

set_option maxHeartbeats 400000 in
set_option maxRecDepth 100000 in
/-- A NUMBER in so many bytes: new memory. -/
theorem fix_any (v : Int) (n : Nat) (w : World) (h : n ≤ 8) :
    Calls Tryz.prog 57 #[.int .u64 v, .int .i64 n] w fun e w' => ∃ u, e = .returned u ∧ w'.ownsRow w.heap.size 5 1 u (fixL v n).length ((fixL v n).map (Value.int .u8)) ∧ Only (fun _ => False) w w' := by
  obtain ⟨i0, hi, hz0, hz1, hz2⟩ := info_parts Tryz.infoU8
  obtain ⟨wm, hmk, hown0, hgr⟩ := run_make_full (P := Tryz.prog) w w.heap.size 29 5 i0 (.int .u8 0) 1 Tryz.underlying29 hi hz0 hz1 .i64 .i64 n (by rw [hz2]; omega) (by unfold maxLen; omega) (Nat.le_refl _)
  have START : Hid (wm.ownsRow w.heap.size 5 1 (.slice (some ⟨w.heap.size, 0, none⟩) n n) n ((fixAt v n 0).map (Value.int .u8)) ∧ Only (fun _ => False) w wm) := by
    rw [show (Value.int .u8 0).cells = #[Value.int .u8 0] from rfl] at hown0
    rw [fixAt_zero]
    exact ⟨hown0, (Only.refl _ _).grown hgr (fun _ _ e => by cases e)⟩
  clear hown0 hgr
  have d0 : decide ((n : Int) < 0) = false := by simp
  have d8 : decide (8 < (n : Int)) = false := decide_eq_false (by omega)
  obtain ⟨N, hN⟩ : ∃ N, N = w.heap.size := ⟨_, rfl⟩
  rw [← hN] at hmk START
  rw [← hN]
  have HN := hideIt hN
  clear hN
  go_enter Tryz.func57, Tryz.ntmps57
  go_wp2
  go_loopw [17] (fun i wr => ∃ k : Nat, k ≤ n ∧ i = .int .i64 k ∧ wr.ownsRow N 5 1 (.slice (some ⟨N, 0, none⟩) n n) n ((fixAt v n k).map (Value.int .u8)) ∧ Only (fun _ => False) w wr) (fun i _ => n - (intOf i).toNat)
  case atStart => exact ⟨0, Nat.zero_le _, rfl, START.out.1, START.out.2⟩
  case round =>
    obtain ⟨k, hk, rfl, hown, hon⟩ := hrel
    clear START hmk
    by_cases hlt : k < n
    · have hcell : ∃ y, wr.cell? ⟨N, n - 1 - k, none⟩ = some (.int .u8 y) := by
        refine ⟨(fixAt v n k).getD (n - 1 - k) 0, ?_⟩
        rw [hown.cellAt (n - 1 - k) (by omega), List.getElem?_map, List.getElem?_eq_getElem (by rw [fixAt_len]; omega), List.getD_eq_getElem?_getD, List.getElem?_eq_getElem (by rw [fixAt_len]; omega)]
        rfl
      obtain ⟨y, hy⟩ := hcell
      have hfr : wr.frozen? ⟨N, n - 1 - k, none⟩ = false := hown.frozenAt _
      have i0 : (0 : Int) ≤ (n : Int) - 1 - k := by omega
      have i1 : (n : Int) - 1 - k < (n : Int) := by omega
      have it : ((n : Int) - 1 - k).toNat = n - 1 - k := by omega
      have H := hideIt (And.intro hown hon)
      clear hown hon
      go_wp2
      go_roundw
      case rel =>
        refine ⟨k + 1, by omega, by go_num, ?_, ?_⟩
        · have h1 := (H.out.1.stored (n - 1 - k) (.int .u8 (fixB v k))).1
          rw [← List.map_set, fixAt_step v n k hlt] at h1
          exact h1
        · refine H.out.2.setCell (fun hb => ?_) _
          have := HN.out
          simp only at hb
          omega
      case measure => simp [intOf]; omega
    · have hkn : k = n := by omega
      subst hkn
      have H := hideIt (And.intro hown hon)
      clear hown hon
      go_wp2
      go_ret
      rw [fixL_len, ← fixAt_all]
      exact ⟨_, rfl, H.out⟩

/-- bytes behind their number -/
def blk (b : List Int) : List Int := gs b.length ++ b
theorem blk_len (b : List Int) (h : b.length ≤ 1000000) : (blk b).length ≤ b.length + 10 := by
  have := gs_le10 (v := b.length) (by omega)
  simp only [blk, List.length_append]
  omega
theorem blk_range (b : List Int) (hr : ∀ y ∈ b, 0 ≤ y ∧ y ≤ 255) : ∀ y ∈ blk b, 0 ≤ y ∧ y ≤ 255 := by
  intro y hy
  simp only [blk, List.mem_append] at hy
  rcases hy with hy | hy
  · exact gs_range _ y hy
  · exact hr y hy

set_option maxHeartbeats 400000 in
set_option maxRecDepth 100000 in
/-- BYTES BEHIND THEIR NUMBER: new memory. -/
theorem blk_any (vb : Value) (ys : List Int) (w : World) (hb : Bs .u8 w vb ys) (nb : NoCap vb) (hl : ys.length ≤ 1000000) :
    Calls Tryz.prog 13 #[vb] w fun e w' => ∃ v', e = .returned v' ∧ w'.ownsRow w.heap.size 5 1 v' (blk ys).length ((blk ys).map (Value.int .u8)) ∧ Only (fun _ => False) w w' := by
  have HB := hideIt hb
  have NB := hideIt nb
  have A := hideIt (append_any (.slice none 0 0) [] ys.length w (Bs.nil _ _) NoCap.nil (by simp) (by omega) (by omega))
  rw [List.nil_append, Int.toNat_natCast] at A
  have H10 := hideIt (gs_le10 (v := ys.length) (by omega))
  have HP := hideIt (gs_pos ys.length)
  obtain ⟨ab, cb, rfl⟩ := hb.len
  clear hb nb
  go_enter Tryz.func13, Tryz.ntmps13
  go_wp2_with fail
  refine A.out.mono ?_
  rintro e w1 ⟨v1, rfl, hown1, hon1⟩
  have hbl : Below w1.heap.size w1 (w1.alloc (.cells #[v1, .slice ab ys.length cb] 29)) := (Below.refl _ _).alloc (Nat.le_refl _) _
  have CC := hideIt (concat_two w1.heap.size v1 (.slice ab ys.length cb) (gs ys.length) ys (w1.alloc (.cells #[v1, .slice ab ys.length cb] 29)) (by go_cell) (by go_cell) ((Bs.of_own hown1).later hbl) ((HB.out.later (hon1.low (Nat.le_refl _))).later hbl) (NoCap.of_own hown1) NB.out (by have := HP.out; omega) (by have := H10.out; omega))
  have O1 := hideIt hon1
  have F1 : Hid (∃ ao c, v1 = .slice ao (gs ys.length).length c) := (Bs.of_own hown1).len
  clear hown1 hon1 hbl A
  obtain ⟨ao1, c1, hv1⟩ := F1.out
  subst hv1
  go_wp2_with fail
  refine CC.out.mono ?_
  rintro e w2 ⟨v', rfl, hown, hon⟩
  have F : Hid (w2.ownsRow w.heap.size 5 1 v' (blk ys).length ((blk ys).map (Value.int .u8)) ∧ Only (fun _ => False) w w2) :=
    ⟨own_low hown (by have := O1.out.size; simp; omega), (O1.out.alloc _).trans hon (fun _ _ f => f)⟩
  clear hown hon CC O1
  go_wp2
  go_ret
  exact ⟨_, rfl, F.out⟩
end Go.Proofs.YthapipgaohlgdabGreatDoor

/- A chunk as a list of bytes: what is written, what is read, one piece behind the other; over any two codecs of numbers. -/
namespace Go.Proofs.YthapipgaohlgdabGreatDoor
open Go.RowKit

/-! blocks -/
theorem sBlk_back (b t : List Int) (n : Int) (hb : b.length ≤ 1000000) (hn : (b.length : Int) ≤ n) : sBlock n (blk b ++ t) = (b, (blk b).length, 0) := by
  unfold sBlock blk
  rw [List.append_assoc, sVarint_gs _ _ (by omega), if_neg (by omega), if_neg (by simp), if_neg (by simp; omega), if_neg (by simp [List.length_append]; omega)]
  simp
theorem sBlk_cut (b : List Int) (k : Nat) (n : Int) (hb : b.length ≤ 1000000) (hn : (b.length : Int) ≤ n) (hk : k < (blk b).length) : sBlock n ((blk b).take k) = ([], 0, 2) := by
  have hl : (blk b).length = (gs b.length).length + b.length := by rw [blk, List.length_append]
  by_cases h : k < (gs b.length).length
  · have e : (blk b).take k = (gs b.length).take k := by rw [blk, List.take_append_of_le_length (by omega)]
    rw [e, sBlock, if_neg (by omega), sVarint_short _ _ (by omega) h, if_pos (by simp)]
  · have e : (blk b).take k = gs b.length ++ b.take (k - (gs b.length).length) := by
      rw [blk, List.take_append, List.take_of_length_le (by omega)]
    rw [e, sBlock, if_neg (by omega), sVarint_gs _ _ (by omega), if_neg (by simp), if_neg (by simp; omega), if_pos (by simp only [List.length_append, List.length_take]; omega)]
/-- a block's error, and nothing beside it; or a block, and the bytes are its own -/
theorem sBlk_cases {ys : List Int} {n : Int} (hr : ∀ y ∈ ys, 0 ≤ y ∧ y ≤ 255) (hn : 0 ≤ n) (hn1 : n ≤ 1000000) :
    (∃ c, sBlock n ys = ([], 0, c) ∧ (c = 2 ∨ c = 3 ∨ c = 4)) ∨ (∃ b k, sBlock n ys = (b, k, 0) ∧ (b.length : Int) ≤ n ∧ k ≤ ys.length ∧ 1 ≤ k ∧ ys = blk b ++ ys.drop k ∧ k = (blk b).length) := by
  unfold sBlock
  rw [if_neg (by omega)]
  rcases sVarint_cases hr with ⟨c, h, hc⟩ | ⟨a, k, h, h1, h2, h3, h4⟩
  · rw [h, if_pos (by rcases hc with rfl | rfl <;> simp)]
    exact .inl ⟨c, rfl, by omega⟩
  · rw [h, if_neg (by simp)]
    simp only
    by_cases c1 : n < (a : Int)
    · rw [if_pos c1]; exact .inl ⟨4, rfl, by omega⟩
    · rw [if_neg c1]
      by_cases c2 : (ys.length : Int) - k < a
      · rw [if_pos c2]; exact .inl ⟨2, rfl, by omega⟩
      · rw [if_neg c2, Int.toNat_natCast]
        have hkg : k = (gs a).length := by
          have := congrArg List.length h4
          rw [List.length_append, List.length_drop] at this
          omega
        have hbl : ((ys.drop k).take a).length = a := by rw [List.length_take, List.length_drop]; omega
        refine .inr ⟨(ys.drop k).take a, k + a, rfl, by rw [hbl]; omega, by omega, by omega, ?_, ?_⟩
        · unfold blk
          rw [hbl, List.append_assoc, ← List.drop_drop, List.take_append_drop]
          exact h4
        · unfold blk
          rw [List.length_append, hbl, hkg]

def chNone : (List Int × List (Int × Int)) := ([], [])
def MOST (n : Int) : Int := if n < 0 then 1 else 1 + 8 * min n 65536
section
variable (e8 e11 : List Int → List Int) (d8 d11 : List Int → Int → List Int × Int)
/-- what is written -/
def ENC12 (tn : List Int) (s : List (Int × Int)) : List Int × Int :=
  if 64 < tn.length ∨ 65536 < s.length then ([], 4) else (1 :: (blk tn ++ (gs s.length ++ (blk (e8 (s.map Prod.fst)) ++ blk (e11 (s.map Prod.snd))))), 0)
/-- what is read, from the end on -/
def C5 (tn : List Int) (n : Int) (ti va rest : List Int) : (List Int × List (Int × Int)) × Int :=
  if rest ≠ [] then (chNone, 3) else if (d8 ti n).2 ≠ 0 then (chNone, (d8 ti n).2) else if (d11 va n).2 ≠ 0 then (chNone, (d11 va n).2) else ((tn, (d8 ti n).1.zip (d11 va n).1), 0)
def C4 (tn : List Int) (n : Int) (ti ys : List Int) : (List Int × List (Int × Int)) × Int :=
  if (sBlock (MOST n) ys).2.2 ≠ 0 then (chNone, (sBlock (MOST n) ys).2.2) else C5 d8 d11 tn n ti (sBlock (MOST n) ys).1 (ys.drop (sBlock (MOST n) ys).2.1)
def C3 (tn : List Int) (n : Int) (ys : List Int) : (List Int × List (Int × Int)) × Int :=
  if (sBlock (MOST n) ys).2.2 ≠ 0 then (chNone, (sBlock (MOST n) ys).2.2) else C4 d8 d11 tn n (sBlock (MOST n) ys).1 (ys.drop (sBlock (MOST n) ys).2.1)
def C2 (tn : List Int) (ys : List Int) : (List Int × List (Int × Int)) × Int :=
  if (sVarint ys).2.2 ≠ 0 then (chNone, (sVarint ys).2.2) else if 65536 < (sVarint ys).1 then (chNone, 4) else C3 d8 d11 tn (sVarint ys).1 (ys.drop (sVarint ys).2.1)
def C1 (ys : List Int) : (List Int × List (Int × Int)) × Int :=
  if (sBlock 64 ys).2.2 ≠ 0 then (chNone, (sBlock 64 ys).2.2) else C2 d8 d11 (sBlock 64 ys).1 (ys.drop (sBlock 64 ys).2.1)
def DEC12 (b : List Int) : (List Int × List (Int × Int)) × Int :=
  if b = [] then (chNone, 2) else if b.getD 0 0 ≠ 1 then (chNone, 3) else C1 d8 d11 (b.drop 1)
end

theorem MOST_nat {n : Nat} (h : n ≤ 65536) : MOST n = 1 + 8 * n := by unfold MOST; rw [if_neg (by omega)]; omega
/-- the codecs: what is asked of them -/
structure Codec (e : List Int → List Int) (d : List Int → Int → List Int × Int) (G : List Int → Prop) : Prop where
  back : ∀ l, G l → l.length ≤ 65536 → d (e l) l.length = (l, 0)
  ok : ∀ b (n : Int), (∀ y ∈ b, 0 ≤ y ∧ y ≤ 255) → (d b n).2 = 0 → ((d b n).1.length : Int) = n ∧ G (d b n).1 ∧ e (d b n).1 = b
  len : ∀ l, l.length ≤ 65536 → (e l).length ≤ 1 + 8 * l.length
variable {e8 e11 : List Int → List Int} {d8 d11 : List Int → Int → List Int × Int} {G8 G11 : List Int → Prop}

theorem sVarint_more {v : Nat} {ys : List Int} (h : v < 18446744073709551616) (e : ys = gs v) : sVarint ys = ((v : Int), ys.length, 0) := by
  subst e
  have := sVarint_gs v [] h
  rwa [List.append_nil] at this

theorem C5_ok (K8 : Codec e8 d8 G8) (K11 : Codec e11 d11 G11) {tn : List Int} {s : List (Int × Int)} (g8 : G8 (s.map Prod.fst)) (g11 : G11 (s.map Prod.snd)) (hs : s.length ≤ 65536) : C5 d8 d11 tn s.length (e8 (s.map Prod.fst)) (e11 (s.map Prod.snd)) [] = ((tn, s), 0) := by
  have h1 := K8.back _ g8 (by rw [List.length_map]; exact hs)
  have h2 := K11.back _ g11 (by rw [List.length_map]; exact hs)
  rw [List.length_map] at h1 h2
  unfold C5
  rw [if_neg (by simp), h1, if_neg (by simp), h2, if_neg (by simp)]
  simp only
  congr 2
  rw [List.zip_map']
  exact (List.map_congr_left (g := id) (fun x _ => rfl)).trans (List.map_id s)
theorem DEC12_parts (K8 : Codec e8 d8 G8) (K11 : Codec e11 d11 G11) {tn : List Int} {s : List (Int × Int)} (ht : tn.length ≤ 64) (hs : s.length ≤ 65536) (r : List Int) :
    DEC12 d8 d11 ((ENC12 e8 e11 tn s).1 ++ r) = C5 d8 d11 tn s.length (e8 (s.map Prod.fst)) (e11 (s.map Prod.snd)) r := by
  have l8 := K8.len (s.map Prod.fst) (by rw [List.length_map]; exact hs)
  have l11 := K11.len (s.map Prod.snd) (by rw [List.length_map]; exact hs)
  rw [List.length_map] at l8 l11
  unfold ENC12
  rw [if_neg (by omega)]
  simp only [List.cons_append, List.append_assoc]
  unfold DEC12
  rw [if_neg (List.cons_ne_nil _ _), List.getD_cons_zero, if_neg (by simp), List.drop_succ_cons, List.drop_zero]
  unfold C1
  rw [sBlk_back tn _ 64 (by omega) (by omega), if_neg (by simp)]
  simp only [List.drop_left]
  unfold C2
  rw [sVarint_gs _ _ (by omega), if_neg (by simp)]
  simp only [List.drop_left]
  rw [if_neg (by omega)]
  unfold C3
  rw [MOST_nat hs, sBlk_back _ _ _ (by omega) (by omega), if_neg (by simp)]
  simp only [List.drop_left]
  unfold C4
  rw [MOST_nat hs, sBlk_back _ _ _ (by omega) (by omega), if_neg (by simp)]
  simp only [List.drop_left]
/-- there and back -/
theorem DEC12_ENC12 (K8 : Codec e8 d8 G8) (K11 : Codec e11 d11 G11) {tn : List Int} {s : List (Int × Int)} (ht : tn.length ≤ 64) (hs : s.length ≤ 65536) (g8 : G8 (s.map Prod.fst)) (g11 : G11 (s.map Prod.snd)) : DEC12 d8 d11 (ENC12 e8 e11 tn s).1 = ((tn, s), 0) := by
  have := DEC12_parts K8 K11 ht hs []
  rw [List.append_nil] at this
  rw [this]
  exact C5_ok K8 K11 g8 g11 hs
theorem DEC12_more (K8 : Codec e8 d8 G8) (K11 : Codec e11 d11 G11) {tn : List Int} {s : List (Int × Int)} {r : List Int} (ht : tn.length ≤ 64) (hs : s.length ≤ 65536) (hr : r ≠ []) : DEC12 d8 d11 ((ENC12 e8 e11 tn s).1 ++ r) = (chNone, 3) := by
  rw [DEC12_parts K8 K11 ht hs r]
  unfold C5
  rw [if_pos hr]
/-- cut off anywhere it is too short -/
theorem DEC12_cut (K8 : Codec e8 d8 G8) (K11 : Codec e11 d11 G11) {tn : List Int} {s : List (Int × Int)} {k : Nat} (ht : tn.length ≤ 64) (hs : s.length ≤ 65536) (hk : k < (ENC12 e8 e11 tn s).1.length) : DEC12 d8 d11 ((ENC12 e8 e11 tn s).1.take k) = (chNone, 2) := by
  have l8 := K8.len (s.map Prod.fst) (by rw [List.length_map]; exact hs)
  have l11 := K11.len (s.map Prod.snd) (by rw [List.length_map]; exact hs)
  rw [List.length_map] at l8 l11
  unfold ENC12 at hk ⊢
  rw [if_neg (by omega)] at hk ⊢
  simp only [List.length_cons, List.length_append] at hk ⊢
  unfold DEC12
  cases k with
  | zero => rw [List.take_zero, if_pos rfl]
  | succ k =>
    rw [List.take_succ_cons, if_neg (List.cons_ne_nil _ _), List.getD_cons_zero, if_neg (by simp), List.drop_succ_cons, List.drop_zero]
    unfold C1
    by_cases k1 : k < (blk tn).length
    · rw [List.take_append_of_le_length (by omega), sBlk_cut tn k 64 (by omega) (by omega) k1, if_pos (by simp)]
    · rw [List.take_append, List.take_of_length_le (by omega), sBlk_back tn _ 64 (by omega) (by omega), if_neg (by simp)]
      simp only [List.drop_left]
      unfold C2
      obtain ⟨k', hk'⟩ : ∃ k', k' = k - (blk tn).length := ⟨_, rfl⟩
      rw [← hk']
      by_cases k2 : k' < (gs s.length).length
      · rw [List.take_append_of_le_length (by omega), sVarint_short _ _ (by omega) k2, if_pos (by simp)]
      · rw [List.take_append, List.take_of_length_le (by omega), sVarint_gs _ _ (by omega), if_neg (by simp)]
        simp only [List.drop_left]
        rw [if_neg (by omega)]
        unfold C3
        rw [MOST_nat hs]
        obtain ⟨k3, hk3⟩ : ∃ k3, k3 = k' - (gs s.length).length := ⟨_, rfl⟩
        rw [← hk3]
        by_cases k4 : k3 < (blk (e8 (s.map Prod.fst))).length
        · rw [List.take_append_of_le_length (by omega), sBlk_cut _ _ _ (by omega) (by omega) k4, if_pos (by simp)]
        · rw [List.take_append, List.take_of_length_le (by omega), sBlk_back _ _ _ (by omega) (by omega), if_neg (by simp)]
          simp only [List.drop_left]
          unfold C4
          rw [MOST_nat hs, sBlk_cut _ _ _ (by omega) (by omega) (by omega), if_pos (by simp)]
theorem drop_rng {ys : List Int} {k : Nat} (hr : ∀ y ∈ ys, 0 ≤ y ∧ y ≤ 255) : ∀ y ∈ ys.drop k, 0 ≤ y ∧ y ≤ 255 := fun y hy => hr y (List.mem_of_mem_drop hy)
/-- ONE WAY ALONE -/
theorem DEC12_ok (K8 : Codec e8 d8 G8) (K11 : Codec e11 d11 G11) {b : List Int} (hr : ∀ y ∈ b, 0 ≤ y ∧ y ≤ 255) (h : (DEC12 d8 d11 b).2 = 0) :
    ENC12 e8 e11 (DEC12 d8 d11 b).1.1 (DEC12 d8 d11 b).1.2 = (b, 0) ∧ (DEC12 d8 d11 b).1.1.length ≤ 64 ∧ (DEC12 d8 d11 b).1.2.length ≤ 65536 ∧ G8 ((DEC12 d8 d11 b).1.2.map Prod.fst) ∧ G11 ((DEC12 d8 d11 b).1.2.map Prod.snd) := by
  unfold DEC12 at *
  by_cases hb : b = []
  · rw [if_pos hb] at h; cases h
  rw [if_neg hb] at h ⊢
  by_cases h1 : b.getD 0 0 ≠ 1
  · rw [if_pos h1] at h; cases h
  rw [if_neg h1] at h ⊢
  have hb1 : b = 1 :: b.drop 1 := by
    cases b with
    | nil => exact absurd rfl hb
    | cons x t => simp only [List.getD_cons_zero, ne_eq, Classical.not_not] at h1; rw [h1]; rfl
  have r1 := drop_rng (k := 1) hr
  generalize b.drop 1 = y1 at *
  unfold C1 at *
  rcases sBlk_cases (n := 64) r1 (by omega) (by omega) with ⟨c, e, hc⟩ | ⟨tn, k1, e, hl1, _, _, e1, _⟩
  · rw [e] at h; rw [if_pos (by simp only; omega)] at h; simp only at h; omega
  rw [e] at h ⊢
  rw [if_neg (by simp)] at h ⊢
  simp only at h ⊢
  have r2 := drop_rng (k := k1) r1
  generalize y1.drop k1 = y2 at *
  unfold C2 at *
  rcases sVarint_cases r2 with ⟨c, e, hc⟩ | ⟨n, k2, e, _, _, _, e2⟩
  · rw [e] at h; rw [if_pos (by simp only; omega)] at h; simp only at h; omega
  rw [e] at h ⊢
  rw [if_neg (by simp)] at h ⊢
  simp only at h ⊢
  by_cases hn : 65536 < (n : Int)
  · rw [if_pos hn] at h; cases h
  rw [if_neg hn] at h ⊢
  have r3 := drop_rng (k := k2) r2
  generalize y2.drop k2 = y3 at *
  unfold C3 at *
  have hM := MOST_nat (n := n) (by omega)
  rcases sBlk_cases (n := MOST n) r3 (by omega) (by omega) with ⟨c, e, hc⟩ | ⟨ti, k3, e, hl3, _, _, e3, _⟩
  · rw [e] at h; rw [if_pos (by simp only; omega)] at h; simp only at h; omega
  rw [e] at h ⊢
  rw [if_neg (by simp)] at h ⊢
  simp only at h ⊢
  have rti : ∀ y ∈ ti, 0 ≤ y ∧ y ≤ 255 := fun y hy => r3 y (by rw [e3]; unfold blk; simp [hy])
  have r4 := drop_rng (k := k3) r3
  generalize y3.drop k3 = y4 at *
  unfold C4 at *
  rcases sBlk_cases (n := MOST n) r4 (by omega) (by omega) with ⟨c, e, hc⟩ | ⟨va, k4, e, hl4, _, _, e4, _⟩
  · rw [e] at h; rw [if_pos (by simp only; omega)] at h; simp only at h; omega
  rw [e] at h ⊢
  rw [if_neg (by simp)] at h ⊢
  simp only at h ⊢
  have rva : ∀ y ∈ va, 0 ≤ y ∧ y ≤ 255 := fun y hy => r4 y (by rw [e4]; unfold blk; simp [hy])
  generalize y4.drop k4 = y5 at *
  unfold C5 at *
  by_cases h5 : y5 ≠ []
  · rw [if_pos h5] at h; cases h
  rw [if_neg h5] at h ⊢
  have h5' : y5 = [] := Classical.not_not.1 h5
  by_cases h6 : (d8 ti n).2 ≠ 0
  · rw [if_pos h6] at h; exact absurd h h6
  rw [if_neg h6] at h ⊢
  by_cases h7 : (d11 va n).2 ≠ 0
  · rw [if_pos h7] at h; exact absurd h h7
  rw [if_neg h7]
  obtain ⟨a1, a2, a3⟩ := K8.ok ti n rti (by simpa using h6)
  obtain ⟨b1, b2, b3⟩ := K11.ok va n rva (by simpa using h7)
  have hz1 : ((d8 ti n).1.zip (d11 va n).1).map Prod.fst = (d8 ti n).1 := List.map_fst_zip (by omega)
  have hz2 : ((d8 ti n).1.zip (d11 va n).1).map Prod.snd = (d11 va n).1 := List.map_snd_zip (by omega)
  have hzl : ((d8 ti n).1.zip (d11 va n).1).length = n := by rw [List.length_zip]; omega
  simp only
  refine ⟨?_, by omega, by rw [hzl]; omega, by rw [hz1]; exact a2, by rw [hz2]; exact b2⟩
  unfold ENC12
  rw [if_neg (by rw [hzl]; omega), hz1, hz2, hzl, a3, b3]
  congr 1
  rw [hb1, e1, e2, e3, e4, h5', List.append_nil]
theorem DEC12_err {b : List Int} : (DEC12 d8 d11 b).2 ≠ 0 → (DEC12 d8 d11 b).1 = chNone := by
  unfold DEC12
  by_cases hb : b = []
  · rw [if_pos hb]; exact fun _ => rfl
  rw [if_neg hb]
  by_cases h1 : b.getD 0 0 ≠ 1
  · rw [if_pos h1]; exact fun _ => rfl
  rw [if_neg h1]
  unfold C1
  by_cases h2 : (sBlock 64 (b.drop 1)).2.2 ≠ 0
  · rw [if_pos h2]; exact fun _ => rfl
  rw [if_neg h2]
  unfold C2
  split
  · exact fun _ => rfl
  split
  · exact fun _ => rfl
  unfold C3
  split
  · exact fun _ => rfl
  unfold C4
  split
  · exact fun _ => rfl
  unfold C5
  split
  · exact fun _ => rfl
  split
  · exact fun _ => rfl
  split
  · exact fun _ => rfl
  exact fun h => absurd rfl h
end Go.Proofs.YthapipgaohlgdabGreatDoor

/- The arithmetic of differences and sums that go round. -/
namespace Go.Proofs.YthapipgaohlgdabGreatDoor
open Go.RowKit

/-- numbers of 64 bits with a sign -/
def G64 (x : Int) : Prop := -9223372036854775808 ≤ x ∧ x ≤ 9223372036854775807
theorem w64_g (x : Int) : G64 (wrap64 x) := by unfold G64 wrap64; omega
theorem w64_id {x : Int} (h : G64 x) : wrap64 x = x := by unfold G64 at h; unfold wrap64; omega
theorem w64_back {a x : Int} (h : G64 x) : wrap64 (a + wrap64 (x - a)) = x := by unfold G64 at h; unfold wrap64; omega
theorem w64_forth {a x : Int} (h : G64 x) : wrap64 (wrap64 (a + x) - a) = x := by unfold G64 at h; unfold wrap64; omega
theorem w64_both (a b y : Int) : wrap64 (wrap64 (a + y) - wrap64 (b + y)) = wrap64 (a - b) := by unfold wrap64; omega
theorem w64_neg (a b : Int) : wrap64 (wrap64 (-a) - wrap64 (-b)) = wrap64 (-wrap64 (a - b)) := by unfold wrap64; omega
theorem w64_step (x s : Int) (h : G64 s) : wrap64 (wrap64 (x + s) - x) = s := by unfold G64 at h; unfold wrap64; omega

/-- each one less the one ahead -/
def dif : Int → List Int → List Int
  | _, [] => []
  | a, x :: t => wrap64 (x - a) :: dif x t
/-- each one and those ahead -/
def sm : Int → List Int → List Int
  | _, [] => []
  | a, x :: t => wrap64 (a + x) :: sm (wrap64 (a + x)) t
/-- the first s as they are, f of the others -/
def bh (f : List Int → List Int) (s : Nat) (l : List Int) : List Int := l.take s ++ f (l.drop s)
def D : Nat → List Int → List Int
  | 0, l => l
  | k + 1, l => bh (dif 0) k (D k l)
def S : Nat → List Int → List Int
  | 0, l => l
  | k + 1, l => S k (bh (sm 0) k l)

theorem dif_length (a : Int) (l : List Int) : (dif a l).length = l.length := by
  induction l generalizing a with
  | nil => rfl
  | cons x t ih => simp [dif, ih]
theorem sm_length (a : Int) (l : List Int) : (sm a l).length = l.length := by
  induction l generalizing a with
  | nil => rfl
  | cons x t ih => simp [sm, ih]
theorem dif_g (a : Int) (l : List Int) : ∀ x ∈ dif a l, G64 x := by
  induction l generalizing a with
  | nil => intro x hx; simp [dif] at hx
  | cons y t ih =>
    intro x hx
    simp only [dif, List.mem_cons] at hx
    rcases hx with rfl | hx
    · exact w64_g _
    · exact ih _ x hx
theorem sm_g (a : Int) (l : List Int) : ∀ x ∈ sm a l, G64 x := by
  induction l generalizing a with
  | nil => intro x hx; simp [sm] at hx
  | cons y t ih =>
    intro x hx
    simp only [sm, List.mem_cons] at hx
    rcases hx with rfl | hx
    · exact w64_g _
    · exact ih _ x hx
theorem sm_dif (a : Int) (l : List Int) (h : ∀ x ∈ l, G64 x) : sm a (dif a l) = l := by
  induction l generalizing a with
  | nil => rfl
  | cons x t ih =>
    simp only [dif, sm, w64_back (h x (by simp))]
    rw [ih x (fun y hy => h y (by simp [hy]))]
theorem dif_sm (a : Int) (l : List Int) (h : ∀ x ∈ l, G64 x) : dif a (sm a l) = l := by
  induction l generalizing a with
  | nil => rfl
  | cons x t ih =>
    simp only [dif, sm, w64_forth (h x (by simp))]
    rw [ih _ (fun y hy => h y (by simp [hy]))]
theorem bh_length {f : List Int → List Int} (hf : ∀ l, (f l).length = l.length) (s : Nat) (l : List Int) : (bh f s l).length = l.length := by
  simp only [bh, List.length_append, List.length_take, hf, List.length_drop]; omega
theorem bh_g {f : List Int → List Int} (hf : ∀ l, ∀ x ∈ f l, G64 x) (s : Nat) (l : List Int) (h : ∀ x ∈ l, G64 x) : ∀ x ∈ bh f s l, G64 x := by
  intro x hx
  simp only [bh, List.mem_append] at hx
  rcases hx with hx | hx
  · exact h x (List.mem_of_mem_take hx)
  · exact hf _ x hx
theorem bh_bh {f g : List Int → List Int} (hf : ∀ l, (f l).length = l.length) (s : Nat) (l : List Int) (hg : g (f (l.drop s)) = l.drop s) : bh g s (bh f s l) = l := by
  unfold bh
  by_cases h : s ≤ l.length
  · have e : (l.take s).length = s := by rw [List.length_take]; omega
    rw [List.take_append_of_le_length (by omega), List.take_take, Nat.min_self, List.drop_append_of_le_length (by omega), List.drop_of_length_le (by omega), List.nil_append, hg, List.take_append_drop]
  · have e : l.drop s = [] := List.drop_of_length_le (by omega)
    have e0 : f [] = [] := List.eq_nil_of_length_eq_zero (by rw [hf]; rfl)
    have e1 : l.take s = l := List.take_of_length_le (by omega)
    rw [e, e0] at hg
    rw [e, e0, e1, List.append_nil, e, e1, hg, List.append_nil]
theorem bh_take {f : List Int → List Int} (hf : ∀ l, (f l).length = l.length) (ht : ∀ l n, (f l).take n = f (l.take n)) (s : Nat) (l : List Int) (c : Nat) : (bh f s l).take c = bh f s (l.take c) := by
  unfold bh
  have e0 : f [] = [] := List.eq_nil_of_length_eq_zero (by rw [hf]; rfl)
  rw [List.take_append, List.take_take, List.take_take, Nat.min_comm, ht, List.length_take, List.drop_take]
  congr 2
  by_cases h : s ≤ l.length
  · rw [Nat.min_eq_left h]
  · rw [List.drop_of_length_le (by omega)]; simp
theorem dif_take (a : Int) (l : List Int) (n : Nat) : (dif a l).take n = dif a (l.take n) := by
  induction l generalizing a n with
  | nil => simp [dif]
  | cons x t ih =>
    cases n with
    | zero => rfl
    | succ n => simp only [dif, List.take_succ_cons, ih]
theorem sm_take (a : Int) (l : List Int) (n : Nat) : (sm a l).take n = sm a (l.take n) := by
  induction l generalizing a n with
  | nil => simp [sm]
  | cons x t ih =>
    cases n with
    | zero => rfl
    | succ n => simp only [sm, List.take_succ_cons, ih]

theorem D_length (k : Nat) (l : List Int) : (D k l).length = l.length := by
  induction k with
  | zero => rfl
  | succ k ih => rw [D, bh_length (dif_length 0), ih]
theorem S_length (k : Nat) (l : List Int) : (S k l).length = l.length := by
  induction k generalizing l with
  | zero => rfl
  | succ k ih => rw [S, ih, bh_length (sm_length 0)]
theorem D_g (k : Nat) (l : List Int) (h : ∀ x ∈ l, G64 x) : ∀ x ∈ D k l, G64 x := by
  induction k with
  | zero => exact h
  | succ k ih => exact bh_g (dif_g 0) k _ ih
theorem S_g (k : Nat) (l : List Int) (h : ∀ x ∈ l, G64 x) : ∀ x ∈ S k l, G64 x := by
  induction k generalizing l with
  | zero => exact h
  | succ k ih => exact ih _ (bh_g (sm_g 0) k _ h)
/-- THERE AND BACK -/
theorem S_D (k : Nat) (l : List Int) (h : ∀ x ∈ l, G64 x) : S k (D k l) = l := by
  induction k with
  | zero => rfl
  | succ k ih =>
    rw [S, D, bh_bh (dif_length 0) k _ (sm_dif 0 _ (fun x hx => D_g k l h x (List.mem_of_mem_drop hx))), ih]
/-- BACK AND THERE -/
theorem D_S (k : Nat) (l : List Int) (h : ∀ x ∈ l, G64 x) : D k (S k l) = l := by
  induction k generalizing l with
  | zero => rfl
  | succ k ih =>
    rw [S, D, ih _ (bh_g (sm_g 0) k _ h), bh_bh (sm_length 0) k _ (dif_sm 0 _ (fun x hx => h x (List.mem_of_mem_drop hx)))]
/-- A LIST THAT IS CUT OFF -/
theorem D_take (k : Nat) (l : List Int) (c : Nat) : (D k l).take c = D k (l.take c) := by
  induction k with
  | zero => rfl
  | succ k ih => rw [D, D, bh_take (dif_length 0) (dif_take 0), ih]
theorem S_take (k : Nat) (l : List Int) (c : Nat) : (S k l).take c = S k (l.take c) := by
  induction k generalizing l with
  | zero => rfl
  | succ k ih => rw [S, S, ih, bh_take (sm_length 0) (sm_take 0)]
theorem bh_one {f : List Int → List Int} (hf : ∀ l, (f l).length = l.length) (x : Int) (h : f [x] = [x]) (s : Nat) : bh f s [x] = [x] := by
  have e0 : f [] = [] := List.eq_nil_of_length_eq_zero (by rw [hf]; rfl)
  cases s with
  | zero => simp [bh, h]
  | succ s => simp [bh, e0]
theorem D_one (k : Nat) (x : Int) (h : G64 x) : D k [x] = [x] := by
  induction k with
  | zero => rfl
  | succ k ih => rw [D, ih]; exact bh_one (dif_length 0) x (by simp [dif, w64_id h]) k
theorem S_one (k : Nat) (x : Int) (h : G64 x) : S k [x] = [x] := by
  induction k with
  | zero => rfl
  | succ k ih => rw [S, bh_one (sm_length 0) x (by simp [sm, w64_id h]) k, ih]
theorem head_of_take {l m : List Int} (h : m.take 1 = l.take 1) : m.getD 0 0 = l.getD 0 0 := by
  cases l <;> cases m <;> simp_all
/-- THE FIRST ONE STAYS -/
theorem D_first (k : Nat) (l : List Int) (h : ∀ x ∈ l, G64 x) : (D k l).getD 0 0 = l.getD 0 0 := by
  refine head_of_take ?_
  rw [D_take]
  cases l with
  | nil => exact List.eq_nil_of_length_eq_zero (by rw [D_length]; rfl)
  | cons x t => exact D_one k x (h x (by simp))
theorem S_first (k : Nat) (l : List Int) (h : ∀ x ∈ l, G64 x) : (S k l).getD 0 0 = l.getD 0 0 := by
  refine head_of_take ?_
  rw [S_take]
  cases l with
  | nil => exact List.eq_nil_of_length_eq_zero (by rw [S_length]; rfl)
  | cons x t => exact S_one k x (h x (by simp))
theorem dif_at (a : Int) (l : List Int) (i : Nat) (hi : i + 1 < l.length) : (dif a l).getD (i + 1) 0 = wrap64 (l.getD (i + 1) 0 - l.getD i 0) := by
  induction l generalizing a i with
  | nil => simp at hi
  | cons x t ih =>
    cases t with
    | nil => simp at hi
    | cons y t =>
      cases i with
      | zero => simp [dif]
      | succ i =>
        have := ih x i (by simpa using hi)
        simp only [dif, List.getD_cons_succ] at this ⊢
        exact this
theorem dif_zero (l : List Int) (h : ∀ x ∈ l, G64 x) : (dif 0 l).getD 0 0 = l.getD 0 0 := by
  cases l with
  | nil => rfl
  | cons x t => simp [dif, w64_id (h x (by simp))]

/-- numbers that lie equally far apart -/
def ap (s : Int) : Int → Nat → List Int
  | _, 0 => []
  | x, n + 1 => x :: ap s (wrap64 (x + s)) n
theorem ap_length (s x : Int) (n : Nat) : (ap s x n).length = n := by
  induction n generalizing x with
  | zero => rfl
  | succ n ih => simp [ap, ih]
theorem ap_g (s x : Int) (n : Nat) (h : G64 x) : ∀ y ∈ ap s x n, G64 y := by
  induction n generalizing x with
  | zero => intro y hy; simp [ap] at hy
  | succ n ih =>
    intro y hy
    simp only [ap, List.mem_cons] at hy
    rcases hy with rfl | hy
    · exact h
    · exact ih _ (w64_g _) y hy
theorem dif_ap (s x : Int) (n : Nat) (hs : G64 s) : dif x (ap s (wrap64 (x + s)) n) = List.replicate n s := by
  induction n generalizing x with
  | zero => rfl
  | succ n ih => simp only [ap, dif, w64_step x s hs, List.replicate_succ, ih]
theorem dif_rep (s : Int) (n : Nat) : dif s (List.replicate n s) = List.replicate n 0 := by
  induction n with
  | zero => rfl
  | succ n ih =>
    have e : wrap64 (s - s) = 0 := by unfold wrap64; omega
    simp only [List.replicate_succ, dif, ih, e]
theorem D2_ap (s x : Int) (n : Nat) (hs : G64 s) (hx : G64 x) : D 2 (ap s x (n + 2)) = x :: s :: List.replicate n 0 := by
  have h1 : D 1 (ap s x (n + 2)) = x :: List.replicate (n + 1) s := by
    show bh (dif 0) 0 (ap s x (n + 2)) = _
    rw [ap]
    simp only [bh, List.take_zero, List.drop_zero, List.nil_append, dif]
    rw [dif_ap s x (n + 1) hs, Int.sub_zero, w64_id hx]
  show bh (dif 0) 1 (D 1 (ap s x (n + 2))) = _
  rw [h1]
  simp only [bh, List.take_succ_cons, List.take_zero, List.drop_succ_cons, List.drop_zero, List.replicate_succ, dif, dif_rep, Int.sub_zero, w64_id hs, List.cons_append, List.nil_append]
theorem D3_ap (s x : Int) (n : Nat) (hs : G64 s) (hx : G64 x) : D 3 (ap s x (n + 2)) = x :: s :: List.replicate n 0 := by
  show bh (dif 0) 2 (D 2 (ap s x (n + 2))) = _
  rw [D2_ap s x n hs hx]
  simp only [bh, List.take_succ_cons, List.take_zero, List.drop_succ_cons, List.drop_zero, dif_rep, List.cons_append, List.nil_append]
theorem even_at (s x : Int) (n i : Nat) (hs : G64 s) (hx : G64 x) (hi : 2 ≤ i) (hn : i < n) : (D 2 (ap s x n)).getD i 0 = 0 ∧ (D 3 (ap s x n)).getD i 0 = 0 := by
  obtain ⟨m, rfl⟩ : ∃ m, n = m + 2 := ⟨n - 2, by omega⟩
  obtain ⟨j, rfl⟩ : ∃ j, i = j + 2 := ⟨i - 2, by omega⟩
  rw [D2_ap s x m hs hx, D3_ap s x m hs hx]
  have e : (x :: s :: List.replicate m 0).getD (j + 2) 0 = 0 := by
    rw [List.getD_cons_succ, List.getD_cons_succ, List.getD_eq_getElem?_getD, List.getElem?_replicate]
    split <;> rfl
  exact ⟨e, e⟩
end Go.Proofs.YthapipgaohlgdabGreatDoor

/- Numbers above their least one, as lists: the least and the greatest, what is packed, what is read back. -/
namespace Go.Proofs.YthapipgaohlgdabGreatDoor
open Go.RowKit

def loF (a : Int) (l : List Int) : Int := l.foldl (fun m x => min m x) a
def hiF (a : Int) (l : List Int) : Int := l.foldl (fun m x => max m x) a
def lo (l : List Int) : Int := loF (l.getD 0 0) (l.drop 1)
def hi (l : List Int) : Int := hiF (l.getD 0 0) (l.drop 1)

theorem loF_le (l : List Int) : ∀ a, loF a l ≤ a ∧ ∀ x ∈ l, loF a l ≤ x := by
  induction l with
  | nil => intro a; simp [loF]
  | cons b t ih =>
    intro a
    obtain ⟨h1, h2⟩ := ih (min a b)
    have e : loF a (b :: t) = loF (min a b) t := rfl
    rw [e]
    refine ⟨by omega, fun x hx => ?_⟩
    rcases List.mem_cons.1 hx with rfl | hx
    · omega
    · exact h2 x hx
theorem hiF_ge (l : List Int) : ∀ a, a ≤ hiF a l ∧ ∀ x ∈ l, x ≤ hiF a l := by
  induction l with
  | nil => intro a; simp [hiF]
  | cons b t ih =>
    intro a
    obtain ⟨h1, h2⟩ := ih (max a b)
    have e : hiF a (b :: t) = hiF (max a b) t := rfl
    rw [e]
    refine ⟨by omega, fun x hx => ?_⟩
    rcases List.mem_cons.1 hx with rfl | hx
    · omega
    · exact h2 x hx
theorem loF_mem (l : List Int) : ∀ a, loF a l = a ∨ loF a l ∈ l := by
  induction l with
  | nil => intro a; simp [loF]
  | cons b t ih =>
    intro a
    have e : loF a (b :: t) = loF (min a b) t := rfl
    rw [e]
    rcases ih (min a b) with h | h
    · rw [h]
      rcases Int.le_total a b with h' | h'
      · left; omega
      · right; rw [show min a b = b by omega]; exact List.mem_cons_self
    · exact .inr (List.mem_cons_of_mem _ h)
theorem hiF_mem (l : List Int) : ∀ a, hiF a l = a ∨ hiF a l ∈ l := by
  induction l with
  | nil => intro a; simp [hiF]
  | cons b t ih =>
    intro a
    have e : hiF a (b :: t) = hiF (max a b) t := rfl
    rw [e]
    rcases ih (max a b) with h | h
    · rw [h]
      rcases Int.le_total a b with h' | h'
      · right; rw [show max a b = b by omega]; exact List.mem_cons_self
      · left; omega
    · exact .inr (List.mem_cons_of_mem _ h)
theorem loF_snoc (a : Int) (l : List Int) (x : Int) : loF a (l ++ [x]) = min (loF a l) x := by simp [loF]
theorem hiF_snoc (a : Int) (l : List Int) (x : Int) : hiF a (l ++ [x]) = max (hiF a l) x := by simp [hiF]
theorem lo_cons (a : Int) (t : List Int) : lo (a :: t) = loF a t := rfl
theorem hi_cons (a : Int) (t : List Int) : hi (a :: t) = hiF a t := rfl
theorem lo_nil : lo [] = 0 := rfl
theorem hi_nil : hi [] = 0 := rfl
theorem lo_le (l : List Int) : ∀ x ∈ l, lo l ≤ x := by
  cases l with
  | nil => simp
  | cons a t =>
    intro x hx
    rw [lo_cons]
    rcases List.mem_cons.1 hx with rfl | hx
    · exact (loF_le t x).1
    · exact (loF_le t a).2 x hx
theorem le_hi (l : List Int) : ∀ x ∈ l, x ≤ hi l := by
  cases l with
  | nil => simp
  | cons a t =>
    intro x hx
    rw [hi_cons]
    rcases List.mem_cons.1 hx with rfl | hx
    · exact (hiF_ge t x).1
    · exact (hiF_ge t a).2 x hx
theorem lo_mem {l : List Int} (h : l ≠ []) : lo l ∈ l := by
  cases l with
  | nil => exact absurd rfl h
  | cons a t =>
    rw [lo_cons]
    rcases loF_mem t a with h | h
    · rw [h]; exact List.mem_cons_self
    · exact List.mem_cons_of_mem _ h
theorem hi_mem {l : List Int} (h : l ≠ []) : hi l ∈ l := by
  cases l with
  | nil => exact absurd rfl h
  | cons a t =>
    rw [hi_cons]
    rcases hiF_mem t a with h | h
    · rw [h]; exact List.mem_cons_self
    · exact List.mem_cons_of_mem _ h
theorem lohi {l : List Int} (h : U64 l) : 0 ≤ lo l ∧ lo l ≤ hi l ∧ hi l ≤ 18446744073709551615 := by
  by_cases hne : l = []
  · subst hne; rw [lo_nil, hi_nil]; omega
  · have h1 := h _ (lo_mem hne)
    have h2 := h _ (hi_mem hne)
    have h3 := lo_le l _ (hi_mem hne)
    omega

def wd (l : List Int) : Nat := wid (hi l - lo l).toNat
theorem wd_le {l : List Int} (h : U64 l) : wd l ≤ 64 := by
  have := lohi h
  exact wid_le64 _ (by omega)
theorem wd_fits (l : List Int) (x : Int) (hx : x ∈ l) : wid (x - lo l).toNat ≤ wd l := by
  have h1 := lo_le l x hx
  have h2 := le_hi l x hx
  exact wid_mono (by omega)
/-- the bits of all of t above a, w each -/
def ups (a : Int) (w : Nat) (t : List Int) : List Bool := t.flatMap fun x => bitsOf (x - a).toNat w
def up (l : List Int) : List Bool := ups (lo l) (wd l) l
theorem ups_length (a : Int) (w : Nat) (t : List Int) : (ups a w t).length = t.length * w := by
  induction t with
  | nil => simp [ups]
  | cons b t ih =>
    have e : ups a w (b :: t) = bitsOf (b - a).toNat w ++ ups a w t := rfl
    rw [e, List.length_append, ih, bitsOf_length, List.length_cons, Nat.add_mul]; omega
theorem ups_snoc (a : Int) (w : Nat) (t : List Int) (x : Int) : ups a w (t ++ [x]) = ups a w t ++ bitsOf (x - a).toNat w := by simp [ups]
theorem up_length (l : List Int) : (up l).length = l.length * wd l := ups_length _ _ _
/-- what l is packed to -/
def PK (l : List Int) : List Int := gs (lo l).toNat ++ ((wd l : Int) :: bytesI (up l))
theorem PK_length (l : List Int) : (PK l).length = (gs (lo l).toNat).length + 1 + (l.length * wd l + 7) / 8 := by
  unfold PK
  rw [List.length_append, List.length_cons, bytesI_length, nb, up_length]; omega
theorem PK_rng {l : List Int} (h : U64 l) : ∀ y ∈ PK l, 0 ≤ y ∧ y ≤ 255 := by
  intro y hy
  have hw := wd_le h
  unfold PK at hy
  rcases List.mem_append.1 hy with h1 | h1
  · exact gs_range _ y h1
  · rcases List.mem_cons.1 h1 with rfl | h1
    · omega
    · exact bytesI_rng _ y h1

/-- n numbers of w bits each, all greater by a, out of the bits l -/
def nums (a : Nat) (w : Nat) (l : List Bool) (n : Nat) : List Int := (List.range n).map fun i => (((a + bnum ((l.drop (i * w)).take w)) % 18446744073709551616 : Nat) : Int)
theorem nums_length (a w : Nat) (l : List Bool) (n : Nat) : (nums a w l n).length = n := by simp [nums]
theorem nums_succ (a w : Nat) (l : List Bool) (n : Nat) : nums a w l (n + 1) = nums a w l n ++ [(((a + bnum ((l.drop (n * w)).take w)) % 18446744073709551616 : Nat) : Int)] := by simp [nums, List.range_succ]
theorem nums_u64 (a w : Nat) (l : List Bool) (n : Nat) : U64 (nums a w l n) := by
  intro x hx
  simp only [nums, List.mem_map, List.mem_range] at hx
  obtain ⟨i, _, rfl⟩ := hx
  have := Nat.mod_lt (a + bnum ((l.drop (i * w)).take w)) (show 0 < 18446744073709551616 by decide)
  omega

/-- what reading the numbers tells: an error, or none and the numbers -/
def rdl (b : List Int) (n : Nat) : Int × List Int :=
  if (sVarint b).2.2 ≠ 0 then ((sVarint b).2.2, []) else
  if (b.drop (sVarint b).2.1).length = 0 then (2, []) else
  if 64 < (b.drop (sVarint b).2.1).getD 0 0 then (3, []) else
  if 8 * (b.drop ((sVarint b).2.1 + 1)).length < n * ((b.drop (sVarint b).2.1).getD 0 0).toNat then (2, []) else
  (0, nums (sVarint b).1.toNat ((b.drop (sVarint b).2.1).getD 0 0).toNat (allBits (b.drop ((sVarint b).2.1 + 1))) n)
theorem rdl_err {b : List Int} {c : Int} (n : Nat) (h : rd 0 0 b = (0, 0, c)) (hc : c ≠ 0) : rdl b n = (c, []) := by
  unfold rdl sVarint
  rw [h]; simp [hc]
theorem rdl_none (a n : Nat) (h : a < 18446744073709551616) : rdl (gs a) n = (2, []) := by
  have hs := sVarint_gs a [] h
  rw [List.append_nil] at hs
  unfold rdl
  rw [hs]; simp
theorem rdl_at (a n : Nat) (y : Int) (r : List Int) (h : a < 18446744073709551616) :
    rdl (gs a ++ y :: r) n = if 64 < y then (3, []) else if 8 * r.length < n * y.toNat then (2, []) else (0, nums a y.toNat (allBits r) n) := by
  have hd : (gs a ++ y :: r).drop (gs a).length = y :: r := by simp
  have hd1 : (gs a ++ y :: r).drop ((gs a).length + 1) = r := by rw [← List.drop_drop, hd]; rfl
  unfold rdl
  rw [sVarint_gs a _ h]
  simp only [hd, hd1, ne_eq, not_true_eq_false, if_false]
  simp
theorem rdl_len {b : List Int} {n : Nat} {l : List Int} (h : rdl b n = (0, l)) : l.length = n := by
  unfold rdl at h
  split at h
  · rename_i h0; simp at h; exact absurd h.1 h0
  · split at h
    · simp at h
    · split at h
      · simp at h
      · split at h
        · simp at h
        · simp at h; rw [← h, nums_length]
theorem rdl_u64 (b : List Int) (n : Nat) : U64 (rdl b n).2 := by
  have h0 : U64 [] := fun x hx => by simp at hx
  unfold rdl
  split
  · exact h0
  · split
    · exact h0
    · split
      · exact h0
      · split
        · exact h0
        · exact nums_u64 _ _ _ _
/-- bytes: no varint; a varint and no more; a varint, a byte, and what follows -/
theorem parse (b : List Int) (hr : ∀ y ∈ b, 0 ≤ y ∧ y ≤ 255) : (∃ c, rd 0 0 b = (0, 0, c) ∧ (c = 2 ∨ c = 3)) ∨ (∃ a : Nat, a < 18446744073709551616 ∧ b = gs a) ∨ (∃ (a : Nat) (y : Int) (r : List Int), a < 18446744073709551616 ∧ b = gs a ++ y :: r) := by
  rcases rd_cases b hr with h | ⟨a, k, h, h1, h2, h3, h4, h5⟩
  · exact .inl h
  · right
    have hb : b = gs a ++ b.drop k := by rw [h5, List.take_append_drop]
    cases hd : b.drop k with
    | nil => left; rw [hd, List.append_nil] at hb; exact ⟨a, h4, hb⟩
    | cons y r => right; rw [hd] at hb; exact ⟨a, y, r, h4, hb⟩

theorem ups_at (a : Int) (w : Nat) (t : List Int) : ∀ (i : Nat) (z : List Bool), i < t.length → ((ups a w t ++ z).drop (i * w)).take w = bitsOf (t.getD i 0 - a).toNat w := by
  induction t with
  | nil => intro i z h; simp at h
  | cons b t ih =>
    intro i z h
    have e : ups a w (b :: t) = bitsOf (b - a).toNat w ++ ups a w t := rfl
    have hl := bitsOf_length (b - a).toNat w
    cases i with
    | zero => rw [e, Nat.zero_mul, List.drop_zero, List.append_assoc, List.take_append_of_le_length (by omega), List.take_of_length_le (by omega)]; rfl
    | succ i =>
      have hd : (bitsOf (b - a).toNat w ++ (ups a w t ++ z)).drop w = ups a w t ++ z := by
        rw [List.drop_append_of_le_length (by omega), List.drop_of_length_le (l := bitsOf (b - a).toNat w) (by omega), List.nil_append]
      rw [e, List.append_assoc, Nat.add_mul, Nat.one_mul, Nat.add_comm, ← List.drop_drop, hd, ih i z (by simpa using h)]
      rfl

/-- WHAT IS PACKED IS READ BACK, whatever follows. -/
theorem pk_read {l : List Int} (h : U64 l) (t : List Int) : rdl (PK l ++ t) l.length = (0, l) := by
  obtain ⟨h1, h2, h3⟩ := lohi h
  have hw := wd_le h
  have e : PK l ++ t = gs (lo l).toNat ++ (wd l : Int) :: (bytesI (up l) ++ t) := by simp [PK]
  rw [e, rdl_at _ _ _ _ (by omega), if_neg (by omega), if_neg]
  · congr 1
    rw [Int.toNat_natCast, allBits_append, bits_back, List.append_assoc]
    apply List.ext_getElem
    · rw [nums_length]
    · intro i hi1 hi2
      have hx : l[i] ∈ l := List.getElem_mem _
      have hg : l.getD i 0 = l[i] := by rw [List.getD_eq_getElem?_getD, List.getElem?_eq_getElem hi2]; rfl
      simp only [nums, List.getElem_map, List.getElem_range]
      have hu : ∀ z, ((up l ++ z).drop (i * wd l)).take (wd l) = bitsOf (l.getD i 0 - lo l).toNat (wd l) := fun z => ups_at _ _ l i z hi2
      rw [hu, hg, num_bitsOf, Nat.mod_eq_of_lt ((wid_le_iff _ _).1 (wd_fits l _ hx))]
      have := lo_le l _ hx
      have := h _ hx
      rw [Nat.mod_eq_of_lt (by omega)]
      omega
  · rw [Int.toNat_natCast, List.length_append, bytesI_length, nb, up_length]; omega

/-- the parts of what is packed -/
theorem pk_split {l r : List Int} {a : Nat} {y : Int} (h : U64 l) (ha : a < 18446744073709551616) (e : PK l = gs a ++ y :: r) : (lo l).toNat = a ∧ (wd l : Int) = y ∧ bytesI (up l) = r := by
  obtain ⟨h1, h2, h3⟩ := lohi h
  have s1 : sVarint (PK l) = (((lo l).toNat : Int), (gs (lo l).toNat).length, 0) := sVarint_gs _ _ (by omega)
  have s2 := sVarint_gs a (y :: r) ha
  rw [← e, s1] at s2
  simp only [Prod.mk.injEq, Int.natCast_inj] at s2
  obtain ⟨s2, _⟩ := s2
  unfold PK at e
  rw [s2] at e
  have e2 := List.append_cancel_left e
  simp only [List.cons.injEq] at e2
  exact ⟨s2, e2.1, e2.2⟩

/-- so many numbers: no shorter bytes -/
theorem pk_cut {l m : List Int} {k : Nat} (h : U64 l) (hm : U64 m) (hl : m.length = l.length) (hk : k < (PK l).length) (e : PK m = (PK l).take k) : False := by
  obtain ⟨h1, h2, h3⟩ := lohi h
  obtain ⟨g1, g2, g3⟩ := lohi hm
  have s1 : sVarint (PK m) = (((lo m).toNat : Int), (gs (lo m).toNat).length, 0) := sVarint_gs _ _ (by omega)
  rcases Nat.lt_or_ge k (gs (lo l).toNat).length with hlt | hge
  · have e1 : PK m = (gs (lo l).toNat).take k := by rw [e]; unfold PK; rw [List.take_append_of_le_length (by omega)]
    rw [e1] at s1
    unfold sVarint at s1
    rw [rd_short _ 0 k 0 (by omega) (by simp; omega) hlt] at s1
    simp at s1
  · have e1 : PK m = gs (lo l).toNat ++ ((wd l : Int) :: bytesI (up l)).take (k - (gs (lo l).toNat).length) := by rw [e]; unfold PK; rw [List.take_append, List.take_of_length_le (by omega)]
    cases hd : k - (gs (lo l).toNat).length with
    | zero =>
      rw [hd, List.take_zero] at e1
      have s2 := sVarint_gs (lo l).toNat [] (by omega)
      rw [← e1, s1] at s2
      simp only [Prod.mk.injEq] at s2
      have := congrArg List.length e1
      rw [List.append_nil, PK_length] at this
      omega
    | succ j =>
      rw [hd, List.take_succ_cons] at e1
      obtain ⟨p1, p2, p3⟩ := pk_split hm (by omega) e1
      have p4 := congrArg List.length p3
      have p5 : wd m = wd l := by omega
      rw [bytesI_length, List.length_take, bytesI_length, nb, nb, up_length, up_length, p5, hl] at p4
      rw [PK_length] at hk
      omega

/-- what Pack would write again: no more than a byte's filling was left, that was 0, and no number went round -/
theorem pk_fits {a n : Nat} {y : Int} {r : List Int} (ha : a < 18446744073709551616) (e : PK (nums a y.toNat (allBits r) n) = gs a ++ y :: r) :
    bendV ((allBits r).drop (n * y.toNat)) = 0 ∧ ∀ i, i < n → a + bnum (((allBits r).drop (i * y.toNat)).take y.toNat) < 18446744073709551616 := by
  obtain ⟨m, hm⟩ : ∃ m, nums a y.toNat (allBits r) n = m := ⟨_, rfl⟩
  have hu : U64 m := by rw [← hm]; exact nums_u64 _ _ _ _
  have hlen : m.length = n := by rw [← hm]; exact nums_length _ _ _ _
  rw [hm] at e
  obtain ⟨p1, p2, p3⟩ := pk_split hu ha e
  have hy : y.toNat = wd m := by omega
  have hw := wd_le hu
  constructor
  · have := back_end (up m)
    rw [p3, up_length, hlen, ← hy] at this
    exact this
  · intro i hi
    have hb : bnum (((allBits r).drop (i * y.toNat)).take y.toNat) < 18446744073709551616 := by
      have h1 := bnum_lt (((allBits r).drop (i * y.toNat)).take y.toNat)
      have h2 : 2 ^ (((allBits r).drop (i * y.toNat)).take y.toNat).length ≤ 2 ^ 64 := Nat.pow_le_pow_right (by omega) (by rw [List.length_take]; omega)
      have h3 : (2 : Nat) ^ 64 = 18446744073709551616 := by decide
      omega
    have hx : (((a + bnum (((allBits r).drop (i * y.toNat)).take y.toNat)) % 18446744073709551616 : Nat) : Int) ∈ m := by
      rw [← hm]
      simp only [nums, List.mem_map, List.mem_range]
      exact ⟨i, hi, rfl⟩
    have h1 := lo_le m _ hx
    have h2 := (lohi hu).1
    omega

/-- what unpacking tells -/
def UN (b : List Int) (n : Int) : Int × List Int :=
  if n < 0 ∨ 65536 < n then (1, []) else
  if (rdl b n.toNat).1 ≠ 0 then ((rdl b n.toNat).1, []) else
  if PK (rdl b n.toNat).2 = b then (0, (rdl b n.toNat).2) else (3, [])
theorem UN_u64 (b : List Int) (n : Int) : U64 (UN b n).2 := by
  have h0 : U64 [] := fun x hx => by simp at hx
  unfold UN
  split
  · exact h0
  · split
    · exact h0
    · split
      · exact rdl_u64 _ _
      · exact h0
theorem UN_err (b : List Int) (n : Int) (h : (UN b n).1 ≠ 0) : (UN b n).2 = [] := by
  unfold UN at h ⊢
  split
  · rfl
  · split
    · rfl
    · split
      · rename_i h1 h2 h3; rw [if_neg h1, if_neg h2, if_pos h3] at h; simp at h
      · rfl
theorem UN_ok {b : List Int} {n : Int} (h : (UN b n).1 = 0) : PK (UN b n).2 = b ∧ ((UN b n).2.length : Int) = n ∧ n ≤ 65536 := by
  unfold UN at h ⊢
  split
  · rename_i h1; rw [if_pos h1] at h; simp at h
  · split
    · rename_i h1 h2; rw [if_neg h1, if_pos h2] at h; exact absurd h h2
    · split
      · rename_i h1 h2 h3
        have h4 : rdl b n.toNat = (0, (rdl b n.toNat).2) := by rw [← Decidable.of_not_not h2]
        have := rdl_len h4
        refine ⟨h3, ?_, by omega⟩
        show ((rdl b n.toNat).2.length : Int) = n
        omega
      · rename_i h1 h2 h3; rw [if_neg h1, if_neg h2, if_neg h3] at h; simp at h
/-- THERE AND BACK -/
theorem un_pk {l : List Int} (h : U64 l) (hl : l.length ≤ 65536) : UN (PK l) l.length = (0, l) := by
  have e := pk_read h []
  rw [List.append_nil] at e
  unfold UN
  rw [if_neg (by omega), Int.toNat_natCast, e]
  simp
theorem un_more {l t : List Int} (h : U64 l) (hl : l.length ≤ 65536) (ht : t ≠ []) : UN (PK l ++ t) l.length = (3, []) := by
  unfold UN
  rw [if_neg (by omega), Int.toNat_natCast, pk_read h t]
  simp [ht]
theorem un_cut {l : List Int} {k : Nat} (h : U64 l) (hk : k < (PK l).length) : (UN ((PK l).take k) l.length).1 ≠ 0 := by
  intro h0
  obtain ⟨h1, h2, _⟩ := UN_ok h0
  exact pk_cut h (UN_u64 _ _) (by omega) hk h1

/-! all greater by the same -/
theorem loF_add (by_ : Int) (l : List Int) : ∀ a, loF (a + by_) (l.map fun x => x + by_) = loF a l + by_ := by
  induction l with
  | nil => intro a; rfl
  | cons b t ih =>
    intro a
    have e : loF (a + by_) ((b :: t).map fun x => x + by_) = loF (min (a + by_) (b + by_)) (t.map fun x => x + by_) := rfl
    have e2 : loF a (b :: t) = loF (min a b) t := rfl
    rw [e, e2, ← ih, show min (a + by_) (b + by_) = min a b + by_ by omega]
theorem hiF_add (by_ : Int) (l : List Int) : ∀ a, hiF (a + by_) (l.map fun x => x + by_) = hiF a l + by_ := by
  induction l with
  | nil => intro a; rfl
  | cons b t ih =>
    intro a
    have e : hiF (a + by_) ((b :: t).map fun x => x + by_) = hiF (max (a + by_) (b + by_)) (t.map fun x => x + by_) := rfl
    have e2 : hiF a (b :: t) = hiF (max a b) t := rfl
    rw [e, e2, ← ih, show max (a + by_) (b + by_) = max a b + by_ by omega]
theorem ups_add (by_ a : Int) (w : Nat) (t : List Int) : ups (a + by_) w (t.map fun x => x + by_) = ups a w t := by
  simp only [ups, List.flatMap_map]
  congr 1
  funext x
  rw [show x + by_ - (a + by_) = x - a by omega]
theorem pk_add {l : List Int} (hne : l ≠ []) (by_ : Int) : PK (l.map fun x => x + by_) = gs (lo l + by_).toNat ++ ((wd l : Int) :: bytesI (up l)) := by
  have h1 : lo (l.map fun x => x + by_) = lo l + by_ := by
    cases l with
    | nil => exact absurd rfl hne
    | cons a t => exact loF_add by_ t a
  have h2 : hi (l.map fun x => x + by_) = hi l + by_ := by
    cases l with
    | nil => exact absurd rfl hne
    | cons a t => exact hiF_add by_ t a
  have h3 : wd (l.map fun x => x + by_) = wd l := by unfold wd; rw [h1, h2, show hi l + by_ - (lo l + by_) = hi l - lo l by omega]
  unfold PK up
  rw [h3, h1, ups_add]

/-! one number again and again -/
theorem loF_rep (v : Int) (n : Nat) : loF v (List.replicate n v) = v := by
  rcases loF_mem (List.replicate n v) v with h | h
  · exact h
  · exact (List.eq_of_mem_replicate h)
theorem hiF_rep (v : Int) (n : Nat) : hiF v (List.replicate n v) = v := by
  rcases hiF_mem (List.replicate n v) v with h | h
  · exact h
  · exact (List.eq_of_mem_replicate h)
theorem pk_rep (v : Int) (n : Nat) : PK (List.replicate (n + 1) v) = gs v.toNat ++ [0] := by
  have h1 : lo (List.replicate (n + 1) v) = v := loF_rep v n
  have h2 : hi (List.replicate (n + 1) v) = v := hiF_rep v n
  have h3 : wd (List.replicate (n + 1) v) = 0 := by unfold wd; rw [h1, h2, Int.sub_self]; rfl
  have h4 : up (List.replicate (n + 1) v) = [] := by
    apply List.eq_nil_of_length_eq_zero
    rw [up_length, h3, Nat.mul_zero]
  unfold PK
  rw [h1, h3, h4]; rfl

theorem pk_ex : PK [7, 9, 8] = [7, 2, 36] := by
  have h : gs (lo [7, 9, 8]).toNat = [7] := by rw [show (lo [7, 9, 8]).toNat = 7 by decide, gs_small (by omega)]; rfl
  unfold PK
  rw [h]
  decide
theorem un_ex : UN [7, 2, 36] 3 = (0, [7, 9, 8]) := by
  have h := un_pk (l := [7, 9, 8]) (by intro x hx; simp at hx; omega) (by decide)
  rw [pk_ex] at h
  exact h
end Go.Proofs.YthapipgaohlgdabGreatDoor

/- The two kinds of numbers' zeros and sizes. -/
namespace Go.Proofs.YthapipgaohlgdabGreatDoor
open Go.RowKit
theorem Tryz.infoI64 : (Tryz.prog.info? 3).map (fun i => (i.zero, i.size, i.bytes)) = some (some (.int .i64 0), 1, 8) := by kernel_rfl
theorem Tryz.infoU64 : (Tryz.prog.info? 26).map (fun i => (i.zero, i.size, i.bytes)) = some (some (.int .u64 0), 1, 8) := by kernel_rfl
end Go.Proofs.YthapipgaohlgdabGreatDoor
