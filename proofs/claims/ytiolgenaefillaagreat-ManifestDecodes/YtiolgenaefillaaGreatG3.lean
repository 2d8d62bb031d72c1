/- Several texts in one: Cu3, Sb0, Km, Sbc, Ar0, Apb, Ap0, Ki18, Rt, Ar, Bo. -/
import Derived.Test.YtiolgenaefillaaGreatG2
import Derived.Test.YtiolgenaefillaaGreatG1
import Derived.Laws.IdiomStrings
import Derived.Laws.BytesArg
import Derived.Test.YtiolgenaefillaaGreatProg
import Derived.OpenShut
import Derived.Deep.WholeRow
import Derived.Deep.MidRow
import Derived.Great.BuildSlice
import Derived.Deep.RegionHeld3
import Derived.Deep.RegionLaw

/- Contracts of package cursor: Fix, and Block of bytes. -/
namespace Go.Proofs.YtiolgenaefillaaGreat
open Go.RowKit

/-- byte i of a number, the lowest one being 0 -/
def fixB (v : Int) (i : Nat) : Int := v / 2 ^ (8 * i) % 256
/-- n bytes, of which the k last are written -/
def fixAt (v : Int) (n k : Nat) : List Int := (List.range n).map fun j => if n ≤ j + k then fixB v (n - 1 - j) else 0
def fixL (v : Int) (n : Nat) : List Int := (List.range n).map fun j => fixB v (n - 1 - j)
theorem fixAt_len (v : Int) (n k : Nat) : (fixAt v n k).length = n := by simp [fixAt]
theorem fixL_len (v : Int) (n : Nat) : (fixL v n).length = n := by simp [fixL]
theorem fixAt_zero (v : Int) (n : Nat) : (fixAt v n 0).map (Value.int .u8) = (madeCells #[Value.int .u8 0] (n * 1)).toList := by
  apply List.ext_getElem?
  intro i
  by_cases h : i < n
  · simp [fixAt, madeCells, h, Nat.mod_one]
    omega
  · simp [fixAt, madeCells, h]
theorem fixAt_all (v : Int) (n : Nat) : fixAt v n n = fixL v n := by
  unfold fixAt fixL
  apply List.map_congr_left
  intro j _
  rw [if_pos (by omega)]
theorem fixAt_step (v : Int) (n k : Nat) (h : k < n) : (fixAt v n k).set (n - 1 - k) (fixB v k) = fixAt v n (k + 1) := by
  apply List.ext_getElem?
  intro i
  rw [List.getElem?_set, fixAt_len]
  by_cases hi : i < n
  · by_cases he : n - 1 - k = i
    · subst he
      rw [if_pos rfl, if_pos hi]
      simp only [fixAt, List.getElem?_map, List.getElem?_range hi, Option.map_some]
      rw [if_pos (by omega), show n - 1 - (n - 1 - k) = k by omega]
    · rw [if_neg he]
      simp only [fixAt, List.getElem?_map, List.getElem?_range hi, Option.map_some]
      by_cases h1 : n ≤ i + k
      · rw [if_pos h1, if_pos (by omega)]
      · rw [if_neg h1, if_neg (by omega)]
  · rw [if_neg (by omega), List.getElem?_eq_none (by rw [fixAt_len]; omega), List.getElem?_eq_none (by rw [fixAt_len]; omega)]
theorem fixB_range (v : Int) (i : Nat) : 0 ≤ fixB v i ∧ fixB v i ≤ 255 := by unfold fixB; omega
theorem fixL_range (v : Int) (n : Nat) : ∀ y ∈ fixL v n, 0 ≤ y ∧ y ≤ 255 := by
  intro y hy
  simp only [fixL, List.mem_map] at hy
  obtain ⟨j, _, rfl⟩ := hy
  exact fixB_range _ _

set_option maxHeartbeats 400000 in
set_option maxRecDepth 100000 in
theorem fix_none (v n : Int) (w : World) (h : n < 0 ∨ 8 < n) : Calls Tryz.prog 23 #[.int .u64 v, .int .i64 n] w fun e w' => e = .returned (.slice none 0 0) ∧ w = w' := by
  by_cases h0 : n < 0
  · clear h
    go_enter Tryz.func23, Tryz.ntmps23
    go_wp2
    go_ret
    exact ⟨rfl, rfl⟩
  · have h8 : 8 < n := by omega
    have d0 : decide (n < 0) = false := decide_eq_false h0
    clear h
    go_enter Tryz.func23, Tryz.ntmps23
    go_wp2
    go_ret
    exact ⟨rfl, rfl⟩

set_option maxHeartbeats 400000 in
set_option maxRecDepth 100000 in
/-- A NUMBER in so many bytes: new memory. -/
theorem fix_any (v : Int) (n : Nat) (w : World) (h : n ≤ 8) :
    Calls Tryz.prog 23 #[.int .u64 v, .int .i64 n] w fun e w' => ∃ u, e = .returned u ∧ w'.ownsRow w.heap.size 5 1 u (fixL v n).length ((fixL v n).map (Value.int .u8)) ∧ Only (fun _ => False) w w' := by
  obtain ⟨i0, hi, hz0, hz1, hz2⟩ := info_parts Tryz.infoU8
  obtain ⟨wm, hmk, hown0, hgr⟩ := run_make_full (P := Tryz.prog) w w.heap.size 23 5 i0 (.int .u8 0) 1 Tryz.underlying23 hi hz0 hz1 .i64 .i64 n (by rw [hz2]; omega) (by unfold maxLen; omega) (Nat.le_refl _)
  have START : Hid (wm.ownsRow w.heap.size 5 1 (.slice (some ⟨w.heap.size, 0, none⟩) n n) n ((fixAt v n 0).map (Value.int .u8)) ∧ Only (fun _ => False) w wm) := by
    rw [show (Value.int .u8 0).cells = #[Value.int .u8 0] from rfl] at hown0
    rw [fixAt_zero]
    exact ⟨hown0, (Only.refl _ _).grown hgr (fun _ _ e => by cases e)⟩
  clear hown0 hgr
  have d0 : decide ((n : Int) < 0) = false := by simp
  have d8 : decide (8 < (n : Int)) = false := decide_eq_false (by omega)
  obtain ⟨N, hN⟩ : ∃ N, N = w.heap.size := ⟨_, rfl⟩
  rw [← hN] at hmk START
  rw [← hN]
  have HN := hideIt hN
  clear hN
  go_enter Tryz.func23, Tryz.ntmps23
  go_wp2
  go_loopw [17] (fun i wr => ∃ k : Nat, k ≤ n ∧ i = .int .i64 k ∧ wr.ownsRow N 5 1 (.slice (some ⟨N, 0, none⟩) n n) n ((fixAt v n k).map (Value.int .u8)) ∧ Only (fun _ => False) w wr) (fun i _ => n - (intOf i).toNat)
  case atStart => exact ⟨0, Nat.zero_le _, rfl, START.out.1, START.out.2⟩
  case round =>
    obtain ⟨k, hk, rfl, hown, hon⟩ := hrel
    clear START hmk
    by_cases hlt : k < n
    · have hcell : ∃ y, wr.cell? ⟨N, n - 1 - k, none⟩ = some (.int .u8 y) := by
        refine ⟨(fixAt v n k).getD (n - 1 - k) 0, ?_⟩
        rw [hown.cellAt (n - 1 - k) (by omega), List.getElem?_map, List.getElem?_eq_getElem (by rw [fixAt_len]; omega), List.getD_eq_getElem?_getD, List.getElem?_eq_getElem (by rw [fixAt_len]; omega)]
        rfl
      obtain ⟨y, hy⟩ := hcell
      have hfr : wr.frozen? ⟨N, n - 1 - k, none⟩ = false := hown.frozenAt _
      have i0 : (0 : Int) ≤ (n : Int) - 1 - k := by omega
      have i1 : (n : Int) - 1 - k < (n : Int) := by omega
      have it : ((n : Int) - 1 - k).toNat = n - 1 - k := by omega
      have H := hideIt (And.intro hown hon)
      clear hown hon
      go_wp2
      go_roundw
      case rel =>
        refine ⟨k + 1, by omega, by go_num, ?_, ?_⟩
        · have h1 := (H.out.1.stored (n - 1 - k) (.int .u8 (fixB v k))).1
          rw [← List.map_set, fixAt_step v n k hlt] at h1
          exact h1
        · refine H.out.2.setCell (fun hb => ?_) _
          have := HN.out
          simp only at hb
          omega
      case measure => simp [intOf]; omega
    · have hkn : k = n := by omega
      subst hkn
      have H := hideIt (And.intro hown hon)
      clear hown hon
      go_wp2
      go_ret
      rw [fixL_len, ← fixAt_all]
      exact ⟨_, rfl, H.out⟩

/-- bytes behind their number -/
def blk (b : List Int) : List Int := gs b.length ++ b
theorem blk_len (b : List Int) (h : b.length ≤ 1000000) : (blk b).length ≤ b.length + 10 := by
  have := gs_le10 (v := b.length) (by omega)
  simp only [blk, List.length_append]
  omega
theorem blk_range (b : List Int) (hr : ∀ y ∈ b, 0 ≤ y ∧ y ≤ 255) : ∀ y ∈ blk b, 0 ≤ y ∧ y ≤ 255 := by
  intro y hy
  simp only [blk, List.mem_append] at hy
  rcases hy with hy | hy
  · exact gs_range _ y hy
  · exact hr y hy

set_option maxHeartbeats 400000 in
set_option maxRecDepth 100000 in
/-- BYTES BEHIND THEIR NUMBER: new memory. -/
theorem blk_any (vb : Value) (ys : List Int) (w : World) (hb : Bs .u8 w vb ys) (nb : NoCap vb) (hl : ys.length ≤ 1000000) :
    Calls Tryz.prog 54 #[vb] w fun e w' => ∃ v', e = .returned v' ∧ w'.ownsRow w.heap.size 5 1 v' (blk ys).length ((blk ys).map (Value.int .u8)) ∧ Only (fun _ => False) w w' := by
  have HB := hideIt hb
  have NB := hideIt nb
  have A := hideIt (append_any (.slice none 0 0) [] ys.length w (Bs.nil _ _) NoCap.nil (by simp) (by omega) (by omega))
  rw [List.nil_append, Int.toNat_natCast] at A
  have H10 := hideIt (gs_le10 (v := ys.length) (by omega))
  have HP := hideIt (gs_pos ys.length)
  obtain ⟨ab, cb, rfl⟩ := hb.len
  clear hb nb
  go_enter Tryz.func54, Tryz.ntmps54
  go_wp2_with fail
  refine A.out.mono ?_
  rintro e w1 ⟨v1, rfl, hown1, hon1⟩
  have hbl : Below w1.heap.size w1 (w1.alloc (.cells #[v1, .slice ab ys.length cb] 23)) := (Below.refl _ _).alloc (Nat.le_refl _) _
  have CC := hideIt (concat_two w1.heap.size v1 (.slice ab ys.length cb) (gs ys.length) ys (w1.alloc (.cells #[v1, .slice ab ys.length cb] 23)) (by go_cell) (by go_cell) ((Bs.of_own hown1).later hbl) ((HB.out.later (hon1.low (Nat.le_refl _))).later hbl) (NoCap.of_own hown1) NB.out (by have := HP.out; omega) (by have := H10.out; omega))
  have O1 := hideIt hon1
  have F1 : Hid (∃ ao c, v1 = .slice ao (gs ys.length).length c) := (Bs.of_own hown1).len
  clear hown1 hon1 hbl A
  obtain ⟨ao1, c1, hv1⟩ := F1.out
  subst hv1
  go_wp2_with fail
  refine CC.out.mono ?_
  rintro e w2 ⟨v', rfl, hown, hon⟩
  have F : Hid (w2.ownsRow w.heap.size 5 1 v' (blk ys).length ((blk ys).map (Value.int .u8)) ∧ Only (fun _ => False) w w2) :=
    ⟨own_low hown (by have := O1.out.size; simp; omega), (O1.out.alloc _).trans hon (fun _ _ f => f)⟩
  clear hown hon CC O1
  go_wp2
  go_ret
  exact ⟨_, rfl, F.out⟩
theorem blk_small {b : List Int} (h : b.length ≤ 127) : blk b = (b.length : Int) :: b := by
  unfold blk
  rw [gs_small (by omega)]
  rfl

/-! strings -/
end Go.Proofs.YtiolgenaefillaaGreat

/- Strings and lists of bytes: plain facts. -/
namespace Go.Proofs.YtiolgenaefillaaGreat
open Go.RowKit

def sb (s : ByteArray) : List Int := s.data.toList.map fun c => (c.toNat : Int)
theorem sb_len (s : ByteArray) : (sb s).length = s.size := by simp [sb]
theorem sb_range (s : ByteArray) : ∀ y ∈ sb s, 0 ≤ y ∧ y ≤ 255 := by
  intro y hy
  simp only [sb, List.mem_map] at hy
  obtain ⟨c, _, rfl⟩ := hy
  have := c.toNat_lt
  omega
theorem of_sb (s : ByteArray) : strOfNums (sb s) = s := by
  unfold strOfNums sb
  rw [List.map_map]
  have : s.data.toList.map ((fun n : Int => UInt8.ofNat n.toNat) ∘ fun c : UInt8 => (c.toNat : Int)) = s.data.toList := by
    refine (List.map_congr_left (g := id) (fun x _ => ?_)).trans (List.map_id _)
    simp
  rw [this]
theorem sb_of {l : List Int} (h : ∀ y ∈ l, 0 ≤ y ∧ y ≤ 255) : sb (strOfNums l) = l := by
  unfold strOfNums sb
  rw [List.map_map]
  refine (List.map_congr_left (g := id) (fun x hx => ?_)).trans (List.map_id _)
  have := h x hx
  simp only [Function.comp, id]
  rw [UInt8.toNat_ofNat']
  omega
theorem sb_inj {s t : ByteArray} (h : sb s = sb t) : s = t := by rw [← of_sb s, ← of_sb t, h]
end Go.Proofs.YtiolgenaefillaaGreat

/- Keys made of a key, and nonces: plain facts, ahead of package keys. -/
namespace Go.Proofs.YtiolgenaefillaaGreat

/-- the text that goes into a key -/
def KTX (p : Int) (nm : List Int) : List Int := p :: blk nm
/-- the key of a key, a purpose and a name -/
def KDV (key : List Int) (p : Int) (nm : List Int) : List Int := EXPL key (KTX p nm) 32
/-- version and index, the highest byte first -/
def NTX (v i : Int) : List Int := fixL v 8 ++ fixL i 4
def KNC (key : List Int) (v i : Int) : List Int := (MACL (KDV key 3 []) (NTX v i)).take 12
/-- the answers: bytes and what went wrong -/
def KDt (key : List Int) (p : Int) (nm : List Int) : List Int := if key.length = 32 then (if nm.length ≤ 64 then KDV key p nm else []) else []
def KDe (key nm : List Int) : Int := if key.length = 32 then (if nm.length ≤ 64 then 0 else 4) else 1
abbrev KIX (i : Int) : Prop := 0 ≤ i ∧ i < 1048576
def KNt (key : List Int) (v i : Int) : List Int := if key.length = 32 then (if KIX i then KNC key v i else []) else []
def KNe (key : List Int) (i : Int) : Int := if key.length = 32 then (if KIX i then 0 else 1) else 1
theorem KTX_small (p : Int) (nm : List Int) (h : nm.length ≤ 127) : KTX p nm = p :: (nm.length : Int) :: nm := by rw [KTX, blk_small h]
theorem KTX_len (p : Int) (nm : List Int) (h : nm.length ≤ 127) : (KTX p nm).length = nm.length + 2 := by rw [KTX_small p nm h]; simp
theorem KTX_u8 {p : Int} {nm : List Int} (hp : 0 ≤ p ∧ p ≤ 255) (h : U8 nm) : U8 (KTX p nm) := fun y hy => by
  rcases List.mem_cons.1 hy with rfl | hy
  · exact hp
  · exact blk_range nm h y hy
/-- no two have the same text -/
theorem KTX_inj {p q : Int} {a b : List Int} (ha : a.length ≤ 127) (hb : b.length ≤ 127) : KTX p a = KTX q b ↔ p = q ∧ a = b := by
  rw [KTX_small p a ha, KTX_small q b hb]
  constructor
  · intro h
    simp only [List.cons.injEq] at h
    exact ⟨h.1, h.2.2⟩
  · rintro ⟨rfl, rfl⟩; rfl
theorem KTX_one_inj {p q : Int} {a b : List Int} (ha : a.length ≤ 127) (hb : b.length ≤ 127) : KTX p a ++ [1] = KTX q b ++ [1] ↔ p = q ∧ a = b := by
  rw [← KTX_inj ha hb]
  constructor
  · exact List.append_cancel_right
  · intro h; rw [h]
theorem KDV_one (key : List Int) (p : Int) (nm : List Int) : KDV key p nm = MACL key (KTX p nm ++ [1]) := EXPL_one _ _
theorem KDV_len (key : List Int) (p : Int) (nm : List Int) : (KDV key p nm).length = 32 := EXPL_len _ _ _
theorem KDV_u8 (key : List Int) (p : Int) (nm : List Int) : U8 (KDV key p nm) := EXPL_u8 _ _ _
theorem NTX_len (v i : Int) : (NTX v i).length = 12 := by simp [NTX, fixL_len]
theorem NTX_u8 (v i : Int) : U8 (NTX v i) := by
  intro y hy
  rcases List.mem_append.1 hy with h | h
  · exact fixL_range _ _ y h
  · exact fixL_range _ _ y h
theorem KNC_len (key : List Int) (v i : Int) : (KNC key v i).length = 12 := by rw [KNC, List.length_take, MACL_len]; rfl
theorem KNC_u8 (key : List Int) (v i : Int) : U8 (KNC key v i) := (MACL_u8 _ _).take _
theorem KDt_len (key : List Int) (p : Int) (nm : List Int) : (KDt key p nm).length ≤ 32 := by
  unfold KDt
  split
  · split
    · rw [KDV_len]; exact Nat.le_refl _
    · exact Nat.zero_le _
  · exact Nat.zero_le _
theorem KNt_len (key : List Int) (v i : Int) : (KNt key v i).length ≤ 12 := by
  unfold KNt
  split
  · split
    · rw [KNC_len]; exact Nat.le_refl _
    · exact Nat.zero_le _
  · exact Nat.zero_le _
/-- four bytes of an index below 2^20, one by one -/
theorem fix4_index (i : Int) (h : KIX i) : fixL i 4 = [0, i / 65536 % 256, i / 256 % 256, i % 256] := by
  have e0 : i / 16777216 % 256 = 0 := by omega
  simp [fixL, fixB, List.range_succ, e0]
theorem fixL_push (v : Int) (n : Nat) : fixL v (n + 1) = fixB v n :: fixL v n := by
  unfold fixL
  rw [List.range_succ_eq_map, List.map_cons, List.map_map]
  simp only [Nat.add_sub_cancel, Nat.sub_zero, List.cons.injEq, true_and]
  refine List.map_congr_left (fun j hj => ?_)
  simp only [Function.comp]
  rw [show n - (j + 1) = n - 1 - j by omega]
/-- bytes of a number, the highest first: the first k of them -/
theorem fixL_first (v : Int) (n k : Nat) (h : k < n) : (fixL v n).take (k + 1) = (fixL v n).take k ++ [fixB v (n - 1 - k)] := by
  have hl := fixL_len v n
  rw [List.take_add_one, List.getElem?_eq_getElem (by omega)]
  simp [fixL]
end Go.Proofs.YtiolgenaefillaaGreat

/- Conversions: '[]byte(s)' and 'string(b)'. -/
namespace Go.Proofs.YtiolgenaefillaaGreat
open Go.RowKit

set_option maxRecDepth 100000 in
theorem bytes_of (w : World) (s : ByteArray) : ∃ c w', (convert 9 23 (.string s)).run Tryz.prog w = .ok (.slice (some ⟨w.heap.size, 0, none⟩) s.size c) w' ∧ Bs .u8 w' (.slice (some ⟨w.heap.size, 0, none⟩) s.size c) (sb s) ∧ Only (fun _ => False) w w' ∧ w'.heap.size = w.heap.size + 1 := by
  refine ⟨_, _, run_bytes_of_string (P := Tryz.prog) w 9 23 5 s Tryz.underlying9 Tryz.underlying23 Tryz.underlying5, ?_, ?_, ?_⟩
  · have hg := grownCap_ge w s.size 0 5
    refine ⟨some _, _, by rw [sb_len], by rw [sb_len]; omega, fun _ => ⟨w.heap.size, 0, rfl, fun j hj => ?_⟩⟩
    rw [sb_len] at hj
    rw [show w.heap.size = w.drew.heap.size from rfl, World.cell?_alloc_mark]
    simp [bytesRow, Array.getElem?_append, hj, sb, List.getD_eq_getElem?_getD]
  · exact ((Only.refl _ w).drew).alloc _
  · simp
set_option maxRecDepth 100000 in
theorem string_of (w : World) (v : Value) (xs : List Int) (h : Bs .u8 w v xs) : (convert 23 9 v).run Tryz.prog w = .ok (.string (strOfNums xs)) w := by
  obtain ⟨ao, cap, rfl, hl, hc⟩ := h
  cases ao with
  | none =>
    have hx : xs = [] := by
      by_cases hx : xs = []
      · exact hx
      · obtain ⟨b, off, e, _⟩ := hc hx; cases e
    subst hx
    rw [run_convert_bytes_nil w 23 5 Tryz.underlying23 Tryz.underlying5 _ _ _ Tryz.underlying9]
    rfl
  | some a =>
    by_cases hx : xs = []
    · subst hx
      obtain ⟨b, off, spot⟩ := a
      rw [run_convert_bytes_string w 23 9 5 _ _ _ Tryz.underlying23 Tryz.underlying5 Tryz.underlying9]
      have hl0 := run_loadCells_list (P := Tryz.prog) w ⟨b, off, spot⟩ [] (fun j u hj => by simp at hj)
      rw [List.length_nil] at *
      rw [run_bytesToString w _ 0 cap [] (by simpa using hl0)]
      rfl
    · obtain ⟨b, off, e, hcell⟩ := hc hx
      cases e
      exact run_convert_bytes_arg w 23 5 Tryz.underlying23 Tryz.underlying5 b off xs.length cap xs rfl hcell _ Tryz.underlying9
def bytesObj (t : ByteArray) (c : Nat) : Obj := .cells (bytesRow t c) 5 ((bytesRow t c).size, (bytesRow t c).size + 1)
theorem conv_bytes (t : ByteArray) (W : World) : (convert 9 23 (.string t)).run Tryz.prog W = .ok (.slice (some ⟨W.heap.size, 0, none⟩) t.size (grownCap W t.size 0 5)) (W.drew.alloc (bytesObj t (grownCap W t.size 0 5))) :=
  run_bytes_of_string (P := Tryz.prog) W 9 23 5 t Tryz.underlying9 Tryz.underlying23 Tryz.underlying5
theorem bytesObj_bs {W : World} {t : ByteArray} {b c : Nat} (h : W.heap[b]? = some (bytesObj t c)) (hc : t.size ≤ c) : Bs .u8 W (.slice (some ⟨b, 0, none⟩) t.size c) (sb t) := by
  refine ⟨some _, _, by rw [sb_len], by rw [sb_len]; omega, fun _ => ⟨b, 0, rfl, fun j hj => ?_⟩⟩
  rw [sb_len] at hj
  have e : W.cell? ⟨b, 0 + j, none⟩ = (bytesRow t c)[j]? := by rw [Nat.zero_add]; unfold World.cell?; simp only; rw [h]; rfl
  rw [e]
  simp [bytesRow, Array.getElem?_append, hj, sb, List.getD_eq_getElem?_getD]
theorem heap_alloc_old {W : World} {k : Nat} {x o : Obj} (h : W.heap[k]? = some x) : (W.alloc o).heap[k]? = some x := by
  have hk : k < W.heap.size := by
    rcases Nat.lt_or_ge k W.heap.size with h' | h'
    · exact h'
    · rw [Array.getElem?_eq_none h'] at h; cases h
  show (W.heap.push o)[k]? = _
  rw [Array.getElem?_push, if_neg (by omega)]; exact h
theorem heap_at_new {W : World} {k : Nat} {o : Obj} (h : W.heap.size = k) : (W.alloc o).heap[k]? = some o := by subst h; exact heap_alloc_new W o
theorem heap_drew_at {W : World} {k : Nat} {x : Obj} (h : W.heap[k]? = some x) : W.drew.heap[k]? = some x := h
end Go.Proofs.YtiolgenaefillaaGreat

/- Arrays of words and of bytes as values and in memory: what holds in every seat. -/
namespace Go.Proofs.YtiolgenaefillaaGreat
open Go.RowKit

/-- words as cells -/
def wl (s : List Nat) : List Value := s.map fun x => Value.int .u32 ((x : Nat) : Int)
/-- bytes as cells -/
def bl (p : List Int) : List Value := p.map (Value.int .u8)
theorem wl_len (s : List Nat) : (wl s).length = s.length := List.length_map ..
theorem bl_len (s : List Int) : (bl s).length = s.length := List.length_map ..
theorem wl_at (s : List Nat) (j : Nat) (h : j < s.length) : (wl s)[j]? = some (.int .u32 ((s.getD j 0 : Nat) : Int)) := by
  simp [wl, List.getD_eq_getElem?_getD, List.getElem?_eq_getElem h]
theorem bl_at (s : List Int) (j : Nat) (h : j < s.length) : (bl s)[j]? = some (.int .u8 (s.getD j 0)) := by
  simp [bl, List.getD_eq_getElem?_getD, List.getElem?_eq_getElem h]
theorem wl_one (s : List Nat) : ∀ v ∈ wl s, v.oneCell' = true := by
  intro u hu; simp [wl] at hu; obtain ⟨x, _, rfl⟩ := hu; rfl
theorem bl_one (s : List Int) : ∀ v ∈ bl s, v.oneCell' = true := oneCell_ints _ _
theorem wl_all (s : List Nat) : (wl s).toArray.all (·.oneCell') = true := all_oneCell_toArray (wl_one s)
theorem wl_app (s t : List Nat) : wl (s ++ t) = wl s ++ wl t := List.map_append ..
theorem wl_set (s : List Nat) (i x : Nat) : (wl s).set i (.int .u32 ((x : Nat) : Int)) = wl (s.set i x) := by
  simp [wl, List.map_set]
/-- a block that holds these cells -/
def Blk (w : World) (g : Nat) (t : TypeId) (cs : List Value) : Prop := w.heap[g]? = some (.cells cs.toArray t (0, 0))
theorem Blk.keep {w w' : World} {g : Nat} {t : TypeId} {cs : List Value} (h : Blk w g t cs) {S : Nat → Prop} (o : Only S w w') (hs : ¬ S g) : Blk w' g t cs := Only.heap o h hs
theorem Blk.past {w w' : World} {g : Nat} {t : TypeId} {cs : List Value} (h : Blk w g t cs) (o : Only (fun _ => False) w w') : Blk w' g t cs := h.keep o (fun f => f)
theorem Blk.lt {w : World} {g : Nat} {t : TypeId} {cs : List Value} (h : Blk w g t cs) : g < w.heap.size := (Array.getElem?_eq_some_iff.1 h).1
theorem Blk.cell {w : World} {g : Nat} {t : TypeId} {cs : List Value} (h : Blk w g t cs) (j : Nat) : w.cell? ⟨g, j, none⟩ = cs[j]? := by
  rw [cell_of_row w g j _ t _ h]; simp
theorem Blk.froz {w : World} {g : Nat} {t : TypeId} {cs : List Value} (h : Blk w g t cs) (j : Nat) : w.frozen? ⟨g, j, none⟩ = false := frozen_of_row w g j _ t h
theorem Blk.set {w : World} {g : Nat} {t : TypeId} {cs : List Value} (h : Blk w g t cs) (j : Nat) (v : Value) : Blk (w.setCell ⟨g, j, none⟩ v) g t (cs.set j v) := by
  have := heap_setCell_same w g j _ t v h
  simpa [Blk] using this
theorem Blk.drew {w : World} {g : Nat} {t : TypeId} {cs : List Value} (h : Blk w g t cs) : Blk w.drew g t cs := h
theorem Blk.alloc {w : World} {g : Nat} {t : TypeId} {cs : List Value} (h : Blk w g t cs) (o : Obj) : Blk (w.alloc o) g t cs := h.past ((Only.refl _ _).alloc o)
theorem Blk.new (w : World) (t : TypeId) (cs : List Value) : Blk (w.alloc (.cells cs.toArray t)) w.heap.size t cs := heap_alloc_last w _
theorem Blk.row {w : World} {g : Nat} {t : TypeId} {cs : List Value} (h : Blk w g t cs) (vs : List Value) : Blk (w.setRow g vs.toArray) g t vs := setRow_heap w g _ _ t _ h
theorem Only.setRow {S : Nat → Prop} {a b : World} (h : Only S a b) {g : Nat} (hp : g < a.heap.size → S g) (cs : Array Value) : Only S a (b.setRow g cs) :=
  h.trans (T := fun k => k = g) ⟨rfl, rfl, rfl, by simp, fun k _ hk => setRow_other b g k cs hk⟩ (fun _ hi e => by subst e; exact hp hi)
theorem Blk.there {w : World} {g : Nat} {t : TypeId} {cs : List Value} (h : Blk w g t cs) (o n : Nat) (hn : o + n ≤ cs.length) : w.there g o n := fun j hj => by
  rw [h.cell, h.froz, List.getElem?_eq_getElem (by omega)]
  exact ⟨rfl, rfl⟩
theorem Blk.range {w : World} {g : Nat} {t : TypeId} {a b c : List Value} (h : Blk w g t (a ++ b ++ c)) : w.rangeAt g a.length b := fun j v hv => by
  have hj := (List.getElem?_eq_some_iff.1 hv).1
  rw [h.cell, List.getElem?_append_left (by simp; omega), List.getElem?_append_right (by omega), Nat.add_sub_cancel_left]
  exact hv
theorem Blk.rangeN {w : World} {g : Nat} {t : TypeId} {a b c : List Value} (h : Blk w g t (a ++ b ++ c)) {n : Nat} (hn : a.length = n) : w.rangeAt g n b := by
  subst hn; exact h.range
theorem set_mid (a b c vs : List Value) (hv : vs.length = b.length) : ∀ (w : World) (g : Nat) (t : TypeId), Blk w g t (a ++ b ++ c) → Blk (w.setCells g a.length vs) g t (a ++ vs ++ c) := by
  induction vs generalizing a b with
  | nil =>
    intro w g t h
    cases b with
    | nil => exact h
    | cons y b => simp at hv
  | cons v vs ih =>
    intro w g t h
    cases b with
    | nil => simp at hv
    | cons y b =>
      have h2 : Blk (w.setCell ⟨g, a.length, none⟩ v) g t ((a ++ [v]) ++ b ++ c) := by
        have := h.set a.length v
        simpa [List.set_append] using this
      have := ih (a ++ [v]) b (by simpa using hv) _ g t h2
      simpa [World.setCells] using this
theorem Only.setCells {S : Nat → Prop} {a : World} {g : Nat} (hp : g < a.heap.size → S g) (vs : List Value) : ∀ (o : Nat) (b : World), Only S a b → Only S a (b.setCells g o vs) := by
  induction vs with
  | nil => intro o b h; exact h
  | cons v vs ih =>
    intro o b h
    exact ih (o + 1) _ (h.setCell (p := ⟨g, o, none⟩) hp v)

theorem wpList_build_as {P : Program} {ops : Array Oper} {rest : List Oper} {o : Oper} {a : Act} {w : World} {Q : Exit → Act → World → Prop} (hg : o.guard = none) (t : TypeId) (parts : Array (Nat × Operand)) (ho : o.op = .build t parts)
    (cells : Array Value) (hc : P.built t (parts.map fun (i, x) => (i, a.eval x)).toList = some cells) (h : wpList P ops Q rest (a.put o.dst (.agg cells)) w) : wpList P ops Q (o :: rest) a w :=
  wpList_build hg t parts ho (by rw [hc]; rfl) (by rw [hc]; exact h)

/-- one cell of an array value -/
theorem run_index_cell (t e : TypeId) (n : Nat) (cs : List Value) (j : Nat) (u : Value) (h : Tryz.prog.underlying t = some (.array n e)) (ha : (∀ w, (isAgg e).run Tryz.prog w = .ok false w)) (hs : (Tryz.prog.info? e).map (·.size) = some 1) (hj : j < n) (hu : cs[j]? = some u) (w : World) :
    (Instr.index t (.agg cs.toArray) (.int .i64 j)).run Tryz.prog w = .ok u w := by
  have h1 : (0 : Int) ≤ (j : Int) ∧ (j : Int) < (n : Int) := by omega
  cases hq : Tryz.prog.info? e with
  | none => simp [hq] at hs
  | some i =>
    have hi : i.size = 1 := by simpa [hq] using hs
    simp [Instr.index, run_underlying h, asIntOf, h1, sizeOf, typeInfo, hq, hi, ha, hu, go_sem]
    omega
theorem size_alloc (w : World) (o : Obj) : (w.alloc o).heap.size = w.heap.size + 1 := Array.size_push ..
theorem take_nextN (s : List Nat) (j : Nat) (h : j < s.length) : s.take (j + 1) = s.take j ++ [s.getD j 0] := by
  rw [List.take_add_one, List.getElem?_eq_getElem h, List.getD_eq_getElem?_getD, List.getElem?_eq_getElem h]; rfl
theorem Tryz.agg29 (w : World) : (isAgg 124).run Tryz.prog w = .ok false w := by kernel_rfl
theorem Tryz.agg5 (w : World) : (isAgg 5).run Tryz.prog w = .ok false w := by kernel_rfl
theorem Tryz.one29 : (Tryz.prog.info? 124).map (·.size) = some 1 := by kernel_rfl
theorem Tryz.one5 : (Tryz.prog.info? 5).map (·.size) = some 1 := by kernel_rfl
theorem Tryz.infoU32 : (Tryz.prog.info? 124).map (fun i => (i.zero, i.size, i.bytes)) = some (some (.int .u32 0), 1, 4) := by kernel_rfl
/-- words as numbers -/
def wi (s : List Nat) : List Int := s.map fun x => ((x : Nat) : Int)
theorem wi_len (s : List Nat) : (wi s).length = s.length := List.length_map ..
theorem wi_at (s : List Nat) (j : Nat) : (wi s).getD j 0 = ((s.getD j 0 : Nat) : Int) := by
  simp only [wi, List.getD_eq_getElem?_getD, List.getElem?_map]
  cases s[j]? <;> rfl
theorem wi_map (s : List Nat) : (wi s).map (Value.int .u32) = wl s := by simp [wi, wl]
theorem Bs.of_wl {w : World} {g : Nat} {E : TypeId} {s : List Nat} (h : Blk w g E (wl s)) (n : Nat) (hn : s.length = n) : Bs .u32 w (.slice (some ⟨g, 0, none⟩) n n) (wi s) := by
  refine ⟨_, n, by rw [wi_len, hn], by rw [wi_len, hn]; exact Nat.le_refl _, fun _ => ⟨g, 0, rfl, fun j hj => ?_⟩⟩
  rw [wi_len] at hj
  rw [Nat.zero_add, h.cell, wl_at s j hj, wi_at]
/-- one word of a slice of words -/
theorem ws_cell {w : World} {b off : Nat} {n cap : Nat} {s : List Nat} (h : Bs .u32 w (.slice (some ⟨b, off, none⟩) n cap) (wi s)) (j : Nat) (hj : j < s.length) : w.cell? ⟨b, off + j, none⟩ = some (.int .u32 ((s.getD j 0 : Nat) : Int)) := by
  obtain ⟨b', off', cap', e, hc⟩ := h.at j (by rw [wi_len]; exact hj)
  simp at e
  obtain ⟨⟨rfl, rfl⟩, _, rfl⟩ := e
  rw [hc, wi_at]

theorem cell_off (w : World) (G i j : Nat) (v : Value) (h : ¬ i = j) : (w.setCell ⟨G, i, none⟩ v).cell? ⟨G, j, none⟩ = w.cell? ⟨G, j, none⟩ := World.cell?_setCell_other _ _ _ _ (fun e => h (by cases e; rfl))
theorem own_of_blk {w : World} {base g : Nat} {E : TypeId} {cs : List Value} {n : Nat} (h : Blk w g E cs) (hb : base ≤ g) (hm : n ≤ maxLen) (hc : cs.length = n) :
    w.ownsRow base E 1 (.slice (some ⟨g, 0, none⟩) n n) n cs :=
  ⟨by omega, .inr ⟨g, n, cs.toArray, rfl, hb, h, Nat.le_refl _, hm, by simpa using hc, by simp [← hc]⟩⟩
theorem bl_set (s : List Int) (i : Nat) (x : Int) : (bl s).set i (.int .u8 x) = bl (s.set i x) := by simp [bl, List.map_set]
end Go.Proofs.YtiolgenaefillaaGreat

/- append, as one step of a region that draws, or behind a guard: what holds in every seat. -/
namespace Go.Proofs.YtiolgenaefillaaGreat
open Go.RowKit

/-- append(s, x...): s a row of the call's own, x any slice of numbers, the nil one among them: as one step -/
theorem wp_append_bs {P : Program} {w : World} {o : Oper} {a : Act} {K : Act → World → Prop} {Q : Exit → Act → World → Prop} (s x : Operand) (t : TypeId)
    (ho : o.op = .call { callee := .builtin .append, args := #[s, x], argTypes := #[t, t] })
    (base : Nat) (e : TypeId) (i : TypeInfo) (z : Value) (bytes : Nat) (ht : P.underlying t = some (.slice e)) (hi : P.info? e = some i) (hz : i.zero = some z)
    (hsize : i.size = 1) (hby : i.bytes = bytes) (hzs : z.cells.size = 1)
    (v : Value) (n : Nat) (xs : List Value) (hs : a.eval s = v) (hown : w.ownsRow base e 1 v n xs)
    (k : IntKind) (u : Value) (ys : List Int) (hx : a.eval x = u) (hb : Bs k w u ys) (hnc : NoCap u)
    (h63 : n + ys.length ≤ maxLen) (hbytes : (n + ys.length) * bytes ≤ 140737488355328) (hbase : base ≤ w.heap.size)
    (h : ∀ v' w', w'.ownsRow base e 1 v' (n + ys.length) (xs ++ ys.map (Value.int k)) → w.grownBy w' v.ownBlock → K (a.put o.dst v') w') :
    Oper.wp P o a w K Q := by
  obtain ⟨ao, cap, rfl⟩ := hb.len
  cases ao with
  | none =>
    have h0 : ys = [] := by
      obtain ⟨ao', cap', e1, _, hr⟩ := hb
      rcases ys with _ | ⟨y, ys⟩
      · rfl
      · obtain ⟨b, off, e2, _⟩ := hr (by simp)
        simp at e1
        rw [← e1.1] at e2; cases e2
    subst h0
    have hc : cap = 0 := hnc _ _ rfl
    subst hc
    have hrun := run_append_owned_none (P := P) (w := w) base t o.type e i 1 ht hi v n xs hown
    have hK := h v w (by simpa using hown) (World.grownBy.refl _ _)
    unfold Oper.wp
    simp [execOp, ho, resolve, invoke, builtin, hs, hx, hrun, Result.andThen]
    exact hK
  | some ad =>
    obtain ⟨v', w', hrun, r1, r2, _⟩ := run_append_own_at (P := P) w base t o.type e i z 1 bytes ht hi hz hsize hby hzs (by omega) v n xs hown ad ys.length cap (ys.map (Value.int k)) (by simp) hb.news (oneCell_ints _ _) h63 hbytes hbase
    unfold Oper.wp
    simp [execOp, ho, resolve, invoke, builtin, hs, hx, hrun, Result.andThen]
    exact h v' w' r1 r2
/-- .. in a region that draws -/
theorem step_append_bs {P : Program} {w : World} {ops : Array Oper} {o : Oper} {a : Act} {K : Act → World → Prop} {Q : Exit → Act → World → Prop} {E : Prop} (hgd : o.guard = none) (s x : Operand) (t : TypeId)
    (ho : o.op = .call { callee := .builtin .append, args := #[s, x], argTypes := #[t, t] })
    (base : Nat) (e : TypeId) (i : TypeInfo) (z : Value) (bytes : Nat) (ht : P.underlying t = some (.slice e)) (hi : P.info? e = some i) (hz : i.zero = some z)
    (hsize : i.size = 1) (hby : i.bytes = bytes) (hzs : z.cells.size = 1)
    (v : Value) (n : Nat) (xs : List Value) (hs : a.eval s = v) (hown : w.ownsRow base e 1 v n xs)
    (k : IntKind) (u : Value) (ys : List Int) (hx : a.eval x = u) (hb : Bs k w u ys) (hnc : NoCap u)
    (h63 : n + ys.length ≤ maxLen) (hbytes : (n + ys.length) * bytes ≤ 140737488355328) (hbase : base ≤ w.heap.size)
    (h : ∀ v' w', w'.ownsRow base e 1 v' (n + ys.length) (xs ++ ys.map (Value.int k)) → w.grownBy w' v.ownBlock → K (a.put o.dst v') w') :
    if Region.wanted o (yielded ops a.tmps) = true then Oper.wp P o a w K Q else E := by
  have hw : Region.wanted o (yielded ops a.tmps) = true := by simp [Region.wanted, hgd]
  rw [if_pos hw]
  exact wp_append_bs s x t ho base e i z bytes ht hi hz hsize hby hzs v n xs hs hown k u ys hx hb hnc h63 hbytes hbase h
/-- .. where it is asked for behind an 'and' or an 'or' -/
theorem wpList_append_bsW {P : Program} (w : World) {ops : Array Oper} {rest : List Oper} {o : Oper} {a : Act} {Q : Exit → Act → World → Prop} (hw : Region.wanted o (yielded ops a.tmps) = true) (s x : Operand) (t : TypeId)
    (ho : o.op = .call { callee := .builtin .append, args := #[s, x], argTypes := #[t, t] })
    (base : Nat) (e : TypeId) (i : TypeInfo) (z : Value) (bytes : Nat) (ht : P.underlying t = some (.slice e)) (hi : P.info? e = some i) (hz : i.zero = some z)
    (hsize : i.size = 1) (hby : i.bytes = bytes) (hzs : z.cells.size = 1)
    (v : Value) (n : Nat) (xs : List Value) (hs : a.eval s = v) (hown : w.ownsRow base e 1 v n xs)
    (k : IntKind) (u : Value) (ys : List Int) (hx : a.eval x = u) (hb : Bs k w u ys) (hnc : NoCap u)
    (h63 : n + ys.length ≤ maxLen) (hbytes : (n + ys.length) * bytes ≤ 140737488355328) (hbase : base ≤ w.heap.size)
    (h : ∀ v' w', w'.ownsRow base e 1 v' (n + ys.length) (xs ++ ys.map (Value.int k)) → w.grownBy w' v.ownBlock → wpList P ops Q rest (a.put o.dst v') w') :
    wpList P ops Q (o :: rest) a w := by
  refine wpList_step fun K hK => ?_
  rw [if_pos hw]
  exact wp_append_bs s x t ho base e i z bytes ht hi hz hsize hby hzs v n xs hs hown k u ys hx hb hnc h63 hbytes hbase (fun v' w' h1 h2 => hK _ _ (h v' w' h1 h2))
end Go.Proofs.YtiolgenaefillaaGreat

/- append, as one step of a region that draws; rows of one's own: what holds in every seat. -/
namespace Go.Proofs.YtiolgenaefillaaGreat
open Go.RowKit

theorem u8_nat {p : List Int} (h : U8 p) (j : Nat) : ∃ a : Nat, p.getD j 0 = (a : Int) ∧ a < 256 := by
  have := h.at j
  exact ⟨(p.getD j 0).toNat, by omega, by omega⟩
theorem range_next {α : Type} (f : Nat → α) (t : Nat) : (List.range (t + 1)).map f = (List.range t).map f ++ [f t] := by
  rw [List.range_succ, List.map_append]; rfl
theorem grown_cell {W W4 : World} {row : Option Nat} (h : W.grownBy W4 row) {b o : Nat} {v : Value} (hb : row ≠ some b) (hc : W.cell? ⟨b, o, none⟩ = some v) : W4.cell? ⟨b, o, none⟩ = some v := by
  rw [← hc]
  exact World.cell?_of_block (h.block b (World.block_lt_of_cell? W _ hc) (fun e => hb e.symm))

theorem own_form {w : World} {lo : Nat} {E : TypeId} {v : Value} {n : Nat} {xs : List Value} (h : w.ownsRow lo E 1 v n xs) : ∃ ao cap, v = .slice ao n cap := by
  rcases h.2 with ⟨rfl, rfl⟩ | ⟨g, cap, cur, rfl, _⟩
  · exact ⟨none, 0, rfl⟩
  · exact ⟨_, cap, rfl⟩
end Go.Proofs.YtiolgenaefillaaGreat

/- The text that goes into a key; version and index. -/
namespace Go.Proofs.YtiolgenaefillaaGreat
open Go.RowKit

set_option maxHeartbeats 1600000 in
set_option maxRecDepth 100000 in
theorem info_any (p : Int) (t : ByteArray) (ht : t.size ≤ 1000) (w : World) :
    Calls Tryz.prog 89 #[.int .u8 p, .string t] w fun e w' => ∃ v, e = .returned v ∧ w'.ownsRow w.heap.size 5 1 v (KTX p (sb t)).length (bl (KTX p (sb t))) ∧ Only (fun _ => False) w w' := by
  have hcv := conv_bytes t
  have hge := grownCap_ge (w.alloc (.cells #[.int .u8 p] 5)) t.size 0 5
  obtain ⟨c, hc⟩ : ∃ c, c = grownCap (w.alloc (.cells #[.int .u8 p] 5)) t.size 0 5 := ⟨_, rfl⟩
  rw [← hc] at hge
  have o1 : Only (fun _ => False) w (w.alloc (.cells #[.int .u8 p] 5)) := (Only.refl _ _).alloc _
  have b0 : Bs .u8 (w.alloc (.cells #[.int .u8 p] 5)) (.slice (some ⟨w.heap.size, 0, none⟩) 1 1) [p] := Bs.lit .u8 w 5 [p]
  have o2 : Only (fun _ => False) (w.alloc (.cells #[.int .u8 p] 5)) ((w.alloc (.cells #[.int .u8 p] 5)).alloc (bytesObj t c)).drew := ((Only.refl _ _).alloc _).drew
  have A := hideIt (blk_any (.slice (some ⟨w.heap.size + 1, 0, none⟩) t.size c) (sb t) ((w.alloc (.cells #[.int .u8 p] 5)).alloc (bytesObj t c)).drew (bytesObj_bs (heap_drew_at (heap_at_new (by simp))) (by omega)) (NoCap.some _ _ _) (by rw [sb_len]; omega))
  have HL : Hid ((blk (sb t)).length ≤ 2000) := by
    have := blk_len (sb t) (by rw [sb_len]; omega)
    rw [sb_len] at this
    show _ ≤ _
    omega
  have P0 := hideIt (And.intro (b0.past o2) (o1.same o2))
  have HX : Hid ([p] ++ blk (sb t) = KTX p (sb t)) := rfl
  obtain ⟨X, hX⟩ : ∃ X, X = blk (sb t) := ⟨_, rfl⟩
  rw [← hX] at A HL HX
  clear o1 b0 o2 hge hX
  go_enter Tryz.func89, Tryz.ntmps89
  go_wp2_with fail
  rw [← hc]
  refine A.out.mono ?_
  rintro e w1 ⟨v1, rfl, own1, o1⟩
  obtain ⟨a1, c1, rfl⟩ := own_form own1
  have oa : Only (fun _ => False) w1 (w1.alloc (.cells #[.slice (some ⟨w.heap.size, 0, none⟩) 1 1, .slice a1 X.length c1] 23)) := (Only.refl _ _).alloc _
  have C := hideIt (concat_two w1.heap.size (.slice (some ⟨w.heap.size, 0, none⟩) 1 1) (.slice a1 X.length c1) [p] X (w1.alloc (.cells #[.slice (some ⟨w.heap.size, 0, none⟩) 1 1, .slice a1 X.length c1] 23)) (by go_cell) (by go_cell) (P0.out.1.past (o1.same oa)) ((Bs.of_own (k := .u8) own1).past oa) (NoCap.some _ _ _) (NoCap.of_own own1) (by simp only [List.length_cons]; omega) (by have := HL.out; simp only [List.length_cons, List.length_nil]; omega))
  rw [HX.out] at C
  have O1 := hideIt (P0.out.2.same (o1.same oa))
  obtain ⟨m, hm⟩ : ∃ m, m = X.length := ⟨_, rfl⟩
  rw [← hm] at C O1 ⊢
  clear own1 o1 oa A P0 hm hcv hc
  go_wp2_with fail
  refine C.out.mono ?_
  rintro e w2 ⟨v2, rfl, own2, o2⟩
  have F := hideIt (And.intro (own_low own2 O1.out.size) (O1.out.same o2))
  clear own2 o2 C O1
  go_wp2
  go_ret
  exact ⟨_, rfl, F.out⟩
end Go.Proofs.YtiolgenaefillaaGreat

/- Words of 32 bits: turned about. -/
namespace Go.Proofs.YtiolgenaefillaaGreat
open Go.RowKit

theorem and31 (n : Nat) (h1 : 1 ≤ n) (h2 : n ≤ 31) : bits .and .u64 (IntKind.u64.wrap (-(n : Int))) 31 = ((32 - n : Nat) : Int) := by
  have e : IntKind.u64.wrap (-(n : Int)) = ((18446744073709551616 - n : Nat) : Int) := by
    simp [IntKind.wrap, IntKind.bits, IntKind.signed]; omega
  rw [e, show (31 : Int) = ((31 : Nat) : Int) from rfl, u64_and_nat _ _ (by omega) (by omega), show (31 : Nat) = 2 ^ 5 - 1 from rfl, Nat.and_two_pow_sub_one_eq_mod]
  omega
theorem rotw_lt (x n : Nat) (hx : x < 4294967296) : rotw x n < 4294967296 := by
  unfold rotw
  exact Nat.or_lt_two_pow (n := 32) (shr_lt x n hx) (Nat.mod_lt _ (by decide))
theorem and_lt' {x : Nat} (y : Nat) (hx : x < 4294967296) : x &&& y < 4294967296 := Nat.lt_of_le_of_lt Nat.and_le_left hx

set_option maxHeartbeats 400000 in
set_option maxRecDepth 100000 in
theorem rotl_any (x n : Nat) (w : World) (hx : x < 4294967296) (h1 : 1 ≤ n) (h2 : n ≤ 31) :
    Calls Tryz.prog 140 #[.int .u32 x, .int .i64 (-(n : Int))] w fun e w' => e = .returned (.int .u32 (rotw x n : Nat)) ∧ w = w' := by
  have hb := and31 n h1 h2
  obtain ⟨s, hs⟩ : ∃ s, s = 32 - n := ⟨_, rfl⟩
  rw [← hs] at hb
  have h3 : 1 ≤ s := by omega
  have h4 : s ≤ 31 := by omega
  have HS : Hid (n = 32 - s) := (by omega : n = 32 - s)
  clear hs h1 h2
  go_enter Tryz.func140, Tryz.ntmps140
  go_wp2
  go_ret
  refine ⟨ret_int ?_, rfl⟩
  rw [show ((x : Int) * 2 ^ s % 4294967296) = ((x * 2 ^ s % 4294967296 : Nat) : Int) by simp, show ((x : Int) / 2 ^ (32 - s)) = ((x / 2 ^ (32 - s) : Nat) : Int) by simp,
    u32_or_nat _ _ (Nat.mod_lt _ (by decide)) (shr_lt _ _ hx), HS.out]
  unfold rotw
  rw [Nat.or_comm, show 32 - (32 - s) = s by omega]

set_option maxHeartbeats 400000 in
set_option maxRecDepth 100000 in
theorem rot_any (x n : Nat) (w : World) (hx : x < 4294967296) (h1 : 1 ≤ n) (h2 : n ≤ 31) :
    Calls Tryz.prog 139 #[.int .u32 x, .int .i64 n] w fun e w' => e = .returned (.int .u32 (rotw x n : Nat)) ∧ w = w' := by
  have A := hideIt (rotl_any x n w hx h1 h2)
  go_enter Tryz.func139, Tryz.ntmps139
  go_wp2_with fail
  refine A.out.mono ?_
  rintro e w1 ⟨rfl, rfl⟩
  go_wp2
  go_ret
  exact ⟨rfl, rfl⟩

theorem sg0_int (x : Nat) (hx : x < 4294967296) : bits .xor .u32 (bits .xor .u32 (rotw x 7 : Nat) (rotw x 18 : Nat)) ((x : Int) / 8) = (sg0 x : Nat) := by
  rw [show ((x : Int) / 8) = ((x / 8 : Nat) : Int) from rfl, u32_xor_nat _ _ (rotw_lt _ _ hx) (rotw_lt _ _ hx), u32_xor_nat _ _ (xor_lt (rotw_lt _ _ hx) (rotw_lt _ _ hx)) (by omega)]; rfl
theorem sg1_int (x : Nat) (hx : x < 4294967296) : bits .xor .u32 (bits .xor .u32 (rotw x 17 : Nat) (rotw x 19 : Nat)) ((x : Int) / 1024) = (sg1 x : Nat) := by
  rw [show ((x : Int) / 1024) = ((x / 1024 : Nat) : Int) from rfl, u32_xor_nat _ _ (rotw_lt _ _ hx) (rotw_lt _ _ hx), u32_xor_nat _ _ (xor_lt (rotw_lt _ _ hx) (rotw_lt _ _ hx)) (by omega)]; rfl
theorem Sg0_int (x : Nat) (hx : x < 4294967296) : bits .xor .u32 (bits .xor .u32 (rotw x 2 : Nat) (rotw x 13 : Nat)) (rotw x 22 : Nat) = (Sg0 x : Nat) := by
  rw [u32_xor_nat _ _ (rotw_lt _ _ hx) (rotw_lt _ _ hx), u32_xor_nat _ _ (xor_lt (rotw_lt _ _ hx) (rotw_lt _ _ hx)) (rotw_lt _ _ hx)]; rfl
theorem Sg1_int (x : Nat) (hx : x < 4294967296) : bits .xor .u32 (bits .xor .u32 (rotw x 6 : Nat) (rotw x 11 : Nat)) (rotw x 25 : Nat) = (Sg1 x : Nat) := by
  rw [u32_xor_nat _ _ (rotw_lt _ _ hx) (rotw_lt _ _ hx), u32_xor_nat _ _ (xor_lt (rotw_lt _ _ hx) (rotw_lt _ _ hx)) (rotw_lt _ _ hx)]; rfl
theorem Sg0_lt (x : Nat) (hx : x < 4294967296) : Sg0 x < 4294967296 := xor_lt (xor_lt (rotw_lt _ _ hx) (rotw_lt _ _ hx)) (rotw_lt _ _ hx)
theorem Sg1_lt (x : Nat) (hx : x < 4294967296) : Sg1 x < 4294967296 := xor_lt (xor_lt (rotw_lt _ _ hx) (rotw_lt _ _ hx)) (rotw_lt _ _ hx)
theorem sg0_lt (x : Nat) (hx : x < 4294967296) : sg0 x < 4294967296 := xor_lt (xor_lt (rotw_lt _ _ hx) (rotw_lt _ _ hx)) (by omega)
theorem sg1_lt (x : Nat) (hx : x < 4294967296) : sg1 x < 4294967296 := xor_lt (xor_lt (rotw_lt _ _ hx) (rotw_lt _ _ hx)) (by omega)

set_option maxHeartbeats 400000 in
set_option maxRecDepth 100000 in
theorem sg0_any (x : Nat) (w : World) (hx : x < 4294967296) :
    Calls Tryz.prog 138 #[.int .u32 x] w fun e w' => e = .returned (.int .u32 (sg0 x : Nat)) ∧ w = w' := by
  have A := hideIt (rot_any x 7 w hx (by decide) (by decide))
  have B := hideIt (rot_any x 18 w hx (by decide) (by decide))
  have H := hideIt (sg0_int x hx)
  go_enter Tryz.func138, Tryz.ntmps138
  go_wp2_with fail
  refine A.out.mono ?_
  rintro e w1 ⟨rfl, rfl⟩
  go_wp2_with fail
  refine B.out.mono ?_
  rintro e w1 ⟨rfl, rfl⟩
  go_wp2
  go_ret
  exact ⟨ret_int H.out, rfl⟩

set_option maxHeartbeats 400000 in
set_option maxRecDepth 100000 in
theorem sg1_any (x : Nat) (w : World) (hx : x < 4294967296) :
    Calls Tryz.prog 137 #[.int .u32 x] w fun e w' => e = .returned (.int .u32 (sg1 x : Nat)) ∧ w = w' := by
  have A := hideIt (rot_any x 17 w hx (by decide) (by decide))
  have B := hideIt (rot_any x 19 w hx (by decide) (by decide))
  have H := hideIt (sg1_int x hx)
  go_enter Tryz.func137, Tryz.ntmps137
  go_wp2_with fail
  refine A.out.mono ?_
  rintro e w1 ⟨rfl, rfl⟩
  go_wp2_with fail
  refine B.out.mono ?_
  rintro e w1 ⟨rfl, rfl⟩
  go_wp2
  go_ret
  exact ⟨ret_int H.out, rfl⟩

set_option maxHeartbeats 400000 in
set_option maxRecDepth 100000 in
theorem Sg0_any (x : Nat) (w : World) (hx : x < 4294967296) :
    Calls Tryz.prog 135 #[.int .u32 x] w fun e w' => e = .returned (.int .u32 (Sg0 x : Nat)) ∧ w = w' := by
  have A := hideIt (rot_any x 2 w hx (by decide) (by decide))
  have B := hideIt (rot_any x 13 w hx (by decide) (by decide))
  have C := hideIt (rot_any x 22 w hx (by decide) (by decide))
  have H := hideIt (Sg0_int x hx)
  go_enter Tryz.func135, Tryz.ntmps135
  go_wp2_with fail
  refine A.out.mono ?_
  rintro e w1 ⟨rfl, rfl⟩
  go_wp2_with fail
  refine B.out.mono ?_
  rintro e w1 ⟨rfl, rfl⟩
  go_wp2_with fail
  refine C.out.mono ?_
  rintro e w1 ⟨rfl, rfl⟩
  go_wp2
  go_ret
  exact ⟨ret_int H.out, rfl⟩

set_option maxHeartbeats 400000 in
set_option maxRecDepth 100000 in
theorem Sg1_any (x : Nat) (w : World) (hx : x < 4294967296) :
    Calls Tryz.prog 134 #[.int .u32 x] w fun e w' => e = .returned (.int .u32 (Sg1 x : Nat)) ∧ w = w' := by
  have A := hideIt (rot_any x 6 w hx (by decide) (by decide))
  have B := hideIt (rot_any x 11 w hx (by decide) (by decide))
  have C := hideIt (rot_any x 25 w hx (by decide) (by decide))
  have H := hideIt (Sg1_int x hx)
  go_enter Tryz.func134, Tryz.ntmps134
  go_wp2_with fail
  refine A.out.mono ?_
  rintro e w1 ⟨rfl, rfl⟩
  go_wp2_with fail
  refine B.out.mono ?_
  rintro e w1 ⟨rfl, rfl⟩
  go_wp2_with fail
  refine C.out.mono ?_
  rintro e w1 ⟨rfl, rfl⟩
  go_wp2
  go_ret
  exact ⟨ret_int H.out, rfl⟩

end Go.Proofs.YtiolgenaefillaaGreat

/- Arrays of words and of bytes as values and in memory; the constants. -/
namespace Go.Proofs.YtiolgenaefillaaGreat
open Go.RowKit

theorem Tryz.size30 : (Tryz.prog.info? 135).map (·.size) = some 8 := by kernel_rfl
theorem Tryz.size31 : (Tryz.prog.info? 116).map (·.size) = some 64 := by kernel_rfl
theorem Tryz.size52 : (Tryz.prog.info? 163).map (·.size) = some 64 := by kernel_rfl
theorem Tryz.size33 : (Tryz.prog.info? 137).map (·.size) = some 73 := by kernel_rfl
theorem z30 : (wl (List.replicate 8 0)).toArray = #[.int .u32 0, .int .u32 0, .int .u32 0, .int .u32 0, .int .u32 0, .int .u32 0, .int .u32 0, .int .u32 0] := rfl

set_option maxHeartbeats 800000 in
set_option maxRecDepth 100000 in
theorem first_any (w : World) : Calls Tryz.prog 122 #[] w fun e w' => e = .returned (.agg (wl shH).toArray) ∧ Only (fun _ => False) w w' := by
  go_enter Tryz.func122, Tryz.ntmps122
  go_wp2_with (first | (refine wpList_build_as rfl 135 _ rfl (wl shH).toArray (by kernel_rfl) ?_) | (refine wpList_store_row rfl 135 (.tmp 0) (.tmp 1) rfl w.heap.size (wl shH).toArray rfl rfl 135 (wl (List.replicate 8 0)).toArray (heap_alloc_last w _) Tryz.size30 rfl (wl_all _) ?_))
  refine bodyPost_ret (v := .agg (wl shH).toArray) (results_cell_row rfl _ _ w.heap.size 135 (wl shH).toArray (0, 0) _ rfl (setRow_heap _ _ _ _ 135 _ (heap_alloc_last w _)) Tryz.underlying135 rfl Tryz.size30) rfl ⟨rfl, ?_⟩
  exact ((Only.refl _ _).alloc _).setRow (fun h => absurd h (Nat.lt_irrefl _)) _
def zK : List Value := wl (List.replicate 64 0)
set_option maxHeartbeats 800000 in
set_option maxRecDepth 100000 in
theorem constants_any (w : World) : Calls Tryz.prog 133 #[] w fun e w' => e = .returned (.agg (wl shK).toArray) ∧ Only (fun _ => False) w w' := by
  go_enter Tryz.func133, Tryz.ntmps133
  go_wp2_with (first | (refine wpList_build_as rfl 163 _ rfl (wl shK).toArray (by kernel_rfl) ?_) | (refine wpList_store_row rfl 163 (.tmp 0) (.tmp 1) rfl w.heap.size (wl shK).toArray rfl rfl 163 zK.toArray (heap_alloc_last w _) Tryz.size52 (by kernel_rfl) (wl_all _) ?_))
  refine bodyPost_ret (v := .agg (wl shK).toArray) (results_cell_row rfl _ _ w.heap.size 163 (wl shK).toArray (0, 0) _ rfl (setRow_heap _ _ zK.toArray _ 163 _ (heap_alloc_last w _)) Tryz.underlying163 rfl Tryz.size52) rfl ⟨rfl, ?_⟩
  exact ((Only.refl _ _).alloc _).setRow (fun h => absurd h (Nat.lt_irrefl _)) _
end Go.Proofs.YtiolgenaefillaaGreat

/- A state's words as bytes. -/
namespace Go.Proofs.YtiolgenaefillaaGreat
open Go.RowKit

theorem ix_w8 (s : List Nat) (hs : s.length = 8) (j : Nat) (hj : j < 8) (w : World) : (Instr.index 135 (.agg (wl s).toArray) (.int .i64 j)).run Tryz.prog w = .ok (.int .u32 ((s.getD j 0 : Nat) : Int)) w :=
  run_index_cell 135 124 8 (wl s) j _ Tryz.underlying135 Tryz.agg29 Tryz.one29 hj (wl_at s j (by omega)) w
theorem ix_w64 (s : List Nat) (hs : s.length = 64) (j : Nat) (hj : j < 64) (w : World) : (Instr.index 163 (.agg (wl s).toArray) (.int .i64 j)).run Tryz.prog w = .ok (.int .u32 ((s.getD j 0 : Nat) : Int)) w :=
  run_index_cell 163 124 64 (wl s) j _ Tryz.underlying163 Tryz.agg29 Tryz.one29 hj (wl_at s j (by omega)) w
theorem ix_b64 (s : List Int) (hs : s.length = 64) (j : Nat) (hj : j < 64) (w : World) : (Instr.index 116 (.agg (bl s).toArray) (.int .i64 j)).run Tryz.prog w = .ok (.int .u8 (s.getD j 0)) w :=
  run_index_cell 116 5 64 (bl s) j _ Tryz.underlying116 Tryz.agg5 Tryz.one5 hj (bl_at s j (by omega)) w
theorem flat_next (s : List Nat) (j : Nat) (h : j < s.length) : (s.take (j + 1)).flatMap be4 = (s.take j).flatMap be4 ++ be4 (s.getD j 0) := by
  rw [take_nextN s j h, List.flatMap_append]; simp
theorem be4_bytes (x : Nat) : be4 x = [((x / 16777216 % 256 : Nat) : Int), ((x / 65536 % 256 : Nat) : Int), ((x / 256 % 256 : Nat) : Int), ((x % 256 : Nat) : Int)] := by
  have : List.range 4 = [0, 1, 2, 3] := rfl
  unfold be4
  rw [this]
  simp
def z32 : List Value := bl (List.replicate 32 0)
theorem mk32 (w : World) : (Instr.makeSlice 23 (.int .i64 0) (.int .i64 32)).run Tryz.prog w = .ok (.slice (some ⟨w.heap.size, 0, none⟩) 0 32) (w.alloc (.cells z32.toArray 5)) := by kernel_rfl

set_option maxHeartbeats 800000 in
set_option maxRecDepth 100000 in
theorem bytesOf_any (s : List Nat) (hs : s.length = 8) (w : World) : Calls Tryz.prog 125 #[.agg (wl s).toArray] w fun e w' => ∃ v, e = .returned v ∧ w'.ownsRow w.heap.size 5 1 v 32 ((s.flatMap be4).map (Value.int .u8)) ∧ Only (fun _ => False) w w' := by
  obtain ⟨i0, hi, hz0, hz1, hz2⟩ := info_parts Tryz.infoU8
  have HX := hideIt (ix_w8 s hs)
  have FX := hideIt (flat_next s)
  have HF : Hid ((s.take 8).flatMap be4 = s.flatMap be4) := by rw [List.take_of_length_le (by omega)]; rfl
  have HL := hideIt hs
  have hmk := mk32
  generalize hC : (wl s).toArray = C at *
  have hsz : (Tryz.prog.info? 135).map (·.size) = some C.size := by rw [← hC]; simp [wl_len, hs, Tryz.size30]
  have HSZ := hideIt hsz
  clear hC hs hsz
  go_enter Tryz.func125, Tryz.ntmps125
  go_wp2_with (refine wpList_load_row rfl 135 _ rfl w.heap.size rfl 135 C (0, 0) _ (heap_alloc2_old w _ _) Tryz.underlying135 rfl HSZ.out ?_)
  obtain ⟨F, hF⟩ : ∃ F : Nat → List Value, F = fun j => ((s.take j).flatMap be4).map (Value.int .u8) := ⟨_, rfl⟩
  have F0 : Hid (F 0 = []) := by rw [hF]; rfl
  have F8 : Hid (F 8 = (s.flatMap be4).map (Value.int .u8)) := by rw [hF, ← HF.out]; rfl
  have FN : Hid (∀ j, j < 8 → F (j + 1) = F j ++ (be4 (s.getD j 0)).map (Value.int .u8)) := fun j hj => by
    rw [hF]; simp only; rw [FX.out j (by rw [HL.out]; exact hj), List.map_append]
  clear hF FX HF
  go_loopw [3, 8] (fun o i wr => ∃ j : Nat, j ≤ 8 ∧ i = .int .i64 j ∧ wr.ownsRow w.heap.size 5 1 o (4 * j) (F j) ∧ Only (fun _ => False) w wr) (fun _ i _ => 8 - (intOf i).toNat)
  case atStart =>
    refine ⟨0, by omega, rfl, ?_, ((Only.refl _ _).alloc _).alloc _⟩
    rw [F0.out]
    have := World.ownsRow_made (base := w.heap.size) (e := 5) (size := 1) (w.alloc (.cells C 135)) z32.toArray 32 ((Only.refl (fun _ => False) w).alloc _).size (by decide) rfl
    rw [size_alloc] at this
    exact this
  case round =>
    obtain ⟨j, hj, rfl, hown, hon⟩ := hrel
    have hsz := hon.size
    have HON := hideIt hon
    have HOWN := hideIt hown
    clear hon hown
    by_cases hlt : j < 8
    · obtain ⟨x, hx⟩ : ∃ x, x = s.getD j 0 := ⟨_, rfl⟩
      have hix := HX.out j hlt
      have hfn := FN.out j hlt
      rw [← hx] at hix hfn
      have HFN := hideIt hfn
      have i1 : (j : Int) < 8 := by omega
      clear hx hfn
      have BL := hideIt (Bs.litN .u8 wr 5 [(x : Int) / 16777216 % 256, (x : Int) / 65536 % 256, (x : Int) / 256 % 256, (x : Int) % 256] _ _ rfl rfl)
      go_wp2_with (at_builtin; refine wpList_append_bs _ rfl _ _ 23 rfl w.heap.size 5 i0 (.int .u8 0) 1 Tryz.underlying23 hi hz0 hz1 hz2 rfl _ (4 * j) (F j) rfl (HOWN.out.alloc _) .u8 _ [(x : Int) / 16777216 % 256, (x : Int) / 65536 % 256, (x : Int) / 256 % 256, (x : Int) % 256] rfl BL.out (NoCap.some _ _ _) (by simp [maxLen]; omega) (by simp; omega) (by simp; omega) ?_; intro v' w2 hown' hgrow2 hnil2 hob2)
      have N1 : Hid (w2.ownsRow w.heap.size 5 1 v' (4 * (j + 1)) (F (j + 1))) := by
        rw [HFN.out, be4_bytes]; exact hown'
      have N2 : Hid (Only (fun _ => False) w w2) := (HON.out.alloc _).grown hgrow2 (fun k hk e => by have := HOWN.out.lt k e; omega)
      clear hown' hgrow2 hnil2 hob2 HOWN HON BL HFN
      go_wp2
      go_roundw
      case rel => exact ⟨j + 1, by omega, by go_num, N1.out, N2.out⟩
      case measure => simp [intOf]; omega
    · go_wp2
      go_ret
      obtain rfl : j = 8 := by omega
      rw [F8.out] at HOWN
      exact ⟨_, rfl, HOWN.out, HON.out⟩
end Go.Proofs.YtiolgenaefillaaGreat
