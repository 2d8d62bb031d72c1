/- The document's own answer: digits: number, Clamped's digits, trim. -/
import Derived.Test.YtjiippbjflpkkaaMu
namespace Go.Proofs.Ytjiippbjflpkkaa
open Go.RowKit

/-- digits as cells -/
def il (s : List Int) : List Value := s.map (Value.int .i64)
theorem il_len (s : List Int) : (il s).length = s.length := List.length_map ..
theorem il_app (s t : List Int) : il (s ++ t) = il s ++ il t := List.map_append ..
theorem il_one (s : List Int) : ∀ v ∈ il s, v.oneCell' = true := oneCell_ints _ _
theorem Try.infoI : (Try.prog.info? 3).map (fun i => (i.zero, i.size, i.bytes)) = some (some (.int .i64 0), 1, 8) := by kernel_rfl
theorem Bs.of_il {w : World} {lo : Nat} {v : Value} {xs : List Int} (h : w.ownsRow lo 3 1 v xs.length (il xs)) : Bs .i64 w v xs := Bs.of_own h
theorem take_nextI (s : List Int) (j : Nat) (h : j < s.length) : s.take (j + 1) = s.take j ++ [s.getD j 0] := by
  rw [List.take_add_one, List.getElem?_eq_getElem h, List.getD_eq_getElem?_getD, List.getElem?_eq_getElem h]; rfl

set_option maxHeartbeats 800000 in
set_option maxRecDepth 100000 in
theorem rnumber_any (v : Value) (xs : List Int) (hl : xs.length ≤ 1000000) (h8 : U8 xs) (w : World) (hb : Bs .u8 w v xs) :
    Calls Try.prog 45 #[v] w fun e w' => ∃ v', e = .returned v' ∧ w'.ownsRow w.heap.size 3 1 v' xs.length (il xs) ∧ Only (fun _ => False) w w' := by
  obtain ⟨i0, hi, hz0, hz1, hz2⟩ := info_parts Try.infoI
  have HBS := hideIt hb
  obtain ⟨ao, cap, rfl⟩ := hb.len
  have H8 := hideIt h8
  obtain ⟨m, hm⟩ : ∃ m, m = xs.length := ⟨_, rfl⟩
  have HM := hideIt hm
  rw [← hm] at hl HBS ⊢
  clear hb h8 hm
  have hcap : m ≤ cap := by
    obtain ⟨_, _, e, h, _⟩ := HBS.out
    have h2 := HM.out
    simp at e
    omega
  go_enter Try.func45, Try.ntmps45
  go_wp2
  go_loopw [3, 4] (fun o i wr => ∃ n : Nat, n ≤ m ∧ i = .int .i64 n ∧ wr.ownsRow w.heap.size 3 1 o n (il (xs.take n)) ∧ Only (fun _ => False) w wr) (fun _ i _ => m - (intOf i).toNat)
  case atStart => exact ⟨0, by omega, rfl, World.ownsRow_nil .., Only.refl _ _⟩
  case round =>
    obtain ⟨n, hn, rfl, hown, hon⟩ := hrel
    by_cases hlt : n < m
    · obtain ⟨b, off, cap', e, hc⟩ := (HBS.out.past hon).at n (by have := HM.out; omega)
      simp at e
      obtain ⟨rfl, -, rfl⟩ := e
      have hy := H8.out.at n
      have hsn := take_nextI xs n (by have := HM.out; omega)
      obtain ⟨y, hyy⟩ : ∃ y, y = xs.getD n 0 := ⟨_, rfl⟩
      rw [← hyy] at hc hy hsn
      have HSN := hideIt hsn
      have hcv : IntKind.i64.wrap y = y := by rw [IntKind.wrap_i64]; omega
      have i1 : (n : Int) < m := by omega
      have hsz := hon.size
      clear hyy hsn
      go_wp2_with (at_builtin; refine wpList_append_lies _ rfl _ _ _ rfl w.heap.size 3 i0 (.int .i64 0) 1 8 Try.underlying61 hi hz0 hz1 hz2 rfl (by omega) _ n (il (xs.take n)) rfl (hown.alloc _) ⟨wr.heap.size, 0, none⟩ 1 1 [.int .i64 y] rfl rfl ?c1 ?c2 (by omega) ?c3 ?c4 ?c5 (wr.heap.size + 1) (by simp) ?_)
      case c1 => exact cell_one_new _ _ _
      case c2 => intro u hu; simp at hu; subst hu; rfl
      case c3 => unfold maxLen; omega
      case c4 => omega
      case c5 => simp; omega
      intro g cap1 w1 hown1 hgrow hat hg1
      have N1 : Hid (w1.ownsRow w.heap.size 3 1 (.slice (some ⟨g, 0, none⟩) (n + 1) cap1) (n + 1) (il (xs.take (n + 1))) ∧ Only (fun _ => False) w w1) := by
        refine ⟨?_, (hon.alloc _).grown hgrow (fun q hq e => by have := (hown.lt q e).1; omega)⟩
        rw [HSN.out, il_app]
        exact hown1
      clear hown hown1 hgrow hat hon hc
      go_wp2
      go_roundw
      case rel => exact ⟨n + 1, by omega, by go_num, N1.out⟩
      case measure => simp [intOf]; omega
    · obtain rfl : n = m := by omega
      have F1 : Hid (wr.ownsRow w.heap.size 3 1 u3 n (il xs) ∧ Only (fun _ => False) w wr) := by
        have h := hown
        rw [List.take_of_length_le (by rw [HM.out]; exact Nat.le_refl _)] at h
        exact ⟨h, hon⟩
      clear hown hon
      go_wp2
      go_ret
      exact ⟨_, rfl, F1.out⟩

/-- no nought at the top -/
def Trimd (L : List Int) : Prop := ∀ k, L.length = k + 1 → L.getD k 0 ≠ 0
theorem nv_take_last (L : List Int) (k : Nat) (hk : k < L.length) (h0 : L.getD k 0 = 0) : nv (L.take (k + 1)) = nv (L.take k) := by
  rw [take_nextI L k hk, nv_snoc, h0]; rfl
set_option maxHeartbeats 800000 in
set_option maxRecDepth 100000 in
theorem rtrim_any (ao : Option Addr) (cap : Nat) (L : List Int) (hl : L.length ≤ 1000000) (w : World) (hb : Bs .i64 w (.slice ao L.length cap) L) :
    Calls Try.prog 53 #[.slice ao L.length cap] w fun e w' => ∃ k, e = .returned (.slice ao k cap) ∧ k ≤ L.length ∧ nv (L.take k) = nv L ∧ Trimd (L.take k) ∧ w = w' := by
  have HBS := hideIt hb
  have hcap : L.length ≤ cap := by
    obtain ⟨_, _, e, h, _⟩ := hb
    simp at e
    omega
  obtain ⟨m, hm⟩ : ∃ m, m = L.length := ⟨_, rfl⟩
  have HM := hideIt hm
  rw [← hm] at hl hcap HBS ⊢
  clear hb hm
  go_enter Try.func53, Try.ntmps53
  go_wp2
  go_loopw [0] (fun o wr => ∃ k : Nat, k ≤ m ∧ o = .slice ao k cap ∧ nv (L.take k) = nv L ∧ w = wr) (fun o _ => match o with | .slice _ n _ => n | _ => 0)
  case atStart => exact ⟨m, Nat.le_refl _, rfl, by rw [HM.out, List.take_length], rfl⟩
  case round =>
    obtain ⟨k, hk, rfl, hnv, rfl⟩ := hrel
    by_cases h0 : k = 0
    · subst h0
      have F1 : Hid (Trimd (L.take 0)) := fun j hj => by simp at hj
      have HNV := hideIt hnv
      clear hnv
      go_wp2
      go_ret
      exact ⟨0, rfl, by omega, HNV.out, F1.out, rfl⟩
    · obtain ⟨j, rfl⟩ : ∃ j, k = j + 1 := ⟨k - 1, by omega⟩
      obtain ⟨b, off, cap', e, hc⟩ := HBS.out.at j (by have := HM.out; omega)
      simp at e
      obtain ⟨rfl, -, rfl⟩ := e
      have hsub : IntKind.i64.wrap (((j + 1 : Nat) : Int) - 1) = (j : Int) := by rw [IntKind.wrap_i64]; omega
      have hgt : (0 : Int) < ((j + 1 : Nat) : Int) := by omega
      have i1 : (j : Int) < ((j + 1 : Nat) : Int) := by omega
      have i2 : (j : Int) ≤ (cap : Int) := by omega
      by_cases hd : L.getD j 0 = 0
      · rw [hd] at hc
        have N1 : Hid (nv (L.take j) = nv L) := by
          show _ = _
          rw [← hnv, nv_take_last L j (by have := HM.out; omega) hd]
        clear hnv hd
        go_wp2
        go_roundw
        case rel => exact ⟨j, by omega, by go_num, N1.out, trivial⟩
        case measure => simp
      · have F1 : Hid (Trimd (L.take (j + 1))) := fun i hi => by
          rw [List.length_take] at hi
          have e : i = j := by have := HM.out; omega
          subst e
          have : (L.take (i + 1)).getD i 0 = L.getD i 0 := by simp [List.getD_eq_getElem?_getD]
          rw [this]; exact hd
        obtain ⟨y, hyy⟩ : ∃ y, y = L.getD j 0 := ⟨_, rfl⟩
        rw [← hyy] at hc hd
        have HNV := hideIt hnv
        have hd2 : (y == 0) = false := by rw [beq_eq_false_iff_ne]; exact hd
        clear hnv hyy
        go_wp2
        go_ret
        exact ⟨j + 1, rfl, by omega, HNV.out, F1.out, rfl⟩
end Go.Proofs.Ytjiippbjflpkkaa
