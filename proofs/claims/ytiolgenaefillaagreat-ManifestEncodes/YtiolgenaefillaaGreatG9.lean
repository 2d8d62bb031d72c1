/- Several texts in one: Tx, Lxs, Mp, Same, Same2, SameB, Cat, Rrt, Pd, Pz19, Sz19. -/
import Derived.Test.YtiolgenaefillaaGreatG8
import Derived.Test.YtiolgenaefillaaGreatG3
import Derived.Laws.Strings
import Derived.Sort.KeysCollected
import Derived.Sort.Walk0
import Derived.Maps.OwnSet
import Derived.Maps.OwnOps
import Derived.Test.YtiolgenaefillaaGreatProg
import Derived.Test.YtiolgenaefillaaGreatG1
import Derived.Test.YtiolgenaefillaaGreatG2
import Derived.Test.YtiolgenaefillaaGreatG6

/- Texts in memory: a slice of strings. -/
namespace Go.Proofs.YtiolgenaefillaaGreat
open Go.RowKit

/-- the slice v reads as the texts T -/
def Sts (w : World) (v : Value) (T : List (List Int)) : Prop :=
  ∃ ao cap, v = .slice ao T.length cap ∧ T.length ≤ cap ∧ (T ≠ [] → ∃ b off, ao = some ⟨b, off, none⟩ ∧ ∀ j, j < T.length → w.cell? ⟨b, off + j, none⟩ = some (.string (strOfNums (T.getD j []))))
theorem Sts.len {w : World} {v : Value} {T : List (List Int)} (h : Sts w v T) : ∃ ao cap, v = .slice ao T.length cap := by
  obtain ⟨ao, cap, rfl, _⟩ := h
  exact ⟨ao, cap, rfl⟩
theorem Sts.nil (w : World) : Sts w (.slice none 0 0) [] := ⟨none, 0, rfl, Nat.le_refl _, fun h => absurd rfl h⟩
theorem Sts.at {w : World} {v : Value} {T : List (List Int)} (h : Sts w v T) (j : Nat) (hj : j < T.length) :
    ∃ b off cap, v = .slice (some ⟨b, off, none⟩) T.length cap ∧ w.cell? ⟨b, off + j, none⟩ = some (.string (strOfNums (T.getD j []))) := by
  obtain ⟨ao, cap, rfl, _, hr⟩ := h
  obtain ⟨b, off, rfl, hc⟩ := hr (by intro h0; subst h0; simp at hj)
  exact ⟨b, off, cap, rfl, hc j hj⟩
theorem Sts.keep {w w' : World} {v : Value} {T : List (List Int)} (h : Sts w v T) {S : Nat → Prop} (ho : Only S w w') (hs : ∀ b, v.ownBlock = some b → ¬ S b) : Sts w' v T := by
  obtain ⟨ao, cap, rfl, hl, hr⟩ := h
  refine ⟨ao, cap, rfl, hl, fun hne => ?_⟩
  obtain ⟨b, off, rfl, hc⟩ := hr hne
  refine ⟨b, off, rfl, fun j hj => ?_⟩
  have hb : ¬ S b := hs b rfl
  have h0 := hc j hj
  have hlt : b < w.heap.size := World.block_lt_of_cell? w _ h0
  have e := ho.block b hlt hb
  rw [← h0]; unfold World.cell?; rw [e]
theorem Sts.past {w w' : World} {v : Value} {T : List (List Int)} (h : Sts w v T) (o : Only (fun _ => False) w w') : Sts w' v T := h.keep o (fun _ _ f => f)
/-- texts as cells -/
abbrev tcells (T : List (List Int)) : List Value := T.map fun x => Value.string (strOfNums x)
theorem Sts.of_own {w : World} {lo : Nat} {E : TypeId} {v : Value} {T : List (List Int)} (h : w.ownsRow lo E 1 v T.length (tcells T)) : Sts w v T := by
  rcases h.2 with ⟨rfl, hn⟩ | ⟨g, cap, cur, rfl, _, hg, hnc, _, hcs, htk⟩
  · have : T = [] := List.eq_nil_of_length_eq_zero hn
    subst this
    exact Sts.nil w
  · refine ⟨_, cap, rfl, hnc, fun _ => ⟨g, 0, rfl, fun j hj => ?_⟩⟩
    have hc : w.cell? ⟨g, 0 + j, none⟩ = (tcells T)[j]? := by
      rw [← htk, List.getElem?_take_of_lt (by omega)]
      simp [World.cell?, hg]
    rw [hc]
    simp [tcells, List.getD_eq_getElem?_getD, List.getElem?_eq_getElem hj]
theorem own_neb {w : World} {lo : Nat} {E : TypeId} {size : Nat} {v : Value} {n : Nat} {xs : List Value} (h : w.ownsRow lo E size v n xs) {b : Nat} (hb : b < lo) : some b ≠ v.ownBlock := by
  intro e
  have := (h.lt b e.symm).1
  omega
end Go.Proofs.YtiolgenaefillaaGreat

/- Texts in order: the model's order of texts is that of their bytes; what a manifest may not be. -/
namespace Go.Proofs.YtiolgenaefillaaGreat

theorem less_lex : ∀ (x y : List UInt8), Op.bytesLess x y = lexB (x.map fun c => (c.toNat : Int)) (y.map fun c => (c.toNat : Int))
  | _, [] => by cases ‹List UInt8› <;> rfl
  | [], _ :: _ => rfl
  | a :: x, b :: y => by
    have h1 : decide (a < b) = decide ((a.toNat : Int) < (b.toNat : Int)) := by
      rw [decide_eq_decide, UInt8.lt_iff_toNat_lt]; omega
    have h2 : (a == b) = decide ((a.toNat : Int) = (b.toNat : Int)) := by
      rw [Bool.eq_iff_iff, beq_iff_eq, decide_eq_true_eq]
      constructor
      · rintro rfl; rfl
      · intro h; exact UInt8.toNat_inj.1 (by omega)
    simp only [Op.bytesLess, List.map_cons, lexB, ← less_lex x y, h1, h2]
theorem less_sb (s t : ByteArray) : Op.bytesLess s.toList t.toList = lexB (sb s) (sb t) := by
  rw [less_lex, ByteArray.toList_eq, ByteArray.toList_eq]; rfl
theorem eq_sb (s t : ByteArray) : (s.toList == t.toList) = decide (sb s = sb t) := by
  rw [Bool.eq_iff_iff, beq_iff_eq, decide_eq_true_eq]
  constructor
  · intro h
    unfold sb
    rw [← ByteArray.toList_eq, ← ByteArray.toList_eq, h]
  · intro h
    rw [sb_inj h]
/-- rising, as the library's sort leaves them -/
theorem sorted_ris {l : List (List UInt8)} (h : l.Pairwise fun x y => Op.bytesLess y x = false) (hn : l.Nodup) : RIS (l.map fun s => s.map fun c => (c.toNat : Int)) := by
  unfold RIS
  rw [List.pairwise_map]
  refine (h.and hn).imp (fun {a b} k => ?_)
  rcases lexB_total (a.map fun c => (c.toNat : Int)) (b.map fun c => (c.toNat : Int)) with e | e | e
  · refine absurd ?_ k.2
    have hi : ∀ (x y : List UInt8), (x.map fun c => (c.toNat : Int)) = (y.map fun c => (c.toNat : Int)) → x = y := by
      intro x
      induction x with
      | nil => intro y hy; cases y with
        | nil => rfl
        | cons b y => simp at hy
      | cons a x ih => intro y hy; cases y with
        | nil => simp at hy
        | cons b y =>
          simp only [List.map_cons, List.cons.injEq] at hy
          rw [ih y hy.2, UInt8.toNat_inj.1 (show a.toNat = b.toNat by omega)]
    exact hi a b e
  · exact e
  · rw [← less_lex, k.1] at e; cases e
end Go.Proofs.YtiolgenaefillaaGreat

/- A map keyed by texts: what it has; its keys sorted are the tenants, each once, rising. Plain facts. -/
namespace Go.Proofs.YtiolgenaefillaaGreat
open Go.RowKit Go.Maps

def b8 (x : List Int) : List UInt8 := x.map fun n => UInt8.ofNat n.toNat
def i8 (l : List UInt8) : List Int := l.map fun c => (c.toNat : Int)
theorem i8_b8 {x : List Int} (h : U8 x) : i8 (b8 x) = x := by
  unfold i8 b8
  rw [List.map_map]
  refine (List.map_congr_left (g := id) (fun y hy => ?_)).trans (List.map_id _)
  have := h y hy
  simp only [Function.comp, id]
  rw [UInt8.toNat_ofNat']
  omega
theorem b8_i8 (l : List UInt8) : b8 (i8 l) = l := by
  unfold i8 b8
  rw [List.map_map]
  refine (List.map_congr_left (g := id) (fun y _ => ?_)).trans (List.map_id _)
  simp
theorem i8_u8 (l : List UInt8) : U8 (i8 l) := by
  intro y hy
  simp only [i8, List.mem_map] at hy
  obtain ⟨c, _, rfl⟩ := hy
  have := c.toNat_lt
  omega
theorem b8_inj {x y : List Int} (hx : U8 x) (hy : U8 y) (h : b8 x = b8 y) : x = y := by rw [← i8_b8 hx, ← i8_b8 hy, h]
theorem i8_inj {x y : List UInt8} (h : i8 x = i8 y) : x = y := by rw [← b8_i8 x, ← b8_i8 y, h]
theorem str_enc (x : List Int) : Value.string (strOfNums x) = encStr (b8 x) := rfl
theorem size_nums (x : List Int) : (strOfNums x).size = x.length := strOfNums_size x
abbrev kS (x : List Int) : Lit := .string (b8 x)
theorem kS_lit (x : List Int) : WideAt.IsKeyLit (kS x) := by simp [WideAt.IsKeyLit]
theorem kS_ne {x y : List Int} (hx : U8 x) (hy : U8 y) (h : x ≠ y) : kS x ≠ kS y := fun e => h (b8_inj hx hy (by injection e))
theorem key_str {P : Program} {k : TypeId} (hk : P.underlying k = some .string) (x : List Int) (h : x.length ≤ maxLen) : keyOf P k (.string (strOfNums x)) = some (kS x) := by
  have : (strOfNums x).size ≤ maxLen := by rw [size_nums]; exact h
  simp [keyOf, hk, mapKey, this]
  rfl
/-- the map has just these -/
def HasT (D : DataW Unit) (T : List (List Int)) : Prop := ∀ x, U8 x → Maps.has D (kS x) = decide (x ∈ T)
/-- and each one's place -/
def AtT (D : DataW Unit) (T : List (List Int)) : Prop := ∀ x, x ∈ T → ∀ z, D.atKey (kS x) z = .lit (.int .i64 (PLC T x : Nat))
theorem HasT.put {D : DataW Unit} {T : List (List Int)} (h : HasT D T) (hD : IsMap D) {x : List Int} (hx : U8 x) (d : DataW Unit) : HasT (D.put (kS x) d) (T ++ [x]) := by
  intro y hy
  by_cases e : y = x
  · subst e
    rw [has_put_same hD (kS_lit y), decide_eq_true (by simp)]
  · rw [has_put_other (kS_ne hy hx e), h y hy, decide_eq_decide]
    simp [e]
theorem HasT.re {D : DataW Unit} {T : List (List Int)} (h : HasT D T) (hD : IsMap D) {x : List Int} (hx : U8 x) (hT : x ∈ T) (d : DataW Unit) : HasT (D.put (kS x) d) T := by
  intro y hy
  by_cases e : y = x
  · subst e
    rw [has_put_same hD (kS_lit y), decide_eq_true hT]
  · rw [has_put_other (kS_ne hy hx e), h y hy]
theorem HasT.of {D : DataW Unit} {T U : List (List Int)} (h : HasT D T) (e : ∀ x, x ∈ T ↔ x ∈ U) : HasT D U := fun x hx => by rw [h x hx, decide_eq_decide]; exact e x
/-- the keys of the map -/
theorem strKeys_has {P : Program} {k : TypeId} (hk : P.underlying k = some .string) {R : Value → Option (DataW Unit × List MemPlace)} {w : World} {b n : Nat} {D : DataW Unit} (h : w.ownsMap P k R b n D) :
    (strKeys D).Nodup ∧ (∀ x, x ∈ strKeys D ↔ Maps.has D (.string x) = true) ∧ (strKeys D).length = Maps.size D := by
  obtain ⟨es, rfl, hp, _⟩ := h.entries (string_keyed hk)
  obtain ⟨es', e', hks⟩ := h.keysOf
  cases e'
  have hks' : ∀ p ∈ es, ∃ x, p.1 = .string x := fun p hp' => by
    obtain ⟨v, hv⟩ := hks p hp'
    obtain ⟨x, _, e, _⟩ := Maps.keyOf_str hk hv
    exact ⟨x, e⟩
  refine ⟨?_, fun x => ?_, by simp [strKeys, Maps.size]⟩
  · show (es.map fun p => strOf p.1).Nodup
    refine List.pairwise_map.2 (hp.imp_of_mem fun {p q} hp' hq' hne e => hne ?_)
    obtain ⟨a, ha⟩ := hks' p hp'
    obtain ⟨b, hb⟩ := hks' q hq'
    rw [ha, hb] at e ⊢
    exact congrArg _ e
  · rw [has_eq, List.any_eq_true]
    show x ∈ es.map (fun p => strOf p.1) ↔ _
    rw [List.mem_map]
    constructor
    · rintro ⟨p, hp', rfl⟩
      obtain ⟨a, ha⟩ := hks' p hp'
      exact ⟨p, hp', by rw [ha]; simp [Lit.sameKey, strOf]⟩
    · rintro ⟨p, hp', hs⟩
      obtain ⟨a, ha⟩ := hks' p hp'
      rw [ha] at hs
      exact ⟨p, hp', by rw [ha]; simpa [Lit.sameKey, strOf] using hs⟩
/-- sorted they are the tenants -/
theorem sort_TEN {D : DataW Unit} {T : List (List Int)} (hU : ∀ x ∈ T, U8 x) (hT : HasT D T) (hn : (strKeys D).Nodup) (hm : ∀ x, x ∈ strKeys D ↔ Maps.has D (.string x) = true) {ss : List (List UInt8)} (hp : ss.Perm (strKeys D)) :
    (ss.mergeSort (fun x y => decide (x ≤ y))).map i8 = TEN T := by
  have tr : ∀ a b c : List UInt8, decide (a ≤ b) = true → decide (b ≤ c) = true → decide (a ≤ c) = true := fun a b c h1 h2 => by simp only [decide_eq_true_eq] at *; exact List.le_trans h1 h2
  have to : ∀ a b : List UInt8, (decide (a ≤ b) || decide (b ≤ a)) = true := fun a b => by simp only [Bool.or_eq_true, decide_eq_true_eq]; exact List.le_total a b
  have pw := List.pairwise_mergeSort (le := fun x y : List UInt8 => decide (x ≤ y)) tr to ss
  have pp := List.mergeSort_perm ss (fun x y => decide (x ≤ y))
  refine TEN_only (sorted_ris (pw.imp fun {a b} k => ?_) ((pp.trans hp).nodup_iff.2 hn)) (fun x => ?_)
  · have k' : a ≤ b := by simpa using k
    rw [bytesLess_eq, decide_eq_false_iff_not]
    exact k'
  · rw [List.mem_map]
    constructor
    · rintro ⟨s, hs, rfl⟩
      have h1 := (hm s).1 ((pp.trans hp).mem_iff.1 hs)
      have h2 := hT (i8 s) (i8_u8 s)
      rw [show kS (i8 s) = .string s by rw [kS, b8_i8]] at h2
      rw [h2] at h1
      exact of_decide_eq_true h1
    · intro hx
      refine ⟨b8 x, (pp.trans hp).mem_iff.2 ((hm _).2 ?_), i8_b8 (hU x hx)⟩
      rw [show (Lit.string (b8 x)) = kS x from rfl, hT x (hU x hx), decide_eq_true hx]
theorem enc_i8 (l : List (List UInt8)) : l.map encStr = (l.map i8).map fun x => Value.string (strOfNums x) := by
  rw [List.map_map]
  refine List.map_congr_left (fun s _ => ?_)
  simp only [Function.comp]
  rw [str_enc, b8_i8]
theorem size_TEN {D : DataW Unit} {T : List (List Int)} (hU : ∀ x ∈ T, U8 x) (hT : HasT D T) (hn : (strKeys D).Nodup) (hm : ∀ x, x ∈ strKeys D ↔ Maps.has D (.string x) = true) (hs : (strKeys D).length = Maps.size D) : Maps.size D = (TEN T).length := by
  rw [← sort_TEN hU hT hn hm (List.Perm.refl _), List.length_map, List.length_mergeSort, hs]
end Go.Proofs.YtiolgenaefillaaGreat

/- Contract of the reference's Same: equal bytes are the same. -/
namespace Go.Proofs.YtiolgenaefillaaGreat
open Go.RowKit

set_option maxHeartbeats 400000 in
set_option maxRecDepth 100000 in
/-- EQUAL BYTES ARE THE SAME. -/
theorem same_eq (va vb : Value) (xs : List Int) (w : World) (ha : Bs .u8 w va xs) (hb : Bs .u8 w vb xs) (hl : xs.length ≤ 140737488355328) :
    Calls Tryz.prog 10 #[va, vb] w fun e w' => e = .returned (.bool true) ∧ Only (fun _ => False) w w' := by
  obtain ⟨aoa, ca, rfl, hca, hra⟩ := ha
  obtain ⟨aob, cb, rfl, hcb, hrb⟩ := hb
  have hbn : ((xs.length : Int) != (xs.length : Int)) = false := by simp
  by_cases hx : xs = []
  · subst hx
    clear hra hrb
    simp only [List.length_nil]
    go_enter Tryz.func10, Tryz.ntmps10
    go_wp2
    go_loop [5] (fun i => i = .int .i64 0) (fun _ => 0)
    case atStart => rfl
    case round =>
      subst hrel
      go_wp2
      go_ret
      exact ⟨rfl, Only.refl _ _⟩
  · obtain ⟨ba, oa, rfl, hcella⟩ := hra hx
    obtain ⟨bb, ob, rfl, hcellb⟩ := hrb hx
    clear hra hrb hx
    obtain ⟨n, hn⟩ : ∃ n, n = xs.length := ⟨_, rfl⟩
    rw [← hn] at hbn hca hcb hcella hcellb hl ⊢
    have HA : Hid (∀ j, j < n → w.cell? ⟨ba, oa + j, none⟩ = some (.int .u8 (xs.getD j 0))) := hcella
    have HB : Hid (∀ j, j < n → w.cell? ⟨bb, ob + j, none⟩ = some (.int .u8 (xs.getD j 0))) := hcellb
    clear hcella hcellb hn
    go_enter Tryz.func10, Tryz.ntmps10
    go_wp2
    go_loopw [5] (fun i wr => ∃ k : Nat, k ≤ n ∧ i = .int .i64 k ∧ Only (fun _ => False) w wr) (fun i _ => n - (intOf i).toNat)
    case atStart => exact ⟨0, Nat.zero_le _, rfl, Only.refl _ _⟩
    case round =>
      obtain ⟨k, hk, rfl, hon⟩ := hrel
      by_cases hlt : k < n
      · obtain ⟨y, hy⟩ : ∃ y, y = xs.getD k 0 := ⟨_, rfl⟩
        have h1 : wr.cell? ⟨ba, oa + k, none⟩ = some (.int .u8 y) := by
          have := HA.out k hlt
          rw [World.cell?_of_block (hon.block ba (World.block_lt_of_cell? w _ this) (fun f => f)), hy]; exact this
        have h2 : wr.cell? ⟨bb, ob + k, none⟩ = some (.int .u8 y) := by
          have := HB.out k hlt
          rw [World.cell?_of_block (hon.block bb (World.block_lt_of_cell? w _ this) (fun f => f)), hy]; exact this
        have i0 : (0 : Int) ≤ (k : Int) := by omega
        have i1 : (k : Int) < (n : Int) := by omega
        have hy1 : (y != y) = false := by simp
        clear hy
        go_wp2
        go_quiet (fail)
        go_wp2
        go_roundw
        case rel => exact ⟨k + 1, by omega, by go_num, hon.drewN nq⟩
        case measure => simp [intOf]; omega
      · go_wp2
        go_ret
        exact ⟨rfl, hon⟩
end Go.Proofs.YtiolgenaefillaaGreat

/- The reference's Same of any two slices of bytes: whether they are the same; nothing is written. -/
namespace Go.Proofs.YtiolgenaefillaaGreat
open Go.RowKit

set_option maxHeartbeats 400000 in
set_option maxRecDepth 100000 in
theorem same_len (va vb : Value) (xs ys : List Int) (w : World) (ha : Bs .u8 w va xs) (hb : Bs .u8 w vb ys) (h : xs.length ≠ ys.length) :
    Calls Tryz.prog 10 #[va, vb] w fun e w' => e = .returned (.bool false) ∧ Only (fun _ => False) w w' := by
  obtain ⟨aoa, ca, rfl⟩ := ha.len
  obtain ⟨aob, cb, rfl⟩ := hb.len
  have hbn : ((xs.length : Int) != (ys.length : Int)) = true := by simp; omega
  clear ha hb h
  generalize xs.length = n at *
  generalize ys.length = m at *
  go_enter Tryz.func10, Tryz.ntmps10
  go_wp2
  go_ret
  exact ⟨rfl, Only.refl _ _⟩

set_option maxHeartbeats 400000 in
set_option maxRecDepth 100000 in
/-- as many, and one differs -/
theorem same_ne (va vb : Value) (xs ys : List Int) (w : World) (ha : Bs .u8 w va xs) (hb : Bs .u8 w vb ys) (hlen : ys.length = xs.length) (hl : xs.length ≤ 140737488355328) (hne : xs ≠ ys) :
    Calls Tryz.prog 10 #[va, vb] w fun e w' => e = .returned (.bool false) ∧ Only (fun _ => False) w w' := by
  obtain ⟨aoa, ca, rfl, hca, hra⟩ := ha
  obtain ⟨aob, cb, rfl, hcb, hrb⟩ := hb
  have hx : xs ≠ [] := by
    intro h0; subst h0
    exact hne (List.eq_nil_of_length_eq_zero hlen).symm
  have hy : ys ≠ [] := by
    intro h0; subst h0
    exact hx (List.eq_nil_of_length_eq_zero hlen.symm)
  obtain ⟨ba, oa, rfl, hcella⟩ := hra hx
  obtain ⟨bb, ob, rfl, hcellb⟩ := hrb hy
  have HD : Hid (¬ ∀ j, j < xs.length → xs.getD j 0 = ys.getD j 0) := by
    intro h
    apply hne
    apply List.ext_getElem hlen.symm
    intro i h1 h2
    have := h i h1
    rw [List.getD_eq_getElem?_getD, List.getD_eq_getElem?_getD, List.getElem?_eq_getElem h1, List.getElem?_eq_getElem h2] at this
    exact this
  rw [hlen] at hcb hcellb ⊢
  have hbn : ((xs.length : Int) != (xs.length : Int)) = false := by simp
  clear hra hrb hx hy hne hlen
  obtain ⟨n, hn⟩ : ∃ n, n = xs.length := ⟨_, rfl⟩
  rw [← hn] at hbn hca hcb hcella hcellb hl HD ⊢
  have HA : Hid (∀ j, j < n → w.cell? ⟨ba, oa + j, none⟩ = some (.int .u8 (xs.getD j 0))) := hcella
  have HB : Hid (∀ j, j < n → w.cell? ⟨bb, ob + j, none⟩ = some (.int .u8 (ys.getD j 0))) := hcellb
  clear hcella hcellb hn
  go_enter Tryz.func10, Tryz.ntmps10
  go_wp2
  go_loopw [5] (fun i wr => ∃ k : Nat, k ≤ n ∧ i = .int .i64 k ∧ Only (fun _ => False) w wr ∧ ∀ j, j < k → xs.getD j 0 = ys.getD j 0) (fun i _ => n - (intOf i).toNat)
  case atStart => exact ⟨0, Nat.zero_le _, rfl, Only.refl _ _, fun j hj => absurd hj (by omega)⟩
  case round =>
    obtain ⟨k, hk, rfl, hon, hall⟩ := hrel
    have HALL := hideIt hall
    clear hall
    by_cases hlt : k < n
    · obtain ⟨y, hy⟩ : ∃ y, y = xs.getD k 0 := ⟨_, rfl⟩
      obtain ⟨z, hz⟩ : ∃ z, z = ys.getD k 0 := ⟨_, rfl⟩
      have h1 : wr.cell? ⟨ba, oa + k, none⟩ = some (.int .u8 y) := by
        have := HA.out k hlt
        rw [World.cell?_of_block (hon.block ba (World.block_lt_of_cell? w _ this) (fun f => f)), hy]; exact this
      have h2 : wr.cell? ⟨bb, ob + k, none⟩ = some (.int .u8 z) := by
        have := HB.out k hlt
        rw [World.cell?_of_block (hon.block bb (World.block_lt_of_cell? w _ this) (fun f => f)), hz]; exact this
      have i0 : (0 : Int) ≤ (k : Int) := by omega
      have i1 : (k : Int) < (n : Int) := by omega
      by_cases hyz : y = z
      · have HE := hideIt (show xs.getD k 0 = ys.getD k 0 by rw [← hy, ← hz]; exact hyz)
        subst hyz
        have hy1 : (y != y) = false := by simp
        clear hy hz
        go_wp2
        go_quiet (fail)
        go_wp2
        go_roundw
        case rel => exact ⟨k + 1, by omega, by go_num, hon.drewN nq, fun j hj => by
          rcases Nat.lt_or_ge j k with h | h
          · exact HALL.out j h
          · rw [show j = k by omega]; exact HE.out⟩
        case measure => simp [intOf]; omega
      · have hy1 : (y != z) = true := by simpa using hyz
        clear hy hz hyz
        go_wp2
        go_quiet (fail)
        go_wp2
        go_ret
        exact ⟨rfl, hon.drewN nq⟩
    · exact absurd (fun j hj => HALL.out j (by omega)) HD.out

theorem same_any (va vb : Value) (xs ys : List Int) (w : World) (ha : Bs .u8 w va xs) (hb : Bs .u8 w vb ys) (hl : xs.length ≤ 140737488355328) :
    Calls Tryz.prog 10 #[va, vb] w fun e w' => e = .returned (.bool (decide (xs = ys))) ∧ Only (fun _ => False) w w' := by
  by_cases h : xs = ys
  · subst h
    rw [decide_eq_true rfl]
    exact same_eq va vb xs w ha hb hl
  · rw [decide_eq_false h]
    by_cases hlen : ys.length = xs.length
    · exact same_ne va vb xs ys w ha hb hlen hl h
    · exact same_len va vb xs ys w ha hb (fun e => hlen e.symm)
end Go.Proofs.YtiolgenaefillaaGreat

/- Contract of the reference's Same: equal bytes are the same, and nothing is written. -/
namespace Go.Proofs.YtiolgenaefillaaGreat
open Go.RowKit

set_option maxHeartbeats 400000 in
set_option maxRecDepth 100000 in
/-- EQUAL BYTES ARE THE SAME: nothing is written. -/
theorem bsame_q (va vb : Value) (xs : List Int) (w : World) (ha : Bs .u8 w va xs) (hb : Bs .u8 w vb xs) (hl : xs.length ≤ 140737488355328) :
    Calls Tryz.prog 10 #[va, vb] w fun e w' => e = .returned (.bool true) ∧ ∃ m, w' = w.drewN m := by
  obtain ⟨aoa, ca, rfl, hca, hra⟩ := ha
  obtain ⟨aob, cb, rfl, hcb, hrb⟩ := hb
  have hbn : ((xs.length : Int) != (xs.length : Int)) = false := by simp
  by_cases hx : xs = []
  · subst hx
    clear hra hrb
    simp only [List.length_nil]
    go_enter Tryz.func10, Tryz.ntmps10
    go_wp2
    go_loop [5] (fun i => i = .int .i64 0) (fun _ => 0)
    case atStart => rfl
    case round =>
      subst hrel
      go_wp2
      go_ret
      exact ⟨rfl, 0, rfl⟩
  · obtain ⟨ba, oa, rfl, hcella⟩ := hra hx
    obtain ⟨bb, ob, rfl, hcellb⟩ := hrb hx
    clear hra hrb hx
    obtain ⟨n, hn⟩ : ∃ n, n = xs.length := ⟨_, rfl⟩
    rw [← hn] at hbn hca hcb hcella hcellb hl ⊢
    have HA : Hid (∀ j, j < n → w.cell? ⟨ba, oa + j, none⟩ = some (.int .u8 (xs.getD j 0))) := hcella
    have HB : Hid (∀ j, j < n → w.cell? ⟨bb, ob + j, none⟩ = some (.int .u8 (xs.getD j 0))) := hcellb
    clear hcella hcellb hn
    go_enter Tryz.func10, Tryz.ntmps10
    go_wp2
    go_loopw [5] (fun i wr => ∃ k : Nat, k ≤ n ∧ i = .int .i64 k ∧ ∃ m, wr = w.drewN m) (fun i _ => n - (intOf i).toNat)
    case atStart => exact ⟨0, Nat.zero_le _, rfl, 0, rfl⟩
    case round =>
      obtain ⟨k, hk, rfl, md, hmd⟩ := hrel
      have hon : Only (fun _ => False) w wr := by rw [hmd]; exact (Only.refl _ _).drewN md
      have HMD := hideIt hmd
      clear hmd
      by_cases hlt : k < n
      · obtain ⟨y, hy⟩ : ∃ y, y = xs.getD k 0 := ⟨_, rfl⟩
        have h1 : wr.cell? ⟨ba, oa + k, none⟩ = some (.int .u8 y) := by
          have := HA.out k hlt
          rw [World.cell?_of_block (hon.block ba (World.block_lt_of_cell? w _ this) (fun f => f)), hy]; exact this
        have h2 : wr.cell? ⟨bb, ob + k, none⟩ = some (.int .u8 y) := by
          have := HB.out k hlt
          rw [World.cell?_of_block (hon.block bb (World.block_lt_of_cell? w _ this) (fun f => f)), hy]; exact this
        have i0 : (0 : Int) ≤ (k : Int) := by omega
        have i1 : (k : Int) < (n : Int) := by omega
        have hy1 : (y != y) = false := by simp
        clear hy
        go_wp2
        go_quiet (fail)
        go_wp2
        go_roundw
        case rel => exact ⟨k + 1, by omega, by go_num, md + nq, by rw [HMD.out, World.drewN_drewN]⟩
        case measure => simp [intOf]; omega
      · go_wp2
        go_ret
        exact ⟨rfl, md, HMD.out⟩
theorem bsame_eq (va vb : Value) (xs : List Int) (w : World) (ha : Bs .u8 w va xs) (hb : Bs .u8 w vb xs) (hl : xs.length ≤ 140737488355328) :
    Calls Tryz.prog 10 #[va, vb] w fun e w' => e = .returned (.bool true) ∧ Only (fun _ => False) w w' := by
  refine (bsame_q va vb xs w ha hb hl).mono ?_
  rintro e w' ⟨rfl, m, rfl⟩
  exact ⟨rfl, (Only.refl _ _).drewN m⟩

end Go.Proofs.YtiolgenaefillaaGreat

/- slices.Concat of so many slices of bytes. -/
namespace Go.Proofs.YtiolgenaefillaaGreat
open Go.RowKit

def cat (ls : Nat → List Int) (k : Nat) : List Int := (List.range k).flatMap ls
theorem cat_zero (ls : Nat → List Int) : cat ls 0 = [] := rfl
theorem cat_succ (ls : Nat → List Int) (k : Nat) : cat ls (k + 1) = cat ls k ++ ls k := by simp [cat, List.range_succ]
theorem cat_mono (ls : Nat → List Int) {k m : Nat} (h : k ≤ m) : (cat ls k).length ≤ (cat ls m).length := by
  induction m with
  | zero => rw [Nat.le_zero.1 h]; exact Nat.le_refl _
  | succ m ih =>
    rcases Nat.lt_or_ge k (m + 1) with h' | h'
    · have := ih (by omega); rw [cat_succ, List.length_append]; omega
    · rw [show k = m + 1 by omega]; exact Nat.le_refl _

set_option maxHeartbeats 1600000 in
set_option maxRecDepth 100000 in
/-- SO MANY SLICES OF BYTES, one behind the other: new memory. -/
theorem concat_n (B m : Nat) (vs : Nat → Value) (ls : Nat → List Int) (w : World) (hm : m ≤ 1000) (hm0 : 0 < m) (hc : ∀ i, i < m → w.cell? ⟨B, i, none⟩ = some (vs i)) (hb : ∀ i, i < m → Bs .u8 w (vs i) (ls i)) (nc : ∀ i, i < m → NoCap (vs i))
    (hp : 0 < (cat ls m).length) (hl : (cat ls m).length ≤ 140737488355328) :
    Calls Tryz.prog 22 #[.slice (some ⟨B, 0, none⟩) m m] w fun e w' => ∃ v', e = .returned v' ∧ w'.ownsRow w.heap.size 5 1 v' (cat ls m).length ((cat ls m).map (Value.int .u8)) ∧ Only (fun _ => False) w w' := by
  obtain ⟨i0, hi, hz0, hz1, hz2⟩ := info_parts Tryz.infoU8
  have HC := hideIt hc
  have HB := hideIt hb
  have NC := hideIt nc
  have HP := hideIt hp
  have HL := hideIt hl
  have hBw : B < w.heap.size := World.block_lt_of_cell? w _ (hc 0 hm0)
  clear hc hb nc hp hl
  go_enter Tryz.func22, Tryz.ntmps22
  go_wp2
  go_loop [3, 11] (fun s i => ∃ k : Nat, k ≤ m ∧ i = .int .i64 k ∧ s = .int .i64 (cat ls k).length) (fun _ i => m - (intOf i).toNat)
  case atStart => exact ⟨0, Nat.zero_le _, rfl, rfl⟩
  case round =>
    obtain ⟨k, hk, rfl, rfl⟩ := hrel
    by_cases hlt : k < m
    · obtain ⟨ao, cap, e1⟩ := (HB.out k hlt).len
      have c0 := HC.out k hlt
      rw [e1] at c0
      have hnext : Hid ((cat ls (k + 1)).length = (cat ls k).length + (ls k).length) := by simp only [Hid]; rw [cat_succ, List.length_append]
      have hle := cat_mono ls (show k + 1 ≤ m by omega)
      rw [hnext.out] at hle
      have HX := HL.out
      obtain ⟨s, hs⟩ : ∃ s, s = (cat ls k).length := ⟨_, rfl⟩
      obtain ⟨n, hn⟩ : ∃ n, n = (ls k).length := ⟨_, rfl⟩
      rw [← hs, ← hn] at hle hnext
      rw [← hn] at c0
      rw [← hs]
      have hb2 : s + n ≤ 140737488355328 := by omega
      have dlt : decide ((k : Int) < (m : Int)) = true := by simp; omega
      have d0 : decide ((s : Int) + n < 0) = false := by simp; omega
      clear e1 hs hn hle HX
      go_wp2
      go_round
      case rel => exact ⟨k + 1, by omega, by simp, by rw [hnext.out]; simp⟩
      case measure => simp [intOf]; omega
    · obtain rfl : k = m := by omega
      have dlt : decide ((k : Int) < (k : Int)) = false := by simp
      obtain ⟨s, hs⟩ : ∃ s, s = (cat ls k).length := ⟨_, rfl⟩
      have HS := hideIt hs
      rw [← hs]
      have hs0 : 0 < s := by rw [hs]; exact HP.out
      have hs1 : s ≤ 140737488355328 := by rw [hs]; exact HL.out
      have GN := hideIt (grow_nil s w hs0 hs1)
      clear hs
      go_wp2_with fail
      refine GN.out.mono ?_
      rintro e w2 ⟨G, rfl, hown, hon⟩
      have hbel : Below w.heap.size w w2 := hon.low (Nat.le_refl _)
      clear GN hon
      go_wp2
      go_loopw [6, 27] (fun o i wr => Below w.heap.size w wr ∧ ∃ j : Nat, j ≤ k ∧ i = .int .i64 j ∧ wr.ownsRow w.heap.size 5 1 o (cat ls j).length ((cat ls j).map (Value.int .u8))) (fun _ i _ => k - (intOf i).toNat)
      case atStart => exact ⟨hbel, 0, Nat.zero_le _, rfl, hown⟩
      case round =>
        obtain ⟨hbw, j, hj, rfl, hown1⟩ := hrel
        clear hbel hown
        have hsz := hbw.size
        by_cases hlt : j < k
        · obtain ⟨ao, cap, e1⟩ := (HB.out j hlt).len
          have c0 := (hbw.cell (p := ⟨B, j, none⟩) hBw).trans (HC.out j hlt)
          have HBJ := hideIt ((HB.out j hlt).later hbw)
          have NCJ := hideIt (NC.out j hlt)
          rw [e1] at c0 HBJ NCJ
          have hnext : Hid (cat ls (j + 1) = cat ls j ++ ls j) := cat_succ ls j
          have hle := cat_mono ls (show j + 1 ≤ k by omega)
          rw [hnext.out, List.length_append] at hle
          have HX := HL.out
          obtain ⟨n, hn⟩ : ∃ n, n = (ls j).length := ⟨_, rfl⟩
          rw [← hn] at c0 HBJ NCJ
          have dlt2 : decide ((j : Int) < (k : Int)) = true := by simp; omega
          clear e1 hn
          have hle2 := hideIt hle
          clear hle HX
          go_wp2_with (at_builtin; refine wpList_append_bs _ rfl _ _ _ rfl w.heap.size 5 i0 (.int .u8 0) 1 Tryz.underlying23 hi hz0 hz1 hz2 rfl _ _ _ rfl hown1 .u8 _ (ls j) rfl HBJ.out NCJ.out ?c3 ?c4 hsz ?_)
          case c3 => have := hle2.out; have := HL.out; unfold maxLen; omega
          case c4 => have := hle2.out; have := HL.out; omega
          intro v' w3 hown2 hgrow _ _
          have hb3 : Below w.heap.size w w3 := hbw.grown hgrow hsz (fun q hq => (hown1.lt q hq).1)
          rw [← List.map_append, ← List.length_append, ← hnext.out] at hown2
          clear hown1 hgrow
          go_wp2
          go_roundw
          case rel => exact ⟨hb3, j + 1, by omega, by simp, hown2⟩
          case measure => simp [intOf]; omega
        · obtain rfl : j = k := by omega
          have dlt2 : decide ((j : Int) < (j : Int)) = false := by simp
          go_wp2
          go_ret
          exact ⟨_, rfl, hown1, only_of_below hbw⟩
end Go.Proofs.YtiolgenaefillaaGreat

/- A range over a function that may be left by a return. -/
namespace Go.Proofs.YtiolgenaefillaaGreat
open Go.RowKit Go.Shelf

/-- how a round's body is left: off its end, or by a return -/
def goesOrReturns {σ : Type} (B : Nat) (I Ix : σ → World → Prop) (s : σ) (W : World) : Exit → Act → World → Prop
  | .normal, _, W' => Only (fun k => k < B) W W' ∧ I s W'
  | .ret, _, W' => Only (fun k => k < B) W W' ∧ Ix s W'
  | _, _, _ => False

theorem range_ret {σ α : Type} {P : Program} {n : Nat} {g : Operand} {ps : Array Tmp} {assign body : Code} {Q : Exit → Act → World → Prop} {a : Act} {w : World}
    {gf : Nat} {lb : Array Value} (hg : a.eval g = .func (.func gf) #[] lb) (eg : ∀ args w, (callFunc gf args).run P w = .ok (.enter gf args) w)
    (encs : α → Array Value) (hps : ∀ x, (encs x).size = ps.size) (I Ix : σ → World → Prop) (V : σ → α → σ → World → Prop) (s0 s1 : σ)
    (hI : ∀ s A B r, I s A → A.heap[w.heap.size + 1]? = some (.loop r) → Only (fun k => k = w.heap.size + 1) A B → I s B)
    (hIx : ∀ s A B r, Ix s A → A.heap[w.heap.size + 1]? = some (.loop r) → Only (fun k => k = w.heap.size + 1) A B → Ix s B)
    (hIn : ∀ s A B, I s A → Only (fun _ => False) A B → I s B)
    (hV : ∀ s x s' A B r, V s x s' A → A.heap[w.heap.size + 1]? = some (.loop r) → Only (fun k => k = w.heap.size + 1) A B → V s x s' B)
    (h0 : I s0 w)
    (hit : ∀ (J Jx : σ → World → Prop) (W : World), (∀ s A, J s A → I s A) → (∀ s A B, J s A → Only (fun _ => False) A B → J s B) →
      (∀ s x s' A, J s A → V s x s' A → YieldAt Fence.wide (n - 1 - 1) P (w.heap.size + 1) (encs x) A fun e B =>
        (e = .returned (.bool true) ∧ J s' B ∧ Only (fun k => k < w.heap.size ∨ k = w.heap.size + 1) A B) ∨ (e = .returned (.bool false) ∧ Jx s' B)) → J s0 W → w.heap.size + 2 ≤ W.heap.size →
      CallsIn Fence.wide (n - 1) P gf (#[.func (.yield (w.heap.size + 1)) #[] #[]] ++ lb) W fun e B => (∃ v, e = .returned v) ∧ (J s1 B ∨ ∃ s, Jx s B))
    (a₁ : α → Act)
    (hassign : ∀ (x : α) (W : World) (K : Act → World → Prop), K (a₁ x) W →
      assign.wpIn (Fence.wide.inRound (w.heap.size + 1)) (n - 1 - 1) P (Exit.then K (fun _ _ _ => False)) { tmps := (ps.zip (encs x)).foldl (fun t (p, v) => t.setIfInBounds p v) a.tmps, defers := [] } W)
    (hbody : ∀ (s : σ) (x : α) (s' : σ) (W : World), I s W → V s x s' W → body.wpIn (Fence.wide.inRound (w.heap.size + 1)) (n - 1 - 1) P (goesOrReturns w.heap.size I Ix s' W) (a₁ x) W)
    (hdone : ∀ (W : World), I s1 W → W.heap[w.heap.size]? = some (.deferred (some [])) → Q .normal { a with defers := { target := .collected w.heap.size, args := #[] } :: a.defers } W)
    (hstop : ∀ (s : σ) (W : World), Ix s W → W.heap[w.heap.size]? = some (.deferred (some [])) → Code.ret.wpIn Fence.wide n P Q { a with defers := { target := .collected w.heap.size, args := #[] } :: a.defers } W) :
    (Code.rangeFunc g ps assign body).wpIn Fence.wide n P Q a w := by
  refine wpIn_rangeFunc fun fn hfn => ?_
  obtain ⟨rc, hrc⟩ : ∃ rc : LoopState → Option Code → Loop, rc = fun st pe => { state := st, pending := pe, fn, tmps := a.tmps, params := ps, assign, body, defers := w.heap.size } := ⟨_, rfl⟩
  obtain ⟨W1, hW1⟩ : ∃ W1, (w.alloc (.deferred (some []))).alloc (.loop (rc .ready none)) = W1 := ⟨_, rfl⟩
  have hL : W1.heap[w.heap.size + 1]? = some (.loop (rc .ready none)) := by
    have := World.alloc_heap_new (w.alloc (.deferred (some []))) (.loop (rc .ready none))
    rw [World.size_alloc, hW1] at this
    exact this
  have hD : W1.heap[w.heap.size]? = some (.deferred (some [])) := by
    rw [← hW1]
    exact (Below.heap_alloc _ _ _ (by simp)).trans (World.alloc_heap_new w _)
  have hO : Only (fun _ => False) w W1 := by
    rw [← hW1]
    exact ((Only.refl _ w).alloc _).alloc _
  have hS1 : w.heap.size + 2 ≤ W1.heap.size := by rw [← hW1]; simp
  refine ⟨w.heap.size + 1, [{ target := .collected w.heap.size, args := #[] }], W1, { target := .fn (.func gf) lb, args := #[.func (.yield (w.heap.size + 1)) #[] #[]] }, W1, gf, #[.func (.yield (w.heap.size + 1)) #[] #[]] ++ lb, W1, ?_, ?_, fun _ _ => trivial, ?_, (fun h => by cases h), ?_⟩
  · rw [← hW1, hrc]
    exact run_enterLoop_outer _ _ _ _ _
  · simp only [resolve, hg]
    simp [go_sem]
  · simp [invoke, go_sem, eg]
  refine (hit (fun s W => I s W ∧ W.heap[w.heap.size + 1]? = some (.loop (rc .ready none)) ∧ W.heap[w.heap.size]? = some (.deferred (some [])))
    (fun s W => Ix s W ∧ W.heap[w.heap.size + 1]? = some (.loop (rc .done (some .ret))) ∧ W.heap[w.heap.size]? = some (.deferred (some []))) W1 (fun _ _ h => h.1)
    (fun s A B h o => ⟨hIn s A B h.1 o, o.heap h.2.1 (fun f => f), o.heap h.2.2 (fun f => f)⟩) ?_ ⟨hIn _ _ _ h0 hO, hL, hD⟩ hS1).mono ?_
  · rintro s x s' A ⟨hi, hl, hd⟩ hv
    have hlt : w.heap.size + 1 < A.heap.size := (Array.getElem?_eq_some_iff.1 hl).1
    have hy := run_yield (P := P) (args := encs x) hl (by rw [hrc]; exact hps x)
    rw [hrc] at hy
    refine ⟨fn, _, assign, body, hy, roundIn_of_wpIn hfn (hassign x A _ ⟨_, run_beginRound hl (by rw [hrc]), ?_⟩)⟩
    obtain ⟨A2, hA2⟩ : ∃ A2, A.putObj (w.heap.size + 1) (.loop { rc .ready none with state := .busy }) = A2 := ⟨_, rfl⟩
    have o2 : Only (fun k => k = w.heap.size + 1) A A2 := by rw [← hA2]; exact (Only.refl _ A).putObj _ _ (fun _ => rfl)
    have l2 : A2.heap[w.heap.size + 1]? = some (.loop { rc .ready none with state := .busy }) := by rw [← hA2]; exact World.putObj_heap_same hlt
    have d2 : A2.heap[w.heap.size]? = some (.deferred (some [])) := o2.heap hd (by omega)
    rw [hA2]
    refine wpIn_mono (hbody s x s' A2 (hI s A A2 _ hi hl o2) (hV s x s' A A2 _ hv hl o2)) ?_
    intro ex a3 A3 h
    cases ex
    case normal =>
      obtain ⟨o3, i3⟩ := h
      have l3 := o3.heap l2 (by omega)
      have d3 := o3.heap d2 (by omega)
      have hr := run_endRound (P := P) none l3
      have h4 : A3.putObj (w.heap.size + 1) (.loop (rc .ready none)) = A3.putObj (w.heap.size + 1) (.loop { rc .ready none with state := if (none : Option Code).isNone then .ready else .done, pending := none }) := by rw [hrc]; rfl
      have o4 : Only (fun k => k = w.heap.size + 1) A3 (A3.putObj (w.heap.size + 1) (.loop (rc .ready none))) := (Only.refl _ A3).putObj _ _ (fun _ => rfl)
      refine ⟨_, _, hr, .inl ⟨rfl, ?_⟩⟩
      have h5 : (I s' (A3.putObj (w.heap.size + 1) (.loop (rc .ready none))) ∧ (A3.putObj (w.heap.size + 1) (.loop (rc .ready none))).heap[w.heap.size + 1]? = some (.loop (rc .ready none)) ∧ (A3.putObj (w.heap.size + 1) (.loop (rc .ready none))).heap[w.heap.size]? = some (.deferred (some []))) ∧
          Only (fun k => k < w.heap.size ∨ k = w.heap.size + 1) A (A3.putObj (w.heap.size + 1) (.loop (rc .ready none))) :=
        ⟨⟨hI s' A3 _ _ i3 l3 o4, World.putObj_heap_same (Array.getElem?_eq_some_iff.1 l3).1, o4.heap d3 (by omega)⟩,
          ((o2.mono (T := fun k => k < w.heap.size ∨ k = w.heap.size + 1) (fun _ _ e => .inr e)).trans o3 (fun _ _ e => .inl e)).trans o4 (fun _ _ e => .inr e)⟩
      rw [h4] at h5
      exact h5
    case ret =>
      obtain ⟨o3, i3⟩ := h
      have l3 := o3.heap l2 (by omega)
      have d3 := o3.heap d2 (by omega)
      have hr := run_endRound (P := P) (some .ret) l3
      have h4 : A3.putObj (w.heap.size + 1) (.loop (rc .done (some .ret))) = A3.putObj (w.heap.size + 1) (.loop { rc .ready none with state := if (some Code.ret : Option Code).isNone then .ready else .done, pending := some .ret }) := by rw [hrc]; rfl
      have o4 : Only (fun k => k = w.heap.size + 1) A3 (A3.putObj (w.heap.size + 1) (.loop (rc .done (some .ret)))) := (Only.refl _ A3).putObj _ _ (fun _ => rfl)
      refine ⟨_, _, hr, .inr ⟨rfl, ?_⟩⟩
      have h5 : Ix s' (A3.putObj (w.heap.size + 1) (.loop (rc .done (some .ret)))) ∧ (A3.putObj (w.heap.size + 1) (.loop (rc .done (some .ret)))).heap[w.heap.size + 1]? = some (.loop (rc .done (some .ret))) ∧ (A3.putObj (w.heap.size + 1) (.loop (rc .done (some .ret)))).heap[w.heap.size]? = some (.deferred (some [])) :=
        ⟨hIx s' A3 _ _ i3 l3 o4, World.putObj_heap_same (Array.getElem?_eq_some_iff.1 l3).1, o4.heap d3 (by omega)⟩
      rw [h4] at h5
      exact h5
    all_goals exact h.elim
  · rintro e A ⟨⟨v, rfl⟩, ⟨hi, hl, hd⟩ | ⟨s, hi, hl, hd⟩⟩
    · have hr := run_endLoop (P := P) hl (by rw [hrc]; simp)
      have hp : (rc .ready none).pending = none := by rw [hrc]
      refine ⟨none, _, by rw [hr, hp], hdone _ (hI _ _ _ _ hi hl ((Only.refl _ A).putObj _ _ (fun _ => rfl))) ?_⟩
      exact (World.putObj_heap_other (by omega)).trans hd
    · have hr := run_endLoop (P := P) hl (by rw [hrc]; simp)
      have hp : (rc .done (some .ret)).pending = some .ret := by rw [hrc]
      refine ⟨some .ret, _, by rw [hr, hp], hstop s _ (hIx _ _ _ _ hi hl ((Only.refl _ A).putObj _ _ (fun _ => rfl))) ?_⟩
      exact (World.putObj_heap_other (by omega)).trans hd
end Go.Proofs.YtiolgenaefillaaGreat

/- Bytes in buckets: plain facts, ahead of package pad. -/
namespace Go.Proofs.YtiolgenaefillaaGreat
open Go.RowKit

/-- the size of a bucket -/
def PSZ (k : Nat) : Nat := 64 * 4 ^ k
/-- the bucket of so many bytes, up to 4194300 -/
def PBK (n : Nat) : Nat := if n ≤ 60 then 0 else if n ≤ 252 then 1 else if n ≤ 1020 then 2 else if n ≤ 4092 then 3 else if n ≤ 16380 then 4 else if n ≤ 65532 then 5 else if n ≤ 262140 then 6 else if n ≤ 1048572 then 7 else 8
theorem PBK_le (n : Nat) : PBK n ≤ 8 := by unfold PBK; (repeat' split) <;> omega
/-- how long n bytes are in their bucket -/
def PLN (n : Nat) : Nat := PSZ (PBK n)
theorem PLN_eq (n : Nat) : PLN n = if n ≤ 60 then 64 else if n ≤ 252 then 256 else if n ≤ 1020 then 1024 else if n ≤ 4092 then 4096 else if n ≤ 16380 then 16384 else if n ≤ 65532 then 65536 else if n ≤ 262140 then 262144 else if n ≤ 1048572 then 1048576 else 4194304 := by
  unfold PLN PBK; repeat' split
  all_goals rfl
theorem PLN_ge (n : Nat) (h : n ≤ 4194300) : n + 4 ≤ PLN n := by rw [PLN_eq]; (repeat' split) <;> omega
theorem PLN_le (n : Nat) : PLN n ≤ 4194304 := by rw [PLN_eq]; (repeat' split) <;> omega
theorem PLN_64 (n : Nat) : PLN n % 64 = 0 := by rw [PLN_eq]; (repeat' split) <;> omega
theorem PLN_pos (n : Nat) : 64 ≤ PLN n := by rw [PLN_eq]; (repeat' split) <;> omega
theorem PBK_cases (n : Nat) : (n ≤ 60 ∧ PBK n = 0) ∨ (60 < n ∧ n ≤ 252 ∧ PBK n = 1) ∨ (252 < n ∧ n ≤ 1020 ∧ PBK n = 2) ∨ (1020 < n ∧ n ≤ 4092 ∧ PBK n = 3) ∨ (4092 < n ∧ n ≤ 16380 ∧ PBK n = 4) ∨ (16380 < n ∧ n ≤ 65532 ∧ PBK n = 5) ∨ (65532 < n ∧ n ≤ 262140 ∧ PBK n = 6) ∨ (262140 < n ∧ n ≤ 1048572 ∧ PBK n = 7) ∨ (1048572 < n ∧ PBK n = 8) := by
  unfold PBK; (repeat' split) <;> omega
/-- the bucket below does not hold them -/
theorem PBK_least (n : Nat) (h : PBK n ≠ 0) : PSZ (PBK n - 1) < n + 4 := by
  rcases PBK_cases n with ⟨_, e⟩ | ⟨g, _, e⟩ | ⟨g, _, e⟩ | ⟨g, _, e⟩ | ⟨g, _, e⟩ | ⟨g, _, e⟩ | ⟨g, _, e⟩ | ⟨g, _, e⟩ | ⟨g, e⟩
  · exact absurd e h
  all_goals
    rw [e]
    simp only [PSZ, Nat.reduceSub, Nat.reducePow, Nat.reduceMul]
    omega
theorem PBK_mono {n m : Nat} (h : n ≤ m) : PBK n ≤ PBK m := by
  have h1 := PBK_cases n
  have h2 := PBK_cases m
  omega
theorem PSZ_inj {j k : Nat} (h : PSZ j = PSZ k) : j = k := by
  unfold PSZ at h
  exact (Nat.pow_right_inj (a := 4) (by decide)).1 (Nat.eq_of_mul_eq_mul_left (by decide) h)
/-- bytes in their bucket -/
def PADL (b : List Int) : List Int := fixL (b.length : Int) 4 ++ b ++ List.replicate (PLN b.length - 4 - b.length) 0
theorem PADL_len (b : List Int) (h : b.length ≤ 4194300) : (PADL b).length = PLN b.length := by
  have := PLN_ge b.length h
  simp only [PADL, List.length_append, fixL_len, List.length_replicate]
  omega
theorem PADL_u8 {b : List Int} (h : U8 b) : U8 (PADL b) := by
  unfold PADL
  refine U8.app (U8.app (fixL_range _ _) h) ?_
  intro y hy
  have := List.eq_of_mem_replicate hy
  omega
/-- how many bytes a bucket says that it holds -/
def PNM (b : List Int) : Nat := num (b.take 4)
/-- the bytes that a bucket would hold -/
def PUN (b : List Int) : List Int := (b.drop 4).take (PNM b)
/-- does it hold any? -/
abbrev POK (b : List Int) : Prop := (PUN b).length ≤ 4194300 ∧ PADL (PUN b) = b
theorem PADL_num (d : List Int) (h : d.length ≤ 4194300) : PNM (PADL d) = d.length := by
  unfold PNM PADL
  rw [List.append_assoc, List.take_append_of_le_length (by rw [fixL_len]; exact Nat.le_refl _), List.take_of_length_le (by rw [fixL_len]; exact Nat.le_refl _), num_fix4 _ (by omega)]
theorem PADL_un (d : List Int) (h : d.length ≤ 4194300) : PUN (PADL d) = d := by
  unfold PUN
  rw [PADL_num d h]
  unfold PADL
  rw [List.append_assoc, List.drop_append_of_le_length (by rw [fixL_len]; exact Nat.le_refl _), List.drop_of_length_le (by rw [fixL_len]; exact Nat.le_refl _), List.nil_append, List.take_left]
theorem POK_pad (d : List Int) (h : d.length ≤ 4194300) : POK (PADL d) := by
  refine ⟨?_, ?_⟩
  · rw [PADL_un d h]; exact h
  · rw [PADL_un d h]
theorem PADL_inj {a b : List Int} (ha : a.length ≤ 4194300) (hb : b.length ≤ 4194300) (h : PADL a = PADL b) : a = b := by
  rw [← PADL_un a ha, ← PADL_un b hb, h]
theorem POK_len {b : List Int} (h : POK b) : b.length % 64 = 0 ∧ 64 ≤ b.length := by
  have := PADL_len _ h.1
  rw [h.2] at this
  rw [this]
  exact ⟨PLN_64 _, PLN_pos _⟩
/-- the answers -/
def PDt (b : List Int) : List Int := if b.length ≤ 4194300 then PADL b else []
def PDe (b : List Int) : Int := if b.length ≤ 4194300 then 0 else 4
def PUt (b : List Int) : List Int := if POK b then PUN b else []
def PUe (b : List Int) : Int := if POK b then 0 else 3
theorem PUN_u8 {b : List Int} (h : U8 b) : U8 (PUN b) := (h.drop _).take _
/-- a byte more, a byte less: none -/
theorem POK_more (d : List Int) (h : d.length ≤ 4194300) (x : Int) : ¬ POK (PADL d ++ [x]) := fun k => by
  have h1 := (POK_len k).1
  have h2 := PLN_64 d.length
  rw [List.length_append, PADL_len d h] at h1
  simp only [List.length_cons, List.length_nil] at h1
  omega
theorem POK_less (d : List Int) (h : d.length ≤ 4194300) : ¬ POK ((PADL d).take ((PADL d).length - 1)) := fun k => by
  have h1 := (POK_len k).1
  have h2 := PLN_64 d.length
  have h3 := PLN_pos d.length
  rw [List.length_take, PADL_len d h] at h1
  omega
/-- turned it is other bytes, or none -/
theorem PUN_other {d p : List Int} (hne : p ≠ PADL d) (hk : POK p) : PUN p ≠ d := fun e => hne (by rw [← hk.2, e])
end Go.Proofs.YtiolgenaefillaaGreat

/- Package pad: the sizes, gone through by an iterator; Size and Bucket. -/
namespace Go.Proofs.YtiolgenaefillaaGreat
open Go.RowKit Go.Shelf
attribute [local go_sem] Oper.semAt_some

theorem PSZ_succ (t : Nat) : PSZ (t + 1) = PSZ t * 4 := by unfold PSZ; rw [Nat.pow_succ]; omega
theorem PSZ_cases {t : Nat} (h : t ≤ 9) : (t < 9 ∧ PSZ t ≤ 4194304 ∧ 64 ≤ PSZ t) ∨ (t = 9 ∧ PSZ t = 16777216) := by
  rcases (show t = 0 ∨ t = 1 ∨ t = 2 ∨ t = 3 ∨ t = 4 ∨ t = 5 ∨ t = 6 ∨ t = 7 ∨ t = 8 ∨ t = 9 by omega) with rfl | rfl | rfl | rfl | rfl | rfl | rfl | rfl | rfl | rfl <;> decide
set_option maxHeartbeats 400000 in
theorem sizes_in (n : Nat) (w : World) : CallsIn Fence.wide n Tryz.prog 97 #[] w fun e w' => e = .returned (.func (.func 109) #[] #[]) ∧ w' = w := by
  refine callsIn_of_wp Tryz.func97 rfl trivial ?_ rfl
  simp only [Tryz.ntmps97, List.size_toArray, List.length_nil, Nat.reduceSub, Array.replicate_succ, Array.replicate_zero, List.push_toArray, List.append_toArray, List.nil_append]
  gi_wp2
  go_ret
  exact ⟨rfl, rfl⟩

set_option maxRecDepth 100000 in
set_option maxHeartbeats 1000000 in
/-- THE ITERATOR: each bucket and its size. -/
theorem sizes1_in (n L : Nat) (J Jx : Nat → World → Prop)
    (hY : ∀ (s : Nat) A, s < 9 → J s A → YieldAt Fence.wide (n - 1) Tryz.prog L #[.int .i64 (s : Int), .int .i64 (PSZ s : Int)] A fun e B =>
      (e = .returned (.bool true) ∧ J (s + 1) B) ∨ (e = .returned (.bool false) ∧ Jx (s + 1) B))
    (W : World) (h0 : J 0 W) :
    CallsIn Fence.wide n Tryz.prog 109 #[.func (.yield L) #[] #[]] W fun e B => (∃ v, e = .returned v) ∧ (J 9 B ∨ ∃ s, Jx s B) := by
  have HY := hideIt hY
  have H0 := hideIt h0
  clear hY h0
  refine callsIn_of_wp Tryz.func109 rfl trivial ?_ rfl
  simp only [Tryz.ntmps109, List.size_toArray, List.length_cons, List.length_nil, Nat.reduceAdd, Nat.reduceSub, Array.replicate_succ, Array.replicate_zero, List.push_toArray, List.append_toArray, List.nil_append, List.cons_append]
  gi_wp2
  gi_loopw [2, 3] (fun k z wr => ∃ t q : Nat, t ≤ 9 ∧ k = .int .i64 t ∧ z = .int .i64 q ∧ Hid (q = PSZ t) ∧ Hid (J t wr)) (fun k _ _ => 9 - (intOf k).toNat)
  case atStart => exact ⟨0, 64, by omega, rfl, rfl, rfl, H0⟩
  case round =>
    obtain ⟨t, q, ht, rfl, rfl, HQ, HT⟩ := hrel
    rcases PSZ_cases ht with ⟨hlt, hle, hge⟩ | ⟨heq, hgr⟩
    · rw [← HQ.out] at hle hge
      have dle : decide ((q : Int) ≤ 4194304) = true := decide_eq_true (by omega)
      obtain ⟨fn, tmps, assign, body, hy, hR⟩ := HY.out t wr hlt HT.out
      rw [← HQ.out] at hy
      have HR := hideIt hR
      clear hR HT
      gi_wp2_with fail
      refine ⟨(fun h => by cases h), HR.out.mono ?_⟩
      rintro e w3 (⟨rfl, hJ3⟩ | ⟨rfl, hJ3⟩)
      · have H3 := hideIt hJ3
        clear HR hJ3
        gi_wp2
        go_roundw
        case rel => exact ⟨t + 1, q * 4, by omega, by go_num, by go_num, by show _ = _; rw [HQ.out, PSZ_succ], H3⟩
        case measure => simp [intOf]; omega
      · have H3 := hideIt hJ3
        clear HR hJ3
        gi_wp2
        refine bodyPost_ret (results_none rfl _ _ _) rfl ?_
        exact ⟨⟨_, rfl⟩, .inr ⟨_, H3.out⟩⟩
    · rw [← HQ.out] at hgr
      have dle : decide ((q : Int) ≤ 4194304) = false := decide_eq_false (by omega)
      subst heq
      gi_wp2
      go_end0
      exact ⟨⟨_, rfl⟩, .inl HT.out⟩
end Go.Proofs.YtiolgenaefillaaGreat

/- Package pad: Size and Bucket. -/
namespace Go.Proofs.YtiolgenaefillaaGreat
open Go.RowKit Go.Shelf
attribute [local go_sem] Oper.semAt_some

theorem results_b1 {P : Program} {fn : Func} {p : Tmp} {ty : TypeId} (h : fn.results = #[.cell p ty]) (tmps : Array Value) (w : World) {a : Addr} {v : Value} (ha : tmps[p]?.getD undef = .pointer (some a)) (hl : (loadVar ty a).run P w = .ok v w) :
    (results fn tmps).run P w = .ok v w := by
  simp only [results, h]
  simp [ha, asAddr, hl]
theorem results_b2 {P : Program} {fn : Func} {p q : Tmp} {ty ty2 : TypeId} (h : fn.results = #[.cell p ty, .cell q ty2]) (tmps : Array Value) (w : World) {a b : Addr} {v1 v2 : Value}
    (hp : tmps[p]?.getD undef = .pointer (some a)) (hq : tmps[q]?.getD undef = .pointer (some b)) (h1 : (loadVar ty a).run P w = .ok v1 w) (h2 : (loadVar ty2 b).run P w = .ok v2 w) :
    (results fn tmps).run P w = .ok (.tuple #[v1, v2]) w := by
  simp [results, h, hp, hq, asAddr, h1, h2]
theorem load_bint {W : World} {b : Nat} {c : Int} (h : Boxed W b 3 (.int .i64 c)) : (loadVar 3 ⟨b, 0, none⟩).run Tryz.prog W = .ok (.int .i64 c) W := by
  have hc := h.cell
  simp [go_sem, hc]
theorem load_berr {W : World} {b : Nat} {c : Int} (h : Boxed W b 29 (.int .i64 c)) : (loadVar 29 ⟨b, 0, none⟩).run Tryz.prog W = .ok (.int .i64 c) W := by
  have hc := h.cell
  simp [go_sem, hc]
/-- what Size says -/
def SZV (k : Int) : Int := if 0 ≤ k ∧ k ≤ 8 then (PSZ k.toNat : Int) else 0
set_option maxRecDepth 100000 in
set_option maxHeartbeats 1000000 in
theorem psize_any (k : Int) (w : World) : Calls Tryz.prog 74 #[.int .i64 k] w fun e w' => e = .returned (.int .i64 (SZV k)) ∧ Only (fun _ => False) w w' := by
  refine (callsIn_wide (n := 5)).1 ?_
  refine callsIn_of_wp_marks Tryz.func74 rfl trivial ?_ rfl
  simp only [Tryz.ntmps74, List.size_toArray, List.length_cons, List.length_nil, Nat.reduceAdd, Nat.reduceSub, Array.replicate_succ, Array.replicate_zero, List.push_toArray, List.append_toArray, List.nil_append, List.cons_append]
  gi_wp2_with fail
  refine ⟨trivial, (sizes_in _ _).mono ?_⟩
  rintro e w2 ⟨rfl, rfl⟩
  gi_wp2_with fail
  obtain ⟨W0, hW0⟩ : ∃ W0, (w.alloc (.cells #[.int .i64 k] 3)).alloc (.cells #[.int .i64 0] 3) = W0 := ⟨_, rfl⟩
  have o0 : Only (fun _ => False) w W0 := by rw [← hW0]; exact ((Only.refl _ w).alloc _).alloc _
  have hsz : W0.heap.size = w.heap.size + 1 + 1 := by rw [← hW0]; simp
  have bK : Boxed W0 w.heap.size 3 (.int .i64 k) := by rw [← hW0]; exact (Boxed.new w 3 (.int .i64 k)).alloc _
  have bR : Boxed W0 (w.heap.size + 1) 3 (.int .i64 0) := by
    have h := Boxed.new (w.alloc (.cells #[.int .i64 k] 3)) 3 (.int .i64 0)
    rw [World.size_alloc, hW0] at h; exact h
  rw [hW0]
  refine range_ret (gf := 109) (lb := #[]) rfl (enters_of Tryz.func109 (by kernel_rfl) rfl)
    (fun x : Nat × Nat => #[.int .i64 (x.1 : Int), .int .i64 (x.2 : Int)]) (fun _ => rfl)
    (fun s A => (∀ j : Nat, j < s → (j : Int) ≠ k) ∧ Only (fun _ => False) W0 A)
    (fun s A => (0 ≤ k ∧ k ≤ 8) ∧ Only (fun j => j = w.heap.size + 1) W0 A ∧ Boxed A (w.heap.size + 1) 3 (.int .i64 (PSZ k.toNat : Int)))
    (fun s x s' A => s' = s + 1 ∧ s < 9 ∧ x.1 = s ∧ x.2 = PSZ s) 0 9
    (fun s A B r hi hl o => ⟨hi.1, hi.2.trans o (fun i hi e => by omega)⟩) (fun s A B r hi hl o => ⟨hi.1, hi.2.1.trans o (fun i hi e => by omega), box_keep hi.2.2 o (by omega)⟩) (fun s A B hi o => ⟨hi.1, hi.2.same o⟩)
    (fun s x s' A B r hv hl o => hv) ⟨fun j hj => by omega, Only.refl _ _⟩
    ?hit (fun x => { tmps := #[.int .i64 k, .pointer (some ⟨w.heap.size, 0, none⟩), .pointer (some ⟨w.heap.size + 1, 0, none⟩), .int .i64 (x.1 : Int), .int .i64 (x.2 : Int), .func (.func 109) #[] #[], .int .i64 (x.1 : Int), .int .i64 (x.2 : Int), undef, undef, undef, undef], defers := [] }) ?assign ?body ?done ?stop
  case hit =>
    intro J Jx W hJ hJo hY h0 hW
    refine sizes1_in 4 (W0.heap.size + 1) J Jx (fun s A h9 hs => ?_) W h0
    obtain ⟨fn, tmps, assign, body, hy, hR⟩ := hY s (s, PSZ s) (s + 1) A hs ⟨rfl, h9, rfl, rfl⟩
    refine ⟨fn, tmps, assign, body, hy, hR.mono ?_⟩
    rintro e B (⟨h1, h2, _⟩ | h)
    · exact .inl ⟨h1, h2⟩
    · exact .inr h
  case assign =>
    intro x W K hK
    gi_wp2
    exact hK
  case body =>
    rintro s ⟨x1, x2⟩ s' W ⟨hs, hq⟩ ⟨rfl, h9, hx1, hx2⟩
    simp only at hx1 hx2
    subst hx1 hx2
    have hck := (box_keep bK hq (fun f => f)).cell
    have bR' := box_keep bR hq (fun f => f)
    have hcr := bR'.cell
    have hfr := bR'.frozen
    by_cases heq : (x1 : Int) = k
    · have d1 : ((x1 : Int) == k) = true := by simpa using heq
      have o5 : Only (fun j => j = w.heap.size + 1) W (W.setCell ⟨w.heap.size + 1, 0, none⟩ (.int .i64 (PSZ x1 : Int))) := (Only.refl (fun j => j = w.heap.size + 1) W).setCell (p := ⟨w.heap.size + 1, 0, none⟩) (fun _ => rfl) _
      have FIN : Hid (Only (fun j => j < W0.heap.size) W (W.setCell ⟨w.heap.size + 1, 0, none⟩ (.int .i64 (PSZ x1 : Int))) ∧ (0 ≤ k ∧ k ≤ 8) ∧ Only (fun j => j = w.heap.size + 1) W0 (W.setCell ⟨w.heap.size + 1, 0, none⟩ (.int .i64 (PSZ x1 : Int))) ∧ Boxed (W.setCell ⟨w.heap.size + 1, 0, none⟩ (.int .i64 (PSZ x1 : Int))) (w.heap.size + 1) 3 (.int .i64 (PSZ k.toNat : Int))) := by
        refine ⟨o5.mono (fun j _ e => by omega), by omega, (hq.mono (fun _ _ f => f.elim)).trans o5 (fun _ _ e => e), ?_⟩
        have : k.toNat = x1 := by omega
        rw [this]
        exact bR'.set _
      generalize PSZ x1 = q at *
      clear hs hq bR' o5 heq
      gi_wp2
      exact FIN.out
    · have d1 : ((x1 : Int) == k) = false := by simpa using heq
      have FIN : Hid (Only (fun j => j < W0.heap.size) W W ∧ (∀ j : Nat, j < x1 + 1 → (j : Int) ≠ k) ∧ Only (fun _ => False) W0 W) := by
        refine ⟨Only.refl _ _, fun j hj e => ?_, hq⟩
        rcases Nat.lt_or_ge j x1 with h | h
        · exact hs j h e
        · exact heq (by omega)
      generalize PSZ x1 = q at *
      clear hs hq bR' heq
      gi_wp2
      exact FIN.out
  case done =>
    intro W hi hD
    have hS : SZV k = 0 := by
      unfold SZV
      rw [if_neg]
      rintro ⟨h1, h2⟩
      exact hi.1 k.toNat (by omega) (by omega)
    have bR' := box_keep bR hi.2 (fun f => f)
    have hcr := bR'.cell
    have hfr := bR'.frozen
    have HI := hideIt hi.2
    have HD := hideIt hD
    have HBR := hideIt bR'
    have HS := hideIt hS
    clear hi hD bR' hS
    gi_wp2
    have o5 : Only (fun j => j = w.heap.size + 1) W (W.setCell ⟨w.heap.size + 1, 0, none⟩ (.int .i64 0)) := (Only.refl (fun j => j = w.heap.size + 1) W).setCell (p := ⟨w.heap.size + 1, 0, none⟩) (fun _ => rfl) _
    have hD5 := o5.heap HD.out (by omega)
    have o6 : Only (fun j => j = W0.heap.size) (W.setCell ⟨w.heap.size + 1, 0, none⟩ (.int .i64 0)) ((W.setCell ⟨w.heap.size + 1, 0, none⟩ (.int .i64 0)).putObj W0.heap.size (.deferred none)) := (Only.refl _ _).putObj _ _ (fun _ => rfl)
    refine ⟨by simp, .inl ⟨_, _, rfl, run_takeDeferred hD5, ?_⟩⟩
    refine ⟨.int .i64 0, results_b1 rfl _ _ rfl (load_bint (box_keep (HBR.out.set _) o6 (by omega))), ?_, ?_⟩
    · rw [HS.out]
    · exact ((o0.same HI.out).trans o5 (fun j _ e => by omega)).trans o6 (fun j _ e => by omega)
  case stop =>
    intro s W hi hD
    have hS : SZV k = (PSZ k.toNat : Int) := if_pos hi.1
    have hcr := hi.2.2.cell
    have HI := hideIt hi.2.1
    have HD := hideIt hD
    have HBR := hideIt hi.2.2
    have HS := hideIt hS
    clear hi hD hS
    generalize PSZ k.toNat = q at *
    gi_wp2
    have o6 : Only (fun j => j = W0.heap.size) W (W.putObj W0.heap.size (.deferred none)) := (Only.refl _ _).putObj _ _ (fun _ => rfl)
    refine ⟨by simp, .inl ⟨_, _, rfl, run_takeDeferred HD.out, ?_⟩⟩
    refine ⟨.int .i64 (q : Int), results_b1 rfl _ _ rfl (load_bint (box_keep HBR.out o6 (by omega))), ?_, ?_⟩
    · rw [HS.out]
    · exact (o0.trans HI.out (fun j _ e => by omega)).trans o6 (fun j _ e => by omega)
/-- what Bucket says -/
def BKV (n : Int) : Int := if 0 ≤ n ∧ n ≤ 4194300 then (PBK n.toNat : Int) else 0
def BKE (n : Int) : Int := if n < 0 then 1 else if 4194300 < n then 4 else 0
theorem PBK_at {s n : Nat} (h9 : s < 9) (h : n + 4 ≤ PSZ s) (hb : ∀ j, j < s → PSZ j < n + 4) : PBK n = s := by
  have hc := PBK_cases n
  rcases (show s = 0 ∨ s = 1 ∨ s = 2 ∨ s = 3 ∨ s = 4 ∨ s = 5 ∨ s = 6 ∨ s = 7 ∨ s = 8 by omega) with rfl | rfl | rfl | rfl | rfl | rfl | rfl | rfl | rfl
  · simp only [PSZ, Nat.reducePow, Nat.reduceMul] at h
    omega
  · have := hb 0 (by omega)
    simp only [PSZ, Nat.reducePow, Nat.reduceMul] at h this
    omega
  · have := hb 1 (by omega)
    simp only [PSZ, Nat.reducePow, Nat.reduceMul] at h this
    omega
  · have := hb 2 (by omega)
    simp only [PSZ, Nat.reducePow, Nat.reduceMul] at h this
    omega
  · have := hb 3 (by omega)
    simp only [PSZ, Nat.reducePow, Nat.reduceMul] at h this
    omega
  · have := hb 4 (by omega)
    simp only [PSZ, Nat.reducePow, Nat.reduceMul] at h this
    omega
  · have := hb 5 (by omega)
    simp only [PSZ, Nat.reducePow, Nat.reduceMul] at h this
    omega
  · have := hb 6 (by omega)
    simp only [PSZ, Nat.reducePow, Nat.reduceMul] at h this
    omega
  · have := hb 7 (by omega)
    simp only [PSZ, Nat.reducePow, Nat.reduceMul] at h this
    omega

end Go.Proofs.YtiolgenaefillaaGreat
