/- Several texts in one: Kd18, Kv, Kb, Nf, Pc, Lx, Mn, Me. -/
import Derived.Test.YtiolgenaefillaaGreatG3
import Derived.Test.YtiolgenaefillaaGreatG7
import Derived.Test.YtiolgenaefillaaGreatG6
import Derived.Test.YtiolgenaefillaaGreatG2
import Derived.Test.YtiolgenaefillaaGreatG1
import Derived.Deep.SlicePairs
import Derived.OpenShut
import Derived.Lib.SmallJoins

/- Derive, Tenant, Seal, Manifest, Nonce. -/
namespace Go.Proofs.YtiolgenaefillaaGreat
open Go.RowKit

set_option maxHeartbeats 1600000 in
set_option maxRecDepth 100000 in
theorem derive_ok (vk : Value) (key : List Int) (p : Int) (t : ByteArray) (hk : key.length = 32) (k8 : U8 key) (hp : 0 ≤ p ∧ p ≤ 255) (ht : t.size ≤ 64) (w : World) (bk : Bs .u8 w vk key) :
    Calls Tryz.prog 68 #[vk, .int .u8 p, .string t] w fun e w' => ∃ v, e = .returned (.tuple #[v, .int .i64 0]) ∧ w'.ownsRow w.heap.size 5 1 v 32 (bl (KDV key p (sb t))) ∧ Only (fun _ => False) w w' := by
  have I := hideIt (info_any p t (by omega) w)
  have d1 : decide (64 < (t.size : Int)) = false := by simp; omega
  have d2 : decide (64 < t.size) = false := by simp; omega
  obtain ⟨ko, kc, rfl, _⟩ := bk.formN hk
  have HL : Hid ((KTX p (sb t)).length ≤ 66 ∧ U8 (KTX p (sb t))) := by
    refine ⟨?_, KTX_u8 hp (sb_range t)⟩
    rw [KTX_len _ _ (by rw [sb_len]; omega), sb_len]; omega
  have E := hideIt (fun (a : Option Addr) (l c : Nat) (W : World) (o : Only (fun _ => False) w W) (b : Bs .u8 W (.slice a l c) (KTX p (sb t))) => expand_in ko 32 kc a l c key (KTX p (sb t)) 32 W (bk.past o) k8 (by omega) b HL.out.2 (by have := HL.out.1; omega) (by decide))
  rw [show ((32 : Nat) : Int) = 32 from rfl] at E
  have HX : Hid (EXPL key (KTX p (sb t)) 32 = KDV key p (sb t)) := rfl
  rw [HX.out] at E
  obtain ⟨X, hX⟩ : ∃ X, X = KTX p (sb t) := ⟨_, rfl⟩
  rw [← hX] at I HL E
  clear bk k8 hk hp hX HX
  go_enter Tryz.func68, Tryz.ntmps68
  go_wp2_with fail
  refine I.out.mono ?_
  rintro e w1 ⟨v1, rfl, own1, o1⟩
  obtain ⟨a1, c1, rfl⟩ := own_form own1
  have E1 := hideIt (E.out a1 X.length c1 w1 o1 (Bs.of_own (k := .u8) own1))
  have O1 := hideIt o1
  obtain ⟨m, hm⟩ : ∃ m, m = X.length := ⟨_, rfl⟩
  rw [← hm] at E1 ⊢
  clear own1 o1 I E hm
  go_wp2_with fail
  refine E1.out.mono ?_
  rintro e w2 ⟨v2, rfl, own2, o2⟩
  have F := hideIt (And.intro (own_low own2 O1.out.size) (O1.out.same o2))
  clear own2 o2 E1 O1
  go_wp2
  go_ret2
  exact ⟨_, rfl, F.out⟩
set_option maxHeartbeats 400000 in
set_option maxRecDepth 100000 in
theorem derive_key (ko : Option Addr) (kl kc : Nat) (p : Value) (t : ByteArray) (h : kl ≠ 32) (w : World) :
    Calls Tryz.prog 68 #[.slice ko kl kc, p, .string t] w fun e w' => e = .returned (.tuple #[.slice none 0 0, .int .i64 1]) ∧ Only (fun _ => False) w w' := by
  have h3 : ((kl : Int) != 32) = true := by simp; omega
  clear h
  go_enter Tryz.func68, Tryz.ntmps68
  go_wp2
  go_ret2
  exact ⟨rfl, Only.refl _ _⟩
set_option maxHeartbeats 400000 in
set_option maxRecDepth 100000 in
theorem derive_long (ko : Option Addr) (kc : Nat) (p : Value) (t : ByteArray) (h : 64 < t.size) (w : World) :
    Calls Tryz.prog 68 #[.slice ko 32 kc, p, .string t] w fun e w' => e = .returned (.tuple #[.slice none 0 0, .int .i64 4]) ∧ Only (fun _ => False) w w' := by
  have d1 : decide (64 < (t.size : Int)) = true := by simp; omega
  have d2 : decide (64 < t.size) = true := by simp; omega
  go_enter Tryz.func68, Tryz.ntmps68
  go_wp2
  go_ret2
  exact ⟨rfl, Only.refl _ _⟩
/-- A KEY FOR A PURPOSE AND A NAME, whatever comes in: new memory. -/
theorem derive_any (vk : Value) (key : List Int) (p : Int) (t : ByteArray) (k8 : U8 key) (hp : 0 ≤ p ∧ p ≤ 255) (w : World) (bk : Bs .u8 w vk key) :
    Calls Tryz.prog 68 #[vk, .int .u8 p, .string t] w fun e w' => ∃ v, e = .returned (.tuple #[v, .int .i64 (KDe key (sb t))]) ∧ w'.ownsRow w.heap.size 5 1 v (KDt key p (sb t)).length (bl (KDt key p (sb t))) ∧ Only (fun _ => False) w w' := by
  by_cases hk : key.length = 32
  · by_cases ht : t.size ≤ 64
    · have e1 : KDe key (sb t) = 0 := by unfold KDe; rw [if_pos hk, sb_len, if_pos ht]
      have e2 : KDt key p (sb t) = KDV key p (sb t) := by unfold KDt; rw [if_pos hk, sb_len, if_pos ht]
      rw [e1, e2, KDV_len]
      exact derive_ok vk key p t hk k8 hp ht w bk
    · have e1 : KDe key (sb t) = 4 := by unfold KDe; rw [if_pos hk, sb_len, if_neg ht]
      have e2 : KDt key p (sb t) = [] := by unfold KDt; rw [if_pos hk, sb_len, if_neg ht]
      rw [e1, e2]
      obtain ⟨ko, kc, rfl, _⟩ := bk.formN hk
      exact (derive_long ko kc (.int .u8 p) t (by omega) w).mono (fun _ _ ⟨h1, h2⟩ => ⟨_, h1, World.ownsRow_nil .., h2⟩)
  · have e1 : KDe key (sb t) = 1 := by unfold KDe; rw [if_neg hk]
    have e2 : KDt key p (sb t) = [] := by unfold KDt; rw [if_neg hk]
    rw [e1, e2]
    obtain ⟨ko, kc, rfl⟩ := bk.len
    exact (derive_key ko key.length kc (.int .u8 p) t hk w).mono (fun _ _ ⟨h1, h2⟩ => ⟨_, h1, World.ownsRow_nil .., h2⟩)
theorem sb_none : sb ⟨#[]⟩ = [] := rfl
theorem derive_none (vk : Value) (key : List Int) (p : Int) (k8 : U8 key) (hp : 0 ≤ p ∧ p ≤ 255) (w : World) (bk : Bs .u8 w vk key) :
    Calls Tryz.prog 68 #[vk, .int .u8 p, .string ⟨#[]⟩] w fun e w' => ∃ v, e = .returned (.tuple #[v, .int .i64 (KDe key [])]) ∧ w'.ownsRow w.heap.size 5 1 v (KDt key p []).length (bl (KDt key p [])) ∧ Only (fun _ => False) w w' := by
  have := derive_any vk key p ⟨#[]⟩ k8 hp w bk
  rw [sb_none] at this
  exact this
set_option maxHeartbeats 400000 in
set_option maxRecDepth 100000 in
theorem kmanifest_any (vk : Value) (key : List Int) (k8 : U8 key) (w : World) (bk : Bs .u8 w vk key) :
    Calls Tryz.prog 41 #[vk] w fun e w' => ∃ v, e = .returned (.tuple #[v, .int .i64 (KDe key [])]) ∧ w'.ownsRow w.heap.size 5 1 v (KDt key 4 []).length (bl (KDt key 4 [])) ∧ Only (fun _ => False) w w' := by
  have A := hideIt (derive_none vk key 4 k8 (by decide) w bk)
  obtain ⟨E, hE⟩ : ∃ E, E = KDe key [] := ⟨_, rfl⟩
  rw [← hE] at A ⊢
  clear k8 bk hE
  go_enter Tryz.func41, Tryz.ntmps41
  go_wp2_with fail
  refine A.out.mono ?_
  rintro e w1 ⟨v1, rfl, own1, o1⟩
  have F := hideIt (And.intro own1 o1)
  clear own1 o1 A
  go_wp2
  go_ret2
  exact ⟨_, rfl, F.out⟩
end Go.Proofs.YtiolgenaefillaaGreat

/- What a varint tells: plain facts, no program is named here. -/
namespace Go.Proofs.YtiolgenaefillaaGreat

theorem sVarint_cases {ys : List Int} (hr : ∀ y ∈ ys, 0 ≤ y ∧ y ≤ 255) : (∃ c, sVarint ys = (0, 0, c) ∧ (c = 2 ∨ c = 3)) ∨ (∃ a k : Nat, sVarint ys = ((a : Int), k, 0) ∧ 1 ≤ k ∧ k ≤ ys.length ∧ a < 18446744073709551616 ∧ ys = gs a ++ ys.drop k) := by
  rcases rd_cases ys hr with ⟨c, h, hc⟩ | ⟨a, k, h, h1, h2, _, h4, h5⟩
  · exact .inl ⟨c, by rw [sVarint, h]; rfl, hc⟩
  · exact .inr ⟨a, k, by rw [sVarint, h]; rfl, h1, h2, h4, by rw [h5, List.take_append_drop]⟩
theorem sVarint_short (v k : Nat) (h : v < 18446744073709551616) (hk : k < (gs v).length) : sVarint ((gs v).take k) = (0, 0, 2) := by
  have := rd_short v 0 k 0 (by omega) (by simpa using h) hk
  rw [sVarint, this]
  rfl
end Go.Proofs.YtiolgenaefillaaGreat

/- What a block tells: plain facts, no program is named here. -/
namespace Go.Proofs.YtiolgenaefillaaGreat
open Go.RowKit

theorem sBlk_back (b t : List Int) (n : Int) (hb : b.length ≤ 1000000) (hn : (b.length : Int) ≤ n) : sBlock n (blk b ++ t) = (b, (blk b).length, 0) := by
  unfold sBlock blk
  rw [List.append_assoc, sVarint_gs _ _ (by omega), if_neg (by omega), if_neg (by simp), if_neg (by simp; omega), if_neg (by simp [List.length_append]; omega)]
  simp
theorem sBlk_cut (b : List Int) (k : Nat) (n : Int) (hb : b.length ≤ 1000000) (hn : (b.length : Int) ≤ n) (hk : k < (blk b).length) : sBlock n ((blk b).take k) = ([], 0, 2) := by
  have hl : (blk b).length = (gs b.length).length + b.length := by rw [blk, List.length_append]
  by_cases h : k < (gs b.length).length
  · have e : (blk b).take k = (gs b.length).take k := by rw [blk, List.take_append_of_le_length (by omega)]
    rw [e, sBlock, if_neg (by omega), sVarint_short _ _ (by omega) h, if_pos (by simp)]
  · have e : (blk b).take k = gs b.length ++ b.take (k - (gs b.length).length) := by
      rw [blk, List.take_append, List.take_of_length_le (by omega)]
    rw [e, sBlock, if_neg (by omega), sVarint_gs _ _ (by omega), if_neg (by simp), if_neg (by simp; omega), if_pos (by simp only [List.length_append, List.length_take]; omega)]
/-- a block's error, and nothing beside it; or a block, and the bytes are its own -/
theorem sBlk_cases {ys : List Int} {n : Int} (hr : ∀ y ∈ ys, 0 ≤ y ∧ y ≤ 255) (hn : 0 ≤ n) (hn1 : n ≤ 1000000) :
    (∃ c, sBlock n ys = ([], 0, c) ∧ (c = 2 ∨ c = 3 ∨ c = 4)) ∨ (∃ b k, sBlock n ys = (b, k, 0) ∧ (b.length : Int) ≤ n ∧ k ≤ ys.length ∧ 1 ≤ k ∧ ys = blk b ++ ys.drop k ∧ k = (blk b).length) := by
  unfold sBlock
  rw [if_neg (by omega)]
  rcases sVarint_cases hr with ⟨c, h, hc⟩ | ⟨a, k, h, h1, h2, h3, h4⟩
  · rw [h, if_pos (by rcases hc with rfl | rfl <;> simp)]
    exact .inl ⟨c, rfl, by omega⟩
  · rw [h, if_neg (by simp)]
    simp only
    by_cases c1 : n < (a : Int)
    · rw [if_pos c1]; exact .inl ⟨4, rfl, by omega⟩
    · rw [if_neg c1]
      by_cases c2 : (ys.length : Int) - k < a
      · rw [if_pos c2]; exact .inl ⟨2, rfl, by omega⟩
      · rw [if_neg c2, Int.toNat_natCast]
        have hkg : k = (gs a).length := by
          have := congrArg List.length h4
          rw [List.length_append, List.length_drop] at this
          omega
        have hbl : ((ys.drop k).take a).length = a := by rw [List.length_take, List.length_drop]; omega
        refine .inr ⟨(ys.drop k).take a, k + a, rfl, by rw [hbl]; omega, by omega, by omega, ?_, ?_⟩
        · unfold blk
          rw [hbl, List.append_assoc, ← List.drop_drop, List.take_append_drop]
          exact h4
        · unfold blk
          rw [List.length_append, hbl, hkg]
end Go.Proofs.YtiolgenaefillaaGreat

/- Numbers in so many bytes, and back: plain facts. -/
namespace Go.Proofs.YtiolgenaefillaaGreat
open Go.RowKit

theorem fixB_next (v : Int) (i : Nat) : fixB v (i + 1) = fixB (v / 256) i := by
  unfold fixB
  rw [show 8 * (i + 1) = 8 + 8 * i by omega, Int.pow_add, show (2 : Int) ^ 8 = 256 from rfl, Int.ediv_ediv_of_nonneg (by omega)]
theorem fixL_next (v : Int) (n : Nat) : fixL v (n + 1) = fixL (v / 256) n ++ [fixB v 0] := by
  unfold fixL
  rw [List.range_succ, List.map_append, List.map_singleton]
  congr 1
  · apply List.map_congr_left
    intro j hj
    rw [List.mem_range] at hj
    rw [← fixB_next]
    congr 1
    omega
  · simp
theorem num_fix (n : Nat) : ∀ v : Int, 0 ≤ v → (num (fixL v n) : Int) = v % ((256 ^ n : Nat) : Int) := by
  induction n with
  | zero => intro v _; simp [fixL, num]
  | succ n ih =>
    intro v hv
    have h0 := fixB_range v 0
    rw [fixL_next, num_snoc, Int.natCast_add, Int.natCast_mul, ih (v / 256) (by omega), Int.toNat_of_nonneg h0.1]
    obtain ⟨m, rfl⟩ := Int.eq_ofNat_of_zero_le hv
    have e1 : fixB (m : Int) 0 = ((m % 256 : Nat) : Int) := by simp [fixB]
    have e2 : ((m : Int) / 256) = ((m / 256 : Nat) : Int) := by omega
    rw [e1, e2, Nat.pow_succ, Nat.mul_comm (256 ^ n) 256, ← Int.natCast_emod, ← Int.natCast_emod, Nat.mod_mul]
    omega
theorem num_fix8 (v : Nat) (h : v < 18446744073709551616) : num (fixL v 8) = v := by
  have := num_fix 8 v (by omega)
  have e : ((256 ^ 8 : Nat) : Int) = 18446744073709551616 := by decide
  rw [e] at this
  omega
theorem num_fix4 (v : Nat) (h : v < 4294967296) : num (fixL v 4) = v := by
  have := num_fix 4 v (by omega)
  have e : ((256 ^ 4 : Nat) : Int) = 4294967296 := by decide
  rw [e] at this
  omega
end Go.Proofs.YtiolgenaefillaaGreat

/- What is read one piece behind the other, and what is written: plain facts, no program is named here. -/
namespace Go.Proofs.YtiolgenaefillaaGreat

/-- what a reading tells: why there is nothing, or something and the bytes behind it -/
abbrev RDG (α : Type) := List Int → Except Int (α × List Int)
/-- a reading, a writing, and what may be written: there and back; one way alone; cut off it is too short -/
structure PC {α : Type} (rd : RDG α) (wr : α → List Int) (good : α → Prop) : Prop where
  back : ∀ x t, good x → rd (wr x ++ t) = .ok (x, t)
  only : ∀ ys x t, U8 ys → rd ys = .ok (x, t) → good x ∧ ys = wr x ++ t
  cut : ∀ x k, good x → k < (wr x).length → rd ((wr x).take k) = .error 2
/-- one behind the other -/
def rdThen {α β : Type} (r1 : RDG α) (r2 : α → RDG β) : RDG (α × β) := fun ys => match r1 ys with
  | .error e => .error e
  | .ok (x, t) => match r2 x t with
    | .error e => .error e
    | .ok (y, t') => .ok ((x, y), t')
theorem PC.then' {α β : Type} {r1 : RDG α} {w1 : α → List Int} {g1 : α → Prop} {r2 : α → RDG β} {w2 : α → β → List Int} {g2 : α → β → Prop} (h1 : PC r1 w1 g1) (h2 : ∀ x, g1 x → PC (r2 x) (w2 x) (g2 x)) :
    PC (rdThen r1 r2) (fun p => w1 p.1 ++ w2 p.1 p.2) (fun p => g1 p.1 ∧ g2 p.1 p.2) := by
  refine ⟨?_, ?_, ?_⟩
  · rintro ⟨x, y⟩ t ⟨hx, hy⟩
    simp only [rdThen]
    rw [List.append_assoc, h1.back x _ hx]
    simp only
    rw [(h2 x hx).back y t hy]
  · rintro ys ⟨x, y⟩ t h8 h
    simp only [rdThen] at h
    cases e1 : r1 ys with
    | error e => rw [e1] at h; cases h
    | ok p =>
      obtain ⟨x', t1⟩ := p
      rw [e1] at h
      simp only at h
      cases e2 : r2 x' t1 with
      | error e => rw [e2] at h; cases h
      | ok p =>
        obtain ⟨y', t2⟩ := p
        rw [e2] at h
        simp only [Except.ok.injEq, Prod.mk.injEq] at h
        obtain ⟨⟨rfl, rfl⟩, rfl⟩ := h
        obtain ⟨gx, hx⟩ := h1.only ys _ _ h8 e1
        have h8' : U8 t1 := fun z hz => h8 z (by rw [hx]; exact List.mem_append_right _ hz)
        obtain ⟨gy, hy⟩ := (h2 _ gx).only t1 _ _ h8' e2
        exact ⟨⟨gx, gy⟩, by simp only; rw [List.append_assoc, ← hy]; exact hx⟩
  · rintro ⟨x, y⟩ k ⟨hx, hy⟩ hk
    simp only at hk ⊢
    simp only [rdThen]
    by_cases hlt : k < (w1 x).length
    · rw [List.take_append_of_le_length (by omega), h1.cut x k hx hlt]
    · rw [List.take_append, List.take_of_length_le (by omega), h1.back x _ hx]
      simp only
      rw [(h2 x hx).cut y _ hy (by rw [List.length_append] at hk; omega)]
/-- what is read is asked -/
def rdNeed {α : Type} (r : RDG α) (c : α → Bool) (e : Int) : RDG α := fun ys => match r ys with
  | .error e => .error e
  | .ok (x, t) => if c x then .ok (x, t) else .error e
theorem PC.need {α : Type} {r : RDG α} {w : α → List Int} {g : α → Prop} (h : PC r w g) (c : α → Bool) (e : Int) : PC (rdNeed r c e) w (fun x => g x ∧ c x = true) := by
  refine ⟨?_, ?_, ?_⟩
  · rintro x t ⟨hx, hc⟩
    simp only [rdNeed]
    rw [h.back x t hx]
    simp only [hc, if_true]
  · rintro ys x t h8 k
    simp only [rdNeed] at k
    cases e1 : r ys with
    | error e => rw [e1] at k; cases k
    | ok p =>
      obtain ⟨x', t1⟩ := p
      rw [e1] at k
      simp only at k
      by_cases hc : c x' = true
      · rw [if_pos hc] at k
        simp only [Except.ok.injEq, Prod.mk.injEq] at k
        obtain ⟨rfl, rfl⟩ := k
        obtain ⟨gx, hx⟩ := h.only ys _ _ h8 e1
        exact ⟨⟨gx, hc⟩, hx⟩
      · rw [if_neg hc] at k; cases k
  · rintro x k ⟨hx, _⟩ hk
    simp only [rdNeed]
    rw [h.cut x k hx hk]
/-- so many times, what comes hanging on what was had -/
def rdRep {σ α : Type} (r : σ → RDG α) (nx : σ → α → σ) : Nat → σ → RDG (List α)
  | 0, _ => fun ys => .ok ([], ys)
  | n + 1, s => fun ys => match r s ys with
    | .error e => .error e
    | .ok (x, t) => match rdRep r nx n (nx s x) t with
      | .error e => .error e
      | .ok (l, t') => .ok (x :: l, t')
def goodRep {σ α : Type} (g : σ → α → Prop) (nx : σ → α → σ) : Nat → σ → List α → Prop
  | 0, _, l => l = []
  | _ + 1, _, [] => False
  | n + 1, s, x :: l => g s x ∧ goodRep g nx n (nx s x) l
theorem PC.rep {σ α : Type} {r : σ → RDG α} {w : α → List Int} {g : σ → α → Prop} (nx : σ → α → σ) (h : ∀ s, PC (r s) w (g s)) : ∀ (n : Nat) (s : σ), PC (rdRep r nx n s) (fun l => (l.map w).flatten) (goodRep g nx n s)
  | 0, s => by
    refine ⟨?_, ?_, ?_⟩
    · rintro x t rfl; rfl
    · rintro ys x t h8 k
      simp only [rdRep, Except.ok.injEq, Prod.mk.injEq] at k
      obtain ⟨rfl, rfl⟩ := k
      exact ⟨rfl, rfl⟩
    · rintro x k rfl hk
      simp at hk
  | n + 1, s => by
    have ih := fun s => PC.rep nx h n s
    refine ⟨?_, ?_, ?_⟩
    · rintro l t hl
      cases l with
      | nil => exact hl.elim
      | cons x l =>
        simp only [rdRep, List.map_cons, List.flatten_cons]
        rw [List.append_assoc, (h s).back x _ hl.1]
        simp only
        rw [(ih _).back l t hl.2]
    · rintro ys l t h8 k
      simp only [rdRep] at k
      cases e1 : r s ys with
      | error e => rw [e1] at k; cases k
      | ok p =>
        obtain ⟨x, t1⟩ := p
        rw [e1] at k
        simp only at k
        cases e2 : rdRep r nx n (nx s x) t1 with
        | error e => rw [e2] at k; cases k
        | ok p =>
          obtain ⟨l', t2⟩ := p
          rw [e2] at k
          simp only [Except.ok.injEq, Prod.mk.injEq] at k
          obtain ⟨rfl, rfl⟩ := k
          obtain ⟨gx, hx⟩ := (h s).only ys _ _ h8 e1
          have h8' : U8 t1 := fun z hz => h8 z (by rw [hx]; exact List.mem_append_right _ hz)
          obtain ⟨gl, hl⟩ := (ih _).only t1 _ _ h8' e2
          refine ⟨⟨gx, gl⟩, ?_⟩
          simp only [List.map_cons, List.flatten_cons]
          rw [List.append_assoc, ← hl]; exact hx
    · rintro l k hl hk
      cases l with
      | nil => exact hl.elim
      | cons x l =>
        simp only [List.map_cons, List.flatten_cons] at hk ⊢
        simp only [rdRep]
        by_cases hlt : k < (w x).length
        · rw [List.take_append_of_le_length (by omega), (h s).cut x k hl.1 hlt]
        · rw [List.take_append, List.take_of_length_le (by omega), (h s).back x _ hl.1]
          simp only
          rw [(ih _).cut l _ hl.2 (by rw [List.length_append] at hk; omega)]
/-- so many bytes -/
def rdB (n : Nat) : RDG (List Int) := fun ys => if ys.length < n then .error 2 else .ok (ys.take n, ys.drop n)
theorem PC.bytes (n : Nat) : PC (rdB n) (fun x => x) (fun x => x.length = n ∧ U8 x) := by
  refine ⟨?_, ?_, ?_⟩
  · rintro x t ⟨rfl, _⟩
    simp only [rdB]
    rw [if_neg (by rw [List.length_append]; omega), List.take_left, List.drop_left]
  · rintro ys x t h8 k
    simp only [rdB] at k
    by_cases h : ys.length < n
    · rw [if_pos h] at k; cases k
    · rw [if_neg h] at k
      simp only [Except.ok.injEq, Prod.mk.injEq] at k
      obtain ⟨rfl, rfl⟩ := k
      exact ⟨⟨by rw [List.length_take]; omega, h8.take _⟩, (List.take_append_drop _ _).symm⟩
  · rintro x k ⟨rfl, _⟩ hk
    simp only [rdB]
    rw [if_pos (by rw [List.length_take]; omega)]
/-- a varint -/
def rdV : RDG Nat := fun ys => if (sVarint ys).2.2 = 0 then .ok ((sVarint ys).1.toNat, ys.drop (sVarint ys).2.1) else .error (sVarint ys).2.2
theorem PC.varint : PC rdV gs (fun v => v < 18446744073709551616) := by
  refine ⟨?_, ?_, ?_⟩
  · intro v t hv
    simp only [rdV]
    rw [sVarint_gs v t hv]
    simp
  · intro ys x t h8 k
    simp only [rdV] at k
    rcases sVarint_cases h8 with ⟨c, h, hc⟩ | ⟨a, j, h, h1, h2, h3, h4⟩
    · rw [h] at k
      rw [if_neg (by simp only; omega)] at k; cases k
    · rw [h] at k
      simp only [if_true, Int.toNat_natCast, Except.ok.injEq, Prod.mk.injEq] at k
      obtain ⟨rfl, rfl⟩ := k
      exact ⟨h3, h4⟩
  · intro v k hv hk
    simp only [rdV]
    rw [sVarint_short v k hv hk]
    rfl
/-- a block of at most so many -/
def rdK (n : Nat) : RDG (List Int) := fun ys => if (sBlock n ys).2.2 = 0 then .ok ((sBlock n ys).1, ys.drop (sBlock n ys).2.1) else .error (sBlock n ys).2.2
theorem PC.block (n : Nat) (hn : n ≤ 1000000) : PC (rdK n) blk (fun x => x.length ≤ n ∧ U8 x) := by
  refine ⟨?_, ?_, ?_⟩
  · rintro x t ⟨hx, _⟩
    simp only [rdK]
    rw [sBlk_back x t n (by omega) (by omega)]
    simp
  · intro ys x t h8 k
    simp only [rdK] at k
    rcases sBlk_cases (n := (n : Int)) h8 (by omega) (by omega) with ⟨c, h, hc⟩ | ⟨b, j, h, h1, h2, _, h4, _⟩
    · rw [h] at k
      rw [if_neg (by simp only; omega)] at k; cases k
    · rw [h] at k
      simp only [if_true, Except.ok.injEq, Prod.mk.injEq] at k
      obtain ⟨rfl, rfl⟩ := k
      exact ⟨⟨by omega, fun y hy => h8 y (by rw [h4]; exact List.mem_append_left _ (List.mem_append_right _ hy))⟩, h4⟩
  · rintro x k ⟨hx, _⟩ hk
    simp only [rdK]
    rw [sBlk_cut x k n (by omega) (by omega) hk]
    rfl
/-- read by another word -/
def rdAs {α β : Type} (r : RDG α) (f : α → β) : RDG β := fun ys => match r ys with
  | .error e => .error e
  | .ok (x, t) => .ok (f x, t)
theorem PC.as {α β : Type} {r : RDG α} {w : α → List Int} {g : α → Prop} (h : PC r w g) (f : α → β) (f' : β → α) (w' : β → List Int) (g' : β → Prop) (h1 : ∀ x, g x → f' (f x) = x) (h2 : ∀ y, g' y → g (f' y) ∧ f (f' y) = y ∧ w (f' y) = w' y) (h3 : ∀ x, g x → g' (f x)) :
    PC (rdAs r f) w' g' := by
  refine ⟨?_, ?_, ?_⟩
  · intro y t hy
    obtain ⟨k1, k2, k3⟩ := h2 y hy
    simp only [rdAs]
    rw [← k3, h.back _ t k1]
    simp only [k2]
  · intro ys y t h8 k
    simp only [rdAs] at k
    cases e1 : r ys with
    | error e => rw [e1] at k; cases k
    | ok p =>
      obtain ⟨x, t1⟩ := p
      rw [e1] at k
      simp only [Except.ok.injEq, Prod.mk.injEq] at k
      obtain ⟨rfl, rfl⟩ := k
      obtain ⟨gx, hx⟩ := h.only ys _ _ h8 e1
      refine ⟨h3 x gx, ?_⟩
      have := (h2 (f x) (h3 x gx)).2.2
      rw [h1 x gx] at this
      rw [← this]; exact hx
  · intro y k hy hk
    obtain ⟨k1, k2, k3⟩ := h2 y hy
    rw [← k3] at hk ⊢
    simp only [rdAs]
    rw [h.cut _ k k1 hk]
end Go.Proofs.YtiolgenaefillaaGreat

/- Texts in order, byte by byte; a list that rises; the texts of a list, each once, rising: plain facts, no program is named here. -/
namespace Go.Proofs.YtiolgenaefillaaGreat

/-- is x ahead of y, byte by byte? -/
def lexB : List Int → List Int → Bool
  | _, [] => false
  | [], _ :: _ => true
  | a :: x, b :: y => decide (a < b) || (decide (a = b) && lexB x y)
theorem lexB_irrefl (x : List Int) : lexB x x = false := by
  induction x with
  | nil => rfl
  | cons a x ih => simp [lexB, ih]
theorem lexB_trans : ∀ {x y z : List Int}, lexB x y = true → lexB y z = true → lexB x z = true
  | _, [], _, h, _ => by cases ‹List Int› <;> simp [lexB] at h
  | _, _ :: _, [], _, h => by simp [lexB] at h
  | [], _ :: _, _ :: _, _, _ => rfl
  | a :: x, b :: y, c :: z, h1, h2 => by
    simp only [lexB, Bool.or_eq_true, Bool.and_eq_true, decide_eq_true_eq] at h1 h2 ⊢
    rcases h1 with h1 | ⟨h1, k1⟩ <;> rcases h2 with h2 | ⟨h2, k2⟩
    · exact .inl (by omega)
    · exact .inl (by omega)
    · exact .inl (by omega)
    · exact .inr ⟨by omega, lexB_trans k1 k2⟩
theorem lexB_total : ∀ (x y : List Int), x = y ∨ lexB x y = true ∨ lexB y x = true
  | [], [] => .inl rfl
  | [], _ :: _ => .inr (.inl rfl)
  | _ :: _, [] => .inr (.inr rfl)
  | a :: x, b :: y => by
    simp only [lexB, Bool.or_eq_true, Bool.and_eq_true, decide_eq_true_eq, List.cons.injEq]
    rcases (show a < b ∨ a = b ∨ b < a by omega) with h | h | h
    · exact .inr (.inl (.inl h))
    · rcases lexB_total x y with k | k | k
      · exact .inl ⟨h, k⟩
      · exact .inr (.inl (.inr ⟨h, k⟩))
      · exact .inr (.inr (.inr ⟨h.symm, k⟩))
    · exact .inr (.inr (.inl h))
theorem lexB_ne {x y : List Int} (h : lexB x y = true) : x ≠ y := fun e => by rw [e, lexB_irrefl] at h; cases h
theorem lexB_asym {x y : List Int} (h : lexB x y = true) : lexB y x = false := by
  cases k : lexB y x with
  | false => rfl
  | true => have := lexB_trans h k; rw [lexB_irrefl] at this; exact this.symm
/-- each is ahead of those behind it -/
def RIS (l : List (List Int)) : Prop := l.Pairwise fun x y => lexB x y = true
theorem RIS.nodup {l : List (List Int)} (h : RIS l) : l.Nodup := List.Pairwise.imp (fun k => lexB_ne k) h
/-- two that rise and have the same in them are the same -/
theorem RIS.same : ∀ {a b : List (List Int)}, RIS a → RIS b → (∀ x, x ∈ a ↔ x ∈ b) → a = b
  | [], [], _, _, _ => rfl
  | [], y :: b, _, _, h => by have := (h y).2 (by simp); simp at this
  | x :: a, [], _, _, h => by have := (h x).1 (by simp); simp at this
  | x :: a, y :: b, ha, hb, h => by
    have ha' := List.pairwise_cons.1 ha
    have hb' := List.pairwise_cons.1 hb
    have exy : x = y := by
      have h1 := (h x).1 (by simp)
      have h2 := (h y).2 (by simp)
      rw [List.mem_cons] at h1 h2
      rcases h1 with h1 | h1
      · exact h1
      · rcases h2 with h2 | h2
        · exact h2.symm
        · have k1 := hb'.1 x h1
          have k2 := ha'.1 y h2
          rw [lexB_asym k1] at k2; cases k2
    subst exy
    congr 1
    refine RIS.same ha'.2 hb'.2 (fun z => ⟨fun hz => ?_, fun hz => ?_⟩)
    · rcases List.mem_cons.1 ((h z).1 (List.mem_cons_of_mem _ hz)) with e | e
      · exact absurd e.symm (lexB_ne (ha'.1 z hz))
      · exact e
    · rcases List.mem_cons.1 ((h z).2 (List.mem_cons_of_mem _ hz)) with e | e
      · exact absurd e.symm (lexB_ne (hb'.1 z hz))
      · exact e
/-- x put in its place, if it is not there -/
def insT (x : List Int) : List (List Int) → List (List Int)
  | [] => [x]
  | y :: l => if lexB y x then y :: insT x l else if y = x then y :: l else x :: y :: l
theorem mem_insT (x z : List Int) : ∀ l, z ∈ insT x l ↔ z = x ∨ z ∈ l
  | [] => by simp [insT]
  | y :: l => by
    have ih := mem_insT x z l
    unfold insT
    by_cases h : lexB y x = true
    · rw [if_pos h, List.mem_cons, ih, List.mem_cons]
      exact ⟨fun k => by rcases k with k | k | k <;> simp [k], fun k => by rcases k with k | k | k <;> simp [k]⟩
    · rw [if_neg h]
      by_cases e : y = x
      · rw [if_pos e]; subst e
        simp
      · rw [if_neg e]; simp
theorem ris_insT (x : List Int) : ∀ l, RIS l → RIS (insT x l)
  | [], _ => List.pairwise_singleton _ _
  | y :: l, hr => by
    have h' := List.pairwise_cons.1 hr
    unfold insT
    by_cases h : lexB y x = true
    · rw [if_pos h]
      refine List.pairwise_cons.2 ⟨fun z hz => ?_, ris_insT x l h'.2⟩
      rcases (mem_insT x z l).1 hz with rfl | k
      · exact h
      · exact h'.1 z k
    · rw [if_neg h]
      by_cases e : y = x
      · rw [if_pos e]; exact hr
      · rw [if_neg e]
        refine List.pairwise_cons.2 ⟨fun z hz => ?_, hr⟩
        have hxy : lexB x y = true := by
          rcases lexB_total x y with k | k | k
          · exact absurd k.symm e
          · exact k
          · exact absurd k h
        rcases List.mem_cons.1 hz with rfl | k
        · exact hxy
        · exact lexB_trans hxy (h'.1 z k)
/-- the texts of a list, each once, rising -/
def TEN : List (List Int) → List (List Int)
  | [] => []
  | x :: l => insT x (TEN l)
theorem mem_TEN (z : List Int) : ∀ l, z ∈ TEN l ↔ z ∈ l
  | [] => by simp [TEN]
  | x :: l => by rw [TEN, mem_insT, mem_TEN z l, List.mem_cons]
theorem ris_TEN : ∀ l, RIS (TEN l)
  | [] => List.Pairwise.nil
  | x :: l => ris_insT x _ (ris_TEN l)
/-- what rises and has just these in it are they -/
theorem TEN_only {l t : List (List Int)} (hr : RIS t) (h : ∀ x, x ∈ t ↔ x ∈ l) : t = TEN l := RIS.same hr (ris_TEN l) (fun x => (h x).trans (mem_TEN x l).symm)
theorem TEN_len (l : List (List Int)) : (TEN l).length ≤ l.length := by
  have h : ∀ (x : List Int) t, (insT x t).length ≤ t.length + 1 := by
    intro x t
    induction t with
    | nil => simp [insT]
    | cons y t ih =>
      unfold insT
      split
      · simp only [List.length_cons]; omega
      · split <;> simp
  induction l with
  | nil => simp [TEN]
  | cons x l ih => rw [TEN, List.length_cons]; have := h x (TEN l); omega
/-- a text's place -/
def PLC (l : List (List Int)) (x : List Int) : Nat := l.idxOf x
theorem PLC_lt {l : List (List Int)} {x : List Int} (h : x ∈ l) : PLC l x < l.length := List.idxOf_lt_length_of_mem h
theorem PLC_at {l : List (List Int)} {x : List Int} (h : x ∈ l) : l.getD (PLC l x) [] = x := by
  rw [List.getD_eq_getElem?_getD, List.getElem?_eq_getElem (PLC_lt h)]
  exact List.getElem_idxOf (PLC_lt h)
theorem PLC_of {l : List (List Int)} (hr : RIS l) {i : Nat} (hi : i < l.length) : PLC l (l.getD i []) = i := by
  rw [List.getD_eq_getElem?_getD, List.getElem?_eq_getElem hi]
  exact List.Nodup.idxOf_getElem hr.nodup i hi
/-- one more at the end: it must be behind the last one -/
def behind (l : List (List Int)) (x : List Int) : Bool := match l.getLast? with
  | none => true
  | some y => lexB y x
theorem RIS.snoc {l : List (List Int)} {x : List Int} (h : RIS l) (hb : behind l x = true) : RIS (l ++ [x]) := by
  refine List.pairwise_append.2 ⟨h, List.pairwise_singleton _ _, fun a ha b hb' => ?_⟩
  rw [List.mem_singleton] at hb'
  subst hb'
  have hne : l ≠ [] := fun e => by subst e; simp at ha
  obtain ⟨t, y, rfl⟩ : ∃ t y, l = t ++ [y] := ⟨l.dropLast, l.getLast hne, (List.dropLast_concat_getLast hne).symm⟩
  simp [behind] at hb
  rcases List.mem_append.1 ha with k | k
  · exact lexB_trans ((List.pairwise_append.1 h).2.2 a k y (by simp)) hb
  · rw [List.mem_singleton] at k
    subst k; exact hb
theorem RIS.last {l : List (List Int)} {x : List Int} (h : RIS (l ++ [x])) : RIS l ∧ behind l x = true := by
  have h' := List.pairwise_append.1 h
  refine ⟨h'.1, ?_⟩
  by_cases hne : l = []
  · subst hne; rfl
  · obtain ⟨t, y, rfl⟩ : ∃ t y, l = t ++ [y] := ⟨l.dropLast, l.getLast hne, (List.dropLast_concat_getLast hne).symm⟩
    simp [behind]
    exact h'.2.2 y (by simp) x (by simp)
/-- where x is put: behind the k that are ahead of it -/
theorem insT_at (x : List Int) : ∀ (l : List (List Int)) (k : Nat), k ≤ l.length → (∀ j, j < k → lexB (l.getD j []) x = true) → (k < l.length → lexB (l.getD k []) x = false) →
    insT x l = if k < l.length ∧ l.getD k [] = x then l else l.take k ++ x :: l.drop k
  | [], k, hk, _, _ => by
    obtain rfl : k = 0 := by simpa using hk
    simp [insT]
  | y :: l, 0, _, _, h2 => by
    have h := h2 (by simp)
    simp only [List.getD_cons_zero] at h ⊢
    unfold insT
    rw [if_neg (by rw [h]; simp)]
    by_cases e : y = x
    · rw [if_pos e, if_pos ⟨by simp, e⟩]
    · rw [if_neg e, if_neg (fun c => e c.2)]; rfl
  | y :: l, k + 1, hk, h1, h2 => by
    have h0 := h1 0 (by omega)
    simp only [List.getD_cons_zero] at h0
    have ih := insT_at x l k (by simpa using hk) (fun j hj => by have := h1 (j + 1) (by omega); simpa using this) (fun hk' => by have := h2 (by simpa using hk'); simpa using this)
    unfold insT
    rw [if_pos h0, ih]
    by_cases c : k < l.length ∧ l.getD k [] = x
    · rw [if_pos c, if_pos ⟨by simpa using c.1, by simpa using c.2⟩]
    · rw [if_neg c, if_neg (fun c' => c ⟨by simpa using c'.1, by simpa using c'.2⟩)]
      simp
/-- one more at the end of the list -/
theorem TEN_snoc (l : List (List Int)) (x : List Int) : TEN (l ++ [x]) = insT x (TEN l) := by
  symm
  refine TEN_only (ris_insT x _ (ris_TEN l)) (fun z => ?_)
  rw [mem_insT, mem_TEN, List.mem_append, List.mem_singleton, or_comm]
end Go.Proofs.YtiolgenaefillaaGreat

/- A manifest as a list of bytes: what is written, what is read: plain facts, no program is named here. -/
namespace Go.Proofs.YtiolgenaefillaaGreat

theorem fix_num : ∀ (x : List Int), U8 x → fixL (num x : Int) x.length = x := by
  intro x
  induction h : x.length generalizing x with
  | zero =>
    intro _
    have : x = [] := List.eq_nil_of_length_eq_zero h
    subst this; rfl
  | succ n ih =>
    intro h8
    have hne : x ≠ [] := by intro h0; subst h0; simp at h
    obtain ⟨t, b, rfl⟩ : ∃ t b, x = t ++ [b] := ⟨x.dropLast, x.getLast hne, (List.dropLast_concat_getLast hne).symm⟩
    have hl : t.length = n := by simpa using h
    have hb := h8 b (by simp)
    have e := ih t hl (fun y hy => h8 y (by simp [hy]))
    rw [num_snoc, fixL_next, show (((256 * num t + b.toNat : Nat) : Int) / 256) = (num t : Int) by omega, e]
    congr 2
    unfold fixB
    simp only [Nat.mul_zero, Int.pow_zero]
    omega
/-- what an archive says of itself -/
structure MAN where
  ver : Nat
  prev : List Int
  es : List (List Int × Int)
  root : List Int
def MHD : List Int := [67, 83, 75, 49]
/-- its tenants -/
def MTN (m : MAN) : List (List Int) := TEN (m.es.map Prod.fst)
/-- may it be written? -/
def MGD (m : MAN) : Prop := m.ver < 18446744073709551615 ∧ (m.prev.length = 32 ∧ U8 m.prev) ∧ (m.root.length = 32 ∧ U8 m.root) ∧ m.es.length ≤ 1048576 ∧ ∀ e ∈ m.es, (e.1.length ≤ 64 ∧ U8 e.1) ∧ 0 ≤ e.2 ∧ e.2 ≤ 8
/-- an entry: the place of its tenant, its bucket -/
def MEN (l : List (List Int)) (e : List Int × Int) : List Int := gs (PLC l e.1) ++ [e.2]
def MENC (m : MAN) : List Int :=
  MHD ++ (fixL (m.ver : Int) 8 ++ (m.prev ++ (gs (MTN m).length ++ ((MTN m).map blk).flatten ++ (gs m.es.length ++ (m.es.map (MEN (MTN m))).flatten ++ m.root))))
/-! the readings -/
def rdHd : RDG (List Int) := rdNeed (rdB 4) (fun x => x == MHD) 3
def rdVer : RDG Nat := rdAs (rdNeed (rdB 8) (fun x => decide (num x ≠ 18446744073709551615)) 3) num
def rdMany : RDG Nat := rdNeed rdV (fun n => decide (n ≤ 1048576)) 4
def rdTn (acc : List (List Int)) : RDG (List Int) := rdNeed (rdK 64) (fun x => behind acc x) 3
def rdTns (n : Nat) (acc : List (List Int)) : RDG (List (List Int)) := rdRep rdTn (fun acc x => acc ++ [x]) n acc
def rdDir : RDG (Nat × List (List Int)) := rdThen rdMany (fun n => rdTns n [])
def rdEn (L : Nat) : RDG (Nat × List Int) := rdThen (rdNeed rdV (fun a => decide (a < L)) 3) (fun _ => rdNeed (rdB 1) (fun x => decide (x.getD 0 0 ≤ 8)) 3)
def rdEns (L n : Nat) : RDG (List (Nat × List Int)) := rdRep (fun _ : Unit => rdEn L) (fun s _ => s) n ()
def rdAll (L : Nat) : RDG (Nat × List (Nat × List Int)) := rdThen rdMany (fun n => rdEns L n)
def MRD : RDG (List Int × Nat × List Int × (Nat × List (List Int)) × (Nat × List (Nat × List Int)) × List Int) :=
  rdThen rdHd fun _ => rdThen rdVer fun _ => rdThen (rdB 32) fun _ => rdThen rdDir fun d => rdThen (rdAll d.2.length) fun _ => rdB 32
/-- is each place named? -/
def usedAll (L : Nat) (ts : List (Nat × List Int)) : Bool := (List.range L).all fun i => ts.any fun t => t.1 == i
def MOF (v : Nat) (p : List Int) (l : List (List Int)) (ts : List (Nat × List Int)) (r : List Int) : MAN := ⟨v, p, ts.map fun t => (l.getD t.1 [], t.2.getD 0 0), r⟩
def MDEC (b : List Int) : Except Int MAN := match MRD b with
  | .error e => .error e
  | .ok ((_, v, p, d, a, r), rest) => if rest = [] then (if usedAll d.2.length a.2 = true then .ok (MOF v p d.2 a.2 r) else .error 3) else .error 3
/-! each is a piece -/
theorem PC_hd : PC rdHd (fun x => x) (fun x => (x.length = 4 ∧ U8 x) ∧ (x == MHD) = true) := (PC.bytes 4).need _ 3
theorem PC_ver : PC rdVer (fun v => fixL (v : Int) 8) (fun v => v < 18446744073709551615) := by
  refine ((PC.bytes 8).need (fun x => decide (num x ≠ 18446744073709551615)) 3).as num (fun v => fixL (v : Int) 8) _ _ ?_ ?_ ?_
  · rintro x ⟨⟨hl, h8⟩, _⟩
    have := fix_num x h8
    rw [hl] at this; exact this
  · intro v hv
    have e := num_fix8 v (by omega)
    exact ⟨⟨⟨fixL_len _ _, fixL_range _ _⟩, decide_eq_true (by rw [e]; omega)⟩, e, rfl⟩
  · rintro x ⟨⟨hl, h8⟩, hc⟩
    have h1 := num_lt x h8
    rw [hl] at h1
    have h2 := of_decide_eq_true hc
    have h3 : (256 : Nat) ^ 8 = 18446744073709551616 := by decide
    omega
theorem PC_many : PC rdMany gs (fun n => n < 18446744073709551616 ∧ decide (n ≤ 1048576) = true) := PC.varint.need _ 4
theorem PC_tn (acc : List (List Int)) : PC (rdTn acc) blk (fun x => (x.length ≤ 64 ∧ U8 x) ∧ behind acc x = true) := (PC.block 64 (by decide)).need _ 3
theorem PC_tns (n : Nat) (acc : List (List Int)) : PC (rdTns n acc) (fun l => (l.map blk).flatten) (goodRep (fun acc x => (x.length ≤ 64 ∧ U8 x) ∧ behind acc x = true) (fun acc x => acc ++ [x]) n acc) := PC.rep _ PC_tn n acc
theorem tns_good : ∀ (l acc : List (List Int)), RIS acc → (goodRep (fun acc x => (x.length ≤ 64 ∧ U8 x) ∧ behind acc x = true) (fun acc x => acc ++ [x]) l.length acc l ↔ RIS (acc ++ l) ∧ ∀ x ∈ l, x.length ≤ 64 ∧ U8 x)
  | [], acc, h => by simp [goodRep, h]
  | x :: l, acc, h => by
    simp only [List.length_cons, goodRep]
    constructor
    · rintro ⟨⟨h1, h2⟩, h3⟩
      have k := (tns_good l (acc ++ [x]) (h.snoc h2)).1 h3
      rw [List.append_assoc] at k
      refine ⟨k.1, fun y hy => ?_⟩
      rcases List.mem_cons.1 hy with rfl | hy
      · exact h1
      · exact k.2 y hy
    · rintro ⟨h1, h2⟩
      have e : acc ++ x :: l = (acc ++ [x]) ++ l := by simp
      rw [e] at h1
      have k1 := (List.pairwise_append.1 h1).1
      have k2 := RIS.last k1
      exact ⟨⟨h2 x (by simp), k2.2⟩, (tns_good l (acc ++ [x]) k1).2 ⟨h1, fun y hy => h2 y (by simp [hy])⟩⟩
theorem rep_len {σ α : Type} {g : σ → α → Prop} {nx : σ → α → σ} : ∀ {n : Nat} {s : σ} {l : List α}, goodRep g nx n s l → l.length = n
  | 0, _, _, h => by cases h; rfl
  | n + 1, _, [], h => h.elim
  | n + 1, _, x :: l, h => by rw [List.length_cons, rep_len h.2]
theorem PC_en (L : Nat) : PC (rdEn L) (fun t => gs t.1 ++ t.2) (fun t => (t.1 < 18446744073709551616 ∧ decide (t.1 < L) = true) ∧ ((t.2.length = 1 ∧ U8 t.2) ∧ decide (t.2.getD 0 0 ≤ 8) = true)) :=
  (PC.varint.need _ 3).then' (fun _ _ => (PC.bytes 1).need _ 3)
theorem ens_good {g : Nat × List Int → Prop} : ∀ (ts : List (Nat × List Int)), goodRep (fun _ : Unit => g) (fun s _ => s) ts.length () ts ↔ ∀ t ∈ ts, g t
  | [] => by simp [goodRep]
  | t :: ts => by simp only [List.length_cons, goodRep, ens_good ts, List.forall_mem_cons]
abbrev GEN (L : Nat) (t : Nat × List Int) : Prop := (t.1 < 18446744073709551616 ∧ decide (t.1 < L) = true) ∧ ((t.2.length = 1 ∧ U8 t.2) ∧ decide (t.2.getD 0 0 ≤ 8) = true)
theorem PC_all (L : Nat) : PC (rdAll L) (fun a => gs a.1 ++ (a.2.map fun t => gs t.1 ++ t.2).flatten) (fun a => (a.1 < 18446744073709551616 ∧ decide (a.1 ≤ 1048576) = true) ∧ goodRep (fun _ : Unit => GEN L) (fun s _ => s) a.1 () a.2) :=
  PC_many.then' (fun n _ => PC.rep _ (fun _ => PC_en L) n ())
theorem PC_dir : PC rdDir (fun d => gs d.1 ++ (d.2.map blk).flatten) (fun d => (d.1 < 18446744073709551616 ∧ decide (d.1 ≤ 1048576) = true) ∧ goodRep (fun acc x => (x.length ≤ 64 ∧ U8 x) ∧ behind acc x = true) (fun acc x => acc ++ [x]) d.1 [] d.2) :=
  PC_many.then' (fun n _ => PC_tns n [])
abbrev MTP := List Int × Nat × List Int × (Nat × List (List Int)) × (Nat × List (Nat × List Int)) × List Int
def MWT (x : MTP) : List Int := x.1 ++ (fixL (x.2.1 : Int) 8 ++ (x.2.2.1 ++ ((gs x.2.2.2.1.1 ++ (x.2.2.2.1.2.map blk).flatten) ++ ((gs x.2.2.2.2.1.1 ++ (x.2.2.2.2.1.2.map fun t => gs t.1 ++ t.2).flatten) ++ x.2.2.2.2.2))))
def MGT (x : MTP) : Prop := ((x.1.length = 4 ∧ U8 x.1) ∧ (x.1 == MHD) = true) ∧ x.2.1 < 18446744073709551615 ∧ (x.2.2.1.length = 32 ∧ U8 x.2.2.1) ∧
  ((x.2.2.2.1.1 < 18446744073709551616 ∧ decide (x.2.2.2.1.1 ≤ 1048576) = true) ∧ goodRep (fun acc x => (x.length ≤ 64 ∧ U8 x) ∧ behind acc x = true) (fun acc x => acc ++ [x]) x.2.2.2.1.1 [] x.2.2.2.1.2) ∧
  ((x.2.2.2.2.1.1 < 18446744073709551616 ∧ decide (x.2.2.2.2.1.1 ≤ 1048576) = true) ∧ goodRep (fun _ : Unit => GEN x.2.2.2.1.2.length) (fun s _ => s) x.2.2.2.2.1.1 () x.2.2.2.2.1.2) ∧ (x.2.2.2.2.2.length = 32 ∧ U8 x.2.2.2.2.2)
theorem PC_man : PC MRD MWT MGT := PC_hd.then' fun _ _ => PC_ver.then' fun _ _ => (PC.bytes 32).then' fun _ _ => PC_dir.then' fun d _ => (PC_all d.2.length).then' fun _ _ => PC.bytes 32
/-- a manifest as its pieces -/
def MPT (m : MAN) : MTP := (MHD, m.ver, m.prev, ((MTN m).length, MTN m), (m.es.length, m.es.map fun e => (PLC (MTN m) e.1, [e.2])), m.root)
theorem MTN_mem {m : MAN} {e : List Int × Int} (h : e ∈ m.es) : e.1 ∈ MTN m := (mem_TEN _ _).2 (List.mem_map.2 ⟨e, h, rfl⟩)
theorem MTN_len (m : MAN) : (MTN m).length ≤ m.es.length := by
  have := TEN_len (m.es.map Prod.fst)
  rw [List.length_map] at this; exact this
theorem MWT_MPT (m : MAN) : MWT (MPT m) = MENC m := by
  unfold MWT MPT MENC
  simp only [List.map_map]
  rfl
theorem MGT_MPT {m : MAN} (h : MGD m) : MGT (MPT m) := by
  obtain ⟨h1, h2, h3, h4, h5⟩ := h
  have hl := MTN_len m
  refine ⟨⟨⟨rfl, fun y hy => ?_⟩, by simp [MPT]⟩, h1, h2, ⟨⟨?_, ?_⟩, ?_⟩, ⟨⟨?_, ?_⟩, ?_⟩, h3⟩
  · simp [MPT, MHD] at hy; omega
  · simp only [MPT]; omega
  · simp only [MPT]; exact decide_eq_true (by omega)
  · simp only [MPT]
    refine (tns_good (MTN m) [] List.Pairwise.nil).2 ⟨by rw [List.nil_append]; exact ris_TEN _, fun x hx => ?_⟩
    obtain ⟨e, he, rfl⟩ := List.mem_map.1 ((mem_TEN _ _).1 hx)
    exact (h5 e he).1
  · simp only [MPT]; omega
  · simp only [MPT]; exact decide_eq_true (by omega)
  · have e1 : (MPT m).2.2.2.2.1.1 = (MPT m).2.2.2.2.1.2.length := by simp [MPT]
    rw [e1]
    refine (ens_good _).2 (fun t ht => ?_)
    simp only [MPT] at ht ⊢
    obtain ⟨e, he, rfl⟩ := List.mem_map.1 ht
    have hp := PLC_lt (MTN_mem he)
    obtain ⟨_, k2, k3⟩ := h5 e he
    refine ⟨⟨by simp only; omega, decide_eq_true hp⟩, ⟨rfl, fun y hy => ?_⟩, decide_eq_true (by simpa using k3)⟩
    rw [List.mem_singleton] at hy
    omega
theorem MPT_used (m : MAN) : usedAll (MTN m).length (MPT m).2.2.2.2.1.2 = true := by
  unfold usedAll
  rw [List.all_eq_true]
  intro i hi
  rw [List.mem_range] at hi
  have hx : (MTN m).getD i [] ∈ MTN m := by
    rw [List.getD_eq_getElem?_getD, List.getElem?_eq_getElem hi]
    exact List.getElem_mem hi
  obtain ⟨e, he, e1⟩ := List.mem_map.1 ((mem_TEN _ _).1 hx)
  rw [List.any_eq_true]
  refine ⟨(PLC (MTN m) e.1, [e.2]), List.mem_map.2 ⟨e, he, rfl⟩, ?_⟩
  simp only [e1, beq_iff_eq]
  exact PLC_of (ris_TEN _) hi
theorem MPT_of (m : MAN) : MOF m.ver m.prev (MTN m) (MPT m).2.2.2.2.1.2 m.root = m := by
  unfold MOF MPT
  cases m with
  | mk v p es r =>
    congr 1
    simp only [List.map_map]
    rw [List.map_congr_left (g := fun e => e), List.map_id']
    intro e he
    simp only [Function.comp]
    rw [PLC_at (MTN_mem (m := ⟨v, p, es, r⟩) he)]
    rfl
/-- THERE AND BACK -/
theorem MDEC_back {m : MAN} (h : MGD m) : MDEC (MENC m) = .ok m := by
  have k := PC_man.back (MPT m) [] (MGT_MPT h)
  rw [MWT_MPT, List.append_nil] at k
  unfold MDEC
  rw [k]
  show (if ([] : List Int) = [] then (if usedAll (MTN m).length (MPT m).2.2.2.2.1.2 = true then Except.ok (MOF m.ver m.prev (MTN m) (MPT m).2.2.2.2.1.2 m.root) else .error 3) else .error 3) = .ok m
  rw [if_pos rfl, if_pos (MPT_used m), MPT_of]
/-- a byte more -/
theorem MDEC_more {m : MAN} (h : MGD m) {t : List Int} (ht : t ≠ []) : MDEC (MENC m ++ t) = .error 3 := by
  have k := PC_man.back (MPT m) t (MGT_MPT h)
  rw [MWT_MPT] at k
  unfold MDEC
  rw [k]
  simp only [MPT, if_neg ht]
/-- cut off it is too short -/
theorem MDEC_cut {m : MAN} (h : MGD m) {k : Nat} (hk : k < (MENC m).length) : MDEC ((MENC m).take k) = .error 2 := by
  have e := PC_man.cut (MPT m) k (MGT_MPT h) (by rw [MWT_MPT]; exact hk)
  rw [MWT_MPT] at e
  unfold MDEC
  rw [e]
/-- ONE WAY ALONE -/
theorem MDEC_only {b : List Int} {m : MAN} (h8 : U8 b) (h : MDEC b = .ok m) : MGD m ∧ MENC m = b := by
  unfold MDEC at h
  cases e1 : MRD b with
  | error e => rw [e1] at h; cases h
  | ok x =>
    obtain ⟨⟨hd, v, p, ⟨n, l⟩, ⟨q, ts⟩, r⟩, rest⟩ := x
    rw [e1] at h
    simp only at h
    by_cases hr : rest = []
    · rw [if_pos hr] at h
      by_cases hu : usedAll l.length ts = true
      · rw [if_pos hu] at h
        subst hr
        obtain ⟨g, hb⟩ := PC_man.only b _ _ h8 e1
        rw [List.append_nil] at hb
        simp only [Except.ok.injEq] at h
        obtain ⟨⟨_, ghd⟩, gv, gp, ⟨⟨_, _⟩, gl⟩, ⟨⟨_, gq⟩, gt⟩, gr⟩ := g
        simp only at ghd gv gp gl gq gt gr
        have hn : l.length = n := rep_len gl
        have hq : ts.length = q := rep_len gt
        subst hn hq
        obtain ⟨rl, ll⟩ := (tns_good l [] List.Pairwise.nil).1 gl
        rw [List.nil_append] at rl
        have gt' := (ens_good ts).1 gt
        have hat : ∀ t ∈ ts, t.1 < l.length := fun t ht => of_decide_eq_true (gt' t ht).1.2
        have hmem : ∀ t ∈ ts, l.getD t.1 [] ∈ l := fun t ht => by
          rw [List.getD_eq_getElem?_getD, List.getElem?_eq_getElem (hat t ht)]
          exact List.getElem_mem (hat t ht)
        have hT : MTN m = l := by
          symm
          rw [← h]
          refine TEN_only rl (fun x => ⟨fun hx => ?_, fun hx => ?_⟩)
          · have hi := PLC_lt hx
            unfold usedAll at hu
            rw [List.all_eq_true] at hu
            have := hu (PLC l x) (List.mem_range.2 hi)
            rw [List.any_eq_true] at this
            obtain ⟨t, ht, e⟩ := this
            rw [beq_iff_eq] at e
            refine List.mem_map.2 ⟨(l.getD t.1 [], t.2.getD 0 0), List.mem_map.2 ⟨t, ht, rfl⟩, ?_⟩
            simp only [e]
            exact PLC_at hx
          · obtain ⟨e, he, rfl⟩ := List.mem_map.1 hx
            obtain ⟨t, ht, rfl⟩ := List.mem_map.1 he
            exact hmem t ht
        have hes : ∀ t ∈ ts, MEN l (l.getD t.1 [], t.2.getD 0 0) = gs t.1 ++ t.2 := fun t ht => by
          unfold MEN
          simp only
          rw [PLC_of rl (hat t ht)]
          congr 1
          have h1 := (gt' t ht).2.1.1
          obtain ⟨y, hy⟩ := List.length_eq_one_iff.1 h1
          rw [hy]; rfl
        refine ⟨?_, ?_⟩
        · rw [← h]
          refine ⟨gv, gp, gr, ?_, ?_⟩
          · simp only [MOF, List.length_map]
            exact of_decide_eq_true gq
          · intro e he
            obtain ⟨t, ht, rfl⟩ := List.mem_map.1 he
            refine ⟨ll _ (hmem t ht), ?_, of_decide_eq_true (gt' t ht).2.2⟩
            exact ((gt' t ht).2.1.2.at 0).1
        · have hhd : hd = MHD := by simpa using ghd
          unfold MENC
          rw [hT, hb, ← h, hhd]
          unfold MWT MOF
          simp only [List.length_map, List.map_map]
          rw [List.map_congr_left (l := ts) (f := MEN l ∘ fun t => (l.getD t.1 [], t.2.getD 0 0)) (g := fun t => gs t.1 ++ t.2) hes]
      · rw [if_neg hu] at h; cases h
    · rw [if_neg hr] at h; cases h
/-- entries turned about -/
theorem MTN_rev (v v' : Nat) (p r p' r' : List Int) (es : List (List Int × Int)) : MTN ⟨v, p, es.reverse, r⟩ = MTN ⟨v', p', es, r'⟩ := by
  refine TEN_only (ris_TEN _) (fun x => ?_)
  unfold MTN
  simp only
  rw [mem_TEN, List.map_reverse, List.mem_reverse]
theorem MENC_rev (v : Nat) (p r : List Int) (es : List (List Int × Int)) : (MENC ⟨v, p, es.reverse, r⟩).length = (MENC ⟨v, p, es, r⟩).length := by
  unfold MENC
  rw [MTN_rev v v p r p r es]
  simp only [List.length_append, List.length_reverse, List.map_reverse, List.length_flatten, List.sum_reverse]
theorem MGD_rev {v : Nat} {p r : List Int} {es : List (List Int × Int)} (h : MGD ⟨v, p, es, r⟩) : MGD ⟨v, p, es.reverse, r⟩ := by
  obtain ⟨h1, h2, h3, h4, h5⟩ := h
  exact ⟨h1, h2, h3, by simpa using h4, fun e he => h5 e (by simpa using he)⟩
theorem MENC_u8 {m : MAN} (h : MGD m) : U8 (MENC m) := by
  obtain ⟨h1, h2, h3, h4, h5⟩ := h
  unfold MENC
  refine U8.app (fun y hy => by simp [MHD] at hy; omega) (U8.app (fixL_range _ _) (U8.app h2.2 (U8.app (U8.app (gs_range _) ?_) (U8.app (U8.app (gs_range _) ?_) h3.2))))
  · intro y hy
    obtain ⟨b, hb, hy⟩ := List.mem_flatten.1 hy
    obtain ⟨x, hx, rfl⟩ := List.mem_map.1 hb
    obtain ⟨e, he, rfl⟩ := List.mem_map.1 ((mem_TEN _ _).1 hx)
    exact blk_range _ (h5 e he).1.2 y hy
  · intro y hy
    obtain ⟨l, hl, hy⟩ := List.mem_flatten.1 hy
    obtain ⟨e, he, rfl⟩ := List.mem_map.1 hl
    rcases List.mem_append.1 hy with k | k
    · exact gs_range _ y k
    · rw [List.mem_singleton] at k
      have := (h5 e he).2
      omega
end Go.Proofs.YtiolgenaefillaaGreat

/- Entries and a manifest in memory; those that came in. -/
namespace Go.Proofs.YtiolgenaefillaaGreat
open Go.RowKit Go.ChangeShapes Go.WideShapes

/-- the slice v reads as the entries s -/
def Ens (w : World) (v : Value) (s : List (List Int × Int)) : Prop :=
  ∃ ao cap, v = .slice ao s.length cap ∧ s.length ≤ cap ∧ (s ≠ [] → ∃ b off, ao = some ⟨b, off, none⟩ ∧ ∀ j, j < s.length →
    w.cell? ⟨b, off + j * 2, none⟩ = some (.string (strOfNums (s.getD j ([], 0)).1)) ∧ w.cell? ⟨b, off + j * 2 + 1, none⟩ = some (.int .i64 (s.getD j ([], 0)).2))
theorem Ens.len {w : World} {v : Value} {s : List (List Int × Int)} (h : Ens w v s) : ∃ ao cap, v = .slice ao s.length cap := by
  obtain ⟨ao, cap, rfl, _⟩ := h
  exact ⟨ao, cap, rfl⟩
theorem Ens.nil (w : World) : Ens w (.slice none 0 0) [] := ⟨none, 0, rfl, Nat.le_refl _, fun h => absurd rfl h⟩
theorem Ens.at {w : World} {v : Value} {s : List (List Int × Int)} (h : Ens w v s) (j : Nat) (hj : j < s.length) :
    ∃ b off cap, v = .slice (some ⟨b, off, none⟩) s.length cap ∧ w.cell? ⟨b, off + j * 2, none⟩ = some (.string (strOfNums (s.getD j ([], 0)).1)) ∧ w.cell? ⟨b, off + j * 2 + 1, none⟩ = some (.int .i64 (s.getD j ([], 0)).2) := by
  obtain ⟨ao, cap, rfl, _, hr⟩ := h
  obtain ⟨b, off, rfl, hc⟩ := hr (by intro h0; subst h0; simp at hj)
  exact ⟨b, off, cap, rfl, hc j hj⟩
theorem Ens.keep {w w' : World} {v : Value} {s : List (List Int × Int)} (h : Ens w v s) {S : Nat → Prop} (ho : Only S w w') (hs : ∀ b, v.ownBlock = some b → ¬ S b) : Ens w' v s := by
  obtain ⟨ao, cap, rfl, hl, hr⟩ := h
  refine ⟨ao, cap, rfl, hl, fun hne => ?_⟩
  obtain ⟨b, off, rfl, hc⟩ := hr hne
  refine ⟨b, off, rfl, fun j hj => ?_⟩
  have hb : ¬ S b := hs b rfl
  obtain ⟨h0, h1⟩ := hc j hj
  have hlt : b < w.heap.size := World.block_lt_of_cell? w _ h0
  have e := ho.block b hlt hb
  exact ⟨by rw [← h0]; unfold World.cell?; rw [e], by rw [← h1]; unfold World.cell?; rw [e]⟩
theorem Ens.past {w w' : World} {v : Value} {s : List (List Int × Int)} (h : Ens w v s) (o : Only (fun _ => False) w w') : Ens w' v s := h.keep o (fun _ _ f => f)
/-- entries as cells -/
def ecells (s : List (List Int × Int)) : List Value := s.flatMap fun p => [.string (strOfNums p.1), .int .i64 p.2]
theorem ecells_cons (p : List Int × Int) (s : List (List Int × Int)) : ecells (p :: s) = .string (strOfNums p.1) :: .int .i64 p.2 :: ecells s := rfl
theorem ecells_snoc (p : List Int × Int) (s : List (List Int × Int)) : ecells (s ++ [p]) = ecells s ++ [.string (strOfNums p.1), .int .i64 p.2] := by
  unfold ecells; rw [List.flatMap_append]; rfl
theorem ecells_len (s : List (List Int × Int)) : (ecells s).length = s.length * 2 := by
  induction s with
  | nil => rfl
  | cons p s ih => rw [ecells_cons]; simp only [List.length_cons, ih]; omega
theorem ecells_at (s : List (List Int × Int)) : ∀ (j : Nat), j < s.length → (ecells s)[j * 2]? = some (.string (strOfNums (s.getD j ([], 0)).1)) ∧ (ecells s)[j * 2 + 1]? = some (.int .i64 (s.getD j ([], 0)).2) := by
  induction s with
  | nil => intro j hj; simp at hj
  | cons p s ih =>
    intro j hj
    cases j with
    | zero => rw [ecells_cons]; exact ⟨rfl, rfl⟩
    | succ j =>
      have hj' : j < s.length := by simpa using hj
      obtain ⟨h0, h1⟩ := ih j hj'
      rw [ecells_cons, show (j + 1) * 2 = j * 2 + 1 + 1 by omega]
      simp only [List.getElem?_cons_succ, List.getD_cons_succ]
      exact ⟨h0, h1⟩
theorem Ens.of_own {w : World} {lo : Nat} {E : TypeId} {v : Value} {s : List (List Int × Int)} (h : w.ownsRow lo E 2 v s.length (ecells s)) : Ens w v s := by
  rcases h.2 with ⟨rfl, hn⟩ | ⟨g, cap, cur, rfl, _, hg, hnc, _, hcs, htk⟩
  · have : s = [] := List.eq_nil_of_length_eq_zero hn
    subst this
    exact Ens.nil w
  · refine ⟨_, cap, rfl, hnc, fun _ => ⟨g, 0, rfl, fun j hj => ?_⟩⟩
    have hc : ∀ i, i < s.length * 2 → w.cell? ⟨g, 0 + i, none⟩ = (ecells s)[i]? := fun i hi => by
      rw [← htk, List.getElem?_take_of_lt hi]
      simp [World.cell?, hg]
    obtain ⟨h0, h1⟩ := ecells_at s j hj
    exact ⟨by rw [hc _ (by omega)]; exact h0, by rw [Nat.add_assoc, hc _ (by omega)]; exact h1⟩

/-- what every entry's tenant is: bytes -/
def EU8 (s : List (List Int × Int)) : Prop := ∀ e ∈ s, U8 e.1
/-- a manifest in memory -/
structure Mf (w : World) (x : Value) (m : MAN) (vp ve vr : Value) : Prop where
  form : x = .agg #[.int .u64 m.ver, vp, ve, vr]
  prev : Bs .u8 w vp m.prev
  es : Ens w ve m.es
  root : Bs .u8 w vr m.root
theorem Mf.past {w w' : World} {x : Value} {m : MAN} {vp ve vr : Value} (h : Mf w x m vp ve vr) (o : Only (fun _ => False) w w') : Mf w' x m vp ve vr := ⟨h.form, h.prev.past o, h.es.past o, h.root.past o⟩
/-- what is so of every manifest -/
structure Mok (m : MAN) : Prop where
  ver : m.ver < 18446744073709551616
  prev : U8 m.prev
  root : U8 m.root
  es : EU8 m.es

set_option maxRecDepth 100000 in
theorem ens_open {H : Type} {enc : TypeId × Value → H} {W : World} {fuel : Nat} {u : Value} {x : DataW H × List MemPlace}
    (hf : DataW.trod enc Tryz.prog W 0 (fun _ => true) true fuel 24 [u] = some x) : ∃ s : List (List Int × Int), Ens W u s ∧ EU8 s ∧ s.length ≤ maxLen ∧ (∀ e ∈ s, e.1.length ≤ maxLen) := by
  rcases Deep.open_slice_pairs Tryz.underlying24 Tryz.underlying41 (by kernel_rfl) rfl rfl (by kernel_rfl) (by kernel_rfl) hf with ⟨hcs, _⟩ | ⟨x, l, c, m, n, V0, V1, D0, D1, P0, P1, hcs, _, hl, hm, hmm, _, hi⟩
  · simp at hcs
    subst hcs
    exact ⟨[], Ens.nil _, by simp [EU8], by simp, by simp⟩
  · simp at hcs
    subst hcs
    simp only [if_true] at hmm
    rw [hmm] at hi
    clear hmm
    have each : ∀ i, i < l → ∃ q : List Int × Int, W.cell? (x.add (i * 2)) = some (.string (strOfNums q.1)) ∧ W.cell? (x.add (i * 2 + 1)) = some (.int .i64 q.2) ∧ U8 q.1 ∧ q.1.length ≤ maxLen := by
      intro i hlt
      obtain ⟨c0, c1, t0, t1⟩ := hi i (by omega)
      obtain ⟨q0, e0, _, w0⟩ := DataW.trod_string Tryz.underlying9 t0
      obtain ⟨q1, e1, _, w1⟩ := DataW.trod_int Tryz.underlying3 t1
      simp at e0 e1
      exact ⟨(sb q0, q1), by rw [c0, e0, of_sb], by rw [c1, e1], sb_range q0, by rw [sb_len]; exact w0⟩
    obtain ⟨q, hq⟩ := Deep.choose_lt each
    have hget : ∀ j, j < l → ((List.range l).map q).getD j ([], 0) = q j := fun j hj => by
      rw [List.getD_eq_getElem?_getD]; simp [hj]
    refine ⟨(List.range l).map q, ⟨some x, c, by simp, by simpa using hl, fun hne => ?_⟩, ?_, by simp; omega, ?_⟩
    · have hp : 0 < l := by
        cases l with
        | zero => simp at hne
        | succ n => omega
      obtain ⟨b, off, spot⟩ := x
      have hspot : spot = none := by simpa [Addr.add] using World.cell?_spot (hq 0 hp).1
      subst hspot
      refine ⟨b, off, rfl, fun j hj => ?_⟩
      have hj' : j < l := by simpa using hj
      rw [hget j hj']
      have h0 := (hq j hj').1
      have h1 := (hq j hj').2.1
      rw [Go.WideShapes.add_plain] at h0 h1
      exact ⟨h0, by rw [Nat.add_assoc]; exact h1⟩
    · intro y hy
      simp only [List.mem_map, List.mem_range] at hy
      obtain ⟨j, hj, rfl⟩ := hy
      exact (hq j hj).2.2.1
    · intro y hy
      simp only [List.mem_map, List.mem_range] at hy
      obtain ⟨j, hj, rfl⟩ := hy
      exact (hq j hj).2.2.2
theorem bs_open {H : Type} {enc : TypeId × Value → H} {W : World} {fuel : Nat} {u : Value} {x : DataW H × List MemPlace}
    (hf : DataW.trod enc Tryz.prog W 0 (fun _ => true) true fuel 23 [u] = some x) : ∃ xs : List Int, Bs .u8 W u xs ∧ NoCap u ∧ U8 xs := by
  rcases open_ints Tryz.underlying23 Tryz.underlying5 (by kernel_rfl) hf with ⟨hcs, _⟩ | ⟨x, l, c, zs, hcs, _, hl, hm, hz, _, hcell, hwz⟩
  · simp at hcs
    subst hcs
    exact ⟨[], Bs.nil _ _, NoCap.nil, by simp [U8]⟩
  · simp at hcs
    subst hcs
    refine ⟨zs.take l, Bs.of_take hl (by simpa using hz) hcell, NoCap.some _ _ _, fun y hy => ?_⟩
    simpa [Lit.wf, IntKind.min, IntKind.max, IntKind.signed, IntKind.bits] using hwz y (List.mem_of_mem_take hy)
set_option maxRecDepth 100000 in
/-- A MANIFEST THAT CAME IN. -/
theorem man_open {H : Type} {enc : TypeId × Value → H} {W : World} {r : Reach} {b0 : Nat} {v : Value} {d : DataW H} {p : List MemPlace} (hval : Value.okWide Tryz.prog W r b0 26 v)
    (h : DataW.Trod enc Tryz.prog W 0 (fun _ => true) true 26 v d p) :
    ∃ (m : MAN) (vp ve vr : Value), Mf W v m vp ve vr ∧ Mok m ∧ NoCap vp ∧ NoCap vr ∧ m.es.length ≤ maxLen := by
  obtain ⟨cs, rfl, hsz⟩ := okWide_struct Tryz.underlying26 hval
  obtain ⟨fuel, hf⟩ := h
  have hc2 : Tryz.prog.cellsOf 26 = 4 := by kernel_rfl
  rw [hc2] at hsz
  obtain ⟨v0, v1, v2, v3, rfl⟩ : ∃ v0 v1 v2 v3, cs = #[v0, v1, v2, v3] := by
    obtain ⟨l⟩ := cs
    match l, hsz with
    | [a, b, c, d], _ => exact ⟨a, b, c, d, rfl⟩
  obtain ⟨y0, y1, y2, y3, n, _, _, g0, g1, g2, g3⟩ := Go.Joins.trod_struct4 Tryz.underlying26 hf
  have k0 : Tryz.prog.cellsOf 22 = 1 := by kernel_rfl
  have k1 : Tryz.prog.cellsOf 23 = 1 := by kernel_rfl
  have k2 : Tryz.prog.cellsOf 24 = 1 := by kernel_rfl
  simp [Value.cells, k0, k1, k2] at g0 g1 g2 g3
  obtain ⟨t, e0, _, w0⟩ := DataW.trod_int Tryz.underlying22 g0
  simp at e0
  subst e0
  obtain ⟨p, hp1, hp2, hp3⟩ := bs_open g1
  obtain ⟨s, h1, h2, h3, h4⟩ := ens_open g2
  obtain ⟨q, hq1, hq2, hq3⟩ := bs_open g3
  have bd : 0 ≤ t ∧ t ≤ 18446744073709551615 := by simpa [Lit.wf, IntKind.min, IntKind.max, IntKind.signed, IntKind.bits] using w0
  have et : ((t.toNat : Nat) : Int) = t := by omega
  refine ⟨⟨t.toNat, p, s, q⟩, v1, v2, v3, ⟨?_, hp1, h1, hq1⟩, ⟨by simp only; omega, hp3, hq3, h2⟩, hp2, hq2, h3⟩
  simp only [et]
end Go.Proofs.YtiolgenaefillaaGreat
