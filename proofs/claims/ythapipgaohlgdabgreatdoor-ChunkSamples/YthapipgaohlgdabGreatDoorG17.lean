/- Several texts in one: Ve, Dr, Dd, Dd2. -/
import Derived.Test.YthapipgaohlgdabGreatDoorG16
import Derived.Test.YthapipgaohlgdabGreatDoorG12
import Derived.Test.YthapipgaohlgdabGreatDoorG14
import Derived.Test.YthapipgaohlgdabGreatDoorG9
import Derived.Test.YthapipgaohlgdabGreatDoorG4
import Derived.Test.YthapipgaohlgdabGreatDoorG15
import Derived.Test.YthapipgaohlgdabGreatDoorG2
import Derived.Test.YthapipgaohlgdabGreatDoorG7

/- Package valcodec: Encode. -/
namespace Go.Proofs.YthapipgaohlgdabGreatDoor
open Go.RowKit Go.Shelf
attribute [local go_sem] Oper.semAt_some

def pk11 (l : List Int) (t : Nat) : List Int := ((pick11 l t).1 : Int) :: (pick11 l t).2
/-- what the variable holds, t ways having been tried -/
def Sh11 (lo : Nat) (l : List Int) (t : Nat) (A : World) (sv : Value) : Prop :=
  (t = 0 ∧ sv = .slice none 0 0) ∨ ∃ s, t = s + 1 ∧ A.ownsRow lo 5 1 sv (pk11 l s).length ((pk11 l s).map (Value.int .u8))
def In11 (W0 : World) (Bx lo : Nat) (l : List Int) (t : Nat) (A : World) : Prop := Only (fun k => k = Bx) W0 A ∧ ∃ sv, Boxed A Bx 29 sv ∧ Sh11 lo l t A sv
theorem Sh11.keep {lo : Nat} {l : List Int} {t : Nat} {A B : World} {sv : Value} (h : Sh11 lo l t A sv) {S : Nat → Prop} (o : Only S A B) (hs : ∀ k, sv.ownBlock = some k → ¬ S k) : Sh11 lo l t B sv := by
  rcases h with h | ⟨s, e, h⟩
  · exact .inl h
  · exact .inr ⟨s, e, o.own h hs⟩
theorem In11.past {W0 : World} {Bx lo : Nat} {l : List Int} {t : Nat} {A B : World} (h : In11 W0 Bx lo l t A) (o : Only (fun _ => False) A B) : In11 W0 Bx lo l t B := by
  obtain ⟨h1, sv, h2, h3⟩ := h
  exact ⟨h1.trans o (fun _ _ f => f.elim), sv, box_keep h2 o (fun f => f), h3.keep o (fun _ _ f => f)⟩
theorem In11.loop {W0 : World} {Bx lo : Nat} {l : List Int} {t : Nat} {A B : World} (h : In11 W0 Bx lo l t A) {L : Nat} {r : Loop} (hl : A.heap[L]? = some (.loop r)) (o : Only (fun k => k = L) A B) (hL : W0.heap.size ≤ L) : In11 W0 Bx lo l t B := by
  obtain ⟨h1, sv, h2, h3⟩ := h
  refine ⟨h1.trans o (fun k hk e => by omega), sv, box_keep h2 o (fun e => ?_), h3.keep o (fun k hk e => ?_)⟩
  · subst e
    rw [show A.heap[Bx]? = _ from h2] at hl; cases hl
  · subst e
    rcases h3 with ⟨_, rfl⟩ | ⟨s, _, ho⟩
    · cases hk
    · rcases ho.2 with ⟨rfl, _⟩ | ⟨g, cap, cur, rfl, _, hg, _⟩
      · cases hk
      · obtain rfl : g = k := by simpa [Value.ownBlock] using hk
        rw [hg] at hl; cases hl
theorem In11.skip {W0 : World} {Bx lo : Nat} {l : List Int} {t : Nat} {A : World} (h : In11 W0 Bx lo l t A) (he : (W11 l t).2 ≠ 0) : In11 W0 Bx lo l (t + 1) A := by
  obtain ⟨h1, sv, h2, h3⟩ := h
  refine ⟨h1, sv, h2, ?_⟩
  rcases h3 with ⟨rfl, _⟩ | ⟨s, rfl, ho⟩
  · exact absurd rfl he
  · refine .inr ⟨s + 1, rfl, ?_⟩
    have e : pk11 l (s + 1) = pk11 l s := by
      unfold pk11
      rw [pick11, if_neg (fun c => he c.1)]
    rw [e]; exact ho
theorem In11.stays {W0 : World} {Bx lo : Nat} {l : List Int} {s : Nat} {A : World} (h : In11 W0 Bx lo l (s + 1) A) (hc : ¬ (W11 l (s + 1)).1.length < (pick11 l s).2.length) : In11 W0 Bx lo l (s + 1 + 1) A := by
  obtain ⟨h1, sv, h2, h3⟩ := h
  refine ⟨h1, sv, h2, ?_⟩
  rcases h3 with ⟨e, _⟩ | ⟨s', e, ho⟩
  · omega
  · obtain rfl : s = s' := by omega
    refine .inr ⟨s + 1, rfl, ?_⟩
    have e : pk11 l (s + 1) = pk11 l s := by
      unfold pk11
      rw [pick11, if_neg (fun c => hc c.2)]
    rw [e]; exact ho
theorem In11.stored {W0 W A : World} {Bx lo : Nat} {l : List Int} {t : Nat} {v : Value} (h : In11 W0 Bx lo l t W) (hBx : Bx < W0.heap.size) (o : Only (fun _ => False) W A) (hlo : lo ≤ W.heap.size)
    (own : A.ownsRow W.heap.size 5 1 v (pk11 l t).length ((pk11 l t).map (Value.int .u8))) : Only (fun k => k < W0.heap.size) W (A.setCell ⟨Bx, 0, none⟩ v) ∧ In11 W0 Bx lo l (t + 1) (A.setCell ⟨Bx, 0, none⟩ v) := by
  obtain ⟨h1, sv, h2, h3⟩ := h
  have hBW : Bx < W.heap.size := h2.lt
  have o2 : Only (fun k => k = Bx) A (A.setCell ⟨Bx, 0, none⟩ v) := (Only.refl (fun k => k = Bx) A).setCell (p := ⟨Bx, 0, none⟩) (fun _ => rfl) v
  refine ⟨(o.mono (fun _ _ f => f.elim)).trans o2 (fun k _ e => by omega), h1.trans ((o.mono (T := fun k => k = Bx) (fun _ _ f => f.elim)).trans o2 (fun _ _ e => e)) (fun _ _ e => e), v, (box_keep h2 o (fun f => f)).set v, .inr ⟨t, rfl, ?_⟩⟩
  exact o2.own (own_low own hlo) (fun k hk e => by have := (own.lt k hk).1; omega)

/-- a tag and the bytes behind it, in one -/
theorem concat_tag (W : World) (x : Int) (u : Value) (Y : List Int) (hb : Bs .u8 W u Y) (hn : NoCap u) (hl : Y.length ≤ 2000000) :
    Calls Tryz.prog 12 #[.slice (some ⟨W.heap.size + 1, 0, none⟩) 2 2] ((W.alloc (.cells #[.int .u8 x] 5)).alloc (.cells #[.slice (some ⟨W.heap.size, 0, none⟩) 1 1, u] 29)) fun e w' =>
      ∃ g c, e = .returned (.slice (some ⟨g, 0, none⟩) (Y.length + 1) c) ∧ w'.ownsRow W.heap.size 5 1 (.slice (some ⟨g, 0, none⟩) (Y.length + 1) c) (x :: Y).length ((x :: Y).map (Value.int .u8)) ∧ Only (fun _ => False) W w' := by
  obtain ⟨W2, hW2⟩ : ∃ W2, (W.alloc (.cells #[.int .u8 x] 5)).alloc (.cells #[.slice (some ⟨W.heap.size, 0, none⟩) 1 1, u] 29) = W2 := ⟨_, rfl⟩
  have o2 : Only (fun _ => False) W W2 := by rw [← hW2]; exact ((Only.refl _ W).alloc _).alloc _
  have hL : Bs .u8 W2 (.slice (some ⟨W.heap.size, 0, none⟩) 1 1) [x] := by
    rw [← hW2]
    exact (Bs.lit .u8 W 5 [x]).past ((Only.refl _ _).alloc _)
  have hH : W2.heap[W.heap.size + 1]? = some (.cells #[.slice (some ⟨W.heap.size, 0, none⟩) 1 1, u] 29 (0, 0)) := by
    have := World.alloc_heap_new (W.alloc (.cells #[.int .u8 x] 5)) (.cells #[.slice (some ⟨W.heap.size, 0, none⟩) 1 1, u] 29)
    rw [World.size_alloc, hW2] at this; exact this
  have ec : cat (fun i => if i = 0 then [x] else Y) 2 = x :: Y := by rw [cat_succ, cat_succ, cat_zero]; rfl
  have hBB : ∀ i, i < 2 → Bs .u8 W2 (if i = 0 then .slice (some ⟨W.heap.size, 0, none⟩) 1 1 else u) (if i = 0 then [x] else Y) := by
    intro i hi
    rcases (show i = 0 ∨ i = 1 by omega) with rfl | rfl
    · exact hL
    · exact hb.past o2
  have hNN : ∀ i, i < 2 → NoCap (if i = 0 then .slice (some ⟨W.heap.size, 0, none⟩) 1 1 else u) := by
    intro i hi
    rcases (show i = 0 ∨ i = 1 by omega) with rfl | rfl
    · exact NoCap.some _ _ _
    · exact hn
  have C := concat_n (W.heap.size + 1) 2 (fun i => if i = 0 then .slice (some ⟨W.heap.size, 0, none⟩) 1 1 else u) (fun i => if i = 0 then [x] else Y) W2 (by omega) (by omega)
    (fun i hi => by rcases (show i = 0 ∨ i = 1 by omega) with rfl | rfl <;> simp [World.cell?, hH])
    hBB hNN
    (by rw [ec, List.length_cons]; omega) (by rw [ec, List.length_cons]; omega)
  rw [ec] at C
  rw [hW2]
  refine C.mono ?_
  rintro e w' ⟨v', rfl, own, o⟩
  have own' : w'.ownsRow W2.heap.size 5 1 v' (Y.length + 1) ((x :: Y).map (Value.int .u8)) := own
  obtain ⟨g, c, rfl⟩ := ownsRow_succ own'
  exact ⟨g, c, rfl, own_low own o2.size, o2.same o⟩

set_option maxRecDepth 100000 in
set_option maxHeartbeats 1000000 in
theorem encode11_long (v : Value) (l : List Int) (w : World) (h : Bs .u64 w v l) (hl : 65536 < l.length) :
    Calls Tryz.prog 11 #[v] w fun e w' => e = .returned (.tuple #[.slice none 0 0, .int .i64 4]) ∧ w = w' := by
  obtain ⟨ao, cap, rfl⟩ := h.len
  have d1 : decide ((65536 : Int) < (l.length : Int)) = true := decide_eq_true (by omega)
  have d1' : decide (65536 < l.length) = true := decide_eq_true hl
  clear h hl
  refine (callsIn_wide (n := 5)).1 ?_
  refine callsIn_of_wp_marks Tryz.func11 rfl trivial ?_ rfl
  simp only [Tryz.ntmps11, List.size_toArray, List.length_cons, List.length_nil, Nat.reduceAdd, Nat.reduceSub, Array.replicate_succ, Array.replicate_zero, List.push_toArray, List.append_toArray, List.nil_append, List.cons_append]
  gi_wp2
  refine ⟨.tuple #[.slice none 0 0, .int .i64 4], ?_, rfl, rfl⟩
  simp [results, Tryz.f11, go_sem]

set_option maxRecDepth 100000 in
set_option maxHeartbeats 4000000 in
theorem encode11_bs (v : Value) (l : List Int) (w : World) (h : Bs .u64 w v l) (hu : U64 l) (hl : l.length ≤ 65536) (hT : Tab w) :
    Calls Tryz.prog 11 #[v] w fun e w' => ∃ u, e = .returned (.tuple #[u, .int .i64 0]) ∧ w'.ownsRow w.heap.size 5 1 u (pk11 l 3).length ((pk11 l 3).map (Value.int .u8)) ∧ Only (fun _ => False) w w' := by
  have HB := hideIt h
  have HT := hideIt hT
  obtain ⟨ao, cap, rfl⟩ := h.len
  obtain ⟨m, hm⟩ : ∃ m, m = l.length := ⟨_, rfl⟩
  rw [← hm] at HB
  rw [← hm]
  have HM := hideIt hm
  have HL := hideIt hl
  have d1 : decide ((65536 : Int) < (m : Int)) = false := decide_eq_false (by omega)
  have d1' : decide (65536 < m) = false := decide_eq_false (by omega)
  have h0w := hT.pos
  clear h hm hT hl
  refine (callsIn_wide (n := 5)).1 ?_
  refine callsIn_of_wp_marks Tryz.func11 rfl trivial ?_ rfl
  simp only [Tryz.ntmps11, List.size_toArray, List.length_cons, List.length_nil, Nat.reduceAdd, Nat.reduceSub, Array.replicate_succ, Array.replicate_zero, List.push_toArray, List.append_toArray, List.nil_append, List.cons_append]
  gi_wp2_with fail
  refine ⟨trivial, (vways_in _ _ _ _ _).mono ?_⟩
  rintro e w2 ⟨rfl, rfl⟩
  gi_wp2_with fail
  obtain ⟨W0, hW0⟩ : ∃ W0, (w.alloc (.cells #[.slice none 0 0] 29)).alloc (.cells #[.slice ao m cap] 39) = W0 := ⟨_, rfl⟩
  have o0 : Only (fun _ => False) w W0 := by rw [← hW0]; exact ((Only.refl _ w).alloc _).alloc _
  have hsz : W0.heap.size = w.heap.size + 1 + 1 := by rw [← hW0]; simp
  have bX : Boxed W0 w.heap.size 29 (.slice none 0 0) := by rw [← hW0]; exact (Boxed.new w 29 (.slice none 0 0)).alloc _
  have bV : Boxed W0 (w.heap.size + 1) 39 (.slice ao m cap) := by
    rw [← hW0]
    have h := Boxed.new (w.alloc (.cells #[.slice none 0 0] 29)) 39 (.slice ao m cap)
    rw [World.size_alloc] at h; exact h
  rw [hW0]
  have HI0 : In11 W0 w.heap.size w.heap.size l 0 W0 := ⟨Only.refl _ _, _, bX, .inl ⟨rfl, rfl⟩⟩
  refine range_over (gf := 45) (lb := #[.pointer (some ⟨w.heap.size + 1, 0, none⟩)]) rfl (enters_of Tryz.func45 (by kernel_rfl) rfl)
    (fun x : Nat × Value => #[.int .i64 x.1, x.2]) (fun _ => rfl) (In11 W0 w.heap.size w.heap.size l) (fun s x s' A => x.1 = s ∧ s' = s + 1 ∧ s ≤ 3 ∧ (W11 l s).2 = 0 ∧ Bs .u8 A x.2 (W11 l s).1 ∧ NoCap x.2) 0 4
    (fun s A B r hi hl o => hi.loop hl o (by omega)) (fun s A B hi o => hi.past o) (fun s x s' A B r hv hl o => ⟨hv.1, hv.2.1, hv.2.2.1, hv.2.2.2.1, hv.2.2.2.2.1.loop hl o, hv.2.2.2.2.2⟩) HI0
    ?hit (fun x => { tmps := #[.slice ao m cap, undef, .slice none 0 0, .int .i64 0, .pointer (some ⟨w.heap.size, 0, none⟩), .int .i64 x.1, x.2, .slice ao m cap, .int .i64 m, .bool false, .slice ao m cap,
      .func (.func 45) #[] #[.pointer (some ⟨w.heap.size + 1, 0, none⟩)], .int .i64 x.1, x.2, undef, undef, undef, undef, undef, undef, undef, undef, undef, undef, undef, undef, undef, undef, undef, undef, undef], defers := [] }) ?assign ?body ?done
  case hit =>
    intro J W hJ hJo hJs hY h0
    refine vways1_in 4 (W0.heap.size + 1) (w.heap.size + 1) (.slice ao m cap) l hu HL.out J (fun s A hs => ?_) hJo (fun s A h3 hs he => hJs s (s + 1) A hs ((hJ s A hs).skip he)) (fun s u A h3 hs he hb hn => hY s (s, u) (s + 1) A hs ⟨rfl, rfl, h3, he, hb, hn⟩) W h0
    have o := (hJ s A hs).1
    have o' : Only (fun _ => False) w A := o0.trans o (fun k hk e => by omega)
    exact ⟨box_keep bV o (by omega), HB.out.past o', HT.out.past o'⟩
  case assign =>
    intro x W K hK
    gi_wp2
    exact hK
  case body =>
    rintro s ⟨s', u⟩ s'' W hi ⟨rfl, rfl, h3, he, hb, hn⟩
    simp only at hb hn h3 he
    have HI := hideIt hi
    obtain ⟨o1, sv, bx, hsh⟩ := hi
    have hc := bx.cell
    have hf := bx.frozen
    have hlo : w.heap.size ≤ W.heap.size := by have := o1.size; omega
    obtain ⟨au, cu, eu⟩ := hb.len
    subst eu
    rcases hsh with ⟨rfl, rfl⟩ | ⟨s, rfl, ho⟩
    · have hnil : ∀ W, (binOp .eql 29 (.slice none 0 0) (.slice none 0 0)).run Tryz.prog W = .ok (.bool true) W := fun W => by
        rw [Lib.run_eql_slice_nil W 29 5 none 0 0 0 0 Tryz.underlying29]; rfl
      obtain ⟨Y, hY⟩ : ∃ Y, Y = (W11 l 0).1 := ⟨_, rfl⟩
      rw [← hY] at hb hn
      have HPK : Hid (pk11 l 0 = 0 :: Y) := by simp only [Hid]; rw [hY]; rfl
      have HB' := hideIt hb
      have HN' := hideIt hn
      rw [← hY]
      have CT := hideIt (concat_tag W 0 (.slice au Y.length cu) Y hb hn (by rw [hY, ← WAY11_nat HL.out 0 (by omega)]; exact WAY11_len))
      have HBX := hideIt bx
      clear bx hb hn he h3 hY
      gi_wp2_with fail
      refine ⟨trivial, (CallsIn.inRound _ (callsIn_wide.2 CT.out)).mono ?_⟩
      rintro e w4 ⟨g, c, rfl, own4, o4⟩
      have bx4 := box_keep HBX.out o4 (fun f => f)
      rw [← HPK.out] at own4
      have FIN := hideIt (HI.out.stored (by omega) o4 hlo own4)
      have hc4 := bx4.cell
      have hf4 := bx4.frozen
      clear own4 o4 bx4 CT HBX hc hf
      gi_wp2
      exact FIN.out
    · obtain ⟨Y, hY⟩ : ∃ Y, Y = (W11 l (s + 1)).1 := ⟨_, rfl⟩
      rw [← hY] at hb hn
      have hlen : (pk11 l s).length = (pick11 l s).2.length + 1 := rfl
      obtain ⟨q, hq⟩ : ∃ q, q = (pick11 l s).2.length := ⟨_, rfl⟩
      rw [hlen, ← hq] at ho
      obtain ⟨g0, c0, esv⟩ := ownsRow_succ ho
      subst esv
      have hnil : ∀ W, (binOp .eql 29 (.slice (some ⟨g0, 0, none⟩) (q + 1) c0) (.slice none 0 0)).run Tryz.prog W = .ok (.bool false) W := fun W => by
        rw [Lib.run_eql_slice_nil W 29 5 (some ⟨g0, 0, none⟩) (q + 1) c0 0 0 Tryz.underlying29]; rfl
      have hYl : Y.length ≤ 2000000 := by rw [hY, ← WAY11_nat HL.out (s + 1) h3]; exact WAY11_len
      by_cases hcmp : Y.length < q
      · have HPK : Hid (pk11 l (s + 1) = ((s : Int) + 1) :: Y) := by
          simp only [Hid]; unfold pk11
          rw [pick11, if_pos ⟨he, by rw [← hY, ← hq]; exact hcmp⟩, ← hY]
          rfl
        have CT := hideIt (concat_tag W ((s : Int) + 1) (.slice au Y.length cu) Y hb hn hYl)
        rw [← hY]
        have dd : decide ((1 : Int) + (Y.length : Int) < ((q + 1 : Nat) : Int)) = true := decide_eq_true (by omega)
        have dd2 : decide ((1 : Int) + (Y.length : Int) < (q : Int) + 1) = true := decide_eq_true (by omega)
        have HBX := hideIt bx
        clear bx hb hn he hY hlen hq ho hcmp
        gi_wp2_with fail
        refine ⟨trivial, (CallsIn.inRound _ (callsIn_wide.2 CT.out)).mono ?_⟩
        rintro e w4 ⟨g, c, rfl, own4, o4⟩
        have bx4 := box_keep HBX.out o4 (fun f => f)
        rw [← HPK.out] at own4
        have FIN := hideIt (HI.out.stored (by omega) o4 hlo own4)
        have hc4 := bx4.cell
        have hf4 := bx4.frozen
        clear own4 o4 bx4 CT HBX hc hf
        gi_wp2
        exact FIN.out
      · have HST := hideIt (HI.out.stays (by rw [← hY, ← hq]; exact hcmp))
        rw [← hY]
        have dd : decide ((1 : Int) + (Y.length : Int) < ((q + 1 : Nat) : Int)) = false := decide_eq_false (by omega)
        have dd2 : decide ((1 : Int) + (Y.length : Int) < (q : Int) + 1) = false := decide_eq_false (by omega)
        clear bx hb hn he hY hlen hq ho hcmp
        gi_wp2
        exact ⟨Only.refl _ _, HST.out⟩
  case done =>
    intro W hi hD
    obtain ⟨o1, sv, bx, hsh⟩ := hi
    have hc := bx.cell
    rcases hsh with ⟨e, _⟩ | ⟨s, e, ho⟩
    · cases e
    · obtain rfl : s = 3 := by omega
      clear e
      have HO := hideIt ho
      have hlen : (pk11 l 3).length = (pick11 l 3).2.length + 1 := rfl
      rw [hlen] at ho
      obtain ⟨g, cap', e2⟩ := ownsRow_succ ho
      subst e2
      clear hlen ho
      have O1 := hideIt o1
      have HD := hideIt hD
      clear o1 bx
      gi_wp2
      refine ⟨by simp, .inl ⟨_, _, rfl, run_takeDeferred HD.out, ?_⟩⟩
      refine ⟨.tuple #[.slice (some ⟨g, 0, none⟩) ((pick11 l 3).2.length + 1) cap', .int .i64 0], ?_, _, rfl, ownsRow_putObj HO.out _ HD.out rfl, ?_⟩
      · simp [results, Tryz.f11, go_sem]
      · exact (o0.trans O1.out (fun k hk e => by omega)).putObj _ _ (fun hk => by omega)
/-- THE SHORTEST WAY, and its tag ahead, whatever comes in. -/
theorem encode11_all (v : Value) (l : List Int) (w : World) (h : Bs .u64 w v l) (hu : U64 l) (hT : Tab w) :
    Calls Tryz.prog 11 #[v] w fun e w' => ∃ u, e = .returned (.tuple #[u, .int .i64 (ENC11 l).2]) ∧ w'.ownsRow w.heap.size 5 1 u (ENC11 l).1.length ((ENC11 l).1.map (Value.int .u8)) ∧ Only (fun _ => False) w w' := by
  by_cases hl : 65536 < l.length
  · have e : ENC11 l = ([], 4) := if_pos hl
    rw [e]
    refine (encode11_long v l w h hl).mono ?_
    rintro e w' ⟨rfl, rfl⟩
    exact ⟨_, rfl, World.ownsRow_nil _ _ _ _, Only.refl _ _⟩
  · rw [ENC11_of (by omega)]
    exact encode11_bs v l w h hu (by omega) hT
end Go.Proofs.YthapipgaohlgdabGreatDoor

/- Package dict: readDictionary. -/
namespace Go.Proofs.YthapipgaohlgdabGreatDoor
open Go.RowKit Go.Maps

theorem lt_of_heap {w : World} {k : Nat} {o : Obj} (h : w.heap[k]? = some o) : k < w.heap.size := (Array.getElem?_eq_some_iff.1 h).1

set_option maxHeartbeats 400000 in
theorem rdict_err {w : World} {R : Nat} {v : Value} {ys : List Int} (h : CurAt 77 w R v ys) (N : Nat) {a : Int} {k : Nat} {c : Int} (hs : sVarint ys = (a, k, c)) (hc : c ≠ 0) :
    Calls Tryz.prog 122 #[.pointer (some ⟨R, 0, none⟩), .int .i64 N] w fun e w' => e = .returned (.tuple #[.slice none 0 0, .int .i64 c]) ∧ Only (fun k => k = R) w w' := by
  have VC := hideIt (varint_cur h)
  rw [hs] at VC
  have dc : (c != 0) = true := by simpa using hc
  clear h hs hc
  go_enter Tryz.func122, Tryz.ntmps122
  go_wp2_with fail
  refine VC.out.mono ?_
  rintro e w1 ⟨rfl, v2, _, _, o2⟩
  have O2 := hideIt o2
  clear o2 VC
  go_wp2
  go_ret2
  exact ⟨rfl, O2.out⟩

set_option maxHeartbeats 400000 in
theorem rdict_many {w : World} {R : Nat} {v : Value} {ys : List Int} (h : CurAt 77 w R v ys) (N : Nat) {a k : Nat} (hs : sVarint ys = ((a : Int), k, 0)) (hN : N ≤ 65536) (hc : N < a) :
    Calls Tryz.prog 122 #[.pointer (some ⟨R, 0, none⟩), .int .i64 N] w fun e w' => e = .returned (.tuple #[.slice none 0 0, .int .i64 3]) ∧ Only (fun k => k = R) w w' := by
  have VC := hideIt (varint_cur h)
  rw [hs] at VC
  have dc : decide ((N : Int) < (a : Int)) = true := by simp; omega
  have dn : N < a := hc
  clear h hs hc
  go_enter Tryz.func122, Tryz.ntmps122
  go_wp2_with fail
  refine VC.out.mono ?_
  rintro e w1 ⟨rfl, v2, _, _, o2⟩
  have O2 := hideIt o2
  clear o2 VC
  go_wp2
  go_ret2
  exact ⟨rfl, O2.out⟩

set_option maxHeartbeats 1000000 in
set_option maxRecDepth 100000 in
theorem rdict_bs {w : World} {R : Nat} {v : Value} {ys : List Int} (h : CurAt 77 w R v ys) (hv : ∀ k, v.ownBlock = some k → k < w.heap.size) (N : Nat) {a q : Nat} (hs : sVarint ys = ((a : Int), q, 0)) (hN : N ≤ 65536) (hc : a ≤ N) (rest : List Int) (hrest : rest = ys.drop q) :
    Calls Tryz.prog 122 #[.pointer (some ⟨R, 0, none⟩), .int .i64 N] w fun e w' =>
      (Hid (rest.length < 8 * a) ∧ e = .returned (.tuple #[.slice none 0 0, .int .i64 2]) ∧ Only (fun k => k = R) w w') ∨
      (Hid (8 * a ≤ rest.length) ∧ ∃ u v2, e = .returned (.tuple #[u, .int .i64 0]) ∧ w'.ownsRow w.heap.size 26 1 u a ((rd8 a rest).map (Value.int .u64)) ∧ CurAt 77 w' R v2 (rest.drop (8 * a)) ∧ v2.ownBlock = v.ownBlock ∧ Only (fun k => k = R) w w') := by
  obtain ⟨i0, hi, hz0, hz1, hz2⟩ := info_parts Tryz.infoU64
  have VC := hideIt (varint_cur h)
  rw [hs] at VC
  simp only at VC
  rw [← hrest] at VC
  have HR := hideIt (lt_of_heap h.cell)
  have HV := hideIt hv
  have dc : decide ((N : Int) < (a : Int)) = false := by simp; omega
  have dn : decide (N < a) = false := decide_eq_false (by omega)
  clear h hs hrest hv
  go_enter Tryz.func122, Tryz.ntmps122
  go_wp2_with fail
  refine VC.out.mono ?_
  rintro e w1 ⟨rfl, v1, cu1, ob1, o1⟩
  have C1 : Hid (CurAt 77 w1 R v1 (rest.drop (8 * 0))) := cu1
  have OB1 := hideIt ob1
  have O1 := hideIt o1
  clear cu1 ob1 o1 VC
  go_wp2
  go_loopw [8, 24] (fun s i wr => ∃ j : Nat, j ≤ a ∧ i = .int .u64 j ∧ Hid (8 * j ≤ rest.length) ∧ wr.ownsRow w.heap.size 26 1 s j ((rd8 j rest).map (Value.int .u64)) ∧ ∃ v2, CurAt 77 wr R v2 (rest.drop (8 * j)) ∧ v2.ownBlock = v.ownBlock ∧ Only (fun k => k = R) w wr) (fun _ i _ => a - (intOf i).toNat)
  case atStart => exact ⟨0, Nat.zero_le _, rfl, by simp [Hid], World.ownsRow_nil _ _ _ _, v1, C1.out, OB1.out, O1.out⟩
  case round =>
    clear C1 OB1 O1
    obtain ⟨j, hj, rfl, HJ, hown, v2, hcur, hob, hon⟩ := hrel
    by_cases hlt : j < a
    · have dlt : decide ((j : Int) < (a : Int)) = true := by simp; omega
      have FC := hideIt (fixed_cur hcur 8)
      have HOB := hideIt hob
      have HON := hideIt hon
      have HOWN := hideIt hown
      by_cases h8 : rest.length < 8 * j + 8
      · have e1 : sFixed 8 (rest.drop (8 * j)) = (0, 0, 2) := by
          unfold sFixed; rw [if_neg (by omega), if_pos (by rw [List.length_drop]; omega)]
        rw [e1] at FC
        have HS : Hid (rest.length < 8 * a) := (by omega : rest.length < 8 * a)
        clear e1 h8 hcur hob hon hown
        go_wp2_with fail
        refine FC.out.mono ?_
        rintro e w4 ⟨rfl, v4, _, _, o4⟩
        have O4 := hideIt (HON.out.trans o4 (fun _ _ f => f))
        clear o4 FC
        go_wp2
        go_ret2
        exact .inl ⟨HS, rfl, O4.out⟩
      · have e1 : sFixed 8 (rest.drop (8 * j)) = (((num ((rest.drop (8 * j)).take 8) : Nat) : Int), 8, 0) := by
          unfold sFixed; rw [if_neg (by omega), if_neg (by rw [List.length_drop]; omega)]; rfl
        rw [e1] at FC
        simp only [List.drop_drop] at FC
        have HJ2 : Hid (8 * (j + 1) ≤ rest.length) := (by omega : 8 * (j + 1) ≤ rest.length)
        have HST := hideIt (rd8_snoc j rest)
        have hxl : num ((rest.drop (8 * j)).take 8) < 18446744073709551616 := by
          have h1 := num_lt ((rest.drop (8 * j)).take 8) (fun y hy => hcur.rng y (List.mem_of_mem_take hy))
          have h2 : (256 : Nat) ^ ((rest.drop (8 * j)).take 8).length ≤ 256 ^ 8 := Nat.pow_le_pow_right (by omega) (by rw [List.length_take]; omega)
          have h3 : (256 : Nat) ^ 8 = 18446744073709551616 := by decide
          omega
        rw [show 8 * j + 8 = 8 * (j + 1) by omega] at FC
        generalize num ((rest.drop (8 * j)).take 8) = x at *
        obtain ⟨d, hd⟩ : ∃ d, d = rd8 j rest := ⟨_, rfl⟩
        have hdl : d.length = j := by rw [hd, rd8_len]
        rw [← hd] at HOWN HST
        obtain ⟨a6, c6, e6⟩ : ∃ a6 c6, u8 = .slice a6 j c6 := by
          have := (Bs.of_own (k := .u64) (xs := d) (by rw [hdl]; exact HOWN.out)).len
          rw [hdl] at this; exact this
        subst e6
        clear e1 h8 hcur hob hon hown hd hdl
        go_wp2_with fail
        refine FC.out.mono ?_
        rintro e w4 ⟨rfl, v4, cu4, ob4, o4⟩
        have hrow := o4.own HOWN.out (fun k hk f => by have := (HOWN.out.lt k hk).1; have := HR.out; omega)
        have C4 := hideIt cu4
        have OB4 := hideIt (ob4.trans HOB.out)
        have O4 := hideIt (HON.out.trans o4 (fun _ _ f => f))
        clear FC cu4 ob4 o4 HOWN HON HOB
        have s4 : w.heap.size ≤ w4.heap.size := O4.out.size
        go_wp2_with (at_builtin; refine wpList_append_own _ rfl _ _ 39 rfl w.heap.size 26 i0 (.int .u64 0) 1 8 Tryz.underlying39 hi hz0 hz1 hz2 rfl (by decide) _ j _ rfl (hrow.alloc _) ⟨w4.heap.size, 0, none⟩ 1 1 [.int .u64 (x : Int)] rfl rfl (cell_one_new _ _ _) (ints_oneCell .u64 [(x : Int)]) (by unfold maxLen; omega) (by omega) (by simp; omega) ?_; intro v' w6 hown' hgrow2 hnil2)
        have OW6 : Hid (w6.ownsRow w.heap.size 26 1 v' (j + 1) ((rd8 (j + 1) rest).map (Value.int .u64))) := by
          simp only [Hid]; rw [HST.out, List.map_append]; exact hown'
        have ONA : Only (fun k => k = R) w4 (w4.alloc (.cells #[.int .u64 (x : Int)] 26)) := (Only.refl _ _).alloc _
        have ON6 : Only (fun k => (Value.slice a6 j c6).ownBlock = some k) w4 w6 := ((Only.refl _ w4).alloc _).grown hgrow2 (fun k hk e => e)
        have O6 := hideIt (O4.out.trans ON6 (fun i hi f => absurd (hrow.lt i f).1 (by omega)))
        have C6 := hideIt (C4.out.keep ON6 (fun f => by have := (hrow.lt R f).1; have := HR.out; omega) (fun k hk f => by
          rw [OB4.out] at hk
          have := HV.out k hk; have := (hrow.lt k f).1; omega))
        clear hown' hgrow2 hnil2 hrow ONA ON6 C4 O4
        go_wp2
        go_roundw
        case rel => exact ⟨j + 1, by omega, by go_num, HJ2, OW6.out, v4, C6.out, OB4.out, O6.out⟩
        case measure => simp [intOf]; omega
    · obtain rfl : j = a := by omega
      have dlt : decide ((j : Int) < (j : Int)) = false := by simp
      have HOB := hideIt hob
      have HON := hideIt hon
      have HOWN := hideIt hown
      have HC := hideIt hcur
      clear hown hcur hob hon
      go_wp2
      go_ret2
      exact .inr ⟨HJ, _, v2, rfl, HOWN.out, HC.out, HOB.out, HON.out⟩
end Go.Proofs.YthapipgaohlgdabGreatDoor

/- Package dict: read, Decode. -/
namespace Go.Proofs.YthapipgaohlgdabGreatDoor
open Go.RowKit Go.Maps

theorem rdP_take (w : Nat) : ∀ (n j : Nat) (k : List Bool), j ≤ n → (rdP w n k).take j = rdP w j k
  | n, 0, k, _ => by simp [rdP]
  | 0, j + 1, k, h => by omega
  | n + 1, j + 1, k, h => by rw [rdP, rdP, List.take_succ_cons, rdP_take w n j _ (by omega)]
theorem rdP_mem (w n j : Nat) (k : List Bool) (h : j < n) : bnum ((k.drop (j * w)).take w) ∈ rdP w n k := by
  refine List.mem_of_mem_take (i := j + 1) ?_
  rw [rdP_take w n (j + 1) k h, rdP_snoc]
  simp
/-- the first k patterns, and 0 for the others -/
def pt (D : List Int) (w : Nat) (b : List Bool) (n k : Nat) : List Int := ((rdP w k b).map fun p => D.getD p 0) ++ List.replicate (n - k) 0
theorem pt_len (D : List Int) (w : Nat) (b : List Bool) (n k : Nat) (h : k ≤ n) : (pt D w b n k).length = n := by
  unfold pt; rw [List.length_append, List.length_map, rdP_len, List.length_replicate]; omega
theorem pt_zero (D : List Int) (w : Nat) (b : List Bool) (n : Nat) : (pt D w b n 0).map (Value.int .u64) = (madeCells #[Value.int .u64 0] (n * 1)).toList := by
  apply List.ext_getElem?
  intro i
  by_cases h : i < n
  · simp [pt, rdP, madeCells, h, Nat.mod_one]
  · simp [pt, rdP, madeCells, h]
theorem pt_all (D : List Int) (w : Nat) (b : List Bool) (n : Nat) : pt D w b n n = (rdP w n b).map fun p => D.getD p 0 := by simp [pt]
theorem pt_step (D : List Int) (w : Nat) (b : List Bool) (n k : Nat) (h : k < n) : (pt D w b n k).set k (D.getD (bnum ((b.drop (k * w)).take w)) 0) = pt D w b n (k + 1) := by
  unfold pt
  have hlen : ((rdP w k b).map fun p => D.getD p 0).length = k := by rw [List.length_map, rdP_len]
  rw [show n - k = (n - (k + 1)) + 1 by omega, List.replicate_succ, List.set_append_right _ _ (by omega), hlen, Nat.sub_self, List.set_cons_zero, rdP_snoc, List.map_append, List.append_assoc]
  rfl

/-- what is read behind the varint, unheld against what would be written -/
def RB (many n : Nat) (rest : List Int) : List Int × Int :=
  if rest.length < 8 * many then ([], 2) else
  if (allBits (rest.drop (8 * many))).length < n * wP many then ([], 2) else
  if ∃ p ∈ rdP (wP many) n (allBits (rest.drop (8 * many))), many ≤ p then ([], 3) else
  ((rdP (wP many) n (allBits (rest.drop (8 * many)))).map (fun p => (rd8 many rest).getD p 0), 0)
def RD10 (ys : List Int) (n : Nat) : List Int × Int :=
  if (sVarint ys).2.2 ≠ 0 then ([], (sVarint ys).2.2) else
  if (n : Int) < (sVarint ys).1 then ([], 3) else RB (sVarint ys).1.toNat n (ys.drop (sVarint ys).2.1)
theorem RB_DECB (many n : Nat) (rest b : List Int) : DECB many n rest b = if (RB many n rest).2 ≠ 0 then ([], (RB many n rest).2) else if (ENC10 (RB many n rest).1).1 = b then ((RB many n rest).1, 0) else ([], 3) := by
  unfold DECB RB
  by_cases c1 : rest.length < 8 * many
  · simp only [if_pos c1]; rfl
  · by_cases c2 : (allBits (rest.drop (8 * many))).length < n * wP many
    · simp only [if_neg c1, if_pos c2]; rfl
    · by_cases c3 : ∃ p ∈ rdP (wP many) n (allBits (rest.drop (8 * many))), many ≤ p
      · simp only [if_neg c1, if_neg c2, if_pos c3]; rfl
      · simp only [if_neg c1, if_neg c2, if_neg c3]; rfl
theorem DEC10_RD (ys : List Int) (n : Nat) (hn : n ≤ 65536) : DEC10 ys n = if (RD10 ys n).2 ≠ 0 then ([], (RD10 ys n).2) else if (ENC10 (RD10 ys n).1).1 = ys then ((RD10 ys n).1, 0) else ([], 3) := by
  unfold DEC10 RD10
  rw [if_neg (by omega), Int.toNat_natCast]
  by_cases c1 : (sVarint ys).2.2 ≠ 0
  · simp only [if_pos c1]
  · by_cases c2 : (n : Int) < (sVarint ys).1
    · simp only [if_neg c1, if_pos c2]; rfl
    · simp only [if_neg c1, if_neg c2]; exact RB_DECB _ _ _ _
theorem RB_u64 {many n : Nat} {rest : List Int} (hr : ∀ y ∈ rest, 0 ≤ y ∧ y ≤ 255) : U64 (RB many n rest).1 := by
  unfold RB
  by_cases c1 : rest.length < 8 * many
  · rw [if_pos c1]; intro x hx; simp at hx
  · rw [if_neg c1]
    by_cases c2 : (allBits (rest.drop (8 * many))).length < n * wP many
    · rw [if_pos c2]; intro x hx; simp at hx
    · rw [if_neg c2]
      by_cases c3 : ∃ p ∈ rdP (wP many) n (allBits (rest.drop (8 * many))), many ≤ p
      · rw [if_pos c3]; intro x hx; simp at hx
      · rw [if_neg c3]
        intro x hx
        obtain ⟨p, hp, rfl⟩ := List.mem_map.1 hx
        have hpm : p < many := by
          rcases Nat.lt_or_ge p many with e | e
          · exact e
          · exact absurd ⟨p, hp, e⟩ c3
        have hp8 : p < (rd8 many rest).length := by rw [rd8_len]; exact hpm
        refine rd8_u64 many rest hr _ ?_
        rw [List.getD_eq_getElem?_getD, List.getElem?_eq_getElem hp8]
        exact List.getElem_mem hp8
theorem RD10_u64 {ys : List Int} {n : Nat} (hr : ∀ y ∈ ys, 0 ≤ y ∧ y ≤ 255) : U64 (RD10 ys n).1 := by
  unfold RD10
  by_cases c1 : (sVarint ys).2.2 ≠ 0
  · rw [if_pos c1]; intro x hx; simp at hx
  · rw [if_neg c1]
    by_cases c2 : (n : Int) < (sVarint ys).1
    · rw [if_pos c2]; intro x hx; simp at hx
    · rw [if_neg c2]; exact RB_u64 (fun y hy => hr y (List.mem_of_mem_drop hy))
theorem sBytes_whole (ys : List Int) : sBytes (ys.length : Int) ys = (ys, ys.length, 0) := by
  unfold sBytes; rw [if_neg (by omega), if_neg (by omega), Int.toNat_natCast, List.take_length]

set_option maxHeartbeats 2000000 in
set_option maxRecDepth 100000 in
theorem read10_bs {w : World} {R : Nat} {v : Value} {ys : List Int} (h : CurAt 77 w R v ys) (hv : ∀ k, v.ownBlock = some k → k < w.heap.size) (n : Nat) {a j : Nat} (hs : sVarint ys = ((a : Int), j, 0)) (hn : n ≤ 65536) (ha : a ≤ n) (rest : List Int) (hrest : rest = ys.drop j) :
    Calls Tryz.prog 101 #[.pointer (some ⟨R, 0, none⟩), .int .i64 n] w fun e w' => ∃ u, e = .returned (.tuple #[u, .int .i64 (RB a n rest).2]) ∧ w'.ownsRow w.heap.size 26 1 u (RB a n rest).1.length ((RB a n rest).1.map (Value.int .u64)) ∧ Only (fun k => k = R) w w' := by
  have RD := hideIt (rdict_bs h hv n hs hn ha rest hrest)
  have hrr : ∀ y ∈ rest, 0 ≤ y ∧ y ≤ 255 := fun y hy => h.rng y (by rw [hrest] at hy; exact List.mem_of_mem_drop hy)
  have HRNG : Hid (∀ y ∈ rest.drop (8 * a), 0 ≤ y ∧ y ≤ 255) := fun y hy => hrr y (List.mem_of_mem_drop hy)
  have HLEN : Hid ((rest.drop (8 * a)).length ≤ 1000000000000) := by
    simp only [Hid]; have := h.len; rw [hrest, List.length_drop, List.length_drop]; omega
  have HR := hideIt (lt_of_heap h.cell)
  have HDU := hideIt (rd8_u64 a rest hrr)
  obtain ⟨E, hE⟩ : ∃ E, E = RB a n rest := ⟨_, rfl⟩
  rw [← hE]
  have HE := hideIt hE
  clear h hv hs hrest hrr hE
  go_enter Tryz.func101, Tryz.ntmps101
  go_wp2_with fail
  refine RD.out.mono ?_
  rintro e w1 (⟨HS, rfl, o1⟩ | ⟨HS, u, v2, rfl, own1, cu1, ob1, o1⟩)
  · have HE2 : Hid (E = ([], 2)) := by simp only [Hid]; rw [HE.out]; unfold RB; rw [if_pos HS.out]
    have O1 := hideIt o1
    clear o1 RD HE
    go_wp2
    go_ret2
    have hE := HE2.out
    subst hE
    exact ⟨_, rfl, World.ownsRow_nil _ _ _ _, O1.out⟩
  · obtain ⟨D, hD⟩ : ∃ D, D = rd8 a rest := ⟨_, rfl⟩
    obtain ⟨r, hr⟩ : ∃ r, r = rest.drop (8 * a) := ⟨_, rfl⟩
    have hdl : D.length = a := by rw [hD, rd8_len]
    have HE2 : Hid (E = if (allBits r).length < n * wP a then ([], 2) else if ∃ p ∈ rdP (wP a) n (allBits r), a ≤ p then ([], 3) else ((rdP (wP a) n (allBits r)).map (fun p => D.getD p 0), 0)) := by
      simp only [Hid]; rw [HE.out]; unfold RB; have := HS.out; rw [if_neg (by omega), ← hr, ← hD]
    rw [← hD] at own1 HDU
    rw [← hr] at cu1 HRNG HLEN
    obtain ⟨a6, c6, e6⟩ : ∃ a6 c6, u = .slice a6 a c6 := by
      have := (Bs.of_own (k := .u64) (xs := D) (by rw [hdl]; exact own1)).len
      rw [hdl] at this; exact this
    subst e6
    have OW1 := hideIt own1
    have O1 := hideIt o1
    have HDL := hideIt hdl
    have C := hideIt (Left_cur cu1)
    have B := hideIt (bytes_cur cu1 r.length)
    rw [sBytes_whole] at B
    have VB : Hid (∀ k, (Value.slice a6 a c6).ownBlock = some k → w.heap.size ≤ k ∧ k < w1.heap.size) := fun k hk => own1.lt k hk
    obtain ⟨q, hq⟩ : ∃ q, q = wP a := ⟨_, rfl⟩
    have hq16 : q ≤ 16 := by rw [hq]; exact wP_le (by omega)
    rw [← hq] at HE2
    have HQ := hideIt hq
    obtain ⟨rl, hrl⟩ : ∃ rl, rl = r.length := ⟨_, rfl⟩
    rw [← hrl] at C B HLEN
    have HRL := hideIt hrl
    have rl0 : rl ≤ 1000000000000 := HLEN.out
    clear own1 o1 RD hD hdl hr cu1 ob1 HE hrl hq
    go_wp2_with fail
    refine C.out.mono ?_
    rintro e w1' ⟨rfl, rfl⟩
    clear C
    go_wp2_with fail
    refine B.out.mono ?_
    rintro e w2 ⟨v3, rfl, b3, _, _, v4, _, _, o2⟩
    have EN := hideIt (newReader_bs v3 r w2 b3 HRNG.out (by rw [← HRL.out]; exact rl0))
    have O2 := hideIt (O1.out.trans o2 (fun _ _ e => e))
    have OW2 := hideIt (o2.own OW1.out (fun k hk f => by have := (VB.out k hk).1; have := HR.out; omega))
    have S2 := hideIt o2.size
    obtain ⟨a3, c3, e3⟩ := b3.len
    subst e3
    rw [← HRL.out] at EN ⊢
    clear B o2 b3
    go_wp2_with fail
    refine EN.out.mono ?_
    rintro e w3 ⟨R4, v5, rfl, r4, o3, g1, g2, g3⟩
    have PW := hideIt (placeWidth_any a w3 (by omega))
    rw [← HQ.out] at PW
    have F := hideIt (left_rd r4)
    rw [← HRL.out] at F
    have O3 := hideIt (O2.out.trans o3 (fun _ _ f => f.elim))
    have OW3 := hideIt (o3.own OW2.out (fun _ _ f => f))
    have R4' := hideIt r4
    have S3 := hideIt o3.size
    have G := hideIt (And.intro g1 (And.intro g2 g3))
    clear EN o3 r4 g1 g2 g3
    go_wp2_with fail
    refine PW.out.mono ?_
    rintro e w3' ⟨rfl, rfl⟩
    clear PW
    go_wp2_with fail
    refine F.out.mono ?_
    rintro e w5 ⟨rfl, o5⟩
    have O5 := hideIt (O3.out.trans o5 (fun _ _ f => f.elim))
    have R5 := hideIt (R4'.out.keep o5 (fun f => f) (fun _ _ f => f))
    have OW5 := hideIt (o5.own OW3.out (fun _ _ f => f))
    have S5 := hideIt o5.size
    clear F o5
    have hnq : n * q ≤ 65536 * 16 := Nat.mul_le_mul hn hq16
    have hnqI : Hid (((n : Int) * (q : Int)) = ((n * q : Nat) : Int)) := by simp only [Hid]; simp
    have m0 : 0 ≤ (n : Int) * (q : Int) := by rw [hnqI.out]; omega
    have m1 : (n : Int) * (q : Int) ≤ 1048576 := by rw [hnqI.out]; omega
    have hal := allBits_length r
    rw [← HRL.out] at hal
    by_cases hsh : 8 * rl < n * q
    · have HE3 := HE2.out
      rw [if_pos (by rw [hal]; exact hsh)] at HE3
      have HE3 := hideIt HE3
      have d2 : decide (8 * (rl : Int) < (n : Int) * (q : Int)) = true := by rw [hnqI.out]; simp only [decide_eq_true_eq]; omega
      clear hsh hal hnq HE2
      go_wp2
      go_ret2
      have hE := HE3.out
      subst hE
      exact ⟨_, rfl, World.ownsRow_nil _ _ _ _, O5.out⟩
    · have HE3 := HE2.out
      rw [if_neg (by rw [hal]; exact hsh)] at HE3
      have HE3 := hideIt HE3
      have d2 : decide (8 * (rl : Int) < (n : Int) * (q : Int)) = false := by rw [hnqI.out]; simp only [decide_eq_false_iff_not]; omega
      have HSH := hideIt hsh
      obtain ⟨i0, hi, hz0, hz1, hz2⟩ := info_parts Tryz.infoU64
      obtain ⟨wm, hmk, hown0, hgr⟩ := run_make_full (P := Tryz.prog) w5 w5.heap.size 39 26 i0 (.int .u64 0) 1 Tryz.underlying39 hi hz0 hz1 .i64 .i64 n (by rw [hz2]; omega) (by unfold maxLen; omega) (Nat.le_refl _)
      rw [show (Value.int .u64 0).cells = #[Value.int .u64 0] from rfl, ← pt_zero D q (allBits r) n] at hown0
      have om : Only (fun _ => False) w5 wm := (Only.refl _ _).grown hgr (fun _ _ e => by cases e)
      have G2 : Hid (R4 < w5.heap.size ∧ (∀ k, v5.ownBlock = some k → k < w5.heap.size) ∧ w.heap.size ≤ w5.heap.size ∧ w.heap.size ≤ R4 ∧ (∀ k, (Value.slice a6 a c6).ownBlock = some k → k < w5.heap.size ∧ k ≠ R4)) := by
        have g := G.out
        have s5 := S5.out
        have s2 := S2.out
        have s1 := O1.out.size
        have s3 := S3.out
        exact ⟨by omega, fun k hk => by have := (g.2.2 k hk).2; omega, O5.out.size, by have := O2.out.size; omega, fun k hk => by have := (VB.out k hk).2; omega⟩
      have START : Hid (RdAt 152 wm R4 v5 r (0 * q) ∧ wm.ownsRow w5.heap.size 26 1 (.slice (some ⟨w5.heap.size, 0, none⟩) n n) n ((pt D q (allBits r) n 0).map (Value.int .u64)) ∧ Only (fun j => j = R) w wm ∧ wm.ownsRow w.heap.size 26 1 (.slice a6 a c6) a (D.map (Value.int .u64)) ∧ (∀ p ∈ rdP q 0 (allBits r), p < a)) :=
        ⟨by rw [Nat.zero_mul]; exact R5.out.keep om (fun f => f) (fun _ _ f => f), hown0, O5.out.trans om (fun _ _ f => f.elim), om.own OW5.out (fun _ _ f => f), fun p hp => by simp [rdP] at hp⟩
      obtain ⟨N, hN⟩ : ∃ N, N = w5.heap.size := ⟨_, rfl⟩
      rw [← hN] at hmk START G2
      clear hsh hown0 hgr om R5 R4' G S5 O3 O2 O1 hN OW5 OW3 OW2 OW1 hnq VB HE2 hal
      go_wp2
      go_loopw [47] (fun i wr => ∃ k : Nat, k ≤ n ∧ i = .int .i64 k ∧ RdAt 152 wr R4 v5 r (k * q) ∧ wr.ownsRow N 26 1 (.slice (some ⟨N, 0, none⟩) n n) n ((pt D q (allBits r) n k).map (Value.int .u64)) ∧ Only (fun j => j = R) w wr ∧ wr.ownsRow w.heap.size 26 1 (.slice a6 a c6) a (D.map (Value.int .u64)) ∧ (∀ p ∈ rdP q k (allBits r), p < a)) (fun i _ => n - (intOf i).toNat)
      case atStart => exact ⟨0, Nat.zero_le _, rfl, START.out⟩
      case round =>
        obtain ⟨k, hk, rfl, hrd, hown, hon, hdic, hpl⟩ := hrel
        clear START hmk
        have HOWN := hideIt hown
        have HON := hideIt hon
        have HPL := hideIt hpl
        have HDIC := hideIt hdic
        by_cases hlt : k < n
        · have hkq : k * q + q ≤ 8 * r.length := by
            have h1 : (k + 1) * q ≤ n * q := Nat.mul_le_mul_right q (by omega)
            rw [Nat.add_mul, Nat.one_mul] at h1
            have := HSH.out
            have := HRL.out
            omega
          have GT := get_rd hrd (q : Int) (by omega) (by omega) (by omega)
          rw [Int.toNat_natCast] at GT
          have GT := hideIt GT
          have hx : Hid (bnum (((allBits r).drop (k * q)).take q) < 18446744073709551616) := by
            have h1 := bnum_lt (((allBits r).drop (k * q)).take q)
            have h2 : 2 ^ (((allBits r).drop (k * q)).take q).length ≤ 2 ^ 64 := Nat.pow_le_pow_right (by omega) (by rw [List.length_take]; omega)
            have h3 : (2 : Nat) ^ 64 = 18446744073709551616 := by decide
            simp only [Hid]; omega
          have dlt : decide ((k : Int) < (n : Int)) = true := by simp; omega
          have MEM := hideIt (rdP_mem q n k (allBits r) hlt)
          have SNO := hideIt (rdP_snoc q k (allBits r))
          have hstep := pt_step D q (allBits r) n k hlt
          clear hrd hkq hown hon hpl hdic
          generalize bnum (((allBits r).drop (k * q)).take q) = x at *
          go_wp2_with fail
          refine GT.out.mono ?_
          rintro e w6 ⟨rfl, r6, o6⟩
          have own6 := o6.own HOWN.out (fun j hj => by
            have e1 : j = N := by simp [Value.ownBlock] at hj; exact hj.symm
            have := G2.out.1
            omega)
          have dic6 := o6.own HDIC.out (fun j hj f => (G2.out.2.2.2.2 j hj).2 f)
          have O6 := hideIt (HON.out.trans o6 (fun i hi e => by have := G2.out.2.2.2.1; omega))
          have R6 := hideIt r6
          have hxx := hx.out
          by_cases hxa : a ≤ x
          · have HE4 := HE3.out
            rw [if_pos ⟨x, MEM.out, hxa⟩] at HE4
            have HE4 := hideIt HE4
            have da : decide ((a : Int) ≤ (x : Int)) = true := by simp; omega
            have db : decide (a ≤ x) = true := decide_eq_true hxa
            clear GT own6 dic6 r6 o6 hxx hx HE3 hstep
            go_wp2
            go_ret2
            have hE := HE4.out
            subst hE
            exact ⟨_, rfl, World.ownsRow_nil _ _ _ _, O6.out⟩
          · have da : decide ((a : Int) ≤ (x : Int)) = false := by simp; omega
            have db : decide (a ≤ x) = false := decide_eq_false hxa
            have ck : w6.cell? ⟨N, k, none⟩ = some (.int .u64 ((pt D q (allBits r) n k).getD k 0)) := by
              rw [own6.cellAt k (by omega), List.getElem?_map, List.getElem?_eq_getElem (by rw [pt_len _ _ _ _ _ hk]; exact hlt), List.getD_eq_getElem?_getD, List.getElem?_eq_getElem (by rw [pt_len _ _ _ _ _ hk]; exact hlt)]
              rfl
            have fk : w6.frozen? ⟨N, k, none⟩ = false := own6.frozenAt _
            obtain ⟨b7, o7, c7, e7, hc7⟩ := (Bs.of_own (k := .u64) (xs := D) (by rw [HDL.out]; exact dic6)).at x (by rw [HDL.out]; omega)
            have ea : a6 = some ⟨b7, o7, none⟩ := by simp at e7; exact e7.1
            subst ea
            have HB7 := hideIt (G2.out.2.2.2.2 b7 rfl)
            have hstep : Hid (((pt D q (allBits r) n k).map (Value.int .u64)).set k (.int .u64 (D.getD x 0)) = (pt D q (allBits r) n (k + 1)).map (Value.int .u64)) := by
              simp only [Hid]; rw [← List.map_set, hstep]
            have PL2 : Hid (∀ p ∈ rdP q (k + 1) (allBits r), p < a) := by
              intro p hp
              rw [SNO.out, List.mem_append] at hp
              rcases hp with hp | hp
              · exact HPL.out p hp
              · simp at hp; omega
            have OWN6 := hideIt own6
            have DIC6 := hideIt dic6
            obtain ⟨z, hz⟩ : ∃ z, z = (pt D q (allBits r) n k).getD k 0 := ⟨_, rfl⟩
            rw [← hz] at ck
            obtain ⟨y, hy⟩ : ∃ y, y = D.getD x 0 := ⟨_, rfl⟩
            rw [← hy] at hc7 hstep
            have xi : (x : Int) < (a : Int) := by omega
            clear GT own6 dic6 r6 o6 hz hx e7 hy hxa HE3 HOWN HON HDIC HPL SNO MEM
            go_wp2
            go_roundw
            case rel =>
              have g := G2.out
              have hb7 := HB7.out
              have oN : Only (fun j => j = N) w6 (w6.setCell ⟨N, k, none⟩ (.int .u64 y)) := (Only.refl (fun j => j = N) w6).setCell (fun _ => rfl) _
              refine ⟨k + 1, by omega, by simp, ?_, ?_, ?_, ?_, PL2.out⟩
              · rw [Nat.add_mul, Nat.one_mul]
                exact R6.out.keep oN (by omega) (fun j hj => by have := g.2.1 j hj; omega)
              · have h1 := (OWN6.out.stored k (.int .u64 y)).1
                rw [hstep.out] at h1
                exact h1
              · exact O6.out.setCell (fun hb => by simp only at hb; omega) _
              · exact oN.own DIC6.out (fun j hj => by have := (g.2.2.2.2 j hj).1; omega)
            case measure => simp [intOf]; omega
        · obtain rfl : k = n := by omega
          have dlt : decide ((k : Int) < (k : Int)) = false := by simp
          have HE4 := HE3.out
          rw [if_neg (fun ⟨p, hp, h⟩ => by have := hpl p hp; omega)] at HE4
          have HE4 := hideIt HE4
          clear hown hon hrd hdic hpl
          go_wp2
          go_ret2
          have hE := HE4.out
          subst hE
          refine ⟨_, rfl, ?_, HON.out⟩
          have h1 := own_low HOWN.out G2.out.2.2.1
          rw [pt_all] at h1
          rw [List.length_map, rdP_len]
          exact h1
end Go.Proofs.YthapipgaohlgdabGreatDoor

/- Package dict: Decode. -/
namespace Go.Proofs.YthapipgaohlgdabGreatDoor
open Go.RowKit Go.Maps

theorem rd10_all {w : World} {R : Nat} {v : Value} {ys : List Int} (h : CurAt 77 w R v ys) (hv : ∀ k, v.ownBlock = some k → k < w.heap.size) (n : Nat) (hn : n ≤ 65536) :
    Calls Tryz.prog 101 #[.pointer (some ⟨R, 0, none⟩), .int .i64 n] w fun e w' => ∃ u, e = .returned (.tuple #[u, .int .i64 (RD10 ys n).2]) ∧ w'.ownsRow w.heap.size 26 1 u (RD10 ys n).1.length ((RD10 ys n).1.map (Value.int .u64)) ∧ Only (fun k => k = R) w w' := by
  rcases sVarint_cases h.rng with ⟨c, hs, hc⟩ | ⟨a, k, hs, _, _, ha, _⟩
  · have e : RD10 ys n = ([], c) := by unfold RD10; rw [hs]; exact if_pos (show c ≠ 0 by omega)
    rw [e]
    have RD := hideIt (rdict_err h n hs (by omega))
    have dc : (c != 0) = true := by simp; omega
    clear h hv hs hc e
    go_enter Tryz.func101, Tryz.ntmps101
    go_wp2_with fail
    refine RD.out.mono ?_
    rintro e w1 ⟨rfl, o1⟩
    have O1 := hideIt o1
    clear o1 RD
    go_wp2
    go_ret2
    exact ⟨_, rfl, World.ownsRow_nil _ _ _ _, O1.out⟩
  · by_cases hb : n < a
    · have e : RD10 ys n = ([], 3) := by unfold RD10; rw [hs]; simp only [ne_eq, not_true_eq_false, if_false]; exact if_pos (by omega)
      rw [e]
      have RD := hideIt (rdict_many h n hs hn hb)
      clear h hv hs e hb
      go_enter Tryz.func101, Tryz.ntmps101
      go_wp2_with fail
      refine RD.out.mono ?_
      rintro e w1 ⟨rfl, o1⟩
      have O1 := hideIt o1
      clear o1 RD
      go_wp2
      go_ret2
      exact ⟨_, rfl, World.ownsRow_nil _ _ _ _, O1.out⟩
    · have e : RD10 ys n = RB a n (ys.drop k) := by unfold RD10; rw [hs]; simp only [ne_eq, not_true_eq_false, if_false, Int.toNat_natCast]; exact if_neg (by omega)
      rw [e]
      exact read10_bs h hv n hs hn (by omega) _ rfl
set_option maxHeartbeats 400000 in
theorem decode10_arg (v : Value) (n : Int) (w : World) (h : n < 0 ∨ 65536 < n) :
    Calls Tryz.prog 76 #[v, .int .i64 n] w fun e w' => e = .returned (.tuple #[.slice none 0 0, .int .i64 1]) ∧ w = w' := by
  by_cases h0 : n < 0
  · have d0 : decide (n < 0) = true := decide_eq_true h0
    clear h
    go_enter Tryz.func76, Tryz.ntmps76
    go_wp2
    go_ret2
    exact ⟨rfl, rfl⟩
  · have d0 : decide (n < 0) = false := decide_eq_false h0
    have d1 : decide (65536 < n) = true := decide_eq_true (by omega)
    clear h
    go_enter Tryz.func76, Tryz.ntmps76
    go_wp2
    go_ret2
    exact ⟨rfl, rfl⟩
set_option maxHeartbeats 1000000 in
theorem decode10_bs (v : Value) (ys : List Int) (N : Nat) (w : World) (h : Bs .u8 w v ys) (hr : ∀ y ∈ ys, 0 ≤ y ∧ y ≤ 255) (hl : ys.length ≤ 1000000000) (hN : N ≤ 65536) :
    Calls Tryz.prog 76 #[v, .int .i64 N] w fun e w' => ∃ u, e = .returned (.tuple #[u, .int .i64 (DEC10 ys N).2]) ∧ w'.ownsRow w.heap.size 26 1 u (DEC10 ys N).1.length ((DEC10 ys N).1.map (Value.int .u64)) ∧ Only (fun _ => False) w w' := by
  obtain ⟨D, hD⟩ : ∃ D, D = DEC10 ys N := ⟨_, rfl⟩
  rw [← hD]
  rw [DEC10_RD ys N hN] at hD
  have d0 : decide ((N : Int) < 0) = false := by simp
  have d1 : decide (65536 < (N : Int)) = false := by simp; omega
  have HD := hideIt hD
  have HB := hideIt h
  have HR := hideIt hr
  have HU := hideIt (RD10_u64 (n := N) hr)
  have NR := hideIt (new_bs v ys w h hr (by omega))
  clear h hr hD
  go_enter Tryz.func76, Tryz.ntmps76
  go_wp2_with fail
  refine NR.out.mono ?_
  rintro e w1 ⟨R, v1, rfl, r1, o1, g1, g2, g3⟩
  have RA := hideIt (rd10_all r1 (fun k hk => (g3 k hk).2) N hN)
  have O1 := hideIt o1
  have S1 := o1.size
  clear NR r1 o1 g3
  go_wp2_with fail
  refine RA.out.mono ?_
  rintro e w2 ⟨u, rfl, own2, o2⟩
  have B2 := hideIt ((O1.out.low (Nat.le_refl _)).trans (o2.below (B := w.heap.size) S1 (fun k e => by omega)))
  have OW2 := hideIt (own_low own2 S1)
  clear RA o2 O1 own2
  by_cases hb : (RD10 ys N).2 ≠ 0
  · have HD2 : Hid (D = ([], (RD10 ys N).2)) := by simp only [Hid]; rw [HD.out, if_pos hb]
    have dc : ((RD10 ys N).2 != 0) = true := by simpa using hb
    obtain ⟨c, hc⟩ : ∃ c, c = (RD10 ys N).2 := ⟨_, rfl⟩
    rw [← hc] at HD2 dc ⊢
    clear HD hb hc
    go_wp2
    go_ret2
    have hD := HD2.out
    subst hD
    exact ⟨_, rfl, World.ownsRow_nil _ _ _ _, only_of_below B2.out⟩
  · have hz : (RD10 ys N).2 = 0 := by simpa using hb
    rw [hz]
    obtain ⟨L, hL⟩ : ∃ L, L = (RD10 ys N).1 := ⟨_, rfl⟩
    have HD2 : Hid (D = if (ENC10 L).1 = ys then (L, 0) else ([], 3)) := by simp only [Hid]; rw [HD.out, if_neg hb, ← hL]
    rw [← hL] at OW2 HU
    have EN := hideIt (encode10_all u L w2 (Bs.of_own OW2.out) HU.out)
    clear HD hb hz hL
    obtain ⟨a6, c6, e6⟩ := (Bs.of_own OW2.out).len
    subst e6
    obtain ⟨m, hm⟩ : ∃ m, m = L.length := ⟨_, rfl⟩
    rw [← hm] at EN ⊢
    have HM := hideIt hm
    clear hm
    go_wp2_with fail
    refine EN.out.mono ?_
    rintro e w3 ⟨v3, rfl, own3, o3⟩
    have EQ := hideIt (equal_bs v3 v (ENC10 L).1 ys w3 (Bs.of_own own3) ((HB.out.later B2.out).past o3) (ENC10_rng L) HR.out)
    have O3 := hideIt ((only_of_below B2.out).same o3)
    have OW3 := hideIt (o3.own OW2.out (fun _ _ f => f))
    obtain ⟨a7, c7, e7⟩ := (Bs.of_own own3).len
    subst e7
    clear EN own3 o3 OW2
    generalize (ENC10 L).2 = EC at *
    generalize (ENC10 L).1 = E at *
    by_cases he : E = ys
    · rw [decide_eq_true he] at EQ
      have hD := HD2.out
      rw [if_pos he] at hD
      clear HD2 he
      have HD3 := hideIt hD
      clear hD
      obtain ⟨m2, hm2⟩ : ∃ m2, m2 = E.length := ⟨_, rfl⟩
      rw [← hm2] at EQ ⊢
      clear hm2
      go_wp2_with fail
      refine EQ.out.mono ?_
      rintro e w4 ⟨rfl, rfl⟩
      clear EQ
      go_wp2
      go_ret2
      have hD := HD3.out
      subst hD
      exact ⟨_, rfl, by have := OW3.out; rw [HM.out]; exact this, O3.out⟩
    · rw [decide_eq_false he] at EQ
      have hD := HD2.out
      rw [if_neg he] at hD
      clear HD2 he
      have HD3 := hideIt hD
      clear hD
      obtain ⟨m2, hm2⟩ : ∃ m2, m2 = E.length := ⟨_, rfl⟩
      rw [← hm2] at EQ ⊢
      clear hm2
      go_wp2_with fail
      refine EQ.out.mono ?_
      rintro e w4 ⟨rfl, rfl⟩
      clear EQ
      go_wp2
      go_ret2
      have hD := HD3.out
      subst hD
      exact ⟨_, rfl, World.ownsRow_nil _ _ _ _, O3.out⟩
theorem decode10_all (v : Value) (ys : List Int) (n : Int) (w : World) (h : Bs .u8 w v ys) (hr : ∀ y ∈ ys, 0 ≤ y ∧ y ≤ 255) (hl : ys.length ≤ 1000000000) :
    Calls Tryz.prog 76 #[v, .int .i64 n] w fun e w' => ∃ u, e = .returned (.tuple #[u, .int .i64 (DEC10 ys n).2]) ∧ w'.ownsRow w.heap.size 26 1 u (DEC10 ys n).1.length ((DEC10 ys n).1.map (Value.int .u64)) ∧ Only (fun _ => False) w w' := by
  by_cases hn : n < 0 ∨ 65536 < n
  · have e : DEC10 ys n = ([], 1) := if_pos hn
    rw [e]
    refine (decode10_arg v n w hn).mono ?_
    rintro e w' ⟨rfl, rfl⟩
    exact ⟨_, rfl, World.ownsRow_nil _ _ _ _, Only.refl _ _⟩
  · obtain ⟨N, rfl⟩ := Int.eq_ofNat_of_zero_le (show 0 ≤ n by omega)
    exact decode10_bs v ys N w h hr hl (by omega)
end Go.Proofs.YthapipgaohlgdabGreatDoor
