/- The document's manifest: what reads. -/
import Derived.Test.YtiolgenaefillaaGreatRuo21
import Derived.Test.YtiolgenaefillaaGreatG9
import Derived.Test.YtiolgenaefillaaGreatG3
namespace Go.Proofs.YtiolgenaefillaaGreat
open Go.RowKit

/-- bytes lie in no block of other things -/
theorem Bs.offB {w w' : World} {g : Nat} {T : TypeId} {cs : List Value} {v : Value} {ys : List Int} (hb : Bs .u8 w v ys) (hB : Blk w g T cs) (hc : ∀ y ∈ cs, ∀ x, y ≠ .int .u8 x) (o : Only (fun k => k = g) w w') : Bs .u8 w' v ys := by
  obtain ⟨ao, cap, rfl, hl, hr⟩ := hb
  refine ⟨ao, cap, rfl, hl, fun hne => ?_⟩
  obtain ⟨b, off, rfl, h⟩ := hr hne
  refine ⟨b, off, rfl, fun j hj => ?_⟩
  have h0 := h j hj
  by_cases hbg : b = g
  · subst hbg
    rw [hB.cell] at h0
    exact absurd rfl (hc _ (List.mem_of_getElem? h0) _)
  · rw [← h0]
    exact World.cell?_of_block (o.block b (World.block_lt_of_cell? w _ h0) hbg)
theorem Sts.offB {w w' : World} {g : Nat} {T : TypeId} {cs : List Value} {v : Value} {ys : List (List Int)} (hb : Sts w v ys) (hB : Blk w g T cs) (hc : ∀ y ∈ cs, ∀ x, y ≠ .string x) (o : Only (fun k => k = g) w w') : Sts w' v ys := by
  obtain ⟨ao, cap, rfl, hl, hr⟩ := hb
  refine ⟨ao, cap, rfl, hl, fun hne => ?_⟩
  obtain ⟨b, off, rfl, h⟩ := hr hne
  refine ⟨b, off, rfl, fun j hj => ?_⟩
  have h0 := h j hj
  by_cases hbg : b = g
  · subst hbg
    rw [hB.cell] at h0
    exact absurd rfl (hc _ (List.mem_of_getElem? h0) _)
  · rw [← h0]
    exact World.cell?_of_block (o.block b (World.block_lt_of_cell? w _ h0) hbg)
/-- what reads, in memory: the bytes that are left, and why it can't any more -/
def RDR (w : World) (g B : Nat) (s : List Int × Int) : Prop :=
  ∃ ao cap, Blk w g 64 [.slice ao s.1.length cap, .int .i64 s.2] ∧ Bs .u8 w (.slice ao s.1.length cap) s.1 ∧ NoCap (.slice ao s.1.length cap) ∧ (s.1 ≠ [] → ∀ j, (Value.slice ao s.1.length cap).ownBlock = some j → j < B)
theorem rd_kind (ao : Option Addr) (m cap : Nat) (e : Int) : ∀ y ∈ [Value.slice ao m cap, .int .i64 e], ∀ x, y ≠ .int .u8 x := fun y hy x => by
  rcases List.mem_cons.1 hy with rfl | hy
  · intro h; cases h
  · rcases List.mem_cons.1 hy with rfl | hy
    · intro h; cases h
    · cases hy
theorem rd_kindS (ao : Option Addr) (m cap : Nat) (e : Int) : ∀ y ∈ [Value.slice ao m cap, .int .i64 e], ∀ x, y ≠ .string x := fun y hy x => by
  rcases List.mem_cons.1 hy with rfl | hy
  · intro h; cases h
  · rcases List.mem_cons.1 hy with rfl | hy
    · intro h; cases h
    · cases hy
theorem Bs.offR {w w' : World} {g B : Nat} {s : List Int × Int} {v : Value} {ys : List Int} (hb : Bs .u8 w v ys) (h : RDR w g B s) (o : Only (fun k => k = g) w w') : Bs .u8 w' v ys := by
  obtain ⟨ao, cap, hB, _⟩ := h
  exact hb.offB hB (rd_kind _ _ _ _) o
theorem Sts.offR {w w' : World} {g B : Nat} {s : List Int × Int} {v : Value} {ys : List (List Int)} (hb : Sts w v ys) (h : RDR w g B s) (o : Only (fun k => k = g) w w') : Sts w' v ys := by
  obtain ⟨ao, cap, hB, _⟩ := h
  exact hb.offB hB (rd_kindS _ _ _ _) o
theorem RDR.past {w w' : World} {g B : Nat} {s : List Int × Int} (h : RDR w g B s) (o : Only (fun _ => False) w w') : RDR w' g B s := by
  obtain ⟨ao, cap, hB, hb, nc, hj⟩ := h
  exact ⟨ao, cap, hB.past o, hb.past o, nc, hj⟩
theorem RDR.lt {w : World} {g B : Nat} {s : List Int × Int} (h : RDR w g B s) : g < w.heap.size := by
  obtain ⟨ao, cap, hB, _⟩ := h
  exact hB.lt
/-- other blocks are written, neither the reader's own nor those ahead of B -/
theorem RDR.keepB {w w' : World} {g B : Nat} {s : List Int × Int} (h : RDR w g B s) {S : Nat → Prop} (o : Only S w w') (hg : ¬ S g) (hS : ∀ j, j < B → ¬ S j) : RDR w' g B s := by
  obtain ⟨ao, cap, hB, hb, nc, hj⟩ := h
  refine ⟨ao, cap, hB.keep o hg, ?_, nc, hj⟩
  by_cases h0 : s.1 = []
  · rw [h0]
    exact ⟨ao, cap, rfl, Nat.zero_le _, fun z => absurd rfl z⟩
  · exact hb.keep o (fun j e => hS j (hj h0 j e))
/-- what is told, and what is left -/
def rB (n : Nat) (s : List Int × Int) : List Int × (List Int × Int) := if s.2 = 0 then ((sBytes n s.1).1, (s.1.drop (sBytes n s.1).2.1, (sBytes n s.1).2.2)) else ([], s)
def rV (s : List Int × Int) : Int × (List Int × Int) := if s.2 = 0 then ((sVarint s.1).1, (s.1.drop (sVarint s.1).2.1, (sVarint s.1).2.2)) else (0, s)
def rN (ok : Bool) (c : Int) (s : List Int × Int) : List Int × Int := (s.1, if s.2 = 0 ∧ ok = false then c else s.2)
set_option maxHeartbeats 1000000 in
set_option maxRecDepth 100000 in
theorem rd_bytesF (g B : Nat) (s : List Int × Int) (n : Nat) (w : World) (h : RDR w g B s) (hl : s.1.length ≤ 1000000) :
    Calls Tryz.prog 36 #[.pointer (some ⟨g, 0, none⟩), .int .i64 (n : Int)] w fun e w' => ∃ v, e = .returned v ∧ Bs .u8 w' v (rB n s).1 ∧ RDR w' g B (rB n s).2 ∧ Only (fun k => k = g) w w' ∧ (∀ j, v.ownBlock = some j → w.heap.size ≤ j) := by
  obtain ⟨ao, cap, hB, hb, nc, hj⟩ := h
  have c0 := hB.cell 0
  have c1 := hB.cell 1
  simp only [List.getElem?_cons_zero, List.getElem?_cons_succ] at c0 c1
  by_cases he : s.2 = 0
  · have eR : rB n s = ((sBytes n s.1).1, (s.1.drop (sBytes n s.1).2.1, (sBytes n s.1).2.2)) := if_pos he
    obtain ⟨a, k, c, hs⟩ : ∃ a k c, sBytes (n : Int) s.1 = (a, k, c) := ⟨_, _, _, rfl⟩
    rw [eR, hs]
    have A := hideIt (rbytes_fr ao s.1.length cap s.1 w hb nc (by omega) n hs)
    rw [he] at c1 hB
    obtain ⟨t, ht⟩ : ∃ t, t = s.1 := ⟨_, rfl⟩
    rw [← ht] at A c0 hB
    simp only [← ht]
    obtain ⟨m, hm⟩ : ∃ m, m = t.length := ⟨_, rfl⟩
    rw [← hm] at A c0 hB
    have HB := hideIt hB
    have HJ := hideIt hj
    rw [← ht, ← hm] at HJ
    clear hj hb nc eR hs ht hm hB he hl
    go_enter Tryz.func36, Tryz.ntmps36
    go_wp2_with fail
    refine A.out.mono ?_
    rintro e w1 ⟨v1, ao', m', cap', rfl, b1, b2, n1, o1, ob, fr⟩
    have K1 := HB.out.past o1
    have c0' := K1.cell 0
    have c1' := K1.cell 1
    have f0 := K1.froz 0
    have f1 := K1.froz 1
    simp only [List.getElem?_cons_zero, List.getElem?_cons_succ] at c0' c1'
    have hml := b2.length
    have H := hideIt (And.intro b1 (And.intro b2 (And.intro n1 (And.intro o1 (And.intro K1 (And.intro hml (And.intro ob fr)))))))
    clear A c0 c1 b1 b2 n1 o1 K1 hml ob fr HB
    go_wp2
    go_ret
    obtain ⟨b1, b2, n1, o1, K1, hml, ob, fr⟩ := H.out
    have os : Only (fun k => k = g) w1 ((w1.setCell ⟨g, 0, none⟩ (.slice ao' m' cap')).setCell ⟨g, 1, none⟩ (.int .i64 c)) := ((Only.refl (fun k => k = g) _).setCell (p := ⟨g, 0, none⟩) (fun _ => rfl) _).setCell (p := ⟨g, 1, none⟩) (fun _ => rfl) _
    refine ⟨v1, rfl, b1.offB K1 (rd_kind _ _ _ _) os, ⟨ao', cap', ?_, ?_, ?_, ?_⟩, (o1.mono (fun _ _ f => f.elim)).trans os (fun i hi e => e), fr⟩
    · have := (K1.set 0 (.slice ao' m' cap')).set 1 (.int .i64 c)
      rw [← hml]; exact this
    · rw [← hml]; exact b2.offB K1 (rd_kind _ _ _ _) os
    · rw [← hml]; exact n1
    · intro hz j e
      rw [← hml] at e
      exact HJ.out (fun z => hz (by simp only; rw [z]; exact List.drop_nil)) j (by rw [← ob]; exact e)
  · have eR : rB n s = ([], s) := if_neg he
    rw [eR]
    have d1 : (s.2 != 0) = true := by simpa using he
    have F := hideIt (And.intro hB (And.intro hb (And.intro nc hj)))
    obtain ⟨e0, he0⟩ : ∃ e0, e0 = s.2 := ⟨_, rfl⟩
    rw [← he0] at d1 c1
    clear hB hb nc hj eR he he0 c0
    go_enter Tryz.func36, Tryz.ntmps36
    go_wp2
    go_ret
    exact ⟨_, rfl, Bs.nil _ _, ⟨ao, cap, F.out.1, F.out.2.1, F.out.2.2⟩, Only.refl _ _, fun j e => by cases e⟩
theorem rd_bytes (g B : Nat) (s : List Int × Int) (n : Nat) (w : World) (h : RDR w g B s) (hl : s.1.length ≤ 1000000) :
    Calls Tryz.prog 36 #[.pointer (some ⟨g, 0, none⟩), .int .i64 (n : Int)] w fun e w' => ∃ v, e = .returned v ∧ Bs .u8 w' v (rB n s).1 ∧ RDR w' g B (rB n s).2 ∧ Only (fun k => k = g) w w' :=
  (rd_bytesF g B s n w h hl).mono fun _ _ ⟨v, e, b, r, o, _⟩ => ⟨v, e, b, r, o⟩
set_option maxHeartbeats 1000000 in
set_option maxRecDepth 100000 in
theorem rd_varint (g B : Nat) (s : List Int × Int) (w : World) (h : RDR w g B s) (h8 : U8 s.1) :
    Calls Tryz.prog 39 #[.pointer (some ⟨g, 0, none⟩)] w fun e w' => e = .returned (.int .u64 (rV s).1) ∧ RDR w' g B (rV s).2 ∧ Only (fun k => k = g) w w' := by
  obtain ⟨ao, cap, hB, hb, nc, hj⟩ := h
  have c0 := hB.cell 0
  have c1 := hB.cell 1
  simp only [List.getElem?_cons_zero, List.getElem?_cons_succ] at c0 c1
  by_cases he : s.2 = 0
  · have eR : rV s = ((sVarint s.1).1, (s.1.drop (sVarint s.1).2.1, (sVarint s.1).2.2)) := if_pos he
    obtain ⟨a, k, c, hs⟩ : ∃ a k c, sVarint s.1 = (a, k, c) := ⟨_, _, _, rfl⟩
    rw [eR, hs]
    have A := hideIt (rvarint_ob ao s.1.length cap s.1 w hb nc h8 hs)
    rw [he] at c1 hB
    obtain ⟨t, ht⟩ : ∃ t, t = s.1 := ⟨_, rfl⟩
    rw [← ht] at A c0 hB
    simp only [← ht]
    obtain ⟨m, hm⟩ : ∃ m, m = t.length := ⟨_, rfl⟩
    rw [← hm] at A c0 hB
    have HB := hideIt hB
    have HJ := hideIt hj
    rw [← ht, ← hm] at HJ
    clear hj hb nc eR hs ht hm hB he h8
    go_enter Tryz.func39, Tryz.ntmps39
    go_wp2_with fail
    refine A.out.mono ?_
    rintro e w1 ⟨ao', m', cap', rfl, b2, n1, o1, ob⟩
    have K1 := HB.out.past o1
    have c0' := K1.cell 0
    have c1' := K1.cell 1
    have f0 := K1.froz 0
    have f1 := K1.froz 1
    simp only [List.getElem?_cons_zero, List.getElem?_cons_succ] at c0' c1'
    have hml := b2.length
    have H := hideIt (And.intro b2 (And.intro n1 (And.intro o1 (And.intro K1 (And.intro hml ob)))))
    clear A c0 c1 b2 n1 o1 K1 hml ob HB
    go_wp2
    go_ret
    obtain ⟨b2, n1, o1, K1, hml, ob⟩ := H.out
    have os : Only (fun k => k = g) w1 ((w1.setCell ⟨g, 0, none⟩ (.slice ao' m' cap')).setCell ⟨g, 1, none⟩ (.int .i64 c)) := ((Only.refl (fun k => k = g) _).setCell (p := ⟨g, 0, none⟩) (fun _ => rfl) _).setCell (p := ⟨g, 1, none⟩) (fun _ => rfl) _
    refine ⟨rfl, ⟨ao', cap', ?_, ?_, ?_, ?_⟩, (o1.mono (fun _ _ f => f.elim)).trans os (fun i hi e => e)⟩
    · have := (K1.set 0 (.slice ao' m' cap')).set 1 (.int .i64 c)
      rw [← hml]; exact this
    · rw [← hml]; exact b2.offB K1 (rd_kind _ _ _ _) os
    · rw [← hml]; exact n1
    · intro hz j e
      rw [← hml] at e
      exact HJ.out (fun z => hz (by simp only; rw [z]; exact List.drop_nil)) j (by rw [← ob]; exact e)
  · have eR : rV s = (0, s) := if_neg he
    rw [eR]
    have d1 : (s.2 != 0) = true := by simpa using he
    have F := hideIt (And.intro hB (And.intro hb (And.intro nc hj)))
    obtain ⟨e0, he0⟩ : ∃ e0, e0 = s.2 := ⟨_, rfl⟩
    rw [← he0] at d1 c1
    clear hB hb nc hj eR he he0 c0
    go_enter Tryz.func39, Tryz.ntmps39
    go_wp2
    go_ret
    exact ⟨rfl, ⟨ao, cap, F.out.1, F.out.2.1, F.out.2.2⟩, Only.refl _ _⟩
set_option maxHeartbeats 1000000 in
set_option maxRecDepth 100000 in
theorem rd_need (g B : Nat) (s : List Int × Int) (ok : Bool) (c : Int) (w : World) (h : RDR w g B s) :
    Calls Tryz.prog 37 #[.pointer (some ⟨g, 0, none⟩), .bool ok, .int .i64 c] w fun e w' => e = .returned (.tuple #[]) ∧ RDR w' g B (rN ok c s) ∧ Only (fun k => k = g) w w' := by
  obtain ⟨ao, cap, hB, hb, nc, hj⟩ := h
  have c1 := hB.cell 1
  have f1 := hB.froz 1
  simp only [List.getElem?_cons_zero, List.getElem?_cons_succ] at c1
  have F := hideIt (And.intro hB (And.intro hb (And.intro nc hj)))
  by_cases he : s.2 = 0
  · cases ok with
    | false =>
      have eR : rN false c s = (s.1, c) := by unfold rN; rw [if_pos ⟨he, rfl⟩]
      rw [eR]
      rw [he] at c1
      have HE := hideIt he
      clear hB hb nc hj eR he
      go_enter Tryz.func37, Tryz.ntmps37
      go_wp2
      go_end0
      obtain ⟨hB, hb, nc, hj⟩ := F.out
      have os : Only (fun k => k = g) w (w.setCell ⟨g, 1, none⟩ (.int .i64 c)) := (Only.refl (fun k => k = g) _).setCell (p := ⟨g, 1, none⟩) (fun _ => rfl) _
      exact ⟨rfl, ⟨ao, cap, hB.set 1 (.int .i64 c), hb.offB hB (rd_kind _ _ _ _) os, nc, hj⟩, os⟩
    | true =>
      have eR : rN true c s = s := by unfold rN; rw [if_neg (fun h => by cases h.2)]
      rw [eR]
      rw [he] at c1
      clear hB hb nc hj eR he
      go_enter Tryz.func37, Tryz.ntmps37
      go_wp2
      go_end0
      exact ⟨rfl, ⟨ao, cap, F.out.1, F.out.2.1, F.out.2.2⟩, Only.refl _ _⟩
  · have eR : rN ok c s = s := by unfold rN; rw [if_neg (fun h => he h.1)]
    rw [eR]
    have d1 : (s.2 == 0) = false := by simpa using he
    obtain ⟨e0, he0⟩ : ∃ e0, e0 = s.2 := ⟨_, rfl⟩
    rw [← he0] at d1 c1
    clear hB hb nc hj eR he he0
    go_enter Tryz.func37, Tryz.ntmps37
    go_wp2
    go_end0
    exact ⟨rfl, ⟨ao, cap, F.out.1, F.out.2.1, F.out.2.2⟩, Only.refl _ _⟩
end Go.Proofs.YtiolgenaefillaaGreat
