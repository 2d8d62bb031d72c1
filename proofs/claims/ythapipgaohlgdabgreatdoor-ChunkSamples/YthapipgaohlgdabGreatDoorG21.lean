/- Several texts in one: Kx, Ky, Kw, Kz, SizeW12. -/
import Derived.Test.YthapipgaohlgdabGreatDoorG20
import Derived.Recover
import Derived.Test.YthapipgaohlgdabGreatDoorG11
import Derived.Deep.QuietTactic
import Derived.BigQuiet
import Derived.Laws.Strings
import Derived.Test.YthapipgaohlgdabGreatDoorG9

/- Package chunk: Decode: what is deferred, and what is told. -/
namespace Go.Proofs.YthapipgaohlgdabGreatDoor
open Go.RowKit

set_option maxHeartbeats 1600000 in
set_option maxRecDepth 100000 in
/-- what is deferred, where nothing panics: nothing -/
theorem catch_idle (p q : Nat) (w : World) :
    CallsD Tryz.prog 15 #[.pointer (some ⟨p, 0, none⟩), .pointer (some ⟨q, 0, none⟩)] .returning w fun e u' w' => e = .returned (.tuple #[]) ∧ u' = .returning ∧ w = w' := by
  refine callsD_of_wpS Tryz.func15 rfl fun c₀ cs hu => ?_
  apply wpS_seq
  apply wpS_region
  simp [wpOpsS, go_sem, recoverD, hu, Tryz.ntmps15, Exit.thenS]
  refine wpS_of_wp ?_
  go_wp2
  cases c₀
  simp_all [bodyPostS, results, Tryz.results15]

set_option maxHeartbeats 1600000 in
set_option maxRecDepth 100000 in
/-- what is deferred, where an error was the panic's: it is told, and no chunk -/
theorem catch_err (p q : Nat) (c : Int) (older : List PanicEntry) (w : World) (x0 x1 y : Value) (h0 : w.cell? ⟨p, 0, none⟩ = some x0) (h1 : w.cell? ⟨p, 1, none⟩ = some x1) (hq : w.cell? ⟨q, 0, none⟩ = some y)
    (f0 : w.frozen? ⟨p, 0, none⟩ = false) (f1 : w.frozen? ⟨p, 1, none⟩ = false) (fq : w.frozen? ⟨q, 0, none⟩ = false) (hpq : ¬ p = q) :
    CallsD Tryz.prog 15 #[.pointer (some ⟨p, 0, none⟩), .pointer (some ⟨q, 0, none⟩)] (.panicking ({ v := .iface 30 (.int .i64 c), recovered := false } :: older)) w fun e u' w' =>
      e = .returned (.tuple #[]) ∧ u' = .panicking ({ v := .iface 30 (.int .i64 c), recovered := true } :: older) ∧ w' = ((w.setCell ⟨p, 0, none⟩ (.string ⟨#[]⟩)).setCell ⟨p, 1, none⟩ (.slice none 0 0)).setCell ⟨q, 0, none⟩ (.int .i64 c) := by
  have hta : ∀ (W : World), (Instr.typeAssert (.iface 30 (.int .i64 c)) 20 30 true).run Tryz.prog W = .ok (.tuple #[.int .i64 c, .bool true]) W := fun _ => by kernel_rfl
  have hqp : ¬ q = p := fun e => hpq e.symm
  refine callsD_of_wpS Tryz.func15 rfl fun c₀ cs hu => ?_
  apply wpS_seq
  apply wpS_region
  simp [wpOpsS, go_sem, recoverD, hu, Tryz.ntmps15, Exit.thenS]
  refine wpS_of_wp ?_
  go_wp2
  simp [bodyPostS, results, Tryz.results15]

theorem results_cc {P : Program} {fn : Func} {p q : Tmp} {ty ty2 : TypeId} (h : fn.results = #[.cell p ty, .cell q ty2]) (tmps : Array Value) (w : World) {a b : Addr} {v1 v2 : Value}
    (hp : tmps.getD p undef = .pointer (some a)) (hq : tmps.getD q undef = .pointer (some b)) (h1 : (loadVar ty a).run P w = .ok v1 w) (h2 : (loadVar ty2 b).run P w = .ok v2 w) :
    (results fn tmps).run P w = .ok (.tuple #[v1, v2]) w := by
  have hp' : tmps[p]?.getD undef = .pointer (some a) := by simpa using hp
  have hq' : tmps[q]?.getD undef = .pointer (some b) := by simpa using hq
  simp [results, h, hp', hq', asAddr, h1, h2]
theorem load_errno {W : World} {b : Nat} {c : Int} (h : W.heap[b]? = some (.cells #[.int .i64 c] 30 (0, 0))) : (loadVar 30 ⟨b, 0, none⟩).run Tryz.prog W = .ok (.int .i64 c) W := by
  have hc : W.cell? ⟨b, 0, none⟩ = some (.int .i64 c) := by simp [World.cell?, h]
  simp [go_sem, hc]
theorem load_chunk {W : World} {b : Nat} {x y : Value} (h : W.heap[b]? = some (.cells #[x, y] 24 (0, 0))) : (loadVar 24 ⟨b, 0, none⟩).run Tryz.prog W = .ok (.agg #[x, y]) W :=
  run_loadVar_row W b 24 24 _ (0, 0) _ h Tryz.underlying24 rfl Tryz.sizeCh
/-- the two results' cells, written -/
theorem res_cells {W : World} {b : Nat} {x0 x1 z0 y0 y1 z1 : Value} {T U : TypeId} (h : W.heap[b]? = some (.cells #[x0, x1] T (0, 0))) (h' : W.heap[b + 1]? = some (.cells #[z0] U (0, 0))) :
    (((W.setCell ⟨b, 0, none⟩ y0).setCell ⟨b, 1, none⟩ y1).setCell ⟨b + 1, 0, none⟩ z1).heap[b]? = some (.cells #[y0, y1] T (0, 0)) ∧ (((W.setCell ⟨b, 0, none⟩ y0).setCell ⟨b, 1, none⟩ y1).setCell ⟨b + 1, 0, none⟩ z1).heap[b + 1]? = some (.cells #[z1] U (0, 0)) := by
  have g1 := heap_setCell_same W b 0 _ _ y0 h
  have g2 := heap_setCell_same _ b 1 _ _ y1 g1
  have o1 : Only (fun k => k = b) W ((W.setCell ⟨b, 0, none⟩ y0).setCell ⟨b, 1, none⟩ y1) := ((Only.refl (fun k => k = b) W).setCell (p := ⟨b, 0, none⟩) (fun _ => rfl) _).setCell (p := ⟨b, 1, none⟩) (fun _ => rfl) _
  have g3 := o1.heap h' (fun e => by omega)
  have o2 : Only (fun k => k = b + 1) ((W.setCell ⟨b, 0, none⟩ y0).setCell ⟨b, 1, none⟩ y1) (((W.setCell ⟨b, 0, none⟩ y0).setCell ⟨b, 1, none⟩ y1).setCell ⟨b + 1, 0, none⟩ z1) := (Only.refl (fun k => k = b + 1) _).setCell (p := ⟨b + 1, 0, none⟩) (fun _ => rfl) _
  exact ⟨o2.heap (by simpa using g2) (fun e => by omega), by have := heap_setCell_same _ (b + 1) 0 _ _ z1 g3; simpa using this⟩

set_option maxHeartbeats 1600000 in
set_option maxRecDepth 100000 in
theorem decode12_any (v : Value) (ys : List Int) (w : World) (h : Bs .u8 w v ys) (hr : ∀ y ∈ ys, 0 ≤ y ∧ y ≤ 255) (hl : ys.length ≤ 1000000000) (hT : Tab w) :
    Calls Tryz.prog 6 #[v] w fun e w' => ∃ u, e = .returned (.tuple #[.agg #[.string (strOfNums (DECC ys).1.1), u], .int .i64 (DECC ys).2]) ∧ w'.ownsRow w.heap.size 28 2 u (DECC ys).1.2.length (scells (DECC ys).1.2) ∧ Only (fun _ => False) w w' := by
  have hmf : ∀ (fn : Fn) (first cap : Array Value) (w : World), (Instr.makeFunc fn first cap).run Tryz.prog w = .ok (.func fn first cap) w := fun _ _ _ _ => rfl
  have NW : Hid (∀ W, Only (fun _ => False) w W → Calls Tryz.prog 17 #[v] W fun e w' => ∃ R v', e = .returned (.pointer (some ⟨R, 0, none⟩)) ∧ CurAt 77 w' R v' ys ∧ Only (fun _ => False) W w' ∧ W.heap.size ≤ R ∧ R < w'.heap.size ∧ (∀ k, v'.ownBlock = some k → W.heap.size ≤ k ∧ k < w'.heap.size)) :=
    fun W o => new_bs v ys W (h.past o) hr (by omega)
  have HT := hideIt hT
  have HLL := hideIt hl
  have hw0 := hT.pos
  obtain ⟨D, hD⟩ : ∃ D, D = DECC ys := ⟨_, rfl⟩
  have HE : Hid (D.2 ≠ 0 → D.1 = chNone) := by simp only [Hid]; rw [hD]; exact DECC_err
  have HD := hideIt hD
  rw [← hD]
  clear h hr hT hl hD
  go_enter_defers Tryz.func6, Tryz.ntmps6
  go_wp2_with fail
  refine (NW.out _ (((Only.refl _ _).alloc _).alloc _)).mono ?_
  rintro e w1 ⟨R, v', rfl, c1, o1, hR1, hR2, hvk⟩
  have hR1' : w.heap.size + 2 ≤ R := by simpa using hR1
  have g0 := o1.heap (heap_alloc_old (o := .cells #[.int .i64 0] 30) (heap_alloc_new w (.cells #[.string ⟨#[]⟩, .slice none 0 0] 24))) (fun f => f)
  have g1 := o1.heap (heap_at_new (W := w.alloc (.cells #[.string ⟨#[]⟩, .slice none 0 0] 24)) (o := .cells #[.int .i64 0] 30) (k := w.heap.size + 1) (by simp)) (fun f => f)
  have oo : Only (fun _ => False) w w1 := Only.same (((Only.refl _ _).alloc _).alloc _) o1
  have RD := hideIt (read12_any c1 (fun k hk => (hvk k hk).2) HLL.out (HT.out.past oo) (by omega) hR2)
  rw [← HD.out] at RD
  have O1 := hideIt oo
  have G0 := hideIt g0
  have G1 := hideIt g1
  clear c1 o1 hvk g0 g1 oo NW hR1 HLL
  go_wp2_with fail
  refine RD.out.mono ?_
  rintro e w2 ⟨hh, o2⟩
  have K0 := o2.heap G0.out (fun e => by omega)
  have K1 := o2.heap G1.out (fun e => by omega)
  have O2 : Hid (Only (fun _ => False) w w2) := by
    have s1 := O1.out
    exact s1.trans o2 (fun k hk e => by omega)
  clear o2 RD G0 G1
  rcases hh with ⟨hd, u, rfl, ownu⟩ | ⟨hd, rfl⟩
  · obtain ⟨au, cu, eu⟩ := (Sps.of_own ownu).len
    subst eu
    obtain ⟨q1, q2, q3, q4⟩ := rd_cells K0
    obtain ⟨p1, p2⟩ := one_cell K1
    obtain ⟨F0, F1⟩ := res_cells (y0 := .string (strOfNums D.1.1)) (y1 := .slice au D.1.2.length cu) (z1 := .int .i64 0) K0 K1
    have ob : Only (fun k => k = w.heap.size ∨ k = w.heap.size + 1) w2 (((w2.setCell ⟨w.heap.size, 0, none⟩ (.string (strOfNums D.1.1))).setCell ⟨w.heap.size, 1, none⟩ (.slice au D.1.2.length cu)).setCell ⟨w.heap.size + 1, 0, none⟩ (.int .i64 0)) :=
      (((Only.refl (fun k => k = w.heap.size ∨ k = w.heap.size + 1) w2).setCell (p := ⟨w.heap.size, 0, none⟩) (fun _ => .inl rfl) _).setCell (p := ⟨w.heap.size, 1, none⟩) (fun _ => .inl rfl) _).setCell (p := ⟨w.heap.size + 1, 0, none⟩) (fun _ => .inr rfl) _
    have ow := hideIt (ob.own (own_low ownu O1.out.size) (fun k hk e => by have := (ownu.lt k hk).1; omega))
    have ox := hideIt (O2.out.trans ob (fun k hk e => by omega))
    have HF0 := hideIt (load_chunk F0)
    have HF1 := hideIt (load_errno F1)
    clear F0 F1 ob ownu K0 K1
    go_wp2
    refine leaves_cons (f := 15) (args := #[.pointer (some ⟨w.heap.size, 0, none⟩), .pointer (some ⟨w.heap.size + 1, 0, none⟩)]) (by simp) (by simp [go_sem]) ?_
    refine (catch_idle w.heap.size (w.heap.size + 1) _).mono ?_
    rintro e u' w'' ⟨rfl, rfl, rfl⟩
    refine ⟨_, results_cc Tryz.results6 _ _ rfl rfl HF0.out HF1.out, ?_⟩
    exact ⟨_, by rw [hd], ow.out, ox.out⟩
  · have hn := HE.out hd
    obtain ⟨q1, q2, q3, q4⟩ := rd_cells K0
    obtain ⟨p1, p2⟩ := one_cell K1
    obtain ⟨F0, F1⟩ := res_cells (y0 := .string ⟨#[]⟩) (y1 := .slice none 0 0) (z1 := .int .i64 D.2) K0 K1
    have ob : Only (fun k => k = w.heap.size ∨ k = w.heap.size + 1) w2 (((w2.setCell ⟨w.heap.size, 0, none⟩ (.string ⟨#[]⟩)).setCell ⟨w.heap.size, 1, none⟩ (.slice none 0 0)).setCell ⟨w.heap.size + 1, 0, none⟩ (.int .i64 D.2)) :=
      (((Only.refl (fun k => k = w.heap.size ∨ k = w.heap.size + 1) w2).setCell (p := ⟨w.heap.size, 0, none⟩) (fun _ => .inl rfl) _).setCell (p := ⟨w.heap.size, 1, none⟩) (fun _ => .inl rfl) _).setCell (p := ⟨w.heap.size + 1, 0, none⟩) (fun _ => .inr rfl) _
    have ox := hideIt (O2.out.trans ob (fun k hk e => by omega))
    have HF0 := hideIt (load_chunk F0)
    have HF1 := hideIt (load_errno F1)
    have CE := hideIt (catch_err w.heap.size (w.heap.size + 1) D.2 [] w2 _ _ _ q1 q2 p1 q3 q4 p2 (by omega))
    clear F0 F1 ob K0 K1
    unfold pan
    go_wp2
    refine leaves_cons (f := 15) (args := #[.pointer (some ⟨w.heap.size, 0, none⟩), .pointer (some ⟨w.heap.size + 1, 0, none⟩)]) (by simp) (by simp [go_sem]) ?_
    refine CE.out.mono ?_
    rintro e u' w'' ⟨rfl, rfl, rfl⟩
    refine ⟨_, results_cc Tryz.results6 _ _ rfl rfl HF0.out HF1.out, ?_⟩
    rw [hn]
    exact ⟨_, rfl, World.ownsRow_nil _ _ _ _, ox.out⟩
end Go.Proofs.YthapipgaohlgdabGreatDoor

/- Are two chunks the same? -/
namespace Go.Proofs.YthapipgaohlgdabGreatDoor
open Go.RowKit

theorem bool_ret {a b : Bool} (h : a = b) : Ending.returned (.bool a) = .returned (.bool b) := by rw [h]
theorem sps_ne {s s' : List (Int × Int)} {k : Nat} (h : s.getD k (0, 0) ≠ s'.getD k (0, 0)) : s ≠ s' := fun e => h (by rw [e])
theorem sps_eq {s s' : List (Int × Int)} (hl : s.length = s'.length) (h : ∀ j, j < s.length → s.getD j (0, 0) = s'.getD j (0, 0)) : s = s' := by
  refine List.ext_getElem hl (fun i h1 h2 => ?_)
  have := h i h1
  rw [List.getD_eq_getElem?_getD, List.getD_eq_getElem?_getD, List.getElem?_eq_getElem h1, List.getElem?_eq_getElem h2] at this
  exact this

theorem tl_inj {t t' : ByteArray} (h : t.toList = t'.toList) : t = t' := by
  rw [ByteArray.toList_eq, ByteArray.toList_eq] at h
  cases t; cases t'
  simp only [ByteArray.mk.injEq]
  exact Array.toList_inj.1 h

theorem cell_past {W W' : World} {a : Addr} {x : Value} (o : Only (fun _ => False) W W') (h : W.cell? a = some x) : W'.cell? a = some x := by
  have hb := World.block_lt_of_cell? W _ h
  rw [← h]; unfold World.cell?; rw [o.block a.block hb (fun f => f)]

set_option maxHeartbeats 1600000 in
set_option maxRecDepth 100000 in
theorem csame_any (t t' : ByteArray) (u u' : Value) (s s' : List (Int × Int)) (w : World) (h : Sps w u s) (h' : Sps w u' s') (hm : s.length ≤ maxLen) :
    Calls Tryz.prog 18 #[.agg #[.string t, u], .agg #[.string t', u']] w fun e w' => e = .returned (.bool (decide (t = t' ∧ s = s'))) ∧ Only (fun _ => False) w w' := by
  unfold maxLen at hm
  have HS := hideIt h
  have HS' := hideIt h'
  obtain ⟨ao, cap, rfl⟩ := h.len
  obtain ⟨ao', cap', rfl⟩ := h'.len
  clear h h'
  by_cases ht : t = t'
  · subst ht
    by_cases hl : s.length = s'.length
    · rw [← hl]
      rw [← hl] at HS'
      obtain ⟨n, hn⟩ : ∃ n, n = s.length := ⟨_, rfl⟩
      rw [← hn] at hm HS HS'
      rw [← hn]
      obtain ⟨B, hB⟩ : ∃ B, B = decide (t = t ∧ s = s') := ⟨_, rfl⟩
      rw [← hB]
      have HB := hideIt hB
      have HN := hideIt hn
      have HLL := hideIt hl
      have hdn : ((n : Int) != (n : Int)) = false := by simp
      clear hl hn hB
      obtain ⟨W0, hW0⟩ : ∃ W0, W0 = (w.alloc (.cells #[.string t, .slice ao n cap] 24)).alloc (.cells #[.string t, .slice ao' n cap'] 24) := ⟨_, rfl⟩
      have O0 : Hid (Only (fun _ => False) w W0) := by simp only [Hid]; rw [hW0]; exact ((Only.refl _ _).alloc _).alloc _
      have c1 : W0.cell? ⟨w.heap.size, 1, none⟩ = some (.slice ao n cap) := by rw [hW0]; go_cell
      have c2 : W0.cell? ⟨w.heap.size + 1, 1, none⟩ = some (.slice ao' n cap') := by rw [hW0]; go_cell
      have HS0 := hideIt (HS.out.past O0.out)
      have HS0' := hideIt (HS'.out.past O0.out)
      go_enter Tryz.func18, Tryz.ntmps18
      go_wp2
      rw [← hW0]
      clear hW0 HS HS'
      go_loopw [5] (fun i wr => ∃ k : Nat, k ≤ n ∧ i = .int .i64 k ∧ Only (fun _ => False) W0 wr ∧ (∀ j, j < k → s.getD j (0, 0) = s'.getD j (0, 0))) (fun i _ => n - (intOf i).toNat)
      case atStart => exact ⟨0, Nat.zero_le _, rfl, Only.refl _ _, fun j hj => by omega⟩
      case round =>
        obtain ⟨k, hk, rfl, od, hall⟩ := hrel
        have c1' := cell_past od c1
        have c2' := cell_past od c2
        have HALL := hideIt hall
        have OD := hideIt od
        clear hall c1 c2
        by_cases hlt : k < n
        · have dlt : decide ((k : Int) < (n : Int)) = true := by simp; omega
          have dlt2 : (k : Int) < (n : Int) := by omega
          have hkl : k < s.length := by rw [← HN.out]; exact hlt
          have hkl' : k < s'.length := by rw [← HLL.out, ← HN.out]; exact hlt
          obtain ⟨b, off, cp, e1, x1, x2⟩ := (HS0.out.past od).at k hkl
          have ea : ao = some ⟨b, off, none⟩ := by simp at e1; exact e1.1
          subst ea
          obtain ⟨b', off', cp', e1', x1', x2'⟩ := (HS0'.out.past od).at k hkl'
          have ea : ao' = some ⟨b', off', none⟩ := by simp at e1'; exact e1'.1
          subst ea
          clear e1 e1' hkl hkl' od HS0 HS0'
          obtain ⟨p, hp⟩ : ∃ p, p = s.getD k (0, 0) := ⟨_, rfl⟩
          obtain ⟨q, hq⟩ : ∃ q, q = s'.getD k (0, 0) := ⟨_, rfl⟩
          rw [← hp] at x1 x2
          rw [← hq] at x1' x2'
          have HP := hideIt hp
          have HQ := hideIt hq
          clear hp hq
          obtain ⟨p1, p2⟩ := p
          obtain ⟨q1, q2⟩ := q
          simp only at x1 x2 x1' x2'
          by_cases h1 : p1 = q1
          · subst h1
            have n1 : (p1 != p1) = false := by simp
            by_cases h2 : p2 = q2
            · subst h2
              have n2 : (p2 != p2) = false := by simp
              go_wp2_with fail
              go_quiet (fail)
              go_wp2
              go_roundw
              case rel =>
                refine ⟨k + 1, by omega, by go_num, OD.out.drewN nq, fun j hj => ?_⟩
                by_cases hjk : j < k
                · exact HALL.out j hjk
                · obtain rfl : j = k := by omega
                  rw [← HP.out, ← HQ.out]
              case measure => simp [intOf]; omega
            · have n2 : (p2 != q2) = true := by simpa using h2
              have HF : Hid (false = B) := by
                have := HB.out
                simp only [Hid]; rw [this]
                have hne : s ≠ s' := sps_ne (k := k) (by rw [← HP.out, ← HQ.out]; simpa using h2)
                simp [hne]
              go_wp2_with fail
              go_quiet (fail)
              go_wp2
              go_ret
              exact ⟨bool_ret HF.out, O0.out.same (OD.out.drewN nq)⟩
          · have n1 : (p1 != q1) = true := by simpa using h1
            have HF : Hid (false = B) := by
              have := HB.out
              simp only [Hid]; rw [this]
              have hne : s ≠ s' := sps_ne (k := k) (by rw [← HP.out, ← HQ.out]; intro e; exact h1 (congrArg Prod.fst e))
              simp [hne]
            go_wp2_with fail
            go_quiet (fail)
            go_wp2
            go_ret
            exact ⟨bool_ret HF.out, O0.out.same (OD.out.drewN nq)⟩
        · obtain rfl : k = n := by omega
          have dlt : decide ((k : Int) < (k : Int)) = false := by simp
          have HF : Hid (true = B) := by
            have := HB.out
            simp only [Hid]; rw [this]
            have he : s = s' := sps_eq HLL.out (by rw [← HN.out]; exact HALL.out)
            simp [he]
          clear od
          go_wp2
          go_ret
          exact ⟨bool_ret HF.out, O0.out.same OD.out⟩
    · have hdn : ((s.length : Int) != (s'.length : Int)) = true := by rw [bne_iff_ne]; omega
      have hf : decide (t = t ∧ s = s') = false := by simp; intro e; exact hl (by rw [e])
      rw [hf]
      generalize s.length = n at *
      generalize s'.length = n' at *
      clear hf
      go_enter Tryz.func18, Tryz.ntmps18
      go_wp2
      go_ret
      exact ⟨rfl, ((Only.refl _ _).alloc _).alloc _⟩
  · have hd2 : ¬ t.toList = t'.toList := fun e => ht (tl_inj e)
    have hd3 : decide (t.toList = t'.toList) = false := by simpa using hd2
    have hf : decide (t = t' ∧ s = s') = false := by simp [ht]
    rw [hf]
    go_enter Tryz.func18, Tryz.ntmps18
    go_wp2
    go_ret
    exact ⟨rfl, ((Only.refl _ _).alloc _).alloc _⟩

set_option maxHeartbeats 400000 in
set_option maxRecDepth 100000 in
theorem lsame12_any (t t' : ByteArray) (u u' : Value) (s s' : List (Int × Int)) (w : World) (h : Sps w u s) (h' : Sps w u' s') (hm : s.length ≤ maxLen) :
    Calls Tryz.prog 7 #[.agg #[.string t, u], .agg #[.string t', u']] w fun e w' => e = .returned (.bool (decide (t = t' ∧ s = s'))) ∧ Only (fun _ => False) w w' := by
  have CS : Hid (∀ W, Only (fun _ => False) w W → Calls Tryz.prog 18 #[.agg #[.string t, u], .agg #[.string t', u']] W fun e w' => e = .returned (.bool (decide (t = t' ∧ s = s'))) ∧ Only (fun _ => False) W w') :=
    fun W o => csame_any t t' u u' s s' W (h.past o) (h'.past o) hm
  obtain ⟨ao, cap, rfl⟩ := h.len
  obtain ⟨ao', cap', rfl⟩ := h'.len
  obtain ⟨B, hB⟩ : ∃ B, B = decide (t = t' ∧ s = s') := ⟨_, rfl⟩
  rw [← hB] at CS
  rw [← hB]
  clear h h' hm hB
  generalize s.length = n at *
  generalize s'.length = n' at *
  go_enter Tryz.func7, Tryz.ntmps7
  go_wp2_with fail
  refine (CS.out _ (((Only.refl _ _).alloc _).alloc _)).mono ?_
  rintro e w1 ⟨rfl, o1⟩
  have O1 := hideIt o1
  clear o1 CS
  go_wp2
  go_ret
  exact ⟨rfl, Only.same (((Only.refl _ _).alloc _).alloc _) O1.out⟩
end Go.Proofs.YthapipgaohlgdabGreatDoor

/- The document's example. -/
namespace Go.Proofs.YthapipgaohlgdabGreatDoor
open Go.RowKit

def ex17 : List Int := [1, 1, 97, 1, 2, 1, 10, 9, 0, 0, 0, 0, 0, 0, 0, 0, 7]
set_option maxRecDepth 100000 in
theorem ex_enc : ENCC (sb ⟨#[97]⟩) [(5, 7)] = (ex17, 0) := by decide +kernel
theorem ex_gs : Gs [(5, 7)] := ⟨by intro x hx; simp at hx; subst hx; simp [G64], by intro x hx; simp at hx; subst hx; simp⟩
theorem ex_dec : DECC ex17 = ((sb ⟨#[97]⟩, [(5, 7)]), 0) := by
  have := DECC_ENCC (tn := sb ⟨#[97]⟩) (s := [(5, 7)]) (by decide) (by decide) ex_gs
  rw [ex_enc] at this
  exact this
theorem ex_rng : ∀ y ∈ ex17, 0 ≤ y ∧ y ≤ 255 := by unfold ex17; intro y hy; simp at hy; omega
theorem sps_one {W : World} {b : Nat} {x y : Int} (h : W.heap[b]? = some (.cells #[.int .i64 x, .int .u64 y] 28 (0, 0))) : Sps W (.slice (some ⟨b, 0, none⟩) 1 1) [(x, y)] := by
  refine ⟨some _, 1, rfl, Nat.le_refl _, fun _ => ⟨b, 0, rfl, fun j hj => ?_⟩⟩
  have : j = 0 := by simpa using hj
  subst this
  exact ⟨by simp [World.cell?, h], by simp [World.cell?, h]⟩
set_option maxHeartbeats 1600000 in
set_option maxRecDepth 100000 in
theorem awake_any (w : World) (hT : Tab w) : Calls Tryz.prog 4 #[] w fun e w' => e = .returned (.bool true) ∧ Only (fun _ => False) w w' := by
  obtain ⟨WA, hWA⟩ : ∃ WA, WA = ((w.alloc (.cells #[.int .i64 5, .int .u64 7] 28)).alloc (.cells #[.string ⟨#[97]⟩, .slice (some ⟨w.heap.size, 0, none⟩) 1 1] 24)).alloc (.cells #[.int .u8 1, .int .u8 1, .int .u8 97, .int .u8 1, .int .u8 2, .int .u8 1, .int .u8 10, .int .u8 9, .int .u8 0, .int .u8 0, .int .u8 0, .int .u8 0, .int .u8 0, .int .u8 0, .int .u8 0, .int .u8 0, .int .u8 7] 5) := ⟨_, rfl⟩
  have OA : Only (fun _ => False) w WA := by rw [hWA]; exact (((Only.refl _ _).alloc _).alloc _).alloc _
  have G0 : WA.heap[w.heap.size]? = some (.cells #[.int .i64 5, .int .u64 7] 28 (0, 0)) := by rw [hWA]; exact heap_alloc_old (heap_alloc_old (heap_at_new rfl))
  have G1 : WA.heap[w.heap.size + 1]? = some (.cells #[.string ⟨#[97]⟩, .slice (some ⟨w.heap.size, 0, none⟩) 1 1] 24 (0, 0)) := by rw [hWA]; exact heap_alloc_old (heap_at_new (by simp))
  have G2 : Bs .u8 WA (.slice (some ⟨w.heap.size + 1 + 1, 0, none⟩) 17 17) ex17 := by rw [hWA]; exact Bs.litN .u8 _ 5 ex17 _ _ (by simp) rfl
  have EN := encode12_all ⟨#[97]⟩ (.slice (some ⟨w.heap.size, 0, none⟩) 1 1) [(5, 7)] WA (sps_one G0) ex_gs (by decide) (by decide) (hT.past OA)
  rw [ex_enc] at EN
  have EN := hideIt EN
  have HG0 := hideIt G0
  have HG1 := hideIt G1
  have HG2 := hideIt G2
  have HOA := hideIt OA
  have HT := hideIt hT
  clear G0 G1 G2 OA hT
  go_enter Tryz.func4, Tryz.ntmps4
  go_wp2_with fail
  rw [← hWA]
  refine EN.out.mono ?_
  rintro e w1 ⟨v1, rfl, own1, o1⟩
  have DE := decode12_any _ ex17 w1 (HG2.out.past o1) ex_rng (by decide) (HT.out.past (HOA.out.same o1))
  rw [ex_dec] at DE
  have DE := hideIt DE
  have B1 := hideIt (Bs.of_own own1)
  obtain ⟨a1, c1, e1⟩ := (Bs.of_own own1).len
  subst e1
  have HO1 := hideIt o1
  clear own1 o1 EN
  go_wp2_with fail
  refine DE.out.mono ?_
  rintro e w2 ⟨u, rfl, ownu, o2⟩
  have SU := hideIt (Sps.of_own ownu)
  obtain ⟨a2, c2, e2⟩ := (Sps.of_own ownu).len
  subst e2
  have o02 := HO1.out.same o2
  obtain ⟨q1, q2, q3, q4⟩ := rd_cells (o02.heap HG1.out (fun f => f))
  have hlt := World.block_lt_of_cell? w2 _ q1
  have SA : Hid (∀ W, Only (fun _ => False) w2 W → Calls Tryz.prog 8 #[.slice a1 17 c1, .slice (some ⟨w.heap.size + 1 + 1, 0, none⟩) 17 17] W fun e w' => e = .returned (.bool true) ∧ Only (fun _ => False) W w') :=
    fun W o => same_eq (.slice a1 17 c1) (.slice (some ⟨w.heap.size + 1 + 1, 0, none⟩) 17 17) ex17 W ((B1.out.past o2).past o) ((HG2.out.past o02).past o) (by decide)
  have SB : Hid (∀ W, Only (fun _ => False) w2 W → Calls Tryz.prog 7 #[.agg #[.string ⟨#[97]⟩, .slice (some ⟨w.heap.size, 0, none⟩) 1 1], .agg #[.string ⟨#[97]⟩, .slice a2 1 c2]] W fun e w' => e = .returned (.bool true) ∧ Only (fun _ => False) W w') := by
    intro W o
    have := lsame12_any ⟨#[97]⟩ ⟨#[97]⟩ (.slice (some ⟨w.heap.size, 0, none⟩) 1 1) (.slice a2 1 c2) [(5, 7)] [(5, 7)] W ((sps_one (o02.heap HG0.out (fun f => f))).past o) (SU.out.past o) (by decide)
    rw [show decide ((⟨#[97]⟩ : ByteArray) = ⟨#[97]⟩ ∧ [((5 : Int), (7 : Int))] = [(5, 7)]) = true by simp] at this
    exact this
  have hst : strOfNums (sb ⟨#[97]⟩) = ⟨#[97]⟩ := of_sb _
  have HO2 := hideIt (HOA.out.same o02)
  clear ownu o2 o02 DE B1 q3 q4
  simp only [hst]
  go_wp2_with fail
  refine (SA.out _ ((Only.refl _ _).alloc _)).mono ?_
  rintro e w3 ⟨rfl, o3⟩
  have q1' := cell_past (Only.same ((Only.refl _ _).alloc _) o3) q1
  have q2' := cell_past (Only.same ((Only.refl _ _).alloc _) o3) q2
  have k1 := rd_cells (o3.heap (heap_alloc_new w2 _) (fun f => f))
  obtain ⟨k11, k12, _, _⟩ := k1
  have SB3 := hideIt (SB.out w3 (Only.same ((Only.refl _ _).alloc _) o3))
  have O3 := hideIt (Only.same HO2.out (Only.same ((Only.refl _ _).alloc _) o3))
  clear o3 SA SB
  go_wp2_with fail
  refine SB3.out.mono ?_
  rintro e w4 ⟨rfl, o4⟩
  have O4 := hideIt (O3.out.same o4)
  clear o4 SB3
  go_wp2
  go_ret
  exact ⟨rfl, O4.out⟩
end Go.Proofs.YthapipgaohlgdabGreatDoor

/- What the statements ask, as plain facts. -/
namespace Go.Proofs.YthapipgaohlgdabGreatDoor
open Go.RowKit

set_option maxRecDepth 100000 in
theorem gs_two {n : Nat} (h : n ≤ 16383) : (gs n).length ≤ 2 := Nat.le_trans (gs_mono h) (by rw [gs_big (by omega), gs_small (by omega)]; decide)
/-- no chunk takes more -/
theorem ENCC_size {tn : List Int} {s : List (Int × Int)} (ht : tn.length ≤ 64) (hs : s.length ≤ 200) : (ENCC tn s).1.length ≤ 2 + tn.length + 3 + 2 * (3 + (1 + 8 * s.length)) := by
  rw [ENCC_of ht (by omega), blk_small (by omega)]
  have h8 := (ENC8_len (l := s.map Prod.fst) (by rw [List.length_map]; omega)).1
  have h11 := (ENC11_len (l := s.map Prod.snd) (by rw [List.length_map]; omega)).1
  rw [List.length_map] at h8 h11
  have g8 := gs_two (n := (e8c (s.map Prod.fst)).length) (by unfold e8c; omega)
  have g11 := gs_two (n := (e11c (s.map Prod.snd)).length) (by unfold e11c; omega)
  have gn := gs_two (n := s.length) (by omega)
  unfold blk e8c e11c at *
  simp only [List.length_cons, List.length_append] at *
  omega
def rest12 (s : List (Int × Int)) : List Int := gs s.length ++ (blk (e8c (s.map Prod.fst)) ++ blk (e11c (s.map Prod.snd)))
theorem ENCC_rest {tn : List Int} {s : List (Int × Int)} (ht : tn.length ≤ 64) (hs : s.length ≤ 65536) : (ENCC tn s).1 = 1 :: (tn.length : Int) :: (tn ++ rest12 s) := by
  rw [ENCC_of ht hs, blk_small (by omega)]; rfl
theorem ENCC_drop {tn : List Int} {s : List (Int × Int)} (ht : tn.length ≤ 64) (hs : s.length ≤ 65536) : (ENCC tn s).1.drop (2 + tn.length) = rest12 s := by
  rw [ENCC_rest ht hs, show 2 + tn.length = tn.length + 1 + 1 by omega, List.drop_succ_cons, List.drop_succ_cons, List.drop_left]
theorem ENCC_lenr {tn : List Int} {s : List (Int × Int)} (ht : tn.length ≤ 64) (hs : s.length ≤ 65536) : (ENCC tn s).1.length = 2 + tn.length + (rest12 s).length := by
  rw [ENCC_rest ht hs]; simp only [List.length_cons, List.length_append]; omega
theorem rest12_pos (s : List (Int × Int)) : 0 < (rest12 s).length := by
  unfold rest12; have := gs_pos s.length; simp only [List.length_append]; omega
theorem ENCC_err {tn : List Int} {s : List (Int × Int)} (h : 64 < tn.length) : (ENCC tn s).2 = 4 := by rw [ENCC_long (.inl h)]
theorem ENCC_ok {tn : List Int} {s : List (Int × Int)} (hs : s.length ≤ 65536) (h : tn.length ≤ 64) : (ENCC tn s).2 = 0 := by rw [ENCC_of h hs]
theorem ENCC_few {tn : List Int} {s : List (Int × Int)} (hs : s.length ≤ 200) : (ENCC tn s).1.length ≤ 4000 := by
  by_cases h : 64 < tn.length
  · rw [ENCC_long (.inl h)]; simp
  · have := ENCC_size (tn := tn) (s := s) (by omega) hs; omega
theorem ENCC_range {tn : List Int} {s : List (Int × Int)} (ht : ∀ y ∈ tn, 0 ≤ y ∧ y ≤ 255) (h1 : tn.length ≤ 64) (h2 : s.length ≤ 65536) (hg : Gs s) : ∀ y ∈ (ENCC tn s).1, 0 ≤ y ∧ y ≤ 255 := by
  rw [ENCC_of h1 h2]
  intro y hy
  simp only [List.mem_cons, List.mem_append] at hy
  rcases hy with rfl | hy | hy | hy | hy
  · omega
  · exact blk_range tn ht y hy
  · exact gs_range _ y hy
  · exact blk_range _ (ENC8_byt hg.1) y hy
  · exact blk_range _ (ENC11_rng _) y hy
end Go.Proofs.YthapipgaohlgdabGreatDoor

/- The walk of the statement 'no chunk takes more'. -/
namespace Go.Proofs.YthapipgaohlgdabGreatDoor
open Go.RowKit

/-- a chunk that came in, boxed -/
theorem box_cells (w : World) (x y : Value) : (w.alloc (.cells #[x, y] 24)).cell? ⟨w.heap.size, 0, none⟩ = some x ∧ (w.alloc (.cells #[x, y] 24)).cell? ⟨w.heap.size, 1, none⟩ = some y := ⟨by go_cell, by go_cell⟩

end Go.Proofs.YthapipgaohlgdabGreatDoor
