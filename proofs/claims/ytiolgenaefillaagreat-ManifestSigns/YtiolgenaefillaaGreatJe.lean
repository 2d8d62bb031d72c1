/- Package manifest: Decode: what is deferred, and what is told. -/
import Derived.Test.YtiolgenaefillaaGreatJd
import Derived.Recover
namespace Go.Proofs.YtiolgenaefillaaGreat
open Go.RowKit

/-- what bytes are: a manifest, or none and why -/
def MDv (ys : List Int) : MAN := match MDEC ys with
  | .ok m => m
  | .error _ => ⟨0, [], [], []⟩
def MDe (ys : List Int) : Int := match MDEC ys with
  | .ok _ => 0
  | .error c => c
theorem MD_ok {ys : List Int} {m : MAN} (h : MDEC ys = .ok m) : MDv ys = m ∧ MDe ys = 0 := by unfold MDv MDe; rw [h]; exact ⟨rfl, rfl⟩
theorem MD_err {ys : List Int} {c : Int} (h : MDEC ys = .error c) : MDv ys = ⟨0, [], [], []⟩ ∧ MDe ys = c := by unfold MDv MDe; rw [h]; exact ⟨rfl, rfl⟩
abbrev mfNone : Value := .agg #[.int .u64 0, .slice none 0 0, .slice none 0 0, .slice none 0 0]
/-- a manifest that is new -/
structure Mnw (w w' : World) (x : Value) (m : MAN) (vp ve vr : Value) : Prop where
  mf : Mf w' x m vp ve vr
  np : NoCap vp
  nr : NoCap vr
  bp : ∀ k, vp.ownBlock = some k → w.heap.size ≤ k
  be : ∀ k, ve.ownBlock = some k → w.heap.size ≤ k
  br : ∀ k, vr.ownBlock = some k → w.heap.size ≤ k
theorem Mnw.zero (w w' : World) : Mnw w w' mfNone ⟨0, [], [], []⟩ (.slice none 0 0) (.slice none 0 0) (.slice none 0 0) :=
  ⟨⟨rfl, Bs.nil _ _, Ens.nil _, Bs.nil _ _⟩, NoCap.nil, NoCap.nil, own_nil _, own_nil _, own_nil _⟩
theorem Mnw.keep {w w' w'' : World} {x : Value} {m : MAN} {vp ve vr : Value} (h : Mnw w w' x m vp ve vr) {B : Nat} (o : Only (fun k => k = B) w' w'') (hB : B < w.heap.size) : Mnw w w'' x m vp ve vr :=
  ⟨⟨h.mf.form, h.mf.prev.keep o (fun k hk e => by have := h.bp k hk; omega), h.mf.es.keep o (fun k hk e => by have := h.be k hk; omega), h.mf.root.keep o (fun k hk e => by have := h.br k hk; omega)⟩, h.np, h.nr, h.bp, h.be, h.br⟩
theorem Mnw.low {w0 w w' : World} {x : Value} {m : MAN} {vp ve vr : Value} (h : Mnw w w' x m vp ve vr) (hl : w0.heap.size ≤ w.heap.size) : Mnw w0 w' x m vp ve vr :=
  ⟨h.mf, h.np, h.nr, fun k hk => Nat.le_trans hl (h.bp k hk), fun k hk => Nat.le_trans hl (h.be k hk), fun k hk => Nat.le_trans hl (h.br k hk)⟩
set_option maxHeartbeats 1600000 in
set_option maxRecDepth 100000 in
/-- the closure that reads -/
theorem dec1_any (B : Nat) (v : Value) (ys : List Int) (w : World) (hB : w.heap[B]? = some (.cells #[v] 23 (0, 0))) (h : Bs .u8 w v ys) (hr : U8 ys) (hl : ys.length ≤ 1000000000000) :
    Calls Tryz.prog 33 #[.pointer (some ⟨B, 0, none⟩)] w fun e w' => Only (fun _ => False) w w' ∧ ((MDe ys ≠ 0 ∧ MDv ys = ⟨0, [], [], []⟩ ∧ e = pan (MDe ys)) ∨ (MDe ys = 0 ∧ ∃ x vp ve vr, e = .returned x ∧ Mnw w w' x (MDv ys) vp ve vr)) := by
  obtain ⟨cB, _⟩ := one_cell hB
  have cB1 : (w.alloc (.cells #[.int .u64 0, .slice none 0 0, .slice none 0 0, .slice none 0 0] 26)).cell? ⟨B, 0, none⟩ = some v := by
    have := heap_alloc_old (o := .cells #[.int .u64 0, .slice none 0 0, .slice none 0 0, .slice none 0 0] 26) hB
    simp [World.cell?, this]
  have oa : Only (fun _ => False) w (w.alloc (.cells #[.int .u64 0, .slice none 0 0, .slice none 0 0, .slice none 0 0] 26)) := (Only.refl _ _).alloc _
  have A := hideIt (new_bs v ys _ (h.past oa) hr hl)
  have G0 := hideIt (heap_alloc_new w (.cells #[.int .u64 0, .slice none 0 0, .slice none 0 0, .slice none 0 0] 26))
  have OA := hideIt oa
  obtain ⟨av, cv, ev⟩ := h.len
  subst ev
  clear h hB cB oa
  go_enter Tryz.func33, Tryz.ntmps33
  go_wp2_with fail
  refine A.out.mono ?_
  rintro e w1 ⟨R, v', rfl, c1, o1, hR1, hR2, hvk⟩
  have hR1' : w.heap.size + 1 ≤ R := by simpa using hR1
  have RD := hideIt (read_any c1 hR2 (fun j hj => (hvk j hj).2))
  have O1 := hideIt (OA.out.same o1)
  have G1 := hideIt (o1.heap G0.out (fun f => f))
  have hs1 := O1.out.size
  clear A c1 o1 hvk hR1 G0 OA
  go_wp2_with fail
  refine RD.out.mono ?_
  rintro e w2 ⟨o2, ⟨c, hc0, hd, rfl⟩ | ⟨m, x, vp, ve, vr, hd, rfl, hmf, np, nr, bp, br, be⟩⟩
  · obtain ⟨e1, e2⟩ := MD_err hd
    have F := hideIt (And.intro (O1.out.trans o2 (fun i hi e => by omega)) (And.intro e1 e2))
    clear RD o2 hd e1 e2
    unfold pan
    go_wp2
    refine ⟨rfl, F.out.1, .inl ⟨by rw [F.out.2.2]; exact hc0, F.out.2.1, by rw [F.out.2.2]; rfl⟩⟩
  · obtain ⟨e1, e2⟩ := MD_ok hd
    have G2 := o2.heap G1.out (fun e => by omega)
    obtain ⟨⟨k0, k1, k2, k3⟩, f0, f1, f2, f3⟩ := cells4 G2
    obtain ⟨ap, pc, ep⟩ := hmf.prev.len
    obtain ⟨ae, ec, ee⟩ := hmf.es.len
    obtain ⟨ar, rc, er⟩ := hmf.root.len
    subst ep ee er
    have hx := hmf.form
    subst hx
    obtain ⟨g, og⟩ := put4 G2 (.int .u64 m.ver) (.slice ap m.prev.length pc) (.slice ae m.es.length ec) (.slice ar m.root.length rc)
    have F := hideIt (And.intro (load_man g) (And.intro ((O1.out.trans o2 (fun i hi e => by omega)).trans og (fun i hi e => by omega)) (show Mnw w _ _ m _ _ _ from
      ⟨⟨rfl, hmf.prev.keep og (fun k hk e => by have := bp k hk; omega), hmf.es.keep og (fun k hk e => by have := be k hk; omega), hmf.root.keep og (fun k hk e => by have := br k hk; omega)⟩, np, nr, fun k hk => by have := bp k hk; omega, fun k hk => by have := be k hk; omega, fun k hk => by have := br k hk; omega⟩)))
    have ME := hideIt (And.intro e1 e2)
    clear RD o2 hd e1 e2 hmf np nr bp br be g og G2
    go_wp2
    refine bodyPost_ret (results_b1 Tryz.results33 _ _ rfl F.out.1) rfl ?_
    refine ⟨F.out.2.1, .inr ⟨ME.out.2, _, .slice ap m.prev.length pc, .slice ae m.es.length ec, .slice ar m.root.length rc, rfl, ?_⟩⟩
    rw [ME.out.1]
    exact F.out.2.2
set_option maxHeartbeats 1600000 in
set_option maxRecDepth 100000 in
/-- what is deferred, where nothing panics: nothing -/
theorem told_idle (q : Nat) (w : World) :
    CallsD Tryz.prog 55 #[.pointer (some ⟨q, 0, none⟩)] .returning w fun e u' w' => e = .returned (.tuple #[]) ∧ u' = .returning ∧ w = w' := by
  refine callsD_of_wpS Tryz.func55 rfl fun c₀ cs hu => ?_
  apply wpS_seq
  apply wpS_region
  simp [wpOpsS, go_sem, recoverD, hu, Tryz.ntmps55, Exit.thenS]
  refine wpS_of_wp ?_
  go_wp2
  cases c₀
  simp_all [bodyPostS, results, Tryz.results55]
set_option maxHeartbeats 1600000 in
set_option maxRecDepth 100000 in
/-- what is deferred, where an error was the panic's: it is told -/
theorem told_err (q : Nat) (c : Int) (older : List PanicEntry) (w : World) (y : Value) (hq : w.cell? ⟨q, 0, none⟩ = some y) (fq : w.frozen? ⟨q, 0, none⟩ = false) :
    CallsD Tryz.prog 55 #[.pointer (some ⟨q, 0, none⟩)] (.panicking ({ v := .iface 29 (.int .i64 c), recovered := false } :: older)) w fun e u' w' =>
      e = .returned (.tuple #[]) ∧ u' = .panicking ({ v := .iface 29 (.int .i64 c), recovered := true } :: older) ∧ w' = w.setCell ⟨q, 0, none⟩ (.int .i64 c) := by
  have hta : ∀ (W : World), (Instr.typeAssert (.iface 29 (.int .i64 c)) 20 29 true).run Tryz.prog W = .ok (.tuple #[.int .i64 c, .bool true]) W := fun _ => by kernel_rfl
  refine callsD_of_wpS Tryz.func55 rfl fun c₀ cs hu => ?_
  apply wpS_seq
  apply wpS_region
  simp [wpOpsS, go_sem, recoverD, hu, Tryz.ntmps55, Exit.thenS]
  refine wpS_of_wp ?_
  go_wp2
  simp [bodyPostS, results, Tryz.results55]
theorem results_cc {P : Program} {fn : Func} {p q : Tmp} {ty ty2 : TypeId} (h : fn.results = #[.cell p ty, .cell q ty2]) (tmps : Array Value) (w : World) {a b : Addr} {v1 v2 : Value}
    (hp : tmps.getD p undef = .pointer (some a)) (hq : tmps.getD q undef = .pointer (some b)) (h1 : (loadVar ty a).run P w = .ok v1 w) (h2 : (loadVar ty2 b).run P w = .ok v2 w) :
    (results fn tmps).run P w = .ok (.tuple #[v1, v2]) w := by
  have hp' : tmps[p]?.getD undef = .pointer (some a) := by simpa using hp
  have hq' : tmps[q]?.getD undef = .pointer (some b) := by simpa using hq
  simp [results, h, hp', hq', asAddr, h1, h2]
theorem results_ct {P : Program} {fn : Func} {p q : Tmp} {ty : TypeId} (h : fn.results = #[.cell p ty, .tmp q]) (tmps : Array Value) (w : World) {a : Addr} {v1 v2 : Value}
    (hp : tmps.getD p undef = .pointer (some a)) (hq : tmps.getD q undef = v2) (h1 : (loadVar ty a).run P w = .ok v1 w) :
    (results fn tmps).run P w = .ok (.tuple #[v1, v2]) w := by
  have hp' : tmps[p]?.getD undef = .pointer (some a) := by simpa using hp
  have hq' : tmps[q]?.getD undef = v2 := by simpa using hq
  simp [results, h, hp', hq', asAddr, h1]
theorem load_errno {W : World} {b : Nat} {c : Int} (h : W.heap[b]? = some (.cells #[.int .i64 c] 29 (0, 0))) : (loadVar 29 ⟨b, 0, none⟩).run Tryz.prog W = .ok (.int .i64 c) W := by
  have hc : W.cell? ⟨b, 0, none⟩ = some (.int .i64 c) := by simp [World.cell?, h]
  simp [go_sem, hc]
set_option maxHeartbeats 1600000 in
set_option maxRecDepth 100000 in
theorem told_any (B : Nat) (v : Value) (ys : List Int) (w : World) (hB : w.heap[B]? = some (.cells #[v] 23 (0, 0))) (h : Bs .u8 w v ys) (hr : U8 ys) (hl : ys.length ≤ 1000000000000) :
    Calls Tryz.prog 32 #[.func (.func 33) #[] #[.pointer (some ⟨B, 0, none⟩)]] w fun e w' => ∃ x vp ve vr, e = .returned (.tuple #[x, .int .i64 (MDe ys)]) ∧ Mnw w w' x (MDv ys) vp ve vr ∧ Only (fun _ => False) w w' := by
  have hmf : ∀ (fn : Fn) (first cap : Array Value) (w : World), (Instr.makeFunc fn first cap).run Tryz.prog w = .ok (.func fn first cap) w := fun _ _ _ _ => rfl
  have oa : Only (fun _ => False) w ((w.alloc (.cells #[.int .u64 0, .slice none 0 0, .slice none 0 0, .slice none 0 0] 26)).alloc (.cells #[.int .i64 0] 29)) := ((Only.refl _ _).alloc _).alloc _
  have RD := hideIt (dec1_any B v ys _ (oa.heap hB (fun f => f)) (h.past oa) hr hl)
  have g0 := heap_alloc_old (o := .cells #[.int .i64 0] 29) (heap_alloc_new w (.cells #[.int .u64 0, .slice none 0 0, .slice none 0 0, .slice none 0 0] 26))
  have g1 := heap_at_new (W := w.alloc (.cells #[.int .u64 0, .slice none 0 0, .slice none 0 0, .slice none 0 0] 26)) (o := .cells #[.int .i64 0] 29) (k := w.heap.size + 1) (by simp)
  have OA := hideIt oa
  obtain ⟨c, hc⟩ : ∃ c, c = MDe ys := ⟨_, rfl⟩
  obtain ⟨m, hm⟩ : ∃ m, m = MDv ys := ⟨_, rfl⟩
  rw [← hc, ← hm] at RD
  rw [← hc, ← hm]
  clear hc hm
  have G0 := hideIt g0
  have G1 := hideIt g1
  clear h hB oa g0 g1
  go_enter_defers Tryz.func32, Tryz.ntmps32
  go_wp2_with fail
  refine RD.out.mono ?_
  rintro e w2 ⟨o2, hh⟩
  have K0 := o2.heap G0.out (fun f => f)
  have K1 := o2.heap G1.out (fun f => f)
  have O2 := hideIt (OA.out.same o2)
  have hs2 := o2.size
  clear o2 RD G0 G1 OA
  rcases hh with ⟨he, hm, rfl⟩ | ⟨he, x, vp, ve, vr, rfl, mn⟩
  · obtain ⟨p1, p2⟩ := one_cell K1
    have o3 : Only (fun k => k = w.heap.size + 1) w2 (w2.setCell ⟨w.heap.size + 1, 0, none⟩ (.int .i64 c)) := (Only.refl (fun k => k = w.heap.size + 1) w2).setCell (p := ⟨w.heap.size + 1, 0, none⟩) (fun _ => rfl) _
    have F0 := hideIt (load_man (o3.heap K0 (fun e => by omega)))
    have F1 := hideIt (load_errno (heap_one K1 (.int .i64 c)))
    have OX := hideIt (O2.out.trans o3 (fun i hi e => by omega))
    have CE := hideIt (told_err (w.heap.size + 1) c [] w2 _ p1 p2)
    have HM := hideIt hm
    clear K0 K1 o3 hm
    unfold pan
    go_wp2
    refine leaves_cons (f := 55) (args := #[.pointer (some ⟨w.heap.size + 1, 0, none⟩)]) (by simp) (by simp [go_sem]) ?_
    refine CE.out.mono ?_
    rintro e u' w'' ⟨rfl, rfl, rfl⟩
    refine ⟨_, results_cc Tryz.results32 _ _ rfl rfl F0.out F1.out, ?_⟩
    refine ⟨_, .slice none 0 0, .slice none 0 0, .slice none 0 0, rfl, ?_, OX.out⟩
    rw [HM.out]
    exact Mnw.zero _ _
  · obtain ⟨ap, pc, ep⟩ := mn.mf.prev.len
    obtain ⟨ae, ec, ee⟩ := mn.mf.es.len
    obtain ⟨ar, rc, er⟩ := mn.mf.root.len
    subst ep ee er
    have hx := mn.mf.form
    subst hx
    obtain ⟨⟨k0, k1, k2, k3⟩, f0, f1, f2, f3⟩ := cells4 K0
    obtain ⟨p1, p2⟩ := one_cell K1
    obtain ⟨g, og⟩ := put4 K0 (.int .u64 m.ver) (.slice ap m.prev.length pc) (.slice ae m.es.length ec) (.slice ar m.root.length rc)
    have K1' := og.heap K1 (fun e => by omega)
    generalize hW3 : ((((w2.setCell ⟨w.heap.size, 0, none⟩ (.int .u64 m.ver)).setCell ⟨w.heap.size, 1, none⟩ (.slice ap m.prev.length pc)).setCell ⟨w.heap.size, 2, none⟩ (.slice ae m.es.length ec)).setCell ⟨w.heap.size, 3, none⟩ (.slice ar m.root.length rc)) = w3 at *
    have o3 : Only (fun k => k = w.heap.size + 1) w3 (w3.setCell ⟨w.heap.size + 1, 0, none⟩ (.int .i64 0)) := (Only.refl (fun k => k = w.heap.size + 1) w3).setCell (p := ⟨w.heap.size + 1, 0, none⟩) (fun _ => rfl) _
    have F0 := hideIt (load_man (o3.heap g (fun e => by omega)))
    have F1 := hideIt (load_errno (heap_one K1' (.int .i64 0)))
    have OX := hideIt ((O2.out.trans og (fun i hi e => by omega)).trans o3 (fun i hi e => by omega))
    have MN := hideIt (((mn.keep og (by simp; omega)).keep o3 (by simp)).low (w0 := w) (by simp; omega))
    have HE := hideIt he
    rw [← hW3] at F0 F1 OX MN
    clear K0 K1 K1' o3 g og mn he hW3
    go_wp2
    refine leaves_cons (f := 55) (args := #[.pointer (some ⟨w.heap.size + 1, 0, none⟩)]) (by simp) (by simp [go_sem]) ?_
    refine (told_idle (w.heap.size + 1) _).mono ?_
    rintro e u' w'' ⟨rfl, rfl, rfl⟩
    refine ⟨_, results_cc Tryz.results32 _ _ rfl rfl F0.out F1.out, ?_⟩
    refine ⟨_, .slice ap m.prev.length pc, .slice ae m.es.length ec, .slice ar m.root.length rc, by rw [HE.out], ?_, OX.out⟩
    exact MN.out
set_option maxHeartbeats 1600000 in
set_option maxRecDepth 100000 in
theorem decode_any (v : Value) (ys : List Int) (w : World) (h : Bs .u8 w v ys) (hr : U8 ys) (hl : ys.length ≤ 1000000000000) :
    Calls Tryz.prog 11 #[v] w fun e w' => ∃ x vp ve vr, e = .returned (.tuple #[x, .int .i64 (MDe ys)]) ∧ Mnw w w' x (MDv ys) vp ve vr ∧ Only (fun _ => False) w w' := by
  have hmf : ∀ (fn : Fn) (first cap : Array Value) (w : World), (Instr.makeFunc fn first cap).run Tryz.prog w = .ok (.func fn first cap) w := fun _ _ _ _ => rfl
  obtain ⟨av, cv, ev⟩ := h.len
  subst ev
  have oa : Only (fun _ => False) w ((w.alloc (.cells #[.slice av ys.length cv] 23)).alloc (.cells #[.int .u64 0, .slice none 0 0, .slice none 0 0, .slice none 0 0] 26)) := ((Only.refl _ _).alloc _).alloc _
  have g0 := heap_alloc_old (o := .cells #[.int .u64 0, .slice none 0 0, .slice none 0 0, .slice none 0 0] 26) (heap_alloc_new w (.cells #[.slice av ys.length cv] 23))
  have g1 := heap_at_new (W := w.alloc (.cells #[.slice av ys.length cv] 23)) (o := .cells #[.int .u64 0, .slice none 0 0, .slice none 0 0, .slice none 0 0] 26) (k := w.heap.size + 1) (by simp)
  have RD := hideIt (told_any w.heap.size _ ys _ g0 (h.past oa) hr hl)
  have G1 := hideIt g1
  have OA := hideIt oa
  obtain ⟨c, hc⟩ : ∃ c, c = MDe ys := ⟨_, rfl⟩
  obtain ⟨m, hm⟩ : ∃ m, m = MDv ys := ⟨_, rfl⟩
  rw [← hc, ← hm] at RD
  rw [← hc, ← hm]
  clear hc hm
  clear h oa g0 g1 hr hl
  go_enter Tryz.func11, Tryz.ntmps11
  go_wp2_with fail
  refine RD.out.mono ?_
  rintro e w2 ⟨x, vp, ve, vr, rfl, mn, o2⟩
  have K1 := o2.heap G1.out (fun f => f)
  have hs2 := o2.size
  obtain ⟨ap, pc, ep⟩ := mn.mf.prev.len
  obtain ⟨ae, ec, ee⟩ := mn.mf.es.len
  obtain ⟨ar, rc, er⟩ := mn.mf.root.len
  subst ep ee er
  have hx := mn.mf.form
  subst hx
  obtain ⟨⟨k0, k1, k2, k3⟩, f0, f1, f2, f3⟩ := cells4 K1
  obtain ⟨g, og⟩ := put4 K1 (.int .u64 m.ver) (.slice ap m.prev.length pc) (.slice ae m.es.length ec) (.slice ar m.root.length rc)
  have F := hideIt (And.intro (load_man g) (And.intro ((OA.out.same o2).trans og (fun i hi e => by omega)) ((mn.keep og (by simp)).low (w0 := w) (by simp; omega))))
  clear RD K1 o2 mn g og G1 OA
  go_wp2
  refine bodyPost_ret (results_ct Tryz.results11 _ _ rfl rfl F.out.1) rfl ?_
  refine ⟨_, .slice ap m.prev.length pc, .slice ae m.es.length ec, .slice ar m.root.length rc, rfl, ?_, F.out.2.1⟩
  exact F.out.2.2
end Go.Proofs.YtiolgenaefillaaGreat
