/- Words turned to the left; what four words come to, by the program and by the document; the example. -/
import Derived.Test.YtjiippbjflpkkaaProg
import Derived.Test.YtjiippbjflpkkaaBase
import Derived.Test.YtjiippbjflpkkaaCm
namespace Go.Proofs.Ytjiippbjflpkkaa
open Go.RowKit

theorem and31p (n : Nat) (h2 : n ≤ 31) : bits .and .u64 (n : Int) 31 = (n : Int) := by
  rw [show (31 : Int) = ((31 : Nat) : Int) from rfl, u64_and_nat _ _ (by omega) (by omega), show (31 : Nat) = 2 ^ 5 - 1 from rfl, Nat.and_two_pow_sub_one_eq_mod]
  omega
theorem shr_lt (x n : Nat) (hx : x < 4294967296) : x / 2 ^ n < 4294967296 := Nat.lt_of_le_of_lt (Nat.div_le_self _ _) hx
theorem xor_lt {x y : Nat} (hx : x < 4294967296) (hy : y < 4294967296) : x ^^^ y < 4294967296 := Nat.xor_lt_two_pow (n := 32) hx hy
theorem left_form (x s m : Nat) (hx : x < 4294967296) (h1 : 1 ≤ s) (h2 : s ≤ 31) (hm : m = 32 - s) : bits .or .u32 ((x : Int) * 2 ^ s % 4294967296) ((x : Int) / 2 ^ (32 - s)) = ((rotw x m : Nat) : Int) := by
  subst hm
  rw [show ((x : Int) * 2 ^ s % 4294967296) = ((x * 2 ^ s % 4294967296 : Nat) : Int) by simp, show ((x : Int) / 2 ^ (32 - s)) = ((x / 2 ^ (32 - s) : Nat) : Int) by simp,
    u32_or_nat _ _ (Nat.mod_lt _ (by decide)) (shr_lt _ _ hx)]
  unfold rotw
  rw [Nat.or_comm, show 32 - (32 - s) = s by omega]

set_option maxHeartbeats 400000 in
set_option maxRecDepth 100000 in
theorem rotp_any (x n m : Nat) (w : World) (hx : x < 4294967296) (h1 : 1 ≤ n) (h2 : n ≤ 31) (hm : m = 32 - n) :
    Calls Try.prog 62 #[.int .u32 x, .int .i64 n] w fun e w' => e = .returned (.int .u32 (rotw x m : Nat)) ∧ w = w' := by
  have hb := and31p n h2
  have hw : IntKind.u64.wrap (n : Int) = (n : Int) := by simp [IntKind.wrap, IntKind.bits, IntKind.signed]; omega
  have HL := hideIt (left_form x n m hx h1 h2 hm)
  clear hm
  go_enter Try.func62, Try.ntmps62
  go_wp2
  go_ret
  exact ⟨ret_int HL.out, rfl⟩
set_option maxHeartbeats 400000 in
set_option maxRecDepth 100000 in
theorem rrotp_any (x n m : Nat) (w : World) (hx : x < 4294967296) (h1 : 1 ≤ n) (h2 : n ≤ 31) (hm : m = 32 - n) :
    Calls Try.prog 61 #[.int .u32 x, .int .u64 n] w fun e w' => e = .returned (.int .u32 (rotw x m : Nat)) ∧ w = w' := by
  have HL := hideIt (left_form x n m hx h1 h2 hm)
  clear hm
  go_enter Try.func61, Try.ntmps61
  go_wp2
  go_ret
  exact ⟨ret_int HL.out, rfl⟩
theorem add_int (a b : Nat) : IntKind.u32.wrap ((a : Int) + (b : Int)) = (((a + b) % 4294967296 : Nat) : Int) := by
  rw [IntKind.wrap_u32']; omega
theorem results_four {fn : Func} {a b c d : Tmp} (h : fn.results = #[.tmp a, .tmp b, .tmp c, .tmp d]) (tmps : Array Value) (P : Program) (w : World) : (results fn tmps).run P w = .ok (.tuple #[tmps.getD a undef, tmps.getD b undef, tmps.getD c undef, tmps.getD d undef]) w := by
  simp [results, h]
/-- four words as a tuple -/
def q4v (q : Q4) : Value := .tuple #[.int .u32 (q.a : Nat), .int .u32 (q.b : Nat), .int .u32 (q.c : Nat), .int .u32 (q.d : Nat)]
/-- the steps of a turn, each under a name of its own -/
structure Steps (a b c d a1 x1 d1 c1 x2 b1 a2 x3 d2 c2 x4 b2 : Nat) : Prop where
  s1 : IntKind.u32.wrap ((a : Int) + (b : Int)) = (a1 : Int)
  s2 : bits .xor .u32 (d : Int) (a1 : Int) = (x1 : Int)
  s3 : d1 = rotw x1 16
  s4 : IntKind.u32.wrap ((c : Int) + (d1 : Int)) = (c1 : Int)
  s5 : bits .xor .u32 (b : Int) (c1 : Int) = (x2 : Int)
  s6 : b1 = rotw x2 20
  s7 : IntKind.u32.wrap ((a1 : Int) + (b1 : Int)) = (a2 : Int)
  s8 : bits .xor .u32 (d1 : Int) (a2 : Int) = (x3 : Int)
  s9 : d2 = rotw x3 24
  s10 : IntKind.u32.wrap ((c1 : Int) + (d2 : Int)) = (c2 : Int)
  s11 : bits .xor .u32 (b1 : Int) (c2 : Int) = (x4 : Int)
  s12 : b2 = rotw x4 25
  l1 : x1 < 4294967296
  l2 : x2 < 4294967296
  l3 : x3 < 4294967296
  l4 : x4 < 4294967296
  q : qrt ⟨a, b, c, d⟩ = ⟨a2, b2, c2, d2⟩
theorem steps (a b c d : Nat) (_ha : a < 4294967296) (hb : b < 4294967296) (_hc : c < 4294967296) (hd : d < 4294967296) : ∃ a1 x1 d1 c1 x2 b1 a2 x3 d2 c2 x4 b2, Steps a b c d a1 x1 d1 c1 x2 b1 a2 x3 d2 c2 x4 b2 := by
  have la : (a + b) % 4294967296 < 4294967296 := Nat.mod_lt _ (by decide)
  have l1 := xor_lt hd la
  have ld := rotw_lt32 _ 16 l1
  have lc : (c + rotw (d ^^^ ((a + b) % 4294967296)) 16) % 4294967296 < 4294967296 := Nat.mod_lt _ (by decide)
  have l2 := xor_lt hb lc
  have lb := rotw_lt32 _ 20 l2
  have la2 : ((a + b) % 4294967296 + rotw (b ^^^ ((c + rotw (d ^^^ ((a + b) % 4294967296)) 16) % 4294967296)) 20) % 4294967296 < 4294967296 := Nat.mod_lt _ (by decide)
  have l3 := xor_lt ld la2
  have ld2 := rotw_lt32 _ 24 l3
  have lc2 : ((c + rotw (d ^^^ ((a + b) % 4294967296)) 16) % 4294967296 + rotw (rotw (d ^^^ ((a + b) % 4294967296)) 16 ^^^ (((a + b) % 4294967296 + rotw (b ^^^ ((c + rotw (d ^^^ ((a + b) % 4294967296)) 16) % 4294967296)) 20) % 4294967296)) 24) % 4294967296 < 4294967296 := Nat.mod_lt _ (by decide)
  have l4 := xor_lt lb lc2
  exact ⟨_, _, _, _, _, _, _, _, _, _, _, _, add_int _ _, u32_xor_nat _ _ hd la, rfl, add_int _ _, u32_xor_nat _ _ hb lc, rfl, add_int _ _, u32_xor_nat _ _ ld la2, rfl, add_int _ _, u32_xor_nat _ _ lb lc2, rfl, l1, l2, l3, l4, rfl⟩

set_option maxHeartbeats 800000 in
set_option maxRecDepth 100000 in
theorem quarter_any (a b c d : Nat) (w : World) (ha : a < 4294967296) (hb : b < 4294967296) (hc : c < 4294967296) (hd : d < 4294967296) :
    Calls Try.prog 59 #[.int .u32 a, .int .u32 b, .int .u32 c, .int .u32 d] w fun e w' => e = .returned (q4v (qrt ⟨a, b, c, d⟩)) ∧ w = w' := by
  obtain ⟨a1, x1, d1, c1, x2, b1, a2, x3, d2, c2, x4, b2, S⟩ := steps a b c d ha hb hc hd
  have A := hideIt (rotp_any x1 16 16 w S.l1 (by decide) (by decide) rfl)
  have B := hideIt (rotp_any x2 12 20 w S.l2 (by decide) (by decide) rfl)
  have C := hideIt (rotp_any x3 8 24 w S.l3 (by decide) (by decide) rfl)
  have D := hideIt (rotp_any x4 7 25 w S.l4 (by decide) (by decide) rfl)
  rw [← S.s3] at A
  rw [← S.s6] at B
  rw [← S.s9] at C
  rw [← S.s12] at D
  rw [S.q]
  obtain ⟨s1, s2, -, s4, s5, -, s7, s8, -, s10, s11, -, -, -, -, -, -⟩ := S
  clear ha hb hc hd
  go_enter Try.func59, Try.ntmps59
  go_wp2_with fail
  refine A.out.mono ?_
  rintro e w1 ⟨rfl, rfl⟩
  go_wp2_with fail
  refine B.out.mono ?_
  rintro e w1 ⟨rfl, rfl⟩
  go_wp2_with fail
  refine C.out.mono ?_
  rintro e w1 ⟨rfl, rfl⟩
  go_wp2_with fail
  refine D.out.mono ?_
  rintro e w1 ⟨rfl, rfl⟩
  go_wp2
  try simp only [Exit.inBlock, Exit.then]
  exact bodyPost_ret (results_four rfl _ _ _) rfl ⟨rfl, rfl⟩
set_option maxHeartbeats 800000 in
set_option maxRecDepth 100000 in
theorem rquarter_any (a b c d : Nat) (w : World) (ha : a < 4294967296) (hb : b < 4294967296) (hc : c < 4294967296) (hd : d < 4294967296) :
    Calls Try.prog 52 #[.int .u32 a, .int .u32 b, .int .u32 c, .int .u32 d] w fun e w' => e = .returned (q4v (qrt ⟨a, b, c, d⟩)) ∧ w = w' := by
  obtain ⟨a1, x1, d1, c1, x2, b1, a2, x3, d2, c2, x4, b2, S⟩ := steps a b c d ha hb hc hd
  have A := hideIt (rrotp_any x1 16 16 w S.l1 (by decide) (by decide) rfl)
  have B := hideIt (rrotp_any x2 12 20 w S.l2 (by decide) (by decide) rfl)
  have C := hideIt (rrotp_any x3 8 24 w S.l3 (by decide) (by decide) rfl)
  have D := hideIt (rrotp_any x4 7 25 w S.l4 (by decide) (by decide) rfl)
  rw [← S.s3] at A
  rw [← S.s6] at B
  rw [← S.s9] at C
  rw [← S.s12] at D
  rw [S.q]
  obtain ⟨s1, s2, -, s4, s5, -, s7, s8, -, s10, s11, -, -, -, -, -, -⟩ := S
  clear ha hb hc hd
  go_enter Try.func52, Try.ntmps52
  go_wp2_with fail
  refine A.out.mono ?_
  rintro e w1 ⟨rfl, rfl⟩
  go_wp2_with fail
  refine B.out.mono ?_
  rintro e w1 ⟨rfl, rfl⟩
  go_wp2_with fail
  refine C.out.mono ?_
  rintro e w1 ⟨rfl, rfl⟩
  go_wp2_with fail
  refine D.out.mono ?_
  rintro e w1 ⟨rfl, rfl⟩
  go_wp2
  try simp only [Exit.inBlock, Exit.then]
  exact bodyPost_ret (results_four rfl _ _ _) rfl ⟨rfl, rfl⟩
theorem q4_ex : qrt ⟨0x11111111, 0x01020304, 0x9b8d6f43, 0x01234567⟩ = ⟨0xea2a92f4, 0xcb1cf8ce, 0x4581472e, 0x5881c4bb⟩ := by
  obtain ⟨h1, h2, h3, h4⟩ := qrt_ex
  generalize qrt ⟨0x11111111, 0x01020304, 0x9b8d6f43, 0x01234567⟩ = q at *
  obtain ⟨a, b, c, d⟩ := q
  simp only at h1 h2 h3 h4
  subst h1 h2 h3 h4
  rfl
end Go.Proofs.Ytjiippbjflpkkaa
