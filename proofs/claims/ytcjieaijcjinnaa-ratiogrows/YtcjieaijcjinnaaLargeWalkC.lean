/-
  math/bits.Div64 with a divisor below 2^32; large.Div.
-/
import Derived.Test.YtcjieaijcjinnaaLargeWalkB
import Derived.Laws.BitsAllLaws
namespace Go.Proofs.Ytcjieaijcjinnaa
open Go.RowKit

theorem div_key (h l y D E Q1 R1 Q0 R0 : Nat) (hED : E * D = 4294967296) (hD : 0 < D) (hy : 0 < y) (e1 : y * D * Q1 + R1 = h * D * 4294967296 + l / E) (e0 : y * D * Q0 + R0 = R1 * 4294967296 + l % E * D) (l0 : R0 < y * D) :
    Q1 * 4294967296 + Q0 = (h * 18446744073709551616 + l) / y ∧ R0 / D = (h * 18446744073709551616 + l) % y := by
  have eT : (h * 18446744073709551616 + l) * D = (h * D * 4294967296 + l / E) * 4294967296 + l % E * D := by
    have e2 := Nat.div_add_mod l E
    have e3 : l * D = l / E * 4294967296 + l % E * D := by
      conv => lhs; rw [← e2]
      rw [Nat.add_mul, Nat.mul_comm E, Nat.mul_assoc, hED]
    rw [Nat.add_mul, e3, Nat.mul_right_comm h]
    generalize h * D = c
    omega
  have key : (h * 18446744073709551616 + l) * D = y * (Q1 * 4294967296 + Q0) * D + R0 := by
    rw [eT, Nat.mul_right_comm y, Nat.mul_add, ← Nat.mul_assoc (y * D)]
    generalize y * D * Q1 = b1 at *
    generalize y * D * Q0 = b0 at *
    omega
  have keyd : ∃ ρ, R0 = ρ * D := by
    have h1 : D ∣ (h * 18446744073709551616 + l) * D := Nat.dvd_mul_left _ _
    have h2 : D ∣ y * (Q1 * 4294967296 + Q0) * D := Nat.dvd_mul_left _ _
    have h3 : D ∣ R0 := by rw [key] at h1; exact (Nat.dvd_add_right h2).1 h1
    obtain ⟨ρ, hρ⟩ := h3
    exact ⟨ρ, by rw [hρ, Nat.mul_comm]⟩
  obtain ⟨ρ, hρ⟩ := keyd
  rw [hρ, ← Nat.add_mul] at key
  have key2 : h * 18446744073709551616 + l = y * (Q1 * 4294967296 + Q0) + ρ := Nat.eq_of_mul_eq_mul_right hD key
  have hρy : ρ < y := by
    rw [hρ] at l0
    exact (Nat.mul_lt_mul_right hD).1 l0
  constructor
  · rw [key2, Nat.mul_add_div hy, Nat.div_eq_of_lt hρy, Nat.add_zero]
  · rw [key2, Nat.mul_add_mod, Nat.mod_eq_of_lt hρy, hρ, Nat.mul_div_cancel _ hD]
theorem div_core (h l y D E : Nat) (hED : E * D = 4294967296) (hhy : h < y) (hl : l < 18446744073709551616) (hE : 0 < E) (hD : 0 < D) :
    ∃ a c lt lr u1 u q1 r1 p1 z q0 r0 p0 : Nat, a = y * D ∧ c = h * D ∧ lt = l / E ∧ lr = l % E ∧ u1 = lr * D ∧ u = c * 4294967296 + lt ∧ lt < D * 4294967296 ∧ u1 < 4294967296 ∧ c + D ≤ a ∧ q1 = u / a ∧ p1 = q1 * a ∧ u = p1 + r1 ∧ r1 < a ∧ q1 < 4294967296 ∧ z = r1 * 4294967296 + u1 ∧ q0 = z / a ∧ p0 = q0 * a ∧ z = p0 + r0 ∧ r0 < a ∧ q0 < 4294967296 ∧
      q1 * 4294967296 + q0 = (h * 18446744073709551616 + l) / y ∧ r0 / D = (h * 18446744073709551616 + l) % y := by
  have ha0 : 0 < y * D := Nat.mul_pos (by omega) hD
  have hlr : l % E < E := Nat.mod_lt _ hE
  have hlrD : l % E * D < 4294967296 := by rw [← hED]; exact (Nat.mul_lt_mul_right hD).2 hlr
  have hcD : h * D + D ≤ y * D := by rw [← Nat.succ_mul]; exact Nat.mul_le_mul_right D hhy
  have hlt : l / E < D * 4294967296 := by
    rw [Nat.div_lt_iff_lt_mul hE, Nat.mul_comm, ← Nat.mul_assoc, hED]
    omega
  have e1 := Nat.div_add_mod (h * D * 4294967296 + l / E) (y * D)
  have l1 := Nat.mod_lt (h * D * 4294967296 + l / E) ha0
  have q1 : (h * D * 4294967296 + l / E) / (y * D) < 4294967296 := by
    rw [Nat.div_lt_iff_lt_mul ha0]
    generalize y * D = a at *
    generalize h * D = c at *
    omega
  have q0 : ((h * D * 4294967296 + l / E) % (y * D) * 4294967296 + l % E * D) / (y * D) < 4294967296 := by
    rw [Nat.div_lt_iff_lt_mul ha0]
    generalize l % E * D = m at *
    generalize (h * D * 4294967296 + l / E) % (y * D) = r at *
    generalize y * D = a at *
    omega
  have e0 := Nat.div_add_mod ((h * D * 4294967296 + l / E) % (y * D) * 4294967296 + l % E * D) (y * D)
  have l0 := Nat.mod_lt ((h * D * 4294967296 + l / E) % (y * D) * 4294967296 + l % E * D) ha0
  have hk := div_key h l y D E _ _ _ _ hED hD (by omega) e1 e0 l0
  exact ⟨y * D, h * D, l / E, l % E, _, _, _, _, _, _, _, _, _, rfl, rfl, rfl, rfl, rfl, rfl, hlt, hlrD, hcD, rfl, rfl, by rw [Nat.mul_comm _ (y * D)]; exact e1.symm, l1, q1, rfl, rfl, rfl, by rw [Nat.mul_comm _ (y * D)]; exact e0.symm, l0, q0, hk.1, hk.2⟩

theorem bitLenAux_bl : ∀ (f x : Nat), x < 2 ^ f → Lib.bitLenAux f x = bl x
  | 0, x, h => by
    have : x = 0 := by simpa using h
    subst this; rfl
  | f + 1, x, h => by
    rw [Lib.bitLenAux]
    by_cases h0 : x = 0
    · rw [if_pos h0, h0]; rfl
    · rw [if_neg h0, bitLenAux_bl f (x / 2) (by rw [Nat.pow_succ] at h; omega), bl_half x (by omega), Nat.add_comm]
theorem lead64 (y : Nat) (w : World) (h : y < 18446744073709551616) : Calls Try.prog 51 #[.int .u64 (y : Int)] w fun e w' => e = .returned (.int .i64 ((64 - bl y : Nat) : Int)) ∧ w' = w := by
  have h1 := Try.bits_LeadingZeros64 (y : Int) w (by omega) (by omega)
  have h2 : bl y ≤ 64 := bl_le y 64 h
  have e : (64 - (Lib.bitLen (y : Int).toNat : Int)) = ((64 - bl y : Nat) : Int) := by
    rw [Int.toNat_natCast, show Lib.bitLen y = bl y from bitLenAux_bl 64 y h]
    omega
  rw [e] at h1
  exact h1
theorem wrapN (x : Nat) (h : x < 18446744073709551616) : IntKind.u64.wrap (x : Int) = (x : Int) := by rw [IntKind.wrap_u64]; omega
set_option maxRecDepth 100000 in
set_option maxHeartbeats 2000000 in
theorem div64_zero (l y : Nat) (w : World) (hl : l < 18446744073709551616) (h : 0 < y) :
    Calls Try.prog 50 #[.int .u64 0, .int .u64 (l : Int), .int .u64 (y : Int)] w fun e w' => e = .returned (.tuple #[.int .u64 ((l / y : Nat) : Int), .int .u64 ((l % y : Nat) : Int)]) ∧ Kept w w' := by
  have h1 : ((y : Int) == 0) = false := by simp; omega
  have h2 : decide (y ≤ 0) = false := by simp; omega
  have h3 : IntKind.u64.wrap ((l : Int) / (y : Int)) = ((l / y : Nat) : Int) := by
    rw [← Int.natCast_ediv]; exact wrapN _ (Nat.lt_of_le_of_lt (Nat.div_le_self l y) hl)
  go_enter Try.func50, Try.ntmps50
  go_wp2
  go_quiet (fail)
  go_wp2
  refine bodyPost_ret (results_tmp2 Try.results50 _ _ _) rfl ⟨?_, Kept.refl w⟩
  rfl
theorem mulW (a b c : Nat) (h : a * b = c) (hc : c < 18446744073709551616) : IntKind.u64.wrap ((a : Int) * (b : Int)) = (c : Int) := by
  rw [← h, ← Int.natCast_mul]; exact wrapN _ (by omega)
set_option maxRecDepth 100000 in
set_option maxHeartbeats 4000000 in
theorem div64_walk (h l y s a Y C lt u v u1 q1 p1 r1 t1 m1 m2 m3 z q0 p0 r0 t0 m4 m5 m6 Q R : Nat) (w : World) (hs2 : s < 64) (ha : 0 < a)
    (e39 : IntKind.u64.wrap ((y : Int) * 2 ^ s) = (Y : Int)) (e41 : (Y : Int) / 4294967296 = (a : Int)) (e43 : bits .and .u64 (Y : Int) 4294967295 = 0) (e46 : IntKind.u64.wrap ((h : Int) * 2 ^ s) = (C : Int))
    (e50 : (l : Int) / 2 ^ (64 - s) = (lt : Int)) (e51 : bits .or .u64 (C : Int) (lt : Int) = (u : Int)) (e54 : IntKind.u64.wrap ((l : Int) * 2 ^ s) = (v : Int)) (e56 : (v : Int) / 4294967296 = (u1 : Int)) (e58 : bits .and .u64 (v : Int) 4294967295 = 0)
    (e61 : IntKind.u64.wrap ((u : Int) / (a : Int)) = (q1 : Int)) (e65 : IntKind.u64.wrap ((q1 : Int) * (a : Int)) = (p1 : Int)) (e66 : IntKind.u64.wrap ((u : Int) - (p1 : Int)) = (r1 : Int)) (e74 : IntKind.u64.wrap (4294967296 * (r1 : Int)) = (t1 : Int))
    (e76 : IntKind.u64.wrap ((t1 : Int) + (u1 : Int)) = (z : Int)) (e87 : IntKind.u64.wrap ((u : Int) * 4294967296) = (m1 : Int)) (e89 : IntKind.u64.wrap ((m1 : Int) + (u1 : Int)) = (m2 : Int)) (e92 : IntKind.u64.wrap ((q1 : Int) * (Y : Int)) = (m3 : Int))
    (e93 : IntKind.u64.wrap ((m2 : Int) - (m3 : Int)) = (z : Int)) (e96 : IntKind.u64.wrap ((z : Int) / (a : Int)) = (q0 : Int)) (e100 : IntKind.u64.wrap ((q0 : Int) * (a : Int)) = (p0 : Int)) (e101 : IntKind.u64.wrap ((z : Int) - (p0 : Int)) = (r0 : Int))
    (e109 : IntKind.u64.wrap (4294967296 * (r0 : Int)) = (t0 : Int)) (e111 : IntKind.u64.wrap (t0 : Int) = (t0 : Int)) (e122 : IntKind.u64.wrap ((q1 : Int) * 4294967296) = (m6 : Int)) (e124 : IntKind.u64.wrap ((m6 : Int) + (q0 : Int)) = (Q : Int)) (e126 : IntKind.u64.wrap ((z : Int) * 4294967296) = (m4 : Int)) (e128 : IntKind.u64.wrap (m4 : Int) = (m4 : Int))
    (e131 : IntKind.u64.wrap ((q0 : Int) * (Y : Int)) = (m5 : Int)) (e132 : IntKind.u64.wrap ((m4 : Int) - (m5 : Int)) = (t0 : Int)) (e134 : (t0 : Int) / 2 ^ s = (R : Int))
    (d1 : decide ((4294967296 : Int) ≤ (q1 : Int)) = false) (d0 : decide ((4294967296 : Int) ≤ (q0 : Int)) = false) (dz : decide ((z : Int) < 0) = false) (dt : decide ((t0 : Int) < 0) = false) (h1 : ((y : Int) == 0) = false) (h2 : decide (y ≤ h) = false) (h3 : ((h : Int) == 0) = false)
    (HL : Hid (∀ w, Calls Try.prog 51 #[.int .u64 (y : Int)] w fun e w' => e = .returned (.int .i64 (s : Int)) ∧ w' = w)) :
    Calls Try.prog 50 #[.int .u64 (h : Int), .int .u64 (l : Int), .int .u64 (y : Int)] w fun e w' => e = .returned (.tuple #[.int .u64 (Q : Int), .int .u64 (R : Int)]) ∧ Kept w w' := by
  go_enter Try.func50, Try.ntmps50
  go_wp2_with (go_at_call 51; refine (HL.out _).mono ?_; rintro e w' ⟨rfl, rfl⟩)
  go_loop [15, 16] (fun q r => q = .int .u64 (q1 : Int) ∧ r = .int .u64 (r1 : Int)) (fun _ _ => 0)
  case atStart => exact ⟨rfl, rfl⟩
  case round =>
    obtain ⟨rfl, rfl⟩ := hrel
    go_wp2
    go_loop [18, 16] (fun q r => q = .int .u64 (q0 : Int) ∧ r = .int .u64 (r0 : Int)) (fun _ _ => 0)
    case atStart => exact ⟨rfl, rfl⟩
    case round =>
      obtain ⟨rfl, rfl⟩ := hrel
      go_wp2
      refine bodyPost_ret (results_tmp2 Try.results50 _ _ _) rfl ⟨?_, Kept.refl _⟩
      rfl
set_option maxRecDepth 100000 in
set_option maxHeartbeats 1000000 in
theorem div64_pos (h l y s : Nat) (w : World) (hy : y < 4294967296) (hl : l < 18446744073709551616) (hh : 0 < h) (hhy : h < y) (hs : 64 - bl y = s) :
    Calls Try.prog 50 #[.int .u64 (h : Int), .int .u64 (l : Int), .int .u64 (y : Int)] w fun e w' => e = .returned (.tuple #[.int .u64 (((h * 18446744073709551616 + l) / y : Nat) : Int), .int .u64 (((h * 18446744073709551616 + l) % y : Nat) : Int)]) ∧ Kept w w' := by
  have hb1 := bl_le y 32 hy
  have hb2 : 0 < bl y := by
    rcases Nat.eq_zero_or_pos (bl y) with h0 | h0
    · have := lt_bl y; rw [h0] at this; simp at this; omega
    · exact h0
  have hs1 : 32 ≤ s := by omega
  have hs2 : s < 64 := by omega
  obtain ⟨D, hD⟩ : ∃ D, D = 2 ^ (s - 32) := ⟨_, rfl⟩
  obtain ⟨E, hE⟩ : ∃ E, E = 2 ^ (64 - s) := ⟨_, rfl⟩
  have eS : 2 ^ s = D * 4294967296 := by rw [hD, show (4294967296 : Nat) = 2 ^ 32 from rfl, ← Nat.pow_add]; congr 1; omega
  have hED : E * D = 4294967296 := by rw [hD, hE, show (4294967296 : Nat) = 2 ^ 32 from rfl, ← Nat.pow_add]; congr 1; omega
  have hD0 : 0 < D := by rw [hD]; exact Nat.two_pow_pos _
  have hE0 : 0 < E := by rw [hE]; exact Nat.two_pow_pos _
  have hyD : y * D < 4294967296 := by
    have h1 := lt_bl y
    have h2 : y * D < 2 ^ bl y * D := (Nat.mul_lt_mul_right hD0).2 h1
    have h3 : 2 ^ bl y * D = 4294967296 := by rw [hD, show (4294967296 : Nat) = 2 ^ 32 from rfl, ← Nat.pow_add]; congr 1; omega
    omega
  have eSI : ((2 : Int) ^ s) = ((D * 4294967296 : Nat) : Int) := by rw [← eS]; simp
  have eEI : ((2 : Int) ^ (64 - s)) = (E : Int) := by rw [hE]; simp
  obtain ⟨a, c, lt, lr, u1, u, q1, r1, p1, z, q0, r0, p0, ea, ec, elt, elr, eu1, eu, g1, g2, g3, eq1, ep1, f1, g4, g5, ez, eq0, ep0, f0, g6, g7, RQ, RR⟩ := div_core h l y D E hED hhy hl hE0 hD0
  rw [← RQ, ← RR]
  rw [← ea] at hyD
  have ha : 0 < a := by omega
  have hc : c * 4294967296 < 18446744073709551616 := by omega
  have hY : a * 4294967296 < 18446744073709551616 := Nat.lt_of_lt_of_eq ((Nat.mul_lt_mul_right (show 0 < 4294967296 by decide)).2 hyD) (by decide)
  have hu2 : u < a * 4294967296 := by omega
  obtain ⟨Y, hYd⟩ : ∃ Y, Y = a * 4294967296 := ⟨_, rfl⟩
  obtain ⟨C, hCd⟩ : ∃ C, C = c * 4294967296 := ⟨_, rfl⟩
  obtain ⟨v, hvd⟩ : ∃ v, v = u1 * 4294967296 := ⟨_, rfl⟩
  obtain ⟨t1, ht1⟩ : ∃ t1, t1 = r1 * 4294967296 := ⟨_, rfl⟩
  obtain ⟨t0, ht0⟩ : ∃ t0, t0 = r0 * 4294967296 := ⟨_, rfl⟩
  obtain ⟨m1, hm1⟩ : ∃ m1, m1 = u * 4294967296 % 18446744073709551616 := ⟨_, rfl⟩
  obtain ⟨m2, hm2⟩ : ∃ m2, m2 = (u * 4294967296 + u1) % 18446744073709551616 := ⟨_, rfl⟩
  obtain ⟨m3, hm3⟩ : ∃ m3, m3 = p1 * 4294967296 % 18446744073709551616 := ⟨_, rfl⟩
  obtain ⟨m4, hm4⟩ : ∃ m4, m4 = z * 4294967296 % 18446744073709551616 := ⟨_, rfl⟩
  obtain ⟨m5, hm5⟩ : ∃ m5, m5 = p0 * 4294967296 % 18446744073709551616 := ⟨_, rfl⟩
  obtain ⟨m6, hm6⟩ : ∃ m6, m6 = q1 * 4294967296 := ⟨_, rfl⟩
  have eP1 : q1 * Y = p1 * 4294967296 := by rw [hYd, ep1, Nat.mul_assoc]
  have eP0 : q0 * Y = p0 * 4294967296 := by rw [hYd, ep0, Nat.mul_assoc]
  have HL := Lib.hid fun w => lead64 y w (by omega)
  rw [hs] at HL
  refine div64_walk h l y s a Y C lt u v u1 q1 p1 r1 t1 m1 m2 m3 z q0 p0 r0 t0 m4 m5 m6 (q1 * 4294967296 + q0) (r0 / D) w hs2 ha ?_ ?_ ?_ ?_ ?_ ?_ ?_ ?_ ?_ ?_ ?_ ?_ ?_ ?_ ?_ ?_ ?_ ?_ ?_ ?_ ?_ ?_ ?_ ?_ ?_ ?_ ?_ ?_ ?_ ?_ ?_ ?_ ?_ ?_ ?_ ?_ ?_ HL
  · rw [eSI, hYd]; exact mulW y _ _ (by rw [ea, Nat.mul_assoc]) hY
  · omega
  · have := u64_and_nat Y 4294967295 (by omega) (by decide)
    rw [show (4294967295 : Nat) = 2 ^ 32 - 1 from rfl, Nat.and_two_pow_sub_one_eq_mod, show Y % 2 ^ 32 = 0 by omega] at this
    exact this
  · rw [eSI, hCd]; exact mulW h _ _ (by rw [ec, Nat.mul_assoc]) hc
  · rw [eEI, elt]; simp
  · rw [u64_or_nat _ _ (by omega) (by omega)]
    have h5 : C = 2 ^ s * h := by rw [hCd, ec, eS, Nat.mul_assoc, Nat.mul_comm]
    have h6 : u = 2 ^ s * h + lt := by rw [← h5, hCd]; exact eu
    rw [h6, h5, Nat.two_pow_add_eq_or_of_lt (by rw [eS]; exact g1)]
  · have h5 := Nat.div_add_mod l E
    have h6 : l * (D * 4294967296) = lt * 18446744073709551616 + v := by
      have h7 : E * lt * (D * 4294967296) = lt * 18446744073709551616 := by
        rw [Nat.mul_comm E, Nat.mul_assoc, ← Nat.mul_assoc E, hED]
      have h8 : lr * (D * 4294967296) = v := by rw [hvd, eu1, Nat.mul_assoc]
      rw [← h7, ← h8, ← Nat.add_mul, elt, elr, h5]
    rw [eSI, ← Int.natCast_mul, h6, IntKind.wrap_u64]
    omega
  · omega
  · have := u64_and_nat v 4294967295 (by omega) (by decide)
    rw [show (4294967295 : Nat) = 2 ^ 32 - 1 from rfl, Nat.and_two_pow_sub_one_eq_mod, show v % 2 ^ 32 = 0 by omega] at this
    exact this
  · rw [eq1, ← Int.natCast_ediv]; exact wrapN _ (by rw [← eq1]; omega)
  · exact mulW _ _ _ ep1.symm (by omega)
  · rw [IntKind.wrap_u64]; omega
  · rw [IntKind.wrap_u64]; omega
  · rw [IntKind.wrap_u64]; omega
  · rw [IntKind.wrap_u64]; omega
  · rw [IntKind.wrap_u64]; omega
  · rw [← Int.natCast_mul, eP1, IntKind.wrap_u64]; omega
  · rw [IntKind.wrap_u64]; omega
  · rw [eq0, ← Int.natCast_ediv]; exact wrapN _ (by rw [← eq0]; omega)
  · exact mulW _ _ _ ep0.symm (by omega)
  · rw [IntKind.wrap_u64]; omega
  · rw [IntKind.wrap_u64]; omega
  · rw [IntKind.wrap_u64]; omega
  · rw [IntKind.wrap_u64]; omega
  · rw [IntKind.wrap_u64]; omega
  · rw [IntKind.wrap_u64]; omega
  · rw [IntKind.wrap_u64]; omega
  · rw [← Int.natCast_mul, eP0, IntKind.wrap_u64]; omega
  · rw [IntKind.wrap_u64]; omega
  · rw [eSI, ht0, ← Int.natCast_ediv, Nat.mul_div_mul_right _ _ (by decide)]
  · exact decide_eq_false (by omega)
  · exact decide_eq_false (by omega)
  · exact decide_eq_false (by omega)
  · exact decide_eq_false (by omega)
  · simp; omega
  · simp; omega
  · simp; omega
theorem div64_any (h l y : Nat) (w : World) (hy : y < 4294967296) (hl : l < 18446744073709551616) (hhy : h < y) :
    Calls Try.prog 50 #[.int .u64 (h : Int), .int .u64 (l : Int), .int .u64 (y : Int)] w fun e w' => e = .returned (.tuple #[.int .u64 (((h * 18446744073709551616 + l) / y : Nat) : Int), .int .u64 (((h * 18446744073709551616 + l) % y : Nat) : Int)]) ∧ Kept w w' := by
  rcases Nat.eq_zero_or_pos h with h0 | h0
  · subst h0
    have := div64_zero l y w hl hhy
    rw [Nat.zero_mul, Nat.zero_add]
    exact this
  · exact div64_pos h l y _ w hy hl h0 hhy rfl

set_option maxRecDepth 100000 in
set_option maxHeartbeats 2000000 in
theorem largeDiv_any (N y : Nat) (w : World) (hN : N < 2 ^ 320) (hy0 : 0 < y) (hy : y < 4294967296) :
    Calls Try.prog 45 #[.agg (lC N 5), .int .u32 (y : Int)] w fun e w' => e = .returned (.tuple #[.agg (lC (N / y) 5), .int .u32 ((N % y : Nat) : Int)]) ∧ Kept w w' := by
  have HS : Hid (restD N y 5 = 0) := Lib.hid (by unfold restD; rw [show 64 * 5 = 320 from rfl, Nat.div_eq_of_lt hN, Nat.zero_mod])
  have hq : ((y : Int) == 0) = false := by simp; omega
  clear hN
  go_enter Try.func45, Try.ntmps45
  go_wp2
  go_loopw [7, 8] (fun c i wr => ∃ (k : Nat), k ≤ 5 ∧ i = .int .i64 ((k : Int) - 1) ∧ c = .int .u64 ((restD N y k : Nat) : Int) ∧ Hid (Rowz wr w.heap.size (lC N 5) 24) ∧
      Hid (Rowz wr (w.heap.size + 1) (lC 0 0) 24) ∧ Hid (Rowz wr (w.heap.size + 1 + 1) (uC (N / y) k) 24) ∧ Hid (Kept w wr)) (fun _ i _ => (intOf i + 1).toNat)
  case atStart =>
    have R := Rowz.new w (lC N 5) 24
    have R1 := Rowz.new (w.alloc (.cells (lC N 5) 24)) (lC 0 0) 24
    have R2 := Rowz.new ((w.alloc (.cells (lC N 5) 24)).alloc (.cells (lC 0 0) 24)) (lC 0 0) 24
    have e1 : (w.alloc (.cells (lC N 5) 24)).heap.size = w.heap.size + 1 := by simp
    have e2 : ((w.alloc (.cells (lC N 5) 24)).alloc (.cells (lC 0 0) 24)).heap.size = w.heap.size + 1 + 1 := by simp
    rw [e1] at R1
    rw [e2] at R2
    exact ⟨5, by omega, rfl, by rw [HS.out]; rfl, Lib.hid ((R.alloc _).alloc _), Lib.hid (R1.alloc _), Lib.hid (by rw [uC_none]; exact R2), Lib.hid ((((Kept.refl w).alloc _).alloc _).alloc _)⟩
  case round =>
    clear HS
    obtain ⟨k, hk4, rfl, rfl, R2, R4, R6, G0⟩ := hrel
    cases k with
    | zero =>
      have HE : Hid (restD N y 0 = N % y) := Lib.hid (by unfold restD; simp)
      have R6' : Hid (Rowz wr (w.heap.size + 1 + 1) (lC (N / y) 5) 24) := by rw [uC_full] at R6; exact R6
      have hr := restD_lt N y 0 hy0
      have hw : IntKind.u32.wrap ((restD N y 0 : Nat) : Int) = ((restD N y 0 : Nat) : Int) := by rw [IntKind.wrap_u32]; omega
      clear R6
      generalize restD N y 0 = r at HE hr hw ⊢
      go_wp2_with (first
        | (refine wpList_load_row rfl 24 _ rfl (w.heap.size + 1 + 1) rfl 24 (lC (N / y) 5) (0, 0) _ R6'.out Try.underlying24 rfl (infoL _ _) ?_)
        | (refine wpList_store_row rfl 24 _ _ rfl (w.heap.size + 1) (lC (N / y) 5) rfl rfl 24 (lC 0 0) R4.out (infoL _ _) (by simp [lC_size]) (lC_one _ _) ?_))
      refine bodyPost_ret (v := .tuple #[.agg (lC (N / y) 5), .int .u32 (r : Int)]) (results_row_tmp Try.results45 _ _ (w.heap.size + 1) 24 _ _ _ rfl rfl R4.out.row Try.underlying24 rfl (infoL _ _)) rfl ⟨by rw [HE.out], ?_⟩
      exact G0.out.setRow (by omega) _
    | succ k =>
      have hk : k < 5 := by omega
      have hdk : decide ((0 : Int) ≤ (k : Int)) = true := by simp
      have e1 : (((k + 1 : Nat) : Int) - 1) = (k : Int) := by omega
      rw [e1]
      have hki : (k : Int) < 5 := by omega
      have c1 : wr.cell? ⟨w.heap.size, k, none⟩ = some (.int .u64 ((lmb N k : Nat) : Int)) := by rw [R2.out.cell, lC_get N 5 k hk hk]
      have HD := Lib.hid fun w => div64_any (restD N y (k + 1)) (lmb N k) y w hy (lmb_lt N k) (restD_lt N y (k + 1) hy0)
      rw [div_limb N y k hy0, div_rest] at HD
      have HST := Lib.hid (uC_step (N / y) k)
      have HZ := Lib.hid (uC_zero (N / y) (k + 1) k hk (by omega))
      have hml := lmb_lt N k
      have hq2 := lmb_lt (N / y) k
      clear e1
      go_wp2_with (go_at_call 50; refine (HD.out _).mono ?_; rintro e w' ⟨rfl, hkk⟩; have c3 : w'.cell? ⟨w.heap.size + 1 + 1, k, none⟩ = some (.int .u64 0) := (by rw [(R6.out.kept hkk).cell, HZ.out]); have f3 : w'.frozen? ⟨w.heap.size + 1 + 1, k, none⟩ = false := (R6.out.kept hkk).free k)
      go_roundw
      case rel =>
        refine ⟨k, by omega, by go_num, rfl, Lib.hid ((R2.out.kept hkk).other _ _ (show w.heap.size ≠ w.heap.size + 1 + 1 by omega)), Lib.hid ((R4.out.kept hkk).other _ _ (show w.heap.size + 1 ≠ w.heap.size + 1 + 1 by omega)), Lib.hid ?_, Lib.hid ((G0.out.trans hkk).setCell (show w.heap.size ≤ w.heap.size + 1 + 1 by omega) _)⟩
        rw [← HST.out _ rfl]
        exact (R6.out.kept hkk).set k _
      case measure => simp [intOf]
theorem largeDiv_none (N : Nat) (w : World) :
    Calls Try.prog 45 #[.agg (lC N 5), .int .u32 0] w fun e w' => e = .returned (.tuple #[.agg (lC 0 5), .int .u32 0]) ∧ Kept w w' := by
  go_enter Try.func45, Try.ntmps45
  have R1 := Rowz.new (w.alloc (.cells (lC N 5) 24)) (lC 0 0) 24
  have e1 : (w.alloc (.cells (lC N 5) 24)).heap.size = w.heap.size + 1 := by simp
  rw [e1] at R1
  clear e1
  go_wp2_with (first
    | (refine wpList_store_row rfl 24 _ _ rfl (w.heap.size + 1) (lC 0 5) rfl (by kernel_rfl) 24 (lC 0 0) R1 (infoL _ _) (by simp [lC_size]) (lC_one _ _) ?_))
  refine bodyPost_ret (v := .tuple #[.agg (lC 0 5), .int .u32 0]) (results_row_tmp Try.results45 _ _ (w.heap.size + 1) 24 _ _ _ rfl rfl R1.row Try.underlying24 rfl (infoL _ _)) rfl ⟨rfl, ?_⟩
  exact (((Kept.refl w).alloc _).alloc _).setRow (by omega) _
end Go.Proofs.Ytcjieaijcjinnaa
