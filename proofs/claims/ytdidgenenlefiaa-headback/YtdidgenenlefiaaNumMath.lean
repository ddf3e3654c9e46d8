/-
  Numbers in groups of seven bits: the bytes of a number (vs), the number of bytes (valL), what a string begins with (tkL).
-/
import Derived.Test.YtdidgenenlefiaaBas
namespace Go.Proofs.Ytdidgenenlefiaa
set_option maxRecDepth 4000

/-! ### The bytes of a number -/
def vs (x : Nat) : List UInt8 := if x < 128 then [UInt8.ofNat x] else UInt8.ofNat (x % 128 + 128) :: vs (x / 128)
termination_by x
decreasing_by omega
theorem vs_one (x : Nat) (h : x < 128) : vs x = [UInt8.ofNat x] := by rw [vs, if_pos h]
theorem vs_more (x : Nat) (h : 128 ≤ x) : vs x = UInt8.ofNat (x % 128 + 128) :: vs (x / 128) := by rw [vs, if_neg (by omega)]
theorem vs_len (n : Nat) : ∀ x, x < 128 ^ (n + 1) → (vs x).length ≤ n + 1 := by
  induction n with
  | zero => intro x h; rw [vs_one x (by omega)]; simp
  | succ n ih =>
    intro x h
    by_cases hx : x < 128
    · rw [vs_one x hx]; simp
    · rw [vs_more x (by omega), List.length_cons]
      have := ih (x / 128) (by rw [Nat.pow_succ] at h; omega)
      omega
theorem vs_len10 (x : Nat) (h : x < 18446744073709551616) : (vs x).length ≤ 10 := vs_len 9 x (by omega)
theorem vs_pos (x : Nat) : 0 < (vs x).length := by
  by_cases hx : x < 128
  · rw [vs_one x hx]; simp
  · rw [vs_more x (by omega)]; simp
def vS (x : Nat) : ByteArray := ⟨(vs x).toArray⟩
theorem vS_size (x : Nat) : (vS x).size = (vs x).length := by simp [vS, ByteArray.size]
theorem vS_one (x : Nat) (h : x < 128) : (⟨#[UInt8.ofNat x]⟩ : ByteArray) = vS x := by rw [vS, vs_one x h]
theorem vS_more (x : Nat) (h : 128 ≤ x) : (⟨#[UInt8.ofNat (x % 128 + 128)]⟩ : ByteArray) ++ vS (x / 128) = vS x := by
  rw [vS, vS, vs_more x h]
  apply ByteArray.ext
  simp

/-- How many bytes: by the bits. -/
theorem vs_size (x : Nat) : (vs x).length = (bl (x ||| 1) + 6) / 7 := by
  induction x using Nat.strongRecOn with
  | _ x ih =>
    by_cases hx : x < 128
    · rw [vs_one x hx, List.length_singleton]
      have h0 : 0 < x ||| 1 := Nat.pos_of_ne_zero (by intro h; have := congrArg (Nat.testBit · 0) h; simp at this)
      have h1 : x ||| 1 < 2 ^ 7 := Nat.or_lt_two_pow (by omega) (by omega)
      have h2 := bl_le _ 7 h1
      have h3 := bl_half _ h0
      omega
    · rw [vs_more x (by omega), List.length_cons, ih (x / 128) (by omega)]
      have key : bl (x ||| 1) = bl (x / 128 ||| 1) + 7 := by
        have h0 : 0 < x / 128 ||| 1 := Nat.pos_of_ne_zero (by intro h; have := congrArg (Nat.testBit · 0) h; simp at this)
        have e : ∀ k, (x ||| 1) / 2 / 2 ^ k = x / 2 / 2 ^ k := by
          intro k
          have : (x ||| 1) / 2 = x / 2 := by
            apply Nat.eq_of_testBit_eq
            intro i
            simp [Nat.testBit_div_two, Nat.testBit_or, Nat.testBit_one_eq_true_iff_self_eq_zero]
          rw [this]
        have step : ∀ (n y : Nat), 2 ^ n ≤ y → bl y = bl (y / 2 ^ n) + n := by
          intro n
          induction n with
          | zero => intro y _; simp
          | succ n ihn =>
            intro y hy
            have h1 : 0 < y := Nat.lt_of_lt_of_le (Nat.two_pow_pos _) hy
            rw [bl_half y h1, ihn (y / 2) (by rw [Nat.pow_succ] at hy; omega), Nat.div_div_eq_div_mul, Nat.pow_succ, Nat.mul_comm 2 (2 ^ n)]
            omega
        have hge : 128 ≤ x ||| 1 := Nat.le_trans (by omega) (Nat.left_le_or)
        have s1 := step 7 (x ||| 1) hge
        have e7 : (x ||| 1) / 2 ^ 7 = x / 128 := by
          have := e 6
          rw [Nat.div_div_eq_div_mul, Nat.div_div_eq_div_mul] at this
          simpa using this
        rw [e7] at s1
        have hodd : bl (x / 128) = bl (x / 128 ||| 1) := by
          have hy : 0 < x / 128 := by omega
          rw [bl_half _ hy, bl_half _ h0]
          congr 2
          apply Nat.eq_of_testBit_eq
          intro i
          simp [Nat.testBit_div_two, Nat.testBit_or, Nat.testBit_one_eq_true_iff_self_eq_zero]
        rw [s1, hodd]
      rw [key]
      omega

/-! ### The number of bytes -/
def valL : List UInt8 → Nat
  | [] => 0
  | c :: l => c.toNat % 128 + 128 * valL l
theorem valL_lt : ∀ l : List UInt8, valL l < 128 ^ l.length
  | [] => by simp [valL]
  | c :: l => by
    have := valL_lt l
    rw [valL, List.length_cons, Nat.pow_succ]
    omega
theorem valL_snoc : ∀ (l : List UInt8) (c : UInt8), valL (l ++ [c]) = valL l + 128 ^ l.length * (c.toNat % 128)
  | [], c => by simp [valL]
  | d :: l, c => by
    rw [List.cons_append, valL, valL, valL_snoc l c, List.length_cons, Nat.pow_succ]
    generalize 128 ^ l.length = p
    rw [Nat.mul_add, Nat.mul_comm p 128, Nat.mul_assoc]
    omega
theorem valL_drop_le : ∀ (l : List UInt8) (i : Nat), valL (l.drop i) ≤ valL l
  | l, 0 => by simp
  | [], i + 1 => by simp
  | c :: l, i + 1 => by
    rw [List.drop_succ_cons, valL]
    have := valL_drop_le l i
    omega
theorem valL_vs (x : Nat) : valL (vs x) = x := by
  induction x using Nat.strongRecOn with
  | _ x ih =>
    by_cases hx : x < 128
    · rw [vs_one x hx]; simp [valL]; omega
    · rw [vs_more x (by omega), valL, ih (x / 128) (by omega)]
      simp; omega

/-! ### What a string begins with -/
def lead : Nat → List UInt8 → Nat
  | 0, _ => 0
  | _, [] => 0
  | f + 1, c :: l => if 128 ≤ c.toNat then lead f l + 1 else 0
theorem lead_eq : ∀ (f : Nat) (l : List UInt8) (k : Nat), k ≤ f → k ≤ l.length → (∀ i, i < k → 128 ≤ (l.getD i 0).toNat) → (k = f ∨ k = l.length ∨ (l.getD k 0).toNat < 128) → lead f l = k
  | 0, l, k, hk, _, _, _ => by rw [lead]; omega
  | f + 1, [], k, _, hl, _, _ => by simp at hl; rw [lead]; omega; simp
  | f + 1, c :: l, 0, _, _, _, he => by
    rw [lead, if_neg]
    simp at he
    omega
  | f + 1, c :: l, k + 1, hk, hl, h, he => by
    rw [lead, if_pos (by simpa using h 0 (by omega)), lead_eq f l k (by omega) (by simpa using hl) (fun i hi => by simpa using h (i + 1) (by omega)) (by simpa using he)]
def tkL (l : List UInt8) : Nat × Nat × Nat :=
  if lead 10 l = 10 then (0, 0, 2)
  else if lead 10 l = l.length then (0, 0, 1)
  else if 0 < lead 10 l ∧ (l.getD (lead 10 l) 0).toNat = 0 then (0, 0, 2)
  else if lead 10 l = 9 ∧ 1 < (l.getD (lead 10 l) 0).toNat then (0, 0, 3)
  else (valL (l.take (lead 10 l + 1)), lead 10 l + 1, 0)
/-- The first k bytes are 128 or more. -/
def Ups (l : List UInt8) (k : Nat) : Prop := k ≤ 10 ∧ k ≤ l.length ∧ ∀ i, i < k → 128 ≤ (l.getD i 0).toNat
theorem ups_zero (l : List UInt8) : Ups l 0 := ⟨by omega, by omega, fun i h => by omega⟩
theorem ups_succ {l : List UInt8} {k : Nat} (h : Ups l k) (h1 : k < 10) (h2 : k < l.length) (h3 : 128 ≤ (l.getD k 0).toNat) : Ups l (k + 1) :=
  ⟨h1, h2, fun i hi => by
    by_cases e : i = k
    · rw [e]; exact h3
    · exact h.2.2 i (by omega)⟩
theorem tk_form {l : List UInt8} (h : Ups l 10) : tkL l = (0, 0, 2) := by
  have e := lead_eq 10 l 10 h.1 h.2.1 h.2.2 (.inl rfl)
  rw [tkL, if_pos e]
theorem tk_short {l : List UInt8} {k : Nat} (h : Ups l k) (h1 : k < 10) (h2 : k = l.length) : tkL l = (0, 0, 1) := by
  have e := lead_eq 10 l k h.1 h.2.1 h.2.2 (.inr (.inl h2))
  rw [tkL, e, if_neg (by omega), if_pos h2]
theorem tk_zero {l : List UInt8} {k : Nat} (h : Ups l k) (h1 : k < 10) (h2 : k < l.length) (h0 : 0 < k) (hc : (l.getD k 0).toNat = 0) : tkL l = (0, 0, 2) := by
  have e := lead_eq 10 l k h.1 h.2.1 h.2.2 (.inr (.inr (by omega)))
  rw [tkL, e, if_neg (by omega), if_neg (by omega), if_pos ⟨h0, hc⟩]
theorem tk_range {l : List UInt8} {k : Nat} (h : Ups l k) (h1 : k = 9) (h2 : k < l.length) (hc : 1 < (l.getD k 0).toNat) (hc2 : (l.getD k 0).toNat < 128) : tkL l = (0, 0, 3) := by
  have e := lead_eq 10 l k h.1 h.2.1 h.2.2 (.inr (.inr (by omega)))
  rw [tkL, e, if_neg (by omega), if_neg (by omega), if_neg (by omega), if_pos ⟨h1, hc⟩]
theorem tk_ok {l : List UInt8} {k : Nat} (h : Ups l k) (h1 : k < 10) (h2 : k < l.length) (hc2 : (l.getD k 0).toNat < 128) (hz : k = 0 ∨ (l.getD k 0).toNat ≠ 0) (h9 : k ≠ 9 ∨ (l.getD k 0).toNat ≤ 1) :
    tkL l = (valL (l.take (k + 1)), k + 1, 0) := by
  have e := lead_eq 10 l k h.1 h.2.1 h.2.2 (.inr (.inr (by omega)))
  rw [tkL, e, if_neg (by omega), if_neg (by omega), if_neg (by omega), if_neg (by omega)]
/-- One of the five. -/
theorem tk_cases (l : List UInt8) : tkL l = (0, 0, 2) ∨ tkL l = (0, 0, 1) ∨ tkL l = (0, 0, 3) ∨
    ∃ k, Ups l k ∧ k < 10 ∧ k < l.length ∧ (l.getD k 0).toNat < 128 ∧ (k = 0 ∨ (l.getD k 0).toNat ≠ 0) ∧ (k ≠ 9 ∨ (l.getD k 0).toNat ≤ 1) ∧ tkL l = (valL (l.take (k + 1)), k + 1, 0) := by
  have hL : ∀ (f : Nat) (l : List UInt8), lead f l ≤ f ∧ lead f l ≤ l.length ∧ (∀ i, i < lead f l → 128 ≤ (l.getD i 0).toNat) ∧ (lead f l = f ∨ lead f l = l.length ∨ (l.getD (lead f l) 0).toNat < 128) := by
    intro f
    induction f with
    | zero => intro l; refine ⟨by simp [lead], by simp [lead], fun i h => by simp [lead] at h, .inl (by simp [lead])⟩
    | succ f ih =>
      intro l
      cases l with
      | nil => refine ⟨by simp [lead], by simp [lead], fun i h => by simp [lead] at h, .inr (.inl (by simp [lead]))⟩
      | cons c l =>
        obtain ⟨i1, i2, i3, i4⟩ := ih l
        by_cases hc : 128 ≤ c.toNat
        · rw [show lead (f + 1) (c :: l) = lead f l + 1 by rw [lead, if_pos hc]]
          refine ⟨by omega, by simp; omega, fun i hi => ?_, ?_⟩
          · cases i with
            | zero => simpa using hc
            | succ i => simpa using i3 i (by omega)
          · simpa using i4
        · rw [show lead (f + 1) (c :: l) = 0 by rw [lead, if_neg hc]]
          exact ⟨by omega, by omega, fun i hi => by omega, .inr (.inr (by simp; omega))⟩
  obtain ⟨i1, i2, i3, i4⟩ := hL 10 l
  generalize lead 10 l = k at i1 i2 i3 i4
  have hU : Ups l k := ⟨i1, i2, i3⟩
  by_cases h10 : k = 10
  · subst h10; exact .inl (tk_form hU)
  by_cases hl : k = l.length
  · exact .inr (.inl (tk_short hU (by omega) hl))
  have hc : (l.getD k 0).toNat < 128 := by omega
  by_cases hz : 0 < k ∧ (l.getD k 0).toNat = 0
  · exact .inl (tk_zero hU (by omega) (by omega) hz.1 hz.2)
  by_cases h9 : k = 9 ∧ 1 < (l.getD k 0).toNat
  · exact .inr (.inr (.inl (tk_range hU h9.1 (by omega) h9.2 hc)))
  · exact .inr (.inr (.inr ⟨k, hU, by omega, by omega, hc, by omega, by omega, tk_ok hU (by omega) (by omega) hc (by omega) (by omega)⟩))

/-- Such a number fits into 64 bits. -/
theorem take_succ (l : List UInt8) (k : Nat) (h : k < l.length) : l.take (k + 1) = l.take k ++ [l.getD k 0] := by
  rw [List.take_add_one, List.getElem?_eq_getElem h]
  simp [h]
theorem val_take (l : List UInt8) (k : Nat) (h : k < l.length) : valL (l.take (k + 1)) = valL (l.take k) + 128 ^ k * ((l.getD k 0).toNat % 128) := by
  rw [take_succ l k h, valL_snoc, List.length_take, Nat.min_eq_left (by omega)]
theorem val_fits (l : List UInt8) (k : Nat) (h1 : k < 10) (h2 : k < l.length) (h9 : k ≠ 9 ∨ (l.getD k 0).toNat ≤ 1) : valL (l.take (k + 1)) < 18446744073709551616 := by
  by_cases e : k = 9
  · subst e
    rw [val_take l 9 h2]
    have h := valL_lt (l.take 9)
    rw [List.length_take, Nat.min_eq_left (by omega)] at h
    have : (l.getD 9 0).toNat % 128 ≤ 1 := by omega
    have e9 : (128 : Nat) ^ 9 = 9223372036854775808 := by decide
    rw [e9] at h ⊢
    omega
  · have h := valL_lt (l.take (k + 1))
    refine Nat.lt_of_lt_of_le h ?_
    rw [List.length_take, Nat.min_eq_left (by omega)]
    exact Nat.le_trans (Nat.pow_le_pow_right (by decide) (show k + 1 ≤ 9 by omega)) (by decide)

/-! ### There and back -/
theorem vs_back : ∀ (x f : Nat) (s : List UInt8), (vs x).length ≤ f → lead f (vs x ++ s) + 1 = (vs x).length ∧ (((vs x).getD (lead f (vs x ++ s)) 0).toNat < 128) ∧ (1 < (vs x).length → ((vs x).getD (lead f (vs x ++ s)) 0).toNat ≠ 0) := by
  intro x
  induction x using Nat.strongRecOn with
  | _ x ih =>
    intro f s hf
    have hp := vs_pos x
    obtain ⟨f, rfl⟩ : ∃ g, f = g + 1 := ⟨f - 1, by omega⟩
    by_cases hx : x < 128
    · rw [vs_one x hx]
      have e : lead (f + 1) ([UInt8.ofNat x] ++ s) = 0 := by
        rw [List.singleton_append, lead, if_neg]
        simp; omega
      rw [e]
      refine ⟨rfl, by simp; omega, fun h => by simp at h⟩
    · have hm := vs_more x (by omega)
      rw [hm, List.length_cons] at hf
      obtain ⟨i1, i2, i3⟩ := ih (x / 128) (by omega) f s (by omega)
      have e : lead (f + 1) (vs x ++ s) = lead f (vs (x / 128) ++ s) + 1 := by
        rw [hm, List.cons_append, lead, if_pos]
        simp; omega
      rw [e, hm]
      refine ⟨by simp; omega, by simpa using i2, fun _ => ?_⟩
      by_cases h1 : 1 < (vs (x / 128)).length
      · simpa using i3 h1
      · have hz : x / 128 < 128 := by
          have h2 := h1
          apply Nat.lt_of_not_le
          intro h
          rw [vs_more _ h, List.length_cons] at h2
          have := vs_pos (x / 128 / 128)
          omega
        have e0 : lead f (vs (x / 128) ++ s) = 0 := by
          have := vs_pos (x / 128)
          omega
        rw [e0, List.getD_cons_succ, vs_one _ hz]
        simp; omega
theorem tk_vs (x : Nat) (s : List UInt8) (hx : x < 18446744073709551616) : tkL (vs x ++ s) = (x, (vs x).length, 0) := by
  have h10 := vs_len10 x hx
  obtain ⟨i1, i2, i3⟩ := vs_back x 10 s h10
  generalize hk : lead 10 (vs x ++ s) = k at i1 i2 i3
  have hg : (vs x ++ s).getD k 0 = (vs x).getD k 0 := by
    simp only [List.getD_eq_getElem?_getD]
    rw [List.getElem?_append_left (by omega)]
  have ht : (vs x ++ s).take (k + 1) = vs x := by
    rw [i1]; simp
  have hp := vs_pos x
  rw [tkL, hk, if_neg (by omega), if_neg (by simp; omega), hg, if_neg (by rintro ⟨a, b⟩; exact i3 (by omega) b), if_neg, ht, valL_vs, i1]
  rintro ⟨h9, hc⟩
  have hv := valL_vs x
  rw [← ht] at hv
  rw [val_take (vs x ++ s) k (by simp; omega), hg, h9] at hv
  rw [h9] at hc i2
  have e9 : (128 : Nat) ^ 9 = 9223372036854775808 := by decide
  rw [e9, Nat.mod_eq_of_lt i2] at hv
  omega
theorem vs_val : ∀ (l : List UInt8) (k : Nat), l.length = k + 1 → (∀ i, i < k → 128 ≤ (l.getD i 0).toNat) → (l.getD k 0).toNat < 128 → (k = 0 ∨ (l.getD k 0).toNat ≠ 0) → vs (valL l) = l ∧ (0 < k → 0 < valL l)
  | [], k, h, _, _, _ => by simp at h
  | [c], k, h, _, hc, _ => by
    obtain rfl : k = 0 := by simpa using h
    have hc' : c.toNat < 128 := by simpa using hc
    have e : valL [c] = c.toNat := by simp [valL]; omega
    rw [e, vs_one _ hc']
    exact ⟨by simp, fun h => by omega⟩
  | c :: d :: l, k, h, hu, hc, hz => by
    obtain ⟨k, rfl⟩ : ∃ j, k = j + 1 := ⟨k - 1, by simp at h; omega⟩
    have hc0 : 128 ≤ c.toNat := by simpa using hu 0 (by omega)
    have hcl : c.toNat < 256 := c.toNat_lt
    have hz' : ((d :: l).getD k 0).toNat ≠ 0 := by
      rcases hz with h | h
      · omega
      · simpa using h
    obtain ⟨i1, i2⟩ := vs_val (d :: l) k (by simpa using h) (fun i hi => by simpa using hu (i + 1) (by omega)) (by simpa using hc) (.inr hz')
    have hpos : 0 < valL (d :: l) := by
      by_cases h0 : 0 < k
      · exact i2 h0
      · obtain rfl : k = 0 := by omega
        have : l = [] := by simpa using h
        subst this
        have hd : d.toNat ≠ 0 := by simpa using hz'
        have hd2 : d.toNat < 128 := by simpa using hc
        simp [valL]; omega
    have e : valL (c :: d :: l) = c.toNat % 128 + 128 * valL (d :: l) := rfl
    generalize valL (d :: l) = v at i1 hpos e
    rw [e, vs_more _ (by omega), show (c.toNat % 128 + 128 * v) / 128 = v by omega, i1]
    refine ⟨?_, fun _ => by omega⟩
    rw [show (c.toNat % 128 + 128 * v) % 128 + 128 = c.toNat by omega]
    simp
theorem vs_taken (l : List UInt8) (k : Nat) (hU : Ups l k) (h2 : k < l.length) (hc : (l.getD k 0).toNat < 128) (hz : k = 0 ∨ (l.getD k 0).toNat ≠ 0) : vs (valL (l.take (k + 1))) = l.take (k + 1) := by
  have hg : ∀ i, i ≤ k → (l.take (k + 1)).getD i 0 = l.getD i 0 := by
    intro i hi
    simp only [List.getD_eq_getElem?_getD]
    rw [List.getElem?_take, if_pos (by omega)]
  refine (vs_val (l.take (k + 1)) k (by simp; omega) (fun i hi => ?_) ?_ ?_).1
  · rw [hg i (by omega)]; exact hU.2.2 i hi
  · rw [hg k (by omega)]; exact hc
  · rw [hg k (by omega)]; exact hz
end Go.Proofs.Ytdidgenenlefiaa
