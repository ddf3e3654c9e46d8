/-
  Plain mathematics for layer 1 (word): bit lengths, rotation by bits, big-endian bytes. No condition.
-/
import Derived.Laws.BitsAllLaws
import Derived.IntWalk
namespace Go.Proofs.YtecfgjoomckleaaDoor
set_option maxRecDepth 4000

/-! ### Bit lengths -/
def bl (x : Nat) : Nat := if x = 0 then 0 else Nat.log2 x + 1
theorem bl_zero : bl 0 = 0 := rfl
theorem bl_half (x : Nat) (h : 0 < x) : bl x = bl (x / 2) + 1 := by
  unfold bl
  rw [if_neg (by omega)]
  by_cases h2 : x / 2 = 0
  · have e : x = 1 := by omega
    subst e; decide
  · rw [if_neg h2, Nat.log2_def, if_pos (by omega)]
theorem bl_of (x k : Nat) (h1 : 2 ^ k ≤ x) (h2 : x < 2 ^ (k + 1)) : bl x = k + 1 := by
  have hp := Nat.two_pow_pos k
  unfold bl
  rw [if_neg (by omega)]
  have a : k ≤ x.log2 := (Nat.le_log2 (by omega)).2 h1
  have b : x.log2 < k + 1 := (Nat.log2_lt (by omega)).2 h2
  omega
theorem bl_le (x k : Nat) (h : x < 2 ^ k) : bl x ≤ k := by
  unfold bl
  split
  · omega
  · have := (Nat.log2_lt (k := k) (by omega)).2 h; omega

/-! ### Rotation -/
def rotr (x k : Nat) : Nat := (x / 2 ^ k) ||| (x * 2 ^ (32 - k) % 4294967296)
theorem rotr_lt (x k : Nat) (hx : x < 4294967296) : rotr x k < 4294967296 := by
  unfold rotr
  have h1 : x / 2 ^ k < 2 ^ 32 := Nat.lt_of_le_of_lt (Nat.div_le_self _ _) hx
  have h2 : x * 2 ^ (32 - k) % 4294967296 < 2 ^ 32 := Nat.mod_lt _ (by decide)
  exact Nat.or_lt_two_pow h1 h2
theorem testBit_rotr (x k i : Nat) (hx : x < 4294967296) (hk : k < 32) :
    (rotr x k).testBit i = (decide (i < 32) && x.testBit ((i + k) % 32)) := by
  unfold rotr
  have e : (4294967296 : Nat) = 2 ^ 32 := by decide
  rw [Nat.testBit_or, Nat.testBit_div_two_pow, e, Nat.testBit_mod_two_pow, Nat.testBit_mul_two_pow]
  by_cases hi : i < 32
  · by_cases hik : i + k < 32
    · have h1 : (i + k) % 32 = i + k := Nat.mod_eq_of_lt hik
      have h2 : ¬ (32 - k ≤ i) := by omega
      rw [h1]; simp [hi, h2]
    · have h1 : (i + k) % 32 = i + k - 32 := by omega
      have h2 : 32 - k ≤ i := by omega
      have h3 : x.testBit (i + k) = false := Nat.testBit_lt_two_pow (Nat.lt_of_lt_of_le hx (by
        rw [e]; exact Nat.pow_le_pow_right (by decide) (by omega)))
      rw [h1]; simp [hi, h2, h3, show i - (32 - k) = i + k - 32 by omega]
  · have h3 : x.testBit (i + k) = false := Nat.testBit_lt_two_pow (Nat.lt_of_lt_of_le hx (by
      rw [e]; exact Nat.pow_le_pow_right (by decide) (by omega)))
    simp [hi, h3]
theorem rotr_back (x k m : Nat) (hx : x < 4294967296) (hk : k < 32) (hm : m < 32) (h : (k + m) % 32 = 0) : rotr (rotr x k) m = x := by
  apply Nat.eq_of_testBit_eq
  intro i
  rw [testBit_rotr _ _ _ (rotr_lt _ _ hx) hm, testBit_rotr _ _ _ hx hk]
  by_cases hi : i < 32
  · have h1 : (i + m) % 32 < 32 := Nat.mod_lt _ (by decide)
    have h2 : ((i + m) % 32 + k) % 32 = i := by omega
    rw [h2]; simp [hi, h1]
  · have h3 : x.testBit i = false := Nat.testBit_lt_two_pow (Nat.lt_of_lt_of_le hx (by
      rw [show (4294967296 : Nat) = 2 ^ 32 by decide]; exact Nat.pow_le_pow_right (by decide) (by omega)))
    simp [hi, h3]
theorem and31 (n : Int) : bits .and .u64 (IntKind.u64.wrap n) 31 = ((n % 32).toNat : Int) := by
  have e : (IntKind.u64.wrap n) = ((n % 18446744073709551616).toNat : Int) := by rw [IntKind.wrap_u64]; omega
  rw [e, show (31 : Int) = ((31 : Nat) : Int) by rfl, u64_and_nat _ _ (by omega) (by omega), nat_mask5]
  omega

/-! ### Lists of bits, the lowest first -/
def numB : List Bool → Nat
  | [] => 0
  | b :: r => 2 * numB r + b.toNat
theorem numB_lt : ∀ l : List Bool, numB l < 2 ^ l.length
  | [] => by simp [numB]
  | b :: r => by
    have := numB_lt r
    simp only [numB, List.length_cons, Nat.pow_succ]
    cases b <;> simp <;> omega
theorem testBit_numB : ∀ (l : List Bool) (i : Nat), (numB l).testBit i = l.getD i false
  | [], i => by simp [numB]
  | b :: r, 0 => by
    simp only [numB, Nat.testBit_zero, List.getD_cons_zero]
    cases b <;> simp <;> omega
  | b :: r, i + 1 => by
    have e : (2 * numB r + b.toNat) / 2 = numB r := by cases b <;> simp <;> omega
    simp only [numB, Nat.testBit_succ, e, List.getD_cons_succ]
    exact testBit_numB r i
theorem numB_drop (l : List Bool) (i : Nat) (h : i < l.length) : numB (l.drop i) = 2 * numB (l.drop (i + 1)) + (l[i]).toNat := by
  rw [List.drop_eq_getElem_cons h]; rfl
def rotL (x k : Nat) : List Bool := (List.range 32).map fun i => x.testBit ((i + k) % 32)
theorem rotL_length (x k : Nat) : (rotL x k).length = 32 := by simp [rotL]
theorem rotL_getD (x k i : Nat) (hi : i < 32) : (rotL x k).getD i false = x.testBit ((i + k) % 32) := by simp [rotL, hi]
theorem numB_rot (x k : Nat) (hx : x < 4294967296) (hk : k < 32) : numB (rotL x k) = rotr x k := by
  unfold rotL
  apply Nat.eq_of_testBit_eq
  intro i
  rw [testBit_numB, testBit_rotr _ _ _ hx hk]
  by_cases hi : i < 32
  · simp [hi]
  · simp [hi]

/-! ### Big-endian bytes -/
def be : Nat → Nat → List UInt8
  | 0, _ => []
  | n + 1, x => UInt8.ofNat (x / 256 ^ n) :: be n x
theorem be_length : ∀ n x, (be n x).length = n
  | 0, _ => rfl
  | n + 1, x => by simp [be, be_length n x]
theorem be_get : ∀ (n x i : Nat) (h : i < n), (be n x)[i]'(by rw [be_length]; exact h) = UInt8.ofNat (x / 256 ^ (n - 1 - i))
  | n + 1, x, 0, _ => by simp [be]
  | n + 1, x, i + 1, h => by
    simp only [be, List.getElem_cons_succ]
    rw [be_get n x i (by omega), show n + 1 - 1 - (i + 1) = n - 1 - i by omega]
def beS (n x : Nat) : ByteArray := ⟨(be n x).toArray⟩

/-! ### Taking a number out of bytes: a byte that is not there counts as 0 -/
def btz (s : ByteArray) (at_ : Int) (i : Nat) : Nat := if 0 ≤ at_ then (s.data.toList.getD (at_.toNat + i) 0).toNat else 0
theorem btz_lt (s : ByteArray) (a : Int) (i : Nat) : btz s a i < 256 := by
  unfold btz; split
  · exact UInt8.toNat_lt _
  · omega
theorem btz_in (s : ByteArray) (a i : Nat) (h : a + i < s.size) : btz s a i = (s[a + i]).toNat := by
  have h' : a + i < s.data.size := h
  unfold btz
  rw [if_pos (by omega)]
  congr 1
  rw [Int.toNat_natCast, List.getD_eq_getElem?_getD, List.getElem?_eq_getElem (by simpa using h')]
  rfl
theorem btz_out (s : ByteArray) (a : Int) (i : Nat) (h : a < 0 ∨ (s.size : Int) ≤ a + i) : btz s a i = 0 := by
  unfold btz
  split
  · have h' : s.size ≤ a.toNat + i := by omega
    have h'' : s.data.size ≤ a.toNat + i := h'
    rw [List.getD_eq_getElem?_getD, List.getElem?_eq_none (by simpa using h'')]
    rfl
  · rfl
def tkz (s : ByteArray) (a : Int) : Nat → Nat
  | 0 => 0
  | n + 1 => tkz s a n * 256 + btz s a n
theorem tkz_lt (s : ByteArray) (a : Int) : ∀ n, tkz s a n < 256 ^ n
  | 0 => by simp [tkz]
  | n + 1 => by
    have h1 := tkz_lt s a n
    have h2 := btz_lt s a n
    simp only [tkz, Nat.pow_succ]
    omega
theorem tkz_of (s : ByteArray) (a : Int) (x N : Nat) (hb : ∀ i, i < N → btz s a i = x / 256 ^ (N - 1 - i) % 256) :
    ∀ n, n ≤ N → tkz s a n = x / 256 ^ (N - n) % 256 ^ n
  | 0, _ => by simp [tkz, Nat.mod_one]
  | n + 1, h => by
    rw [tkz, tkz_of s a x N hb n (by omega), hb n (by omega)]
    have e1 : N - n = N - (n + 1) + 1 := by omega
    have e2 : N - 1 - n = N - (n + 1) := by omega
    rw [e1, e2, Nat.pow_succ, ← Nat.div_div_eq_div_mul, Nat.pow_succ, Nat.mul_comm (256 ^ n) 256, Nat.mod_mul]
    omega
theorem or_byte (x b : Nat) (hb : b < 256) : (x * 256 ||| b) = x * 256 + b :=
  nat_join 8 (x * 256) b (by omega) (by omega)

theorem tkz_lt4 (s : ByteArray) (a : Int) (k : Nat) (hk : k < 4) : tkz s a k < 16777216 :=
  Nat.lt_of_lt_of_le (tkz_lt s a k) (show 256 ^ k ≤ 256 ^ 3 from Nat.pow_le_pow_right (by decide) (by omega))
theorem tkz_lt8 (s : ByteArray) (a : Int) (k : Nat) (hk : k < 8) : tkz s a k < 72057594037927936 :=
  Nat.lt_of_lt_of_le (tkz_lt s a k) (show 256 ^ k ≤ 256 ^ 7 from Nat.pow_le_pow_right (by decide) (by omega))
theorem t32_step (s : ByteArray) (a : Int) (k : Nat) (hk : k < 4) :
    bits .or .u32 ((tkz s a k : Int) * 256 % 4294967296) ((btz s a k : Int) % 4294967296) = ((tkz s a (k + 1) : Nat) : Int) := by
  have h1 := tkz_lt4 s a k hk
  have h2 := btz_lt s a k
  have e1 : ((tkz s a k : Int) * 256 % 4294967296) = ((tkz s a k * 256 : Nat) : Int) := by omega
  have e2 : ((btz s a k : Int) % 4294967296) = ((btz s a k : Nat) : Int) := by omega
  rw [e1, e2, u32_or_nat _ _ (by omega) (by omega), or_byte _ _ h2]
  rfl
theorem t64_step (s : ByteArray) (a : Int) (k : Nat) (hk : k < 8) :
    bits .or .u64 (IntKind.u64.wrap ((tkz s a k : Int) * 256)) (IntKind.u64.wrap (btz s a k : Int)) = ((tkz s a (k + 1) : Nat) : Int) := by
  have h1 := tkz_lt8 s a k hk
  have h2 := btz_lt s a k
  rw [IntKind.wrap_u64, IntKind.wrap_u64]
  have e1 : ((tkz s a k : Int) * 256 % 18446744073709551616) = ((tkz s a k * 256 : Nat) : Int) := by omega
  have e2 : ((btz s a k : Int) % 18446744073709551616) = ((btz s a k : Nat) : Int) := by omega
  rw [e1, e2, u64_or_nat _ _ (by omega) (by omega), or_byte _ _ h2]
  rfl
theorem rt_step (s : ByteArray) (a : Int) (k b : Nat) (hk : k < 8) (hb : btz s a k = b) :
    IntKind.u64.wrap (IntKind.u64.wrap ((tkz s a k : Int) * 256) + IntKind.u64.wrap (b : Int)) = ((tkz s a (k + 1) : Nat) : Int) := by
  have h1 := tkz_lt8 s a k hk
  have h2 := btz_lt s a k
  rw [IntKind.wrap_u64, IntKind.wrap_u64, IntKind.wrap_u64, tkz]
  omega
theorem rt_step0 (s : ByteArray) (a : Int) (k : Nat) (hk : k < 8) (hb : btz s a k = 0) :
    IntKind.u64.wrap ((tkz s a k : Int) * 256) = ((tkz s a (k + 1) : Nat) : Int) := by
  have h1 := tkz_lt8 s a k hk
  rw [IntKind.wrap_u64, tkz, hb]
  omega

/-! ### Taking back what was put -/
theorem btz_mid (s t u : ByteArray) (i : Nat) (h : i < t.size) : btz (s ++ t ++ u) s.size i = (t.data.toList.getD i 0).toNat := by
  unfold btz
  rw [if_pos (by omega)]
  congr 1
  have h' : i < t.data.toList.length := by simpa using h
  have e : (s ++ t ++ u).data.toList = s.data.toList ++ (t.data.toList ++ u.data.toList) := by simp
  rw [e, Int.toNat_natCast, List.getD_eq_getElem?_getD, List.getD_eq_getElem?_getD, List.getElem?_append_right (by simp)]
  rw [show s.size + i - s.data.toList.length = i by simp, List.getElem?_append_left h']
theorem take_put (s u : ByteArray) (n x : Nat) (hx : x < 256 ^ n) : tkz (s ++ beS n x ++ u) s.size n = x := by
  have hl : (beS n x).size = n := by
    show (be n x).toArray.size = n
    simp [be_length]
  rw [tkz_of _ _ x n (fun i hi => ?_) n (Nat.le_refl n)]
  · simp [Nat.mod_eq_of_lt hx]
  · rw [btz_mid s (beS n x) u i (by omega)]
    have hi' : i < (be n x).length := by rw [be_length]; exact hi
    show ((be n x).toArray.toList.getD i 0).toNat = _
    rw [List.getD_eq_getElem?_getD, List.getElem?_eq_getElem hi', Option.getD_some, be_get n x i hi]
    simp
theorem take_put' (s : ByteArray) (n x : Nat) (hx : x < 256 ^ n) : tkz (s ++ beS n x) s.size n = x := by
  have h := take_put s ByteArray.empty n x hx
  rwa [ByteArray.append_empty] at h

end Go.Proofs.YtecfgjoomckleaaDoor
