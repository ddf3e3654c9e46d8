/-
  Plain mathematics for layer 2 (sha): the words of a block, the rounds, the padding, the sum, as functions on numbers and lists. No condition.
-/
import Derived.Test.YtecfgjoomckleaaDoorMath
namespace Go.Proofs.YtecfgjoomckleaaDoor
set_option maxRecDepth 4000

def sg0 (x : Nat) : Nat := rotr x 7 ^^^ rotr x 18 ^^^ (x / 8)
def sg1 (x : Nat) : Nat := rotr x 17 ^^^ rotr x 19 ^^^ (x / 1024)
def nxt (l : List Nat) : Nat := (l.getD (l.length - 16) 0 + sg0 (l.getD (l.length - 15) 0) + l.getD (l.length - 7) 0 + sg1 (l.getD (l.length - 2) 0)) % 4294967296
def wstep (b : ByteArray) (n : Nat) (l : List Nat) : List Nat := if n < 16 then l ++ [tkz b ((4 * n : Nat) : Int) 4] else l ++ [nxt l]
def wl (b : ByteArray) : Nat → List Nat
  | 0 => []
  | n + 1 => wstep b n (wl b n)
theorem wl_length (b : ByteArray) : ∀ n, (wl b n).length = n
  | 0 => rfl
  | n + 1 => by
    have := wl_length b n
    simp only [wl, wstep]
    split <;> simp [this]
theorem xor_lt (a b : Nat) (ha : a < 4294967296) (hb : b < 4294967296) : a ^^^ b < 4294967296 := Nat.xor_lt_two_pow (n := 32) ha hb
theorem sg0_lt (x : Nat) (hx : x < 4294967296) : sg0 x < 4294967296 :=
  xor_lt _ _ (xor_lt _ _ (rotr_lt _ _ hx) (rotr_lt _ _ hx)) (by omega)
theorem sg1_lt (x : Nat) (hx : x < 4294967296) : sg1 x < 4294967296 :=
  xor_lt _ _ (xor_lt _ _ (rotr_lt _ _ hx) (rotr_lt _ _ hx)) (by omega)
theorem nxt_lt (l : List Nat) : nxt l < 4294967296 := Nat.mod_lt _ (by decide)
theorem wl_lt (b : ByteArray) : ∀ n, ∀ x ∈ wl b n, x < 4294967296
  | 0, x, h => by simp [wl] at h
  | n + 1, x, h => by
    simp only [wl, wstep] at h
    split at h
    · rcases List.mem_append.1 h with h | h
      · exact wl_lt b n x h
      · simp only [List.mem_singleton] at h; subst h; exact tkz_lt b _ 4
    · rcases List.mem_append.1 h with h | h
      · exact wl_lt b n x h
      · simp only [List.mem_singleton] at h; subst h; exact nxt_lt _
theorem getD_lt (l : List Nat) (h : ∀ x ∈ l, x < 4294967296) (i : Nat) : l.getD i 0 < 4294967296 := by
  rw [List.getD_eq_getElem?_getD]
  by_cases hi : i < l.length
  · rw [List.getElem?_eq_getElem hi]; exact h _ (List.getElem_mem hi)
  · rw [List.getElem?_eq_none (by omega)]; decide
def spread (b : ByteArray) : List Nat := wl b 64

/-! ### Turning by a sum -/
theorem turn_val (x k : Nat) (hx : x < 4294967296) (h0 : 1 ≤ k) (hk : k < 32) : (x / 2 ^ k + x * 2 ^ (32 - k) % 4294967296) = rotr x k := by
  unfold rotr
  have e : (4294967296 : Nat) = 2 ^ k * 2 ^ (32 - k) := by rw [← Nat.pow_add, show k + (32 - k) = 32 by omega]
  have h1 : x * 2 ^ (32 - k) % 4294967296 = x % 2 ^ k * 2 ^ (32 - k) := by
    rw [e, Nat.mul_mod_mul_right]
  have h2 : x / 2 ^ k < 2 ^ (32 - k) := by
    apply Nat.div_lt_of_lt_mul
    rw [← Nat.pow_add, show k + (32 - k) = 32 by omega]
    exact hx
  rw [h1, Nat.or_comm, nat_join (32 - k) _ _ (Nat.mul_mod_left _ _) h2, Nat.add_comm]

/-! ### The constants and the rounds -/
def rks : List Nat := [1116352408, 1899447441, 3049323471, 3921009573, 961987163, 1508970993, 2453635748, 2870763221,
  3624381080, 310598401, 607225278, 1426881987, 1925078388, 2162078206, 2614888103, 3248222580,
  3835390401, 4022224774, 264347078, 604807628, 770255983, 1249150122, 1555081692, 1996064986,
  2554220882, 2821834349, 2952996808, 3210313671, 3336571891, 3584528711, 113926993, 338241895,
  666307205, 773529912, 1294757372, 1396182291, 1695183700, 1986661051, 2177026350, 2456956037,
  2730485921, 2820302411, 3259730800, 3345764771, 3516065817, 3600352804, 4094571909, 275423344,
  430227734, 506948616, 659060556, 883997877, 958139571, 1322822218, 1537002063, 1747873779,
  1955562222, 2024104815, 2227730452, 2361852424, 2428436474, 2756734187, 3204031479, 3329325298]
def tt (e f g h k w : Nat) : Nat := (h + (rotr e 6 ^^^ rotr e 11 ^^^ rotr e 25) + ((e &&& f) ^^^ ((4294967295 - e) &&& g)) + k + w) % 4294967296
def uu (a b c : Nat) : Nat := ((rotr a 2 ^^^ rotr a 13 ^^^ rotr a 22) + ((a &&& b) ^^^ (a &&& c) ^^^ (b &&& c))) % 4294967296
def rnd (k w : Nat) : List Nat → List Nat
  | [a, b, c, d, e, f, g, h] => [(tt e f g h k w + uu a b c) % 4294967296, a, b, c, (d + tt e f g h k w) % 4294967296, e, f, g]
  | l => l
def rnds (W : List Nat) (s : List Nat) : Nat → List Nat
  | 0 => s
  | n + 1 => rnd (rks.getD n 0) (W.getD n 0) (rnds W s n)
def addW (s t : List Nat) : List Nat := List.zipWith (fun x y => (x + y) % 4294967296) s t
def mixW (s : List Nat) (b : ByteArray) : List Nat := addW (rnds (spread b) s 64) s
theorem rnd_length (k w : Nat) (s : List Nat) (h : s.length = 8) : (rnd k w s).length = 8 := by
  match s, h with
  | [a, b, c, d, e, f, g, h], _ => rfl
theorem rnds_length (W s : List Nat) (h : s.length = 8) : ∀ n, (rnds W s n).length = 8
  | 0 => h
  | n + 1 => rnd_length _ _ _ (rnds_length W s h n)
theorem rnd_lt (k w : Nat) (s : List Nat) (h : ∀ x ∈ s, x < 4294967296) : ∀ x ∈ rnd k w s, x < 4294967296 := by
  unfold rnd
  split
  · intro x hx
    simp only [List.mem_cons, List.not_mem_nil, or_false] at hx h
    have m := fun n => Nat.mod_lt n (show 4294967296 > 0 by decide)
    rcases hx with rfl | rfl | rfl | rfl | rfl | rfl | rfl | rfl
    · exact m _
    · exact h _ (by simp)
    · exact h _ (by simp)
    · exact h _ (by simp)
    · exact m _
    · exact h _ (by simp)
    · exact h _ (by simp)
    · exact h _ (by simp)
  · exact h
theorem rnds_lt (W s : List Nat) (h : ∀ x ∈ s, x < 4294967296) : ∀ n, ∀ x ∈ rnds W s n, x < 4294967296
  | 0 => h
  | n + 1 => rnd_lt _ _ _ (rnds_lt W s h n)
theorem addW_lt (s t : List Nat) : ∀ x ∈ addW s t, x < 4294967296 := by
  intro x hx
  unfold addW at hx
  obtain ⟨i, hi, rfl⟩ := List.getElem_of_mem hx
  rw [List.getElem_zipWith]
  exact Nat.mod_lt _ (by decide)
theorem mixW_lt (s : List Nat) (b : ByteArray) : ∀ x ∈ mixW s b, x < 4294967296 := addW_lt _ _
theorem eight (l : List Nat) (h : l.length = 8) : ∃ a b c d e f g i, l = [a, b, c, d, e, f, g, i] := by
  match l, h with
  | [a, b, c, d, e, f, g, i], _ => exact ⟨a, b, c, d, e, f, g, i, rfl⟩
theorem mixW_length (s : List Nat) (b : ByteArray) (h : s.length = 8) : (mixW s b).length = 8 := by
  simp [mixW, addW, rnds_length _ _ h, h]

/-- The eight words while they move up by one: those above j have moved. -/
def shf (l : List Nat) (j : Nat) : List Nat := l.take (j + 1) ++ (l.drop j).take (7 - j)
theorem shf_step (a b c d e f g h j : Nat) (h0 : 0 < j) (h7 : j ≤ 7) : (shf [a, b, c, d, e, f, g, h] j).set j ((shf [a, b, c, d, e, f, g, h] j).getD (j - 1) 0) = shf [a, b, c, d, e, f, g, h] (j - 1) := by
  match j, h0, h7 with
  | 1, _, _ => rfl
  | 2, _, _ => rfl
  | 3, _, _ => rfl
  | 4, _, _ => rfl
  | 5, _, _ => rfl
  | 6, _, _ => rfl
  | 7, _, _ => rfl
theorem shf_length (a b c d e f g h j : Nat) (h7 : j ≤ 7) : (shf [a, b, c, d, e, f, g, h] j).length = 8 := by
  match j, h7 with
  | 0, _ => rfl
  | 1, _ => rfl
  | 2, _ => rfl
  | 3, _ => rfl
  | 4, _ => rfl
  | 5, _ => rfl
  | 6, _ => rfl
  | 7, _ => rfl

/-- The eight words of which the first j have been added. -/
def addp (s t : List Nat) (j : Nat) : List Nat := (addW s t).take j ++ s.drop j
theorem addp_length (s t : List Nat) (hs : s.length = 8) (ht : t.length = 8) (j : Nat) (hj : j ≤ 8) : (addp s t j).length = 8 := by
  simp [addp, addW, hs, ht]; omega
theorem addp_get (s t : List Nat) (hs : s.length = 8) (ht : t.length = 8) (j : Nat) (hj : j < 8) : (addp s t j).getD j 0 = s.getD j 0 := by
  obtain ⟨a, b, c, d, e, f, g, h, rfl⟩ := eight s hs
  obtain ⟨a', b', c', d', e', f', g', h', rfl⟩ := eight t ht
  match j, hj with
  | 0, _ => rfl
  | 1, _ => rfl
  | 2, _ => rfl
  | 3, _ => rfl
  | 4, _ => rfl
  | 5, _ => rfl
  | 6, _ => rfl
  | 7, _ => rfl
theorem addp_step (s t : List Nat) (hs : s.length = 8) (ht : t.length = 8) (j : Nat) (hj : j < 8) : (addp s t j).set j ((s.getD j 0 + t.getD j 0) % 4294967296) = addp s t (j + 1) := by
  obtain ⟨a, b, c, d, e, f, g, h, rfl⟩ := eight s hs
  obtain ⟨a', b', c', d', e', f', g', h', rfl⟩ := eight t ht
  match j, hj with
  | 0, _ => rfl
  | 1, _ => rfl
  | 2, _ => rfl
  | 3, _ => rfl
  | 4, _ => rfl
  | 5, _ => rfl
  | 6, _ => rfl
  | 7, _ => rfl
theorem addp_all (s t : List Nat) (hs : s.length = 8) (ht : t.length = 8) : addp s t 8 = addW s t := by
  obtain ⟨a, b, c, d, e, f, g, h, rfl⟩ := eight s hs
  obtain ⟨a', b', c', d', e', f', g', h', rfl⟩ := eight t ht
  rfl
theorem addp_none (s t : List Nat) : addp s t 0 = s := by simp [addp]

/-! ### Padding and the sum -/
def first8 : List Nat := [1779033703, 3144134277, 1013904242, 2773480762, 1359893119, 2600822924, 528734635, 1541459225]
def zeros (n : Nat) : Nat := (119 - n % 64) % 64
def padS (n : Nat) : ByteArray := ⟨(128 :: List.replicate (zeros n) 0 ++ be 8 (n * 8 % 18446744073709551616)).toArray⟩
def sumW (t : ByteArray) : Nat → List Nat
  | 0 => first8
  | n + 1 => mixW (sumW t n) (t.extract (64 * n) (64 * n + 64))
def bytesW (s : List Nat) : List UInt8 := s.flatMap (be 4)
def shaL (b : ByteArray) : List UInt8 := bytesW (sumW (b ++ padS b.size) ((b ++ padS b.size).size / 64))

theorem padS_size (n : Nat) : (padS n).size = 9 + zeros n := by
  show (128 :: List.replicate (zeros n) 0 ++ be 8 (n * 8 % 18446744073709551616)).toArray.size = _
  simp [be_length]; omega
theorem pad_whole (n : Nat) : (n + (9 + zeros n)) % 64 = 0 := by unfold zeros; omega
theorem zeros_le (n : Nat) : zeros n ≤ 63 := by unfold zeros; omega
theorem sumW_length (t : ByteArray) : ∀ n, (sumW t n).length = 8
  | 0 => rfl
  | n + 1 => mixW_length _ _ (sumW_length t n)
theorem sumW_lt (t : ByteArray) : ∀ n, ∀ x ∈ sumW t n, x < 4294967296
  | 0 => show ∀ x ∈ first8, x < 4294967296 by decide
  | n + 1 => mixW_lt _ _
theorem bytesW_snoc (s : List Nat) (x : Nat) : bytesW (s ++ [x]) = bytesW s ++ be 4 x := by simp [bytesW]
theorem bytesW_length (s : List Nat) : (bytesW s).length = 4 * s.length := by
  induction s with
  | nil => rfl
  | cons x r ih =>
    have : bytesW (x :: r) = be 4 x ++ bytesW r := rfl
    rw [this, List.length_append, be_length, ih, List.length_cons]; omega
theorem shaL_length (b : ByteArray) : (shaL b).length = 32 := by
  unfold shaL; rw [bytesW_length, sumW_length]

/-! ### Square roots, bit by bit -/
def rootStep (s : Nat × Nat × Nat) : Nat × Nat × Nat :=
  if 4 * s.2.1 + 1 ≤ s.1 * 4 then (s.1 * 4 - (4 * s.2.1 + 1), 2 * s.2.1 + 1, s.2.2 * 2 + 1) else (s.1 * 4, s.2.1 * 2, s.2.2 * 2)
def rootIt (p w : Nat) : Nat → Nat × Nat × Nat
  | 0 => (p - w * w, w, 0)
  | n + 1 => rootStep (rootIt p w n)
theorem rootIt_inv (p w : Nat) (hw : w < 1024) (h : p < (w + 1) * (w + 1)) : ∀ n, (rootIt p w n).1 ≤ 2 * (rootIt p w n).2.1 ∧ (rootIt p w n).2.1 < 1024 * 2 ^ n ∧ (rootIt p w n).2.2 < 2 ^ n
  | 0 => by
    refine ⟨?_, by simpa [rootIt] using hw, by simp [rootIt]⟩
    simp only [rootIt]
    have : (w + 1) * (w + 1) = w * w + 2 * w + 1 := by rw [Nat.add_mul, Nat.mul_add, Nat.mul_one, Nat.one_mul]; omega
    omega
  | n + 1 => by
    obtain ⟨a, b, c⟩ := rootIt_inv p w hw h n
    simp only [rootIt, rootStep, Nat.pow_succ]
    generalize 2 ^ n = z at *
    split <;> simp only [] <;> exact ⟨by omega, by omega, by omega⟩

end Go.Proofs.YtecfgjoomckleaaDoor
