/-
  Plain mathematics for layer 2 (sha): the words of a block, the rounds, the padding, the sum, as functions on numbers and lists. No condition.
  Contracts of the reference of layer 2: turn, number, Spread. Conditions: the arguments fit their kinds.
  Contracts of the reference of layer 2: Mix. Conditions: the arguments fit their kinds.
  Contracts of the reference of layer 2: First, Pad, Sum. Conditions: the arguments fit their kinds; a string takes at most 2^47 - 4096 bytes.
  Contracts of package sha: First, Spread. Conditions: the arguments fit their kinds.
  Contracts of package sha: runRounds. Conditions: the arguments fit their kinds; the variable 'rounds' holds the 64 constants.
  Contracts of package sha: Mix. Conditions: the arguments fit their kinds; the variable 'rounds' holds the 64 constants.
  Contracts of package sha: Pad, mixAll, bytesOf. Conditions: the arguments fit their kinds; the variable 'rounds' holds the 64 constants.
-/
import Derived.Test.YtlfkkfacbcpogaaDoorBas
import Derived.StillTailTactics
import Derived.Outline
import Derived.Deep.RegionHeld3
import Derived.Deep.QuietTactic
import Derived.BigQuiet
import Derived.Deep.WholeRow
namespace Go.Proofs.YtlfkkfacbcpogaaDoor
set_option maxRecDepth 4000

def sg0 (x : Nat) : Nat := rotr x 7 ^^^ rotr x 18 ^^^ (x / 8)
def sg1 (x : Nat) : Nat := rotr x 17 ^^^ rotr x 19 ^^^ (x / 1024)
def nxt (l : List Nat) : Nat := (l.getD (l.length - 16) 0 + sg0 (l.getD (l.length - 15) 0) + l.getD (l.length - 7) 0 + sg1 (l.getD (l.length - 2) 0)) % 4294967296
def wstep (b : ByteArray) (n : Nat) (l : List Nat) : List Nat := if n < 16 then l ++ [tkz b ((4 * n : Nat) : Int) 4] else l ++ [nxt l]
def wl (b : ByteArray) : Nat → List Nat
  | 0 => []
  | n + 1 => wstep b n (wl b n)
theorem wl_length (b : ByteArray) : ∀ n, (wl b n).length = n
  | 0 => rfl
  | n + 1 => by
    have := wl_length b n
    simp only [wl, wstep]
    split <;> simp [this]
theorem xor_lt (a b : Nat) (ha : a < 4294967296) (hb : b < 4294967296) : a ^^^ b < 4294967296 := Nat.xor_lt_two_pow (n := 32) ha hb
theorem sg0_lt (x : Nat) (hx : x < 4294967296) : sg0 x < 4294967296 :=
  xor_lt _ _ (xor_lt _ _ (rotr_lt _ _ hx) (rotr_lt _ _ hx)) (by omega)
theorem sg1_lt (x : Nat) (hx : x < 4294967296) : sg1 x < 4294967296 :=
  xor_lt _ _ (xor_lt _ _ (rotr_lt _ _ hx) (rotr_lt _ _ hx)) (by omega)
theorem nxt_lt (l : List Nat) : nxt l < 4294967296 := Nat.mod_lt _ (by decide)
theorem wl_lt (b : ByteArray) : ∀ n, ∀ x ∈ wl b n, x < 4294967296
  | 0, x, h => by simp [wl] at h
  | n + 1, x, h => by
    simp only [wl, wstep] at h
    split at h
    · rcases List.mem_append.1 h with h | h
      · exact wl_lt b n x h
      · simp only [List.mem_singleton] at h; subst h; exact tkz_lt b _ 4
    · rcases List.mem_append.1 h with h | h
      · exact wl_lt b n x h
      · simp only [List.mem_singleton] at h; subst h; exact nxt_lt _
theorem getD_lt (l : List Nat) (h : ∀ x ∈ l, x < 4294967296) (i : Nat) : l.getD i 0 < 4294967296 := by
  rw [List.getD_eq_getElem?_getD]
  by_cases hi : i < l.length
  · rw [List.getElem?_eq_getElem hi]; exact h _ (List.getElem_mem hi)
  · rw [List.getElem?_eq_none (by omega)]; decide
def spread (b : ByteArray) : List Nat := wl b 64

/-! ### Turning by a sum -/
theorem turn_val (x k : Nat) (hx : x < 4294967296) (h0 : 1 ≤ k) (hk : k < 32) : (x / 2 ^ k + x * 2 ^ (32 - k) % 4294967296) = rotr x k := by
  unfold rotr
  have e : (4294967296 : Nat) = 2 ^ k * 2 ^ (32 - k) := by rw [← Nat.pow_add, show k + (32 - k) = 32 by omega]
  have h1 : x * 2 ^ (32 - k) % 4294967296 = x % 2 ^ k * 2 ^ (32 - k) := by
    rw [e, Nat.mul_mod_mul_right]
  have h2 : x / 2 ^ k < 2 ^ (32 - k) := by
    apply Nat.div_lt_of_lt_mul
    rw [← Nat.pow_add, show k + (32 - k) = 32 by omega]
    exact hx
  rw [h1, Nat.or_comm, nat_join (32 - k) _ _ (Nat.mul_mod_left _ _) h2, Nat.add_comm]

/-! ### The constants and the rounds -/
def rks : List Nat := [1116352408, 1899447441, 3049323471, 3921009573, 961987163, 1508970993, 2453635748, 2870763221,
  3624381080, 310598401, 607225278, 1426881987, 1925078388, 2162078206, 2614888103, 3248222580,
  3835390401, 4022224774, 264347078, 604807628, 770255983, 1249150122, 1555081692, 1996064986,
  2554220882, 2821834349, 2952996808, 3210313671, 3336571891, 3584528711, 113926993, 338241895,
  666307205, 773529912, 1294757372, 1396182291, 1695183700, 1986661051, 2177026350, 2456956037,
  2730485921, 2820302411, 3259730800, 3345764771, 3516065817, 3600352804, 4094571909, 275423344,
  430227734, 506948616, 659060556, 883997877, 958139571, 1322822218, 1537002063, 1747873779,
  1955562222, 2024104815, 2227730452, 2361852424, 2428436474, 2756734187, 3204031479, 3329325298]
def tt (e f g h k w : Nat) : Nat := (h + (rotr e 6 ^^^ rotr e 11 ^^^ rotr e 25) + ((e &&& f) ^^^ ((4294967295 - e) &&& g)) + k + w) % 4294967296
def uu (a b c : Nat) : Nat := ((rotr a 2 ^^^ rotr a 13 ^^^ rotr a 22) + ((a &&& b) ^^^ (a &&& c) ^^^ (b &&& c))) % 4294967296
def rnd (k w : Nat) : List Nat → List Nat
  | [a, b, c, d, e, f, g, h] => [(tt e f g h k w + uu a b c) % 4294967296, a, b, c, (d + tt e f g h k w) % 4294967296, e, f, g]
  | l => l
def rnds (W : List Nat) (s : List Nat) : Nat → List Nat
  | 0 => s
  | n + 1 => rnd (rks.getD n 0) (W.getD n 0) (rnds W s n)
def addW (s t : List Nat) : List Nat := List.zipWith (fun x y => (x + y) % 4294967296) s t
def mixW (s : List Nat) (b : ByteArray) : List Nat := addW (rnds (spread b) s 64) s
theorem rnd_length (k w : Nat) (s : List Nat) (h : s.length = 8) : (rnd k w s).length = 8 := by
  match s, h with
  | [a, b, c, d, e, f, g, h], _ => rfl
theorem rnds_length (W s : List Nat) (h : s.length = 8) : ∀ n, (rnds W s n).length = 8
  | 0 => h
  | n + 1 => rnd_length _ _ _ (rnds_length W s h n)
theorem rnd_lt (k w : Nat) (s : List Nat) (h : ∀ x ∈ s, x < 4294967296) : ∀ x ∈ rnd k w s, x < 4294967296 := by
  unfold rnd
  split
  · intro x hx
    simp only [List.mem_cons, List.not_mem_nil, or_false] at hx h
    have m := fun n => Nat.mod_lt n (show 4294967296 > 0 by decide)
    rcases hx with rfl | rfl | rfl | rfl | rfl | rfl | rfl | rfl
    · exact m _
    · exact h _ (by simp)
    · exact h _ (by simp)
    · exact h _ (by simp)
    · exact m _
    · exact h _ (by simp)
    · exact h _ (by simp)
    · exact h _ (by simp)
  · exact h
theorem rnds_lt (W s : List Nat) (h : ∀ x ∈ s, x < 4294967296) : ∀ n, ∀ x ∈ rnds W s n, x < 4294967296
  | 0 => h
  | n + 1 => rnd_lt _ _ _ (rnds_lt W s h n)
theorem addW_lt (s t : List Nat) : ∀ x ∈ addW s t, x < 4294967296 := by
  intro x hx
  unfold addW at hx
  obtain ⟨i, hi, rfl⟩ := List.getElem_of_mem hx
  rw [List.getElem_zipWith]
  exact Nat.mod_lt _ (by decide)
theorem mixW_lt (s : List Nat) (b : ByteArray) : ∀ x ∈ mixW s b, x < 4294967296 := addW_lt _ _
theorem eight (l : List Nat) (h : l.length = 8) : ∃ a b c d e f g i, l = [a, b, c, d, e, f, g, i] := by
  match l, h with
  | [a, b, c, d, e, f, g, i], _ => exact ⟨a, b, c, d, e, f, g, i, rfl⟩
theorem mixW_length (s : List Nat) (b : ByteArray) (h : s.length = 8) : (mixW s b).length = 8 := by
  simp [mixW, addW, rnds_length _ _ h, h]

/-- The eight words while they move up by one: those above j have moved. -/
def shf (l : List Nat) (j : Nat) : List Nat := l.take (j + 1) ++ (l.drop j).take (7 - j)
theorem shf_step (a b c d e f g h j : Nat) (h0 : 0 < j) (h7 : j ≤ 7) : (shf [a, b, c, d, e, f, g, h] j).set j ((shf [a, b, c, d, e, f, g, h] j).getD (j - 1) 0) = shf [a, b, c, d, e, f, g, h] (j - 1) := by
  match j, h0, h7 with
  | 1, _, _ => rfl
  | 2, _, _ => rfl
  | 3, _, _ => rfl
  | 4, _, _ => rfl
  | 5, _, _ => rfl
  | 6, _, _ => rfl
  | 7, _, _ => rfl
theorem shf_length (a b c d e f g h j : Nat) (h7 : j ≤ 7) : (shf [a, b, c, d, e, f, g, h] j).length = 8 := by
  match j, h7 with
  | 0, _ => rfl
  | 1, _ => rfl
  | 2, _ => rfl
  | 3, _ => rfl
  | 4, _ => rfl
  | 5, _ => rfl
  | 6, _ => rfl
  | 7, _ => rfl

/-- The eight words of which the first j have been added. -/
def addp (s t : List Nat) (j : Nat) : List Nat := (addW s t).take j ++ s.drop j
theorem addp_length (s t : List Nat) (hs : s.length = 8) (ht : t.length = 8) (j : Nat) (hj : j ≤ 8) : (addp s t j).length = 8 := by
  simp [addp, addW, hs, ht]; omega
theorem addp_get (s t : List Nat) (hs : s.length = 8) (ht : t.length = 8) (j : Nat) (hj : j < 8) : (addp s t j).getD j 0 = s.getD j 0 := by
  obtain ⟨a, b, c, d, e, f, g, h, rfl⟩ := eight s hs
  obtain ⟨a', b', c', d', e', f', g', h', rfl⟩ := eight t ht
  match j, hj with
  | 0, _ => rfl
  | 1, _ => rfl
  | 2, _ => rfl
  | 3, _ => rfl
  | 4, _ => rfl
  | 5, _ => rfl
  | 6, _ => rfl
  | 7, _ => rfl
theorem addp_step (s t : List Nat) (hs : s.length = 8) (ht : t.length = 8) (j : Nat) (hj : j < 8) : (addp s t j).set j ((s.getD j 0 + t.getD j 0) % 4294967296) = addp s t (j + 1) := by
  obtain ⟨a, b, c, d, e, f, g, h, rfl⟩ := eight s hs
  obtain ⟨a', b', c', d', e', f', g', h', rfl⟩ := eight t ht
  match j, hj with
  | 0, _ => rfl
  | 1, _ => rfl
  | 2, _ => rfl
  | 3, _ => rfl
  | 4, _ => rfl
  | 5, _ => rfl
  | 6, _ => rfl
  | 7, _ => rfl
theorem addp_all (s t : List Nat) (hs : s.length = 8) (ht : t.length = 8) : addp s t 8 = addW s t := by
  obtain ⟨a, b, c, d, e, f, g, h, rfl⟩ := eight s hs
  obtain ⟨a', b', c', d', e', f', g', h', rfl⟩ := eight t ht
  rfl
theorem addp_none (s t : List Nat) : addp s t 0 = s := by simp [addp]

/-! ### Padding and the sum -/
def first8 : List Nat := [1779033703, 3144134277, 1013904242, 2773480762, 1359893119, 2600822924, 528734635, 1541459225]
def zeros (n : Nat) : Nat := (119 - n % 64) % 64
def padS (n : Nat) : ByteArray := ⟨(128 :: List.replicate (zeros n) 0 ++ be 8 (n * 8 % 18446744073709551616)).toArray⟩
def sumW (t : ByteArray) : Nat → List Nat
  | 0 => first8
  | n + 1 => mixW (sumW t n) (t.extract (64 * n) (64 * n + 64))
def bytesW (s : List Nat) : List UInt8 := s.flatMap (be 4)
def shaL (b : ByteArray) : List UInt8 := bytesW (sumW (b ++ padS b.size) ((b ++ padS b.size).size / 64))

theorem padS_size (n : Nat) : (padS n).size = 9 + zeros n := by
  show (128 :: List.replicate (zeros n) 0 ++ be 8 (n * 8 % 18446744073709551616)).toArray.size = _
  simp [be_length]; omega
theorem pad_whole (n : Nat) : (n + (9 + zeros n)) % 64 = 0 := by unfold zeros; omega
theorem zeros_le (n : Nat) : zeros n ≤ 63 := by unfold zeros; omega
theorem sumW_length (t : ByteArray) : ∀ n, (sumW t n).length = 8
  | 0 => rfl
  | n + 1 => mixW_length _ _ (sumW_length t n)
theorem sumW_lt (t : ByteArray) : ∀ n, ∀ x ∈ sumW t n, x < 4294967296
  | 0 => show ∀ x ∈ first8, x < 4294967296 by decide
  | n + 1 => mixW_lt _ _
theorem bytesW_snoc (s : List Nat) (x : Nat) : bytesW (s ++ [x]) = bytesW s ++ be 4 x := by simp [bytesW]
theorem bytesW_length (s : List Nat) : (bytesW s).length = 4 * s.length := by
  induction s with
  | nil => rfl
  | cons x r ih =>
    have : bytesW (x :: r) = be 4 x ++ bytesW r := rfl
    rw [this, List.length_append, be_length, ih, List.length_cons]; omega
theorem shaL_length (b : ByteArray) : (shaL b).length = 32 := by
  unfold shaL; rw [bytesW_length, sumW_length]

/-! ### Square roots, bit by bit -/
def rootStep (s : Nat × Nat × Nat) : Nat × Nat × Nat :=
  if 4 * s.2.1 + 1 ≤ s.1 * 4 then (s.1 * 4 - (4 * s.2.1 + 1), 2 * s.2.1 + 1, s.2.2 * 2 + 1) else (s.1 * 4, s.2.1 * 2, s.2.2 * 2)
def rootIt (p w : Nat) : Nat → Nat × Nat × Nat
  | 0 => (p - w * w, w, 0)
  | n + 1 => rootStep (rootIt p w n)
theorem rootIt_inv (p w : Nat) (hw : w < 1024) (h : p < (w + 1) * (w + 1)) : ∀ n, (rootIt p w n).1 ≤ 2 * (rootIt p w n).2.1 ∧ (rootIt p w n).2.1 < 1024 * 2 ^ n ∧ (rootIt p w n).2.2 < 2 ^ n
  | 0 => by
    refine ⟨?_, by simpa [rootIt] using hw, by simp [rootIt]⟩
    simp only [rootIt]
    have : (w + 1) * (w + 1) = w * w + 2 * w + 1 := by rw [Nat.add_mul, Nat.mul_add, Nat.mul_one, Nat.one_mul]; omega
    omega
  | n + 1 => by
    obtain ⟨a, b, c⟩ := rootIt_inv p w hw h n
    simp only [rootIt, rootStep, Nat.pow_succ]
    generalize 2 ^ n = z at *
    split <;> simp only [] <;> exact ⟨by omega, by omega, by omega⟩

end Go.Proofs.YtlfkkfacbcpogaaDoor
namespace Go.Proofs.YtlfkkfacbcpogaaDoor
set_option maxRecDepth 4000
open Go.RowKit

theorem turn_val' (x k : Nat) (hx : x < 4294967296) (h0 : 1 ≤ k) (hk : k < 32) : ((x : Int) / 2 ^ k + (x : Int) * 2 ^ (32 - k) % 4294967296) % 4294967296 = ((rotr x k : Nat) : Int) := by
  have h := turn_val x k hx h0 hk
  have hl := rotr_lt x k hx
  have h1 : ((x : Int) / 2 ^ k) = ((x / 2 ^ k : Nat) : Int) := by simp
  have h2 : ((x : Int) * 2 ^ (32 - k) % 4294967296) = ((x * 2 ^ (32 - k) % 4294967296 : Nat) : Int) := by simp
  rw [h1, h2]
  omega

set_option maxHeartbeats 400000 in
theorem turn_any (x k : Nat) (n : Int) (w : World) (hx : x < 4294967296) (hn : n = k) (h0 : 1 ≤ k) (hk : k < 32) :
    Calls Tryd.prog 71 #[.int .u32 x, .int .u64 n] w fun e w' => e = .returned (.int .u32 (rotr x k : Nat)) ∧ w = w' := by
  subst hn
  go_enter Tryd.func71, Tryd.ntmps71
  go_wp2
  go_ret
  exact ⟨ret_int (turn_val' x k hx h0 hk), rfl⟩

theorem turn_still (x : Nat) (n : Int) (w : World) (hx : x < 4294967296) (h0 : 1 ≤ n) (hk : n < 32) :
    Calls Tryd.prog 71 #[.int .u32 x, .int .u64 n] w fun e w'' => e = .returned (.int .u32 (rotr x n.toNat : Nat)) ∧ w'' = w :=
  (turn_any x n.toNat n w hx (by omega) (by omega) (by omega)).mono fun _ _ ⟨he, hw⟩ => ⟨he, hw.symm⟩

set_option maxHeartbeats 400000 in
theorem number_at (i : Nat) (w : World) (hi : i < 64) :
    Calls Tryd.prog 72 #[.int .i64 i] w fun e w' => e = .returned (.int .u32 (rks.getD i 0 : Nat)) ∧ Grown w w' := by
  go_enter Tryd.func72, Tryd.ntmps72
  go_wp2
  go_ret
  refine ⟨?_, by repeat (first | exact Grown.refl _ | apply Grown.drew | apply Grown.alloc)⟩
  show Ending.returned ((rks.map fun n : Nat => Value.int .u32 (n : Int))[i]'(by simpa [rks] using hi)) = _
  rw [List.getElem_map, List.getD_eq_getElem?_getD, List.getElem?_eq_getElem (by simpa [rks] using hi)]
  rfl

theorem spread_step (s : ByteArray) (k : Nat) (hk : k < 16) : wl s (k + 1) = wl s k ++ [tkz s ((4 * k : Nat) : Int) 4] := by
  simp [wl, wstep, hk]
theorem spread_step' (s : ByteArray) (k : Nat) (hk : 16 ≤ k) : wl s (k + 1) = wl s k ++ [nxt (wl s k)] := by
  simp only [wl, wstep]
  rw [if_neg (by omega)]

theorem xor32 (a b : Nat) (ha : a < 4294967296) (hb : b < 4294967296) : bits .xor .u32 (a : Int) (b : Int) = ((a ^^^ b : Nat) : Int) := u32_xor_nat a b ha hb
theorem nxt_val (x16 x15 x7 x2 : Nat) (b15 : x15 < 4294967296) (b2 : x2 < 4294967296) :
    ((x16 : Int) + bits .xor .u32 (bits .xor .u32 ((rotr x15 7 : Nat) : Int) ((rotr x15 18 : Nat) : Int)) ((x15 : Int) / 8) + (x7 : Int) +
      bits .xor .u32 (bits .xor .u32 ((rotr x2 17 : Nat) : Int) ((rotr x2 19 : Nat) : Int)) ((x2 : Int) / 1024)) % 4294967296 = (((x16 + sg0 x15 + x7 + sg1 x2) % 4294967296 : Nat) : Int) := by
  have e1 : ((x15 : Int) / 8) = ((x15 / 8 : Nat) : Int) := by omega
  have e2 : ((x2 : Int) / 1024) = ((x2 / 1024 : Nat) : Int) := by omega
  rw [e1, e2, xor32 _ _ (rotr_lt _ _ b15) (rotr_lt _ _ b15), xor32 _ _ (rotr_lt _ _ b2) (rotr_lt _ _ b2),
    xor32 _ _ (xor_lt _ _ (rotr_lt _ _ b15) (rotr_lt _ _ b15)) (by omega), xor32 _ _ (xor_lt _ _ (rotr_lt _ _ b2) (rotr_lt _ _ b2)) (by omega)]
  rw [show (rotr x15 7 ^^^ rotr x15 18 ^^^ (x15 / 8)) = sg0 x15 from rfl, show (rotr x2 17 ^^^ rotr x2 19 ^^^ (x2 / 1024)) = sg1 x2 from rfl]
  omega
theorem info64 (l : List Nat) : (Tryd.prog.info? 87).map (·.size) = some (wC 64 l).size := by rw [wC_size]; kernel_rfl

set_option maxHeartbeats 1000000 in
theorem refSpread_any (s : ByteArray) (w : World) (hs : s.size ≤ maxLen) :
    Calls Tryd.prog 70 #[.string s] w fun e w' => e = .returned (.agg (wC 64 (spread s))) ∧ Grown w w' := by
  go_enter Tryd.func70, Tryd.ntmps70
  go_wp2
  go_loopw [4] (fun i wr => ∃ (k : Nat), k ≤ 16 ∧ i = .int .i64 k ∧ Hid (Rowz wr (w.heap.size + 1) (wC 64 (wl s k)) 87) ∧ Hid (Rowz wr w.heap.size (wC 64 []) 87) ∧ Hid (Grown w wr)) (fun i _ => 16 - (intOf i).toNat)
  case atStart => exact ⟨0, by omega, rfl, Lib.hid (Rowz.newEq1 w _ _ _ _ (by kernel_rfl)), Lib.hid ((Rowz.newEq w _ _ _ (by kernel_rfl)).alloc _), Lib.hid (((Grown.refl _).alloc _ _).alloc _ _)⟩
  case round =>
    obtain ⟨k, hk, rfl, HR, HZ, HG⟩ := hrel
    by_cases hlt : k < 16
    · have hcell : wr.cell? ⟨w.heap.size + 1, k, none⟩ = some (.int .u32 (((wl s k).getD k 0 : Nat) : Int)) := by
        rw [HR.out.cell, wC_get 64 _ k (by omega)]
      have hfr : wr.frozen? ⟨w.heap.size + 1, k, none⟩ = false := HR.out.free k
      have h4 : tkz s ((4 * k : Nat) : Int) 4 < 4294967296 := tkz_lt s _ 4
      go_wp2_with (go_at_call 80; refine (refTake_any s ((4 * k : Nat) : Int) 4 _ hs (by omega) (by omega) (by omega)).mono ?_; rintro e w' ⟨rfl, rfl⟩)
      go_roundw
      case rel =>
        have e4 : (4 * (k : Int)) = ((4 * k : Nat) : Int) := by omega
        rw [e4]
        refine ⟨k + 1, by omega, by go_num, Lib.hid ?_, Lib.hid (HZ.out.other _ _ (by simp)), Lib.hid (HG.out.setCell (by simp) _)⟩
        rw [spread_step s k hlt]
        exact HR.out.push k (wl_length s k) _ _ (by omega)
      case measure => simp [intOf]; omega
    · have HR16 : Hid (Rowz wr (w.heap.size + 1) (wC 64 (wl s 16)) 87) := by rw [show (16 : Nat) = k by omega]; exact HR
      clear HR
      have hd : decide ((k : Int) < 16) = false := by simp; omega
      go_wp2_with fail
      go_loopw [5] (fun i wr => ∃ (k : Nat), 16 ≤ k ∧ k ≤ 64 ∧ i = .int .i64 k ∧ Hid (Rowz wr (w.heap.size + 1) (wC 64 (wl s k)) 87) ∧ Hid (Rowz wr w.heap.size (wC 64 []) 87) ∧ Hid (Grown w wr)) (fun i _ => 64 - (intOf i).toNat)
      case atStart => exact ⟨16, by omega, by omega, rfl, HR16, HZ, HG⟩
      case round =>
        clear HR16 HZ HG
        obtain ⟨k, hk16, hk64, rfl, HR, HZ, HG⟩ := hrel
        by_cases hlt : k < 64
        · have hc15 := HR.out.word (k - 15) (by omega)
          have hc2 := HR.out.word (k - 2) (by omega)
          have hc16 := HR.out.word (k - 16) (by omega)
          have hc7 := HR.out.word (k - 7) (by omega)
          have hcell := HR.out.word k (by omega)
          have hfr := HR.out.free k
          have hall := wl_lt s k
          have b15 := getD_lt _ hall (k - 15)
          have b2 := getD_lt _ hall (k - 2)
          have b16 := getD_lt _ hall (k - 16)
          have b7 := getD_lt _ hall (k - 7)
          obtain ⟨x15, e15⟩ : ∃ x, x = (wl s k).getD (k - 15) 0 := ⟨_, rfl⟩
          obtain ⟨x2, e2⟩ : ∃ x, x = (wl s k).getD (k - 2) 0 := ⟨_, rfl⟩
          obtain ⟨x16, e16⟩ : ∃ x, x = (wl s k).getD (k - 16) 0 := ⟨_, rfl⟩
          obtain ⟨x7, e7⟩ : ∃ x, x = (wl s k).getD (k - 7) 0 := ⟨_, rfl⟩
          rw [← e15] at hc15 b15
          rw [← e2] at hc2 b2
          rw [← e16] at hc16 b16
          rw [← e7] at hc7 b7
          have HN : Hid (nxt (wl s k) = (x16 + sg0 x15 + x7 + sg1 x2) % 4294967296) := Lib.hid (by
            unfold nxt; rw [wl_length, ← e15, ← e2, ← e16, ← e7])
          clear e15 e2 e16 e7 hall
          have hd : decide ((k : Int) < 64) = true := by simp; omega
          go_wp2_with fail
          refine wp_region_still_tail 29 (by kernel_rfl) (by kernel_rfl) ?_
          simp only [List.take_succ_cons, List.take_zero, List.drop_succ_cons, List.drop_zero]
          change wpStill _ _ wr.drew (fun a' => wpList _ _ _ _ a' wr.drew) _ _
          replace HR : Hid (Rowz wr.drew (w.heap.size + 1) (wC 64 (wl s k)) 87) := HR
          replace HZ : Hid (Rowz wr.drew w.heap.size (wC 64 []) 87) := HZ
          replace HG : Hid (Grown w wr.drew) := HG
          replace hc16 : wr.drew.cell? ⟨w.heap.size + 1, k - 16, none⟩ = some (.int .u32 (x16 : Int)) := hc16
          replace hc7 : wr.drew.cell? ⟨w.heap.size + 1, k - 7, none⟩ = some (.int .u32 (x7 : Int)) := hc7
          replace hcell : wr.drew.cell? ⟨w.heap.size + 1, k, none⟩ = some (.int .u32 (((wl s k).getD k 0 : Nat) : Int)) := hcell
          replace hfr : wr.drew.frozen? ⟨w.heap.size + 1, k, none⟩ = false := hfr
          clear hc15 hc2
          generalize wr.drew = w2 at HR HZ HG hc16 hc7 hcell hfr ⊢
          have hw16 : IntKind.i64.wrap ((k : Int) - 16) = ((k - 16 : Nat) : Int) := by rw [IntWalk.i64_in _ (by omega)]; omega
          have hw7 : IntKind.i64.wrap ((k : Int) - 7) = ((k - 7 : Nat) : Int) := by rw [IntWalk.i64_in _ (by omega)]; omega
          have hb16 : ((k - 16 : Nat) : Int) < 64 := by omega
          have hb7 : ((k - 7 : Nat) : Int) < 64 := by omega
          have hbk : (k : Int) < 64 := by omega
          repeat (first
            | still_step
            | (refine wpStill_step (fun K hK => ?_); go_simp; refine ⟨_, turn_still _ _ _ (by assumption) (by decide) (by decide), hK _ ?_⟩; clear hK K))
          refine wpStill_nil ?_
          clear hw16 hw7
          go_wp2_with fail
          go_roundw
          case rel =>
            refine ⟨k + 1, by omega, by omega, by go_num, Lib.hid ?_, Lib.hid (HZ.out.other _ _ (by simp)), Lib.hid (HG.out.setCell (by simp) _)⟩
            rw [spread_step' s k hk16, HN.out]
            exact HR.out.push k (wl_length s k) _ _ (nxt_val x16 x15 x7 x2 b15 b2)
          case measure => simp [intOf]; omega
        · have e64 : k = 64 := by omega
          rw [e64] at HR
          have hd : decide ((k : Int) < 64) = false := by simp; omega
          go_wp2_with (first
            | (refine wpList_load_row rfl 87 _ rfl (w.heap.size + 1) rfl 87 (wC 64 (wl s 64)) (0, 0) _ HR.out Tryd.underlying87 rfl (info64 _) ?_)
            | (refine wpList_store_row rfl 87 _ _ rfl w.heap.size (wC 64 (wl s 64)) rfl rfl 87 (wC 64 []) HZ.out (info64 _) (by simp [wC_size]) (wC_one _ _) ?_))
          refine bodyPost_ret (v := .agg (wC 64 (wl s 64))) (results_cell_row Tryd.results70 _ _ w.heap.size 87 _ (0, 0) _ rfl HZ.out.row Tryd.underlying87 rfl (info64 _)) rfl ⟨rfl, ?_⟩
          exact Grown.setRow HG.out HZ.out (Nat.le_refl _) _
end Go.Proofs.YtlfkkfacbcpogaaDoor
namespace Go.Proofs.YtlfkkfacbcpogaaDoor
set_option maxRecDepth 4000
open Go.RowKit

theorem info8 (l : List Nat) : (Tryd.prog.info? 71).map (·.size) = some (wC 8 l).size := by rw [wC_size]; kernel_rfl

theorem and32 (a b : Nat) (ha : a < 4294967296) (hb : b < 4294967296) : bits .and .u32 (a : Int) (b : Int) = ((a &&& b : Nat) : Int) := u32_and_nat a b ha hb
theorem and_lt (a b : Nat) (ha : a < 4294967296) : a &&& b < 4294967296 := Nat.lt_of_le_of_lt Nat.and_le_left ha
theorem tt_val (e f g h k x : Nat) (be_ : e < 4294967296) (bf : f < 4294967296) (bg : g < 4294967296) :
    IntKind.u32.wrap (IntKind.u32.wrap (IntKind.u32.wrap (IntKind.u32.wrap ((h : Int) + bits .xor .u32 (bits .xor .u32 ((rotr e 6 : Nat) : Int) ((rotr e 11 : Nat) : Int)) ((rotr e 25 : Nat) : Int)) +
      bits .xor .u32 (bits .and .u32 (e : Int) (f : Int)) (bits .and .u32 (IntKind.u32.wrap (4294967295 - (e : Int))) (g : Int))) + (k : Int)) + (x : Int)) = ((tt e f g h k x : Nat) : Int) := by
  have e1 : IntKind.u32.wrap (4294967295 - (e : Int)) = ((4294967295 - e : Nat) : Int) := by rw [IntKind.wrap_u32']; omega
  have r6 := rotr_lt e 6 be_
  have r11 := rotr_lt e 11 be_
  have r25 := rotr_lt e 25 be_
  rw [e1, xor32 _ _ r6 r11, xor32 _ _ (xor_lt _ _ r6 r11) r25, and32 _ _ be_ bf, and32 _ _ (by omega) bg, xor32 _ _ (and_lt _ _ be_) (and_lt _ _ (by omega))]
  simp only [IntKind.wrap_u32']
  unfold tt
  omega
theorem uu_val (a b c : Nat) (ba : a < 4294967296) (bb : b < 4294967296) (bc : c < 4294967296) :
    (bits .xor .u32 (bits .xor .u32 ((rotr a 2 : Nat) : Int) ((rotr a 13 : Nat) : Int)) ((rotr a 22 : Nat) : Int) +
      bits .xor .u32 (bits .xor .u32 (bits .and .u32 (a : Int) (b : Int)) (bits .and .u32 (a : Int) (c : Int))) (bits .and .u32 (b : Int) (c : Int))) % 4294967296 = ((uu a b c : Nat) : Int) := by
  have r2 := rotr_lt a 2 ba
  have r13 := rotr_lt a 13 ba
  have r22 := rotr_lt a 22 ba
  rw [xor32 _ _ r2 r13, xor32 _ _ (xor_lt _ _ r2 r13) r22, and32 _ _ ba bb, and32 _ _ ba bc, and32 _ _ bb bc, xor32 _ _ (and_lt _ _ ba) (and_lt _ _ ba), xor32 _ _ (xor_lt _ _ (and_lt _ _ ba) (and_lt _ _ ba)) (and_lt _ _ bb)]
  unfold uu
  omega

set_option maxRecDepth 100000 in
set_option maxHeartbeats 2000000 in
theorem refMix_any (l : List Nat) (s : ByteArray) (w : World) (hs : s.size ≤ maxLen) (hl : l.length = 8) (hlt : ∀ x ∈ l, x < 4294967296) :
    Calls Tryd.prog 59 #[.agg (wC 8 l), .string s] w fun e w' => e = .returned (.agg (wC 8 (mixW l s))) ∧ Grown w w' := by
  go_enter Tryd.func59, Tryd.ntmps59
  go_wp2_with fail
  have R0 := Lib.hid ((Rowz.newEq w (.cells (wC 8 l) 71) _ _ rfl).alloc (.cells #[.int .u32 0, .int .u32 0, .int .u32 0, .int .u32 0, .int .u32 0, .int .u32 0, .int .u32 0, .int .u32 0] 71))
  have R1 := Lib.hid (Rowz.newEq1 w (.cells (wC 8 l) 71) (.cells #[.int .u32 0, .int .u32 0, .int .u32 0, .int .u32 0, .int .u32 0, .int .u32 0, .int .u32 0, .int .u32 0] 71) (wC 8 []) 71 (by kernel_rfl))
  have G0 := Lib.hid (((Grown.refl w).alloc (wC 8 l) 71).alloc #[.int .u32 0, .int .u32 0, .int .u32 0, .int .u32 0, .int .u32 0, .int .u32 0, .int .u32 0, .int .u32 0] 71)
  refine (refSpread_any s _ hs).mono ?_
  rintro e w1 ⟨rfl, hg⟩
  replace R0 := Lib.hid (R0.out.grown hg)
  replace R1 := Lib.hid (R1.out.grown hg)
  replace G0 := Lib.hid (Grown.trans G0.out hg)
  have hsz : w.heap.size + 2 ≤ w1.heap.size := by have := hg.2.2; simpa using this
  clear hg
  go_wp2_with (first
    | (refine wpList_store_row rfl 87 _ _ rfl w1.heap.size (wC 64 (spread s)) rfl rfl 87 _ (Rowz.new w1 _ _) (info64 _) (by rw [wC_size]; rfl) (wC_one _ _) ?_; rw [World.setRow_alloc_new])
    | (refine wpList_load_row rfl 71 _ rfl w.heap.size rfl 71 (wC 8 l) (0, 0) _ (R0.out.alloc _) Tryd.underlying71 rfl (info8 _) ?_)
    | (refine wpList_store_row rfl 71 _ _ rfl (w1.heap.size + 1) (wC 8 l) rfl rfl 71 _ (Rowz.newEq1 w1 _ _ _ _ rfl) (info8 _) (by rw [wC_size]; rfl) (wC_one _ _) ?_))
  go_loopw [7] (fun i wr => ∃ (k : Nat), k ≤ 64 ∧ i = .int .i64 k ∧ Hid (Rowz wr w.heap.size (wC 8 (rnds (spread s) l k)) 71) ∧ Hid (Rowz wr (w.heap.size + 1) (wC 8 []) 71) ∧ Hid (Rowz wr w1.heap.size (wC 64 (spread s)) 87) ∧ Hid (Rowz wr (w1.heap.size + 1) (wC 8 l) 71) ∧ Hid (Grown w wr)) (fun i _ => 64 - (intOf i).toNat)
  case atStart =>
    have N5 : Rowz (w1.alloc (.cells (wC 64 (spread s)) 87)) w1.heap.size (wC 64 (spread s)) 87 := Rowz.new w1 _ _
    refine ⟨0, by omega, rfl, Lib.hid (((R0.out.alloc _).alloc _).rowOther (by omega)), Lib.hid (((R1.out.alloc _).alloc _).rowOther (by omega)), Lib.hid ((N5.alloc _).rowOther (by omega)), Lib.hid ((Rowz.newEq1 w1 _ _ _ _ rfl).row), Lib.hid (Grown.setRow ((G0.out.alloc _ _).alloc _ _) (Rowz.newEq1 w1 _ _ _ _ rfl) (by omega) _)⟩
  case round =>
    clear R0 R1 G0
    obtain ⟨k, hk64, rfl, R0, R1, R5, R6, G0⟩ := hrel
    by_cases hk : k < 64
    · have L8 := rnds_length (spread s) l hl k
      have B8 := rnds_lt (spread s) l hlt k
      have HW := Lib.hid (show rnds (spread s) l (k + 1) = rnd (rks.getD k 0) ((spread s).getD k 0) (rnds (spread s) l k) from rfl)
      have hcw := R5.out.word k hk
      have bw : (spread s).getD k 0 < 4294967296 := getD_lt _ (wl_lt s 64) k
      obtain ⟨x, hx⟩ : ∃ x, x = (spread s).getD k 0 := ⟨_, rfl⟩
      rw [← hx] at hcw bw HW
      have HX := Lib.hid hx
      clear hx
      obtain ⟨a, b, c, d, e, f, g, h, hA⟩ := eight _ L8
      rw [hA] at HW R0 B8
      have HA := Lib.hid hA
      clear hA L8
      have hc0 : wr.cell? ⟨w.heap.size, 0, none⟩ = some (.int .u32 (a : Int)) := R0.out.word 0 (by decide)
      have hc1 : wr.cell? ⟨w.heap.size, 1, none⟩ = some (.int .u32 (b : Int)) := R0.out.word 1 (by decide)
      have hc2 : wr.cell? ⟨w.heap.size, 2, none⟩ = some (.int .u32 (c : Int)) := R0.out.word 2 (by decide)
      have hc4 : wr.cell? ⟨w.heap.size, 4, none⟩ = some (.int .u32 (e : Int)) := R0.out.word 4 (by decide)
      have hc5 : wr.cell? ⟨w.heap.size, 5, none⟩ = some (.int .u32 (f : Int)) := R0.out.word 5 (by decide)
      have hc6 : wr.cell? ⟨w.heap.size, 6, none⟩ = some (.int .u32 (g : Int)) := R0.out.word 6 (by decide)
      have hc7 : wr.cell? ⟨w.heap.size, 7, none⟩ = some (.int .u32 (h : Int)) := R0.out.word 7 (by decide)
      have ba : a < 4294967296 := B8 a (by simp)
      have bb : b < 4294967296 := B8 b (by simp)
      have bc : c < 4294967296 := B8 c (by simp)
      have bd : d < 4294967296 := B8 d (by simp)
      have be_ : e < 4294967296 := B8 e (by simp)
      have bf : f < 4294967296 := B8 f (by simp)
      have bg : g < 4294967296 := B8 g (by simp)
      have bh : h < 4294967296 := B8 h (by simp)
      clear B8
      have hdk : decide ((k : Int) < 64) = true := by simp; omega
      have hki : (k : Int) < 64 := by omega
      go_wp2_with fail
      go_region_held3 (fun w' => w'.cell? ⟨w.heap.size, 7, none⟩ = some (.int .u32 (h : Int)) ∧ w'.cell? ⟨w.heap.size, 5, none⟩ = some (.int .u32 (f : Int)) ∧ w'.cell? ⟨w.heap.size, 6, none⟩ = some (.int .u32 (g : Int)) ∧ w'.cell? ⟨w1.heap.size, k, none⟩ = some (.int .u32 (x : Int)))
        (first | exact ⟨hc7, hc5, hc6, hcw⟩ | exact ⟨q7, q5, q6, qw⟩ | go_keep)
        (first
          | (go_at_call 71; refine (turn_still _ _ _ (by assumption) (by decide) (by decide)).mono ?_; rintro e w' ⟨rfl, rfl⟩)
          | (go_at_call 72; refine (number_at k _ hk).mono ?_; rintro e w2 ⟨rfl, hg⟩
             have P0 : Hid (Rowz w2 w.heap.size (wC 8 [a, b, c, d, e, f, g, h]) 71) := Lib.hid (by first | exact R0.out.grown hg | exact R0.out.grownD _ hg)
             have P1 : Hid (Rowz w2 (w.heap.size + 1) (wC 8 []) 71) := Lib.hid (by first | exact R1.out.grown hg | exact R1.out.grownD _ hg)
             have P5 : Hid (Rowz w2 w1.heap.size (wC 64 (spread s)) 87) := Lib.hid (by first | exact R5.out.grown hg | exact R5.out.grownD _ hg)
             have P6 : Hid (Rowz w2 (w1.heap.size + 1) (wC 8 l) 71) := Lib.hid (by first | exact R6.out.grown hg | exact R6.out.grownD _ hg)
             have P9 : Hid (Grown w w2) := Lib.hid (by first | exact Grown.trans G0.out hg | exact Grown.transD G0.out _ hg)
             have q7 : w2.cell? ⟨w.heap.size, 7, none⟩ = some (.int .u32 (h : Int)) := P0.out.word 7 (by decide)
             have q5 : w2.cell? ⟨w.heap.size, 5, none⟩ = some (.int .u32 (f : Int)) := P0.out.word 5 (by decide)
             have q6 : w2.cell? ⟨w.heap.size, 6, none⟩ = some (.int .u32 (g : Int)) := P0.out.word 6 (by decide)
             have qw : w2.cell? ⟨w1.heap.size, k, none⟩ = some (.int .u32 (x : Int)) := (P5.out.word k hk).trans (by rw [HX.out])))
      rw [tt_val e f g h (rks[k]?.getD 0) x be_ bf bg]
      have TL : tt e f g h (rks[k]?.getD 0) x < 4294967296 := Nat.mod_lt _ (by decide)
      obtain ⟨T, hT⟩ : ∃ T, T = tt e f g h (rks[k]?.getD 0) x := ⟨_, rfl⟩
      rw [← hT] at TL ⊢
      have HT := Lib.hid hT
      clear hT
      clear R0 R1 R5 R6 G0 hc0 hc1 hc2 hc4 hc5 hc6 hc7 hcw q7 q5 q6 qw hg
      have hc1 : w2.cell? ⟨w.heap.size, 1, none⟩ = some (.int .u32 (b : Int)) := P0.out.word 1 (by decide)
      have hc2 : w2.cell? ⟨w.heap.size, 2, none⟩ = some (.int .u32 (c : Int)) := P0.out.word 2 (by decide)
      go_wp2_with fail
      go_quiet ((go_at_call 71; exact Calls.quiet_of_same (turn_still _ _ _ (by assumption) (by decide) (by decide))))
      rw [uu_val a b c ba bb bc]
      have UL : uu a b c < 4294967296 := Nat.mod_lt _ (by decide)
      obtain ⟨U, hU⟩ : ∃ U, U = uu a b c := ⟨_, rfl⟩
      rw [← hU] at UL ⊢
      have HU := Lib.hid hU
      clear hU
      clear hc1 hc2
      replace P0 : Hid (Rowz (w2.drewN nq) w.heap.size (wC 8 [a, b, c, d, e, f, g, h]) 71) := P0
      replace P1 : Hid (Rowz (w2.drewN nq) (w.heap.size + 1) (wC 8 []) 71) := P1
      replace P5 : Hid (Rowz (w2.drewN nq) w1.heap.size (wC 64 (spread s)) 87) := P5
      replace P6 : Hid (Rowz (w2.drewN nq) (w1.heap.size + 1) (wC 8 l) 71) := P6
      replace P9 : Hid (Grown w (w2.drewN nq)) := P9
      generalize w2.drewN nq = w3 at P0 P1 P5 P6 P9 ⊢
      go_wp2_with fail
      go_loopw [12] (fun i wr => ∃ (j : Nat), j ≤ 7 ∧ i = .int .i64 j ∧ Hid (Rowz wr w.heap.size (wC 8 (shf [a, b, c, d, e, f, g, h] j)) 71) ∧ Hid (Rowz wr (w.heap.size + 1) (wC 8 []) 71) ∧ Hid (Rowz wr w1.heap.size (wC 64 (spread s)) 87) ∧ Hid (Rowz wr (w1.heap.size + 1) (wC 8 l) 71) ∧ Hid (Grown w wr)) (fun i _ => (intOf i).toNat)
      case atStart => exact ⟨7, by omega, rfl, P0, P1, P5, P6, P9⟩
      case round =>
        clear P0 P1 P5 P6 P9
        obtain ⟨j, hj7, rfl, P0, P1, P5, P6, P9⟩ := hrel
        by_cases hj : 0 < j
        · have hcj := P0.out.word j (by omega)
          have hcj1 := P0.out.word (j - 1) (by omega)
          have hfr := P0.out.free j
          have HS := Lib.hid (shf_step a b c d e f g h j hj hj7)
          have HL := Lib.hid (shf_length a b c d e f g h j hj7)
          obtain ⟨y, hy⟩ : ∃ y, y = (shf [a, b, c, d, e, f, g, h] j).getD (j - 1) 0 := ⟨_, rfl⟩
          rw [← hy] at hcj1 HS
          clear hy
          have hdj : decide ((0 : Int) < (j : Int)) = true := by simp; omega
          go_wp2
          go_roundw
          case rel =>
            refine ⟨j - 1, by omega, by go_num, Lib.hid ?_, Lib.hid (P1.out.other _ _ (by simp)), Lib.hid (P5.out.other _ _ (by simp; omega)), Lib.hid (P6.out.other _ _ (by simp; omega)), Lib.hid (P9.out.setCell (by simp) _)⟩
            rw [← HS.out]
            exact P0.out.put j HL.out (by omega) _ _ rfl
          case measure => simp [intOf]; omega
        · have e0 : j = 0 := by omega
          rw [e0, show shf [a, b, c, d, e, f, g, h] 0 = [a, a, b, c, d, e, f, g] from rfl] at P0
          clear e0
          have hc4 : wr.cell? ⟨w.heap.size, 4, none⟩ = some (.int .u32 (d : Int)) := P0.out.word 4 (by decide)
          have hc0 : wr.cell? ⟨w.heap.size, 0, none⟩ = some (.int .u32 (a : Int)) := P0.out.word 0 (by decide)
          have hf4 := P0.out.free 4
          have hf0 := P0.out.free 0
          have hdj : decide ((0 : Int) < (j : Int)) = false := by simp; omega
          go_wp2
          go_roundw
          case rel =>
            refine ⟨k + 1, by omega, by go_num, Lib.hid ?_, Lib.hid ((P1.out.other _ _ (by simp)).other _ _ (by simp)), Lib.hid ((P5.out.other _ _ (by simp; omega)).other _ _ (by simp; omega)), Lib.hid ((P6.out.other _ _ (by simp; omega)).other _ _ (by simp; omega)), Lib.hid ((P9.out.setCell (by simp) _).setCell (by simp) _)⟩
            rw [HW.out, List.getD_eq_getElem?_getD]
            show Rowz _ _ (wC 8 [(tt e f g h (rks[k]?.getD 0) x + uu a b c) % 4294967296, a, b, c, (d + tt e f g h (rks[k]?.getD 0) x) % 4294967296, e, f, g]) _
            rw [← HT.out, ← HU.out]
            exact (P0.out.put 4 rfl (by decide) _ ((d + T) % 4294967296) (by omega)).put 0 rfl (by decide) _ ((T + U) % 4294967296) (by omega)
          case measure => simp [intOf]; omega
    · have e64 : k = 64 := by omega
      rw [e64] at R0
      clear e64
      have LA := Lib.hid (rnds_length (spread s) l hl 64)
      have HM := Lib.hid (show mixW l s = addW (rnds (spread s) l 64) l from rfl)
      have AB := Lib.hid (rnds_lt (spread s) l hlt 64)
      have HLT := Lib.hid hlt
      have HLL := Lib.hid hl
      clear hl hlt
      generalize rnds (spread s) l 64 = A at R0 LA HM AB
      have hdk : decide ((k : Int) < 64) = false := by simp; omega
      go_wp2_with fail
      go_loopw [13] (fun i wr => ∃ (j : Nat), j ≤ 8 ∧ i = .int .i64 j ∧ Hid (Rowz wr w.heap.size (wC 8 (addp A l j)) 71) ∧ Hid (Rowz wr (w.heap.size + 1) (wC 8 []) 71) ∧ Hid (Rowz wr (w1.heap.size + 1) (wC 8 l) 71) ∧ Hid (Grown w wr)) (fun i _ => 8 - (intOf i).toNat)
      case atStart => exact ⟨0, by omega, rfl, by rw [addp_none]; exact R0, R1, R6, G0⟩
      case round =>
        clear R0 R1 R5 R6 G0
        obtain ⟨j, hj8, rfl, R0, R1, R6, G0⟩ := hrel
        by_cases hj : j < 8
        · have hcj := R0.out.word j (by omega)
          rw [addp_get A l LA.out HLL.out j hj] at hcj
          have hcl := R6.out.word j (by omega)
          have hfr := R0.out.free j
          have HS := Lib.hid (addp_step A l LA.out HLL.out j hj)
          have HL := Lib.hid (addp_length A l LA.out HLL.out j hj8)
          have bA := getD_lt A AB.out j
          have bl_ := getD_lt l HLT.out j
          obtain ⟨p, hp⟩ : ∃ p, p = A.getD j 0 := ⟨_, rfl⟩
          obtain ⟨q, hq⟩ : ∃ q, q = l.getD j 0 := ⟨_, rfl⟩
          rw [← hp] at hcj HS bA
          rw [← hq] at hcl HS bl_
          clear hp hq
          have hdj : decide ((j : Int) < 8) = true := by simp; omega
          go_wp2_with fail
          refine wp_region_still_tail 8 (by kernel_rfl) (by kernel_rfl) ?_
          simp only [List.take_succ_cons, List.take_zero, List.drop_succ_cons, List.drop_zero]
          change wpStill _ _ wr.drew (fun a' => wpList _ _ _ _ a' wr.drew) _ _
          replace R0 : Hid (Rowz wr.drew w.heap.size (wC 8 (addp A l j)) 71) := R0
          replace R1 : Hid (Rowz wr.drew (w.heap.size + 1) (wC 8 []) 71) := R1
          replace R6 : Hid (Rowz wr.drew (w1.heap.size + 1) (wC 8 l) 71) := R6
          replace G0 : Hid (Grown w wr.drew) := G0
          replace hcj : wr.drew.cell? ⟨w.heap.size, j, none⟩ = some (.int .u32 (p : Int)) := hcj
          replace hcl : wr.drew.cell? ⟨w1.heap.size + 1, j, none⟩ = some (.int .u32 (q : Int)) := hcl
          replace hfr : wr.drew.frozen? ⟨w.heap.size, j, none⟩ = false := hfr
          generalize wr.drew = w2 at R0 R1 R6 G0 hcj hcl hfr ⊢
          have hbj : (j : Int) < 8 := by omega
          repeat still_step
          refine wpStill_nil ?_
          go_wp2_with fail
          go_roundw
          case rel =>
            refine ⟨j + 1, by omega, by go_num, Lib.hid ?_, Lib.hid (R1.out.other _ _ (by simp)), Lib.hid (R6.out.other _ _ (by simp; omega)), Lib.hid (G0.out.setCell (by simp) _)⟩
            rw [← HS.out]
            exact R0.out.put j HL.out (by omega) _ ((p + q) % 4294967296) (by omega)
          case measure => simp [intOf]; omega
        · have e8 : j = 8 := by omega
          rw [e8, addp_all A l LA.out HLL.out, ← HM.out] at R0
          clear e8
          have hdj : decide ((j : Int) < 8) = false := by simp; omega
          go_wp2_with (first
            | (refine wpList_load_row rfl 71 _ rfl w.heap.size rfl 71 (wC 8 (mixW l s)) (0, 0) _ R0.out Tryd.underlying71 rfl (info8 _) ?_)
            | (refine wpList_store_row rfl 71 _ _ rfl (w.heap.size + 1) (wC 8 (mixW l s)) rfl rfl 71 (wC 8 []) R1.out (info8 _) (by simp [wC_size]) (wC_one _ _) ?_))
          refine bodyPost_ret (v := .agg (wC 8 (mixW l s))) (results_cell_row Tryd.results59 _ _ (w.heap.size + 1) 71 _ (0, 0) _ rfl R1.out.row Tryd.underlying71 rfl (info8 _)) rfl ⟨rfl, ?_⟩
          exact Grown.setRow G0.out R1.out (by omega) _
end Go.Proofs.YtlfkkfacbcpogaaDoor
namespace Go.Proofs.YtlfkkfacbcpogaaDoor
set_option maxRecDepth 4000
open Go.RowKit

set_option maxHeartbeats 400000 in
theorem refFirst_any (w : World) :
    Calls Tryd.prog 57 #[] w fun e w' => e = .returned (.agg (wC 8 first8)) ∧ Grown w w' := by
  go_enter Tryd.func57, Tryd.ntmps57
  go_wp2
  exact bodyPost_ret (v := .agg (wC 8 first8)) (results_cell_row Tryd.results57 _ _ w.heap.size 71 (wC 8 first8) (0, 0) _ rfl (Rowz.newEq w _ _ _ (by kernel_rfl)) Tryd.underlying71 rfl (info8 _)) rfl ⟨rfl, (Grown.refl _).alloc _ _⟩

def strSize : Value → Nat
  | .string t => t.size
  | _ => 0
def padT (j : Nat) : ByteArray := ⟨(128 :: List.replicate j 0).toArray⟩
theorem padT_size (j : Nat) : (padT j).size = j + 1 := by
  show (128 :: List.replicate j 0).toArray.size = _
  simp
theorem padT_step (t : ByteArray) (j : Nat) (ht : t = padT j) : t ++ ⟨#[UInt8.ofNat 0]⟩ = padT (j + 1) := by
  subst ht
  apply ByteArray.ext
  simp [padT, List.replicate_succ']
theorem padT_end (n j : Nat) (t : ByteArray) (ht : t = padT j) (hj : j = zeros n) : t ++ beS 8 (n * 8 % 18446744073709551616) = padS n := by
  subst ht; subst hj
  apply ByteArray.ext
  simp [padT, padS, beS]

set_option maxHeartbeats 400000 in
theorem refPad_any (n : Nat) (w : World) (hn : n < 18446744073709551616) :
    Calls Tryd.prog 58 #[.int .u64 n] w fun e w' => e = .returned (.string (padS n)) ∧ Grown w w' := by
  have hz := zeros_le n
  go_enter Tryd.func58, Tryd.ntmps58
  go_wp2_with fail
  refine (byte_any 128 _ (by omega)).mono ?_
  rintro e w1 ⟨rfl, hg⟩
  have HG := Lib.hid hg
  clear hg
  go_wp2_with fail
  go_loopw [3] (fun a wr => ∃ (j : Nat) (t : ByteArray), j ≤ zeros n ∧ a = .string t ∧ t.size = j + 1 ∧ Hid (t = padT j) ∧ Hid (Grown w wr)) (fun a _ => 64 - strSize a)
  case atStart => exact ⟨0, _, by omega, rfl, rfl, Lib.hid rfl, HG⟩
  case round =>
    clear HG
    obtain ⟨j, t, hj, rfl, hts, HT, HG⟩ := hrel
    by_cases hz2 : j = zeros n
    · have ht : (((n : Int) % 64 + ((j : Int) + 1) + 8) % 64 != 0) = false := by
        have h2 : ((n : Int) % 64 + ((j : Int) + 1) + 8) % 64 = 0 := by rw [hz2]; unfold zeros; omega
        rw [h2]; rfl
      have HZ := Lib.hid hz2
      clear hz2
      have hm : IntKind.u64.wrap ((n : Int) * 8) = ((n * 8 % 18446744073709551616 : Nat) : Int) := by rw [IntKind.wrap_u64]; omega
      obtain ⟨m, hm2⟩ : ∃ m, m = n * 8 % 18446744073709551616 := ⟨_, rfl⟩
      have hml : m < 18446744073709551616 := by omega
      have HE := Lib.hid (padT_end n j t HT.out HZ.out)
      rw [← hm2] at hm HE
      clear hm2
      go_wp2_with fail
      refine (refPut_any m 8 _ hml (by omega)).mono ?_
      rintro e w2 ⟨rfl, hg⟩
      have HS := beS_size 8 m
      go_wp2_with fail
      go_ret
      exact ⟨ret_str HE.out, Grown.trans HG.out hg⟩
    · have hlt : j < zeros n := by omega
      have ht : (((n : Int) % 64 + ((j : Int) + 1) + 8) % 64 != 0) = true := by
        have h2 : ((n : Int) % 64 + ((j : Int) + 1) + 8) % 64 ≠ 0 := by unfold zeros at hlt; omega
        simpa using h2
      go_wp2_with fail
      refine (byte_any 0 _ (by omega)).mono ?_
      rintro e w2 ⟨rfl, hg⟩
      go_wp2_with fail
      go_roundw
      case rel => exact ⟨j + 1, _, by omega, rfl, by rw [ByteArray.size_append, hts]; rfl, Lib.hid (padT_step t j HT.out), Lib.hid (Grown.trans HG.out hg)⟩
      case measure => simp only [strSize, ByteArray.size_append, hts]; show 64 - (j + 1 + 1) < 64 - (j + 1); omega

theorem info32 (l : List UInt8) : (Tryd.prog.info? 31).map (·.size) = some (bC 32 l).size := by rw [bC_size]; kernel_rfl

set_option maxRecDepth 100000 in
set_option maxHeartbeats 2000000 in
theorem refSum_any (b : ByteArray) (w : World) (hb : b.size ≤ 140737488351232) :
    Calls Tryd.prog 43 #[.string b] w fun e w' => e = .returned (.agg (bC 32 (shaL b))) ∧ Grown w w' := by
  have hp : (padS b.size).size ≤ 72 := by rw [padS_size]; have := zeros_le b.size; omega
  have HSZ : Hid (∃ m, (b ++ padS b.size).size = 64 * m ∧ shaL b = bytesW (sumW (b ++ padS b.size) m)) := Lib.hid (by
    have h1 := pad_whole b.size
    have h2 : (b ++ padS b.size).size = b.size + (9 + zeros b.size) := by rw [ByteArray.size_append, padS_size]
    refine ⟨(b ++ padS b.size).size / 64, by omega, rfl⟩)
  have htl : Hid ((b ++ padS b.size).size ≤ 140737488351304) := Lib.hid (by rw [ByteArray.size_append]; omega)
  go_enter Tryd.func43, Tryd.ntmps43
  go_wp2_with fail
  refine (refFirst_any _).mono ?_
  rintro e w1 ⟨rfl, hg⟩
  have R2 : Hid (Rowz w1 w.heap.size (bC 32 []) 31) := Lib.hid (Rowz.grown (w := _) (by exact Rowz.newEq w _ _ _ (by kernel_rfl)) hg)
  have G0 : Hid (Grown w w1) := Lib.hid (Grown.trans (b := _) (by exact (Grown.refl _).alloc _ _) hg)
  have hs1 : w.heap.size < w1.heap.size := R2.out.lt
  clear hg
  go_wp2_with (first
    | (refine wpList_store_row rfl 71 _ _ rfl w1.heap.size (wC 8 first8) rfl rfl 71 _ (Rowz.new w1 _ _) (info8 _) (by rw [wC_size]; rfl) (wC_one _ _) ?_; rw [World.setRow_alloc_new])
    | (go_at_call 58; refine (refPad_any b.size _ (by omega)).mono ?_; rintro e w2 ⟨rfl, hg⟩))
  have R3 : Hid (Rowz w2 w1.heap.size (wC 8 first8) 71) := Lib.hid (Rowz.grown (Rowz.new w1 _ _) hg)
  replace R2 : Hid (Rowz w2 w.heap.size (bC 32 []) 31) := Lib.hid (Rowz.grown (R2.out.alloc _) hg)
  replace G0 : Hid (Grown w w2) := Lib.hid (Grown.trans (G0.out.alloc _ _) hg)
  clear hg
  obtain ⟨t, ht⟩ : ∃ t, t = b ++ padS b.size := ⟨_, rfl⟩
  rw [← ht] at HSZ htl ⊢
  clear ht hp
  obtain ⟨m, hm, hsh⟩ := HSZ.out
  have htl2 : t.size ≤ 140737488351304 := htl.out
  have HSH := Lib.hid hsh
  have HM := Lib.hid hm
  clear hsh HSZ htl hm
  go_loopw [4] (fun i wr => ∃ (j p : Nat), p ≤ t.size ∧ i = .int .i64 (p : Int) ∧ Hid (p = 64 * j) ∧ Hid (Rowz wr w1.heap.size (wC 8 (sumW t j)) 71) ∧ Hid (Rowz wr w.heap.size (bC 32 []) 31) ∧ Hid (Grown w wr)) (fun i _ => t.size - (intOf i).toNat)
  case atStart => exact ⟨0, 0, by omega, rfl, Lib.hid rfl, R3, R2, G0⟩
  case round =>
    clear R3 R2 G0
    obtain ⟨j, p, hj, rfl, HP, R3, R2, G0⟩ := hrel
    by_cases hlt : p < t.size
    · have hdt : decide ((p : Int) < (t.size : Int)) = true := by simp; omega
      have hp64 : p + 64 ≤ t.size := by have := HP.out; have := HM.out; omega
      go_wp2_with fail
      refine wp_region_still_tail 6 (by kernel_rfl) (by kernel_rfl) ?_
      simp only [List.take_succ_cons, List.take_zero, List.drop_succ_cons, List.drop_zero]
      change wpStill _ _ wr.drew (fun a' => wpList _ _ _ _ a' wr.drew) _ _
      replace R3 : Hid (Rowz wr.drew w1.heap.size (wC 8 (sumW t j)) 71) := R3
      replace R2 : Hid (Rowz wr.drew w.heap.size (bC 32 []) 31) := R2
      replace G0 : Hid (Grown w wr.drew) := G0
      generalize wr.drew = w3 at R3 R2 G0 ⊢
      refine wpStill_load_row rfl 71 _ rfl w1.heap.size rfl 71 (wC 8 (sumW t j)) (0, 0) _ R3.out Tryd.underlying71 rfl (info8 _) ?_
      have hw64 : IntKind.i64.wrap ((p : Int) + 64) = (p : Int) + 64 := IntWalk.i64_in _ (by omega)
      have hle : (p : Int) + 64 ≤ (t.size : Int) := by omega
      have hle2 : (p : Int) ≤ (p : Int) + 64 := by omega
      have hle3 : (0 : Int) ≤ (p : Int) + 64 := by omega
      have hto : ((p : Int) + 64).toNat = p + 64 := by omega
      repeat still_step
      refine wpStill_nil ?_
      clear hw64 hle hle2 hle3 hto
      have hsx : (t.extract p (p + 64)).size ≤ maxLen := by rw [ByteArray.size_extract]; unfold maxLen; omega
      have HSX : Hid (sumW t (j + 1) = mixW (sumW t j) (t.extract p (p + 64))) := Lib.hid (by rw [HP.out]; rfl)
      go_wp2_with (first
        | (go_at_call 59; refine (refMix_any (sumW t j) (t.extract p (p + 64)) _ hsx (sumW_length t j) (sumW_lt t j)).mono ?_; rintro e w4 ⟨rfl, hg⟩)
        | (refine wpList_store_row rfl 71 _ _ rfl w1.heap.size (wC 8 (mixW (sumW t j) (t.extract p (p + 64)))) rfl rfl 71 _ (R3.out.grown hg) (info8 _) (by simp [wC_size]) (wC_one _ _) ?_))
      go_roundw
      case rel =>
        refine ⟨j + 1, p + 64, by omega, by go_num, Lib.hid (by have := HP.out; omega), Lib.hid ?_, Lib.hid ((R2.out.grown hg).rowOther (by omega)), Lib.hid (Grown.setRow (Grown.trans G0.out hg) (R3.out.grown hg) (by omega) _)⟩
        rw [HSX.out]
        exact (R3.out.grown hg).row
      case measure => simp [intOf]; omega
    · have HF : Hid (Rowz wr w1.heap.size (wC 8 (sumW t m)) 71) := by
        have e : j = m := by have := HP.out; have := HM.out; omega
        rw [← e]; exact R3
      have HL8 := Lib.hid (sumW_length t m)
      have HB8 := Lib.hid (sumW_lt t m)
      obtain ⟨S, hS⟩ : ∃ S, S = sumW t m := ⟨_, rfl⟩
      rw [← hS] at HF HSH HL8 HB8
      clear hS R3 HP HM
      have hdt : decide ((p : Int) < (t.size : Int)) = false := by simp; omega
      go_wp2_with fail
      have hsw : w1.heap.size < wr.heap.size := HF.out.lt
      have N5 : Hid (Rowz (wr.alloc (.cells (bC 32 []) 31)) wr.heap.size (bC 32 []) 31) := Lib.hid (Rowz.new wr _ _)
      replace HF : Hid (Rowz (wr.alloc (.cells (bC 32 []) 31)) w1.heap.size (wC 8 S) 71) := Lib.hid (HF.out.alloc _)
      replace R2 : Hid (Rowz (wr.alloc (.cells (bC 32 []) 31)) w.heap.size (bC 32 []) 31) := Lib.hid (R2.out.alloc _)
      replace G0 : Hid (Grown w (wr.alloc (.cells (bC 32 []) 31))) := Lib.hid (G0.out.alloc _ _)
      obtain ⟨g5, hg5⟩ : ∃ g, wr.heap.size = g := ⟨_, rfl⟩
      rw [hg5] at hsw N5 ⊢
      clear hg5
      go_loopw [6] (fun i v => ∃ (k : Nat), k ≤ 8 ∧ i = .int .i64 (k : Int) ∧ Hid (Rowz v w1.heap.size (wC 8 S) 71) ∧ Hid (Rowz v w.heap.size (bC 32 []) 31) ∧ Hid (Rowz v g5 (bC 32 (bytesW (S.take k))) 31) ∧ Hid (Grown w v)) (fun i _ => 8 - (intOf i).toNat)
      case atStart => exact ⟨0, by omega, rfl, HF, R2, N5, G0⟩
      case round =>
        clear HF R2 G0 N5
        obtain ⟨k, hk8, rfl, HF, R2, R5, G0⟩ := hrel
        by_cases hk : k < 8
        · have hdk : decide ((k : Int) < 8) = true := by simp; omega
          have hck := HF.out.word k hk
          have hxl := getD_lt S HB8.out k
          have HTK : Hid (S.take (k + 1) = S.take k ++ [S.getD k 0]) := Lib.hid (by
            rw [List.take_succ_eq_append_getElem (by rw [HL8.out]; exact hk), List.getD_eq_getElem?_getD, List.getElem?_eq_getElem (by rw [HL8.out]; exact hk)]; rfl)
          have HBL : Hid ((bytesW (S.take k)).length = 4 * k) := Lib.hid (by rw [bytesW_length, List.length_take, HL8.out]; omega)
          obtain ⟨x, hx⟩ : ∃ x, x = S.getD k 0 := ⟨_, rfl⟩
          rw [← hx] at hck hxl HTK
          clear hx
          go_wp2_with fail
          refine (refPut_any x 4 _ (by omega) (by omega)).mono ?_
          rintro e v2 ⟨rfl, hg⟩
          obtain ⟨u, hu⟩ : ∃ u, u = beS 4 x := ⟨_, rfl⟩
          rw [← hu]
          have hus : u.size = 4 := by rw [hu, beS_size]
          have HU := Lib.hid hu
          clear hu
          replace HF := Lib.hid (HF.out.grown hg)
          replace R2 := Lib.hid (R2.out.grown hg)
          replace R5 := Lib.hid (R5.out.grown hg)
          replace G0 := Lib.hid (Grown.trans G0.out hg)
          clear hg hck
          go_wp2_with fail
          go_loopw [8] (fun i v => ∃ (q : Nat), q ≤ 4 ∧ i = .int .i64 (q : Int) ∧ Hid (Rowz v w1.heap.size (wC 8 S) 71) ∧ Hid (Rowz v w.heap.size (bC 32 []) 31) ∧ Hid (Rowz v g5 (bC 32 (bytesW (S.take k) ++ (be 4 x).take q)) 31) ∧ Hid (Grown w v)) (fun i _ => 4 - (intOf i).toNat)
          case atStart => exact ⟨0, by omega, rfl, HF, R2, by simpa using R5, G0⟩
          case round =>
            clear HF R2 R5 G0
            obtain ⟨q, hq4, rfl, HF, R2, R5, G0⟩ := hrel
            by_cases hq : q < 4
            · have hdq : decide ((q : Int) < 4) = true := by simp; omega
              have hcc := R5.out.byte (4 * k + q) (by omega)
              have hff := R5.out.free (4 * k + q)
              go_wp2
              go_roundw
              case rel =>
                have HTQ : (be 4 x).take (q + 1) = (be 4 x).take q ++ [u[q]] := by
                  rw [List.take_succ_eq_append_getElem (by rw [be_length]; exact hq)]
                  congr 2
                  have e : u.data = (be 4 x).toArray := by rw [HU.out]; rfl
                  show _ = u.data[q]'_
                  simp only [e, List.getElem_toArray]
                refine ⟨q + 1, by omega, by go_num, Lib.hid (HF.out.other _ _ (by simp; omega)), Lib.hid (R2.out.other _ _ (by simp; omega)), Lib.hid ?_, Lib.hid (G0.out.setCell (by simp; omega) _)⟩
                rw [HTQ, ← List.append_assoc]
                exact R5.out.pushB _ (by rw [List.length_append, HBL.out, List.length_take, be_length]; omega) _ _ rfl
              case measure => simp [intOf]; omega
            · have hdq : decide ((q : Int) < 4) = false := by simp; omega
              have R5' : Hid (Rowz wr g5 (bC 32 (bytesW (S.take (k + 1)))) 31) := by
                have e : q = 4 := by omega
                rw [HTK.out, bytesW_snoc]
                rw [e, List.take_of_length_le (l := be 4 x) (by rw [be_length]; exact Nat.le_refl _)] at R5
                exact R5
              go_wp2
              go_roundw
              case rel => exact ⟨k + 1, by omega, by go_num, HF, R2, R5', G0⟩
              case measure => simp [intOf]; omega
        · have hdk : decide ((k : Int) < 8) = false := by simp; omega
          have R5' : Hid (Rowz wr g5 (bC 32 (shaL b)) 31) := by
            have e : k = 8 := by omega
            rw [HSH.out]
            rw [e, List.take_of_length_le (by rw [HL8.out]; exact Nat.le_refl _)] at R5
            exact R5
          go_wp2_with (first
            | (refine wpList_load_row rfl 31 _ rfl g5 rfl 31 (bC 32 (shaL b)) (0, 0) _ R5'.out Tryd.underlying31 rfl (info32 _) ?_)
            | (refine wpList_store_row rfl 31 _ _ rfl w.heap.size (bC 32 (shaL b)) rfl rfl 31 (bC 32 []) R2.out (info32 _) (by simp [bC_size]) (bC_one _ _) ?_))
          refine bodyPost_ret (v := .agg (bC 32 (shaL b))) (results_cell_row Tryd.results43 _ _ w.heap.size 31 _ (0, 0) _ rfl R2.out.row Tryd.underlying31 rfl (info32 _)) rfl ⟨rfl, ?_⟩
          exact Grown.setRow G0.out R2.out (Nat.le_refl _) _
end Go.Proofs.YtlfkkfacbcpogaaDoor
namespace Go.Proofs.YtlfkkfacbcpogaaDoor
set_option maxRecDepth 4000
open Go.RowKit

theorem rot_still (x : Nat) (n : Int) (w : World) (hx : x < 4294967296) (h0 : 0 ≤ n) (hk : n < 32) :
    Calls Tryd.prog 81 #[.int .u32 x, .int .i64 n] w fun e w'' => e = .returned (.int .u32 (rotr x n.toNat : Nat)) ∧ w'' = w := by
  refine (rot_any x n w hx).mono fun _ _ ⟨he, hw⟩ => ⟨?_, hw.symm⟩
  rw [he, show n % 32 = n by omega]

theorem info8W (l : List Nat) : (Tryd.prog.info? 76).map (·.size) = some (wC 8 l).size := by rw [wC_size]; kernel_rfl

set_option maxHeartbeats 400000 in
theorem shaFirst_any (w : World) :
    Calls Tryd.prog 73 #[] w fun e w' => e = .returned (.agg (wC 8 first8)) ∧ Grown w w' := by
  go_enter Tryd.func73, Tryd.ntmps73
  go_wp2
  exact bodyPost_ret (v := .agg (wC 8 first8)) (results_cell_row Tryd.results73 _ _ w.heap.size 76 (wC 8 first8) (0, 0) _ rfl (Rowz.newEq w _ _ _ (by kernel_rfl)) Tryd.underlying76 rfl (info8W _)) rfl ⟨rfl, (Grown.refl _).alloc _ _⟩

theorem nxt_valS (x16 x15 x7 x2 : Nat) (b15 : x15 < 4294967296) (b2 : x2 < 4294967296) :
    ((x16 : Int) + (x7 : Int) + bits .xor .u32 (bits .xor .u32 ((rotr x15 7 : Nat) : Int) ((rotr x15 18 : Nat) : Int)) ((x15 : Int) / 8) +
      bits .xor .u32 (bits .xor .u32 ((rotr x2 17 : Nat) : Int) ((rotr x2 19 : Nat) : Int)) ((x2 : Int) / 1024)) % 4294967296 = (((x16 + sg0 x15 + x7 + sg1 x2) % 4294967296 : Nat) : Int) := by
  rw [← nxt_val x16 x15 x7 x2 b15 b2]
  congr 1
  omega

set_option maxHeartbeats 1000000 in
theorem shaSpread_any (s : ByteArray) (w : World) (hs : s.size ≤ maxLen) :
    Calls Tryd.prog 75 #[.string s] w fun e w' => e = .returned (.agg (wC 64 (spread s))) ∧ Grown w w' := by
  go_enter Tryd.func75, Tryd.ntmps75
  go_wp2
  go_loopw [8] (fun i wr => ∃ (k : Nat), k ≤ 16 ∧ i = .int .i64 k ∧ Hid (Rowz wr (w.heap.size + 1) (wC 64 (wl s k)) 87) ∧ Hid (Rowz wr w.heap.size (wC 64 []) 87) ∧ Hid (Grown w wr)) (fun i _ => 16 - (intOf i).toNat)
  case atStart => exact ⟨0, by omega, rfl, Lib.hid (Rowz.newEq1 w _ _ _ _ (by kernel_rfl)), Lib.hid ((Rowz.newEq w _ _ _ (by kernel_rfl)).alloc _), Lib.hid (((Grown.refl _).alloc _ _).alloc _ _)⟩
  case round =>
    obtain ⟨k, hk, rfl, HR, HZ, HG⟩ := hrel
    by_cases hlt : k < 16
    · have hcell : wr.cell? ⟨w.heap.size + 1, k, none⟩ = some (.int .u32 (((wl s k).getD k 0 : Nat) : Int)) := by
        rw [HR.out.cell, wC_get 64 _ k (by omega)]
      have hfr : wr.frozen? ⟨w.heap.size + 1, k, none⟩ = false := HR.out.free k
      have h4 : tkz s ((4 * k : Nat) : Int) 4 < 4294967296 := tkz_lt s _ 4
      go_wp2_with (go_at_call 82; refine (take32_any s ((4 * k : Nat) : Int) _ hs (by omega) (by omega)).mono ?_; rintro e w' ⟨rfl, rfl⟩)
      go_roundw
      case rel =>
        have e4 : (4 * (k : Int)) = ((4 * k : Nat) : Int) := by omega
        rw [e4]
        refine ⟨k + 1, by omega, by go_num, Lib.hid ?_, Lib.hid (HZ.out.other _ _ (by simp)), Lib.hid (HG.out.setCell (by simp) _)⟩
        rw [spread_step s k hlt]
        exact HR.out.push k (wl_length s k) _ _ (by omega)
      case measure => simp [intOf]; omega
    · have HR16 : Hid (Rowz wr (w.heap.size + 1) (wC 64 (wl s 16)) 87) := by rw [show (16 : Nat) = k by omega]; exact HR
      clear HR
      have hd : decide ((k : Int) < 16) = false := by simp; omega
      go_wp2_with fail
      go_loopw [5] (fun i wr => ∃ (k : Nat), 16 ≤ k ∧ k ≤ 64 ∧ i = .int .i64 k ∧ Hid (Rowz wr (w.heap.size + 1) (wC 64 (wl s k)) 87) ∧ Hid (Rowz wr w.heap.size (wC 64 []) 87) ∧ Hid (Grown w wr)) (fun i _ => 64 - (intOf i).toNat)
      case atStart => exact ⟨16, by omega, by omega, rfl, HR16, HZ, HG⟩
      case round =>
        clear HR16 HZ HG
        obtain ⟨k, hk16, hk64, rfl, HR, HZ, HG⟩ := hrel
        by_cases hlt : k < 64
        · have hc15 := HR.out.word (k - 15) (by omega)
          have hc2 := HR.out.word (k - 2) (by omega)
          have hc16 := HR.out.word (k - 16) (by omega)
          have hc7 := HR.out.word (k - 7) (by omega)
          have hcell := HR.out.word k (by omega)
          have hfr := HR.out.free k
          have hall := wl_lt s k
          have b15 := getD_lt _ hall (k - 15)
          have b2 := getD_lt _ hall (k - 2)
          have b16 := getD_lt _ hall (k - 16)
          have b7 := getD_lt _ hall (k - 7)
          obtain ⟨x15, e15⟩ : ∃ x, x = (wl s k).getD (k - 15) 0 := ⟨_, rfl⟩
          obtain ⟨x2, e2⟩ : ∃ x, x = (wl s k).getD (k - 2) 0 := ⟨_, rfl⟩
          obtain ⟨x16, e16⟩ : ∃ x, x = (wl s k).getD (k - 16) 0 := ⟨_, rfl⟩
          obtain ⟨x7, e7⟩ : ∃ x, x = (wl s k).getD (k - 7) 0 := ⟨_, rfl⟩
          rw [← e15] at hc15 b15
          rw [← e2] at hc2 b2
          rw [← e16] at hc16 b16
          rw [← e7] at hc7 b7
          have HN : Hid (nxt (wl s k) = (x16 + sg0 x15 + x7 + sg1 x2) % 4294967296) := Lib.hid (by
            unfold nxt; rw [wl_length, ← e15, ← e2, ← e16, ← e7])
          clear e15 e2 e16 e7 hall
          have hd : decide ((k : Int) < 64) = true := by simp; omega
          go_wp2_with fail
          go_quiet (fail)
          replace HR : Hid (Rowz (wr.drewN nq) (w.heap.size + 1) (wC 64 (wl s k)) 87) := HR
          replace HZ : Hid (Rowz (wr.drewN nq) w.heap.size (wC 64 []) 87) := HZ
          replace HG : Hid (Grown w (wr.drewN nq)) := HG
          replace hc16 : (wr.drewN nq).cell? ⟨w.heap.size + 1, k - 16, none⟩ = some (.int .u32 (x16 : Int)) := hc16
          replace hc7 : (wr.drewN nq).cell? ⟨w.heap.size + 1, k - 7, none⟩ = some (.int .u32 (x7 : Int)) := hc7
          replace hcell : (wr.drewN nq).cell? ⟨w.heap.size + 1, k, none⟩ = some (.int .u32 (((wl s k).getD k 0 : Nat) : Int)) := hcell
          replace hfr : (wr.drewN nq).frozen? ⟨w.heap.size + 1, k, none⟩ = false := hfr
          clear hc15 hc2
          generalize wr.drewN nq = w3 at HR HZ HG hc16 hc7 hcell hfr ⊢
          go_wp2_with fail
          refine wp_region_still_tail 29 (by kernel_rfl) (by kernel_rfl) ?_
          simp only [List.take_succ_cons, List.take_zero, List.drop_succ_cons, List.drop_zero]
          change wpStill _ _ w3.drew (fun a' => wpList _ _ _ _ a' w3.drew) _ _
          replace HR : Hid (Rowz w3.drew (w.heap.size + 1) (wC 64 (wl s k)) 87) := HR
          replace HZ : Hid (Rowz w3.drew w.heap.size (wC 64 []) 87) := HZ
          replace HG : Hid (Grown w w3.drew) := HG
          replace hc16 : w3.drew.cell? ⟨w.heap.size + 1, k - 16, none⟩ = some (.int .u32 (x16 : Int)) := hc16
          replace hc7 : w3.drew.cell? ⟨w.heap.size + 1, k - 7, none⟩ = some (.int .u32 (x7 : Int)) := hc7
          replace hcell : w3.drew.cell? ⟨w.heap.size + 1, k, none⟩ = some (.int .u32 (((wl s k).getD k 0 : Nat) : Int)) := hcell
          replace hfr : w3.drew.frozen? ⟨w.heap.size + 1, k, none⟩ = false := hfr
          generalize w3.drew = w2 at HR HZ HG hc16 hc7 hcell hfr ⊢
          have hw16 : IntKind.i64.wrap ((k : Int) - 16) = ((k - 16 : Nat) : Int) := by rw [IntWalk.i64_in _ (by omega)]; omega
          have hw7 : IntKind.i64.wrap ((k : Int) - 7) = ((k - 7 : Nat) : Int) := by rw [IntWalk.i64_in _ (by omega)]; omega
          have hb16 : ((k - 16 : Nat) : Int) < 64 := by omega
          have hb7 : ((k - 7 : Nat) : Int) < 64 := by omega
          have hbk : (k : Int) < 64 := by omega
          repeat (first
            | still_step
            | (refine wpStill_step (fun K hK => ?_); go_simp; refine ⟨_, rot_still _ _ _ (by assumption) (by decide) (by decide), hK _ ?_⟩; clear hK K))
          refine wpStill_nil ?_
          clear hw16 hw7
          go_wp2_with fail
          go_roundw
          case rel =>
            refine ⟨k + 1, by omega, by omega, by go_num, Lib.hid ?_, Lib.hid (HZ.out.other _ _ (by simp)), Lib.hid (HG.out.setCell (by simp) _)⟩
            rw [spread_step' s k hk16, HN.out]
            exact HR.out.push k (wl_length s k) _ _ (nxt_valS x16 x15 x7 x2 b15 b2)
          case measure => simp [intOf]; omega
        · have e64 : k = 64 := by omega
          rw [e64] at HR
          have hd : decide ((k : Int) < 64) = false := by simp; omega
          go_wp2_with (first
            | (refine wpList_load_row rfl 87 _ rfl (w.heap.size + 1) rfl 87 (wC 64 (wl s 64)) (0, 0) _ HR.out Tryd.underlying87 rfl (info64 _) ?_)
            | (refine wpList_store_row rfl 87 _ _ rfl w.heap.size (wC 64 (wl s 64)) rfl rfl 87 (wC 64 []) HZ.out (info64 _) (by simp [wC_size]) (wC_one _ _) ?_))
          refine bodyPost_ret (v := .agg (wC 64 (wl s 64))) (results_cell_row Tryd.results75 _ _ w.heap.size 87 _ (0, 0) _ rfl HZ.out.row Tryd.underlying87 rfl (info64 _)) rfl ⟨rfl, ?_⟩
          exact Grown.setRow HG.out HZ.out (Nat.le_refl _) _
end Go.Proofs.YtlfkkfacbcpogaaDoor
namespace Go.Proofs.YtlfkkfacbcpogaaDoor
set_option maxRecDepth 4000
open Go.RowKit

/-- The package's variable 'rounds' holds the round constants. -/
def Tab (w : World) : Prop := ∀ i, i < 64 → w.cell? ⟨0, i, none⟩ = some (.int .u32 ((rks.getD i 0 : Nat) : Int))
theorem Tab.pos {w : World} (h : Tab w) : 0 < w.heap.size := by
  have h0 := h 0 (by decide)
  by_cases e : 0 < w.heap.size
  · exact e
  · exfalso
    have : w.heap[0]? = none := Array.getElem?_eq_none (by omega)
    simp [World.cell?, this] at h0
theorem Tab.grown {w w' : World} (h : Tab w) (g : Grown w w') : Tab w' := by
  intro i hi
  rw [← h i hi]
  simp only [World.cell?]
  rw [Grown.block g 0 h.pos]
theorem Tab.alloc {w : World} (h : Tab w) (o : Obj) : Tab (w.alloc o) := by
  intro i hi
  rw [← h i hi]
  simp only [World.cell?]
  rw [Below.heap_alloc w o 0 h.pos]
theorem Tab.setRow {w : World} (h : Tab w) (g : Nat) (D : Array Value) (hg : 0 ≠ g) : Tab (w.setRow g D) := by
  intro i hi
  rw [← h i hi]
  simp only [World.cell?]
  rw [setRow_other w g 0 D hg]
theorem Tab.setCell {w : World} (h : Tab w) (a : Addr) (v : Value) (hg : 0 ≠ a.block) : Tab (w.setCell a v) := by
  intro i hi
  rw [← h i hi]
  simp only [World.cell?]
  rw [heap_setCell_other w a 0 v hg]

theorem not32 (e : Nat) (he : e < 4294967296) : bits .xor .u32 (if IntKind.u32.signed = true then -1 else IntKind.u32.max) (e : Int) = ((4294967295 - e : Nat) : Int) := by
  have h1 : (if IntKind.u32.signed = true then -1 else IntKind.u32.max : Int) = ((4294967295 : Nat) : Int) := by decide
  rw [h1, xor32 _ _ (by decide) he]
  have h2 : (BitVec.allOnes 32 ^^^ BitVec.ofNat 32 e).toNat = 4294967295 - e := by
    rw [BitVec.allOnes_xor, BitVec.toNat_not, BitVec.toNat_ofNat, Nat.mod_eq_of_lt (by omega)]
  have h3 : (4294967295 ^^^ e : Nat) = 4294967295 - e := by
    rw [← h2, BitVec.toNat_xor, BitVec.toNat_ofNat, Nat.mod_eq_of_lt (a := e) (by omega)]
    rfl
  rw [h3]
theorem tt_valS (e f g h k x : Nat) (be_ : e < 4294967296) (bf : f < 4294967296) (bg : g < 4294967296) :
    (((h : Int) + (k : Int) + (x : Int) + bits .xor .u32 (bits .xor .u32 ((rotr e 6 : Nat) : Int) ((rotr e 11 : Nat) : Int)) ((rotr e 25 : Nat) : Int)) % 4294967296 +
      bits .xor .u32 (bits .and .u32 (e : Int) (f : Int)) (bits .and .u32 (bits .xor .u32 (if IntKind.u32.signed = true then -1 else IntKind.u32.max) (e : Int)) (g : Int))) % 4294967296 = ((tt e f g h k x : Nat) : Int) := by
  have r6 := rotr_lt e 6 be_
  have r11 := rotr_lt e 11 be_
  have r25 := rotr_lt e 25 be_
  rw [not32 e be_, xor32 _ _ r6 r11, xor32 _ _ (xor_lt _ _ r6 r11) r25, and32 _ _ be_ bf, and32 _ _ (by omega) bg, xor32 _ _ (and_lt _ _ be_) (and_lt _ _ (by omega))]
  unfold tt
  omega

set_option maxRecDepth 100000 in
set_option maxHeartbeats 2000000 in
theorem runRounds_any (l W : List Nat) (w : World) (hl : l.length = 8) (hlt : ∀ x ∈ l, x < 4294967296) (hW : ∀ x ∈ W, x < 4294967296) (ht : Tab w) :
    Calls Tryd.prog 74 #[.agg (wC 8 l), .agg (wC 64 W)] w fun e w' => e = .returned (.agg (wC 8 (rnds W l 64))) ∧ Grown w w' := by
  obtain ⟨a, b, c, d, e, f, g, h, rfl⟩ := eight l hl
  clear hl
  have ba : a < 4294967296 := hlt a (by simp)
  have bb : b < 4294967296 := hlt b (by simp)
  have bc : c < 4294967296 := hlt c (by simp)
  have bd : d < 4294967296 := hlt d (by simp)
  have be_ : e < 4294967296 := hlt e (by simp)
  have bf : f < 4294967296 := hlt f (by simp)
  have bg : g < 4294967296 := hlt g (by simp)
  have bh : h < 4294967296 := hlt h (by simp)
  clear hlt
  have HWL := Lib.hid hW
  clear hW
  have HT := Lib.hid ht
  clear ht
  obtain ⟨L, hL⟩ : ∃ L, L = [a, b, c, d, e, f, g, h] := ⟨_, rfl⟩
  rw [← hL]
  have HL := Lib.hid hL
  clear hL
  go_enter Tryd.func74, Tryd.ntmps74
  go_wp2_with fail
  have A0 : Hid (Rowz (((w.alloc (.cells (wC 8 L) 76)).alloc (.cells (wC 64 W) 87)).alloc (.cells #[.int .u32 0, .int .u32 0, .int .u32 0, .int .u32 0, .int .u32 0, .int .u32 0, .int .u32 0, .int .u32 0] 76)) w.heap.size (wC 8 L) 76) :=
    Lib.hid (((Rowz.new w _ _).alloc _).alloc _)
  have A1 : Hid (Rowz (((w.alloc (.cells (wC 8 L) 76)).alloc (.cells (wC 64 W) 87)).alloc (.cells #[.int .u32 0, .int .u32 0, .int .u32 0, .int .u32 0, .int .u32 0, .int .u32 0, .int .u32 0, .int .u32 0] 76)) (w.heap.size + 1) (wC 64 W) 87) :=
    Lib.hid ((Rowz.newEq1 w _ _ _ _ rfl).alloc _)
  have A2 : Hid (Rowz (((w.alloc (.cells (wC 8 L) 76)).alloc (.cells (wC 64 W) 87)).alloc (.cells #[.int .u32 0, .int .u32 0, .int .u32 0, .int .u32 0, .int .u32 0, .int .u32 0, .int .u32 0, .int .u32 0] 76)) (w.heap.size + 1 + 1) (wC 8 []) 76) :=
    Lib.hid (by have := Rowz.newEq1 (w.alloc (.cells (wC 8 L) 76)) (.cells (wC 64 W) 87) (.cells #[.int .u32 0, .int .u32 0, .int .u32 0, .int .u32 0, .int .u32 0, .int .u32 0, .int .u32 0, .int .u32 0] 76) (wC 8 []) 76 (by kernel_rfl); simpa using this)
  have A3 : Hid (Grown w (((w.alloc (.cells (wC 8 L) 76)).alloc (.cells (wC 64 W) 87)).alloc (.cells #[.int .u32 0, .int .u32 0, .int .u32 0, .int .u32 0, .int .u32 0, .int .u32 0, .int .u32 0, .int .u32 0] 76))) :=
    Lib.hid ((((Grown.refl w).alloc _ _).alloc _ _).alloc _ _)
  have A4 := Lib.hid (((HT.out.alloc (.cells (wC 8 L) 76)).alloc (.cells (wC 64 W) 87)).alloc (.cells #[.int .u32 0, .int .u32 0, .int .u32 0, .int .u32 0, .int .u32 0, .int .u32 0, .int .u32 0, .int .u32 0] 76))
  have hpos := HT.out.pos
  clear HT
  generalize ((w.alloc (.cells (wC 8 L) 76)).alloc (.cells (wC 64 W) 87)).alloc (.cells #[.int .u32 0, .int .u32 0, .int .u32 0, .int .u32 0, .int .u32 0, .int .u32 0, .int .u32 0, .int .u32 0] 76) = v at A0 A1 A2 A3 A4 ⊢
  rw [HL.out] at A0
  have hc0 : v.cell? ⟨w.heap.size, 0, none⟩ = some (.int .u32 (a : Int)) := A0.out.word 0 (by decide)
  have hc1 : v.cell? ⟨w.heap.size, 1, none⟩ = some (.int .u32 (b : Int)) := A0.out.word 1 (by decide)
  have hc2 : v.cell? ⟨w.heap.size, 2, none⟩ = some (.int .u32 (c : Int)) := A0.out.word 2 (by decide)
  have hc3 : v.cell? ⟨w.heap.size, 3, none⟩ = some (.int .u32 (d : Int)) := A0.out.word 3 (by decide)
  have hc4 : v.cell? ⟨w.heap.size, 4, none⟩ = some (.int .u32 (e : Int)) := A0.out.word 4 (by decide)
  have hc5 : v.cell? ⟨w.heap.size, 5, none⟩ = some (.int .u32 (f : Int)) := A0.out.word 5 (by decide)
  have hc6 : v.cell? ⟨w.heap.size, 6, none⟩ = some (.int .u32 (g : Int)) := A0.out.word 6 (by decide)
  have hc7 : v.cell? ⟨w.heap.size, 7, none⟩ = some (.int .u32 (h : Int)) := A0.out.word 7 (by decide)
  clear A0
  go_quiet (fail)
  clear hc0 hc1 hc2 hc3 hc4 hc5 hc6 hc7
  replace A1 : Hid (Rowz (v.drewN nq) (w.heap.size + 1) (wC 64 W) 87) := A1
  replace A2 : Hid (Rowz (v.drewN nq) (w.heap.size + 1 + 1) (wC 8 []) 76) := A2
  replace A3 : Hid (Grown w (v.drewN nq)) := A3
  replace A4 : Hid (Tab (v.drewN nq)) := A4
  generalize v.drewN nq = v2 at A1 A2 A3 A4 ⊢
  go_wp2_with fail
  go_loopw [5, 6, 7, 8, 9, 10, 11, 12, 32] (fun xa xb xc xd xe xf xg xh i wr => ∃ (k a b c d e f g h : Nat), k ≤ 64 ∧ i = .int .i64 k ∧ xa = .int .u32 a ∧ xb = .int .u32 b ∧ xc = .int .u32 c ∧ xd = .int .u32 d ∧ xe = .int .u32 e ∧ xf = .int .u32 f ∧ xg = .int .u32 g ∧ xh = .int .u32 h ∧
    a < 4294967296 ∧ b < 4294967296 ∧ c < 4294967296 ∧ d < 4294967296 ∧ e < 4294967296 ∧ f < 4294967296 ∧ g < 4294967296 ∧ h < 4294967296 ∧
    Hid (rnds W L k = [a, b, c, d, e, f, g, h]) ∧ Hid (Rowz wr (w.heap.size + 1) (wC 64 W) 87) ∧ Hid (Rowz wr (w.heap.size + 1 + 1) (wC 8 []) 76) ∧ Hid (Grown w wr) ∧ Hid (Tab wr)) (fun _ _ _ _ _ _ _ _ i _ => 64 - (intOf i).toNat)
  case atStart => exact ⟨0, a, b, c, d, e, f, g, h, by omega, rfl, rfl, rfl, rfl, rfl, rfl, rfl, rfl, rfl, ba, bb, bc, bd, be_, bf, bg, bh, HL, A1, A2, A3, A4⟩
  case round =>
    clear ba bb bc bd be_ bf bg bh A1 A2 A3 A4 HL
    obtain ⟨k, a, b, c, d, e, f, g, h, hk64, rfl, rfl, rfl, rfl, rfl, rfl, rfl, rfl, rfl, ba, bb, bc, bd, be_, bf, bg, bh, HL, A1, A2, A3, A4⟩ := hrel
    by_cases hk : k < 64
    · have hcw := A1.out.word k hk
      have hcr := A4.out k hk
      obtain ⟨x, hx⟩ : ∃ x, x = W.getD k 0 := ⟨_, rfl⟩
      obtain ⟨y, hy⟩ : ∃ y, y = rks.getD k 0 := ⟨_, rfl⟩
      have HN : Hid (rnds W L (k + 1) = rnd y x [a, b, c, d, e, f, g, h]) := Lib.hid (by
        show rnd (rks.getD k 0) (W.getD k 0) (rnds W L k) = _
        rw [HL.out, hx, hy])
      rw [← hx] at hcw
      rw [← hy] at hcr
      clear hx hy HL
      have hdk : decide ((k : Int) < 64) = true := by simp; omega
      have hki : (k : Int) < 64 := by omega
      go_wp2_with fail
      go_quiet ((go_at_call 81; exact Calls.quiet_of_same (rot_still _ _ _ (by assumption) (by decide) (by decide))))
      rw [tt_valS e f g h y x be_ bf bg]
      have TL : tt e f g h y x < 4294967296 := Nat.mod_lt _ (by decide)
      obtain ⟨T, hT⟩ : ∃ T, T = tt e f g h y x := ⟨_, rfl⟩
      rw [← hT] at TL ⊢
      have HT := Lib.hid hT
      clear hT hcw hcr
      replace A1 : Hid (Rowz (wr.drewN nq) (w.heap.size + 1) (wC 64 W) 87) := A1
      replace A2 : Hid (Rowz (wr.drewN nq) (w.heap.size + 1 + 1) (wC 8 []) 76) := A2
      replace A3 : Hid (Grown w (wr.drewN nq)) := A3
      replace A4 : Hid (Tab (wr.drewN nq)) := A4
      generalize wr.drewN nq = v3 at A1 A2 A3 A4 ⊢
      go_wp2_with (go_at_call 81; refine (rot_still _ _ _ (by assumption) (by decide) (by decide)).mono ?_; rintro e' w' ⟨rfl, rfl⟩)
      go_roundw
      case rel =>
        refine ⟨k + 1, (T + uu a b c) % 4294967296, a, b, c, (d + T) % 4294967296, e, f, g, by omega, by go_num, ?_, rfl, rfl, rfl, ?_, rfl, rfl, rfl, Nat.mod_lt _ (by decide), ba, bb, bc, Nat.mod_lt _ (by decide), be_, bf, bg, Lib.hid ?_, A1, A2, A3, A4⟩
        · rw [uu_val a b c ba bb bc]; congr 1
        · congr 1
        · rw [HN.out, HT.out]; rfl
      case measure => simp [intOf]; omega
    · have e64 : k = 64 := by omega
      rw [e64] at HL
      clear e64
      have hdk : decide ((k : Int) < 64) = false := by simp; omega
      go_wp2_with (refine wpList_store_row rfl 76 _ _ rfl (w.heap.size + 1 + 1) (wC 8 [a, b, c, d, e, f, g, h]) rfl rfl 76 (wC 8 []) A2.out (info8W _) (by simp [wC_size]) (wC_one _ _) ?_)
      rw [HL.out]
      refine bodyPost_ret (v := .agg (wC 8 [a, b, c, d, e, f, g, h])) (results_cell_row Tryd.results74 _ _ (w.heap.size + 1 + 1) 76 _ (0, 0) _ rfl A2.out.row Tryd.underlying76 rfl (info8W _)) rfl ⟨rfl, ?_⟩
      exact Grown.setRow A3.out A2.out (by omega) _
end Go.Proofs.YtlfkkfacbcpogaaDoor
namespace Go.Proofs.YtlfkkfacbcpogaaDoor
set_option maxRecDepth 4000
open Go.RowKit

/-- Eight words, all zero, as a new variable has them. -/
def z8 : Array Value := #[.int .u32 0, .int .u32 0, .int .u32 0, .int .u32 0, .int .u32 0, .int .u32 0, .int .u32 0, .int .u32 0]
theorem z8_eq : z8 = wC 8 [] := by kernel_rfl

set_option maxRecDepth 100000 in
set_option maxHeartbeats 2000000 in
theorem shaMix_any (l : List Nat) (s : ByteArray) (w : World) (hs : s.size ≤ maxLen) (hl : l.length = 8) (hlt : ∀ x ∈ l, x < 4294967296) (ht : Tab w) :
    Calls Tryd.prog 66 #[.agg (wC 8 l), .string s] w fun e w' => e = .returned (.agg (wC 8 (mixW l s))) ∧ Grown w w' := by
  go_enter Tryd.func66, Tryd.ntmps66
  go_wp2_with fail
  have A0 : Hid (Rowz ((w.alloc (.cells (wC 8 l) 76)).alloc (.cells #[.int .u32 0, .int .u32 0, .int .u32 0, .int .u32 0, .int .u32 0, .int .u32 0, .int .u32 0, .int .u32 0] 76)) w.heap.size (wC 8 l) 76) :=
    Lib.hid ((Rowz.new w _ _).alloc _)
  have A1 : Hid (Rowz ((w.alloc (.cells (wC 8 l) 76)).alloc (.cells #[.int .u32 0, .int .u32 0, .int .u32 0, .int .u32 0, .int .u32 0, .int .u32 0, .int .u32 0, .int .u32 0] 76)) (w.heap.size + 1) (wC 8 []) 76) :=
    Lib.hid (Rowz.newEq1 w _ _ _ _ (by kernel_rfl))
  have A3 : Hid (Grown w ((w.alloc (.cells (wC 8 l) 76)).alloc (.cells #[.int .u32 0, .int .u32 0, .int .u32 0, .int .u32 0, .int .u32 0, .int .u32 0, .int .u32 0, .int .u32 0] 76))) :=
    Lib.hid (((Grown.refl w).alloc _ _).alloc _ _)
  have hpos := ht.pos
  have A4 := Lib.hid ((ht.alloc (.cells (wC 8 l) 76)).alloc (.cells #[.int .u32 0, .int .u32 0, .int .u32 0, .int .u32 0, .int .u32 0, .int .u32 0, .int .u32 0, .int .u32 0] 76))
  have hv : ((w.alloc (.cells (wC 8 l) 76)).alloc (.cells #[.int .u32 0, .int .u32 0, .int .u32 0, .int .u32 0, .int .u32 0, .int .u32 0, .int .u32 0, .int .u32 0] 76)).heap.size = w.heap.size + 2 := by simp
  clear ht
  generalize (w.alloc (.cells (wC 8 l) 76)).alloc (.cells #[.int .u32 0, .int .u32 0, .int .u32 0, .int .u32 0, .int .u32 0, .int .u32 0, .int .u32 0, .int .u32 0] 76) = v at A0 A1 A3 A4 hv ⊢
  go_cut [5] from 7 to 10 (fun s5 wx => ∃ g, s5 = .pointer (some ⟨g, 0, none⟩) ∧ w.heap.size + 2 ≤ g ∧ Hid (Rowz wx g (wC 8 (rnds (spread s) l 64)) 76) ∧ Hid (Rowz wx w.heap.size (wC 8 l) 76) ∧ Hid (Rowz wx (w.heap.size + 1) (wC 8 []) 76) ∧ Hid (Grown w wx))
  case first =>
    refine wp_region_held_drew (S := fun w' => Rowz w' w.heap.size (wC 8 l) 76) (by kernel_rfl) A0.out (fun _ => ?_)
    refine wpAnyH_take (i := 0) rfl (by kernel_rfl) (by kernel_rfl) (by kernel_rfl) (fun _ _ _ h => h) (yieldsIf_load_row rfl 76 _ rfl w.heap.size rfl (wC 8 l) 76 _ (fun _ h => h) Tryd.underlying76 rfl (info8W _)) A0.out ?_
    refine wpAnyH_take (i := 1) (v := .string s) rfl (by kernel_rfl) (by kernel_rfl) (by kernel_rfl) (fun _ _ _ h => h) (Or.inl ⟨by rfl, fun _ _ => by rfl⟩) A0.out ?_
    refine wpAnyH_ready (rs := [2, 4]) (by kernel_rfl) (by simp) (AllReadyH.cons rfl (fun K hK => ?_) (AllReadyH.cons rfl (fun K hK => ?_) AllReadyH.nil))
    · rw [if_pos (by rfl)]
      go_simp
      refine (shaSpread_any s _ hs).mono ?_
      rintro e v1 ⟨rfl, hg⟩
      have hzv1 : v.heap.size ≤ v1.heap.size := hg.2.2
      have B0 : Hid (Rowz v1 w.heap.size (wC 8 l) 76) := Lib.hid (Rowz.grown (w := v.drew) A0.out hg)
      have B1 : Hid (Rowz v1 (w.heap.size + 1) (wC 8 []) 76) := Lib.hid (Rowz.grown (w := v.drew) A1.out hg)
      have B3 : Hid (Grown w v1) := Lib.hid (Grown.trans (b := v.drew) A3.out hg)
      have B4 : Hid (Tab v1) := Lib.hid (Tab.grown (w := v.drew) A4.out hg)
      clear hg
      refine hK.out _ _ B0.out (fun _ => ?_)
      clear hK K
      refine wpAnyH_ready (rs := [3, 4]) (by kernel_rfl) (by simp) (AllReadyH.cons rfl (fun K hK => ?_) (AllReadyH.cons rfl (fun K hK => ?_) AllReadyH.nil))
      · rw [if_pos (by rfl)]
        go_simp
        refine (runRounds_any l (spread s) _ hl hlt (wl_lt s 64) B4.out).mono ?_
        rintro e v2 ⟨rfl, hg⟩
        have hzv2 : v1.heap.size ≤ v2.heap.size := hg.2.2
        have C0 : Hid (Rowz v2 w.heap.size (wC 8 l) 76) := Lib.hid (Rowz.grown (w := v1) B0.out hg)
        have C1 : Hid (Rowz v2 (w.heap.size + 1) (wC 8 []) 76) := Lib.hid (Rowz.grown (w := v1) B1.out hg)
        have C3 : Hid (Grown w v2) := Lib.hid (Grown.trans (b := v1) B3.out hg)
        have C4 : Hid (Tab v2) := Lib.hid (Tab.grown (w := v1) B4.out hg)
        clear hg
        refine hK.out _ _ C0.out (fun _ => ?_)
        clear hK K
        refine wpAnyH_ready (rs := [4]) (by kernel_rfl) (by simp) (AllReadyH.cons rfl (fun K hK => ?_) AllReadyH.nil)
        rw [if_pos (by rfl)]
        go_simp
        have D0 : Hid (Rowz (v2.alloc (.cells #[.int .u32 0, .int .u32 0, .int .u32 0, .int .u32 0, .int .u32 0, .int .u32 0, .int .u32 0, .int .u32 0] 76)) w.heap.size (wC 8 l) 76) := Lib.hid (Rowz.alloc C0.out _)
        have D1 : Hid (Rowz (v2.alloc (.cells #[.int .u32 0, .int .u32 0, .int .u32 0, .int .u32 0, .int .u32 0, .int .u32 0, .int .u32 0, .int .u32 0] 76)) (w.heap.size + 1) (wC 8 []) 76) := Lib.hid (Rowz.alloc C1.out _)
        have D3 : Hid (Grown w (v2.alloc (.cells #[.int .u32 0, .int .u32 0, .int .u32 0, .int .u32 0, .int .u32 0, .int .u32 0, .int .u32 0, .int .u32 0] 76))) := Lib.hid (Grown.alloc C3.out _ _)
        have D4 : Hid (Tab (v2.alloc (.cells #[.int .u32 0, .int .u32 0, .int .u32 0, .int .u32 0, .int .u32 0, .int .u32 0, .int .u32 0, .int .u32 0] 76))) := Lib.hid (Tab.alloc C4.out _)
        have D5 : Hid (Rowz ((v2.alloc (.cells #[.int .u32 0, .int .u32 0, .int .u32 0, .int .u32 0, .int .u32 0, .int .u32 0, .int .u32 0, .int .u32 0] 76))) v2.heap.size (wC 8 []) 76) := Lib.hid (Rowz.newEq v2 _ _ _ (by kernel_rfl))
        refine hK.out _ _ D0.out (fun _ => ?_)
        clear hK K
        generalize (v2.alloc (.cells #[.int .u32 0, .int .u32 0, .int .u32 0, .int .u32 0, .int .u32 0, .int .u32 0, .int .u32 0, .int .u32 0] 76)) = v3 at D0 D1 D3 D4 D5 ⊢
        refine wpAnyH_ready (rs := [5]) (by kernel_rfl) (by simp) (AllReadyH.cons rfl (fun K hK => ?_) AllReadyH.nil)
        rw [if_pos (by rfl)]
        refine wp_store_row 76 _ _ rfl v2.heap.size (wC 8 (rnds (spread s) l 64)) rfl rfl 76 (wC 8 []) D5.out (info8W _) (by simp [wC_size]) (wC_one _ _) ?_
        refine hK.out _ _ (Rowz.rowOther D0.out (by omega)) (fun _ => ?_)
        clear hK K
        refine wpAnyH_done (by kernel_rfl) ?_ _
        go_wp2_with fail
        go_meet
        case rel => exact ⟨v2.heap.size, rfl, by omega, Lib.hid D5.out.row, Lib.hid (D0.out.rowOther (by omega)), Lib.hid (D1.out.rowOther (by omega)), Lib.hid (Grown.setRow D3.out D5.out (by omega) _)⟩
      · rw [if_pos (by rfl)]
        go_simp
        have C0 : Hid (Rowz (v1.alloc (.cells #[.int .u32 0, .int .u32 0, .int .u32 0, .int .u32 0, .int .u32 0, .int .u32 0, .int .u32 0, .int .u32 0] 76)) w.heap.size (wC 8 l) 76) := Lib.hid (Rowz.alloc B0.out _)
        have C1 : Hid (Rowz (v1.alloc (.cells #[.int .u32 0, .int .u32 0, .int .u32 0, .int .u32 0, .int .u32 0, .int .u32 0, .int .u32 0, .int .u32 0] 76)) (w.heap.size + 1) (wC 8 []) 76) := Lib.hid (Rowz.alloc B1.out _)
        have C3 : Hid (Grown w (v1.alloc (.cells #[.int .u32 0, .int .u32 0, .int .u32 0, .int .u32 0, .int .u32 0, .int .u32 0, .int .u32 0, .int .u32 0] 76))) := Lib.hid (Grown.alloc B3.out _ _)
        have C4 : Hid (Tab (v1.alloc (.cells #[.int .u32 0, .int .u32 0, .int .u32 0, .int .u32 0, .int .u32 0, .int .u32 0, .int .u32 0, .int .u32 0] 76))) := Lib.hid (Tab.alloc B4.out _)
        have C5 : Hid (Rowz ((v1.alloc (.cells #[.int .u32 0, .int .u32 0, .int .u32 0, .int .u32 0, .int .u32 0, .int .u32 0, .int .u32 0, .int .u32 0] 76))) v1.heap.size (wC 8 []) 76) := Lib.hid (Rowz.newEq v1 _ _ _ (by kernel_rfl))
        refine hK.out _ _ C0.out (fun _ => ?_)
        clear hK K
        generalize (v1.alloc (.cells #[.int .u32 0, .int .u32 0, .int .u32 0, .int .u32 0, .int .u32 0, .int .u32 0, .int .u32 0, .int .u32 0] 76)) = v2 at C0 C1 C3 C4 C5 ⊢
        refine wpAnyH_ready (rs := [3]) (by kernel_rfl) (by simp) (AllReadyH.cons rfl (fun K hK => ?_) AllReadyH.nil)
        rw [if_pos (by rfl)]
        go_simp
        refine (runRounds_any l (spread s) _ hl hlt (wl_lt s 64) C4.out).mono ?_
        rintro e v3 ⟨rfl, hg⟩
        have hzv3 : v2.heap.size ≤ v3.heap.size := hg.2.2
        have D5 : Hid (Rowz v3 v1.heap.size (wC 8 []) 76) := Lib.hid (C5.out.grown hg)
        have D0 : Hid (Rowz v3 w.heap.size (wC 8 l) 76) := Lib.hid (Rowz.grown (w := v2) C0.out hg)
        have D1 : Hid (Rowz v3 (w.heap.size + 1) (wC 8 []) 76) := Lib.hid (Rowz.grown (w := v2) C1.out hg)
        have D3 : Hid (Grown w v3) := Lib.hid (Grown.trans (b := v2) C3.out hg)
        have D4 : Hid (Tab v3) := Lib.hid (Tab.grown (w := v2) C4.out hg)
        clear hg
        refine hK.out _ _ D0.out (fun _ => ?_)
        clear hK K
        refine wpAnyH_ready (rs := [5]) (by kernel_rfl) (by simp) (AllReadyH.cons rfl (fun K hK => ?_) AllReadyH.nil)
        rw [if_pos (by rfl)]
        refine wp_store_row 76 _ _ rfl v1.heap.size (wC 8 (rnds (spread s) l 64)) rfl rfl 76 (wC 8 []) D5.out (info8W _) (by simp [wC_size]) (wC_one _ _) ?_
        refine hK.out _ _ (Rowz.rowOther D0.out (by omega)) (fun _ => ?_)
        clear hK K
        refine wpAnyH_done (by kernel_rfl) ?_ _
        go_wp2_with fail
        go_meet
        case rel => exact ⟨v1.heap.size, rfl, by omega, Lib.hid D5.out.row, Lib.hid (D0.out.rowOther (by omega)), Lib.hid (D1.out.rowOther (by omega)), Lib.hid (Grown.setRow D3.out D5.out (by omega) _)⟩
    · rw [if_pos (by rfl)]
      go_simp
      have B0 : Hid (Rowz (v.alloc (.cells #[.int .u32 0, .int .u32 0, .int .u32 0, .int .u32 0, .int .u32 0, .int .u32 0, .int .u32 0, .int .u32 0] 76)).drew w.heap.size (wC 8 l) 76) := Lib.hid (Rowz.alloc A0.out _)
      have B1 : Hid (Rowz (v.alloc (.cells #[.int .u32 0, .int .u32 0, .int .u32 0, .int .u32 0, .int .u32 0, .int .u32 0, .int .u32 0, .int .u32 0] 76)).drew (w.heap.size + 1) (wC 8 []) 76) := Lib.hid (Rowz.alloc A1.out _)
      have B3 : Hid (Grown w (v.alloc (.cells #[.int .u32 0, .int .u32 0, .int .u32 0, .int .u32 0, .int .u32 0, .int .u32 0, .int .u32 0, .int .u32 0] 76)).drew) := Lib.hid (Grown.alloc A3.out _ _)
      have B4 : Hid (Tab (v.alloc (.cells #[.int .u32 0, .int .u32 0, .int .u32 0, .int .u32 0, .int .u32 0, .int .u32 0, .int .u32 0, .int .u32 0] 76)).drew) := Lib.hid (Tab.alloc A4.out _)
      have B5 : Hid (Rowz ((v.alloc (.cells #[.int .u32 0, .int .u32 0, .int .u32 0, .int .u32 0, .int .u32 0, .int .u32 0, .int .u32 0, .int .u32 0] 76)).drew) v.heap.size (wC 8 []) 76) := Lib.hid (Rowz.newEq v _ _ _ (by kernel_rfl))
      refine hK.out _ _ B0.out (fun _ => ?_)
      clear hK K
      generalize (v.alloc (.cells #[.int .u32 0, .int .u32 0, .int .u32 0, .int .u32 0, .int .u32 0, .int .u32 0, .int .u32 0, .int .u32 0] 76)).drew = v1 at B0 B1 B3 B4 B5 ⊢
      refine wpAnyH_ready (rs := [2]) (by kernel_rfl) (by simp) (AllReadyH.cons rfl (fun K hK => ?_) AllReadyH.nil)
      rw [if_pos (by rfl)]
      go_simp
      refine (shaSpread_any s _ hs).mono ?_
      rintro e v2 ⟨rfl, hg⟩
      have hzv2 : v1.heap.size ≤ v2.heap.size := hg.2.2
      have C5 : Hid (Rowz v2 v.heap.size (wC 8 []) 76) := Lib.hid (B5.out.grown hg)
      have C0 : Hid (Rowz v2 w.heap.size (wC 8 l) 76) := Lib.hid (Rowz.grown (w := v1) B0.out hg)
      have C1 : Hid (Rowz v2 (w.heap.size + 1) (wC 8 []) 76) := Lib.hid (Rowz.grown (w := v1) B1.out hg)
      have C3 : Hid (Grown w v2) := Lib.hid (Grown.trans (b := v1) B3.out hg)
      have C4 : Hid (Tab v2) := Lib.hid (Tab.grown (w := v1) B4.out hg)
      clear hg
      refine hK.out _ _ C0.out (fun _ => ?_)
      clear hK K
      refine wpAnyH_ready (rs := [3]) (by kernel_rfl) (by simp) (AllReadyH.cons rfl (fun K hK => ?_) AllReadyH.nil)
      rw [if_pos (by rfl)]
      go_simp
      refine (runRounds_any l (spread s) _ hl hlt (wl_lt s 64) C4.out).mono ?_
      rintro e v3 ⟨rfl, hg⟩
      have hzv3 : v2.heap.size ≤ v3.heap.size := hg.2.2
      have D5 : Hid (Rowz v3 v.heap.size (wC 8 []) 76) := Lib.hid (C5.out.grown hg)
      have D0 : Hid (Rowz v3 w.heap.size (wC 8 l) 76) := Lib.hid (Rowz.grown (w := v2) C0.out hg)
      have D1 : Hid (Rowz v3 (w.heap.size + 1) (wC 8 []) 76) := Lib.hid (Rowz.grown (w := v2) C1.out hg)
      have D3 : Hid (Grown w v3) := Lib.hid (Grown.trans (b := v2) C3.out hg)
      have D4 : Hid (Tab v3) := Lib.hid (Tab.grown (w := v2) C4.out hg)
      clear hg
      refine hK.out _ _ D0.out (fun _ => ?_)
      clear hK K
      rw [hv] at D5
      refine wpAnyH_ready (rs := [5]) (by kernel_rfl) (by simp) (AllReadyH.cons rfl (fun K hK => ?_) AllReadyH.nil)
      rw [if_pos (by rfl)]
      refine wp_store_row 76 _ _ rfl (w.heap.size + 2) (wC 8 (rnds (spread s) l 64)) rfl rfl 76 (wC 8 []) D5.out (info8W _) (by simp [wC_size]) (wC_one _ _) ?_
      refine hK.out _ _ (Rowz.rowOther D0.out (by omega)) (fun _ => ?_)
      clear hK K
      refine wpAnyH_done (by kernel_rfl) ?_ _
      go_wp2_with fail
      go_meet
      case rel => exact ⟨(w.heap.size + 2), rfl, by omega, Lib.hid D5.out.row, Lib.hid (D0.out.rowOther (by omega)), Lib.hid (D1.out.rowOther (by omega)), Lib.hid (Grown.setRow D3.out D5.out (by omega) _)⟩
  case rest =>
    clear A0 A1 A3 A4 hv
    obtain ⟨g, rfl, hg2, R0, R6, R1, G0⟩ := hcut
    have LA := Lib.hid (rnds_length (spread s) l hl 64)
    have HM := Lib.hid (show mixW l s = addW (rnds (spread s) l 64) l from rfl)
    have AB := Lib.hid (rnds_lt (spread s) l hlt 64)
    have HLT := Lib.hid hlt
    have HLL := Lib.hid hl
    clear hl hlt
    generalize rnds (spread s) l 64 = A at R0 LA HM AB
    go_wp2_with fail
    go_loopw [11] (fun i wr => ∃ (j : Nat), j ≤ 8 ∧ i = .int .i64 j ∧ Hid (Rowz wr g (wC 8 (addp A l j)) 76) ∧ Hid (Rowz wr (w.heap.size + 1) (wC 8 []) 76) ∧ Hid (Rowz wr w.heap.size (wC 8 l) 76) ∧ Hid (Grown w wr)) (fun i _ => 8 - (intOf i).toNat)
    case atStart => exact ⟨0, by omega, rfl, by rw [addp_none]; exact R0, R1, R6, G0⟩
    case round =>
      clear R0 R1 R6 G0
      obtain ⟨j, hj8, rfl, R0, R1, R6, G0⟩ := hrel
      by_cases hj : j < 8
      · have hcj := R0.out.word j (by omega)
        rw [addp_get A l LA.out HLL.out j hj] at hcj
        have hcl := R6.out.word j (by omega)
        have hfr := R0.out.free j
        have HS := Lib.hid (addp_step A l LA.out HLL.out j hj)
        have HL := Lib.hid (addp_length A l LA.out HLL.out j hj8)
        have bA := getD_lt A AB.out j
        have bl_ := getD_lt l HLT.out j
        obtain ⟨p, hp⟩ : ∃ p, p = A.getD j 0 := ⟨_, rfl⟩
        obtain ⟨q, hq⟩ : ∃ q, q = l.getD j 0 := ⟨_, rfl⟩
        rw [← hp] at hcj HS bA
        rw [← hq] at hcl HS bl_
        clear hp hq
        have hdj : decide ((j : Int) < 8) = true := by simp; omega
        go_wp2_with fail
        refine wp_region_still_tail 8 (by kernel_rfl) (by kernel_rfl) ?_
        simp only [List.take_succ_cons, List.take_zero, List.drop_succ_cons, List.drop_zero]
        change wpStill _ _ wr.drew (fun a' => wpList _ _ _ _ a' wr.drew) _ _
        replace R0 : Hid (Rowz wr.drew g (wC 8 (addp A l j)) 76) := R0
        replace R1 : Hid (Rowz wr.drew (w.heap.size + 1) (wC 8 []) 76) := R1
        replace R6 : Hid (Rowz wr.drew w.heap.size (wC 8 l) 76) := R6
        replace G0 : Hid (Grown w wr.drew) := G0
        replace hcj : wr.drew.cell? ⟨g, j, none⟩ = some (.int .u32 (p : Int)) := hcj
        replace hcl : wr.drew.cell? ⟨w.heap.size, j, none⟩ = some (.int .u32 (q : Int)) := hcl
        replace hfr : wr.drew.frozen? ⟨g, j, none⟩ = false := hfr
        generalize wr.drew = w2 at R0 R1 R6 G0 hcj hcl hfr ⊢
        have hbj : (j : Int) < 8 := by omega
        repeat still_step
        refine wpStill_nil ?_
        go_wp2_with fail
        go_roundw
        case rel =>
          refine ⟨j + 1, by omega, by go_num, Lib.hid ?_, Lib.hid (R1.out.other _ _ (by simp; omega)), Lib.hid (R6.out.other _ _ (by simp; omega)), Lib.hid (G0.out.setCell (by simp; omega) _)⟩
          rw [← HS.out]
          exact R0.out.put j HL.out (by omega) _ ((p + q) % 4294967296) (by omega)
        case measure => simp [intOf]; omega
      · have e8 : j = 8 := by omega
        rw [e8, addp_all A l LA.out HLL.out, ← HM.out] at R0
        clear e8
        have hdj : decide ((j : Int) < 8) = false := by simp; omega
        go_wp2_with (first
          | (refine wpList_load_row rfl 76 _ rfl g rfl 76 (wC 8 (mixW l s)) (0, 0) _ R0.out Tryd.underlying76 rfl (info8W _) ?_)
          | (refine wpList_store_row rfl 76 _ _ rfl (w.heap.size + 1) (wC 8 (mixW l s)) rfl rfl 76 (wC 8 []) R1.out (info8W _) (by simp [wC_size]) (wC_one _ _) ?_))
        refine bodyPost_ret (v := .agg (wC 8 (mixW l s))) (results_cell_row Tryd.results66 _ _ (w.heap.size + 1) 76 _ (0, 0) _ rfl R1.out.row Tryd.underlying76 rfl (info8W _)) rfl ⟨rfl, ?_⟩
        exact Grown.setRow G0.out R1.out (by omega) _
end Go.Proofs.YtlfkkfacbcpogaaDoor
namespace Go.Proofs.YtlfkkfacbcpogaaDoor
set_option maxRecDepth 4000
open Go.RowKit

set_option maxRecDepth 100000 in
set_option maxHeartbeats 1000000 in
theorem shaPad_any (n : Nat) (w : World) (_hn : n < 18446744073709551616) :
    Calls Tryd.prog 67 #[.int .u64 n] w fun e w' => e = .returned (.string (padS n)) ∧ Grown w w' := by
  obtain ⟨z, hzz⟩ : ∃ z, z = zeros n := ⟨_, rfl⟩
  have hz := zeros_le n
  rw [← hzz] at hz
  have hw1 : (IntKind.u64.wrap (55 - (n : Int))).tmod 64 = (z : Int) := by
    rw [IntKind.wrap_u64, hzz, Int.tmod_eq_emod_of_nonneg (by omega)]; unfold zeros; omega
  obtain ⟨m, hm⟩ : ∃ m, m = z + 1 := ⟨_, rfl⟩
  have hw2 : IntKind.u64.wrap (1 + (z : Int)) = (m : Int) := by rw [IntKind.wrap_u64]; omega
  have hmk := run_makeB m w (by omega)
  have hcell : (bC m [])[0]? = some (.int .u8 0) := by rw [bC_get _ _ _ (by omega)]; rfl
  have hpos : (0 : Int) < (m : Int) := by omega
  have HZ := Lib.hid hzz
  have HM := Lib.hid hm
  clear hzz hm
  go_enter Tryd.func67, Tryd.ntmps67
  go_wp2_with fail
  clear hmk hw2 hw1
  have hrow : Rowz (w.alloc (.cells ((bC m []).setIfInBounds 0 (.int .u8 128)) 5)) w.heap.size (bC m [128]) 5 := by
    have e : (bC m []).setIfInBounds 0 (.int .u8 128) = bC m [128] := bC_push m [] 128 0 rfl
    rw [← e]; exact Rowz.new w _ _
  have G0 : Grown w (w.alloc (.cells ((bC m []).setIfInBounds 0 (.int .u8 128)) 5)) := (Grown.refl _).alloc _ _
  have hcv : ∀ w', Rowz w' w.heap.size (bC m [128]) 5 → (convert 62 9 (.slice (some ⟨w.heap.size, 0, none⟩) m m)).run Tryd.prog w' = .ok (.string (padT z)) w' := by
    intro w' hr
    have hl : (128 :: List.replicate z 0 : List UInt8).length = m := by rw [HM.out]; simp
    have h := run_strB w' w.heap.size 0 m (128 :: List.replicate z 0) (fun j hj => by
      rw [Nat.zero_add, hr.byte j (by omega)]
      rcases j with _ | j
      · rfl
      · simp)
    rw [hl] at h
    exact h
  obtain ⟨q, hq⟩ : ∃ q, q = n * 8 % 18446744073709551616 := ⟨_, rfl⟩
  have hq2 : IntKind.u64.wrap (8 * (n : Int)) = (q : Int) := by rw [IntKind.wrap_u64]; omega
  have hql : q < 18446744073709551616 := by omega
  have HE := Lib.hid (padT_end n z (padT z) rfl HZ.out)
  rw [← hq] at HE
  clear hq
  generalize w.alloc (.cells ((bC m []).setIfInBounds 0 (.int .u8 128)) 5) = v at hrow G0 ⊢
  refine wp_region_held_drew (S := fun w' => Rowz w' w.heap.size (bC m [128]) 5) (by kernel_rfl) hrow (fun _ => ?_)
  refine wpAnyH_take (i := 0) (v := .slice (some ⟨w.heap.size, 0, none⟩) m m) rfl (by kernel_rfl) (by kernel_rfl) (by kernel_rfl) (fun _ _ _ h => h) (Or.inl ⟨by rfl, fun _ _ => by rfl⟩) hrow ?_
  refine wpAnyH_take (i := 1) (v := .string (padT z)) rfl (by kernel_rfl) (by kernel_rfl) (by kernel_rfl) (fun _ _ _ h => h) (yieldsIf_convert rfl 62 9 _ rfl (.slice (some ⟨w.heap.size, 0, none⟩) m m) _ rfl hcv) hrow ?_
  refine wpAnyH_take (i := 2) (v := .int .u64 (n : Int)) rfl (by kernel_rfl) (by kernel_rfl) (by kernel_rfl) (fun _ _ _ h => h) (Or.inl ⟨by rfl, fun _ _ => by rfl⟩) hrow ?_
  refine wpAnyH_take (i := 3) (v := .int .u64 (q : Int)) rfl (by kernel_rfl) (by kernel_rfl) (by kernel_rfl) (fun _ _ _ h => h) (Or.inl ⟨by rfl, fun _ _ => by go_simp⟩) hrow ?_
  refine wpAnyH_ready (rs := [4]) (by kernel_rfl) (by simp) (AllReadyH.cons rfl (fun K hK => ?_) AllReadyH.nil)
  rw [if_pos (by rfl)]
  go_simp
  refine (put64_any q _ hql).mono ?_
  rintro e v1 ⟨rfl, hg⟩
  have G1 : Grown w v1 := Grown.trans (b := v.drew) G0 hg
  refine hK.out _ _ (Rowz.grown (w := v.drew) hrow hg) (fun _ => ?_)
  clear hK K
  have hps : ¬ 9223372036854775807 < (padT z).size + 8 := by rw [padT_size]; omega
  have hbs := beS_size 8 q
  refine wpAnyH_ready (rs := [5]) (by kernel_rfl) (by simp) (AllReadyH.cons rfl (fun K hK => ?_) AllReadyH.nil)
  rw [if_pos (by rfl)]
  go_simp
  refine hK.out _ _ (Rowz.grown (w := v.drew) hrow hg) (fun _ => ?_)
  clear hK K
  refine wpAnyH_ready (rs := [6]) (by kernel_rfl) (by simp) (AllReadyH.cons rfl (fun K hK => ?_) AllReadyH.nil)
  rw [if_pos (by rfl)]
  go_simp
  refine hK.out _ _ (Rowz.grown (w := v.drew) hrow hg) (fun _ => ?_)
  clear hK K
  refine wpAnyH_done (by kernel_rfl) ?_ _
  go_wp2_with fail
  go_ret
  exact ⟨ret_str HE.out, G1⟩

/-! ### mixAll -/
def mixN (l : List Nat) (b : ByteArray) : Nat → List Nat
  | 0 => l
  | n + 1 => mixW (mixN l b n) (b.extract (64 * n) (64 * n + 64))
theorem mixN_length (l : List Nat) (b : ByteArray) (h : l.length = 8) : ∀ n, (mixN l b n).length = 8
  | 0 => h
  | n + 1 => mixW_length _ _ (mixN_length l b h n)
theorem mixN_lt (l : List Nat) (b : ByteArray) (h : ∀ x ∈ l, x < 4294967296) : ∀ n, ∀ x ∈ mixN l b n, x < 4294967296
  | 0 => h
  | _ + 1 => mixW_lt _ _

set_option maxRecDepth 100000 in
set_option maxHeartbeats 2000000 in
theorem mixAll_any (l : List Nat) (b : ByteArray) (w : World) (hb : b.size ≤ maxLen) (hl : l.length = 8) (hlt : ∀ x ∈ l, x < 4294967296) (ht : Tab w) :
    Calls Tryd.prog 65 #[.agg (wC 8 l), .string b] w fun e w' => e = .returned (.tuple #[.agg (wC 8 (mixN l b (b.size / 64))), .string (b.extract (64 * (b.size / 64)) b.size)]) ∧ Grown w w' := by
  have hbm : b.size ≤ 9223372036854775807 := hb
  have HB := Lib.hid hb
  have HL := Lib.hid hl
  have HLT := Lib.hid hlt
  clear hl hlt hb
  go_enter Tryd.func65, Tryd.ntmps65
  go_wp2_with fail
  have A0 : Hid (Rowz ((w.alloc (.cells (wC 8 l) 76)).alloc (.cells #[.int .u32 0, .int .u32 0, .int .u32 0, .int .u32 0, .int .u32 0, .int .u32 0, .int .u32 0, .int .u32 0] 76)) w.heap.size (wC 8 l) 76) :=
    Lib.hid ((Rowz.new w _ _).alloc _)
  have A1 : Hid (Rowz ((w.alloc (.cells (wC 8 l) 76)).alloc (.cells #[.int .u32 0, .int .u32 0, .int .u32 0, .int .u32 0, .int .u32 0, .int .u32 0, .int .u32 0, .int .u32 0] 76)) (w.heap.size + 1) (wC 8 []) 76) :=
    Lib.hid (Rowz.newEq1 w _ _ _ _ (by kernel_rfl))
  have A3 : Hid (Grown w ((w.alloc (.cells (wC 8 l) 76)).alloc (.cells #[.int .u32 0, .int .u32 0, .int .u32 0, .int .u32 0, .int .u32 0, .int .u32 0, .int .u32 0, .int .u32 0] 76))) :=
    Lib.hid (((Grown.refl w).alloc _ _).alloc _ _)
  have hpos := ht.pos
  have A4 := Lib.hid ((ht.alloc (.cells (wC 8 l) 76)).alloc (.cells #[.int .u32 0, .int .u32 0, .int .u32 0, .int .u32 0, .int .u32 0, .int .u32 0, .int .u32 0, .int .u32 0] 76))
  clear ht
  generalize (w.alloc (.cells (wC 8 l) 76)).alloc (.cells #[.int .u32 0, .int .u32 0, .int .u32 0, .int .u32 0, .int .u32 0, .int .u32 0, .int .u32 0, .int .u32 0] 76) = v at A0 A1 A3 A4 ⊢
  go_loopw [1] (fun s1 wr => ∃ (k : Nat) (t : ByteArray), s1 = .string t ∧ t.size ≤ 9223372036854775807 ∧ Hid (64 * k ≤ b.size ∧ t = b.extract (64 * k) b.size) ∧ Hid (Rowz wr w.heap.size (wC 8 (mixN l b k)) 76) ∧ Hid (Rowz wr (w.heap.size + 1) (wC 8 []) 76) ∧ Hid (Grown w wr) ∧ Hid (Tab wr)) (fun a _ => strSize a)
  case atStart => exact ⟨0, b, rfl, hbm, Lib.hid ⟨by omega, by simp⟩, A0, A1, A3, A4⟩
  case round =>
    clear A0 A1 A3 A4
    obtain ⟨k, t, rfl, hts, HT, A0, A1, A3, A4⟩ := hrel
    by_cases h64 : 64 ≤ t.size
    · have hd : decide ((64 : Int) ≤ (t.size : Int)) = true := by simp; omega
      have hts2 : t.size = b.size - 64 * k := by have := HT.out; rw [this.2, ByteArray.size_extract]; omega
      have HK : Hid (mixN l b (k + 1) = mixW (mixN l b k) (t.extract 0 64)) := Lib.hid (by
        have := HT.out
        rw [this.2, ByteArray.extract_extract, Nat.add_zero, Nat.min_eq_left (by omega)]; rfl)
      have HT2 : Hid (64 * (k + 1) ≤ b.size ∧ t.extract 64 t.size = b.extract (64 * (k + 1)) b.size) := Lib.hid (by
        have := HT.out
        refine ⟨by omega, ?_⟩
        rw [hts2, this.2, ByteArray.extract_extract]
        congr 1; omega)
      clear hts2
      go_wp2_with fail
      refine wp_region_still_tail 3 (by kernel_rfl) (by kernel_rfl) ?_
      simp only [List.take_succ_cons, List.take_zero, List.drop_succ_cons, List.drop_zero]
      change wpStill _ _ wr.drew (fun a' => wpList _ _ _ _ a' wr.drew) _ _
      replace A0 : Hid (Rowz wr.drew w.heap.size (wC 8 (mixN l b k)) 76) := A0
      replace A1 : Hid (Rowz wr.drew (w.heap.size + 1) (wC 8 []) 76) := A1
      replace A3 : Hid (Grown w wr.drew) := A3
      replace A4 : Hid (Tab wr.drew) := A4
      generalize wr.drew = w3 at A0 A1 A3 A4 ⊢
      refine wpStill_load_row rfl 76 _ rfl w.heap.size rfl 76 (wC 8 (mixN l b k)) (0, 0) _ A0.out Tryd.underlying76 rfl (info8W _) ?_
      have hle : (64 : Int) ≤ (t.size : Int) := by omega
      repeat still_step
      refine wpStill_nil ?_
      have hsx : (t.extract 0 64).size ≤ maxLen := by rw [ByteArray.size_extract]; unfold maxLen; omega
      go_wp2_with (first
        | (go_at_call 66; refine (shaMix_any (mixN l b k) (t.extract 0 64) _ hsx (mixN_length l b HL.out k) (mixN_lt l b HLT.out k) A4.out).mono ?_; rintro e w4 ⟨rfl, hg⟩)
        | (refine wpList_store_row rfl 76 _ _ rfl w.heap.size (wC 8 (mixW (mixN l b k) (t.extract 0 64))) rfl rfl 76 _ (A0.out.grown hg) (info8W _) (by simp [wC_size]) (wC_one _ _) ?_))
      go_roundw
      case rel =>
        refine ⟨k + 1, _, rfl, by rw [ByteArray.size_extract]; omega, HT2, Lib.hid ?_, Lib.hid ((A1.out.grown hg).rowOther (by omega)), Lib.hid (Grown.setRow (Grown.trans A3.out hg) (A0.out.grown hg) (Nat.le_refl _) _), Lib.hid ((A4.out.grown hg).setRow _ _ (by omega))⟩
        rw [HK.out]
        exact (A0.out.grown hg).row
      case measure => simp only [strSize, ByteArray.size_extract]; omega
    · have hd : decide ((64 : Int) ≤ (t.size : Int)) = false := by simp; omega
      have HE : Hid (b.size / 64 = k ∧ t = b.extract (64 * (b.size / 64)) b.size) := Lib.hid (by
        have h1 := HT.out
        have h2 : t.size = b.size - 64 * k := by rw [h1.2, ByteArray.size_extract]; omega
        have h3 : b.size / 64 = k := by omega
        exact ⟨h3, by rw [h3]; exact h1.2⟩)
      go_wp2_with (first
        | (refine wpList_load_row rfl 76 _ rfl w.heap.size rfl 76 (wC 8 (mixN l b k)) (0, 0) _ A0.out Tryd.underlying76 rfl (info8W _) ?_)
        | (refine wpList_store_row rfl 76 _ _ rfl (w.heap.size + 1) (wC 8 (mixN l b k)) rfl rfl 76 (wC 8 []) A1.out (info8W _) (by simp [wC_size]) (wC_one _ _) ?_))
      refine bodyPost_ret (v := .tuple #[.agg (wC 8 (mixN l b k)), .string t]) (results_row_tmp Tryd.results65 _ _ (w.heap.size + 1) 76 _ _ (.string t) rfl rfl A1.out.row Tryd.underlying76 rfl (info8W _)) rfl ⟨?_, ?_⟩
      · rw [HE.out.1, HE.out.2, HE.out.1]
      · exact Grown.setRow A3.out A1.out (by omega) _
end Go.Proofs.YtlfkkfacbcpogaaDoor
