/-
  Plain mathematics for layer 1 (word): bit lengths, rotation by bits, big-endian bytes. No condition.
  Small laws on worlds, for walks that keep arrays in memory: a row of cells known whole ('Rowz'), and that it stays where only new memory is made ('Grown'). No condition.
  Contracts of layer 1's functions that touch no memory (word.Rot, word.Lead, word.byteAt, word.Take32, word.Take64) and of their reference (Lead, Take). Conditions: the arguments fit their kinds; a string has at most maxLen bytes.
  Contracts of layer 1's functions that make memory (word.Put32, word.Put64) and of their reference (Byte, Put, Bits, Number, Rot), and of the law's own examples (awake). Conditions: the arguments fit their kinds.
  Laws for statements whose order of evaluation Go leaves open: whole rows loaded there. No condition.
  Statements whose order of evaluation Go leaves open, walked ONCE for all orders: a fact is given for each slot that the statement writes, each fact stays true where only new memory is made, and each operation is shown to make its own fact from those of the operations that it waits for. No condition.
  A drawn statement by its slots' facts, with a tail in one forced order (stores, copies, appends ..) that waits for all the rest: the head in all orders at once, the tail as a list.
  Laws on memory, for methods behind a pointer: a stretch of a row loaded, stored, copied into from a string ('spl'); 'Only b': nothing but block b and new memory is touched. No condition.
  'out = append(out, x)' on a slice of the call's own, elements of one cell: 'w.ownsRow' under Kept.
  For the laws' frames: arguments of whatever type read behind a call that made new memory alone as they read before; arrays of integers among the arguments opened. No condition.
-/
import Derived.Laws.BitsAllLaws
import Derived.IntWalk
import Derived.WalkKit
import Derived.WalkLawsBesides
import Derived.Lib.Hide
import Derived.Laws.Rows
import Derived.Laws.Tables
import Derived.Deep.Draws
import Derived.StillTailTactics
import Derived.Test.YtlfkkfacbcpogaaDoorProg
import Derived.Laws.IdiomStrings
import Derived.Deep.RegionHeld3
import Derived.Deep.MidRow
import Derived.Deep.CutRange
import Derived.Laws.ResultCell
import Derived.Laws.MakeOwn
import Derived.OrdersHeld
import Derived.ChangeAgain
import Derived.Laws.CopyRow
import Derived.Lib.BufferWrite
import Derived.ProofKit
import Derived.OpenShut
import Derived.Carry
import Derived.ChangeSame
import Derived.Deep.Strs
import Derived.SizedLaws
namespace Go.Proofs.YtlfkkfacbcpogaaDoor
set_option maxRecDepth 4000

/-! ### Bit lengths -/
def bl (x : Nat) : Nat := if x = 0 then 0 else Nat.log2 x + 1
theorem bl_zero : bl 0 = 0 := rfl
theorem bl_half (x : Nat) (h : 0 < x) : bl x = bl (x / 2) + 1 := by
  unfold bl
  rw [if_neg (by omega)]
  by_cases h2 : x / 2 = 0
  · have e : x = 1 := by omega
    subst e; decide
  · rw [if_neg h2, Nat.log2_def, if_pos (by omega)]
theorem bl_of (x k : Nat) (h1 : 2 ^ k ≤ x) (h2 : x < 2 ^ (k + 1)) : bl x = k + 1 := by
  have hp := Nat.two_pow_pos k
  unfold bl
  rw [if_neg (by omega)]
  have a : k ≤ x.log2 := (Nat.le_log2 (by omega)).2 h1
  have b : x.log2 < k + 1 := (Nat.log2_lt (by omega)).2 h2
  omega
theorem bl_le (x k : Nat) (h : x < 2 ^ k) : bl x ≤ k := by
  unfold bl
  split
  · omega
  · have := (Nat.log2_lt (k := k) (by omega)).2 h; omega

/-! ### Rotation -/
def rotr (x k : Nat) : Nat := (x / 2 ^ k) ||| (x * 2 ^ (32 - k) % 4294967296)
theorem rotr_lt (x k : Nat) (hx : x < 4294967296) : rotr x k < 4294967296 := by
  unfold rotr
  have h1 : x / 2 ^ k < 2 ^ 32 := Nat.lt_of_le_of_lt (Nat.div_le_self _ _) hx
  have h2 : x * 2 ^ (32 - k) % 4294967296 < 2 ^ 32 := Nat.mod_lt _ (by decide)
  exact Nat.or_lt_two_pow h1 h2
theorem testBit_rotr (x k i : Nat) (hx : x < 4294967296) (hk : k < 32) :
    (rotr x k).testBit i = (decide (i < 32) && x.testBit ((i + k) % 32)) := by
  unfold rotr
  have e : (4294967296 : Nat) = 2 ^ 32 := by decide
  rw [Nat.testBit_or, Nat.testBit_div_two_pow, e, Nat.testBit_mod_two_pow, Nat.testBit_mul_two_pow]
  by_cases hi : i < 32
  · by_cases hik : i + k < 32
    · have h1 : (i + k) % 32 = i + k := Nat.mod_eq_of_lt hik
      have h2 : ¬ (32 - k ≤ i) := by omega
      rw [h1]; simp [hi, h2]
    · have h1 : (i + k) % 32 = i + k - 32 := by omega
      have h2 : 32 - k ≤ i := by omega
      have h3 : x.testBit (i + k) = false := Nat.testBit_lt_two_pow (Nat.lt_of_lt_of_le hx (by
        rw [e]; exact Nat.pow_le_pow_right (by decide) (by omega)))
      rw [h1]; simp [hi, h2, h3, show i - (32 - k) = i + k - 32 by omega]
  · have h3 : x.testBit (i + k) = false := Nat.testBit_lt_two_pow (Nat.lt_of_lt_of_le hx (by
      rw [e]; exact Nat.pow_le_pow_right (by decide) (by omega)))
    simp [hi, h3]
theorem rotr_back (x k m : Nat) (hx : x < 4294967296) (hk : k < 32) (hm : m < 32) (h : (k + m) % 32 = 0) : rotr (rotr x k) m = x := by
  apply Nat.eq_of_testBit_eq
  intro i
  rw [testBit_rotr _ _ _ (rotr_lt _ _ hx) hm, testBit_rotr _ _ _ hx hk]
  by_cases hi : i < 32
  · have h1 : (i + m) % 32 < 32 := Nat.mod_lt _ (by decide)
    have h2 : ((i + m) % 32 + k) % 32 = i := by omega
    rw [h2]; simp [hi, h1]
  · have h3 : x.testBit i = false := Nat.testBit_lt_two_pow (Nat.lt_of_lt_of_le hx (by
      rw [show (4294967296 : Nat) = 2 ^ 32 by decide]; exact Nat.pow_le_pow_right (by decide) (by omega)))
    simp [hi, h3]
theorem and31 (n : Int) : bits .and .u64 (IntKind.u64.wrap n) 31 = ((n % 32).toNat : Int) := by
  have e : (IntKind.u64.wrap n) = ((n % 18446744073709551616).toNat : Int) := by rw [IntKind.wrap_u64]; omega
  rw [e, show (31 : Int) = ((31 : Nat) : Int) by rfl, u64_and_nat _ _ (by omega) (by omega), nat_mask5]
  omega

/-! ### Lists of bits, the lowest first -/
def numB : List Bool → Nat
  | [] => 0
  | b :: r => 2 * numB r + b.toNat
theorem numB_lt : ∀ l : List Bool, numB l < 2 ^ l.length
  | [] => by simp [numB]
  | b :: r => by
    have := numB_lt r
    simp only [numB, List.length_cons, Nat.pow_succ]
    cases b <;> simp <;> omega
theorem testBit_numB : ∀ (l : List Bool) (i : Nat), (numB l).testBit i = l.getD i false
  | [], i => by simp [numB]
  | b :: r, 0 => by
    simp only [numB, Nat.testBit_zero, List.getD_cons_zero]
    cases b <;> simp <;> omega
  | b :: r, i + 1 => by
    have e : (2 * numB r + b.toNat) / 2 = numB r := by cases b <;> simp <;> omega
    simp only [numB, Nat.testBit_succ, e, List.getD_cons_succ]
    exact testBit_numB r i
theorem numB_drop (l : List Bool) (i : Nat) (h : i < l.length) : numB (l.drop i) = 2 * numB (l.drop (i + 1)) + (l[i]).toNat := by
  rw [List.drop_eq_getElem_cons h]; rfl
def rotL (x k : Nat) : List Bool := (List.range 32).map fun i => x.testBit ((i + k) % 32)
theorem rotL_length (x k : Nat) : (rotL x k).length = 32 := by simp [rotL]
theorem rotL_getD (x k i : Nat) (hi : i < 32) : (rotL x k).getD i false = x.testBit ((i + k) % 32) := by simp [rotL, hi]
theorem numB_rot (x k : Nat) (hx : x < 4294967296) (hk : k < 32) : numB (rotL x k) = rotr x k := by
  unfold rotL
  apply Nat.eq_of_testBit_eq
  intro i
  rw [testBit_numB, testBit_rotr _ _ _ hx hk]
  by_cases hi : i < 32
  · simp [hi]
  · simp [hi]

/-! ### Big-endian bytes -/
def be : Nat → Nat → List UInt8
  | 0, _ => []
  | n + 1, x => UInt8.ofNat (x / 256 ^ n) :: be n x
theorem be_length : ∀ n x, (be n x).length = n
  | 0, _ => rfl
  | n + 1, x => by simp [be, be_length n x]
theorem be_get : ∀ (n x i : Nat) (h : i < n), (be n x)[i]'(by rw [be_length]; exact h) = UInt8.ofNat (x / 256 ^ (n - 1 - i))
  | n + 1, x, 0, _ => by simp [be]
  | n + 1, x, i + 1, h => by
    simp only [be, List.getElem_cons_succ]
    rw [be_get n x i (by omega), show n + 1 - 1 - (i + 1) = n - 1 - i by omega]
def beS (n x : Nat) : ByteArray := ⟨(be n x).toArray⟩

/-! ### Taking a number out of bytes: a byte that is not there counts as 0 -/
def btz (s : ByteArray) (at_ : Int) (i : Nat) : Nat := if 0 ≤ at_ then (s.data.toList.getD (at_.toNat + i) 0).toNat else 0
theorem btz_lt (s : ByteArray) (a : Int) (i : Nat) : btz s a i < 256 := by
  unfold btz; split
  · exact UInt8.toNat_lt _
  · omega
theorem btz_in (s : ByteArray) (a i : Nat) (h : a + i < s.size) : btz s a i = (s[a + i]).toNat := by
  have h' : a + i < s.data.size := h
  unfold btz
  rw [if_pos (by omega)]
  congr 1
  rw [Int.toNat_natCast, List.getD_eq_getElem?_getD, List.getElem?_eq_getElem (by simpa using h')]
  rfl
theorem btz_out (s : ByteArray) (a : Int) (i : Nat) (h : a < 0 ∨ (s.size : Int) ≤ a + i) : btz s a i = 0 := by
  unfold btz
  split
  · have h' : s.size ≤ a.toNat + i := by omega
    have h'' : s.data.size ≤ a.toNat + i := h'
    rw [List.getD_eq_getElem?_getD, List.getElem?_eq_none (by simpa using h'')]
    rfl
  · rfl
def tkz (s : ByteArray) (a : Int) : Nat → Nat
  | 0 => 0
  | n + 1 => tkz s a n * 256 + btz s a n
theorem tkz_lt (s : ByteArray) (a : Int) : ∀ n, tkz s a n < 256 ^ n
  | 0 => by simp [tkz]
  | n + 1 => by
    have h1 := tkz_lt s a n
    have h2 := btz_lt s a n
    simp only [tkz, Nat.pow_succ]
    omega
theorem tkz_of (s : ByteArray) (a : Int) (x N : Nat) (hb : ∀ i, i < N → btz s a i = x / 256 ^ (N - 1 - i) % 256) :
    ∀ n, n ≤ N → tkz s a n = x / 256 ^ (N - n) % 256 ^ n
  | 0, _ => by simp [tkz, Nat.mod_one]
  | n + 1, h => by
    rw [tkz, tkz_of s a x N hb n (by omega), hb n (by omega)]
    have e1 : N - n = N - (n + 1) + 1 := by omega
    have e2 : N - 1 - n = N - (n + 1) := by omega
    rw [e1, e2, Nat.pow_succ, ← Nat.div_div_eq_div_mul, Nat.pow_succ, Nat.mul_comm (256 ^ n) 256, Nat.mod_mul]
    omega
theorem or_byte (x b : Nat) (hb : b < 256) : (x * 256 ||| b) = x * 256 + b :=
  nat_join 8 (x * 256) b (by omega) (by omega)

theorem tkz_lt4 (s : ByteArray) (a : Int) (k : Nat) (hk : k < 4) : tkz s a k < 16777216 :=
  Nat.lt_of_lt_of_le (tkz_lt s a k) (show 256 ^ k ≤ 256 ^ 3 from Nat.pow_le_pow_right (by decide) (by omega))
theorem tkz_lt8 (s : ByteArray) (a : Int) (k : Nat) (hk : k < 8) : tkz s a k < 72057594037927936 :=
  Nat.lt_of_lt_of_le (tkz_lt s a k) (show 256 ^ k ≤ 256 ^ 7 from Nat.pow_le_pow_right (by decide) (by omega))
theorem t32_step (s : ByteArray) (a : Int) (k : Nat) (hk : k < 4) :
    bits .or .u32 ((tkz s a k : Int) * 256 % 4294967296) ((btz s a k : Int) % 4294967296) = ((tkz s a (k + 1) : Nat) : Int) := by
  have h1 := tkz_lt4 s a k hk
  have h2 := btz_lt s a k
  have e1 : ((tkz s a k : Int) * 256 % 4294967296) = ((tkz s a k * 256 : Nat) : Int) := by omega
  have e2 : ((btz s a k : Int) % 4294967296) = ((btz s a k : Nat) : Int) := by omega
  rw [e1, e2, u32_or_nat _ _ (by omega) (by omega), or_byte _ _ h2]
  rfl
theorem t64_step (s : ByteArray) (a : Int) (k : Nat) (hk : k < 8) :
    bits .or .u64 (IntKind.u64.wrap ((tkz s a k : Int) * 256)) (IntKind.u64.wrap (btz s a k : Int)) = ((tkz s a (k + 1) : Nat) : Int) := by
  have h1 := tkz_lt8 s a k hk
  have h2 := btz_lt s a k
  rw [IntKind.wrap_u64, IntKind.wrap_u64]
  have e1 : ((tkz s a k : Int) * 256 % 18446744073709551616) = ((tkz s a k * 256 : Nat) : Int) := by omega
  have e2 : ((btz s a k : Int) % 18446744073709551616) = ((btz s a k : Nat) : Int) := by omega
  rw [e1, e2, u64_or_nat _ _ (by omega) (by omega), or_byte _ _ h2]
  rfl
theorem rt_step (s : ByteArray) (a : Int) (k b : Nat) (hk : k < 8) (hb : btz s a k = b) :
    IntKind.u64.wrap (IntKind.u64.wrap ((tkz s a k : Int) * 256) + IntKind.u64.wrap (b : Int)) = ((tkz s a (k + 1) : Nat) : Int) := by
  have h1 := tkz_lt8 s a k hk
  have h2 := btz_lt s a k
  rw [IntKind.wrap_u64, IntKind.wrap_u64, IntKind.wrap_u64, tkz]
  omega
theorem rt_step0 (s : ByteArray) (a : Int) (k : Nat) (hk : k < 8) (hb : btz s a k = 0) :
    IntKind.u64.wrap ((tkz s a k : Int) * 256) = ((tkz s a (k + 1) : Nat) : Int) := by
  have h1 := tkz_lt8 s a k hk
  rw [IntKind.wrap_u64, tkz, hb]
  omega

/-! ### Taking back what was put -/
theorem btz_mid (s t u : ByteArray) (i : Nat) (h : i < t.size) : btz (s ++ t ++ u) s.size i = (t.data.toList.getD i 0).toNat := by
  unfold btz
  rw [if_pos (by omega)]
  congr 1
  have h' : i < t.data.toList.length := by simpa using h
  have e : (s ++ t ++ u).data.toList = s.data.toList ++ (t.data.toList ++ u.data.toList) := by simp
  rw [e, Int.toNat_natCast, List.getD_eq_getElem?_getD, List.getD_eq_getElem?_getD, List.getElem?_append_right (by simp)]
  rw [show s.size + i - s.data.toList.length = i by simp, List.getElem?_append_left h']
theorem take_put (s u : ByteArray) (n x : Nat) (hx : x < 256 ^ n) : tkz (s ++ beS n x ++ u) s.size n = x := by
  have hl : (beS n x).size = n := by
    show (be n x).toArray.size = n
    simp [be_length]
  rw [tkz_of _ _ x n (fun i hi => ?_) n (Nat.le_refl n)]
  · simp [Nat.mod_eq_of_lt hx]
  · rw [btz_mid s (beS n x) u i (by omega)]
    have hi' : i < (be n x).length := by rw [be_length]; exact hi
    show ((be n x).toArray.toList.getD i 0).toNat = _
    rw [List.getD_eq_getElem?_getD, List.getElem?_eq_getElem hi', Option.getD_some, be_get n x i hi]
    simp
theorem take_put' (s : ByteArray) (n x : Nat) (hx : x < 256 ^ n) : tkz (s ++ beS n x) s.size n = x := by
  have h := take_put s ByteArray.empty n x hx
  rwa [ByteArray.append_empty] at h

end Go.Proofs.YtlfkkfacbcpogaaDoor
namespace Go.Proofs.YtlfkkfacbcpogaaDoor
set_option maxRecDepth 4000
open Go.RowKit

theorem Grown.trans {a b c : World} (h : Grown a b) (g : Grown b c) : Grown a c :=
  ⟨World.keptBut_trans h.1 (World.keptBut_mono (fun _ f => f) g.1), fun x => (g.2.1 x).trans (h.2.1 x), Nat.le_trans h.2.2 g.2.2⟩
theorem Grown.drewN {a b : World} (h : Grown a b) (n : Nat) : Grown a (b.drewN n) := h
theorem Grown.block {w w' : World} (h : Grown w w') (i : Nat) (hi : i < w.heap.size) : w'.heap[i]? = w.heap[i]? := by
  have h1 := h.1.2.2 i hi
  cases e : w.heap[i]? with
  | none => rw [e] at h1; simpa using h1
  | some o =>
    rw [e] at h1
    cases e' : w'.heap[i]? with
    | none => rw [e'] at h1; cases o <;> simp at h1
    | some o' =>
      rw [e'] at h1
      cases o <;> cases o' <;> simp at h1
      · obtain ⟨a, b, c, d⟩ := h1
        subst a; subst b
        have : ∀ (x y : Array Value), (∀ j : Nat, x[j]? = y[j]?) → x = y := fun x y hxy => Array.ext_getElem? hxy
        rw [this _ _ d]
      all_goals simp_all

def Rowz (w : World) (g : Nat) (C : Array Value) (T : TypeId) : Prop := w.heap[g]? = some (.cells C T (0, 0))
theorem Rowz.lt {w : World} {g : Nat} {C : Array Value} {T : TypeId} (h : Rowz w g C T) : g < w.heap.size := by
  unfold Rowz at h
  by_cases hg : g < w.heap.size
  · exact hg
  · rw [Array.getElem?_eq_none (by omega)] at h; cases h
theorem Rowz.cell {w : World} {g : Nat} {C : Array Value} {T : TypeId} (h : Rowz w g C T) (j : Nat) : w.cell? ⟨g, j, none⟩ = C[j]? := cell_of_row w g j C T (0, 0) h
theorem Rowz.free {w : World} {g : Nat} {C : Array Value} {T : TypeId} (h : Rowz w g C T) (j : Nat) : w.frozen? ⟨g, j, none⟩ = false := frozen_of_row w g j C T h
theorem Rowz.set {w : World} {g : Nat} {C : Array Value} {T : TypeId} (h : Rowz w g C T) (i : Nat) (v : Value) : Rowz (w.setCell ⟨g, i, none⟩ v) g (C.setIfInBounds i v) T := heap_setCell_same w g i C T v h
theorem Rowz.other {w : World} {g : Nat} {C : Array Value} {T : TypeId} (h : Rowz w g C T) (a : Addr) (v : Value) (hn : g ≠ a.block) : Rowz (w.setCell a v) g C T := (heap_setCell_other w a g v hn).trans h
theorem Rowz.alloc {w : World} {g : Nat} {C : Array Value} {T : TypeId} (h : Rowz w g C T) (o : Obj) : Rowz (w.alloc o) g C T := (Below.heap_alloc w o g h.lt).trans h
theorem Rowz.new (w : World) (C : Array Value) (T : TypeId) : Rowz (w.alloc (.cells C T)) w.heap.size C T := heap_alloc_new w _
theorem Rowz.newEq (w : World) (o : Obj) (C : Array Value) (T : TypeId) (h : o = .cells C T) : Rowz (w.alloc o) w.heap.size C T := by
  subst h; exact Rowz.new w C T
theorem Rowz.newEq1 (w : World) (o1 o : Obj) (C : Array Value) (T : TypeId) (h : o = .cells C T) : Rowz ((w.alloc o1).alloc o) (w.heap.size + 1) C T := by
  subst h; exact heap_alloc2_new w o1 _
theorem Rowz.drewN {w : World} {g : Nat} {C : Array Value} {T : TypeId} (h : Rowz w g C T) (n : Nat) : Rowz (w.drewN n) g C T := h
theorem Rowz.drew {w : World} {g : Nat} {C : Array Value} {T : TypeId} (h : Rowz w g C T) : Rowz w.drew g C T := h
theorem Rowz.grown {w w' : World} {g : Nat} {C : Array Value} {T : TypeId} (h : Rowz w g C T) (k : Grown w w') : Rowz w' g C T := (Grown.block k g h.lt).trans h
theorem Rowz.grownD {w w' : World} {g : Nat} {C : Array Value} {T : TypeId} (h : Rowz w g C T) (n : Nat) (k : Grown (w.drewN n) w') : Rowz w' g C T := Rowz.grown (w := w.drewN n) h k
theorem Grown.transD {a b c : World} (h : Grown a b) (n : Nat) (g : Grown (b.drewN n) c) : Grown a c := Grown.trans (b := b.drewN n) h g
theorem Rowz.row {w : World} {g : Nat} {C D : Array Value} {T : TypeId} (h : Rowz w g C T) : Rowz (w.setRow g D) g D T := setRow_heap w g C D T (0, 0) h
theorem Rowz.rowOther {w : World} {g k : Nat} {C D : Array Value} {T : TypeId} (h : Rowz w g C T) (hn : g ≠ k) : Rowz (w.setRow k D) g C T := (setRow_other w k g D hn).trans h
theorem Grown.setRow {w w' : World} (h : Grown w w') {g : Nat} {C : Array Value} {T : TypeId} (hr : Rowz w' g C T) (hg : w.heap.size ≤ g) (D : Array Value) : Grown w (w'.setRow g D) := by
  obtain ⟨⟨h1, h2, h3⟩, hf, hs⟩ := h
  refine ⟨⟨h1, h2, fun i hi => ?_⟩, fun x => ?_, by simpa using hs⟩
  · rw [setRow_other w' g i D (by omega)]; exact h3 i hi
  · rw [← hf x]
    by_cases hx : x.block = g
    · have e1 := setRow_heap w' g C D T (0, 0) hr
      have e2 : w'.heap[g]? = some (.cells C T (0, 0)) := hr
      simp [World.frozen?, hx, e1, e2]
    · simp [World.frozen?, setRow_other w' g x.block D hx]

/-- n cells of a row of words of 32 bits: the list, then zeros. -/
def wC (n : Nat) (l : List Nat) : Array Value := ((List.range n).map fun i => Value.int .u32 ((l.getD i 0 : Nat) : Int)).toArray
theorem wC_size (n : Nat) (l : List Nat) : (wC n l).size = n := by simp [wC]
theorem wC_get (n : Nat) (l : List Nat) (i : Nat) (h : i < n) : (wC n l)[i]? = some (.int .u32 ((l.getD i 0 : Nat) : Int)) := by simp [wC, h]
theorem wC_push (n : Nat) (l : List Nat) (v : Nat) (k : Nat) (hk : l.length = k) : (wC n l).setIfInBounds k (.int .u32 (v : Int)) = wC n (l ++ [v]) := by
  apply Array.ext
  · simp [wC]
  · intro i h1 h2
    rw [Array.getElem_setIfInBounds (by simpa [wC] using h2)]
    by_cases e : k = i
    · subst e; simp [wC, ← hk, List.getD_eq_getElem?_getD]
    · simp only [wC, e, if_false, List.getElem_toArray, List.getElem_map, List.getElem_range, List.getD_eq_getElem?_getD]
      congr 3
      by_cases hi : i < l.length
      · rw [List.getElem?_append_left hi]
      · rw [List.getElem?_eq_none (by omega), List.getElem?_eq_none (by simp; omega)]
theorem wC_set (n : Nat) (l : List Nat) (v k : Nat) (hl : l.length = n) (hk : k < n) : (wC n l).setIfInBounds k (.int .u32 (v : Int)) = wC n (l.set k v) := by
  apply Array.ext
  · simp [wC]
  · intro i h1 h2
    have hi : i < n := by simpa [wC] using h2
    rw [Array.getElem_setIfInBounds (by simpa [wC] using h2)]
    by_cases e : k = i
    · subst e; simp [wC, List.getD_eq_getElem?_getD, hl, hk]
    · simp only [wC, e, if_false, List.getElem_toArray, List.getElem_map, List.getElem_range, List.getD_eq_getElem?_getD]
      rw [List.getElem?_set_ne e]
theorem wC_one (n : Nat) (l : List Nat) : (wC n l).all (·.oneCell') = true := by
  rw [Array.all_eq_true_iff_forall_mem]
  intro x hx
  simp only [wC, List.mem_toArray, List.mem_map] at hx
  obtain ⟨i, _, rfl⟩ := hx
  rfl

theorem Rowz.push {w : World} {g n : Nat} {l : List Nat} {T : TypeId} (h : Rowz w g (wC n l) T) (k : Nat) (hk : l.length = k) (V : Int) (v : Nat) (hV : V = v) :
    Rowz (w.setCell ⟨g, k, none⟩ (.int .u32 V)) g (wC n (l ++ [v])) T := by
  subst hV; rw [← wC_push n l v k hk]; exact h.set k _
theorem Rowz.put {w : World} {g n : Nat} {l : List Nat} {T : TypeId} (h : Rowz w g (wC n l) T) (k : Nat) (hl : l.length = n) (hk : k < n) (V : Int) (v : Nat) (hV : V = v) :
    Rowz (w.setCell ⟨g, k, none⟩ (.int .u32 V)) g (wC n (l.set k v)) T := by
  subst hV; rw [← wC_set n l v k hl hk]; exact h.set k _
theorem Rowz.word {w : World} {g n : Nat} {l : List Nat} {T : TypeId} (h : Rowz w g (wC n l) T) (i : Nat) (hi : i < n) : w.cell? ⟨g, i, none⟩ = some (.int .u32 ((l.getD i 0 : Nat) : Int)) := by
  rw [h.cell, wC_get n l i hi]

/-- n cells of a row of bytes: the list, then zeros. -/
def bC (n : Nat) (l : List UInt8) : Array Value := ((List.range n).map fun i => Value.int .u8 (((l.getD i 0).toNat : Nat) : Int)).toArray
theorem bC_size (n : Nat) (l : List UInt8) : (bC n l).size = n := by simp [bC]
theorem bC_get (n : Nat) (l : List UInt8) (i : Nat) (h : i < n) : (bC n l)[i]? = some (.int .u8 (((l.getD i 0).toNat : Nat) : Int)) := by simp [bC, h]
theorem bC_push (n : Nat) (l : List UInt8) (v : UInt8) (k : Nat) (hk : l.length = k) : (bC n l).setIfInBounds k (.int .u8 ((v.toNat : Nat) : Int)) = bC n (l ++ [v]) := by
  apply Array.ext
  · simp [bC]
  · intro i h1 h2
    rw [Array.getElem_setIfInBounds (by simpa [bC] using h2)]
    by_cases e : k = i
    · subst e; simp [bC, ← hk, List.getD_eq_getElem?_getD]
    · simp only [bC, e, if_false, List.getElem_toArray, List.getElem_map, List.getElem_range, List.getD_eq_getElem?_getD]
      congr 4
      by_cases hi : i < l.length
      · rw [List.getElem?_append_left hi]
      · rw [List.getElem?_eq_none (by omega), List.getElem?_eq_none (by simp; omega)]
theorem bC_one (n : Nat) (l : List UInt8) : (bC n l).all (·.oneCell') = true := by
  rw [Array.all_eq_true_iff_forall_mem]
  intro x hx
  simp only [bC, List.mem_toArray, List.mem_map] at hx
  obtain ⟨i, _, rfl⟩ := hx
  rfl
theorem Rowz.pushB {w : World} {g n : Nat} {l : List UInt8} {T : TypeId} (h : Rowz w g (bC n l) T) (k : Nat) (hk : l.length = k) (V : Int) (v : UInt8) (hV : V = v.toNat) :
    Rowz (w.setCell ⟨g, k, none⟩ (.int .u8 V)) g (bC n (l ++ [v])) T := by
  subst hV; rw [← bC_push n l v k hk]; exact h.set k _
theorem Rowz.byte {w : World} {g n : Nat} {l : List UInt8} {T : TypeId} (h : Rowz w g (bC n l) T) (i : Nat) (hi : i < n) : w.cell? ⟨g, i, none⟩ = some (.int .u8 (((l.getD i 0).toNat : Nat) : Int)) := by
  rw [h.cell, bC_get n l i hi]
theorem Rowz.load {P : Program} {w : World} {g : Nat} {C : Array Value} {T : TypeId} (h : Rowz w g C T) (n : Nat) (e : TypeId) (hu : P.underlying T = some (.array n e)) (hi : (P.info? T).map (·.size) = some C.size) :
    (Instr.loadAt T (.pointer (some ⟨g, 0, none⟩))).run P w = .ok (.agg C) w := by
  simp only [Instr.loadAt, Instr.sureAddr, Sem.run_bind, Sem.run_pure, Result.andThen]
  exact run_loadVar_row w g T T C (0, 0) _ h hu rfl hi

theorem wpStill_load_row {P : Program} {ops : Array Oper} {rest : List Oper} {o : Oper} {a : Act} {w : World} {Q : Act → Prop} (hgd : o.guard = none) (ty : TypeId) (x : Operand) (ho : o.op = .load ty x)
    (g : Nat) (hx : a.eval x = .pointer (some ⟨g, 0, none⟩)) (t : TypeId) (cs : Array Value) (fr : Nat × Nat) (d : TypeDesc) (hg : w.heap[g]? = some (.cells cs t fr))
    (hu : P.underlying ty = some d) (hd : (match d with | .struct _ | .array _ _ => true | _ => false) = true) (hi : (P.info? ty).map (·.size) = some cs.size)
    (h : wpStill P ops w Q rest (a.put o.dst (.agg cs))) : wpStill P ops w Q (o :: rest) a := by
  rw [wpStill, if_pos (by simp [Region.wanted, hgd])]
  unfold Oper.still execOp
  simp only [ho, hx, Instr.loadAt, Instr.sureAddr, Sem.run_bind, Sem.run_pure, Result.andThen_ok, run_loadVar_row w g t ty cs fr d hg hu hd hi]
  exact ⟨rfl, h⟩

end Go.Proofs.YtlfkkfacbcpogaaDoor
namespace Go.Proofs.YtlfkkfacbcpogaaDoor
set_option maxRecDepth 4000
open Go.RowKit

theorem ret_int {k : IntKind} {a b : Int} (h : a = b) : Ending.returned (.int k a) = .returned (.int k b) := by rw [h]

theorem rot_val (x k : Nat) (hx : x < 4294967296) : bits .or .u32 ((x : Int) / 2 ^ k) ((x : Int) * 2 ^ (32 - k) % 4294967296) = ((rotr x k : Nat) : Int) := by
  have h1 : ((x : Int) / 2 ^ k) = ((x / 2 ^ k : Nat) : Int) := by simp
  have h2 : ((x : Int) * 2 ^ (32 - k) % 4294967296) = ((x * 2 ^ (32 - k) % 4294967296 : Nat) : Int) := by simp
  rw [h1, h2, u32_or_nat _ _ (Nat.lt_of_le_of_lt (Nat.div_le_self _ _) hx) (Nat.mod_lt _ (by decide))]
  rfl

set_option maxHeartbeats 400000 in
theorem rot_any (x : Nat) (n : Int) (w : World) (hx : x < 4294967296) :
    Calls Tryd.prog 81 #[.int .u32 x, .int .i64 n] w fun e w' => e = .returned (.int .u32 (rotr x (n % 32).toNat : Nat)) ∧ w = w' := by
  obtain ⟨k, hk⟩ : ∃ k : Nat, k = (n % 32).toNat := ⟨_, rfl⟩
  have hk' : k < 32 := by omega
  have ha := and31 n
  rw [← hk] at ha ⊢
  clear hk
  go_enter Tryd.func81, Tryd.ntmps81
  go_wp2
  go_ret
  exact ⟨ret_int (rot_val x k hx), rfl⟩

set_option maxHeartbeats 400000 in
theorem byteAt_any (s : ByteArray) (a : Int) (i : Nat) (w : World) (hs : s.size ≤ maxLen) (hi : i < 8) (ha1 : -9223372036854775808 ≤ a) (ha2 : a ≤ 9223372036854775807) :
    Calls Tryd.prog 85 #[.string s, .int .i64 a, .int .i64 i] w fun e w' => e = .returned (.int .u8 (btz s a i : Nat)) ∧ w = w' := by
  unfold maxLen at hs
  by_cases h0 : a < 0
  · have HZ := Lib.hid (btz_out s a i (Or.inl h0))
    go_enter Tryd.func85, Tryd.ntmps85
    go_wp2
    go_ret
    exact ⟨ret_int (by rw [HZ.out]; rfl), rfl⟩
  · obtain ⟨A, rfl⟩ := Int.eq_ofNat_of_zero_le (show 0 ≤ a by omega)
    by_cases h1 : (s.size : Int) - A ≤ i
    · have HZ := Lib.hid (btz_out s A i (Or.inr (by omega)))
      go_enter Tryd.func85, Tryd.ntmps85
      go_wp2
      go_ret
      exact ⟨ret_int (by rw [HZ.out]; rfl), rfl⟩
    · have h2 : A + i < s.size := by omega
      have HZ := Lib.hid (btz_in s A i h2)
      go_enter Tryd.func85, Tryd.ntmps85
      go_wp2
      go_ret
      exact ⟨ret_int (by rw [HZ.out]), rfl⟩

set_option maxHeartbeats 400000 in
theorem take32_any (s : ByteArray) (a : Int) (w : World) (hs : s.size ≤ maxLen) (ha1 : -9223372036854775808 ≤ a) (ha2 : a ≤ 9223372036854775807) :
    Calls Tryd.prog 82 #[.string s, .int .i64 a] w fun e w' => e = .returned (.int .u32 (tkz s a 4 : Nat)) ∧ w = w' := by
  go_enter Tryd.func82, Tryd.ntmps82
  go_wp2
  go_loop [5, 7] (fun x i => ∃ k : Nat, k ≤ 4 ∧ i = .int .i64 k ∧ x = .int .u32 (tkz s a k : Nat)) (fun _ i => 4 - (intOf i).toNat)
  case atStart => exact ⟨0, by omega, rfl, rfl⟩
  case round =>
    obtain ⟨k, hk, rfl, rfl⟩ := hrel
    by_cases hlt : k < 4
    · go_wp2_with (go_at_call 85; refine (byteAt_any s a k _ hs (by omega) ha1 ha2).mono ?_; rintro e w' ⟨rfl, rfl⟩)
      go_round
      case rel => exact ⟨k + 1, by omega, by go_num, by rw [t32_step s a k hlt]⟩
      case measure => simp [intOf]; omega
    · go_wp2
      go_ret
      exact ⟨ret_int (by rw [show k = 4 by omega]), rfl⟩

set_option maxHeartbeats 400000 in
theorem refTake_any (s : ByteArray) (a : Int) (n : Nat) (w : World) (hs : s.size ≤ maxLen) (hn : n ≤ 8) (ha1 : -9223372036854775808 ≤ a) (ha2 : a ≤ 9223372036854775807) :
    Calls Tryd.prog 80 #[.string s, .int .i64 a, .int .i64 n] w fun e w' => e = .returned (.int .u64 (tkz s a n : Nat)) ∧ w = w' := by
  unfold maxLen at hs
  go_enter Tryd.func80, Tryd.ntmps80
  go_wp2
  go_loop [7, 8] (fun x i => ∃ k : Nat, k ≤ n ∧ i = .int .i64 k ∧ x = .int .u64 (tkz s a k : Nat)) (fun _ i => n - (intOf i).toNat)
  case atStart => exact ⟨0, by omega, rfl, rfl⟩
  case round =>
    obtain ⟨k, hk, rfl, rfl⟩ := hrel
    by_cases hlt : k < n
    · by_cases h0 : a < 0
      · have HZ := Lib.hid (btz_out s a k (Or.inl h0))
        go_wp2
        go_round
        case rel => exact ⟨k + 1, by omega, by go_num, by rw [rt_step0 s a k (by omega) HZ.out]⟩
        case measure => simp [intOf]; omega
      · obtain ⟨A, rfl⟩ := Int.eq_ofNat_of_zero_le (show 0 ≤ a by omega)
        by_cases h3 : A + k < s.size
        · have HZ := Lib.hid (btz_in s A k h3)
          go_wp2
          go_round
          case rel => exact ⟨k + 1, by omega, by go_num, by rw [rt_step s A k _ (by omega) HZ.out]⟩
          case measure => simp [intOf]; omega
        · have HZ := Lib.hid (btz_out s A k (Or.inr (by omega)))
          by_cases h4 : A < s.size
          · go_wp2
            go_round
            case rel => exact ⟨k + 1, by omega, by go_num, by rw [rt_step0 s A k (by omega) HZ.out]⟩
            case measure => simp [intOf]; omega
          · go_wp2
            go_round
            case rel => exact ⟨k + 1, by omega, by go_num, by rw [rt_step0 s A k (by omega) HZ.out]⟩
            case measure => simp [intOf]; omega
    · go_wp2
      go_ret
      exact ⟨ret_int (by rw [show k = n by omega]), rfl⟩

end Go.Proofs.YtlfkkfacbcpogaaDoor
namespace Go.Proofs.YtlfkkfacbcpogaaDoor
set_option maxRecDepth 4000
open Go.RowKit

theorem ret_str {a b : ByteArray} (h : a = b) : Ending.returned (.string a) = .returned (.string b) := by rw [h]

theorem beS_size (n x : Nat) : (beS n x).size = n := by
  show (be n x).toArray.size = n
  simp [be_length]
theorem beS_cons (k x y : Nat) (t : ByteArray) (ht : t = beS k x) (hy : y = x / 256 ^ k) : (⟨#[UInt8.ofNat (y % 256)]⟩ : ByteArray) ++ t = beS (k + 1) x := by
  subst ht; subst hy
  apply ByteArray.ext
  rw [ByteArray.data_append]
  have e : UInt8.ofNat (x / 256 ^ k % 256) = UInt8.ofNat (x / 256 ^ k) := by
    apply UInt8.toNat_inj.1; simp
  simp [beS, be, e]

def putC (n x k : Nat) : Array Value := ((List.range n).map fun i => Value.int .u8 (if i < k then ((x / 256 ^ (n - 1 - i) % 256 : Nat) : Int) else 0)).toArray
theorem putC_size (n x k : Nat) : (putC n x k).size = n := by simp [putC]
theorem putC_step (n x k : Nat) : (putC n x k).setIfInBounds k (.int .u8 ((x / 256 ^ (n - 1 - k) % 256 : Nat) : Int)) = putC n x (k + 1) := by
  apply Array.ext
  · simp [putC]
  · intro i h1 h2
    rw [Array.getElem_setIfInBounds (by simpa [putC] using h2)]
    by_cases e : k = i
    · subst e; simp [putC]
    · simp only [putC, e, if_false, List.getElem_toArray, List.getElem_map, List.getElem_range]
      have e2 : (i < k + 1) = (i < k) := by apply propext; omega
      simp only [e2]
theorem putC_step' (n x k m : Nat) (v : Int) (_h : k < n) (hm : m = 8 * (n - 1)) (hv : v = (x : Int) / 2 ^ (m - 8 * k) % 256) : (putC n x k).setIfInBounds k (.int .u8 v) = putC n x (k + 1) := by
  rw [← putC_step n x k]
  congr 2
  rw [hv, hm, show 8 * (n - 1) - 8 * k = 8 * (n - 1 - k) by omega, Int.pow_mul]
  simp
theorem run_put (n T x : Nat) (C : Array Value) (w : World) (hC : C = putC n x n) :
    (convert 62 9 (.slice (some ⟨w.heap.size, 0, none⟩) n n)).run Tryd.prog (w.alloc (.cells C T)) = .ok (.string (beS n x)) (w.alloc (.cells C T)) := by
  subst hC
  have h := run_convert_bytes_back (P := Tryd.prog) (w.alloc (.cells (putC n x n) T)) 62 9 5 ⟨w.heap.size, 0, none⟩ n (be n x) Tryd.underlying62 Tryd.underlying5 Tryd.underlying9 (fun j hj => by
    have hj' : j < n := by simpa [be_length] using hj
    rw [show (⟨w.heap.size, 0, none⟩ : Addr).add j = ⟨w.heap.size, j, none⟩ by simp [Addr.add]; omega, World.cell?_alloc_at _ _ _ _ rfl, be_get n x j hj']
    simp [putC, hj'])
  rw [be_length] at h
  exact h

set_option maxHeartbeats 400000 in
theorem put64_any (x : Nat) (w : World) (_hx : x < 18446744073709551616) :
    Calls Tryd.prog 53 #[.int .u64 x] w fun e w' => e = .returned (.string (beS 8 x)) ∧ Grown w w' := by
  go_enter Tryd.func53, Tryd.ntmps53
  go_wp2
  go_loopw [5] (fun i wr => ∃ (k : Nat) (C : Array Value), k ≤ 8 ∧ i = .int .i64 k ∧ Hid (C = putC 8 x k) ∧ wr = w.alloc (.cells C 86)) (fun i _ => 8 - (intOf i).toNat)
  case atStart => exact ⟨0, _, by omega, rfl, Lib.hid (by rfl), rfl⟩
  case round =>
    obtain ⟨k, C, hk, rfl, HC, rfl⟩ := hrel
    by_cases hlt : k < 8
    · have hcell : C[k]? = some (.int .u8 0) := by rw [HC.out]; simp [putC, hlt]
      go_wp2
      go_roundw
      case rel => exact ⟨k + 1, _, by omega, by go_num, Lib.hid (by rw [HC.out]; exact putC_step' 8 x k 56 _ hlt (by omega) (by omega)), rfl⟩
      case measure => simp [intOf]; omega
    · have HC' : Hid (C = putC 8 x 8) := Lib.hid (by rw [HC.out, show k = 8 by omega])
      have hr := run_put 8 86 x C w HC'.out
      go_wp2
      go_ret
      exact ⟨rfl, (Grown.refl _).alloc _ _⟩

set_option maxHeartbeats 400000 in
theorem put32_any (x : Nat) (w : World) (_hx : x < 4294967296) :
    Calls Tryd.prog 76 #[.int .u32 x] w fun e w' => e = .returned (.string (beS 4 x)) ∧ Grown w w' := by
  go_enter Tryd.func76, Tryd.ntmps76
  go_wp2
  go_loopw [5] (fun i wr => ∃ (k : Nat) (C : Array Value), k ≤ 4 ∧ i = .int .i64 k ∧ Hid (C = putC 4 x k) ∧ wr = w.alloc (.cells C 107)) (fun i _ => 4 - (intOf i).toNat)
  case atStart => exact ⟨0, _, by omega, rfl, Lib.hid (by rfl), rfl⟩
  case round =>
    obtain ⟨k, C, hk, rfl, HC, rfl⟩ := hrel
    by_cases hlt : k < 4
    · have hcell : C[k]? = some (.int .u8 0) := by rw [HC.out]; simp [putC, hlt]
      go_wp2
      go_roundw
      case rel => exact ⟨k + 1, _, by omega, by go_num, Lib.hid (by rw [HC.out]; exact putC_step' 4 x k 24 _ hlt (by omega) (by omega)), rfl⟩
      case measure => simp [intOf]; omega
    · have HC' : Hid (C = putC 4 x 4) := Lib.hid (by rw [HC.out, show k = 4 by omega])
      have hr := run_put 4 107 x C w HC'.out
      go_wp2
      go_ret
      exact ⟨rfl, (Grown.refl _).alloc _ _⟩

theorem run_byte (n : Nat) (w : World) (hn : n < 256) : (convert 62 9 (.slice (some ⟨w.heap.size, 0, none⟩) 1 1)).run Tryd.prog (w.alloc (.cells #[.int .u8 n] 5)) = .ok (.string ⟨#[UInt8.ofNat n]⟩) (w.alloc (.cells #[.int .u8 n] 5)) :=
  run_convert_bytes_back (P := Tryd.prog) _ 62 9 5 ⟨w.heap.size, 0, none⟩ 1 [UInt8.ofNat n] Tryd.underlying62 Tryd.underlying5 Tryd.underlying9 (fun j hj => by
    have e : j = 0 := by simp at hj; omega
    subst e
    rw [show (⟨w.heap.size, 0, none⟩ : Addr).add 0 = ⟨w.heap.size, 0, none⟩ from rfl, World.cell?_alloc_at _ _ _ _ rfl]
    simp; omega)

set_option maxHeartbeats 400000 in
theorem byte_any (n : Nat) (w : World) (hn : n < 256) :
    Calls Tryd.prog 61 #[.int .i64 n] w fun e w' => e = .returned (.string ⟨#[UInt8.ofNat n]⟩) ∧ Grown w w' := by
  have hr := run_byte n w hn
  go_enter Tryd.func61, Tryd.ntmps61
  go_wp2
  go_ret
  exact ⟨rfl, (Grown.refl _).alloc _ _⟩

set_option maxHeartbeats 400000 in
theorem refPut_any (x n : Nat) (w : World) (hx : x < 18446744073709551616) (hn : n ≤ 8) :
    Calls Tryd.prog 60 #[.int .u64 x, .int .i64 n] w fun e w' => e = .returned (.string (beS n x)) ∧ Grown w w' := by
  go_enter Tryd.func60, Tryd.ntmps60
  go_wp2
  go_loopw [0, 5, 6] (fun a s i wr => ∃ (k y : Nat) (t : ByteArray), k ≤ n ∧ y < 18446744073709551616 ∧ t.size ≤ 8 ∧ i = .int .i64 k ∧ a = .int .u64 y ∧ s = .string t ∧ Hid (t = beS k x) ∧ Hid (y = x / 256 ^ k) ∧ Grown w wr) (fun _ _ i _ => n - (intOf i).toNat)
  case atStart => exact ⟨0, x, _, by omega, hx, by decide, rfl, rfl, rfl, Lib.hid rfl, Lib.hid (by simp), Grown.refl _⟩
  case round =>
    obtain ⟨k, y, t, hk, hy, ht, rfl, rfl, rfl, HT, HY, hg⟩ := hrel
    by_cases hlt : k < n
    · go_wp2_with (go_at_call 61; refine (byte_any (y % 256) _ (by omega)).mono ?_; rintro e w' ⟨rfl, hg2⟩)
      go_roundw
      case rel =>
        have hsz : t.size = k := by rw [HT.out, beS_size]
        exact ⟨k + 1, y / 256, _, by omega, by omega, by rw [ByteArray.size_append, hsz]; show 1 + k ≤ 8; omega, by go_num, by go_num, rfl, Lib.hid (beS_cons k x y t HT.out HY.out), Lib.hid (by rw [HY.out, Nat.pow_succ, Nat.div_div_eq_div_mul]), Grown.trans hg hg2⟩
      case measure => simp [intOf]; omega
    · go_wp2
      go_ret
      exact ⟨ret_str (by rw [HT.out, show k = n by omega]), hg⟩

end Go.Proofs.YtlfkkfacbcpogaaDoor
namespace Go.Proofs.YtlfkkfacbcpogaaDoor
set_option maxRecDepth 4000
open Go.RowKit

/-! ### Whole rows in a drawn region -/
theorem yieldsIf_load_row {P : Program} {ops : Array Oper} {S : World → Prop} {op : Oper} {a : Act} (hw : Region.wanted op (yielded ops a.tmps) = true) (ty : TypeId) (x : Operand) (ho : op.op = .load ty x)
    (g : Nat) (hx : a.eval x = .pointer (some ⟨g, 0, none⟩)) (C : Array Value) (t : TypeId) (d : TypeDesc) (hS : ∀ w, S w → Rowz w g C t)
    (hu : P.underlying ty = some d) (hd : (match d with | .struct _ | .array _ _ => true | _ => false) = true) (hi : (P.info? ty).map (·.size) = some C.size) : YieldsIf P ops S op (.agg C) a :=
  .inl ⟨hw, fun w hw' => by
    unfold execOp
    simp only [ho, hx, Instr.loadAt, Instr.sureAddr, Sem.run_bind, Sem.run_pure, Result.andThen_ok, run_loadVar_row w g t ty C (0, 0) d (hS w hw') hu hd hi]⟩

/-- An operation taken first, its slot by number: the frame stays written out. -/
theorem wpAnyH_take1 {P : Program} {md : Region.Mode} {ops : Array Oper} {Q : Exit → Act → World → Prop} {S : World → Prop} (i d : Nat) (v : Value) {oi : Oper} {fuel : Nat} {listed : Array Bool} {tmps : Array Value} {defers} {w : World} (hi : ops[i]? = some oi) (hd : oi.dst = some d)
    (hs : Region.noSelect ops = true) (hf : Region.free md ops listed i = true) (hr : (Region.ready md ops listed).contains i = true)
    (hQ : ∀ c a w, Q (.panic c) (a.put oi.dst v) w → Q (.panic c) a w) (hS : S w) (hy : YieldsIf P ops S oi v ⟨tmps, defers⟩)
    (h : wpAnyH P md ops Q S fuel (listed.setIfInBounds i true) ⟨tmps.setIfInBounds d v, defers⟩ w) : wpAnyH P md ops Q S (fuel + 1) listed ⟨tmps, defers⟩ w := by
  refine wpAnyH_take hi hs hf hr hQ hy hS ?_
  have e : (Act.mk tmps defers).put oi.dst v = ⟨tmps.setIfInBounds d v, defers⟩ := by rw [hd]; rfl
  rw [e]
  exact h
theorem results_row_tmp {P : Program} {fn : Func} {p u : Tmp} {ty : TypeId} (h : fn.results = #[.cell p ty, .tmp u]) (tmps : Array Value) (w : World) (g : Nat) (t : TypeId) (cs : Array Value) (d : TypeDesc) (v : Value)
    (hp : tmps.getD p undef = .pointer (some ⟨g, 0, none⟩)) (hv : tmps.getD u undef = v) (hg : Rowz w g cs t)
    (hu : P.underlying ty = some d) (hd : (match d with | .struct _ | .array _ _ => true | _ => false) = true) (hi : (P.info? ty).map (·.size) = some cs.size) :
    (results fn tmps).run P w = .ok (.tuple #[.agg cs, v]) w := by
  rw [results_cell_tmp h, hp, hv]
  simp [asAddr, run_loadVar_row w g t ty cs (0, 0) d hg hu hd hi, Result.andThen]
theorem yieldsIf_convert {P : Program} {ops : Array Oper} {S : World → Prop} {op : Oper} {a : Act} (hw : Region.wanted op (yielded ops a.tmps) = true) (f t : TypeId) (x : Operand) (ho : op.op = .convert f t x)
    (u v : Value) (hx : a.eval x = u) (hS : ∀ w, S w → (convert f t u).run P w = .ok v w) : YieldsIf P ops S op v a :=
  .inl ⟨hw, fun w hw' => by
    unfold execOp
    simp only [ho, hx, Sem.run_bind, Sem.run_pure, hS w hw', Result.andThen_ok]⟩

theorem yieldsIf_slice {P : Program} {ops : Array Oper} {S : World → Prop} {op : Oper} {a : Act} (hw : Region.wanted op (yielded ops a.tmps) = true) (t : TypeId) (x : Operand) (lo hi mx : Option Operand) (ho : op.op = .slice t x lo hi mx)
    (u v : Value) (lo' hi' mx' : Option Value) (hx : a.eval x = u) (hlo : lo.map a.eval = lo') (hhi : hi.map a.eval = hi') (hmx : mx.map a.eval = mx') (hS : ∀ w, S w → (Instr.sliceAt t u lo' hi' mx').run P w = .ok v w) : YieldsIf P ops S op v a :=
  .inl ⟨hw, fun w hw' => by
    unfold execOp
    simp only [ho, hx, hlo, hhi, hmx, Sem.run_bind, Sem.run_pure, hS w hw', Result.andThen_ok]⟩

theorem run_slice_tail (s : ByteArray) (n : Nat) (w : World) (hn : n ≤ s.size) : (Instr.sliceAt 9 (.string s) (some (.int .i64 (n : Int))) none none).run Tryd.prog w = .ok (.string (s.extract n s.size)) w := by
  have h : (n : Int) ≤ (s.size : Int) := by omega
  go_simp
theorem run_slice_head (s : ByteArray) (n : Nat) (w : World) (hn : n ≤ s.size) : (Instr.sliceAt 9 (.string s) none (some (.int .i64 (n : Int))) none).run Tryd.prog w = .ok (.string (s.extract 0 n)) w := by
  have h : (n : Int) ≤ (s.size : Int) := by omega
  go_simp
/-! ### Bytes made, and read back as a string -/
theorem madeCells_bytes (n : Nat) : madeCells (Value.int .u8 0).cells n = bC n [] := by
  apply Array.ext
  · simp [madeCells, bC]
  · intro i h1 h2
    simp [madeCells, bC, Value.cells, Nat.mod_one]
theorem run_makeB (n : Nat) (w : World) (hn : n ≤ 1000000) :
    (Instr.makeSlice 62 (.int .u64 (n : Int)) (.int .u64 (n : Int))).run Tryd.prog w = .ok (.slice (some ⟨w.heap.size, 0, none⟩) n n) (w.alloc (.cells (bC n []) 5)) := by
  obtain ⟨i, hi⟩ : ∃ i, Tryd.prog.info? 5 = some i := Option.isSome_iff_exists.1 (by kernel_rfl)
  have hz : i.zero = some (.int .u8 0) := by
    have h : (Tryd.prog.info? 5).bind (·.zero) = some (.int .u8 0) := by kernel_rfl
    rw [hi] at h; exact h
  have hs : i.size = 1 := by
    have h : (Tryd.prog.info? 5).map (·.size) = some 1 := by kernel_rfl
    rw [hi] at h; exact Option.some.inj h
  have hb : i.bytes = 1 := by
    have h : (Tryd.prog.info? 5).map (·.bytes) = some 1 := by kernel_rfl
    rw [hi] at h; exact Option.some.inj h
  have h := run_makeSlice (P := Tryd.prog) w 62 5 i _ Tryd.underlying62 hi hz .u64 .u64 (n : Int) (n : Int) (by omega) (by omega) (by rw [hs]; omega) (by rw [hb]; omega) (by omega)
  rw [hs, Int.toNat_natCast, Nat.mul_one, madeCells_bytes] at h
  exact h
theorem run_strB (w : World) (g o cap : Nat) (l : List UInt8) (h : ∀ j (hj : j < l.length), w.cell? ⟨g, o + j, none⟩ = some (.int .u8 (l[j].toNat : Int))) :
    (convert 62 9 (.slice (some ⟨g, o, none⟩) l.length cap)).run Tryd.prog w = .ok (.string ⟨l.toArray⟩) w :=
  run_convert_bytes_back (P := Tryd.prog) w 62 9 5 ⟨g, o, none⟩ cap l Tryd.underlying62 Tryd.underlying5 Tryd.underlying9 (fun j hj => by
    rw [← h j hj, show (⟨g, o, none⟩ : Addr).add j = ⟨g, o + j, none⟩ by simp [Addr.add]])

end Go.Proofs.YtlfkkfacbcpogaaDoor
namespace Go.Proofs.YtlfkkfacbcpogaaDoor
set_option maxRecDepth 4000
open Go.RowKit

/-! ### Only new memory is made; blocks made since may be frozen (strings.Builder) -/
def Kept (W w' : World) : Prop := W.keptBut w' (fun _ => False)
theorem Kept.refl (w : World) : Kept w w := World.keptBut_refl _ _
theorem Kept.trans {a b c : World} (h : Kept a b) (g : Kept b c) : Kept a c := World.keptBut_trans h g
theorem Kept.drew {a b : World} (h : Kept a b) : Kept a b.drew := h
theorem Kept.ofDrew {a b : World} (h : Kept a.drew b) : Kept a b := h
theorem Kept.size {a b : World} (h : Kept a b) : a.heap.size ≤ b.heap.size := World.keptBut.size h
theorem Kept.block {w w' : World} (h : Kept w w') (i : Nat) (hi : i < w.heap.size) : w'.heap[i]? = w.heap[i]? := World.keptBut.block h hi (fun _ f => f.elim)
theorem Kept.alloc {a b : World} (h : Kept a b) (o : Obj) : Kept a (b.alloc o) := World.keptBut_trans h (World.keptBut_alloc _ _ _)
theorem Kept.frame {a b : World} (h : Kept a b) (may : MemPlace → Prop) : a.keptBut b may := World.keptBut_mono (fun _ f => f.elim) h
theorem Kept.frozen {a b : World} (h : Kept a b) (p : Addr) (hp : p.block < a.heap.size) : b.frozen? p = a.frozen? p := World.frozen?_of_block (w := a) (h.block p.block hp)
theorem Kept.cellAt {a b : World} (h : Kept a b) (p : Addr) (hp : p.block < a.heap.size) : b.cell? p = a.cell? p := World.cell?_of_block (w := a) (h.block p.block hp)
theorem Grown.kept {a b : World} (h : Grown a b) : Kept a b := h.1
theorem kept_below {a b : World} (h : Below a.heap.size a b) : Kept a b := h.frame _
theorem Kept.same {a b : World} (h : a = b) : Kept a b := h ▸ Kept.refl a
theorem Rowz.kept {w w' : World} {g : Nat} {C : Array Value} {T : TypeId} (h : Rowz w g C T) (k : Kept w w') : Rowz w' g C T := (k.block g h.lt).trans h

/-! ### The slots -/
/-- What a slot holds. -/
def slot (t : Array Value) (s : Nat) : Value := t.getD s undef
def evS (t : Array Value) : Operand → Value
  | .tmp s => slot t s
  | .const v => v
  | .global g => .pointer (some ⟨g, 0, none⟩)
  | .func f => .func (.func f) #[] #[]
theorem evS_eq (t : Array Value) (ds : List Deferred) : Act.eval ⟨t, ds⟩ = evS t := by
  funext x
  cases x <;> rfl

def dstOf (ops : Array Oper) (j : Nat) : Option Nat := (ops[j]?).bind (·.dst)
/-- The slots of the operations that this one waits for. -/
def predSlots (ops : Array Oper) (o : Oper) : List Nat := (o.after.toList.filter (Region.binds .any ·)).filterMap fun e => dstOf ops e.on
def hasPred (ops : Array Oper) (o : Oper) (s : Nat) : Bool := (predSlots ops o).contains s
def gslot (ops : Array Oper) (o : Oper) : Option (Option Nat × Bool) := o.guard.map fun (j, b) => (dstOf ops j, b)
def slotFree (ops : Array Oper) (s : Nat) : Bool := ops.all fun o => o.dst != some s
def edgesBack : Nat → List Oper → Bool
  | _, [] => true
  | i, o :: r => o.after.all (fun e => !(Region.binds .any e) || decide (e.on < i)) && edgesBack (i + 1) r
def fine (ops : Array Oper) (n : Nat) : Bool := edgesBack 0 ops.toList && ops.all fun o => match o.dst with | some d => decide (d < n) | none => false

/-- One operation makes its fact. -/
inductive StepOK (P : Program) (F : Nat → Value → World → Prop) (d : Nat) (o : Oper) (t : Array Value) (w : World) : Prop
  | value (v : Value) (w' : World) (h : (execOp (evS t) o).run P w = .ok (.value v) w') (k : Kept w w') (f : F d v w')
  | call (g : FuncId) (args : Array Value) (h : (execOp (evS t) o).run P w = .ok (.enter g args) w) (c : Calls P g args w fun e w' => ∃ v, e = .returned v ∧ Kept w w' ∧ F d v w')

def StepAt (P : Program) (ops : Array Oper) (F : Nat → Value → World → Prop) (o : Oper) (t : Array Value) (w : World) : Prop :=
  match gslot ops o with
  | none => StepOK P F (o.dst.getD 0) o t w
  | some (none, _) => False
  | some (some s, b) => (slot t s = .bool b ∧ StepOK P F (o.dst.getD 0) o t w) ∨ (slot t s = .bool (!b) ∧ F (o.dst.getD 0) undef w)

theorem stepAt_plain {P : Program} {ops : Array Oper} {F : Nat → Value → World → Prop} {o : Oper} {t : Array Value} {w : World} (hg : o.guard = none) (h : StepOK P F (o.dst.getD 0) o t w) : StepAt P ops F o t w := by
  unfold StepAt gslot; rw [hg]; exact h
theorem stepAt_on {P : Program} {ops : Array Oper} {F : Nat → Value → World → Prop} {o : Oper} {t : Array Value} {w : World} (s : Nat) (b : Bool) (hg : gslot ops o = some (some s, b)) (hs : slot t s = .bool b) (h : StepOK P F (o.dst.getD 0) o t w) : StepAt P ops F o t w := by
  unfold StepAt; rw [hg]; exact .inl ⟨hs, h⟩
theorem stepAt_off {P : Program} {ops : Array Oper} {F : Nat → Value → World → Prop} {o : Oper} {t : Array Value} {w : World} (s : Nat) (b : Bool) (hg : gslot ops o = some (some s, b)) (hs : slot t s = .bool (!b)) (h : F (o.dst.getD 0) undef w) : StepAt P ops F o t w := by
  unfold StepAt; rw [hg]; exact .inr ⟨hs, h⟩

/-- A guard that is a Boolean of the frame: both ways at once. -/
theorem stepAt_sym {P : Program} {ops : Array Oper} {F : Nat → Value → World → Prop} {o : Oper} {t : Array Value} {w : World} (s : Nat) (B : Bool) (hg : gslot ops o = some (some s, true)) (hs : slot t s = .bool B) (hon : B = true → StepOK P F (o.dst.getD 0) o t w) (hoff : B = false → F (o.dst.getD 0) undef w) : StepAt P ops F o t w := by
  unfold StepAt; rw [hg]
  cases B with
  | true => exact .inl ⟨hs, hon rfl⟩
  | false => exact .inr ⟨hs, hoff rfl⟩
def StepsFrom (P : Program) (ops : Array Oper) (F : Nat → Value → World → Prop) (t0 : Array Value) (w0 : World) : List Oper → Prop
  | [] => True
  | o :: r => (∀ t w, (∀ s, slotFree ops s = true → slot t s = slot t0 s) → Kept w0 w → (∀ s, hasPred ops o s = true → F s (slot t s) w) → StepAt P ops F o t w) ∧ StepsFrom P ops F t0 w0 r

theorem stepsFrom_mem {P : Program} {ops : Array Oper} {F : Nat → Value → World → Prop} {t0 : Array Value} {w0 : World} (o : Oper) (L : List Oper) (h : StepsFrom P ops F t0 w0 L) (hm : o ∈ L) :
    ∀ t w, (∀ s, slotFree ops s = true → slot t s = slot t0 s) → Kept w0 w → (∀ s, hasPred ops o s = true → F s (slot t s) w) → StepAt P ops F o t w := by
  induction L with
  | nil => cases hm
  | cons a r ih =>
    cases hm with
    | head => exact h.1
    | tail _ hm => exact ih h.2 hm

theorem edgesBack_get : ∀ (L : List Oper) (k : Nat), edgesBack k L = true → ∀ i o, L[i]? = some o → ∀ e ∈ o.after, Region.binds .any e = true → e.on < k + i
  | [], _, _, i, o, h, _, _, _ => by simp at h
  | o' :: r, k, hb, i, o, h, e, he, hbd => by
    simp only [edgesBack, Bool.and_eq_true, Array.all_eq_true_iff_forall_mem, Bool.or_eq_true, Bool.not_eq_true', decide_eq_true_eq] at hb
    cases i with
    | zero => simp at h; subst h; have := hb.1 e he; rw [hbd] at this; simp at this; omega
    | succ i => have := edgesBack_get r (k + 1) hb.2 i o (by simpa using h) e he hbd; omega

section
variable {P : Program} {ops : Array Oper} {Q : Exit → Act → World → Prop} {F : Nat → Value → World → Prop} {t0 : Array Value} {ds : List Deferred} {w0 : World}

structure FInv (ops : Array Oper) (F : Nat → Value → World → Prop) (t0 : Array Value) (w0 : World) (listed : Array Bool) (t : Array Value) (w : World) : Prop where
  size : t.size = t0.size
  lsize : listed.size = ops.size
  frame : ∀ s, slotFree ops s = true → slot t s = slot t0 s
  kept : Kept w0 w
  facts : ∀ (i : Nat) (o : Oper), ops[i]? = some o → listed.getD i false = true → ∀ d, o.dst = some d → F d (slot t d) w

theorem all_listed (hb : edgesBack 0 ops.toList = true) {listed : Array Bool} (hr : Region.ready .any ops listed = []) : ∀ i, i < ops.size → listed.getD i true = true := by
  intro i
  induction i using Nat.strongRecOn with
  | ind i ih =>
    intro hi
    by_cases h : listed.getD i true = true
    · exact h
    · exfalso
      have h' : listed.getD i true = false := by simpa using h
      have hm : i ∈ Region.ready .any ops listed := mem_ready.2 ⟨h', ops[i], by simp [hi], fun e he hbd => by
        have h1 := edgesBack_get ops.toList 0 hb i ops[i] (by simp [hi]) e he hbd
        have h2 := ih e.on (by omega) (by omega)
        have hl : i < listed.size := by
          rcases Nat.lt_or_ge i listed.size with h | h
          · exact h
          · simp [Array.getElem?_eq_none h] at h'
        have hj : e.on < listed.size := by omega
        simp [hj] at h2 ⊢
        exact h2⟩
      rw [hr] at hm
      cases hm

theorem slot_put_same (t : Array Value) (d : Nat) (v : Value) (h : d < t.size) : slot (t.setIfInBounds d v) d = v := by
  simp [slot, h]
theorem slot_put_ne (t : Array Value) (d s : Nat) (v : Value) (h : d ≠ s) : slot (t.setIfInBounds d v) s = slot t s := by
  simp [slot, Array.getElem?_setIfInBounds_ne h]

theorem wpAny_facts (hfine : fine ops t0.size = true) (hst : ∀ d v w w', Kept w w' → F d v w → F d v w') (hsteps : StepsFrom P ops F t0 w0 ops.toList)
    (hdone : ∀ t w, t.size = t0.size → (∀ s, slotFree ops s = true → slot t s = slot t0 s) → Kept w0 w → (∀ (i : Nat) (o : Oper), ops[i]? = some o → ∀ d, o.dst = some d → F d (slot t d) w) → Q .normal ⟨t, ds⟩ w) :
    ∀ (fuel : Nat) (listed : Array Bool) (t : Array Value) (w : World), listed.toList.count false ≤ fuel → FInv ops F t0 w0 listed t w → wpAny P .any ops Q fuel listed ⟨t, ds⟩ w := by
  simp only [fine, Bool.and_eq_true, Array.all_eq_true_iff_forall_mem] at hfine
  obtain ⟨hb, hin⟩ := hfine
  have fin : ∀ (listed : Array Bool) (t : Array Value) (w : World), FInv ops F t0 w0 listed t w → Region.ready .any ops listed = [] → Q .normal ⟨t, ds⟩ w := fun listed t w h hr =>
    hdone t w h.size h.frame h.kept (fun i o ho d hd => h.facts i o ho (by
      have hi : i < ops.size := (Array.getElem?_eq_some_iff.1 ho).1
      have h1 := all_listed hb hr i hi
      have hl : i < listed.size := by rw [h.lsize]; exact hi
      simp [hl] at h1 ⊢
      exact h1) d hd)
  intro fuel
  induction fuel with
  | zero =>
    intro listed t w hc h
    have hr : Region.ready .any ops listed = [] := by
      apply List.eq_nil_iff_forall_not_mem.2
      intro i hi
      have h1 := (mem_ready.1 hi).1
      have hl : i < listed.size := by
        rcases Nat.lt_or_ge i listed.size with h | h
        · exact h
        · simp [Array.getElem?_eq_none h] at h1
      have : false ∈ listed.toList := by
        simp [hl] at h1
        rw [← h1]
        simp
      have := List.count_pos_iff.2 this
      omega
    exact ⟨hr, fin listed t w h hr⟩
  | succ fuel ih =>
    intro listed t w hc h
    refine ⟨fun hr => fin listed t w h hr, fun i hi => ?_⟩
    obtain ⟨hun, o, ho, hpre⟩ := mem_ready.1 hi
    have hl : i < listed.size := by
      rcases Nat.lt_or_ge i listed.size with h | h
      · exact h
      · simp [Array.getElem?_eq_none h] at hun
    have hmem : o ∈ ops := Array.mem_of_getElem? ho
    have hd0 := hin o hmem
    obtain ⟨d, hd⟩ : ∃ d, o.dst = some d := by cases e : o.dst with | none => rw [e] at hd0; cases hd0 | some d => exact ⟨d, rfl⟩
    have hdn : d < t.size := by rw [h.size]; rw [hd] at hd0; simpa using hd0
    have hcnt : (listed.setIfInBounds i true).toList.count false ≤ fuel := by
      rw [Array.toList_setIfInBounds, List.count_set (by simpa using hl)]
      have e : listed.toList[i]'(by simpa using hl) = false := by simp [hl] at hun; simpa using hun
      have hp : 0 < listed.toList.count false := List.count_pos_iff.2 (by rw [← e]; simp)
      rw [e]
      simp only [beq_self_eq_true, if_true, Bool.true_beq, Bool.false_eq_true, if_false]
      omega
    have hpreds : ∀ s, hasPred ops o s = true → F s (slot t s) w := by
      intro s hs
      simp only [hasPred, List.contains_iff_mem, predSlots, List.mem_filterMap, List.mem_filter] at hs
      obtain ⟨e, ⟨he, hbnd⟩, hes⟩ := hs
      have h1 := hpre e (by simpa using he) hbnd
      unfold dstOf at hes
      cases eo : ops[e.on]? with
      | none => rw [eo] at hes; cases hes
      | some o' => rw [eo] at hes; exact h.facts e.on o' eo h1 s hes
    have next : ∀ v w', Kept w w' → F d v w' → wpAny P .any ops Q fuel (listed.setIfInBounds i true) ((Act.mk t ds).put o.dst v) w' := by
      intro v w' hk hf
      have e : (Act.mk t ds).put o.dst v = ⟨t.setIfInBounds d v, ds⟩ := by rw [hd]; rfl
      rw [e]
      refine ih _ _ _ hcnt ⟨by simpa using h.size, by simpa using h.lsize, fun s hs => ?_, h.kept.trans hk, fun j o' ho' hj d' hd' => ?_⟩
      · by_cases hds : d = s
        · exfalso
          subst hds
          simp only [slotFree, Array.all_eq_true_iff_forall_mem] at hs
          have := hs o hmem
          simp [hd] at this
        · rw [slot_put_ne _ _ _ _ hds]; exact h.frame s hs
      · by_cases hdd : d = d'
        · subst hdd; rw [slot_put_same _ _ _ hdn]; exact hf
        · rw [slot_put_ne _ _ _ _ hdd]
          by_cases hij : i = j
          · subst hij
            rw [ho] at ho'
            cases ho'
            rw [hd] at hd'
            exact absurd (Option.some.inj hd') hdd
          · rw [getD_set_ne false hij] at hj
            exact hst _ _ _ _ hk (h.facts j o' ho' hj d' hd')
    have hstep := stepsFrom_mem o ops.toList hsteps (by simpa using hmem) t w h.frame h.kept hpreds
    have hd' : o.dst.getD 0 = d := by rw [hd]; rfl
    have run : StepOK P F d o t w → o.wp P ⟨t, ds⟩ w (wpAny P .any ops Q fuel (listed.setIfInBounds i true)) Q := by
      intro hs
      unfold Oper.wp
      rw [evS_eq]
      cases hs with
      | value v w' hx hk hf => rw [hx]; exact next v w' hk hf
      | call g args hx hc =>
        rw [hx]
        refine Calls.mono hc fun e w' he => ?_
        obtain ⟨v, rfl, hk, hf⟩ := he
        exact next v w' hk hf
    unfold wpOp
    rw [ho]
    simp only
    unfold StepAt gslot at hstep
    rw [hd'] at hstep
    cases hg : o.guard with
    | none =>
      rw [hg] at hstep
      have hw : Region.wanted o (yielded ops t) = true := by unfold Region.wanted; rw [hg]
      rw [if_pos hw]
      exact .inl (run hstep)
    | some jb =>
      obtain ⟨j, b⟩ := jb
      rw [hg] at hstep
      simp only [Option.map_some] at hstep
      cases hj : dstOf ops j with
      | none => rw [hj] at hstep; exact hstep.elim
      | some s =>
        rw [hj] at hstep
        have hy : ∀ b', slot t s = .bool b' → yielded ops t j = some b' := by
          intro b' hb'
          have hs : t[s]? = some (.bool b') := by
            unfold slot at hb'
            cases e : t[s]? with
            | none => simp [Array.getD_eq_getD_getElem?, e, undef] at hb'
            | some x => simp [Array.getD_eq_getD_getElem?, e] at hb'; rw [hb']
          unfold yielded
          unfold dstOf at hj
          rw [hj]
          simp [hs]
        simp only at hstep
        rcases hstep with ⟨hv, hs⟩ | ⟨hv, hf⟩
        · have hw : Region.wanted o (yielded ops t) = true := by unfold Region.wanted; rw [hg]; simp [hy b hv]
          rw [if_pos hw]
          exact .inl (run hs)
        · have hw : ¬ Region.wanted o (yielded ops t) = true := by unfold Region.wanted; rw [hg]; simp [hy _ hv]
          rw [if_neg hw]
          exact next undef w (Kept.refl w) hf

/-- A drawn statement by its slots' facts. -/
theorem wp_region_facts {id : Nat} (F : Nat → Value → World → Prop) (hm : P.follows .mixedOrders = true) (hfine : fine ops t0.size = true) (hst : ∀ d v w w', Kept w w' → F d v w → F d v w')
    (hsteps : StepsFrom P ops F t0 w0 ops.toList)
    (hdone : ∀ t w, t.size = t0.size → (∀ s, slotFree ops s = true → slot t s = slot t0 s) → Kept w0 w → (∀ (i : Nat) (o : Oper), ops[i]? = some o → ∀ d, o.dst = some d → F d (slot t d) w) → Q .normal ⟨t, ds⟩ w) :
    (Code.region id ops true).wp P Q ⟨t0, ds⟩ w0 :=
  wp_region_any hm (wpAny_facts hfine hst hsteps hdone ops.size _ t0 _ (by simp) ⟨rfl, by simp, fun _ _ => rfl, Kept.refl w0, fun i o ho hl => by
    exfalso
    rcases Nat.lt_or_ge i ops.size with h | h <;> simp [h] at hl⟩)
end

/-! ### Facts as a table: what a slot holds -/
inductive Fact where
  | is (v : Value)
  | row (mk : Nat → Value) (C : Array Value) (T : TypeId)
  | such (p : Value → World → Prop) (st : ∀ v w w', Kept w w' → p v w → p v w')
  | no
def Fact.holds : Fact → Value → World → Prop
  | .is c, v, _ => v = c
  | .row mk C T, v, w => ∃ g, v = mk g ∧ Rowz w g C T
  | .such p _, v, w => p v w
  | .no, _, _ => False
def factAt : List (Nat × Fact) → Nat → Fact
  | [], _ => .no
  | (k, f) :: r, d => if k = d then f else factAt r d
def sliceAt0 (n : Nat) (g : Nat) : Value := .slice (some ⟨g, 0, none⟩) n n
def ptrAt0 (g : Nat) : Value := .pointer (some ⟨g, 0, none⟩)
theorem Fact.holds_kept {f : Fact} {v : Value} {w w' : World} (hk : Kept w w') (h : f.holds v w) : f.holds v w' := by
  cases f with
  | is c => exact h
  | row mk C T => obtain ⟨g, hv, hr⟩ := h; exact ⟨g, hv, hr.kept hk⟩
  | such p st => exact st v w w' hk h
  | no => exact h
def TF (L : List (Nat × Fact)) (d : Nat) (v : Value) (w : World) : Prop := (factAt L d).holds v w

theorem wp_region_table {P : Program} {ops : Array Oper} {Q : Exit → Act → World → Prop} {t0 : Array Value} {ds : List Deferred} {w0 : World} {id : Nat} (L : List (Nat × Fact)) (hm : P.follows .mixedOrders = true) (hfine : fine ops t0.size = true)
    (hsteps : StepsFrom P ops (TF L) t0 w0 ops.toList)
    (hdone : ∀ t w, t.size = t0.size → (∀ s, slotFree ops s = true → slot t s = slot t0 s) → Kept w0 w → (∀ (i : Nat) (o : Oper), ops[i]? = some o → ∀ d, o.dst = some d → TF L d (slot t d) w) → Q .normal ⟨t, ds⟩ w) :
    (Code.region id ops true).wp P Q ⟨t0, ds⟩ w0 :=
  wp_region_facts (TF L) hm hfine (fun _ _ _ _ hk h => Fact.holds_kept hk h) hsteps hdone

theorem arr_eq (t : Array Value) (n : Nat) (h : t.size = n) : t = ((List.range n).map (slot t)).toArray := by
  apply Array.ext
  · simp [h]
  · intro i h1 h2
    simp [slot, h1]
theorem exec_call {o : Oper} {f : FuncId} {ars : Array Operand} {ats : Array TypeId} (t : Array Value) (hop : o.op = .call { callee := .value (.func f), args := ars, argTypes := ats }) : execOp (evS t) o = callFunc f (ars.map (evS t)) := by
  rw [← evS_eq t []]
  unfold execOp
  simp [hop, resolve, Deferred.ofValue, Act.eval, invoke]
theorem stepOK_call {P : Program} {F : Nat → Value → World → Prop} {d : Nat} {o : Oper} {t : Array Value} {w : World} {f : FuncId} {ars : Array Operand} {ats : Array TypeId} (args : Array Value) (hop : o.op = .call { callee := .value (.func f), args := ars, argTypes := ats })
    (ha : ars.map (evS t) = args) (hc : (callFunc f args).run P w = .ok (.enter f args) w) (c : Calls P f args w fun e w' => ∃ v, e = .returned v ∧ Kept w w' ∧ F d v w') : StepOK P F d o t w :=
  .call f args (by rw [exec_call t hop, ha]; exact hc) c
theorem stepOK_pure {P : Program} {F : Nat → Value → World → Prop} {d : Nat} {o : Oper} {t : Array Value} {w : World} (v : Value) (h : (execOp (evS t) o).run P w = .ok (.value v) w) (f : F d v w) : StepOK P F d o t w := .value v w h (Kept.refl w) f
theorem stepOK_sem {P : Program} {F : Nat → Value → World → Prop} {d : Nat} {o : Oper} {t : Array Value} {w : World} {s : Sem Value} (v : Value) (hx : execOp (evS t) o = (do let a ← s; pure (.value a))) (h : s.run P w = .ok v w) (f : F d v w) : StepOK P F d o t w :=
  .value v w (by rw [hx]; simp only [Sem.run_bind, Sem.run_pure, h, Result.andThen_ok]) (Kept.refl w) f
theorem stepOK_add {P : Program} {F : Nat → Value → World → Prop} {d : Nat} {o : Oper} {t : Array Value} {w : World} {x y : Operand} {T T' : TypeId} (a b c : ByteArray) (ho : o.op = .binOp .add T x y T') (hx : evS t x = .string a) (hy : evS t y = .string b)
    (hs : a.size + b.size ≤ 9223372036854775807) (hc : a ++ b = c) (f : F d (.string c) w) : StepOK P F d o t w :=
  .value (.string c) w (by
    subst hc
    have hn : ¬ (9223372036854775807 < a.size + b.size) := by omega
    unfold execOp
    rw [ho]
    simp only [hx, hy]
    go_simp) (Kept.refl w) f
theorem stepOK_pick {P : Program} {F : Nat → Value → World → Prop} {d : Nat} {o : Oper} {t : Array Value} {w : World} {c x y : Operand} (B : Bool) (ho : o.op = .pick c x y) (hc : evS t c = .bool B) (f : F d (if B then evS t x else evS t y) w) : StepOK P F d o t w :=
  .value _ w (by unfold execOp; rw [ho]; simp only [hc]; cases B <;> simp [asBool]) (Kept.refl w) f
theorem stepOK_move {P : Program} {F : Nat → Value → World → Prop} {d : Nat} {o : Oper} {t : Array Value} {w : World} (x : Operand) (ho : o.op = .move x ∨ o.op = .assign x) (f : F d (evS t x) w) : StepOK P F d o t w :=
  .value (evS t x) w (by unfold execOp; rcases ho with ho | ho <;> rw [ho] <;> rfl) (Kept.refl w) f
end Go.Proofs.YtlfkkfacbcpogaaDoor
namespace Go.Proofs.YtlfkkfacbcpogaaDoor
set_option maxRecDepth 4000
open Go.RowKit

theorem Kept.setCell {W w' : World} (h : Kept W w') {a : Addr} (ha : W.heap.size ≤ a.block) (v : Value) : Kept W (w'.setCell a v) := by
  obtain ⟨h1, h2, h3⟩ := h
  refine ⟨h1, h2, fun i hi => ?_⟩
  have e : (w'.setCell a v).heap[i]? = w'.heap[i]? := by
    simp only [World.setCell, Array.getElem?_modify]
    rw [if_neg (by omega)]
  rw [e]
  exact h3 i hi
theorem Kept.setRow {w w' : World} (h : Kept w w') {g : Nat} (hg : w.heap.size ≤ g) (D : Array Value) : Kept w (w'.setRow g D) := by
  obtain ⟨h1, h2, h3⟩ := h
  refine ⟨h1, h2, fun i hi => ?_⟩
  rw [setRow_other w' g i D (by omega)]; exact h3 i hi

/-- 'x := f(..)', x an array or a struct: the variable is made and written at once. -/
theorem wpList_store_made {P : Program} {ops : Array Oper} {rest : List Oper} {op : Oper} {a : Act} {Q : Exit → Act → World → Prop} (hgd : op.guard = none) (ty : TypeId) (x y : Operand) (ho : op.op = .store ty x y)
    (w : World) (o : Obj) (cells : Array Value) (hx : a.eval x = .pointer (some ⟨w.heap.size, 0, none⟩)) (hy : a.eval y = .agg cells) (t : TypeId) (cur : Array Value) (hob : o = .cells cur t)
    (hi : (P.info? ty).map (·.size) = some cells.size) (hs : cur.size = cells.size) (h1 : cells.all (·.oneCell') = true)
    (h : ∀ v, Hid (Rowz v w.heap.size cells t) → Hid (Kept w v) → wpList P ops Q rest (a.put op.dst undef) v) : wpList P ops Q (op :: rest) a (w.alloc o) := by
  subst hob
  have hr := Rowz.new w cur t
  exact wpList_store_row hgd ty x y ho w.heap.size cells hx hy t cur hr hi hs h1 (h _ (Lib.hid hr.row) (Lib.hid (((Kept.refl w).alloc _).setRow (Nat.le_refl _) _)))

def slotFreeH (ops : Array Oper) (n s : Nat) : Bool := (ops.toList.take n).all fun o => o.dst != some s
def fineH (ops : Array Oper) (n m : Nat) : Bool := edgesBack 0 ops.toList && (ops.toList.take n).all fun o => match o.dst with | some d => decide (d < m) | none => false
def headDone (ops : Array Oper) (n : Nat) : Array Bool := ((List.range ops.size).map fun i => decide (i < n)).toArray
def tailB (ops : Array Oper) (n m : Nat) : Bool :=
  fineH ops n m && decide (n < ops.size) && Region.sinkB .any ops n && Region.chainB .any ops n && Region.seqB .any ops (ops.size - n) n (headDone ops n)

/-- The block that a pointer or a slice names. -/
def ptrBlock : Value → Option Nat
  | .pointer (some a) => some a.block
  | .slice (some a) _ _ => some a.block
  | _ => none
/-- An operation that makes a block of its own. -/
structure StepMade (P : Program) (F : Nat → Value → World → Prop) (d : Nat) (o : Oper) (t : Array Value) (w : World) : Prop where
  guard : o.guard = none
  made : ∃ v w' g, (execOp (evS t) o).run P w = .ok (.value v) w' ∧ Kept w w' ∧ F d v w' ∧ ptrBlock v = some g ∧ w.heap.size ≤ g ∧ g < w'.heap.size
def StepM (M : List Nat) (P : Program) (ops : Array Oper) (F : Nat → Value → World → Prop) (o : Oper) (t : Array Value) (w : World) : Prop :=
  match M.contains (o.dst.getD 0) with
  | true => StepMade P F (o.dst.getD 0) o t w
  | false => StepAt P ops F o t w
theorem stepM_at {M : List Nat} {P : Program} {ops : Array Oper} {F : Nat → Value → World → Prop} {o : Oper} {t : Array Value} {w : World} (h : M.contains (o.dst.getD 0) = false) (s : StepAt P ops F o t w) : StepM M P ops F o t w := by
  unfold StepM; rw [h]; exact s
theorem stepM_made {M : List Nat} {P : Program} {ops : Array Oper} {F : Nat → Value → World → Prop} {o : Oper} {t : Array Value} {w : World} (h : M.contains (o.dst.getD 0) = true) (s : StepMade P F (o.dst.getD 0) o t w) : StepM M P ops F o t w := by
  unfold StepM; rw [h]; exact s
theorem stepMade_new {P : Program} {F : Nat → Value → World → Prop} {d : Nat} {o : Oper} {t : Array Value} {w : World} (C : Array Value) (T : TypeId) (hg : o.guard = none)
    (h : (execOp (evS t) o).run P w = .ok (.value (ptrAt0 w.heap.size)) (w.alloc (.cells C T))) (f : F d (ptrAt0 w.heap.size) (w.alloc (.cells C T))) : StepMade P F d o t w :=
  ⟨hg, _, _, w.heap.size, h, (Kept.refl w).alloc _, f, rfl, Nat.le_refl _, by simp⟩
theorem made_ge {v : Value} {g a b : Nat} (h : ∃ g', ptrBlock v = some g' ∧ a ≤ g' ∧ g' < b) (e : v = .pointer (some ⟨g, 0, none⟩)) : a ≤ g := by
  obtain ⟨g', h1, h2, _⟩ := h
  subst e
  simp only [ptrBlock, Option.some.injEq] at h1
  omega
theorem made_ne {v u : Value} {g k : Nat} (h : ptrBlock v ≠ ptrBlock u) (e : v = .pointer (some ⟨g, 0, none⟩)) (f : u = .pointer (some ⟨k, 0, none⟩)) : g ≠ k := by
  subst e; subst f
  intro hgk
  subst hgk
  exact h rfl
def StepsHead (M : List Nat) (P : Program) (ops : Array Oper) (n : Nat) (F : Nat → Value → World → Prop) (t0 : Array Value) (w0 : World) : List Oper → Prop
  | [] => True
  | o :: r => (∀ t w, (∀ s, slotFreeH ops n s = true → slot t s = slot t0 s) → Kept w0 w → (∀ s, hasPred ops o s = true → F s (slot t s) w) → StepM M P ops F o t w) ∧ StepsHead M P ops n F t0 w0 r

theorem stepsHead_mem {M : List Nat} {P : Program} {ops : Array Oper} {n : Nat} {F : Nat → Value → World → Prop} {t0 : Array Value} {w0 : World} (o : Oper) (L : List Oper) (h : StepsHead M P ops n F t0 w0 L) (hm : o ∈ L) :
    ∀ t w, (∀ s, slotFreeH ops n s = true → slot t s = slot t0 s) → Kept w0 w → (∀ s, hasPred ops o s = true → F s (slot t s) w) → StepM M P ops F o t w := by
  induction L with
  | nil => cases hm
  | cons a r ih =>
    cases hm with
    | head => exact h.1
    | tail _ hm => exact ih h.2 hm

section
variable {P : Program} {ops : Array Oper} {n : Nat} {Q : Exit → Act → World → Prop} {F : Nat → Value → World → Prop} {t0 : Array Value} {ds : List Deferred} {w0 : World}

def wroteIn (L : List Oper) (d : Nat) : Bool := L.any fun o => o.dst == some d
def wrote (ops : Array Oper) (n : Nat) (listed : Array Bool) (d : Nat) : Prop := ∃ i o, i < n ∧ ops[i]? = some o ∧ listed.getD i false = true ∧ o.dst = some d
structure HInv (M : List Nat) (ops : Array Oper) (n : Nat) (F : Nat → Value → World → Prop) (t0 : Array Value) (w0 : World) (listed : Array Bool) (t : Array Value) (w : World) : Prop where
  size : t.size = t0.size
  head : HeadInv .any ops n listed
  frame : ∀ s, slotFreeH ops n s = true → slot t s = slot t0 s
  kept : Kept w0 w
  facts : ∀ (i : Nat) (o : Oper), i < n → ops[i]? = some o → listed.getD i false = true → ∀ d, o.dst = some d → F d (slot t d) w
  made : ∀ d, M.contains d = true → wrote ops n listed d → ∃ g, ptrBlock (slot t d) = some g ∧ w0.heap.size ≤ g ∧ g < w.heap.size
  apart : ∀ d d', M.contains d = true → M.contains d' = true → d ≠ d' → wrote ops n listed d → wrote ops n listed d' → ptrBlock (slot t d) ≠ ptrBlock (slot t d')

theorem head_ready (hb : edgesBack 0 ops.toList = true) {listed : Array Bool} (hs : listed.size = ops.size) : ∀ i, i < ops.size → listed.getD i true = false → ∃ j, j ≤ i ∧ j ∈ Region.ready .any ops listed := by
  intro i
  induction i using Nat.strongRecOn with
  | ind i ih =>
    intro hi hun
    by_cases h : ∃ j, j < i ∧ listed.getD j true = false
    · obtain ⟨j, hj, hjn⟩ := h
      obtain ⟨k, hk, hr⟩ := ih j hj (by omega) hjn
      exact ⟨k, by omega, hr⟩
    · refine ⟨i, Nat.le_refl _, mem_ready.2 ⟨hun, ops[i], by simp [hi], fun e he hbd => ?_⟩⟩
      have h1 := edgesBack_get ops.toList 0 hb i ops[i] (by simp [hi]) e he hbd
      have hl : e.on < listed.size := by rw [hs]; omega
      cases hx : listed.getD e.on false with
      | true => rfl
      | false => exact absurd ⟨e.on, by omega, getD_in hl hx⟩ h

theorem wpAny_tail {M : List Nat} (hB : tailB ops n t0.size = true) (hst : ∀ d v w w', Kept w w' → F d v w → F d v w') (hM : M.all (fun d => wroteIn (ops.toList.take n) d) = true) (hsteps : StepsHead M P ops n F t0 w0 (ops.toList.take n))
    (hdone : ∀ t w, t.size = t0.size → (∀ s, slotFreeH ops n s = true → slot t s = slot t0 s) → Kept w0 w → (∀ (i : Nat) (o : Oper), i < n → ops[i]? = some o → ∀ d, o.dst = some d → F d (slot t d) w) →
      (∀ d, M.contains d = true → ∃ g, ptrBlock (slot t d) = some g ∧ w0.heap.size ≤ g ∧ g < w.heap.size) → (∀ d d', M.contains d = true → M.contains d' = true → d ≠ d' → ptrBlock (slot t d) ≠ ptrBlock (slot t d')) → wpList P ops Q (ops.toList.drop n) ⟨t, ds⟩ w) :
    ∀ (fuel : Nat) (listed : Array Bool) (t : Array Value) (w : World), listed.toList.count false = fuel + (ops.size - n) → HInv M ops n F t0 w0 listed t w → wpAny P .any ops Q (fuel + (ops.size - n)) listed ⟨t, ds⟩ w := by
  simp only [tailB, fineH, Bool.and_eq_true, decide_eq_true_eq, List.all_eq_true] at hB
  obtain ⟨⟨⟨⟨⟨hb, hin⟩, hn⟩, hs⟩, hc⟩, hseq⟩ := hB
  intro fuel
  induction fuel with
  | zero =>
    intro listed t w hcn h
    have hall : ∀ i, i < n → listed.getD i false = true := by
      intro i hi
      cases hx : listed.getD i false with
      | true => rfl
      | false =>
        exfalso
        have hls := h.head.size
        -- the tail alone has ops.size - n unlisted entries
        have e1 : listed.toList = listed.toList.take n ++ listed.toList.drop n := (List.take_append_drop n _).symm
        have e2 : listed.toList.drop n = List.replicate (ops.size - n) false := by
          apply List.ext_getElem?
          intro k
          rw [List.getElem?_drop, List.getElem?_replicate]
          by_cases hk : k < ops.size - n
          · rw [if_pos hk]
            have := h.head.tail (n + k) (by omega) (by omega)
            have hl : n + k < listed.size := by omega
            simp [hl] at this ⊢
            exact this
          · rw [if_neg hk]
            have hl : listed.size ≤ n + k := by omega
            simp [hl]
        rw [e1, List.count_append, e2, List.count_replicate_self] at hcn
        have hil : i < listed.size := by omega
        have hm : false ∈ listed.toList.take n := by
          refine List.mem_iff_getElem?.2 ⟨i, ?_⟩
          rw [List.getElem?_take, if_pos hi]
          simp [hil] at hx ⊢
          exact hx
        have := List.count_pos_iff.2 hm
        omega
    have he : listed = headDone ops n := by
      apply Array.ext
      · rw [h.head.size]; simp [headDone]
      · intro i h1 h2
        have hi : i < ops.size := by rw [← h.head.size]; exact h1
        by_cases hin : i < n
        · have := hall i hin
          simp [h1] at this
          simp [headDone, hin, this]
        · have := h.head.tail i (by omega) hi
          simp [h1] at this
          simp [headDone, hin, this]
    have hl : (ops.toList.drop n).length = ops.size - n := by simp
    rw [Nat.zero_add, ← hl]
    refine wpAny_of_seq (ops.toList.drop n) n listed _ _ (fun j => by rw [List.getElem?_drop]; simp) (by rw [hl, he]; exact hseq) ?_
    have hwr : ∀ d, M.contains d = true → wrote ops n listed d := by
      intro d hd
      have h1 := List.all_eq_true.1 hM d (by simpa using hd)
      obtain ⟨o, ho, hod⟩ := List.any_eq_true.1 h1
      obtain ⟨i, hi⟩ := List.mem_iff_getElem?.1 ho
      have hin : i < n := by
        rcases Nat.lt_or_ge i n with h | h
        · exact h
        · rw [List.getElem?_take, if_neg (by omega)] at hi; cases hi
      rw [List.getElem?_take, if_pos hin] at hi
      exact ⟨i, o, hin, by simpa using hi, hall i hin, by simpa using hod⟩
    exact hdone t w h.size h.frame h.kept (fun i o hi ho d hd => h.facts i o hi ho (hall i hi) d hd) (fun d hd => h.made d hd (hwr d hd)) (fun d d' hd hd' hne => h.apart d d' hd hd' hne (hwr d hd) (hwr d' hd'))
  | succ fuel ih =>
    intro listed t w hcn h
    have hls := h.head.size
    -- some operation of the head is not yet listed
    have hex : ∃ i, i < n ∧ listed.getD i true = false := by
      apply Classical.byContradiction
      intro hno
      have hall : ∀ i, i < n → listed.getD i false = true := by
        intro i hi
        cases hx : listed.getD i false with
        | true => rfl
        | false => exact absurd ⟨i, hi, getD_in (by omega) hx⟩ hno
      have e2 : (listed.toList.take n).count false = 0 := by
        apply List.count_eq_zero.2
        intro hm
        obtain ⟨i, hi⟩ := List.mem_iff_getElem?.1 hm
        have hin : i < n := by
          rcases Nat.lt_or_ge i n with h | h
          · exact h
          · rw [List.getElem?_take, if_neg (by omega)] at hi; cases hi
        rw [List.getElem?_take, if_pos hin] at hi
        have := hall i hin
        have hil : i < listed.size := by omega
        simp [hil] at this hi
        rw [this] at hi
        cases hi
      have e3 : (listed.toList.drop n).count false ≤ ops.size - n := by
        have := List.count_le_length (a := false) (l := listed.toList.drop n)
        rw [List.length_drop, Array.length_toList, hls] at this
        exact this
      rw [← List.take_append_drop n listed.toList, List.count_append, e2] at hcn
      omega
    obtain ⟨i0, hi0, hun0⟩ := hex
    rw [show fuel + 1 + (ops.size - n) = (fuel + (ops.size - n)) + 1 by omega]
    refine ⟨fun hr => ?_, fun i hi => ?_⟩
    · obtain ⟨j, _, hj⟩ := head_ready hb hls i0 (by omega) hun0
      rw [hr] at hj
      cases hj
    have hiN : i < n := by
      rcases Nat.lt_or_ge i n with h' | h'
      · exact h'
      · exact absurd hi (tail_waits hs hc hn h.head _ i0 rfl hi0 hun0 i h')
    obtain ⟨hun, o, ho, hpre⟩ := mem_ready.1 hi
    have hl : i < listed.size := by omega
    have hmemT : o ∈ ops.toList.take n := by
      refine List.mem_iff_getElem?.2 ⟨i, ?_⟩
      rw [List.getElem?_take, if_pos hiN]
      simpa using ho
    have hd0 := hin o hmemT
    obtain ⟨d, hd⟩ : ∃ d, o.dst = some d := by cases e : o.dst with | none => rw [e] at hd0; cases hd0 | some d => exact ⟨d, rfl⟩
    have hdn : d < t.size := by rw [h.size]; rw [hd] at hd0; simpa using hd0
    have hcnt : (listed.setIfInBounds i true).toList.count false = fuel + (ops.size - n) := by
      rw [Array.toList_setIfInBounds, List.count_set (by simpa using hl)]
      have e : listed.toList[i]'(by simpa using hl) = false := by simp [hl] at hun; simpa using hun
      have hp : 0 < listed.toList.count false := List.count_pos_iff.2 (by rw [← e]; simp)
      rw [e]
      simp only [beq_self_eq_true, if_true, Bool.true_beq, Bool.false_eq_true, if_false]
      omega
    have hpreds : ∀ s, hasPred ops o s = true → F s (slot t s) w := by
      intro s hs'
      simp only [hasPred, List.contains_iff_mem, predSlots, List.mem_filterMap, List.mem_filter] at hs'
      obtain ⟨e, ⟨he, hbnd⟩, hes⟩ := hs'
      have h1 := hpre e (by simpa using he) hbnd
      have h2 := edgesBack_get ops.toList 0 hb i o (by simpa using ho) e (by simpa using he) hbnd
      unfold dstOf at hes
      cases eo : ops[e.on]? with
      | none => rw [eo] at hes; cases hes
      | some o' => rw [eo] at hes; exact h.facts e.on o' (by omega) eo h1 s hes
    have hback : ∀ d1, d ≠ d1 → wrote ops n (listed.setIfInBounds i true) d1 → wrote ops n listed d1 := by
      intro d1 hne ⟨j, o', hjn, ho', hj, hd'⟩
      refine ⟨j, o', hjn, ho', ?_, hd'⟩
      by_cases hij : i = j
      · subst hij
        rw [ho] at ho'
        cases ho'
        rw [hd] at hd'
        exact absurd (Option.some.inj hd') hne
      · rw [getD_set_ne false hij] at hj; exact hj
    have next : ∀ v w', Kept w w' → F d v w' → (M.contains d = true → ∃ g, ptrBlock v = some g ∧ w.heap.size ≤ g ∧ g < w'.heap.size) → wpAny P .any ops Q (fuel + (ops.size - n)) (listed.setIfInBounds i true) ((Act.mk t ds).put o.dst v) w' := by
      intro v w' hk hf hnew
      have e : (Act.mk t ds).put o.dst v = ⟨t.setIfInBounds d v, ds⟩ := by rw [hd]; rfl
      rw [e]
      refine ih _ _ _ hcnt ⟨by simpa using h.size, h.head.set hi hiN, fun s hs' => ?_, h.kept.trans hk, fun j o' hjn ho' hj d' hd' => ?_, fun d1 hd1 hw1 => ?_, fun d1 d2 hd1 hd2 hne hw1 hw2 => ?_⟩
      · by_cases hds : d = s
        · exfalso
          subst hds
          simp only [slotFreeH, List.all_eq_true] at hs'
          have := hs' o hmemT
          simp [hd] at this
        · rw [slot_put_ne _ _ _ _ hds]; exact h.frame s hs'
      · by_cases hdd : d = d'
        · subst hdd; rw [slot_put_same _ _ _ hdn]; exact hf
        · rw [slot_put_ne _ _ _ _ hdd]
          by_cases hij : i = j
          · subst hij
            rw [ho] at ho'
            cases ho'
            rw [hd] at hd'
            exact absurd (Option.some.inj hd') hdd
          · rw [getD_set_ne false hij] at hj
            exact hst _ _ _ _ hk (h.facts j o' hjn ho' hj d' hd')
      · by_cases hdd : d = d1
        · subst hdd
          rw [slot_put_same _ _ _ hdn]
          obtain ⟨g, h1, h2, h3⟩ := hnew hd1
          exact ⟨g, h1, Nat.le_trans h.kept.size h2, h3⟩
        · rw [slot_put_ne _ _ _ _ hdd]
          obtain ⟨g, h1, h2, h3⟩ := h.made d1 hd1 (hback d1 hdd hw1)
          exact ⟨g, h1, h2, Nat.lt_of_lt_of_le h3 hk.size⟩
      · by_cases hdd : d = d1
        · subst hdd
          rw [slot_put_same _ _ _ hdn, slot_put_ne _ _ _ _ hne]
          obtain ⟨g, h1, h2, _⟩ := hnew hd1
          obtain ⟨g', h1', _, h3'⟩ := h.made d2 hd2 (hback d2 hne hw2)
          rw [h1, h1']
          intro he
          have := Option.some.inj he
          omega
        · by_cases hde : d = d2
          · subst hde
            rw [slot_put_same _ _ _ hdn, slot_put_ne _ _ _ _ hdd]
            obtain ⟨g, h1, h2, _⟩ := hnew hd2
            obtain ⟨g', h1', _, h3'⟩ := h.made d1 hd1 (hback d1 hdd hw1)
            rw [h1, h1']
            intro he
            have := Option.some.inj he
            omega
          · rw [slot_put_ne _ _ _ _ hdd, slot_put_ne _ _ _ _ hde]
            exact h.apart d1 d2 hd1 hd2 hne (hback d1 hdd hw1) (hback d2 hde hw2)
    have hstep := stepsHead_mem o _ hsteps hmemT t w h.frame h.kept hpreds
    have hd' : o.dst.getD 0 = d := by rw [hd]; rfl
    unfold StepM at hstep
    rw [hd'] at hstep
    cases hMd : M.contains d with
    | true =>
      rw [hMd] at hstep
      obtain ⟨hg, v, w', g, hx, hk, hf, hb, h1, h2⟩ := hstep
      have hw : Region.wanted o (yielded ops t) = true := by unfold Region.wanted; rw [hg]
      unfold wpOp
      rw [ho]
      simp only
      rw [if_pos hw]
      refine .inl ?_
      unfold Oper.wp
      rw [evS_eq, hx]
      exact next v w' hk hf (fun _ => ⟨g, hb, h1, h2⟩)
    | false =>
    rw [hMd] at hstep
    have nextS : ∀ v w', Kept w w' → F d v w' → wpAny P .any ops Q (fuel + (ops.size - n)) (listed.setIfInBounds i true) ((Act.mk t ds).put o.dst v) w' := fun v w' hk hf => next v w' hk hf (fun h => by rw [hMd] at h; cases h)
    have run : StepOK P F d o t w → o.wp P ⟨t, ds⟩ w (wpAny P .any ops Q (fuel + (ops.size - n)) (listed.setIfInBounds i true)) Q := by
      intro hs
      unfold Oper.wp
      rw [evS_eq]
      cases hs with
      | value v w' hx hk hf => rw [hx]; exact nextS v w' hk hf
      | call g args hx hc =>
        rw [hx]
        refine Calls.mono hc fun e w' he => ?_
        obtain ⟨v, rfl, hk, hf⟩ := he
        exact nextS v w' hk hf
    unfold wpOp
    rw [ho]
    simp only
    simp only at hstep
    unfold StepAt gslot at hstep
    rw [hd'] at hstep
    cases hg : o.guard with
    | none =>
      rw [hg] at hstep
      have hw : Region.wanted o (yielded ops t) = true := by unfold Region.wanted; rw [hg]
      rw [if_pos hw]
      exact .inl (run hstep)
    | some jb =>
      obtain ⟨j, b⟩ := jb
      rw [hg] at hstep
      simp only [Option.map_some] at hstep
      cases hj : dstOf ops j with
      | none => rw [hj] at hstep; exact hstep.elim
      | some s =>
        rw [hj] at hstep
        have hy : ∀ b', slot t s = .bool b' → yielded ops t j = some b' := by
          intro b' hb'
          have hs : t[s]? = some (.bool b') := by
            unfold slot at hb'
            cases e : t[s]? with
            | none => simp [Array.getD_eq_getD_getElem?, e, undef] at hb'
            | some x => simp [Array.getD_eq_getD_getElem?, e] at hb'; rw [hb']
          unfold yielded
          unfold dstOf at hj
          rw [hj]
          simp [hs]
        simp only at hstep
        rcases hstep with ⟨hv, hs⟩ | ⟨hv, hf⟩
        · have hw : Region.wanted o (yielded ops t) = true := by unfold Region.wanted; rw [hg]; simp [hy b hv]
          rw [if_pos hw]
          exact .inl (run hs)
        · have hw : ¬ Region.wanted o (yielded ops t) = true := by unfold Region.wanted; rw [hg]; simp [hy _ hv]
          rw [if_neg hw]
          exact nextS undef w (Kept.refl w) hf

/-- A drawn statement by its head's facts (a table), its own new blocks (the slots M) and its tail as a list. -/
theorem wp_region_made {id : Nat} (n : Nat) (M : List Nat) (L : List (Nat × Fact)) (hm : P.follows .mixedOrders = true) (hB : tailB ops n t0.size = true) (hM : M.all (fun d => wroteIn (ops.toList.take n) d) = true)
    (hsteps : StepsHead M P ops n (TF L) t0 w0 (ops.toList.take n))
    (hdone : ∀ t w, t.size = t0.size → (∀ s, slotFreeH ops n s = true → slot t s = slot t0 s) → Kept w0 w → (∀ (i : Nat) (o : Oper), i < n → ops[i]? = some o → ∀ d, o.dst = some d → TF L d (slot t d) w) →
      (∀ d, M.contains d = true → ∃ g, ptrBlock (slot t d) = some g ∧ w0.heap.size ≤ g ∧ g < w.heap.size) → (∀ d d', M.contains d = true → M.contains d' = true → d ≠ d' → ptrBlock (slot t d) ≠ ptrBlock (slot t d')) → wpList P ops Q (ops.toList.drop n) ⟨t, ds⟩ w) :
    (Code.region id ops true).wp P Q ⟨t0, ds⟩ w0 := by
  have hn : n < ops.size := by
    simp only [tailB, Bool.and_eq_true, decide_eq_true_eq] at hB
    exact hB.1.1.1.2
  refine wp_region_any hm ?_
  have hno : ∀ d, ¬ wrote ops n (Array.replicate ops.size false) d := fun d ⟨i, o, _, _, hl, _⟩ => by rw [getD_replicate_false] at hl; cases hl
  have := wpAny_tail (P := P) (Q := Q) (F := TF L) (M := M) (ds := ds) hB (fun _ _ _ _ hk h => Fact.holds_kept hk h) hM hsteps hdone n (Array.replicate ops.size false) t0 { w0 with drawn := w0.drawn + 1 } (by simp; omega)
    ⟨rfl, ⟨by simp, fun j oj _ hl => (by rw [getD_replicate_false] at hl; cases hl), fun t _ ht => getD_in (by simpa using ht) (getD_replicate_false _ _)⟩, fun _ _ => rfl, Kept.refl w0, fun i o _ _ hl => (by rw [getD_replicate_false] at hl; cases hl), fun d _ h => absurd h (hno d), fun d _ _ _ _ h _ => absurd h (hno d)⟩
  rwa [show n + (ops.size - n) = ops.size by omega] at this
theorem wp_region_tail {id : Nat} (n : Nat) (L : List (Nat × Fact)) (hm : P.follows .mixedOrders = true) (hB : tailB ops n t0.size = true)
    (hsteps : StepsHead [] P ops n (TF L) t0 w0 (ops.toList.take n))
    (hdone : ∀ t w, t.size = t0.size → (∀ s, slotFreeH ops n s = true → slot t s = slot t0 s) → Kept w0 w → (∀ (i : Nat) (o : Oper), i < n → ops[i]? = some o → ∀ d, o.dst = some d → TF L d (slot t d) w) → wpList P ops Q (ops.toList.drop n) ⟨t, ds⟩ w) :
    (Code.region id ops true).wp P Q ⟨t0, ds⟩ w0 :=
  wp_region_made n [] L hm hB rfl hsteps (fun t w h1 h2 h3 h4 _ _ => hdone t w h1 h2 h3 h4)
end

/-! ### A list of operations in its one order, by its slots' facts (guards and all) -/
structure Parked (p : Prop) : Prop where
  out : p
theorem unpark {p : Prop} (h : p) : Parked p := ⟨h⟩
/-- Stops the walk ahead of the operation that writes slot d. -/
theorem park_at {P : Program} {ops : Array Oper} {Q : Exit → Act → World → Prop} {o : Oper} {rest : List Oper} {a : Act} {w : World} (d : Nat) (_ : o.dst = some d) (h : Parked (wpList P ops Q (o :: rest) a w)) : wpList P ops Q (o :: rest) a w := h.out
def wroteB (L : List Oper) (s : Nat) : Bool := L.any fun o => o.dst == some s
def StepsSeq (P : Program) (ops : Array Oper) (F : Nat → Value → World → Prop) (t0 : Array Value) (w0 : World) (all : List Oper) : List Oper → List Oper → Prop
  | _, [] => True
  | done, o :: r => (∀ t w, (∀ s, wroteB all s = false → slot t s = slot t0 s) → Kept w0 w → (∀ s, wroteB done s = true → F s (slot t s) w) → StepAt P ops F o t w) ∧ StepsSeq P ops F t0 w0 all (done ++ [o]) r

section
variable {P : Program} {ops : Array Oper} {Q : Exit → Act → World → Prop} {F : Nat → Value → World → Prop} {t0 : Array Value} {ds : List Deferred} {w0 : World}
theorem wpList_seq {all rest : List Oper} (hin : (all.all fun o => match o.dst with | some d => decide (d < t0.size) | none => false) = true) (hst : ∀ d v w w', Kept w w' → F d v w → F d v w')
    (hdone : ∀ t w, t.size = t0.size → (∀ s, wroteB all s = false → slot t s = slot t0 s) → Kept w0 w → (∀ s, wroteB all s = true → F s (slot t s) w) → wpList P ops Q rest ⟨t, ds⟩ w) :
    ∀ (L done : List Oper) (t : Array Value) (w : World), done ++ L = all → t.size = t0.size → (∀ s, wroteB all s = false → slot t s = slot t0 s) → Kept w0 w → (∀ s, wroteB done s = true → F s (slot t s) w) → StepsSeq P ops F t0 w0 all done L → wpList P ops Q (L ++ rest) ⟨t, ds⟩ w := by
  intro L
  induction L with
  | nil =>
    intro done t w he hsz hf hk hp _
    rw [List.append_nil] at he
    subst he
    exact hdone t w hsz hf hk hp
  | cons o r ih =>
    intro done t w he hsz hf hk hp hs
    have hmem : o ∈ all := by rw [← he]; simp
    have hd0 := List.all_eq_true.1 hin o hmem
    obtain ⟨d, hd⟩ : ∃ d, o.dst = some d := by cases e : o.dst with | none => rw [e] at hd0; cases hd0 | some d => exact ⟨d, rfl⟩
    have hdn : d < t.size := by rw [hsz]; rw [hd] at hd0; simpa using hd0
    have next : ∀ v w', Kept w w' → F d v w' → wpList P ops Q (r ++ rest) ((Act.mk t ds).put o.dst v) w' := by
      intro v w' hk' hv
      have e : (Act.mk t ds).put o.dst v = ⟨t.setIfInBounds d v, ds⟩ := by rw [hd]; rfl
      rw [e]
      refine ih (done ++ [o]) _ _ (by rw [← he]; simp) (by simpa using hsz) (fun s hs' => ?_) (hk.trans hk') (fun s hs' => ?_) hs.2
      · by_cases hds : d = s
        · exfalso
          subst hds
          have : wroteB all d = true := List.any_eq_true.2 ⟨o, hmem, by simp [hd]⟩
          rw [hs'] at this
          cases this
        · rw [slot_put_ne _ _ _ _ hds]; exact hf s hs'
      · by_cases hds : d = s
        · subst hds; rw [slot_put_same _ _ _ hdn]; exact hv
        · rw [slot_put_ne _ _ _ _ hds]
          refine hst _ _ _ _ hk' (hp s ?_)
          simp only [wroteB, List.any_append, List.any_cons, List.any_nil, Bool.or_false, Bool.or_eq_true] at hs'
          rcases hs' with h | h
          · exact h
          · rw [hd] at h; simp at h; exact absurd h hds
    have hstep := hs.1 t w hf hk hp
    have hd' : o.dst.getD 0 = d := by rw [hd]; rfl
    have run : StepOK P F d o t w → o.wp P ⟨t, ds⟩ w (wpList P ops Q (r ++ rest)) Q := by
      intro hs
      unfold Oper.wp
      rw [evS_eq]
      cases hs with
      | value v w' hx hk hf => rw [hx]; exact next v w' hk hf
      | call g args hx hc =>
        rw [hx]
        refine Calls.mono hc fun e w' he => ?_
        obtain ⟨v, rfl, hk, hf⟩ := he
        exact next v w' hk hf
    show wpList P ops Q (o :: (r ++ rest)) ⟨t, ds⟩ w
    unfold wpList
    unfold StepAt gslot at hstep
    rw [hd'] at hstep
    cases hg : o.guard with
    | none =>
      rw [hg] at hstep
      have hw : Region.wanted o (yielded ops t) = true := by unfold Region.wanted; rw [hg]
      rw [if_pos hw]
      exact .inl (run hstep)
    | some jb =>
      obtain ⟨j, b⟩ := jb
      rw [hg] at hstep
      simp only [Option.map_some] at hstep
      cases hj : dstOf ops j with
      | none => rw [hj] at hstep; exact hstep.elim
      | some s =>
        rw [hj] at hstep
        have hy : ∀ b', slot t s = .bool b' → yielded ops t j = some b' := by
          intro b' hb'
          have hs : t[s]? = some (.bool b') := by
            unfold slot at hb'
            cases e : t[s]? with
            | none => simp [Array.getD_eq_getD_getElem?, e, undef] at hb'
            | some x => simp [Array.getD_eq_getD_getElem?, e] at hb'; rw [hb']
          unfold yielded
          unfold dstOf at hj
          rw [hj]
          simp [hs]
        simp only at hstep
        rcases hstep with ⟨hv, hs⟩ | ⟨hv, hf⟩
        · have hw : Region.wanted o (yielded ops t) = true := by unfold Region.wanted; rw [hg]; simp [hy b hv]
          rw [if_pos hw]
          exact .inl (run hs)
        · have hw : ¬ Region.wanted o (yielded ops t) = true := by unfold Region.wanted; rw [hg]; simp [hy _ hv]
          rw [if_neg hw]
          exact next undef w (Kept.refl w) hf
/-- The first n operations of a list by a table of facts; the rest as a list. -/
theorem wpList_table {L : List Oper} (n : Nat) (T : List (Nat × Fact)) (hin : ((L.take n).all fun o => match o.dst with | some d => decide (d < t0.size) | none => false) = true)
    (hsteps : StepsSeq P ops (TF T) t0 w0 (L.take n) [] (L.take n))
    (hdone : ∀ t w, t.size = t0.size → (∀ s, wroteB (L.take n) s = false → slot t s = slot t0 s) → Kept w0 w → (∀ s, wroteB (L.take n) s = true → TF T s (slot t s) w) → wpList P ops Q (L.drop n) ⟨t, ds⟩ w) :
    wpList P ops Q L ⟨t0, ds⟩ w0 := by
  have := wpList_seq (P := P) (ops := ops) (Q := Q) (F := TF T) (t0 := t0) (w0 := w0) (ds := ds) (all := L.take n) (rest := L.drop n) hin (fun _ _ _ _ hk h => Fact.holds_kept hk h) hdone (L.take n) [] t0 w0 (List.nil_append _) rfl (fun _ _ => rfl) (Kept.refl w0) (fun s h => by simp [wroteB] at h) hsteps
  rwa [List.take_append_drop] at this
end
end Go.Proofs.YtlfkkfacbcpogaaDoor
namespace Go.Proofs.YtlfkkfacbcpogaaDoor
set_option maxRecDepth 4000
open Go.RowKit

/-- A row with 'vs' laid over it from place o on. -/
def spl (cur : Array Value) (o : Nat) (vs : List Value) : Array Value := (cur.toList.take o ++ vs ++ cur.toList.drop (o + vs.length)).toArray

theorem run_storeVar_part {P : Program} (w : World) (g o : Nat) (ty t : TypeId) (cells cur : Array Value) (hg : Rowz w g cur t) (hfit : o + cells.size ≤ cur.size) (hi : (P.info? ty).map (·.size) = some cells.size) (h1 : cells.all (·.oneCell') = true) :
    (storeVar ty ⟨g, o, none⟩ (.agg cells)).run P w = .ok () (w.setRow g (spl cur o cells.toList)) := by
  have := run_storeCells_at P g o t cells.toList 0 cur w hg (by simpa using hfit) (fun v hv => (Array.all_eq_true_iff_forall_mem.1 h1) v (by simpa using hv))
  cases hq : P.info? ty with
  | none => simp [hq] at hi
  | some i =>
    have hs : cells.size = i.size := by simp [hq] at hi; omega
    simp only [Nat.add_zero] at this
    simp [storeVar, sizeOf, typeInfo, hq, Value.cells, hs, this, spl]
theorem wpList_store_part {P : Program} {ops : Array Oper} {rest : List Oper} {op : Oper} {a : Act} {w : World} {Q : Exit → Act → World → Prop} (hgd : op.guard = none) (ty : TypeId) (x y : Operand) (ho : op.op = .store ty x y)
    (g o : Nat) (cells : Array Value) (hx : a.eval x = .pointer (some ⟨g, o, none⟩)) (hy : a.eval y = .agg cells) (t : TypeId) (cur : Array Value) (hg : Rowz w g cur t)
    (hfit : o + cells.size ≤ cur.size) (hi : (P.info? ty).map (·.size) = some cells.size) (h1 : cells.all (·.oneCell') = true)
    (h : wpList P ops Q rest (a.put op.dst undef) (w.setRow g (spl cur o cells.toList))) : wpList P ops Q (op :: rest) a w :=
  wpList_plain hgd fun _ hK => by
    unfold Oper.wp execOp
    simp only [ho, hx, hy, Instr.storeAt, Instr.sureAddr, Sem.run_bind, Sem.run_pure, Result.andThen_ok, run_storeVar_part w g o ty t cells cur hg hfit hi h1]
    exact hK _ _ h

/-- 'copy(dst, s)', s a string, dst lying in row g from place o on: as many bytes go over as both hold. -/
theorem run_copy_min {P : Program} (w : World) (dT sT ty elem : TypeId) (g o dLen dCap : Nat) (s : ByteArray) (cur : Array Value) (t : TypeId) (m : Nat) (hm : m = min s.size dLen)
    (hu : P.underlying dT = some (.slice elem)) (hs : (P.info? elem).map (·.size) = some 1) (hg : Rowz w g cur t) (hfit : o + m ≤ cur.size) :
    (Builtin.copy_ #[dT, sT] ty #[.slice (some ⟨g, o, none⟩) dLen dCap, .string s]).run P w =
      .ok (goInt m) (w.setRow g (spl cur o (Lib.byteCells (s.data.toList.take m)))) := by
  have hlen : (Lib.byteCells (s.data.toList.take m)).length = m := by rw [Lib.byteCells_length, List.length_take, ← Lib.size_eq]; omega
  have hst := run_storeCells_at P g o t (Lib.byteCells (s.data.toList.take m)) 0 cur w hg (by rw [hlen]; simpa using hfit) (Lib.byteCells_one _)
  have hmin : Nat.min s.size dLen = m := hm.symm
  have htk : List.take m (List.map (fun b : UInt8 => Value.int IntKind.u8 (b.toNat : Int)) s.data.toList) = Lib.byteCells (s.data.toList.take m) := by
    rw [← List.map_take]; rfl
  simp only [Nat.add_zero] at hst
  cases hq : P.info? elem with
  | none => simp [hq] at hs
  | some i =>
    simp [Builtin.copy_, run_underlying hu, Builtin.lenOf, Builtin.firstCells, sizeOf, typeInfo, hq, hmin]
    rw [htk, hst]
    simp [Result.andThen, spl]
theorem wpList_copy_str {P : Program} {w : World} {ops : Array Oper} {rest : List Oper} {o : Oper} {a : Act} {Q : Exit → Act → World → Prop} (hgd : o.guard = none) (d x : Operand) (dT sT : TypeId)
    (ho : o.op = .call { callee := .builtin .copy, args := #[d, x], argTypes := #[dT, sT] }) (elem : TypeId) (hu : P.underlying dT = some (.slice elem)) (hs : (P.info? elem).map (·.size) = some 1)
    (g off dLen dCap : Nat) (hd : a.eval d = .slice (some ⟨g, off, none⟩) dLen dCap) (s : ByteArray) (hx : a.eval x = .string s) (cur : Array Value) (t : TypeId) (hg : Rowz w g cur t)
    (m : Nat) (hm : m = min s.size dLen) (hfit : off + m ≤ cur.size)
    (h : wpList P ops Q rest (a.put o.dst (goInt m)) (w.setRow g (spl cur off (Lib.byteCells (s.data.toList.take m))))) : wpList P ops Q (o :: rest) a w :=
  wpList_plain hgd fun _ hK => by
    have hrun := run_copy_min (P := P) w dT sT o.type elem g off dLen dCap s cur t m hm hu hs hg hfit
    unfold Oper.wp
    simp [execOp, ho, resolve, invoke, builtin, hd, hx, hrun, Result.andThen]
    exact hK _ _ h

/-- .. as one step of a statement that draws its order. -/
theorem step_copy_str {P : Program} {w : World} {ops : Array Oper} {o : Oper} {a : Act} {K : Act → World → Prop} {Q : Exit → Act → World → Prop} {E : Prop} (hgd : o.guard = none) (d x : Operand) (dT sT : TypeId)
    (ho : o.op = .call { callee := .builtin .copy, args := #[d, x], argTypes := #[dT, sT] }) (elem : TypeId) (hu : P.underlying dT = some (.slice elem)) (hs : (P.info? elem).map (·.size) = some 1)
    (g off dLen dCap : Nat) (hd : a.eval d = .slice (some ⟨g, off, none⟩) dLen dCap) (s : ByteArray) (hx : a.eval x = .string s) (cur : Array Value) (t : TypeId) (hg : Rowz w g cur t)
    (m : Nat) (hm : m = min s.size dLen) (hfit : off + m ≤ cur.size)
    (h : K (a.put o.dst (goInt m)) (w.setRow g (spl cur off (Lib.byteCells (s.data.toList.take m))))) : if Region.wanted o (yielded ops a.tmps) = true then Oper.wp P o a w K Q else E := by
  have hw : Region.wanted o (yielded ops a.tmps) = true := by simp [Region.wanted, hgd]
  rw [if_pos hw]
  have hrun := run_copy_min (P := P) w dT sT o.type elem g off dLen dCap s cur t m hm hu hs hg hfit
  unfold Oper.wp
  simp [execOp, ho, resolve, invoke, builtin, hd, hx, hrun, Result.andThen]
  exact h

theorem spl_get (cur : Array Value) (o : Nat) (vs : List Value) (i : Nat) (hfit : o + vs.length ≤ cur.size) :
    (spl cur o vs)[i]? = if i < o then cur[i]? else if i < o + vs.length then vs[i - o]? else cur[i]? := by
  have hl : (cur.toList.take o).length = o := by simp; omega
  unfold spl
  rw [List.getElem?_toArray, List.append_assoc, List.getElem?_append, hl, List.getElem?_append, List.getElem?_drop]
  by_cases h1 : i < o
  · rw [if_pos h1, if_pos h1, List.getElem?_take_of_lt h1, Array.getElem?_toList]
  · rw [if_neg h1, if_neg h1]
    by_cases h2 : i < o + vs.length
    · rw [if_pos (by omega), if_pos h2]
    · rw [if_neg (by omega), if_neg h2, Array.getElem?_toList]
      congr 1; omega
theorem byteCells_get (m : List UInt8) (i : Nat) : (Lib.byteCells m)[i]? = m[i]?.map fun b => Value.int .u8 ((b.toNat : Nat) : Int) := by simp [Lib.byteCells]
theorem bC_getAny (n : Nat) (l : List UInt8) (i : Nat) : (bC n l)[i]? = if i < n then some (.int .u8 (((l.getD i 0).toNat : Nat) : Int)) else none := by
  by_cases h : i < n
  · rw [if_pos h, bC_get n l i h]
  · rw [if_neg h, Array.getElem?_eq_none (by rw [bC_size]; omega)]
theorem bC_spl (n : Nat) (l m : List UInt8) (o : Nat) (hl : l.length = o) (h : o + m.length ≤ n) : spl (bC n l) o (Lib.byteCells m) = bC n (l ++ m) := by
  apply Array.ext_getElem?
  intro i
  rw [spl_get _ _ _ _ (by rw [Lib.byteCells_length, bC_size]; exact h), bC_getAny, bC_getAny, byteCells_get, Lib.byteCells_length, List.getD_eq_getElem?_getD, List.getD_eq_getElem?_getD]
  by_cases h1 : i < o
  · rw [if_pos h1, List.getElem?_append_left (by omega)]
  · rw [if_neg h1, List.getElem?_append_right (by omega), hl]
    by_cases h2 : i < o + m.length
    · rw [if_pos h2, if_pos (by omega), List.getElem?_eq_getElem (by omega)]; rfl
    · rw [if_neg h2, List.getElem?_eq_none (by omega), List.getElem?_eq_none (by omega)]

/-- Nothing but block b, and new memory. -/
def Only (b : Nat) (w w' : World) : Prop := (∀ w0, Grown w0 w → w0.heap.size ≤ b → Grown w0 w') ∧ (∀ i, i < w.heap.size → i ≠ b → w'.heap[i]? = w.heap[i]?) ∧ w.heap.size ≤ w'.heap.size
theorem Only.refl (b : Nat) (w : World) : Only b w w := ⟨fun _ h _ => h, fun _ _ _ => rfl, Nat.le_refl _⟩
theorem Only.trans {b : Nat} {u v w : World} (h : Only b u v) (k : Only b v w) : Only b u w :=
  ⟨fun w0 g hb => k.1 w0 (h.1 w0 g hb) hb, fun i hi hn => (k.2.1 i (Nat.lt_of_lt_of_le hi h.2.2) hn).trans (h.2.1 i hi hn), Nat.le_trans h.2.2 k.2.2⟩
theorem Only.ofGrown {u v : World} (b : Nat) (h : Grown u v) : Only b u v := ⟨fun _ g _ => Grown.trans g h, fun i hi _ => Grown.block h i hi, h.2.2⟩
theorem Only.ofRow {b : Nat} {w : World} {C : Array Value} {T : TypeId} (hr : Rowz w b C T) (D : Array Value) : Only b w (w.setRow b D) :=
  ⟨fun _ g hb => Grown.setRow g hr hb D, fun i _ hn => setRow_other w b i D hn, by simp⟩
theorem Only.ofCell {b : Nat} (w : World) (i : Nat) (v : Value) : Only b w (w.setCell ⟨b, i, none⟩ v) :=
  ⟨fun _ g hb => g.setCell hb v, fun i _ hn => heap_setCell_other w _ i v hn, by simp⟩
theorem Rowz.only {b g : Nat} {w w' : World} {C : Array Value} {T : TypeId} (h : Rowz w g C T) (k : Only b w w') (hn : g ≠ b) : Rowz w' g C T := (k.2.1 g h.lt hn).trans h

end Go.Proofs.YtlfkkfacbcpogaaDoor
namespace Go.Proofs.YtlfkkfacbcpogaaDoor
set_option maxRecDepth 4000
open Go.RowKit

theorem Kept.of {W w' : World} (ho : w'.os = W.os) (hp : w'.output = W.output) (hb : ∀ i, i < W.heap.size → w'.heap[i]? = W.heap[i]?) : Kept W w' := by
  refine ⟨ho, hp, fun i hi => ?_⟩
  rw [hb i hi]
  split <;> simp_all
theorem Kept.grownBy {W w w' : World} {row : Option Nat} (h : Kept W w) (hg : w.grownBy w' row) (hr : ∀ k, row = some k → W.heap.size ≤ k) : Kept W w' :=
  Kept.of (hg.os.trans h.1) (hg.output.trans h.2.1) (fun i hi => (hg.block i (Nat.lt_of_lt_of_le hi h.size) (fun e => by have := hr i e.symm; omega)).trans (h.block i hi))
theorem ownsRow_kept {w w' : World} {base : Nat} {e : TypeId} {size n : Nat} {v : Value} {xs : List Value} (h : w.ownsRow base e size v n xs) (hk : Kept w w') : w'.ownsRow base e size v n xs := by
  refine ⟨h.1, ?_⟩
  rcases h.2 with h | ⟨g, cap, cur, hv, hb, hg, h1, h2, h3, h4⟩
  · exact .inl h
  · refine .inr ⟨g, cap, cur, hv, hb, ?_, h1, h2, h3, h4⟩
    have hl : g < w.heap.size := by
      rcases Nat.lt_or_ge g w.heap.size with h | h
      · exact h
      · rw [Array.getElem?_eq_none h] at hg; cases hg
    rw [hk.block g hl]; exact hg
theorem wpList_append1 {P : Program} {w : World} {u : Value} {T : TypeId} {ops : Array Oper} {rest : List Oper} {o : Oper} {a : Act} {Q : Exit → Act → World → Prop} (hgd : o.guard = none) (s x : Operand) (t : TypeId)
    (ho : o.op = .call { callee := .builtin .append, args := #[s, x], argTypes := #[t, t] }) (W : World) (e : TypeId) (z : Value) (bytes : Nat) (ht : P.underlying t = some (.slice e))
    (hinfo : (P.info? e).map (fun i => (i.zero, i.size, i.bytes)) = some (some z, 1, bytes)) (hz : z.cells.size = 1)
    (v : Value) (n : Nat) (l : List Value) (hs : a.eval s = v) (hown : Hid (w.ownsRow W.heap.size e 1 v n l)) (h1 : u.oneCell' = true) (hx : a.eval x = .slice (some ⟨w.heap.size, 0, none⟩) 1 1)
    (h63 : n + 1 ≤ maxLen) (hbytes : (n + 1) * bytes ≤ 140737488355328) (hk : Hid (Kept W w))
    (h : ∀ v' w', Hid (w'.ownsRow W.heap.size e 1 v' (n + 1) (l ++ [u])) → Hid (Kept W w') → wpList P ops Q rest (a.put o.dst v') w') : wpList P ops Q (o :: rest) a (w.alloc (.cells #[u] T)) := by
  obtain ⟨i, hi, hz0, hz1, hz2⟩ := info_parts hinfo
  refine wpList_append_own (w.alloc (.cells #[u] T)) hgd s x t ho W.heap.size e i z 1 bytes ht hi hz0 hz1 hz2 hz (by decide) v n l hs (hown.out.alloc _) ⟨w.heap.size, 0, none⟩ 1 1 [u] hx rfl ?_ ?_ h63 hbytes (Nat.le_trans hk.out.size (by simp)) ?_
  · intro j y hj
    match j, hj with
    | 0, hj => simp at hj; subst hj; simp [Addr.add]
  · intro y hy; simp at hy; subst hy; exact h1
  · intro v' w' ho' hg _
    refine h v' w' (Lib.hid ho') (Lib.hid ((hk.out.alloc _).grownBy hg ?_))
    intro k hk'
    exact (hown.out.lt k hk').1
/-- What such a slice is good for at last: a row whose first cells are the list's. -/
theorem owns_row {w : World} {base : Nat} {e : TypeId} {v : Value} {n : Nat} {l : List Value} (h : w.ownsRow base e 1 v n l) (hn : 0 < n) :
    ∃ g cap cur, v = .slice (some ⟨g, 0, none⟩) n cap ∧ base ≤ g ∧ n ≤ cap ∧ Rowz w g cur e ∧ ∀ i, i < n → cur[i]? = l[i]? := by
  rcases h.2 with ⟨_, h0⟩ | ⟨g, cap, cur, hv, hb, hg, h1, h2, h3, h4⟩
  · omega
  · refine ⟨g, cap, cur, hv, hb, h1, hg, fun i hi => ?_⟩
    rw [← h4, List.getElem?_take, if_pos (by omega), Array.getElem?_toList]
end Go.Proofs.YtlfkkfacbcpogaaDoor
namespace Go.Proofs.YtlfkkfacbcpogaaDoor
set_option maxRecDepth 4000
open Go.ChangeShapes Go.WideShapes Go.ChangeAt Go.RowKit

/-- Each type can be read and is a row of the table: one closed fact. -/
def typesRowed (P : Program) (ts : List TypeId) : Bool := ts.all fun t => P.readableRec t && decide (t < P.types.size)

theorem Kept.sameAt {W W' : World} (h : Kept W W') {p : MemPlace} (hp : p.block < W.heap.size) : W.sameAt W' p := by
  cases p with
  | cell b o => exact World.cell?_of_block (w := W) (h.block b hp)
  | map b => exact h.block b hp

theorem trodAll_stays {H : Type} {enc : TypeId × Value → H} {P : Program} (hl : laidOutB P = true) {W W' : World} (hg : Kept W W') {sp : Nat → Bool} :
    ∀ {ts : List TypeId} {vs : List Value} {ds : List (DataW H)} {ps : List MemPlace}, typesRowed P ts = true → DataW.TrodAll enc P W 0 (fun _ => true) true ts vs ds ps → (∀ x ∈ ps, x.block < W.heap.size) → (∀ x ∈ ps, sp x.block = true) →
      DataW.TrodAll enc P W' 0 sp true ts vs ds ps
  | [], [], [], _, _, h, _, _ => h
  | [], [], _ :: _, _, _, h, _, _ => h.elim
  | [], _ :: _, _, _, _, h, _, _ => h.elim
  | _ :: _, [], _, _, _, h, _, _ => h.elim
  | _ :: _, _ :: _, [], _, _, h, _, _ => h.elim
  | t :: ts, v :: vs, d :: ds, ps, ht, h, hlt, hs => by
    obtain ⟨p, q, h1, h2, rfl⟩ := h
    simp only [typesRowed, List.all_cons, Bool.and_eq_true, decide_eq_true_eq] at ht
    refine ⟨p, q, WideElems.Trod_stays hl ht.1.1 ht.1.2 h1 (fun x hx => Kept.sameAt hg (hlt x (by simp [hx]))) (fun x hx => hs x (by simp [hx])),
      trodAll_stays hl hg (by simpa [typesRowed] using ht.2) h2 (fun x hx => hlt x (by simp [hx])) (fun x hx => hs x (by simp [hx])), rfl⟩

def readInt : Option Value → Int
  | some (.int _ z) => z
  | _ => 0
/-- An array of integers among the arguments. -/
theorem open_intArr {H : Type} {enc : TypeId × Value → H} {P : Program} {W : World} {base : Nat} {sp : Nat → Bool} {held : Bool} {t e : TypeId} {n : Nat} {k : IntKind} {cs : Array Value} {d : DataW H} {ps : List MemPlace}
    (ht : P.underlying t = some (.array n e)) (he : P.underlying e = some (.int k)) (hce : P.cellsOf e = 1) (hct : P.cellsOf t = n)
    (h : DataW.Trod enc P W base sp held t (.agg cs) d ps) : ∃ f : Nat → Int, (∀ i, i < n → (Lit.int k (f i)).wf = true) ∧ cs = ((List.range n).map fun i => Value.int k (f i)).toArray := by
  obtain ⟨fuel, hf⟩ := h
  obtain ⟨xs, m, rfl, _, hl, hn, hel⟩ := DataW.trod_array ht hf
  rw [hct] at hl
  have hcs : ∀ i, i < n → ∃ z, (Lit.int k z).wf = true ∧ cs.toList[i]? = some (Value.int k z) := by
    intro i hi
    have h1 := hel i hi
    rw [hce, Nat.mul_one, List.getElem?_eq_getElem (by omega)] at h1
    obtain ⟨z, hz, _, hw⟩ := DataW.trod_int he h1
    refine ⟨z, hw, ?_⟩
    have hi' : i < cs.toList.length := by
      have : (Value.agg cs).cells.toList = cs.toList := rfl
      rw [this] at hl; omega
    have h2 : (cs.toList.drop i).take 1 = [cs.toList[i]] := by
      rw [List.drop_eq_getElem_cons hi']; rfl
    have h3 : [cs.toList[i]] = [Value.int k z] := h2.symm.trans hz
    rw [List.getElem?_eq_getElem hi']
    exact congrArg some (List.cons.inj h3).1
  refine ⟨fun i => readInt cs.toList[i]?, fun i hi => ?_, ?_⟩
  · obtain ⟨z, hw, hz⟩ := hcs i hi
    show (Lit.int k (readInt cs.toList[i]?)).wf = true
    rw [hz]; exact hw
  · have hl' : cs.toList.length = n := hl
    apply Array.ext'
    apply List.ext_getElem?
    intro i
    by_cases hi : i < n
    · obtain ⟨z, _, hz⟩ := hcs i hi
      have e : ((List.range n).map fun i => Value.int k (readInt cs.toList[i]?)).toArray.toList[i]? = some (Value.int k (readInt cs.toList[i]?)) := by
        rw [List.getElem?_map, List.getElem?_range hi]; rfl
      rw [e, hz]; rfl
    · rw [List.getElem?_eq_none (by omega), List.getElem?_eq_none (by simp; omega)]

theorem open_words {H : Type} {enc : TypeId × Value → H} {P : Program} {W : World} {base : Nat} {sp : Nat → Bool} {held : Bool} {t e : TypeId} {n : Nat} {cs : Array Value} {d : DataW H} {ps : List MemPlace}
    (ht : P.underlying t = some (.array n e)) (he : P.underlying e = some (.int .u32)) (hce : P.cellsOf e = 1) (hct : P.cellsOf t = n)
    (h : DataW.Trod enc P W base sp held t (.agg cs) d ps) : ∃ l : List Nat, l.length = n ∧ (∀ x ∈ l, x < 4294967296) ∧ cs = wC n l := by
  obtain ⟨f, hw, rfl⟩ := open_intArr ht he hce hct h
  have hb : ∀ i, i < n → 0 ≤ f i ∧ f i < 4294967296 := fun i hi => by have := bounds_u32 (hw i hi); omega
  refine ⟨(List.range n).map fun i => (f i).toNat, by simp, fun x hx => ?_, ?_⟩
  · obtain ⟨i, hi, rfl⟩ := List.mem_map.1 hx
    have := hb i (by simpa using hi)
    omega
  · unfold wC
    congr 1
    apply List.map_congr_left
    intro i hi
    have hi' : i < n := by simpa using hi
    have := hb i hi'
    simp [List.getD_eq_getElem?_getD, hi']
    omega
theorem open_hash {H : Type} {enc : TypeId × Value → H} {P : Program} {W : World} {base : Nat} {sp : Nat → Bool} {held : Bool} {t e : TypeId} {n : Nat} {cs : Array Value} {d : DataW H} {ps : List MemPlace}
    (ht : P.underlying t = some (.array n e)) (he : P.underlying e = some (.int .u8)) (hce : P.cellsOf e = 1) (hct : P.cellsOf t = n)
    (h : DataW.Trod enc P W base sp held t (.agg cs) d ps) : ∃ l : List UInt8, l.length = n ∧ cs = bC n l := by
  obtain ⟨f, hw, rfl⟩ := open_intArr ht he hce hct h
  have hb : ∀ i, i < n → 0 ≤ f i ∧ f i < 256 := fun i hi => by have := bounds_u8 (hw i hi); omega
  refine ⟨(List.range n).map fun i => UInt8.ofNat (f i).toNat, by simp, ?_⟩
  unfold bC
  congr 1
  apply List.map_congr_left
  intro i hi
  have hi' : i < n := by simpa using hi
  have := hb i hi'
  simp [List.getD_eq_getElem?_getD, hi']
  omega
theorem add_block (a : Addr) (i : Nat) : (a.add i).block = a.block := by
  unfold Addr.add; split <;> simp_all
theorem Grown.cellAt {w w' : World} (h : Grown w w') (a : Addr) (hb : a.block < w.heap.size) : w'.cell? a = w.cell? a := by
  simp only [World.cell?]
  rw [Grown.block h a.block hb]
theorem lt_of_cell {w : World} {a : Addr} {v : Value} (h : w.cell? a = some v) : a.block < w.heap.size := by
  by_cases e : a.block < w.heap.size
  · exact e
  · exfalso
    have : w.heap[a.block]? = none := Array.getElem?_eq_none (by omega)
    simp [World.cell?, this] at h
/-- A '[]string' among the arguments. -/
theorem open_strsArg {H : Type} {enc : TypeId × Value → H} {P : Program} {W : World} {sp : Nat → Bool} {held : Bool} {t e : TypeId} {base : Nat} {v : Value} {d : DataW H} {ps : List MemPlace}
    (ht : P.underlying t = some (.slice e)) (he : P.underlying e = some .string) (hc : P.cellsOf e = 1) (hv : Value.okWide P W .any base t v) (h : DataW.Trod enc P W 0 sp held t v d ps) :
    ∃ (p : Option Addr) (n c : Nat) (S : Nat → ByteArray), n ≤ maxLen ∧ v = .slice p n c ∧ ∀ i, i < n → ∃ a : Addr, p = some a ∧ W.cell? (a.add i) = some (.string (S i)) ∧ a.block < W.heap.size ∧ (S i).size ≤ maxLen := by
  obtain ⟨a0, len, cap, rfl⟩ := okWide_slice ht hv
  obtain ⟨fuel, hf⟩ := h
  rcases Deep.open_strs ht he hc hf with ⟨hcs, _⟩ | ⟨a, len', cap', m, Sx, hcs, _, hl, hm, hmm, _, hx⟩
  · have e1 : [Value.slice a0 len cap] = [Value.slice none 0 0] := hcs
    simp only [List.cons.injEq, Value.slice.injEq, and_true] at e1
    obtain ⟨rfl, rfl, rfl⟩ := e1
    exact ⟨none, 0, 0, fun _ => ByteArray.empty, Nat.zero_le _, rfl, fun i hi => absurd hi (Nat.not_lt_zero _)⟩
  · have e1 : [Value.slice a0 len cap] = [Value.slice (some a) len' cap'] := hcs
    simp only [List.cons.injEq, Value.slice.injEq, and_true] at e1
    obtain ⟨rfl, rfl, rfl⟩ := e1
    refine ⟨some a, len, cap, Sx, Nat.le_trans hl hm, rfl, fun i hi => ?_⟩
    have hlm : len ≤ m := by rw [hmm]; split <;> omega
    obtain ⟨h1, h2⟩ := hx i (by omega)
    refine ⟨a, rfl, h1, ?_, h2⟩
    have := lt_of_cell h1
    rwa [add_block] at this
/-! ### Arrays of hashes, of strings, of integers -/
/-- An array of hashes among the arguments, its bytes in one row. -/
theorem open_hashArr {H : Type} {enc : TypeId × Value → H} {P : Program} {W : World} {base : Nat} {sp : Nat → Bool} {held : Bool} {t e1 e : TypeId} {m : Nat} {cs : Array Value} {d : DataW H} {ps : List MemPlace}
    (ht : P.underlying t = some (.array m e1)) (h1 : P.underlying e1 = some (.array 32 e)) (he : P.underlying e = some (.int .u8)) (hce : P.cellsOf e = 1) (hc1 : P.cellsOf e1 = 32) (hct : P.cellsOf t = 32 * m)
    (h : DataW.Trod enc P W base sp held t (.agg cs) d ps) : ∃ l : List UInt8, l.length = 32 * m ∧ cs = bC (32 * m) l := by
  obtain ⟨fuel, hf⟩ := h
  obtain ⟨xs, q, rfl, _, hl, hn, hel⟩ := DataW.trod_array ht hf
  rw [hct] at hl
  have hl' : cs.toList.length = 32 * m := hl
  have hcs : ∀ i, i < 32 * m → ∃ z, (Lit.int .u8 z).wf = true ∧ cs.toList[i]? = some (Value.int .u8 z) := by
    intro i hi
    have hj : i / 32 < m := by omega
    have g1 := hel (i / 32) hj
    rw [hc1, List.getElem?_eq_getElem (by omega)] at g1
    obtain ⟨ys, q', rfl, _, hl2, hn2, hel2⟩ := DataW.trod_array h1 g1
    have g2 := hel2 (i % 32) (by omega)
    rw [hce, Nat.mul_one, List.getElem?_eq_getElem (by omega)] at g2
    obtain ⟨z, hz, _, hw⟩ := DataW.trod_int he g2
    refine ⟨z, hw, ?_⟩
    have e0 : (Value.agg cs).cells.toList = cs.toList := rfl
    rw [e0] at hz
    have h3 := congrArg (fun l => l[0]?) hz
    simp only [List.getElem?_take, List.getElem?_drop] at h3
    rw [if_pos (by omega), if_pos (by omega), show i / 32 * 32 + (i % 32 + 0) = i by omega] at h3
    exact h3
  have hb : ∀ i, i < 32 * m → ∃ b : UInt8, cs.toList[i]? = some (Value.int .u8 ((b.toNat : Nat) : Int)) := by
    intro i hi
    obtain ⟨z, hw, hz⟩ := hcs i hi
    have := bounds_u8 hw
    refine ⟨UInt8.ofNat z.toNat, ?_⟩
    rw [hz]
    simp
    omega
  refine ⟨(List.range (32 * m)).map fun i => UInt8.ofNat (readInt cs.toList[i]?).toNat, by simp, ?_⟩
  apply Array.ext'
  apply List.ext_getElem?
  intro i
  by_cases hi : i < 32 * m
  · obtain ⟨b, hz⟩ := hb i hi
    have e : (bC (32 * m) ((List.range (32 * m)).map fun i => UInt8.ofNat (readInt cs.toList[i]?).toNat)).toList[i]? = some (Value.int .u8 (((UInt8.ofNat (readInt cs.toList[i]?).toNat).toNat : Nat) : Int)) := by
      simp [bC, hi, List.getD_eq_getElem?_getD]
    rw [e, hz]
    simp [readInt]
  · rw [List.getElem?_eq_none (by omega), List.getElem?_eq_none (by simp [bC]; omega)]

/-- The i-th hash of a row of them. -/
def hAt (l : List UInt8) (i : Nat) : List UInt8 := (l.drop (32 * i)).take 32
theorem hAt_length (l : List UInt8) (i : Nat) (h : 32 * i + 32 ≤ l.length) : (hAt l i).length = 32 := by simp [hAt]; omega
theorem hash_range {w : World} {g n : Nat} {l : List UInt8} {T : TypeId} (h : Rowz w g (bC n l) T) (i : Nat) (hn : 32 * i + 32 ≤ n) : w.rangeAt g (32 * i) (bC 32 (hAt l i)).toList := by
  intro j v hv
  have hj : j < 32 := by
    by_cases hj : j < 32
    · exact hj
    · simp [bC, hj] at hv
  rw [h.cell, bC_get n l _ (by omega)]
  rw [← hv]
  simp [bC, hj, hAt, List.getD_eq_getElem?_getD]

theorem mem_weightsAll {H : Type} {P : Program} {e : TypeId} {x : DataW H} {k : Nat} (hk : k ∈ x.weights P e) : ∀ {parts : List (DataW H)}, x ∈ parts → k ∈ DataW.weightsAll P e parts
  | _ :: _, .head _ => by simp [DataW.weightsAll, hk]
  | _ :: _, .tail _ hm => by simp [DataW.weightsAll, mem_weightsAll hk hm]
/-- n cells of strings. -/
def sC (n : Nat) (S : Nat → ByteArray) : Array Value := ((List.range n).map fun i => Value.string (S i)).toArray
def readStr : Option Value → ByteArray
  | some (.string s) => s
  | _ => ByteArray.empty
/-- An array of strings among the arguments; each is of the size that the form's reach allows. -/
theorem open_strArr {H : Type} {enc : TypeId × Value → H} {P : Program} {W : World} {base : Nat} {sp : Nat → Bool} {held : Bool} {t e : TypeId} {n : Nat} {cs : Array Value} {d : DataW H} {ps : List MemPlace}
    (ht : P.underlying t = some (.array n e)) (he : P.underlying e = some .string) (hce : P.cellsOf e = 1) (hct : P.cellsOf t = n)
    (h : DataW.Trod enc P W base sp held t (.agg cs) d ps) :
    ∃ S : Nat → ByteArray, cs = sC n S ∧ ∀ {ts : List TypeId} {ds : List (DataW H)} {J : Nat}, (DataW.weightsEach P ts ds).all (· ≤ reachBytes) = true → ts[J]? = some t → ds[J]? = some d → ∀ i, i < n → (S i).size ≤ 140737488351232 := by
  obtain ⟨fuel, hf⟩ := h
  obtain ⟨xs, m, rfl, hx, hl, hn, hel⟩ := DataW.trod_array ht hf
  rw [hct] at hl
  have hl' : cs.toList.length = n := hl
  have hcs : ∀ i, i < n → ∃ z : ByteArray, cs.toList[i]? = some (Value.string z) ∧ xs[i]? = some (.lit (.string z.data.toList), []) := by
    intro i hi
    have h1 := hel i hi
    rw [hce, Nat.mul_one, List.getElem?_eq_getElem (by omega)] at h1
    obtain ⟨z, hz, hx, hw⟩ := DataW.trod_string he h1
    refine ⟨z, ?_, by rw [List.getElem?_eq_getElem (by omega), hx]⟩
    have h3 := congrArg (fun l => l[0]?) hz
    have e0 : (Value.agg cs).cells.toList = cs.toList := rfl
    rw [e0] at h3
    simp only [List.getElem?_take, List.getElem?_drop] at h3
    rw [if_pos (by omega), Nat.add_zero] at h3
    exact h3
  refine ⟨fun i => readStr cs.toList[i]?, ?_, fun {ts ds J} hsz hT hD i hi => ?_⟩
  · apply Array.ext'
    apply List.ext_getElem?
    intro i
    by_cases hi : i < n
    · obtain ⟨z, hz, _⟩ := hcs i hi
      have e : (sC n fun i => readStr cs.toList[i]?).toList[i]? = some (Value.string (readStr cs.toList[i]?)) := by simp [sC, hi]
      rw [e, hz]; rfl
    · rw [List.getElem?_eq_none (by omega), List.getElem?_eq_none (by simp [sC]; omega)]
  · obtain ⟨z, hz, hxi⟩ := hcs i hi
    have hd : d = .agg (xs.map (·.1)) := congrArg Prod.fst hx
    have hm : z.size ∈ d.weights P t := by
      rw [hd]
      simp only [DataW.weights, ht]
      refine mem_weightsAll (x := .lit (.string z.data.toList)) (by
        have e : DataW.weights P e (.lit (.string z.data.toList) : DataW H) = [z.data.toList.length] := by rw [DataW.weights]
        rw [e, Array.length_toList]
        exact List.mem_singleton.2 rfl) ?_
      exact List.mem_map.2 ⟨_, List.mem_of_getElem? hxi, rfl⟩
    have := List.all_eq_true.1 hsz _ (DataW.weights_mem_each hT hD z.size hm)
    show (readStr cs.toList[i]?).size ≤ _
    rw [hz]
    exact of_decide_eq_true this
/-- n cells of numbers of 64 bits. -/
def qC (n : Nat) (l : List Nat) : Array Value := ((List.range n).map fun i => Value.int .u64 ((l.getD i 0 : Nat) : Int)).toArray
theorem open_u64Arr {H : Type} {enc : TypeId × Value → H} {P : Program} {W : World} {base : Nat} {sp : Nat → Bool} {held : Bool} {t e : TypeId} {n : Nat} {cs : Array Value} {d : DataW H} {ps : List MemPlace}
    (ht : P.underlying t = some (.array n e)) (he : P.underlying e = some (.int .u64)) (hce : P.cellsOf e = 1) (hct : P.cellsOf t = n)
    (h : DataW.Trod enc P W base sp held t (.agg cs) d ps) : ∃ l : List Nat, l.length = n ∧ (∀ x ∈ l, x < 18446744073709551616) ∧ cs = qC n l := by
  obtain ⟨f, hw, rfl⟩ := open_intArr ht he hce hct h
  have hb : ∀ i, i < n → 0 ≤ f i ∧ f i < 18446744073709551616 := fun i hi => by have := bounds_u64 (hw i hi); omega
  refine ⟨(List.range n).map fun i => (f i).toNat, by simp, fun x hx => ?_, ?_⟩
  · obtain ⟨i, hi, rfl⟩ := List.mem_map.1 hx
    have := hb i (by simpa using hi)
    omega
  · unfold qC
    congr 1
    apply List.map_congr_left
    intro i hi
    have hi' : i < n := by simpa using hi
    have := hb i hi'
    simp [List.getD_eq_getElem?_getD, hi']
    omega
end Go.Proofs.YtlfkkfacbcpogaaDoor
