/-
  Hexadecimal digits: the digits of bytes, the bytes of digits, and that each is the inverse of the other. No condition.
-/
import Derived.Test.YthigdhdapbjakaaNumWalkB
import Derived.Test.YthigdhdapbjakaaGuardLib
namespace Go.Proofs.Ythigdhdapbjakaa
open Go.RowKit

def fig (n : Nat) : Nat := if n < 10 then 48 + n else 87 + n
/-- A digit's value; 16: it is none. -/
def valN (c : Nat) : Nat := if 48 ≤ c ∧ c < 58 then c - 48 else if 97 ≤ c ∧ c < 103 then c - 87 else 16
theorem fig_lt (n : Nat) (h : n < 16) : fig n < 103 := by unfold fig; split <;> omega
theorem val_fig (n : Nat) (h : n < 16) : valN (fig n) = n := by
  unfold fig valN
  split
  · rw [if_pos (by omega)]; omega
  · rw [if_neg (by omega), if_pos (by omega)]; omega
theorem fig_val (c : Nat) (h : valN c < 16) : fig (valN c) = c := by
  unfold valN at *
  by_cases h1 : 48 ≤ c ∧ c < 58
  · rw [if_pos h1]; unfold fig; rw [if_pos (by omega)]; omega
  · rw [if_neg h1] at h ⊢
    by_cases h2 : 97 ≤ c ∧ c < 103
    · rw [if_pos h2]; unfold fig; rw [if_neg (by omega)]; omega
    · rw [if_neg h2] at h; omega
theorem val_le (c : Nat) : valN c ≤ 16 := by
  unfold valN; split
  · omega
  · split <;> omega
theorem val_high (c : Nat) (h : 128 ≤ c) : valN c = 16 := by
  unfold valN; rw [if_neg (by omega), if_neg (by omega)]
theorem val_none (c : Nat) (h : ∀ j, j < 16 → fig j ≠ c) : ¬ valN c < 16 := fun hv => h _ hv (fig_val c hv)
theorem fig_one (a b : Nat) (ha : a < 16) (hb : b < 16) (h : fig a = fig b) : a = b := by
  rw [← val_fig a ha, ← val_fig b hb, h]

def byteL (l : List UInt8) (i : Nat) : Nat := (l.getD i 0).toNat
theorem byteL_lt (l : List UInt8) (i : Nat) : byteL l i < 256 := (l.getD i 0).toNat_lt
def okB (l : List UInt8) (k : Nat) : Bool := (List.range k).all fun j => decide (valN (byteL l j) < 16)
theorem okB_iff (l : List UInt8) (k : Nat) : okB l k = true ↔ ∀ j, j < k → valN (byteL l j) < 16 := by
  simp [okB]
theorem okB_succ (l : List UInt8) (k : Nat) (h : okB l k = true) (hk : valN (byteL l k) < 16) : okB l (k + 1) = true := by
  rw [okB_iff] at *
  intro j hj
  rcases Nat.lt_or_ge j k with h1 | h1
  · exact h j h1
  · rw [show j = k by omega]; exact hk
theorem okB_not (l : List UInt8) (k n : Nat) (hn : k < n) (hk : ¬ valN (byteL l k) < 16) : okB l n = false := by
  rw [Bool.eq_false_iff]
  intro h
  exact hk ((okB_iff l n).1 h k hn)
def prC (l : List UInt8) (j : Nat) : Nat := 16 * valN (byteL l (2 * j)) + valN (byteL l (2 * j + 1))
def prsAt (l : List UInt8) (n : Nat) : List UInt8 := (List.range n).map fun j => UInt8.ofNat (prC l j)
theorem prsAt_length (l : List UInt8) (n : Nat) : (prsAt l n).length = n := by simp [prsAt]
theorem prsAt_succ (l : List UInt8) (n : Nat) : prsAt l (n + 1) = prsAt l n ++ [UInt8.ofNat (prC l n)] := by simp [prsAt, List.range_succ]
def hexC (l : List UInt8) (j : Nat) : Nat := fig (if j % 2 = 0 then byteL l (j / 2) / 16 else byteL l (j / 2) % 16)
theorem hexC_lt (l : List UInt8) (j : Nat) : hexC l j < 103 := by
  have := byteL_lt l (j / 2)
  unfold hexC
  apply fig_lt
  split <;> omega
theorem hexC_even (l : List UInt8) (n : Nat) : hexC l (2 * n) = fig (byteL l n / 16) := by
  unfold hexC
  rw [if_pos (by omega), show 2 * n / 2 = n by omega]
theorem hexC_odd (l : List UInt8) (n : Nat) : hexC l (2 * n + 1) = fig (byteL l n % 16) := by
  unfold hexC
  rw [if_neg (by omega), show (2 * n + 1) / 2 = n by omega]
/-- The first n characters of a text. -/
def hexTo (l : List UInt8) (n : Nat) : List UInt8 := (List.range n).map fun j => UInt8.ofNat (hexC l j)
theorem hexTo_length (l : List UInt8) (n : Nat) : (hexTo l n).length = n := by simp [hexTo]
theorem hexTo_succ (l : List UInt8) (n : Nat) : hexTo l (n + 1) = hexTo l n ++ [UInt8.ofNat (hexC l n)] := by simp [hexTo, List.range_succ]
theorem hexTo_even (l : List UInt8) (n : Nat) : hexTo l (2 * n + 1) = hexTo l (2 * n) ++ [UInt8.ofNat (fig (byteL l n / 16))] := by rw [hexTo_succ, hexC_even]
theorem hexTo_odd (l : List UInt8) (n : Nat) : hexTo l (2 * n + 1 + 1) = hexTo l (2 * n + 1) ++ [UInt8.ofNat (fig (byteL l n % 16))] := by rw [hexTo_succ, hexC_odd]
theorem byteL_hex (l : List UInt8) (n j : Nat) (h : j < n) : byteL (hexTo l n) j = hexC l j := by
  have := hexC_lt l j
  simp [byteL, hexTo, List.getD_eq_getElem?_getD, h]
  omega
theorem byteL_prs (l : List UInt8) (n j : Nat) (h : j < n) (hl : prC l j < 256) : byteL (prsAt l n) j = prC l j := by
  simp [byteL, prsAt, List.getD_eq_getElem?_getD, h]
  omega
theorem list_ext (a b : List UInt8) (hl : a.length = b.length) (h : ∀ i, i < a.length → byteL a i = byteL b i) : a = b := by
  apply List.ext_getElem hl
  intro i h1 h2
  have := h i h1
  simp [byteL, List.getD_eq_getElem?_getD, h1, h2] at this
  exact UInt8.toNat_inj.1 this

/-! ### Strings -/
def dashB : ByteArray := ⟨#[45]⟩
def lS (l : List UInt8) : ByteArray := ⟨l.toArray⟩
theorem lS_sl (s : ByteArray) : lS (sl s) = s := rfl
theorem sl_lS (l : List UInt8) : sl (lS l) = l := by simp [lS, sl]
theorem lS_size (l : List UInt8) : (lS l).size = l.length := by simp [lS, ByteArray.size]
def hexS (s : ByteArray) : ByteArray := if s.size = 0 then dashB else lS (hexTo (sl s) (2 * s.size))
def unB (s : ByteArray) : Bool := decide (s = dashB) || (decide (s.size ≠ 0 ∧ s.size % 2 = 0) && okB (sl s) s.size)
def unS (s : ByteArray) : ByteArray := if s = dashB then noB else if unB s = true then lS (prsAt (sl s) (s.size / 2)) else noB
theorem hexS_nil : hexS noB = dashB := rfl
theorem hexS_some {s : ByteArray} (h : ¬ s.size = 0) : hexS s = lS (hexTo (sl s) (2 * s.size)) := by rw [hexS, if_neg h]
theorem hexS_le (s : ByteArray) : (hexS s).size ≤ 2 * s.size + 1 := by
  unfold hexS
  split
  · exact Nat.le_add_left _ _
  · rw [lS_size, hexTo_length]; omega
theorem unB_dash : unB dashB = true := by rw [unB, decide_eq_true rfl]; rfl
theorem unS_dash : unS dashB = noB := by rw [unS, if_pos rfl]
theorem unB_odd {s : ByteArray} (h : s ≠ dashB) (ho : s.size = 0 ∨ s.size % 2 = 1) : unB s = false := by
  rw [unB, decide_eq_false h, decide_eq_false (by omega)]; rfl
theorem unB_even {s : ByteArray} (h : s ≠ dashB) (h0 : ¬ s.size = 0) (h2 : s.size % 2 = 0) : unB s = okB (sl s) s.size := by
  rw [unB, decide_eq_false h, decide_eq_true ⟨h0, h2⟩]; rfl
theorem unS_no {s : ByteArray} (h : unB s = false) : unS s = noB := by
  rw [unS]
  split
  · rfl
  · rw [h, if_neg (by simp)]
theorem unS_yes {s : ByteArray} (h : s ≠ dashB) (hb : unB s = true) : unS s = lS (prsAt (sl s) (s.size / 2)) := by
  rw [unS, if_neg h, if_pos hb]
theorem dash_size {s : ByteArray} (h : s.size ≠ 1) : s ≠ dashB := by
  rintro rfl; exact h rfl

theorem byteL_div (l : List UInt8) (n : Nat) : valN (fig (byteL l n / 16)) = byteL l n / 16 := val_fig _ (by have := byteL_lt l n; omega)
theorem byteL_mod (l : List UInt8) (n : Nat) : valN (fig (byteL l n % 16)) = byteL l n % 16 := val_fig _ (by omega)
/-- What Text returned is read as the bytes. -/
theorem un_hex (s : ByteArray) : unS (hexS s) = s ∧ unB (hexS s) = true := by
  by_cases h0 : s.size = 0
  · rw [size0 h0, hexS_nil]; exact ⟨unS_dash, unB_dash⟩
  · have hz : (hexS s).size = 2 * s.size := by rw [hexS_some h0, lS_size, hexTo_length]
    have hd : hexS s ≠ dashB := dash_size (by omega)
    have hl : sl (hexS s) = hexTo (sl s) (2 * s.size) := by rw [hexS_some h0, sl_lS]
    have hb : unB (hexS s) = true := by
      rw [unB_even hd (by omega) (by omega), okB_iff]
      intro j hj
      rw [hl, byteL_hex _ _ _ (by omega)]
      have hlt := byteL_lt (sl s) (j / 2)
      unfold hexC
      rw [val_fig]
      all_goals (split <;> omega)
    refine ⟨?_, hb⟩
    rw [unS_yes hd hb, hl, hz, show 2 * s.size / 2 = s.size by omega]
    refine Eq.trans (congrArg lS ?_) (lS_sl s)
    apply list_ext
    · rw [prsAt_length, sl_length]
    · intro i hi
      rw [prsAt_length] at hi
      have e : prC (hexTo (sl s) (2 * s.size)) i = byteL (sl s) i := by
        rw [prC, byteL_hex _ _ _ (by omega), byteL_hex _ _ _ (by omega), hexC_even, hexC_odd, byteL_div, byteL_mod]
        omega
      rw [byteL_prs _ _ _ hi (by rw [e]; exact byteL_lt _ _), e]
/-- What Bytes returned is told as the text. -/
theorem hex_un (s : ByteArray) (h : unB s = true) : hexS (unS s) = s := by
  by_cases hd : s = dashB
  · subst hd; rw [unS_dash, hexS_nil]
  · have h0 : ¬ s.size = 0 := fun e => by rw [unB_odd hd (.inl e)] at h; cases h
    have h2 : s.size % 2 = 0 := by
      rcases Nat.mod_two_eq_zero_or_one s.size with e | e
      · exact e
      · rw [unB_odd hd (.inr e)] at h; cases h
    have hok := h
    rw [unB_even hd h0 h2, okB_iff] at hok
    have hz : (unS s).size = s.size / 2 := by rw [unS_yes hd h, lS_size, prsAt_length]
    rw [hexS_some (by omega), hz, show 2 * (s.size / 2) = s.size by omega]
    refine Eq.trans (congrArg lS ?_) (lS_sl s)
    apply list_ext
    · rw [hexTo_length, sl_length]
    · intro i hi
      rw [hexTo_length] at hi
      rw [byteL_hex _ _ _ hi, unS_yes hd h, sl_lS, hexC]
      have h1 := hok (2 * (i / 2)) (by omega)
      have h3 := hok (2 * (i / 2) + 1) (by omega)
      rw [byteL_prs _ _ _ (by omega) (by unfold prC; omega), prC]
      split
      · rw [show (16 * valN (byteL (sl s) (2 * (i / 2))) + valN (byteL (sl s) (2 * (i / 2) + 1))) / 16 = valN (byteL (sl s) (2 * (i / 2))) by omega, fig_val _ h1, show 2 * (i / 2) = i by omega]
      · rw [show (16 * valN (byteL (sl s) (2 * (i / 2))) + valN (byteL (sl s) (2 * (i / 2) + 1))) % 16 = valN (byteL (sl s) (2 * (i / 2) + 1)) by omega, fig_val _ h3, show 2 * (i / 2) + 1 = i by omega]
theorem unS_le (s : ByteArray) : (unS s).size ≤ s.size := by
  unfold unS
  split
  · exact Nat.zero_le _
  · split
    · rw [lS_size, prsAt_length]; omega
    · exact Nat.zero_le _

/-! ### Hashes -/
def sumB (s : ByteArray) : Bool := unB s && decide ((unS s).size = 32)
def sumL (s : ByteArray) : List UInt8 := if sumB s = true then sl (unS s) else List.replicate 32 0
theorem sumL_length (s : ByteArray) : (sumL s).length = 32 := by
  unfold sumL
  split
  · rename_i h
    rw [sl_length]
    simp only [sumB, Bool.and_eq_true, decide_eq_true_eq] at h
    exact h.2
  · simp
theorem sumL_yes {s : ByteArray} (h : sumB s = true) : sumL s = sl (unS s) := by rw [sumL, if_pos h]
theorem sumL_no {s : ByteArray} (h : sumB s = false) : sumL s = List.replicate 32 0 := by rw [sumL, if_neg (by rw [h]; simp)]
end Go.Proofs.Ythigdhdapbjakaa
