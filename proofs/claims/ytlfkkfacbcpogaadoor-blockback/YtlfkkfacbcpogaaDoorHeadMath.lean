/-
  Headers as mathematics: a header (Hd), its bytes (hdS), the header of 76 bytes (hdT), each the inverse of the other.
-/
import Derived.Test.YtlfkkfacbcpogaaDoorBas
import Derived.Test.YtlfkkfacbcpogaaDoorTag
namespace Go.Proofs.YtlfkkfacbcpogaaDoor
set_option maxRecDepth 4000

structure Hd where
  h : Nat
  l : List UInt8
  t : List UInt8
  n : Nat
deriving DecidableEq
def Hd.ok (x : Hd) : Prop := x.h < 4294967296 ∧ x.l.length = 32 ∧ x.t.length = 32 ∧ x.n < 18446744073709551616
def hdZ : Hd := ⟨0, List.replicate 32 0, List.replicate 32 0, 0⟩
theorem hdZ_ok : hdZ.ok := ⟨by show 0 < 4294967296; omega, rfl, rfl, by show 0 < 18446744073709551616; omega⟩
def hdS (x : Hd) : ByteArray := beS 4 x.h ++ hS x.l ++ hS x.t ++ beS 8 x.n
theorem hdS_size (x : Hd) (hx : x.ok) : (hdS x).size = 76 := by
  obtain ⟨_, h1, h2, _⟩ := hx
  simp only [hdS, ByteArray.size_append, beS_size, hS_size, h1, h2]
/-- 32 bytes from a on. -/
def l32 (s : ByteArray) (a : Nat) : List UInt8 := (List.range 32).map fun i => s.data.toList.getD (a + i) 0
theorem l32_length (s : ByteArray) (a : Nat) : (l32 s a).length = 32 := by simp [l32]
def hdT (s : ByteArray) : Hd := ⟨tkz s (0 : Nat) 4, l32 s 4, l32 s 36, tkz s (68 : Nat) 8⟩
theorem hdT_ok (s : ByteArray) : (hdT s).ok := by
  refine ⟨?_, l32_length _ _, l32_length _ _, ?_⟩
  · exact Nat.lt_of_lt_of_le (tkz_lt s (0 : Nat) 4) (by decide)
  · exact Nat.lt_of_lt_of_le (tkz_lt s (68 : Nat) 8) (by decide)
theorem hdS_list (x : Hd) : (hdS x).data.toList = be 4 x.h ++ x.l ++ x.t ++ be 8 x.n := by
  simp [hdS, ByteArray.data_append, beS, hS]
theorem l32_at (p q r : List UInt8) (s : ByteArray) (hs : s.data.toList = p ++ q ++ r) (hq : q.length = 32) : l32 s p.length = q := by
  apply List.ext_getElem (by rw [l32_length, hq])
  intro i h1 h2
  simp only [l32, List.getElem_map, List.getElem_range, hs, List.getD_eq_getElem?_getD]
  rw [List.append_assoc, List.getElem?_append_right (by omega), Nat.add_sub_cancel_left, List.getElem?_append_left h2, List.getElem?_eq_getElem h2]
  rfl
theorem hdT_hdS (x : Hd) (hx : x.ok) : hdT (hdS x) = x := by
  obtain ⟨h0, h1, h2, h3⟩ := hx
  have e1 : tkz (hdS x) (0 : Nat) 4 = x.h := by
    have := take_put ⟨#[]⟩ (hS x.l ++ hS x.t ++ beS 8 x.n) 4 x.h (by simpa using h0)
    have e : (⟨#[]⟩ : ByteArray) ++ beS 4 x.h ++ (hS x.l ++ hS x.t ++ beS 8 x.n) = hdS x := by
      apply ByteArray.ext; simp [hdS, ByteArray.data_append]
    rw [e] at this
    exact this
  have e2 : tkz (hdS x) (68 : Nat) 8 = x.n := by
    have := take_put' (beS 4 x.h ++ hS x.l ++ hS x.t) 8 x.n (by simpa using h3)
    have e : (beS 4 x.h ++ hS x.l ++ hS x.t).size = 68 := by simp only [ByteArray.size_append, beS_size, hS_size, h1, h2]
    rw [e] at this
    exact this
  have e3 : l32 (hdS x) 4 = x.l := by
    have := l32_at (be 4 x.h) x.l (x.t ++ be 8 x.n) (hdS x) (by rw [hdS_list]; simp) h1
    rwa [be_length] at this
  have e4 : l32 (hdS x) 36 = x.t := by
    have := l32_at (be 4 x.h ++ x.l) x.t (be 8 x.n) (hdS x) (by rw [hdS_list]) h2
    rwa [List.length_append, be_length, h1] at this
  rw [hdT, e1, e2, e3, e4]
theorem hdS_inj (x y : Hd) (hx : x.ok) (hy : y.ok) : hdS x = hdS y ↔ x = y := by
  constructor
  · intro h; rw [← hdT_hdS x hx, ← hdT_hdS y hy, h]
  · rintro rfl; rfl
/-- The k digits of the number of k bytes are these bytes. -/
theorem be_tkz (s : ByteArray) (a k : Nat) (h : a + k ≤ s.size) : be k (tkz s (a : Nat) k) = (List.range k).map fun i => s.data.toList.getD (a + i) 0 := by
  have hb : ∀ i, i < k → btz s (a : Nat) i = tkz s (a : Nat) k / 256 ^ (k - 1 - i) % 256 := by
    intro i hi
    induction k with
    | zero => omega
    | succ k ih =>
      have e : tkz s (a : Nat) (k + 1) = tkz s (a : Nat) k * 256 + btz s (a : Nat) k := rfl
      have hlt := btz_lt s (a : Nat) k
      by_cases hik : i = k
      · subst hik
        rw [e, show i + 1 - 1 - i = 0 by omega, Nat.pow_zero, Nat.div_one]
        omega
      · rw [ih (by omega) (by omega), e, show k + 1 - 1 - i = (k - 1 - i) + 1 by omega, Nat.pow_succ, Nat.mul_comm (256 ^ (k - 1 - i)) 256, ← Nat.div_div_eq_div_mul]
        congr 2
        omega
  apply List.ext_getElem (by rw [be_length]; simp)
  intro i h1 h2
  have hi : i < k := by rwa [be_length] at h1
  rw [be_get k _ i hi]
  simp only [List.getElem_map, List.getElem_range]
  apply UInt8.toNat_inj.1
  have e := hb i hi
  rw [UInt8.toNat_ofNat']
  rw [← e]
  unfold btz
  rw [if_pos (by omega)]
  simp
theorem hdS_hdT (s : ByteArray) (hs : s.size = 76) : hdS (hdT s) = s := by
  apply ByteArray.ext
  apply Array.toList_inj.1
  have hl : s.data.toList.length = 76 := by simpa using hs
  rw [hdS_list]
  show be 4 (tkz s (0 : Nat) 4) ++ l32 s 4 ++ l32 s 36 ++ be 8 (tkz s (68 : Nat) 8) = s.data.toList
  rw [be_tkz s 0 4 (by omega), be_tkz s 68 8 (by omega)]
  apply List.ext_getElem (by simp [l32, hl])
  intro i h1 h2
  rw [hl] at h2
  have hz : s.data[i]?.getD 0 = s.data[i]'(by rw [ByteArray.size] at hs; omega) := by rw [Array.getElem?_eq_getElem]; rfl
  by_cases c1 : i < 4
  · rw [List.getElem_append_left (by simp [l32]; omega), List.getElem_append_left (by simp [l32]; omega), List.getElem_append_left (by simpa using c1)]
    simp [List.getD_eq_getElem?_getD]
    exact hz
  · by_cases c2 : i < 36
    · rw [List.getElem_append_left (by simp [l32]; omega), List.getElem_append_left (by simp [l32]; omega), List.getElem_append_right (by simpa using c1)]
      simp [l32, List.getD_eq_getElem?_getD]
      have : 4 + (i - 4) = i := by omega
      simp [this]
      exact hz
    · by_cases c3 : i < 68
      · rw [List.getElem_append_left (by simp [l32]; omega), List.getElem_append_right (by simp [l32]; omega)]
        simp [l32, List.getD_eq_getElem?_getD]
        have : 36 + (i - 36) = i := by omega
        simp [this]
        exact hz
      · rw [List.getElem_append_right (by simp [l32]; omega)]
        simp [l32, List.getD_eq_getElem?_getD]
        have : 68 + (i - 68) = i := by omega
        simp [this]
        exact hz
end Go.Proofs.YtlfkkfacbcpogaaDoor
