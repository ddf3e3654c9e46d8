/-
  Plain mathematics for layer 2: blocks of a message in pieces. No condition.
-/
import Derived.Test.YtecfgjoomckleaaDoorShaWalkF
namespace Go.Proofs.YtecfgjoomckleaaDoor
set_option maxRecDepth 4000

theorem ba_ext {a b : ByteArray} (h : a.data.toList = b.data.toList) : a = b := by
  apply ByteArray.ext
  exact Array.ext' h
theorem ba_append (a b : ByteArray) : (a ++ b).data.toList = a.data.toList ++ b.data.toList := by simp
theorem ba_extract (a : ByteArray) (i j : Nat) : (a.extract i j).data.toList = (a.data.toList.take j).drop i := by
  rw [ByteArray.data_extract, Array.toList_extract, List.extract_eq_take_drop, List.drop_take]
theorem ba_len (a : ByteArray) : a.data.toList.length = a.size := by simp

theorem extract_left (M s : ByteArray) (i j : Nat) (h : j ≤ M.size) : (M ++ s).extract i j = M.extract i j := by
  apply ba_ext
  rw [ba_extract, ba_extract, ba_append, List.take_append_of_le_length (by rw [ba_len]; exact h)]

theorem mixN_append (l : List Nat) (M s : ByteArray) : ∀ k, 64 * k ≤ M.size → mixN l (M ++ s) k = mixN l M k
  | 0, _ => rfl
  | k + 1, h => by
    show mixW (mixN l (M ++ s) k) _ = mixW (mixN l M k) _
    rw [mixN_append l M s k (by omega), extract_left M s _ _ (by omega)]
theorem mixN_add (l : List Nat) (t : ByteArray) (q : Nat) : ∀ m, 64 * (q + m) ≤ t.size → mixN l t (q + m) = mixN (mixN l t q) (t.extract (64 * q) t.size) m
  | 0, _ => rfl
  | m + 1, h => by
    show mixW (mixN l t (q + m)) (t.extract (64 * (q + m)) (64 * (q + m) + 64)) = mixW (mixN (mixN l t q) _ m) _
    rw [mixN_add l t q m (by omega), ByteArray.extract_extract, Nat.min_eq_left (by omega), show 64 * (q + m) = 64 * q + 64 * m by omega, show 64 * q + 64 * m + 64 = 64 * q + (64 * m + 64) by omega]
theorem sumW_mixN (t : ByteArray) : ∀ n, sumW t n = mixN first8 t n
  | 0 => rfl
  | n + 1 => by
    show mixW (sumW t n) _ = mixW (mixN first8 t n) _
    rw [sumW_mixN t n]

theorem shaL_split (M p : ByteArray) (hp : p = M.extract (64 * (M.size / 64)) M.size) :
    shaL M = bytesW (mixN (mixN first8 M (M.size / 64)) (p ++ padS M.size) ((p ++ padS M.size).size / 64)) := by
  have hps : p.size = M.size % 64 := by rw [hp, ByteArray.size_extract]; omega
  have hT : (M ++ padS M.size).size = M.size + (9 + zeros M.size) := by rw [ByteArray.size_append, padS_size]
  have hP : (p ++ padS M.size).size = M.size % 64 + (9 + zeros M.size) := by rw [ByteArray.size_append, padS_size, hps]
  have hw := pad_whole M.size
  have hq : (M ++ padS M.size).size / 64 = M.size / 64 + (p ++ padS M.size).size / 64 := by rw [hT, hP]; omega
  have hx : (M ++ padS M.size).extract (64 * (M.size / 64)) (M ++ padS M.size).size = p ++ padS M.size := by
    apply ba_ext
    rw [ba_extract, ba_append, ba_append, hp, ba_extract, List.take_of_length_le (by rw [← ba_append, ba_len]; exact Nat.le_refl _), List.take_of_length_le (l := M.data.toList) (by rw [ba_len]; exact Nat.le_refl _), List.drop_append_of_le_length (by rw [ba_len]; omega)]
  unfold shaL
  rw [sumW_mixN, hq, mixN_add _ _ _ _ (by rw [hT, hP]; omega), hx, mixN_append first8 M (padS M.size) (M.size / 64) (by omega)]

/-- What Write leaves in a state whose pending bytes do not fill a block. -/
theorem write_less (M s : ByteArray) (l : List Nat) (R : List UInt8) (hR : R.length = 64) (hm : 64 ≤ M.size → l = mixN first8 M (M.size / 64)) (hp : R.take (M.size % 64) = M.data.toList.drop (64 * (M.size / 64)))
    (h : M.size % 64 + s.size < 64) :
    (64 ≤ (M ++ s).size → l = mixN first8 (M ++ s) ((M ++ s).size / 64)) ∧
    (R.take (M.size % 64) ++ s.data.toList ++ R.drop (M.size % 64 + s.data.toList.length)).take ((M ++ s).size % 64) = (M ++ s).data.toList.drop (64 * ((M ++ s).size / 64)) := by
  have hs : (M ++ s).size = M.size + s.size := ByteArray.size_append
  have hq : (M ++ s).size / 64 = M.size / 64 := by rw [hs]; omega
  have hr : (M ++ s).size % 64 = M.size % 64 + s.size := by rw [hs]; omega
  refine ⟨fun h64 => ?_, ?_⟩
  · rw [hq, mixN_append _ _ _ _ (by omega)]
    exact hm (by rw [hs] at h64; omega)
  · rw [hq, hr, List.take_append_of_le_length (by rw [List.length_append, List.length_take, ba_len]; omega), List.take_of_length_le (by rw [List.length_append, List.length_take, ba_len]; omega), hp, ba_append, List.drop_append_of_le_length (by rw [ba_len]; omega)]

/-- The block that Write fills up. -/
theorem write_block (M s : ByteArray) (R : List UInt8) (hR : R.length = 64) (hp : R.take (M.size % 64) = M.data.toList.drop (64 * (M.size / 64))) (n : Nat) (hn : M.size % 64 + n = 64) (hs : n ≤ s.size) :
    mixW (mixN first8 M (M.size / 64)) ⟨(R.take (M.size % 64) ++ s.data.toList.take n ++ R.drop (M.size % 64 + (s.data.toList.take n).length)).toArray⟩ = mixN first8 (M ++ s) (M.size / 64 + 1) := by
  show _ = mixW (mixN first8 (M ++ s) (M.size / 64)) ((M ++ s).extract (64 * (M.size / 64)) (64 * (M.size / 64) + 64))
  rw [mixN_append _ _ _ _ (by omega)]
  congr 1
  apply ba_ext
  have hl : (s.data.toList.take n).length = n := by rw [List.length_take, ba_len]; omega
  rw [ba_extract, ba_append, hl, hn, List.drop_of_length_le (by omega), List.append_nil, hp, List.take_append, List.take_of_length_le (l := M.data.toList) (by rw [ba_len]; omega), ba_len, show 64 * (M.size / 64) + 64 - M.size = n by omega, List.drop_append_of_le_length (by rw [ba_len]; omega)]

/-- What Write leaves behind whole blocks. -/
theorem write_more (M s t : ByteArray) (R : List UInt8) (n : Nat) (hn : M.size % 64 + n = 64) (hs : n ≤ s.size) (ht : t = s.extract n s.size) :
    mixN (mixN first8 (M ++ s) (M.size / 64 + 1)) t (t.size / 64) = mixN first8 (M ++ s) ((M ++ s).size / 64) ∧
    (R.take 0 ++ (t.extract (64 * (t.size / 64)) t.size).data.toList ++ R.drop (0 + (t.extract (64 * (t.size / 64)) t.size).data.toList.length)).take ((M ++ s).size % 64) = (M ++ s).data.toList.drop (64 * ((M ++ s).size / 64)) := by
  have hsz : (M ++ s).size = M.size + s.size := ByteArray.size_append
  have hts : t.size = s.size - n := by rw [ht, ByteArray.size_extract]; omega
  have hq : (M ++ s).size / 64 = M.size / 64 + 1 + t.size / 64 := by rw [hsz, hts]; omega
  have hr : (M ++ s).size % 64 = t.size % 64 := by rw [hsz, hts]; omega
  have hx : (M ++ s).extract (64 * (M.size / 64 + 1)) (M ++ s).size = t := by
    apply ba_ext
    rw [ba_extract, ba_append, ht, ba_extract, List.take_of_length_le (by rw [← ba_append, ba_len]; exact Nat.le_refl _), List.take_of_length_le (l := s.data.toList) (by rw [ba_len]; exact Nat.le_refl _), List.drop_append, List.drop_of_length_le (by rw [ba_len]; omega), ba_len, List.nil_append]
    congr 1
    omega
  refine ⟨?_, ?_⟩
  · rw [hq, mixN_add first8 (M ++ s) (M.size / 64 + 1) (t.size / 64) (by rw [hsz, hts]; omega), hx]
  · have hl : (t.extract (64 * (t.size / 64)) t.size).data.toList.length = t.size % 64 := by rw [ba_len, ByteArray.size_extract]; omega
    rw [List.take_zero, List.nil_append, hr, List.take_append_of_le_length (by omega), List.take_of_length_le (by omega), ba_extract, List.take_of_length_le (by rw [ba_len]; exact Nat.le_refl _), hq,
      show 64 * (M.size / 64 + 1 + t.size / 64) = 64 * (M.size / 64 + 1) + 64 * (t.size / 64) by omega, ← List.drop_drop]
    congr 1
    have := congrArg (fun x => x.data.toList) hx
    simp only [ba_extract] at this
    rw [List.take_of_length_le (by rw [ba_len]; exact Nat.le_refl _)] at this
    exact this.symm

end Go.Proofs.YtecfgjoomckleaaDoor
