/-
  Inclusion proofs of several leaves as mathematics: Q tells which leaves are opened; needN (how many hashes stand beside), besN (these hashes, of the tree of G), tpM (the top that leaves' hashes H and hashes F from number o on determine), onM (what stands beside the way up from leaf x, as these determine it).
-/
import Derived.Test.YtggpjhldmaflaaaDoorHld
import Derived.Test.YtggpjhldmaflaaaDoorMultiMathA
namespace Go.Proofs.YtggpjhldmaflaaaDoor
set_option maxRecDepth 4000

/-- The hashes that stand beside, from the left, of the tree of G. -/
def besN (G : Nat → List UInt8) (Q : Nat → Bool) (f n : Nat) : List (List UInt8) :=
  if hasQ Q f n = false then [topN (fun j => G (f + j)) n] else if _h : n < 2 then [] else besN G Q f (leftN n) ++ besN G Q (f + leftN n) (n - leftN n)
termination_by n
decreasing_by
  · exact leftN_lt (by omega)
  · have := leftN_pos (n := n) (by omega); omega
theorem besN_none (G : Nat → List UInt8) {Q : Nat → Bool} {f n : Nat} (h : hasQ Q f n = false) : besN G Q f n = [topN (fun j => G (f + j)) n] := by rw [besN, if_pos h]
theorem besN_one (G : Nat → List UInt8) {Q : Nat → Bool} {f n : Nat} (h : hasQ Q f n = true) (h2 : n < 2) : besN G Q f n = [] := by rw [besN, if_neg (by rw [h]; decide), dif_pos h2]
theorem besN_two (G : Nat → List UInt8) {Q : Nat → Bool} {f n : Nat} (h : hasQ Q f n = true) (h2 : 2 ≤ n) : besN G Q f n = besN G Q f (leftN n) ++ besN G Q (f + leftN n) (n - leftN n) := by rw [besN, if_neg (by rw [h]; decide), dif_neg (by omega)]
theorem besN_length (G : Nat → List UInt8) (Q : Nat → Bool) (n : Nat) : ∀ f, (besN G Q f n).length = needN Q f n := by
  induction n using Nat.strongRecOn with
  | _ n ih =>
    intro f
    cases h : hasQ Q f n with
    | false => rw [needN_none h, besN_none G h]; rfl
    | true =>
      by_cases h2 : n < 2
      · rw [needN_one h h2, besN_one G h h2]; rfl
      · have hp := leftN_pos (n := n) (by omega)
        have hl := leftN_lt (n := n) (by omega)
        rw [needN_two h (by omega), besN_two G h (by omega), List.length_append, ih _ hl, ih (n - leftN n) (by omega)]
theorem besN_32 (G : Nat → List UInt8) (Q : Nat → Bool) (n : Nat) : ∀ f, (∀ j, f ≤ j → j < f + n → (G j).length = 32) → ∀ x ∈ besN G Q f n, x.length = 32 := by
  induction n using Nat.strongRecOn with
  | _ n ih =>
    intro f hG x hx
    cases h : hasQ Q f n with
    | false =>
      rw [besN_none G h] at hx
      obtain rfl := List.mem_singleton.1 hx
      exact topN_length _ _ fun i hi => hG _ (by omega) (by omega)
    | true =>
      by_cases h2 : n < 2
      · rw [besN_one G h h2] at hx; cases hx
      · have hp := leftN_pos (n := n) (by omega)
        have hl := leftN_lt (n := n) (by omega)
        rw [besN_two G h (by omega)] at hx
        rcases List.mem_append.1 hx with hx | hx
        · exact ih _ hl f (fun j h1 h2 => hG j h1 (by omega)) x hx
        · exact ih (n - leftN n) (by omega) (f + leftN n) (fun j h1 h2 => hG j (by omega) (by omega)) x hx
/-- The top that H and F from o on determine, of the n leaves from f on. -/
def tpM (Q : Nat → Bool) (H F : Nat → List UInt8) (f n o : Nat) : List UInt8 :=
  if hasQ Q f n = false then F o else if _h : n < 2 then H f else shaL (nodeS (tpM Q H F f (leftN n) o) (tpM Q H F (f + leftN n) (n - leftN n) (o + needN Q f (leftN n))))
termination_by n
decreasing_by
  · exact leftN_lt (by omega)
  · have := leftN_pos (n := n) (by omega); omega
theorem tpM_none {Q : Nat → Bool} (H F : Nat → List UInt8) {f n : Nat} (o : Nat) (h : hasQ Q f n = false) : tpM Q H F f n o = F o := by rw [tpM, if_pos h]
theorem tpM_one {Q : Nat → Bool} (H F : Nat → List UInt8) {f n : Nat} (o : Nat) (h : hasQ Q f n = true) (h2 : n < 2) : tpM Q H F f n o = H f := by rw [tpM, if_neg (by rw [h]; decide), dif_pos h2]
theorem tpM_two {Q : Nat → Bool} (H F : Nat → List UInt8) {f n : Nat} (o : Nat) (h : hasQ Q f n = true) (h2 : 2 ≤ n) : tpM Q H F f n o = shaL (nodeS (tpM Q H F f (leftN n) o) (tpM Q H F (f + leftN n) (n - leftN n) (o + needN Q f (leftN n)))) := by rw [tpM, if_neg (by rw [h]; decide), dif_neg (by omega)]
theorem tpM_length (Q : Nat → Bool) (H F : Nat → List UInt8) (f n o : Nat) (hH : (H f).length = 32) (hF : needN Q f n = 1 → (F o).length = 32) : (tpM Q H F f n o).length = 32 := by
  cases h : hasQ Q f n with
  | false => rw [tpM_none H F o h]; exact hF (needN_none h)
  | true =>
    by_cases h2 : n < 2
    · rw [tpM_one H F o h h2]; exact hH
    · rw [tpM_two H F o h (by omega)]; exact shaL_length _
/-- What stands beside the way up from leaf x, as H and F from o on determine it. -/
def onM (Q : Nat → Bool) (H F : Nat → List UInt8) (f n o x : Nat) : List (List UInt8) :=
  if _h : n < 2 then []
  else if x < f + leftN n then onM Q H F f (leftN n) o x ++ [tpM Q H F (f + leftN n) (n - leftN n) (o + needN Q f (leftN n))]
  else onM Q H F (f + leftN n) (n - leftN n) (o + needN Q f (leftN n)) x ++ [tpM Q H F f (leftN n) o]
termination_by n
decreasing_by
  · exact leftN_lt (by omega)
  · have := leftN_pos (n := n) (by omega); omega
theorem onM_one (Q : Nat → Bool) (H F : Nat → List UInt8) (f : Nat) {n : Nat} (o x : Nat) (h : n < 2) : onM Q H F f n o x = [] := by rw [onM, dif_pos h]
theorem onM_left (Q : Nat → Bool) (H F : Nat → List UInt8) {f n : Nat} (o : Nat) {x : Nat} (h : 2 ≤ n) (hx : x < f + leftN n) : onM Q H F f n o x = onM Q H F f (leftN n) o x ++ [tpM Q H F (f + leftN n) (n - leftN n) (o + needN Q f (leftN n))] := by rw [onM, dif_neg (by omega), if_pos hx]
theorem onM_right (Q : Nat → Bool) (H F : Nat → List UInt8) {f n : Nat} (o : Nat) {x : Nat} (h : 2 ≤ n) (hx : f + leftN n ≤ x) : onM Q H F f n o x = onM Q H F (f + leftN n) (n - leftN n) (o + needN Q f (leftN n)) x ++ [tpM Q H F f (leftN n) o] := by rw [onM, dif_neg (by omega), if_neg (by omega)]
theorem onM_length (Q : Nat → Bool) (H F : Nat → List UInt8) (n : Nat) : ∀ f o x, f ≤ x → (onM Q H F f n o x).length = (sidesN n (x - f)).length := by
  induction n using Nat.strongRecOn with
  | _ n ih =>
    intro f o x hx
    by_cases h2 : n < 2
    · rw [onM_one _ _ _ _ _ _ h2, sidesN_one _ h2]; rfl
    · have hp := leftN_pos (n := n) (by omega)
      have hl := leftN_lt (n := n) (by omega)
      by_cases hi : x < f + leftN n
      · rw [onM_left _ _ _ _ (by omega) hi, sidesN_left (by omega) (by omega), List.length_append, List.length_append, ih _ hl f o x hx]; rfl
      · rw [onM_right _ _ _ _ (by omega) (by omega), sidesN_right (by omega) (by omega), List.length_append, List.length_append, ih _ (by omega) (f + leftN n) _ x (by omega), show x - (f + leftN n) = x - f - leftN n by omega]; rfl
theorem onM_32 (Q : Nat → Bool) (H F : Nat → List UInt8) (hH : ∀ x, (H x).length = 32) (n : Nat) : ∀ f o x, (∀ k, k < needN Q f n → (F (o + k)).length = 32) → Q x = true → f ≤ x → x < f + n → ∀ y ∈ onM Q H F f n o x, y.length = 32 := by
  induction n using Nat.strongRecOn with
  | _ n ih =>
    intro f o x hF hQ hx hx' y hy
    by_cases h2 : n < 2
    · rw [onM_one _ _ _ _ _ _ h2] at hy; cases hy
    · have hp := leftN_pos (n := n) (by omega)
      have hl := leftN_lt (n := n) (by omega)
      have hh : hasQ Q f n = true := hasQ_iff.2 ⟨x, hx, hx', hQ⟩
      rw [needN_two hh (by omega)] at hF
      by_cases hi : x < f + leftN n
      · rw [onM_left _ _ _ _ (by omega) hi] at hy
        rcases List.mem_append.1 hy with hy | hy
        · exact ih _ hl f o x (fun k hk => hF k (by omega)) hQ hx hi y hy
        · obtain rfl := List.mem_singleton.1 hy
          exact tpM_length _ _ _ _ _ _ (hH _) fun h1 => hF _ (by omega)
      · rw [onM_right _ _ _ _ (by omega) (by omega)] at hy
        rcases List.mem_append.1 hy with hy | hy
        · exact ih _ (by omega) (f + leftN n) _ x (fun k hk => by rw [Nat.add_assoc]; exact hF _ (by omega)) hQ (by omega) (by omega) y hy
        · obtain rfl := List.mem_singleton.1 hy
          exact tpM_length _ _ _ _ _ _ (hH _) fun h1 => hF 0 (by omega)
/-- Each leaf alone determines what all determine. -/
theorem up_onM (Q : Nat → Bool) (H F : Nat → List UInt8) (n : Nat) : ∀ f o x, Q x = true → f ≤ x → x < f + n → upL n (x - f) (H x) (onM Q H F f n o x) = tpM Q H F f n o := by
  induction n using Nat.strongRecOn with
  | _ n ih =>
    intro f o x hQ hx hx'
    have hh : hasQ Q f n = true := hasQ_iff.2 ⟨x, hx, hx', hQ⟩
    by_cases h2 : n < 2
    · obtain rfl : x = f := by omega
      rw [upL_one _ h2, tpM_one H F o hh h2]
    · have hp := leftN_pos (n := n) (by omega)
      have hl := leftN_lt (n := n) (by omega)
      rw [tpM_two H F o hh (by omega)]
      by_cases hi : x < f + leftN n
      · rw [onM_left _ _ _ _ (by omega) hi, upL_left (by omega) (by omega) _ _ _ (onM_length _ _ _ _ _ _ _ hx), ih _ hl f o x hQ hx hi]
      · have e : x - f - leftN n = x - (f + leftN n) := by omega
        rw [onM_right _ _ _ _ (by omega) (by omega), upL_right (by omega) (by omega) _ _ _ (by rw [e]; exact onM_length _ _ _ _ _ _ _ (by omega)), e, ih _ (by omega) (f + leftN n) _ x hQ (by omega) (by omega)]
/-- The hashes of a tree determine its top. -/
theorem tpM_bes (Q : Nat → Bool) (G H F : Nat → List UInt8) (n : Nat) : ∀ f o, 0 < n → (∀ x, f ≤ x → x < f + n → Q x = true → H x = G x) → (∀ k, k < needN Q f n → F (o + k) = lh (besN G Q f n) k) → tpM Q H F f n o = topN (fun j => G (f + j)) n := by
  induction n using Nat.strongRecOn with
  | _ n ih =>
    intro f o h0 hH hF
    cases h : hasQ Q f n with
    | false =>
      rw [needN_none h, besN_none G h] at hF
      rw [tpM_none H F o h]
      exact hF 0 (by omega)
    | true =>
      by_cases h2 : n < 2
      · obtain rfl : n = 1 := by omega
        obtain ⟨x, h3, h4, h5⟩ := hasQ_iff.1 h
        obtain rfl : x = f := by omega
        rw [tpM_one H F o h h2, topN_one]
        exact hH x h3 h4 h5
      · have hp := leftN_pos (n := n) (by omega)
        have hl := leftN_lt (n := n) (by omega)
        rw [needN_two h (by omega), besN_two G h (by omega)] at hF
        have l1 := besN_length G Q (leftN n) f
        rw [tpM_two H F o h (by omega), topN_two _ (by omega), ih _ hl f o hp (fun x h3 h4 h5 => hH x h3 (by omega) h5) ?_, ih (n - leftN n) (by omega) (f + leftN n) _ (by omega) (fun x h3 h4 h5 => hH x (by omega) (by omega) h5) ?_]
        · simp only [Nat.add_assoc]
        · intro k hk
          have := hF (needN Q f (leftN n) + k) (by omega)
          rw [← Nat.add_assoc] at this
          rw [this]
          unfold lh
          rw [List.getD_eq_getElem?_getD, List.getD_eq_getElem?_getD, List.getElem?_append_right (by omega), l1, Nat.add_sub_cancel_left]
        · intro k hk
          rw [hF k (by omega)]
          unfold lh
          rw [List.getD_eq_getElem?_getD, List.getD_eq_getElem?_getD, List.getElem?_append_left (by omega)]
theorem onM_bes (Q : Nat → Bool) (G H F : Nat → List UInt8) (n : Nat) : ∀ f o x, (∀ x, f ≤ x → x < f + n → Q x = true → H x = G x) → (∀ k, k < needN Q f n → F (o + k) = lh (besN G Q f n) k) → Q x = true → f ≤ x → x < f + n → onM Q H F f n o x = pathN (fun j => G (f + j)) n (x - f) := by
  induction n using Nat.strongRecOn with
  | _ n ih =>
    intro f o x hH hF hQ hx hx'
    have h : hasQ Q f n = true := hasQ_iff.2 ⟨x, hx, hx', hQ⟩
    by_cases h2 : n < 2
    · rw [onM_one _ _ _ _ _ _ h2, pathN_one _ _ h2]
    · have hp := leftN_pos (n := n) (by omega)
      have hl := leftN_lt (n := n) (by omega)
      rw [needN_two h (by omega), besN_two G h (by omega)] at hF
      have l1 := besN_length G Q (leftN n) f
      have f1 : ∀ k, k < needN Q f (leftN n) → F (o + k) = lh (besN G Q f (leftN n)) k := fun k hk => by
        rw [hF k (by omega)]
        unfold lh
        rw [List.getD_eq_getElem?_getD, List.getD_eq_getElem?_getD, List.getElem?_append_left (by omega)]
      have f2 : ∀ k, k < needN Q (f + leftN n) (n - leftN n) → F (o + needN Q f (leftN n) + k) = lh (besN G Q (f + leftN n) (n - leftN n)) k := fun k hk => by
        have := hF (needN Q f (leftN n) + k) (by omega)
        rw [← Nat.add_assoc] at this
        rw [this]
        unfold lh
        rw [List.getD_eq_getElem?_getD, List.getD_eq_getElem?_getD, List.getElem?_append_right (by omega), l1, Nat.add_sub_cancel_left]
      have g1 : ∀ x, f ≤ x → x < f + leftN n → Q x = true → H x = G x := fun x h3 h4 h5 => hH x h3 (by omega) h5
      have g2 : ∀ x, f + leftN n ≤ x → x < f + leftN n + (n - leftN n) → Q x = true → H x = G x := fun x h3 h4 h5 => hH x (by omega) (by omega) h5
      by_cases hi : x < f + leftN n
      · rw [onM_left _ _ _ _ (by omega) hi, pathN_left _ (by omega) (by omega), ih _ hl f o x g1 f1 hQ hx hi, tpM_bes Q G H F _ (f + leftN n) _ (by omega) g2 f2]
        simp only [Nat.add_assoc]
      · rw [onM_right _ _ _ _ (by omega) (by omega), pathN_right _ (by omega) (by omega), ih _ (by omega) (f + leftN n) _ x g2 f2 hQ (by omega) (by omega), tpM_bes Q G H F _ f o hp g1 f1, show x - (f + leftN n) = x - f - leftN n by omega]
        simp only [Nat.add_assoc]

/-- The hash of the opened leaf at place x. -/
def hP (K : Nat) (Pl : Nat → Int) (S : Nat → ByteArray) (x : Nat) : List UInt8 := lf S (ixP Pl x K)
theorem hP_at {n : Int} {K : Nat} {Pl : Nat → Int} (h : risP n K Pl) (S : Nat → ByteArray) {i x : Nat} (hi : i < K) (hx : Pl i = (x : Int)) : hP K Pl S x = lf S i := by
  unfold hP
  rw [ixP_eq K hi hx fun j hj hj' => h.inj hj hi (by rw [hj', hx])]
theorem hP_length (K : Nat) (Pl : Nat → Int) (S : Nat → ByteArray) (x : Nat) : (hP K Pl S x).length = 32 := lf_length S _
end Go.Proofs.YtggpjhldmaflaaaDoor
