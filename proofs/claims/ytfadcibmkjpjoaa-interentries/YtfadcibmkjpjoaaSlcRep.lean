/-
  Slices of hashes: copied into a row, joined, repeated (math/bits.Mul, slices.Repeat of one hash). Conditions: at most a thousand hashes.
-/
import Derived.Test.YtfadcibmkjpjoaaHashLib
import Derived.Test.YtfadcibmkjpjoaaPairLib
import Derived.Test.YtfadcibmkjpjoaaShelf
import Derived.Deep.CutRange
import Derived.Deep.RegionHeld3
namespace Go.Proofs.Ytfadcibmkjpjoaa
set_option maxRecDepth 4000
open Go.RowKit

theorem execMaxI {P : Program} {o : Oper} {t : Array Value} {x y : Operand} {T U : TypeId} (a b r : Int) (hr : (if b > a then b else a) = r) (w : World) (ho : o.op = .call { callee := .builtin .max, args := #[x, y], argTypes := #[T, U] }) (hx : evS t x = .int .i64 a) (hy : evS t y = .int .i64 b) :
    (execOp (evS t) o).run P w = .ok (.value (.int .i64 r)) w := by
  subst hr
  unfold execOp
  rw [ho]
  go_simp
theorem execMinI {P : Program} {o : Oper} {t : Array Value} {x y : Operand} {T U : TypeId} (a b r : Int) (hr : (if b < a then b else a) = r) (w : World) (ho : o.op = .call { callee := .builtin .min, args := #[x, y], argTypes := #[T, U] }) (hx : evS t x = .int .i64 a) (hy : evS t y = .int .i64 b) :
    (execOp (evS t) o).run P w = .ok (.value (.int .i64 r)) w := by
  subst hr
  unfold execOp
  rw [ho]
  go_simp
theorem execSliceH {P : Program} {o : Oper} {t : Array Value} {x : Operand} {ty : TypeId} {lo hi mx : Option Operand} {w : World} (u v : Value) (lo' hi' mx' : Option Value) (ho : o.op = .slice ty x lo hi mx) (hx : evS t x = u) (hlo : lo.map (evS t) = lo') (hhi : hi.map (evS t) = hi') (hmx : mx.map (evS t) = mx')
    (h : (Instr.sliceAt ty u lo' hi' mx').run P w = .ok v w) : (execOp (evS t) o).run P w = .ok (.value v) w := by
  unfold execOp
  simp only [ho, hx, hlo, hhi, hmx, Sem.run_bind, Sem.run_pure, h, Result.andThen_ok]

/-- m hashes H laid into G from place k on. -/
def layF (G H : Nat → List UInt8) (k m i : Nat) : List UInt8 := if k ≤ i ∧ i < k + m then H (i - k) else G i
theorem hC_lay (n : Nat) (G H : Nat → List UInt8) (k m : Nat) (hk : k + m ≤ n) :
    ((hC n G).toList.take (k * 32) ++ (hC m H).toList ++ (hC n G).toList.drop (k * 32 + m * 32)).toArray = hC n (layF G H k m) := by
  apply Array.ext
  · simp [hC_size]; omega
  · intro i h1 h2
    have hi : i < n * 32 := by rw [hC_size] at h2; exact h2
    apply Option.some.inj
    rw [← Array.getElem?_eq_getElem, ← Array.getElem?_eq_getElem, hC_get _ _ _ hi]
    simp only [List.getElem?_toArray]
    unfold layF
    by_cases a1 : i < k * 32
    · rw [List.append_assoc, List.getElem?_append_left (by simp [hC_size]; omega), List.getElem?_take, if_pos a1, Array.getElem?_toList, hC_get _ _ _ hi, if_neg (by omega)]
    · by_cases a2 : i < k * 32 + m * 32
      · rw [List.getElem?_append_left (by simp [hC_size]; omega), List.getElem?_append_right (by simp [hC_size]; omega), Array.getElem?_toList]
        simp only [List.length_take, Array.length_toList, hC_size]
        rw [show min (k * 32) (n * 32) = k * 32 by omega, hC_get _ _ _ (by omega), if_pos (by omega), show (i - k * 32) / 32 = i / 32 - k by omega, show (i - k * 32) % 32 = i % 32 by omega]
      · rw [List.getElem?_append_right (by simp [hC_size]; omega), List.getElem?_drop, Array.getElem?_toList]
        simp only [List.length_append, List.length_take, Array.length_toList, hC_size]
        rw [show k * 32 + m * 32 + (i - (min (k * 32) (n * 32) + m * 32)) = i by omega, hC_get _ _ _ hi, if_neg (by omega)]
theorem hC_cat (a b : Nat) (F G : Nat → List UInt8) : (hC a F).toList ++ (hC b G).toList = (hC (a + b) (fun i => if i < a then F i else G (i - a))).toList := by
  apply List.ext_getElem?
  intro i
  by_cases a1 : i < a * 32
  · rw [List.getElem?_append_left (by simp [hC_size]; omega), Array.getElem?_toList, Array.getElem?_toList, hC_get _ _ _ a1, hC_get _ _ _ (by omega), if_pos (by omega)]
  · rw [List.getElem?_append_right (by simp [hC_size]; omega), Array.length_toList, hC_size, Array.getElem?_toList, Array.getElem?_toList]
    by_cases a2 : i < (a + b) * 32
    · rw [hC_get _ _ _ (by omega), hC_get _ _ _ a2, if_neg (by omega), show (i - a * 32) / 32 = i / 32 - a by omega, show (i - a * 32) % 32 = i % 32 by omega]
    · rw [Array.getElem?_eq_none (by rw [hC_size]; omega), Array.getElem?_eq_none (by rw [hC_size]; omega)]
/-- The cells of the hashes that lie from q on. -/
theorem HAt.cells {w : World} {q : Addr} {m : Nat} {H : Nat → List UInt8} (h : HAt w (.some q) m H) (j : Nat) (u : Value) (hj : (hC m H).toList[j]? = .some u) : w.cell? (q.add j) = .some u := by
  have hl : j < m * 32 := by
    have := (List.getElem?_eq_some_iff.1 hj).1
    simpa [hC_size] using this
  obtain ⟨_, a, e, hb, hc⟩ := h (j / 32) (by omega)
  obtain rfl := Option.some.inj e
  have := hc (j % 32) u (by
    rw [Array.getElem?_toList, hC_get _ _ _ hl] at hj
    rw [Array.getElem?_toList, bC_get _ _ _ (by omega)]
    exact hj)
  rwa [show j / 32 * 32 + j % 32 = j by omega] at this
theorem run_copy_hashes (w : World) (ty : TypeId) (g k m n dLen dCap sLen sCap : Nat) (q : Addr) (G H : Nat → List UInt8) (T : TypeId) (hr : Rowz w g (hC n G) T) (hm : m = Nat.min sLen dLen) (hk : k + m ≤ n) (hH : HAt w (.some q) m H) :
    (Builtin.copy_ #[22, 22] ty #[.slice (some ⟨g, k * 32, none⟩) dLen dCap, .slice (some q) sLen sCap]).run Try.prog w = .ok (.int .i64 (m : Int)) (w.setRow g (hC n (layF G H k m))) := by
  have hl := run_loadCells_list (P := Try.prog) w q (hC m H).toList (fun j u hj => hH.cells j u hj)
  have hst := run_storeCells_at Try.prog g (k * 32) T (hC m H).toList 0 (hC n G) w hr (by simp [hC_size]; omega) (hC_one m H)
  simp only [Nat.add_zero, Array.length_toList, hC_size, hC_lay n G H k m hk] at hst
  rw [Array.length_toList, hC_size, Array.toArray_toList] at hl
  obtain ⟨i, hi⟩ : ∃ i, Try.prog.info? 24 = some i := Option.isSome_iff_exists.1 (by kernel_rfl)
  have h32 := info_hash32
  rw [hi] at h32
  have hs32 : i.size = 32 := by simpa using congrArg (Option.map (·.1)) h32
  simp [Builtin.copy_, run_underlying Try.underlying22, Builtin.lenOf, Builtin.firstCells, sizeOf, typeInfo, hi, hs32, ← hm, hl, hst, goInt]
theorem wp_copy_hashes {o : Oper} {t : Array Value} {ds : List Deferred} {w : World} {K : Act → World → Prop} {Q : Exit → Act → World → Prop} (d x : Operand)
    (ho : o.op = .call { callee := .builtin .copy, args := #[d, x], argTypes := #[22, 22] }) (g k m n dLen dCap sLen sCap : Nat) (q : Addr) (G H : Nat → List UInt8) (T : TypeId)
    (hd : evS t d = .slice (some ⟨g, k * 32, none⟩) dLen dCap) (hx : evS t x = .slice (some q) sLen sCap) (hr : Rowz w g (hC n G) T) (hm : m = Nat.min sLen dLen) (hk : k + m ≤ n) (hH : HAt w (.some q) m H)
    (h : K ((Act.mk t ds).put o.dst (.int .i64 (m : Int))) (w.setRow g (hC n (layF G H k m)))) : Oper.wp Try.prog o ⟨t, ds⟩ w K Q := by
  have hrun := run_copy_hashes w o.type g k m n dLen dCap sLen sCap q G H T hr hm hk hH
  unfold Oper.wp
  rw [evS_eq]
  unfold execOp
  simp only [ho, resolve, invoke, builtin, Sem.run_bind, Sem.run_pure, Result.andThen_ok, List.map_toArray, List.map_cons, List.map_nil, hd, hx, hrun]
  exact h
theorem execCopyH {o : Oper} {t : Array Value} {w : World} (d x : Operand)
    (ho : o.op = .call { callee := .builtin .copy, args := #[d, x], argTypes := #[22, 22] }) (g k m n dLen dCap sLen sCap : Nat) (q : Addr) (G H : Nat → List UInt8) (T : TypeId)
    (hd : evS t d = .slice (some ⟨g, k * 32, none⟩) dLen dCap) (hx : evS t x = .slice (some q) sLen sCap) (hr : Rowz w g (hC n G) T) (hm : m = Nat.min sLen dLen) (hk : k + m ≤ n) (hH : HAt w (.some q) m H) :
    (execOp (evS t) o).run Try.prog w = .ok (.value (.int .i64 (m : Int))) (w.setRow g (hC n (layF G H k m))) := by
  have hrun := run_copy_hashes w o.type g k m n dLen dCap sLen sCap q G H T hr hm hk hH
  unfold execOp
  simp only [ho, resolve, invoke, builtin, Sem.run_bind, Sem.run_pure, Result.andThen_ok, List.map_toArray, List.map_cons, List.map_nil, hd, hx, hrun]
theorem execAddHH {o : Oper} {t : Array Value} {x y : Operand} (a b : Nat) (h : a + b ≤ 1000000) (w : World) (ho : o.op = .binOp .add 3 x y 3) (hx : evS t x = .int .i64 (a : Int)) (hy : evS t y = .int .i64 (b : Int)) :
    (execOp (evS t) o).run Try.prog w = .ok (.value (.int .i64 ((a + b : Nat) : Int))) w := by
  have e : IntKind.i64.wrap ((a : Int) + (b : Int)) = ((a + b : Nat) : Int) := by simp only [IntKind.wrap, IntKind.signed, IntKind.bits]; simp; omega
  unfold execOp
  rw [ho]
  simp only [hx, hy]
  go_simp
theorem execPredH {o : Oper} {t : Array Value} {x : Operand} (n : Nat) (hn : 0 < n) (hn2 : n ≤ 1000000) (w : World) (ho : o.op = .binOp .sub 3 x (.const (.int .i64 1)) 3) (hx : evS t x = .int .i64 (n : Int)) :
    (execOp (evS t) o).run Try.prog w = .ok (.value (.int .i64 ((n - 1 : Nat) : Int))) w := by
  have e : ((n - 1 : Nat) : Int) = (n : Int) - 1 := by omega
  have hw : IntKind.i64.wrap ((n : Int) - 1) = (n : Int) - 1 := by simp only [IntKind.wrap, IntKind.signed, IntKind.bits]; simp; omega
  have hy : evS t (.const (.int .i64 1)) = .int .i64 1 := rfl
  rw [e]
  unfold execOp
  rw [ho]
  simp only [hx, hy]
  go_simp
theorem hC_one1 (h : List UInt8) : hC 1 (fun _ => h) = bC 32 h := by
  have e := hC_snoc 0 (fun _ => h)
  have z : (hC 0 (fun _ => h)).toList = [] := by simp [hC]
  rw [z, List.nil_append] at e
  exact (Array.toList_inj.1 e).symm
theorem rep_first (h : List UInt8) (n : Nat) : hC n (layF (fun _ => []) (fun _ => h) 0 1) = hC n (upH (fun _ => h) 1) := hC_congr _ _ _ fun i _ => by
  unfold layF upH
  by_cases a : i < 1
  · rw [if_pos (by omega), if_pos a]
  · rw [if_neg (by omega), if_neg a]
theorem rep_step (h : List UInt8) (n k m : Nat) (_hm : m ≤ k) : hC n (layF (upH (fun _ => h) k) (fun _ => h) k m) = hC n (upH (fun _ => h) (k + m)) := hC_congr _ _ _ fun i _ => by
  unfold layF upH
  by_cases a : i < k + m
  · rw [if_pos a]
    by_cases b : k ≤ i
    · rw [if_pos (by omega)]
    · rw [if_neg (by omega), if_pos (by omega)]
  · rw [if_neg (by omega), if_neg a, if_neg (by omega)]
theorem info_hashes : ∃ i, Try.prog.info? 24 = some i ∧ ∃ z, i.zero = some z ∧ i.size = 32 ∧ i.bytes = 32 ∧ z.cells.size = 32 := by
  obtain ⟨i, hi⟩ : ∃ i, Try.prog.info? 24 = some i := Option.isSome_iff_exists.1 (by kernel_rfl)
  have h32 := info_hash32
  rw [hi] at h32
  have h0 := zero_hash
  rw [hi] at h0
  obtain ⟨z, hz⟩ : ∃ z, i.zero = some z := by cases e : i.zero with | none => simp [e] at h0 | some z => exact ⟨z, rfl⟩
  have hz' : z.cells = bC 32 [] := by simpa [hz] using h0
  exact ⟨i, hi, z, hz, by simpa using congrArg (Option.map (·.1)) h32, by simpa using congrArg (Option.map (·.2)) h32, by rw [hz', bC_size]⟩
theorem ownsRow_hashes {w : World} {g base n : Nat} {F : Nat → List UInt8} (h : Rowz w g (hC n F) 24) (hb : base ≤ g) (hn : n ≤ maxLen) : w.ownsRow base 24 32 (.slice (some ⟨g, 0, none⟩) n n) n (hC n F).toList :=
  ⟨by rw [Array.length_toList, hC_size], .inr ⟨g, n, hC n F, rfl, hb, h, Nat.le_refl _, hn, hC_size _ _, List.take_of_length_le (by rw [Array.length_toList, hC_size]; exact Nat.le_refl _)⟩⟩
set_option maxHeartbeats 400000 in
theorem bitsMul_any (x y : Nat) (hx : x < 18446744073709551616) (hy : y < 18446744073709551616) (w : World) :
    Calls Try.prog 13 #[.int .u64 x, .int .u64 y] w fun e w' => e = .returned (.tuple #[.int .u64 ((x * y / 18446744073709551616 : Nat) : Int), .int .u64 ((x * y % 18446744073709551616 : Nat) : Int)]) ∧ w' = w := by
  have HM := Lib.hid fun w => Try.bits_Mul64 x y hx hy w
  generalize x * y / 18446744073709551616 = a at HM ⊢
  generalize x * y % 18446744073709551616 = b at HM ⊢
  go_enter Try.func13, Try.ntmps13
  go_wp2_with (go_at_call 15; refine (HM.out _).mono ?_; rintro e w' ⟨rfl, rfl⟩)
  exact bodyPost_ret (results_tmp2 Try.results13 _ _ _) rfl ⟨rfl, rfl⟩
set_option maxRecDepth 100000 in
set_option maxHeartbeats 2000000 in
/-- 'slices.Repeat([]api.Hash{h}, n)'. -/
theorem slicesRepeat_any (h : List UInt8) (n g0 c0 : Nat) (w : World) (hh : h.length = 32) (hr : Rowz w g0 (bC 32 h) 24) (hn : 0 < n) (hn2 : n ≤ 1000) :
    Calls Try.prog 12 #[.slice (some ⟨g0, 0, none⟩) 1 c0, .int .i64 (n : Int)] w fun e w' => ∃ g, e = .returned (.slice (some ⟨g, 0, none⟩) n n) ∧ w.heap.size ≤ g ∧ Rowz w' g (hC n (fun _ => h)) 24 ∧ Kept w w' := by
  have HM := Lib.hid fun w => bitsMul_any 1 n (by omega) (by omega) w
  rw [show 1 * n / 18446744073709551616 = 0 by omega, show 1 * n % 18446744073709551616 = n by omega] at HM
  have d0 : decide ((n : Int) < 0) = false := decide_eq_false (by omega)
  have w1 : IntKind.u64.wrap (n : Int) = (n : Int) := by rw [IntKind.wrap_u64]; omega
  have w2 : IntKind.i64.wrap (n : Int) = (n : Int) := by simp only [IntKind.wrap, IntKind.signed, IntKind.bits]; simp; omega
  have d1 : decide ((n : Int) > 9223372036854775807) = false := decide_eq_false (by omega)
  have HN := Lib.hid hn
  have HN2 := Lib.hid hn2
  have R0 := Lib.hid hr
  have hmk := run_make_hashes n w (by omega)
  clear hr hn
  go_enter Try.func12, Try.ntmps12
  go_wp2_with (first
    | (go_at_call 13; refine (HM.out _).mono ?_; rintro e w' ⟨rfl, rfl⟩)
    | (refine park_at 33 rfl ?_))
  refine unpark ?_
  have R1 := R0.out.alloc (.cells (hC n fun _ => []) 24)
  have Q1 := Rowz.new w' (hC n fun _ => []) 24
  have K1 := (Kept.refl w').alloc (.cells (hC n fun _ => []) 24)
  obtain ⟨g, hg⟩ : ∃ g, g = w'.heap.size := ⟨_, rfl⟩
  rw [← hg] at Q1 ⊢
  generalize w'.alloc (.cells (hC n fun _ => []) 24) = v1 at R1 Q1 K1 ⊢
  refine wpList_exec 33 rfl (by rfl) _ _ (execCopyH _ _ rfl g 0 1 n n n 1 c0 ⟨g0, 0, none⟩ (fun _ => []) (fun _ => h) 24 rfl rfl Q1 (by have := HN.out; show 1 = min 1 n; omega) (by have := HN.out; omega) (HAt.ofRow (by rw [hC_one1]; exact R1) (fun _ _ => hh))) ?_
  have Q2 := Lib.hid (Q1.row (D := hC n (layF (fun _ => []) (fun _ => h) 0 1)))
  have K2 := Lib.hid (K1.setRow (Nat.le_of_eq hg.symm) (hC n (layF (fun _ => []) (fun _ => h) 0 1)))
  rw [rep_first] at Q2 K2 ⊢
  have HG := Lib.hid hg
  have HH := Lib.hid hh
  generalize v1.setRow g (hC n (upH (fun _ => h) 1)) = v2 at Q2 K2 ⊢
  clear R1 Q1 K1 R0 hg hmk hh
  go_wp2_with fail
  go_loopw [8] (fun s8 wr => ∃ k : Nat, s8 = .int .i64 (k : Int) ∧ Hid (0 < k ∧ k ≤ n) ∧ Hid (Rowz wr g (hC n (upH (fun _ => h) k)) 24) ∧ Hid (Kept w' wr)) (fun s8 _ => n - (intOf s8).toNat)
  case atStart => exact ⟨1, rfl, Lib.hid ⟨by omega, HN.out⟩, Q2, K2⟩
  case round =>
    clear Q2 K2
    obtain ⟨k, rfl, hk, Q3, K3⟩ := hrel
    by_cases hlt : k < n
    · have hd : decide ((k : Int) < (n : Int)) = true := decide_eq_true (by omega)
      have hd' : decide (k < n) = true := decide_eq_true hlt
      obtain ⟨m, hm⟩ : ∃ m, m = min k (n - k) := ⟨_, rfl⟩
      have HC1 := Lib.hid fun u => run_cutH_right ⟨g, 0, none⟩ n n k u (by omega) (by omega)
      have HC2 := Lib.hid fun u => run_cutH_left ⟨g, 0, none⟩ n n k u (by omega)
      have HM := Lib.hid hm
      clear hm
      go_wp2_with fail
      have KK : Kept w' wr.drew := K3.out
      have Q4 : Rowz wr.drew g (hC n (upH (fun _ => h) k)) 24 := Q3.out
      refine wp_region_held_drew (S := fun u => Kept w' u) (by kernel_rfl) KK (fun _ => ?_)
      generalize wr.drew = y at KK Q4 ⊢
      refine takeW 0 38 (.int .i64 (k : Int)) rfl rfl (by kernel_rfl) (by kernel_rfl) (by kernel_rfl) (by rfl) (fun _ _ _ h => h) KK (fun w' hw' => execMoveW w' (Or.inl rfl) rfl) ?_
      simp only [List.setIfInBounds_toArray, List.set_cons_zero, List.set_cons_succ]
      refine takeW 1 39 (.slice (some ⟨g, 0, none⟩) n n) rfl rfl (by kernel_rfl) (by kernel_rfl) (by kernel_rfl) (by rfl) (fun _ _ _ h => h) KK (fun w' hw' => execMoveW w' (Or.inl rfl) rfl) ?_
      simp only [List.setIfInBounds_toArray, List.set_cons_zero, List.set_cons_succ]
      refine takeW 2 40 (.int .i64 (k : Int)) rfl rfl (by kernel_rfl) (by kernel_rfl) (by kernel_rfl) (by rfl) (fun _ _ _ h => h) KK (fun w' hw' => execMoveW w' (Or.inl rfl) rfl) ?_
      simp only [List.setIfInBounds_toArray, List.set_cons_zero, List.set_cons_succ]
      refine takeW 3 41 (.slice (some ((⟨g, 0, none⟩ : Addr).add (k * 32))) (n - k) (n - k)) rfl rfl (by kernel_rfl) (by kernel_rfl) (by kernel_rfl) (by rfl) (fun _ _ _ h => h) KK (fun w' hw' => execSliceH _ _ _ _ _ rfl rfl rfl rfl rfl (HC1.out w')) ?_
      simp only [List.setIfInBounds_toArray, List.set_cons_zero, List.set_cons_succ]
      refine takeW 4 42 (.slice (some ⟨g, 0, none⟩) n n) rfl rfl (by kernel_rfl) (by kernel_rfl) (by kernel_rfl) (by rfl) (fun _ _ _ h => h) KK (fun w' hw' => execMoveW w' (Or.inl rfl) rfl) ?_
      simp only [List.setIfInBounds_toArray, List.set_cons_zero, List.set_cons_succ]
      refine takeW 5 43 (.int .i64 (k : Int)) rfl rfl (by kernel_rfl) (by kernel_rfl) (by kernel_rfl) (by rfl) (fun _ _ _ h => h) KK (fun w' hw' => execMoveW w' (Or.inl rfl) rfl) ?_
      simp only [List.setIfInBounds_toArray, List.set_cons_zero, List.set_cons_succ]
      refine takeW 6 44 (.slice (some ⟨g, 0, none⟩) k n) rfl rfl (by kernel_rfl) (by kernel_rfl) (by kernel_rfl) (by rfl) (fun _ _ _ h => h) KK (fun w' hw' => execSliceH _ _ _ _ _ rfl rfl rfl rfl rfl (HC2.out w')) ?_
      simp only [List.setIfInBounds_toArray, List.set_cons_zero, List.set_cons_succ]
      refine wpAnyH_ready (rs := [7]) (by kernel_rfl) (by simp) (AllReadyH.cons rfl (fun K0 hK0 => ?_) AllReadyH.nil)
      rw [if_pos (by rfl)]
      refine wp_copy_hashes _ _ rfl g k m n (n - k) (n - k) k n ⟨g, 0, none⟩ (upH (fun _ => h) k) (fun _ => h) 24 (by rw [Addr.add_mid, Nat.zero_add]; rfl) rfl Q4 HM.out (by have := HM.out; omega) ((HAt.ofCells Q4 (fun _ _ => HH.out) (fun i hi => by
        have := HM.out
        rw [hC_get _ _ _ (by omega), hC_get _ _ _ hi]
        unfold upH
        rw [if_pos (by omega)]))) ?_
      have Q5 := Lib.hid (Q4.row (D := hC n (layF (upH (fun _ => h) k) (fun _ => h) k m)))
      have K5 := KK.setRow (Nat.le_of_eq HG.out.symm) (hC n (layF (upH (fun _ => h) k) (fun _ => h) k m))
      rw [rep_step h n k m (by have := HM.out; omega)] at Q5 K5 ⊢
      generalize y.setRow g (hC n (upH (fun _ => h) (k + m))) = y5 at Q5 K5 ⊢
      refine hK0.out _ _ K5 (fun _ => ?_)
      clear hK0 K0 Q4 KK
      simp only [Act.put]
      refine takeW 8 46 (.int .i64 ((k + m : Nat) : Int)) rfl rfl (by kernel_rfl) (by kernel_rfl) (by kernel_rfl) (by rfl) (fun _ _ _ h => h) K5 (fun w' hw' => execAddHH k m (by have := HM.out; have := HN2.out; omega) w' rfl rfl rfl) ?_
      simp only [List.setIfInBounds_toArray, List.set_cons_zero, List.set_cons_succ]
      refine takeW 9 8 (.int .i64 ((k + m : Nat) : Int)) rfl rfl (by kernel_rfl) (by kernel_rfl) (by kernel_rfl) (by rfl) (fun _ _ _ h => h) K5 (fun w' hw' => execMoveW w' (Or.inr rfl) rfl) ?_
      simp only [List.setIfInBounds_toArray, List.set_cons_zero, List.set_cons_succ]
      refine wpAnyH_done (by kernel_rfl) ?_ _
      clear HC1 HC2
      go_wp2_with fail
      go_roundw
      case measure => simp [intOf]; have := HM.out; have := hk.out; omega
      case rel => exact ⟨k + m, rfl, Lib.hid (by have := HM.out; have := hk.out; omega), Q5, Lib.hid K5⟩
    · have hd : decide ((k : Int) < (n : Int)) = false := decide_eq_false (by omega)
      have hd' : decide (k < n) = false := decide_eq_false hlt
      obtain rfl : k = n := by have := hk.out; omega
      rw [upH_all] at Q3
      go_wp2_with fail
      go_ret
      exact ⟨g, rfl, Nat.le_of_eq HG.out.symm, Q3.out, K3.out⟩
end Go.Proofs.Ytfadcibmkjpjoaa
