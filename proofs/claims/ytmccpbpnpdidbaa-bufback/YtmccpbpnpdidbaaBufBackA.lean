/-
  What is put is taken: each kind of a step's bytes read back by a cursor. Conditions: a hash has 32 bytes, a number 64 bits.
-/
import Derived.Test.YtmccpbpnpdidbaaBufLaw
import Derived.Test.YtmccpbpnpdidbaaCurWalkC
namespace Go.Proofs.Ytmccpbpnpdidbaa
open Go.RowKit

theorem ext_head (x t : ByteArray) : (x ++ t).extract 0 x.size = x := by
  apply ByteArray.ext
  rw [ByteArray.data_extract, ← Array.toList_inj, Array.toList_extract, ByteArray.data_append, Array.toList_append]
  have hl : x.data.toList.length = x.size := rfl
  simp [List.extract]
theorem ext_tail (x t : ByteArray) : (x ++ t).extract x.size (x ++ t).size = t := by
  apply ByteArray.ext
  rw [ByteArray.data_extract, ← Array.toList_inj, Array.toList_extract, ByteArray.data_append, Array.toList_append, ByteArray.size_append]
  have hl : x.data.toList.length = x.size := rfl
  have hl2 : t.data.toList.length = t.size := rfl
  rw [List.extract, ← hl, List.drop_left, ← hl2, Nat.add_sub_cancel_left, List.take_length]
theorem raw_back (x t : ByteArray) (n : Int) (hn : n = (x.size : Int)) : rawP ⟨x ++ t, 0⟩ n = (x, ⟨t, 0⟩) := by
  subst hn
  have hs : (x ++ t).size = x.size + t.size := ByteArray.size_append
  rw [rawP, if_neg (by omega), if_neg (by show ¬ ((x ++ t).size : Int) < _; rw [hs]; omega)]
  show ((x ++ t).extract 0 x.size, Cu.mk ((x ++ t).extract x.size (x ++ t).size) 0) = _
  rw [ext_head, ext_tail]
theorem num_back (x : Nat) (t : ByteArray) (hx : x < 18446744073709551616) : numP ⟨vS x ++ t, 0⟩ x = (x, ⟨t, 0⟩) := by
  have h : tkL (sl (vS x ++ t)) = (x, (vS x).size, 0) := by rw [sl_append, sl_vS, tk_vs x (sl t) hx, vS_size]
  rw [numP]
  simp only [h]
  rw [if_neg (by simp), if_neg (by omega), ext_tail]
theorem text_back (S t : ByteArray) (hS : S.size < 18446744073709551616) : textP ⟨vS S.size ++ (S ++ t), 0⟩ (S.size : Int) = (S, ⟨t, 0⟩) := by
  rw [textP, Int.toNat_natCast, num_back _ _ hS]
  exact raw_back S t _ rfl
theorem hash_back (h : List UInt8) (hh : h.length = 32) : hashL (hB h) = h := by
  apply List.ext_getElem?
  intro i
  show ((List.range 32).map fun i => h.getD i 0)[i]? = _
  by_cases hi : i < 32
  · simp [hi, List.getD_eq_getElem?_getD, hh]
  · simp [hi, List.getElem?_eq_none (show h.length ≤ i by omega)]

theorem curRaw_back (g : Nat) (x t : ByteArray) (n : Int) (hn : n = (x.size : Int)) (w : World) (h : CurAt w g ⟨x ++ t, 0⟩) :
    Calls Try.prog 22 #[.pointer (some ⟨g, 0, none⟩), .int .i64 n] w fun e w' => e = .returned (.string x) ∧ CurAt w' g ⟨t, 0⟩ ∧ OnlyC g w w' := by
  have := curRaw_any g ⟨x ++ t, 0⟩ n w h
  rwa [raw_back x t n hn] at this
theorem curByte_back (g : Nat) (c : Nat) (hc : c < 256) (t : ByteArray) (w : World) (h : CurAt w g ⟨oneB c ++ t, 0⟩) :
    Calls Try.prog 23 #[.pointer (some ⟨g, 0, none⟩)] w fun e w' => e = .returned (.int .u8 (c : Int)) ∧ CurAt w' g ⟨t, 0⟩ ∧ OnlyC g w w' := by
  have := curByte_any g ⟨oneB c ++ t, 0⟩ w h
  rw [raw_back (oneB c) t 1 rfl] at this
  have e : firstB (oneB c) = c := by
    show (UInt8.ofNat c).toNat = c
    simp
    omega
  rwa [e] at this
theorem curNum_back (g : Nat) (x : Nat) (hx : x < 18446744073709551616) (t : ByteArray) (w : World) (h : CurAt w g ⟨vS x ++ t, 0⟩) :
    Calls Try.prog 24 #[.pointer (some ⟨g, 0, none⟩), .int .u64 (x : Int)] w fun e w' => e = .returned (.int .u64 (x : Int)) ∧ CurAt w' g ⟨t, 0⟩ ∧ OnlyC g w w' := by
  have := curNum_any g ⟨vS x ++ t, 0⟩ x w h
  rwa [num_back x t hx] at this
theorem curText_back (g : Nat) (S t : ByteArray) (hS : S.size ≤ 2000) (w : World) (h : CurAt w g ⟨vS S.size ++ (S ++ t), 0⟩) :
    Calls Try.prog 26 #[.pointer (some ⟨g, 0, none⟩), .int .i64 (S.size : Int)] w fun e w' => e = .returned (.string S) ∧ CurAt w' g ⟨t, 0⟩ ∧ OnlyC g w w' := by
  have := curText_any g ⟨vS S.size ++ (S ++ t), 0⟩ (S.size : Int) w h (by omega)
  rwa [text_back S t (by omega)] at this
theorem curHash_back (g : Nat) (h : List UInt8) (hh : h.length = 32) (t : ByteArray) (w : World) (H : CurAt w g ⟨hB h ++ t, 0⟩) :
    Calls Try.prog 25 #[.pointer (some ⟨g, 0, none⟩)] w fun e w' => e = .returned (.agg (bC 32 h)) ∧ CurAt w' g ⟨t, 0⟩ ∧ OnlyC g w w' := by
  have := curHash_any g ⟨hB h ++ t, 0⟩ w H
  rwa [raw_back (hB h) t 32 (by rw [hB_size, hh]; rfl), hash_back h hh] at this
/-! ### Operations taken whole -/
theorem execMoveB {P : Program} {o : Oper} {t : Array Value} {x : Operand} {v : Value} (w : World) (ho : o.op = .move x ∨ o.op = .assign x) (hx : evS t x = v) : (execOp (evS t) o).run P w = .ok (.value v) w := by
  unfold execOp
  rcases ho with ho | ho <;> rw [ho] <;> simp only [hx] <;> rfl
theorem execField {o : Oper} {t : Array Value} {x : Operand} (b k : Nat) (hk : k = 1 ∨ k = 2 ∨ k = 3) (w : World) (ho : o.op = .fieldAddr 35 x k) (hx : evS t x = .pointer (some ⟨b, 0, none⟩)) :
    (execOp (evS t) o).run Try.prog w = .ok (.value (.pointer (some ⟨b, k, none⟩))) w := by
  rcases hk with rfl | rfl | rfl
  all_goals
    unfold execOp
    rw [ho]
    simp only [hx]
    go_simp
theorem run_loadS {w : World} {a : Addr} {S : ByteArray} (h : w.cell? a = some (.string S)) : (Instr.loadAt 9 (.pointer (some a))).run Try.prog w = .ok (.string S) w := by
  go_simp
theorem run_load64 {w : World} {a : Addr} {n : Nat} (h : w.cell? a = some (.int .u64 (n : Int))) : (Instr.loadAt 31 (.pointer (some a))).run Try.prog w = .ok (.int .u64 (n : Int)) w := by
  go_simp
theorem execMul2 {o : Oper} {t : Array Value} {x : Operand} (n : Nat) (hn : n ≤ 1000000) (w : World) (ho : o.op = .binOp .mul 3 (.const (.int .i64 2)) x 3) (hx : evS t x = .int .i64 (n : Int)) :
    (execOp (evS t) o).run Try.prog w = .ok (.value (.int .i64 ((2 : Int) * (n : Int)))) w := by
  have hc : evS t (.const (.int .i64 2)) = .int .i64 2 := rfl
  unfold execOp
  rw [ho]
  simp only [hx, hc]
  go_simp
  rw [IntKind.wrap_i64]
  omega
theorem execAddB {o : Oper} {t : Array Value} {x y : Operand} (a b : ByteArray) (hs : a.size + b.size ≤ 1000000) (w : World) (ho : o.op = .binOp .add 9 x y 9) (hx : evS t x = .string a) (hy : evS t y = .string b) :
    (execOp (evS t) o).run Try.prog w = .ok (.value (.string (a ++ b))) w := by
  have hn : ¬ (9223372036854775807 < a.size + b.size) := by omega
  unfold execOp
  rw [ho]
  simp only [hx, hy]
  go_simp
theorem execEqS1 {o : Oper} {t : Array Value} {x y : Operand} (a : ByteArray) (w : World) (ho : o.op = .binOp .eql 9 x y 9) (hx : evS t x = .string a) (hy : evS t y = .string a) :
    (execOp (evS t) o).run Try.prog w = .ok (.value (.bool true)) w := by
  have h := execEqS a a w ho hx hy
  rwa [beq_self_eq_true] at h
theorem execEqI1 {o : Oper} {t : Array Value} {x y : Operand} (a : Int) (w : World) (ho : o.op = .binOp .eql 5 x y 5) (hx : evS t x = .int .u8 a) (hy : evS t y = .int .u8 a) :
    (execOp (evS t) o).run Try.prog w = .ok (.value (.bool true)) w := by
  unfold execOp
  rw [ho]
  simp only [hx, hy]
  go_simp
theorem execEq641 {o : Oper} {t : Array Value} {x y : Operand} (a : Nat) (w : World) (ho : o.op = .binOp .eql 31 x y 31) (hx : evS t x = .int .u64 (a : Int)) (hy : evS t y = .int .u64 (a : Int)) :
    (execOp (evS t) o).run Try.prog w = .ok (.value (.bool true)) w := by
  have h := execEq64 a a w ho hx hy
  rwa [beq_self_eq_true] at h
theorem execConv8 {o : Oper} {t : Array Value} {x : Operand} (n : Nat) (w : World) (ho : o.op = .convert 31 5 x) (hx : evS t x = .int .u64 (n : Int)) :
    (execOp (evS t) o).run Try.prog w = .ok (.value (.int .u8 (((n % 256 : Nat)) : Int))) w := by
  unfold execOp
  rw [ho]
  simp only [hx]
  go_simp
  rw [IntKind.wrap_u8]
theorem execPickT {P : Program} {o : Oper} {t : Array Value} {c x y : Operand} {v : Value} (w : World) (ho : o.op = .pick c x y) (hc : evS t c = .bool true) (hx : evS t x = v) : (execOp (evS t) o).run P w = .ok (.value v) w := by
  unfold execOp
  rw [ho]
  simp [hc, hx, asBool]
end Go.Proofs.Ytmccpbpnpdidbaa
