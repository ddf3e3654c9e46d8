/-
  Contracts of the reference's Bytes and Get of headers (milepostref17). Conditions: a header's parts fit; a string's size fits.
-/
import Derived.Test.YtlfkkfacbcpogaaDoorHeadLib
import Derived.Test.YtlfkkfacbcpogaaDoorTag
import Derived.Test.YtlfkkfacbcpogaaDoorBas
namespace Go.Proofs.YtlfkkfacbcpogaaDoor
set_option maxRecDepth 4000
open Go.RowKit

def hdO : Nat → Nat
  | 0 => 0
  | 1 => 1
  | 2 => 33
  | _ => 65
theorem execFieldH {o : Oper} {t : Array Value} {x : Operand} (b k j : Nat) (hk : k = 0 ∨ k = 1 ∨ k = 2 ∨ k = 3) (hj : j = hdO k) (w : World) (ho : o.op = .fieldAddr 33 x k) (hx : evS t x = .pointer (some ⟨b, 0, none⟩)) :
    (execOp (evS t) o).run Tryd.prog w = .ok (.value (.pointer (some ⟨b, j, none⟩))) w := by
  subst hj
  rcases hk with rfl | rfl | rfl | rfl
  all_goals
    unfold execOp hdO
    rw [ho]
    simp only [hx]
    go_simp
theorem run_loadU32 {w : World} {a : Addr} {n : Int} (h : w.cell? a = some (.int .u32 n)) : (Instr.loadAt 22 (.pointer (some a))).run Tryd.prog w = .ok (.int .u32 n) w := by
  go_simp
theorem run_loadU64 {w : World} {a : Addr} {n : Int} (h : w.cell? a = some (.int .u64 n)) : (Instr.loadAt 25 (.pointer (some a))).run Tryd.prog w = .ok (.int .u64 n) w := by
  go_simp
theorem hdr_0 {w : World} {g : Nat} {x : Hd} {T : TypeId} (h : Rowz w g (hdC x) T) : w.cell? ⟨g, 0, none⟩ = some (.int .u32 (x.h : Int)) := by rw [h.cell]; exact hdC_0 x
theorem hdr_65 {w : World} {g : Nat} {x : Hd} {T : TypeId} (h : Rowz w g (hdC x) T) : w.cell? ⟨g, 65, none⟩ = some (.int .u64 (x.n : Int)) := by rw [h.cell]; exact hdC_65 x
theorem hdr_l {w : World} {g : Nat} {x : Hd} {T : TypeId} (h : Rowz w g (hdC x) T) (hl : x.l.length = 32) : HAt w (some ⟨g, 1, none⟩) 1 (fun _ => x.l) := fun i hi => by
  refine ⟨hl, _, rfl, h.lt, fun j u hj => ?_⟩
  have hj32 : j < 32 := by
    have := (List.getElem?_eq_some_iff.1 hj).1
    simpa [bC_size] using this
  rw [Array.getElem?_toList, bC_get _ _ _ hj32] at hj
  obtain rfl : i = 0 := by omega
  rw [Addr.add_mid, h.cell, ← hj, show 1 + (0 * 32 + j) = 1 + j by omega]
  exact hdC_l x j hj32
theorem hdr_t {w : World} {g : Nat} {x : Hd} {T : TypeId} (h : Rowz w g (hdC x) T) (hl : x.t.length = 32) : HAt w (some ⟨g, 33, none⟩) 1 (fun _ => x.t) := fun i hi => by
  refine ⟨hl, _, rfl, h.lt, fun j u hj => ?_⟩
  have hj32 : j < 32 := by
    have := (List.getElem?_eq_some_iff.1 hj).1
    simpa [bC_size] using this
  rw [Array.getElem?_toList, bC_get _ _ _ hj32] at hj
  obtain rfl : i = 0 := by omega
  rw [Addr.add_mid, h.cell, ← hj, show 33 + (0 * 32 + j) = 33 + j by omega]
  exact hdC_t x j hj32
/-- A byte of the first hash, of the second, written. -/
theorem hdC_setl (h n : Nat) (l t : List UInt8) (k : Nat) (hk : k < 32) (v : Int) (hv : v = (((l.getD k 0).toNat : Nat) : Int)) : (hdC ⟨h, l.take k, t, n⟩).setIfInBounds (1 + k) (.int .u8 v) = hdC ⟨h, l.take (k + 1), t, n⟩ := by
  subst hv
  apply Array.ext'
  apply List.ext_getElem?
  intro i
  rw [Array.getElem?_toList, Array.getElem?_toList]
  by_cases h66 : i < 66
  · rw [Array.getElem?_setIfInBounds]
    by_cases h0 : i = 0
    · subst h0; rw [if_neg (by omega), hdC_0, hdC_0]
    · by_cases h1 : i < 33
      · obtain ⟨j, rfl⟩ : ∃ j, i = 1 + j := ⟨i - 1, by omega⟩
        by_cases hjk : j = k
        · subst hjk
          rw [if_pos rfl, if_pos (by rw [hdC_size]; omega), hdC_l _ _ hk]
          simp [List.getD_eq_getElem?_getD]
        · rw [if_neg (by omega), hdC_l _ _ (by omega), hdC_l _ _ (by omega)]
          simp only [List.getD_eq_getElem?_getD, List.getElem?_take]
          by_cases hlt : j < k
          · rw [if_pos hlt, if_pos (by omega)]
          · rw [if_neg hlt, if_neg (by omega)]
      · by_cases h2 : i < 65
        · obtain ⟨j, rfl⟩ : ∃ j, i = 33 + j := ⟨i - 33, by omega⟩
          rw [if_neg (by omega), hdC_t _ _ (by omega), hdC_t _ _ (by omega)]
        · obtain rfl : i = 65 := by omega
          rw [if_neg (by omega), hdC_65, hdC_65]
  · rw [Array.getElem?_eq_none (by rw [Array.size_setIfInBounds, hdC_size]; omega), Array.getElem?_eq_none (by rw [hdC_size]; omega)]
theorem hdC_sett (h n : Nat) (l t : List UInt8) (k : Nat) (hk : k < 32) (v : Int) (hv : v = (((t.getD k 0).toNat : Nat) : Int)) : (hdC ⟨h, l, t.take k, n⟩).setIfInBounds (33 + k) (.int .u8 v) = hdC ⟨h, l, t.take (k + 1), n⟩ := by
  subst hv
  apply Array.ext'
  apply List.ext_getElem?
  intro i
  rw [Array.getElem?_toList, Array.getElem?_toList]
  by_cases h66 : i < 66
  · rw [Array.getElem?_setIfInBounds]
    by_cases h0 : i = 0
    · subst h0; rw [if_neg (by omega), hdC_0, hdC_0]
    · by_cases h1 : i < 33
      · obtain ⟨j, rfl⟩ : ∃ j, i = 1 + j := ⟨i - 1, by omega⟩
        rw [if_neg (by omega), hdC_l _ _ (by omega), hdC_l _ _ (by omega)]
      · by_cases h2 : i < 65
        · obtain ⟨j, rfl⟩ : ∃ j, i = 33 + j := ⟨i - 33, by omega⟩
          by_cases hjk : j = k
          · subst hjk
            rw [if_pos rfl, if_pos (by rw [hdC_size]; omega), hdC_t _ _ hk]
            simp [List.getD_eq_getElem?_getD]
          · rw [if_neg (by omega), hdC_t _ _ (by omega), hdC_t _ _ (by omega)]
            simp only [List.getD_eq_getElem?_getD, List.getElem?_take]
            by_cases hlt : j < k
            · rw [if_pos hlt, if_pos (by omega)]
            · rw [if_neg hlt, if_neg (by omega)]
        · obtain rfl : i = 65 := by omega
          rw [if_neg (by omega), hdC_65, hdC_65]
  · rw [Array.getElem?_eq_none (by rw [Array.size_setIfInBounds, hdC_size]; omega), Array.getElem?_eq_none (by rw [hdC_size]; omega)]

theorem execAllocHd {o : Oper} {t : Array Value} (w : World) (ho : o.op = .alloc 33) : (execOp (evS t) o).run Tryd.prog w = .ok (.value (.pointer (some ⟨w.heap.size, 0, none⟩))) (w.alloc (.cells (hdC hdZ) 33)) := by
  unfold execOp
  rw [ho]
  kernel_rfl
theorem execBuildHn {o : Oper} {t : Array Value} {x y : Operand} (h n : Nat) (w : World) (ho : o.op = .build 33 #[(0, x), (3, y)]) (hx : evS t x = .int .u32 (h : Int)) (hy : evS t y = .int .u64 (n : Int)) :
    (execOp (evS t) o).run Tryd.prog w = .ok (.value (.agg (hdC ⟨h, List.replicate 32 0, List.replicate 32 0, n⟩))) w := by
  have hr := run_buildHn (h : Int) (n : Int) w h n rfl rfl
  unfold execOp
  simp [ho, hx, hy, hr, Result.andThen_ok]
theorem execBuildH0 {o : Oper} {t : Array Value} (w : World) (ho : o.op = .build 33 #[]) : (execOp (evS t) o).run Tryd.prog w = .ok (.value (.agg (hdC hdZ))) w := by
  have hr := run_buildH0 w
  unfold execOp
  simp [ho, hr, Result.andThen_ok]
end Go.Proofs.YtlfkkfacbcpogaaDoor
