/-
  Contracts of num: Put, Size, Take, last.
-/
import Derived.Test.YtdidgenenlefiaaGotoLib
import Derived.Test.YtdidgenenlefiaaNumMath
import Derived.Test.YtdidgenenlefiaaBas
namespace Go.Proofs.Ytdidgenenlefiaa
set_option maxRecDepth 4000
open Go.RowKit

theorem infoU8n : (Try.prog.info? 5).map (fun i => (i.zero, i.size, i.bytes)) = some (some (.int .u8 0), 1, 1) := by kernel_rfl
def bvL (l : List UInt8) : List Value := l.map fun u => .int .u8 (u.toNat : Int)
theorem bvL_snoc (l : List UInt8) (c : Nat) (h : c < 256) : bvL l ++ [.int .u8 (c : Int)] = bvL (l ++ [UInt8.ofNat c]) := by
  simp only [bvL, List.map_append, List.map_cons, List.map_nil]
  rw [show (UInt8.ofNat c).toNat = c by simp; omega]
theorem run_owned {w : World} {base : Nat} {v : Value} {n : Nat} (l : List UInt8) (h : w.ownsRow base 5 1 v n (bvL l)) (hn : 0 < n) :
    (convert 47 9 v).run Try.prog w = .ok (.string ⟨l.toArray⟩) w := by
  have hl : l.length = n := by have := h.1; simpa [bvL] using this
  obtain ⟨g, cap, cur, rfl, _, _, hr, hb⟩ := owns_row h hn
  have h1 := run_strB w g 0 cap l (fun j hj => by
    rw [Nat.zero_add, hr.cell, hb j (by omega), bvL, List.getElem?_map, List.getElem?_eq_getElem hj]
    rfl)
  rw [hl] at h1
  exact h1
theorem run_make10 (w : World) : (Instr.makeSlice 47 (.int .i64 0) (.int .i64 10)).run Try.prog w = .ok (.slice (some ⟨w.heap.size, 0, none⟩) 0 10) (w.alloc (.cells (bC 10 []) 5)) := by kernel_rfl

theorem or128 (y : Nat) : bits .or .u8 ((y : Int) % 256) 128 = ((y % 128 + 128 : Nat) : Int) := by
  have h : ∀ n : Nat, n < 256 → bits .or .u8 (n : Int) 128 = ((n % 128 + 128 : Nat) : Int) := by decide +kernel
  have h1 := h (y % 256) (by omega)
  rw [show y % 256 % 128 = y % 128 by omega] at h1
  exact h1
theorem and127 (c : Nat) (hc : c < 256) : bits .and .u8 (c : Int) 127 = ((c % 128 : Nat) : Int) := by
  have h : ∀ n : Nat, n < 256 → bits .and .u8 (n : Int) 127 = ((n % 128 : Nat) : Int) := by decide +kernel
  exact h c hc
end Go.Proofs.Ytdidgenenlefiaa
