/-
  Contracts of cur: the two parts of a cursor (size, front, cut, drop, kept, keep) and Read.
-/
import Derived.Test.YtdidgenenlefiaaCurMath
import Derived.Test.YtdidgenenlefiaaBas
namespace Go.Proofs.Ytdidgenenlefiaa
set_option maxRecDepth 4000
open Go.RowKit

def CurAt (w : World) (g : Nat) (c : Cu) : Prop := Rowz w g #[.string c.b, .int .i64 c.e] 59
theorem CurAt.c0 {w : World} {g : Nat} {c : Cu} (h : CurAt w g c) : w.cell? ⟨g, 0, none⟩ = some (.string c.b) := Rowz.cell h 0
theorem CurAt.c1 {w : World} {g : Nat} {c : Cu} (h : CurAt w g c) : w.cell? ⟨g, 1, none⟩ = some (.int .i64 c.e) := Rowz.cell h 1
theorem CurAt.f {w : World} {g : Nat} {c : Cu} (h : CurAt w g c) (i : Nat) : w.frozen? ⟨g, i, none⟩ = false := Rowz.free h i
theorem CurAt.set0 {w : World} {g : Nat} {c : Cu} (h : CurAt w g c) (s : ByteArray) : CurAt (w.setCell ⟨g, 0, none⟩ (.string s)) g ⟨s, c.e⟩ := Rowz.set h 0 _
theorem CurAt.set1 {w : World} {g : Nat} {c : Cu} (h : CurAt w g c) (x : Int) : CurAt (w.setCell ⟨g, 1, none⟩ (.int .i64 x)) g ⟨c.b, x⟩ := Rowz.set h 1 _
theorem CurAt.only {b g : Nat} {w w' : World} {c : Cu} (h : CurAt w g c) (k : OnlyC b w w') (hn : g ≠ b) : CurAt w' g c := Rowz.onlyC h k hn
theorem CurAt.grown {g : Nat} {w w' : World} {c : Cu} (h : CurAt w g c) (k : Grown w w') : CurAt w' g c := Rowz.grown h k

theorem curSize_any (g : Nat) (c : Cu) (w : World) (h : CurAt w g c) :
    Calls Try.prog 27 #[.pointer (some ⟨g, 0, none⟩)] w fun e w' => e = .returned (.int .i64 (c.b.size : Int)) ∧ w = w' := by
  have h0 := h.c0
  clear h
  go_enter Try.func27, Try.ntmps27
  go_wp2
  go_ret
  exact ⟨rfl, rfl⟩
theorem curKept_any (g : Nat) (c : Cu) (w : World) (h : CurAt w g c) :
    Calls Try.prog 28 #[.pointer (some ⟨g, 1, none⟩)] w fun e w' => e = .returned (.int .i64 c.e) ∧ w = w' := by
  have h0 := h.c1
  clear h
  go_enter Try.func28, Try.ntmps28
  go_wp2
  go_ret
  exact ⟨rfl, rfl⟩
theorem curDrop_any (g : Nat) (c : Cu) (w : World) (h : CurAt w g c) :
    Calls Try.prog 35 #[.pointer (some ⟨g, 0, none⟩)] w fun e w' => e = .returned (.tuple #[]) ∧ CurAt w' g ⟨noB, c.e⟩ ∧ OnlyC g w w' := by
  have h0 := h.c0
  have hf := h.f 0
  have H := Lib.hid h
  clear h
  go_enter Try.func35, Try.ntmps35
  go_wp2
  exact ⟨rfl, .tuple #[], results_none Try.results35 _ _ _, rfl, H.out.set0 _, OnlyC.ofCell w 0 _⟩
theorem curCut_any (g : Nat) (c : Cu) (n : Nat) (w : World) (h : CurAt w g c) (hn : n ≤ c.b.size) :
    Calls Try.prog 32 #[.pointer (some ⟨g, 0, none⟩), .int .i64 (n : Int)] w fun e w' => e = .returned (.string (c.b.extract 0 n)) ∧ CurAt w' g ⟨c.b.extract n c.b.size, c.e⟩ ∧ OnlyC g w w' := by
  have h0 := h.c0
  have hf := h.f 0
  have hs1 := run_cutH c.b n w hn
  have hs2 := run_cutT c.b n w hn
  have H := Lib.hid h
  clear h hn
  go_enter Try.func32, Try.ntmps32
  go_wp2
  go_ret
  exact ⟨rfl, H.out.set0 _, OnlyC.ofCell w 0 _⟩
def keepB (c : Cu) (x : Int) : Bool := decide (x ≠ 0 ∧ c.e = 0)
def keepE (c : Cu) (x : Int) : Int := if x ≠ 0 ∧ c.e = 0 then x else c.e
theorem curKeep_any (g : Nat) (c : Cu) (x : Int) (w : World) (h : CurAt w g c) :
    Calls Try.prog 34 #[.pointer (some ⟨g, 1, none⟩), .int .i64 x] w fun e w' => e = .returned (.bool (keepB c x)) ∧ CurAt w' g ⟨c.b, keepE c x⟩ ∧ OnlyC g w w' := by
  have h0 := h.c1
  have hf := h.f 1
  have H := Lib.hid h
  clear h
  by_cases hx : x = 0
  · have hd : (x == 0) = true := by simp [hx]
    have HE : Hid (keepB c x = false ∧ keepE c x = c.e) := Lib.hid ⟨by simp [keepB, hx], by simp [keepE, hx]⟩
    clear hx
    go_enter Try.func34, Try.ntmps34
    go_wp2
    go_ret
    rw [HE.out.1, HE.out.2]
    exact ⟨rfl, H.out, OnlyC.refl _ _⟩
  · have hd : (x == 0) = false := by simp [hx]
    by_cases he : c.e = 0
    · have hd2 : (c.e == 0) = true := by simp [he]
      have HE : Hid (keepB c x = true ∧ keepE c x = x) := Lib.hid ⟨by simp [keepB, hx, he], by simp [keepE, hx, he]⟩
      clear hx he
      go_enter Try.func34, Try.ntmps34
      go_wp2
      go_ret
      rw [HE.out.1, HE.out.2]
      exact ⟨rfl, H.out.set1 _, OnlyC.ofCell w 1 _⟩
    · have hd2 : (c.e == 0) = false := by simp [he]
      have HE : Hid (keepB c x = false ∧ keepE c x = c.e) := Lib.hid ⟨by simp [keepB, he], by simp [keepE, he]⟩
      clear hx he
      go_enter Try.func34, Try.ntmps34
      go_wp2
      go_ret
      rw [HE.out.1, HE.out.2]
      exact ⟨rfl, H.out, OnlyC.refl _ _⟩
theorem curRead_any (s : ByteArray) (w : World) :
    Calls Try.prog 12 #[.string s] w fun e w' => e = .returned (.pointer (some ⟨w.heap.size, 0, none⟩)) ∧ CurAt w' w.heap.size ⟨s, 0⟩ ∧ Grown w w' := by
  go_enter Try.func12, Try.ntmps12
  go_wp2
  go_ret
  exact ⟨rfl, Rowz.new w _ _, (Grown.refl w).alloc _ _⟩
end Go.Proofs.Ytdidgenenlefiaa
