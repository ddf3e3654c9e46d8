/-
  Contracts of package tag's texts and of their reference. Conditions: the parts fit.
-/
import Derived.Test.YtecfgjoomckleaaDoorWalkB
import Derived.Test.YtecfgjoomckleaaDoorFactLib
import Derived.Test.YtecfgjoomckleaaDoorShelf
import Derived.Test.YtecfgjoomckleaaDoorDrawLib
namespace Go.Proofs.YtecfgjoomckleaaDoor
set_option maxRecDepth 4000
open Go.RowKit

def catS (xs : List ByteArray) : ByteArray := ⟨(Lib.join (xs.map (·.data.toList)) []).toArray⟩
def tagB (tg : Nat) : ByteArray := ⟨#[UInt8.ofNat tg]⟩
theorem tagB_size (tg : Nat) : (tagB tg).size = 1 := rfl
def tagS (tg : Nat) (s : ByteArray) : ByteArray := tagB tg ++ s

theorem join_any (bk c : Nat) (xs : List ByteArray) (w : World) (hcells : ∀ (j : Nat) x, xs[j]? = some x → w.cell? ⟨bk, j, none⟩ = some (.string x)) (hbk : bk < w.heap.size) (hN : xs.length ≤ c) (hc : xs.length ≤ 1000)
    (hlen : (catS xs).size ≤ 140737488355328) :
    Calls Tryd.prog 50 #[.slice (some ⟨bk, 0, none⟩) xs.length c, .string ⟨#[]⟩] w fun e w' => e = .returned (.string (catS xs)) ∧ Kept w w' :=
  (Tryd.strings_Join bk 0 c xs ⟨#[]⟩ w (fun j x h => by rw [Nat.zero_add]; exact hcells j x h) hbk (by omega) hN (by simpa [catS, ByteArray.size] using hlen)).mono fun e w' ⟨he, hb⟩ => ⟨he, kept_below hb⟩

theorem run_build1 (x : Int) (w : World) : (Instr.buildSlice 64 1 #[(0, .int .u8 x)]).run Tryd.prog w = .ok (.slice (some ⟨w.heap.size, 0, none⟩) 1 1) (w.alloc (.cells #[.int .u8 x] 5)) := by kernel_rfl
theorem run_strB1 (w : World) (g tg : Nat) (htg : tg < 256) (hr : Rowz w g #[.int .u8 tg] 5) : (convert 64 9 (.slice (some ⟨g, 0, none⟩) 1 1)).run Tryd.prog w = .ok (.string (tagB tg)) w :=
  run_strB w g 0 1 [UInt8.ofNat tg] (fun j hj => by
    obtain rfl : j = 0 := by simp at hj; omega
    rw [hr.cell]
    simp
    omega)

theorem cells_of_strs {w : World} {g : Nat} {xs : List ByteArray} {T : TypeId} (h : Rowz w g (xs.map Value.string).toArray T) (j : Nat) (x : ByteArray) (hx : xs[j]? = some x) : w.cell? ⟨g, j, none⟩ = some (.string x) := by
  rw [h.cell]
  simp [hx]
theorem catS_one (x : ByteArray) : catS [x] = x := by
  apply ByteArray.ext; simp [catS, Lib.join]
theorem catS_two (x y : ByteArray) : catS [x, y] = x ++ y := by
  apply ByteArray.ext; rw [ByteArray.data_append]; simp [catS, Lib.join]
theorem catS_three (x y z : ByteArray) : catS [x, y, z] = x ++ y ++ z := by
  apply ByteArray.ext; rw [ByteArray.data_append, ByteArray.data_append]; simp [catS, Lib.join]

theorem tagText_any (k : Int) (tg : Nat) (hk0 : k = tg) (htg : tg < 256) (g n : Nat) (T : TypeId) (xs : List ByteArray) (w : World) (hr : Rowz w g (xs.map Value.string).toArray T) (hn : xs.length = n) (hc : n ≤ 1000)
    (s : ByteArray) (hs : catS xs = s) (hlen : s.size ≤ 140737488355328) :
    Calls Tryd.prog 38 #[.int .u8 k, .slice (some ⟨g, 0, none⟩) n n] w fun e w' => e = .returned (.string (tagS tg s)) ∧ Kept w w' := by
  subst hk0; subst hs; subst hn
  have HR := Lib.hid hr
  clear hr
  go_enter Tryd.func38, Tryd.ntmps38
  go_wp2_with fail
  refine wp_region_table [(5, .is (.int .u8 tg)), (6, .row (sliceAt0 1) #[.int .u8 tg] 5), (7, .is (.string (tagB tg))), (8, .is (.slice (some ⟨g, 0, none⟩) xs.length xs.length)), (9, .is (.string (catS xs))), (10, .is (.string (tagS tg (catS xs)))), (4, .is (.string (tagS tg (catS xs))))] (by kernel_rfl) (by kernel_rfl) ?_ ?_
  · refine ⟨fun t w1 hf hk hp => ?_, ?_⟩
    · have h0 : slot t 0 = .int .u8 tg := hf 0 (by kernel_rfl)
      clear hf hp
      refine stepAt_plain rfl ?_
      exact stepOK_move _ (.inl rfl) h0
    refine ⟨fun t w1 hf hk hp => ?_, ?_⟩
    · have h5 : slot t 5 = .int .u8 tg := hp 5 (by kernel_rfl)
      clear hf hp
      refine stepAt_plain rfl ?_
      have hq0 := run_build1 tg w1
      refine .value ((sliceAt0 1) w1.heap.size) (w1.alloc (.cells #[.int .u8 tg] 5)) ?_ ((Kept.refl w1).alloc _) ⟨_, rfl, Rowz.new w1 _ _⟩
      simp only [execOp, evS, List.map_toArray, List.map_cons, List.map_nil, h5, sliceAt0]
      go_simp
    refine ⟨fun t w1 hf hk hp => ?_, ?_⟩
    · obtain ⟨g6, h6, r6⟩ : ∃ g, slot t 6 = (sliceAt0 1) g ∧ Rowz w1 g #[.int .u8 tg] 5 := hp 6 (by kernel_rfl)
      simp only [sliceAt0] at h6
      clear hf hp
      refine stepAt_plain rfl ?_
      have hq0 := run_strB1 w1 g6 tg htg r6
      exact stepOK_sem (.string (tagB tg)) (by simp only [execOp, evS, h6]) hq0 rfl
    refine ⟨fun t w1 hf hk hp => ?_, ?_⟩
    · have h1 : slot t 1 = .slice (some ⟨g, 0, none⟩) xs.length xs.length := hf 1 (by kernel_rfl)
      clear hf hp
      refine stepAt_plain rfl ?_
      exact stepOK_move _ (.inl rfl) h1
    refine ⟨fun t w1 hf hk hp => ?_, ?_⟩
    · have h8 : slot t 8 = .slice (some ⟨g, 0, none⟩) xs.length xs.length := hp 8 (by kernel_rfl)
      clear hf hp
      refine stepAt_plain rfl ?_
      refine stepOK_call #[.slice (some ⟨g, 0, none⟩) xs.length xs.length, Value.string { data := #[] }] rfl (by simp only [List.map_toArray, List.map_cons, List.map_nil, evS, h8]) (by go_simp) ((join_any g xs.length xs w1 (cells_of_strs (HR.out.kept hk)) (HR.out.kept hk).lt (Nat.le_refl _) hc hlen).mono fun e w' ⟨he, hk'⟩ => ⟨_, he, hk', rfl⟩)
    refine ⟨fun t w1 hf hk hp => ?_, ?_⟩
    · have h7 : slot t 7 = .string (tagB tg) := hp 7 (by kernel_rfl)
      have h9 : slot t 9 = .string (catS xs) := hp 9 (by kernel_rfl)
      clear hf hp
      refine stepAt_plain rfl ?_
      exact stepOK_add ((tagB tg)) ((catS xs)) ((tagS tg (catS xs))) rfl h7 h9 (by rw [tagB_size]; omega) (rfl) rfl
    refine ⟨fun t w1 hf hk hp => ?_, ?_⟩
    · have h10 : slot t 10 = .string (tagS tg (catS xs)) := hp 10 (by kernel_rfl)
      clear hf hp
      refine stepAt_plain rfl ?_
      exact stepOK_move _ (.inr rfl) h10
    exact trivial
  · intro t w1 hsz hf hk hfacts
    have h4 : slot t 4 = .string (tagS tg (catS xs)) := hfacts 6 _ rfl 4 rfl
    have h0 : slot t 0 = .int .u8 tg := hf 0 (by kernel_rfl)
    have h1 : slot t 1 = .slice (some ⟨g, 0, none⟩) xs.length xs.length := hf 1 (by kernel_rfl)
    have harr : t = #[slot t 0, slot t 1, slot t 2, slot t 3, slot t 4, slot t 5, slot t 6, slot t 7, slot t 8, slot t 9, slot t 10] := arr_eq t 11 hsz
    rw [harr, h4, h0, h1]
    clear harr hfacts hf h4 h0 h1
    generalize slot t 2 = x2; generalize slot t 3 = x3; generalize slot t 5 = x5; generalize slot t 6 = x6; generalize slot t 7 = x7; generalize slot t 8 = x8; generalize slot t 9 = x9; generalize slot t 10 = x10
    clear hsz t
    go_wp2_with fail
    go_ret
    exact ⟨rfl, hk⟩

/-! ### The four texts -/
def hS (l : List UInt8) : ByteArray := ⟨l.toArray⟩
theorem hS_size (l : List UInt8) : (hS l).size = l.length := by simp [hS, ByteArray.size]
def leafS (s : ByteArray) : ByteArray := tagS 0 s
def nodeS (a b : List UInt8) : ByteArray := tagS 1 (hS a ++ hS b)
def rootS (n : Nat) (a : List UInt8) : ByteArray := tagS 2 (beS 8 n ++ hS a)
def headS (s : ByteArray) : ByteArray := tagS 3 s

theorem tagLeaf_any (s : ByteArray) (w : World) (hs : s.size ≤ 140737488355328) :
    Calls Tryd.prog 30 #[.string s] w fun e w' => e = .returned (.string (leafS s)) ∧ Kept w w' := by
  have hc := tagText_any 0 0 rfl (by omega) w.heap.size 1 9 [s] (w.alloc (.cells #[.string s] 9)) (Rowz.new w _ _) rfl (by omega) s (catS_one s) hs
  go_enter Tryd.func30, Tryd.ntmps30
  go_wp2_with (go_at_call 38; refine hc.mono ?_; rintro e w' ⟨rfl, hk⟩)
  go_ret
  exact ⟨rfl, ((Kept.refl w).alloc _).trans hk⟩

theorem tag_slice_hash (g : Nat) (w : World) : (Instr.sliceAt 41 (.pointer (some ⟨g, 0, none⟩)) none none none).run Tryd.prog w = .ok (.slice (some ⟨g, 0, none⟩) 32 32) w := by kernel_rfl
theorem run_str_hash (w : World) (g : Nat) (T : TypeId) (l : List UInt8) (hl : l.length = 32) (hr : Rowz w g (bC 32 l) T) : (convert 64 9 (.slice (some ⟨g, 0, none⟩) 32 32)).run Tryd.prog w = .ok (.string (hS l)) w := by
  have h := run_strB w g 0 32 l (fun j hj => by
    rw [hr.cell, Nat.zero_add]
    have : j < 32 := by omega
    simp [bC, this, hj])
  rw [hl] at h
  exact h
theorem run_build2s (x y : ByteArray) (w : World) : (Instr.buildSlice 22 2 #[(0, .string x), (1, .string y)]).run Tryd.prog w = .ok (.slice (some ⟨w.heap.size, 0, none⟩) 2 2) (w.alloc (.cells #[.string x, .string y] 9)) := by kernel_rfl

theorem tagNode_any (a b : List UInt8) (ha : a.length = 32) (hb : b.length = 32) (w : World) :
    Calls Tryd.prog 34 #[.agg (bC 32 a), .agg (bC 32 b)] w fun e w' => e = .returned (.string (nodeS a b)) ∧ Kept w w' := by
  have hs : (hS a ++ hS b).size ≤ 140737488355328 := by rw [ByteArray.size_append, hS_size, hS_size]; omega
  go_enter Tryd.func34, Tryd.ntmps34
  go_wp2_with fail
  have F0 := Lib.hid ((Rowz.new w (bC 32 a) 41).alloc (.cells (bC 32 b) 41))
  have F1 := Lib.hid (Rowz.newEq1 w (.cells (bC 32 a) 41) (.cells (bC 32 b) 41) _ _ rfl)
  have F2 := Lib.hid (((Kept.refl w).alloc (.cells (bC 32 a) 41)).alloc (.cells (bC 32 b) 41))
  generalize (w.alloc (.cells (bC 32 a) 41)).alloc (.cells (bC 32 b) 41) = v at F0 F1 F2 ⊢
  refine wp_region_table [(5, .is (.slice (some ⟨w.heap.size, 0, none⟩) 32 32)), (6, .is (.string (hS a))), (7, .is (.slice (some ⟨w.heap.size + 1, 0, none⟩) 32 32)), (8, .is (.string (hS b))), (9, .row (sliceAt0 2) #[.string (hS a), .string (hS b)] 9), (10, .is (.string (nodeS a b))), (4, .is (.string (nodeS a b)))] (by kernel_rfl) (by kernel_rfl) ?_ ?_
  · refine ⟨fun t w1 hf hk hp => ?_, ?_⟩
    · have h2 : slot t 2 = .pointer (some ⟨w.heap.size, 0, none⟩) := hf 2 (by kernel_rfl)
      clear hf hp
      refine stepAt_plain rfl ?_
      have hq0 := tag_slice_hash w.heap.size w1
      refine stepOK_pure (.slice (some ⟨w.heap.size, 0, none⟩) 32 32) ?_ rfl
      simp only [execOp, evS, h2]
      go_simp
    refine ⟨fun t w1 hf hk hp => ?_, ?_⟩
    · have h5 : slot t 5 = .slice (some ⟨w.heap.size, 0, none⟩) 32 32 := hp 5 (by kernel_rfl)
      clear hf hp
      refine stepAt_plain rfl ?_
      have hq0 := run_str_hash w1 w.heap.size _ a ha (F0.out.kept hk)
      refine stepOK_pure (.string (hS a)) ?_ rfl
      simp only [execOp, evS, h5]
      go_simp
    refine ⟨fun t w1 hf hk hp => ?_, ?_⟩
    · have h3 : slot t 3 = .pointer (some ⟨w.heap.size + 1, 0, none⟩) := hf 3 (by kernel_rfl)
      clear hf hp
      refine stepAt_plain rfl ?_
      have hq0 := tag_slice_hash (w.heap.size + 1) w1
      refine stepOK_pure (.slice (some ⟨w.heap.size + 1, 0, none⟩) 32 32) ?_ rfl
      simp only [execOp, evS, h3]
      go_simp
    refine ⟨fun t w1 hf hk hp => ?_, ?_⟩
    · have h7 : slot t 7 = .slice (some ⟨w.heap.size + 1, 0, none⟩) 32 32 := hp 7 (by kernel_rfl)
      clear hf hp
      refine stepAt_plain rfl ?_
      have hq0 := run_str_hash w1 (w.heap.size + 1) _ b hb (F1.out.kept hk)
      refine stepOK_pure (.string (hS b)) ?_ rfl
      simp only [execOp, evS, h7]
      go_simp
    refine ⟨fun t w1 hf hk hp => ?_, ?_⟩
    · have h6 : slot t 6 = .string (hS a) := hp 6 (by kernel_rfl)
      have h8 : slot t 8 = .string (hS b) := hp 8 (by kernel_rfl)
      clear hf hp
      refine stepAt_plain rfl ?_
      have hq0 := run_build2s (hS a) (hS b) w1
      refine .value ((sliceAt0 2) w1.heap.size) (w1.alloc (.cells #[.string (hS a), .string (hS b)] 9)) ?_ ((Kept.refl w1).alloc _) ⟨_, rfl, Rowz.new w1 _ _⟩
      simp only [execOp, evS, List.map_toArray, List.map_cons, List.map_nil, h6, h8, sliceAt0]
      go_simp
    refine ⟨fun t w1 hf hk hp => ?_, ?_⟩
    · obtain ⟨g9, h9, r9⟩ : ∃ g, slot t 9 = (sliceAt0 2) g ∧ Rowz w1 g #[.string (hS a), .string (hS b)] 9 := hp 9 (by kernel_rfl)
      simp only [sliceAt0] at h9
      clear hf hp
      refine stepAt_plain rfl ?_
      refine stepOK_call #[.int .u8 1, .slice (some ⟨g9, 0, none⟩) 2 2] rfl (by simp only [List.map_toArray, List.map_cons, List.map_nil, evS, h9]) (by go_simp) ((tagText_any 1 1 rfl (by omega) g9 2 9 [hS a, hS b] w1 r9 rfl (by omega) (hS a ++ hS b) (catS_two _ _) hs).mono fun e w' ⟨he, hk'⟩ => ⟨_, he, hk', rfl⟩)
    refine ⟨fun t w1 hf hk hp => ?_, ?_⟩
    · have h10 : slot t 10 = .string (nodeS a b) := hp 10 (by kernel_rfl)
      clear hf hp
      refine stepAt_plain rfl ?_
      exact stepOK_move _ (.inr rfl) h10
    exact trivial
  · intro t w1 hsz hf hk hfacts
    have h4 : slot t 4 = .string (nodeS a b) := hfacts 6 _ rfl 4 rfl
    have h2 : slot t 2 = .pointer (some ⟨w.heap.size, 0, none⟩) := hf 2 (by kernel_rfl)
    have h3 : slot t 3 = .pointer (some ⟨w.heap.size + 1, 0, none⟩) := hf 3 (by kernel_rfl)
    have harr : t = #[slot t 0, slot t 1, slot t 2, slot t 3, slot t 4, slot t 5, slot t 6, slot t 7, slot t 8, slot t 9, slot t 10] := arr_eq t 11 hsz
    rw [harr, h4, h2, h3]
    clear harr hfacts hf h4 h2 h3
    generalize slot t 0 = x0; generalize slot t 1 = x1; generalize slot t 5 = x5; generalize slot t 6 = x6; generalize slot t 7 = x7; generalize slot t 8 = x8; generalize slot t 9 = x9; generalize slot t 10 = x10
    clear hsz t
    go_wp2_with fail
    go_ret
    exact ⟨rfl, F2.out.trans hk⟩

end Go.Proofs.YtecfgjoomckleaaDoor
