/-
  Contracts of package sha: runRounds. Conditions: the arguments fit their kinds; the variable 'rounds' holds the 64 constants.
-/
import Derived.Test.YtecfgjoomckleaaDoorShaWalkA
namespace Go.Proofs.YtecfgjoomckleaaDoor
set_option maxRecDepth 4000
open Go.RowKit

/-- The package's variable 'rounds' holds the round constants. -/
def Tab (w : World) : Prop := ∀ i, i < 64 → w.cell? ⟨0, i, none⟩ = some (.int .u32 ((rks.getD i 0 : Nat) : Int))
theorem Tab.pos {w : World} (h : Tab w) : 0 < w.heap.size := by
  have h0 := h 0 (by decide)
  by_cases e : 0 < w.heap.size
  · exact e
  · exfalso
    have : w.heap[0]? = none := Array.getElem?_eq_none (by omega)
    simp [World.cell?, this] at h0
theorem Tab.grown {w w' : World} (h : Tab w) (g : Grown w w') : Tab w' := by
  intro i hi
  rw [← h i hi]
  simp only [World.cell?]
  rw [Grown.block g 0 h.pos]
theorem Tab.alloc {w : World} (h : Tab w) (o : Obj) : Tab (w.alloc o) := by
  intro i hi
  rw [← h i hi]
  simp only [World.cell?]
  rw [Below.heap_alloc w o 0 h.pos]
theorem Tab.setRow {w : World} (h : Tab w) (g : Nat) (D : Array Value) (hg : 0 ≠ g) : Tab (w.setRow g D) := by
  intro i hi
  rw [← h i hi]
  simp only [World.cell?]
  rw [setRow_other w g 0 D hg]
theorem Tab.setCell {w : World} (h : Tab w) (a : Addr) (v : Value) (hg : 0 ≠ a.block) : Tab (w.setCell a v) := by
  intro i hi
  rw [← h i hi]
  simp only [World.cell?]
  rw [heap_setCell_other w a 0 v hg]

theorem not32 (e : Nat) (he : e < 4294967296) : bits .xor .u32 (if IntKind.u32.signed = true then -1 else IntKind.u32.max) (e : Int) = ((4294967295 - e : Nat) : Int) := by
  have h1 : (if IntKind.u32.signed = true then -1 else IntKind.u32.max : Int) = ((4294967295 : Nat) : Int) := by decide
  rw [h1, xor32 _ _ (by decide) he]
  have h2 : (BitVec.allOnes 32 ^^^ BitVec.ofNat 32 e).toNat = 4294967295 - e := by
    rw [BitVec.allOnes_xor, BitVec.toNat_not, BitVec.toNat_ofNat, Nat.mod_eq_of_lt (by omega)]
  have h3 : (4294967295 ^^^ e : Nat) = 4294967295 - e := by
    rw [← h2, BitVec.toNat_xor, BitVec.toNat_ofNat, Nat.mod_eq_of_lt (a := e) (by omega)]
    rfl
  rw [h3]
theorem tt_valS (e f g h k x : Nat) (be_ : e < 4294967296) (bf : f < 4294967296) (bg : g < 4294967296) :
    (((h : Int) + (k : Int) + (x : Int) + bits .xor .u32 (bits .xor .u32 ((rotr e 6 : Nat) : Int) ((rotr e 11 : Nat) : Int)) ((rotr e 25 : Nat) : Int)) % 4294967296 +
      bits .xor .u32 (bits .and .u32 (e : Int) (f : Int)) (bits .and .u32 (bits .xor .u32 (if IntKind.u32.signed = true then -1 else IntKind.u32.max) (e : Int)) (g : Int))) % 4294967296 = ((tt e f g h k x : Nat) : Int) := by
  have r6 := rotr_lt e 6 be_
  have r11 := rotr_lt e 11 be_
  have r25 := rotr_lt e 25 be_
  rw [not32 e be_, xor32 _ _ r6 r11, xor32 _ _ (xor_lt _ _ r6 r11) r25, and32 _ _ be_ bf, and32 _ _ (by omega) bg, xor32 _ _ (and_lt _ _ be_) (and_lt _ _ (by omega))]
  unfold tt
  omega

set_option maxRecDepth 100000 in
set_option maxHeartbeats 2000000 in
theorem runRounds_any (l W : List Nat) (w : World) (hl : l.length = 8) (hlt : ∀ x ∈ l, x < 4294967296) (hW : ∀ x ∈ W, x < 4294967296) (ht : Tab w) :
    Calls Tryd.prog 56 #[.agg (wC 8 l), .agg (wC 64 W)] w fun e w' => e = .returned (.agg (wC 8 (rnds W l 64))) ∧ Grown w w' := by
  obtain ⟨a, b, c, d, e, f, g, h, rfl⟩ := eight l hl
  clear hl
  have ba : a < 4294967296 := hlt a (by simp)
  have bb : b < 4294967296 := hlt b (by simp)
  have bc : c < 4294967296 := hlt c (by simp)
  have bd : d < 4294967296 := hlt d (by simp)
  have be_ : e < 4294967296 := hlt e (by simp)
  have bf : f < 4294967296 := hlt f (by simp)
  have bg : g < 4294967296 := hlt g (by simp)
  have bh : h < 4294967296 := hlt h (by simp)
  clear hlt
  have HWL := Lib.hid hW
  clear hW
  have HT := Lib.hid ht
  clear ht
  obtain ⟨L, hL⟩ : ∃ L, L = [a, b, c, d, e, f, g, h] := ⟨_, rfl⟩
  rw [← hL]
  have HL := Lib.hid hL
  clear hL
  go_enter Tryd.func56, Tryd.ntmps56
  go_wp2_with fail
  have A0 : Hid (Rowz (((w.alloc (.cells (wC 8 L) 65)).alloc (.cells (wC 64 W) 76)).alloc (.cells #[.int .u32 0, .int .u32 0, .int .u32 0, .int .u32 0, .int .u32 0, .int .u32 0, .int .u32 0, .int .u32 0] 65)) w.heap.size (wC 8 L) 65) :=
    Lib.hid (((Rowz.new w _ _).alloc _).alloc _)
  have A1 : Hid (Rowz (((w.alloc (.cells (wC 8 L) 65)).alloc (.cells (wC 64 W) 76)).alloc (.cells #[.int .u32 0, .int .u32 0, .int .u32 0, .int .u32 0, .int .u32 0, .int .u32 0, .int .u32 0, .int .u32 0] 65)) (w.heap.size + 1) (wC 64 W) 76) :=
    Lib.hid ((Rowz.newEq1 w _ _ _ _ rfl).alloc _)
  have A2 : Hid (Rowz (((w.alloc (.cells (wC 8 L) 65)).alloc (.cells (wC 64 W) 76)).alloc (.cells #[.int .u32 0, .int .u32 0, .int .u32 0, .int .u32 0, .int .u32 0, .int .u32 0, .int .u32 0, .int .u32 0] 65)) (w.heap.size + 1 + 1) (wC 8 []) 65) :=
    Lib.hid (by have := Rowz.newEq1 (w.alloc (.cells (wC 8 L) 65)) (.cells (wC 64 W) 76) (.cells #[.int .u32 0, .int .u32 0, .int .u32 0, .int .u32 0, .int .u32 0, .int .u32 0, .int .u32 0, .int .u32 0] 65) (wC 8 []) 65 (by kernel_rfl); simpa using this)
  have A3 : Hid (Grown w (((w.alloc (.cells (wC 8 L) 65)).alloc (.cells (wC 64 W) 76)).alloc (.cells #[.int .u32 0, .int .u32 0, .int .u32 0, .int .u32 0, .int .u32 0, .int .u32 0, .int .u32 0, .int .u32 0] 65))) :=
    Lib.hid ((((Grown.refl w).alloc _ _).alloc _ _).alloc _ _)
  have A4 := Lib.hid (((HT.out.alloc (.cells (wC 8 L) 65)).alloc (.cells (wC 64 W) 76)).alloc (.cells #[.int .u32 0, .int .u32 0, .int .u32 0, .int .u32 0, .int .u32 0, .int .u32 0, .int .u32 0, .int .u32 0] 65))
  have hpos := HT.out.pos
  clear HT
  generalize ((w.alloc (.cells (wC 8 L) 65)).alloc (.cells (wC 64 W) 76)).alloc (.cells #[.int .u32 0, .int .u32 0, .int .u32 0, .int .u32 0, .int .u32 0, .int .u32 0, .int .u32 0, .int .u32 0] 65) = v at A0 A1 A2 A3 A4 ⊢
  rw [HL.out] at A0
  have hc0 : v.cell? ⟨w.heap.size, 0, none⟩ = some (.int .u32 (a : Int)) := A0.out.word 0 (by decide)
  have hc1 : v.cell? ⟨w.heap.size, 1, none⟩ = some (.int .u32 (b : Int)) := A0.out.word 1 (by decide)
  have hc2 : v.cell? ⟨w.heap.size, 2, none⟩ = some (.int .u32 (c : Int)) := A0.out.word 2 (by decide)
  have hc3 : v.cell? ⟨w.heap.size, 3, none⟩ = some (.int .u32 (d : Int)) := A0.out.word 3 (by decide)
  have hc4 : v.cell? ⟨w.heap.size, 4, none⟩ = some (.int .u32 (e : Int)) := A0.out.word 4 (by decide)
  have hc5 : v.cell? ⟨w.heap.size, 5, none⟩ = some (.int .u32 (f : Int)) := A0.out.word 5 (by decide)
  have hc6 : v.cell? ⟨w.heap.size, 6, none⟩ = some (.int .u32 (g : Int)) := A0.out.word 6 (by decide)
  have hc7 : v.cell? ⟨w.heap.size, 7, none⟩ = some (.int .u32 (h : Int)) := A0.out.word 7 (by decide)
  clear A0
  go_quiet (fail)
  clear hc0 hc1 hc2 hc3 hc4 hc5 hc6 hc7
  replace A1 : Hid (Rowz (v.drewN nq) (w.heap.size + 1) (wC 64 W) 76) := A1
  replace A2 : Hid (Rowz (v.drewN nq) (w.heap.size + 1 + 1) (wC 8 []) 65) := A2
  replace A3 : Hid (Grown w (v.drewN nq)) := A3
  replace A4 : Hid (Tab (v.drewN nq)) := A4
  generalize v.drewN nq = v2 at A1 A2 A3 A4 ⊢
  go_wp2_with fail
  go_loopw [5, 6, 7, 8, 9, 10, 11, 12, 32] (fun xa xb xc xd xe xf xg xh i wr => ∃ (k a b c d e f g h : Nat), k ≤ 64 ∧ i = .int .i64 k ∧ xa = .int .u32 a ∧ xb = .int .u32 b ∧ xc = .int .u32 c ∧ xd = .int .u32 d ∧ xe = .int .u32 e ∧ xf = .int .u32 f ∧ xg = .int .u32 g ∧ xh = .int .u32 h ∧
    a < 4294967296 ∧ b < 4294967296 ∧ c < 4294967296 ∧ d < 4294967296 ∧ e < 4294967296 ∧ f < 4294967296 ∧ g < 4294967296 ∧ h < 4294967296 ∧
    Hid (rnds W L k = [a, b, c, d, e, f, g, h]) ∧ Hid (Rowz wr (w.heap.size + 1) (wC 64 W) 76) ∧ Hid (Rowz wr (w.heap.size + 1 + 1) (wC 8 []) 65) ∧ Hid (Grown w wr) ∧ Hid (Tab wr)) (fun _ _ _ _ _ _ _ _ i _ => 64 - (intOf i).toNat)
  case atStart => exact ⟨0, a, b, c, d, e, f, g, h, by omega, rfl, rfl, rfl, rfl, rfl, rfl, rfl, rfl, rfl, ba, bb, bc, bd, be_, bf, bg, bh, HL, A1, A2, A3, A4⟩
  case round =>
    clear ba bb bc bd be_ bf bg bh A1 A2 A3 A4 HL
    obtain ⟨k, a, b, c, d, e, f, g, h, hk64, rfl, rfl, rfl, rfl, rfl, rfl, rfl, rfl, rfl, ba, bb, bc, bd, be_, bf, bg, bh, HL, A1, A2, A3, A4⟩ := hrel
    by_cases hk : k < 64
    · have hcw := A1.out.word k hk
      have hcr := A4.out k hk
      obtain ⟨x, hx⟩ : ∃ x, x = W.getD k 0 := ⟨_, rfl⟩
      obtain ⟨y, hy⟩ : ∃ y, y = rks.getD k 0 := ⟨_, rfl⟩
      have HN : Hid (rnds W L (k + 1) = rnd y x [a, b, c, d, e, f, g, h]) := Lib.hid (by
        show rnd (rks.getD k 0) (W.getD k 0) (rnds W L k) = _
        rw [HL.out, hx, hy])
      rw [← hx] at hcw
      rw [← hy] at hcr
      clear hx hy HL
      have hdk : decide ((k : Int) < 64) = true := by simp; omega
      have hki : (k : Int) < 64 := by omega
      go_wp2_with fail
      go_quiet ((go_at_call 64; exact Calls.quiet_of_same (rot_still _ _ _ (by assumption) (by decide) (by decide))))
      rw [tt_valS e f g h y x be_ bf bg]
      have TL : tt e f g h y x < 4294967296 := Nat.mod_lt _ (by decide)
      obtain ⟨T, hT⟩ : ∃ T, T = tt e f g h y x := ⟨_, rfl⟩
      rw [← hT] at TL ⊢
      have HT := Lib.hid hT
      clear hT hcw hcr
      replace A1 : Hid (Rowz (wr.drewN nq) (w.heap.size + 1) (wC 64 W) 76) := A1
      replace A2 : Hid (Rowz (wr.drewN nq) (w.heap.size + 1 + 1) (wC 8 []) 65) := A2
      replace A3 : Hid (Grown w (wr.drewN nq)) := A3
      replace A4 : Hid (Tab (wr.drewN nq)) := A4
      generalize wr.drewN nq = v3 at A1 A2 A3 A4 ⊢
      go_wp2_with (go_at_call 64; refine (rot_still _ _ _ (by assumption) (by decide) (by decide)).mono ?_; rintro e' w' ⟨rfl, rfl⟩)
      go_roundw
      case rel =>
        refine ⟨k + 1, (T + uu a b c) % 4294967296, a, b, c, (d + T) % 4294967296, e, f, g, by omega, by go_num, ?_, rfl, rfl, rfl, ?_, rfl, rfl, rfl, Nat.mod_lt _ (by decide), ba, bb, bc, Nat.mod_lt _ (by decide), be_, bf, bg, Lib.hid ?_, A1, A2, A3, A4⟩
        · rw [uu_val a b c ba bb bc]; congr 1
        · congr 1
        · rw [HN.out, HT.out]; rfl
      case measure => simp [intOf]; omega
    · have e64 : k = 64 := by omega
      rw [e64] at HL
      clear e64
      have hdk : decide ((k : Int) < 64) = false := by simp; omega
      go_wp2_with (refine wpList_store_row rfl 65 _ _ rfl (w.heap.size + 1 + 1) (wC 8 [a, b, c, d, e, f, g, h]) rfl rfl 65 (wC 8 []) A2.out (info8W _) (by simp [wC_size]) (wC_one _ _) ?_)
      rw [HL.out]
      refine bodyPost_ret (v := .agg (wC 8 [a, b, c, d, e, f, g, h])) (results_cell_row Tryd.results56 _ _ (w.heap.size + 1 + 1) 65 _ (0, 0) _ rfl A2.out.row Tryd.underlying65 rfl (info8W _)) rfl ⟨rfl, ?_⟩
      exact Grown.setRow A3.out A2.out (by omega) _
end Go.Proofs.YtecfgjoomckleaaDoor
