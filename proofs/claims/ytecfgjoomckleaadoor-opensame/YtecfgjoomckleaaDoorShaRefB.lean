/-
  Contracts of the reference of layer 2: Mix. Conditions: the arguments fit their kinds.
-/
import Derived.Test.YtecfgjoomckleaaDoorShaRefA
import Derived.Deep.RegionHeld3
import Derived.Deep.QuietTactic
import Derived.BigQuiet
import Derived.Deep.WholeRow
namespace Go.Proofs.YtecfgjoomckleaaDoor
set_option maxRecDepth 4000
open Go.RowKit

theorem info8 (l : List Nat) : (Tryd.prog.info? 57).map (·.size) = some (wC 8 l).size := by rw [wC_size]; kernel_rfl

theorem and32 (a b : Nat) (ha : a < 4294967296) (hb : b < 4294967296) : bits .and .u32 (a : Int) (b : Int) = ((a &&& b : Nat) : Int) := u32_and_nat a b ha hb
theorem and_lt (a b : Nat) (ha : a < 4294967296) : a &&& b < 4294967296 := Nat.lt_of_le_of_lt Nat.and_le_left ha
theorem tt_val (e f g h k x : Nat) (be_ : e < 4294967296) (bf : f < 4294967296) (bg : g < 4294967296) :
    IntKind.u32.wrap (IntKind.u32.wrap (IntKind.u32.wrap (IntKind.u32.wrap ((h : Int) + bits .xor .u32 (bits .xor .u32 ((rotr e 6 : Nat) : Int) ((rotr e 11 : Nat) : Int)) ((rotr e 25 : Nat) : Int)) +
      bits .xor .u32 (bits .and .u32 (e : Int) (f : Int)) (bits .and .u32 (IntKind.u32.wrap (4294967295 - (e : Int))) (g : Int))) + (k : Int)) + (x : Int)) = ((tt e f g h k x : Nat) : Int) := by
  have e1 : IntKind.u32.wrap (4294967295 - (e : Int)) = ((4294967295 - e : Nat) : Int) := by rw [IntKind.wrap_u32']; omega
  have r6 := rotr_lt e 6 be_
  have r11 := rotr_lt e 11 be_
  have r25 := rotr_lt e 25 be_
  rw [e1, xor32 _ _ r6 r11, xor32 _ _ (xor_lt _ _ r6 r11) r25, and32 _ _ be_ bf, and32 _ _ (by omega) bg, xor32 _ _ (and_lt _ _ be_) (and_lt _ _ (by omega))]
  simp only [IntKind.wrap_u32']
  unfold tt
  omega
theorem uu_val (a b c : Nat) (ba : a < 4294967296) (bb : b < 4294967296) (bc : c < 4294967296) :
    (bits .xor .u32 (bits .xor .u32 ((rotr a 2 : Nat) : Int) ((rotr a 13 : Nat) : Int)) ((rotr a 22 : Nat) : Int) +
      bits .xor .u32 (bits .xor .u32 (bits .and .u32 (a : Int) (b : Int)) (bits .and .u32 (a : Int) (c : Int))) (bits .and .u32 (b : Int) (c : Int))) % 4294967296 = ((uu a b c : Nat) : Int) := by
  have r2 := rotr_lt a 2 ba
  have r13 := rotr_lt a 13 ba
  have r22 := rotr_lt a 22 ba
  rw [xor32 _ _ r2 r13, xor32 _ _ (xor_lt _ _ r2 r13) r22, and32 _ _ ba bb, and32 _ _ ba bc, and32 _ _ bb bc, xor32 _ _ (and_lt _ _ ba) (and_lt _ _ ba), xor32 _ _ (xor_lt _ _ (and_lt _ _ ba) (and_lt _ _ ba)) (and_lt _ _ bb)]
  unfold uu
  omega

set_option maxRecDepth 100000 in
set_option maxHeartbeats 2000000 in
theorem refMix_any (l : List Nat) (s : ByteArray) (w : World) (hs : s.size ≤ maxLen) (hl : l.length = 8) (hlt : ∀ x ∈ l, x < 4294967296) :
    Calls Tryd.prog 42 #[.agg (wC 8 l), .string s] w fun e w' => e = .returned (.agg (wC 8 (mixW l s))) ∧ Grown w w' := by
  go_enter Tryd.func42, Tryd.ntmps42
  go_wp2_with fail
  have R0 := Lib.hid ((Rowz.newEq w (.cells (wC 8 l) 57) _ _ rfl).alloc (.cells #[.int .u32 0, .int .u32 0, .int .u32 0, .int .u32 0, .int .u32 0, .int .u32 0, .int .u32 0, .int .u32 0] 57))
  have R1 := Lib.hid (Rowz.newEq1 w (.cells (wC 8 l) 57) (.cells #[.int .u32 0, .int .u32 0, .int .u32 0, .int .u32 0, .int .u32 0, .int .u32 0, .int .u32 0, .int .u32 0] 57) (wC 8 []) 57 (by kernel_rfl))
  have G0 := Lib.hid (((Grown.refl w).alloc (wC 8 l) 57).alloc #[.int .u32 0, .int .u32 0, .int .u32 0, .int .u32 0, .int .u32 0, .int .u32 0, .int .u32 0, .int .u32 0] 57)
  refine (refSpread_any s _ hs).mono ?_
  rintro e w1 ⟨rfl, hg⟩
  replace R0 := Lib.hid (R0.out.grown hg)
  replace R1 := Lib.hid (R1.out.grown hg)
  replace G0 := Lib.hid (Grown.trans G0.out hg)
  have hsz : w.heap.size + 2 ≤ w1.heap.size := by have := hg.2.2; simpa using this
  clear hg
  go_wp2_with (first
    | (refine wpList_store_row rfl 76 _ _ rfl w1.heap.size (wC 64 (spread s)) rfl rfl 76 _ (Rowz.new w1 _ _) (info64 _) (by rw [wC_size]; rfl) (wC_one _ _) ?_; rw [World.setRow_alloc_new])
    | (refine wpList_load_row rfl 57 _ rfl w.heap.size rfl 57 (wC 8 l) (0, 0) _ (R0.out.alloc _) Tryd.underlying57 rfl (info8 _) ?_)
    | (refine wpList_store_row rfl 57 _ _ rfl (w1.heap.size + 1) (wC 8 l) rfl rfl 57 _ (Rowz.newEq1 w1 _ _ _ _ rfl) (info8 _) (by rw [wC_size]; rfl) (wC_one _ _) ?_))
  go_loopw [7] (fun i wr => ∃ (k : Nat), k ≤ 64 ∧ i = .int .i64 k ∧ Hid (Rowz wr w.heap.size (wC 8 (rnds (spread s) l k)) 57) ∧ Hid (Rowz wr (w.heap.size + 1) (wC 8 []) 57) ∧ Hid (Rowz wr w1.heap.size (wC 64 (spread s)) 76) ∧ Hid (Rowz wr (w1.heap.size + 1) (wC 8 l) 57) ∧ Hid (Grown w wr)) (fun i _ => 64 - (intOf i).toNat)
  case atStart =>
    have N5 : Rowz (w1.alloc (.cells (wC 64 (spread s)) 76)) w1.heap.size (wC 64 (spread s)) 76 := Rowz.new w1 _ _
    refine ⟨0, by omega, rfl, Lib.hid (((R0.out.alloc _).alloc _).rowOther (by omega)), Lib.hid (((R1.out.alloc _).alloc _).rowOther (by omega)), Lib.hid ((N5.alloc _).rowOther (by omega)), Lib.hid ((Rowz.newEq1 w1 _ _ _ _ rfl).row), Lib.hid (Grown.setRow ((G0.out.alloc _ _).alloc _ _) (Rowz.newEq1 w1 _ _ _ _ rfl) (by omega) _)⟩
  case round =>
    clear R0 R1 G0
    obtain ⟨k, hk64, rfl, R0, R1, R5, R6, G0⟩ := hrel
    by_cases hk : k < 64
    · have L8 := rnds_length (spread s) l hl k
      have B8 := rnds_lt (spread s) l hlt k
      have HW := Lib.hid (show rnds (spread s) l (k + 1) = rnd (rks.getD k 0) ((spread s).getD k 0) (rnds (spread s) l k) from rfl)
      have hcw := R5.out.word k hk
      have bw : (spread s).getD k 0 < 4294967296 := getD_lt _ (wl_lt s 64) k
      obtain ⟨x, hx⟩ : ∃ x, x = (spread s).getD k 0 := ⟨_, rfl⟩
      rw [← hx] at hcw bw HW
      have HX := Lib.hid hx
      clear hx
      obtain ⟨a, b, c, d, e, f, g, h, hA⟩ := eight _ L8
      rw [hA] at HW R0 B8
      have HA := Lib.hid hA
      clear hA L8
      have hc0 : wr.cell? ⟨w.heap.size, 0, none⟩ = some (.int .u32 (a : Int)) := R0.out.word 0 (by decide)
      have hc1 : wr.cell? ⟨w.heap.size, 1, none⟩ = some (.int .u32 (b : Int)) := R0.out.word 1 (by decide)
      have hc2 : wr.cell? ⟨w.heap.size, 2, none⟩ = some (.int .u32 (c : Int)) := R0.out.word 2 (by decide)
      have hc4 : wr.cell? ⟨w.heap.size, 4, none⟩ = some (.int .u32 (e : Int)) := R0.out.word 4 (by decide)
      have hc5 : wr.cell? ⟨w.heap.size, 5, none⟩ = some (.int .u32 (f : Int)) := R0.out.word 5 (by decide)
      have hc6 : wr.cell? ⟨w.heap.size, 6, none⟩ = some (.int .u32 (g : Int)) := R0.out.word 6 (by decide)
      have hc7 : wr.cell? ⟨w.heap.size, 7, none⟩ = some (.int .u32 (h : Int)) := R0.out.word 7 (by decide)
      have ba : a < 4294967296 := B8 a (by simp)
      have bb : b < 4294967296 := B8 b (by simp)
      have bc : c < 4294967296 := B8 c (by simp)
      have bd : d < 4294967296 := B8 d (by simp)
      have be_ : e < 4294967296 := B8 e (by simp)
      have bf : f < 4294967296 := B8 f (by simp)
      have bg : g < 4294967296 := B8 g (by simp)
      have bh : h < 4294967296 := B8 h (by simp)
      clear B8
      have hdk : decide ((k : Int) < 64) = true := by simp; omega
      have hki : (k : Int) < 64 := by omega
      go_wp2_with fail
      go_region_held3 (fun w' => w'.cell? ⟨w.heap.size, 7, none⟩ = some (.int .u32 (h : Int)) ∧ w'.cell? ⟨w.heap.size, 5, none⟩ = some (.int .u32 (f : Int)) ∧ w'.cell? ⟨w.heap.size, 6, none⟩ = some (.int .u32 (g : Int)) ∧ w'.cell? ⟨w1.heap.size, k, none⟩ = some (.int .u32 (x : Int)))
        (first | exact ⟨hc7, hc5, hc6, hcw⟩ | exact ⟨q7, q5, q6, qw⟩ | go_keep)
        (first
          | (go_at_call 53; refine (turn_still _ _ _ (by assumption) (by decide) (by decide)).mono ?_; rintro e w' ⟨rfl, rfl⟩)
          | (go_at_call 54; refine (number_at k _ hk).mono ?_; rintro e w2 ⟨rfl, hg⟩
             have P0 : Hid (Rowz w2 w.heap.size (wC 8 [a, b, c, d, e, f, g, h]) 57) := Lib.hid (by first | exact R0.out.grown hg | exact R0.out.grownD _ hg)
             have P1 : Hid (Rowz w2 (w.heap.size + 1) (wC 8 []) 57) := Lib.hid (by first | exact R1.out.grown hg | exact R1.out.grownD _ hg)
             have P5 : Hid (Rowz w2 w1.heap.size (wC 64 (spread s)) 76) := Lib.hid (by first | exact R5.out.grown hg | exact R5.out.grownD _ hg)
             have P6 : Hid (Rowz w2 (w1.heap.size + 1) (wC 8 l) 57) := Lib.hid (by first | exact R6.out.grown hg | exact R6.out.grownD _ hg)
             have P9 : Hid (Grown w w2) := Lib.hid (by first | exact Grown.trans G0.out hg | exact Grown.transD G0.out _ hg)
             have q7 : w2.cell? ⟨w.heap.size, 7, none⟩ = some (.int .u32 (h : Int)) := P0.out.word 7 (by decide)
             have q5 : w2.cell? ⟨w.heap.size, 5, none⟩ = some (.int .u32 (f : Int)) := P0.out.word 5 (by decide)
             have q6 : w2.cell? ⟨w.heap.size, 6, none⟩ = some (.int .u32 (g : Int)) := P0.out.word 6 (by decide)
             have qw : w2.cell? ⟨w1.heap.size, k, none⟩ = some (.int .u32 (x : Int)) := (P5.out.word k hk).trans (by rw [HX.out])))
      rw [tt_val e f g h (rks[k]?.getD 0) x be_ bf bg]
      have TL : tt e f g h (rks[k]?.getD 0) x < 4294967296 := Nat.mod_lt _ (by decide)
      obtain ⟨T, hT⟩ : ∃ T, T = tt e f g h (rks[k]?.getD 0) x := ⟨_, rfl⟩
      rw [← hT] at TL ⊢
      have HT := Lib.hid hT
      clear hT
      clear R0 R1 R5 R6 G0 hc0 hc1 hc2 hc4 hc5 hc6 hc7 hcw q7 q5 q6 qw hg
      have hc1 : w2.cell? ⟨w.heap.size, 1, none⟩ = some (.int .u32 (b : Int)) := P0.out.word 1 (by decide)
      have hc2 : w2.cell? ⟨w.heap.size, 2, none⟩ = some (.int .u32 (c : Int)) := P0.out.word 2 (by decide)
      go_wp2_with fail
      go_quiet ((go_at_call 53; exact Calls.quiet_of_same (turn_still _ _ _ (by assumption) (by decide) (by decide))))
      rw [uu_val a b c ba bb bc]
      have UL : uu a b c < 4294967296 := Nat.mod_lt _ (by decide)
      obtain ⟨U, hU⟩ : ∃ U, U = uu a b c := ⟨_, rfl⟩
      rw [← hU] at UL ⊢
      have HU := Lib.hid hU
      clear hU
      clear hc1 hc2
      replace P0 : Hid (Rowz (w2.drewN nq) w.heap.size (wC 8 [a, b, c, d, e, f, g, h]) 57) := P0
      replace P1 : Hid (Rowz (w2.drewN nq) (w.heap.size + 1) (wC 8 []) 57) := P1
      replace P5 : Hid (Rowz (w2.drewN nq) w1.heap.size (wC 64 (spread s)) 76) := P5
      replace P6 : Hid (Rowz (w2.drewN nq) (w1.heap.size + 1) (wC 8 l) 57) := P6
      replace P9 : Hid (Grown w (w2.drewN nq)) := P9
      generalize w2.drewN nq = w3 at P0 P1 P5 P6 P9 ⊢
      go_wp2_with fail
      go_loopw [12] (fun i wr => ∃ (j : Nat), j ≤ 7 ∧ i = .int .i64 j ∧ Hid (Rowz wr w.heap.size (wC 8 (shf [a, b, c, d, e, f, g, h] j)) 57) ∧ Hid (Rowz wr (w.heap.size + 1) (wC 8 []) 57) ∧ Hid (Rowz wr w1.heap.size (wC 64 (spread s)) 76) ∧ Hid (Rowz wr (w1.heap.size + 1) (wC 8 l) 57) ∧ Hid (Grown w wr)) (fun i _ => (intOf i).toNat)
      case atStart => exact ⟨7, by omega, rfl, P0, P1, P5, P6, P9⟩
      case round =>
        clear P0 P1 P5 P6 P9
        obtain ⟨j, hj7, rfl, P0, P1, P5, P6, P9⟩ := hrel
        by_cases hj : 0 < j
        · have hcj := P0.out.word j (by omega)
          have hcj1 := P0.out.word (j - 1) (by omega)
          have hfr := P0.out.free j
          have HS := Lib.hid (shf_step a b c d e f g h j hj hj7)
          have HL := Lib.hid (shf_length a b c d e f g h j hj7)
          obtain ⟨y, hy⟩ : ∃ y, y = (shf [a, b, c, d, e, f, g, h] j).getD (j - 1) 0 := ⟨_, rfl⟩
          rw [← hy] at hcj1 HS
          clear hy
          have hdj : decide ((0 : Int) < (j : Int)) = true := by simp; omega
          go_wp2
          go_roundw
          case rel =>
            refine ⟨j - 1, by omega, by go_num, Lib.hid ?_, Lib.hid (P1.out.other _ _ (by simp)), Lib.hid (P5.out.other _ _ (by simp; omega)), Lib.hid (P6.out.other _ _ (by simp; omega)), Lib.hid (P9.out.setCell (by simp) _)⟩
            rw [← HS.out]
            exact P0.out.put j HL.out (by omega) _ _ rfl
          case measure => simp [intOf]; omega
        · have e0 : j = 0 := by omega
          rw [e0, show shf [a, b, c, d, e, f, g, h] 0 = [a, a, b, c, d, e, f, g] from rfl] at P0
          clear e0
          have hc4 : wr.cell? ⟨w.heap.size, 4, none⟩ = some (.int .u32 (d : Int)) := P0.out.word 4 (by decide)
          have hc0 : wr.cell? ⟨w.heap.size, 0, none⟩ = some (.int .u32 (a : Int)) := P0.out.word 0 (by decide)
          have hf4 := P0.out.free 4
          have hf0 := P0.out.free 0
          have hdj : decide ((0 : Int) < (j : Int)) = false := by simp; omega
          go_wp2
          go_roundw
          case rel =>
            refine ⟨k + 1, by omega, by go_num, Lib.hid ?_, Lib.hid ((P1.out.other _ _ (by simp)).other _ _ (by simp)), Lib.hid ((P5.out.other _ _ (by simp; omega)).other _ _ (by simp; omega)), Lib.hid ((P6.out.other _ _ (by simp; omega)).other _ _ (by simp; omega)), Lib.hid ((P9.out.setCell (by simp) _).setCell (by simp) _)⟩
            rw [HW.out, List.getD_eq_getElem?_getD]
            show Rowz _ _ (wC 8 [(tt e f g h (rks[k]?.getD 0) x + uu a b c) % 4294967296, a, b, c, (d + tt e f g h (rks[k]?.getD 0) x) % 4294967296, e, f, g]) _
            rw [← HT.out, ← HU.out]
            exact (P0.out.put 4 rfl (by decide) _ ((d + T) % 4294967296) (by omega)).put 0 rfl (by decide) _ ((T + U) % 4294967296) (by omega)
          case measure => simp [intOf]; omega
    · have e64 : k = 64 := by omega
      rw [e64] at R0
      clear e64
      have LA := Lib.hid (rnds_length (spread s) l hl 64)
      have HM := Lib.hid (show mixW l s = addW (rnds (spread s) l 64) l from rfl)
      have AB := Lib.hid (rnds_lt (spread s) l hlt 64)
      have HLT := Lib.hid hlt
      have HLL := Lib.hid hl
      clear hl hlt
      generalize rnds (spread s) l 64 = A at R0 LA HM AB
      have hdk : decide ((k : Int) < 64) = false := by simp; omega
      go_wp2_with fail
      go_loopw [13] (fun i wr => ∃ (j : Nat), j ≤ 8 ∧ i = .int .i64 j ∧ Hid (Rowz wr w.heap.size (wC 8 (addp A l j)) 57) ∧ Hid (Rowz wr (w.heap.size + 1) (wC 8 []) 57) ∧ Hid (Rowz wr (w1.heap.size + 1) (wC 8 l) 57) ∧ Hid (Grown w wr)) (fun i _ => 8 - (intOf i).toNat)
      case atStart => exact ⟨0, by omega, rfl, by rw [addp_none]; exact R0, R1, R6, G0⟩
      case round =>
        clear R0 R1 R5 R6 G0
        obtain ⟨j, hj8, rfl, R0, R1, R6, G0⟩ := hrel
        by_cases hj : j < 8
        · have hcj := R0.out.word j (by omega)
          rw [addp_get A l LA.out HLL.out j hj] at hcj
          have hcl := R6.out.word j (by omega)
          have hfr := R0.out.free j
          have HS := Lib.hid (addp_step A l LA.out HLL.out j hj)
          have HL := Lib.hid (addp_length A l LA.out HLL.out j hj8)
          have bA := getD_lt A AB.out j
          have bl_ := getD_lt l HLT.out j
          obtain ⟨p, hp⟩ : ∃ p, p = A.getD j 0 := ⟨_, rfl⟩
          obtain ⟨q, hq⟩ : ∃ q, q = l.getD j 0 := ⟨_, rfl⟩
          rw [← hp] at hcj HS bA
          rw [← hq] at hcl HS bl_
          clear hp hq
          have hdj : decide ((j : Int) < 8) = true := by simp; omega
          go_wp2_with fail
          refine wp_region_still_tail 8 (by kernel_rfl) (by kernel_rfl) ?_
          simp only [List.take_succ_cons, List.take_zero, List.drop_succ_cons, List.drop_zero]
          change wpStill _ _ wr.drew (fun a' => wpList _ _ _ _ a' wr.drew) _ _
          replace R0 : Hid (Rowz wr.drew w.heap.size (wC 8 (addp A l j)) 57) := R0
          replace R1 : Hid (Rowz wr.drew (w.heap.size + 1) (wC 8 []) 57) := R1
          replace R6 : Hid (Rowz wr.drew (w1.heap.size + 1) (wC 8 l) 57) := R6
          replace G0 : Hid (Grown w wr.drew) := G0
          replace hcj : wr.drew.cell? ⟨w.heap.size, j, none⟩ = some (.int .u32 (p : Int)) := hcj
          replace hcl : wr.drew.cell? ⟨w1.heap.size + 1, j, none⟩ = some (.int .u32 (q : Int)) := hcl
          replace hfr : wr.drew.frozen? ⟨w.heap.size, j, none⟩ = false := hfr
          generalize wr.drew = w2 at R0 R1 R6 G0 hcj hcl hfr ⊢
          have hbj : (j : Int) < 8 := by omega
          repeat still_step
          refine wpStill_nil ?_
          go_wp2_with fail
          go_roundw
          case rel =>
            refine ⟨j + 1, by omega, by go_num, Lib.hid ?_, Lib.hid (R1.out.other _ _ (by simp)), Lib.hid (R6.out.other _ _ (by simp; omega)), Lib.hid (G0.out.setCell (by simp) _)⟩
            rw [← HS.out]
            exact R0.out.put j HL.out (by omega) _ ((p + q) % 4294967296) (by omega)
          case measure => simp [intOf]; omega
        · have e8 : j = 8 := by omega
          rw [e8, addp_all A l LA.out HLL.out, ← HM.out] at R0
          clear e8
          have hdj : decide ((j : Int) < 8) = false := by simp; omega
          go_wp2_with (first
            | (refine wpList_load_row rfl 57 _ rfl w.heap.size rfl 57 (wC 8 (mixW l s)) (0, 0) _ R0.out Tryd.underlying57 rfl (info8 _) ?_)
            | (refine wpList_store_row rfl 57 _ _ rfl (w.heap.size + 1) (wC 8 (mixW l s)) rfl rfl 57 (wC 8 []) R1.out (info8 _) (by simp [wC_size]) (wC_one _ _) ?_))
          refine bodyPost_ret (v := .agg (wC 8 (mixW l s))) (results_cell_row Tryd.results42 _ _ (w.heap.size + 1) 57 _ (0, 0) _ rfl R1.out.row Tryd.underlying57 rfl (info8 _)) rfl ⟨rfl, ?_⟩
          exact Grown.setRow G0.out R1.out (by omega) _
end Go.Proofs.YtecfgjoomckleaaDoor
