/-
  For layer 13's laws: the answers of open.Open and the reference's Open in one form; awake of milepostlaw13. Conditions: at most a million leaves of at most a million bytes; sha's table of round constants stands.
-/
import Derived.Test.YtecfgjoomckleaaDoorOpenWalkC
import Derived.Test.YtecfgjoomckleaaDoorShapeRefA
namespace Go.Proofs.YtecfgjoomckleaaDoor
set_option maxRecDepth 4000
open Go.RowKit

theorem execFieldO {o : Oper} {t : Array Value} {x : Operand} (b k : Nat) (hk : k = 0 ∨ k = 1 ∨ k = 2) (w : World) (ho : o.op = .fieldAddr 27 x k) (hx : evS t x = .pointer (some ⟨b, 0, none⟩)) :
    (execOp (evS t) o).run Tryd.prog w = .ok (.value (.pointer (some ⟨b, k, none⟩))) w := by
  rcases hk with rfl | rfl | rfl
  all_goals
    unfold execOp
    rw [ho]
    simp only [hx]
    go_simp
theorem run_loadI {w : World} {a : Addr} {n : Int} (h : w.cell? a = some (.int .i64 n)) : (Instr.loadAt 3 (.pointer (some a))).run Tryd.prog w = .ok (.int .i64 n) w := by
  go_simp
theorem run_loadHs {w : World} {a : Addr} {p : Option Addr} {n c : Nat} (h : w.cell? a = some (.slice p n c)) : (Instr.loadAt 25 (.pointer (some a))).run Tryd.prog w = .ok (.slice p n c) w := by
  go_simp
theorem execLenHs {o : Oper} {t : Array Value} {x : Operand} {p : Option Addr} {n c : Nat} (w : World) (ho : o.op = .call { callee := .builtin .len, args := #[x], argTypes := #[25] }) (hx : evS t x = .slice p n c) :
    (execOp (evS t) o).run Tryd.prog w = .ok (.value (.int .i64 (n : Int))) w := by
  unfold execOp
  rw [ho]
  go_simp
theorem execLenStrs {o : Oper} {t : Array Value} {x : Operand} {p : Option Addr} {n c : Nat} (w : World) (ho : o.op = .call { callee := .builtin .len, args := #[x], argTypes := #[22] }) (hx : evS t x = .slice p n c) :
    (execOp (evS t) o).run Tryd.prog w = .ok (.value (.int .i64 (n : Int))) w := by
  unfold execOp
  rw [ho]
  go_simp
theorem loadO {o : Oper} {t : Array Value} {x : Operand} {w : World} {g : Nat} {C : Array Value} (ho : o.op = .load 27 x) (hx : evS t x = .pointer (some ⟨g, 0, none⟩)) (hg : Rowz w g C 27) (hs : C.size = 3) :
    (execOp (evS t) o).run Tryd.prog w = .ok (.value (.agg C)) w :=
  execLoadRow 27 ho g hx C 27 _ hg Tryd.underlying27 rfl (by rw [hs]; kernel_rfl)

theorem openOpen_at (p : Option Addr) (n c : Nat) (S : Nat → ByteArray) (i : Int) (w : World) (hS : SAt w p n S) (hz : ∀ i, i < n → (S i).size ≤ 1000000) (hn : n ≤ 1000000) (ht : Tab w) :
    Calls Tryd.prog 7 #[.slice p n c, .int .i64 i] w fun e w' => ∃ q cc, e = .returned (.tuple #[.agg #[.int .i64 (opI n i), .int .i64 (opC n i), .slice q (opL S n i).length cc], .int .i64 (opE n i)]) ∧
      HSl (opL S n i).length (lh (opL S n i)) (.slice q (opL S n i).length cc) w' ∧ Kept w w' :=
  (openOpen_any p n c S i w hS hz hn ht).mono fun e w' ⟨v, he, hv, hk⟩ => by
    obtain ⟨q, cc, rfl⟩ := hv.slice
    exact ⟨q, cc, he, hv.hsl (opL_32 S n i), hk⟩
theorem refOpen_at (p : Option Addr) (n c : Nat) (S : Nat → ByteArray) (i : Int) (w : World) (hS : SAt w p n S) (hz : ∀ i, i < n → (S i).size ≤ 1000000) (hn : n ≤ 1000000) :
    Calls Tryd.prog 8 #[.slice p n c, .int .i64 i] w fun e w' => ∃ q cc, e = .returned (.tuple #[.agg #[.int .i64 (opI n i), .int .i64 (opC n i), .slice q (opL S n i).length cc], .int .i64 (opE n i)]) ∧
      HSl (opL S n i).length (lh (opL S n i)) (.slice q (opL S n i).length cc) w' ∧ Kept w w' :=
  (refOpen_any p n c S i w hS hz hn).mono fun e w' ⟨v, he, hv, hk⟩ => by
    obtain ⟨q, cc, rfl⟩ := hv.slice
    exact ⟨q, cc, he, hv.hsl (opL_32 S n i), hk⟩
theorem depth_opL (S : Nat → ByteArray) (n : Nat) (i : Int) (h : 0 ≤ i ∧ i < (n : Int)) : depthI (n : Int) i = ((opL S n i).length : Int) := by
  obtain ⟨k, rfl⟩ := Int.eq_ofNat_of_zero_le h.1
  rw [depthI, if_pos h, opL, if_pos h, pathN_length]
  simp

def aS (_ : Nat) : ByteArray := ⟨#[97]⟩
set_option maxRecDepth 100000 in
set_option maxHeartbeats 1000000 in
theorem awake13_any (w : World) (ht : Tab w) : Calls Tryd.prog 6 #[] w fun e w' => e = .returned (.bool true) ∧ Kept w w' := by
  have hS : ∀ (w : World) (g : Nat), Rowz w g #[.string ⟨#[97]⟩] 9 → SAt w (some ⟨g, 0, none⟩) 1 aS := fun w g h i hi => by
    obtain rfl : i = 0 := by omega
    exact ⟨_, rfl, h.lt, h.cell 0⟩
  have H0 : Hid (∀ (w : World) (g : Nat), Rowz w g #[.string ⟨#[97]⟩] 9 → Tab w → Calls Tryd.prog 7 #[.slice (some ⟨g, 0, none⟩) 1 1, .int .i64 0] w fun e w' => ∃ q cc, e = .returned (.tuple #[.agg #[.int .i64 0, .int .i64 1, .slice q 0 cc], .int .i64 0]) ∧ Kept w w') := Lib.hid fun w g h ht =>
    (openOpen_at (some ⟨g, 0, none⟩) 1 1 aS 0 w (hS w g h) (fun _ _ => by show 1 ≤ 1000000; omega) (by omega) ht).mono fun e w' ⟨q, cc, he, _, hk⟩ => by
      have e0 : opL aS 1 0 = [] := by rw [opL, if_pos (by decide)]; exact pathN_one _ _ (by omega)
      rw [e0] at he
      exact ⟨q, cc, he, hk⟩
  have H1 : Hid (∀ (w : World) (g : Nat), Rowz w g #[.string ⟨#[97]⟩] 9 → Tab w → Calls Tryd.prog 7 #[.slice (some ⟨g, 0, none⟩) 1 1, .int .i64 1] w fun e w' => ∃ q cc, e = .returned (.tuple #[.agg #[.int .i64 0, .int .i64 0, .slice q 0 cc], .int .i64 3]) ∧ Kept w w') := Lib.hid fun w g h ht =>
    (openOpen_at (some ⟨g, 0, none⟩) 1 1 aS 1 w (hS w g h) (fun _ _ => by show 1 ≤ 1000000; omega) (by omega) ht).mono fun e w' ⟨q, cc, he, _, hk⟩ => by
      have e0 : opL aS 1 1 = [] := by rw [opL, if_neg (by decide)]
      rw [e0] at he
      exact ⟨q, cc, he, hk⟩
  have HT := Lib.hid ht
  clear hS ht
  go_enter Tryd.func6, Tryd.ntmps6
  go_wp2_with fail
  change Calls _ _ _ (w.alloc (.cells #[.string ⟨#[97]⟩] 9)) _
  have R1 := Lib.hid (Rowz.new w #[.string ⟨#[97]⟩] 9)
  have K1 := Lib.hid ((Kept.refl w).alloc (.cells #[.string ⟨#[97]⟩] 9))
  generalize w.alloc (.cells #[.string ⟨#[97]⟩] 9) = v1 at R1 K1 ⊢
  refine (H0.out v1 w.heap.size R1.out (HT.out.kept K1.out)).mono ?_
  rintro e v2 ⟨q, cc, rfl, k1⟩
  have K2 := Lib.hid (K1.out.trans k1)
  clear R1 K1 k1 H0
  go_wp2_with (refine wpList_store_made rfl 27 _ _ rfl _ _ #[.int .i64 0, .int .i64 1, .slice q 0 cc] rfl rfl 27 _ rfl (opR_size 0 1 (.slice q 0 cc)) rfl (opR_one 0 1 q 0 cc) ?_; intro v3 R3 k3)
  have K3 := Lib.hid (K2.out.trans k3.out)
  clear k3 K2
  generalize v2.heap.size = g1 at R3 ⊢
  change Calls _ _ _ (v3.alloc (.cells #[.string ⟨#[97]⟩] 9)) _
  have R4 := Lib.hid (Rowz.new v3 #[.string ⟨#[97]⟩] 9)
  have K4 := Lib.hid (K3.out.alloc (.cells #[.string ⟨#[97]⟩] 9))
  have R5 := Lib.hid (R3.out.alloc (.cells #[.string ⟨#[97]⟩] 9))
  generalize v3.alloc (.cells #[.string ⟨#[97]⟩] 9) = v4 at R4 K4 R5 ⊢
  refine (H1.out v4 _ R4.out (HT.out.kept K4.out)).mono ?_
  rintro e v5 ⟨q', cc', rfl, k5⟩
  have K5 := Lib.hid (K4.out.trans k5)
  have R6 := Lib.hid (R5.out.kept k5)
  clear R3 K3 R4 K4 R5 k5 H1
  go_wp2_with (refine wpList_store_made rfl 27 _ _ rfl _ _ #[.int .i64 0, .int .i64 0, .slice q' 0 cc'] rfl rfl 27 _ rfl (opR_size 0 0 (.slice q' 0 cc')) rfl (opR_one 0 0 q' 0 cc') ?_; intro v6 R7 k6; have K6 := Lib.hid (K5.out.trans k6.out); have R8 := Lib.hid (R6.out.kept k6.out); clear K5 R6 k6; have c0 := R8.out.cell 0; have c1 := R8.out.cell 1; have c2 := R8.out.cell 2)
  go_ret
  exact ⟨rfl, K6.out⟩
end Go.Proofs.YtecfgjoomckleaaDoor
