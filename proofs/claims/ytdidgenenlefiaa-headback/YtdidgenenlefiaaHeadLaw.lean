/-
  For layer 17's laws: what Take answers by what the reference's Get and Done do; awake of milepostlaw17. No condition.
-/
import Derived.Test.YtdidgenenlefiaaHeadWalkB
import Derived.Test.YtdidgenenlefiaaCurWalkB
namespace Go.Proofs.Ytdidgenenlefiaa
set_option maxRecDepth 4000
open Go.RowKit

theorem execEqHd_self {o : Oper} {t : Array Value} {x y : Operand} (a : Hd) (ha : a.ok) (w : World) (ho : o.op = .binOp .eql 27 x y 27) (hx : evS t x = .agg (hdC a)) (hy : evS t y = .agg (hdC a)) :
    (execOp (evS t) o).run Try.prog w = .ok (.value (.bool true)) w := by
  have := execEqHd a a ha ha w ho hx hy
  rwa [decide_eq_true rfl] at this
theorem execLenS17 {o : Oper} {t : Array Value} {s : ByteArray} {x : Operand} (w : World) (ho : o.op = .call { callee := .builtin .len, args := #[x], argTypes := #[9] }) (hty : o.type = 3) (hx : evS t x = .string s) :
    (execOp (evS t) o).run Try.prog w = .ok (.value (.int .i64 (s.size : Int))) w := by
  unfold execOp
  rw [ho]
  simp only [hty]
  go_simp
theorem execFieldC {o : Oper} {t : Array Value} {x : Operand} (b k : Nat) (hk : k = 0 ∨ k = 1) (w : World) (ho : o.op = .fieldAddr 35 x k) (hx : evS t x = .pointer (some ⟨b, 0, none⟩)) :
    (execOp (evS t) o).run Try.prog w = .ok (.value (.pointer (some ⟨b, k, none⟩))) w := by
  rcases hk with rfl | rfl
  all_goals
    unfold execOp
    rw [ho]
    simp only [hx]
    go_simp
theorem run_loadS17 {w : World} {a : Addr} {s : ByteArray} (h : w.cell? a = some (.string s)) : (Instr.loadAt 9 (.pointer (some a))).run Try.prog w = .ok (.string s) w := by
  go_simp
theorem run_loadE17 {w : World} {a : Addr} {n : Int} (h : w.cell? a = some (.int .i64 n)) : (Instr.loadAt 31 (.pointer (some a))).run Try.prog w = .ok (.int .i64 n) w := by
  go_simp
def hdA : Hd := ⟨258, List.replicate 32 0, List.replicate 32 0, 7⟩
theorem hdA_ok : hdA.ok := ⟨by show 258 < 4294967296; omega, rfl, rfl, by show 7 < 18446744073709551616; omega⟩
theorem execBuildA {o : Oper} {t : Array Value} (w : World) (ho : o.op = .build 27 #[(0, .const (.int .u32 258)), (3, .const (.int .u64 7))]) : (execOp (evS t) o).run Try.prog w = .ok (.value (.agg (hdC hdA))) w :=
  execBuildHn 258 7 w ho rfl rfl
set_option maxRecDepth 100000 in
set_option maxHeartbeats 1000000 in
theorem awake17_any (w : World) : Calls Try.prog 8 #[] w fun e w' => e = .returned (.bool true) ∧ Kept w w' := by
  have H1 : Hid (∀ w, Calls Try.prog 6 #[.agg (hdC hdA)] w fun e w' => e = .returned (.string (hdS hdA)) ∧ Kept w w') := Lib.hid fun w => headBytes_any hdA w hdA_ok
  have H2 : Hid (∀ w, Calls Try.prog 9 #[.string (hdS hdA)] w fun e w' => e = .returned (.tuple #[.agg (hdC hdA), .int .i64 0]) ∧ Kept w w') := Lib.hid fun w => by
    have := headTake_any (hdS hdA) w (by rw [hdS_size _ hdA_ok]; unfold maxLen; omega)
    rwa [hT_hdS _ hdA_ok, hE_hdS _ hdA_ok] at this
  have H3 : Hid (∀ w, Calls Try.prog 6 #[.agg (hdC hdZ)] w fun e w' => e = .returned (.string (hdS hdZ)) ∧ Kept w w') := Lib.hid fun w => headBytes_any hdZ w hdZ_ok
  have hz := hdS_size hdZ hdZ_ok
  have hok := Lib.hid hdA_ok
  have HB : Hid (∀ {o : Oper} {t : Array Value} (w : World), o.op = .build 27 #[(0, .const (.int .u32 258)), (3, .const (.int .u64 7))] → (execOp (evS t) o).run Try.prog w = .ok (.value (.agg (hdC hdA))) w) := Lib.hid fun w ho => execBuildA w ho
  generalize hdS hdZ = z at H3 hz
  generalize hdS hdA = s at H1 H2
  have hi := Lib.hid (info_hdr hdA)
  have hone := Lib.hid (hdC_one hdA)
  generalize hdA = A at *
  have hz' : ((z.size : Int) == 76) = true := by simp [hz]
  go_enter Try.func8, Try.ntmps8
  go_wp2_with (refine wpList_exec 4 rfl (by rfl) _ _ (HB.out _ rfl) ?_)
  refine (H1.out _).mono ?_
  rintro e w1 ⟨rfl, k1⟩
  have K1 := Lib.hid k1
  clear k1 H1
  go_wp2_with fail
  refine (H2.out _).mono ?_
  rintro e w2 ⟨rfl, k2⟩
  have K2 := Lib.hid (K1.out.trans k2)
  clear k2 H2 K1
  go_wp2_with (first
    | (refine wpList_exec 1 rfl (by rfl) _ _ (execAllocHd _ rfl) ?_)
    | (refine wpList_store_made rfl 27 _ _ rfl _ _ (hdC A) rfl rfl 27 _ rfl hi.out (by rw [hdC_size, hdC_size]) hone.out ?_; intro v3 R1 k3)
    | (refine wpList_exec 9 rfl (by rfl) _ _ (execBuildH0 _ rfl) ?_))
  have K3 := Lib.hid (K2.out.trans k3.out)
  clear k3 K2
  refine (H3.out _).mono ?_
  rintro e w4 ⟨rfl, k4⟩
  obtain ⟨g1, hg1⟩ : ∃ g, g = w2.heap.size := ⟨_, rfl⟩
  rw [← hg1] at R1 ⊢
  clear hg1
  replace R1 := Lib.hid (R1.out.kept k4)
  have K4 := Lib.hid (K3.out.trans k4)
  clear k4 K3 H3
  go_wp2_with (first
    | (refine wpList_exec 14 rfl (by rfl) _ _ (loadHd rfl rfl R1.out) ?_)
    | (refine wpList_exec 15 rfl (by rfl) _ _ (HB.out _ rfl) ?_)
    | (refine wpList_exec 16 rfl (by rfl) _ _ (execEqHd A A hok.out hok.out _ rfl rfl rfl) ?_))
  go_ret
  exact ⟨rfl, K4.out⟩
end Go.Proofs.Ytdidgenenlefiaa
