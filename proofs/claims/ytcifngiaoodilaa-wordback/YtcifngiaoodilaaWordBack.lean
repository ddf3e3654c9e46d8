/-
  Take64 and Take32 take back, at any index, what Put64 and Put32 wrote there, and a word rotated there and back is as it was; the law's examples hold: 'WordBack' returns true for every input.
  Conditions: none (a string takes at most 2^47 - 4096 bytes, by the form's own reach).
-/
import Derived.Test.YtcifngiaoodilaaRows
import Derived.Test.YtcifngiaoodilaaWalkB
import Derived.WalkKit
import Derived.ProofKit
import Derived.OpenShut
import Derived.ShutString
import Derived.SizedLaws
namespace Go.Proofs.Ytcifngiaoodilaa.wordBack
open Go.ChangeShapes Go.WideShapes Go.ChangeAt Go.RowKit
open Go.ChangeMaps (open_string shut_string)
set_option linter.unusedVariables false

theorem own : ownKnob Try.prog.godebug = none := by kernel_rfl

theorem walk (a0 : Int) (a1 : Int) (a2 : ByteArray) (w0 : (Lit.int .u64 a0).wf = true) (w1 : (Lit.int .u32 a1).wf = true) (w2 : a2.size ≤ maxLen) (r2 : a2.size ≤ 140737488351232) (w : World) :
    Calls Try.prog 7 #[.int .u64 a0, .int .u32 a1, .string a2] w fun e w' => e = .returned (.bool true) ∧ Grown w w' := by
  obtain ⟨hl, hu⟩ := bounds_u64 w0
  obtain ⟨x, rfl⟩ := Int.eq_ofNat_of_zero_le hl
  obtain ⟨hl1, hu1⟩ := bounds_u32 w1
  obtain ⟨y, rfl⟩ := Int.eq_ofNat_of_zero_le hl1
  have hx : x < 18446744073709551616 := by omega
  have hy : y < 4294967296 := by omega
  have T64 := Lib.hid (take_put' a2 8 x (by simpa using hx))
  have T32 := Lib.hid (take_put a2 a2 4 y (by simpa using hy))
  have hs8 := beS_size 8 x
  have hs4 := beS_size 4 y
  have HS8 := Lib.hid hs8
  have HS4 := Lib.hid hs4
  have hz8 : (beS 8 x).size ≤ 8 := by omega
  have hz4 : (beS 4 y).size ≤ 4 := by omega
  clear hs8 hs4
  have hn : bits .and .u32 (y : Int) 31 = ((y % 32 : Nat) : Int) := by
    rw [show (31 : Int) = ((31 : Nat) : Int) by rfl, u32_and_nat _ _ hy (by omega), nat_mask5]
  obtain ⟨m, hm⟩ : ∃ m, m = y % 32 := ⟨_, rfl⟩
  rw [← hm] at hn
  have hm32 : m < 32 := by omega
  clear hm
  have RB := Lib.hid (rotr_back y ((m : Int) % 32).toNat ((-(m : Int)) % 32).toNat hy (by omega) (by omega) (by omega))
  have hr1 := rotr_lt y ((m : Int) % 32).toNat hy
  go_enter Try.func7, Try.ntmps7
  go_wp2_with fail
  refine (put64_any x _ hx).mono ?_
  rintro e v1 ⟨rfl, hg1⟩
  go_wp2_with fail
  refine (take64_any (a2 ++ beS 8 x) a2.size _ (by unfold maxLen; rw [ByteArray.size_append]; omega) (by omega) (by omega)).mono ?_
  rintro e v2 ⟨rfl, rfl⟩
  rw [T64.out]
  go_wp2_with fail
  refine (put32_any y _ hy).mono ?_
  rintro e v3 ⟨rfl, hg3⟩
  go_wp2_with fail
  refine (take32_any (a2 ++ beS 4 y ++ a2) a2.size _ (by unfold maxLen; rw [ByteArray.size_append, ByteArray.size_append]; omega) (by omega) (by omega)).mono ?_
  rintro e v4 ⟨rfl, rfl⟩
  rw [T32.out]
  go_wp2_with fail
  refine (rot_any y m _ hy).mono ?_
  rintro e v5 ⟨rfl, rfl⟩
  go_wp2_with fail
  refine (rot_any (rotr y ((m : Int) % 32).toNat) (-(m : Int)) _ hr1).mono ?_
  rintro e v6 ⟨rfl, rfl⟩
  rw [RB.out]
  go_wp2_with fail
  refine (awake_any _).mono ?_
  rintro e v7 ⟨rfl, hg7⟩
  go_wp2_with fail
  go_ret
  exact ⟨rfl, Grown.trans hg1 (Grown.trans hg3 hg7)⟩

set_option maxRecDepth 100000 in
theorem lifted (os : Os) (started : os.Started) (H : Type) (enc : TypeId × Value → H) :
    ReturnsInHanded {} Try.checked os 7 .any (Rows.wordBackSpec.pre6 enc Try.prog Try.f7 Rows.wordBackRow.domain false) (Rows.wordBackSpec.post enc Try.prog Try.f7 false true false false) := by
  refine returnsInHanded_of_change_sized (C := Try.checked) own started (by kernel_rfl) Try.func7
    (ChangeSpec.witness6 (enc := enc) (C := Try.checked) false ⟨#[], #[.int .u64 0, .int .u32 0, .string ByteArray.empty], []⟩ 8 (by kernel_rfl) (by kernel_rfl) (by kernel_rfl) (by kernel_rfl)) ?_
  intro W base args ds gs before hval0 hW hcnd hsz0 _
  have hval : ∀ (j : Nat) t v, Try.f7.params[j]? = some t → args[j]? = some v → Value.okWide Try.prog W .any base t v := hval0
  have hsz : (DataW.weightsEach Try.prog (Try.f7.params.toList ++ Rows.wordBackSpec.plain.varTypes Try.prog) (ds ++ gs)).all (· ≤ reachBytes) = true := hsz0
  have hW' := hW
  obtain ⟨p, q, hA0, hV, rfl, hfz, hnd⟩ := hW
  have hA : DataW.TrodAll enc Try.prog W 0 (fun _ => true) true Try.f7.params.toList args.toList ds p := hA0
  rw [Try.params7] at hA hval hsz
  obtain ⟨v0, vs0, d0, ds0, p0, q0, hargs, rfl, rfl, h0, r0⟩ := trodAll_cons hA
  obtain ⟨v1, vs1, d1, ds1, p1, q1, rfl, rfl, rfl, h1, r1⟩ := trodAll_cons r0
  obtain ⟨v2, vs2, d2, ds2, p2, q2, rfl, rfl, rfl, h2, r2⟩ := trodAll_cons r1
  obtain ⟨rfl, rfl, rfl⟩ := trodAll_nil r2
  obtain rfl : args = #[v0, v1, v2] := by cases args; simp_all
  obtain ⟨rfl, rfl⟩ := trodVars_none hV
  obtain ⟨a0, rfl, rfl, rfl, w0⟩ := open_int Try.underlying26 (hval 0 26 v0 rfl rfl) h0
  obtain ⟨a1, rfl, rfl, rfl, w1⟩ := open_int Try.underlying22 (hval 1 22 v1 rfl rfl) h1
  obtain ⟨a2, rfl, rfl, rfl, w2⟩ := open_string Try.underlying9 (hval 2 9 v2 rfl rfl) h2
  clear hA0 hval0
  simp only [List.append_nil] at hW'
  have r2 : a2.size ≤ 140737488351232 := by have := sized_string hsz (j := 2) (t := 9) rfl rfl; simpa [reachBytes] using this
  refine (walk a0 a1 a2 w0 w1 w2 r2 W).mono fun e W' ⟨he, hg⟩ => ?_
  subst he
  exact ⟨_, rfl, post_of_same (pa := []) (pv := []) hW' (fun _ _ _ => (trodAll_cons_mk (shut_bool Try.underlying4 _) trodAll_mk0)) (fun sp _ => (trodAll_cons_mk (shut_int Try.underlying26 w0) (trodAll_cons_mk (shut_int Try.underlying22 w1) (trodAll_cons_mk (shut_string Try.underlying9 w2) trodAll_mk0)))) (fun _ _ => rfl) rfl
    (hg.frame _) hg.2.1 (ok_one (by kernel_rfl) rfl (okWide_bool_mk Try.underlying4 _))⟩

theorem over : Rows.wordBackRow.holds Try.pinned (OpenSpec.ofChange Rows.wordBackSpec) :=
  OpenClaim.holds_of_wide 7 Try.f7 rfl rfl rfl rfl rfl rfl rfl ⟨rfl, rfl, rfl, rfl, rfl⟩ rfl rfl rfl rfl rfl (by kernel_rfl) Try.func7 (by kernel_rfl)
    (of_decide_eq_true (by kernel_rfl)) (by unfold Func.isWrapper; first | (rw [if_pos (by decide +kernel)]; kernel_rfl) | (rw [if_neg (by decide +kernel)]; exact ⟨rfl, rfl⟩))
    (fun os started H enc _ => lifted os started H enc)

theorem proved : Rows.WordBackSaid :=
  over
end Go.Proofs.Ytcifngiaoodilaa.wordBack
namespace Go.Proofs.Ytcifngiaoodilaa
theorem wordBack_holds : Rows.WordBackSaid := wordBack.proved
#print axioms wordBack_holds
end Go.Proofs.Ytcifngiaoodilaa
