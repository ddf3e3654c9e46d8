/-
  Contracts of buf: Byte, Num, Text, Hash, of a Buf or of none; milepostref03.Raw. Conditions: a length fits in memory.
-/
import Derived.Test.YtmccpbpnpdidbaaBufWalkA
import Derived.Test.YtmccpbpnpdidbaaLawLib
import Derived.Test.YtmccpbpnpdidbaaNumRefA
import Derived.Deep.MidRow
namespace Go.Proofs.Ytmccpbpnpdidbaa
open Go.RowKit

def oneB (c : Nat) : ByteArray := ⟨#[UInt8.ofNat c]⟩
def hB (l : List UInt8) : ByteArray := ⟨l.toArray⟩
theorem hB_size (l : List UInt8) : (hB l).size = l.length := by simp [hB, ByteArray.size]
theorem hB_append (a b : List UInt8) : hB (a ++ b) = hB a ++ hB b := by
  apply ByteArray.ext; simp [hB, ByteArray.data_append]
theorem ba_assoc (a b c : ByteArray) : a ++ b ++ c = a ++ (b ++ c) := by
  apply ByteArray.ext; simp [ByteArray.data_append]
/-- What a method that appends x leaves. -/
def Puts (V : Value) (g r : Option Nat) (s x : ByteArray) (w : World) (e : Ending) (w' : World) : Prop := e = .returned (.tuple #[]) ∧ ∃ r', BufV w' V g r' (s ++ x) ∧ Wrote g r w r' w'

theorem bufRaw_new1 (V : Value) (g r : Option Nat) (s x : ByteArray) (C : Array Value) (T : TypeId) (w : World) (H : BufV w V g r s) (hs : (s ++ x).size ≤ 140737488355328) :
    Calls Try.prog 17 #[V, .slice (some ⟨w.heap.size + 1, 0, none⟩) 1 1] ((w.alloc (.cells C T)).alloc (.cells #[.string x] 9)) (Puts V g r s x w) := by
  have h := bufRaw_new V g r s 1 [x] (w.alloc (.cells C T)) (H.kept ((Kept.refl w).alloc _)) rfl (by omega) #[.string x] rfl hs
  rw [show (w.alloc (.cells C T)).heap.size = w.heap.size + 1 by simp] at h
  refine h.mono ?_
  rintro e w1 ⟨rfl, r1, H1, W1⟩
  exact ⟨rfl, r1, H1, Wrote.trans (Wrote.ofKept ((Kept.refl w).alloc _)) W1⟩
theorem bufByte_any (V : Value) (g r : Option Nat) (s : ByteArray) (c : Nat) (hc : c < 256) (w : World) (H : BufV w V g r s) (hs : (s ++ oneB c).size ≤ 140737488355328) :
    Calls Try.prog 18 #[V, .int .u8 (c : Int)] w (Puts V g r s (oneB c) w) := by
  have HH := Lib.hid H
  have hb : (convert 27 9 (.slice (some ⟨w.heap.size, 0, none⟩) 1 1)).run Try.prog (w.alloc (.cells #[.int .u8 (c : Int)] 5)) = .ok (.string (oneB c)) (w.alloc (.cells #[.int .u8 (c : Int)] 5)) := run_byte c w hc
  clear H
  go_enter Try.func18, Try.ntmps18
  go_wp2_with (go_at_call 17; refine (bufRaw_new1 V g r s (oneB c) _ _ w HH.out hs).mono ?_; rintro e w1 ⟨rfl, r1, H1, W1⟩)
  exact ⟨rfl, .tuple #[], results_none Try.results18 _ _ _, rfl, r1, H1, W1⟩
theorem bufNum_any (V : Value) (g r : Option Nat) (s : ByteArray) (x : Nat) (hx : x < 18446744073709551616) (w : World) (H : BufV w V g r s) (hs : (s ++ vS x).size ≤ 140737488355328) :
    Calls Try.prog 15 #[V, .int .u64 (x : Int)] w (Puts V g r s (vS x) w) := by
  have HP := Lib.hid (numPut_any x w hx)
  have HH := Lib.hid H
  clear H
  go_enter Try.func15, Try.ntmps15
  go_wp2_with (first
    | (go_at_call 29; refine HP.out.mono ?_; rintro e w0 ⟨rfl, K0⟩; replace K0 := Lib.hid K0)
    | (go_at_call 17; refine (bufRaw_new V g r s 1 [vS x] w0 (HH.out.kept K0.out) rfl (by omega) _ rfl hs).mono ?_; rintro e w1 ⟨rfl, r1, H1, W1⟩))
  exact ⟨rfl, .tuple #[], results_none Try.results15 _ _ _, rfl, r1, H1, Wrote.trans (Wrote.ofKept K0.out) W1⟩
theorem bufText_any (V : Value) (g r : Option Nat) (s x : ByteArray) (hx : x.size ≤ 140737488355328) (w : World) (H : BufV w V g r s) (hs : (s ++ (vS x.size ++ x)).size ≤ 140737488355328) :
    Calls Try.prog 16 #[V, .string x] w (Puts V g r s (vS x.size ++ x) w) := by
  have HP := Lib.hid (numPut_any x.size w (by omega))
  have HH := Lib.hid H
  rw [← ba_assoc] at hs
  clear H
  go_enter Try.func16, Try.ntmps16
  go_wp2_with (first
    | (go_at_call 29; refine HP.out.mono ?_; rintro e w0 ⟨rfl, K0⟩; replace K0 := Lib.hid K0)
    | (go_at_call 17; refine (bufRaw_new V g r s 2 [vS x.size, x] w0 (HH.out.kept K0.out) rfl (by omega) _ rfl hs).mono ?_; rintro e w1 ⟨rfl, r1, H1, W1⟩))
  refine ⟨rfl, .tuple #[], results_none Try.results16 _ _ _, rfl, r1, ?_, Wrote.trans (Wrote.ofKept K0.out) W1⟩
  rw [← ba_assoc]
  exact H1
theorem run_loadH (w : World) (g k n : Nat) (l : List UInt8) (T : TypeId) (h : Rowz w g (bC n l) T) (hn : 32 * k + 32 ≤ n) :
    (Instr.loadAt 33 (.pointer (some ⟨g, k * 32, none⟩))).run Try.prog w = .ok (.agg (bC 32 (hAt l k))) w := by
  rw [Nat.mul_comm k 32]
  have h1 := run_loadAt_mid (P := Try.prog) w g (32 * k) 33 (bC 32 (hAt l k)).toList _ (hash_range h k hn) Try.underlying33 rfl (by rw [Array.length_toList, bC_size]; kernel_rfl)
  simpa using h1
theorem execLoadAny {P : Program} {ty : TypeId} {o : Oper} {t : Array Value} {x : Operand} {w : World} {v : Value} {u : Value} (ho : o.op = .load ty x) (hx : evS t x = v) (h : (Instr.loadAt ty v).run P w = .ok u w) : (execOp (evS t) o).run P w = .ok (.value u) w := by
  unfold execOp
  simp only [ho, hx, Sem.run_bind, Sem.run_pure, h, Result.andThen_ok]
theorem hB_step (s : ByteArray) (l : List UInt8) (k : Nat) : s ++ hB (l.take (32 * k)) ++ hB (hAt l k) = s ++ hB (l.take (32 * (k + 1))) := by
  rw [ba_assoc, ← hB_append, hAt]
  congr 2
  rw [show 32 * (k + 1) = 32 * k + 32 by omega, List.take_add]
theorem run_slice_hashB (g : Nat) (w : World) : (Instr.sliceAt 33 (.pointer (some ⟨g, 0, none⟩)) none none none).run Try.prog w = .ok (.slice (some ⟨g, 0, none⟩) 32 32) w := by kernel_rfl
theorem run_strH (w : World) (g : Nat) (T : TypeId) (l : List UInt8) (hl : l.length = 32) (hr : Rowz w g (bC 32 l) T) : (convert 27 9 (.slice (some ⟨g, 0, none⟩) 32 32)).run Try.prog w = .ok (.string (hB l)) w := by
  have h := run_strB w g 0 32 l (fun j hj => by
    rw [hr.cell, Nat.zero_add]
    have : j < 32 := by omega
    simp [bC, this, hj])
  rw [hl] at h
  exact h
set_option maxRecDepth 100000 in
theorem bufHash_any (V : Value) (g r : Option Nat) (s : ByteArray) (bk n c : Nat) (l : List UInt8) (w : World) (H : BufV w V g r s) (hn : l.length = 32 * n) (hl : n ≤ 1000) (T : TypeId) (hr : Rowz w bk (bC (32 * n) l) T)
    (hg : some bk ≠ g) (hr2 : some bk ≠ r) (hs : (s ++ hB l).size ≤ 140737488355328) :
    Calls Try.prog 20 #[V, .slice (some ⟨bk, 0, none⟩) n c] w (Puts V g r s (hB l) w) := by
  replace H := Lib.hid H
  have HR := Lib.hid hr
  have HN := Lib.hid hn
  have HS : Hid (∀ k, (s ++ hB (l.take (32 * k))).size ≤ 140737488355328) := Lib.hid fun k => by
    rw [ByteArray.size_append, hB_size] at hs ⊢
    rw [List.length_take]
    omega
  clear hr hn hs
  go_enter Try.func20, Try.ntmps20
  go_wp2_with fail
  go_loopw [8] (fun i wr => ∃ k : Nat, k ≤ n ∧ i = .int .i64 (k : Int) ∧ ∃ r', Hid (BufV wr V g r' (s ++ hB (l.take (32 * k)))) ∧ Hid (Wrote g r w r' wr)) (fun i _ => n - (intOf i).toNat)
  case atStart =>
    refine ⟨0, by omega, rfl, r, ?_, Lib.hid (Wrote.refl _ _ _)⟩
    have e : s ++ hB (l.take (32 * 0)) = s := by apply ByteArray.ext; simp [ByteArray.data_append, hB]
    rw [e]
    exact H
  case round =>
    clear H
    obtain ⟨k, hk, rfl, r1, H, W⟩ := hrel
    by_cases hlt : k < n
    · have hd : decide ((k : Int) < (n : Int)) = true := decide_eq_true (by omega)
      have hd' : decide (k < n) = true := decide_eq_true (by omega)
      have R1 := HR.out.wrote W.out hg hr2
      have HL := Lib.hid (run_loadH wr bk k (32 * n) l T R1 (by omega))
      go_wp2_with (refine park_at 11 rfl ?_)
      refine unpark ?_
      refine wpList_exec 11 rfl (by rfl) (.agg (bC 32 (hAt l k))) _ (execLoadAny rfl rfl HL.out) ?_
      clear HL R1
      have HZ : Hid ((catB (s ++ hB (l.take (32 * k))) [hB (hAt l k)]).size ≤ 140737488355328) := Lib.hid (by
        show (s ++ hB (l.take (32 * k)) ++ hB (hAt l k)).size ≤ _
        rw [hB_step]; exact HS.out _)
      have hsl := run_slice_hashB wr.heap.size
      go_wp2_with (first
        | (refine wpList_store_made rfl 33 _ _ rfl wr _ (bC 32 (hAt l k)) rfl rfl 33 (bC 32 []) (by kernel_rfl) (info32c _) (by simp [bC_size]) (bC_one _ _) ?_; intro v RV KV; have hcv := run_strH v wr.heap.size _ (hAt l k) (hAt_length _ _ (by rw [HN.out]; omega)) RV.out)
        | (go_at_call 17; refine (bufRaw_new V g r1 (s ++ hB (l.take (32 * k))) 1 [hB (hAt l k)] v (H.out.kept KV.out) rfl (by omega) _ rfl HZ.out).mono ?_; rintro e w1 ⟨rfl, r2, H1, W1⟩; replace H1 := Lib.hid H1; replace W1 := Lib.hid W1))
      go_roundw
      case measure => simp [intOf]; omega
      case rel =>
        refine ⟨k + 1, by omega, by go_num, r2, Lib.hid ?_, Lib.hid (W.out.trans (Wrote.trans (Wrote.ofKept KV.out) W1.out))⟩
        rw [← hB_step]
        exact H1.out
    · have hd : decide ((k : Int) < (n : Int)) = false := decide_eq_false (by omega)
      have hd' : decide (k < n) = false := decide_eq_false (by omega)
      obtain rfl : k = n := by omega
      go_wp2_with fail
      refine ⟨rfl, .tuple #[], results_none Try.results20 _ _ _, rfl, r1, ?_, W.out⟩
      have h := H.out
      rwa [List.take_of_length_le (by rw [HN.out]; exact Nat.le_refl _)] at h
end Go.Proofs.Ytmccpbpnpdidbaa
