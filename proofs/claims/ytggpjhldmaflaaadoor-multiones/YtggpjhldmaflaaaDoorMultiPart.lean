/-
  Parts of a tree with their places (PartQ): which leaves of n from f on are opened, by a stretch of the places; cut in two at a leaf. No condition.
-/
import Derived.Test.YtggpjhldmaflaaaDoorMultiNeed
import Derived.Test.YtggpjhldmaflaaaDoorBas
import Derived.Deep.RegionHeld3
import Derived.Laws.ResultCell
namespace Go.Proofs.YtggpjhldmaflaaaDoor
set_option maxRecDepth 4000
open Go.RowKit

/-- The K places Pl are those of Q among the n leaves from f on. -/
structure PartQ (Q : Nat → Bool) (f n K : Nat) (Pl : Nat → Int) : Prop where
  inn : ∀ i, i < K → (f : Int) ≤ Pl i ∧ Pl i < ((f + n : Nat) : Int)
  mono : ∀ j i, i < j → j < K → Pl i < Pl j
  all : ∀ x, f ≤ x → x < f + n → (Q x = true ↔ ∃ i, i < K ∧ Pl i = (x : Int))
section
variable {Q : Nat → Bool} {f n K : Nat} {Pl : Nat → Int}
theorem PartQ.at (h : PartQ Q f n K Pl) {i : Nat} (hi : i < K) : ∃ x : Nat, Pl i = (x : Int) ∧ f ≤ x ∧ x < f + n ∧ Q x = true := by
  obtain ⟨h1, h2⟩ := h.inn i hi
  exact ⟨(Pl i).toNat, by omega, by omega, by omega, (h.all _ (by omega) (by omega)).2 ⟨i, hi, by omega⟩⟩
theorem PartQ.has (h : PartQ Q f n K Pl) : hasQ Q f n = decide (0 < K) := by
  rw [Bool.eq_iff_iff, hasQ_iff, decide_eq_true_iff]
  constructor
  · rintro ⟨x, h1, h2, h3⟩
    obtain ⟨i, hi, _⟩ := (h.all x h1 h2).1 h3
    omega
  · intro h0
    obtain ⟨x, _, h1, h2, h3⟩ := h.at h0
    exact ⟨x, h1, h2, h3⟩
theorem PartQ.left (h : PartQ Q f n K Pl) {l k : Nat} (hl : l ≤ n) (hk : k ≤ K) (ha : ∀ i, i < k → Pl i < ((f + l : Nat) : Int)) (hb : ∀ i, k ≤ i → i < K → ((f + l : Nat) : Int) ≤ Pl i) : PartQ Q f l k Pl where
  inn i hi := ⟨(h.inn i (by omega)).1, ha i hi⟩
  mono j i hij hj := h.mono j i hij (by omega)
  all x h1 h2 := by
    rw [h.all x h1 (by omega)]
    constructor
    · rintro ⟨i, hi, he⟩
      refine ⟨i, ?_, he⟩
      rcases Nat.lt_or_ge i k with h | h
      · exact h
      · have := hb i h hi; omega
    · rintro ⟨i, hi, he⟩; exact ⟨i, by omega, he⟩
theorem PartQ.right (h : PartQ Q f n K Pl) {l k : Nat} (hl : l ≤ n) (hk : k ≤ K) (ha : ∀ i, i < k → Pl i < ((f + l : Nat) : Int)) (hb : ∀ i, k ≤ i → i < K → ((f + l : Nat) : Int) ≤ Pl i) : PartQ Q (f + l) (n - l) (K - k) (fun i => Pl (k + i)) where
  inn i hi := ⟨hb _ (by omega) (by omega), by have := (h.inn (k + i) (by omega)).2; omega⟩
  mono j i hij hj := h.mono (k + j) (k + i) (by omega) (by omega)
  all x h1 h2 := by
    rw [h.all x (by omega) (by omega)]
    constructor
    · rintro ⟨i, hi, he⟩
      rcases Nat.lt_or_ge i k with h | h
      · have := ha i h; omega
      · exact ⟨i - k, by omega, by rw [show k + (i - k) = i by omega]; exact he⟩
    · rintro ⟨i, hi, he⟩; exact ⟨k + i, by omega, he⟩
theorem PartQ.one (h : PartQ Q f 1 K Pl) (h0 : 0 < K) : K = 1 ∧ Pl 0 = (f : Int) := by
  have e0 : Pl 0 = (f : Int) := by have := h.inn 0 h0; omega
  refine ⟨?_, e0⟩
  rcases Nat.lt_or_ge 1 K with h1 | h1
  · have := h.mono 1 0 (by omega) h1
    have := h.inn 1 h1
    omega
  · omega
end
theorem PartQ.whole {n K : Nat} {Pl : Nat → Int} (h : risP (n : Int) K Pl) : PartQ (qP K Pl) 0 n K Pl where
  inn i hi := by obtain ⟨h1, h2, _⟩ := h.2 i hi; omega
  mono := h.mono
  all x _ _ := qP_iff

/-! ### Slices of integers cut in two -/
theorem sizeIntP (w : World) : (Go.sizeOf 3).run Tryd.prog w = .ok 1 w := by kernel_rfl
theorem run_cutI_left (q : Addr) (n c m : Nat) (w : World) (hm : m ≤ c) :
    (Instr.sliceAt 23 (.slice (some q) n c) none (some (.int .i64 (m : Int))) none).run Tryd.prog w = .ok (.slice (some q) m c) w := by
  have e : Tryd.prog.elem 23 = 3 := by kernel_rfl
  have hs := sizeIntP w
  rw [run_sliceAt_slice w 23 _ _ _ _ Tryd.underlying23, run_slice_h w 23 (some q) n c Tryd.underlying23 .i64 (m : Int) (by omega) (by omega), e, hs]
  simp [sliced, Result.andThen, Addr.add]
/-- 's[m:]': the pointer stays where no room is left. -/
theorem run_cutI_right (q : Addr) (n c m : Nat) (hm : m ≤ n) (hn : n ≤ c) :
    ∃ q', (∀ w, (Instr.sliceAt 23 (.slice (some q) n c) (some (.int .i64 (m : Int))) none none).run Tryd.prog w = .ok (.slice (some q') (n - m) (c - m)) w) ∧ ∀ (I : Nat → Int) (W : World), IAt W (some q) n I → IAt W (some q') (n - m) (fun i => I (m + i)) := by
  have e : Tryd.prog.elem 23 = 3 := by kernel_rfl
  by_cases hc : c = m
  · obtain rfl : n = m := by omega
    refine ⟨q, fun w => ?_, fun I W _ => by rw [Nat.sub_self]; exact IAt.zero _ _ _⟩
    have hs := sizeIntP w
    rw [run_sliceAt_slice w 23 _ _ _ _ Tryd.underlying23, run_slice_l w 23 (some q) n c Tryd.underlying23 .i64 (n : Int) (by omega) (by omega), e, hs]
    simp [sliced, Result.andThen, hc]
  · refine ⟨q.add m, fun w => ?_, fun I W h => h.right m hm⟩
    have hs := sizeIntP w
    rw [run_sliceAt_slice w 23 _ _ _ _ Tryd.underlying23, run_slice_l w 23 (some q) n c Tryd.underlying23 .i64 (m : Int) (by omega) (by omega), e, hs]
    simp [sliced, Result.andThen, hc]

/-! ### A part in memory -/
def paC (f n : Int) (p : Option Addr) (K c : Nat) : Array Value := #[.int .i64 f, .int .i64 n, .slice p K c]
theorem paC_size (f n : Int) (p : Option Addr) (K c : Nat) : (paC f n p K c).size = 3 := rfl
theorem info_part (f n : Int) (p : Option Addr) (K c : Nat) : (Tryd.prog.info? 62).map (·.size) = some (paC f n p K c).size := by
  show _ = some 3; kernel_rfl
theorem paC_one (f n : Int) (p : Option Addr) (K c : Nat) : (paC f n p K c).all (·.oneCell') = true := by simp [paC, Value.oneCell']
theorem execFieldP {o : Oper} {t : Array Value} {x : Operand} (b k : Nat) (hk : k = 0 ∨ k = 1 ∨ k = 2) (w : World) (ho : o.op = .fieldAddr 62 x k) (hx : evS t x = .pointer (some ⟨b, 0, none⟩)) :
    (execOp (evS t) o).run Tryd.prog w = .ok (.value (.pointer (some ⟨b, k, none⟩))) w := by
  rcases hk with rfl | rfl | rfl
  all_goals
    unfold execOp
    rw [ho]
    simp only [hx]
    go_simp
theorem execLoadR {P : Program} {o : Oper} {t : Array Value} {x : Operand} {ty : TypeId} {w : World} (a : Addr) (v : Value) (ho : o.op = .load ty x) (hx : evS t x = .pointer (some a)) (h : (Instr.loadAt ty (.pointer (some a))).run P w = .ok v w) :
    (execOp (evS t) o).run P w = .ok (.value v) w := by
  unfold execOp
  simp only [ho, hx, Sem.run_bind, Sem.run_pure, h, Result.andThen_ok]
theorem run_loadIP {w : World} {a : Addr} {n : Int} (h : w.cell? a = some (.int .i64 n)) : (Instr.loadAt 3 (.pointer (some a))).run Tryd.prog w = .ok (.int .i64 n) w := by
  go_simp
theorem run_loadSP {w : World} {a : Addr} {p : Option Addr} {n c : Nat} (h : w.cell? a = some (.slice p n c)) : (Instr.loadAt 23 (.pointer (some a))).run Tryd.prog w = .ok (.slice p n c) w := by
  go_simp
theorem execLoadRowP {P : Program} {o : Oper} {t : Array Value} {x : Operand} {w : World} (ty : TypeId) (ho : o.op = .load ty x) (g : Nat) (hx : evS t x = .pointer (some ⟨g, 0, none⟩)) (C : Array Value) (T : TypeId) (d : TypeDesc) (hg : Rowz w g C T)
    (hu : P.underlying ty = some d) (hd : (match d with | .struct _ | .array _ _ => true | _ => false) = true) (hi : (P.info? ty).map (·.size) = some C.size) : (execOp (evS t) o).run P w = .ok (.value (.agg C)) w := by
  unfold execOp
  simp only [ho, hx, Instr.loadAt, Instr.sureAddr, Sem.run_bind, Sem.run_pure, Result.andThen_ok, run_loadVar_row w g T ty C (0, 0) d hg hu hd hi]
theorem wpList_execP {P : Program} {ops : Array Oper} {rest : List Oper} {o : Oper} {t : Array Value} {ds : List Deferred} {w : World} {Q : Exit → Act → World → Prop} (d : Nat) (hd : o.dst = some d) (hw : Region.wanted o (yielded ops t) = true) (v : Value) (w' : World)
    (hx : (execOp (evS t) o).run P w = .ok (.value v) w') (h : wpList P ops Q rest ⟨t.setIfInBounds d v, ds⟩ w') : wpList P ops Q (o :: rest) ⟨t, ds⟩ w := by
  have e : (Act.mk t ds).put o.dst v = ⟨t.setIfInBounds d v, ds⟩ := by rw [hd]; rfl
  rw [← e] at h
  rw [wpList, if_pos hw]
  left
  unfold Oper.wp
  rw [evS_eq, hx]
  exact h
theorem park_noneP {P : Program} {ops : Array Oper} {Q : Exit → Act → World → Prop} {o : Oper} {rest : List Oper} {a : Act} {w : World} (_ : o.dst = none) (h : Parked (wpList P ops Q (o :: rest) a w)) : wpList P ops Q (o :: rest) a w := h.out
/-- An operation of a drawn statement taken first, by its whole run. -/
theorem takeP {P : Program} {ops : Array Oper} {Q : Exit → Act → World → Prop} {S : World → Prop} (i d : Nat) (v : Value) {oi : Oper} {fuel : Nat} {listed : Array Bool} {tmps : Array Value} {defers} {w : World} (hi : ops[i]? = some oi) (hd : oi.dst = some d)
    (hs : Region.noSelect ops = true) (hf : Region.free .any ops listed i = true) (hr : (Region.ready .any ops listed).contains i = true) (hg : Region.wanted oi (yielded ops tmps) = true)
    (hQ : ∀ c a w, Q (.panic c) (a.put oi.dst v) w → Q (.panic c) a w) (hS : S w) (hx : ∀ w', S w' → (execOp (evS tmps) oi).run P w' = .ok (.value v) w')
    (h : wpAnyH P .any ops Q S fuel (listed.setIfInBounds i true) ⟨tmps.setIfInBounds d v, defers⟩ w) : wpAnyH P .any ops Q S (fuel + 1) listed ⟨tmps, defers⟩ w := by
  refine wpAnyH_take hi hs hf hr hQ (.inl ⟨hg, fun w' hw' => by rw [evS_eq]; exact hx w' hw'⟩) hS ?_
  have e : (Act.mk tmps defers).put oi.dst v = ⟨tmps.setIfInBounds d v, defers⟩ := by rw [hd]; rfl
  rw [e]
  exact h
theorem results_rowP {P : Program} {fn : Func} {p : Tmp} {ty : TypeId} (h : fn.results = #[.cell p ty]) (tmps : Array Value) (w : World) (g : Nat) (t : TypeId) (cs : Array Value) (d : TypeDesc)
    (hp : tmps.getD p undef = .pointer (some ⟨g, 0, none⟩)) (hg : Rowz w g cs t)
    (hu : P.underlying ty = some d) (hd : (match d with | .struct _ | .array _ _ => true | _ => false) = true) (hi : (P.info? ty).map (·.size) = some cs.size) :
    (results fn tmps).run P w = .ok (.agg cs) w := by
  have hp' : tmps[p]?.getD undef = .pointer (some ⟨g, 0, none⟩) := by simpa using hp
  simp [results, h, hp', asAddr, run_loadVar_row w g t ty cs (0, 0) d hg hu hd hi]
theorem results_row_rowP {P : Program} {fn : Func} {p u : Tmp} {ty ty2 : TypeId} (h : fn.results = #[.cell p ty, .cell u ty2]) (tmps : Array Value) (w : World) (g g2 : Nat) (t t2 : TypeId) (cs cs2 : Array Value) (d d2 : TypeDesc)
    (hp : tmps.getD p undef = .pointer (some ⟨g, 0, none⟩)) (hp2 : tmps.getD u undef = .pointer (some ⟨g2, 0, none⟩)) (hg : Rowz w g cs t) (hg2 : Rowz w g2 cs2 t2)
    (hu : P.underlying ty = some d) (hd : (match d with | .struct _ | .array _ _ => true | _ => false) = true) (hi : (P.info? ty).map (·.size) = some cs.size)
    (hu2 : P.underlying ty2 = some d2) (hd2 : (match d2 with | .struct _ | .array _ _ => true | _ => false) = true) (hi2 : (P.info? ty2).map (·.size) = some cs2.size) :
    (results fn tmps).run P w = .ok (.tuple #[.agg cs, .agg cs2]) w := by
  have hp' : tmps[p]?.getD undef = .pointer (some ⟨g, 0, none⟩) := by simpa using hp
  have hp2' : tmps[u]?.getD undef = .pointer (some ⟨g2, 0, none⟩) := by simpa using hp2
  simp [results, h, hp', hp2', asAddr, run_loadVar_row w g t ty cs (0, 0) d hg hu hd hi, run_loadVar_row w g2 t2 ty2 cs2 (0, 0) d2 hg2 hu2 hd2 hi2, Result.andThen]
theorem execLoadP {o : Oper} {t : Array Value} {x : Operand} {w : World} {g : Nat} {f n : Int} {p : Option Addr} {K c : Nat} (ho : o.op = .load 62 x) (hx : evS t x = .pointer (some ⟨g, 0, none⟩)) (hg : Rowz w g (paC f n p K c) 62) :
    (execOp (evS t) o).run Tryd.prog w = .ok (.value (.agg (paC f n p K c))) w :=
  execLoadRowP 62 ho g hx (paC f n p K c) 62 _ hg Tryd.underlying62 rfl (by rw [paC_size]; kernel_rfl)
theorem execMoveP {P : Program} {o : Oper} {t : Array Value} {x : Operand} {v : Value} (w : World) (ho : o.op = .move x ∨ o.op = .assign x) (hx : evS t x = v) : (execOp (evS t) o).run P w = .ok (.value v) w := by
  unfold execOp
  rcases ho with h | h <;> rw [h] <;> simp [hx]
theorem execSliceP {P : Program} {o : Oper} {t : Array Value} {x : Operand} {ty : TypeId} {lo hi mx : Option Operand} {w : World} (u v : Value) (lo' hi' mx' : Option Value) (ho : o.op = .slice ty x lo hi mx) (hx : evS t x = u) (hlo : lo.map (evS t) = lo') (hhi : hi.map (evS t) = hi') (hmx : mx.map (evS t) = mx')
    (h : (Instr.sliceAt ty u lo' hi' mx').run P w = .ok v w) : (execOp (evS t) o).run P w = .ok (.value v) w := by
  unfold execOp
  simp only [ho, hx, hlo, hhi, hmx, Sem.run_bind, Sem.run_pure, h, Result.andThen_ok]
theorem execSubI {o : Oper} {t : Array Value} {x y : Operand} (a b : Nat) (hb : b ≤ a) (ha : a ≤ 9223372036854775807) (w : World) (ho : o.op = .binOp .sub 3 x y 3) (hx : evS t x = .int .i64 (a : Int)) (hy : evS t y = .int .i64 (b : Int)) :
    (execOp (evS t) o).run Tryd.prog w = .ok (.value (.int .i64 ((a - b : Nat) : Int))) w := by
  have e : IntKind.i64.wrap ((a : Int) - (b : Int)) = ((a - b : Nat) : Int) := by simp only [IntKind.wrap, IntKind.signed, IntKind.bits]; simp; omega
  unfold execOp
  rw [ho]
  simp only [hx, hy]
  go_simp
theorem execBuildP {o : Oper} {t : Array Value} {x y z : Operand} (f n : Int) (p : Option Addr) (K c : Nat) (w : World) (ho : o.op = .build 62 #[(0, x), (1, y), (2, z)]) (hx : evS t x = .int .i64 f) (hy : evS t y = .int .i64 n) (hz : evS t z = .slice p K c) :
    (execOp (evS t) o).run Tryd.prog w = .ok (.value (.agg (paC f n p K c))) w := by
  unfold execOp
  rw [ho]
  simp only [List.map_toArray, List.map_cons, List.map_nil, hx, hy, hz]
  kernel_rfl
end Go.Proofs.YtggpjhldmaflaaaDoor
