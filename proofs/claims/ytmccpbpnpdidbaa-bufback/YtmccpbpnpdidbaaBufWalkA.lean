/-
  Contracts of buf: New, Raw, Len, Bytes. Conditions: a length fits in memory.
-/
import Derived.Test.YtmccpbpnpdidbaaNumWalkA
import Derived.Test.YtmccpbpnpdidbaaCurWalkA
import Derived.Lib.AppendStr
namespace Go.Proofs.Ytmccpbpnpdidbaa
open Go.RowKit

/-- Block g is a Buf whose bytes are s; they lie in block r (or nowhere yet). -/
def BufAt (w : World) (g : Nat) (r : Option Nat) (s : ByteArray) : Prop :=
  ∃ v, Rowz w g #[v] 29 ∧ w.ownsRow 0 5 1 v s.size (Lib.strCells s) ∧ v.ownBlock = r ∧ r ≠ some g
/-- From w to w' nothing but blocks g and r was written, and new memory; the bytes lie in r' now. -/
def Wrote (g r : Option Nat) (w : World) (r' : Option Nat) (w' : World) : Prop :=
  (w'.os = w.os ∧ w'.output = w.output ∧ w.heap.size ≤ w'.heap.size) ∧ (∀ i, i < w.heap.size → some i ≠ g → some i ≠ r → w'.heap[i]? = w.heap[i]?) ∧ (r' = r ∨ ∃ k, r' = some k ∧ w.heap.size ≤ k)
theorem Wrote.refl (g r : Option Nat) (w : World) : Wrote g r w r w := ⟨⟨rfl, rfl, Nat.le_refl _⟩, fun _ _ _ _ => rfl, .inl rfl⟩
theorem Wrote.trans {g r r1 r2 : Option Nat} {w w1 w2 : World} (h : Wrote g r w r1 w1) (k : Wrote g r1 w1 r2 w2) : Wrote g r w r2 w2 := by
  obtain ⟨⟨a1, a2, a3⟩, b, c⟩ := h
  obtain ⟨⟨x1, x2, x3⟩, y, z⟩ := k
  refine ⟨⟨x1.trans a1, x2.trans a2, Nat.le_trans a3 x3⟩, fun i hi hg hr => ?_, ?_⟩
  · rw [y i (by omega) hg ?_, b i hi hg hr]
    rcases c with rfl | ⟨k, rfl, hk⟩
    · exact hr
    · intro e; have := Option.some.inj e; omega
  · rcases z with rfl | ⟨k, rfl, hk⟩
    · exact c
    · exact .inr ⟨k, rfl, by omega⟩
theorem Wrote.ofKept {g r : Option Nat} {w w' : World} (h : Kept w w') : Wrote g r w r w' := ⟨⟨h.1, h.2.1, h.size⟩, fun i hi _ _ => h.block i hi, .inl rfl⟩
theorem Wrote.size {g r r' : Option Nat} {w w' : World} (h : Wrote g r w r' w') : w.heap.size ≤ w'.heap.size := h.1.2.2
/-- All of it lies above base. -/
def Over (base : Nat) (g r : Option Nat) : Prop := ∀ k, (g = some k ∨ r = some k) → base ≤ k
theorem Over.wrote {base : Nat} {g r r' : Option Nat} {w w' : World} (h : Over base g r) (k : Wrote g r w r' w') (hb : base ≤ w.heap.size) : Over base g r' := by
  intro i hi
  rcases hi with hi | hi
  · exact h i (.inl hi)
  · rcases k.2.2 with e | ⟨j, e, hj⟩
    · exact h i (.inr (e ▸ hi))
    · have := Option.some.inj (e.symm.trans hi); omega
theorem Wrote.kept {g r r' : Option Nat} {w0 w w' : World} (h : Wrote g r w r' w') (K : Kept w0 w) (ho : Over w0.heap.size g r) : Kept w0 w' := by
  refine Kept.of (h.1.1.trans K.1) (h.1.2.1.trans K.2.1) fun i hi => ?_
  rw [h.2.1 i (Nat.lt_of_lt_of_le hi K.size) (fun e => by have := ho i (.inl e.symm); omega) (fun e => by have := ho i (.inr e.symm); omega), K.block i hi]
theorem Rowz.wrote {g r r' : Option Nat} {w w' : World} {b : Nat} {C : Array Value} {T : TypeId} (h : Rowz w b C T) (k : Wrote g r w r' w') (hg : some b ≠ g) (hr : some b ≠ r) : Rowz w' b C T := (k.2.1 b h.lt hg hr).trans h
theorem BufAt.kept {w w' : World} {g : Nat} {r : Option Nat} {s : ByteArray} (h : BufAt w g r s) (k : Kept w w') : BufAt w' g r s := by
  obtain ⟨v, h1, h2, h3, h4⟩ := h
  exact ⟨v, h1.kept k, ownsRow_kept h2 k, h3, h4⟩
theorem BufAt.lt {w : World} {g : Nat} {r : Option Nat} {s : ByteArray} (h : BufAt w g r s) : g < w.heap.size ∧ ∀ k, r = some k → k < w.heap.size := by
  obtain ⟨v, h1, h2, rfl, _⟩ := h
  refine ⟨h1.lt, fun k hk => ?_⟩
  exact (h2.lt k hk).2
theorem BufAt.other {w w' : World} {g : Nat} {r : Option Nat} {s : ByteArray} {G R R' : Option Nat} (h : BufAt w g r s) (k : Wrote G R w R' w') (hs : ∀ i, (i = g ∨ r = some i) → some i ≠ G ∧ some i ≠ R) : BufAt w' g r s := by
  obtain ⟨v, h1, h2, rfl, h4⟩ := h
  refine ⟨v, h1.wrote k (hs g (.inl rfl)).1 (hs g (.inl rfl)).2, ⟨h2.1, ?_⟩, rfl, h4⟩
  rcases h2.2 with h | ⟨b, cap, cur, hv, hb, hg, e1, e2, e3, e4⟩
  · exact .inl h
  · have hb' := hs b (.inr (by rw [hv]; rfl))
    exact .inr ⟨b, cap, cur, hv, hb, Rowz.wrote (T := 5) hg k hb'.1 hb'.2, e1, e2, e3, e4⟩

def catB (s : ByteArray) (xs : List ByteArray) : ByteArray := xs.foldl (· ++ ·) s
theorem catB_step (s : ByteArray) (xs : List ByteArray) (k : Nat) (x : ByteArray) (h : xs[k]? = some x) : catB s (xs.take (k + 1)) = catB s (xs.take k) ++ x := by
  rw [List.take_add_one, h]
  simp [catB]
theorem catB_le : ∀ (xs : List ByteArray) (s : ByteArray), s.size ≤ (catB s xs).size
  | [], s => Nat.le_refl _
  | x :: xs, s => by
    have := catB_le xs (s ++ x)
    rw [ByteArray.size_append] at this
    show s.size ≤ (catB (s ++ x) xs).size
    omega
theorem catB_take (xs : List ByteArray) (s : ByteArray) (k : Nat) : (catB s (xs.take k)).size ≤ (catB s xs).size := by
  have h : catB s xs = catB (catB s (xs.take k)) (xs.drop k) := by
    rw [catB, catB, catB, ← List.foldl_append, List.take_append_drop]
  rw [h]
  exact catB_le _ _
theorem strCells_append (a b : ByteArray) : Lib.strCells (a ++ b) = Lib.strCells a ++ Lib.strCells b := by
  simp [Lib.strCells, ByteArray.data_append]

theorem bufInfo8 : ∃ i, Try.prog.info? 5 = some i ∧ i.zero = some (.int .u8 0) ∧ i.size = 1 ∧ i.bytes = 1 := ⟨_, rfl, rfl, rfl, rfl⟩

/-- 'append(b.bytes, s...)' on a buffer's bytes. -/
theorem wpList_append_buf {w : World} {ops : Array Oper} {rest : List Oper} {o : Oper} {a : Act} {Q : Exit → Act → World → Prop} (hgd : o.guard = none) (sl x : Operand)
    (ho : o.op = .call { callee := .builtin .append, args := #[sl, x], argTypes := #[27, 9] }) (v : Value) (s y : ByteArray) (hs : a.eval sl = v) (hx : a.eval x = .string y)
    (hown : Hid (w.ownsRow 0 5 1 v s.size (Lib.strCells s))) (hb : (s ++ y).size ≤ 140737488355328)
    (h : ∀ p m cp w', Hid (w'.ownsRow 0 5 1 (.slice p m cp) (s ++ y).size (Lib.strCells (s ++ y))) → Hid (w.grownBy w' v.ownBlock) → Hid ((Value.slice p m cp).ownBlock = v.ownBlock ∨ ∃ k, (Value.slice p m cp).ownBlock = some k ∧ w.heap.size ≤ k ∧ k < w'.heap.size) → wpList Try.prog ops Q rest (a.put o.dst (.slice p m cp)) w') : wpList Try.prog ops Q (o :: rest) a w := by
  obtain ⟨i, hi, hz, h1, h2⟩ := bufInfo8
  rw [ByteArray.size_append] at hb
  refine wpList_plain hgd fun K hK => ?_
  obtain ⟨v', w', hr, q2, q3, q4⟩ := Lib.run_append_own_string (P := Try.prog) w 0 27 9 o.type 5 i Try.underlying27 Try.underlying9 hi hz h1 h2 v s.size (Lib.strCells s) hown.out y (by simp only [maxLen]; omega) hb (Nat.zero_le _)
  have hq : v'.ownBlock = v.ownBlock ∨ ∃ k, v'.ownBlock = some k ∧ w.heap.size ≤ k ∧ k < w'.heap.size := by
    have hk : ∀ k, v'.ownBlock = some k → k < w'.heap.size := fun k hk => (q2.lt k hk).2
    rcases hown.out.2 with ⟨rfl, h0⟩ | ⟨g, cap, cur, rfl, _, hg, hnc, hcm, hcs, htake⟩
    · obtain ⟨v2, w2, hr2, p2, _, _⟩ := Lib.run_append_own_string (P := Try.prog) w w.heap.size 27 9 o.type 5 i Try.underlying27 Try.underlying9 hi hz h1 h2 (.slice none 0 0) s.size (Lib.strCells s) ⟨hown.out.1, .inl ⟨rfl, h0⟩⟩ y (by simp only [maxLen]; omega) hb (Nat.le_refl _)
      have e := hr.symm.trans hr2
      injection e with e1 e2
      subst e1 e2
      cases hv : v'.ownBlock with
      | none => exact .inl rfl
      | some k => exact .inr ⟨k, rfl, (p2.lt k hv).1, hk k hv⟩
    · by_cases hroom : s.size + y.size ≤ cap
      · have hr2 := Lib.run_append_room_string (P := Try.prog) w 27 9 o.type 5 i Try.underlying27 Try.underlying9 hi h1 g s.size cap cur hg y hroom (Nat.le_trans hroom (Nat.le_of_eq (by simpa using hcs.symm)))
        have e := hr.symm.trans hr2
        injection e with e1 e2
        exact .inl (by rw [e1]; rfl)
      · have holds : ∀ j u, (Lib.strCells s)[j]? = some u → w.cell? ((⟨g, 0, none⟩ : Addr).add j) = some u := hown.out.cells (g := g) rfl
        have hr2 := Lib.run_append_grow_string (P := Try.prog) w 27 9 o.type 5 i (.int .u8 0) Try.underlying27 Try.underlying9 hi hz ⟨g, 0, none⟩ s.size cap (Lib.strCells s) (by rw [h1, Lib.strCells_length, Nat.mul_one]) holds y (by omega) (by omega) (by rw [h2]; exact growslice_fits (by omega) (by omega))
        have e := hr.symm.trans hr2
        injection e with e1 e2
        have : v'.ownBlock = some w.heap.size := by rw [e1]; rfl
        exact .inr ⟨_, this, Nat.le_refl _, hk _ this⟩
  unfold Oper.wp execOp
  simp only [ho, resolve, invoke, builtin, Sem.run_bind, Sem.run_pure, Result.andThen_ok, List.map_toArray, List.map_cons, List.map_nil, hs, hx, hr]
  obtain ⟨p, m, cp, rfl⟩ : ∃ p m cp, v' = .slice p m cp := by
    rcases q2.2 with ⟨h, _⟩ | ⟨_, _, _, h, _⟩ <;> exact ⟨_, _, _, h⟩
  refine hK _ _ (h p m cp w' (Lib.hid ?_) (Lib.hid q3) (Lib.hid hq))
  rw [ByteArray.size_append, strCells_append]
  exact q2

theorem bufNew_any (w : World) :
    Calls Try.prog 7 #[] w fun e w' => e = .returned (.pointer (some ⟨w.heap.size, 0, none⟩)) ∧ BufAt w' w.heap.size none noB ∧ Grown w w' := by
  go_enter Try.func7, Try.ntmps7
  go_wp2
  go_ret
  exact ⟨rfl, ⟨_, Rowz.new w _ _, World.ownsRow_nil _ _ _ _, rfl, nofun⟩, (Grown.refl w).alloc _ _⟩
theorem bufRaw_nil (v : Value) (w : World) :
    Calls Try.prog 17 #[.pointer none, v] w fun e w' => e = .returned (.tuple #[]) ∧ w = w' := by
  go_enter Try.func17, Try.ntmps17
  go_wp2
  exact ⟨rfl, .tuple #[], results_none Try.results17 _ _ _, rfl, rfl⟩
set_option maxRecDepth 100000 in
theorem bufRaw_at (g : Nat) (r : Option Nat) (s : ByteArray) (bk n c : Nat) (xs : List ByteArray) (w : World) (H : BufAt w g r s) (hn : xs.length = n) (hl : n ≤ 1000) (T : TypeId) (hr : Rowz w bk (xs.map Value.string).toArray T)
    (hg : bk ≠ g) (hr2 : some bk ≠ r) (hs : (catB s xs).size ≤ 140737488355328) :
    Calls Try.prog 17 #[.pointer (some ⟨g, 0, none⟩), .slice (some ⟨bk, 0, none⟩) n c] w fun e w' => e = .returned (.tuple #[]) ∧ ∃ r', BufAt w' g r' (catB s xs) ∧ Wrote (some g) r w r' w' := by
  replace H := Lib.hid H
  have HR := Lib.hid hr
  have HN := Lib.hid hn
  have HS : Hid (∀ k, (catB s (xs.take k)).size ≤ 140737488355328) := Lib.hid fun k => Nat.le_trans (catB_take xs s k) hs
  clear hr hn hs
  go_enter Try.func17, Try.ntmps17
  go_wp2_with fail
  go_loopw [10] (fun i wr => ∃ k : Nat, k ≤ n ∧ i = .int .i64 (k : Int) ∧ ∃ r', Hid (BufAt wr g r' (catB s (xs.take k))) ∧ Hid (Wrote (some g) r w r' wr)) (fun i _ => n - (intOf i).toNat)
  case atStart => exact ⟨0, by omega, rfl, r, H, Lib.hid (Wrote.refl _ _ _)⟩
  case round =>
    clear H
    obtain ⟨k, hk, rfl, r1, H, W⟩ := hrel
    by_cases hlt : k < n
    · have hd : decide ((k : Int) < (n : Int)) = true := decide_eq_true (by omega)
      have hd' : decide (k < n) = true := decide_eq_true (by omega)
      obtain ⟨x, hx⟩ : ∃ x, xs[k]? = some x := ⟨_, List.getElem?_eq_getElem (by rw [HN.out]; omega)⟩
      have hcx : wr.cell? ⟨bk, k, none⟩ = some (.string x) := by
        rw [(HR.out.wrote W.out (by simpa using hg) hr2).cell]
        simp [hx]
      have HX := Lib.hid (catB_step s xs k x hx)
      have HZ : Hid ((catB s (xs.take k) ++ x).size ≤ 140737488355328) := Lib.hid (by rw [← HX.out]; exact HS.out _)
      obtain ⟨v, hv1, hv2, hv3, hv4⟩ := H.out
      have hc0 : wr.cell? ⟨g, 0, none⟩ = some v := hv1.cell 0
      have V1 := Lib.hid hv1
      have V2 := Lib.hid hv2
      have V3 := Lib.hid hv3
      have V4 := Lib.hid hv4
      clear hv1 hv2 hv3 hv4 hx H
      go_wp2_with (refine wpList_append_buf rfl (.tmp 18) (.tmp 19) rfl v (catB s (xs.take k)) x rfl rfl V2 HZ.out ?_; intro p m cp w' A1 A2 A3; have B1 : Hid (Rowz w' g #[v] 29) := Lib.hid ((A2.out.block g V1.out.lt (fun e => V4.out (V3.out.symm.trans e.symm))).trans V1.out); have c0 := B1.out.cell 0; have c1 := B1.out.free 0)
      go_roundw
      case measure => simp [intOf]; omega
      case rel =>
        have hgl := V1.out.lt
        have hne : (Value.slice p m cp).ownBlock ≠ some g := by
          rcases A3.out with e | ⟨j, e, hj, _⟩
          · rw [e, V3.out]; exact V4.out
          · rw [e]; intro h; have := Option.some.inj h; omega
        have hG : w'.grownBy (w'.setCell ⟨g, 0, none⟩ (.slice p m cp)) (some g) := ⟨rfl, rfl, rfl, by simp, fun i _ hn => heap_setCell_other w' _ i _ (fun h => hn (by rw [h]))⟩
        refine ⟨k + 1, by omega, by go_num, _, Lib.hid ⟨_, B1.out.set 0 _, ?_, rfl, hne⟩, Lib.hid (W.out.trans ⟨⟨A2.out.os, A2.out.output, Nat.le_trans A2.out.size (by simp)⟩, ?_, ?_⟩)⟩
        · rw [HX.out]
          exact A1.out.kept hG (.inr hne)
        · intro i hi h1 h2
          rw [hG.block i (Nat.lt_of_lt_of_le hi A2.out.size) h1, A2.out.block i hi (by rw [V3.out]; exact h2)]
        · rcases A3.out with e | ⟨j, e, hj, _⟩
          · exact .inl (by rw [e, V3.out])
          · exact .inr ⟨j, e, hj⟩
    · have hd : decide ((k : Int) < (n : Int)) = false := decide_eq_false (by omega)
      have hd' : decide (k < n) = false := decide_eq_false (by omega)
      obtain rfl : k = n := by omega
      go_wp2_with fail
      refine ⟨rfl, .tuple #[], results_none Try.results17 _ _ _, rfl, r1, ?_, W.out⟩
      have h := H.out
      rwa [List.take_of_length_le (by rw [HN.out]; exact Nat.le_refl _)] at h
/-- A Buf, or none: the value V that stands for it; g, r: its blocks. -/
def BufV (w : World) (V : Value) (g r : Option Nat) (s : ByteArray) : Prop := (V = .pointer none ∧ g = none ∧ r = none) ∨ ∃ b, V = .pointer (some ⟨b, 0, none⟩) ∧ g = some b ∧ BufAt w b r s
theorem BufV.nil (w : World) (s : ByteArray) : BufV w (.pointer none) none none s := .inl ⟨rfl, rfl, rfl⟩
theorem BufV.kept {w w' : World} {V : Value} {g r : Option Nat} {s : ByteArray} (h : BufV w V g r s) (k : Kept w w') : BufV w' V g r s := by
  rcases h with h | ⟨b, h1, h2, h3⟩
  · exact .inl h
  · exact .inr ⟨b, h1, h2, h3.kept k⟩
theorem BufV.lt {w : World} {V : Value} {g r : Option Nat} {s : ByteArray} (h : BufV w V g r s) : ∀ k, (g = some k ∨ r = some k) → k < w.heap.size := by
  rcases h with ⟨_, rfl, rfl⟩ | ⟨b, h1, rfl, h3⟩
  · intro k hk; simp at hk
  · intro k hk
    rcases hk with hk | hk
    · rw [← Option.some.inj hk]; exact h3.lt.1
    · exact h3.lt.2 k hk
theorem bufRaw_any (V : Value) (g r : Option Nat) (s : ByteArray) (bk n c : Nat) (xs : List ByteArray) (w : World) (H : BufV w V g r s) (hn : xs.length = n) (hl : n ≤ 1000) (T : TypeId) (hr : Rowz w bk (xs.map Value.string).toArray T)
    (hg : some bk ≠ g) (hr2 : some bk ≠ r) (hs : (catB s xs).size ≤ 140737488355328) :
    Calls Try.prog 17 #[V, .slice (some ⟨bk, 0, none⟩) n c] w fun e w' => e = .returned (.tuple #[]) ∧ ∃ r', BufV w' V g r' (catB s xs) ∧ Wrote g r w r' w' := by
  rcases H with ⟨rfl, rfl, rfl⟩ | ⟨b, rfl, rfl, h3⟩
  · refine (bufRaw_nil _ w).mono ?_
    rintro e w' ⟨rfl, rfl⟩
    exact ⟨rfl, none, BufV.nil _ _, Wrote.refl _ _ _⟩
  · refine (bufRaw_at b r s bk n c xs w h3 hn hl T hr (fun h => hg (by rw [h])) hr2 hs).mono ?_
    rintro e w' ⟨rfl, r', h, k⟩
    exact ⟨rfl, r', .inr ⟨b, rfl, rfl, h⟩, k⟩
/-- Raw of a slice made just now. -/
theorem bufRaw_new (V : Value) (g r : Option Nat) (s : ByteArray) (n : Nat) (xs : List ByteArray) (w : World) (H : BufV w V g r s) (hn : xs.length = n) (hl : n ≤ 1000) (C : Array Value) (hC : C = (xs.map Value.string).toArray) (hs : (catB s xs).size ≤ 140737488355328) :
    Calls Try.prog 17 #[V, .slice (some ⟨w.heap.size, 0, none⟩) n n] (w.alloc (.cells C 9)) fun e w' => e = .returned (.tuple #[]) ∧ ∃ r', BufV w' V g r' (catB s xs) ∧ Wrote g r w r' w' := by
  subst hC
  have hx : ∀ k, (g = some k ∨ r = some k) → k < w.heap.size := H.lt
  refine (bufRaw_any V g r s w.heap.size n n xs _ (H.kept ((Kept.refl w).alloc _)) hn hl 9 (Rowz.new w _ _) (fun h => Nat.lt_irrefl _ (hx _ (.inl h.symm))) (fun h => Nat.lt_irrefl _ (hx _ (.inr h.symm))) hs).mono ?_
  rintro e w' ⟨rfl, r', h, k⟩
  exact ⟨rfl, r', h, Wrote.trans (Wrote.ofKept ((Kept.refl w).alloc _)) k⟩
theorem bufLen_nil (w : World) : Calls Try.prog 9 #[.pointer none] w fun e w' => e = .returned (.int .i64 0) ∧ w = w' := by
  go_enter Try.func9, Try.ntmps9
  go_wp2
  go_ret
  exact ⟨rfl, rfl⟩
theorem bufLen_any (g : Nat) (r : Option Nat) (s : ByteArray) (w : World) (H : BufAt w g r s) :
    Calls Try.prog 9 #[.pointer (some ⟨g, 0, none⟩)] w fun e w' => e = .returned (.int .i64 (s.size : Int)) ∧ w = w' := by
  obtain ⟨v, h1, h2, _, _⟩ := H
  obtain ⟨p, cp, rfl⟩ : ∃ p cp, v = .slice p s.size cp := by
    rcases h2.2 with ⟨h, h0⟩ | ⟨_, _, _, h, _⟩
    · exact ⟨_, _, by rw [h0]; exact h⟩
    · exact ⟨_, _, h⟩
  have h0 : w.cell? ⟨g, 0, none⟩ = some (.slice p s.size cp) := h1.cell 0
  clear h1 h2
  go_enter Try.func9, Try.ntmps9
  go_wp2
  go_ret
  exact ⟨rfl, rfl⟩
theorem bufBytes_nil (w : World) : Calls Try.prog 10 #[.pointer none] w fun e w' => e = .returned (.string noB) ∧ w = w' := by
  go_enter Try.func10, Try.ntmps10
  go_wp2
  go_ret
  exact ⟨rfl, rfl⟩
theorem run_owned_all {w : World} {v : Value} (s : ByteArray) (h : w.ownsRow 0 5 1 v s.size (Lib.strCells s)) : (convert 27 9 v).run Try.prog w = .ok (.string s) w := by
  rcases h.2 with ⟨rfl, h0⟩ | ⟨g, cap, cur, rfl, _, hg, hnc, hcm, hcs, htake⟩
  · rw [size0 h0]
    kernel_rfl
  · have hr : Rowz w g cur 5 := hg
    have h1 := run_strB w g 0 cap s.data.toList (fun j hj => by
      have hc := h.cells (g := g) rfl j (.int .u8 (s.data.toList[j].toNat : Int)) (by rw [Lib.strCells, List.getElem?_map, List.getElem?_eq_getElem hj]; rfl)
      rw [← hc, show (⟨g, 0, none⟩ : Addr).add j = ⟨g, 0 + j, none⟩ by simp [Addr.add]; exact fun h => h.symm])
    exact h1
theorem bufBytes_any (g : Nat) (r : Option Nat) (s : ByteArray) (w : World) (H : BufAt w g r s) :
    Calls Try.prog 10 #[.pointer (some ⟨g, 0, none⟩)] w fun e w' => e = .returned (.string s) ∧ w = w' := by
  obtain ⟨v, h1, h2, _, _⟩ := H
  have h0 : w.cell? ⟨g, 0, none⟩ = some v := h1.cell 0
  have hc := run_owned_all s h2
  clear h1 h2
  go_enter Try.func10, Try.ntmps10
  go_wp2
  go_ret
  exact ⟨rfl, rfl⟩
end Go.Proofs.Ytmccpbpnpdidbaa
