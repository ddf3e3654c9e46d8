/-
  What an argument's data weighs, part by part (Fit); strings, blocks, what a block is made of, and two blocks among a law's arguments. No condition.
-/
import Derived.Test.YtlfkkfacbcpogaaDoorLawLibF
import Derived.Test.YtlfkkfacbcpogaaDoorLawLibJ
import Derived.Test.YtlfkkfacbcpogaaDoorBlkLib
namespace Go.Proofs.YtlfkkfacbcpogaaDoor
set_option maxRecDepth 4000
open Go.ChangeShapes Go.WideShapes Go.ChangeAt Go.RowKit

section
variable {H : Type} {enc : TypeId × Value → H} {W : World}
/-- Each part of what is read weighs no more than the form's reach. -/
def Fit (t : TypeId) (d : DataW H) : Prop := ∀ n ∈ d.weights Tryd.prog t, n ≤ reachBytes
theorem Fit.ofArg {ts : List TypeId} {ds : List (DataW H)} (hsz : (DataW.weightsEach Tryd.prog ts ds).all (· ≤ reachBytes) = true) {J : Nat} {t : TypeId} {d : DataW H} (hT : ts[J]? = some t) (hD : ds[J]? = some d) : Fit t d :=
  fun n hn => of_decide_eq_true (List.all_eq_true.1 hsz _ (DataW.weights_mem_each hT hD n hn))
theorem Fit.field {t : TypeId} {fs : Array Field} {parts : List (DataW H)} (ht : Tryd.prog.underlying t = some (.struct fs)) (h : Fit t (.agg parts)) (i : Nat) {f : Field} {d : DataW H} (hf : fs[i]? = some f) (hd : parts[i]? = some d) : Fit f.type d := by
  intro n hn
  refine h n ?_
  simp only [DataW.weights, ht]
  refine DataW.weights_mem_each (j := i) ?_ hd n hn
  rw [List.getElem?_map, Array.getElem?_toList, hf]; rfl
theorem Fit.elemA {t e : TypeId} {k : Nat} {parts : List (DataW H)} (ht : Tryd.prog.underlying t = some (.array k e)) (h : Fit t (.agg parts)) {d : DataW H} (hd : d ∈ parts) : Fit e d := by
  intro n hn
  refine h n ?_
  simp only [DataW.weights, ht]
  exact mem_weightsAll hn hd
theorem Fit.elem {t e : TypeId} {elems spare : List (DataW H)} (ht : Tryd.prog.underlying t = some (.slice e)) (h : Fit t (.slice elems spare)) {d : DataW H} (hd : d ∈ elems) : Fit e d := by
  intro n hn
  refine h n ?_
  simp only [DataW.weights, ht]
  exact List.mem_cons_of_mem _ (List.mem_append_left _ (mem_weightsAll hn hd))
theorem Fit.str {t : TypeId} {s : List UInt8} (h : Fit t (.lit (.string s) : DataW H)) : s.length ≤ reachBytes := h _ (by rw [DataW.weights]; exact List.mem_singleton.2 rfl)

theorem open_stringsL {sp : Nat → Bool} {held : Bool} {v : Value} {fuel : Nat} {x : DataW H × List MemPlace} (h : DataW.trod enc Tryd.prog W 0 sp held fuel 24 [v] = some x) (hfit : Fit 24 x.1) :
    ∃ (p : Option Addr) (n c : Nat) (S : Nat → ByteArray), (n ≤ c ∧ c ≤ maxLen) ∧ v = .slice p n c ∧ SAt W p n S ∧ ∀ i, i < n → (S i).size ≤ 140737488351232 := by
  rcases Deep.open_strs Tryd.underlying24 Tryd.underlying9 (by kernel_rfl) h with ⟨hcs, _⟩ | ⟨a, len, cap, m, Sx, hcs, _, hl, hm, hmm, hx0, hx⟩
  · obtain rfl : v = .slice none 0 0 := by simpa using hcs
    exact ⟨none, 0, 0, fun _ => ByteArray.empty, ⟨Nat.le_refl _, Nat.zero_le _⟩, rfl, SAt.zero _ _ _, fun i hi => absurd hi (Nat.not_lt_zero i)⟩
  · obtain rfl : v = .slice (some a) len cap := by simpa using hcs
    have hlm : len ≤ m := by rw [hmm]; split <;> omega
    refine ⟨some a, len, cap, Sx, ⟨hl, hm⟩, rfl, fun i hi => ?_, fun i hi => ?_⟩
    · obtain ⟨h1, _⟩ := hx i (by omega)
      refine ⟨a, rfl, ?_, h1⟩
      have := lt_of_cell h1
      rwa [add_block] at this
    · rw [hx0] at hfit
      have := (Fit.elem Tryd.underlying24 hfit (d := .lit (.string (Sx i).data.toList)) (List.mem_map.2 ⟨i, List.mem_range.2 hi, rfl⟩)).str
      simpa [reachBytes] using this
theorem open_hashesL {sp : Nat → Bool} {held : Bool} {v : Value} {fuel : Nat} {x : DataW H × List MemPlace} (h : DataW.trod enc Tryd.prog W 0 sp held fuel 23 [v] = some x) :
    ∃ (p : Option Addr) (n c : Nat) (F : Nat → List UInt8), (n ≤ c ∧ c ≤ maxLen) ∧ v = .slice p n c ∧ HAt W p n F :=
  open_hsliceL Tryd.underlying23 Tryd.underlying31 (by kernel_rfl) Tryd.underlying5 (by kernel_rfl) h
theorem open_hdL {sp : Nat → Bool} {held : Bool} {cs : List Value} {fuel : Nat} {x : DataW H × List MemPlace} (h : DataW.trod enc Tryd.prog W 0 sp held fuel 33 cs = some x) : ∃ y : Hd, y.ok ∧ cs = (hdC y).toList :=
  open_headerL Tryd.underlying33 (by kernel_rfl) ⟨rfl, rfl, rfl, rfl⟩ ⟨by kernel_rfl, by kernel_rfl, by kernel_rfl, by kernel_rfl⟩ Tryd.underlying22 Tryd.underlying31 Tryd.underlying31 Tryd.underlying25 Tryd.underlying5 (by kernel_rfl) h
theorem cells_hdr : Tryd.prog.cellsOf 33 = 66 := by kernel_rfl
theorem cells_strs : Tryd.prog.cellsOf 24 = 1 := by kernel_rfl
theorem cells_blk : Tryd.prog.cellsOf 35 = 67 := by kernel_rfl
theorem fields_blk : ∃ f0 f1 : Field, Tryd.prog.underlying 35 = some (.struct #[f0, f1]) ∧ (f0.type = 33 ∧ f0.offset = 0) ∧ (f1.type = 24 ∧ f1.offset = 66) := ⟨_, _, Tryd.underlying35, ⟨rfl, rfl⟩, ⟨rfl, rfl⟩⟩
theorem open_blkL {sp : Nat → Bool} {held : Bool} {cs : List Value} {fuel : Nat} {x : DataW H × List MemPlace} (h : DataW.trod enc Tryd.prog W 0 sp held fuel 35 cs = some x) (hfit : Fit 35 x.1) :
    ∃ (y : Hd) (p : Option Addr) (n c : Nat) (S : Nat → ByteArray), y.ok ∧ (n ≤ c ∧ c ≤ maxLen) ∧ cs = (bkC y (.slice p n c)).toList ∧ SAt W p n S ∧ ∀ i, i < n → (S i).size ≤ 140737488351232 := by
  obtain ⟨f0, f1, ht, ⟨t0, o0⟩, ⟨t1, o1⟩⟩ := fields_blk
  obtain ⟨xs, m, _, hx, hl, hlen, hf⟩ := DataW.trod_struct ht h
  rw [cells_blk] at hl
  match xs, hlen, hx with
  | [y0, y1], _, hx =>
    have g0 := hf 0 f0 rfl
    have g1 := hf 1 f1 rfl
    rw [t0, o0, cells_hdr, List.drop_zero] at g0
    rw [t1, o1, cells_strs] at g1
    obtain ⟨v, hv⟩ : ∃ v, cs.drop 66 = [v] := by
      have : (cs.drop 66).length = 1 := by simp; omega
      match cs.drop 66, this with
      | [v], _ => exact ⟨v, rfl⟩
    have hcs : cs = cs.take 66 ++ cs.drop 66 := (List.take_append_drop 66 cs).symm
    rw [hv] at g1 hcs
    obtain ⟨y, hy, e0⟩ := open_hdL g0
    have hfit1 : Fit 24 y1.1 := by
      rw [hx] at hfit
      have := hfit.field ht 1 (f := f1) (d := y1.1) rfl rfl
      rwa [t1] at this
    obtain ⟨p, n, c, S, hnc, rfl, hS, hz⟩ := open_stringsL (v := v) g1 hfit1
    refine ⟨y, p, n, c, S, hy, hnc, ?_, hS, hz⟩
    rw [bkC_list, ← e0]
    exact hcs
theorem fields_of : ∃ f0 f1 f2 f3 : Field, Tryd.prog.underlying 27 = some (.struct #[f0, f1, f2, f3]) ∧ (f0.type = 22 ∧ f0.offset = 0) ∧ (f1.type = 23 ∧ f1.offset = 1) ∧ (f2.type = 24 ∧ f2.offset = 2) ∧ (f3.type = 25 ∧ f3.offset = 3) := ⟨_, _, _, _, Tryd.underlying27, ⟨rfl, rfl⟩, ⟨rfl, rfl⟩, ⟨rfl, rfl⟩, ⟨rfl, rfl⟩⟩
theorem open_of {sp : Nat → Bool} {held : Bool} {cs : Array Value} {d : DataW H} {ps : List MemPlace} (h : DataW.Trod enc Tryd.prog W 0 sp held 27 (.agg cs) d ps) (hfit : Fit 27 d) :
    ∃ (a b : Nat) (p : Option Addr) (n c : Nat) (F : Nat → List UInt8) (q : Option Addr) (m k : Nat) (S : Nat → ByteArray), (a < 4294967296 ∧ b < 18446744073709551616) ∧ (n ≤ c ∧ c ≤ maxLen) ∧ (m ≤ k ∧ k ≤ maxLen) ∧
      cs = #[.int .u32 (a : Int), .slice p n c, .slice q m k, .int .u64 (b : Int)] ∧ HAt W p n F ∧ SAt W q m S ∧ ∀ i, i < m → (S i).size ≤ 140737488351232 := by
  obtain ⟨f0, f1, f2, f3, ht, ⟨t0, o0⟩, ⟨t1, o1⟩, ⟨t2, o2⟩, ⟨t3, o3⟩⟩ := fields_of
  obtain ⟨fuel, hf⟩ := h
  obtain ⟨xs, m, _, hx, hl, hlen, hf⟩ := DataW.trod_struct ht hf
  rw [show Tryd.prog.cellsOf 27 = 4 by kernel_rfl] at hl
  have c0 : Tryd.prog.cellsOf 22 = 1 := by kernel_rfl
  have c1 : Tryd.prog.cellsOf 23 = 1 := by kernel_rfl
  have c3 : Tryd.prog.cellsOf 25 = 1 := by kernel_rfl
  have hd : d = .agg (xs.map (·.1)) := congrArg Prod.fst hx
  cases cs with
  | mk L =>
  match xs, hlen, L, hl, hd with
  | [y0, y1, y2, y3], _, [v0, v1, v2, v3], _, hd =>
    have g0 := hf 0 f0 rfl
    have g1 := hf 1 f1 rfl
    have g2 := hf 2 f2 rfl
    have g3 := hf 3 f3 rfl
    simp [t0, t1, t2, t3, o0, o1, o2, o3, c0, c1, cells_strs, c3] at g0 g1 g2 g3
    obtain ⟨z0, e0, _, w0⟩ := DataW.trod_int Tryd.underlying22 g0
    obtain ⟨z3, e3, _, w3⟩ := DataW.trod_int Tryd.underlying25 g3
    have hfit2 : Fit 24 y2.1 := by
      rw [hd] at hfit
      have := hfit.field ht 2 (f := f2) (d := y2.1) rfl rfl
      rwa [t2] at this
    obtain ⟨p, n, c, F, hnc, rfl, hF⟩ := open_hashesL g1
    obtain ⟨q, m', k, S, hmk, rfl, hS, hz⟩ := open_stringsL g2 hfit2
    have b0 := bounds_u32 w0
    have b3 := bounds_u64 w3
    refine ⟨z0.toNat, z3.toNat, p, n, c, F, q, m', k, S, ⟨by omega, by omega⟩, hnc, hmk, ?_, hF, hS, hz⟩
    have n0 : ((z0.toNat : Nat) : Int) = z0 := by omega
    have n3 : ((z3.toNat : Nat) : Int) = z3 := by omega
    rw [n0, n3]
    apply Array.ext'
    show [v0, Value.slice p n c, Value.slice q m' k, v3] = _
    rw [(List.cons.inj e0).1, (List.cons.inj e3).1]
theorem open_blk2 {sp : Nat → Bool} {held : Bool} {cs : Array Value} {d : DataW H} {ps : List MemPlace} (h : DataW.Trod enc Tryd.prog W 0 sp held 40 (.agg cs) d ps) (hfit : Fit 40 d) :
    ∃ (a : Hd) (p : Option Addr) (n c : Nat) (S : Nat → ByteArray) (b : Hd) (q : Option Addr) (m k : Nat) (R : Nat → ByteArray), (a.ok ∧ b.ok) ∧ (n ≤ c ∧ c ≤ maxLen) ∧ (m ≤ k ∧ k ≤ maxLen) ∧
      cs = bkC a (.slice p n c) ++ bkC b (.slice q m k) ∧ (∀ i, i < n → (S i).size ≤ 140737488351232) ∧ (∀ i, i < m → (R i).size ≤ 140737488351232) ∧ SAt W p n S ∧ SAt W q m R := by
  have ht := Tryd.underlying40
  obtain ⟨fuel, hf⟩ := h
  obtain ⟨xs, m, _, hx, hl, hlen, hf⟩ := DataW.trod_array ht hf
  rw [show Tryd.prog.cellsOf 40 = 134 by kernel_rfl] at hl
  have hl' : cs.toList.length = 134 := hl
  have hd : d = .agg (xs.map (·.1)) := congrArg Prod.fst hx
  match xs, hlen, hd with
  | [y0, y1], _, hd =>
    have g0 := hf 0 (by omega)
    have g1 := hf 1 (by omega)
    rw [cells_blk, Nat.zero_mul, List.drop_zero] at g0
    rw [cells_blk, Nat.one_mul] at g1
    rw [hd] at hfit
    have hfit0 : Fit 35 y0.1 := hfit.elemA ht (by simp)
    have hfit1 : Fit 35 y1.1 := hfit.elemA ht (by simp)
    obtain ⟨a, p, n, c, S, ha, hnc, e0, hS, hz⟩ := open_blkL g0 hfit0
    obtain ⟨b, q, m', k, R, hb, hmk, e1, hR, hz'⟩ := open_blkL g1 hfit1
    refine ⟨a, p, n, c, S, b, q, m', k, R, ⟨ha, hb⟩, hnc, hmk, ?_, hz, hz', hS, hR⟩
    apply Array.ext'
    have hz3 : cs.size = 134 := by simpa using hl'
    have e0' : cs.toList.take 67 = (bkC a (.slice p n c)).toList := e0
    have e1' : (cs.toList.drop 67).take 67 = (bkC b (.slice q m' k)).toList := e1
    rw [List.take_of_length_le (by simp; omega)] at e1'
    rw [Array.toList_append, ← e0', ← e1']
    exact (List.take_append_drop 67 cs.toList).symm
end
end Go.Proofs.YtlfkkfacbcpogaaDoor
