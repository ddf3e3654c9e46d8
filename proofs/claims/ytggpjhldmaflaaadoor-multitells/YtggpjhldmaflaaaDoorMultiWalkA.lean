/-
  Contracts of multi.part's beside, slices.Clone at integers, multi.Open. Conditions: at most a million leaves of at most a million bytes, a million places; sizes fit; sha's table of round constants stands.
-/
import Derived.Test.YtggpjhldmaflaaaDoorMultiApp
import Derived.Test.YtggpjhldmaflaaaDoorMultiWalkN
import Derived.Test.YtggpjhldmaflaaaDoorMultiForm
namespace Go.Proofs.YtggpjhldmaflaaaDoor
set_option maxRecDepth 4000
open Go.RowKit

def BesideOk (F : FuncId) (n : Nat) : Prop := ∀ (Q : Nat → Bool) (f K : Nat) (Pl : Nat → Int) (p : Option Addr) (c : Nat) (G : Nat → List UInt8) (pL : Option Addr) (N cL : Nat) (v : Value) (L : List (List UInt8)) (b : Nat) (W w : World),
    PartQ Q f n K Pl → IAt W p K Pl → K ≤ c → K ≤ 1000000 → 0 < n → f + n ≤ N → N ≤ cL → cL ≤ maxLen → N ≤ 1000000 → HAt W pL N G → Tab W → PaS b L v w → W.heap.size ≤ b → b ≤ w.heap.size → L.length + n ≤ 100000000 → Kept W w →
    Calls Tryd.prog F #[.agg (paC f n p K c), .slice pL N cL, v] w fun e w' => ∃ v', e = .returned v' ∧ PaS b (L ++ besN G Q f n) v' w' ∧ Past b w w'
set_option maxRecDepth 100000 in
set_option maxHeartbeats 4000000 in
theorem partBeside_any (n : Nat) : BesideOk 28 n := by
  induction n using Nat.strongRecOn with
  | _ n ih =>
    intro Q f K Pl p c G pL N cL v L b W w hP hI hK hK6 hn hf hN hcL hN6 hG ht hv hWb hbw hLn hk
    have HC : Hid (∀ w, _) := Lib.hid fun w => partClosed_any f n p K c w
    have R1 := Lib.hid (Rowz.new w (paC f n p K c) 62)
    have K1 := Lib.hid ((Kept.refl w).alloc (.cells (paC f n p K c) 62))
    obtain ⟨q, rfl, _⟩ := hG.some (by omega)
    have hh := hP.has
    have HK := Lib.hid hk
    have HV := Lib.hid hv
    have HT := Lib.hid ht
    have HWb := Lib.hid hWb
    have HBW := Lib.hid hbw
    by_cases h0 : K = 0
    · rw [decide_eq_false (by omega)] at hh
      rw [decide_eq_true h0] at HC
      rw [besN_none G hh]
      have hcut : Hid (∀ w, (Instr.sliceAt 26 (.slice (some q) N cL) (some (.int .i64 (f : Int))) (some (.int .i64 ((f + n : Nat) : Int))) none).run Tryd.prog w = .ok (.slice (some (q.add (f * 32))) n (cL - f)) w) := Lib.hid fun w => by
        have := run_cutH_mid q N cL f (f + n) w (by omega) (by omega) (by omega)
        rwa [Nat.add_sub_cancel_left] at this
      have HTp : Hid (∀ w, Kept W w → _) := Lib.hid fun w hk => treeTop_any n (some (q.add (f * 32))) (cL - f) (fun i => G (f + i)) w (by omega) (by omega) (((hG.right f (by omega)).left n (by omega)).kept hk) (ht.kept hk)
      have hadd : IntKind.i64.wrap ((f : Int) + (n : Int)) = ((f + n : Nat) : Int) := by simp only [IntKind.wrap, IntKind.signed, IntKind.bits]; simp; omega
      have HLn : Hid (L.length ≤ 1000000000) := Lib.hid (by omega)
      clear ih hP hI hh h0 hG ht hv hk hWb hbw
      generalize topN (fun j => G (f + j)) n = A at HTp ⊢
      go_enter Tryd.func28, Tryd.ntmps28
      go_wp2_with (refine park_at 10 rfl ?_)
      change Parked (wpList _ _ _ _ _ (w.alloc (.cells (paC f n p K c) 62)))
      generalize w.alloc (.cells (paC f n p K c) 62) = v1 at R1 K1 ⊢
      refine unpark ?_
      refine wpList_execP 10 rfl (by rfl) (.agg (paC f n p K c)) _ (execLoadP rfl rfl R1.out) ?_
      go_wp2_with fail
      refine (HC.out v1).mono ?_
      rintro e v2 ⟨rfl, k1⟩
      replace K1 := Lib.hid (K1.out.trans k1)
      replace R1 := Lib.hid (R1.out.kept k1)
      have c0 : v2.cell? ⟨w.heap.size, 0, none⟩ = some (.int .i64 f) := R1.out.cell 0
      have c1 : v2.cell? ⟨w.heap.size, 1, none⟩ = some (.int .i64 n) := R1.out.cell 1
      clear k1 HC
      go_wp2_with (refine park_at 21 rfl ?_)
      refine unpark ?_
      refine wpList_execP 21 rfl (by rfl) (.slice (some (q.add (f * 32))) n (cL - f)) _ (execSliceP _ _ _ _ _ rfl rfl rfl rfl rfl (hcut.out v2)) ?_
      clear c0 c1
      go_wp2_with fail
      refine (HTp.out v2 (HK.out.trans K1.out)).mono ?_
      rintro e v3 ⟨rfl, k3⟩
      replace K1 := Lib.hid (K1.out.trans k3)
      clear k3 HTp R1 hcut
      go_wp2_with (refine park_at 23 rfl ?_)
      refine unpark ?_
      refine wpList_exec 23 rfl (by rfl) (.slice (some ⟨v3.heap.size, 0, none⟩) 1 1) (v3.alloc (.cells (bC 32 A) 38)) (execBuild1 rfl rfl (run_build1h _ _)) ?_
      have RN := Lib.hid (Rowz.new v3 (bC 32 A) 38)
      replace K1 := Lib.hid (K1.out.alloc (.cells (bC 32 A) 38))
      have V1 := Lib.hid (PaS.kept _ _ _ _ _ K1.out HV.out)
      have HB3 := Lib.hid (Nat.le_trans HBW.out K1.out.size)
      generalize v3.alloc (.cells (bC 32 A) 38) = v4 at K1 RN V1 HB3 ⊢
      go_wp2_with (at_builtin; refine wpList_append_pathU rfl _ _ rfl b HB3 _ L _ rfl V1 rfl RN HLn ?_; intro v' w' O4 G4 B4 P4)
      go_ret
      exact ⟨_, rfl, O4.out, (Past.ofKept K1.out).trans P4.out⟩
    · rw [decide_eq_true (by omega)] at hh
      rw [decide_eq_false h0] at HC
      by_cases h2 : n < 2
      · obtain rfl : n = 1 := by omega
        rw [besN_one G hh h2, List.append_nil]
        clear ih hP hI hh h0 hG ht hv hk hWb hbw
        go_enter Tryd.func28, Tryd.ntmps28
        go_wp2_with (refine park_at 10 rfl ?_)
        change Parked (wpList _ _ _ _ _ (w.alloc (.cells (paC f (1 : Nat) p K c) 62)))
        generalize w.alloc (.cells (paC f (1 : Nat) p K c) 62) = v1 at R1 K1 ⊢
        refine unpark ?_
        refine wpList_execP 10 rfl (by rfl) (.agg (paC f (1 : Nat) p K c)) _ (execLoadP rfl rfl R1.out) ?_
        go_wp2_with fail
        refine (HC.out v1).mono ?_
        rintro e v2 ⟨rfl, k1⟩
        replace K1 := Lib.hid (K1.out.trans k1)
        have c1 : v2.cell? ⟨w.heap.size, 1, none⟩ = some (.int .i64 (1 : Nat)) := (R1.out.kept k1).cell 1
        clear k1 R1
        go_wp2_with fail
        go_ret
        exact ⟨_, rfl, PaS.kept _ _ _ _ _ K1.out HV.out, Past.ofKept K1.out⟩
      · have h0' : 0 < K := by omega
        have hp := leftN_pos (n := n) (by omega)
        have hl := leftN_lt (n := n) (by omega)
        have HS : Hid (∀ w, Kept W w → _) := Lib.hid fun w hk => partSides_any Q f n K Pl p c w hP (by omega) h0' (hI.kept hk) hK hK6 (by omega)
        have b1 := besN_length G Q (leftN n) f
        have b2 := needN_le Q (leftN n) f hp
        have HI1 : Hid (∀ k, k ≤ K → PartQ Q f (leftN n) k Pl → ∀ w, b ≤ w.heap.size → PaS b L v w → Kept W w → _) := Lib.hid fun k hk' h w hb hv hk => ih (leftN n) hl Q f k Pl p c G (some q) N cL v L b W w h (hI.left k hk') (by omega) (by omega) hp (by omega) hN hcL hN6 hG ht hv hWb hb (by omega) hk
        have HI2 : Hid (∀ k p', k ≤ K → PartQ Q (f + leftN n) (n - leftN n) (K - k) (fun i => Pl (k + i)) → IAt W p' (K - k) (fun i => Pl (k + i)) → ∀ v w, b ≤ w.heap.size → PaS b (L ++ besN G Q f (leftN n)) v w → Kept W w → _) := Lib.hid fun k p' hk' h hI v w hb hv hk => ih (n - leftN n) (by omega) Q (f + leftN n) (K - k) (fun i => Pl (k + i)) p' (c - k) G (some q) N cL v (L ++ besN G Q f (leftN n)) b W w h hI (by omega) (by omega) (by omega) (by omega) hN hcL hN6 hG ht hv hWb hb (by rw [List.length_append, b1]; omega) hk
        rw [besN_two G hh (by omega), ← List.append_assoc]
        have hne : ((n : Int) == 1) = false := by simp; omega
        have HI := Lib.hid hI
        have RN : Hid (∀ v : World, Rowz (v.alloc (.cells (paC 0 0 none 0 0) 62)) v.heap.size (paC 0 0 none 0 0) 62) := Lib.hid fun v => Rowz.new v _ _
        clear ih hP hI hh h0 hG ht hv hk hWb hbw b1 b2
        generalize besN G Q f (leftN n) = L1 at HI1 HI2 ⊢
        generalize besN G Q (f + leftN n) (n - leftN n) = L2 at HI2 ⊢
        generalize leftN n = l at hl hp HS HI1 HI2
        go_enter Tryd.func28, Tryd.ntmps28
        go_wp2_with (refine park_at 10 rfl ?_)
        change Parked (wpList _ _ _ _ _ (w.alloc (.cells (paC f n p K c) 62)))
        generalize w.alloc (.cells (paC f n p K c) 62) = v0 at R1 K1 ⊢
        refine unpark ?_
        refine wpList_execP 10 rfl (by rfl) (.agg (paC f n p K c)) _ (execLoadP rfl rfl R1.out) ?_
        go_wp2_with fail
        refine (HC.out v0).mono ?_
        rintro e v1 ⟨rfl, k1⟩
        replace K1 := Lib.hid (K1.out.trans k1)
        replace R1 := Lib.hid (R1.out.kept k1)
        have c1 : v1.cell? ⟨w.heap.size, 1, none⟩ = some (.int .i64 n) := R1.out.cell 1
        clear k1 HC
        go_wp2_with (refine park_at 31 rfl ?_)
        clear c1
        refine unpark ?_
        refine wpList_execP 31 rfl (by rfl) (.agg (paC f n p K c)) _ (execLoadP rfl rfl R1.out) ?_
        go_wp2_with fail
        refine (HS.out v1 (HK.out.trans K1.out)).mono ?_
        rintro e v2 ⟨k, p', rfl, ⟨hk, hp1, hp2, hi2⟩, k2⟩
        have K2 := Lib.hid (K1.out.trans k2)
        have HI1 : Hid (∀ w, b ≤ w.heap.size → PaS b L v w → Kept W w → _) := Lib.hid (HI1.out k hk hp1)
        have HI2 : Hid (∀ v w, b ≤ w.heap.size → PaS b (L ++ L1) v w → Kept W w → _) := Lib.hid (HI2.out k p' hk hp2 (hi2 W HI.out))
        clear R1 K1 k2 HI hi2 hp1 hp2 HS
        go_wp2_with (refine park_noneP rfl ?_)
        have T1 := Lib.hid ((RN.out v2).alloc (.cells (paC 0 0 none 0 0) 62))
        have T2 := Lib.hid (RN.out (v2.alloc (.cells (paC 0 0 none 0 0) 62)))
        have e2 : (v2.alloc (.cells (paC 0 0 none 0 0) 62)).heap.size = v2.heap.size + 1 := by simp
        rw [e2] at T2
        have K3 := Lib.hid (((Kept.refl v2).alloc (.cells (paC 0 0 none 0 0) 62)).alloc (.cells (paC 0 0 none 0 0) 62))
        change Parked (wpList _ _ _ _ _ ((v2.alloc (.cells (paC 0 0 none 0 0) 62)).alloc (.cells (paC 0 0 none 0 0) 62)))
        generalize (v2.alloc (.cells (paC 0 0 none 0 0) 62)).alloc (.cells (paC 0 0 none 0 0) 62) = v3 at T1 T2 K3 ⊢
        clear e2 RN
        refine unpark ?_
        refine wpList_store_row rfl 62 _ _ rfl v2.heap.size (paC f l p k c) rfl rfl 62 (paC 0 0 none 0 0) T1.out (info_part _ _ _ _ _) rfl (paC_one _ _ _ _ _) ?_
        have U1 := Lib.hid (T1.out.row (D := paC f l p k c))
        have U2 := Lib.hid (T2.out.rowOther (D := paC f l p k c) (k := v2.heap.size) (by omega))
        have K4 := Lib.hid (K3.out.setRow (g := v2.heap.size) (Nat.le_refl _) (paC f l p k c))
        generalize v3.setRow v2.heap.size (paC f l p k c) = v4 at U1 U2 K4 ⊢
        refine wpList_store_row rfl 62 _ _ rfl (v2.heap.size + 1) (paC ((f + l : Nat) : Int) ((n - l : Nat) : Int) p' (K - k) (c - k)) rfl rfl 62 (paC 0 0 none 0 0) U2.out (info_part _ _ _ _ _) rfl (paC_one _ _ _ _ _) ?_
        have V2 := Lib.hid (U2.out.row (D := paC ((f + l : Nat) : Int) ((n - l : Nat) : Int) p' (K - k) (c - k)))
        have V1 := Lib.hid (U1.out.rowOther (D := paC ((f + l : Nat) : Int) ((n - l : Nat) : Int) p' (K - k) (c - k)) (k := v2.heap.size + 1) (by omega))
        have K5 := Lib.hid (K4.out.setRow (g := v2.heap.size + 1) (by omega) (paC ((f + l : Nat) : Int) ((n - l : Nat) : Int) p' (K - k) (c - k)))
        generalize v4.setRow (v2.heap.size + 1) (paC ((f + l : Nat) : Int) ((n - l : Nat) : Int) p' (K - k) (c - k)) = v5 at V1 V2 K5 ⊢
        replace K2 := Lib.hid (K2.out.trans K5.out)
        generalize v2.heap.size = g at V1 V2
        clear T1 T2 K3 U1 U2 K4 K5
        go_wp2_with fail
        have S0 : Rowz v5.drew g (paC f l p k c) 62 ∧ Rowz v5.drew (g + 1) (paC ((f + l : Nat) : Int) ((n - l : Nat) : Int) p' (K - k) (c - k)) 62 := ⟨V1.out, V2.out⟩
        have KD : Kept w v5.drew := K2.out
        refine wp_region_held_drew (S := fun w' => Rowz w' g (paC f l p k c) 62 ∧ Rowz w' (g + 1) (paC ((f + l : Nat) : Int) ((n - l : Nat) : Int) p' (K - k) (c - k)) 62) (by kernel_rfl) S0 (fun _ => ?_)
        clear V1 V2 K2
        generalize v5.drew = y at S0 KD ⊢
        refine takeP 0 35 (.agg (paC ((f + l : Nat) : Int) ((n - l : Nat) : Int) p' (K - k) (c - k))) rfl rfl (by kernel_rfl) (by kernel_rfl) (by kernel_rfl) (by rfl) (fun _ _ _ h => h) S0 (fun w' hw' => execLoadP rfl rfl hw'.2) ?_
        simp only [List.setIfInBounds_toArray, List.set_cons_zero, List.set_cons_succ]
        refine takeP 1 36 (.slice (some q) N cL) rfl rfl (by kernel_rfl) (by kernel_rfl) (by kernel_rfl) (by rfl) (fun _ _ _ h => h) S0 (fun w' hw' => execMoveP w' (Or.inl rfl) rfl) ?_
        simp only [List.setIfInBounds_toArray, List.set_cons_zero, List.set_cons_succ]
        refine takeP 2 37 (.agg (paC f l p k c)) rfl rfl (by kernel_rfl) (by kernel_rfl) (by kernel_rfl) (by rfl) (fun _ _ _ h => h) S0 (fun w' hw' => execLoadP rfl rfl hw'.1) ?_
        simp only [List.setIfInBounds_toArray, List.set_cons_zero, List.set_cons_succ]
        refine takeP 3 38 (.slice (some q) N cL) rfl rfl (by kernel_rfl) (by kernel_rfl) (by kernel_rfl) (by rfl) (fun _ _ _ h => h) S0 (fun w' hw' => execMoveP w' (Or.inl rfl) rfl) ?_
        simp only [List.setIfInBounds_toArray, List.set_cons_zero, List.set_cons_succ]
        refine takeP 4 39 (v) rfl rfl (by kernel_rfl) (by kernel_rfl) (by kernel_rfl) (by rfl) (fun _ _ _ h => h) S0 (fun w' hw' => execMoveP w' (Or.inl rfl) rfl) ?_
        simp only [List.setIfInBounds_toArray, List.set_cons_zero, List.set_cons_succ]
        refine wpAnyH_ready (rs := [5]) (by kernel_rfl) (by simp) (AllReadyH.cons rfl (fun K0 hK0 => ?_) AllReadyH.nil)
        rw [if_pos (by rfl)]
        go_simp
        refine (HI1.out y (Nat.le_trans HBW.out KD.size) (PaS.kept _ _ _ _ _ KD HV.out) (HK.out.trans KD)).mono ?_
        rintro e y1 ⟨v1', rfl, hv1, q1⟩
        have KW1 := q1.1 W HWb.out (HK.out.trans KD)
        have S1 := (⟨q1.2.1 _ _ _ S0.1 (.inr (by decide)), q1.2.1 _ _ _ S0.2 (.inr (by decide))⟩ : Rowz y1 g (paC f l p k c) 62 ∧ Rowz y1 (g + 1) (paC ((f + l : Nat) : Int) ((n - l : Nat) : Int) p' (K - k) (c - k)) 62)
        have Q1 := (Past.ofKept (b := b) KD).trans q1
        refine hK0.out _ _ S1 (fun _ => ?_)
        clear hK0 K0 q1
        try simp only [Act.put]
        refine wpAnyH_ready (rs := [6]) (by kernel_rfl) (by simp) (AllReadyH.cons rfl (fun K0 hK0 => ?_) AllReadyH.nil)
        rw [if_pos (by rfl)]
        go_simp
        refine (HI2.out v1' y1 (Nat.le_trans HBW.out Q1.2.2) hv1 KW1).mono ?_
        rintro e y2 ⟨v2', rfl, hv2, q2⟩
        have S2 := (⟨q2.2.1 _ _ _ S1.1 (.inr (by decide)), q2.2.1 _ _ _ S1.2 (.inr (by decide))⟩ : Rowz y2 g (paC f l p k c) 62 ∧ Rowz y2 (g + 1) (paC ((f + l : Nat) : Int) ((n - l : Nat) : Int) p' (K - k) (c - k)) 62)
        have Q2 := Q1.trans q2
        refine hK0.out _ _ S2 (fun _ => ?_)
        clear hK0 K0 q2 Q1 S1 S0 KW1 hv1
        try simp only [Act.put]
        refine takeP 7 6 (v2') rfl rfl (by kernel_rfl) (by kernel_rfl) (by kernel_rfl) (by rfl) (fun _ _ _ h => h) S2 (fun w' hw' => execMoveP w' (Or.inr rfl) rfl) ?_
        simp only [List.setIfInBounds_toArray, List.set_cons_zero, List.set_cons_succ]
        refine wpAnyH_done (by kernel_rfl) ?_ _
        have KF := Lib.hid Q2
        have VF := Lib.hid hv2
        clear Q2 S2 hv2 HI1 HI2
        go_wp2_with fail
        go_ret
        exact ⟨_, rfl, VF.out, KF.out⟩
theorem IAt.setRow {w : World} {p : Option Addr} {n g : Nat} {I : Nat → Int} (h : IAt w p n I) (hne : ∀ a, p = Option.some a → a.block ≠ g) (D : Array Value) : IAt (w.setRow g D) p n I := by
  intro i hi
  obtain ⟨a, hp, hb, hc⟩ := h i hi
  refine ⟨a, hp, by simpa using hb, ?_⟩
  have h1 := hne a hp
  rw [World.cell?_of_block (w := w) (by rw [add_block]; exact setRow_other w g a.block D (by omega))]; exact hc
def inC (K : Nat) (Pl : Nat → Int) : List Value := (List.range K).map fun i => .int .i64 (Pl i)
theorem inC_get {K : Nat} {Pl : Nat → Int} {i : Nat} (hi : i < K) : (inC K Pl)[i]? = some (.int .i64 (Pl i)) := by simp [inC, hi]
theorem run_build0I (w : World) : (Instr.buildSlice 23 0 #[]).run Tryd.prog w = .ok (.slice (some ⟨w.heap.size, 0, none⟩) 0 0) (w.alloc (.cells #[] 3)) := by kernel_rfl
set_option maxRecDepth 100000 in
set_option maxHeartbeats 2000000 in
theorem slicesClone_any (q : Addr) (K c : Nat) (Pl : Nat → Int) (w : World) (hI : IAt w (some q) K Pl) (hK : K ≤ 1000000) (h0 : 0 < K) :
    Calls Tryd.prog 30 #[.slice (some q) K c] w fun e w' => ∃ g cap, e = .returned (.slice (some ⟨g, 0, none⟩) K cap) ∧ (K ≤ cap ∧ cap ≤ maxLen ∧ w.heap.size ≤ g) ∧ IAt w' (some ⟨g, 0, none⟩) K Pl ∧ Kept w w' := by
  obtain ⟨i, hi⟩ : ∃ i, Tryd.prog.info? 3 = some i := Option.isSome_iff_exists.1 (by kernel_rfl)
  have hz : i.zero = some (.int .i64 0) := by
    have h : (Tryd.prog.info? 3).bind (·.zero) = some (.int .i64 0) := by kernel_rfl
    rw [hi] at h; exact h
  have hs : i.size = 1 := by
    have h : (Tryd.prog.info? 3).map (·.size) = some 1 := by kernel_rfl
    rw [hi] at h; exact Option.some.inj h
  have hb : i.bytes = 8 := by
    have h : (Tryd.prog.info? 3).map (·.bytes) = some 8 := by kernel_rfl
    rw [hi] at h; exact Option.some.inj h
  have hnil : (binOp .eql 23 (.slice (some q) K c) (.slice none 0 0)).run Tryd.prog w = .ok (.bool false) w := by kernel_rfl
  replace hi := Lib.hid hi
  replace hz := Lib.hid hz
  replace hs := Lib.hid hs
  replace hb := Lib.hid hb
  have HI := Lib.hid hI
  clear hI
  go_enter Tryd.func30, Tryd.ntmps30
  go_wp2_with (refine park_at 7 rfl ?_)
  have K1 := Lib.hid ((Kept.refl w).alloc (.cells #[] 3))
  have O1 : Hid ((w.alloc (.cells #[] 3)).ownsRow w.heap.size 3 1 (.slice (some ⟨w.heap.size, 0, none⟩) 0 0) 0 []) := Lib.hid (World.ownsRow_made w #[] 0 (Nat.le_refl _) (Nat.zero_le _) rfl)
  change Parked (wpList _ _ _ _ _ (w.alloc (.cells #[] 3)))
  generalize w.alloc (.cells #[] 3) = v1 at K1 O1 ⊢
  refine unpark ?_
  refine wpList_append_own v1 rfl _ _ 23 rfl w.heap.size 3 i (.int .i64 0) 1 8 Tryd.underlying23 hi.out hz.out hs.out hb.out rfl (by decide) _ 0 [] rfl O1.out q K c (inC K Pl) rfl (by simp [inC]) ?_ ?_ (by unfold maxLen; omega) (by omega) K1.out.size ?_
  · intro j u hu
    have hj : j < K := by
      have := (List.getElem?_eq_some_iff.1 hu).1
      simpa [inC] using this
    rw [inC_get hj] at hu
    rw [← Option.some.inj hu]
    exact (HI.out.kept K1.out).cell j hj
  · intro u hu
    obtain ⟨j, _, rfl⟩ := List.mem_map.1 hu
    rfl
  · intro v' w' ho hg _
    have KF := Lib.hid (K1.out.grownBy hg fun k hk' => (O1.out.lt k hk').1)
    rw [Nat.zero_add, List.nil_append] at ho
    obtain ⟨g, cap, cur, rfl, hbg, h1, h2, h3⟩ := owns_row ho h0
    have hcap : cap ≤ maxLen := by
      rcases ho.2 with ⟨h, _⟩ | ⟨_, _, _, h, _, _, _, h4, _⟩
      · cases h
      · injection h with _ _ h; rw [h]; exact h4
    have HA := Lib.hid (IAt.ofRow h2 (fun k hk => by rw [h3 k hk, inC_get hk]))
    clear ho hg h2 h3
    go_wp2_with fail
    go_ret
    exact ⟨g, cap, rfl, ⟨h1, hcap, hbg⟩, HA.out, KF.out⟩
def mnC (N : Int) (p : Option Addr) (K c : Nat) (q : Option Addr) (m d : Nat) : Array Value := #[.int .i64 N, .slice p K c, .slice q m d]
theorem info_many (N : Int) (p : Option Addr) (K c : Nat) (q : Option Addr) (m d : Nat) : (Tryd.prog.info? 28).map (·.size) = some (mnC N p K c q m d).size := by
  show _ = some 3; kernel_rfl
theorem mnC_one (N : Int) (p : Option Addr) (K c : Nat) (q : Option Addr) (m d : Nat) : (mnC N p K c q m d).all (·.oneCell') = true := by simp [mnC, Value.oneCell']
theorem run_build0M (w : World) : (Instr.build 28 #[]).run Tryd.prog w = .ok (.agg (mnC 0 none 0 0 none 0 0)) w := by kernel_rfl
theorem execBuildM {o : Oper} {t : Array Value} {x y z : Operand} (N : Int) (p : Option Addr) (K c : Nat) (q : Option Addr) (m d : Nat) (w : World) (ho : o.op = .build 28 #[(0, x), (1, y), (2, z)]) (hx : evS t x = .int .i64 N) (hy : evS t y = .slice p K c) (hz : evS t z = .slice q m d) :
    (execOp (evS t) o).run Tryd.prog w = .ok (.value (.agg (mnC N p K c q m d))) w := by
  unfold execOp
  rw [ho]
  simp only [List.map_toArray, List.map_cons, List.map_nil, hx, hy, hz]
  kernel_rfl
set_option maxRecDepth 100000 in
set_option maxHeartbeats 4000000 in
theorem multiOpen_any : MultiOpenC 9 := by
  intro p n c S p1 K c1 Pl w hS hc hcm hz hn hI hK hK1 hK6 ht
  have hd0 : decide ((n : Int) > 1048576) = false := decide_eq_false (by omega)
  have HN : Hid (∀ w, IAt w p1 K Pl → _) := Lib.hid fun w h => multiNeed_any (n : Int) p1 K c1 Pl w (by omega) h hK hK1 hK6
  have R1 := Lib.hid (Rowz.new w (mnC 0 none 0 0 none 0 0) 28)
  have K1 := Lib.hid ((Kept.refl w).alloc (.cells (mnC 0 none 0 0 none 0 0) 28))
  have HI := Lib.hid hI
  by_cases hr : risP (n : Int) K Pl
  · obtain ⟨n', e', hn0⟩ := risP_nat hr
    obtain rfl : n' = n := by omega
    simp only [mkE, mkC, mkK, mkL, if_pos hr]
    rw [needI_yes hr] at HN
    have hK0 := hr.1
    obtain ⟨q1, rfl, _⟩ := hI.some hK0
    have HL : Hid (∀ w, SAt w p n' S → Tab w → _) := Lib.hid fun w hS ht => treeLeaves_any p n' c S w hS hz hn ht
    have HW : Hid (∀ w, _) := Lib.hid fun w => multiWhole_any (n' : Int) (some q1) K c1 w
    have HB : Hid (∀ g W w, Rowz W g (hC n' (lf S)) 38 → IAt W (some q1) K Pl → Tab W → Kept W w → Calls Tryd.prog 28 #[.agg (paC 0 n' (some q1) K c1), .slice (some ⟨g, 0, none⟩) n' n', .slice none 0 0] w fun e w' => ∃ v', e = .returned v' ∧ PaS W.heap.size (besN (lf S) (qP K Pl) 0 n') v' w' ∧ Past W.heap.size w w') :=
      Lib.hid fun g W w hg hI ht hk => by
        have := partBeside_any n' (qP K Pl) 0 K Pl (some q1) c1 (lf S) (some ⟨g, 0, none⟩) n' n' (.slice none 0 0) [] W.heap.size W w (PartQ.whole hr) hI hK hK6 hn0 (by omega) (Nat.le_refl _) (by unfold maxLen; omega) hn (HAt.ofRow hg fun i _ => lf_length S i) ht (PaS.nil _ _) (Nat.le_refl _) hk.size (by simp; omega) hk
        exact this
    have HCl : Hid (∀ w, IAt w (some q1) K Pl → _) := Lib.hid fun w h => slicesClone_any q1 K c1 Pl w h hK6 hK0
    have H32 := Lib.hid (besN_32 (lf S) (qP K Pl) n' 0 fun j _ _ => lf_length S j)
    have hlt : ∀ a : Nat, decide ((a : Int) < 0) = false := fun a => decide_eq_false (by omega)
    have hd1 := hlt (needN (qP K Pl) 0 n')
    have HS := Lib.hid hS
    have HT := Lib.hid ht
    clear hS hI hr hz ht hlt e'
    generalize besN (lf S) (qP K Pl) 0 n' = L at HB H32 ⊢
    generalize needN (qP K Pl) 0 n' = nd at HN hd1
    go_enter Tryd.func9, Tryd.ntmps9
    go_wp2_with fail
    change Calls _ _ _ (w.alloc (.cells (mnC 0 none 0 0 none 0 0) 28)) _
    generalize w.alloc (.cells (mnC 0 none 0 0 none 0 0) 28) = v1 at R1 K1 ⊢
    refine (HN.out v1 (HI.out.kept K1.out)).mono ?_
    rintro e v2 ⟨rfl, k2⟩
    replace K1 := Lib.hid (K1.out.trans k2)
    replace R1 := Lib.hid (R1.out.kept k2)
    clear k2 HN
    go_wp2_with fail
    refine (HW.out v2).mono ?_
    rintro e v3 ⟨rfl, k3⟩
    replace K1 := Lib.hid (K1.out.trans k3)
    replace R1 := Lib.hid (R1.out.kept k3)
    clear k3 HW
    go_wp2_with fail
    refine (HL.out v3 (HS.out.kept K1.out) (HT.out.kept K1.out)).mono ?_
    rintro e v4 ⟨g, rfl, rg, k4⟩
    replace K1 := Lib.hid (K1.out.trans k4)
    replace R1 := Lib.hid (R1.out.kept k4)
    have RG := Lib.hid rg
    clear k4 rg HL
    go_wp2_with fail
    refine (HB.out g v4 v4 RG.out (HI.out.kept K1.out) (HT.out.kept K1.out) (Kept.refl _)).mono ?_
    rintro e v5 ⟨v', rfl, hv, k5⟩
    have k5' := k5.1 v4 (Nat.le_refl _) (Kept.refl _)
    have V5 := Lib.hid hv
    have Z4 : Hid (w.heap.size < v4.heap.size) := Lib.hid R1.out.lt
    replace K1 := Lib.hid (K1.out.trans k5')
    replace R1 := Lib.hid (R1.out.kept k5')
    have k5s := Lib.hid k5'.size
    clear k5 k5' hv HB RG
    obtain ⟨q2, d2, rfl⟩ := V5.out.slice
    go_wp2_with fail
    refine (HCl.out v5 (HI.out.kept K1.out)).mono ?_
    rintro e v6 ⟨g6, cap, rfl, hcap, hi6, k6⟩
    replace K1 := Lib.hid (K1.out.trans k6)
    replace R1 := Lib.hid (R1.out.kept k6)
    have V6 := Lib.hid (PaS.kept _ _ _ _ _ k6 V5.out)
    have I6 := Lib.hid hi6
    have Z5 : Hid (w.heap.size < g6) := Lib.hid (by have := Z4.out; have := k5s.out; omega)
    have HCap := Lib.hid hcap
    clear k6 hi6 HCl V5 hcap
    go_wp2_with (first
      | (refine wpList_execP 29 rfl (by rfl) (.agg (mnC n' (some ⟨g6, 0, none⟩) K cap q2 L.length d2)) _ (execBuildM _ _ _ _ _ _ _ _ rfl rfl rfl rfl) ?_)
      | (refine wpList_store_row rfl 28 _ _ rfl w.heap.size (mnC n' (some ⟨g6, 0, none⟩) K cap q2 L.length d2) rfl rfl 28 (mnC 0 none 0 0 none 0 0) R1.out (info_many _ _ _ _ _ _ _) rfl (mnC_one _ _ _ _ _ _ _) ?_))
    refine bodyPost_ret (v := .tuple #[.agg (mnC n' (some ⟨g6, 0, none⟩) K cap q2 L.length d2), .int .i64 0]) (results_row_tmp Tryd.results9 _ _ w.heap.size 28 _ _ _ rfl rfl R1.out.row Tryd.underlying28 rfl (info_many _ _ _ _ _ _ _)) rfl ?_
    refine ⟨some ⟨g6, 0, none⟩, cap, q2, d2, rfl, ⟨HCap.out.1, HCap.out.2.1⟩, IAt.setRow I6.out (fun a ha => by have := Z5.out; obtain rfl := Option.some.inj ha; show g6 ≠ _; omega) _, (V6.out.setRow Z4.out _).hsl H32.out, K1.out.setRow (Nat.le_refl _) _⟩
  · simp only [mkE, mkC, mkK, mkL, if_neg hr]
    rw [needI_no hr] at HN
    clear hS hI hr hz ht
    go_enter Tryd.func9, Tryd.ntmps9
    go_wp2_with fail
    change Calls _ _ _ (w.alloc (.cells (mnC 0 none 0 0 none 0 0) 28)) _
    generalize w.alloc (.cells (mnC 0 none 0 0 none 0 0) 28) = v1 at R1 K1 ⊢
    refine (HN.out v1 (HI.out.kept K1.out)).mono ?_
    rintro e v2 ⟨rfl, k2⟩
    replace K1 := Lib.hid (K1.out.trans k2)
    replace R1 := Lib.hid (R1.out.kept k2)
    clear k2 HN
    go_wp2_with (first
      | (refine wpList_exec 16 rfl (by rfl) (.agg (mnC 0 none 0 0 none 0 0)) _ (execBuild0 rfl (run_build0M _)) ?_)
      | (refine wpList_store_row rfl 28 _ _ rfl w.heap.size (mnC 0 none 0 0 none 0 0) rfl rfl 28 (mnC 0 none 0 0 none 0 0) R1.out (info_many _ _ _ _ _ _ _) rfl (mnC_one _ _ _ _ _ _ _) ?_))
    refine bodyPost_ret (v := .tuple #[.agg (mnC 0 none 0 0 none 0 0), .int .i64 3]) (results_row_tmp Tryd.results9 _ _ w.heap.size 28 _ _ _ rfl rfl R1.out.row Tryd.underlying28 rfl (info_many _ _ _ _ _ _ _)) rfl ?_
    exact ⟨none, 0, none, 0, rfl, ⟨Nat.le_refl _, Nat.zero_le _⟩, IAt.zero _ _ _, ⟨none, 0, rfl, Nat.le_refl _, Nat.zero_le _, HAt.zero _ _ _⟩, K1.out.setRow (Nat.le_refl _) _⟩
end Go.Proofs.YtggpjhldmaflaaaDoor
