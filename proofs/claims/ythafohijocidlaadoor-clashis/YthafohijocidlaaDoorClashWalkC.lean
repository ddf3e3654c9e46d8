/-
  Contract of clash.Find: the two texts are fixed by the leaves. Conditions: leaves of at most a million bytes; hashes of 32 bytes; sha's table of round constants stands.
-/
import Derived.Test.YthafohijocidlaaDoorClashWalkB
namespace Go.Proofs.YthafohijocidlaaDoor
set_option maxRecDepth 4000
open Go.RowKit

theorem coB_eq (r : List UInt8) (s : ByteArray) (I N : Int) (m : Nat) (F : Nat → List UInt8) (u : ByteArray) (I' N' : Int) (m' : Nat) (G : Nat → List UInt8) :
    coB r s I N m F u I' N' m' G = (!decide (s = u) && (decide (I = I') && (ckO r s I N m F && ckO r u I' N' m' G))) := by
  rw [coB]; simp
theorem unlike_at (s u : ByteArray) (i n n' m m' : Nat) (F G : Nat → List UInt8) (j : Nat) (hm : m ≤ 63) (h1 : j < m + 2) (h2 : j < m' + 2) (h3 : ∀ k, k < j → txA s i n m F k = txA u i n' m' G k) (h4 : txA s i n m F j ≠ txA u i n' m' G j)
    (v v' : Value) (w : World) (hv : TxS 0 (txL s i n m F (m + 2)) v w) (hv' : TxS 0 (txL u i n' m' G (m' + 2)) v' w) :
    Calls Tryd.prog 21 #[v, v'] w fun e w' => e = .returned (.tuple #[.string (txA s i n m F j), .string (txA u i n' m' G j), .bool true]) ∧ Kept w w' := by
  obtain ⟨q, c, rfl, _, _, hX⟩ := hv.sat (by rw [txL_length]; omega)
  obtain ⟨q', c', rfl, _, _, hY⟩ := hv'.sat (by rw [txL_length]; omega)
  rw [txL_length] at hX hY ⊢
  rw [txL_length]
  have := clashUnlike_any q q' (m + 2) (m' + 2) c c' j _ _ w hX hY (by omega) h1 h2 (fun k hk => by rw [txL_get _ _ _ _ _ _ _ _ (by omega), txL_get _ _ _ _ _ _ _ _ (by omega)]; exact h3 k hk)
    (by rw [txL_get _ _ _ _ _ _ _ _ (by omega), txL_get _ _ _ _ _ _ _ _ (by omega)]; exact h4)
  rwa [txL_get _ _ _ _ _ _ _ _ (by omega), txL_get _ _ _ _ _ _ _ _ (by omega)] at this
set_option maxRecDepth 100000 in
set_option maxHeartbeats 2000000 in
theorem clashFind_any (r : List UInt8) (hr : r.length = 32) (s u : ByteArray) (hs : s.size ≤ 1000000) (hs' : u.size ≤ 1000000) (I N I' N' : Int) (m m' : Nat) (F G : Nat → List UInt8) (hF : ∀ k, k < m → (F k).length = 32) (hG : ∀ k, k < m' → (G k).length = 32) :
    ∃ a b : ByteArray, (coB r s I N m F u I' N' m' G = false → a = noB ∧ b = noB) ∧ (coB r s I N m F u I' N' m' G = true → a ≠ b ∧ shaL a = shaL b) ∧ a.size ≤ 2000000 ∧ b.size ≤ 2000000 ∧
      ∀ (p p' : Option Addr) (c c' : Nat) (w : World), HSl m F (.slice p m c) w → HSl m' G (.slice p' m' c') w → Tab w →
        Calls Tryd.prog 9 #[.agg (bC 32 r), .agg #[.string s, .int .i64 I, .int .i64 N, .slice p m c], .agg #[.string u, .int .i64 I', .int .i64 N', .slice p' m' c']] w fun e w' => e = .returned (.tuple #[.string a, .string b, .bool (coB r s I N m F u I' N' m' G)]) ∧ Kept w w' := by
  have HCo : Hid (∀ (p p' : Option Addr) (c c' : Nat) (w : World), HSl m F (.slice p m c) w → HSl m' G (.slice p' m' c') w → Tab w → _) := Lib.hid fun p p' c c' w hv hv' ht => clashContra_any r hr s u hs hs' I N I' N' p p' m m' c c' F G w hv hv' ht
  cases hco : coB r s I N m F u I' N' m' G with
  | false =>
    rw [hco] at HCo
    refine ⟨noB, noB, fun _ => ⟨rfl, rfl⟩, fun h => (by cases h), by rw [noB_size]; omega, by rw [noB_size]; omega, ?_⟩
    intro p p' c c' w hv hv' ht
    have HT := Lib.hid ht
    have HV := Lib.hid hv
    have HV' := Lib.hid hv'
    have R3 := Lib.hid (((Rowz.new w (bC 32 r) 25).alloc (.cells #[.string s, .int .i64 I, .int .i64 N, .slice p m c] 31)).alloc (.cells #[.string u, .int .i64 I', .int .i64 N', .slice p' m' c'] 31))
    have R4 := Lib.hid ((Rowz.newEq1 w (.cells (bC 32 r) 25) _ #[.string s, .int .i64 I, .int .i64 N, .slice p m c] 31 rfl).alloc (.cells #[.string u, .int .i64 I', .int .i64 N', .slice p' m' c'] 31))
    have R5 := Lib.hid (Rowz.newEq1 (w.alloc (.cells (bC 32 r) 25)) (.cells #[.string s, .int .i64 I, .int .i64 N, .slice p m c] 31) _ #[.string u, .int .i64 I', .int .i64 N', .slice p' m' c'] 31 rfl)
    have K1 := Lib.hid ((((Kept.refl w).alloc (.cells (bC 32 r) 25)).alloc (.cells #[.string s, .int .i64 I, .int .i64 N, .slice p m c] 31)).alloc (.cells #[.string u, .int .i64 I', .int .i64 N', .slice p' m' c'] 31))
    have b1 : (w.alloc (.cells (bC 32 r) 25)).heap.size + 1 = w.heap.size + 2 := by simp
    rw [b1] at R5
    clear b1 ht hv hv' hco hF hG
    go_enter Tryd.func9, Tryd.ntmps9
    go_wp2_with (refine park_at 9 rfl ?_)
    generalize ((w.alloc (.cells (bC 32 r) 25)).alloc (.cells #[.string s, .int .i64 I, .int .i64 N, .slice p m c] 31)).alloc (.cells #[.string u, .int .i64 I', .int .i64 N', .slice p' m' c'] 31) = v1 at R3 R4 R5 K1 ⊢
    refine unpark ?_
    refine wpList_exec 9 rfl (by rfl) (.agg (bC 32 r)) _ (loadHr rfl rfl R3.out) ?_
    refine wpList_exec 10 rfl (by rfl) (.agg #[.string s, .int .i64 I, .int .i64 N, .slice p m c]) _ (loadLf rfl rfl R4.out rfl) ?_
    refine wpList_exec 11 rfl (by rfl) (.agg #[.string u, .int .i64 I', .int .i64 N', .slice p' m' c']) _ (loadLf rfl rfl R5.out rfl) ?_
    go_wp2_with fail
    refine (HCo.out p p' c c' v1 (HSl.kept _ _ _ _ _ K1.out HV.out) (HSl.kept _ _ _ _ _ K1.out HV'.out) (HT.out.kept K1.out)).mono ?_
    rintro e v2 ⟨rfl, k2⟩
    have K2 := Lib.hid (K1.out.trans k2)
    clear k2 K1 R3 R4 R5 HCo HT HV HV'
    go_wp2_with fail
    exact bodyPost_ret (results_tmp3 Tryd.results9 _ _ _) rfl ⟨rfl, K2.out⟩
  | true =>
    rw [hco] at HCo
    obtain ⟨i, n, n', j, ⟨rfl, rfl, a3, a4, a5, a6, a7⟩, ⟨rfl, rfl, b3, b4, b5, b6, b7⟩, c1, c2, c3, c4, c5⟩ := co_find hco hF hG
    have HTA : Hid (∀ (p : Option Addr) (c : Nat) (w : World), HSl m F (.slice p m c) w → Tab w → _) := Lib.hid fun p c w hv ht => TxS.mono 0 (Nat.zero_le _) (clashTexts_any s hs i n p m c F w a3 a4 a5 a6 a7 hv ht)
    have HTB : Hid (∀ (p : Option Addr) (c : Nat) (w : World), HSl m' G (.slice p m' c) w → Tab w → _) := Lib.hid fun p c w hv ht => TxS.mono 0 (Nat.zero_le _) (clashTexts_any u hs' i n' p m' c G w b3 b4 b5 b6 b7 hv ht)
    have HU : Hid (∀ v v' w, TxS 0 (txL s i n m F (m + 2)) v w → TxS 0 (txL u i n' m' G (m' + 2)) v' w → _) := Lib.hid fun v v' w hv hv' => unlike_at s u i n n' m m' F G j a6 c1 c2 c3 c4 v v' w hv hv'
    have z1 := txA_size s i n m F a5 hF j
    have z2 := txA_size u i n' m' G b5 hG j
    refine ⟨txA s i n m F j, txA u i n' m' G j, fun h => (by cases h), fun _ => ⟨c4, c5⟩, by omega, by omega, ?_⟩
    intro p p' c c' w hv hv' ht
    have HT := Lib.hid ht
    have HV := Lib.hid hv
    have HV' := Lib.hid hv'
    have R3 := Lib.hid (((Rowz.new w (bC 32 r) 25).alloc (.cells #[.string s, .int .i64 (i : Int), .int .i64 (n : Int), .slice p m c] 31)).alloc (.cells #[.string u, .int .i64 (i : Int), .int .i64 (n' : Int), .slice p' m' c'] 31))
    have R4 := Lib.hid ((Rowz.newEq1 w (.cells (bC 32 r) 25) _ #[.string s, .int .i64 (i : Int), .int .i64 (n : Int), .slice p m c] 31 rfl).alloc (.cells #[.string u, .int .i64 (i : Int), .int .i64 (n' : Int), .slice p' m' c'] 31))
    have R5 := Lib.hid (Rowz.newEq1 (w.alloc (.cells (bC 32 r) 25)) (.cells #[.string s, .int .i64 (i : Int), .int .i64 (n : Int), .slice p m c] 31) _ #[.string u, .int .i64 (i : Int), .int .i64 (n' : Int), .slice p' m' c'] 31 rfl)
    have K1 := Lib.hid ((((Kept.refl w).alloc (.cells (bC 32 r) 25)).alloc (.cells #[.string s, .int .i64 (i : Int), .int .i64 (n : Int), .slice p m c] 31)).alloc (.cells #[.string u, .int .i64 (i : Int), .int .i64 (n' : Int), .slice p' m' c'] 31))
    have b1 : (w.alloc (.cells (bC 32 r) 25)).heap.size + 1 = w.heap.size + 2 := by simp
    rw [b1] at R5
    clear b1 ht hv hv' hco hF hG a3 a4 a5 a6 a7 b3 b4 b5 b6 b7 c1 c2 c3 c4 c5 z1 z2 hs hs' hr
    generalize txL s i n m F (m + 2) = LX at HTA HU
    generalize txL u i n' m' G (m' + 2) = LY at HTB HU
    generalize txA s i n m F j = a at HU ⊢
    generalize txA u i n' m' G j = b at HU ⊢
    go_enter Tryd.func9, Tryd.ntmps9
    go_wp2_with (refine park_at 9 rfl ?_)
    generalize ((w.alloc (.cells (bC 32 r) 25)).alloc (.cells #[.string s, .int .i64 (i : Int), .int .i64 (n : Int), .slice p m c] 31)).alloc (.cells #[.string u, .int .i64 (i : Int), .int .i64 (n' : Int), .slice p' m' c'] 31) = v1 at R3 R4 R5 K1 ⊢
    refine unpark ?_
    refine wpList_exec 9 rfl (by rfl) (.agg (bC 32 r)) _ (loadHr rfl rfl R3.out) ?_
    refine wpList_exec 10 rfl (by rfl) (.agg #[.string s, .int .i64 (i : Int), .int .i64 (n : Int), .slice p m c]) _ (loadLf rfl rfl R4.out rfl) ?_
    refine wpList_exec 11 rfl (by rfl) (.agg #[.string u, .int .i64 (i : Int), .int .i64 (n' : Int), .slice p' m' c']) _ (loadLf rfl rfl R5.out rfl) ?_
    go_wp2_with fail
    refine (HCo.out p p' c c' v1 (HSl.kept _ _ _ _ _ K1.out HV.out) (HSl.kept _ _ _ _ _ K1.out HV'.out) (HT.out.kept K1.out)).mono ?_
    rintro e v2 ⟨rfl, k2⟩
    replace R4 := Lib.hid (R4.out.kept k2)
    replace R5 := Lib.hid (R5.out.kept k2)
    have K2 := Lib.hid (K1.out.trans k2)
    clear k2 K1 R3 HCo
    go_wp2_with fail
    refine wp_region_table [(14, .is (.agg #[.string s, .int .i64 (i : Int), .int .i64 (n : Int), .slice p m c])), (15, .such (TxS 0 LX) (TxS.kept 0 LX)), (16, .is (.agg #[.string u, .int .i64 (i : Int), .int .i64 (n' : Int), .slice p' m' c'])), (17, .such (TxS 0 LY) (TxS.kept 0 LY)), (18, .is (.tuple #[.string a, .string b, .bool true])), (19, .is (.string a)), (20, .is (.string b)), (21, .is (.bool true)), (6, .is (.string a)), (7, .is (.string b)), (8, .is (.bool true))] (by kernel_rfl) (by kernel_rfl) ?_ ?_
    · refine ⟨fun t w1 hf hk hp => ?_, ?_⟩
      · have h4 : slot t 4 = .pointer (some ⟨w.heap.size + 1, 0, none⟩) := hf 4 (by kernel_rfl)
        clear hf hp
        refine stepAt_plain rfl ?_
        exact stepOK_pure (.agg #[.string s, .int .i64 (i : Int), .int .i64 (n : Int), .slice p m c]) (loadLf rfl h4 (R4.out.kept hk) rfl) rfl
      refine ⟨fun t w1 hf hk hp => ?_, ?_⟩
      · have h14 : slot t 14 = .agg #[.string s, .int .i64 (i : Int), .int .i64 (n : Int), .slice p m c] := hp 14 (by kernel_rfl)
        clear hf hp
        refine stepAt_plain rfl ?_
        refine stepOK_call #[.agg #[.string s, .int .i64 (i : Int), .int .i64 (n : Int), .slice p m c]] rfl (by simp only [List.map_toArray, List.map_cons, List.map_nil, evS, h14]) (by go_simp) ((HTA.out p c w1 (HSl.kept _ _ _ _ _ (K2.out.trans hk) HV.out) (HT.out.kept (K2.out.trans hk))).mono fun e w' ⟨v, he, hpv, hk'⟩ => ⟨v, he, hk', hpv⟩)
      refine ⟨fun t w1 hf hk hp => ?_, ?_⟩
      · have h5 : slot t 5 = .pointer (some ⟨w.heap.size + 2, 0, none⟩) := hf 5 (by kernel_rfl)
        clear hf hp
        refine stepAt_plain rfl ?_
        exact stepOK_pure (.agg #[.string u, .int .i64 (i : Int), .int .i64 (n' : Int), .slice p' m' c']) (loadLf rfl h5 (R5.out.kept hk) rfl) rfl
      refine ⟨fun t w1 hf hk hp => ?_, ?_⟩
      · have h16 : slot t 16 = .agg #[.string u, .int .i64 (i : Int), .int .i64 (n' : Int), .slice p' m' c'] := hp 16 (by kernel_rfl)
        clear hf hp
        refine stepAt_plain rfl ?_
        refine stepOK_call #[.agg #[.string u, .int .i64 (i : Int), .int .i64 (n' : Int), .slice p' m' c']] rfl (by simp only [List.map_toArray, List.map_cons, List.map_nil, evS, h16]) (by go_simp) ((HTB.out p' c' w1 (HSl.kept _ _ _ _ _ (K2.out.trans hk) HV'.out) (HT.out.kept (K2.out.trans hk))).mono fun e w' ⟨v, he, hpv, hk'⟩ => ⟨v, he, hk', hpv⟩)
      refine ⟨fun t w1 hf hk hp => ?_, ?_⟩
      · obtain ⟨v15, h15, p15⟩ : ∃ v, slot t 15 = v ∧ (TxS 0 LX) v w1 := ⟨_, rfl, hp 15 (by kernel_rfl)⟩
        obtain ⟨v17, h17, p17⟩ : ∃ v, slot t 17 = v ∧ (TxS 0 LY) v w1 := ⟨_, rfl, hp 17 (by kernel_rfl)⟩
        clear hf hp
        refine stepAt_plain rfl ?_
        refine stepOK_call #[v15, v17] rfl (by simp only [List.map_toArray, List.map_cons, List.map_nil, evS, h15, h17]) (by go_simp) ((HU.out v15 v17 w1 p15 p17).mono fun e w' ⟨he, hk'⟩ => ⟨_, he, hk', rfl⟩)
      refine ⟨fun t w1 hf hk hp => ?_, ?_⟩
      · have h18 : slot t 18 = .tuple #[.string a, .string b, .bool true] := hp 18 (by kernel_rfl)
        clear hf hp
        refine stepAt_plain rfl ?_
        refine stepOK_pure (.string a) ?_ rfl
        simp only [execOp, evS, h18]
        go_simp
      refine ⟨fun t w1 hf hk hp => ?_, ?_⟩
      · have h18 : slot t 18 = .tuple #[.string a, .string b, .bool true] := hp 18 (by kernel_rfl)
        clear hf hp
        refine stepAt_plain rfl ?_
        refine stepOK_pure (.string b) ?_ rfl
        simp only [execOp, evS, h18]
        go_simp
      refine ⟨fun t w1 hf hk hp => ?_, ?_⟩
      · have h18 : slot t 18 = .tuple #[.string a, .string b, .bool true] := hp 18 (by kernel_rfl)
        clear hf hp
        refine stepAt_plain rfl ?_
        refine stepOK_pure (.bool true) ?_ rfl
        simp only [execOp, evS, h18]
        go_simp
      refine ⟨fun t w1 hf hk hp => ?_, ?_⟩
      · have h19 : slot t 19 = .string a := hp 19 (by kernel_rfl)
        clear hf hp
        refine stepAt_plain rfl ?_
        exact stepOK_move _ (.inr rfl) h19
      refine ⟨fun t w1 hf hk hp => ?_, ?_⟩
      · have h20 : slot t 20 = .string b := hp 20 (by kernel_rfl)
        clear hf hp
        refine stepAt_plain rfl ?_
        exact stepOK_move _ (.inr rfl) h20
      refine ⟨fun t w1 hf hk hp => ?_, ?_⟩
      · have h21 : slot t 21 = .bool true := hp 21 (by kernel_rfl)
        clear hf hp
        refine stepAt_plain rfl ?_
        exact stepOK_move _ (.inr rfl) h21
      exact trivial
    · intro t w1 hsz hf hk hfacts
      have h6 : slot t 6 = .string a := hfacts 8 _ rfl 6 rfl
      have h7 : slot t 7 = .string b := hfacts 9 _ rfl 7 rfl
      have h8 : slot t 8 = .bool true := hfacts 10 _ rfl 8 rfl
      have h4 : slot t 4 = .pointer (some ⟨w.heap.size + 1, 0, none⟩) := hf 4 (by kernel_rfl)
      have h5 : slot t 5 = .pointer (some ⟨w.heap.size + 2, 0, none⟩) := hf 5 (by kernel_rfl)
      have harr : t = #[slot t 0, slot t 1, slot t 2, slot t 3, slot t 4, slot t 5, slot t 6, slot t 7, slot t 8, slot t 9, slot t 10, slot t 11, slot t 12, slot t 13, slot t 14, slot t 15, slot t 16, slot t 17, slot t 18, slot t 19, slot t 20, slot t 21] := arr_eq t 22 hsz
      rw [harr, h6, h7, h8, h4, h5]
      clear harr hfacts hf h6 h7 h8 h4 h5
      generalize slot t 0 = x0; generalize slot t 1 = x1; generalize slot t 2 = x2; generalize slot t 3 = x3; generalize slot t 9 = x9; generalize slot t 10 = x10; generalize slot t 11 = x11; generalize slot t 12 = x12; generalize slot t 13 = x13; generalize slot t 14 = x14; generalize slot t 15 = x15; generalize slot t 16 = x16
      generalize slot t 17 = x17; generalize slot t 18 = x18; generalize slot t 19 = x19; generalize slot t 20 = x20; generalize slot t 21 = x21
      clear hsz t
      have K3 := Lib.hid (K2.out.trans hk)
      clear hk
      go_wp2_with fail
      exact bodyPost_ret (results_tmp3 Tryd.results9 _ _ _) rfl ⟨rfl, K3.out⟩
end Go.Proofs.YthafohijocidlaaDoor
