/-
  Contracts of head.Get and head.Take. Conditions: a cursor that has an error has nothing left; a string's size fits.
-/
import Derived.Test.YtdidgenenlefiaaHeadWalkA
import Derived.Test.YtdidgenenlefiaaCurWalkC
namespace Go.Proofs.Ytdidgenenlefiaa
set_option maxRecDepth 4000
open Go.RowKit

theorem rawR76_short (s : ByteArray) (h : s.size < 76) : rawR ⟨s, 0⟩ 76 = (noB, ⟨noB, 1⟩) := by
  unfold rawR
  rw [if_neg (show ¬ (76 : Int) < 0 by omega), if_neg (show ¬ ((⟨s, 0⟩ : Cu).e ≠ 0) from fun h => h rfl), if_pos (show (((⟨s, 0⟩ : Cu).b.size : Int) < 76) from by show (s.size : Int) < 76; omega), failC_set _ _ rfl (by omega)]
theorem rawR76_long (s : ByteArray) (h : ¬ s.size < 76) : rawR ⟨s, 0⟩ 76 = (s.extract 0 76, ⟨s.extract 76 s.size, 0⟩) := by
  unfold rawR
  rw [if_neg (show ¬ (76 : Int) < 0 by omega), if_neg (show ¬ ((⟨s, 0⟩ : Cu).e ≠ 0) from fun h => h rfl), if_neg (show ¬ (((⟨s, 0⟩ : Cu).b.size : Int) < 76) from by show ¬ (s.size : Int) < 76; omega)]
  rfl
theorem hE_done (s : ByteArray) : hE s = doneC (rawR ⟨s, 0⟩ 76).2 := by
  by_cases h1 : s.size < 76
  · rw [rawR76_short s h1, hE, if_neg (by omega), if_pos h1]
    rfl
  · rw [rawR76_long s h1]
    show hE s = if (0 : Int) = 0 ∧ 0 < (s.extract 76 s.size).size then 2 else 0
    have e : (s.extract 76 s.size).size = s.size - 76 := by rw [ByteArray.size_extract]; omega
    rw [e, hE]
    by_cases h2 : s.size = 76
    · rw [if_pos h2, if_neg (by omega)]
    · rw [if_neg h2, if_neg h1, if_pos (by omega)]
theorem hT_done (s : ByteArray) : hT s = if hE s = 0 then gH ⟨s, 0⟩ else hdZ := by
  by_cases h : s.size = 76
  · rw [if_pos ((hE_zero s).2 h), hT, if_pos h, gH, rawR76_long s (by omega)]
    have e : s.extract 0 76 = s := by
      rw [← h]
      exact ByteArray.extract_zero_size
    simp only [e]
    rw [if_neg (by omega)]
  · rw [if_neg (fun h2 => h ((hE_zero s).1 h2)), hT, if_neg h]

/-- What the second cursor gives: its four reads. -/
def hdW (s : ByteArray) : Hd :=
  let r1 := rawP ⟨s, 0⟩ 4
  let r2 := rawP r1.2 32
  let r3 := rawP r2.2 32
  let r4 := rawP r3.2 8
  ⟨tkz r1.1 (0 : Nat) 4, hashL r2.1, hashL r3.1, tkz r4.1 (0 : Nat) 8⟩
theorem rawP_long (s : ByteArray) (n : Nat) (h : n ≤ s.size) : rawP ⟨s, 0⟩ (n : Int) = (s.extract 0 n, ⟨s.extract n s.size, 0⟩) := by
  unfold rawP
  rw [if_neg (by omega), if_neg (by show ¬ (s.size : Int) < (n : Int); omega)]
  rfl
theorem getD_extract (s : ByteArray) (a b j : Nat) (hb : b ≤ s.size) (hj : a + j < b) : (s.extract a b).data.toList.getD j 0 = s.data.toList.getD (a + j) 0 := by
  have e : (s.extract a b).data = s.data.extract a b := ByteArray.data_extract
  have hsz : s.data.size = s.size := rfl
  rw [e, List.getD_eq_getElem?_getD, List.getD_eq_getElem?_getD, Array.getElem?_toList, Array.getElem?_toList, Array.getElem?_extract, if_pos (by omega)]
theorem btz_extract (s : ByteArray) (a b k j : Nat) (hb : b ≤ s.size) (hj : a + k + j < b) : btz (s.extract a b) (k : Nat) j = btz s ((a + k : Nat) : Int) j := by
  unfold btz
  rw [if_pos (by omega), if_pos (by omega), Int.toNat_natCast, Int.toNat_natCast, getD_extract s a b (k + j) hb (by omega), Nat.add_assoc]
theorem tkz_extract (s : ByteArray) (a b : Nat) (n : Nat) (hb : b ≤ s.size) (hn : a + n ≤ b) : tkz (s.extract a b) (0 : Nat) n = tkz s (a : Nat) n := by
  induction n with
  | zero => rfl
  | succ n ih =>
    show tkz (s.extract a b) (0 : Nat) n * 256 + btz (s.extract a b) (0 : Nat) n = tkz s (a : Nat) n * 256 + btz s (a : Nat) n
    rw [ih (by omega), btz_extract s a b 0 n hb (by omega), Nat.add_zero]
theorem hashL_extract (s : ByteArray) (a b : Nat) (hb : b ≤ s.size) (hn : b = a + 32) : hashL (s.extract a b) = l32 s a := by
  subst hn
  apply List.ext_getElem (by rw [hashL_length, l32_length])
  intro i h1 h2
  have h32 : i < 32 := by rwa [hashL_length] at h1
  have := getD_extract s a (a + 32) i hb (by omega)
  simp only [hashL, l32, List.getElem_map, List.getElem_range]
  simpa [sl] using this
theorem hdW_eq (s : ByteArray) (h : s.size = 0 ∨ s.size = 76) : hdW s = if s.size = 0 then hdZ else hdT s := by
  rcases h with h | h
  · rw [if_pos h]
    obtain rfl := size0 h
    rfl
  · rw [if_neg (by omega)]
    have e1 : rawP ⟨s, 0⟩ 4 = (s.extract 0 4, ⟨s.extract 4 76, 0⟩) := by have := rawP_long s 4 (by omega); rwa [h] at this
    have z2 : (s.extract 4 76).size = 72 := by rw [ByteArray.size_extract]; omega
    have e2 : rawP ⟨s.extract 4 76, 0⟩ 32 = (s.extract 4 36, ⟨s.extract 36 76, 0⟩) := by
      have := rawP_long (s.extract 4 76) 32 (by omega)
      rw [z2, ByteArray.extract_extract, ByteArray.extract_extract] at this
      exact this
    have z3 : (s.extract 36 76).size = 40 := by rw [ByteArray.size_extract]; omega
    have e3 : rawP ⟨s.extract 36 76, 0⟩ 32 = (s.extract 36 68, ⟨s.extract 68 76, 0⟩) := by
      have := rawP_long (s.extract 36 76) 32 (by omega)
      rw [z3, ByteArray.extract_extract, ByteArray.extract_extract] at this
      exact this
    have z4 : (s.extract 68 76).size = 8 := by rw [ByteArray.size_extract]; omega
    have e4 : rawP ⟨s.extract 68 76, 0⟩ 8 = (s.extract 68 76, ⟨s.extract 76 76, 0⟩) := by
      have := rawP_long (s.extract 68 76) 8 (by omega)
      rw [z4, ByteArray.extract_extract, ByteArray.extract_extract] at this
      exact this
    unfold hdW
    simp only [e1, e2, e3, e4]
    rw [tkz_extract s 0 4 4 (by omega) (by omega), hashL_extract s 4 36 (by omega) rfl, hashL_extract s 36 68 (by omega) rfl, tkz_extract s 68 76 8 (by omega) (by omega)]
    rfl
theorem hdW_ok (s : ByteArray) : (hdW s).ok := by
  refine ⟨?_, hashL_length _, hashL_length _, ?_⟩
  · exact Nat.lt_of_lt_of_le (tkz_lt _ (0 : Nat) 4) (by decide)
  · exact Nat.lt_of_lt_of_le (tkz_lt _ (0 : Nat) 8) (by decide)
theorem OnlyC.beside {g b : Nat} {u v w : World} (h : OnlyC g u v) (k : OnlyC b v w) (hb : u.heap.size ≤ b) : OnlyC g u w := by
  refine ⟨⟨fun w0 G hg => ?_, fun x hx hn => ?_, Nat.le_trans h.size k.size⟩, k.2.1.trans h.2.1, k.2.2.trans h.2.2⟩
  · exact k.grown w0 (h.grown w0 G hg) (Nat.le_trans G.2.2 hb)
  · exact (k.1.2.1 x (Nat.lt_of_lt_of_le hx h.size) (by omega)).trans (h.1.2.1 x hx hn)
theorem head_build (h n : Nat) (l t : List UInt8) (w : World) : (Instr.build 27 #[(0, .int .u32 (h : Int)), (1, .agg (bC 32 l)), (2, .agg (bC 32 t)), (3, .int .u64 (n : Int))]).run Try.prog w = .ok (.agg (hdC ⟨h, l, t, n⟩)) w := by kernel_rfl
theorem execHeadBuild {o : Oper} {t : Array Value} {x y z u : Operand} (hd : Hd) (w : World) (ho : o.op = .build 27 #[(0, x), (1, y), (2, z), (3, u)]) (hx : evS t x = .int .u32 (hd.h : Int)) (hy : evS t y = .agg (bC 32 hd.l)) (hz : evS t z = .agg (bC 32 hd.t)) (hu : evS t u = .int .u64 (hd.n : Int)) :
    (execOp (evS t) o).run Try.prog w = .ok (.value (.agg (hdC hd))) w := by
  have hr := head_build hd.h hd.n hd.l hd.t w
  unfold execOp
  simp [ho, hx, hy, hz, hu, hr, Result.andThen_ok]
theorem rawP_size (c : Cu) (n : Nat) : (rawP c (n : Int)).1.size ≤ n := by
  unfold rawP
  rw [if_neg (by omega)]
  split
  · exact Nat.zero_le _
  · show (c.b.extract 0 n).size ≤ n
    rw [ByteArray.size_extract]; omega
theorem rawP_fits (c : Cu) (n : Nat) (h : n ≤ 1000) : (rawP c (n : Int)).1.size ≤ maxLen := Nat.le_trans (rawP_size c n) (by unfold maxLen; omega)

set_option maxRecDepth 100000 in
set_option maxHeartbeats 2000000 in
theorem headGet_any : HeadGetC 13 := by
  intro g c w hc hs h
  have HR : Hid (∀ w, CurAt w g c → Calls Try.prog 23 #[.pointer (some ⟨g, 0, none⟩), .int .i64 76] w fun e w' => e = .returned (.string (rawP c 76).1) ∧ CurAt w' g (rawP c 76).2 ∧ OnlyC g w w') := Lib.hid fun w h => curRaw_any g c 76 w h
  have h76 : (rawP c 76).1.size = 0 ∨ (rawP c 76).1.size = 76 := by rw [rawP_eq c 76 hc]; exact rawR_76 c
  have hg : gH c = hdW (rawP c 76).1 := by rw [hdW_eq _ h76, rawP_eq c 76 hc]; rfl
  rw [hg]
  clear hg h76
  have hgl : g < w.heap.size := Rowz.lt h
  have H0 : Hid (CurAt (w.alloc (.cells (hdC hdZ) 27)) g c) := Lib.hid (Rowz.alloc h _)
  have R0 := Lib.hid (Rowz.new w (hdC hdZ) 27)
  have O0 := Lib.hid (OnlyC.ofGrown g ((Grown.refl w).alloc (hdC hdZ) 27))
  clear h hc hs
  generalize rawP c 76 = r at HR ⊢
  obtain ⟨s, d⟩ := r
  obtain ⟨r1, hr1⟩ : ∃ r, r = rawP ⟨s, 0⟩ ((4 : Nat) : Int) := ⟨_, rfl⟩
  obtain ⟨r2, hr2⟩ : ∃ r, r = rawP r1.2 ((32 : Nat) : Int) := ⟨_, rfl⟩
  obtain ⟨r3, hr3⟩ : ∃ r, r = rawP r2.2 ((32 : Nat) : Int) := ⟨_, rfl⟩
  obtain ⟨r4, hr4⟩ : ∃ r, r = rawP r3.2 ((8 : Nat) : Int) := ⟨_, rfl⟩
  obtain ⟨X, hX⟩ : ∃ X : Hd, X = hdW s := ⟨_, rfl⟩
  have hX0 : (X.h : Int) = ((tkz r1.1 (0 : Int) 4 : Nat) : Int) := by rw [hX, hr1]; rfl
  have hX1 : X.l = hashL r2.1 := by rw [hX, hr2, hr1]; rfl
  have hX2 : X.t = hashL r3.1 := by rw [hX, hr3, hr2, hr1]; rfl
  have hX3 : (X.n : Int) = ((tkz r4.1 (0 : Int) 8 : Nat) : Int) := by rw [hX, hr4, hr3, hr2, hr1]; rfl
  have C1 : Hid (∀ b w, CurAt w b ⟨s, 0⟩ → Calls Try.prog 23 #[.pointer (some ⟨b, 0, none⟩), .int .i64 4] w fun e w' => e = .returned (.string r1.1) ∧ CurAt w' b r1.2 ∧ OnlyC b w w') := Lib.hid fun b w h => by rw [hr1]; exact curRaw_any b _ 4 w h
  have C2 : Hid (∀ b w, CurAt w b r1.2 → Calls Try.prog 25 #[.pointer (some ⟨b, 0, none⟩)] w fun e w' => e = .returned (.agg (bC 32 (hashL r2.1))) ∧ CurAt w' b r2.2 ∧ OnlyC b w w') := Lib.hid fun b w h => by rw [hr2]; exact curHash_any b _ w h
  have C3 : Hid (∀ b w, CurAt w b r2.2 → Calls Try.prog 25 #[.pointer (some ⟨b, 0, none⟩)] w fun e w' => e = .returned (.agg (bC 32 (hashL r3.1))) ∧ CurAt w' b r3.2 ∧ OnlyC b w w') := Lib.hid fun b w h => by rw [hr3]; exact curHash_any b _ w h
  have C4 : Hid (∀ b w, CurAt w b r3.2 → Calls Try.prog 23 #[.pointer (some ⟨b, 0, none⟩), .int .i64 8] w fun e w' => e = .returned (.string r4.1) ∧ CurAt w' b r4.2 ∧ OnlyC b w w') := Lib.hid fun b w h => by rw [hr4]; exact curRaw_any b _ 8 w h
  have T1 : Hid (∀ w, Calls Try.prog 24 #[.string r1.1, .int .i64 0] w fun e w' => e = .returned (.int .u32 (X.h : Int)) ∧ w = w') := Lib.hid fun w => by
    rw [hX0]; exact take32_any r1.1 0 w (by rw [hr1]; exact rawP_fits _ 4 (by omega)) (by omega) (by omega)
  have T2 : Hid (∀ w, Calls Try.prog 26 #[.string r4.1, .int .i64 0] w fun e w' => e = .returned (.int .u64 (X.n : Int)) ∧ w = w') := Lib.hid fun w => by
    rw [hX3]; exact take64_any r4.1 0 w (by rw [hr4]; exact rawP_fits _ 8 (by omega)) (by omega) (by omega)
  rw [← hX1] at C2
  rw [← hX2] at C3
  rw [← hX]
  clear hX hX0 hX1 hX2 hX3 hr1 hr2 hr3 hr4
  go_enter Try.func13, Try.ntmps13
  go_wp2_with (refine wpList_exec 2 rfl (by rfl) _ _ (execAllocHd _ rfl) ?_)
  generalize w.alloc (.cells (hdC hdZ) 27) = v0 at H0 R0 O0 ⊢
  refine (HR.out _ H0.out).mono ?_
  rintro e v1 ⟨rfl, H1, O1⟩
  have R1 := Lib.hid (Rowz.onlyC R0.out O1 (by omega))
  have Q1 := Lib.hid (OnlyC.trans O0.out O1)
  replace H1 := Lib.hid H1
  clear R0 O0 O1 HR H0
  go_wp2_with fail
  refine (curRead_any s v1).mono ?_
  rintro e v2 ⟨rfl, B2, G2⟩
  have hlt : w.heap.size < v1.heap.size := R1.out.lt
  replace R1 := Lib.hid (Rowz.grown R1.out G2)
  replace H1 := Lib.hid (Rowz.grown H1.out G2)
  replace Q1 := Lib.hid (OnlyC.trans Q1.out (OnlyC.ofGrown g G2))
  obtain ⟨b, hb⟩ : ∃ b, b = v1.heap.size := ⟨_, rfl⟩
  rw [← hb] at B2 hlt ⊢
  clear hb G2
  replace B2 := Lib.hid B2
  go_wp2_with fail
  refine (C1.out b _ B2.out).mono ?_
  rintro e v3 ⟨rfl, B3, O3⟩
  replace B3 := Lib.hid B3
  replace O3 := Lib.hid O3
  clear B2 C1
  go_wp2_with fail
  refine (T1.out _).mono ?_
  rintro e _ ⟨rfl, rfl⟩
  clear T1
  go_wp2_with fail
  refine (C2.out b _ B3.out).mono ?_
  rintro e v4 ⟨rfl, B4, O4⟩
  replace B4 := Lib.hid B4
  replace O4 := Lib.hid (OnlyC.trans O3.out O4)
  clear B3 C2 O3
  go_wp2_with fail
  refine (C3.out b _ B4.out).mono ?_
  rintro e v5 ⟨rfl, B5, O5⟩
  replace B5 := Lib.hid B5
  replace O5 := Lib.hid (OnlyC.trans O4.out O5)
  clear B4 C3 O4
  go_wp2_with fail
  refine (C4.out b _ B5.out).mono ?_
  rintro e v6 ⟨rfl, B6, O6⟩
  replace O6 := Lib.hid (OnlyC.trans O5.out O6)
  clear B5 C4 O5 B6
  go_wp2_with fail
  refine (T2.out _).mono ?_
  rintro e _ ⟨rfl, rfl⟩
  clear T2
  have R6 := Lib.hid (Rowz.onlyC R1.out O6.out (by omega))
  have H6 : Hid (CurAt v6 g d) := Lib.hid (Rowz.onlyC H1.out O6.out (by omega))
  have Q6 := Lib.hid (OnlyC.beside Q1.out O6.out (by omega))
  clear R1 H1 Q1 O6
  go_wp2_with (first
    | (refine wpList_exec 17 rfl (by rfl) _ _ (execHeadBuild X _ rfl rfl rfl rfl rfl) ?_)
    | (refine wpList_store_row rfl 27 _ _ rfl w.heap.size (hdC X) rfl rfl 27 (hdC hdZ) R6.out (info_hdr _) (by rw [hdC_size, hdC_size]) (hdC_one _) ?_))
  refine bodyPost_ret (v := .agg (hdC X)) (results_cell_row Try.results13 _ _ w.heap.size 27 _ (0, 0) _ rfl R6.out.row Try.underlying27 rfl (info_hdr _)) rfl ⟨rfl, ?_, ?_⟩
  · exact Rowz.rowOther H6.out (by omega)
  · exact OnlyC.newRow Q6.out R6.out (Nat.le_refl _) _

set_option maxRecDepth 100000 in
set_option maxHeartbeats 2000000 in
theorem headTake_any : HeadTakeC 9 := by
  intro s w hs
  have HG : Hid (∀ b w, CurAt w b ⟨s, 0⟩ → Calls Try.prog 13 #[.pointer (some ⟨b, 0, none⟩)] w fun e w' => e = .returned (.agg (hdC (gH ⟨s, 0⟩))) ∧ CurAt w' b (rawP ⟨s, 0⟩ 76).2 ∧ OnlyC b w w') := Lib.hid fun b w h => headGet_any b ⟨s, 0⟩ w (fun h => absurd rfl h) hs h
  have hE1 : hE s = doneC (rawP ⟨s, 0⟩ 76).2 := by rw [hE_done, rawP_eq _ _ (fun h => absurd rfl h)]
  have HD : Hid (∀ b w, CurAt w b (rawP ⟨s, 0⟩ 76).2 → Calls Try.prog 20 #[.pointer (some ⟨b, 0, none⟩)] w fun e w' => e = .returned (.int .i64 (hE s)) ∧ w = w') := Lib.hid fun b w h => by rw [hE1]; exact curDone_any b _ w h
  have HT := Lib.hid (hT_done s)
  have R0 := Lib.hid (Rowz.new w (hdC hdZ) 27)
  have K0 := Lib.hid ((Kept.refl w).alloc (.cells (hdC hdZ) 27))
  clear hE1 hs
  generalize (rawP ⟨s, 0⟩ 76).2 = d at HG HD
  generalize gH ⟨s, 0⟩ = X at HG HT
  generalize hE s = E at HD HT ⊢
  generalize hT s = Y at HT ⊢
  go_enter Try.func9, Try.ntmps9
  go_wp2_with (refine wpList_exec 2 rfl (by rfl) _ _ (execAllocHd _ rfl) ?_)
  have hv0 : w.heap.size < (w.alloc (.cells (hdC hdZ) 27)).heap.size := R0.out.lt
  generalize w.alloc (.cells (hdC hdZ) 27) = v0 at R0 K0 hv0 ⊢
  refine (curRead_any s v0).mono ?_
  rintro e v1 ⟨rfl, B1, G1⟩
  replace R0 := Lib.hid (Rowz.grown R0.out G1)
  replace K0 := Lib.hid (K0.out.trans (Grown.kept G1))
  obtain ⟨b, hb⟩ : ∃ b, b = v0.heap.size := ⟨_, rfl⟩
  rw [← hb] at B1 hv0 ⊢
  clear hb G1
  go_wp2_with fail
  refine (HG.out b _ B1).mono ?_
  rintro e v2 ⟨rfl, B2, O2⟩
  have R2 := Lib.hid (Rowz.onlyC R0.out O2 (by omega))
  have K2 := Lib.hid (O2.kept w K0.out (by omega))
  replace B2 := Lib.hid B2
  clear B1 R0 K0 O2 HG
  go_wp2_with (first
    | (refine wpList_exec 5 rfl (by rfl) _ _ (execAllocHd _ rfl) ?_)
    | (refine wpList_store_made rfl 27 _ _ rfl _ _ (hdC X) rfl rfl 27 _ rfl (info_hdr X) (by rw [hdC_size, hdC_size]) (hdC_one X) ?_; intro v3 R5 k3))
  have R3 := Lib.hid (R2.out.kept k3.out)
  have B3 : Hid (CurAt v3 b d) := Lib.hid (B2.out.kept k3.out)
  have K3 := Lib.hid (K2.out.trans k3.out)
  obtain ⟨g5, hg5⟩ : ∃ g, g = v2.heap.size := ⟨_, rfl⟩
  rw [← hg5] at R5 ⊢
  have hg5l : w.heap.size < g5 := by rw [hg5]; exact R2.out.lt
  clear R2 B2 K2 k3 hg5
  refine (HD.out b _ B3.out).mono ?_
  rintro e _ ⟨rfl, rfl⟩
  by_cases h0 : E = 0
  · have HY : Y = X := by rw [HT.out, if_pos h0]
    subst h0
    subst HY
    clear HT
    go_wp2_with (first
      | (refine wpList_exec 17 rfl (by rfl) _ _ (loadHd rfl rfl R5.out) ?_)
      | (refine wpList_store_row rfl 27 _ _ rfl w.heap.size (hdC Y) rfl rfl 27 (hdC hdZ) R3.out (info_hdr _) (by rw [hdC_size, hdC_size]) (hdC_one _) ?_))
    exact bodyPost_ret (results_row_tmp Try.results9 _ _ w.heap.size 27 _ _ _ rfl rfl R3.out.row Try.underlying27 rfl (info_hdr _)) rfl ⟨rfl, K3.out.setRow (Nat.le_refl _) _⟩
  · have HY : Y = hdZ := by rw [HT.out, if_neg h0]
    subst HY
    clear HT
    have hd1 : (E == 0) = false := by simp [h0]
    have hd2 : (E != 0) = true := by simp [h0]
    go_wp2_with (first
      | (refine wpList_exec 15 rfl (by rfl) _ _ (execBuildH0 _ rfl) ?_)
      | (refine wpList_store_row rfl 27 _ _ rfl w.heap.size (hdC hdZ) rfl rfl 27 (hdC hdZ) R3.out (info_hdr _) rfl (hdC_one _) ?_))
    exact bodyPost_ret (results_row_tmp Try.results9 _ _ w.heap.size 27 _ _ _ rfl rfl R3.out.row Try.underlying27 rfl (info_hdr _)) rfl ⟨rfl, K3.out.setRow (Nat.le_refl _) _⟩
end Go.Proofs.Ytdidgenenlefiaa
