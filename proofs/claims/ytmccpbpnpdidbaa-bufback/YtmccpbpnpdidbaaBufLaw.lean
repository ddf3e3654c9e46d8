/-
  For the laws of buf: 'much', 'awake'. No condition.
-/
import Derived.Test.YtmccpbpnpdidbaaLawLibD
namespace Go.Proofs.Ytmccpbpnpdidbaa
open Go.RowKit

theorem StepAt9.same {w : World} {p : Option Addr} {i : Nat} {k k' : Int} {S S' : ByteArray} {n n' : Nat} {h h' : List UInt8} (a : StepAt9 w p i k S n h) (b : StepAt9 w p i k' S' n' h') : S = S' := by
  obtain ⟨q, rfl⟩ : ∃ q, p = some q := by obtain ⟨q, h, _⟩ := a; exact ⟨q, h⟩
  have e := a.str.symm.trans b.str
  injection e with e
  injection e
/-- Two buffers, apart from each other and from what was there. -/
def Pair (w wr : World) (g1 g2 : Nat) (r1 r2 : Option Nat) (s1 s2 : ByteArray) : Prop :=
  (BufAt wr g1 r1 s1 ∧ BufAt wr g2 r2 s2) ∧ (g1 ≠ g2 ∧ r1 ≠ some g2 ∧ r2 ≠ some g1 ∧ ∀ k, r1 = some k → r2 ≠ some k) ∧ Kept w wr ∧ Over w.heap.size (some g1) r1 ∧ Over w.heap.size (some g2) r2
theorem Pair.symm {w wr : World} {g1 g2 : Nat} {r1 r2 : Option Nat} {s1 s2 : ByteArray} (h : Pair w wr g1 g2 r1 r2 s1 s2) : Pair w wr g2 g1 r2 r1 s2 s1 := by
  obtain ⟨⟨a, b⟩, ⟨c1, c2, c3, c4⟩, d, e, f⟩ := h
  exact ⟨⟨b, a⟩, ⟨fun h => c1 h.symm, c3, c2, fun k hk h => c4 k h hk⟩, d, f, e⟩
theorem Pair.put {w wr w' : World} {g1 g2 : Nat} {r1 r2 r1' : Option Nat} {s1 s2 s1' : ByteArray} (h : Pair w wr g1 g2 r1 r2 s1 s2) (hb : BufV w' (.pointer (some ⟨g1, 0, none⟩)) (some g1) r1' s1') (k : Wrote (some g1) r1 wr r1' w') : Pair w w' g1 g2 r1' r2 s1' s2 := by
  obtain ⟨⟨a, b⟩, ⟨c1, c2, c3, c4⟩, d, e, f⟩ := h
  have hb' : BufAt w' g1 r1' s1' := by
    rcases hb with ⟨h, _⟩ | ⟨b, _, h2, h3⟩
    · cases h
    · rwa [← Option.some.inj h2] at h3
  have l2 := b.lt
  refine ⟨⟨hb', b.other k fun i hi => ?_⟩, ⟨c1, ?_, c3, ?_⟩, k.kept d e, e.wrote k d.size, f⟩
  · rcases hi with rfl | hi
    · exact ⟨fun h => c1 (Option.some.inj h).symm, fun h => c2 h.symm⟩
    · exact ⟨fun h => c3 (by rw [hi, h]), fun h => c4 i h.symm hi⟩
  · rcases k.2.2 with e | ⟨j, e, hj⟩
    · rw [e]; exact c2
    · rw [e]; intro h; have := Option.some.inj h; have := l2.1; omega
  · intro j hj hr
    rcases k.2.2 with e | ⟨i, e, hi⟩
    · exact c4 j (e ▸ hj) hr
    · have := Option.some.inj (e.symm.trans hj); have := l2.2 j hr; omega
theorem Pair.kept {w wr w' : World} {g1 g2 : Nat} {r1 r2 : Option Nat} {s1 s2 : ByteArray} (h : Pair w wr g1 g2 r1 r2 s1 s2) (K : Kept wr w') : Pair w w' g1 g2 r1 r2 s1 s2 := by
  obtain ⟨⟨a, b⟩, c, d, e, f⟩ := h
  exact ⟨⟨a.kept K, b.kept K⟩, c, d.trans K, e, f⟩
theorem Wrote.none {w w' : World} {r' : Option Nat} (h : Wrote none none w r' w') : Kept w w' := Wrote.kept h (Kept.refl w) (fun k hk => by simp at hk)
set_option maxRecDepth 100000 in
set_option maxHeartbeats 1000000 in
theorem much9_any (p : Option Addr) (n c : Nat) (w : World) (hn : n ≤ maxLen) (hs : ∀ i, i < n → ∃ (k : Int) (S : ByteArray) (m : Nat) (l : List UInt8), (S.size ≤ maxLen ∧ m < 18446744073709551616 ∧ l.length = 32) ∧ StepAt9 w p i k S m l) :
    Calls Try.prog 5 #[.slice p n c] w fun e w' => ∃ b, e = .returned (.bool b) ∧ w = w' ∧ (b = false → n ≤ 100 ∧ ∀ i k S m l, i < n → StepAt9 w p i k S m l → S.size ≤ 2000) := by
  have HS := Lib.hid hs
  have hn' : n ≤ 9223372036854775807 := hn
  clear hs hn
  go_enter Try.func5, Try.ntmps5
  go_wp2_with fail
  go_loopw [3, 4] (fun a i wr => ∃ (t k : Nat), a = .int .i64 (t : Int) ∧ i = .int .i64 (k : Int) ∧ k ≤ n ∧ k ≤ 101 ∧ t ≤ 2000 * k ∧ wr = w ∧ Hid (∀ i k' S m l, i < k → StepAt9 w p i k' S m l → S.size ≤ 2000)) (fun _ i _ => 101 - (intOf i).toNat)
  case atStart => exact ⟨0, 0, rfl, rfl, by omega, by omega, by omega, rfl, Lib.hid fun i _ _ _ _ hi => absurd hi (Nat.not_lt_zero _)⟩
  case round =>
    obtain ⟨t, k, rfl, rfl, hk1, hk2, ht, rfl, HA⟩ := hrel
    by_cases hgo : k < n ∧ k < 101
    · obtain ⟨h1, h2⟩ := hgo
      have hd1 : decide ((k : Int) < (n : Int)) = true := decide_eq_true (by omega)
      have hd1' : decide (k < n) = true := decide_eq_true (by omega)
      have hd2 : decide ((k : Int) < 101) = true := decide_eq_true (by omega)
      obtain ⟨k', S, m, l, ⟨hz, _, _⟩, hst⟩ := HS.out k h1
      obtain ⟨q, rfl⟩ : ∃ q, p = some q := by obtain ⟨q, h, _⟩ := hst; exact ⟨q, h⟩
      have hc0 : wr.cell? ((q.add (k * 35)).add 1) = some (.string S) := by rw [Deep.add_add]; exact hst.str
      have hc : wr.cell? ⟨(q.add (k * 35)).block, (q.add (k * 35)).off + 1, none⟩ = some (.string S) := hc0
      clear hc0
      have HT := Lib.hid hst
      clear hst
      by_cases h3 : S.size ≤ 2000
      · have hd3 : decide ((S.size : Int) > 2000) = false := decide_eq_false (by omega)
        go_wp2_with fail
        go_roundw
        case measure => simp [intOf]; omega
        case rel =>
          refine ⟨t + S.size, k + 1, by go_num, by go_num, by omega, by omega, by omega, trivial, Lib.hid ?_⟩
          intro i k2 S2 m2 l2 hi hs2
          by_cases hik : i < k
          · exact HA.out i k2 S2 m2 l2 hik hs2
          · obtain rfl : i = k := by omega
            rw [← StepAt9.same HT.out hs2]
            exact h3
      · have hd3 : decide ((S.size : Int) > 2000) = true := decide_eq_true (by omega)
        go_wp2_with fail
        go_ret
        exact ⟨true, rfl, rfl, nofun⟩
    · by_cases h1 : k < n
      · have hd1 : decide ((k : Int) < (n : Int)) = true := decide_eq_true (by omega)
        have hd1' : decide (k < n) = true := decide_eq_true (by omega)
        have hd2 : decide ((k : Int) < 101) = false := decide_eq_false (by omega)
        have hd4 : decide ((n : Int) > 100) = true := decide_eq_true (by omega)
        clear hgo
        go_wp2_with fail
        go_ret
        exact ⟨true, rfl, rfl, nofun⟩
      · have hd1 : decide ((k : Int) < (n : Int)) = false := decide_eq_false (by omega)
        have hd1' : decide (k < n) = false := decide_eq_false (by omega)
        obtain rfl : k = n := by omega
        clear hgo
        by_cases h4 : k ≤ 100
        · have hd4 : decide ((k : Int) > 100) = false := decide_eq_false (by omega)
          go_wp2_with fail
          go_ret
          exact ⟨_, rfl, rfl, fun _ => ⟨h4, fun i k' S m l hi h => HA.out i k' S m l hi h⟩⟩
        · have hd4 : decide ((k : Int) > 100) = true := decide_eq_true (by omega)
          go_wp2_with fail
          go_ret
          exact ⟨true, rfl, rfl, nofun⟩
theorem awake9_str : noB ++ vS 300 ++ (vS 1 ++ (⟨#[97]⟩ : ByteArray)) = ⟨#[172, 2, 1, 97]⟩ := by
  rw [vS, vS, vs_more 300 (by omega), vs_one (300 / 128) (by omega), vs_one 1 (by omega)]
  rfl
set_option maxRecDepth 100000 in
theorem awake9_any (w : World) : Calls Try.prog 6 #[] w fun e w' => e = .returned (.bool true) ∧ Kept w w' := by
  have HN := Lib.hid (bufNew_any w)
  go_enter Try.func6, Try.ntmps6
  go_wp2_with fail
  refine HN.out.mono ?_
  rintro e w1 ⟨rfl, B1, G1⟩
  obtain ⟨g, hg⟩ : ∃ g, g = w.heap.size := ⟨_, rfl⟩
  have hgw : w.heap.size ≤ g := by omega
  rw [← hg] at B1 ⊢
  clear hg
  replace B1 := Lib.hid B1
  replace G1 := Lib.hid (Grown.kept G1)
  go_wp2_with fail
  refine (bufNum_any _ (some g) none noB 300 (by omega) w1 (.inr ⟨g, rfl, rfl, B1.out⟩) (by decide +kernel)).mono ?_
  rintro e w2 ⟨rfl, r2, B2, W2⟩
  replace B2 := Lib.hid B2
  replace W2 := Lib.hid W2
  go_wp2_with fail
  refine (bufText_any _ (some g) r2 (noB ++ vS 300) ⟨#[97]⟩ (by decide +kernel) w2 B2.out (by decide +kernel)).mono ?_
  rintro e w3 ⟨rfl, r3, B3, W3⟩
  have B4 : BufAt w3 g r3 ⟨#[172, 2, 1, 97]⟩ := by
    rcases B3 with ⟨h, _⟩ | ⟨b, h, h2, h3⟩
    · cases h
    · obtain rfl := Option.some.inj h2
      have e : noB ++ vS 300 ++ (vS (⟨#[97]⟩ : ByteArray).size ++ (⟨#[97]⟩ : ByteArray)) = ⟨#[172, 2, 1, 97]⟩ := awake9_str
      rwa [e] at h3
  replace B4 := Lib.hid B4
  have HK : Hid (Kept w w3) := Lib.hid ((Wrote.trans W2.out W3).kept G1.out (fun k hk => by
    rcases hk with hk | hk
    · rw [← Option.some.inj hk]; exact hgw
    · cases hk))
  clear B1 G1 B2 W2 W3 B3 HN
  go_wp2_with fail
  refine (bufBytes_any g r3 _ w3 B4.out).mono ?_
  rintro e w4 ⟨rfl, rfl⟩
  go_wp2_with fail
  refine (bufLen_any g r3 _ w3 B4.out).mono ?_
  rintro e w4 ⟨rfl, rfl⟩
  have hsz : ((⟨#[172, 2, 1, 97]⟩ : ByteArray).size : Int) = 4 := rfl
  go_wp2_with fail
  go_ret
  exact ⟨rfl, HK.out⟩
end Go.Proofs.Ytmccpbpnpdidbaa
