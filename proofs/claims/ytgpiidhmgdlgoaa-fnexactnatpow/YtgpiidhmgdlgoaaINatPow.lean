/- The program's NatPow, by its contract. -/
import Derived.Test.YtgpiidhmgdlgoaaGTimes
import Derived.Test.YtgpiidhmgdlgoaaGList
import Derived.Test.YtgpiidhmgdlgoaaDivR
namespace Go.Proofs.Ytgpiidhmgdlgoaa
open Go.RowKit

theorem pow_long {m i j : Nat} (h : 48 < (limbs (m ^ i)).length) (hij : i ≤ j) : 48 < (limbs (m ^ j)).length := by
  have hm : 0 < m := by
    apply Classical.byContradiction
    intro h0
    have e : m = 0 := by omega
    subst e
    have h1 : (0 : Nat) ^ i ≤ 1 := by
      cases i with
      | zero => simp
      | succ i => simp
    have := limbs_len_le (0 ^ i) 1 (by omega)
    omega
  have := limbs_mono (m := m ^ j) (n := m ^ i) (Nat.pow_le_pow_right hm hij)
  omega

set_option maxHeartbeats 3200000 in
theorem iNatPow (n k : Int) (w : World) : Calls Try.prog 42 #[.int .i64 n, .int .i64 k] w (ansI w (powR n k)) := by
  by_cases h1 : n < 0
  · have HR : Hid (powR n k = ([], false)) := by show _ = _; unfold powR; rw [if_neg (by omega)]
    have q1 : decide (n < 0) = true := decide_eq_true (by omega)
    go_enter Try.func42, Try.ntmps42
    go_wp2
    go_ret2
    exact ⟨_, by rw [HR.out]; rfl, by rw [HR.out]; exact nil_own _ _, Below.refl _ _⟩
  by_cases h2 : 16777215 < n
  · have HR : Hid (powR n k = ([], false)) := by show _ = _; unfold powR; rw [if_neg (by omega)]
    have q1 : decide (n < 0) = false := decide_eq_false (by omega)
    have q2 : decide ((16777215 : Int) < n) = true := decide_eq_true (by omega)
    go_enter Try.func42, Try.ntmps42
    go_wp2
    go_ret2
    exact ⟨_, by rw [HR.out]; rfl, by rw [HR.out]; exact nil_own _ _, Below.refl _ _⟩
  by_cases h3 : k < 0
  · have HR : Hid (powR n k = ([], false)) := by show _ = _; unfold powR; rw [if_neg (by omega)]
    have q1 : decide (n < 0) = false := decide_eq_false (by omega)
    have q2 : decide ((16777215 : Int) < n) = false := decide_eq_false (by omega)
    have q3 : decide (k < 0) = true := decide_eq_true (by omega)
    go_enter Try.func42, Try.ntmps42
    go_wp2
    go_ret2
    exact ⟨_, by rw [HR.out]; rfl, by rw [HR.out]; exact nil_own _ _, Below.refl _ _⟩
  by_cases h4 : 1000 < k
  · have HR : Hid (powR n k = ([], false)) := by show _ = _; unfold powR; rw [if_neg (by omega)]
    have q1 : decide (n < 0) = false := decide_eq_false (by omega)
    have q2 : decide ((16777215 : Int) < n) = false := decide_eq_false (by omega)
    have q3 : decide (k < 0) = false := decide_eq_false (by omega)
    have q4 : decide ((1000 : Int) < k) = true := decide_eq_true (by omega)
    go_enter Try.func42, Try.ntmps42
    go_wp2
    go_ret2
    exact ⟨_, by rw [HR.out]; rfl, by rw [HR.out]; exact nil_own _ _, Below.refl _ _⟩
  obtain ⟨m, rfl⟩ : ∃ m : Nat, n = m := ⟨n.toNat, by omega⟩
  obtain ⟨j, rfl⟩ : ∃ j : Nat, k = j := ⟨k.toNat, by omega⟩
  have HE : Hid (powR m j = fitR (m ^ j)) := by show _ = _; rw [powR, if_pos ⟨by omega, by omega, by omega, by omega⟩, Int.toNat_natCast, Int.toNat_natCast]
  have hlm : (limbs m).length ≤ 1 := limbs_len_le m 1 (by omega)
  have hj : j ≤ 1000 := by omega
  have hm : m ≤ 16777215 := by omega
  have q1 : decide ((m : Int) < 0) = false := decide_eq_false h1
  have q2 : decide ((16777215 : Int) < (m : Int)) = false := decide_eq_false h2
  have q3 : decide ((j : Int) < 0) = false := decide_eq_false h3
  have q4 : decide ((1000 : Int) < (j : Int)) = false := decide_eq_false h4
  have k1 := fun W => gOf m W (by omega)
  obtain ⟨u, hu⟩ : ∃ u : Nat, u = 1 := ⟨1, rfl⟩
  have k2 : ∀ W, Calls Try.prog 43 #[.int .u64 1] W fun e w' => e = .returned (.agg (gC u)) ∧ Below W.heap.size W w' := fun W => by rw [hu]; exact gOf 1 W (by omega)
  have hl1 : (limbs u).length ≤ 1 := limbs_len_le u 1 (by omega)
  have HU : Hid (u = 1) := hu
  clear hu
  clear h1 h2 h3 h4
  go_enter Try.func42, Try.ntmps42
  go_wp2_with fail
  refine (k1 _).mono ?_
  rintro e w1 ⟨rfl, b1⟩
  have F0 := GB.made0 w1
  have B0 := b1.alloc b1.size (.cells Try.zeroCells45 45)
  have hb1 := b1.size
  go_wp2_with (first
    | (go_at_call 43
       refine (k2 _).mono ?_
       rintro e w3 ⟨rfl, b3⟩
       have F3 := (GN.below F2 b3 (GN.lt F2)).alloc (.cells Try.zeroCells45 45)
       have B3 := B2.trans (b3.mono B2.size)
       have P0 := GB.made0 w3
       have B4 := B3.alloc B3.size (.cells Try.zeroCells45 45)
       have hb3 := B3.size
       have hne : w1.heap.size < w3.heap.size := by have h5 := b3.size; have h6 : (w1.alloc (.cells Try.zeroCells45 45)).heap.size = w1.heap.size + 1 := (by simp); omega)
    | ((with_reducible (refine wpL_id ?_)); refine wpN_store rfl (.tmp 6) (.tmp 25) rfl w1.heap.size _ _ m rfl rfl F0 (by omega) ?_; intro w2 F2 t2 s2; have B2 := t2.below B0 B0.size (by simp; omega))
    | ((with_reducible (refine wpL_id ?_)); refine wpN_store rfl (.tmp 7) (.tmp 26) rfl w3.heap.size _ _ u rfl rfl P0 (by omega) ?_; intro w4 P4 t4 s4))
  have F4 := GN.tn F3 t4 (by simp; omega)
  have B5 := t4.below B4 B4.size (by simp; omega)
  clear F3 B4 B3 B2 P0 t4 s4 s2 k1 k2 b1 b3 B0 F0 F2 t2
  generalize w1.heap.size = f1 at *
  generalize w3.heap.size = f2 at *
  go_loopw [8] (fun v wr => ∃ i : Nat, i ≤ j ∧ v = .int .i64 i ∧ GN wr f2 (m ^ i) ∧ (limbs (m ^ i)).length ≤ 49 ∧ GN wr f1 m ∧ Below w.heap.size w wr) (fun v _ => j - (intOf v).toNat)
  case atStart => exact ⟨0, Nat.zero_le _, rfl, by rw [Nat.pow_zero, ← HU.out]; exact P4, by rw [Nat.pow_zero, ← HU.out]; omega, F4, B5⟩
  case round =>
    clear P4 F4 B5
    obtain ⟨i, hi, rfl, hP, hlp, hF, hB⟩ := hrel
    have c98 := GB.size hP
    have A1 := GN.ga hP (by omega)
    have A2 := GN.ga hF (by omega)
    have hs : m ^ i * m = m ^ (i + 1) := (Nat.pow_succ ..).symm
    have hpl : 48 < (limbs (m ^ i)).length → fitR (m ^ j) = fitR (m ^ i) := fun h => by
      have := pow_long h hi
      unfold fitR
      rw [if_neg (by omega), if_neg (by omega)]
    have HPL : Hid ((48 < (limbs (m ^ i)).length → fitR (m ^ j) = fitR (m ^ i)) ∧ (i = j → fitR (m ^ j) = fitR (m ^ i))) := ⟨hpl, fun e => by rw [e]⟩
    obtain ⟨N, hN⟩ : ∃ N, m ^ i = N := ⟨_, rfl⟩
    rw [hN] at hP hlp c98 A1 hs HPL
    have HS : Hid (N * m = m ^ (i + 1)) := hs
    have hbs := hB.size
    clear hN hs hpl
    by_cases hlt : i < j
    · by_cases h48 : (limbs N).length ≤ 48
      · have r1 : decide ((i : Int) < (j : Int)) = true := decide_eq_true (by omega)
        have r2 : decide (((limbs N).length : Int) ≤ 48) = true := decide_eq_true (by omega)
        have hl2 : (limbs (N * m)).length ≤ 49 := by have := mul_limbs_len N m; omega
        have HQ : Hid (GN wr f2 N ∧ GN wr f1 m ∧ Below w.heap.size w wr) := ⟨hP, hF, hB⟩
        have kT := gTimes f2 0 f1 0 N m wr (by omega) A1 A2
        obtain ⟨M, hM⟩ : ∃ M, N * m = M := ⟨_, rfl⟩
        rw [hM] at kT hl2 HS
        have hlt' : (i : Int) < (j : Int) := by omega
        clear hM hP hF hB A1 A2 hlp
        go_wp2_with fail
        refine kT.mono ?_
        rintro e w5 ⟨rfl, b5⟩
        have P5 := GN.below HQ.out.1 b5 (GN.lt HQ.out.1)
        have F5 := GN.below HQ.out.2.1 b5 (GN.lt HQ.out.2.1)
        have B6 := HQ.out.2.2.trans (b5.mono hbs)
        have P5' : GB w5 f2 (pad (limbs N)) ((limbs N).length : Int) := P5
        go_wp2_with (first | ((with_reducible (refine wpL_id ?_)); refine wpN_store rfl (.tmp 7) (.tmp 37) rfl f2 _ _ M rfl rfl P5' (by omega) ?_; intro w6 P6 t6 s6))
        have F6 := GN.tn F5 t6 (by simp; omega)
        have B7 := t6.below B6 B6.size (by simp; omega)
        go_roundw
        case rel => exact ⟨i + 1, by omega, by go_num, by rw [← HS.out]; exact P6, by rw [← HS.out]; exact hl2, F6, B7⟩
        case measure => simp [intOf]; omega
      · have r1 : decide ((i : Int) < (j : Int)) = true := decide_eq_true (by omega)
        have r2 : decide (((limbs N).length : Int) ≤ 48) = false := decide_eq_false (by omega)
        have HF := HPL.out.1 (by omega)
        have HE2 : Hid (powR m j = fitR N) := by show _ = _; rw [HE.out]; exact HF
        have hlt' : (i : Int) < (j : Int) := by omega
        have HB : Hid (Below w.heap.size w wr) := hB
        clear HF HPL hB hP hF A2
        go_wp2_with (first | (refine wpA_load rfl (.tmp 7) rfl f2 0 N rfl A1 ?_) | (go_at_call 44; refine (gList N wr (by omega)).mono ?_; rintro e w5 ⟨v5, rfl, o5, b5⟩))
        go_ret2
        exact ⟨_, by rw [HE2.out]; rfl, by rw [HE2.out]; exact ownsI_mono o5 hbs, HB.out.trans (b5.mono hbs)⟩
    · have r1 : decide ((i : Int) < (j : Int)) = false := decide_eq_false (by omega)
      have HF := HPL.out.2 (by omega)
      have HE2 : Hid (powR m j = fitR N) := by show _ = _; rw [HE.out]; exact HF
      have HB : Hid (Below w.heap.size w wr) := hB
      have hlt' : ¬ (i : Int) < (j : Int) := by omega
      clear HF HPL hB hP hF A2
      go_wp2_with (first | (refine wpA_load rfl (.tmp 7) rfl f2 0 N rfl A1 ?_) | (go_at_call 44; refine (gList N wr (by omega)).mono ?_; rintro e w5 ⟨v5, rfl, o5, b5⟩))
      go_ret2
      exact ⟨_, by rw [HE2.out]; rfl, by rw [HE2.out]; exact ownsI_mono o5 hbs, HB.out.trans (b5.mono hbs)⟩

end Go.Proofs.Ytgpiidhmgdlgoaa
