/- The program's NatShl and NatShr, each by its contract. -/
import Derived.Test.YtppeabnipnokhaaGDown
import Derived.Test.YtppeabnipnokhaaGFrom
import Derived.Test.YtppeabnipnokhaaSBits
import Derived.Test.YtppeabnipnokhaaGList
namespace Go.Proofs.Ytppeabnipnokhaa
open Go.RowKit

theorem fromN_good {xs : List Int} (h : okB xs = true) : fromN xs = num xs := by unfold fromN; rw [if_pos h]
theorem up_len2 {m j : Nat} (h : (limbs m).length ≤ 48) (hj : j ≤ 1152) : (limbs (m * 2 ^ j)).length ≤ 98 := by
  refine Nat.le_trans (limbs_len_le _ 96 ?_) (by omega)
  have h1 := limbs_lt m
  have h2 := Nat.pow_le_pow_right (by omega : 0 < 16777216) h
  have h3 := Nat.pow_le_pow_right (by omega : 0 < 2) (show j ≤ 24 * 48 by omega)
  rw [← base_pow 48] at h3
  have e2 : (16777216 : Nat) ^ 96 = 16777216 ^ 48 * 16777216 ^ 48 := by rw [← Nat.pow_add]
  rw [e2]
  exact Nat.mul_lt_mul_of_lt_of_le (by omega) (by omega) (Nat.pow_pos (by omega))

set_option maxHeartbeats 1600000 in
theorem iNatShl (va : Value) (xs : List Int) (k : Int) (w : World) (h : rowI w va xs) (hl : xs.length ≤ 1048576) :
    Calls Try.prog 19 #[va, .int .i64 k] w (ansI w (shlR xs k)) := by
  have kt := gFrom va xs w h hl
  have l1 := fromN_len xs
  have hl1 : (limbs (fromN xs)).length ≤ 98 := by omega
  by_cases hok : okB xs = true
  · by_cases hk0 : 0 ≤ k
    · by_cases hk1 : k ≤ 1152
      · obtain ⟨j, rfl⟩ : ∃ j : Nat, k = (j : Int) := ⟨k.toNat, by omega⟩
        have HR : Hid (shlR xs (j : Int) = fitR (fromN xs * 2 ^ j)) := by
          show _ = _
          unfold shlR
          rw [if_pos ⟨hok, hk0, hk1⟩, fromN_good hok]
          rfl
        have q0 : decide ((j : Int) < 0) = false := decide_eq_false (by omega)
        have q1 : decide ((1152 : Int) < (j : Int)) = false := decide_eq_false (by omega)
        rw [hok] at kt
        clear hok
        generalize fromN xs = m at *
        go_enter Try.func19, Try.ntmps19
        go_wp2_with fail
        refine kt.mono ?_
        rintro e w1 ⟨rfl, b1⟩
        have X0 := GB.made0 w1
        have B0 := b1.alloc b1.size (.cells Try.zeroCells45 45)
        have hbs := b1.size
        clear kt b1
        have hl3 : (limbs (m * 2 ^ j)).length ≤ 98 := up_len2 l1 (by omega)
        obtain ⟨N, hN⟩ : ∃ N, m * 2 ^ j = N := ⟨_, rfl⟩
        have kU := gUp w1.heap.size 0 m j
        simp only [hN] at kU
        rw [hN] at HR hl3
        clear hN
        go_wp2_with (first | (refine wpN_store rfl (.tmp 6) (.tmp 11) rfl w1.heap.size _ _ m rfl rfl X0 hl1 ?_; intro w2 X2 t2 s2; have B2 := t2.below B0 B0.size (by simp; omega); have A2 := GN.ga X2 hl1) | (go_at_call 41; refine (kU w2 (by omega) (by omega) A2).mono ?_; rintro e w4 ⟨rfl, b4⟩) | (go_at_call 32; refine (gList N w4 hl3).mono ?_; rintro e w5 ⟨v5, rfl, o5, b5⟩))
        go_ret2
        have B4 := B2.trans (b4.mono B2.size)
        exact ⟨_, by rw [HR.out]; rfl, by rw [HR.out]; exact ownsI_mono o5 B4.size, B4.trans (b5.mono B4.size)⟩
      · have HR : Hid (shlR xs k = ([], false)) := by show _ = _; unfold shlR; rw [if_neg (fun q => hk1 q.2.2)]
        have q0 : decide (k < 0) = false := by simp; omega
        have q1 : decide ((1152 : Int) < k) = true := by simp; omega
        rw [hok] at kt
        clear hok
        generalize fromN xs = m at *
        go_enter Try.func19, Try.ntmps19
        go_wp2_with fail
        refine kt.mono ?_
        rintro e w1 ⟨rfl, b1⟩
        have X0 := GB.made0 w1
        have B0 := b1.alloc b1.size (.cells Try.zeroCells45 45)
        have hbs := b1.size
        clear kt b1
        go_wp2_with (first | (refine wpN_store rfl (.tmp 6) (.tmp 11) rfl w1.heap.size _ _ m rfl rfl X0 hl1 ?_; intro w2 X2 t2 s2; have B2 := t2.below B0 B0.size (by simp; omega); have A2 := GN.ga X2 hl1))
        go_ret2
        exact ⟨_, by rw [HR.out]; rfl, by rw [HR.out]; exact nil_own _ _, B2⟩
    · have HR : Hid (shlR xs k = ([], false)) := by show _ = _; unfold shlR; rw [if_neg (fun q => hk0 q.2.1)]
      have q0 : decide (k < 0) = true := by simp; omega
      rw [hok] at kt
      clear hok
      generalize fromN xs = m at *
      go_enter Try.func19, Try.ntmps19
      go_wp2_with fail
      refine kt.mono ?_
      rintro e w1 ⟨rfl, b1⟩
      have X0 := GB.made0 w1
      have B0 := b1.alloc b1.size (.cells Try.zeroCells45 45)
      have hbs := b1.size
      clear kt b1
      go_wp2_with (first | (refine wpN_store rfl (.tmp 6) (.tmp 11) rfl w1.heap.size _ _ m rfl rfl X0 hl1 ?_; intro w2 X2 t2 s2; have B2 := t2.below B0 B0.size (by simp; omega); have A2 := GN.ga X2 hl1))
      go_ret2
      exact ⟨_, by rw [HR.out]; rfl, by rw [HR.out]; exact nil_own _ _, B2⟩
  · have HR : Hid (shlR xs k = ([], false)) := by show _ = _; unfold shlR; rw [if_neg (fun q => hok q.1)]
    have hf : okB xs = false := by simpa using hok
    rw [hf] at kt
    clear hok hf
    generalize fromN xs = m at *
    go_enter Try.func19, Try.ntmps19
    go_wp2_with fail
    refine kt.mono ?_
    rintro e w1 ⟨rfl, b1⟩
    have X0 := GB.made0 w1
    have B0 := b1.alloc b1.size (.cells Try.zeroCells45 45)
    have hbs := b1.size
    clear kt b1
    go_wp2_with (first | (refine wpN_store rfl (.tmp 6) (.tmp 11) rfl w1.heap.size _ _ m rfl rfl X0 hl1 ?_; intro w2 X2 t2 s2; have B2 := t2.below B0 B0.size (by simp; omega); have A2 := GN.ga X2 hl1))
    go_ret2
    exact ⟨_, by rw [HR.out]; rfl, by rw [HR.out]; exact nil_own _ _, B2⟩

set_option maxHeartbeats 1600000 in
theorem iNatShr (va : Value) (xs : List Int) (k : Int) (w : World) (h : rowI w va xs) (hl : xs.length ≤ 1048576) :
    Calls Try.prog 21 #[va, .int .i64 k] w (ansI w (shrR xs k)) := by
  have kt := gFrom va xs w h hl
  have l1 := fromN_len xs
  have hl1 : (limbs (fromN xs)).length ≤ 98 := by omega
  by_cases hok : okB xs = true
  · by_cases hk0 : 0 ≤ k
    · by_cases hk1 : k ≤ 1152
      · obtain ⟨j, rfl⟩ : ∃ j : Nat, k = (j : Int) := ⟨k.toNat, by omega⟩
        have HR : Hid (shrR xs (j : Int) = fitR (fromN xs / 2 ^ j)) := by
          show _ = _
          unfold shrR
          rw [if_pos ⟨hok, hk0, hk1⟩, fromN_good hok]
          unfold fitR
          rw [if_pos (by have a1 := fromN_len xs; rw [fromN_good hok] at a1; have := limbs_mono (m := num xs) (n := num xs / 2 ^ j) (Nat.div_le_self _ _); omega)]
          rfl
        have q0 : decide ((j : Int) < 0) = false := decide_eq_false (by omega)
        have q1 : decide ((1152 : Int) < (j : Int)) = false := decide_eq_false (by omega)
        rw [hok] at kt
        clear hok
        generalize fromN xs = m at *
        go_enter Try.func21, Try.ntmps21
        go_wp2_with fail
        refine kt.mono ?_
        rintro e w1 ⟨rfl, b1⟩
        have X0 := GB.made0 w1
        have B0 := b1.alloc b1.size (.cells Try.zeroCells45 45)
        have hbs := b1.size
        clear kt b1
        have hl3 : (limbs (m / 2 ^ j)).length ≤ 98 := by have := limbs_mono (m := m) (n := m / 2 ^ j) (Nat.div_le_self _ _); omega
        obtain ⟨N, hN⟩ : ∃ N, m / 2 ^ j = N := ⟨_, rfl⟩
        have kU := gDown w1.heap.size 0 m j
        simp only [hN] at kU
        rw [hN] at HR hl3
        clear hN
        go_wp2_with (first | (refine wpN_store rfl (.tmp 6) (.tmp 11) rfl w1.heap.size _ _ m rfl rfl X0 hl1 ?_; intro w2 X2 t2 s2; have B2 := t2.below B0 B0.size (by simp; omega); have A2 := GN.ga X2 hl1) | (go_at_call 43; refine (kU w2 (by omega) (by omega) A2).mono ?_; rintro e w4 ⟨rfl, b4⟩) | (go_at_call 32; refine (gList N w4 hl3).mono ?_; rintro e w5 ⟨v5, rfl, o5, b5⟩))
        go_ret2
        have B4 := B2.trans (b4.mono B2.size)
        exact ⟨_, by rw [HR.out]; rfl, by rw [HR.out]; exact ownsI_mono o5 B4.size, B4.trans (b5.mono B4.size)⟩
      · have HR : Hid (shrR xs k = ([], false)) := by show _ = _; unfold shrR; rw [if_neg (fun q => hk1 q.2.2)]
        have q0 : decide (k < 0) = false := by simp; omega
        have q1 : decide ((1152 : Int) < k) = true := by simp; omega
        rw [hok] at kt
        clear hok
        generalize fromN xs = m at *
        go_enter Try.func21, Try.ntmps21
        go_wp2_with fail
        refine kt.mono ?_
        rintro e w1 ⟨rfl, b1⟩
        have X0 := GB.made0 w1
        have B0 := b1.alloc b1.size (.cells Try.zeroCells45 45)
        have hbs := b1.size
        clear kt b1
        go_wp2_with (first | (refine wpN_store rfl (.tmp 6) (.tmp 11) rfl w1.heap.size _ _ m rfl rfl X0 hl1 ?_; intro w2 X2 t2 s2; have B2 := t2.below B0 B0.size (by simp; omega); have A2 := GN.ga X2 hl1))
        go_ret2
        exact ⟨_, by rw [HR.out]; rfl, by rw [HR.out]; exact nil_own _ _, B2⟩
    · have HR : Hid (shrR xs k = ([], false)) := by show _ = _; unfold shrR; rw [if_neg (fun q => hk0 q.2.1)]
      have q0 : decide (k < 0) = true := by simp; omega
      rw [hok] at kt
      clear hok
      generalize fromN xs = m at *
      go_enter Try.func21, Try.ntmps21
      go_wp2_with fail
      refine kt.mono ?_
      rintro e w1 ⟨rfl, b1⟩
      have X0 := GB.made0 w1
      have B0 := b1.alloc b1.size (.cells Try.zeroCells45 45)
      have hbs := b1.size
      clear kt b1
      go_wp2_with (first | (refine wpN_store rfl (.tmp 6) (.tmp 11) rfl w1.heap.size _ _ m rfl rfl X0 hl1 ?_; intro w2 X2 t2 s2; have B2 := t2.below B0 B0.size (by simp; omega); have A2 := GN.ga X2 hl1))
      go_ret2
      exact ⟨_, by rw [HR.out]; rfl, by rw [HR.out]; exact nil_own _ _, B2⟩
  · have HR : Hid (shrR xs k = ([], false)) := by show _ = _; unfold shrR; rw [if_neg (fun q => hok q.1)]
    have hf : okB xs = false := by simpa using hok
    rw [hf] at kt
    clear hok hf
    generalize fromN xs = m at *
    go_enter Try.func21, Try.ntmps21
    go_wp2_with fail
    refine kt.mono ?_
    rintro e w1 ⟨rfl, b1⟩
    have X0 := GB.made0 w1
    have B0 := b1.alloc b1.size (.cells Try.zeroCells45 45)
    have hbs := b1.size
    clear kt b1
    go_wp2_with (first | (refine wpN_store rfl (.tmp 6) (.tmp 11) rfl w1.heap.size _ _ m rfl rfl X0 hl1 ?_; intro w2 X2 t2 s2; have B2 := t2.below B0 B0.size (by simp; omega); have A2 := GN.ga X2 hl1))
    go_ret2
    exact ⟨_, by rw [HR.out]; rfl, by rw [HR.out]; exact nil_own _ _, B2⟩

end Go.Proofs.Ytppeabnipnokhaa
