/- FnWords: a raw number, its word and its bits tell the same number: the walk. -/
import Derived.Test.YtmaemcfcoieejaaLawH
import Derived.Test.YtmaemcfcoieejaaDrF
import Derived.Test.YtmaemcfcoieejaaWordsM
namespace Go.Proofs.Ytmaemcfcoieejaa
open Go.RowKit
set_option linter.unusedSimpArgs false

theorem byte_cases (c : UInt8) : c.toNat = 49 ∨ c.toNat = 48 ∨ (¬ c.toNat = 49 ∧ ¬ c.toNat = 48) := by omega

set_option maxRecDepth 20000 in
set_option maxHeartbeats 6400000 in
theorem words_with (a : Option Addr) (len cap : Nat) (zs : List Int) (w : World) (hlen : len ≤ 1048576) (h : CodeIs w a len cap zs) (kD : ∀ W, CodeIs W a len cap zs → Calls Try.prog 9 #[.slice a len cap] W (DrawnFI W)) :
    Calls Try.prog 4 #[.slice a len cap] w fun e w' => e = .returned (.bool true) ∧ Below w.heap.size w w' := by
  go_enter Try.func4, Try.ntmps4
  go_wp2_with fail
  refine (big_no a len cap _ hlen).mono ?_
  rintro e w1 ⟨rfl, rfl⟩
  go_wp2_with fail
  refine (kD _ h).mono ?_
  rintro e w2 ⟨g, m, n, v, rfl, b2⟩
  have A3 := Bx3.made w2 (.bool g) (.int .i64 m) (.int .i64 n) 25
  have B3 := b2.alloc b2.size (.cells #[.bool g, .int .i64 m, .int .i64 n] 25)
  have kW := fun W => iWordOf g m n v W
  have kR := fun W => iRawOf g m n (wordR g m n v) W
  have kT := fun W => iBitsText g m n v W
  have kO := fun W => sRawOk g m n v W
  clear kD h b2
  by_cases hr : rawR g m n v = true
  · obtain ⟨f1, f2, f3, f4, f5, f6⟩ := word_facts hr
    obtain ⟨-, l2⟩ := word_lt hr
    obtain ⟨q1, q2⟩ := words_facts hr
    simp only [hr] at kO
    simp only [l2] at kR
    clear l2 hr
    generalize bitsR g m n v = s at *
    generalize wordR g m n v = x at *
    have hs : s.size ≤ 61 := by
      have : (if 0 < n then (1 : Int) else 0) ≤ 1 := by split <;> omega
      omega
    have Q1 : Hid (readB s.data.toList = x) := q1
    clear q1
    go_wp2_with fail
    refine (kW _).mono ?_
    rintro e w4 ⟨rfl, b4⟩
    have A4 := A3.below b4 (Nat.le_refl _)
    have B4 := B3.trans (b4.mono B3.size)
    have d0 := A4.c0
    have d1 := A4.c1
    have d2 := A4.c2
    clear A3 B3 b4
    go_wp2_with fail
    refine (kR _).mono ?_
    rintro e w5 ⟨rfl, b5⟩
    have A5 := A4.below b5 (Nat.le_refl _)
    have B5 := B4.trans (b5.mono B4.size)
    clear A4 B4 b5 d0 d1 d2
    have d0 := A5.c0
    have d1 := A5.c1
    have d2 := A5.c2
    go_wp2_with fail
    refine (kT _).mono ?_
    rintro e w6 ⟨rfl, b6⟩
    have A6 := A5.below b6 (Nat.le_refl _)
    have B6 := B5.trans (b6.mono B5.size)
    clear A5 B5 b6 d0 d1 d2
    have d0 := A6.c0
    have d1 := A6.c1
    have d2 := A6.c2
    go_wp2_with fail
    refine (kO _).mono ?_
    rintro e w7 ⟨rfl, b7⟩
    have A7 := A6.below b7 (Nat.le_refl _)
    have B7 := B6.trans (b7.mono B6.size)
    clear A6 B6 b7 d0 d1 d2 kW kR kT kO
    have d0 := A7.c0
    have d1 := A7.c1
    have d2 := A7.c2
    go_wp2_with fail
    have Q2 : Hid ((s.size : Int) = m + if 0 < n then 1 else 0) := q2
    clear q2
    go_loop [9, 10] (fun y i => ∃ k : Nat, k ≤ s.size ∧ i = .int .i64 k ∧ y = .int .i64 (readB (s.data.toList.take k))) (fun _ i => s.size - (intOf i).toNat)
    case atStart => exact ⟨0, Nat.zero_le _, rfl, rfl⟩
    case round =>
      obtain ⟨k, hk, rfl, rfl⟩ := hrel
      by_cases hlt : k < s.size
      · have hn : Hid (readB (s.data.toList.take (k + 1)) = rdStep (readB (s.data.toList.take k)) s[k]) := by
          show _ = _
          rw [take_rd s k hlt, rd_snoc]
        have t1 := rd_take s.data.toList (k + 1)
        have t0 := rd_pos (s.data.toList.take k)
        have t2 := rd_take s.data.toList k
        rw [Q1.out] at t1 t2
        rw [hn.out] at t1
        have f2' : x < 1152921504606846976 := f2
        rcases byte_cases s[k] with hc | hc | ⟨hc, hc'⟩
        · have e1 : rdStep (readB (s.data.toList.take k)) s[k] = 2 * readB (s.data.toList.take k) + 1 := by unfold rdStep; rw [if_pos hc]
          rw [e1] at t1
          have hn' : Hid (readB (s.data.toList.take (k + 1)) = 2 * readB (s.data.toList.take k) + 1) := by show _ = _; rw [hn.out, e1]
          clear e1 hn
          have hcI : ((s[k].toNat : Nat) : Int) = 49 := by omega
          generalize readB (s.data.toList.take k) = y at *
          go_wp2
          go_round
          case rel => exact ⟨k + 1, by omega, by go_num, by rw [hn'.out]⟩
          case measure => simp [intOf]; omega
        · have e1 : rdStep (readB (s.data.toList.take k)) s[k] = 2 * readB (s.data.toList.take k) := by unfold rdStep; rw [if_neg (by omega), if_pos hc]
          rw [e1] at t1
          have hn' : Hid (readB (s.data.toList.take (k + 1)) = 2 * readB (s.data.toList.take k)) := by show _ = _; rw [hn.out, e1]
          clear e1 hn
          have hcI : ((s[k].toNat : Nat) : Int) = 48 := by omega
          generalize readB (s.data.toList.take k) = y at *
          go_wp2
          go_round
          case rel => exact ⟨k + 1, by omega, by go_num, by rw [hn'.out]⟩
          case measure => simp [intOf]; omega
        · have e1 : rdStep (readB (s.data.toList.take k)) s[k] = readB (s.data.toList.take k) := by unfold rdStep; rw [if_neg hc, if_neg hc']
          have hn' : Hid (readB (s.data.toList.take (k + 1)) = readB (s.data.toList.take k)) := by show _ = _; rw [hn.out, e1]
          clear e1 hn t1
          have hcI : ¬ ((s[k].toNat : Nat) : Int) = 49 := by omega
          have hcJ : ¬ ((s[k].toNat : Nat) : Int) = 48 := by omega
          generalize readB (s.data.toList.take k) = y at *
          go_wp2
          go_round
          case rel => exact ⟨k + 1, by omega, by go_num, by rw [hn'.out]⟩
          case measure => simp [intOf]; omega
      · have hke : k = s.size := by omega
        subst hke
        have ht : readB (s.data.toList.take s.size) = x := by
          rw [← Q1.out]
          congr 1
          exact List.take_of_length_le (by rw [Array.length_toList]; exact Nat.le_refl _)
        rw [ht]
        by_cases h0 : 0 < n
        · have HZ : Hid ((s.size : Int) = m + 1) := by show _ = _; have := Q2.out; rw [if_pos h0] at this; exact this
          clear ht
          have hlt' : ¬ ((s.size : Int) < (s.size : Int)) := by omega
          go_wp2
          go_ret
          exact ⟨by have hz := HZ.out; simp [hz], B7⟩
        · have HZ : Hid ((s.size : Int) = m) := by show _ = _; have := Q2.out; rw [if_neg h0] at this; omega
          clear ht
          have hlt' : ¬ ((s.size : Int) < (s.size : Int)) := by omega
          go_wp2
          go_ret
          exact ⟨by have hz := HZ.out; simp [hz], B7⟩
  · have hr' : rawR g m n v = false := by simpa using hr
    have e1 : wordR g m n v = -1 := by unfold wordR; rw [if_neg hr]
    have e2 : rawOfR g m n (-1) = (0, false) := by unfold rawOfR; rw [if_neg (by omega)]
    have e3 : bitsR g m n v = ⟨#[]⟩ := by unfold bitsR; rw [if_neg hr]
    simp only [hr'] at kO
    simp only [e1] at kW kR
    simp only [e2] at kR
    simp only [e3] at kT
    clear hr hr' e1 e2 e3
    go_wp2_with fail
    refine (kW _).mono ?_
    rintro e w4 ⟨rfl, b4⟩
    have A4 := A3.below b4 (Nat.le_refl _)
    have B4 := B3.trans (b4.mono B3.size)
    have d0 := A4.c0
    have d1 := A4.c1
    have d2 := A4.c2
    clear A3 B3 b4
    go_wp2_with fail
    refine (kR _).mono ?_
    rintro e w5 ⟨rfl, b5⟩
    have A5 := A4.below b5 (Nat.le_refl _)
    have B5 := B4.trans (b5.mono B4.size)
    clear A4 B4 b5 d0 d1 d2
    have d0 := A5.c0
    have d1 := A5.c1
    have d2 := A5.c2
    go_wp2_with fail
    refine (kT _).mono ?_
    rintro e w6 ⟨rfl, b6⟩
    have A6 := A5.below b6 (Nat.le_refl _)
    have B6 := B5.trans (b6.mono B5.size)
    clear A5 B5 b6 d0 d1 d2
    have d0 := A6.c0
    have d1 := A6.c1
    have d2 := A6.c2
    go_wp2_with fail
    refine (kO _).mono ?_
    rintro e w7 ⟨rfl, b7⟩
    have B7 := B6.trans (b7.mono B6.size)
    clear A6 B6 b7 d0 d1 d2 kW kR kT kO
    go_wp2
    go_ret
    exact ⟨by rfl, B7⟩

end Go.Proofs.Ytmaemcfcoieejaa
