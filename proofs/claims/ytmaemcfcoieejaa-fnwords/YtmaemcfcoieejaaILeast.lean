/- Least and Most of the program, each by its contract. -/
import Derived.Test.YtmaemcfcoieejaaSLeast
import Derived.Test.YtmaemcfcoieejaaIFmtOk
namespace Go.Proofs.Ytmaemcfcoieejaa
open Go.RowKit


set_option maxHeartbeats 1600000 in
theorem iLeast (g : Bool) (m n : Int) (w : World) :
    Calls Try.prog 24 #[vF g m n] w fun e w' => e = .returned (.int .i64 (leastR g m n)) ∧ Below w.heap.size w w' := by
  have kF := fun W => iFmtOk g m n W
  have B0 := BoxF.made w g m n 25
  obtain ⟨b, hb⟩ : ∃ b, fok m n = b := ⟨_, rfl⟩
  rw [hb] at kF
  cases b
  · have HR : Hid (leastR g m n = 0) := by show _ = _; unfold leastR; rw [if_neg (by rw [hb]; simp)]
    clear hb
    go_enter Try.func24, Try.ntmps24
    go_wp2_with fail
    refine (kF _).mono ?_
    rintro e w1 ⟨rfl, b1⟩
    have B1 := B0.below b1
    clear B0 b1
    go_wp2
    go_ret
    exact ⟨by rw [HR.out]; rfl, B1.2.2.2.2⟩
  · have hm := of_decide_eq_true hb
    cases g
    · have HR : Hid (leastR false m n = 0) := by show _ = _; unfold leastR; rw [if_neg (by simp)]
      clear hb
      go_enter Try.func24, Try.ntmps24
      go_wp2_with fail
      refine (kF _).mono ?_
      rintro e w1 ⟨rfl, b1⟩
      have B1 := B0.below b1
      clear B0 b1
      obtain ⟨d0, d1, d2, -, -⟩ := id B1
      go_wp2
      go_ret
      exact ⟨by rw [HR.out]; rfl, B1.2.2.2.2⟩
    · obtain ⟨k, rfl⟩ : ∃ k : Nat, m = (k : Int) + 1 := ⟨(m - 1).toNat, by omega⟩
      have HR : Hid (leastR true ((k : Int) + 1) n = -((2 : Int) ^ k)) := by
        show _ = _
        unfold leastR
        rw [if_pos ⟨hb, rfl⟩]
        simp
      have hk : k ≤ 59 := by omega
      have p1 := two_pow_le hk
      have p0 := two_pow_pos k
      have p2 : (2 : Int) ^ k ≤ 576460752303423488 := by omega
      have HP : Hid ((2 : Int) ^ k ≤ 576460752303423488 ∧ 0 < (2 : Int) ^ k) := ⟨p2, p0⟩
      clear p1
      clear hb
      go_enter Try.func24, Try.ntmps24
      go_wp2_with fail
      refine (kF _).mono ?_
      rintro e w1 ⟨rfl, b1⟩
      have B1 := B0.below b1
      clear B0 b1
      obtain ⟨d0, d1, d2, -, -⟩ := id B1
      go_wp2
      go_ret
      exact ⟨by rw [HR.out]; (try simp), B1.2.2.2.2⟩

set_option maxHeartbeats 1600000 in
theorem iMost (g : Bool) (m n : Int) (w : World) :
    Calls Try.prog 25 #[vF g m n] w fun e w' => e = .returned (.int .i64 (mostR g m n)) ∧ Below w.heap.size w w' := by
  have kF := fun W => iFmtOk g m n W
  have B0 := BoxF.made w g m n 25
  obtain ⟨b, hb⟩ : ∃ b, fok m n = b := ⟨_, rfl⟩
  rw [hb] at kF
  cases b
  · have HR : Hid (mostR g m n = 0) := by show _ = _; unfold mostR; rw [if_neg (by rw [hb]; simp)]
    clear hb
    go_enter Try.func25, Try.ntmps25
    go_wp2_with fail
    refine (kF _).mono ?_
    rintro e w1 ⟨rfl, b1⟩
    have B1 := B0.below b1
    clear B0 b1
    go_wp2
    go_ret
    exact ⟨by rw [HR.out]; rfl, B1.2.2.2.2⟩
  · have hm := of_decide_eq_true hb
    cases g
    · obtain ⟨k, rfl⟩ : ∃ k : Nat, m = (k : Int) := ⟨m.toNat, by omega⟩
      have HR : Hid (mostR false (k : Int) n = (2 : Int) ^ k - 1) := by
        show _ = _
        unfold mostR
        rw [if_pos hb]
        simp
      have hk : k ≤ 60 := by omega
      have p1 := two_pow_le hk
      have p0 := two_pow_pos k
      have p2 : (2 : Int) ^ k ≤ 1152921504606846976 := by omega
      clear p1
      clear hb
      go_enter Try.func25, Try.ntmps25
      go_wp2_with fail
      refine (kF _).mono ?_
      rintro e w1 ⟨rfl, b1⟩
      have B1 := B0.below b1
      clear B0 b1
      obtain ⟨d0, d1, d2, -, -⟩ := id B1
      go_wp2
      go_ret
      exact ⟨by rw [HR.out]; (try simp), B1.2.2.2.2⟩
    · obtain ⟨k, rfl⟩ : ∃ k : Nat, m = (k : Int) + 1 := ⟨(m - 1).toNat, by omega⟩
      have HR : Hid (mostR true ((k : Int) + 1) n = (2 : Int) ^ k - 1) := by
        show _ = _
        unfold mostR
        rw [if_pos hb]
        simp
      have hk : k ≤ 60 := by omega
      have p1 := two_pow_le hk
      have p0 := two_pow_pos k
      have p2 : (2 : Int) ^ k ≤ 1152921504606846976 := by omega
      clear p1
      clear hb
      go_enter Try.func25, Try.ntmps25
      go_wp2_with fail
      refine (kF _).mono ?_
      rintro e w1 ⟨rfl, b1⟩
      have B1 := B0.below b1
      clear B0 b1
      obtain ⟨d0, d1, d2, -, -⟩ := id B1
      go_wp2
      go_ret
      exact ⟨by rw [HR.out]; (try simp), B1.2.2.2.2⟩

end Go.Proofs.Ytmaemcfcoieejaa
