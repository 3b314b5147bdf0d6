/- WordOf, of the specification and of the program, by one contract. -/
import Derived.Test.YtmaemcfcoieejaaRawOk
namespace Go.Proofs.Ytmaemcfcoieejaa
open Go.RowKit
set_option linter.unusedSimpArgs false

def wordR (g : Bool) (m n v : Int) : Int := if rawR g m n v = true then (if v < 0 then v + (2 : Int) ^ m.toNat else v) else -1
theorem raw_facts {g : Bool} {m n v : Int} (h : rawR g m n v = true) : (2 ≤ m ∧ m ≤ 60) ∧ -1152921504606846976 ≤ v ∧ v ≤ 1152921504606846976 := by
  unfold rawR at h
  simp only [Bool.and_eq_true, decide_eq_true_eq] at h
  obtain ⟨⟨h1, h2⟩, h3⟩ := h
  have hm := of_decide_eq_true h1
  have p1 := two_pow_le (show m.toNat ≤ 60 by omega)
  have p2 := two_pow_le (show (m - 1).toNat ≤ 60 by omega)
  have p3 := two_pow_pos m.toNat
  have p4 := two_pow_pos (m - 1).toNat
  refine ⟨⟨hm.1, hm.2.1⟩, ?_, ?_⟩
  · unfold leastR at h2
    split at h2 <;> omega
  · unfold mostR at h3
    rw [if_pos h1] at h3
    split at h3 <;> omega

set_option maxHeartbeats 1600000 in
theorem sWordOf (g : Bool) (m n v : Int) (w : World) :
    Calls Try.prog 13 #[vF g m n, .int .i64 v] w fun e w' => e = .returned (.int .i64 (wordR g m n v)) ∧ Below w.heap.size w w' := by
  have kR := fun W => sRawOk g m n v W
  have B0 := BoxF.made w g m n 25
  obtain ⟨b, hb⟩ : ∃ b, rawR g m n v = b := ⟨_, rfl⟩
  rw [hb] at kR
  cases b
  · have HR : Hid (wordR g m n v = -1) := by show _ = _; unfold wordR; rw [if_neg (by rw [hb]; simp)]
    clear hb
    go_enter Try.func13, Try.ntmps13
    go_wp2_with fail
    refine (kR _).mono ?_
    rintro e w1 ⟨rfl, b1⟩
    have B1 := B0.below b1
    clear B0 b1
    go_wp2
    go_ret
    exact ⟨by rw [HR.out]; rfl, B1.2.2.2.2⟩
  · obtain ⟨h1, h2, h3⟩ := raw_facts hb
    obtain ⟨k, rfl⟩ : ∃ k : Nat, m = (k : Int) := ⟨m.toNat, by omega⟩
    have hk : k ≤ 60 := by omega
    have p1 := two_pow_le hk
    have p0 := two_pow_pos k
    have p2 : (2 : Int) ^ k ≤ 1152921504606846976 := by omega
    clear p1
    by_cases hv : v < 0
    · have HR : Hid (wordR g (k : Int) n v = v + (2 : Int) ^ k) := by show _ = _; unfold wordR; rw [if_pos hb, if_pos hv]; simp
      have q : decide (v < 0) = true := decide_eq_true hv
      clear hb
      go_enter Try.func13, Try.ntmps13
      go_wp2_with fail
      refine (kR _).mono ?_
      rintro e w1 ⟨rfl, b1⟩
      have B1 := B0.below b1
      clear B0 b1
      obtain ⟨d0, d1, d2, -, -⟩ := id B1
      go_wp2_with fail
      refine (sPow k _ (by omega)).mono ?_
      rintro e w2 ⟨rfl, rfl⟩
      go_wp2
      go_ret
      exact ⟨by rw [HR.out]; (try simp), B1.2.2.2.2⟩
    · have HR : Hid (wordR g (k : Int) n v = v) := by show _ = _; unfold wordR; rw [if_pos hb, if_neg hv]
      have q : decide (v < 0) = false := decide_eq_false hv
      clear hb
      go_enter Try.func13, Try.ntmps13
      go_wp2_with fail
      refine (kR _).mono ?_
      rintro e w1 ⟨rfl, b1⟩
      have B1 := B0.below b1
      clear B0 b1
      obtain ⟨d0, d1, d2, -, -⟩ := id B1
      go_wp2
      go_ret
      exact ⟨by rw [HR.out]; rfl, B1.2.2.2.2⟩

set_option maxHeartbeats 1600000 in
theorem iWordOf (g : Bool) (m n v : Int) (w : World) :
    Calls Try.prog 10 #[vF g m n, .int .i64 v] w fun e w' => e = .returned (.int .i64 (wordR g m n v)) ∧ Below w.heap.size w w' := by
  have kR := fun W => iRawOk g m n v W
  have B0 := BoxF.made w g m n 25
  obtain ⟨b, hb⟩ : ∃ b, rawR g m n v = b := ⟨_, rfl⟩
  rw [hb] at kR
  cases b
  · have HR : Hid (wordR g m n v = -1) := by show _ = _; unfold wordR; rw [if_neg (by rw [hb]; simp)]
    clear hb
    go_enter Try.func10, Try.ntmps10
    go_wp2_with fail
    refine (kR _).mono ?_
    rintro e w1 ⟨rfl, b1⟩
    have B1 := B0.below b1
    clear B0 b1
    go_wp2
    go_ret
    exact ⟨by rw [HR.out]; rfl, B1.2.2.2.2⟩
  · obtain ⟨h1, h2, h3⟩ := raw_facts hb
    obtain ⟨k, rfl⟩ : ∃ k : Nat, m = (k : Int) := ⟨m.toNat, by omega⟩
    have hk : k ≤ 60 := by omega
    have p1 := two_pow_le hk
    have p0 := two_pow_pos k
    have p2 : (2 : Int) ^ k ≤ 1152921504606846976 := by omega
    clear p1
    by_cases hv : v < 0
    · have HR : Hid (wordR g (k : Int) n v = v + (2 : Int) ^ k) := by show _ = _; unfold wordR; rw [if_pos hb, if_pos hv]; simp
      have q : decide (v < 0) = true := decide_eq_true hv
      clear hb
      go_enter Try.func10, Try.ntmps10
      go_wp2_with fail
      refine (kR _).mono ?_
      rintro e w1 ⟨rfl, b1⟩
      have B1 := B0.below b1
      clear B0 b1
      obtain ⟨d0, d1, d2, -, -⟩ := id B1
      go_wp2
      go_ret
      exact ⟨by rw [HR.out]; (try simp), B1.2.2.2.2⟩
    · have HR : Hid (wordR g (k : Int) n v = v) := by show _ = _; unfold wordR; rw [if_pos hb, if_neg hv]
      have q : decide (v < 0) = false := decide_eq_false hv
      clear hb
      go_enter Try.func10, Try.ntmps10
      go_wp2_with fail
      refine (kR _).mono ?_
      rintro e w1 ⟨rfl, b1⟩
      have B1 := B0.below b1
      clear B0 b1
      obtain ⟨d0, d1, d2, -, -⟩ := id B1
      go_wp2
      go_ret
      exact ⟨by rw [HR.out]; rfl, B1.2.2.2.2⟩

end Go.Proofs.Ytmaemcfcoieejaa
