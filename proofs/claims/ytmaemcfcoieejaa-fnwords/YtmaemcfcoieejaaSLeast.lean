/- Least and Most of the specification, each by its contract. -/
import Derived.Test.YtmaemcfcoieejaaFmtR
import Derived.Test.YtmaemcfcoieejaaSPow0
namespace Go.Proofs.Ytmaemcfcoieejaa
open Go.RowKit

def leastR (g : Bool) (m n : Int) : Int := if fok m n = true ∧ g = true then -((2 : Int) ^ (m - 1).toNat) else 0
def mostR (g : Bool) (m n : Int) : Int := if fok m n = true then (if g = true then (2 : Int) ^ (m - 1).toNat - 1 else (2 : Int) ^ m.toNat - 1) else 0
def rawR (g : Bool) (m n v : Int) : Bool := fok m n && decide (leastR g m n ≤ v) && decide (v ≤ mostR g m n)

set_option maxHeartbeats 1600000 in
theorem sLeast (g : Bool) (m n : Int) (w : World) :
    Calls Try.prog 22 #[vF g m n] w fun e w' => e = .returned (.int .i64 (leastR g m n)) ∧ Below w.heap.size w w' := by
  have kF := fun W => sFmtOk g m n W
  have B0 := BoxF.made w g m n 25
  obtain ⟨b, hb⟩ : ∃ b, fok m n = b := ⟨_, rfl⟩
  rw [hb] at kF
  cases b
  · have HR : Hid (leastR g m n = 0) := by show _ = _; unfold leastR; rw [if_neg (by rw [hb]; simp)]
    clear hb
    go_enter Try.func22, Try.ntmps22
    go_wp2_with fail
    refine (kF _).mono ?_
    rintro e w1 ⟨rfl, b1⟩
    have B1 := B0.below b1
    clear B0 b1
    go_wp2
    go_ret
    exact ⟨by rw [HR.out]; rfl, B1.2.2.2.2⟩
  · have hm := of_decide_eq_true hb
    cases g
    · have HR : Hid (leastR false m n = 0) := by show _ = _; unfold leastR; rw [if_neg (by simp)]
      clear hb
      go_enter Try.func22, Try.ntmps22
      go_wp2_with fail
      refine (kF _).mono ?_
      rintro e w1 ⟨rfl, b1⟩
      have B1 := B0.below b1
      clear B0 b1
      obtain ⟨d0, d1, d2, -, -⟩ := id B1
      go_wp2
      go_ret
      exact ⟨by rw [HR.out]; rfl, B1.2.2.2.2⟩
    · obtain ⟨k, rfl⟩ : ∃ k : Nat, m = (k : Int) + 1 := ⟨(m - 1).toNat, by omega⟩
      have HR : Hid (leastR true ((k : Int) + 1) n = -((2 : Int) ^ k)) := by
        show _ = _
        unfold leastR
        rw [if_pos ⟨hb, rfl⟩]
        simp
      have hk : k ≤ 59 := by omega
      have p1 := two_pow_le hk
      have p0 := two_pow_pos k
      have p2 : (2 : Int) ^ k ≤ 576460752303423488 := by omega
      have HP : Hid ((2 : Int) ^ k ≤ 576460752303423488 ∧ 0 < (2 : Int) ^ k) := ⟨p2, p0⟩
      clear p1
      have kp := fun W => sPow k W (by omega)
      obtain ⟨z, hz⟩ : ∃ z, (2 : Int) ^ k = z := ⟨_, rfl⟩
      rw [hz] at HR p0 p2 HP
      simp only [hz] at kp
      clear hz hb
      go_enter Try.func22, Try.ntmps22
      go_wp2_with fail
      refine (kF _).mono ?_
      rintro e w1 ⟨rfl, b1⟩
      have B1 := B0.below b1
      clear B0 b1
      obtain ⟨d0, d1, d2, -, -⟩ := id B1
      go_wp2_with fail
      refine (kp _).mono ?_
      rintro e w2 ⟨rfl, rfl⟩
      go_wp2
      go_ret
      exact ⟨by rw [HR.out]; (try simp), B1.2.2.2.2⟩

set_option maxHeartbeats 1600000 in
theorem sMost (g : Bool) (m n : Int) (w : World) :
    Calls Try.prog 23 #[vF g m n] w fun e w' => e = .returned (.int .i64 (mostR g m n)) ∧ Below w.heap.size w w' := by
  have kF := fun W => sFmtOk g m n W
  have B0 := BoxF.made w g m n 25
  obtain ⟨b, hb⟩ : ∃ b, fok m n = b := ⟨_, rfl⟩
  rw [hb] at kF
  cases b
  · have HR : Hid (mostR g m n = 0) := by show _ = _; unfold mostR; rw [if_neg (by rw [hb]; simp)]
    clear hb
    go_enter Try.func23, Try.ntmps23
    go_wp2_with fail
    refine (kF _).mono ?_
    rintro e w1 ⟨rfl, b1⟩
    have B1 := B0.below b1
    clear B0 b1
    go_wp2
    go_ret
    exact ⟨by rw [HR.out]; rfl, B1.2.2.2.2⟩
  · have hm := of_decide_eq_true hb
    cases g
    · obtain ⟨k, rfl⟩ : ∃ k : Nat, m = (k : Int) := ⟨m.toNat, by omega⟩
      have HR : Hid (mostR false (k : Int) n = (2 : Int) ^ k - 1) := by
        show _ = _
        unfold mostR
        rw [if_pos hb]
        simp
      have hk : k ≤ 60 := by omega
      have p1 := two_pow_le hk
      have p0 := two_pow_pos k
      have p2 : (2 : Int) ^ k ≤ 1152921504606846976 := by omega
      clear p1
      have kp := fun W => sPow k W (by omega)
      obtain ⟨z, hz⟩ : ∃ z, (2 : Int) ^ k = z := ⟨_, rfl⟩
      rw [hz] at HR p0 p2
      simp only [hz] at kp
      clear hz hb
      go_enter Try.func23, Try.ntmps23
      go_wp2_with fail
      refine (kF _).mono ?_
      rintro e w1 ⟨rfl, b1⟩
      have B1 := B0.below b1
      clear B0 b1
      obtain ⟨d0, d1, d2, -, -⟩ := id B1
      go_wp2_with fail
      refine (kp _).mono ?_
      rintro e w2 ⟨rfl, rfl⟩
      go_wp2
      go_ret
      exact ⟨by rw [HR.out]; (try simp), B1.2.2.2.2⟩
    · obtain ⟨k, rfl⟩ : ∃ k : Nat, m = (k : Int) + 1 := ⟨(m - 1).toNat, by omega⟩
      have HR : Hid (mostR true ((k : Int) + 1) n = (2 : Int) ^ k - 1) := by
        show _ = _
        unfold mostR
        rw [if_pos hb]
        simp
      have hk : k ≤ 60 := by omega
      have p1 := two_pow_le hk
      have p0 := two_pow_pos k
      have p2 : (2 : Int) ^ k ≤ 1152921504606846976 := by omega
      clear p1
      have kp := fun W => sPow k W (by omega)
      obtain ⟨z, hz⟩ : ∃ z, (2 : Int) ^ k = z := ⟨_, rfl⟩
      rw [hz] at HR p0 p2
      simp only [hz] at kp
      clear hz hb
      go_enter Try.func23, Try.ntmps23
      go_wp2_with fail
      refine (kF _).mono ?_
      rintro e w1 ⟨rfl, b1⟩
      have B1 := B0.below b1
      clear B0 b1
      obtain ⟨d0, d1, d2, -, -⟩ := id B1
      go_wp2_with fail
      refine (kp _).mono ?_
      rintro e w2 ⟨rfl, rfl⟩
      go_wp2
      go_ret
      exact ⟨by rw [HR.out]; (try simp), B1.2.2.2.2⟩

end Go.Proofs.Ytmaemcfcoieejaa
