/- RawOf, of the specification and of the program, by one contract. -/
import Derived.Test.YtmaemcfcoieejaaWordOf
namespace Go.Proofs.Ytmaemcfcoieejaa
open Go.RowKit
set_option linter.unusedSimpArgs false

def rawOfR (g : Bool) (m n x : Int) : Int × Bool := if fok m n = true ∧ 0 ≤ x ∧ x ≤ (2 : Int) ^ m.toNat - 1 then ((if mostR g m n < x then x - (2 : Int) ^ m.toNat else x), true) else (0, false)

set_option maxHeartbeats 1600000 in
/-- rawOf: of a word of the format's. -/
theorem iRawOfM (g : Bool) (k : Nat) (n x : Int) (w : World) (hk : k ≤ 60) (hx1 : 0 ≤ x) (hx2 : x ≤ (2 : Int) ^ k - 1) :
    Calls Try.prog 19 #[vF g (k : Int) n, .int .i64 x] w fun e w' => e = .returned (.int .i64 (if mostR g (k : Int) n < x then x - (2 : Int) ^ k else x)) ∧ Below w.heap.size w w' := by
  have kM := fun W => iMost g (k : Int) n W
  have B0 := BoxF.made w g (k : Int) n 25
  have p1 := two_pow_le hk
  have p0 := two_pow_pos k
  have p2 : (2 : Int) ^ k ≤ 1152921504606846976 := by omega
  clear p1
  obtain ⟨hi, hhi⟩ : ∃ z, mostR g (k : Int) n = z := ⟨_, rfl⟩
  simp only [hhi] at kM
  rw [hhi]
  clear hhi
  by_cases hh : hi < x
  · rw [if_pos hh]
    go_enter Try.func19, Try.ntmps19
    go_wp2_with fail
    refine (kM _).mono ?_
    rintro e w1 ⟨rfl, b1⟩
    have B1 := B0.below b1
    clear B0 b1
    obtain ⟨d0, d1, d2, -, -⟩ := id B1
    go_wp2
    go_ret
    exact ⟨by (try simp), B1.2.2.2.2⟩
  · rw [if_neg hh]
    go_enter Try.func19, Try.ntmps19
    go_wp2_with fail
    refine (kM _).mono ?_
    rintro e w1 ⟨rfl, b1⟩
    have B1 := B0.below b1
    clear B0 b1
    obtain ⟨d0, d1, d2, -, -⟩ := id B1
    go_wp2
    go_ret
    exact ⟨rfl, B1.2.2.2.2⟩

set_option maxHeartbeats 1600000 in
theorem iRawOf (g : Bool) (m n x : Int) (w : World) :
    Calls Try.prog 11 #[vF g m n, .int .i64 x] w fun e w' => e = .returned (.tuple #[.int .i64 (rawOfR g m n x).1, .bool (rawOfR g m n x).2]) ∧ Below w.heap.size w w' := by
  have kF := fun W => iFmtOk g m n W
  have B0 := BoxF.made w g m n 25
  obtain ⟨b, hb⟩ : ∃ b, fok m n = b := ⟨_, rfl⟩
  rw [hb] at kF
  cases b
  · have HR : Hid (rawOfR g m n x = (0, false)) := by show _ = _; unfold rawOfR; rw [if_neg (by rw [hb]; simp)]
    clear hb
    go_enter Try.func11, Try.ntmps11
    go_wp2_with fail
    refine (kF _).mono ?_
    rintro e w1 ⟨rfl, b1⟩
    have B1 := B0.below b1
    clear B0 b1
    go_wp2
    go_ret2
    exact ⟨by rw [HR.out]; rfl, B1.2.2.2.2⟩
  · have hm := of_decide_eq_true hb
    obtain ⟨k, rfl⟩ : ∃ k : Nat, m = (k : Int) := ⟨m.toNat, by omega⟩
    have hk : k ≤ 60 := by omega
    have p1 := two_pow_le hk
    have p0 := two_pow_pos k
    have p2 : (2 : Int) ^ k ≤ 1152921504606846976 := by omega
    clear p1
    by_cases hx : 0 ≤ x ∧ x ≤ (2 : Int) ^ k - 1
    · have kT := fun W => iRawOfM g k n x W hk hx.1 hx.2
      have HR : Hid (rawOfR g (k : Int) n x = ((if mostR g (k : Int) n < x then x - (2 : Int) ^ k else x), true)) := by show _ = _; unfold rawOfR; rw [if_pos ⟨hb, hx.1, by simpa using hx.2⟩]; simp
      obtain ⟨rr, hrr⟩ : ∃ z, (if mostR g (k : Int) n < x then x - (2 : Int) ^ k else x) = z := ⟨_, rfl⟩
      simp only [hrr] at kT
      rw [hrr] at HR
      obtain ⟨hx1, hx2⟩ := hx
      have q1 : decide (x < 0) = false := decide_eq_false (by omega)
      have q2 : decide ((2 : Int) ^ k ≤ x) = false := decide_eq_false (by omega)
      clear hb hm hrr
      go_enter Try.func11, Try.ntmps11
      go_wp2_with fail
      refine (kF _).mono ?_
      rintro e w1 ⟨rfl, b1⟩
      have B1 := B0.below b1
      clear B0 b1
      obtain ⟨d0, d1, d2, -, -⟩ := id B1
      go_wp2_with fail
      refine (kT _).mono ?_
      rintro e w4 ⟨rfl, b4⟩
      have B4 := B1.below b4
      go_wp2
      go_ret2
      exact ⟨by rw [HR.out]; rfl, B4.2.2.2.2⟩
    · have HR : Hid (rawOfR g (k : Int) n x = (0, false)) := by show _ = _; unfold rawOfR; rw [if_neg (fun q => hx ⟨q.2.1, by simpa using q.2.2⟩)]
      by_cases hx0 : x < 0
      · clear hb hm hx
        have q1 : decide (x < 0) = true := decide_eq_true hx0
        go_enter Try.func11, Try.ntmps11
        go_wp2_with fail
        refine (kF _).mono ?_
        rintro e w1 ⟨rfl, b1⟩
        have B1 := B0.below b1
        clear B0 b1
        obtain ⟨d0, d1, d2, -, -⟩ := id B1
        go_wp2
        go_ret2
        exact ⟨by rw [HR.out]; rfl, B1.2.2.2.2⟩
      · have hx3 : (2 : Int) ^ k ≤ x := by omega
        have q1 : decide (x < 0) = false := decide_eq_false hx0
        clear hb hm hx
        go_enter Try.func11, Try.ntmps11
        go_wp2_with fail
        refine (kF _).mono ?_
        rintro e w1 ⟨rfl, b1⟩
        have B1 := B0.below b1
        clear B0 b1
        obtain ⟨d0, d1, d2, -, -⟩ := id B1
        go_wp2
        go_ret2
        exact ⟨by rw [HR.out]; rfl, B1.2.2.2.2⟩

end Go.Proofs.Ytmaemcfcoieejaa
