/- RawOf, of the specification and of the program, by one contract. -/
import Derived.Test.YtmafljcolniddaaWordOf
namespace Go.Proofs.Ytmafljcolniddaa
open Go.RowKit
set_option linter.unusedSimpArgs false

def rawOfR (g : Bool) (m n x : Int) : Int × Bool := if fok m n = true ∧ 0 ≤ x ∧ x ≤ (2 : Int) ^ m.toNat - 1 then ((if mostR g m n < x then x - (2 : Int) ^ m.toNat else x), true) else (0, false)

set_option maxHeartbeats 1600000 in
/-- rawOf: of a word of the format's. -/
theorem iRawOfM (g : Bool) (k : Nat) (n x : Int) (w : World) (hk : k ≤ 60) (hx1 : 0 ≤ x) (hx2 : x ≤ (2 : Int) ^ k - 1) :
    Calls Try.prog 51 #[vF g (k : Int) n, .int .i64 x] w fun e w' => e = .returned (.int .i64 (if mostR g (k : Int) n < x then x - (2 : Int) ^ k else x)) ∧ Below w.heap.size w w' := by
  have kM := fun W => iMost g (k : Int) n W
  have B0 := BoxF.made w g (k : Int) n 25
  have p1 := two_pow_le hk
  have p0 := two_pow_pos k
  have p2 : (2 : Int) ^ k ≤ 1152921504606846976 := by omega
  clear p1
  obtain ⟨hi, hhi⟩ : ∃ z, mostR g (k : Int) n = z := ⟨_, rfl⟩
  simp only [hhi] at kM
  rw [hhi]
  clear hhi
  by_cases hh : hi < x
  · rw [if_pos hh]
    go_enter Try.func51, Try.ntmps51
    go_wp2_with fail
    refine (kM _).mono ?_
    rintro e w1 ⟨rfl, b1⟩
    have B1 := B0.below b1
    clear B0 b1
    obtain ⟨d0, d1, d2, -, -⟩ := id B1
    go_wp2
    go_ret
    exact ⟨by (try simp), B1.2.2.2.2⟩
  · rw [if_neg hh]
    go_enter Try.func51, Try.ntmps51
    go_wp2_with fail
    refine (kM _).mono ?_
    rintro e w1 ⟨rfl, b1⟩
    have B1 := B0.below b1
    clear B0 b1
    obtain ⟨d0, d1, d2, -, -⟩ := id B1
    go_wp2
    go_ret
    exact ⟨rfl, B1.2.2.2.2⟩

end Go.Proofs.Ytmafljcolniddaa
