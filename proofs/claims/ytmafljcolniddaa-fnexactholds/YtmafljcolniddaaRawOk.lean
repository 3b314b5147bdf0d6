/- RawOk, of the specification and of the program, by one contract. -/
import Derived.Test.YtmafljcolniddaaFB
import Derived.Test.YtmafljcolniddaaReg0
namespace Go.Proofs.Ytmafljcolniddaa
open Go.RowKit
set_option linter.unusedSimpArgs false


set_option maxHeartbeats 1600000 in
theorem iRawOk (g : Bool) (m n v : Int) (w : World) :
    Calls Try.prog 49 #[vF g m n, .int .i64 v] w fun e w' => e = .returned (.bool (rawR g m n v)) ∧ Below w.heap.size w w' := by
  have B0 := BoxF.made w g m n 25
  have kF := fun W => iFmtOk g m n W
  have kL := fun W => iLeast g m n W
  have kM := fun W => iMost g m n W
  have HR : Hid (rawR g m n v = (fok m n && decide (leastR g m n ≤ v) && decide (v ≤ mostR g m n))) := rfl
  obtain ⟨lo, hlo⟩ : ∃ z, leastR g m n = z := ⟨_, rfl⟩
  obtain ⟨hi, hhi⟩ : ∃ z, mostR g m n = z := ⟨_, rfl⟩
  obtain ⟨b, hb⟩ : ∃ b, fok m n = b := ⟨_, rfl⟩
  obtain ⟨c, hc⟩ : ∃ c, decide (lo ≤ v) = c := ⟨_, rfl⟩
  simp only [hlo] at kL
  simp only [hhi] at kM
  simp only [hb] at kF
  rw [hlo, hhi, hb, hc] at HR
  clear hlo hhi hb
  cases b
  · go_enter Try.func49, Try.ntmps49
    go_wp2_with fail
    refine (kF _).mono ?_
    rintro e w1 ⟨rfl, b1⟩
    have B1 := B0.below b1
    clear B0 b1
    go_wp2
    go_ret
    exact ⟨by rw [HR.out]; rfl, B1.2.2.2.2⟩
  · cases c
    · go_enter Try.func49, Try.ntmps49
      go_wp2_with fail
      refine (kF _).mono ?_
      rintro e w1 ⟨rfl, b1⟩
      have B1 := B0.below b1
      clear B0 b1
      obtain ⟨d0, d1, d2, -, -⟩ := id B1
      go_wp2_with fail
      refine (kL _).mono ?_
      rintro e w2 ⟨rfl, b2⟩
      have B2 := B1.below b2
      clear B1 b2 d0 d1 d2
      go_wp2
      go_ret
      exact ⟨by rw [HR.out]; rfl, B2.2.2.2.2⟩
    · go_enter Try.func49, Try.ntmps49
      go_wp2_with fail
      refine (kF _).mono ?_
      rintro e w1 ⟨rfl, b1⟩
      have B1 := B0.below b1
      clear B0 b1
      obtain ⟨d0, d1, d2, -, -⟩ := id B1
      go_wp2_with fail
      refine (kL _).mono ?_
      rintro e w2 ⟨rfl, b2⟩
      have B2 := B1.below b2
      clear B1 b2 d0 d1 d2
      obtain ⟨d0, d1, d2, -, -⟩ := id B2
      go_wp2_with fail
      refine (kM _).mono ?_
      rintro e w3 ⟨rfl, b3⟩
      have B3 := B2.below b3
      clear B2 b3 d0 d1 d2
      go_wp2
      go_ret
      exact ⟨by rw [HR.out]; rfl, B3.2.2.2.2⟩

end Go.Proofs.Ytmafljcolniddaa
