/- The law FnExactRawOf: its walk, out of the two contracts. -/
import Derived.Test.YtfcgcbigahkddaaRawOf
namespace Go.Proofs.Ytfcgcbigahkddaa
open Go.RowKit


set_option maxHeartbeats 1600000 in
theorem walkRawOf (g : Bool) (m n : Int) (v : Int) (r1 : Int) (r2 : Bool) (w : World) (hS : ∀ W, Calls Try.prog 8 #[vF g m n, .int .i64 v] W fun e w' => e = .returned (.tuple #[.int .i64 r1, .bool r2]) ∧ Below W.heap.size W w') (hI : ∀ W, Calls Try.prog 9 #[vF g m n, .int .i64 v] W fun e w' => e = .returned (.tuple #[.int .i64 r1, .bool r2]) ∧ Below W.heap.size W w') :
    Calls Try.prog 4 #[vF g m n, .int .i64 v] w fun e w' => e = .returned (.bool true) ∧ Below w.heap.size w w' := by
  have B0 := BoxF.made w g m n 23
  have er1 : (r1 != r1) = false := by simp
  have er2 : (r2 != r2) = false := by simp
  go_enter Try.func4, Try.ntmps4
  go_wp2_with fail
  refine (toF g m n _).mono ?_
  rintro e w1 ⟨rfl, b1⟩
  have B1 := B0.below b1
  clear B0 b1
  obtain ⟨d0, d1, d2, -, -⟩ := id B1
  go_wp2_with fail
  refine (hS _).mono ?_
  rintro e w2 ⟨rfl, b2⟩
  have B2 := B1.below b2
  clear B1 b2 d0 d1 d2
  obtain ⟨d0, d1, d2, -, -⟩ := id B2
  go_wp2_with fail
  refine (toF g m n _).mono ?_
  rintro e w3 ⟨rfl, b3⟩
  have B3 := B2.below b3
  clear B2 b3 d0 d1 d2
  obtain ⟨d0, d1, d2, -, -⟩ := id B3
  go_wp2_with fail
  refine (hI _).mono ?_
  rintro e w4 ⟨rfl, b4⟩
  have B4 := B3.below b4
  clear B3 b4 d0 d1 d2
  go_wp2
  go_ret
  exact ⟨rfl, B4.2.2.2.2⟩

end Go.Proofs.Ytfcgcbigahkddaa
