/- The program's signedOf and WholeOf, each by its contract. -/
import Derived.Test.YtlpfjpbnedankaaSWhole
namespace Go.Proofs.Ytlpfjpbnedankaa
open Go.RowKit

set_option maxRecDepth 20000 in
set_option maxHeartbeats 1600000 in
theorem sOf (n : Int) (w : World) (h0 : -9223372036854775808 ≤ n) (h1 : n ≤ 9223372036854775807) :
    Calls Try.prog 31 #[.int .i64 n] w fun e w' => ∃ b, e = .returned (.pointer (some ⟨b, 0, none⟩)) ∧ w.heap.size ≤ b ∧ SG w' b n ∧ Below w.heap.size w w' := by
  by_cases hn : n < 0
  · obtain ⟨m, rfl⟩ : ∃ m : Nat, n = -(m : Int) := ⟨n.natAbs, by omega⟩
    have hm0 : 0 < m := by omega
    have hm : m ≤ 9223372036854775808 := by omega
    have l3 := limbs_len3 (n := m) (by omega)
    have kG := fun W => gOf m W (by omega)
    have kN := fun W => newSigned_c true m W (by omega)
    have q : decide (-(m : Int) < 0) = true := decide_eq_true hn
    have w1 : IntKind.u64.wrap (-(m : Int)) = 18446744073709551616 - (m : Int) := by rw [IntKind.wrap_u64]; omega
    have w2 : IntKind.u64.wrap (-(18446744073709551616 - (m : Int))) = (m : Int) := by rw [IntKind.wrap_u64]; omega
    clear hn
    go_enter Try.func31, Try.ntmps31
    go_wp2_with fail
    refine (kG _).mono ?_
    rintro e w3 ⟨rfl, b1⟩
    go_wp2_with fail
    refine (kN _).mono ?_
    rintro e w4 ⟨b, rfl, hb, sb, b2⟩
    have HS : Hid (SG w4 b (-(m : Int))) := by show SG w4 b (-(m : Int)); simpa using sb
    clear sb
    go_wp2
    go_ret
    exact ⟨b, rfl, Nat.le_trans b1.size hb, HS.out, b1.trans (b2.mono b1.size)⟩
  · obtain ⟨m, rfl⟩ : ∃ m : Nat, n = (m : Int) := ⟨n.toNat, by omega⟩
    have hm : m ≤ 9223372036854775807 := by omega
    have l3 := limbs_len3 (n := m) (by omega)
    have kG := fun W => gOf m W (by omega)
    have kN := fun W => newSigned_c false m W (by omega)
    go_enter Try.func31, Try.ntmps31
    go_wp2_with fail
    refine (kG _).mono ?_
    rintro e w1 ⟨rfl, b1⟩
    go_wp2_with fail
    refine (kN _).mono ?_
    rintro e w2 ⟨b, rfl, hb, sb, b2⟩
    have HS : Hid (SG w2 b (m : Int)) := by show SG w2 b (m : Int); simpa using sb
    clear sb
    go_wp2
    go_ret
    exact ⟨b, rfl, Nat.le_trans b1.size hb, HS.out, b1.trans (b2.mono b1.size)⟩

end Go.Proofs.Ytlpfjpbnedankaa
