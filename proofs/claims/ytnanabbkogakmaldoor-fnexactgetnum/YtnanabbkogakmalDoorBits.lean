/- 'or' of two ints whose bits lie apart is their sum. -/
import Derived.WalkKit
import Derived.Laws.BitsAllLaws
namespace Go.Proofs.YtnanabbkogakmalDoor
open Go.RowKit
theorem i64_or_nat (a b : Nat) (ha : a < 4611686018427387904) (hb : b < 4611686018427387904) : bits .or .i64 (a : Int) (b : Int) = ((a ||| b : Nat) : Int) := by
  have h3 : (a ||| b) < 2 ^ 62 := Nat.or_lt_two_pow (by omega) (by omega)
  show IntKind.i64.wrap ((BitVec.ofInt 64 (a : Int) ||| BitVec.ofInt 64 (b : Int)).toNat : Int) = _
  rw [BitVec.toNat_or, ofInt_u64 a (by omega), ofInt_u64 b (by omega), IntKind.wrap_i64]
  omega
theorem or_sum (j : Nat) (m y : Int) (h0 : 0 ≤ m) (h1 : m < (2 ^ j : Nat)) (hm : m < 4611686018427387904) (hy0 : 0 ≤ y) (hy : y < 4611686018427387904) (hd : y % (2 ^ j : Nat) = 0) : bits .or .i64 m y = m + y := by
  obtain ⟨M, rfl⟩ := Int.eq_ofNat_of_zero_le h0
  obtain ⟨Y, rfl⟩ := Int.eq_ofNat_of_zero_le hy0
  rw [i64_or_nat M Y (by omega) (by omega), Nat.or_comm, nat_join j Y M (by omega) (by omega)]
  omega
end Go.Proofs.YtnanabbkogakmalDoor
