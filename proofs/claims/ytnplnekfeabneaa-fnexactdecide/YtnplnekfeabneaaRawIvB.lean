/- RawIv of the specification and of the program, each by its contract. -/
import Derived.Test.YtnplnekfeabneaaMovedF
import Derived.Test.YtnplnekfeabneaaMoveS
import Derived.Test.YtnplnekfeabneaaIFrom
import Derived.Test.YtnplnekfeabneaaSWholeOf
namespace Go.Proofs.Ytnplnekfeabneaa
open Go.RowKit
set_option linter.unusedSimpArgs false

def askP (v f p : Int) : Prop := (-2305843009213693952 ≤ v ∧ v ≤ 2305843009213693952) ∧ (0 ≤ f ∧ f ≤ 60) ∧ 1 ≤ p ∧ p ≤ 300
instance (v f p : Int) : Decidable (askP v f p) := by unfold askP; infer_instance
def rawR (v f p : Int) : Vh × Int := if askP v f p then ((mkW (mvLo v (p - f)), mkW (mvHi v (p - f))), 0) else (((false, []), (false, [])), 4)
theorem pow_le2 (k L : Nat) (h : k ≤ L) : (2 : Nat) ^ k ≤ 2 ^ L := Nat.pow_le_pow_right (Nat.succ_pos 1) h
theorem e300 : ∃ E : Nat, (∀ k, k ≤ 300 → (2 : Nat) ^ k ≤ E) ∧ 2305843009213693952 * E + 1 < 16777216 ^ 48 := ⟨_, fun k h => pow_le2 k 300 h, by decide +kernel⟩
theorem mv_small (v d : Int) (hv : v.natAbs ≤ 2305843009213693952) (hd : d ≤ 300) : (limbs (mvLo v d).natAbs).length ≤ 48 ∧ (limbs (mvHi v d).natAbs).length ≤ 48 := by
  obtain ⟨E, hE, hlt⟩ := e300
  have key : ∀ z : Int, z.natAbs ≤ 2305843009213693952 * E + 1 → (limbs z.natAbs).length ≤ 48 := fun z hz => limbs_len_le _ 48 (Nat.lt_of_le_of_lt hz hlt)
  unfold mvLo mvHi
  by_cases h : 0 ≤ d
  · rw [if_pos h, if_pos h]
    obtain ⟨k, rfl⟩ : ∃ k : Nat, d = k := ⟨d.toNat, by omega⟩
    rw [Int.toNat_natCast]
    have h2 := hE k (by omega)
    have h3 : (v * 2 ^ k).natAbs ≤ 2305843009213693952 * E := by
      rw [Int.natAbs_mul, Int.natAbs_pow]
      exact Nat.mul_le_mul hv h2
    exact ⟨key _ (Nat.le_succ_of_le h3), key _ (Nat.le_succ_of_le h3)⟩
  · rw [if_neg h, if_neg h]
    generalize (-d).toNat = k
    have l3 := limbs_len3 (n := v.natAbs) (by omega)
    have h1 := ceil_len (-v) k
    have h2 := ceil_len v k
    rw [Int.natAbs_neg, Int.neg_neg] at h1
    rw [Int.natAbs_neg]
    omega
theorem fitV_sm (x y : Int) (hx : (limbs x.natAbs).length ≤ 48) (hy : (limbs y.natAbs).length ≤ 48) : (fitV x y).1 = (mkW x, mkW y) := by
  unfold fitV fitW
  rw [if_pos hx, if_pos hy]
  simp
theorem rawR_len (v f p : Int) : (rawR v f p).1.1.2.length ≤ 1048576 ∧ (rawR v f p).1.2.2.length ≤ 1048576 := by
  unfold rawR
  split
  · rename_i h
    have := mv_small v (p - f) (by have := h.1; omega) (by have := h.2; omega)
    exact ⟨Nat.le_trans this.1 (by decide), Nat.le_trans this.2 (by decide)⟩
  · simp

theorem pointAt (p : Int) (w : World) : Calls Try.prog 47 #[.int .i64 p] w fun e w' => e = .returned (.bool (decide (0 ≤ p ∧ p ≤ 60))) ∧ w' = w := by
  by_cases h1 : 0 ≤ p
  · by_cases h2 : p ≤ 60
    · rw [decide_eq_true ⟨h1, h2⟩]
      go_enter Try.func47, Try.ntmps47
      go_wp2
      go_ret
      exact ⟨rfl, rfl⟩
    · rw [decide_eq_false (by omega)]
      have h3 : decide (p ≤ 60) = false := decide_eq_false h2
      clear h2
      go_enter Try.func47, Try.ntmps47
      go_wp2
      go_ret
      exact ⟨rfl, rfl⟩
  · rw [decide_eq_false (by omega)]
    have h3 : decide (0 ≤ p) = false := decide_eq_false h1
    clear h1
    go_enter Try.func47, Try.ntmps47
    go_wp2
    go_ret
    exact ⟨rfl, rfl⟩

end Go.Proofs.Ytnplnekfeabneaa
