/- The specification's Digits of every int, by its contract. -/
import Derived.Test.YtnojigofojjopaaDoorRows
import Derived.Test.YtnojigofojjopaaDoorBase
import Derived.Test.YtnojigofojjopaaDoorConv1
import Derived.WalkKit
import Derived.WalkSpells
import Derived.WalkLawsBesides
import Derived.WalkSmall
import Derived.Laws.BytesString
import Derived.Lib.ItoaNum
namespace Go.Proofs.YtnojigofojjopaaDoor
open Go.RowKit

theorem digL_dec (k : Nat) : ∀ out, 0 < k → digL k out = Lib.decDigits k ++ out := by
  induction k using Nat.strongRecOn with
  | ind k ih =>
    intro out h
    have e : 48 + UInt8.ofNat (k % 10) = UInt8.ofNat (48 + k % 10) := by rw [UInt8.ofNat_add]; rfl
    rw [digL_pos k out h, e]
    by_cases hq : k < 10
    · have : k / 10 = 0 := by omega
      have h2 : k % 10 = k := by omega
      rw [this, digL_zero, Lib.decDigits_one hq, h2]; rfl
    · rw [ih (k / 10) (by omega) _ (by omega), Lib.decDigits.eq_1 k, dif_neg hq]
      simp

theorem neg_mod (m : Nat) : (-(m : Int)).tmod 10 = -((m % 10 : Nat) : Int) := by
  rw [Int.neg_tmod, Int.tmod_eq_emod_of_nonneg (by omega)]; omega
theorem neg_div (m : Nat) : (-(m : Int)).tdiv 10 = -((m / 10 : Nat) : Int) := by
  rw [Int.neg_tdiv, Int.tdiv_eq_ediv_of_nonneg (by omega)]; omega

theorem byte_nought (m : Nat) (h : m % 10 = 0) : UInt8.ofNat (48 + -((m : Int) % 10)).toNat = 48 + UInt8.ofNat (m % 10) := by
  have e : (m : Int) % 10 = 0 := by omega
  rw [e, h]; rfl

end Go.Proofs.YtnojigofojjopaaDoor
