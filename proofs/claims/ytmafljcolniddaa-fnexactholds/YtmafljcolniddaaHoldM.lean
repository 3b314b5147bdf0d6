/- Which format holds another one, and what holds both (no program). -/
import Derived.Test.YtmafljcolniddaaFB
namespace Go.Proofs.Ytmafljcolniddaa
open Go.RowKit
set_option linter.unusedSimpArgs false

/-- Whether a number is a raw one of a format. -/
def inF (g : Bool) (m n z : Int) : Bool := decide (leastR g m n ≤ z) && decide (z ≤ mostR g m n)
def holdsB (g : Bool) (m n : Int) (g' : Bool) (m' n' : Int) : Bool :=
  fok m n && fok m' n' && decide (n ≤ n') && inF g' m' n' (leastR g m n * 2 ^ (n' - n).toNat) && inF g' m' n' (mostR g m n * 2 ^ (n' - n).toNat)
/-- How many bits ahead of the point hold all of a format. -/
def aheadI (g : Bool) (m n : Int) (s : Bool) : Int := if s = true ∧ g = false then m - n + 1 else m - n
def commonR (g : Bool) (m n : Int) (g' : Bool) (m' n' : Int) : (Bool × Int × Int) × Bool :=
  if fok m n = true ∧ fok m' n' = true then
    (if fok (max n n' + max (aheadI g m n (g || g')) (aheadI g' m' n' (g || g'))) (max n n') = true then (((g || g'), max n n' + max (aheadI g m n (g || g')) (aheadI g' m' n' (g || g')), max n n'), true) else ((false, 0, 0), false))
  else ((false, 0, 0), false)

theorem fok_iff (m n : Int) : fok m n = true ↔ 2 ≤ m ∧ m ≤ 60 ∧ 0 ≤ n ∧ n ≤ m := by unfold fok; simp
theorem pow_le_iff (a b : Nat) : 2 ^ a ≤ 2 ^ b ↔ a ≤ b := by
  constructor
  · intro h
    apply Classical.byContradiction
    intro hn
    have := Nat.pow_lt_pow_right (show 1 < 2 by omega) (show b < a by omega)
    omega
  · intro h
    exact Nat.pow_le_pow_right (by omega) h
/-- All ones of a bits, k noughts behind them, are at most all ones of b bits, just where there is room. -/
theorem ones_le (a k b : Nat) (ha : 2 ≤ a) : (2 ^ a - 1) * 2 ^ k ≤ 2 ^ b - 1 ↔ a + k ≤ b := by
  have e : (2 ^ a - 1) * 2 ^ k = 2 ^ (a + k) - 2 ^ k := by rw [Nat.sub_mul, Nat.one_mul, Nat.pow_add]
  rw [e]
  have pk := Nat.two_pow_pos k
  have pb := Nat.two_pow_pos b
  constructor
  · intro h
    apply Classical.byContradiction
    intro hn
    obtain ⟨d, hd⟩ : ∃ d, a = d + 2 := ⟨a - 2, by omega⟩
    have e1 : 2 ^ (a + k) = 4 * 2 ^ (d + k) := by rw [hd, show d + 2 + k = (d + k) + 2 by omega, Nat.pow_add]; omega
    have e2 : 2 ^ k ≤ 2 ^ (d + k) := Nat.pow_le_pow_right (by omega) (by omega)
    have e3 : 2 ^ b ≤ 2 ^ (d + k + 1) := Nat.pow_le_pow_right (by omega) (by omega)
    rw [Nat.pow_succ] at e3
    omega
  · intro h
    have := Nat.pow_le_pow_right (show 0 < 2 by omega) h
    omega

theorem leastI {g : Bool} {m n : Nat} (h : fok m n = true) : leastR g m n = if g = true then -((2 ^ (m - 1) : Nat) : Int) else 0 := by
  unfold leastR
  have e : ((m : Int) - 1).toNat = m - 1 := by omega
  cases g
  · simp
  · rw [if_pos ⟨h, rfl⟩, e]; simp
theorem mostI {g : Bool} {m n : Nat} (h : fok m n = true) : mostR g m n = if g = true then ((2 ^ (m - 1) : Nat) : Int) - 1 else ((2 ^ m : Nat) : Int) - 1 := by
  unfold mostR
  have e : ((m : Int) - 1).toNat = m - 1 := by omega
  rw [if_pos h, e]
  simp

/-- A format is held just where there is room ahead of the point. -/
theorem holds_room (g s : Bool) (m n W F : Nat) (hf : fok m n = true) (hn : n ≤ F) (hs : g = true → s = true) :
    holdsB g m n s W F = true ↔ fok W F = true ∧ (F : Int) + aheadI g m n s ≤ W := by
  obtain ⟨m2, m60, n0, nm⟩ := (fok_iff _ _).1 hf
  by_cases hw : fok (W : Int) (F : Int) = true
  · obtain ⟨w2, w60, f0, fw⟩ := (fok_iff _ _).1 hw
    unfold holdsB inF
    rw [hf, hw, leastI hf, mostI hf, leastI hw, mostI hw]
    have hk : ((F : Int) - (n : Int)).toNat = F - n := by omega
    rw [hk]
    obtain ⟨k, hk'⟩ : ∃ k, F - n = k := ⟨_, rfl⟩
    rw [hk']
    have hle : decide ((n : Int) ≤ (F : Int)) = true := decide_eq_true (by omega)
    rw [hle]
    have pm1 := Nat.two_pow_pos (m - 1)
    have pm := Nat.two_pow_pos m
    have pk := Nat.two_pow_pos k
    have pw := Nat.two_pow_pos W
    have pw1 := Nat.two_pow_pos (W - 1)
    have ek : ((2 : Int) ^ k) = ((2 ^ k : Nat) : Int) := by simp
    rw [ek]
    cases g
    · simp only [Bool.false_eq_true, if_false, Int.zero_mul, Bool.true_and]
      have eM : (((2 ^ m : Nat) : Int) - 1) * ((2 ^ k : Nat) : Int) = (((2 ^ m - 1) * 2 ^ k : Nat) : Int) := by
        rw [Int.natCast_mul, Int.natCast_sub (by omega)]; rfl
      rw [eM]
      cases s
      · have o := ones_le m k W (by omega)
        have ha : aheadI false m n false = (m : Int) - n := by unfold aheadI; simp
        rw [ha]
        simp only [Bool.false_eq_true, if_false, Bool.and_eq_true, decide_eq_true_eq]
        constructor
        · rintro ⟨⟨-, -⟩, -, h⟩
          refine ⟨trivial, ?_⟩
          have := o.1 (by omega)
          omega
        · rintro ⟨-, h⟩
          have := o.2 (by omega)
          exact ⟨⟨by omega, by omega⟩, by omega, by omega⟩
      · have o := ones_le m k (W - 1) (by omega)
        have ha : aheadI false m n true = (m : Int) - n + 1 := by unfold aheadI; simp
        rw [ha]
        simp only [if_true, Bool.and_eq_true, decide_eq_true_eq]
        constructor
        · rintro ⟨⟨-, -⟩, -, h⟩
          refine ⟨trivial, ?_⟩
          have := o.1 (by omega)
          omega
        · rintro ⟨-, h⟩
          have := o.2 (by omega)
          exact ⟨⟨by omega, by omega⟩, by omega, by omega⟩
    · obtain rfl := hs rfl
      have ha : aheadI true m n true = (m : Int) - n := by unfold aheadI; simp
      rw [ha]
      simp only [if_true, Bool.true_and, Bool.and_eq_true, decide_eq_true_eq]
      have eL : -((2 ^ (m - 1) : Nat) : Int) * ((2 ^ k : Nat) : Int) = -((2 ^ (m - 1 + k) : Nat) : Int) := by
        rw [Int.neg_mul, ← Int.natCast_mul, ← Nat.pow_add]
      have eM : (((2 ^ (m - 1) : Nat) : Int) - 1) * ((2 ^ k : Nat) : Int) = ((2 ^ (m - 1 + k) : Nat) : Int) - ((2 ^ k : Nat) : Int) := by
        rw [Int.sub_mul, Int.one_mul, ← Int.natCast_mul, ← Nat.pow_add]
      rw [eL, eM]
      have o := pow_le_iff (m - 1 + k) (W - 1)
      have o2 : 2 ^ k ≤ 2 ^ (m - 1 + k) := Nat.pow_le_pow_right (by omega) (by omega)
      constructor
      · rintro ⟨⟨h, -⟩, -, -⟩
        refine ⟨trivial, ?_⟩
        have := o.1 (by omega)
        omega
      · rintro ⟨-, h⟩
        have := o.2 (by omega)
        exact ⟨⟨by omega, by omega⟩, by omega, by omega⟩
  · have hb : fok (W : Int) (F : Int) = false := by simpa using hw
    constructor
    · intro h
      unfold holdsB at h
      rw [hb] at h
      simp at h
    · rintro ⟨h, -⟩
      exact absurd h hw

end Go.Proofs.Ytmafljcolniddaa
