/- The program's InDomain and what it calls, each by its contract. -/
import Derived.Test.YtbfaeieddbaclaaFun2
import Derived.Deep.QuietTactic
import Derived.BigQuiet
namespace Go.Proofs.Ytbfaeieddbaclaa
open Go.RowKit
set_option linter.unusedSimpArgs false

theorem funAt (p : Int) (w : World) : Calls Try.prog 37 #[.int .i64 p] w fun e w' => e = .returned (.bool (decide (0 ≤ p ∧ p < 15))) ∧ w' = w := by
  by_cases h1 : 0 ≤ p
  · by_cases h2 : p < 15
    · rw [decide_eq_true ⟨h1, h2⟩]
      go_enter Try.func37, Try.ntmps37
      go_wp2
      go_ret
      exact ⟨rfl, rfl⟩
    · rw [decide_eq_false (by omega)]
      have h3 : decide (p < 15) = false := decide_eq_false h2
      clear h2
      go_enter Try.func37, Try.ntmps37
      go_wp2
      go_ret
      exact ⟨rfl, rfl⟩
  · rw [decide_eq_false (by omega)]
    have h3 : decide (0 ≤ p) = false := decide_eq_false h1
    clear h1
    go_enter Try.func37, Try.ntmps37
    go_wp2
    go_ret
    exact ⟨rfl, rfl⟩

theorem argAt (p : Int) (w : World) : Calls Try.prog 39 #[.int .i64 p] w fun e w' => e = .returned (.bool (decide (-2305843009213693952 ≤ p ∧ p ≤ 2305843009213693952))) ∧ w' = w := by
  by_cases h1 : -2305843009213693952 ≤ p
  · by_cases h2 : p ≤ 2305843009213693952
    · rw [decide_eq_true ⟨h1, h2⟩]
      go_enter Try.func39, Try.ntmps39
      go_wp2
      go_ret
      exact ⟨rfl, rfl⟩
    · rw [decide_eq_false (by omega)]
      have h3 : decide (p ≤ 2305843009213693952) = false := decide_eq_false h2
      clear h2
      go_enter Try.func39, Try.ntmps39
      go_wp2
      go_ret
      exact ⟨rfl, rfl⟩
  · rw [decide_eq_false (by omega)]
    have h3 : decide (-2305843009213693952 ≤ p) = false := decide_eq_false h1
    clear h1
    go_enter Try.func39, Try.ntmps39
    go_wp2
    go_ret
    exact ⟨rfl, rfl⟩

theorem sizeAt (a : Int) (w : World) (h0 : -2305843009213693952 ≤ a) (h1 : a ≤ 2305843009213693952) : Calls Try.prog 40 #[.int .i64 a] w fun e w' => e = .returned (.int .i64 (a.natAbs : Int)) ∧ w' = w := by
  have hw : IntKind.i64.wrap (-a) = -a := by rw [IntKind.wrap_i64]; omega
  by_cases h : a < 0
  · have e : (a.natAbs : Int) = -a := by omega
    rw [e]
    have h2 : a < -a := by omega
    clear h0 h1 e
    go_enter Try.func40, Try.ntmps40
    go_wp2
    go_ret
    exact ⟨by simp_all, rfl⟩
  · have e : (a.natAbs : Int) = a := by omega
    rw [e]
    rcases Int.lt_or_eq_of_le (Int.not_lt.mp h) with h4 | h4
    · have h2 : ¬ (a < -a) := by omega
      have h3 : ¬ (a ≤ -a) := by omega
      clear h0 h1 e h
      go_enter Try.func40, Try.ntmps40
      go_wp2
      go_ret
      exact ⟨by simp_all, rfl⟩
    · subst h4
      clear hw h0 h1 e h
      go_enter Try.func40, Try.ntmps40
      go_wp2
      go_ret
      exact ⟨rfl, rfl⟩

set_option maxHeartbeats 1600000 in
theorem eighthsAt (a : Int) (f : Nat) (w : World) (hf : f ≤ 60) : Calls Try.prog 63 #[.int .i64 a, .int .i64 f] w fun e w' => e = .returned (.tuple #[.int .i64 (eiR a f).1, .bool (eiR a f).2]) ∧ Below w.heap.size w w' := by
  have HR : Hid (eiR a f = if f ≤ 3 then ((a * 2 ^ (3 - f)) % 8, true) else (a / 2 ^ (f - 3) % 8, decide (a % 2 ^ (f - 3) = 0))) := rfl
  obtain ⟨⟨n, b⟩, hr⟩ : ∃ r, eiR a f = r := ⟨_, rfl⟩
  rw [hr] at HR
  rw [hr]
  clear hr
  by_cases h : f ≤ 3
  · have q1 : ((f : Int) ≤ 3) := by omega
    have q2 : IntKind.i64.wrap (3 - (f : Int)) = 3 - (f : Int) := by rw [IntKind.wrap_i64]; omega
    have q3 : 0 ≤ 3 - (f : Int) := by omega
    have q4 : 3 - (f : Int) ≤ 64 := by omega
    have q5 : (3 - (f : Int)).toNat = 3 - f := by omega
    have q6 : bits .and .i64 (IntKind.i64.wrap (a * 2 ^ (3 - f))) 7 = n := by
      have := HR.out
      rw [if_pos h] at this
      rw [and7, (Prod.mk.inj this).1, IntKind.wrap_i64]
      omega
    have q7 : b = true := by
      have := HR.out
      rw [if_pos h] at this
      exact (Prod.mk.inj this).2
    subst q7
    rw [IntWalk.i64_left] at q6
    clear HR h
    go_enter Try.func63, Try.ntmps63
    go_wp2
    go_ret2
    exact ⟨by simp_all, Below.refl _ _⟩
  · have q1 : ¬ ((f : Int) ≤ 3) := by omega
    have q2 : IntKind.i64.wrap ((f : Int) - 3) = ((f - 3 : Nat) : Int) := by rw [IntKind.wrap_i64]; omega
    obtain ⟨k, hk⟩ : ∃ k, f - 3 = k := ⟨_, rfl⟩
    rw [hk] at q2
    have q3 : (0 : Int) ≤ (k : Int) := by omega
    have q4 : (k : Int) ≤ 64 := by omega
    have q5 : (k : Int).toNat = k := by omega
    have hp : (2 : Int) ^ k ≤ 2 ^ 57 := by
      have : (2 : Nat) ^ k ≤ 2 ^ 57 := Nat.pow_le_pow_right (by decide) (by omega)
      exact_mod_cast this
    have hp0 : (0 : Int) < 2 ^ k := Int.pow_pos (by omega)
    have q6 : RowKit.wrap64 ((2 : Int) ^ k) = 2 ^ k := IntWalk.wrap64_in _ (by omega)
    have q7 : RowKit.wrap64 ((2 : Int) ^ k - 1) = 2 ^ k - 1 := IntWalk.wrap64_in _ (by omega)
    have q8 : bits .and .i64 (a / 2 ^ k) 7 = n := by
      have := HR.out
      rw [if_neg h, hk] at this
      rw [and7, (Prod.mk.inj this).1]
    have q9 : bits .and .i64 a (2 ^ k - 1) = a % 2 ^ k := and_mask a k (by omega)
    have q10 : (a % 2 ^ k == 0) = b := by
      have := HR.out
      rw [if_neg h, hk] at this
      rw [(Prod.mk.inj this).2]
      rfl
    clear HR h hk hp hp0
    go_enter Try.func63, Try.ntmps63
    go_wp2_with fail
    go_quiet (fail)
    go_wp2
    go_ret2
    refine ⟨?_, ⟨rfl, rfl, rfl, Nat.le_refl _, fun _ _ => rfl⟩⟩
    simp only [Int.one_mul, q5, q6, q7, q8, q9, q10]
    rfl

theorem uprightAt (a : Int) (f : Nat) (w : World) (hf : f ≤ 60) : Calls Try.prog 41 #[.int .i64 a, .int .i64 f] w fun e w' => e = .returned (.bool (upR a f)) ∧ Below w.heap.size w w' := by
  have kE := fun W => eighthsAt a f W hf
  have hb := eiR_lo a f
  unfold upR
  generalize eiR a f = r at *
  obtain ⟨n, b⟩ := r
  dsimp only at *
  clear hf
  have q1 : IntKind.i64.wrap (n.tmod 4) = n % 4 := by rw [Int.tmod_eq_emod_of_nonneg hb.1, IntKind.wrap_i64]; omega
  have q2 : n.tmod 4 = n % 4 := Int.tmod_eq_emod_of_nonneg hb.1
  cases b
  · go_enter Try.func41, Try.ntmps41
    go_wp2_with fail
    refine (kE _).mono ?_
    rintro e w1 ⟨rfl, b1⟩
    go_wp2
    go_ret
    exact ⟨by simp, b1⟩
  · go_enter Try.func41, Try.ntmps41
    go_wp2_with fail
    refine (kE _).mono ?_
    rintro e w1 ⟨rfl, b1⟩
    go_wp2
    go_ret
    exact ⟨by simp [q1, q2]; rfl, b1⟩

def domOk (fn f a b : Int) : Prop := 0 ≤ fn ∧ fn < 15 ∧ 0 ≤ f ∧ f ≤ 60 ∧ -2305843009213693952 ≤ a ∧ a ≤ 2305843009213693952 ∧ -2305843009213693952 ≤ b ∧ b ≤ 2305843009213693952
instance (fn f a b : Int) : Decidable (domOk fn f a b) := by unfold domOk; infer_instance
def inDomR (fn : Int) (turns : Bool) (f a b : Int) : Bool :=
  if domOk fn f a b then
    (if fn = 1 then !(b == 0) else if fn = 2 then decide (0 ≤ a) else if fn = 5 then decide (0 < a) else if fn = 10 then (!(a == 0) || !(b == 0)) else if fn = 14 then decide ((a.natAbs : Int) < 2 ^ f.toNat) else if fn = 8 then (!turns || !upR a f.toNat) else true)
  else false

end Go.Proofs.Ytbfaeieddbaclaa
