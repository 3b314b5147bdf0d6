/- InDomain of the program, by its contract. -/
import Derived.Test.YtbfaeieddbaclaaFun3
namespace Go.Proofs.Ytbfaeieddbaclaa
open Go.RowKit
set_option linter.unusedSimpArgs false

set_option maxRecDepth 20000 in
set_option maxHeartbeats 3200000 in
theorem iInDomain (fn : Int) (tn : Bool) (f a b : Int) (w : World) :
    Calls Try.prog 14 #[.int .i64 fn, .bool tn, .int .i64 f, .int .i64 a, .int .i64 b] w fun e w' => e = .returned (.bool (inDomR fn tn f a b)) ∧ Below w.heap.size w w' := by
  have k1 := fun W => funAt fn W
  have k2 := fun W => pointAt f W
  have k3 := fun W => argAt a W
  have k4 := fun W => argAt b W
  by_cases h1 : 0 ≤ fn ∧ fn < 15
  case neg =>
    have hr : inDomR fn tn f a b = false := if_neg (fun h => h1 ⟨h.1, h.2.1⟩)
    rw [hr]
    rw [decide_eq_false h1] at k1
    clear h1 hr k2 k3 k4
    go_enter Try.func14, Try.ntmps14
    go_wp2_with fail
    refine (k1 _).mono ?_
    rintro e w1 ⟨rfl, rfl⟩
    go_wp2
    go_ret
    exact ⟨rfl, Below.refl _ _⟩
  by_cases h2 : 0 ≤ f ∧ f ≤ 60
  case neg =>
    have hr : inDomR fn tn f a b = false := if_neg (fun h => h2 ⟨h.2.2.1, h.2.2.2.1⟩)
    rw [hr]
    rw [decide_eq_true h1] at k1
    rw [decide_eq_false h2] at k2
    clear h1 h2 hr k3 k4
    go_enter Try.func14, Try.ntmps14
    go_wp2_with fail
    refine (k1 _).mono ?_
    rintro e w1 ⟨rfl, rfl⟩
    go_wp2_with fail
    refine (k2 _).mono ?_
    rintro e w1 ⟨rfl, rfl⟩
    go_wp2
    go_ret
    exact ⟨rfl, Below.refl _ _⟩
  by_cases h3 : -2305843009213693952 ≤ a ∧ a ≤ 2305843009213693952
  case neg =>
    have hr : inDomR fn tn f a b = false := if_neg (fun h => h3 ⟨h.2.2.2.2.1, h.2.2.2.2.2.1⟩)
    rw [hr]
    rw [decide_eq_true h1] at k1
    rw [decide_eq_true h2] at k2
    rw [decide_eq_false h3] at k3
    clear h1 h2 h3 hr k4
    go_enter Try.func14, Try.ntmps14
    go_wp2_with fail
    refine (k1 _).mono ?_
    rintro e w1 ⟨rfl, rfl⟩
    go_wp2_with fail
    refine (k2 _).mono ?_
    rintro e w1 ⟨rfl, rfl⟩
    go_wp2_with fail
    refine (k3 _).mono ?_
    rintro e w1 ⟨rfl, rfl⟩
    go_wp2
    go_ret
    exact ⟨rfl, Below.refl _ _⟩
  by_cases h4 : -2305843009213693952 ≤ b ∧ b ≤ 2305843009213693952
  case neg =>
    have hr : inDomR fn tn f a b = false := if_neg (fun h => h4 ⟨h.2.2.2.2.2.2.1, h.2.2.2.2.2.2.2⟩)
    rw [hr]
    rw [decide_eq_true h1] at k1
    rw [decide_eq_true h2] at k2
    rw [decide_eq_true h3] at k3
    rw [decide_eq_false h4] at k4
    clear h1 h2 h3 h4 hr
    go_enter Try.func14, Try.ntmps14
    go_wp2_with fail
    refine (k1 _).mono ?_
    rintro e w1 ⟨rfl, rfl⟩
    go_wp2_with fail
    refine (k2 _).mono ?_
    rintro e w1 ⟨rfl, rfl⟩
    go_wp2_with fail
    refine (k3 _).mono ?_
    rintro e w1 ⟨rfl, rfl⟩
    go_wp2_with fail
    refine (k4 _).mono ?_
    rintro e w1 ⟨rfl, rfl⟩
    go_wp2
    go_ret
    exact ⟨rfl, Below.refl _ _⟩
  have hr : inDomR fn tn f a b = (if fn = 1 then !(b == 0) else if fn = 2 then decide (0 ≤ a) else if fn = 5 then decide (0 < a) else if fn = 10 then (!(a == 0) || !(b == 0)) else if fn = 14 then decide ((a.natAbs : Int) < 2 ^ f.toNat) else if fn = 8 then (!tn || !upR a f.toNat) else true) := if_pos ⟨h1.1, h1.2, h2.1, h2.2, h3.1, h3.2, h4.1, h4.2⟩
  rw [hr]
  rw [decide_eq_true h1] at k1
  rw [decide_eq_true h2] at k2
  rw [decide_eq_true h3] at k3
  rw [decide_eq_true h4] at k4
  obtain ⟨k, rfl⟩ : ∃ k : Nat, f = (k : Int) := ⟨f.toNat, by omega⟩
  rw [Int.toNat_natCast]
  have k5 := fun W => sizeAt a W h3.1 h3.2
  have k6 := fun W => uprightAt a k W (by omega)
  have hp0 : (0 : Int) < 2 ^ k := Int.pow_pos (by omega)
  have hp : (2 : Int) ^ k ≤ 2 ^ 60 := by
    have : (2 : Nat) ^ k ≤ 2 ^ 60 := Nat.pow_le_pow_right (by decide) (by omega)
    exact_mod_cast this
  have p1 : RowKit.wrap64 ((2 : Int) ^ k) = 2 ^ k := IntWalk.wrap64_in _ (by omega)
  have p2 : (k : Int).toNat = k := by omega
  have p3 : (k : Int) ≤ 64 := by omega
  generalize upR a k = u at *
  generalize a.natAbs = m at *
  clear h1 h2 h3 h4 hr hp hp0
  by_cases c1 : fn = 1
  · subst c1
    rw [if_pos rfl]
    clear k5 k6
    go_enter Try.func14, Try.ntmps14
    go_wp2_with fail
    refine (k1 _).mono ?_
    rintro e w1 ⟨rfl, rfl⟩
    go_wp2_with fail
    refine (k2 _).mono ?_
    rintro e w1 ⟨rfl, rfl⟩
    go_wp2_with fail
    refine (k3 _).mono ?_
    rintro e w1 ⟨rfl, rfl⟩
    go_wp2_with fail
    refine (k4 _).mono ?_
    rintro e w1 ⟨rfl, rfl⟩
    go_wp2
    go_ret
    exact ⟨by first | (simp; done) | (simp; rfl), Below.refl _ _⟩
  rw [if_neg c1]
  by_cases c2 : fn = 2
  · subst c2
    rw [if_pos rfl]
    clear k5 k6
    go_enter Try.func14, Try.ntmps14
    go_wp2_with fail
    refine (k1 _).mono ?_
    rintro e w1 ⟨rfl, rfl⟩
    go_wp2_with fail
    refine (k2 _).mono ?_
    rintro e w1 ⟨rfl, rfl⟩
    go_wp2_with fail
    refine (k3 _).mono ?_
    rintro e w1 ⟨rfl, rfl⟩
    go_wp2_with fail
    refine (k4 _).mono ?_
    rintro e w1 ⟨rfl, rfl⟩
    go_wp2
    go_ret
    exact ⟨by first | (simp; done) | (simp; rfl), Below.refl _ _⟩
  rw [if_neg c2]
  by_cases c3 : fn = 5
  · subst c3
    rw [if_pos rfl]
    clear k5 k6
    go_enter Try.func14, Try.ntmps14
    go_wp2_with fail
    refine (k1 _).mono ?_
    rintro e w1 ⟨rfl, rfl⟩
    go_wp2_with fail
    refine (k2 _).mono ?_
    rintro e w1 ⟨rfl, rfl⟩
    go_wp2_with fail
    refine (k3 _).mono ?_
    rintro e w1 ⟨rfl, rfl⟩
    go_wp2_with fail
    refine (k4 _).mono ?_
    rintro e w1 ⟨rfl, rfl⟩
    go_wp2
    go_ret
    exact ⟨by first | (simp; done) | (simp; rfl), Below.refl _ _⟩
  rw [if_neg c3]
  by_cases c4 : fn = 10
  · subst c4
    rw [if_pos rfl]
    clear k5 k6
    by_cases d1 : a = 0
    · subst d1
      go_enter Try.func14, Try.ntmps14
      go_wp2_with fail
      refine (k1 _).mono ?_
      rintro e w1 ⟨rfl, rfl⟩
      go_wp2_with fail
      refine (k2 _).mono ?_
      rintro e w1 ⟨rfl, rfl⟩
      go_wp2_with fail
      refine (k3 _).mono ?_
      rintro e w1 ⟨rfl, rfl⟩
      go_wp2_with fail
      refine (k4 _).mono ?_
      rintro e w1 ⟨rfl, rfl⟩
      go_wp2
      go_ret
      exact ⟨by first | rfl | (simp; done) | (simp; rfl), Below.refl _ _⟩
    · have d2 : (a == 0) = false := by simp [d1]
      go_enter Try.func14, Try.ntmps14
      go_wp2_with fail
      refine (k1 _).mono ?_
      rintro e w1 ⟨rfl, rfl⟩
      go_wp2_with fail
      refine (k2 _).mono ?_
      rintro e w1 ⟨rfl, rfl⟩
      go_wp2_with fail
      refine (k3 _).mono ?_
      rintro e w1 ⟨rfl, rfl⟩
      go_wp2_with fail
      refine (k4 _).mono ?_
      rintro e w1 ⟨rfl, rfl⟩
      go_wp2
      go_ret
      exact ⟨by first | (simp [d1]; done) | (simp [d1]; rfl), Below.refl _ _⟩
  rw [if_neg c4]
  by_cases c5 : fn = 14
  · subst c5
    rw [if_pos rfl]
    clear k6
    go_enter Try.func14, Try.ntmps14
    go_wp2_with fail
    refine (k1 _).mono ?_
    rintro e w1 ⟨rfl, rfl⟩
    go_wp2_with fail
    refine (k2 _).mono ?_
    rintro e w1 ⟨rfl, rfl⟩
    go_wp2_with fail
    refine (k3 _).mono ?_
    rintro e w1 ⟨rfl, rfl⟩
    go_wp2_with fail
    refine (k4 _).mono ?_
    rintro e w1 ⟨rfl, rfl⟩
    go_wp2_with fail
    go_quiet ((go_at_call 40; exact (k5 _).mono fun _ _ ⟨he, hm⟩ => ⟨he, _, hm⟩))
    go_wp2
    go_ret
    refine ⟨?_, ⟨rfl, rfl, rfl, Nat.le_refl _, fun _ _ => rfl⟩⟩
    simp only [Int.one_mul, p1, p2]
    rfl
  rw [if_neg c5]
  by_cases c6 : fn = 8
  · subst c6
    rw [if_pos rfl]
    clear k5
    cases tn
    · clear k6
      go_enter Try.func14, Try.ntmps14
      go_wp2_with fail
      refine (k1 _).mono ?_
      rintro e w1 ⟨rfl, rfl⟩
      go_wp2_with fail
      refine (k2 _).mono ?_
      rintro e w1 ⟨rfl, rfl⟩
      go_wp2_with fail
      refine (k3 _).mono ?_
      rintro e w1 ⟨rfl, rfl⟩
      go_wp2_with fail
      refine (k4 _).mono ?_
      rintro e w1 ⟨rfl, rfl⟩
      go_wp2
      go_ret
      exact ⟨by first | (simp; done) | (simp; rfl), Below.refl _ _⟩
    · go_enter Try.func14, Try.ntmps14
      go_wp2_with fail
      refine (k1 _).mono ?_
      rintro e w1 ⟨rfl, rfl⟩
      go_wp2_with fail
      refine (k2 _).mono ?_
      rintro e w1 ⟨rfl, rfl⟩
      go_wp2_with fail
      refine (k3 _).mono ?_
      rintro e w1 ⟨rfl, rfl⟩
      go_wp2_with fail
      refine (k4 _).mono ?_
      rintro e w1 ⟨rfl, rfl⟩
      go_wp2_with fail
      refine (k6 _).mono ?_
      rintro e w2 ⟨rfl, b2⟩
      go_wp2
      go_ret
      exact ⟨by simp, b2⟩
  rw [if_neg c6]
  have e1 : (fn == 1) = false := by simp [c1]
  have e2 : (fn == 2) = false := by simp [c2]
  have e3 : (fn == 5) = false := by simp [c3]
  have e4 : (fn == 10) = false := by simp [c4]
  have e5 : (fn == 14) = false := by simp [c5]
  have e6 : (fn == 8) = false := by simp [c6]
  clear k5 k6
  go_enter Try.func14, Try.ntmps14
  go_wp2_with fail
  refine (k1 _).mono ?_
  rintro e w1 ⟨rfl, rfl⟩
  go_wp2_with fail
  refine (k2 _).mono ?_
  rintro e w1 ⟨rfl, rfl⟩
  go_wp2_with fail
  refine (k3 _).mono ?_
  rintro e w1 ⟨rfl, rfl⟩
  go_wp2_with fail
  refine (k4 _).mono ?_
  rintro e w1 ⟨rfl, rfl⟩
  go_wp2
  go_ret
  exact ⟨by first | (simp; done) | (simp; rfl), Below.refl _ _⟩

end Go.Proofs.Ytbfaeieddbaclaa
