/- StepsFor and Rungs of the specification and of the program, each by its contract. -/
import Derived.Test.YtbfaeieddbaclaaSIn
import Derived.Test.YtbfaeieddbaclaaOwnI
import Derived.Test.YtbfaeieddbaclaaRowI
import Derived.Laws.OwnMore
namespace Go.Proofs.Ytbfaeieddbaclaa
open Go.RowKit

def stepsR (p : Int) : Int := if 1 ≤ p ∧ p ≤ 200 then (if p + 2 < 120 then p + 2 else 120) else 0

theorem sMin (a b : Int) (w : World) : Calls Try.prog 32 #[.int .i64 a, .int .i64 b] w fun e w' => e = .returned (.int .i64 (if a < b then a else b)) ∧ w' = w := by
  by_cases h : a < b
  · rw [if_pos h]
    go_enter Try.func32, Try.ntmps32
    go_wp2
    go_ret
    exact ⟨rfl, rfl⟩
  · rw [if_neg h]
    have h2 : decide (a < b) = false := decide_eq_false h
    clear h
    go_enter Try.func32, Try.ntmps32
    go_wp2
    go_ret
    exact ⟨rfl, rfl⟩

theorem kernAt (p : Int) (w : World) : Calls Try.prog 33 #[.int .i64 p] w fun e w' => e = .returned (.bool (decide (1 ≤ p ∧ p ≤ 200))) ∧ w' = w := by
  by_cases h1 : 1 ≤ p
  · by_cases h2 : p ≤ 200
    · rw [decide_eq_true ⟨h1, h2⟩]
      go_enter Try.func33, Try.ntmps33
      go_wp2
      go_ret
      exact ⟨rfl, rfl⟩
    · rw [decide_eq_false (by omega)]
      have h3 : decide (p ≤ 200) = false := decide_eq_false h2
      clear h2
      go_enter Try.func33, Try.ntmps33
      go_wp2
      go_ret
      exact ⟨rfl, rfl⟩
  · rw [decide_eq_false (by omega)]
    have h3 : decide (1 ≤ p) = false := decide_eq_false h1
    clear h1
    go_enter Try.func33, Try.ntmps33
    go_wp2
    go_ret
    exact ⟨rfl, rfl⟩

theorem sStepsFor (p : Int) (w : World) : Calls Try.prog 11 #[.int .i64 p] w fun e w' => e = .returned (.int .i64 (stepsR p)) ∧ w' = w := by
  by_cases h : 1 ≤ p ∧ p ≤ 200
  · have k1 := fun W => in_yes p 1 200 W h.1 h.2
    have k2 := fun W => sMin (p + 2) 120 W
    have hw : IntKind.i64.wrap (p + 2) = p + 2 := by rw [IntKind.wrap_i64]; omega
    have hr : stepsR p = (if p + 2 < 120 then p + 2 else 120) := if_pos h
    rw [hr]
    generalize (if p + 2 < 120 then p + 2 else 120) = r at *
    clear hr
    go_enter Try.func11, Try.ntmps11
    go_wp2_with fail
    refine (k1 _).mono ?_
    rintro e w1 ⟨rfl, rfl⟩
    go_wp2_with fail
    refine (k2 _).mono ?_
    rintro e w2 ⟨rfl, rfl⟩
    go_wp2
    go_ret
    exact ⟨rfl, rfl⟩
  · have k1 := fun W => in_no p 1 200 W h
    have hr : stepsR p = 0 := if_neg h
    rw [hr]
    clear h hr
    go_enter Try.func11, Try.ntmps11
    go_wp2_with fail
    refine (k1 _).mono ?_
    rintro e w1 ⟨rfl, rfl⟩
    go_wp2
    go_ret
    exact ⟨rfl, rfl⟩

theorem iStepsFor (p : Int) (w : World) : Calls Try.prog 12 #[.int .i64 p] w fun e w' => e = .returned (.int .i64 (stepsR p)) ∧ w' = w := by
  have k1 := fun W => kernAt p W
  by_cases h : 1 ≤ p ∧ p ≤ 200
  · rw [decide_eq_true h] at k1
    have hw : IntKind.i64.wrap (p + 2) = p + 2 := by rw [IntKind.wrap_i64]; omega
    have hr : stepsR p = (if p + 2 < 120 then p + 2 else 120) := if_pos h
    rw [hr]
    clear hr h
    by_cases h2 : p + 2 < 120
    · rw [if_pos h2]
      have h3 : ¬ (120 < p + 2) := by omega
      go_enter Try.func12, Try.ntmps12
      go_wp2_with fail
      refine (k1 _).mono ?_
      rintro e w1 ⟨rfl, rfl⟩
      go_wp2
      go_ret
      exact ⟨by simp_all, rfl⟩
    · rw [if_neg h2]
      rcases Int.lt_or_eq_of_le (Int.not_lt.mp h2) with h4 | h4
      · have h3 : ¬ (p + 2 ≤ 120) := by omega
        clear h2
        go_enter Try.func12, Try.ntmps12
        go_wp2_with fail
        refine (k1 _).mono ?_
        rintro e w1 ⟨rfl, rfl⟩
        go_wp2
        go_ret
        exact ⟨by simp_all, rfl⟩
      · clear h2 hw
        obtain rfl : p = 118 := by omega
        go_enter Try.func12, Try.ntmps12
        go_wp2_with fail
        refine (k1 _).mono ?_
        rintro e w1 ⟨rfl, rfl⟩
        go_wp2
        go_ret
        exact ⟨rfl, rfl⟩
  · rw [decide_eq_false h] at k1
    have hr : stepsR p = 0 := if_neg h
    rw [hr]
    clear h hr
    go_enter Try.func12, Try.ntmps12
    go_wp2_with fail
    refine (k1 _).mono ?_
    rintro e w1 ⟨rfl, rfl⟩
    go_wp2
    go_ret
    exact ⟨rfl, rfl⟩


def rungsR (f : Int) : List Int := if 0 ≤ f ∧ f ≤ 60 then [f + 32, f + 72, f + 132, f + 200] else []
theorem rungsR_len (f : Int) : (rungsR f).length ≤ 1048576 := by unfold rungsR; split <;> simp

theorem pointAt (p : Int) (w : World) : Calls Try.prog 38 #[.int .i64 p] w fun e w' => e = .returned (.bool (decide (0 ≤ p ∧ p ≤ 60))) ∧ w' = w := by
  by_cases h1 : 0 ≤ p
  · by_cases h2 : p ≤ 60
    · rw [decide_eq_true ⟨h1, h2⟩]
      go_enter Try.func38, Try.ntmps38
      go_wp2
      go_ret
      exact ⟨rfl, rfl⟩
    · rw [decide_eq_false (by omega)]
      have h3 : decide (p ≤ 60) = false := decide_eq_false h2
      clear h2
      go_enter Try.func38, Try.ntmps38
      go_wp2
      go_ret
      exact ⟨rfl, rfl⟩
  · rw [decide_eq_false (by omega)]
    have h3 : decide (0 ≤ p) = false := decide_eq_false h1
    clear h1
    go_enter Try.func38, Try.ntmps38
    go_wp2
    go_ret
    exact ⟨rfl, rfl⟩

theorem lit4 (w : World) (base : Nat) (a b c d : Int) (hb : base ≤ w.heap.size) : ownsI (w.alloc (.cells #[.int .i64 a, .int .i64 b, .int .i64 c, .int .i64 d] 3)) base (.slice (some ⟨w.heap.size, 0, none⟩) 4 4) [a, b, c, d] :=
  World.ownsRow_lit w #[.int .i64 a, .int .i64 b, .int .i64 c, .int .i64 d] 4 hb (by decide) rfl
theorem lit0 (w : World) (base : Nat) (hb : base ≤ w.heap.size) : ownsI (w.alloc (.cells #[] 3)) base (.slice (some ⟨w.heap.size, 0, none⟩) 0 0) [] :=
  World.ownsRow_lit w #[] 0 hb (by decide) rfl

theorem sRungs (f : Int) (w : World) : Calls Try.prog 17 #[.int .i64 f] w fun e w' => ∃ v, e = .returned v ∧ ownsI w' w.heap.size v (rungsR f) ∧ Below w.heap.size w w' := by
  by_cases h : 0 ≤ f ∧ f ≤ 60
  · have k1 := fun W => in_yes f 0 60 W h.1 h.2
    have hr : rungsR f = [f + 32, f + 72, f + 132, f + 200] := if_pos h
    rw [hr]
    have e1 : IntKind.i64.wrap (f + 32) = f + 32 := by rw [IntKind.wrap_i64]; omega
    have e2 : IntKind.i64.wrap (f + 72) = f + 72 := by rw [IntKind.wrap_i64]; omega
    have e3 : IntKind.i64.wrap (f + 132) = f + 132 := by rw [IntKind.wrap_i64]; omega
    have e4 : IntKind.i64.wrap (f + 200) = f + 200 := by rw [IntKind.wrap_i64]; omega
    clear hr h
    go_enter Try.func17, Try.ntmps17
    go_wp2_with fail
    refine (k1 _).mono ?_
    rintro e w1 ⟨rfl, rfl⟩
    go_wp2
    go_ret
    exact ⟨_, rfl, lit4 _ _ _ _ _ _ (Nat.le_refl _), (Below.refl _ _).alloc (Nat.le_refl _) _⟩
  · have k1 := fun W => in_no f 0 60 W h
    have hr : rungsR f = [] := if_neg h
    rw [hr]
    clear h hr
    go_enter Try.func17, Try.ntmps17
    go_wp2_with fail
    refine (k1 _).mono ?_
    rintro e w1 ⟨rfl, rfl⟩
    go_wp2
    go_ret
    exact ⟨_, rfl, lit0 _ _ (Nat.le_refl _), (Below.refl _ _).alloc (Nat.le_refl _) _⟩


theorem iRungs (f : Int) (w : World) : Calls Try.prog 18 #[.int .i64 f] w fun e w' => ∃ v, e = .returned v ∧ ownsI w' w.heap.size v (rungsR f) ∧ Below w.heap.size w w' := by
  by_cases h : 0 ≤ f ∧ f ≤ 60
  · have k1 := fun W => pointAt f W
    rw [decide_eq_true h] at k1
    have hr : rungsR f = [f + 32, f + 72, f + 132, f + 200] := if_pos h
    rw [hr]
    have e1 : IntKind.i64.wrap (f + 32) = f + 32 := by rw [IntKind.wrap_i64]; omega
    have e2 : IntKind.i64.wrap (f + 72) = f + 72 := by rw [IntKind.wrap_i64]; omega
    have e3 : IntKind.i64.wrap (f + 132) = f + 132 := by rw [IntKind.wrap_i64]; omega
    have e4 : IntKind.i64.wrap (f + 200) = f + 200 := by rw [IntKind.wrap_i64]; omega
    clear hr h
    go_enter Try.func18, Try.ntmps18
    go_wp2_with fail
    refine (k1 _).mono ?_
    rintro e w1 ⟨rfl, rfl⟩
    go_wp2
    go_ret
    exact ⟨_, rfl, lit4 _ _ _ _ _ _ (Nat.le_refl _), (Below.refl _ _).alloc (Nat.le_refl _) _⟩
  · have k1 := fun W => pointAt f W
    rw [decide_eq_false h] at k1
    have hr : rungsR f = [] := if_neg h
    rw [hr]
    clear h hr
    go_enter Try.func18, Try.ntmps18
    go_wp2_with fail
    refine (k1 _).mono ?_
    rintro e w1 ⟨rfl, rfl⟩
    go_wp2
    go_ret
    exact ⟨_, rfl, World.ownsRow_nil _ _ _ _, Below.refl _ _⟩



end Go.Proofs.Ytbfaeieddbaclaa
