/- ConfOk of the specification and of the program, each by its contract, and the law's walk. -/
import Derived.Test.YtocaaklhlmnonaaConf0
import Derived.Test.YtocaaklhlmnonaaIFmtOk
import Derived.Test.YtocaaklhlmnonaaSIn
namespace Go.Proofs.Ytocaaklhlmnonaa
open Go.RowKit
set_option linter.unusedSimpArgs false

def confR (_ : Bool) (m n : Int) (_ : Bool) (m' n' : Int) (md po : Int) (_ : Bool) : Bool := fok m n && fok m' n' && decide (0 ≤ md ∧ md ≤ 4) && decide (0 ≤ po ∧ po ≤ 2)

theorem modeAt (p : Int) (w : World) : Calls Try.prog 81 #[.int .i64 p] w fun e w' => e = .returned (.bool (decide (0 ≤ p ∧ p ≤ 4))) ∧ w' = w := by
  by_cases h1 : 0 ≤ p
  · by_cases h2 : p ≤ 4
    · rw [decide_eq_true ⟨h1, h2⟩]
      go_enter Try.func81, Try.ntmps81
      go_wp2
      go_ret
      exact ⟨rfl, rfl⟩
    · rw [decide_eq_false (by omega)]
      have h3 : decide (p ≤ 4) = false := decide_eq_false h2
      clear h2
      go_enter Try.func81, Try.ntmps81
      go_wp2
      go_ret
      exact ⟨rfl, rfl⟩
  · rw [decide_eq_false (by omega)]
    have h3 : decide (0 ≤ p) = false := decide_eq_false h1
    clear h1
    go_enter Try.func81, Try.ntmps81
    go_wp2
    go_ret
    exact ⟨rfl, rfl⟩

theorem policyAt (p : Int) (w : World) : Calls Try.prog 82 #[.int .i64 p] w fun e w' => e = .returned (.bool (decide (0 ≤ p ∧ p ≤ 2))) ∧ w' = w := by
  by_cases h1 : 0 ≤ p
  · by_cases h2 : p ≤ 2
    · rw [decide_eq_true ⟨h1, h2⟩]
      go_enter Try.func82, Try.ntmps82
      go_wp2
      go_ret
      exact ⟨rfl, rfl⟩
    · rw [decide_eq_false (by omega)]
      have h3 : decide (p ≤ 2) = false := decide_eq_false h2
      clear h2
      go_enter Try.func82, Try.ntmps82
      go_wp2
      go_ret
      exact ⟨rfl, rfl⟩
  · rw [decide_eq_false (by omega)]
    have h3 : decide (0 ≤ p) = false := decide_eq_false h1
    clear h1
    go_enter Try.func82, Try.ntmps82
    go_wp2
    go_ret
    exact ⟨rfl, rfl⟩

theorem inAt (x lo hi : Int) (w : World) : Calls Try.prog 47 #[.int .i64 x, .int .i64 lo, .int .i64 hi] w fun e w' => e = .returned (.bool (decide (lo ≤ x ∧ x ≤ hi))) ∧ w' = w := by
  by_cases h : lo ≤ x ∧ x ≤ hi
  · rw [decide_eq_true h]; exact in_yes x lo hi w h.1 h.2
  · rw [decide_eq_false h]; exact in_no x lo hi w h
theorem sModeAt (p : Int) (w : World) : Calls Try.prog 78 #[.int .i64 p] w fun e w' => e = .returned (.bool (decide (0 ≤ p ∧ p ≤ 4))) ∧ w' = w := by
  have k := fun W => inAt p 0 4 W
  generalize decide (0 ≤ p ∧ p ≤ 4) = r at *
  go_enter Try.func78, Try.ntmps78
  go_wp2_with fail
  refine (k _).mono ?_
  rintro e w1 ⟨rfl, rfl⟩
  go_wp2
  go_ret
  exact ⟨rfl, rfl⟩

set_option maxRecDepth 20000 in
set_option maxHeartbeats 3200000 in
theorem sConfOk (g : Bool) (m n : Int) (g' : Bool) (m' n' : Int) (md po : Int) (tn : Bool) (w : World) :
    Calls Try.prog 56 #[vQ g m n g' m' n' md po tn] w fun e w' => e = .returned (.bool (confR g m n g' m' n' md po tn)) ∧ Below w.heap.size w w' := by
  have k0 := fun W => sFmtOk g m n W
  have k1 := fun W => sFmtOk g' m' n' W
  have k2 := fun W => (sModeAt md W).mono fun e w' ⟨a, b⟩ => (⟨a, b ▸ Below.refl _ _⟩ : _ ∧ Below W.heap.size W w')
  have k3 := fun W => (inAt po 0 2 W).mono fun e w' ⟨a, b⟩ => (⟨a, b ▸ Below.refl _ _⟩ : _ ∧ Below W.heap.size W w')
  unfold confR
  generalize fok m n = r0 at *
  generalize fok m' n' = r1 at *
  generalize decide (0 ≤ md ∧ md ≤ 4) = r2 at *
  generalize decide (0 ≤ po ∧ po ≤ 2) = r3 at *
  have X := Bx9.made w (.bool g) (.int .i64 m) (.int .i64 n) (.bool g') (.int .i64 m') (.int .i64 n') (.int .i64 md) (.int .i64 po) (.bool tn) 47
  have B := below1 w (.cells #[.bool g, .int .i64 m, .int .i64 n, .bool g', .int .i64 m', .int .i64 n', .int .i64 md, .int .i64 po, .bool tn] 47)
  cases r0
  · go_enter Try.func56, Try.ntmps56
    go_wp2_with fail
    refine (k0 _).mono ?_
    generalize w.alloc (.cells #[.bool g, .int .i64 m, .int .i64 n, .bool g', .int .i64 m', .int .i64 n', .int .i64 md, .int .i64 po, .bool tn] 47) = w0 at *
    rintro e w1 ⟨rfl, b1⟩
    have X := X.below b1 (Nat.le_refl _)
    have B := B.trans (b1.mono B.size)
    have HB := B
    clear X
    go_wp2
    go_ret
    exact ⟨by simp, HB⟩
  · cases r1
    · go_enter Try.func56, Try.ntmps56
      go_wp2_with fail
      refine (k0 _).mono ?_
      generalize w.alloc (.cells #[.bool g, .int .i64 m, .int .i64 n, .bool g', .int .i64 m', .int .i64 n', .int .i64 md, .int .i64 po, .bool tn] 47) = w0 at *
      rintro e w1 ⟨rfl, b1⟩
      have X := X.below b1 (Nat.le_refl _)
      have B := B.trans (b1.mono B.size)
      have c0 := X.c0
      have c1 := X.c1
      have c2 := X.c2
      have c3 := X.c3
      have c4 := X.c4
      have c5 := X.c5
      have c6 := X.c6
      have c7 := X.c7
      have c8 := X.c8
      go_wp2_with fail
      clear c0 c1 c2 c3 c4 c5 c6 c7 c8
      refine (k1 _).mono ?_
      rintro e w2 ⟨rfl, b2⟩
      have X := X.below b2 (Nat.le_refl _)
      have B := B.trans (b2.mono B.size)
      have HB := B
      clear X
      go_wp2
      go_ret
      exact ⟨by simp, HB⟩
    · cases r2
      · go_enter Try.func56, Try.ntmps56
        go_wp2_with fail
        refine (k0 _).mono ?_
        generalize w.alloc (.cells #[.bool g, .int .i64 m, .int .i64 n, .bool g', .int .i64 m', .int .i64 n', .int .i64 md, .int .i64 po, .bool tn] 47) = w0 at *
        rintro e w1 ⟨rfl, b1⟩
        have X := X.below b1 (Nat.le_refl _)
        have B := B.trans (b1.mono B.size)
        have c0 := X.c0
        have c1 := X.c1
        have c2 := X.c2
        have c3 := X.c3
        have c4 := X.c4
        have c5 := X.c5
        have c6 := X.c6
        have c7 := X.c7
        have c8 := X.c8
        go_wp2_with fail
        clear c0 c1 c2 c3 c4 c5 c6 c7 c8
        refine (k1 _).mono ?_
        rintro e w2 ⟨rfl, b2⟩
        have X := X.below b2 (Nat.le_refl _)
        have B := B.trans (b2.mono B.size)
        have c0 := X.c0
        have c1 := X.c1
        have c2 := X.c2
        have c3 := X.c3
        have c4 := X.c4
        have c5 := X.c5
        have c6 := X.c6
        have c7 := X.c7
        have c8 := X.c8
        go_wp2_with fail
        clear c0 c1 c2 c3 c4 c5 c6 c7 c8
        refine (k2 _).mono ?_
        rintro e w3 ⟨rfl, b3⟩
        have X := X.below b3 (Nat.le_refl _)
        have B := B.trans (b3.mono B.size)
        have HB := B
        clear X
        go_wp2
        go_ret
        exact ⟨by simp, HB⟩
      · cases r3
        · go_enter Try.func56, Try.ntmps56
          go_wp2_with fail
          refine (k0 _).mono ?_
          generalize w.alloc (.cells #[.bool g, .int .i64 m, .int .i64 n, .bool g', .int .i64 m', .int .i64 n', .int .i64 md, .int .i64 po, .bool tn] 47) = w0 at *
          rintro e w1 ⟨rfl, b1⟩
          have X := X.below b1 (Nat.le_refl _)
          have B := B.trans (b1.mono B.size)
          have c0 := X.c0
          have c1 := X.c1
          have c2 := X.c2
          have c3 := X.c3
          have c4 := X.c4
          have c5 := X.c5
          have c6 := X.c6
          have c7 := X.c7
          have c8 := X.c8
          go_wp2_with fail
          clear c0 c1 c2 c3 c4 c5 c6 c7 c8
          refine (k1 _).mono ?_
          rintro e w2 ⟨rfl, b2⟩
          have X := X.below b2 (Nat.le_refl _)
          have B := B.trans (b2.mono B.size)
          have c0 := X.c0
          have c1 := X.c1
          have c2 := X.c2
          have c3 := X.c3
          have c4 := X.c4
          have c5 := X.c5
          have c6 := X.c6
          have c7 := X.c7
          have c8 := X.c8
          go_wp2_with fail
          clear c0 c1 c2 c3 c4 c5 c6 c7 c8
          refine (k2 _).mono ?_
          rintro e w3 ⟨rfl, b3⟩
          have X := X.below b3 (Nat.le_refl _)
          have B := B.trans (b3.mono B.size)
          have c0 := X.c0
          have c1 := X.c1
          have c2 := X.c2
          have c3 := X.c3
          have c4 := X.c4
          have c5 := X.c5
          have c6 := X.c6
          have c7 := X.c7
          have c8 := X.c8
          go_wp2_with fail
          clear c0 c1 c2 c3 c4 c5 c6 c7 c8
          refine (k3 _).mono ?_
          rintro e w4 ⟨rfl, b4⟩
          have X := X.below b4 (Nat.le_refl _)
          have B := B.trans (b4.mono B.size)
          have HB := B
          clear X
          go_wp2
          go_ret
          exact ⟨by simp, HB⟩
        · go_enter Try.func56, Try.ntmps56
          go_wp2_with fail
          refine (k0 _).mono ?_
          generalize w.alloc (.cells #[.bool g, .int .i64 m, .int .i64 n, .bool g', .int .i64 m', .int .i64 n', .int .i64 md, .int .i64 po, .bool tn] 47) = w0 at *
          rintro e w1 ⟨rfl, b1⟩
          have X := X.below b1 (Nat.le_refl _)
          have B := B.trans (b1.mono B.size)
          have c0 := X.c0
          have c1 := X.c1
          have c2 := X.c2
          have c3 := X.c3
          have c4 := X.c4
          have c5 := X.c5
          have c6 := X.c6
          have c7 := X.c7
          have c8 := X.c8
          go_wp2_with fail
          clear c0 c1 c2 c3 c4 c5 c6 c7 c8
          refine (k1 _).mono ?_
          rintro e w2 ⟨rfl, b2⟩
          have X := X.below b2 (Nat.le_refl _)
          have B := B.trans (b2.mono B.size)
          have c0 := X.c0
          have c1 := X.c1
          have c2 := X.c2
          have c3 := X.c3
          have c4 := X.c4
          have c5 := X.c5
          have c6 := X.c6
          have c7 := X.c7
          have c8 := X.c8
          go_wp2_with fail
          clear c0 c1 c2 c3 c4 c5 c6 c7 c8
          refine (k2 _).mono ?_
          rintro e w3 ⟨rfl, b3⟩
          have X := X.below b3 (Nat.le_refl _)
          have B := B.trans (b3.mono B.size)
          have c0 := X.c0
          have c1 := X.c1
          have c2 := X.c2
          have c3 := X.c3
          have c4 := X.c4
          have c5 := X.c5
          have c6 := X.c6
          have c7 := X.c7
          have c8 := X.c8
          go_wp2_with fail
          clear c0 c1 c2 c3 c4 c5 c6 c7 c8
          refine (k3 _).mono ?_
          rintro e w4 ⟨rfl, b4⟩
          have X := X.below b4 (Nat.le_refl _)
          have B := B.trans (b4.mono B.size)
          have HB := B
          clear X
          go_wp2
          go_ret
          exact ⟨by simp, HB⟩

set_option maxRecDepth 20000 in
set_option maxHeartbeats 3200000 in
theorem iConfOk (g : Bool) (m n : Int) (g' : Bool) (m' n' : Int) (md po : Int) (tn : Bool) (w : World) :
    Calls Try.prog 58 #[vQ g m n g' m' n' md po tn] w fun e w' => e = .returned (.bool (confR g m n g' m' n' md po tn)) ∧ Below w.heap.size w w' := by
  have k0 := fun W => iFmtOk g m n W
  have k1 := fun W => iFmtOk g' m' n' W
  have k2 := fun W => (modeAt md W).mono fun e w' ⟨a, b⟩ => (⟨a, b ▸ Below.refl _ _⟩ : _ ∧ Below W.heap.size W w')
  have k3 := fun W => (policyAt po W).mono fun e w' ⟨a, b⟩ => (⟨a, b ▸ Below.refl _ _⟩ : _ ∧ Below W.heap.size W w')
  unfold confR
  generalize fok m n = r0 at *
  generalize fok m' n' = r1 at *
  generalize decide (0 ≤ md ∧ md ≤ 4) = r2 at *
  generalize decide (0 ≤ po ∧ po ≤ 2) = r3 at *
  have X := Bx9.made w (.bool g) (.int .i64 m) (.int .i64 n) (.bool g') (.int .i64 m') (.int .i64 n') (.int .i64 md) (.int .i64 po) (.bool tn) 47
  have B := below1 w (.cells #[.bool g, .int .i64 m, .int .i64 n, .bool g', .int .i64 m', .int .i64 n', .int .i64 md, .int .i64 po, .bool tn] 47)
  cases r0
  · go_enter Try.func58, Try.ntmps58
    go_wp2_with fail
    refine (k0 _).mono ?_
    generalize w.alloc (.cells #[.bool g, .int .i64 m, .int .i64 n, .bool g', .int .i64 m', .int .i64 n', .int .i64 md, .int .i64 po, .bool tn] 47) = w0 at *
    rintro e w1 ⟨rfl, b1⟩
    have X := X.below b1 (Nat.le_refl _)
    have B := B.trans (b1.mono B.size)
    have HB := B
    clear X
    go_wp2
    go_ret
    exact ⟨by simp, HB⟩
  · cases r1
    · go_enter Try.func58, Try.ntmps58
      go_wp2_with fail
      refine (k0 _).mono ?_
      generalize w.alloc (.cells #[.bool g, .int .i64 m, .int .i64 n, .bool g', .int .i64 m', .int .i64 n', .int .i64 md, .int .i64 po, .bool tn] 47) = w0 at *
      rintro e w1 ⟨rfl, b1⟩
      have X := X.below b1 (Nat.le_refl _)
      have B := B.trans (b1.mono B.size)
      have c0 := X.c0
      have c1 := X.c1
      have c2 := X.c2
      have c3 := X.c3
      have c4 := X.c4
      have c5 := X.c5
      have c6 := X.c6
      have c7 := X.c7
      have c8 := X.c8
      go_wp2_with fail
      clear c0 c1 c2 c3 c4 c5 c6 c7 c8
      refine (k1 _).mono ?_
      rintro e w2 ⟨rfl, b2⟩
      have X := X.below b2 (Nat.le_refl _)
      have B := B.trans (b2.mono B.size)
      have HB := B
      clear X
      go_wp2
      go_ret
      exact ⟨by simp, HB⟩
    · cases r2
      · go_enter Try.func58, Try.ntmps58
        go_wp2_with fail
        refine (k0 _).mono ?_
        generalize w.alloc (.cells #[.bool g, .int .i64 m, .int .i64 n, .bool g', .int .i64 m', .int .i64 n', .int .i64 md, .int .i64 po, .bool tn] 47) = w0 at *
        rintro e w1 ⟨rfl, b1⟩
        have X := X.below b1 (Nat.le_refl _)
        have B := B.trans (b1.mono B.size)
        have c0 := X.c0
        have c1 := X.c1
        have c2 := X.c2
        have c3 := X.c3
        have c4 := X.c4
        have c5 := X.c5
        have c6 := X.c6
        have c7 := X.c7
        have c8 := X.c8
        go_wp2_with fail
        clear c0 c1 c2 c3 c4 c5 c6 c7 c8
        refine (k1 _).mono ?_
        rintro e w2 ⟨rfl, b2⟩
        have X := X.below b2 (Nat.le_refl _)
        have B := B.trans (b2.mono B.size)
        have c0 := X.c0
        have c1 := X.c1
        have c2 := X.c2
        have c3 := X.c3
        have c4 := X.c4
        have c5 := X.c5
        have c6 := X.c6
        have c7 := X.c7
        have c8 := X.c8
        go_wp2_with fail
        clear c0 c1 c2 c3 c4 c5 c6 c7 c8
        refine (k2 _).mono ?_
        rintro e w3 ⟨rfl, b3⟩
        have X := X.below b3 (Nat.le_refl _)
        have B := B.trans (b3.mono B.size)
        have HB := B
        clear X
        go_wp2
        go_ret
        exact ⟨by simp, HB⟩
      · cases r3
        · go_enter Try.func58, Try.ntmps58
          go_wp2_with fail
          refine (k0 _).mono ?_
          generalize w.alloc (.cells #[.bool g, .int .i64 m, .int .i64 n, .bool g', .int .i64 m', .int .i64 n', .int .i64 md, .int .i64 po, .bool tn] 47) = w0 at *
          rintro e w1 ⟨rfl, b1⟩
          have X := X.below b1 (Nat.le_refl _)
          have B := B.trans (b1.mono B.size)
          have c0 := X.c0
          have c1 := X.c1
          have c2 := X.c2
          have c3 := X.c3
          have c4 := X.c4
          have c5 := X.c5
          have c6 := X.c6
          have c7 := X.c7
          have c8 := X.c8
          go_wp2_with fail
          clear c0 c1 c2 c3 c4 c5 c6 c7 c8
          refine (k1 _).mono ?_
          rintro e w2 ⟨rfl, b2⟩
          have X := X.below b2 (Nat.le_refl _)
          have B := B.trans (b2.mono B.size)
          have c0 := X.c0
          have c1 := X.c1
          have c2 := X.c2
          have c3 := X.c3
          have c4 := X.c4
          have c5 := X.c5
          have c6 := X.c6
          have c7 := X.c7
          have c8 := X.c8
          go_wp2_with fail
          clear c0 c1 c2 c3 c4 c5 c6 c7 c8
          refine (k2 _).mono ?_
          rintro e w3 ⟨rfl, b3⟩
          have X := X.below b3 (Nat.le_refl _)
          have B := B.trans (b3.mono B.size)
          have c0 := X.c0
          have c1 := X.c1
          have c2 := X.c2
          have c3 := X.c3
          have c4 := X.c4
          have c5 := X.c5
          have c6 := X.c6
          have c7 := X.c7
          have c8 := X.c8
          go_wp2_with fail
          clear c0 c1 c2 c3 c4 c5 c6 c7 c8
          refine (k3 _).mono ?_
          rintro e w4 ⟨rfl, b4⟩
          have X := X.below b4 (Nat.le_refl _)
          have B := B.trans (b4.mono B.size)
          have HB := B
          clear X
          go_wp2
          go_ret
          exact ⟨by simp, HB⟩
        · go_enter Try.func58, Try.ntmps58
          go_wp2_with fail
          refine (k0 _).mono ?_
          generalize w.alloc (.cells #[.bool g, .int .i64 m, .int .i64 n, .bool g', .int .i64 m', .int .i64 n', .int .i64 md, .int .i64 po, .bool tn] 47) = w0 at *
          rintro e w1 ⟨rfl, b1⟩
          have X := X.below b1 (Nat.le_refl _)
          have B := B.trans (b1.mono B.size)
          have c0 := X.c0
          have c1 := X.c1
          have c2 := X.c2
          have c3 := X.c3
          have c4 := X.c4
          have c5 := X.c5
          have c6 := X.c6
          have c7 := X.c7
          have c8 := X.c8
          go_wp2_with fail
          clear c0 c1 c2 c3 c4 c5 c6 c7 c8
          refine (k1 _).mono ?_
          rintro e w2 ⟨rfl, b2⟩
          have X := X.below b2 (Nat.le_refl _)
          have B := B.trans (b2.mono B.size)
          have c0 := X.c0
          have c1 := X.c1
          have c2 := X.c2
          have c3 := X.c3
          have c4 := X.c4
          have c5 := X.c5
          have c6 := X.c6
          have c7 := X.c7
          have c8 := X.c8
          go_wp2_with fail
          clear c0 c1 c2 c3 c4 c5 c6 c7 c8
          refine (k2 _).mono ?_
          rintro e w3 ⟨rfl, b3⟩
          have X := X.below b3 (Nat.le_refl _)
          have B := B.trans (b3.mono B.size)
          have c0 := X.c0
          have c1 := X.c1
          have c2 := X.c2
          have c3 := X.c3
          have c4 := X.c4
          have c5 := X.c5
          have c6 := X.c6
          have c7 := X.c7
          have c8 := X.c8
          go_wp2_with fail
          clear c0 c1 c2 c3 c4 c5 c6 c7 c8
          refine (k3 _).mono ?_
          rintro e w4 ⟨rfl, b4⟩
          have X := X.below b4 (Nat.le_refl _)
          have B := B.trans (b4.mono B.size)
          have HB := B
          clear X
          go_wp2
          go_ret
          exact ⟨by simp, HB⟩

end Go.Proofs.Ytocaaklhlmnonaa
