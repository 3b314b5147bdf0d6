/- Several small texts in one: Fun7, Fun4, Fun6. -/
import Derived.Test.YtbfaeieddbaclaaEF
import Derived.Test.YtbfaeieddbaclaaFun5
import Derived.Test.YtbfaeieddbaclaaSPow0
/- What is exact: plain numbers. -/
namespace Go.Proofs.Ytbfaeieddbaclaa
open Go.RowKit
set_option linter.unusedSimpArgs false

def wave (n : Int) : Int := if n % 4 = 1 then 1 else if n % 4 = 3 then -1 else 0
def sgn (a : Int) : Int := if a < 0 then -1 else 1
def turnE (fn : Int) (e : Int × Bool) : Int × Bool :=
  if e.2 = false then (0, false) else if fn = 6 then (if e.1 % 2 = 0 then (wave (e.1 / 2), true) else (0, false)) else if fn = 7 then (if e.1 % 2 = 0 then (wave (e.1 / 2 + 1), true) else (0, false)) else if fn = 8 then (wave e.1, true) else (0, false)
def turnR (fn : Int) (f : Nat) (a : Int) : Int × Bool := turnE fn (eiR a f)
def pointR (y x : Int) : Int × Bool :=
  if y = 0 then (if 0 < x then 0 else 4, true) else if x = 0 then (2 * sgn y, true) else if x = y ∨ x = -y then (if 0 < x then sgn y else 3 * sgn y, true) else (0, false)
def anyR (fn : Int) (P a b : Int) : Int × Bool :=
  if fn = 4 ∨ fn = 7 ∨ fn = 12 then (1, a == 0) else if fn = 6 ∨ fn = 8 ∨ fn = 9 ∨ fn = 11 ∨ fn = 13 ∨ fn = 14 then (0, a == 0) else if fn = 5 then (0, a == P) else if fn = 10 then (0, a == 0 && decide (0 < b)) else (0, false)
def inTurnR (fn P a b : Int) : Int × Bool := if fn = 9 then pointR a P else if fn = 10 then pointR a b else (0, false)
/-- What the specification asks. -/
def exactR (fn : Int) (tn : Bool) (f a b : Int) : Int × Int × Bool :=
  if inDomR fn tn f a b = false ∨ fn < 4 then (0, 0, false)
  else if a = 0 ∧ fn ≠ 5 ∧ fn ≠ 10 then (if fn = 4 ∨ fn = 7 ∨ fn = 12 then 1 else 0, 0, true)
  else if fn = 5 then (0, 0, a == 2 ^ f.toNat)
  else if fn = 10 ∧ a = 0 ∧ 0 < b then (0, 0, true)
  else if tn = false then (0, 0, false)
  else if fn = 9 ∨ fn = 10 then (if (pointR a (if fn = 9 then 2 ^ f.toNat else b)).2 = true then ((pointR a (if fn = 9 then 2 ^ f.toNat else b)).1, 3, true) else (0, 0, false))
  else ((turnR fn f.toNat a).1, 0, (turnR fn f.toNat a).2)
/-- What the program does. -/
def exactC (tn : Bool) (r1 r2 r3 : Int × Bool) : Int × Int × Bool :=
  if r1.2 = true then (r1.1, 0, true) else if tn = false then (0, 0, false) else if r2.2 = true then (r2.1, 0, true) else if r3.2 = true then (r3.1, 3, true) else (0, 0, false)
theorem turnE_no (fn : Int) (e : Int × Bool) (h6 : fn ≠ 6) (h7 : fn ≠ 7) (h8 : fn ≠ 8) : turnE fn e = (0, false) := by
  unfold turnE; rw [if_neg h6, if_neg h7, if_neg h8]; split <;> rfl
theorem turnE_two (fn : Int) (e : Int × Bool) (h : (turnE fn e).2 = false) : turnE fn e = (0, false) := by
  unfold turnE at *
  split at h
  · rw [if_pos (by assumption)]
  · rw [if_neg (by assumption)]
    split at h
    · rw [if_pos (by assumption)]
      split at h
      · cases h
      · rw [if_neg (by assumption)]
    · rw [if_neg (by assumption)]
      split at h
      · rw [if_pos (by assumption)]
        split at h
        · cases h
        · rw [if_neg (by assumption)]
      · rw [if_neg (by assumption)]
        split at h
        · cases h
        · rw [if_neg (by assumption)]
theorem exact_same (fn : Int) (tn : Bool) (f a b : Int) (hd : inDomR fn tn f a b = true) : exactR fn tn f a b = exactC tn (anyR fn (2 ^ f.toNat) a b) (turnR fn f.toNat a) (inTurnR fn (2 ^ f.toNat) a b) := by
  have hfn : 0 ≤ fn ∧ fn < 15 := by
    unfold inDomR at hd
    split at hd
    · rename_i h; exact ⟨h.1, h.2.1⟩
    · cases hd
  have ht := turnE_two fn (eiR a f.toNat)
  have hn := turnE_no fn (eiR a f.toNat)
  unfold exactR exactC turnR inTurnR anyR
  rw [hd]
  generalize turnE fn (eiR a f.toNat) = t at *
  generalize (2 : Int) ^ f.toNat = P at *
  obtain ⟨t1, t2⟩ := t
  have hc : fn = 0 ∨ fn = 1 ∨ fn = 2 ∨ fn = 3 ∨ fn = 4 ∨ fn = 5 ∨ fn = 6 ∨ fn = 7 ∨ fn = 8 ∨ fn = 9 ∨ fn = 10 ∨ fn = 11 ∨ fn = 12 ∨ fn = 13 ∨ fn = 14 := by omega
  clear hd hfn
  rcases hc with rfl | rfl | rfl | rfl | rfl | rfl | rfl | rfl | rfl | rfl | rfl | rfl | rfl | rfl | rfl
  all_goals (by_cases ha : a = 0 <;> cases tn <;> cases t2 <;> simp_all)
  all_goals (repeat' split)
  all_goals (first | rfl | simp_all | omega)

theorem turn_part (fn : Int) (f : Nat) (a : Int) : turnR fn f a = (if fn = 6 ∧ (partR a f 4 4).1 = true then (sgn a * wave (partR a f 4 4).2, true) else if fn = 7 ∧ (partR a f 4 4).1 = true then (wave ((partR a f 4 4).2 + 1), true) else if fn = 8 ∧ (partR a f 8 4).1 = true then (sgn a * wave (partR a f 8 4).2, true) else (0, false)) := by
  obtain ⟨e1, e2⟩ := ei_ok a f
  unfold turnR
  by_cases h6 : fn = 6 ∨ fn = 7 ∨ fn = 8
  · by_cases h : 8 * a % 2 ^ f = 0
    · obtain ⟨y1, y2, y3, y4, y5⟩ := eight_yes a f h
      rw [e1, decide_eq_true h] at e2
      have e2 := e2 rfl
      rw [decide_eq_true h] at e1
      unfold turnE partR
      rw [e1, e2, if_pos y1, y2]
      generalize 8 * a / 2 ^ f = e at *
      by_cases h2 : e % 2 = 0
      · rw [if_pos (y3.mpr h2), y4 h2]
        have h3 : e % 8 % 2 = 0 := by omega
        rcases h6 with rfl | rfl | rfl
        · simp only [h3, if_true]
          unfold wave sgn
          simp
          repeat' split
          all_goals (first | rfl | omega)
        · simp only [h3, if_true]
          unfold wave
          simp
          repeat' split
          all_goals (first | rfl | omega)
        · unfold wave sgn
          simp
          repeat' split
          all_goals (first | rfl | omega)
      · rw [if_neg (fun h => h2 (y3.mp h))]
        have h3 : ¬ e % 8 % 2 = 0 := by omega
        rcases h6 with rfl | rfl | rfl
        · simp
          omega
        · simp
          omega
        · unfold wave sgn
          simp
          repeat' split
          all_goals (first | rfl | omega)
    · rw [decide_eq_false h] at e1
      unfold turnE partR
      rw [e1, if_neg (eight_no a f h).2, if_neg (eight_no a f h).1]
      simp
  · rw [turnE_no fn _ (by omega) (by omega) (by omega), if_neg (by omega), if_neg (by omega), if_neg (by omega)]

end Go.Proofs.Ytbfaeieddbaclaa

/- InDomain of the program, by its contract. -/
namespace Go.Proofs.Ytbfaeieddbaclaa
open Go.RowKit
set_option linter.unusedSimpArgs false

set_option maxRecDepth 20000 in
set_option maxHeartbeats 3200000 in
theorem iInDomain (fn : Int) (tn : Bool) (f a b : Int) (w : World) :
    Calls Try.prog 14 #[.int .i64 fn, .bool tn, .int .i64 f, .int .i64 a, .int .i64 b] w fun e w' => e = .returned (.bool (inDomR fn tn f a b)) ∧ Below w.heap.size w w' := by
  have k1 := fun W => funAt fn W
  have k2 := fun W => pointAt f W
  have k3 := fun W => argAt a W
  have k4 := fun W => argAt b W
  by_cases h1 : 0 ≤ fn ∧ fn < 15
  case neg =>
    have hr : inDomR fn tn f a b = false := if_neg (fun h => h1 ⟨h.1, h.2.1⟩)
    rw [hr]
    rw [decide_eq_false h1] at k1
    clear h1 hr k2 k3 k4
    go_enter Try.func14, Try.ntmps14
    go_wp2_with fail
    refine (k1 _).mono ?_
    rintro e w1 ⟨rfl, rfl⟩
    go_wp2
    go_ret
    exact ⟨rfl, Below.refl _ _⟩
  by_cases h2 : 0 ≤ f ∧ f ≤ 60
  case neg =>
    have hr : inDomR fn tn f a b = false := if_neg (fun h => h2 ⟨h.2.2.1, h.2.2.2.1⟩)
    rw [hr]
    rw [decide_eq_true h1] at k1
    rw [decide_eq_false h2] at k2
    clear h1 h2 hr k3 k4
    go_enter Try.func14, Try.ntmps14
    go_wp2_with fail
    refine (k1 _).mono ?_
    rintro e w1 ⟨rfl, rfl⟩
    go_wp2_with fail
    refine (k2 _).mono ?_
    rintro e w1 ⟨rfl, rfl⟩
    go_wp2
    go_ret
    exact ⟨rfl, Below.refl _ _⟩
  by_cases h3 : -2305843009213693952 ≤ a ∧ a ≤ 2305843009213693952
  case neg =>
    have hr : inDomR fn tn f a b = false := if_neg (fun h => h3 ⟨h.2.2.2.2.1, h.2.2.2.2.2.1⟩)
    rw [hr]
    rw [decide_eq_true h1] at k1
    rw [decide_eq_true h2] at k2
    rw [decide_eq_false h3] at k3
    clear h1 h2 h3 hr k4
    go_enter Try.func14, Try.ntmps14
    go_wp2_with fail
    refine (k1 _).mono ?_
    rintro e w1 ⟨rfl, rfl⟩
    go_wp2_with fail
    refine (k2 _).mono ?_
    rintro e w1 ⟨rfl, rfl⟩
    go_wp2_with fail
    refine (k3 _).mono ?_
    rintro e w1 ⟨rfl, rfl⟩
    go_wp2
    go_ret
    exact ⟨rfl, Below.refl _ _⟩
  by_cases h4 : -2305843009213693952 ≤ b ∧ b ≤ 2305843009213693952
  case neg =>
    have hr : inDomR fn tn f a b = false := if_neg (fun h => h4 ⟨h.2.2.2.2.2.2.1, h.2.2.2.2.2.2.2⟩)
    rw [hr]
    rw [decide_eq_true h1] at k1
    rw [decide_eq_true h2] at k2
    rw [decide_eq_true h3] at k3
    rw [decide_eq_false h4] at k4
    clear h1 h2 h3 h4 hr
    go_enter Try.func14, Try.ntmps14
    go_wp2_with fail
    refine (k1 _).mono ?_
    rintro e w1 ⟨rfl, rfl⟩
    go_wp2_with fail
    refine (k2 _).mono ?_
    rintro e w1 ⟨rfl, rfl⟩
    go_wp2_with fail
    refine (k3 _).mono ?_
    rintro e w1 ⟨rfl, rfl⟩
    go_wp2_with fail
    refine (k4 _).mono ?_
    rintro e w1 ⟨rfl, rfl⟩
    go_wp2
    go_ret
    exact ⟨rfl, Below.refl _ _⟩
  have hr : inDomR fn tn f a b = (if fn = 1 then !(b == 0) else if fn = 2 then decide (0 ≤ a) else if fn = 5 then decide (0 < a) else if fn = 10 then (!(a == 0) || !(b == 0)) else if fn = 14 then decide ((a.natAbs : Int) < 2 ^ f.toNat) else if fn = 8 then (!tn || !upR a f.toNat) else true) := if_pos ⟨h1.1, h1.2, h2.1, h2.2, h3.1, h3.2, h4.1, h4.2⟩
  rw [hr]
  rw [decide_eq_true h1] at k1
  rw [decide_eq_true h2] at k2
  rw [decide_eq_true h3] at k3
  rw [decide_eq_true h4] at k4
  obtain ⟨k, rfl⟩ : ∃ k : Nat, f = (k : Int) := ⟨f.toNat, by omega⟩
  rw [Int.toNat_natCast]
  have k5 := fun W => sizeAt a W h3.1 h3.2
  have k6 := fun W => uprightAt a k W (by omega)
  have hp0 : (0 : Int) < 2 ^ k := Int.pow_pos (by omega)
  have hp : (2 : Int) ^ k ≤ 2 ^ 60 := by
    have : (2 : Nat) ^ k ≤ 2 ^ 60 := Nat.pow_le_pow_right (by decide) (by omega)
    exact_mod_cast this
  have p1 : RowKit.wrap64 ((2 : Int) ^ k) = 2 ^ k := IntWalk.wrap64_in _ (by omega)
  have p2 : (k : Int).toNat = k := by omega
  have p3 : (k : Int) ≤ 64 := by omega
  generalize upR a k = u at *
  generalize a.natAbs = m at *
  clear h1 h2 h3 h4 hr hp hp0
  by_cases c1 : fn = 1
  · subst c1
    rw [if_pos rfl]
    clear k5 k6
    go_enter Try.func14, Try.ntmps14
    go_wp2_with fail
    refine (k1 _).mono ?_
    rintro e w1 ⟨rfl, rfl⟩
    go_wp2_with fail
    refine (k2 _).mono ?_
    rintro e w1 ⟨rfl, rfl⟩
    go_wp2_with fail
    refine (k3 _).mono ?_
    rintro e w1 ⟨rfl, rfl⟩
    go_wp2_with fail
    refine (k4 _).mono ?_
    rintro e w1 ⟨rfl, rfl⟩
    go_wp2
    go_ret
    exact ⟨by first | (simp; done) | (simp; rfl), Below.refl _ _⟩
  rw [if_neg c1]
  by_cases c2 : fn = 2
  · subst c2
    rw [if_pos rfl]
    clear k5 k6
    go_enter Try.func14, Try.ntmps14
    go_wp2_with fail
    refine (k1 _).mono ?_
    rintro e w1 ⟨rfl, rfl⟩
    go_wp2_with fail
    refine (k2 _).mono ?_
    rintro e w1 ⟨rfl, rfl⟩
    go_wp2_with fail
    refine (k3 _).mono ?_
    rintro e w1 ⟨rfl, rfl⟩
    go_wp2_with fail
    refine (k4 _).mono ?_
    rintro e w1 ⟨rfl, rfl⟩
    go_wp2
    go_ret
    exact ⟨by first | (simp; done) | (simp; rfl), Below.refl _ _⟩
  rw [if_neg c2]
  by_cases c3 : fn = 5
  · subst c3
    rw [if_pos rfl]
    clear k5 k6
    go_enter Try.func14, Try.ntmps14
    go_wp2_with fail
    refine (k1 _).mono ?_
    rintro e w1 ⟨rfl, rfl⟩
    go_wp2_with fail
    refine (k2 _).mono ?_
    rintro e w1 ⟨rfl, rfl⟩
    go_wp2_with fail
    refine (k3 _).mono ?_
    rintro e w1 ⟨rfl, rfl⟩
    go_wp2_with fail
    refine (k4 _).mono ?_
    rintro e w1 ⟨rfl, rfl⟩
    go_wp2
    go_ret
    exact ⟨by first | (simp; done) | (simp; rfl), Below.refl _ _⟩
  rw [if_neg c3]
  by_cases c4 : fn = 10
  · subst c4
    rw [if_pos rfl]
    clear k5 k6
    by_cases d1 : a = 0
    · subst d1
      go_enter Try.func14, Try.ntmps14
      go_wp2_with fail
      refine (k1 _).mono ?_
      rintro e w1 ⟨rfl, rfl⟩
      go_wp2_with fail
      refine (k2 _).mono ?_
      rintro e w1 ⟨rfl, rfl⟩
      go_wp2_with fail
      refine (k3 _).mono ?_
      rintro e w1 ⟨rfl, rfl⟩
      go_wp2_with fail
      refine (k4 _).mono ?_
      rintro e w1 ⟨rfl, rfl⟩
      go_wp2
      go_ret
      exact ⟨by first | rfl | (simp; done) | (simp; rfl), Below.refl _ _⟩
    · have d2 : (a == 0) = false := by simp [d1]
      go_enter Try.func14, Try.ntmps14
      go_wp2_with fail
      refine (k1 _).mono ?_
      rintro e w1 ⟨rfl, rfl⟩
      go_wp2_with fail
      refine (k2 _).mono ?_
      rintro e w1 ⟨rfl, rfl⟩
      go_wp2_with fail
      refine (k3 _).mono ?_
      rintro e w1 ⟨rfl, rfl⟩
      go_wp2_with fail
      refine (k4 _).mono ?_
      rintro e w1 ⟨rfl, rfl⟩
      go_wp2
      go_ret
      exact ⟨by first | (simp [d1]; done) | (simp [d1]; rfl), Below.refl _ _⟩
  rw [if_neg c4]
  by_cases c5 : fn = 14
  · subst c5
    rw [if_pos rfl]
    clear k6
    go_enter Try.func14, Try.ntmps14
    go_wp2_with fail
    refine (k1 _).mono ?_
    rintro e w1 ⟨rfl, rfl⟩
    go_wp2_with fail
    refine (k2 _).mono ?_
    rintro e w1 ⟨rfl, rfl⟩
    go_wp2_with fail
    refine (k3 _).mono ?_
    rintro e w1 ⟨rfl, rfl⟩
    go_wp2_with fail
    refine (k4 _).mono ?_
    rintro e w1 ⟨rfl, rfl⟩
    go_wp2_with fail
    go_quiet ((go_at_call 40; exact (k5 _).mono fun _ _ ⟨he, hm⟩ => ⟨he, _, hm⟩))
    go_wp2
    go_ret
    refine ⟨?_, ⟨rfl, rfl, rfl, Nat.le_refl _, fun _ _ => rfl⟩⟩
    simp only [Int.one_mul, p1, p2]
    rfl
  rw [if_neg c5]
  by_cases c6 : fn = 8
  · subst c6
    rw [if_pos rfl]
    clear k5
    cases tn
    · clear k6
      go_enter Try.func14, Try.ntmps14
      go_wp2_with fail
      refine (k1 _).mono ?_
      rintro e w1 ⟨rfl, rfl⟩
      go_wp2_with fail
      refine (k2 _).mono ?_
      rintro e w1 ⟨rfl, rfl⟩
      go_wp2_with fail
      refine (k3 _).mono ?_
      rintro e w1 ⟨rfl, rfl⟩
      go_wp2_with fail
      refine (k4 _).mono ?_
      rintro e w1 ⟨rfl, rfl⟩
      go_wp2
      go_ret
      exact ⟨by first | (simp; done) | (simp; rfl), Below.refl _ _⟩
    · go_enter Try.func14, Try.ntmps14
      go_wp2_with fail
      refine (k1 _).mono ?_
      rintro e w1 ⟨rfl, rfl⟩
      go_wp2_with fail
      refine (k2 _).mono ?_
      rintro e w1 ⟨rfl, rfl⟩
      go_wp2_with fail
      refine (k3 _).mono ?_
      rintro e w1 ⟨rfl, rfl⟩
      go_wp2_with fail
      refine (k4 _).mono ?_
      rintro e w1 ⟨rfl, rfl⟩
      go_wp2_with fail
      refine (k6 _).mono ?_
      rintro e w2 ⟨rfl, b2⟩
      go_wp2
      go_ret
      exact ⟨by simp, b2⟩
  rw [if_neg c6]
  have e1 : (fn == 1) = false := by simp [c1]
  have e2 : (fn == 2) = false := by simp [c2]
  have e3 : (fn == 5) = false := by simp [c3]
  have e4 : (fn == 10) = false := by simp [c4]
  have e5 : (fn == 14) = false := by simp [c5]
  have e6 : (fn == 8) = false := by simp [c6]
  clear k5 k6
  go_enter Try.func14, Try.ntmps14
  go_wp2_with fail
  refine (k1 _).mono ?_
  rintro e w1 ⟨rfl, rfl⟩
  go_wp2_with fail
  refine (k2 _).mono ?_
  rintro e w1 ⟨rfl, rfl⟩
  go_wp2_with fail
  refine (k3 _).mono ?_
  rintro e w1 ⟨rfl, rfl⟩
  go_wp2_with fail
  refine (k4 _).mono ?_
  rintro e w1 ⟨rfl, rfl⟩
  go_wp2
  go_ret
  exact ⟨by first | (simp; done) | (simp; rfl), Below.refl _ _⟩

end Go.Proofs.Ytbfaeieddbaclaa

/- InDomain of the specification, by its contract. -/
namespace Go.Proofs.Ytbfaeieddbaclaa
open Go.RowKit
set_option linter.unusedSimpArgs false

set_option maxRecDepth 20000 in
set_option maxHeartbeats 3200000 in
theorem sInDomain (fn : Int) (tn : Bool) (f a b : Int) (w : World) :
    Calls Try.prog 13 #[.int .i64 fn, .bool tn, .int .i64 f, .int .i64 a, .int .i64 b] w fun e w' => e = .returned (.bool (inDomR fn tn f a b)) ∧ Below w.heap.size w w' := by
  have k2 := fun W => s15 a f W
  have k3 := fun W => s15 b f W
  by_cases h1 : 0 ≤ fn ∧ fn ≤ 14
  case neg =>
    have k1 := fun W => in_no fn 0 14 W h1
    have hr : inDomR fn tn f a b = false := if_neg (fun h => h1 ⟨h.1, by have := h.2.1; omega⟩)
    rw [hr]
    clear h1 hr k2 k3
    go_enter Try.func13, Try.ntmps13
    go_wp2_with fail
    refine (k1 _).mono ?_
    rintro e w1 ⟨rfl, rfl⟩
    go_wp2
    go_ret
    exact ⟨by first | (simp; done) | (simp; rfl), Below.refl _ _⟩
  have k1 := fun W => in_yes fn 0 14 W h1.1 h1.2
  by_cases h2 : (-2305843009213693952 ≤ a ∧ a ≤ 2305843009213693952) ∧ 0 ≤ f ∧ f ≤ 60
  case neg =>
    have hr : inDomR fn tn f a b = false := if_neg (fun h => h2 ⟨⟨h.2.2.2.2.1, h.2.2.2.2.2.1⟩, h.2.2.1, h.2.2.2.1⟩)
    rw [hr]
    rw [decide_eq_false h2] at k2
    clear h1 h2 hr k3
    go_enter Try.func13, Try.ntmps13
    go_wp2_with fail
    refine (k1 _).mono ?_
    rintro e w1 ⟨rfl, rfl⟩
    go_wp2_with fail
    refine (k2 _).mono ?_
    rintro e w1 ⟨rfl, rfl⟩
    go_wp2
    go_ret
    exact ⟨by first | (simp; done) | (simp; rfl), Below.refl _ _⟩
  by_cases h3 : (-2305843009213693952 ≤ b ∧ b ≤ 2305843009213693952) ∧ 0 ≤ f ∧ f ≤ 60
  case neg =>
    have hr : inDomR fn tn f a b = false := if_neg (fun h => h3 ⟨⟨h.2.2.2.2.2.2.1, h.2.2.2.2.2.2.2⟩, h.2.2.1, h.2.2.2.1⟩)
    rw [hr]
    rw [decide_eq_true h2] at k2
    rw [decide_eq_false h3] at k3
    clear h1 h2 h3 hr
    go_enter Try.func13, Try.ntmps13
    go_wp2_with fail
    refine (k1 _).mono ?_
    rintro e w1 ⟨rfl, rfl⟩
    go_wp2_with fail
    refine (k2 _).mono ?_
    rintro e w1 ⟨rfl, rfl⟩
    go_wp2_with fail
    refine (k3 _).mono ?_
    rintro e w1 ⟨rfl, rfl⟩
    go_wp2
    go_ret
    exact ⟨by first | (simp; done) | (simp; rfl), Below.refl _ _⟩
  have hr : inDomR fn tn f a b = (if fn = 1 then !(b == 0) else if fn = 2 then decide (0 ≤ a) else if fn = 5 then decide (0 < a) else if fn = 10 then (!(a == 0) || !(b == 0)) else if fn = 14 then decide ((a.natAbs : Int) < 2 ^ f.toNat) else if fn = 8 then (!tn || !upR a f.toNat) else true) := if_pos ⟨h1.1, by omega, h2.2.1, h2.2.2, h2.1.1, h2.1.2, h3.1.1, h3.1.2⟩
  rw [hr]
  rw [decide_eq_true h2] at k2
  rw [decide_eq_true h3] at k3
  obtain ⟨k, rfl⟩ : ∃ k : Nat, f = (k : Int) := ⟨f.toNat, by omega⟩
  rw [Int.toNat_natCast, upR_part]
  have k5 := fun W => sPow k W (by omega)
  have k6 := fun W => sPart a k 4 2 W h2.1.1 h2.1.2 (by omega) (by omega) (Or.inl rfl)
  have hp0 : (0 : Int) < 2 ^ k := Int.pow_pos (by omega)
  have hp : (2 : Int) ^ k ≤ 2 ^ 60 := by
    have : (2 : Nat) ^ k ≤ 2 ^ 60 := Nat.pow_le_pow_right (by decide) (by omega)
    exact_mod_cast this
  have p2 : decide ((a.natAbs : Int) < 2 ^ k) = (decide (-(2 : Int) ^ k < a) && decide (a < 2 ^ k)) := by
    generalize (2 : Int) ^ k = P at *
    rw [← Bool.decide_and, decide_eq_decide]
    omega
  generalize partR a k 4 2 = r at *
  obtain ⟨u, l⟩ := r
  rw [p2]
  generalize (2 : Int) ^ k = P at *
  have hP : P ≤ 1152921504606846976 := hp
  clear h1 h2 h3 hr hp p2
  by_cases c1 : fn = 1
  · subst c1
    rw [if_pos rfl]
    clear k5 k6
    go_enter Try.func13, Try.ntmps13
    go_wp2_with fail
    refine (k1 _).mono ?_
    rintro e w1 ⟨rfl, rfl⟩
    go_wp2_with fail
    refine (k2 _).mono ?_
    rintro e w1 ⟨rfl, rfl⟩
    go_wp2_with fail
    refine (k3 _).mono ?_
    rintro e w1 ⟨rfl, rfl⟩
    go_wp2
    go_ret
    exact ⟨by first | (simp; done) | (simp; rfl), Below.refl _ _⟩
  rw [if_neg c1]
  by_cases c2 : fn = 2
  · subst c2
    rw [if_pos rfl]
    clear k5 k6
    go_enter Try.func13, Try.ntmps13
    go_wp2_with fail
    refine (k1 _).mono ?_
    rintro e w1 ⟨rfl, rfl⟩
    go_wp2_with fail
    refine (k2 _).mono ?_
    rintro e w1 ⟨rfl, rfl⟩
    go_wp2_with fail
    refine (k3 _).mono ?_
    rintro e w1 ⟨rfl, rfl⟩
    go_wp2
    go_ret
    exact ⟨by first | (simp; done) | (simp; rfl), Below.refl _ _⟩
  rw [if_neg c2]
  by_cases c3 : fn = 5
  · subst c3
    rw [if_pos rfl]
    clear k5 k6
    go_enter Try.func13, Try.ntmps13
    go_wp2_with fail
    refine (k1 _).mono ?_
    rintro e w1 ⟨rfl, rfl⟩
    go_wp2_with fail
    refine (k2 _).mono ?_
    rintro e w1 ⟨rfl, rfl⟩
    go_wp2_with fail
    refine (k3 _).mono ?_
    rintro e w1 ⟨rfl, rfl⟩
    go_wp2
    go_ret
    exact ⟨by first | (simp; done) | (simp; rfl), Below.refl _ _⟩
  rw [if_neg c3]
  by_cases c4 : fn = 10
  · subst c4
    rw [if_pos rfl]
    clear k5 k6
    by_cases d1 : a = 0
    · subst d1
      go_enter Try.func13, Try.ntmps13
      go_wp2_with fail
      refine (k1 _).mono ?_
      rintro e w1 ⟨rfl, rfl⟩
      go_wp2_with fail
      refine (k2 _).mono ?_
      rintro e w1 ⟨rfl, rfl⟩
      go_wp2_with fail
      refine (k3 _).mono ?_
      rintro e w1 ⟨rfl, rfl⟩
      go_wp2
      go_ret
      exact ⟨by first | (simp; done) | (simp; rfl), Below.refl _ _⟩
    · have d2 : (a == 0) = false := by simp [d1]
      go_enter Try.func13, Try.ntmps13
      go_wp2_with fail
      refine (k1 _).mono ?_
      rintro e w1 ⟨rfl, rfl⟩
      go_wp2_with fail
      refine (k2 _).mono ?_
      rintro e w1 ⟨rfl, rfl⟩
      go_wp2_with fail
      refine (k3 _).mono ?_
      rintro e w1 ⟨rfl, rfl⟩
      go_wp2
      go_ret
      exact ⟨by first | (simp [d1]; done) | (simp [d1]; rfl), Below.refl _ _⟩
  rw [if_neg c4]
  by_cases c5 : fn = 14
  · subst c5
    rw [if_pos rfl]
    clear k6
    by_cases d1 : -P < a
    · have d2 : decide (-P < a) = true := decide_eq_true d1
      go_enter Try.func13, Try.ntmps13
      go_wp2_with fail
      refine (k1 _).mono ?_
      rintro e w1 ⟨rfl, rfl⟩
      go_wp2_with fail
      refine (k2 _).mono ?_
      rintro e w1 ⟨rfl, rfl⟩
      go_wp2_with fail
      refine (k3 _).mono ?_
      rintro e w1 ⟨rfl, rfl⟩
      go_wp2_with fail
      refine (k5 _).mono ?_
      rintro e w1 ⟨rfl, rfl⟩
      go_wp2_with fail
      refine (k5 _).mono ?_
      rintro e w1 ⟨rfl, rfl⟩
      go_wp2
      go_ret
      exact ⟨by simp [d2], Below.refl _ _⟩
    · have d2 : decide (-P < a) = false := decide_eq_false d1
      go_enter Try.func13, Try.ntmps13
      go_wp2_with fail
      refine (k1 _).mono ?_
      rintro e w1 ⟨rfl, rfl⟩
      go_wp2_with fail
      refine (k2 _).mono ?_
      rintro e w1 ⟨rfl, rfl⟩
      go_wp2_with fail
      refine (k3 _).mono ?_
      rintro e w1 ⟨rfl, rfl⟩
      go_wp2_with fail
      refine (k5 _).mono ?_
      rintro e w1 ⟨rfl, rfl⟩
      go_wp2
      go_ret
      exact ⟨by simp [d2], Below.refl _ _⟩
  rw [if_neg c5]
  by_cases c6 : fn = 8
  · subst c6
    rw [if_pos rfl]
    clear k5
    cases tn
    · go_enter Try.func13, Try.ntmps13
      go_wp2_with fail
      refine (k1 _).mono ?_
      rintro e w1 ⟨rfl, rfl⟩
      go_wp2_with fail
      refine (k2 _).mono ?_
      rintro e w1 ⟨rfl, rfl⟩
      go_wp2_with fail
      refine (k3 _).mono ?_
      rintro e w1 ⟨rfl, rfl⟩
      go_wp2_with fail
      refine (k6 _).mono ?_
      rintro e w2 ⟨rfl, b2⟩
      go_wp2
      go_ret
      exact ⟨by simp, b2⟩
    · cases u
      · go_enter Try.func13, Try.ntmps13
        go_wp2_with fail
        refine (k1 _).mono ?_
        rintro e w1 ⟨rfl, rfl⟩
        go_wp2_with fail
        refine (k2 _).mono ?_
        rintro e w1 ⟨rfl, rfl⟩
        go_wp2_with fail
        refine (k3 _).mono ?_
        rintro e w1 ⟨rfl, rfl⟩
        go_wp2_with fail
        refine (k6 _).mono ?_
        rintro e w2 ⟨rfl, b2⟩
        go_wp2
        go_ret
        exact ⟨by simp, b2⟩
      · go_enter Try.func13, Try.ntmps13
        go_wp2_with fail
        refine (k1 _).mono ?_
        rintro e w1 ⟨rfl, rfl⟩
        go_wp2_with fail
        refine (k2 _).mono ?_
        rintro e w1 ⟨rfl, rfl⟩
        go_wp2_with fail
        refine (k3 _).mono ?_
        rintro e w1 ⟨rfl, rfl⟩
        go_wp2_with fail
        refine (k6 _).mono ?_
        rintro e w2 ⟨rfl, b2⟩
        go_wp2
        go_ret
        exact ⟨by first | (simp; done) | (simp; rfl), b2⟩
  rw [if_neg c6]
  have e1 : (fn == 1) = false := by simp [c1]
  have e2 : (fn == 2) = false := by simp [c2]
  have e3 : (fn == 5) = false := by simp [c3]
  have e4 : (fn == 10) = false := by simp [c4]
  have e5 : (fn == 14) = false := by simp [c5]
  have e6 : (fn == 8) = false := by simp [c6]
  clear k5 k6
  go_enter Try.func13, Try.ntmps13
  go_wp2_with fail
  refine (k1 _).mono ?_
  rintro e w1 ⟨rfl, rfl⟩
  go_wp2_with fail
  refine (k2 _).mono ?_
  rintro e w1 ⟨rfl, rfl⟩
  go_wp2_with fail
  refine (k3 _).mono ?_
  rintro e w1 ⟨rfl, rfl⟩
  go_wp2
  go_ret
  exact ⟨by first | (simp; done) | (simp; rfl), Below.refl _ _⟩

end Go.Proofs.Ytbfaeieddbaclaa
