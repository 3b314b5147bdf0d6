/- Several small texts in one: Fun1, Fun2, Fun3. -/
import Derived.Test.YtbfaeieddbaclaaSIn
import Derived.Test.YtbfaeieddbaclaaOwnI
import Derived.Test.YtbfaeieddbaclaaRowI
import Derived.Laws.OwnMore
import Derived.Laws.BitsLemmas
import Derived.Deep.QuietTactic
import Derived.BigQuiet
/- StepsFor and Rungs of the specification and of the program, each by its contract. -/
namespace Go.Proofs.Ytbfaeieddbaclaa
open Go.RowKit

def stepsR (p : Int) : Int := if 1 ≤ p ∧ p ≤ 200 then (if p + 2 < 120 then p + 2 else 120) else 0

theorem sMin (a b : Int) (w : World) : Calls Try.prog 32 #[.int .i64 a, .int .i64 b] w fun e w' => e = .returned (.int .i64 (if a < b then a else b)) ∧ w' = w := by
  by_cases h : a < b
  · rw [if_pos h]
    go_enter Try.func32, Try.ntmps32
    go_wp2
    go_ret
    exact ⟨rfl, rfl⟩
  · rw [if_neg h]
    have h2 : decide (a < b) = false := decide_eq_false h
    clear h
    go_enter Try.func32, Try.ntmps32
    go_wp2
    go_ret
    exact ⟨rfl, rfl⟩

theorem kernAt (p : Int) (w : World) : Calls Try.prog 33 #[.int .i64 p] w fun e w' => e = .returned (.bool (decide (1 ≤ p ∧ p ≤ 200))) ∧ w' = w := by
  by_cases h1 : 1 ≤ p
  · by_cases h2 : p ≤ 200
    · rw [decide_eq_true ⟨h1, h2⟩]
      go_enter Try.func33, Try.ntmps33
      go_wp2
      go_ret
      exact ⟨rfl, rfl⟩
    · rw [decide_eq_false (by omega)]
      have h3 : decide (p ≤ 200) = false := decide_eq_false h2
      clear h2
      go_enter Try.func33, Try.ntmps33
      go_wp2
      go_ret
      exact ⟨rfl, rfl⟩
  · rw [decide_eq_false (by omega)]
    have h3 : decide (1 ≤ p) = false := decide_eq_false h1
    clear h1
    go_enter Try.func33, Try.ntmps33
    go_wp2
    go_ret
    exact ⟨rfl, rfl⟩

theorem sStepsFor (p : Int) (w : World) : Calls Try.prog 11 #[.int .i64 p] w fun e w' => e = .returned (.int .i64 (stepsR p)) ∧ w' = w := by
  by_cases h : 1 ≤ p ∧ p ≤ 200
  · have k1 := fun W => in_yes p 1 200 W h.1 h.2
    have k2 := fun W => sMin (p + 2) 120 W
    have hw : IntKind.i64.wrap (p + 2) = p + 2 := by rw [IntKind.wrap_i64]; omega
    have hr : stepsR p = (if p + 2 < 120 then p + 2 else 120) := if_pos h
    rw [hr]
    generalize (if p + 2 < 120 then p + 2 else 120) = r at *
    clear hr
    go_enter Try.func11, Try.ntmps11
    go_wp2_with fail
    refine (k1 _).mono ?_
    rintro e w1 ⟨rfl, rfl⟩
    go_wp2_with fail
    refine (k2 _).mono ?_
    rintro e w2 ⟨rfl, rfl⟩
    go_wp2
    go_ret
    exact ⟨rfl, rfl⟩
  · have k1 := fun W => in_no p 1 200 W h
    have hr : stepsR p = 0 := if_neg h
    rw [hr]
    clear h hr
    go_enter Try.func11, Try.ntmps11
    go_wp2_with fail
    refine (k1 _).mono ?_
    rintro e w1 ⟨rfl, rfl⟩
    go_wp2
    go_ret
    exact ⟨rfl, rfl⟩

theorem iStepsFor (p : Int) (w : World) : Calls Try.prog 12 #[.int .i64 p] w fun e w' => e = .returned (.int .i64 (stepsR p)) ∧ w' = w := by
  have k1 := fun W => kernAt p W
  by_cases h : 1 ≤ p ∧ p ≤ 200
  · rw [decide_eq_true h] at k1
    have hw : IntKind.i64.wrap (p + 2) = p + 2 := by rw [IntKind.wrap_i64]; omega
    have hr : stepsR p = (if p + 2 < 120 then p + 2 else 120) := if_pos h
    rw [hr]
    clear hr h
    by_cases h2 : p + 2 < 120
    · rw [if_pos h2]
      have h3 : ¬ (120 < p + 2) := by omega
      go_enter Try.func12, Try.ntmps12
      go_wp2_with fail
      refine (k1 _).mono ?_
      rintro e w1 ⟨rfl, rfl⟩
      go_wp2
      go_ret
      exact ⟨by simp_all, rfl⟩
    · rw [if_neg h2]
      rcases Int.lt_or_eq_of_le (Int.not_lt.mp h2) with h4 | h4
      · have h3 : ¬ (p + 2 ≤ 120) := by omega
        clear h2
        go_enter Try.func12, Try.ntmps12
        go_wp2_with fail
        refine (k1 _).mono ?_
        rintro e w1 ⟨rfl, rfl⟩
        go_wp2
        go_ret
        exact ⟨by simp_all, rfl⟩
      · clear h2 hw
        obtain rfl : p = 118 := by omega
        go_enter Try.func12, Try.ntmps12
        go_wp2_with fail
        refine (k1 _).mono ?_
        rintro e w1 ⟨rfl, rfl⟩
        go_wp2
        go_ret
        exact ⟨rfl, rfl⟩
  · rw [decide_eq_false h] at k1
    have hr : stepsR p = 0 := if_neg h
    rw [hr]
    clear h hr
    go_enter Try.func12, Try.ntmps12
    go_wp2_with fail
    refine (k1 _).mono ?_
    rintro e w1 ⟨rfl, rfl⟩
    go_wp2
    go_ret
    exact ⟨rfl, rfl⟩


def rungsR (f : Int) : List Int := if 0 ≤ f ∧ f ≤ 60 then [f + 32, f + 72, f + 132, f + 200] else []
theorem rungsR_len (f : Int) : (rungsR f).length ≤ 1048576 := by unfold rungsR; split <;> simp

theorem pointAt (p : Int) (w : World) : Calls Try.prog 38 #[.int .i64 p] w fun e w' => e = .returned (.bool (decide (0 ≤ p ∧ p ≤ 60))) ∧ w' = w := by
  by_cases h1 : 0 ≤ p
  · by_cases h2 : p ≤ 60
    · rw [decide_eq_true ⟨h1, h2⟩]
      go_enter Try.func38, Try.ntmps38
      go_wp2
      go_ret
      exact ⟨rfl, rfl⟩
    · rw [decide_eq_false (by omega)]
      have h3 : decide (p ≤ 60) = false := decide_eq_false h2
      clear h2
      go_enter Try.func38, Try.ntmps38
      go_wp2
      go_ret
      exact ⟨rfl, rfl⟩
  · rw [decide_eq_false (by omega)]
    have h3 : decide (0 ≤ p) = false := decide_eq_false h1
    clear h1
    go_enter Try.func38, Try.ntmps38
    go_wp2
    go_ret
    exact ⟨rfl, rfl⟩

theorem lit4 (w : World) (base : Nat) (a b c d : Int) (hb : base ≤ w.heap.size) : ownsI (w.alloc (.cells #[.int .i64 a, .int .i64 b, .int .i64 c, .int .i64 d] 3)) base (.slice (some ⟨w.heap.size, 0, none⟩) 4 4) [a, b, c, d] :=
  World.ownsRow_lit w #[.int .i64 a, .int .i64 b, .int .i64 c, .int .i64 d] 4 hb (by decide) rfl
theorem lit0 (w : World) (base : Nat) (hb : base ≤ w.heap.size) : ownsI (w.alloc (.cells #[] 3)) base (.slice (some ⟨w.heap.size, 0, none⟩) 0 0) [] :=
  World.ownsRow_lit w #[] 0 hb (by decide) rfl

theorem sRungs (f : Int) (w : World) : Calls Try.prog 17 #[.int .i64 f] w fun e w' => ∃ v, e = .returned v ∧ ownsI w' w.heap.size v (rungsR f) ∧ Below w.heap.size w w' := by
  by_cases h : 0 ≤ f ∧ f ≤ 60
  · have k1 := fun W => in_yes f 0 60 W h.1 h.2
    have hr : rungsR f = [f + 32, f + 72, f + 132, f + 200] := if_pos h
    rw [hr]
    have e1 : IntKind.i64.wrap (f + 32) = f + 32 := by rw [IntKind.wrap_i64]; omega
    have e2 : IntKind.i64.wrap (f + 72) = f + 72 := by rw [IntKind.wrap_i64]; omega
    have e3 : IntKind.i64.wrap (f + 132) = f + 132 := by rw [IntKind.wrap_i64]; omega
    have e4 : IntKind.i64.wrap (f + 200) = f + 200 := by rw [IntKind.wrap_i64]; omega
    clear hr h
    go_enter Try.func17, Try.ntmps17
    go_wp2_with fail
    refine (k1 _).mono ?_
    rintro e w1 ⟨rfl, rfl⟩
    go_wp2
    go_ret
    exact ⟨_, rfl, lit4 _ _ _ _ _ _ (Nat.le_refl _), (Below.refl _ _).alloc (Nat.le_refl _) _⟩
  · have k1 := fun W => in_no f 0 60 W h
    have hr : rungsR f = [] := if_neg h
    rw [hr]
    clear h hr
    go_enter Try.func17, Try.ntmps17
    go_wp2_with fail
    refine (k1 _).mono ?_
    rintro e w1 ⟨rfl, rfl⟩
    go_wp2
    go_ret
    exact ⟨_, rfl, lit0 _ _ (Nat.le_refl _), (Below.refl _ _).alloc (Nat.le_refl _) _⟩


theorem iRungs (f : Int) (w : World) : Calls Try.prog 18 #[.int .i64 f] w fun e w' => ∃ v, e = .returned v ∧ ownsI w' w.heap.size v (rungsR f) ∧ Below w.heap.size w w' := by
  by_cases h : 0 ≤ f ∧ f ≤ 60
  · have k1 := fun W => pointAt f W
    rw [decide_eq_true h] at k1
    have hr : rungsR f = [f + 32, f + 72, f + 132, f + 200] := if_pos h
    rw [hr]
    have e1 : IntKind.i64.wrap (f + 32) = f + 32 := by rw [IntKind.wrap_i64]; omega
    have e2 : IntKind.i64.wrap (f + 72) = f + 72 := by rw [IntKind.wrap_i64]; omega
    have e3 : IntKind.i64.wrap (f + 132) = f + 132 := by rw [IntKind.wrap_i64]; omega
    have e4 : IntKind.i64.wrap (f + 200) = f + 200 := by rw [IntKind.wrap_i64]; omega
    clear hr h
    go_enter Try.func18, Try.ntmps18
    go_wp2_with fail
    refine (k1 _).mono ?_
    rintro e w1 ⟨rfl, rfl⟩
    go_wp2
    go_ret
    exact ⟨_, rfl, lit4 _ _ _ _ _ _ (Nat.le_refl _), (Below.refl _ _).alloc (Nat.le_refl _) _⟩
  · have k1 := fun W => pointAt f W
    rw [decide_eq_false h] at k1
    have hr : rungsR f = [] := if_neg h
    rw [hr]
    clear h hr
    go_enter Try.func18, Try.ntmps18
    go_wp2_with fail
    refine (k1 _).mono ?_
    rintro e w1 ⟨rfl, rfl⟩
    go_wp2
    go_ret
    exact ⟨_, rfl, World.ownsRow_nil _ _ _ _, Below.refl _ _⟩



end Go.Proofs.Ytbfaeieddbaclaa

/- Eighths of a turn, and the domains of the functions: plain numbers, and the program's side. -/
namespace Go.Proofs.Ytbfaeieddbaclaa
open Go.RowKit
set_option linter.unusedSimpArgs false

theorem and_mask (x : Int) (j : Nat) (hj : j ≤ 62) : bits .and .i64 x (2 ^ j - 1) = x % 2 ^ j := by
  have hpos : 0 < 2 ^ j := Nat.two_pow_pos j
  have hlt : 2 ^ j ≤ 2 ^ 62 := Nat.pow_le_pow_right (by decide) hj
  have hc : ((2 : Int) ^ j - 1) = ((2 ^ j - 1 : Nat) : Int) := by
    rw [Int.natCast_sub hpos]; simp
  have hi : ((2 ^ j : Nat) : Int) ∣ ((2 ^ 64 : Nat) : Int) := Int.natCast_dvd_natCast.mpr (Nat.pow_dvd_pow 2 (by omega))
  have e1 : ((2 : Int) ^ j) = ((2 ^ j : Nat) : Int) := by simp
  have hm : (2 ^ j - 1) % 2 ^ 64 = 2 ^ j - 1 := Nat.mod_eq_of_lt (by
    have : (2 : Nat) ^ 62 < 2 ^ 64 := by decide
    omega)
  rw [hc]
  show IntKind.i64.wrap (((BitVec.ofInt 64 x &&& BitVec.ofInt 64 ((2 ^ j - 1 : Nat) : Int)).toNat : Nat) : Int) = _
  rw [BitVec.toNat_and, BitVec.ofInt_natCast, BitVec.toNat_ofInt, BitVec.toNat_ofNat, hm, Nat.and_two_pow_sub_one_eq_mod]
  have e2 : (((x % ((2 ^ 64 : Nat) : Int)).toNat % 2 ^ j : Nat) : Int) = x % 2 ^ j := by
    rw [e1]
    have h0 : 0 ≤ x % ((2 ^ 64 : Nat) : Int) := Int.emod_nonneg _ (by decide)
    rw [Int.natCast_emod, Int.toNat_of_nonneg h0]
    exact Int.emod_emod_of_dvd x hi
  rw [e2, e1]
  have h1 : 0 ≤ x % ((2 ^ j : Nat) : Int) := Int.emod_nonneg _ (by exact_mod_cast Nat.ne_of_gt hpos)
  have h2 : x % ((2 ^ j : Nat) : Int) < ((2 ^ j : Nat) : Int) := Int.emod_lt_of_pos _ (by exact_mod_cast hpos)
  have h3 : ((2 ^ j : Nat) : Int) ≤ 4611686018427387904 := Int.ofNat_le.mpr (Nat.le_trans hlt (by decide : 2 ^ 62 ≤ 4611686018427387904))
  rw [IntKind.wrap_i64]
  omega
theorem and7 (x : Int) : bits .and .i64 x 7 = x % 8 := and_mask x 3 (by decide)

/-- Eighths of a turn in a by 2^f: by 8 what is left over of them, and whether they are whole. -/
def eiR (a : Int) (f : Nat) : Int × Bool := if f ≤ 3 then ((a * 2 ^ (3 - f)) % 8, true) else (a / 2 ^ (f - 3) % 8, decide (a % 2 ^ (f - 3) = 0))
theorem eiR_lo (a : Int) (f : Nat) : 0 ≤ (eiR a f).1 ∧ (eiR a f).1 ≤ 7 := by unfold eiR; split <;> (constructor <;> (dsimp only; omega))

theorem ei_ok (a : Int) (f : Nat) : (eiR a f).2 = decide (8 * a % 2 ^ f = 0) ∧ ((eiR a f).2 = true → (eiR a f).1 = 8 * a / 2 ^ f % 8) := by
  unfold eiR
  by_cases h : f ≤ 3
  · rw [if_pos h]
    have hp : (0 : Int) < 2 ^ f := Int.pow_pos (by omega)
    have e : 8 * a = a * 2 ^ (3 - f) * 2 ^ f := by
      rw [Int.mul_assoc, ← Int.pow_add, show 3 - f + f = 3 by omega]
      omega
    rw [e, Int.mul_emod_left, Int.mul_ediv_cancel _ (by omega)]
    simp
  · rw [if_neg h]
    have hp : (0 : Int) < 2 ^ (f - 3) := Int.pow_pos (by omega)
    have e : (2 : Int) ^ f = 8 * 2 ^ (f - 3) := by
      rw [show (8 : Int) = 2 ^ 3 by decide, ← Int.pow_add, show 3 + (f - 3) = f by omega]
    rw [e, Int.mul_emod_mul_of_pos _ _ (by omega), Int.mul_ediv_mul_of_pos _ _ (by omega)]
    refine ⟨?_, fun _ => rfl⟩
    rw [decide_eq_decide]
    generalize a % 2 ^ (f - 3) = r
    omega

/-- k times the size of a by 2^f: whether it is whole, and what is left over of that by m. -/
def partR (a : Int) (f : Nat) (k m : Nat) : Bool × Int := if a.natAbs * k % 2 ^ f = 0 then (true, ((a.natAbs * k / 2 ^ f % m : Nat) : Int)) else (false, 0)

theorem eight_yes (a : Int) (f : Nat) (h : 8 * a % 2 ^ f = 0) : a.natAbs * 8 % 2 ^ f = 0 ∧ a.natAbs * 8 / 2 ^ f = (8 * a / 2 ^ f).natAbs ∧ (a.natAbs * 4 % 2 ^ f = 0 ↔ (8 * a / 2 ^ f) % 2 = 0) ∧ ((8 * a / 2 ^ f) % 2 = 0 → a.natAbs * 4 / 2 ^ f = (8 * a / 2 ^ f).natAbs / 2) ∧ (a < 0 ↔ 8 * a / 2 ^ f < 0) := by
  have hp : 0 < 2 ^ f := Nat.two_pow_pos f
  have e1 : ((2 : Int) ^ f) = ((2 ^ f : Nat) : Int) := by simp
  rw [e1] at h ⊢
  generalize 2 ^ f = D at *
  obtain ⟨e, he⟩ := Int.dvd_of_emod_eq_zero h
  have hD : (0 : Int) < (D : Int) := by exact_mod_cast hp
  have hq : 8 * a / (D : Int) = e := by rw [he]; exact Int.mul_ediv_cancel_left _ (by omega)
  rw [hq]
  have hn : a.natAbs * 8 = D * e.natAbs := by
    have := congrArg Int.natAbs he
    rw [Int.natAbs_mul, Int.natAbs_mul, Int.natAbs_natCast] at this
    rw [Nat.mul_comm]
    exact this
  refine ⟨by rw [hn]; exact Nat.mul_mod_right _ _, by rw [hn]; exact Nat.mul_div_cancel_left _ hp, ?_, ?_, ?_⟩
  · constructor
    · intro h4
      obtain ⟨q, hq4⟩ := Nat.dvd_of_mod_eq_zero h4
      have : D * e.natAbs = D * (2 * q) := by rw [← hn, Nat.mul_left_comm, ← hq4]; omega
      have := Nat.eq_of_mul_eq_mul_left hp this
      omega
    · intro h2
      have h3 : e.natAbs = 2 * (e.natAbs / 2) := by omega
      have h4 : a.natAbs * 4 = D * (e.natAbs / 2) := by
        have : 2 * (a.natAbs * 4) = 2 * (D * (e.natAbs / 2)) := by rw [Nat.mul_left_comm 2 D, ← h3, ← hn]; omega
        omega
      rw [h4]; exact Nat.mul_mod_right _ _
  · intro h2
    have h3 : e.natAbs = 2 * (e.natAbs / 2) := by omega
    have h4 : a.natAbs * 4 = D * (e.natAbs / 2) := by
      have : 2 * (a.natAbs * 4) = 2 * (D * (e.natAbs / 2)) := by rw [Nat.mul_left_comm 2 D, ← h3, ← hn]; omega
      omega
    rw [h4]; exact Nat.mul_div_cancel_left _ hp
  · constructor
    · intro ha
      have : (D : Int) * e < 0 := by omega
      exact Int.neg_of_mul_neg_left (by rw [Int.mul_comm]; exact this) (by omega)
    · intro hneg
      have : (D : Int) * e < 0 := Int.mul_neg_of_pos_of_neg hD hneg
      omega

theorem eight_no (a : Int) (f : Nat) (h : ¬ 8 * a % 2 ^ f = 0) : ¬ a.natAbs * 8 % 2 ^ f = 0 ∧ ¬ a.natAbs * 4 % 2 ^ f = 0 := by
  have e1 : ((2 : Int) ^ f) = ((2 ^ f : Nat) : Int) := by simp
  rw [e1] at h
  generalize 2 ^ f = D at *
  have key : ∀ q, a.natAbs * 8 = D * q → False := fun q hq => h (by
    apply Int.emod_eq_zero_of_dvd
    rw [← Int.natAbs_dvd_natAbs, Int.natAbs_natCast, Int.natAbs_mul]
    exact ⟨q, by rw [← hq, Nat.mul_comm]; rfl⟩)
  refine ⟨fun h8 => ?_, fun h4 => ?_⟩
  · obtain ⟨q, hq⟩ := Nat.dvd_of_mod_eq_zero h8
    exact key q hq
  · obtain ⟨q, hq⟩ := Nat.dvd_of_mod_eq_zero h4
    exact key (2 * q) (by rw [Nat.mul_left_comm, ← hq]; omega)

/-- A quarter of a turn from where the tangent is 0. -/
def upR (a : Int) (f : Nat) : Bool := (eiR a f).2 && decide ((eiR a f).1 % 4 = 2)
theorem upR_part (a : Int) (f : Nat) : upR a f = ((partR a f 4 2).1 && !decide ((partR a f 4 2).2 = 0)) := by
  unfold upR partR
  obtain ⟨e1, e2⟩ := ei_ok a f
  by_cases h : 8 * a % 2 ^ f = 0
  · obtain ⟨y1, y2, y3, y4, y5⟩ := eight_yes a f h
    rw [e1, decide_eq_true h] at e2
    rw [e1, decide_eq_true h, e2 rfl]
    generalize 8 * a / 2 ^ f = e at *
    by_cases h2 : e % 2 = 0
    · rw [if_pos (y3.mpr h2), y4 h2]
      simp only [Bool.true_and]
      rw [← decide_not]
      congr 1
      simp only [eq_iff_iff]
      omega
    · rw [if_neg (fun h => h2 (y3.mp h))]
      simp only [Bool.true_and, Bool.false_and]
      exact decide_eq_false (by omega)
  · rw [e1, decide_eq_false h, if_neg (eight_no a f h).2]
    simp

end Go.Proofs.Ytbfaeieddbaclaa

/- The program's InDomain and what it calls, each by its contract. -/
namespace Go.Proofs.Ytbfaeieddbaclaa
open Go.RowKit
set_option linter.unusedSimpArgs false

theorem funAt (p : Int) (w : World) : Calls Try.prog 37 #[.int .i64 p] w fun e w' => e = .returned (.bool (decide (0 ≤ p ∧ p < 15))) ∧ w' = w := by
  by_cases h1 : 0 ≤ p
  · by_cases h2 : p < 15
    · rw [decide_eq_true ⟨h1, h2⟩]
      go_enter Try.func37, Try.ntmps37
      go_wp2
      go_ret
      exact ⟨rfl, rfl⟩
    · rw [decide_eq_false (by omega)]
      have h3 : decide (p < 15) = false := decide_eq_false h2
      clear h2
      go_enter Try.func37, Try.ntmps37
      go_wp2
      go_ret
      exact ⟨rfl, rfl⟩
  · rw [decide_eq_false (by omega)]
    have h3 : decide (0 ≤ p) = false := decide_eq_false h1
    clear h1
    go_enter Try.func37, Try.ntmps37
    go_wp2
    go_ret
    exact ⟨rfl, rfl⟩

theorem argAt (p : Int) (w : World) : Calls Try.prog 39 #[.int .i64 p] w fun e w' => e = .returned (.bool (decide (-2305843009213693952 ≤ p ∧ p ≤ 2305843009213693952))) ∧ w' = w := by
  by_cases h1 : -2305843009213693952 ≤ p
  · by_cases h2 : p ≤ 2305843009213693952
    · rw [decide_eq_true ⟨h1, h2⟩]
      go_enter Try.func39, Try.ntmps39
      go_wp2
      go_ret
      exact ⟨rfl, rfl⟩
    · rw [decide_eq_false (by omega)]
      have h3 : decide (p ≤ 2305843009213693952) = false := decide_eq_false h2
      clear h2
      go_enter Try.func39, Try.ntmps39
      go_wp2
      go_ret
      exact ⟨rfl, rfl⟩
  · rw [decide_eq_false (by omega)]
    have h3 : decide (-2305843009213693952 ≤ p) = false := decide_eq_false h1
    clear h1
    go_enter Try.func39, Try.ntmps39
    go_wp2
    go_ret
    exact ⟨rfl, rfl⟩

theorem sizeAt (a : Int) (w : World) (h0 : -2305843009213693952 ≤ a) (h1 : a ≤ 2305843009213693952) : Calls Try.prog 40 #[.int .i64 a] w fun e w' => e = .returned (.int .i64 (a.natAbs : Int)) ∧ w' = w := by
  have hw : IntKind.i64.wrap (-a) = -a := by rw [IntKind.wrap_i64]; omega
  by_cases h : a < 0
  · have e : (a.natAbs : Int) = -a := by omega
    rw [e]
    have h2 : a < -a := by omega
    clear h0 h1 e
    go_enter Try.func40, Try.ntmps40
    go_wp2
    go_ret
    exact ⟨by simp_all, rfl⟩
  · have e : (a.natAbs : Int) = a := by omega
    rw [e]
    rcases Int.lt_or_eq_of_le (Int.not_lt.mp h) with h4 | h4
    · have h2 : ¬ (a < -a) := by omega
      have h3 : ¬ (a ≤ -a) := by omega
      clear h0 h1 e h
      go_enter Try.func40, Try.ntmps40
      go_wp2
      go_ret
      exact ⟨by simp_all, rfl⟩
    · subst h4
      clear hw h0 h1 e h
      go_enter Try.func40, Try.ntmps40
      go_wp2
      go_ret
      exact ⟨rfl, rfl⟩

set_option maxHeartbeats 1600000 in
theorem eighthsAt (a : Int) (f : Nat) (w : World) (hf : f ≤ 60) : Calls Try.prog 63 #[.int .i64 a, .int .i64 f] w fun e w' => e = .returned (.tuple #[.int .i64 (eiR a f).1, .bool (eiR a f).2]) ∧ Below w.heap.size w w' := by
  have HR : Hid (eiR a f = if f ≤ 3 then ((a * 2 ^ (3 - f)) % 8, true) else (a / 2 ^ (f - 3) % 8, decide (a % 2 ^ (f - 3) = 0))) := rfl
  obtain ⟨⟨n, b⟩, hr⟩ : ∃ r, eiR a f = r := ⟨_, rfl⟩
  rw [hr] at HR
  rw [hr]
  clear hr
  by_cases h : f ≤ 3
  · have q1 : ((f : Int) ≤ 3) := by omega
    have q2 : IntKind.i64.wrap (3 - (f : Int)) = 3 - (f : Int) := by rw [IntKind.wrap_i64]; omega
    have q3 : 0 ≤ 3 - (f : Int) := by omega
    have q4 : 3 - (f : Int) ≤ 64 := by omega
    have q5 : (3 - (f : Int)).toNat = 3 - f := by omega
    have q6 : bits .and .i64 (IntKind.i64.wrap (a * 2 ^ (3 - f))) 7 = n := by
      have := HR.out
      rw [if_pos h] at this
      rw [and7, (Prod.mk.inj this).1, IntKind.wrap_i64]
      omega
    have q7 : b = true := by
      have := HR.out
      rw [if_pos h] at this
      exact (Prod.mk.inj this).2
    subst q7
    rw [IntWalk.i64_left] at q6
    clear HR h
    go_enter Try.func63, Try.ntmps63
    go_wp2
    go_ret2
    exact ⟨by simp_all, Below.refl _ _⟩
  · have q1 : ¬ ((f : Int) ≤ 3) := by omega
    have q2 : IntKind.i64.wrap ((f : Int) - 3) = ((f - 3 : Nat) : Int) := by rw [IntKind.wrap_i64]; omega
    obtain ⟨k, hk⟩ : ∃ k, f - 3 = k := ⟨_, rfl⟩
    rw [hk] at q2
    have q3 : (0 : Int) ≤ (k : Int) := by omega
    have q4 : (k : Int) ≤ 64 := by omega
    have q5 : (k : Int).toNat = k := by omega
    have hp : (2 : Int) ^ k ≤ 2 ^ 57 := by
      have : (2 : Nat) ^ k ≤ 2 ^ 57 := Nat.pow_le_pow_right (by decide) (by omega)
      exact_mod_cast this
    have hp0 : (0 : Int) < 2 ^ k := Int.pow_pos (by omega)
    have q6 : RowKit.wrap64 ((2 : Int) ^ k) = 2 ^ k := IntWalk.wrap64_in _ (by omega)
    have q7 : RowKit.wrap64 ((2 : Int) ^ k - 1) = 2 ^ k - 1 := IntWalk.wrap64_in _ (by omega)
    have q8 : bits .and .i64 (a / 2 ^ k) 7 = n := by
      have := HR.out
      rw [if_neg h, hk] at this
      rw [and7, (Prod.mk.inj this).1]
    have q9 : bits .and .i64 a (2 ^ k - 1) = a % 2 ^ k := and_mask a k (by omega)
    have q10 : (a % 2 ^ k == 0) = b := by
      have := HR.out
      rw [if_neg h, hk] at this
      rw [(Prod.mk.inj this).2]
      rfl
    clear HR h hk hp hp0
    go_enter Try.func63, Try.ntmps63
    go_wp2_with fail
    go_quiet (fail)
    go_wp2
    go_ret2
    refine ⟨?_, ⟨rfl, rfl, rfl, Nat.le_refl _, fun _ _ => rfl⟩⟩
    simp only [Int.one_mul, q5, q6, q7, q8, q9, q10]
    rfl

theorem uprightAt (a : Int) (f : Nat) (w : World) (hf : f ≤ 60) : Calls Try.prog 41 #[.int .i64 a, .int .i64 f] w fun e w' => e = .returned (.bool (upR a f)) ∧ Below w.heap.size w w' := by
  have kE := fun W => eighthsAt a f W hf
  have hb := eiR_lo a f
  unfold upR
  generalize eiR a f = r at *
  obtain ⟨n, b⟩ := r
  dsimp only at *
  clear hf
  have q1 : IntKind.i64.wrap (n.tmod 4) = n % 4 := by rw [Int.tmod_eq_emod_of_nonneg hb.1, IntKind.wrap_i64]; omega
  have q2 : n.tmod 4 = n % 4 := Int.tmod_eq_emod_of_nonneg hb.1
  cases b
  · go_enter Try.func41, Try.ntmps41
    go_wp2_with fail
    refine (kE _).mono ?_
    rintro e w1 ⟨rfl, b1⟩
    go_wp2
    go_ret
    exact ⟨by simp, b1⟩
  · go_enter Try.func41, Try.ntmps41
    go_wp2_with fail
    refine (kE _).mono ?_
    rintro e w1 ⟨rfl, b1⟩
    go_wp2
    go_ret
    exact ⟨by simp [q1, q2]; rfl, b1⟩

def domOk (fn f a b : Int) : Prop := 0 ≤ fn ∧ fn < 15 ∧ 0 ≤ f ∧ f ≤ 60 ∧ -2305843009213693952 ≤ a ∧ a ≤ 2305843009213693952 ∧ -2305843009213693952 ≤ b ∧ b ≤ 2305843009213693952
instance (fn f a b : Int) : Decidable (domOk fn f a b) := by unfold domOk; infer_instance
def inDomR (fn : Int) (turns : Bool) (f a b : Int) : Bool :=
  if domOk fn f a b then
    (if fn = 1 then !(b == 0) else if fn = 2 then decide (0 ≤ a) else if fn = 5 then decide (0 < a) else if fn = 10 then (!(a == 0) || !(b == 0)) else if fn = 14 then decide ((a.natAbs : Int) < 2 ^ f.toNat) else if fn = 8 then (!turns || !upR a f.toNat) else true)
  else false

end Go.Proofs.Ytbfaeieddbaclaa
