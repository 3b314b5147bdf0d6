/- sameWhole, by its contract; small facts on numbers with a sign. -/
import Derived.Test.YtlpfjpbnedankaaLawH
import Derived.Test.YtlpfjpbnedankaaBase
namespace Go.Proofs.Ytlpfjpbnedankaa
open Go.RowKit
set_option linter.unusedSimpArgs false

theorem fitW_true {z : Int} {x : Wh} (h : fitW z = (x, true)) : x = mkW z ∧ (limbs z.natAbs).length ≤ 48 := by
  unfold fitW at h
  split at h
  · rename_i hl
    cases h
    exact ⟨rfl, hl⟩
  · cases h
theorem fitW_false {z : Int} {x : Wh} (h : fitW z = (x, false)) : x = (false, []) := by
  unfold fitW at h
  split at h
  · cases h
  · cases h; rfl
theorem fitW_yes {z : Int} (h : (limbs z.natAbs).length ≤ 48) : fitW z = (mkW z, true) := by unfold fitW; rw [if_pos h]
theorem okW_mk {z : Int} (h : (limbs z.natAbs).length ≤ 48) : okW (mkW z) = true := by
  rw [okW_iff]
  refine ⟨okL_limbs h, fun hn => ?_⟩
  have hz : z < 0 := by simpa [mkW] using hn
  show 0 < (limbs z.natAbs).length
  rw [limbs_pos _ (by omega)]
  simp
theorem okW_len {a : Wh} (h : okW a = true) : a.2.length ≤ 48 := ((okW_iff a).1 h).1.1
theorem okW_abs {a : Wh} (h : okW a = true) : (limbs (valW a).natAbs).length ≤ 48 := by
  have e := mkW_of h
  have := okW_len h
  rw [e] at this
  exact this
theorem wcmp_mk {a b : Wh} (h1 : okW a = true) (h2 : okW b = true) : wcmpR a b = (if valW a < valW b then -1 else if valW b < valW a then 1 else 0) := by unfold wcmpR; rw [if_pos ⟨h1, h2⟩]
/-- A number that is no greater fits, too. -/
theorem fit_le {y z : Int} (h : (limbs z.natAbs).length ≤ 48) (hy : y.natAbs ≤ z.natAbs) : (limbs y.natAbs).length ≤ 48 := Nat.le_trans (limbs_len_mono hy) h

theorem rowW.mag {w : World} {g : Bool} {s : Value} {a : Wh} (h : rowW w (.agg #[.bool g, s]) a) : rowI w s a.2 := by
  obtain ⟨s', e, h⟩ := h
  simp at e
  rw [e.2]
  exact h
theorem fitW_len48 (z : Int) : (fitW z).1.2.length ≤ 48 := by
  unfold fitW
  split
  · assumption
  · simp

set_option maxHeartbeats 1600000 in
theorem sameWh (va vb : Value) (a b : Wh) (w : World) (ha : rowW w va a) (hb : rowW w vb b) (hl : a.2.length ≤ 1048576) :
    Calls Try.prog 20 #[va, vb] w fun e w' => e = .returned (.bool (decide (a = b))) ∧ Below w.heap.size w w' := by
  obtain ⟨s1, rfl, r1⟩ := ha
  obtain ⟨s2, rfl, r2⟩ := hb
  obtain ⟨g, xs⟩ := a
  obtain ⟨g', ys⟩ := b
  have K := fun W (h : Below w.heap.size w W) => sameI s1 s2 xs ys W (r1.below h (Nat.le_refl _)) (r2.below h (Nat.le_refl _)) hl
  have B := below2 w (.cells #[.bool g, s1] 27) (.cells #[.bool g', s2] 27)
  by_cases hg : g = g'
  · subst hg
    have HD : Hid (decide (((g, xs) : Wh) = (g, ys)) = decide (xs = ys)) := by
      show _ = _
      by_cases h : xs = ys
      · subst h; simp
      · simp [h]
    have ebb : (g == g) = true := by simp
    obtain ⟨d, hd⟩ : ∃ d, decide (xs = ys) = d := ⟨_, rfl⟩
    rw [hd] at K HD
    clear hd r1 r2
    go_enter Try.func20, Try.ntmps20
    go_wp2_with fail
    refine (K _ B).mono ?_
    rintro e w3 ⟨rfl, b3⟩
    have B3 := B.trans (b3.mono B.size)
    go_wp2
    go_ret
    exact ⟨by rw [HD.out]; rfl, B3⟩
  · have HD : Hid (decide (((g, xs) : Wh) = (g', ys)) = false) := by show _ = _; rw [decide_eq_false_iff_not]; intro e; exact hg (congrArg Prod.fst e)
    have ebb : (g == g') = false := by rw [beq_eq_false_iff_ne]; exact hg
    clear r1 r2 K
    go_enter Try.func20, Try.ntmps20
    go_wp2
    go_ret
    first | exact ⟨rfl, B⟩ | exact ⟨by rw [HD.out]; rfl, B⟩

end Go.Proofs.Ytlpfjpbnedankaa
