/- The specification's l4Make, by its contract. -/
import Derived.Test.YtdpcobcaodlgiaaBase
namespace Go.Proofs.Ytdpcobcaodlgiaa
open Go.RowKit

theorem mkW_sign (neg : Bool) (m : Nat) : mkW (if neg = true then -(m : Int) else (m : Int)) = (neg && decide (0 < m), limbs m) := by
  unfold mkW
  cases neg <;> simp

set_option maxHeartbeats 1600000 in
theorem sMake (neg : Bool) (s : Value) (m : Nat) (base : Nat) (w : World) (h : ownsI w base s (limbs m)) (hl : (limbs m).length ≤ 1073741824) :
    Calls Try.prog 69 #[.bool neg, s] w fun e w' => ∃ v, e = .returned v ∧ ownsW w' base v (mkW (if neg = true then -(m : Int) else (m : Int))) ∧ Below w.heap.size w w' := by
  obtain ⟨ad, cap, rfl, -⟩ := h.row
  have hm : decide ((0 : Int) < ((limbs m).length : Int)) = decide (0 < m) := by
    by_cases h0 : m = 0
    · subst h0; rw [limbs_zero]; rfl
    · have : 0 < (limbs m).length := by rw [limbs_pos m (by omega)]; simp
      simp; omega
  have hm' : decide (0 < (limbs m).length) = decide (0 < m) := by rw [← hm]; simp
  have H0 : Hid (mkW (m : Int) = (false, limbs m)) := by show _ = _; have := mkW_sign false m; simpa using this
  have H1 : Hid (mkW (-(m : Int)) = (decide (0 < (limbs m).length), limbs m)) := by
    show _ = _
    have := mkW_sign true m
    rw [hm']
    simpa using this
  have HO : Hid (ownsI w base (.slice ad (limbs m).length cap) (limbs m)) := h
  clear h hm hm'
  cases neg
  · go_enter Try.func69, Try.ntmps69
    go_wp2
    (try simp only [Exit.inBlock, Exit.then])
    refine bodyPost_ret (v := .agg #[.bool false, .slice ad (limbs m).length cap]) ?_ rfl ⟨_, rfl, ?_, below1 _ _⟩
    · rw [results_cell1 rfl]
      go_simp
    · rw [H0.out]
      exact ⟨_, rfl, World.ownsRow.alloc HO.out _⟩
  · go_enter Try.func69, Try.ntmps69
    go_wp2
    (try simp only [Exit.inBlock, Exit.then])
    refine bodyPost_ret (v := .agg #[.bool (decide (0 < (limbs m).length)), .slice ad (limbs m).length cap]) ?_ rfl ⟨_, rfl, ?_, below1 _ _⟩
    · rw [results_cell1 rfl]
      go_simp
    · rw [H1.out]
      exact ⟨_, rfl, World.ownsRow.alloc HO.out _⟩

end Go.Proofs.Ytdpcobcaodlgiaa
