/- The specification's l2Fits, by its contract. -/
import Derived.Test.YtppeabnipnokhaaLimbMore
namespace Go.Proofs.Ytppeabnipnokhaa
open Go.RowKit

theorem sFits (v : Value) (xs : List Int) (base : Nat) (w : World) (h : ownsI w base v xs) (hb : base ≤ w.heap.size) (_hl : xs.length ≤ 1073741824) :
    Calls Try.prog 33 #[v] w fun e w' => ∃ v', e = .returned (.tuple #[v', .bool (decide (xs.length ≤ 48))]) ∧ ownsI w' base v' (if xs.length ≤ 48 then xs else []) ∧ Below w.heap.size w w' := by
  obtain ⟨a, cap, rfl, -⟩ := h.row
  by_cases hlen : xs.length ≤ 48
  · have hlen' : ¬ ((48 : Int) < (xs.length : Int)) := by omega
    rw [if_pos hlen, decide_eq_true hlen]
    go_enter Try.func33, Try.ntmps33
    go_wp2
    go_ret2
    exact ⟨_, rfl, h, Below.refl _ _⟩
  · have hlen' : (48 : Int) < (xs.length : Int) := by omega
    rw [if_neg hlen, decide_eq_false hlen]
    have ho : ownsI (w.alloc (.cells #[] 3)) base (.slice (some ⟨w.heap.size, 0, none⟩) 0 0) [] := ownsI_mono (made_own w) hb
    clear h
    go_enter Try.func33, Try.ntmps33
    go_wp2
    go_ret2
    exact ⟨_, rfl, ho, (Below.refl _ _).alloc (Nat.le_refl _) _⟩

end Go.Proofs.Ytppeabnipnokhaa
