/- The number one in a row of its own; small facts of rows. -/
import Derived.Test.YtjelmbkngjlefaaBase
namespace Go.Proofs.Ytjelmbkngjlefaa
open Go.RowKit

theorem one_row (w : World) : rowI (w.alloc (.cells #[.int .i64 1] 3)) (.slice (some ⟨w.heap.size, 0, none⟩) 1 1) [1] := by
  refine ⟨_, 1, rfl, Nat.le_refl _, by unfold maxLen; omega, (by intro h; cases h), (by intro x hx; cases hx; rfl), fun j hj => ?_⟩
  have hj0 : j = 0 := by simp at hj; omega
  subst hj0
  exact ⟨w.heap.size, 0, rfl, by simp, by simp⟩
theorem own_below {w w' : World} {base B n : Nat} {v : Value} {xs : List Value} (h : w.ownsRow base 3 1 v n xs) (hb : Below B w w') (hlt : w.heap.size ≤ B) : w'.ownsRow base 3 1 v n xs := by
  refine World.ownsRow.kept (row := none) h ⟨hb.os, hb.tape, hb.output, hb.size, fun k hk _ => hb.block k (by omega)⟩ ?_
  cases hv : v.ownBlock with
  | none => exact .inl rfl
  | some k => exact .inr (by simp)
theorem below_drewN (B : Nat) (w : World) (n : Nat) : Below B w (w.drewN n) := ⟨rfl, rfl, rfl, Nat.le_refl _, fun _ _ => rfl⟩
theorem one_own (w : World) : ownsI (w.alloc (.cells #[.int .i64 1] 3)) w.heap.size (.slice (some ⟨w.heap.size, 0, none⟩) 1 1) [1] :=
  World.ownsRow_lit w #[.int .i64 1] 1 (Nat.le_refl _) (by unfold maxLen; omega) rfl
theorem num_one : num [1] = 1 := by decide
theorem inR_one : inR [1] := inR_cons.2 ⟨by omega, inR_nil⟩

end Go.Proofs.Ytjelmbkngjlefaa
