/- The program's plus, minus and times of numbers with a sign, each by its contract. -/
import Derived.Test.YtmfoengoahiecaaSWhole
import Derived.Test.YtmfoengoahiecaaGB
import Derived.Test.YtmfoengoahiecaaGTimes
namespace Go.Proofs.Ytmfoengoahiecaa
open Go.RowKit
set_option linter.unusedSimpArgs false

/-- A sign and a great number behind a pointer. -/
def SGG (w : World) (b : Nat) (g : Bool) (m : Nat) : Prop := w.cell? ⟨b, 0, none⟩ = some (.bool g) ∧ GA w b 1 m
theorem SGG.lt {w : World} {b m : Nat} {g : Bool} (h : SGG w b g m) : b < w.heap.size := h.2.lt
theorem SGG.drew {w : World} {b m : Nat} {g : Bool} (h : SGG w b g m) : SGG w.drew b g m := ⟨h.1, h.2.drew⟩
theorem SGG.below {w w' : World} {b B m : Nat} {g : Bool} (h : SGG w b g m) (hb : Below B w w') (hB : b < B) : SGG w' b g m := ⟨(hb.cell (p := ⟨b, 0, none⟩) hB).trans h.1, h.2.below hb hB⟩
theorem SG.sgg {w : World} {b : Nat} {z : Int} (h : SG w b z) : SGG w b (decide (z < 0)) z.natAbs := ⟨h.sign, h.mag⟩
theorem sval (x : Int) : (if decide (x < 0) = true then -(x.natAbs : Int) else (x.natAbs : Int)) = x := by
  by_cases h : x < 0
  · simp [h]; omega
  · simp [h]; omega
theorem plus_same {g : Bool} {m n : Nat} {x y : Int} (hx : (if g = true then -(m : Int) else (m : Int)) = x) (hy : (if g = true then -(n : Int) else (n : Int)) = y) : (if g = true then -((m + n : Nat) : Int) else ((m + n : Nat) : Int)) = x + y := by
  cases g <;> simp at hx hy ⊢ <;> omega
theorem plus_other {g h : Bool} {m n : Nat} {x y : Int} (hg : g ≠ h) (hx : (if g = true then -(m : Int) else (m : Int)) = x) (hy : (if h = true then -(n : Int) else (n : Int)) = y) :
    (n ≤ m → (if g = true then -((m - n : Nat) : Int) else ((m - n : Nat) : Int)) = x + y) ∧ (m ≤ n → (if h = true then -((n - m : Nat) : Int) else ((n - m : Nat) : Int)) = x + y) := by
  cases g <;> cases h <;> simp at hg hx hy ⊢ <;> omega
theorem sg_mul {g h : Bool} {m n : Nat} {x y : Int} (hx : (if g = true then -(m : Int) else (m : Int)) = x) (hy : (if h = true then -(n : Int) else (n : Int)) = y) : (if (g != h) = true then -((m * n : Nat) : Int) else ((m * n : Nat) : Int)) = x * y := by
  subst hx hy
  cases g <;> cases h <;> simp [Int.neg_mul, Int.mul_neg]

end Go.Proofs.Ytmfoengoahiecaa
