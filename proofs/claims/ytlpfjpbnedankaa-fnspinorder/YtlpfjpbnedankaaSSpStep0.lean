/- Lengths for exact steps; cuts (no walk). -/
import Derived.Test.YtlpfjpbnedankaaSpStepM
import Derived.Test.YtlpfjpbnedankaaFB
import Derived.Test.YtlpfjpbnedankaaWB
import Derived.Test.YtlpfjpbnedankaaSWMul
namespace Go.Proofs.Ytlpfjpbnedankaa
open Go.RowKit
set_option linter.unusedSimpArgs false
set_option linter.unusedVariables false

theorem inAt_b (x lo hi : Int) (w : World) : Calls Try.prog 47 #[.int .i64 x, .int .i64 lo, .int .i64 hi] w fun e w' => e = .returned (.bool (decide (lo ≤ x ∧ x ≤ hi))) ∧ Below w.heap.size w w' :=
  (inAt x lo hi w).mono fun _ _ ⟨h1, h2⟩ => ⟨h1, h2 ▸ Below.refl _ _⟩
def CutBANNBANNBANNBANNBANNBANNBANNBANNN (A : Bool → Option Addr → Nat → Nat → Bool → Option Addr → Nat → Nat → Bool → Option Addr → Nat → Nat → Bool → Option Addr → Nat → Nat → Bool → Option Addr → Nat → Nat → Bool → Option Addr → Nat → Nat → Bool → Option Addr → Nat → Nat → Bool → Option Addr → Nat → Nat → Nat → Act) (F : Bool → Option Addr → Nat → Nat → Bool → Option Addr → Nat → Nat → Bool → Option Addr → Nat → Nat → Bool → Option Addr → Nat → Nat → Bool → Option Addr → Nat → Nat → Bool → Option Addr → Nat → Nat → Bool → Option Addr → Nat → Nat → Bool → Option Addr → Nat → Nat → Nat → World → Prop) (a' : Act) (w' : World) : Prop := ∃ (b0 : Bool) (b1 : Option Addr) (b2 : Nat) (b3 : Nat) (b4 : Bool) (b5 : Option Addr) (b6 : Nat) (b7 : Nat) (b8 : Bool) (b9 : Option Addr) (b10 : Nat) (b11 : Nat) (b12 : Bool) (b13 : Option Addr) (b14 : Nat) (b15 : Nat) (b16 : Bool) (b17 : Option Addr) (b18 : Nat) (b19 : Nat) (b20 : Bool) (b21 : Option Addr) (b22 : Nat) (b23 : Nat) (b24 : Bool) (b25 : Option Addr) (b26 : Nat) (b27 : Nat) (b28 : Bool) (b29 : Option Addr) (b30 : Nat) (b31 : Nat) (b32 : Nat), a' = A b0 b1 b2 b3 b4 b5 b6 b7 b8 b9 b10 b11 b12 b13 b14 b15 b16 b17 b18 b19 b20 b21 b22 b23 b24 b25 b26 b27 b28 b29 b30 b31 b32 ∧ F b0 b1 b2 b3 b4 b5 b6 b7 b8 b9 b10 b11 b12 b13 b14 b15 b16 b17 b18 b19 b20 b21 b22 b23 b24 b25 b26 b27 b28 b29 b30 b31 b32 w'
theorem CutBANNBANNBANNBANNBANNBANNBANNBANNN.mk {A : Bool → Option Addr → Nat → Nat → Bool → Option Addr → Nat → Nat → Bool → Option Addr → Nat → Nat → Bool → Option Addr → Nat → Nat → Bool → Option Addr → Nat → Nat → Bool → Option Addr → Nat → Nat → Bool → Option Addr → Nat → Nat → Bool → Option Addr → Nat → Nat → Nat → Act} {F : Bool → Option Addr → Nat → Nat → Bool → Option Addr → Nat → Nat → Bool → Option Addr → Nat → Nat → Bool → Option Addr → Nat → Nat → Bool → Option Addr → Nat → Nat → Bool → Option Addr → Nat → Nat → Bool → Option Addr → Nat → Nat → Bool → Option Addr → Nat → Nat → Nat → World → Prop} {a' : Act} {w' : World} (b0 : Bool) (b1 : Option Addr) (b2 : Nat) (b3 : Nat) (b4 : Bool) (b5 : Option Addr) (b6 : Nat) (b7 : Nat) (b8 : Bool) (b9 : Option Addr) (b10 : Nat) (b11 : Nat) (b12 : Bool) (b13 : Option Addr) (b14 : Nat) (b15 : Nat) (b16 : Bool) (b17 : Option Addr) (b18 : Nat) (b19 : Nat) (b20 : Bool) (b21 : Option Addr) (b22 : Nat) (b23 : Nat) (b24 : Bool) (b25 : Option Addr) (b26 : Nat) (b27 : Nat) (b28 : Bool) (b29 : Option Addr) (b30 : Nat) (b31 : Nat) (b32 : Nat) (ha : a' = A b0 b1 b2 b3 b4 b5 b6 b7 b8 b9 b10 b11 b12 b13 b14 b15 b16 b17 b18 b19 b20 b21 b22 b23 b24 b25 b26 b27 b28 b29 b30 b31 b32) (h : F b0 b1 b2 b3 b4 b5 b6 b7 b8 b9 b10 b11 b12 b13 b14 b15 b16 b17 b18 b19 b20 b21 b22 b23 b24 b25 b26 b27 b28 b29 b30 b31 b32 w') : atEnd (CutBANNBANNBANNBANNBANNBANNBANNBANNN A F) .normal a' w' := ⟨b0, b1, b2, b3, b4, b5, b6, b7, b8, b9, b10, b11, b12, b13, b14, b15, b16, b17, b18, b19, b20, b21, b22, b23, b24, b25, b26, b27, b28, b29, b30, b31, b32, ha, h⟩
theorem wpCutBANNBANNBANNBANNBANNBANNBANNBANNN {P : Program} {c : Code} {Q : Exit → Act → World → Prop} {a : Act} {w : World} (A : Bool → Option Addr → Nat → Nat → Bool → Option Addr → Nat → Nat → Bool → Option Addr → Nat → Nat → Bool → Option Addr → Nat → Nat → Bool → Option Addr → Nat → Nat → Bool → Option Addr → Nat → Nat → Bool → Option Addr → Nat → Nat → Bool → Option Addr → Nat → Nat → Nat → Act) (F : Bool → Option Addr → Nat → Nat → Bool → Option Addr → Nat → Nat → Bool → Option Addr → Nat → Nat → Bool → Option Addr → Nat → Nat → Bool → Option Addr → Nat → Nat → Bool → Option Addr → Nat → Nat → Bool → Option Addr → Nat → Nat → Bool → Option Addr → Nat → Nat → Nat → World → Prop) (hA : c.wp P (atEnd (CutBANNBANNBANNBANNBANNBANNBANNBANNN A F)) a w)
    (hB : ∀ (b0 : Bool) (b1 : Option Addr) (b2 : Nat) (b3 : Nat) (b4 : Bool) (b5 : Option Addr) (b6 : Nat) (b7 : Nat) (b8 : Bool) (b9 : Option Addr) (b10 : Nat) (b11 : Nat) (b12 : Bool) (b13 : Option Addr) (b14 : Nat) (b15 : Nat) (b16 : Bool) (b17 : Option Addr) (b18 : Nat) (b19 : Nat) (b20 : Bool) (b21 : Option Addr) (b22 : Nat) (b23 : Nat) (b24 : Bool) (b25 : Option Addr) (b26 : Nat) (b27 : Nat) (b28 : Bool) (b29 : Option Addr) (b30 : Nat) (b31 : Nat) (b32 : Nat) w', F b0 b1 b2 b3 b4 b5 b6 b7 b8 b9 b10 b11 b12 b13 b14 b15 b16 b17 b18 b19 b20 b21 b22 b23 b24 b25 b26 b27 b28 b29 b30 b31 b32 w' → Q .normal (A b0 b1 b2 b3 b4 b5 b6 b7 b8 b9 b10 b11 b12 b13 b14 b15 b16 b17 b18 b19 b20 b21 b22 b23 b24 b25 b26 b27 b28 b29 b30 b31 b32) w') : c.wp P Q a w :=
  wp_mono hA (atEnd_out fun a' w' ⟨b0, b1, b2, b3, b4, b5, b6, b7, b8, b9, b10, b11, b12, b13, b14, b15, b16, b17, b18, b19, b20, b21, b22, b23, b24, b25, b26, b27, b28, b29, b30, b31, b32, ha, h⟩ => by subst ha; exact hB b0 b1 b2 b3 b4 b5 b6 b7 b8 b9 b10 b11 b12 b13 b14 b15 b16 b17 b18 b19 b20 b21 b22 b23 b24 b25 b26 b27 b28 b29 b30 b31 b32 w' h)

theorem sub_len (x y : Int) (m : Nat) (hx : (limbs x.natAbs).length ≤ m) (hy : (limbs y.natAbs).length ≤ m) : (limbs (x - y).natAbs).length ≤ m + 2 := by
  refine limbs_len_le _ _ ?_
  have h1 := limbs_lt x.natAbs
  have h2 := limbs_lt y.natAbs
  have e1 := Nat.pow_le_pow_right (by omega : 0 < 16777216) hx
  have e2 := Nat.pow_le_pow_right (by omega : 0 < 16777216) hy
  have e3 : 16777216 ^ (m + 2) = 16777216 ^ m * 16777216 ^ 2 := Nat.pow_add _ _ _
  have e4 : 16777216 ^ m * 2 ≤ 16777216 ^ m * 16777216 ^ 2 := Nat.mul_le_mul_left _ (by decide)
  omega
theorem add_lenI (x y : Int) (m : Nat) (hx : (limbs x.natAbs).length ≤ m) (hy : (limbs y.natAbs).length ≤ m) : (limbs (x + y).natAbs).length ≤ m + 2 := by
  have := sub_len x (-y) m hx (by rw [Int.natAbs_neg]; exact hy)
  rw [Int.sub_neg] at this
  exact this
theorem mk_len {z : Int} (h : (limbs z.natAbs).length ≤ 1000) : (mkW z).2.length ≤ 1048576 := Nat.le_trans h (by decide)

end Go.Proofs.Ytlpfjpbnedankaa
