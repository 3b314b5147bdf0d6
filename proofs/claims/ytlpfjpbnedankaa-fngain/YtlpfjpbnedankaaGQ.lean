/- Several small texts in one: GsqM, MoveS, IvAddB, RootS, ModeS, Bx1, GsqS, GsqI. -/
import Derived.Test.YtlpfjpbnedankaaIB
import Derived.Test.YtlpfjpbnedankaaRB
import Derived.Test.YtlpfjpbnedankaaWB
import Derived.Test.YtlpfjpbnedankaaSIvOk
import Derived.Test.YtlpfjpbnedankaaSW
import Derived.Test.YtlpfjpbnedankaaGB
import Derived.Test.YtlpfjpbnedankaaSgB
import Derived.Test.YtlpfjpbnedankaaPSB
import Derived.Test.YtlpfjpbnedankaaUB
import Derived.Test.YtlpfjpbnedankaaSB
import Derived.Test.YtlpfjpbnedankaaNB
import Derived.Test.YtlpfjpbnedankaaV0
import Derived.Test.YtlpfjpbnedankaaBase
import Derived.Test.YtlpfjpbnedankaaSQ
/- The square of the gain: the numbers (no walk). -/
namespace Go.Proofs.Ytlpfjpbnedankaa
open Go.RowKit
set_option linter.unusedSimpArgs false

def gsq (p : Nat) : Nat → Int × Int
  | 0 => (2 ^ p, 2 ^ p)
  | i + 1 => ((gsq p i).1 + (gsq p i).1 / 2 ^ (2 * i), (gsq p i).2 + -(-(gsq p i).2 / 2 ^ (2 * i)))
theorem abs_ediv (x : Int) (k : Nat) : (x / 2 ^ k).natAbs ≤ x.natAbs := by
  have hp : (0 : Int) < 2 ^ k := Int.pow_pos (by omega)
  generalize (2 : Int) ^ k = n at *
  by_cases h : 0 ≤ x
  · have h1 := Int.ediv_nonneg h (Int.le_of_lt hp)
    have h2 := Int.ediv_le_self n h
    omega
  · have h1 : x ≤ x / n := (Int.le_ediv_iff_mul_le hp).2 (by
      have h3 : (-x) * 1 ≤ (-x) * n := Int.mul_le_mul_of_nonneg_left (by omega) (by omega)
      rw [Int.neg_mul, Int.neg_mul, Int.mul_one] at h3
      omega)
    have h2 : x / n < 0 := Int.ediv_neg_of_neg_of_pos (by omega) hp
    omega
theorem mvLo_down (x : Int) (k : Nat) : mvLo x (-(k : Int)) = x / 2 ^ k := by
  unfold mvLo
  by_cases h : 0 ≤ -(k : Int)
  · obtain rfl : k = 0 := by omega
    simp
  · rw [if_neg h, show (-(-(k : Int))).toNat = k by omega]
theorem mvHi_down (x : Int) (k : Nat) : mvHi x (-(k : Int)) = -(-x / 2 ^ k) := by
  unfold mvHi
  by_cases h : 0 ≤ -(k : Int)
  · obtain rfl : k = 0 := by omega
    simp
  · rw [if_neg h, show (-(-(k : Int))).toNat = k by omega]

theorem gsq_nonneg (p n : Nat) : 0 ≤ (gsq p n).1 ∧ 0 ≤ (gsq p n).2 := by
  induction n with
  | zero => exact ⟨Int.le_of_lt (Int.pow_pos (by omega)), Int.le_of_lt (Int.pow_pos (by omega))⟩
  | succ i ih =>
    have hp : (0 : Int) < 2 ^ (2 * i) := Int.pow_pos (by omega)
    have h1 : 0 ≤ (gsq p i).1 / 2 ^ (2 * i) := Int.ediv_nonneg ih.1 (Int.le_of_lt hp)
    have h2 : -(gsq p i).2 / 2 ^ (2 * i) ≤ 0 := by
      have := Int.ediv_le_ediv hp (show -(gsq p i).2 ≤ 0 by have := ih.2; omega)
      rw [Int.zero_ediv] at this
      exact this
    refine ⟨?_, ?_⟩
    · show 0 ≤ (gsq p i).1 + _
      have := ih.1
      omega
    · show 0 ≤ (gsq p i).2 + _
      have := ih.2
      omega
theorem gsq_bd (p n : Nat) : (gsq p n).1.natAbs ≤ 2 ^ (p + n) ∧ (gsq p n).2.natAbs ≤ 2 ^ (p + n) := by
  induction n with
  | zero =>
    have h : ((2 : Int) ^ p).natAbs = 2 ^ p := by rw [Int.natAbs_pow]; rfl
    exact ⟨Nat.le_of_eq h, Nat.le_of_eq h⟩
  | succ i ih =>
    have h1 := abs_ediv (gsq p i).1 (2 * i)
    have h2 := abs_ediv (-(gsq p i).2) (2 * i)
    have e : 2 ^ (p + (i + 1)) = 2 ^ (p + i) * 2 := Nat.pow_succ ..
    rw [e]
    refine ⟨?_, ?_⟩
    · show ((gsq p i).1 + (gsq p i).1 / 2 ^ (2 * i)).natAbs ≤ _
      have := ih.1
      omega
    · show ((gsq p i).2 + -(-(gsq p i).2 / 2 ^ (2 * i))).natAbs ≤ _
      have := ih.2
      omega
theorem gpow_len (k L : Nat) (h : k < 24 * L) : (limbs (2 ^ k)).length ≤ L := limbs_len_le _ L (by
  have e : (16777216 : Nat) ^ L = 2 ^ (24 * L) := by rw [Nat.pow_mul]
  rw [e]
  exact Nat.pow_lt_pow_right (by omega) h)
theorem pow_len29 (k : Nat) (h : k ≤ 695) : (limbs (2 ^ k)).length ≤ 29 := gpow_len k 29 (by omega)
theorem gsq_len (p n : Nat) (h : p + n ≤ 695) : (limbs (gsq p n).1.natAbs).length ≤ 29 ∧ (limbs (gsq p n).2.natAbs).length ≤ 29 :=
  ⟨Nat.le_trans (limbs_mono (gsq_bd p n).1) (pow_len29 _ h), Nat.le_trans (limbs_mono (gsq_bd p n).2) (pow_len29 _ h)⟩
theorem gsq_part (p n : Nat) (h : p + n ≤ 695) : (limbs ((gsq p n).1 / 2 ^ (2 * n)).natAbs).length ≤ 29 ∧ (limbs (-(-(gsq p n).2 / 2 ^ (2 * n))).natAbs).length ≤ 29 := by
  have h1 := abs_ediv (gsq p n).1 (2 * n)
  have h2 := abs_ediv (-(gsq p n).2) (2 * n)
  refine ⟨Nat.le_trans (limbs_mono h1) (gsq_len p n h).1, Nat.le_trans (limbs_mono (m := (gsq p n).2.natAbs) (by omega)) (gsq_len p n h).2⟩
theorem fitV_all (x y : Int) (hx : (limbs x.natAbs).length ≤ 48) (hy : (limbs y.natAbs).length ≤ 48) : fitV x y = ((mkW x, mkW y), true) := by
  unfold fitV fitW
  rw [if_pos hx, if_pos hy]
  rfl
/-- What is known of the squared gain's root, moved. -/
def gnLo (p n : Nat) : Int := rtLo ((gsq (p + 16) n).1.natAbs * 2 ^ (p + 16)) / 2 ^ 16
def gnHi (p n : Nat) : Int := -(-((rtUp ((gsq (p + 16) n).2.natAbs * 2 ^ (p + 16)) : Nat) : Int) / 2 ^ 16)
def gsR (n p : Int) : Vh × Bool := if (1 ≤ p ∧ p ≤ 464) ∧ 0 ≤ n ∧ n ≤ 200 then ((mkW (gsq p.toNat n.toNat).1, mkW (gsq p.toNat n.toNat).2), true) else (((false, []), (false, [])), false)
def gnR (n p : Int) : Vh × Bool := if (1 ≤ p ∧ p ≤ 464) ∧ 0 ≤ n ∧ n ≤ 200 then ((mkW (gnLo p.toNat n.toNat), mkW (gnHi p.toNat n.toNat)), true) else (((false, []), (false, [])), false)
theorem isqrt_le' (n : Nat) : isqrt n ≤ n := by
  have := (isqrt_spec n).1
  rcases Nat.eq_zero_or_pos (isqrt n) with h | h
  · omega
  · exact Nat.le_trans (Nat.le_mul_of_pos_right _ h) this
theorem root_len (p n : Nat) (h : p + 16 + n ≤ 695) : (limbs (isqrt ((gsq (p + 16) n).1.natAbs * 2 ^ (p + 16)))).length ≤ 48 ∧ (limbs (rtUp ((gsq (p + 16) n).2.natAbs * 2 ^ (p + 16)))).length ≤ 48 := by
  have key : ∀ m : Nat, m ≤ 2 ^ (p + 16 + n) → isqrt (m * 2 ^ (p + 16)) ≤ 2 ^ (p + 16 + n) := by
    intro m hm
    have h1 := (isqrt_spec (m * 2 ^ (p + 16))).1
    apply Classical.byContradiction
    intro hn
    have h2 : (2 ^ (p + 16 + n) + 1) * (2 ^ (p + 16 + n) + 1) ≤ isqrt (m * 2 ^ (p + 16)) * isqrt (m * 2 ^ (p + 16)) := Nat.mul_le_mul (by omega) (by omega)
    have h3 : m * 2 ^ (p + 16) ≤ 2 ^ (p + 16 + n) * 2 ^ (p + 16 + n) := Nat.mul_le_mul hm (Nat.pow_le_pow_right (by omega) (by omega))
    have h4 : 2 ^ (p + 16 + n) * 2 ^ (p + 16 + n) < (2 ^ (p + 16 + n) + 1) * (2 ^ (p + 16 + n) + 1) := by
      generalize 2 ^ (p + 16 + n) = q
      exact Nat.mul_lt_mul_of_lt_of_le (by omega) (by omega) (by omega)
    omega
  have h1 := key _ (gsq_bd (p + 16) n).1
  have h2 := key _ (gsq_bd (p + 16) n).2
  have h29 := pow_len29 (p + 16 + n) h
  refine ⟨Nat.le_trans (limbs_mono h1) (by omega), ?_⟩
  have h3 : rtUp ((gsq (p + 16) n).2.natAbs * 2 ^ (p + 16)) ≤ 2 ^ (p + 16 + n) + 1 := by unfold rtUp; split <;> omega
  have h5 : 2 ^ (p + 16 + n) + 1 ≤ 2 ^ (p + 16 + n + 1) := by
    rw [Nat.pow_succ]
    have := Nat.two_pow_pos (p + 16 + n)
    omega
  have h6 : (limbs (2 ^ (p + 16 + n + 1))).length ≤ 30 := gpow_len _ 30 (by omega)
  exact Nat.le_trans (limbs_mono (Nat.le_trans h3 h5)) (by omega)
theorem gn_len (p n : Nat) (h : p + 16 + n ≤ 695) : (limbs (gnLo p n).natAbs).length ≤ 48 ∧ (limbs (gnHi p n).natAbs).length ≤ 48 := by
  have h1 := root_len p n h
  have h2 := abs_ediv (rtLo ((gsq (p + 16) n).1.natAbs * 2 ^ (p + 16))) 16
  have h3 := abs_ediv (-((rtUp ((gsq (p + 16) n).2.natAbs * 2 ^ (p + 16)) : Nat) : Int)) 16
  refine ⟨Nat.le_trans (limbs_mono h2) ?_, Nat.le_trans (limbs_mono (m := rtUp ((gsq (p + 16) n).2.natAbs * 2 ^ (p + 16))) ?_) h1.2⟩
  · show (limbs ((isqrt ((gsq (p + 16) n).1.natAbs * 2 ^ (p + 16)) : Nat) : Int).natAbs).length ≤ 48
    rw [Int.natAbs_natCast]
    exact h1.1
  · unfold gnHi
    omega
theorem gsR_len (n p : Int) : (gsR n p).1.1.2.length ≤ 1048576 ∧ (gsR n p).1.2.2.length ≤ 1048576 := by
  unfold gsR
  split
  · rename_i h
    have := gsq_len p.toNat n.toNat (by omega)
    exact ⟨Nat.le_trans this.1 (by omega), Nat.le_trans this.2 (by omega)⟩
  · simp
theorem gnR_len (n p : Int) : (gnR n p).1.1.2.length ≤ 1048576 ∧ (gnR n p).1.2.2.length ≤ 1048576 := by
  unfold gnR
  split
  · rename_i h
    have := gn_len p.toNat n.toNat (by omega)
    exact ⟨Nat.le_trans this.1 (by omega), Nat.le_trans this.2 (by omega)⟩
  · simp

end Go.Proofs.Ytlpfjpbnedankaa

/- The specification's l4Ceil and l10Move, each by its contract. -/
namespace Go.Proofs.Ytlpfjpbnedankaa
open Go.RowKit
set_option linter.unusedSimpArgs false

theorem ceil_len (x : Int) (k : Nat) : (limbs (-x / 2 ^ k).natAbs).length ≤ (limbs x.natAbs).length + 1 := by
  have hp : (0 : Int) < 2 ^ k := Int.pow_pos (by omega)
  have hp1 : (1 : Int) ≤ 2 ^ k := hp
  have h : (-x / 2 ^ k).natAbs ≤ x.natAbs + 1 := by
    have a1 : -x / 2 ^ k ≤ x.natAbs := by
      rcases Int.le_total 0 (-x) with hx | hx
      · exact Int.le_trans (Int.ediv_le_self _ hx) (by omega)
      · exact Int.le_trans (Int.ediv_nonpos_of_nonpos_of_neg hx hp) (by omega)
    have a2 : -(x.natAbs : Int) - 1 ≤ -x / 2 ^ k := by
      rw [Int.le_ediv_iff_mul_le hp]
      have : (-(x.natAbs : Int) - 1) * 2 ^ k ≤ (-(x.natAbs : Int) - 1) * 1 := Int.mul_le_mul_of_nonpos_left (by omega) hp1
      omega
    omega
  refine limbs_len_le _ _ ?_
  have h2 := limbs_lt x.natAbs
  rw [Nat.pow_succ]
  generalize 16777216 ^ (limbs x.natAbs).length = Q at *
  omega

end Go.Proofs.Ytlpfjpbnedankaa

/- IvAdd of the specification and of the program, each by its contract. -/
namespace Go.Proofs.Ytlpfjpbnedankaa
open Go.RowKit
set_option linter.unusedSimpArgs false

def ivAddR (a b : Vh) : Vh × Bool := if okV a = true ∧ okV b = true then fitV (valW a.1 + valW b.1) (valW a.2 + valW b.2) else (((false, []), (false, [])), false)
theorem ivAddR_len (a b : Vh) : (ivAddR a b).1.1.2.length ≤ 1048576 ∧ (ivAddR a b).1.2.2.length ≤ 1048576 := by
  unfold ivAddR
  split
  · exact fitV_len _ _
  · simp

end Go.Proofs.Ytlpfjpbnedankaa

/- The specification's l11Root, by its contract. -/
namespace Go.Proofs.Ytlpfjpbnedankaa
open Go.RowKit
set_option linter.unusedSimpArgs false

end Go.Proofs.Ytlpfjpbnedankaa

/- l1In and l5Mode of the specification, whatever they are asked, each by its contract. -/
namespace Go.Proofs.Ytlpfjpbnedankaa
open Go.RowKit

theorem inAt (x lo hi : Int) (w : World) : Calls Try.prog 47 #[.int .i64 x, .int .i64 lo, .int .i64 hi] w fun e w' => e = .returned (.bool (decide (lo ≤ x ∧ x ≤ hi))) ∧ w' = w := by
  by_cases h : lo ≤ x ∧ x ≤ hi
  · rw [decide_eq_true h]; exact in_yes x lo hi w h.1 h.2
  · rw [decide_eq_false h]; exact in_no x lo hi w h
end Go.Proofs.Ytlpfjpbnedankaa

/- The box of a variable of one cell; a store into a box of two (no walk). -/
namespace Go.Proofs.Ytlpfjpbnedankaa
open Go.RowKit

/-- The box of a variable of 1 cells. -/
structure Bx1 (w : World) (base b : Nat) (x0 : Value) : Prop where
  lo : base ≤ b
  hi : b < w.heap.size
  c0 : w.cell? ⟨b, 0, none⟩ = some x0
  f0 : w.frozen? ⟨b, 0, none⟩ = false
theorem Bx1.made (w : World) (x0 : Value) (t : TypeId) : Bx1 (w.alloc (.cells #[x0] t)) w.heap.size w.heap.size x0 :=
  ⟨Nat.le_refl _, by simp, by simp, by simp⟩
theorem Bx1.below {w w' : World} {base b B : Nat} {x0 : Value} (h : Bx1 w base b x0) (hb : Below B w w') (hB : w.heap.size ≤ B) : Bx1 w' base b x0 :=
  have hlt : b < B := Nat.lt_of_lt_of_le h.hi hB
  ⟨h.lo, Nat.lt_of_lt_of_le h.hi hb.size, (hb.cell (p := ⟨b, 0, none⟩) hlt).trans h.c0, (hb.frozen (p := ⟨b, 0, none⟩) hlt).trans h.f0⟩
theorem Bx1.mono {w : World} {base base' b : Nat} {x0 : Value} (h : Bx1 w base b x0) (hb : base' ≤ base) : Bx1 w base' b x0 :=
  ⟨Nat.le_trans hb h.lo, h.hi, h.c0, h.f0⟩
theorem Bx1.ltb {w : World} {base b : Nat} {x0 : Value} (h : Bx1 w base b x0) : ∀ k ∈ [b], base ≤ k ∧ k < w.heap.size := fun k hk => by
  simp at hk
  subst hk
  exact ⟨h.lo, h.hi⟩
theorem Bx1.tn {w w' : World} {base b : Nat} {x0 : Value} {S : List Nat} (h : Bx1 w base b x0) (ht : Tn S w w') (ha : Apart [b] S) : Bx1 w' base b x0 := by
  have hk := ht.block b h.hi (ha b (by simp))
  have hc := fun i => World.cell?_of_block (w := w) (w' := w') (a := ⟨b, i, none⟩) hk
  have hf := fun i => World.frozen?_of_block (w := w) (w' := w') (a := ⟨b, i, none⟩) hk
  exact ⟨h.lo, Nat.lt_of_lt_of_le h.hi ht.size, (hc 0).trans h.c0, (hf 0).trans h.f0⟩
theorem Bx1.set0 {w : World} {base b : Nat} {x0 : Value} (h : Bx1 w base b x0) (x : Value) : Bx1 (w.setCell ⟨b, 0, none⟩ x) base b x :=
  have c0 := h.c0; have f0 := h.f0
  ⟨h.lo, by have := h.hi; simpa [World.setCell] using this, World.cell?_setCell_same _ _ _ c0, by simp [*]⟩
theorem Bx1.other {w : World} {base b : Nat} {x0 : Value} (h : Bx1 w base b x0) (b' i : Nat) (hb : b ≠ b') (x : Value) : Bx1 (w.setCell ⟨b', i, none⟩ x) base b x0 :=
  h.tn (tnC w b' i x) (fun k hk hs => by simp at hk hs; omega)
theorem BoxW.set0 {w : World} {base b : Nat} {x0 x1 : Value} (h : BoxW w base b x0 x1) (x : Value) : BoxW (w.setCell ⟨b, 0, none⟩ x) base b x x1 :=
  have c0 := h.c0; have c1 := h.c1; have f0 := h.f0; have f1 := h.f1
  ⟨h.lo, by have := h.hi; simpa [World.setCell] using this, World.cell?_setCell_same _ _ _ c0, (World.cell?_setCell_other _ _ _ _ (by simp)).trans c1, by simp [*], by simp [*]⟩
theorem BoxW.set1 {w : World} {base b : Nat} {x0 x1 : Value} (h : BoxW w base b x0 x1) (x : Value) : BoxW (w.setCell ⟨b, 1, none⟩ x) base b x0 x :=
  have c0 := h.c0; have c1 := h.c1; have f0 := h.f0; have f1 := h.f1
  ⟨h.lo, by have := h.hi; simpa [World.setCell] using this, (World.cell?_setCell_other _ _ _ _ (by simp)).trans c0, World.cell?_setCell_same _ _ _ c1, by simp [*], by simp [*]⟩
theorem BoxW.other {w : World} {base b : Nat} {x0 x1 : Value} (h : BoxW w base b x0 x1) (b' i : Nat) (hb : b ≠ b') (x : Value) : BoxW (w.setCell ⟨b', i, none⟩ x) base b x0 x1 :=
  h.tn (tnC w b' i x) (fun k hk hs => by simp at hk hs; omega)

end Go.Proofs.Ytlpfjpbnedankaa

/- The squared gain and the gain of the specification, each by its contract. -/
namespace Go.Proofs.Ytlpfjpbnedankaa
open Go.RowKit
set_option linter.unusedSimpArgs false

theorem ownsV.opened {w : World} {base : Nat} {v : Value} {a : Vh} (h : ownsV w base v a) : ∃ (g : Bool) (ad : Option Addr) (j cap : Nat) (g' : Bool) (ae : Option Addr) (j' cap' : Nat), v = .agg #[.bool g, .slice ad j cap, .bool g', .slice ae j' cap'] ∧ ownsV w base (.agg #[.bool g, .slice ad j cap, .bool g', .slice ae j' cap']) a := by
  have h' := h
  obtain ⟨s, t, rfl, h1, h2, -⟩ := h
  obtain ⟨ad, cap, rfl, -⟩ := h1.row
  obtain ⟨ae, cap', rfl, -⟩ := h2.row
  exact ⟨_, _, _, _, _, _, _, _, rfl, h'⟩
theorem ownsW_pair {w : World} {base mid : Nat} {u v : Value} {a b : Wh} (h1 : ownsW w base u a) (h2 : ownsW w mid v b) (hb : base ≤ mid) (hm : ∀ k ∈ blkW u, k < mid) : ∃ (g : Bool) (ad : Option Addr) (j cap : Nat) (g' : Bool) (ae : Option Addr) (j' cap' : Nat), u = .agg #[.bool g, .slice ad j cap] ∧ v = .agg #[.bool g', .slice ae j' cap'] ∧ ownsV w base (.agg #[.bool g, .slice ad j cap, .bool g', .slice ae j' cap']) (a, b) := by
  have g1 := h1.ltb
  have g2 := h2.ltb
  obtain ⟨s, rfl, q1⟩ := h1
  obtain ⟨t, rfl, q2⟩ := h2
  obtain ⟨ad, cap, rfl, -⟩ := q1.row
  obtain ⟨ae, cap', rfl, -⟩ := q2.row
  exact ⟨_, _, _, _, _, _, _, _, rfl, rfl, ⟨_, _, rfl, q1, ownsI_mono q2 hb, apart_of hm (fun k hk => (g2 k hk).1)⟩⟩

theorem mkW_nat (q : Nat) : (false, limbs q) = mkW (q : Int) := by rw [mkW_pos _ (by omega), Int.natAbs_natCast]
end Go.Proofs.Ytlpfjpbnedankaa

/- The squared gain and the gain of the program, each by its contract. -/
namespace Go.Proofs.Ytlpfjpbnedankaa
open Go.RowKit
set_option linter.unusedSimpArgs false

theorem turnsAt (n : Int) (w : World) : Calls Try.prog 22 #[.int .i64 n] w fun e w' => e = .returned (.bool (decide (0 ≤ n ∧ n ≤ 200))) ∧ w' = w := by
  by_cases h1 : 0 ≤ n
  · by_cases h2 : n ≤ 200
    · rw [decide_eq_true ⟨h1, h2⟩]
      go_enter Try.func22, Try.ntmps22
      go_wp2
      go_ret
      exact ⟨rfl, rfl⟩
    · rw [decide_eq_false (by omega)]
      have h3 : decide (n ≤ 200) = false := decide_eq_false h2
      clear h2
      go_enter Try.func22, Try.ntmps22
      go_wp2
      go_ret
      exact ⟨rfl, rfl⟩
  · rw [decide_eq_false (by omega)]
    have h3 : decide (0 ≤ n) = false := decide_eq_false h1
    clear h1
    go_enter Try.func22, Try.ntmps22
    go_wp2
    go_ret
    exact ⟨rfl, rfl⟩

theorem constAt (p : Int) (w : World) : Calls Try.prog 23 #[.int .i64 p] w fun e w' => e = .returned (.bool (decide (1 ≤ p ∧ p ≤ 464))) ∧ w' = w := by
  by_cases h1 : 1 ≤ p
  · by_cases h2 : p ≤ 464
    · rw [decide_eq_true ⟨h1, h2⟩]
      go_enter Try.func23, Try.ntmps23
      go_wp2
      go_ret
      exact ⟨rfl, rfl⟩
    · rw [decide_eq_false (by omega)]
      have h3 : decide (p ≤ 464) = false := decide_eq_false h2
      clear h2
      go_enter Try.func23, Try.ntmps23
      go_wp2
      go_ret
      exact ⟨rfl, rfl⟩
  · rw [decide_eq_false (by omega)]
    have h3 : decide (1 ≤ p) = false := decide_eq_false h1
    clear h1
    go_enter Try.func23, Try.ntmps23
    go_wp2
    go_ret
    exact ⟨rfl, rfl⟩

theorem sg_ne {w : World} {c b : Nat} {x : Int} {v : Option Addr} (h : SG w c x) (hb : w.cell? ⟨b, 0, none⟩ = some (.pointer v)) : c ≠ b := fun e => by
  have h1 := h.sign
  rw [e, hb] at h1
  cases h1
set_option maxRecDepth 20000 in
set_option maxHeartbeats 6400000 in
theorem iGsq (n p : Nat) (w : World) (hn : n ≤ 200) (hp : p ≤ 480) :
    Calls Try.prog 26 #[.int .i64 (n : Int), .int .i64 (p : Int)] w (spanE (gsq p n).1 (gsq p n).2 w) := by
  unfold spanE
  have R := BoxW.made w (.pointer none) (.pointer none) 52
  have B := below1 w (.cells #[.pointer none, .pointer none] 52)
  have l1 : (limbs (1 : Int).natAbs).length ≤ 1 := by rw [show (1 : Int).natAbs = 1 from rfl]; exact limbs_len_le 1 1 (by omega)
  have l0 := gsq_len p 0 (by omega)
  have kU := fun b W (h : SG W b 1) => sgUp b 1 p W h (by omega) (by omega)
  rw [Int.one_mul] at kU
  go_enter Try.func26, Try.ntmps26
  go_wp2_with fail
  refine (sOf 1 _ (by omega) (by omega)).mono ?_
  generalize w.alloc (.cells #[.pointer none, .pointer none] 52) = w0 at *
  rintro e w1 ⟨b, rfl, hb, sb, b1⟩
  replace R := R.below b1 (Nat.le_refl _)
  replace B := B.trans (b1.mono B.size)
  clear b1
  go_wp2_with fail
  refine (kU b _ sb).mono ?_
  rintro e w2 ⟨c, rfl, hc, sc, b2⟩
  replace R := R.below b2 (Nat.le_refl _)
  replace B := B.trans (b2.mono B.size)
  clear b2
  clear sb kU
  go_wp2_with fail
  refine (alone_c c _ _ sc).mono ?_
  rintro e w3 ⟨c1, d1, rfl, sc1, sd1, b3⟩
  replace R := R.below b3 (Nat.le_refl _)
  replace B := B.trans (b3.mono B.size)
  clear b3
  clear sc
  have E := BoxW.made w3 (.pointer (some ⟨c1, 0, none⟩)) (.pointer (some ⟨d1, 0, none⟩)) 52
  have bE := below1 w3 (.cells #[.pointer (some ⟨c1, 0, none⟩), .pointer (some ⟨d1, 0, none⟩)] 52)
  have hE3 := R.hi
  replace sc1 := sc1.below bE sc1.lt
  replace sd1 := sd1.below bE sd1.lt
  replace R := R.below bE (Nat.le_refl _)
  replace B := B.trans (bE.mono B.size)
  clear bE
  go_wp2
  generalize w3.alloc (.cells #[.pointer (some ⟨c1, 0, none⟩), .pointer (some ⟨d1, 0, none⟩)] 52) = w4 at *
  obtain ⟨eb, heb⟩ : ∃ b, w3.heap.size = b := ⟨_, rfl⟩
  rw [heb] at E hE3
  (try rw [heb])
  clear heb
  go_loopw [6] (fun i wr => ∃ k c d : Nat, k ≤ n ∧ i = .int .i64 k ∧ BoxW wr eb eb (.pointer (some ⟨c, 0, none⟩)) (.pointer (some ⟨d, 0, none⟩)) ∧ SG wr c (gsq p k).1 ∧ SG wr d (gsq p k).2 ∧ BoxW wr w.heap.size w.heap.size (.pointer none) (.pointer none) ∧ Below w.heap.size w wr) (fun i _ => n - (intOf i).toNat)
  case atStart => exact ⟨0, c1, d1, Nat.zero_le _, rfl, E, sc1, sd1, R, B⟩
  case round =>
    clear E sc1 sd1 R B
    obtain ⟨k, c, d, hk, rfl, E, sc, sd, R, B⟩ := hrel
    by_cases hlt : k < n
    · have hlt' : (k : Int) < (n : Int) := by omega
      have gl := gsq_len p k (by omega)
      have gp := gsq_part p k (by omega)
      obtain ⟨X, hX⟩ : ∃ X, (gsq p k).1 = X := ⟨_, rfl⟩
      obtain ⟨Y, hY⟩ : ∃ Y, (gsq p k).2 = Y := ⟨_, rfl⟩
      have H1 : Hid ((gsq p (k + 1)).1 = X + X / 2 ^ (2 * k)) := by show _ = _; rw [← hX]; rfl
      have H2 : Hid ((gsq p (k + 1)).2 = Y + -(-Y / 2 ^ (2 * k))) := by show _ = _; rw [← hY]; rfl
      rw [hX] at gl gp sc
      rw [hY] at gl gp sd
      clear hX hY
      have kM := fun W h1 h2 => movedSpan_c c d X Y (2 * (k : Int)) 0 W h1 h2 (by omega) (by omega) (by omega) (by omega)
      rw [show 0 - 2 * (k : Int) = -((2 * k : Nat) : Int) by omega, mvLo_down, mvHi_down] at kM
      have kA := fun c2 d2 W h1 h2 h3 h4 => addSpans_c c d c2 d2 X Y (X / 2 ^ (2 * k)) (-(-Y / 2 ^ (2 * k))) W h1 h2 h3 h4 (by omega) (by omega) (by omega) (by omega)
      unfold spanE at kM kA
      generalize X + X / 2 ^ (2 * k) = X2 at *
      generalize Y + -(-Y / 2 ^ (2 * k)) = Y2 at *
      generalize X / 2 ^ (2 * k) = d1 at *
      generalize -(-Y / 2 ^ (2 * k)) = d2 at *
      have hwk : IntKind.i64.wrap (2 * (k : Int)) = 2 * (k : Int) := by rw [IntKind.wrap_i64]; omega
      have hel := E.lo
      have hrh := R.hi
      have Ec0 := E.c0
      have Ef0 := E.f0
      have Ec1 := E.c1
      have Ef1 := E.f1
      go_wp2_with fail
      have bd := (Below.refl wr.heap.size wr).drew
      replace sc := sc.below bd sc.lt
      replace sd := sd.below bd sd.lt
      replace E := E.below bd (Nat.le_refl _)
      replace R := R.below bd (Nat.le_refl _)
      replace B := B.trans (bd.mono B.size)
      clear bd
      have Ed0 := E.c0
      have Ee0 := E.f0
      have Ed1 := E.c1
      have Ee1 := E.f1
      go_region_with (first
              | (go_at_call 59; have hq := BA; clear hq; refine (kA cA dA _ s1 s2 scA sdA).mono ?_; rintro e wB ⟨cB, dB, rfl, scB, sdB, bB⟩; have EB := EA.below bB (Nat.le_refl _); have RB := RA.below bB (Nat.le_refl _); have BB := BA.trans (bB.mono BA.size); have Eb0 := EB.c0; have Ey0 := EB.f0; have Eb1 := EB.c1; have Ey1 := EB.f1)
              | (go_at_call 56; (try simp only [hwk]); refine (kM _ sc sd).mono ?_; rintro e wA ⟨cA, dA, rfl, scA, sdA, bA⟩; have EA := E.below bA (Nat.le_refl _); have RA := R.below bA (Nat.le_refl _); have BA := B.trans (bA.mono B.size); have s1 := sc.below bA sc.lt; have s2 := sd.below bA sd.lt; have Ea0 := EA.c0; have Ez0 := EA.f0; have Ea1 := EA.c1; have Ez1 := EA.f1))
      all_goals
        have n1 := sg_ne scB EB.c0
        have n2 := sg_ne sdB EB.c0
        have E3 := (EB.set0 (.pointer (some ⟨cB, 0, none⟩))).set1 (.pointer (some ⟨dB, 0, none⟩))
        have sc3 := scB.tn ((tnC wB (eb) 0 (.pointer (some ⟨cB, 0, none⟩))).trans (tnC _ (eb) 1 (.pointer (some ⟨dB, 0, none⟩)))) (fun h => n1 (by simpa using h))
        have sd3 := sdB.tn ((tnC wB (eb) 0 (.pointer (some ⟨cB, 0, none⟩))).trans (tnC _ (eb) 1 (.pointer (some ⟨dB, 0, none⟩)))) (fun h => n2 (by simpa using h))
        have R3 := RB.tn ((tnC wB (eb) 0 (.pointer (some ⟨cB, 0, none⟩))).trans (tnC _ (eb) 1 (.pointer (some ⟨dB, 0, none⟩)))) (fun k hk hs => by simp at hk hs; omega)
        have B3 := ((BB.setCell (p := ⟨eb, 0, none⟩) (by show w.heap.size ≤ eb; omega) (.pointer (some ⟨cB, 0, none⟩))).setCell (p := ⟨eb, 1, none⟩) (by show w.heap.size ≤ eb; omega) (.pointer (some ⟨dB, 0, none⟩)))
        generalize ((wB.setCell ⟨eb, 0, none⟩ (.pointer (some ⟨cB, 0, none⟩))).setCell ⟨eb, 1, none⟩ (.pointer (some ⟨dB, 0, none⟩))) = wC at *
        clear Ec0 Ec1 Ef0 Ef1 Ed0 Ed1 Ee0 Ee1 Ea0 Ea1 Ez0 Ez1 Eb0 Eb1 Ey0 Ey1 E EA EB sc sd scA sdA scB sdB s1 s2 R RA RB B BA BB n1 n2
        go_wp2
        go_roundw
        case rel => exact ⟨k + 1, _, _, by omega, by go_num, E3, by rw [H1.out]; exact sc3, by rw [H2.out]; exact sd3, R3, B3⟩
        case measure => simp [intOf]; omega
    · obtain rfl : k = n := by omega
      have hlt' : ¬ (k : Int) < (k : Int) := by omega
      have Ec0 := E.c0
      have Rc0 := R.c0
      have Rf0 := R.f0
      have Ec1 := E.c1
      have Rc1 := R.c1
      have Rf1 := R.f1
      have hrh := R.hi
      have hel := E.lo
      have hne : ¬ w.heap.size = eb := by omega
      have hne' : ¬ eb = w.heap.size := by omega
      have n1 := sg_ne sc R.c0
      have n2 := sg_ne sd R.c0
      have HC := sc
      have HD := sd
      have HB := B
      clear sc sd B E R
      go_wp2
      (try simp only [Exit.inBlock, Exit.then])
      refine bodyPost_ret (v := .agg #[.pointer (some ⟨c, 0, none⟩), .pointer (some ⟨d, 0, none⟩)]) ?_ rfl ⟨_, _, rfl, HC.tn ((tnC _ (w.heap.size) 0 (.pointer (some ⟨c, 0, none⟩))).trans (tnC _ (w.heap.size) 1 (.pointer (some ⟨d, 0, none⟩)))) (fun h => n1 (by simpa using h)), HD.tn ((tnC _ (w.heap.size) 0 (.pointer (some ⟨c, 0, none⟩))).trans (tnC _ (w.heap.size) 1 (.pointer (some ⟨d, 0, none⟩)))) (fun h => n2 (by simpa using h)), ((HB.setCell (p := ⟨w.heap.size, 0, none⟩) (by show w.heap.size ≤ w.heap.size; omega) (.pointer (some ⟨c, 0, none⟩))).setCell (p := ⟨w.heap.size, 1, none⟩) (by show w.heap.size ≤ w.heap.size; omega) (.pointer (some ⟨d, 0, none⟩)))⟩
      rw [results_cell1 rfl]
      go_simp

set_option maxRecDepth 20000 in
set_option maxHeartbeats 6400000 in
theorem iGn (n p : Nat) (w : World) (hn : n ≤ 200) (hp : p ≤ 464) :
    Calls Try.prog 25 #[.int .i64 (n : Int), .int .i64 (p : Int)] w (spanE (gnLo p n) (gnHi p n) w) := by
  have kG := fun W => iGsq n (p + 16) W hn (by omega)
  rw [show ((p + 16 : Nat) : Int) = (p : Int) + 16 by omega] at kG
  unfold spanE at kG ⊢
  have gl := gsq_len (p + 16) n (by omega)
  have rl := root_len p n (by omega)
  obtain ⟨X, hX⟩ : ∃ X, (gsq (p + 16) n).1 = X := ⟨_, rfl⟩
  obtain ⟨Y, hY⟩ : ∃ Y, (gsq (p + 16) n).2 = Y := ⟨_, rfl⟩
  have H1 : Hid (gnLo p n = rtLo (X.natAbs * 2 ^ (p + 16)) / 2 ^ 16) := by show _ = _; rw [← hX]; rfl
  have H2 : Hid (gnHi p n = -(-((rtUp (Y.natAbs * 2 ^ (p + 16)) : Nat) : Int) / 2 ^ 16)) := by show _ = _; rw [← hY]; rfl
  rw [hX, hY] at gl rl
  simp only [hX, hY] at kG
  clear hX hY
  have kR := fun c d W h1 h2 => rootedSpan_c c d (p + 16) X Y W h1 h2 (by omega) (by omega) (by omega)
  rw [show ((p + 16 : Nat) : Int) = (p : Int) + 16 by omega] at kR
  unfold spanE at kR
  unfold rtLo at H1 kR
  obtain ⟨q1, hq1⟩ : ∃ q, isqrt (X.natAbs * 2 ^ (p + 16)) = q := ⟨_, rfl⟩
  obtain ⟨q2, hq2⟩ : ∃ q, rtUp (Y.natAbs * 2 ^ (p + 16)) = q := ⟨_, rfl⟩
  rw [hq1] at H1 rl
  rw [hq2] at H2 rl
  simp only [hq1, hq2] at kR
  clear hq1 hq2
  have kM := fun c d W h1 h2 => movedSpan_c c d (q1 : Int) (q2 : Int) ((p : Int) + 16) (p : Int) W h1 h2 (by rw [Int.natAbs_natCast]; omega) (by rw [Int.natAbs_natCast]; omega) (by omega) (by omega)
  rw [show (p : Int) - ((p : Int) + 16) = -((16 : Nat) : Int) by omega, mvLo_down, mvHi_down] at kM
  unfold spanE at kM
  have hpw : IntKind.i64.wrap ((p : Int) + 16) = (p : Int) + 16 := by rw [IntKind.wrap_i64]; omega
  rw [H1.out, H2.out]
  generalize (q1 : Int) / 2 ^ 16 = e1 at *
  generalize -(-(q2 : Int) / 2 ^ 16) = e2 at *
  generalize (q1 : Int) = u1 at *
  generalize (q2 : Int) = u2 at *
  have R := BoxW.made w (.pointer none) (.pointer none) 52
  have B := below1 w (.cells #[.pointer none, .pointer none] 52)
  go_enter Try.func25, Try.ntmps25
  go_wp2_with fail
  (try simp only [hpw])
  refine (kG _).mono ?_
  generalize w.alloc (.cells #[.pointer none, .pointer none] 52) = w0 at *
  rintro e w1 ⟨c1, d1, rfl, sc, sd, b1⟩
  replace R := R.below b1 (Nat.le_refl _)
  replace B := B.trans (b1.mono B.size)
  clear b1
  have E := BoxW.made w1 (.pointer (some ⟨c1, 0, none⟩)) (.pointer (some ⟨d1, 0, none⟩)) 52
  have bE := below1 w1 (.cells #[.pointer (some ⟨c1, 0, none⟩), .pointer (some ⟨d1, 0, none⟩)] 52)
  replace sc := sc.below bE sc.lt
  replace sd := sd.below bE sd.lt
  replace R := R.below bE (Nat.le_refl _)
  replace B := B.trans (bE.mono B.size)
  clear bE
  have Ec0 := E.c0
  have Ec1 := E.c1
  go_wp2_with fail
  (try simp only [hpw])
  refine (kR c1 d1 _ sc sd).mono ?_
  generalize w1.alloc (.cells #[.pointer (some ⟨c1, 0, none⟩), .pointer (some ⟨d1, 0, none⟩)] 52) = w2 at *
  clear Ec0 Ec1 E
  rintro e w3 ⟨c2, d2, rfl, sc2, sd2, b3⟩
  replace R := R.below b3 (Nat.le_refl _)
  replace B := B.trans (b3.mono B.size)
  clear b3
  clear sc sd
  go_wp2_with fail
  (try simp only [hpw])
  refine (kM c2 d2 _ sc2 sd2).mono ?_
  rintro e w4 ⟨c, d, rfl, sc, sd, b4⟩
  replace R := R.below b4 (Nat.le_refl _)
  replace B := B.trans (b4.mono B.size)
  clear b4
  clear sc2 sd2
  have Rc0 := R.c0
  have Rf0 := R.f0
  have Rc1 := R.c1
  have Rf1 := R.f1
  have n1 := sg_ne sc R.c0
  have n2 := sg_ne sd R.c0
  have HC := sc
  have HD := sd
  have HB := B
  clear sc sd B R
  go_wp2
  (try simp only [Exit.inBlock, Exit.then])
  refine bodyPost_ret (v := .agg #[.pointer (some ⟨c, 0, none⟩), .pointer (some ⟨d, 0, none⟩)]) ?_ rfl ⟨_, _, rfl, HC.tn ((tnC _ (w.heap.size) 0 (.pointer (some ⟨c, 0, none⟩))).trans (tnC _ (w.heap.size) 1 (.pointer (some ⟨d, 0, none⟩)))) (fun h => n1 (by simpa using h)), HD.tn ((tnC _ (w.heap.size) 0 (.pointer (some ⟨c, 0, none⟩))).trans (tnC _ (w.heap.size) 1 (.pointer (some ⟨d, 0, none⟩)))) (fun h => n2 (by simpa using h)), ((HB.setCell (p := ⟨w.heap.size, 0, none⟩) (by show w.heap.size ≤ w.heap.size; omega) (.pointer (some ⟨c, 0, none⟩))).setCell (p := ⟨w.heap.size, 1, none⟩) (by show w.heap.size ≤ w.heap.size; omega) (.pointer (some ⟨d, 0, none⟩)))⟩
  rw [results_cell1 rfl]
  go_simp

set_option maxRecDepth 20000 in
set_option maxHeartbeats 6400000 in
theorem iGainSquare (n p : Int) (w : World) :
    Calls Try.prog 9 #[.int .i64 n, .int .i64 p] w fun e w' => ∃ v, e = .returned (.tuple #[v, .bool (gsR n p).2]) ∧ ownsV w' w.heap.size v (gsR n p).1 ∧ Below w.heap.size w w' := by
  have kP := fun W => constAt p W
  have kN := fun W => turnsAt n W
  by_cases hn : 0 ≤ n ∧ n ≤ 200
  case neg =>
    have HN : Hid (gsR n p = (((false, []), (false, [])), false)) := by show _ = _; unfold gsR; rw [if_neg (fun q => hn q.2)]
    rw [decide_eq_false hn] at kN
    generalize gsR n p = rr at *
    clear hn
    have R := BoxV.made w (.bool false) (.slice none 0 0) (.bool false) (.slice none 0 0) 29
    have B := below1 w (.cells #[.bool false, .slice none 0 0, .bool false, .slice none 0 0] 29)
    go_enter Try.func9, Try.ntmps9
    go_wp2_with fail
    refine (kN _).mono ?_
    generalize w.alloc (.cells #[.bool false, .slice none 0 0, .bool false, .slice none 0 0] 29) = w0 at *
    rintro e w1 ⟨rfl, rfl⟩
    have Rc0 := R.c0
    have Rf0 := R.f0
    have Rc1 := R.c1
    have Rf1 := R.f1
    have Rc2 := R.c2
    have Rf2 := R.f2
    have Rc3 := R.c3
    have Rf3 := R.f3
    have HB := B
    clear R B
    go_wp2
    (try simp only [Exit.inBlock, Exit.then])
    refine bodyPost_ret (v := .tuple #[.agg #[.bool false, .slice none 0 0, .bool false, .slice none 0 0], .bool false]) ?_ rfl ⟨_, by rw [HN.out], by rw [HN.out]; exact nilV _ _, ((((HB.setCell (p := ⟨w.heap.size, 0, none⟩) (by show w.heap.size ≤ w.heap.size; omega) (.bool false)).setCell (p := ⟨w.heap.size, 1, none⟩) (by show w.heap.size ≤ w.heap.size; omega) (.slice none 0 0)).setCell (p := ⟨w.heap.size, 2, none⟩) (by show w.heap.size ≤ w.heap.size; omega) (.bool false)).setCell (p := ⟨w.heap.size, 3, none⟩) (by show w.heap.size ≤ w.heap.size; omega) (.slice none 0 0))⟩
    rw [results_cell_tmp rfl]
    go_simp
  rw [decide_eq_true hn] at kN
  by_cases hp : 1 ≤ p ∧ p ≤ 464
  case neg =>
    have HN : Hid (gsR n p = (((false, []), (false, [])), false)) := by show _ = _; unfold gsR; rw [if_neg (fun q => hp q.1)]
    rw [decide_eq_false hp] at kP
    generalize gsR n p = rr at *
    clear hp hn
    have R := BoxV.made w (.bool false) (.slice none 0 0) (.bool false) (.slice none 0 0) 29
    have B := below1 w (.cells #[.bool false, .slice none 0 0, .bool false, .slice none 0 0] 29)
    go_enter Try.func9, Try.ntmps9
    go_wp2_with fail
    refine (kN _).mono ?_
    generalize w.alloc (.cells #[.bool false, .slice none 0 0, .bool false, .slice none 0 0] 29) = w0 at *
    rintro e w1 ⟨rfl, rfl⟩
    go_wp2_with fail
    refine (kP _).mono ?_
    rintro e w2 ⟨rfl, rfl⟩
    have Rc0 := R.c0
    have Rf0 := R.f0
    have Rc1 := R.c1
    have Rf1 := R.f1
    have Rc2 := R.c2
    have Rf2 := R.f2
    have Rc3 := R.c3
    have Rf3 := R.f3
    have HB := B
    clear R B
    go_wp2
    (try simp only [Exit.inBlock, Exit.then])
    refine bodyPost_ret (v := .tuple #[.agg #[.bool false, .slice none 0 0, .bool false, .slice none 0 0], .bool false]) ?_ rfl ⟨_, by rw [HN.out], by rw [HN.out]; exact nilV _ _, ((((HB.setCell (p := ⟨w.heap.size, 0, none⟩) (by show w.heap.size ≤ w.heap.size; omega) (.bool false)).setCell (p := ⟨w.heap.size, 1, none⟩) (by show w.heap.size ≤ w.heap.size; omega) (.slice none 0 0)).setCell (p := ⟨w.heap.size, 2, none⟩) (by show w.heap.size ≤ w.heap.size; omega) (.bool false)).setCell (p := ⟨w.heap.size, 3, none⟩) (by show w.heap.size ≤ w.heap.size; omega) (.slice none 0 0))⟩
    rw [results_cell_tmp rfl]
    go_simp
  have HN : Hid (gsR n p = ((mkW (gsq p.toNat n.toNat).1, mkW (gsq p.toNat n.toNat).2), true)) := by show _ = _; unfold gsR; rw [if_pos ⟨hp, hn⟩]
  rw [decide_eq_true hp] at kP
  have kG := fun W => iGsq n.toNat p.toNat W (by omega) (by omega)
  unfold spanE at kG
  rw [show ((n.toNat : Nat) : Int) = n by omega, show ((p.toNat : Nat) : Int) = p by omega] at kG
  have ln := gsq_len p.toNat n.toNat (by omega)
  have hfv := fitV_all (gsq p.toNat n.toNat).1 (gsq p.toNat n.toNat).2 (by omega) (by omega)
  have kF := fun c d W h1 h2 => ivFrom_c c d (gsq p.toNat n.toNat).1 (gsq p.toNat n.toNat).2 W h1 h2
  rw [hfv] at kF
  generalize gsR n p = rr at *
  generalize mkW (gsq p.toNat n.toNat).1 = e1 at *
  generalize mkW (gsq p.toNat n.toNat).2 = e2 at *
  clear hp hn hfv ln
  have R := BoxV.made w (.bool false) (.slice none 0 0) (.bool false) (.slice none 0 0) 29
  have B := below1 w (.cells #[.bool false, .slice none 0 0, .bool false, .slice none 0 0] 29)
  go_enter Try.func9, Try.ntmps9
  go_wp2_with fail
  refine (kN _).mono ?_
  generalize w.alloc (.cells #[.bool false, .slice none 0 0, .bool false, .slice none 0 0] 29) = w0 at *
  rintro e w1 ⟨rfl, rfl⟩
  go_wp2_with fail
  refine (kP _).mono ?_
  rintro e w2 ⟨rfl, rfl⟩
  go_wp2_with fail
  refine (kG _).mono ?_
  rintro e w3 ⟨c, d, rfl, sc, sd, b3⟩
  replace R := R.below b3 (Nat.le_refl _)
  replace B := B.trans (b3.mono B.size)
  clear b3
  have hR3 := R.hi
  go_wp2_with fail
  refine (kF c d _ sc sd).mono ?_
  rintro e w4 ⟨v4, rfl, o4, b4⟩
  replace R := R.below b4 (Nat.le_refl _)
  replace B := B.trans (b4.mono B.size)
  clear b4
  obtain ⟨g, ad, j, cap, g', ae, j', cap', rfl, oV⟩ := ownsV.opened o4
  have Rc0 := R.c0
  have Rf0 := R.f0
  have Rc1 := R.c1
  have Rf1 := R.f1
  have Rc2 := R.c2
  have Rf2 := R.f2
  have Rc3 := R.c3
  have Rf3 := R.f3
  have HV := oV
  have HB := B
  have hbl := fun k hk => (oV.ltb k hk)
  go_wp2
  (try simp only [Exit.inBlock, Exit.then])
  refine bodyPost_ret (v := .tuple #[.agg #[.bool g, .slice ad j cap, .bool g', .slice ae j' cap'], .bool true]) ?_ rfl ⟨_, by rw [HN.out], ?_, ((((HB.setCell (p := ⟨w.heap.size, 0, none⟩) (by show w.heap.size ≤ w.heap.size; omega) (.bool g)).setCell (p := ⟨w.heap.size, 1, none⟩) (by show w.heap.size ≤ w.heap.size; omega) (.slice ad j cap)).setCell (p := ⟨w.heap.size, 2, none⟩) (by show w.heap.size ≤ w.heap.size; omega) (.bool g')).setCell (p := ⟨w.heap.size, 3, none⟩) (by show w.heap.size ≤ w.heap.size; omega) (.slice ae j' cap'))⟩
  · rw [results_cell_tmp rfl]
    go_simp
  · rw [HN.out]
    exact ownsV_mono (HV.tn ((((tnC _ (w.heap.size) 0 (.bool g)).trans (tnC _ (w.heap.size) 1 (.slice ad j cap))).trans (tnC _ (w.heap.size) 2 (.bool g'))).trans (tnC _ (w.heap.size) 3 (.slice ae j' cap'))) (fun k hk hs => by have := (hbl k hk).1; simp at hs; omega)) (by omega)

set_option maxRecDepth 20000 in
set_option maxHeartbeats 6400000 in
theorem iGain (n p : Int) (w : World) :
    Calls Try.prog 8 #[.int .i64 n, .int .i64 p] w fun e w' => ∃ v, e = .returned (.tuple #[v, .bool (gnR n p).2]) ∧ ownsV w' w.heap.size v (gnR n p).1 ∧ Below w.heap.size w w' := by
  have kP := fun W => constAt p W
  have kN := fun W => turnsAt n W
  by_cases hn : 0 ≤ n ∧ n ≤ 200
  case neg =>
    have HN : Hid (gnR n p = (((false, []), (false, [])), false)) := by show _ = _; unfold gnR; rw [if_neg (fun q => hn q.2)]
    rw [decide_eq_false hn] at kN
    generalize gnR n p = rr at *
    clear hn
    have R := BoxV.made w (.bool false) (.slice none 0 0) (.bool false) (.slice none 0 0) 29
    have B := below1 w (.cells #[.bool false, .slice none 0 0, .bool false, .slice none 0 0] 29)
    go_enter Try.func8, Try.ntmps8
    go_wp2_with fail
    refine (kN _).mono ?_
    generalize w.alloc (.cells #[.bool false, .slice none 0 0, .bool false, .slice none 0 0] 29) = w0 at *
    rintro e w1 ⟨rfl, rfl⟩
    have Rc0 := R.c0
    have Rf0 := R.f0
    have Rc1 := R.c1
    have Rf1 := R.f1
    have Rc2 := R.c2
    have Rf2 := R.f2
    have Rc3 := R.c3
    have Rf3 := R.f3
    have HB := B
    clear R B
    go_wp2
    (try simp only [Exit.inBlock, Exit.then])
    refine bodyPost_ret (v := .tuple #[.agg #[.bool false, .slice none 0 0, .bool false, .slice none 0 0], .bool false]) ?_ rfl ⟨_, by rw [HN.out], by rw [HN.out]; exact nilV _ _, ((((HB.setCell (p := ⟨w.heap.size, 0, none⟩) (by show w.heap.size ≤ w.heap.size; omega) (.bool false)).setCell (p := ⟨w.heap.size, 1, none⟩) (by show w.heap.size ≤ w.heap.size; omega) (.slice none 0 0)).setCell (p := ⟨w.heap.size, 2, none⟩) (by show w.heap.size ≤ w.heap.size; omega) (.bool false)).setCell (p := ⟨w.heap.size, 3, none⟩) (by show w.heap.size ≤ w.heap.size; omega) (.slice none 0 0))⟩
    rw [results_cell_tmp rfl]
    go_simp
  rw [decide_eq_true hn] at kN
  by_cases hp : 1 ≤ p ∧ p ≤ 464
  case neg =>
    have HN : Hid (gnR n p = (((false, []), (false, [])), false)) := by show _ = _; unfold gnR; rw [if_neg (fun q => hp q.1)]
    rw [decide_eq_false hp] at kP
    generalize gnR n p = rr at *
    clear hp hn
    have R := BoxV.made w (.bool false) (.slice none 0 0) (.bool false) (.slice none 0 0) 29
    have B := below1 w (.cells #[.bool false, .slice none 0 0, .bool false, .slice none 0 0] 29)
    go_enter Try.func8, Try.ntmps8
    go_wp2_with fail
    refine (kN _).mono ?_
    generalize w.alloc (.cells #[.bool false, .slice none 0 0, .bool false, .slice none 0 0] 29) = w0 at *
    rintro e w1 ⟨rfl, rfl⟩
    go_wp2_with fail
    refine (kP _).mono ?_
    rintro e w2 ⟨rfl, rfl⟩
    have Rc0 := R.c0
    have Rf0 := R.f0
    have Rc1 := R.c1
    have Rf1 := R.f1
    have Rc2 := R.c2
    have Rf2 := R.f2
    have Rc3 := R.c3
    have Rf3 := R.f3
    have HB := B
    clear R B
    go_wp2
    (try simp only [Exit.inBlock, Exit.then])
    refine bodyPost_ret (v := .tuple #[.agg #[.bool false, .slice none 0 0, .bool false, .slice none 0 0], .bool false]) ?_ rfl ⟨_, by rw [HN.out], by rw [HN.out]; exact nilV _ _, ((((HB.setCell (p := ⟨w.heap.size, 0, none⟩) (by show w.heap.size ≤ w.heap.size; omega) (.bool false)).setCell (p := ⟨w.heap.size, 1, none⟩) (by show w.heap.size ≤ w.heap.size; omega) (.slice none 0 0)).setCell (p := ⟨w.heap.size, 2, none⟩) (by show w.heap.size ≤ w.heap.size; omega) (.bool false)).setCell (p := ⟨w.heap.size, 3, none⟩) (by show w.heap.size ≤ w.heap.size; omega) (.slice none 0 0))⟩
    rw [results_cell_tmp rfl]
    go_simp
  have HN : Hid (gnR n p = ((mkW (gnLo p.toNat n.toNat), mkW (gnHi p.toNat n.toNat)), true)) := by show _ = _; unfold gnR; rw [if_pos ⟨hp, hn⟩]
  rw [decide_eq_true hp] at kP
  have kG := fun W => iGn n.toNat p.toNat W (by omega) (by omega)
  unfold spanE at kG
  rw [show ((n.toNat : Nat) : Int) = n by omega, show ((p.toNat : Nat) : Int) = p by omega] at kG
  have ln := gn_len p.toNat n.toNat (by omega)
  have hfv := fitV_all (gnLo p.toNat n.toNat) (gnHi p.toNat n.toNat) (by omega) (by omega)
  have kF := fun c d W h1 h2 => ivFrom_c c d (gnLo p.toNat n.toNat) (gnHi p.toNat n.toNat) W h1 h2
  rw [hfv] at kF
  generalize gnR n p = rr at *
  generalize mkW (gnLo p.toNat n.toNat) = e1 at *
  generalize mkW (gnHi p.toNat n.toNat) = e2 at *
  clear hp hn hfv ln
  have R := BoxV.made w (.bool false) (.slice none 0 0) (.bool false) (.slice none 0 0) 29
  have B := below1 w (.cells #[.bool false, .slice none 0 0, .bool false, .slice none 0 0] 29)
  go_enter Try.func8, Try.ntmps8
  go_wp2_with fail
  refine (kN _).mono ?_
  generalize w.alloc (.cells #[.bool false, .slice none 0 0, .bool false, .slice none 0 0] 29) = w0 at *
  rintro e w1 ⟨rfl, rfl⟩
  go_wp2_with fail
  refine (kP _).mono ?_
  rintro e w2 ⟨rfl, rfl⟩
  go_wp2_with fail
  refine (kG _).mono ?_
  rintro e w3 ⟨c, d, rfl, sc, sd, b3⟩
  replace R := R.below b3 (Nat.le_refl _)
  replace B := B.trans (b3.mono B.size)
  clear b3
  have hR3 := R.hi
  go_wp2_with fail
  refine (kF c d _ sc sd).mono ?_
  rintro e w4 ⟨v4, rfl, o4, b4⟩
  replace R := R.below b4 (Nat.le_refl _)
  replace B := B.trans (b4.mono B.size)
  clear b4
  obtain ⟨g, ad, j, cap, g', ae, j', cap', rfl, oV⟩ := ownsV.opened o4
  have Rc0 := R.c0
  have Rf0 := R.f0
  have Rc1 := R.c1
  have Rf1 := R.f1
  have Rc2 := R.c2
  have Rf2 := R.f2
  have Rc3 := R.c3
  have Rf3 := R.f3
  have HV := oV
  have HB := B
  have hbl := fun k hk => (oV.ltb k hk)
  go_wp2
  (try simp only [Exit.inBlock, Exit.then])
  refine bodyPost_ret (v := .tuple #[.agg #[.bool g, .slice ad j cap, .bool g', .slice ae j' cap'], .bool true]) ?_ rfl ⟨_, by rw [HN.out], ?_, ((((HB.setCell (p := ⟨w.heap.size, 0, none⟩) (by show w.heap.size ≤ w.heap.size; omega) (.bool g)).setCell (p := ⟨w.heap.size, 1, none⟩) (by show w.heap.size ≤ w.heap.size; omega) (.slice ad j cap)).setCell (p := ⟨w.heap.size, 2, none⟩) (by show w.heap.size ≤ w.heap.size; omega) (.bool g')).setCell (p := ⟨w.heap.size, 3, none⟩) (by show w.heap.size ≤ w.heap.size; omega) (.slice ae j' cap'))⟩
  · rw [results_cell_tmp rfl]
    go_simp
  · rw [HN.out]
    exact ownsV_mono (HV.tn ((((tnC _ (w.heap.size) 0 (.bool g)).trans (tnC _ (w.heap.size) 1 (.slice ad j cap))).trans (tnC _ (w.heap.size) 2 (.bool g'))).trans (tnC _ (w.heap.size) 3 (.slice ae j' cap'))) (fun k hk hs => by have := (hbl k hk).1; simp at hs; omega)) (by omega)

end Go.Proofs.Ytlpfjpbnedankaa
