/- The specification's l2Down and NatShr, by their contracts. -/
import Derived.Test.YtlpfjpbnedankaaSUp
import Derived.Deep.RegionLaw
namespace Go.Proofs.Ytlpfjpbnedankaa
open Go.RowKit

/-- 'append(row of the call's own, number)' as one step of a region that draws its order. -/
theorem stepI_app (w0 w : World) {ops : Array Oper} {o : Oper} {a : Act} {K : Act → World → Prop} {Q : Exit → Act → World → Prop} {E : Prop} (hgd : o.guard = none) (s x : Operand)
    (ho : o.op = Op.call { callee := Callee.builtin Builtin.append, args := #[s, x], argTypes := #[25, 25] }) (base : Nat) (v : Value) (xs : List Int) (y : Int)
    (hs : a.eval s = v) (hown : ownsI w base v xs) (hb : Below base w0 w) (hx : a.eval x = .slice (some ⟨w.heap.size, 0, none⟩) 1 1) (hlen : xs.length ≤ 1099511627776) (hbase : base ≤ w.heap.size)
    (h : ∀ v' w', ownsI w' base v' (xs ++ [y]) → Below base w0 w' → K (a.put o.dst v') w') :
    if Region.wanted o (yielded ops a.tmps) = true then Oper.wp Try.prog o a (w.alloc (.cells #[.int .i64 y] 3)) K Q else E := by
  have hw : Region.wanted o (yielded ops a.tmps) = true := by simp [Region.wanted, hgd]
  rw [if_pos hw]
  obtain ⟨i0, hi, hz0, hz1, hz2⟩ := info_parts Try.info3
  refine wp_append_own _ s x 25 ho base 3 i0 (.int .i64 0) 1 8 Try.underlying25 hi hz0 hz1 hz2 rfl (by decide) v xs.length (xs.map (Value.int .i64)) hs (World.ownsRow.alloc hown _) ⟨w.heap.size, 0, none⟩ 1 1 [.int .i64 y] hx rfl ?_ ?_ ?_ ?_ ?_ ?_
  · intro j u hj
    match j, hj with
    | 0, hj => simp at hj; subst hj; simp [Addr.add]
  · intro u hu; simp at hu; subst hu; rfl
  · unfold maxLen; omega
  · omega
  · simp; omega
  · intro v' w' ho' hg _
    refine h v' w' ?_ ((hb.alloc hbase _).grown hg (by simp; omega) fun k hk => (World.ownsRow.lt hown k hk).1)
    unfold ownsI
    simpa using ho'

theorem down_bd {d e f g : Int} (d0 : 0 ≤ d) (d1 : d < 16777216) (f0 : 0 < f) (g0 : 0 < g) (hfg : f * g = 16777216) : 0 ≤ d / f ∧ d / f < g ∧ 0 ≤ e % f * g ∧ e % f * g ≤ 16777216 - g := by
  have h1 : d / f < g := Int.ediv_lt_of_lt_mul f0 (by rw [Int.mul_comm]; omega)
  have h2 := Int.emod_nonneg e (Int.ne_of_gt f0)
  have h3 := Int.emod_lt_of_pos e f0
  have h4 : e % f * g ≤ (f - 1) * g := Int.mul_le_mul_of_nonneg_right (by omega) (by omega)
  rw [Int.sub_mul, hfg, Int.one_mul] at h4
  exact ⟨Int.ediv_nonneg d0 (by omega), h1, Int.mul_nonneg h2 (by omega), h4⟩

theorem down_step (s i : Nat) (hi : s ≤ i) (f g xi xj A T : Int) (zs : List Int) (hl : zs.length = i - s) (hfg : f * g = 16777216)
    (h : 16777216 ^ s * (f * lval zs) + T = A + 16777216 ^ i * (xi % f)) :
    16777216 ^ s * (f * lval (zs ++ [xi / f + xj % f * g])) + T = (A + 16777216 ^ i * xi) + 16777216 ^ (i + 1) * (xj % f) := by
  rw [lval_snoc, hl, Int.pow_succ]
  have e1 : (16777216 : Int) ^ i = 16777216 ^ s * 16777216 ^ (i - s) := by rw [← Int.pow_add]; congr 1; omega
  have e2 : xi = f * (xi / f) + xi % f := by have := Int.mul_ediv_add_emod xi f; omega
  obtain ⟨P, hP⟩ : ∃ P, (16777216 : Int) ^ s = P := ⟨_, rfl⟩
  obtain ⟨R, hR⟩ : ∃ R, (16777216 : Int) ^ (i - s) = R := ⟨_, rfl⟩
  obtain ⟨q, hq⟩ : ∃ q, xi / f = q := ⟨_, rfl⟩
  obtain ⟨r, hr⟩ : ∃ r, xi % f = r := ⟨_, rfl⟩
  obtain ⟨t, ht⟩ : ∃ t, xj % f = t := ⟨_, rfl⟩
  obtain ⟨Z, hZ⟩ : ∃ Z, lval zs = Z := ⟨_, rfl⟩
  rw [hq, hr] at e2
  rw [e1, hP, hR, hr, hZ] at h
  rw [e1, hP, hR, hq, ht, hZ]
  subst e2
  have e3 : f * (Z + R * (q + t * g)) = f * Z + R * (f * q) + R * t * (f * g) := by grind
  rw [e3, hfg]
  grind

theorem down_fin {V P f Z r t : Int} (h : P * (f * Z) + (t + P * r) = V) (hP : 0 < P) (hf : 0 < f) (t0 : 0 ≤ t) (t1 : t < P) (r0 : 0 ≤ r) (r1 : r < f) : V / (P * f) = Z := by
  have h1 : P * (r + 1) ≤ P * f := Int.mul_le_mul_of_nonneg_left (by omega) (by omega)
  have h2 : 0 ≤ P * r := Int.mul_nonneg (by omega) r0
  rw [Int.mul_add, Int.mul_one] at h1
  have h3 : V = (t + P * r) + (P * f) * Z := by rw [Int.mul_assoc]; omega
  rw [h3, Int.add_mul_ediv_left _ _ (by have := Int.mul_pos hP hf; omega), Int.ediv_eq_zero_of_lt (by omega) (by omega)]
  omega

end Go.Proofs.Ytlpfjpbnedankaa
