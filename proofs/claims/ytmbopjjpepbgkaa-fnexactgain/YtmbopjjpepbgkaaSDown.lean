/- The specification's l2Down and NatShr, by their contracts. -/
import Derived.Test.YtmbopjjpepbgkaaSB
import Derived.Deep.RegionLaw
namespace Go.Proofs.Ytmbopjjpepbgkaa
open Go.RowKit

/-- 'append(row of the call's own, number)' as one step of a region that draws its order. -/
theorem stepI_app (w0 w : World) {ops : Array Oper} {o : Oper} {a : Act} {K : Act → World → Prop} {Q : Exit → Act → World → Prop} {E : Prop} (hgd : o.guard = none) (s x : Operand)
    (ho : o.op = Op.call { callee := Callee.builtin Builtin.append, args := #[s, x], argTypes := #[22, 22] }) (base : Nat) (v : Value) (xs : List Int) (y : Int)
    (hs : a.eval s = v) (hown : ownsI w base v xs) (hb : Below base w0 w) (hx : a.eval x = .slice (some ⟨w.heap.size, 0, none⟩) 1 1) (hlen : xs.length ≤ 1099511627776) (hbase : base ≤ w.heap.size)
    (h : ∀ v' w', ownsI w' base v' (xs ++ [y]) → Below base w0 w' → K (a.put o.dst v') w') :
    if Region.wanted o (yielded ops a.tmps) = true then Oper.wp Try.prog o a (w.alloc (.cells #[.int .i64 y] 3)) K Q else E := by
  have hw : Region.wanted o (yielded ops a.tmps) = true := by simp [Region.wanted, hgd]
  rw [if_pos hw]
  obtain ⟨i0, hi, hz0, hz1, hz2⟩ := info_parts Try.info3
  refine wp_append_own _ s x 22 ho base 3 i0 (.int .i64 0) 1 8 Try.underlying22 hi hz0 hz1 hz2 rfl (by decide) v xs.length (xs.map (Value.int .i64)) hs (World.ownsRow.alloc hown _) ⟨w.heap.size, 0, none⟩ 1 1 [.int .i64 y] hx rfl ?_ ?_ ?_ ?_ ?_ ?_
  · intro j u hj
    match j, hj with
    | 0, hj => simp at hj; subst hj; simp [Addr.add]
  · intro u hu; simp at hu; subst hu; rfl
  · unfold maxLen; omega
  · omega
  · simp; omega
  · intro v' w' ho' hg _
    refine h v' w' ?_ ((hb.alloc hbase _).grown hg (by simp; omega) fun k hk => (World.ownsRow.lt hown k hk).1)
    unfold ownsI
    simpa using ho'

theorem down_bd {d e f g : Int} (d0 : 0 ≤ d) (d1 : d < 16777216) (f0 : 0 < f) (g0 : 0 < g) (hfg : f * g = 16777216) : 0 ≤ d / f ∧ d / f < g ∧ 0 ≤ e % f * g ∧ e % f * g ≤ 16777216 - g := by
  have h1 : d / f < g := Int.ediv_lt_of_lt_mul f0 (by rw [Int.mul_comm]; omega)
  have h2 := Int.emod_nonneg e (Int.ne_of_gt f0)
  have h3 := Int.emod_lt_of_pos e f0
  have h4 : e % f * g ≤ (f - 1) * g := Int.mul_le_mul_of_nonneg_right (by omega) (by omega)
  rw [Int.sub_mul, hfg, Int.one_mul] at h4
  exact ⟨Int.ediv_nonneg d0 (by omega), h1, Int.mul_nonneg h2 (by omega), h4⟩

theorem down_step (s i : Nat) (hi : s ≤ i) (f g xi xj A T : Int) (zs : List Int) (hl : zs.length = i - s) (hfg : f * g = 16777216)
    (h : 16777216 ^ s * (f * lval zs) + T = A + 16777216 ^ i * (xi % f)) :
    16777216 ^ s * (f * lval (zs ++ [xi / f + xj % f * g])) + T = (A + 16777216 ^ i * xi) + 16777216 ^ (i + 1) * (xj % f) := by
  rw [lval_snoc, hl, Int.pow_succ]
  have e1 : (16777216 : Int) ^ i = 16777216 ^ s * 16777216 ^ (i - s) := by rw [← Int.pow_add]; congr 1; omega
  have e2 : xi = f * (xi / f) + xi % f := by have := Int.mul_ediv_add_emod xi f; omega
  obtain ⟨P, hP⟩ : ∃ P, (16777216 : Int) ^ s = P := ⟨_, rfl⟩
  obtain ⟨R, hR⟩ : ∃ R, (16777216 : Int) ^ (i - s) = R := ⟨_, rfl⟩
  obtain ⟨q, hq⟩ : ∃ q, xi / f = q := ⟨_, rfl⟩
  obtain ⟨r, hr⟩ : ∃ r, xi % f = r := ⟨_, rfl⟩
  obtain ⟨t, ht⟩ : ∃ t, xj % f = t := ⟨_, rfl⟩
  obtain ⟨Z, hZ⟩ : ∃ Z, lval zs = Z := ⟨_, rfl⟩
  rw [hq, hr] at e2
  rw [e1, hP, hR, hr, hZ] at h
  rw [e1, hP, hR, hq, ht, hZ]
  subst e2
  have e3 : f * (Z + R * (q + t * g)) = f * Z + R * (f * q) + R * t * (f * g) := by grind
  rw [e3, hfg]
  grind

theorem down_fin {V P f Z r t : Int} (h : P * (f * Z) + (t + P * r) = V) (hP : 0 < P) (hf : 0 < f) (t0 : 0 ≤ t) (t1 : t < P) (r0 : 0 ≤ r) (r1 : r < f) : V / (P * f) = Z := by
  have h1 : P * (r + 1) ≤ P * f := Int.mul_le_mul_of_nonneg_left (by omega) (by omega)
  have h2 : 0 ≤ P * r := Int.mul_nonneg (by omega) r0
  rw [Int.mul_add, Int.mul_one] at h1
  have h3 : V = (t + P * r) + (P * f) * Z := by rw [Int.mul_assoc]; omega
  rw [h3, Int.add_mul_ediv_left _ _ (by have := Int.mul_pos hP hf; omega), Int.ediv_eq_zero_of_lt (by omega) (by omega)]
  omega

set_option maxRecDepth 40000 in
set_option maxHeartbeats 1600000 in
/-- l2Down: the number by 2^k. -/
theorem sDown (v : Value) (xs : List Int) (k : Nat) (w : World) (h : rowI w v xs) (hr : inR xs) (hl : xs.length ≤ 1048576) (hk : k ≤ 16777216) :
    Calls Try.prog 56 #[v, .int .i64 k] w fun e w' => ∃ v', e = .returned v' ∧ ownsI w' w.heap.size v' (limbs (num xs / 2 ^ k)) ∧ Below w.heap.size w w' := by
  obtain ⟨a, cap, rfl, -⟩ := id h
  have hf0 := two_pow_pos (k % 24)
  have hf1 : (2 : Int) ^ (k % 24) ≤ 8388608 := two_pow_le (show k % 24 ≤ 23 by omega)
  have hm24 : ((k % 24 : Nat) : Int) = (k : Int) % 24 := by omega
  have hs24 : ((k / 24 : Nat) : Int) = (k : Int) / 24 := by omega
  have kp := sPow (k % 24) w (by omega)
  rw [hm24] at kp
  have hpw := pow24 k
  have hg0 := two_pow_pos (24 - k % 24)
  have hfg : (2 : Int) ^ (k % 24) * 2 ^ (24 - k % 24) = 16777216 := by rw [← Int.pow_add, show k % 24 + (24 - k % 24) = 24 by omega]; decide
  obtain ⟨f, hf⟩ : ∃ f, (2 : Int) ^ (k % 24) = f := ⟨_, rfl⟩
  obtain ⟨g, hg⟩ : ∃ g, (2 : Int) ^ (24 - k % 24) = g := ⟨_, rfl⟩
  rw [hf] at hf0 hf1 kp hpw hfg
  rw [hg] at hg0 hfg
  have hq : (16777216 : Int) / f = g := by rw [← hfg, Int.mul_ediv_cancel_left _ (by omega)]
  obtain ⟨s, hs⟩ : ∃ s, k / 24 = s := ⟨_, rfl⟩
  rw [hs] at hpw hs24
  have hs48 : s ≤ 700000 := by omega
  have HPW : Hid ((16777216 : Int) ^ s * f = 2 ^ k) := hpw
  have HFG : Hid (f * g = 16777216) := hfg
  clear hf hg hm24 hpw hfg hs
  have ho := made_own w
  go_enter Try.func56, Try.ntmps56
  go_wp2_with (go_at_call 84; refine kp.mono ?_; rintro e w ⟨rfl, rfl⟩)
  go_loopw [7, 8] (fun v i wr => ∃ (j : Nat) (zs : List Int), s ≤ j ∧ (s < j → j ≤ xs.length) ∧ i = .int .i64 j ∧ zs.length = j - s ∧ inR zs ∧ Hid (16777216 ^ s * (f * lval zs) + (lval (xs.take s) + 16777216 ^ s * (xs.getD s 0 % f)) = lval (xs.take j) + 16777216 ^ j * (xs.getD j 0 % f)) ∧ ownsI wr w.heap.size v zs ∧ Below w.heap.size w wr) (fun _ i _ => xs.length - (intOf i).toNat)
  case atStart => exact ⟨s, [], by omega, fun h => absurd h (by omega), by rw [hs24], by simp, inR_nil, by show _ = _; simp [lval], ho, (Below.refl _ _).alloc (Nat.le_refl _) _⟩
  case round =>
    obtain ⟨j, zs, hj1, hj2, rfl, hzl, hzR, HL, hown, hbw⟩ := hrel
    have hsz := hbw.size
    by_cases hlt : j < xs.length
    · have hrow := h.below hbw (Nat.le_refl _)
      have kl := sLimb _ xs (j + 1) wr.drew hrow
      have gx := inR_getD hr j
      have gy := inR_getD hr (j + 1)
      have HT : Hid (lval (xs.take (j + 1)) = lval (xs.take j) + 16777216 ^ j * xs.getD j 0) := lval_take_succ xs j
      obtain ⟨a', cap', e1, e2, e3, e4, e5, e6⟩ := hrow
      simp only [Value.slice.injEq, true_and] at e1
      obtain ⟨rfl, rfl⟩ := e1
      obtain ⟨bk, off, rfl, hbk, hc⟩ := e6 j hlt
      obtain ⟨xj, hxj⟩ : ∃ xj, xs.getD j 0 = xj := ⟨_, rfl⟩
      obtain ⟨xn, hxn⟩ : ∃ xn, xs.getD (j + 1) 0 = xn := ⟨_, rfl⟩
      rw [hxj] at hc gx HT HL
      rw [hxn] at kl gy
      obtain ⟨q0, q1, q2, q3⟩ := down_bd (e := xn) gx.1 gx.2 hf0 hg0 HFG.out
      have hlo : zs.length ≤ 1099511627776 := by omega
      have hbd : Below w.heap.size w wr.drew := hbw.drew
      have hcd : wr.drew.cell? ⟨bk, off + j, none⟩ = some (.int .i64 xj) := hc
      rw [show (((j + 1 : Nat)) : Int) = (j : Int) + 1 by omega] at kl
      have w1 : IntKind.i64.wrap ((j : Int) + 1) = (j : Int) + 1 := by rw [IntKind.wrap_i64]; omega
      have w2 : IntKind.i64.wrap (xj.tdiv f) = xj / f := by rw [Int.tdiv_eq_ediv_of_nonneg gx.1, IntKind.wrap_i64]; have := Int.ediv_le_self f gx.1; omega
      have r0 := Int.emod_nonneg xn (Int.ne_of_gt hf0)
      have r1 := Int.emod_lt_of_pos xn hf0
      have w7 : xn.tmod f = xn % f := Int.tmod_eq_emod_of_nonneg gy.1
      have hgb : g ≤ 16777216 := by rw [← hq]; exact Int.ediv_le_self f (by omega)
      have w4 : IntKind.i64.wrap ((16777216 : Int).tdiv f) = g := by rw [Int.tdiv_eq_ediv_of_nonneg (by omega), hq, IntKind.wrap_i64]; omega
      have w5 : IntKind.i64.wrap (xn % f * g) = xn % f * g := by rw [IntKind.wrap_i64]; omega
      have w6 : IntKind.i64.wrap (xj / f + xn % f * g) = xj / f + xn % f * g := by rw [IntKind.wrap_i64]; omega
      have hfn : f ≠ 0 := by omega
      clear e6 e4 e5
      go_wp2_with fail
      go_region_law (first
        | (refine stepI_app w wr.drew rfl (.tmp 22) (.tmp 39) rfl w.heap.size _ zs _ rfl hown hbd rfl hlo hsz ?_; intro v1 w2 o1 b1)
        | (go_simp; go_wp2_with (go_at_call 85; refine kl.mono ?_; rintro e w9 ⟨rfl, rfl⟩)))
      all_goals
        go_wp2
        go_roundw
        case rel =>
          refine ⟨j + 1, zs ++ [xj / f + xn % f * g], by omega, fun _ => by omega, by go_num, by rw [List.length_append, List.length_singleton, hzl]; omega, inR_append.2 ⟨hzR, inR_cons.2 ⟨by omega, inR_nil⟩⟩, ?_, o1, b1⟩
          show _ = _
          rw [HT.out, hxn]
          exact down_step s j hj1 f g xj xn _ _ zs hzl HFG.out HL.out
        case measure => simp [intOf]; omega
    · have hlt' : (xs.length : Int) ≤ (j : Int) := by omega
      have hnum : num zs = num xs / 2 ^ k := by
        have h1 := num_val hzR
        have h2 := num_val hr
        have h3 := HL.out
        have ez : xs.getD j 0 = 0 := by rw [List.getD_eq_getElem?_getD, List.getElem?_eq_none (by omega)]; rfl
        rw [ez, Int.zero_emod, Int.mul_zero, Int.add_zero, List.take_of_length_le (show xs.length ≤ j by omega)] at h3
        have h4 := down_fin h3 (pow_pos s) hf0 (lval_nonneg (inR_take hr s)) (lval_take_lt hr s) (Int.emod_nonneg _ (Int.ne_of_gt hf0)) (Int.emod_lt_of_pos _ hf0)
        rw [HPW.out, ← h2, ← h1] at h4
        have e : ((num xs / 2 ^ k : Nat) : Int) = (num xs : Int) / 2 ^ k := by simp
        omega
      have hrow := hown.row
      have hlo : zs.length ≤ 1073741824 := by omega
      have kt := sTrim _ _ wr hrow hzR hlo
      rw [hnum] at kt
      clear HL hnum hrow
      go_wp2_with fail
      refine kt.mono ?_
      rintro e w2 ⟨v1, rfl, o1, b1⟩
      go_wp2
      go_ret
      exact ⟨_, rfl, ownsI_mono o1 hsz, hbw.trans (b1.mono hsz)⟩

end Go.Proofs.Ytmbopjjpepbgkaa
