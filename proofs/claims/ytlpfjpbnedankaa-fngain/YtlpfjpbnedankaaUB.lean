/- Several small texts in one: SUp, SDown, STimes, SRoot. -/
import Derived.Test.YtlpfjpbnedankaaSB
import Derived.Laws.MakeOwn
import Derived.Deep.RegionLaw
import Derived.Test.YtlpfjpbnedankaaBase
import Derived.Test.YtlpfjpbnedankaaNB
/- The specification's l2Up and NatShl, by their contracts. -/
namespace Go.Proofs.Ytlpfjpbnedankaa
open Go.RowKit

theorem up_step (i : Nat) (c x f A xk : Int) (ys : List Int) (hi : ys.length = i) (h : lval ys + 16777216 ^ i * c = f * A) (hx : x = xk * f + c) :
    lval (ys ++ [x % 16777216]) + 16777216 ^ (i + 1) * (x / 16777216) = f * (A + 16777216 ^ i * xk) := by
  rw [lval_snoc, hi, Int.pow_succ]
  have e : x = 16777216 * (x / 16777216) + x % 16777216 := by omega
  have e3 : (16777216 : Int) ^ i * x = 16777216 ^ i * 16777216 * (x / 16777216) + 16777216 ^ i * (x % 16777216) := by
    conv => lhs; rw [e]
    rw [Int.mul_add, ← Int.mul_assoc]
  have e2 : (16777216 : Int) ^ i * x = 16777216 ^ i * (xk * f) + 16777216 ^ i * c := by rw [hx, Int.mul_add]
  have e4 : f * (A + 16777216 ^ i * xk) = f * A + 16777216 ^ i * (xk * f) := by
    rw [Int.mul_add, Int.mul_comm xk f, ← Int.mul_assoc, ← Int.mul_assoc, Int.mul_comm f (16777216 ^ i)]
  omega

theorem mul_bd {d f : Int} (d0 : 0 ≤ d) (d1 : d < 16777216) (f0 : 0 < f) (_f1 : f ≤ 8388608) : 0 ≤ d * f ∧ d * f ≤ 16777215 * f := 
  ⟨Int.mul_nonneg d0 (by omega), Int.mul_le_mul_of_nonneg_right (by omega) (by omega)⟩

theorem pow24 (k : Nat) : (16777216 : Int) ^ (k / 24) * 2 ^ (k % 24) = 2 ^ k := by
  have e : (16777216 : Int) = 2 ^ 24 := by decide
  rw [e, ← Int.pow_mul, ← Int.pow_add]
  congr 1
  omega

set_option maxHeartbeats 1600000 in
/-- l2Up: the number times 2^k. -/
theorem sUp (v : Value) (xs : List Int) (k : Nat) (w : World) (h : rowI w v xs) (hr : inR xs) (hl : xs.length ≤ 1048576) (hk : k ≤ 16777216) :
    Calls Try.prog 84 #[v, .int .i64 k] w fun e w' => ∃ v', e = .returned v' ∧ ownsI w' w.heap.size v' (limbs (num xs * 2 ^ k)) ∧ Below w.heap.size w w' := by
  obtain ⟨a, cap, rfl, -⟩ := id h
  obtain ⟨i0, hi, hz0, hz1, hz2⟩ := info_parts Try.info3
  obtain ⟨w1, hmk, hown1, hg1⟩ := run_make_full (P := Try.prog) w w.heap.size 25 3 i0 (.int .i64 0) 1 Try.underlying25 hi hz0 hz1 .i64 .i64 (k / 24) (by rw [hz2]; omega) (by unfold maxLen; omega) (Nat.le_refl _)
  have ec : ((k / 24 : Nat) : Int) = (k : Int) / 24 := by omega
  rw [ec] at hmk
  have hb1 : Below w.heap.size w w1 := (Below.refl _ _).grown hg1 (Nat.le_refl _) (fun k hk => by cases hk)
  have hz : (madeCells (Value.int .i64 0).cells (k / 24 * 1)).toList = (List.replicate (k / 24) (0 : Int)).map (Value.int .i64) := by
    rw [Nat.mul_one]
    have := toList_madeCells_one (Value.int .i64 0) (k / 24)
    rw [List.map_replicate]
    exact this
  have ho1 : ownsI w1 w.heap.size (.slice (some ⟨w.heap.size, 0, none⟩) (k / 24) (k / 24)) (List.replicate (k / 24) 0) := by
    rw [hz] at hown1
    unfold ownsI
    rw [List.length_replicate]
    exact hown1
  have hf0 := two_pow_pos (k % 24)
  have hf1 : (2 : Int) ^ (k % 24) ≤ 8388608 := two_pow_le (show k % 24 ≤ 23 by omega)
  have hm24 : ((k % 24 : Nat) : Int) = (k : Int) % 24 := by omega
  have kp := sPow (k % 24) w1 (by omega)
  rw [hm24] at kp
  have hpw := pow24 k
  obtain ⟨f, hf⟩ : ∃ f, (2 : Int) ^ (k % 24) = f := ⟨_, rfl⟩
  rw [hf] at hf0 hf1 kp hpw
  have HPW : Hid ((16777216 : Int) ^ (k / 24) * f = 2 ^ k) := hpw
  have hrow1 := h.below hb1 (Nat.le_refl _)
  clear hown1 hg1 hi hz0 hz1 hz2 hf hm24 hpw hz ec
  go_enter Try.func84, Try.ntmps84
  go_wp2_with (go_at_call 105; refine kp.mono ?_; rintro e w1 ⟨rfl, rfl⟩)
  go_loopw [5, 7, 8, 9] (fun v c i x wr => ∃ (j : Nat) (cc : Int) (ys : List Int), j ≤ xs.length + 1 ∧ i = .int .i64 j ∧ c = .int .i64 cc ∧ 0 ≤ cc ∧ cc < f ∧ (xs.length < j → cc = 0) ∧ ys.length = j ∧ inR ys ∧ Hid (lval ys + 16777216 ^ j * cc = f * lval (xs.take j)) ∧ ownsI wr w.heap.size v (List.replicate (k / 24) 0 ++ ys) ∧ Below w.heap.size w wr) (fun _ _ i _ _ => xs.length + 1 - (intOf i).toNat)
  case atStart => exact ⟨0, 0, [], by omega, rfl, rfl, by omega, hf0, fun _ => rfl, rfl, inR_nil, by show _ = _; simp [lval], by rw [List.append_nil]; exact ho1, hb1⟩
  case round =>
    obtain ⟨j, cc, ys, hj, rfl, rfl, c0, c1, cz, hol, hoR, HL, hown, hbw⟩ := hrel
    have hsz := hbw.size
    by_cases hlt : j ≤ xs.length
    · have hlt' : (j : Int) ≤ (xs.length : Int) := by omega
      have kl := sLimb _ xs j wr (h.below hbw (Nat.le_refl _))
      have gx := inR_getD hr j
      have HT : Hid (lval (xs.take (j + 1)) = lval (xs.take j) + 16777216 ^ j * xs.getD j 0) := lval_take_succ xs j
      have hxz : xs.length ≤ j → xs.getD j 0 = 0 := fun h => by rw [List.getD_eq_getElem?_getD, List.getElem?_eq_none (by omega)]; rfl
      obtain ⟨xk, hxk⟩ : ∃ xk, xs.getD j 0 = xk := ⟨_, rfl⟩
      rw [hxk] at kl gx HT hxz
      obtain ⟨m0, m1⟩ := mul_bd gx.1 gx.2 hf0 hf1
      have HZ : Hid (xs.length ≤ j → xk = 0) := hxz
      have hlo : (List.replicate (k / 24) (0 : Int) ++ ys).length ≤ 1099511627776 := by rw [List.length_append, List.length_replicate]; omega
      clear hxk hxz gx
      go_wp2_with fail
      refine kl.mono ?_
      rintro e wr ⟨rfl, rfl⟩
      go_wp2_with (at_builtin; refine wpI_app w wr rfl (.tmp 29) (.tmp 32) rfl w.heap.size _ _ _ rfl hown hbw rfl hlo hsz ?_; intro v1 w2 o1 b1)
      go_roundw
      case rel =>
        refine ⟨j + 1, (xk * f + cc) / 16777216, ys ++ [(xk * f + cc) % 16777216], by omega, by go_num, rfl, by omega, by omega, fun h => ?_, by rw [List.length_append, List.length_singleton, hol], inR_append.2 ⟨hoR, inR_cons.2 ⟨by omega, inR_nil⟩⟩, ?_, by rw [← List.append_assoc]; exact o1, b1⟩
        · have z1 := HZ.out (by omega)
          rw [z1, Int.zero_mul]
          omega
        · show _ = _
          rw [HT.out]
          exact up_step j cc _ f _ xk ys hol HL.out rfl
      case measure => simp [intOf]; omega
    · have hlt' : ¬ (j : Int) ≤ (xs.length : Int) := by omega
      have hcz := cz (by omega)
      have hoR' : inR (List.replicate (k / 24) 0 ++ ys) := inR_append.2 ⟨fun x hx => by rw [List.eq_of_mem_replicate hx]; omega, hoR⟩
      have hnum : num (List.replicate (k / 24) 0 ++ ys) = num xs * 2 ^ k := by
        have h1 := num_val hoR'
        have h2 := num_val hr
        have h3 := HL.out
        rw [hcz, Int.mul_zero, Int.add_zero, List.take_of_length_le (by omega)] at h3
        rw [lval_append, lval_zeros, List.length_replicate, Int.zero_add, h3, ← Int.mul_assoc, HPW.out, ← h2] at h1
        have e : ((num xs * 2 ^ k : Nat) : Int) = 2 ^ k * (num xs : Int) := by simp [Int.mul_comm]
        omega
      have hrow := hown.row
      have hlo : (List.replicate (k / 24) (0 : Int) ++ ys).length ≤ 1073741824 := by rw [List.length_append, List.length_replicate]; omega
      have kt := sTrim _ _ wr hrow hoR' hlo
      rw [hnum] at kt
      clear HL hcz hnum hoR' hrow
      go_wp2_with fail
      refine kt.mono ?_
      rintro e w2 ⟨v1, rfl, o1, b1⟩
      go_wp2
      go_ret
      exact ⟨_, rfl, ownsI_mono o1 hsz, hbw.trans (b1.mono hsz)⟩

end Go.Proofs.Ytlpfjpbnedankaa

/- The specification's l2Down and NatShr, by their contracts. -/
namespace Go.Proofs.Ytlpfjpbnedankaa
open Go.RowKit

/-- 'append(row of the call's own, number)' as one step of a region that draws its order. -/
theorem stepI_app (w0 w : World) {ops : Array Oper} {o : Oper} {a : Act} {K : Act → World → Prop} {Q : Exit → Act → World → Prop} {E : Prop} (hgd : o.guard = none) (s x : Operand)
    (ho : o.op = Op.call { callee := Callee.builtin Builtin.append, args := #[s, x], argTypes := #[25, 25] }) (base : Nat) (v : Value) (xs : List Int) (y : Int)
    (hs : a.eval s = v) (hown : ownsI w base v xs) (hb : Below base w0 w) (hx : a.eval x = .slice (some ⟨w.heap.size, 0, none⟩) 1 1) (hlen : xs.length ≤ 1099511627776) (hbase : base ≤ w.heap.size)
    (h : ∀ v' w', ownsI w' base v' (xs ++ [y]) → Below base w0 w' → K (a.put o.dst v') w') :
    if Region.wanted o (yielded ops a.tmps) = true then Oper.wp Try.prog o a (w.alloc (.cells #[.int .i64 y] 3)) K Q else E := by
  have hw : Region.wanted o (yielded ops a.tmps) = true := by simp [Region.wanted, hgd]
  rw [if_pos hw]
  obtain ⟨i0, hi, hz0, hz1, hz2⟩ := info_parts Try.info3
  refine wp_append_own _ s x 25 ho base 3 i0 (.int .i64 0) 1 8 Try.underlying25 hi hz0 hz1 hz2 rfl (by decide) v xs.length (xs.map (Value.int .i64)) hs (World.ownsRow.alloc hown _) ⟨w.heap.size, 0, none⟩ 1 1 [.int .i64 y] hx rfl ?_ ?_ ?_ ?_ ?_ ?_
  · intro j u hj
    match j, hj with
    | 0, hj => simp at hj; subst hj; simp [Addr.add]
  · intro u hu; simp at hu; subst hu; rfl
  · unfold maxLen; omega
  · omega
  · simp; omega
  · intro v' w' ho' hg _
    refine h v' w' ?_ ((hb.alloc hbase _).grown hg (by simp; omega) fun k hk => (World.ownsRow.lt hown k hk).1)
    unfold ownsI
    simpa using ho'

theorem down_bd {d e f g : Int} (d0 : 0 ≤ d) (d1 : d < 16777216) (f0 : 0 < f) (g0 : 0 < g) (hfg : f * g = 16777216) : 0 ≤ d / f ∧ d / f < g ∧ 0 ≤ e % f * g ∧ e % f * g ≤ 16777216 - g := by
  have h1 : d / f < g := Int.ediv_lt_of_lt_mul f0 (by rw [Int.mul_comm]; omega)
  have h2 := Int.emod_nonneg e (Int.ne_of_gt f0)
  have h3 := Int.emod_lt_of_pos e f0
  have h4 : e % f * g ≤ (f - 1) * g := Int.mul_le_mul_of_nonneg_right (by omega) (by omega)
  rw [Int.sub_mul, hfg, Int.one_mul] at h4
  exact ⟨Int.ediv_nonneg d0 (by omega), h1, Int.mul_nonneg h2 (by omega), h4⟩

theorem down_step (s i : Nat) (hi : s ≤ i) (f g xi xj A T : Int) (zs : List Int) (hl : zs.length = i - s) (hfg : f * g = 16777216)
    (h : 16777216 ^ s * (f * lval zs) + T = A + 16777216 ^ i * (xi % f)) :
    16777216 ^ s * (f * lval (zs ++ [xi / f + xj % f * g])) + T = (A + 16777216 ^ i * xi) + 16777216 ^ (i + 1) * (xj % f) := by
  rw [lval_snoc, hl, Int.pow_succ]
  have e1 : (16777216 : Int) ^ i = 16777216 ^ s * 16777216 ^ (i - s) := by rw [← Int.pow_add]; congr 1; omega
  have e2 : xi = f * (xi / f) + xi % f := by have := Int.mul_ediv_add_emod xi f; omega
  obtain ⟨P, hP⟩ : ∃ P, (16777216 : Int) ^ s = P := ⟨_, rfl⟩
  obtain ⟨R, hR⟩ : ∃ R, (16777216 : Int) ^ (i - s) = R := ⟨_, rfl⟩
  obtain ⟨q, hq⟩ : ∃ q, xi / f = q := ⟨_, rfl⟩
  obtain ⟨r, hr⟩ : ∃ r, xi % f = r := ⟨_, rfl⟩
  obtain ⟨t, ht⟩ : ∃ t, xj % f = t := ⟨_, rfl⟩
  obtain ⟨Z, hZ⟩ : ∃ Z, lval zs = Z := ⟨_, rfl⟩
  rw [hq, hr] at e2
  rw [e1, hP, hR, hr, hZ] at h
  rw [e1, hP, hR, hq, ht, hZ]
  subst e2
  have e3 : f * (Z + R * (q + t * g)) = f * Z + R * (f * q) + R * t * (f * g) := by grind
  rw [e3, hfg]
  grind

theorem down_fin {V P f Z r t : Int} (h : P * (f * Z) + (t + P * r) = V) (hP : 0 < P) (hf : 0 < f) (t0 : 0 ≤ t) (t1 : t < P) (r0 : 0 ≤ r) (r1 : r < f) : V / (P * f) = Z := by
  have h1 : P * (r + 1) ≤ P * f := Int.mul_le_mul_of_nonneg_left (by omega) (by omega)
  have h2 : 0 ≤ P * r := Int.mul_nonneg (by omega) r0
  rw [Int.mul_add, Int.mul_one] at h1
  have h3 : V = (t + P * r) + (P * f) * Z := by rw [Int.mul_assoc]; omega
  rw [h3, Int.add_mul_ediv_left _ _ (by have := Int.mul_pos hP hf; omega), Int.ediv_eq_zero_of_lt (by omega) (by omega)]
  omega

end Go.Proofs.Ytlpfjpbnedankaa

/- The specification's l2Times and NatMul, by their contracts. -/
namespace Go.Proofs.Ytlpfjpbnedankaa
open Go.RowKit

set_option maxHeartbeats 3200000 in
/-- l2Times: the product. -/
theorem sTimes (va vb : Value) (xs ys : List Int) (w : World) (ha : rowI w va xs) (hb : rowI w vb ys) (hxr : inR xs) (hyr : inR ys) (hlx : xs.length ≤ 1048576) (hly : ys.length ≤ 1048576) :
    Calls Try.prog 85 #[va, vb] w fun e w' => ∃ v', e = .returned v' ∧ ownsI w' w.heap.size v' (limbs (num xs * num ys)) ∧ Below w.heap.size w w' := by
  obtain ⟨a1, cap1, rfl, -⟩ := id ha
  obtain ⟨a2, cap2, rfl, -⟩ := id hb
  obtain ⟨i0, hi, hz0, hz1, hz2⟩ := info_parts Try.info3
  obtain ⟨N, hN⟩ : ∃ N, xs.length + ys.length + 1 = N := ⟨_, rfl⟩
  obtain ⟨w1, hmk, hown1, hg1⟩ := run_make_full (P := Try.prog) w w.heap.size 25 3 i0 (.int .i64 0) 1 Try.underlying25 hi hz0 hz1 .i64 .i64 N (by rw [hz2]; omega) (by unfold maxLen; omega) (Nat.le_refl _)
  have ec : (N : Int) = (xs.length : Int) + (ys.length : Int) + 1 := by omega
  rw [ec] at hmk
  have hb1 : Below w.heap.size w w1 := (Below.refl _ _).grown hg1 (Nat.le_refl _) (fun k hk => by cases hk)
  have hz : (madeCells (Value.int .i64 0).cells (N * 1)).toList = (List.replicate N (0 : Int)).map (Value.int .i64) := by
    rw [Nat.mul_one]
    have := toList_madeCells_one (Value.int .i64 0) N
    rw [List.map_replicate]
    exact this
  rw [hz] at hown1
  clear hg1 hi hz0 hz1 hz2 hz ec
  go_enter Try.func85, Try.ntmps85
  go_wp2
  go_loopw [6] (fun i wr => ∃ (n : Nat) (zs : List Int), n ≤ xs.length ∧ i = .int .i64 n ∧ zs.length = N ∧ inR zs ∧ (∀ m, n + ys.length ≤ m → zs.getD m 0 = 0) ∧ Hid (lval zs = lval (xs.take n) * lval ys) ∧ wr.ownsRow w.heap.size 3 1 (.slice (some ⟨w.heap.size, 0, none⟩) N N) N (zs.map (Value.int .i64)) ∧ Below w.heap.size w wr) (fun i _ => xs.length - (intOf i).toNat)
  case atStart => exact ⟨0, List.replicate N 0, by omega, rfl, List.length_replicate, fun x hx => by rw [List.eq_of_mem_replicate hx]; omega, fun m _ => by simp [List.getD_eq_getElem?_getD, List.getElem?_replicate]; split <;> rfl, by show _ = _; rw [lval_zeros]; simp [lval], hown1, hb1⟩
  case round =>
    obtain ⟨n, zs, hn, rfl, hzl, hzR, hzz, HL, hown, hbw⟩ := hrel
    by_cases hlt : n < xs.length
    · have hlt' : (n : Int) < (xs.length : Int) := by omega
      have gx := inR_getD hxr n
      have HT : Hid (lval (xs.take (n + 1)) = lval (xs.take n) + 16777216 ^ n * xs.getD n 0) := lval_take_succ xs n
      obtain ⟨xi, hxi⟩ : ∃ xi, xs.getD n 0 = xi := ⟨_, rfl⟩
      rw [hxi] at gx HT
      obtain ⟨gx0, gx1⟩ := gx
      go_wp2
      go_loopw [7, 8] (fun c j wr => ∃ (m : Nat) (cc : Int) (zs : List Int), m ≤ ys.length ∧ j = .int .i64 m ∧ c = .int .i64 cc ∧ 0 ≤ cc ∧ cc < 16777216 ∧ zs.length = N ∧ inR zs ∧ (∀ q, n + ys.length ≤ q → zs.getD q 0 = 0) ∧ Hid (lval zs + 16777216 ^ (n + m) * cc = lval (xs.take n) * lval ys + 16777216 ^ n * (xi * lval (ys.take m))) ∧ wr.ownsRow w.heap.size 3 1 (.slice (some ⟨w.heap.size, 0, none⟩) N N) N (zs.map (Value.int .i64)) ∧ Below w.heap.size w wr) (fun _ j _ => ys.length - (intOf j).toNat)
      case atStart => exact ⟨0, 0, zs, by omega, rfl, rfl, by omega, by omega, hzl, hzR, hzz, by show _ = _; rw [HL.out]; simp [lval], hown, hbw⟩
      case round =>
        clear hown hbw hzz hzR hzl HL
        obtain ⟨m, cc, zs, hm, rfl, rfl, c0, c1, hzl, hzR, hzz, HL, hown, hbw⟩ := hrel
        have hsz := hbw.size
        by_cases hlm : m < ys.length
        · have hlm' : (m : Int) < (ys.length : Int) := by omega
          obtain ⟨b1, o1, rfl, ca⟩ := (ha.below hbw (Nat.le_refl _)).at n hlt
          obtain ⟨b2, o2, rfl, cb⟩ := (hb.below hbw (Nat.le_refl _)).at m hlm
          have cz := cellsI_of hown hzl (n + m) (by omega)
          have fz := hown.frozenAt (n + m)
          have gy := inR_getD hyr m
          have gz := inR_getD hzR (n + m)
          have HTy : Hid (lval (ys.take (m + 1)) = lval (ys.take m) + 16777216 ^ m * ys.getD m 0) := lval_take_succ ys m
          obtain ⟨yj, hyj⟩ : ∃ yj, ys.getD m 0 = yj := ⟨_, rfl⟩
          obtain ⟨z, hz⟩ : ∃ z, zs.getD (n + m) 0 = z := ⟨_, rfl⟩
          rw [hyj] at gy cb HTy
          rw [hxi] at ca
          rw [hz] at gz cz
          obtain ⟨gy0, gy1⟩ := gy
          obtain ⟨gz0, gz1⟩ := gz
          obtain ⟨p0, p1⟩ := mul_lim gx0 gx1 gy0 gy1
          have HZ : Hid (zs.getD (n + m) 0 = z) := hz
          have HS := fun nq => (show (wr.drewN nq).ownsRow w.heap.size 3 1 (.slice (some ⟨w.heap.size, 0, none⟩) N N) N (zs.map (Value.int .i64)) from hown).stored (n + m) (.int .i64 ((z + xi * yj + cc) % 16777216))
          have HB : Hid (Below w.heap.size w wr) := hbw
          clear hown hbw hz hyj
          go_wp2
          go_quiet (fail)
          have hs := HS nq
          clear HS
          go_wp2
          go_roundw
          case rel =>
            refine ⟨m + 1, (z + xi * yj + cc) / 16777216, zs.set (n + m) ((z + xi * yj + cc) % 16777216), by omega, by go_num, rfl, by omega, by omega, by rw [List.length_set, hzl], inR_set hzR _ (by omega) (by omega), fun q hq => by rw [getD_set_ne _ _ _ _ (by omega)]; exact hzz q hq, ?_, by rw [List.map_set]; exact hs.1, ?_⟩
            · show _ = _
              rw [HTy.out]
              exact times_step n m cc _ z xi yj _ _ zs (by omega) HZ.out HL.out rfl
            · have hbq : Below w.heap.size w (wr.drewN nq) := Below.trans HB.out ⟨rfl, rfl, rfl, Nat.le_refl _, fun _ _ => rfl⟩
              exact Below.setCell (p := ⟨w.heap.size, n + m, none⟩) hbq (Nat.le_refl _) _
          case measure => simp [intOf]; omega
        · have hlm' : (ys.length : Int) ≤ (m : Int) := by omega
          have hme : m = ys.length := by omega
          subst hme
          have cz := cellsI_of hown hzl (n + ys.length) (by omega)
          rw [hzz _ (Nat.le_refl _)] at cz
          have fz := hown.frozenAt (n + ys.length)
          have hs := hown.stored (n + ys.length) (.int .i64 cc)
          have HB : Hid (Below w.heap.size w wr) := hbw
          clear hown hbw
          go_wp2
          go_roundw
          case rel =>
            refine ⟨n + 1, zs.set (n + ys.length) cc, by omega, by go_num, by rw [List.length_set, hzl], inR_set hzR _ c0 c1, fun q hq => by rw [getD_set_ne _ _ _ _ (by omega)]; exact hzz q (by omega), ?_, by rw [List.map_set]; exact hs.1, ?_⟩
            · show _ = _
              rw [lval_set _ _ _ (by omega), hzz _ (Nat.le_refl _), HT.out, Int.add_mul]
              have h3 := HL.out
              rw [List.take_length] at h3
              rw [Int.sub_zero, h3, Int.mul_assoc]
            · exact Below.setCell HB.out (Nat.le_refl _) _
          case measure => simp [intOf]; omega
    · have hlt' : (xs.length : Int) ≤ (n : Int) := by omega
      have hsz := hbw.size
      have hnum : num zs = num xs * num ys := by
        have h1 := num_val hzR
        have h2 := num_val hxr
        have h3 := num_val hyr
        have h4 := HL.out
        rw [List.take_of_length_le (by omega), ← h1, ← h2, ← h3] at h4
        exact_mod_cast h4
      have hownI : ownsI wr w.heap.size (.slice (some ⟨w.heap.size, 0, none⟩) N N) zs := by
        unfold ownsI
        rw [hzl]
        exact hown
      have kt := sTrim _ zs wr hownI.row hzR (by omega)
      rw [hnum] at kt
      clear HL hnum hownI hown hzz
      go_wp2_with fail
      refine kt.mono ?_
      rintro e w2 ⟨v1, rfl, o1, b1⟩
      go_wp2
      go_ret
      exact ⟨_, rfl, ownsI_mono o1 hsz, hbw.trans (b1.mono hsz)⟩

end Go.Proofs.Ytlpfjpbnedankaa

/- The specification's l3Root, by its contract. -/
namespace Go.Proofs.Ytlpfjpbnedankaa
open Go.RowKit

end Go.Proofs.Ytlpfjpbnedankaa
