/- FnGain: the mathematics (no walk). -/
import Derived.Test.YtlpfjpbnedankaaNC
import Derived.Test.YtlpfjpbnedankaaSPB
import Derived.Test.YtlpfjpbnedankaaGQ
import Derived.Test.YtlpfjpbnedankaaMulR
import Derived.Test.YtlpfjpbnedankaaIB
namespace Go.Proofs.Ytlpfjpbnedankaa
open Go.RowKit
set_option linter.unusedSimpArgs false
set_option linter.unusedVariables false

def tri : Nat → Nat
  | 0 => 0
  | n + 1 => tri n + n
def pr : Nat → Nat
  | 0 => 1
  | n + 1 => pr n * (2 ^ n * 2 ^ n) + pr n
def norm2 (a : Ph) : Int := valW a.1.1 * valW a.1.1 + valW a.1.2 * valW a.1.2
def allPm (ds : List Int) : Prop := ∀ d ∈ ds, d = 1 ∨ d = -1
theorem gpr_le : ∀ n, n < 12 → pr n < 2 ^ 150 ∧ tri n ≤ 66 ∧ n ≤ 30 := by decide +kernel
theorem fit_abs {z : Int} {k : Nat} (h : z.natAbs < 2 ^ k) (hk : k < 1152) : (limbs z.natAbs).length ≤ 48 :=
  Nat.le_trans (limbs_mono (Nat.le_of_lt h)) (gpow_len k 48 (by omega))
theorem abs_le_sq (z : Int) : (z.natAbs : Int) ≤ z * z := by
  have e : z * z = ((z.natAbs * z.natAbs : Nat) : Int) := by
    rw [Int.natCast_mul]
    exact (Int.natAbs_mul_self' z).symm
  rw [e]
  have : z.natAbs ≤ z.natAbs * z.natAbs := by
    rcases Nat.eq_zero_or_pos z.natAbs with h | h
    · omega
    · exact Nat.le_mul_of_pos_left _ h
  exact_mod_cast this
theorem gstep_ok {a : Ph} {k : Nat} {d : Int} (ha : okP a = true) (hs : norm2 a = pr k) (ht : a.2 = tri k) (hk : k + 1 < 12) (hd : d = 1 ∨ d = -1) :
    ∃ b, stepR a k d = (b, true) ∧ okP b = true ∧ norm2 b = pr (k + 1) ∧ b.2 = tri (k + 1) := by
  have hb := gpr_le (k + 1) hk
  have hn : stX (valW a.1.1) (valW a.1.2) k d * stX (valW a.1.1) (valW a.1.2) k d + stY (valW a.1.1) (valW a.1.2) k d * stY (valW a.1.1) (valW a.1.2) k d = pr (k + 1) := by
    unfold stX stY
    rw [spun_norm _ _ _ _ (sq_one hd)]
    unfold norm2 at hs
    rw [hs]
    show _ = ((pr k * (2 ^ k * 2 ^ k) + pr k : Nat) : Int)
    push_cast
    rfl
  have q1 := abs_le_sq (stX (valW a.1.1) (valW a.1.2) k d)
  have q2 := abs_le_sq (stY (valW a.1.1) (valW a.1.2) k d)
  have q3 := int_sq (stX (valW a.1.1) (valW a.1.2) k d)
  have q4 := int_sq (stY (valW a.1.1) (valW a.1.2) k d)
  have o1 : okW (mkW (stX (valW a.1.1) (valW a.1.2) k d)) = true := okW_mk (fit_abs (k := 150) (by omega) (by omega))
  have o2 : okW (mkW (stY (valW a.1.1) (valW a.1.2) k d)) = true := okW_mk (fit_abs (k := 150) (by omega) (by omega))
  have e : stepP a k d = ((mkW (stX (valW a.1.1) (valW a.1.2) k d), mkW (stY (valW a.1.1) (valW a.1.2) k d)), a.2 + (k : Int)) := by unfold stepP; rw [Int.toNat_natCast]
  have ht2 : a.2 + (k : Int) = tri (k + 1) := by
    show _ = ((tri k + k : Nat) : Int)
    rw [ht]
    push_cast
    rfl
  have o3 : okP (stepP a k d) = true := by
    rw [e]
    unfold okP
    simp only [o1, o2, Bool.true_and, decide_eq_true_eq]
    rw [ht2]
    omega
  refine ⟨stepP a k d, ?_, o3, ?_, ?_⟩
  · unfold stepR
    rw [if_pos ⟨ha, by omega, hd, o3⟩]
  · rw [e]
    unfold norm2
    simp only [mkW_val]
    exact hn
  · rw [e]
    exact ht2
theorem grun_ok (ds : List Int) : ∀ (k : Nat) (a : Ph), allPm ds → okP a = true → norm2 a = pr k → a.2 = tri k → k + ds.length < 12 →
    ∃ b, runFrom k ds a = some b ∧ okP b = true ∧ norm2 b = pr (k + ds.length) ∧ b.2 = tri (k + ds.length) := by
  induction ds with
  | nil => intro k a _ h1 h2 h3 _; exact ⟨a, rfl, h1, h2, h3⟩
  | cons d ds ih =>
    intro k a hp h1 h2 h3 hk
    have hl : (d :: ds).length = ds.length + 1 := rfl
    obtain ⟨b, e1, e2, e3, e4⟩ := gstep_ok (d := d) h1 h2 h3 (by omega) (hp d (by simp))
    obtain ⟨c, f1, f2, f3, f4⟩ := ih (k + 1) b (fun x hx => hp x (by simp [hx])) e2 e3 e4 (by omega)
    refine ⟨c, ?_, f2, ?_, ?_⟩
    · unfold runFrom
      rw [e1]
      simpa using f1
    · rw [f3, hl]; congr 2; omega
    · rw [f4, hl]; congr 2; omega
def st0 : Ph := ((mkW 1, (false, [])), 0)
theorem mk_one : mkW 1 = (false, [1]) := by decide +kernel
theorem st0_ok : okP st0 = true ∧ norm2 st0 = pr 0 ∧ st0.2 = tri 0 := by
  unfold st0
  rw [mk_one]
  decide +kernel
/-- The steps of the law. -/
theorem gain_run {ds : List Int} {n : Nat} (hp : allPm ds) (hl : ds.length = n) (hn : n < 12) :
    ∃ T, runR st0 ds = (T, true) ∧ lenP T ∧ T.2 = tri n ∧ normR T = mkW (pr n) := by
  obtain ⟨b, h1, h2, h3, h4⟩ := grun_ok ds 0 st0 hp st0_ok.1 st0_ok.2.1 st0_ok.2.2 (by omega)
  rw [Nat.zero_add, hl] at h3 h4
  have ho := okP_yes h2
  refine ⟨b, ?_, ?_, h4, ?_⟩
  · unfold runR
    rw [h1]
  · have m1 := okW_len48 ho.1
    have m2 := okW_len48 ho.2.1
    have e1 : b.1.1.2 = limbs (valW b.1.1).natAbs := congrArg Prod.snd (mkW_of ho.1)
    have e2 : b.1.2.2 = limbs (valW b.1.2).natAbs := congrArg Prod.snd (mkW_of ho.2.1)
    exact ⟨by rw [e1]; omega, by rw [e2]; omega⟩
  · unfold normR
    rw [if_pos h2]
    exact congrArg mkW h3
/-- What is reckoned of the numbers themselves. -/
def xOf (n p : Nat) : Int := scaleI (pr n) ((p : Int) - 2 * tri n)
def gchk (n p : Nat) : Bool :=
  let a := gsq p n
  let b := gsq (p + 16) n
  let x := xOf n p
  decide (a.1 ≤ x + 1) && decide (x ≤ a.2) && decide (b.1 ≤ 65536 * a.2) && decide (65536 * a.1 ≤ b.2) && decide (b.1 ≤ b.2) && decide (a.1 ≤ a.2) && decide (0 ≤ x) && decide (x < 2 ^ 300)
theorem gchk_all : ∀ n, n < 12 → ∀ q, q < 100 → gchk n (q + 20) = true := by decide +kernel
theorem gchk_at {n p : Nat} (hn : n < 12) (h0 : 20 ≤ p) (h1 : p < 120) : (gsq p n).1 ≤ xOf n p + 1 ∧ xOf n p ≤ (gsq p n).2 ∧ (gsq (p + 16) n).1 ≤ 65536 * (gsq p n).2 ∧ 65536 * (gsq p n).1 ≤ (gsq (p + 16) n).2 ∧ (gsq (p + 16) n).1 ≤ (gsq (p + 16) n).2 ∧ (gsq p n).1 ≤ (gsq p n).2 ∧ 0 ≤ xOf n p ∧ xOf n p < 2 ^ 300 := by
  have h := gchk_all n hn (p - 20) (by omega)
  rw [show p - 20 + 20 = p by omega] at h
  unfold gchk at h
  simp only [Bool.and_eq_true, decide_eq_true_eq] at h
  obtain ⟨⟨⟨⟨⟨⟨⟨a1, a2⟩, a3⟩, a4⟩, a5⟩, a6⟩, a7⟩, a8⟩ := h
  exact ⟨a1, a2, a3, a4, a5, a6, a7, a8⟩
def lenV (a : Vh) : Prop := a.1.2.length ≤ 1048576 ∧ a.2.2.length ≤ 1048576
theorem rtUp_ge (n : Nat) : n ≤ rtUp n * rtUp n := by
  unfold rtUp
  have h := isqrt_spec n
  split <;> omega
theorem rtUp_bd (n : Nat) : rtUp n ≤ n + 1 := by
  unfold rtUp
  have h := isqrt_le' n
  split <;> omega
theorem sq_le {x y : Nat} (h : x * x ≤ y * y) : x ≤ y := by
  apply Classical.byContradiction
  intro hn
  have : y * y < x * x := Nat.mul_lt_mul'' (by omega) (by omega)
  omega
theorem pow_far (e m x k : Nat) (h : x ≤ 2 ^ e) (hk : k ≤ x + 1) (he : e + 2 ≤ m) : k < 2 ^ m := by
  refine Nat.lt_of_lt_of_le ?_ (Nat.pow_le_pow_right (by omega) he)
  have := Nat.two_pow_pos e
  rw [Nat.pow_add]
  omega
theorem sq_far (k m M : Nat) (h : k < 2 ^ m) (hm : m + m ≤ M) : k * k < 2 ^ M := by
  refine Nat.lt_of_lt_of_le ?_ (Nat.pow_le_pow_right (by omega) hm)
  rw [Nat.pow_add]
  exact Nat.mul_lt_mul'' h h
theorem nat_of {x : Int} (h : 0 ≤ x) : ∃ n : Nat, x = n := ⟨x.toNat, by omega⟩
/-- The numbers of the law: the gain's ends, their square's, and how they lie. -/
theorem gain_nums {n p : Nat} (hn : n < 12) (h0 : 20 ≤ p) (h1 : p < 120) :
    0 ≤ gnLo p n ∧ gnLo p n ≤ gnHi p n ∧ (gnHi p n * gnHi p n).natAbs < 2 ^ 600 ∧ gnLo p n * gnLo p n / 2 ^ p ≤ (gsq p n).2 ∧ (gsq p n).1 ≤ -(-(gnHi p n * gnHi p n) / 2 ^ p) := by
  obtain ⟨_, _, c1, c2, c3, c4, _, _⟩ := gchk_at hn h0 h1
  obtain ⟨z1, z2⟩ := gsq_nonneg (p + 16) n
  obtain ⟨z3, z4⟩ := gsq_nonneg p n
  have bd := (gsq_bd (p + 16) n).2
  have hbd : 2 ^ (p + 16 + n) ≤ 2 ^ 147 := Nat.pow_le_pow_right (by omega) (by omega)
  unfold gnLo gnHi
  rw [show (2 : Int) ^ 16 = 65536 by decide]
  obtain ⟨L6, e1⟩ := nat_of z1
  obtain ⟨H6, e2⟩ := nat_of z2
  obtain ⟨L, e3⟩ := nat_of z3
  obtain ⟨H, e4⟩ := nat_of z4
  rw [e1, e2] at c3
  rw [e1, e4] at c1
  rw [e2, e3] at c2
  rw [e2, Int.natAbs_natCast] at bd
  rw [e1, e2, e3, e4, Int.natAbs_natCast, Int.natAbs_natCast]
  have c1 : L6 ≤ 65536 * H := by omega
  have c2 : 65536 * L ≤ H6 := by omega
  have c3 : L6 ≤ H6 := by omega
  have hP : 2 ^ (p + 16) = 2 ^ p * 65536 := by rw [Nat.pow_add]
  have hp0 : 0 < 2 ^ p := Nat.two_pow_pos p
  have hp1 : 2 ^ p ≤ 2 ^ 120 := Nat.pow_le_pow_right (by omega) (by omega)
  have eP : ((2 : Int) ^ p) = ((2 ^ p : Nat) : Int) := by rw [Int.natCast_pow]; rfl
  rw [hP, eP]
  generalize 2 ^ p = P at *
  have s1 := (isqrt_spec (L6 * (P * 65536))).1
  have s2 := rtUp_ge (H6 * (P * 65536))
  have s3 := rtUp_bd (H6 * (P * 65536))
  have s4 : L6 * (P * 65536) ≤ H6 * (P * 65536) := Nat.mul_le_mul_right _ c3
  unfold rtLo
  generalize isqrt (L6 * (P * 65536)) = r at *
  generalize rtUp (H6 * (P * 65536)) = u at *
  have hru : r ≤ u := sq_le (by omega)
  have t1 : L6 * (P * 65536) ≤ 65536 * 65536 * (H * P) := by
    have q := Nat.mul_le_mul_right (P * 65536) c1
    have e : 65536 * H * (P * 65536) = 65536 * 65536 * (H * P) := by ac_rfl
    omega
  have t2 : 65536 * 65536 * (L * P) ≤ H6 * (P * 65536) := by
    have q := Nat.mul_le_mul_right (P * 65536) c2
    have e : 65536 * L * (P * 65536) = 65536 * 65536 * (L * P) := by ac_rfl
    omega
  obtain ⟨g, hg⟩ : ∃ g : Nat, (r : Int) / 65536 = g := ⟨r / 65536, by omega⟩
  obtain ⟨k, hk⟩ : ∃ k : Nat, -(-(u : Int) / 65536) = k := nat_of (by omega)
  rw [hg, hk]
  have g1 : g * 65536 ≤ r := by omega
  have k1 : u ≤ k * 65536 := by omega
  have k2 : k ≤ u := by omega
  have hgg : g * g ≤ H * P := by
    have q := Nat.mul_le_mul g1 g1
    have e : g * 65536 * (g * 65536) = 65536 * 65536 * (g * g) := by ac_rfl
    omega
  have hkk : L * P ≤ k * k := by
    have q := Nat.mul_le_mul k1 k1
    have e : k * 65536 * (k * 65536) = 65536 * 65536 * (k * k) := by ac_rfl
    omega
  have hPc : (0 : Int) < (P : Int) := by omega
  refine ⟨by omega, by omega, ?_, ?_, ?_⟩
  · rw [← Int.natCast_mul, Int.natAbs_natCast]
    have hk4 : k ≤ H6 * (P * 65536) + 1 := by omega
    have hk3 : k < 2 ^ 300 := by
      have q1 : H6 * (P * 65536) ≤ 2 ^ 147 * (2 ^ 120 * 2 ^ 16) := Nat.mul_le_mul (by omega) (Nat.mul_le_mul hp1 (by decide))
      rw [← Nat.pow_add, ← Nat.pow_add] at q1
      exact pow_far _ 300 _ _ q1 hk4 (by decide)
    exact sq_far k 300 600 hk3 (by decide)
  · refine Int.ediv_le_of_le_mul hPc ?_
    exact_mod_cast hgg
  · have q : (L : Int) * P ≤ (k : Int) * k := by exact_mod_cast hkk
    have q2 : -((k : Int) * k) / P ≤ -L := by
      refine Int.ediv_le_of_le_mul hPc ?_
      rw [Int.neg_mul]
      omega
    omega
theorem okV_mk {x y : Int} (hx : (limbs x.natAbs).length ≤ 48) (hy : (limbs y.natAbs).length ≤ 48) (h : x ≤ y) : okV (mkW x, mkW y) = true := by
  unfold okV
  rw [okW_mk hx, okW_mk hy, mkW_val, mkW_val, decide_eq_true h]
  rfl
/-- The calls of the law and their answers. -/
theorem gain_facts {n p : Nat} (hn : n < 12) (h0 : 20 ≤ p) (h1 : p < 120) :
    ∃ G Q S : Vh, ∃ X Y : Wh, ∃ f : Bool, gnR n p = (G, true) ∧ gsR n p = (Q, true) ∧ ivMulR G G p = (S, true) ∧ wshiftR (mkW (pr n)) ((p : Int) - 2 * tri n) = (X, true) ∧ waddR X (wofR 1) = (Y, f) ∧
      meetR Q (X, Y) = true ∧ meetR S Q = true ∧ lenV G ∧ lenV Q ∧ lenV S ∧ X.2.length ≤ 1048576 ∧ Y.2.length ≤ 1048576 := by
  obtain ⟨c1, c2, _, _, _, c6, c7, c8⟩ := gchk_at hn h0 h1
  obtain ⟨d0, d1, d2, d3, d4⟩ := gain_nums hn h0 h1
  have hg := gn_len p n (by omega)
  have hq := gsq_len p n (by omega)
  have hpr := gpr_le n hn
  have e1 : gnR n p = ((mkW (gnLo p n), mkW (gnHi p n)), true) := by
    unfold gnR
    rw [if_pos ⟨by omega, by omega, by omega⟩, Int.toNat_natCast, Int.toNat_natCast]
  have e2 : gsR n p = ((mkW (gsq p n).1, mkW (gsq p n).2), true) := by
    unfold gsR
    rw [if_pos ⟨by omega, by omega, by omega⟩, Int.toNat_natCast, Int.toNat_natCast]
  have mx : (limbs (xOf n p).natAbs).length ≤ 48 := fit_abs (k := 300) (by omega) (by omega)
  have my : (limbs (xOf n p + 1).natAbs).length ≤ 48 := fit_abs (k := 301) (by omega) (by omega)
  have mp : (limbs ((pr n : Int)).natAbs).length ≤ 48 := fit_abs (k := 150) (by omega) (by omega)
  have e4 : wshiftR (mkW (pr n)) ((p : Int) - 2 * tri n) = (mkW (xOf n p), true) := by
    unfold wshiftR
    rw [if_pos ⟨okW_mk mp, by omega, by omega⟩, mkW_val]
    exact fitW_yes mx
  have m1 : (limbs (1 : Int).natAbs).length ≤ 48 := fit_abs (k := 1) (by decide) (by omega)
  have e5 : waddR (mkW (xOf n p)) (wofR 1) = (mkW (xOf n p + 1), true) := by
    unfold waddR wofR
    rw [if_pos ⟨okW_mk mx, okW_mk m1⟩, mkW_val, mkW_val]
    exact fitW_yes my
  have nn := pr_nonneg (gnLo p n) (gnHi p n) (gnLo p n) (gnHi p n) d0 d1 d0 d1
  have hsq : gnLo p n * gnLo p n ≤ gnHi p n * gnHi p n := Int.mul_le_mul d1 d1 d0 (by omega)
  have hsq0 : 0 ≤ gnLo p n * gnLo p n := int_sq _
  have hlow : gnLo p n * gnLo p n / 2 ^ p ≤ -(-(gnHi p n * gnHi p n) / 2 ^ p) := by
    have hP : (0 : Int) < 2 ^ p := Int.pow_pos (by omega)
    have q1 := Int.ediv_le_ediv hP hsq
    have q2 : gnHi p n * gnHi p n / 2 ^ p ≤ -(-(gnHi p n * gnHi p n) / 2 ^ p) := by
      generalize gnHi p n * gnHi p n = z at *
      have r1 := Int.ediv_mul_le z (Int.ne_of_gt hP)
      have r2 := Int.ediv_mul_le (-z) (Int.ne_of_gt hP)
      generalize hu : z / 2 ^ p = a at *
      generalize hv : -z / 2 ^ p = b at *
      have r3 : (a + b) * 2 ^ p ≤ 0 := by rw [Int.add_mul]; omega
      have r4 : ¬ 0 < a + b := fun h => by have := Int.mul_pos h hP; omega
      omega
    omega
  have s1 : (limbs (gnLo p n * gnLo p n / 2 ^ p).natAbs).length ≤ 48 := by
    have q := abs_ediv (gnLo p n * gnLo p n) p
    exact fit_abs (k := 600) (by omega) (by omega)
  have s2 : (limbs (-(-(gnHi p n * gnHi p n) / 2 ^ p)).natAbs).length ≤ 48 := by
    have q := abs_ediv (-(gnHi p n * gnHi p n)) p
    exact fit_abs (k := 600) (by omega) (by omega)
  have e3 : ivMulR (mkW (gnLo p n), mkW (gnHi p n)) (mkW (gnLo p n), mkW (gnHi p n)) p = ((mkW (gnLo p n * gnLo p n / 2 ^ p), mkW (-(-(gnHi p n * gnHi p n) / 2 ^ p))), true) := by
    have ok := okV_mk hg.1 hg.2 d1
    unfold ivMulR
    rw [if_pos ⟨ok, ok, by omega, by omega⟩]
    simp only [mkW_val, Int.toNat_natCast]
    rw [nn.1, nn.2]
    exact fitV_all _ _ s1 s2
  refine ⟨_, _, _, _, _, _, e1, e2, e3, e4, e5, ?_, ?_, ?_, ?_, ?_, ?_, ?_⟩
  · unfold meetR
    rw [okV_mk (Nat.le_trans hq.1 (by omega)) (Nat.le_trans hq.2 (by omega)) c6, okV_mk mx my (by omega)]
    simp only [mkW_val, decide_eq_true c1, decide_eq_true c2, Bool.true_and]
  · unfold meetR
    rw [okV_mk (Nat.le_trans hq.1 (by omega)) (Nat.le_trans hq.2 (by omega)) c6, okV_mk s1 s2 hlow]
    simp only [mkW_val, decide_eq_true d3, decide_eq_true d4, Bool.true_and]
  · exact ⟨Nat.le_trans hg.1 (by omega), Nat.le_trans hg.2 (by omega)⟩
  · exact ⟨Nat.le_trans hq.1 (by omega), Nat.le_trans hq.2 (by omega)⟩
  · exact ⟨Nat.le_trans s1 (by omega), Nat.le_trans s2 (by omega)⟩
  · exact Nat.le_trans mx (by omega)
  · exact Nat.le_trans my (by omega)

end Go.Proofs.Ytlpfjpbnedankaa
