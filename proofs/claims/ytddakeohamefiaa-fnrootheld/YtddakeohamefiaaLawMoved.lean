/- FnMoved: what is moved still holds what it held; moved back it is what it was, or holds it: the walk. -/
import Derived.Test.YtddakeohamefiaaDB
import Derived.Test.YtddakeohamefiaaIvMoveB
import Derived.Test.YtddakeohamefiaaIMeet
import Derived.Test.YtddakeohamefiaaLawW
import Derived.Test.YtddakeohamefiaaLawH
namespace Go.Proofs.Ytddakeohamefiaa
open Go.RowKit
set_option linter.unusedSimpArgs false

theorem rowV.lo {w : World} {g h : Bool} {s t : Value} {a : Vh} (k : rowV w (.agg #[.bool g, s, .bool h, t]) a) : rowW w (.agg #[.bool g, s]) a.1 := by
  obtain ⟨s', t', e, h1, -⟩ := k
  simp at e
  obtain ⟨rfl, rfl, rfl, rfl⟩ := e
  exact ⟨_, rfl, h1⟩
theorem rowV.hi {w : World} {g h : Bool} {s t : Value} {a : Vh} (k : rowV w (.agg #[.bool g, s, .bool h, t]) a) : rowW w (.agg #[.bool h, t]) a.2 := by
  obtain ⟨s', t', e, -, h2⟩ := k
  simp at e
  obtain ⟨rfl, rfl, rfl, rfl⟩ := e
  exact ⟨_, rfl, h2⟩
theorem fitV_true {x y : Int} {r : Vh} (h : fitV x y = (r, true)) : r = (mkW x, mkW y) ∧ (limbs x.natAbs).length ≤ 48 ∧ (limbs y.natAbs).length ≤ 48 := by
  unfold fitV at h
  split at h
  · rename_i hc
    obtain ⟨e1, m1⟩ := fitW_true (z := x) (x := (fitW x).1) (Prod.ext rfl hc.1)
    obtain ⟨e2, m2⟩ := fitW_true (z := y) (x := (fitW y).1) (Prod.ext rfl hc.2)
    rw [e1, e2] at h
    exact ⟨(congrArg Prod.fst h).symm, m1, m2⟩
  · cases h
theorem fitV_false {x y : Int} {r : Vh} (h : fitV x y = (r, false)) : r = ((false, []), (false, [])) := by
  unfold fitV at h
  split at h
  · cases h
  · exact (congrArg Prod.fst h).symm
theorem fitV_yes {x y : Int} (h1 : (limbs x.natAbs).length ≤ 48) (h2 : (limbs y.natAbs).length ≤ 48) : fitV x y = ((mkW x, mkW y), true) := by
  unfold fitV
  rw [fitW_yes h1, fitW_yes h2]
  simp
theorem okV_mk {x y : Int} (h1 : (limbs x.natAbs).length ≤ 48) (h2 : (limbs y.natAbs).length ≤ 48) (h : x ≤ y) : okV (mkW x, mkW y) = true := by
  show (okW (mkW x) && okW (mkW y) && decide (valW (mkW x) ≤ valW (mkW y))) = true
  rw [okW_mk h1, okW_mk h2, mkW_val, mkW_val]
  simp [h]
theorem mv_back_lo (x p q : Int) (h : p ≤ q) : mvLo (mvLo x (q - p)) (p - q) = x := by
  have hp : (0 : Int) < 2 ^ (q - p).toNat := Int.pow_pos (by omega)
  unfold mvLo
  rw [if_pos (show 0 ≤ q - p by omega)]
  by_cases h2 : 0 ≤ p - q
  · have e : q = p := by omega
    subst e
    simp
  · rw [if_neg h2, show (-(p - q)).toNat = (q - p).toNat by omega]
    exact Int.mul_ediv_cancel _ (by omega)
theorem mv_back_hi (x p q : Int) (h : p ≤ q) : mvHi (mvHi x (q - p)) (p - q) = x := by
  have hp : (0 : Int) < 2 ^ (q - p).toNat := Int.pow_pos (by omega)
  unfold mvHi
  rw [if_pos (show 0 ≤ q - p by omega)]
  by_cases h2 : 0 ≤ p - q
  · have e : q = p := by omega
    subst e
    simp
  · rw [if_neg h2, show (-(p - q)).toNat = (q - p).toNat by omega, ← Int.neg_mul, Int.mul_ediv_cancel _ (by omega), Int.neg_neg]
theorem mv_up_le (x y d : Int) (h : x ≤ y) (hd : 0 ≤ d) : mvLo x d ≤ mvHi y d := by
  unfold mvLo mvHi
  rw [if_pos hd, if_pos hd]
  exact Int.mul_le_mul_of_nonneg_right h (Int.le_of_lt (Int.pow_pos (by omega)))
theorem mv_down_lo (x p q : Int) (h : q < p) : mvLo (mvLo x (q - p)) (p - q) ≤ x := by
  have hp : (0 : Int) < 2 ^ (p - q).toNat := Int.pow_pos (by omega)
  unfold mvLo
  rw [if_neg (show ¬ 0 ≤ q - p by omega), if_pos (show 0 ≤ p - q by omega), show (-(q - p)).toNat = (p - q).toNat by omega]
  exact Int.ediv_mul_le _ (by omega)
theorem mv_down_hi (x p q : Int) (h : q < p) : x ≤ mvHi (mvHi x (q - p)) (p - q) := by
  have hp : (0 : Int) < 2 ^ (p - q).toNat := Int.pow_pos (by omega)
  unfold mvHi
  rw [if_neg (show ¬ 0 ≤ q - p by omega), if_pos (show 0 ≤ p - q by omega), show (-(q - p)).toNat = (p - q).toNat by omega]
  have := Int.ediv_mul_le (-x) (b := 2 ^ (p - q).toNat) (by omega)
  rw [Int.neg_mul]
  omega
theorem mv_down_le (x y p q : Int) (h : x ≤ y) (hq : q < p) : mvLo x (q - p) ≤ mvHi y (q - p) := by
  have hp : (0 : Int) < 2 ^ (p - q).toNat := Int.pow_pos (by omega)
  have h1 := mv_down_lo x p q hq
  have h2 := mv_down_hi y p q hq
  have e1 : mvLo (mvLo x (q - p)) (p - q) = mvLo x (q - p) * 2 ^ (p - q).toNat := by rw [mvLo, if_pos (show 0 ≤ p - q by omega)]
  have e2 : mvHi (mvHi y (q - p)) (p - q) = mvHi y (q - p) * 2 ^ (p - q).toNat := by rw [mvHi, if_pos (show 0 ≤ p - q by omega)]
  rw [e1] at h1
  rw [e2] at h2
  exact Int.le_of_mul_le_mul_right (Int.le_trans h1 (Int.le_trans h h2)) hp
theorem moved_no {a r : Vh} {p q : Int} (h : moveR a p q = (r, false)) : r = ((false, []), (false, [])) := by
  unfold moveR at h
  split at h
  · exact fitV_false h
  · exact (congrArg Prod.fst h).symm
theorem moved_yes {a r : Vh} {p q : Int} (h : moveR a p q = (r, true)) :
    okV r = true ∧ r.1.2.length ≤ 48 ∧ r.2.2.length ≤ 48 ∧ ∃ b o, moveR r q p = (b, o) ∧ b.1.2.length ≤ 48 ∧ b.2.2.length ≤ 48 ∧ (o = false → q < p) ∧ (o = true → p ≤ q → b.1 = a.1 ∧ b.2 = a.2) ∧ (o = true → q < p → ivInR a b = true) := by
  unfold moveR at h
  split at h
  · rename_i hc
    obtain ⟨hok, hp, hq⟩ := hc
    obtain ⟨k1, k2, k3⟩ := okV_yes hok
    obtain ⟨rfl, m1, m2⟩ := fitV_true h
    have hle : mvLo (valW a.1) (q - p) ≤ mvHi (valW a.2) (q - p) := by
      by_cases hpq : p ≤ q
      · exact mv_up_le _ _ _ k3 (by omega)
      · exact mv_down_le _ _ p q k3 (by omega)
    have hokr := okV_mk m1 m2 hle
    have hm : moveR (mkW (mvLo (valW a.1) (q - p)), mkW (mvHi (valW a.2) (q - p))) q p = fitV (mvLo (mvLo (valW a.1) (q - p)) (p - q)) (mvHi (mvHi (valW a.2) (q - p)) (p - q)) := by
      unfold moveR
      rw [if_pos ⟨hokr, hq, hp⟩, mkW_val, mkW_val]
    refine ⟨hokr, m1, m2, ?_⟩
    rw [hm]
    by_cases hpq : p ≤ q
    · rw [mv_back_lo _ p q hpq, mv_back_hi _ p q hpq, fitV_yes (okW_abs k1) (okW_abs k2)]
      exact ⟨_, _, rfl, okW_abs k1, okW_abs k2, (fun h => by cases h), fun _ _ => ⟨(mkW_of k1).symm, (mkW_of k2).symm⟩, fun _ h => by omega⟩
    · have hlt : q < p := by omega
      obtain ⟨b, o, hb⟩ : ∃ b o, fitV (mvLo (mvLo (valW a.1) (q - p)) (p - q)) (mvHi (mvHi (valW a.2) (q - p)) (p - q)) = (b, o) := ⟨_, _, rfl⟩
      cases o
      · have := fitV_false hb
        subst this
        exact ⟨_, _, hb, by simp, by simp, fun _ => hlt, (fun h => by cases h), (fun h => by cases h)⟩
      · obtain ⟨rfl, n1, n2⟩ := fitV_true hb
        refine ⟨_, _, hb, n1, n2, (fun h => by cases h), fun _ h => by omega, fun _ _ => ?_⟩
        have h1 := mv_down_lo (valW a.1) p q hlt
        have h2 := mv_down_hi (valW a.2) p q hlt
        have hokb := okV_mk n1 n2 (Int.le_trans h1 (Int.le_trans k3 h2))
        show (okV a && okV _ && (decide (valW (mkW _) ≤ valW a.1) && decide (valW a.2 ≤ valW (mkW _)))) = true
        rw [hok, hokb, mkW_val, mkW_val]
        simp [h1, h2]
  · cases h

set_option maxRecDepth 20000 in
set_option maxHeartbeats 6400000 in
theorem moved_in (a : Option Addr) (len cap : Nat) (zs : List Int) (w : World) (hlen : len ≤ 1048576) (hc : CodeIs w a len cap zs) :
    Calls Try.prog 3 #[.slice a len cap] w fun e w' => e = .returned (.bool true) ∧ Below w.heap.size w w' := by
  go_enter Try.func3, Try.ntmps3
  go_wp2_with fail
  refine (big_no a len cap w hlen).mono ?_
  rintro e w ⟨rfl, rfl⟩
  go_wp2_with fail
  refine (drIvMove a len cap zs w hlen hc).mono ?_
  rintro e w1 ⟨va, ⟨⟨g, xs⟩, ⟨h, ys⟩⟩, p, q, rfl, ⟨s, t, rfl, hs, ht⟩, la, lb, C⟩
  clear hc
  obtain ⟨ad, cp, rfl, -⟩ := id hs
  obtain ⟨ae, cq, rfl, -⟩ := id ht
  have lx : xs.length ≤ 98 := la
  have ly : ys.length ≤ 98 := lb
  have bb := below1 w1 (.cells #[.bool g, .slice ad xs.length cp, .bool h, .slice ae ys.length cq] 28)
  have V0 : rowV (w1.alloc (.cells #[.bool g, .slice ad xs.length cp, .bool h, .slice ae ys.length cq] 28)) (.agg #[.bool g, .slice ad xs.length cp, .bool h, .slice ae ys.length cq]) ((g, xs), (h, ys)) := ⟨_, _, rfl, hs.below bb (Nat.le_refl _), ht.below bb (Nat.le_refl _)⟩
  have A0 := BoxV.made w1 (.bool g) (.slice ad xs.length cp) (.bool h) (.slice ae ys.length cq) 28
  replace C := C.trans (bb.mono C.size)
  obtain ⟨⟨⟨⟨g2, us⟩, ⟨h2, vs⟩⟩, o⟩, hr⟩ : ∃ r, moveR ((g, xs), (h, ys)) p q = r := ⟨_, rfl⟩
  have ki := fun W (hV : rowV W (.agg #[.bool g, .slice ad xs.length cp, .bool h, .slice ae ys.length cq]) ((g, xs), (h, ys))) => iIvMove _ _ p q W hV (by show xs.length ≤ _; omega) (by show ys.length ≤ _; omega)
  have ks := fun W (hV : rowV W (.agg #[.bool g, .slice ad xs.length cp, .bool h, .slice ae ys.length cq]) ((g, xs), (h, ys))) => sIvMove _ _ p q W hV (by show xs.length ≤ _; omega) (by show ys.length ≤ _; omega)
  rw [hr] at ki ks
  dsimp only at ki ks
  clear hs ht la lb bb
  have a0 := A0.c0
  have a1 := A0.c1
  have a2 := A0.c2
  have a3 := A0.c3
  cases o
  · have hn := moved_no hr
    cases hn
    clear hr
    go_wp2_with fail
    clear a0 a1 a2 a3
    generalize w1.alloc (.cells #[.bool g, .slice ad xs.length cp, .bool h, .slice ae ys.length cq] 28) = w2 at *
    refine (ki w2 V0).mono ?_
    rintro e w3 ⟨v3, rfl, ⟨s3, t3, rfl, q3, r3, -⟩, b3⟩
    obtain ⟨ad3, cp3, rfl, -⟩ := q3.row
    obtain ⟨ae3, cq3, rfl, -⟩ := r3.row
    have bb3 := below1 w3 (.cells #[.bool false, .slice ad3 0 cp3, .bool false, .slice ae3 0 cq3] 28)
    replace V0 := (V0.below b3 (Nat.le_refl _)).below bb3 (Nat.le_refl _)
    replace A0 := (A0.below b3 (Nat.le_refl _)).below bb3 (Nat.le_refl _)
    replace C := (C.trans (b3.mono C.size)).trans (bb3.mono (C.trans (b3.mono C.size)).size)
    have A3 := BoxV.made w3 (.bool false) (.slice ad3 0 cp3) (.bool false) (.slice ae3 0 cq3) 28
    have V3 : rowV (w3.alloc (.cells #[.bool false, .slice ad3 0 cp3, .bool false, .slice ae3 0 cq3] 28)) (.agg #[.bool false, .slice ad3 0 cp3, .bool false, .slice ae3 0 cq3]) ((false, ([] : List Int)), (false, ([] : List Int))) := ⟨_, _, rfl, q3.row.below bb3 (Nat.le_refl _), r3.row.below bb3 (Nat.le_refl _)⟩
    clear q3 r3 b3 bb3
    have a0 := A0.c0
    have a1 := A0.c1
    have a2 := A0.c2
    have a3 := A0.c3
    go_wp2_with fail
    clear a0 a1 a2 a3
    generalize w3.alloc (.cells #[.bool false, .slice ad3 0 cp3, .bool false, .slice ae3 0 cq3] 28) = w4 at *
    refine (ks w4 V0).mono ?_
    rintro e w5 ⟨v5, rfl, ⟨s5, t5, rfl, q5, r5, -⟩, b5⟩
    obtain ⟨ad5, cp5, rfl, -⟩ := q5.row
    obtain ⟨ae5, cq5, rfl, -⟩ := r5.row
    have bb5 := below1 w5 (.cells #[.bool false, .slice ad5 0 cp5, .bool false, .slice ae5 0 cq5] 28)
    replace V0 := (V0.below b5 (Nat.le_refl _)).below bb5 (Nat.le_refl _)
    replace A0 := (A0.below b5 (Nat.le_refl _)).below bb5 (Nat.le_refl _)
    replace V3 := (V3.below b5 (Nat.le_refl _)).below bb5 (Nat.le_refl _)
    replace A3 := (A3.below b5 (Nat.le_refl _)).below bb5 (Nat.le_refl _)
    replace C := (C.trans (b5.mono C.size)).trans (bb5.mono (C.trans (b5.mono C.size)).size)
    have A5 := BoxV.made w5 (.bool false) (.slice ad5 0 cp5) (.bool false) (.slice ae5 0 cq5) 28
    have V5 : rowV (w5.alloc (.cells #[.bool false, .slice ad5 0 cp5, .bool false, .slice ae5 0 cq5] 28)) (.agg #[.bool false, .slice ad5 0 cp5, .bool false, .slice ae5 0 cq5]) ((false, ([] : List Int)), (false, ([] : List Int))) := ⟨_, _, rfl, q5.row.below bb5 (Nat.le_refl _), r5.row.below bb5 (Nat.le_refl _)⟩
    clear q5 r5 b5 bb5
    have d0 := A3.c0
    have d1 := A3.c1
    have d2 := A3.c2
    have d3 := A3.c3
    go_wp2
    go_ret
    exact ⟨rfl, C⟩
  · obtain ⟨hok, l2, l2', ⟨⟨g4, ps⟩, ⟨h4, qs⟩⟩, o4, hb, l4, l4', hno, hup, hdn⟩ := moved_yes hr
    have m2 : us.length ≤ 48 := l2
    have m2' : vs.length ≤ 48 := l2'
    have m4 : ps.length ≤ 48 := l4
    have m4' : qs.length ≤ 48 := l4'
    have kb := fun v W (hV : rowV W v ((g2, us), (h2, vs))) => iIvMove v _ q p W hV (by show us.length ≤ _; omega) (by show vs.length ≤ _; omega)
    rw [hb] at kb
    dsimp only at kb
    have ko := fun v W (hV : rowV W v ((g2, us), (h2, vs))) => iIvOk v _ W hV (by show us.length ≤ _; omega) (by show vs.length ≤ _; omega)
    rw [hok] at ko
    have kn := fun v u W (hV : rowV W v ((g, xs), (h, ys))) (hU : rowV W u ((g4, ps), (h4, qs))) => iIvIn v u _ _ W hV hU (by show xs.length ≤ _; omega) (by show ys.length ≤ _; omega) (by show ps.length ≤ _; omega) (by show qs.length ≤ _; omega)
    clear hr hb hok l2 l2' l4 l4'
    go_wp2_with fail
    clear a0 a1 a2 a3
    generalize w1.alloc (.cells #[.bool g, .slice ad xs.length cp, .bool h, .slice ae ys.length cq] 28) = w2 at *
    refine (ki w2 V0).mono ?_
    rintro e w3 ⟨v3, rfl, ⟨s3, t3, rfl, q3, r3, -⟩, b3⟩
    obtain ⟨ad3, cp3, rfl, -⟩ := q3.row
    obtain ⟨ae3, cq3, rfl, -⟩ := r3.row
    have bb3 := below1 w3 (.cells #[.bool g2, .slice ad3 us.length cp3, .bool h2, .slice ae3 vs.length cq3] 28)
    replace V0 := (V0.below b3 (Nat.le_refl _)).below bb3 (Nat.le_refl _)
    replace A0 := (A0.below b3 (Nat.le_refl _)).below bb3 (Nat.le_refl _)
    replace C := (C.trans (b3.mono C.size)).trans (bb3.mono (C.trans (b3.mono C.size)).size)
    have A3 := BoxV.made w3 (.bool g2) (.slice ad3 us.length cp3) (.bool h2) (.slice ae3 vs.length cq3) 28
    have V3 : rowV (w3.alloc (.cells #[.bool g2, .slice ad3 us.length cp3, .bool h2, .slice ae3 vs.length cq3] 28)) (.agg #[.bool g2, .slice ad3 us.length cp3, .bool h2, .slice ae3 vs.length cq3]) ((g2, us), (h2, vs)) := ⟨_, _, rfl, q3.row.below bb3 (Nat.le_refl _), r3.row.below bb3 (Nat.le_refl _)⟩
    clear q3 r3 b3 bb3
    have a0 := A0.c0
    have a1 := A0.c1
    have a2 := A0.c2
    have a3 := A0.c3
    go_wp2_with fail
    clear a0 a1 a2 a3
    generalize w3.alloc (.cells #[.bool g2, .slice ad3 us.length cp3, .bool h2, .slice ae3 vs.length cq3] 28) = w4 at *
    refine (ks w4 V0).mono ?_
    rintro e w5 ⟨v5, rfl, ⟨s5, t5, rfl, q5, r5, -⟩, b5⟩
    obtain ⟨ad5, cp5, rfl, -⟩ := q5.row
    obtain ⟨ae5, cq5, rfl, -⟩ := r5.row
    have bb5 := below1 w5 (.cells #[.bool g2, .slice ad5 us.length cp5, .bool h2, .slice ae5 vs.length cq5] 28)
    replace V0 := (V0.below b5 (Nat.le_refl _)).below bb5 (Nat.le_refl _)
    replace A0 := (A0.below b5 (Nat.le_refl _)).below bb5 (Nat.le_refl _)
    replace V3 := (V3.below b5 (Nat.le_refl _)).below bb5 (Nat.le_refl _)
    replace A3 := (A3.below b5 (Nat.le_refl _)).below bb5 (Nat.le_refl _)
    replace C := (C.trans (b5.mono C.size)).trans (bb5.mono (C.trans (b5.mono C.size)).size)
    have A5 := BoxV.made w5 (.bool g2) (.slice ad5 us.length cp5) (.bool h2) (.slice ae5 vs.length cq5) 28
    have V5 : rowV (w5.alloc (.cells #[.bool g2, .slice ad5 us.length cp5, .bool h2, .slice ae5 vs.length cq5] 28)) (.agg #[.bool g2, .slice ad5 us.length cp5, .bool h2, .slice ae5 vs.length cq5]) ((g2, us), (h2, vs)) := ⟨_, _, rfl, q5.row.below bb5 (Nat.le_refl _), r5.row.below bb5 (Nat.le_refl _)⟩
    clear q5 r5 b5 bb5
    have d0 := A3.c0
    have d1 := A3.c1
    have d2 := A3.c2
    have d3 := A3.c3
    go_wp2_with fail
    clear d0 d1 d2 d3 A5 V5
    generalize w5.alloc (.cells #[.bool g2, .slice ad5 us.length cp5, .bool h2, .slice ae5 vs.length cq5] 28) = w6 at *
    refine (kb _ w6 V3).mono ?_
    rintro e w7 ⟨v7, rfl, ⟨s7, t7, rfl, q7, r7, -⟩, b7⟩
    obtain ⟨ad7, cp7, rfl, -⟩ := q7.row
    obtain ⟨ae7, cq7, rfl, -⟩ := r7.row
    have bb7 := below1 w7 (.cells #[.bool g4, .slice ad7 ps.length cp7, .bool h4, .slice ae7 qs.length cq7] 28)
    replace V0 := (V0.below b7 (Nat.le_refl _)).below bb7 (Nat.le_refl _)
    replace A0 := (A0.below b7 (Nat.le_refl _)).below bb7 (Nat.le_refl _)
    replace V3 := (V3.below b7 (Nat.le_refl _)).below bb7 (Nat.le_refl _)
    replace A3 := (A3.below b7 (Nat.le_refl _)).below bb7 (Nat.le_refl _)
    replace C := (C.trans (b7.mono C.size)).trans (bb7.mono (C.trans (b7.mono C.size)).size)
    have A7 := BoxV.made w7 (.bool g4) (.slice ad7 ps.length cp7) (.bool h4) (.slice ae7 qs.length cq7) 28
    have V7 : rowV (w7.alloc (.cells #[.bool g4, .slice ad7 ps.length cp7, .bool h4, .slice ae7 qs.length cq7] 28)) (.agg #[.bool g4, .slice ad7 ps.length cp7, .bool h4, .slice ae7 qs.length cq7]) ((g4, ps), (h4, qs)) := ⟨_, _, rfl, q7.row.below bb7 (Nat.le_refl _), r7.row.below bb7 (Nat.le_refl _)⟩
    clear q7 r7 b7 bb7
    cases o4
    · have hqp := hno rfl
      clear hno hup hdn
      go_wp2
      go_ret
      exact ⟨rfl, C⟩
    · clear hno
      by_cases hpq : p ≤ q
      · obtain ⟨e1, e2⟩ := hup rfl hpq
        have e1' : (g4, ps) = (g, xs) := e1
        have e2' : (h4, qs) = (h, ys) := e2
        cases e1'
        cases e2'
        have kw1 := fun W (h1 : rowW W (.agg #[.bool g, .slice ad7 xs.length cp7]) (g, xs)) (h2 : rowW W (.agg #[.bool g, .slice ad xs.length cp]) (g, xs)) => sameWh _ _ (g, xs) (g, xs) W h1 h2 (by show xs.length ≤ _; omega)
        have kw2 := fun W (h1 : rowW W (.agg #[.bool h, .slice ae7 ys.length cq7]) (h, ys)) (h2 : rowW W (.agg #[.bool h, .slice ae ys.length cq]) (h, ys)) => sameWh _ _ (h, ys) (h, ys) W h1 h2 (by show ys.length ≤ _; omega)
        rw [decide_eq_true (rfl : (g, xs) = (g, xs))] at kw1
        rw [decide_eq_true (rfl : (h, ys) = (h, ys))] at kw2
        clear hup hdn kn ko kb ki ks e1 e2
        have a0 := A0.c0
        have a1 := A0.c1
        have a2 := A0.c2
        have a3 := A0.c3
        have d0 := A7.c0
        have d1 := A7.c1
        have d2 := A7.c2
        have d3 := A7.c3
        go_wp2_with fail
        clear a0 a1 a2 a3 d0 d1 d2 d3
        generalize w7.alloc (.cells #[.bool g, .slice ad7 xs.length cp7, .bool h, .slice ae7 ys.length cq7] 28) = w8 at *
        refine (kw1 w8 V7.lo V0.lo).mono ?_
        rintro e w9 ⟨rfl, b9⟩
        replace V0 := V0.below b9 (Nat.le_refl _)
        replace V7 := V7.below b9 (Nat.le_refl _)
        replace A0 := A0.below b9 (Nat.le_refl _)
        replace A7 := A7.below b9 (Nat.le_refl _)
        replace C := C.trans (b9.mono C.size)
        have a0 := A0.c0
        have a1 := A0.c1
        have a2 := A0.c2
        have a3 := A0.c3
        have d0 := A7.c0
        have d1 := A7.c1
        have d2 := A7.c2
        have d3 := A7.c3
        go_wp2_with fail
        refine (kw2 w9 V7.hi V0.hi).mono ?_
        rintro e w10 ⟨rfl, b10⟩
        replace C := C.trans (b10.mono C.size)
        go_wp2
        go_ret
        exact ⟨rfl, C⟩
      · have hlt : q < p := by omega
        have hin := hdn rfl hlt
        rw [hin] at kn
        clear hup hdn hin
        have a0 := A0.c0
        have a1 := A0.c1
        have a2 := A0.c2
        have a3 := A0.c3
        have d0 := A7.c0
        have d1 := A7.c1
        have d2 := A7.c2
        have d3 := A7.c3
        go_wp2_with fail
        clear a0 a1 a2 a3 d0 d1 d2 d3
        generalize w7.alloc (.cells #[.bool g4, .slice ad7 ps.length cp7, .bool h4, .slice ae7 qs.length cq7] 28) = w8 at *
        refine (kn _ _ w8 V0 V7).mono ?_
        rintro e w9 ⟨rfl, b9⟩
        replace V3 := V3.below b9 (Nat.le_refl _)
        replace A3 := A3.below b9 (Nat.le_refl _)
        replace C := C.trans (b9.mono C.size)
        have d0 := A3.c0
        have d1 := A3.c1
        have d2 := A3.c2
        have d3 := A3.c3
        go_wp2_with fail
        refine (ko _ w9 V3).mono ?_
        rintro e w10 ⟨rfl, b10⟩
        replace C := C.trans (b10.mono C.size)
        go_wp2
        go_ret
        exact ⟨rfl, C⟩

set_option maxRecDepth 20000 in
set_option maxHeartbeats 1600000 in
theorem walkMoved (a0 : Option Addr) (len0 cap0 : Nat) (z0 : List Int) (w : World) (h : IsRow .u8 w a0 len0 cap0 z0) :
    Calls Try.prog 3 #[.slice a0 len0 cap0] w fun e w' => e = .returned (.bool true) ∧ Below w.heap.size w w' := by
  refine law_big _ (fun a len cap w hs => ?_) moved_in a0 len0 cap0 z0 w h
  go_enter Try.func3, Try.ntmps3
  go_wp2_with (go_at_call 6; refine (big_yes a len cap w hs).mono ?_; rintro e w ⟨rfl, rfl⟩)
  go_ret
  exact ⟨rfl, Below.refl _ _⟩

end Go.Proofs.Ytddakeohamefiaa
