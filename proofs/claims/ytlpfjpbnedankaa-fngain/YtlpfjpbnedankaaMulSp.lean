/- mulSpans of the program, by its contract. -/
import Derived.Test.YtlpfjpbnedankaaProdB
import Derived.Test.YtlpfjpbnedankaaRB
namespace Go.Proofs.Ytlpfjpbnedankaa
open Go.RowKit
set_option linter.unusedSimpArgs false

theorem mvLo_d (x : Int) (k : Nat) : mvLo x (0 - (k : Int)) = x / 2 ^ k := by
  unfold mvLo
  by_cases h : 0 ≤ 0 - (k : Int)
  · obtain rfl : k = 0 := by omega
    simp
  · rw [if_neg h, show (-(0 - (k : Int))).toNat = k by omega]
theorem mvHi_d (x : Int) (k : Nat) : mvHi x (0 - (k : Int)) = -(-x / 2 ^ k) := by
  unfold mvHi
  by_cases h : 0 ≤ 0 - (k : Int)
  · obtain rfl : k = 0 := by omega
    simp
  · rw [if_neg h, show (-(0 - (k : Int))).toNat = k by omega]
theorem movedSpan_d (p q : Nat) (x y : Int) (k : Nat) (w : World) (sp : SG w p x) (sq : SG w q y) (m1 : (limbs x.natAbs).length ≤ 96) (m2 : (limbs y.natAbs).length ≤ 96) (hk : k ≤ 600) :
    Calls Try.prog 56 #[.agg #[.pointer (some ⟨p, 0, none⟩), .pointer (some ⟨q, 0, none⟩)], .int .i64 k, .int .i64 0] w (spanF (x / 2 ^ k) (-(-y / 2 ^ k)) w) := by
  by_cases h : k = 0
  · subst h
    have e1 : x / 2 ^ 0 = x * 2 ^ 0 := by simp
    have e2 : -(-y / 2 ^ 0) = y * 2 ^ 0 := by simp
    rw [e1, e2]
    exact movedSpan_h p q x y _ _ _ _ w sp sq (fun W g => movedUp_c _ _ 0 p x 0 W g (by omega) (by omega) (by omega)) (fun W g => movedUp_c _ _ 0 q y 1 W g (by omega) (by omega) (by omega))
  · rw [← frac_lo, ← frac_hi _ _ (Int.pow_pos (by omega))]
    exact movedSpan_h p q x y _ _ _ _ w sp sq (fun W g => movedDown_c _ _ k p x 0 W g (by omega) (by omega) (by omega) (by omega) (by omega) (by omega)) (fun W g => movedDown_c _ _ k q y 1 W g (by omega) (by omega) (by omega) (by omega) (by omega) (by omega))

set_option maxRecDepth 20000 in
set_option maxHeartbeats 6400000 in
theorem mulSpans_c (p q r s : Nat) (x1 y1 x2 y2 : Int) (k : Nat) (w : World) (sp : SG w p x1) (sq : SG w q y1) (sr : SG w r x2) (ss : SG w s y2) (h1 : x1 ≤ y1) (h2 : x2 ≤ y2) (m1 : (limbs x1.natAbs).length ≤ 48) (m2 : (limbs y1.natAbs).length ≤ 48) (m3 : (limbs x2.natAbs).length ≤ 48) (m4 : (limbs y2.natAbs).length ≤ 48) (hk : k ≤ 600) :
    Calls Try.prog 29 #[.agg #[.pointer (some ⟨p, 0, none⟩), .pointer (some ⟨q, 0, none⟩)], .agg #[.pointer (some ⟨r, 0, none⟩), .pointer (some ⟨s, 0, none⟩)], .int .i64 k] w (spanF (prLo x1 y1 x2 y2 / 2 ^ k) (-(-prHi x1 y1 x2 y2 / 2 ^ k)) w) := by
  have kP := fun W h1' h2' h3' h4' => productsOf_c p q r s x1 y1 x2 y2 W h1' h2' h3' h4' h1 h2 (by omega) (by omega) (by omega) (by omega)
  have l1 := prLo_len x1 y1 x2 y2 m1 m2 m3 m4
  have l2 := prHi_len x1 y1 x2 y2 m1 m2 m3 m4
  have kM := fun c d W h1' h2' => movedSpan_d c d (prLo x1 y1 x2 y2) (prHi x1 y1 x2 y2) k W h1' h2' l1 l2 hk
  unfold spanE at kP
  unfold spanF at kM ⊢
  clear l1 l2 h1 h2 m1 m2 m3 m4
  generalize prLo x1 y1 x2 y2 / 2 ^ k = u1 at *
  generalize -(-prHi x1 y1 x2 y2 / 2 ^ k) = u2 at *
  generalize prLo x1 y1 x2 y2 = e1 at *
  generalize prHi x1 y1 x2 y2 = e2 at *
  have B0_0 : Below w.heap.size w w := Below.refl _ _
  obtain ⟨v1, hv1⟩ : ∃ v, v = w.alloc (.cells #[.pointer (some ⟨p, 0, none⟩), .pointer (some ⟨q, 0, none⟩)] 52) := ⟨_, rfl⟩
  have z1 : v1.heap.size = w.heap.size + 1 := by rw [hv1]; simp
  have bv1 : Below w.heap.size w v1 := by rw [hv1]; exact below1 _ _
  have B0_1 := B0_0.trans (bv1.mono B0_0.size)
  have X0_1 : BoxL v1 w.heap.size w.heap.size [.pointer (some ⟨p, 0, none⟩), .pointer (some ⟨q, 0, none⟩)] := by rw [hv1]; have h := BoxL.made w [.pointer (some ⟨p, 0, none⟩), .pointer (some ⟨q, 0, none⟩)] 52; exact h
  obtain ⟨v2, hv2⟩ : ∃ v, v = v1.alloc (.cells #[.pointer (some ⟨r, 0, none⟩), .pointer (some ⟨s, 0, none⟩)] 52) := ⟨_, rfl⟩
  have z2 : v2.heap.size = w.heap.size + 1 + 1 := by rw [hv2]; simp [z1]
  have bv2 : Below v1.heap.size v1 v2 := by rw [hv2]; exact below1 _ _
  have B0_2 := B0_1.trans (bv2.mono B0_1.size)
  have X0_2 := X0_1.below bv2 (Nat.le_refl _)
  have Y0_2 : BoxL v2 (w.heap.size + 1) (w.heap.size + 1) [.pointer (some ⟨r, 0, none⟩), .pointer (some ⟨s, 0, none⟩)] := by rw [hv2]; have h := BoxL.made v1 [.pointer (some ⟨r, 0, none⟩), .pointer (some ⟨s, 0, none⟩)] 52; rw [z1] at h; exact h
  obtain ⟨v3, hv3⟩ : ∃ v, v = v2.alloc (.cells #[.pointer none, .pointer none] 52) := ⟨_, rfl⟩
  have z3 : v3.heap.size = w.heap.size + 1 + 1 + 1 := by rw [hv3]; simp [z2]
  have bv3 : Below v2.heap.size v2 v3 := by rw [hv3]; exact below1 _ _
  have B0_3 := B0_2.trans (bv3.mono B0_2.size)
  have X0_3 := X0_2.below bv3 (Nat.le_refl _)
  have Y0_3 := Y0_2.below bv3 (Nat.le_refl _)
  have R0_3 : BoxL v3 (w.heap.size + 1 + 1) (w.heap.size + 1 + 1) [.pointer none, .pointer none] := by rw [hv3]; have h := BoxL.made v2 [.pointer none, .pointer none] 52; rw [z2] at h; exact h
  have X0 := X0_3
  have Y0 := Y0_3.mono (by omega : w.heap.size ≤ w.heap.size + 1)
  have R0 := R0_3.mono (by omega : w.heap.size ≤ w.heap.size + 1 + 1)
  have B0 := B0_3
  have sp0 := sp.below B0 sp.lt
  have lt_sp := sp.lt
  have sq0 := sq.below B0 sq.lt
  have lt_sq := sq.lt
  have sr0 := sr.below B0 sr.lt
  have lt_sr := sr.lt
  have ss0 := ss.below B0 ss.lt
  have lt_ss := ss.lt
  clear B0_0 B0_1 B0_2 B0_3 bv1 bv2 bv3 X0_1 X0_2 X0_3 Y0_2 Y0_3 R0_3
  clear sp sq sr ss
  go_enter Try.func29, Try.ntmps29
  go_wp2_with fail
  have hvv : ((w.alloc (.cells #[.pointer (some ⟨p, 0, none⟩), .pointer (some ⟨q, 0, none⟩)] 52)).alloc (.cells #[.pointer (some ⟨r, 0, none⟩), .pointer (some ⟨s, 0, none⟩)] 52)).alloc (.cells #[.pointer none, .pointer none] 52) = v3 := by rw [hv3]; rw [hv2]; rw [hv1]
  rw [hvv]
  clear hvv hv1 hv2 hv3 z1 z2
  clear v1 v2
  have hz0 : w.heap.size + 3 ≤ v3.heap.size := by omega
  clear z3
  refine (kP _ sp0 sq0 sr0 ss0).mono ?_
  rintro e w1 ⟨c, d, rfl, sc, sd, bb1⟩
  have B1 := B0.trans (bb1.mono B0.size)
  have X1 := X0.below bb1 (Nat.le_refl _)
  have Y1 := Y0.below bb1 (Nat.le_refl _)
  have R1 := R0.below bb1 (Nat.le_refl _)
  have sp1 := sp0.below bb1 sp0.lt
  have sq1 := sq0.below bb1 sq0.lt
  have sr1 := sr0.below bb1 sr0.lt
  have ss1 := ss0.below bb1 ss0.lt
  clear B0 X0 Y0 R0 sp0 sq0 sr0 ss0 bb1
  have sc1 := sc
  clear sc
  have sd1 := sd
  clear sd
  clear kP
  clear sp1 sq1 sr1 ss1
  go_wp2_with fail
  refine (kM c d _ sc1 sd1).mono ?_
  rintro e w2 ⟨c2, d2, rfl, sx, sy, bb2, hc, hd⟩
  have ge_sx : w.heap.size ≤ c2 := Nat.le_trans B1.size hc
  have lt_X_sx : w.heap.size < c2 := Nat.lt_of_lt_of_le X1.hi hc
  have lt_Y_sx : w.heap.size + 1 < c2 := Nat.lt_of_lt_of_le Y1.hi hc
  have lt_R_sx : w.heap.size + 1 + 1 < c2 := Nat.lt_of_lt_of_le R1.hi hc
  clear hc
  have ge_sy : w.heap.size ≤ d2 := Nat.le_trans B1.size hd
  have lt_X_sy : w.heap.size < d2 := Nat.lt_of_lt_of_le X1.hi hd
  have lt_Y_sy : w.heap.size + 1 < d2 := Nat.lt_of_lt_of_le Y1.hi hd
  have lt_R_sy : w.heap.size + 1 + 1 < d2 := Nat.lt_of_lt_of_le R1.hi hd
  clear hd
  have B2 := B1.trans (bb2.mono B1.size)
  have X2 := X1.below bb2 (Nat.le_refl _)
  have Y2 := Y1.below bb2 (Nat.le_refl _)
  have R2 := R1.below bb2 (Nat.le_refl _)
  have sc2 := sc1.below bb2 sc1.lt
  have sd2 := sd1.below bb2 sd1.lt
  clear B1 X1 Y1 R1 sc1 sd1 bb2
  have sx2 := sx
  clear sx
  have sy2 := sy
  clear sy
  clear kM
  clear sc2 sd2 X2 Y2
  have c_R_0 := R2.c 0 _ rfl
  have f_R_0 := R2.f 0 _ rfl
  have c_R_1 := R2.c 1 _ rfl
  have f_R_1 := R2.f 1 _ rfl
  obtain ⟨w3, hw3⟩ : ∃ v, v = (w2.setCell ⟨w.heap.size + 1 + 1, 0, none⟩ (.pointer (some ⟨c2, 0, none⟩))).setCell ⟨w.heap.size + 1 + 1, 1, none⟩ (.pointer (some ⟨d2, 0, none⟩)) := ⟨_, rfl⟩
  have t3 : Tn [w.heap.size + 1 + 1] w2 w3 := by rw [hw3]; exact ((tnL w2 (w.heap.size + 1 + 1) 0 (.pointer (some ⟨c2, 0, none⟩))).trans (tnL _ (w.heap.size + 1 + 1) 1 (.pointer (some ⟨d2, 0, none⟩))))
  have R3 : BoxL w3 w.heap.size (w.heap.size + 1 + 1) [.pointer (some ⟨c2, 0, none⟩), .pointer (some ⟨d2, 0, none⟩)] := by rw [hw3]; exact ((R2.set 0 (.pointer (some ⟨c2, 0, none⟩)) (by simp)).set 1 (.pointer (some ⟨d2, 0, none⟩)) (by simp))
  have lo3 := R2.lo
  have B3 := t3.below B2 B2.size (fun q hq => by simp at hq; omega)
  have sx3 := sx2.tnL t3 (not_one (by omega))
  have sy3 := sy2.tnL t3 (not_one (by omega))
  clear B2 R2 sx2 sy2 t3 lo3
  subst hw3
  go_wp2
  (try simp only [Exit.inBlock, Exit.then])
  refine bodyPost_ret (v := .agg #[.pointer (some ⟨c2, 0, none⟩), .pointer (some ⟨d2, 0, none⟩)]) ?_ rfl ⟨_, _, rfl, sx3, sy3, B3, ge_sx, ge_sy⟩
  rw [results_cell1 rfl]
  go_simp

end Go.Proofs.Ytlpfjpbnedankaa
