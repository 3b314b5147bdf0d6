/- Decide of the specification, by its contract. -/
import Derived.Test.YtnplnekfeabneaaHeldS
import Derived.Test.YtnplnekfeabneaaSRoundA
import Derived.Test.YtnplnekfeabneaaSWSub
import Derived.Test.YtnplnekfeabneaaWB
import Derived.Test.YtnplnekfeabneaaSWhole
import Derived.Test.YtnplnekfeabneaaModeS
namespace Go.Proofs.Ytnplnekfeabneaa
open Go.RowKit
set_option linter.unusedSimpArgs false

def decR (a : Vh) (p f m : Int) : Wh × Bool :=
  if heldOk a p f = true ∧ valW a.1 ≠ valW a.2 ∧ 0 ≤ m ∧ m ≤ 4 then
    (if fracI (valW a.1 * 2 + 1) (2 ^ (p + 1 - f).toNat) m = fracI (valW a.2 * 2 - 1) (2 ^ (p + 1 - f).toNat) m then fitW (fracI (valW a.1 * 2 + 1) (2 ^ (p + 1 - f).toNat) m) else ((false, []), false))
  else ((false, []), false)
theorem decR_len (a : Vh) (p f m : Int) : (decR a p f m).1.2.length ≤ 1048576 := by
  unfold decR
  split
  · split
    · exact fitW_len _
    · simp
  · simp
theorem cmpZ_eq (x y : Int) : (cmpZ x y == 0) = decide (x = y) := by
  unfold cmpZ
  by_cases h : x < y
  · rw [if_pos h, decide_eq_false (by omega)]; rfl
  · by_cases h2 : y < x
    · rw [if_neg h, if_pos h2, decide_eq_false (by omega)]; rfl
    · rw [if_neg h, if_neg h2, decide_eq_true (by omega)]; rfl
theorem dbl_len (x d : Int) (h : (limbs x.natAbs).length ≤ 48) (hd : d.natAbs ≤ 1) : (limbs (x * 2).natAbs).length ≤ 49 ∧ (limbs (x * 2 + d).natAbs).length ≤ 49 := by
  have h1 := limbs_lt x.natAbs
  have h2 : 16777216 ^ (limbs x.natAbs).length ≤ 16777216 ^ 48 := Nat.pow_le_pow_right (by omega) h
  have h3 : (16777216 : Nat) ^ 49 = 16777216 ^ 48 * 16777216 := Nat.pow_succ ..
  refine ⟨limbs_len_le _ 49 ?_, limbs_len_le _ 49 ?_⟩
  all_goals
    rw [h3]
    have h0 : 0 < (16777216 : Nat) ^ 48 := Nat.pow_pos (by omega)
    generalize (16777216 : Nat) ^ 48 = P at *
    omega

theorem heldOk_yes {a : Vh} {p f : Int} (h : heldOk a p f = true) : okV a = true ∧ (1 ≤ p ∧ p ≤ 480) ∧ (0 ≤ f ∧ f ≤ 60) ∧ f ≤ p := by
  unfold heldOk at h
  simp only [Bool.and_eq_true, decide_eq_true_eq] at h
  exact ⟨h.1.1.1, h.1.1.2, h.1.2, h.2⟩
theorem abs_ediv (x : Int) (k : Nat) : (x / 2 ^ k).natAbs ≤ x.natAbs := by
  have hp : (0 : Int) < 2 ^ k := Int.pow_pos (by omega)
  generalize (2 : Int) ^ k = n at *
  by_cases h : 0 ≤ x
  · have h1 := Int.ediv_nonneg h (Int.le_of_lt hp)
    have h2 := Int.ediv_le_self n h
    omega
  · have h1 : x ≤ x / n := (Int.le_ediv_iff_mul_le hp).2 (by
      have h3 : (-x) * 1 ≤ (-x) * n := Int.mul_le_mul_of_nonneg_left (by omega) (by omega)
      rw [Int.neg_mul, Int.neg_mul, Int.mul_one] at h3
      omega)
    have h2 : x / n < 0 := Int.ediv_neg_of_neg_of_pos (by omega) hp
    omega
theorem fracI_len48 (x : Int) (k : Nat) (m : Int) (h : (limbs x.natAbs).length ≤ 49) : (limbs (fracI x (2 ^ k) m).natAbs).length ≤ 1048576 := by
  have ha := abs_ediv x k
  have hp : (fracI x (2 ^ k) m).natAbs ≤ x.natAbs + 1 := by
    unfold fracI
    generalize x / 2 ^ k = q at *
    unfold pickI
    repeat' split
    all_goals omega
  have h1 := limbs_lt x.natAbs
  have h2 : 16777216 ^ (limbs x.natAbs).length ≤ 16777216 ^ 49 := Nat.pow_le_pow_right (by omega) h
  refine Nat.le_trans (limbs_len_le _ 50 ?_) (by omega)
  have h3 : (16777216 : Nat) ^ 50 = 16777216 ^ 49 * 16777216 := Nat.pow_succ ..
  rw [h3]
  have h0 : 0 < (16777216 : Nat) ^ 49 := Nat.pow_pos (by omega)
  generalize (16777216 : Nat) ^ 49 = P at *
  omega

set_option maxRecDepth 20000 in
set_option maxHeartbeats 6400000 in
theorem sDecide (va : Value) (a : Vh) (p f m : Int) (w : World) (ha : rowV w va a) (hl0 : a.1.2.length ≤ 1048576) (hl1 : a.2.2.length ≤ 1048576) :
    Calls Try.prog 5 #[va, .int .i64 p, .int .i64 f, .int .i64 m] w fun e w' => ∃ v, e = .returned (.tuple #[v, .bool (decR a p f m).2]) ∧ ownsW w' w.heap.size v (decR a p f m).1 ∧ Below w.heap.size w w' := by
  have kA := fun W (h : Below w.heap.size w W) => sHeld va a p f W (ha.below h (Nat.le_refl _)) hl0 hl1
  by_cases hok : heldOk a p f = true
  case neg =>
    have hf : heldOk a p f = false := by simpa using hok
    rw [hf] at kA
    have HN : Hid (decR a p f m = ((false, []), false)) := by show _ = _; unfold decR; rw [if_neg (fun q => hok q.1)]
    generalize decR a p f m = rr at *
    clear hok hf hl0 hl1
    obtain ⟨s, t, rfl, hs, ht⟩ := ha
    obtain ⟨ad, cap, rfl, -⟩ := id hs
    obtain ⟨ae, cbp, rfl, -⟩ := id ht
    obtain ⟨g, hg⟩ : ∃ g, a.1.1 = g := ⟨_, rfl⟩
    obtain ⟨g', hg'⟩ : ∃ g, a.2.1 = g := ⟨_, rfl⟩
    obtain ⟨len, hlen⟩ : ∃ l, a.1.2.length = l := ⟨_, rfl⟩
    obtain ⟨len2, hlen2⟩ : ∃ l, a.2.2.length = l := ⟨_, rfl⟩
    rw [hg, hg', hlen, hlen2] at kA
    rw [hg, hg', hlen, hlen2]
    clear hs ht hg hg' hlen hlen2
    have s1 : (w.alloc (.cells #[.bool g, .slice ad len cap, .bool g', .slice ae len2 cbp] 32)).heap.size = w.heap.size + 1 := by simp
    have V := (BoxV.made w (.bool g) (.slice ad len cap) (.bool g') (.slice ae len2 cbp) 32).below (below1 _ (.cells #[.bool false, .slice none 0 0] 28)) (Nat.le_refl _)
    have R := BoxW.made (w.alloc (.cells #[.bool g, .slice ad len cap, .bool g', .slice ae len2 cbp] 32)) (.bool false) (.slice none 0 0) 28
    rw [s1] at R
    have B := below2 w (.cells #[.bool g, .slice ad len cap, .bool g', .slice ae len2 cbp] 32) (.cells #[.bool false, .slice none 0 0] 28)
    clear s1
    go_enter Try.func5, Try.ntmps5
    go_wp2_with fail
    refine (kA _ B).mono ?_
    generalize (w.alloc (.cells #[.bool g, .slice ad len cap, .bool g', .slice ae len2 cbp] 32)).alloc (.cells #[.bool false, .slice none 0 0] 28) = w0 at *
    rintro e w1 ⟨rfl, b1⟩
    replace V := V.below b1 (Nat.le_refl _)
    replace R := R.below b1 (Nat.le_refl _)
    replace B := B.trans (b1.mono B.size)
    clear b1
    clear kA
    have Rc0 := R.c0
    have Rf0 := R.f0
    have Rc1 := R.c1
    have Rf1 := R.f1
    have HB := B
    clear V R B
    go_wp2
    (try simp only [Exit.inBlock, Exit.then])
    refine bodyPost_ret (v := .tuple #[.agg #[.bool false, .slice none 0 0], .bool false]) ?_ rfl ⟨_, by rw [HN.out], by rw [HN.out]; exact nilW _ _, ((HB.setCell (p := ⟨w.heap.size + 1, 0, none⟩) (by show w.heap.size ≤ w.heap.size + 1; omega) (.bool false)).setCell (p := ⟨w.heap.size + 1, 1, none⟩) (by show w.heap.size ≤ w.heap.size + 1; omega) (.slice none 0 0))⟩
    rw [results_cell_tmp rfl]
    go_simp
  have z := heldOk_yes hok
  have zv := okV_yes z.1
  have m1 := okW_lenV zv.1
  have m2 := okW_lenV zv.2.1
  obtain ⟨k, hk⟩ : ∃ k : Nat, p + 1 - f = k := ⟨(p + 1 - f).toNat, by omega⟩
  have hk1 : k ≤ 481 := by omega
  have p0 : 1 ≤ p := z.2.1.1
  have p1 : p ≤ 480 := z.2.1.2
  have f0 : 0 ≤ f := z.2.2.1.1
  have f1 : f ≤ 60 := z.2.2.1.2
  have hpf : p + 1 - f = (k : Int) := hk
  have hadd : IntKind.i64.wrap (IntKind.i64.wrap (p + 1) - f) = (k : Int) := by rw [IntKind.wrap_i64, IntKind.wrap_i64]; omega
  have hadd2 : IntKind.i64.wrap (p + 1 - f) = (k : Int) := by rw [IntKind.wrap_i64]; omega
  have e1 : a.1 = mkW (valW a.1) := mkW_of zv.1
  have e2 : a.2 = mkW (valW a.2) := mkW_of zv.2.1
  have kC : ∀ s t, rowI w s a.1.2 → rowI w t a.2.2 → ∀ W, Below w.heap.size w W → Calls Try.prog 15 #[.agg #[.bool a.1.1, s], .agg #[.bool a.2.1, t]] W (fun e w' => e = .returned (.int .i64 (cmpZ (valW a.1) (valW a.2))) ∧ Below W.heap.size W w') :=
    fun s t hs ht W h => sWCmp _ _ (valW a.1) (valW a.2) W (by rw [← e1]; exact ⟨_, rfl, hs.below h (Nat.le_refl _)⟩) (by rw [← e2]; exact ⟨_, rfl, ht.below h (Nat.le_refl _)⟩) (by omega) (by omega)
  have kL : ∀ s, rowI w s a.1.2 → ∀ W, Below w.heap.size w W → Calls Try.prog 19 #[.agg #[.bool a.1.1, s], .int .i64 1] W (fun e w' => ∃ v, e = .returned v ∧ ownsW w' W.heap.size v (mkW (valW a.1 * 2)) ∧ Below W.heap.size W w') :=
    fun s hs W h => sWUp _ (valW a.1) 1 W (by rw [← e1]; exact ⟨_, rfl, hs.below h (Nat.le_refl _)⟩) (by omega) (by omega)
  have kU : ∀ s, rowI w s a.2.2 → ∀ W, Below w.heap.size w W → Calls Try.prog 19 #[.agg #[.bool a.2.1, s], .int .i64 1] W (fun e w' => ∃ v, e = .returned v ∧ ownsW w' W.heap.size v (mkW (valW a.2 * 2)) ∧ Below W.heap.size W w') :=
    fun s hs W h => sWUp _ (valW a.2) 1 W (by rw [← e2]; exact ⟨_, rfl, hs.below h (Nat.le_refl _)⟩) (by omega) (by omega)
  have l1 := dbl_len (valW a.1) 1 m1 (by omega)
  have l2 := dbl_len (valW a.2) (-1) m2 (by omega)
  rw [show valW a.2 * 2 + -1 = valW a.2 * 2 - 1 by omega] at l2
  rw [hok] at kA
  have HD : Hid (decR a p f m = if valW a.1 ≠ valW a.2 ∧ 0 ≤ m ∧ m ≤ 4 then (if fracI (valW a.1 * 2 + 1) (2 ^ k) m = fracI (valW a.2 * 2 - 1) (2 ^ k) m then fitW (fracI (valW a.1 * 2 + 1) (2 ^ k) m) else ((false, []), false)) else ((false, []), false)) := by
    show _ = _
    unfold decR
    rw [hk, Int.toNat_natCast]
    by_cases q : valW a.1 ≠ valW a.2 ∧ 0 ≤ m ∧ m ≤ 4
    · rw [if_pos q, if_pos ⟨hok, q⟩]
    · rw [if_neg q, if_neg (fun q2 => q q2.2)]
  generalize decR a p f m = rr at *
  replace hk : Hid _ := hk
  clear hok z zv m1 m2 e1 e2 hl0 hl1
  obtain ⟨s, t, rfl, hs, ht⟩ := ha
  have kC := kC s t hs ht
  have kL := kL s hs
  have kU := kU t ht
  obtain ⟨ad, cap, rfl, -⟩ := id hs
  obtain ⟨ae, cbp, rfl, -⟩ := id ht
  obtain ⟨g, hg⟩ : ∃ g, a.1.1 = g := ⟨_, rfl⟩
  obtain ⟨g', hg'⟩ : ∃ g, a.2.1 = g := ⟨_, rfl⟩
  obtain ⟨len, hlen⟩ : ∃ l, a.1.2.length = l := ⟨_, rfl⟩
  obtain ⟨len2, hlen2⟩ : ∃ l, a.2.2.length = l := ⟨_, rfl⟩
  rw [hg, hg', hlen, hlen2] at kA kC
  rw [hg, hlen] at kL
  rw [hg', hlen2] at kU
  rw [hg, hg', hlen, hlen2]
  clear hs ht hg hg' hlen hlen2
  generalize valW a.1 = x at *
  generalize valW a.2 = y at *
  have hc := cmpZ_eq x y
  have kM := fun W => sModeAt m W
  have s1 : (w.alloc (.cells #[.bool g, .slice ad len cap, .bool g', .slice ae len2 cbp] 32)).heap.size = w.heap.size + 1 := by simp
  have V := (BoxV.made w (.bool g) (.slice ad len cap) (.bool g') (.slice ae len2 cbp) 32).below (below1 _ (.cells #[.bool false, .slice none 0 0] 28)) (Nat.le_refl _)
  have R := BoxW.made (w.alloc (.cells #[.bool g, .slice ad len cap, .bool g', .slice ae len2 cbp] 32)) (.bool false) (.slice none 0 0) 28
  rw [s1] at R
  have B := below2 w (.cells #[.bool g, .slice ad len cap, .bool g', .slice ae len2 cbp] 32) (.cells #[.bool false, .slice none 0 0] 28)
  clear s1
  go_enter Try.func5, Try.ntmps5
  go_wp2_with fail
  refine (kA _ B).mono ?_
  generalize (w.alloc (.cells #[.bool g, .slice ad len cap, .bool g', .slice ae len2 cbp] 32)).alloc (.cells #[.bool false, .slice none 0 0] 28) = w0 at *
  rintro e w1 ⟨rfl, b1⟩
  replace V := V.below b1 (Nat.le_refl _)
  replace R := R.below b1 (Nat.le_refl _)
  replace B := B.trans (b1.mono B.size)
  clear b1
  clear kA
  have Vc0 := V.c0
  have Vc1 := V.c1
  have Vc2 := V.c2
  have Vc3 := V.c3
  go_wp2_with fail
  clear Vc0 Vc1 Vc2 Vc3
  refine (kC _ B).mono ?_
  rintro e w2 ⟨rfl, b2⟩
  replace V := V.below b2 (Nat.le_refl _)
  replace R := R.below b2 (Nat.le_refl _)
  replace B := B.trans (b2.mono B.size)
  clear b2
  clear kC
  generalize cmpZ x y = cz at *
  by_cases hxy : x = y
  · have HN : Hid (rr = ((false, []), false)) := by show _ = _; rw [HD.out, if_neg (fun q => q.1 hxy)]
    rw [decide_eq_true hxy] at hc
    clear hxy HD l1 l2 kL kU kM
    have Rc0 := R.c0
    have Rf0 := R.f0
    have Rc1 := R.c1
    have Rf1 := R.f1
    have HB := B
    clear V R B
    go_wp2
    (try simp only [Exit.inBlock, Exit.then])
    refine bodyPost_ret (v := .tuple #[.agg #[.bool false, .slice none 0 0], .bool false]) ?_ rfl ⟨_, by rw [HN.out], by rw [HN.out]; exact nilW _ _, ((HB.setCell (p := ⟨w.heap.size + 1, 0, none⟩) (by show w.heap.size ≤ w.heap.size + 1; omega) (.bool false)).setCell (p := ⟨w.heap.size + 1, 1, none⟩) (by show w.heap.size ≤ w.heap.size + 1; omega) (.slice none 0 0))⟩
    rw [results_cell_tmp rfl]
    go_simp
  · rw [decide_eq_false hxy] at hc
    go_wp2_with fail
    refine (kM _).mono ?_
    rintro e w3 ⟨rfl, rfl⟩
    clear kM
    by_cases hm : 0 ≤ m ∧ m ≤ 4
    case neg =>
        have HN : Hid (rr = ((false, []), false)) := by show _ = _; rw [HD.out, if_neg (fun q => hm q.2)]
        rw [decide_eq_false hm]
        clear hm hxy HD l1 l2 kL kU
        have Rc0 := R.c0
        have Rf0 := R.f0
        have Rc1 := R.c1
        have Rf1 := R.f1
        have HB := B
        clear V R B
        go_wp2
        (try simp only [Exit.inBlock, Exit.then])
        refine bodyPost_ret (v := .tuple #[.agg #[.bool false, .slice none 0 0], .bool false]) ?_ rfl ⟨_, by rw [HN.out], by rw [HN.out]; exact nilW _ _, ((HB.setCell (p := ⟨w.heap.size + 1, 0, none⟩) (by show w.heap.size ≤ w.heap.size + 1; omega) (.bool false)).setCell (p := ⟨w.heap.size + 1, 1, none⟩) (by show w.heap.size ≤ w.heap.size + 1; omega) (.slice none 0 0))⟩
        rw [results_cell_tmp rfl]
        go_simp
    rw [decide_eq_true hm]
    have HD2 : Hid (rr = if fracI (x * 2 + 1) (2 ^ k) m = fracI (y * 2 - 1) (2 ^ k) m then fitW (fracI (x * 2 + 1) (2 ^ k) m) else ((false, []), false)) := by show _ = _; rw [HD.out, if_pos ⟨hxy, hm⟩]
    clear HD hxy
    have Vc0 := V.c0
    have Vc1 := V.c1
    have Vc2 := V.c2
    have Vc3 := V.c3
    go_wp2_with fail
    clear Vc0 Vc1 Vc2 Vc3
    refine (kL _ B).mono ?_
    rintro e w4 ⟨v4, rfl, o4, b4⟩
    replace V := V.below b4 (Nat.le_refl _)
    replace R := R.below b4 (Nat.le_refl _)
    replace B := B.trans (b4.mono B.size)
    clear b4
    clear kL
    go_wp2_with fail
    refine (sOne _).mono ?_
    rintro e w5 ⟨v5, rfl, o5, b5⟩
    have r4 := o4.row.below b5 (Nat.le_refl _)
    replace V := V.below b5 (Nat.le_refl _)
    replace R := R.below b5 (Nat.le_refl _)
    replace B := B.trans (b5.mono B.size)
    clear b5
    clear o4
    go_wp2_with fail
    refine (sWAdd _ _ (x * 2) 1 _ r4 o5.row (by omega) (by rw [show (1 : Int).natAbs = 1 from rfl]; exact Nat.le_trans (limbs_len_le 1 1 (by omega)) (by omega))).mono ?_
    rintro e w6 ⟨v6, rfl, o6, b6⟩
    replace V := V.below b6 (Nat.le_refl _)
    replace R := R.below b6 (Nat.le_refl _)
    replace B := B.trans (b6.mono B.size)
    clear b6
    clear r4 o5
    have hb6 := B.size
    have hR6 := R.hi
    go_wp2_with fail
    (try simp only [hadd, hadd2, hpf])
    refine (sAt _ (x * 2 + 1) k m _ o6.row (by omega) (by omega) hm.1 hm.2).mono ?_
    rintro e w7 ⟨v7, rfl, o7, b7⟩
    replace V := V.below b7 (Nat.le_refl _)
    replace R := R.below b7 (Nat.le_refl _)
    replace B := B.trans (b7.mono B.size)
    clear b7
    clear o6
    obtain ⟨X, hX⟩ : ∃ X, fracI (x * 2 + 1) (2 ^ k) m = X := ⟨_, rfl⟩
    rw [hX] at HD2 o7
    have o7k := o7
    obtain ⟨s7, rfl, q7⟩ := o7
    obtain ⟨ad7, cp7, rfl, -⟩ := q7.row
    have oA := o7k
    obtain ⟨n1, hn1⟩ : ∃ n, (mkW X).1 = n := ⟨_, rfl⟩
    obtain ⟨j1, hj1⟩ : ∃ n, (mkW X).2.length = n := ⟨_, rfl⟩
    rw [hn1, hj1] at oA
    rw [hn1, hj1]
    clear hn1 hj1 q7 o7k
    have bA := below1 w7 (.cells #[.bool n1, .slice ad7 j1 cp7] 28)
    have P := BoxW.made w7 (.bool n1) (.slice ad7 j1 cp7) 28
    have rA := oA.below bA (Nat.le_refl _)
    replace V := V.below bA (Nat.le_refl _)
    replace R := R.below bA (Nat.le_refl _)
    replace B := B.trans (bA.mono B.size)
    clear bA
    have Vc0 := V.c0
    have Vc1 := V.c1
    have Vc2 := V.c2
    have Vc3 := V.c3
    go_wp2_with fail
    clear Vc0 Vc1 Vc2 Vc3
    generalize w7.alloc (.cells #[.bool n1, .slice ad7 j1 cp7] 28) = w8 at *
    clear oA
    refine (kU _ B).mono ?_
    rintro e w9 ⟨v9, rfl, o9, b9⟩
    replace V := V.below b9 (Nat.le_refl _)
    replace R := R.below b9 (Nat.le_refl _)
    replace P := P.below b9 (Nat.le_refl _)
    replace rA := rA.below b9 (Nat.le_refl _)
    replace B := B.trans (b9.mono B.size)
    clear b9
    clear kU
    go_wp2_with fail
    refine (sOne _).mono ?_
    rintro e w10 ⟨v10, rfl, o10, b10⟩
    have r9 := o9.row.below b10 (Nat.le_refl _)
    replace V := V.below b10 (Nat.le_refl _)
    replace R := R.below b10 (Nat.le_refl _)
    replace P := P.below b10 (Nat.le_refl _)
    replace rA := rA.below b10 (Nat.le_refl _)
    replace B := B.trans (b10.mono B.size)
    clear b10
    clear o9
    go_wp2_with fail
    refine (sWSub _ _ (y * 2) 1 _ r9 o10.row (by omega) (by rw [show (1 : Int).natAbs = 1 from rfl]; exact Nat.le_trans (limbs_len_le 1 1 (by omega)) (by omega))).mono ?_
    rintro e w11 ⟨v11, rfl, o11, b11⟩
    replace V := V.below b11 (Nat.le_refl _)
    replace R := R.below b11 (Nat.le_refl _)
    replace P := P.below b11 (Nat.le_refl _)
    replace rA := rA.below b11 (Nat.le_refl _)
    replace B := B.trans (b11.mono B.size)
    clear b11
    clear r9 o10
    go_wp2_with fail
    (try simp only [hadd, hadd2, hpf])
    refine (sAt _ (y * 2 - 1) k m _ o11.row (by omega) (by omega) hm.1 hm.2).mono ?_
    rintro e w12 ⟨v12, rfl, o12, b12⟩
    replace V := V.below b12 (Nat.le_refl _)
    replace R := R.below b12 (Nat.le_refl _)
    replace P := P.below b12 (Nat.le_refl _)
    replace rA := rA.below b12 (Nat.le_refl _)
    replace B := B.trans (b12.mono B.size)
    clear b12
    clear o11
    obtain ⟨Y, hY⟩ : ∃ Y, fracI (y * 2 - 1) (2 ^ k) m = Y := ⟨_, rfl⟩
    rw [hY] at HD2 o12
    have o12k := o12
    obtain ⟨s12, rfl, q12⟩ := o12
    obtain ⟨ad12, cp12, rfl, -⟩ := q12.row
    have oC := o12k
    obtain ⟨n2, hn2⟩ : ∃ n, (mkW Y).1 = n := ⟨_, rfl⟩
    obtain ⟨j2, hj2⟩ : ∃ n, (mkW Y).2.length = n := ⟨_, rfl⟩
    rw [hn2, hj2] at oC
    rw [hn2, hj2]
    clear hn2 hj2 q12 o12k
    have bC := below1 w12 (.cells #[.bool n2, .slice ad12 j2 cp12] 28)
    have Q := BoxW.made w12 (.bool n2) (.slice ad12 j2 cp12) 28
    have rC := oC.below bC (Nat.le_refl _)
    replace V := V.below bC (Nat.le_refl _)
    replace R := R.below bC (Nat.le_refl _)
    replace P := P.below bC (Nat.le_refl _)
    replace rA := rA.below bC (Nat.le_refl _)
    replace B := B.trans (bC.mono B.size)
    clear bC
    clear oC
    have Pc0 := P.c0
    have Pc1 := P.c1
    go_wp2_with fail
    clear Pc0 Pc1
    generalize w12.alloc (.cells #[.bool n2, .slice ad12 j2 cp12] 28) = w13 at *
    have lX : (limbs X.natAbs).length ≤ 1048576 := by rw [← hX]; exact fracI_len48 _ k m (by omega)
    have lY : (limbs Y.natAbs).length ≤ 1048576 := by rw [← hY]; exact fracI_len48 _ k m (by omega)
    refine (sWCmp _ _ X Y _ rA.row rC.row lX lY).mono ?_
    rintro e w14 ⟨rfl, b14⟩
    replace V := V.below b14 (Nat.le_refl _)
    replace R := R.below b14 (Nat.le_refl _)
    replace P := P.below b14 (Nat.le_refl _)
    replace rA := rA.below b14 (Nat.le_refl _)
    replace Q := Q.below b14 (Nat.le_refl _)
    replace rC := rC.below b14 (Nat.le_refl _)
    replace B := B.trans (b14.mono B.size)
    clear b14
    have hc2 := cmpZ_eq X Y
    generalize cmpZ X Y = cz2 at *
    clear hX hY
    by_cases hXY : X = Y
    · rw [decide_eq_true hXY] at hc2
      have HN : Hid (rr = fitW X) := by show _ = _; rw [HD2.out, if_pos hXY]
      clear HD2 hXY
      have Pc0 := P.c0
      have Pc1 := P.c1
      go_wp2_with fail
      clear Pc0 Pc1
      refine (sWFits _ X _ _ rA).mono ?_
      rintro e w15 ⟨v15, rfl, o15, b15⟩
      replace V := V.below b15 (Nat.le_refl _)
      replace R := R.below b15 (Nat.le_refl _)
      replace P := P.below b15 (Nat.le_refl _)
      replace rA := rA.below b15 (Nat.le_refl _)
      replace Q := Q.below b15 (Nat.le_refl _)
      replace rC := rC.below b15 (Nat.le_refl _)
      replace B := B.trans (b15.mono B.size)
      clear b15
      obtain ⟨r3, hr3⟩ : ∃ r, fitW X = r := ⟨_, rfl⟩
      rw [hr3] at o15 HN
      rw [hr3]
      obtain ⟨⟨n3, l3⟩, ok3⟩ := r3
      obtain ⟨s15, rfl, q15⟩ := o15
      obtain ⟨ad15, cp15, rfl, -⟩ := q15.row
      have q15k : ownsI w15 w6.heap.size (.slice ad15 l3.length cp15) l3 := q15
      clear q15 hr3
      have Rc0 := R.c0
      have Rf0 := R.f0
      have Rc1 := R.c1
      have Rf1 := R.f1
      have HB := B
      have HQ : Hid (ownsI w15 w6.heap.size (.slice ad15 l3.length cp15) l3) := q15k
      clear V R P Q rA rC B q15k
      go_wp2
      (try simp only [Exit.inBlock, Exit.then])
      refine bodyPost_ret (v := .tuple #[.agg #[.bool n3, .slice ad15 l3.length cp15], .bool ok3]) ?_ rfl ⟨_, by rw [HN.out], by rw [HN.out]; exact ⟨_, rfl, ownsI_mono ((HQ.out.other (w.heap.size + 1) 0 (by omega) (.bool n3)).other (w.heap.size + 1) 1 (by omega) (.slice ad15 l3.length cp15)) hb6⟩, ((HB.setCell (p := ⟨w.heap.size + 1, 0, none⟩) (by show w.heap.size ≤ w.heap.size + 1; omega) (.bool n3)).setCell (p := ⟨w.heap.size + 1, 1, none⟩) (by show w.heap.size ≤ w.heap.size + 1; omega) (.slice ad15 l3.length cp15))⟩
      rw [results_cell_tmp rfl]
      go_simp
    · rw [decide_eq_false hXY] at hc2
      have HN : Hid (rr = ((false, []), false)) := by show _ = _; rw [HD2.out, if_neg hXY]
      clear HD2 hXY P Q rA rC
      have Rc0 := R.c0
      have Rf0 := R.f0
      have Rc1 := R.c1
      have Rf1 := R.f1
      have HB := B
      clear V R B
      go_wp2
      (try simp only [Exit.inBlock, Exit.then])
      refine bodyPost_ret (v := .tuple #[.agg #[.bool false, .slice none 0 0], .bool false]) ?_ rfl ⟨_, by rw [HN.out], by rw [HN.out]; exact nilW _ _, ((HB.setCell (p := ⟨w.heap.size + 1, 0, none⟩) (by show w.heap.size ≤ w.heap.size + 1; omega) (.bool false)).setCell (p := ⟨w.heap.size + 1, 1, none⟩) (by show w.heap.size ≤ w.heap.size + 1; omega) (.slice none 0 0))⟩
      rw [results_cell_tmp rfl]
      go_simp

end Go.Proofs.Ytnplnekfeabneaa
