/- Near of the program, by its contract. -/
import Derived.Test.YtdpcobcaodlgiaaNearS
namespace Go.Proofs.Ytdpcobcaodlgiaa
open Go.RowKit
set_option linter.unusedSimpArgs false

theorem abs_ediv (x : Int) (k : Nat) : (x / 2 ^ k).natAbs ≤ x.natAbs := by
  have hp : (0 : Int) < 2 ^ k := Int.pow_pos (by omega)
  generalize (2 : Int) ^ k = n at *
  by_cases h : 0 ≤ x
  · have h1 := Int.ediv_nonneg h (Int.le_of_lt hp)
    have h2 := Int.ediv_le_self n h
    omega
  · have h1 : x ≤ x / n := (Int.le_ediv_iff_mul_le hp).2 (by
      have h3 : (-x) * 1 ≤ (-x) * n := Int.mul_le_mul_of_nonneg_left (by omega) (by omega)
      rw [Int.neg_mul, Int.neg_mul, Int.mul_one] at h3
      omega)
    have h2 : x / n < 0 := Int.ediv_neg_of_neg_of_pos (by omega) hp
    omega
theorem mvLo_down (x : Int) (k : Nat) : mvLo x (-(k : Int)) = x / 2 ^ k := by
  unfold mvLo
  by_cases h : 0 ≤ -(k : Int)
  · obtain rfl : k = 0 := by omega
    simp
  · rw [if_neg h, show (-(-(k : Int))).toNat = k by omega]
theorem mvHi_down (x : Int) (k : Nat) : mvHi x (-(k : Int)) = -(-x / 2 ^ k) := by
  unfold mvHi
  by_cases h : 0 ≤ -(k : Int)
  · obtain rfl : k = 0 := by omega
    simp
  · rw [if_neg h, show (-(-(k : Int))).toNat = k by omega]

set_option maxRecDepth 20000 in
set_option maxHeartbeats 6400000 in
theorem iNear (va : Value) (a : Vh) (p f : Int) (w : World) (ha : rowV w va a) (hl0 : a.1.2.length ≤ 1048576) (hl1 : a.2.2.length ≤ 1048576) :
    Calls Try.prog 15 #[va, .int .i64 p, .int .i64 f] w fun e w' => ∃ v0 v1, e = .returned (.tuple #[v0, v1]) ∧ ownsW w' w.heap.size v0 (nearR a p f).1 ∧ ownsW w' w.heap.size v1 (nearR a p f).2 ∧ Apart (blkW v0) (blkW v1) ∧ Below w.heap.size w w' := by
  have kA := fun W (h : Below w.heap.size w W) => heldAt_c va a p f W (ha.below h (Nat.le_refl _)) hl0 hl1
  by_cases hok : heldOk a p f = true
  case neg =>
    have hf : heldOk a p f = false := by simpa using hok
    rw [hf] at kA
    have HN : Hid (nearR a p f = ((false, []), (false, []))) := by show _ = _; unfold nearR; rw [if_neg hok]
    obtain ⟨rr, hr⟩ : ∃ r, nearR a p f = r := ⟨_, rfl⟩
    rw [hr] at HN
    rw [hr]
    clear hr
    clear hok hf hl0 hl1
    obtain ⟨s, t, rfl, hs, ht⟩ := ha
    obtain ⟨ad, cap, rfl, -⟩ := id hs
    obtain ⟨ae, cbp, rfl, -⟩ := id ht
    obtain ⟨g, hg⟩ : ∃ g, a.1.1 = g := ⟨_, rfl⟩
    obtain ⟨g', hg'⟩ : ∃ g, a.2.1 = g := ⟨_, rfl⟩
    obtain ⟨len, hlen⟩ : ∃ l, a.1.2.length = l := ⟨_, rfl⟩
    obtain ⟨len2, hlen2⟩ : ∃ l, a.2.2.length = l := ⟨_, rfl⟩
    rw [hg, hg', hlen, hlen2] at kA
    skip
    skip
    rw [hg, hg', hlen, hlen2]
    clear hs ht hg hg' hlen hlen2
    have s1 : (w.alloc (.cells #[.bool g, .slice ad len cap, .bool g', .slice ae len2 cbp] 30)).heap.size = w.heap.size + 1 := by simp
    have s2 : ((w.alloc (.cells #[.bool g, .slice ad len cap, .bool g', .slice ae len2 cbp] 30)).alloc (.cells #[.bool false, .slice none 0 0] 28)).heap.size = w.heap.size + 2 := by simp
    have X0 := ((BoxV.made w (.bool g) (.slice ad len cap) (.bool g') (.slice ae len2 cbp) 30).below (below1 _ (.cells #[.bool false, .slice none 0 0] 28)) (Nat.le_refl _)).below (below1 _ (.cells #[.bool false, .slice none 0 0] 28)) (Nat.le_refl _)
    have R0 := (BoxW.made (w.alloc (.cells #[.bool g, .slice ad len cap, .bool g', .slice ae len2 cbp] 30)) (.bool false) (.slice none 0 0) 28).below (below1 _ (.cells #[.bool false, .slice none 0 0] 28)) (Nat.le_refl _)
    rw [s1] at R0
    have Z0 := BoxW.made ((w.alloc (.cells #[.bool g, .slice ad len cap, .bool g', .slice ae len2 cbp] 30)).alloc (.cells #[.bool false, .slice none 0 0] 28)) (.bool false) (.slice none 0 0) 28
    rw [s2] at Z0
    have B0 := below3 w (.cells #[.bool g, .slice ad len cap, .bool g', .slice ae len2 cbp] 30) (.cells #[.bool false, .slice none 0 0] 28) (.cells #[.bool false, .slice none 0 0] 28)
    clear s1 s2
    go_enter Try.func15, Try.ntmps15
    go_wp2_with fail
    refine (kA _ B0).mono ?_
    generalize ((w.alloc (.cells #[.bool g, .slice ad len cap, .bool g', .slice ae len2 cbp] 30)).alloc (.cells #[.bool false, .slice none 0 0] 28)).alloc (.cells #[.bool false, .slice none 0 0] 28) = w0 at *
    rintro e w1' ⟨X, Y, rfl, b1', hXY⟩
    have bF := below1 w1' (.cells #[.pointer X, .pointer Y] 54)
    have b1 := b1'.trans (bF.mono b1'.size)
    have R1 := R0.below b1 (Nat.le_refl _)
    have Z1 := Z0.below b1 (Nat.le_refl _)
    have B1 := B0.trans (b1.mono B0.size)
    have r00 := R1.c0
    have f00 := R1.f0
    have r01 := R1.c1
    have f01 := R1.f1
    have r10 := Z1.c0
    have f10 := Z1.f0
    have r11 := Z1.c1
    have f11 := Z1.f1
    have HB : Hid (Below w.heap.size w _) := ((((B1.setCell (p := ⟨w.heap.size + 1, 0, none⟩) (by show w.heap.size ≤ w.heap.size + 1; omega) (.bool false)).setCell (p := ⟨w.heap.size + 1, 1, none⟩) (by show w.heap.size ≤ w.heap.size + 1; omega) (.slice none 0 0)).setCell (p := ⟨w.heap.size + 2, 0, none⟩) (by show w.heap.size ≤ w.heap.size + 2; omega) (.bool false)).setCell (p := ⟨w.heap.size + 2, 1, none⟩) (by show w.heap.size ≤ w.heap.size + 2; omega) (.slice none 0 0))
    clear R0 R1 Z0 Z1 X0 B0 B1 b1 b1' bF hXY kA
    go_wp2
    (try simp only [Exit.inBlock, Exit.then])
    refine bodyPost_ret (v := .tuple #[.agg #[.bool false, .slice none 0 0], .agg #[.bool false, .slice none 0 0]]) ?_ rfl ⟨_, _, rfl, by rw [HN.out]; exact nilW _ _, by rw [HN.out]; exact nilW _ _, nilApart, HB.out⟩
    rw [results_two rfl]
    go_simp
  have z := heldOk_yes hok
  have zv := okV_yes z.1
  have m1 := okW_lenV zv.1
  have m2 := okW_lenV zv.2.1
  obtain ⟨k, hk⟩ : ∃ k : Nat, p - f = k := ⟨(p - f).toNat, by omega⟩
  have hk2 : f - p = -(k : Int) := by omega
  have kS := fun i j W h1 h2 => movedSpan_c i j (valW a.1) (valW a.2) p f W h1 h2 (by omega) (by omega) (by omega) (by omega)
  rw [hk2, mvLo_down, mvHi_down] at kS
  unfold spanE at kS
  have n1' : (limbs (valW a.1 / 2 ^ k).natAbs).length ≤ 48 := Nat.le_trans (limbs_mono (abs_ediv _ k)) m1
  have n2' : (limbs (-(-(valW a.2) / 2 ^ k)).natAbs).length ≤ 48 := by
    rw [Int.natAbs_neg]
    exact Nat.le_trans (limbs_mono (abs_ediv _ k)) (by rw [Int.natAbs_neg]; exact m2)
  have kf := fun i j W h1 h2 => ivFrom_c i j (valW a.1 / 2 ^ k) (-(-(valW a.2) / 2 ^ k)) W h1 h2
  rw [fitV_sm _ _ n1' n2'] at kf
  have HN : Hid (nearR a p f = (mkW (valW a.1 / 2 ^ k), mkW (-(-(valW a.2) / 2 ^ k)))) := by show _ = _; unfold nearR; rw [if_pos hok, hk, Int.toNat_natCast]
  obtain ⟨rr, hr⟩ : ∃ r, nearR a p f = r := ⟨_, rfl⟩
  rw [hr] at HN
  rw [hr]
  clear hr
  rw [hok] at kA
  clear hok z zv m1 m2 n1' n2' hk hk2 hl0 hl1
  generalize (fitV (valW a.1 / 2 ^ k) (-(-(valW a.2) / 2 ^ k))).2 = ok3 at *
  generalize mkW (valW a.1 / 2 ^ k) = m1 at *
  generalize mkW (-(-(valW a.2) / 2 ^ k)) = m2 at *
  generalize valW a.1 / 2 ^ k = d1 at *
  generalize -(-(valW a.2) / 2 ^ k) = d2 at *
  generalize valW a.1 = x at *
  generalize valW a.2 = y at *
  obtain ⟨n1, l1⟩ := m1
  obtain ⟨n2, l2⟩ := m2
  obtain ⟨s, t, rfl, hs, ht⟩ := ha
  obtain ⟨ad, cap, rfl, -⟩ := id hs
  obtain ⟨ae, cbp, rfl, -⟩ := id ht
  obtain ⟨g, hg⟩ : ∃ g, a.1.1 = g := ⟨_, rfl⟩
  obtain ⟨g', hg'⟩ : ∃ g, a.2.1 = g := ⟨_, rfl⟩
  obtain ⟨len, hlen⟩ : ∃ l, a.1.2.length = l := ⟨_, rfl⟩
  obtain ⟨len2, hlen2⟩ : ∃ l, a.2.2.length = l := ⟨_, rfl⟩
  rw [hg, hg', hlen, hlen2] at kA
  skip
  skip
  rw [hg, hg', hlen, hlen2]
  clear hs ht hg hg' hlen hlen2
  have s1 : (w.alloc (.cells #[.bool g, .slice ad len cap, .bool g', .slice ae len2 cbp] 30)).heap.size = w.heap.size + 1 := by simp
  have s2 : ((w.alloc (.cells #[.bool g, .slice ad len cap, .bool g', .slice ae len2 cbp] 30)).alloc (.cells #[.bool false, .slice none 0 0] 28)).heap.size = w.heap.size + 2 := by simp
  have X0 := ((BoxV.made w (.bool g) (.slice ad len cap) (.bool g') (.slice ae len2 cbp) 30).below (below1 _ (.cells #[.bool false, .slice none 0 0] 28)) (Nat.le_refl _)).below (below1 _ (.cells #[.bool false, .slice none 0 0] 28)) (Nat.le_refl _)
  have R0 := (BoxW.made (w.alloc (.cells #[.bool g, .slice ad len cap, .bool g', .slice ae len2 cbp] 30)) (.bool false) (.slice none 0 0) 28).below (below1 _ (.cells #[.bool false, .slice none 0 0] 28)) (Nat.le_refl _)
  rw [s1] at R0
  have Z0 := BoxW.made ((w.alloc (.cells #[.bool g, .slice ad len cap, .bool g', .slice ae len2 cbp] 30)).alloc (.cells #[.bool false, .slice none 0 0] 28)) (.bool false) (.slice none 0 0) 28
  rw [s2] at Z0
  have B0 := below3 w (.cells #[.bool g, .slice ad len cap, .bool g', .slice ae len2 cbp] 30) (.cells #[.bool false, .slice none 0 0] 28) (.cells #[.bool false, .slice none 0 0] 28)
  clear s1 s2
  go_enter Try.func15, Try.ntmps15
  go_wp2_with fail
  refine (kA _ B0).mono ?_
  generalize ((w.alloc (.cells #[.bool g, .slice ad len cap, .bool g', .slice ae len2 cbp] 30)).alloc (.cells #[.bool false, .slice none 0 0] 28)).alloc (.cells #[.bool false, .slice none 0 0] 28) = w0 at *
  rintro e w1' ⟨X, Y, rfl, b1', hXY⟩
  have bF := below1 w1' (.cells #[.pointer X, .pointer Y] 54)
  have b1 := b1'.trans (bF.mono b1'.size)
  have R1 := R0.below b1 (Nat.le_refl _)
  have Z1 := Z0.below b1 (Nat.le_refl _)
  have B1 := B0.trans (b1.mono B0.size)
  obtain ⟨i, j, rfl, rfl, sp, sq⟩ := hXY (by first | exact trivial | rfl)
  have sp1 := sp.below bF sp.lt
  have sq1 := sq.below bF sq.lt
  have E1 := BoxW.made w1' (.pointer (some ⟨i, 0, none⟩)) (.pointer (some ⟨j, 0, none⟩)) 54
  have c0 := E1.c0
  have c1 := E1.c1
  clear hXY kA R0 Z0 B0 b1 b1' X0 sp sq bF
  go_wp2_with fail
  refine (kS i j _ sp1 sq1).mono ?_
  rintro e w4 ⟨c, d, rfl, sc, sd, b4⟩
  have R4 := R1.below b4 (Nat.le_refl _)
  have Z4 := Z1.below b4 (Nat.le_refl _)
  have B4 := B1.trans (b4.mono B1.size)
  clear kS sp1 sq1 E1 c0 c1
  go_wp2_with fail
  refine (kf c d _ sc sd).mono ?_
  rintro e w6 ⟨v6, rfl, o6, b6⟩
  obtain ⟨s3, s4, rfl, q3, q4, hap⟩ := o6
  obtain ⟨ad3, cp3, rfl, -⟩ := q3.row
  obtain ⟨ad4, cp4, rfl, -⟩ := q4.row
  have q3' : ownsI w6 w4.heap.size (.slice ad3 l1.length cp3) l1 := q3
  have q4' : ownsI w6 w4.heap.size (.slice ad4 l2.length cp4) l2 := q4
  have hR4 := R4.hi
  have hZ4 := Z4.hi
  have R6 := R4.below b6 (Nat.le_refl _)
  have Z6 := Z4.below b6 (Nat.le_refl _)
  have B6 := B4.trans (b6.mono B4.size)
  have hR6 := R6.hi
  have hZ6 := Z6.hi
  have bG := below1 w6 (.cells #[.bool n1, .slice ad3 l1.length cp3, .bool n2, .slice ad4 l2.length cp4] 30)
  have V7 := BoxV.made w6 (.bool n1) (.slice ad3 l1.length cp3) (.bool n2) (.slice ad4 l2.length cp4) 30
  have R7 := R6.below bG (Nat.le_refl _)
  have Z7 := Z6.below bG (Nat.le_refl _)
  have B7 := B6.trans (bG.mono B6.size)
  have q37 := ownsI.below q3' bG (Nat.le_refl _)
  have q47 := ownsI.below q4' bG (Nat.le_refl _)
  clear q3 q4 q3' q4' R1 R4 R6 Z1 Z4 Z6 B1 B6 b4 b6 bG sc sd kf
  have hb4 := B4.size
  clear B4
  go_wp2_with fail
  generalize w6.alloc (.cells #[.bool n1, .slice ad3 l1.length cp3, .bool n2, .slice ad4 l2.length cp4] 30) = w8 at *
  generalize w6.heap.size = f10 at *
  have bd' := (Below.refl w8.heap.size w8).drew
  have V9 := V7.below bd' (Nat.le_refl _)
  have R9 := R7.below bd' (Nat.le_refl _)
  have Z9 := Z7.below bd' (Nat.le_refl _)
  have B9 := B7.trans (bd'.mono B7.size)
  have q39 := ownsI.below q37 bd' (Nat.le_refl _)
  have q49 := ownsI.below q47 bd' (Nat.le_refl _)
  refine wp_region_held_drew (S := fun W => W.cell? ⟨f10, 0, none⟩ = some (.bool n1) ∧ W.cell? ⟨f10, 1, none⟩ = some (.slice ad3 l1.length cp3) ∧ W.cell? ⟨f10, 2, none⟩ = some (.bool n2) ∧ W.cell? ⟨f10, 3, none⟩ = some (.slice ad4 l2.length cp4)) (by kernel_rfl) ⟨V9.c0, V9.c1, V9.c2, V9.c3⟩ ?_
  intro hHeld
  generalize w8.drew = w9 at *
  refine takeH 0 (some 31) (.pointer (some ⟨f10, 0, none⟩)) rfl rfl (by kernel_rfl) (by kernel_rfl) (by kernel_rfl) (fun _ _ _ h => h) (Or.inl ⟨rfl, fun W hW => by obtain _ := hW; go_simp⟩) (by assumption) ?_
  simp only [Act.put, List.setIfInBounds_toArray, List.set_cons_zero, List.set_cons_succ]
  refine takeH 1 (some 32) (.agg #[.bool n1, .slice ad3 l1.length cp3]) rfl rfl (by kernel_rfl) (by kernel_rfl) (by kernel_rfl) (fun _ _ _ h => h) (Or.inl ⟨rfl, fun W hW => by obtain ⟨_a, _b, _⟩ := hW; go_simp⟩) (by assumption) ?_
  simp only [Act.put, List.setIfInBounds_toArray, List.set_cons_zero, List.set_cons_succ]
  refine takeH 2 (some 33) (.pointer (some ⟨f10, 2, none⟩)) rfl rfl (by kernel_rfl) (by kernel_rfl) (by kernel_rfl) (fun _ _ _ h => h) (Or.inl ⟨rfl, fun W hW => by obtain _ := hW; go_simp⟩) (by assumption) ?_
  simp only [Act.put, List.setIfInBounds_toArray, List.set_cons_zero, List.set_cons_succ]
  refine takeH 3 (some 34) (.agg #[.bool n2, .slice ad4 l2.length cp4]) rfl rfl (by kernel_rfl) (by kernel_rfl) (by kernel_rfl) (fun _ _ _ h => h) (Or.inl ⟨rfl, fun W hW => by obtain ⟨_, _, _a, _b⟩ := hW; go_simp⟩) (by assumption) ?_
  simp only [Act.put, List.setIfInBounds_toArray, List.set_cons_zero, List.set_cons_succ]
  have r00 := R9.c0
  have f00 := R9.f0
  have r01 := R9.c1
  have f01 := R9.f1
  have X7 := V9.tn ((tnC w9 (w.heap.size + 1) 0 (.bool n1)).trans (tnC _ (w.heap.size + 1) 1 (.slice ad3 l1.length cp3))) (fun k hk hs => by simp at hk hs; omega)
  have Z10 := Z9.tn ((tnC w9 (w.heap.size + 1) 0 (.bool n1)).trans (tnC _ (w.heap.size + 1) 1 (.slice ad3 l1.length cp3))) (fun k hk hs => by simp at hk hs; omega)
  refine oneH 4 rfl (by kernel_rfl) (fun K' hK => ?_)
  go_simp
  refine hK _ _ ⟨X7.c0, X7.c1, X7.c2, X7.c3⟩ ?_
  clear hK
  have r10 := Z10.c0
  have f10' := Z10.f0
  have r11 := Z10.c1
  have f11 := Z10.f1
  have X8 := X7.tn ((tnC ((w9.setCell ⟨w.heap.size + 1, 0, none⟩ (.bool n1)).setCell ⟨w.heap.size + 1, 1, none⟩ (.slice ad3 l1.length cp3)) (w.heap.size + 2) 0 (.bool n2)).trans (tnC _ (w.heap.size + 2) 1 (.slice ad4 l2.length cp4))) (fun k hk hs => by simp at hk hs; omega)
  refine oneH 5 rfl (by kernel_rfl) (fun K' hK => ?_)
  go_simp
  refine hK _ _ ⟨X8.c0, X8.c1, X8.c2, X8.c3⟩ ?_
  refine wpAnyH_done (by kernel_rfl) ?_ _
  have HA : Hid (ownsI _ w4.heap.size (.slice ad3 l1.length cp3) l1) := ((((q39.other (w.heap.size + 1) 0 (by omega) (.bool n1)).other (w.heap.size + 1) 1 (by omega) (.slice ad3 l1.length cp3)).other (w.heap.size + 2) 0 (by omega) (.bool n2)).other (w.heap.size + 2) 1 (by omega) (.slice ad4 l2.length cp4))
  have HZ : Hid (ownsI _ w4.heap.size (.slice ad4 l2.length cp4) l2) := ((((q49.other (w.heap.size + 1) 0 (by omega) (.bool n1)).other (w.heap.size + 1) 1 (by omega) (.slice ad3 l1.length cp3)).other (w.heap.size + 2) 0 (by omega) (.bool n2)).other (w.heap.size + 2) 1 (by omega) (.slice ad4 l2.length cp4))
  have HB : Hid (Below w.heap.size w _) := ((((B9.setCell (p := ⟨w.heap.size + 1, 0, none⟩) (by show w.heap.size ≤ w.heap.size + 1; omega) (.bool n1)).setCell (p := ⟨w.heap.size + 1, 1, none⟩) (by show w.heap.size ≤ w.heap.size + 1; omega) (.slice ad3 l1.length cp3)).setCell (p := ⟨w.heap.size + 2, 0, none⟩) (by show w.heap.size ≤ w.heap.size + 2; omega) (.bool n2)).setCell (p := ⟨w.heap.size + 2, 1, none⟩) (by show w.heap.size ≤ w.heap.size + 2; omega) (.slice ad4 l2.length cp4))
  have HP : Hid (Apart (blkI (.slice ad3 l1.length cp3)) (blkI (.slice ad4 l2.length cp4))) := hap
  clear hK hHeld q37 q47 q39 q49 V7 V9 X7 X8 R7 R9 Z7 Z9 Z10 B7 B9 hap bd'
  go_wp2
  (try simp only [Exit.inBlock, Exit.then])
  refine bodyPost_ret (v := .tuple #[.agg #[.bool n1, .slice ad3 l1.length cp3], .agg #[.bool n2, .slice ad4 l2.length cp4]]) ?_ rfl ⟨_, _, rfl, by rw [HN.out]; exact ⟨_, rfl, ownsI_mono HA.out hb4⟩, by rw [HN.out]; exact ⟨_, rfl, ownsI_mono HZ.out hb4⟩, HP.out, HB.out⟩
  rw [results_two rfl]
  go_simp

theorem nearR_len (a : Vh) (p f : Int) : (nearR a p f).1.2.length ≤ 1048576 ∧ (nearR a p f).2.2.length ≤ 1048576 := by
  unfold nearR
  split
  · next h =>
    have z := heldOk_yes h
    have zv := okV_yes z.1
    have m1 := okW_lenV zv.1
    have m2 := okW_lenV zv.2.1
    refine ⟨?_, ?_⟩
    · show (mkW _).2.length ≤ _
      exact Nat.le_trans (Nat.le_trans (limbs_mono (abs_ediv _ _)) m1) (by omega)
    · show (mkW _).2.length ≤ _
      refine Nat.le_trans (Nat.le_trans (limbs_mono (n := (-(-(valW a.2) / 2 ^ (p - f).toNat)).natAbs) (m := (valW a.2).natAbs) ?_) m2) (by omega)
      rw [Int.natAbs_neg]
      exact Nat.le_trans (abs_ediv _ _) (by rw [Int.natAbs_neg]; exact Nat.le_refl _)
  · simp

end Go.Proofs.Ytdpcobcaodlgiaa
