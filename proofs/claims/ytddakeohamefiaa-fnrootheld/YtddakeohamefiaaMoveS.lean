/- The specification's l4Ceil and l10Move, each by its contract. -/
import Derived.Test.YtddakeohamefiaaSVFits
import Derived.Test.YtddakeohamefiaaSIvOk
import Derived.Test.YtddakeohamefiaaWB
import Derived.Test.YtddakeohamefiaaGB
namespace Go.Proofs.Ytddakeohamefiaa
open Go.RowKit
set_option linter.unusedSimpArgs false

theorem ceil_len (x : Int) (k : Nat) : (limbs (-x / 2 ^ k).natAbs).length ≤ (limbs x.natAbs).length + 1 := by
  have hp : (0 : Int) < 2 ^ k := Int.pow_pos (by omega)
  have hp1 : (1 : Int) ≤ 2 ^ k := hp
  have h : (-x / 2 ^ k).natAbs ≤ x.natAbs + 1 := by
    have a1 : -x / 2 ^ k ≤ x.natAbs := by
      rcases Int.le_total 0 (-x) with hx | hx
      · exact Int.le_trans (Int.ediv_le_self _ hx) (by omega)
      · exact Int.le_trans (Int.ediv_nonpos_of_nonpos_of_neg hx hp) (by omega)
    have a2 : -(x.natAbs : Int) - 1 ≤ -x / 2 ^ k := by
      rw [Int.le_ediv_iff_mul_le hp]
      have : (-(x.natAbs : Int) - 1) * 2 ^ k ≤ (-(x.natAbs : Int) - 1) * 1 := Int.mul_le_mul_of_nonpos_left (by omega) hp1
      omega
    omega
  refine limbs_len_le _ _ ?_
  have h2 := limbs_lt x.natAbs
  rw [Nat.pow_succ]
  generalize 16777216 ^ (limbs x.natAbs).length = Q at *
  omega

set_option maxRecDepth 20000 in
set_option maxHeartbeats 3200000 in
theorem sWCeil (va : Value) (x : Int) (k : Nat) (w : World) (ha : rowW w va (mkW x)) (hlx : (limbs x.natAbs).length ≤ 10000) (hk : k ≤ 100000) :
    Calls Try.prog 66 #[va, .int .i64 k] w fun e w' => ∃ v, e = .returned v ∧ ownsW w' w.heap.size v (mkW (-(-x / 2 ^ k))) ∧ Below w.heap.size w w' := by
  have kA := fun W (h : Below w.heap.size w W) => sWNeg va x W (ha.below h (Nat.le_refl _)) (by omega)
  have kB := fun va W h => sWFloor va (-x) k W h (by rw [Int.natAbs_neg]; exact hlx) hk
  have hc := ceil_len x k
  have kC := fun va W h => sWNeg va (-x / 2 ^ k) W h (by omega)
  generalize mkW (-(-x / 2 ^ k)) = m at *
  obtain ⟨n1, l1⟩ := m
  obtain ⟨s, rfl, hs⟩ := ha
  obtain ⟨ad, cap, rfl, -⟩ := id hs
  obtain ⟨g, hg⟩ : ∃ g, (mkW x).1 = g := ⟨_, rfl⟩
  obtain ⟨len, hlen⟩ : ∃ l, (mkW x).2.length = l := ⟨_, rfl⟩
  rw [hg, hlen] at kA
  rw [hg, hlen]
  clear hs hg hlen hc hlx hk
  have s1 : (w.alloc (.cells #[.bool g, .slice ad len cap] 26)).heap.size = w.heap.size + 1 := by simp
  have R0 := BoxW.made (w.alloc (.cells #[.bool g, .slice ad len cap] 26)) (.bool false) (.slice none 0 0) 26
  rw [s1] at R0
  have B0 := below2 w (.cells #[.bool g, .slice ad len cap] 26) (.cells #[.bool false, .slice none 0 0] 26)
  clear s1
  go_enter Try.func66, Try.ntmps66
  go_wp2_with fail
  refine (kA _ B0).mono ?_
  generalize (w.alloc (.cells #[.bool g, .slice ad len cap] 26)).alloc (.cells #[.bool false, .slice none 0 0] 26) = w0 at *
  rintro e w1 ⟨v1, rfl, o1, b1⟩
  have R1 := R0.below b1 (Nat.le_refl _)
  have B1 := B0.trans (b1.mono B0.size)
  have q1 := o1.row
  clear R0 B0 b1 o1 kA
  go_wp2_with fail
  refine (kB v1 _ q1).mono ?_
  rintro e w2 ⟨v2, rfl, o2, b2⟩
  have R2 := R1.below b2 (Nat.le_refl _)
  have B2 := B1.trans (b2.mono B1.size)
  have q2 := o2.row
  clear R1 B1 b2 o2 kB q1
  go_wp2_with fail
  refine (kC v2 _ q2).mono ?_
  rintro e w3 ⟨v3, rfl, o3, b3⟩
  have R3 := R2.below b3 (Nat.le_refl _)
  have B3 := B2.trans (b3.mono B2.size)
  obtain ⟨s3, rfl, q3⟩ := o3
  obtain ⟨ad3, cp3, rfl, -⟩ := q3.row
  have q3' : ownsI w3 w2.heap.size (.slice ad3 l1.length cp3) l1 := q3
  have hR := R2.hi
  have r0 := R3.c0
  have r1 := R3.c1
  have f0 := R3.f0
  have f1 := R3.f1
  have HO : Hid (ownsI _ w2.heap.size (.slice ad3 l1.length cp3) l1) := ((q3'.other (w.heap.size + 1) 0 (by omega) (.bool n1)).other (w.heap.size + 1) 1 (by omega) (.slice ad3 l1.length cp3))
  have HB : Hid (Below w.heap.size w _) := (B3.setCell (p := ⟨w.heap.size + 1, 0, none⟩) (by show w.heap.size ≤ w.heap.size + 1; omega) (.bool n1)).setCell (p := ⟨w.heap.size + 1, 1, none⟩) (by show w.heap.size ≤ w.heap.size + 1; omega) (.slice ad3 l1.length cp3)
  have hb2 := B2.size
  clear q2 q3 q3' R2 R3 B2 B3 b3 kC
  go_wp2
  (try simp only [Exit.inBlock, Exit.then])
  refine bodyPost_ret (v := .agg #[.bool n1, .slice ad3 l1.length cp3]) ?_ rfl ⟨_, rfl, ⟨_, rfl, ownsI_mono HO.out hb2⟩, HB.out⟩
  rw [results_cell1 rfl]
  go_simp

set_option maxRecDepth 20000 in
set_option maxHeartbeats 6400000 in
theorem sVMoveUp (va : Value) (a : Vh) (x y : Int) (k : Nat) (w : World) (ha : rowV w va a) (e1 : a.1 = mkW x) (e2 : a.2 = mkW y) (m1 : (limbs x.natAbs).length ≤ 10000) (m2 : (limbs y.natAbs).length ≤ 10000) (hk : k ≤ 100000) :
    Calls Try.prog 35 #[va, .int .i64 k] w fun e w' => ∃ v, e = .returned v ∧ ownsV w' w.heap.size v (mkW (x * 2 ^ k), mkW (y * 2 ^ k)) ∧ Below w.heap.size w w' := by
  have kS : ∀ s, rowI w s a.1.2 → ∀ W, Below w.heap.size w W → Calls Try.prog 64 #[.agg #[.bool a.1.1, s], .int .i64 k] W (fun e w' => ∃ v, e = .returned v ∧ ownsW w' W.heap.size v (mkW (x * 2 ^ k)) ∧ Below W.heap.size W w') :=
    fun s hs W h => sWUp _ x k W (by rw [← e1]; exact ⟨_, rfl, hs.below h (Nat.le_refl _)⟩) m1 hk
  have kP : ∀ s, rowI w s a.2.2 → ∀ W, Below w.heap.size w W → Calls Try.prog 64 #[.agg #[.bool a.2.1, s], .int .i64 k] W (fun e w' => ∃ v, e = .returned v ∧ ownsW w' W.heap.size v (mkW (y * 2 ^ k)) ∧ Below W.heap.size W w') :=
    fun s hs W h => sWUp _ y k W (by rw [← e2]; exact ⟨_, rfl, hs.below h (Nat.le_refl _)⟩) m2 hk
  have hk0 : (0 : Int) ≤ (k : Int) := by omega
  clear e1 e2 m1 m2 hk
  generalize mkW (x * 2 ^ k) = m1 at *
  generalize mkW (y * 2 ^ k) = m2 at *
  obtain ⟨n1, l1⟩ := m1
  obtain ⟨n2, l2⟩ := m2
  obtain ⟨s, t, rfl, hs, ht⟩ := ha
  have kS := kS s hs
  have kP := kP t ht
  obtain ⟨ad, cap, rfl, -⟩ := id hs
  obtain ⟨ae, cbp, rfl, -⟩ := id ht
  obtain ⟨g, hg⟩ : ∃ g, a.1.1 = g := ⟨_, rfl⟩
  obtain ⟨g', hg'⟩ : ∃ g, a.2.1 = g := ⟨_, rfl⟩
  obtain ⟨len, hlen⟩ : ∃ l, a.1.2.length = l := ⟨_, rfl⟩
  obtain ⟨len2, hlen2⟩ : ∃ l, a.2.2.length = l := ⟨_, rfl⟩
  rw [hg, hlen] at kS
  rw [hg', hlen2] at kP
  rw [hg, hg', hlen, hlen2]
  clear hs ht hg hg' hlen hlen2
  have s1 : (w.alloc (.cells #[.bool g, .slice ad len cap, .bool g', .slice ae len2 cbp] 28)).heap.size = w.heap.size + 1 := by simp
  have X0 := (BoxV.made w (.bool g) (.slice ad len cap) (.bool g') (.slice ae len2 cbp) 28).below (below1 _ (.cells #[.bool false, .slice none 0 0, .bool false, .slice none 0 0] 28)) (Nat.le_refl _)
  have R0 := BoxV.made (w.alloc (.cells #[.bool g, .slice ad len cap, .bool g', .slice ae len2 cbp] 28)) (.bool false) (.slice none 0 0) (.bool false) (.slice none 0 0) 28
  rw [s1] at R0
  have B0 := below2 w (.cells #[.bool g, .slice ad len cap, .bool g', .slice ae len2 cbp] 28) (.cells #[.bool false, .slice none 0 0, .bool false, .slice none 0 0] 28)
  clear s1
  go_enter Try.func35, Try.ntmps35
  go_wp2_with fail
  generalize (w.alloc (.cells #[.bool g, .slice ad len cap, .bool g', .slice ae len2 cbp] 28)).alloc (.cells #[.bool false, .slice none 0 0, .bool false, .slice none 0 0] 28) = w1 at *
  have bd' := (Below.refl w1.heap.size w1).drew
  have X2 := X0.below bd' (Nat.le_refl _)
  have R2 := R0.below bd' (Nat.le_refl _)
  have B2 := B0.trans (bd'.mono B0.size)
  refine wp_region_held_drew (S := fun W => W.cell? ⟨w.heap.size, 0, none⟩ = some (.bool g) ∧ W.cell? ⟨w.heap.size, 1, none⟩ = some (.slice ad len cap) ∧ W.cell? ⟨w.heap.size, 2, none⟩ = some (.bool g') ∧ W.cell? ⟨w.heap.size, 3, none⟩ = some (.slice ae len2 cbp)) (by kernel_rfl) ⟨X2.c0, X2.c1, X2.c2, X2.c3⟩ ?_
  intro hHeld
  generalize w1.drew = w2 at *
  refine takeH 0 (some 7) (.pointer (some ⟨w.heap.size, 0, none⟩)) rfl rfl (by kernel_rfl) (by kernel_rfl) (by kernel_rfl) (fun _ _ _ h => h) (Or.inl ⟨rfl, fun W hW => by obtain _ := hW; go_simp⟩) (by assumption) ?_
  simp only [Act.put, List.setIfInBounds_toArray, List.set_cons_zero, List.set_cons_succ]
  refine takeH 1 (some 8) (.agg #[.bool g, .slice ad len cap]) rfl rfl (by kernel_rfl) (by kernel_rfl) (by kernel_rfl) (fun _ _ _ h => h) (Or.inl ⟨rfl, fun W hW => by obtain ⟨_a, _b, _⟩ := hW; go_simp⟩) (by assumption) ?_
  simp only [Act.put, List.setIfInBounds_toArray, List.set_cons_zero, List.set_cons_succ]
  refine takeH 2 (some 9) (.int .i64 k) rfl rfl (by kernel_rfl) (by kernel_rfl) (by kernel_rfl) (fun _ _ _ h => h) (yg_move rfl (.tmp 1) rfl _ rfl) (by assumption) ?_
  simp only [Act.put, List.setIfInBounds_toArray, List.set_cons_zero, List.set_cons_succ]
  refine takeH 4 (some 11) (.pointer (some ⟨w.heap.size, 2, none⟩)) rfl rfl (by kernel_rfl) (by kernel_rfl) (by kernel_rfl) (fun _ _ _ h => h) (Or.inl ⟨rfl, fun W hW => by obtain _ := hW; go_simp⟩) (by assumption) ?_
  simp only [Act.put, List.setIfInBounds_toArray, List.set_cons_zero, List.set_cons_succ]
  refine takeH 5 (some 12) (.agg #[.bool g', .slice ae len2 cbp]) rfl rfl (by kernel_rfl) (by kernel_rfl) (by kernel_rfl) (fun _ _ _ h => h) (Or.inl ⟨rfl, fun W hW => by obtain ⟨_, _, _a, _b⟩ := hW; go_simp⟩) (by assumption) ?_
  simp only [Act.put, List.setIfInBounds_toArray, List.set_cons_zero, List.set_cons_succ]
  refine takeH 6 (some 13) (.int .i64 k) rfl rfl (by kernel_rfl) (by kernel_rfl) (by kernel_rfl) (fun _ _ _ h => h) (yg_move rfl (.tmp 1) rfl _ rfl) (by assumption) ?_
  simp only [Act.put, List.setIfInBounds_toArray, List.set_cons_zero, List.set_cons_succ]
  refine oneH 3 rfl (by kernel_rfl) (fun K' hK => ?_)
  go_simp
  refine (kS _ B2).mono ?_
  rintro e w4 ⟨v4, rfl, o4, b4⟩
  obtain ⟨s3, rfl, q3⟩ := o4
  obtain ⟨ad3, cp3, rfl, -⟩ := q3.row
  have qq4 : ownsI w4 w2.heap.size (.slice ad3 l1.length cp3) l1 := q3
  have X4 := X2.below b4 (Nat.le_refl _)
  have R4 := R2.below b4 (Nat.le_refl _)
  have B4 := B2.trans (b4.mono B2.size)
  refine hK _ _ ⟨X4.c0, X4.c1, X4.c2, X4.c3⟩ ?_
  clear hK
  refine oneH 7 rfl (by kernel_rfl) (fun K' hK => ?_)
  go_simp
  refine (kP _ B4).mono ?_
  rintro e w6 ⟨v6, rfl, o6, b6⟩
  have X6 := X4.below b6 (Nat.le_refl _)
  have R6 := R4.below b6 (Nat.le_refl _)
  have B6 := B4.trans (b6.mono B4.size)
  refine hK _ _ ⟨X6.c0, X6.c1, X6.c2, X6.c3⟩ ?_
  clear hK
  obtain ⟨s4, rfl, q4⟩ := o6
  obtain ⟨ad4, cp4, rfl, -⟩ := q4.row
  have q3' := ownsI.below qq4 b6 (Nat.le_refl _)
  have q4' : ownsI w6 w4.heap.size (.slice ad4 l2.length cp4) l2 := q4
  have hap : Apart (blkI (.slice ad3 l1.length cp3)) (blkI (.slice ad4 l2.length cp4)) := apart_of (fun k hk => (qq4.ltb k hk).2) (fun k hk => (q4'.ltb k hk).1)
  have hh2 := R2.hi
  have hh4 := R4.hi
  have r0 := R6.c0
  have f0 := R6.f0
  have r1 := R6.c1
  have f1 := R6.f1
  have r2 := R6.c2
  have f2 := R6.f2
  have r3 := R6.c3
  have f3 := R6.f3
  have H6 : (fun W => W.cell? ⟨w.heap.size, 0, none⟩ = some (.bool g) ∧ W.cell? ⟨w.heap.size, 1, none⟩ = some (.slice ad len cap) ∧ W.cell? ⟨w.heap.size, 2, none⟩ = some (.bool g') ∧ W.cell? ⟨w.heap.size, 3, none⟩ = some (.slice ae len2 cbp)) w6 := ⟨X6.c0, X6.c1, X6.c2, X6.c3⟩
  refine takeH 8 (some 15) (.agg #[.bool n1, .slice ad3 l1.length cp3, .bool n2, .slice ad4 l2.length cp4]) rfl rfl (by kernel_rfl) (by kernel_rfl) (by kernel_rfl) (fun _ _ _ h => h) (Or.inl ⟨rfl, fun W hW => by obtain _ := hW; go_simp⟩) (by assumption) ?_
  simp only [Act.put, List.setIfInBounds_toArray, List.set_cons_zero, List.set_cons_succ]
  have X7 := X6.tn ((((tnC w6 (w.heap.size + 1) 0 (.bool n1)).trans (tnC _ (w.heap.size + 1) 1 (.slice ad3 l1.length cp3))).trans (tnC _ (w.heap.size + 1) 2 (.bool n2))).trans (tnC _ (w.heap.size + 1) 3 (.slice ad4 l2.length cp4))) (fun k hk hs => by simp at hk hs; omega)
  refine oneH 9 rfl (by kernel_rfl) (fun K' hK => ?_)
  go_simp
  refine hK _ _ ⟨X7.c0, X7.c1, X7.c2, X7.c3⟩ ?_
  refine wpAnyH_done (by kernel_rfl) ?_ _
  have HA : Hid (ownsI _ w2.heap.size (.slice ad3 l1.length cp3) l1) := ((((q3'.other (w.heap.size + 1) 0 (by omega) (.bool n1)).other (w.heap.size + 1) 1 (by omega) (.slice ad3 l1.length cp3)).other (w.heap.size + 1) 2 (by omega) (.bool n2)).other (w.heap.size + 1) 3 (by omega) (.slice ad4 l2.length cp4))
  have HZ : Hid (ownsI _ w4.heap.size (.slice ad4 l2.length cp4) l2) := ((((q4'.other (w.heap.size + 1) 0 (by omega) (.bool n1)).other (w.heap.size + 1) 1 (by omega) (.slice ad3 l1.length cp3)).other (w.heap.size + 1) 2 (by omega) (.bool n2)).other (w.heap.size + 1) 3 (by omega) (.slice ad4 l2.length cp4))
  have HB : Hid (Below w.heap.size w _) := ((((B6.setCell (p := ⟨w.heap.size + 1, 0, none⟩) (by show w.heap.size ≤ w.heap.size + 1; omega) (.bool n1)).setCell (p := ⟨w.heap.size + 1, 1, none⟩) (by show w.heap.size ≤ w.heap.size + 1; omega) (.slice ad3 l1.length cp3)).setCell (p := ⟨w.heap.size + 1, 2, none⟩) (by show w.heap.size ≤ w.heap.size + 1; omega) (.bool n2)).setCell (p := ⟨w.heap.size + 1, 3, none⟩) (by show w.heap.size ≤ w.heap.size + 1; omega) (.slice ad4 l2.length cp4))
  have HP : Hid (Apart (blkI (.slice ad3 l1.length cp3)) (blkI (.slice ad4 l2.length cp4))) := hap
  have hb2 := B2.size
  have hb4 := B4.size
  clear hK hHeld H6 q3 q4 q3' q4' qq4 X0 X2 X4 X6 X7 R0 R2 R4 R6 B0 B2 B4 B6 b4 b6 kS kP hap bd'
  go_wp2
  (try simp only [Exit.inBlock, Exit.then])
  refine bodyPost_ret (v := .agg #[.bool n1, .slice ad3 l1.length cp3, .bool n2, .slice ad4 l2.length cp4]) ?_ rfl ⟨_, rfl, ⟨_, _, rfl, ownsI_mono HA.out hb2, ownsI_mono HZ.out hb4, HP.out⟩, HB.out⟩
  rw [results_cell1 rfl]
  go_simp

set_option maxRecDepth 20000 in
set_option maxHeartbeats 6400000 in
theorem sVMoveDown (va : Value) (a : Vh) (x y : Int) (k : Nat) (w : World) (ha : rowV w va a) (e1 : a.1 = mkW x) (e2 : a.2 = mkW y) (m1 : (limbs x.natAbs).length ≤ 10000) (m2 : (limbs y.natAbs).length ≤ 10000) (hk : k ≤ 100000) (hk0 : 0 < k) :
    Calls Try.prog 35 #[va, .int .i64 (-(k : Int))] w fun e w' => ∃ v, e = .returned v ∧ ownsV w' w.heap.size v (mkW (x / 2 ^ k), mkW (-(-y / 2 ^ k))) ∧ Below w.heap.size w w' := by
  have kS : ∀ s, rowI w s a.1.2 → ∀ W, Below w.heap.size w W → Calls Try.prog 65 #[.agg #[.bool a.1.1, s], .int .i64 k] W (fun e w' => ∃ v, e = .returned v ∧ ownsW w' W.heap.size v (mkW (x / 2 ^ k)) ∧ Below W.heap.size W w') :=
    fun s hs W h => sWFloor _ x k W (by rw [← e1]; exact ⟨_, rfl, hs.below h (Nat.le_refl _)⟩) m1 hk
  have kP : ∀ s, rowI w s a.2.2 → ∀ W, Below w.heap.size w W → Calls Try.prog 66 #[.agg #[.bool a.2.1, s], .int .i64 k] W (fun e w' => ∃ v, e = .returned v ∧ ownsW w' W.heap.size v (mkW (-(-y / 2 ^ k))) ∧ Below W.heap.size W w') :=
    fun s hs W h => sWCeil _ y k W (by rw [← e2]; exact ⟨_, rfl, hs.below h (Nat.le_refl _)⟩) m2 hk
  have hlt : ¬ (0 ≤ -(k : Int)) := by omega
  have hlt2 : decide (0 ≤ -(k : Int)) = false := decide_eq_false hlt
  have hsub : IntKind.i64.wrap (0 - -(k : Int)) = (k : Int) := by rw [IntKind.wrap_i64]; omega
  have hsub2 : IntKind.i64.wrap (k : Int) = (k : Int) := by rw [IntKind.wrap_i64]; omega
  clear e1 e2 m1 m2 hk hk0
  generalize mkW (x / 2 ^ k) = m1 at *
  generalize mkW (-(-y / 2 ^ k)) = m2 at *
  obtain ⟨n1, l1⟩ := m1
  obtain ⟨n2, l2⟩ := m2
  obtain ⟨s, t, rfl, hs, ht⟩ := ha
  have kS := kS s hs
  have kP := kP t ht
  obtain ⟨ad, cap, rfl, -⟩ := id hs
  obtain ⟨ae, cbp, rfl, -⟩ := id ht
  obtain ⟨g, hg⟩ : ∃ g, a.1.1 = g := ⟨_, rfl⟩
  obtain ⟨g', hg'⟩ : ∃ g, a.2.1 = g := ⟨_, rfl⟩
  obtain ⟨len, hlen⟩ : ∃ l, a.1.2.length = l := ⟨_, rfl⟩
  obtain ⟨len2, hlen2⟩ : ∃ l, a.2.2.length = l := ⟨_, rfl⟩
  rw [hg, hlen] at kS
  rw [hg', hlen2] at kP
  rw [hg, hg', hlen, hlen2]
  clear hs ht hg hg' hlen hlen2
  have s1 : (w.alloc (.cells #[.bool g, .slice ad len cap, .bool g', .slice ae len2 cbp] 28)).heap.size = w.heap.size + 1 := by simp
  have X0 := (BoxV.made w (.bool g) (.slice ad len cap) (.bool g') (.slice ae len2 cbp) 28).below (below1 _ (.cells #[.bool false, .slice none 0 0, .bool false, .slice none 0 0] 28)) (Nat.le_refl _)
  have R0 := BoxV.made (w.alloc (.cells #[.bool g, .slice ad len cap, .bool g', .slice ae len2 cbp] 28)) (.bool false) (.slice none 0 0) (.bool false) (.slice none 0 0) 28
  rw [s1] at R0
  have B0 := below2 w (.cells #[.bool g, .slice ad len cap, .bool g', .slice ae len2 cbp] 28) (.cells #[.bool false, .slice none 0 0, .bool false, .slice none 0 0] 28)
  clear s1
  go_enter Try.func35, Try.ntmps35
  go_wp2_with fail
  generalize (w.alloc (.cells #[.bool g, .slice ad len cap, .bool g', .slice ae len2 cbp] 28)).alloc (.cells #[.bool false, .slice none 0 0, .bool false, .slice none 0 0] 28) = w1 at *
  have bd' := (Below.refl w1.heap.size w1).drew
  have X2 := X0.below bd' (Nat.le_refl _)
  have R2 := R0.below bd' (Nat.le_refl _)
  have B2 := B0.trans (bd'.mono B0.size)
  refine wp_region_held_drew (S := fun W => W.cell? ⟨w.heap.size, 0, none⟩ = some (.bool g) ∧ W.cell? ⟨w.heap.size, 1, none⟩ = some (.slice ad len cap) ∧ W.cell? ⟨w.heap.size, 2, none⟩ = some (.bool g') ∧ W.cell? ⟨w.heap.size, 3, none⟩ = some (.slice ae len2 cbp)) (by kernel_rfl) ⟨X2.c0, X2.c1, X2.c2, X2.c3⟩ ?_
  intro hHeld
  generalize w1.drew = w2 at *
  refine takeH 0 (some 16) (.pointer (some ⟨w.heap.size, 0, none⟩)) rfl rfl (by kernel_rfl) (by kernel_rfl) (by kernel_rfl) (fun _ _ _ h => h) (Or.inl ⟨rfl, fun W hW => by obtain _ := hW; go_simp⟩) (by assumption) ?_
  simp only [Act.put, List.setIfInBounds_toArray, List.set_cons_zero, List.set_cons_succ]
  refine takeH 1 (some 17) (.agg #[.bool g, .slice ad len cap]) rfl rfl (by kernel_rfl) (by kernel_rfl) (by kernel_rfl) (fun _ _ _ h => h) (Or.inl ⟨rfl, fun W hW => by obtain ⟨_a, _b, _⟩ := hW; go_simp⟩) (by assumption) ?_
  simp only [Act.put, List.setIfInBounds_toArray, List.set_cons_zero, List.set_cons_succ]
  refine takeH 2 (some 18) (.int .i64 (-(k : Int))) rfl rfl (by kernel_rfl) (by kernel_rfl) (by kernel_rfl) (fun _ _ _ h => h) (yg_move rfl (.tmp 1) rfl _ rfl) (by assumption) ?_
  simp only [Act.put, List.setIfInBounds_toArray, List.set_cons_zero, List.set_cons_succ]
  refine takeH 3 (some 19) (.int .i64 k) rfl rfl (by kernel_rfl) (by kernel_rfl) (by kernel_rfl) (fun _ _ _ h => h) (Or.inl ⟨rfl, fun W hW => by obtain _ := hW; go_simp⟩) (by assumption) ?_
  simp only [Act.put, List.setIfInBounds_toArray, List.set_cons_zero, List.set_cons_succ]
  refine takeH 5 (some 21) (.pointer (some ⟨w.heap.size, 2, none⟩)) rfl rfl (by kernel_rfl) (by kernel_rfl) (by kernel_rfl) (fun _ _ _ h => h) (Or.inl ⟨rfl, fun W hW => by obtain _ := hW; go_simp⟩) (by assumption) ?_
  simp only [Act.put, List.setIfInBounds_toArray, List.set_cons_zero, List.set_cons_succ]
  refine takeH 6 (some 22) (.agg #[.bool g', .slice ae len2 cbp]) rfl rfl (by kernel_rfl) (by kernel_rfl) (by kernel_rfl) (fun _ _ _ h => h) (Or.inl ⟨rfl, fun W hW => by obtain ⟨_, _, _a, _b⟩ := hW; go_simp⟩) (by assumption) ?_
  simp only [Act.put, List.setIfInBounds_toArray, List.set_cons_zero, List.set_cons_succ]
  refine takeH 7 (some 23) (.int .i64 (-(k : Int))) rfl rfl (by kernel_rfl) (by kernel_rfl) (by kernel_rfl) (fun _ _ _ h => h) (yg_move rfl (.tmp 1) rfl _ rfl) (by assumption) ?_
  simp only [Act.put, List.setIfInBounds_toArray, List.set_cons_zero, List.set_cons_succ]
  refine takeH 8 (some 24) (.int .i64 k) rfl rfl (by kernel_rfl) (by kernel_rfl) (by kernel_rfl) (fun _ _ _ h => h) (Or.inl ⟨rfl, fun W hW => by obtain _ := hW; go_simp⟩) (by assumption) ?_
  simp only [Act.put, List.setIfInBounds_toArray, List.set_cons_zero, List.set_cons_succ]
  refine oneH 4 rfl (by kernel_rfl) (fun K' hK => ?_)
  go_simp
  refine (kS _ B2).mono ?_
  rintro e w4 ⟨v4, rfl, o4, b4⟩
  obtain ⟨s3, rfl, q3⟩ := o4
  obtain ⟨ad3, cp3, rfl, -⟩ := q3.row
  have qq4 : ownsI w4 w2.heap.size (.slice ad3 l1.length cp3) l1 := q3
  have X4 := X2.below b4 (Nat.le_refl _)
  have R4 := R2.below b4 (Nat.le_refl _)
  have B4 := B2.trans (b4.mono B2.size)
  refine hK _ _ ⟨X4.c0, X4.c1, X4.c2, X4.c3⟩ ?_
  clear hK
  refine oneH 9 rfl (by kernel_rfl) (fun K' hK => ?_)
  go_simp
  refine (kP _ B4).mono ?_
  rintro e w6 ⟨v6, rfl, o6, b6⟩
  have X6 := X4.below b6 (Nat.le_refl _)
  have R6 := R4.below b6 (Nat.le_refl _)
  have B6 := B4.trans (b6.mono B4.size)
  refine hK _ _ ⟨X6.c0, X6.c1, X6.c2, X6.c3⟩ ?_
  clear hK
  obtain ⟨s4, rfl, q4⟩ := o6
  obtain ⟨ad4, cp4, rfl, -⟩ := q4.row
  have q3' := ownsI.below qq4 b6 (Nat.le_refl _)
  have q4' : ownsI w6 w4.heap.size (.slice ad4 l2.length cp4) l2 := q4
  have hap : Apart (blkI (.slice ad3 l1.length cp3)) (blkI (.slice ad4 l2.length cp4)) := apart_of (fun k hk => (qq4.ltb k hk).2) (fun k hk => (q4'.ltb k hk).1)
  have hh2 := R2.hi
  have hh4 := R4.hi
  have r0 := R6.c0
  have f0 := R6.f0
  have r1 := R6.c1
  have f1 := R6.f1
  have r2 := R6.c2
  have f2 := R6.f2
  have r3 := R6.c3
  have f3 := R6.f3
  have H6 : (fun W => W.cell? ⟨w.heap.size, 0, none⟩ = some (.bool g) ∧ W.cell? ⟨w.heap.size, 1, none⟩ = some (.slice ad len cap) ∧ W.cell? ⟨w.heap.size, 2, none⟩ = some (.bool g') ∧ W.cell? ⟨w.heap.size, 3, none⟩ = some (.slice ae len2 cbp)) w6 := ⟨X6.c0, X6.c1, X6.c2, X6.c3⟩
  refine takeH 10 (some 26) (.agg #[.bool n1, .slice ad3 l1.length cp3, .bool n2, .slice ad4 l2.length cp4]) rfl rfl (by kernel_rfl) (by kernel_rfl) (by kernel_rfl) (fun _ _ _ h => h) (Or.inl ⟨rfl, fun W hW => by obtain _ := hW; go_simp⟩) (by assumption) ?_
  simp only [Act.put, List.setIfInBounds_toArray, List.set_cons_zero, List.set_cons_succ]
  have X7 := X6.tn ((((tnC w6 (w.heap.size + 1) 0 (.bool n1)).trans (tnC _ (w.heap.size + 1) 1 (.slice ad3 l1.length cp3))).trans (tnC _ (w.heap.size + 1) 2 (.bool n2))).trans (tnC _ (w.heap.size + 1) 3 (.slice ad4 l2.length cp4))) (fun k hk hs => by simp at hk hs; omega)
  refine oneH 11 rfl (by kernel_rfl) (fun K' hK => ?_)
  go_simp
  refine hK _ _ ⟨X7.c0, X7.c1, X7.c2, X7.c3⟩ ?_
  refine wpAnyH_done (by kernel_rfl) ?_ _
  have HA : Hid (ownsI _ w2.heap.size (.slice ad3 l1.length cp3) l1) := ((((q3'.other (w.heap.size + 1) 0 (by omega) (.bool n1)).other (w.heap.size + 1) 1 (by omega) (.slice ad3 l1.length cp3)).other (w.heap.size + 1) 2 (by omega) (.bool n2)).other (w.heap.size + 1) 3 (by omega) (.slice ad4 l2.length cp4))
  have HZ : Hid (ownsI _ w4.heap.size (.slice ad4 l2.length cp4) l2) := ((((q4'.other (w.heap.size + 1) 0 (by omega) (.bool n1)).other (w.heap.size + 1) 1 (by omega) (.slice ad3 l1.length cp3)).other (w.heap.size + 1) 2 (by omega) (.bool n2)).other (w.heap.size + 1) 3 (by omega) (.slice ad4 l2.length cp4))
  have HB : Hid (Below w.heap.size w _) := ((((B6.setCell (p := ⟨w.heap.size + 1, 0, none⟩) (by show w.heap.size ≤ w.heap.size + 1; omega) (.bool n1)).setCell (p := ⟨w.heap.size + 1, 1, none⟩) (by show w.heap.size ≤ w.heap.size + 1; omega) (.slice ad3 l1.length cp3)).setCell (p := ⟨w.heap.size + 1, 2, none⟩) (by show w.heap.size ≤ w.heap.size + 1; omega) (.bool n2)).setCell (p := ⟨w.heap.size + 1, 3, none⟩) (by show w.heap.size ≤ w.heap.size + 1; omega) (.slice ad4 l2.length cp4))
  have HP : Hid (Apart (blkI (.slice ad3 l1.length cp3)) (blkI (.slice ad4 l2.length cp4))) := hap
  have hb2 := B2.size
  have hb4 := B4.size
  clear hK hHeld H6 q3 q4 q3' q4' qq4 X0 X2 X4 X6 X7 R0 R2 R4 R6 B0 B2 B4 B6 b4 b6 kS kP hap bd'
  go_wp2
  (try simp only [Exit.inBlock, Exit.then])
  refine bodyPost_ret (v := .agg #[.bool n1, .slice ad3 l1.length cp3, .bool n2, .slice ad4 l2.length cp4]) ?_ rfl ⟨_, rfl, ⟨_, _, rfl, ownsI_mono HA.out hb2, ownsI_mono HZ.out hb4, HP.out⟩, HB.out⟩
  rw [results_cell1 rfl]
  go_simp

end Go.Proofs.Ytddakeohamefiaa
