/- IvOf of the specification and of the program, each by its contract. -/
import Derived.Test.YtmbmnfphgcjhdaaSCopy
import Derived.Test.YtmbmnfphgcjhdaaVTop
import Derived.Test.YtmbmnfphgcjhdaaSWholeOk
import Derived.Test.YtmbmnfphgcjhdaaSIvOk
namespace Go.Proofs.Ytmbmnfphgcjhdaa
open Go.RowKit
set_option linter.unusedSimpArgs false

def ivOfR (a : Wh) : Vh := if okW a = true then (a, a) else ((false, []), (false, []))
theorem ivOfR_len (a : Wh) : (ivOfR a).1.2.length ≤ 1048576 ∧ (ivOfR a).2.2.length ≤ 1048576 := by
  unfold ivOfR
  split
  · rename_i h
    have := ((okW_iff a).1 h).1.1
    exact ⟨by show a.2.length ≤ _; omega, by show a.2.length ≤ _; omega⟩
  · simp

set_option maxRecDepth 20000 in
set_option maxHeartbeats 6400000 in
theorem sIvOf (va : Value) (a : Wh) (w : World) (ha : rowW w va a) (hla : a.2.length ≤ 1048576) :
    Calls Try.prog 12 #[va] w fun e w' => ∃ v, e = .returned v ∧ ownsV w' w.heap.size v (ivOfR a) ∧ Below w.heap.size w w' := by
  have kA := fun W (h : Below w.heap.size w W) => sWholeOk va a W (ha.below h (Nat.le_refl _)) hla
  have kC : okW a = true → ∀ W, Below w.heap.size w W → Calls Try.prog 44 #[va] W fun e w' => ∃ v, e = .returned v ∧ ownsW w' W.heap.size v a ∧ Below W.heap.size W w' := by
    intro h1 W h
    have e1 := mkW_of h1
    have l1 := okW_lenV h1
    have := sCopy va (valW a) W (by rw [← e1]; exact ha.below h (Nat.le_refl _)) (by omega)
    rw [← e1] at this
    exact this
  obtain ⟨ov, hov⟩ : ∃ o, okW a = o := ⟨_, rfl⟩
  rw [hov] at kA kC
  cases ov
  · have HR : Hid (ivOfR a = ((false, []), (false, []))) := by show _ = _; unfold ivOfR; rw [if_neg (by rw [hov]; simp)]
    obtain ⟨rr, hr⟩ : ∃ r, ivOfR a = r := ⟨_, rfl⟩
    rw [hr] at HR
    rw [hr]
    clear kC hr hov
    obtain ⟨s, rfl, hs⟩ := ha
    obtain ⟨ad, cap, rfl, -⟩ := id hs
    obtain ⟨g, hg⟩ : ∃ g, a.1 = g := ⟨_, rfl⟩
    obtain ⟨len, hlen⟩ : ∃ l, a.2.length = l := ⟨_, rfl⟩
    rw [hg, hlen] at kA
    rw [hg, hlen]
    clear hs hg hlen hla
    have s1 : (w.alloc (.cells #[.bool g, .slice ad len cap] 26)).heap.size = w.heap.size + 1 := by simp
    have X0 := (BoxW.made w (.bool g) (.slice ad len cap) 26).below (below1 _ (.cells #[.bool false, .slice none 0 0, .bool false, .slice none 0 0] 28)) (Nat.le_refl _)
    have R0 := BoxV.made (w.alloc (.cells #[.bool g, .slice ad len cap] 26)) (.bool false) (.slice none 0 0) (.bool false) (.slice none 0 0) 28
    rw [s1] at R0
    have B0 := below2 w (.cells #[.bool g, .slice ad len cap] 26) (.cells #[.bool false, .slice none 0 0, .bool false, .slice none 0 0] 28)
    clear s1
    go_enter Try.func12, Try.ntmps12
    go_wp2_with fail
    refine (kA _ B0).mono ?_
    generalize (w.alloc (.cells #[.bool g, .slice ad len cap] 26)).alloc (.cells #[.bool false, .slice none 0 0, .bool false, .slice none 0 0] 28) = w0 at *
    rintro e w1 ⟨rfl, b1⟩
    have R1 := R0.below b1 (Nat.le_refl _)
    have B1 := B0.trans (b1.mono B0.size)
    have r0 := R1.c0
    have f0 := R1.f0
    have r1 := R1.c1
    have f1 := R1.f1
    have r2 := R1.c2
    have f2 := R1.f2
    have r3 := R1.c3
    have f3 := R1.f3
    have HB : Hid (Below w.heap.size w _) := ((((B1.setCell (p := ⟨w.heap.size + 1, 0, none⟩) (by show w.heap.size ≤ w.heap.size + 1; omega) (.bool false)).setCell (p := ⟨w.heap.size + 1, 1, none⟩) (by show w.heap.size ≤ w.heap.size + 1; omega) (.slice none 0 0)).setCell (p := ⟨w.heap.size + 1, 2, none⟩) (by show w.heap.size ≤ w.heap.size + 1; omega) (.bool false)).setCell (p := ⟨w.heap.size + 1, 3, none⟩) (by show w.heap.size ≤ w.heap.size + 1; omega) (.slice none 0 0))
    clear R0 R1 B0 B1 b1 kA X0
    go_wp2
    (try simp only [Exit.inBlock, Exit.then])
    refine bodyPost_ret (v := .agg #[.bool false, .slice none 0 0, .bool false, .slice none 0 0]) ?_ rfl ⟨_, rfl, by rw [HR.out]; exact nilV _ _, HB.out⟩
    rw [results_cell1 rfl]
    go_simp
  · have HR : Hid (ivOfR a = (a, a)) := by show _ = _; unfold ivOfR; rw [if_pos hov]
    obtain ⟨rr, hr⟩ : ∃ r, ivOfR a = r := ⟨_, rfl⟩
    rw [hr] at HR
    rw [hr]
    have kD := kC rfl
    clear hr hov kC
    obtain ⟨s, rfl, hs⟩ := ha
    obtain ⟨ad, cap, rfl, -⟩ := id hs
    obtain ⟨g, hg⟩ : ∃ g, a.1 = g := ⟨_, rfl⟩
    obtain ⟨len, hlen⟩ : ∃ l, a.2.length = l := ⟨_, rfl⟩
    rw [hg, hlen] at kA kD
    rw [hg, hlen]
    clear hs hg hlen hla
    have s1 : (w.alloc (.cells #[.bool g, .slice ad len cap] 26)).heap.size = w.heap.size + 1 := by simp
    have X0 := (BoxW.made w (.bool g) (.slice ad len cap) 26).below (below1 _ (.cells #[.bool false, .slice none 0 0, .bool false, .slice none 0 0] 28)) (Nat.le_refl _)
    have R0 := BoxV.made (w.alloc (.cells #[.bool g, .slice ad len cap] 26)) (.bool false) (.slice none 0 0) (.bool false) (.slice none 0 0) 28
    rw [s1] at R0
    have B0 := below2 w (.cells #[.bool g, .slice ad len cap] 26) (.cells #[.bool false, .slice none 0 0, .bool false, .slice none 0 0] 28)
    clear s1
    obtain ⟨nb, lb⟩ := a
    go_enter Try.func12, Try.ntmps12
    go_wp2_with fail
    refine (kA _ B0).mono ?_
    generalize (w.alloc (.cells #[.bool g, .slice ad len cap] 26)).alloc (.cells #[.bool false, .slice none 0 0, .bool false, .slice none 0 0] 28) = w0 at *
    rintro e w1 ⟨rfl, b1⟩
    have X1 := X0.below b1 (Nat.le_refl _)
    have R1 := R0.below b1 (Nat.le_refl _)
    have B1 := B0.trans (b1.mono B0.size)
    have hR1 := R0.hi
    have hw1 := b1.size
    clear X0 R0 B0 b1 kA
    go_wp2_with fail
    have bd := (Below.refl w1.heap.size w1).drew
    have X2 := X1.below bd (Nat.le_refl _)
    have R2 := R1.below bd (Nat.le_refl _)
    have B2 := B1.trans (bd.mono B1.size)
    refine wp_region_held_drew (S := fun W => W.cell? ⟨w.heap.size, 0, none⟩ = some (.bool g) ∧ W.cell? ⟨w.heap.size, 1, none⟩ = some (.slice ad len cap)) (by kernel_rfl) ⟨X2.c0, X2.c1⟩ ?_
    intro hHeld
    generalize w1.drew = w2 at *
    refine takeH 0 (some 7) (.agg #[.bool g, .slice ad len cap]) rfl rfl (by kernel_rfl) (by kernel_rfl) (by kernel_rfl) (fun _ _ _ h => h) (Or.inl ⟨rfl, fun W hW => by obtain ⟨_c, _d⟩ := hW; go_simp⟩) (by assumption) ?_
    simp only [Act.put, List.setIfInBounds_toArray, List.set_cons_zero, List.set_cons_succ]
    refine takeH 2 (some 9) (.agg #[.bool g, .slice ad len cap]) rfl rfl (by kernel_rfl) (by kernel_rfl) (by kernel_rfl) (fun _ _ _ h => h) (Or.inl ⟨rfl, fun W hW => by obtain ⟨_c, _d⟩ := hW; go_simp⟩) (by assumption) ?_
    simp only [Act.put, List.setIfInBounds_toArray, List.set_cons_zero, List.set_cons_succ]
    refine oneH 1 rfl (by kernel_rfl) (fun K' hK => ?_)
    go_simp
    refine (kD _ B2).mono ?_
    rintro e w3 ⟨v3, rfl, o3, b3⟩
    have X3 := X2.below b3 (Nat.le_refl _)
    have R3 := R2.below b3 (Nat.le_refl _)
    have B3 := B2.trans (b3.mono B2.size)
    refine hK _ _ ⟨X3.c0, X3.c1⟩ ?_
    clear hK
    refine oneH 3 rfl (by kernel_rfl) (fun K' hK => ?_)
    go_simp
    refine (kD _ B3).mono ?_
    rintro e w4 ⟨v4, rfl, o4, b4⟩
    have X4 := X3.below b4 (Nat.le_refl _)
    have R4 := R3.below b4 (Nat.le_refl _)
    have B4 := B3.trans (b4.mono B3.size)
    refine hK _ _ ⟨X4.c0, X4.c1⟩ ?_
    clear hK
    obtain ⟨s3, rfl, q3⟩ := o3
    obtain ⟨s4, rfl, q4⟩ := o4
    obtain ⟨ad3, cp3, rfl, -⟩ := q3.row
    obtain ⟨ad4, cp4, rfl, -⟩ := q4.row
    have q3' : ownsI w3 w2.heap.size (.slice ad3 lb.length cp3) lb := q3
    have q4' : ownsI w4 w3.heap.size (.slice ad4 lb.length cp4) lb := q4
    have hap : Apart (blkI (.slice ad3 lb.length cp3)) (blkI (.slice ad4 lb.length cp4)) := apart_of (fun k hk => (q3'.ltb k hk).2) (fun k hk => (q4'.ltb k hk).1)
    have q5 := ownsI.below q3' b4 (Nat.le_refl _)
    have hh2 := R2.hi
    have hh3 := R3.hi
    have r0 := R4.c0
    have f0 := R4.f0
    have r1 := R4.c1
    have f1 := R4.f1
    have r2 := R4.c2
    have f2 := R4.f2
    have r3 := R4.c3
    have f3 := R4.f3
    have H4 : w4.cell? ⟨w.heap.size, 0, none⟩ = some (.bool g) ∧ w4.cell? ⟨w.heap.size, 1, none⟩ = some (.slice ad len cap) := ⟨X4.c0, X4.c1⟩
    refine takeH 4 (some 11) (.agg #[.bool nb, .slice ad3 lb.length cp3, .bool nb, .slice ad4 lb.length cp4]) rfl rfl (by kernel_rfl) (by kernel_rfl) (by kernel_rfl) (fun _ _ _ h => h) (Or.inl ⟨rfl, fun W hW => by obtain _ := hW; go_simp⟩) (by assumption) ?_
    simp only [Act.put, List.setIfInBounds_toArray, List.set_cons_zero, List.set_cons_succ]
    have X5 := X4.tn ((((tnC w4 (w.heap.size + 1) 0 (.bool nb)).trans (tnC _ (w.heap.size + 1) 1 (.slice ad3 lb.length cp3))).trans (tnC _ (w.heap.size + 1) 2 (.bool nb))).trans (tnC _ (w.heap.size + 1) 3 (.slice ad4 lb.length cp4))) (fun k hk hs => by simp at hk hs; omega)
    refine oneH 5 rfl (by kernel_rfl) (fun K' hK => ?_)
    go_simp
    refine hK _ _ ⟨X5.c0, X5.c1⟩ ?_
    refine wpAnyH_done (by kernel_rfl) ?_ _
    have HA : Hid (ownsI _ w2.heap.size (.slice ad3 lb.length cp3) lb) := (((q5.other (w.heap.size + 1) 0 (by omega) (.bool nb)).other (w.heap.size + 1) 1 (by omega) (.slice ad3 lb.length cp3)).other (w.heap.size + 1) 2 (by omega) (.bool nb)).other (w.heap.size + 1) 3 (by omega) (.slice ad4 lb.length cp4)
    have HZ : Hid (ownsI _ w3.heap.size (.slice ad4 lb.length cp4) lb) := (((q4'.other (w.heap.size + 1) 0 (by omega) (.bool nb)).other (w.heap.size + 1) 1 (by omega) (.slice ad3 lb.length cp3)).other (w.heap.size + 1) 2 (by omega) (.bool nb)).other (w.heap.size + 1) 3 (by omega) (.slice ad4 lb.length cp4)
    have HB : Hid (Below w.heap.size w _) := ((((B4.setCell (p := ⟨w.heap.size + 1, 0, none⟩) (by show w.heap.size ≤ w.heap.size + 1; omega) (.bool nb)).setCell (p := ⟨w.heap.size + 1, 1, none⟩) (by show w.heap.size ≤ w.heap.size + 1; omega) (.slice ad3 lb.length cp3)).setCell (p := ⟨w.heap.size + 1, 2, none⟩) (by show w.heap.size ≤ w.heap.size + 1; omega) (.bool nb)).setCell (p := ⟨w.heap.size + 1, 3, none⟩) (by show w.heap.size ≤ w.heap.size + 1; omega) (.slice ad4 lb.length cp4))
    have HP : Hid (Apart (blkI (.slice ad3 lb.length cp3)) (blkI (.slice ad4 lb.length cp4))) := hap
    have hb2 := B2.size
    have hb3 := B3.size
    clear hK hHeld q3 q4 q3' q4' q5 X1 X2 X3 X4 X5 R1 R2 R3 R4 B1 B2 B3 B4 b3 b4 kD hap bd
    go_wp2
    (try simp only [Exit.inBlock, Exit.then])
    refine bodyPost_ret (v := .agg #[.bool nb, .slice ad3 lb.length cp3, .bool nb, .slice ad4 lb.length cp4]) ?_ rfl ⟨_, rfl, by rw [HR.out]; exact ⟨_, _, rfl, ownsI_mono HA.out hb2, ownsI_mono HZ.out hb3, HP.out⟩, HB.out⟩
    rw [results_cell1 rfl]
    go_simp

set_option maxRecDepth 20000 in
set_option maxHeartbeats 6400000 in
theorem iIvOf (va : Value) (a : Wh) (w : World) (ha : rowW w va a) (hla : a.2.length ≤ 1048576) :
    Calls Try.prog 14 #[va] w fun e w' => ∃ v, e = .returned v ∧ ownsV w' w.heap.size v (ivOfR a) ∧ Below w.heap.size w w' := by
  by_cases hov : okW a = true
  · have kA := fun W (h : Below w.heap.size w W) => sFromYes va a W (ha.below h (Nat.le_refl _)) hla hov
    have kD := fun p q W h h' => ivFrom_c p q (valW a) (valW a) W h h'
    have kE := fun p W h => alone_c p (valW a) W h
    unfold spanE at kE
    have hfw : fitW (valW a) = (a, true) := by
      unfold fitW
      rw [if_pos (okW_lenV hov), ← mkW_of hov]
    have hfv : fitV (valW a) (valW a) = ((a, a), true) := by
      unfold fitV
      rw [hfw]
      simp
    have HR : Hid (ivOfR a = (a, a)) := by show _ = _; unfold ivOfR; rw [if_pos hov]
    rw [hfv] at kD
    obtain ⟨rr, hr⟩ : ∃ r, ivOfR a = r := ⟨_, rfl⟩
    rw [hr] at HR
    rw [hr]
    clear hr hov hfw hfv
    generalize valW a = x at *
    obtain ⟨s, rfl, hs⟩ := ha
    obtain ⟨ad, cap, rfl, -⟩ := id hs
    obtain ⟨g, hg⟩ : ∃ g, a.1 = g := ⟨_, rfl⟩
    obtain ⟨len, hlen⟩ : ∃ l, a.2.length = l := ⟨_, rfl⟩
    rw [hg, hlen] at kA
    rw [hg, hlen]
    clear hs hg hlen hla
    have s1 : (w.alloc (.cells #[.bool g, .slice ad len cap] 26)).heap.size = w.heap.size + 1 := by simp
    have X0 := (BoxW.made w (.bool g) (.slice ad len cap) 26).below (below1 _ (.cells #[.bool false, .slice none 0 0, .bool false, .slice none 0 0] 28)) (Nat.le_refl _)
    have R0 := BoxV.made (w.alloc (.cells #[.bool g, .slice ad len cap] 26)) (.bool false) (.slice none 0 0) (.bool false) (.slice none 0 0) 28
    rw [s1] at R0
    have B0 := below2 w (.cells #[.bool g, .slice ad len cap] 26) (.cells #[.bool false, .slice none 0 0, .bool false, .slice none 0 0] 28)
    clear s1
    obtain ⟨nb, lb⟩ := a
    go_enter Try.func14, Try.ntmps14
    go_wp2_with fail
    refine (kA _ B0).mono ?_
    generalize (w.alloc (.cells #[.bool g, .slice ad len cap] 26)).alloc (.cells #[.bool false, .slice none 0 0, .bool false, .slice none 0 0] 28) = w0 at *
    rintro e w1 ⟨p, rfl, hp, sp, b1⟩
    have R1 := R0.below b1 (Nat.le_refl _)
    have B1 := B0.trans (b1.mono B0.size)
    clear R0 B0 b1 kA X0
    go_wp2_with fail
    refine (kE p _ sp).mono ?_
    rintro e w1 ⟨c, d, rfl, sc, sd, bb⟩
    have R1 := R1.below bb (Nat.le_refl _)
    have B1 := B1.trans (bb.mono B1.size)
    clear kE sp bb
    go_wp2_with fail
    refine (kD c d _ sc sd).mono ?_
    rintro e w2 ⟨v2, rfl, o2, b2⟩
    obtain ⟨s3, s4, rfl, q3, q4, hap⟩ := o2
    obtain ⟨ad3, cp3, rfl, -⟩ := q3.row
    obtain ⟨ad4, cp4, rfl, -⟩ := q4.row
    have q3' : ownsI w2 w1.heap.size (.slice ad3 lb.length cp3) lb := q3
    have q4' : ownsI w2 w1.heap.size (.slice ad4 lb.length cp4) lb := q4
    have bE := below1 w2 (.cells #[.bool nb, .slice ad3 lb.length cp3, .bool nb, .slice ad4 lb.length cp4] 28)
    have E2 := BoxV.made w2 (.bool nb) (.slice ad3 lb.length cp3) (.bool nb) (.slice ad4 lb.length cp4) 28
    have R2 := (R1.below b2 (Nat.le_refl _)).below bE (Nat.le_refl _)
    have B2 := (B1.trans (b2.mono B1.size)).trans (bE.mono (B1.trans (b2.mono B1.size)).size)
    have q5 := ownsI.below q3' bE (Nat.le_refl _)
    have q6 := ownsI.below q4' bE (Nat.le_refl _)
    have hR1 := R1.hi
    have hE0 := E2.c0
    have hE1 := E2.c1
    have hE2 := E2.c2
    have hE3 := E2.c3
    have hw2 := b2.size
    have r0 := R2.c0
    have f0 := R2.f0
    have r1 := R2.c1
    have f1 := R2.f1
    have r2 := R2.c2
    have f2 := R2.f2
    have r3 := R2.c3
    have f3 := R2.f3
    have HA : Hid (ownsI _ w1.heap.size (.slice ad3 lb.length cp3) lb) := (((q5.other (w.heap.size + 1) 0 (by omega) (.bool nb)).other (w.heap.size + 1) 1 (by omega) (.slice ad3 lb.length cp3)).other (w.heap.size + 1) 2 (by omega) (.bool nb)).other (w.heap.size + 1) 3 (by omega) (.slice ad4 lb.length cp4)
    have HZ : Hid (ownsI _ w1.heap.size (.slice ad4 lb.length cp4) lb) := (((q6.other (w.heap.size + 1) 0 (by omega) (.bool nb)).other (w.heap.size + 1) 1 (by omega) (.slice ad3 lb.length cp3)).other (w.heap.size + 1) 2 (by omega) (.bool nb)).other (w.heap.size + 1) 3 (by omega) (.slice ad4 lb.length cp4)
    have HB : Hid (Below w.heap.size w _) := ((((B2.setCell (p := ⟨w.heap.size + 1, 0, none⟩) (by show w.heap.size ≤ w.heap.size + 1; omega) (.bool nb)).setCell (p := ⟨w.heap.size + 1, 1, none⟩) (by show w.heap.size ≤ w.heap.size + 1; omega) (.slice ad3 lb.length cp3)).setCell (p := ⟨w.heap.size + 1, 2, none⟩) (by show w.heap.size ≤ w.heap.size + 1; omega) (.bool nb)).setCell (p := ⟨w.heap.size + 1, 3, none⟩) (by show w.heap.size ≤ w.heap.size + 1; omega) (.slice ad4 lb.length cp4))
    have HP : Hid (Apart (blkI (.slice ad3 lb.length cp3)) (blkI (.slice ad4 lb.length cp4))) := hap
    have hb1 := B1.size
    have hn1 : ¬ (w2.heap.size = w.heap.size + 1) := by omega
    have hn2 : ¬ (w.heap.size + 1 = w2.heap.size) := by omega
    clear q3 q4 q3' q4' q5 q6 E2 R1 R2 B1 B2 b2 bE kD hap sc sd
    go_wp2
    (try simp only [Exit.inBlock, Exit.then])
    refine bodyPost_ret (v := .agg #[.bool nb, .slice ad3 lb.length cp3, .bool nb, .slice ad4 lb.length cp4]) ?_ rfl ⟨_, rfl, by rw [HR.out]; exact ⟨_, _, rfl, ownsI_mono HA.out hb1, ownsI_mono HZ.out hb1, HP.out⟩, HB.out⟩
    rw [results_cell1 rfl]
    go_simp
  · have hf : okW a = false := by simpa using hov
    have kA := fun W (h : Below w.heap.size w W) => sFromNo va a W (ha.below h (Nat.le_refl _)) hla hf
    have HR : Hid (ivOfR a = ((false, []), (false, []))) := by show _ = _; unfold ivOfR; rw [if_neg hov]
    obtain ⟨rr, hr⟩ : ∃ r, ivOfR a = r := ⟨_, rfl⟩
    rw [hr] at HR
    rw [hr]
    clear hr hov hf
    obtain ⟨s, rfl, hs⟩ := ha
    obtain ⟨ad, cap, rfl, -⟩ := id hs
    obtain ⟨g, hg⟩ : ∃ g, a.1 = g := ⟨_, rfl⟩
    obtain ⟨len, hlen⟩ : ∃ l, a.2.length = l := ⟨_, rfl⟩
    rw [hg, hlen] at kA
    rw [hg, hlen]
    clear hs hg hlen hla
    have s1 : (w.alloc (.cells #[.bool g, .slice ad len cap] 26)).heap.size = w.heap.size + 1 := by simp
    have X0 := (BoxW.made w (.bool g) (.slice ad len cap) 26).below (below1 _ (.cells #[.bool false, .slice none 0 0, .bool false, .slice none 0 0] 28)) (Nat.le_refl _)
    have R0 := BoxV.made (w.alloc (.cells #[.bool g, .slice ad len cap] 26)) (.bool false) (.slice none 0 0) (.bool false) (.slice none 0 0) 28
    rw [s1] at R0
    have B0 := below2 w (.cells #[.bool g, .slice ad len cap] 26) (.cells #[.bool false, .slice none 0 0, .bool false, .slice none 0 0] 28)
    clear s1
    go_enter Try.func14, Try.ntmps14
    go_wp2_with fail
    refine (kA _ B0).mono ?_
    generalize (w.alloc (.cells #[.bool g, .slice ad len cap] 26)).alloc (.cells #[.bool false, .slice none 0 0, .bool false, .slice none 0 0] 28) = w0 at *
    rintro e w1 ⟨rfl, b1⟩
    have R1 := R0.below b1 (Nat.le_refl _)
    have B1 := B0.trans (b1.mono B0.size)
    have r0 := R1.c0
    have f0 := R1.f0
    have r1 := R1.c1
    have f1 := R1.f1
    have r2 := R1.c2
    have f2 := R1.f2
    have r3 := R1.c3
    have f3 := R1.f3
    have HB : Hid (Below w.heap.size w _) := ((((B1.setCell (p := ⟨w.heap.size + 1, 0, none⟩) (by show w.heap.size ≤ w.heap.size + 1; omega) (.bool false)).setCell (p := ⟨w.heap.size + 1, 1, none⟩) (by show w.heap.size ≤ w.heap.size + 1; omega) (.slice none 0 0)).setCell (p := ⟨w.heap.size + 1, 2, none⟩) (by show w.heap.size ≤ w.heap.size + 1; omega) (.bool false)).setCell (p := ⟨w.heap.size + 1, 3, none⟩) (by show w.heap.size ≤ w.heap.size + 1; omega) (.slice none 0 0))
    clear R0 R1 B0 B1 b1 kA X0
    go_wp2
    (try simp only [Exit.inBlock, Exit.then])
    refine bodyPost_ret (v := .agg #[.bool false, .slice none 0 0, .bool false, .slice none 0 0]) ?_ rfl ⟨_, rfl, by rw [HR.out]; exact nilV _ _, HB.out⟩
    rw [results_cell1 rfl]
    go_simp


end Go.Proofs.Ytmbmnfphgcjhdaa
