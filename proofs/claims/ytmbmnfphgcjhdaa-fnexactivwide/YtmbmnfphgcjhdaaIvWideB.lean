/- IvWide of the specification and of the program, each by its contract. -/
import Derived.Test.YtmbmnfphgcjhdaaSVFits
import Derived.Test.YtmbmnfphgcjhdaaSIvOk
import Derived.Test.YtmbmnfphgcjhdaaGTop
import Derived.Test.YtmbmnfphgcjhdaaWTop
import Derived.Test.YtmbmnfphgcjhdaaSWholeOf
import Derived.Test.YtmbmnfphgcjhdaaSOf
import Derived.Test.YtmbmnfphgcjhdaaSIn
import Derived.Test.YtmbmnfphgcjhdaaVTop
namespace Go.Proofs.Ytmbmnfphgcjhdaa
open Go.RowKit
set_option linter.unusedSimpArgs false

def wideR (a : Vh) (n : Int) : Vh × Bool := if okV a = true ∧ 0 ≤ n ∧ n ≤ 1000000 then fitV (valW a.1 - n) (valW a.2 + n) else (((false, []), (false, [])), false)
theorem wideR_len (a : Vh) (n : Int) : (wideR a n).1.1.2.length ≤ 1048576 ∧ (wideR a n).1.2.2.length ≤ 1048576 := by
  unfold wideR
  split
  · exact fitV_len _ _
  · simp

set_option maxRecDepth 20000 in
set_option maxHeartbeats 6400000 in
theorem sVWide (va : Value) (a : Vh) (n : Int) (w : World) (ha : rowV w va a) (hok : okV a = true) (h0 : 0 ≤ n) (h1 : n ≤ 1000000) :
    Calls Try.prog 63 #[va, .int .i64 n] w fun e w' => ∃ v, e = .returned v ∧ ownsV w' w.heap.size v (mkW (valW a.1 - n), mkW (valW a.2 + n)) ∧ Below w.heap.size w w' := by
  have z := okV_yes hok
  have l1' := okW_lenV z.1
  have l2' := okW_lenV z.2.1
  have ln : (limbs n.natAbs).length ≤ 1 := limbs_len_le _ 1 (by omega)
  have kO := fun W => sWholeOf n W (by omega) (by omega)
  have kO : ∀ W, Calls Try.prog 67 #[.int .i64 n] W fun e w' => ∃ v, e = .returned v ∧ ownsW w' W.heap.size v (mkW n) ∧ Below W.heap.size W w' := kO
  have kS : ∀ s, rowI w s a.1.2 → ∀ v W, Below w.heap.size w W → rowW W v (mkW n) → Calls Try.prog 87 #[.agg #[.bool a.1.1, s], v] W fun e w' => ∃ v, e = .returned v ∧ ownsW w' W.heap.size v (mkW (valW a.1 - n)) ∧ Below W.heap.size W w' :=
    fun s hs v W h q => sWSub _ v (valW a.1) n W (by rw [← mkW_of z.1]; exact ⟨_, rfl, hs.below h (Nat.le_refl _)⟩) q (by omega) (by omega)
  have kP : ∀ t, rowI w t a.2.2 → ∀ v W, Below w.heap.size w W → rowW W v (mkW n) → Calls Try.prog 81 #[.agg #[.bool a.2.1, t], v] W fun e w' => ∃ v, e = .returned v ∧ ownsW w' W.heap.size v (mkW (valW a.2 + n)) ∧ Below W.heap.size W w' :=
    fun t ht v W h q => sWAdd _ v (valW a.2) n W (by rw [← mkW_of z.2.1]; exact ⟨_, rfl, ht.below h (Nat.le_refl _)⟩) q (by omega) (by omega)
  clear z l1' l2' ln hok
  generalize mkW (valW a.1 - n) = m1 at *
  generalize mkW (valW a.2 + n) = m2 at *
  generalize mkW n = mn at *
  obtain ⟨n1, l1⟩ := m1
  obtain ⟨n2, l2⟩ := m2
  obtain ⟨s, t, rfl, hs, ht⟩ := ha
  have kS := kS s hs
  have kP := kP t ht
  obtain ⟨ad, cap, rfl, -⟩ := id hs
  obtain ⟨ae, cbp, rfl, -⟩ := id ht
  obtain ⟨g, hg⟩ : ∃ g, a.1.1 = g := ⟨_, rfl⟩
  obtain ⟨g', hg'⟩ : ∃ g, a.2.1 = g := ⟨_, rfl⟩
  obtain ⟨len, hlen⟩ : ∃ l, a.1.2.length = l := ⟨_, rfl⟩
  obtain ⟨len2, hlen2⟩ : ∃ l, a.2.2.length = l := ⟨_, rfl⟩
  rw [hg, hlen] at kS
  rw [hg', hlen2] at kP
  rw [hg, hg', hlen, hlen2]
  clear hs ht hg hg' hlen hlen2
  have s1 : (w.alloc (.cells #[.bool g, .slice ad len cap, .bool g', .slice ae len2 cbp] 28)).heap.size = w.heap.size + 1 := by simp
  have X0 := (BoxV.made w (.bool g) (.slice ad len cap) (.bool g') (.slice ae len2 cbp) 28).below (below1 _ (.cells #[.bool false, .slice none 0 0, .bool false, .slice none 0 0] 28)) (Nat.le_refl _)
  have R0 := BoxV.made (w.alloc (.cells #[.bool g, .slice ad len cap, .bool g', .slice ae len2 cbp] 28)) (.bool false) (.slice none 0 0) (.bool false) (.slice none 0 0) 28
  rw [s1] at R0
  have B0 := below2 w (.cells #[.bool g, .slice ad len cap, .bool g', .slice ae len2 cbp] 28) (.cells #[.bool false, .slice none 0 0, .bool false, .slice none 0 0] 28)
  clear s1
  go_enter Try.func63, Try.ntmps63
  go_wp2_with fail
  generalize (w.alloc (.cells #[.bool g, .slice ad len cap, .bool g', .slice ae len2 cbp] 28)).alloc (.cells #[.bool false, .slice none 0 0, .bool false, .slice none 0 0] 28) = w1 at *
  have bd := (Below.refl w1.heap.size w1).drew
  have X2 := X0.below bd (Nat.le_refl _)
  have R2 := R0.below bd (Nat.le_refl _)
  have B2 := B0.trans (bd.mono B0.size)
  refine wp_region_held_drew (S := fun W => W.cell? ⟨w.heap.size, 0, none⟩ = some (.bool g) ∧ W.cell? ⟨w.heap.size, 1, none⟩ = some (.slice ad len cap) ∧ W.cell? ⟨w.heap.size, 2, none⟩ = some (.bool g') ∧ W.cell? ⟨w.heap.size, 3, none⟩ = some (.slice ae len2 cbp)) (by kernel_rfl) ⟨X2.c0, X2.c1, X2.c2, X2.c3⟩ ?_
  intro hHeld
  generalize w1.drew = w2 at *
  refine takeH 0 (some 5) (.pointer (some ⟨w.heap.size, 0, none⟩)) rfl rfl (by kernel_rfl) (by kernel_rfl) (by kernel_rfl) (fun _ _ _ h => h) (Or.inl ⟨rfl, fun W hW => by obtain _ := hW; go_simp⟩) (by assumption) ?_
  simp only [Act.put, List.setIfInBounds_toArray, List.set_cons_zero, List.set_cons_succ]
  refine takeH 1 (some 6) (.agg #[.bool g, .slice ad len cap]) rfl rfl (by kernel_rfl) (by kernel_rfl) (by kernel_rfl) (fun _ _ _ h => h) (Or.inl ⟨rfl, fun W hW => by obtain ⟨_a, _b, _, _⟩ := hW; go_simp⟩) (by assumption) ?_
  simp only [Act.put, List.setIfInBounds_toArray, List.set_cons_zero, List.set_cons_succ]
  refine takeH 2 (some 7) (.int .i64 n) rfl rfl (by kernel_rfl) (by kernel_rfl) (by kernel_rfl) (fun _ _ _ h => h) (yg_move rfl (.tmp 1) rfl _ rfl) (by assumption) ?_
  simp only [Act.put, List.setIfInBounds_toArray, List.set_cons_zero, List.set_cons_succ]
  refine takeH 5 (some 10) (.pointer (some ⟨w.heap.size, 2, none⟩)) rfl rfl (by kernel_rfl) (by kernel_rfl) (by kernel_rfl) (fun _ _ _ h => h) (Or.inl ⟨rfl, fun W hW => by obtain _ := hW; go_simp⟩) (by assumption) ?_
  simp only [Act.put, List.setIfInBounds_toArray, List.set_cons_zero, List.set_cons_succ]
  refine takeH 6 (some 11) (.agg #[.bool g', .slice ae len2 cbp]) rfl rfl (by kernel_rfl) (by kernel_rfl) (by kernel_rfl) (fun _ _ _ h => h) (Or.inl ⟨rfl, fun W hW => by obtain ⟨_, _, _a, _b⟩ := hW; go_simp⟩) (by assumption) ?_
  simp only [Act.put, List.setIfInBounds_toArray, List.set_cons_zero, List.set_cons_succ]
  refine takeH 7 (some 12) (.int .i64 n) rfl rfl (by kernel_rfl) (by kernel_rfl) (by kernel_rfl) (fun _ _ _ h => h) (yg_move rfl (.tmp 1) rfl _ rfl) (by assumption) ?_
  simp only [Act.put, List.setIfInBounds_toArray, List.set_cons_zero, List.set_cons_succ]
  refine oneH 3 rfl (by kernel_rfl) (fun K' hK => ?_)
  go_simp
  refine (kO _).mono ?_
  rintro e w3 ⟨v3, rfl, o3, b3⟩
  have X3 := X2.below b3 (Nat.le_refl _)
  have R3 := R2.below b3 (Nat.le_refl _)
  have B3 := B2.trans (b3.mono B2.size)
  refine hK _ _ ⟨X3.c0, X3.c1, X3.c2, X3.c3⟩ ?_
  clear hK
  refine oneH 4 rfl (by kernel_rfl) (fun K' hK => ?_)
  go_simp
  refine (kS _ _ B3 o3.row).mono ?_
  rintro e w4 ⟨v4, rfl, o4, b4⟩
  obtain ⟨s3, rfl, q3⟩ := o4
  obtain ⟨ad3, cp3, rfl, -⟩ := q3.row
  have qq4 : ownsI w4 w3.heap.size (.slice ad3 l1.length cp3) l1 := q3
  have X4 := X3.below b4 (Nat.le_refl _)
  have R4 := R3.below b4 (Nat.le_refl _)
  have B4 := B3.trans (b4.mono B3.size)
  refine hK _ _ ⟨X4.c0, X4.c1, X4.c2, X4.c3⟩ ?_
  clear hK
  refine oneH 8 rfl (by kernel_rfl) (fun K' hK => ?_)
  go_simp
  refine (kO _).mono ?_
  rintro e w5 ⟨v5, rfl, o5, b5⟩
  have X5 := X4.below b5 (Nat.le_refl _)
  have R5 := R4.below b5 (Nat.le_refl _)
  have B5 := B4.trans (b5.mono B4.size)
  have qq5 := ownsI.below qq4 b5 (Nat.le_refl _)
  refine hK _ _ ⟨X5.c0, X5.c1, X5.c2, X5.c3⟩ ?_
  clear hK
  refine oneH 9 rfl (by kernel_rfl) (fun K' hK => ?_)
  go_simp
  refine (kP _ _ B5 o5.row).mono ?_
  rintro e w6 ⟨v6, rfl, o6, b6⟩
  have X6 := X5.below b6 (Nat.le_refl _)
  have R6 := R5.below b6 (Nat.le_refl _)
  have B6 := B5.trans (b6.mono B5.size)
  refine hK _ _ ⟨X6.c0, X6.c1, X6.c2, X6.c3⟩ ?_
  clear hK
  obtain ⟨s4, rfl, q4⟩ := o6
  obtain ⟨ad4, cp4, rfl, -⟩ := q4.row
  have q3' := ownsI.below qq5 b6 (Nat.le_refl _)
  have q4' : ownsI w6 w5.heap.size (.slice ad4 l2.length cp4) l2 := q4
  have hap : Apart (blkI (.slice ad3 l1.length cp3)) (blkI (.slice ad4 l2.length cp4)) := apart_of (fun k hk => (qq5.ltb k hk).2) (fun k hk => (q4'.ltb k hk).1)
  have hh3 := R3.hi
  have hh5 := R5.hi
  have r0 := R6.c0
  have f0 := R6.f0
  have r1 := R6.c1
  have f1 := R6.f1
  have r2 := R6.c2
  have f2 := R6.f2
  have r3 := R6.c3
  have f3 := R6.f3
  have H6 : w6.cell? ⟨w.heap.size, 0, none⟩ = some (.bool g) ∧ w6.cell? ⟨w.heap.size, 1, none⟩ = some (.slice ad len cap) ∧ w6.cell? ⟨w.heap.size, 2, none⟩ = some (.bool g') ∧ w6.cell? ⟨w.heap.size, 3, none⟩ = some (.slice ae len2 cbp) := ⟨X6.c0, X6.c1, X6.c2, X6.c3⟩
  refine takeH 10 (some 15) (.agg #[.bool n1, .slice ad3 l1.length cp3, .bool n2, .slice ad4 l2.length cp4]) rfl rfl (by kernel_rfl) (by kernel_rfl) (by kernel_rfl) (fun _ _ _ h => h) (Or.inl ⟨rfl, fun W hW => by obtain _ := hW; go_simp⟩) (by assumption) ?_
  simp only [Act.put, List.setIfInBounds_toArray, List.set_cons_zero, List.set_cons_succ]
  have X7 := X6.tn ((((tnC w6 (w.heap.size + 1) 0 (.bool n1)).trans (tnC _ (w.heap.size + 1) 1 (.slice ad3 l1.length cp3))).trans (tnC _ (w.heap.size + 1) 2 (.bool n2))).trans (tnC _ (w.heap.size + 1) 3 (.slice ad4 l2.length cp4))) (fun k hk hs => by simp at hk hs; omega)
  refine oneH 11 rfl (by kernel_rfl) (fun K' hK => ?_)
  go_simp
  refine hK _ _ ⟨X7.c0, X7.c1, X7.c2, X7.c3⟩ ?_
  refine wpAnyH_done (by kernel_rfl) ?_ _
  have HA : Hid (ownsI _ w3.heap.size (.slice ad3 l1.length cp3) l1) := ((((q3'.other (w.heap.size + 1) 0 (by omega) (.bool n1)).other (w.heap.size + 1) 1 (by omega) (.slice ad3 l1.length cp3)).other (w.heap.size + 1) 2 (by omega) (.bool n2)).other (w.heap.size + 1) 3 (by omega) (.slice ad4 l2.length cp4))
  have HZ : Hid (ownsI _ w5.heap.size (.slice ad4 l2.length cp4) l2) := ((((q4'.other (w.heap.size + 1) 0 (by omega) (.bool n1)).other (w.heap.size + 1) 1 (by omega) (.slice ad3 l1.length cp3)).other (w.heap.size + 1) 2 (by omega) (.bool n2)).other (w.heap.size + 1) 3 (by omega) (.slice ad4 l2.length cp4))
  have HB : Hid (Below w.heap.size w _) := ((((B6.setCell (p := ⟨w.heap.size + 1, 0, none⟩) (by show w.heap.size ≤ w.heap.size + 1; omega) (.bool n1)).setCell (p := ⟨w.heap.size + 1, 1, none⟩) (by show w.heap.size ≤ w.heap.size + 1; omega) (.slice ad3 l1.length cp3)).setCell (p := ⟨w.heap.size + 1, 2, none⟩) (by show w.heap.size ≤ w.heap.size + 1; omega) (.bool n2)).setCell (p := ⟨w.heap.size + 1, 3, none⟩) (by show w.heap.size ≤ w.heap.size + 1; omega) (.slice ad4 l2.length cp4))
  have HP : Hid (Apart (blkI (.slice ad3 l1.length cp3)) (blkI (.slice ad4 l2.length cp4))) := hap
  have hb3 := B3.size
  have hb5 := B5.size
  clear hK hHeld q3 q4 q3' q4' qq4 qq5 X0 X2 X3 X4 X5 X6 X7 R0 R2 R3 R4 R5 R6 B0 B2 B3 B4 B5 B6 b3 b4 b5 b6 kO kS kP hap bd o3 o5
  go_wp2
  (try simp only [Exit.inBlock, Exit.then])
  refine bodyPost_ret (v := .agg #[.bool n1, .slice ad3 l1.length cp3, .bool n2, .slice ad4 l2.length cp4]) ?_ rfl ⟨_, rfl, ⟨_, _, rfl, ownsI_mono HA.out hb3, ownsI_mono HZ.out hb5, HP.out⟩, HB.out⟩
  rw [results_cell1 rfl]
  go_simp

set_option maxRecDepth 20000 in
set_option maxHeartbeats 6400000 in
theorem sIvWide (va : Value) (a : Vh) (n : Int) (w : World) (ha : rowV w va a) (hl0 : a.1.2.length ≤ 1048576) (hl1 : a.2.2.length ≤ 1048576) :
    Calls Try.prog 28 #[va, .int .i64 n] w fun e w' => ∃ v, e = .returned (.tuple #[v, .bool (wideR a n).2]) ∧ ownsV w' w.heap.size v (wideR a n).1 ∧ Below w.heap.size w w' := by
  have kA := fun W (h : Below w.heap.size w W) => sIvOk va a W (ha.below h (Nat.le_refl _)) hl0 hl1
  obtain ⟨ov, hov⟩ : ∃ o, okV a = o := ⟨_, rfl⟩
  rw [hov] at kA
  cases ov
  · have HR : Hid (wideR a n = (((false, []), (false, [])), false)) := by show _ = _; unfold wideR; rw [if_neg (fun h => by rw [hov] at h; cases h.1)]
    obtain ⟨rr, hr⟩ : ∃ r, wideR a n = r := ⟨_, rfl⟩
    rw [hr] at HR
    rw [hr]
    clear hr
    clear hov hl0 hl1
    obtain ⟨s, t, rfl, hs, ht⟩ := ha
    obtain ⟨ad, cap, rfl, -⟩ := id hs
    obtain ⟨ae, cbp, rfl, -⟩ := id ht
    obtain ⟨g, hg⟩ : ∃ g, a.1.1 = g := ⟨_, rfl⟩
    obtain ⟨g', hg'⟩ : ∃ g, a.2.1 = g := ⟨_, rfl⟩
    obtain ⟨len, hlen⟩ : ∃ l, a.1.2.length = l := ⟨_, rfl⟩
    obtain ⟨len2, hlen2⟩ : ∃ l, a.2.2.length = l := ⟨_, rfl⟩
    rw [hg, hg', hlen, hlen2] at kA
    rw [hg, hg', hlen, hlen2]
    clear hs ht hg hg' hlen hlen2
    have s1 : (w.alloc (.cells #[.bool g, .slice ad len cap, .bool g', .slice ae len2 cbp] 28)).heap.size = w.heap.size + 1 := by simp
    have X0 := (BoxV.made w (.bool g) (.slice ad len cap) (.bool g') (.slice ae len2 cbp) 28).below (below1 _ (.cells #[.bool false, .slice none 0 0, .bool false, .slice none 0 0] 28)) (Nat.le_refl _)
    have R0 := BoxV.made (w.alloc (.cells #[.bool g, .slice ad len cap, .bool g', .slice ae len2 cbp] 28)) (.bool false) (.slice none 0 0) (.bool false) (.slice none 0 0) 28
    rw [s1] at R0
    have B0 := below2 w (.cells #[.bool g, .slice ad len cap, .bool g', .slice ae len2 cbp] 28) (.cells #[.bool false, .slice none 0 0, .bool false, .slice none 0 0] 28)
    clear s1
    go_enter Try.func28, Try.ntmps28
    go_wp2_with fail
    refine (kA _ B0).mono ?_
    generalize (w.alloc (.cells #[.bool g, .slice ad len cap, .bool g', .slice ae len2 cbp] 28)).alloc (.cells #[.bool false, .slice none 0 0, .bool false, .slice none 0 0] 28) = w0 at *
    rintro e w1 ⟨rfl, b1⟩
    have X1 := X0.below b1 (Nat.le_refl _)
    have R1 := R0.below b1 (Nat.le_refl _)
    have B1 := B0.trans (b1.mono B0.size)
    clear kA
    have r0 := R1.c0
    have f0 := R1.f0
    have r1 := R1.c1
    have f1 := R1.f1
    have r2 := R1.c2
    have f2 := R1.f2
    have r3 := R1.c3
    have f3 := R1.f3
    have HB : Hid (Below w.heap.size w _) := ((((B1.setCell (p := ⟨w.heap.size + 1, 0, none⟩) (by show w.heap.size ≤ w.heap.size + 1; omega) (.bool false)).setCell (p := ⟨w.heap.size + 1, 1, none⟩) (by show w.heap.size ≤ w.heap.size + 1; omega) (.slice none 0 0)).setCell (p := ⟨w.heap.size + 1, 2, none⟩) (by show w.heap.size ≤ w.heap.size + 1; omega) (.bool false)).setCell (p := ⟨w.heap.size + 1, 3, none⟩) (by show w.heap.size ≤ w.heap.size + 1; omega) (.slice none 0 0))
    clear R0 R1 B0 B1 b1 X0
    go_wp2
    (try simp only [Exit.inBlock, Exit.then])
    refine bodyPost_ret (v := .tuple #[.agg #[.bool false, .slice none 0 0, .bool false, .slice none 0 0], .bool false]) ?_ rfl ⟨_, by rw [HR.out], by rw [HR.out]; exact nilV _ _, HB.out⟩
    rw [results_cell_tmp rfl]
    go_simp
  · by_cases hn : 0 ≤ n ∧ n ≤ 1000000
    · have kI := fun W => in_yes n 0 1000000 W hn.1 hn.2
      have kG := fun W (h : Below w.heap.size w W) => sVWide va a n W (ha.below h (Nat.le_refl _)) hov hn.1 hn.2
      have kf := fun v base W (h : ownsV W base v (mkW (valW a.1 - n), mkW (valW a.2 + n))) => sVFits v (valW a.1 - n) (valW a.2 + n) base W h
      have HR : Hid (wideR a n = fitV (valW a.1 - n) (valW a.2 + n)) := by show _ = _; unfold wideR; rw [if_pos ⟨hov, hn.1, hn.2⟩]
      obtain ⟨rr, hr⟩ : ∃ r, wideR a n = r := ⟨_, rfl⟩
      rw [hr] at HR
      rw [hr]
      clear hr
      clear hov hl0 hl1 hn
      generalize fitV (valW a.1 - n) (valW a.2 + n) = fw at *
      generalize (mkW (valW a.1 - n), mkW (valW a.2 + n)) = fm at *
      obtain ⟨s, t, rfl, hs, ht⟩ := ha
      obtain ⟨ad, cap, rfl, -⟩ := id hs
      obtain ⟨ae, cbp, rfl, -⟩ := id ht
      obtain ⟨g, hg⟩ : ∃ g, a.1.1 = g := ⟨_, rfl⟩
      obtain ⟨g', hg'⟩ : ∃ g, a.2.1 = g := ⟨_, rfl⟩
      obtain ⟨len, hlen⟩ : ∃ l, a.1.2.length = l := ⟨_, rfl⟩
      obtain ⟨len2, hlen2⟩ : ∃ l, a.2.2.length = l := ⟨_, rfl⟩
      rw [hg, hg', hlen, hlen2] at kA kG
      rw [hg, hg', hlen, hlen2]
      clear hs ht hg hg' hlen hlen2
      have s1 : (w.alloc (.cells #[.bool g, .slice ad len cap, .bool g', .slice ae len2 cbp] 28)).heap.size = w.heap.size + 1 := by simp
      have X0 := (BoxV.made w (.bool g) (.slice ad len cap) (.bool g') (.slice ae len2 cbp) 28).below (below1 _ (.cells #[.bool false, .slice none 0 0, .bool false, .slice none 0 0] 28)) (Nat.le_refl _)
      have R0 := BoxV.made (w.alloc (.cells #[.bool g, .slice ad len cap, .bool g', .slice ae len2 cbp] 28)) (.bool false) (.slice none 0 0) (.bool false) (.slice none 0 0) 28
      rw [s1] at R0
      have B0 := below2 w (.cells #[.bool g, .slice ad len cap, .bool g', .slice ae len2 cbp] 28) (.cells #[.bool false, .slice none 0 0, .bool false, .slice none 0 0] 28)
      clear s1
      go_enter Try.func28, Try.ntmps28
      go_wp2_with fail
      refine (kA _ B0).mono ?_
      generalize (w.alloc (.cells #[.bool g, .slice ad len cap, .bool g', .slice ae len2 cbp] 28)).alloc (.cells #[.bool false, .slice none 0 0, .bool false, .slice none 0 0] 28) = w0 at *
      rintro e w1 ⟨rfl, b1⟩
      have X1 := X0.below b1 (Nat.le_refl _)
      have R1 := R0.below b1 (Nat.le_refl _)
      have B1 := B0.trans (b1.mono B0.size)
      have x0 := X1.c0
      have x1 := X1.c1
      have x2 := X1.c2
      have x3 := X1.c3
      clear kA X0 R0 B0 b1
      go_wp2_with (first | (go_at_call 62; refine (kI _).mono ?_; rintro e w1 ⟨rfl, rfl⟩))
      refine (kG _ B1).mono ?_
      rintro e w6 ⟨v6, rfl, o6, b6⟩
      have B6 := B1.trans (b6.mono B1.size)
      have R6 := R1.below b6 (Nat.le_refl _)
      have hR1 := R1.hi
      clear x0 x1 x2 x3 X1
      go_wp2_with fail
      refine (kf _ _ _ o6).mono ?_
      rintro e w7 ⟨v7, rfl, o7, b7⟩
      have B7 := B6.trans (b7.mono B6.size)
      have R7 := R6.below b7 (Nat.le_refl _)
      obtain ⟨⟨⟨n1, l1⟩, ⟨n2, l2⟩⟩, ok3⟩ := fw
      obtain ⟨s3, s4, rfl, q3, q4, hap⟩ := o7
      obtain ⟨ad3, cp3, rfl, -⟩ := q3.row
      obtain ⟨ad4, cp4, rfl, -⟩ := q4.row
      have q3' : ownsI w7 (min w1.heap.size w6.heap.size) (.slice ad3 l1.length cp3) l1 := q3
      have q4' : ownsI w7 (min w1.heap.size w6.heap.size) (.slice ad4 l2.length cp4) l2 := q4
      have hR := R6.hi
      have r0 := R7.c0
      have f0 := R7.f0
      have r1 := R7.c1
      have f1 := R7.f1
      have r2 := R7.c2
      have f2 := R7.f2
      have r3 := R7.c3
      have f3 := R7.f3
      have hbase : w.heap.size + 1 < (min w1.heap.size w6.heap.size) ∧ w.heap.size ≤ (min w1.heap.size w6.heap.size) := by have := R6.hi; have := B6.size; have := B1.size; omega
      have HA : Hid (ownsI _ ((min w1.heap.size w6.heap.size)) (.slice ad3 l1.length cp3) l1) := ((((q3'.other (w.heap.size + 1) 0 (by omega) (.bool n1)).other (w.heap.size + 1) 1 (by omega) (.slice ad3 l1.length cp3)).other (w.heap.size + 1) 2 (by omega) (.bool n2)).other (w.heap.size + 1) 3 (by omega) (.slice ad4 l2.length cp4))
      have HZ : Hid (ownsI _ ((min w1.heap.size w6.heap.size)) (.slice ad4 l2.length cp4) l2) := ((((q4'.other (w.heap.size + 1) 0 (by omega) (.bool n1)).other (w.heap.size + 1) 1 (by omega) (.slice ad3 l1.length cp3)).other (w.heap.size + 1) 2 (by omega) (.bool n2)).other (w.heap.size + 1) 3 (by omega) (.slice ad4 l2.length cp4))
      have HB : Hid (Below w.heap.size w _) := ((((B7.setCell (p := ⟨w.heap.size + 1, 0, none⟩) (by show w.heap.size ≤ w.heap.size + 1; omega) (.bool n1)).setCell (p := ⟨w.heap.size + 1, 1, none⟩) (by show w.heap.size ≤ w.heap.size + 1; omega) (.slice ad3 l1.length cp3)).setCell (p := ⟨w.heap.size + 1, 2, none⟩) (by show w.heap.size ≤ w.heap.size + 1; omega) (.bool n2)).setCell (p := ⟨w.heap.size + 1, 3, none⟩) (by show w.heap.size ≤ w.heap.size + 1; omega) (.slice ad4 l2.length cp4))
      have HP : Hid (Apart (blkI (.slice ad3 l1.length cp3)) (blkI (.slice ad4 l2.length cp4))) := hap
      clear q3 q4 q3' q4' hap R7 B7 b7
      go_wp2
      (try simp only [Exit.inBlock, Exit.then])
      refine bodyPost_ret (v := .tuple #[.agg #[.bool n1, .slice ad3 l1.length cp3, .bool n2, .slice ad4 l2.length cp4], .bool ok3]) ?_ rfl ⟨_, by rw [HR.out], by rw [HR.out]; exact ⟨_, _, rfl, ownsI_mono HA.out hbase.2, ownsI_mono HZ.out hbase.2, HP.out⟩, HB.out⟩
      rw [results_cell_tmp rfl]
      go_simp
    · have kI := fun W => in_no n 0 1000000 W hn
      have HR : Hid (wideR a n = (((false, []), (false, [])), false)) := by show _ = _; unfold wideR; rw [if_neg (fun h => hn h.2)]
      obtain ⟨rr, hr⟩ : ∃ r, wideR a n = r := ⟨_, rfl⟩
      rw [hr] at HR
      rw [hr]
      clear hr
      clear hov hl0 hl1 hn
      obtain ⟨s, t, rfl, hs, ht⟩ := ha
      obtain ⟨ad, cap, rfl, -⟩ := id hs
      obtain ⟨ae, cbp, rfl, -⟩ := id ht
      obtain ⟨g, hg⟩ : ∃ g, a.1.1 = g := ⟨_, rfl⟩
      obtain ⟨g', hg'⟩ : ∃ g, a.2.1 = g := ⟨_, rfl⟩
      obtain ⟨len, hlen⟩ : ∃ l, a.1.2.length = l := ⟨_, rfl⟩
      obtain ⟨len2, hlen2⟩ : ∃ l, a.2.2.length = l := ⟨_, rfl⟩
      rw [hg, hg', hlen, hlen2] at kA
      rw [hg, hg', hlen, hlen2]
      clear hs ht hg hg' hlen hlen2
      have s1 : (w.alloc (.cells #[.bool g, .slice ad len cap, .bool g', .slice ae len2 cbp] 28)).heap.size = w.heap.size + 1 := by simp
      have X0 := (BoxV.made w (.bool g) (.slice ad len cap) (.bool g') (.slice ae len2 cbp) 28).below (below1 _ (.cells #[.bool false, .slice none 0 0, .bool false, .slice none 0 0] 28)) (Nat.le_refl _)
      have R0 := BoxV.made (w.alloc (.cells #[.bool g, .slice ad len cap, .bool g', .slice ae len2 cbp] 28)) (.bool false) (.slice none 0 0) (.bool false) (.slice none 0 0) 28
      rw [s1] at R0
      have B0 := below2 w (.cells #[.bool g, .slice ad len cap, .bool g', .slice ae len2 cbp] 28) (.cells #[.bool false, .slice none 0 0, .bool false, .slice none 0 0] 28)
      clear s1
      go_enter Try.func28, Try.ntmps28
      go_wp2_with fail
      refine (kA _ B0).mono ?_
      generalize (w.alloc (.cells #[.bool g, .slice ad len cap, .bool g', .slice ae len2 cbp] 28)).alloc (.cells #[.bool false, .slice none 0 0, .bool false, .slice none 0 0] 28) = w0 at *
      rintro e w1 ⟨rfl, b1⟩
      have X1 := X0.below b1 (Nat.le_refl _)
      have R1 := R0.below b1 (Nat.le_refl _)
      have B1 := B0.trans (b1.mono B0.size)
      clear kA
      have r0 := R1.c0
      have f0 := R1.f0
      have r1 := R1.c1
      have f1 := R1.f1
      have r2 := R1.c2
      have f2 := R1.f2
      have r3 := R1.c3
      have f3 := R1.f3
      have HB : Hid (Below w.heap.size w _) := ((((B1.setCell (p := ⟨w.heap.size + 1, 0, none⟩) (by show w.heap.size ≤ w.heap.size + 1; omega) (.bool false)).setCell (p := ⟨w.heap.size + 1, 1, none⟩) (by show w.heap.size ≤ w.heap.size + 1; omega) (.slice none 0 0)).setCell (p := ⟨w.heap.size + 1, 2, none⟩) (by show w.heap.size ≤ w.heap.size + 1; omega) (.bool false)).setCell (p := ⟨w.heap.size + 1, 3, none⟩) (by show w.heap.size ≤ w.heap.size + 1; omega) (.slice none 0 0))
      clear R0 R1 B0 B1 b1 X0
      go_wp2_with (first | (go_at_call 62; refine (kI _).mono ?_; rintro e w1 ⟨rfl, rfl⟩))
      (try simp only [Exit.inBlock, Exit.then])
      refine bodyPost_ret (v := .tuple #[.agg #[.bool false, .slice none 0 0, .bool false, .slice none 0 0], .bool false]) ?_ rfl ⟨_, by rw [HR.out], by rw [HR.out]; exact nilV _ _, HB.out⟩
      rw [results_cell_tmp rfl]
      go_simp

set_option maxRecDepth 20000 in
set_option maxHeartbeats 6400000 in
theorem iIvWide (va : Value) (a : Vh) (n : Int) (w : World) (ha : rowV w va a) (hl0 : a.1.2.length ≤ 1048576) (hl1 : a.2.2.length ≤ 1048576) :
    Calls Try.prog 29 #[va, .int .i64 n] w fun e w' => ∃ v, e = .returned (.tuple #[v, .bool (wideR a n).2]) ∧ ownsV w' w.heap.size v (wideR a n).1 ∧ Below w.heap.size w w' := by
  have kA := fun W (h : Below w.heap.size w W) => spanFrom_b va a W (ha.below h (Nat.le_refl _)) hl0 hl1
  obtain ⟨ov, hov⟩ : ∃ o, okV a = o := ⟨_, rfl⟩
  rw [hov] at kA
  cases ov
  · have HR : Hid (wideR a n = (((false, []), (false, [])), false)) := by show _ = _; unfold wideR; rw [if_neg (fun h => by rw [hov] at h; cases h.1)]
    obtain ⟨rr, hr⟩ : ∃ r, wideR a n = r := ⟨_, rfl⟩
    rw [hr] at HR
    rw [hr]
    clear hr
    clear hov hl0 hl1
    obtain ⟨s, t, rfl, hs, ht⟩ := ha
    obtain ⟨ad, cap, rfl, -⟩ := id hs
    obtain ⟨ae, cbp, rfl, -⟩ := id ht
    obtain ⟨g, hg⟩ : ∃ g, a.1.1 = g := ⟨_, rfl⟩
    obtain ⟨g', hg'⟩ : ∃ g, a.2.1 = g := ⟨_, rfl⟩
    obtain ⟨len, hlen⟩ : ∃ l, a.1.2.length = l := ⟨_, rfl⟩
    obtain ⟨len2, hlen2⟩ : ∃ l, a.2.2.length = l := ⟨_, rfl⟩
    rw [hg, hg', hlen, hlen2] at kA
    rw [hg, hg', hlen, hlen2]
    clear hs ht hg hg' hlen hlen2
    have s1 : (w.alloc (.cells #[.bool g, .slice ad len cap, .bool g', .slice ae len2 cbp] 28)).heap.size = w.heap.size + 1 := by simp
    have X0 := (BoxV.made w (.bool g) (.slice ad len cap) (.bool g') (.slice ae len2 cbp) 28).below (below1 _ (.cells #[.bool false, .slice none 0 0, .bool false, .slice none 0 0] 28)) (Nat.le_refl _)
    have R0 := BoxV.made (w.alloc (.cells #[.bool g, .slice ad len cap, .bool g', .slice ae len2 cbp] 28)) (.bool false) (.slice none 0 0) (.bool false) (.slice none 0 0) 28
    rw [s1] at R0
    have B0 := below2 w (.cells #[.bool g, .slice ad len cap, .bool g', .slice ae len2 cbp] 28) (.cells #[.bool false, .slice none 0 0, .bool false, .slice none 0 0] 28)
    clear s1
    go_enter Try.func29, Try.ntmps29
    go_wp2_with fail
    refine (kA _ B0).mono ?_
    generalize (w.alloc (.cells #[.bool g, .slice ad len cap, .bool g', .slice ae len2 cbp] 28)).alloc (.cells #[.bool false, .slice none 0 0, .bool false, .slice none 0 0] 28) = w0 at *
    rintro e w1' ⟨X, Y, rfl, b1', hXY⟩
    have bF := below1 w1' (.cells #[.pointer X, .pointer Y] 75)
    have E1 := BoxW.made w1' (.pointer X) (.pointer Y) 75
    have b1 := b1'.trans (bF.mono b1'.size)
    have R1 := R0.below b1 (Nat.le_refl _)
    have B1 := B0.trans (b1.mono B0.size)
    have r0 := R1.c0
    have f0 := R1.f0
    have r1 := R1.c1
    have f1 := R1.f1
    have r2 := R1.c2
    have f2 := R1.f2
    have r3 := R1.c3
    have f3 := R1.f3
    have HB : Hid (Below w.heap.size w _) := ((((B1.setCell (p := ⟨w.heap.size + 1, 0, none⟩) (by show w.heap.size ≤ w.heap.size + 1; omega) (.bool false)).setCell (p := ⟨w.heap.size + 1, 1, none⟩) (by show w.heap.size ≤ w.heap.size + 1; omega) (.slice none 0 0)).setCell (p := ⟨w.heap.size + 1, 2, none⟩) (by show w.heap.size ≤ w.heap.size + 1; omega) (.bool false)).setCell (p := ⟨w.heap.size + 1, 3, none⟩) (by show w.heap.size ≤ w.heap.size + 1; omega) (.slice none 0 0))
    clear R0 R1 B0 B1 b1 X0 E1 hXY kA bF
    go_wp2
    (try simp only [Exit.inBlock, Exit.then])
    refine bodyPost_ret (v := .tuple #[.agg #[.bool false, .slice none 0 0, .bool false, .slice none 0 0], .bool false]) ?_ rfl ⟨_, by rw [HR.out], by rw [HR.out]; exact nilV _ _, HB.out⟩
    rw [results_cell_tmp rfl]
    go_simp
  · by_cases hn1 : n < 0
    · have q1 : decide (n < 0) = true := decide_eq_true hn1
      have HR : Hid (wideR a n = (((false, []), (false, [])), false)) := by show _ = _; unfold wideR; rw [if_neg (by omega)]
      obtain ⟨rr, hr⟩ : ∃ r, wideR a n = r := ⟨_, rfl⟩
      rw [hr] at HR
      rw [hr]
      clear hr
      clear hov hl0 hl1
      obtain ⟨s, t, rfl, hs, ht⟩ := ha
      obtain ⟨ad, cap, rfl, -⟩ := id hs
      obtain ⟨ae, cbp, rfl, -⟩ := id ht
      obtain ⟨g, hg⟩ : ∃ g, a.1.1 = g := ⟨_, rfl⟩
      obtain ⟨g', hg'⟩ : ∃ g, a.2.1 = g := ⟨_, rfl⟩
      obtain ⟨len, hlen⟩ : ∃ l, a.1.2.length = l := ⟨_, rfl⟩
      obtain ⟨len2, hlen2⟩ : ∃ l, a.2.2.length = l := ⟨_, rfl⟩
      rw [hg, hg', hlen, hlen2] at kA
      rw [hg, hg', hlen, hlen2]
      clear hs ht hg hg' hlen hlen2
      have s1 : (w.alloc (.cells #[.bool g, .slice ad len cap, .bool g', .slice ae len2 cbp] 28)).heap.size = w.heap.size + 1 := by simp
      have X0 := (BoxV.made w (.bool g) (.slice ad len cap) (.bool g') (.slice ae len2 cbp) 28).below (below1 _ (.cells #[.bool false, .slice none 0 0, .bool false, .slice none 0 0] 28)) (Nat.le_refl _)
      have R0 := BoxV.made (w.alloc (.cells #[.bool g, .slice ad len cap, .bool g', .slice ae len2 cbp] 28)) (.bool false) (.slice none 0 0) (.bool false) (.slice none 0 0) 28
      rw [s1] at R0
      have B0 := below2 w (.cells #[.bool g, .slice ad len cap, .bool g', .slice ae len2 cbp] 28) (.cells #[.bool false, .slice none 0 0, .bool false, .slice none 0 0] 28)
      clear s1
      go_enter Try.func29, Try.ntmps29
      go_wp2_with fail
      refine (kA _ B0).mono ?_
      generalize (w.alloc (.cells #[.bool g, .slice ad len cap, .bool g', .slice ae len2 cbp] 28)).alloc (.cells #[.bool false, .slice none 0 0, .bool false, .slice none 0 0] 28) = w0 at *
      rintro e w1' ⟨X, Y, rfl, b1', hXY⟩
      have bF := below1 w1' (.cells #[.pointer X, .pointer Y] 75)
      have E1 := BoxW.made w1' (.pointer X) (.pointer Y) 75
      have b1 := b1'.trans (bF.mono b1'.size)
      have R1 := R0.below b1 (Nat.le_refl _)
      have B1 := B0.trans (b1.mono B0.size)
      have r0 := R1.c0
      have f0 := R1.f0
      have r1 := R1.c1
      have f1 := R1.f1
      have r2 := R1.c2
      have f2 := R1.f2
      have r3 := R1.c3
      have f3 := R1.f3
      have HB : Hid (Below w.heap.size w _) := ((((B1.setCell (p := ⟨w.heap.size + 1, 0, none⟩) (by show w.heap.size ≤ w.heap.size + 1; omega) (.bool false)).setCell (p := ⟨w.heap.size + 1, 1, none⟩) (by show w.heap.size ≤ w.heap.size + 1; omega) (.slice none 0 0)).setCell (p := ⟨w.heap.size + 1, 2, none⟩) (by show w.heap.size ≤ w.heap.size + 1; omega) (.bool false)).setCell (p := ⟨w.heap.size + 1, 3, none⟩) (by show w.heap.size ≤ w.heap.size + 1; omega) (.slice none 0 0))
      clear R0 R1 B0 B1 b1 X0 E1 hXY kA bF
      go_wp2
      (try simp only [Exit.inBlock, Exit.then])
      refine bodyPost_ret (v := .tuple #[.agg #[.bool false, .slice none 0 0, .bool false, .slice none 0 0], .bool false]) ?_ rfl ⟨_, by rw [HR.out], by rw [HR.out]; exact nilV _ _, HB.out⟩
      rw [results_cell_tmp rfl]
      go_simp
    by_cases hn2 : 1000000 < n
    · have q1 : decide (n < 0) = false := decide_eq_false hn1
      have q2 : decide (1000000 < n) = true := decide_eq_true hn2
      have HR : Hid (wideR a n = (((false, []), (false, [])), false)) := by show _ = _; unfold wideR; rw [if_neg (by omega)]
      obtain ⟨rr, hr⟩ : ∃ r, wideR a n = r := ⟨_, rfl⟩
      rw [hr] at HR
      rw [hr]
      clear hr
      clear hov hl0 hl1
      obtain ⟨s, t, rfl, hs, ht⟩ := ha
      obtain ⟨ad, cap, rfl, -⟩ := id hs
      obtain ⟨ae, cbp, rfl, -⟩ := id ht
      obtain ⟨g, hg⟩ : ∃ g, a.1.1 = g := ⟨_, rfl⟩
      obtain ⟨g', hg'⟩ : ∃ g, a.2.1 = g := ⟨_, rfl⟩
      obtain ⟨len, hlen⟩ : ∃ l, a.1.2.length = l := ⟨_, rfl⟩
      obtain ⟨len2, hlen2⟩ : ∃ l, a.2.2.length = l := ⟨_, rfl⟩
      rw [hg, hg', hlen, hlen2] at kA
      rw [hg, hg', hlen, hlen2]
      clear hs ht hg hg' hlen hlen2
      have s1 : (w.alloc (.cells #[.bool g, .slice ad len cap, .bool g', .slice ae len2 cbp] 28)).heap.size = w.heap.size + 1 := by simp
      have X0 := (BoxV.made w (.bool g) (.slice ad len cap) (.bool g') (.slice ae len2 cbp) 28).below (below1 _ (.cells #[.bool false, .slice none 0 0, .bool false, .slice none 0 0] 28)) (Nat.le_refl _)
      have R0 := BoxV.made (w.alloc (.cells #[.bool g, .slice ad len cap, .bool g', .slice ae len2 cbp] 28)) (.bool false) (.slice none 0 0) (.bool false) (.slice none 0 0) 28
      rw [s1] at R0
      have B0 := below2 w (.cells #[.bool g, .slice ad len cap, .bool g', .slice ae len2 cbp] 28) (.cells #[.bool false, .slice none 0 0, .bool false, .slice none 0 0] 28)
      clear s1
      go_enter Try.func29, Try.ntmps29
      go_wp2_with fail
      refine (kA _ B0).mono ?_
      generalize (w.alloc (.cells #[.bool g, .slice ad len cap, .bool g', .slice ae len2 cbp] 28)).alloc (.cells #[.bool false, .slice none 0 0, .bool false, .slice none 0 0] 28) = w0 at *
      rintro e w1' ⟨X, Y, rfl, b1', hXY⟩
      have bF := below1 w1' (.cells #[.pointer X, .pointer Y] 75)
      have E1 := BoxW.made w1' (.pointer X) (.pointer Y) 75
      have b1 := b1'.trans (bF.mono b1'.size)
      have R1 := R0.below b1 (Nat.le_refl _)
      have B1 := B0.trans (b1.mono B0.size)
      have r0 := R1.c0
      have f0 := R1.f0
      have r1 := R1.c1
      have f1 := R1.f1
      have r2 := R1.c2
      have f2 := R1.f2
      have r3 := R1.c3
      have f3 := R1.f3
      have HB : Hid (Below w.heap.size w _) := ((((B1.setCell (p := ⟨w.heap.size + 1, 0, none⟩) (by show w.heap.size ≤ w.heap.size + 1; omega) (.bool false)).setCell (p := ⟨w.heap.size + 1, 1, none⟩) (by show w.heap.size ≤ w.heap.size + 1; omega) (.slice none 0 0)).setCell (p := ⟨w.heap.size + 1, 2, none⟩) (by show w.heap.size ≤ w.heap.size + 1; omega) (.bool false)).setCell (p := ⟨w.heap.size + 1, 3, none⟩) (by show w.heap.size ≤ w.heap.size + 1; omega) (.slice none 0 0))
      clear R0 R1 B0 B1 b1 X0 E1 hXY kA bF
      go_wp2
      (try simp only [Exit.inBlock, Exit.then])
      refine bodyPost_ret (v := .tuple #[.agg #[.bool false, .slice none 0 0, .bool false, .slice none 0 0], .bool false]) ?_ rfl ⟨_, by rw [HR.out], by rw [HR.out]; exact nilV _ _, HB.out⟩
      rw [results_cell_tmp rfl]
      go_simp
    have q1 : decide (n < 0) = false := decide_eq_false hn1
    have q2 : decide (1000000 < n) = false := decide_eq_false hn2
    have HR : Hid (wideR a n = fitV (valW a.1 - n) (valW a.2 + n)) := by show _ = _; unfold wideR; rw [if_pos ⟨hov, by omega, by omega⟩]
    have z := okV_yes hov
    have l1' := okW_lenV z.1
    have l2' := okW_lenV z.2.1
    have ln : (limbs n.natAbs).length ≤ 1 := limbs_len_le _ 1 (by omega)
    have kS := fun p q W h1 h2 => widerSpan_c p q (valW a.1) (valW a.2) n W h1 h2 (by omega) (by omega) (by omega) (by omega) (by omega)
    unfold spanE at kS
    have kf := fun p q W h1 h2 => ivFrom_c p q (valW a.1 - n) (valW a.2 + n) W h1 h2
    obtain ⟨rr, hr⟩ : ∃ r, wideR a n = r := ⟨_, rfl⟩
    rw [hr] at HR
    rw [hr]
    clear hr
    clear hov hl0 hl1 z l1' l2' ln
    generalize fitV (valW a.1 - n) (valW a.2 + n) = fw at *
    generalize valW a.1 - n = d1 at *
    generalize valW a.2 + n = d2 at *
    generalize valW a.1 = x at *
    generalize valW a.2 = y at *
    obtain ⟨s, t, rfl, hs, ht⟩ := ha
    obtain ⟨ad, cap, rfl, -⟩ := id hs
    obtain ⟨ae, cbp, rfl, -⟩ := id ht
    obtain ⟨g, hg⟩ : ∃ g, a.1.1 = g := ⟨_, rfl⟩
    obtain ⟨g', hg'⟩ : ∃ g, a.2.1 = g := ⟨_, rfl⟩
    obtain ⟨len, hlen⟩ : ∃ l, a.1.2.length = l := ⟨_, rfl⟩
    obtain ⟨len2, hlen2⟩ : ∃ l, a.2.2.length = l := ⟨_, rfl⟩
    rw [hg, hg', hlen, hlen2] at kA
    rw [hg, hg', hlen, hlen2]
    clear hs ht hg hg' hlen hlen2
    have s1 : (w.alloc (.cells #[.bool g, .slice ad len cap, .bool g', .slice ae len2 cbp] 28)).heap.size = w.heap.size + 1 := by simp
    have X0 := (BoxV.made w (.bool g) (.slice ad len cap) (.bool g') (.slice ae len2 cbp) 28).below (below1 _ (.cells #[.bool false, .slice none 0 0, .bool false, .slice none 0 0] 28)) (Nat.le_refl _)
    have R0 := BoxV.made (w.alloc (.cells #[.bool g, .slice ad len cap, .bool g', .slice ae len2 cbp] 28)) (.bool false) (.slice none 0 0) (.bool false) (.slice none 0 0) 28
    rw [s1] at R0
    have B0 := below2 w (.cells #[.bool g, .slice ad len cap, .bool g', .slice ae len2 cbp] 28) (.cells #[.bool false, .slice none 0 0, .bool false, .slice none 0 0] 28)
    clear s1
    go_enter Try.func29, Try.ntmps29
    go_wp2_with fail
    refine (kA _ B0).mono ?_
    generalize (w.alloc (.cells #[.bool g, .slice ad len cap, .bool g', .slice ae len2 cbp] 28)).alloc (.cells #[.bool false, .slice none 0 0, .bool false, .slice none 0 0] 28) = w0 at *
    rintro e w1' ⟨X, Y, rfl, b1', hXY⟩
    have bF := below1 w1' (.cells #[.pointer X, .pointer Y] 75)
    have E1 := BoxW.made w1' (.pointer X) (.pointer Y) 75
    have b1 := b1'.trans (bF.mono b1'.size)
    have R1 := R0.below b1 (Nat.le_refl _)
    have B1 := B0.trans (b1.mono B0.size)
    obtain ⟨p, q, rfl, rfl, sp, sq, -, -⟩ := hXY (by first | exact trivial | rfl)
    have sp1 := sp.below bF sp.lt
    have sq1 := sq.below bF sq.lt
    have hR0 := R0.hi
    have hE1 : w0.heap.size ≤ w1'.heap.size := b1'.size
    clear hXY kA R0 B0 b1 b1' X0 sp sq bF
    go_wp2_with fail
    generalize w1'.alloc (.cells #[.pointer (some ⟨p, 0, none⟩), .pointer (some ⟨q, 0, none⟩)] 75) = w1 at *
    generalize w1'.heap.size = f6 at *
    refine (kS p q _ sp1 sq1).mono ?_
    rintro e w4 ⟨c, d, rfl, sc, sd, b4⟩
    have R4 := R1.below b4 (Nat.le_refl _)
    have B4 := B1.trans (b4.mono B1.size)
    clear kS sp1 sq1 E1
    go_wp2_with fail
    refine (kf c d _ sc sd).mono ?_
    rintro e w6 ⟨v6, rfl, o6, b6⟩
    obtain ⟨⟨⟨n1, l1⟩, ⟨n2, l2⟩⟩, ok3⟩ := fw
    obtain ⟨s3, s4, rfl, q3, q4, hap⟩ := o6
    obtain ⟨ad3, cp3, rfl, -⟩ := q3.row
    obtain ⟨ad4, cp4, rfl, -⟩ := q4.row
    have q3' : ownsI w6 w4.heap.size (.slice ad3 l1.length cp3) l1 := q3
    have q4' : ownsI w6 w4.heap.size (.slice ad4 l2.length cp4) l2 := q4
    have hR4 := R4.hi
    have R6 := R4.below b6 (Nat.le_refl _)
    have B6 := B4.trans (b6.mono B4.size)
    have r0 := R6.c0
    have f0 := R6.f0
    have r1 := R6.c1
    have f1 := R6.f1
    have r2 := R6.c2
    have f2 := R6.f2
    have r3 := R6.c3
    have f3 := R6.f3
    have HA : Hid (ownsI _ w4.heap.size (.slice ad3 l1.length cp3) l1) := ((((q3'.other (w.heap.size + 1) 0 (by omega) (.bool n1)).other (w.heap.size + 1) 1 (by omega) (.slice ad3 l1.length cp3)).other (w.heap.size + 1) 2 (by omega) (.bool n2)).other (w.heap.size + 1) 3 (by omega) (.slice ad4 l2.length cp4))
    have HZ : Hid (ownsI _ w4.heap.size (.slice ad4 l2.length cp4) l2) := ((((q4'.other (w.heap.size + 1) 0 (by omega) (.bool n1)).other (w.heap.size + 1) 1 (by omega) (.slice ad3 l1.length cp3)).other (w.heap.size + 1) 2 (by omega) (.bool n2)).other (w.heap.size + 1) 3 (by omega) (.slice ad4 l2.length cp4))
    have HB : Hid (Below w.heap.size w _) := ((((B6.setCell (p := ⟨w.heap.size + 1, 0, none⟩) (by show w.heap.size ≤ w.heap.size + 1; omega) (.bool n1)).setCell (p := ⟨w.heap.size + 1, 1, none⟩) (by show w.heap.size ≤ w.heap.size + 1; omega) (.slice ad3 l1.length cp3)).setCell (p := ⟨w.heap.size + 1, 2, none⟩) (by show w.heap.size ≤ w.heap.size + 1; omega) (.bool n2)).setCell (p := ⟨w.heap.size + 1, 3, none⟩) (by show w.heap.size ≤ w.heap.size + 1; omega) (.slice ad4 l2.length cp4))
    have HP : Hid (Apart (blkI (.slice ad3 l1.length cp3)) (blkI (.slice ad4 l2.length cp4))) := hap
    have hb4 := B4.size
    clear q3 q4 q3' q4' hap R1 R4 R6 B1 B4 B6 b4 b6 sc sd kf
    go_wp2
    (try simp only [Exit.inBlock, Exit.then])
    refine bodyPost_ret (v := .tuple #[.agg #[.bool n1, .slice ad3 l1.length cp3, .bool n2, .slice ad4 l2.length cp4], .bool ok3]) ?_ rfl ⟨_, by rw [HR.out], by rw [HR.out]; exact ⟨_, _, rfl, ownsI_mono HA.out hb4, ownsI_mono HZ.out hb4, HP.out⟩, HB.out⟩
    rw [results_cell_tmp rfl]
    go_simp


end Go.Proofs.Ytmbmnfphgcjhdaa
