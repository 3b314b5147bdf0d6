/- Near of the specification, by its contract. -/
import Derived.Test.YtdpcobcaodlgiaaHeldS
import Derived.Test.YtdpcobcaodlgiaaMoveS
import Derived.Test.YtdpcobcaodlgiaaSWhole
namespace Go.Proofs.Ytdpcobcaodlgiaa
open Go.RowKit
set_option linter.unusedSimpArgs false

theorem results_two {fn : Func} {p q : Tmp} {ty ty' : TypeId} (h : fn.results = #[.cell p ty, .cell q ty']) (tmps : Array Value) (P : Program) (w : World) :
    (results fn tmps).run P w = ((asAddr (tmps.getD p undef)).run P w).andThen fun a w₁ => ((loadVar ty a).run P w₁).andThen fun v w₂ => ((asAddr (tmps.getD q undef)).run P w₂).andThen fun b w₃ => ((loadVar ty' b).run P w₃).andThen fun v' w₄ => .ok (.tuple #[v, v']) w₄ := by
  simp only [results, h]
  simp [Sem.run_bind, Result.andThen]
theorem nilApart : Apart (blkW (.agg #[.bool false, .slice none 0 0])) (blkW (.agg #[.bool false, .slice none 0 0])) := fun k hk => by
  have hk : k ∈ blkI (.slice none 0 0) := hk
  simp [blkI, Value.ownBlock] at hk
def nearR (a : Vh) (p f : Int) : Wh × Wh := if heldOk a p f = true then (mkW (valW a.1 / 2 ^ (p - f).toNat), mkW (-(-(valW a.2) / 2 ^ (p - f).toNat))) else ((false, []), (false, []))
theorem heldOk_yes {a : Vh} {p f : Int} (h : heldOk a p f = true) : okV a = true ∧ (1 ≤ p ∧ p ≤ 480) ∧ (0 ≤ f ∧ f ≤ 60) ∧ f ≤ p := by
  unfold heldOk at h
  simp only [Bool.and_eq_true, decide_eq_true_eq] at h
  exact ⟨h.1.1.1, h.1.1.2, h.1.2, h.2⟩

set_option maxRecDepth 20000 in
set_option maxHeartbeats 6400000 in
theorem sNear (va : Value) (a : Vh) (p f : Int) (w : World) (ha : rowV w va a) (hl0 : a.1.2.length ≤ 1048576) (hl1 : a.2.2.length ≤ 1048576) :
    Calls Try.prog 14 #[va, .int .i64 p, .int .i64 f] w fun e w' => ∃ v0 v1, e = .returned (.tuple #[v0, v1]) ∧ ownsW w' w.heap.size v0 (nearR a p f).1 ∧ ownsW w' w.heap.size v1 (nearR a p f).2 ∧ Apart (blkW v0) (blkW v1) ∧ Below w.heap.size w w' := by
  have kA := fun W (h : Below w.heap.size w W) => sHeld va a p f W (ha.below h (Nat.le_refl _)) hl0 hl1
  by_cases hok : heldOk a p f = true
  case neg =>
    have hf : heldOk a p f = false := by simpa using hok
    rw [hf] at kA
    have HN : Hid (nearR a p f = ((false, []), (false, []))) := by show _ = _; unfold nearR; rw [if_neg hok]
    obtain ⟨rr, hr⟩ : ∃ r, nearR a p f = r := ⟨_, rfl⟩
    rw [hr] at HN
    rw [hr]
    clear hr
    clear hok hf hl0 hl1
    obtain ⟨s, t, rfl, hs, ht⟩ := ha
    obtain ⟨ad, cap, rfl, -⟩ := id hs
    obtain ⟨ae, cbp, rfl, -⟩ := id ht
    obtain ⟨g, hg⟩ : ∃ g, a.1.1 = g := ⟨_, rfl⟩
    obtain ⟨g', hg'⟩ : ∃ g, a.2.1 = g := ⟨_, rfl⟩
    obtain ⟨len, hlen⟩ : ∃ l, a.1.2.length = l := ⟨_, rfl⟩
    obtain ⟨len2, hlen2⟩ : ∃ l, a.2.2.length = l := ⟨_, rfl⟩
    rw [hg, hg', hlen, hlen2] at kA
    skip
    skip
    rw [hg, hg', hlen, hlen2]
    clear hs ht hg hg' hlen hlen2
    have s1 : (w.alloc (.cells #[.bool g, .slice ad len cap, .bool g', .slice ae len2 cbp] 30)).heap.size = w.heap.size + 1 := by simp
    have s2 : ((w.alloc (.cells #[.bool g, .slice ad len cap, .bool g', .slice ae len2 cbp] 30)).alloc (.cells #[.bool false, .slice none 0 0] 28)).heap.size = w.heap.size + 2 := by simp
    have X0 := ((BoxV.made w (.bool g) (.slice ad len cap) (.bool g') (.slice ae len2 cbp) 30).below (below1 _ (.cells #[.bool false, .slice none 0 0] 28)) (Nat.le_refl _)).below (below1 _ (.cells #[.bool false, .slice none 0 0] 28)) (Nat.le_refl _)
    have R0 := (BoxW.made (w.alloc (.cells #[.bool g, .slice ad len cap, .bool g', .slice ae len2 cbp] 30)) (.bool false) (.slice none 0 0) 28).below (below1 _ (.cells #[.bool false, .slice none 0 0] 28)) (Nat.le_refl _)
    rw [s1] at R0
    have Z0 := BoxW.made ((w.alloc (.cells #[.bool g, .slice ad len cap, .bool g', .slice ae len2 cbp] 30)).alloc (.cells #[.bool false, .slice none 0 0] 28)) (.bool false) (.slice none 0 0) 28
    rw [s2] at Z0
    have B0 := below3 w (.cells #[.bool g, .slice ad len cap, .bool g', .slice ae len2 cbp] 30) (.cells #[.bool false, .slice none 0 0] 28) (.cells #[.bool false, .slice none 0 0] 28)
    clear s1 s2
    go_enter Try.func14, Try.ntmps14
    go_wp2_with fail
    refine (kA _ B0).mono ?_
    generalize ((w.alloc (.cells #[.bool g, .slice ad len cap, .bool g', .slice ae len2 cbp] 30)).alloc (.cells #[.bool false, .slice none 0 0] 28)).alloc (.cells #[.bool false, .slice none 0 0] 28) = w0 at *
    rintro e w1 ⟨rfl, b1⟩
    have R1 := R0.below b1 (Nat.le_refl _)
    have Z1 := Z0.below b1 (Nat.le_refl _)
    have B1 := B0.trans (b1.mono B0.size)
    have r00 := R1.c0
    have f00 := R1.f0
    have r01 := R1.c1
    have f01 := R1.f1
    have r10 := Z1.c0
    have f10 := Z1.f0
    have r11 := Z1.c1
    have f11 := Z1.f1
    have HB : Hid (Below w.heap.size w _) := ((((B1.setCell (p := ⟨w.heap.size + 1, 0, none⟩) (by show w.heap.size ≤ w.heap.size + 1; omega) (.bool false)).setCell (p := ⟨w.heap.size + 1, 1, none⟩) (by show w.heap.size ≤ w.heap.size + 1; omega) (.slice none 0 0)).setCell (p := ⟨w.heap.size + 2, 0, none⟩) (by show w.heap.size ≤ w.heap.size + 2; omega) (.bool false)).setCell (p := ⟨w.heap.size + 2, 1, none⟩) (by show w.heap.size ≤ w.heap.size + 2; omega) (.slice none 0 0))
    clear R0 R1 Z0 Z1 X0 B0 B1 b1 kA
    go_wp2
    (try simp only [Exit.inBlock, Exit.then])
    refine bodyPost_ret (v := .tuple #[.agg #[.bool false, .slice none 0 0], .agg #[.bool false, .slice none 0 0]]) ?_ rfl ⟨_, _, rfl, by rw [HN.out]; exact nilW _ _, by rw [HN.out]; exact nilW _ _, nilApart, HB.out⟩
    rw [results_two rfl]
    go_simp
  have z := heldOk_yes hok
  have zv := okV_yes z.1
  have m1 := okW_lenV zv.1
  have m2 := okW_lenV zv.2.1
  obtain ⟨k, hk⟩ : ∃ k : Nat, p - f = k := ⟨(p - f).toNat, by omega⟩
  have hsub : IntKind.i64.wrap (p - f) = (k : Int) := by rw [IntKind.wrap_i64]; omega
  have e1 : a.1 = mkW (valW a.1) := mkW_of zv.1
  have e2 : a.2 = mkW (valW a.2) := mkW_of zv.2.1
  have kS : ∀ s, rowI w s a.1.2 → ∀ W, Below w.heap.size w W → Calls Try.prog 34 #[.agg #[.bool a.1.1, s], .int .i64 k] W (fun e w' => ∃ v, e = .returned v ∧ ownsW w' W.heap.size v (mkW (valW a.1 / 2 ^ k)) ∧ Below W.heap.size W w') :=
    fun s hs W h => sWFloor _ (valW a.1) k W (by rw [← e1]; exact ⟨_, rfl, hs.below h (Nat.le_refl _)⟩) (by omega) (by omega)
  have kP : ∀ s, rowI w s a.2.2 → ∀ W, Below w.heap.size w W → Calls Try.prog 35 #[.agg #[.bool a.2.1, s], .int .i64 k] W (fun e w' => ∃ v, e = .returned v ∧ ownsW w' W.heap.size v (mkW (-(-(valW a.2) / 2 ^ k))) ∧ Below W.heap.size W w') :=
    fun s hs W h => sWCeil _ (valW a.2) k W (by rw [← e2]; exact ⟨_, rfl, hs.below h (Nat.le_refl _)⟩) (by omega) (by omega)
  have HN : Hid (nearR a p f = (mkW (valW a.1 / 2 ^ k), mkW (-(-(valW a.2) / 2 ^ k)))) := by show _ = _; unfold nearR; rw [if_pos hok, hk, Int.toNat_natCast]
  obtain ⟨rr, hr⟩ : ∃ r, nearR a p f = r := ⟨_, rfl⟩
  rw [hr] at HN
  rw [hr]
  clear hr
  rw [hok] at kA
  clear hok z zv m1 m2 e1 e2 hk hl0 hl1
  generalize mkW (valW a.1 / 2 ^ k) = m1 at *
  generalize mkW (-(-(valW a.2) / 2 ^ k)) = m2 at *
  obtain ⟨n1, l1⟩ := m1
  obtain ⟨n2, l2⟩ := m2
  obtain ⟨s, t, rfl, hs, ht⟩ := ha
  have kS := kS s hs
  have kP := kP t ht
  obtain ⟨ad, cap, rfl, -⟩ := id hs
  obtain ⟨ae, cbp, rfl, -⟩ := id ht
  obtain ⟨g, hg⟩ : ∃ g, a.1.1 = g := ⟨_, rfl⟩
  obtain ⟨g', hg'⟩ : ∃ g, a.2.1 = g := ⟨_, rfl⟩
  obtain ⟨len, hlen⟩ : ∃ l, a.1.2.length = l := ⟨_, rfl⟩
  obtain ⟨len2, hlen2⟩ : ∃ l, a.2.2.length = l := ⟨_, rfl⟩
  rw [hg, hg', hlen, hlen2] at kA
  rw [hg, hlen] at kS
  rw [hg', hlen2] at kP
  rw [hg, hg', hlen, hlen2]
  clear hs ht hg hg' hlen hlen2
  have s1 : (w.alloc (.cells #[.bool g, .slice ad len cap, .bool g', .slice ae len2 cbp] 30)).heap.size = w.heap.size + 1 := by simp
  have s2 : ((w.alloc (.cells #[.bool g, .slice ad len cap, .bool g', .slice ae len2 cbp] 30)).alloc (.cells #[.bool false, .slice none 0 0] 28)).heap.size = w.heap.size + 2 := by simp
  have X0 := ((BoxV.made w (.bool g) (.slice ad len cap) (.bool g') (.slice ae len2 cbp) 30).below (below1 _ (.cells #[.bool false, .slice none 0 0] 28)) (Nat.le_refl _)).below (below1 _ (.cells #[.bool false, .slice none 0 0] 28)) (Nat.le_refl _)
  have R0 := (BoxW.made (w.alloc (.cells #[.bool g, .slice ad len cap, .bool g', .slice ae len2 cbp] 30)) (.bool false) (.slice none 0 0) 28).below (below1 _ (.cells #[.bool false, .slice none 0 0] 28)) (Nat.le_refl _)
  rw [s1] at R0
  have Z0 := BoxW.made ((w.alloc (.cells #[.bool g, .slice ad len cap, .bool g', .slice ae len2 cbp] 30)).alloc (.cells #[.bool false, .slice none 0 0] 28)) (.bool false) (.slice none 0 0) 28
  rw [s2] at Z0
  have B0 := below3 w (.cells #[.bool g, .slice ad len cap, .bool g', .slice ae len2 cbp] 30) (.cells #[.bool false, .slice none 0 0] 28) (.cells #[.bool false, .slice none 0 0] 28)
  clear s1 s2
  go_enter Try.func14, Try.ntmps14
  go_wp2_with fail
  refine (kA _ B0).mono ?_
  generalize ((w.alloc (.cells #[.bool g, .slice ad len cap, .bool g', .slice ae len2 cbp] 30)).alloc (.cells #[.bool false, .slice none 0 0] 28)).alloc (.cells #[.bool false, .slice none 0 0] 28) = w0 at *
  rintro e w1 ⟨rfl, b1⟩
  have X1 := X0.below b1 (Nat.le_refl _)
  have R1 := R0.below b1 (Nat.le_refl _)
  have Z1 := Z0.below b1 (Nat.le_refl _)
  have B1 := B0.trans (b1.mono B0.size)
  clear X0 R0 Z0 B0 b1 kA
  go_wp2_with fail
  have bd' := (Below.refl w1.heap.size w1).drew
  have X2 := X1.below bd' (Nat.le_refl _)
  have R2 := R1.below bd' (Nat.le_refl _)
  have Z2 := Z1.below bd' (Nat.le_refl _)
  have B2 := B1.trans (bd'.mono B1.size)
  refine wp_region_held_drew (S := fun W => W.cell? ⟨w.heap.size, 0, none⟩ = some (.bool g) ∧ W.cell? ⟨w.heap.size, 1, none⟩ = some (.slice ad len cap) ∧ W.cell? ⟨w.heap.size, 2, none⟩ = some (.bool g') ∧ W.cell? ⟨w.heap.size, 3, none⟩ = some (.slice ae len2 cbp)) (by kernel_rfl) ⟨X2.c0, X2.c1, X2.c2, X2.c3⟩ ?_
  intro hHeld
  generalize w1.drew = w2 at *
  refine takeH 0 (some 15) (.pointer (some ⟨w.heap.size, 0, none⟩)) rfl rfl (by kernel_rfl) (by kernel_rfl) (by kernel_rfl) (fun _ _ _ h => h) (Or.inl ⟨rfl, fun W hW => by obtain _ := hW; go_simp⟩) (by assumption) ?_
  simp only [Act.put, List.setIfInBounds_toArray, List.set_cons_zero, List.set_cons_succ]
  refine takeH 1 (some 16) (.agg #[.bool g, .slice ad len cap]) rfl rfl (by kernel_rfl) (by kernel_rfl) (by kernel_rfl) (fun _ _ _ h => h) (Or.inl ⟨rfl, fun W hW => by obtain ⟨_a, _b, _⟩ := hW; go_simp⟩) (by assumption) ?_
  simp only [Act.put, List.setIfInBounds_toArray, List.set_cons_zero, List.set_cons_succ]
  refine takeH 2 (some 17) (.int .i64 p) rfl rfl (by kernel_rfl) (by kernel_rfl) (by kernel_rfl) (fun _ _ _ h => h) (yg_move rfl (.tmp 1) rfl _ rfl) (by assumption) ?_
  simp only [Act.put, List.setIfInBounds_toArray, List.set_cons_zero, List.set_cons_succ]
  refine takeH 3 (some 18) (.int .i64 f) rfl rfl (by kernel_rfl) (by kernel_rfl) (by kernel_rfl) (fun _ _ _ h => h) (yg_move rfl (.tmp 2) rfl _ rfl) (by assumption) ?_
  simp only [Act.put, List.setIfInBounds_toArray, List.set_cons_zero, List.set_cons_succ]
  refine takeH 4 (some 19) (.int .i64 k) rfl rfl (by kernel_rfl) (by kernel_rfl) (by kernel_rfl) (fun _ _ _ h => h) (Or.inl ⟨rfl, fun W hW => by obtain _ := hW; go_simp⟩) (by assumption) ?_
  simp only [Act.put, List.setIfInBounds_toArray, List.set_cons_zero, List.set_cons_succ]
  refine takeH 6 (some 21) (.pointer (some ⟨w.heap.size, 2, none⟩)) rfl rfl (by kernel_rfl) (by kernel_rfl) (by kernel_rfl) (fun _ _ _ h => h) (Or.inl ⟨rfl, fun W hW => by obtain _ := hW; go_simp⟩) (by assumption) ?_
  simp only [Act.put, List.setIfInBounds_toArray, List.set_cons_zero, List.set_cons_succ]
  refine takeH 7 (some 22) (.agg #[.bool g', .slice ae len2 cbp]) rfl rfl (by kernel_rfl) (by kernel_rfl) (by kernel_rfl) (fun _ _ _ h => h) (Or.inl ⟨rfl, fun W hW => by obtain ⟨_, _, _a, _b⟩ := hW; go_simp⟩) (by assumption) ?_
  simp only [Act.put, List.setIfInBounds_toArray, List.set_cons_zero, List.set_cons_succ]
  refine takeH 8 (some 23) (.int .i64 p) rfl rfl (by kernel_rfl) (by kernel_rfl) (by kernel_rfl) (fun _ _ _ h => h) (yg_move rfl (.tmp 1) rfl _ rfl) (by assumption) ?_
  simp only [Act.put, List.setIfInBounds_toArray, List.set_cons_zero, List.set_cons_succ]
  refine takeH 9 (some 24) (.int .i64 f) rfl rfl (by kernel_rfl) (by kernel_rfl) (by kernel_rfl) (fun _ _ _ h => h) (yg_move rfl (.tmp 2) rfl _ rfl) (by assumption) ?_
  simp only [Act.put, List.setIfInBounds_toArray, List.set_cons_zero, List.set_cons_succ]
  refine takeH 10 (some 25) (.int .i64 k) rfl rfl (by kernel_rfl) (by kernel_rfl) (by kernel_rfl) (fun _ _ _ h => h) (Or.inl ⟨rfl, fun W hW => by obtain _ := hW; go_simp⟩) (by assumption) ?_
  simp only [Act.put, List.setIfInBounds_toArray, List.set_cons_zero, List.set_cons_succ]
  refine oneH 5 rfl (by kernel_rfl) (fun K' hK => ?_)
  go_simp
  refine (kS _ B2).mono ?_
  rintro e w4 ⟨v4, rfl, o4, b4⟩
  obtain ⟨s3, rfl, q3⟩ := o4
  obtain ⟨ad3, cp3, rfl, -⟩ := q3.row
  have qq4 : ownsI w4 w2.heap.size (.slice ad3 l1.length cp3) l1 := q3
  have X4 := X2.below b4 (Nat.le_refl _)
  have R4 := R2.below b4 (Nat.le_refl _)
  have Z4 := Z2.below b4 (Nat.le_refl _)
  have B4 := B2.trans (b4.mono B2.size)
  refine hK _ _ ⟨X4.c0, X4.c1, X4.c2, X4.c3⟩ ?_
  clear hK
  refine oneH 11 rfl (by kernel_rfl) (fun K' hK => ?_)
  go_simp
  refine (kP _ B4).mono ?_
  rintro e w6 ⟨v6, rfl, o6, b6⟩
  have X6 := X4.below b6 (Nat.le_refl _)
  have R6 := R4.below b6 (Nat.le_refl _)
  have Z6 := Z4.below b6 (Nat.le_refl _)
  have B6 := B4.trans (b6.mono B4.size)
  refine hK _ _ ⟨X6.c0, X6.c1, X6.c2, X6.c3⟩ ?_
  clear hK
  obtain ⟨s4, rfl, q4⟩ := o6
  obtain ⟨ad4, cp4, rfl, -⟩ := q4.row
  have q3' := ownsI.below qq4 b6 (Nat.le_refl _)
  have q4' : ownsI w6 w4.heap.size (.slice ad4 l2.length cp4) l2 := q4
  have hap : Apart (blkI (.slice ad3 l1.length cp3)) (blkI (.slice ad4 l2.length cp4)) := apart_of (fun k hk => (qq4.ltb k hk).2) (fun k hk => (q4'.ltb k hk).1)
  have hh2 := R2.hi
  have hh4 := R4.hi
  have hz2 := Z2.hi
  have hz4 := Z4.hi
  have r00 := R6.c0
  have f00 := R6.f0
  have r01 := R6.c1
  have f01 := R6.f1
  have X7 := X6.tn ((tnC w6 (w.heap.size + 1) 0 (.bool n1)).trans (tnC _ (w.heap.size + 1) 1 (.slice ad3 l1.length cp3))) (fun k hk hs => by simp at hk hs; omega)
  have Z7 := Z6.tn ((tnC w6 (w.heap.size + 1) 0 (.bool n1)).trans (tnC _ (w.heap.size + 1) 1 (.slice ad3 l1.length cp3))) (fun k hk hs => by simp at hk hs; omega)
  refine oneH 12 rfl (by kernel_rfl) (fun K' hK => ?_)
  go_simp
  refine hK _ _ ⟨X7.c0, X7.c1, X7.c2, X7.c3⟩ ?_
  clear hK
  have r10 := Z7.c0
  have f10 := Z7.f0
  have r11 := Z7.c1
  have f11 := Z7.f1
  have X8 := X7.tn ((tnC ((w6.setCell ⟨w.heap.size + 1, 0, none⟩ (.bool n1)).setCell ⟨w.heap.size + 1, 1, none⟩ (.slice ad3 l1.length cp3)) (w.heap.size + 2) 0 (.bool n2)).trans (tnC _ (w.heap.size + 2) 1 (.slice ad4 l2.length cp4))) (fun k hk hs => by simp at hk hs; omega)
  refine oneH 13 rfl (by kernel_rfl) (fun K' hK => ?_)
  go_simp
  refine hK _ _ ⟨X8.c0, X8.c1, X8.c2, X8.c3⟩ ?_
  refine wpAnyH_done (by kernel_rfl) ?_ _
  have HA : Hid (ownsI _ w2.heap.size (.slice ad3 l1.length cp3) l1) := ((((q3'.other (w.heap.size + 1) 0 (by omega) (.bool n1)).other (w.heap.size + 1) 1 (by omega) (.slice ad3 l1.length cp3)).other (w.heap.size + 2) 0 (by omega) (.bool n2)).other (w.heap.size + 2) 1 (by omega) (.slice ad4 l2.length cp4))
  have HZ : Hid (ownsI _ w4.heap.size (.slice ad4 l2.length cp4) l2) := ((((q4'.other (w.heap.size + 1) 0 (by omega) (.bool n1)).other (w.heap.size + 1) 1 (by omega) (.slice ad3 l1.length cp3)).other (w.heap.size + 2) 0 (by omega) (.bool n2)).other (w.heap.size + 2) 1 (by omega) (.slice ad4 l2.length cp4))
  have HB : Hid (Below w.heap.size w _) := ((((B6.setCell (p := ⟨w.heap.size + 1, 0, none⟩) (by show w.heap.size ≤ w.heap.size + 1; omega) (.bool n1)).setCell (p := ⟨w.heap.size + 1, 1, none⟩) (by show w.heap.size ≤ w.heap.size + 1; omega) (.slice ad3 l1.length cp3)).setCell (p := ⟨w.heap.size + 2, 0, none⟩) (by show w.heap.size ≤ w.heap.size + 2; omega) (.bool n2)).setCell (p := ⟨w.heap.size + 2, 1, none⟩) (by show w.heap.size ≤ w.heap.size + 2; omega) (.slice ad4 l2.length cp4))
  have HP : Hid (Apart (blkI (.slice ad3 l1.length cp3)) (blkI (.slice ad4 l2.length cp4))) := hap
  have hb2 := B2.size
  have hb4 := B4.size
  clear hK hHeld q3 q4 q3' q4' qq4 X1 X2 X4 X6 X7 X8 R1 R2 R4 R6 Z1 Z2 Z4 Z6 Z7 B1 B2 B4 B6 b4 b6 kS kP hap bd'
  go_wp2
  (try simp only [Exit.inBlock, Exit.then])
  refine bodyPost_ret (v := .tuple #[.agg #[.bool n1, .slice ad3 l1.length cp3], .agg #[.bool n2, .slice ad4 l2.length cp4]]) ?_ rfl ⟨_, _, rfl, by rw [HN.out]; exact ⟨_, rfl, ownsI_mono HA.out hb2⟩, by rw [HN.out]; exact ⟨_, rfl, ownsI_mono HZ.out hb4⟩, HP.out, HB.out⟩
  rw [results_two rfl]
  go_simp

end Go.Proofs.Ytdpcobcaodlgiaa
