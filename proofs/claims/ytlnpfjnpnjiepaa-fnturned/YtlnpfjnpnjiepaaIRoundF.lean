/- The program's RoundFrac and RoundAt, each by its contract. -/
import Derived.Test.YtlnpfjnpnjiepaaBRound
import Derived.Test.YtlnpfjnpnjiepaaGAt
import Derived.Test.YtlnpfjnpnjiepaaST
import Derived.Test.YtlnpfjnpnjiepaaSWhole
namespace Go.Proofs.Ytlnpfjnpnjiepaa
open Go.RowKit
set_option linter.unusedSimpArgs false

theorem SGG.other {w : World} {b m : Nat} {g : Bool} (h : SGG w b g m) (p : Addr) (hp : b ≠ p.block) (v : Value) : SGG (w.setCell p v) b g m :=
  h.tn (Tn.cell (Tn.refl [p.block] w) p (by simp) v) (by simpa using hp)
theorem SGG.drewN {w : World} {b m : Nat} {g : Bool} (h : SGG w b g m) (n : Nat) : SGG (w.drewN n) b g m := ⟨h.1, h.2.drewN n⟩
theorem valW_len {a : Wh} (h : okW a = true) : (limbs (valW a).natAbs).length ≤ 48 := by
  have h3 := ((okW_iff a).1 h).1.1
  have : (mkW (valW a)).2.length ≤ 48 := by rw [← mkW_of h]; exact h3
  exact this
theorem cmpJ_nat (m n : Nat) : cmpJ (m : Int) (n : Int) = cmpI m n := by unfold cmpJ cmpI; simp


set_option maxRecDepth 20000 in
set_option maxHeartbeats 6400000 in
theorem iRoundFrac (va vb : Value) (a b : Wh) (mode : Int) (w : World) (ha : rowW w va a) (hb : rowW w vb b) (hla : a.2.length ≤ 1048576) (hlb : b.2.length ≤ 1048576) :
    Calls Try.prog 24 #[va, vb, .int .i64 mode] w fun e w' => ∃ v, e = .returned (.tuple #[v, .bool (rfracR a b mode).2]) ∧ ownsW w' w.heap.size v (rfracR a b mode).1 ∧ Below w.heap.size w w' := by
  by_cases hok : okW a = true ∧ okW b = true
  · have kT := fun W (h : Below w.heap.size w W) => twoYes2 va vb a b W (ha.below h (Nat.le_refl _)) (hb.below h (Nat.le_refl _)) hla hlb hok.1 hok.2
    have l1 := valW_len hok.1
    have l2 := valW_len hok.2
    by_cases hy : valW b < 0
    · have HR : Hid (rfracR a b mode = ((false, []), false)) := by show _ = _; unfold rfracR; rw [if_neg (by omega)]
      obtain ⟨rr, hr⟩ : ∃ r, rfracR a b mode = r := ⟨_, rfl⟩
      rw [hr] at HR
      rw [hr]
      clear hr
      obtain ⟨s, rfl, hs⟩ := ha
      obtain ⟨ad, cap, rfl, -⟩ := id hs
      obtain ⟨t, rfl, ht⟩ := hb
      obtain ⟨ae, cbp, rfl, -⟩ := id ht
      generalize a.1 = g0 at *
      generalize a.2.length = len at *
      generalize b.1 = g2 at *
      generalize b.2.length = len2 at *
      have B0 := below3 w (.cells #[.bool g0, .slice ad len cap] 26) (.cells #[.bool g2, .slice ae len2 cbp] 26) (.cells #[.bool false, .slice none 0 0] 26)
      have s2 : ((w.alloc (.cells #[.bool g0, .slice ad len cap] 26)).alloc (.cells #[.bool g2, .slice ae len2 cbp] 26)).heap.size = w.heap.size + 1 + 1 := by simp
      have R0 := BoxW.made ((w.alloc (.cells #[.bool g0, .slice ad len cap] 26)).alloc (.cells #[.bool g2, .slice ae len2 cbp] 26)) (.bool false) (.slice none 0 0) 26
      rw [s2] at R0
      clear s2 hs ht
      go_enter Try.func24, Try.ntmps24
      go_wp2_with fail
      refine (kT _ B0).mono ?_
      generalize ((w.alloc (.cells #[.bool g0, .slice ad len cap] 26)).alloc (.cells #[.bool g2, .slice ae len2 cbp] 26)).alloc (.cells #[.bool false, .slice none 0 0] 26) = w0 at *
      rintro e w1 ⟨p, q, rfl, sp, sq, b1, hp, hq⟩
      have R1 := R0.below b1 (Nat.le_refl _)
      have B1 := B0.trans (b1.mono B0.size)
      have cq0 := sq.sign
      rw [decide_eq_true hy] at cq0
      have c0 := R1.c0
      have c1' := R1.c1
      have f0 := R1.f0
      have f1 := R1.f1
      have HB : Hid (Below w.heap.size w ((w1.setCell ⟨w.heap.size + 1 + 1, 0, none⟩ (.bool false)).setCell ⟨w.heap.size + 1 + 1, 1, none⟩ (.slice none 0 0))) := (B1.setCell (p := ⟨w.heap.size + 1 + 1, 0, none⟩) (by show w.heap.size ≤ w.heap.size + 1 + 1; omega) (.bool false)).setCell (p := ⟨w.heap.size + 1 + 1, 1, none⟩) (by show w.heap.size ≤ w.heap.size + 1 + 1; omega) (.slice none 0 0)
      clear R0 B0 b1 R1 B1 kT sp sq
      go_wp2
      (try simp only [Exit.inBlock, Exit.then])
      refine bodyPost_ret (v := .tuple #[.agg #[.bool false, .slice none 0 0], .bool false]) ?_ rfl ⟨_, by rw [HR.out], by rw [HR.out]; exact ⟨_, rfl, World.ownsRow_nil _ _ _ _⟩, HB.out⟩
      rw [results_cell_tmp rfl]
      go_simp
    by_cases hy0 : valW b = 0
    · have HR : Hid (rfracR a b mode = ((false, []), false)) := by show _ = _; unfold rfracR; rw [if_neg (by omega)]
      obtain ⟨rr, hr⟩ : ∃ r, rfracR a b mode = r := ⟨_, rfl⟩
      rw [hr] at HR
      rw [hr]
      clear hr
      obtain ⟨s, rfl, hs⟩ := ha
      obtain ⟨ad, cap, rfl, -⟩ := id hs
      obtain ⟨t, rfl, ht⟩ := hb
      obtain ⟨ae, cbp, rfl, -⟩ := id ht
      generalize a.1 = g0 at *
      generalize a.2.length = len at *
      generalize b.1 = g2 at *
      generalize b.2.length = len2 at *
      have B0 := below3 w (.cells #[.bool g0, .slice ad len cap] 26) (.cells #[.bool g2, .slice ae len2 cbp] 26) (.cells #[.bool false, .slice none 0 0] 26)
      have s2 : ((w.alloc (.cells #[.bool g0, .slice ad len cap] 26)).alloc (.cells #[.bool g2, .slice ae len2 cbp] 26)).heap.size = w.heap.size + 1 + 1 := by simp
      have R0 := BoxW.made ((w.alloc (.cells #[.bool g0, .slice ad len cap] 26)).alloc (.cells #[.bool g2, .slice ae len2 cbp] 26)) (.bool false) (.slice none 0 0) 26
      rw [s2] at R0
      clear s2 hs ht
      go_enter Try.func24, Try.ntmps24
      go_wp2_with fail
      refine (kT _ B0).mono ?_
      generalize ((w.alloc (.cells #[.bool g0, .slice ad len cap] 26)).alloc (.cells #[.bool g2, .slice ae len2 cbp] 26)).alloc (.cells #[.bool false, .slice none 0 0] 26) = w0 at *
      rintro e w1 ⟨p, q, rfl, sp, sq, b1, hp, hq⟩
      have R1 := R0.below b1 (Nat.le_refl _)
      have B1 := B0.trans (b1.mono B0.size)
      have cq0 := sq.sign
      rw [decide_eq_false (show ¬ valW b < 0 by omega)] at cq0
      have cq9 : w1.cell? ⟨q, 99, none⟩ = some (.int .i64 0) := by have h9 := sq.mag.size; rw [hy0] at h9; simpa [limbs_zero] using h9
      have c0 := R1.c0
      have c1' := R1.c1
      have f0 := R1.f0
      have f1 := R1.f1
      have HB : Hid (Below w.heap.size w ((w1.setCell ⟨w.heap.size + 1 + 1, 0, none⟩ (.bool false)).setCell ⟨w.heap.size + 1 + 1, 1, none⟩ (.slice none 0 0))) := (B1.setCell (p := ⟨w.heap.size + 1 + 1, 0, none⟩) (by show w.heap.size ≤ w.heap.size + 1 + 1; omega) (.bool false)).setCell (p := ⟨w.heap.size + 1 + 1, 1, none⟩) (by show w.heap.size ≤ w.heap.size + 1 + 1; omega) (.slice none 0 0)
      clear R0 B0 b1 R1 B1 kT sp sq
      go_wp2
      (try simp only [Exit.inBlock, Exit.then])
      refine bodyPost_ret (v := .tuple #[.agg #[.bool false, .slice none 0 0], .bool false]) ?_ rfl ⟨_, by rw [HR.out], by rw [HR.out]; exact ⟨_, rfl, World.ownsRow_nil _ _ _ _⟩, HB.out⟩
      rw [results_cell_tmp rfl]
      go_simp
    have hp9 : 0 < (limbs (valW b).natAbs).length := by rw [limbs_pos _ (by omega)]; simp
    have hp9' : (((limbs (valW b).natAbs).length : Int) == 0) = false := by rw [beq_eq_false_iff_ne]; omega
    have hp8 : ¬ (((limbs (valW b).natAbs).length : Int) = 0) := by omega
    by_cases hm : 0 ≤ mode ∧ mode ≤ 4
    · have kM := fun W => modeOk_yes mode W hm.1 hm.2
      have HR : Hid (rfracR a b mode = fitW (fracI (valW a) (valW b) mode)) := by show _ = _; unfold rfracR; rw [if_pos ⟨hok.1, hok.2, by omega, hm.1, hm.2⟩]
      have kF := fun p q W (h1 : GA W p 1 (valW a).natAbs) (h2 : GA W q 1 (valW b).natAbs) => bFrac p 1 q 1 (valW a).natAbs (valW b).natAbs W l1 l2 (by omega) h1 h2
      have hfr := frac_round (valW a) (valW b).natAbs (by omega) mode hm.1 hm.2
      rw [show (((valW b).natAbs : Nat) : Int) = valW b by omega] at hfr
      have hcj := cmpJ_nat ((valW a).natAbs % (valW b).natAbs * 2) (valW b).natAbs
      rw [show (((valW b).natAbs : Nat) : Int) = valW b by omega] at hcj
      rw [hcj] at hfr
      have hlq : (limbs ((valW a).natAbs / (valW b).natAbs)).length ≤ 97 := Nat.le_trans (limbs_mono (Nat.div_le_self _ _)) (by omega)
      have kR := fun W => bRounded ((valW a).natAbs / (valW b).natAbs) (decide ((valW a).natAbs % (valW b).natAbs = 0)) (cmpI ((valW a).natAbs % (valW b).natAbs * 2) (valW b).natAbs) mode (decide (valW a < 0)) W hlq hm.1 hm.2
      rw [← hfr] at kR
      have kW := fun b' W h => sWhole b' (fracI (valW a) (valW b) mode) W h
      clear hfr hcj hok hm l1 l2 hlq
      obtain ⟨rr, hr⟩ : ∃ r, rfracR a b mode = r := ⟨_, rfl⟩
      rw [hr] at HR
      rw [hr]
      clear hr
      generalize fitW (fracI (valW a) (valW b) mode) = fw at *
      generalize fracI (valW a) (valW b) mode = z at *
      generalize cmpI ((valW a).natAbs % (valW b).natAbs * 2) (valW b).natAbs = cm at *
      generalize decide ((valW a).natAbs % (valW b).natAbs = 0) = wh at *
      generalize (valW a).natAbs / (valW b).natAbs = qq at *
      obtain ⟨s, rfl, hs⟩ := ha
      obtain ⟨ad, cap, rfl, -⟩ := id hs
      obtain ⟨t, rfl, ht⟩ := hb
      obtain ⟨ae, cbp, rfl, -⟩ := id ht
      generalize a.1 = g0 at *
      generalize a.2.length = len at *
      generalize b.1 = g2 at *
      generalize b.2.length = len2 at *
      have B0 := below3 w (.cells #[.bool g0, .slice ad len cap] 26) (.cells #[.bool g2, .slice ae len2 cbp] 26) (.cells #[.bool false, .slice none 0 0] 26)
      have s2 : ((w.alloc (.cells #[.bool g0, .slice ad len cap] 26)).alloc (.cells #[.bool g2, .slice ae len2 cbp] 26)).heap.size = w.heap.size + 1 + 1 := by simp
      have R0 := BoxW.made ((w.alloc (.cells #[.bool g0, .slice ad len cap] 26)).alloc (.cells #[.bool g2, .slice ae len2 cbp] 26)) (.bool false) (.slice none 0 0) 26
      rw [s2] at R0
      clear s2 hs ht
      go_enter Try.func24, Try.ntmps24
      go_wp2_with fail
      refine (kT _ B0).mono ?_
      generalize ((w.alloc (.cells #[.bool g0, .slice ad len cap] 26)).alloc (.cells #[.bool g2, .slice ae len2 cbp] 26)).alloc (.cells #[.bool false, .slice none 0 0] 26) = w0 at *
      rintro e w1 ⟨p, q, rfl, sp, sq, b1, hp, hq⟩
      have R1 := R0.below b1 (Nat.le_refl _)
      have B1 := B0.trans (b1.mono B0.size)
      have cq0 := sq.sign
      rw [decide_eq_false (show ¬ valW b < 0 by omega)] at cq0
      have cq9 : w1.cell? ⟨q, 99, none⟩ = some (.int .i64 ((limbs (valW b).natAbs).length : Int)) := sq.mag.size
      have HP := sp.sgg
      have HQ := sq.sgg
      generalize decide (valW a < 0) = g at *
      generalize (valW a).natAbs = m at *
      generalize (valW b).natAbs = n at *
      have hRlo := R0.hi
      clear sp sq kT
      go_wp2_with (first | (go_at_call 61; refine (kM _).mono ?_; rintro e w1 ⟨rfl, rfl⟩))
      refine wp_region_held_drew (S := fun W => SGG W p g m ∧ SGG W q (decide (valW b < 0)) n) (by kernel_rfl) ⟨HP.drew, HQ.drew⟩ ?_
      intro hHeld
      refine takeH 0 (some 40) (.pointer (some ⟨p, 0, none⟩)) rfl rfl (by kernel_rfl) (by kernel_rfl) (by kernel_rfl) (fun _ _ _ h => h) (yg_move rfl (.tmp 8) rfl _ rfl) (by assumption) ?_
      simp only [Act.put, List.setIfInBounds_toArray, List.set_cons_zero, List.set_cons_succ]
      refine takeH 1 (some 41) (.pointer (some ⟨p, 0, none⟩)) rfl rfl (by kernel_rfl) (by kernel_rfl) (by kernel_rfl) (fun _ _ _ h => h) (Or.inl ⟨rfl, fun W hW => by obtain _ := hW; go_simp⟩) (by assumption) ?_
      simp only [Act.put, List.setIfInBounds_toArray, List.set_cons_zero, List.set_cons_succ]
      refine takeH 2 (some 42) (.pointer (some ⟨p, 1, none⟩)) rfl rfl (by kernel_rfl) (by kernel_rfl) (by kernel_rfl) (fun _ _ _ h => h) (Or.inl ⟨rfl, fun W hW => by obtain _ := hW; go_simp⟩) (by assumption) ?_
      simp only [Act.put, List.setIfInBounds_toArray, List.set_cons_zero, List.set_cons_succ]
      refine takeH 3 (some 43) (.pointer (some ⟨q, 0, none⟩)) rfl rfl (by kernel_rfl) (by kernel_rfl) (by kernel_rfl) (fun _ _ _ h => h) (yg_move rfl (.tmp 9) rfl _ rfl) (by assumption) ?_
      simp only [Act.put, List.setIfInBounds_toArray, List.set_cons_zero, List.set_cons_succ]
      refine takeH 4 (some 44) (.pointer (some ⟨q, 0, none⟩)) rfl rfl (by kernel_rfl) (by kernel_rfl) (by kernel_rfl) (fun _ _ _ h => h) (Or.inl ⟨rfl, fun W hW => by obtain _ := hW; go_simp⟩) (by assumption) ?_
      simp only [Act.put, List.setIfInBounds_toArray, List.set_cons_zero, List.set_cons_succ]
      refine takeH 5 (some 45) (.pointer (some ⟨q, 1, none⟩)) rfl rfl (by kernel_rfl) (by kernel_rfl) (by kernel_rfl) (fun _ _ _ h => h) (Or.inl ⟨rfl, fun W hW => by obtain _ := hW; go_simp⟩) (by assumption) ?_
      simp only [Act.put, List.setIfInBounds_toArray, List.set_cons_zero, List.set_cons_succ]
      refine takeH 7 (some 47) (.pointer (some ⟨p, 0, none⟩)) rfl rfl (by kernel_rfl) (by kernel_rfl) (by kernel_rfl) (fun _ _ _ h => h) (yg_move rfl (.tmp 8) rfl _ rfl) (by assumption) ?_
      simp only [Act.put, List.setIfInBounds_toArray, List.set_cons_zero, List.set_cons_succ]
      refine takeH 8 (some 48) (.pointer (some ⟨p, 0, none⟩)) rfl rfl (by kernel_rfl) (by kernel_rfl) (by kernel_rfl) (fun _ _ _ h => h) (Or.inl ⟨rfl, fun W hW => by obtain _ := hW; go_simp⟩) (by assumption) ?_
      simp only [Act.put, List.setIfInBounds_toArray, List.set_cons_zero, List.set_cons_succ]
      refine takeH 9 (some 49) (.pointer (some ⟨p, 0, none⟩)) rfl rfl (by kernel_rfl) (by kernel_rfl) (by kernel_rfl) (fun _ _ _ h => h) (Or.inl ⟨rfl, fun W hW => by obtain _ := hW; go_simp⟩) (by assumption) ?_
      simp only [Act.put, List.setIfInBounds_toArray, List.set_cons_zero, List.set_cons_succ]
      refine takeH 10 (some 50) (.bool g) rfl rfl (by kernel_rfl) (by kernel_rfl) (by kernel_rfl) (fun _ _ _ h => h) (Or.inl ⟨rfl, fun W hW => by obtain ⟨⟨_c, _⟩, _⟩ := hW; go_simp⟩) (by assumption) ?_
      simp only [Act.put, List.setIfInBounds_toArray, List.set_cons_zero, List.set_cons_succ]
      refine takeH 11 (some 51) (.int .i64 mode) rfl rfl (by kernel_rfl) (by kernel_rfl) (by kernel_rfl) (fun _ _ _ h => h) (yg_move rfl (.tmp 2) rfl _ rfl) (by assumption) ?_
      simp only [Act.put, List.setIfInBounds_toArray, List.set_cons_zero, List.set_cons_succ]
      refine oneH 6 rfl (by kernel_rfl) (fun K' hK => ?_)
      go_simp
      refine (kF p q _ hHeld.1.2 hHeld.2.2).mono ?_
      rintro e w4 ⟨rfl, b4⟩
      have H4 : (fun W => SGG W p g m ∧ SGG W q (decide (valW b < 0)) n) w4 := ⟨hHeld.1.below b4 hHeld.1.lt, hHeld.2.below b4 hHeld.2.lt⟩
      refine hK _ _ H4 ?_
      clear hK
      refine oneH 12 rfl (by kernel_rfl) (fun K' hK => ?_)
      go_simp
      refine (kR _).mono ?_
      rintro e w5 ⟨c, rfl, hc, sc, b5⟩
      have H5 : (fun W => SGG W p g m ∧ SGG W q (decide (valW b < 0)) n) w5 := ⟨H4.1.below b5 H4.1.lt, H4.2.below b5 H4.2.lt⟩
      refine hK _ _ H5 ?_
      clear hK
      refine oneH 13 rfl (by kernel_rfl) (fun K' hK => ?_)
      go_simp
      refine (kW c _ sc).mono ?_
      rintro e w6 ⟨v3, rfl, o3, b6⟩
      have H6 : (fun W => SGG W p g m ∧ SGG W q (decide (valW b < 0)) n) w6 := ⟨H5.1.below b6 H5.1.lt, H5.2.below b6 H5.2.lt⟩
      refine hK _ _ H6 ?_
      clear hK
      have bd := (Below.refl w1.heap.size w1).drew
      have B4 := (B1.trans (bd.mono B1.size)).trans (b4.mono (B1.trans (bd.mono B1.size)).size)
      have R4 := (R1.below bd (Nat.le_refl _)).below b4 (Nat.le_refl _)
      have B5 := B4.trans (b5.mono B4.size)
      have R5 := R4.below b5 (Nat.le_refl _)
      have B6 := B5.trans (b6.mono B5.size)
      have R6 := R5.below b6 (Nat.le_refl _)
      obtain ⟨⟨g3, l3⟩, ok3⟩ := fw
      obtain ⟨s3, rfl, q3⟩ := o3
      obtain ⟨ad3, cap3, rfl, -⟩ := q3.row
      have hR := R5.hi
      have d0 := R6.c0
      have d1 := R6.c1
      have f0 := R6.f0
      have f1 := R6.f1
      refine takeH 14 (some 54) (.agg #[.bool g3, .slice ad3 l3.length cap3]) rfl rfl (by kernel_rfl) (by kernel_rfl) (by kernel_rfl) (fun _ _ _ h => h) (Or.inl ⟨rfl, fun W hW => by obtain _ := hW; go_simp⟩) (by assumption) ?_
      simp only [Act.put, List.setIfInBounds_toArray, List.set_cons_zero, List.set_cons_succ]
      refine takeH 15 (some 55) (.bool ok3) rfl rfl (by kernel_rfl) (by kernel_rfl) (by kernel_rfl) (fun _ _ _ h => h) (Or.inl ⟨rfl, fun W hW => by obtain _ := hW; go_simp⟩) (by assumption) ?_
      simp only [Act.put, List.setIfInBounds_toArray, List.set_cons_zero, List.set_cons_succ]
      refine oneH 16 rfl (by kernel_rfl) (fun K' hK => ?_)
      go_simp
      refine hK _ _ ⟨(H6.1.other ⟨w.heap.size + 1 + 1, 0, none⟩ (by show p ≠ w.heap.size + 1 + 1; omega) _).other ⟨w.heap.size + 1 + 1, 1, none⟩ (by show p ≠ w.heap.size + 1 + 1; omega) _, (H6.2.other ⟨w.heap.size + 1 + 1, 0, none⟩ (by show q ≠ w.heap.size + 1 + 1; omega) _).other ⟨w.heap.size + 1 + 1, 1, none⟩ (by show q ≠ w.heap.size + 1 + 1; omega) _⟩ ?_
      clear hK
      refine takeH 17 (some 7) (.bool ok3) rfl rfl (by kernel_rfl) (by kernel_rfl) (by kernel_rfl) (fun _ _ _ h => h) (yg_assign rfl (.tmp 55) rfl _ rfl) ⟨(H6.1.other ⟨w.heap.size + 1 + 1, 0, none⟩ (by show p ≠ w.heap.size + 1 + 1; omega) _).other ⟨w.heap.size + 1 + 1, 1, none⟩ (by show p ≠ w.heap.size + 1 + 1; omega) _, (H6.2.other ⟨w.heap.size + 1 + 1, 0, none⟩ (by show q ≠ w.heap.size + 1 + 1; omega) _).other ⟨w.heap.size + 1 + 1, 1, none⟩ (by show q ≠ w.heap.size + 1 + 1; omega) _⟩ ?_
      simp only [Act.put, List.setIfInBounds_toArray, List.set_cons_zero, List.set_cons_succ]
      refine wpAnyH_done (by kernel_rfl) ?_ _
      have o6 := ownsRow_setCell_below (a := ⟨w.heap.size + 1 + 1, 0, none⟩) q3 (by exact hR) (.bool g3)
      have o7 := ownsRow_setCell_below (a := ⟨w.heap.size + 1 + 1, 1, none⟩) o6 (by exact hR) (.slice ad3 l3.length cap3)
      have HO : Hid (World.ownsRow _ w.heap.size 3 1 (.slice ad3 l3.length cap3) l3.length (l3.map (Value.int .i64))) := ownsRow_mono o7 B5.size
      have HB : Hid (Below w.heap.size w _) := (B6.setCell (p := ⟨w.heap.size + 1 + 1, 0, none⟩) (by show w.heap.size ≤ w.heap.size + 1 + 1; omega) (.bool g3)).setCell (p := ⟨w.heap.size + 1 + 1, 1, none⟩) (by show w.heap.size ≤ w.heap.size + 1 + 1; omega) (.slice ad3 l3.length cap3)
      clear o6 o7 R0 R1 R4 R5 R6 B0 B1 B4 B5 B6 b1 b4 b5 b6 kM kF kR kW sc q3 H4 H5 H6 hHeld
      go_wp2
      (try simp only [Exit.inBlock, Exit.then])
      refine bodyPost_ret (v := .tuple #[.agg #[.bool g3, .slice ad3 l3.length cap3], .bool ok3]) ?_ rfl ⟨_, by rw [HR.out], by rw [HR.out]; exact ⟨_, rfl, HO.out⟩, HB.out⟩
      rw [results_cell_tmp rfl]
      go_simp
    · have kM := fun W => modeOk_no mode W hm
      have HR : Hid (rfracR a b mode = ((false, []), false)) := by show _ = _; unfold rfracR; rw [if_neg (fun h => hm h.2.2.2)]
      obtain ⟨rr, hr⟩ : ∃ r, rfracR a b mode = r := ⟨_, rfl⟩
      rw [hr] at HR
      rw [hr]
      clear hr
      obtain ⟨s, rfl, hs⟩ := ha
      obtain ⟨ad, cap, rfl, -⟩ := id hs
      obtain ⟨t, rfl, ht⟩ := hb
      obtain ⟨ae, cbp, rfl, -⟩ := id ht
      generalize a.1 = g0 at *
      generalize a.2.length = len at *
      generalize b.1 = g2 at *
      generalize b.2.length = len2 at *
      have B0 := below3 w (.cells #[.bool g0, .slice ad len cap] 26) (.cells #[.bool g2, .slice ae len2 cbp] 26) (.cells #[.bool false, .slice none 0 0] 26)
      have s2 : ((w.alloc (.cells #[.bool g0, .slice ad len cap] 26)).alloc (.cells #[.bool g2, .slice ae len2 cbp] 26)).heap.size = w.heap.size + 1 + 1 := by simp
      have R0 := BoxW.made ((w.alloc (.cells #[.bool g0, .slice ad len cap] 26)).alloc (.cells #[.bool g2, .slice ae len2 cbp] 26)) (.bool false) (.slice none 0 0) 26
      rw [s2] at R0
      clear s2 hs ht
      go_enter Try.func24, Try.ntmps24
      go_wp2_with fail
      refine (kT _ B0).mono ?_
      generalize ((w.alloc (.cells #[.bool g0, .slice ad len cap] 26)).alloc (.cells #[.bool g2, .slice ae len2 cbp] 26)).alloc (.cells #[.bool false, .slice none 0 0] 26) = w0 at *
      rintro e w1 ⟨p, q, rfl, sp, sq, b1, hp, hq⟩
      have R1 := R0.below b1 (Nat.le_refl _)
      have B1 := B0.trans (b1.mono B0.size)
      have cq0 := sq.sign
      rw [decide_eq_false (show ¬ valW b < 0 by omega)] at cq0
      have cq9 : w1.cell? ⟨q, 99, none⟩ = some (.int .i64 ((limbs (valW b).natAbs).length : Int)) := sq.mag.size
      have c0 := R1.c0
      have c1' := R1.c1
      have f0 := R1.f0
      have f1 := R1.f1
      have HB : Hid (Below w.heap.size w ((w1.setCell ⟨w.heap.size + 1 + 1, 0, none⟩ (.bool false)).setCell ⟨w.heap.size + 1 + 1, 1, none⟩ (.slice none 0 0))) := (B1.setCell (p := ⟨w.heap.size + 1 + 1, 0, none⟩) (by show w.heap.size ≤ w.heap.size + 1 + 1; omega) (.bool false)).setCell (p := ⟨w.heap.size + 1 + 1, 1, none⟩) (by show w.heap.size ≤ w.heap.size + 1 + 1; omega) (.slice none 0 0)
      clear R0 B0 b1 R1 B1 kT sp sq
      go_wp2_with (first | (go_at_call 61; refine (kM _).mono ?_; rintro e w1 ⟨rfl, rfl⟩))
      (try simp only [Exit.inBlock, Exit.then])
      refine bodyPost_ret (v := .tuple #[.agg #[.bool false, .slice none 0 0], .bool false]) ?_ rfl ⟨_, by rw [HR.out], by rw [HR.out]; exact ⟨_, rfl, World.ownsRow_nil _ _ _ _⟩, HB.out⟩
      rw [results_cell_tmp rfl]
      go_simp
  · have hn : okW a = false ∨ okW b = false := by
      cases h1 : okW a
      · exact .inl rfl
      · cases h2 : okW b
        · exact .inr rfl
        · exact absurd ⟨h1, h2⟩ hok
    have kT := fun W (h : Below w.heap.size w W) => twoNo va vb a b W (ha.below h (Nat.le_refl _)) (hb.below h (Nat.le_refl _)) hla hlb hn
    have HR : Hid (rfracR a b mode = ((false, []), false)) := by show _ = _; unfold rfracR; rw [if_neg (fun h => hok ⟨h.1, h.2.1⟩)]
    clear hok hn
    obtain ⟨rr, hr⟩ : ∃ r, rfracR a b mode = r := ⟨_, rfl⟩
    rw [hr] at HR
    rw [hr]
    clear hr
    obtain ⟨s, rfl, hs⟩ := ha
    obtain ⟨ad, cap, rfl, -⟩ := id hs
    obtain ⟨t, rfl, ht⟩ := hb
    obtain ⟨ae, cbp, rfl, -⟩ := id ht
    generalize a.1 = g0 at *
    generalize a.2.length = len at *
    generalize b.1 = g2 at *
    generalize b.2.length = len2 at *
    have B0 := below3 w (.cells #[.bool g0, .slice ad len cap] 26) (.cells #[.bool g2, .slice ae len2 cbp] 26) (.cells #[.bool false, .slice none 0 0] 26)
    have s2 : ((w.alloc (.cells #[.bool g0, .slice ad len cap] 26)).alloc (.cells #[.bool g2, .slice ae len2 cbp] 26)).heap.size = w.heap.size + 1 + 1 := by simp
    have R0 := BoxW.made ((w.alloc (.cells #[.bool g0, .slice ad len cap] 26)).alloc (.cells #[.bool g2, .slice ae len2 cbp] 26)) (.bool false) (.slice none 0 0) 26
    rw [s2] at R0
    clear s2 hs ht
    go_enter Try.func24, Try.ntmps24
    go_wp2_with fail
    refine (kT _ B0).mono ?_
    generalize ((w.alloc (.cells #[.bool g0, .slice ad len cap] 26)).alloc (.cells #[.bool g2, .slice ae len2 cbp] 26)).alloc (.cells #[.bool false, .slice none 0 0] 26) = w0 at *
    rintro e w1 ⟨p, q, rfl, b1⟩
    have R1 := R0.below b1 (Nat.le_refl _)
    have B1 := B0.trans (b1.mono B0.size)
    have c0 := R1.c0
    have c1' := R1.c1
    have f0 := R1.f0
    have f1 := R1.f1
    have HB : Hid (Below w.heap.size w ((w1.setCell ⟨w.heap.size + 1 + 1, 0, none⟩ (.bool false)).setCell ⟨w.heap.size + 1 + 1, 1, none⟩ (.slice none 0 0))) := (B1.setCell (p := ⟨w.heap.size + 1 + 1, 0, none⟩) (by show w.heap.size ≤ w.heap.size + 1 + 1; omega) (.bool false)).setCell (p := ⟨w.heap.size + 1 + 1, 1, none⟩) (by show w.heap.size ≤ w.heap.size + 1 + 1; omega) (.slice none 0 0)
    clear R0 B0 b1 R1 B1 kT
    go_wp2
    (try simp only [Exit.inBlock, Exit.then])
    refine bodyPost_ret (v := .tuple #[.agg #[.bool false, .slice none 0 0], .bool false]) ?_ rfl ⟨_, by rw [HR.out], by rw [HR.out]; exact ⟨_, rfl, World.ownsRow_nil _ _ _ _⟩, HB.out⟩
    rw [results_cell_tmp rfl]
    go_simp

end Go.Proofs.Ytlnpfjnpnjiepaa
