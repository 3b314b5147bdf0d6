/- The program's betweenRest and betweenFrac, each by its contract. -/
import Derived.Test.YtjelmbkngjlefaaBt
import Derived.Test.YtjelmbkngjlefaaGB
import Derived.Test.YtjelmbkngjlefaaGBy1
import Derived.Test.YtjelmbkngjlefaaBase
namespace Go.Proofs.Ytjelmbkngjlefaa
open Go.RowKit
set_option linter.unusedSimpArgs false

theorem double_len {r : Nat} (h : (limbs r).length ≤ 96) : (limbs (r * 2)).length ≤ 97 := by
  have h1 := limbs_lt r
  refine Nat.le_trans (limbs_len_le _ ((limbs r).length + 1) ?_) (by omega)
  rw [Nat.pow_succ]
  have h2 : 0 < 16777216 ^ (limbs r).length := Nat.pow_pos (by omega)
  omega

set_option maxRecDepth 20000 in
set_option maxHeartbeats 3200000 in
/-- betweenRest: the floor, whether nothing is left, and how twice what is left stands to the step. -/
theorem bRest (q r d b ob c oc : Nat) (w : World) (hlq : (limbs q).length ≤ 98) (hlr : (limbs r).length ≤ 96) (hb : GA w b ob r) (hc : GA w c oc d) :
    Calls Try.prog 91 #[.agg (gC q), .pointer (some ⟨b, ob, none⟩), .pointer (some ⟨c, oc, none⟩)] w fun e w' => e = .returned (.agg (bC q (decide (r = 0)) (cmpI (r * 2) d))) ∧ Below w.heap.size w w' := by
  have kU : ∀ W, GA W b ob r → Calls Try.prog 69 #[.pointer (some ⟨b, ob, none⟩), .int .i64 1] W fun e w' => e = .returned (.agg (gC (r * 2))) ∧ Below W.heap.size W w' := fun W h => by
    have := gUp b ob r 1 W (by omega) (by omega) h
    rw [Nat.pow_one] at this
    exact this
  have hl2 := double_len hlr
  have kO := fun f W (q1 : GA W f 0 (r * 2)) (q2 : GA W c oc d) => gOrder f 0 c oc (r * 2) d W q1 q2
  have M0 := (GN.made w q hlq).alloc (.cells Try.zeroCells102 102)
  have Z0 := ZB.made0 (w.alloc (.cells (gC q) 72))
  have s1 : (w.alloc (.cells (gC q) 72)).heap.size = w.heap.size + 1 := by simp
  rw [s1] at Z0
  have B0 : Below w.heap.size w ((w.alloc (.cells (gC q) 72)).alloc (.cells Try.zeroCells102 102)) := ((Below.refl w.heap.size w).alloc (Nat.le_refl _) _).alloc (by simp) _
  have s2 : ((w.alloc (.cells (gC q) 72)).alloc (.cells Try.zeroCells102 102)).heap.size = w.heap.size + 1 + 1 := by simp
  have hb0 := hb.below B0 hb.lt
  have hc0 := hc.below B0 hc.lt
  have hbl := hb.lt
  have hcl := hc.lt
  obtain ⟨s, hs⟩ : ∃ s, decide (r = 0) = s := ⟨_, rfl⟩
  have hsl : (((limbs r).length : Int) == 0) = s := by
    rw [← hs]
    by_cases h : r = 0
    · subst h; rw [limbs_zero]; rfl
    · have hp : 0 < (limbs r).length := by rw [limbs_pos r (by omega)]; simp
      rw [decide_eq_false h, beq_eq_false_iff_ne]
      omega
  rw [hs]
  generalize cmpI (r * 2) d = cm at *
  generalize r * 2 = r2 at *
  clear hb hc hs s1
  go_enter Try.func91, Try.ntmps91
  go_wp2_with fail
  refine (kU _ hb0).mono ?_
  generalize (w.alloc (.cells (gC q) 72)).alloc (.cells Try.zeroCells102 102) = w0 at *
  rintro e w1 ⟨rfl, b1⟩
  have M1 := (GN.below M0 b1 (GN.lt M0)).alloc (.cells Try.zeroCells72 72)
  have Z1 := (Z0.below b1 Z0.lt).alloc (.cells Try.zeroCells72 72)
  have hb1 := (hb0.below b1 hb0.lt).below (alloc_below w1 (.cells Try.zeroCells72 72)) (by have := b1.size; have := hb0.lt; omega)
  have hc1 := (hc0.below b1 hc0.lt).below (alloc_below w1 (.cells Try.zeroCells72 72)) (by have := b1.size; have := hc0.lt; omega)
  have B1 := B0.trans (b1.mono B0.size)
  have B2 := B1.alloc B1.size (.cells Try.zeroCells72 72)
  have F0 := GB.made0 w1
  have hs1 := b1.size
  clear M0 Z0 hb0 hc0 B0 b1 kU B1
  go_wp2_with (first | ((with_reducible (refine wpL_id ?_)); refine wpN_store rfl (.tmp 7) (.tmp 9) rfl w1.heap.size _ _ r2 rfl rfl F0 (by omega) ?_; intro w2 F2 t2 s3))
  have M2 := GN.tn M1 t2 (by simp; omega)
  have Z2 := Z1.tn t2 (by simp; omega)
  have hb2 := hb1.tn t2 (by simp; omega)
  have hc2 := hc1.tn t2 (by simp; omega)
  have B3 := t2.below B2 B2.size (by simp; omega)
  have A2 := GN.ga M2 hlq
  have F2' := GN.ga F2 (by omega)
  clear M1 Z1 hb1 hc1 B2 F0 t2 s3 M2 F2
  generalize w1.heap.size = f at *
  refine wp_region_held_drew (S := fun W => GA W w.heap.size 0 q ∧ GA W b ob r ∧ GA W c oc d ∧ GA W f 0 r2 ∧ ZB W (w.heap.size + 1)) (by kernel_rfl) ⟨A2.drew, hb2.drew, hc2.drew, F2'.drew, Z2.drew⟩ ?_
  intro hHeld
  refine takeH 0 (some 10) (.agg (gC q)) rfl rfl (by kernel_rfl) (by kernel_rfl) (by kernel_rfl) (fun _ _ _ h => h) (yg_load rfl (.tmp 3) rfl w.heap.size 0 q rfl (fun W h => h.1)) (by assumption) ?_
  simp only [Act.put, List.setIfInBounds_toArray, List.set_cons_zero, List.set_cons_succ]
  refine takeH 1 (some 11) (.pointer (some ⟨b, ob, none⟩)) rfl rfl (by kernel_rfl) (by kernel_rfl) (by kernel_rfl) (fun _ _ _ h => h) (yg_move rfl (.tmp 1) rfl _ rfl) (by assumption) ?_
  simp only [Act.put, List.setIfInBounds_toArray, List.set_cons_zero, List.set_cons_succ]
  refine takeH 2 (some 12) (.pointer (some ⟨b, ob, none⟩)) rfl rfl (by kernel_rfl) (by kernel_rfl) (by kernel_rfl) (fun _ _ _ h => h) (Or.inl ⟨rfl, fun W hW => by obtain _ := hW; go_simp⟩) (by assumption) ?_
  simp only [Act.put, List.setIfInBounds_toArray, List.set_cons_zero, List.set_cons_succ]
  refine takeH 3 (some 13) (.pointer (some ⟨b, ob + 98, none⟩)) rfl rfl (by kernel_rfl) (by kernel_rfl) (by kernel_rfl) (fun _ _ _ h => h) (Or.inl ⟨rfl, fun W hW => by obtain _ := hW; go_simp⟩) (by assumption) ?_
  simp only [Act.put, List.setIfInBounds_toArray, List.set_cons_zero, List.set_cons_succ]
  refine takeH 4 (some 14) (.int .i64 ((limbs r).length : Int)) rfl rfl (by kernel_rfl) (by kernel_rfl) (by kernel_rfl) (fun _ _ _ h => h) (Or.inl ⟨rfl, fun W hW => by obtain ⟨_, ⟨_, _c, _⟩, _⟩ := hW; go_simp⟩) (by assumption) ?_
  simp only [Act.put, List.setIfInBounds_toArray, List.set_cons_zero, List.set_cons_succ]
  refine takeH 5 (some 15) (.bool s) rfl rfl (by kernel_rfl) (by kernel_rfl) (by kernel_rfl) (fun _ _ _ h => h) (Or.inl ⟨rfl, fun W hW => by obtain _ := hW; go_simp⟩) (by assumption) ?_
  simp only [Act.put, List.setIfInBounds_toArray, List.set_cons_zero, List.set_cons_succ]
  refine takeH 6 (some 16) (.pointer (some ⟨c, oc, none⟩)) rfl rfl (by kernel_rfl) (by kernel_rfl) (by kernel_rfl) (fun _ _ _ h => h) (yg_move rfl (.tmp 2) rfl _ rfl) (by assumption) ?_
  simp only [Act.put, List.setIfInBounds_toArray, List.set_cons_zero, List.set_cons_succ]
  refine oneH 7 rfl (by kernel_rfl) (fun K' hK => ?_)
  go_simp
  refine (kO f _ hHeld.2.2.2.1 hHeld.2.2.1).mono ?_
  rintro e w4 ⟨rfl, b4⟩
  have hH4 : (fun W => GA W w.heap.size 0 q ∧ GA W b ob r ∧ GA W c oc d ∧ GA W f 0 r2 ∧ ZB W (w.heap.size + 1)) w4 := ⟨hHeld.1.below b4 hHeld.1.lt, hHeld.2.1.below b4 hHeld.2.1.lt, hHeld.2.2.1.below b4 hHeld.2.2.1.lt, hHeld.2.2.2.1.below b4 hHeld.2.2.2.1.lt, hHeld.2.2.2.2.below b4 hHeld.2.2.2.2.lt⟩
  refine hK _ _ hH4 ?_
  clear hK
  refine takeH 8 (some 18) (.agg (bC q s cm)) rfl rfl (by kernel_rfl) (by kernel_rfl) (by kernel_rfl) (fun _ _ _ h => h) (yb_build rfl (.tmp 10) (.tmp 15) (.tmp 17) rfl q s cm rfl rfl rfl hlq) (by assumption) ?_
  simp only [Act.put, List.setIfInBounds_toArray, List.set_cons_zero, List.set_cons_succ]
  refine oneH 9 rfl (by kernel_rfl) (fun K' hK => ?_)
  refine sb_store rfl (.tmp 6) (.tmp 18) rfl (w.heap.size + 1) q s cm rfl rfl hH4.2.2.2.2 hlq rfl ?_
  intro w5 g5 t5 s5
  refine hK _ _ ⟨hH4.1.tn t5 (by simp), hH4.2.1.tn t5 (by simp; omega), hH4.2.2.1.tn t5 (by simp; omega), hH4.2.2.2.1.tn t5 (by simp; omega), ⟨_, g5.blk, (bC_facts q s cm hlq).1⟩⟩ ?_
  refine wpAnyH_done (by kernel_rfl) ?_ _
  have B5 := (B3.drew.trans (b4.mono B3.drew.size))
  have B6 := t5.below B5 B5.size (by simp)
  clear hK kO hHeld hH4
  go_wp2
  (try simp only [Exit.inBlock, Exit.then])
  refine bodyPost_ret (v := .agg (bC q s cm)) ?_ rfl ⟨rfl, B6⟩
  exact results_between rfl _ _ (w.heap.size + 1) _ _ _ rfl g5

set_option maxRecDepth 20000 in
set_option maxHeartbeats 3200000 in
/-- betweenFrac: a by b. -/
theorem bFracL (a oa b ob m d : Nat) (w : World) (hl : (limbs m).length ≤ 70) (hld : (limbs d).length ≤ 48) (hd : 0 < d) (ha : GA w a oa m) (hb : GA w b ob d) :
    Calls Try.prog 73 #[.pointer (some ⟨a, oa, none⟩), .pointer (some ⟨b, ob, none⟩)] w fun e w' => e = .returned (.agg (bC (m / d) (decide (m % d = 0)) (cmpI (m % d * 2) d))) ∧ Below w.heap.size w w' := by
  have hq1 : (limbs (m / d)).length ≤ 70 := Nat.le_trans (limbs_mono (Nat.div_le_self _ _)) hl
  have hq2 : (limbs (m % d)).length ≤ 70 := Nat.le_trans (limbs_mono (Nat.mod_le _ _)) hl
  have kB := fun W (q1 : GA W a oa m) (q2 : GA W b ob d) => gByL a oa b ob m d W hl hld hd q1 q2
  have kR := fun f W (q1 : GA W f 0 (m % d)) (q2 : GA W b ob d) => bRest (m / d) (m % d) d f 0 b ob W (by omega) (by omega) q1 q2
  have Z0 := ZB.made0 w
  have B0 := alloc_below w (.cells Try.zeroCells102 102)
  have ha0 := ha.below B0 ha.lt
  have hb0 := hb.below B0 hb.lt
  have hal := ha.lt
  have hbl := hb.lt
  have s1 : (w.alloc (.cells Try.zeroCells102 102)).heap.size = w.heap.size + 1 := by simp
  clear ha hb
  generalize cmpI (m % d * 2) d = cm at *
  generalize decide (m % d = 0) = s at *
  generalize m / d = q at *
  generalize m % d = r at *
  go_enter Try.func73, Try.ntmps73
  go_wp2_with fail
  refine (kB _ ha0 hb0).mono ?_
  generalize w.alloc (.cells Try.zeroCells102 102) = w0 at *
  rintro e w1 ⟨rfl, b1⟩
  have Z1 := ((Z0.below b1 Z0.lt).alloc (.cells Try.zeroCells72 72)).alloc (.cells Try.zeroCells72 72)
  have B1 := B0.trans (b1.mono B0.size)
  have B2 := (B1.alloc B1.size (.cells Try.zeroCells72 72)).alloc (by have := B1.size; simp; omega) (.cells Try.zeroCells72 72)
  have F0 := (GB.made0 w1).alloc (.cells Try.zeroCells72 72)
  have G0 := GB.made0 (w1.alloc (.cells Try.zeroCells72 72))
  have s2 : (w1.alloc (.cells Try.zeroCells72 72)).heap.size = w1.heap.size + 1 := by simp
  rw [s2] at G0
  have hb1 := (hb0.below b1 hb0.lt).below (below2 w1 (.cells Try.zeroCells72 72) (.cells Try.zeroCells72 72)) (by have := b1.size; have := hb0.lt; omega)
  have hs1 := b1.size
  clear Z0 B0 ha0 hb0 b1 kB B1 s2
  go_wp2_with (first
    | (go_at_call 91; fail)
    | ((with_reducible (refine wpL_id ?_)); refine wpN_store rfl (.tmp 5) (.tmp 11) rfl w1.heap.size _ _ q rfl rfl F0 (by omega) ?_; intro w2 F2 t2 s3; have Z2 := Z1.tn t2 (by simp; omega); have G2 := GB.tn G0 t2 (by simp); have hb2 := hb1.tn t2 (by simp; omega); have B3 := t2.below B2 B2.size (by simp; omega))
    | ((with_reducible (refine wpL_id ?_)); refine wpN_store rfl (.tmp 6) (.tmp 12) rfl (w1.heap.size + 1) _ _ r rfl rfl G2 (by omega) ?_; intro w3 G3 t3 s4; have Z3 := Z2.tn t3 (by simp; omega); have F3 := GN.tn F2 t3 (by simp); have hb3 := hb2.tn t3 (by simp; omega); have B4 := t3.below B3 B3.size (by simp; omega); have A3 := GN.ga F3 (by omega); have C3 := GN.ga G3 (by omega))
    | ((with_reducible (refine wpL_id ?_)); refine wpA_load rfl (.tmp 5) rfl w1.heap.size 0 q rfl A3 ?_))
  refine (kR _ w3 C3 hb3).mono ?_
  rintro e w4 ⟨rfl, b4⟩
  have Z4 := Z3.below b4 Z3.lt
  have B5 := B4.trans (b4.mono B4.size)
  clear Z1 Z2 Z3 F0 F2 F3 G0 G2 G3 hb1 hb2 hb3 A3 C3 B2 B3 B4 t2 t3 kR
  go_wp2_with (first | ((with_reducible (refine wpL_id ?_)); refine wpB_store rfl (.tmp 4) (.tmp 15) rfl w.heap.size q s cm rfl rfl Z4 (by omega) ?_; intro w5 g5 t5 s5))
  (try simp only [Exit.inBlock, Exit.then])
  refine bodyPost_ret (v := .agg (bC q s cm)) ?_ rfl ⟨rfl, t5.below B5 B5.size (by simp)⟩
  exact results_between rfl _ _ w.heap.size _ _ _ rfl g5

theorem bFrac (a oa b ob m d : Nat) (w : World) (hl : (limbs m).length ≤ 48) (hld : (limbs d).length ≤ 48) (hd : 0 < d) (ha : GA w a oa m) (hb : GA w b ob d) :
    Calls Try.prog 73 #[.pointer (some ⟨a, oa, none⟩), .pointer (some ⟨b, ob, none⟩)] w fun e w' => e = .returned (.agg (bC (m / d) (decide (m % d = 0)) (cmpI (m % d * 2) d))) ∧ Below w.heap.size w w' := bFracL a oa b ob m d w (Nat.le_trans hl (by omega)) hld hd ha hb

end Go.Proofs.Ytjelmbkngjlefaa
