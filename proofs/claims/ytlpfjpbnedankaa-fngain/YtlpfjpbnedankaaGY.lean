/- Several small texts in one: GBy, GBy1, GRest, GRoot. -/
import Derived.Test.YtlpfjpbnedankaaGC
import Derived.WalkMore
import Derived.ScopeJumps
import Derived.Scope
import Derived.Test.YtlpfjpbnedankaaSGB
import Derived.Test.YtlpfjpbnedankaaGB
import Derived.Test.YtlpfjpbnedankaaBase
/- The program's by, with a divisor of many words, by its contract. -/
namespace Go.Proofs.Ytlpfjpbnedankaa
open Go.RowKit
set_option linter.unusedSimpArgs false

theorem results_pair {fn : Func} {p q : Tmp} (h : fn.results = #[.cell p 97, .cell q 97]) (tmps : Array Value) (w : World) (b c m n : Nat)
    (hp : tmps.getD p undef = .pointer (some ⟨b, 0, none⟩)) (hq : tmps.getD q undef = .pointer (some ⟨c, 0, none⟩)) (hg : GA w b 0 m) (hh : GA w c 0 n) : (results fn tmps).run Try.prog w = .ok (.tuple #[.agg (gC m), .agg (gC n)]) w := by
  have hp' : tmps[p]?.getD undef = .pointer (some ⟨b, 0, none⟩) := by simpa using hp
  have hq' : tmps[q]?.getD undef = .pointer (some ⟨c, 0, none⟩) := by simpa using hq
  simp [results, h, hp', hq', asAddr, hg.load, hh.load]
theorem nbits_low {d : Nat} (h : 0 < d) : 1 ≤ nbits d ∧ 2 ^ (nbits d - 1) ≤ d := by
  have h1 := nbits_pos d h
  refine ⟨by omega, ?_⟩
  apply Classical.byContradiction
  intro h2
  have := nbits_le_pow (nbits d - 1) d (by omega)
  omega
theorem by_start {m d p : Nat} (hd : 0 < d) (hp : nbits m + 1 ≤ p + nbits d) : m / 2 ^ p < d := by
  obtain ⟨h1, h2⟩ := nbits_low hd
  rw [Nat.div_lt_iff_lt_mul (Nat.pow_pos (by omega))]
  have h3 := lt_nbits m
  have h4 := Nat.pow_le_pow_right (by omega : 0 < 2) (show nbits m ≤ (nbits d - 1) + p by omega)
  rw [Nat.pow_add] at h4
  have h5 := Nat.mul_le_mul_right (2 ^ p) h2
  omega
theorem by_step {m d t : Nat} (hd : 0 < d) {zs : List Int} (hr : inR zs) (hl : zs.length = 98) (ht : t / 24 < 98) (hz : num zs = m / 2 ^ (t + 1) / d * 2 ^ (t + 1)) :
    (m / 2 ^ (t + 1) % d * 2 ^ 1 + m / 2 ^ t % 2 < d → m / 2 ^ t % d = m / 2 ^ (t + 1) % d * 2 ^ 1 + m / 2 ^ t % 2 ∧ num zs = m / 2 ^ t / d * 2 ^ t) ∧
    (d ≤ m / 2 ^ (t + 1) % d * 2 ^ 1 + m / 2 ^ t % 2 → m / 2 ^ t % d = m / 2 ^ (t + 1) % d * 2 ^ 1 + m / 2 ^ t % 2 - d ∧ inR (zs.set (t / 24) (zs.getD (t / 24) 0 + 2 ^ (t % 24))) ∧ num (zs.set (t / 24) (zs.getD (t / 24) 0 + 2 ^ (t % 24))) = m / 2 ^ t / d * 2 ^ t) := by
  have hb : m / 2 ^ t % 2 ≤ 1 := by omega
  have hn := bit_next m t
  have hdb := div_bit (h := m / 2 ^ (t + 1)) hd hb hn
  have hroom := limb_room hr t _ hz
  have e2 : (2 : Nat) ^ (t + 1) = 2 * 2 ^ t := by rw [Nat.pow_succ, Nat.mul_comm]
  constructor
  · intro h
    rw [if_neg (by omega)] at hdb
    refine ⟨by omega, ?_⟩
    rw [hz, hdb.2, e2]
    grind
  · intro h
    rw [if_pos (by omega)] at hdb
    have h0 := (inR_getD hr (t / 24)).1
    have p0 := two_pow_pos (t % 24)
    have hin := inR_set hr (t / 24) (y := zs.getD (t / 24) 0 + 2 ^ (t % 24)) (by omega) hroom
    refine ⟨by omega, hin, ?_⟩
    have e1 := lval_set zs (t / 24) (zs.getD (t / 24) 0 + 2 ^ (t % 24)) (by omega)
    have e3 : (16777216 : Int) ^ (t / 24) * 2 ^ (t % 24) = ((2 ^ t : Nat) : Int) := by rw [← pow24N t]; simp
    rw [show zs.getD (t / 24) 0 + 2 ^ (t % 24) - zs.getD (t / 24) 0 = 2 ^ (t % 24) by omega, e3, ← num_val hin, ← num_val hr] at e1
    have e4 : num (zs.set (t / 24) (zs.getD (t / 24) 0 + 2 ^ (t % 24))) = num zs + 2 ^ t := by omega
    rw [e4, hz, hdb.2, e2]
    grind

end Go.Proofs.Ytlpfjpbnedankaa

/- The program's by, with a divisor of one word, and as a whole, by its contract. -/
namespace Go.Proofs.Ytlpfjpbnedankaa
open Go.RowKit
set_option linter.unusedSimpArgs false

theorem one_limb {d : Nat} (h : (limbs d).length = 1) : (limbs d).getD 0 0 = d ∧ 0 < d ∧ d < 16777216 := by
  have h0 : 0 < d := by
    apply Classical.byContradiction
    intro h1
    obtain rfl : d = 0 := by omega
    rw [limbs_zero] at h
    simp at h
  have h1 := limbs_lt d
  rw [h] at h1
  have h2 : d < 16777216 := by simpa using h1
  rw [limbs_pos d h0]
  refine ⟨?_, h0, h2⟩
  show ((d % 16777216 : Nat) : Int) = d
  rw [Nat.mod_eq_of_lt h2]

end Go.Proofs.Ytlpfjpbnedankaa

/- The program's betweenRest and betweenFrac, each by its contract. -/
namespace Go.Proofs.Ytlpfjpbnedankaa
open Go.RowKit
set_option linter.unusedSimpArgs false

theorem double_len {r : Nat} (h : (limbs r).length ≤ 96) : (limbs (r * 2)).length ≤ 97 := by
  have h1 := limbs_lt r
  refine Nat.le_trans (limbs_len_le _ ((limbs r).length + 1) ?_) (by omega)
  rw [Nat.pow_succ]
  have h2 : 0 < 16777216 ^ (limbs r).length := Nat.pow_pos (by omega)
  omega

set_option maxRecDepth 20000 in
set_option maxHeartbeats 3200000 in
/-- betweenRest: the floor, whether nothing is left, and how twice what is left stands to the step. -/
theorem bRest (q r d b ob c oc : Nat) (w : World) (hlq : (limbs q).length ≤ 98) (hlr : (limbs r).length ≤ 96) (hb : GA w b ob r) (hc : GA w c oc d) :
    Calls Try.prog 117 #[.agg (gC q), .pointer (some ⟨b, ob, none⟩), .pointer (some ⟨c, oc, none⟩)] w fun e w' => e = .returned (.agg (bC q (decide (r = 0)) (cmpI (r * 2) d))) ∧ Below w.heap.size w w' := by
  have kU : ∀ W, GA W b ob r → Calls Try.prog 68 #[.pointer (some ⟨b, ob, none⟩), .int .i64 1] W fun e w' => e = .returned (.agg (gC (r * 2))) ∧ Below W.heap.size W w' := fun W h => by
    have := gUp b ob r 1 W (by omega) (by omega) h
    rw [Nat.pow_one] at this
    exact this
  have hl2 := double_len hlr
  have kO := fun f W (q1 : GA W f 0 (r * 2)) (q2 : GA W c oc d) => gOrder f 0 c oc (r * 2) d W q1 q2
  have M0 := (GN.made w q hlq).alloc (.cells Try.zeroCells143 143)
  have Z0 := ZB.made0 (w.alloc (.cells (gC q) 97))
  have s1 : (w.alloc (.cells (gC q) 97)).heap.size = w.heap.size + 1 := by simp
  rw [s1] at Z0
  have B0 : Below w.heap.size w ((w.alloc (.cells (gC q) 97)).alloc (.cells Try.zeroCells143 143)) := ((Below.refl w.heap.size w).alloc (Nat.le_refl _) _).alloc (by simp) _
  have s2 : ((w.alloc (.cells (gC q) 97)).alloc (.cells Try.zeroCells143 143)).heap.size = w.heap.size + 1 + 1 := by simp
  have hb0 := hb.below B0 hb.lt
  have hc0 := hc.below B0 hc.lt
  have hbl := hb.lt
  have hcl := hc.lt
  obtain ⟨s, hs⟩ : ∃ s, decide (r = 0) = s := ⟨_, rfl⟩
  have hsl : (((limbs r).length : Int) == 0) = s := by
    rw [← hs]
    by_cases h : r = 0
    · subst h; rw [limbs_zero]; rfl
    · have hp : 0 < (limbs r).length := by rw [limbs_pos r (by omega)]; simp
      rw [decide_eq_false h, beq_eq_false_iff_ne]
      omega
  rw [hs]
  generalize cmpI (r * 2) d = cm at *
  generalize r * 2 = r2 at *
  clear hb hc hs s1
  go_enter Try.func117, Try.ntmps117
  go_wp2_with fail
  refine (kU _ hb0).mono ?_
  generalize (w.alloc (.cells (gC q) 97)).alloc (.cells Try.zeroCells143 143) = w0 at *
  rintro e w1 ⟨rfl, b1⟩
  have M1 := (GN.below M0 b1 (GN.lt M0)).alloc (.cells Try.zeroCells97 97)
  have Z1 := (Z0.below b1 Z0.lt).alloc (.cells Try.zeroCells97 97)
  have hb1 := (hb0.below b1 hb0.lt).below (alloc_below w1 (.cells Try.zeroCells97 97)) (by have := b1.size; have := hb0.lt; omega)
  have hc1 := (hc0.below b1 hc0.lt).below (alloc_below w1 (.cells Try.zeroCells97 97)) (by have := b1.size; have := hc0.lt; omega)
  have B1 := B0.trans (b1.mono B0.size)
  have B2 := B1.alloc B1.size (.cells Try.zeroCells97 97)
  have F0 := GB.made0 w1
  have hs1 := b1.size
  clear M0 Z0 hb0 hc0 B0 b1 kU B1
  go_wp2_with (first | ((with_reducible (refine wpL_id ?_)); refine wpN_store rfl (.tmp 7) (.tmp 9) rfl w1.heap.size _ _ r2 rfl rfl F0 (by omega) ?_; intro w2 F2 t2 s3))
  have M2 := GN.tn M1 t2 (by simp; omega)
  have Z2 := Z1.tn t2 (by simp; omega)
  have hb2 := hb1.tn t2 (by simp; omega)
  have hc2 := hc1.tn t2 (by simp; omega)
  have B3 := t2.below B2 B2.size (by simp; omega)
  have A2 := GN.ga M2 hlq
  have F2' := GN.ga F2 (by omega)
  clear M1 Z1 hb1 hc1 B2 F0 t2 s3 M2 F2
  generalize w1.heap.size = f at *
  refine wp_region_held_drew (S := fun W => GA W w.heap.size 0 q ∧ GA W b ob r ∧ GA W c oc d ∧ GA W f 0 r2 ∧ ZB W (w.heap.size + 1)) (by kernel_rfl) ⟨A2.drew, hb2.drew, hc2.drew, F2'.drew, Z2.drew⟩ ?_
  intro hHeld
  refine takeH 0 (some 10) (.agg (gC q)) rfl rfl (by kernel_rfl) (by kernel_rfl) (by kernel_rfl) (fun _ _ _ h => h) (yg_load rfl (.tmp 3) rfl w.heap.size 0 q rfl (fun W h => h.1)) (by assumption) ?_
  simp only [Act.put, List.setIfInBounds_toArray, List.set_cons_zero, List.set_cons_succ]
  refine takeH 1 (some 11) (.pointer (some ⟨b, ob, none⟩)) rfl rfl (by kernel_rfl) (by kernel_rfl) (by kernel_rfl) (fun _ _ _ h => h) (yg_move rfl (.tmp 1) rfl _ rfl) (by assumption) ?_
  simp only [Act.put, List.setIfInBounds_toArray, List.set_cons_zero, List.set_cons_succ]
  refine takeH 2 (some 12) (.pointer (some ⟨b, ob, none⟩)) rfl rfl (by kernel_rfl) (by kernel_rfl) (by kernel_rfl) (fun _ _ _ h => h) (Or.inl ⟨rfl, fun W hW => by obtain _ := hW; go_simp⟩) (by assumption) ?_
  simp only [Act.put, List.setIfInBounds_toArray, List.set_cons_zero, List.set_cons_succ]
  refine takeH 3 (some 13) (.pointer (some ⟨b, ob + 98, none⟩)) rfl rfl (by kernel_rfl) (by kernel_rfl) (by kernel_rfl) (fun _ _ _ h => h) (Or.inl ⟨rfl, fun W hW => by obtain _ := hW; go_simp⟩) (by assumption) ?_
  simp only [Act.put, List.setIfInBounds_toArray, List.set_cons_zero, List.set_cons_succ]
  refine takeH 4 (some 14) (.int .i64 ((limbs r).length : Int)) rfl rfl (by kernel_rfl) (by kernel_rfl) (by kernel_rfl) (fun _ _ _ h => h) (Or.inl ⟨rfl, fun W hW => by obtain ⟨_, ⟨_, _c, _⟩, _⟩ := hW; go_simp⟩) (by assumption) ?_
  simp only [Act.put, List.setIfInBounds_toArray, List.set_cons_zero, List.set_cons_succ]
  refine takeH 5 (some 15) (.bool s) rfl rfl (by kernel_rfl) (by kernel_rfl) (by kernel_rfl) (fun _ _ _ h => h) (Or.inl ⟨rfl, fun W hW => by obtain _ := hW; go_simp⟩) (by assumption) ?_
  simp only [Act.put, List.setIfInBounds_toArray, List.set_cons_zero, List.set_cons_succ]
  refine takeH 6 (some 16) (.pointer (some ⟨c, oc, none⟩)) rfl rfl (by kernel_rfl) (by kernel_rfl) (by kernel_rfl) (fun _ _ _ h => h) (yg_move rfl (.tmp 2) rfl _ rfl) (by assumption) ?_
  simp only [Act.put, List.setIfInBounds_toArray, List.set_cons_zero, List.set_cons_succ]
  refine oneH 7 rfl (by kernel_rfl) (fun K' hK => ?_)
  go_simp
  refine (kO f _ hHeld.2.2.2.1 hHeld.2.2.1).mono ?_
  rintro e w4 ⟨rfl, b4⟩
  have hH4 : (fun W => GA W w.heap.size 0 q ∧ GA W b ob r ∧ GA W c oc d ∧ GA W f 0 r2 ∧ ZB W (w.heap.size + 1)) w4 := ⟨hHeld.1.below b4 hHeld.1.lt, hHeld.2.1.below b4 hHeld.2.1.lt, hHeld.2.2.1.below b4 hHeld.2.2.1.lt, hHeld.2.2.2.1.below b4 hHeld.2.2.2.1.lt, hHeld.2.2.2.2.below b4 hHeld.2.2.2.2.lt⟩
  refine hK _ _ hH4 ?_
  clear hK
  refine takeH 8 (some 18) (.agg (bC q s cm)) rfl rfl (by kernel_rfl) (by kernel_rfl) (by kernel_rfl) (fun _ _ _ h => h) (yb_build rfl (.tmp 10) (.tmp 15) (.tmp 17) rfl q s cm rfl rfl rfl hlq) (by assumption) ?_
  simp only [Act.put, List.setIfInBounds_toArray, List.set_cons_zero, List.set_cons_succ]
  refine oneH 9 rfl (by kernel_rfl) (fun K' hK => ?_)
  refine sb_store rfl (.tmp 6) (.tmp 18) rfl (w.heap.size + 1) q s cm rfl rfl hH4.2.2.2.2 hlq rfl ?_
  intro w5 g5 t5 s5
  refine hK _ _ ⟨hH4.1.tn t5 (by simp), hH4.2.1.tn t5 (by simp; omega), hH4.2.2.1.tn t5 (by simp; omega), hH4.2.2.2.1.tn t5 (by simp; omega), ⟨_, g5.blk, (bC_facts q s cm hlq).1⟩⟩ ?_
  refine wpAnyH_done (by kernel_rfl) ?_ _
  have B5 := (B3.drew.trans (b4.mono B3.drew.size))
  have B6 := t5.below B5 B5.size (by simp)
  clear hK kO hHeld hH4
  go_wp2
  (try simp only [Exit.inBlock, Exit.then])
  refine bodyPost_ret (v := .agg (bC q s cm)) ?_ rfl ⟨rfl, B6⟩
  exact results_between rfl _ _ (w.heap.size + 1) _ _ _ rfl g5

end Go.Proofs.Ytlpfjpbnedankaa

/- The program's root, by its contract. -/
namespace Go.Proofs.Ytlpfjpbnedankaa
open Go.RowKit
set_option linter.unusedSimpArgs false

theorem four_step (m p : Nat) : m / 2 ^ (2 * p) = 4 * (m / 2 ^ (2 * (p + 1))) + (2 * (m / 2 ^ (2 * p + 1) % 2) + m / 2 ^ (2 * p) % 2) := by
  have h1 := bit_next m (2 * p)
  have h2 := bit_next m (2 * p + 1)
  rw [show 2 * (p + 1) = 2 * p + 1 + 1 by omega]
  omega
theorem odd_limbs (r : Nat) : pad (limbs (2 * r + 1)) = (pad (limbs (2 * r))).set 0 ((limbs (2 * r)).getD 0 0 + 1) ∧ ((limbs (2 * r + 1)).length : Int) = max ((limbs (2 * r)).length : Int) 1 := by
  by_cases h : r = 0
  · subst h
    rw [show 2 * 0 = 0 by rfl, limbs_zero, limbs_pos (0 + 1) (by omega)]
    rw [show (0 + 1) / 16777216 = 0 by rfl, limbs_zero]
    exact ⟨rfl, rfl⟩
  · rw [limbs_pos (2 * r) (by omega), limbs_pos (2 * r + 1) (by omega)]
    have e1 : (2 * r + 1) / 16777216 = 2 * r / 16777216 := by omega
    have e2 : (2 * r + 1) % 16777216 = 2 * r % 16777216 + 1 := by omega
    rw [e1, e2]
    refine ⟨?_, by simp; omega⟩
    unfold pad
    simp
theorem root_inv {m p r s : Nat} (h : r * r + s = m / 2 ^ (2 * (p + 1))) (hs : s ≤ 2 * r) :
    (4 * s + (2 * (m / 2 ^ (2 * p + 1) % 2) + m / 2 ^ (2 * p) % 2) < 4 * r + 1 → (2 * r) * (2 * r) + (4 * s + (2 * (m / 2 ^ (2 * p + 1) % 2) + m / 2 ^ (2 * p) % 2)) = m / 2 ^ (2 * p) ∧ 4 * s + (2 * (m / 2 ^ (2 * p + 1) % 2) + m / 2 ^ (2 * p) % 2) ≤ 2 * (2 * r)) ∧
    (4 * r + 1 ≤ 4 * s + (2 * (m / 2 ^ (2 * p + 1) % 2) + m / 2 ^ (2 * p) % 2) → (2 * r + 1) * (2 * r + 1) + (4 * s + (2 * (m / 2 ^ (2 * p + 1) % 2) + m / 2 ^ (2 * p) % 2) - (4 * r + 1)) = m / 2 ^ (2 * p) ∧ 4 * s + (2 * (m / 2 ^ (2 * p + 1) % 2) + m / 2 ^ (2 * p) % 2) - (4 * r + 1) ≤ 2 * (2 * r + 1)) := by
  have e := four_step m p
  rw [← h] at e
  have q1 : 2 * r * (2 * r) = 4 * (r * r) := by grind
  have q2 : (2 * r + 1) * (2 * r + 1) = 4 * (r * r) + 4 * r + 1 := by grind
  rw [q1, q2]
  have b1 : m / 2 ^ (2 * p + 1) % 2 < 2 := Nat.mod_lt _ (by omega)
  have b0 : m / 2 ^ (2 * p) % 2 < 2 := Nat.mod_lt _ (by omega)
  generalize m / 2 ^ (2 * p + 1) % 2 = x1 at *
  generalize m / 2 ^ (2 * p) % 2 = x0 at *
  generalize r * r = rr at *
  generalize m / 2 ^ (2 * p) = mm at *
  omega
theorem limbs_four {s n : Nat} (h : (limbs s).length ≤ 97) (hn : n ≤ 4 * s + 3) : (limbs n).length ≤ 98 := by
  refine limbs_len_le n 98 ?_
  have h1 := limbs_lt s
  have h2 := Nat.pow_le_pow_right (by omega : 0 < 16777216) h
  have e : (16777216 : Nat) ^ 98 = 16777216 ^ 97 * 16777216 := rfl
  omega
theorem root_small {m p r s : Nat} (h : r * r + s = m / 2 ^ p) : r ≤ m := by
  have h1 : m / 2 ^ p ≤ m := Nat.div_le_self _ _
  by_cases h0 : r = 0
  · omega
  · have := Nat.le_mul_of_pos_right r (Nat.pos_of_ne_zero h0)
    omega

set_option maxRecDepth 200000 in
set_option maxHeartbeats 3200000 in
/-- root: rounded down. -/
theorem gRoot (a oa m : Nat) (w : World) (hl : (limbs m).length ≤ 96) (ha : GA w a oa m) :
    Calls Try.prog 120 #[.pointer (some ⟨a, oa, none⟩)] w fun e w' => e = .returned (.agg (gC (isqrt m))) ∧ Below w.heap.size w w' := by
  have R0 := ((GB.made0 w).alloc (.cells Try.zeroCells97 97)).alloc (.cells Try.zeroCells97 97)
  have T0 := (GB.made0 (w.alloc (.cells Try.zeroCells97 97))).alloc (.cells Try.zeroCells97 97)
  have S0 := GB.made0 ((w.alloc (.cells Try.zeroCells97 97)).alloc (.cells Try.zeroCells97 97))
  have s1 : (w.alloc (.cells Try.zeroCells97 97)).heap.size = w.heap.size + 1 := by simp
  have s2 : ((w.alloc (.cells Try.zeroCells97 97)).alloc (.cells Try.zeroCells97 97)).heap.size = w.heap.size + 1 + 1 := by simp
  have B0 : Below w.heap.size w (((w.alloc (.cells Try.zeroCells97 97)).alloc (.cells Try.zeroCells97 97)).alloc (.cells Try.zeroCells97 97)) := (((Below.refl w.heap.size w).alloc (Nat.le_refl _) _).alloc (by simp) _).alloc (by simp; omega) _
  rw [s1] at T0
  rw [s2] at S0
  have hna : a < w.heap.size := ha.lt
  have hA := ha.below B0 hna
  have kB := fun W h => gBits a oa m W h
  have hnb : nbits m ≤ 24 * 96 := by
    have := nbits_le_pow (24 * (limbs m).length) m (by rw [← base_pow]; exact limbs_lt m)
    omega
  clear s1 s2 ha
  go_enter Try.func120, Try.ntmps120
  go_wp2
  refine wp_scope_jumps 0 (fun a' wr => ∃ (v5 u6 u7 u8 u9 u10 u11 u12 u13 u14 u15 u16 u17 u18 u19 u20 u21 u22 u23 u24 u25 u26 u27 u28 u29 u30 u31 u32 u33 u34 u35 u36 u37 u38 u39 u40 u41 u42 u43 : Value), a' = { tmps := #[.pointer (some ⟨a, oa, none⟩), undef, .pointer (some ⟨w.heap.size, 0, none⟩), .pointer (some ⟨w.heap.size + 1, 0, none⟩), .pointer (some ⟨w.heap.size + 1 + 1, 0, none⟩), v5, u6, u7, u8, u9, u10, u11, u12, u13, u14, u15, u16, u17, u18, u19, u20, u21, u22, u23, u24, u25, u26, u27, u28, u29, u30, u31, u32, u33, u34, u35, u36, u37, u38, u39, u40, u41, u42, u43], defers := [] } ∧ ∃ (p r s : Nat), 2 * p ≤ nbits m + 1 ∧ v5 = .int .i64 p ∧ Hid (r * r + s = m / 2 ^ (2 * p)) ∧ s ≤ 2 * r ∧ r ≤ m ∧ GN wr (w.heap.size + 1) r ∧ GN wr (w.heap.size + 1 + 1) s ∧ GA wr a oa m ∧ GB wr w.heap.size (List.replicate 98 0) 0 ∧ Below w.heap.size w wr) (fun a' _ => (intOf (a'.tmps.getD 5 undef)).toNat) rfl ?_ ?_
  · go_wp2_with fail
    refine (kB _ hA).mono ?_
    rintro e w1 ⟨rfl, b1⟩
    generalize ((w.alloc (.cells Try.zeroCells97 97)).alloc (.cells Try.zeroCells97 97)).alloc (.cells Try.zeroCells97 97) = w0 at *
    go_wp2
    go_step3
    obtain ⟨p0, hp0⟩ : ∃ p, (nbits m + 1) / 2 = p := ⟨_, rfl⟩
    have hp0i : ((nbits m : Int) + 1) / 2 = (p0 : Int) := by omega
    have hp01 : p0 ≤ 24 * 96 := by omega
    rw [hp0i]
    have g1 : GN w1 (w.heap.size + 1) 0 := by unfold GN; rw [pad_zero, limbs_zero]; exact T0.below b1 T0.lt
    have g2 : GN w1 (w.heap.size + 1 + 1) 0 := by unfold GN; rw [pad_zero, limbs_zero]; exact S0.below b1 S0.lt
    have hA := hA.below b1 hA.lt
    have hR := R0.below b1 R0.lt
    have hB := B0.trans (b1.mono B0.size)
    have I0 : Hid (0 * 0 + 0 = m / 2 ^ (2 * p0)) := by
      show _ = _
      have h1 := lt_nbits m
      have h2 := Nat.pow_le_pow_right (by omega : 0 < 2) (show nbits m ≤ 2 * p0 by omega)
      rw [Nat.div_eq_of_lt (by omega)]
    have I1 : (0 : Nat) ≤ 2 * 0 := by omega
    have I2 : 0 ≤ m := Nat.zero_le _
    have hp2 : 2 * p0 ≤ nbits m + 1 := by omega
    clear hp0 hp0i T0 S0 R0 B0 b1 kB
    go_wp2
    go_loopw [5] (fun v5 wr => ∃ (p r s : Nat), p ≤ p0 ∧ v5 = .int .i64 p ∧ Hid (r * r + s = m / 2 ^ (2 * p)) ∧ s ≤ 2 * r ∧ r ≤ m ∧ GN wr (w.heap.size + 1) r ∧ GN wr (w.heap.size + 1 + 1) s ∧ GA wr a oa m ∧ GB wr w.heap.size (List.replicate 98 0) 0 ∧ Below w.heap.size w wr) (fun v5 _ => (intOf v5).toNat)
    case atStart => exact ⟨p0, 0, 0, Nat.le_refl _, by go_num, I0, I1, I2, g1, g2, hA, hR, hB⟩
    case round =>
      clear g1 g2 hA hR hB I0 I1 I2
      obtain ⟨p, r, s, hp, rfl, HI, hs, hrm, g1, g2, hA, hR, hB⟩ := hrel
      have hlr := limbs_mono (m := m) (n := r) hrm
      by_cases h0 : p = 0
      · subst h0
        have hI : r * r + s = m := by have := HI.out; simpa using this
        have hiq : r = isqrt m := isqrt_unique (by omega) (by have : (r + 1) * (r + 1) = r * r + 2 * r + 1 := (by grind); omega)
        have HQ : Hid (r = isqrt m) := hiq
        have A1 := GN.ga g1 (by omega)
        have hbs := hB.size
        clear hI hiq HI
        go_wp2_with (first | ((with_reducible (refine wpL_id ?_)); refine wpA_load rfl (.tmp 3) rfl (w.heap.size + 1) 0 r rfl A1 ?_) | ((with_reducible (refine wpL_id ?_)); refine wpN_store rfl (.tmp 2) (.tmp 43) rfl w.heap.size _ _ r rfl rfl hR (by omega) ?_; intro w6 g6 t6 s6))
        (try simp only [Exit.inBlock, Exit.then, Exit.jump])
        (try rw [Exit.noGoto_ret])
        refine bodyPost_ret (v := .agg (gC (isqrt m))) ?_ rfl ⟨rfl, t6.below hB hbs (by simp)⟩
        rw [← HQ.out]
        exact results_great rfl _ _ w.heap.size _ _ rfl g6
      · obtain ⟨t, rfl⟩ : ∃ t, p = t + 1 := ⟨p - 1, by omega⟩
        obtain ⟨IV1, IV2⟩ := root_inv HI.out hs
        have k1 := gBit a oa m (2 * t + 1) wr (by omega) hA
        have k0 := gBit a oa m (2 * t) wr (by omega) hA
        have x1b : m / 2 ^ (2 * t + 1) % 2 < 2 := Nat.mod_lt _ (by omega)
        have x0b : m / 2 ^ (2 * t) % 2 < 2 := Nat.mod_lt _ (by omega)
        have hcast1 : ((2 * t + 1 : Nat) : Int) = 2 * (t : Int) + 1 := by omega
        have hcast0 : ((2 * t : Nat) : Int) = 2 * (t : Int) := by omega
        rw [hcast1] at k1
        rw [hcast0] at k0
        generalize m / 2 ^ (2 * t + 1) % 2 = x1 at *
        generalize m / 2 ^ (2 * t) % 2 = x0 at *
        obtain ⟨lo, hlo⟩ : ∃ lo, 2 * x1 + x0 = lo := ⟨_, rfl⟩
        have HLO : Hid ((2 : Int) * (x1 : Int) + (x0 : Int) = (lo : Int)) := by show _ = _; omega
        have hlo4 : lo < 4 := by omega
        rw [hlo] at IV1 IV2
        have hlor : (limbs s).length ≤ 97 := by
          have q := add_limbs r r 96 (by omega) (by omega)
          have := limbs_mono (m := r + r) (n := s) (by omega)
          omega
        have kE := fun N hN => gEnter (w.heap.size + 1 + 1) s 2 lo N wr (.inr rfl) hlo4 hN hlor g2
        have hpos : (0 : Int) < ((t + 1 : Nat) : Int) := by omega
        have hbs := hB.size
        have h3 := GN.lt g2
        obtain ⟨N1, hN1⟩ : ∃ N, s * 2 ^ 2 + lo = N := ⟨_, rfl⟩
        have kE := kE N1 hN1.symm
        rw [show ((2 : Nat) : Int) = 2 from rfl] at kE
        have hN1' : 4 * s + lo = N1 := by omega
        rw [hN1'] at IV1 IV2
        have HIV : Hid ((N1 < 4 * r + 1 → 2 * r * (2 * r) + N1 = m / 2 ^ (2 * t) ∧ N1 ≤ 2 * (2 * r)) ∧ (4 * r + 1 ≤ N1 → (2 * r + 1) * (2 * r + 1) + (N1 - (4 * r + 1)) = m / 2 ^ (2 * t) ∧ N1 - (4 * r + 1) ≤ 2 * (2 * r + 1))) := ⟨IV1, IV2⟩
        have hN1b : N1 ≤ 4 * s + 3 := by omega
        clear IV1 IV2 hN1 hN1' hcast1 hcast0 HI hlo
        go_wp2_with fail
        refine k1.mono ?_
        rintro e wr ⟨rfl, rfl⟩
        go_wp2_with fail
        refine k0.mono ?_
        rintro e wr ⟨rfl, rfl⟩
        go_wp2_with fail
        rw [HLO.out]
        refine kE.mono ?_
        rintro e w2 ⟨rfl, g2', t2, z2⟩
        have G1 := GN.tn g1 t2 (by simp)
        have hA2 := hA.tn t2 (by simp; omega)
        have R2 := hR.tn t2 (by simp; omega)
        have B2 := t2.below hB hbs (by simp; omega)
        have hlr96 : (limbs r).length ≤ 96 := by omega
        have A2r := GN.ga G1 (by omega)
        have P0 := GB.made0 w2
        have A3r := A2r.below (alloc_below w2 (.cells Try.zeroCells97 97)) A2r.lt
        have G1a := G1.alloc (.cells Try.zeroCells97 97)
        have g2a := GN.alloc g2' (.cells Try.zeroCells97 97)
        have hA3 := hA2.below (alloc_below w2 (.cells Try.zeroCells97 97)) hA2.lt
        have R3 := R2.alloc (.cells Try.zeroCells97 97)
        have B3 := B2.alloc B2.size (.cells Try.zeroCells97 97)
        have hsz2 : w.heap.size + 1 + 1 < w2.heap.size := by omega
        clear g1 g2 hA hR hB k1 k0 kE t2 G1 g2' hA2 R2 B2 z2 h3
        go_wp2_with (first
          | (go_at_call 124; fail)
          | ((with_reducible (refine wpL_id ?_)); refine wpA_load rfl (.tmp 3) rfl (w.heap.size + 1) 0 r rfl A2r ?_)
          | ((with_reducible (refine wpL_id ?_)); refine wpN_store rfl (.tmp 6) (.tmp 27) rfl w2.heap.size _ _ r rfl rfl P0 (by omega) ?_; intro w3 g3 t3 z3))
        clear z3
        have G3 := GN.tn G1a t3 (by simp; omega)
        have S3 := GN.tn g2a t3 (by simp; omega)
        have A3 := hA3.tn t3 (by simp; omega)
        have R3' := R3.tn t3 (by simp; omega)
        have B3' := t3.below B3 B3.size (by simp; omega)
        have hbs3 := B3'.size
        obtain ⟨N2, hN2⟩ : ∃ N, r * 2 ^ 2 + 1 = N := ⟨_, rfl⟩
        obtain ⟨N3, hN3⟩ : ∃ N, r * 2 ^ 1 + 0 = N := ⟨_, rfl⟩
        have hN2' : 4 * r + 1 = N2 := by omega
        have hN3' : 2 * r = N3 := by omega
        have kT := gEnter w2.heap.size r 2 1 N2 w3 (.inr rfl) (by omega) hN2.symm (by omega) g3
        rw [show ((2 : Nat) : Int) = 2 from rfl, show ((1 : Nat) : Int) = 1 from rfl] at kT
        have HN : Hid (4 * r + 1 = N2 ∧ 2 * r = N3) := ⟨hN2', hN3'⟩
        have hN3e := hN3.symm
        have hl2 : (limbs N2).length ≤ 98 := limbs_four (s := r) (by omega) (by omega)
        have hl1 : (limbs N1).length ≤ 98 := limbs_four hlor hN1b
        clear hN2 hN2' hN3' P0 A2r A3r G1a g2a hA3 R3 B3 t3
        refine kT.mono ?_
        rintro e w4 ⟨rfl, g4, t4, -⟩
        have G4 := GN.tn G3 t4 (by simp; omega)
        have S4 := GN.tn S3 t4 (by simp; omega)
        have A4 := A3.tn t4 (by simp; omega)
        have R4 := R3'.tn t4 (by simp; omega)
        have B4 := t4.below B3' hbs3 (by simp; omega)
        have kR := gEnter (w.heap.size + 1) r 1 0 N3 w4 (.inl rfl) (by omega) hN3e (by omega) G4
        rw [show ((1 : Nat) : Int) = 1 from rfl, show ((0 : Nat) : Int) = 0 from rfl] at kR
        clear kT G3 S3 A3 R3' B3' t4 g3 hN3 hN3e
        go_wp2_with fail
        refine kR.mono ?_
        rintro e w5 ⟨rfl, g5, t5, -⟩
        have T5 := GN.tn g4 t5 (by simp; omega)
        have S5 := GN.tn S4 t5 (by simp)
        have A5 := A4.tn t5 (by simp; omega)
        have R5 := R4.tn t5 (by simp)
        have B5 := t5.below B4 B4.size (by simp)
        have kO := gOrder (w.heap.size + 1 + 1) 0 w2.heap.size 0 N1 N2 w5 (GN.ga S5 hl1) (GN.ga T5 hl2)
        obtain ⟨c, hc⟩ : ∃ c, cmpI N1 N2 = c := ⟨_, rfl⟩
        have hcl := @cmpI_lt N1 N2
        have hcg := @cmpI_ge N1 N2
        rw [hc] at kO hcl hcg
        have hbs5 := B5.size
        clear kR G4 S4 A4 R4 B4 t5 g4 hc
        by_cases hlt : N1 < N2
        · have hc0 : c < 0 := hcl hlt
          have hcd : decide (c < 0) = true := decide_eq_true hc0
          obtain ⟨V1, V2⟩ := HIV.out.1 (by have := HN.out.1; omega)
          have HV : Hid (N3 * N3 + N1 = m / 2 ^ (2 * t)) := by show _ = _; rw [← HN.out.2]; exact V1
          have V2' : N1 ≤ 2 * N3 := by have := HN.out.2; omega
          have V3 : N3 ≤ m := root_small HV.out
          clear V1 V2 hcl hcg hlt
          go_wp2_with fail
          refine kO.mono ?_
          rintro e w6 ⟨rfl, b6⟩
          have g6 := GN.below g5 b6 (GN.lt g5)
          have S6 := GN.below S5 b6 (GN.lt S5)
          have A6 := A5.below b6 A5.lt
          have R6 := R5.below b6 R5.lt
          have B6 := B5.trans (b6.mono hbs5)
          clear kO S5 T5 A5 R5 B5 g5 b6
          go_wp2
          go_step3
          (try simp only [Exit.inBlock, Exit.then, Exit.jump])
          exact ⟨rfl, _, _, _, _, _, _, _, _, _, _, _, _, _, _, _, _, _, _, _, _, _, _, _, _, _, _, _, _, _, _, _, _, _, _, _, _, _, _, _, rfl, t, N3, N1, by omega, rfl, HV, V2', V3, g6, S6, A6, R6, B6⟩
        · have hc0 : ¬ c < 0 := by have := hcg (by omega); omega
          have hcd : decide (c < 0) = false := decide_eq_false hc0
          obtain ⟨V1, V2⟩ := HIV.out.2 (by have := HN.out.1; omega)
          have HV : Hid ((N3 + 1) * (N3 + 1) + (N1 - N2) = m / 2 ^ (2 * t)) := by show _ = _; rw [← HN.out.2, ← HN.out.1]; exact V1
          have V2' : N1 - N2 ≤ 2 * (N3 + 1) := by have h1 := HN.out.1; have h2 := HN.out.2; omega
          have V3 : N3 + 1 ≤ m := root_small HV.out
          have hL := fun W (h1 : GN W (w.heap.size + 1 + 1) N1) (h2 : GA W w2.heap.size 0 N2) => gLower (w.heap.size + 1 + 1) w2.heap.size 0 N1 N2 W hl1 (by omega) (by omega) h1 h2
          have HOD : Hid (pad (limbs (N3 + 1)) = (pad (limbs N3)).set 0 ((limbs N3).getD 0 0 + 1) ∧ ((limbs (N3 + 1)).length : Int) = max ((limbs N3).length : Int) 1) := by have := odd_limbs r; rw [HN.out.2] at this; exact this
          clear V1 V2 hcl hcg hlt
          go_wp2_with fail
          refine kO.mono ?_
          rintro e w6 ⟨rfl, b6⟩
          have g6 := GN.below g5 b6 (GN.lt g5)
          have S6 := GN.below S5 b6 (GN.lt S5)
          have T6 := GN.below T5 b6 (GN.lt T5)
          have A6 := A5.below b6 A5.lt
          have R6 := R5.below b6 R5.lt
          have B6 := B5.trans (b6.mono hbs5)
          have hbs6 := B6.size
          clear kO S5 T5 A5 R5 B5 g5 b6
          go_wp2_with fail
          refine (hL w6 S6 (GN.ga T6 hl2)).mono ?_
          rintro e w7 ⟨rfl, S7, t7, -⟩
          have g7 := GN.tn g6 t7 (by simp)
          have A7 := A6.tn t7 (by simp; omega)
          have R7 := R6.tn t7 (by simp; omega)
          have B7 := t7.below B6 hbs6 (by simp; omega)
          have c0 := GB.word g7 0 (by omega)
          rw [pad_getD] at c0
          have c98 := GB.size g7
          have f0 := GB.free g7 0
          have f98 := GB.free g7 98
          have gx := inR_getD (limbs_inR N3) 0
          have HG7 : Hid (GN w7 (w.heap.size + 1) N3 ∧ GN w7 (w.heap.size + 1 + 1) (N1 - N2) ∧ GA w7 a oa m ∧ GB w7 w.heap.size (List.replicate 98 0) 0 ∧ Below w.heap.size w w7) := ⟨g7, S7, A7, R7, B7⟩
          obtain ⟨x, hx⟩ : ∃ x, (limbs N3).getD 0 0 = x := ⟨_, rfl⟩
          rw [hx] at c0 gx HOD
          obtain ⟨gx0, gx1⟩ := gx
          obtain ⟨L3, hL3⟩ : ∃ L, (limbs N3).length = L := ⟨_, rfl⟩
          have HL3 : Hid ((limbs N3).length = L3) := hL3
          rw [hL3] at c98 HOD
          clear hL g6 S6 T6 A6 R6 B6 t7 g7 S7 A7 R7 B7 hx hL3
          have fin : ∀ K : Int, K = max (L3 : Int) 1 → GN ((w7.setCell ⟨w.heap.size + 1, 0, none⟩ (.int .u32 (x + 1))).setCell ⟨w.heap.size + 1, 98, none⟩ (.int .i64 K)) (w.heap.size + 1) (N3 + 1) ∧ GN ((w7.setCell ⟨w.heap.size + 1, 0, none⟩ (.int .u32 (x + 1))).setCell ⟨w.heap.size + 1, 98, none⟩ (.int .i64 K)) (w.heap.size + 1 + 1) (N1 - N2) ∧ GA ((w7.setCell ⟨w.heap.size + 1, 0, none⟩ (.int .u32 (x + 1))).setCell ⟨w.heap.size + 1, 98, none⟩ (.int .i64 K)) a oa m ∧ GB ((w7.setCell ⟨w.heap.size + 1, 0, none⟩ (.int .u32 (x + 1))).setCell ⟨w.heap.size + 1, 98, none⟩ (.int .i64 K)) w.heap.size (List.replicate 98 0) 0 ∧ Below w.heap.size w ((w7.setCell ⟨w.heap.size + 1, 0, none⟩ (.int .u32 (x + 1))).setCell ⟨w.heap.size + 1, 98, none⟩ (.int .i64 K)) := fun K hK => by
            have TT : Tn [w.heap.size + 1] w7 ((w7.setCell ⟨w.heap.size + 1, 0, none⟩ (.int .u32 (x + 1))).setCell ⟨w.heap.size + 1, 98, none⟩ (.int .i64 K)) := ((Tn.refl _ w7).cell _ (by simp) _).cell _ (by simp) _
            obtain ⟨q1, q2, q3, q4, q5⟩ := HG7.out
            refine ⟨?_, GN.tn q2 TT (by simp), q3.tn TT (by simp; omega), q4.tn TT (by simp), TT.below q5 q5.size (by simp)⟩
            unfold GN
            rw [HOD.out.1, HOD.out.2, ← hK]
            exact (GB.setW q1 0 (by omega) (x + 1)).setK K
          have FIN : Hid (∀ K : Int, K = max (L3 : Int) 1 → _) := fin
          clear fin
          by_cases hz : L3 = 0
          · have HZ := FIN.out 1 (by omega)
            subst hz
            go_wp2
            go_roundw
            case rel => exact ⟨t, N3 + 1, N1 - N2, by omega, rfl, HV, V2', V3, HZ.1, HZ.2.1, HZ.2.2.1, HZ.2.2.2.1, HZ.2.2.2.2⟩
            case measure => simp [intOf]
          · have HZ := FIN.out L3 (by omega)
            go_wp2
            go_roundw
            case rel => exact ⟨t, N3 + 1, N1 - N2, by omega, rfl, HV, V2', V3, HZ.1, HZ.2.1, HZ.2.2.1, HZ.2.2.2.1, HZ.2.2.2.2⟩
            case measure => simp [intOf]
  · rintro a' wr ⟨v5, u6, u7, u8, u9, u10, u11, u12, u13, u14, u15, u16, u17, u18, u19, u20, u21, u22, u23, u24, u25, u26, u27, u28, u29, u30, u31, u32, u33, u34, u35, u36, u37, u38, u39, u40, u41, u42, u43, rfl, p0, r0, s0, hp2, rfl, I0, I1, I2, g1, g2, hA, hR, hB⟩
    have hp01 : p0 ≤ 24 * 96 := by omega
    clear T0 S0 R0 B0 kB
    go_wp2
    go_loopw [5] (fun v5 wr => ∃ (p r s : Nat), p ≤ p0 ∧ v5 = .int .i64 p ∧ Hid (r * r + s = m / 2 ^ (2 * p)) ∧ s ≤ 2 * r ∧ r ≤ m ∧ GN wr (w.heap.size + 1) r ∧ GN wr (w.heap.size + 1 + 1) s ∧ GA wr a oa m ∧ GB wr w.heap.size (List.replicate 98 0) 0 ∧ Below w.heap.size w wr) (fun v5 _ => (intOf v5).toNat)
    case atStart => exact ⟨p0, r0, s0, Nat.le_refl _, by go_num, I0, I1, I2, g1, g2, hA, hR, hB⟩
    case round =>
      clear g1 g2 hA hR hB I0 I1 I2
      obtain ⟨p, r, s, hp, rfl, HI, hs, hrm, g1, g2, hA, hR, hB⟩ := hrel
      have hlr := limbs_mono (m := m) (n := r) hrm
      by_cases h0 : p = 0
      · subst h0
        have hI : r * r + s = m := by have := HI.out; simpa using this
        have hiq : r = isqrt m := isqrt_unique (by omega) (by have : (r + 1) * (r + 1) = r * r + 2 * r + 1 := (by grind); omega)
        have HQ : Hid (r = isqrt m) := hiq
        have A1 := GN.ga g1 (by omega)
        have hbs := hB.size
        clear hI hiq HI
        go_wp2_with (first | ((with_reducible (refine wpL_id ?_)); refine wpA_load rfl (.tmp 3) rfl (w.heap.size + 1) 0 r rfl A1 ?_) | ((with_reducible (refine wpL_id ?_)); refine wpN_store rfl (.tmp 2) (.tmp 43) rfl w.heap.size _ _ r rfl rfl hR (by omega) ?_; intro w6 g6 t6 s6))
        (try simp only [Exit.inBlock, Exit.then, Exit.jump])
        (try rw [Exit.noGoto_ret])
        refine bodyPost_ret (v := .agg (gC (isqrt m))) ?_ rfl ⟨rfl, t6.below hB hbs (by simp)⟩
        rw [← HQ.out]
        exact results_great rfl _ _ w.heap.size _ _ rfl g6
      · obtain ⟨t, rfl⟩ : ∃ t, p = t + 1 := ⟨p - 1, by omega⟩
        obtain ⟨IV1, IV2⟩ := root_inv HI.out hs
        have k1 := gBit a oa m (2 * t + 1) wr (by omega) hA
        have k0 := gBit a oa m (2 * t) wr (by omega) hA
        have x1b : m / 2 ^ (2 * t + 1) % 2 < 2 := Nat.mod_lt _ (by omega)
        have x0b : m / 2 ^ (2 * t) % 2 < 2 := Nat.mod_lt _ (by omega)
        have hcast1 : ((2 * t + 1 : Nat) : Int) = 2 * (t : Int) + 1 := by omega
        have hcast0 : ((2 * t : Nat) : Int) = 2 * (t : Int) := by omega
        rw [hcast1] at k1
        rw [hcast0] at k0
        generalize m / 2 ^ (2 * t + 1) % 2 = x1 at *
        generalize m / 2 ^ (2 * t) % 2 = x0 at *
        obtain ⟨lo, hlo⟩ : ∃ lo, 2 * x1 + x0 = lo := ⟨_, rfl⟩
        have HLO : Hid ((2 : Int) * (x1 : Int) + (x0 : Int) = (lo : Int)) := by show _ = _; omega
        have hlo4 : lo < 4 := by omega
        rw [hlo] at IV1 IV2
        have hlor : (limbs s).length ≤ 97 := by
          have q := add_limbs r r 96 (by omega) (by omega)
          have := limbs_mono (m := r + r) (n := s) (by omega)
          omega
        have kE := fun N hN => gEnter (w.heap.size + 1 + 1) s 2 lo N wr (.inr rfl) hlo4 hN hlor g2
        have hpos : (0 : Int) < ((t + 1 : Nat) : Int) := by omega
        have hbs := hB.size
        have h3 := GN.lt g2
        obtain ⟨N1, hN1⟩ : ∃ N, s * 2 ^ 2 + lo = N := ⟨_, rfl⟩
        have kE := kE N1 hN1.symm
        rw [show ((2 : Nat) : Int) = 2 from rfl] at kE
        have hN1' : 4 * s + lo = N1 := by omega
        rw [hN1'] at IV1 IV2
        have HIV : Hid ((N1 < 4 * r + 1 → 2 * r * (2 * r) + N1 = m / 2 ^ (2 * t) ∧ N1 ≤ 2 * (2 * r)) ∧ (4 * r + 1 ≤ N1 → (2 * r + 1) * (2 * r + 1) + (N1 - (4 * r + 1)) = m / 2 ^ (2 * t) ∧ N1 - (4 * r + 1) ≤ 2 * (2 * r + 1))) := ⟨IV1, IV2⟩
        have hN1b : N1 ≤ 4 * s + 3 := by omega
        clear IV1 IV2 hN1 hN1' hcast1 hcast0 HI hlo
        go_wp2_with fail
        refine k1.mono ?_
        rintro e wr ⟨rfl, rfl⟩
        go_wp2_with fail
        refine k0.mono ?_
        rintro e wr ⟨rfl, rfl⟩
        go_wp2_with fail
        rw [HLO.out]
        refine kE.mono ?_
        rintro e w2 ⟨rfl, g2', t2, z2⟩
        have G1 := GN.tn g1 t2 (by simp)
        have hA2 := hA.tn t2 (by simp; omega)
        have R2 := hR.tn t2 (by simp; omega)
        have B2 := t2.below hB hbs (by simp; omega)
        have hlr96 : (limbs r).length ≤ 96 := by omega
        have A2r := GN.ga G1 (by omega)
        have P0 := GB.made0 w2
        have A3r := A2r.below (alloc_below w2 (.cells Try.zeroCells97 97)) A2r.lt
        have G1a := G1.alloc (.cells Try.zeroCells97 97)
        have g2a := GN.alloc g2' (.cells Try.zeroCells97 97)
        have hA3 := hA2.below (alloc_below w2 (.cells Try.zeroCells97 97)) hA2.lt
        have R3 := R2.alloc (.cells Try.zeroCells97 97)
        have B3 := B2.alloc B2.size (.cells Try.zeroCells97 97)
        have hsz2 : w.heap.size + 1 + 1 < w2.heap.size := by omega
        clear g1 g2 hA hR hB k1 k0 kE t2 G1 g2' hA2 R2 B2 z2 h3
        go_wp2_with (first
          | (go_at_call 124; fail)
          | ((with_reducible (refine wpL_id ?_)); refine wpA_load rfl (.tmp 3) rfl (w.heap.size + 1) 0 r rfl A2r ?_)
          | ((with_reducible (refine wpL_id ?_)); refine wpN_store rfl (.tmp 6) (.tmp 27) rfl w2.heap.size _ _ r rfl rfl P0 (by omega) ?_; intro w3 g3 t3 z3))
        clear z3
        have G3 := GN.tn G1a t3 (by simp; omega)
        have S3 := GN.tn g2a t3 (by simp; omega)
        have A3 := hA3.tn t3 (by simp; omega)
        have R3' := R3.tn t3 (by simp; omega)
        have B3' := t3.below B3 B3.size (by simp; omega)
        have hbs3 := B3'.size
        obtain ⟨N2, hN2⟩ : ∃ N, r * 2 ^ 2 + 1 = N := ⟨_, rfl⟩
        obtain ⟨N3, hN3⟩ : ∃ N, r * 2 ^ 1 + 0 = N := ⟨_, rfl⟩
        have hN2' : 4 * r + 1 = N2 := by omega
        have hN3' : 2 * r = N3 := by omega
        have kT := gEnter w2.heap.size r 2 1 N2 w3 (.inr rfl) (by omega) hN2.symm (by omega) g3
        rw [show ((2 : Nat) : Int) = 2 from rfl, show ((1 : Nat) : Int) = 1 from rfl] at kT
        have HN : Hid (4 * r + 1 = N2 ∧ 2 * r = N3) := ⟨hN2', hN3'⟩
        have hN3e := hN3.symm
        have hl2 : (limbs N2).length ≤ 98 := limbs_four (s := r) (by omega) (by omega)
        have hl1 : (limbs N1).length ≤ 98 := limbs_four hlor hN1b
        clear hN2 hN2' hN3' P0 A2r A3r G1a g2a hA3 R3 B3 t3
        refine kT.mono ?_
        rintro e w4 ⟨rfl, g4, t4, -⟩
        have G4 := GN.tn G3 t4 (by simp; omega)
        have S4 := GN.tn S3 t4 (by simp; omega)
        have A4 := A3.tn t4 (by simp; omega)
        have R4 := R3'.tn t4 (by simp; omega)
        have B4 := t4.below B3' hbs3 (by simp; omega)
        have kR := gEnter (w.heap.size + 1) r 1 0 N3 w4 (.inl rfl) (by omega) hN3e (by omega) G4
        rw [show ((1 : Nat) : Int) = 1 from rfl, show ((0 : Nat) : Int) = 0 from rfl] at kR
        clear kT G3 S3 A3 R3' B3' t4 g3 hN3 hN3e
        go_wp2_with fail
        refine kR.mono ?_
        rintro e w5 ⟨rfl, g5, t5, -⟩
        have T5 := GN.tn g4 t5 (by simp; omega)
        have S5 := GN.tn S4 t5 (by simp)
        have A5 := A4.tn t5 (by simp; omega)
        have R5 := R4.tn t5 (by simp)
        have B5 := t5.below B4 B4.size (by simp)
        have kO := gOrder (w.heap.size + 1 + 1) 0 w2.heap.size 0 N1 N2 w5 (GN.ga S5 hl1) (GN.ga T5 hl2)
        obtain ⟨c, hc⟩ : ∃ c, cmpI N1 N2 = c := ⟨_, rfl⟩
        have hcl := @cmpI_lt N1 N2
        have hcg := @cmpI_ge N1 N2
        rw [hc] at kO hcl hcg
        have hbs5 := B5.size
        clear kR G4 S4 A4 R4 B4 t5 g4 hc
        by_cases hlt : N1 < N2
        · have hc0 : c < 0 := hcl hlt
          have hcd : decide (c < 0) = true := decide_eq_true hc0
          obtain ⟨V1, V2⟩ := HIV.out.1 (by have := HN.out.1; omega)
          have HV : Hid (N3 * N3 + N1 = m / 2 ^ (2 * t)) := by show _ = _; rw [← HN.out.2]; exact V1
          have V2' : N1 ≤ 2 * N3 := by have := HN.out.2; omega
          have V3 : N3 ≤ m := root_small HV.out
          clear V1 V2 hcl hcg hlt
          go_wp2_with fail
          refine kO.mono ?_
          rintro e w6 ⟨rfl, b6⟩
          have g6 := GN.below g5 b6 (GN.lt g5)
          have S6 := GN.below S5 b6 (GN.lt S5)
          have A6 := A5.below b6 A5.lt
          have R6 := R5.below b6 R5.lt
          have B6 := B5.trans (b6.mono hbs5)
          clear kO S5 T5 A5 R5 B5 g5 b6
          go_wp2
          go_step3
          (try simp only [Exit.inBlock, Exit.then, Exit.jump])
          exact ⟨rfl, ⟨_, _, _, _, _, _, _, _, _, _, _, _, _, _, _, _, _, _, _, _, _, _, _, _, _, _, _, _, _, _, _, _, _, _, _, _, _, _, _, rfl, t, N3, N1, by omega, rfl, HV, V2', V3, g6, S6, A6, R6, B6⟩, by simp [intOf]; omega⟩
        · have hc0 : ¬ c < 0 := by have := hcg (by omega); omega
          have hcd : decide (c < 0) = false := decide_eq_false hc0
          obtain ⟨V1, V2⟩ := HIV.out.2 (by have := HN.out.1; omega)
          have HV : Hid ((N3 + 1) * (N3 + 1) + (N1 - N2) = m / 2 ^ (2 * t)) := by show _ = _; rw [← HN.out.2, ← HN.out.1]; exact V1
          have V2' : N1 - N2 ≤ 2 * (N3 + 1) := by have h1 := HN.out.1; have h2 := HN.out.2; omega
          have V3 : N3 + 1 ≤ m := root_small HV.out
          have hL := fun W (h1 : GN W (w.heap.size + 1 + 1) N1) (h2 : GA W w2.heap.size 0 N2) => gLower (w.heap.size + 1 + 1) w2.heap.size 0 N1 N2 W hl1 (by omega) (by omega) h1 h2
          have HOD : Hid (pad (limbs (N3 + 1)) = (pad (limbs N3)).set 0 ((limbs N3).getD 0 0 + 1) ∧ ((limbs (N3 + 1)).length : Int) = max ((limbs N3).length : Int) 1) := by have := odd_limbs r; rw [HN.out.2] at this; exact this
          clear V1 V2 hcl hcg hlt
          go_wp2_with fail
          refine kO.mono ?_
          rintro e w6 ⟨rfl, b6⟩
          have g6 := GN.below g5 b6 (GN.lt g5)
          have S6 := GN.below S5 b6 (GN.lt S5)
          have T6 := GN.below T5 b6 (GN.lt T5)
          have A6 := A5.below b6 A5.lt
          have R6 := R5.below b6 R5.lt
          have B6 := B5.trans (b6.mono hbs5)
          have hbs6 := B6.size
          clear kO S5 T5 A5 R5 B5 g5 b6
          go_wp2_with fail
          refine (hL w6 S6 (GN.ga T6 hl2)).mono ?_
          rintro e w7 ⟨rfl, S7, t7, -⟩
          have g7 := GN.tn g6 t7 (by simp)
          have A7 := A6.tn t7 (by simp; omega)
          have R7 := R6.tn t7 (by simp; omega)
          have B7 := t7.below B6 hbs6 (by simp; omega)
          have c0 := GB.word g7 0 (by omega)
          rw [pad_getD] at c0
          have c98 := GB.size g7
          have f0 := GB.free g7 0
          have f98 := GB.free g7 98
          have gx := inR_getD (limbs_inR N3) 0
          have HG7 : Hid (GN w7 (w.heap.size + 1) N3 ∧ GN w7 (w.heap.size + 1 + 1) (N1 - N2) ∧ GA w7 a oa m ∧ GB w7 w.heap.size (List.replicate 98 0) 0 ∧ Below w.heap.size w w7) := ⟨g7, S7, A7, R7, B7⟩
          obtain ⟨x, hx⟩ : ∃ x, (limbs N3).getD 0 0 = x := ⟨_, rfl⟩
          rw [hx] at c0 gx HOD
          obtain ⟨gx0, gx1⟩ := gx
          obtain ⟨L3, hL3⟩ : ∃ L, (limbs N3).length = L := ⟨_, rfl⟩
          have HL3 : Hid ((limbs N3).length = L3) := hL3
          rw [hL3] at c98 HOD
          clear hL g6 S6 T6 A6 R6 B6 t7 g7 S7 A7 R7 B7 hx hL3
          have fin : ∀ K : Int, K = max (L3 : Int) 1 → GN ((w7.setCell ⟨w.heap.size + 1, 0, none⟩ (.int .u32 (x + 1))).setCell ⟨w.heap.size + 1, 98, none⟩ (.int .i64 K)) (w.heap.size + 1) (N3 + 1) ∧ GN ((w7.setCell ⟨w.heap.size + 1, 0, none⟩ (.int .u32 (x + 1))).setCell ⟨w.heap.size + 1, 98, none⟩ (.int .i64 K)) (w.heap.size + 1 + 1) (N1 - N2) ∧ GA ((w7.setCell ⟨w.heap.size + 1, 0, none⟩ (.int .u32 (x + 1))).setCell ⟨w.heap.size + 1, 98, none⟩ (.int .i64 K)) a oa m ∧ GB ((w7.setCell ⟨w.heap.size + 1, 0, none⟩ (.int .u32 (x + 1))).setCell ⟨w.heap.size + 1, 98, none⟩ (.int .i64 K)) w.heap.size (List.replicate 98 0) 0 ∧ Below w.heap.size w ((w7.setCell ⟨w.heap.size + 1, 0, none⟩ (.int .u32 (x + 1))).setCell ⟨w.heap.size + 1, 98, none⟩ (.int .i64 K)) := fun K hK => by
            have TT : Tn [w.heap.size + 1] w7 ((w7.setCell ⟨w.heap.size + 1, 0, none⟩ (.int .u32 (x + 1))).setCell ⟨w.heap.size + 1, 98, none⟩ (.int .i64 K)) := ((Tn.refl _ w7).cell _ (by simp) _).cell _ (by simp) _
            obtain ⟨q1, q2, q3, q4, q5⟩ := HG7.out
            refine ⟨?_, GN.tn q2 TT (by simp), q3.tn TT (by simp; omega), q4.tn TT (by simp), TT.below q5 q5.size (by simp)⟩
            unfold GN
            rw [HOD.out.1, HOD.out.2, ← hK]
            exact (GB.setW q1 0 (by omega) (x + 1)).setK K
          have FIN : Hid (∀ K : Int, K = max (L3 : Int) 1 → _) := fin
          clear fin
          by_cases hz : L3 = 0
          · have HZ := FIN.out 1 (by omega)
            subst hz
            go_wp2
            go_roundw
            case rel => exact ⟨t, N3 + 1, N1 - N2, by omega, rfl, HV, V2', V3, HZ.1, HZ.2.1, HZ.2.2.1, HZ.2.2.2.1, HZ.2.2.2.2⟩
            case measure => simp [intOf]
          · have HZ := FIN.out L3 (by omega)
            go_wp2
            go_roundw
            case rel => exact ⟨t, N3 + 1, N1 - N2, by omega, rfl, HV, V2', V3, HZ.1, HZ.2.1, HZ.2.2.1, HZ.2.2.2.1, HZ.2.2.2.2⟩
            case measure => simp [intOf]

end Go.Proofs.Ytlpfjpbnedankaa
