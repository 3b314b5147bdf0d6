/- Several small texts in one: GRoot, RootM, GRootB, RootedB, SRoot, RootS. -/
import Derived.Test.YtmbopjjpepbgkaaGB
import Derived.WalkMore
import Derived.ScopeJumps
import Derived.Test.YtmbopjjpepbgkaaRoundM
import Derived.Test.YtmbopjjpepbgkaaGAt
import Derived.Test.YtmbopjjpepbgkaaSpans
import Derived.Test.YtmbopjjpepbgkaaBRound
import Derived.Test.YtmbopjjpepbgkaaSgShift
import Derived.Test.YtmbopjjpepbgkaaBase
import Derived.Test.YtmbopjjpepbgkaaOne
import Derived.Test.YtmbopjjpepbgkaaSB
import Derived.Test.YtmbopjjpepbgkaaVB
/- The program's root, by its contract. -/
namespace Go.Proofs.Ytmbopjjpepbgkaa
open Go.RowKit
set_option linter.unusedSimpArgs false

theorem four_step (m p : Nat) : m / 2 ^ (2 * p) = 4 * (m / 2 ^ (2 * (p + 1))) + (2 * (m / 2 ^ (2 * p + 1) % 2) + m / 2 ^ (2 * p) % 2) := by
  have h1 := bit_next m (2 * p)
  have h2 := bit_next m (2 * p + 1)
  rw [show 2 * (p + 1) = 2 * p + 1 + 1 by omega]
  omega
theorem odd_limbs (r : Nat) : pad (limbs (2 * r + 1)) = (pad (limbs (2 * r))).set 0 ((limbs (2 * r)).getD 0 0 + 1) ∧ ((limbs (2 * r + 1)).length : Int) = max ((limbs (2 * r)).length : Int) 1 := by
  by_cases h : r = 0
  · subst h
    rw [show 2 * 0 = 0 by rfl, limbs_zero, limbs_pos (0 + 1) (by omega)]
    rw [show (0 + 1) / 16777216 = 0 by rfl, limbs_zero]
    exact ⟨rfl, rfl⟩
  · rw [limbs_pos (2 * r) (by omega), limbs_pos (2 * r + 1) (by omega)]
    have e1 : (2 * r + 1) / 16777216 = 2 * r / 16777216 := by omega
    have e2 : (2 * r + 1) % 16777216 = 2 * r % 16777216 + 1 := by omega
    rw [e1, e2]
    refine ⟨?_, by simp; omega⟩
    unfold pad
    simp
theorem root_inv {m p r s : Nat} (h : r * r + s = m / 2 ^ (2 * (p + 1))) (hs : s ≤ 2 * r) :
    (4 * s + (2 * (m / 2 ^ (2 * p + 1) % 2) + m / 2 ^ (2 * p) % 2) < 4 * r + 1 → (2 * r) * (2 * r) + (4 * s + (2 * (m / 2 ^ (2 * p + 1) % 2) + m / 2 ^ (2 * p) % 2)) = m / 2 ^ (2 * p) ∧ 4 * s + (2 * (m / 2 ^ (2 * p + 1) % 2) + m / 2 ^ (2 * p) % 2) ≤ 2 * (2 * r)) ∧
    (4 * r + 1 ≤ 4 * s + (2 * (m / 2 ^ (2 * p + 1) % 2) + m / 2 ^ (2 * p) % 2) → (2 * r + 1) * (2 * r + 1) + (4 * s + (2 * (m / 2 ^ (2 * p + 1) % 2) + m / 2 ^ (2 * p) % 2) - (4 * r + 1)) = m / 2 ^ (2 * p) ∧ 4 * s + (2 * (m / 2 ^ (2 * p + 1) % 2) + m / 2 ^ (2 * p) % 2) - (4 * r + 1) ≤ 2 * (2 * r + 1)) := by
  have e := four_step m p
  rw [← h] at e
  have q1 : 2 * r * (2 * r) = 4 * (r * r) := by grind
  have q2 : (2 * r + 1) * (2 * r + 1) = 4 * (r * r) + 4 * r + 1 := by grind
  rw [q1, q2]
  have b1 : m / 2 ^ (2 * p + 1) % 2 < 2 := Nat.mod_lt _ (by omega)
  have b0 : m / 2 ^ (2 * p) % 2 < 2 := Nat.mod_lt _ (by omega)
  generalize m / 2 ^ (2 * p + 1) % 2 = x1 at *
  generalize m / 2 ^ (2 * p) % 2 = x0 at *
  generalize r * r = rr at *
  generalize m / 2 ^ (2 * p) = mm at *
  omega
theorem limbs_four {s n : Nat} (h : (limbs s).length ≤ 97) (hn : n ≤ 4 * s + 3) : (limbs n).length ≤ 98 := by
  refine limbs_len_le n 98 ?_
  have h1 := limbs_lt s
  have h2 := Nat.pow_le_pow_right (by omega : 0 < 16777216) h
  have e : (16777216 : Nat) ^ 98 = 16777216 ^ 97 * 16777216 := rfl
  omega
theorem root_small {m p r s : Nat} (h : r * r + s = m / 2 ^ p) : r ≤ m := by
  have h1 : m / 2 ^ p ≤ m := Nat.div_le_self _ _
  by_cases h0 : r = 0
  · omega
  · have := Nat.le_mul_of_pos_right r (Nat.pos_of_ne_zero h0)
    omega

set_option maxRecDepth 200000 in
set_option maxHeartbeats 3200000 in
/-- root: rounded down. -/
theorem gRoot (a oa m : Nat) (w : World) (hl : (limbs m).length ≤ 96) (ha : GA w a oa m) :
    Calls Try.prog 67 #[.pointer (some ⟨a, oa, none⟩)] w fun e w' => e = .returned (.agg (gC (isqrt m))) ∧ Below w.heap.size w w' := by
  have R0 := ((GB.made0 w).alloc (.cells Try.zeroCells58 58)).alloc (.cells Try.zeroCells58 58)
  have T0 := (GB.made0 (w.alloc (.cells Try.zeroCells58 58))).alloc (.cells Try.zeroCells58 58)
  have S0 := GB.made0 ((w.alloc (.cells Try.zeroCells58 58)).alloc (.cells Try.zeroCells58 58))
  have s1 : (w.alloc (.cells Try.zeroCells58 58)).heap.size = w.heap.size + 1 := by simp
  have s2 : ((w.alloc (.cells Try.zeroCells58 58)).alloc (.cells Try.zeroCells58 58)).heap.size = w.heap.size + 1 + 1 := by simp
  have B0 : Below w.heap.size w (((w.alloc (.cells Try.zeroCells58 58)).alloc (.cells Try.zeroCells58 58)).alloc (.cells Try.zeroCells58 58)) := (((Below.refl w.heap.size w).alloc (Nat.le_refl _) _).alloc (by simp) _).alloc (by simp; omega) _
  rw [s1] at T0
  rw [s2] at S0
  have hna : a < w.heap.size := ha.lt
  have hA := ha.below B0 hna
  have kB := fun W h => gBits a oa m W h
  have hnb : nbits m ≤ 24 * 96 := by
    have := nbits_le_pow (24 * (limbs m).length) m (by rw [← base_pow]; exact limbs_lt m)
    omega
  clear s1 s2 ha
  go_enter Try.func67, Try.ntmps67
  go_wp2
  refine wp_scope_jumps 0 (fun a' wr => ∃ (v5 u6 u7 u8 u9 u10 u11 u12 u13 u14 u15 u16 u17 u18 u19 u20 u21 u22 u23 u24 u25 u26 u27 u28 u29 u30 u31 u32 u33 u34 u35 u36 u37 u38 u39 u40 u41 u42 u43 : Value), a' = { tmps := #[.pointer (some ⟨a, oa, none⟩), undef, .pointer (some ⟨w.heap.size, 0, none⟩), .pointer (some ⟨w.heap.size + 1, 0, none⟩), .pointer (some ⟨w.heap.size + 1 + 1, 0, none⟩), v5, u6, u7, u8, u9, u10, u11, u12, u13, u14, u15, u16, u17, u18, u19, u20, u21, u22, u23, u24, u25, u26, u27, u28, u29, u30, u31, u32, u33, u34, u35, u36, u37, u38, u39, u40, u41, u42, u43], defers := [] } ∧ ∃ (p r s : Nat), 2 * p ≤ nbits m + 1 ∧ v5 = .int .i64 p ∧ Hid (r * r + s = m / 2 ^ (2 * p)) ∧ s ≤ 2 * r ∧ r ≤ m ∧ GN wr (w.heap.size + 1) r ∧ GN wr (w.heap.size + 1 + 1) s ∧ GA wr a oa m ∧ GB wr w.heap.size (List.replicate 98 0) 0 ∧ Below w.heap.size w wr) (fun a' _ => (intOf (a'.tmps.getD 5 undef)).toNat) rfl ?_ ?_
  · go_wp2_with fail
    refine (kB _ hA).mono ?_
    rintro e w1 ⟨rfl, b1⟩
    generalize ((w.alloc (.cells Try.zeroCells58 58)).alloc (.cells Try.zeroCells58 58)).alloc (.cells Try.zeroCells58 58) = w0 at *
    go_wp2
    go_step3
    obtain ⟨p0, hp0⟩ : ∃ p, (nbits m + 1) / 2 = p := ⟨_, rfl⟩
    have hp0i : ((nbits m : Int) + 1) / 2 = (p0 : Int) := by omega
    have hp01 : p0 ≤ 24 * 96 := by omega
    rw [hp0i]
    have g1 : GN w1 (w.heap.size + 1) 0 := by unfold GN; rw [pad_zero, limbs_zero]; exact T0.below b1 T0.lt
    have g2 : GN w1 (w.heap.size + 1 + 1) 0 := by unfold GN; rw [pad_zero, limbs_zero]; exact S0.below b1 S0.lt
    have hA := hA.below b1 hA.lt
    have hR := R0.below b1 R0.lt
    have hB := B0.trans (b1.mono B0.size)
    have I0 : Hid (0 * 0 + 0 = m / 2 ^ (2 * p0)) := by
      show _ = _
      have h1 := lt_nbits m
      have h2 := Nat.pow_le_pow_right (by omega : 0 < 2) (show nbits m ≤ 2 * p0 by omega)
      rw [Nat.div_eq_of_lt (by omega)]
    have I1 : (0 : Nat) ≤ 2 * 0 := by omega
    have I2 : 0 ≤ m := Nat.zero_le _
    have hp2 : 2 * p0 ≤ nbits m + 1 := by omega
    clear hp0 hp0i T0 S0 R0 B0 b1 kB
    go_wp2
    go_loopw [5] (fun v5 wr => ∃ (p r s : Nat), p ≤ p0 ∧ v5 = .int .i64 p ∧ Hid (r * r + s = m / 2 ^ (2 * p)) ∧ s ≤ 2 * r ∧ r ≤ m ∧ GN wr (w.heap.size + 1) r ∧ GN wr (w.heap.size + 1 + 1) s ∧ GA wr a oa m ∧ GB wr w.heap.size (List.replicate 98 0) 0 ∧ Below w.heap.size w wr) (fun v5 _ => (intOf v5).toNat)
    case atStart => exact ⟨p0, 0, 0, Nat.le_refl _, by go_num, I0, I1, I2, g1, g2, hA, hR, hB⟩
    case round =>
      clear g1 g2 hA hR hB I0 I1 I2
      obtain ⟨p, r, s, hp, rfl, HI, hs, hrm, g1, g2, hA, hR, hB⟩ := hrel
      have hlr := limbs_mono (m := m) (n := r) hrm
      by_cases h0 : p = 0
      · subst h0
        have hI : r * r + s = m := by have := HI.out; simpa using this
        have hiq : r = isqrt m := isqrt_unique (by omega) (by have : (r + 1) * (r + 1) = r * r + 2 * r + 1 := (by grind); omega)
        have HQ : Hid (r = isqrt m) := hiq
        have A1 := GN.ga g1 (by omega)
        have hbs := hB.size
        clear hI hiq HI
        go_wp2_with (first | ((with_reducible (refine wpL_id ?_)); refine wpA_load rfl (.tmp 3) rfl (w.heap.size + 1) 0 r rfl A1 ?_) | ((with_reducible (refine wpL_id ?_)); refine wpN_store rfl (.tmp 2) (.tmp 43) rfl w.heap.size _ _ r rfl rfl hR (by omega) ?_; intro w6 g6 t6 s6))
        (try simp only [Exit.inBlock, Exit.then, Exit.jump])
        (try rw [Exit.noGoto_ret])
        refine bodyPost_ret (v := .agg (gC (isqrt m))) ?_ rfl ⟨rfl, t6.below hB hbs (by simp)⟩
        rw [← HQ.out]
        exact results_great rfl _ _ w.heap.size _ _ rfl g6
      · obtain ⟨t, rfl⟩ : ∃ t, p = t + 1 := ⟨p - 1, by omega⟩
        obtain ⟨IV1, IV2⟩ := root_inv HI.out hs
        have k1 := gBit a oa m (2 * t + 1) wr (by omega) hA
        have k0 := gBit a oa m (2 * t) wr (by omega) hA
        have x1b : m / 2 ^ (2 * t + 1) % 2 < 2 := Nat.mod_lt _ (by omega)
        have x0b : m / 2 ^ (2 * t) % 2 < 2 := Nat.mod_lt _ (by omega)
        have hcast1 : ((2 * t + 1 : Nat) : Int) = 2 * (t : Int) + 1 := by omega
        have hcast0 : ((2 * t : Nat) : Int) = 2 * (t : Int) := by omega
        rw [hcast1] at k1
        rw [hcast0] at k0
        generalize m / 2 ^ (2 * t + 1) % 2 = x1 at *
        generalize m / 2 ^ (2 * t) % 2 = x0 at *
        obtain ⟨lo, hlo⟩ : ∃ lo, 2 * x1 + x0 = lo := ⟨_, rfl⟩
        have HLO : Hid ((2 : Int) * (x1 : Int) + (x0 : Int) = (lo : Int)) := by show _ = _; omega
        have hlo4 : lo < 4 := by omega
        rw [hlo] at IV1 IV2
        have hlor : (limbs s).length ≤ 97 := by
          have q := add_limbs r r 96 (by omega) (by omega)
          have := limbs_mono (m := r + r) (n := s) (by omega)
          omega
        have kE := fun N hN => gEnter (w.heap.size + 1 + 1) s 2 lo N wr (.inr rfl) hlo4 hN hlor g2
        have hpos : (0 : Int) < ((t + 1 : Nat) : Int) := by omega
        have hbs := hB.size
        have h3 := GN.lt g2
        obtain ⟨N1, hN1⟩ : ∃ N, s * 2 ^ 2 + lo = N := ⟨_, rfl⟩
        have kE := kE N1 hN1.symm
        rw [show ((2 : Nat) : Int) = 2 from rfl] at kE
        have hN1' : 4 * s + lo = N1 := by omega
        rw [hN1'] at IV1 IV2
        have HIV : Hid ((N1 < 4 * r + 1 → 2 * r * (2 * r) + N1 = m / 2 ^ (2 * t) ∧ N1 ≤ 2 * (2 * r)) ∧ (4 * r + 1 ≤ N1 → (2 * r + 1) * (2 * r + 1) + (N1 - (4 * r + 1)) = m / 2 ^ (2 * t) ∧ N1 - (4 * r + 1) ≤ 2 * (2 * r + 1))) := ⟨IV1, IV2⟩
        have hN1b : N1 ≤ 4 * s + 3 := by omega
        clear IV1 IV2 hN1 hN1' hcast1 hcast0 HI hlo
        go_wp2_with fail
        refine k1.mono ?_
        rintro e wr ⟨rfl, rfl⟩
        go_wp2_with fail
        refine k0.mono ?_
        rintro e wr ⟨rfl, rfl⟩
        go_wp2_with fail
        rw [HLO.out]
        refine kE.mono ?_
        rintro e w2 ⟨rfl, g2', t2, z2⟩
        have G1 := GN.tn g1 t2 (by simp)
        have hA2 := hA.tn t2 (by simp; omega)
        have R2 := hR.tn t2 (by simp; omega)
        have B2 := t2.below hB hbs (by simp; omega)
        have hlr96 : (limbs r).length ≤ 96 := by omega
        have A2r := GN.ga G1 (by omega)
        have P0 := GB.made0 w2
        have A3r := A2r.below (alloc_below w2 (.cells Try.zeroCells58 58)) A2r.lt
        have G1a := G1.alloc (.cells Try.zeroCells58 58)
        have g2a := GN.alloc g2' (.cells Try.zeroCells58 58)
        have hA3 := hA2.below (alloc_below w2 (.cells Try.zeroCells58 58)) hA2.lt
        have R3 := R2.alloc (.cells Try.zeroCells58 58)
        have B3 := B2.alloc B2.size (.cells Try.zeroCells58 58)
        have hsz2 : w.heap.size + 1 + 1 < w2.heap.size := by omega
        clear g1 g2 hA hR hB k1 k0 kE t2 G1 g2' hA2 R2 B2 z2 h3
        go_wp2_with (first
          | (go_at_call 92; fail)
          | ((with_reducible (refine wpL_id ?_)); refine wpA_load rfl (.tmp 3) rfl (w.heap.size + 1) 0 r rfl A2r ?_)
          | ((with_reducible (refine wpL_id ?_)); refine wpN_store rfl (.tmp 6) (.tmp 27) rfl w2.heap.size _ _ r rfl rfl P0 (by omega) ?_; intro w3 g3 t3 z3))
        clear z3
        have G3 := GN.tn G1a t3 (by simp; omega)
        have S3 := GN.tn g2a t3 (by simp; omega)
        have A3 := hA3.tn t3 (by simp; omega)
        have R3' := R3.tn t3 (by simp; omega)
        have B3' := t3.below B3 B3.size (by simp; omega)
        have hbs3 := B3'.size
        obtain ⟨N2, hN2⟩ : ∃ N, r * 2 ^ 2 + 1 = N := ⟨_, rfl⟩
        obtain ⟨N3, hN3⟩ : ∃ N, r * 2 ^ 1 + 0 = N := ⟨_, rfl⟩
        have hN2' : 4 * r + 1 = N2 := by omega
        have hN3' : 2 * r = N3 := by omega
        have kT := gEnter w2.heap.size r 2 1 N2 w3 (.inr rfl) (by omega) hN2.symm (by omega) g3
        rw [show ((2 : Nat) : Int) = 2 from rfl, show ((1 : Nat) : Int) = 1 from rfl] at kT
        have HN : Hid (4 * r + 1 = N2 ∧ 2 * r = N3) := ⟨hN2', hN3'⟩
        have hN3e := hN3.symm
        have hl2 : (limbs N2).length ≤ 98 := limbs_four (s := r) (by omega) (by omega)
        have hl1 : (limbs N1).length ≤ 98 := limbs_four hlor hN1b
        clear hN2 hN2' hN3' P0 A2r A3r G1a g2a hA3 R3 B3 t3
        refine kT.mono ?_
        rintro e w4 ⟨rfl, g4, t4, -⟩
        have G4 := GN.tn G3 t4 (by simp; omega)
        have S4 := GN.tn S3 t4 (by simp; omega)
        have A4 := A3.tn t4 (by simp; omega)
        have R4 := R3'.tn t4 (by simp; omega)
        have B4 := t4.below B3' hbs3 (by simp; omega)
        have kR := gEnter (w.heap.size + 1) r 1 0 N3 w4 (.inl rfl) (by omega) hN3e (by omega) G4
        rw [show ((1 : Nat) : Int) = 1 from rfl, show ((0 : Nat) : Int) = 0 from rfl] at kR
        clear kT G3 S3 A3 R3' B3' t4 g3 hN3 hN3e
        go_wp2_with fail
        refine kR.mono ?_
        rintro e w5 ⟨rfl, g5, t5, -⟩
        have T5 := GN.tn g4 t5 (by simp; omega)
        have S5 := GN.tn S4 t5 (by simp)
        have A5 := A4.tn t5 (by simp; omega)
        have R5 := R4.tn t5 (by simp)
        have B5 := t5.below B4 B4.size (by simp)
        have kO := gOrder (w.heap.size + 1 + 1) 0 w2.heap.size 0 N1 N2 w5 (GN.ga S5 hl1) (GN.ga T5 hl2)
        obtain ⟨c, hc⟩ : ∃ c, cmpI N1 N2 = c := ⟨_, rfl⟩
        have hcl := @cmpI_lt N1 N2
        have hcg := @cmpI_ge N1 N2
        rw [hc] at kO hcl hcg
        have hbs5 := B5.size
        clear kR G4 S4 A4 R4 B4 t5 g4 hc
        by_cases hlt : N1 < N2
        · have hc0 : c < 0 := hcl hlt
          have hcd : decide (c < 0) = true := decide_eq_true hc0
          obtain ⟨V1, V2⟩ := HIV.out.1 (by have := HN.out.1; omega)
          have HV : Hid (N3 * N3 + N1 = m / 2 ^ (2 * t)) := by show _ = _; rw [← HN.out.2]; exact V1
          have V2' : N1 ≤ 2 * N3 := by have := HN.out.2; omega
          have V3 : N3 ≤ m := root_small HV.out
          clear V1 V2 hcl hcg hlt
          go_wp2_with fail
          refine kO.mono ?_
          rintro e w6 ⟨rfl, b6⟩
          have g6 := GN.below g5 b6 (GN.lt g5)
          have S6 := GN.below S5 b6 (GN.lt S5)
          have A6 := A5.below b6 A5.lt
          have R6 := R5.below b6 R5.lt
          have B6 := B5.trans (b6.mono hbs5)
          clear kO S5 T5 A5 R5 B5 g5 b6
          go_wp2
          go_step3
          (try simp only [Exit.inBlock, Exit.then, Exit.jump])
          exact ⟨rfl, _, _, _, _, _, _, _, _, _, _, _, _, _, _, _, _, _, _, _, _, _, _, _, _, _, _, _, _, _, _, _, _, _, _, _, _, _, _, _, rfl, t, N3, N1, by omega, rfl, HV, V2', V3, g6, S6, A6, R6, B6⟩
        · have hc0 : ¬ c < 0 := by have := hcg (by omega); omega
          have hcd : decide (c < 0) = false := decide_eq_false hc0
          obtain ⟨V1, V2⟩ := HIV.out.2 (by have := HN.out.1; omega)
          have HV : Hid ((N3 + 1) * (N3 + 1) + (N1 - N2) = m / 2 ^ (2 * t)) := by show _ = _; rw [← HN.out.2, ← HN.out.1]; exact V1
          have V2' : N1 - N2 ≤ 2 * (N3 + 1) := by have h1 := HN.out.1; have h2 := HN.out.2; omega
          have V3 : N3 + 1 ≤ m := root_small HV.out
          have hL := fun W (h1 : GN W (w.heap.size + 1 + 1) N1) (h2 : GA W w2.heap.size 0 N2) => gLower (w.heap.size + 1 + 1) w2.heap.size 0 N1 N2 W hl1 (by omega) (by omega) h1 h2
          have HOD : Hid (pad (limbs (N3 + 1)) = (pad (limbs N3)).set 0 ((limbs N3).getD 0 0 + 1) ∧ ((limbs (N3 + 1)).length : Int) = max ((limbs N3).length : Int) 1) := by have := odd_limbs r; rw [HN.out.2] at this; exact this
          clear V1 V2 hcl hcg hlt
          go_wp2_with fail
          refine kO.mono ?_
          rintro e w6 ⟨rfl, b6⟩
          have g6 := GN.below g5 b6 (GN.lt g5)
          have S6 := GN.below S5 b6 (GN.lt S5)
          have T6 := GN.below T5 b6 (GN.lt T5)
          have A6 := A5.below b6 A5.lt
          have R6 := R5.below b6 R5.lt
          have B6 := B5.trans (b6.mono hbs5)
          have hbs6 := B6.size
          clear kO S5 T5 A5 R5 B5 g5 b6
          go_wp2_with fail
          refine (hL w6 S6 (GN.ga T6 hl2)).mono ?_
          rintro e w7 ⟨rfl, S7, t7, -⟩
          have g7 := GN.tn g6 t7 (by simp)
          have A7 := A6.tn t7 (by simp; omega)
          have R7 := R6.tn t7 (by simp; omega)
          have B7 := t7.below B6 hbs6 (by simp; omega)
          have c0 := GB.word g7 0 (by omega)
          rw [pad_getD] at c0
          have c98 := GB.size g7
          have f0 := GB.free g7 0
          have f98 := GB.free g7 98
          have gx := inR_getD (limbs_inR N3) 0
          have HG7 : Hid (GN w7 (w.heap.size + 1) N3 ∧ GN w7 (w.heap.size + 1 + 1) (N1 - N2) ∧ GA w7 a oa m ∧ GB w7 w.heap.size (List.replicate 98 0) 0 ∧ Below w.heap.size w w7) := ⟨g7, S7, A7, R7, B7⟩
          obtain ⟨x, hx⟩ : ∃ x, (limbs N3).getD 0 0 = x := ⟨_, rfl⟩
          rw [hx] at c0 gx HOD
          obtain ⟨gx0, gx1⟩ := gx
          obtain ⟨L3, hL3⟩ : ∃ L, (limbs N3).length = L := ⟨_, rfl⟩
          have HL3 : Hid ((limbs N3).length = L3) := hL3
          rw [hL3] at c98 HOD
          clear hL g6 S6 T6 A6 R6 B6 t7 g7 S7 A7 R7 B7 hx hL3
          have fin : ∀ K : Int, K = max (L3 : Int) 1 → GN ((w7.setCell ⟨w.heap.size + 1, 0, none⟩ (.int .u32 (x + 1))).setCell ⟨w.heap.size + 1, 98, none⟩ (.int .i64 K)) (w.heap.size + 1) (N3 + 1) ∧ GN ((w7.setCell ⟨w.heap.size + 1, 0, none⟩ (.int .u32 (x + 1))).setCell ⟨w.heap.size + 1, 98, none⟩ (.int .i64 K)) (w.heap.size + 1 + 1) (N1 - N2) ∧ GA ((w7.setCell ⟨w.heap.size + 1, 0, none⟩ (.int .u32 (x + 1))).setCell ⟨w.heap.size + 1, 98, none⟩ (.int .i64 K)) a oa m ∧ GB ((w7.setCell ⟨w.heap.size + 1, 0, none⟩ (.int .u32 (x + 1))).setCell ⟨w.heap.size + 1, 98, none⟩ (.int .i64 K)) w.heap.size (List.replicate 98 0) 0 ∧ Below w.heap.size w ((w7.setCell ⟨w.heap.size + 1, 0, none⟩ (.int .u32 (x + 1))).setCell ⟨w.heap.size + 1, 98, none⟩ (.int .i64 K)) := fun K hK => by
            have TT : Tn [w.heap.size + 1] w7 ((w7.setCell ⟨w.heap.size + 1, 0, none⟩ (.int .u32 (x + 1))).setCell ⟨w.heap.size + 1, 98, none⟩ (.int .i64 K)) := ((Tn.refl _ w7).cell _ (by simp) _).cell _ (by simp) _
            obtain ⟨q1, q2, q3, q4, q5⟩ := HG7.out
            refine ⟨?_, GN.tn q2 TT (by simp), q3.tn TT (by simp; omega), q4.tn TT (by simp), TT.below q5 q5.size (by simp)⟩
            unfold GN
            rw [HOD.out.1, HOD.out.2, ← hK]
            exact (GB.setW q1 0 (by omega) (x + 1)).setK K
          have FIN : Hid (∀ K : Int, K = max (L3 : Int) 1 → _) := fin
          clear fin
          by_cases hz : L3 = 0
          · have HZ := FIN.out 1 (by omega)
            subst hz
            go_wp2
            go_roundw
            case rel => exact ⟨t, N3 + 1, N1 - N2, by omega, rfl, HV, V2', V3, HZ.1, HZ.2.1, HZ.2.2.1, HZ.2.2.2.1, HZ.2.2.2.2⟩
            case measure => simp [intOf]
          · have HZ := FIN.out L3 (by omega)
            go_wp2
            go_roundw
            case rel => exact ⟨t, N3 + 1, N1 - N2, by omega, rfl, HV, V2', V3, HZ.1, HZ.2.1, HZ.2.2.1, HZ.2.2.2.1, HZ.2.2.2.2⟩
            case measure => simp [intOf]
  · rintro a' wr ⟨v5, u6, u7, u8, u9, u10, u11, u12, u13, u14, u15, u16, u17, u18, u19, u20, u21, u22, u23, u24, u25, u26, u27, u28, u29, u30, u31, u32, u33, u34, u35, u36, u37, u38, u39, u40, u41, u42, u43, rfl, p0, r0, s0, hp2, rfl, I0, I1, I2, g1, g2, hA, hR, hB⟩
    have hp01 : p0 ≤ 24 * 96 := by omega
    clear T0 S0 R0 B0 kB
    go_wp2
    go_loopw [5] (fun v5 wr => ∃ (p r s : Nat), p ≤ p0 ∧ v5 = .int .i64 p ∧ Hid (r * r + s = m / 2 ^ (2 * p)) ∧ s ≤ 2 * r ∧ r ≤ m ∧ GN wr (w.heap.size + 1) r ∧ GN wr (w.heap.size + 1 + 1) s ∧ GA wr a oa m ∧ GB wr w.heap.size (List.replicate 98 0) 0 ∧ Below w.heap.size w wr) (fun v5 _ => (intOf v5).toNat)
    case atStart => exact ⟨p0, r0, s0, Nat.le_refl _, by go_num, I0, I1, I2, g1, g2, hA, hR, hB⟩
    case round =>
      clear g1 g2 hA hR hB I0 I1 I2
      obtain ⟨p, r, s, hp, rfl, HI, hs, hrm, g1, g2, hA, hR, hB⟩ := hrel
      have hlr := limbs_mono (m := m) (n := r) hrm
      by_cases h0 : p = 0
      · subst h0
        have hI : r * r + s = m := by have := HI.out; simpa using this
        have hiq : r = isqrt m := isqrt_unique (by omega) (by have : (r + 1) * (r + 1) = r * r + 2 * r + 1 := (by grind); omega)
        have HQ : Hid (r = isqrt m) := hiq
        have A1 := GN.ga g1 (by omega)
        have hbs := hB.size
        clear hI hiq HI
        go_wp2_with (first | ((with_reducible (refine wpL_id ?_)); refine wpA_load rfl (.tmp 3) rfl (w.heap.size + 1) 0 r rfl A1 ?_) | ((with_reducible (refine wpL_id ?_)); refine wpN_store rfl (.tmp 2) (.tmp 43) rfl w.heap.size _ _ r rfl rfl hR (by omega) ?_; intro w6 g6 t6 s6))
        (try simp only [Exit.inBlock, Exit.then, Exit.jump])
        (try rw [Exit.noGoto_ret])
        refine bodyPost_ret (v := .agg (gC (isqrt m))) ?_ rfl ⟨rfl, t6.below hB hbs (by simp)⟩
        rw [← HQ.out]
        exact results_great rfl _ _ w.heap.size _ _ rfl g6
      · obtain ⟨t, rfl⟩ : ∃ t, p = t + 1 := ⟨p - 1, by omega⟩
        obtain ⟨IV1, IV2⟩ := root_inv HI.out hs
        have k1 := gBit a oa m (2 * t + 1) wr (by omega) hA
        have k0 := gBit a oa m (2 * t) wr (by omega) hA
        have x1b : m / 2 ^ (2 * t + 1) % 2 < 2 := Nat.mod_lt _ (by omega)
        have x0b : m / 2 ^ (2 * t) % 2 < 2 := Nat.mod_lt _ (by omega)
        have hcast1 : ((2 * t + 1 : Nat) : Int) = 2 * (t : Int) + 1 := by omega
        have hcast0 : ((2 * t : Nat) : Int) = 2 * (t : Int) := by omega
        rw [hcast1] at k1
        rw [hcast0] at k0
        generalize m / 2 ^ (2 * t + 1) % 2 = x1 at *
        generalize m / 2 ^ (2 * t) % 2 = x0 at *
        obtain ⟨lo, hlo⟩ : ∃ lo, 2 * x1 + x0 = lo := ⟨_, rfl⟩
        have HLO : Hid ((2 : Int) * (x1 : Int) + (x0 : Int) = (lo : Int)) := by show _ = _; omega
        have hlo4 : lo < 4 := by omega
        rw [hlo] at IV1 IV2
        have hlor : (limbs s).length ≤ 97 := by
          have q := add_limbs r r 96 (by omega) (by omega)
          have := limbs_mono (m := r + r) (n := s) (by omega)
          omega
        have kE := fun N hN => gEnter (w.heap.size + 1 + 1) s 2 lo N wr (.inr rfl) hlo4 hN hlor g2
        have hpos : (0 : Int) < ((t + 1 : Nat) : Int) := by omega
        have hbs := hB.size
        have h3 := GN.lt g2
        obtain ⟨N1, hN1⟩ : ∃ N, s * 2 ^ 2 + lo = N := ⟨_, rfl⟩
        have kE := kE N1 hN1.symm
        rw [show ((2 : Nat) : Int) = 2 from rfl] at kE
        have hN1' : 4 * s + lo = N1 := by omega
        rw [hN1'] at IV1 IV2
        have HIV : Hid ((N1 < 4 * r + 1 → 2 * r * (2 * r) + N1 = m / 2 ^ (2 * t) ∧ N1 ≤ 2 * (2 * r)) ∧ (4 * r + 1 ≤ N1 → (2 * r + 1) * (2 * r + 1) + (N1 - (4 * r + 1)) = m / 2 ^ (2 * t) ∧ N1 - (4 * r + 1) ≤ 2 * (2 * r + 1))) := ⟨IV1, IV2⟩
        have hN1b : N1 ≤ 4 * s + 3 := by omega
        clear IV1 IV2 hN1 hN1' hcast1 hcast0 HI hlo
        go_wp2_with fail
        refine k1.mono ?_
        rintro e wr ⟨rfl, rfl⟩
        go_wp2_with fail
        refine k0.mono ?_
        rintro e wr ⟨rfl, rfl⟩
        go_wp2_with fail
        rw [HLO.out]
        refine kE.mono ?_
        rintro e w2 ⟨rfl, g2', t2, z2⟩
        have G1 := GN.tn g1 t2 (by simp)
        have hA2 := hA.tn t2 (by simp; omega)
        have R2 := hR.tn t2 (by simp; omega)
        have B2 := t2.below hB hbs (by simp; omega)
        have hlr96 : (limbs r).length ≤ 96 := by omega
        have A2r := GN.ga G1 (by omega)
        have P0 := GB.made0 w2
        have A3r := A2r.below (alloc_below w2 (.cells Try.zeroCells58 58)) A2r.lt
        have G1a := G1.alloc (.cells Try.zeroCells58 58)
        have g2a := GN.alloc g2' (.cells Try.zeroCells58 58)
        have hA3 := hA2.below (alloc_below w2 (.cells Try.zeroCells58 58)) hA2.lt
        have R3 := R2.alloc (.cells Try.zeroCells58 58)
        have B3 := B2.alloc B2.size (.cells Try.zeroCells58 58)
        have hsz2 : w.heap.size + 1 + 1 < w2.heap.size := by omega
        clear g1 g2 hA hR hB k1 k0 kE t2 G1 g2' hA2 R2 B2 z2 h3
        go_wp2_with (first
          | (go_at_call 92; fail)
          | ((with_reducible (refine wpL_id ?_)); refine wpA_load rfl (.tmp 3) rfl (w.heap.size + 1) 0 r rfl A2r ?_)
          | ((with_reducible (refine wpL_id ?_)); refine wpN_store rfl (.tmp 6) (.tmp 27) rfl w2.heap.size _ _ r rfl rfl P0 (by omega) ?_; intro w3 g3 t3 z3))
        clear z3
        have G3 := GN.tn G1a t3 (by simp; omega)
        have S3 := GN.tn g2a t3 (by simp; omega)
        have A3 := hA3.tn t3 (by simp; omega)
        have R3' := R3.tn t3 (by simp; omega)
        have B3' := t3.below B3 B3.size (by simp; omega)
        have hbs3 := B3'.size
        obtain ⟨N2, hN2⟩ : ∃ N, r * 2 ^ 2 + 1 = N := ⟨_, rfl⟩
        obtain ⟨N3, hN3⟩ : ∃ N, r * 2 ^ 1 + 0 = N := ⟨_, rfl⟩
        have hN2' : 4 * r + 1 = N2 := by omega
        have hN3' : 2 * r = N3 := by omega
        have kT := gEnter w2.heap.size r 2 1 N2 w3 (.inr rfl) (by omega) hN2.symm (by omega) g3
        rw [show ((2 : Nat) : Int) = 2 from rfl, show ((1 : Nat) : Int) = 1 from rfl] at kT
        have HN : Hid (4 * r + 1 = N2 ∧ 2 * r = N3) := ⟨hN2', hN3'⟩
        have hN3e := hN3.symm
        have hl2 : (limbs N2).length ≤ 98 := limbs_four (s := r) (by omega) (by omega)
        have hl1 : (limbs N1).length ≤ 98 := limbs_four hlor hN1b
        clear hN2 hN2' hN3' P0 A2r A3r G1a g2a hA3 R3 B3 t3
        refine kT.mono ?_
        rintro e w4 ⟨rfl, g4, t4, -⟩
        have G4 := GN.tn G3 t4 (by simp; omega)
        have S4 := GN.tn S3 t4 (by simp; omega)
        have A4 := A3.tn t4 (by simp; omega)
        have R4 := R3'.tn t4 (by simp; omega)
        have B4 := t4.below B3' hbs3 (by simp; omega)
        have kR := gEnter (w.heap.size + 1) r 1 0 N3 w4 (.inl rfl) (by omega) hN3e (by omega) G4
        rw [show ((1 : Nat) : Int) = 1 from rfl, show ((0 : Nat) : Int) = 0 from rfl] at kR
        clear kT G3 S3 A3 R3' B3' t4 g3 hN3 hN3e
        go_wp2_with fail
        refine kR.mono ?_
        rintro e w5 ⟨rfl, g5, t5, -⟩
        have T5 := GN.tn g4 t5 (by simp; omega)
        have S5 := GN.tn S4 t5 (by simp)
        have A5 := A4.tn t5 (by simp; omega)
        have R5 := R4.tn t5 (by simp)
        have B5 := t5.below B4 B4.size (by simp)
        have kO := gOrder (w.heap.size + 1 + 1) 0 w2.heap.size 0 N1 N2 w5 (GN.ga S5 hl1) (GN.ga T5 hl2)
        obtain ⟨c, hc⟩ : ∃ c, cmpI N1 N2 = c := ⟨_, rfl⟩
        have hcl := @cmpI_lt N1 N2
        have hcg := @cmpI_ge N1 N2
        rw [hc] at kO hcl hcg
        have hbs5 := B5.size
        clear kR G4 S4 A4 R4 B4 t5 g4 hc
        by_cases hlt : N1 < N2
        · have hc0 : c < 0 := hcl hlt
          have hcd : decide (c < 0) = true := decide_eq_true hc0
          obtain ⟨V1, V2⟩ := HIV.out.1 (by have := HN.out.1; omega)
          have HV : Hid (N3 * N3 + N1 = m / 2 ^ (2 * t)) := by show _ = _; rw [← HN.out.2]; exact V1
          have V2' : N1 ≤ 2 * N3 := by have := HN.out.2; omega
          have V3 : N3 ≤ m := root_small HV.out
          clear V1 V2 hcl hcg hlt
          go_wp2_with fail
          refine kO.mono ?_
          rintro e w6 ⟨rfl, b6⟩
          have g6 := GN.below g5 b6 (GN.lt g5)
          have S6 := GN.below S5 b6 (GN.lt S5)
          have A6 := A5.below b6 A5.lt
          have R6 := R5.below b6 R5.lt
          have B6 := B5.trans (b6.mono hbs5)
          clear kO S5 T5 A5 R5 B5 g5 b6
          go_wp2
          go_step3
          (try simp only [Exit.inBlock, Exit.then, Exit.jump])
          exact ⟨rfl, ⟨_, _, _, _, _, _, _, _, _, _, _, _, _, _, _, _, _, _, _, _, _, _, _, _, _, _, _, _, _, _, _, _, _, _, _, _, _, _, _, rfl, t, N3, N1, by omega, rfl, HV, V2', V3, g6, S6, A6, R6, B6⟩, by simp [intOf]; omega⟩
        · have hc0 : ¬ c < 0 := by have := hcg (by omega); omega
          have hcd : decide (c < 0) = false := decide_eq_false hc0
          obtain ⟨V1, V2⟩ := HIV.out.2 (by have := HN.out.1; omega)
          have HV : Hid ((N3 + 1) * (N3 + 1) + (N1 - N2) = m / 2 ^ (2 * t)) := by show _ = _; rw [← HN.out.2, ← HN.out.1]; exact V1
          have V2' : N1 - N2 ≤ 2 * (N3 + 1) := by have h1 := HN.out.1; have h2 := HN.out.2; omega
          have V3 : N3 + 1 ≤ m := root_small HV.out
          have hL := fun W (h1 : GN W (w.heap.size + 1 + 1) N1) (h2 : GA W w2.heap.size 0 N2) => gLower (w.heap.size + 1 + 1) w2.heap.size 0 N1 N2 W hl1 (by omega) (by omega) h1 h2
          have HOD : Hid (pad (limbs (N3 + 1)) = (pad (limbs N3)).set 0 ((limbs N3).getD 0 0 + 1) ∧ ((limbs (N3 + 1)).length : Int) = max ((limbs N3).length : Int) 1) := by have := odd_limbs r; rw [HN.out.2] at this; exact this
          clear V1 V2 hcl hcg hlt
          go_wp2_with fail
          refine kO.mono ?_
          rintro e w6 ⟨rfl, b6⟩
          have g6 := GN.below g5 b6 (GN.lt g5)
          have S6 := GN.below S5 b6 (GN.lt S5)
          have T6 := GN.below T5 b6 (GN.lt T5)
          have A6 := A5.below b6 A5.lt
          have R6 := R5.below b6 R5.lt
          have B6 := B5.trans (b6.mono hbs5)
          have hbs6 := B6.size
          clear kO S5 T5 A5 R5 B5 g5 b6
          go_wp2_with fail
          refine (hL w6 S6 (GN.ga T6 hl2)).mono ?_
          rintro e w7 ⟨rfl, S7, t7, -⟩
          have g7 := GN.tn g6 t7 (by simp)
          have A7 := A6.tn t7 (by simp; omega)
          have R7 := R6.tn t7 (by simp; omega)
          have B7 := t7.below B6 hbs6 (by simp; omega)
          have c0 := GB.word g7 0 (by omega)
          rw [pad_getD] at c0
          have c98 := GB.size g7
          have f0 := GB.free g7 0
          have f98 := GB.free g7 98
          have gx := inR_getD (limbs_inR N3) 0
          have HG7 : Hid (GN w7 (w.heap.size + 1) N3 ∧ GN w7 (w.heap.size + 1 + 1) (N1 - N2) ∧ GA w7 a oa m ∧ GB w7 w.heap.size (List.replicate 98 0) 0 ∧ Below w.heap.size w w7) := ⟨g7, S7, A7, R7, B7⟩
          obtain ⟨x, hx⟩ : ∃ x, (limbs N3).getD 0 0 = x := ⟨_, rfl⟩
          rw [hx] at c0 gx HOD
          obtain ⟨gx0, gx1⟩ := gx
          obtain ⟨L3, hL3⟩ : ∃ L, (limbs N3).length = L := ⟨_, rfl⟩
          have HL3 : Hid ((limbs N3).length = L3) := hL3
          rw [hL3] at c98 HOD
          clear hL g6 S6 T6 A6 R6 B6 t7 g7 S7 A7 R7 B7 hx hL3
          have fin : ∀ K : Int, K = max (L3 : Int) 1 → GN ((w7.setCell ⟨w.heap.size + 1, 0, none⟩ (.int .u32 (x + 1))).setCell ⟨w.heap.size + 1, 98, none⟩ (.int .i64 K)) (w.heap.size + 1) (N3 + 1) ∧ GN ((w7.setCell ⟨w.heap.size + 1, 0, none⟩ (.int .u32 (x + 1))).setCell ⟨w.heap.size + 1, 98, none⟩ (.int .i64 K)) (w.heap.size + 1 + 1) (N1 - N2) ∧ GA ((w7.setCell ⟨w.heap.size + 1, 0, none⟩ (.int .u32 (x + 1))).setCell ⟨w.heap.size + 1, 98, none⟩ (.int .i64 K)) a oa m ∧ GB ((w7.setCell ⟨w.heap.size + 1, 0, none⟩ (.int .u32 (x + 1))).setCell ⟨w.heap.size + 1, 98, none⟩ (.int .i64 K)) w.heap.size (List.replicate 98 0) 0 ∧ Below w.heap.size w ((w7.setCell ⟨w.heap.size + 1, 0, none⟩ (.int .u32 (x + 1))).setCell ⟨w.heap.size + 1, 98, none⟩ (.int .i64 K)) := fun K hK => by
            have TT : Tn [w.heap.size + 1] w7 ((w7.setCell ⟨w.heap.size + 1, 0, none⟩ (.int .u32 (x + 1))).setCell ⟨w.heap.size + 1, 98, none⟩ (.int .i64 K)) := ((Tn.refl _ w7).cell _ (by simp) _).cell _ (by simp) _
            obtain ⟨q1, q2, q3, q4, q5⟩ := HG7.out
            refine ⟨?_, GN.tn q2 TT (by simp), q3.tn TT (by simp; omega), q4.tn TT (by simp), TT.below q5 q5.size (by simp)⟩
            unfold GN
            rw [HOD.out.1, HOD.out.2, ← hK]
            exact (GB.setW q1 0 (by omega) (x + 1)).setK K
          have FIN : Hid (∀ K : Int, K = max (L3 : Int) 1 → _) := fin
          clear fin
          by_cases hz : L3 = 0
          · have HZ := FIN.out 1 (by omega)
            subst hz
            go_wp2
            go_roundw
            case rel => exact ⟨t, N3 + 1, N1 - N2, by omega, rfl, HV, V2', V3, HZ.1, HZ.2.1, HZ.2.2.1, HZ.2.2.2.1, HZ.2.2.2.2⟩
            case measure => simp [intOf]
          · have HZ := FIN.out L3 (by omega)
            go_wp2
            go_roundw
            case rel => exact ⟨t, N3 + 1, N1 - N2, by omega, rfl, HV, V2', V3, HZ.1, HZ.2.1, HZ.2.2.1, HZ.2.2.2.1, HZ.2.2.2.2⟩
            case measure => simp [intOf]

end Go.Proofs.Ytmbopjjpepbgkaa

/- What the root answers: the facts of numbers behind it (no program). -/
namespace Go.Proofs.Ytmbopjjpepbgkaa
open Go.RowKit
set_option linter.unusedSimpArgs false

theorem pick_pos (q : Nat) (wh : Bool) (c mode : Int) (h0 : 0 ≤ mode) (h4 : mode ≤ 4) : pickI (q : Int) wh c mode = ((roundN q wh c false mode : Nat) : Int) := by
  have hq0 : ¬ ((q : Int) < 0) := by omega
  have hodd : ((q : Int) % 2 = 1) ↔ (q % 2 = 1) := by omega
  have hm5 : mode = 0 ∨ mode = 1 ∨ mode = 2 ∨ mode = 3 ∨ mode = 4 := by omega
  unfold roundN
  cases wh
  · rcases hm5 with rfl | rfl | rfl | rfl | rfl
    · simp [pickI, risesI, turnI]
    · simp [pickI, risesI, turnI]
    · simp [pickI, risesI, turnI, hq0]
    · simp only [pickI, risesI, turnI, hodd]
      by_cases c0 : c = 0
      · subst c0
        by_cases hq2 : q % 2 = 1
        · simp [hq2]
        · simp [hq2]
      · by_cases c1 : 0 ≤ c
        · have : 0 < c := by omega
          simp [c0, c1, this]
        · have : ¬ (0 < c) := by omega
          simp [c0, c1, this]
    · simp only [pickI, risesI, turnI]
      by_cases c1 : 0 ≤ c
      · have : 0 < c ∨ c = 0 := by omega
        simp [c1, this, hq0]
      · have k1 : ¬ (0 < c) := by omega
        have k2 : ¬ (c = 0) := by omega
        simp [c1, k1, k2]
  · simp [pickI]

theorem four_sq (y D : Nat) : (2 * y) * (2 * y) * D = y * y * D * 4 := by grind
theorem four_sq1 (y D : Nat) : (2 * y + 2) * (2 * y + 2) * D = (y + 1) * (y + 1) * D * 4 := by grind
theorem sq_lt {a b : Nat} (h : a * a < b * b) : a < b := by
  apply Classical.byContradiction
  intro hn
  have h2 : b ≤ a := by omega
  have := Nat.mul_le_mul h2 h2
  omega
/-- The root of four times as much is twice the root, or one more; which, and whether something is short, tells all. -/
theorem root_facts (m D : Nat) (hD : 0 < D) (y T : Nat) (hy : y = isqrt (m / D)) (hT : T = isqrt (m * 4 / D)) :
    T / 2 = y ∧ (T % 2 = 0 → (T * T * D < m * 4 ↔ ¬ (y * y * D = m)) ∧ m * 4 < (2 * y + 1) * (2 * y + 1) * D) ∧ (T % 2 = 1 → ¬ (y * y * D = m) ∧ (2 * y + 1) * (2 * y + 1) * D = T * T * D ∧ T * T * D ≤ m * 4) := by
  obtain ⟨a1, a2⟩ := isqrt_spec (m / D)
  obtain ⟨b1, b2⟩ := isqrt_spec (m * 4 / D)
  rw [← hy] at a1 a2
  rw [← hT] at b1 b2
  have c1 : y * y * D ≤ m := (Nat.le_div_iff_mul_le hD).1 a1
  have c2 : m < (y + 1) * (y + 1) * D := (Nat.div_lt_iff_lt_mul hD).1 a2
  have d1 : T * T * D ≤ m * 4 := (Nat.le_div_iff_mul_le hD).1 b1
  have d2 : m * 4 < (T + 1) * (T + 1) * D := (Nat.div_lt_iff_lt_mul hD).1 b2
  have e1 := four_sq y D
  have e2 := four_sq1 y D
  have f1 : 2 * y < T + 1 := by
    apply sq_lt
    apply Nat.lt_of_mul_lt_mul_right (a := D)
    omega
  have f2 : T < 2 * y + 2 := by
    apply sq_lt
    apply Nat.lt_of_mul_lt_mul_right (a := D)
    omega
  refine ⟨by omega, ?_, ?_⟩
  · intro h
    have hT2 : T = 2 * y := by omega
    subst hT2
    refine ⟨?_, ?_⟩
    · rw [e1]; omega
    · have : 2 * y + 1 = 2 * y + 1 := rfl
      exact d2
  · intro h
    have hT2 : T = 2 * y + 1 := by omega
    subst hT2
    refine ⟨?_, rfl, d1⟩
    intro he
    have h3 : (2 * y) * (2 * y) * D < (2 * y + 1) * (2 * y + 1) * D := by
      apply Nat.mul_lt_mul_of_pos_right _ hD
      exact Nat.mul_lt_mul'' (by omega) (by omega)
    omega

/-- Whether nothing is above the root's floor, and how what is above stands to a half, as the program finds it. -/
def rootWh (m k : Nat) : Bool := if isqrt (m * 4 / 2 ^ k) % 2 = 0 then decide (¬ (isqrt (m * 4 / 2 ^ k) * isqrt (m * 4 / 2 ^ k) * 2 ^ k < m * 4)) else false
def rootHf (m k : Nat) : Int := if isqrt (m * 4 / 2 ^ k) % 2 = 0 then -1 else if isqrt (m * 4 / 2 ^ k) * isqrt (m * 4 / 2 ^ k) * 2 ^ k < m * 4 then 1 else 0
theorem root_round (x : Int) (k : Nat) (mode : Int) (h0 : 0 ≤ mode) (h4 : mode ≤ 4) :
    rootI x k mode = ((roundN (isqrt (x.natAbs * 4 / 2 ^ k) / 2) (rootWh x.natAbs k) (rootHf x.natAbs k) false mode : Nat) : Int) := by
  have hD : 0 < 2 ^ k := Nat.pow_pos (by omega)
  obtain ⟨r1, r2, r3⟩ := root_facts x.natAbs (2 ^ k) hD _ _ rfl rfl
  unfold rootI
  rw [r1, ← pick_pos _ _ _ _ h0 h4]
  generalize isqrt (x.natAbs / 2 ^ k) = y at *
  unfold rootWh rootHf
  generalize isqrt (x.natAbs * 4 / 2 ^ k) = T at *
  generalize x.natAbs = m at *
  by_cases hT : T % 2 = 0
  · obtain ⟨s1, s2⟩ := r2 hT
    rw [if_pos hT, if_pos hT]
    have e1 : decide (y * y * 2 ^ k = m) = decide (¬ (T * T * 2 ^ k < m * 4)) := by
      rw [decide_eq_decide, s1]
      simp
    have e2 : cmpJ ((m * 4 : Nat) : Int) (((2 * y + 1) * (2 * y + 1) * 2 ^ k : Nat) : Int) = -1 := by
      unfold cmpJ
      rw [if_pos (by exact_mod_cast s2)]
    rw [e1, e2]
  · have hT1 : T % 2 = 1 := by omega
    obtain ⟨s1, s2, s3⟩ := r3 hT1
    rw [if_neg hT, if_neg hT, decide_eq_false s1, s2]
    congr 1
    unfold cmpJ
    by_cases hs : T * T * 2 ^ k < m * 4
    · have h1 : ¬ (((m * 4 : Nat) : Int) < ((T * T * 2 ^ k : Nat) : Int)) := by
        intro h
        have : m * 4 < T * T * 2 ^ k := by exact_mod_cast h
        omega
      have h2 : ((T * T * 2 ^ k : Nat) : Int) < ((m * 4 : Nat) : Int) := by exact_mod_cast hs
      rw [if_neg h1, if_pos h2, if_pos hs]
    · have h1 : ¬ (((m * 4 : Nat) : Int) < ((T * T * 2 ^ k : Nat) : Int)) := by
        intro h
        have : m * 4 < T * T * 2 ^ k := by exact_mod_cast h
        omega
      have h2 : ¬ (((T * T * 2 ^ k : Nat) : Int) < ((m * 4 : Nat) : Int)) := by
        intro h
        have : T * T * 2 ^ k < m * 4 := by exact_mod_cast h
        omega
      rw [if_neg h1, if_neg h2, if_neg hs]

end Go.Proofs.Ytmbopjjpepbgkaa

/- The program's betweenRoot, by its contract. -/
namespace Go.Proofs.Ytmbopjjpepbgkaa
open Go.RowKit
set_option linter.unusedSimpArgs false

theorem bC_setS (n : Nat) (s s' : Bool) (h : Int) (hl : (limbs n).length ≤ 98) : (bC n s h).setIfInBounds 99 (.bool s') = bC n s' h := by
  obtain ⟨a1, a2, a3, a4⟩ := bC_facts n s h hl
  obtain ⟨b1, b2, b3, b4⟩ := bC_facts n s' h hl
  apply Array.ext_getElem?
  intro i
  rw [Array.getElem?_setIfInBounds]
  by_cases h9 : 99 = i
  · subst h9; rw [if_pos rfl, if_pos (by omega), b3]
  · rw [if_neg h9]
    by_cases h1 : i < 99
    · rw [a2 i h1, b2 i h1]
    · by_cases h2 : i = 100
      · subst h2; rw [a4, b4]
      · rw [Array.getElem?_eq_none (by omega), Array.getElem?_eq_none (by omega)]
theorem bC_setH (n : Nat) (s : Bool) (h h' : Int) (hl : (limbs n).length ≤ 98) : (bC n s h).setIfInBounds 100 (.int .i64 h') = bC n s h' := by
  obtain ⟨a1, a2, a3, a4⟩ := bC_facts n s h hl
  obtain ⟨b1, b2, b3, b4⟩ := bC_facts n s h' hl
  apply Array.ext_getElem?
  intro i
  rw [Array.getElem?_setIfInBounds]
  by_cases h9 : 100 = i
  · subst h9; rw [if_pos rfl, if_pos (by omega), b4]
  · rw [if_neg h9]
    by_cases h1 : i < 99
    · rw [a2 i h1, b2 i h1]
    · by_cases h2 : i = 99
      · subst h2; rw [a3, b3]
      · rw [Array.getElem?_eq_none (by omega), Array.getElem?_eq_none (by omega)]
theorem BN.setS {w : World} {b n : Nat} {s : Bool} {h : Int} (q : BN w b n s h) (s' : Bool) : BN (w.setCell ⟨b, 99, none⟩ (.bool s')) b n s' h :=
  ⟨by rw [heap_setCell_same w b 99 _ _ _ q.blk, bC_setS n s s' h q.len], q.len⟩
theorem BN.setH {w : World} {b n : Nat} {s : Bool} {h : Int} (q : BN w b n s h) (h' : Int) : BN (w.setCell ⟨b, 100, none⟩ (.int .i64 h')) b n s h' :=
  ⟨by rw [heap_setCell_same w b 100 _ _ _ q.blk, bC_setH n s h h' q.len], q.len⟩
theorem BN.free {w : World} {b n : Nat} {s : Bool} {h : Int} (q : BN w b n s h) (j : Nat) : w.frozen? ⟨b, j, none⟩ = false := frozen_of_row w b j _ _ q.blk
theorem ZB.set {w : World} {b : Nat} (q : ZB w b) (p : Addr) (hp : b ≠ p.block) (v : Value) : ZB (w.setCell p v) b :=
  q.tn (Tn.cell (Tn.refl [p.block] w) p (by simp) v) (by simpa using hp)

set_option maxRecDepth 20000 in
set_option maxHeartbeats 6400000 in
/-- betweenRoot: the root of a by 2^k. -/
theorem bRoot (a oa m k : Nat) (w : World) (hl : (limbs m).length ≤ 70) (hk : k ≤ 600) (ha : GA w a oa m) :
    Calls Try.prog 37 #[.pointer (some ⟨a, oa, none⟩), .int .i64 k] w fun e w' => e = .returned (.agg (bC (isqrt (m * 4 / 2 ^ k) / 2) (rootWh m k) (rootHf m k))) ∧ Below w.heap.size w w' := by
  obtain ⟨F, hF⟩ : ∃ F, m * 4 = F := ⟨_, rfl⟩
  have hlF : (limbs F).length ≤ 71 := by
    rw [← hF]
    have := mul_limbs_len m 4
    have h4 : (limbs 4).length ≤ 1 := limbs_len_le _ 1 (by decide)
    omega
  have kU : ∀ W, GA W a oa m → Calls Try.prog 65 #[.pointer (some ⟨a, oa, none⟩), .int .i64 2] W fun e w' => e = .returned (.agg (gC F)) ∧ Below W.heap.size W w' := fun W h => by
    have := gUp a oa m 2 W (by omega) (by omega) h
    rw [show m * 2 ^ 2 = F from hF] at this
    exact this
  have kD := fun f W (q : GA W f 0 F) => gDown f 0 F k W (by omega) (by omega) q
  have hlP : (limbs (F / 2 ^ k)).length ≤ 71 := Nat.le_trans (limbs_mono (Nat.div_le_self _ _)) hlF
  have kR := fun f W (q : GA W f 0 (F / 2 ^ k)) => gRoot f 0 (F / 2 ^ k) W (by omega) q
  obtain ⟨iq1, iq2⟩ := isqrt_spec (F / 2 ^ k)
  have hdl := down_len F k
  unfold rootWh rootHf
  rw [hF]
  obtain ⟨T, hT⟩ : ∃ T, isqrt (F / 2 ^ k) = T := ⟨_, rfl⟩
  rw [hT] at kR iq1 iq2
  rw [hT]
  have hlS : (limbs (T * T)).length ≤ (limbs (F / 2 ^ k)).length := limbs_mono iq1
  have hlS2 : (limbs (T * T)).length ≤ 71 := Nat.le_trans hlS hlP
  have hlT : (limbs T).length ≤ 71 := Nat.le_trans (limbs_mono (Nat.le_trans (Nat.le_mul_self T) iq1)) hlP
  have hT2 : 2 * (limbs T).length ≤ 98 := by
    have h1 : T < 16777216 ^ 36 := by
      apply sq_lt
      have h2 := limbs_lt (F / 2 ^ k)
      have h3 : (16777216 : Nat) ^ (limbs (F / 2 ^ k)).length ≤ 16777216 ^ 72 := Nat.pow_le_pow_right (by omega) (by omega)
      have h4 : (16777216 : Nat) ^ 36 * 16777216 ^ 36 = 16777216 ^ 72 := by rw [← Nat.pow_add]
      rw [h4]
      exact Nat.lt_of_le_of_lt iq1 (Nat.lt_of_lt_of_le h2 h3)
    have := limbs_len_le T 36 h1
    omega
  have kM := fun f W (q : GA W f 0 T) => gTimes f 0 f 0 T T W (by omega) q q
  have hlu : k / 24 + (limbs (T * T)).length + 1 ≤ 98 := by
    rcases hdl with h | h
    · rw [h, limbs_zero] at hlS; simp at hlS; rw [hlS]; simp; omega
    · omega
  have kV := fun f W (q : GA W f 0 (T * T)) => gUp f 0 (T * T) k W hlu (by omega) q
  have hlB : (limbs (T * T * 2 ^ k)).length ≤ 71 := by
    refine Nat.le_trans (limbs_mono (m := F) ?_) hlF
    exact Nat.le_trans (Nat.mul_le_mul_right _ iq1) (Nat.div_mul_le_self _ _)
  have kO := fun f f' W (q1 : GA W f 0 (T * T * 2 ^ k)) (q2 : GA W f' 0 F) => gOrder f 0 f' 0 (T * T * 2 ^ k) F W q1 q2
  have kH : ∀ f W, GA W f 0 T → Calls Try.prog 66 #[.pointer (some ⟨f, 0, none⟩), .int .i64 1] W fun e w' => e = .returned (.agg (gC (T / 2))) ∧ Below W.heap.size W w' := fun f W h => by
    have := gDown f 0 T 1 W (by omega) (by omega) h
    rw [Nat.pow_one] at this
    exact this
  have hlH : (limbs (T / 2)).length ≤ 71 := Nat.le_trans (limbs_mono (Nat.div_le_self _ _)) hlT
  have kB : ∀ f W, GA W f 0 T → Calls Try.prog 70 #[.pointer (some ⟨f, 0, none⟩), .int .i64 0] W fun e w' => e = .returned (.int .u32 ((T % 2 : Nat) : Int)) ∧ w' = W := fun f W hW => by
    have := gBit f 0 T 0 W (by omega) hW
    rw [Nat.pow_zero, Nat.div_one] at this
    exact this
  have hcm : (cmpI (T * T * 2 ^ k) F < 0 ↔ T * T * 2 ^ k < F) ∧ -1 ≤ cmpI (T * T * 2 ^ k) F ∧ cmpI (T * T * 2 ^ k) F ≤ 1 := by
    unfold cmpI
    split
    · simp [*]
    · split <;> simp [*]
  generalize cmpI (T * T * 2 ^ k) F = cm at *
  generalize T * T * 2 ^ k = bk at *
  generalize T * T = sq at *
  generalize T / 2 = hf at *
  generalize F / 2 ^ k = pt at *
  have B := alloc_below w (.cells Try.zeroCells62 62)
  have Z := ZB.made0 w
  have HA := ha.below B ha.lt
  have hal := ha.lt
  clear ha hF hT iq1 iq2 hlS hT2 hdl hlu
  obtain ⟨rs, hrs⟩ : ∃ s, (if T % 2 = 0 then decide (¬ (bk < F)) else false) = s := ⟨_, rfl⟩
  obtain ⟨rh, hrh⟩ : ∃ s, (if T % 2 = 0 then (-1 : Int) else if bk < F then 1 else 0) = s := ⟨_, rfl⟩
  rw [hrs, hrh]
  have HRS : Hid ((if T % 2 = 0 then decide (¬ (bk < F)) else false) = rs) := hrs
  have HRH : Hid ((if T % 2 = 0 then (-1 : Int) else if bk < F then 1 else 0) = rh) := hrh
  have HCM : Hid (cm < 0 ↔ bk < F) := hcm.1
  have hcm1 := hcm.2
  clear hrs hrh hcm
  go_enter Try.func37, Try.ntmps37
  go_wp2_with fail
  refine (kU _ HA).mono ?_
  generalize w.alloc (.cells Try.zeroCells62 62) = w0 at *
  rintro e u1 ⟨rfl, c1⟩
  replace Z := Z.below c1 Z.lt
  replace HA := HA.below c1 HA.lt
  replace B := B.trans (c1.mono B.size)
  clear c1
  have lZ : w.heap.size < u1.heap.size := Z.lt
  have lHA : a < u1.heap.size := HA.lt
  have Q0 := GB.made0 u1
  replace Z := Z.alloc (.cells Try.zeroCells58 58)
  replace HA := HA.below (alloc_below u1 (.cells Try.zeroCells58 58)) HA.lt
  have hBQ := B.size
  replace B := B.alloc B.size (.cells Try.zeroCells58 58)
  go_wp2_with (first
    | (go_at_call 66; fail)
    | ((with_reducible (refine wpL_id ?_)); refine wpN_store rfl (.tmp 5) (.tmp 13) rfl u1.heap.size _ _ (F) rfl rfl Q0 (by omega) ?_; intro u2 Q tQ zQ; replace Z := Z.tn tQ (by simp; omega); replace HA := HA.tn tQ (by simp; omega); replace B := tQ.below B B.size (by simp; omega); clear tQ zQ Q0))
  generalize u1.heap.size = f5 at *
  refine (kD _ _ (GN.ga Q (by omega))).mono ?_
  rintro e u3 ⟨rfl, c3⟩
  replace Z := Z.below c3 Z.lt
  replace HA := HA.below c3 HA.lt
  replace Q := GN.below Q c3 (GN.lt Q)
  replace B := B.trans (c3.mono B.size)
  clear c3
  have lZ : w.heap.size < u3.heap.size := Z.lt
  have lHA : a < u3.heap.size := HA.lt
  have lQ : f5 < u3.heap.size := (GN.lt Q)
  have C0 := GB.made0 u3
  replace Z := Z.alloc (.cells Try.zeroCells58 58)
  replace HA := HA.below (alloc_below u3 (.cells Try.zeroCells58 58)) HA.lt
  replace Q := GN.alloc Q (.cells Try.zeroCells58 58)
  have hBC := B.size
  replace B := B.alloc B.size (.cells Try.zeroCells58 58)
  go_wp2_with (first
    | (go_at_call 67; fail)
    | ((with_reducible (refine wpL_id ?_)); refine wpN_store rfl (.tmp 6) (.tmp 15) rfl u3.heap.size _ _ (pt) rfl rfl C0 (by omega) ?_; intro u4 C tC zC; replace Z := Z.tn tC (by simp; omega); replace HA := HA.tn tC (by simp; omega); replace Q := GN.tn Q tC (by simp; omega); replace B := tC.below B B.size (by simp; omega); clear tC zC C0))
  generalize u3.heap.size = f6 at *
  refine (kR _ _ (GN.ga C (by omega))).mono ?_
  rintro e u5 ⟨rfl, c5⟩
  replace Z := Z.below c5 Z.lt
  replace HA := HA.below c5 HA.lt
  replace Q := GN.below Q c5 (GN.lt Q)
  replace C := GN.below C c5 (GN.lt C)
  replace B := B.trans (c5.mono B.size)
  clear c5
  have lZ : w.heap.size < u5.heap.size := Z.lt
  have lHA : a < u5.heap.size := HA.lt
  have lQ : f5 < u5.heap.size := (GN.lt Q)
  have lC : f6 < u5.heap.size := (GN.lt C)
  have U0 := GB.made0 u5
  replace Z := Z.alloc (.cells Try.zeroCells58 58)
  replace HA := HA.below (alloc_below u5 (.cells Try.zeroCells58 58)) HA.lt
  replace Q := GN.alloc Q (.cells Try.zeroCells58 58)
  replace C := GN.alloc C (.cells Try.zeroCells58 58)
  have hBU := B.size
  replace B := B.alloc B.size (.cells Try.zeroCells58 58)
  go_wp2_with (first
    | (go_at_call 68; fail)
    | ((with_reducible (refine wpL_id ?_)); refine wpN_store rfl (.tmp 7) (.tmp 16) rfl u5.heap.size _ _ (T) rfl rfl U0 (by omega) ?_; intro u6 U tU zU; replace Z := Z.tn tU (by simp; omega); replace HA := HA.tn tU (by simp; omega); replace Q := GN.tn Q tU (by simp; omega); replace C := GN.tn C tU (by simp; omega); replace B := tU.below B B.size (by simp; omega); clear tU zU U0))
  generalize u5.heap.size = f7 at *
  refine (kM _ _ (GN.ga U (by omega))).mono ?_
  rintro e u7 ⟨rfl, c7⟩
  replace Z := Z.below c7 Z.lt
  replace HA := HA.below c7 HA.lt
  replace Q := GN.below Q c7 (GN.lt Q)
  replace C := GN.below C c7 (GN.lt C)
  replace U := GN.below U c7 (GN.lt U)
  replace B := B.trans (c7.mono B.size)
  clear c7
  have lZ : w.heap.size < u7.heap.size := Z.lt
  have lHA : a < u7.heap.size := HA.lt
  have lQ : f5 < u7.heap.size := (GN.lt Q)
  have lC : f6 < u7.heap.size := (GN.lt C)
  have lU : f7 < u7.heap.size := (GN.lt U)
  have R0 := GB.made0 u7
  replace Z := Z.alloc (.cells Try.zeroCells58 58)
  replace HA := HA.below (alloc_below u7 (.cells Try.zeroCells58 58)) HA.lt
  replace Q := GN.alloc Q (.cells Try.zeroCells58 58)
  replace C := GN.alloc C (.cells Try.zeroCells58 58)
  replace U := GN.alloc U (.cells Try.zeroCells58 58)
  have hBR := B.size
  replace B := B.alloc B.size (.cells Try.zeroCells58 58)
  go_wp2_with (first
    | (go_at_call 65; fail)
    | ((with_reducible (refine wpL_id ?_)); refine wpN_store rfl (.tmp 8) (.tmp 17) rfl u7.heap.size _ _ (sq) rfl rfl R0 (by omega) ?_; intro u8 R tR zR; replace Z := Z.tn tR (by simp; omega); replace HA := HA.tn tR (by simp; omega); replace Q := GN.tn Q tR (by simp; omega); replace C := GN.tn C tR (by simp; omega); replace U := GN.tn U tR (by simp; omega); replace B := tR.below B B.size (by simp; omega); clear tR zR R0))
  generalize u7.heap.size = f8 at *
  refine (kV _ _ (GN.ga R (by omega))).mono ?_
  rintro e u9 ⟨rfl, c9⟩
  replace Z := Z.below c9 Z.lt
  replace HA := HA.below c9 HA.lt
  replace Q := GN.below Q c9 (GN.lt Q)
  replace C := GN.below C c9 (GN.lt C)
  replace U := GN.below U c9 (GN.lt U)
  replace R := GN.below R c9 (GN.lt R)
  replace B := B.trans (c9.mono B.size)
  clear c9
  have lZ : w.heap.size < u9.heap.size := Z.lt
  have lHA : a < u9.heap.size := HA.lt
  have lQ : f5 < u9.heap.size := (GN.lt Q)
  have lC : f6 < u9.heap.size := (GN.lt C)
  have lU : f7 < u9.heap.size := (GN.lt U)
  have lR : f8 < u9.heap.size := (GN.lt R)
  have V0 := GB.made0 u9
  replace Z := Z.alloc (.cells Try.zeroCells58 58)
  replace HA := HA.below (alloc_below u9 (.cells Try.zeroCells58 58)) HA.lt
  replace Q := GN.alloc Q (.cells Try.zeroCells58 58)
  replace C := GN.alloc C (.cells Try.zeroCells58 58)
  replace U := GN.alloc U (.cells Try.zeroCells58 58)
  replace R := GN.alloc R (.cells Try.zeroCells58 58)
  have hBV := B.size
  replace B := B.alloc B.size (.cells Try.zeroCells58 58)
  go_wp2_with (first
    | (go_at_call 69; fail)
    | ((with_reducible (refine wpL_id ?_)); refine wpN_store rfl (.tmp 9) (.tmp 19) rfl u9.heap.size _ _ (bk) rfl rfl V0 (by omega) ?_; intro u10 V tV zV; replace Z := Z.tn tV (by simp; omega); replace HA := HA.tn tV (by simp; omega); replace Q := GN.tn Q tV (by simp; omega); replace C := GN.tn C tV (by simp; omega); replace U := GN.tn U tV (by simp; omega); replace R := GN.tn R tV (by simp; omega); replace B := tV.below B B.size (by simp; omega); clear tV zV V0))
  generalize u9.heap.size = f9 at *
  refine (kO _ _ _ (GN.ga V (by omega)) (GN.ga Q (by omega))).mono ?_
  rintro e u11 ⟨rfl, c11⟩
  replace Z := Z.below c11 Z.lt
  replace HA := HA.below c11 HA.lt
  replace Q := GN.below Q c11 (GN.lt Q)
  replace C := GN.below C c11 (GN.lt C)
  replace U := GN.below U c11 (GN.lt U)
  replace R := GN.below R c11 (GN.lt R)
  replace V := GN.below V c11 (GN.lt V)
  replace B := B.trans (c11.mono B.size)
  clear c11
  go_wp2_with fail
  refine (kH _ _ (GN.ga U (by omega))).mono ?_
  rintro e u12 ⟨rfl, c12⟩
  replace Z := Z.below c12 Z.lt
  replace HA := HA.below c12 HA.lt
  replace Q := GN.below Q c12 (GN.lt Q)
  replace C := GN.below C c12 (GN.lt C)
  replace U := GN.below U c12 (GN.lt U)
  replace R := GN.below R c12 (GN.lt R)
  replace V := GN.below V c12 (GN.lt V)
  replace B := B.trans (c12.mono B.size)
  clear c12
  have lZ : w.heap.size < u12.heap.size := Z.lt
  have lHA : a < u12.heap.size := HA.lt
  have lQ : f5 < u12.heap.size := (GN.lt Q)
  have lC : f6 < u12.heap.size := (GN.lt C)
  have lU : f7 < u12.heap.size := (GN.lt U)
  have lR : f8 < u12.heap.size := (GN.lt R)
  have lV : f9 < u12.heap.size := (GN.lt V)
  have Y0 := ZB.made0 u12
  replace Z := Z.alloc (.cells Try.zeroCells62 62)
  replace HA := HA.below (alloc_below u12 (.cells Try.zeroCells62 62)) HA.lt
  replace Q := GN.alloc Q (.cells Try.zeroCells62 62)
  replace C := GN.alloc C (.cells Try.zeroCells62 62)
  replace U := GN.alloc U (.cells Try.zeroCells62 62)
  replace R := GN.alloc R (.cells Try.zeroCells62 62)
  replace V := GN.alloc V (.cells Try.zeroCells62 62)
  have hBY := B.size
  replace B := B.alloc B.size (.cells Try.zeroCells62 62)
  go_wp2_with (first
    | (go_at_call 70; fail)
    | ((with_reducible (refine wpL_id ?_)); refine wpB_build rfl (.tmp 22) rfl hf rfl (by omega) ?_)
    | ((with_reducible (refine wpL_id ?_)); refine wpB_store rfl (.tmp 11) (.tmp 23) rfl u12.heap.size hf false 0 rfl rfl Y0 (by omega) ?_; intro v1 M t1 z1; replace Z := Z.tn t1 (by simp; omega); replace HA := HA.tn t1 (by simp; omega); replace Q := GN.tn Q t1 (by simp; omega); replace C := GN.tn C t1 (by simp; omega); replace U := GN.tn U t1 (by simp; omega); replace R := GN.tn R t1 (by simp; omega); replace V := GN.tn V t1 (by simp; omega); replace B := t1.below B B.size (by simp; omega); clear t1 z1 Y0))
  generalize u12.heap.size = f11 at *
  refine (kB _ _ (GN.ga U (by omega))).mono ?_
  rintro e v2 ⟨rfl, rfl⟩
  have c9 := M.whole
  have c10 := M.half
  have fr9 := M.free 99
  have fr10 := M.free 100
  have hq2 : T % 2 < 2 := Nat.mod_lt _ (by omega)
  have hs1 : (cm < 0) = (bk < F) := propext HCM.out
  clear kU kD kR kM kV kO kH kB Q C U R V HA
  by_cases hp : T % 2 = 0
  · by_cases hsh : bk < F
    · skip
      have e0 : (((T % 2 : Nat) : Int) == 0) = true := by rw [hp]; rfl
      have e3 : (((T % 2 : Nat) : Int) = 0) := by rw [hp]; rfl
      have e1 : decide (cm < 0) = true := decide_eq_true (by rw [hs1]; exact hsh)
      have e2 : (cm < 0) := by rw [hs1]; exact hsh
      have M2 := (M.setS false).setH (-1)
      have Z2 := (Z.set ⟨f11, 99, none⟩ (by show w.heap.size ≠ f11; omega) (.bool false)).set ⟨f11, 100, none⟩ (by show w.heap.size ≠ f11; omega) (.int .i64 (-1))
      have B2 := (B.setCell (p := ⟨f11, 99, none⟩) (by show w.heap.size ≤ f11; omega) (.bool false)).setCell (p := ⟨f11, 100, none⟩) (by show w.heap.size ≤ f11; omega) (.int .i64 (-1))
      have hr1 : rs = false := by rw [← HRS.out]; simp [hp, hsh]
      have hr2 : rh = -1 := by rw [← HRH.out]; simp [hp, hsh]
      subst hr1 hr2
      clear HRS HRH HCM hs1 hsh M Z B hp
      go_wp2_with (first
        | ((with_reducible (refine wpL_id ?_)); refine wpB_load rfl (.tmp 11) rfl f11 hf false (-1) rfl M2 ?_)
        | ((with_reducible (refine wpL_id ?_)); refine wpB_store rfl (.tmp 4) (.tmp 34) rfl w.heap.size hf false (-1) rfl rfl Z2 (by omega) ?_; intro w5 g5 t5 s5))
      (try simp only [Exit.inBlock, Exit.then])
      refine bodyPost_ret (v := .agg (bC hf false (-1))) ?_ rfl ⟨rfl, t5.below B2 B2.size (by simp)⟩
      exact results_between rfl _ _ w.heap.size _ _ _ rfl g5
    · skip
      have e0 : (((T % 2 : Nat) : Int) == 0) = true := by rw [hp]; rfl
      have e3 : (((T % 2 : Nat) : Int) = 0) := by rw [hp]; rfl
      have e1 : decide (cm < 0) = false := decide_eq_false (by rw [hs1]; exact hsh)
      have e2 : ¬ (cm < 0) := by rw [hs1]; exact hsh
      have M2 := (M.setS true).setH (-1)
      have Z2 := (Z.set ⟨f11, 99, none⟩ (by show w.heap.size ≠ f11; omega) (.bool true)).set ⟨f11, 100, none⟩ (by show w.heap.size ≠ f11; omega) (.int .i64 (-1))
      have B2 := (B.setCell (p := ⟨f11, 99, none⟩) (by show w.heap.size ≤ f11; omega) (.bool true)).setCell (p := ⟨f11, 100, none⟩) (by show w.heap.size ≤ f11; omega) (.int .i64 (-1))
      have hr1 : rs = true := by rw [← HRS.out]; simp [hp, hsh]
      have hr2 : rh = -1 := by rw [← HRH.out]; simp [hp, hsh]
      subst hr1 hr2
      clear HRS HRH HCM hs1 hsh M Z B hp
      go_wp2_with (first
        | ((with_reducible (refine wpL_id ?_)); refine wpB_load rfl (.tmp 11) rfl f11 hf true (-1) rfl M2 ?_)
        | ((with_reducible (refine wpL_id ?_)); refine wpB_store rfl (.tmp 4) (.tmp 34) rfl w.heap.size hf true (-1) rfl rfl Z2 (by omega) ?_; intro w5 g5 t5 s5))
      (try simp only [Exit.inBlock, Exit.then])
      refine bodyPost_ret (v := .agg (bC hf true (-1))) ?_ rfl ⟨rfl, t5.below B2 B2.size (by simp)⟩
      exact results_between rfl _ _ w.heap.size _ _ _ rfl g5
  · by_cases hsh : bk < F
    · skip
      have e0 : (((T % 2 : Nat) : Int) == 0) = false := by rw [beq_eq_false_iff_ne]; omega
      have e3 : ¬ (((T % 2 : Nat) : Int) = 0) := by omega
      have e1 : decide (cm < 0) = true := decide_eq_true (by rw [hs1]; exact hsh)
      have e2 : (cm < 0) := by rw [hs1]; exact hsh
      have M2 := M.setH 1
      have Z2 := Z.set ⟨f11, 100, none⟩ (by show w.heap.size ≠ f11; omega) (.int .i64 1)
      have B2 := B.setCell (p := ⟨f11, 100, none⟩) (by show w.heap.size ≤ f11; omega) (.int .i64 1)
      have hr1 : rs = false := by rw [← HRS.out]; simp [hp, hsh]
      have hr2 : rh = 1 := by rw [← HRH.out]; simp [hp, hsh]
      subst hr1 hr2
      clear HRS HRH HCM hs1 hsh M Z B hp
      go_wp2_with (first
        | ((with_reducible (refine wpL_id ?_)); refine wpB_load rfl (.tmp 11) rfl f11 hf false (1) rfl M2 ?_)
        | ((with_reducible (refine wpL_id ?_)); refine wpB_store rfl (.tmp 4) (.tmp 34) rfl w.heap.size hf false (1) rfl rfl Z2 (by omega) ?_; intro w5 g5 t5 s5))
      (try simp only [Exit.inBlock, Exit.then])
      refine bodyPost_ret (v := .agg (bC hf false (1))) ?_ rfl ⟨rfl, t5.below B2 B2.size (by simp)⟩
      exact results_between rfl _ _ w.heap.size _ _ _ rfl g5
    · skip
      have e0 : (((T % 2 : Nat) : Int) == 0) = false := by rw [beq_eq_false_iff_ne]; omega
      have e3 : ¬ (((T % 2 : Nat) : Int) = 0) := by omega
      have e1 : decide (cm < 0) = false := decide_eq_false (by rw [hs1]; exact hsh)
      have e2 : ¬ (cm < 0) := by rw [hs1]; exact hsh
      have M2 := M
      have Z2 := Z
      have B2 := B
      have hr1 : rs = false := by rw [← HRS.out]; simp [hp, hsh]
      have hr2 : rh = 0 := by rw [← HRH.out]; simp [hp, hsh]
      subst hr1 hr2
      clear HRS HRH HCM hs1 hsh M Z B hp
      go_wp2_with (first
        | ((with_reducible (refine wpL_id ?_)); refine wpB_load rfl (.tmp 11) rfl f11 hf false (0) rfl M2 ?_)
        | ((with_reducible (refine wpL_id ?_)); refine wpB_store rfl (.tmp 4) (.tmp 34) rfl w.heap.size hf false (0) rfl rfl Z2 (by omega) ?_; intro w5 g5 t5 s5))
      (try simp only [Exit.inBlock, Exit.then])
      refine bodyPost_ret (v := .agg (bC hf false (0))) ?_ rfl ⟨rfl, t5.below B2 B2.size (by simp)⟩
      exact results_between rfl _ _ w.heap.size _ _ _ rfl g5

end Go.Proofs.Ytmbopjjpepbgkaa

/- The program's rooted and rootedSpan, each by its contract. -/
namespace Go.Proofs.Ytmbopjjpepbgkaa
open Go.RowKit
set_option linter.unusedSimpArgs false

/-- The root, rounded down and up. -/
def rtLo (n : Nat) : Int := (isqrt n : Nat)
def rtUp (n : Nat) : Nat := if isqrt n * isqrt n < n then isqrt n + 1 else isqrt n
theorem root_lo (x : Int) : rootI x 0 0 = rtLo x.natAbs := by
  unfold rootI pickI rtLo
  rw [Nat.pow_zero, Nat.div_one]
  split
  · rfl
  · rfl
theorem root_hi (x : Int) : rootI x 0 1 = (rtUp x.natAbs : Nat) := by
  unfold rootI pickI rtUp
  rw [Nat.pow_zero, Nat.div_one, Nat.mul_one]
  have h := (isqrt_spec x.natAbs).1
  by_cases e : isqrt x.natAbs * isqrt x.natAbs = x.natAbs
  · rw [decide_eq_true e, if_pos rfl, if_neg (by omega)]
  · rw [decide_eq_false e, if_neg (by simp), if_pos rfl, if_pos (by omega)]
    rfl
theorem rtUp_le (n : Nat) : rtUp n ≤ n := by
  have h := isqrt_spec n
  have h2 := isqrt_le n
  unfold rtUp
  split
  · rename_i hlt
    by_cases e : isqrt n = n
    · rw [e] at hlt
      have : n ≤ n * n := Nat.le_mul_self n
      omega
    · omega
  · exact h2

theorem abs_pow2 (k : Nat) : ((2 : Int) ^ k).natAbs = 2 ^ k := by rw [Int.natAbs_pow]; rfl
theorem shl_len (n k : Nat) : (limbs (n * 2 ^ k)).length ≤ (limbs n).length + k / 24 + 1 := by
  have h1 := mul_limbs_len n (2 ^ k)
  have h2 := pow2_limbs k
  omega

set_option maxRecDepth 20000 in
set_option maxHeartbeats 6400000 in
theorem rooted_c (p : Nat) (x mode : Int) (w : World) (sp : SG w p x) (hl : (limbs x.natAbs).length ≤ 70) (h0 : 0 ≤ mode) (h4 : mode ≤ 4) :
    Calls Try.prog 82 #[.pointer (some ⟨p, 0, none⟩), .int .i64 mode] w fun e w' => ∃ c, e = .returned (.pointer (some ⟨c, 0, none⟩)) ∧ w.heap.size ≤ c ∧ SG w' c (rootI x 0 mode) ∧ Below w.heap.size w w' := by
  have kF := fun W (h1 : GA W p 1 x.natAbs) => bRoot p 1 x.natAbs 0 W hl (by omega) h1
  have hq : (limbs (isqrt (x.natAbs * 4 / 2 ^ 0) / 2)).length ≤ 97 := by
    have h1 : isqrt (x.natAbs * 4 / 2 ^ 0) / 2 ≤ x.natAbs * 4 := Nat.le_trans (Nat.div_le_self _ _) (Nat.le_trans (isqrt_le _) (Nat.div_le_self _ _))
    have h2 := limbs_mono h1
    have h3 := mul_limbs_len x.natAbs 4
    have h5 : (limbs 4).length ≤ 1 := limbs_len_le _ 1 (by decide)
    omega
  have kR := fun W => bRounded (isqrt (x.natAbs * 4 / 2 ^ 0) / 2) (rootWh x.natAbs 0) (rootHf x.natAbs 0) mode false W hq h0 h4
  have hr := root_round x 0 mode h0 h4
  have HP := sp.sgg
  rw [if_neg (by simp), ← hr] at kR
  clear hr hq hl h0 h4
  generalize rootI x 0 mode = r at *
  generalize isqrt (x.natAbs * 4 / 2 ^ 0) / 2 = q at *
  generalize rootWh x.natAbs 0 = wh at *
  generalize rootHf x.natAbs 0 = hf at *
  generalize decide (x < 0) = g at *
  generalize x.natAbs = mx at *
  clear sp
  have HG := HP.2
  go_enter Try.func82, Try.ntmps82
  go_wp2_with fail
  refine (kF _ HG).mono ?_
  rintro e w4 ⟨rfl, b4⟩
  go_wp2_with fail
  refine (kR _).mono ?_
  rintro e w5 ⟨c, rfl, hc, sc, b5⟩
  have HB := b4.trans (b5.mono b4.size)
  have hcc := Nat.le_trans b4.size hc
  go_wp2
  go_ret
  exact ⟨c, rfl, hcc, sc, HB⟩

set_option maxRecDepth 20000 in
set_option maxHeartbeats 6400000 in
theorem rootedSpan_c (p q k : Nat) (x y : Int) (w : World) (sp : SG w p x) (sq : SG w q y) (m1 : (limbs x.natAbs).length ≤ 48) (m2 : (limbs y.natAbs).length ≤ 48) (hk : k ≤ 500) :
    Calls Try.prog 53 #[.agg #[.pointer (some ⟨p, 0, none⟩), .pointer (some ⟨q, 0, none⟩)], .int .i64 k] w (spanE (rtLo (x.natAbs * 2 ^ k)) (rtUp (y.natAbs * 2 ^ k) : Nat) w) := by
  have l1 : (limbs (x * 2 ^ k).natAbs).length ≤ 70 := by rw [Int.natAbs_mul, abs_pow2]; have := shl_len x.natAbs k; omega
  have l2 : (limbs (y * 2 ^ k).natAbs).length ≤ 70 := by rw [Int.natAbs_mul, abs_pow2]; have := shl_len y.natAbs k; omega
  have kS := fun W h => sgUp p x k W h (by omega) (by omega)
  have kP := fun W h => sgUp q y k W h (by omega) (by omega)
  have kR := fun c W h => rooted_c c (x * 2 ^ k) 0 W h l1 (by omega) (by omega)
  have kQ := fun c W h => rooted_c c (y * 2 ^ k) 1 W h l2 (by omega) (by omega)
  rw [root_lo, Int.natAbs_mul, abs_pow2] at kR
  rw [root_hi, Int.natAbs_mul, abs_pow2] at kQ
  unfold spanE
  clear l1 l2 m1 m2
  generalize rtLo (x.natAbs * 2 ^ k) = d1 at *
  generalize ((rtUp (y.natAbs * 2 ^ k) : Nat) : Int) = d2 at *
  generalize x * 2 ^ k = xk at *
  generalize y * 2 ^ k = yk at *
  have s1 : (w.alloc (.cells #[.pointer (some ⟨p, 0, none⟩), .pointer (some ⟨q, 0, none⟩)] 46)).heap.size = w.heap.size + 1 := by simp
  have E0 := (BoxW.made w (.pointer (some ⟨p, 0, none⟩)) (.pointer (some ⟨q, 0, none⟩)) 46).below (below1 _ (.cells #[.pointer none, .pointer none] 46)) (Nat.le_refl _)
  have R0 := BoxW.made (w.alloc (.cells #[.pointer (some ⟨p, 0, none⟩), .pointer (some ⟨q, 0, none⟩)] 46)) (.pointer none) (.pointer none) 46
  rw [s1] at R0
  have B0 := below2 w (.cells #[.pointer (some ⟨p, 0, none⟩), .pointer (some ⟨q, 0, none⟩)] 46) (.cells #[.pointer none, .pointer none] 46)
  have sp0 := sp.below B0 sp.lt
  have sq0 := sq.below B0 sq.lt
  clear s1 sp sq
  go_enter Try.func53, Try.ntmps53
  go_wp2_with fail
  generalize (w.alloc (.cells #[.pointer (some ⟨p, 0, none⟩), .pointer (some ⟨q, 0, none⟩)] 46)).alloc (.cells #[.pointer none, .pointer none] 46) = w0 at *
  have bd' := (Below.refl w0.heap.size w0).drew
  have E3 := E0.below bd' (Nat.le_refl _)
  have R3 := R0.below bd' (Nat.le_refl _)
  have B3 := B0.trans (bd'.mono B0.size)
  have sp3 := sp0.below bd' sp0.lt
  have sq3 := sq0.below bd' sq0.lt
  refine wp_region_held_drew (S := fun W => W.cell? ⟨w.heap.size, 0, none⟩ = some (.pointer (some ⟨p, 0, none⟩)) ∧ W.cell? ⟨w.heap.size, 1, none⟩ = some (.pointer (some ⟨q, 0, none⟩))) (by kernel_rfl) ⟨E3.c0, E3.c1⟩ ?_
  intro hHeld
  generalize w0.drew = w3 at *
  refine takeH 0 (some 5) (.pointer (some ⟨w.heap.size, 0, none⟩)) rfl rfl (by kernel_rfl) (by kernel_rfl) (by kernel_rfl) (fun _ _ _ h => h) (Or.inl ⟨rfl, fun W hW => by obtain _ := hW; go_simp⟩) (by assumption) ?_
  simp only [Act.put, List.setIfInBounds_toArray, List.set_cons_zero, List.set_cons_succ]
  refine takeH 1 (some 6) (.pointer (some ⟨p, 0, none⟩)) rfl rfl (by kernel_rfl) (by kernel_rfl) (by kernel_rfl) (fun _ _ _ h => h) (Or.inl ⟨rfl, fun W hW => by obtain ⟨_c, _⟩ := hW; go_simp⟩) (by assumption) ?_
  simp only [Act.put, List.setIfInBounds_toArray, List.set_cons_zero, List.set_cons_succ]
  refine takeH 2 (some 7) (.int .i64 k) rfl rfl (by kernel_rfl) (by kernel_rfl) (by kernel_rfl) (fun _ _ _ h => h) (yg_move rfl (.tmp 1) rfl _ rfl) (by assumption) ?_
  simp only [Act.put, List.setIfInBounds_toArray, List.set_cons_zero, List.set_cons_succ]
  refine takeH 5 (some 10) (.pointer (some ⟨w.heap.size, 1, none⟩)) rfl rfl (by kernel_rfl) (by kernel_rfl) (by kernel_rfl) (fun _ _ _ h => h) (Or.inl ⟨rfl, fun W hW => by obtain _ := hW; go_simp⟩) (by assumption) ?_
  simp only [Act.put, List.setIfInBounds_toArray, List.set_cons_zero, List.set_cons_succ]
  refine takeH 6 (some 11) (.pointer (some ⟨q, 0, none⟩)) rfl rfl (by kernel_rfl) (by kernel_rfl) (by kernel_rfl) (fun _ _ _ h => h) (Or.inl ⟨rfl, fun W hW => by obtain ⟨_, _c⟩ := hW; go_simp⟩) (by assumption) ?_
  simp only [Act.put, List.setIfInBounds_toArray, List.set_cons_zero, List.set_cons_succ]
  refine takeH 7 (some 12) (.int .i64 k) rfl rfl (by kernel_rfl) (by kernel_rfl) (by kernel_rfl) (fun _ _ _ h => h) (yg_move rfl (.tmp 1) rfl _ rfl) (by assumption) ?_
  simp only [Act.put, List.setIfInBounds_toArray, List.set_cons_zero, List.set_cons_succ]
  refine oneH 3 rfl (by kernel_rfl) (fun K' hK => ?_)
  go_simp
  refine (kS _ sp3).mono ?_
  rintro e w4 ⟨c, rfl, hc, sc, b4⟩
  have E4 := E3.below b4 (Nat.le_refl _)
  have R4 := R3.below b4 (Nat.le_refl _)
  have B4 := B3.trans (b4.mono B3.size)
  have sp4 := sp3.below b4 sp3.lt
  have sq4 := sq3.below b4 sq3.lt
  refine hK _ _ ⟨E4.c0, E4.c1⟩ ?_
  clear hK
  refine oneH 4 rfl (by kernel_rfl) (fun K' hK => ?_)
  go_simp
  refine (kR c _ sc).mono ?_
  rintro e w5 ⟨c2, rfl, hc2, sc2, b5⟩
  have E5 := E4.below b5 (Nat.le_refl _)
  have R5 := R4.below b5 (Nat.le_refl _)
  have B5 := B4.trans (b5.mono B4.size)
  have sp5 := sp4.below b5 sp4.lt
  have sq5 := sq4.below b5 sq4.lt
  have sc := sc.below b5 sc.lt
  refine hK _ _ ⟨E5.c0, E5.c1⟩ ?_
  clear hK
  refine oneH 8 rfl (by kernel_rfl) (fun K' hK => ?_)
  go_simp
  refine (kP _ sq5).mono ?_
  rintro e w6 ⟨d, rfl, hd, sd, b6⟩
  have E6 := E5.below b6 (Nat.le_refl _)
  have R6 := R5.below b6 (Nat.le_refl _)
  have B6 := B5.trans (b6.mono B5.size)
  have sp6 := sp5.below b6 sp5.lt
  have sq6 := sq5.below b6 sq5.lt
  have sc := sc.below b6 sc.lt
  have sc2 := sc2.below b6 sc2.lt
  refine hK _ _ ⟨E6.c0, E6.c1⟩ ?_
  clear hK
  refine oneH 9 rfl (by kernel_rfl) (fun K' hK => ?_)
  go_simp
  refine (kQ d _ sd).mono ?_
  rintro e w7 ⟨D2, rfl, hd2, sd2, b7⟩
  have E7 := E6.below b7 (Nat.le_refl _)
  have R7 := R6.below b7 (Nat.le_refl _)
  have B7 := B6.trans (b7.mono B6.size)
  have sp7 := sp6.below b7 sp6.lt
  have sq7 := sq6.below b7 sq6.lt
  have sc := sc.below b7 sc.lt
  have sc2 := sc2.below b7 sc2.lt
  have sd := sd.below b7 sd.lt
  refine hK _ _ ⟨E7.c0, E7.c1⟩ ?_
  clear hK
  have H5 : (fun W : World => W.cell? ⟨w.heap.size, 0, none⟩ = some (.pointer (some ⟨p, 0, none⟩)) ∧ W.cell? ⟨w.heap.size, 1, none⟩ = some (.pointer (some ⟨q, 0, none⟩))) w7 := ⟨E7.c0, E7.c1⟩
  refine takeH 10 (some 15) (.agg #[.pointer (some ⟨c2, 0, none⟩), .pointer (some ⟨D2, 0, none⟩)]) rfl rfl (by kernel_rfl) (by kernel_rfl) (by kernel_rfl) (fun _ _ _ h => h) (Or.inl ⟨rfl, fun W hW => by obtain _ := hW; go_simp⟩) (by assumption) ?_
  simp only [Act.put, List.setIfInBounds_toArray, List.set_cons_zero, List.set_cons_succ]
  have hR4 := R4.hi
  have hR6 := R6.hi
  have E8 := E7.tn ((tnC w7 (w.heap.size + 1) 0 (.pointer (some ⟨c2, 0, none⟩))).trans (tnC _ (w.heap.size + 1) 1 (.pointer (some ⟨D2, 0, none⟩)))) (fun k hk hs => by simp at hk hs; omega)
  have r0 := R7.c0
  have f0 := R7.f0
  have r1 := R7.c1
  have f1 := R7.f1
  refine oneH 11 rfl (by kernel_rfl) (fun K' hK => ?_)
  go_simp
  refine hK _ _ ⟨E8.c0, E8.c1⟩ ?_
  clear hK
  refine wpAnyH_done (by kernel_rfl) ?_ _
  have HC : Hid (SG _ c2 _) := sc2.tn ((tnC w7 (w.heap.size + 1) 0 (.pointer (some ⟨c2, 0, none⟩))).trans (tnC _ (w.heap.size + 1) 1 (.pointer (some ⟨D2, 0, none⟩)))) (fun h => by simp at h; omega)
  have HD : Hid (SG _ D2 _) := sd2.tn ((tnC w7 (w.heap.size + 1) 0 (.pointer (some ⟨c2, 0, none⟩))).trans (tnC _ (w.heap.size + 1) 1 (.pointer (some ⟨D2, 0, none⟩)))) (fun h => by simp at h; omega)
  have HB : Hid (Below w.heap.size w _) := ((B7.setCell (p := ⟨w.heap.size + 1, 0, none⟩) (by show w.heap.size ≤ w.heap.size + 1; omega) (.pointer (some ⟨c2, 0, none⟩))).setCell (p := ⟨w.heap.size + 1, 1, none⟩) (by show w.heap.size ≤ w.heap.size + 1; omega) (.pointer (some ⟨D2, 0, none⟩)))
  clear hHeld H5 E0 E3 E4 E5 E6 E7 E8 R0 R3 R4 R5 R6 R7 B0 B3 B4 B5 B6 B7 b4 b5 b6 b7 bd' sc sd sc2 sd2 kS kP kR kQ sp0 sp3 sp4 sp5 sp6 sp7 sq0 sq3 sq4 sq5 sq6 sq7
  go_wp2
  (try simp only [Exit.inBlock, Exit.then])
  refine bodyPost_ret (v := .agg #[.pointer (some ⟨c2, 0, none⟩), .pointer (some ⟨D2, 0, none⟩)]) ?_ rfl ⟨_, _, rfl, HC.out, HD.out, HB.out⟩
  rw [results_cell1 rfl]
  go_simp

end Go.Proofs.Ytmbopjjpepbgkaa

/- The specification's l3Root, by its contract. -/
namespace Go.Proofs.Ytmbopjjpepbgkaa
open Go.RowKit

set_option maxHeartbeats 3200000 in
/-- l3Root: the root, rounded down. -/
theorem sRoot (va : Value) (xs : List Int) (w : World) (ha : rowI w va xs) (hx : inR xs ∧ noZ xs) (hlx : xs.length ≤ 400000) :
    Calls Try.prog 55 #[va] w fun e w' => ∃ v, e = .returned v ∧ ownsI w' w.heap.size v (limbs (isqrt (num xs))) ∧ Below w.heap.size w w' := by
  obtain ⟨a1, cap1, rfl, -⟩ := id ha
  have ho := made_own w
  have hb0 : Below w.heap.size w (w.alloc (.cells #[] 3)) := (Below.refl _ _).alloc (Nat.le_refl _) _
  have hn0 := sBits _ xs (w.alloc (.cells #[] 3)) (ha.below hb0 (Nat.le_refl _)) hx (by omega)
  have hbl := nbits_len hx.1
  have hNx := lt_nbits (num xs)
  have HY : Hid (xs = limbs (num xs)) := eq_limbs hx
  obtain ⟨n, hn⟩ : ∃ n, num xs = n := ⟨_, rfl⟩
  rw [hn] at hn0 hbl hNx HY
  obtain ⟨N, hN⟩ : ∃ N, nbits n = N := ⟨_, rfl⟩
  rw [hN] at hn0 hbl hNx
  have HNX : Hid (n < 2 ^ N) := hNx
  have HNN : Hid (num xs = n) := hn
  have HLEN : Hid ((limbs n).length = xs.length) := by show _ = _; rw [← HY.out]
  clear hN hNx hn
  go_enter Try.func55, Try.ntmps55
  go_wp2_with fail
  refine hn0.mono ?_
  rintro e w2 ⟨rfl, rfl⟩
  clear hn0
  go_wp2
  go_loopw [3, 4] (fun v i wr => ∃ (m r : Nat), m ≤ (N + 1) / 2 + 1 ∧ i = .int .i64 ((m : Int) - 1) ∧ Hid (r * r ≤ n ∧ n < (r + 2 ^ m) * (r + 2 ^ m)) ∧ ownsI wr w.heap.size v (limbs r) ∧ Below w.heap.size w wr) (fun _ i _ => (intOf i + 1).toNat)
  case atStart =>
    refine ⟨(N + 1) / 2 + 1, 0, Nat.le_refl _, by go_num, ⟨Nat.zero_le _, ?_⟩, by rw [limbs_zero]; exact ho, hb0⟩
    rw [Nat.zero_add, ← Nat.pow_add]
    exact Nat.lt_of_lt_of_le HNX.out (Nat.pow_le_pow_right (by omega) (by omega))
  case round =>
    obtain ⟨m, r, hm, rfl, HR, hrest, hbw⟩ := hrel
    have hsz := hbw.size
    cases m with
    | zero =>
      have hr := isqrt_unique HR.out.1 HR.out.2
      rw [hr] at hrest
      have HE : Hid (n = num xs) := HNN.out.symm
      have hm1 : ((0 : Nat) : Int) - 1 = -1 := rfl
      rw [hm1]
      clear hr hm1 HR
      go_wp2
      go_ret
      exact ⟨_, rfl, by rw [← HE.out]; exact hrest, hbw⟩
    | succ k =>
      have hk1 : ((k + 1 : Nat) : Int) - 1 = (k : Int) := by omega
      rw [hk1]
      clear hk1
      have HS : Hid (if (r + 2 ^ k) * (r + 2 ^ k) ≤ n then (r + 2 ^ k) * (r + 2 ^ k) ≤ n ∧ n < (r + 2 ^ k + 2 ^ k) * (r + 2 ^ k + 2 ^ k) else r * r ≤ n ∧ n < (r + 2 ^ k) * (r + 2 ^ k)) := root_step HR.out.1 (by rw [show 2 * 2 ^ k = 2 ^ (k + 1) by rw [Nat.pow_succ]; omega]; exact HR.out.2)
      have hrn : r ≤ n := by
        have := HR.out.1
        by_cases h : r = 0
        · omega
        · have := Nat.le_mul_of_pos_right r (Nat.pos_of_ne_zero h); omega
      have hl1 := limbs_len_mono hrn
      rw [HLEN.out] at hl1
      have hl2 := pow2_limbs k
      have hl3 := add_limbs r (2 ^ k) (xs.length + 2) (by omega) (by omega)
      have hl4 := mul_limbs (r + 2 ^ k) (r + 2 ^ k)
      have ku := sUp _ [1] k (wr.alloc (.cells #[.int .i64 1] 3)) (one_row wr) inR_one (by simp) (by omega)
      rw [num_one, Nat.one_mul] at ku
      have HRR : Hid (r ≤ n) := hrn
      clear hrn
      have hrow0 := hrest.row
      go_wp2_with fail
      refine ku.mono ?_
      rintro e w3 ⟨v3, rfl, o3, b3⟩
      have B3 : Below wr.heap.size wr w3 := ((Below.refl wr.heap.size wr).alloc (Nat.le_refl _) _).trans (b3.mono (by simp))
      have o3' : ownsI w3 wr.heap.size v3 (limbs (2 ^ k)) := ownsI_mono o3 (by simp)
      clear ku b3 o3
      have kp := sPlus _ _ (limbs r) (limbs (2 ^ k)) w3 (hrow0.below B3 (Nat.le_refl _)) o3'.row (limbs_inR _) (limbs_inR _) (by omega) (by omega)
      rw [num_limbs, num_limbs] at kp
      go_wp2_with fail
      refine kp.mono ?_
      rintro e w4 ⟨v4, rfl, o4, b4⟩
      have B4 : Below wr.heap.size wr w4 := B3.trans (b4.mono B3.size)
      have o4' : ownsI w4 w.heap.size v4 (limbs (r + 2 ^ k)) := ownsI_mono o4 (Nat.le_trans hsz B3.size)
      clear kp b4 o4 o3' B3
      have kt := sTimes _ _ (limbs (r + 2 ^ k)) (limbs (r + 2 ^ k)) w4 o4'.row o4'.row (limbs_inR _) (limbs_inR _) (by omega) (by omega)
      rw [num_limbs] at kt
      go_wp2_with fail
      refine kt.mono ?_
      rintro e w5 ⟨v5, rfl, o5, b5⟩
      have B5 : Below wr.heap.size wr w5 := B4.trans (b5.mono B4.size)
      have o4'' := o4'.below b5 (Nat.le_refl _)
      have hr5 := hrest.below B5 (Nat.le_refl _)
      have kc := sCmp _ _ (limbs ((r + 2 ^ k) * (r + 2 ^ k))) xs w5 o5.row (ha.below (hbw.trans (B5.mono hsz)) (Nat.le_refl _)) (limbs_inR _) hx.1 (by omega) (by omega)
      rw [num_limbs, HNN.out] at kc
      clear kt o4' B4 b5 o5 hrest
      have hBB := hbw.trans (B5.mono hsz)
      by_cases hge : (r + 2 ^ k) * (r + 2 ^ k) ≤ n
      · have hc := cmpI_le hge
        have hcb := cmpI_bd ((r + 2 ^ k) * (r + 2 ^ k)) n
        obtain ⟨c, hcc⟩ : ∃ c, cmpI ((r + 2 ^ k) * (r + 2 ^ k)) n = c := ⟨_, rfl⟩
        rw [hcc] at kc hc hcb
        have HS2 := HS.out
        rw [if_pos hge] at HS2
        have HS3 : Hid ((r + 2 ^ k) * (r + 2 ^ k) ≤ n ∧ n < (r + 2 ^ k + 2 ^ k) * (r + 2 ^ k + 2 ^ k)) := HS2
        clear hcc hge HS2 HS
        go_wp2_with fail
        refine kc.mono ?_
        rintro e w5 ⟨rfl, rfl⟩
        go_wp2
        go_roundw
        case rel => exact ⟨k, r + 2 ^ k, by omega, by go_num, HS3, o4'', hBB⟩
        case measure => simp [intOf] <;> omega
      · have hc := cmpI_gt (Nat.lt_of_not_le hge)
        have hcb := cmpI_bd ((r + 2 ^ k) * (r + 2 ^ k)) n
        obtain ⟨c, hcc⟩ : ∃ c, cmpI ((r + 2 ^ k) * (r + 2 ^ k)) n = c := ⟨_, rfl⟩
        rw [hcc] at kc hc hcb
        have HS2 := HS.out
        rw [if_neg hge] at HS2
        have HS3 : Hid (r * r ≤ n ∧ n < (r + 2 ^ k) * (r + 2 ^ k)) := HS2
        clear hcc hge HS2 HS
        go_wp2_with fail
        refine kc.mono ?_
        rintro e w5 ⟨rfl, rfl⟩
        go_wp2
        go_roundw
        case rel => exact ⟨k, r, by omega, by go_num, HS3, hr5, hBB⟩
        case measure => simp [intOf] <;> omega

end Go.Proofs.Ytmbopjjpepbgkaa

/- The specification's l11Root, by its contract. -/
namespace Go.Proofs.Ytmbopjjpepbgkaa
open Go.RowKit
set_option linter.unusedSimpArgs false

set_option maxRecDepth 20000 in
set_option maxHeartbeats 6400000 in
theorem sVRoot (va : Value) (a : Vh) (x y k : Nat) (w : World) (ha : rowV w va a) (hx : a.1.2 = limbs x) (hy : a.2.2 = limbs y) (hlx : (limbs x).length ≤ 48) (hly : (limbs y).length ≤ 48) (hk : k ≤ 500) :
    Calls Try.prog 52 #[va, .int .i64 k] w fun e w' => ∃ v, e = .returned v ∧ ownsV w' w.heap.size v ((false, limbs (isqrt (x * 2 ^ k))), (false, limbs (rtUp (y * 2 ^ k)))) ∧ Below w.heap.size w w' := by
  obtain ⟨s, t, rfl, hs, ht⟩ := ha
  rw [hx] at hs
  rw [hy] at ht
  obtain ⟨ad, cap, rfl, -⟩ := id hs
  obtain ⟨ae, cbp, rfl, -⟩ := id ht
  have h1 := shl_len x k
  have h2 := shl_len y k
  have kU1 := fun W (h : Below w.heap.size w W) => sUp _ (limbs x) k W (hs.below h (Nat.le_refl _)) (limbs_inR x) (by omega) (by omega)
  have kU2 := fun W (h : Below w.heap.size w W) => sUp _ (limbs y) k W (ht.below h (Nat.le_refl _)) (limbs_inR y) (by omega) (by omega)
  rw [num_limbs] at kU1 kU2
  obtain ⟨n1, hn1⟩ : ∃ n, x * 2 ^ k = n := ⟨_, rfl⟩
  obtain ⟨n2, hn2⟩ : ∃ n, y * 2 ^ k = n := ⟨_, rfl⟩
  rw [hn1] at kU1 h1
  rw [hn2] at kU2 h2
  rw [hn1, hn2]
  have kR1 := fun v W (h : rowI W v (limbs n1)) => sRoot v (limbs n1) W h ⟨limbs_inR n1, limbs_noZ n1⟩ (by omega)
  have kR2 := fun v W (h : rowI W v (limbs n2)) => sRoot v (limbs n2) W h ⟨limbs_inR n2, limbs_noZ n2⟩ (by omega)
  rw [num_limbs] at kR1 kR2
  obtain ⟨m1, hm1⟩ : ∃ n, isqrt n1 = n := ⟨_, rfl⟩
  have h3 : (limbs (isqrt n2)).length ≤ (limbs n2).length := limbs_mono (isqrt_le n2)
  have hup : rtUp n2 = if isqrt n2 * isqrt n2 < n2 then isqrt n2 + 1 else isqrt n2 := rfl
  obtain ⟨m, hm⟩ : ∃ n, isqrt n2 = n := ⟨_, rfl⟩
  rw [hm1] at kR1
  rw [hm] at kR2 h3 hup
  rw [hm1]
  have h4 := mul_limbs_len m m
  have kT := fun v W (h : rowI W v (limbs m)) => sTimes v v (limbs m) (limbs m) W h h (limbs_inR m) (limbs_inR m) (by omega) (by omega)
  have kC := fun v v' W (h : rowI W v (limbs (m * m))) (h' : rowI W v' (limbs n2)) => sCmp v v' (limbs (m * m)) (limbs n2) W h h' (limbs_inR _) (limbs_inR _) (by omega) (by omega)
  have kP := fun v v' W (h : rowI W v (limbs m)) (h' : rowI W v' [1]) => sPlus v v' (limbs m) [1] W h h' (limbs_inR _) inR_one (by omega) (by simp)
  simp only [num_limbs, num_one] at kT kC kP
  generalize a.1.1 = g1 at *
  generalize a.2.1 = g2 at *
  generalize a.1.2.length = len at *
  generalize a.2.2.length = len2 at *
  generalize (limbs x).length = len at *
  generalize (limbs y).length = len2 at *
  have s1 : (w.alloc (.cells #[.bool g1, .slice ad len cap, .bool g2, .slice ae len2 cbp] 26)).heap.size = w.heap.size + 1 := by simp
  have X0 := (BoxV.made w (.bool g1) (.slice ad len cap) (.bool g2) (.slice ae len2 cbp) 26).below (below1 _ (.cells #[.bool false, .slice none 0 0, .bool false, .slice none 0 0] 26)) (Nat.le_refl _)
  have R0 := BoxV.made (w.alloc (.cells #[.bool g1, .slice ad len cap, .bool g2, .slice ae len2 cbp] 26)) (.bool false) (.slice none 0 0) (.bool false) (.slice none 0 0) 26
  rw [s1] at R0
  have B0 := below2 w (.cells #[.bool g1, .slice ad len cap, .bool g2, .slice ae len2 cbp] 26) (.cells #[.bool false, .slice none 0 0, .bool false, .slice none 0 0] 26)
  clear s1 hs ht hx hy hlx hly hk hn1 hn2 hm1 hm h1 h2 h3 h4
  have hcm : cmpI (m * m) n2 = if m * m < n2 then -1 else if n2 < m * m then 1 else 0 := rfl
  by_cases hlt : m * m < n2
  · rw [if_pos hlt] at hcm hup
    rw [hcm] at kC
    rw [hup]
    obtain ⟨m2, hm2⟩ : ∃ n, m + 1 = n := ⟨_, rfl⟩
    rw [hm2] at kP
    rw [hm2]
    clear hcm hup hlt hm2
    go_enter Try.func52, Try.ntmps52
    go_wp2_with fail
    refine (kU1 _ B0).mono ?_
    generalize (w.alloc (.cells #[.bool g1, .slice ad len cap, .bool g2, .slice ae len2 cbp] 26)).alloc (.cells #[.bool false, .slice none 0 0, .bool false, .slice none 0 0] 26) = w0 at *
    rintro e w1 ⟨v1, rfl, o1, b1⟩
    have X1 := X0.below b1 (Nat.le_refl _)
    have R1 := R0.below b1 (Nat.le_refl _)
    have B1 := B0.trans (b1.mono B0.size)
    go_wp2_with fail
    refine (kR1 v1 _ o1.row).mono ?_
    rintro e w2 ⟨v2, rfl, o2, b2⟩
    have X2 := X1.below b2 (Nat.le_refl _)
    have R2 := R1.below b2 (Nat.le_refl _)
    have B2 := B1.trans (b2.mono B1.size)
    have x2 := X2.c2
    have x3 := X2.c3
    go_wp2_with fail
    refine (kU2 _ B2).mono ?_
    rintro e w3 ⟨v3, rfl, o3, b3⟩
    have R3 := R2.below b3 (Nat.le_refl _)
    have B3 := B2.trans (b3.mono B2.size)
    have o2 := ownsI.below o2 b3 (Nat.le_refl _)
    clear x2 x3 X0 X1 X2
    go_wp2_with fail
    refine (kR2 v3 _ o3.row).mono ?_
    rintro e w4 ⟨v4, rfl, o4, b4⟩
    have R4 := R3.below b4 (Nat.le_refl _)
    have B4 := B3.trans (b4.mono B3.size)
    have o2 := ownsI.below o2 b4 (Nat.le_refl _)
    have o3 := ownsI.below o3 b4 (Nat.le_refl _)
    go_wp2_with fail
    refine (kT v4 _ o4.row).mono ?_
    rintro e w5 ⟨v5, rfl, o5, b5⟩
    have R5 := R4.below b5 (Nat.le_refl _)
    have B5 := B4.trans (b5.mono B4.size)
    have o2 := ownsI.below o2 b5 (Nat.le_refl _)
    have o3 := ownsI.below o3 b5 (Nat.le_refl _)
    have o4 := ownsI.below o4 b5 (Nat.le_refl _)
    go_wp2_with fail
    refine (kC v5 v3 _ o5.row o3.row).mono ?_
    rintro e w5' ⟨rfl, rfl⟩
    have hR := R0.hi
    have hz0 := B0.size
    have hz1 := b1.size
    have hz2 := b2.size
    have hz3 := b3.size
    have hz4 := b4.size
    have o2l := fun k hk => (o2.ltb k hk).2
    have b6' := below1 w5' (.cells #[.int .i64 1] 3)
    have q4 := o4.row.below b6' (Nat.le_refl _)
    go_wp2_with fail
    refine (kP v4 _ _ q4 (one_row w5')).mono ?_
    rintro e w6 ⟨v6, rfl, o6, b6''⟩
    have b6 : Below w5'.heap.size w5' w6 := b6'.trans (b6''.mono b6'.size)
    have R6 := R5.below b6 (Nat.le_refl _)
    have B6 := B5.trans (b6.mono B5.size)
    have o2 := ownsI.below o2 b6 (Nat.le_refl _)
    have hz5 := b5.size
    have hz6 := b6'.size
    have p6 : ownsI w6 w5'.heap.size v6 (limbs m2) := ownsI_mono o6 hz6
    have hap : Apart (blkI v2) (blkI v6) := apart_of (fun k hk => (o2l k hk)) (fun k hk => (p6.ltb k hk).1)
    obtain ⟨af, cf, rfl, -⟩ := o2.row
    obtain ⟨ag, cg, rfl, -⟩ := p6.row
    have q2' : ownsI w6 w1.heap.size (.slice af (limbs m1).length cf) (limbs m1) := o2
    have q6' : ownsI w6 w5'.heap.size (.slice ag (limbs m2).length cg) (limbs m2) := p6
    have r0 := R6.c0
    have f0 := R6.f0
    have r1 := R6.c1
    have f1 := R6.f1
    have r2 := R6.c2
    have f2 := R6.f2
    have r3 := R6.c3
    have f3 := R6.f3
    have HA : Hid (ownsI _ w1.heap.size (.slice af (limbs m1).length cf) (limbs m1)) := ((((q2'.other (w.heap.size + 1) 0 (by omega) (.bool false)).other (w.heap.size + 1) 1 (by omega) (.slice af (limbs m1).length cf)).other (w.heap.size + 1) 2 (by omega) (.bool false)).other (w.heap.size + 1) 3 (by omega) (.slice ag (limbs m2).length cg))
    have HZ : Hid (ownsI _ w5'.heap.size (.slice ag (limbs m2).length cg) (limbs m2)) := ((((q6'.other (w.heap.size + 1) 0 (by omega) (.bool false)).other (w.heap.size + 1) 1 (by omega) (.slice af (limbs m1).length cf)).other (w.heap.size + 1) 2 (by omega) (.bool false)).other (w.heap.size + 1) 3 (by omega) (.slice ag (limbs m2).length cg))
    have HB : Hid (Below w.heap.size w _) := ((((B6.setCell (p := ⟨w.heap.size + 1, 0, none⟩) (by show w.heap.size ≤ w.heap.size + 1; omega) (.bool false)).setCell (p := ⟨w.heap.size + 1, 1, none⟩) (by show w.heap.size ≤ w.heap.size + 1; omega) (.slice af (limbs m1).length cf)).setCell (p := ⟨w.heap.size + 1, 2, none⟩) (by show w.heap.size ≤ w.heap.size + 1; omega) (.bool false)).setCell (p := ⟨w.heap.size + 1, 3, none⟩) (by show w.heap.size ≤ w.heap.size + 1; omega) (.slice ag (limbs m2).length cg))
    have HP : Hid (Apart (blkI (.slice af (limbs m1).length cf)) (blkI (.slice ag (limbs m2).length cg))) := hap
    have hbA : w.heap.size ≤ w1.heap.size := by omega
    have hbZ : w.heap.size ≤ w5'.heap.size := by omega
    clear o2 o3 o4 o5 o2l q2' q6' hap R0 R1 R2 R3 R4 R5 B0 B1 B2 B3 B4 B5 b1 b2 b3 b4 b5 kU1 kU2 kR1 kR2 kT kC kP hz0 hz1 hz2 hz3 hz4 hR R6 B6 b6 b6' b6'' hz5 hz6 o6 p6 q4
    generalize (limbs m1).length = lf at *
    generalize (limbs m2).length = lg at *
    go_wp2
    (try simp only [Exit.inBlock, Exit.then])
    refine bodyPost_ret (v := .agg #[.bool false, .slice af lf cf, .bool false, .slice ag lg cg]) ?_ rfl ⟨_, rfl, ⟨_, _, rfl, ownsI_mono HA.out hbA, ownsI_mono HZ.out hbZ, HP.out⟩, HB.out⟩
    rw [results_cell1 rfl]
    go_simp
  · rw [if_neg hlt] at hcm hup
    rw [hup]
    have hc0 : ¬ cmpI (m * m) n2 < 0 := by rw [hcm]; split <;> omega
    have hc1 : decide (cmpI (m * m) n2 < 0) = false := decide_eq_false hc0
    generalize cmpI (m * m) n2 = cm at *
    obtain ⟨m2, rfl⟩ : ∃ n, n = m := ⟨_, rfl⟩
    clear hcm hup hlt
    go_enter Try.func52, Try.ntmps52
    go_wp2_with fail
    refine (kU1 _ B0).mono ?_
    generalize (w.alloc (.cells #[.bool g1, .slice ad len cap, .bool g2, .slice ae len2 cbp] 26)).alloc (.cells #[.bool false, .slice none 0 0, .bool false, .slice none 0 0] 26) = w0 at *
    rintro e w1 ⟨v1, rfl, o1, b1⟩
    have X1 := X0.below b1 (Nat.le_refl _)
    have R1 := R0.below b1 (Nat.le_refl _)
    have B1 := B0.trans (b1.mono B0.size)
    go_wp2_with fail
    refine (kR1 v1 _ o1.row).mono ?_
    rintro e w2 ⟨v2, rfl, o2, b2⟩
    have X2 := X1.below b2 (Nat.le_refl _)
    have R2 := R1.below b2 (Nat.le_refl _)
    have B2 := B1.trans (b2.mono B1.size)
    have x2 := X2.c2
    have x3 := X2.c3
    go_wp2_with fail
    refine (kU2 _ B2).mono ?_
    rintro e w3 ⟨v3, rfl, o3, b3⟩
    have R3 := R2.below b3 (Nat.le_refl _)
    have B3 := B2.trans (b3.mono B2.size)
    have o2 := ownsI.below o2 b3 (Nat.le_refl _)
    clear x2 x3 X0 X1 X2
    go_wp2_with fail
    refine (kR2 v3 _ o3.row).mono ?_
    rintro e w4 ⟨v4, rfl, o4, b4⟩
    have o2l := fun k hk => (o2.ltb k hk).2
    have R4 := R3.below b4 (Nat.le_refl _)
    have B4 := B3.trans (b4.mono B3.size)
    have o2 := ownsI.below o2 b4 (Nat.le_refl _)
    have o3 := ownsI.below o3 b4 (Nat.le_refl _)
    go_wp2_with fail
    refine (kT v4 _ o4.row).mono ?_
    rintro e w5 ⟨v5, rfl, o5, b5⟩
    have R5 := R4.below b5 (Nat.le_refl _)
    have B5 := B4.trans (b5.mono B4.size)
    have o2 := ownsI.below o2 b5 (Nat.le_refl _)
    have o3 := ownsI.below o3 b5 (Nat.le_refl _)
    have o4 := ownsI.below o4 b5 (Nat.le_refl _)
    go_wp2_with fail
    refine (kC v5 v3 _ o5.row o3.row).mono ?_
    rintro e w5' ⟨rfl, rfl⟩
    have hR := R0.hi
    have hz0 := B0.size
    have hz1 := b1.size
    have hz2 := b2.size
    have hz3 := b3.size
    have hz4 := b4.size
    have hap : Apart (blkI v2) (blkI v4) := apart_of (fun k hk => (o2l k hk)) (fun k hk => (o4.ltb k hk).1)
    obtain ⟨af, cf, rfl, -⟩ := o2.row
    obtain ⟨ag, cg, rfl, -⟩ := o4.row
    have q2' : ownsI w5' w1.heap.size (.slice af (limbs m1).length cf) (limbs m1) := o2
    have q6' : ownsI w5' w3.heap.size (.slice ag (limbs m2).length cg) (limbs m2) := o4
    have r0 := R5.c0
    have f0 := R5.f0
    have r1 := R5.c1
    have f1 := R5.f1
    have r2 := R5.c2
    have f2 := R5.f2
    have r3 := R5.c3
    have f3 := R5.f3
    have HA : Hid (ownsI _ w1.heap.size (.slice af (limbs m1).length cf) (limbs m1)) := ((((q2'.other (w.heap.size + 1) 0 (by omega) (.bool false)).other (w.heap.size + 1) 1 (by omega) (.slice af (limbs m1).length cf)).other (w.heap.size + 1) 2 (by omega) (.bool false)).other (w.heap.size + 1) 3 (by omega) (.slice ag (limbs m2).length cg))
    have HZ : Hid (ownsI _ w3.heap.size (.slice ag (limbs m2).length cg) (limbs m2)) := ((((q6'.other (w.heap.size + 1) 0 (by omega) (.bool false)).other (w.heap.size + 1) 1 (by omega) (.slice af (limbs m1).length cf)).other (w.heap.size + 1) 2 (by omega) (.bool false)).other (w.heap.size + 1) 3 (by omega) (.slice ag (limbs m2).length cg))
    have HB : Hid (Below w.heap.size w _) := ((((B5.setCell (p := ⟨w.heap.size + 1, 0, none⟩) (by show w.heap.size ≤ w.heap.size + 1; omega) (.bool false)).setCell (p := ⟨w.heap.size + 1, 1, none⟩) (by show w.heap.size ≤ w.heap.size + 1; omega) (.slice af (limbs m1).length cf)).setCell (p := ⟨w.heap.size + 1, 2, none⟩) (by show w.heap.size ≤ w.heap.size + 1; omega) (.bool false)).setCell (p := ⟨w.heap.size + 1, 3, none⟩) (by show w.heap.size ≤ w.heap.size + 1; omega) (.slice ag (limbs m2).length cg))
    have HP : Hid (Apart (blkI (.slice af (limbs m1).length cf)) (blkI (.slice ag (limbs m2).length cg))) := hap
    have hbA : w.heap.size ≤ w1.heap.size := by omega
    have hbZ : w.heap.size ≤ w3.heap.size := by omega
    clear o2 o3 o4 o5 o2l q2' q6' hap R0 R1 R2 R3 R4 R5 B0 B1 B2 B3 B4 B5 b1 b2 b3 b4 b5 kU1 kU2 kR1 kR2 kT kC kP hz0 hz1 hz2 hz3 hz4 hR
    generalize (limbs m1).length = lf at *
    generalize (limbs m2).length = lg at *
    go_wp2
    (try simp only [Exit.inBlock, Exit.then])
    refine bodyPost_ret (v := .agg #[.bool false, .slice af lf cf, .bool false, .slice ag lg cg]) ?_ rfl ⟨_, rfl, ⟨_, _, rfl, ownsI_mono HA.out hbA, ownsI_mono HZ.out hbZ, HP.out⟩, HB.out⟩
    rw [results_cell1 rfl]
    go_simp

end Go.Proofs.Ytmbopjjpepbgkaa
