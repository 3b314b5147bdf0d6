/- FnDivided: quotient times divisor and what is left over make the number again: the walk. -/
import Derived.Test.YtppeabnipnokhaaLTop
import Derived.Test.YtppeabnipnokhaaQTop
import Derived.Test.YtppeabnipnokhaaINatMul
import Derived.Test.YtppeabnipnokhaaINatAdd
import Derived.Test.YtppeabnipnokhaaINatCmp
namespace Go.Proofs.Ytppeabnipnokhaa
open Go.RowKit

theorem div_facts {xs ys qs rs : List Int} (h : divR xs ys = (qs, rs, true)) :
    okB xs = true ∧ okB ys = true ∧ 0 < ys.length ∧ qs.length ≤ 48 ∧ rs.length ≤ 48 ∧ ∃ ps, mulR qs ys = (ps, true) ∧ ps.length ≤ 48 ∧ addR ps rs = (xs, true) ∧ cmpR rs ys = -1 := by
  unfold divR at h
  split at h
  · rename_i hc
    obtain ⟨h1, h2, h3⟩ := hc
    simp only [Prod.mk.injEq, and_true] at h
    obtain ⟨rfl, rfl⟩ := h
    have hy : 0 < num ys := by
      rcases Nat.eq_zero_or_pos (num ys) with h0 | h0
      · have := ok_limbs h2
        rw [h0, limbs_zero] at this
        exact absurd this.symm h3
      · exact h0
    have m1 : num xs / num ys * num ys ≤ num xs := Nat.div_mul_le_self _ _
    have m2 : num xs / num ys * num ys + num xs % num ys = num xs := by rw [Nat.mul_comm]; exact Nat.div_add_mod _ _
    have m3 := Nat.mod_lt (num xs) hy
    have d1 := limbs_le48 h1 (Nat.div_le_self (num xs) (num ys))
    have d2 := limbs_le48 h1 (Nat.mod_le (num xs) (num ys))
    have d3 := limbs_le48 h1 m1
    refine ⟨h1, h2, List.length_pos_iff.2 h3, d1, d2, limbs (num xs / num ys * num ys), ?_, d3, ?_, ?_⟩
    · rw [mulR, if_pos ⟨okB_limbs d1, h2⟩, num_limbs, fitR_yes d3]
    · rw [addR, if_pos ⟨okB_limbs d3, okB_limbs d2⟩, num_limbs, num_limbs, m2, fitR_yes (limbs_le48 h1 (Nat.le_refl _)), ok_limbs h1]
    · rw [cmpR, if_pos ⟨okB_limbs d2, h2⟩, num_limbs, cmpI, if_pos m3]
  · cases h
theorem div_no {xs ys qs rs : List Int} (h : divR xs ys = (qs, rs, false)) : qs = [] ∧ rs = [] ∧ (okB xs = false ∨ (okB xs = true ∧ okB ys = false) ∨ (okB xs = true ∧ okB ys = true ∧ ys = [])) := by
  unfold divR at h
  split at h
  · cases h
  · rename_i hc
    cases h
    refine ⟨rfl, rfl, ?_⟩
    cases h1 : okB xs
    · exact .inl rfl
    · refine .inr ?_
      cases h2 : okB ys
      · exact .inl ⟨rfl, rfl⟩
      · refine .inr ⟨rfl, rfl, ?_⟩
        cases ys with
        | nil => rfl
        | cons x r => exact absurd ⟨h1, h2, by simp⟩ hc

set_option maxRecDepth 20000 in
set_option maxHeartbeats 6400000 in
theorem divided_in (a : Option Addr) (len cap : Nat) (zs : List Int) (w : World) (hlen : len ≤ 1048576) (h : CodeIs w a len cap zs) :
    Calls Try.prog 5 #[.slice a len cap] w fun e w' => e = .returned (.bool true) ∧ Below w.heap.size w w' := by
  go_enter Try.func5, Try.ntmps5
  go_wp2_with fail
  refine (big_no a len cap w hlen).mono ?_
  rintro e w ⟨rfl, rfl⟩
  go_wp2_with fail
  refine (drDiv a len cap zs w hlen h).mono ?_
  rintro e w1 ⟨va, vb, xs, ys, rfl, Ra, Rb, la, lb, B⟩
  clear h
  obtain ⟨qs, rs, o, hr⟩ : ∃ qs rs o, divR xs ys = (qs, rs, o) := ⟨_, _, _, rfl⟩
  obtain ⟨ae, ce, rfl, -⟩ := id Rb
  obtain ⟨n, hn⟩ : ∃ n, ys.length = n := ⟨_, rfl⟩
  rw [hn] at Rb
  rw [hn]
  have HN : Hid (ys.length = n) := hn
  clear hn
  have k2 := iNatDiv _ _ xs ys w1 Ra Rb (by omega) (by omega)
  rw [hr] at k2
  go_wp2_with fail
  refine k2.mono ?_
  rintro e w2 ⟨v2, u2, rfl, o2, p2, -, b2⟩
  replace Ra := Ra.below b2 (Nat.le_refl _)
  replace Rb := Rb.below b2 (Nat.le_refl _)
  replace B := B.trans (b2.mono B.size)
  have Rq := o2.row
  have Rr := p2.row
  clear k2 o2 p2 b2
  cases o
  · obtain ⟨rfl, rfl, hc⟩ := div_no hr
    clear hr
    obtain ⟨aq, cq, rfl, -⟩ := id Rq
    obtain ⟨ar, cr, rfl, -⟩ := id Rr
    rcases hc with h1 | ⟨h1, h2⟩ | ⟨h1, h2, h3⟩
    · have k3 := sNatOk _ xs _ Ra (by omega)
      rw [h1] at k3
      go_wp2_with fail
      refine k3.mono ?_
      rintro e w3 ⟨rfl, rfl⟩
      clear k3
      clear h1
      go_wp2
      go_ret
      exact ⟨rfl, B⟩
    · have k3 := sNatOk _ xs _ Ra (by omega)
      rw [h1] at k3
      go_wp2_with fail
      refine k3.mono ?_
      rintro e w3 ⟨rfl, rfl⟩
      clear k3
      clear h1
      have k4 := sNatOk _ ys _ Rb (by omega)
      rw [h2] at k4
      go_wp2_with fail
      refine k4.mono ?_
      rintro e w4 ⟨rfl, rfl⟩
      clear k4
      clear h2
      go_wp2
      go_ret
      exact ⟨rfl, B⟩
    · have hn0 : ¬ (0 : Int) < (n : Int) := by have := HN.out; rw [h3] at this; simp at this; omega
      clear h3
      have k3 := sNatOk _ xs _ Ra (by omega)
      rw [h1] at k3
      go_wp2_with fail
      refine k3.mono ?_
      rintro e w3 ⟨rfl, rfl⟩
      clear k3
      clear h1
      have k4 := sNatOk _ ys _ Rb (by omega)
      rw [h2] at k4
      go_wp2_with fail
      refine k4.mono ?_
      rintro e w4 ⟨rfl, rfl⟩
      clear k4
      clear h2
      go_wp2
      go_ret
      exact ⟨rfl, B⟩
  · obtain ⟨h1, h2, h3, lq, lr, ps, f1, lp, f2, f3⟩ := div_facts hr
    clear hr
    have hn0 : (0 : Int) < (n : Int) := by have := HN.out; omega
    have hn1 : 0 < n := by omega
    clear h3
    have k3 := sNatOk _ xs _ Ra (by omega)
    rw [h1] at k3
    go_wp2_with fail
    refine k3.mono ?_
    rintro e w3 ⟨rfl, rfl⟩
    clear k3
    clear h1
    have k4 := sNatOk _ ys _ Rb (by omega)
    rw [h2] at k4
    go_wp2_with fail
    refine k4.mono ?_
    rintro e w4 ⟨rfl, rfl⟩
    clear k4
    clear h2
    have k5 := iNatMul _ _ qs ys _ Rq Rb (by omega) (by omega)
    rw [f1] at k5
    go_wp2_with fail
    refine k5.mono ?_
    rintro e w5 ⟨v5, rfl, o5, b5⟩
    replace Ra := Ra.below b5 (Nat.le_refl _)
    replace Rb := Rb.below b5 (Nat.le_refl _)
    replace Rq := Rq.below b5 (Nat.le_refl _)
    replace Rr := Rr.below b5 (Nat.le_refl _)
    replace B := B.trans (b5.mono B.size)
    have Rp := o5.row
    clear k5 o5 b5
    have k6 := iNatAdd _ _ ps rs _ Rp Rr (by omega) (by omega)
    rw [f2] at k6
    go_wp2_with fail
    refine k6.mono ?_
    rintro e w6 ⟨v6, rfl, o6, b6⟩
    replace Ra := Ra.below b6 (Nat.le_refl _)
    replace Rb := Rb.below b6 (Nat.le_refl _)
    replace Rq := Rq.below b6 (Nat.le_refl _)
    replace Rr := Rr.below b6 (Nat.le_refl _)
    replace Rp := Rp.below b6 (Nat.le_refl _)
    replace B := B.trans (b6.mono B.size)
    have Rs := o6.row
    clear k6 o6 b6
    have k7 := sameI _ _ xs xs _ Rs Ra (by omega)
    rw [show decide (xs = xs) = true from decide_eq_true rfl] at k7
    go_wp2_with fail
    refine k7.mono ?_
    rintro e w7 ⟨rfl, b7⟩
    replace Ra := Ra.below b7 (Nat.le_refl _)
    replace Rb := Rb.below b7 (Nat.le_refl _)
    replace Rq := Rq.below b7 (Nat.le_refl _)
    replace Rr := Rr.below b7 (Nat.le_refl _)
    replace Rp := Rp.below b7 (Nat.le_refl _)
    replace Rs := Rs.below b7 (Nat.le_refl _)
    replace B := B.trans (b7.mono B.size)
    clear k7 b7
    have k8 := iNatCmp _ _ rs ys _ Rr Rb (by omega) (by omega)
    rw [f3] at k8
    go_wp2_with fail
    refine k8.mono ?_
    rintro e w8 ⟨rfl, b8⟩
    replace Ra := Ra.below b8 (Nat.le_refl _)
    replace Rb := Rb.below b8 (Nat.le_refl _)
    replace Rq := Rq.below b8 (Nat.le_refl _)
    replace Rr := Rr.below b8 (Nat.le_refl _)
    replace Rp := Rp.below b8 (Nat.le_refl _)
    replace Rs := Rs.below b8 (Nat.le_refl _)
    replace B := B.trans (b8.mono B.size)
    clear k8 b8
    go_wp2
    go_ret
    exact ⟨rfl, B⟩

set_option maxRecDepth 20000 in
set_option maxHeartbeats 1600000 in
theorem walkDivided (a0 : Option Addr) (len0 cap0 : Nat) (z0 : List Int) (w : World) (h : IsRow .u8 w a0 len0 cap0 z0) :
    Calls Try.prog 5 #[.slice a0 len0 cap0] w fun e w' => e = .returned (.bool true) ∧ Below w.heap.size w w' := by
  refine law_big _ (fun a len cap w hs => ?_) divided_in a0 len0 cap0 z0 w h
  go_enter Try.func5, Try.ntmps5
  go_wp2_with (go_at_call 7; refine (big_yes a len cap w hs).mono ?_; rintro e w ⟨rfl, rfl⟩)
  go_ret
  exact ⟨rfl, Below.refl _ _⟩

end Go.Proofs.Ytppeabnipnokhaa
