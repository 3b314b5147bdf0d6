/- FnRooted: a root's square is at most the number, and the next one's is not: the walk. -/
import Derived.Test.YtppeabnipnokhaaDrQ
import Derived.Test.YtppeabnipnokhaaLawM
import Derived.Test.YtppeabnipnokhaaINatRoot
import Derived.Test.YtppeabnipnokhaaINatMul
import Derived.Test.YtppeabnipnokhaaINatAdd
import Derived.Test.YtppeabnipnokhaaINatCmp
namespace Go.Proofs.Ytppeabnipnokhaa
open Go.RowKit

theorem pow48 : (16777216 : Nat) ^ 48 = 16777216 ^ 24 * 16777216 ^ 24 := by rw [← Nat.pow_add]
theorem root_facts {xs rs : List Int} (h : rootR xs = (rs, true)) :
    okB xs = true ∧ rs.length ≤ 48 ∧ ∃ ss ns ts f c d, mulR rs rs = (ss, true) ∧ ss.length ≤ 48 ∧ addR rs [1] = (ns, true) ∧ ns.length ≤ 48 ∧ mulR ns ns = (ts, f) ∧ ts.length ≤ 48 ∧ cmpR ss xs = c ∧ c ≤ 0 ∧ -1 ≤ c ∧ cmpR ts xs = d ∧ (f = true → d = 1) := by
  unfold rootR at h
  split at h
  · rename_i h1
    simp only [Prod.mk.injEq, and_true] at h
    subst h
    obtain ⟨i1, i2⟩ := isqrt_spec (num xs)
    have d1 := limbs_le48 h1 (isqrt_le (num xs))
    have d2 := limbs_le48 h1 i1
    have hx : num xs < 16777216 ^ 48 := okL_lt ((okB_iff xs).1 h1)
    have hr : isqrt (num xs) < 16777216 ^ 24 := by
      apply Classical.byContradiction
      intro hn
      have := Nat.mul_le_mul (Nat.le_of_not_lt hn) (Nat.le_of_not_lt hn)
      rw [← pow48] at this
      omega
    have d3 : (limbs (isqrt (num xs) + 1)).length ≤ 48 := by
      refine Nat.le_trans (limbs_len_le _ 25 ?_) (by omega)
      have e : (16777216 : Nat) ^ 25 = 16777216 ^ 24 * 16777216 := rfl
      omega
    have n1 : num [1] = 1 := by decide
    have k1 : okB [1] = true := by decide
    obtain ⟨ts, f, hf⟩ : ∃ ts f, fitR ((isqrt (num xs) + 1) * (isqrt (num xs) + 1)) = (ts, f) := ⟨_, _, rfl⟩
    refine ⟨h1, d1, limbs (isqrt (num xs) * isqrt (num xs)), limbs (isqrt (num xs) + 1), ts, f, cmpI (isqrt (num xs) * isqrt (num xs)) (num xs), cmpR ts xs, ?_, d2, ?_, d3, ?_, ?_, ?_, cmpI_le i1, (cmpI_bd _ _).1, rfl, fun h => ?_⟩
    · rw [mulR, if_pos ⟨okB_limbs d1, okB_limbs d1⟩, num_limbs, fitR_yes d2]
    · rw [addR, if_pos ⟨okB_limbs d1, k1⟩, num_limbs, n1, fitR_yes d3]
    · rw [mulR, if_pos ⟨okB_limbs d3, okB_limbs d3⟩, num_limbs, hf]
    · cases f
      · unfold fitR at hf
        split at hf
        · cases hf
        · cases hf; simp
      · exact (fitR_true hf).2
    · rw [cmpR, if_pos ⟨okB_limbs d2, h1⟩, num_limbs]
    · subst h
      obtain ⟨rfl, hl⟩ := fitR_true hf
      rw [cmpR, if_pos ⟨okB_limbs hl, h1⟩, num_limbs, cmpI, if_neg (by omega), if_pos i2]
  · cases h
theorem root_no {xs rs : List Int} (h : rootR xs = (rs, false)) : rs = [] ∧ okB xs = false := by
  unfold rootR at h
  split at h
  · cases h
  · rename_i hc
    cases h
    exact ⟨rfl, by simpa using hc⟩
theorem one_row (w : World) : rowI (w.alloc (.cells #[.int .i64 1] 3)) (.slice (some ⟨w.heap.size, 0, none⟩) 1 1) [1] := by
  refine ⟨_, 1, rfl, by simp, by unfold maxLen; omega, (by intro h; cases h), (by intro x hx; cases hx; rfl), fun j hj => ⟨w.heap.size, 0, rfl, by simp, ?_⟩⟩
  have := lit_cells w [1] 3 j hj
  rw [Nat.zero_add]
  exact this

set_option maxRecDepth 20000 in
set_option maxHeartbeats 6400000 in
theorem rooted_in (a : Option Addr) (len cap : Nat) (zs : List Int) (w : World) (hlen : len ≤ 1048576) (h : CodeIs w a len cap zs) :
    Calls Try.prog 6 #[.slice a len cap] w fun e w' => e = .returned (.bool true) ∧ Below w.heap.size w w' := by
  go_enter Try.func6, Try.ntmps6
  go_wp2_with fail
  refine (big_no a len cap w hlen).mono ?_
  rintro e w ⟨rfl, rfl⟩
  go_wp2_with fail
  refine (drRoot a len cap zs w hlen h).mono ?_
  rintro e w1 ⟨va, xs, rfl, Ra, la, B⟩
  clear h
  obtain ⟨rs, o, hr⟩ : ∃ rs o, rootR xs = (rs, o) := ⟨_, _, rfl⟩
  have k2 := iNatRoot _ xs w1 Ra (by omega)
  rw [hr] at k2
  go_wp2_with fail
  refine k2.mono ?_
  rintro e w2 ⟨v2, rfl, o2, b2⟩
  replace Ra := Ra.below b2 (Nat.le_refl _)
  replace B := B.trans (b2.mono B.size)
  have Rr := o2.row
  clear k2 o2 b2
  cases o
  · obtain ⟨rfl, h1⟩ := root_no hr
    clear hr
    obtain ⟨ar, cr, rfl, -⟩ := id Rr
    have k3 := sNatOk _ xs _ Ra (by omega)
    rw [h1] at k3
    go_wp2_with fail
    refine k3.mono ?_
    rintro e w3 ⟨rfl, rfl⟩
    clear k3
    clear h1
    go_wp2
    go_ret
    exact ⟨rfl, B⟩
  · obtain ⟨h1, lr, ss, ns, ts, f, c, d, f1, ls, f2, ln, f3, lt, f4, c0, c1, f5, f6⟩ := root_facts hr
    clear hr
    have k3 := sNatOk _ xs _ Ra (by omega)
    rw [h1] at k3
    go_wp2_with fail
    refine k3.mono ?_
    rintro e w3 ⟨rfl, rfl⟩
    clear k3
    clear h1
    have k4 := iNatMul _ _ rs rs _ Rr Rr (by omega) (by omega)
    rw [f1] at k4
    go_wp2_with fail
    refine k4.mono ?_
    rintro e w4 ⟨v4, rfl, o4, b4⟩
    replace Ra := Ra.below b4 (Nat.le_refl _)
    replace Rr := Rr.below b4 (Nat.le_refl _)
    replace B := B.trans (b4.mono B.size)
    have Rs := o4.row
    clear k4 o4 b4
    have b9 : Below w4.heap.size w4 (w4.alloc (.cells #[.int .i64 1] 3)) := (Below.refl _ _).alloc (Nat.le_refl _) _
    replace Ra := Ra.below b9 (Nat.le_refl _)
    replace Rr := Rr.below b9 (Nat.le_refl _)
    replace Rs := Rs.below b9 (Nat.le_refl _)
    replace B := B.trans (b9.mono B.size)
    have R1 := one_row w4
    clear b9
    have k5 := iNatAdd _ _ rs [1] _ Rr R1 (by omega) (by simp)
    rw [f2] at k5
    go_wp2_with fail
    refine k5.mono ?_
    rintro e w5 ⟨v5, rfl, o5, b5⟩
    replace Ra := Ra.below b5 (Nat.le_refl _)
    replace Rr := Rr.below b5 (Nat.le_refl _)
    replace Rs := Rs.below b5 (Nat.le_refl _)
    replace R1 := R1.below b5 (Nat.le_refl _)
    replace B := B.trans (b5.mono B.size)
    have Rn := o5.row
    clear k5 o5 b5
    clear R1
    have k6 := iNatMul _ _ ns ns _ Rn Rn (by omega) (by omega)
    rw [f3] at k6
    go_wp2_with fail
    refine k6.mono ?_
    rintro e w6 ⟨v6, rfl, o6, b6⟩
    replace Ra := Ra.below b6 (Nat.le_refl _)
    replace Rr := Rr.below b6 (Nat.le_refl _)
    replace Rs := Rs.below b6 (Nat.le_refl _)
    replace Rn := Rn.below b6 (Nat.le_refl _)
    replace B := B.trans (b6.mono B.size)
    have Rt := o6.row
    clear k6 o6 b6
    have k7 := iNatCmp _ _ ss xs _ Rs Ra (by omega) (by omega)
    rw [f4] at k7
    go_wp2_with fail
    refine k7.mono ?_
    rintro e w7 ⟨rfl, b7⟩
    replace Ra := Ra.below b7 (Nat.le_refl _)
    replace Rr := Rr.below b7 (Nat.le_refl _)
    replace Rs := Rs.below b7 (Nat.le_refl _)
    replace Rn := Rn.below b7 (Nat.le_refl _)
    replace Rt := Rt.below b7 (Nat.le_refl _)
    replace B := B.trans (b7.mono B.size)
    clear k7 b7
    have k8 := iNatCmp _ _ ss xs _ Rs Ra (by omega) (by omega)
    rw [f4] at k8
    go_wp2_with fail
    refine k8.mono ?_
    rintro e w8 ⟨rfl, b8⟩
    replace Ra := Ra.below b8 (Nat.le_refl _)
    replace Rr := Rr.below b8 (Nat.le_refl _)
    replace Rs := Rs.below b8 (Nat.le_refl _)
    replace Rn := Rn.below b8 (Nat.le_refl _)
    replace Rt := Rt.below b8 (Nat.le_refl _)
    replace B := B.trans (b8.mono B.size)
    clear k8 b8
    cases f
    · go_wp2
      go_ret
      exact ⟨rfl, B⟩
    · have f6 := f6 rfl
      have k9 := iNatCmp _ _ ts xs _ Rt Ra (by omega) (by omega)
      rw [f5, f6] at k9
      go_wp2_with fail
      refine k9.mono ?_
      rintro e w9 ⟨rfl, b9⟩
      replace Ra := Ra.below b9 (Nat.le_refl _)
      replace Rr := Rr.below b9 (Nat.le_refl _)
      replace Rs := Rs.below b9 (Nat.le_refl _)
      replace Rn := Rn.below b9 (Nat.le_refl _)
      replace Rt := Rt.below b9 (Nat.le_refl _)
      replace B := B.trans (b9.mono B.size)
      clear k9 b9
      go_wp2
      go_ret
      exact ⟨rfl, B⟩

set_option maxRecDepth 20000 in
set_option maxHeartbeats 1600000 in
theorem walkRooted (a0 : Option Addr) (len0 cap0 : Nat) (z0 : List Int) (w : World) (h : IsRow .u8 w a0 len0 cap0 z0) :
    Calls Try.prog 6 #[.slice a0 len0 cap0] w fun e w' => e = .returned (.bool true) ∧ Below w.heap.size w w' := by
  refine law_big _ (fun a len cap w hs => ?_) rooted_in a0 len0 cap0 z0 w h
  go_enter Try.func6, Try.ntmps6
  go_wp2_with (go_at_call 7; refine (big_yes a len cap w hs).mono ?_; rintro e w ⟨rfl, rfl⟩)
  go_ret
  exact ⟨rfl, Below.refl _ _⟩

end Go.Proofs.Ytppeabnipnokhaa
