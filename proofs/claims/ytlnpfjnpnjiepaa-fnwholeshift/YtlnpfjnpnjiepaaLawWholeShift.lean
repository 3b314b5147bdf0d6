/- FnWholeShift: a floor by 2^k times 2^k is at most the number and less than 2^k below it: the walk. -/
import Derived.Test.YtlnpfjnpnjiepaaDrWS
import Derived.Test.YtlnpfjnpnjiepaaLT
import Derived.Test.YtlnpfjnpnjiepaaIWholeShift
import Derived.Test.YtlnpfjnpnjiepaaSWScale
import Derived.Test.YtlnpfjnpnjiepaaIWholeSub
import Derived.Test.YtlnpfjnpnjiepaaINatInt
namespace Go.Proofs.Ytlnpfjnpnjiepaa
open Go.RowKit
set_option linter.unusedSimpArgs false

theorem two_le (J L : Nat) (h : J ≤ 24 * L) : 2 ^ J ≤ 16777216 ^ L := by
  rw [base_pow]
  exact Nat.pow_le_pow_right (by omega) h
theorem wshift_no {a d : Wh} {k : Int} (h : wshiftR a k = (d, false)) : d = (false, []) := by
  unfold wshiftR at h
  split at h
  · exact fitW_false h
  · cases h; rfl
theorem wshift_facts {a d : Wh} {J : Int} (hJ : 0 ≤ J) (h : wshiftR a (-J) = (d, true)) :
    okW a = true ∧ J ≤ 1152 ∧ d.2.length ≤ 48 ∧ ∃ u f r g b, wshiftR d J = (u, f) ∧ u.2.length ≤ 48 ∧ wsubR a u = (r, g) ∧ r.2.length ≤ 48 ∧ bitsR r.2 = b ∧ (f = true → g = true ∧ r.1 = false ∧ b ≤ J) := by
  unfold wshiftR at h
  split at h
  · rename_i hc
    obtain ⟨h1, h2, h3⟩ := hc
    obtain ⟨rfl, hl⟩ := fitW_true h
    have hs : scaleI (valW a) (-J) = valW a / 2 ^ J.toNat := by
      unfold scaleI
      split
      · have e : J = 0 := by omega
        subst e
        simp
      · rw [Int.neg_neg]
    rw [hs] at hl ⊢
    have hp : (0 : Int) < 2 ^ J.toNat := Int.pow_pos (by omega)
    have ho := okW_mk hl
    have hj : J ≤ 1152 := by omega
    have hup : wshiftR (mkW (valW a / 2 ^ J.toNat)) J = fitW (valW a / 2 ^ J.toNat * 2 ^ J.toNat) := by
      unfold wshiftR
      rw [if_pos ⟨ho, by omega, hj⟩, mkW_val]
      unfold scaleI
      rw [if_pos hJ]
    obtain ⟨u, f, hf⟩ : ∃ u f, fitW (valW a / 2 ^ J.toNat * 2 ^ J.toNat) = (u, f) := ⟨_, _, rfl⟩
    have hul : u.2.length ≤ 48 := by have := fitW_len48 (valW a / 2 ^ J.toNat * 2 ^ J.toNat); rw [hf] at this; exact this
    obtain ⟨r, g, hr⟩ : ∃ r g, wsubR a u = (r, g) := ⟨_, _, rfl⟩
    have hrl : r.2.length ≤ 48 := by
      unfold wsubR at hr
      split at hr
      · have := fitW_len48 (valW a - valW u); rw [hr] at this; exact this
      · cases hr; simp
    refine ⟨h1, hj, hl, u, f, r, g, bitsR r.2, by rw [hup, hf], hul, hr, hrl, rfl, fun hft => ?_⟩
    subst hft
    obtain ⟨rfl, hl2⟩ := fitW_true hf
    have hd0 := Int.ediv_mul_le (valW a) (show (2 : Int) ^ J.toNat ≠ 0 by omega)
    have hd1 := Int.lt_ediv_add_one_mul_self (valW a) hp
    rw [Int.add_mul, Int.one_mul] at hd1
    obtain ⟨D, hD⟩ : ∃ D, valW a / 2 ^ J.toNat * 2 ^ J.toNat = D := ⟨_, rfl⟩
    rw [hD] at hr hd0 hd1 hl2
    have hlt : (valW a - D).natAbs < 2 ^ J.toNat := by
      have e : ((2 ^ J.toNat : Nat) : Int) = (2 : Int) ^ J.toNat := by simp
      omega
    have hlen : (limbs (valW a - D).natAbs).length ≤ 48 := by
      exact limbs_len_le _ 48 (Nat.lt_of_lt_of_le hlt (two_le _ 48 (by omega)))
    rw [wsubR, if_pos ⟨h1, okW_mk hl2⟩, mkW_val, fitW_yes hlen] at hr
    cases hr
    refine ⟨rfl, ?_, ?_⟩
    · show decide (valW a - D < 0) = false
      exact decide_eq_false (by omega)
    · show bitsR (limbs (valW a - D).natAbs) ≤ J
      rw [bitsR, if_pos (okB_yes (okL_limbs hlen)), num_limbs]
      have := nbits_le_pow J.toNat _ hlt
      omega
  · cases h

set_option maxRecDepth 20000 in
set_option maxHeartbeats 6400000 in
theorem wshift_in (a : Option Addr) (len cap : Nat) (zs : List Int) (w : World) (hlen : len ≤ 1048576) (h : CodeIs w a len cap zs) :
    Calls Try.prog 4 #[.slice a len cap] w fun e w' => e = .returned (.bool true) ∧ Below w.heap.size w w' := by
  go_enter Try.func4, Try.ntmps4
  go_wp2_with fail
  refine (big_no a len cap w hlen).mono ?_
  rintro e w ⟨rfl, rfl⟩
  go_wp2_with fail
  refine (drWShift a len cap zs w hlen h).mono ?_
  rintro e w1 ⟨v1, ra, k, rfl, Ra, la, k0, k1, B⟩
  clear h
  obtain ⟨s1, rfl, q1⟩ := id Ra
  obtain ⟨ad1, cp1, rfl, -⟩ := q1
  have bb := below1 w1 (.cells #[.bool ra.1, .slice ad1 ra.2.length cp1] 26)
  replace Ra := Ra.below bb (Nat.le_refl _)
  replace B := B.trans (bb.mono B.size)
  clear bb
  have Xa := BoxW.made w1 (.bool ra.1) (.slice ad1 ra.2.length cp1) 26
  by_cases hk : 0 < k
  · have hJ : 0 ≤ k := by omega
    obtain ⟨d, o, hd⟩ : ∃ d o, wshiftR ra (-k) = (d, o) := ⟨_, _, rfl⟩
    have ld : d.2.length ≤ 1048576 := by have := wshiftR_len ra (-k); rw [hd] at this; exact this
    have c0a := Xa.c0
    have c1a := Xa.c1
    go_wp2_with fail
    clear c0a c1a
    generalize w1.alloc (.cells #[.bool ra.1, .slice ad1 ra.2.length cp1] 26) = w2 at *
    have k3 := iWholeShift _ ra (-k) w2 Ra (by omega)
    rw [hd] at k3
    refine k3.mono ?_
    rintro e w3 ⟨v3, rfl, o3, b3⟩
    replace Ra := Ra.below b3 (Nat.le_refl _)
    replace Xa := Xa.below b3 (Nat.le_refl _)
    replace B := B.trans (b3.mono B.size)
    clear b3 k3
    obtain ⟨s3, rfl, q3⟩ := o3
    obtain ⟨ad3, cp3, rfl, -⟩ := q3.row
    have Rd : rowW w3 (.agg #[.bool d.1, .slice ad3 d.2.length cp3]) d := ⟨_, rfl, q3.row⟩
    clear q3
    have d0a := Xa.c0
    have d1a := Xa.c1
    have dha := Xa.hi
    have bb := below1 w3 (.cells #[.bool d.1, .slice ad3 d.2.length cp3] 26)
    replace Ra := Ra.below bb (Nat.le_refl _)
    replace Rd := Rd.below bb (Nat.le_refl _)
    replace Xa := Xa.below bb (Nat.le_refl _)
    replace B := B.trans (bb.mono B.size)
    clear bb
    have Xd := BoxW.made w3 (.bool d.1) (.slice ad3 d.2.length cp3) 26
    have c0a := Xa.c0
    have c1a := Xa.c1
    have c0d := Xd.c0
    have c1d := Xd.c1
    go_wp2_with fail
    clear c0a c1a c0d c1d
    clear d0a d1a dha
    generalize w3.alloc (.cells #[.bool d.1, .slice ad3 d.2.length cp3] 26) = w4 at *
    have k5 := sWholeShift _ ra (-k) w4 Ra (by omega)
    rw [hd] at k5
    refine k5.mono ?_
    rintro e w5 ⟨v5, rfl, o5, b5⟩
    replace Ra := Ra.below b5 (Nat.le_refl _)
    replace Rd := Rd.below b5 (Nat.le_refl _)
    replace Xa := Xa.below b5 (Nat.le_refl _)
    replace Xd := Xd.below b5 (Nat.le_refl _)
    replace B := B.trans (b5.mono B.size)
    clear b5 k5
    obtain ⟨s5, rfl, q5⟩ := o5
    obtain ⟨ad5, cp5, rfl, -⟩ := q5.row
    clear q5
    have d0a := Xa.c0
    have d1a := Xa.c1
    have dha := Xa.hi
    have d0d := Xd.c0
    have d1d := Xd.c1
    have dhd := Xd.hi
    have bb := below1 w5 (.cells #[.bool d.1, .slice ad5 d.2.length cp5] 26)
    replace Ra := Ra.below bb (Nat.le_refl _)
    replace Rd := Rd.below bb (Nat.le_refl _)
    replace Xa := Xa.below bb (Nat.le_refl _)
    replace Xd := Xd.below bb (Nat.le_refl _)
    replace B := B.trans (bb.mono B.size)
    clear bb
    have Xz5 := BoxW.made w5 (.bool d.1) (.slice ad5 d.2.length cp5) 26
    have HD : Hid (wshiftR ra (-k) = (d, o)) := hd
    clear hd
    cases o
    · have e := wshift_no HD.out
      subst e
      have c0a := Xa.c0
      have c1a := Xa.c1
      have c0d := Xd.c0
      have c1d := Xd.c1
      have c0z5 := Xz5.c0
      have c1z5 := Xz5.c1
      go_wp2
      go_ret
      exact ⟨rfl, B⟩
    · obtain ⟨-, hj, ld48, u, f, ⟨rg, rl⟩, g, b, f1, lu, f2, lr, f3, f4⟩ := wshift_facts hJ HD.out
      clear HD
      have f3 : bitsR rl = b := f3
      have lr : rl.length ≤ 48 := lr
      have c0a := Xa.c0
      have c1a := Xa.c1
      have c0d := Xd.c0
      have c1d := Xd.c1
      have c0z5 := Xz5.c0
      have c1z5 := Xz5.c1
      go_wp2_with fail
      clear c0a c1a c0d c1d c0z5 c1z5
      clear d0a d1a dha d0d d1d dhd
      generalize w5.alloc (.cells #[.bool d.1, .slice ad5 d.2.length cp5] 26) = w6 at *
      have k7 := iWholeShift _ d k w6 Rd (by omega)
      rw [f1] at k7
      refine k7.mono ?_
      rintro e w7 ⟨v7, rfl, o7, b7⟩
      replace Ra := Ra.below b7 (Nat.le_refl _)
      replace Rd := Rd.below b7 (Nat.le_refl _)
      replace Xa := Xa.below b7 (Nat.le_refl _)
      replace Xd := Xd.below b7 (Nat.le_refl _)
      replace Xz5 := Xz5.below b7 (Nat.le_refl _)
      replace B := B.trans (b7.mono B.size)
      clear b7 k7
      obtain ⟨s7, rfl, q7⟩ := o7
      obtain ⟨ad7, cp7, rfl, -⟩ := q7.row
      have Ru : rowW w7 (.agg #[.bool u.1, .slice ad7 u.2.length cp7]) u := ⟨_, rfl, q7.row⟩
      clear q7
      have d0a := Xa.c0
      have d1a := Xa.c1
      have dha := Xa.hi
      have d0d := Xd.c0
      have d1d := Xd.c1
      have dhd := Xd.hi
      have d0z5 := Xz5.c0
      have d1z5 := Xz5.c1
      have dhz5 := Xz5.hi
      have bb := below1 w7 (.cells #[.bool u.1, .slice ad7 u.2.length cp7] 26)
      replace Ra := Ra.below bb (Nat.le_refl _)
      replace Rd := Rd.below bb (Nat.le_refl _)
      replace Ru := Ru.below bb (Nat.le_refl _)
      replace Xa := Xa.below bb (Nat.le_refl _)
      replace Xd := Xd.below bb (Nat.le_refl _)
      replace Xz5 := Xz5.below bb (Nat.le_refl _)
      replace B := B.trans (bb.mono B.size)
      clear bb
      have Xu := BoxW.made w7 (.bool u.1) (.slice ad7 u.2.length cp7) 26
      clear f1
      cases f
      · clear f4
        have c0a := Xa.c0
        have c1a := Xa.c1
        have c0d := Xd.c0
        have c1d := Xd.c1
        have c0z5 := Xz5.c0
        have c1z5 := Xz5.c1
        have c0u := Xu.c0
        have c1u := Xu.c1
        go_wp2_with fail
        clear c0a c1a c0d c1d c0z5 c1z5 c0u c1u
        clear d0a d1a dha d0d d1d dhd d0z5 d1z5 dhz5
        generalize w7.alloc (.cells #[.bool u.1, .slice ad7 u.2.length cp7] 26) = w8 at *
        have k9 := iWholeSub _ _ ra u w8 Ra Ru (by omega) (by omega)
        rw [f2] at k9
        refine k9.mono ?_
        rintro e w9 ⟨v9, rfl, o9, b9⟩
        replace Ra := Ra.below b9 (Nat.le_refl _)
        replace Rd := Rd.below b9 (Nat.le_refl _)
        replace Ru := Ru.below b9 (Nat.le_refl _)
        replace Xa := Xa.below b9 (Nat.le_refl _)
        replace Xd := Xd.below b9 (Nat.le_refl _)
        replace Xz5 := Xz5.below b9 (Nat.le_refl _)
        replace Xu := Xu.below b9 (Nat.le_refl _)
        replace B := B.trans (b9.mono B.size)
        clear b9 k9
        obtain ⟨s9, rfl, q9⟩ := o9
        obtain ⟨ad9, cp9, rfl, -⟩ := q9.row
        have Rr : rowW w9 (.agg #[.bool rg, .slice ad9 rl.length cp9]) (rg, rl) := ⟨_, rfl, q9.row⟩
        clear q9
        have d0a := Xa.c0
        have d1a := Xa.c1
        have dha := Xa.hi
        have d0d := Xd.c0
        have d1d := Xd.c1
        have dhd := Xd.hi
        have d0z5 := Xz5.c0
        have d1z5 := Xz5.c1
        have dhz5 := Xz5.hi
        have d0u := Xu.c0
        have d1u := Xu.c1
        have dhu := Xu.hi
        have bb := below1 w9 (.cells #[.bool rg, .slice ad9 rl.length cp9] 26)
        replace Ra := Ra.below bb (Nat.le_refl _)
        replace Rd := Rd.below bb (Nat.le_refl _)
        replace Ru := Ru.below bb (Nat.le_refl _)
        replace Rr := Rr.below bb (Nat.le_refl _)
        replace Xa := Xa.below bb (Nat.le_refl _)
        replace Xd := Xd.below bb (Nat.le_refl _)
        replace Xz5 := Xz5.below bb (Nat.le_refl _)
        replace Xu := Xu.below bb (Nat.le_refl _)
        replace B := B.trans (bb.mono B.size)
        clear bb
        have Xr := BoxW.made w9 (.bool rg) (.slice ad9 rl.length cp9) 26
        have c0a := Xa.c0
        have c1a := Xa.c1
        have c0d := Xd.c0
        have c1d := Xd.c1
        have c0z5 := Xz5.c0
        have c1z5 := Xz5.c1
        have c0u := Xu.c0
        have c1u := Xu.c1
        have c0r := Xr.c0
        have c1r := Xr.c1
        go_wp2
        go_ret
        exact ⟨rfl, B⟩
      · obtain ⟨rfl, f5, f6⟩ := f4 rfl
        clear f4
        have f5 : rg = false := f5
        subst f5
        have c0a := Xa.c0
        have c1a := Xa.c1
        have c0d := Xd.c0
        have c1d := Xd.c1
        have c0z5 := Xz5.c0
        have c1z5 := Xz5.c1
        have c0u := Xu.c0
        have c1u := Xu.c1
        go_wp2_with fail
        clear c0a c1a c0d c1d c0z5 c1z5 c0u c1u
        clear d0a d1a dha d0d d1d dhd d0z5 d1z5 dhz5
        generalize w7.alloc (.cells #[.bool u.1, .slice ad7 u.2.length cp7] 26) = w8 at *
        have k9 := iWholeSub _ _ ra u w8 Ra Ru (by omega) (by omega)
        rw [f2] at k9
        refine k9.mono ?_
        rintro e w9 ⟨v9, rfl, o9, b9⟩
        replace Ra := Ra.below b9 (Nat.le_refl _)
        replace Rd := Rd.below b9 (Nat.le_refl _)
        replace Ru := Ru.below b9 (Nat.le_refl _)
        replace Xa := Xa.below b9 (Nat.le_refl _)
        replace Xd := Xd.below b9 (Nat.le_refl _)
        replace Xz5 := Xz5.below b9 (Nat.le_refl _)
        replace Xu := Xu.below b9 (Nat.le_refl _)
        replace B := B.trans (b9.mono B.size)
        clear b9 k9
        obtain ⟨s9, rfl, q9⟩ := o9
        obtain ⟨ad9, cp9, rfl, -⟩ := q9.row
        have Rr : rowW w9 (.agg #[.bool false, .slice ad9 rl.length cp9]) (false, rl) := ⟨_, rfl, q9.row⟩
        clear q9
        have d0a := Xa.c0
        have d1a := Xa.c1
        have dha := Xa.hi
        have d0d := Xd.c0
        have d1d := Xd.c1
        have dhd := Xd.hi
        have d0z5 := Xz5.c0
        have d1z5 := Xz5.c1
        have dhz5 := Xz5.hi
        have d0u := Xu.c0
        have d1u := Xu.c1
        have dhu := Xu.hi
        have bb := below1 w9 (.cells #[.bool false, .slice ad9 rl.length cp9] 26)
        replace Ra := Ra.below bb (Nat.le_refl _)
        replace Rd := Rd.below bb (Nat.le_refl _)
        replace Ru := Ru.below bb (Nat.le_refl _)
        replace Rr := Rr.below bb (Nat.le_refl _)
        replace Xa := Xa.below bb (Nat.le_refl _)
        replace Xd := Xd.below bb (Nat.le_refl _)
        replace Xz5 := Xz5.below bb (Nat.le_refl _)
        replace Xu := Xu.below bb (Nat.le_refl _)
        replace B := B.trans (bb.mono B.size)
        clear bb
        have Xr := BoxW.made w9 (.bool false) (.slice ad9 rl.length cp9) 26
        clear f2
        have c0a := Xa.c0
        have c1a := Xa.c1
        have c0d := Xd.c0
        have c1d := Xd.c1
        have c0z5 := Xz5.c0
        have c1z5 := Xz5.c1
        have c0u := Xu.c0
        have c1u := Xu.c1
        have c0r := Xr.c0
        have c1r := Xr.c1
        go_wp2_with fail
        clear c0a c1a c0d c1d c0z5 c1z5 c0u c1u c0r c1r
        clear d0a d1a dha d0d d1d dhd d0z5 d1z5 dhz5 d0u d1u dhu
        generalize w9.alloc (.cells #[.bool false, .slice ad9 rl.length cp9] 26) = w10 at *
        have k11 := iNatBits _ rl w10 (rowW.mag Rr) (by omega)
        rw [f3] at k11
        refine k11.mono ?_
        rintro e w11 ⟨rfl, b11⟩
        replace Ra := Ra.below b11 (Nat.le_refl _)
        replace Rd := Rd.below b11 (Nat.le_refl _)
        replace Ru := Ru.below b11 (Nat.le_refl _)
        replace Rr := Rr.below b11 (Nat.le_refl _)
        replace Xa := Xa.below b11 (Nat.le_refl _)
        replace Xd := Xd.below b11 (Nat.le_refl _)
        replace Xz5 := Xz5.below b11 (Nat.le_refl _)
        replace Xu := Xu.below b11 (Nat.le_refl _)
        replace Xr := Xr.below b11 (Nat.le_refl _)
        replace B := B.trans (b11.mono B.size)
        clear k11 b11
        have c0a := Xa.c0
        have c1a := Xa.c1
        have c0d := Xd.c0
        have c1d := Xd.c1
        have c0z5 := Xz5.c0
        have c1z5 := Xz5.c1
        have c0u := Xu.c0
        have c1u := Xu.c1
        have c0r := Xr.c0
        have c1r := Xr.c1
        go_wp2
        go_ret
        exact ⟨rfl, B⟩
  · obtain ⟨J, rfl⟩ : ∃ J, k = -J := ⟨-k, by omega⟩
    have hJ : 0 ≤ J := by omega
    have hJ2 : ¬ J < 0 := by omega
    obtain ⟨d, o, hd⟩ : ∃ d o, wshiftR ra (-J) = (d, o) := ⟨_, _, rfl⟩
    have ld : d.2.length ≤ 1048576 := by have := wshiftR_len ra (-J); rw [hd] at this; exact this
    have c0a := Xa.c0
    have c1a := Xa.c1
    go_wp2_with fail
    clear c0a c1a
    generalize w1.alloc (.cells #[.bool ra.1, .slice ad1 ra.2.length cp1] 26) = w2 at *
    have k3 := iWholeShift _ ra (-J) w2 Ra (by omega)
    rw [hd] at k3
    refine k3.mono ?_
    rintro e w3 ⟨v3, rfl, o3, b3⟩
    replace Ra := Ra.below b3 (Nat.le_refl _)
    replace Xa := Xa.below b3 (Nat.le_refl _)
    replace B := B.trans (b3.mono B.size)
    clear b3 k3
    obtain ⟨s3, rfl, q3⟩ := o3
    obtain ⟨ad3, cp3, rfl, -⟩ := q3.row
    have Rd : rowW w3 (.agg #[.bool d.1, .slice ad3 d.2.length cp3]) d := ⟨_, rfl, q3.row⟩
    clear q3
    have d0a := Xa.c0
    have d1a := Xa.c1
    have dha := Xa.hi
    have bb := below1 w3 (.cells #[.bool d.1, .slice ad3 d.2.length cp3] 26)
    replace Ra := Ra.below bb (Nat.le_refl _)
    replace Rd := Rd.below bb (Nat.le_refl _)
    replace Xa := Xa.below bb (Nat.le_refl _)
    replace B := B.trans (bb.mono B.size)
    clear bb
    have Xd := BoxW.made w3 (.bool d.1) (.slice ad3 d.2.length cp3) 26
    have c0a := Xa.c0
    have c1a := Xa.c1
    have c0d := Xd.c0
    have c1d := Xd.c1
    go_wp2_with fail
    clear c0a c1a c0d c1d
    clear d0a d1a dha
    generalize w3.alloc (.cells #[.bool d.1, .slice ad3 d.2.length cp3] 26) = w4 at *
    have k5 := sWholeShift _ ra (-J) w4 Ra (by omega)
    rw [hd] at k5
    refine k5.mono ?_
    rintro e w5 ⟨v5, rfl, o5, b5⟩
    replace Ra := Ra.below b5 (Nat.le_refl _)
    replace Rd := Rd.below b5 (Nat.le_refl _)
    replace Xa := Xa.below b5 (Nat.le_refl _)
    replace Xd := Xd.below b5 (Nat.le_refl _)
    replace B := B.trans (b5.mono B.size)
    clear b5 k5
    obtain ⟨s5, rfl, q5⟩ := o5
    obtain ⟨ad5, cp5, rfl, -⟩ := q5.row
    clear q5
    have d0a := Xa.c0
    have d1a := Xa.c1
    have dha := Xa.hi
    have d0d := Xd.c0
    have d1d := Xd.c1
    have dhd := Xd.hi
    have bb := below1 w5 (.cells #[.bool d.1, .slice ad5 d.2.length cp5] 26)
    replace Ra := Ra.below bb (Nat.le_refl _)
    replace Rd := Rd.below bb (Nat.le_refl _)
    replace Xa := Xa.below bb (Nat.le_refl _)
    replace Xd := Xd.below bb (Nat.le_refl _)
    replace B := B.trans (bb.mono B.size)
    clear bb
    have Xz5 := BoxW.made w5 (.bool d.1) (.slice ad5 d.2.length cp5) 26
    have HD : Hid (wshiftR ra (-J) = (d, o)) := hd
    clear hd
    cases o
    · have e := wshift_no HD.out
      subst e
      have c0a := Xa.c0
      have c1a := Xa.c1
      have c0d := Xd.c0
      have c1d := Xd.c1
      have c0z5 := Xz5.c0
      have c1z5 := Xz5.c1
      go_wp2
      go_ret
      exact ⟨rfl, B⟩
    · obtain ⟨-, hj, ld48, u, f, ⟨rg, rl⟩, g, b, f1, lu, f2, lr, f3, f4⟩ := wshift_facts hJ HD.out
      clear HD
      have f3 : bitsR rl = b := f3
      have lr : rl.length ≤ 48 := lr
      have c0a := Xa.c0
      have c1a := Xa.c1
      have c0d := Xd.c0
      have c1d := Xd.c1
      have c0z5 := Xz5.c0
      have c1z5 := Xz5.c1
      go_wp2_with fail
      clear c0a c1a c0d c1d c0z5 c1z5
      clear d0a d1a dha d0d d1d dhd
      generalize w5.alloc (.cells #[.bool d.1, .slice ad5 d.2.length cp5] 26) = w6 at *
      have k7 := iWholeShift _ d J w6 Rd (by omega)
      rw [f1] at k7
      refine k7.mono ?_
      rintro e w7 ⟨v7, rfl, o7, b7⟩
      replace Ra := Ra.below b7 (Nat.le_refl _)
      replace Rd := Rd.below b7 (Nat.le_refl _)
      replace Xa := Xa.below b7 (Nat.le_refl _)
      replace Xd := Xd.below b7 (Nat.le_refl _)
      replace Xz5 := Xz5.below b7 (Nat.le_refl _)
      replace B := B.trans (b7.mono B.size)
      clear b7 k7
      obtain ⟨s7, rfl, q7⟩ := o7
      obtain ⟨ad7, cp7, rfl, -⟩ := q7.row
      have Ru : rowW w7 (.agg #[.bool u.1, .slice ad7 u.2.length cp7]) u := ⟨_, rfl, q7.row⟩
      clear q7
      have d0a := Xa.c0
      have d1a := Xa.c1
      have dha := Xa.hi
      have d0d := Xd.c0
      have d1d := Xd.c1
      have dhd := Xd.hi
      have d0z5 := Xz5.c0
      have d1z5 := Xz5.c1
      have dhz5 := Xz5.hi
      have bb := below1 w7 (.cells #[.bool u.1, .slice ad7 u.2.length cp7] 26)
      replace Ra := Ra.below bb (Nat.le_refl _)
      replace Rd := Rd.below bb (Nat.le_refl _)
      replace Ru := Ru.below bb (Nat.le_refl _)
      replace Xa := Xa.below bb (Nat.le_refl _)
      replace Xd := Xd.below bb (Nat.le_refl _)
      replace Xz5 := Xz5.below bb (Nat.le_refl _)
      replace B := B.trans (bb.mono B.size)
      clear bb
      have Xu := BoxW.made w7 (.bool u.1) (.slice ad7 u.2.length cp7) 26
      clear f1
      cases f
      · clear f4
        have c0a := Xa.c0
        have c1a := Xa.c1
        have c0d := Xd.c0
        have c1d := Xd.c1
        have c0z5 := Xz5.c0
        have c1z5 := Xz5.c1
        have c0u := Xu.c0
        have c1u := Xu.c1
        go_wp2_with fail
        clear c0a c1a c0d c1d c0z5 c1z5 c0u c1u
        clear d0a d1a dha d0d d1d dhd d0z5 d1z5 dhz5
        generalize w7.alloc (.cells #[.bool u.1, .slice ad7 u.2.length cp7] 26) = w8 at *
        have k9 := iWholeSub _ _ ra u w8 Ra Ru (by omega) (by omega)
        rw [f2] at k9
        refine k9.mono ?_
        rintro e w9 ⟨v9, rfl, o9, b9⟩
        replace Ra := Ra.below b9 (Nat.le_refl _)
        replace Rd := Rd.below b9 (Nat.le_refl _)
        replace Ru := Ru.below b9 (Nat.le_refl _)
        replace Xa := Xa.below b9 (Nat.le_refl _)
        replace Xd := Xd.below b9 (Nat.le_refl _)
        replace Xz5 := Xz5.below b9 (Nat.le_refl _)
        replace Xu := Xu.below b9 (Nat.le_refl _)
        replace B := B.trans (b9.mono B.size)
        clear b9 k9
        obtain ⟨s9, rfl, q9⟩ := o9
        obtain ⟨ad9, cp9, rfl, -⟩ := q9.row
        have Rr : rowW w9 (.agg #[.bool rg, .slice ad9 rl.length cp9]) (rg, rl) := ⟨_, rfl, q9.row⟩
        clear q9
        have d0a := Xa.c0
        have d1a := Xa.c1
        have dha := Xa.hi
        have d0d := Xd.c0
        have d1d := Xd.c1
        have dhd := Xd.hi
        have d0z5 := Xz5.c0
        have d1z5 := Xz5.c1
        have dhz5 := Xz5.hi
        have d0u := Xu.c0
        have d1u := Xu.c1
        have dhu := Xu.hi
        have bb := below1 w9 (.cells #[.bool rg, .slice ad9 rl.length cp9] 26)
        replace Ra := Ra.below bb (Nat.le_refl _)
        replace Rd := Rd.below bb (Nat.le_refl _)
        replace Ru := Ru.below bb (Nat.le_refl _)
        replace Rr := Rr.below bb (Nat.le_refl _)
        replace Xa := Xa.below bb (Nat.le_refl _)
        replace Xd := Xd.below bb (Nat.le_refl _)
        replace Xz5 := Xz5.below bb (Nat.le_refl _)
        replace Xu := Xu.below bb (Nat.le_refl _)
        replace B := B.trans (bb.mono B.size)
        clear bb
        have Xr := BoxW.made w9 (.bool rg) (.slice ad9 rl.length cp9) 26
        have c0a := Xa.c0
        have c1a := Xa.c1
        have c0d := Xd.c0
        have c1d := Xd.c1
        have c0z5 := Xz5.c0
        have c1z5 := Xz5.c1
        have c0u := Xu.c0
        have c1u := Xu.c1
        have c0r := Xr.c0
        have c1r := Xr.c1
        go_wp2
        go_ret
        exact ⟨rfl, B⟩
      · obtain ⟨rfl, f5, f6⟩ := f4 rfl
        clear f4
        have f5 : rg = false := f5
        subst f5
        have c0a := Xa.c0
        have c1a := Xa.c1
        have c0d := Xd.c0
        have c1d := Xd.c1
        have c0z5 := Xz5.c0
        have c1z5 := Xz5.c1
        have c0u := Xu.c0
        have c1u := Xu.c1
        go_wp2_with fail
        clear c0a c1a c0d c1d c0z5 c1z5 c0u c1u
        clear d0a d1a dha d0d d1d dhd d0z5 d1z5 dhz5
        generalize w7.alloc (.cells #[.bool u.1, .slice ad7 u.2.length cp7] 26) = w8 at *
        have k9 := iWholeSub _ _ ra u w8 Ra Ru (by omega) (by omega)
        rw [f2] at k9
        refine k9.mono ?_
        rintro e w9 ⟨v9, rfl, o9, b9⟩
        replace Ra := Ra.below b9 (Nat.le_refl _)
        replace Rd := Rd.below b9 (Nat.le_refl _)
        replace Ru := Ru.below b9 (Nat.le_refl _)
        replace Xa := Xa.below b9 (Nat.le_refl _)
        replace Xd := Xd.below b9 (Nat.le_refl _)
        replace Xz5 := Xz5.below b9 (Nat.le_refl _)
        replace Xu := Xu.below b9 (Nat.le_refl _)
        replace B := B.trans (b9.mono B.size)
        clear b9 k9
        obtain ⟨s9, rfl, q9⟩ := o9
        obtain ⟨ad9, cp9, rfl, -⟩ := q9.row
        have Rr : rowW w9 (.agg #[.bool false, .slice ad9 rl.length cp9]) (false, rl) := ⟨_, rfl, q9.row⟩
        clear q9
        have d0a := Xa.c0
        have d1a := Xa.c1
        have dha := Xa.hi
        have d0d := Xd.c0
        have d1d := Xd.c1
        have dhd := Xd.hi
        have d0z5 := Xz5.c0
        have d1z5 := Xz5.c1
        have dhz5 := Xz5.hi
        have d0u := Xu.c0
        have d1u := Xu.c1
        have dhu := Xu.hi
        have bb := below1 w9 (.cells #[.bool false, .slice ad9 rl.length cp9] 26)
        replace Ra := Ra.below bb (Nat.le_refl _)
        replace Rd := Rd.below bb (Nat.le_refl _)
        replace Ru := Ru.below bb (Nat.le_refl _)
        replace Rr := Rr.below bb (Nat.le_refl _)
        replace Xa := Xa.below bb (Nat.le_refl _)
        replace Xd := Xd.below bb (Nat.le_refl _)
        replace Xz5 := Xz5.below bb (Nat.le_refl _)
        replace Xu := Xu.below bb (Nat.le_refl _)
        replace B := B.trans (bb.mono B.size)
        clear bb
        have Xr := BoxW.made w9 (.bool false) (.slice ad9 rl.length cp9) 26
        clear f2
        have c0a := Xa.c0
        have c1a := Xa.c1
        have c0d := Xd.c0
        have c1d := Xd.c1
        have c0z5 := Xz5.c0
        have c1z5 := Xz5.c1
        have c0u := Xu.c0
        have c1u := Xu.c1
        have c0r := Xr.c0
        have c1r := Xr.c1
        go_wp2_with fail
        clear c0a c1a c0d c1d c0z5 c1z5 c0u c1u c0r c1r
        clear d0a d1a dha d0d d1d dhd d0z5 d1z5 dhz5 d0u d1u dhu
        generalize w9.alloc (.cells #[.bool false, .slice ad9 rl.length cp9] 26) = w10 at *
        have k11 := iNatBits _ rl w10 (rowW.mag Rr) (by omega)
        rw [f3] at k11
        refine k11.mono ?_
        rintro e w11 ⟨rfl, b11⟩
        replace Ra := Ra.below b11 (Nat.le_refl _)
        replace Rd := Rd.below b11 (Nat.le_refl _)
        replace Ru := Ru.below b11 (Nat.le_refl _)
        replace Rr := Rr.below b11 (Nat.le_refl _)
        replace Xa := Xa.below b11 (Nat.le_refl _)
        replace Xd := Xd.below b11 (Nat.le_refl _)
        replace Xz5 := Xz5.below b11 (Nat.le_refl _)
        replace Xu := Xu.below b11 (Nat.le_refl _)
        replace Xr := Xr.below b11 (Nat.le_refl _)
        replace B := B.trans (b11.mono B.size)
        clear k11 b11
        have c0a := Xa.c0
        have c1a := Xa.c1
        have c0d := Xd.c0
        have c1d := Xd.c1
        have c0z5 := Xz5.c0
        have c1z5 := Xz5.c1
        have c0u := Xu.c0
        have c1u := Xu.c1
        have c0r := Xr.c0
        have c1r := Xr.c1
        go_wp2
        go_ret
        exact ⟨rfl, B⟩

set_option maxRecDepth 20000 in
set_option maxHeartbeats 1600000 in
theorem walkWholeShift (a0 : Option Addr) (len0 cap0 : Nat) (z0 : List Int) (w : World) (h : IsRow .u8 w a0 len0 cap0 z0) :
    Calls Try.prog 4 #[.slice a0 len0 cap0] w fun e w' => e = .returned (.bool true) ∧ Below w.heap.size w w' := by
  refine law_big _ (fun a len cap w hs => ?_) wshift_in a0 len0 cap0 z0 w h
  go_enter Try.func4, Try.ntmps4
  go_wp2_with (go_at_call 9; refine (big_yes a len cap w hs).mono ?_; rintro e w ⟨rfl, rfl⟩)
  go_ret
  exact ⟨rfl, Below.refl _ _⟩

end Go.Proofs.Ytlnpfjnpnjiepaa
