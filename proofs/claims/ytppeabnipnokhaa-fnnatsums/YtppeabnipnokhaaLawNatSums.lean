/- FnNatSums: a sum comes apart again; a product with a sum is the sum of the products: the walk. -/
import Derived.Test.YtppeabnipnokhaaDrS
import Derived.Test.YtppeabnipnokhaaLawM
import Derived.Test.YtppeabnipnokhaaLawT
import Derived.Test.YtppeabnipnokhaaINatOk
import Derived.Test.YtppeabnipnokhaaINatSub
import Derived.Test.YtppeabnipnokhaaINatMul
import Derived.Test.YtppeabnipnokhaaINatAdd
import Derived.Test.YtppeabnipnokhaaSNatAdd
import Derived.Test.YtppeabnipnokhaaSNatMul
namespace Go.Proofs.Ytppeabnipnokhaa
open Go.RowKit

theorem addR_comm (xs ys : List Int) : addR ys xs = addR xs ys := by
  unfold addR
  rw [Nat.add_comm]
  by_cases h : okB xs = true ∧ okB ys = true
  · rw [if_pos h, if_pos h.symm]
  · rw [if_neg h, if_neg (fun k => h k.symm)]
theorem mulR_comm (xs ys : List Int) : mulR ys xs = mulR xs ys := by
  unfold mulR
  rw [Nat.mul_comm]
  by_cases h : okB xs = true ∧ okB ys = true
  · rw [if_pos h, if_pos h.symm]
  · rw [if_neg h, if_neg (fun k => h k.symm)]
theorem mulR_len48 (xs ys : List Int) : (mulR xs ys).1.length ≤ 48 := by
  unfold mulR fitR
  split
  · split
    · assumption
    · simp
  · simp
theorem sum_facts {xs ys ss : List Int} (h1 : okB xs = true) (h2 : okB ys = true) (h : addR xs ys = (ss, true)) : ss.length ≤ 48 ∧ subR ss ys = (xs, true) ∧ okB ss = true ∧ num ss = num xs + num ys := by
  rw [addR, if_pos ⟨h1, h2⟩] at h
  obtain ⟨rfl, hl⟩ := fitR_true h
  refine ⟨hl, ?_, okB_limbs hl, num_limbs _⟩
  rw [subR, if_pos ⟨okB_limbs hl, h2, by rw [num_limbs]; omega⟩, num_limbs, Nat.add_sub_cancel, ok_limbs h1]
theorem sum_no {xs ys ss : List Int} (h : addR xs ys = (ss, false)) : ss = [] := by
  unfold addR fitR at h
  split at h
  · split at h
    · cases h
    · cases h; rfl
  · cases h; rfl
theorem dist_facts {xs ys ss ds gs : List Int} (h1 : okB xs = true) (h2 : okB ys = true) (h3 : okB ds = true) (h : addR xs ys = (ss, true)) (hm : mulR ds ss = (gs, true)) :
    gs.length ≤ 48 ∧ ∃ ps qs, mulR ds xs = (ps, true) ∧ ps.length ≤ 48 ∧ mulR ds ys = (qs, true) ∧ qs.length ≤ 48 ∧ addR ps qs = (gs, true) := by
  obtain ⟨-, -, h4, h5⟩ := sum_facts h1 h2 h
  rw [mulR, if_pos ⟨h3, h4⟩] at hm
  obtain ⟨rfl, hl⟩ := fitR_true hm
  rw [h5, Nat.mul_add] at hl ⊢
  have d1 : (limbs (num ds * num xs)).length ≤ 48 := Nat.le_trans (limbs_len_mono (by omega)) hl
  have d2 : (limbs (num ds * num ys)).length ≤ 48 := Nat.le_trans (limbs_len_mono (by omega)) hl
  refine ⟨hl, _, _, by rw [mulR, if_pos ⟨h3, h1⟩, fitR_yes d1], d1, by rw [mulR, if_pos ⟨h3, h2⟩, fitR_yes d2], d2, ?_⟩
  rw [addR, if_pos ⟨okB_limbs d1, okB_limbs d2⟩, num_limbs, num_limbs, fitR_yes hl]

set_option maxRecDepth 20000 in
set_option maxHeartbeats 6400000 in
theorem sums_in (a : Option Addr) (len cap : Nat) (zs : List Int) (w : World) (hlen : len ≤ 1048576) (h : CodeIs w a len cap zs) :
    Calls Try.prog 3 #[.slice a len cap] w fun e w' => e = .returned (.bool true) ∧ Below w.heap.size w w' := by
  go_enter Try.func3, Try.ntmps3
  go_wp2_with fail
  refine (big_no a len cap w hlen).mono ?_
  rintro e w ⟨rfl, rfl⟩
  go_wp2_with fail
  refine (drAdd a len cap zs w hlen h).mono ?_
  rintro e w1 ⟨va, vb, xs, ys, rfl, Ra, Rb, la, lb, B⟩
  obtain ⟨a', len', cap', zs', ht, hl', hc'⟩ := tail_is a len cap zs w1 hlen (h.below B)
  clear h
  go_wp2_with fail
  refine ht.mono ?_
  rintro e w2 ⟨rfl, rfl⟩
  clear ht
  go_wp2_with fail
  refine (drAdd a' len' cap' zs' _ hl' hc').mono ?_
  rintro e w3 ⟨vd, ve, ds, es, rfl, Rd, -, ld, -, b3⟩
  clear hc'
  replace Ra := Ra.below b3 (Nat.le_refl _)
  replace Rb := Rb.below b3 (Nat.le_refl _)
  replace B := B.trans (b3.mono B.size)
  clear b3
  by_cases hall : okB xs = true ∧ okB ys = true ∧ okB ds = true
  · obtain ⟨h1, h2, h3⟩ := hall
    have HA : Hid (okB xs = true ∧ okB ys = true ∧ okB ds = true) := ⟨h1, h2, h3⟩
    have k4 := sNatOk _ xs _ Ra (by omega)
    rw [h1] at k4
    go_wp2_with fail
    refine k4.mono ?_
    rintro e w4 ⟨rfl, rfl⟩
    clear k4
    have k5 := sNatOk _ ys _ Rb (by omega)
    rw [h2] at k5
    go_wp2_with fail
    refine k5.mono ?_
    rintro e w5 ⟨rfl, rfl⟩
    clear k5
    have k6 := sNatOk _ ds _ Rd (by omega)
    rw [h3] at k6
    go_wp2_with fail
    refine k6.mono ?_
    rintro e w6 ⟨rfl, rfl⟩
    clear k6
    clear h1 h2 h3
    obtain ⟨ss, o, hr⟩ : ∃ ss o, addR xs ys = (ss, o) := ⟨_, _, rfl⟩
    have ls : ss.length ≤ 1048576 := by have := addR_len xs ys; rw [hr] at this; exact this
    have k7 := iNatAdd _ _ xs ys _ Ra Rb (by omega) (by omega)
    rw [hr] at k7
    go_wp2_with fail
    refine k7.mono ?_
    rintro e w7 ⟨v7, rfl, o7, b7⟩
    replace Ra := Ra.below b7 (Nat.le_refl _)
    replace Rb := Rb.below b7 (Nat.le_refl _)
    replace Rd := Rd.below b7 (Nat.le_refl _)
    replace B := B.trans (b7.mono B.size)
    have Rs := o7.row
    clear k7 o7 b7
    have k8 := iNatAdd _ _ ys xs _ Rb Ra (by omega) (by omega)
    rw [addR_comm, hr] at k8
    go_wp2_with fail
    refine k8.mono ?_
    rintro e w8 ⟨v8, rfl, o8, b8⟩
    replace Ra := Ra.below b8 (Nat.le_refl _)
    replace Rb := Rb.below b8 (Nat.le_refl _)
    replace Rd := Rd.below b8 (Nat.le_refl _)
    replace Rs := Rs.below b8 (Nat.le_refl _)
    replace B := B.trans (b8.mono B.size)
    have Rt := o8.row
    clear k8 o8 b8
    have k9 := sNatAdd _ _ xs ys _ Ra Rb (by omega) (by omega)
    rw [hr] at k9
    go_wp2_with fail
    refine k9.mono ?_
    rintro e w9 ⟨v9, rfl, o9, b9⟩
    replace Ra := Ra.below b9 (Nat.le_refl _)
    replace Rb := Rb.below b9 (Nat.le_refl _)
    replace Rd := Rd.below b9 (Nat.le_refl _)
    replace Rs := Rs.below b9 (Nat.le_refl _)
    replace Rt := Rt.below b9 (Nat.le_refl _)
    replace B := B.trans (b9.mono B.size)
    clear k9 o9 b9
    have HR : Hid (addR xs ys = (ss, o)) := hr
    clear hr
    cases o
    · obtain rfl := sum_no HR.out
      obtain ⟨as1, cs1, rfl, -⟩ := id Rs
      have k10 := sameI _ _ [] [] _ Rs Rt (by first | omega | simp)
      rw [show decide (([] : List Int) = ([] : List Int)) = true from decide_eq_true rfl] at k10
      go_wp2_with fail
      refine k10.mono ?_
      rintro e w10 ⟨rfl, b10⟩
      replace Ra := Ra.below b10 (Nat.le_refl _)
      replace Rb := Rb.below b10 (Nat.le_refl _)
      replace Rd := Rd.below b10 (Nat.le_refl _)
      replace Rs := Rs.below b10 (Nat.le_refl _)
      replace Rt := Rt.below b10 (Nat.le_refl _)
      replace B := B.trans (b10.mono B.size)
      clear k10 b10
      clear Rt
      obtain ⟨ps, hp⟩ : ∃ ps, (mulR xs ys).1 = ps := ⟨_, rfl⟩
      have lp : ps.length ≤ 48 := by rw [← hp]; exact mulR_len48 xs ys
      obtain ⟨po, hpo⟩ : ∃ o, (mulR xs ys).2 = o := ⟨_, rfl⟩
      have hm : mulR xs ys = (ps, po) := by rw [← hp, ← hpo]
      clear hp hpo
      have k11 := iNatMul _ _ xs ys _ Ra Rb (by omega) (by omega)
      rw [hm] at k11
      go_wp2_with fail
      refine k11.mono ?_
      rintro e w11 ⟨v11, rfl, o11, b11⟩
      replace Ra := Ra.below b11 (Nat.le_refl _)
      replace Rb := Rb.below b11 (Nat.le_refl _)
      replace Rd := Rd.below b11 (Nat.le_refl _)
      replace Rs := Rs.below b11 (Nat.le_refl _)
      replace B := B.trans (b11.mono B.size)
      have Rp := o11.row
      clear k11 o11 b11
      have k12 := iNatMul _ _ ys xs _ Rb Ra (by omega) (by omega)
      rw [mulR_comm, hm] at k12
      go_wp2_with fail
      refine k12.mono ?_
      rintro e w12 ⟨v12, rfl, o12, b12⟩
      replace Ra := Ra.below b12 (Nat.le_refl _)
      replace Rb := Rb.below b12 (Nat.le_refl _)
      replace Rd := Rd.below b12 (Nat.le_refl _)
      replace Rs := Rs.below b12 (Nat.le_refl _)
      replace Rp := Rp.below b12 (Nat.le_refl _)
      replace B := B.trans (b12.mono B.size)
      have Rq := o12.row
      clear k12 o12 b12
      clear hm
      have k13 := sameI _ _ ps ps _ Rp Rq (by omega)
      rw [show decide (ps = ps) = true from decide_eq_true rfl] at k13
      go_wp2_with fail
      refine k13.mono ?_
      rintro e w13 ⟨rfl, b13⟩
      replace Ra := Ra.below b13 (Nat.le_refl _)
      replace Rb := Rb.below b13 (Nat.le_refl _)
      replace Rd := Rd.below b13 (Nat.le_refl _)
      replace Rs := Rs.below b13 (Nat.le_refl _)
      replace Rp := Rp.below b13 (Nat.le_refl _)
      replace Rq := Rq.below b13 (Nat.le_refl _)
      replace B := B.trans (b13.mono B.size)
      clear k13 b13
      clear Rp
      clear Rq
      go_wp2
      go_ret
      exact ⟨rfl, B⟩
    · have k10 := sameI _ _ ss ss _ Rs Rt (by first | omega | simp)
      rw [show decide (ss = ss) = true from decide_eq_true rfl] at k10
      go_wp2_with fail
      refine k10.mono ?_
      rintro e w10 ⟨rfl, b10⟩
      replace Ra := Ra.below b10 (Nat.le_refl _)
      replace Rb := Rb.below b10 (Nat.le_refl _)
      replace Rd := Rd.below b10 (Nat.le_refl _)
      replace Rs := Rs.below b10 (Nat.le_refl _)
      replace Rt := Rt.below b10 (Nat.le_refl _)
      replace B := B.trans (b10.mono B.size)
      clear k10 b10
      clear Rt
      obtain ⟨ps, hp⟩ : ∃ ps, (mulR xs ys).1 = ps := ⟨_, rfl⟩
      have lp : ps.length ≤ 48 := by rw [← hp]; exact mulR_len48 xs ys
      obtain ⟨po, hpo⟩ : ∃ o, (mulR xs ys).2 = o := ⟨_, rfl⟩
      have hm : mulR xs ys = (ps, po) := by rw [← hp, ← hpo]
      clear hp hpo
      have k11 := iNatMul _ _ xs ys _ Ra Rb (by omega) (by omega)
      rw [hm] at k11
      go_wp2_with fail
      refine k11.mono ?_
      rintro e w11 ⟨v11, rfl, o11, b11⟩
      replace Ra := Ra.below b11 (Nat.le_refl _)
      replace Rb := Rb.below b11 (Nat.le_refl _)
      replace Rd := Rd.below b11 (Nat.le_refl _)
      replace Rs := Rs.below b11 (Nat.le_refl _)
      replace B := B.trans (b11.mono B.size)
      have Rp := o11.row
      clear k11 o11 b11
      have k12 := iNatMul _ _ ys xs _ Rb Ra (by omega) (by omega)
      rw [mulR_comm, hm] at k12
      go_wp2_with fail
      refine k12.mono ?_
      rintro e w12 ⟨v12, rfl, o12, b12⟩
      replace Ra := Ra.below b12 (Nat.le_refl _)
      replace Rb := Rb.below b12 (Nat.le_refl _)
      replace Rd := Rd.below b12 (Nat.le_refl _)
      replace Rs := Rs.below b12 (Nat.le_refl _)
      replace Rp := Rp.below b12 (Nat.le_refl _)
      replace B := B.trans (b12.mono B.size)
      have Rq := o12.row
      clear k12 o12 b12
      clear hm
      have k13 := sameI _ _ ps ps _ Rp Rq (by omega)
      rw [show decide (ps = ps) = true from decide_eq_true rfl] at k13
      go_wp2_with fail
      refine k13.mono ?_
      rintro e w13 ⟨rfl, b13⟩
      replace Ra := Ra.below b13 (Nat.le_refl _)
      replace Rb := Rb.below b13 (Nat.le_refl _)
      replace Rd := Rd.below b13 (Nat.le_refl _)
      replace Rs := Rs.below b13 (Nat.le_refl _)
      replace Rp := Rp.below b13 (Nat.le_refl _)
      replace Rq := Rq.below b13 (Nat.le_refl _)
      replace B := B.trans (b13.mono B.size)
      clear k13 b13
      clear Rp
      clear Rq
      obtain ⟨ls, f1, -, -⟩ := sum_facts HA.out.1 HA.out.2.1 HR.out
      have k14 := iNatSub _ _ ss ys _ Rs Rb (by omega) (by omega)
      rw [f1] at k14
      go_wp2_with fail
      refine k14.mono ?_
      rintro e w14 ⟨v14, rfl, o14, b14⟩
      replace Ra := Ra.below b14 (Nat.le_refl _)
      replace Rb := Rb.below b14 (Nat.le_refl _)
      replace Rd := Rd.below b14 (Nat.le_refl _)
      replace Rs := Rs.below b14 (Nat.le_refl _)
      replace B := B.trans (b14.mono B.size)
      have Rk := o14.row
      clear k14 o14 b14
      clear f1
      obtain ⟨gs, o1, hm⟩ : ∃ gs o1, mulR ds ss = (gs, o1) := ⟨_, _, rfl⟩
      have lg : gs.length ≤ 48 := by have := mulR_len48 ds ss; rw [hm] at this; exact this
      have k15 := iNatMul _ _ ds ss _ Rd Rs (by omega) (by omega)
      rw [hm] at k15
      go_wp2_with fail
      refine k15.mono ?_
      rintro e w15 ⟨v15, rfl, o15, b15⟩
      replace Ra := Ra.below b15 (Nat.le_refl _)
      replace Rb := Rb.below b15 (Nat.le_refl _)
      replace Rd := Rd.below b15 (Nat.le_refl _)
      replace Rs := Rs.below b15 (Nat.le_refl _)
      replace Rk := Rk.below b15 (Nat.le_refl _)
      replace B := B.trans (b15.mono B.size)
      have Rg := o15.row
      clear k15 o15 b15
      have k16 := sNatMul _ _ ds ss _ Rd Rs (by omega) (by omega)
      rw [hm] at k16
      go_wp2_with fail
      refine k16.mono ?_
      rintro e w16 ⟨v16, rfl, o16, b16⟩
      replace Ra := Ra.below b16 (Nat.le_refl _)
      replace Rb := Rb.below b16 (Nat.le_refl _)
      replace Rd := Rd.below b16 (Nat.le_refl _)
      replace Rs := Rs.below b16 (Nat.le_refl _)
      replace Rk := Rk.below b16 (Nat.le_refl _)
      replace Rg := Rg.below b16 (Nat.le_refl _)
      replace B := B.trans (b16.mono B.size)
      clear k16 o16 b16
      have HM : Hid (mulR ds ss = (gs, o1)) := hm
      clear hm
      have k17 := sameI _ _ xs xs _ Rk Ra (by omega)
      rw [show decide (xs = xs) = true from decide_eq_true rfl] at k17
      go_wp2_with fail
      refine k17.mono ?_
      rintro e w17 ⟨rfl, b17⟩
      replace Ra := Ra.below b17 (Nat.le_refl _)
      replace Rb := Rb.below b17 (Nat.le_refl _)
      replace Rd := Rd.below b17 (Nat.le_refl _)
      replace Rs := Rs.below b17 (Nat.le_refl _)
      replace Rk := Rk.below b17 (Nat.le_refl _)
      replace Rg := Rg.below b17 (Nat.le_refl _)
      replace B := B.trans (b17.mono B.size)
      clear k17 b17
      clear Rk
      cases o1
      · go_wp2
        go_ret
        exact ⟨rfl, B⟩
      · obtain ⟨-, ps2, qs2, f2, l2, f3, l3, f4⟩ := dist_facts HA.out.1 HA.out.2.1 HA.out.2.2 HR.out HM.out
        have k18 := iNatMul _ _ ds xs _ Rd Ra (by omega) (by omega)
        rw [f2] at k18
        go_wp2_with fail
        refine k18.mono ?_
        rintro e w18 ⟨v18, rfl, o18, b18⟩
        replace Ra := Ra.below b18 (Nat.le_refl _)
        replace Rb := Rb.below b18 (Nat.le_refl _)
        replace Rd := Rd.below b18 (Nat.le_refl _)
        replace Rs := Rs.below b18 (Nat.le_refl _)
        replace Rg := Rg.below b18 (Nat.le_refl _)
        replace B := B.trans (b18.mono B.size)
        have Ry := o18.row
        clear k18 o18 b18
        clear f2
        have k19 := iNatMul _ _ ds ys _ Rd Rb (by omega) (by omega)
        rw [f3] at k19
        go_wp2_with fail
        refine k19.mono ?_
        rintro e w19 ⟨v19, rfl, o19, b19⟩
        replace Ra := Ra.below b19 (Nat.le_refl _)
        replace Rb := Rb.below b19 (Nat.le_refl _)
        replace Rd := Rd.below b19 (Nat.le_refl _)
        replace Rs := Rs.below b19 (Nat.le_refl _)
        replace Rg := Rg.below b19 (Nat.le_refl _)
        replace Ry := Ry.below b19 (Nat.le_refl _)
        replace B := B.trans (b19.mono B.size)
        have Rz := o19.row
        clear k19 o19 b19
        clear f3
        have k20 := iNatAdd _ _ ps2 qs2 _ Ry Rz (by omega) (by omega)
        rw [f4] at k20
        go_wp2_with fail
        refine k20.mono ?_
        rintro e w20 ⟨v20, rfl, o20, b20⟩
        replace Ra := Ra.below b20 (Nat.le_refl _)
        replace Rb := Rb.below b20 (Nat.le_refl _)
        replace Rd := Rd.below b20 (Nat.le_refl _)
        replace Rs := Rs.below b20 (Nat.le_refl _)
        replace Rg := Rg.below b20 (Nat.le_refl _)
        replace Ry := Ry.below b20 (Nat.le_refl _)
        replace Rz := Rz.below b20 (Nat.le_refl _)
        replace B := B.trans (b20.mono B.size)
        have Ru := o20.row
        clear k20 o20 b20
        clear f4
        have k21 := sameI _ _ gs gs _ Ru Rg (by omega)
        rw [show decide (gs = gs) = true from decide_eq_true rfl] at k21
        go_wp2_with fail
        refine k21.mono ?_
        rintro e w21 ⟨rfl, b21⟩
        replace Ra := Ra.below b21 (Nat.le_refl _)
        replace Rb := Rb.below b21 (Nat.le_refl _)
        replace Rd := Rd.below b21 (Nat.le_refl _)
        replace Rs := Rs.below b21 (Nat.le_refl _)
        replace Rg := Rg.below b21 (Nat.le_refl _)
        replace Ry := Ry.below b21 (Nat.le_refl _)
        replace Rz := Rz.below b21 (Nat.le_refl _)
        replace Ru := Ru.below b21 (Nat.le_refl _)
        replace B := B.trans (b21.mono B.size)
        clear k21 b21
        go_wp2
        go_ret
        exact ⟨rfl, B⟩
  · have hc : okB xs = false ∨ (okB xs = true ∧ okB ys = false) ∨ (okB xs = true ∧ okB ys = true ∧ okB ds = false) := by cases h1 : okB xs <;> cases h2 : okB ys <;> cases h3 : okB ds <;> simp_all
    clear hall
    rcases hc with h1 | ⟨h1, h2⟩ | ⟨h1, h2, h3⟩
    · have k4 := sNatOk _ xs _ Ra (by omega)
      rw [h1] at k4
      go_wp2_with fail
      refine k4.mono ?_
      rintro e w4 ⟨rfl, rfl⟩
      clear k4
      have k5 := iNatOk _ xs _ Ra (by omega)
      rw [h1] at k5
      go_wp2_with fail
      refine k5.mono ?_
      rintro e w5 ⟨rfl, rfl⟩
      clear k5
      go_wp2
      go_ret
      exact ⟨rfl, B⟩
    · have k4 := sNatOk _ xs _ Ra (by omega)
      rw [h1] at k4
      go_wp2_with fail
      refine k4.mono ?_
      rintro e w4 ⟨rfl, rfl⟩
      clear k4
      have k5 := sNatOk _ ys _ Rb (by omega)
      rw [h2] at k5
      go_wp2_with fail
      refine k5.mono ?_
      rintro e w5 ⟨rfl, rfl⟩
      clear k5
      have k6 := iNatOk _ xs _ Ra (by omega)
      rw [h1] at k6
      go_wp2_with fail
      refine k6.mono ?_
      rintro e w6 ⟨rfl, rfl⟩
      clear k6
      have k7 := iNatOk _ ys _ Rb (by omega)
      rw [h2] at k7
      go_wp2_with fail
      refine k7.mono ?_
      rintro e w7 ⟨rfl, rfl⟩
      clear k7
      go_wp2
      go_ret
      exact ⟨rfl, B⟩
    · have k4 := sNatOk _ xs _ Ra (by omega)
      rw [h1] at k4
      go_wp2_with fail
      refine k4.mono ?_
      rintro e w4 ⟨rfl, rfl⟩
      clear k4
      have k5 := sNatOk _ ys _ Rb (by omega)
      rw [h2] at k5
      go_wp2_with fail
      refine k5.mono ?_
      rintro e w5 ⟨rfl, rfl⟩
      clear k5
      have k6 := sNatOk _ ds _ Rd (by omega)
      rw [h3] at k6
      go_wp2_with fail
      refine k6.mono ?_
      rintro e w6 ⟨rfl, rfl⟩
      clear k6
      have k7 := iNatOk _ xs _ Ra (by omega)
      rw [h1] at k7
      go_wp2_with fail
      refine k7.mono ?_
      rintro e w7 ⟨rfl, rfl⟩
      clear k7
      have k8 := iNatOk _ ys _ Rb (by omega)
      rw [h2] at k8
      go_wp2_with fail
      refine k8.mono ?_
      rintro e w8 ⟨rfl, rfl⟩
      clear k8
      have k9 := iNatOk _ ds _ Rd (by omega)
      rw [h3] at k9
      go_wp2_with fail
      refine k9.mono ?_
      rintro e w9 ⟨rfl, rfl⟩
      clear k9
      go_wp2
      go_ret
      exact ⟨rfl, B⟩

set_option maxRecDepth 20000 in
set_option maxHeartbeats 1600000 in
theorem walkNatSums (a0 : Option Addr) (len0 cap0 : Nat) (z0 : List Int) (w : World) (h : IsRow .u8 w a0 len0 cap0 z0) :
    Calls Try.prog 3 #[.slice a0 len0 cap0] w fun e w' => e = .returned (.bool true) ∧ Below w.heap.size w w' := by
  refine law_big _ (fun a len cap w hs => ?_) sums_in a0 len0 cap0 z0 w h
  go_enter Try.func3, Try.ntmps3
  go_wp2_with (go_at_call 7; refine (big_yes a len cap w hs).mono ?_; rintro e w ⟨rfl, rfl⟩)
  go_ret
  exact ⟨rfl, Below.refl _ _⟩

end Go.Proofs.Ytppeabnipnokhaa
