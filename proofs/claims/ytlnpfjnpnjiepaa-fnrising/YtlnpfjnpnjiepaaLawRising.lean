/- FnRising: rounding never turns the order: the walk. -/
import Derived.Test.YtlnpfjnpnjiepaaDrRA
import Derived.Test.YtlnpfjnpnjiepaaLT
import Derived.Test.YtlnpfjnpnjiepaaIRoundA
import Derived.Test.YtlnpfjnpnjiepaaSRoundA
import Derived.Test.YtlnpfjnpnjiepaaIWholeCmp
namespace Go.Proofs.Ytlnpfjnpnjiepaa
open Go.RowKit
set_option linter.unusedSimpArgs false

set_option maxRecDepth 20000 in
set_option maxHeartbeats 6400000 in
theorem rising_in (a : Option Addr) (len cap : Nat) (zs : List Int) (w : World) (hlen : len ≤ 1048576) (h : CodeIs w a len cap zs) :
    Calls Try.prog 7 #[.slice a len cap] w fun e w' => e = .returned (.bool true) ∧ Below w.heap.size w w' := by
  go_enter Try.func7, Try.ntmps7
  go_wp2_with fail
  refine (big_no a len cap w hlen).mono ?_
  rintro e w ⟨rfl, rfl⟩
  go_wp2_with fail
  refine (drRAt a len cap zs w hlen h).mono ?_
  rintro e w1 ⟨v1, ra, k, m, rfl, Ra, la, k0, k1, m0, m1, B⟩
  have HC := h
  clear h
  obtain ⟨s1, rfl, q1⟩ := id Ra
  obtain ⟨ad1, cp1, rfl, -⟩ := q1
  have bb := below1 w1 (.cells #[.bool ra.1, .slice ad1 ra.2.length cp1] 26)
  replace Ra := Ra.below bb (Nat.le_refl _)
  replace B := B.trans (bb.mono B.size)
  clear bb
  have Xa := BoxW.made w1 (.bool ra.1) (.slice ad1 ra.2.length cp1) 26
  have hcode : CodeIs _ a len cap zs := HC.below B
  obtain ⟨a', len', cap', zs', ht, hl', hc'⟩ := tail_is a len cap zs _ hlen hcode
  go_wp2_with fail
  skip
  generalize w1.alloc (.cells #[.bool ra.1, .slice ad1 ra.2.length cp1] 26) = w2 at *
  refine ht.mono ?_
  rintro e w3 ⟨rfl, rfl⟩
  clear ht
  have c0a := Xa.c0
  have c1a := Xa.c1
  go_wp2_with fail
  clear c0a c1a
  refine (drRAt a' len' cap' zs' _ hl' hc').mono ?_
  rintro e w4 ⟨v4, rb, kb, mb, rfl, Rb, lb, -, -, -, -, b4⟩
  clear hc'
  replace Ra := Ra.below b4 (Nat.le_refl _)
  replace Xa := Xa.below b4 (Nat.le_refl _)
  replace B := B.trans (b4.mono B.size)
  clear b4
  obtain ⟨s4, rfl, q4⟩ := id Rb
  obtain ⟨ad4, cp4, rfl, -⟩ := q4
  have d0a := Xa.c0
  have d1a := Xa.c1
  have dha := Xa.hi
  have bb := below1 w4 (.cells #[.bool rb.1, .slice ad4 rb.2.length cp4] 26)
  replace Ra := Ra.below bb (Nat.le_refl _)
  replace Rb := Rb.below bb (Nat.le_refl _)
  replace Xa := Xa.below bb (Nat.le_refl _)
  replace B := B.trans (bb.mono B.size)
  clear bb
  have Xb := BoxW.made w4 (.bool rb.1) (.slice ad4 rb.2.length cp4) 26
  obtain ⟨x, o, hx⟩ : ∃ x o, ratR ra k m = (x, o) := ⟨_, _, rfl⟩
  obtain ⟨y, o2, hy⟩ : ∃ y o, ratR rb k m = (y, o) := ⟨_, _, rfl⟩
  have lx : x.2.length ≤ 1048576 := by have := ratR_len ra k m; rw [hx] at this; exact this
  have ly : y.2.length ≤ 1048576 := by have := ratR_len rb k m; rw [hy] at this; exact this
  have c0a := Xa.c0
  have c1a := Xa.c1
  have c0b := Xb.c0
  have c1b := Xb.c1
  go_wp2_with fail
  clear c0a c1a c0b c1b
  clear d0a d1a dha
  generalize w4.alloc (.cells #[.bool rb.1, .slice ad4 rb.2.length cp4] 26) = w5 at *
  have k6 := iRoundAt _ ra k m w5 Ra (by omega)
  rw [hx] at k6
  refine k6.mono ?_
  rintro e w6 ⟨v6, rfl, o6, b6⟩
  replace Ra := Ra.below b6 (Nat.le_refl _)
  replace Rb := Rb.below b6 (Nat.le_refl _)
  replace Xa := Xa.below b6 (Nat.le_refl _)
  replace Xb := Xb.below b6 (Nat.le_refl _)
  replace B := B.trans (b6.mono B.size)
  clear b6 k6
  obtain ⟨s6, rfl, q6⟩ := o6
  obtain ⟨ad6, cp6, rfl, -⟩ := q6.row
  have Rx : rowW w6 (.agg #[.bool x.1, .slice ad6 x.2.length cp6]) x := ⟨_, rfl, q6.row⟩
  clear q6
  have d0a := Xa.c0
  have d1a := Xa.c1
  have dha := Xa.hi
  have d0b := Xb.c0
  have d1b := Xb.c1
  have dhb := Xb.hi
  have bb := below1 w6 (.cells #[.bool x.1, .slice ad6 x.2.length cp6] 26)
  replace Ra := Ra.below bb (Nat.le_refl _)
  replace Rb := Rb.below bb (Nat.le_refl _)
  replace Rx := Rx.below bb (Nat.le_refl _)
  replace Xa := Xa.below bb (Nat.le_refl _)
  replace Xb := Xb.below bb (Nat.le_refl _)
  replace B := B.trans (bb.mono B.size)
  clear bb
  have Xx := BoxW.made w6 (.bool x.1) (.slice ad6 x.2.length cp6) 26
  have c0a := Xa.c0
  have c1a := Xa.c1
  have c0b := Xb.c0
  have c1b := Xb.c1
  have c0x := Xx.c0
  have c1x := Xx.c1
  go_wp2_with fail
  clear c0a c1a c0b c1b c0x c1x
  clear d0a d1a dha d0b d1b dhb
  generalize w6.alloc (.cells #[.bool x.1, .slice ad6 x.2.length cp6] 26) = w7 at *
  have k8 := iRoundAt _ rb k m w7 Rb (by omega)
  rw [hy] at k8
  refine k8.mono ?_
  rintro e w8 ⟨v8, rfl, o8, b8⟩
  replace Ra := Ra.below b8 (Nat.le_refl _)
  replace Rb := Rb.below b8 (Nat.le_refl _)
  replace Rx := Rx.below b8 (Nat.le_refl _)
  replace Xa := Xa.below b8 (Nat.le_refl _)
  replace Xb := Xb.below b8 (Nat.le_refl _)
  replace Xx := Xx.below b8 (Nat.le_refl _)
  replace B := B.trans (b8.mono B.size)
  clear b8 k8
  obtain ⟨s8, rfl, q8⟩ := o8
  obtain ⟨ad8, cp8, rfl, -⟩ := q8.row
  have Ry : rowW w8 (.agg #[.bool y.1, .slice ad8 y.2.length cp8]) y := ⟨_, rfl, q8.row⟩
  clear q8
  have d0a := Xa.c0
  have d1a := Xa.c1
  have dha := Xa.hi
  have d0b := Xb.c0
  have d1b := Xb.c1
  have dhb := Xb.hi
  have d0x := Xx.c0
  have d1x := Xx.c1
  have dhx := Xx.hi
  have bb := below1 w8 (.cells #[.bool y.1, .slice ad8 y.2.length cp8] 26)
  replace Ra := Ra.below bb (Nat.le_refl _)
  replace Rb := Rb.below bb (Nat.le_refl _)
  replace Rx := Rx.below bb (Nat.le_refl _)
  replace Ry := Ry.below bb (Nat.le_refl _)
  replace Xa := Xa.below bb (Nat.le_refl _)
  replace Xb := Xb.below bb (Nat.le_refl _)
  replace Xx := Xx.below bb (Nat.le_refl _)
  replace B := B.trans (bb.mono B.size)
  clear bb
  have Xy := BoxW.made w8 (.bool y.1) (.slice ad8 y.2.length cp8) 26
  have c0a := Xa.c0
  have c1a := Xa.c1
  have c0b := Xb.c0
  have c1b := Xb.c1
  have c0x := Xx.c0
  have c1x := Xx.c1
  have c0y := Xy.c0
  have c1y := Xy.c1
  go_wp2_with fail
  clear c0a c1a c0b c1b c0x c1x c0y c1y
  clear d0a d1a dha d0b d1b dhb d0x d1x dhx
  generalize w8.alloc (.cells #[.bool y.1, .slice ad8 y.2.length cp8] 26) = w9 at *
  have k10 := sRoundAt _ ra k m w9 Ra (by omega)
  rw [hx] at k10
  refine k10.mono ?_
  rintro e w10 ⟨v10, rfl, o10, b10⟩
  replace Ra := Ra.below b10 (Nat.le_refl _)
  replace Rb := Rb.below b10 (Nat.le_refl _)
  replace Rx := Rx.below b10 (Nat.le_refl _)
  replace Ry := Ry.below b10 (Nat.le_refl _)
  replace Xa := Xa.below b10 (Nat.le_refl _)
  replace Xb := Xb.below b10 (Nat.le_refl _)
  replace Xx := Xx.below b10 (Nat.le_refl _)
  replace Xy := Xy.below b10 (Nat.le_refl _)
  replace B := B.trans (b10.mono B.size)
  clear b10 k10
  obtain ⟨s10, rfl, q10⟩ := o10
  obtain ⟨ad10, cp10, rfl, -⟩ := q10.row
  clear q10
  have d0a := Xa.c0
  have d1a := Xa.c1
  have dha := Xa.hi
  have d0b := Xb.c0
  have d1b := Xb.c1
  have dhb := Xb.hi
  have d0x := Xx.c0
  have d1x := Xx.c1
  have dhx := Xx.hi
  have d0y := Xy.c0
  have d1y := Xy.c1
  have dhy := Xy.hi
  have bb := below1 w10 (.cells #[.bool x.1, .slice ad10 x.2.length cp10] 26)
  replace Ra := Ra.below bb (Nat.le_refl _)
  replace Rb := Rb.below bb (Nat.le_refl _)
  replace Rx := Rx.below bb (Nat.le_refl _)
  replace Ry := Ry.below bb (Nat.le_refl _)
  replace Xa := Xa.below bb (Nat.le_refl _)
  replace Xb := Xb.below bb (Nat.le_refl _)
  replace Xx := Xx.below bb (Nat.le_refl _)
  replace Xy := Xy.below bb (Nat.le_refl _)
  replace B := B.trans (bb.mono B.size)
  clear bb
  have Xz10 := BoxW.made w10 (.bool x.1) (.slice ad10 x.2.length cp10) 26
  have c0a := Xa.c0
  have c1a := Xa.c1
  have c0b := Xb.c0
  have c1b := Xb.c1
  have c0x := Xx.c0
  have c1x := Xx.c1
  have c0y := Xy.c0
  have c1y := Xy.c1
  have c0z10 := Xz10.c0
  have c1z10 := Xz10.c1
  go_wp2_with fail
  clear c0a c1a c0b c1b c0x c1x c0y c1y c0z10 c1z10
  clear d0a d1a dha d0b d1b dhb d0x d1x dhx d0y d1y dhy
  generalize w10.alloc (.cells #[.bool x.1, .slice ad10 x.2.length cp10] 26) = w11 at *
  have k12 := sRoundAt _ rb k m w11 Rb (by omega)
  rw [hy] at k12
  refine k12.mono ?_
  rintro e w12 ⟨v12, rfl, o12, b12⟩
  replace Ra := Ra.below b12 (Nat.le_refl _)
  replace Rb := Rb.below b12 (Nat.le_refl _)
  replace Rx := Rx.below b12 (Nat.le_refl _)
  replace Ry := Ry.below b12 (Nat.le_refl _)
  replace Xa := Xa.below b12 (Nat.le_refl _)
  replace Xb := Xb.below b12 (Nat.le_refl _)
  replace Xx := Xx.below b12 (Nat.le_refl _)
  replace Xy := Xy.below b12 (Nat.le_refl _)
  replace Xz10 := Xz10.below b12 (Nat.le_refl _)
  replace B := B.trans (b12.mono B.size)
  clear b12 k12
  obtain ⟨s12, rfl, q12⟩ := o12
  obtain ⟨ad12, cp12, rfl, -⟩ := q12.row
  clear q12
  have d0a := Xa.c0
  have d1a := Xa.c1
  have dha := Xa.hi
  have d0b := Xb.c0
  have d1b := Xb.c1
  have dhb := Xb.hi
  have d0x := Xx.c0
  have d1x := Xx.c1
  have dhx := Xx.hi
  have d0y := Xy.c0
  have d1y := Xy.c1
  have dhy := Xy.hi
  have d0z10 := Xz10.c0
  have d1z10 := Xz10.c1
  have dhz10 := Xz10.hi
  have bb := below1 w12 (.cells #[.bool y.1, .slice ad12 y.2.length cp12] 26)
  replace Ra := Ra.below bb (Nat.le_refl _)
  replace Rb := Rb.below bb (Nat.le_refl _)
  replace Rx := Rx.below bb (Nat.le_refl _)
  replace Ry := Ry.below bb (Nat.le_refl _)
  replace Xa := Xa.below bb (Nat.le_refl _)
  replace Xb := Xb.below bb (Nat.le_refl _)
  replace Xx := Xx.below bb (Nat.le_refl _)
  replace Xy := Xy.below bb (Nat.le_refl _)
  replace Xz10 := Xz10.below bb (Nat.le_refl _)
  replace B := B.trans (bb.mono B.size)
  clear bb
  have Xz12 := BoxW.made w12 (.bool y.1) (.slice ad12 y.2.length cp12) 26
  have HX : Hid (ratR ra k m = (x, o)) := hx
  have HY : Hid (ratR rb k m = (y, o2)) := hy
  clear hx hy
  cases o
  · cases o2
    · have c0a := Xa.c0
      have c1a := Xa.c1
      have c0b := Xb.c0
      have c1b := Xb.c1
      have c0x := Xx.c0
      have c1x := Xx.c1
      have c0y := Xy.c0
      have c1y := Xy.c1
      have c0z10 := Xz10.c0
      have c1z10 := Xz10.c1
      have c0z12 := Xz12.c0
      have c1z12 := Xz12.c1
      go_wp2
      go_ret
      exact ⟨rfl, B⟩
    · have c0a := Xa.c0
      have c1a := Xa.c1
      have c0b := Xb.c0
      have c1b := Xb.c1
      have c0x := Xx.c0
      have c1x := Xx.c1
      have c0y := Xy.c0
      have c1y := Xy.c1
      have c0z10 := Xz10.c0
      have c1z10 := Xz10.c1
      have c0z12 := Xz12.c0
      have c1z12 := Xz12.c1
      go_wp2
      go_ret
      exact ⟨rfl, B⟩
  · cases o2
    · have c0a := Xa.c0
      have c1a := Xa.c1
      have c0b := Xb.c0
      have c1b := Xb.c1
      have c0x := Xx.c0
      have c1x := Xx.c1
      have c0y := Xy.c0
      have c1y := Xy.c1
      have c0z10 := Xz10.c0
      have c1z10 := Xz10.c1
      have c0z12 := Xz12.c0
      have c1z12 := Xz12.c1
      go_wp2
      go_ret
      exact ⟨rfl, B⟩
    · obtain ⟨c, d, f1, f2, f3⟩ := rising_facts HX.out HY.out
      have c0a := Xa.c0
      have c1a := Xa.c1
      have c0b := Xb.c0
      have c1b := Xb.c1
      have c0x := Xx.c0
      have c1x := Xx.c1
      have c0y := Xy.c0
      have c1y := Xy.c1
      have c0z10 := Xz10.c0
      have c1z10 := Xz10.c1
      have c0z12 := Xz12.c0
      have c1z12 := Xz12.c1
      go_wp2_with fail
      clear c0a c1a c0b c1b c0x c1x c0y c1y c0z10 c1z10 c0z12 c1z12
      generalize w12.alloc (.cells #[.bool y.1, .slice ad12 y.2.length cp12] 26) = w13 at *
      have k14 := iWholeCmp _ _ ra rb w13 Ra Rb (by omega) (by omega)
      rw [f1] at k14
      refine k14.mono ?_
      rintro e w14 ⟨rfl, b14⟩
      replace Ra := Ra.below b14 (Nat.le_refl _)
      replace Rb := Rb.below b14 (Nat.le_refl _)
      replace Rx := Rx.below b14 (Nat.le_refl _)
      replace Ry := Ry.below b14 (Nat.le_refl _)
      replace Xa := Xa.below b14 (Nat.le_refl _)
      replace Xb := Xb.below b14 (Nat.le_refl _)
      replace Xx := Xx.below b14 (Nat.le_refl _)
      replace Xy := Xy.below b14 (Nat.le_refl _)
      replace Xz10 := Xz10.below b14 (Nat.le_refl _)
      replace Xz12 := Xz12.below b14 (Nat.le_refl _)
      replace B := B.trans (b14.mono B.size)
      clear k14 b14
      have c0a := Xa.c0
      have c1a := Xa.c1
      have c0b := Xb.c0
      have c1b := Xb.c1
      have c0x := Xx.c0
      have c1x := Xx.c1
      have c0y := Xy.c0
      have c1y := Xy.c1
      have c0z10 := Xz10.c0
      have c1z10 := Xz10.c1
      have c0z12 := Xz12.c0
      have c1z12 := Xz12.c1
      go_wp2_with fail
      clear c0a c1a c0b c1b c0x c1x c0y c1y c0z10 c1z10 c0z12 c1z12
      have k15 := iWholeCmp _ _ x y w14 Rx Ry (by omega) (by omega)
      rw [f2] at k15
      refine k15.mono ?_
      rintro e w15 ⟨rfl, b15⟩
      replace Ra := Ra.below b15 (Nat.le_refl _)
      replace Rb := Rb.below b15 (Nat.le_refl _)
      replace Rx := Rx.below b15 (Nat.le_refl _)
      replace Ry := Ry.below b15 (Nat.le_refl _)
      replace Xa := Xa.below b15 (Nat.le_refl _)
      replace Xb := Xb.below b15 (Nat.le_refl _)
      replace Xx := Xx.below b15 (Nat.le_refl _)
      replace Xy := Xy.below b15 (Nat.le_refl _)
      replace Xz10 := Xz10.below b15 (Nat.le_refl _)
      replace Xz12 := Xz12.below b15 (Nat.le_refl _)
      replace B := B.trans (b15.mono B.size)
      clear k15 b15
      clear f1 f2 HX HY
      rcases f3 with f3 | ⟨f3, f4⟩
      · subst f3
        have c0a := Xa.c0
        have c1a := Xa.c1
        have c0b := Xb.c0
        have c1b := Xb.c1
        have c0x := Xx.c0
        have c1x := Xx.c1
        have c0y := Xy.c0
        have c1y := Xy.c1
        have c0z10 := Xz10.c0
        have c1z10 := Xz10.c1
        have c0z12 := Xz12.c0
        have c1z12 := Xz12.c1
        go_wp2
        go_ret
        exact ⟨rfl, B⟩
      · subst f3
        have e0 : (d == 0) = false := beq_eq_false_iff_ne.2 f4
        have c0a := Xa.c0
        have c1a := Xa.c1
        have c0b := Xb.c0
        have c1b := Xb.c1
        have c0x := Xx.c0
        have c1x := Xx.c1
        have c0y := Xy.c0
        have c1y := Xy.c1
        have c0z10 := Xz10.c0
        have c1z10 := Xz10.c1
        have c0z12 := Xz12.c0
        have c1z12 := Xz12.c1
        go_wp2
        go_ret
        exact ⟨rfl, B⟩

set_option maxRecDepth 20000 in
set_option maxHeartbeats 1600000 in
theorem walkRising (a0 : Option Addr) (len0 cap0 : Nat) (z0 : List Int) (w : World) (h : IsRow .u8 w a0 len0 cap0 z0) :
    Calls Try.prog 7 #[.slice a0 len0 cap0] w fun e w' => e = .returned (.bool true) ∧ Below w.heap.size w w' := by
  refine law_big _ (fun a len cap w hs => ?_) rising_in a0 len0 cap0 z0 w h
  go_enter Try.func7, Try.ntmps7
  go_wp2_with (go_at_call 9; refine (big_yes a len cap w hs).mono ?_; rintro e w ⟨rfl, rfl⟩)
  go_ret
  exact ⟨rfl, Below.refl _ _⟩

end Go.Proofs.Ytlnpfjnpnjiepaa
