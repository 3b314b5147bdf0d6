/- FnRounded: what is rounded is the floor or the ceiling: the walk. -/
import Derived.Test.YtlnpfjnpnjiepaaDrRF
import Derived.Test.YtlnpfjnpnjiepaaLT
import Derived.Test.YtlnpfjnpnjiepaaCutW
import Derived.Test.YtlnpfjnpnjiepaaIRoundF
import Derived.Test.YtlnpfjnpnjiepaaSRoundF
import Derived.Test.YtlnpfjnpnjiepaaIWholeAdd
import Derived.Test.YtlnpfjnpnjiepaaIWholeMul
import Derived.Test.YtlnpfjnpnjiepaaIWholeOf
namespace Go.Proofs.Ytlnpfjnpnjiepaa
open Go.RowKit
set_option linter.unusedSimpArgs false

set_option maxRecDepth 20000 in
set_option maxHeartbeats 6400000 in
theorem rounded_in (a : Option Addr) (len cap : Nat) (zs : List Int) (w : World) (hlen : len ≤ 1048576) (h : CodeIs w a len cap zs) :
    Calls Try.prog 5 #[.slice a len cap] w fun e w' => e = .returned (.bool true) ∧ Below w.heap.size w w' := by
  go_enter Try.func5, Try.ntmps5
  go_wp2_with fail
  refine (big_no a len cap w hlen).mono ?_
  rintro e w ⟨rfl, rfl⟩
  go_wp2_with fail
  refine (drRFrac a len cap zs w hlen h).mono ?_
  rintro e w1 ⟨v1, u1, ra, rb, m, rfl, Ra, Rb, la, lb, m0, m1, B⟩
  clear h
  obtain ⟨s1, rfl, q1⟩ := id Ra
  obtain ⟨ad1, cp1, rfl, -⟩ := q1
  obtain ⟨t1, rfl, p1⟩ := id Rb
  obtain ⟨ae1, cq1, rfl, -⟩ := p1
  have bb := below1 w1 (.cells #[.bool ra.1, .slice ad1 ra.2.length cp1] 26)
  replace Ra := Ra.below bb (Nat.le_refl _)
  replace Rb := Rb.below bb (Nat.le_refl _)
  replace B := B.trans (bb.mono B.size)
  clear bb
  have Xa := BoxW.made w1 (.bool ra.1) (.slice ad1 ra.2.length cp1) 26
  have bb := below1 (w1.alloc (.cells #[.bool ra.1, .slice ad1 ra.2.length cp1] 26)) (.cells #[.bool rb.1, .slice ae1 rb.2.length cq1] 26)
  replace Ra := Ra.below bb (Nat.le_refl _)
  replace Rb := Rb.below bb (Nat.le_refl _)
  replace Xa := Xa.below bb (Nat.le_refl _)
  replace B := B.trans (bb.mono B.size)
  clear bb
  have Xb := BoxW.made (w1.alloc (.cells #[.bool ra.1, .slice ad1 ra.2.length cp1] 26)) (.bool rb.1) (.slice ae1 rb.2.length cq1) 26
  have hsz : (w1.alloc (.cells #[.bool ra.1, .slice ad1 ra.2.length cp1] 26)).heap.size = w1.heap.size + 1 := by simp
  rw [hsz] at Xb
  clear hsz
  obtain ⟨x, o, hx⟩ : ∃ x o, rfracR ra rb m = (x, o) := ⟨_, _, rfl⟩
  have lx : x.2.length ≤ 1048576 := by have := rfracR_len ra rb m; rw [hx] at this; exact this
  have c0a := Xa.c0
  have c1a := Xa.c1
  have c0b := Xb.c0
  have c1b := Xb.c1
  go_wp2_with fail
  clear c0a c1a c0b c1b
  generalize (w1.alloc (.cells #[.bool ra.1, .slice ad1 ra.2.length cp1] 26)).alloc (.cells #[.bool rb.1, .slice ae1 rb.2.length cq1] 26) = w2 at *
  have k3 := iRoundFrac _ _ ra rb m w2 Ra Rb (by omega) (by omega)
  rw [hx] at k3
  refine k3.mono ?_
  rintro e w3 ⟨v3, rfl, o3, b3⟩
  replace Ra := Ra.below b3 (Nat.le_refl _)
  replace Rb := Rb.below b3 (Nat.le_refl _)
  replace Xa := Xa.below b3 (Nat.le_refl _)
  replace Xb := Xb.below b3 (Nat.le_refl _)
  replace B := B.trans (b3.mono B.size)
  clear b3 k3
  obtain ⟨s3, rfl, q3⟩ := o3
  obtain ⟨ad3, cp3, rfl, -⟩ := q3.row
  have Rx : rowW w3 (.agg #[.bool x.1, .slice ad3 x.2.length cp3]) x := ⟨_, rfl, q3.row⟩
  clear q3
  have d0a := Xa.c0
  have d1a := Xa.c1
  have dha := Xa.hi
  have d0b := Xb.c0
  have d1b := Xb.c1
  have dhb := Xb.hi
  have bb := below1 w3 (.cells #[.bool x.1, .slice ad3 x.2.length cp3] 26)
  replace Ra := Ra.below bb (Nat.le_refl _)
  replace Rb := Rb.below bb (Nat.le_refl _)
  replace Rx := Rx.below bb (Nat.le_refl _)
  replace Xa := Xa.below bb (Nat.le_refl _)
  replace Xb := Xb.below bb (Nat.le_refl _)
  replace B := B.trans (bb.mono B.size)
  clear bb
  have Xx := BoxW.made w3 (.bool x.1) (.slice ad3 x.2.length cp3) 26
  have c0a := Xa.c0
  have c1a := Xa.c1
  have c0b := Xb.c0
  have c1b := Xb.c1
  have c0x := Xx.c0
  have c1x := Xx.c1
  go_wp2_with fail
  clear c0a c1a c0b c1b c0x c1x
  clear d0a d1a dha d0b d1b dhb
  generalize w3.alloc (.cells #[.bool x.1, .slice ad3 x.2.length cp3] 26) = w4 at *
  have k5 := sRoundFrac _ _ ra rb m w4 Ra Rb (by omega) (by omega)
  rw [hx] at k5
  refine k5.mono ?_
  rintro e w5 ⟨v5, rfl, o5, b5⟩
  replace Ra := Ra.below b5 (Nat.le_refl _)
  replace Rb := Rb.below b5 (Nat.le_refl _)
  replace Rx := Rx.below b5 (Nat.le_refl _)
  replace Xa := Xa.below b5 (Nat.le_refl _)
  replace Xb := Xb.below b5 (Nat.le_refl _)
  replace Xx := Xx.below b5 (Nat.le_refl _)
  replace B := B.trans (b5.mono B.size)
  clear b5 k5
  obtain ⟨s5, rfl, q5⟩ := o5
  obtain ⟨ad5, cp5, rfl, -⟩ := q5.row
  clear q5
  have d0a := Xa.c0
  have d1a := Xa.c1
  have dha := Xa.hi
  have d0b := Xb.c0
  have d1b := Xb.c1
  have dhb := Xb.hi
  have d0x := Xx.c0
  have d1x := Xx.c1
  have dhx := Xx.hi
  have bb := below1 w5 (.cells #[.bool x.1, .slice ad5 x.2.length cp5] 26)
  replace Ra := Ra.below bb (Nat.le_refl _)
  replace Rb := Rb.below bb (Nat.le_refl _)
  replace Rx := Rx.below bb (Nat.le_refl _)
  replace Xa := Xa.below bb (Nat.le_refl _)
  replace Xb := Xb.below bb (Nat.le_refl _)
  replace Xx := Xx.below bb (Nat.le_refl _)
  replace B := B.trans (bb.mono B.size)
  clear bb
  have Xz5 := BoxW.made w5 (.bool x.1) (.slice ad5 x.2.length cp5) 26
  have HX : Hid (rfracR ra rb m = (x, o)) := hx
  clear hx
  cases o
  · have e := rfracR_no HX.out
    subst e
    have c0a := Xa.c0
    have c1a := Xa.c1
    have c0b := Xb.c0
    have c1b := Xb.c1
    have c0x := Xx.c0
    have c1x := Xx.c1
    have c0z5 := Xz5.c0
    have c1z5 := Xz5.c1
    go_wp2
    go_ret
    exact ⟨rfl, B⟩
  · obtain ⟨lx, dn, up, on, oo, pr, po, f1, f2, f3, f4, ld, lu, lo, lp, f5⟩ := rounded_facts HX.out
    clear HX
    have c0a := Xa.c0
    have c1a := Xa.c1
    have c0b := Xb.c0
    have c1b := Xb.c1
    have c0x := Xx.c0
    have c1x := Xx.c1
    have c0z5 := Xz5.c0
    have c1z5 := Xz5.c1
    go_wp2_with fail
    clear c0a c1a c0b c1b c0x c1x c0z5 c1z5
    clear d0a d1a dha d0b d1b dhb d0x d1x dhx
    generalize w5.alloc (.cells #[.bool x.1, .slice ad5 x.2.length cp5] 26) = w6 at *
    have k7 := iRoundFrac _ _ ra rb 0 w6 Ra Rb (by omega) (by omega)
    rw [f1] at k7
    refine k7.mono ?_
    rintro e w7 ⟨v7, rfl, o7, b7⟩
    replace Ra := Ra.below b7 (Nat.le_refl _)
    replace Rb := Rb.below b7 (Nat.le_refl _)
    replace Rx := Rx.below b7 (Nat.le_refl _)
    replace Xa := Xa.below b7 (Nat.le_refl _)
    replace Xb := Xb.below b7 (Nat.le_refl _)
    replace Xx := Xx.below b7 (Nat.le_refl _)
    replace Xz5 := Xz5.below b7 (Nat.le_refl _)
    replace B := B.trans (b7.mono B.size)
    clear b7 k7
    obtain ⟨s7, rfl, q7⟩ := o7
    obtain ⟨ad7, cp7, rfl, -⟩ := q7.row
    have Rd : rowW w7 (.agg #[.bool dn.1, .slice ad7 dn.2.length cp7]) dn := ⟨_, rfl, q7.row⟩
    clear q7
    have d0a := Xa.c0
    have d1a := Xa.c1
    have dha := Xa.hi
    have d0b := Xb.c0
    have d1b := Xb.c1
    have dhb := Xb.hi
    have d0x := Xx.c0
    have d1x := Xx.c1
    have dhx := Xx.hi
    have d0z5 := Xz5.c0
    have d1z5 := Xz5.c1
    have dhz5 := Xz5.hi
    have bb := below1 w7 (.cells #[.bool dn.1, .slice ad7 dn.2.length cp7] 26)
    replace Ra := Ra.below bb (Nat.le_refl _)
    replace Rb := Rb.below bb (Nat.le_refl _)
    replace Rx := Rx.below bb (Nat.le_refl _)
    replace Rd := Rd.below bb (Nat.le_refl _)
    replace Xa := Xa.below bb (Nat.le_refl _)
    replace Xb := Xb.below bb (Nat.le_refl _)
    replace Xx := Xx.below bb (Nat.le_refl _)
    replace Xz5 := Xz5.below bb (Nat.le_refl _)
    replace B := B.trans (bb.mono B.size)
    clear bb
    have Xd := BoxW.made w7 (.bool dn.1) (.slice ad7 dn.2.length cp7) 26
    have c0a := Xa.c0
    have c1a := Xa.c1
    have c0b := Xb.c0
    have c1b := Xb.c1
    have c0x := Xx.c0
    have c1x := Xx.c1
    have c0z5 := Xz5.c0
    have c1z5 := Xz5.c1
    have c0d := Xd.c0
    have c1d := Xd.c1
    go_wp2_with fail
    clear c0a c1a c0b c1b c0x c1x c0z5 c1z5 c0d c1d
    clear d0a d1a dha d0b d1b dhb d0x d1x dhx d0z5 d1z5 dhz5
    generalize w7.alloc (.cells #[.bool dn.1, .slice ad7 dn.2.length cp7] 26) = w8 at *
    have k9 := iRoundFrac _ _ ra rb 1 w8 Ra Rb (by omega) (by omega)
    rw [f2] at k9
    refine k9.mono ?_
    rintro e w9 ⟨v9, rfl, o9, b9⟩
    replace Ra := Ra.below b9 (Nat.le_refl _)
    replace Rb := Rb.below b9 (Nat.le_refl _)
    replace Rx := Rx.below b9 (Nat.le_refl _)
    replace Rd := Rd.below b9 (Nat.le_refl _)
    replace Xa := Xa.below b9 (Nat.le_refl _)
    replace Xb := Xb.below b9 (Nat.le_refl _)
    replace Xx := Xx.below b9 (Nat.le_refl _)
    replace Xz5 := Xz5.below b9 (Nat.le_refl _)
    replace Xd := Xd.below b9 (Nat.le_refl _)
    replace B := B.trans (b9.mono B.size)
    clear b9 k9
    obtain ⟨s9, rfl, q9⟩ := o9
    obtain ⟨ad9, cp9, rfl, -⟩ := q9.row
    have Ru : rowW w9 (.agg #[.bool up.1, .slice ad9 up.2.length cp9]) up := ⟨_, rfl, q9.row⟩
    clear q9
    have d0a := Xa.c0
    have d1a := Xa.c1
    have dha := Xa.hi
    have d0b := Xb.c0
    have d1b := Xb.c1
    have dhb := Xb.hi
    have d0x := Xx.c0
    have d1x := Xx.c1
    have dhx := Xx.hi
    have d0z5 := Xz5.c0
    have d1z5 := Xz5.c1
    have dhz5 := Xz5.hi
    have d0d := Xd.c0
    have d1d := Xd.c1
    have dhd := Xd.hi
    have bb := below1 w9 (.cells #[.bool up.1, .slice ad9 up.2.length cp9] 26)
    replace Ra := Ra.below bb (Nat.le_refl _)
    replace Rb := Rb.below bb (Nat.le_refl _)
    replace Rx := Rx.below bb (Nat.le_refl _)
    replace Rd := Rd.below bb (Nat.le_refl _)
    replace Ru := Ru.below bb (Nat.le_refl _)
    replace Xa := Xa.below bb (Nat.le_refl _)
    replace Xb := Xb.below bb (Nat.le_refl _)
    replace Xx := Xx.below bb (Nat.le_refl _)
    replace Xz5 := Xz5.below bb (Nat.le_refl _)
    replace Xd := Xd.below bb (Nat.le_refl _)
    replace B := B.trans (bb.mono B.size)
    clear bb
    have Xu := BoxW.made w9 (.bool up.1) (.slice ad9 up.2.length cp9) 26
    clear f1 f2
    have kO := fun W => iWholeOf 1 W (by omega) (by omega)
    have kA := fun (v1 v2 : Value) (W : World) (h1 : rowW W v1 dn) (h2 : rowW W v2 (wofR 1)) => iWholeAdd v1 v2 dn (wofR 1) W h1 h2 (by omega) (by have := limbs_len_le (1 : Int).natAbs 1 (by decide); show (limbs (1 : Int).natAbs).length ≤ _; omega)
    rw [f3] at kA
    clear f3
    generalize wofR 1 = w1n at kO kA
    have c0a := Xa.c0
    have c1a := Xa.c1
    have c0b := Xb.c0
    have c1b := Xb.c1
    have c0x := Xx.c0
    have c1x := Xx.c1
    have c0z5 := Xz5.c0
    have c1z5 := Xz5.c1
    have c0d := Xd.c0
    have c1d := Xd.c1
    have c0u := Xu.c0
    have c1u := Xu.c1
    go_wp2_with fail
    clear c0a c1a c0b c1b c0x c1x c0z5 c1z5 c0d c1d c0u c1u
    clear d0a d1a dha d0b d1b dhb d0x d1x dhx d0z5 d1z5 dhz5 d0d d1d dhd
    generalize w9.alloc (.cells #[.bool up.1, .slice ad9 up.2.length cp9] 26) = w10 at *
    have od := Xd
    apply wp_cutW (r := on) (base := w10.heap.size) (W := w10)
    case hA =>
      obtain ⟨vs1, -⟩ : ∃ v : Value, v = v := ⟨undef, rfl⟩
      have C0 : Below w10.heap.size w10 w10.drew := (Below.refl w10.heap.size w10).drew
      have hC0 : w10.heap.size ≤ w10.drew.heap.size := C0.size
      have kd := od.below C0 (Nat.le_refl _)
      have kd0 := kd.c0
      have kd1 := kd.c1
      have CZ : Below w10.heap.size w10 (w10.alloc (.cells #[.bool false, .slice none 0 0] 26)).drew := (below1 w10 (.cells #[.bool false, .slice none 0 0] 26)).drew
      have hCZ : w10.heap.size ≤ (w10.alloc (.cells #[.bool false, .slice none 0 0] 26)).drew.heap.size := CZ.size
      have obz := (BoxW.made w10 (.bool false) (.slice none 0 0) 26).below ((Below.refl (w10.alloc (.cells #[.bool false, .slice none 0 0] 26)).heap.size (w10.alloc (.cells #[.bool false, .slice none 0 0] 26))).drew) (Nat.le_refl _)
      have hbz : w10.heap.size < (w10.alloc (.cells #[.bool false, .slice none 0 0] 26)).drew.heap.size := obz.hi
      have kzd := od.below CZ (Nat.le_refl _)
      have kzd0 := kzd.c0
      have kzd1 := kzd.c1
      have hid := od.hi
      have nzd : ¬ (w10.heap.size = w7.heap.size) := by omega
      have nyd : ¬ (w7.heap.size = w10.heap.size) := by omega
      go_region_held (fun w' => w'.cell? ⟨w7.heap.size, 0, none⟩ = some (.bool dn.1) ∧ w'.cell? ⟨w7.heap.size, 1, none⟩ = some (.slice ad7 dn.2.length cp7)) (go_keep) (first
        | (go_at_call 26
           (first
             | (refine (kO (w10.drew)).mono ?_; rintro e wc1 ⟨vs0, rfl, os0, bb1⟩; have C1 := C0.trans (bb1.mono hC0); have hC1 := Nat.le_trans hC0 bb1.size)
             | (refine (kO ((w10.alloc (.cells #[.bool false, .slice none 0 0] 26)).drew)).mono ?_; rintro e wc1 ⟨vs0, rfl, os0, bb1⟩; have C1 := CZ.trans (bb1.mono hCZ); have hC1 := Nat.le_trans hCZ bb1.size; have obx := obz.below bb1 (Nat.le_refl _); have hbx := Nat.lt_of_lt_of_le hbz bb1.size)
             )
           have kd := od.below C1 (Nat.le_refl _)
           have kd0 := kd.c0
           have kd1 := kd.c1)
        | (go_at_call 12
           (first
             | (have qx := obx; refine (kA _ vs0 (wc1) (Rd.below C1 (Nat.le_refl _)) os0.row).mono ?_; rintro e wc2 ⟨vF, rfl, oF, bb2⟩; have os0 := os0.below bb2 (Nat.le_refl _); have hBF := hC1; have hXF := qx.hi; have C2 := C1.trans (bb2.mono hC1); have hC2 := Nat.le_trans hC1 bb2.size; have obx := qx.below bb2 (Nat.le_refl _); clear qx)
             | (refine (kA _ vs0 (wc1) (Rd.below C1 (Nat.le_refl _)) os0.row).mono ?_; rintro e wc2 ⟨vF, rfl, oF, bb2⟩; have os0 := os0.below bb2 (Nat.le_refl _); have hBF := hC1; have C2 := C1.trans (bb2.mono hC1); have hC2 := Nat.le_trans hC1 bb2.size)
             | (have CA := C1.alloc hC1 (.cells #[.bool false, .slice none 0 0] 26); refine (kA _ vs0 ((wc1.alloc (.cells #[.bool false, .slice none 0 0] 26))) (Rd.below CA (Nat.le_refl _)) (os0.below (below1 wc1 (.cells #[.bool false, .slice none 0 0] 26)) (Nat.le_refl _)).row).mono ?_; rintro e wc2 ⟨vF, rfl, oF, bb2⟩; have os0 := (os0.below (below1 wc1 (.cells #[.bool false, .slice none 0 0] 26)) (Nat.le_refl _)).below bb2 (Nat.le_refl _); have hBF : w10.heap.size ≤ (wc1.alloc (.cells #[.bool false, .slice none 0 0] 26)).heap.size := Nat.le_trans hC1 (below1 wc1 (.cells #[.bool false, .slice none 0 0] 26)).size; have hXF : wc1.heap.size < (wc1.alloc (.cells #[.bool false, .slice none 0 0] 26)).heap.size := (by simp); have C2 := CA.trans (bb2.mono (Nat.le_trans hC1 (below1 wc1 (.cells #[.bool false, .slice none 0 0] 26)).size)); have hC2 := Nat.le_trans (Nat.le_trans hC1 (below1 wc1 (.cells #[.bool false, .slice none 0 0] 26)).size) bb2.size; have obx := ((BoxW.made wc1 (.bool false) (.slice none 0 0) 26).mono hC1).below bb2 (Nat.le_refl _); have hbx : wc1.heap.size < (wc1.alloc (.cells #[.bool false, .slice none 0 0] 26)).heap.size := (by simp); have nad : ¬ (wc1.heap.size = w7.heap.size) := (by omega); have nbd : ¬ (w7.heap.size = wc1.heap.size) := (by omega))
             )
           have kd := od.below C2 (Nat.le_refl _)
           have kd0 := kd.c0
           have kd1 := kd.c1
           obtain ⟨sF, rfl, hqF⟩ := id oF
           obtain ⟨ad, cp, rfl, -⟩ := hqF.row
           clear hqF
           have nud : ¬ (wc2.heap.size = w7.heap.size) := by omega
           have nvd : ¬ (w7.heap.size = wc2.heap.size) := by omega
           (try have ox0 := obx.c0)
           (try have ox1 := obx.c1)
           (try have ox2 := obx.f0)
           (try have ox3 := obx.f1))
        )
      all_goals first
        | (have hcut := cut_old obx oF hBF hXF C2 (.bool on.1) (.slice ad on.2.length cp); exact cutM_in vs0 vs1 ad cp _ rfl hcut)
        | (have hcut := cut_new oF hBF hC2 C2 26 (.bool on.1) (.slice ad on.2.length cp); generalize wc2.heap.size = bx at *; exact cutM_in vs0 vs1 ad cp bx rfl hcut)
    intro vs0 vs1 ad11 cp11 bk11 w11 oN11 oX11 dX11 b11
    replace Ra := Ra.below b11 (Nat.le_refl _)
    replace Rb := Rb.below b11 (Nat.le_refl _)
    replace Rx := Rx.below b11 (Nat.le_refl _)
    replace Rd := Rd.below b11 (Nat.le_refl _)
    replace Ru := Ru.below b11 (Nat.le_refl _)
    replace Xa := Xa.below b11 (Nat.le_refl _)
    replace Xb := Xb.below b11 (Nat.le_refl _)
    replace Xx := Xx.below b11 (Nat.le_refl _)
    replace Xz5 := Xz5.below b11 (Nat.le_refl _)
    replace Xd := Xd.below b11 (Nat.le_refl _)
    replace Xu := Xu.below b11 (Nat.le_refl _)
    replace B := B.trans (b11.mono B.size)
    clear od
    have Ro := oN11.row
    have Xo := oX11
    clear oN11 oX11 dX11 b11
    clear kO kA
    have c0a := Xa.c0
    have c1a := Xa.c1
    have c0b := Xb.c0
    have c1b := Xb.c1
    have c0x := Xx.c0
    have c1x := Xx.c1
    have c0z5 := Xz5.c0
    have c1z5 := Xz5.c1
    have c0d := Xd.c0
    have c1d := Xd.c1
    have c0u := Xu.c0
    have c1u := Xu.c1
    have c0o := Xo.c0
    have c1o := Xo.c1
    go_wp2_with fail
    clear c0a c1a c0b c1b c0x c1x c0z5 c1z5 c0d c1d c0u c1u c0o c1o
    have k12 := iWholeMul _ _ dn rb w11 Rd Rb (by omega) (by omega)
    rw [f4] at k12
    refine k12.mono ?_
    rintro e w12 ⟨v12, rfl, o12, b12⟩
    replace Ra := Ra.below b12 (Nat.le_refl _)
    replace Rb := Rb.below b12 (Nat.le_refl _)
    replace Rx := Rx.below b12 (Nat.le_refl _)
    replace Rd := Rd.below b12 (Nat.le_refl _)
    replace Ru := Ru.below b12 (Nat.le_refl _)
    replace Ro := Ro.below b12 (Nat.le_refl _)
    replace Xa := Xa.below b12 (Nat.le_refl _)
    replace Xb := Xb.below b12 (Nat.le_refl _)
    replace Xx := Xx.below b12 (Nat.le_refl _)
    replace Xz5 := Xz5.below b12 (Nat.le_refl _)
    replace Xd := Xd.below b12 (Nat.le_refl _)
    replace Xu := Xu.below b12 (Nat.le_refl _)
    replace Xo := Xo.below b12 (Nat.le_refl _)
    replace B := B.trans (b12.mono B.size)
    clear b12 k12
    obtain ⟨s12, rfl, q12⟩ := o12
    obtain ⟨ad12, cp12, rfl, -⟩ := q12.row
    have Rp : rowW w12 (.agg #[.bool pr.1, .slice ad12 pr.2.length cp12]) pr := ⟨_, rfl, q12.row⟩
    clear q12
    have d0a := Xa.c0
    have d1a := Xa.c1
    have dha := Xa.hi
    have d0b := Xb.c0
    have d1b := Xb.c1
    have dhb := Xb.hi
    have d0x := Xx.c0
    have d1x := Xx.c1
    have dhx := Xx.hi
    have d0z5 := Xz5.c0
    have d1z5 := Xz5.c1
    have dhz5 := Xz5.hi
    have d0d := Xd.c0
    have d1d := Xd.c1
    have dhd := Xd.hi
    have d0u := Xu.c0
    have d1u := Xu.c1
    have dhu := Xu.hi
    have d0o := Xo.c0
    have d1o := Xo.c1
    have dho := Xo.hi
    have bb := below1 w12 (.cells #[.bool pr.1, .slice ad12 pr.2.length cp12] 26)
    replace Ra := Ra.below bb (Nat.le_refl _)
    replace Rb := Rb.below bb (Nat.le_refl _)
    replace Rx := Rx.below bb (Nat.le_refl _)
    replace Rd := Rd.below bb (Nat.le_refl _)
    replace Ru := Ru.below bb (Nat.le_refl _)
    replace Ro := Ro.below bb (Nat.le_refl _)
    replace Rp := Rp.below bb (Nat.le_refl _)
    replace Xa := Xa.below bb (Nat.le_refl _)
    replace Xb := Xb.below bb (Nat.le_refl _)
    replace Xx := Xx.below bb (Nat.le_refl _)
    replace Xz5 := Xz5.below bb (Nat.le_refl _)
    replace Xd := Xd.below bb (Nat.le_refl _)
    replace Xu := Xu.below bb (Nat.le_refl _)
    replace Xo := Xo.below bb (Nat.le_refl _)
    replace B := B.trans (bb.mono B.size)
    clear bb
    have Xp := BoxW.made w12 (.bool pr.1) (.slice ad12 pr.2.length cp12) 26
    clear f4
    rcases f5 with ⟨e1, e2, e3⟩ | ⟨e1, e2, e3⟩
    · have H1 : Hid (decide (pr = ra) = true) := decide_eq_true e1
      have H2 : Hid (decide (x = dn) = true) := decide_eq_true e2
      have H3 : Hid (decide (up = dn) = true) := decide_eq_true e3
      clear e1 e2 e3
      have c0a := Xa.c0
      have c1a := Xa.c1
      have c0b := Xb.c0
      have c1b := Xb.c1
      have c0x := Xx.c0
      have c1x := Xx.c1
      have c0z5 := Xz5.c0
      have c1z5 := Xz5.c1
      have c0d := Xd.c0
      have c1d := Xd.c1
      have c0u := Xu.c0
      have c1u := Xu.c1
      have c0o := Xo.c0
      have c1o := Xo.c1
      have c0p := Xp.c0
      have c1p := Xp.c1
      go_wp2_with fail
      clear c0a c1a c0b c1b c0x c1x c0z5 c1z5 c0d c1d c0u c1u c0o c1o c0p c1p
      clear d0a d1a dha d0b d1b dhb d0x d1x dhx d0z5 d1z5 dhz5 d0d d1d dhd d0u d1u dhu d0o d1o dho
      generalize w12.alloc (.cells #[.bool pr.1, .slice ad12 pr.2.length cp12] 26) = w13 at *
      have k14 := sameWh _ _ pr ra w13 Rp Ra (by omega)
      rw [H1.out] at k14
      refine k14.mono ?_
      rintro e w14 ⟨rfl, b14⟩
      replace Ra := Ra.below b14 (Nat.le_refl _)
      replace Rb := Rb.below b14 (Nat.le_refl _)
      replace Rx := Rx.below b14 (Nat.le_refl _)
      replace Rd := Rd.below b14 (Nat.le_refl _)
      replace Ru := Ru.below b14 (Nat.le_refl _)
      replace Ro := Ro.below b14 (Nat.le_refl _)
      replace Rp := Rp.below b14 (Nat.le_refl _)
      replace Xa := Xa.below b14 (Nat.le_refl _)
      replace Xb := Xb.below b14 (Nat.le_refl _)
      replace Xx := Xx.below b14 (Nat.le_refl _)
      replace Xz5 := Xz5.below b14 (Nat.le_refl _)
      replace Xd := Xd.below b14 (Nat.le_refl _)
      replace Xu := Xu.below b14 (Nat.le_refl _)
      replace Xo := Xo.below b14 (Nat.le_refl _)
      replace Xp := Xp.below b14 (Nat.le_refl _)
      replace B := B.trans (b14.mono B.size)
      clear k14 b14
      have c0a := Xa.c0
      have c1a := Xa.c1
      have c0b := Xb.c0
      have c1b := Xb.c1
      have c0x := Xx.c0
      have c1x := Xx.c1
      have c0z5 := Xz5.c0
      have c1z5 := Xz5.c1
      have c0d := Xd.c0
      have c1d := Xd.c1
      have c0u := Xu.c0
      have c1u := Xu.c1
      have c0o := Xo.c0
      have c1o := Xo.c1
      have c0p := Xp.c0
      have c1p := Xp.c1
      go_wp2_with fail
      clear c0a c1a c0b c1b c0x c1x c0z5 c1z5 c0d c1d c0u c1u c0o c1o c0p c1p
      have k15 := sameWh _ _ x dn w14 Rx Rd (by omega)
      rw [H2.out] at k15
      refine k15.mono ?_
      rintro e w15 ⟨rfl, b15⟩
      replace Ra := Ra.below b15 (Nat.le_refl _)
      replace Rb := Rb.below b15 (Nat.le_refl _)
      replace Rx := Rx.below b15 (Nat.le_refl _)
      replace Rd := Rd.below b15 (Nat.le_refl _)
      replace Ru := Ru.below b15 (Nat.le_refl _)
      replace Ro := Ro.below b15 (Nat.le_refl _)
      replace Rp := Rp.below b15 (Nat.le_refl _)
      replace Xa := Xa.below b15 (Nat.le_refl _)
      replace Xb := Xb.below b15 (Nat.le_refl _)
      replace Xx := Xx.below b15 (Nat.le_refl _)
      replace Xz5 := Xz5.below b15 (Nat.le_refl _)
      replace Xd := Xd.below b15 (Nat.le_refl _)
      replace Xu := Xu.below b15 (Nat.le_refl _)
      replace Xo := Xo.below b15 (Nat.le_refl _)
      replace Xp := Xp.below b15 (Nat.le_refl _)
      replace B := B.trans (b15.mono B.size)
      clear k15 b15
      have c0a := Xa.c0
      have c1a := Xa.c1
      have c0b := Xb.c0
      have c1b := Xb.c1
      have c0x := Xx.c0
      have c1x := Xx.c1
      have c0z5 := Xz5.c0
      have c1z5 := Xz5.c1
      have c0d := Xd.c0
      have c1d := Xd.c1
      have c0u := Xu.c0
      have c1u := Xu.c1
      have c0o := Xo.c0
      have c1o := Xo.c1
      have c0p := Xp.c0
      have c1p := Xp.c1
      go_wp2_with fail
      clear c0a c1a c0b c1b c0x c1x c0z5 c1z5 c0d c1d c0u c1u c0o c1o c0p c1p
      have k16 := sameWh _ _ up dn w15 Ru Rd (by omega)
      rw [H3.out] at k16
      refine k16.mono ?_
      rintro e w16 ⟨rfl, b16⟩
      replace Ra := Ra.below b16 (Nat.le_refl _)
      replace Rb := Rb.below b16 (Nat.le_refl _)
      replace Rx := Rx.below b16 (Nat.le_refl _)
      replace Rd := Rd.below b16 (Nat.le_refl _)
      replace Ru := Ru.below b16 (Nat.le_refl _)
      replace Ro := Ro.below b16 (Nat.le_refl _)
      replace Rp := Rp.below b16 (Nat.le_refl _)
      replace Xa := Xa.below b16 (Nat.le_refl _)
      replace Xb := Xb.below b16 (Nat.le_refl _)
      replace Xx := Xx.below b16 (Nat.le_refl _)
      replace Xz5 := Xz5.below b16 (Nat.le_refl _)
      replace Xd := Xd.below b16 (Nat.le_refl _)
      replace Xu := Xu.below b16 (Nat.le_refl _)
      replace Xo := Xo.below b16 (Nat.le_refl _)
      replace Xp := Xp.below b16 (Nat.le_refl _)
      replace B := B.trans (b16.mono B.size)
      clear k16 b16
      have c0a := Xa.c0
      have c1a := Xa.c1
      have c0b := Xb.c0
      have c1b := Xb.c1
      have c0x := Xx.c0
      have c1x := Xx.c1
      have c0z5 := Xz5.c0
      have c1z5 := Xz5.c1
      have c0d := Xd.c0
      have c1d := Xd.c1
      have c0u := Xu.c0
      have c1u := Xu.c1
      have c0o := Xo.c0
      have c1o := Xo.c1
      have c0p := Xp.c0
      have c1p := Xp.c1
      go_wp2
      go_ret
      exact ⟨rfl, B⟩
    · have H1 : Hid (decide (pr = ra) = false) := decide_eq_false e1
      have H2 : Hid (decide (up = on) = true) := decide_eq_true e2
      clear e1 e2
      have c0a := Xa.c0
      have c1a := Xa.c1
      have c0b := Xb.c0
      have c1b := Xb.c1
      have c0x := Xx.c0
      have c1x := Xx.c1
      have c0z5 := Xz5.c0
      have c1z5 := Xz5.c1
      have c0d := Xd.c0
      have c1d := Xd.c1
      have c0u := Xu.c0
      have c1u := Xu.c1
      have c0o := Xo.c0
      have c1o := Xo.c1
      have c0p := Xp.c0
      have c1p := Xp.c1
      go_wp2_with fail
      clear c0a c1a c0b c1b c0x c1x c0z5 c1z5 c0d c1d c0u c1u c0o c1o c0p c1p
      clear d0a d1a dha d0b d1b dhb d0x d1x dhx d0z5 d1z5 dhz5 d0d d1d dhd d0u d1u dhu d0o d1o dho
      generalize w12.alloc (.cells #[.bool pr.1, .slice ad12 pr.2.length cp12] 26) = w13 at *
      have k14 := sameWh _ _ pr ra w13 Rp Ra (by omega)
      rw [H1.out] at k14
      refine k14.mono ?_
      rintro e w14 ⟨rfl, b14⟩
      replace Ra := Ra.below b14 (Nat.le_refl _)
      replace Rb := Rb.below b14 (Nat.le_refl _)
      replace Rx := Rx.below b14 (Nat.le_refl _)
      replace Rd := Rd.below b14 (Nat.le_refl _)
      replace Ru := Ru.below b14 (Nat.le_refl _)
      replace Ro := Ro.below b14 (Nat.le_refl _)
      replace Rp := Rp.below b14 (Nat.le_refl _)
      replace Xa := Xa.below b14 (Nat.le_refl _)
      replace Xb := Xb.below b14 (Nat.le_refl _)
      replace Xx := Xx.below b14 (Nat.le_refl _)
      replace Xz5 := Xz5.below b14 (Nat.le_refl _)
      replace Xd := Xd.below b14 (Nat.le_refl _)
      replace Xu := Xu.below b14 (Nat.le_refl _)
      replace Xo := Xo.below b14 (Nat.le_refl _)
      replace Xp := Xp.below b14 (Nat.le_refl _)
      replace B := B.trans (b14.mono B.size)
      clear k14 b14
      rcases e3 with e3 | ⟨e3, e4⟩
      · have H3 : Hid (decide (x = dn) = true) := decide_eq_true e3
        clear e3
        have c0a := Xa.c0
        have c1a := Xa.c1
        have c0b := Xb.c0
        have c1b := Xb.c1
        have c0x := Xx.c0
        have c1x := Xx.c1
        have c0z5 := Xz5.c0
        have c1z5 := Xz5.c1
        have c0d := Xd.c0
        have c1d := Xd.c1
        have c0u := Xu.c0
        have c1u := Xu.c1
        have c0o := Xo.c0
        have c1o := Xo.c1
        have c0p := Xp.c0
        have c1p := Xp.c1
        go_wp2_with fail
        clear c0a c1a c0b c1b c0x c1x c0z5 c1z5 c0d c1d c0u c1u c0o c1o c0p c1p
        have k15 := sameWh _ _ x dn w14 Rx Rd (by omega)
        rw [H3.out] at k15
        refine k15.mono ?_
        rintro e w15 ⟨rfl, b15⟩
        replace Ra := Ra.below b15 (Nat.le_refl _)
        replace Rb := Rb.below b15 (Nat.le_refl _)
        replace Rx := Rx.below b15 (Nat.le_refl _)
        replace Rd := Rd.below b15 (Nat.le_refl _)
        replace Ru := Ru.below b15 (Nat.le_refl _)
        replace Ro := Ro.below b15 (Nat.le_refl _)
        replace Rp := Rp.below b15 (Nat.le_refl _)
        replace Xa := Xa.below b15 (Nat.le_refl _)
        replace Xb := Xb.below b15 (Nat.le_refl _)
        replace Xx := Xx.below b15 (Nat.le_refl _)
        replace Xz5 := Xz5.below b15 (Nat.le_refl _)
        replace Xd := Xd.below b15 (Nat.le_refl _)
        replace Xu := Xu.below b15 (Nat.le_refl _)
        replace Xo := Xo.below b15 (Nat.le_refl _)
        replace Xp := Xp.below b15 (Nat.le_refl _)
        replace B := B.trans (b15.mono B.size)
        clear k15 b15
        have c0a := Xa.c0
        have c1a := Xa.c1
        have c0b := Xb.c0
        have c1b := Xb.c1
        have c0x := Xx.c0
        have c1x := Xx.c1
        have c0z5 := Xz5.c0
        have c1z5 := Xz5.c1
        have c0d := Xd.c0
        have c1d := Xd.c1
        have c0u := Xu.c0
        have c1u := Xu.c1
        have c0o := Xo.c0
        have c1o := Xo.c1
        have c0p := Xp.c0
        have c1p := Xp.c1
        go_wp2_with fail
        clear c0a c1a c0b c1b c0x c1x c0z5 c1z5 c0d c1d c0u c1u c0o c1o c0p c1p
        have k16 := sameWh _ _ up on w15 Ru Ro (by omega)
        rw [H2.out] at k16
        refine k16.mono ?_
        rintro e w16 ⟨rfl, b16⟩
        replace Ra := Ra.below b16 (Nat.le_refl _)
        replace Rb := Rb.below b16 (Nat.le_refl _)
        replace Rx := Rx.below b16 (Nat.le_refl _)
        replace Rd := Rd.below b16 (Nat.le_refl _)
        replace Ru := Ru.below b16 (Nat.le_refl _)
        replace Ro := Ro.below b16 (Nat.le_refl _)
        replace Rp := Rp.below b16 (Nat.le_refl _)
        replace Xa := Xa.below b16 (Nat.le_refl _)
        replace Xb := Xb.below b16 (Nat.le_refl _)
        replace Xx := Xx.below b16 (Nat.le_refl _)
        replace Xz5 := Xz5.below b16 (Nat.le_refl _)
        replace Xd := Xd.below b16 (Nat.le_refl _)
        replace Xu := Xu.below b16 (Nat.le_refl _)
        replace Xo := Xo.below b16 (Nat.le_refl _)
        replace Xp := Xp.below b16 (Nat.le_refl _)
        replace B := B.trans (b16.mono B.size)
        clear k16 b16
        have c0a := Xa.c0
        have c1a := Xa.c1
        have c0b := Xb.c0
        have c1b := Xb.c1
        have c0x := Xx.c0
        have c1x := Xx.c1
        have c0z5 := Xz5.c0
        have c1z5 := Xz5.c1
        have c0d := Xd.c0
        have c1d := Xd.c1
        have c0u := Xu.c0
        have c1u := Xu.c1
        have c0o := Xo.c0
        have c1o := Xo.c1
        have c0p := Xp.c0
        have c1p := Xp.c1
        go_wp2
        go_ret
        exact ⟨rfl, B⟩
      · have H3 : Hid (decide (x = dn) = false) := decide_eq_false e3
        have H4 : Hid (decide (x = up) = true) := decide_eq_true e4
        clear e3 e4
        have c0a := Xa.c0
        have c1a := Xa.c1
        have c0b := Xb.c0
        have c1b := Xb.c1
        have c0x := Xx.c0
        have c1x := Xx.c1
        have c0z5 := Xz5.c0
        have c1z5 := Xz5.c1
        have c0d := Xd.c0
        have c1d := Xd.c1
        have c0u := Xu.c0
        have c1u := Xu.c1
        have c0o := Xo.c0
        have c1o := Xo.c1
        have c0p := Xp.c0
        have c1p := Xp.c1
        go_wp2_with fail
        clear c0a c1a c0b c1b c0x c1x c0z5 c1z5 c0d c1d c0u c1u c0o c1o c0p c1p
        have k15 := sameWh _ _ x dn w14 Rx Rd (by omega)
        rw [H3.out] at k15
        refine k15.mono ?_
        rintro e w15 ⟨rfl, b15⟩
        replace Ra := Ra.below b15 (Nat.le_refl _)
        replace Rb := Rb.below b15 (Nat.le_refl _)
        replace Rx := Rx.below b15 (Nat.le_refl _)
        replace Rd := Rd.below b15 (Nat.le_refl _)
        replace Ru := Ru.below b15 (Nat.le_refl _)
        replace Ro := Ro.below b15 (Nat.le_refl _)
        replace Rp := Rp.below b15 (Nat.le_refl _)
        replace Xa := Xa.below b15 (Nat.le_refl _)
        replace Xb := Xb.below b15 (Nat.le_refl _)
        replace Xx := Xx.below b15 (Nat.le_refl _)
        replace Xz5 := Xz5.below b15 (Nat.le_refl _)
        replace Xd := Xd.below b15 (Nat.le_refl _)
        replace Xu := Xu.below b15 (Nat.le_refl _)
        replace Xo := Xo.below b15 (Nat.le_refl _)
        replace Xp := Xp.below b15 (Nat.le_refl _)
        replace B := B.trans (b15.mono B.size)
        clear k15 b15
        have c0a := Xa.c0
        have c1a := Xa.c1
        have c0b := Xb.c0
        have c1b := Xb.c1
        have c0x := Xx.c0
        have c1x := Xx.c1
        have c0z5 := Xz5.c0
        have c1z5 := Xz5.c1
        have c0d := Xd.c0
        have c1d := Xd.c1
        have c0u := Xu.c0
        have c1u := Xu.c1
        have c0o := Xo.c0
        have c1o := Xo.c1
        have c0p := Xp.c0
        have c1p := Xp.c1
        go_wp2_with fail
        clear c0a c1a c0b c1b c0x c1x c0z5 c1z5 c0d c1d c0u c1u c0o c1o c0p c1p
        have k16 := sameWh _ _ x up w15 Rx Ru (by omega)
        rw [H4.out] at k16
        refine k16.mono ?_
        rintro e w16 ⟨rfl, b16⟩
        replace Ra := Ra.below b16 (Nat.le_refl _)
        replace Rb := Rb.below b16 (Nat.le_refl _)
        replace Rx := Rx.below b16 (Nat.le_refl _)
        replace Rd := Rd.below b16 (Nat.le_refl _)
        replace Ru := Ru.below b16 (Nat.le_refl _)
        replace Ro := Ro.below b16 (Nat.le_refl _)
        replace Rp := Rp.below b16 (Nat.le_refl _)
        replace Xa := Xa.below b16 (Nat.le_refl _)
        replace Xb := Xb.below b16 (Nat.le_refl _)
        replace Xx := Xx.below b16 (Nat.le_refl _)
        replace Xz5 := Xz5.below b16 (Nat.le_refl _)
        replace Xd := Xd.below b16 (Nat.le_refl _)
        replace Xu := Xu.below b16 (Nat.le_refl _)
        replace Xo := Xo.below b16 (Nat.le_refl _)
        replace Xp := Xp.below b16 (Nat.le_refl _)
        replace B := B.trans (b16.mono B.size)
        clear k16 b16
        have c0a := Xa.c0
        have c1a := Xa.c1
        have c0b := Xb.c0
        have c1b := Xb.c1
        have c0x := Xx.c0
        have c1x := Xx.c1
        have c0z5 := Xz5.c0
        have c1z5 := Xz5.c1
        have c0d := Xd.c0
        have c1d := Xd.c1
        have c0u := Xu.c0
        have c1u := Xu.c1
        have c0o := Xo.c0
        have c1o := Xo.c1
        have c0p := Xp.c0
        have c1p := Xp.c1
        go_wp2_with fail
        clear c0a c1a c0b c1b c0x c1x c0z5 c1z5 c0d c1d c0u c1u c0o c1o c0p c1p
        have k17 := sameWh _ _ up on w16 Ru Ro (by omega)
        rw [H2.out] at k17
        refine k17.mono ?_
        rintro e w17 ⟨rfl, b17⟩
        replace Ra := Ra.below b17 (Nat.le_refl _)
        replace Rb := Rb.below b17 (Nat.le_refl _)
        replace Rx := Rx.below b17 (Nat.le_refl _)
        replace Rd := Rd.below b17 (Nat.le_refl _)
        replace Ru := Ru.below b17 (Nat.le_refl _)
        replace Ro := Ro.below b17 (Nat.le_refl _)
        replace Rp := Rp.below b17 (Nat.le_refl _)
        replace Xa := Xa.below b17 (Nat.le_refl _)
        replace Xb := Xb.below b17 (Nat.le_refl _)
        replace Xx := Xx.below b17 (Nat.le_refl _)
        replace Xz5 := Xz5.below b17 (Nat.le_refl _)
        replace Xd := Xd.below b17 (Nat.le_refl _)
        replace Xu := Xu.below b17 (Nat.le_refl _)
        replace Xo := Xo.below b17 (Nat.le_refl _)
        replace Xp := Xp.below b17 (Nat.le_refl _)
        replace B := B.trans (b17.mono B.size)
        clear k17 b17
        have c0a := Xa.c0
        have c1a := Xa.c1
        have c0b := Xb.c0
        have c1b := Xb.c1
        have c0x := Xx.c0
        have c1x := Xx.c1
        have c0z5 := Xz5.c0
        have c1z5 := Xz5.c1
        have c0d := Xd.c0
        have c1d := Xd.c1
        have c0u := Xu.c0
        have c1u := Xu.c1
        have c0o := Xo.c0
        have c1o := Xo.c1
        have c0p := Xp.c0
        have c1p := Xp.c1
        go_wp2
        go_ret
        exact ⟨rfl, B⟩

set_option maxRecDepth 20000 in
set_option maxHeartbeats 1600000 in
theorem walkRounded (a0 : Option Addr) (len0 cap0 : Nat) (z0 : List Int) (w : World) (h : IsRow .u8 w a0 len0 cap0 z0) :
    Calls Try.prog 5 #[.slice a0 len0 cap0] w fun e w' => e = .returned (.bool true) ∧ Below w.heap.size w w' := by
  refine law_big _ (fun a len cap w hs => ?_) rounded_in a0 len0 cap0 z0 w h
  go_enter Try.func5, Try.ntmps5
  go_wp2_with (go_at_call 9; refine (big_yes a len cap w hs).mono ?_; rintro e w ⟨rfl, rfl⟩)
  go_ret
  exact ⟨rfl, Below.refl _ _⟩

end Go.Proofs.Ytlnpfjnpnjiepaa
