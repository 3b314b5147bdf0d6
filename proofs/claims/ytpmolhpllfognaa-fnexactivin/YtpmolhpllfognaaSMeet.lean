/- The specification's IvMeet and IvIn, each by its contract. -/
import Derived.Test.YtpmolhpllfognaaSIvOk
import Derived.Test.YtpmolhpllfognaaIMeet
namespace Go.Proofs.Ytpmolhpllfognaa
open Go.RowKit
set_option linter.unusedSimpArgs false

set_option maxRecDepth 20000 in
set_option maxHeartbeats 3200000 in
theorem sIvMeet (va vb : Value) (a b : Vh) (w : World) (ha : rowV w va a) (hb : rowV w vb b) (hl0 : a.1.2.length ≤ 1048576) (hl1 : a.2.2.length ≤ 1048576) (hl2 : b.1.2.length ≤ 1048576) (hl3 : b.2.2.length ≤ 1048576) :
    Calls Try.prog 31 #[va, vb] w fun e w' => e = .returned (.bool (meetR a b)) ∧ Below w.heap.size w w' := by
  have kA := fun W (h : Below w.heap.size w W) => sIvOk va a W (ha.below h (Nat.le_refl _)) hl0 hl1
  have kB := fun W (h : Below w.heap.size w W) => sIvOk vb b W (hb.below h (Nat.le_refl _)) hl2 hl3
  obtain ⟨s, t, rfl, hs, ht⟩ := ha
  obtain ⟨u, v, rfl, hu, hv⟩ := hb
  have kC : okV a = true → okV b = true → ∀ W, Below w.heap.size w W → Calls Try.prog 41 #[.agg #[.bool a.1.1, s], .agg #[.bool b.2.1, v]] W fun e w' => e = .returned (.int .i64 (cmpZ (valW a.1) (valW b.2))) ∧ Below W.heap.size W w' := by
    intro h1 h2 W h
    have z1 := okV_yes h1
    have z2 := okV_yes h2
    have l1 := okW_lenV z1.1
    have l2 := okW_lenV z1.2.1
    have l3 := okW_lenV z2.1
    have l4 := okW_lenV z2.2.1
    exact sWCmp _ _ (valW a.1) (valW b.2) W (by rw [← mkW_of (by first | exact z1.1 | exact z1.2.1 | exact z2.1 | exact z2.2.1)]; exact ⟨_, rfl, hs.below h (Nat.le_refl _)⟩) (by rw [← mkW_of (by first | exact z1.1 | exact z1.2.1 | exact z2.1 | exact z2.2.1)]; exact ⟨_, rfl, hv.below h (Nat.le_refl _)⟩) (by omega) (by omega)
  have kG : okV a = true → okV b = true → ∀ W, Below w.heap.size w W → Calls Try.prog 41 #[.agg #[.bool b.1.1, u], .agg #[.bool a.2.1, t]] W fun e w' => e = .returned (.int .i64 (cmpZ (valW b.1) (valW a.2))) ∧ Below W.heap.size W w' := by
    intro h1 h2 W h
    have z1 := okV_yes h1
    have z2 := okV_yes h2
    have l1 := okW_lenV z1.1
    have l2 := okW_lenV z1.2.1
    have l3 := okW_lenV z2.1
    have l4 := okW_lenV z2.2.1
    exact sWCmp _ _ (valW b.1) (valW a.2) W (by rw [← mkW_of (by first | exact z1.1 | exact z1.2.1 | exact z2.1 | exact z2.2.1)]; exact ⟨_, rfl, hu.below h (Nat.le_refl _)⟩) (by rw [← mkW_of (by first | exact z1.1 | exact z1.2.1 | exact z2.1 | exact z2.2.1)]; exact ⟨_, rfl, ht.below h (Nat.le_refl _)⟩) (by omega) (by omega)
  have hov : meetR a b = (okV a && okV b && (decide (cmpZ (valW a.1) (valW b.2) ≤ 0) && decide (cmpZ (valW b.1) (valW a.2) ≤ 0))) := by
    unfold cmpZ
    rw [ord_le, ord_le]
    rfl
  rw [hov]
  clear hov
  obtain ⟨ad, cap, rfl, -⟩ := id hs
  obtain ⟨ae, cbp, rfl, -⟩ := id ht
  obtain ⟨bd, cap2, rfl, -⟩ := id hu
  obtain ⟨be, cbp2, rfl, -⟩ := id hv
  generalize okV a = o1 at *
  generalize okV b = o2 at *
  generalize cmpZ (valW a.1) (valW b.2) = c1 at *
  generalize cmpZ (valW b.1) (valW a.2) = c2 at *
  clear hs ht hu hv
  have s1 : (w.alloc (.cells #[.bool a.1.1, .slice ad a.1.2.length cap, .bool a.2.1, .slice ae a.2.2.length cbp] 31)).heap.size = w.heap.size + 1 := by simp
  have X0 := (BoxV.made w (.bool a.1.1) (.slice ad a.1.2.length cap) (.bool a.2.1) (.slice ae a.2.2.length cbp) 31).below (below1 _ (.cells #[.bool b.1.1, .slice bd b.1.2.length cap2, .bool b.2.1, .slice be b.2.2.length cbp2] 31)) (Nat.le_refl _)
  have Y0 := BoxV.made (w.alloc (.cells #[.bool a.1.1, .slice ad a.1.2.length cap, .bool a.2.1, .slice ae a.2.2.length cbp] 31)) (.bool b.1.1) (.slice bd b.1.2.length cap2) (.bool b.2.1) (.slice be b.2.2.length cbp2) 31
  rw [s1] at Y0
  have B0 := below2 w (.cells #[.bool a.1.1, .slice ad a.1.2.length cap, .bool a.2.1, .slice ae a.2.2.length cbp] 31) (.cells #[.bool b.1.1, .slice bd b.1.2.length cap2, .bool b.2.1, .slice be b.2.2.length cbp2] 31)
  clear s1
  cases o1
  · clear kC kG kB
    go_enter Try.func31, Try.ntmps31
    go_wp2_with fail
    refine (kA _ B0).mono ?_
    generalize (w.alloc (.cells #[.bool a.1.1, .slice ad a.1.2.length cap, .bool a.2.1, .slice ae a.2.2.length cbp] 31)).alloc (.cells #[.bool b.1.1, .slice bd b.1.2.length cap2, .bool b.2.1, .slice be b.2.2.length cbp2] 31) = w0 at *
    rintro e w1 ⟨rfl, b1⟩
    have B1 := B0.trans (b1.mono B0.size)
    have X1 := X0.below b1 (Nat.le_refl _)
    have Y1 := Y0.below b1 (Nat.le_refl _)
    clear kA
    go_wp2
    go_ret
    exact ⟨by simp, B1⟩
  · cases o2
    · clear kC kG
      go_enter Try.func31, Try.ntmps31
      go_wp2_with fail
      refine (kA _ B0).mono ?_
      generalize (w.alloc (.cells #[.bool a.1.1, .slice ad a.1.2.length cap, .bool a.2.1, .slice ae a.2.2.length cbp] 31)).alloc (.cells #[.bool b.1.1, .slice bd b.1.2.length cap2, .bool b.2.1, .slice be b.2.2.length cbp2] 31) = w0 at *
      rintro e w1 ⟨rfl, b1⟩
      have B1 := B0.trans (b1.mono B0.size)
      have X1 := X0.below b1 (Nat.le_refl _)
      have Y1 := Y0.below b1 (Nat.le_refl _)
      have x0 := X1.c0
      have y0 := Y1.c0
      have x1 := X1.c1
      have y1 := Y1.c1
      have x2 := X1.c2
      have y2 := Y1.c2
      have x3 := X1.c3
      have y3 := Y1.c3
      go_wp2_with fail
      refine (kB _ B1).mono ?_
      clear x0 y0 x1 y1 x2 y2 x3 y3
      rintro e w2 ⟨rfl, b2⟩
      have B2 := B1.trans (b2.mono B1.size)
      have X2 := X1.below b2 (Nat.le_refl _)
      have Y2 := Y1.below b2 (Nat.le_refl _)
      clear kA kB
      go_wp2
      go_ret
      exact ⟨by simp, B2⟩
    · have kD := kC rfl rfl
      have kE := kG rfl rfl
      clear kC kG
      by_cases hc : c1 ≤ 0
      · have e1 : decide (c1 ≤ 0) = true := decide_eq_true hc
        rw [e1]
        go_enter Try.func31, Try.ntmps31
        go_wp2_with fail
        refine (kA _ B0).mono ?_
        generalize (w.alloc (.cells #[.bool a.1.1, .slice ad a.1.2.length cap, .bool a.2.1, .slice ae a.2.2.length cbp] 31)).alloc (.cells #[.bool b.1.1, .slice bd b.1.2.length cap2, .bool b.2.1, .slice be b.2.2.length cbp2] 31) = w0 at *
        rintro e w1 ⟨rfl, b1⟩
        have B1 := B0.trans (b1.mono B0.size)
        have X1 := X0.below b1 (Nat.le_refl _)
        have Y1 := Y0.below b1 (Nat.le_refl _)
        have x0 := X1.c0
        have y0 := Y1.c0
        have x1 := X1.c1
        have y1 := Y1.c1
        have x2 := X1.c2
        have y2 := Y1.c2
        have x3 := X1.c3
        have y3 := Y1.c3
        go_wp2_with fail
        refine (kB _ B1).mono ?_
        clear x0 y0 x1 y1 x2 y2 x3 y3
        rintro e w2 ⟨rfl, b2⟩
        have B2 := B1.trans (b2.mono B1.size)
        have X2 := X1.below b2 (Nat.le_refl _)
        have Y2 := Y1.below b2 (Nat.le_refl _)
        have x0 := X2.c0
        have y0 := Y2.c0
        have x1 := X2.c1
        have y1 := Y2.c1
        have x2 := X2.c2
        have y2 := Y2.c2
        have x3 := X2.c3
        have y3 := Y2.c3
        go_wp2_with fail
        refine (kD _ B2).mono ?_
        clear x0 y0 x1 y1 x2 y2 x3 y3
        rintro e w3 ⟨rfl, b3⟩
        have B3 := B2.trans (b3.mono B2.size)
        have X3 := X2.below b3 (Nat.le_refl _)
        have Y3 := Y2.below b3 (Nat.le_refl _)
        have x0 := X3.c0
        have y0 := Y3.c0
        have x1 := X3.c1
        have y1 := Y3.c1
        have x2 := X3.c2
        have y2 := Y3.c2
        have x3 := X3.c3
        have y3 := Y3.c3
        go_wp2_with fail
        refine (kE _ B3).mono ?_
        clear x0 y0 x1 y1 x2 y2 x3 y3
        rintro e w4 ⟨rfl, b4⟩
        have B4 := B3.trans (b4.mono B3.size)
        clear kA kB kD kE
        go_wp2
        go_ret
        exact ⟨by simp, B4⟩
      · have e1 : decide (c1 ≤ 0) = false := decide_eq_false hc
        rw [e1]
        go_enter Try.func31, Try.ntmps31
        go_wp2_with fail
        refine (kA _ B0).mono ?_
        generalize (w.alloc (.cells #[.bool a.1.1, .slice ad a.1.2.length cap, .bool a.2.1, .slice ae a.2.2.length cbp] 31)).alloc (.cells #[.bool b.1.1, .slice bd b.1.2.length cap2, .bool b.2.1, .slice be b.2.2.length cbp2] 31) = w0 at *
        rintro e w1 ⟨rfl, b1⟩
        have B1 := B0.trans (b1.mono B0.size)
        have X1 := X0.below b1 (Nat.le_refl _)
        have Y1 := Y0.below b1 (Nat.le_refl _)
        have x0 := X1.c0
        have y0 := Y1.c0
        have x1 := X1.c1
        have y1 := Y1.c1
        have x2 := X1.c2
        have y2 := Y1.c2
        have x3 := X1.c3
        have y3 := Y1.c3
        go_wp2_with fail
        refine (kB _ B1).mono ?_
        clear x0 y0 x1 y1 x2 y2 x3 y3
        rintro e w2 ⟨rfl, b2⟩
        have B2 := B1.trans (b2.mono B1.size)
        have X2 := X1.below b2 (Nat.le_refl _)
        have Y2 := Y1.below b2 (Nat.le_refl _)
        have x0 := X2.c0
        have y0 := Y2.c0
        have x1 := X2.c1
        have y1 := Y2.c1
        have x2 := X2.c2
        have y2 := Y2.c2
        have x3 := X2.c3
        have y3 := Y2.c3
        go_wp2_with fail
        refine (kD _ B2).mono ?_
        clear x0 y0 x1 y1 x2 y2 x3 y3
        rintro e w3 ⟨rfl, b3⟩
        have B3 := B2.trans (b3.mono B2.size)
        have X3 := X2.below b3 (Nat.le_refl _)
        have Y3 := Y2.below b3 (Nat.le_refl _)
        clear kA kB kD kE
        go_wp2
        go_ret
        exact ⟨by simp, B3⟩

set_option maxRecDepth 20000 in
set_option maxHeartbeats 3200000 in
theorem sIvIn (va vb : Value) (a b : Vh) (w : World) (ha : rowV w va a) (hb : rowV w vb b) (hl0 : a.1.2.length ≤ 1048576) (hl1 : a.2.2.length ≤ 1048576) (hl2 : b.1.2.length ≤ 1048576) (hl3 : b.2.2.length ≤ 1048576) :
    Calls Try.prog 33 #[va, vb] w fun e w' => e = .returned (.bool (ivInR a b)) ∧ Below w.heap.size w w' := by
  have kA := fun W (h : Below w.heap.size w W) => sIvOk va a W (ha.below h (Nat.le_refl _)) hl0 hl1
  have kB := fun W (h : Below w.heap.size w W) => sIvOk vb b W (hb.below h (Nat.le_refl _)) hl2 hl3
  obtain ⟨s, t, rfl, hs, ht⟩ := ha
  obtain ⟨u, v, rfl, hu, hv⟩ := hb
  have kC : okV a = true → okV b = true → ∀ W, Below w.heap.size w W → Calls Try.prog 41 #[.agg #[.bool b.1.1, u], .agg #[.bool a.1.1, s]] W fun e w' => e = .returned (.int .i64 (cmpZ (valW b.1) (valW a.1))) ∧ Below W.heap.size W w' := by
    intro h1 h2 W h
    have z1 := okV_yes h1
    have z2 := okV_yes h2
    have l1 := okW_lenV z1.1
    have l2 := okW_lenV z1.2.1
    have l3 := okW_lenV z2.1
    have l4 := okW_lenV z2.2.1
    exact sWCmp _ _ (valW b.1) (valW a.1) W (by rw [← mkW_of (by first | exact z1.1 | exact z1.2.1 | exact z2.1 | exact z2.2.1)]; exact ⟨_, rfl, hu.below h (Nat.le_refl _)⟩) (by rw [← mkW_of (by first | exact z1.1 | exact z1.2.1 | exact z2.1 | exact z2.2.1)]; exact ⟨_, rfl, hs.below h (Nat.le_refl _)⟩) (by omega) (by omega)
  have kG : okV a = true → okV b = true → ∀ W, Below w.heap.size w W → Calls Try.prog 41 #[.agg #[.bool a.2.1, t], .agg #[.bool b.2.1, v]] W fun e w' => e = .returned (.int .i64 (cmpZ (valW a.2) (valW b.2))) ∧ Below W.heap.size W w' := by
    intro h1 h2 W h
    have z1 := okV_yes h1
    have z2 := okV_yes h2
    have l1 := okW_lenV z1.1
    have l2 := okW_lenV z1.2.1
    have l3 := okW_lenV z2.1
    have l4 := okW_lenV z2.2.1
    exact sWCmp _ _ (valW a.2) (valW b.2) W (by rw [← mkW_of (by first | exact z1.1 | exact z1.2.1 | exact z2.1 | exact z2.2.1)]; exact ⟨_, rfl, ht.below h (Nat.le_refl _)⟩) (by rw [← mkW_of (by first | exact z1.1 | exact z1.2.1 | exact z2.1 | exact z2.2.1)]; exact ⟨_, rfl, hv.below h (Nat.le_refl _)⟩) (by omega) (by omega)
  have hov : ivInR a b = (okV a && okV b && (decide (cmpZ (valW b.1) (valW a.1) ≤ 0) && decide (cmpZ (valW a.2) (valW b.2) ≤ 0))) := by
    unfold cmpZ
    rw [ord_le, ord_le]
    rfl
  rw [hov]
  clear hov
  obtain ⟨ad, cap, rfl, -⟩ := id hs
  obtain ⟨ae, cbp, rfl, -⟩ := id ht
  obtain ⟨bd, cap2, rfl, -⟩ := id hu
  obtain ⟨be, cbp2, rfl, -⟩ := id hv
  generalize okV a = o1 at *
  generalize okV b = o2 at *
  generalize cmpZ (valW b.1) (valW a.1) = c1 at *
  generalize cmpZ (valW a.2) (valW b.2) = c2 at *
  clear hs ht hu hv
  have s1 : (w.alloc (.cells #[.bool a.1.1, .slice ad a.1.2.length cap, .bool a.2.1, .slice ae a.2.2.length cbp] 31)).heap.size = w.heap.size + 1 := by simp
  have X0 := (BoxV.made w (.bool a.1.1) (.slice ad a.1.2.length cap) (.bool a.2.1) (.slice ae a.2.2.length cbp) 31).below (below1 _ (.cells #[.bool b.1.1, .slice bd b.1.2.length cap2, .bool b.2.1, .slice be b.2.2.length cbp2] 31)) (Nat.le_refl _)
  have Y0 := BoxV.made (w.alloc (.cells #[.bool a.1.1, .slice ad a.1.2.length cap, .bool a.2.1, .slice ae a.2.2.length cbp] 31)) (.bool b.1.1) (.slice bd b.1.2.length cap2) (.bool b.2.1) (.slice be b.2.2.length cbp2) 31
  rw [s1] at Y0
  have B0 := below2 w (.cells #[.bool a.1.1, .slice ad a.1.2.length cap, .bool a.2.1, .slice ae a.2.2.length cbp] 31) (.cells #[.bool b.1.1, .slice bd b.1.2.length cap2, .bool b.2.1, .slice be b.2.2.length cbp2] 31)
  clear s1
  cases o1
  · clear kC kG kB
    go_enter Try.func33, Try.ntmps33
    go_wp2_with fail
    refine (kA _ B0).mono ?_
    generalize (w.alloc (.cells #[.bool a.1.1, .slice ad a.1.2.length cap, .bool a.2.1, .slice ae a.2.2.length cbp] 31)).alloc (.cells #[.bool b.1.1, .slice bd b.1.2.length cap2, .bool b.2.1, .slice be b.2.2.length cbp2] 31) = w0 at *
    rintro e w1 ⟨rfl, b1⟩
    have B1 := B0.trans (b1.mono B0.size)
    have X1 := X0.below b1 (Nat.le_refl _)
    have Y1 := Y0.below b1 (Nat.le_refl _)
    clear kA
    go_wp2
    go_ret
    exact ⟨by simp, B1⟩
  · cases o2
    · clear kC kG
      go_enter Try.func33, Try.ntmps33
      go_wp2_with fail
      refine (kA _ B0).mono ?_
      generalize (w.alloc (.cells #[.bool a.1.1, .slice ad a.1.2.length cap, .bool a.2.1, .slice ae a.2.2.length cbp] 31)).alloc (.cells #[.bool b.1.1, .slice bd b.1.2.length cap2, .bool b.2.1, .slice be b.2.2.length cbp2] 31) = w0 at *
      rintro e w1 ⟨rfl, b1⟩
      have B1 := B0.trans (b1.mono B0.size)
      have X1 := X0.below b1 (Nat.le_refl _)
      have Y1 := Y0.below b1 (Nat.le_refl _)
      have x0 := X1.c0
      have y0 := Y1.c0
      have x1 := X1.c1
      have y1 := Y1.c1
      have x2 := X1.c2
      have y2 := Y1.c2
      have x3 := X1.c3
      have y3 := Y1.c3
      go_wp2_with fail
      refine (kB _ B1).mono ?_
      clear x0 y0 x1 y1 x2 y2 x3 y3
      rintro e w2 ⟨rfl, b2⟩
      have B2 := B1.trans (b2.mono B1.size)
      have X2 := X1.below b2 (Nat.le_refl _)
      have Y2 := Y1.below b2 (Nat.le_refl _)
      clear kA kB
      go_wp2
      go_ret
      exact ⟨by simp, B2⟩
    · have kD := kC rfl rfl
      have kE := kG rfl rfl
      clear kC kG
      by_cases hc : c1 ≤ 0
      · have e1 : decide (c1 ≤ 0) = true := decide_eq_true hc
        rw [e1]
        go_enter Try.func33, Try.ntmps33
        go_wp2_with fail
        refine (kA _ B0).mono ?_
        generalize (w.alloc (.cells #[.bool a.1.1, .slice ad a.1.2.length cap, .bool a.2.1, .slice ae a.2.2.length cbp] 31)).alloc (.cells #[.bool b.1.1, .slice bd b.1.2.length cap2, .bool b.2.1, .slice be b.2.2.length cbp2] 31) = w0 at *
        rintro e w1 ⟨rfl, b1⟩
        have B1 := B0.trans (b1.mono B0.size)
        have X1 := X0.below b1 (Nat.le_refl _)
        have Y1 := Y0.below b1 (Nat.le_refl _)
        have x0 := X1.c0
        have y0 := Y1.c0
        have x1 := X1.c1
        have y1 := Y1.c1
        have x2 := X1.c2
        have y2 := Y1.c2
        have x3 := X1.c3
        have y3 := Y1.c3
        go_wp2_with fail
        refine (kB _ B1).mono ?_
        clear x0 y0 x1 y1 x2 y2 x3 y3
        rintro e w2 ⟨rfl, b2⟩
        have B2 := B1.trans (b2.mono B1.size)
        have X2 := X1.below b2 (Nat.le_refl _)
        have Y2 := Y1.below b2 (Nat.le_refl _)
        have x0 := X2.c0
        have y0 := Y2.c0
        have x1 := X2.c1
        have y1 := Y2.c1
        have x2 := X2.c2
        have y2 := Y2.c2
        have x3 := X2.c3
        have y3 := Y2.c3
        go_wp2_with fail
        refine (kD _ B2).mono ?_
        clear x0 y0 x1 y1 x2 y2 x3 y3
        rintro e w3 ⟨rfl, b3⟩
        have B3 := B2.trans (b3.mono B2.size)
        have X3 := X2.below b3 (Nat.le_refl _)
        have Y3 := Y2.below b3 (Nat.le_refl _)
        have x0 := X3.c0
        have y0 := Y3.c0
        have x1 := X3.c1
        have y1 := Y3.c1
        have x2 := X3.c2
        have y2 := Y3.c2
        have x3 := X3.c3
        have y3 := Y3.c3
        go_wp2_with fail
        refine (kE _ B3).mono ?_
        clear x0 y0 x1 y1 x2 y2 x3 y3
        rintro e w4 ⟨rfl, b4⟩
        have B4 := B3.trans (b4.mono B3.size)
        clear kA kB kD kE
        go_wp2
        go_ret
        exact ⟨by simp, B4⟩
      · have e1 : decide (c1 ≤ 0) = false := decide_eq_false hc
        rw [e1]
        go_enter Try.func33, Try.ntmps33
        go_wp2_with fail
        refine (kA _ B0).mono ?_
        generalize (w.alloc (.cells #[.bool a.1.1, .slice ad a.1.2.length cap, .bool a.2.1, .slice ae a.2.2.length cbp] 31)).alloc (.cells #[.bool b.1.1, .slice bd b.1.2.length cap2, .bool b.2.1, .slice be b.2.2.length cbp2] 31) = w0 at *
        rintro e w1 ⟨rfl, b1⟩
        have B1 := B0.trans (b1.mono B0.size)
        have X1 := X0.below b1 (Nat.le_refl _)
        have Y1 := Y0.below b1 (Nat.le_refl _)
        have x0 := X1.c0
        have y0 := Y1.c0
        have x1 := X1.c1
        have y1 := Y1.c1
        have x2 := X1.c2
        have y2 := Y1.c2
        have x3 := X1.c3
        have y3 := Y1.c3
        go_wp2_with fail
        refine (kB _ B1).mono ?_
        clear x0 y0 x1 y1 x2 y2 x3 y3
        rintro e w2 ⟨rfl, b2⟩
        have B2 := B1.trans (b2.mono B1.size)
        have X2 := X1.below b2 (Nat.le_refl _)
        have Y2 := Y1.below b2 (Nat.le_refl _)
        have x0 := X2.c0
        have y0 := Y2.c0
        have x1 := X2.c1
        have y1 := Y2.c1
        have x2 := X2.c2
        have y2 := Y2.c2
        have x3 := X2.c3
        have y3 := Y2.c3
        go_wp2_with fail
        refine (kD _ B2).mono ?_
        clear x0 y0 x1 y1 x2 y2 x3 y3
        rintro e w3 ⟨rfl, b3⟩
        have B3 := B2.trans (b3.mono B2.size)
        have X3 := X2.below b3 (Nat.le_refl _)
        have Y3 := Y2.below b3 (Nat.le_refl _)
        clear kA kB kD kE
        go_wp2
        go_ret
        exact ⟨by simp, B3⟩


end Go.Proofs.Ytpmolhpllfognaa
