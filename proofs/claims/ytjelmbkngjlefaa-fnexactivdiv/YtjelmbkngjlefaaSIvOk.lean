/- The specification's IvOk, by its contract. -/
import Derived.Test.YtjelmbkngjlefaaSTB
import Derived.Test.YtjelmbkngjlefaaWB
namespace Go.Proofs.Ytjelmbkngjlefaa
open Go.RowKit
set_option linter.unusedSimpArgs false

theorem okW_lenV {a : Wh} (h : okW a = true) : (limbs (valW a).natAbs).length ≤ 48 := by
  have h3 := ((okW_iff a).1 h).1.1
  have : (mkW (valW a)).2.length ≤ 48 := by rw [← mkW_of h]; exact h3
  exact this

set_option maxRecDepth 20000 in
set_option maxHeartbeats 1600000 in
theorem sIvOk (va : Value) (a : Vh) (w : World) (ha : rowV w va a) (hla : a.1.2.length ≤ 1048576) (hlb : a.2.2.length ≤ 1048576) :
    Calls Try.prog 15 #[va] w fun e w' => e = .returned (.bool (okV a)) ∧ Below w.heap.size w w' := by
  obtain ⟨s, t, rfl, hs, ht⟩ := ha
  have k0 := fun W (h : Below w.heap.size w W) => sWholeOk (.agg #[.bool a.1.1, s]) a.1 W ⟨_, rfl, hs.below h (Nat.le_refl _)⟩ hla
  have k1 := fun W (h : Below w.heap.size w W) => sWholeOk (.agg #[.bool a.2.1, t]) a.2 W ⟨_, rfl, ht.below h (Nat.le_refl _)⟩ hlb
  have kC : okW a.1 = true → okW a.2 = true → ∀ W, Below w.heap.size w W → Calls Try.prog 33 #[.agg #[.bool a.1.1, s], .agg #[.bool a.2.1, t]] W fun e w' => e = .returned (.int .i64 (cmpZ (valW a.1) (valW a.2))) ∧ Below W.heap.size W w' := by
    intro h1 h2 W h
    have l1 := okW_lenV h1
    have l2 := okW_lenV h2
    exact sWCmp _ _ (valW a.1) (valW a.2) W (by rw [← mkW_of h1]; exact ⟨_, rfl, hs.below h (Nat.le_refl _)⟩) (by rw [← mkW_of h2]; exact ⟨_, rfl, ht.below h (Nat.le_refl _)⟩) (by omega) (by omega)
  have hle : decide (cmpZ (valW a.1) (valW a.2) ≤ 0) = decide (valW a.1 ≤ valW a.2) := ord_le _ _
  have hov : okV a = (okW a.1 && okW a.2 && decide (cmpZ (valW a.1) (valW a.2) ≤ 0)) := by rw [hle]; rfl
  rw [hov]
  clear hov hle
  obtain ⟨ad, cap, rfl, -⟩ := id hs
  obtain ⟨ae, cbp, rfl, -⟩ := id ht
  generalize okW a.1 = o1 at *
  generalize okW a.2 = o2 at *
  generalize cmpZ (valW a.1) (valW a.2) = cz at *
  clear hs ht
  have X0 := BoxV.made w (.bool a.1.1) (.slice ad a.1.2.length cap) (.bool a.2.1) (.slice ae a.2.2.length cbp) 30
  have B0 := below1 w (.cells #[.bool a.1.1, .slice ad a.1.2.length cap, .bool a.2.1, .slice ae a.2.2.length cbp] 30)
  cases o1
  · clear kC k1
    go_enter Try.func15, Try.ntmps15
    go_wp2_with fail
    refine (k0 _ B0).mono ?_
    generalize w.alloc (.cells #[.bool a.1.1, .slice ad a.1.2.length cap, .bool a.2.1, .slice ae a.2.2.length cbp] 30) = w0 at *
    rintro e w1 ⟨rfl, b1⟩
    have B1 := B0.trans (b1.mono B0.size)
    clear k0
    go_wp2
    go_ret
    exact ⟨rfl, B1⟩
  · cases o2
    · clear kC
      go_enter Try.func15, Try.ntmps15
      go_wp2_with fail
      refine (k0 _ B0).mono ?_
      generalize w.alloc (.cells #[.bool a.1.1, .slice ad a.1.2.length cap, .bool a.2.1, .slice ae a.2.2.length cbp] 30) = w0 at *
      rintro e w1 ⟨rfl, b1⟩
      have B1 := B0.trans (b1.mono B0.size)
      have X1 := X0.below b1 (Nat.le_refl _)
      have c2 := X1.c2
      have c3 := X1.c3
      go_wp2_with fail
      refine (k1 _ B1).mono ?_
      rintro e w2 ⟨rfl, b2⟩
      have B2 := B1.trans (b2.mono B1.size)
      clear k0 k1 c2 c3
      go_wp2
      go_ret
      exact ⟨rfl, B2⟩
    · have kD := kC rfl rfl
      clear kC
      go_enter Try.func15, Try.ntmps15
      go_wp2_with fail
      refine (k0 _ B0).mono ?_
      generalize w.alloc (.cells #[.bool a.1.1, .slice ad a.1.2.length cap, .bool a.2.1, .slice ae a.2.2.length cbp] 30) = w0 at *
      rintro e w1 ⟨rfl, b1⟩
      have B1 := B0.trans (b1.mono B0.size)
      have X1 := X0.below b1 (Nat.le_refl _)
      have c2 := X1.c2
      have c3 := X1.c3
      go_wp2_with fail
      refine (k1 _ B1).mono ?_
      rintro e w2 ⟨rfl, b2⟩
      have B2 := B1.trans (b2.mono B1.size)
      have X2 := X1.below b2 (Nat.le_refl _)
      clear c2 c3
      have d0 := X2.c0
      have d1 := X2.c1
      have d2 := X2.c2
      have d3 := X2.c3
      go_wp2_with fail
      refine (kD _ B2).mono ?_
      rintro e w3 ⟨rfl, b3⟩
      have B3 := B2.trans (b3.mono B2.size)
      clear k0 k1 kD d0 d1 d2 d3
      go_wp2
      go_ret
      exact ⟨by simp, B3⟩

end Go.Proofs.Ytjelmbkngjlefaa
