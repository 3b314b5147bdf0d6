/- The specification's WholeCmp, by its contract. -/
import Derived.Test.YtjgmldfceckclaaSWCmp
import Derived.Test.YtjgmldfceckclaaSWholeOk
namespace Go.Proofs.Ytjgmldfceckclaa
open Go.RowKit

theorem wcmpR_ok {a b : Wh} (ha : okW a = true) (hb : okW b = true) : wcmpR a b = cmpZ (valW a) (valW b) := by rw [wcmpR, if_pos ⟨ha, hb⟩]; rfl

set_option maxHeartbeats 1600000 in
theorem sWholeCmp (va vb : Value) (a b : Wh) (w : World) (ha : rowW w va a) (hb : rowW w vb b) (hla : a.2.length ≤ 1048576) (hlb : b.2.length ≤ 1048576) :
    Calls Try.prog 23 #[va, vb] w fun e w' => e = .returned (.int .i64 (wcmpR a b)) ∧ Below w.heap.size w w' := by
  have ka := fun W (h : Below w.heap.size w W) => sWholeOk va a W (ha.below h (Nat.le_refl _)) hla
  have kb := fun W (h : Below w.heap.size w W) => sWholeOk vb b W (hb.below h (Nat.le_refl _)) hlb
  have kc : okW a = true → okW b = true → ∀ W, Below w.heap.size w W → Calls Try.prog 53 #[va, vb] W fun e w' => e = .returned (.int .i64 (wcmpR a b)) ∧ Below W.heap.size W w' := by
    intro h1 h2 W h
    rw [wcmpR_ok h1 h2]
    have e1 := mkW_of h1
    have e2 := mkW_of h2
    have l1 : (limbs (valW a).natAbs).length ≤ 1048576 := by have : (mkW (valW a)).2.length ≤ 1048576 := by rw [← e1]; exact hla
                                                             exact this
    have l2 : (limbs (valW b).natAbs).length ≤ 1048576 := by have : (mkW (valW b)).2.length ≤ 1048576 := by rw [← e2]; exact hlb
                                                             exact this
    exact sWCmp va vb (valW a) (valW b) W (by rw [← e1]; exact ha.below h (Nat.le_refl _)) (by rw [← e2]; exact hb.below h (Nat.le_refl _)) l1 l2
  obtain ⟨s, rfl, hs⟩ := ha
  obtain ⟨t, rfl, ht⟩ := hb
  obtain ⟨a1, c1, rfl, -⟩ := hs
  obtain ⟨a2, c2, rfl, -⟩ := ht
  have HE : Hid (¬ (okW a = true ∧ okW b = true) → wcmpR a b = -2) := fun h => by rw [wcmpR, if_neg h]
  -- the boxes
  have s1 : (w.alloc (.cells #[.bool a.1, .slice a1 a.2.length c1] 24)).heap.size = w.heap.size + 1 := by simp
  have A1 := (BoxW.made w (.bool a.1) (.slice a1 a.2.length c1) 24).below (below1 _ (.cells #[.bool b.1, .slice a2 b.2.length c2] 24)) (Nat.le_refl _)
  have B1 := BoxW.made (w.alloc (.cells #[.bool a.1, .slice a1 a.2.length c1] 24)) (.bool b.1) (.slice a2 b.2.length c2) 24
  rw [s1] at B1
  have B := below2 w (.cells #[.bool a.1, .slice a1 a.2.length c1] 24) (.cells #[.bool b.1, .slice a2 b.2.length c2] 24)
  obtain ⟨oa, hoa⟩ : ∃ x, okW a = x := ⟨_, rfl⟩
  obtain ⟨ob, hob⟩ : ∃ x, okW b = x := ⟨_, rfl⟩
  rw [hoa] at ka kc HE
  rw [hob] at kb kc HE
  clear s1 hoa hob
  cases oa
  · have HE2 : Hid (wcmpR a b = -2) := HE.out (by simp)
    clear kb kc HE
    go_enter Try.func23, Try.ntmps23
    go_wp2_with fail
    refine (ka _ B).mono ?_
    rintro e w1 ⟨rfl, b1⟩
    have B2 := B.trans (b1.mono B.size)
    go_wp2
    go_ret
    exact ⟨by rw [HE2.out]; rfl, B2⟩
  · cases ob
    · have HE2 : Hid (wcmpR a b = -2) := HE.out (by simp)
      clear kc HE
      go_enter Try.func23, Try.ntmps23
      go_wp2_with fail
      refine (ka _ B).mono ?_
      rintro e w1 ⟨rfl, b1⟩
      have B2 := B.trans (b1.mono B.size)
      have A2 := A1.below b1 (Nat.le_refl _)
      have C2 := B1.below b1 (Nat.le_refl _)
      have c0 := C2.c0
      have c1' := C2.c1
      clear A1 B1 B b1
      go_wp2_with fail
      refine (kb _ B2).mono ?_
      rintro e w2 ⟨rfl, b2⟩
      have B3 := B2.trans (b2.mono B2.size)
      go_wp2
      go_ret
      exact ⟨by rw [HE2.out]; rfl, B3⟩
    · have kC := kc rfl rfl
      clear kc HE
      go_enter Try.func23, Try.ntmps23
      go_wp2_with fail
      refine (ka _ B).mono ?_
      rintro e w1 ⟨rfl, b1⟩
      have B2 := B.trans (b1.mono B.size)
      have A2 := A1.below b1 (Nat.le_refl _)
      have C2 := B1.below b1 (Nat.le_refl _)
      have c0 := C2.c0
      have c1' := C2.c1
      clear A1 B1 B b1
      go_wp2_with fail
      refine (kb _ B2).mono ?_
      rintro e w2 ⟨rfl, b2⟩
      have B3 := B2.trans (b2.mono B2.size)
      have A3 := A2.below b2 (Nat.le_refl _)
      have C3 := C2.below b2 (Nat.le_refl _)
      have d0 := A3.c0
      have d1 := A3.c1
      have e0 := C3.c0
      have e1 := C3.c1
      clear A2 C2 c0 c1' b2 B2
      go_wp2_with fail
      refine (kC _ B3).mono ?_
      rintro e w3 ⟨rfl, b3⟩
      have B4 := B3.trans (b3.mono B3.size)
      go_wp2
      go_ret
      exact ⟨rfl, B4⟩

end Go.Proofs.Ytjgmldfceckclaa
