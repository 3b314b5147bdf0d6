/- The program's WholeCmp, by its contract. -/
import Derived.Test.YtddakeohamefiaaSTB
namespace Go.Proofs.Ytddakeohamefiaa
open Go.RowKit

set_option maxRecDepth 20000 in
set_option maxHeartbeats 3200000 in
theorem iWholeCmp (va vb : Value) (a b : Wh) (w : World) (ha : rowW w va a) (hb : rowW w vb b) (hla : a.2.length ≤ 1048576) (hlb : b.2.length ≤ 1048576) :
    Calls Try.prog 16 #[va, vb] w fun e w' => e = .returned (.int .i64 (wcmpR a b)) ∧ Below w.heap.size w w' := by
  by_cases hok : okW a = true ∧ okW b = true
  · have kT := fun W (h : Below w.heap.size w W) => twoYes va vb a b W (ha.below h (Nat.le_refl _)) (hb.below h (Nat.le_refl _)) hla hlb hok.1 hok.2
    have kO := fun p q W h1 h2 => sOrder p q (valW a) (valW b) W h1 h2
    have HR : Hid (wcmpR a b = if valW a < valW b then -1 else if valW b < valW a then 1 else 0) := by show _ = _; unfold wcmpR; rw [if_pos hok]
    obtain ⟨r, hr⟩ : ∃ r, (if valW a < valW b then (-1 : Int) else if valW b < valW a then 1 else 0) = r := ⟨_, rfl⟩
    simp only [hr] at kO
    rw [hr] at HR
    clear hok hr
    generalize wcmpR a b = rr at *
    generalize valW a = x at *
    generalize valW b = y at *
    obtain ⟨s, rfl, hs⟩ := ha
    obtain ⟨ad, cap, rfl, -⟩ := id hs
    obtain ⟨t, rfl, ht⟩ := hb
    obtain ⟨ae, cbp, rfl, -⟩ := id ht
    generalize a.1 = g at *
    generalize a.2.length = len at *
    generalize b.1 = g2 at *
    generalize b.2.length = len2 at *
    have B0 := below2 w (.cells #[.bool g, .slice ad len cap] 26) (.cells #[.bool g2, .slice ae len2 cbp] 26)
    have s1 : (w.alloc (.cells #[.bool g, .slice ad len cap] 26)).heap.size = w.heap.size + 1 := by simp
    have X0 := (BoxW.made w (.bool g) (.slice ad len cap) 26).below (below1 _ (.cells #[.bool g2, .slice ae len2 cbp] 26)) (Nat.le_refl _)
    have Y0 := BoxW.made (w.alloc (.cells #[.bool g, .slice ad len cap] 26)) (.bool g2) (.slice ae len2 cbp) 26
    rw [s1] at Y0
    clear s1
    clear hs ht X0 Y0
    go_enter Try.func16, Try.ntmps16
    go_wp2_with fail
    refine (kT _ B0).mono ?_
    rintro e w1 ⟨p, q, rfl, sp, sq, b1⟩
    have B1 := B0.trans (b1.mono B0.size)
    go_wp2_with fail
    refine (kO p q w1 sp sq).mono ?_
    rintro e w2 ⟨rfl, b2⟩
    go_wp2
    go_ret
    exact ⟨by rw [HR.out]; rfl, B1.trans (b2.mono B1.size)⟩
  · have hn : okW a = false ∨ okW b = false := by
      cases h1 : okW a
      · exact .inl rfl
      · cases h2 : okW b
        · exact .inr rfl
        · exact absurd ⟨h1, h2⟩ hok
    have kT := fun W (h : Below w.heap.size w W) => twoNo va vb a b W (ha.below h (Nat.le_refl _)) (hb.below h (Nat.le_refl _)) hla hlb hn
    have HR : Hid (wcmpR a b = -2) := by show _ = _; unfold wcmpR; rw [if_neg hok]
    clear hok hn
    generalize wcmpR a b = rr at *
    obtain ⟨s, rfl, hs⟩ := ha
    obtain ⟨ad, cap, rfl, -⟩ := id hs
    obtain ⟨t, rfl, ht⟩ := hb
    obtain ⟨ae, cbp, rfl, -⟩ := id ht
    generalize a.1 = g at *
    generalize a.2.length = len at *
    generalize b.1 = g2 at *
    generalize b.2.length = len2 at *
    have B0 := below2 w (.cells #[.bool g, .slice ad len cap] 26) (.cells #[.bool g2, .slice ae len2 cbp] 26)
    have s1 : (w.alloc (.cells #[.bool g, .slice ad len cap] 26)).heap.size = w.heap.size + 1 := by simp
    have X0 := (BoxW.made w (.bool g) (.slice ad len cap) 26).below (below1 _ (.cells #[.bool g2, .slice ae len2 cbp] 26)) (Nat.le_refl _)
    have Y0 := BoxW.made (w.alloc (.cells #[.bool g, .slice ad len cap] 26)) (.bool g2) (.slice ae len2 cbp) 26
    rw [s1] at Y0
    clear s1
    clear hs ht X0 Y0
    go_enter Try.func16, Try.ntmps16
    go_wp2_with fail
    refine (kT _ B0).mono ?_
    rintro e w1 ⟨p, q, rfl, b1⟩
    go_wp2
    go_ret
    exact ⟨by rw [HR.out]; rfl, B0.trans (b1.mono B0.size)⟩

end Go.Proofs.Ytddakeohamefiaa
