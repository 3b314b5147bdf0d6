/- l19Ok of the specification, by its contract. -/
import Derived.Test.YtnplnekfeabneaaHeldB
namespace Go.Proofs.Ytnplnekfeabneaa
open Go.RowKit
set_option linter.unusedSimpArgs false

set_option maxRecDepth 20000 in
set_option maxHeartbeats 6400000 in
theorem sHeld (va : Value) (a : Vh) (p f : Int) (w : World) (ha : rowV w va a) (hl0 : a.1.2.length ≤ 1048576) (hl1 : a.2.2.length ≤ 1048576) :
    Calls Try.prog 14 #[va, .int .i64 p, .int .i64 f] w fun e w' => e = .returned (.bool (heldOk a p f)) ∧ Below w.heap.size w w' := by
  have kA := fun W (h : Below w.heap.size w W) => sIvOk va a W (ha.below h (Nat.le_refl _)) hl0 hl1
  unfold heldOk
  by_cases h0 : okV a = true
  case neg =>
    have h0' : okV a = false := by simpa using h0
    rw [h0'] at kA
    have HR : Hid (Ending.returned (.bool false) = Ending.returned (.bool (okV a && decide (1 ≤ p ∧ p ≤ 480) && decide (0 ≤ f ∧ f ≤ 60) && decide (f ≤ p)))) := by show _ = _; rw [h0']; rfl
    clear h0 h0'
    generalize (okV a && decide (1 ≤ p ∧ p ≤ 480) && decide (0 ≤ f ∧ f ≤ 60) && decide (f ≤ p)) = r at *
    obtain ⟨s, t, rfl, hs, ht⟩ := ha
    obtain ⟨ad, cap, rfl, -⟩ := id hs
    obtain ⟨ae, cbp, rfl, -⟩ := id ht
    obtain ⟨g, hg⟩ : ∃ g, a.1.1 = g := ⟨_, rfl⟩
    obtain ⟨g', hg'⟩ : ∃ g, a.2.1 = g := ⟨_, rfl⟩
    obtain ⟨len, hlen⟩ : ∃ l, a.1.2.length = l := ⟨_, rfl⟩
    obtain ⟨len2, hlen2⟩ : ∃ l, a.2.2.length = l := ⟨_, rfl⟩
    rw [hg, hg', hlen, hlen2] at kA
    rw [hg, hg', hlen, hlen2]
    clear hs ht hg hg' hlen hlen2 hl0 hl1
    have B0 := below1 w (.cells #[.bool g, .slice ad len cap, .bool g', .slice ae len2 cbp] 32)
    go_enter Try.func14, Try.ntmps14
    go_wp2_with fail
    refine (kA _ B0).mono ?_
    rintro e w1 ⟨rfl, b1⟩
    have B1 := B0.trans (b1.mono B0.size)
    clear B0 b1 kA
    go_wp2
    (try go_ret)
    exact ⟨HR.out, B1⟩
  by_cases h1 : 1 ≤ p ∧ p ≤ 480
  case neg =>
    rw [h0] at kA
    have kI := fun W => in_no p 1 480 W h1
    have HR : Hid (Ending.returned (.bool false) = Ending.returned (.bool (okV a && decide (1 ≤ p ∧ p ≤ 480) && decide (0 ≤ f ∧ f ≤ 60) && decide (f ≤ p)))) := by show _ = _; rw [h0, decide_eq_false h1]; rfl
    clear h0 h1
    generalize (okV a && decide (1 ≤ p ∧ p ≤ 480) && decide (0 ≤ f ∧ f ≤ 60) && decide (f ≤ p)) = r at *
    obtain ⟨s, t, rfl, hs, ht⟩ := ha
    obtain ⟨ad, cap, rfl, -⟩ := id hs
    obtain ⟨ae, cbp, rfl, -⟩ := id ht
    obtain ⟨g, hg⟩ : ∃ g, a.1.1 = g := ⟨_, rfl⟩
    obtain ⟨g', hg'⟩ : ∃ g, a.2.1 = g := ⟨_, rfl⟩
    obtain ⟨len, hlen⟩ : ∃ l, a.1.2.length = l := ⟨_, rfl⟩
    obtain ⟨len2, hlen2⟩ : ∃ l, a.2.2.length = l := ⟨_, rfl⟩
    rw [hg, hg', hlen, hlen2] at kA
    rw [hg, hg', hlen, hlen2]
    clear hs ht hg hg' hlen hlen2 hl0 hl1
    have B0 := below1 w (.cells #[.bool g, .slice ad len cap, .bool g', .slice ae len2 cbp] 32)
    go_enter Try.func14, Try.ntmps14
    go_wp2_with fail
    refine (kA _ B0).mono ?_
    rintro e w1 ⟨rfl, b1⟩
    have B1 := B0.trans (b1.mono B0.size)
    clear B0 b1 kA
    go_wp2_with fail
    refine (kI _).mono ?_
    rintro e w2 ⟨rfl, rfl⟩
    go_wp2
    (try go_ret)
    exact ⟨HR.out, B1⟩
  by_cases h2 : 0 ≤ f ∧ f ≤ 60
  case neg =>
    rw [h0] at kA
    have kI := fun W => in_yes p 1 480 W h1.1 h1.2
    have kJ := fun W => in_no f 0 60 W h2
    have HR : Hid (Ending.returned (.bool false) = Ending.returned (.bool (okV a && decide (1 ≤ p ∧ p ≤ 480) && decide (0 ≤ f ∧ f ≤ 60) && decide (f ≤ p)))) := by show _ = _; rw [h0, decide_eq_true h1, decide_eq_false h2]; rfl
    clear h0 h1 h2
    generalize (okV a && decide (1 ≤ p ∧ p ≤ 480) && decide (0 ≤ f ∧ f ≤ 60) && decide (f ≤ p)) = r at *
    obtain ⟨s, t, rfl, hs, ht⟩ := ha
    obtain ⟨ad, cap, rfl, -⟩ := id hs
    obtain ⟨ae, cbp, rfl, -⟩ := id ht
    obtain ⟨g, hg⟩ : ∃ g, a.1.1 = g := ⟨_, rfl⟩
    obtain ⟨g', hg'⟩ : ∃ g, a.2.1 = g := ⟨_, rfl⟩
    obtain ⟨len, hlen⟩ : ∃ l, a.1.2.length = l := ⟨_, rfl⟩
    obtain ⟨len2, hlen2⟩ : ∃ l, a.2.2.length = l := ⟨_, rfl⟩
    rw [hg, hg', hlen, hlen2] at kA
    rw [hg, hg', hlen, hlen2]
    clear hs ht hg hg' hlen hlen2 hl0 hl1
    have B0 := below1 w (.cells #[.bool g, .slice ad len cap, .bool g', .slice ae len2 cbp] 32)
    go_enter Try.func14, Try.ntmps14
    go_wp2_with fail
    refine (kA _ B0).mono ?_
    rintro e w1 ⟨rfl, b1⟩
    have B1 := B0.trans (b1.mono B0.size)
    clear B0 b1 kA
    go_wp2_with fail
    refine (kI _).mono ?_
    rintro e w2 ⟨rfl, rfl⟩
    go_wp2_with fail
    refine (kJ _).mono ?_
    rintro e w2 ⟨rfl, rfl⟩
    go_wp2
    (try go_ret)
    exact ⟨HR.out, B1⟩
  rw [h0] at kA
  have kI := fun W => in_yes p 1 480 W h1.1 h1.2
  have kJ := fun W => in_yes f 0 60 W h2.1 h2.2
  have HR : Hid (Ending.returned (.bool (decide (f ≤ p))) = Ending.returned (.bool (okV a && decide (1 ≤ p ∧ p ≤ 480) && decide (0 ≤ f ∧ f ≤ 60) && decide (f ≤ p)))) := by show _ = _; rw [h0, decide_eq_true h1, decide_eq_true h2]; simp
  clear h0 h1 h2
  generalize (okV a && decide (1 ≤ p ∧ p ≤ 480) && decide (0 ≤ f ∧ f ≤ 60) && decide (f ≤ p)) = r at *
  obtain ⟨s, t, rfl, hs, ht⟩ := ha
  obtain ⟨ad, cap, rfl, -⟩ := id hs
  obtain ⟨ae, cbp, rfl, -⟩ := id ht
  obtain ⟨g, hg⟩ : ∃ g, a.1.1 = g := ⟨_, rfl⟩
  obtain ⟨g', hg'⟩ : ∃ g, a.2.1 = g := ⟨_, rfl⟩
  obtain ⟨len, hlen⟩ : ∃ l, a.1.2.length = l := ⟨_, rfl⟩
  obtain ⟨len2, hlen2⟩ : ∃ l, a.2.2.length = l := ⟨_, rfl⟩
  rw [hg, hg', hlen, hlen2] at kA
  rw [hg, hg', hlen, hlen2]
  clear hs ht hg hg' hlen hlen2 hl0 hl1
  have B0 := below1 w (.cells #[.bool g, .slice ad len cap, .bool g', .slice ae len2 cbp] 32)
  go_enter Try.func14, Try.ntmps14
  go_wp2_with fail
  refine (kA _ B0).mono ?_
  rintro e w1 ⟨rfl, b1⟩
  have B1 := B0.trans (b1.mono B0.size)
  clear B0 b1 kA
  go_wp2_with fail
  refine (kI _).mono ?_
  rintro e w2 ⟨rfl, rfl⟩
  go_wp2_with fail
  refine (kJ _).mono ?_
  rintro e w2 ⟨rfl, rfl⟩
  go_wp2
  (try go_ret)
  exact ⟨HR.out, B1⟩

end Go.Proofs.Ytnplnekfeabneaa
