/- The program's twoSigned and WholeCmp, each by its contract. -/
import Derived.Test.YtjgmldfceckclaaIWholeInt
import Derived.OwnWalk
namespace Go.Proofs.Ytjgmldfceckclaa
open Go.RowKit

set_option maxRecDepth 20000 in
set_option maxHeartbeats 3200000 in
theorem twoYes (va vb : Value) (a b : Wh) (w : World) (ha : rowW w va a) (hb : rowW w vb b) (hla : a.2.length ≤ 1048576) (hlb : b.2.length ≤ 1048576) (h1 : okW a = true) (h2 : okW b = true) :
    Calls Try.prog 54 #[va, vb] w fun e w' => ∃ p q, e = .returned (.tuple #[.pointer (some ⟨p, 0, none⟩), .pointer (some ⟨q, 0, none⟩), .bool true]) ∧ SG w' p (valW a) ∧ SG w' q (valW b) ∧ Below w.heap.size w w' := by
  have kA := fun W (h : Below w.heap.size w W) => sFromYes va a W (ha.below h (Nat.le_refl _)) hla h1
  have kB := fun W (h : Below w.heap.size w W) => sFromYes vb b W (hb.below h (Nat.le_refl _)) hlb h2
  clear h1 h2
  generalize valW a = x at *
  generalize valW b = y at *
  obtain ⟨s, rfl, hs⟩ := ha
  obtain ⟨ad, cap, rfl, -⟩ := id hs
  obtain ⟨t, rfl, ht⟩ := hb
  obtain ⟨ae, cbp, rfl, -⟩ := id ht
  generalize a.1 = g at *
  generalize a.2.length = len at *
  generalize b.1 = g2 at *
  generalize b.2.length = len2 at *
  have B0 := below2 w (.cells #[.bool g, .slice ad len cap] 24) (.cells #[.bool g2, .slice ae len2 cbp] 24)
  have s1 : (w.alloc (.cells #[.bool g, .slice ad len cap] 24)).heap.size = w.heap.size + 1 := by simp
  have X0 := (BoxW.made w (.bool g) (.slice ad len cap) 24).below (below1 _ (.cells #[.bool g2, .slice ae len2 cbp] 24)) (Nat.le_refl _)
  have Y0 := BoxW.made (w.alloc (.cells #[.bool g, .slice ad len cap] 24)) (.bool g2) (.slice ae len2 cbp) 24
  rw [s1] at Y0
  clear s1
  clear hs ht
  go_enter Try.func54, Try.ntmps54
  have c0 := X0.c0
  have c1 := X0.c1
  go_wp2_with fail
  refine (kA _ B0).mono ?_
  clear c0 c1
  generalize (w.alloc (.cells #[.bool g, .slice ad len cap] 24)).alloc (.cells #[.bool g2, .slice ae len2 cbp] 24) = w0 at *
  rintro e w1 ⟨p, rfl, hp, sp, b1⟩
  have Y1 := Y0.below b1 (Nat.le_refl _)
  have B1 := B0.trans (b1.mono B0.size)
  have c0 := Y1.c0
  have c1 := Y1.c1
  go_wp2_with fail
  refine (kB _ B1).mono ?_
  rintro e w2 ⟨q, rfl, hq, sq, b2⟩
  have sp2 := sp.below b2 sp.lt
  have B2 := B1.trans (b2.mono B1.size)
  clear c0 c1 kA kB
  go_wp2
  go_ret3
  exact ⟨p, q, rfl, sp2, sq, B2⟩

set_option maxRecDepth 20000 in
set_option maxHeartbeats 3200000 in
theorem twoNo (va vb : Value) (a b : Wh) (w : World) (ha : rowW w va a) (hb : rowW w vb b) (hla : a.2.length ≤ 1048576) (hlb : b.2.length ≤ 1048576) (hn : okW a = false ∨ okW b = false) :
    Calls Try.prog 54 #[va, vb] w fun e w' => ∃ p q, e = .returned (.tuple #[p, q, .bool false]) ∧ Below w.heap.size w w' := by
  obtain ⟨oa, hoa⟩ : ∃ o, okW a = o := ⟨_, rfl⟩
  obtain ⟨ob, hob⟩ : ∃ o, okW b = o := ⟨_, rfl⟩
  have hn' : (oa && ob) = false := by rw [← hoa, ← hob]; rcases hn with h | h <;> simp [h]
  have kA : ∀ W, Below w.heap.size w W → Calls Try.prog 51 #[va] W fun e w' => ∃ p, e = .returned (.tuple #[p, .bool oa]) ∧ Below W.heap.size W w' := fun W h => by
    cases oa
    · exact (sFromNo va a W (ha.below h (Nat.le_refl _)) hla hoa).mono fun e w' ⟨h1, h2⟩ => ⟨_, h1, h2⟩
    · exact (sFromYes va a W (ha.below h (Nat.le_refl _)) hla hoa).mono fun e w' ⟨b, h1, _, _, h2⟩ => ⟨_, h1, h2⟩
  have kB : ∀ W, Below w.heap.size w W → Calls Try.prog 51 #[vb] W fun e w' => ∃ p, e = .returned (.tuple #[p, .bool ob]) ∧ Below W.heap.size W w' := fun W h => by
    cases ob
    · exact (sFromNo vb b W (hb.below h (Nat.le_refl _)) hlb hob).mono fun e w' ⟨h1, h2⟩ => ⟨_, h1, h2⟩
    · exact (sFromYes vb b W (hb.below h (Nat.le_refl _)) hlb hob).mono fun e w' ⟨b, h1, _, _, h2⟩ => ⟨_, h1, h2⟩
  clear hoa hob hn
  obtain ⟨s, rfl, hs⟩ := ha
  obtain ⟨ad, cap, rfl, -⟩ := id hs
  obtain ⟨t, rfl, ht⟩ := hb
  obtain ⟨ae, cbp, rfl, -⟩ := id ht
  generalize a.1 = g at *
  generalize a.2.length = len at *
  generalize b.1 = g2 at *
  generalize b.2.length = len2 at *
  have B0 := below2 w (.cells #[.bool g, .slice ad len cap] 24) (.cells #[.bool g2, .slice ae len2 cbp] 24)
  have s1 : (w.alloc (.cells #[.bool g, .slice ad len cap] 24)).heap.size = w.heap.size + 1 := by simp
  have X0 := (BoxW.made w (.bool g) (.slice ad len cap) 24).below (below1 _ (.cells #[.bool g2, .slice ae len2 cbp] 24)) (Nat.le_refl _)
  have Y0 := BoxW.made (w.alloc (.cells #[.bool g, .slice ad len cap] 24)) (.bool g2) (.slice ae len2 cbp) 24
  rw [s1] at Y0
  clear s1
  clear hs ht
  cases oa <;> cases ob
  all_goals (try (simp at hn'; done))
  all_goals
    clear hn'
    go_enter Try.func54, Try.ntmps54
    have c0 := X0.c0
    have c1 := X0.c1
    go_wp2_with fail
    refine (kA _ B0).mono ?_
    clear c0 c1
    generalize (w.alloc (.cells #[.bool g, .slice ad len cap] 24)).alloc (.cells #[.bool g2, .slice ae len2 cbp] 24) = w0 at *
    rintro e w1 ⟨p, rfl, b1⟩
    have Y1 := Y0.below b1 (Nat.le_refl _)
    have B1 := B0.trans (b1.mono B0.size)
    have c0 := Y1.c0
    have c1 := Y1.c1
    go_wp2_with fail
    refine (kB _ B1).mono ?_
    rintro e w2 ⟨q, rfl, b2⟩
    have B2 := B1.trans (b2.mono B1.size)
    clear c0 c1 kA kB
    go_wp2
    go_ret3
    exact ⟨p, q, rfl, B2⟩

set_option maxRecDepth 20000 in
set_option maxHeartbeats 3200000 in
theorem iWholeCmp (va vb : Value) (a b : Wh) (w : World) (ha : rowW w va a) (hb : rowW w vb b) (hla : a.2.length ≤ 1048576) (hlb : b.2.length ≤ 1048576) :
    Calls Try.prog 24 #[va, vb] w fun e w' => e = .returned (.int .i64 (wcmpR a b)) ∧ Below w.heap.size w w' := by
  by_cases hok : okW a = true ∧ okW b = true
  · have kT := fun W (h : Below w.heap.size w W) => twoYes va vb a b W (ha.below h (Nat.le_refl _)) (hb.below h (Nat.le_refl _)) hla hlb hok.1 hok.2
    have kO := fun p q W h1 h2 => sOrder p q (valW a) (valW b) W h1 h2
    have HR : Hid (wcmpR a b = if valW a < valW b then -1 else if valW b < valW a then 1 else 0) := by show _ = _; unfold wcmpR; rw [if_pos hok]
    obtain ⟨r, hr⟩ : ∃ r, (if valW a < valW b then (-1 : Int) else if valW b < valW a then 1 else 0) = r := ⟨_, rfl⟩
    simp only [hr] at kO
    rw [hr] at HR
    clear hok hr
    generalize wcmpR a b = rr at *
    generalize valW a = x at *
    generalize valW b = y at *
    obtain ⟨s, rfl, hs⟩ := ha
    obtain ⟨ad, cap, rfl, -⟩ := id hs
    obtain ⟨t, rfl, ht⟩ := hb
    obtain ⟨ae, cbp, rfl, -⟩ := id ht
    generalize a.1 = g at *
    generalize a.2.length = len at *
    generalize b.1 = g2 at *
    generalize b.2.length = len2 at *
    have B0 := below2 w (.cells #[.bool g, .slice ad len cap] 24) (.cells #[.bool g2, .slice ae len2 cbp] 24)
    have s1 : (w.alloc (.cells #[.bool g, .slice ad len cap] 24)).heap.size = w.heap.size + 1 := by simp
    have X0 := (BoxW.made w (.bool g) (.slice ad len cap) 24).below (below1 _ (.cells #[.bool g2, .slice ae len2 cbp] 24)) (Nat.le_refl _)
    have Y0 := BoxW.made (w.alloc (.cells #[.bool g, .slice ad len cap] 24)) (.bool g2) (.slice ae len2 cbp) 24
    rw [s1] at Y0
    clear s1
    clear hs ht X0 Y0
    go_enter Try.func24, Try.ntmps24
    go_wp2_with fail
    refine (kT _ B0).mono ?_
    rintro e w1 ⟨p, q, rfl, sp, sq, b1⟩
    have B1 := B0.trans (b1.mono B0.size)
    go_wp2_with fail
    refine (kO p q w1 sp sq).mono ?_
    rintro e w2 ⟨rfl, b2⟩
    go_wp2
    go_ret
    exact ⟨by rw [HR.out]; rfl, B1.trans (b2.mono B1.size)⟩
  · have hn : okW a = false ∨ okW b = false := by
      cases h1 : okW a
      · exact .inl rfl
      · cases h2 : okW b
        · exact .inr rfl
        · exact absurd ⟨h1, h2⟩ hok
    have kT := fun W (h : Below w.heap.size w W) => twoNo va vb a b W (ha.below h (Nat.le_refl _)) (hb.below h (Nat.le_refl _)) hla hlb hn
    have HR : Hid (wcmpR a b = -2) := by show _ = _; unfold wcmpR; rw [if_neg hok]
    clear hok hn
    generalize wcmpR a b = rr at *
    obtain ⟨s, rfl, hs⟩ := ha
    obtain ⟨ad, cap, rfl, -⟩ := id hs
    obtain ⟨t, rfl, ht⟩ := hb
    obtain ⟨ae, cbp, rfl, -⟩ := id ht
    generalize a.1 = g at *
    generalize a.2.length = len at *
    generalize b.1 = g2 at *
    generalize b.2.length = len2 at *
    have B0 := below2 w (.cells #[.bool g, .slice ad len cap] 24) (.cells #[.bool g2, .slice ae len2 cbp] 24)
    have s1 : (w.alloc (.cells #[.bool g, .slice ad len cap] 24)).heap.size = w.heap.size + 1 := by simp
    have X0 := (BoxW.made w (.bool g) (.slice ad len cap) 24).below (below1 _ (.cells #[.bool g2, .slice ae len2 cbp] 24)) (Nat.le_refl _)
    have Y0 := BoxW.made (w.alloc (.cells #[.bool g, .slice ad len cap] 24)) (.bool g2) (.slice ae len2 cbp) 24
    rw [s1] at Y0
    clear s1
    clear hs ht X0 Y0
    go_enter Try.func24, Try.ntmps24
    go_wp2_with fail
    refine (kT _ B0).mono ?_
    rintro e w1 ⟨p, q, rfl, b1⟩
    go_wp2
    go_ret
    exact ⟨by rw [HR.out]; rfl, B0.trans (b1.mono B0.size)⟩

end Go.Proofs.Ytjgmldfceckclaa
