/- Several small texts in one: STwo, STwo2. -/
import Derived.Test.YtlpfjpbnedankaaSFrom
import Derived.OwnWalk
/- The program's twoSigned, by its contract. -/
namespace Go.Proofs.Ytlpfjpbnedankaa
open Go.RowKit

set_option maxRecDepth 20000 in
set_option maxHeartbeats 3200000 in
theorem twoYes (va vb : Value) (a b : Wh) (w : World) (ha : rowW w va a) (hb : rowW w vb b) (hla : a.2.length ≤ 1048576) (hlb : b.2.length ≤ 1048576) (h1 : okW a = true) (h2 : okW b = true) :
    Calls Try.prog 38 #[va, vb] w fun e w' => ∃ p q, e = .returned (.tuple #[.pointer (some ⟨p, 0, none⟩), .pointer (some ⟨q, 0, none⟩), .bool true]) ∧ SG w' p (valW a) ∧ SG w' q (valW b) ∧ Below w.heap.size w w' := by
  have kA := fun W (h : Below w.heap.size w W) => sFromYes va a W (ha.below h (Nat.le_refl _)) hla h1
  have kB := fun W (h : Below w.heap.size w W) => sFromYes vb b W (hb.below h (Nat.le_refl _)) hlb h2
  clear h1 h2
  generalize valW a = x at *
  generalize valW b = y at *
  obtain ⟨s, rfl, hs⟩ := ha
  obtain ⟨ad, cap, rfl, -⟩ := id hs
  obtain ⟨t, rfl, ht⟩ := hb
  obtain ⟨ae, cbp, rfl, -⟩ := id ht
  generalize a.1 = g at *
  generalize a.2.length = len at *
  generalize b.1 = g2 at *
  generalize b.2.length = len2 at *
  have B0 := below2 w (.cells #[.bool g, .slice ad len cap] 27) (.cells #[.bool g2, .slice ae len2 cbp] 27)
  have s1 : (w.alloc (.cells #[.bool g, .slice ad len cap] 27)).heap.size = w.heap.size + 1 := by simp
  have X0 := (BoxW.made w (.bool g) (.slice ad len cap) 27).below (below1 _ (.cells #[.bool g2, .slice ae len2 cbp] 27)) (Nat.le_refl _)
  have Y0 := BoxW.made (w.alloc (.cells #[.bool g, .slice ad len cap] 27)) (.bool g2) (.slice ae len2 cbp) 27
  rw [s1] at Y0
  clear s1
  clear hs ht
  go_enter Try.func38, Try.ntmps38
  have c0 := X0.c0
  have c1 := X0.c1
  go_wp2_with fail
  refine (kA _ B0).mono ?_
  clear c0 c1
  generalize (w.alloc (.cells #[.bool g, .slice ad len cap] 27)).alloc (.cells #[.bool g2, .slice ae len2 cbp] 27) = w0 at *
  rintro e w1 ⟨p, rfl, hp, sp, b1⟩
  have Y1 := Y0.below b1 (Nat.le_refl _)
  have B1 := B0.trans (b1.mono B0.size)
  have c0 := Y1.c0
  have c1 := Y1.c1
  go_wp2_with fail
  refine (kB _ B1).mono ?_
  rintro e w2 ⟨q, rfl, hq, sq, b2⟩
  have sp2 := sp.below b2 sp.lt
  have B2 := B1.trans (b2.mono B1.size)
  clear c0 c1 kA kB
  go_wp2
  go_ret3
  exact ⟨p, q, rfl, sp2, sq, B2⟩

set_option maxRecDepth 20000 in
set_option maxHeartbeats 3200000 in
theorem twoNo (va vb : Value) (a b : Wh) (w : World) (ha : rowW w va a) (hb : rowW w vb b) (hla : a.2.length ≤ 1048576) (hlb : b.2.length ≤ 1048576) (hn : okW a = false ∨ okW b = false) :
    Calls Try.prog 38 #[va, vb] w fun e w' => ∃ p q, e = .returned (.tuple #[p, q, .bool false]) ∧ Below w.heap.size w w' := by
  obtain ⟨oa, hoa⟩ : ∃ o, okW a = o := ⟨_, rfl⟩
  obtain ⟨ob, hob⟩ : ∃ o, okW b = o := ⟨_, rfl⟩
  have hn' : (oa && ob) = false := by rw [← hoa, ← hob]; rcases hn with h | h <;> simp [h]
  have kA : ∀ W, Below w.heap.size w W → Calls Try.prog 33 #[va] W fun e w' => ∃ p, e = .returned (.tuple #[p, .bool oa]) ∧ Below W.heap.size W w' := fun W h => by
    cases oa
    · exact (sFromNo va a W (ha.below h (Nat.le_refl _)) hla hoa).mono fun e w' ⟨h1, h2⟩ => ⟨_, h1, h2⟩
    · exact (sFromYes va a W (ha.below h (Nat.le_refl _)) hla hoa).mono fun e w' ⟨b, h1, _, _, h2⟩ => ⟨_, h1, h2⟩
  have kB : ∀ W, Below w.heap.size w W → Calls Try.prog 33 #[vb] W fun e w' => ∃ p, e = .returned (.tuple #[p, .bool ob]) ∧ Below W.heap.size W w' := fun W h => by
    cases ob
    · exact (sFromNo vb b W (hb.below h (Nat.le_refl _)) hlb hob).mono fun e w' ⟨h1, h2⟩ => ⟨_, h1, h2⟩
    · exact (sFromYes vb b W (hb.below h (Nat.le_refl _)) hlb hob).mono fun e w' ⟨b, h1, _, _, h2⟩ => ⟨_, h1, h2⟩
  clear hoa hob hn
  obtain ⟨s, rfl, hs⟩ := ha
  obtain ⟨ad, cap, rfl, -⟩ := id hs
  obtain ⟨t, rfl, ht⟩ := hb
  obtain ⟨ae, cbp, rfl, -⟩ := id ht
  generalize a.1 = g at *
  generalize a.2.length = len at *
  generalize b.1 = g2 at *
  generalize b.2.length = len2 at *
  have B0 := below2 w (.cells #[.bool g, .slice ad len cap] 27) (.cells #[.bool g2, .slice ae len2 cbp] 27)
  have s1 : (w.alloc (.cells #[.bool g, .slice ad len cap] 27)).heap.size = w.heap.size + 1 := by simp
  have X0 := (BoxW.made w (.bool g) (.slice ad len cap) 27).below (below1 _ (.cells #[.bool g2, .slice ae len2 cbp] 27)) (Nat.le_refl _)
  have Y0 := BoxW.made (w.alloc (.cells #[.bool g, .slice ad len cap] 27)) (.bool g2) (.slice ae len2 cbp) 27
  rw [s1] at Y0
  clear s1
  clear hs ht
  cases oa <;> cases ob
  all_goals (try (simp at hn'; done))
  all_goals
    clear hn'
    go_enter Try.func38, Try.ntmps38
    have c0 := X0.c0
    have c1 := X0.c1
    go_wp2_with fail
    refine (kA _ B0).mono ?_
    clear c0 c1
    generalize (w.alloc (.cells #[.bool g, .slice ad len cap] 27)).alloc (.cells #[.bool g2, .slice ae len2 cbp] 27) = w0 at *
    rintro e w1 ⟨p, rfl, b1⟩
    have Y1 := Y0.below b1 (Nat.le_refl _)
    have B1 := B0.trans (b1.mono B0.size)
    have c0 := Y1.c0
    have c1 := Y1.c1
    go_wp2_with fail
    refine (kB _ B1).mono ?_
    rintro e w2 ⟨q, rfl, b2⟩
    have B2 := B1.trans (b2.mono B1.size)
    clear c0 c1 kA kB
    go_wp2
    go_ret3
    exact ⟨p, q, rfl, B2⟩

end Go.Proofs.Ytlpfjpbnedankaa

/- The program's twoSigned: where the numbers stand, too. -/
namespace Go.Proofs.Ytlpfjpbnedankaa
open Go.RowKit

set_option maxRecDepth 20000 in
set_option maxHeartbeats 3200000 in
theorem twoYes2 (va vb : Value) (a b : Wh) (w : World) (ha : rowW w va a) (hb : rowW w vb b) (hla : a.2.length ≤ 1048576) (hlb : b.2.length ≤ 1048576) (h1 : okW a = true) (h2 : okW b = true) :
    Calls Try.prog 38 #[va, vb] w fun e w' => ∃ p q, e = .returned (.tuple #[.pointer (some ⟨p, 0, none⟩), .pointer (some ⟨q, 0, none⟩), .bool true]) ∧ SG w' p (valW a) ∧ SG w' q (valW b) ∧ Below w.heap.size w w' ∧ w.heap.size ≤ p ∧ w.heap.size ≤ q := by
  have kA := fun W (h : Below w.heap.size w W) => sFromYes va a W (ha.below h (Nat.le_refl _)) hla h1
  have kB := fun W (h : Below w.heap.size w W) => sFromYes vb b W (hb.below h (Nat.le_refl _)) hlb h2
  clear h1 h2
  generalize valW a = x at *
  generalize valW b = y at *
  obtain ⟨s, rfl, hs⟩ := ha
  obtain ⟨ad, cap, rfl, -⟩ := id hs
  obtain ⟨t, rfl, ht⟩ := hb
  obtain ⟨ae, cbp, rfl, -⟩ := id ht
  generalize a.1 = g at *
  generalize a.2.length = len at *
  generalize b.1 = g2 at *
  generalize b.2.length = len2 at *
  have B0 := below2 w (.cells #[.bool g, .slice ad len cap] 27) (.cells #[.bool g2, .slice ae len2 cbp] 27)
  have s1 : (w.alloc (.cells #[.bool g, .slice ad len cap] 27)).heap.size = w.heap.size + 1 := by simp
  have X0 := (BoxW.made w (.bool g) (.slice ad len cap) 27).below (below1 _ (.cells #[.bool g2, .slice ae len2 cbp] 27)) (Nat.le_refl _)
  have Y0 := BoxW.made (w.alloc (.cells #[.bool g, .slice ad len cap] 27)) (.bool g2) (.slice ae len2 cbp) 27
  rw [s1] at Y0
  clear s1
  clear hs ht
  go_enter Try.func38, Try.ntmps38
  have c0 := X0.c0
  have c1 := X0.c1
  go_wp2_with fail
  refine (kA _ B0).mono ?_
  clear c0 c1
  generalize (w.alloc (.cells #[.bool g, .slice ad len cap] 27)).alloc (.cells #[.bool g2, .slice ae len2 cbp] 27) = w0 at *
  rintro e w1 ⟨p, rfl, hp, sp, b1⟩
  have Y1 := Y0.below b1 (Nat.le_refl _)
  have B1 := B0.trans (b1.mono B0.size)
  have c0 := Y1.c0
  have c1 := Y1.c1
  go_wp2_with fail
  refine (kB _ B1).mono ?_
  rintro e w2 ⟨q, rfl, hq, sq, b2⟩
  have sp2 := sp.below b2 sp.lt
  have B2 := B1.trans (b2.mono B1.size)
  clear c0 c1 kA kB
  go_wp2
  go_ret3
  exact ⟨p, q, rfl, sp2, sq, B2, Nat.le_trans B0.size hp, Nat.le_trans B1.size hq⟩


end Go.Proofs.Ytlpfjpbnedankaa
