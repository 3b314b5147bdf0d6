/- Several small texts in one: STwo, STwo2, SOrd, ISpan. -/
import Derived.Test.YtlpfjpbnedankaaSGB
import Derived.OwnWalk
import Derived.Test.YtlpfjpbnedankaaGB
import Derived.Test.YtlpfjpbnedankaaV0
/- The program's twoSigned, by its contract. -/
namespace Go.Proofs.Ytlpfjpbnedankaa
open Go.RowKit

set_option maxRecDepth 20000 in
set_option maxHeartbeats 3200000 in
theorem twoYes (va vb : Value) (a b : Wh) (w : World) (ha : rowW w va a) (hb : rowW w vb b) (hla : a.2.length ≤ 1048576) (hlb : b.2.length ≤ 1048576) (h1 : okW a = true) (h2 : okW b = true) :
    Calls Try.prog 38 #[va, vb] w fun e w' => ∃ p q, e = .returned (.tuple #[.pointer (some ⟨p, 0, none⟩), .pointer (some ⟨q, 0, none⟩), .bool true]) ∧ SG w' p (valW a) ∧ SG w' q (valW b) ∧ Below w.heap.size w w' := by
  have kA := fun W (h : Below w.heap.size w W) => sFromYes va a W (ha.below h (Nat.le_refl _)) hla h1
  have kB := fun W (h : Below w.heap.size w W) => sFromYes vb b W (hb.below h (Nat.le_refl _)) hlb h2
  clear h1 h2
  generalize valW a = x at *
  generalize valW b = y at *
  obtain ⟨s, rfl, hs⟩ := ha
  obtain ⟨ad, cap, rfl, -⟩ := id hs
  obtain ⟨t, rfl, ht⟩ := hb
  obtain ⟨ae, cbp, rfl, -⟩ := id ht
  generalize a.1 = g at *
  generalize a.2.length = len at *
  generalize b.1 = g2 at *
  generalize b.2.length = len2 at *
  have B0 := below2 w (.cells #[.bool g, .slice ad len cap] 27) (.cells #[.bool g2, .slice ae len2 cbp] 27)
  have s1 : (w.alloc (.cells #[.bool g, .slice ad len cap] 27)).heap.size = w.heap.size + 1 := by simp
  have X0 := (BoxW.made w (.bool g) (.slice ad len cap) 27).below (below1 _ (.cells #[.bool g2, .slice ae len2 cbp] 27)) (Nat.le_refl _)
  have Y0 := BoxW.made (w.alloc (.cells #[.bool g, .slice ad len cap] 27)) (.bool g2) (.slice ae len2 cbp) 27
  rw [s1] at Y0
  clear s1
  clear hs ht
  go_enter Try.func38, Try.ntmps38
  have c0 := X0.c0
  have c1 := X0.c1
  go_wp2_with fail
  refine (kA _ B0).mono ?_
  clear c0 c1
  generalize (w.alloc (.cells #[.bool g, .slice ad len cap] 27)).alloc (.cells #[.bool g2, .slice ae len2 cbp] 27) = w0 at *
  rintro e w1 ⟨p, rfl, hp, sp, b1⟩
  have Y1 := Y0.below b1 (Nat.le_refl _)
  have B1 := B0.trans (b1.mono B0.size)
  have c0 := Y1.c0
  have c1 := Y1.c1
  go_wp2_with fail
  refine (kB _ B1).mono ?_
  rintro e w2 ⟨q, rfl, hq, sq, b2⟩
  have sp2 := sp.below b2 sp.lt
  have B2 := B1.trans (b2.mono B1.size)
  clear c0 c1 kA kB
  go_wp2
  go_ret3
  exact ⟨p, q, rfl, sp2, sq, B2⟩

set_option maxRecDepth 20000 in
set_option maxHeartbeats 3200000 in
theorem twoNo (va vb : Value) (a b : Wh) (w : World) (ha : rowW w va a) (hb : rowW w vb b) (hla : a.2.length ≤ 1048576) (hlb : b.2.length ≤ 1048576) (hn : okW a = false ∨ okW b = false) :
    Calls Try.prog 38 #[va, vb] w fun e w' => ∃ p q, e = .returned (.tuple #[p, q, .bool false]) ∧ Below w.heap.size w w' := by
  obtain ⟨oa, hoa⟩ : ∃ o, okW a = o := ⟨_, rfl⟩
  obtain ⟨ob, hob⟩ : ∃ o, okW b = o := ⟨_, rfl⟩
  have hn' : (oa && ob) = false := by rw [← hoa, ← hob]; rcases hn with h | h <;> simp [h]
  have kA : ∀ W, Below w.heap.size w W → Calls Try.prog 33 #[va] W fun e w' => ∃ p, e = .returned (.tuple #[p, .bool oa]) ∧ Below W.heap.size W w' := fun W h => by
    cases oa
    · exact (sFromNo va a W (ha.below h (Nat.le_refl _)) hla hoa).mono fun e w' ⟨h1, h2⟩ => ⟨_, h1, h2⟩
    · exact (sFromYes va a W (ha.below h (Nat.le_refl _)) hla hoa).mono fun e w' ⟨b, h1, _, _, h2⟩ => ⟨_, h1, h2⟩
  have kB : ∀ W, Below w.heap.size w W → Calls Try.prog 33 #[vb] W fun e w' => ∃ p, e = .returned (.tuple #[p, .bool ob]) ∧ Below W.heap.size W w' := fun W h => by
    cases ob
    · exact (sFromNo vb b W (hb.below h (Nat.le_refl _)) hlb hob).mono fun e w' ⟨h1, h2⟩ => ⟨_, h1, h2⟩
    · exact (sFromYes vb b W (hb.below h (Nat.le_refl _)) hlb hob).mono fun e w' ⟨b, h1, _, _, h2⟩ => ⟨_, h1, h2⟩
  clear hoa hob hn
  obtain ⟨s, rfl, hs⟩ := ha
  obtain ⟨ad, cap, rfl, -⟩ := id hs
  obtain ⟨t, rfl, ht⟩ := hb
  obtain ⟨ae, cbp, rfl, -⟩ := id ht
  generalize a.1 = g at *
  generalize a.2.length = len at *
  generalize b.1 = g2 at *
  generalize b.2.length = len2 at *
  have B0 := below2 w (.cells #[.bool g, .slice ad len cap] 27) (.cells #[.bool g2, .slice ae len2 cbp] 27)
  have s1 : (w.alloc (.cells #[.bool g, .slice ad len cap] 27)).heap.size = w.heap.size + 1 := by simp
  have X0 := (BoxW.made w (.bool g) (.slice ad len cap) 27).below (below1 _ (.cells #[.bool g2, .slice ae len2 cbp] 27)) (Nat.le_refl _)
  have Y0 := BoxW.made (w.alloc (.cells #[.bool g, .slice ad len cap] 27)) (.bool g2) (.slice ae len2 cbp) 27
  rw [s1] at Y0
  clear s1
  clear hs ht
  cases oa <;> cases ob
  all_goals (try (simp at hn'; done))
  all_goals
    clear hn'
    go_enter Try.func38, Try.ntmps38
    have c0 := X0.c0
    have c1 := X0.c1
    go_wp2_with fail
    refine (kA _ B0).mono ?_
    clear c0 c1
    generalize (w.alloc (.cells #[.bool g, .slice ad len cap] 27)).alloc (.cells #[.bool g2, .slice ae len2 cbp] 27) = w0 at *
    rintro e w1 ⟨p, rfl, b1⟩
    have Y1 := Y0.below b1 (Nat.le_refl _)
    have B1 := B0.trans (b1.mono B0.size)
    have c0 := Y1.c0
    have c1 := Y1.c1
    go_wp2_with fail
    refine (kB _ B1).mono ?_
    rintro e w2 ⟨q, rfl, b2⟩
    have B2 := B1.trans (b2.mono B1.size)
    clear c0 c1 kA kB
    go_wp2
    go_ret3
    exact ⟨p, q, rfl, B2⟩

end Go.Proofs.Ytlpfjpbnedankaa

/- The program's twoSigned: where the numbers stand, too. -/
namespace Go.Proofs.Ytlpfjpbnedankaa
open Go.RowKit

set_option maxRecDepth 20000 in
set_option maxHeartbeats 3200000 in
theorem twoYes2 (va vb : Value) (a b : Wh) (w : World) (ha : rowW w va a) (hb : rowW w vb b) (hla : a.2.length ≤ 1048576) (hlb : b.2.length ≤ 1048576) (h1 : okW a = true) (h2 : okW b = true) :
    Calls Try.prog 38 #[va, vb] w fun e w' => ∃ p q, e = .returned (.tuple #[.pointer (some ⟨p, 0, none⟩), .pointer (some ⟨q, 0, none⟩), .bool true]) ∧ SG w' p (valW a) ∧ SG w' q (valW b) ∧ Below w.heap.size w w' ∧ w.heap.size ≤ p ∧ w.heap.size ≤ q := by
  have kA := fun W (h : Below w.heap.size w W) => sFromYes va a W (ha.below h (Nat.le_refl _)) hla h1
  have kB := fun W (h : Below w.heap.size w W) => sFromYes vb b W (hb.below h (Nat.le_refl _)) hlb h2
  clear h1 h2
  generalize valW a = x at *
  generalize valW b = y at *
  obtain ⟨s, rfl, hs⟩ := ha
  obtain ⟨ad, cap, rfl, -⟩ := id hs
  obtain ⟨t, rfl, ht⟩ := hb
  obtain ⟨ae, cbp, rfl, -⟩ := id ht
  generalize a.1 = g at *
  generalize a.2.length = len at *
  generalize b.1 = g2 at *
  generalize b.2.length = len2 at *
  have B0 := below2 w (.cells #[.bool g, .slice ad len cap] 27) (.cells #[.bool g2, .slice ae len2 cbp] 27)
  have s1 : (w.alloc (.cells #[.bool g, .slice ad len cap] 27)).heap.size = w.heap.size + 1 := by simp
  have X0 := (BoxW.made w (.bool g) (.slice ad len cap) 27).below (below1 _ (.cells #[.bool g2, .slice ae len2 cbp] 27)) (Nat.le_refl _)
  have Y0 := BoxW.made (w.alloc (.cells #[.bool g, .slice ad len cap] 27)) (.bool g2) (.slice ae len2 cbp) 27
  rw [s1] at Y0
  clear s1
  clear hs ht
  go_enter Try.func38, Try.ntmps38
  have c0 := X0.c0
  have c1 := X0.c1
  go_wp2_with fail
  refine (kA _ B0).mono ?_
  clear c0 c1
  generalize (w.alloc (.cells #[.bool g, .slice ad len cap] 27)).alloc (.cells #[.bool g2, .slice ae len2 cbp] 27) = w0 at *
  rintro e w1 ⟨p, rfl, hp, sp, b1⟩
  have Y1 := Y0.below b1 (Nat.le_refl _)
  have B1 := B0.trans (b1.mono B0.size)
  have c0 := Y1.c0
  have c1 := Y1.c1
  go_wp2_with fail
  refine (kB _ B1).mono ?_
  rintro e w2 ⟨q, rfl, hq, sq, b2⟩
  have sp2 := sp.below b2 sp.lt
  have B2 := B1.trans (b2.mono B1.size)
  clear c0 c1 kA kB
  go_wp2
  go_ret3
  exact ⟨p, q, rfl, sp2, sq, B2, Nat.le_trans B0.size hp, Nat.le_trans B1.size hq⟩


end Go.Proofs.Ytlpfjpbnedankaa

/- The program's order of numbers with a sign, by its contract. -/
namespace Go.Proofs.Ytlpfjpbnedankaa
open Go.RowKit

theorem ord_z {x y : Int} : (if x < y then (-1 : Int) else if y < x then 1 else 0) = if decide (x < 0) = decide (y < 0) then (if x < 0 then cmpI y.natAbs x.natAbs else cmpI x.natAbs y.natAbs) else (if x < 0 then -1 else 1) := by
  unfold cmpI
  by_cases hx : x < 0 <;> by_cases hy : y < 0 <;> simp [hx, hy] <;> (repeat' split) <;> omega

set_option maxRecDepth 20000 in
set_option maxHeartbeats 1600000 in
/-- order: how two numbers with a sign stand to each other. -/
theorem sOrder (a b : Nat) (x y : Int) (w : World) (ha : SG w a x) (hb : SG w b y) :
    Calls Try.prog 93 #[.pointer (some ⟨a, 0, none⟩), .pointer (some ⟨b, 0, none⟩)] w fun e w' => e = .returned (.int .i64 (if x < y then -1 else if y < x then 1 else 0)) ∧ Below w.heap.size w w' := by
  obtain ⟨r, hr⟩ : ∃ r, (if x < y then (-1 : Int) else if y < x then 1 else 0) = r := ⟨_, rfl⟩
  rw [hr]
  rw [ord_z] at hr
  have ca := ha.sign
  have cb := hb.sign
  have kA := fun q => gOrder a 1 b 1 x.natAbs y.natAbs (w.drewN q).drew (ha.mag.drewN q).drew (hb.mag.drewN q).drew
  have kB := fun q => gOrder b 1 a 1 y.natAbs x.natAbs (w.drewN q).drew (hb.mag.drewN q).drew (ha.mag.drewN q).drew
  have D : ∀ q, Below w.heap.size w (w.drewN q) := fun q => ⟨rfl, rfl, rfl, Nat.le_refl _, fun _ _ => rfl⟩
  have D2 : ∀ q, Below w.heap.size w (w.drewN q).drew := fun q => ⟨rfl, rfl, rfl, Nat.le_refl _, fun _ _ => rfl⟩
  by_cases hx : x < 0 <;> by_cases hy : y < 0
  · rw [decide_eq_true hx] at ca hr
    rw [decide_eq_true hy] at cb hr
    rw [if_pos rfl, if_pos hx] at hr
    simp only [hr] at kB
    clear kA
    clear hx hy hr ha hb
    go_enter Try.func93, Try.ntmps93
    go_wp2_with fail
    go_quiet (fail)
    go_wp2_with fail
    go_region_held (fun _ => True) (trivial)
      (first
        | (go_at_call 70
           refine (kB nq).mono ?_
           rintro e w5 ⟨rfl, b5⟩))
    go_wp2
    go_ret
    exact ⟨rfl, (D2 nq).trans b5⟩
  · rw [decide_eq_true hx] at ca hr
    rw [decide_eq_false hy] at cb hr
    rw [if_neg (by simp), if_pos hx] at hr
    have HRR : Hid (r = -1) := hr.symm
    clear hr
    clear hx hy ha hb kA kB
    go_enter Try.func93, Try.ntmps93
    go_wp2_with fail
    go_quiet (fail)
    go_wp2
    go_ret
    exact ⟨by rw [HRR.out]; rfl, D nq⟩
  · rw [decide_eq_false hx] at ca hr
    rw [decide_eq_true hy] at cb hr
    rw [if_neg (by simp), if_neg hx] at hr
    have HRR : Hid (r = 1) := hr.symm
    clear hr
    clear hx hy ha hb kA kB
    go_enter Try.func93, Try.ntmps93
    go_wp2_with fail
    go_quiet (fail)
    go_wp2
    go_ret
    exact ⟨by rw [HRR.out]; rfl, D nq⟩
  · rw [decide_eq_false hx] at ca hr
    rw [decide_eq_false hy] at cb hr
    rw [if_pos rfl, if_neg hx] at hr
    simp only [hr] at kA
    clear kB
    clear hx hy hr ha hb
    go_enter Try.func93, Try.ntmps93
    go_wp2_with fail
    go_quiet (fail)
    go_wp2_with fail
    go_region_held (fun _ => True) (trivial)
      (first
        | (go_at_call 70
           refine (kA nq).mono ?_
           rintro e w5 ⟨rfl, b5⟩))
    go_wp2
    go_ret
    exact ⟨rfl, (D2 nq).trans b5⟩

end Go.Proofs.Ytlpfjpbnedankaa

/- The program's spans: rising, spanFrom and IvOk, each by its contract. -/
namespace Go.Proofs.Ytlpfjpbnedankaa
open Go.RowKit
set_option linter.unusedSimpArgs false

def okV (a : Vh) : Bool := okW a.1 && okW a.2 && decide (valW a.1 ≤ valW a.2)
theorem okV_yes {a : Vh} (h : okV a = true) : okW a.1 = true ∧ okW a.2 = true ∧ valW a.1 ≤ valW a.2 := by
  unfold okV at h
  simp only [Bool.and_eq_true, decide_eq_true_eq] at h
  exact ⟨h.1.1, h.1.2, h.2⟩
theorem ord_le (x y : Int) : decide ((if x < y then (-1 : Int) else if y < x then 1 else 0) ≤ 0) = decide (x ≤ y) := by
  by_cases h : x < y
  · rw [if_pos h, decide_eq_true (by omega), decide_eq_true (by omega)]
  · rw [if_neg h]
    by_cases h2 : y < x
    · rw [if_pos h2, decide_eq_false (by omega), decide_eq_false (by omega)]
    · rw [if_neg h2, decide_eq_true (by omega), decide_eq_true (by omega)]

set_option maxRecDepth 20000 in
set_option maxHeartbeats 1600000 in
theorem hRising (p q : Nat) (x y : Int) (w : World) (hp : SG w p x) (hq : SG w q y) :
    Calls Try.prog 92 #[.agg #[.pointer (some ⟨p, 0, none⟩), .pointer (some ⟨q, 0, none⟩)]] w fun e w' => e = .returned (.bool (decide (x ≤ y))) ∧ Below w.heap.size w w' := by
  have kO := fun W (h : Below w.heap.size w W) => sOrder p q x y W (hp.below h hp.lt) (hq.below h hq.lt)
  have hle := ord_le x y
  rw [← hle]
  generalize (if x < y then (-1 : Int) else if y < x then 1 else 0) = c at *
  have B := below1 w (.cells #[.pointer (some ⟨p, 0, none⟩), .pointer (some ⟨q, 0, none⟩)] 52)
  clear hle
  go_enter Try.func92, Try.ntmps92
  go_wp2_with fail
  refine (kO _ B).mono ?_
  rintro e w1 ⟨rfl, b1⟩
  go_wp2
  go_ret
  exact ⟨rfl, B.trans (b1.mono B.size)⟩


/-- What spanFrom answers. -/
def spanA (a : Vh) (w : World) (e : Ending) (w' : World) : Prop :=
  (okV a = true ∧ ∃ p q, e = .returned (.tuple #[.agg #[.pointer (some ⟨p, 0, none⟩), .pointer (some ⟨q, 0, none⟩)], .bool true]) ∧ SG w' p (valW a.1) ∧ SG w' q (valW a.2) ∧ w.heap.size ≤ p ∧ w.heap.size ≤ q ∧ Below w.heap.size w w') ∨
  (okV a = false ∧ ∃ x y : Option Addr, e = .returned (.tuple #[.agg #[.pointer x, .pointer y], .bool false]) ∧ Below w.heap.size w w')

set_option maxRecDepth 20000 in
set_option maxHeartbeats 3200000 in
theorem spanFrom_c (va : Value) (a : Vh) (w : World) (ha : rowV w va a) (hla : a.1.2.length ≤ 1048576) (hlb : a.2.2.length ≤ 1048576) :
    Calls Try.prog 60 #[va] w (spanA a w) := by
  by_cases hok : okW a.1 = true ∧ okW a.2 = true
  · have kT : ∀ s t, va = .agg #[.bool a.1.1, s, .bool a.2.1, t] → rowI w s a.1.2 → rowI w t a.2.2 → ∀ W, Below w.heap.size w W → Calls Try.prog 38 #[.agg #[.bool a.1.1, s], .agg #[.bool a.2.1, t]] W fun e w' => ∃ p q, e = .returned (.tuple #[.pointer (some ⟨p, 0, none⟩), .pointer (some ⟨q, 0, none⟩), .bool true]) ∧ SG w' p (valW a.1) ∧ SG w' q (valW a.2) ∧ Below W.heap.size W w' ∧ W.heap.size ≤ p ∧ W.heap.size ≤ q :=
      fun s t _ h1 h2 W h => twoYes2 _ _ a.1 a.2 W ⟨_, rfl, h1.below h (Nat.le_refl _)⟩ ⟨_, rfl, h2.below h (Nat.le_refl _)⟩ hla hlb hok.1 hok.2
    have kR := fun p q W h1 h2 => hRising p q (valW a.1) (valW a.2) W h1 h2
    have HX : Hid (okV a = decide (valW a.1 ≤ valW a.2)) := by show _ = _; unfold okV; rw [hok.1, hok.2]; rfl
    obtain ⟨dv, hdv⟩ : ∃ d, decide (valW a.1 ≤ valW a.2) = d := ⟨_, rfl⟩
    rw [hdv] at kR HX
    have HS : Hid (∀ e w', ((okV a = true ∧ ∃ p q, e = .returned (.tuple #[.agg #[.pointer (some ⟨p, 0, none⟩), .pointer (some ⟨q, 0, none⟩)], .bool true]) ∧ SG w' p (valW a.1) ∧ SG w' q (valW a.2) ∧ w.heap.size ≤ p ∧ w.heap.size ≤ q ∧ Below w.heap.size w w') ∨ (okV a = false ∧ ∃ x y : Option Addr, e = .returned (.tuple #[.agg #[.pointer x, .pointer y], .bool false]) ∧ Below w.heap.size w w')) → spanA a w e w') := fun _ _ h => h
    clear hok hdv
    generalize valW a.1 = x at *
    generalize valW a.2 = y at *
    obtain ⟨s, t, rfl, hs, ht⟩ := ha
    have kT := kT s t rfl hs ht
    obtain ⟨ad, cap, rfl, -⟩ := id hs
    obtain ⟨ae, cbp, rfl, -⟩ := id ht
    obtain ⟨g0, hg0⟩ : ∃ g, a.1.1 = g := ⟨_, rfl⟩
    obtain ⟨g1, hg1⟩ : ∃ g, a.2.1 = g := ⟨_, rfl⟩
    obtain ⟨len, hl0⟩ : ∃ g, a.1.2.length = g := ⟨_, rfl⟩
    obtain ⟨len2, hl1⟩ : ∃ g, a.2.2.length = g := ⟨_, rfl⟩
    rw [hg0, hg1, hl0, hl1] at kT
    rw [hg0, hg1, hl0, hl1]
    clear hs ht hg0 hg1 hl0 hl1 hla hlb
    have s1 : (w.alloc (.cells #[.bool g0, .slice ad len cap, .bool g1, .slice ae len2 cbp] 29)).heap.size = w.heap.size + 1 := by simp
    have R0 := BoxW.made (w.alloc (.cells #[.bool g0, .slice ad len cap, .bool g1, .slice ae len2 cbp] 29)) (.pointer none) (.pointer none) 52
    rw [s1] at R0
    have B0 := below2 w (.cells #[.bool g0, .slice ad len cap, .bool g1, .slice ae len2 cbp] 29) (.cells #[.pointer none, .pointer none] 52)
    clear s1
    go_enter Try.func60, Try.ntmps60
    go_wp2_with fail
    refine (kT _ B0).mono ?_
    generalize (w.alloc (.cells #[.bool g0, .slice ad len cap, .bool g1, .slice ae len2 cbp] 29)).alloc (.cells #[.pointer none, .pointer none] 52) = w0 at *
    rintro e w1 ⟨p, q, rfl, sp, sq, b1, hp, hq⟩
    have R1 := R0.below b1 (Nat.le_refl _)
    have B1 := B0.trans (b1.mono B0.size)
    have F := BoxW.made w1 (.pointer (some ⟨p, 0, none⟩)) (.pointer (some ⟨q, 0, none⟩)) 52
    have bF := below1 w1 (.cells #[.pointer (some ⟨p, 0, none⟩), .pointer (some ⟨q, 0, none⟩)] 52)
    have R2 := R1.below bF (Nat.le_refl _)
    have B2 := B1.trans (bF.mono B1.size)
    have sp2 := sp.below bF sp.lt
    have sq2 := sq.below bF sq.lt
    have hpl := sp.lt
    have hql := sq.lt
    have hR0 := R0.hi
    have hR1 := R1.hi
    clear kT R0 R1 B1 sp sq b1
    go_wp2_with fail
    generalize w1.alloc (.cells #[.pointer (some ⟨p, 0, none⟩), .pointer (some ⟨q, 0, none⟩)] 52) = w2 at *
    generalize w1.heap.size = f7 at *
    have bd := (Below.refl w2.heap.size w2).drew
    have F3 := F.below bd (Nat.le_refl _)
    have R3 := R2.below bd (Nat.le_refl _)
    have B3 := B2.trans (bd.mono B2.size)
    have sp3 := sp2.below bd sp2.lt
    have sq3 := sq2.below bd sq2.lt
    refine wp_region_held_drew (S := fun W => W.cell? ⟨f7, 0, none⟩ = some (.pointer (some ⟨p, 0, none⟩)) ∧ W.cell? ⟨f7, 1, none⟩ = some (.pointer (some ⟨q, 0, none⟩))) (by kernel_rfl) ⟨F3.c0, F3.c1⟩ ?_
    intro hHeld
    refine takeH 0 (some 23) (.agg #[.pointer (some ⟨p, 0, none⟩), .pointer (some ⟨q, 0, none⟩)]) rfl rfl (by kernel_rfl) (by kernel_rfl) (by kernel_rfl) (fun _ _ _ h => h) (Or.inl ⟨rfl, fun W hW => by obtain ⟨_c, _d⟩ := hW; go_simp⟩) (by assumption) ?_
    simp only [Act.put, List.setIfInBounds_toArray, List.set_cons_zero, List.set_cons_succ]
    refine takeH 1 (some 24) (.agg #[.pointer (some ⟨p, 0, none⟩), .pointer (some ⟨q, 0, none⟩)]) rfl rfl (by kernel_rfl) (by kernel_rfl) (by kernel_rfl) (fun _ _ _ h => h) (Or.inl ⟨rfl, fun W hW => by obtain ⟨_c, _d⟩ := hW; go_simp⟩) (by assumption) ?_
    simp only [Act.put, List.setIfInBounds_toArray, List.set_cons_zero, List.set_cons_succ]
    refine oneH 2 rfl (by kernel_rfl) (fun K' hK => ?_)
    go_simp
    refine (kR p q _ sp3 sq3).mono ?_
    rintro e w4 ⟨rfl, b4⟩
    have F4 := F3.below b4 (Nat.le_refl _)
    have R4 := R3.below b4 (Nat.le_refl _)
    have B4 := B3.trans (b4.mono B3.size)
    have sp4 := sp3.below b4 sp3.lt
    have sq4 := sq3.below b4 sq3.lt
    refine hK _ _ ⟨F4.c0, F4.c1⟩ ?_
    clear hK
    have r0 := R4.c0
    have r1 := R4.c1
    have f0 := R4.f0
    have f1 := R4.f1
    have tn4 : Tn [w.heap.size + 1] w4 ((w4.setCell ⟨w.heap.size + 1, 0, none⟩ (.pointer (some ⟨p, 0, none⟩))).setCell ⟨w.heap.size + 1, 1, none⟩ (.pointer (some ⟨q, 0, none⟩))) := (tnC w4 (w.heap.size + 1) 0 _).trans (tnC _ (w.heap.size + 1) 1 _)
    have F5 := F4.tn tn4 (fun k hk hs => by simp at hk hs; omega)
    refine oneH 3 rfl (by kernel_rfl) (fun K' hK => ?_)
    go_simp
    refine hK _ _ ⟨F5.c0, F5.c1⟩ ?_
    clear hK
    refine takeH 4 (some 3) (.bool dv) rfl rfl (by kernel_rfl) (by kernel_rfl) (by kernel_rfl) (fun _ _ _ h => h) (yg_assign rfl (.tmp 25) rfl _ rfl) ⟨F5.c0, F5.c1⟩ ?_
    simp only [Act.put, List.setIfInBounds_toArray, List.set_cons_zero, List.set_cons_succ]
    refine wpAnyH_done (by kernel_rfl) ?_ _
    have sp5 : SG ((w4.setCell ⟨w.heap.size + 1, 0, none⟩ (.pointer (some ⟨p, 0, none⟩))).setCell ⟨w.heap.size + 1, 1, none⟩ (.pointer (some ⟨q, 0, none⟩))) p x := ⟨(World.cell?_of_block (w := w4) (a := ⟨p, 0, none⟩) (tn4.block p sp4.lt (by simp; omega))).trans sp4.sign, sp4.mag.tn tn4 (by simp; omega)⟩
    have sq5 : SG ((w4.setCell ⟨w.heap.size + 1, 0, none⟩ (.pointer (some ⟨p, 0, none⟩))).setCell ⟨w.heap.size + 1, 1, none⟩ (.pointer (some ⟨q, 0, none⟩))) q y := ⟨(World.cell?_of_block (w := w4) (a := ⟨q, 0, none⟩) (tn4.block q sq4.lt (by simp; omega))).trans sq4.sign, sq4.mag.tn tn4 (by simp; omega)⟩
    have B5 := (B4.setCell (p := ⟨w.heap.size + 1, 0, none⟩) (by show w.heap.size ≤ w.heap.size + 1; omega) (.pointer (some ⟨p, 0, none⟩))).setCell (p := ⟨w.heap.size + 1, 1, none⟩) (by show w.heap.size ≤ w.heap.size + 1; omega) (.pointer (some ⟨q, 0, none⟩))
    have HF : Hid (SG ((w4.setCell ⟨w.heap.size + 1, 0, none⟩ (.pointer (some ⟨p, 0, none⟩))).setCell ⟨w.heap.size + 1, 1, none⟩ (.pointer (some ⟨q, 0, none⟩))) p x ∧ SG ((w4.setCell ⟨w.heap.size + 1, 0, none⟩ (.pointer (some ⟨p, 0, none⟩))).setCell ⟨w.heap.size + 1, 1, none⟩ (.pointer (some ⟨q, 0, none⟩))) q y ∧ Below w.heap.size w ((w4.setCell ⟨w.heap.size + 1, 0, none⟩ (.pointer (some ⟨p, 0, none⟩))).setCell ⟨w.heap.size + 1, 1, none⟩ (.pointer (some ⟨q, 0, none⟩)))) := ⟨sp5, sq5, B5⟩
    clear sp5 sq5 B5 F5 tn4 F4 R4 B4 sp4 sq4 F3 R3 B3 sp3 sq3 F R2 B2 sp2 sq2 bd bF hHeld kR b4
    go_wp2
    (try simp only [Exit.inBlock, Exit.then])
    refine bodyPost_ret (v := .tuple #[.agg #[.pointer (some ⟨p, 0, none⟩), .pointer (some ⟨q, 0, none⟩)], .bool dv]) ?_ rfl (HS.out _ _ ?_)
    · rw [results_cell_tmp rfl]
      go_simp
    · cases dv
      · exact .inr ⟨HX.out, _, _, rfl, HF.out.2.2⟩
      · exact .inl ⟨HX.out, p, q, rfl, HF.out.1, HF.out.2.1, by omega, by omega, HF.out.2.2⟩
  · have hn : okW a.1 = false ∨ okW a.2 = false := by
      cases h1 : okW a.1
      · exact .inl rfl
      · cases h2 : okW a.2
        · exact .inr rfl
        · exact absurd ⟨h1, h2⟩ hok
    have kT : ∀ s t, va = .agg #[.bool a.1.1, s, .bool a.2.1, t] → rowI w s a.1.2 → rowI w t a.2.2 → ∀ W, Below w.heap.size w W → Calls Try.prog 38 #[.agg #[.bool a.1.1, s], .agg #[.bool a.2.1, t]] W fun e w' => ∃ p q, e = .returned (.tuple #[p, q, .bool false]) ∧ Below W.heap.size W w' :=
      fun s t _ h1 h2 W h => twoNo _ _ a.1 a.2 W ⟨_, rfl, h1.below h (Nat.le_refl _)⟩ ⟨_, rfl, h2.below h (Nat.le_refl _)⟩ hla hlb hn
    have HX : Hid (okV a = false) := by
      show _ = _
      unfold okV
      rcases hn with h | h <;> simp [h]
    have HS : Hid (∀ (x y : Option Addr) w', Below w.heap.size w w' → spanA a w (.returned (.tuple #[.agg #[.pointer x, .pointer y], .bool false])) w') := fun x y _ h => .inr ⟨HX.out, x, y, rfl, h⟩
    clear hok hn HX
    obtain ⟨s, t, rfl, hs, ht⟩ := ha
    have kT := kT s t rfl hs ht
    obtain ⟨ad, cap, rfl, -⟩ := id hs
    obtain ⟨ae, cbp, rfl, -⟩ := id ht
    obtain ⟨g0, hg0⟩ : ∃ g, a.1.1 = g := ⟨_, rfl⟩
    obtain ⟨g1, hg1⟩ : ∃ g, a.2.1 = g := ⟨_, rfl⟩
    obtain ⟨len, hl0⟩ : ∃ g, a.1.2.length = g := ⟨_, rfl⟩
    obtain ⟨len2, hl1⟩ : ∃ g, a.2.2.length = g := ⟨_, rfl⟩
    rw [hg0, hg1, hl0, hl1] at kT
    rw [hg0, hg1, hl0, hl1]
    clear hs ht hg0 hg1 hl0 hl1 hla hlb
    have s1 : (w.alloc (.cells #[.bool g0, .slice ad len cap, .bool g1, .slice ae len2 cbp] 29)).heap.size = w.heap.size + 1 := by simp
    have R0 := BoxW.made (w.alloc (.cells #[.bool g0, .slice ad len cap, .bool g1, .slice ae len2 cbp] 29)) (.pointer none) (.pointer none) 52
    rw [s1] at R0
    have B0 := below2 w (.cells #[.bool g0, .slice ad len cap, .bool g1, .slice ae len2 cbp] 29) (.cells #[.pointer none, .pointer none] 52)
    clear s1
    go_enter Try.func60, Try.ntmps60
    go_wp2_with fail
    refine (kT _ B0).mono ?_
    generalize (w.alloc (.cells #[.bool g0, .slice ad len cap, .bool g1, .slice ae len2 cbp] 29)).alloc (.cells #[.pointer none, .pointer none] 52) = w0 at *
    rintro e w1 ⟨p, q, rfl, b1⟩
    have R1 := R0.below b1 (Nat.le_refl _)
    have B1 := B0.trans (b1.mono B0.size)
    have r0 := R1.c0
    have r1 := R1.c1
    have f0 := R1.f0
    have f1 := R1.f1
    have HB : Hid (Below w.heap.size w ((w1.setCell ⟨w.heap.size + 1, 0, none⟩ (.pointer none)).setCell ⟨w.heap.size + 1, 1, none⟩ (.pointer none))) := (B1.setCell (p := ⟨w.heap.size + 1, 0, none⟩) (by show w.heap.size ≤ w.heap.size + 1; omega) (.pointer none)).setCell (p := ⟨w.heap.size + 1, 1, none⟩) (by show w.heap.size ≤ w.heap.size + 1; omega) (.pointer none)
    clear kT R0 R1 B1 b1
    go_wp2
    (try simp only [Exit.inBlock, Exit.then])
    refine bodyPost_ret (v := .tuple #[.agg #[.pointer none, .pointer none], .bool false]) ?_ rfl (HS.out _ _ _ HB.out)
    rw [results_cell_tmp rfl]
    go_simp

end Go.Proofs.Ytlpfjpbnedankaa
