/- KernOk of the specification and of the program, each by its contract. -/
import Derived.Test.YtplgohjmfihpaaaKernT
import Derived.Test.YtplgohjmfihpaaaSWholeOk
import Derived.Test.YtplgohjmfihpaaaSBits
import Derived.Test.YtplgohjmfihpaaaGBits
import Derived.Test.YtplgohjmfihpaaaSTwo2
import Derived.Test.YtplgohjmfihpaaaGReg
namespace Go.Proofs.Ytplgohjmfihpaaa
open Go.RowKit
set_option linter.unusedSimpArgs false

def bitsOk (a : Wh) : Bool := decide (nbits (num a.2) ≤ 480)
def kernR (a : Kh) : Bool := okW a.x && okW a.y && okW a.z && bitsOk a.x && bitsOk a.y && bitsOk a.z

set_option maxRecDepth 20000 in
set_option maxHeartbeats 6400000 in
theorem sKernOk (va : Value) (a : Kh) (w : World) (ha : rowK w va a) (hl0 : a.x.2.length ≤ 1048576) (hl1 : a.y.2.length ≤ 1048576) (hl2 : a.z.2.length ≤ 1048576) :
    Calls Try.prog 8 #[va] w fun e w' => e = .returned (.bool (kernR a)) ∧ Below w.heap.size w w' := by
  obtain ⟨s, t, u, rfl, hs, ht, hu⟩ := ha
  obtain ⟨a0, c0, rfl, -⟩ := id hs
  obtain ⟨a1, c1, rfl, -⟩ := id ht
  obtain ⟨a2, c2, rfl, -⟩ := id hu
  have kx := fun W (h : Below w.heap.size w W) => sWholeOk _ a.x W ⟨_, rfl, hs.below h (Nat.le_refl _)⟩ hl0
  have ky := fun W (h : Below w.heap.size w W) => sWholeOk _ a.y W ⟨_, rfl, ht.below h (Nat.le_refl _)⟩ hl1
  have kz := fun W (h : Below w.heap.size w W) => sWholeOk _ a.z W ⟨_, rfl, hu.below h (Nat.le_refl _)⟩ hl2
  have bx := fun (o : okW a.x = true) W (h : Below w.heap.size w W) => sBits _ a.x.2 W (hs.below h (Nat.le_refl _)) ((okW_iff a.x).1 o).1.2 hl0
  have bY := fun (o : okW a.y = true) W (h : Below w.heap.size w W) => sBits _ a.y.2 W (ht.below h (Nat.le_refl _)) ((okW_iff a.y).1 o).1.2 hl1
  have bz := fun (o : okW a.z = true) W (h : Below w.heap.size w W) => sBits _ a.z.2 W (hu.below h (Nat.le_refl _)) ((okW_iff a.z).1 o).1.2 hl2
  unfold kernR
  have tx : bitsOk a.x = decide (((nbits (num a.x.2) : Nat) : Int) ≤ 480) := by unfold bitsOk; rw [decide_eq_decide]; omega
  have ty : bitsOk a.y = decide (((nbits (num a.y.2) : Nat) : Int) ≤ 480) := by unfold bitsOk; rw [decide_eq_decide]; omega
  have tz : bitsOk a.z = decide (((nbits (num a.z.2) : Nat) : Int) ≤ 480) := by unfold bitsOk; rw [decide_eq_decide]; omega
  rw [tx, ty, tz]
  have lx : nbits (num a.x.2) ≤ 1000000000 ∨ True := .inr trivial
  generalize ((nbits (num a.x.2) : Nat) : Int) = m0 at *
  generalize ((nbits (num a.y.2) : Nat) : Int) = m1 at *
  generalize ((nbits (num a.z.2) : Nat) : Int) = m2 at *
  generalize okW a.x = r0 at *
  generalize okW a.y = r1 at *
  generalize okW a.z = r2 at *
  obtain ⟨g0, hg0⟩ : ∃ g, a.x.1 = g := ⟨_, rfl⟩
  obtain ⟨g1, hg1⟩ : ∃ g, a.y.1 = g := ⟨_, rfl⟩
  obtain ⟨g2, hg2⟩ : ∃ g, a.z.1 = g := ⟨_, rfl⟩
  obtain ⟨n0, hn0⟩ : ∃ g, a.x.2.length = g := ⟨_, rfl⟩
  obtain ⟨n1, hn1⟩ : ∃ g, a.y.2.length = g := ⟨_, rfl⟩
  obtain ⟨n2, hn2⟩ : ∃ g, a.z.2.length = g := ⟨_, rfl⟩
  rw [hg0, hn0] at kx
  rw [hg1, hn1] at ky
  rw [hg2, hn2] at kz
  rw [hn0] at bx
  rw [hn1] at bY
  rw [hn2] at bz
  rw [hg0, hg1, hg2, hn0, hn1, hn2]
  clear hs ht hu hg0 hg1 hg2 hn0 hn1 hn2 hl0 hl1 hl2 tx ty tz lx
  have X := Bx6.made w (.bool g0) (.slice a0 n0 c0) (.bool g1) (.slice a1 n1 c1) (.bool g2) (.slice a2 n2 c2) 31
  have B := below1 w (.cells #[.bool g0, .slice a0 n0 c0, .bool g1, .slice a1 n1 c1, .bool g2, .slice a2 n2 c2] 31)
  cases r0
  · go_enter Try.func8, Try.ntmps8
    go_wp2_with fail
    refine (kx _ B).mono ?_
    generalize w.alloc (.cells #[.bool g0, .slice a0 n0 c0, .bool g1, .slice a1 n1 c1, .bool g2, .slice a2 n2 c2] 31) = u0 at *
    rintro e w1 ⟨rfl, b0⟩
    have X := X.below b0 (Nat.le_refl _)
    have B := B.trans (b0.mono B.size)
    have HB := B
    clear X
    go_wp2
    go_ret
    exact ⟨by simp [*], HB⟩
  · cases r1
    · go_enter Try.func8, Try.ntmps8
      go_wp2_with fail
      refine (kx _ B).mono ?_
      generalize w.alloc (.cells #[.bool g0, .slice a0 n0 c0, .bool g1, .slice a1 n1 c1, .bool g2, .slice a2 n2 c2] 31) = u0 at *
      rintro e w1 ⟨rfl, b0⟩
      have X := X.below b0 (Nat.le_refl _)
      have B := B.trans (b0.mono B.size)
      have x2 := X.c2
      have x3 := X.c3
      go_wp2_with fail
      refine (ky _ B).mono ?_
      clear x2 x3
      rintro e w2 ⟨rfl, b1⟩
      have X := X.below b1 (Nat.le_refl _)
      have B := B.trans (b1.mono B.size)
      have HB := B
      clear X
      go_wp2
      go_ret
      exact ⟨by simp [*], HB⟩
    · cases r2
      · go_enter Try.func8, Try.ntmps8
        go_wp2_with fail
        refine (kx _ B).mono ?_
        generalize w.alloc (.cells #[.bool g0, .slice a0 n0 c0, .bool g1, .slice a1 n1 c1, .bool g2, .slice a2 n2 c2] 31) = u0 at *
        rintro e w1 ⟨rfl, b0⟩
        have X := X.below b0 (Nat.le_refl _)
        have B := B.trans (b0.mono B.size)
        have x2 := X.c2
        have x3 := X.c3
        go_wp2_with fail
        refine (ky _ B).mono ?_
        clear x2 x3
        rintro e w2 ⟨rfl, b1⟩
        have X := X.below b1 (Nat.le_refl _)
        have B := B.trans (b1.mono B.size)
        have x4 := X.c4
        have x5 := X.c5
        go_wp2_with fail
        refine (kz _ B).mono ?_
        clear x4 x5
        rintro e w3 ⟨rfl, b2⟩
        have X := X.below b2 (Nat.le_refl _)
        have B := B.trans (b2.mono B.size)
        have HB := B
        clear X
        go_wp2
        go_ret
        exact ⟨by simp [*], HB⟩
      · by_cases q3 : m0 ≤ 480
        case neg =>
          have q3' : decide (m0 ≤ 480) = false := decide_eq_false q3
          go_enter Try.func8, Try.ntmps8
          go_wp2_with fail
          refine (kx _ B).mono ?_
          generalize w.alloc (.cells #[.bool g0, .slice a0 n0 c0, .bool g1, .slice a1 n1 c1, .bool g2, .slice a2 n2 c2] 31) = u0 at *
          rintro e w1 ⟨rfl, b0⟩
          have X := X.below b0 (Nat.le_refl _)
          have B := B.trans (b0.mono B.size)
          have x2 := X.c2
          have x3 := X.c3
          go_wp2_with fail
          refine (ky _ B).mono ?_
          clear x2 x3
          rintro e w2 ⟨rfl, b1⟩
          have X := X.below b1 (Nat.le_refl _)
          have B := B.trans (b1.mono B.size)
          have x4 := X.c4
          have x5 := X.c5
          go_wp2_with fail
          refine (kz _ B).mono ?_
          clear x4 x5
          rintro e w3 ⟨rfl, b2⟩
          have X := X.below b2 (Nat.le_refl _)
          have B := B.trans (b2.mono B.size)
          have x1 := X.c1
          go_wp2_with fail
          refine (bx (by first | rfl | trivial) _ B).mono ?_
          clear x1
          rintro e w4 ⟨rfl, rfl⟩
          have HB := B
          clear X
          go_wp2
          go_ret
          exact ⟨by simp [*], HB⟩
        have q3' : decide (m0 ≤ 480) = true := decide_eq_true q3
        by_cases q4 : m1 ≤ 480
        case neg =>
          have q4' : decide (m1 ≤ 480) = false := decide_eq_false q4
          go_enter Try.func8, Try.ntmps8
          go_wp2_with fail
          refine (kx _ B).mono ?_
          generalize w.alloc (.cells #[.bool g0, .slice a0 n0 c0, .bool g1, .slice a1 n1 c1, .bool g2, .slice a2 n2 c2] 31) = u0 at *
          rintro e w1 ⟨rfl, b0⟩
          have X := X.below b0 (Nat.le_refl _)
          have B := B.trans (b0.mono B.size)
          have x2 := X.c2
          have x3 := X.c3
          go_wp2_with fail
          refine (ky _ B).mono ?_
          clear x2 x3
          rintro e w2 ⟨rfl, b1⟩
          have X := X.below b1 (Nat.le_refl _)
          have B := B.trans (b1.mono B.size)
          have x4 := X.c4
          have x5 := X.c5
          go_wp2_with fail
          refine (kz _ B).mono ?_
          clear x4 x5
          rintro e w3 ⟨rfl, b2⟩
          have X := X.below b2 (Nat.le_refl _)
          have B := B.trans (b2.mono B.size)
          have x1 := X.c1
          go_wp2_with fail
          refine (bx (by first | rfl | trivial) _ B).mono ?_
          clear x1
          rintro e w4 ⟨rfl, rfl⟩
          have x3 := X.c3
          go_wp2_with fail
          refine (bY (by first | rfl | trivial) _ B).mono ?_
          clear x3
          rintro e w5 ⟨rfl, rfl⟩
          have HB := B
          clear X
          go_wp2
          go_ret
          exact ⟨by simp [*], HB⟩
        have q4' : decide (m1 ≤ 480) = true := decide_eq_true q4
        by_cases q5 : m2 ≤ 480
        case neg =>
          have q5' : decide (m2 ≤ 480) = false := decide_eq_false q5
          go_enter Try.func8, Try.ntmps8
          go_wp2_with fail
          refine (kx _ B).mono ?_
          generalize w.alloc (.cells #[.bool g0, .slice a0 n0 c0, .bool g1, .slice a1 n1 c1, .bool g2, .slice a2 n2 c2] 31) = u0 at *
          rintro e w1 ⟨rfl, b0⟩
          have X := X.below b0 (Nat.le_refl _)
          have B := B.trans (b0.mono B.size)
          have x2 := X.c2
          have x3 := X.c3
          go_wp2_with fail
          refine (ky _ B).mono ?_
          clear x2 x3
          rintro e w2 ⟨rfl, b1⟩
          have X := X.below b1 (Nat.le_refl _)
          have B := B.trans (b1.mono B.size)
          have x4 := X.c4
          have x5 := X.c5
          go_wp2_with fail
          refine (kz _ B).mono ?_
          clear x4 x5
          rintro e w3 ⟨rfl, b2⟩
          have X := X.below b2 (Nat.le_refl _)
          have B := B.trans (b2.mono B.size)
          have x1 := X.c1
          go_wp2_with fail
          refine (bx (by first | rfl | trivial) _ B).mono ?_
          clear x1
          rintro e w4 ⟨rfl, rfl⟩
          have x3 := X.c3
          go_wp2_with fail
          refine (bY (by first | rfl | trivial) _ B).mono ?_
          clear x3
          rintro e w5 ⟨rfl, rfl⟩
          have x5 := X.c5
          go_wp2_with fail
          refine (bz (by first | rfl | trivial) _ B).mono ?_
          clear x5
          rintro e w6 ⟨rfl, rfl⟩
          have HB := B
          clear X
          go_wp2
          go_ret
          exact ⟨by simp [*], HB⟩
        have q5' : decide (m2 ≤ 480) = true := decide_eq_true q5
        go_enter Try.func8, Try.ntmps8
        go_wp2_with fail
        refine (kx _ B).mono ?_
        generalize w.alloc (.cells #[.bool g0, .slice a0 n0 c0, .bool g1, .slice a1 n1 c1, .bool g2, .slice a2 n2 c2] 31) = u0 at *
        rintro e w1 ⟨rfl, b0⟩
        have X := X.below b0 (Nat.le_refl _)
        have B := B.trans (b0.mono B.size)
        have x2 := X.c2
        have x3 := X.c3
        go_wp2_with fail
        refine (ky _ B).mono ?_
        clear x2 x3
        rintro e w2 ⟨rfl, b1⟩
        have X := X.below b1 (Nat.le_refl _)
        have B := B.trans (b1.mono B.size)
        have x4 := X.c4
        have x5 := X.c5
        go_wp2_with fail
        refine (kz _ B).mono ?_
        clear x4 x5
        rintro e w3 ⟨rfl, b2⟩
        have X := X.below b2 (Nat.le_refl _)
        have B := B.trans (b2.mono B.size)
        have x1 := X.c1
        go_wp2_with fail
        refine (bx (by first | rfl | trivial) _ B).mono ?_
        clear x1
        rintro e w4 ⟨rfl, rfl⟩
        have x3 := X.c3
        go_wp2_with fail
        refine (bY (by first | rfl | trivial) _ B).mono ?_
        clear x3
        rintro e w5 ⟨rfl, rfl⟩
        have x5 := X.c5
        go_wp2_with fail
        refine (bz (by first | rfl | trivial) _ B).mono ?_
        clear x5
        rintro e w6 ⟨rfl, rfl⟩
        have HB := B
        clear X
        go_wp2
        go_ret
        exact ⟨by simp [*], HB⟩

theorem sized_c (p : Nat) (z : Int) (w : World) (sp : SG w p z) :
    Calls Try.prog 61 #[.pointer (some ⟨p, 0, none⟩)] w fun e w' => e = .returned (.bool (decide (((nbits z.natAbs : Nat) : Int) ≤ 480))) ∧ Below w.heap.size w w' := by
  have kB := fun W (h : GA W p 1 z.natAbs) => gBits p 1 z.natAbs W h
  have hG := sp.mag
  generalize ((nbits z.natAbs : Nat) : Int) = m at *
  go_enter Try.func61, Try.ntmps61
  go_wp2_with fail
  refine (kB _ hG).mono ?_
  rintro e w1 ⟨rfl, b1⟩
  go_wp2
  go_ret
  exact ⟨rfl, b1⟩
theorem SG.tnK {w w' : World} {b : Nat} {z : Int} {S : List Nat} (h : SG w b z) (ht : Tn S w w') (hS : b ∉ S) : SG w' b z :=
  ⟨(World.cell?_of_block (w := w) (a := ⟨b, 0, none⟩) (ht.block b h.mag.lt hS)).trans h.sign, h.mag.tn ht hS⟩
theorem num_valK (a : Wh) : (valW a).natAbs = num a.2 := by
  unfold valW
  split
  · rw [Int.natAbs_neg, Int.natAbs_natCast]
  · exact Int.natAbs_natCast _

/-- The box of a variable of 3 cells. -/
structure Bx3 (w : World) (base b : Nat) (x0 x1 x2 : Value) : Prop where
  lo : base ≤ b
  hi : b < w.heap.size
  c0 : w.cell? ⟨b, 0, none⟩ = some x0
  c1 : w.cell? ⟨b, 1, none⟩ = some x1
  c2 : w.cell? ⟨b, 2, none⟩ = some x2
  f0 : w.frozen? ⟨b, 0, none⟩ = false
  f1 : w.frozen? ⟨b, 1, none⟩ = false
  f2 : w.frozen? ⟨b, 2, none⟩ = false
theorem Bx3.made (w : World) (x0 x1 x2 : Value) (t : TypeId) : Bx3 (w.alloc (.cells #[x0, x1, x2] t)) w.heap.size w.heap.size x0 x1 x2 :=
  ⟨Nat.le_refl _, by simp, by simp, by simp, by simp, by simp, by simp, by simp⟩
theorem Bx3.below {w w' : World} {base b B : Nat} {x0 x1 x2 : Value} (h : Bx3 w base b x0 x1 x2) (hb : Below B w w') (hB : w.heap.size ≤ B) : Bx3 w' base b x0 x1 x2 :=
  have hlt : b < B := Nat.lt_of_lt_of_le h.hi hB
  ⟨h.lo, Nat.lt_of_lt_of_le h.hi hb.size, (hb.cell (p := ⟨b, 0, none⟩) hlt).trans h.c0, (hb.cell (p := ⟨b, 1, none⟩) hlt).trans h.c1, (hb.cell (p := ⟨b, 2, none⟩) hlt).trans h.c2, (hb.frozen (p := ⟨b, 0, none⟩) hlt).trans h.f0, (hb.frozen (p := ⟨b, 1, none⟩) hlt).trans h.f1, (hb.frozen (p := ⟨b, 2, none⟩) hlt).trans h.f2⟩
theorem Bx3.mono {w : World} {base base' b : Nat} {x0 x1 x2 : Value} (h : Bx3 w base b x0 x1 x2) (hb : base' ≤ base) : Bx3 w base' b x0 x1 x2 :=
  ⟨Nat.le_trans hb h.lo, h.hi, h.c0, h.c1, h.c2, h.f0, h.f1, h.f2⟩
theorem Bx3.ltb {w : World} {base b : Nat} {x0 x1 x2 : Value} (h : Bx3 w base b x0 x1 x2) : ∀ k ∈ [b], base ≤ k ∧ k < w.heap.size := fun k hk => by
  simp at hk
  subst hk
  exact ⟨h.lo, h.hi⟩
theorem Bx3.tn {w w' : World} {base b : Nat} {x0 x1 x2 : Value} {S : List Nat} (h : Bx3 w base b x0 x1 x2) (ht : Tn S w w') (ha : Apart [b] S) : Bx3 w' base b x0 x1 x2 := by
  have hk := ht.block b h.hi (ha b (by simp))
  have hc := fun i => World.cell?_of_block (w := w) (w' := w') (a := ⟨b, i, none⟩) hk
  have hf := fun i => World.frozen?_of_block (w := w) (w' := w') (a := ⟨b, i, none⟩) hk
  exact ⟨h.lo, Nat.lt_of_lt_of_le h.hi ht.size, (hc 0).trans h.c0, (hc 1).trans h.c1, (hc 2).trans h.c2, (hf 0).trans h.f0, (hf 1).trans h.f1, (hf 2).trans h.f2⟩
theorem Bx3.set0 {w : World} {base b : Nat} {x0 x1 x2 : Value} (h : Bx3 w base b x0 x1 x2) (x : Value) : Bx3 (w.setCell ⟨b, 0, none⟩ x) base b x x1 x2 :=
  have c0 := h.c0; have c1 := h.c1; have c2 := h.c2; have f0 := h.f0; have f1 := h.f1; have f2 := h.f2
  ⟨h.lo, by have := h.hi; simpa [World.setCell] using this, World.cell?_setCell_same _ _ _ c0, (World.cell?_setCell_other _ _ _ _ (by simp)).trans c1, (World.cell?_setCell_other _ _ _ _ (by simp)).trans c2, by simp [*], by simp [*], by simp [*]⟩
theorem Bx3.set1 {w : World} {base b : Nat} {x0 x1 x2 : Value} (h : Bx3 w base b x0 x1 x2) (x : Value) : Bx3 (w.setCell ⟨b, 1, none⟩ x) base b x0 x x2 :=
  have c0 := h.c0; have c1 := h.c1; have c2 := h.c2; have f0 := h.f0; have f1 := h.f1; have f2 := h.f2
  ⟨h.lo, by have := h.hi; simpa [World.setCell] using this, (World.cell?_setCell_other _ _ _ _ (by simp)).trans c0, World.cell?_setCell_same _ _ _ c1, (World.cell?_setCell_other _ _ _ _ (by simp)).trans c2, by simp [*], by simp [*], by simp [*]⟩
theorem Bx3.set2 {w : World} {base b : Nat} {x0 x1 x2 : Value} (h : Bx3 w base b x0 x1 x2) (x : Value) : Bx3 (w.setCell ⟨b, 2, none⟩ x) base b x0 x1 x :=
  have c0 := h.c0; have c1 := h.c1; have c2 := h.c2; have f0 := h.f0; have f1 := h.f1; have f2 := h.f2
  ⟨h.lo, by have := h.hi; simpa [World.setCell] using this, (World.cell?_setCell_other _ _ _ _ (by simp)).trans c0, (World.cell?_setCell_other _ _ _ _ (by simp)).trans c1, World.cell?_setCell_same _ _ _ c2, by simp [*], by simp [*], by simp [*]⟩
/-- Whether a Kern is one; its three numbers inside, where it is. -/
def turnE (a : Kh) (w : World) (e : Ending) (w' : World) : Prop := ∃ X Y Z : Option Addr, e = .returned (.tuple #[.agg #[.pointer X, .pointer Y, .pointer Z], .bool (kernR a)]) ∧ Below w.heap.size w w' ∧
  (kernR a = true → ∃ p q r, X = some ⟨p, 0, none⟩ ∧ Y = some ⟨q, 0, none⟩ ∧ Z = some ⟨r, 0, none⟩ ∧ SG w' p (valW a.x) ∧ SG w' q (valW a.y) ∧ SG w' r (valW a.z) ∧ w.heap.size ≤ p ∧ w.heap.size ≤ q ∧ w.heap.size ≤ r)

set_option maxRecDepth 20000 in
set_option maxHeartbeats 6400000 in
theorem turning_c (va : Value) (a : Kh) (w : World) (ha : rowK w va a) (hl0 : a.x.2.length ≤ 1048576) (hl1 : a.y.2.length ≤ 1048576) (hl2 : a.z.2.length ≤ 1048576) :
    Calls Try.prog 33 #[va] w (turnE a w) := by
  unfold turnE
  obtain ⟨s, t, u, rfl, hs, ht, hu⟩ := ha
  obtain ⟨a0, c0, rfl, -⟩ := id hs
  obtain ⟨a1, c1, rfl, -⟩ := id ht
  obtain ⟨a2, c2, rfl, -⟩ := id hu
  obtain ⟨ox, hox⟩ : ∃ o, okW a.x = o := ⟨_, rfl⟩
  obtain ⟨oy, hoy⟩ : ∃ o, okW a.y = o := ⟨_, rfl⟩
  obtain ⟨oz, hoz⟩ : ∃ o, okW a.z = o := ⟨_, rfl⟩
  have KN := fun W (h : Below w.heap.size w W) (hn : okW a.x = false ∨ okW a.y = false) => twoNo _ _ a.x a.y W ⟨_, rfl, hs.below h (Nat.le_refl _)⟩ ⟨_, rfl, ht.below h (Nat.le_refl _)⟩ hl0 hl1 hn
  have KY := fun W (h : Below w.heap.size w W) (h1 : okW a.x = true) (h2 : okW a.y = true) => twoYes2 _ _ a.x a.y W ⟨_, rfl, hs.below h (Nat.le_refl _)⟩ ⟨_, rfl, ht.below h (Nat.le_refl _)⟩ hl0 hl1 h1 h2
  have ZN := fun W (h : Below w.heap.size w W) (h1 : okW a.z = false) => sFromNo _ a.z W ⟨_, rfl, hu.below h (Nat.le_refl _)⟩ hl2 h1
  have ZY := fun W (h : Below w.heap.size w W) (h1 : okW a.z = true) => sFromYes _ a.z W ⟨_, rfl, hu.below h (Nat.le_refl _)⟩ hl2 h1
  have S0 := fun p W h => sized_c p (valW a.x) W h
  have S1 := fun p W h => sized_c p (valW a.y) W h
  have S2 := fun p W h => sized_c p (valW a.z) W h
  rw [num_valK] at S0 S1 S2
  have hk : kernR a = (ox && oy && oz && decide (((nbits (num a.x.2) : Nat) : Int) ≤ 480) && decide (((nbits (num a.y.2) : Nat) : Int) ≤ 480) && decide (((nbits (num a.z.2) : Nat) : Int) ≤ 480)) := by
    unfold kernR bitsOk
    rw [hox, hoy, hoz]
    congr 1
    · congr 1
      · congr 1
        rw [decide_eq_decide]; omega
      · rw [decide_eq_decide]; omega
    · rw [decide_eq_decide]; omega
  rw [hk]
  rw [hox, hoy] at KN KY
  rw [hoz] at ZN ZY
  generalize decide (((nbits (num a.x.2) : Nat) : Int) ≤ 480) = m0 at *
  generalize decide (((nbits (num a.y.2) : Nat) : Int) ≤ 480) = m1 at *
  generalize decide (((nbits (num a.z.2) : Nat) : Int) ≤ 480) = m2 at *
  generalize valW a.x = vx at *
  generalize valW a.y = vy at *
  generalize valW a.z = vz at *
  obtain ⟨g0, hg0⟩ : ∃ g, a.x.1 = g := ⟨_, rfl⟩
  obtain ⟨g1, hg1⟩ : ∃ g, a.y.1 = g := ⟨_, rfl⟩
  obtain ⟨g2, hg2⟩ : ∃ g, a.z.1 = g := ⟨_, rfl⟩
  obtain ⟨n0, hn0⟩ : ∃ g, a.x.2.length = g := ⟨_, rfl⟩
  obtain ⟨n1, hn1⟩ : ∃ g, a.y.2.length = g := ⟨_, rfl⟩
  obtain ⟨n2, hn2⟩ : ∃ g, a.z.2.length = g := ⟨_, rfl⟩
  rw [hg0, hn0, hg1, hn1] at KN KY
  rw [hg2, hn2] at ZN ZY
  rw [hg0, hg1, hg2, hn0, hn1, hn2]
  clear hs ht hu hg0 hg1 hg2 hn0 hn1 hn2 hl0 hl1 hl2 hox hoy hoz hk
  have s1 : (w.alloc (.cells #[.bool g0, .slice a0 n0 c0, .bool g1, .slice a1 n1 c1, .bool g2, .slice a2 n2 c2] 31)).heap.size = w.heap.size + 1 := by simp
  have X := (Bx6.made w (.bool g0) (.slice a0 n0 c0) (.bool g1) (.slice a1 n1 c1) (.bool g2) (.slice a2 n2 c2) 31).below (below1 _ (.cells #[.pointer none, .pointer none, .pointer none] 70)) (Nat.le_refl _)
  have R := Bx3.made (w.alloc (.cells #[.bool g0, .slice a0 n0 c0, .bool g1, .slice a1 n1 c1, .bool g2, .slice a2 n2 c2] 31)) (.pointer none) (.pointer none) (.pointer none) 70
  rw [s1] at R
  clear s1
  have B := below2 w (.cells #[.bool g0, .slice a0 n0 c0, .bool g1, .slice a1 n1 c1, .bool g2, .slice a2 n2 c2] 31) (.cells #[.pointer none, .pointer none, .pointer none] 70)
  cases ox
  · have hno : false = false ∨ oy = false := .inl rfl
    cases oz
    · go_enter Try.func33, Try.ntmps33
      go_wp2_with fail
      refine (KN _ B (by first | exact hno | simp)).mono ?_
      generalize (w.alloc (.cells #[.bool g0, .slice a0 n0 c0, .bool g1, .slice a1 n1 c1, .bool g2, .slice a2 n2 c2] 31)).alloc (.cells #[.pointer none, .pointer none, .pointer none] 70) = u0 at *
      rintro e w1 ⟨p, q, rfl, b1⟩
      have hR := R.hi
      have X := X.below b1 (Nat.le_refl _)
      have R := R.below b1 (Nat.le_refl _)
      have hz0 := B.size
      have hzb := b1.size
      have B := B.trans (b1.mono B.size)
      have x4 := X.c4
      have x5 := X.c5
      go_wp2_with fail
      refine (ZN _ B (by first | rfl | trivial)).mono ?_
      rintro e w2 ⟨rfl, b2⟩
      clear x4 x5 X
      have R := R.below b2 (Nat.le_refl _)
      have hz1 := B.size
      have B := B.trans (b2.mono B.size)
      have r0 := R.c0
      have f0 := R.f0
      have r1 := R.c1
      have f1 := R.f1
      have r2 := R.c2
      have f2 := R.f2
      have HB : Hid (Below w.heap.size w _) := (((B.setCell (p := ⟨w.heap.size + 1, 0, none⟩) (by show w.heap.size ≤ w.heap.size + 1; omega) (.pointer none)).setCell (p := ⟨w.heap.size + 1, 1, none⟩) (by show w.heap.size ≤ w.heap.size + 1; omega) (.pointer none)).setCell (p := ⟨w.heap.size + 1, 2, none⟩) (by show w.heap.size ≤ w.heap.size + 1; omega) (.pointer none))
      clear R B KN KY ZN ZY S0 S1 S2
      go_wp2
      (try simp only [Exit.inBlock, Exit.then])
      refine bodyPost_ret (v := .tuple #[.agg #[.pointer none, .pointer none, .pointer none], .bool false]) ?_ rfl ⟨none, none, none, by simp, HB.out, fun h => by simp at h⟩
      rw [results_cell_tmp rfl]
      go_simp
    · go_enter Try.func33, Try.ntmps33
      go_wp2_with fail
      refine (KN _ B (by first | exact hno | simp)).mono ?_
      generalize (w.alloc (.cells #[.bool g0, .slice a0 n0 c0, .bool g1, .slice a1 n1 c1, .bool g2, .slice a2 n2 c2] 31)).alloc (.cells #[.pointer none, .pointer none, .pointer none] 70) = u0 at *
      rintro e w1 ⟨p, q, rfl, b1⟩
      have hR := R.hi
      have X := X.below b1 (Nat.le_refl _)
      have R := R.below b1 (Nat.le_refl _)
      have hz0 := B.size
      have hzb := b1.size
      have B := B.trans (b1.mono B.size)
      have x4 := X.c4
      have x5 := X.c5
      go_wp2_with fail
      refine (ZY _ B (by first | rfl | trivial)).mono ?_
      rintro e w2 ⟨r, rfl, hr, sr, b2⟩
      clear x4 x5 X
      have R := R.below b2 (Nat.le_refl _)
      have hz1 := B.size
      have B := B.trans (b2.mono B.size)
      have r0 := R.c0
      have f0 := R.f0
      have r1 := R.c1
      have f1 := R.f1
      have r2 := R.c2
      have f2 := R.f2
      have HB : Hid (Below w.heap.size w _) := (((B.setCell (p := ⟨w.heap.size + 1, 0, none⟩) (by show w.heap.size ≤ w.heap.size + 1; omega) (.pointer none)).setCell (p := ⟨w.heap.size + 1, 1, none⟩) (by show w.heap.size ≤ w.heap.size + 1; omega) (.pointer none)).setCell (p := ⟨w.heap.size + 1, 2, none⟩) (by show w.heap.size ≤ w.heap.size + 1; omega) (.pointer none))
      clear R B KN KY ZN ZY S0 S1 S2 sr
      go_wp2
      (try simp only [Exit.inBlock, Exit.then])
      refine bodyPost_ret (v := .tuple #[.agg #[.pointer none, .pointer none, .pointer none], .bool false]) ?_ rfl ⟨none, none, none, by simp, HB.out, fun h => by simp at h⟩
      rw [results_cell_tmp rfl]
      go_simp
  · cases oy
    · have hno : true = false ∨ false = false := .inr rfl
      cases oz
      · go_enter Try.func33, Try.ntmps33
        go_wp2_with fail
        refine (KN _ B (by first | exact hno | simp)).mono ?_
        generalize (w.alloc (.cells #[.bool g0, .slice a0 n0 c0, .bool g1, .slice a1 n1 c1, .bool g2, .slice a2 n2 c2] 31)).alloc (.cells #[.pointer none, .pointer none, .pointer none] 70) = u0 at *
        rintro e w1 ⟨p, q, rfl, b1⟩
        have hR := R.hi
        have X := X.below b1 (Nat.le_refl _)
        have R := R.below b1 (Nat.le_refl _)
        have hz0 := B.size
        have hzb := b1.size
        have B := B.trans (b1.mono B.size)
        have x4 := X.c4
        have x5 := X.c5
        go_wp2_with fail
        refine (ZN _ B (by first | rfl | trivial)).mono ?_
        rintro e w2 ⟨rfl, b2⟩
        clear x4 x5 X
        have R := R.below b2 (Nat.le_refl _)
        have hz1 := B.size
        have B := B.trans (b2.mono B.size)
        have r0 := R.c0
        have f0 := R.f0
        have r1 := R.c1
        have f1 := R.f1
        have r2 := R.c2
        have f2 := R.f2
        have HB : Hid (Below w.heap.size w _) := (((B.setCell (p := ⟨w.heap.size + 1, 0, none⟩) (by show w.heap.size ≤ w.heap.size + 1; omega) (.pointer none)).setCell (p := ⟨w.heap.size + 1, 1, none⟩) (by show w.heap.size ≤ w.heap.size + 1; omega) (.pointer none)).setCell (p := ⟨w.heap.size + 1, 2, none⟩) (by show w.heap.size ≤ w.heap.size + 1; omega) (.pointer none))
        clear R B KN KY ZN ZY S0 S1 S2
        go_wp2
        (try simp only [Exit.inBlock, Exit.then])
        refine bodyPost_ret (v := .tuple #[.agg #[.pointer none, .pointer none, .pointer none], .bool false]) ?_ rfl ⟨none, none, none, by simp, HB.out, fun h => by simp at h⟩
        rw [results_cell_tmp rfl]
        go_simp
      · go_enter Try.func33, Try.ntmps33
        go_wp2_with fail
        refine (KN _ B (by first | exact hno | simp)).mono ?_
        generalize (w.alloc (.cells #[.bool g0, .slice a0 n0 c0, .bool g1, .slice a1 n1 c1, .bool g2, .slice a2 n2 c2] 31)).alloc (.cells #[.pointer none, .pointer none, .pointer none] 70) = u0 at *
        rintro e w1 ⟨p, q, rfl, b1⟩
        have hR := R.hi
        have X := X.below b1 (Nat.le_refl _)
        have R := R.below b1 (Nat.le_refl _)
        have hz0 := B.size
        have hzb := b1.size
        have B := B.trans (b1.mono B.size)
        have x4 := X.c4
        have x5 := X.c5
        go_wp2_with fail
        refine (ZY _ B (by first | rfl | trivial)).mono ?_
        rintro e w2 ⟨r, rfl, hr, sr, b2⟩
        clear x4 x5 X
        have R := R.below b2 (Nat.le_refl _)
        have hz1 := B.size
        have B := B.trans (b2.mono B.size)
        have r0 := R.c0
        have f0 := R.f0
        have r1 := R.c1
        have f1 := R.f1
        have r2 := R.c2
        have f2 := R.f2
        have HB : Hid (Below w.heap.size w _) := (((B.setCell (p := ⟨w.heap.size + 1, 0, none⟩) (by show w.heap.size ≤ w.heap.size + 1; omega) (.pointer none)).setCell (p := ⟨w.heap.size + 1, 1, none⟩) (by show w.heap.size ≤ w.heap.size + 1; omega) (.pointer none)).setCell (p := ⟨w.heap.size + 1, 2, none⟩) (by show w.heap.size ≤ w.heap.size + 1; omega) (.pointer none))
        clear R B KN KY ZN ZY S0 S1 S2 sr
        go_wp2
        (try simp only [Exit.inBlock, Exit.then])
        refine bodyPost_ret (v := .tuple #[.agg #[.pointer none, .pointer none, .pointer none], .bool false]) ?_ rfl ⟨none, none, none, by simp, HB.out, fun h => by simp at h⟩
        rw [results_cell_tmp rfl]
        go_simp
    · cases oz
      · go_enter Try.func33, Try.ntmps33
        go_wp2_with fail
        refine (KY _ B (by first | rfl | trivial) (by first | rfl | trivial)).mono ?_
        generalize (w.alloc (.cells #[.bool g0, .slice a0 n0 c0, .bool g1, .slice a1 n1 c1, .bool g2, .slice a2 n2 c2] 31)).alloc (.cells #[.pointer none, .pointer none, .pointer none] 70) = u0 at *
        rintro e w1 ⟨p, q, rfl, sp, sq, b1, hp, hq⟩
        have hR := R.hi
        have X := X.below b1 (Nat.le_refl _)
        have R := R.below b1 (Nat.le_refl _)
        have hz0 := B.size
        have hzb := b1.size
        have B := B.trans (b1.mono B.size)
        have x4 := X.c4
        have x5 := X.c5
        go_wp2_with fail
        refine (ZN _ B (by first | rfl | trivial)).mono ?_
        rintro e w2 ⟨rfl, b2⟩
        clear x4 x5 X
        have R := R.below b2 (Nat.le_refl _)
        have hz1 := B.size
        have B := B.trans (b2.mono B.size)
        have sp := sp.below b2 sp.lt
        have sq := sq.below b2 sq.lt
        have r0 := R.c0
        have f0 := R.f0
        have r1 := R.c1
        have f1 := R.f1
        have r2 := R.c2
        have f2 := R.f2
        have HB : Hid (Below w.heap.size w _) := (((B.setCell (p := ⟨w.heap.size + 1, 0, none⟩) (by show w.heap.size ≤ w.heap.size + 1; omega) (.pointer none)).setCell (p := ⟨w.heap.size + 1, 1, none⟩) (by show w.heap.size ≤ w.heap.size + 1; omega) (.pointer none)).setCell (p := ⟨w.heap.size + 1, 2, none⟩) (by show w.heap.size ≤ w.heap.size + 1; omega) (.pointer none))
        clear R B KN KY ZN ZY S0 S1 S2 sp sq
        go_wp2
        (try simp only [Exit.inBlock, Exit.then])
        refine bodyPost_ret (v := .tuple #[.agg #[.pointer none, .pointer none, .pointer none], .bool false]) ?_ rfl ⟨none, none, none, by simp, HB.out, fun h => by simp at h⟩
        rw [results_cell_tmp rfl]
        go_simp
      · cases m0
        · go_enter Try.func33, Try.ntmps33
          go_wp2_with fail
          refine (KY _ B (by first | rfl | trivial) (by first | rfl | trivial)).mono ?_
          generalize (w.alloc (.cells #[.bool g0, .slice a0 n0 c0, .bool g1, .slice a1 n1 c1, .bool g2, .slice a2 n2 c2] 31)).alloc (.cells #[.pointer none, .pointer none, .pointer none] 70) = u0 at *
          rintro e w1 ⟨p, q, rfl, sp, sq, b1, hp, hq⟩
          have hR := R.hi
          have X := X.below b1 (Nat.le_refl _)
          have R := R.below b1 (Nat.le_refl _)
          have hz0 := B.size
          have hzb := b1.size
          have B := B.trans (b1.mono B.size)
          have x4 := X.c4
          have x5 := X.c5
          go_wp2_with fail
          refine (ZY _ B (by first | rfl | trivial)).mono ?_
          rintro e w2 ⟨r, rfl, hr, sr, b2⟩
          clear x4 x5 X
          have R := R.below b2 (Nat.le_refl _)
          have hz1 := B.size
          have B := B.trans (b2.mono B.size)
          have sp := sp.below b2 sp.lt
          have sq := sq.below b2 sq.lt
          go_wp2_with fail
          refine (S0 _ _ sp).mono ?_
          rintro e w3 ⟨rfl, b3⟩
          have R := R.below b3 (Nat.le_refl _)
          have hz2 := B.size
          have B := B.trans (b3.mono B.size)
          have sp := sp.below b3 sp.lt
          have sq := sq.below b3 sq.lt
          have sr := sr.below b3 sr.lt
          have r0 := R.c0
          have f0 := R.f0
          have r1 := R.c1
          have f1 := R.f1
          have r2 := R.c2
          have f2 := R.f2
          have HB : Hid (Below w.heap.size w _) := (((B.setCell (p := ⟨w.heap.size + 1, 0, none⟩) (by show w.heap.size ≤ w.heap.size + 1; omega) (.pointer none)).setCell (p := ⟨w.heap.size + 1, 1, none⟩) (by show w.heap.size ≤ w.heap.size + 1; omega) (.pointer none)).setCell (p := ⟨w.heap.size + 1, 2, none⟩) (by show w.heap.size ≤ w.heap.size + 1; omega) (.pointer none))
          clear R B KN KY ZN ZY S0 S1 S2 sp sq sr
          go_wp2
          (try simp only [Exit.inBlock, Exit.then])
          refine bodyPost_ret (v := .tuple #[.agg #[.pointer none, .pointer none, .pointer none], .bool false]) ?_ rfl ⟨none, none, none, by simp, HB.out, fun h => by simp at h⟩
          rw [results_cell_tmp rfl]
          go_simp
        · cases m1
          · go_enter Try.func33, Try.ntmps33
            go_wp2_with fail
            refine (KY _ B (by first | rfl | trivial) (by first | rfl | trivial)).mono ?_
            generalize (w.alloc (.cells #[.bool g0, .slice a0 n0 c0, .bool g1, .slice a1 n1 c1, .bool g2, .slice a2 n2 c2] 31)).alloc (.cells #[.pointer none, .pointer none, .pointer none] 70) = u0 at *
            rintro e w1 ⟨p, q, rfl, sp, sq, b1, hp, hq⟩
            have hR := R.hi
            have X := X.below b1 (Nat.le_refl _)
            have R := R.below b1 (Nat.le_refl _)
            have hz0 := B.size
            have hzb := b1.size
            have B := B.trans (b1.mono B.size)
            have x4 := X.c4
            have x5 := X.c5
            go_wp2_with fail
            refine (ZY _ B (by first | rfl | trivial)).mono ?_
            rintro e w2 ⟨r, rfl, hr, sr, b2⟩
            clear x4 x5 X
            have R := R.below b2 (Nat.le_refl _)
            have hz1 := B.size
            have B := B.trans (b2.mono B.size)
            have sp := sp.below b2 sp.lt
            have sq := sq.below b2 sq.lt
            go_wp2_with fail
            refine (S0 _ _ sp).mono ?_
            rintro e w3 ⟨rfl, b3⟩
            have R := R.below b3 (Nat.le_refl _)
            have hz2 := B.size
            have B := B.trans (b3.mono B.size)
            have sp := sp.below b3 sp.lt
            have sq := sq.below b3 sq.lt
            have sr := sr.below b3 sr.lt
            go_wp2_with fail
            refine (S1 _ _ sq).mono ?_
            rintro e w4 ⟨rfl, b4⟩
            have R := R.below b4 (Nat.le_refl _)
            have hz3 := B.size
            have B := B.trans (b4.mono B.size)
            have sp := sp.below b4 sp.lt
            have sq := sq.below b4 sq.lt
            have sr := sr.below b4 sr.lt
            have r0 := R.c0
            have f0 := R.f0
            have r1 := R.c1
            have f1 := R.f1
            have r2 := R.c2
            have f2 := R.f2
            have HB : Hid (Below w.heap.size w _) := (((B.setCell (p := ⟨w.heap.size + 1, 0, none⟩) (by show w.heap.size ≤ w.heap.size + 1; omega) (.pointer none)).setCell (p := ⟨w.heap.size + 1, 1, none⟩) (by show w.heap.size ≤ w.heap.size + 1; omega) (.pointer none)).setCell (p := ⟨w.heap.size + 1, 2, none⟩) (by show w.heap.size ≤ w.heap.size + 1; omega) (.pointer none))
            clear R B KN KY ZN ZY S0 S1 S2 sp sq sr
            go_wp2
            (try simp only [Exit.inBlock, Exit.then])
            refine bodyPost_ret (v := .tuple #[.agg #[.pointer none, .pointer none, .pointer none], .bool false]) ?_ rfl ⟨none, none, none, by simp, HB.out, fun h => by simp at h⟩
            rw [results_cell_tmp rfl]
            go_simp
          · cases m2
            · go_enter Try.func33, Try.ntmps33
              go_wp2_with fail
              refine (KY _ B (by first | rfl | trivial) (by first | rfl | trivial)).mono ?_
              generalize (w.alloc (.cells #[.bool g0, .slice a0 n0 c0, .bool g1, .slice a1 n1 c1, .bool g2, .slice a2 n2 c2] 31)).alloc (.cells #[.pointer none, .pointer none, .pointer none] 70) = u0 at *
              rintro e w1 ⟨p, q, rfl, sp, sq, b1, hp, hq⟩
              have hR := R.hi
              have X := X.below b1 (Nat.le_refl _)
              have R := R.below b1 (Nat.le_refl _)
              have hz0 := B.size
              have hzb := b1.size
              have B := B.trans (b1.mono B.size)
              have x4 := X.c4
              have x5 := X.c5
              go_wp2_with fail
              refine (ZY _ B (by first | rfl | trivial)).mono ?_
              rintro e w2 ⟨r, rfl, hr, sr, b2⟩
              clear x4 x5 X
              have R := R.below b2 (Nat.le_refl _)
              have hz1 := B.size
              have B := B.trans (b2.mono B.size)
              have sp := sp.below b2 sp.lt
              have sq := sq.below b2 sq.lt
              go_wp2_with fail
              refine (S0 _ _ sp).mono ?_
              rintro e w3 ⟨rfl, b3⟩
              have R := R.below b3 (Nat.le_refl _)
              have hz2 := B.size
              have B := B.trans (b3.mono B.size)
              have sp := sp.below b3 sp.lt
              have sq := sq.below b3 sq.lt
              have sr := sr.below b3 sr.lt
              go_wp2_with fail
              refine (S1 _ _ sq).mono ?_
              rintro e w4 ⟨rfl, b4⟩
              have R := R.below b4 (Nat.le_refl _)
              have hz3 := B.size
              have B := B.trans (b4.mono B.size)
              have sp := sp.below b4 sp.lt
              have sq := sq.below b4 sq.lt
              have sr := sr.below b4 sr.lt
              go_wp2_with fail
              refine (S2 _ _ sr).mono ?_
              rintro e w5 ⟨rfl, b5⟩
              have R := R.below b5 (Nat.le_refl _)
              have hz4 := B.size
              have B := B.trans (b5.mono B.size)
              have sp := sp.below b5 sp.lt
              have sq := sq.below b5 sq.lt
              have sr := sr.below b5 sr.lt
              have r0 := R.c0
              have f0 := R.f0
              have r1 := R.c1
              have f1 := R.f1
              have r2 := R.c2
              have f2 := R.f2
              have HB : Hid (Below w.heap.size w _) := (((B.setCell (p := ⟨w.heap.size + 1, 0, none⟩) (by show w.heap.size ≤ w.heap.size + 1; omega) (.pointer none)).setCell (p := ⟨w.heap.size + 1, 1, none⟩) (by show w.heap.size ≤ w.heap.size + 1; omega) (.pointer none)).setCell (p := ⟨w.heap.size + 1, 2, none⟩) (by show w.heap.size ≤ w.heap.size + 1; omega) (.pointer none))
              clear R B KN KY ZN ZY S0 S1 S2 sp sq sr
              go_wp2
              (try simp only [Exit.inBlock, Exit.then])
              refine bodyPost_ret (v := .tuple #[.agg #[.pointer none, .pointer none, .pointer none], .bool false]) ?_ rfl ⟨none, none, none, by simp, HB.out, fun h => by simp at h⟩
              rw [results_cell_tmp rfl]
              go_simp
            · go_enter Try.func33, Try.ntmps33
              go_wp2_with fail
              refine (KY _ B (by first | rfl | trivial) (by first | rfl | trivial)).mono ?_
              generalize (w.alloc (.cells #[.bool g0, .slice a0 n0 c0, .bool g1, .slice a1 n1 c1, .bool g2, .slice a2 n2 c2] 31)).alloc (.cells #[.pointer none, .pointer none, .pointer none] 70) = u0 at *
              rintro e w1 ⟨p, q, rfl, sp, sq, b1, hp, hq⟩
              have hR := R.hi
              have X := X.below b1 (Nat.le_refl _)
              have R := R.below b1 (Nat.le_refl _)
              have hz0 := B.size
              have hzb := b1.size
              have B := B.trans (b1.mono B.size)
              have x4 := X.c4
              have x5 := X.c5
              go_wp2_with fail
              refine (ZY _ B (by first | rfl | trivial)).mono ?_
              rintro e w2 ⟨r, rfl, hr, sr, b2⟩
              clear x4 x5 X
              have R := R.below b2 (Nat.le_refl _)
              have hz1 := B.size
              have B := B.trans (b2.mono B.size)
              have sp := sp.below b2 sp.lt
              have sq := sq.below b2 sq.lt
              go_wp2_with fail
              refine (S0 _ _ sp).mono ?_
              rintro e w3 ⟨rfl, b3⟩
              have R := R.below b3 (Nat.le_refl _)
              have hz2 := B.size
              have B := B.trans (b3.mono B.size)
              have sp := sp.below b3 sp.lt
              have sq := sq.below b3 sq.lt
              have sr := sr.below b3 sr.lt
              go_wp2_with fail
              refine (S1 _ _ sq).mono ?_
              rintro e w4 ⟨rfl, b4⟩
              have R := R.below b4 (Nat.le_refl _)
              have hz3 := B.size
              have B := B.trans (b4.mono B.size)
              have sp := sp.below b4 sp.lt
              have sq := sq.below b4 sq.lt
              have sr := sr.below b4 sr.lt
              go_wp2_with fail
              refine (S2 _ _ sr).mono ?_
              rintro e w5 ⟨rfl, b5⟩
              have R := R.below b5 (Nat.le_refl _)
              have hz4 := B.size
              have B := B.trans (b5.mono B.size)
              have sp := sp.below b5 sp.lt
              have sq := sq.below b5 sq.lt
              have sr := sr.below b5 sr.lt
              have r0 := R.c0
              have f0 := R.f0
              have r1 := R.c1
              have f1 := R.f1
              have r2 := R.c2
              have f2 := R.f2
              have HB : Hid (Below w.heap.size w _) := (((B.setCell (p := ⟨w.heap.size + 1, 0, none⟩) (by show w.heap.size ≤ w.heap.size + 1; omega) (.pointer (some ⟨p, 0, none⟩))).setCell (p := ⟨w.heap.size + 1, 1, none⟩) (by show w.heap.size ≤ w.heap.size + 1; omega) (.pointer (some ⟨q, 0, none⟩))).setCell (p := ⟨w.heap.size + 1, 2, none⟩) (by show w.heap.size ≤ w.heap.size + 1; omega) (.pointer (some ⟨r, 0, none⟩)))
              have HS0 := hid_of (sp.tnK (((tnC w5 (w.heap.size + 1) 0 (.pointer (some ⟨p, 0, none⟩))).trans (tnC _ (w.heap.size + 1) 1 (.pointer (some ⟨q, 0, none⟩)))).trans (tnC _ (w.heap.size + 1) 2 (.pointer (some ⟨r, 0, none⟩)))) (fun h => by simp at h; omega))
              have HS1 := hid_of (sq.tnK (((tnC w5 (w.heap.size + 1) 0 (.pointer (some ⟨p, 0, none⟩))).trans (tnC _ (w.heap.size + 1) 1 (.pointer (some ⟨q, 0, none⟩)))).trans (tnC _ (w.heap.size + 1) 2 (.pointer (some ⟨r, 0, none⟩)))) (fun h => by simp at h; omega))
              have HS2 := hid_of (sr.tnK (((tnC w5 (w.heap.size + 1) 0 (.pointer (some ⟨p, 0, none⟩))).trans (tnC _ (w.heap.size + 1) 1 (.pointer (some ⟨q, 0, none⟩)))).trans (tnC _ (w.heap.size + 1) 2 (.pointer (some ⟨r, 0, none⟩)))) (fun h => by simp at h; omega))
              have l0 : w.heap.size ≤ p := by omega
              have l1 : w.heap.size ≤ q := by omega
              have l2 : w.heap.size ≤ r := by omega
              clear R B KN KY ZN ZY S0 S1 S2 sp sq sr
              go_wp2
              (try simp only [Exit.inBlock, Exit.then])
              refine bodyPost_ret (v := .tuple #[.agg #[.pointer (some ⟨p, 0, none⟩), .pointer (some ⟨q, 0, none⟩), .pointer (some ⟨r, 0, none⟩)], .bool true]) ?_ rfl ⟨some ⟨p, 0, none⟩, some ⟨q, 0, none⟩, some ⟨r, 0, none⟩, by simp, HB.out, fun _ => ⟨_, _, _, rfl, rfl, rfl, HS0.out, HS1.out, HS2.out, l0, l1, l2⟩⟩
              rw [results_cell_tmp rfl]
              go_simp

set_option maxRecDepth 20000 in
set_option maxHeartbeats 3200000 in
theorem iKernOk (va : Value) (a : Kh) (w : World) (ha : rowK w va a) (hl0 : a.x.2.length ≤ 1048576) (hl1 : a.y.2.length ≤ 1048576) (hl2 : a.z.2.length ≤ 1048576) :
    Calls Try.prog 10 #[va] w fun e w' => e = .returned (.bool (kernR a)) ∧ Below w.heap.size w w' := by
  have kT := fun W (h : Below w.heap.size w W) => turning_c va a W (ha.below h (Nat.le_refl _)) hl0 hl1 hl2
  unfold turnE at kT
  obtain ⟨s, t, u, rfl, hs, ht, hu⟩ := ha
  obtain ⟨a0, c0, rfl, -⟩ := id hs
  obtain ⟨a1, c1, rfl, -⟩ := id ht
  obtain ⟨a2, c2, rfl, -⟩ := id hu
  obtain ⟨g0, hg0⟩ : ∃ g, a.x.1 = g := ⟨_, rfl⟩
  obtain ⟨g1, hg1⟩ : ∃ g, a.y.1 = g := ⟨_, rfl⟩
  obtain ⟨g2, hg2⟩ : ∃ g, a.z.1 = g := ⟨_, rfl⟩
  obtain ⟨n0, hn0⟩ : ∃ g, a.x.2.length = g := ⟨_, rfl⟩
  obtain ⟨n1, hn1⟩ : ∃ g, a.y.2.length = g := ⟨_, rfl⟩
  obtain ⟨n2, hn2⟩ : ∃ g, a.z.2.length = g := ⟨_, rfl⟩
  rw [hg0, hg1, hg2, hn0, hn1, hn2] at kT
  rw [hg0, hg1, hg2, hn0, hn1, hn2]
  clear hs ht hu hg0 hg1 hg2 hn0 hn1 hn2 hl0 hl1 hl2
  generalize kernR a = r at *
  have B := below1 w (.cells #[.bool g0, .slice a0 n0 c0, .bool g1, .slice a1 n1 c1, .bool g2, .slice a2 n2 c2] 31)
  go_enter Try.func10, Try.ntmps10
  go_wp2_with fail
  refine (kT _ B).mono ?_
  generalize w.alloc (.cells #[.bool g0, .slice a0 n0 c0, .bool g1, .slice a1 n1 c1, .bool g2, .slice a2 n2 c2] 31) = u0 at *
  rintro e w1 ⟨X, Y, Z, rfl, b1, -⟩
  have B := B.trans (b1.mono B.size)
  have HB : Hid (Below w.heap.size w _) := B.trans ((below1 w1 (.cells #[.pointer X, .pointer Y, .pointer Z] 70)).mono B.size)
  clear B kT
  go_wp2
  go_ret
  exact ⟨rfl, HB.out⟩

end Go.Proofs.Ytplgohjmfihpaaa
