/- Tight of the specification and of the program, each by its contract. -/
import Derived.Test.YtmbmnfphgcjhdaaIWidth
import Derived.Test.YtmbmnfphgcjhdaaSWholeOf
import Derived.Test.YtmbmnfphgcjhdaaSWCmp
import Derived.Test.YtmbmnfphgcjhdaaSOf
import Derived.Test.YtmbmnfphgcjhdaaSOrd
namespace Go.Proofs.Ytmbmnfphgcjhdaa
open Go.RowKit
set_option linter.unusedSimpArgs false

def tightR (a : Vh) (n : Int) : Bool := okV a && decide (valW a.2 - valW a.1 ≤ n)
theorem cmpZ_le (x y : Int) : decide (cmpZ x y ≤ 0) = decide (x ≤ y) := by unfold cmpZ; exact ord_le x y

set_option maxRecDepth 20000 in
set_option maxHeartbeats 3200000 in
theorem iTight (va : Value) (a : Vh) (n : Int) (w : World) (ha : rowV w va a) (hl0 : a.1.2.length ≤ 1048576) (hl1 : a.2.2.length ≤ 1048576) (h0 : -9223372036854775808 ≤ n) (h1 : n ≤ 9223372036854775807) :
    Calls Try.prog 31 #[va, .int .i64 n] w fun e w' => e = .returned (.bool (tightR a n)) ∧ Below w.heap.size w w' := by
  have kS := fun W (h : Below w.heap.size w W) => spanFrom_b va a W (ha.below h (Nat.le_refl _)) hl0 hl1
  have kO := fun W => sOf n W h0 h1
  have kR := fun p q x y W h1 h2 => sOrder p q x y W h1 h2
  have HL : Hid (okV a = true → (limbs (valW a.1).natAbs).length ≤ 48 ∧ (limbs (valW a.2).natAbs).length ≤ 48) := fun h => ⟨okW_lenV (okV_yes h).1, okW_lenV (okV_yes h).2.1⟩
  unfold tightR
  generalize valW a.1 = x at *
  generalize valW a.2 = y at *
  obtain ⟨s, t, rfl, hs, ht⟩ := ha
  obtain ⟨ad, cap, rfl, -⟩ := id hs
  obtain ⟨ae, cbp, rfl, -⟩ := id ht
  clear hs ht hl0 hl1
  generalize okV a = ov at *
  have B0 := below1 w (.cells #[.bool a.1.1, .slice ad a.1.2.length cap, .bool a.2.1, .slice ae a.2.2.length cbp] 28)
  cases ov
  · clear HL kO kR
    go_enter Try.func31, Try.ntmps31
    go_wp2_with fail
    refine (kS _ B0).mono ?_
    generalize w.alloc (.cells #[.bool a.1.1, .slice ad a.1.2.length cap, .bool a.2.1, .slice ae a.2.2.length cbp] 28) = w0 at *
    rintro e w1 ⟨X, Y, rfl, b1, -⟩
    have bF := below1 w1 (.cells #[.pointer X, .pointer Y] 75)
    have HB : Hid (Below w.heap.size w _) := (B0.trans (b1.mono B0.size)).trans (bF.mono (B0.trans (b1.mono B0.size)).size)
    clear B0 b1 bF kS
    go_wp2
    go_ret
    exact ⟨by simp, HB.out⟩
  · obtain ⟨lx, ly⟩ := HL.out rfl
    have kM := fun p q W h1 h2 => sgMinus q p y x W h2 h1 (by omega) (by omega)
    have hle := ord_le (y - x) n
    have kR := fun p q W h1 h2 => kR p q (y - x) n W h1 h2
    rw [Bool.true_and, ← hle]
    generalize (if y - x < n then (-1 : Int) else if n < y - x then 1 else 0) = r at *
    generalize y - x = d at *
    clear HL lx ly hle h0 h1
    go_enter Try.func31, Try.ntmps31
    go_wp2_with fail
    refine (kS _ B0).mono ?_
    generalize w.alloc (.cells #[.bool a.1.1, .slice ad a.1.2.length cap, .bool a.2.1, .slice ae a.2.2.length cbp] 28) = w0 at *
    rintro e w1 ⟨X, Y, rfl, b1, h1⟩
    obtain ⟨p, q, rfl, rfl, sp, sq, -, -⟩ := h1 (by first | exact trivial | rfl)
    have bF := below1 w1 (.cells #[.pointer (some ⟨p, 0, none⟩), .pointer (some ⟨q, 0, none⟩)] 75)
    have B1 := (B0.trans (b1.mono B0.size)).trans (bF.mono (B0.trans (b1.mono B0.size)).size)
    have sp1 := sp.below bF sp.lt
    have sq1 := sq.below bF sq.lt
    clear B0 b1 bF kS h1 sp sq
    go_wp2_with fail
    refine (kM p q _ sp1 sq1).mono ?_
    rintro e w2 ⟨c, rfl, hc, sc, b2⟩
    have B2 := B1.trans (b2.mono B1.size)
    clear B1 b2 kM sp1 sq1
    go_wp2_with fail
    refine (kO _).mono ?_
    rintro e w3 ⟨m, rfl, hm, sm, b3⟩
    have B3 := B2.trans (b3.mono B2.size)
    have sc3 := sc.below b3 sc.lt
    clear B2 b3 sc kO
    go_wp2_with fail
    refine (kR c m _ sc3 sm).mono ?_
    rintro e w4 ⟨rfl, b4⟩
    have HB : Hid (Below w.heap.size w _) := B3.trans (b4.mono B3.size)
    clear B3 b4 sc3 sm kR
    go_wp2
    go_ret
    exact ⟨rfl, HB.out⟩

set_option maxRecDepth 20000 in
set_option maxHeartbeats 3200000 in
theorem sTight (va : Value) (a : Vh) (n : Int) (w : World) (ha : rowV w va a) (hl0 : a.1.2.length ≤ 1048576) (hl1 : a.2.2.length ≤ 1048576) (h0 : -9223372036854775808 ≤ n) (h1 : n ≤ 9223372036854775807) :
    Calls Try.prog 30 #[va, .int .i64 n] w fun e w' => e = .returned (.bool (tightR a n)) ∧ Below w.heap.size w w' := by
  have kA := fun W (h : Below w.heap.size w W) => sIvOk va a W (ha.below h (Nat.le_refl _)) hl0 hl1
  have kW := fun W (h : Below w.heap.size w W) => sIvWidth va a W (ha.below h (Nat.le_refl _)) hl0 hl1
  have kO := fun W => sWholeOf n W h0 h1
  have HY : Hid (okV a = true → widthR a = mkW (valW a.2 - valW a.1) ∧ (limbs (valW a.2 - valW a.1).natAbs).length ≤ 49) := fun h => ⟨by unfold widthR; rw [if_pos h], diff_len (okW_lenV (okV_yes h).1) (okW_lenV (okV_yes h).2.1)⟩
  unfold tightR
  generalize valW a.2 - valW a.1 = d at *
  generalize widthR a = rw' at *
  obtain ⟨s, t, rfl, hs, ht⟩ := ha
  obtain ⟨ad, cap, rfl, -⟩ := id hs
  obtain ⟨ae, cbp, rfl, -⟩ := id ht
  clear hs ht hl0 hl1
  generalize okV a = ov at *
  have X0 := BoxV.made w (.bool a.1.1) (.slice ad a.1.2.length cap) (.bool a.2.1) (.slice ae a.2.2.length cbp) 28
  have B0 := below1 w (.cells #[.bool a.1.1, .slice ad a.1.2.length cap, .bool a.2.1, .slice ae a.2.2.length cbp] 28)
  cases ov
  · clear HY kO kW X0
    go_enter Try.func30, Try.ntmps30
    go_wp2_with fail
    refine (kA _ B0).mono ?_
    rintro e w1 ⟨rfl, b1⟩
    have HB : Hid (Below w.heap.size w _) := B0.trans (b1.mono B0.size)
    clear B0 b1 kA
    go_wp2
    go_ret
    exact ⟨by simp, HB.out⟩
  · obtain ⟨rfl, ld⟩ := HY.out rfl
    have l3 := limbs_len3 (n := n.natAbs) (by omega)
    have kR := fun va vb W h1 h2 => sWCmp va vb d n W h1 h2 (by omega) (by omega)
    have hle := cmpZ_le d n
    rw [Bool.true_and, ← hle]
    generalize cmpZ d n = r at *
    clear HY ld l3 hle h0 h1
    go_enter Try.func30, Try.ntmps30
    go_wp2_with fail
    refine (kA _ B0).mono ?_
    generalize w.alloc (.cells #[.bool a.1.1, .slice ad a.1.2.length cap, .bool a.2.1, .slice ae a.2.2.length cbp] 28) = w0 at *
    rintro e w1 ⟨rfl, b1⟩
    have X1 := X0.below b1 (Nat.le_refl _)
    have B1 := B0.trans (b1.mono B0.size)
    have c0 := X1.c0
    have c1 := X1.c1
    have c2 := X1.c2
    have c3 := X1.c3
    clear X0 B0 b1 kA
    go_wp2_with fail
    refine (kW _ B1).mono ?_
    rintro e w2 ⟨v2, rfl, o2, b2⟩
    have B2 := B1.trans (b2.mono B1.size)
    clear X1 B1 b2 kW c0 c1 c2 c3
    go_wp2_with fail
    refine (kO _).mono ?_
    rintro e w3 ⟨v3, rfl, o3, b3⟩
    have B3 := B2.trans (b3.mono B2.size)
    have q2 := (o2.below b3 (Nat.le_refl _)).row
    have q3 := o3.row
    clear B2 b3 o2 o3 kO
    go_wp2_with fail
    refine (kR v2 v3 _ q2 q3).mono ?_
    rintro e w4 ⟨rfl, b4⟩
    have HB : Hid (Below w.heap.size w _) := B3.trans (b4.mono B3.size)
    clear B3 b4 q2 q3 kR
    go_wp2
    go_ret
    exact ⟨rfl, HB.out⟩

end Go.Proofs.Ytmbmnfphgcjhdaa
