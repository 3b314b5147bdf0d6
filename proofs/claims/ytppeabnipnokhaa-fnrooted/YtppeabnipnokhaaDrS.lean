/- l2Two, l2Shift and the draws made of them: two rows, or a row and a number, in new memory. -/
import Derived.Test.YtppeabnipnokhaaDrD
namespace Go.Proofs.Ytppeabnipnokhaa
open Go.RowKit

/-- What a draw of two rows hands out. -/
def DrawnII (w : World) (e : Ending) (w' : World) : Prop := ∃ va vb xs ys, e = .returned (.tuple #[va, vb]) ∧ rowI w' va xs ∧ rowI w' vb ys ∧ xs.length ≤ 49 ∧ ys.length ≤ 49 ∧ Below w.heap.size w w'
def DrawnIK (w : World) (e : Ending) (w' : World) : Prop := ∃ va xs k, e = .returned (.tuple #[va, .int .i64 k]) ∧ rowI w' va xs ∧ xs.length ≤ 49 ∧ -2 ≤ k ∧ k ≤ 1200 ∧ Below w.heap.size w w'
def DrawnI1 (w : World) (e : Ending) (w' : World) : Prop := ∃ va xs, e = .returned va ∧ rowI w' va xs ∧ xs.length ≤ 98 ∧ Below w.heap.size w w'

/-- A row that another call's cursor does not reach. -/
theorem rowI.cur {w w' : World} {base B : Nat} {v : Value} {xs : List Int} (h : ownsI w base v xs) (hg : w.grownBy w' (some B)) (hB : B < base) : rowI w' v xs := (h.cur hg hB).row

set_option maxRecDepth 20000 in
set_option maxHeartbeats 3200000 in
theorem drTwo (a : Option Addr) (len cap : Nat) (zs : List Int) (w : World) (hlen : len ≤ 1048576) (h : CodeIs w a len cap zs) :
    Calls Try.prog 28 #[.slice a len cap] w (DrawnII w) := by
  go_enter Try.func28, Try.ntmps28
  go_wp2_with fail
  refine (curNew a len cap zs w hlen h).mono ?_
  rintro e w1 ⟨rfl, c1, b1⟩
  have hs1 := c1.lt
  clear h
  go_wp2_with fail
  refine (drDraw w.heap.size w1 c1).mono ?_
  rintro e w2 ⟨v2, xs, rfl, o2, l2, c2, g2⟩
  have B2 := below_cur b1 g2 (Nat.le_refl _) b1.size
  clear c1 b1 g2
  go_wp2_with fail
  refine (drOnce w.heap.size 5 w2 c2 (by omega)).mono ?_
  rintro e w3 ⟨t, rfl, c3, g3⟩
  have o3 := o2.cur g3 hs1
  have B3 := below_cur B2 g3 (Nat.le_refl _) B2.size
  clear c2 o2 g3 B2
  cases t
  · go_wp2_with fail
    refine (drDraw w.heap.size w3 c3).mono ?_
    rintro e w4 ⟨v4, ys, rfl, o4, l4, c4, g4⟩
    have r4 := rowI.cur o3 g4 hs1
    have B4 := below_cur B3 g4 (Nat.le_refl _) B3.size
    clear o3 c3 c4 g4 B3
    go_wp2
    go_ret2
    exact ⟨_, _, xs, ys, rfl, r4, o4.row, l2, l4, B4⟩
  · have hm := made_own w3
    have r3 := (o3.below ((Below.refl w3.heap.size w3).alloc (Nat.le_refl _) (.cells #[] 3)) (Nat.le_refl _)).row
    have bm : Below w3.heap.size w3 (w3.alloc (.cells #[] 3)) := (Below.refl _ _).alloc (Nat.le_refl _) _
    have hsz : w3.heap.size ≤ (w3.alloc (.cells #[] 3)).heap.size := bm.size
    have hll : ([] : List Int).length + xs.length ≤ 1099511627776 := by simp; omega
    have R3 := o3.row
    clear c3
    go_wp2_with (at_builtin; refine wpI_all w3 _ rfl (.tmp 13) (.tmp 14) rfl w3.heap.size _ _ [] xs rfl hm rfl r3 bm hll hsz ?_; intro v5 w5 o5 b5)
    go_ret2
    exact ⟨_, _, xs, xs, rfl, R3.below b5 (Nat.le_refl _), o5.row, l2, l2, B3.trans (b5.mono B3.size)⟩

set_option maxRecDepth 20000 in
set_option maxHeartbeats 3200000 in
theorem drShift (a : Option Addr) (len cap : Nat) (zs : List Int) (w : World) (hlen : len ≤ 1048576) (h : CodeIs w a len cap zs) :
    Calls Try.prog 39 #[.slice a len cap] w (DrawnIK w) := by
  go_enter Try.func39, Try.ntmps39
  go_wp2_with fail
  refine (curNew a len cap zs w hlen h).mono ?_
  rintro e w1 ⟨rfl, c1, b1⟩
  have hs1 := c1.lt
  clear h
  go_wp2_with fail
  refine (drDraw w.heap.size w1 c1).mono ?_
  rintro e w2 ⟨v2, xs, rfl, o2, l2, c2, g2⟩
  have B2 := below_cur b1 g2 (Nat.le_refl _) b1.size
  clear c1 b1 g2
  go_wp2_with fail
  refine (curBelow w.heap.size 300 w2 c2 (by omega)).mono ?_
  rintro e w3 ⟨x, rfl, x0, x1, -, c3, g3⟩
  have x1' := x1 (by omega)
  have o3 := o2.cur g3 hs1
  have B3 := below_cur B2 g3 (Nat.le_refl _) B2.size
  have hs3 := B3.size
  have hlit := lit_cells w3 [0, 1, 23, 24, 25, 100, x, 1151, 1152, 1153, -1] 3
  have hl3 := c3.lt
  clear c2 o2 g3 B2 x1
  go_wp2_with fail
  refine (pickInt w.heap.size w3.heap.size 11 11 [0, 1, 23, 24, 25, 100, x, 1151, 1152, 1153, -1] _ (c3.alloc _) rfl (by omega) (by omega) (by omega) hlit).mono ?_
  rintro e w4 ⟨z, rfl, hz, c4, g4⟩
  have hz' : -2 ≤ z ∧ z ≤ 1200 := by simp at hz; omega
  have r4 := rowI.cur (o3.below ((Below.refl w3.heap.size w3).alloc (Nat.le_refl _) _) (Nat.le_refl _)) g4 hs1
  have B4 := below_cur (B3.alloc B3.size _) g4 (Nat.le_refl _) (by simp; omega)
  clear hz hlit c3 c4 g4 o3 B3
  go_wp2
  go_ret2
  exact ⟨_, xs, z, rfl, r4, l2, hz'.1, hz'.2, B4⟩

set_option maxHeartbeats 800000 in
theorem drAdd (a : Option Addr) (len cap : Nat) (zs : List Int) (w : World) (hlen : len ≤ 1048576) (h : CodeIs w a len cap zs) :
    Calls Try.prog 8 #[.slice a len cap] w (DrawnII w) := by
  go_enter Try.func8, Try.ntmps8
  go_wp2_with fail
  refine (drTwo a len cap zs w hlen h).mono ?_
  rintro e w1 ⟨va, vb, xs, ys, rfl, h1⟩
  go_wp2
  go_ret2
  exact ⟨_, _, xs, ys, rfl, h1⟩

set_option maxHeartbeats 800000 in
theorem drShl (a : Option Addr) (len cap : Nat) (zs : List Int) (w : World) (hlen : len ≤ 1048576) (h : CodeIs w a len cap zs) :
    Calls Try.prog 18 #[.slice a len cap] w (DrawnIK w) := by
  go_enter Try.func18, Try.ntmps18
  go_wp2_with fail
  refine (drShift a len cap zs w hlen h).mono ?_
  rintro e w1 ⟨va, xs, k, rfl, h1⟩
  go_wp2
  go_ret2
  exact ⟨_, xs, k, rfl, h1⟩

end Go.Proofs.Ytppeabnipnokhaa
