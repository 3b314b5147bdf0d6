/- DrawIvMeet and at0, each by its contract. -/
import Derived.Test.YtddakeohamefiaaDrTw
namespace Go.Proofs.Ytddakeohamefiaa
open Go.RowKit
set_option linter.unusedSimpArgs false

set_option maxHeartbeats 1600000 in
theorem at0_three (a : Option Addr) (len cap : Nat) (zs : List Int) (w : World) (hlen : len ≤ 1048576) (h : CodeIs w a len cap zs) :
    Calls Try.prog 18 #[.slice a len cap, .int .i64 3] w fun e w' => (∃ x, e = .returned (.int .i64 x)) ∧ w' = w := by
  obtain ⟨hrow, -⟩ := h
  by_cases hil : 3 < len
  · rcases hrow with ⟨_, h0, _, _⟩ | ⟨⟨b, off, spot⟩, rfl, g2, g3, g4, g5, g6⟩
    · omega
    · have hc := g5 3 (by omega)
      have hspot : spot = none := by simpa [Addr.add] using World.cell?_spot (g5 0 (by omega))
      subst hspot
      obtain ⟨z, hz⟩ : ∃ z, zs.getD 3 0 = z := ⟨_, rfl⟩
      rw [hz] at hc
      have hca : w.cell? ⟨b, off + 3, none⟩ = some (.int .u8 z) := by simpa [Addr.add] using hc
      have hil' : (3 : Int) < (len : Int) := by omega
      clear hc hz g5 g6
      go_enter Try.func18, Try.ntmps18
      go_wp2
      go_ret
      exact ⟨⟨_, rfl⟩, rfl⟩
  · have hil' : ¬ (3 : Int) < (len : Int) := by omega
    go_enter Try.func18, Try.ntmps18
    go_wp2
    go_ret
    exact ⟨⟨_, rfl⟩, rfl⟩

set_option maxRecDepth 20000 in
set_option maxHeartbeats 6400000 in
theorem drIvMeet (a : Option Addr) (len cap : Nat) (zs : List Int) (w : World) (hlen : len ≤ 1048576) (hc : CodeIs w a len cap zs) :
    Calls Try.prog 13 #[.slice a len cap] w (DrawnVV w) := by
  have s1 : (w.alloc (.cells #[.bool false, .slice none 0 0, .bool false, .slice none 0 0] 28)).heap.size = w.heap.size + 1 := by simp
  have X := (BoxV.made w (.bool false) (.slice none 0 0) (.bool false) (.slice none 0 0) 28).below (below1 _ (.cells #[.bool false, .slice none 0 0, .bool false, .slice none 0 0] 28)) (Nat.le_refl _)
  have Y := BoxV.made (w.alloc (.cells #[.bool false, .slice none 0 0, .bool false, .slice none 0 0] 28)) (.bool false) (.slice none 0 0) (.bool false) (.slice none 0 0) 28
  rw [s1] at Y
  have s0 : ((w.alloc (.cells #[.bool false, .slice none 0 0, .bool false, .slice none 0 0] 28)).alloc (.cells #[.bool false, .slice none 0 0, .bool false, .slice none 0 0] 28)).heap.size = w.heap.size + 1 + 1 := by simp
  have B0 := below2 w (.cells #[.bool false, .slice none 0 0, .bool false, .slice none 0 0] 28) (.cells #[.bool false, .slice none 0 0, .bool false, .slice none 0 0] 28)
  have hc := hc.below B0
  clear s1
  go_enter Try.func13, Try.ntmps13
  go_wp2_with fail
  generalize (w.alloc (.cells #[.bool false, .slice none 0 0, .bool false, .slice none 0 0] 28)).alloc (.cells #[.bool false, .slice none 0 0, .bool false, .slice none 0 0] 28) = w0 at *
  refine (drIvTwo a len cap zs w0 hlen hc).mono ?_
  rintro e w1 ⟨g, h, p, r, s, t, s', t', xs, ys, us, vs, rfl, q1, q2, q3, q4, lx, ly, lu, lv, b1⟩
  obtain ⟨ad, cp, rfl, -⟩ := q1.row
  obtain ⟨ae, cq, rfl, -⟩ := q2.row
  obtain ⟨af, cr, rfl, -⟩ := q3.row
  obtain ⟨ag, cs, rfl, -⟩ := q4.row
  rw [s0] at q1 q2 q3 q4
  have X1 := X.below b1 (Nat.le_refl _)
  have Y1 := Y.below b1 (Nat.le_refl _)
  have B1 := B0.trans (b1.mono B0.size)
  have n1 := ownsI_mono ((q1.set4 w.heap.size (by omega) (.bool g) (.slice ad xs.length cp) (.bool h) (.slice ae ys.length cq)).set4 (w.heap.size + 1) (by omega) (.bool p) (.slice af us.length cr) (.bool r) (.slice ag vs.length cs)) (show w.heap.size + 1 + 1 ≤ _ by omega)
  have n2 := ownsI_mono ((q2.set4 w.heap.size (by omega) (.bool g) (.slice ad xs.length cp) (.bool h) (.slice ae ys.length cq)).set4 (w.heap.size + 1) (by omega) (.bool p) (.slice af us.length cr) (.bool r) (.slice ag vs.length cs)) (show w.heap.size + 1 + 1 ≤ _ by omega)
  have n3 := ownsI_mono ((q3.set4 w.heap.size (by omega) (.bool g) (.slice ad xs.length cp) (.bool h) (.slice ae ys.length cq)).set4 (w.heap.size + 1) (by omega) (.bool p) (.slice af us.length cr) (.bool r) (.slice ag vs.length cs)) (show w.heap.size + 1 + 1 ≤ _ by omega)
  have n4 := ownsI_mono ((q4.set4 w.heap.size (by omega) (.bool g) (.slice ad xs.length cp) (.bool h) (.slice ae ys.length cq)).set4 (w.heap.size + 1) (by omega) (.bool p) (.slice af us.length cr) (.bool r) (.slice ag vs.length cs)) (show w.heap.size + 1 + 1 ≤ _ by omega)
  have BZ := belD4 w _ (w.heap.size + 1) (by omega) (belD4 w w1 w.heap.size (Nat.le_refl _) B1 (.bool g) (.slice ad xs.length cp) (.bool h) (.slice ae ys.length cq)) (.bool p) (.slice af us.length cr) (.bool r) (.slice ag vs.length cs)
  have HD : Hid (DrawnVV w (.returned (.tuple #[.agg #[.bool g, .slice ad xs.length cp, .bool h, .slice ae ys.length cq], .agg #[.bool p, .slice af us.length cr, .bool r, .slice ag vs.length cs]])) _) := ⟨g, h, p, r, _, _, _, _, xs, ys, us, vs, rfl, n1, n2, n3, n4, lx, ly, lu, lv, BZ⟩
  have YX := Y1.tn (tnD4 w1 w.heap.size (.bool g) (.slice ad xs.length cp) (.bool h) (.slice ae ys.length cq)) (fun k hk hs => by simp at hk hs; omega)
  have XX := (((X1.set0 (.bool g)).set1 (.slice ad xs.length cp)).set2 (.bool h)).set3 (.slice ae ys.length cq)
  have XY := XX.tn (tnD4 _ (w.heap.size + 1) (.bool p) (.slice af us.length cr) (.bool r) (.slice ag vs.length cs)) (fun k hk hs => by simp at hk hs; omega)
  have YY := (((YX.set0 (.bool p)).set1 (.slice af us.length cr)).set2 (.bool r)).set3 (.slice ag vs.length cs)
  have x0 := X1.c0
  have x1 := X1.c1
  have x2 := X1.c2
  have x3 := X1.c3
  have x_0 := X1.f0
  have x_1 := X1.f1
  have x_2 := X1.f2
  have x_3 := X1.f3
  have y0 := Y1.c0
  have y1 := Y1.c1
  have y2 := Y1.c2
  have y3 := Y1.c3
  have y_0 := Y1.f0
  have y_1 := Y1.f1
  have y_2 := Y1.f2
  have y_3 := Y1.f3
  have hn11 : ¬ w.heap.size = w.heap.size + 1 := by omega
  have hn12 : ¬ w.heap.size + 1 = w.heap.size := by omega
  clear q1 q2 q3 q4 n1 n2 n3 n4 BZ X Y X1 Y1 B0 B1 b1 s0 hc XX YX XY YY
  go_wp2
  (try simp only [Exit.inBlock, Exit.then])
  refine bodyPost_ret (v := .tuple #[.agg #[.bool g, .slice ad xs.length cp, .bool h, .slice ae ys.length cq], .agg #[.bool p, .slice af us.length cr, .bool r, .slice ag vs.length cs]]) ?_ rfl HD.out
  rw [results_cell2D rfl]
  go_simp

end Go.Proofs.Ytddakeohamefiaa
