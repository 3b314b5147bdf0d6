/- The draws of formats and of raw numbers: l6Right, l6Draw, l6Raw, l6Bent, DrawRawOk, DrawWordOf, each by its contract. -/
import Derived.Test.YtmaemcfcoieejaaDrF0
import Derived.Test.YtmaemcfcoieejaaSLeast
namespace Go.Proofs.Ytmaemcfcoieejaa
open Go.RowKit
set_option linter.unusedSimpArgs false

/-- What a draw of a format and a number hands out. -/
def DrawnFI (w : World) (e : Ending) (w' : World) : Prop := ∃ g m n x, e = .returned (.tuple #[vF g m n, .int .i64 x]) ∧ Below w.heap.size w w'

theorem drFinF {w w5 : World} {B : Nat} (c5 : CurAt w5 B) (G5 : w.grownBy w5 (some B)) (hB : B < w.heap.size) (x0 x1 x2 : Value) :
    CurAt (((w5.setCell ⟨w.heap.size, 0, none⟩ x0).setCell ⟨w.heap.size, 1, none⟩ x1).setCell ⟨w.heap.size, 2, none⟩ x2) B ∧ w.grownBy (((w5.setCell ⟨w.heap.size, 0, none⟩ x0).setCell ⟨w.heap.size, 1, none⟩ x1).setCell ⟨w.heap.size, 2, none⟩ x2) (some B) :=
  ⟨((c5.set _ 0 hB x0).set _ 1 hB x1).set _ 2 hB x2, grown_put (grown_put (grown_put G5 _ 0 (Nat.le_refl _) x0) _ 1 (Nat.le_refl _) x1) _ 2 (Nat.le_refl _) x2⟩

set_option maxRecDepth 20000 in
set_option maxHeartbeats 6400000 in
theorem drFRight (B : Nat) (w : World) (hc : CurAt w B) :
    Calls Try.prog 30 #[.pointer (some ⟨B, 0, none⟩)] w fun e w' => ∃ g m n, e = .returned (vF g m n) ∧ 2 ≤ m ∧ m ≤ 60 ∧ CurAt w' B ∧ w.grownBy w' (some B) := by
  have hB := hc.lt
  have c0 := hc.alloc (.cells #[.bool false, .int .i64 0, .int .i64 0] 25)
  have G0 : w.grownBy (w.alloc (.cells #[.bool false, .int .i64 0, .int .i64 0] 25)) (some B) := grown_of (belowF1 w _) _
  have Y0 := Bx3.made w (.bool false) (.int .i64 0) (.int .i64 0) 25
  have s0 : (w.alloc (.cells #[.bool false, .int .i64 0, .int .i64 0] 25)).heap.size = w.heap.size + 1 := by simp
  clear hc
  go_enter Try.func30, Try.ntmps30
  go_wp2_with fail
  generalize w.alloc (.cells #[.bool false, .int .i64 0, .int .i64 0] 25) = w0 at *
  refine (drOnce B 4 w0 c0 (by omega)).mono ?_
  rintro e w1 ⟨t, rfl, c1, g1⟩
  have G1 := grown_trans G0 g1
  have Y1 := Y0.cur g1 (by omega)
  have z1 : w.heap.size + 1 ≤ w1.heap.size := by have := g1.size; omega
  clear c0 G0 Y0 g1
  go_wp2_with fail
  refine (curBelow B 59 w1 c1 (by omega)).mono ?_
  rintro e w2 ⟨x, rfl, x0, x1, -, c2, g2⟩
  have x1' := x1 (by omega)
  have G2 := grown_trans G1 g2
  have Y2 := Y1.cur g2 (by omega)
  have z2 : w.heap.size + 1 ≤ w2.heap.size := by have := g2.size; omega
  clear c1 G1 Y1 g2 x1
  have hlit := lit_cells w2 [2, 8, 12, 16, 24, 32, 48, 60, 2 + x] 3
  go_wp2_with fail
  refine (pickInt B w2.heap.size 9 9 [2, 8, 12, 16, 24, 32, 48, 60, 2 + x] _ (c2.alloc _) rfl (by omega) (by omega) (by omega) hlit).mono ?_
  rintro e w3 ⟨m, rfl, hm, c3, g3⟩
  have hm' : 2 ≤ m ∧ m ≤ 60 := by simp at hm; omega
  have G3 := grown_trans (grown_alloc G2 _) g3
  have Y3 := (Y2.alloc _).cur g3 (by omega)
  have z3 : w.heap.size + 1 ≤ w3.heap.size := by have h := g3.size; simp at h; omega
  clear hm hlit c2 G2 Y2 g3
  obtain ⟨m0, m1⟩ := hm'
  have A4 := (Bx3.made w3 (.bool !t) (.int .i64 m) (.int .i64 0) 25).drew
  have Y4 := (Y3.alloc (.cells #[.bool !t, .int .i64 m, .int .i64 0] 25)).drew
  have c4 := (c3.alloc (.cells #[.bool !t, .int .i64 m, .int .i64 0] 25)).drew
  have G4 := grown_drew (grown_alloc G3 (.cells #[.bool !t, .int .i64 m, .int .i64 0] 25))
  have z4 : w3.heap.size < (w3.alloc (.cells #[.bool !t, .int .i64 m, .int .i64 0] 25)).drew.heap.size := A4.hi
  go_wp2_with fail
  go_region_held (fun W => W.cell? ⟨w3.heap.size, 1, none⟩ = some (.int .i64 m)) (go_keep) (first
    | (go_at_call 31; refine (curBelow B (IntKind.i64.wrap (m + 1)) _ c4 (by rw [IntKind.wrap_i64]; omega)).mono ?_; rintro e w5 ⟨x5, rfl, -, -, -, c5, g5⟩; have A5 := A4.cur g5 (by omega); have Y5 := Y4.cur g5 (by omega); have G5 := grown_trans G4 g5; have k5 := A5.c1)
    | (go_at_call 32; refine (pickAny B _ 6 6 _ _ _ (c5.alloc _) (by have := A5.hi; omega) (heap_alloc_new _ _) rfl (by rfl) (by omega) (by omega)).mono ?_; rintro e w6 ⟨n, rfl, c6, g6⟩; have A6 := (A5.alloc _).cur g6 (by omega); have Y6 := (Y5.alloc _).cur g6 (by omega); have G6 := grown_trans (grown_alloc G5 _) g6; have k6 := A6.c1; have k7 := A6.f2; have k8 := A6.c2; have k9 := (A6.set2 (.int .i64 n)).c1))
  have A7 := A6.set2 (.int .i64 n)
  have Y7 := Y6.tn (⟨rfl, rfl, rfl, by simp [World.setCell], fun k _ hn => Below.heap_setCell _ _ _ _ (fun e => hn (by simp [e]))⟩ : Tn [w3.heap.size] w6 (w6.setCell ⟨w3.heap.size, 2, none⟩ (.int .i64 n))) (fun k hk hs => by simp at hk hs; omega)
  have c7 := c6.set w3.heap.size 2 (by omega) (.int .i64 n)
  have G7 := grown_put G6 w3.heap.size 2 (by omega) (.int .i64 n)
  clear A4 A5 A6 Y3 Y4 Y5 Y6 c3 c4 c5 c6 G3 G4 G5 G6 k5 k6 k7 k8 k9
  generalize w6.setCell ⟨w3.heap.size, 2, none⟩ (.int .i64 n) = w7 at *
  have HD : Hid _ := drFinF c7 G7 hB (.bool !t) (.int .i64 m) (.int .i64 n)
  have r0 := Y7.c0
  have r1 := Y7.c1
  have r2 := Y7.c2
  have p0 := Y7.f0
  have p1 := Y7.f1
  have p2 := Y7.f2
  have d0 := A7.c0
  have d1 := A7.c1
  have d2 := A7.c2
  have q0 := A7.f0
  have q1 := A7.f1
  have q2 := A7.f2
  clear A7 Y7 c7 G7
  go_wp2
  (try simp only [Exit.inBlock, Exit.then])
  refine bodyPost_ret (v := vF (!t) m n) ?_ rfl ⟨!t, m, n, rfl, m0, m1, HD.out.1, HD.out.2⟩
  rw [results_cellF rfl]
  go_simp

set_option maxRecDepth 20000 in
set_option maxHeartbeats 6400000 in
theorem drFDraw (B : Nat) (w : World) (hc : CurAt w B) :
    Calls Try.prog 27 #[.pointer (some ⟨B, 0, none⟩)] w fun e w' => ∃ g m n, e = .returned (vF g m n) ∧ CurAt w' B ∧ w.grownBy w' (some B) := by
  have hB := hc.lt
  have c0 := hc.alloc (.cells #[.bool false, .int .i64 0, .int .i64 0] 25)
  have G0 : w.grownBy (w.alloc (.cells #[.bool false, .int .i64 0, .int .i64 0] 25)) (some B) := grown_of (belowF1 w _) _
  have Y0 := Bx3.made w (.bool false) (.int .i64 0) (.int .i64 0) 25
  have s0 : (w.alloc (.cells #[.bool false, .int .i64 0, .int .i64 0] 25)).heap.size = w.heap.size + 1 := by simp
  clear hc
  go_enter Try.func27, Try.ntmps27
  go_wp2_with fail
  generalize w.alloc (.cells #[.bool false, .int .i64 0, .int .i64 0] 25) = w0 at *
  refine (drFRight B w0 c0).mono ?_
  rintro e w1 ⟨g, m, n, rfl, m0, m1, c1, g1⟩
  have Y2 := (Y0.cur g1 (by omega)).alloc (.cells #[.bool g, .int .i64 m, .int .i64 n] 25)
  have G2 := grown_alloc (grown_trans G0 g1) (.cells #[.bool g, .int .i64 m, .int .i64 n] 25)
  have c2 := c1.alloc (.cells #[.bool g, .int .i64 m, .int .i64 n] 25)
  have A2 := Bx3.made w1 (.bool g) (.int .i64 m) (.int .i64 n) 25
  have z1 : w.heap.size + 1 ≤ w1.heap.size := by have := g1.size; omega
  have z2 : w1.heap.size < (w1.alloc (.cells #[.bool g, .int .i64 m, .int .i64 n] 25)).heap.size := A2.hi
  clear c0 G0 Y0 g1 c1
  go_wp2_with fail
  generalize w1.alloc (.cells #[.bool g, .int .i64 m, .int .i64 n] 25) = w2 at *
  refine (curBelow B 12 w2 c2 (by omega)).mono ?_
  rintro e w3 ⟨x, rfl, x0, -, -, c3, g3⟩
  have G3 := grown_trans G2 g3
  have Y3 := Y2.cur g3 (by omega)
  have A3 := A2.cur g3 (by omega)
  have z3 : w1.heap.size < w3.heap.size := A3.hi
  clear c2 G2 Y2 A2 g3
  by_cases h0 : x = 0
  · subst h0
    go_wp2_with fail
    refine (pickAny B _ 6 6 _ _ _ (c3.alloc _) (by omega) (heap_alloc_new _ _) rfl (by rfl) (by omega) (by omega)).mono ?_
    rintro e w4 ⟨y, rfl, c4, g4⟩
    have A4 := (A3.alloc _).cur g4 (by omega)
    have Y4 := (Y3.alloc _).cur g4 (by omega)
    have G4 := grown_trans (grown_alloc G3 _) g4
    have k1 := A4.c1
    have k2 := A4.f1
    have A5 := A4.set1 (.int .i64 y)
    have Y5 := Y4.tn (⟨rfl, rfl, rfl, by simp [World.setCell], fun k _ hn => Below.heap_setCell _ _ _ _ (fun e => hn (by simp [e]))⟩ : Tn [w1.heap.size] w4 (w4.setCell ⟨w1.heap.size, 1, none⟩ (.int .i64 y))) (fun k hk hs => by simp at hk hs; omega)
    have c5 := c4.set w1.heap.size 1 (by omega) (.int .i64 y)
    have G5 := grown_put G4 w1.heap.size 1 (by omega) (.int .i64 y)
    have HD : Hid _ := drFinF c5 G5 hB (.bool g) (.int .i64 y) (.int .i64 n)
    have r0 := Y5.c0
    have r1 := Y5.c1
    have r2 := Y5.c2
    have p0 := Y5.f0
    have p1 := Y5.f1
    have p2 := Y5.f2
    have d0 := A5.c0
    have d1 := A5.c1
    have d2 := A5.c2
    have q0 := A5.f0
    have q1 := A5.f1
    have q2 := A5.f2
    clear A5 Y5 c5 G5
    go_wp2
    (try simp only [Exit.inBlock, Exit.then])
    refine bodyPost_ret (v := vF g y n) ?_ rfl ⟨g, y, n, rfl, HD.out.1, HD.out.2⟩
    rw [results_cellF rfl]
    go_simp
  · by_cases h1 : x = 1
    · subst h1
      have k0 := A3.c1
      go_wp2_with fail
      refine (pickAny B _ 4 4 _ _ _ (c3.alloc _) (by omega) (heap_alloc_new _ _) rfl (by rfl) (by omega) (by omega)).mono ?_
      rintro e w4 ⟨y, rfl, c4, g4⟩
      have A4 := (A3.alloc _).cur g4 (by omega)
      have Y4 := (Y3.alloc _).cur g4 (by omega)
      have G4 := grown_trans (grown_alloc G3 _) g4
      have k1 := A4.c2
      have k2 := A4.f2
      have A5 := A4.set2 (.int .i64 y)
      have Y5 := Y4.tn (⟨rfl, rfl, rfl, by simp [World.setCell], fun k _ hn => Below.heap_setCell _ _ _ _ (fun e => hn (by simp [e]))⟩ : Tn [w1.heap.size] w4 (w4.setCell ⟨w1.heap.size, 2, none⟩ (.int .i64 y))) (fun k hk hs => by simp at hk hs; omega)
      have c5 := c4.set w1.heap.size 2 (by omega) (.int .i64 y)
      have G5 := grown_put G4 w1.heap.size 2 (by omega) (.int .i64 y)
      have HD : Hid _ := drFinF c5 G5 hB (.bool g) (.int .i64 m) (.int .i64 y)
      have r0 := Y5.c0
      have r1 := Y5.c1
      have r2 := Y5.c2
      have p0 := Y5.f0
      have p1 := Y5.f1
      have p2 := Y5.f2
      have d0 := A5.c0
      have d1 := A5.c1
      have d2 := A5.c2
      have q0 := A5.f0
      have q1 := A5.f1
      have q2 := A5.f2
      clear A5 Y5 c5 G5
      go_wp2
      (try simp only [Exit.inBlock, Exit.then])
      refine bodyPost_ret (v := vF g m y) ?_ rfl ⟨g, m, y, rfl, HD.out.1, HD.out.2⟩
      rw [results_cellF rfl]
      go_simp
    · have A4 := A3
      have Y4 := Y3
      have c4 := c3
      have G4 := G3
      clear A3 Y3 c3 G3
      have HD : Hid _ := drFinF c4 G4 hB (.bool g) (.int .i64 m) (.int .i64 n)
      have r0 := Y4.c0
      have r1 := Y4.c1
      have r2 := Y4.c2
      have p0 := Y4.f0
      have p1 := Y4.f1
      have p2 := Y4.f2
      have d0 := A4.c0
      have d1 := A4.c1
      have d2 := A4.c2
      have q0 := A4.f0
      have q1 := A4.f1
      have q2 := A4.f2
      clear A4 Y4 c4 G4
      go_wp2
      (try simp only [Exit.inBlock, Exit.then])
      refine bodyPost_ret (v := vF g m n) ?_ rfl ⟨g, m, n, rfl, HD.out.1, HD.out.2⟩
      rw [results_cellF rfl]
      go_simp

end Go.Proofs.Ytmaemcfcoieejaa
