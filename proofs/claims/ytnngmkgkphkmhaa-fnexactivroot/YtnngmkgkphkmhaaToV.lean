/- The law's own helpers on what is held between two numbers, each by its contract. -/
import Derived.Test.YtnngmkgkphkmhaaV0
namespace Go.Proofs.Ytnngmkgkphkmhaa
open Go.RowKit
set_option linter.unusedSimpArgs false

set_option maxRecDepth 20000 in
set_option maxHeartbeats 3200000 in
theorem toV (g0 : Bool) (a0 : Option Addr) (n0 c0 : Nat) (zs0 : List Int) (g1 : Bool) (a1 : Option Addr) (n1 c1 : Nat) (zs1 : List Int) (w : World) (h0 : n0 ≤ 1048576) (h1 : n1 ≤ 1048576) (hr0 : IsRow .i64 w a0 n0 c0 zs0) (hr1 : IsRow .i64 w a1 n1 c1 zs1) :
    Calls Try.prog 8 #[.agg #[.bool g0, .slice a0 n0 c0, .bool g1, .slice a1 n1 c1]] w fun e w' => ∃ v, e = .returned v ∧ ownsV w' w.heap.size v ((g0, zs0.take n0), (g1, zs1.take n1)) ∧ Below w.heap.size w w' := by
  have T0 := fun W (h : Below w.heap.size w W) => toW g0 a0 n0 c0 zs0 W h0 (hr0.below h)
  have T1 := fun W (h : Below w.heap.size w W) => toW g1 a1 n1 c1 zs1 W h1 (hr1.below h)
  obtain ⟨xs0, hx0⟩ : ∃ xs, zs0.take n0 = xs := ⟨_, rfl⟩
  obtain ⟨xs1, hx1⟩ : ∃ xs, zs1.take n1 = xs := ⟨_, rfl⟩
  rw [hx0] at T0
  rw [hx1] at T1
  rw [hx0, hx1]
  clear hx0 hx1 hr0 hr1
  have s1 : (w.alloc (.cells #[.bool g0, .slice a0 n0 c0, .bool g1, .slice a1 n1 c1] 26)).heap.size = w.heap.size + 1 := by simp
  have s2 : ((w.alloc (.cells #[.bool g0, .slice a0 n0 c0, .bool g1, .slice a1 n1 c1] 26)).alloc (.cells #[.bool false, .slice none 0 0, .bool false, .slice none 0 0] 30)).heap.size = w.heap.size + 1 + 1 := by simp
  have X := ((BoxV.made w (.bool g0) (.slice a0 n0 c0) (.bool g1) (.slice a1 n1 c1) 26).below (below1 _ (.cells #[.bool false, .slice none 0 0, .bool false, .slice none 0 0] 30)) (Nat.le_refl _)).below (below1 _ (.cells #[.bool false, .slice none 0 0, .bool false, .slice none 0 0] 30)) (Nat.le_refl _)
  have R := (BoxV.made (w.alloc (.cells #[.bool g0, .slice a0 n0 c0, .bool g1, .slice a1 n1 c1] 26)) (.bool false) (.slice none 0 0) (.bool false) (.slice none 0 0) 30).below (below1 _ (.cells #[.bool false, .slice none 0 0, .bool false, .slice none 0 0] 30)) (Nat.le_refl _)
  have V := BoxV.made ((w.alloc (.cells #[.bool g0, .slice a0 n0 c0, .bool g1, .slice a1 n1 c1] 26)).alloc (.cells #[.bool false, .slice none 0 0, .bool false, .slice none 0 0] 30)) (.bool false) (.slice none 0 0) (.bool false) (.slice none 0 0) 30
  have B := below3 w (.cells #[.bool g0, .slice a0 n0 c0, .bool g1, .slice a1 n1 c1] 26) (.cells #[.bool false, .slice none 0 0, .bool false, .slice none 0 0] 30) (.cells #[.bool false, .slice none 0 0, .bool false, .slice none 0 0] 30)
  rw [s1] at R
  rw [s2] at V
  clear s1 s2
  go_enter Try.func8, Try.ntmps8
  go_wp2_with fail
  refine (T0 _ B).mono ?_
  generalize ((w.alloc (.cells #[.bool g0, .slice a0 n0 c0, .bool g1, .slice a1 n1 c1] 26)).alloc (.cells #[.bool false, .slice none 0 0, .bool false, .slice none 0 0] 30)).alloc (.cells #[.bool false, .slice none 0 0, .bool false, .slice none 0 0] 30) = w0 at *
  rintro e w1 ⟨v1, rfl, o1, b1⟩
  have hV0 := V.hi
  have hR0 := R.hi
  have X1 := X.below b1 (Nat.le_refl _)
  have R1 := R.below b1 (Nat.le_refl _)
  have V1 := V.below b1 (Nat.le_refl _)
  have B1 := B.trans (b1.mono B.size)
  obtain ⟨s1, rfl, q1⟩ := o1
  obtain ⟨ad1, cp1, rfl, -⟩ := q1.row
  have q1' : ownsI w1 w0.heap.size (.slice ad1 xs0.length cp1) xs0 := q1
  have hx1 : ¬ (w.heap.size + 1 + 1 = w.heap.size) := by omega
  have hx2 : ¬ (w.heap.size = w.heap.size + 1 + 1) := by omega
  have hx3 : ¬ (w.heap.size + 1 + 1 = w.heap.size + 1) := by omega
  have hx4 : ¬ (w.heap.size + 1 = w.heap.size + 1 + 1) := by omega
  have e0 := V1.c0
  have e1 := V1.c1
  have e4 := V1.f0
  have e5 := V1.f1
  have X2 := (X1.other (w.heap.size + 1 + 1) 0 (by omega) (.bool g0)).other (w.heap.size + 1 + 1) 1 (by omega) (.slice ad1 xs0.length cp1)
  have R2 := (R1.other (w.heap.size + 1 + 1) 0 (by omega) (.bool g0)).other (w.heap.size + 1 + 1) 1 (by omega) (.slice ad1 xs0.length cp1)
  have V2 := (V1.set0 (.bool g0)).set1 (.slice ad1 xs0.length cp1)
  have B2 := (B1.setCell (p := ⟨w.heap.size + 1 + 1, 0, none⟩) (by show w.heap.size ≤ w.heap.size + 1 + 1; omega) (.bool g0)).setCell (p := ⟨w.heap.size + 1 + 1, 1, none⟩) (by show w.heap.size ≤ w.heap.size + 1 + 1; omega) (.slice ad1 xs0.length cp1)
  have q2 := (q1'.other (w.heap.size + 1 + 1) 0 (by omega) (.bool g0)).other (w.heap.size + 1 + 1) 1 (by omega) (.slice ad1 xs0.length cp1)
  have x2 := X2.c2
  have x3 := X2.c3
  clear X R V B X1 R1 V1 b1 q1 q1' B1 T0
  go_wp2_with fail
  clear x2 x3 e0 e1 e4 e5
  refine (T1 _ B2).mono ?_
  generalize (w1.setCell ⟨w.heap.size + 1 + 1, 0, none⟩ (.bool g0)).setCell ⟨w.heap.size + 1 + 1, 1, none⟩ (.slice ad1 xs0.length cp1) = w2 at *
  rintro e w3 ⟨v3, rfl, o3, b3⟩
  have R3 := R2.below b3 (Nat.le_refl _)
  have V3 := V2.below b3 (Nat.le_refl _)
  have B3 := B2.trans (b3.mono B2.size)
  have q3 := ownsI.below q2 b3 (Nat.le_refl _)
  obtain ⟨s3, rfl, z3⟩ := o3
  obtain ⟨ad3, cp3, rfl, -⟩ := z3.row
  have z3' : ownsI w3 w2.heap.size (.slice ad3 xs1.length cp3) xs1 := z3
  have hV2 := V2.hi
  have hap : Apart (blkI (.slice ad1 xs0.length cp1)) (blkI (.slice ad3 xs1.length cp3)) := apart_of (fun k hk => (q2.ltb k hk).2) (fun k hk => (z3'.ltb k hk).1)
  have V4 := (V3.set2 (.bool g1)).set3 (.slice ad3 xs1.length cp3)
  have R4 := (R3.other (w.heap.size + 1 + 1) 2 (by omega) (.bool g1)).other (w.heap.size + 1 + 1) 3 (by omega) (.slice ad3 xs1.length cp3)
  have q4 := (q3.other (w.heap.size + 1 + 1) 2 (by omega) (.bool g1)).other (w.heap.size + 1 + 1) 3 (by omega) (.slice ad3 xs1.length cp3)
  have z4 := (z3'.other (w.heap.size + 1 + 1) 2 (by omega) (.bool g1)).other (w.heap.size + 1 + 1) 3 (by omega) (.slice ad3 xs1.length cp3)
  have B4 := (B3.setCell (p := ⟨w.heap.size + 1 + 1, 2, none⟩) (by show w.heap.size ≤ w.heap.size + 1 + 1; omega) (.bool g1)).setCell (p := ⟨w.heap.size + 1 + 1, 3, none⟩) (by show w.heap.size ≤ w.heap.size + 1 + 1; omega) (.slice ad3 xs1.length cp3)
  have e2 := V3.c2
  have e3 := V3.c3
  have e6 := V3.f2
  have e7 := V3.f3
  have y0 := V4.c0
  have y1 := V4.c1
  have y2 := V4.c2
  have y3 := V4.c3
  have r0 := R4.c0
  have r1 := R4.c1
  have r2 := R4.c2
  have r3 := R4.c3
  have t0 := R4.f0
  have t1 := R4.f1
  have t2 := R4.f2
  have t3 := R4.f3
  have HQ : Hid (ownsI _ w0.heap.size (.slice ad1 xs0.length cp1) xs0) := (((q4.other (w.heap.size + 1) 0 (by omega) (.bool g0)).other (w.heap.size + 1) 1 (by omega) (.slice ad1 xs0.length cp1)).other (w.heap.size + 1) 2 (by omega) (.bool g1)).other (w.heap.size + 1) 3 (by omega) (.slice ad3 xs1.length cp3)
  have HZ : Hid (ownsI _ w2.heap.size (.slice ad3 xs1.length cp3) xs1) := (((z4.other (w.heap.size + 1) 0 (by omega) (.bool g0)).other (w.heap.size + 1) 1 (by omega) (.slice ad1 xs0.length cp1)).other (w.heap.size + 1) 2 (by omega) (.bool g1)).other (w.heap.size + 1) 3 (by omega) (.slice ad3 xs1.length cp3)
  have HB : Hid (Below w.heap.size w _) := (((B4.setCell (p := ⟨w.heap.size + 1, 0, none⟩) (by show w.heap.size ≤ w.heap.size + 1; omega) (.bool g0)).setCell (p := ⟨w.heap.size + 1, 1, none⟩) (by show w.heap.size ≤ w.heap.size + 1; omega) (.slice ad1 xs0.length cp1)).setCell (p := ⟨w.heap.size + 1, 2, none⟩) (by show w.heap.size ≤ w.heap.size + 1; omega) (.bool g1)).setCell (p := ⟨w.heap.size + 1, 3, none⟩) (by show w.heap.size ≤ w.heap.size + 1; omega) (.slice ad3 xs1.length cp3)
  have HP : Hid (Apart (blkI (.slice ad1 xs0.length cp1)) (blkI (.slice ad3 xs1.length cp3))) := hap
  have hb0 : w.heap.size ≤ w0.heap.size := by omega
  have hb2 := B2.size
  clear V2 V3 V4 R2 R3 R4 q2 q3 q4 z3 z3' z4 B2 B3 B4 b3 hap T1
  go_wp2
  (try simp only [Exit.inBlock, Exit.then])
  refine bodyPost_ret (v := .agg #[.bool g0, .slice ad1 xs0.length cp1, .bool g1, .slice ad3 xs1.length cp3]) ?_ rfl ⟨_, rfl, ⟨_, _, rfl, ownsI_mono HQ.out hb0, ownsI_mono HZ.out hb2, HP.out⟩, HB.out⟩
  rw [results_cell1 rfl]
  go_simp

end Go.Proofs.Ytnngmkgkphkmhaa
